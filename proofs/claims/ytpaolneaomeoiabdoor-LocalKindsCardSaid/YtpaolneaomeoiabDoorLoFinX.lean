/-
  (*local.Local).End by a contract. Conditions: as LoOps'; the run is no greater than a million.
-/
import Derived.Test.YtpaolneaomeoiabDoorLoOpsX
namespace Go.Proofs.YtpaolneaomeoiabDoor
open Go.RowKit Go.Extern.Stop Go.Stop Go.Extern

section
variable {F F' : Nat → Prop} {w w' w'' : World} {b ba bg bf : Nat} {e : EntD} {E : EA} {s : Option NSt} {n : NSt}
def lendK (n : NSt) (b : Nat) : Nat → Value → Prop
  | 0 => fun v => v = .pointer (some ⟨b, 0, none⟩)
  | 1 => fun v => v = .pointer (some ⟨b, 0, none⟩)
  | 2 => fun v => v = .pointer (some ⟨b, 0, none⟩)
  | 3 => fun v => v = .pointer (some ⟨b, 0, none⟩)
  | 4 => fun v => v = .pointer (some ⟨b, 0, none⟩)
  | 5 => fun v => v = .pointer (some ⟨b, 14, none⟩)
  | 6 => fun v => v = .bool n.whole
  | 7 => fun v => v = .int .i64 n.kind
  | 8 => fun v => v = .int .i64 n.kind
  | _ => fun _ => True
/-- The watches ahead of the call, behind it. -/
def zIf (s : WSt) (d : Bool) : WSt := if d then s.zero else s
/-- What is behind the call. -/
theorem LoAt.put {n' : NSt} {W : World} (h : LoAt F w b e E (some n)) (hT : WatTo F w W b ba bg bf e n'.w (loRow (.pointer (some ⟨ba, 0, none⟩)) (.pointer (some ⟨bg, 0, none⟩)) (.pointer (some ⟨bf, 0, none⟩)) e E true n.whole (n.run : Int) n.ex)) (W2 : World) (hg : W.grownBy W2 (some b)) (hrow : W2.heap[b]? = some (.cells (loRow (.pointer (some ⟨ba, 0, none⟩)) (.pointer (some ⟨bg, 0, none⟩)) (.pointer (some ⟨bf, 0, none⟩)) e E true n'.whole (n'.run : Int) n'.ex) 78 (0, 0))) : LoAt F W2 b e E (some n') ∧ FrL F w W2 := by
  have hf2 : FrL F W W2 := FrL.put hg hT.row (Or.inl rfl) h.fb
  have hff := hT.fr.trans hf2 (fun _ _ x => x)
  refine ⟨⟨h.parts.fr hff, h.fb, ba, bg, bf, hrow, ?_⟩, hff⟩
  obtain ⟨sa, cap, h1, h2⟩ := hT.wat.ga
  obtain ⟨m, nn, D, fv, lv, h3, h4, h5, h6, h7⟩ := hT.wat.fl
  have hoff : ∀ k, (∀ c T fr, W.heap[k]? = some (.cells c T fr) → T ≠ 78 ) → k < W.heap.size → W2.heap[k]? = W.heap[k]? := fun k hk hlt => hg.block k hlt (fun e1 => by cases e1; exact hk _ _ _ hT.row rfl)
  have hty : ∀ {k : Nat} {c : Array Value} {T : TypeId} {fr : Nat × Nat}, W.heap[k]? = some (.cells c T fr) → T ≠ 78 → W2.heap[k]? = W.heap[k]? := fun hk hT2 => hoff _ (fun c' T' fr' h' => by rw [hk] at h'; simp only [Option.some.injEq, Obj.cells.injEq] at h'; rw [← h'.2.1]; exact hT2) (lt_of_row hk)
  refine ⟨hT.wat.al.same (hty hT.wat.al.heap (by decide)), hT.wat.fa, ⟨sa, cap, h1.same (fun k hk => ?_), h2⟩, ⟨m, nn, D, fv, lv, h3.same (hty h3.heap (by decide)) ?_ (fun g hg => ?_) (fun g hg => ?_), h4, h5, h6, h7⟩, hT.wat.gl⟩
  · obtain ⟨c, T, fr, h8, h9⟩ := gs_ty h1 hk
    exact hty h8 (by rcases h9 with rfl | rfl <;> decide)
  · refine hoff m (fun c T fr hc => ?_) (map_lt h3)
    obtain ⟨es, c', hm0, rest⟩ := h3.own
    rw [hm0] at hc
    cases hc
  · obtain ⟨c', fr', h8⟩ := own_ty h3.hf hg
    exact hty h8 (by decide)
  · obtain ⟨c', fr', h8⟩ := own_ty h3.hl hg
    exact hty h8 (by decide)
set_option maxHeartbeats 1000000 in
theorem lo_end_idle (h : LoAt F w b e E none) :
    Calls Tryd.prog 20 #[.pointer (some ⟨b, 0, none⟩)] w fun v w' => v = .returned (.tuple #[.int .i64 0, .bool false]) ∧ w' = w := by
  have hr : w.heap[b]? = some (.cells (loRow (.pointer none) (.pointer none) (.pointer none) e E false false 0 false) 78 (0, 0)) := h.row
  have c13 : w.cell? ⟨b, 13, none⟩ = some (.bool false) := by simp [World.cell?, hr, loRow]
  clear h hr
  go_enter Tryd.func20, Tryd.ntmps20
  go_wp2
  go_ret2
  exact ⟨rfl, rfl⟩
set_option maxHeartbeats 4000000 in
set_option maxRecDepth 100000 in
theorem lo_end (h : LoAt F w b e E (some n)) (hn : n.run ≤ 1000000) :
    Calls Tryd.prog 20 #[.pointer (some ⟨b, 0, none⟩)] w fun v w' => v = .returned (.tuple #[.int .i64 n.kind, .bool (n.turns e)]) ∧ LoAt F w' b e E (some (n.fin e)) ∧ FrL F w w' := by
  have H : Hid (LoAt F w b e E (some n)) := h
  have HN : Hid (n.run ≤ 1000000) := hn
  obtain ⟨ba, bg, bf, hr, hw⟩ := h.row
  have HWt : Hid (WatTo F w w b ba bg bf e n.w (loRow (.pointer (some ⟨ba, 0, none⟩)) (.pointer (some ⟨bg, 0, none⟩)) (.pointer (some ⟨bf, 0, none⟩)) e E true n.whole (n.run : Int) n.ex)) := ⟨hw, hr, FrL.refl _ _⟩
  have c13 : w.cell? ⟨b, 13, none⟩ = some (.bool true) := by simp [World.cell?, hr, loRow]
  clear h hr hw hn
  go_enter Tryd.func20, Tryd.ntmps20
  go_wp2_with fail
  clear c13
  refine region_spec2 9 rfl (fun j v _ => lendK n b j v) (fun done V => WatTo F w V b ba bg bf e (zIf n.w (done 7)) (loRow (.pointer (some ⟨ba, 0, none⟩)) (.pointer (some ⟨bg, 0, none⟩)) (.pointer (some ⟨bf, 0, none⟩)) e E true n.whole (n.run : Int) n.ex)) (by kernel_rfl) (by kernel_rfl) ⟨HWt.out.wat.same (fun _ _ => rfl), HWt.out.row, FrL.below (Below.refl _ _).drew⟩ ?_ ?_
  · intro i o ho
    match i, ho with
    | 0, ho =>
      obtain rfl := Option.some.inj ho
      refine StepOk2.free rfl ?_
      intro done a V hC hdn hdo hdep hoth
      have x0 : a.tmps[0]?.getD undef = .pointer (some ⟨b, 0, none⟩) := slot_of (hoth 0 (notDst (by kernel_rfl)))
      exact goodRun2.val (c := .pointer (some ⟨b, 0, none⟩)) (by clear hdep hoth hdo hC; go_simp) (by rw [mark_other done (show 7 ≠ 0 by decide)]; exact hC) rfl
    | 1, ho =>
      obtain rfl := Option.some.inj ho
      refine StepOk2.free rfl ?_
      intro done a V hC hdn hdo hdep hoth
      have x9 : a.tmps[9]?.getD undef = .pointer (some ⟨b, 0, none⟩) := slot_of (hdep _ 9 (Array.mem_of_getElem? (i := 0) rfl) rfl rfl)
      exact goodRun2.val (c := .pointer (some ⟨b, 0, none⟩)) (by clear hdep hoth hdo hC; go_simp) (by rw [mark_other done (show 7 ≠ 1 by decide)]; exact hC) rfl
    | 2, ho =>
      obtain rfl := Option.some.inj ho
      refine StepOk2.free rfl ?_
      intro done a V hC hdn hdo hdep hoth
      have x10 : a.tmps[10]?.getD undef = .pointer (some ⟨b, 0, none⟩) := slot_of (hdep _ 10 (Array.mem_of_getElem? (i := 0) rfl) rfl rfl)
      exact goodRun2.val (c := .pointer (some ⟨b, 0, none⟩)) (by clear hdep hoth hdo hC; go_simp) (by rw [mark_other done (show 7 ≠ 2 by decide)]; exact hC) rfl
    | 3, ho =>
      obtain rfl := Option.some.inj ho
      refine StepOk2.free rfl ?_
      intro done a V hC hdn hdo hdep hoth
      have x0 : a.tmps[0]?.getD undef = .pointer (some ⟨b, 0, none⟩) := slot_of (hoth 0 (notDst (by kernel_rfl)))
      exact goodRun2.val (c := .pointer (some ⟨b, 0, none⟩)) (by clear hdep hoth hdo hC; go_simp) (by rw [mark_other done (show 7 ≠ 3 by decide)]; exact hC) rfl
    | 4, ho =>
      obtain rfl := Option.some.inj ho
      refine StepOk2.free rfl ?_
      intro done a V hC hdn hdo hdep hoth
      have x12 : a.tmps[12]?.getD undef = .pointer (some ⟨b, 0, none⟩) := slot_of (hdep _ 12 (Array.mem_of_getElem? (i := 0) rfl) rfl rfl)
      exact goodRun2.val (c := .pointer (some ⟨b, 0, none⟩)) (by clear hdep hoth hdo hC; go_simp) (by rw [mark_other done (show 7 ≠ 4 by decide)]; exact hC) rfl
    | 5, ho =>
      obtain rfl := Option.some.inj ho
      refine StepOk2.free rfl ?_
      intro done a V hC hdn hdo hdep hoth
      have x13 : a.tmps[13]?.getD undef = .pointer (some ⟨b, 0, none⟩) := slot_of (hdep _ 13 (Array.mem_of_getElem? (i := 0) rfl) rfl rfl)
      exact goodRun2.val (c := .pointer (some ⟨b, 14, none⟩)) (by clear hdep hoth hdo hC; go_simp) (by rw [mark_other done (show 7 ≠ 5 by decide)]; exact hC) rfl
    | 6, ho =>
      obtain rfl := Option.some.inj ho
      refine StepOk2.free rfl ?_
      intro done a V hC hdn hdo hdep hoth
      have x14 : a.tmps[14]?.getD undef = .pointer (some ⟨b, 14, none⟩) := slot_of (hdep _ 14 (Array.mem_of_getElem? (i := 0) rfl) rfl rfl)
      have c14 : V.cell? ⟨b, 14, none⟩ = some (.bool n.whole) := by simp [World.cell?, hC.row, loRow]
      exact goodRun2.val (c := .bool n.whole) (by clear hdep hoth hdo hC; go_simp) (by rw [mark_other done (show 7 ≠ 6 by decide)]; exact hC) rfl
    | 7, ho =>
      obtain rfl := Option.some.inj ho
      refine StepOk2.free rfl ?_
      intro done a V hC hdn hdo hdep hoth
      have x11 : a.tmps[11]?.getD undef = .pointer (some ⟨b, 0, none⟩) := slot_of (hdep _ 11 (Array.mem_of_getElem? (i := 0) rfl) rfl rfl)
      have x15 : a.tmps[15]?.getD undef = .bool n.whole := slot_of (hdep _ 15 (Array.mem_of_getElem? (i := 1) rfl) rfl rfl)
      refine goodRun2.call (f := 36) (args := #[.pointer (some ⟨b, 0, none⟩), .bool n.whole]) (by clear hdep hoth hdo hC; go_simp) ?_
      rw [hdn] at hC
      refine (watch_end n.whole _ hC.wat hC.row rfl rfl rfl).mono ?_
      rintro v w1 ⟨rfl, hto⟩
      refine ⟨_, rfl, ?_, fun _ _ _ h => h, rfl⟩
      rw [mark_same]
      exact ⟨hto.wat, hto.row, hC.fr.trans hto.fr (fun _ _ x => x)⟩
    | 8, ho =>
      obtain rfl := Option.some.inj ho
      refine StepOk2.free rfl ?_
      intro done a V hC hdn hdo hdep hoth
      have x16 : a.tmps[16]?.getD undef = .int .i64 n.kind := slot_of (hdep _ 16 (Array.mem_of_getElem? (i := 0) rfl) rfl rfl)
      exact goodRun2.val (c := .int .i64 n.kind) (by clear hdep hoth hdo hC; go_simp) (by rw [mark_other done (show 7 ≠ 8 by decide)]; exact hC) rfl
    | n + 9, ho => simp at ho
  · intro vals V hC hS
    have HC : Hid (WatTo F w V b ba bg bf e n.w.zero (loRow (.pointer (some ⟨ba, 0, none⟩)) (.pointer (some ⟨bg, 0, none⟩)) (.pointer (some ⟨bf, 0, none⟩)) e E true n.whole (n.run : Int) n.ex)) := hC
    have v8 : vals 8 = .int .i64 n.kind := hS 8 (by decide)
    have hr := HC.out.row
    have c14 : V.cell? ⟨b, 14, none⟩ = some (.bool n.whole) := by simp [World.cell?, hr, loRow]
    have c15 : V.cell? ⟨b, 15, none⟩ = some (.int .i64 (n.run : Int)) := by simp [World.cell?, hr, loRow]
    have c16 : V.cell? ⟨b, 16, none⟩ = some (.bool n.ex) := by simp [World.cell?, hr, loRow]
    have c4 : V.cell? ⟨b, 4, none⟩ = some (.int .i64 e.tol) := by simp [World.cell?, hr, loRow]
    have q : ∀ i, V.frozen? ⟨b, i, none⟩ = false := fun i => by simp [World.frozen?, hr]
    clear hC hS HWt hr
    simp only [fill, dstOf]
    go_simp
    by_cases hk : n.kind = 0
    · have HF : Hid (n.fin e = ⟨n.w.zero, true, 0, n.ex⟩ ∧ n.turns e = false ∧ n.kind = 0) := by
        show _ ∧ _ ∧ _
        refine ⟨?_, ?_, hk⟩
        · unfold NSt.fin NSt.run1 NSt.turns
          simp [hk]
        · unfold NSt.turns
          simp [hk]
      go_wp2
      go_ret2
      have hg : V.grownBy ((V.setCell ⟨b, 14, none⟩ (.bool true)).setCell ⟨b, 15, none⟩ (.int .i64 0)) (some b) := (grown_setCell _ _ _ _).trans (grown_setCell _ _ _ _)
      refine ⟨by rw [HF.out.2.1, HF.out.2.2]; rfl, ?_⟩
      rw [HF.out.1]
      refine H.out.put (n' := ⟨n.w.zero, true, 0, n.ex⟩) HC.out _ hg ?_
      have := HC.out.row
      simp [World.setCell, Array.getElem?_modify, this, loRow]
    · have HF : Hid (n.fin e = ⟨n.w.zero, true, n.run + 1, n.ex || (!n.ex && decide (e.tol < ((n.run : Int) + 1)))⟩ ∧ n.turns e = (!n.ex && decide (e.tol < ((n.run : Int) + 1)))) := by
        show _ ∧ _
        refine ⟨?_, ?_⟩
        · unfold NSt.fin NSt.run1 NSt.turns
          simp [hk]
        · unfold NSt.turns
          simp [hk]
      have hn2 : (n.run : Int) ≤ 1000000 := by have := HN.out; omega
      have HR : Hid (V.heap[b]? = some (.cells (loRow (.pointer (some ⟨ba, 0, none⟩)) (.pointer (some ⟨bg, 0, none⟩)) (.pointer (some ⟨bf, 0, none⟩)) e E true n.whole (n.run : Int) n.ex) 78 (0, 0))) := HC.out.row
      go_wp2_with fail
      obtain ⟨V2, hV2⟩ : ∃ W, W = (V.setCell ⟨b, 14, none⟩ (.bool true)).setCell ⟨b, 15, none⟩ (.int .i64 ((n.run : Int) + 1)) := ⟨_, rfl⟩
      rw [← hV2]
      have hg2 : V.grownBy V2 (some b) := by rw [hV2]; exact (grown_setCell _ _ _ _).trans (grown_setCell _ _ _ _)
      have HG2 : Hid (V.grownBy V2 (some b)) := hg2
      have hr2 : V2.heap[b]? = some (.cells (loRow (.pointer (some ⟨ba, 0, none⟩)) (.pointer (some ⟨bg, 0, none⟩)) (.pointer (some ⟨bf, 0, none⟩)) e E true true ((n.run : Int) + 1) n.ex) 78 (0, 0)) := by
        have := HR.out
        rw [hV2]
        simp [World.setCell, Array.getElem?_modify, this, loRow]
      have HR2 : Hid (V2.heap[b]? = some (.cells (loRow (.pointer (some ⟨ba, 0, none⟩)) (.pointer (some ⟨bg, 0, none⟩)) (.pointer (some ⟨bf, 0, none⟩)) e E true true ((n.run : Int) + 1) n.ex) 78 (0, 0))) := hr2
      have e4 : V2.cell? ⟨b, 4, none⟩ = some (.int .i64 e.tol) := by simp [World.cell?, hr2, loRow]
      have e15 : V2.cell? ⟨b, 15, none⟩ = some (.int .i64 ((n.run : Int) + 1)) := by simp [World.cell?, hr2, loRow]
      have e16 : V2.cell? ⟨b, 16, none⟩ = some (.bool n.ex) := by simp [World.cell?, hr2, loRow]
      have q2 : ∀ i, V2.frozen? ⟨b, i, none⟩ = false := fun i => by simp [World.frozen?, hr2]
      have HZ : Hid (∀ q (x : Bool), x = (n.ex || (!n.ex && decide (e.tol < ((n.run : Int) + 1)))) → LoAt F ((V2.drewN q).setCell ⟨b, 16, none⟩ (.bool x)) b e E (some (n.fin e)) ∧ FrL F w ((V2.drewN q).setCell ⟨b, 16, none⟩ (.bool x))) := fun q x hx => by
        have hg3 : V.grownBy ((V2.drewN q).setCell ⟨b, 16, none⟩ (.bool x)) (some b) := (HG2.out.trans (gr_drewN _ _ _)).trans (grown_setCell _ _ _ _)
        rw [HF.out.1, ← hx]
        refine H.out.put (n' := ⟨n.w.zero, true, n.run + 1, x⟩) HC.out _ hg3 ?_
        have h3 := HR2.out
        simp [World.setCell, Array.getElem?_modify, h3, loRow]
      clear hV2 hg2 hr2 HR HC c4 c14 c15 c16 q hk v8
      have HT : Hid _ := HF.out.2
      clear HF
      cases q1 : n.ex
      · rw [q1] at e16 HT HZ
        by_cases q3 : e.tol < ((n.run : Int) + 1)
        · have HD : Hid (decide (e.tol < ((n.run : Int) + 1)) = true) := decide_eq_true q3
          go_quiet (fail)
          go_wp2
          go_ret2
          exact ⟨by rw [HT.out, HD.out]; rfl, HZ.out _ _ (by rw [HD.out]; rfl)⟩
        · have HD : Hid (decide (e.tol < ((n.run : Int) + 1)) = false) := decide_eq_false q3
          go_quiet (fail)
          go_wp2
          go_ret2
          exact ⟨by rw [HT.out, HD.out]; rfl, HZ.out _ _ (by rw [HD.out]; rfl)⟩
      · rw [q1] at e16 HT HZ
        go_quiet (fail)
        go_wp2
        go_ret2
        exact ⟨by rw [HT.out]; rfl, HZ.out _ _ rfl⟩
end
end Go.Proofs.YtpaolneaomeoiabDoor
