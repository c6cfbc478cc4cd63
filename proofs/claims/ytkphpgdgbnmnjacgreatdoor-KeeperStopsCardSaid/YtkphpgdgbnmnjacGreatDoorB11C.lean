/-
  Several texts as one: LoFin, CellsSt, Four, CellsOps.
-/
import Derived.Test.YtkphpgdgbnmnjacGreatDoorB10C
import Derived.Test.YtkphpgdgbnmnjacGreatDoorB01C
import Derived.BigQuiet
import Derived.Deep.QuietTactic
import Derived.WalkSmall
namespace Go.Proofs.YtkphpgdgbnmnjacGreatDoor
open Go.RowKit Go.Extern.Stop Go.Stop Go.Extern

section
variable {F F' : Nat → Prop} {w w' w'' : World} {b ba bg bf : Nat} {e : EntD} {E : EA} {s : Option NSt} {n : NSt}
def lendK (n : NSt) (b : Nat) : Nat → Value → Prop
  | 0 => fun v => v = .pointer (some ⟨b, 0, none⟩)
  | 1 => fun v => v = .pointer (some ⟨b, 0, none⟩)
  | 2 => fun v => v = .pointer (some ⟨b, 0, none⟩)
  | 3 => fun v => v = .pointer (some ⟨b, 0, none⟩)
  | 4 => fun v => v = .pointer (some ⟨b, 0, none⟩)
  | 5 => fun v => v = .pointer (some ⟨b, 14, none⟩)
  | 6 => fun v => v = .bool n.whole
  | 7 => fun v => v = .int .i64 n.kind
  | 8 => fun v => v = .int .i64 n.kind
  | _ => fun _ => True
/-- The watches ahead of the call, behind it. -/
def zIf (s : WSt) (d : Bool) : WSt := if d then s.zero else s
/-- What is behind the call. -/
theorem LoAt.put {n' : NSt} {W : World} (h : LoAt F w b e E (some n)) (hT : WatTo F w W b ba bg bf e n'.w (loRow (.pointer (some ⟨ba, 0, none⟩)) (.pointer (some ⟨bg, 0, none⟩)) (.pointer (some ⟨bf, 0, none⟩)) e E true n.whole (n.run : Int) n.ex)) (W2 : World) (hg : W.grownBy W2 (some b)) (hrow : W2.heap[b]? = some (.cells (loRow (.pointer (some ⟨ba, 0, none⟩)) (.pointer (some ⟨bg, 0, none⟩)) (.pointer (some ⟨bf, 0, none⟩)) e E true n'.whole (n'.run : Int) n'.ex) 147 (0, 0))) : LoAt F W2 b e E (some n') ∧ FrL F w W2 := by
  have hf2 : FrL F W W2 := FrL.put hg hT.row (Or.inl rfl) h.fb
  have hff := hT.fr.trans hf2 (fun _ _ x => x)
  refine ⟨⟨h.parts.fr hff, h.fb, ba, bg, bf, hrow, ?_⟩, hff⟩
  obtain ⟨sa, cap, h1, h2⟩ := hT.wat.ga
  obtain ⟨m, nn, D, fv, lv, h3, h4, h5, h6, h7⟩ := hT.wat.fl
  have hoff : ∀ k, (∀ c T fr, W.heap[k]? = some (.cells c T fr) → T ≠ 147 ) → k < W.heap.size → W2.heap[k]? = W.heap[k]? := fun k hk hlt => hg.block k hlt (fun e1 => by cases e1; exact hk _ _ _ hT.row rfl)
  have hty : ∀ {k : Nat} {c : Array Value} {T : TypeId} {fr : Nat × Nat}, W.heap[k]? = some (.cells c T fr) → T ≠ 147 → W2.heap[k]? = W.heap[k]? := fun hk hT2 => hoff _ (fun c' T' fr' h' => by rw [hk] at h'; simp only [Option.some.injEq, Obj.cells.injEq] at h'; rw [← h'.2.1]; exact hT2) (lt_of_row hk)
  refine ⟨hT.wat.al.same (hty hT.wat.al.heap (by decide)), hT.wat.fa, ⟨sa, cap, h1.same (fun k hk => ?_), h2⟩, ⟨m, nn, D, fv, lv, h3.same (hty h3.heap (by decide)) ?_ (fun g hg => ?_) (fun g hg => ?_), h4, h5, h6, h7⟩, hT.wat.gl⟩
  · obtain ⟨c, T, fr, h8, h9⟩ := gs_ty h1 hk
    exact hty h8 (by rcases h9 with rfl | rfl <;> decide)
  · refine hoff m (fun c T fr hc => ?_) (map_lt h3)
    obtain ⟨es, c', hm0, rest⟩ := h3.own
    rw [hm0] at hc
    cases hc
  · obtain ⟨c', fr', h8⟩ := own_ty h3.hf hg
    exact hty h8 (by decide)
  · obtain ⟨c', fr', h8⟩ := own_ty h3.hl hg
    exact hty h8 (by decide)
set_option maxHeartbeats 1000000 in
theorem lo_end_idle (h : LoAt F w b e E none) :
    Calls Tryz.prog 117 #[.pointer (some ⟨b, 0, none⟩)] w fun v w' => v = .returned (.tuple #[.int .i64 0, .bool false]) ∧ w' = w := by
  have hr : w.heap[b]? = some (.cells (loRow (.pointer none) (.pointer none) (.pointer none) e E false false 0 false) 147 (0, 0)) := h.row
  have c13 : w.cell? ⟨b, 13, none⟩ = some (.bool false) := by simp [World.cell?, hr, loRow]
  clear h hr
  go_enter Tryz.func117, Tryz.ntmps117
  go_wp2
  go_ret2
  exact ⟨rfl, rfl⟩
set_option maxHeartbeats 4000000 in
set_option maxRecDepth 100000 in
theorem lo_end (h : LoAt F w b e E (some n)) (hn : n.run ≤ 1000000) :
    Calls Tryz.prog 117 #[.pointer (some ⟨b, 0, none⟩)] w fun v w' => v = .returned (.tuple #[.int .i64 n.kind, .bool (n.turns e)]) ∧ LoAt F w' b e E (some (n.fin e)) ∧ FrL F w w' := by
  have H : Hid (LoAt F w b e E (some n)) := h
  have HN : Hid (n.run ≤ 1000000) := hn
  obtain ⟨ba, bg, bf, hr, hw⟩ := h.row
  have HWt : Hid (WatTo F w w b ba bg bf e n.w (loRow (.pointer (some ⟨ba, 0, none⟩)) (.pointer (some ⟨bg, 0, none⟩)) (.pointer (some ⟨bf, 0, none⟩)) e E true n.whole (n.run : Int) n.ex)) := ⟨hw, hr, FrL.refl _ _⟩
  have c13 : w.cell? ⟨b, 13, none⟩ = some (.bool true) := by simp [World.cell?, hr, loRow]
  clear h hr hw hn
  go_enter Tryz.func117, Tryz.ntmps117
  go_wp2_with fail
  clear c13
  refine region_spec2 9 rfl (fun j v _ => lendK n b j v) (fun done V => WatTo F w V b ba bg bf e (zIf n.w (done 7)) (loRow (.pointer (some ⟨ba, 0, none⟩)) (.pointer (some ⟨bg, 0, none⟩)) (.pointer (some ⟨bf, 0, none⟩)) e E true n.whole (n.run : Int) n.ex)) (by kernel_rfl) (by kernel_rfl) ⟨HWt.out.wat.same (fun _ _ => rfl), HWt.out.row, FrL.below (Below.refl _ _).drew⟩ ?_ ?_
  · intro i o ho
    match i, ho with
    | 0, ho =>
      obtain rfl := Option.some.inj ho
      refine StepOk2.free rfl ?_
      intro done a V hC hdn hdo hdep hoth
      have x0 : a.tmps[0]?.getD undef = .pointer (some ⟨b, 0, none⟩) := slot_of (hoth 0 (notDst (by kernel_rfl)))
      exact goodRun2.val (c := .pointer (some ⟨b, 0, none⟩)) (by clear hdep hoth hdo hC; go_simp) (by rw [mark_other done (show 7 ≠ 0 by decide)]; exact hC) rfl
    | 1, ho =>
      obtain rfl := Option.some.inj ho
      refine StepOk2.free rfl ?_
      intro done a V hC hdn hdo hdep hoth
      have x9 : a.tmps[9]?.getD undef = .pointer (some ⟨b, 0, none⟩) := slot_of (hdep _ 9 (Array.mem_of_getElem? (i := 0) rfl) rfl rfl)
      exact goodRun2.val (c := .pointer (some ⟨b, 0, none⟩)) (by clear hdep hoth hdo hC; go_simp) (by rw [mark_other done (show 7 ≠ 1 by decide)]; exact hC) rfl
    | 2, ho =>
      obtain rfl := Option.some.inj ho
      refine StepOk2.free rfl ?_
      intro done a V hC hdn hdo hdep hoth
      have x10 : a.tmps[10]?.getD undef = .pointer (some ⟨b, 0, none⟩) := slot_of (hdep _ 10 (Array.mem_of_getElem? (i := 0) rfl) rfl rfl)
      exact goodRun2.val (c := .pointer (some ⟨b, 0, none⟩)) (by clear hdep hoth hdo hC; go_simp) (by rw [mark_other done (show 7 ≠ 2 by decide)]; exact hC) rfl
    | 3, ho =>
      obtain rfl := Option.some.inj ho
      refine StepOk2.free rfl ?_
      intro done a V hC hdn hdo hdep hoth
      have x0 : a.tmps[0]?.getD undef = .pointer (some ⟨b, 0, none⟩) := slot_of (hoth 0 (notDst (by kernel_rfl)))
      exact goodRun2.val (c := .pointer (some ⟨b, 0, none⟩)) (by clear hdep hoth hdo hC; go_simp) (by rw [mark_other done (show 7 ≠ 3 by decide)]; exact hC) rfl
    | 4, ho =>
      obtain rfl := Option.some.inj ho
      refine StepOk2.free rfl ?_
      intro done a V hC hdn hdo hdep hoth
      have x12 : a.tmps[12]?.getD undef = .pointer (some ⟨b, 0, none⟩) := slot_of (hdep _ 12 (Array.mem_of_getElem? (i := 0) rfl) rfl rfl)
      exact goodRun2.val (c := .pointer (some ⟨b, 0, none⟩)) (by clear hdep hoth hdo hC; go_simp) (by rw [mark_other done (show 7 ≠ 4 by decide)]; exact hC) rfl
    | 5, ho =>
      obtain rfl := Option.some.inj ho
      refine StepOk2.free rfl ?_
      intro done a V hC hdn hdo hdep hoth
      have x13 : a.tmps[13]?.getD undef = .pointer (some ⟨b, 0, none⟩) := slot_of (hdep _ 13 (Array.mem_of_getElem? (i := 0) rfl) rfl rfl)
      exact goodRun2.val (c := .pointer (some ⟨b, 14, none⟩)) (by clear hdep hoth hdo hC; go_simp) (by rw [mark_other done (show 7 ≠ 5 by decide)]; exact hC) rfl
    | 6, ho =>
      obtain rfl := Option.some.inj ho
      refine StepOk2.free rfl ?_
      intro done a V hC hdn hdo hdep hoth
      have x14 : a.tmps[14]?.getD undef = .pointer (some ⟨b, 14, none⟩) := slot_of (hdep _ 14 (Array.mem_of_getElem? (i := 0) rfl) rfl rfl)
      have c14 : V.cell? ⟨b, 14, none⟩ = some (.bool n.whole) := by simp [World.cell?, hC.row, loRow]
      exact goodRun2.val (c := .bool n.whole) (by clear hdep hoth hdo hC; go_simp) (by rw [mark_other done (show 7 ≠ 6 by decide)]; exact hC) rfl
    | 7, ho =>
      obtain rfl := Option.some.inj ho
      refine StepOk2.free rfl ?_
      intro done a V hC hdn hdo hdep hoth
      have x11 : a.tmps[11]?.getD undef = .pointer (some ⟨b, 0, none⟩) := slot_of (hdep _ 11 (Array.mem_of_getElem? (i := 0) rfl) rfl rfl)
      have x15 : a.tmps[15]?.getD undef = .bool n.whole := slot_of (hdep _ 15 (Array.mem_of_getElem? (i := 1) rfl) rfl rfl)
      refine goodRun2.call (f := 160) (args := #[.pointer (some ⟨b, 0, none⟩), .bool n.whole]) (by clear hdep hoth hdo hC; go_simp) ?_
      rw [hdn] at hC
      refine (watch_end n.whole _ hC.wat hC.row rfl rfl rfl).mono ?_
      rintro v w1 ⟨rfl, hto⟩
      refine ⟨_, rfl, ?_, fun _ _ _ h => h, rfl⟩
      rw [mark_same]
      exact ⟨hto.wat, hto.row, hC.fr.trans hto.fr (fun _ _ x => x)⟩
    | 8, ho =>
      obtain rfl := Option.some.inj ho
      refine StepOk2.free rfl ?_
      intro done a V hC hdn hdo hdep hoth
      have x16 : a.tmps[16]?.getD undef = .int .i64 n.kind := slot_of (hdep _ 16 (Array.mem_of_getElem? (i := 0) rfl) rfl rfl)
      exact goodRun2.val (c := .int .i64 n.kind) (by clear hdep hoth hdo hC; go_simp) (by rw [mark_other done (show 7 ≠ 8 by decide)]; exact hC) rfl
    | n + 9, ho => simp at ho
  · intro vals V hC hS
    have HC : Hid (WatTo F w V b ba bg bf e n.w.zero (loRow (.pointer (some ⟨ba, 0, none⟩)) (.pointer (some ⟨bg, 0, none⟩)) (.pointer (some ⟨bf, 0, none⟩)) e E true n.whole (n.run : Int) n.ex)) := hC
    have v8 : vals 8 = .int .i64 n.kind := hS 8 (by decide)
    have hr := HC.out.row
    have c14 : V.cell? ⟨b, 14, none⟩ = some (.bool n.whole) := by simp [World.cell?, hr, loRow]
    have c15 : V.cell? ⟨b, 15, none⟩ = some (.int .i64 (n.run : Int)) := by simp [World.cell?, hr, loRow]
    have c16 : V.cell? ⟨b, 16, none⟩ = some (.bool n.ex) := by simp [World.cell?, hr, loRow]
    have c4 : V.cell? ⟨b, 4, none⟩ = some (.int .i64 e.tol) := by simp [World.cell?, hr, loRow]
    have q : ∀ i, V.frozen? ⟨b, i, none⟩ = false := fun i => by simp [World.frozen?, hr]
    clear hC hS HWt hr
    simp only [fill, dstOf]
    go_simp
    by_cases hk : n.kind = 0
    · have HF : Hid (n.fin e = ⟨n.w.zero, true, 0, n.ex⟩ ∧ n.turns e = false ∧ n.kind = 0) := by
        show _ ∧ _ ∧ _
        refine ⟨?_, ?_, hk⟩
        · unfold NSt.fin NSt.run1 NSt.turns
          simp [hk]
        · unfold NSt.turns
          simp [hk]
      go_wp2
      go_ret2
      have hg : V.grownBy ((V.setCell ⟨b, 14, none⟩ (.bool true)).setCell ⟨b, 15, none⟩ (.int .i64 0)) (some b) := (grown_setCell _ _ _ _).trans (grown_setCell _ _ _ _)
      refine ⟨by rw [HF.out.2.1, HF.out.2.2]; rfl, ?_⟩
      rw [HF.out.1]
      refine H.out.put (n' := ⟨n.w.zero, true, 0, n.ex⟩) HC.out _ hg ?_
      have := HC.out.row
      simp [World.setCell, Array.getElem?_modify, this, loRow]
    · have HF : Hid (n.fin e = ⟨n.w.zero, true, n.run + 1, n.ex || (!n.ex && decide (e.tol < ((n.run : Int) + 1)))⟩ ∧ n.turns e = (!n.ex && decide (e.tol < ((n.run : Int) + 1)))) := by
        show _ ∧ _
        refine ⟨?_, ?_⟩
        · unfold NSt.fin NSt.run1 NSt.turns
          simp [hk]
        · unfold NSt.turns
          simp [hk]
      have hn2 : (n.run : Int) ≤ 1000000 := by have := HN.out; omega
      have HR : Hid (V.heap[b]? = some (.cells (loRow (.pointer (some ⟨ba, 0, none⟩)) (.pointer (some ⟨bg, 0, none⟩)) (.pointer (some ⟨bf, 0, none⟩)) e E true n.whole (n.run : Int) n.ex) 147 (0, 0))) := HC.out.row
      go_wp2_with fail
      obtain ⟨V2, hV2⟩ : ∃ W, W = (V.setCell ⟨b, 14, none⟩ (.bool true)).setCell ⟨b, 15, none⟩ (.int .i64 ((n.run : Int) + 1)) := ⟨_, rfl⟩
      rw [← hV2]
      have hg2 : V.grownBy V2 (some b) := by rw [hV2]; exact (grown_setCell _ _ _ _).trans (grown_setCell _ _ _ _)
      have HG2 : Hid (V.grownBy V2 (some b)) := hg2
      have hr2 : V2.heap[b]? = some (.cells (loRow (.pointer (some ⟨ba, 0, none⟩)) (.pointer (some ⟨bg, 0, none⟩)) (.pointer (some ⟨bf, 0, none⟩)) e E true true ((n.run : Int) + 1) n.ex) 147 (0, 0)) := by
        have := HR.out
        rw [hV2]
        simp [World.setCell, Array.getElem?_modify, this, loRow]
      have HR2 : Hid (V2.heap[b]? = some (.cells (loRow (.pointer (some ⟨ba, 0, none⟩)) (.pointer (some ⟨bg, 0, none⟩)) (.pointer (some ⟨bf, 0, none⟩)) e E true true ((n.run : Int) + 1) n.ex) 147 (0, 0))) := hr2
      have e4 : V2.cell? ⟨b, 4, none⟩ = some (.int .i64 e.tol) := by simp [World.cell?, hr2, loRow]
      have e15 : V2.cell? ⟨b, 15, none⟩ = some (.int .i64 ((n.run : Int) + 1)) := by simp [World.cell?, hr2, loRow]
      have e16 : V2.cell? ⟨b, 16, none⟩ = some (.bool n.ex) := by simp [World.cell?, hr2, loRow]
      have q2 : ∀ i, V2.frozen? ⟨b, i, none⟩ = false := fun i => by simp [World.frozen?, hr2]
      have HZ : Hid (∀ q (x : Bool), x = (n.ex || (!n.ex && decide (e.tol < ((n.run : Int) + 1)))) → LoAt F ((V2.drewN q).setCell ⟨b, 16, none⟩ (.bool x)) b e E (some (n.fin e)) ∧ FrL F w ((V2.drewN q).setCell ⟨b, 16, none⟩ (.bool x))) := fun q x hx => by
        have hg3 : V.grownBy ((V2.drewN q).setCell ⟨b, 16, none⟩ (.bool x)) (some b) := (HG2.out.trans (gr_drewN _ _ _)).trans (grown_setCell _ _ _ _)
        rw [HF.out.1, ← hx]
        refine H.out.put (n' := ⟨n.w.zero, true, n.run + 1, x⟩) HC.out _ hg3 ?_
        have h3 := HR2.out
        simp [World.setCell, Array.getElem?_modify, h3, loRow]
      clear hV2 hg2 hr2 HR HC c4 c14 c15 c16 q hk v8
      have HT : Hid _ := HF.out.2
      clear HF
      cases q1 : n.ex
      · rw [q1] at e16 HT HZ
        by_cases q3 : e.tol < ((n.run : Int) + 1)
        · have HD : Hid (decide (e.tol < ((n.run : Int) + 1)) = true) := decide_eq_true q3
          go_quiet (fail)
          go_wp2
          go_ret2
          exact ⟨by rw [HT.out, HD.out]; rfl, HZ.out _ _ (by rw [HD.out]; rfl)⟩
        · have HD : Hid (decide (e.tol < ((n.run : Int) + 1)) = false) := decide_eq_false q3
          go_quiet (fail)
          go_wp2
          go_ret2
          exact ⟨by rw [HT.out, HD.out]; rfl, HZ.out _ _ (by rw [HD.out]; rfl)⟩
      · rw [q1] at e16 HT HZ
        go_quiet (fail)
        go_wp2
        go_ret2
        exact ⟨by rw [HT.out]; rfl, HZ.out _ _ rfl⟩
end
end Go.Proofs.YtkphpgdgbnmnjacGreatDoor

namespace Go.Proofs.YtkphpgdgbnmnjacGreatDoor
open Go.RowKit Go.Extern.Stop Go.Stop Go.Extern

structure CSt where
  bytes : List UInt8
  size : Nat
  written : Nat
  off : Bool
  cut : Bool
  left : Nat

def byteVal (x : UInt8) : Value := .int .u8 (x.toNat : Int)
def CSt.tail (s : CSt) : List Value := [.int .i64 (s.size : Int), .int .i64 (s.written : Int), .bool s.off, .bool s.cut, .int .i64 (s.left : Int)]
def CSt.row (s : CSt) : Array Value := (s.bytes.map byteVal ++ s.tail).toArray

structure CellsAt (w : World) (b : Nat) (s : CSt) : Prop where
  heap : w.heap[b]? = some (.cells s.row 102 (0, 0))
  len : s.bytes.length = 4096
  size : s.size ≤ 4096

theorem CellsAt.lt {w : World} {b : Nat} {s : CSt} (h : CellsAt w b s) : b < w.heap.size := lt_of_row h.heap

theorem CellsAt.cell {w : World} {b : Nat} {s : CSt} (h : CellsAt w b s) (i : Nat) : w.cell? ⟨b, i, none⟩ = s.row[i]? := by
  simp [World.cell?, h.heap]
theorem CellsAt.frozen {w : World} {b : Nat} {s : CSt} (h : CellsAt w b s) (i : Nat) : w.frozen? ⟨b, i, none⟩ = false := by
  simp [World.frozen?, h.heap]

theorem CSt.row_byte (s : CSt) (i : Nat) (hi : i < s.bytes.length) : s.row[i]? = some (byteVal s.bytes[i]) := by
  unfold CSt.row
  simp [List.getElem?_append_left, hi]
theorem CSt.row_tail (s : CSt) (hl : s.bytes.length = 4096) (i : Nat) : s.row[4096 + i]? = s.tail[i]? := by
  unfold CSt.row
  rw [List.getElem?_toArray, List.getElem?_append_right (by simp [hl])]
  simp [hl]

theorem CellsAt.byte {w : World} {b : Nat} {s : CSt} (h : CellsAt w b s) (i : Nat) (hi : i < 4096) : w.cell? ⟨b, i, none⟩ = some (.int .u8 ((s.bytes[i]'(by rw [h.len]; exact hi)).toNat : Int)) := by
  rw [h.cell, CSt.row_byte s i (by rw [h.len]; exact hi)]; rfl
theorem CellsAt.c0 {w : World} {b : Nat} {s : CSt} (h : CellsAt w b s) : w.cell? ⟨b, 4096, none⟩ = some (.int .i64 (s.size : Int)) := by
  rw [h.cell, CSt.row_tail s h.len 0]; rfl
theorem CellsAt.c1 {w : World} {b : Nat} {s : CSt} (h : CellsAt w b s) : w.cell? ⟨b, 4097, none⟩ = some (.int .i64 (s.written : Int)) := by
  rw [h.cell, CSt.row_tail s h.len 1]; rfl
theorem CellsAt.c2 {w : World} {b : Nat} {s : CSt} (h : CellsAt w b s) : w.cell? ⟨b, 4098, none⟩ = some (.bool s.off) := by
  rw [h.cell, CSt.row_tail s h.len 2]; rfl
theorem CellsAt.c3 {w : World} {b : Nat} {s : CSt} (h : CellsAt w b s) : w.cell? ⟨b, 4099, none⟩ = some (.bool s.cut) := by
  rw [h.cell, CSt.row_tail s h.len 3]; rfl
theorem CellsAt.c4 {w : World} {b : Nat} {s : CSt} (h : CellsAt w b s) : w.cell? ⟨b, 4100, none⟩ = some (.int .i64 (s.left : Int)) := by
  rw [h.cell, CSt.row_tail s h.len 4]; rfl

theorem CellsAt.set {w : World} {b : Nat} {s s' : CSt} (h : CellsAt w b s) (i : Nat) (v : Value) (hr : s.row.setIfInBounds i v = s'.row) (hl : s'.bytes.length = 4096) (hs : s'.size ≤ 4096) : CellsAt (w.setCell ⟨b, i, none⟩ v) b s' := by
  refine ⟨?_, hl, hs⟩
  simp only [World.setCell, Array.getElem?_modify, h.heap]
  simp [hr]

theorem row_set_tail (bs : List UInt8) (hl : bs.length = 4096) (t : List Value) (i : Nat) (v : Value) : (bs.map byteVal ++ t).toArray.setIfInBounds (4096 + i) v = (bs.map byteVal ++ t.set i v).toArray := by
  rw [List.setIfInBounds_toArray, List.set_append_right _ _ (by simp [hl])]
  simp [hl]

theorem CellsAt.set1 {w : World} {b : Nat} {s : CSt} (h : CellsAt w b s) (n : Nat) : CellsAt (w.setCell ⟨b, 4097, none⟩ (.int .i64 (n : Int))) b { s with written := n } :=
  h.set _ _ (row_set_tail s.bytes h.len s.tail 1 _) h.len h.size
theorem CellsAt.set2 {w : World} {b : Nat} {s : CSt} (h : CellsAt w b s) (v : Bool) : CellsAt (w.setCell ⟨b, 4098, none⟩ (.bool v)) b { s with off := v } :=
  h.set _ _ (row_set_tail s.bytes h.len s.tail 2 _) h.len h.size
theorem CellsAt.set3 {w : World} {b : Nat} {s : CSt} (h : CellsAt w b s) (v : Bool) : CellsAt (w.setCell ⟨b, 4099, none⟩ (.bool v)) b { s with cut := v } :=
  h.set _ _ (row_set_tail s.bytes h.len s.tail 3 _) h.len h.size
theorem CellsAt.set4 {w : World} {b : Nat} {s : CSt} (h : CellsAt w b s) (n : Nat) : CellsAt (w.setCell ⟨b, 4100, none⟩ (.int .i64 (n : Int))) b { s with left := n } :=
  h.set _ _ (row_set_tail s.bytes h.len s.tail 4 _) h.len h.size
theorem CellsAt.setB {w : World} {b : Nat} {s : CSt} (h : CellsAt w b s) (i : Nat) (hi : i < 4096) (x : UInt8) : CellsAt (w.setCell ⟨b, i, none⟩ (.int .u8 (x.toNat : Int))) b { s with bytes := s.bytes.set i x } := by
  refine h.set _ _ ?_ (by simp [h.len]) h.size
  unfold CSt.row
  rw [List.setIfInBounds_toArray, List.set_append_left _ _ (by simp [h.len, hi]), List.map_set]
  rfl

theorem CellsAt.below {w w' : World} {b : Nat} {s : CSt} (h : CellsAt w b s) (hb : Below w.heap.size w w') : CellsAt w' b s := ⟨row_below hb h.heap, h.len, h.size⟩
theorem CellsAt.alloc {w : World} {b : Nat} {s : CSt} (h : CellsAt w b s) (o : Obj) : CellsAt (w.alloc o) b s := h.below ((Below.refl _ _).alloc (Nat.le_refl _) _)
theorem CellsAt.other {w w' : World} {b c : Nat} {s : CSt} (h : CellsAt w b s) (hg : w.grownBy w' (some c)) (hne : b ≠ c) : CellsAt w' b s :=
  ⟨(hg.block b h.lt (by simpa using hne)).trans h.heap, h.len, h.size⟩

theorem grown_refl (w : World) (r : Option Nat) : w.grownBy w r := ⟨rfl, rfl, rfl, Nat.le_refl _, fun _ _ _ => rfl⟩
theorem grown_trans {a b c : World} {r : Option Nat} (h : a.grownBy b r) (k : b.grownBy c r) : a.grownBy c r :=
  ⟨k.os.trans h.os, k.tape.trans h.tape, k.output.trans h.output, Nat.le_trans h.size k.size, fun i hi hn => (k.block i (Nat.lt_of_lt_of_le hi h.size) hn).trans (h.block i hi hn)⟩
theorem grown_set {a w : World} {b : Nat} (h : a.grownBy w (some b)) (i : Nat) (v : Value) : a.grownBy (w.setCell ⟨b, i, none⟩ v) (some b) :=
  grown_trans h ⟨rfl, rfl, rfl, by simp [World.setCell], fun k _ hn => Below.heap_setCell _ _ _ _ (by simpa using hn)⟩
theorem grown_below {a w w' : World} {r : Option Nat} (h : a.grownBy w r) (k : Below w.heap.size w w') : a.grownBy w' r :=
  grown_trans h ⟨k.os, k.tape, k.output, k.size, fun i hi _ => k.block i hi⟩
theorem Senv.grown {A : Nat → Addr} {w w' : World} {b : Nat} (h : Senv A w) (k : w.grownBy w' (some b)) (hn : ∀ i, i < 11 → (A i).block ≠ b) (hb : 12 ≤ b) : Senv A w' := by
  have hc : ∀ {g : Nat} {v : Value}, g < 12 → w.cell? ⟨g, 0, none⟩ = some v → w'.cell? ⟨g, 0, none⟩ = some v := fun {g v} hg e =>
    (World.cell?_of_block (k.block g (block_lt e) (by intro e2; cases e2; omega))).trans e
  exact ⟨hc (by omega) h.c0, hc (by omega) h.c1, hc (by omega) h.c2, hc (by omega) h.c3, hc (by omega) h.c4, hc (by omega) h.c5, hc (by omega) h.c6, hc (by omega) h.c7, hc (by omega) h.c8, hc (by omega) h.c9, hc (by omega) h.c10, hc (by omega) h.et,
    fun i hi => by obtain ⟨c, t, e⟩ := h.row i hi; exact ⟨c, t, (k.block _ (lt_of_row e) (by intro e2; exact hn i hi (Option.some.inj e2))).trans e⟩, h.ne⟩
end Go.Proofs.YtkphpgdgbnmnjacGreatDoor

namespace Go.Proofs.YtkphpgdgbnmnjacGreatDoor
open Go.RowKit Go.Extern.Stop Go.Stop Go.Extern

structure Sen4 (A : Nat → Addr) (w : World) : Prop where
  c1 : w.cell? ⟨1, 0, none⟩ = some (.iface 292 (.pointer (some (A 1))))
  c2 : w.cell? ⟨3, 0, none⟩ = some (.iface 292 (.pointer (some (A 2))))
  c6 : w.cell? ⟨10, 0, none⟩ = some (.iface 292 (.pointer (some (A 6))))
  c7 : w.cell? ⟨2, 0, none⟩ = some (.iface 292 (.pointer (some (A 7))))

theorem Senv.four {A : Nat → Addr} {w : World} (h : Senv A w) : Sen4 A w := ⟨h.c1, h.c2, h.c6, h.c7⟩
theorem Sen4.below {A : Nat → Addr} {w w' : World} (h : Sen4 A w) (hb : Below w.heap.size w w') : Sen4 A w' :=
  ⟨cell_below hb h.c1, cell_below hb h.c2, cell_below hb h.c6, cell_below hb h.c7⟩
theorem Sen4.alloc {A : Nat → Addr} {w : World} (h : Sen4 A w) (o : Obj) : Sen4 A (w.alloc o) := h.below ((Below.refl _ _).alloc (Nat.le_refl _) _)
theorem Sen4.grown {A : Nat → Addr} {w w' : World} {b : Nat} (h : Sen4 A w) (k : w.grownBy w' (some b)) (hb : 11 ≤ b) : Sen4 A w' := by
  have hc : ∀ {g : Nat} {v : Value}, g < 11 → w.cell? ⟨g, 0, none⟩ = some v → w'.cell? ⟨g, 0, none⟩ = some v := fun {g v} hg e =>
    (World.cell?_of_block (k.block g (block_lt e) (by intro e2; cases e2; omega))).trans e
  exact ⟨hc (by omega) h.c1, hc (by omega) h.c2, hc (by omega) h.c6, hc (by omega) h.c7⟩
end Go.Proofs.YtkphpgdgbnmnjacGreatDoor

namespace Go.Proofs.YtkphpgdgbnmnjacGreatDoor
open Go.RowKit Go.Extern.Stop Go.Stop Go.Extern

def zeros (n : Nat) : List UInt8 := List.replicate n 0
theorem zeros_length (n : Nat) : (zeros n).length = n := List.length_replicate
def CSt.new (n : Nat) : CSt := ⟨zeros 4096, n, 0, false, false, 0⟩

theorem zero_row : Tryz.zeroCells102 = (CSt.new 0).row := by kernel_rfl
theorem new_row (n : Nat) : Tryz.zeroCells102.setIfInBounds 4096 (.int .i64 (n : Int)) = (CSt.new n).row := by
  rw [zero_row]
  exact row_set_tail (CSt.new 0).bytes (zeros_length _) (CSt.new 0).tail 0 _

set_option maxHeartbeats 400000 in
/-- New(n), n in its bounds. -/
theorem new_in (n : Nat) (w : World) (h1 : n ≤ 4096) :
    Calls Tryz.prog 41 #[.int .i64 (n : Int)] w fun e w' => e = .returned (.tuple #[.pointer (some ⟨w.heap.size, 0, none⟩), .nilIface]) ∧ Below w.heap.size w w' ∧ CellsAt w' w.heap.size (CSt.new n) ∧ w'.heap.size = w.heap.size + 1 := by
  have g1 : ¬ (n : Int) < 0 := by omega
  have g2 : ¬ 4096 < (n : Int) := by omega
  go_enter Tryz.func41, Tryz.ntmps41
  go_wp2
  go_ret2
  refine ⟨rfl, (Below.refl _ _).alloc (Nat.le_refl _) _, ⟨?_, zeros_length _, h1⟩, by simp⟩
  rw [new_row]
  show (w.heap.push _)[w.heap.size]? = _
  simp

/-- Power. -/
theorem power_any (b : Nat) (s : CSt) (w : World) (h : CellsAt w b s) :
    Calls Tryz.prog 26 #[.pointer (some ⟨b, 0, none⟩)] w fun e w' => e = .returned (.bool (!s.off)) ∧ w' = w := by
  have c2 := h.c2
  go_enter Tryz.func26, Tryz.ntmps26
  go_wp2
  go_ret
  exact ⟨rfl, rfl⟩

/-- On. -/
theorem on_any (b : Nat) (s : CSt) (w : World) (h : CellsAt w b s) :
    Calls Tryz.prog 30 #[.pointer (some ⟨b, 0, none⟩)] w fun e w' => e = .returned (.tuple #[]) ∧ CellsAt w' b { s with off := false, cut := false, left := 0 } ∧ w.grownBy w' (some b) ∧ w'.heap.size = w.heap.size := by
  have c2 := h.c2
  have c3 := h.c3
  have c4 := h.c4
  have f2 := h.frozen 4098
  have f3 := h.frozen 4099
  have f4 := h.frozen 4100
  go_enter Tryz.func30, Tryz.ntmps30
  go_wp2
  go_end0
  exact ⟨rfl, ((h.set2 false).set3 false).set4 0, grown_set (grown_set (grown_set (grown_refl _ _) _ _) _ _) _ _, by simp⟩

/-- The number of an error, as Code tells it; the value. -/
def errVal (A : Nat → Addr) : Nat → Value
  | 0 => .nilIface
  | i + 1 => .iface 292 (.pointer (some (A i)))
/-- What check answers. -/
def CSt.err (s : CSt) (p n : Int) : Nat := if p < 0 ∨ n < 0 ∨ (s.size : Int) - p < n then 2 else if s.off = true then 8 else 0

set_option maxHeartbeats 1000000 in
/-- check(p, n). -/
theorem check_any4 (A : Nat → Addr) (b : Nat) (s : CSt) (p n : Int) (w : World) (h : CellsAt w b s) (hs : Sen4 A w) (hp : p ≤ 9223372036854775807) :
    Calls Tryz.prog 128 #[.pointer (some ⟨b, 0, none⟩), .int .i64 p, .int .i64 n] w fun e w' => e = .returned (errVal A (s.err p n)) ∧ w' = w := by
  have c0 := h.c0
  have c2 := h.c2
  have g1 := hs.c1
  have g7 := hs.c7
  have hz := h.size
  clear h hs
  by_cases h1 : p < 0
  · have E : Hid (s.err p n = 2) := if_pos (Or.inl h1)
    go_enter Tryz.func128, Tryz.ntmps128
    go_wp2
    go_ret
    rw [E.out]
    exact ⟨rfl, rfl⟩
  by_cases h2 : n < 0
  · have E : Hid (s.err p n = 2) := if_pos (Or.inr (Or.inl h2))
    go_enter Tryz.func128, Tryz.ntmps128
    go_wp2
    go_ret
    rw [E.out]
    exact ⟨rfl, rfl⟩
  by_cases h3 : (s.size : Int) - p < n
  · have E : Hid (s.err p n = 2) := if_pos (Or.inr (Or.inr h3))
    go_enter Tryz.func128, Tryz.ntmps128
    go_wp2
    go_ret
    rw [E.out]
    exact ⟨rfl, rfl⟩
  have hno : ¬ (p < 0 ∨ n < 0 ∨ (s.size : Int) - p < n) := by omega
  cases ho : s.off
  · have E : Hid (s.err p n = 0) := by unfold CSt.err; rw [if_neg hno, ho]; rfl
    clear hno
    go_enter Tryz.func128, Tryz.ntmps128
    go_wp2
    go_ret
    rw [E.out]
    exact ⟨rfl, rfl⟩
  · have E : Hid (s.err p n = 8) := by unfold CSt.err; rw [if_neg hno, ho]; rfl
    clear hno
    go_enter Tryz.func128, Tryz.ntmps128
    go_wp2
    go_ret
    rw [E.out]
    exact ⟨rfl, rfl⟩

/-- put, where power fails. -/
theorem put_off4 (A : Nat → Addr) (b : Nat) (s : CSt) (p : Int) (x : UInt8) (w : World) (h : CellsAt w b s) (hs : Sen4 A w) (hb : 11 ≤ b) (h1 : s.cut = true) (h2 : s.left = 0) :
    Calls Tryz.prog 226 #[.pointer (some ⟨b, 0, none⟩), .int .i64 p, .int .u8 (x.toNat : Int)] w fun e w' => e = .returned (errVal A 8) ∧ CellsAt w' b { s with off := true } ∧ w.grownBy w' (some b) ∧ w'.heap.size = w.heap.size := by
  have c2 := h.c2
  have c3 := h.c3
  have c4 := h.c4
  have f2 := h.frozen 4098
  have g7 := hs.c7
  have hne : ¬ b = 2 := by omega
  rw [h1] at c3
  rw [h2] at c4
  go_enter Tryz.func226, Tryz.ntmps226
  go_wp2
  go_ret
  exact ⟨rfl, h.set2 true, grown_set (grown_refl _ _) _ _, by simp⟩

/-- The state behind one byte that is written. -/
def CSt.put (s : CSt) (p : Nat) (x : UInt8) : CSt := { s with bytes := s.bytes.set p x, written := s.written + 1, left := if s.cut then s.left - 1 else s.left }

set_option maxHeartbeats 1000000 in
theorem put_on (b : Nat) (s : CSt) (p : Nat) (x : UInt8) (w : World) (h : CellsAt w b s) (hp : p < 4096) (hw : s.written ≤ 1099511627776) (hl : s.left ≤ 9223372036854775807) (h1 : s.cut = true → 0 < s.left) :
    Calls Tryz.prog 226 #[.pointer (some ⟨b, 0, none⟩), .int .i64 (p : Int), .int .u8 (x.toNat : Int)] w fun e w' => e = .returned .nilIface ∧ CellsAt w' b (s.put p x) ∧ w.grownBy w' (some b) ∧ w'.heap.size = w.heap.size := by
  have c1 := h.c1
  have c3 := h.c3
  have c4 := h.c4
  have cb := h.byte p hp
  have f1 := h.frozen 4097
  have f4 := h.frozen 4100
  have fb := h.frozen p
  have ew : ((s.written + 1 : Nat) : Int) = (s.written : Int) + 1 := by omega
  cases hc : s.cut
  · rw [hc] at c3
    have R := (h.setB p hp x).set1 (s.written + 1)
    have e : ({ s with bytes := s.bytes.set p x, written := s.written + 1 } : CSt) = s.put p x := by simp [CSt.put, hc]
    simp only [] at R
    rw [hc] at e
    rw [ew, hc, e] at R
    clear e hc h1
    go_enter Tryz.func226, Tryz.ntmps226
    go_wp2
    go_ret
    exact ⟨rfl, R, grown_set (grown_set (grown_refl _ _) _ _) _ _, by simp⟩
  · have hpos := h1 hc
    have el : ((s.left - 1 : Nat) : Int) = (s.left : Int) - 1 := by omega
    have hnz : ((s.left : Int) == 0) = false := by rw [beq_eq_false_iff_ne]; omega
    have R := ((h.set4 (s.left - 1)).setB p hp x).set1 (s.written + 1)
    have e : ({ s with bytes := s.bytes.set p x, written := s.written + 1, left := s.left - 1 } : CSt) = s.put p x := by simp [CSt.put, hc]
    simp only [] at R
    rw [hc] at e
    rw [el, ew, hc, e] at R
    rw [hc] at c3
    clear e hc h1
    go_enter Tryz.func226, Tryz.ntmps226
    go_wp2
    go_ret
    exact ⟨rfl, R, grown_set (grown_set (grown_set (grown_refl _ _) _ _) _ _) _ _, by simp⟩

def CSt.puts (s : CSt) (p : Nat) : List UInt8 → CSt
  | [] => s
  | x :: r => (s.put p x).puts (p + 1) r
theorem CSt.puts_snoc (l : List UInt8) (x : UInt8) : ∀ (s : CSt) (p : Nat), s.puts p (l ++ [x]) = (s.puts p l).put (p + l.length) x := by
  induction l with
  | nil => intro s p; rfl
  | cons y r ih => intro s p; simp only [List.cons_append, CSt.puts, ih, List.length_cons]; congr 1; omega
theorem CSt.puts_cut (l : List UInt8) : ∀ (s : CSt) (p : Nat), (s.puts p l).cut = s.cut := by
  induction l with
  | nil => intro s p; rfl
  | cons y r ih => intro s p; simp only [CSt.puts, ih]; rfl
theorem CSt.puts_off (l : List UInt8) : ∀ (s : CSt) (p : Nat), (s.puts p l).off = s.off := by
  induction l with
  | nil => intro s p; rfl
  | cons y r ih => intro s p; simp only [CSt.puts, ih]; rfl
theorem CSt.puts_size (l : List UInt8) : ∀ (s : CSt) (p : Nat), (s.puts p l).size = s.size := by
  induction l with
  | nil => intro s p; rfl
  | cons y r ih => intro s p; simp only [CSt.puts, ih]; rfl
theorem CSt.puts_written (l : List UInt8) : ∀ (s : CSt) (p : Nat), (s.puts p l).written = s.written + l.length := by
  induction l with
  | nil => intro s p; rfl
  | cons y r ih => intro s p; simp only [CSt.puts, ih, List.length_cons]; show s.written + 1 + r.length = _; omega
theorem CSt.puts_left (l : List UInt8) : ∀ (s : CSt) (p : Nat), (s.puts p l).left = if s.cut then s.left - l.length else s.left := by
  induction l with
  | nil => intro s p; simp [CSt.puts]
  | cons y r ih =>
    intro s p
    simp only [CSt.puts, ih, List.length_cons]
    cases hc : s.cut <;> simp [CSt.put, hc]
    omega
theorem CSt.puts_bytes (l : List UInt8) : ∀ (s : CSt) (p : Nat), p + l.length ≤ s.bytes.length → (s.puts p l).bytes = s.bytes.take p ++ l ++ s.bytes.drop (p + l.length) := by
  induction l with
  | nil => intro s p h; simp [CSt.puts]
  | cons y r ih =>
    intro s p h
    simp only [List.length_cons] at h
    have e := ih (s.put p y) (p + 1) (by simp [CSt.put]; omega)
    simp only [CSt.puts, e, List.length_cons]
    have h1 : (s.put p y).bytes = s.bytes.set p y := rfl
    have hset : s.bytes.set p y = s.bytes.take p ++ y :: s.bytes.drop (p + 1) := by rw [List.set_eq_take_append_cons_drop, if_pos (by omega)]
    have hlp : (s.bytes.take p).length = p := by rw [List.length_take]; omega
    have e1 : p + 1 - p = 1 := by omega
    have e2 : p + 1 + r.length - p = r.length + 1 := by omega
    have e3 : p + 1 + r.length = p + (r.length + 1) := by omega
    have t1 : (s.bytes.take p ++ y :: s.bytes.drop (p + 1)).take (p + 1) = s.bytes.take p ++ [y] := by
      rw [List.take_append, hlp, e1, List.take_of_length_le (l := s.bytes.take p) (by rw [hlp]; omega)]; rfl
    have t0 : (s.bytes.take p).drop (p + 1 + r.length) = [] := List.drop_eq_nil_of_le (by rw [hlp]; omega)
    have t2 : (s.bytes.take p ++ y :: s.bytes.drop (p + 1)).drop (p + 1 + r.length) = s.bytes.drop (p + 1 + r.length) := by
      rw [List.drop_append, hlp, e2, t0, List.drop_succ_cons, List.drop_drop]; rfl
    rw [h1, hset, t1, t2, e3]
    simp

/-- Write's answer, where check lets it. -/
def CSt.write (s : CSt) (p : Nat) (l : List UInt8) : CSt × Nat :=
  if s.cut = true ∧ s.left < l.length then ({ s.puts p (l.take s.left) with off := true }, 8) else (s.puts p l, 0)

theorem take_snoc (s : ByteArray) (k : Nat) (h : k < s.size) : s.data.toList.take (k + 1) = s.data.toList.take k ++ [s[k]] := by
  rw [List.take_succ_eq_append_getElem (by simpa using h)]; rfl

set_option maxHeartbeats 1000000 in
theorem write_on4 (A : Nat → Addr) (b : Nat) (s : CSt) (p : Nat) (t : ByteArray) (w : World) (h : CellsAt w b s) (hs : Sen4 A w) (hb : 11 ≤ b) (hw : s.written + t.size ≤ 1099511627776) (hl : s.left ≤ 9223372036854775807) (he : s.err p t.size = 0) :
    Calls Tryz.prog 211 #[.pointer (some ⟨b, 0, none⟩), .int .i64 (p : Int), .string t] w fun e w' => e = .returned (errVal A (s.write p t.data.toList).2) ∧ CellsAt w' b (s.write p t.data.toList).1 ∧ w.grownBy w' (some b) ∧ w'.heap.size = w.heap.size := by
  have hfit : p + t.size ≤ s.size := by
    unfold CSt.err at he
    split at he
    · cases he
    · omega
  have hz := h.size
  have HE : Hid (s.err p t.size = 0) := he
  clear he
  go_enter Tryz.func211, Tryz.ntmps211
  go_wp2_with fail
  refine (check_any4 A b s p t.size _ h hs (by omega)).mono ?_
  rintro e w1 ⟨rfl, rfl⟩
  rw [HE.out]
  unfold errVal
  go_wp2_with fail
  go_loopw [20] (fun i wr => ∃ k : Nat, k ≤ t.size ∧ i = .int .i64 k ∧ (s.cut = true → k ≤ s.left) ∧ CellsAt wr b (s.puts p (t.data.toList.take k)) ∧ w1.grownBy wr (some b) ∧ wr.heap.size = w1.heap.size) (fun i _ => t.size - (intOf i).toNat)
  case atStart => exact ⟨0, Nat.zero_le _, rfl, fun _ => Nat.zero_le _, h, grown_refl _ _, rfl⟩
  case round =>
    obtain ⟨k, hk, rfl, hcut, hat, hg, hsz⟩ := hrel
    have hlen : (t.data.toList.take k).length = k := by rw [List.length_take]; simp; omega
    have hlf := CSt.puts_left (t.data.toList.take k) s p
    have hct := CSt.puts_cut (t.data.toList.take k) s p
    have hwr := CSt.puts_written (t.data.toList.take k) s p
    rw [hlen] at hlf hwr
    by_cases hlt : k < t.size
    · by_cases hoff : s.cut = true ∧ s.left = k
      · have hs' := hs.grown hg hb
        have e1 : (s.puts p (t.data.toList.take k)).cut = true := hct.trans hoff.1
        have e2 : (s.puts p (t.data.toList.take k)).left = 0 := by rw [hlf, if_pos hoff.1]; omega
        have E : Hid (s.write p t.data.toList = ({ s.puts p (t.data.toList.take k) with off := true }, 8)) := by
          show s.write p t.data.toList = _
          unfold CSt.write; rw [if_pos ⟨hoff.1, by simp; omega⟩, hoff.2]
        have E1 : Hid _ := e1
        have E2 : Hid _ := e2
        clear hs hlf hct hwr hcut hlen hoff e1 e2 hl hw
        go_wp2_with fail
        refine (put_off4 A b _ _ _ _ hat hs' hb E1 E2).mono ?_
        rintro e w2 ⟨rfl, hat2, hg2, hsz2⟩
        unfold errVal
        go_wp2
        go_ret
        rw [E.out]
        exact ⟨rfl, hat2, grown_trans hg hg2, by rw [hsz2, hsz]⟩
      · have hw2 : (s.puts p (t.data.toList.take k)).written ≤ 1099511627776 := by rw [hwr]; omega
        have hl2 : (s.puts p (t.data.toList.take k)).left ≤ 9223372036854775807 := by rw [hlf]; split <;> omega
        have H1 : Hid ((s.puts p (t.data.toList.take k)).cut = true → 0 < (s.puts p (t.data.toList.take k)).left) := fun hc => by
          rw [hct] at hc
          have h1 := hcut hc
          have h2 : s.left ≠ k := fun e => hoff ⟨hc, e⟩
          rw [hlf, if_pos hc]
          omega
        have HC : Hid (s.cut = true → k + 1 ≤ s.left) := fun hc => by
          have h1 := hcut hc
          have h2 : s.left ≠ k := fun e => hoff ⟨hc, e⟩
          omega
        have HP : Hid (s.puts p (t.data.toList.take (k + 1)) = (s.puts p (t.data.toList.take k)).put (p + k) t[k]) := by
          show _ = _
          rw [take_snoc t k hlt, CSt.puts_snoc, hlen]
        have EP : Hid ((p : Int) + (k : Int) = ((p + k : Nat) : Int)) := by show _ = _; omega
        clear hlf hct hwr hcut hlen hoff hl hs
        go_wp2_with fail
        rw [EP.out]
        refine (put_on b _ _ _ _ hat (by omega) hw2 hl2 H1.out).mono ?_
        rintro e w2 ⟨rfl, hat2, hg2, hsz2⟩
        go_wp2
        go_roundw
        case rel => exact ⟨k + 1, by omega, by go_num, HC.out, by rw [HP.out]; exact hat2, grown_trans hg hg2, by rw [hsz2, hsz]⟩
        case measure => simp [intOf]; omega
    · have ek : k = t.size := by omega
      have E : Hid (s.write p t.data.toList = (s.puts p (t.data.toList.take k), 0)) := by
        show _ = _
        unfold CSt.write
        rw [if_neg (by rintro ⟨a, b⟩; have := hcut a; simp at b; omega), List.take_of_length_le (by simp; omega)]
      clear hlf hct hwr hcut hlen ek
      go_wp2
      go_ret
      rw [E.out]
      exact ⟨rfl, hat, hg, hsz⟩
end Go.Proofs.YtkphpgdgbnmnjacGreatDoor
