/-
  (*watch).end by a contract. Conditions: as LoWat's.
-/
import Derived.Test.YtpaolneaomeoiabDoorLoStepsX
namespace Go.Proofs.YtpaolneaomeoiabDoor
open Go.RowKit Go.Extern.Stop Go.Stop Go.Extern

section
variable {F F' : Nat → Prop} {w w' w'' : World} {b ba bg bf : Nat} {e : EntD} {E : EA} {s : WSt}
/-- The watches while end goes on. -/
def stE (s : WSt) (x y z : Bool) : WSt := ⟨if x then s.a.zero else s.a, if y then s.g.zero else s.g, if z then s.f.zero else s.f⟩
theorem stE0 (s : WSt) : stE s false false false = s := rfl
theorem stE1 (s : WSt) : stE s true true true = s.zero := rfl
def wendK (s : WSt) (wh : Bool) (b ba bg bf : Nat) : Nat → Value → Prop
  | 0 => fun v => v = .pointer (some ⟨b, 0, none⟩)
  | 1 => fun v => v = .pointer (some ⟨b, 0, none⟩)
  | 2 => fun v => v = .pointer (some ⟨b, 0, none⟩)
  | 3 => fun v => v = .pointer (some ⟨ba, 0, none⟩)
  | 4 => fun v => v = .bool wh
  | 5 => fun v => v = .bool (s.a.well wh)
  | 6 => fun v => v = .pointer (some ⟨b, 0, none⟩)
  | 7 => fun v => v = .pointer (some ⟨b, 0, none⟩)
  | 8 => fun v => v = .pointer (some ⟨b, 1, none⟩)
  | 9 => fun v => v = .pointer (some ⟨bg, 0, none⟩)
  | 10 => fun v => v = .bool (!s.g.bad)
  | 11 => fun v => v = .pointer (some ⟨b, 0, none⟩)
  | 12 => fun v => v = .pointer (some ⟨b, 0, none⟩)
  | 13 => fun v => v = .pointer (some ⟨b, 2, none⟩)
  | 14 => fun v => v = .pointer (some ⟨bf, 0, none⟩)
  | 15 => fun v => v = .bool (!s.f.bad)
  | 16 => fun v => v = .bool (s.a.well wh)
  | 17 => fun v => v = .bool (!s.g.bad)
  | 18 => fun v => v = .bool (!s.f.bad)
  | _ => fun _ => True
set_option maxHeartbeats 4000000 in
set_option maxRecDepth 100000 in
theorem watch_end (wh : Bool) (c : Array Value) (h : WatAt F w ba bg bf e s) (hb : w.heap[b]? = some (.cells c 78 (0, 0))) (h0 : c[0]? = some (.pointer (some ⟨ba, 0, none⟩))) (h1 : c[1]? = some (.pointer (some ⟨bg, 0, none⟩))) (h2 : c[2]? = some (.pointer (some ⟨bf, 0, none⟩))) :
    Calls Tryd.prog 36 #[.pointer (some ⟨b, 0, none⟩), .bool wh] w fun v w' => v = .returned (.int .i64 (s.kind wh)) ∧ WatTo F w w' b ba bg bf e s.zero c := by
  have HW : Hid (WatTo F w w b ba bg bf e s c) := ⟨h, hb, FrL.refl _ _⟩
  have H0 : Hid (c[0]? = some (.pointer (some ⟨ba, 0, none⟩))) := h0
  have H1 : Hid (c[1]? = some (.pointer (some ⟨bg, 0, none⟩))) := h1
  have H2 : Hid (c[2]? = some (.pointer (some ⟨bf, 0, none⟩))) := h2
  clear h hb h0 h1 h2
  go_enter Tryd.func36, Tryd.ntmps36
  go_wp2_with fail
  refine region_spec2 19 rfl (fun j v _ => wendK s wh b ba bg bf j v) (fun done V => WatTo F w V b ba bg bf e (stE s (done 5) (done 10) (done 15)) c) (by kernel_rfl) (by kernel_rfl) ⟨by show WatAt _ _ _ _ _ _ (stE s false false false); rw [stE0]; exact HW.out.wat.same (fun _ _ => rfl), HW.out.row, FrL.below (Below.refl _ _).drew⟩ ?_ ?_
  · intro i o ho
    match i, ho with
    | 0, ho =>
      obtain rfl := Option.some.inj ho
      refine StepOk2.free rfl ?_
      intro done a V hC hdn hdo hdep hoth
      have x0 : a.tmps[0]?.getD undef = .pointer (some ⟨b, 0, none⟩) := slot_of (hoth 0 (notDst (by kernel_rfl)))
      exact goodRun2.val (c := .pointer (some ⟨b, 0, none⟩)) (by clear hdep hoth hdo hC; go_simp) (by rw [mark_other done (show 5 ≠ 0 by decide), mark_other done (show 10 ≠ 0 by decide), mark_other done (show 15 ≠ 0 by decide)]; exact hC) rfl
    | 1, ho =>
      obtain rfl := Option.some.inj ho
      refine StepOk2.free rfl ?_
      intro done a V hC hdn hdo hdep hoth
      have x8 : a.tmps[8]?.getD undef = .pointer (some ⟨b, 0, none⟩) := slot_of (hdep _ 8 (Array.mem_of_getElem? (i := 0) rfl) rfl rfl)
      exact goodRun2.val (c := .pointer (some ⟨b, 0, none⟩)) (by clear hdep hoth hdo hC; go_simp) (by rw [mark_other done (show 5 ≠ 1 by decide), mark_other done (show 10 ≠ 1 by decide), mark_other done (show 15 ≠ 1 by decide)]; exact hC) rfl
    | 2, ho =>
      obtain rfl := Option.some.inj ho
      refine StepOk2.free rfl ?_
      intro done a V hC hdn hdo hdep hoth
      have x9 : a.tmps[9]?.getD undef = .pointer (some ⟨b, 0, none⟩) := slot_of (hdep _ 9 (Array.mem_of_getElem? (i := 0) rfl) rfl rfl)
      exact goodRun2.val (c := .pointer (some ⟨b, 0, none⟩)) (by clear hdep hoth hdo hC; go_simp) (by rw [mark_other done (show 5 ≠ 2 by decide), mark_other done (show 10 ≠ 2 by decide), mark_other done (show 15 ≠ 2 by decide)]; exact hC) rfl
    | 3, ho =>
      obtain rfl := Option.some.inj ho
      refine StepOk2.free rfl ?_
      intro done a V hC hdn hdo hdep hoth
      have x10 : a.tmps[10]?.getD undef = .pointer (some ⟨b, 0, none⟩) := slot_of (hdep _ 10 (Array.mem_of_getElem? (i := 0) rfl) rfl rfl)
      have c0 : V.cell? ⟨b, 0, none⟩ = some (.pointer (some ⟨ba, 0, none⟩)) := by simp [World.cell?, hC.row, H0.out]
      exact goodRun2.val (c := .pointer (some ⟨ba, 0, none⟩)) (by clear hdep hoth hdo hC; go_simp) (by rw [mark_other done (show 5 ≠ 3 by decide), mark_other done (show 10 ≠ 3 by decide), mark_other done (show 15 ≠ 3 by decide)]; exact hC) rfl
    | 4, ho =>
      obtain rfl := Option.some.inj ho
      refine StepOk2.free rfl ?_
      intro done a V hC hdn hdo hdep hoth
      have x1 : a.tmps[1]?.getD undef = .bool wh := slot_of (hoth 1 (notDst (by kernel_rfl)))
      exact goodRun2.val (c := .bool wh) (by clear hdep hoth hdo hC; go_simp) (by rw [mark_other done (show 5 ≠ 4 by decide), mark_other done (show 10 ≠ 4 by decide), mark_other done (show 15 ≠ 4 by decide)]; exact hC) rfl
    | 5, ho =>
      obtain rfl := Option.some.inj ho
      refine StepOk2.free rfl ?_
      intro done a V hC hdn hdo hdep hoth
      have x11 : a.tmps[11]?.getD undef = .pointer (some ⟨ba, 0, none⟩) := slot_of (hdep _ 11 (Array.mem_of_getElem? (i := 0) rfl) rfl rfl)
      have x12 : a.tmps[12]?.getD undef = .bool wh := slot_of (hdep _ 12 (Array.mem_of_getElem? (i := 1) rfl) rfl rfl)
      refine goodRun2.call (f := 51) (args := #[.pointer (some ⟨ba, 0, none⟩), .bool wh]) (by clear hdep hoth hdo hC; go_simp) ?_
      rw [hdn] at hC
      refine (al_end2 wh hC.wat.al).mono ?_
      rintro v w1 ⟨rfl, hA, hg⟩
      refine ⟨_, rfl, ?_, fun _ _ _ h => h, rfl⟩
      rw [mark_same, mark_other done (show 10 ≠ 5 by decide), mark_other done (show 15 ≠ 5 by decide)]
      exact ⟨hC.wat.setA hg hA, hC.wat.rowA hC.row hg, hC.fr.trans (hC.wat.frA hg) (fun _ _ x => x)⟩
    | 6, ho =>
      obtain rfl := Option.some.inj ho
      refine StepOk2.free rfl ?_
      intro done a V hC hdn hdo hdep hoth
      have x0 : a.tmps[0]?.getD undef = .pointer (some ⟨b, 0, none⟩) := slot_of (hoth 0 (notDst (by kernel_rfl)))
      exact goodRun2.val (c := .pointer (some ⟨b, 0, none⟩)) (by clear hdep hoth hdo hC; go_simp) (by rw [mark_other done (show 5 ≠ 6 by decide), mark_other done (show 10 ≠ 6 by decide), mark_other done (show 15 ≠ 6 by decide)]; exact hC) rfl
    | 7, ho =>
      obtain rfl := Option.some.inj ho
      refine StepOk2.free rfl ?_
      intro done a V hC hdn hdo hdep hoth
      have x14 : a.tmps[14]?.getD undef = .pointer (some ⟨b, 0, none⟩) := slot_of (hdep _ 14 (Array.mem_of_getElem? (i := 0) rfl) rfl rfl)
      exact goodRun2.val (c := .pointer (some ⟨b, 0, none⟩)) (by clear hdep hoth hdo hC; go_simp) (by rw [mark_other done (show 5 ≠ 7 by decide), mark_other done (show 10 ≠ 7 by decide), mark_other done (show 15 ≠ 7 by decide)]; exact hC) rfl
    | 8, ho =>
      obtain rfl := Option.some.inj ho
      refine StepOk2.free rfl ?_
      intro done a V hC hdn hdo hdep hoth
      have x15 : a.tmps[15]?.getD undef = .pointer (some ⟨b, 0, none⟩) := slot_of (hdep _ 15 (Array.mem_of_getElem? (i := 0) rfl) rfl rfl)
      exact goodRun2.val (c := .pointer (some ⟨b, 1, none⟩)) (by clear hdep hoth hdo hC; go_simp) (by rw [mark_other done (show 5 ≠ 8 by decide), mark_other done (show 10 ≠ 8 by decide), mark_other done (show 15 ≠ 8 by decide)]; exact hC) rfl
    | 9, ho =>
      obtain rfl := Option.some.inj ho
      refine StepOk2.free rfl ?_
      intro done a V hC hdn hdo hdep hoth
      have x16 : a.tmps[16]?.getD undef = .pointer (some ⟨b, 1, none⟩) := slot_of (hdep _ 16 (Array.mem_of_getElem? (i := 0) rfl) rfl rfl)
      have c1 : V.cell? ⟨b, 1, none⟩ = some (.pointer (some ⟨bg, 0, none⟩)) := by simp [World.cell?, hC.row, H1.out]
      exact goodRun2.val (c := .pointer (some ⟨bg, 0, none⟩)) (by clear hdep hoth hdo hC; go_simp) (by rw [mark_other done (show 5 ≠ 9 by decide), mark_other done (show 10 ≠ 9 by decide), mark_other done (show 15 ≠ 9 by decide)]; exact hC) rfl
    | 10, ho =>
      obtain rfl := Option.some.inj ho
      refine StepOk2.free rfl ?_
      intro done a V hC hdn hdo hdep hoth
      have x17 : a.tmps[17]?.getD undef = .pointer (some ⟨bg, 0, none⟩) := slot_of (hdep _ 17 (Array.mem_of_getElem? (i := 0) rfl) rfl rfl)
      refine goodRun2.call (f := 52) (args := #[.pointer (some ⟨bg, 0, none⟩)]) (by clear hdep hoth hdo hC; go_simp) ?_
      rw [hdn] at hC
      obtain ⟨sa, cap, hG, hGF⟩ := hC.wat.ga
      refine (gp_end2 hG).mono ?_
      rintro v w1 ⟨rfl, hA, hg⟩
      refine ⟨_, rfl, ?_, fun _ _ _ h => h, rfl⟩
      rw [mark_same, mark_other done (show 5 ≠ 10 by decide), mark_other done (show 15 ≠ 10 by decide)]
      exact ⟨hC.wat.setG hG hGF hg hA rfl, rowG hG hC.row hg, hC.fr.trans (frG hG hGF hg) (fun _ _ x => x)⟩
    | 11, ho =>
      obtain rfl := Option.some.inj ho
      refine StepOk2.free rfl ?_
      intro done a V hC hdn hdo hdep hoth
      have x0 : a.tmps[0]?.getD undef = .pointer (some ⟨b, 0, none⟩) := slot_of (hoth 0 (notDst (by kernel_rfl)))
      exact goodRun2.val (c := .pointer (some ⟨b, 0, none⟩)) (by clear hdep hoth hdo hC; go_simp) (by rw [mark_other done (show 5 ≠ 11 by decide), mark_other done (show 10 ≠ 11 by decide), mark_other done (show 15 ≠ 11 by decide)]; exact hC) rfl
    | 12, ho =>
      obtain rfl := Option.some.inj ho
      refine StepOk2.free rfl ?_
      intro done a V hC hdn hdo hdep hoth
      have x19 : a.tmps[19]?.getD undef = .pointer (some ⟨b, 0, none⟩) := slot_of (hdep _ 19 (Array.mem_of_getElem? (i := 0) rfl) rfl rfl)
      exact goodRun2.val (c := .pointer (some ⟨b, 0, none⟩)) (by clear hdep hoth hdo hC; go_simp) (by rw [mark_other done (show 5 ≠ 12 by decide), mark_other done (show 10 ≠ 12 by decide), mark_other done (show 15 ≠ 12 by decide)]; exact hC) rfl
    | 13, ho =>
      obtain rfl := Option.some.inj ho
      refine StepOk2.free rfl ?_
      intro done a V hC hdn hdo hdep hoth
      have x20 : a.tmps[20]?.getD undef = .pointer (some ⟨b, 0, none⟩) := slot_of (hdep _ 20 (Array.mem_of_getElem? (i := 0) rfl) rfl rfl)
      exact goodRun2.val (c := .pointer (some ⟨b, 2, none⟩)) (by clear hdep hoth hdo hC; go_simp) (by rw [mark_other done (show 5 ≠ 13 by decide), mark_other done (show 10 ≠ 13 by decide), mark_other done (show 15 ≠ 13 by decide)]; exact hC) rfl
    | 14, ho =>
      obtain rfl := Option.some.inj ho
      refine StepOk2.free rfl ?_
      intro done a V hC hdn hdo hdep hoth
      have x21 : a.tmps[21]?.getD undef = .pointer (some ⟨b, 2, none⟩) := slot_of (hdep _ 21 (Array.mem_of_getElem? (i := 0) rfl) rfl rfl)
      have c2 : V.cell? ⟨b, 2, none⟩ = some (.pointer (some ⟨bf, 0, none⟩)) := by simp [World.cell?, hC.row, H2.out]
      exact goodRun2.val (c := .pointer (some ⟨bf, 0, none⟩)) (by clear hdep hoth hdo hC; go_simp) (by rw [mark_other done (show 5 ≠ 14 by decide), mark_other done (show 10 ≠ 14 by decide), mark_other done (show 15 ≠ 14 by decide)]; exact hC) rfl
    | 15, ho =>
      obtain rfl := Option.some.inj ho
      refine StepOk2.free rfl ?_
      intro done a V hC hdn hdo hdep hoth
      have x22 : a.tmps[22]?.getD undef = .pointer (some ⟨bf, 0, none⟩) := slot_of (hdep _ 22 (Array.mem_of_getElem? (i := 0) rfl) rfl rfl)
      refine goodRun2.call (f := 13) (args := #[.pointer (some ⟨bf, 0, none⟩)]) (by clear hdep hoth hdo hC; go_simp) ?_
      rw [hdn] at hC
      obtain ⟨m, n, D, fv, lv, h3, h4, h5, h6, h7⟩ := hC.wat.fl
      refine (fl_end2 h3).mono ?_
      rintro v w1 ⟨rfl, hA, hg⟩
      refine ⟨_, rfl, ?_, fun _ _ _ h => h, rfl⟩
      rw [mark_same, mark_other done (show 5 ≠ 15 by decide), mark_other done (show 10 ≠ 15 by decide)]
      exact ⟨hC.wat.setF h3 h4 h5 h6 h7 hg hA, rowF h3 hC.row hg, hC.fr.trans (frF h3 h4 hg) (fun _ _ x => x)⟩
    | 16, ho =>
      obtain rfl := Option.some.inj ho
      refine StepOk2.free rfl ?_
      intro done a V hC hdn hdo hdep hoth
      have x13 : a.tmps[13]?.getD undef = .bool (s.a.well wh) := slot_of (hdep _ 13 (Array.mem_of_getElem? (i := 0) rfl) rfl rfl)
      exact goodRun2.val (c := .bool (s.a.well wh)) (by clear hdep hoth hdo hC; go_simp) (by rw [mark_other done (show 5 ≠ 16 by decide), mark_other done (show 10 ≠ 16 by decide), mark_other done (show 15 ≠ 16 by decide)]; exact hC) rfl
    | 17, ho =>
      obtain rfl := Option.some.inj ho
      refine StepOk2.free rfl ?_
      intro done a V hC hdn hdo hdep hoth
      have x18 : a.tmps[18]?.getD undef = .bool (!s.g.bad) := slot_of (hdep _ 18 (Array.mem_of_getElem? (i := 0) rfl) rfl rfl)
      exact goodRun2.val (c := .bool (!s.g.bad)) (by clear hdep hoth hdo hC; go_simp) (by rw [mark_other done (show 5 ≠ 17 by decide), mark_other done (show 10 ≠ 17 by decide), mark_other done (show 15 ≠ 17 by decide)]; exact hC) rfl
    | 18, ho =>
      obtain rfl := Option.some.inj ho
      refine StepOk2.free rfl ?_
      intro done a V hC hdn hdo hdep hoth
      have x23 : a.tmps[23]?.getD undef = .bool (!s.f.bad) := slot_of (hdep _ 23 (Array.mem_of_getElem? (i := 0) rfl) rfl rfl)
      exact goodRun2.val (c := .bool (!s.f.bad)) (by clear hdep hoth hdo hC; go_simp) (by rw [mark_other done (show 5 ≠ 18 by decide), mark_other done (show 10 ≠ 18 by decide), mark_other done (show 15 ≠ 18 by decide)]; exact hC) rfl
    | n + 19, ho => simp at ho
  · intro vals V hC hS
    have HC : Hid (WatTo F w V b ba bg bf e s.zero c) := by rw [← stE1]; exact hC
    have v5 : vals 16 = .bool (s.a.well wh) := hS 16 (by decide)
    have v10 : vals 17 = .bool (!s.g.bad) := hS 17 (by decide)
    have v15 : vals 18 = .bool (!s.f.bad) := hS 18 (by decide)
    clear hC hS HW H0 H1 H2
    simp only [fill, dstOf]
    go_simp
    have hk : ∀ x y z, s.a.well wh = x → s.g.bad = y → s.f.bad = z → s.kind wh = if x = false then 1 else if y = true then 2 else if z = true then 3 else 0 := fun x y z h1 h2 h3 => by unfold WSt.kind kindW; rw [h1, h2, h3]
    have HK : Hid _ := hk
    clear hk v5 v10 v15
    cases q1 : s.a.well wh
    · have HR : Hid (s.kind wh = 1) := by show _ = _; have := HK.out false _ _ q1 rfl rfl; simpa using this
      clear HK
      go_wp2
      go_ret
      exact ⟨by rw [HR.out]; rfl, HC.out⟩
    · cases q2 : s.g.bad
      · cases q3 : s.f.bad
        · have HR : Hid (s.kind wh = 0) := by show _ = _; have := HK.out _ _ _ q1 q2 q3; simpa using this
          clear HK
          go_wp2
          go_ret
          exact ⟨by rw [HR.out]; rfl, HC.out⟩
        · have HR : Hid (s.kind wh = 3) := by show _ = _; have := HK.out _ _ _ q1 q2 q3; simpa using this
          clear HK
          go_wp2
          go_ret
          exact ⟨by rw [HR.out]; rfl, HC.out⟩
      · have HR : Hid (s.kind wh = 2) := by show _ = _; have := HK.out _ _ _ q1 q2 rfl; simpa using this
        clear HK
        go_wp2
        go_ret
        exact ⟨by rw [HR.out]; rfl, HC.out⟩
end
end Go.Proofs.YtpaolneaomeoiabDoor
