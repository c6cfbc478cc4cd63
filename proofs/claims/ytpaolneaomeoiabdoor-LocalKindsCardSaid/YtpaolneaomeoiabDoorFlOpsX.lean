/-
  (*flow.Flow).bears, behind, Report by contracts. Conditions: as FlSt's.
-/
import Derived.Test.YtpaolneaomeoiabDoorFlStX
import Derived.Maps.AppendAt
namespace Go.Proofs.YtpaolneaomeoiabDoor
open Go.RowKit Go.Extern.Stop Go.Stop Go.Extern

variable {B b m n : Nat} {w0 w w' : World} {e : EntD} {s : FSt} {D : DataW Unit} {fv lv : Value}
theorem gr_refl (w : World) (r : Option Nat) : w.grownBy w r := ⟨rfl, rfl, rfl, Nat.le_refl _, fun _ _ _ => rfl⟩
theorem Tryd.zeroUnit (w : World) : (zeroValue 64).run Tryd.prog w = .ok (.agg #[]) w := by kernel_rfl
theorem FlAt.pts (h : FlAt B w b e s m n D fv lv) : e.pts.length ≤ 1000000 := h.sm.hp
theorem hasP_wf {p : Int} (h : hasP e p = true) (hp : e.pts.length ≤ 1000000) : wf64 p := by
  unfold hasP at h
  simp at h
  exact wf64_of (by omega) (by omega)
theorem ah_wf {a : Int} (h : a = -1 ∨ (0 ≤ a ∧ a < (e.pts.length : Int))) (hp : e.pts.length ≤ 1000000) : wf64 a := by
  rcases h with rfl | h
  · exact wf64_of (by omega) (by omega)
  · exact wf64_of (by omega) (by omega)
set_option maxHeartbeats 2000000 in
set_option maxRecDepth 100000 in
theorem fl_bears (ah p : Int) (h : FlAt B w b e s m n D fv lv) (hah : ah = -1 ∨ (0 ≤ ah ∧ ah < (e.pts.length : Int))) :
    Calls Tryd.prog 28 #[.pointer (some ⟨b, 0, none⟩), .int .i64 ah, .int .i64 p] w fun v w' => v = .returned (.bool (bearsE e ah p)) ∧ w.grownBy w' none := by
  have H : Hid (FlAt B w b e s m n D fv lv) := h
  have c1 := h.cell 1 _ rfl
  have HS := edgeMap_size h.edg h.wf
  have HAw : Hid (wf64 ah) := ah_wf hah h.pts
  clear h hah
  by_cases h0 : e.edges = []
  · have hz : Maps.size D = 0 := HS.2 h0
    have HR : Hid (bearsE e ah p = true) := by show _ = _; unfold bearsE; rw [decide_eq_true h0]; rfl
    clear HS h0
    go_enter Tryd.func28, Tryd.ntmps28
    go_wp2_with (at_len; refine wpList_len_own _ rfl _ 60 rfl 59 64 Tryd.underlying60 unitElem m n D rfl H.out.own ?_)
    go_ret
    exact ⟨by rw [HR.out]; rfl, gr_refl _ _⟩
  have hz : ¬ ((Maps.size D : Nat) : Int) = 0 := fun h => h0 (HS.1 (by omega))
  have HD : Hid (bearsE e ah p = (hasP e p && (if ah = -1 then decide (p ∈ e.first) else decide ((ah, p) ∈ e.edges)))) := by show _ = _; unfold bearsE; rw [decide_eq_false h0]; rfl
  clear HS h0
  cases hp : hasP e p
  · have HR : Hid (bearsE e ah p = false) := by show _ = _; rw [HD.out, hp]; rfl
    go_enter Tryd.func28, Tryd.ntmps28
    go_wp2_with (first | (at_len; refine wpList_len_own _ rfl _ 60 rfl 59 64 Tryd.underlying60 unitElem m n D rfl H.out.own ?_) | (go_at_call 42; refine (fl_has p H.out).mono ?_; rw [hp]; rintro v w' ⟨rfl, rfl⟩))
    go_ret
    exact ⟨by rw [HR.out]; rfl, gr_refl _ _⟩
  have HPw : Hid (wf64 p) := hasP_wf hp H.out.pts
  by_cases ha : ah = -1
  · have HR : Hid (bearsE e ah p = decide (p ∈ e.first)) := by show _ = _; rw [HD.out, hp, if_pos ha]; rfl
    have c2 := H.out.cell 2 _ rfl
    obtain ⟨sa, c, rfl⟩ := ow_form H.out.hf
    subst ha
    go_enter Tryd.func28, Tryd.ntmps28
    go_wp2_with (first | (at_len; refine wpList_len_own _ rfl _ 60 rfl 59 64 Tryd.underlying60 unitElem m n D rfl H.out.own ?_) | (go_at_call 42; refine (fl_has p H.out).mono ?_; rw [hp]; rintro v w' ⟨rfl, rfl⟩) | (go_at_call 43; refine (scontains_at e.first p _ _ _ (H.out.hf.slat (fun _ => rfl)) H.out.sm.hf).mono ?_; rintro v w' ⟨rfl, rfl⟩))
    go_ret
    exact ⟨by rw [HR.out]; rfl, gr_refl _ _⟩
  · have HR : Hid (bearsE e ah p = decide ((ah, p) ∈ e.edges)) := by show _ = _; rw [HD.out, hp, if_neg ha]; rfl
    have HM : Hid (Maps.has D (ekey (ah, p)) = decide ((ah, p) ∈ e.edges)) := H.out.edg.2.2 (ah, p) HAw.out HPw.out
    go_enter Tryd.func28, Tryd.ntmps28
    go_wp2_with (first | (at_len; refine wpList_len_own _ rfl _ 60 rfl 59 64 Tryd.underlying60 unitElem m n D rfl H.out.own ?_) | (go_at_call 42; refine (fl_has p H.out).mono ?_; rw [hp]; rintro v w' ⟨rfl, rfl⟩) | (at_lookup; refine wpList_lookup_own_unit _ rfl _ _ 60 rfl 59 64 Tryd.lawTwo Tryd.underlying60 (Tryd.zeroUnit _) m n D rfl H.out.own _ _ rfl (keyOf_two HAw.out HPw.out) ?_))
    go_ret
    exact ⟨by rw [HR.out, ← HM.out]; rfl, World.grownBy_alloc _ _ _⟩
set_option maxHeartbeats 1000000 in
set_option maxRecDepth 100000 in
theorem fl_behind (p : Int) (h : FlAt B w b e s m n D fv lv) :
    Calls Tryd.prog 29 #[.pointer (some ⟨b, 0, none⟩), .int .i64 p] w fun v w' => v = .returned (.int .i64 (behindE e p)) ∧ w' = w := by
  have H : Hid (FlAt B w b e s m n D fv lv) := h
  clear h
  cases hp : hasP e p
  · have HR : Hid (behindE e p = -1) := by show _ = _; unfold behindE; rw [if_neg (by rw [hp]; simp)]
    go_enter Tryd.func29, Tryd.ntmps29
    go_wp2_with (go_at_call 42; refine (fl_has p H.out).mono ?_; rw [hp]; rintro v w' ⟨rfl, rfl⟩)
    go_ret
    exact ⟨by rw [HR.out]; rfl, rfl⟩
  have c3 := H.out.cell 3 _ rfl
  obtain ⟨sa, c, rfl⟩ := ow_form H.out.hl
  by_cases hl : p ∈ e.last
  · have HR : Hid (behindE e p = -1) := by show _ = _; unfold behindE; rw [if_neg (fun h => h.2 hl)]
    have hd : decide (p ∈ e.last) = true := decide_eq_true hl
    clear hl
    go_enter Tryd.func29, Tryd.ntmps29
    go_wp2_with (first | (go_at_call 42; refine (fl_has p H.out).mono ?_; rw [hp]; rintro v w' ⟨rfl, rfl⟩) | (go_at_call 43; refine (scontains_at e.last p _ _ _ (H.out.hl.slat (fun _ => rfl)) H.out.sm.hl).mono ?_; rw [hd]; rintro v w' ⟨rfl, rfl⟩))
    go_ret
    exact ⟨by rw [HR.out]; rfl, rfl⟩
  · have HR : Hid (behindE e p = p) := by show _ = _; unfold behindE; rw [if_pos ⟨hp, hl⟩]
    have hd : decide (p ∈ e.last) = false := decide_eq_false hl
    clear hl
    go_enter Tryd.func29, Tryd.ntmps29
    go_wp2_with (first | (go_at_call 42; refine (fl_has p H.out).mono ?_; rw [hp]; rintro v w' ⟨rfl, rfl⟩) | (go_at_call 43; refine (scontains_at e.last p _ _ _ (H.out.hl.slat (fun _ => rfl)) H.out.sm.hl).mono ?_; rw [hd]; rintro v w' ⟨rfl, rfl⟩))
    go_ret
    exact ⟨by rw [HR.out]; rfl, rfl⟩
theorem below_of_grown (h : w.grownBy w' none) : Below w.heap.size w w' := ⟨h.os, h.tape, h.output, h.size, fun k hk => h.block k hk (by simp)⟩
set_option maxHeartbeats 2000000 in
set_option maxRecDepth 100000 in
theorem fl_report (p : Int) (h : FlIn w0 w b e s) :
    Calls Tryd.prog 12 #[.pointer (some ⟨b, 0, none⟩), .int .i64 p] w fun v w' => v = .returned (.tuple #[]) ∧ FlIn w0 w' b e (s.rep e p) ∧ w.grownBy w' (some b) := by
  obtain ⟨h0, m, n, D, fv, lv, h⟩ := h
  have H : Hid (FlAt w0.heap.size w b e s m n D fv lv) := h
  have HB0 : Hid (Below w0.heap.size w0 w) := h0
  have c5 := h.cell 5 _ rfl
  have c4 := h.cell 4 _ rfl
  have fin : ∀ (V : World) (z : Bool), w.grownBy V none → z = (s.bad || !bearsE e s.ah p) → FlAt w0.heap.size (V.setCell ⟨b, 5, none⟩ (.bool z)) b e ⟨s.ah, z⟩ m n D fv lv ∧ FlIn w0 ((V.setCell ⟨b, 5, none⟩ (.bool z)).setCell ⟨b, 4, none⟩ (.int .i64 (behindE e p))) b e (s.rep e p) ∧ w.grownBy ((V.setCell ⟨b, 5, none⟩ (.bool z)).setCell ⟨b, 4, none⟩ (.int .i64 (behindE e p))) (some b) := fun V z hV hz => by
    have hb := below_of_grown hV
    have h1 : FlAt w0.heap.size V b e s m n D fv lv := h.below hb
    have h2 := h1.setBad z
    have h3 := h2.setAh (behind_fit e p)
    have hB1 : Below w0.heap.size w0 V := h0.trans (hb.mono h0.size)
    refine ⟨h2, ⟨(hB1.setCell (p := ⟨b, 5, none⟩) h.lo _).setCell (p := ⟨b, 4, none⟩) h.lo _, m, n, D, fv, lv, ?_⟩, ?_⟩
    · unfold FSt.rep; rw [← hz]; exact h3
    · exact ((hV.but (some b)).trans (grown_setCell V b 5 _)).trans (grown_setCell _ b 4 _)
  have HFin : Hid _ := fin
  clear h h0 fin
  cases hb : s.bad
  · rw [hb] at c5 HFin
    go_enter Tryd.func12, Tryd.ntmps12
    go_wp2_with fail
    refine (fl_bears s.ah p H.out H.out.fit).mono ?_
    rintro v V ⟨rfl, hV⟩
    obtain ⟨h2, h3⟩ := HFin.out V (!bearsE e s.ah p) hV rfl
    have HA : Hid (FlAt w0.heap.size (V.setCell ⟨b, 5, none⟩ (.bool (!bearsE e s.ah p))) b e ⟨s.ah, !bearsE e s.ah p⟩ m n D fv lv) := h2
    have HZ : Hid _ := h3
    have f5 : V.frozen? ⟨b, 5, none⟩ = false := (H.out.below (below_of_grown hV)).frozen 5
    have d5 : V.cell? ⟨b, 5, none⟩ = some (.bool s.bad) := (H.out.below (below_of_grown hV)).cell 5 _ rfl
    have d4 := h2.cell 4 _ rfl
    have f4 := h2.frozen 4
    clear h2 h3 HFin hV c4 c5 H
    go_wp2_with (go_at_call 29; refine (fl_behind p HA.out).mono ?_; rintro v w' ⟨rfl, rfl⟩)
    go_end0
    exact ⟨rfl, HZ.out⟩
  · rw [hb] at c5 HFin
    obtain ⟨h2, h3⟩ := HFin.out w true (gr_refl _ _) rfl
    have HA : Hid (FlAt w0.heap.size (w.setCell ⟨b, 5, none⟩ (.bool true)) b e ⟨s.ah, true⟩ m n D fv lv) := h2
    have HZ : Hid _ := h3
    have f5 : w.frozen? ⟨b, 5, none⟩ = false := H.out.frozen 5
    have d4 := h2.cell 4 _ rfl
    have f4 := h2.frozen 4
    clear h2 h3 HFin H
    go_enter Tryd.func12, Tryd.ntmps12
    go_wp2_with (go_at_call 29; refine (fl_behind p HA.out).mono ?_; rintro v w' ⟨rfl, rfl⟩)
    go_end0
    exact ⟨rfl, HZ.out⟩
end Go.Proofs.YtpaolneaomeoiabDoor
