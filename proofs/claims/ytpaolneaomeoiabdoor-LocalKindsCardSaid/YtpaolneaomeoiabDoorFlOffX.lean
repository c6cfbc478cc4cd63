/-
  Package flow's Report and End by contracts that tell which block turns. Conditions: as FlSt's.
-/
import Derived.Test.YtpaolneaomeoiabDoorFlOpsX
namespace Go.Proofs.YtpaolneaomeoiabDoor
open Go.RowKit Go.Extern.Stop Go.Stop Go.Extern

variable {B b m n : Nat} {w0 w w' : World} {e : EntD} {s : FSt} {D : DataW Unit} {fv lv : Value}
set_option maxHeartbeats 1000000 in
theorem fl_end2 (h : FlAt B w b e s m n D fv lv) :
    Calls Tryd.prog 13 #[.pointer (some ⟨b, 0, none⟩)] w fun z w' => z = .returned (.bool (!s.bad)) ∧ FlAt B w' b e s.zero m n D fv lv ∧ w.grownBy w' (some b) := by
  have c5 := h.cell 5 _ rfl
  have f5 := h.frozen 5
  have HF : Hid (FlAt B (w.setCell ⟨b, 5, none⟩ (.bool false)) b e s.zero m n D fv lv) := h.setBad false
  clear h
  go_enter Tryd.func13, Tryd.ntmps13
  go_wp2
  go_ret
  exact ⟨rfl, HF.out, grown_setCell _ _ _ _⟩
set_option maxHeartbeats 2000000 in
set_option maxRecDepth 100000 in
theorem fl_report2 (p : Int) (h : FlAt B w b e s m n D fv lv) :
    Calls Tryd.prog 12 #[.pointer (some ⟨b, 0, none⟩), .int .i64 p] w fun v w' => v = .returned (.tuple #[]) ∧ FlAt B w' b e (s.rep e p) m n D fv lv ∧ w.grownBy w' (some b) := by
  have H : Hid (FlAt B w b e s m n D fv lv) := h
  have c5 := h.cell 5 _ rfl
  have c4 := h.cell 4 _ rfl
  have fin : ∀ (V : World) (z : Bool), w.grownBy V none → z = (s.bad || !bearsE e s.ah p) → FlAt B (V.setCell ⟨b, 5, none⟩ (.bool z)) b e ⟨s.ah, z⟩ m n D fv lv ∧ FlAt B ((V.setCell ⟨b, 5, none⟩ (.bool z)).setCell ⟨b, 4, none⟩ (.int .i64 (behindE e p))) b e (s.rep e p) m n D fv lv ∧ w.grownBy ((V.setCell ⟨b, 5, none⟩ (.bool z)).setCell ⟨b, 4, none⟩ (.int .i64 (behindE e p))) (some b) := fun V z hV hz => by
    have hb := below_of_grown hV
    have h1 : FlAt B V b e s m n D fv lv := h.below hb
    have h2 := h1.setBad z
    have h3 := h2.setAh (behind_fit e p)
    refine ⟨h2, ?_, ?_⟩
    · unfold FSt.rep; rw [← hz]; exact h3
    · exact ((hV.but (some b)).trans (grown_setCell V b 5 _)).trans (grown_setCell _ b 4 _)
  have HFin : Hid _ := fin
  clear h fin
  cases hb : s.bad
  · rw [hb] at c5 HFin
    go_enter Tryd.func12, Tryd.ntmps12
    go_wp2_with fail
    refine (fl_bears s.ah p H.out H.out.fit).mono ?_
    rintro v V ⟨rfl, hV⟩
    obtain ⟨h2, h3⟩ := HFin.out V (!bearsE e s.ah p) hV rfl
    have HA : Hid (FlAt B (V.setCell ⟨b, 5, none⟩ (.bool (!bearsE e s.ah p))) b e ⟨s.ah, !bearsE e s.ah p⟩ m n D fv lv) := h2
    have HZ : Hid _ := h3
    have f5 : V.frozen? ⟨b, 5, none⟩ = false := (H.out.below (below_of_grown hV)).frozen 5
    have d5 : V.cell? ⟨b, 5, none⟩ = some (.bool s.bad) := (H.out.below (below_of_grown hV)).cell 5 _ rfl
    have d4 := h2.cell 4 _ rfl
    have f4 := h2.frozen 4
    clear h2 h3 HFin hV c4 c5 H
    go_wp2_with (go_at_call 29; refine (fl_behind p HA.out).mono ?_; rintro v w' ⟨rfl, rfl⟩)
    go_end0
    exact ⟨rfl, HZ.out⟩
  · rw [hb] at c5 HFin
    obtain ⟨h2, h3⟩ := HFin.out w true (gr_refl _ _) rfl
    have HA : Hid (FlAt B (w.setCell ⟨b, 5, none⟩ (.bool true)) b e ⟨s.ah, true⟩ m n D fv lv) := h2
    have HZ : Hid _ := h3
    have f5 : w.frozen? ⟨b, 5, none⟩ = false := H.out.frozen 5
    have d4 := h2.cell 4 _ rfl
    have f4 := h2.frozen 4
    clear h2 h3 HFin H
    go_enter Tryd.func12, Tryd.ntmps12
    go_wp2_with (go_at_call 29; refine (fl_behind p HA.out).mono ?_; rintro v w' ⟨rfl, rfl⟩)
    go_end0
    exact ⟨rfl, HZ.out⟩
end Go.Proofs.YtpaolneaomeoiabDoor
