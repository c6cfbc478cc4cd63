/-
  nightwatchlaw2.ordered by a contract: it answers true. No condition.
-/
import Derived.Test.YtbholbenjalliabDoorFlNew
namespace Go.Proofs.YtbholbenjalliabDoor
open Go.RowKit Go.Extern.Stop Go.Stop Go.Extern

theorem slat_row {α : Type} {enc : α → List Value} {k : Nat} (henc : ∀ x, (enc x).length = k) {w : World} {g cap : Nat} {T : TypeId} {xs : List α} {cs : Array Value} (h : w.heap[g]? = some (.cells cs T (0, 0))) (hcs : cs = (xs.flatMap enc).toArray) (hle : xs.length ≤ cap) : SlAt enc k w (.slice (some ⟨g, 0, none⟩) xs.length cap) xs := by
  subst hcs
  refine ⟨_, cap, rfl, hle, fun _ => ⟨g, 0, rfl, fun i x hx j u hu => ?_⟩⟩
  have := flat_at henc xs i j x u hx hu
  simp only [World.cell?, h, Nat.zero_add]
  simpa using this
theorem al_at {w : World} {o : Obj} {n : Nat} (h : n = w.heap.size) : (w.alloc o).heap[n]? = some o := by rw [h]; exact (MapKept.heap_alloc w o).1
theorem al_old {w : World} {o x : Obj} {n : Nat} (h : w.heap[n]? = some x) : (w.alloc o).heap[n]? = some x := row_below (Below.one _ _) h
theorem slat_none {α : Type} {enc : α → List Value} {k : Nat} (w : World) : SlAt enc k w (.slice none 0 0) ([] : List α) := ⟨none, 0, rfl, Nat.le_refl _, fun h => absurd rfl h⟩
section
variable {w0 w : World} {b : Nat} {e : EntD} {s s' : FSt}
theorem fl_rep_to (p : Int) (h : FlIn w0 w b e s) (hs : s.rep e p = s') :
    Calls Tryd.prog 9 #[.pointer (some ⟨b, 0, none⟩), .int .i64 p] w fun v w' => v = .returned (.tuple #[]) ∧ FlIn w0 w' b e s' := by
  subst hs; exact (fl_report p h).mono fun _ _ h => ⟨h.1, h.2.1⟩
theorem fl_end_to {v : Bool} (h : FlIn w0 w b e s) (hv : (!s.bad) = v) (hs : s.zero = s') :
    Calls Tryd.prog 10 #[.pointer (some ⟨b, 0, none⟩)] w fun z w' => z = .returned (.bool v) ∧ FlIn w0 w' b e s' := by
  subst hs hv; exact (fl_end h).mono fun _ _ h => ⟨h.1, h.2.1⟩
end
def ordE : EntD := ⟨⟨#[]⟩, 0, [⟨#[112]⟩, ⟨#[113]⟩], 0, 0, 0, [], [(0, 1)], [0], [1]⟩
set_option maxHeartbeats 1000000 in
set_option maxRecDepth 100000 in
theorem ordered_any (w : World) : Calls Tryd.prog 5 #[] w fun v w' => v = .returned (.bool true) ∧ Below w.heap.size w w' := by
  go_enter Tryd.func5, Tryd.ntmps5
  go_wp2_with fail
  obtain ⟨W, hW⟩ : ∃ V, V = (((w.alloc (.cells #[.string ⟨#[112]⟩, .string ⟨#[113]⟩] 9)).alloc (.cells #[.int .i64 0, .int .i64 1] 42)).alloc (.cells #[.int .i64 0] 3)).alloc (.cells #[.int .i64 1] 3) := ⟨_, rfl⟩
  rw [← hW]
  have hbW : Below w.heap.size w W := by rw [hW]; exact ((((Below.refl _ _).alloc (Nat.le_refl _) _).alloc (by simp) _).alloc (by simp; omega) _).alloc (by simp; omega) _
  have r0 : W.heap[w.heap.size]? = some (.cells #[.string ⟨#[112]⟩, .string ⟨#[113]⟩] 9 (0, 0)) := by rw [hW]; exact al_old (al_old (al_old (al_at rfl)))
  have r1 : W.heap[w.heap.size + 1]? = some (.cells #[.int .i64 0, .int .i64 1] 42 (0, 0)) := by rw [hW]; exact al_old (al_old (al_at (by simp)))
  have r2 : W.heap[w.heap.size + 2]? = some (.cells #[.int .i64 0] 3 (0, 0)) := by rw [hW]; exact al_old (al_at (by simp))
  have r3 : W.heap[w.heap.size + 3]? = some (.cells #[.int .i64 1] 3 (0, 0)) := by rw [hW]; exact al_at (by simp)
  have HEP : Hid (EntParts W ordE (.slice (some ⟨w.heap.size, 0, none⟩) 2 2) (.slice none 0 0) (.slice (some ⟨w.heap.size + 1, 0, none⟩) 1 1) (.slice (some ⟨w.heap.size + 2, 0, none⟩) 1 1) (.slice (some ⟨w.heap.size + 3, 0, none⟩) 1 1)) :=
    ⟨slat_row (enc := encS) (k := 1) (xs := ordE.pts) (cap := 2) (fun _ => rfl) r0 rfl (by decide), slat_none W, slat_row (enc := encP) (k := 2) (xs := ordE.edges) (cap := 1) (fun _ => rfl) r1 rfl (by decide), slat_row (enc := encI) (k := 1) (xs := ordE.first) (cap := 1) (fun _ => rfl) r2 rfl (by decide), slat_row (enc := encI) (k := 1) (xs := ordE.last) (cap := 1) (fun _ => rfl) r3 rfl (by decide)⟩
  have HBW : Hid (Below w.heap.size w W) := hbW
  have HSm : Hid (SmallE ordE) := ⟨by decide, by decide, (fun p hp => by simp [ordE] at hp; rcases hp with rfl | rfl <;> decide), by decide, by decide, by decide, by decide⟩
  have HWf : Hid (WfE ordE.edges) := fun p hp => by
    simp [ordE] at hp
    subst hp
    exact ⟨wf64_of (by decide) (by decide), wf64_of (by decide) (by decide)⟩
  clear r0 r1 r2 r3 hW hbW
  refine (fl_new ordE _ _ _ _ _ _ _ _ _ _ W HEP.out HSm.out HWf.out).mono ?_
  rintro v w1 ⟨b, rfl, h1⟩
  have D1 : FlIn w w1 b ordE ⟨-1, false⟩ := h1.from HBW.out
  clear h1 HEP HBW
  go_wp2_with fail
  refine (fl_rep_to (s' := ⟨0, false⟩) 0 D1 (by rfl)).mono ?_
  rintro v w2 ⟨rfl, D2⟩
  clear D1
  go_wp2_with fail
  refine (fl_rep_to (s' := ⟨-1, false⟩) 1 D2 (by rfl)).mono ?_
  rintro v w3 ⟨rfl, D3⟩
  clear D2
  go_wp2_with fail
  refine (fl_at (v := -1) D3 rfl).mono ?_
  rintro v w3' ⟨rfl, rfl⟩
  go_wp2_with fail
  refine (fl_end_to (v := true) (s' := ⟨-1, false⟩) D3 rfl rfl).mono ?_
  rintro v w4 ⟨rfl, D4⟩
  clear D3
  go_wp2_with fail
  refine (fl_rep_to (s' := ⟨-1, true⟩) 1 D4 (by rfl)).mono ?_
  rintro v w5 ⟨rfl, D5⟩
  clear D4
  go_wp2_with fail
  refine (fl_end_to (v := false) (s' := ⟨-1, false⟩) D5 rfl rfl).mono ?_
  rintro v w6 ⟨rfl, D6⟩
  go_wp2
  go_ret
  exact ⟨rfl, D6.1⟩
end Go.Proofs.YtbholbenjalliabDoor
