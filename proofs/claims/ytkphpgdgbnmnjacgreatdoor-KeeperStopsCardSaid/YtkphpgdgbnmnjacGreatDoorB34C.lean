/-
  Several texts as one: DcFault, KlBase, KeTicks.
-/
import Derived.Test.YtkphpgdgbnmnjacGreatDoorB33C
import Derived.Test.YtkphpgdgbnmnjacGreatDoorB27C
import Derived.Test.YtkphpgdgbnmnjacGreatDoorB29C
import Derived.Test.YtkphpgdgbnmnjacGreatDoorB30C
import Derived.Test.YtkphpgdgbnmnjacGreatDoorB16C
import Derived.OwnWalk
namespace Go.Proofs.YtkphpgdgbnmnjacGreatDoor
open Go.RowKit Go.Extern.Stop Go.Stop Go.Extern

theorem Tryz.sizeFlt : (Tryz.prog.info? 29).map (·.size) = some 2 := by kernel_rfl
theorem bare_at (n : Int) (w : World) : Calls Tryz.prog 36 #[.int .i64 n] w fun v w' => v = .returned (.agg #[.int .i64 n, .int .i64 (-1)]) ∧ Below w.heap.size w w' := by
  go_enter Tryz.func36, Tryz.ntmps36
  go_wp2_with fail
  refine bodyPost_ret (results_cell_row rfl _ _ w.heap.size _ _ _ _ rfl (heap_alloc_new w _) Tryz.underlying29 rfl Tryz.sizeFlt) rfl ?_
  exact ⟨rfl, Below.one _ _⟩
theorem fine_at (w : World) : Calls Tryz.prog 44 #[] w fun v w' => v = .returned (.agg #[.int .i64 0, .int .i64 (-1)]) ∧ Below w.heap.size w w' := by
  go_enter Tryz.func44, Tryz.ntmps44
  go_wp2_with fail
  refine bodyPost_ret (results_cell_row rfl _ _ w.heap.size _ _ _ _ rfl (heap_alloc_new w _) Tryz.underlying29 rfl Tryz.sizeFlt) rfl ?_
  exact ⟨rfl, Below.one _ _⟩
theorem whole_bad {c : CfgD} {n : Nat} (hn : n ≠ 0) (h : wholeErr c = n) : cfgErr c = (n, -1) := by unfold cfgErr; rw [if_neg (by rw [h]; exact hn), h]
theorem whole_ok {c : CfgD} (h : wholeErr c = 0) : cfgErr c = entsErr [] 0 c.ents := by unfold cfgErr; rw [if_pos h]
theorem ents_stop {a : List ByteArray} {k : Nat} {e : EntD} {t : List EntD} (h : entErr a e ≠ 0) : entsErr a k (e :: t) = (entErr a e, (k : Int)) := by rw [entsErr, if_neg h]
theorem ents_go {a : List ByteArray} {k : Nat} {e : EntD} {t : List EntD} (h : entErr a e = 0) : entsErr a k (e :: t) = entsErr (a ++ [e.name]) (k + 1) t := by rw [entsErr, if_pos h]
set_option maxHeartbeats 8000000 in
set_option maxRecDepth 100000 in
theorem cfault_at (c : CfgD) (sa : Option Addr) (sc : Nat) (w : World) (hE : EntsAt w (.slice sa c.ents.length sc) c.ents) (hS : SmallC c) :
    Calls Tryz.prog 10 #[.agg #[.int .i64 c.closed, .int .i64 c.opn, .int .i64 c.cycle, .int .i64 c.delay, .slice sa c.ents.length sc]] w fun v w' => v = .returned (.agg #[.int .i64 ((cfgErr c).1 : Int), .int .i64 (cfgErr c).2]) ∧ Below w.heap.size w w' := by
  obtain ⟨W, hW⟩ : ∃ V, V = (w.alloc (.cells #[.int .i64 c.closed, .int .i64 c.opn, .int .i64 c.cycle, .int .i64 c.delay, .slice sa c.ents.length sc] 24)).alloc (.cells #[.int .i64 0, .int .i64 0] 29) := ⟨_, rfl⟩
  have HBW : Hid (Below w.heap.size w W) := by show Below _ _ _; rw [hW]; exact (Below.one _ _).alloc (by simp) _
  have HX : Hid (∀ V, Below W.heap.size W V → ∀ (j : Nat) u, (#[.int .i64 c.closed, .int .i64 c.opn, .int .i64 c.cycle, .int .i64 c.delay, .slice sa c.ents.length sc] : Array Value)[j]? = some u → V.cell? ⟨w.heap.size, j, none⟩ = some u) := fun V hV j u hu => by
    have := row_below hV (show W.heap[w.heap.size]? = _ by rw [hW]; exact row_below (Below.one _ _) (heap_alloc_new w _))
    simp [World.cell?, this, hu]
  have HRr : Hid (∀ V, Below W.heap.size W V → V.heap[w.heap.size + 1]? = some (.cells #[.int .i64 0, .int .i64 0] 29 (0, 0))) := fun V hV => row_below hV (by rw [hW]; have := heap_alloc_new (w.alloc (.cells #[.int .i64 c.closed, .int .i64 c.opn, .int .i64 c.cycle, .int .i64 c.delay, .slice sa c.ents.length sc] 24)) (.cells #[.int .i64 0, .int .i64 0] 29); simpa using this)
  have HFin : Hid (∀ V cs, Below W.heap.size W V → Below w.heap.size w (V.setRow (w.heap.size + 1) cs)) := fun V cs hV => by
    have b1 := HBW.out.trans (hV.mono HBW.out.size)
    exact b1.grown (grown_setRow _ _ _) b1.size (fun j hj => by cases hj; omega)
  have HEn : Hid (∀ V, Below W.heap.size W V → EntsAt V (.slice sa c.ents.length sc) c.ents) := fun V hV => hE.below (HBW.out.trans (hV.mono HBW.out.size))
  have HSm : Hid (SmallC c) := hS
  have HB : Hid (Below W.heap.size W W) := Below.refl _ _
  have y0 := HX.out W (Below.refl _ _) 0 _ rfl
  have y1 := HX.out W (Below.refl _ _) 1 _ rfl
  have y2 := HX.out W (Below.refl _ _) 2 _ rfl
  have y3 := HX.out W (Below.refl _ _) 3 _ rfl
  have y4 := HX.out W (Below.refl _ _) 4 _ rfl
  clear hE hS
  go_enter Tryz.func10, Tryz.ntmps10
  go_upto_region 1 with fail
  rw [← hW]
  clear hW
  by_cases t1 : c.closed < 0
  · have HE : Hid (cfgErr c = (2, -1)) := whole_bad (by decide) (by unfold wholeErr; have q0 : (!(within c.closed 0 1000 && within c.opn 1 1000)) = true := (by unfold within; rw [decide_eq_false (p := 0 ≤ c.closed) (by omega)]; rfl); simp only [firstOf, q0]; rfl)
    go_wp2_with fail
    refine (bare_at 2 _).mono ?_
    rintro v w1 ⟨rfl, hb1⟩
    have HB1 : Hid (Below W.heap.size W w1) := HB.out.trans (hb1.mono HB.out.size)
    clear hb1
    go_wp2_with (refine wpList_store_row rfl 29 _ _ rfl (w.heap.size + 1) #[.int .i64 2, .int .i64 (-1)] rfl rfl 29 #[.int .i64 0, .int .i64 0] (HRr.out _ HB1.out) Tryz.sizeFlt rfl (by simp [Value.oneCell']) ?_)
    refine bodyPost_ret (results_cell_row rfl _ _ (w.heap.size + 1) _ _ _ _ rfl (heap_setRow _ (HRr.out _ HB1.out)) Tryz.underlying29 rfl Tryz.sizeFlt) rfl ?_
    exact ⟨by rw [HE.out]; rfl, HFin.out _ _ HB1.out⟩
  by_cases t2 : 1000 < c.closed
  · have HE : Hid (cfgErr c = (2, -1)) := whole_bad (by decide) (by unfold wholeErr; have q0 : (!(within c.closed 0 1000 && within c.opn 1 1000)) = true := (by unfold within; rw [decide_eq_false (p := c.closed ≤ 1000) (by omega)]; simp); simp only [firstOf, q0]; rfl)
    go_wp2_with fail
    refine (bare_at 2 _).mono ?_
    rintro v w1 ⟨rfl, hb1⟩
    have HB1 : Hid (Below W.heap.size W w1) := HB.out.trans (hb1.mono HB.out.size)
    clear hb1
    go_wp2_with (refine wpList_store_row rfl 29 _ _ rfl (w.heap.size + 1) #[.int .i64 2, .int .i64 (-1)] rfl rfl 29 #[.int .i64 0, .int .i64 0] (HRr.out _ HB1.out) Tryz.sizeFlt rfl (by simp [Value.oneCell']) ?_)
    refine bodyPost_ret (results_cell_row rfl _ _ (w.heap.size + 1) _ _ _ _ rfl (heap_setRow _ (HRr.out _ HB1.out)) Tryz.underlying29 rfl Tryz.sizeFlt) rfl ?_
    exact ⟨by rw [HE.out]; rfl, HFin.out _ _ HB1.out⟩
  by_cases t3 : c.opn < 1
  · have HE : Hid (cfgErr c = (2, -1)) := whole_bad (by decide) (by unfold wholeErr; have q0 : (!(within c.closed 0 1000 && within c.opn 1 1000)) = true := (by unfold within; rw [decide_eq_false (p := 1 ≤ c.opn) (by omega)]; simp); simp only [firstOf, q0]; rfl)
    go_wp2_with fail
    refine (bare_at 2 _).mono ?_
    rintro v w1 ⟨rfl, hb1⟩
    have HB1 : Hid (Below W.heap.size W w1) := HB.out.trans (hb1.mono HB.out.size)
    clear hb1
    go_wp2_with (refine wpList_store_row rfl 29 _ _ rfl (w.heap.size + 1) #[.int .i64 2, .int .i64 (-1)] rfl rfl 29 #[.int .i64 0, .int .i64 0] (HRr.out _ HB1.out) Tryz.sizeFlt rfl (by simp [Value.oneCell']) ?_)
    refine bodyPost_ret (results_cell_row rfl _ _ (w.heap.size + 1) _ _ _ _ rfl (heap_setRow _ (HRr.out _ HB1.out)) Tryz.underlying29 rfl Tryz.sizeFlt) rfl ?_
    exact ⟨by rw [HE.out]; rfl, HFin.out _ _ HB1.out⟩
  by_cases t4 : 1000 < c.opn
  · have HE : Hid (cfgErr c = (2, -1)) := whole_bad (by decide) (by unfold wholeErr; have q0 : (!(within c.closed 0 1000 && within c.opn 1 1000)) = true := (by unfold within; rw [decide_eq_false (p := c.opn ≤ 1000) (by omega)]; simp); simp only [firstOf, q0]; rfl)
    go_wp2_with fail
    refine (bare_at 2 _).mono ?_
    rintro v w1 ⟨rfl, hb1⟩
    have HB1 : Hid (Below W.heap.size W w1) := HB.out.trans (hb1.mono HB.out.size)
    clear hb1
    go_wp2_with (refine wpList_store_row rfl 29 _ _ rfl (w.heap.size + 1) #[.int .i64 2, .int .i64 (-1)] rfl rfl 29 #[.int .i64 0, .int .i64 0] (HRr.out _ HB1.out) Tryz.sizeFlt rfl (by simp [Value.oneCell']) ?_)
    refine bodyPost_ret (results_cell_row rfl _ _ (w.heap.size + 1) _ _ _ _ rfl (heap_setRow _ (HRr.out _ HB1.out)) Tryz.underlying29 rfl Tryz.sizeFlt) rfl ?_
    exact ⟨by rw [HE.out]; rfl, HFin.out _ _ HB1.out⟩
  by_cases t5 : c.cycle < 1
  · have HE : Hid (cfgErr c = (2, -1)) := whole_bad (by decide) (by unfold wholeErr; have q0 : (!(within c.closed 0 1000 && within c.opn 1 1000)) = false := (by unfold within; rw [decide_eq_true (p := 0 ≤ c.closed) (by omega), decide_eq_true (p := c.closed ≤ 1000) (by omega), decide_eq_true (p := 1 ≤ c.opn) (by omega), decide_eq_true (p := c.opn ≤ 1000) (by omega)]; rfl); have q1 : (!within c.cycle 1 100) = true := (by unfold within; first | (rw [decide_eq_false (p := 1 ≤ c.cycle) (by omega)]; rfl) | (rw [decide_eq_false (p := c.cycle ≤ 100) (by omega)]; simp)); simp only [firstOf, q0, q1]; rfl)
    go_wp2_with fail
    refine (bare_at 2 _).mono ?_
    rintro v w1 ⟨rfl, hb1⟩
    have HB1 : Hid (Below W.heap.size W w1) := HB.out.trans (hb1.mono HB.out.size)
    clear hb1
    go_wp2_with (refine wpList_store_row rfl 29 _ _ rfl (w.heap.size + 1) #[.int .i64 2, .int .i64 (-1)] rfl rfl 29 #[.int .i64 0, .int .i64 0] (HRr.out _ HB1.out) Tryz.sizeFlt rfl (by simp [Value.oneCell']) ?_)
    refine bodyPost_ret (results_cell_row rfl _ _ (w.heap.size + 1) _ _ _ _ rfl (heap_setRow _ (HRr.out _ HB1.out)) Tryz.underlying29 rfl Tryz.sizeFlt) rfl ?_
    exact ⟨by rw [HE.out]; rfl, HFin.out _ _ HB1.out⟩
  by_cases t6 : 100 < c.cycle
  · have HE : Hid (cfgErr c = (2, -1)) := whole_bad (by decide) (by unfold wholeErr; have q0 : (!(within c.closed 0 1000 && within c.opn 1 1000)) = false := (by unfold within; rw [decide_eq_true (p := 0 ≤ c.closed) (by omega), decide_eq_true (p := c.closed ≤ 1000) (by omega), decide_eq_true (p := 1 ≤ c.opn) (by omega), decide_eq_true (p := c.opn ≤ 1000) (by omega)]; rfl); have q1 : (!within c.cycle 1 100) = true := (by unfold within; first | (rw [decide_eq_false (p := 1 ≤ c.cycle) (by omega)]; rfl) | (rw [decide_eq_false (p := c.cycle ≤ 100) (by omega)]; simp)); simp only [firstOf, q0, q1]; rfl)
    go_wp2_with fail
    refine (bare_at 2 _).mono ?_
    rintro v w1 ⟨rfl, hb1⟩
    have HB1 : Hid (Below W.heap.size W w1) := HB.out.trans (hb1.mono HB.out.size)
    clear hb1
    go_wp2_with (refine wpList_store_row rfl 29 _ _ rfl (w.heap.size + 1) #[.int .i64 2, .int .i64 (-1)] rfl rfl 29 #[.int .i64 0, .int .i64 0] (HRr.out _ HB1.out) Tryz.sizeFlt rfl (by simp [Value.oneCell']) ?_)
    refine bodyPost_ret (results_cell_row rfl _ _ (w.heap.size + 1) _ _ _ _ rfl (heap_setRow _ (HRr.out _ HB1.out)) Tryz.underlying29 rfl Tryz.sizeFlt) rfl ?_
    exact ⟨by rw [HE.out]; rfl, HFin.out _ _ HB1.out⟩
  by_cases t7 : c.delay < 0
  · have HE : Hid (cfgErr c = (2, -1)) := whole_bad (by decide) (by unfold wholeErr; have q0 : (!(within c.closed 0 1000 && within c.opn 1 1000)) = false := (by unfold within; rw [decide_eq_true (p := 0 ≤ c.closed) (by omega), decide_eq_true (p := c.closed ≤ 1000) (by omega), decide_eq_true (p := 1 ≤ c.opn) (by omega), decide_eq_true (p := c.opn ≤ 1000) (by omega)]; rfl); have q1 : (!within c.cycle 1 100) = false := (by unfold within; rw [decide_eq_true (p := 1 ≤ c.cycle) (by omega), decide_eq_true (p := c.cycle ≤ 100) (by omega)]; rfl); have q2 : (!within c.delay 0 20) = true := (by unfold within; first | (rw [decide_eq_false (p := 0 ≤ c.delay) (by omega)]; rfl) | (rw [decide_eq_false (p := c.delay ≤ 20) (by omega)]; simp)); simp only [firstOf, q0, q1, q2]; rfl)
    go_wp2_with fail
    refine (bare_at 2 _).mono ?_
    rintro v w1 ⟨rfl, hb1⟩
    have HB1 : Hid (Below W.heap.size W w1) := HB.out.trans (hb1.mono HB.out.size)
    clear hb1
    go_wp2_with (refine wpList_store_row rfl 29 _ _ rfl (w.heap.size + 1) #[.int .i64 2, .int .i64 (-1)] rfl rfl 29 #[.int .i64 0, .int .i64 0] (HRr.out _ HB1.out) Tryz.sizeFlt rfl (by simp [Value.oneCell']) ?_)
    refine bodyPost_ret (results_cell_row rfl _ _ (w.heap.size + 1) _ _ _ _ rfl (heap_setRow _ (HRr.out _ HB1.out)) Tryz.underlying29 rfl Tryz.sizeFlt) rfl ?_
    exact ⟨by rw [HE.out]; rfl, HFin.out _ _ HB1.out⟩
  by_cases t8 : 20 < c.delay
  · have HE : Hid (cfgErr c = (2, -1)) := whole_bad (by decide) (by unfold wholeErr; have q0 : (!(within c.closed 0 1000 && within c.opn 1 1000)) = false := (by unfold within; rw [decide_eq_true (p := 0 ≤ c.closed) (by omega), decide_eq_true (p := c.closed ≤ 1000) (by omega), decide_eq_true (p := 1 ≤ c.opn) (by omega), decide_eq_true (p := c.opn ≤ 1000) (by omega)]; rfl); have q1 : (!within c.cycle 1 100) = false := (by unfold within; rw [decide_eq_true (p := 1 ≤ c.cycle) (by omega), decide_eq_true (p := c.cycle ≤ 100) (by omega)]; rfl); have q2 : (!within c.delay 0 20) = true := (by unfold within; first | (rw [decide_eq_false (p := 0 ≤ c.delay) (by omega)]; rfl) | (rw [decide_eq_false (p := c.delay ≤ 20) (by omega)]; simp)); simp only [firstOf, q0, q1, q2]; rfl)
    go_wp2_with fail
    refine (bare_at 2 _).mono ?_
    rintro v w1 ⟨rfl, hb1⟩
    have HB1 : Hid (Below W.heap.size W w1) := HB.out.trans (hb1.mono HB.out.size)
    clear hb1
    go_wp2_with (refine wpList_store_row rfl 29 _ _ rfl (w.heap.size + 1) #[.int .i64 2, .int .i64 (-1)] rfl rfl 29 #[.int .i64 0, .int .i64 0] (HRr.out _ HB1.out) Tryz.sizeFlt rfl (by simp [Value.oneCell']) ?_)
    refine bodyPost_ret (results_cell_row rfl _ _ (w.heap.size + 1) _ _ _ _ rfl (heap_setRow _ (HRr.out _ HB1.out)) Tryz.underlying29 rfl Tryz.sizeFlt) rfl ?_
    exact ⟨by rw [HE.out]; rfl, HFin.out _ _ HB1.out⟩
  by_cases t9 : 8 < (c.ents.length : Int)
  · have HE : Hid (cfgErr c = (2, -1)) := whole_bad (by decide) (by unfold wholeErr; have q0 : (!(within c.closed 0 1000 && within c.opn 1 1000)) = false := (by unfold within; rw [decide_eq_true (p := 0 ≤ c.closed) (by omega), decide_eq_true (p := c.closed ≤ 1000) (by omega), decide_eq_true (p := 1 ≤ c.opn) (by omega), decide_eq_true (p := c.opn ≤ 1000) (by omega)]; rfl); have q1 : (!within c.cycle 1 100) = false := (by unfold within; rw [decide_eq_true (p := 1 ≤ c.cycle) (by omega), decide_eq_true (p := c.cycle ≤ 100) (by omega)]; rfl); have q2 : (!within c.delay 0 20) = false := (by unfold within; rw [decide_eq_true (p := 0 ≤ c.delay) (by omega), decide_eq_true (p := c.delay ≤ 20) (by omega)]; rfl); have q3 : decide (8 < c.ents.length) = true := decide_eq_true (by omega); simp only [firstOf, q0, q1, q2, q3]; rfl)
    go_wp2_with fail
    refine (bare_at 2 _).mono ?_
    rintro v w1 ⟨rfl, hb1⟩
    have HB1 : Hid (Below W.heap.size W w1) := HB.out.trans (hb1.mono HB.out.size)
    clear hb1
    go_wp2_with (refine wpList_store_row rfl 29 _ _ rfl (w.heap.size + 1) #[.int .i64 2, .int .i64 (-1)] rfl rfl 29 #[.int .i64 0, .int .i64 0] (HRr.out _ HB1.out) Tryz.sizeFlt rfl (by simp [Value.oneCell']) ?_)
    refine bodyPost_ret (results_cell_row rfl _ _ (w.heap.size + 1) _ _ _ _ rfl (heap_setRow _ (HRr.out _ HB1.out)) Tryz.underlying29 rfl Tryz.sizeFlt) rfl ?_
    exact ⟨by rw [HE.out]; rfl, HFin.out _ _ HB1.out⟩
  by_cases t10 : c.opn < c.cycle
  · have HE : Hid (cfgErr c = (3, -1)) := whole_bad (by decide) (by unfold wholeErr; have q0 : (!(within c.closed 0 1000 && within c.opn 1 1000)) = false := (by unfold within; rw [decide_eq_true (p := 0 ≤ c.closed) (by omega), decide_eq_true (p := c.closed ≤ 1000) (by omega), decide_eq_true (p := 1 ≤ c.opn) (by omega), decide_eq_true (p := c.opn ≤ 1000) (by omega)]; rfl); have q1 : (!within c.cycle 1 100) = false := (by unfold within; rw [decide_eq_true (p := 1 ≤ c.cycle) (by omega), decide_eq_true (p := c.cycle ≤ 100) (by omega)]; rfl); have q2 : (!within c.delay 0 20) = false := (by unfold within; rw [decide_eq_true (p := 0 ≤ c.delay) (by omega), decide_eq_true (p := c.delay ≤ 20) (by omega)]; rfl); have q3 : decide (8 < c.ents.length) = false := decide_eq_false (by omega); have q4 : decide (c.opn < c.cycle) = true := decide_eq_true (by omega); simp only [firstOf, q0, q1, q2, q3, q4]; rfl)
    go_wp2_with fail
    refine (bare_at 3 _).mono ?_
    rintro v w1 ⟨rfl, hb1⟩
    have HB1 : Hid (Below W.heap.size W w1) := HB.out.trans (hb1.mono HB.out.size)
    clear hb1
    go_wp2_with (refine wpList_store_row rfl 29 _ _ rfl (w.heap.size + 1) #[.int .i64 3, .int .i64 (-1)] rfl rfl 29 #[.int .i64 0, .int .i64 0] (HRr.out _ HB1.out) Tryz.sizeFlt rfl (by simp [Value.oneCell']) ?_)
    refine bodyPost_ret (results_cell_row rfl _ _ (w.heap.size + 1) _ _ _ _ rfl (heap_setRow _ (HRr.out _ HB1.out)) Tryz.underlying29 rfl Tryz.sizeFlt) rfl ?_
    exact ⟨by rw [HE.out]; rfl, HFin.out _ _ HB1.out⟩
  have HW0 : Hid (cfgErr c = entsErr [] 0 c.ents) := whole_ok (by
    unfold wholeErr
    have q0 : (!(within c.closed 0 1000 && within c.opn 1 1000)) = false := (by unfold within; rw [decide_eq_true (p := 0 ≤ c.closed) (by omega), decide_eq_true (p := c.closed ≤ 1000) (by omega), decide_eq_true (p := 1 ≤ c.opn) (by omega), decide_eq_true (p := c.opn ≤ 1000) (by omega)]; rfl)
    have q1 : (!within c.cycle 1 100) = false := (by unfold within; rw [decide_eq_true (p := 1 ≤ c.cycle) (by omega), decide_eq_true (p := c.cycle ≤ 100) (by omega)]; rfl)
    have q2 : (!within c.delay 0 20) = false := (by unfold within; rw [decide_eq_true (p := 0 ≤ c.delay) (by omega), decide_eq_true (p := c.delay ≤ 20) (by omega)]; rfl)
    have q3 : decide (8 < c.ents.length) = false := decide_eq_false (by omega)
    have q4 : decide (c.opn < c.cycle) = false := decide_eq_false (by omega)
    simp only [firstOf, q0, q1, q2, q3, q4]; rfl)
  go_upto_region 7 with fail
  clear y0 y1 y2 y3 y4 t1 t2 t3 t4 t5 t6 t7 t8 t9 t10
  go_cut [3] (fun i wv => i = .int .i64 0 ∧ wv = W)
  case first =>
    go_wp2_with fail
    go_meet
    case rel => exact ⟨rfl, rfl⟩
  obtain ⟨rfl, rfl⟩ := hcut
  rename World => W
  go_wp2_with fail
  go_loopw [3, 4] (fun iv _ wx => ∃ (k : Nat), k ≤ c.ents.length ∧ iv = .int .i64 k ∧ Below W.heap.size W wx ∧ cfgErr c = entsErr ((c.ents.take k).map (·.name)) k (c.ents.drop k)) (fun iv _ _ => c.ents.length - (intOf iv).toNat)
  case atStart => exact ⟨0, Nat.zero_le _, rfl, HB.out, by rw [HW0.out]; rfl⟩
  case round =>
    clear HB HW0
    obtain ⟨k, hk, rfl, hbx, hno⟩ := hrel
    rename World => wx
    have HB : Hid (Below W.heap.size W wx) := hbx
    have HNo : Hid (cfgErr c = entsErr ((c.ents.take k).map (·.name)) k (c.ents.drop k)) := hno
    clear hbx hno
    have y4 := HX.out wx HB.out 4 _ rfl
    by_cases hlt : k < c.ents.length
    · have k1 : (k : Int) < (c.ents.length : Int) := by omega
      have k2 : k < 1000000 := by have := HSm.out.hn; omega
      obtain ⟨e, he⟩ : ∃ e, c.ents[k]? = some e := ⟨_, List.getElem?_eq_getElem hlt⟩
      have HDr : Hid (c.ents.drop k = e :: c.ents.drop (k + 1)) := by
        show _ = _
        rw [List.drop_eq_getElem_cons hlt]
        rw [List.getElem?_eq_getElem hlt] at he
        cases he; rfl
      have HTk : Hid ((c.ents.take (k + 1)).map (·.name) = (c.ents.take k).map (·.name) ++ [e.name]) := by show _ = _; rw [List.take_add_one, he]; simp
      have HC : Hid _ := entErr_at c.ents sa sc k e wx (HEn.out wx HB.out) he HSm.out.he HSm.out.hn
      clear he
      go_wp2_with fail
      refine Calls.mono HC.out ?_
      rintro v w2 ⟨rfl, hb2⟩
      have HB2 : Hid (Below W.heap.size W w2) := HB.out.trans (hb2.mono HB.out.size)
      clear hb2 HC y4
      obtain ⟨n, hn⟩ : ∃ n, n = entErr ((c.ents.take k).map (·.name)) e := ⟨_, rfl⟩
      rw [← hn]
      by_cases n0 : n = 0
      · have HE : Hid (cfgErr c = entsErr ((c.ents.take (k + 1)).map (·.name)) (k + 1) (c.ents.drop (k + 1))) := by
          show _ = _
          rw [HNo.out, HDr.out, ents_go (by rw [← hn]; exact n0), HTk.out]
        subst n0
        clear hn
        go_wp2_with fail
        go_roundw
        case rel => exact ⟨k + 1, by omega, by go_num, HB2.out, HE.out⟩
        case measure => simp [intOf]; omega
      · have HE : Hid (cfgErr c = (n, (k : Int))) := by
          show _ = _
          rw [HNo.out, HDr.out, ents_stop (by rw [← hn]; exact n0), ← hn]
        have n1 : (0 : Int) < (n : Int) := by omega
        clear hn n0
        go_wp2_with (refine wpList_store_row rfl 29 _ _ rfl (w.heap.size + 1) #[.int .i64 (n : Int), .int .i64 (k : Int)] rfl rfl 29 #[.int .i64 0, .int .i64 0] (HRr.out _ HB2.out) Tryz.sizeFlt rfl (by simp [Value.oneCell']) ?_)
        refine bodyPost_ret (results_cell_row rfl _ _ (w.heap.size + 1) _ _ _ _ rfl (heap_setRow _ (HRr.out _ HB2.out)) Tryz.underlying29 rfl Tryz.sizeFlt) rfl ?_
        exact ⟨by rw [HE.out], HFin.out _ _ HB2.out⟩
    · have k1 : ¬ (k : Int) < (c.ents.length : Int) := by omega
      have HE : Hid (cfgErr c = (0, -1)) := by show _ = _; rw [HNo.out, List.drop_of_length_le (by omega)]; rfl
      go_wp2_with fail
      refine (fine_at _).mono ?_
      rintro v w1 ⟨rfl, hb1⟩
      have HB1 : Hid (Below W.heap.size W w1) := HB.out.trans (hb1.mono HB.out.size)
      clear hb1
      go_wp2_with (refine wpList_store_row rfl 29 _ _ rfl (w.heap.size + 1) #[.int .i64 0, .int .i64 (-1)] rfl rfl 29 #[.int .i64 0, .int .i64 0] (HRr.out _ HB1.out) Tryz.sizeFlt rfl (by simp [Value.oneCell']) ?_)
      refine bodyPost_ret (results_cell_row rfl _ _ (w.heap.size + 1) _ _ _ _ rfl (heap_setRow _ (HRr.out _ HB1.out)) Tryz.underlying29 rfl Tryz.sizeFlt) rfl ?_
      exact ⟨by rw [HE.out]; rfl, HFin.out _ _ HB1.out⟩
end Go.Proofs.YtkphpgdgbnmnjacGreatDoor

namespace Go.Proofs.YtkphpgdgbnmnjacGreatDoor
open Go.RowKit Go.Extern.Stop Go.Stop Go.Extern

theorem open_new (n : Nat) (h : n ≤ 4096) (h2 : 153 ≤ n) : openL ((CSt.new n).bytes.take (CSt.new n).size) = [] := by
  rw [openL_take _ (CSt.new n).size h2, (Inv.new n h2 h).opens]
  rfl
section
variable {A : Nat → Addr} {F : Nat → Prop} {w0 w w' : World} {c : CfgD} {kb bc : Nat} {K : KSt} {k W : Nat}
theorem kat_state (h : KeAt F w0 w c kb bc K) : Calls Tryz.prog 18 #[.pointer (some ⟨kb, 0, none⟩)] w fun e w' => e = .returned (.string (stateB K.on)) ∧ w' = w := by
  obtain ⟨H, bd, rb, bt, lv, bs, h1, -⟩ := h
  exact ke_state h1
theorem kat_now (h : KeAt F w0 w c kb bc K) : Calls Tryz.prog 20 #[.pointer (some ⟨kb, 0, none⟩)] w fun e w' => e = .returned (.int .i64 (K.d.now : Int)) ∧ w' = w := by
  obtain ⟨H, bd, rb, bt, lv, bs, h1, -⟩ := h
  exact ke_now h1
theorem kat_kicks (h : KeAt F w0 w c kb bc K) : Calls Tryz.prog 21 #[.pointer (some ⟨kb, 0, none⟩)] w fun e w' => e = .returned (.int .i64 (K.d.kicks : Int)) ∧ w' = w := by
  obtain ⟨H, bd, rb, bt, lv, bs, h1, -⟩ := h
  exact ke_kicks h1
theorem kat_total (h : KeAt F w0 w c kb bc K) : Calls Tryz.prog 19 #[.pointer (some ⟨kb, 0, none⟩)] w fun e w' => e = .returned (.string (totB K.t.st)) ∧ w' = w := by
  obtain ⟨H, bd, rb, bt, lv, bs, h1, -⟩ := h
  exact ke_total h1
theorem kfit_new (hr : KRt c) : KFit c (KSt.new c (CSt.new 4096)) 0 (144 * (KSt.new c (CSt.new 4096)).d.now) := by
  show KFit c _ 0 0
  exact KFit.new hr (Inv.new 4096 (by decide) (by decide)).big (Nat.zero_le _) rfl
theorem new_on : (KSt.new c (CSt.new 4096)).on = 0 := KSt.on_zero.2 ⟨rfl, rfl⟩
theorem Quiet.new : Quiet c (KSt.new c (CSt.new 4096)) := by
  refine ⟨rfl, fun s hs => ?_, open_new 4096 (by decide) (by decide), rfl, rfl, rfl, ?_⟩
  · have hs' : s ∈ c.ents.map fun _ => LSt.new := hs
    simp only [List.mem_map] at hs'
    obtain ⟨_, _, rfl⟩ := hs'
    exact ⟨rfl, rfl⟩
  · show (0, 0) = qk _ _ (0 / _)
    rw [Nat.zero_div]
    rfl
end
def cfg1 : CfgD := { closed := 1, opn := 2, cycle := 2, delay := 0, ents := [] }
theorem cfg1_ok : (cfgErr cfg1).1 = 0 := by decide
theorem cfg1_small : SmallC cfg1 := ⟨by decide, fun e he => by cases he⟩
set_option maxRecDepth 100000 in
set_option maxHeartbeats 4000000 in
theorem watched_at (A : Nat → Addr) (w : World) (hs : SenK A w) : Calls Tryz.prog 8 #[] w fun e w' => e = .returned (.bool true) ∧ Below w.heap.size w w' := by
  have hr : KRt cfg1 := krt_of cfg1_ok
  have hq : ∀ e ∈ cfg1.ents, quietE e := fun e he => by cases he
  have q0 : QC cfg1 (KSt.new cfg1 (CSt.new 4096)) := ⟨Quiet.new, Calm.new⟩
  have f0 := kfit_new hr
  obtain ⟨q1, c1, n1⟩ := q0.tick hr hq f0 (by decide)
  have f1 := f0.tick hr (by decide)
  obtain ⟨q2, c2, n2⟩ := q1.tick hr hq f1 (by rw [n1]; decide)
  have hn0 : (KSt.new cfg1 (CSt.new 4096)).d.now = 0 := rfl
  rw [hn0] at n1
  have kk := q2.q.kk
  rw [n2, n1] at kk
  have kk2 : (KSt.tick cfg1 (KSt.tick cfg1 (KSt.new cfg1 (CSt.new 4096))).1).1.d.kicks = 1 := by
    have : qk cfg1.closed.toNat cfg1.cycle.toNat ((0 + 1 + 1) / cfg1.cycle.toNat) = (1, 2) := by decide
    rw [this] at kk
    exact congrArg Prod.fst kk
  have st2 := q2.q.st
  have HK : Hid (∀ (W : World) F kb bc, KeAt F w W cfg1 kb bc (KSt.new cfg1 (CSt.new 4096)) → Calls Tryz.prog 23 #[.pointer (some ⟨kb, 0, none⟩)] W fun e w' => e = .returned .nilIface ∧ KePost F w W cfg1 kb bc (KSt.tick cfg1 (KSt.new cfg1 (CSt.new 4096))).1 w') := fun W F kb bc h => by
    have := ke_tick h hs hr f0 (by decide)
    rw [c1] at this
    exact this
  have HK2 : Hid (∀ (W : World) F kb bc, KeAt F w W cfg1 kb bc (KSt.tick cfg1 (KSt.new cfg1 (CSt.new 4096))).1 → Calls Tryz.prog 23 #[.pointer (some ⟨kb, 0, none⟩)] W fun e w' => e = .returned .nilIface ∧ KePost F w W cfg1 kb bc (KSt.tick cfg1 (KSt.tick cfg1 (KSt.new cfg1 (CSt.new 4096))).1).1 w') := fun W F kb bc h => by
    have := ke_tick h hs hr f1 (by rw [n1]; decide)
    rw [c2] at this
    exact this
  have HN : Hid (∀ W bc, CellsAt W bc (CSt.new 4096) → w.heap.size ≤ bc → Below w.heap.size w W → Calls Tryz.prog 34 #[.agg #[.int .i64 1, .int .i64 2, .int .i64 2, .int .i64 0, .slice none 0 0], .pointer (some ⟨bc, 0, none⟩)] W fun u w' => KeNw w W cfg1 bc (CSt.new 4096) u w') := fun W bc hc hlo hb => ke_new (A := A) (c := cfg1) none 0 hs hr cfg1_ok ⟨none, 0, rfl, fun x => absurd rfl x⟩ cfg1_small hc hlo hb (by decide) rfl
  have HSt : Hid (∀ (W : World) F kb bc, KeAt F w W cfg1 kb bc (KSt.new cfg1 (CSt.new 4096)) → Calls Tryz.prog 18 #[.pointer (some ⟨kb, 0, none⟩)] W fun e w' => e = .returned (.string ⟨#[111, 110]⟩) ∧ w' = W) := fun W F kb bc h => by
    have := kat_state h
    rw [new_on] at this
    exact this
  obtain ⟨K1, hK1⟩ : ∃ X, X = (KSt.tick cfg1 (KSt.new cfg1 (CSt.new 4096))).1 := ⟨_, rfl⟩
  rw [← hK1] at HK HK2 kk2 n2 st2 n1
  obtain ⟨K2, hK2⟩ : ∃ X, X = (KSt.tick cfg1 K1).1 := ⟨_, rfl⟩
  rw [← hK2] at HK2 kk2 n2 st2
  have HF : Hid (K2.d.kicks = 1 ∧ K2.d.now = 2 ∧ K2.t.st = 0) := ⟨kk2, by rw [n2, n1], st2⟩
  have HB : Hid (∀ (F : Nat → Prop) kb bc (W V : World) K, KePost F w W cfg1 kb bc K V → (∀ k, F k → w.heap.size ≤ k) → Below w.heap.size w W → Below w.heap.size w V) := fun F kb bc W V K h hF hb => Off.below hb h.2 hb.size hF
  clear hK1 hK2 kk2 n2 st2 n1 kk q1 q2 c1 c2 f0 f1 hn0 q0 hq hr
  have HSv : Hid _ := hs
  clear hs
  have HC : Hid (Calls Tryz.prog 41 #[.int .i64 4096] w fun e w' => e = .returned (.tuple #[.pointer (some ⟨w.heap.size, 0, none⟩), .nilIface]) ∧ Below w.heap.size w w' ∧ CellsAt w' w.heap.size (CSt.new 4096) ∧ w'.heap.size = w.heap.size + 1) := new_in 4096 w (Nat.le_refl _)
  go_enter Tryz.func8, Tryz.ntmps8
  go_wp2_with fail
  refine Calls.mono HC.out ?_
  rintro u w1 ⟨rfl, hb1, hc1, -⟩
  have HX : Hid _ := HN.out w1 w.heap.size hc1 (Nat.le_refl _) hb1
  have HB1 : Hid _ := hb1
  clear hb1 hc1 HC HN
  go_wp2_with fail
  refine Calls.mono HX.out ?_
  rintro u w2 ⟨kb, F, rfl, hat, hb2, hF⟩
  have HB2 : Hid (Below w.heap.size w w2) := HB1.out.trans (hb2.mono HB1.out.size)
  have HF2 : Hid (∀ k, F k → w.heap.size ≤ k) := fun k hk => by
    rcases (hF k hk).1 with e | e
    · rw [e]; exact Nat.le_refl _
    · exact Nat.le_trans HB1.out.size e
  have HA2 : Hid _ := hat
  clear hat hb2 hF HX HB1
  go_wp2_with fail
  refine Calls.mono (HSt.out w2 F kb w.heap.size HA2.out) ?_
  rintro u w3 ⟨rfl, rfl⟩
  go_wp2_with fail
  refine Calls.mono (HK.out w3 F kb w.heap.size HA2.out) ?_
  rintro u w4 ⟨rfl, hp4⟩
  have HA4 : Hid _ := hp4.1
  have HB4 : Hid _ := HB.out _ _ _ _ _ _ hp4 HF2.out HB2.out
  have HF4 : Hid (∀ k, gr F w3 w4 k → w.heap.size ≤ k) := fun k hk => by
    rcases hk with hk | ⟨hk, _⟩
    · exact HF2.out k hk
    · exact Nat.le_trans HB2.out.size hk
  clear hp4 HK HSt HA2
  go_wp2_with fail
  refine Calls.mono (HK2.out w4 _ kb w.heap.size HA4.out) ?_
  rintro u w5 ⟨rfl, hp5⟩
  have HB5 : Hid (Below w.heap.size w w5) := HB.out _ _ _ _ _ _ hp5 HF4.out HB4.out
  have hk5 := kat_kicks hp5.1
  have hn5 := kat_now hp5.1
  have ht5 := kat_total hp5.1
  rw [HF.out.1] at hk5
  rw [HF.out.2.1] at hn5
  rw [HF.out.2.2] at ht5
  have HK5 : Hid (Calls Tryz.prog 21 #[.pointer (some ⟨kb, 0, none⟩)] w5 fun e w' => e = .returned (.int .i64 1) ∧ w' = w5) := hk5
  have HN5 : Hid (Calls Tryz.prog 20 #[.pointer (some ⟨kb, 0, none⟩)] w5 fun e w' => e = .returned (.int .i64 2) ∧ w' = w5) := hn5
  have HT5 : Hid (Calls Tryz.prog 19 #[.pointer (some ⟨kb, 0, none⟩)] w5 fun e w' => e = .returned (.string ⟨#[111, 107]⟩) ∧ w' = w5) := ht5
  clear hp5 hk5 hn5 ht5 HK2
  go_wp2_with fail
  refine Calls.mono HK5.out ?_
  rintro u w6 ⟨rfl, rfl⟩
  go_wp2_with fail
  refine Calls.mono HN5.out ?_
  rintro u w6 ⟨rfl, rfl⟩
  go_wp2_with fail
  refine Calls.mono HT5.out ?_
  rintro u w6 ⟨rfl, rfl⟩
  go_wp2
  go_ret
  exact ⟨rfl, HB5.out⟩
theorem fld_fault (x y : Int) (W : World) : (Instr.field 29 (.agg #[.int .i64 x, .int .i64 y]) 0).run Tryz.prog W = .ok (.int .i64 x) W := by kernel_rfl
/-- What fresh leaves. -/
def FrOut (w : World) (c : CfgD) (u : Ending) (w' : World) : Prop := ∃ kb bc F, u = .returned (.tuple #[.pointer (some ⟨kb, 0, none⟩), .pointer (some ⟨bc, 0, none⟩), .bool true]) ∧ KeAt F w w' c kb bc (KSt.new c (CSt.new 4096)) ∧ Below w.heap.size w w' ∧ ∀ k, F k → w.heap.size ≤ k ∧ k < w'.heap.size
set_option maxRecDepth 100000 in
set_option maxHeartbeats 4000000 in
theorem fresh_at (A : Nat → Addr) (c : CfgD) (sa : Option Addr) (sc : Nat) (w : World) (hs : SenK A w) (h0 : (cfgErr c).1 = 0) (hE : EntsAt w (.slice sa c.ents.length sc) c.ents) (hS : SmallC c) :
    Calls Tryz.prog 13 #[.agg #[.int .i64 c.closed, .int .i64 c.opn, .int .i64 c.cycle, .int .i64 c.delay, .slice sa c.ents.length sc]] w fun u w' => FrOut w c u w' := by
  have hr : KRt c := krt_of h0
  obtain ⟨W0, hW0⟩ : ∃ X, X = w.alloc (.cells #[.int .i64 c.closed, .int .i64 c.opn, .int .i64 c.cycle, .int .i64 c.delay, .slice sa c.ents.length sc] 24) := ⟨_, rfl⟩
  have b0 : Below w.heap.size w W0 := by rw [hW0]; exact Below.one _ _
  have r0 : W0.heap[w.heap.size]? = some (.cells #[.int .i64 c.closed, .int .i64 c.opn, .int .i64 c.cycle, .int .i64 c.delay, .slice sa c.ents.length sc] 24 (0, 0)) := by rw [hW0]; exact heap_alloc_new w _
  have HC : Hid (Calls Tryz.prog 41 #[.int .i64 4096] W0 fun e w' => e = .returned (.tuple #[.pointer (some ⟨W0.heap.size, 0, none⟩), .nilIface]) ∧ Below W0.heap.size W0 w' ∧ CellsAt w' W0.heap.size (CSt.new 4096) ∧ w'.heap.size = W0.heap.size + 1) := new_in 4096 W0 (Nat.le_refl _)
  have HCf : Hid (∀ V, Below w.heap.size w V → Calls Tryz.prog 10 #[.agg #[.int .i64 c.closed, .int .i64 c.opn, .int .i64 c.cycle, .int .i64 c.delay, .slice sa c.ents.length sc]] V fun v w' => v = .returned (.agg #[.int .i64 0, .int .i64 (cfgErr c).2]) ∧ Below V.heap.size V w') := fun V hV => by
    have := cfault_at c sa sc V (hE.below hV) hS
    rw [h0] at this
    exact this
  have HO : Hid (∀ V, Below w.heap.size w V → Calls Tryz.prog 35 #[.agg #[.int .i64 c.closed, .int .i64 c.opn, .int .i64 c.cycle, .int .i64 c.delay, .slice sa c.ents.length sc]] V _) := fun V hV => ownConfig_at c sa sc V (hE.below hV) hS
  have HN : Hid (∀ sa' sc' V bc, Below w.heap.size w V → w.heap.size ≤ bc → EntsAt V (.slice sa' c.ents.length sc') c.ents → CellsAt V bc (CSt.new 4096) → Calls Tryz.prog 34 #[.agg #[.int .i64 c.closed, .int .i64 c.opn, .int .i64 c.cycle, .int .i64 c.delay, .slice sa' c.ents.length sc'], .pointer (some ⟨bc, 0, none⟩)] V fun u w' => KeNw w V c bc (CSt.new 4096) u w') := fun sa' sc' V bc hV hlo hEV hcV => ke_new (A := A) sa' sc' hs hr h0 hEV hS hcV hlo hV (by decide) rfl
  have HR0 : Hid _ := r0
  have HB0 : Hid _ := b0
  have y : ∀ V, Below W0.heap.size W0 V → (V.cell? ⟨w.heap.size, 0, none⟩ = some (.int .i64 c.closed) ∧ V.cell? ⟨w.heap.size, 1, none⟩ = some (.int .i64 c.opn) ∧ V.cell? ⟨w.heap.size, 2, none⟩ = some (.int .i64 c.cycle) ∧ V.cell? ⟨w.heap.size, 3, none⟩ = some (.int .i64 c.delay) ∧ V.cell? ⟨w.heap.size, 4, none⟩ = some (.slice sa c.ents.length sc)) := fun V hV => by
    have := row_below hV r0
    refine ⟨?_, ?_, ?_, ?_, ?_⟩ <;> simp [World.cell?, this]
  have HY : Hid _ := y
  clear hs h0 hE hS hr b0 r0 y
  go_enter Tryz.func13, Tryz.ntmps13
  go_upto_region 1 with fail
  rw [← hW0]
  clear hW0
  go_wp2_with fail
  refine Calls.mono HC.out ?_
  rintro u w1 ⟨rfl, hb1, hc1, -⟩
  obtain ⟨y0, y1, y2, y3, y4⟩ := HY.out w1 hb1
  have HB1 : Hid (Below w.heap.size w w1) := HB0.out.trans (hb1.mono HB0.out.size)
  have HBb : Hid _ := hb1
  have HC1 : Hid _ := hc1
  clear hb1 hc1 HC
  go_wp2_with fail
  clear y0 y1 y2 y3 y4
  refine Calls.mono (HCf.out w1 HB1.out) ?_
  rintro u w2 ⟨rfl, hb2⟩
  have hfl := fld_fault 0 (cfgErr c).2 w2
  have HBb2 : Hid (Below W0.heap.size W0 w2) := HBb.out.trans (hb2.mono HBb.out.size)
  obtain ⟨y0, y1, y2, y3, y4⟩ := HY.out w2 HBb2.out
  have HB2 : Hid (Below w.heap.size w w2) := HB1.out.trans (hb2.mono HB1.out.size)
  have HC2 : Hid _ := HC1.out.below hb2
  clear hb2 HCf HC1 HBb HB1
  go_wp2_with fail
  clear y0 y1 y2 y3 y4 hfl
  refine Calls.mono (HO.out w2 HB2.out) ?_
  rintro u w3 ⟨⟨sa', sc', rfl, hown⟩, hb3⟩
  have HB3 : Hid (Below w.heap.size w w3) := HB2.out.trans (hb3.mono HB2.out.size)
  have HX : Hid _ := HN.out sa' sc' w3 W0.heap.size HB3.out HB0.out.size hown.ents (HC2.out.below hb3)
  have HZ : Hid (w.heap.size ≤ W0.heap.size) := HB0.out.size
  clear hown hb3 HC2 HO HN HB2 HBb2 HY HR0 HB0
  go_wp2_with fail
  refine Calls.mono HX.out ?_
  rintro u w4 ⟨kb, F, rfl, hat, hb4, hF⟩
  have HAt : Hid _ := hat
  have HB4 : Hid (Below w.heap.size w w4) := HB3.out.trans (hb4.mono HB3.out.size)
  have HF4 : Hid (∀ k, F k → w.heap.size ≤ k ∧ k < w4.heap.size) := fun k hk => ⟨by
    rcases (hF k hk).1 with e | e
    · rw [e]; exact HZ.out
    · exact Nat.le_trans HB3.out.size e, (hF k hk).2⟩
  clear hat hb4 hF HX
  go_wp2
  (try simp only [Exit.inBlock, Exit.then])
  refine bodyPost_ret (results_tmp3 rfl _ _ _) rfl ?_
  exact ⟨kb, W0.heap.size, F, rfl, HAt.out, HB4.out, HF4.out⟩
end Go.Proofs.YtkphpgdgbnmnjacGreatDoor

namespace Go.Proofs.YtkphpgdgbnmnjacGreatDoor
open Go.RowKit Go.Extern.Stop Go.Stop Go.Extern

section
variable {A : Nat → Addr} {F : Nat → Prop} {w0 w w' : World} {c : CfgD} {kb bc : Nat} {K : KSt} {k : Nat}
set_option maxHeartbeats 2000000 in
set_option maxRecDepth 100000 in
theorem ke_ticks (n : Int) (h : KeAt F w0 w c kb bc K) (hs : SenK A w0) (hr : KRt c) (hf : KFit c K k (144 * K.d.now)) (hn : (k : Int) + (K.d.now : Int) + 1 + n ≤ 900000) (hn2 : k + K.d.now + 1 ≤ 900000) :
    Calls Tryz.prog 17 #[.pointer (some ⟨kb, 0, none⟩), .int .i64 n] w fun e w' => e = .returned (errVal A (K.ticks c n.toNat).2) ∧ KePost F w0 w c kb bc (K.ticks c n.toNat).1 w' := by
  obtain ⟨N, hN⟩ : ∃ N, N = n.toNat := ⟨_, rfl⟩
  rw [← hN]
  have HR : Hid (KRt c) := hr
  have HSv : Hid (SenK A w0) := hs
  have HP : Hid (KePost F w0 w c kb bc K w) := KePost.same h
  have HB : Hid (k + K.d.now + 1 + N ≤ 900000) := by show _ ≤ _; omega
  have HF : Hid _ := hf
  have hn10 : n ≤ 900000 := by omega
  have hN10 : N ≤ 900000 := by omega
  have HNN : Hid (N = n.toNat) := hN
  clear h hr hf hn hn2 hN hs
  go_enter Tryz.func17, Tryz.ntmps17
  go_wp2_with fail
  go_loopw [5, 6] (fun i _ wr => ∃ (j : Nat) (Kj : KSt), j ≤ N ∧ i = .int .i64 j ∧ Hid (K.ticks c N = Kj.ticks c (N - j)) ∧ Hid (KFit c Kj k (144 * Kj.d.now)) ∧ Hid (Kj.d.now ≤ K.d.now + j) ∧ Hid (KePost F w0 w c kb bc Kj wr)) (fun i _ _ => N - (intOf i).toNat)
  case atStart => exact ⟨0, K, Nat.zero_le _, rfl, rfl, HF.out, Nat.le_refl _, HP.out⟩
  case round =>
    clear HP HF
    obtain ⟨j, Kj, hj, rfl, HE, HFj, HNj, HPj⟩ := hrel
    by_cases hlt : j < N
    · have k1 : (j : Int) < n := by have := HNN.out; omega
      have HE2 : Hid (K.ticks c N = if (Kj.tick c).2 = 0 then (Kj.tick c).1.ticks c (N - (j + 1)) else Kj.tick c) := by
        show _ = _
        rw [HE.out, show N - j = (N - (j + 1)) + 1 by omega]
        rfl
      have HX : Hid _ := ke_tick HPj.out.1 HSv.out HR.out HFj.out (by have := HB.out; have := HNj.out; omega)
      have HFn : Hid (KFit c (Kj.tick c).1 k (144 * (Kj.tick c).1.d.now) ∧ (Kj.tick c).1.d.now ≤ K.d.now + (j + 1)) := ⟨HFj.out.tick HR.out (by have := HB.out; have := HNj.out; omega), by have := tick_now c Kj; have := HNj.out; omega⟩
      go_wp2_with fail
      refine Calls.mono HX.out ?_
      rintro u w3 ⟨rfl, hp⟩
      have HP3 : Hid _ := HPj.out.trans hp
      clear hp HX
      by_cases hc0 : (Kj.tick c).2 = 0
      · rw [hc0, show errVal A 0 = .nilIface from rfl]
        go_wp2_with fail
        go_roundw
        case rel => exact ⟨j + 1, (Kj.tick c).1, by omega, by go_num, by show _ = _; rw [HE2.out, if_pos hc0], HFn.out.1, HFn.out.2, HP3.out⟩
        case measure => simp [intOf]; omega
      · obtain ⟨q, hq⟩ := errVal_pos (A := A) hc0
        have HQ : Hid _ := hq
        rw [hq]
        clear hq
        go_wp2
        go_ret
        rw [HE2.out, if_neg hc0, HQ.out]
        exact ⟨rfl, HP3.out⟩
    · have k1 : ¬ (j : Int) < n := by have := HNN.out; omega
      have HE2 : Hid (K.ticks c N = (Kj, 0)) := by
        show _ = _
        rw [HE.out, show N - j = 0 by omega]
        rfl
      go_wp2
      go_ret
      rw [HE2.out]
      exact ⟨rfl, HPj.out⟩
end
end Go.Proofs.YtkphpgdgbnmnjacGreatDoor
