/-
  The document's Bare, Fine and ConfigFault by contracts: 'cfgErr'. Conditions: the config lies in memory, not too great.
-/
import Derived.Test.YtbholbenjalliaaGreatDoorDcErrX
namespace Go.Proofs.YtbholbenjalliaaGreatDoor
open Go.RowKit Go.Extern.Stop Go.Stop Go.Extern

theorem Tryz.sizeFlt : (Tryz.prog.info? 28).map (·.size) = some 2 := by kernel_rfl
theorem bare_at (n : Int) (w : World) : Calls Tryz.prog 18 #[.int .i64 n] w fun v w' => v = .returned (.agg #[.int .i64 n, .int .i64 (-1)]) ∧ Below w.heap.size w w' := by
  go_enter Tryz.func18, Tryz.ntmps18
  go_wp2_with fail
  refine bodyPost_ret (results_cell_row rfl _ _ w.heap.size _ _ _ _ rfl (heap_alloc_new w _) Tryz.underlying28 rfl Tryz.sizeFlt) rfl ?_
  exact ⟨rfl, Below.one _ _⟩
theorem fine_at (w : World) : Calls Tryz.prog 20 #[] w fun v w' => v = .returned (.agg #[.int .i64 0, .int .i64 (-1)]) ∧ Below w.heap.size w w' := by
  go_enter Tryz.func20, Tryz.ntmps20
  go_wp2_with fail
  refine bodyPost_ret (results_cell_row rfl _ _ w.heap.size _ _ _ _ rfl (heap_alloc_new w _) Tryz.underlying28 rfl Tryz.sizeFlt) rfl ?_
  exact ⟨rfl, Below.one _ _⟩
theorem whole_bad {c : CfgD} {n : Nat} (hn : n ≠ 0) (h : wholeErr c = n) : cfgErr c = (n, -1) := by unfold cfgErr; rw [if_neg (by rw [h]; exact hn), h]
theorem whole_ok {c : CfgD} (h : wholeErr c = 0) : cfgErr c = entsErr [] 0 c.ents := by unfold cfgErr; rw [if_pos h]
theorem ents_stop {a : List ByteArray} {k : Nat} {e : EntD} {t : List EntD} (h : entErr a e ≠ 0) : entsErr a k (e :: t) = (entErr a e, (k : Int)) := by rw [entsErr, if_neg h]
theorem ents_go {a : List ByteArray} {k : Nat} {e : EntD} {t : List EntD} (h : entErr a e = 0) : entsErr a k (e :: t) = entsErr (a ++ [e.name]) (k + 1) t := by rw [entsErr, if_pos h]
set_option maxHeartbeats 8000000 in
set_option maxRecDepth 100000 in
theorem cfault_at (c : CfgD) (sa : Option Addr) (sc : Nat) (w : World) (hE : EntsAt w (.slice sa c.ents.length sc) c.ents) (hS : SmallC c) :
    Calls Tryz.prog 7 #[.agg #[.int .i64 c.closed, .int .i64 c.opn, .int .i64 c.cycle, .int .i64 c.delay, .slice sa c.ents.length sc]] w fun v w' => v = .returned (.agg #[.int .i64 ((cfgErr c).1 : Int), .int .i64 (cfgErr c).2]) ∧ Below w.heap.size w w' := by
  obtain ⟨W, hW⟩ : ∃ V, V = (w.alloc (.cells #[.int .i64 c.closed, .int .i64 c.opn, .int .i64 c.cycle, .int .i64 c.delay, .slice sa c.ents.length sc] 24)).alloc (.cells #[.int .i64 0, .int .i64 0] 28) := ⟨_, rfl⟩
  have HBW : Hid (Below w.heap.size w W) := by show Below _ _ _; rw [hW]; exact (Below.one _ _).alloc (by simp) _
  have HX : Hid (∀ V, Below W.heap.size W V → ∀ (j : Nat) u, (#[.int .i64 c.closed, .int .i64 c.opn, .int .i64 c.cycle, .int .i64 c.delay, .slice sa c.ents.length sc] : Array Value)[j]? = some u → V.cell? ⟨w.heap.size, j, none⟩ = some u) := fun V hV j u hu => by
    have := row_below hV (show W.heap[w.heap.size]? = _ by rw [hW]; exact row_below (Below.one _ _) (heap_alloc_new w _))
    simp [World.cell?, this, hu]
  have HRr : Hid (∀ V, Below W.heap.size W V → V.heap[w.heap.size + 1]? = some (.cells #[.int .i64 0, .int .i64 0] 28 (0, 0))) := fun V hV => row_below hV (by rw [hW]; have := heap_alloc_new (w.alloc (.cells #[.int .i64 c.closed, .int .i64 c.opn, .int .i64 c.cycle, .int .i64 c.delay, .slice sa c.ents.length sc] 24)) (.cells #[.int .i64 0, .int .i64 0] 28); simpa using this)
  have HFin : Hid (∀ V cs, Below W.heap.size W V → Below w.heap.size w (V.setRow (w.heap.size + 1) cs)) := fun V cs hV => by
    have b1 := HBW.out.trans (hV.mono HBW.out.size)
    exact b1.grown (grown_setRow _ _ _) b1.size (fun j hj => by cases hj; omega)
  have HEn : Hid (∀ V, Below W.heap.size W V → EntsAt V (.slice sa c.ents.length sc) c.ents) := fun V hV => hE.below (HBW.out.trans (hV.mono HBW.out.size))
  have HSm : Hid (SmallC c) := hS
  have HB : Hid (Below W.heap.size W W) := Below.refl _ _
  have y0 := HX.out W (Below.refl _ _) 0 _ rfl
  have y1 := HX.out W (Below.refl _ _) 1 _ rfl
  have y2 := HX.out W (Below.refl _ _) 2 _ rfl
  have y3 := HX.out W (Below.refl _ _) 3 _ rfl
  have y4 := HX.out W (Below.refl _ _) 4 _ rfl
  clear hE hS
  go_enter Tryz.func7, Tryz.ntmps7
  go_upto_region 1 with fail
  rw [← hW]
  clear hW
  by_cases t1 : c.closed < 0
  · have HE : Hid (cfgErr c = (2, -1)) := whole_bad (by decide) (by unfold wholeErr; have q0 : (!(within c.closed 0 1000 && within c.opn 1 1000)) = true := (by unfold within; rw [decide_eq_false (p := 0 ≤ c.closed) (by omega)]; rfl); simp only [firstOf, q0]; rfl)
    go_wp2_with fail
    refine (bare_at 2 _).mono ?_
    rintro v w1 ⟨rfl, hb1⟩
    have HB1 : Hid (Below W.heap.size W w1) := HB.out.trans (hb1.mono HB.out.size)
    clear hb1
    go_wp2_with (refine wpList_store_row rfl 28 _ _ rfl (w.heap.size + 1) #[.int .i64 2, .int .i64 (-1)] rfl rfl 28 #[.int .i64 0, .int .i64 0] (HRr.out _ HB1.out) Tryz.sizeFlt rfl (by simp [Value.oneCell']) ?_)
    refine bodyPost_ret (results_cell_row rfl _ _ (w.heap.size + 1) _ _ _ _ rfl (heap_setRow _ (HRr.out _ HB1.out)) Tryz.underlying28 rfl Tryz.sizeFlt) rfl ?_
    exact ⟨by rw [HE.out]; rfl, HFin.out _ _ HB1.out⟩
  by_cases t2 : 1000 < c.closed
  · have HE : Hid (cfgErr c = (2, -1)) := whole_bad (by decide) (by unfold wholeErr; have q0 : (!(within c.closed 0 1000 && within c.opn 1 1000)) = true := (by unfold within; rw [decide_eq_false (p := c.closed ≤ 1000) (by omega)]; simp); simp only [firstOf, q0]; rfl)
    go_wp2_with fail
    refine (bare_at 2 _).mono ?_
    rintro v w1 ⟨rfl, hb1⟩
    have HB1 : Hid (Below W.heap.size W w1) := HB.out.trans (hb1.mono HB.out.size)
    clear hb1
    go_wp2_with (refine wpList_store_row rfl 28 _ _ rfl (w.heap.size + 1) #[.int .i64 2, .int .i64 (-1)] rfl rfl 28 #[.int .i64 0, .int .i64 0] (HRr.out _ HB1.out) Tryz.sizeFlt rfl (by simp [Value.oneCell']) ?_)
    refine bodyPost_ret (results_cell_row rfl _ _ (w.heap.size + 1) _ _ _ _ rfl (heap_setRow _ (HRr.out _ HB1.out)) Tryz.underlying28 rfl Tryz.sizeFlt) rfl ?_
    exact ⟨by rw [HE.out]; rfl, HFin.out _ _ HB1.out⟩
  by_cases t3 : c.opn < 1
  · have HE : Hid (cfgErr c = (2, -1)) := whole_bad (by decide) (by unfold wholeErr; have q0 : (!(within c.closed 0 1000 && within c.opn 1 1000)) = true := (by unfold within; rw [decide_eq_false (p := 1 ≤ c.opn) (by omega)]; simp); simp only [firstOf, q0]; rfl)
    go_wp2_with fail
    refine (bare_at 2 _).mono ?_
    rintro v w1 ⟨rfl, hb1⟩
    have HB1 : Hid (Below W.heap.size W w1) := HB.out.trans (hb1.mono HB.out.size)
    clear hb1
    go_wp2_with (refine wpList_store_row rfl 28 _ _ rfl (w.heap.size + 1) #[.int .i64 2, .int .i64 (-1)] rfl rfl 28 #[.int .i64 0, .int .i64 0] (HRr.out _ HB1.out) Tryz.sizeFlt rfl (by simp [Value.oneCell']) ?_)
    refine bodyPost_ret (results_cell_row rfl _ _ (w.heap.size + 1) _ _ _ _ rfl (heap_setRow _ (HRr.out _ HB1.out)) Tryz.underlying28 rfl Tryz.sizeFlt) rfl ?_
    exact ⟨by rw [HE.out]; rfl, HFin.out _ _ HB1.out⟩
  by_cases t4 : 1000 < c.opn
  · have HE : Hid (cfgErr c = (2, -1)) := whole_bad (by decide) (by unfold wholeErr; have q0 : (!(within c.closed 0 1000 && within c.opn 1 1000)) = true := (by unfold within; rw [decide_eq_false (p := c.opn ≤ 1000) (by omega)]; simp); simp only [firstOf, q0]; rfl)
    go_wp2_with fail
    refine (bare_at 2 _).mono ?_
    rintro v w1 ⟨rfl, hb1⟩
    have HB1 : Hid (Below W.heap.size W w1) := HB.out.trans (hb1.mono HB.out.size)
    clear hb1
    go_wp2_with (refine wpList_store_row rfl 28 _ _ rfl (w.heap.size + 1) #[.int .i64 2, .int .i64 (-1)] rfl rfl 28 #[.int .i64 0, .int .i64 0] (HRr.out _ HB1.out) Tryz.sizeFlt rfl (by simp [Value.oneCell']) ?_)
    refine bodyPost_ret (results_cell_row rfl _ _ (w.heap.size + 1) _ _ _ _ rfl (heap_setRow _ (HRr.out _ HB1.out)) Tryz.underlying28 rfl Tryz.sizeFlt) rfl ?_
    exact ⟨by rw [HE.out]; rfl, HFin.out _ _ HB1.out⟩
  by_cases t5 : c.cycle < 1
  · have HE : Hid (cfgErr c = (2, -1)) := whole_bad (by decide) (by unfold wholeErr; have q0 : (!(within c.closed 0 1000 && within c.opn 1 1000)) = false := (by unfold within; rw [decide_eq_true (p := 0 ≤ c.closed) (by omega), decide_eq_true (p := c.closed ≤ 1000) (by omega), decide_eq_true (p := 1 ≤ c.opn) (by omega), decide_eq_true (p := c.opn ≤ 1000) (by omega)]; rfl); have q1 : (!within c.cycle 1 100) = true := (by unfold within; first | (rw [decide_eq_false (p := 1 ≤ c.cycle) (by omega)]; rfl) | (rw [decide_eq_false (p := c.cycle ≤ 100) (by omega)]; simp)); simp only [firstOf, q0, q1]; rfl)
    go_wp2_with fail
    refine (bare_at 2 _).mono ?_
    rintro v w1 ⟨rfl, hb1⟩
    have HB1 : Hid (Below W.heap.size W w1) := HB.out.trans (hb1.mono HB.out.size)
    clear hb1
    go_wp2_with (refine wpList_store_row rfl 28 _ _ rfl (w.heap.size + 1) #[.int .i64 2, .int .i64 (-1)] rfl rfl 28 #[.int .i64 0, .int .i64 0] (HRr.out _ HB1.out) Tryz.sizeFlt rfl (by simp [Value.oneCell']) ?_)
    refine bodyPost_ret (results_cell_row rfl _ _ (w.heap.size + 1) _ _ _ _ rfl (heap_setRow _ (HRr.out _ HB1.out)) Tryz.underlying28 rfl Tryz.sizeFlt) rfl ?_
    exact ⟨by rw [HE.out]; rfl, HFin.out _ _ HB1.out⟩
  by_cases t6 : 100 < c.cycle
  · have HE : Hid (cfgErr c = (2, -1)) := whole_bad (by decide) (by unfold wholeErr; have q0 : (!(within c.closed 0 1000 && within c.opn 1 1000)) = false := (by unfold within; rw [decide_eq_true (p := 0 ≤ c.closed) (by omega), decide_eq_true (p := c.closed ≤ 1000) (by omega), decide_eq_true (p := 1 ≤ c.opn) (by omega), decide_eq_true (p := c.opn ≤ 1000) (by omega)]; rfl); have q1 : (!within c.cycle 1 100) = true := (by unfold within; first | (rw [decide_eq_false (p := 1 ≤ c.cycle) (by omega)]; rfl) | (rw [decide_eq_false (p := c.cycle ≤ 100) (by omega)]; simp)); simp only [firstOf, q0, q1]; rfl)
    go_wp2_with fail
    refine (bare_at 2 _).mono ?_
    rintro v w1 ⟨rfl, hb1⟩
    have HB1 : Hid (Below W.heap.size W w1) := HB.out.trans (hb1.mono HB.out.size)
    clear hb1
    go_wp2_with (refine wpList_store_row rfl 28 _ _ rfl (w.heap.size + 1) #[.int .i64 2, .int .i64 (-1)] rfl rfl 28 #[.int .i64 0, .int .i64 0] (HRr.out _ HB1.out) Tryz.sizeFlt rfl (by simp [Value.oneCell']) ?_)
    refine bodyPost_ret (results_cell_row rfl _ _ (w.heap.size + 1) _ _ _ _ rfl (heap_setRow _ (HRr.out _ HB1.out)) Tryz.underlying28 rfl Tryz.sizeFlt) rfl ?_
    exact ⟨by rw [HE.out]; rfl, HFin.out _ _ HB1.out⟩
  by_cases t7 : c.delay < 0
  · have HE : Hid (cfgErr c = (2, -1)) := whole_bad (by decide) (by unfold wholeErr; have q0 : (!(within c.closed 0 1000 && within c.opn 1 1000)) = false := (by unfold within; rw [decide_eq_true (p := 0 ≤ c.closed) (by omega), decide_eq_true (p := c.closed ≤ 1000) (by omega), decide_eq_true (p := 1 ≤ c.opn) (by omega), decide_eq_true (p := c.opn ≤ 1000) (by omega)]; rfl); have q1 : (!within c.cycle 1 100) = false := (by unfold within; rw [decide_eq_true (p := 1 ≤ c.cycle) (by omega), decide_eq_true (p := c.cycle ≤ 100) (by omega)]; rfl); have q2 : (!within c.delay 0 20) = true := (by unfold within; first | (rw [decide_eq_false (p := 0 ≤ c.delay) (by omega)]; rfl) | (rw [decide_eq_false (p := c.delay ≤ 20) (by omega)]; simp)); simp only [firstOf, q0, q1, q2]; rfl)
    go_wp2_with fail
    refine (bare_at 2 _).mono ?_
    rintro v w1 ⟨rfl, hb1⟩
    have HB1 : Hid (Below W.heap.size W w1) := HB.out.trans (hb1.mono HB.out.size)
    clear hb1
    go_wp2_with (refine wpList_store_row rfl 28 _ _ rfl (w.heap.size + 1) #[.int .i64 2, .int .i64 (-1)] rfl rfl 28 #[.int .i64 0, .int .i64 0] (HRr.out _ HB1.out) Tryz.sizeFlt rfl (by simp [Value.oneCell']) ?_)
    refine bodyPost_ret (results_cell_row rfl _ _ (w.heap.size + 1) _ _ _ _ rfl (heap_setRow _ (HRr.out _ HB1.out)) Tryz.underlying28 rfl Tryz.sizeFlt) rfl ?_
    exact ⟨by rw [HE.out]; rfl, HFin.out _ _ HB1.out⟩
  by_cases t8 : 20 < c.delay
  · have HE : Hid (cfgErr c = (2, -1)) := whole_bad (by decide) (by unfold wholeErr; have q0 : (!(within c.closed 0 1000 && within c.opn 1 1000)) = false := (by unfold within; rw [decide_eq_true (p := 0 ≤ c.closed) (by omega), decide_eq_true (p := c.closed ≤ 1000) (by omega), decide_eq_true (p := 1 ≤ c.opn) (by omega), decide_eq_true (p := c.opn ≤ 1000) (by omega)]; rfl); have q1 : (!within c.cycle 1 100) = false := (by unfold within; rw [decide_eq_true (p := 1 ≤ c.cycle) (by omega), decide_eq_true (p := c.cycle ≤ 100) (by omega)]; rfl); have q2 : (!within c.delay 0 20) = true := (by unfold within; first | (rw [decide_eq_false (p := 0 ≤ c.delay) (by omega)]; rfl) | (rw [decide_eq_false (p := c.delay ≤ 20) (by omega)]; simp)); simp only [firstOf, q0, q1, q2]; rfl)
    go_wp2_with fail
    refine (bare_at 2 _).mono ?_
    rintro v w1 ⟨rfl, hb1⟩
    have HB1 : Hid (Below W.heap.size W w1) := HB.out.trans (hb1.mono HB.out.size)
    clear hb1
    go_wp2_with (refine wpList_store_row rfl 28 _ _ rfl (w.heap.size + 1) #[.int .i64 2, .int .i64 (-1)] rfl rfl 28 #[.int .i64 0, .int .i64 0] (HRr.out _ HB1.out) Tryz.sizeFlt rfl (by simp [Value.oneCell']) ?_)
    refine bodyPost_ret (results_cell_row rfl _ _ (w.heap.size + 1) _ _ _ _ rfl (heap_setRow _ (HRr.out _ HB1.out)) Tryz.underlying28 rfl Tryz.sizeFlt) rfl ?_
    exact ⟨by rw [HE.out]; rfl, HFin.out _ _ HB1.out⟩
  by_cases t9 : 8 < (c.ents.length : Int)
  · have HE : Hid (cfgErr c = (2, -1)) := whole_bad (by decide) (by unfold wholeErr; have q0 : (!(within c.closed 0 1000 && within c.opn 1 1000)) = false := (by unfold within; rw [decide_eq_true (p := 0 ≤ c.closed) (by omega), decide_eq_true (p := c.closed ≤ 1000) (by omega), decide_eq_true (p := 1 ≤ c.opn) (by omega), decide_eq_true (p := c.opn ≤ 1000) (by omega)]; rfl); have q1 : (!within c.cycle 1 100) = false := (by unfold within; rw [decide_eq_true (p := 1 ≤ c.cycle) (by omega), decide_eq_true (p := c.cycle ≤ 100) (by omega)]; rfl); have q2 : (!within c.delay 0 20) = false := (by unfold within; rw [decide_eq_true (p := 0 ≤ c.delay) (by omega), decide_eq_true (p := c.delay ≤ 20) (by omega)]; rfl); have q3 : decide (8 < c.ents.length) = true := decide_eq_true (by omega); simp only [firstOf, q0, q1, q2, q3]; rfl)
    go_wp2_with fail
    refine (bare_at 2 _).mono ?_
    rintro v w1 ⟨rfl, hb1⟩
    have HB1 : Hid (Below W.heap.size W w1) := HB.out.trans (hb1.mono HB.out.size)
    clear hb1
    go_wp2_with (refine wpList_store_row rfl 28 _ _ rfl (w.heap.size + 1) #[.int .i64 2, .int .i64 (-1)] rfl rfl 28 #[.int .i64 0, .int .i64 0] (HRr.out _ HB1.out) Tryz.sizeFlt rfl (by simp [Value.oneCell']) ?_)
    refine bodyPost_ret (results_cell_row rfl _ _ (w.heap.size + 1) _ _ _ _ rfl (heap_setRow _ (HRr.out _ HB1.out)) Tryz.underlying28 rfl Tryz.sizeFlt) rfl ?_
    exact ⟨by rw [HE.out]; rfl, HFin.out _ _ HB1.out⟩
  by_cases t10 : c.opn < c.cycle
  · have HE : Hid (cfgErr c = (3, -1)) := whole_bad (by decide) (by unfold wholeErr; have q0 : (!(within c.closed 0 1000 && within c.opn 1 1000)) = false := (by unfold within; rw [decide_eq_true (p := 0 ≤ c.closed) (by omega), decide_eq_true (p := c.closed ≤ 1000) (by omega), decide_eq_true (p := 1 ≤ c.opn) (by omega), decide_eq_true (p := c.opn ≤ 1000) (by omega)]; rfl); have q1 : (!within c.cycle 1 100) = false := (by unfold within; rw [decide_eq_true (p := 1 ≤ c.cycle) (by omega), decide_eq_true (p := c.cycle ≤ 100) (by omega)]; rfl); have q2 : (!within c.delay 0 20) = false := (by unfold within; rw [decide_eq_true (p := 0 ≤ c.delay) (by omega), decide_eq_true (p := c.delay ≤ 20) (by omega)]; rfl); have q3 : decide (8 < c.ents.length) = false := decide_eq_false (by omega); have q4 : decide (c.opn < c.cycle) = true := decide_eq_true (by omega); simp only [firstOf, q0, q1, q2, q3, q4]; rfl)
    go_wp2_with fail
    refine (bare_at 3 _).mono ?_
    rintro v w1 ⟨rfl, hb1⟩
    have HB1 : Hid (Below W.heap.size W w1) := HB.out.trans (hb1.mono HB.out.size)
    clear hb1
    go_wp2_with (refine wpList_store_row rfl 28 _ _ rfl (w.heap.size + 1) #[.int .i64 3, .int .i64 (-1)] rfl rfl 28 #[.int .i64 0, .int .i64 0] (HRr.out _ HB1.out) Tryz.sizeFlt rfl (by simp [Value.oneCell']) ?_)
    refine bodyPost_ret (results_cell_row rfl _ _ (w.heap.size + 1) _ _ _ _ rfl (heap_setRow _ (HRr.out _ HB1.out)) Tryz.underlying28 rfl Tryz.sizeFlt) rfl ?_
    exact ⟨by rw [HE.out]; rfl, HFin.out _ _ HB1.out⟩
  have HW0 : Hid (cfgErr c = entsErr [] 0 c.ents) := whole_ok (by
    unfold wholeErr
    have q0 : (!(within c.closed 0 1000 && within c.opn 1 1000)) = false := (by unfold within; rw [decide_eq_true (p := 0 ≤ c.closed) (by omega), decide_eq_true (p := c.closed ≤ 1000) (by omega), decide_eq_true (p := 1 ≤ c.opn) (by omega), decide_eq_true (p := c.opn ≤ 1000) (by omega)]; rfl)
    have q1 : (!within c.cycle 1 100) = false := (by unfold within; rw [decide_eq_true (p := 1 ≤ c.cycle) (by omega), decide_eq_true (p := c.cycle ≤ 100) (by omega)]; rfl)
    have q2 : (!within c.delay 0 20) = false := (by unfold within; rw [decide_eq_true (p := 0 ≤ c.delay) (by omega), decide_eq_true (p := c.delay ≤ 20) (by omega)]; rfl)
    have q3 : decide (8 < c.ents.length) = false := decide_eq_false (by omega)
    have q4 : decide (c.opn < c.cycle) = false := decide_eq_false (by omega)
    simp only [firstOf, q0, q1, q2, q3, q4]; rfl)
  go_upto_region 7 with fail
  clear y0 y1 y2 y3 y4 t1 t2 t3 t4 t5 t6 t7 t8 t9 t10
  go_cut [3] (fun i wv => i = .int .i64 0 ∧ wv = W)
  case first =>
    go_wp2_with fail
    go_meet
    case rel => exact ⟨rfl, rfl⟩
  obtain ⟨rfl, rfl⟩ := hcut
  rename World => W
  go_wp2_with fail
  go_loopw [3, 4] (fun iv _ wx => ∃ (k : Nat), k ≤ c.ents.length ∧ iv = .int .i64 k ∧ Below W.heap.size W wx ∧ cfgErr c = entsErr ((c.ents.take k).map (·.name)) k (c.ents.drop k)) (fun iv _ _ => c.ents.length - (intOf iv).toNat)
  case atStart => exact ⟨0, Nat.zero_le _, rfl, HB.out, by rw [HW0.out]; rfl⟩
  case round =>
    clear HB HW0
    obtain ⟨k, hk, rfl, hbx, hno⟩ := hrel
    rename World => wx
    have HB : Hid (Below W.heap.size W wx) := hbx
    have HNo : Hid (cfgErr c = entsErr ((c.ents.take k).map (·.name)) k (c.ents.drop k)) := hno
    clear hbx hno
    have y4 := HX.out wx HB.out 4 _ rfl
    by_cases hlt : k < c.ents.length
    · have k1 : (k : Int) < (c.ents.length : Int) := by omega
      have k2 : k < 1000000 := by have := HSm.out.hn; omega
      obtain ⟨e, he⟩ : ∃ e, c.ents[k]? = some e := ⟨_, List.getElem?_eq_getElem hlt⟩
      have HDr : Hid (c.ents.drop k = e :: c.ents.drop (k + 1)) := by
        show _ = _
        rw [List.drop_eq_getElem_cons hlt]
        rw [List.getElem?_eq_getElem hlt] at he
        cases he; rfl
      have HTk : Hid ((c.ents.take (k + 1)).map (·.name) = (c.ents.take k).map (·.name) ++ [e.name]) := by show _ = _; rw [List.take_add_one, he]; simp
      have HC : Hid _ := entErr_at c.ents sa sc k e wx (HEn.out wx HB.out) he HSm.out.he HSm.out.hn
      clear he
      go_wp2_with fail
      refine Calls.mono HC.out ?_
      rintro v w2 ⟨rfl, hb2⟩
      have HB2 : Hid (Below W.heap.size W w2) := HB.out.trans (hb2.mono HB.out.size)
      clear hb2 HC y4
      obtain ⟨n, hn⟩ : ∃ n, n = entErr ((c.ents.take k).map (·.name)) e := ⟨_, rfl⟩
      rw [← hn]
      by_cases n0 : n = 0
      · have HE : Hid (cfgErr c = entsErr ((c.ents.take (k + 1)).map (·.name)) (k + 1) (c.ents.drop (k + 1))) := by
          show _ = _
          rw [HNo.out, HDr.out, ents_go (by rw [← hn]; exact n0), HTk.out]
        subst n0
        clear hn
        go_wp2_with fail
        go_roundw
        case rel => exact ⟨k + 1, by omega, by go_num, HB2.out, HE.out⟩
        case measure => simp [intOf]; omega
      · have HE : Hid (cfgErr c = (n, (k : Int))) := by
          show _ = _
          rw [HNo.out, HDr.out, ents_stop (by rw [← hn]; exact n0), ← hn]
        have n1 : (0 : Int) < (n : Int) := by omega
        clear hn n0
        go_wp2_with (refine wpList_store_row rfl 28 _ _ rfl (w.heap.size + 1) #[.int .i64 (n : Int), .int .i64 (k : Int)] rfl rfl 28 #[.int .i64 0, .int .i64 0] (HRr.out _ HB2.out) Tryz.sizeFlt rfl (by simp [Value.oneCell']) ?_)
        refine bodyPost_ret (results_cell_row rfl _ _ (w.heap.size + 1) _ _ _ _ rfl (heap_setRow _ (HRr.out _ HB2.out)) Tryz.underlying28 rfl Tryz.sizeFlt) rfl ?_
        exact ⟨by rw [HE.out], HFin.out _ _ HB2.out⟩
    · have k1 : ¬ (k : Int) < (c.ents.length : Int) := by omega
      have HE : Hid (cfgErr c = (0, -1)) := by show _ = _; rw [HNo.out, List.drop_of_length_le (by omega)]; rfl
      go_wp2_with fail
      refine (fine_at _).mono ?_
      rintro v w1 ⟨rfl, hb1⟩
      have HB1 : Hid (Below W.heap.size W w1) := HB.out.trans (hb1.mono HB.out.size)
      clear hb1
      go_wp2_with (refine wpList_store_row rfl 28 _ _ rfl (w.heap.size + 1) #[.int .i64 0, .int .i64 (-1)] rfl rfl 28 #[.int .i64 0, .int .i64 0] (HRr.out _ HB1.out) Tryz.sizeFlt rfl (by simp [Value.oneCell']) ?_)
      refine bodyPost_ret (results_cell_row rfl _ _ (w.heap.size + 1) _ _ _ _ rfl (heap_setRow _ (HRr.out _ HB1.out)) Tryz.underlying28 rfl Tryz.sizeFlt) rfl ?_
      exact ⟨by rw [HE.out]; rfl, HFin.out _ _ HB1.out⟩
end Go.Proofs.YtbholbenjalliaaGreatDoor
