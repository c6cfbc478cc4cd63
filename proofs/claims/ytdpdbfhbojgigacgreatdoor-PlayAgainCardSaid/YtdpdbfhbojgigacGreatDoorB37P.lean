/-
  Several texts as one: DcFault, KlBase, KeSee, DcSmI, PlBase.
-/
import Derived.Test.YtdpdbfhbojgigacGreatDoorB36P
import Derived.Test.YtdpdbfhbojgigacGreatDoorB31P
import Derived.Test.YtdpdbfhbojgigacGreatDoorB23P
import Derived.Test.YtdpdbfhbojgigacGreatDoorB32P
import Derived.Test.YtdpdbfhbojgigacGreatDoorB33P
import Derived.Test.YtdpdbfhbojgigacGreatDoorB08P
import Derived.Test.YtdpdbfhbojgigacGreatDoorB20P
import Derived.Test.YtdpdbfhbojgigacGreatDoorB11P
import Derived.Test.YtdpdbfhbojgigacGreatDoorB35P
import Derived.Test.YtdpdbfhbojgigacGreatDoorB25P
import Derived.OwnWalk
namespace Go.Proofs.YtdpdbfhbojgigacGreatDoor
open Go.RowKit Go.Extern.Stop Go.Stop Go.Extern

theorem Tryz.sizeFlt : (Tryz.prog.info? 29).map (·.size) = some 2 := by kernel_rfl
theorem bare_at (n : Int) (w : World) : Calls Tryz.prog 38 #[.int .i64 n] w fun v w' => v = .returned (.agg #[.int .i64 n, .int .i64 (-1)]) ∧ Below w.heap.size w w' := by
  go_enter Tryz.func38, Tryz.ntmps38
  go_wp2_with fail
  refine bodyPost_ret (results_cell_row rfl _ _ w.heap.size _ _ _ _ rfl (heap_alloc_new w _) Tryz.underlying29 rfl Tryz.sizeFlt) rfl ?_
  exact ⟨rfl, Below.one _ _⟩
theorem fine_at (w : World) : Calls Tryz.prog 52 #[] w fun v w' => v = .returned (.agg #[.int .i64 0, .int .i64 (-1)]) ∧ Below w.heap.size w w' := by
  go_enter Tryz.func52, Tryz.ntmps52
  go_wp2_with fail
  refine bodyPost_ret (results_cell_row rfl _ _ w.heap.size _ _ _ _ rfl (heap_alloc_new w _) Tryz.underlying29 rfl Tryz.sizeFlt) rfl ?_
  exact ⟨rfl, Below.one _ _⟩
theorem whole_bad {c : CfgD} {n : Nat} (hn : n ≠ 0) (h : wholeErr c = n) : cfgErr c = (n, -1) := by unfold cfgErr; rw [if_neg (by rw [h]; exact hn), h]
theorem whole_ok {c : CfgD} (h : wholeErr c = 0) : cfgErr c = entsErr [] 0 c.ents := by unfold cfgErr; rw [if_pos h]
theorem ents_stop {a : List ByteArray} {k : Nat} {e : EntD} {t : List EntD} (h : entErr a e ≠ 0) : entsErr a k (e :: t) = (entErr a e, (k : Int)) := by rw [entsErr, if_neg h]
theorem ents_go {a : List ByteArray} {k : Nat} {e : EntD} {t : List EntD} (h : entErr a e = 0) : entsErr a k (e :: t) = entsErr (a ++ [e.name]) (k + 1) t := by rw [entsErr, if_pos h]
set_option maxHeartbeats 8000000 in
set_option maxRecDepth 100000 in
theorem cfault_at (c : CfgD) (sa : Option Addr) (sc : Nat) (w : World) (hE : EntsAt w (.slice sa c.ents.length sc) c.ents) (hS : SmallC c) :
    Calls Tryz.prog 12 #[.agg #[.int .i64 c.closed, .int .i64 c.opn, .int .i64 c.cycle, .int .i64 c.delay, .slice sa c.ents.length sc]] w fun v w' => v = .returned (.agg #[.int .i64 ((cfgErr c).1 : Int), .int .i64 (cfgErr c).2]) ∧ Below w.heap.size w w' := by
  obtain ⟨W, hW⟩ : ∃ V, V = (w.alloc (.cells #[.int .i64 c.closed, .int .i64 c.opn, .int .i64 c.cycle, .int .i64 c.delay, .slice sa c.ents.length sc] 24)).alloc (.cells #[.int .i64 0, .int .i64 0] 29) := ⟨_, rfl⟩
  have HBW : Hid (Below w.heap.size w W) := by show Below _ _ _; rw [hW]; exact (Below.one _ _).alloc (by simp) _
  have HX : Hid (∀ V, Below W.heap.size W V → ∀ (j : Nat) u, (#[.int .i64 c.closed, .int .i64 c.opn, .int .i64 c.cycle, .int .i64 c.delay, .slice sa c.ents.length sc] : Array Value)[j]? = some u → V.cell? ⟨w.heap.size, j, none⟩ = some u) := fun V hV j u hu => by
    have := row_below hV (show W.heap[w.heap.size]? = _ by rw [hW]; exact row_below (Below.one _ _) (heap_alloc_new w _))
    simp [World.cell?, this, hu]
  have HRr : Hid (∀ V, Below W.heap.size W V → V.heap[w.heap.size + 1]? = some (.cells #[.int .i64 0, .int .i64 0] 29 (0, 0))) := fun V hV => row_below hV (by rw [hW]; have := heap_alloc_new (w.alloc (.cells #[.int .i64 c.closed, .int .i64 c.opn, .int .i64 c.cycle, .int .i64 c.delay, .slice sa c.ents.length sc] 24)) (.cells #[.int .i64 0, .int .i64 0] 29); simpa using this)
  have HFin : Hid (∀ V cs, Below W.heap.size W V → Below w.heap.size w (V.setRow (w.heap.size + 1) cs)) := fun V cs hV => by
    have b1 := HBW.out.trans (hV.mono HBW.out.size)
    exact b1.grown (grown_setRow _ _ _) b1.size (fun j hj => by cases hj; omega)
  have HEn : Hid (∀ V, Below W.heap.size W V → EntsAt V (.slice sa c.ents.length sc) c.ents) := fun V hV => hE.below (HBW.out.trans (hV.mono HBW.out.size))
  have HSm : Hid (SmallC c) := hS
  have HB : Hid (Below W.heap.size W W) := Below.refl _ _
  have y0 := HX.out W (Below.refl _ _) 0 _ rfl
  have y1 := HX.out W (Below.refl _ _) 1 _ rfl
  have y2 := HX.out W (Below.refl _ _) 2 _ rfl
  have y3 := HX.out W (Below.refl _ _) 3 _ rfl
  have y4 := HX.out W (Below.refl _ _) 4 _ rfl
  clear hE hS
  go_enter Tryz.func12, Tryz.ntmps12
  go_upto_region 1 with fail
  rw [← hW]
  clear hW
  by_cases t1 : c.closed < 0
  · have HE : Hid (cfgErr c = (2, -1)) := whole_bad (by decide) (by unfold wholeErr; have q0 : (!(within c.closed 0 1000 && within c.opn 1 1000)) = true := (by unfold within; rw [decide_eq_false (p := 0 ≤ c.closed) (by omega)]; rfl); simp only [firstOf, q0]; rfl)
    go_wp2_with fail
    refine (bare_at 2 _).mono ?_
    rintro v w1 ⟨rfl, hb1⟩
    have HB1 : Hid (Below W.heap.size W w1) := HB.out.trans (hb1.mono HB.out.size)
    clear hb1
    go_wp2_with (refine wpList_store_row rfl 29 _ _ rfl (w.heap.size + 1) #[.int .i64 2, .int .i64 (-1)] rfl rfl 29 #[.int .i64 0, .int .i64 0] (HRr.out _ HB1.out) Tryz.sizeFlt rfl (by simp [Value.oneCell']) ?_)
    refine bodyPost_ret (results_cell_row rfl _ _ (w.heap.size + 1) _ _ _ _ rfl (heap_setRow _ (HRr.out _ HB1.out)) Tryz.underlying29 rfl Tryz.sizeFlt) rfl ?_
    exact ⟨by rw [HE.out]; rfl, HFin.out _ _ HB1.out⟩
  by_cases t2 : 1000 < c.closed
  · have HE : Hid (cfgErr c = (2, -1)) := whole_bad (by decide) (by unfold wholeErr; have q0 : (!(within c.closed 0 1000 && within c.opn 1 1000)) = true := (by unfold within; rw [decide_eq_false (p := c.closed ≤ 1000) (by omega)]; simp); simp only [firstOf, q0]; rfl)
    go_wp2_with fail
    refine (bare_at 2 _).mono ?_
    rintro v w1 ⟨rfl, hb1⟩
    have HB1 : Hid (Below W.heap.size W w1) := HB.out.trans (hb1.mono HB.out.size)
    clear hb1
    go_wp2_with (refine wpList_store_row rfl 29 _ _ rfl (w.heap.size + 1) #[.int .i64 2, .int .i64 (-1)] rfl rfl 29 #[.int .i64 0, .int .i64 0] (HRr.out _ HB1.out) Tryz.sizeFlt rfl (by simp [Value.oneCell']) ?_)
    refine bodyPost_ret (results_cell_row rfl _ _ (w.heap.size + 1) _ _ _ _ rfl (heap_setRow _ (HRr.out _ HB1.out)) Tryz.underlying29 rfl Tryz.sizeFlt) rfl ?_
    exact ⟨by rw [HE.out]; rfl, HFin.out _ _ HB1.out⟩
  by_cases t3 : c.opn < 1
  · have HE : Hid (cfgErr c = (2, -1)) := whole_bad (by decide) (by unfold wholeErr; have q0 : (!(within c.closed 0 1000 && within c.opn 1 1000)) = true := (by unfold within; rw [decide_eq_false (p := 1 ≤ c.opn) (by omega)]; simp); simp only [firstOf, q0]; rfl)
    go_wp2_with fail
    refine (bare_at 2 _).mono ?_
    rintro v w1 ⟨rfl, hb1⟩
    have HB1 : Hid (Below W.heap.size W w1) := HB.out.trans (hb1.mono HB.out.size)
    clear hb1
    go_wp2_with (refine wpList_store_row rfl 29 _ _ rfl (w.heap.size + 1) #[.int .i64 2, .int .i64 (-1)] rfl rfl 29 #[.int .i64 0, .int .i64 0] (HRr.out _ HB1.out) Tryz.sizeFlt rfl (by simp [Value.oneCell']) ?_)
    refine bodyPost_ret (results_cell_row rfl _ _ (w.heap.size + 1) _ _ _ _ rfl (heap_setRow _ (HRr.out _ HB1.out)) Tryz.underlying29 rfl Tryz.sizeFlt) rfl ?_
    exact ⟨by rw [HE.out]; rfl, HFin.out _ _ HB1.out⟩
  by_cases t4 : 1000 < c.opn
  · have HE : Hid (cfgErr c = (2, -1)) := whole_bad (by decide) (by unfold wholeErr; have q0 : (!(within c.closed 0 1000 && within c.opn 1 1000)) = true := (by unfold within; rw [decide_eq_false (p := c.opn ≤ 1000) (by omega)]; simp); simp only [firstOf, q0]; rfl)
    go_wp2_with fail
    refine (bare_at 2 _).mono ?_
    rintro v w1 ⟨rfl, hb1⟩
    have HB1 : Hid (Below W.heap.size W w1) := HB.out.trans (hb1.mono HB.out.size)
    clear hb1
    go_wp2_with (refine wpList_store_row rfl 29 _ _ rfl (w.heap.size + 1) #[.int .i64 2, .int .i64 (-1)] rfl rfl 29 #[.int .i64 0, .int .i64 0] (HRr.out _ HB1.out) Tryz.sizeFlt rfl (by simp [Value.oneCell']) ?_)
    refine bodyPost_ret (results_cell_row rfl _ _ (w.heap.size + 1) _ _ _ _ rfl (heap_setRow _ (HRr.out _ HB1.out)) Tryz.underlying29 rfl Tryz.sizeFlt) rfl ?_
    exact ⟨by rw [HE.out]; rfl, HFin.out _ _ HB1.out⟩
  by_cases t5 : c.cycle < 1
  · have HE : Hid (cfgErr c = (2, -1)) := whole_bad (by decide) (by unfold wholeErr; have q0 : (!(within c.closed 0 1000 && within c.opn 1 1000)) = false := (by unfold within; rw [decide_eq_true (p := 0 ≤ c.closed) (by omega), decide_eq_true (p := c.closed ≤ 1000) (by omega), decide_eq_true (p := 1 ≤ c.opn) (by omega), decide_eq_true (p := c.opn ≤ 1000) (by omega)]; rfl); have q1 : (!within c.cycle 1 100) = true := (by unfold within; first | (rw [decide_eq_false (p := 1 ≤ c.cycle) (by omega)]; rfl) | (rw [decide_eq_false (p := c.cycle ≤ 100) (by omega)]; simp)); simp only [firstOf, q0, q1]; rfl)
    go_wp2_with fail
    refine (bare_at 2 _).mono ?_
    rintro v w1 ⟨rfl, hb1⟩
    have HB1 : Hid (Below W.heap.size W w1) := HB.out.trans (hb1.mono HB.out.size)
    clear hb1
    go_wp2_with (refine wpList_store_row rfl 29 _ _ rfl (w.heap.size + 1) #[.int .i64 2, .int .i64 (-1)] rfl rfl 29 #[.int .i64 0, .int .i64 0] (HRr.out _ HB1.out) Tryz.sizeFlt rfl (by simp [Value.oneCell']) ?_)
    refine bodyPost_ret (results_cell_row rfl _ _ (w.heap.size + 1) _ _ _ _ rfl (heap_setRow _ (HRr.out _ HB1.out)) Tryz.underlying29 rfl Tryz.sizeFlt) rfl ?_
    exact ⟨by rw [HE.out]; rfl, HFin.out _ _ HB1.out⟩
  by_cases t6 : 100 < c.cycle
  · have HE : Hid (cfgErr c = (2, -1)) := whole_bad (by decide) (by unfold wholeErr; have q0 : (!(within c.closed 0 1000 && within c.opn 1 1000)) = false := (by unfold within; rw [decide_eq_true (p := 0 ≤ c.closed) (by omega), decide_eq_true (p := c.closed ≤ 1000) (by omega), decide_eq_true (p := 1 ≤ c.opn) (by omega), decide_eq_true (p := c.opn ≤ 1000) (by omega)]; rfl); have q1 : (!within c.cycle 1 100) = true := (by unfold within; first | (rw [decide_eq_false (p := 1 ≤ c.cycle) (by omega)]; rfl) | (rw [decide_eq_false (p := c.cycle ≤ 100) (by omega)]; simp)); simp only [firstOf, q0, q1]; rfl)
    go_wp2_with fail
    refine (bare_at 2 _).mono ?_
    rintro v w1 ⟨rfl, hb1⟩
    have HB1 : Hid (Below W.heap.size W w1) := HB.out.trans (hb1.mono HB.out.size)
    clear hb1
    go_wp2_with (refine wpList_store_row rfl 29 _ _ rfl (w.heap.size + 1) #[.int .i64 2, .int .i64 (-1)] rfl rfl 29 #[.int .i64 0, .int .i64 0] (HRr.out _ HB1.out) Tryz.sizeFlt rfl (by simp [Value.oneCell']) ?_)
    refine bodyPost_ret (results_cell_row rfl _ _ (w.heap.size + 1) _ _ _ _ rfl (heap_setRow _ (HRr.out _ HB1.out)) Tryz.underlying29 rfl Tryz.sizeFlt) rfl ?_
    exact ⟨by rw [HE.out]; rfl, HFin.out _ _ HB1.out⟩
  by_cases t7 : c.delay < 0
  · have HE : Hid (cfgErr c = (2, -1)) := whole_bad (by decide) (by unfold wholeErr; have q0 : (!(within c.closed 0 1000 && within c.opn 1 1000)) = false := (by unfold within; rw [decide_eq_true (p := 0 ≤ c.closed) (by omega), decide_eq_true (p := c.closed ≤ 1000) (by omega), decide_eq_true (p := 1 ≤ c.opn) (by omega), decide_eq_true (p := c.opn ≤ 1000) (by omega)]; rfl); have q1 : (!within c.cycle 1 100) = false := (by unfold within; rw [decide_eq_true (p := 1 ≤ c.cycle) (by omega), decide_eq_true (p := c.cycle ≤ 100) (by omega)]; rfl); have q2 : (!within c.delay 0 20) = true := (by unfold within; first | (rw [decide_eq_false (p := 0 ≤ c.delay) (by omega)]; rfl) | (rw [decide_eq_false (p := c.delay ≤ 20) (by omega)]; simp)); simp only [firstOf, q0, q1, q2]; rfl)
    go_wp2_with fail
    refine (bare_at 2 _).mono ?_
    rintro v w1 ⟨rfl, hb1⟩
    have HB1 : Hid (Below W.heap.size W w1) := HB.out.trans (hb1.mono HB.out.size)
    clear hb1
    go_wp2_with (refine wpList_store_row rfl 29 _ _ rfl (w.heap.size + 1) #[.int .i64 2, .int .i64 (-1)] rfl rfl 29 #[.int .i64 0, .int .i64 0] (HRr.out _ HB1.out) Tryz.sizeFlt rfl (by simp [Value.oneCell']) ?_)
    refine bodyPost_ret (results_cell_row rfl _ _ (w.heap.size + 1) _ _ _ _ rfl (heap_setRow _ (HRr.out _ HB1.out)) Tryz.underlying29 rfl Tryz.sizeFlt) rfl ?_
    exact ⟨by rw [HE.out]; rfl, HFin.out _ _ HB1.out⟩
  by_cases t8 : 20 < c.delay
  · have HE : Hid (cfgErr c = (2, -1)) := whole_bad (by decide) (by unfold wholeErr; have q0 : (!(within c.closed 0 1000 && within c.opn 1 1000)) = false := (by unfold within; rw [decide_eq_true (p := 0 ≤ c.closed) (by omega), decide_eq_true (p := c.closed ≤ 1000) (by omega), decide_eq_true (p := 1 ≤ c.opn) (by omega), decide_eq_true (p := c.opn ≤ 1000) (by omega)]; rfl); have q1 : (!within c.cycle 1 100) = false := (by unfold within; rw [decide_eq_true (p := 1 ≤ c.cycle) (by omega), decide_eq_true (p := c.cycle ≤ 100) (by omega)]; rfl); have q2 : (!within c.delay 0 20) = true := (by unfold within; first | (rw [decide_eq_false (p := 0 ≤ c.delay) (by omega)]; rfl) | (rw [decide_eq_false (p := c.delay ≤ 20) (by omega)]; simp)); simp only [firstOf, q0, q1, q2]; rfl)
    go_wp2_with fail
    refine (bare_at 2 _).mono ?_
    rintro v w1 ⟨rfl, hb1⟩
    have HB1 : Hid (Below W.heap.size W w1) := HB.out.trans (hb1.mono HB.out.size)
    clear hb1
    go_wp2_with (refine wpList_store_row rfl 29 _ _ rfl (w.heap.size + 1) #[.int .i64 2, .int .i64 (-1)] rfl rfl 29 #[.int .i64 0, .int .i64 0] (HRr.out _ HB1.out) Tryz.sizeFlt rfl (by simp [Value.oneCell']) ?_)
    refine bodyPost_ret (results_cell_row rfl _ _ (w.heap.size + 1) _ _ _ _ rfl (heap_setRow _ (HRr.out _ HB1.out)) Tryz.underlying29 rfl Tryz.sizeFlt) rfl ?_
    exact ⟨by rw [HE.out]; rfl, HFin.out _ _ HB1.out⟩
  by_cases t9 : 8 < (c.ents.length : Int)
  · have HE : Hid (cfgErr c = (2, -1)) := whole_bad (by decide) (by unfold wholeErr; have q0 : (!(within c.closed 0 1000 && within c.opn 1 1000)) = false := (by unfold within; rw [decide_eq_true (p := 0 ≤ c.closed) (by omega), decide_eq_true (p := c.closed ≤ 1000) (by omega), decide_eq_true (p := 1 ≤ c.opn) (by omega), decide_eq_true (p := c.opn ≤ 1000) (by omega)]; rfl); have q1 : (!within c.cycle 1 100) = false := (by unfold within; rw [decide_eq_true (p := 1 ≤ c.cycle) (by omega), decide_eq_true (p := c.cycle ≤ 100) (by omega)]; rfl); have q2 : (!within c.delay 0 20) = false := (by unfold within; rw [decide_eq_true (p := 0 ≤ c.delay) (by omega), decide_eq_true (p := c.delay ≤ 20) (by omega)]; rfl); have q3 : decide (8 < c.ents.length) = true := decide_eq_true (by omega); simp only [firstOf, q0, q1, q2, q3]; rfl)
    go_wp2_with fail
    refine (bare_at 2 _).mono ?_
    rintro v w1 ⟨rfl, hb1⟩
    have HB1 : Hid (Below W.heap.size W w1) := HB.out.trans (hb1.mono HB.out.size)
    clear hb1
    go_wp2_with (refine wpList_store_row rfl 29 _ _ rfl (w.heap.size + 1) #[.int .i64 2, .int .i64 (-1)] rfl rfl 29 #[.int .i64 0, .int .i64 0] (HRr.out _ HB1.out) Tryz.sizeFlt rfl (by simp [Value.oneCell']) ?_)
    refine bodyPost_ret (results_cell_row rfl _ _ (w.heap.size + 1) _ _ _ _ rfl (heap_setRow _ (HRr.out _ HB1.out)) Tryz.underlying29 rfl Tryz.sizeFlt) rfl ?_
    exact ⟨by rw [HE.out]; rfl, HFin.out _ _ HB1.out⟩
  by_cases t10 : c.opn < c.cycle
  · have HE : Hid (cfgErr c = (3, -1)) := whole_bad (by decide) (by unfold wholeErr; have q0 : (!(within c.closed 0 1000 && within c.opn 1 1000)) = false := (by unfold within; rw [decide_eq_true (p := 0 ≤ c.closed) (by omega), decide_eq_true (p := c.closed ≤ 1000) (by omega), decide_eq_true (p := 1 ≤ c.opn) (by omega), decide_eq_true (p := c.opn ≤ 1000) (by omega)]; rfl); have q1 : (!within c.cycle 1 100) = false := (by unfold within; rw [decide_eq_true (p := 1 ≤ c.cycle) (by omega), decide_eq_true (p := c.cycle ≤ 100) (by omega)]; rfl); have q2 : (!within c.delay 0 20) = false := (by unfold within; rw [decide_eq_true (p := 0 ≤ c.delay) (by omega), decide_eq_true (p := c.delay ≤ 20) (by omega)]; rfl); have q3 : decide (8 < c.ents.length) = false := decide_eq_false (by omega); have q4 : decide (c.opn < c.cycle) = true := decide_eq_true (by omega); simp only [firstOf, q0, q1, q2, q3, q4]; rfl)
    go_wp2_with fail
    refine (bare_at 3 _).mono ?_
    rintro v w1 ⟨rfl, hb1⟩
    have HB1 : Hid (Below W.heap.size W w1) := HB.out.trans (hb1.mono HB.out.size)
    clear hb1
    go_wp2_with (refine wpList_store_row rfl 29 _ _ rfl (w.heap.size + 1) #[.int .i64 3, .int .i64 (-1)] rfl rfl 29 #[.int .i64 0, .int .i64 0] (HRr.out _ HB1.out) Tryz.sizeFlt rfl (by simp [Value.oneCell']) ?_)
    refine bodyPost_ret (results_cell_row rfl _ _ (w.heap.size + 1) _ _ _ _ rfl (heap_setRow _ (HRr.out _ HB1.out)) Tryz.underlying29 rfl Tryz.sizeFlt) rfl ?_
    exact ⟨by rw [HE.out]; rfl, HFin.out _ _ HB1.out⟩
  have HW0 : Hid (cfgErr c = entsErr [] 0 c.ents) := whole_ok (by
    unfold wholeErr
    have q0 : (!(within c.closed 0 1000 && within c.opn 1 1000)) = false := (by unfold within; rw [decide_eq_true (p := 0 ≤ c.closed) (by omega), decide_eq_true (p := c.closed ≤ 1000) (by omega), decide_eq_true (p := 1 ≤ c.opn) (by omega), decide_eq_true (p := c.opn ≤ 1000) (by omega)]; rfl)
    have q1 : (!within c.cycle 1 100) = false := (by unfold within; rw [decide_eq_true (p := 1 ≤ c.cycle) (by omega), decide_eq_true (p := c.cycle ≤ 100) (by omega)]; rfl)
    have q2 : (!within c.delay 0 20) = false := (by unfold within; rw [decide_eq_true (p := 0 ≤ c.delay) (by omega), decide_eq_true (p := c.delay ≤ 20) (by omega)]; rfl)
    have q3 : decide (8 < c.ents.length) = false := decide_eq_false (by omega)
    have q4 : decide (c.opn < c.cycle) = false := decide_eq_false (by omega)
    simp only [firstOf, q0, q1, q2, q3, q4]; rfl)
  go_upto_region 7 with fail
  clear y0 y1 y2 y3 y4 t1 t2 t3 t4 t5 t6 t7 t8 t9 t10
  go_cut [3] (fun i wv => i = .int .i64 0 ∧ wv = W)
  case first =>
    go_wp2_with fail
    go_meet
    case rel => exact ⟨rfl, rfl⟩
  obtain ⟨rfl, rfl⟩ := hcut
  rename World => W
  go_wp2_with fail
  go_loopw [3, 4] (fun iv _ wx => ∃ (k : Nat), k ≤ c.ents.length ∧ iv = .int .i64 k ∧ Below W.heap.size W wx ∧ cfgErr c = entsErr ((c.ents.take k).map (·.name)) k (c.ents.drop k)) (fun iv _ _ => c.ents.length - (intOf iv).toNat)
  case atStart => exact ⟨0, Nat.zero_le _, rfl, HB.out, by rw [HW0.out]; rfl⟩
  case round =>
    clear HB HW0
    obtain ⟨k, hk, rfl, hbx, hno⟩ := hrel
    rename World => wx
    have HB : Hid (Below W.heap.size W wx) := hbx
    have HNo : Hid (cfgErr c = entsErr ((c.ents.take k).map (·.name)) k (c.ents.drop k)) := hno
    clear hbx hno
    have y4 := HX.out wx HB.out 4 _ rfl
    by_cases hlt : k < c.ents.length
    · have k1 : (k : Int) < (c.ents.length : Int) := by omega
      have k2 : k < 1000000 := by have := HSm.out.hn; omega
      obtain ⟨e, he⟩ : ∃ e, c.ents[k]? = some e := ⟨_, List.getElem?_eq_getElem hlt⟩
      have HDr : Hid (c.ents.drop k = e :: c.ents.drop (k + 1)) := by
        show _ = _
        rw [List.drop_eq_getElem_cons hlt]
        rw [List.getElem?_eq_getElem hlt] at he
        cases he; rfl
      have HTk : Hid ((c.ents.take (k + 1)).map (·.name) = (c.ents.take k).map (·.name) ++ [e.name]) := by show _ = _; rw [List.take_add_one, he]; simp
      have HC : Hid _ := entErr_at c.ents sa sc k e wx (HEn.out wx HB.out) he HSm.out.he HSm.out.hn
      clear he
      go_wp2_with fail
      refine Calls.mono HC.out ?_
      rintro v w2 ⟨rfl, hb2⟩
      have HB2 : Hid (Below W.heap.size W w2) := HB.out.trans (hb2.mono HB.out.size)
      clear hb2 HC y4
      obtain ⟨n, hn⟩ : ∃ n, n = entErr ((c.ents.take k).map (·.name)) e := ⟨_, rfl⟩
      rw [← hn]
      by_cases n0 : n = 0
      · have HE : Hid (cfgErr c = entsErr ((c.ents.take (k + 1)).map (·.name)) (k + 1) (c.ents.drop (k + 1))) := by
          show _ = _
          rw [HNo.out, HDr.out, ents_go (by rw [← hn]; exact n0), HTk.out]
        subst n0
        clear hn
        go_wp2_with fail
        go_roundw
        case rel => exact ⟨k + 1, by omega, by go_num, HB2.out, HE.out⟩
        case measure => simp [intOf]; omega
      · have HE : Hid (cfgErr c = (n, (k : Int))) := by
          show _ = _
          rw [HNo.out, HDr.out, ents_stop (by rw [← hn]; exact n0), ← hn]
        have n1 : (0 : Int) < (n : Int) := by omega
        clear hn n0
        go_wp2_with (refine wpList_store_row rfl 29 _ _ rfl (w.heap.size + 1) #[.int .i64 (n : Int), .int .i64 (k : Int)] rfl rfl 29 #[.int .i64 0, .int .i64 0] (HRr.out _ HB2.out) Tryz.sizeFlt rfl (by simp [Value.oneCell']) ?_)
        refine bodyPost_ret (results_cell_row rfl _ _ (w.heap.size + 1) _ _ _ _ rfl (heap_setRow _ (HRr.out _ HB2.out)) Tryz.underlying29 rfl Tryz.sizeFlt) rfl ?_
        exact ⟨by rw [HE.out], HFin.out _ _ HB2.out⟩
    · have k1 : ¬ (k : Int) < (c.ents.length : Int) := by omega
      have HE : Hid (cfgErr c = (0, -1)) := by show _ = _; rw [HNo.out, List.drop_of_length_le (by omega)]; rfl
      go_wp2_with fail
      refine (fine_at _).mono ?_
      rintro v w1 ⟨rfl, hb1⟩
      have HB1 : Hid (Below W.heap.size W w1) := HB.out.trans (hb1.mono HB.out.size)
      clear hb1
      go_wp2_with (refine wpList_store_row rfl 29 _ _ rfl (w.heap.size + 1) #[.int .i64 0, .int .i64 (-1)] rfl rfl 29 #[.int .i64 0, .int .i64 0] (HRr.out _ HB1.out) Tryz.sizeFlt rfl (by simp [Value.oneCell']) ?_)
      refine bodyPost_ret (results_cell_row rfl _ _ (w.heap.size + 1) _ _ _ _ rfl (heap_setRow _ (HRr.out _ HB1.out)) Tryz.underlying29 rfl Tryz.sizeFlt) rfl ?_
      exact ⟨by rw [HE.out]; rfl, HFin.out _ _ HB1.out⟩
end Go.Proofs.YtdpdbfhbojgigacGreatDoor

namespace Go.Proofs.YtdpdbfhbojgigacGreatDoor
open Go.RowKit Go.Extern.Stop Go.Stop Go.Extern

theorem open_new (n : Nat) (h : n ≤ 4096) (h2 : 153 ≤ n) : openL ((CSt.new n).bytes.take (CSt.new n).size) = [] := by
  rw [openL_take _ (CSt.new n).size h2, (Inv.new n h2 h).opens]
  rfl
section
variable {A : Nat → Addr} {F : Nat → Prop} {w0 w w' : World} {c : CfgD} {kb bc : Nat} {K : KSt} {k W : Nat}
theorem kat_state (h : KeAt F w0 w c kb bc K) : Calls Tryz.prog 20 #[.pointer (some ⟨kb, 0, none⟩)] w fun e w' => e = .returned (.string (stateB K.on)) ∧ w' = w := by
  obtain ⟨H, bd, rb, bt, lv, bs, h1, -⟩ := h
  exact ke_state h1
theorem kat_kicks (h : KeAt F w0 w c kb bc K) : Calls Tryz.prog 23 #[.pointer (some ⟨kb, 0, none⟩)] w fun e w' => e = .returned (.int .i64 (K.d.kicks : Int)) ∧ w' = w := by
  obtain ⟨H, bd, rb, bt, lv, bs, h1, -⟩ := h
  exact ke_kicks h1
theorem kfit_new (hr : KRt c) : KFit c (KSt.new c (CSt.new 4096)) 0 (144 * (KSt.new c (CSt.new 4096)).d.now) := by
  show KFit c _ 0 0
  exact KFit.new hr (Inv.new 4096 (by decide) (by decide)).big (Nat.zero_le _) rfl
theorem Quiet.new : Quiet c (KSt.new c (CSt.new 4096)) := by
  refine ⟨rfl, fun s hs => ?_, open_new 4096 (by decide) (by decide), rfl, rfl, rfl, ?_⟩
  · have hs' : s ∈ c.ents.map fun _ => LSt.new := hs
    simp only [List.mem_map] at hs'
    obtain ⟨_, _, rfl⟩ := hs'
    exact ⟨rfl, rfl⟩
  · show (0, 0) = qk _ _ (0 / _)
    rw [Nat.zero_div]
    rfl
end
theorem fld_fault (x y : Int) (W : World) : (Instr.field 29 (.agg #[.int .i64 x, .int .i64 y]) 0).run Tryz.prog W = .ok (.int .i64 x) W := by kernel_rfl
/-- What fresh leaves. -/
def FrOut (w : World) (c : CfgD) (u : Ending) (w' : World) : Prop := ∃ kb bc F, u = .returned (.tuple #[.pointer (some ⟨kb, 0, none⟩), .pointer (some ⟨bc, 0, none⟩), .bool true]) ∧ KeAt F w w' c kb bc (KSt.new c (CSt.new 4096)) ∧ Below w.heap.size w w' ∧ ∀ k, F k → w.heap.size ≤ k ∧ k < w'.heap.size
set_option maxRecDepth 100000 in
set_option maxHeartbeats 4000000 in
theorem fresh_at (A : Nat → Addr) (c : CfgD) (sa : Option Addr) (sc : Nat) (w : World) (hs : SenK A w) (h0 : (cfgErr c).1 = 0) (hE : EntsAt w (.slice sa c.ents.length sc) c.ents) (hS : SmallC c) :
    Calls Tryz.prog 15 #[.agg #[.int .i64 c.closed, .int .i64 c.opn, .int .i64 c.cycle, .int .i64 c.delay, .slice sa c.ents.length sc]] w fun u w' => FrOut w c u w' := by
  have hr : KRt c := krt_of h0
  obtain ⟨W0, hW0⟩ : ∃ X, X = w.alloc (.cells #[.int .i64 c.closed, .int .i64 c.opn, .int .i64 c.cycle, .int .i64 c.delay, .slice sa c.ents.length sc] 24) := ⟨_, rfl⟩
  have b0 : Below w.heap.size w W0 := by rw [hW0]; exact Below.one _ _
  have r0 : W0.heap[w.heap.size]? = some (.cells #[.int .i64 c.closed, .int .i64 c.opn, .int .i64 c.cycle, .int .i64 c.delay, .slice sa c.ents.length sc] 24 (0, 0)) := by rw [hW0]; exact heap_alloc_new w _
  have HC : Hid (Calls Tryz.prog 49 #[.int .i64 4096] W0 fun e w' => e = .returned (.tuple #[.pointer (some ⟨W0.heap.size, 0, none⟩), .nilIface]) ∧ Below W0.heap.size W0 w' ∧ CellsAt w' W0.heap.size (CSt.new 4096) ∧ w'.heap.size = W0.heap.size + 1) := new_in 4096 W0 (Nat.le_refl _)
  have HCf : Hid (∀ V, Below w.heap.size w V → Calls Tryz.prog 12 #[.agg #[.int .i64 c.closed, .int .i64 c.opn, .int .i64 c.cycle, .int .i64 c.delay, .slice sa c.ents.length sc]] V fun v w' => v = .returned (.agg #[.int .i64 0, .int .i64 (cfgErr c).2]) ∧ Below V.heap.size V w') := fun V hV => by
    have := cfault_at c sa sc V (hE.below hV) hS
    rw [h0] at this
    exact this
  have HO : Hid (∀ V, Below w.heap.size w V → Calls Tryz.prog 37 #[.agg #[.int .i64 c.closed, .int .i64 c.opn, .int .i64 c.cycle, .int .i64 c.delay, .slice sa c.ents.length sc]] V _) := fun V hV => ownConfig_at c sa sc V (hE.below hV) hS
  have HN : Hid (∀ sa' sc' V bc, Below w.heap.size w V → w.heap.size ≤ bc → EntsAt V (.slice sa' c.ents.length sc') c.ents → CellsAt V bc (CSt.new 4096) → Calls Tryz.prog 36 #[.agg #[.int .i64 c.closed, .int .i64 c.opn, .int .i64 c.cycle, .int .i64 c.delay, .slice sa' c.ents.length sc'], .pointer (some ⟨bc, 0, none⟩)] V fun u w' => KeNw w V c bc (CSt.new 4096) u w') := fun sa' sc' V bc hV hlo hEV hcV => ke_new (A := A) sa' sc' hs hr h0 hEV hS hcV hlo hV (by decide) rfl
  have HR0 : Hid _ := r0
  have HB0 : Hid _ := b0
  have y : ∀ V, Below W0.heap.size W0 V → (V.cell? ⟨w.heap.size, 0, none⟩ = some (.int .i64 c.closed) ∧ V.cell? ⟨w.heap.size, 1, none⟩ = some (.int .i64 c.opn) ∧ V.cell? ⟨w.heap.size, 2, none⟩ = some (.int .i64 c.cycle) ∧ V.cell? ⟨w.heap.size, 3, none⟩ = some (.int .i64 c.delay) ∧ V.cell? ⟨w.heap.size, 4, none⟩ = some (.slice sa c.ents.length sc)) := fun V hV => by
    have := row_below hV r0
    refine ⟨?_, ?_, ?_, ?_, ?_⟩ <;> simp [World.cell?, this]
  have HY : Hid _ := y
  clear hs h0 hE hS hr b0 r0 y
  go_enter Tryz.func15, Tryz.ntmps15
  go_upto_region 1 with fail
  rw [← hW0]
  clear hW0
  go_wp2_with fail
  refine Calls.mono HC.out ?_
  rintro u w1 ⟨rfl, hb1, hc1, -⟩
  obtain ⟨y0, y1, y2, y3, y4⟩ := HY.out w1 hb1
  have HB1 : Hid (Below w.heap.size w w1) := HB0.out.trans (hb1.mono HB0.out.size)
  have HBb : Hid _ := hb1
  have HC1 : Hid _ := hc1
  clear hb1 hc1 HC
  go_wp2_with fail
  clear y0 y1 y2 y3 y4
  refine Calls.mono (HCf.out w1 HB1.out) ?_
  rintro u w2 ⟨rfl, hb2⟩
  have hfl := fld_fault 0 (cfgErr c).2 w2
  have HBb2 : Hid (Below W0.heap.size W0 w2) := HBb.out.trans (hb2.mono HBb.out.size)
  obtain ⟨y0, y1, y2, y3, y4⟩ := HY.out w2 HBb2.out
  have HB2 : Hid (Below w.heap.size w w2) := HB1.out.trans (hb2.mono HB1.out.size)
  have HC2 : Hid _ := HC1.out.below hb2
  clear hb2 HCf HC1 HBb HB1
  go_wp2_with fail
  clear y0 y1 y2 y3 y4 hfl
  refine Calls.mono (HO.out w2 HB2.out) ?_
  rintro u w3 ⟨⟨sa', sc', rfl, hown⟩, hb3⟩
  have HB3 : Hid (Below w.heap.size w w3) := HB2.out.trans (hb3.mono HB2.out.size)
  have HX : Hid _ := HN.out sa' sc' w3 W0.heap.size HB3.out HB0.out.size hown.ents (HC2.out.below hb3)
  have HZ : Hid (w.heap.size ≤ W0.heap.size) := HB0.out.size
  clear hown hb3 HC2 HO HN HB2 HBb2 HY HR0 HB0
  go_wp2_with fail
  refine Calls.mono HX.out ?_
  rintro u w4 ⟨kb, F, rfl, hat, hb4, hF⟩
  have HAt : Hid _ := hat
  have HB4 : Hid (Below w.heap.size w w4) := HB3.out.trans (hb4.mono HB3.out.size)
  have HF4 : Hid (∀ k, F k → w.heap.size ≤ k ∧ k < w4.heap.size) := fun k hk => ⟨by
    rcases (hF k hk).1 with e | e
    · rw [e]; exact HZ.out
    · exact Nat.le_trans HB3.out.size e, (hF k hk).2⟩
  clear hat hb4 hF HX
  go_wp2
  (try simp only [Exit.inBlock, Exit.then])
  refine bodyPost_ret (results_tmp3 rfl _ _ _) rfl ?_
  exact ⟨kb, W0.heap.size, F, rfl, HAt.out, HB4.out, HF4.out⟩
end Go.Proofs.YtdpdbfhbojgigacGreatDoor

namespace Go.Proofs.YtdpdbfhbojgigacGreatDoor
open Go.RowKit Go.Extern.Stop Go.Stop Go.Extern

section
variable {A : Nat → Addr} {H : Nat → Nat → Prop} {F : Nat → Prop} {w0 w w' : World} {c : CfgD} {kb bc bd rb bt : Nat} {lv : Value} {bs : List Nat} {K : KSt} {k W : Nat}
theorem ke_log (h : KeAt F w0 w c kb bc K) (hl : K.L.length ≤ 8) :
    Calls Tryz.prog 24 #[.pointer (some ⟨kb, 0, none⟩)] w fun e w' => ∃ v', e = .returned v' ∧ Recs w' w.heap.size v' K.L ∧ Below w.heap.size w w' := by
  obtain ⟨H, bd, rb, bt, lv, bs, h1, -⟩ := h
  have c4 : w.cell? ⟨kb, 4, none⟩ = some (.pointer (some ⟨rb, 0, none⟩)) := h1.cell 4 _ rfl
  obtain ⟨v, hv, -⟩ := h1.ring.ring
  have HX : Hid _ := records_any _ rb bc v K.L K.sp w hv (by omega)
  clear h1 hv
  go_enter Tryz.func24, Tryz.ntmps24
  go_wp2_with fail
  refine Calls.mono HX.out ?_
  rintro e w1 ⟨v1, rfl, hr, hb⟩
  go_wp2
  go_ret
  exact ⟨_, rfl, hr, hb⟩
end
end Go.Proofs.YtdpdbfhbojgigacGreatDoor

namespace Go.Proofs.YtdpdbfhbojgigacGreatDoor
open Go.RowKit Go.Extern.Stop Go.Stop Go.Extern

set_option maxRecDepth 100000 in
theorem sameInts_at (l : List Int) (sa sb : Option Addr) (ca cb : Nat) (w : World) (ha : SlAt encI 1 w (.slice sa l.length ca) l) (hb : SlAt encI 1 w (.slice sb l.length cb) l) (hn : l.length ≤ 1000000) :
    Calls Tryz.prog 45 #[.slice sa l.length ca, .slice sb l.length cb] w fun e w' => e = .returned (.bool true) ∧ Below w.heap.size w w' := by
  have HA : Hid (SlAt encI 1 w (.slice sa l.length ca) l) := ha
  have HB : Hid (SlAt encI 1 w (.slice sb l.length cb) l) := hb
  clear ha hb
  go_enter Tryz.func45, Tryz.ntmps45
  go_wp2_with fail
  go_loopw [5] (fun i wr => ∃ k : Nat, k ≤ l.length ∧ i = .int .i64 k ∧ Below w.heap.size w wr) (fun i _ => l.length - (intOf i).toNat)
  case atStart => exact ⟨0, Nat.zero_le _, rfl, Below.refl _ _⟩
  case round =>
    obtain ⟨k, hk, rfl, hbr⟩ := hrel
    have HR : Hid (Below w.heap.size w wr) := hbr
    clear hbr
    by_cases hlt : k < l.length
    · have k1 : (k : Int) < (l.length : Int) := by omega
      obtain ⟨x, hx⟩ : ∃ x, l[k]? = some x := ⟨_, List.getElem?_eq_getElem hlt⟩
      obtain ⟨g, o, rfl, hc⟩ := slatI_cell (HA.out.below HR.out) hx
      have c0 := hc k x hx
      obtain ⟨g2, o2, rfl, hc2⟩ := slatI_cell (HB.out.below HR.out) hx
      have c1 := hc2 k x hx
      clear hc hc2 hx
      go_wp2_with fail
      go_quiet (fail)
      go_wp2_with fail
      go_roundw
      case rel => exact ⟨k + 1, by omega, by go_num, below_drewN HR.out _⟩
      case measure => simp [intOf]; omega
    · have k1 : ¬ (k : Int) < (l.length : Int) := by omega
      go_wp2
      go_ret
      exact ⟨rfl, HR.out⟩
end Go.Proofs.YtdpdbfhbojgigacGreatDoor

namespace Go.Proofs.YtdpdbfhbojgigacGreatDoor
open Go.RowKit Go.Extern.Stop Go.Stop Go.Extern

section
variable {H : Nat → Nat → Prop} {F : Nat → Prop} {v0 w0 w w' : World} {c : CfgD} {kb bc bd rb bt : Nat} {lv : Value} {bs : List Nat} {K : KSt}
/-- An earlier world to begin with. -/
theorem KeIn.rebase (h : KeIn H w0 w c kb bc bd rb bt lv bs K) (hb : Below v0.heap.size v0 w0) : KeIn H v0 w c kb bc bd rb bt lv bs K := by
  have hz := hb.size
  refine ⟨⟨fun i k hk => Nat.le_trans hz (h.fam.lo i k hk), h.fam.lt, h.fam.dis⟩, h.row, h.hk, ?_, h.hl, ?_, h.dog, h.hd, h.tot, h.ht, h.loc, h.blen, h.llen, hb.trans (h.bel.mono hz)⟩
  · rcases h.own with ⟨h1, h2 | ⟨g, cap, cur, h3, h4, h5⟩⟩
    · exact ⟨h1, Or.inl h2⟩
    · exact ⟨h1, Or.inr ⟨g, cap, cur, h3, Nat.le_trans hz h4, h5⟩⟩
  · obtain ⟨v, hr, h2⟩ := h.ring.ring
    exact ⟨⟨v, ⟨hr.heap, hr.recs.mono hz, hr.sep, Nat.le_trans hz hr.lo⟩, h2⟩, h.ring.cells, h.ring.fr, h.ring.fc, h.ring.ne, h.ring.lt⟩
theorem KeAt.rebase (h : KeAt F w0 w c kb bc K) (hb : Below v0.heap.size v0 w0) : KeAt F v0 w c kb bc K := by
  obtain ⟨H, bd, rb, bt, lv, bs, h1, h2⟩ := h
  exact ⟨H, bd, rb, bt, lv, bs, h1.rebase hb, h2⟩
end
def cfg2 : CfgD := { closed := 0, opn := 1, cycle := 1, delay := 0, ents := [] }
theorem cfg2_ok : (cfgErr cfg2).1 = 0 := by decide
theorem cfg2_small : SmallC cfg2 := ⟨by decide, fun e he => by cases he⟩
theorem played_pure : ansK cfg2 (KSt.new cfg2 (CSt.new 4096)) [0, -1, 27, 7] = [0, -1, 0, 10] ∧ (runK cfg2 (KSt.new cfg2 (CSt.new 4096)) [0, -1, 27, 7]).d.kicks = 4 := by
  have hr : KRt cfg2 := krt_of cfg2_ok
  have hq : ∀ e ∈ cfg2.ents, quietE e := fun e he => by cases he
  have q0 : QC cfg2 (KSt.new cfg2 (CSt.new 4096)) := ⟨Quiet.new, Calm.new⟩
  have f0 := kfit_new hr
  obtain ⟨q1, c1, n1⟩ := q0.tick hr hq f0 (by decide)
  have f1 := f0.tick hr (by decide)
  have hn0 : (KSt.new cfg2 (CSt.new 4096)).d.now = 0 := rfl
  rw [hn0] at n1
  obtain ⟨q2, c2, n2⟩ := QC.ticks hr hq 3 _ q1 f1 (by rw [n1]; decide)
  rw [n1] at n2
  generalize KSt.new cfg2 (CSt.new 4096) = K0 at *
  have e0 : K0.one cfg2 0 = ((K0.tick cfg2).1, 0) := by
    have : K0.oneN cfg2 0 = K0.tick cfg2 := rfl
    exact (one_pos (c := cfg2) (K := K0) 0).trans (by rw [this, c1]; rfl)
  generalize (K0.tick cfg2).1 = K1 at *
  have e1 : K1.one cfg2 (-1) = (K1, -1) := one_neg (by decide)
  have e2 : K1.one cfg2 27 = ((K1.ticks cfg2 3).1, 0) := by
    have : K1.oneN cfg2 27 = K1.ticks cfg2 3 := rfl
    rw [show (27 : Int) = ((27 : Nat) : Int) from rfl, one_pos, this, c2]
    rfl
  generalize (K1.ticks cfg2 3).1 = K2 at *
  have hon : K2.on = 0 := KSt.on_zero.2 ⟨q2.a.off, q2.q.res⟩
  have e3 : K2.one cfg2 7 = (K2, 10) := by
    have : K2.oneN cfg2 7 = K2.boot cfg2 := rfl
    rw [show (7 : Int) = ((7 : Nat) : Int) from rfl, one_pos, this]
    unfold KSt.boot
    rw [if_pos hon]
    rfl
  have kk := q2.q.kk
  rw [n2] at kk
  have kk2 : K2.d.kicks = 4 := by
    have : qk cfg2.closed.toNat cfg2.cycle.toNat ((0 + 1 + 3) / cfg2.cycle.toNat) = (4, 4) := by decide
    rw [this] at kk
    exact congrArg Prod.fst kk
  refine ⟨?_, ?_⟩
  · show [_, _, _, _] = _
    rw [e0, e1, e2, e3]
  · show ((((K0.one cfg2 0).1.one cfg2 (-1)).1.one cfg2 27).1.one cfg2 7).1.d.kicks = 4
    rw [e0, e1, e2, e3]
    exact kk2
set_option maxRecDepth 100000 in
set_option maxHeartbeats 4000000 in
theorem played_at (A : Nat → Addr) (w : World) (hs : Senv A w) : Calls Tryz.prog 43 #[] w fun e w' => e = .returned (.bool true) ∧ Below w.heap.size w w' := by
  have hr : KRt cfg2 := krt_of cfg2_ok
  have HF : Hid (Calls Tryz.prog 15 #[.agg #[.int .i64 0, .int .i64 1, .int .i64 1, .int .i64 0, .slice none 0 0]] w fun u w' => FrOut w cfg2 u w') := fresh_at A cfg2 none 0 w hs.ten cfg2_ok ⟨none, 0, rfl, fun x => absurd rfl x⟩ cfg2_small
  have HP : Hid _ := played_pure
  have HS : Hid _ := hs
  have HR : Hid _ := hr
  have HK : Hid _ := kfit_new hr
  clear hs hr
  go_enter Tryz.func43, Tryz.ntmps43
  go_wp2_with fail
  refine Calls.mono HF.out ?_
  rintro u w1 ⟨kb, bc, F, rfl, hat, hb1, hF1⟩
  obtain ⟨V, hV⟩ : ∃ X, X = w1.alloc (.cells #[.int .i64 0, .int .i64 (-1), .int .i64 27, .int .i64 7] 3) := ⟨_, rfl⟩
  have hbV : Below w1.heap.size w1 V := by rw [hV]; exact Below.one _ _
  have hrV : V.heap[w1.heap.size]? = some (.cells #[.int .i64 0, .int .i64 (-1), .int .i64 27, .int .i64 7] 3 (0, 0)) := by rw [hV]; exact heap_alloc_new w1 _
  have hlt : w1.heap.size < V.heap.size := lt_of_row hrV
  have HX : Hid (Calls Tryz.prog 44 #[.pointer (some ⟨kb, 0, none⟩), .pointer (some ⟨bc, 0, none⟩), .slice (some ⟨w1.heap.size, 0, none⟩) 4 4] V fun u w' => PlOut F w V cfg2 kb bc (KSt.new cfg2 (CSt.new 4096)) [0, -1, 27, 7] u w') :=
    pl_run (A := A) [0, -1, 27, 7] (some ⟨w1.heap.size, 0, none⟩) 4 (hat.below hbV) (fun k hk => Nat.lt_of_lt_of_le (hF1 k hk).2 hbV.size) HS.out HR.out HK.out (by decide) (by decide) (fun U hU => by
      have hrow := (hU.block _ hlt (fun e => Nat.lt_irrefl _ (hF1 _ e).2)).trans hrV
      refine ⟨_, _, rfl, by decide, fun _ => ⟨_, _, rfl, fun i x hx j u hu => ?_⟩⟩
      match i, hx with
      | 0, hx => cases hx; cases j with | zero => cases hu; simp [World.cell?, hrow] | succ j => simp [encI] at hu
      | 1, hx => cases hx; cases j with | zero => cases hu; simp [World.cell?, hrow] | succ j => simp [encI] at hu
      | 2, hx => cases hx; cases j with | zero => cases hu; simp [World.cell?, hrow] | succ j => simp [encI] at hu
      | 3, hx => cases hx; cases j with | zero => cases hu; simp [World.cell?, hrow] | succ j => simp [encI] at hu
      | n + 4, hx => simp at hx) (by decide)
  have HB1 : Hid (Below w.heap.size w V) := hb1.trans (hbV.mono hb1.size)
  have HFl : Hid (∀ k, F k → w.heap.size ≤ k) := fun k hk => (hF1 k hk).1
  clear hat hb1 hF1 HF HK hbV hrV hlt
  go_wp2_with (go_at_call 44; rw [← hV]; refine Calls.mono HX.out ?_)
  clear hV
  rintro u w2 ⟨av, rfl, hL⟩
  have hb2 : Below w.heap.size w w2 := Off.below HB1.out hL.off HB1.out.size HFl.out
  rw [HP.out.1] at hL
  obtain ⟨sa, sc, rfl⟩ := ow_form hL.own
  obtain ⟨V2, hV2⟩ : ∃ X, X = w2.alloc (.cells #[.int .i64 0, .int .i64 (-1), .int .i64 0, .int .i64 10] 3) := ⟨_, rfl⟩
  have hbV2 : Below w2.heap.size w2 V2 := by rw [hV2]; exact Below.one _ _
  have hrV2 : V2.heap[w2.heap.size]? = some (.cells #[.int .i64 0, .int .i64 (-1), .int .i64 0, .int .i64 10] 3 (0, 0)) := by rw [hV2]; exact heap_alloc_new w2 _
  have HX2 : Hid (Calls Tryz.prog 45 #[.slice sa 4 sc, .slice (some ⟨w2.heap.size, 0, none⟩) 4 4] V2 fun e w' => e = .returned (.bool true) ∧ Below V2.heap.size V2 w') :=
    sameInts_at [0, -1, 0, 10] sa (some ⟨w2.heap.size, 0, none⟩) sc 4 V2 ((hL.own.slat (fun _ => rfl)).below hbV2) (by
      refine ⟨_, _, rfl, by decide, fun _ => ⟨_, _, rfl, fun i x hx j u hu => ?_⟩⟩
      match i, hx with
      | 0, hx => cases hx; cases j with | zero => cases hu; simp [World.cell?, hrV2] | succ j => simp [encI] at hu
      | 1, hx => cases hx; cases j with | zero => cases hu; simp [World.cell?, hrV2] | succ j => simp [encI] at hu
      | 2, hx => cases hx; cases j with | zero => cases hu; simp [World.cell?, hrV2] | succ j => simp [encI] at hu
      | 3, hx => cases hx; cases j with | zero => cases hu; simp [World.cell?, hrV2] | succ j => simp [encI] at hu
      | n + 4, hx => simp at hx) (by decide)
  have HAt : Hid (∀ U, Below V2.heap.size V2 U → Calls Tryz.prog 23 #[.pointer (some ⟨kb, 0, none⟩)] U fun e w' => e = .returned (.int .i64 4) ∧ w' = U) := fun U hU => by
    obtain ⟨G, g1, -, -⟩ := hL.at'
    have := kat_kicks ((g1.below hbV2).below hU)
    rw [HP.out.2] at this
    exact this
  have HB2 : Hid (Below w.heap.size w V2) := hb2.trans (hbV2.mono hb2.size)
  clear hL hb2 hbV2 hrV2 HX HB1 HFl
  go_wp2_with (go_at_call 45; rw [← hV2]; refine Calls.mono HX2.out ?_)
  clear hV2
  rintro u w3 ⟨rfl, hb3⟩
  have HK3 : Hid _ := HAt.out w3 hb3
  have HB3 : Hid (Below w.heap.size w w3) := HB2.out.trans (hb3.mono HB2.out.size)
  clear hb3 HX2 HAt
  go_wp2_with fail
  refine Calls.mono HK3.out ?_
  rintro u w4 ⟨rfl, rfl⟩
  go_wp2
  go_ret
  exact ⟨rfl, HB3.out⟩
end Go.Proofs.YtdpdbfhbojgigacGreatDoor
