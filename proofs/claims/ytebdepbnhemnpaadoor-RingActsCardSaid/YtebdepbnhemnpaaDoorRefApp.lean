/-
  The document's ring in memory; (*nightwatchref1.Ring).Append by contracts, where it does nothing. Conditions: as named.
-/
import Derived.Test.YtebdepbnhemnpaaDoorRefSl
import Derived.Test.YtebdepbnhemnpaaDoorRefSim
import Derived.Test.YtebdepbnhemnpaaDoorRingApp
import Derived.Deep.DeepCutAuto
import Derived.Deep.RegionLaw
namespace Go.Proofs.YtebdepbnhemnpaaDoor
open Go.RowKit Go.Extern.Stop Go.Stop Go.Extern

structure MRingAt (w : World) (B rm bm : Nat) (v : Value) (L : List Rec) (dead : Bool) : Prop where
  heap : w.heap[rm]? = some (.cells #[.pointer (some ⟨bm, 0, .none⟩), v, .bool dead] 79 (0, 0))
  sl : MSl w B v L
  sep : v.ownBlock ≠ some rm ∧ v.ownBlock ≠ some bm
  lo : B ≤ rm
  ne : rm ≠ bm
theorem MRingAt.lt {w : World} {B rm bm : Nat} {v : Value} {L : List Rec} {dead : Bool} (h : MRingAt w B rm bm v L dead) : rm < w.heap.size := lt_of_row h.heap
theorem MRingAt.c0 {w : World} {B rm bm : Nat} {v : Value} {L : List Rec} {dead : Bool} (h : MRingAt w B rm bm v L dead) : w.cell? ⟨rm, 0, .none⟩ = some (.pointer (some ⟨bm, 0, .none⟩)) := by simp [World.cell?, h.heap]
theorem MRingAt.c1 {w : World} {B rm bm : Nat} {v : Value} {L : List Rec} {dead : Bool} (h : MRingAt w B rm bm v L dead) : w.cell? ⟨rm, 1, .none⟩ = some v := by simp [World.cell?, h.heap]
theorem MRingAt.c2 {w : World} {B rm bm : Nat} {v : Value} {L : List Rec} {dead : Bool} (h : MRingAt w B rm bm v L dead) : w.cell? ⟨rm, 2, .none⟩ = some (.bool dead) := by simp [World.cell?, h.heap]
theorem MRingAt.frozen {w : World} {B rm bm : Nat} {v : Value} {L : List Rec} {dead : Bool} (h : MRingAt w B rm bm v L dead) (i : Nat) : w.frozen? ⟨rm, i, .none⟩ = false := by simp [World.frozen?, h.heap]
theorem MRingAt.off {w w' : World} {B rm bm : Nat} {v : Value} {L : List Rec} {dead : Bool} {S : Nat → Prop} (h : MRingAt w B rm bm v L dead) (ho : Off S w w') (h1 : ¬ S rm) (h2 : ∀ g, v.ownBlock = some g → ¬ S g) : MRingAt w' B rm bm v L dead :=
  ⟨(ho.block rm h.lt h1).trans h.heap, h.sl.off ho h2, h.sep, h.lo, h.ne⟩
theorem MRingAt.below {w w' : World} {B rm bm : Nat} {v : Value} {L : List Rec} {dead : Bool} (h : MRingAt w B rm bm v L dead) (hb : Below w.heap.size w w') : MRingAt w' B rm bm v L dead :=
  h.off (Off.of_below hb (fun _ => False)) (fun e => e) (fun _ _ e => e)
theorem MRingAt.spent {w : World} {B rm bm : Nat} {v : Value} {L : List Rec} {dead : Bool} (h : MRingAt w B rm bm v L dead) : MRingAt (w.setCell ⟨rm, 2, .none⟩ (.bool true)) B rm bm v L true := by
  refine ⟨?_, h.sl.off (Off.of_grown (grown_set (grown_refl w (some rm)) _ _)) (fun g e e2 => h.sep.1 (by rw [e, e2])), h.sep, h.lo, h.ne⟩
  simp [World.setCell, Array.getElem?_modify, h.heap]
theorem MRingAt.keeps {w : World} {B rm bm : Nat} {v v' : Value} {L L' : List Rec} {dead : Bool} (h : MRingAt w B rm bm v L dead) (hs : MSl w B v' L') (h1 : v'.ownBlock ≠ some rm) (h2 : v'.ownBlock ≠ some bm) : MRingAt (w.setCell ⟨rm, 1, .none⟩ v') B rm bm v' L' dead := by
  refine ⟨?_, hs.off (Off.of_grown (grown_set (grown_refl w (some rm)) _ _)) (fun g e e2 => h1 (by rw [e, e2])), ⟨h1, h2⟩, h.lo, h.ne⟩
  simp [World.setCell, Array.getElem?_modify, h.heap]

set_option maxRecDepth 100000 in
set_option maxHeartbeats 1000000 in
theorem mappend_dead (B rm bm : Nat) (v : Value) (L : List Rec) (n1 n2 n3 : Int) (w : World) (h : MRingAt w B rm bm v L true) :
    Calls Tryd.prog 41 #[.pointer (some ⟨rm, 0, .none⟩), .int .i64 n1, .int .i64 n2, .int .i64 n3] w fun e w' => e = .returned (.tuple #[Rec.none.val, .int .i64 8]) ∧ Below w.heap.size w w' := by
  obtain ⟨W, hW, Z1, B1, s1⟩ := app_zero w
  have R1 := h.below B1
  have HW : Hid _ := hW
  clear hW
  have c2 := R1.c2
  obtain ⟨z0, z1, z2, z3⟩ := Z1.at
  have f0 := Z1.frozen 0
  have f1 := Z1.frozen 1
  have f2 := Z1.frozen 2
  have f3 := Z1.frozen 3
  go_enter Tryd.func41, Tryd.ntmps41
  go_upto_region 1 with fail
  rw [HW.out]
  go_wp2_with fail
  refine bodyPost_ret (res_rec rfl _ _ w.heap.size .none rfl (Z1.set4 .none).at) rfl ?_
  exact ⟨rfl, below_grown B1 (grown_set4 _ _ _ _ _ _) (by omega) (Nat.le_refl _)⟩

set_option maxRecDepth 100000 in
set_option maxHeartbeats 2000000 in
theorem mappend_bound (B rm bm : Nat) (v : Value) (L : List Rec) (n1 n2 n3 : Int) (w : World) (h : MRingAt w B rm bm v L false) (hf : ¬ (0 ≤ n1 ∧ n1 ≤ 255 ∧ 0 ≤ n2 ∧ n2 ≤ 255 ∧ 0 ≤ n3 ∧ n3 < 281474976710656)) :
    Calls Tryd.prog 41 #[.pointer (some ⟨rm, 0, .none⟩), .int .i64 n1, .int .i64 n2, .int .i64 n3] w fun e w' => e = .returned (.tuple #[Rec.none.val, .int .i64 2]) ∧ Below w.heap.size w w' := by
  obtain ⟨W, hW, Z1, B1, s1⟩ := app_zero w
  have R1 := h.below B1
  have HW : Hid _ := hW
  clear hW
  have c2 := R1.c2
  obtain ⟨z0, z1, z2, z3⟩ := Z1.at
  have f0 := Z1.frozen 0
  have f1 := Z1.frozen 1
  have f2 := Z1.frozen 2
  have f3 := Z1.frozen 3
  by_cases t0 : n1 < 0
  · clear hf
    go_enter Tryd.func41, Tryd.ntmps41
    go_upto_region 1 with fail
    rw [HW.out]
    go_wp2_with fail
    refine bodyPost_ret (res_rec rfl _ _ w.heap.size .none rfl (Z1.set4 .none).at) rfl ?_
    exact ⟨rfl, below_grown B1 (grown_set4 _ _ _ _ _ _) (by omega) (Nat.le_refl _)⟩
  by_cases t1 : 255 < n1
  · clear hf
    go_enter Tryd.func41, Tryd.ntmps41
    go_upto_region 1 with fail
    rw [HW.out]
    go_wp2_with fail
    refine bodyPost_ret (res_rec rfl _ _ w.heap.size .none rfl (Z1.set4 .none).at) rfl ?_
    exact ⟨rfl, below_grown B1 (grown_set4 _ _ _ _ _ _) (by omega) (Nat.le_refl _)⟩
  by_cases t2 : n2 < 0
  · clear hf
    go_enter Tryd.func41, Tryd.ntmps41
    go_upto_region 1 with fail
    rw [HW.out]
    go_wp2_with fail
    refine bodyPost_ret (res_rec rfl _ _ w.heap.size .none rfl (Z1.set4 .none).at) rfl ?_
    exact ⟨rfl, below_grown B1 (grown_set4 _ _ _ _ _ _) (by omega) (Nat.le_refl _)⟩
  by_cases t3 : 255 < n2
  · clear hf
    go_enter Tryd.func41, Tryd.ntmps41
    go_upto_region 1 with fail
    rw [HW.out]
    go_wp2_with fail
    refine bodyPost_ret (res_rec rfl _ _ w.heap.size .none rfl (Z1.set4 .none).at) rfl ?_
    exact ⟨rfl, below_grown B1 (grown_set4 _ _ _ _ _ _) (by omega) (Nat.le_refl _)⟩
  by_cases t4 : n3 < 0
  · clear hf
    go_enter Tryd.func41, Tryd.ntmps41
    go_upto_region 1 with fail
    rw [HW.out]
    go_wp2_with fail
    refine bodyPost_ret (res_rec rfl _ _ w.heap.size .none rfl (Z1.set4 .none).at) rfl ?_
    exact ⟨rfl, below_grown B1 (grown_set4 _ _ _ _ _ _) (by omega) (Nat.le_refl _)⟩
  have t5 : 281474976710656 ≤ n3 := by omega
  clear hf
  go_enter Tryd.func41, Tryd.ntmps41
  go_upto_region 1 with fail
  rw [HW.out]
  go_wp2_with fail
  refine bodyPost_ret (res_rec rfl _ _ w.heap.size .none rfl (Z1.set4 .none).at) rfl ?_
  exact ⟨rfl, below_grown B1 (grown_set4 _ _ _ _ _ _) (by omega) (Nat.le_refl _)⟩
end Go.Proofs.YtebdepbnhemnpaaDoor
