/-
  The rules of an entity's sizes (conf.sizeRules) by contracts. No condition.
-/
import Derived.Test.YtcnfkdecghdphaaGreatDoorCfTwoX
namespace Go.Proofs.YtcnfkdecghdphaaGreatDoor
open Go.RowKit Go.Extern.Stop Go.Stop Go.Extern

set_option maxHeartbeats 400000 in
theorem size1_at (nm : ByteArray) (tol cnt mn mx : Int) (pa ga ea fa la : Option Addr) (pn pc gn gc en ec fn fc ln lc : Nat)  (w : World) : Calls Tryz.prog 78 #[.agg #[.string nm, .int .i64 tol, .slice pa pn pc, .int .i64 cnt, .int .i64 mn, .int .i64 mx, .slice ga gn gc, .slice ea en ec, .slice fa fn fc, .slice la ln lc]] w fun e w' => e = .returned (.bool (!within tol 0 20)) ∧ Below w.heap.size w w' := by
  go_enter Tryz.func78, Tryz.ntmps78
  go_wp2_with fail
  refine (within_at tol 0 20 _).mono ?_
  rintro e w' ⟨rfl, rfl⟩
  go_wp2
  go_ret
  exact ⟨rfl, Below.one _ _⟩
set_option maxHeartbeats 400000 in
theorem size2_at (nm : ByteArray) (tol cnt mn mx : Int) (pa ga ea fa la : Option Addr) (pn pc gn gc en ec fn fc ln lc : Nat)  (w : World) : Calls Tryz.prog 79 #[.agg #[.string nm, .int .i64 tol, .slice pa pn pc, .int .i64 cnt, .int .i64 mn, .int .i64 mx, .slice ga gn gc, .slice ea en ec, .slice fa fn fc, .slice la ln lc]] w fun e w' => e = .returned (.bool (decide (16 < pn))) ∧ Below w.heap.size w w' := by
  have hd : decide (16 < pn) = decide ((16 : Int) < (pn : Int)) := decide_eq_decide.2 (by omega)
  rw [hd]
  go_enter Tryz.func79, Tryz.ntmps79
  go_wp2
  go_ret
  exact ⟨rfl, Below.one _ _⟩
set_option maxHeartbeats 400000 in
theorem size3_at (nm : ByteArray) (tol cnt mn mx : Int) (pa ga ea fa la : Option Addr) (pn pc gn gc en ec fn fc ln lc : Nat)  (w : World) : Calls Tryz.prog 80 #[.agg #[.string nm, .int .i64 tol, .slice pa pn pc, .int .i64 cnt, .int .i64 mn, .int .i64 mx, .slice ga gn gc, .slice ea en ec, .slice fa fn fc, .slice la ln lc]] w fun e w' => e = .returned (.bool (decide (8 < gn))) ∧ Below w.heap.size w w' := by
  have hd : decide (8 < gn) = decide ((8 : Int) < (gn : Int)) := decide_eq_decide.2 (by omega)
  rw [hd]
  go_enter Tryz.func80, Tryz.ntmps80
  go_wp2
  go_ret
  exact ⟨rfl, Below.one _ _⟩
set_option maxHeartbeats 400000 in
theorem size4_at (nm : ByteArray) (tol cnt mn mx : Int) (pa ga ea fa la : Option Addr) (pn pc gn gc en ec fn fc ln lc : Nat)  (w : World) : Calls Tryz.prog 81 #[.agg #[.string nm, .int .i64 tol, .slice pa pn pc, .int .i64 cnt, .int .i64 mn, .int .i64 mx, .slice ga gn gc, .slice ea en ec, .slice fa fn fc, .slice la ln lc]] w fun e w' => e = .returned (.bool (decide (64 < en))) ∧ Below w.heap.size w w' := by
  have hd : decide (64 < en) = decide ((64 : Int) < (en : Int)) := decide_eq_decide.2 (by omega)
  rw [hd]
  go_enter Tryz.func81, Tryz.ntmps81
  go_wp2
  go_ret
  exact ⟨rfl, Below.one _ _⟩
set_option maxHeartbeats 400000 in
theorem size5_at (nm : ByteArray) (tol cnt mn mx : Int) (pa ga ea fa la : Option Addr) (pn pc gn gc en ec fn fc ln lc : Nat)  (w : World) : Calls Tryz.prog 82 #[.agg #[.string nm, .int .i64 tol, .slice pa pn pc, .int .i64 cnt, .int .i64 mn, .int .i64 mx, .slice ga gn gc, .slice ea en ec, .slice fa fn fc, .slice la ln lc]] w fun e w' => e = .returned (.bool (decide (16 < fn))) ∧ Below w.heap.size w w' := by
  have hd : decide (16 < fn) = decide ((16 : Int) < (fn : Int)) := decide_eq_decide.2 (by omega)
  rw [hd]
  go_enter Tryz.func82, Tryz.ntmps82
  go_wp2
  go_ret
  exact ⟨rfl, Below.one _ _⟩
set_option maxHeartbeats 400000 in
theorem size6_at (nm : ByteArray) (tol cnt mn mx : Int) (pa ga ea fa la : Option Addr) (pn pc gn gc en ec fn fc ln lc : Nat)  (w : World) : Calls Tryz.prog 83 #[.agg #[.string nm, .int .i64 tol, .slice pa pn pc, .int .i64 cnt, .int .i64 mn, .int .i64 mx, .slice ga gn gc, .slice ea en ec, .slice fa fn fc, .slice la ln lc]] w fun e w' => e = .returned (.bool (decide (16 < ln))) ∧ Below w.heap.size w w' := by
  have hd : decide (16 < ln) = decide ((16 : Int) < (ln : Int)) := decide_eq_decide.2 (by omega)
  rw [hd]
  go_enter Tryz.func83, Tryz.ntmps83
  go_wp2
  go_ret
  exact ⟨rfl, Below.one _ _⟩
def sizeRow (A : Nat → Addr) : Array Value := #[.iface 227 (.pointer (some (A 1))), .func (.func 78) #[] #[], .iface 227 (.pointer (some (A 1))), .func (.func 79) #[] #[], .iface 227 (.pointer (some (A 1))), .func (.func 80) #[] #[], .iface 227 (.pointer (some (A 1))), .func (.func 81) #[] #[], .iface 227 (.pointer (some (A 1))), .func (.func 82) #[] #[], .iface 227 (.pointer (some (A 1))), .func (.func 83) #[] #[]]
set_option maxHeartbeats 1000000 in
theorem sizeRules_at (A : Nat → Addr) (w : World) (hs : Sen6 A w) : Calls Tryz.prog 56 #[] w fun e w' => e = .returned (.slice (some ⟨w.heap.size, 0, none⟩) 6 6) ∧ w' = w.alloc (.cells (sizeRow A) 145) := by
  have c1 := hs.c1
  unfold sizeRow
  go_enter Tryz.func56, Tryz.ntmps56
  go_wp2
  go_ret
  exact ⟨rfl, rfl⟩
def sizeFns (i : Nat) : Nat := [78, 79, 80, 81, 82, 83].getD i 0
theorem size_rules (A : Nat → Addr) (e : EntD) (pa ga ea fa la : Option Addr) (pc gc ec fc lc : Nat) (r : Nat) (W : World) (hr : W.heap[r]? = some (.cells (sizeRow A) 145 (0, 0))) :
    RulesAt A W r (.agg (entRow e (.slice pa e.pts.length pc) (.slice ga e.gaps.length gc) (.slice ea e.edges.length ec) (.slice fa e.first.length fc) (.slice la e.last.length lc))) [(!within e.tol 0 20, 2), (decide (16 < e.pts.length), 2), (decide (8 < e.gaps.length), 2), (decide (64 < e.edges.length), 2), (decide (16 < e.first.length), 2), (decide (16 < e.last.length), 2)] sizeFns := by
  have hcell : ∀ j v, (sizeRow A)[j]? = some v → W.cell? ⟨r, j, none⟩ = some v := fun j v e => by simp [World.cell?, hr, e]
  refine ⟨fun i b d e => ?_, fun i b d e => ?_, fun i b d e' V hV => ?_, by simp, fun i b d e => ?_⟩
  · match i, e with
    | 0, e => cases e; exact ⟨hcell 0 _ rfl, hcell 1 _ rfl⟩
    | 1, e => cases e; exact ⟨hcell 2 _ rfl, hcell 3 _ rfl⟩
    | 2, e => cases e; exact ⟨hcell 4 _ rfl, hcell 5 _ rfl⟩
    | 3, e => cases e; exact ⟨hcell 6 _ rfl, hcell 7 _ rfl⟩
    | 4, e => cases e; exact ⟨hcell 8 _ rfl, hcell 9 _ rfl⟩
    | 5, e => cases e; exact ⟨hcell 10 _ rfl, hcell 11 _ rfl⟩
    | i + 6, e => cases e
  · match i, e with
    | 0, _ => exact enters_of Tryz.func78 (by kernel_rfl) rfl
    | 1, _ => exact enters_of Tryz.func79 (by kernel_rfl) rfl
    | 2, _ => exact enters_of Tryz.func80 (by kernel_rfl) rfl
    | 3, _ => exact enters_of Tryz.func81 (by kernel_rfl) rfl
    | 4, _ => exact enters_of Tryz.func82 (by kernel_rfl) rfl
    | 5, _ => exact enters_of Tryz.func83 (by kernel_rfl) rfl
    | i + 6, e => cases e
  · match i, e' with
    | 0, e' => cases e'; exact size1_at _ _ _ _ _ _ _ _ _ _ _ _ _ _ _ _ _ _ _ _ _
    | 1, e' => cases e'; exact size2_at _ _ _ _ _ _ _ _ _ _ _ _ _ _ _ _ _ _ _ _ _
    | 2, e' => cases e'; exact size3_at _ _ _ _ _ _ _ _ _ _ _ _ _ _ _ _ _ _ _ _ _
    | 3, e' => cases e'; exact size4_at _ _ _ _ _ _ _ _ _ _ _ _ _ _ _ _ _ _ _ _ _
    | 4, e' => cases e'; exact size5_at _ _ _ _ _ _ _ _ _ _ _ _ _ _ _ _ _ _ _ _ _
    | 5, e' => cases e'; exact size6_at _ _ _ _ _ _ _ _ _ _ _ _ _ _ _ _ _ _ _ _ _
    | i + 6, e' => cases e'
  · match i, e with
    | 0, e => cases e; decide
    | 1, e => cases e; decide
    | 2, e => cases e; decide
    | 3, e => cases e; decide
    | 4, e => cases e; decide
    | 5, e => cases e; decide
    | i + 6, e => cases e
end Go.Proofs.YtcnfkdecghdphaaGreatDoor
