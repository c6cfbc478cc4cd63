/-
  The rules of a whole config (conf.configRules) by contracts. Condition: the sentinels are in memory ('Sen6').
-/
import Derived.Test.YtcnfkdecghdphabGreatDoorCfFirstX
import Derived.Shelf.Abstract
namespace Go.Proofs.YtcnfkdecghdphabGreatDoor
open Go.RowKit Go.Extern.Stop Go.Stop Go.Extern

theorem cfg1_at (A : Nat → Addr) (x0 x1 x2 x3 : Int) (sa : Option Addr) (sn sc : Nat) (w : World) (hs : Sen6 A w) : Calls Tryz.prog 31 #[.agg #[.int .i64 x0, .int .i64 x1, .int .i64 x2, .int .i64 x3, .slice sa sn sc]] w fun e w' => e = .returned (.bool (!(within x0 0 1000 && within x1 1 1000))) ∧ Below w.heap.size w w' := by
  have H := isWindow_at A x0 x1 _ (hs.alloc (.cells #[.int .i64 x0, .int .i64 x1, .int .i64 x2, .int .i64 x3, .slice sa sn sc] 25))
  go_enter Tryz.func31, Tryz.ntmps31
  go_wp2_with fail
  refine H.mono ?_
  rintro e w' ⟨rfl, hb⟩
  go_wp2
  go_ret
  exact ⟨by rw [Bool.not_and]; rfl, ((Below.refl _ _).alloc (Nat.le_refl _) _).trans (hb.mono (by simp))⟩
theorem cfg2_at (x0 x1 x2 x3 : Int) (sa : Option Addr) (sn sc : Nat) (w : World) : Calls Tryz.prog 33 #[.agg #[.int .i64 x0, .int .i64 x1, .int .i64 x2, .int .i64 x3, .slice sa sn sc]] w fun e w' => e = .returned (.bool (!within x2 1 100)) ∧ Below w.heap.size w w' := by
  go_enter Tryz.func33, Tryz.ntmps33
  go_wp2_with fail
  refine (within_at x2 1 100 _).mono ?_
  rintro e w' ⟨rfl, rfl⟩
  go_wp2
  go_ret
  exact ⟨rfl, (Below.refl _ _).alloc (Nat.le_refl _) _⟩
theorem cfg3_at (x0 x1 x2 x3 : Int) (sa : Option Addr) (sn sc : Nat) (w : World) : Calls Tryz.prog 35 #[.agg #[.int .i64 x0, .int .i64 x1, .int .i64 x2, .int .i64 x3, .slice sa sn sc]] w fun e w' => e = .returned (.bool (!within x3 0 20)) ∧ Below w.heap.size w w' := by
  go_enter Tryz.func35, Tryz.ntmps35
  go_wp2_with fail
  refine (within_at x3 0 20 _).mono ?_
  rintro e w' ⟨rfl, rfl⟩
  go_wp2
  go_ret
  exact ⟨rfl, (Below.refl _ _).alloc (Nat.le_refl _) _⟩
theorem cfg4_at (x0 x1 x2 x3 : Int) (sa : Option Addr) (sn sc : Nat) (w : World) : Calls Tryz.prog 36 #[.agg #[.int .i64 x0, .int .i64 x1, .int .i64 x2, .int .i64 x3, .slice sa sn sc]] w fun e w' => e = .returned (.bool (decide (8 < sn))) ∧ Below w.heap.size w w' := by
  have hd : decide (8 < sn) = decide ((8 : Int) < (sn : Int)) := decide_eq_decide.2 (by omega)
  rw [hd]
  go_enter Tryz.func36, Tryz.ntmps36
  go_wp2
  go_ret
  exact ⟨rfl, (Below.refl _ _).alloc (Nat.le_refl _) _⟩
theorem cfg5_at (x0 x1 x2 x3 : Int) (sa : Option Addr) (sn sc : Nat) (w : World) : Calls Tryz.prog 37 #[.agg #[.int .i64 x0, .int .i64 x1, .int .i64 x2, .int .i64 x3, .slice sa sn sc]] w fun e w' => e = .returned (.bool (decide (x1 < x2))) ∧ Below w.heap.size w w' := by
  go_enter Tryz.func37, Tryz.ntmps37
  go_wp2
  go_ret
  exact ⟨rfl, (Below.refl _ _).alloc (Nat.le_refl _) _⟩
/-- The list of rules. -/
def cfgRow (A : Nat → Addr) : Array Value := #[.iface 211 (.pointer (some (A 1))), .func (.func 31) #[] #[], .iface 211 (.pointer (some (A 1))), .func (.func 33) #[] #[], .iface 211 (.pointer (some (A 1))), .func (.func 35) #[] #[],
  .iface 211 (.pointer (some (A 1))), .func (.func 36) #[] #[], .iface 211 (.pointer (some (A 2))), .func (.func 37) #[] #[]]
theorem configRules_at (A : Nat → Addr) (w : World) (hs : Sen6 A w) : Calls Tryz.prog 21 #[] w fun e w' => e = .returned (.slice (some ⟨w.heap.size, 0, none⟩) 5 5) ∧ w' = w.alloc (.cells (cfgRow A) 83) := by
  have c1 := hs.c1
  have c2 := hs.c2
  unfold cfgRow
  go_enter Tryz.func21, Tryz.ntmps21
  go_wp2
  go_ret
  exact ⟨rfl, rfl⟩
def cfgFns (i : Nat) : Nat := [31, 33, 35, 36, 37].getD i 0
theorem cfg_rules (A : Nat → Addr) (c : CfgD) (sa : Option Addr) (sc : Nat) (r : Nat) (W : World) (hs : Sen6 A W) (hr : W.heap[r]? = some (.cells (cfgRow A) 83 (0, 0))) :
    RulesAt A W r (.agg #[.int .i64 c.closed, .int .i64 c.opn, .int .i64 c.cycle, .int .i64 c.delay, .slice sa c.ents.length sc])
      [(!(within c.closed 0 1000 && within c.opn 1 1000), 2), (!within c.cycle 1 100, 2), (!within c.delay 0 20, 2), (decide (8 < c.ents.length), 2), (decide (c.opn < c.cycle), 3)] cfgFns := by
  have hcell : ∀ j v, (cfgRow A)[j]? = some v → W.cell? ⟨r, j, none⟩ = some v := fun j v e => by simp [World.cell?, hr, e]
  refine ⟨fun i b d e => ?_, fun i b d e => ?_, fun i b d e V hV => ?_, by simp, fun i b d e => ?_⟩
  · match i, e with
    | 0, e => cases e; exact ⟨hcell 0 _ rfl, hcell 1 _ rfl⟩
    | 1, e => cases e; exact ⟨hcell 2 _ rfl, hcell 3 _ rfl⟩
    | 2, e => cases e; exact ⟨hcell 4 _ rfl, hcell 5 _ rfl⟩
    | 3, e => cases e; exact ⟨hcell 6 _ rfl, hcell 7 _ rfl⟩
    | 4, e => cases e; exact ⟨hcell 8 _ rfl, hcell 9 _ rfl⟩
    | i + 5, e => cases e
  · match i, e with
    | 0, _ => exact enters_of Tryz.func31 (by kernel_rfl) rfl
    | 1, _ => exact enters_of Tryz.func33 (by kernel_rfl) rfl
    | 2, _ => exact enters_of Tryz.func35 (by kernel_rfl) rfl
    | 3, _ => exact enters_of Tryz.func36 (by kernel_rfl) rfl
    | 4, _ => exact enters_of Tryz.func37 (by kernel_rfl) rfl
    | i + 5, e => cases e
  · match i, e with
    | 0, e => cases e; exact cfg1_at A _ _ _ _ _ _ _ _ (hs.below hV)
    | 1, e => cases e; exact cfg2_at _ _ _ _ _ _ _ _
    | 2, e => cases e; exact cfg3_at _ _ _ _ _ _ _ _
    | 3, e => cases e; exact cfg4_at _ _ _ _ _ _ _ _
    | 4, e => cases e; exact cfg5_at _ _ _ _ _ _ _ _
    | i + 5, e => cases e
  · match i, e with
    | 0, e => cases e; decide
    | 1, e => cases e; decide
    | 2, e => cases e; decide
    | 3, e => cases e; decide
    | 4, e => cases e; decide
    | i + 5, e => cases e
end Go.Proofs.YtcnfkdecghdphabGreatDoor
