/-
  conf.lacks, conf.rise and slices.IsSorted by contracts. Condition: the slice lies in memory.
-/
import Derived.Test.YtcnfkdecghdphabGreatDoorCfAnyX
namespace Go.Proofs.YtcnfkdecghdphabGreatDoor
open Go.RowKit Go.Extern.Stop Go.Stop Go.Extern

theorem lacks1_at (x : Int) (B : Nat) (pa : Option Addr) (pn pc : Nat) (w : World) (hc : w.cell? ⟨B, 2, none⟩ = some (.slice pa pn pc)) :
    Calls Tryz.prog 104 #[.int .i64 x, .pointer (some ⟨B, 0, none⟩)] w fun e w' => e = .returned (.bool (lacks pn x)) ∧ Below w.heap.size w w' := by
  by_cases h1 : x < 0
  · go_enter Tryz.func104, Tryz.ntmps104
    go_wp2
    go_ret
    exact ⟨by simp [lacks, h1], Below.refl _ _⟩
  · go_enter Tryz.func104, Tryz.ntmps104
    go_wp2
    go_ret
    exact ⟨by simp [lacks]; omega, Below.refl _ _⟩
set_option maxHeartbeats 400000 in
theorem lacks_at (nm : ByteArray) (tol cnt mn mx : Int) (pa ga ea fa la : Option Addr) (pn pc gn gc en ec fn fc ln lc : Nat) (v : Value) (xs : List Int) (w : World) (hv : SlAt encI 1 w v xs) (hn : xs.length ≤ 1000000) :
    Calls Tryz.prog 66 #[.agg #[.string nm, .int .i64 tol, .slice pa pn pc, .int .i64 cnt, .int .i64 mn, .int .i64 mx, .slice ga gn gc, .slice ea en ec, .slice fa fn fc, .slice la ln lc], v] w fun e w' => e = .returned (.bool (xs.any (lacks pn))) ∧ Below w.heap.size w w' := by
  have H := any_int v xs (lacks pn) 104 #[.pointer (some ⟨w.heap.size, 0, none⟩)] _ (hv.below (Below.one w (.cells #[.string nm, .int .i64 tol, .slice pa pn pc, .int .i64 cnt, .int .i64 mn, .int .i64 mx, .slice ga gn gc, .slice ea en ec, .slice fa fn fc, .slice la ln lc] 41))) hn
    (enters_of Tryz.func104 (by kernel_rfl) rfl) (fun W hb x _ => lacks1_at x w.heap.size pa pn pc W (cell_below hb (by simp)))
  have HH : Hid _ := H
  obtain ⟨sa, cap, rfl, -⟩ := hv
  clear H hn
  go_enter Tryz.func66, Tryz.ntmps66
  go_wp2_with fail
  refine Calls.mono HH.out ?_
  rintro e w' ⟨rfl, hb⟩
  go_wp2
  go_ret
  exact ⟨rfl, (Below.one _ _).trans (hb.mono (by simp))⟩
theorem nan_at (x : Int) (w : World) : Calls Tryz.prog 129 #[.int .i64 x] w fun e w' => e = .returned (.bool false) ∧ w' = w := by
  go_enter Tryz.func129, Tryz.ntmps129
  go_wp2
  go_ret
  exact ⟨rfl, rfl⟩
theorem less_at (x y : Int) (w : World) : Calls Tryz.prog 122 #[.int .i64 x, .int .i64 y] w fun e w' => e = .returned (.bool (decide (x < y))) ∧ w' = w := by
  go_enter Tryz.func122, Tryz.ntmps122
  go_wp2_with fail
  refine (nan_at x _).mono ?_
  rintro e w' ⟨rfl, rfl⟩
  go_wp2
  go_ret
  exact ⟨rfl, rfl⟩
set_option maxHeartbeats 1000000 in
theorem sorted4_at (a b c d : Int) (B cap : Nat) (w : World) (c0 : w.cell? ⟨B, 0, none⟩ = some (.int .i64 a)) (c1 : w.cell? ⟨B, 1, none⟩ = some (.int .i64 b)) (c2 : w.cell? ⟨B, 2, none⟩ = some (.int .i64 c)) (c3 : w.cell? ⟨B, 3, none⟩ = some (.int .i64 d)) :
    Calls Tryz.prog 107 #[.slice (some ⟨B, 0, none⟩) 4 cap] w fun e w' => e = .returned (.bool (rise a b c d)) ∧ Below w.heap.size w w' := by
  go_enter Tryz.func107, Tryz.ntmps107
  go_wp2_with fail
  go_loopw [2, 3] (fun r i wr => r = .bool false ∧ Below w.heap.size w wr ∧ (i = .int .i64 3 ∨ (i = .int .i64 2 ∧ c ≤ d) ∨ (i = .int .i64 1 ∧ b ≤ c ∧ c ≤ d) ∨ (i = .int .i64 0 ∧ a ≤ b ∧ b ≤ c ∧ c ≤ d))) (fun _ i _ => (intOf i).toNat)
  case atStart => exact ⟨rfl, Below.refl _ _, Or.inl rfl⟩
  case round =>
    obtain ⟨rfl, hb, hrel⟩ := hrel
    have c0 := cell_below hb c0
    have c1 := cell_below hb c1
    have c2 := cell_below hb c2
    have c3 := cell_below hb c3
    have HB : Hid (Below w.heap.size w wr) := hb
    clear hb
    rcases hrel with rfl | ⟨rfl, h1⟩ | ⟨rfl, h1⟩ | ⟨rfl, h1⟩
    · have k0 : IntKind.i64.wrap 2 = 2 := by decide
      by_cases hx : d < c
      · have hd : decide (d < c) = true := decide_eq_true hx
        go_wp2_with fail
        go_quiet (first | (go_at_call 122; exact Calls.quiet_of_same (less_at _ _ _)))
        go_wp2
        go_ret
        exact ⟨by simp [rise]; omega, below_drewN HB.out _⟩
      · have hd : decide (d < c) = false := decide_eq_false hx
        go_wp2_with fail
        go_quiet (first | (go_at_call 122; exact Calls.quiet_of_same (less_at _ _ _)))
        go_wp2
        go_roundw
        case rel => exact ⟨rfl, below_drewN HB.out _, Or.inr (Or.inl ⟨by go_num, by omega⟩)⟩
        case measure => simp [intOf]
    · have k0 : IntKind.i64.wrap 1 = 1 := by decide
      by_cases hx : c < b
      · have hd : decide (c < b) = true := decide_eq_true hx
        go_wp2_with fail
        go_quiet (first | (go_at_call 122; exact Calls.quiet_of_same (less_at _ _ _)))
        go_wp2
        go_ret
        exact ⟨by simp [rise]; omega, below_drewN HB.out _⟩
      · have hd : decide (c < b) = false := decide_eq_false hx
        go_wp2_with fail
        go_quiet (first | (go_at_call 122; exact Calls.quiet_of_same (less_at _ _ _)))
        go_wp2
        go_roundw
        case rel => exact ⟨rfl, below_drewN HB.out _, Or.inr (Or.inr (Or.inl ⟨by go_num, by omega, by omega⟩))⟩
        case measure => simp [intOf]
    · have k0 : IntKind.i64.wrap 0 = 0 := by decide
      by_cases hx : b < a
      · have hd : decide (b < a) = true := decide_eq_true hx
        go_wp2_with fail
        go_quiet (first | (go_at_call 122; exact Calls.quiet_of_same (less_at _ _ _)))
        go_wp2
        go_ret
        exact ⟨by simp [rise]; omega, below_drewN HB.out _⟩
      · have hd : decide (b < a) = false := decide_eq_false hx
        go_wp2_with fail
        go_quiet (first | (go_at_call 122; exact Calls.quiet_of_same (less_at _ _ _)))
        go_wp2
        go_roundw
        case rel => exact ⟨rfl, below_drewN HB.out _, Or.inr (Or.inr (Or.inr ⟨by go_num, by omega, by omega, by omega⟩))⟩
        case measure => simp [intOf]
    · go_wp2
      go_ret
      exact ⟨by simp [rise]; omega, HB.out⟩
theorem rise_at (a b c d : Int) (B cap : Nat) (w : World) (c0 : w.cell? ⟨B, 0, none⟩ = some (.int .i64 a)) (c1 : w.cell? ⟨B, 1, none⟩ = some (.int .i64 b)) (c2 : w.cell? ⟨B, 2, none⟩ = some (.int .i64 c)) (c3 : w.cell? ⟨B, 3, none⟩ = some (.int .i64 d)) :
    Calls Tryz.prog 77 #[.slice (some ⟨B, 0, none⟩) 4 cap] w fun e w' => e = .returned (.bool (rise a b c d)) ∧ Below w.heap.size w w' := by
  have H := sorted4_at a b c d B cap w c0 c1 c2 c3
  clear c0 c1 c2 c3
  go_enter Tryz.func77, Tryz.ntmps77
  go_wp2_with fail
  refine H.mono ?_
  rintro e w' ⟨rfl, hb⟩
  go_wp2
  go_ret
  exact ⟨rfl, hb⟩
end Go.Proofs.YtcnfkdecghdphabGreatDoor
