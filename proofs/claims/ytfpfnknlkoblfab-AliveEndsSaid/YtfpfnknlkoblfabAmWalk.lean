/-
  nightwatchlaw2.counts and nightwatchlaw2.AliveMany told by contracts: each answers true; nothing that was there turns. No condition.
-/
import Derived.Test.YtfpfnknlkoblfabAlSt
namespace Go.Proofs.Ytfpfnknlkoblfab
open Go.RowKit Go.Extern.Stop Go.Stop Go.Extern

theorem rep_in {p mn mx : Int} {n : Nat} (hp : p ≠ -1) (hn : n < 1000) : (⟨p, mn, mx, n⟩ : ASt).rep p = ⟨p, mn, mx, n + 1⟩ := by
  unfold ASt.rep
  rw [if_pos ⟨hp, rfl, hn⟩]
theorem rep_full {p mn mx : Int} {n : Nat} (hn : ¬ n < 1000) : (⟨p, mn, mx, n⟩ : ASt).rep p = ⟨p, mn, mx, n⟩ := by
  unfold ASt.rep
  rw [if_neg (fun e => hn e.2.2)]
theorem rep_out {p q mn mx : Int} {n : Nat} (h : p = -1 ∨ q ≠ p) : (⟨p, mn, mx, n⟩ : ASt).rep q = ⟨p, mn, mx, n⟩ := by
  unfold ASt.rep
  rw [if_neg (fun e => h.elim (fun h => e.1 h) (fun h => h e.2.1))]
theorem rep_to {w0 w : World} {b : Nat} {a a' : ASt} (p : Int) (h : AlIn w0 w b a) (ha : a.rep p = a') :
    Calls Try.prog 7 #[.pointer (some ⟨b, 0, none⟩), .int .i64 p] w fun e w' => e = .returned (.tuple #[]) ∧ AlIn w0 w' b a' := by
  subst ha; exact al_report p h
theorem end_to {w0 w : World} {b : Nat} {a a' : ASt} {v : Bool} (whole : Bool) (h : AlIn w0 w b a) (hv : a.well whole = v) (ha : a.zero = a') :
    Calls Try.prog 9 #[.pointer (some ⟨b, 0, none⟩), .bool whole] w fun e w' => e = .returned (.bool v) ∧ AlIn w0 w' b a' := by
  subst ha hv; exact al_end whole h

set_option maxHeartbeats 1000000 in
set_option maxRecDepth 100000 in
theorem counts_any (w : World) :
    Calls Try.prog 5 #[] w fun e w' => e = .returned (.bool true) ∧ Below w.heap.size w w' := by
  go_enter Try.func5, Try.ntmps5
  go_wp2_with fail
  refine (al_new _ _ _ _ _ _ _ _ _ _ _ _ _).mono ?_
  rintro v w1 ⟨b, rfl, h1⟩
  have D1 : AlIn w w1 b ⟨0, 2, 2, 0⟩ := h1.from (Below.one _ _)
  clear h1
  go_wp2_with fail
  refine (rep_to (a' := ⟨0, 2, 2, 1⟩) 0 D1 rfl).mono ?_
  rintro v w2 ⟨rfl, D2⟩
  clear D1
  go_wp2_with fail
  refine (al_count (v := 1) D2 rfl).mono ?_
  rintro v w3 ⟨rfl, rfl⟩
  go_wp2_with fail
  refine (end_to (v := false) (a' := ⟨0, 2, 2, 0⟩) true D2 rfl rfl).mono ?_
  rintro v w4 ⟨rfl, D4⟩
  clear D2
  go_wp2_with fail
  refine (rep_to (a' := ⟨0, 2, 2, 1⟩) 0 D4 rfl).mono ?_
  rintro v w5 ⟨rfl, D5⟩
  clear D4
  go_wp2_with fail
  refine (rep_to (a' := ⟨0, 2, 2, 2⟩) 0 D5 rfl).mono ?_
  rintro v w6 ⟨rfl, D6⟩
  clear D5
  go_wp2_with fail
  refine (end_to (v := true) (a' := ⟨0, 2, 2, 0⟩) true D6 rfl rfl).mono ?_
  rintro v w7 ⟨rfl, D7⟩
  go_wp2
  go_ret
  exact ⟨rfl, D7.bel⟩

set_option maxHeartbeats 2000000 in
set_option maxRecDepth 100000 in
theorem many_in (mx more : Nat) (w : World) (h1 : mx < 1000) (h2 : more ≤ 300) :
    Calls Try.prog 3 #[.int .i64 (mx : Int), .int .i64 (more : Int)] w fun e w' => e = .returned (.bool true) ∧ Below w.heap.size w w' := by
  have g1 : ¬ (mx : Int) < 0 := by omega
  have g2 : ¬ 1000 ≤ (mx : Int) := by omega
  have g3 : ¬ (more : Int) < 0 := by omega
  have g4 : ¬ 300 < (more : Int) := by omega
  go_enter Try.func3, Try.ntmps3
  go_wp2_with fail
  refine (counts_any _).mono ?_
  rintro v w1 ⟨rfl, hb1⟩
  go_wp2_with fail
  refine (al_new _ _ _ _ _ _ _ _ _ _ _ _ _).mono ?_
  rintro v w2 ⟨b, rfl, h2'⟩
  have D2 : AlIn w w2 b ⟨0, 0, mx, 0⟩ := h2'.from (hb1.trans ((Below.one _ _).mono hb1.size))
  clear h2' hb1 g1 g2 g3 g4
  go_upto_region 7 with fail
  go_cut [7] (fun i wx => i = .int .i64 0 ∧ AlIn w wx b ⟨0, 0, mx, 0⟩)
  case first =>
    go_wp2_with fail
    go_meet
    case rel => exact ⟨rfl, D2⟩
  clear D2
  obtain ⟨rfl, D2⟩ := hcut
  go_wp2_with fail
  go_loopw [7] (fun i wr => ∃ k : Nat, k ≤ 1000 + more ∧ i = .int .i64 k ∧ AlIn w wr b ⟨0, 0, mx, min k 1000⟩) (fun i _ => 1000 + more - (intOf i).toNat)
  case atStart => exact ⟨0, Nat.zero_le _, rfl, D2⟩
  case round =>
    clear D2
    obtain ⟨k, hk, rfl, D⟩ := hrel
    by_cases hlt : k < 1000 + more
    · have k1 : (k : Int) < 1000 + (more : Int) := by omega
      go_wp2_with fail
      refine (rep_to (a' := ⟨0, 0, mx, min (k + 1) 1000⟩) 0 D (by
        by_cases h : k < 1000
        · rw [show min k 1000 = k by omega, show min (k + 1) 1000 = k + 1 by omega]; exact rep_in (by decide) h
        · rw [show min k 1000 = 1000 by omega, show min (k + 1) 1000 = 1000 by omega]; exact rep_full (by omega))).mono ?_
      rintro v w3 ⟨rfl, D3⟩
      go_wp2_with fail
      go_roundw
      case rel => exact ⟨k + 1, by omega, by go_num, D3⟩
      case measure => simp [intOf]; omega
    · have k1 : ¬ (k : Int) < 1000 + (more : Int) := by omega
      have D3 : AlIn w wr b ⟨0, 0, mx, 1000⟩ := by rw [show min k 1000 = 1000 by omega] at D; exact D
      clear D
      go_wp2_with fail
      refine (al_count (v := 1000) D3 rfl).mono ?_
      rintro v w4 ⟨rfl, rfl⟩
      go_wp2_with fail
      refine (end_to (v := false) (a' := ⟨0, 0, mx, 0⟩) true D3 (by
        unfold ASt.well
        rw [show decide (((1000 : Nat) : Int) ≤ (mx : Int)) = false by rw [decide_eq_false]; omega]
        rfl) rfl).mono ?_
      rintro v w5 ⟨rfl, D5⟩
      clear D3
      go_wp2_with fail
      refine (end_to (v := true) (a' := ⟨0, 0, mx, 0⟩) true D5 (by
        unfold ASt.well
        rw [show decide (((0 : Nat) : Int) ≤ (mx : Int)) = true by rw [decide_eq_true]; omega]
        rfl) rfl).mono ?_
      rintro v w6 ⟨rfl, D6⟩
      go_wp2
      go_ret
      exact ⟨rfl, D6.bel⟩
end Go.Proofs.Ytfpfnknlkoblfab
