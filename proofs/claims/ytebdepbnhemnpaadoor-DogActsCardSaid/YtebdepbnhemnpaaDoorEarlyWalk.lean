/-
  nightwatchlaw1.DogEarly told by a contract: it answers true; nothing that was there turns. Condition: the sentinels are in memory ('Senv').
-/
import Derived.Test.YtebdepbnhemnpaaDoorDogIn
namespace Go.Proofs.YtebdepbnhemnpaaDoor
open Go.RowKit Go.Extern.Stop Go.Stop Go.Extern

theorem tick_in (c o n g k : Nat) (h : n + 1 - g ≤ c + o) : (⟨c, o, n, g, k, false⟩ : DSt).tick = ⟨c, o, n + 1, g, k, false⟩ := by
  unfold DSt.tick
  rw [decide_eq_false (by simp only []; omega)]
theorem tick_out (c o n g k : Nat) (h : c + o < n + 1 - g) : (⟨c, o, n, g, k, false⟩ : DSt).tick = ⟨c, o, n + 1, g, k, true⟩ := by
  unfold DSt.tick
  rw [decide_eq_true (by simp only []; omega)]
theorem dopen_no (c o n g k : Nat) (h : n - g ≤ c) : (⟨c, o, n, g, k, false⟩ : DSt).isOpen = false := by
  unfold DSt.isOpen
  rw [decide_eq_false (by simp only []; omega)]
  rfl
theorem dopen_yes (c o n g k : Nat) (h : c < n - g) : (⟨c, o, n, g, k, false⟩ : DSt).isOpen = true := by
  unfold DSt.isOpen
  rw [decide_eq_true (by simp only []; omega)]
  rfl

set_option maxRecDepth 100000 in
set_option maxHeartbeats 2000000 in
theorem early_in (A : Nat → Addr) (c o m : Nat) (w : World) (hs : Senv A w) (h1 : c ≤ 60) (h2 : 1 ≤ o) (h3 : o ≤ 60) (h4 : m ≤ c) :
    Calls Tryd.prog 11 #[.int .i64 (c : Int), .int .i64 (o : Int), .int .i64 (m : Int)] w fun e w' => e = .returned (.bool true) ∧ Below w.heap.size w w' := by
  have g1 : ¬ (c : Int) < 0 := by omega
  have g2 : ¬ 60 < (c : Int) := by omega
  have g3 : ¬ (o : Int) < 1 := by omega
  have g4 : ¬ 60 < (o : Int) := by omega
  have g5 : ¬ (m : Int) < 0 := by omega
  have g6 : ¬ (c : Int) < (m : Int) := by omega
  go_enter Tryd.func11, Tryd.ntmps11
  go_wp2_with fail
  refine (barks_any A _ hs).mono ?_
  rintro e w1 ⟨rfl, hb1⟩
  go_wp2_with fail
  refine (din_new c o hb1 (by omega) h2 (by omega)).mono ?_
  rintro e w2 ⟨b, rfl, -, D2⟩
  go_upto_region 7 with fail
  clear hb1 g1 g2 g3 g4 g5 g6
  go_cut [10] (fun r wx => r = .int .i64 0 ∧ DogIn w wx b (DSt.new c o))
  case first =>
    go_wp2_with fail
    go_meet
    case rel => exact ⟨rfl, D2⟩
  clear D2
  obtain ⟨rfl, D2⟩ := hcut
  go_wp2_with fail
  go_loopw [10] (fun r wr => ∃ k n : Nat, k ≤ 2 ∧ n ≤ 60 * k ∧ r = .int .i64 k ∧ DogIn w wr b ⟨c, o, n, n, 0, false⟩) (fun r _ => 2 - (intOf r).toNat)
  case atStart => exact ⟨0, 0, Nat.zero_le _, Nat.zero_le _, rfl, D2⟩
  case round =>
    clear D2
    obtain ⟨k, n, hk, hn, rfl, D⟩ := hrel
    by_cases hlt : k < 2
    · go_upto_region 10 with fail
      go_cut [11] (fun i wx => i = .int .i64 0 ∧ wx = wr)
      case first =>
        go_wp2_with fail
        go_meet
        case rel => exact ⟨rfl, rfl⟩
      obtain ⟨rfl, rfl⟩ := hcut
      go_wp2_with fail
      go_loopw [11] (fun i wx => ∃ j : Nat, j ≤ m ∧ i = .int .i64 j ∧ DogIn w wx b ⟨c, o, n + j, n, 0, false⟩) (fun i _ => m - (intOf i).toNat)
      case atStart => exact ⟨0, Nat.zero_le _, rfl, D⟩
      case round =>
        clear D
        obtain ⟨j, hj, rfl, D⟩ := hrel
        by_cases hjm : j < m
        · go_wp2_with fail
          refine (din_tick D rfl (by simp only []; omega) (tick_in c o (n + j) n 0 (by omega))).mono ?_
          rintro e w3 ⟨rfl, D3⟩
          go_wp2_with fail
          go_roundw
          case rel => exact ⟨j + 1, by omega, by go_num, D3⟩
          case measure => simp [intOf]; omega
        · obtain rfl : j = m := by omega
          go_wp2_with fail
          refine (din_open D (dopen_no c o (n + j) n 0 (by omega))).mono ?_
          rintro e w3 ⟨rfl, D3⟩
          go_wp2_with fail
          refine (din_kick_bad (d' := ⟨c, o, n + j, n, 0, true⟩) hs D3 (dopen_no c o (n + j) n 0 (by omega)) rfl).mono ?_
          rintro e w4 ⟨rfl, D4⟩
          unfold errVal
          go_wp2_with fail
          refine (din_coded 10 hs D4 (by decide)).mono ?_
          rintro e w5 ⟨rfl, D5⟩
          go_wp2_with fail
          refine (din_reset (v := true) D5 rfl).mono ?_
          rintro e w6 ⟨rfl, rfl⟩
          go_wp2_with fail
          refine (din_kicks (v := 0) D5 rfl).mono ?_
          rintro e w6 ⟨rfl, rfl⟩
          go_wp2_with fail
          refine (din_start (d' := ⟨c, o, n + j, n + j, 0, false⟩) D5 rfl).mono ?_
          rintro e w7 ⟨rfl, D7⟩
          go_wp2_with fail
          go_roundw
          case rel => exact ⟨k + 1, n + j, by omega, by omega, by go_num, D7⟩
          case measure => simp [intOf]; omega
    · go_wp2_with fail
      go_loopw [12] (fun i wx => ∃ j : Nat, j ≤ c + 1 ∧ i = .int .i64 j ∧ DogIn w wx b ⟨c, o, n + j, n, 0, false⟩) (fun i _ => c + 1 - (intOf i).toNat)
      case atStart => exact ⟨0, Nat.zero_le _, rfl, D⟩
      case round =>
        clear D
        obtain ⟨j, hj, rfl, D⟩ := hrel
        by_cases hjm : j ≤ c
        · go_wp2_with fail
          refine (din_open D (dopen_no c o (n + j) n 0 (by omega))).mono ?_
          rintro e w3 ⟨rfl, D3⟩
          go_wp2_with fail
          refine (din_tick D3 rfl (by simp only []; omega) (tick_in c o (n + j) n 0 (by omega))).mono ?_
          rintro e w4 ⟨rfl, D4⟩
          go_wp2_with fail
          go_roundw
          case rel => exact ⟨j + 1, by omega, by go_num, D4⟩
          case measure => simp [intOf]; omega
        · obtain rfl : j = c + 1 := by omega
          go_wp2_with fail
          refine (din_open D (dopen_yes c o _ n 0 (by omega))).mono ?_
          rintro e w3 ⟨rfl, D3⟩
          go_wp2_with fail
          refine (din_kick (d' := ⟨c, o, n + (c + 1), n + (c + 1), 1, false⟩) D3 (dopen_yes c o _ n 0 (by omega)) rfl).mono ?_
          rintro e w4 ⟨rfl, D4⟩
          go_wp2_with fail
          refine (din_kicks (v := 1) D4 rfl).mono ?_
          rintro e w5 ⟨rfl, rfl⟩
          go_wp2
          go_ret
          exact ⟨rfl, D4.bel⟩
end Go.Proofs.YtebdepbnhemnpaaDoor
