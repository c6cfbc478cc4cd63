/-
  nightwatchlaw1.DogWindows told by a contract: it answers true; nothing that was there turns. Conditions: the sentinels are in memory ('Senv'); the list lies in memory, with at most twenty numbers.
-/
import Derived.Test.YtebdepbnhemnpaaDoorEarlyWalk
namespace Go.Proofs.YtebdepbnhemnpaaDoor
open Go.RowKit Go.Extern.Stop Go.Stop Go.Extern

/-- A list of numbers in memory. -/
structure IntsAt (w : World) (g o len : Nat) (l : Nat → Int) : Prop where
  at' : ∀ i, i < len → w.cell? ⟨g, o + i, none⟩ = some (.int .i64 (l i))
theorem IntsAt.below {w w' : World} {g o len : Nat} {l : Nat → Int} (h : IntsAt w g o len l) (hb : Below w.heap.size w w') : IntsAt w' g o len l := ⟨fun i hi => cell_below hb (h.at' i hi)⟩

set_option maxRecDepth 100000 in
set_option maxHeartbeats 4000000 in
theorem windows_in (A : Nat → Addr) (c o : Nat) (sa : Option Addr) (g p len cap : Nat) (l : Nat → Int) (w : World) (hs : Senv A w) (h1 : c ≤ 60) (h2 : 1 ≤ o) (h3 : o ≤ 60) (hsa : 0 < len → sa = some ⟨g, p, none⟩) (hl : IntsAt w g p len l) (h20 : len ≤ 20) :
    Calls Tryd.prog 10 #[.int .i64 (c : Int), .int .i64 (o : Int), .slice sa len cap] w fun e w' => e = .returned (.bool true) ∧ Below w.heap.size w w' := by
  have g1 : ¬ (c : Int) < 0 := by omega
  have g2 : ¬ 60 < (c : Int) := by omega
  have g3 : ¬ (o : Int) < 1 := by omega
  have g4 : ¬ 60 < (o : Int) := by omega
  have g5 : ¬ 20 < (len : Int) := by omega
  go_enter Tryd.func10, Tryd.ntmps10
  go_wp2_with fail
  refine (barks_any A _ hs).mono ?_
  rintro e w1 ⟨rfl, hb1⟩
  go_wp2_with fail
  refine (din_new c o hb1 (by omega) h2 (by omega)).mono ?_
  rintro e w2 ⟨b, rfl, -, D2⟩
  go_upto_region 7 with fail
  clear hb1 g1 g2 g3 g4 g5
  go_cut [10] (fun r wx => r = .int .i64 0 ∧ DogIn w wx b (DSt.new c o))
  case first =>
    go_wp2_with fail
    go_meet
    case rel => exact ⟨rfl, D2⟩
  clear D2
  obtain ⟨rfl, D2⟩ := hcut
  go_wp2_with fail
  go_loopw [10, 11] (fun r i wr => ∃ k q n : Nat, k ≤ len ∧ q ≤ k ∧ n ≤ 200 * k ∧ i = .int .i64 k ∧ r = .int .i64 q ∧ DogIn w wr b ⟨c, o, n, n, q, false⟩) (fun _ i _ => len - (intOf i).toNat)
  case atStart => exact ⟨0, 0, 0, Nat.zero_le _, Nat.zero_le _, Nat.zero_le _, rfl, rfl, D2⟩
  case round =>
    clear D2
    obtain ⟨k, q, n, hk, hq, hn, rfl, rfl, D⟩ := hrel
    by_cases hlt : k < len
    · obtain rfl := hsa (by omega)
      have c0 := (hl.below D.bel).at' k hlt
      have k0 : (0 : Int) ≤ (k : Int) := by omega
      have k1 : (k : Int) < (len : Int) := by omega
      generalize l k = x at *
      by_cases hx : x < 0
      · go_wp2_with fail
        go_roundw
        case rel => exact ⟨k + 1, q, n, by omega, by omega, by omega, by go_num, rfl, D⟩
        case measure => simp [intOf]; omega
      · obtain ⟨x, rfl⟩ := Int.eq_ofNat_of_zero_le (show 0 ≤ x by omega)
        go_upto_region 12 with fail
        go_cut [12] (fun v wx => v = .int .i64 ((c + 1 + x % o : Nat) : Int) ∧ wx = wr)
        case first =>
          have o0 : ((o : Int) == 0) = false := by rw [beq_eq_false_iff_ne]; omega
          have o1 : ¬ (o : Int) = 0 := by omega
          have hm := Nat.mod_lt x (show 0 < o by omega)
          have et : Int.tmod (x : Int) (o : Int) = ((x % o : Nat) : Int) := by rw [Int.tmod_eq_emod_of_nonneg (by omega)]; omega
          have w1' : IntKind.i64.wrap ((x % o : Nat) : Int) = ((x % o : Nat) : Int) := by rw [IntKind.wrap_i64]; omega
          have w2' : IntKind.i64.wrap ((c : Int) + 1) = (c : Int) + 1 := by rw [IntKind.wrap_i64]; omega
          have w3' : IntKind.i64.wrap ((c : Int) + 1 + ((x % o : Nat) : Int)) = ((c + 1 + x % o : Nat) : Int) := by rw [IntKind.wrap_i64]; omega
          go_wp2_with fail
          go_meet
          case rel => exact ⟨rfl, rfl⟩
        obtain ⟨rfl, rfl⟩ := hcut
        have hm := Nat.mod_lt x (show 0 < o by omega)
        generalize x % o = y at *
        clear c0 hx
        go_upto_region 13 with fail
        go_cut [13] (fun v wx => v = .int .i64 0 ∧ wx = wc)
        case first =>
          go_wp2_with fail
          go_meet
          case rel => exact ⟨rfl, rfl⟩
        obtain ⟨rfl, rfl⟩ := hcut
        go_wp2_with fail
        go_loopw [13] (fun i wx => ∃ j : Nat, j ≤ c + 1 + y ∧ i = .int .i64 j ∧ DogIn w wx b ⟨c, o, n + j, n, q, false⟩) (fun i _ => c + 1 + y - (intOf i).toNat)
        case atStart => exact ⟨0, Nat.zero_le _, rfl, D⟩
        case round =>
          clear D
          obtain ⟨j, hj, rfl, D⟩ := hrel
          by_cases hjm : j < c + 1 + y
          · have hT := tick_in c o (n + j) n q (by omega)
            have HT : Hid _ := hT
            clear hT
            by_cases hck : c < j
            · go_wp2_with fail
              refine (din_open D (dopen_yes c o (n + j) n q (by omega))).mono ?_
              rintro e w3 ⟨rfl, D3⟩
              go_wp2_with fail
              refine (din_tick D3 rfl (by simp only []; omega) HT.out).mono ?_
              rintro e w4 ⟨rfl, D4⟩
              go_wp2_with fail
              refine (din_reset (v := false) D4 rfl).mono ?_
              rintro e w5 ⟨rfl, rfl⟩
              go_wp2_with fail
              go_roundw
              case rel => exact ⟨j + 1, by omega, by go_num, D4⟩
              case measure => simp [intOf]; omega
            · go_wp2_with fail
              refine (din_open D (dopen_no c o (n + j) n q (by omega))).mono ?_
              rintro e w3 ⟨rfl, D3⟩
              go_wp2_with fail
              refine (din_tick D3 rfl (by simp only []; omega) HT.out).mono ?_
              rintro e w4 ⟨rfl, D4⟩
              go_wp2_with fail
              refine (din_reset (v := false) D4 rfl).mono ?_
              rintro e w5 ⟨rfl, rfl⟩
              go_wp2_with fail
              go_roundw
              case rel => exact ⟨j + 1, by omega, by go_num, D4⟩
              case measure => simp [intOf]; omega
          · obtain rfl : j = c + 1 + y := by omega
            go_wp2_with fail
            refine (din_open D (dopen_yes c o _ n q (by omega))).mono ?_
            rintro e w3 ⟨rfl, D3⟩
            go_wp2_with fail
            refine (din_kick (d' := ⟨c, o, n + (c + 1 + y), n + (c + 1 + y), q + 1, false⟩) D3 (dopen_yes c o _ n q (by omega)) rfl).mono ?_
            rintro e w4 ⟨rfl, D4⟩
            go_wp2_with fail
            refine (din_kicks (v := (q : Int) + 1) D4 (by simp)).mono ?_
            rintro e w5 ⟨rfl, rfl⟩
            go_wp2_with fail
            go_roundw
            case rel => exact ⟨k + 1, q + 1, n + (c + 1 + y), by omega, by omega, by omega, by go_num, by go_num, D4⟩
            case measure => simp [intOf]; omega
    · go_upto_region 21 with fail
      go_cut [14] (fun v wx => v = .int .i64 0 ∧ wx = wr)
      case first =>
        go_wp2_with fail
        go_meet
        case rel => exact ⟨rfl, rfl⟩
      obtain ⟨rfl, rfl⟩ := hcut
      have e1 : IntKind.i64.wrap ((c : Int) + (o : Int)) = (c : Int) + (o : Int) := by rw [IntKind.wrap_i64]; omega
      go_wp2_with fail
      go_loopw [14] (fun i wx => ∃ j : Nat, j ≤ c + o ∧ i = .int .i64 j ∧ DogIn w wx b ⟨c, o, n + j, n, q, false⟩) (fun i _ => c + o - (intOf i).toNat)
      case atStart => exact ⟨0, Nat.zero_le _, rfl, D⟩
      case round =>
        clear D
        obtain ⟨j, hj, rfl, D⟩ := hrel
        by_cases hjm : j < c + o
        · have hT := tick_in c o (n + j) n q (by omega)
          have HT : Hid _ := hT
          clear hT
          go_wp2_with fail
          refine (din_tick D rfl (by simp only []; omega) HT.out).mono ?_
          rintro e w4 ⟨rfl, D4⟩
          go_wp2_with fail
          refine (din_reset (v := false) D4 rfl).mono ?_
          rintro e w5 ⟨rfl, rfl⟩
          go_wp2_with fail
          go_roundw
          case rel => exact ⟨j + 1, by omega, by go_num, D4⟩
          case measure => simp [intOf]; omega
        · obtain rfl : j = c + o := by omega
          have hT := tick_out c o (n + (c + o)) n q (by omega)
          have HT : Hid _ := hT
          clear hT
          go_wp2_with fail
          refine (din_tick D rfl (by simp only []; omega) HT.out).mono ?_
          rintro e w4 ⟨rfl, D4⟩
          go_wp2_with fail
          refine (din_reset (v := true) D4 rfl).mono ?_
          rintro e w5 ⟨rfl, rfl⟩
          go_wp2_with fail
          refine (din_tick_bad hs D4 rfl).mono ?_
          rintro e w6 ⟨rfl, rfl⟩
          unfold errVal
          go_wp2_with fail
          refine (din_coded 10 hs D4 (by decide)).mono ?_
          rintro e w7 ⟨rfl, D7⟩
          go_wp2
          go_ret
          exact ⟨rfl, D7.bel⟩
end Go.Proofs.YtebdepbnhemnpaaDoor
