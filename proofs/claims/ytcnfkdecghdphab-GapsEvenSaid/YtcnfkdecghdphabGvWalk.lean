/-
  nightwatchlaw2.spaced and nightwatchlaw2.GapsEven told by contracts: each answers true; nothing that was there turns. No condition.
-/
import Derived.Test.YtcnfkdecghdphabGaNew
namespace Go.Proofs.Ytcnfkdecghdphab
open Go.RowKit Go.Extern.Stop Go.Stop Go.Extern

theorem slat_gap (w : World) (g : GapD) : SlAt encG 4 (w.alloc (.cells #[.int .i64 g.fr, .int .i64 g.to, .int .i64 g.mn, .int .i64 g.mx] 45)) (.slice (some ⟨w.heap.size, 0, none⟩) [g].length 1) [g] := by
  refine ⟨_, 1, rfl, Nat.le_refl _, fun _ => ⟨w.heap.size, 0, rfl, fun i x hx j u hu => ?_⟩⟩
  match i, hx with
  | 0, hx =>
    simp at hx
    subst hx
    have := ce_at w [.int .i64 g.fr, .int .i64 g.to, .int .i64 g.mn, .int .i64 g.mx] 45 j u hu
    rw [addC_plain] at this
    simpa using this
  | i + 1, hx => simp at hx
variable {w0 w : World} {b : Nat} {s s' : GSt}
theorem gp_rep_to (p tick : Int) (h : GpIn w0 w b s) (hs : s.rep p tick = s') (hl : s.xs.length ≤ 1000000) :
    Calls Try.prog 16 #[.pointer (some ⟨b, 0, none⟩), .int .i64 p, .int .i64 tick] w fun e w' => e = .returned (.tuple #[]) ∧ GpIn w0 w' b s' := by
  subst hs; exact (gp_report p tick h hl).mono fun _ _ h => ⟨h.1, h.2.1⟩
theorem gp_end_to {v : Bool} (h : GpIn w0 w b s) (hv : (!s.bad) = v) (hs : s.zero = s') :
    Calls Try.prog 17 #[.pointer (some ⟨b, 0, none⟩)] w fun e w' => e = .returned (.bool v) ∧ GpIn w0 w' b s' := by
  subst hs hv; exact (gp_end h).mono fun _ _ h => ⟨h.1, h.2.1⟩

set_option maxHeartbeats 1000000 in
set_option maxRecDepth 100000 in
theorem spaced_any (w : World) :
    Calls Try.prog 14 #[] w fun e w' => e = .returned (.bool true) ∧ Below w.heap.size w w' := by
  go_enter Try.func14, Try.ntmps14
  go_wp2_with fail
  refine (gp_new _ _ _ _ _ _ _ _ _ _ _ [⟨0, 1, 5, 6⟩] _ (slat_gap w ⟨0, 1, 5, 6⟩) (by decide)).mono ?_
  rintro v w1 ⟨b, rfl, h1⟩
  have D1 : GpIn w w1 b ⟨[⟨⟨0, 1, 5, 6⟩, -1⟩], false⟩ := GpIn.from h1 (Below.one _ _)
  clear h1
  go_wp2_with fail
  refine (gp_rep_to (s' := ⟨[⟨⟨0, 1, 5, 6⟩, 10⟩], false⟩) 0 10 D1 rfl (by decide)).mono ?_
  rintro v w2 ⟨rfl, D2⟩
  clear D1
  go_wp2_with fail
  refine (gp_rep_to (s' := ⟨[⟨⟨0, 1, 5, 6⟩, 10⟩], true⟩) 1 14 D2 rfl (by decide)).mono ?_
  rintro v w3 ⟨rfl, D3⟩
  clear D2
  go_wp2_with fail
  refine (gp_end_to (v := false) (s' := ⟨[⟨⟨0, 1, 5, 6⟩, 10⟩], false⟩) D3 rfl rfl).mono ?_
  rintro v w4 ⟨rfl, D4⟩
  clear D3
  go_wp2_with fail
  refine (gp_rep_to (s' := ⟨[⟨⟨0, 1, 5, 6⟩, 10⟩], false⟩) 1 15 D4 rfl (by decide)).mono ?_
  rintro v w5 ⟨rfl, D5⟩
  clear D4
  go_wp2_with fail
  refine (gp_end_to (v := true) (s' := ⟨[⟨⟨0, 1, 5, 6⟩, 10⟩], false⟩) D5 rfl rfl).mono ?_
  rintro v w6 ⟨rfl, D6⟩
  go_wp2
  go_ret
  exact ⟨rfl, D6.1⟩

/-- A report of a gap from a point to itself. -/
theorem even_rep {n mn mx t : Int} {tick : Int} (ht : 0 ≤ t) (h1 : tick = t + n) (h2 : tickOk tick = true) : (⟨[⟨⟨0, 0, mn, mx⟩, t⟩], false⟩ : GSt).rep 0 tick = ⟨[⟨⟨0, 0, mn, mx⟩, tick⟩], !(decide (mn ≤ n) && decide (n ≤ mx))⟩ := by
  unfold GSt.rep
  rw [if_pos h2]
  have e : tick - t = n := by omega
  simp only [List.map_cons, List.map_nil, WG.rep, List.any_cons, List.any_nil, Bool.or_false, WG.bad, WG.bears, e]
  rw [decide_eq_true (p := t ≠ -1) (by omega)]
  simp
set_option maxHeartbeats 2000000 in
set_option maxRecDepth 100000 in
theorem even_in (n mn mx times : Nat) (w : World) (h1 : n ≤ 1000) (h2 : mn ≤ mx) (h3 : mx ≤ 1000) (h4 : 2 ≤ times) (h5 : times ≤ 50) :
    Calls Try.prog 5 #[.int .i64 (n : Int), .int .i64 (mn : Int), .int .i64 (mx : Int), .int .i64 (times : Int)] w fun e w' => e = .returned (.bool true) ∧ Below w.heap.size w w' := by
  have g1 : ¬ (n : Int) < 0 := by omega
  have g2 : ¬ 1000 < (n : Int) := by omega
  have g3 : ¬ (mn : Int) < 0 := by omega
  have g4 : ¬ (mx : Int) < (mn : Int) := by omega
  have g5 : ¬ 1000 < (mx : Int) := by omega
  have g6 : ¬ (times : Int) < 2 := by omega
  have g7 : ¬ 50 < (times : Int) := by omega
  go_enter Try.func5, Try.ntmps5
  go_wp2_with fail
  refine (spaced_any _).mono ?_
  rintro v w1 ⟨rfl, hb1⟩
  go_wp2_with fail
  refine (gp_new _ _ _ _ _ _ _ _ _ _ _ [⟨0, 0, mn, mx⟩] _ (slat_gap w1 ⟨0, 0, mn, mx⟩) (by simp)).mono ?_
  rintro v w2 ⟨b, rfl, h2'⟩
  have D2 : GpIn w w2 b ⟨[⟨⟨0, 0, mn, mx⟩, -1⟩], false⟩ := GpIn.from h2' (hb1.trans ((Below.one _ _).mono hb1.size))
  clear h2' hb1 g1 g2 g3 g4 g5 g6 g7
  go_wp2_with fail
  refine (gp_rep_to (s' := ⟨[⟨⟨0, 0, mn, mx⟩, 0⟩], true⟩) 0 0 D2 rfl (by simp)).mono ?_
  rintro v w3 ⟨rfl, D3⟩
  clear D2
  go_wp2_with fail
  refine (gp_end_to (v := false) (s' := ⟨[⟨⟨0, 0, mn, mx⟩, 0⟩], false⟩) D3 rfl rfl).mono ?_
  rintro v w4 ⟨rfl, D4⟩
  clear D3
  go_upto_region 12 with fail
  go_cut [11] (fun i wx => i = .int .i64 1 ∧ wx = w4)
  case first =>
    go_wp2_with fail
    go_meet
    case rel => exact ⟨rfl, rfl⟩
  obtain ⟨rfl, rfl⟩ := hcut
  go_wp2_with fail
  go_loopw [11] (fun i wr => ∃ k : Nat, 1 ≤ k ∧ k ≤ times ∧ i = .int .i64 k ∧ GpIn w wr b ⟨[⟨⟨0, 0, mn, mx⟩, ((k : Int) - 1) * n⟩], false⟩) (fun i _ => times - (intOf i).toNat)
  case atStart => exact ⟨1, Nat.le_refl _, by omega, rfl, by simpa using D4⟩
  case round =>
    clear D4
    obtain ⟨k, hk0, hk, rfl, hD⟩ := hrel
    have HD : Hid (GpIn w wr b ⟨[⟨⟨0, 0, mn, mx⟩, ((k : Int) - 1) * n⟩], false⟩) := hD
    clear hD
    by_cases hlt : k < times
    · have k1 : (k : Int) < (times : Int) := by omega
      have hm : k * n ≤ 50 * 1000 := Nat.mul_le_mul (by omega) h1
      have hm1 : ((k : Int) * (n : Int)) ≤ 50000 := by have : ((k * n : Nat) : Int) ≤ 50000 := (by omega); rwa [Int.natCast_mul] at this
      have hm0 : 0 ≤ ((k : Int) * (n : Int)) := by have : (0 : Int) ≤ ((k * n : Nat) : Int) := (by omega); rwa [Int.natCast_mul] at this
      have HT : Hid (0 ≤ ((k : Int) - 1) * n ∧ (k : Int) * n = ((k : Int) - 1) * n + n ∧ tickOk ((k : Int) * n) = true) := by
        refine ⟨Int.mul_nonneg (by omega) (by omega), by rw [Int.sub_mul]; omega, ?_⟩
        unfold tickOk
        rw [decide_eq_true hm0, decide_eq_true (by omega)]
        rfl
      have HN : Hid (((k + 1 : Nat) : Int) - 1 = k) := by show _ = _; omega
      go_wp2_with fail
      refine (gp_rep_to 0 ((k : Int) * n) HD.out (even_rep (n := (n : Int)) HT.out.1 HT.out.2.1 HT.out.2.2) (by simp)).mono ?_
      rintro v w5 ⟨rfl, D5⟩
      clear HD
      go_wp2_with fail
      refine (gp_end_to (v := (decide ((mn : Int) ≤ n) && decide ((n : Int) ≤ mx))) (s' := ⟨[⟨⟨0, 0, mn, mx⟩, (k : Int) * n⟩], false⟩) D5 (by simp) rfl).mono ?_
      rintro v w6 ⟨rfl, D6⟩
      have HD6 : Hid (GpIn w w6 b ⟨[⟨⟨0, 0, mn, mx⟩, (((k + 1 : Nat) : Int) - 1) * n⟩], false⟩) := by show GpIn _ _ _ _; rw [HN.out]; exact D6
      clear D5 D6
      by_cases q1 : mn ≤ n
      · have p1 : (mn : Int) ≤ n := by omega
        by_cases q2 : n ≤ mx
        · have p2 : (n : Int) ≤ mx := by omega
          rw [decide_eq_true p1, decide_eq_true p2]
          go_wp2_with fail
          go_roundw
          case rel => exact ⟨k + 1, by omega, by omega, by go_num, HD6.out⟩
          case measure => simp [intOf]; omega
        · have p2 : ¬ (n : Int) ≤ mx := by omega
          rw [decide_eq_true p1, decide_eq_false p2]
          go_wp2_with fail
          go_roundw
          case rel => exact ⟨k + 1, by omega, by omega, by go_num, HD6.out⟩
          case measure => simp [intOf]; omega
      · have p1 : ¬ (mn : Int) ≤ n := by omega
        rw [decide_eq_false p1]
        go_wp2_with fail
        go_roundw
        case rel => exact ⟨k + 1, by omega, by omega, by go_num, HD6.out⟩
        case measure => simp [intOf]; omega
    · have k1 : ¬ (k : Int) < (times : Int) := by omega
      go_wp2
      go_ret
      exact ⟨rfl, HD.out.1⟩
end Go.Proofs.Ytcnfkdecghdphab
