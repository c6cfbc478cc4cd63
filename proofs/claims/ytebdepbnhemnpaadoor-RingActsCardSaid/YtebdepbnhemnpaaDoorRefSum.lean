/-
  nightwatchref1.Byte, wide and Sum (the document's answer) by contracts. Conditions: as named.
-/
import Derived.Test.YtebdepbnhemnpaaDoorRingInv
import Derived.Laws.Concat
namespace Go.Proofs.YtebdepbnhemnpaaDoor
open Go.RowKit Go.Extern.Stop Go.Stop Go.Extern

set_option maxRecDepth 100000 in
theorem byte_any (n : Nat) (w : World) :
    Calls Tryd.prog 65 #[.int .i64 (n : Int)] w fun e w' => e = .returned (.string ⟨#[UInt8.ofNat n]⟩) ∧ Below w.heap.size w w' := by
  have e : Hid ((n : Int) % 256 = ((UInt8.ofNat n).toNat : Int)) := by show _ = _; rw [UInt8.toNat_ofNat']; omega
  have cv := run_convert_bytes_back (P := Tryd.prog) (w.alloc (.cells #[.int .u8 ((n : Int) % 256)] 5)) 41 9 5 ⟨w.heap.size, 0, .none⟩ 1 [UInt8.ofNat n] Tryd.underlying41 Tryd.underlying5 Tryd.underlying9 (fun j hj => by
    have : j = 0 := by simpa using hj
    subst this
    rw [e.out]
    exact World.cell?_alloc_at _ _ _ _ rfl)
  simp only [List.length_singleton] at cv
  go_enter Tryd.func65, Tryd.ntmps65
  go_wp2_with fail
  go_ret
  exact ⟨rfl, (Below.refl _ _).alloc (Nat.le_refl _) _⟩

theorem be_cat (i x : Nat) : (⟨#[UInt8.ofNat (x / 256 ^ i % 256)]⟩ : ByteArray) ++ ⟨(be i x).toArray⟩ = ⟨(be (i + 1) x).toArray⟩ := by
  apply ByteArray.ext
  rw [ByteArray.data_append]
  have e : UInt8.ofNat (x / 256 ^ i % 256) = UInt8.ofNat (x / 256 ^ i) := by
    apply UInt8.toNat_inj.1
    simp only [UInt8.toNat_ofNat']
    omega
  rw [e]
  simp [be]
theorem div_next (x i : Nat) : ((x / 256 ^ i : Nat) : Int) / 256 = ((x / 256 ^ (i + 1) : Nat) : Int) := by
  rw [Nat.pow_succ, ← Nat.div_div_eq_div_mul]
  omega

set_option maxRecDepth 100000 in
set_option maxHeartbeats 1000000 in
theorem wide_any (x many : Nat) (w : World) (hx : x ≤ 9223372036854775807) (hm : many ≤ 16) :
    Calls Tryd.prog 80 #[.int .i64 (x : Int), .int .i64 (many : Int)] w fun e w' => e = .returned (.string ⟨(be many x).toArray⟩) ∧ Below w.heap.size w w' := by
  go_enter Tryd.func80, Tryd.ntmps80
  go_wp2_with fail
  go_loopw [0, 5, 6] (fun n s i wr => ∃ k : Nat, k ≤ many ∧ i = .int .i64 k ∧ n = .int .i64 ((x / 256 ^ k : Nat) : Int) ∧ s = .string ⟨(be k x).toArray⟩ ∧ Below w.heap.size w wr) (fun _ _ i _ => many - (intOf i).toNat)
  case atStart => exact ⟨0, Nat.zero_le _, rfl, by simp, rfl, Below.refl _ _⟩
  case round =>
    obtain ⟨k, hk, rfl, rfl, rfl, hb⟩ := hrel
    have hd : x / 256 ^ k ≤ x := Nat.div_le_self _ _
    have HC : Hid _ := be_cat k x
    have HD : Hid _ := div_next x k
    have hTs : (⟨(be k x).toArray⟩ : ByteArray).size = k := by show (be k x).toArray.size = k; rw [List.size_toArray, be_length]
    generalize hy : x / 256 ^ k = y at *
    generalize hT : (⟨(be k x).toArray⟩ : ByteArray) = T at *
    have HT : Hid _ := hT
    have HY : Hid _ := hy
    clear hT hy
    have hT16 : (T.size : Int) ≤ 16 := by omega
    have hT16' : T.size ≤ 16 := by omega
    clear hTs
    by_cases hlt : k < many
    · have HM : Hid ((y : Int) % 256 = ((y % 256 : Nat) : Int)) := by show _ = _; omega
      go_wp2_with fail
      rw [HM.out]
      refine (byte_any (y % 256) wr).mono ?_
      rintro e w2 ⟨rfl, hb2⟩
      go_wp2_with fail
      rw [HC.out, HD.out]
      exact ⟨⟨k + 1, by omega, by go_num, rfl, rfl, hb.trans (hb2.mono hb.size)⟩, by simp [intOf]; omega⟩
    · have ek : k = many := by omega
      subst ek
      go_wp2
      go_ret
      rw [HT.out]
      exact ⟨rfl, hb⟩

theorem crcSteps_snoc (k : Nat) : ∀ s, crcStep (crcSteps k s) = crcSteps (k + 1) s := by
  induction k with
  | zero => intro s; rfl
  | succ k ih => intro s; exact ih (crcStep s)
theorem xor_half (a b : Nat) : (a ^^^ b) / 2 = a / 2 ^^^ b / 2 := by
  apply Nat.eq_of_testBit_eq
  intro i
  simp only [Nat.testBit_div_two, Nat.testBit_xor]
/-- One bit, as the document's sum takes it. -/
def refStep (c u : Nat) : Nat := if (c ^^^ u) % 2 = 1 then (c / 2) ^^^ 3988292384 else c / 2
theorem refStep_eq (c u : Nat) : refStep c u ^^^ (u / 2) = crcStep (c ^^^ u) := by
  unfold refStep crcStep
  rw [xor_half]
  rcases Nat.mod_two_eq_zero_or_one (c ^^^ u) with h | h
  · rw [h, if_neg (by decide), Nat.mul_zero, Nat.xor_zero]
  · rw [h, if_pos rfl, Nat.mul_one, Nat.xor_assoc, Nat.xor_comm 3988292384, ← Nat.xor_assoc]
theorem refStep_lt {c u : Nat} (h : c < 4294967296) : refStep c u < 4294967296 := by
  unfold refStep
  split
  · exact Nat.xor_lt_two_pow (n := 32) (by omega) (by decide)
  · omega

theorem i64_xor (a b : Nat) (ha : a < 4294967296) (hb : b < 4294967296) : bits BinOp.xor IntKind.i64 (a : Int) (b : Int) = ((a ^^^ b : Nat) : Int) := by
  have hx : a ^^^ b < 2 ^ 32 := Nat.xor_lt_two_pow (by omega) (by omega)
  have ha' : a % 2 ^ IntKind.i64.bits = a := Nat.mod_eq_of_lt (Nat.lt_of_lt_of_le ha (by decide))
  have hb' : b % 2 ^ IntKind.i64.bits = b := Nat.mod_eq_of_lt (Nat.lt_of_lt_of_le hb (by decide))
  simp only [bits, BitVec.ofInt_natCast, BitVec.toNat_xor, BitVec.toNat_ofNat, ha', hb']
  exact wraps_i64 _ (Int.natCast_nonneg _) (by omega)
theorem shift_nat (v j : Nat) : ((v : Int) / 2 ^ j) = ((v / 2 ^ j : Nat) : Int) := by
  rw [Int.natCast_ediv, Int.natCast_pow]; rfl
/-- The round's end: both ways. -/
theorem sum_round (m u v j s : Nat) (hu : u = v / 2 ^ j) (h : m ^^^ u = crcSteps j s) : refStep m u ^^^ (v / 2 ^ (j + 1)) = crcSteps (j + 1) s := by
  rw [← crcSteps_snoc, ← h, ← refStep_eq, hu, Nat.pow_succ, Nat.div_div_eq_div_mul]

set_option maxRecDepth 100000 in
set_option maxHeartbeats 1000000 in
theorem rsum_any (T : ByteArray) (w : World) (hl : T.size ≤ 4096) :
    Calls Tryd.prog 81 #[.string T] w fun e w' => e = .returned (.int .i64 (crc T.data.toList : Nat)) ∧ w' = w := by
  go_enter Tryd.func81, Tryd.ntmps81
  go_wp2_with fail
  go_loopw [3, 4] (fun c i wr => ∃ (k n : Nat), k ≤ T.size ∧ n < 4294967296 ∧ i = .int .i64 k ∧ c = .int .i64 (n : Int) ∧ crcFrom n (T.data.toList.drop k) = crcFrom 4294967295 T.data.toList ∧ wr = w) (fun _ i _ => T.size - (intOf i).toNat)
  case atStart => exact ⟨0, 4294967295, Nat.zero_le _, by decide, rfl, rfl, by simp, rfl⟩
  case round =>
    obtain ⟨k, n, hk, hn, rfl, rfl, hcr, rfl⟩ := hrel
    by_cases hlt : k < T.size
    · have hv := (T[k]).toNat_lt
      have HN : Hid (crcFrom (crcSteps 8 (n ^^^ T[k].toNat)) (T.data.toList.drop (k + 1)) = crcFrom 4294967295 T.data.toList) := by
        show _ = _
        rw [← hcr, List.drop_eq_getElem_cons (i := k) (l := T.data.toList) (by simpa using hlt)]; rfl
      clear hcr
      have k0 : (0 : Int) ≤ (k : Int) := by omega
      have k1 : (k : Int) < (T.size : Int) := by omega
      go_wp2_with fail
      go_loopw [3, 5] (fun c i wx => ∃ (j m : Nat), j ≤ 8 ∧ m < 4294967296 ∧ i = .int .i64 j ∧ c = .int .i64 (m : Int) ∧ m ^^^ (T[k].toNat / 2 ^ j) = crcSteps j (n ^^^ T[k].toNat) ∧ wx = wr) (fun _ i _ => 8 - (intOf i).toNat)
      case atStart => exact ⟨0, n, Nat.zero_le _, hn, rfl, rfl, by simp [crcSteps], rfl⟩
      case round =>
        obtain ⟨j, m, hj, hm, rfl, rfl, hst, rfl⟩ := hrel
        by_cases hj8 : j < 8
        · have hu : T[k].toNat / 2 ^ j < 4294967296 := by
            have := Nat.div_le_self T[k].toNat (2 ^ j)
            omega
          have SH : Hid _ := shift_nat T[k].toNat j
          have HX : Hid _ := i64_xor m (T[k].toNat / 2 ^ j) hm hu
          have HR : Hid _ := sum_round m _ T[k].toNat j _ rfl hst
          have HL : Hid _ := refStep_lt (u := T[k].toNat / 2 ^ j) hm
          have HP : Hid _ := i64_xor (m / 2) 3988292384 (by omega) (by decide)
          rcases Nat.mod_two_eq_zero_or_one (m ^^^ (T[k].toNat / 2 ^ j)) with h01 | h01
          · have HV : Hid (refStep m (T[k].toNat / 2 ^ j) = m / 2) := if_neg (by rw [h01]; decide)
            have hbit : ((bits BinOp.xor IntKind.i64 (m : Int) ((T[k].toNat : Int) / 2 ^ j)).tmod 2 == 1) = false := by
              rw [SH.out, HX.out, Int.tmod_eq_emod_of_nonneg (by omega), beq_eq_false_iff_ne]; omega
            clear hst
            go_wp2_with fail
            rw [HV.out] at HR HL
            exact ⟨⟨j + 1, m / 2, by omega, HL.out, by go_num, by congr 1, HR.out, trivial⟩, by simp [intOf]; omega⟩
          · have HV : Hid (refStep m (T[k].toNat / 2 ^ j) = m / 2 ^^^ 3988292384) := if_pos h01
            have hbit : ((bits BinOp.xor IntKind.i64 (m : Int) ((T[k].toNat : Int) / 2 ^ j)).tmod 2 == 1) = true := by
              rw [SH.out, HX.out, Int.tmod_eq_emod_of_nonneg (by omega), beq_iff_eq]; omega
            have HP2 : Hid (bits BinOp.xor IntKind.i64 ((m : Int) / 2) 3988292384 = ((m / 2 ^^^ 3988292384 : Nat) : Int)) := by
              show _ = _
              rw [show (m : Int) / 2 = ((m / 2 : Nat) : Int) by omega]
              exact HP.out
            clear hst
            go_wp2_with fail
            rw [HV.out] at HR HL
            exact ⟨⟨j + 1, m / 2 ^^^ 3988292384, by omega, HL.out, by go_num, congrArg (Value.int .i64) HP2.out, HR.out, trivial⟩, by simp [intOf]; omega⟩
        · have ej : j = 8 := by omega
          subst ej
          have HT : Hid (m = crcSteps 8 (n ^^^ T[k].toNat)) := by
            show _ = _
            rw [← hst, Nat.div_eq_of_lt (by omega), Nat.xor_zero]
          clear hst
          go_wp2_with fail
          go_roundw
          case rel => exact ⟨k + 1, m, by omega, hm, by go_num, rfl, by rw [HT.out]; exact HN.out, trivial⟩
          case measure => simp [intOf]; omega
    · have HX : Hid (bits BinOp.xor IntKind.i64 (n : Int) 4294967295 = ((crc T.data.toList : Nat) : Int)) := by
        show _ = _
        have e : T.data.toList.drop k = [] := List.drop_eq_nil_of_le (by simp; omega)
        rw [e] at hcr
        have := i64_xor n 4294967295 hn (by decide)
        rw [show ((4294967295 : Nat) : Int) = 4294967295 from rfl] at this
        rw [this, Nat.xor_comm]
        unfold crc
        rw [← hcr]; rfl
      clear hcr
      go_wp2
      go_ret
      rw [HX.out]
      exact ⟨rfl, rfl⟩
end Go.Proofs.YtebdepbnhemnpaaDoor
