/-
  Numbers of a text's words: pure facts, and conf.number by a contract ('numOf'). Condition: the word is not empty, and has at most a million bytes.
-/
import Derived.Test.YtcnfkdecghdphabGreatDoorCfName
import Derived.Test.YtcnfkdecghdphabGreatDoorCfRead
namespace Go.Proofs.YtcnfkdecghdphabGreatDoor
open Go.RowKit Go.Extern.Stop Go.Stop Go.Extern

theorem dig_bnd {b : UInt8} (h : isDig b = true) : 48 ≤ b.toNat ∧ b.toNat ≤ 57 := by
  unfold isDig at h
  simp only [Bool.and_eq_true, decide_eq_true_eq] at h
  exact h
theorem valD_step {w : Bs} {k : Nat} (h : k < w.length) : valD (w.take (k + 1)) = valD (w.take k) * 10 + ((w.getD k 0).toNat - 48) := by
  rw [List.take_add_one, List.getElem?_eq_getElem h]
  simp only [Option.toList_some]
  rw [valD_snoc, List.getD_eq_getElem?_getD, List.getElem?_eq_getElem h]
  rfl
theorem valD_take {w : Bs} : ∀ k, k ≤ w.length → (∀ j, j < k → isDig (w.getD j 0) = true) → valD (w.take k) < 10 ^ k
  | 0, _, _ => by simp [valD]
  | k + 1, h, hd => by
    rw [valD_step (by omega)]
    have h1 := dig_bnd (hd k (by omega))
    have h2 := valD_take k (by omega) (fun j hj => hd j (by omega))
    rw [Nat.pow_succ]
    omega
theorem numOf_long {w : Bs} (h : 13 < w.length) : numOf w = none := by unfold numOf; rw [if_pos (Or.inr (Or.inl h))]
theorem numOf_zero {w : Bs} (h : 1 < w.length) (h0 : w.getD 0 0 = 48) : numOf w = none := by
  have : w.head? = some 48 := by cases w with
    | nil => simp at h
    | cons a t => simp at h0; simp [h0]
  unfold numOf; rw [if_pos (Or.inr (Or.inr (Or.inl ⟨h, this⟩)))]
theorem numOf_bad {w : Bs} {k : Nat} (hk : k < w.length) (h : isDig (w.getD k 0) = false) : numOf w = none := by
  have : w.all isDig = false := by
    rw [List.all_eq_false]
    refine ⟨w[k], List.getElem_mem hk, ?_⟩
    rw [List.getD_eq_getElem?_getD, List.getElem?_eq_getElem hk] at h
    simpa using h
  unfold numOf; rw [if_pos (Or.inr (Or.inr (Or.inr this)))]
theorem numOf_yes {w : Bs} (h1 : 0 < w.length) (h2 : w.length ≤ 13) (h3 : ¬ (1 < w.length ∧ w.getD 0 0 = 48)) (h : ∀ j, j < w.length → isDig (w.getD j 0) = true) : numOf w = some (valD w) := by
  have ha : w.all isDig = true := by
    rw [List.all_eq_true]
    intro b hb
    obtain ⟨j, hj, rfl⟩ := List.getElem_of_mem hb
    have := h j hj
    rw [List.getD_eq_getElem?_getD, List.getElem?_eq_getElem hj] at this
    exact this
  unfold numOf
  rw [if_neg]
  rintro (h' | h' | ⟨h', h''⟩ | h')
  · omega
  · omega
  · exact h3 ⟨h', by cases w with
      | nil => simp at h'
      | cons a t => simp at h''; simp [h'']⟩
  · rw [ha] at h'; cases h'
theorem blen (s : ByteArray) : (bl s).length = s.size := by unfold bl; rw [Array.length_toList]; rfl
set_option maxHeartbeats 2000000 in
set_option maxRecDepth 100000 in
theorem number_at (s : ByteArray) (w : World) (h1 : 1 ≤ s.size) (hs : s.size ≤ 1000000) :
    Calls Tryz.prog 125 #[.string s] w fun e w' => e = .returned (.tuple #[.int .i64 (((numOf (bl s)).getD 0 : Nat) : Int), .bool (numOf (bl s)).isSome]) ∧ Below w.heap.size w w' := by
  by_cases h13 : 13 < s.size
  · have HN : Hid (numOf (bl s) = none) := numOf_long (by rw [blen]; exact h13)
    have g1 : 13 < (s.size : Int) := by omega
    go_enter Tryz.func125, Tryz.ntmps125
    go_wp2
    go_ret2
    rw [HN.out]
    exact ⟨rfl, Below.refl _ _⟩
  have g1 : ¬ 13 < (s.size : Int) := by omega
  have k0 : (0 : Int) < (s.size : Int) := by omega
  have hb0 : ∀ h : 0 < s.size, s[0]'h = (bl s)[0]?.getD 0 := fun h => by rw [byte_at s 0 h, List.getD_eq_getElem?_getD]; rfl
  have hgd : (bl s).getD 0 0 = (bl s)[0]?.getD 0 := List.getD_eq_getElem?_getD
  by_cases hz : 1 < s.size ∧ (bl s)[0]?.getD 0 = 48
  · have HN : Hid (numOf (bl s) = none) := numOf_zero (by rw [blen]; exact hz.1) (by rw [hgd]; exact hz.2)
    have g2 : 1 < (s.size : Int) := by omega
    have g3 : (((bl s)[0]?.getD 0).toNat : Int) = 48 := by rw [hz.2]; rfl
    clear hz hgd
    go_enter Tryz.func125, Tryz.ntmps125
    go_wp2
    go_ret2
    rw [HN.out]
    exact ⟨rfl, Below.refl _ _⟩
  have HZ : Hid (1 ≤ s.size ∧ s.size ≤ 13) := ⟨h1, by omega⟩
  have HE : Hid (∀ k, k < s.size → isDig ((bl s).getD k 0) = false → numOf (bl s) = none) := fun k h2 h3 => numOf_bad (by rw [blen]; exact h2) h3
  have HY : Hid ((∀ j, j < s.size → isDig ((bl s).getD j 0) = true) → numOf (bl s) = some (valD (bl s))) := fun h => numOf_yes (by rw [blen]; exact h1) (by rw [blen]; omega) (by rw [blen, hgd]; exact hz) (by rw [blen]; exact h)
  have HV : Hid (∀ k, k < s.size → (∀ j, j < k → isDig ((bl s).getD j 0) = true) → valD ((bl s).take k) < 1000000000000 ∧ valD ((bl s).take (k + 1)) = valD ((bl s).take k) * 10 + (((bl s).getD k 0).toNat - 48)) := fun k hk hd => ⟨Nat.lt_of_lt_of_le (valD_take k (by rw [blen]; omega) hd) (Nat.pow_le_pow_right (by decide) (show k ≤ 12 by omega)), valD_step (by rw [blen]; exact hk)⟩
  have hq : ((((bl s)[0]?.getD 0).toNat : Int) = 48 ∧ ¬ 1 < (s.size : Int)) ∨ ¬ (((bl s)[0]?.getD 0).toNat : Int) = 48 := by
    by_cases q : (((bl s)[0]?.getD 0).toNat : Int) = 48
    · refine Or.inl ⟨q, fun h => hz ⟨by omega, ?_⟩⟩
      apply UInt8.toNat_inj.1
      show _ = 48
      omega
    · exact Or.inr q
  obtain ⟨cap, W, hcv, hbW, hcell⟩ := bytes_madeC w s
  have HCl : Hid (∀ j, j < s.size → W.cell? ⟨w.heap.size, j, .none⟩ = some (.int .u8 (((bl s).getD j 0).toNat : Int))) := hcell
  have HbW : Hid (Below w.heap.size w W) := hbW
  clear hcell hbW hz hgd h1 hs h13
  rcases hq with ⟨q1, q2⟩ | q1
  all_goals
    go_enter Tryz.func125, Tryz.ntmps125
    go_wp2_with fail
    go_loopw [4, 6, 23] (fun m _ i wr => ∃ k : Nat, k ≤ s.size ∧ i = .int .i64 k ∧ m = .int .i64 (valD ((bl s).take k) : Nat) ∧ wr = W ∧ ∀ j, j < k → isDig ((bl s).getD j 0) = true) (fun _ _ i _ => s.size - (intOf i).toNat)
    case atStart => exact ⟨0, Nat.zero_le _, rfl, rfl, rfl, fun j hj => absurd hj (Nat.not_lt_zero _)⟩
    case round =>
      obtain ⟨k, hk, rfl, rfl, rfl, hall⟩ := hrel
      by_cases hlt : k < s.size
      · have hc := HCl.out k hlt
        obtain ⟨hv1, hv2⟩ := HV.out k hlt hall
        have HB : Hid (∀ j, j < k → isDig ((bl s).getD j 0) = true) := hall
        have HV2 : Hid (valD ((bl s).take (k + 1)) = valD ((bl s).take k) * 10 + (((bl s).getD k 0).toNat - 48)) := hv2
        have HY2 : Hid (isDig ((bl s).getD k 0) = false → numOf (bl s) = none) := HE.out k hlt
        have k1 : (k : Int) < (s.size : Int) := by omega
        have k12 : k < 13 := by have := HZ.out.2; omega
        clear hall hcv hv2
        generalize hcc : (bl s).getD k 0 = c at hc HV2 HY2
        have HC : Hid ((bl s).getD k 0 = c) := hcc
        clear hcc
        generalize valD ((bl s).take k) = m at hv1 HV2 ⊢
        by_cases hd : isDig c = true
        · have hdc := isDigit_at c
          rw [hd] at hdc
          have hb := dig_bnd hd
          go_wp2_with fail
          refine (hdc _).mono ?_
          rintro e w' ⟨rfl, rfl⟩
          go_wp2
          go_roundw
          case rel =>
            refine ⟨k + 1, by omega, by go_num, by rw [HV2.out]; go_num, by first | trivial | rfl, fun j hj => ?_⟩
            by_cases e : j = k
            · rw [e, HC.out]; exact hd
            · exact HB.out j (by omega)
          case measure => simp [intOf]; omega
        · simp only [Bool.not_eq_true] at hd
          have hdc := isDigit_at c
          rw [hd] at hdc
          go_wp2_with fail
          refine (hdc _).mono ?_
          rintro e w' ⟨rfl, rfl⟩
          go_wp2
          go_ret2
          rw [HY2.out hd]
          exact ⟨rfl, HbW.out⟩
      · have k1 : ¬ (k : Int) < (s.size : Int) := by omega
        obtain rfl : k = s.size := by omega
        have HR : Hid (numOf (bl s) = some (valD ((bl s).take s.size))) := by
          show _ = _
          rw [HY.out hall, ← blen, List.take_length]
        clear hall
        go_wp2
        go_ret2
        rw [HR.out]
        exact ⟨rfl, HbW.out⟩
end Go.Proofs.YtcnfkdecghdphabGreatDoor
