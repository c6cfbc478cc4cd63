/-
  The sum tells one byte that is turned: plain numbers; no program. Condition: none but those named.
-/
import Derived.Test.YtebdepbnhemnpaaDoorRingInv
namespace Go.Proofs.YtebdepbnhemnpaaDoor
open Go.RowKit

theorem step_top (s : Nat) (h : s < 4294967296) : (crcStep s).testBit 31 = decide (s % 2 = 1) := by
  unfold crcStep
  rw [Nat.testBit_xor]
  have e1 : (s / 2).testBit 31 = false := Nat.testBit_lt_two_pow (by omega)
  rw [e1, Bool.false_xor]
  rcases Nat.mod_two_eq_zero_or_one s with h0 | h0
  · rw [h0]; decide
  · rw [h0]; decide
theorem xor_right_inj {a b c : Nat} (h : a ^^^ c = b ^^^ c) : a = b := by
  have := congrArg (· ^^^ c) h
  simpa [Nat.xor_assoc, Nat.xor_self] using this
theorem xor_left_inj {a b c : Nat} (h : c ^^^ a = c ^^^ b) : a = b := by
  rw [Nat.xor_comm c a, Nat.xor_comm c b] at h
  exact xor_right_inj h
theorem step_inj {a b : Nat} (ha : a < 4294967296) (hb : b < 4294967296) (h : crcStep a = crcStep b) : a = b := by
  have t := congrArg (fun z => z.testBit 31) h
  simp only [step_top a ha, step_top b hb] at t
  have hm : a % 2 = b % 2 := by
    have := decide_eq_decide.1 t
    omega
  unfold crcStep at h
  rw [hm] at h
  have := xor_right_inj h
  omega
theorem steps_inj (k : Nat) : ∀ {a b : Nat}, a < 4294967296 → b < 4294967296 → crcSteps k a = crcSteps k b → a = b := by
  induction k with
  | zero => intro a b _ _ h; exact h
  | succ k ih => intro a b ha hb h; exact step_inj ha hb (ih (crcStep_lt ha) (crcStep_lt hb) h)
theorem from_inj (l : List UInt8) : ∀ {a b : Nat}, a < 4294967296 → b < 4294967296 → crcFrom a l = crcFrom b l → a = b := by
  induction l with
  | nil => intro a b _ _ h; exact h
  | cons v r ih =>
    intro a b ha hb h
    have e := ih (crcSteps_lt 8 (crcByte_lt ha v)) (crcSteps_lt 8 (crcByte_lt hb v)) h
    exact xor_right_inj (steps_inj 8 (crcByte_lt ha v) (crcByte_lt hb v) e)
theorem from_append (s : Nat) (p q : List UInt8) : crcFrom s (p ++ q) = crcFrom (crcFrom s p) q := by simp [crcFrom, List.foldl_append]
/-- One byte that is another one: another sum. -/
theorem crc_turn (p q : List UInt8) (x y : UInt8) (h : crc (p ++ x :: q) = crc (p ++ y :: q)) : x = y := by
  unfold crc at h
  have h1 := xor_left_inj h
  rw [from_append, from_append] at h1
  have hc := crcFrom_lt p (s := 4294967295) (by decide)
  have e := from_inj q (crcSteps_lt 8 (crcByte_lt hc x)) (crcSteps_lt 8 (crcByte_lt hc y)) h1
  have e2 := steps_inj 8 (crcByte_lt hc x) (crcByte_lt hc y) e
  exact UInt8.toNat_inj.1 (xor_left_inj e2)

theorem enc_take (r : Rec) : (enc r).take 12 = enc12 r ∧ (enc r).drop 12 = be 4 (crc (enc12 r)) ++ [165] := by
  have e : enc r = enc12 r ++ (be 4 (crc (enc12 r)) ++ [165]) := by unfold enc enc16; rw [List.append_assoc]
  have l := enc12_length r
  constructor
  · rw [e, List.take_append, l, List.take_of_length_le (Nat.le_of_eq l)]; simp
  · rw [e, List.drop_append, l, List.drop_eq_nil_of_le (Nat.le_of_eq l)]; simp
theorem enc_of12 {r s : Rec} (h : enc12 r = enc12 s) : enc r = enc s := by unfold enc enc16; rw [h]
theorem crc_of_tail {r s : Rec} (h : (enc r).drop 12 = (enc s).drop 12) : crc (enc12 r) = crc (enc12 s) := by
  rw [(enc_take r).2, (enc_take s).2] at h
  have e := List.append_inj_left' h rfl
  have := congrArg num e
  rwa [num_be 4 _ (crc_lt _), num_be 4 _ (crc_lt _)] at this
/-- A record's bytes with one of them turned are no record's. -/
theorem enc_turn (r : Rec) (k : Nat) (z : UInt8) (hk : k < 17) (hz : (enc r)[k]? ≠ some z) : decB ((enc r).set k z) = false := by
  cases hd : decB ((enc r).set k z) with
  | false => rfl
  | true =>
    exfalso
    have e := (dec_seq hd).2.2.2
    generalize dec0 ((enc r).set k z) = s at e
    have hl := enc_length r
    have hget : (enc s)[k]? = some z := by rw [e, List.getElem?_set, if_pos rfl, if_pos (by omega)]
    by_cases h16 : k = 16
    · subst h16
      rw [enc_last] at hget hz
      exact hz hget
    by_cases h12 : k < 12
    · have ht : (enc s).drop 12 = (enc r).drop 12 := by rw [e, List.drop_set, if_pos h12]
      have hc := crc_of_tail ht
      have h1 : enc12 s = (enc12 r).set k z := by rw [← (enc_take s).1, e, List.take_set, (enc_take r).1]
      have hlr := enc12_length r
      have h2 : enc12 r = (enc12 r).take k ++ (enc12 r)[k]'(by omega) :: (enc12 r).drop (k + 1) := by
        rw [List.getElem_cons_drop, List.take_append_drop]
      have h3 : (enc12 r).set k z = (enc12 r).take k ++ z :: (enc12 r).drop (k + 1) := by rw [List.set_eq_take_append_cons_drop, if_pos (by omega)]
      rw [h1, h3] at hc
      have hx : z = (enc12 r)[k]'(by omega) := crc_turn _ _ _ _ (hc.trans (congrArg crc h2))
      apply hz
      rw [← List.getElem?_take_of_lt (l := enc r) h12, (enc_take r).1, List.getElem?_eq_getElem (by omega), hx]
    · have ht : (enc s).take 12 = (enc r).take 12 := by rw [e, List.take_set_of_le (by omega)]
      rw [(enc_take s).1, (enc_take r).1] at ht
      rw [enc_of12 ht] at hget
      exact hz hget
end Go.Proofs.YtebdepbnhemnpaaDoor
