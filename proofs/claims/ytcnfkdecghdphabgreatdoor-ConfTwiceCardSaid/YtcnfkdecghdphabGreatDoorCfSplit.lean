/-
  The library's split by one byte is 'cutBy': pure. No condition.
-/
import Derived.Test.YtcnfkdecghdphabGreatDoorCfText
import Derived.Lib.Split
namespace Go.Proofs.YtcnfkdecghdphabGreatDoor

theorem occ_one (s : List UInt8) (c : UInt8) (i : Nat) : Lib.occAt s [c] i = true ↔ s[i]? = some c := by
  unfold Lib.occAt
  constructor
  · intro h
    cases hd : s.drop i with
    | nil => rw [hd] at h; simp [List.isPrefixOf] at h
    | cons x t =>
      rw [hd] at h
      simp [List.isPrefixOf] at h
      have e : s[i]? = (s.drop i)[0]? := by simp
      rw [e, hd, ← h]
      rfl
  · intro h
    have e : s.drop i = c :: s.drop (i + 1) := by
      obtain ⟨hi, hc⟩ := List.getElem?_eq_some_iff.1 h
      rw [List.drop_eq_getElem_cons hi, hc]
    rw [e]
    simp [List.isPrefixOf]
theorem split_one (c : UInt8) : ∀ (n : Nat) (s : List UInt8), s.length ≤ n → Lib.split s [c] = cutBy c s := by
  intro n
  induction n with
  | zero =>
    intro s hs
    obtain rfl : s = [] := List.eq_nil_of_length_eq_zero (by omega)
    have : Lib.index [] [c] = -1 := by rcases Lib.index_spec [] [c] with ⟨h, -⟩ | ⟨i, -, -, h, -⟩; exact h; exact absurd ((occ_one _ _ _).1 h) (by simp)
    unfold Lib.split
    rw [Lib.count_miss this]
    rfl
  | succ n ih =>
    intro s hs
    rcases Lib.index_spec s [c] with ⟨h, hno⟩ | ⟨i, h, hi, ho, hno⟩
    · have hc : c ∉ s := fun hm => by
        obtain ⟨j, hj, e⟩ := List.getElem_of_mem hm
        have := hno j (by omega)
        have h2 := (occ_one s c j).2 (by rw [List.getElem?_eq_getElem hj, e])
        rw [this] at h2
        cases h2
      unfold Lib.split
      rw [Lib.count_miss h, cut_nil c s hc]
      rfl
    · have hic := (occ_one s c i).1 ho
      obtain ⟨hil, hcv⟩ := List.getElem?_eq_some_iff.1 hic
      have e1 : s = s.take i ++ c :: s.drop (i + 1) := by
        have : s.drop i = c :: s.drop (i + 1) := by rw [List.drop_eq_getElem_cons hil, hcv]
        rw [← this, List.take_append_drop]
      have hc : c ∉ s.take i := fun hm => by
        obtain ⟨j, hj, e⟩ := List.getElem_of_mem hm
        have hji : j < i := by rw [List.length_take] at hj; omega
        have h2 := (occ_one s c j).2 (by rw [List.getElem_take] at e; rw [List.getElem?_eq_getElem (by omega), e])
        have := hno j hji
        rw [this] at h2
        cases h2
      have e2 : Lib.split s [c] = s.take i :: Lib.split (s.drop (i + 1)) [c] := by
        unfold Lib.split
        rw [Lib.count_hit (by simp) h, Nat.add_comm 1, Lib.splitK]
        have hm : ¬ (Lib.index s [c] == -1) = true := fun e => by have := beq_iff_eq.1 e; omega
        have et : (Lib.index s [c]).toNat = i := by omega
        rw [if_neg hm, et]
        rfl
      rw [e2, ih (s.drop (i + 1)) (by rw [List.length_drop]; omega)]
      have e3 : cutBy c (c :: s.drop (i + 1)) = [] :: cutBy c (s.drop (i + 1)) := by rw [cutBy, if_pos rfl]
      have e4 := cut_pre c _ _ _ e3 (s.take i) hc
      rw [← e1] at e4
      rw [e4]
      simp
/-- What strings.Split lays, at one byte. -/
theorem splitB_one (c : UInt8) (s sep : ByteArray) (hs : sep.data.toList = [c]) : (Lib.splitB sep 0 (Lib.countB s sep) s).map (·.data.toList) = cutBy c s.data.toList := by
  rw [Lib.splitB_data, hs]
  have e : Lib.countB s sep = Lib.count s.data.toList [c] := by unfold Lib.countB; rw [hs]
  rw [e]
  exact split_one c _ _ (Nat.le_refl _)
end Go.Proofs.YtcnfkdecghdphabGreatDoor
