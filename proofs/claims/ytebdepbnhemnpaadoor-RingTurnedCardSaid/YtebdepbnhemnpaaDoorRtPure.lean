/-
  Which records are left where one byte of a record is turned: plain facts on lists; no program. Conditions: as named.
-/
import Derived.Test.YtebdepbnhemnpaaDoorRingInj
import Derived.Test.YtebdepbnhemnpaaDoorRcStep
namespace Go.Proofs.YtebdepbnhemnpaaDoor
open Go.RowKit

theorem sr_slot {s : CSt} {i : Nat} (hi : i < 9) (h : (sr s i).seq ≠ 0) : decB (sl s i) = true ∧ ((sr s i).seq - 1) % 9 = i ∧ sr s i = decR (sl s i) := by
  rw [sr_eq hi] at h ⊢
  split at h
  · rename_i hc
    rw [if_pos hc]
    exact ⟨hc.1, hc.2, rfl⟩
  · exact absurd rfl h

/-- One slot holds nothing any more, the others are as they were. -/
structure Turned (s s' : CSt) (D : List Rec) (m : Nat) : Prop where
  inv : Inv s D
  m8 : m < 8
  lt : m < D.length
  no : sr s' ((D.length - m - 1) % 9) = .none
  same : ∀ i, i < 9 → i ≠ (D.length - m - 1) % 9 → sr s' i = sr s i

theorem Turned.get {s s' : CSt} {D : List Rec} {m : Nat} (h : Turned s s' D m) (j : Nat) (hj : j < D.length) (h8 : D.length ≤ j + 8) (hne : j ≠ D.length - m - 1) : sr s' (j % 9) = D[j] := by
  have hm := h.m8
  have hl := h.lt
  rw [h.same _ (Nat.mod_lt _ (by decide)) (by
    rcases Nat.lt_or_ge j (D.length - m - 1) with h1 | h1
    · exact mod9_ne h1 (by omega)
    · exact Ne.symm (mod9_ne (by omega) (by omega)))]
  exact h.inv.i1 j hj h8
theorem Turned.le {s s' : CSt} {D : List Rec} {m : Nat} (h : Turned s s' D m) (i : Nat) (hi : i < 9) : (sr s' i).seq ≤ D.length := by
  by_cases e : i = (D.length - m - 1) % 9
  · rw [e, h.no]; exact Nat.zero_le _
  · rw [h.same i hi e]; exact h.inv.le i hi

theorem Turned.chain {s s' : CSt} {D : List Rec} {m : Nat} (h : Turned s s' D m) (k : Nat) (hk : k ≤ m) :
    chain (helds (s'.bytes.take 153) 9) 8 D.length = (D.drop (D.length - k)).reverse ++ chain (helds (s'.bytes.take 153) 9) (8 - k) (D.length - k) := by
  induction k with
  | zero => simp
  | succ k ih =>
    have hm := h.m8
    have hl := h.lt
    have hg : (helds (s'.bytes.take 153) 9).getD ((D.length - k - 1) % 9) .none = D[D.length - k - 1] := by
      rw [helds_get s' _ (Nat.mod_lt _ (by decide)), h.get (D.length - k - 1) (by omega) (by omega) (by omega)]
    have hst := chain_step (helds (s'.bytes.take 153) 9) (8 - (k + 1)) (D.length - k) (by omega) (by rw [hg, h.inv.seq]; omega)
    rw [ih (by omega), show 8 - k = 8 - (k + 1) + 1 by omega, hst, hg]
    have e1 : D.drop (D.length - (k + 1)) = D[D.length - k - 1] :: D.drop (D.length - k) := by
      rw [show D.length - (k + 1) = D.length - k - 1 by omega, ← List.getElem_cons_drop (by omega)]
      congr 2
      omega
    rw [e1, List.reverse_cons, List.append_assoc]
    congr 1

/-- Those behind it are left. -/
theorem Turned.opens {s s' : CSt} {D : List Rec} {m : Nat} (h : Turned s s' D m) (h0 : 0 < m) : openL s'.bytes = D.drop (D.length - m) := by
  have hm8 := h.m8
  have hl := h.lt
  have hmax : maxSeq (helds (s'.bytes.take 153) 9) = D.length := by
    apply maxSeq_eq
    · intro r hr
      obtain ⟨i, hi, rfl⟩ := mem_helds hr
      exact h.le i hi
    · right
      refine ⟨_, helds_mem s' ((D.length - 1) % 9) (Nat.mod_lt _ (by decide)), ?_⟩
      rw [h.get (D.length - 1) (by omega) (by omega) (by omega), h.inv.seq]
      omega
  unfold openL newestL
  rw [hmax, h.chain m (Nat.le_refl _), chain_stop, List.append_nil, List.reverse_reverse]
  intro hc
  have := hc.2
  rw [helds_get s' _ (Nat.mod_lt _ (by decide)), h.no] at this
  have e : (0 : Nat) = D.length - m := this
  omega

/-- It was the last one: the one ahead of it is the last. -/
theorem Turned.last {s s' : CSt} {D : List Rec} (h : Turned s s' D 0) : (D.length = 1 → openL s'.bytes = []) ∧ (1 < D.length → 0 < (openL s'.bytes).length ∧ (lastR (openL s'.bytes)).seq = D.length - 1) := by
  have hle : ∀ r ∈ helds (s'.bytes.take 153) 9, r.seq ≤ D.length - 1 := by
    intro r hr
    obtain ⟨i, hi, rfl⟩ := mem_helds hr
    have h1 := h.le i hi
    by_cases e : i = (D.length - 0 - 1) % 9
    · rw [e, h.no]; exact Nat.zero_le _
    · have hs := h.same i hi e
      rw [hs] at h1 ⊢
      by_cases h0 : (sr s i).seq = 0
      · omega
      · have h2 := (sr_slot hi h0).2.1
        have hne : (sr s i).seq ≠ D.length := fun e2 => by rw [e2] at h2; exact e (by rw [← h2]; rfl)
        omega
  constructor
  · intro h1
    have hmax : maxSeq (helds (s'.bytes.take 153) 9) = 0 := maxSeq_eq (fun r hr => by have := hle r hr; omega) (Or.inl rfl)
    unfold openL newestL
    rw [hmax, chain_stop _ _ _ (fun h => absurd h.1 (by omega))]
    rfl
  · intro h1
    have hg : (helds (s'.bytes.take 153) 9).getD ((D.length - 1 - 1) % 9) .none = D[D.length - 2] := by
      rw [helds_get s' _ (Nat.mod_lt _ (by decide)), show D.length - 1 - 1 = D.length - 2 by omega, h.get (D.length - 2) (by omega) (by omega) (by omega)]
    have hmax : maxSeq (helds (s'.bytes.take 153) 9) = D.length - 1 := by
      apply maxSeq_eq hle
      right
      refine ⟨_, helds_mem s' ((D.length - 2) % 9) (Nat.mod_lt _ (by decide)), ?_⟩
      rw [h.get (D.length - 2) (by omega) (by omega) (by omega), h.inv.seq]
      omega
    have hst := chain_step (helds (s'.bytes.take 153) 9) 7 (D.length - 1) (by omega) (by rw [hg, h.inv.seq]; omega)
    unfold openL newestL
    rw [hmax, hst, hg]
    constructor
    · simp
    · unfold lastR
      rw [List.reverse_cons, List.getLast?_append]
      show (D[D.length - 2]).seq = _
      rw [h.inv.seq]
      omega

theorem slotB_set (l : List UInt8) (k i : Nat) (z : UInt8) : slotB (l.set k z) i = if i * 17 ≤ k then (slotB l i).set (k - i * 17) z else slotB l i := by
  unfold slotB
  rw [List.drop_set]
  by_cases h : k < i * 17
  · rw [if_pos h, if_neg (by omega)]
  · rw [if_neg h, if_pos (by omega), List.take_set]

/-- One byte of a record's that is turned. -/
theorem turned_of {s : CSt} {D : List Rec} (h : Inv s D) (m p : Nat) (z : UInt8) (hm : m < 8) (hl : m < D.length) (hp : p < 17) (hne : (s.bytes.take 153)[(D.length - m - 1) % 9 * 17 + p]? ≠ some z) :
    Turned s (CSt.ofText ((s.bytes.take 153).set ((D.length - m - 1) % 9 * 17 + p) z)) D m := by
  have hlen : (s.bytes.take 153).length = 153 := by rw [List.length_take, h.big.len]; rfl
  have hb : (CSt.ofText ((s.bytes.take 153).set ((D.length - m - 1) % 9 * 17 + p) z)).bytes.take 153 = (s.bytes.take 153).set ((D.length - m - 1) % 9 * 17 + p) z := by
    show ((_ : List UInt8) ++ _).take 153 = _
    rw [List.take_append_of_le_length (by simp [hlen]), List.take_of_length_le (by simp [hlen])]
  have hq : (D.length - m - 1) % 9 < 9 := Nat.mod_lt _ (by decide)
  have hD := h.i1 (D.length - m - 1) (by omega) (by omega)
  have hseq := h.seq (D.length - m - 1) (by omega)
  generalize hqe : (D.length - m - 1) % 9 = q at *
  have hsl : slotB (s.bytes.take 153) q = sl s q := sl_slotB q hq
  refine ⟨h, hm, hl, ?_, ?_⟩
  · rw [hqe]
    have hsB : slotB ((CSt.ofText ((s.bytes.take 153).set (q * 17 + p) z)).bytes.take 153) q = (sl s q).set p z := by
      rw [hb, slotB_set, if_pos (by omega), show q * 17 + p - q * 17 = p by omega, hsl]
    unfold sr slotR
    rw [hsB]
    obtain ⟨hd, -, -⟩ := sr_slot (s := s) hq (by rw [hD, hseq]; omega)
    have he := (dec_seq hd).2.2.2
    have ht := enc_turn (dec0 (sl s q)) p z hp (by
      rw [he, sl_get _ _ hp]
      rw [List.getElem?_take_of_lt (by omega)] at hne
      exact hne)
    rw [he] at ht
    rw [if_neg (by rw [ht]; simp)]
  · intro i hi hn
    rw [hqe] at hn
    unfold sr slotR
    have : slotB ((CSt.ofText ((s.bytes.take 153).set (q * 17 + p) z)).bytes.take 153) i = slotB (s.bytes.take 153) i := by
      rw [hb, slotB_set]
      split
      · unfold slotB
        rw [List.set_eq_of_length_le]
        rw [List.length_take]
        omega
      · rfl
    rw [this]
end Go.Proofs.YtebdepbnhemnpaaDoor
