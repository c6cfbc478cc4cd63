/-
  Which records the slots hold: plain facts on lists; no program. Conditions: as named.
-/
import Derived.Test.YtebdepbnhemnpaaDoorRingPure
namespace Go.Proofs.YtebdepbnhemnpaaDoor
open Go.RowKit

structure Rec.Fits (r : Rec) : Prop where
  lo : 1 ≤ r.seq
  seq : r.seq < 4294967296
  ent : r.ent < 256
  kind : r.kind < 256
  tick : r.tick < 281474976710656

theorem dec0_enc {r : Rec} (h : r.Fits) : dec0 (enc r) = r := by
  have e : enc r = be 4 r.seq ++ (be 1 r.ent ++ (be 1 r.kind ++ (be 6 r.tick ++ (be 4 (crc (enc12 r)) ++ [165])))) := by
    unfold enc enc16 enc12; simp
  have d4 : (enc r).drop 4 = be 1 r.ent ++ (be 1 r.kind ++ (be 6 r.tick ++ (be 4 (crc (enc12 r)) ++ [165]))) := by
    rw [e, List.drop_append, List.drop_eq_nil_of_le (by rw [be_length]; omega), be_length]; rfl
  have d5 : (enc r).drop 5 = be 1 r.kind ++ (be 6 r.tick ++ (be 4 (crc (enc12 r)) ++ [165])) := by
    rw [show 5 = 4 + 1 from rfl, ← List.drop_drop, d4, List.drop_append, List.drop_eq_nil_of_le (by rw [be_length]; omega), be_length]; rfl
  have d6 : (enc r).drop 6 = be 6 r.tick ++ (be 4 (crc (enc12 r)) ++ [165]) := by
    rw [show 6 = 5 + 1 from rfl, ← List.drop_drop, d5, List.drop_append, List.drop_eq_nil_of_le (by rw [be_length]; omega), be_length]; rfl
  have tk : ∀ (n v : Nat) (l : List UInt8), (be n v ++ l).take n = be n v := fun n v l => by
    rw [List.take_append, be_length, Nat.sub_self, List.take_zero, List.append_nil, List.take_of_length_le (by rw [be_length]; exact Nat.le_refl _)]
  unfold dec0
  rw [d4, d5, d6, tk, tk, tk]
  rw [e, tk]
  have h1 := h.seq
  have h2 := h.ent
  have h3 := h.kind
  have h4 := h.tick
  rw [num_be 4 _ (by omega), num_be 1 _ (by omega), num_be 1 _ (by omega), num_be 6 _ (by omega)]
theorem dec_enc {r : Rec} (h : r.Fits) : decB (enc r) = true ∧ decR (enc r) = r := by
  have e := dec0_enc h
  have : dec (enc r) = some r := by
    unfold dec
    rw [e, if_neg (by have := h.lo; simp; omega)]
  exact ⟨by unfold decB; rw [this]; rfl, by unfold decR; rw [this]; rfl⟩
theorem enc_last (r : Rec) : (enc r)[16]? = some 165 := by
  unfold enc
  rw [List.getElem?_append_right (by rw [enc16_length]; omega), enc16_length]; rfl
theorem dec_zero {l : List UInt8} (h : l[16]? = some 0) : decB l = false := by
  cases hd : decB l with
  | false => rfl
  | true =>
    have e := (dec_seq hd).2.2.2
    rw [← e, enc_last] at h
    cases h

/-- The record that a slot holds. -/
def sr (s : CSt) (i : Nat) : Rec := slotR (s.bytes.take 153) i
theorem sr_eq {s : CSt} {i : Nat} (hi : i < 9) : sr s i = if decB (sl s i) = true ∧ ((decR (sl s i)).seq - 1) % 9 = i then decR (sl s i) else .none := by
  unfold sr slotR
  rw [sl_slotB i hi]
theorem sr_same {s s' : CSt} {i : Nat} (hi : i < 9) (h : sl s' i = sl s i) : sr s' i = sr s i := by rw [sr_eq hi, sr_eq hi, h]
theorem sr_enc {s : CSt} {i : Nat} {r : Rec} (hi : i < 9) (h : sl s i = enc r) (hr : r.Fits) (hs : (r.seq - 1) % 9 = i) : sr s i = r := by
  obtain ⟨e1, e2⟩ := dec_enc hr
  rw [sr_eq hi, h, e2, if_pos ⟨e1, hs⟩]
theorem sr_zero {s : CSt} {i : Nat} (hi : i < 9) (h : (sl s i)[16]? = some 0) : sr s i = .none := by
  rw [sr_eq hi, dec_zero h, if_neg (by simp)]
theorem helds_get (s : CSt) (i : Nat) (hi : i < 9) : (helds (s.bytes.take 153) 9).getD i .none = sr s i := by
  rw [List.getD_eq_getElem?_getD, List.getElem?_eq_getElem (by rw [helds_length]; exact hi)]
  simp [helds, hi, sr]
theorem mem_helds {s : CSt} {r : Rec} (h : r ∈ helds (s.bytes.take 153) 9) : ∃ i, i < 9 ∧ r = sr s i := by
  simp only [helds, List.mem_map, List.mem_range] at h
  obtain ⟨i, hi, rfl⟩ := h
  exact ⟨i, hi, by rw [if_pos hi]; rfl⟩
theorem helds_mem (s : CSt) (i : Nat) (hi : i < 9) : sr s i ∈ helds (s.bytes.take 153) 9 := by
  simp only [helds, List.mem_map, List.mem_range]
  exact ⟨i, hi, by rw [if_pos hi]; rfl⟩

theorem maxFrom_ge (L : List Rec) : ∀ m, m ≤ L.foldl (fun m r => max m r.seq) m := by
  induction L with
  | nil => intro m; exact Nat.le_refl _
  | cons r t ih => intro m; exact Nat.le_trans (Nat.le_max_left _ _) (ih _)
theorem maxFrom_le (L : List Rec) (n : Nat) : ∀ m, m ≤ n → (∀ r ∈ L, r.seq ≤ n) → L.foldl (fun m r => max m r.seq) m ≤ n := by
  induction L with
  | nil => intro m h _; exact h
  | cons r t ih => intro m h h2; exact ih _ (Nat.max_le.2 ⟨h, h2 r (by simp)⟩) (fun x hx => h2 x (by simp [hx]))
theorem maxFrom_mem (L : List Rec) : ∀ m r, r ∈ L → r.seq ≤ L.foldl (fun m r => max m r.seq) m := by
  induction L with
  | nil => intro m r h; cases h
  | cons x t ih =>
    intro m r h
    rcases List.mem_cons.1 h with rfl | h
    · exact Nat.le_trans (Nat.le_max_right m r.seq) (maxFrom_ge t _)
    · exact ih _ r h
theorem maxSeq_eq {L : List Rec} {n : Nat} (h1 : ∀ r ∈ L, r.seq ≤ n) (h2 : n = 0 ∨ ∃ r ∈ L, r.seq = n) : maxSeq L = n := by
  have a := maxFrom_le L n 0 (Nat.zero_le _) h1
  have b : n ≤ maxSeq L := by
    rcases h2 with rfl | ⟨r, hr, rfl⟩
    · exact Nat.zero_le _
    · exact maxFrom_mem L 0 r hr
  exact Nat.le_antisymm a b

/-- The slots are as the records that were appended say. -/
structure Inv (s : CSt) (done : List Rec) : Prop where
  big : Big s
  seq : ∀ i (h : i < done.length), done[i].seq = i + 1
  i1 : ∀ j (h : j < done.length), done.length ≤ j + 8 → sr s (j % 9) = done[j]
  i2 : sr s (done.length % 9) = .none ∨ (9 ≤ done.length ∧ sr s (done.length % 9) = done.getD (done.length - 9) .none)
  i3 : ∀ i, done.length < i → i < 9 → sr s i = .none

theorem Inv.le {s : CSt} {done : List Rec} (h : Inv s done) (i : Nat) (hi : i < 9) : (sr s i).seq ≤ done.length := by
  by_cases h0 : done.length < i
  · rw [h.i3 i h0 hi]; exact Nat.zero_le _
  · by_cases e : i = done.length % 9
    · rw [e]
      rcases h.i2 with e2 | ⟨h9, e2⟩
      · rw [e2]; exact Nat.zero_le _
      · rw [e2, List.getD_eq_getElem?_getD, List.getElem?_eq_getElem (by omega)]
        show (done[done.length - 9]).seq ≤ _
        rw [h.seq]; omega
    · obtain ⟨j, hj, hj2, hj3⟩ : ∃ j, j < done.length ∧ done.length ≤ j + 8 ∧ j % 9 = i := by
        refine ⟨done.length - 1 - (done.length + 8 - i) % 9, ?_, ?_, ?_⟩ <;> omega
      have := h.i1 j hj hj2
      rw [hj3] at this
      rw [this, h.seq]
      omega

theorem Inv.chain {s : CSt} {done : List Rec} (h : Inv s done) : ∀ (m n : Nat), n ≤ done.length → done.length + m ≤ n + 8 → chain (helds (s.bytes.take 153) 9) m n = ((done.take n).drop (n - m)).reverse := by
  intro m
  induction m with
  | zero =>
    intro n hn hm
    rw [Nat.sub_zero, List.drop_eq_nil_of_le (by rw [List.length_take]; omega)]
    rfl
  | succ m ih =>
    intro n hn hm
    cases n with
    | zero => rw [chain_stop _ _ _ (fun h => absurd h.1 (by omega))]; simp
    | succ n =>
      have hlt : n < done.length := by omega
      have hg : (helds (s.bytes.take 153) 9).getD (n % 9) .none = done[n] := by
        rw [helds_get s _ (Nat.mod_lt _ (by decide)), h.i1 n hlt (by omega)]
      have hst := chain_step (helds (s.bytes.take 153) 9) m (n + 1) (by omega) (by rw [Nat.add_sub_cancel, hg, h.seq n hlt])
      rw [Nat.add_sub_cancel, hg] at hst
      rw [hst, ih n (by omega) (by omega), List.take_succ_eq_append_getElem hlt, List.drop_append, List.reverse_append]
      have e1 : n + 1 - (m + 1) = n - m := by omega
      have e2 : n - m - (done.take n).length = 0 := by rw [List.length_take]; omega
      rw [e1, e2, List.drop_zero]
      rfl

theorem Inv.opens {s : CSt} {done : List Rec} (h : Inv s done) : openL s.bytes = done.drop (done.length - 8) := by
  have hm : maxSeq (helds (s.bytes.take 153) 9) = done.length := by
    apply maxSeq_eq
    · intro r hr
      obtain ⟨i, hi, rfl⟩ := mem_helds hr
      exact h.le i hi
    · cases hd : done.length with
      | zero => exact Or.inl rfl
      | succ n =>
        right
        refine ⟨_, helds_mem s (n % 9) (Nat.mod_lt _ (by decide)), ?_⟩
        rw [h.i1 n (by omega) (by omega), h.seq n (by omega)]
  unfold openL newestL
  rw [hm, h.chain 8 done.length (Nat.le_refl _) (by omega), List.reverse_reverse, List.take_length]

theorem mod9_ne {a b : Nat} (h : a < b) (h2 : b < a + 9) : a % 9 ≠ b % 9 := by omega

theorem Inv.step {s s' : CSt} {done : List Rec} {x : Rec} (h : Inv s done) (ho : Others s s' (done.length % 9)) (hx : x.Fits) (hs : x.seq = done.length + 1) (hq : sl s' (done.length % 9) = enc x) : Inv s' (done ++ [x]) := by
  have hl : (done ++ [x]).length = done.length + 1 := by simp
  have hq9 : done.length % 9 < 9 := Nat.mod_lt _ (by decide)
  refine ⟨ho.big, ?_, ?_, ?_, ?_⟩
  · intro i hi
    rw [List.getElem_append]
    split
    · exact h.seq i (by assumption)
    · rw [hl] at hi
      have : i = done.length := by omega
      subst this
      simpa using hs
  · intro j hj hj8
    rw [hl] at hj hj8
    by_cases e : j = done.length
    · subst e
      have := sr_enc (i := done.length % 9) hq9 hq hx (by rw [hs]; simp)
      rw [this]
      simp
    · rw [List.getElem_append_left (by omega), sr_same (Nat.mod_lt _ (by decide)) (ho.same _ (Nat.mod_lt _ (by decide)) (mod9_ne (by omega) (by omega)))]
      exact h.i1 j (by omega) (by omega)
  · rw [hl]
    by_cases h9 : 9 ≤ done.length + 1
    · refine Or.inr ⟨by omega, ?_⟩
      have e : (done.length + 1) % 9 = (done.length - 8) % 9 := by omega
      have := h.i1 (done.length - 8) (by omega) (by omega)
      rw [e, sr_same (Nat.mod_lt _ (by decide)) (ho.same _ (Nat.mod_lt _ (by decide)) (mod9_ne (by omega) (by omega))), this, List.getD_eq_getElem?_getD, List.getElem?_append_left (by omega), show done.length + 1 - 9 = done.length - 8 by omega, List.getElem?_eq_getElem (by omega)]
      rfl
    · left
      have e : (done.length + 1) % 9 = done.length + 1 := by omega
      by_cases e9 : done.length + 1 = 9
      · omega
      · rw [e, sr_same (by omega) (ho.same _ (by omega) (by omega))]
        exact h.i3 _ (by omega) (by omega)
  · intro i hi hi9
    rw [hl] at hi
    rw [sr_same hi9 (ho.same i hi9 (by omega))]
    exact h.i3 i (by omega) hi9

theorem Inv.cut {s s' : CSt} {done : List Rec} (h : Inv s done) (ho : Others s s' (done.length % 9)) (hq : sl s' (done.length % 9) = sl s (done.length % 9) ∨ (sl s' (done.length % 9))[16]? = some 0) : Inv s' done := by
  have hq9 : done.length % 9 < 9 := Nat.mod_lt _ (by decide)
  refine ⟨ho.big, h.seq, ?_, ?_, ?_⟩
  · intro j hj hj8
    rw [sr_same (Nat.mod_lt _ (by decide)) (ho.same _ (Nat.mod_lt _ (by decide)) (mod9_ne (by omega) (by omega)))]
    exact h.i1 j hj hj8
  · rcases hq with e | e
    · rw [sr_same hq9 e]; exact h.i2
    · exact Or.inl (sr_zero hq9 e)
  · intro i hi hi9
    rw [sr_same hi9 (ho.same i hi9 (by omega))]
    exact h.i3 i hi hi9

theorem sl_new (n i : Nat) (hi : i < 9) : (sl (CSt.new n) i)[16]? = some 0 := by
  rw [sl_get _ _ (by decide)]
  show (zeros 4096)[_]? = _
  unfold zeros
  rw [List.getElem?_replicate, if_pos (by omega)]
theorem Inv.new (n : Nat) (h1 : 153 ≤ n) (h2 : n ≤ 4096) : Inv (CSt.new n) [] :=
  ⟨⟨zeros_length _, h1, h2⟩, fun i h => by simp at h, fun j h => by simp at h, Or.inl (sr_zero (by decide) (sl_new n _ (by decide))), fun i _ hi => sr_zero hi (sl_new n i hi)⟩
end Go.Proofs.YtebdepbnhemnpaaDoor
