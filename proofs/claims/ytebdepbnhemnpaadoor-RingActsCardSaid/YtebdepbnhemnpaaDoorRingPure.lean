/-
  What a put makes of the slots: plain facts on lists; no program. Conditions: as named.
-/
import Derived.Test.YtebdepbnhemnpaaDoorRingAppGo
namespace Go.Proofs.YtebdepbnhemnpaaDoor
open Go.RowKit

/-- The bytes of a slot. -/
def sl (s : CSt) (i : Nat) : List UInt8 := (s.bytes.drop (i * 17)).take 17
structure Big (s : CSt) : Prop where
  len : s.bytes.length = 4096
  size : 153 ≤ s.size
  top : s.size ≤ 4096
theorem sl_length {s : CSt} (h : Big s) (i : Nat) (hi : i < 9) : (sl s i).length = 17 := by
  unfold sl; rw [List.length_take, List.length_drop, h.len]; omega
theorem sl_slotB {s : CSt} (i : Nat) (hi : i < 9) : slotB (s.bytes.take 153) i = sl s i := by
  unfold slotB sl
  rw [List.drop_take, List.take_take]
  congr 1
  omega

theorem puts_len0 (l : List UInt8) : ∀ (s : CSt) (p : Nat), (s.puts p l).bytes.length = s.bytes.length := by
  induction l with
  | nil => intro s p; rfl
  | cons y r ih => intro s p; simp only [CSt.puts, ih]; simp [CSt.put]
theorem Big.puts {s : CSt} (h : Big s) (p : Nat) (l : List UInt8) : Big (s.puts p l) := ⟨by rw [puts_len0]; exact h.len, by rw [CSt.puts_size]; exact h.size, by rw [CSt.puts_size]; exact h.top⟩
theorem sl_get {s : CSt} (i k : Nat) (hk : k < 17) : (sl s i)[k]? = s.bytes[i * 17 + k]? := by
  unfold sl
  rw [List.getElem?_take, if_pos hk, List.getElem?_drop]
theorem puts_get (s : CSt) (p : Nat) (l : List UInt8) (hf : p + l.length ≤ s.bytes.length) (k : Nat) : (s.puts p l).bytes[k]? = if p ≤ k ∧ k < p + l.length then l[k - p]? else s.bytes[k]? := by
  rw [CSt.puts_bytes l s p hf]
  have hp : (s.bytes.take p).length = p := by rw [List.length_take]; omega
  by_cases h1 : k < p
  · rw [if_neg (by omega), List.append_assoc, List.getElem?_append_left (by omega), List.getElem?_take, if_pos h1]
  · by_cases h2 : k < p + l.length
    · rw [if_pos ⟨by omega, h2⟩, List.getElem?_append_left (by rw [List.length_append, hp]; omega), List.getElem?_append_right (by omega), hp]
    · rw [if_neg (by omega), List.getElem?_append_right (by rw [List.length_append, hp]; omega), List.getElem?_drop]
      congr 1
      rw [List.length_append, hp]
      omega
theorem sl_puts_other {s : CSt} (h : Big s) (q i p : Nat) (l : List UInt8) (hq : q < 9) (hi : i < 9) (hne : i ≠ q) (h1 : q * 17 ≤ p) (h2 : p + l.length ≤ q * 17 + 17) : sl (s.puts p l) i = sl s i := by
  apply List.ext_getElem?
  intro k
  by_cases hk : k < 17
  · rw [sl_get _ _ hk, sl_get _ _ hk, puts_get _ _ _ (by rw [h.len]; omega), if_neg (by omega)]
  · rw [List.getElem?_eq_none (by rw [sl_length (h.puts p l) i hi]; omega), List.getElem?_eq_none (by rw [sl_length h i hi]; omega)]
theorem sl_puts_same {s : CSt} (h : Big s) (q p k : Nat) (l : List UInt8) (hq : q < 9) (_h1 : q * 17 ≤ p) (h2 : p + l.length ≤ q * 17 + 17) (hk : k < 17) : (sl (s.puts p l) q)[k]? = if p ≤ q * 17 + k ∧ q * 17 + k < p + l.length then l[q * 17 + k - p]? else (sl s q)[k]? := by
  rw [sl_get _ _ hk, sl_get _ _ hk, puts_get _ _ _ (by rw [h.len]; omega)]

/-- What one put leaves: all other slots as they were. -/
structure Others (s s' : CSt) (q : Nat) : Prop where
  big : Big s'
  size : s'.size = s.size
  same : ∀ i, i < 9 → i ≠ q → sl s' i = sl s i
theorem Others.refl {s : CSt} (h : Big s) (q : Nat) : Others s s q := ⟨h, rfl, fun _ _ _ => rfl⟩
theorem Others.trans {a b c : CSt} {q : Nat} (h : Others a b q) (k : Others b c q) : Others a c q := ⟨k.big, k.size.trans h.size, fun i hi hn => (k.same i hi hn).trans (h.same i hi hn)⟩
theorem Others.off {s s' : CSt} {q : Nat} (h : Others s s' q) (x : Bool) : Others s { s' with off := x } q := ⟨⟨h.big.len, h.big.size, h.big.top⟩, h.size, h.same⟩
theorem Others.puts {s : CSt} (h : Big s) (q p : Nat) (l : List UInt8) (hq : q < 9) (h1 : q * 17 ≤ p) (h2 : p + l.length ≤ q * 17 + 17) : Others s (s.puts p l) q :=
  ⟨h.puts p l, CSt.puts_size _ _ _, fun i hi hn => sl_puts_other h q i p l hq hi hn h1 h2⟩

/-- A write inside slot q, power being there: done, or cut. -/
theorem write_in {s : CSt} (h : Big s) (ho : s.off = false) (q p : Nat) (l : List UInt8) (hq : q < 9) (_h1 : q * 17 ≤ p) (h2 : p + l.length ≤ q * 17 + 17) :
    (∃ m, m < l.length ∧ s.writeE p l = ({ s.puts p (l.take m) with off := true }, 8)) ∨ s.writeE p l = (s.puts p l, 0) := by
  have hz := h.size
  have he : s.err p l.length = 0 := by
    unfold CSt.err
    rw [if_neg (by omega), ho]; rfl
  unfold CSt.writeE
  rw [if_pos he]
  unfold CSt.write
  by_cases hc : s.cut = true ∧ s.left < l.length
  · rw [if_pos hc]
    exact Or.inl ⟨s.left, hc.2, rfl⟩
  · rw [if_neg hc]
    exact Or.inr rfl

/-- What a put makes of the slots. -/
theorem put_cases {s : CSt} (h : Big s) (ho : s.off = false) (r : Rec) :
    ((s.putRec r).2 = 0 ∧ Others s (s.putRec r).1 ((r.seq - 1) % 9) ∧ (s.putRec r).1.off = false ∧ sl (s.putRec r).1 ((r.seq - 1) % 9) = enc r) ∨
    ((s.putRec r).2 = 8 ∧ Others s (s.putRec r).1 ((r.seq - 1) % 9) ∧ (sl (s.putRec r).1 ((r.seq - 1) % 9) = sl s ((r.seq - 1) % 9) ∨ (sl (s.putRec r).1 ((r.seq - 1) % 9))[16]? = some 0)) := by
  have hq : (r.seq - 1) % 9 < 9 := Nat.mod_lt _ (by decide)
  unfold CSt.putRec
  generalize (r.seq - 1) % 9 = q at *
  simp only []
  -- the last byte
  have hz : (s.zeroAt (q * 17 + 16) = ({ s.puts (q * 17 + 16) [] with off := true }, 8)) ∨ (∃ a, s.zeroAt (q * 17 + 16) = (a, 0) ∧ Others s a q ∧ a.off = false ∧ (sl a q)[16]? = some 0) := by
    have he : s.err ((q * 17 + 16 : Nat) : Int) 1 = 0 := by
      unfold CSt.err
      have := h.size
      rw [if_neg (by omega), ho]; rfl
    unfold CSt.zeroAt
    rw [if_pos he]
    by_cases hb : s.bytes.getD (q * 17 + 16) 0 = 0
    · rw [if_pos hb]
      refine Or.inr ⟨s, rfl, Others.refl h q, ho, ?_⟩
      rw [sl_get _ _ (by decide)]
      rw [List.getD_eq_getElem?_getD, List.getElem?_eq_getElem (by rw [h.len]; omega)] at hb
      rw [List.getElem?_eq_getElem (by rw [h.len]; omega)]
      exact congrArg some hb
    · rw [if_neg hb]
      rcases write_in h ho q (q * 17 + 16) [0] hq (by omega) (by simp) with ⟨m, hm, e⟩ | e
      · have : m = 0 := by simpa using hm
        subst this
        exact Or.inl e
      · refine Or.inr ⟨_, e, Others.puts h q _ _ hq (by omega) (by simp), by rw [CSt.puts_off]; exact ho, ?_⟩
        rw [sl_puts_same h q _ 16 [0] hq (by omega) (by simp) (by decide), if_pos (by simp)]
        simp
  rcases hz with e | ⟨a, e, oa, ao, al⟩
  · rw [e]
    right
    refine ⟨rfl, (Others.puts h q (q * 17 + 16) [] hq (by omega) (by simp)).off true, Or.inl rfl⟩
  · rw [e]
    rw [if_pos rfl]
    have l16 := enc16_length r
    rcases write_in oa.big ao q (q * 17) (enc16 r) hq (Nat.le_refl _) (by omega) with ⟨m, hm, e2⟩ | e2
    · rw [e2]
      right
      have hl : ((enc16 r).take m).length = m := by rw [List.length_take]; omega
      refine ⟨rfl, (oa.trans (Others.puts oa.big q _ _ hq (Nat.le_refl _) (by omega))).off true, Or.inr ?_⟩
      show (sl (a.puts (q * 17) ((enc16 r).take m)) q)[16]? = _
      rw [sl_puts_same oa.big q _ 16 _ hq (Nat.le_refl _) (by omega) (by decide), if_neg (by omega)]
      exact al
    · rw [e2]
      have ob := Others.puts oa.big q (q * 17) (enc16 r) hq (Nat.le_refl _) (by omega)
      have bo : (a.puts (q * 17) (enc16 r)).off = false := by rw [CSt.puts_off]; exact ao
      have bl : ∀ k, k < 17 → (sl (a.puts (q * 17) (enc16 r)) q)[k]? = if k < 16 then (enc16 r)[k]? else some 0 := by
        intro k hk
        rw [sl_puts_same oa.big q _ k _ hq (Nat.le_refl _) (by omega) hk]
        by_cases h16 : k < 16
        · rw [if_pos (by omega), if_pos h16]
          congr 1
          omega
        · have : k = 16 := by omega
          subst this
          rw [if_neg (by omega), if_neg (by omega)]
          exact al
      rw [if_pos rfl]
      rcases write_in ob.big bo q (q * 17 + 16) [165] hq (by omega) (by simp) with ⟨m, hm, e3⟩ | e3
      · have : m = 0 := by simpa using hm
        subst this
        rw [e3]
        right
        refine ⟨rfl, ((oa.trans ob).trans (Others.puts ob.big q (q * 17 + 16) [] hq (by omega) (by simp))).off true, Or.inr ?_⟩
        show (sl (a.puts (q * 17) (enc16 r)) q)[16]? = _
        rw [bl 16 (by decide)]; rfl
      · rw [e3]
        left
        refine ⟨rfl, (oa.trans ob).trans (Others.puts ob.big q (q * 17 + 16) [165] hq (by omega) (by simp)), by rw [CSt.puts_off]; exact bo, ?_⟩
        apply List.ext_getElem?
        intro k
        by_cases hk : k < 17
        · rw [sl_puts_same ob.big q _ k [165] hq (by omega) (by simp) hk, bl k hk]
          unfold enc
          by_cases h16 : k < 16
          · rw [if_neg (by simp; omega), if_pos h16, List.getElem?_append_left (by omega)]
          · have : k = 16 := by omega
            subst this
            rw [if_pos (by simp), List.getElem?_append_right (by omega), l16]
            simp
        · rw [List.getElem?_eq_none (by rw [sl_length (ob.big.puts _ _) q hq]; omega), List.getElem?_eq_none (by rw [enc_length]; omega)]
end Go.Proofs.YtebdepbnhemnpaaDoor
