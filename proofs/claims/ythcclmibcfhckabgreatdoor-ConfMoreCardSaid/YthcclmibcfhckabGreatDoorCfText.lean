/-
  Lines, words and numbers of a config's text: pure functions. No condition.
-/
import Derived.Test.YthcclmibcfhckabGreatDoorCfPure
namespace Go.Proofs.YthcclmibcfhckabGreatDoor

abbrev Bs := List UInt8
def bl (b : ByteArray) : Bs := b.data.toList
def kw : Nat → Bs
  | 0 => [119, 105, 110, 100, 111, 119]
  | 1 => [99, 121, 99, 108, 101]
  | 2 => [100, 101, 108, 97, 121]
  | 3 => [101, 110, 116, 105, 116, 121]
  | 4 => [112, 111, 105, 110, 116]
  | 5 => [99, 111, 117, 110, 116]
  | 6 => [103, 97, 112]
  | 7 => [101, 100, 103, 101]
  | 8 => [102, 105, 114, 115, 116]
  | _ => [108, 97, 115, 116]
/-- Digits of a number. -/
def decN (u : Nat) : Bs := if h : u < 10 then [UInt8.ofNat (48 + u)] else decN (u / 10) ++ [UInt8.ofNat (48 + u % 10)]
def num (n : Int) : Bs := decN n.toNat
def kwLine (k : Nat) (ws : List Bs) : Bs := kw k ++ ws.flatMap (fun w => 32 :: w)
def pt (pts : List ByteArray) (x : Int) : Bs := bl (pts.getD x.toNat ByteArray.empty)
def entLines (e : EntD) : List Bs :=
  kwLine 3 [bl e.name, num e.tol] :: (e.pts.map (fun p => kwLine 4 [bl p]) ++ ((if e.cnt = -1 then [] else [kwLine 5 [pt e.pts e.cnt, num e.mn, num e.mx]]) ++
    (e.gaps.map (fun g => kwLine 6 [pt e.pts g.fr, pt e.pts g.to, num g.mn, num g.mx]) ++ (e.edges.map (fun d => kwLine 7 [pt e.pts d.1, pt e.pts d.2]) ++
      (e.first.map (fun x => kwLine 8 [pt e.pts x]) ++ e.last.map (fun x => kwLine 9 [pt e.pts x]))))))
def confLines (c : CfgD) : List Bs := kwLine 0 [num c.closed, num c.opn] :: kwLine 1 [num c.cycle] :: kwLine 2 [num c.delay] :: c.ents.flatMap entLines
def confText (c : CfgD) : Bs := (confLines c).flatMap (fun l => l ++ [10])

/-- A text cut by a byte. -/
def cutBy (c : UInt8) : Bs → List Bs
  | [] => [[]]
  | b :: t => if b = c then [] :: cutBy c t else match cutBy c t with
    | [] => [[b]]
    | h :: r => (b :: h) :: r
def joinBy (c : UInt8) (h : Bs) (ws : List Bs) : Bs := h ++ ws.flatMap (fun w => c :: w)
theorem cutBy_ne (c : UInt8) (l : Bs) : cutBy c l ≠ [] := by
  cases l with
  | nil => simp [cutBy]
  | cons b t =>
    unfold cutBy
    split
    · simp
    · split <;> simp
theorem cut_pre (c : UInt8) (t : Bs) (h : Bs) (r : List Bs) (e : cutBy c t = h :: r) : ∀ w : Bs, c ∉ w → cutBy c (w ++ t) = (w ++ h) :: r := by
  intro w
  induction w with
  | nil => intro _; exact e
  | cons b w ih =>
    intro hw
    simp only [List.mem_cons, not_or] at hw
    have := ih hw.2
    rw [List.cons_append, cutBy, if_neg (Ne.symm hw.1), this]
    rfl
theorem cut_nil (c : UInt8) (w : Bs) (hw : c ∉ w) : cutBy c w = [w] := by
  have := cut_pre c [] [] [] rfl w hw
  simpa using this
theorem cut_join (c : UInt8) : ∀ (ws : List Bs) (h : Bs), c ∉ h → (∀ w ∈ ws, c ∉ w) → cutBy c (joinBy c h ws) = h :: ws := by
  intro ws
  induction ws with
  | nil => intro h hh _; simpa [joinBy] using cut_nil c h hh
  | cons x ws ih =>
    intro h hh hw
    have e := ih x (hw x (by simp)) (fun w h => hw w (by simp [h]))
    have e2 : cutBy c (c :: joinBy c x ws) = [] :: x :: ws := by rw [cutBy, if_pos rfl, e]
    have := cut_pre c _ _ _ e2 h hh
    simpa [joinBy] using this
theorem join_cut (c : UInt8) : ∀ (l : Bs) (h : Bs) (ws : List Bs), cutBy c l = h :: ws → l = joinBy c h ws := by
  intro l
  induction l with
  | nil => intro h ws e; simp [cutBy] at e; obtain ⟨rfl, rfl⟩ := e; rfl
  | cons b t ih =>
    intro h ws e
    unfold cutBy at e
    split at e
    · rename_i hb
      simp at e
      obtain ⟨rfl, e⟩ := e
      cases hc : cutBy c t with
      | nil => exact absurd hc (cutBy_ne c t)
      | cons x r =>
        rw [hc] at e
        subst e
        have := ih _ _ hc
        rw [this, hb]
        simp [joinBy]
    · split at e
      · rename_i hc; exact absurd hc (cutBy_ne c t)
      · rename_i x r hc
        simp at e
        obtain ⟨rfl, rfl⟩ := e
        have := ih _ _ hc
        rw [this]
        simp [joinBy]
theorem cut_clean (c : UInt8) : ∀ (l : Bs), ∀ w ∈ cutBy c l, c ∉ w := by
  intro l
  induction l with
  | nil => intro w hw; simp [cutBy] at hw; subst hw; simp
  | cons b t ih =>
    intro w hw
    unfold cutBy at hw
    split at hw
    · simp at hw
      rcases hw with rfl | hw
      · simp
      · exact ih w hw
    · rename_i hb
      split at hw
      · rename_i hc; exact absurd hc (cutBy_ne c t)
      · rename_i x r hc
        simp at hw
        rcases hw with rfl | hw
        · have := ih x (by rw [hc]; simp)
          simp only [List.mem_cons, not_or]
          exact ⟨fun e => hb e.symm, this⟩
        · exact ih w (by rw [hc]; simp [hw])
theorem text_join (h : Bs) (t : List Bs) : (h :: t).flatMap (fun l => l ++ [10]) = joinBy 10 h t ++ [10] := by
  induction t generalizing h with
  | nil => simp [joinBy]
  | cons x t ih =>
    rw [List.flatMap_cons, ih x]
    simp [joinBy]

/-! Numbers -/
def valD (w : Bs) : Nat := w.foldl (fun n b => n * 10 + (b.toNat - 48)) 0
def numOf (w : Bs) : Option Nat := if w.length = 0 ∨ 13 < w.length ∨ (1 < w.length ∧ w.head? = some 48) ∨ w.all isDig = false then none else some (valD w)
theorem valD_snoc (w : Bs) (b : UInt8) : valD (w ++ [b]) = valD w * 10 + (b.toNat - 48) := by simp [valD]
theorem dig_of (u : Nat) (h : u < 10) : (UInt8.ofNat (48 + u)).toNat = 48 + u := by simp; omega
theorem decN_small {u : Nat} (h : u < 10) : decN u = [UInt8.ofNat (48 + u)] := by rw [decN, dif_pos h]
theorem decN_big {u : Nat} (h : ¬ u < 10) : decN u = decN (u / 10) ++ [UInt8.ofNat (48 + u % 10)] := by rw [decN, dif_neg h]
theorem decN_all (u : Nat) : valD (decN u) = u ∧ (decN u).all isDig = true ∧ decN u ≠ [] ∧ (0 < u → (decN u).head? ≠ some 48) ∧ ∀ k, u < 10 ^ (k + 1) → (decN u).length ≤ k + 1 := by
  induction u using Nat.strongRecOn with
  | ind u ih =>
    by_cases h : u < 10
    · rw [decN_small h]
      refine ⟨by simp only [valD, List.foldl_cons, List.foldl_nil, dig_of u h]; omega, by simp only [List.all_cons, List.all_nil, isDig, dig_of u h]; simp; omega, by simp, fun hu e => ?_, fun k _ => by simp⟩
      simp only [List.head?_cons, Option.some.injEq] at e
      have := congrArg UInt8.toNat e
      rw [dig_of u h] at this
      have h48 : (48 : UInt8).toNat = 48 := rfl
      omega
    · obtain ⟨a, b, c, d, l⟩ := ih (u / 10) (by omega)
      have hd := dig_of (u % 10) (by omega)
      rw [decN_big h]
      refine ⟨by rw [valD_snoc, a, hd]; omega, ?_, by simp, fun _ e => ?_, fun k hk => ?_⟩
      · rw [List.all_append, b]; simp only [List.all_cons, List.all_nil, isDig, hd]; simp; omega
      · rw [List.head?_append] at e
        have hne := d (by omega)
        cases hh : (decN (u / 10)).head? with
        | none => simp at hh; exact c hh
        | some x => rw [hh] at e hne; exact hne (by simpa using e)
      · cases k with
        | zero => simp at hk; omega
        | succ k =>
          have := l k (by rw [Nat.pow_succ] at hk; omega)
          simp; omega
theorem numOf_dec (u : Nat) (h : u < 10000000000000) : numOf (decN u) = some u := by
  obtain ⟨a, b, c, d, l⟩ := decN_all u
  have l2 := l 12 (by simpa using h)
  unfold numOf
  rw [if_neg, a]
  rintro (h1 | h1 | ⟨h1, h2⟩ | h1)
  · exact c (List.eq_nil_of_length_eq_zero h1)
  · omega
  · by_cases hu : u < 10
    · rw [decN_small hu] at h1; simp at h1
    · exact d (by omega) h2
  · rw [b] at h1; cases h1
theorem dec_val : ∀ (n : Nat) (w : Bs), w.length = n → w ≠ [] → w.all isDig = true → (1 < w.length → w.head? ≠ some 48) → decN (valD w) = w ∧ (w.head? ≠ some 48 → 0 < valD w) := by
  intro n
  induction n with
  | zero => intro w h h0; exact absurd (List.eq_nil_of_length_eq_zero h) h0
  | succ n ih =>
    intro w hl h0 ha hz
    obtain ⟨w', b, rfl⟩ : ∃ w' b, w = w' ++ [b] := ⟨w.dropLast, w.getLast h0, (List.dropLast_concat_getLast h0).symm⟩
    rw [List.all_append] at ha
    simp only [List.all_cons, List.all_nil, Bool.and_true, Bool.and_eq_true] at ha
    obtain ⟨ha1, ha2⟩ := ha
    simp [isDig] at ha2
    have hb : UInt8.ofNat (48 + (b.toNat - 48)) = b := by
      apply UInt8.toNat.inj
      rw [dig_of _ (by omega)]
      omega
    rw [valD_snoc]
    by_cases hw : w' = []
    · subst hw
      simp only [valD, List.foldl_nil, List.nil_append, Nat.zero_mul, Nat.zero_add, List.head?_cons]
      refine ⟨by rw [decN_small (by omega), hb], fun h => ?_⟩
      have : b.toNat ≠ 48 := fun e => h (by congr 1; apply UInt8.toNat.inj; simpa using e)
      omega
    · have hlen : w'.length = n := by simpa using hl
      have hne : 0 < w'.length := List.length_pos_iff.2 hw
      have hh : (w' ++ [b]).head? = w'.head? := by cases w' with | nil => exact absurd rfl hw | cons => rfl
      have hz2 : w'.head? ≠ some 48 := by rw [← hh]; exact hz (by simp; omega)
      obtain ⟨e, p⟩ := ih w' hlen hw ha1 (fun _ => hz2)
      have hp := p hz2
      refine ⟨?_, fun _ => by omega⟩
      rw [decN_big (by omega)]
      have e1 : (valD w' * 10 + (b.toNat - 48)) / 10 = valD w' := by omega
      have e2 : (valD w' * 10 + (b.toNat - 48)) % 10 = b.toNat - 48 := by omega
      rw [e1, e2, e, hb]
theorem dec_numOf {w : Bs} {n : Nat} (h : numOf w = some n) : decN n = w := by
  unfold numOf at h
  split at h
  · cases h
  · rename_i hc
    simp only [not_or, not_and, Bool.not_eq_false] at hc
    obtain ⟨h1, h2, h3, h4⟩ := hc
    cases h
    exact (dec_val w.length w rfl (fun e => h1 (by rw [e]; rfl)) h4 h3).1
theorem numOf_lt {w : Bs} {n : Nat} (h : numOf w = some n) : w ≠ [] := by
  intro e; subst e; simp [numOf] at h
end Go.Proofs.YthcclmibcfhckabGreatDoor
