/-
  How long the text of a right config is at most: pure. No condition.
-/
import Derived.Test.YtcnfkdecghdphabGreatDoorCfBack
namespace Go.Proofs.YtcnfkdecghdphabGreatDoor

theorem len_flat {α β : Type} (f : α → List β) (K : Nat) : ∀ l : List α, (∀ x ∈ l, (f x).length ≤ K) → (l.flatMap f).length ≤ l.length * K
  | [], _ => by simp
  | x :: l, h => by
    have h1 := len_flat f K l (fun y hy => h y (List.mem_cons_of_mem _ hy))
    have h2 := h x (List.mem_cons_self ..)
    rw [List.flatMap_cons, List.length_append, List.length_cons, Nat.succ_mul]
    omega
theorem decN_len : ∀ (k u : Nat), u < 10 ^ (k + 1) → (decN u).length ≤ k + 1
  | 0, u, h => by
    unfold decN
    rw [dif_pos (by omega)]
    simp
  | k + 1, u, h => by
    unfold decN
    split
    · simp
    · have := decN_len k (u / 10) (by rw [Nat.pow_succ] at h; omega)
      rw [List.length_append, List.length_singleton]
      omega
theorem num_len {n : Int} (h : n ≤ 1099511627776) : (num n).length ≤ 13 := decN_len 12 n.toNat (by
  have e : (10 : Nat) ^ (12 + 1) = 10000000000000 := by decide
  rw [e]
  omega)
theorem kw_len (k : Nat) : (kw k).length ≤ 6 := by
  unfold kw
  split <;> decide
theorem name_len {s : ByteArray} (h : isName s = true) : (bl s).length ≤ 13 := by
  unfold isName at h
  simp only [Bool.and_eq_true, decide_eq_true_eq] at h
  have h2 := h.1.1.2
  have e : (bl s).length = s.size := by unfold bl; rw [Array.length_toList]; rfl
  omega
theorem pt_len {pts : List ByteArray} (h : ∀ p ∈ pts, isName p = true) (x : Int) : (pt pts x).length ≤ 13 := by
  unfold pt
  rw [List.getD_eq_getElem?_getD]
  cases hq : pts[x.toNat]? with
  | none => decide
  | some p => exact name_len (h p (List.mem_of_getElem? hq))
theorem kwLine_len (k : Nat) (ws : List Bs) (h : ∀ w ∈ ws, w.length ≤ 13) (hn : ws.length ≤ 4) : (kwLine k ws).length ≤ 62 := by
  have h1 := kw_len k
  have h2 : (ws.flatMap (fun w => (32 : UInt8) :: w)).length ≤ ws.length * 14 := len_flat (fun w : Bs => (32 : UInt8) :: w) 14 ws (fun w hw => by have := h w hw; simp; omega)
  have e : (kwLine k ws).length = (kw k).length + (ws.flatMap (fun w => (32 : UInt8) :: w)).length := by unfold kwLine; exact List.length_append
  have h3 : ws.length * 14 ≤ 4 * 14 := Nat.mul_le_mul_right _ hn
  rw [e]
  exact Nat.le_trans (Nat.add_le_add h1 (Nat.le_trans h2 h3)) (by decide)
structure SizeE (e : EntD) : Prop where
  pts : e.pts.length ≤ 16
  gaps : e.gaps.length ≤ 8
  edges : e.edges.length ≤ 64
  first : e.first.length ≤ 16
  last : e.last.length ≤ 16
theorem sizeE_of {e : EntD} (h : sizeErr e = 0) : SizeE e := by
  unfold sizeErr at h
  obtain ⟨-, h⟩ := firstOf_cons (by simp) h
  obtain ⟨q1, h⟩ := firstOf_cons (by simp) h
  obtain ⟨q2, h⟩ := firstOf_cons (by simp) h
  obtain ⟨q3, h⟩ := firstOf_cons (by simp) h
  obtain ⟨q4, h⟩ := firstOf_cons (by simp) h
  obtain ⟨q5, -⟩ := firstOf_cons (by simp) h
  simp at q1 q2 q3 q4 q5
  exact ⟨q1, q2, q3, q4, q5⟩
theorem entsErr_size : ∀ (l : List EntD) (a : List ByteArray) (i : Nat), (entsErr a i l).1 = 0 → ∀ e ∈ l, SizeE e
  | [], _, _, _, e, he => by cases he
  | x :: t, a, i, h, e, he => by
    unfold entsErr at h
    split at h
    · rename_i h0
      rcases List.mem_cons.1 he with rfl | he
      · exact sizeE_of (entErr_zero h0).2.1
      · exact entsErr_size t _ _ h e he
    · rename_i h0; exact absurd h h0
theorem cfg_size {c : CfgD} (h : (cfgErr c).1 = 0) : ∀ e ∈ c.ents, SizeE e := by
  unfold cfgErr at h
  split at h
  · exact entsErr_size _ _ _ h
  · rename_i h0; exact absurd h h0
theorem entLines_len {e : EntD} (h : OkE e) (hs : SizeE e) : (entLines e).length ≤ 122 ∧ ∀ l ∈ entLines e, l.length ≤ 62 := by
  have h1 := hs.pts
  have h2 := hs.gaps
  have h3 := hs.edges
  have h4 := hs.first
  have h5 := hs.last
  have hp := fun x => pt_len h.pn x
  have hm := h.mm
  constructor
  · unfold entLines
    have : (if e.cnt = -1 then ([] : List Bs) else [kwLine 5 [pt e.pts e.cnt, num e.mn, num e.mx]]).length ≤ 1 := by split <;> simp
    simp only [List.length_cons, List.length_append, List.length_map]
    omega
  · intro l hl
    unfold entLines at hl
    simp only [List.mem_cons, List.mem_append, List.mem_map] at hl
    rcases hl with rfl | ⟨p, hq, rfl⟩ | hl | ⟨g, hq, rfl⟩ | ⟨d, hq, rfl⟩ | ⟨x, hq, rfl⟩ | ⟨x, hq, rfl⟩
    · refine kwLine_len _ _ (fun w hw => ?_) (by simp)
      simp at hw
      rcases hw with rfl | rfl
      · exact name_len h.name
      · exact num_len (by have := h.tol; omega)
    · refine kwLine_len _ _ (fun w hw => ?_) (by simp)
      simp at hw
      subst hw
      exact name_len (h.pn p hq)
    · split at hl
      · cases hl
      · simp at hl
        subst hl
        refine kwLine_len _ _ (fun w hw => ?_) (by simp)
        simp at hw
        rcases hw with rfl | rfl | rfl
        · exact hp _
        · exact num_len (by omega)
        · exact num_len (by omega)
    · refine kwLine_len _ _ (fun w hw => ?_) (by simp)
      have hg := h.gaps g hq
      simp at hw
      rcases hw with rfl | rfl | rfl | rfl
      · exact hp _
      · exact hp _
      · exact num_len (by omega)
      · exact num_len (by omega)
    · refine kwLine_len _ _ (fun w hw => ?_) (by simp)
      simp at hw
      rcases hw with rfl | rfl
      · exact hp _
      · exact hp _
    · refine kwLine_len _ _ (fun w hw => ?_) (by simp)
      simp at hw
      subst hw
      exact hp _
    · refine kwLine_len _ _ (fun w hw => ?_) (by simp)
      simp at hw
      subst hw
      exact hp _
theorem ents_len {c : CfgD} (h : (cfgErr c).1 = 0) : ((c.ents.flatMap entLines).flatMap (fun x => x ++ [10])).length ≤ 400000000 := by
  have hc := okC_of h
  have hs := cfg_size h
  have h1 := len_flat entLines 122 c.ents (fun e he => (entLines_len (hc.ents e he) (hs e he)).1)
  have h2 := len_flat (fun x : Bs => x ++ [10]) 63 (c.ents.flatMap entLines) (fun l hl => by
    obtain ⟨e, he, hl⟩ := List.mem_flatMap.1 hl
    have := (entLines_len (hc.ents e he) (hs e he)).2 l hl
    simp
    omega)
  have h3 := hc.many
  have h4 : c.ents.length * 122 ≤ 8 * 122 := Nat.mul_le_mul_right _ h3
  have h5 : (c.ents.flatMap entLines).length * 63 ≤ 8 * 122 * 63 := Nat.mul_le_mul_right _ (Nat.le_trans h1 h4)
  omega
end Go.Proofs.YtcnfkdecghdphabGreatDoor
