/-
  How many rows of reports are well, pure: from the end on ('rowsN'), and from the beginning on, by the point ahead at their end ('wsum'). No condition.
-/
import Derived.Test.YtbholbenjalliabDoorFlPure
namespace Go.Proofs.YtbholbenjalliabDoor

/-- Where it can be: no report ahead, or one of the points. -/
def sts (e : EntD) : List Int := -1 :: (List.range e.pts.length).map (fun (i : Nat) => (i : Int))
def wsum (l : List Int) (f g : Int → Nat) : Nat := (l.map fun a => f a * g a).sum
/-- What the first k points add. -/
def pstep (e : EntD) (a : Int) (g : Int → Nat) (k : Nat) : Nat := ((List.range k).map fun (p : Nat) => if bearsE e a (p : Int) then g (behindE e (p : Int)) else 0).sum
/-- How many rows of n reports are well, behind the point a. -/
def rowsN (e : EntD) : Nat → Int → Nat
  | 0 => fun _ => 1
  | n + 1 => fun a => pstep e a (rowsN e n) e.pts.length
def one1 : Int → Nat := fun _ => 1
theorem sts_nodup (e : EntD) : (sts e).Nodup := by
  unfold sts
  rw [List.nodup_cons]
  refine ⟨fun h => ?_, ?_⟩
  · simp only [List.mem_map] at h
    obtain ⟨i, -, h⟩ := h
    omega
  · unfold List.Nodup
    rw [List.pairwise_map]
    exact List.nodup_range.imp (fun {a b} (h : a ≠ b) => by omega)
theorem mem_sts (e : EntD) (a : Int) : a ∈ sts e ↔ a = -1 ∨ (0 ≤ a ∧ a < (e.pts.length : Int)) := by
  unfold sts
  rw [List.mem_cons]
  simp only [List.mem_map, List.mem_range]
  constructor
  · rintro (h | ⟨i, h1, h2⟩)
    · exact Or.inl h
    · exact Or.inr (by omega)
  · rintro (h | ⟨h1, h2⟩)
    · exact Or.inl h
    · exact Or.inr ⟨a.toNat, by omega, by omega⟩
theorem behind_sts (e : EntD) (p : Int) : behindE e p ∈ sts e := (mem_sts e _).2 (behind_fit e p)
theorem pstep_succ (e : EntD) (a : Int) (g : Int → Nat) (k : Nat) : pstep e a g (k + 1) = pstep e a g k + (if bearsE e a (k : Int) then g (behindE e (k : Int)) else 0) := by
  unfold pstep
  rw [List.range_succ, List.map_append, List.sum_append]
  simp
theorem pstep_mono (e : EntD) (a : Int) (g : Int → Nat) {k n : Nat} (h : k ≤ n) : pstep e a g k ≤ pstep e a g n := by
  induction n with
  | zero => rw [show k = 0 by omega]; exact Nat.le_refl _
  | succ n ih =>
    rcases Nat.lt_or_ge k (n + 1) with h1 | h1
    · exact Nat.le_trans (ih (by omega)) (by rw [pstep_succ]; omega)
    · rw [show k = n + 1 by omega]; exact Nat.le_refl _
theorem pstep_le (e : EntD) (a : Int) (g : Int → Nat) (B : Nat) (hg : ∀ b, g b ≤ B) (k : Nat) : pstep e a g k ≤ k * B := by
  induction k with
  | zero => simp [pstep]
  | succ k ih =>
    rw [pstep_succ, Nat.succ_mul]
    have := hg (behindE e (k : Int))
    split <;> omega
theorem pstep_scale (e : EntD) (a : Int) (g h : Int → Nat) (c : Nat) (hg : ∀ b, g b ≤ c * h b) (k : Nat) : pstep e a g k ≤ c * pstep e a h k := by
  induction k with
  | zero => simp [pstep]
  | succ k ih =>
    rw [pstep_succ, pstep_succ, Nat.mul_add]
    have := hg (behindE e (k : Int))
    split
    · omega
    · omega
theorem rowsN_le (e : EntD) (n : Nat) (a : Int) : rowsN e n a ≤ e.pts.length ^ n := by
  induction n generalizing a with
  | zero => exact Nat.le_refl _
  | succ n ih =>
    rw [Nat.pow_succ, Nat.mul_comm]
    exact pstep_le e a _ _ ih _
theorem rowsN_next (e : EntD) (n : Nat) (a : Int) : rowsN e (n + 1) a ≤ e.pts.length * rowsN e n a := by
  induction n generalizing a with
  | zero =>
    have := pstep_le e a (rowsN e 0) 1 (fun _ => Nat.le_refl _) e.pts.length
    simpa [rowsN] using this
  | succ n ih => exact pstep_scale e a _ _ _ ih _
theorem rowsN_bound (e : EntD) (n : Nat) (a : Int) (hp : e.pts.length ≤ 16) (hn : n ≤ 15) : rowsN e n a ≤ 1152921504606846976 := by
  have h1 := rowsN_le e n a
  have h2 : e.pts.length ^ n ≤ 16 ^ n := Nat.pow_le_pow_left hp n
  have h3 : 16 ^ n ≤ 16 ^ 15 := Nat.pow_le_pow_right (by decide) hn
  have h4 : 16 ^ 15 = 1152921504606846976 := by decide
  omega
theorem wsum_cons (a : Int) (l : List Int) (f g : Int → Nat) : wsum (a :: l) f g = f a * g a + wsum l f g := by simp [wsum]
theorem wsum_congr {l : List Int} {f f' g g' : Int → Nat} (h : ∀ a ∈ l, f a = f' a) (h' : ∀ a ∈ l, g a = g' a) : wsum l f g = wsum l f' g' := by
  unfold wsum
  congr 1
  exact List.map_congr_left fun a ha => by rw [h a ha, h' a ha]
theorem wsum_le {l : List Int} {f f' g g' : Int → Nat} (h : ∀ a ∈ l, f a ≤ f' a) (h' : ∀ a ∈ l, g a ≤ g' a) : wsum l f g ≤ wsum l f' g' := by
  induction l with
  | nil => simp [wsum]
  | cons a l ih =>
    rw [wsum_cons, wsum_cons]
    have h1 := ih (fun b hb => h b (by simp [hb])) (fun b hb => h' b (by simp [hb]))
    have h2 : f a * g a ≤ f' a * g' a := Nat.mul_le_mul (h a (by simp)) (h' a (by simp))
    omega
theorem wsum_scale (l : List Int) (f g : Int → Nat) (c : Nat) : wsum l f (fun a => c * g a) = c * wsum l f g := by
  induction l with
  | nil => simp [wsum]
  | cons a l ih => rw [wsum_cons, wsum_cons, ih, Nat.mul_add, Nat.mul_left_comm]
def put1 (f : Int → Nat) (b : Int) (v : Nat) : Int → Nat := fun a => if a = b then v else f a
theorem wsum_out {l : List Int} {f : Int → Nat} {b : Int} {v : Nat} {g : Int → Nat} (h : b ∉ l) : wsum l (put1 f b v) g = wsum l f g :=
  wsum_congr (fun a ha => by unfold put1; rw [if_neg (by rintro rfl; exact h ha)]) (fun _ _ => rfl)
theorem wsum_put {l : List Int} (hl : l.Nodup) (f g : Int → Nat) {b : Int} (hb : b ∈ l) (N : Nat) : wsum l (put1 f b (f b + N)) g = wsum l f g + N * g b := by
  induction l with
  | nil => cases hb
  | cons a l ih =>
    obtain ⟨h1, h2⟩ := List.nodup_cons.1 hl
    rw [wsum_cons, wsum_cons]
    by_cases e : a = b
    · subst e
      rw [wsum_out h1]
      have : put1 f a (f a + N) a = f a + N := by simp [put1]
      rw [this, Nat.add_mul]
      omega
    · have hb' : b ∈ l := by
        rcases List.mem_cons.1 hb with h | h
        · exact absurd h.symm e
        · exact h
      rw [ih h2 hb']
      have : put1 f b (f b + N) a = f a := by unfold put1; rw [if_neg e]
      rw [this]
      omega
theorem le_wsum {l : List Int} (f : Int → Nat) {b : Int} (hb : b ∈ l) : f b ≤ wsum l f one1 := by
  induction l with
  | nil => cases hb
  | cons a l ih =>
    rw [wsum_cons]
    rcases List.mem_cons.1 hb with h | h
    · subst h; simp [one1]
    · have := ih h; omega
/-- What is through, of a map that is gone over. -/
def thru (left : Int → Bool) (f : Int → Nat) : Int → Nat := fun a => if left a then 0 else f a
theorem thru_le (left : Int → Bool) (f : Int → Nat) (a : Int) : thru left f a ≤ f a := by unfold thru; split <;> omega
theorem thru_step {l : List Int} (hl : l.Nodup) {left : Int → Bool} {f h : Int → Nat} {x : Int} (hx : x ∈ l) (hlx : left x = true) : wsum l (thru (fun a => left a && !decide (a = x)) f) h = wsum l (thru left f) h + f x * h x := by
  have e : ∀ a ∈ l, thru (fun a => left a && !decide (a = x)) f a = put1 (thru left f) x (thru left f x + f x) a := fun a _ => by
    unfold put1
    by_cases e : a = x
    · subst e; simp [thru, hlx]
    · simp [thru, e]
  rw [wsum_congr e (fun _ _ => rfl), wsum_put hl _ _ hx]
theorem thru_room {l : List Int} (hl : l.Nodup) {left : Int → Bool} {f h : Int → Nat} {x : Int} (hx : x ∈ l) (hlx : left x = true) {c : Nat} (hc : c ≤ h x) : wsum l (thru left f) h + f x * c ≤ wsum l f h := by
  have h1 := thru_step (f := f) (h := h) hl hx hlx
  have h2 : wsum l (thru (fun a => left a && !decide (a = x)) f) h ≤ wsum l f h := wsum_le (fun a _ => thru_le _ _ a) (fun _ _ => Nat.le_refl _)
  have h3 : f x * c ≤ f x * h x := Nat.mul_le_mul_left _ hc
  omega
theorem thru_none {l : List Int} {left : Int → Bool} {f h : Int → Nat} (hn : ∀ a ∈ l, left a = false) : wsum l (thru left f) h = wsum l f h := wsum_congr (fun a ha => by unfold thru; rw [hn a ha]; rfl) (fun _ _ => rfl)
theorem thru_all {l : List Int} {left : Int → Bool} {f h : Int → Nat} (hn : ∀ a ∈ l, left a = false → f a = 0) : wsum l (thru left f) h = 0 := by
  have : wsum l (thru left f) h = wsum l (fun _ => 0) h := wsum_congr (fun a ha => by
    unfold thru
    cases hl : left a
    · rw [hn a ha hl]; rfl
    · rfl) (fun _ _ => rfl)
  rw [this]
  clear this hn
  induction l with
  | nil => simp [wsum]
  | cons a l ih => rw [wsum_cons, ih]; simp
/-- The rows of no report. -/
def first1 : Int → Nat := put1 (fun _ => 0) (-1) 1
theorem wsum_first (e : EntD) (g : Int → Nat) : wsum (sts e) first1 g = g (-1) := by
  have h := wsum_put (sts_nodup e) (fun _ => 0) g (b := -1) (by simp [sts]) 1
  have z : wsum (sts e) (fun _ => 0) g = 0 := by
    have : ∀ l : List Int, wsum l (fun _ => 0) g = 0 := fun l => by
      induction l with
      | nil => simp [wsum]
      | cons a l ih => rw [wsum_cons, ih]; simp
    exact this _
  rw [z] at h
  have h' : wsum (sts e) first1 g = 0 + 1 * g (-1) := h
  omega
/-- What the code keeps: the rows of k reports by their end. -/
def FwInv (e : EntD) (k : Nat) (f : Int → Nat) : Prop := ∀ j, wsum (sts e) f (rowsN e j) = rowsN e (k + j) (-1)
theorem fwInv_zero (e : EntD) : FwInv e 0 first1 := fun j => by rw [wsum_first, Nat.zero_add]
theorem fwInv_succ {e : EntD} {k : Nat} {f f' : Int → Nat} (h : FwInv e k f) (hf : ∀ g, wsum (sts e) f' g = wsum (sts e) f (fun a => pstep e a g e.pts.length)) : FwInv e (k + 1) f' := fun j => by
  rw [hf]
  have := h (j + 1)
  rw [show k + 1 + j = k + (j + 1) by omega, ← this]
  rfl
theorem fwInv_all {e : EntD} {n : Nat} {f : Int → Nat} (h : FwInv e n f) : wsum (sts e) f one1 = rowsN e n (-1) := h 0
end Go.Proofs.YtbholbenjalliabDoor
