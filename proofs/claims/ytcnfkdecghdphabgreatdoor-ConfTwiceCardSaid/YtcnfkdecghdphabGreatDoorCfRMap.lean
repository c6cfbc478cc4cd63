/-
  The look-up of points by the last one of a name ('lookL'), and a map in memory that holds it ('PtsMap'): pure. No condition.
-/
import Derived.Test.YtcnfkdecghdphabGreatDoorCfNames
namespace Go.Proofs.YtcnfkdecghdphabGreatDoor
open Go.RowKit Go.Extern.Stop Go.Stop Go.Extern Go.Maps

/-- The last place of a name. -/
def lookL : Look
  | [], _ => none
  | p :: t, w => match lookL t w with
    | some i => some (i + 1)
    | none => if bl p = w then some 0 else none
theorem lookL_snoc : ∀ (t : List ByteArray) (p : ByteArray) (w : Bs), lookL (t ++ [p]) w = if bl p = w then some t.length else lookL t w
  | [], p, w => by simp only [List.nil_append, lookL, List.length_nil]
  | q :: t, p, w => by
    rw [List.cons_append, lookL, lookL_snoc t p w]
    by_cases h : bl p = w
    · rw [if_pos h, if_pos h]; rfl
    · rw [if_neg h, if_neg h]; rfl
theorem lookL_hit : ∀ (pts : List ByteArray) (w : Bs) (i : Nat), lookL pts w = some i → ∃ p, pts[i]? = some p ∧ bl p = w
  | [], w, i, h => by simp [lookL] at h
  | p :: t, w, i, h => by
    rw [lookL] at h
    cases hl : lookL t w with
    | some j =>
      rw [hl] at h
      cases h
      obtain ⟨q, h1, h2⟩ := lookL_hit t w j hl
      exact ⟨q, by simpa using h1, h2⟩
    | none =>
      rw [hl] at h
      simp only at h
      split at h
      · rename_i hp
        cases h
        exact ⟨p, rfl, hp⟩
      · cases h
theorem lookL_miss : ∀ (pts : List ByteArray) (w : Bs), lookL pts w = none → ∀ p ∈ pts, bl p ≠ w
  | [], w, _, p, hp => by cases hp
  | q :: t, w, h, p, hp => by
    rw [lookL] at h
    cases hl : lookL t w with
    | some j => rw [hl] at h; cases h
    | none =>
      rw [hl] at h
      simp only at h
      split at h
      · cases h
      · rename_i hq
        rcases List.mem_cons.1 hp with rfl | hp
        · exact hq
        · exact lookL_miss t w hl p hp
theorem good_lookL : GoodLook lookL := ⟨lookL_hit, lookL_miss⟩
theorem lookL_lt {pts : List ByteArray} {w : Bs} {i : Nat} (h : lookL pts w = some i) : i < pts.length := by
  obtain ⟨p, h1, -⟩ := lookL_hit pts w i h
  exact (List.getElem?_eq_some_iff.1 h1).1

/-- A map's datum that holds the look-up. -/
def PtsMap (D : DataW Unit) (pts : List ByteArray) : Prop :=
  ∀ s : ByteArray, Maps.has D (keyL s) = (lookL pts (bl s)).isSome ∧ D.atKey (keyL s) (.lit (.int .i64 0)) = .lit (.int .i64 (((lookL pts (bl s)).getD 0 : Nat) : Int))
theorem ptsMap_nil : PtsMap (.map []) [] := fun _ => ⟨rfl, rfl⟩
theorem ptsMap_put {D : DataW Unit} {pts : List ByteArray} (h : PtsMap D pts) (hD : IsMap D) (p : ByteArray) : PtsMap (D.put (keyL p) (.lit (.int .i64 (pts.length : Int)))) (pts ++ [p]) := by
  intro s
  rw [lookL_snoc]
  by_cases e : bl p = bl s
  · have e' := bl_inj e
    subst e'
    rw [if_pos rfl]
    exact ⟨Maps.has_put_same hD (by trivial) _, Maps.atKey_put_same hD (by trivial) _ _⟩
  · rw [if_neg e]
    have hne : keyL s ≠ keyL p := fun h => e (by unfold keyL at h; exact (Lit.string.inj h).symm)
    rw [Maps.has_put_other hne, Maps.atKey_put_other hne]
    exact h s
end Go.Proofs.YtcnfkdecghdphabGreatDoor
