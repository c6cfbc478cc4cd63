/-
  Cells that are set one behind the other ('sets'), and what that leaves: pure facts of memory. No condition.
-/
import Derived.Test.YtcnfkdecghdphabGreatDoorCfMem
namespace Go.Proofs.YtcnfkdecghdphabGreatDoor
open Go.RowKit Go.Extern.Stop Go.Stop Go.Extern

theorem setCell_same {w : World} {b o : Nat} {v : Value} (h : w.cell? ⟨b, o, none⟩ = some v) : w.setCell ⟨b, o, none⟩ v = w := by
  have hh : (w.setCell ⟨b, o, none⟩ v).heap = w.heap := by
    apply Array.ext_getElem?
    intro i
    simp only [World.setCell, Array.getElem?_modify]
    split
    · rename_i e
      subst e
      unfold World.cell? at h
      cases hb : w.heap[b]? with
      | none => rfl
      | some ob =>
        rw [hb] at h
        cases ob with
        | cells c t fr =>
          simp only [Option.map_some, Option.some.injEq, Obj.cells.injEq, and_true]
          simp at h ⊢
          apply Array.ext_getElem?
          intro j
          rw [Array.getElem?_setIfInBounds]
          split
          · rename_i e
            subst e
            split
            · exact h.symm
            · rename_i hx
              rw [Array.getElem?_eq_none (by omega)] at h
              cases h
          · rfl
        | _ => rfl
    · rfl
  cases w
  simp only [World.setCell] at hh ⊢
  rw [hh]
theorem Below.setBoth {B : Nat} {w w' : World} (h : Below B w w') (a : Addr) (v : Value) : Below B (w.setCell a v) (w'.setCell a v) := by
  refine ⟨h.os, h.tape, h.output, ?_, fun k hk => ?_⟩
  · simpa [World.setCell] using h.size
  · simp only [World.setCell, Array.getElem?_modify]
    rw [h.block k hk]
theorem cell_setOther {w : World} {a p : Addr} {u : Value} (hne : a.block ≠ p.block ∨ a.off ≠ p.off) (hp : p.spot = none) (ha : a.spot = none) : (w.setCell a u).cell? p = w.cell? p := by
  obtain ⟨ab, ao, as'⟩ := a
  obtain ⟨pb, po, ps⟩ := p
  simp only at hne hp ha
  subst hp ha
  unfold World.cell?
  simp only [World.setCell, Array.getElem?_modify]
  by_cases e : ab = pb
  · subst e
    have ho : ao ≠ po := by rcases hne with h | h; exact absurd rfl h; exact h
    simp only [if_true]
    cases w.heap[ab]? with
    | none => rfl
    | some ob =>
      cases ob with
      | cells c t fr =>
        simp only [Option.map_some]
        simp [ho]
      | _ => rfl
  · rw [if_neg e]
theorem cell_setSame {w : World} {b o : Nat} {u v : Value} (h : w.cell? ⟨b, o, none⟩ = some v) : (w.setCell ⟨b, o, none⟩ u).cell? ⟨b, o, none⟩ = some u := by
  unfold World.cell? at h ⊢
  simp only [World.setCell, Array.getElem?_modify]
  simp only [if_true]
  cases hb : w.heap[b]? with
  | none => rw [hb] at h; cases h
  | some ob =>
    rw [hb] at h
    cases ob with
    | cells c t fr =>
      simp only [Option.map_some] at h ⊢
      simp at h ⊢
      have := (Array.getElem?_eq_some_iff.1 h).1
      simp [this]
    | _ => cases h
theorem frozen_set (w : World) (a p : Addr) (u : Value) : (w.setCell a u).frozen? p = w.frozen? p := by
  unfold World.frozen?
  simp only [World.setCell, Array.getElem?_modify]
  by_cases e : a.block = p.block
  · simp only [e, if_true]
    cases w.heap[p.block]? with
    | none => rfl
    | some ob => cases ob <;> rfl
  · simp only [e, if_false]
/-- Cells set, one behind the other. -/
def sets : World → List (Nat × Nat) → List Value → World
  | w, a :: as', u :: us => sets (w.setCell ⟨a.1, a.2, none⟩ u) as' us
  | w, _, _ => w
theorem sets_nil (w : World) (us : List Value) : sets w [] us = w := by cases us <;> rfl
theorem sets_nil' (w : World) (as' : List (Nat × Nat)) : sets w as' [] = w := by cases as' <;> rfl
theorem sets_snoc : ∀ (w : World) (as' : List (Nat × Nat)) (us : List Value) (a : Nat × Nat) (u : Value), as'.length = us.length → sets w (as' ++ [a]) (us ++ [u]) = (sets w as' us).setCell ⟨a.1, a.2, none⟩ u
  | w, [], [], a, u, _ => rfl
  | w, b :: as', v :: us, a, u, h => by
    simp only [List.cons_append, sets]
    exact sets_snoc _ as' us a u (by simpa using h)
theorem sets_size : ∀ (w : World) (as' : List (Nat × Nat)) (us : List Value), (sets w as' us).heap.size = w.heap.size
  | w, [], us => by rw [sets_nil]
  | w, _ :: _, [] => by rw [sets_nil']
  | w, a :: as', u :: us => by
    rw [sets, sets_size]
    simp [World.setCell]
theorem sets_frozen : ∀ (w : World) (as' : List (Nat × Nat)) (us : List Value) (p : Addr), (sets w as' us).frozen? p = w.frozen? p
  | w, [], us, p => by rw [sets_nil]
  | w, _ :: _, [], p => by rw [sets_nil']
  | w, a :: as', u :: us, p => by rw [sets, sets_frozen, frozen_set]
theorem sets_cell : ∀ (w : World) (as' : List (Nat × Nat)) (us : List Value) (b o : Nat), (∀ a ∈ as', a ≠ (b, o)) → (sets w as' us).cell? ⟨b, o, none⟩ = w.cell? ⟨b, o, none⟩
  | w, [], us, b, o, _ => by rw [sets_nil]
  | w, _ :: _, [], b, o, _ => by rw [sets_nil']
  | w, a :: as', u :: us, b, o, h => by
    rw [sets, sets_cell _ as' us b o (fun x hx => h x (List.mem_cons_of_mem _ hx))]
    refine cell_setOther ?_ rfl rfl
    have := h a (List.mem_cons_self ..)
    by_cases e : a.1 = b
    · exact Or.inr (fun e2 => this (Prod.ext e e2))
    · exact Or.inl e
theorem sets_heap : ∀ (w : World) (as' : List (Nat × Nat)) (us : List Value) (b : Nat), (∀ a ∈ as', a.1 ≠ b) → (sets w as' us).heap[b]? = w.heap[b]?
  | w, [], us, b, _ => by rw [sets_nil]
  | w, _ :: _, [], b, _ => by rw [sets_nil']
  | w, a :: as', u :: us, b, h => by
    rw [sets, sets_heap _ as' us b (fun x hx => h x (List.mem_cons_of_mem _ hx))]
    exact Below.heap_setCell _ _ _ _ (Ne.symm (h a (List.mem_cons_self ..)))
/-- What lies below a bound is as it was if all that is set lies above. -/
theorem sets_below : ∀ (B : Nat) (w : World) (as' : List (Nat × Nat)) (us : List Value), (∀ a ∈ as', B ≤ a.1) → Below B w (sets w as' us)
  | B, w, [], us, _ => by rw [sets_nil]; exact Below.refl _ _
  | B, w, _ :: _, [], _ => by rw [sets_nil']; exact Below.refl _ _
  | B, w, a :: as', u :: us, h => by
    rw [sets]
    exact ((Below.refl B w).setCell (p := ⟨a.1, a.2, none⟩) (h a (List.mem_cons_self ..)) _).trans (sets_below B _ as' us (fun x hx => h x (List.mem_cons_of_mem _ hx)))
end Go.Proofs.YtcnfkdecghdphabGreatDoor
