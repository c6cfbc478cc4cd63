/-
  Rows of records that are owned; slices.Reverse by a contract. Conditions: as named.
-/
import Derived.Test.YtebdepbnhemnpaaDoorRingHeld2
import Derived.BigRegion
import Derived.RegionTactic
namespace Go.Proofs.YtebdepbnhemnpaaDoor
open Go.RowKit Go.Extern.Stop Go.Stop Go.Extern

/-- A slice of records that is owned: nil, or a row of its own. -/
def Recs (w : World) (base : Nat) (v : Value) (L : List Rec) : Prop := w.ownsRow base 64 4 v L.length (recCells L)

theorem Recs.form {w : World} {base : Nat} {v : Value} {L : List Rec} (h : Recs w base v L) :
    (v = .slice .none 0 0 ∧ L = []) ∨ ∃ g cap cur, v = .slice (some ⟨g, 0, .none⟩) L.length cap ∧ base ≤ g ∧ w.heap[g]? = some (.cells cur 64 (0, 0)) ∧ L.length ≤ cap ∧ cap ≤ maxLen ∧ cur.size = cap * 4 ∧ cur.toList.take (L.length * 4) = recCells L := by
  obtain ⟨-, ⟨h1, h2⟩ | h⟩ := h
  · exact Or.inl ⟨h1, List.length_eq_zero_iff.1 h2⟩
  · exact Or.inr h
theorem recs_cell {w : World} {g cap : Nat} {cur : Array Value} {L : List Rec} (hg : w.heap[g]? = some (.cells cur 64 (0, 0))) (hx : cur.toList.take (L.length * 4) = recCells L) (_hc : cur.size = cap * 4) (k j : Nat) (hk : k < L.length) (hj : j < 4) :
    w.cell? ⟨g, k * 4 + j, .none⟩ = (L[k].list)[j]? := by
  rw [← recCells_get L k j hk hj, ← hx, List.getElem?_take, if_pos (by omega)]
  simp [World.cell?, hg]
theorem recs_cells {w : World} {g cap : Nat} {cur : Array Value} {L : List Rec} (hg : w.heap[g]? = some (.cells cur 64 (0, 0))) (hx : cur.toList.take (L.length * 4) = recCells L) (hc : cur.size = cap * 4) (k : Nat) (hk : k < L.length) :
    (w.cell? ⟨g, k * 4, .none⟩ = some (.int .i64 (L[k].seq : Int)) ∧ w.cell? ⟨g, k * 4 + 1, .none⟩ = some (.int .i64 (L[k].ent : Int)) ∧ w.cell? ⟨g, k * 4 + 2, .none⟩ = some (.int .i64 (L[k].kind : Int)) ∧ w.cell? ⟨g, k * 4 + 3, .none⟩ = some (.int .i64 (L[k].tick : Int))) ∧
    w.frozen? ⟨g, k * 4, .none⟩ = false ∧ w.frozen? ⟨g, k * 4 + 1, .none⟩ = false ∧ w.frozen? ⟨g, k * 4 + 2, .none⟩ = false ∧ w.frozen? ⟨g, k * 4 + 3, .none⟩ = false := by
  refine ⟨⟨(recs_cell hg hx hc k 0 hk (by decide)).trans rfl, (recs_cell hg hx hc k 1 hk (by decide)).trans rfl, (recs_cell hg hx hc k 2 hk (by decide)).trans rfl, (recs_cell hg hx hc k 3 hk (by decide)).trans rfl⟩, ?_, ?_, ?_, ?_⟩ <;> simp [World.frozen?, hg]
/-- The row of a slice, its cells written. -/
structure SlRow (w : World) (g cap : Nat) (L : List Rec) : Prop where
  row : ∃ cur, w.heap[g]? = some (.cells cur 64 (0, 0)) ∧ cur.size = cap * 4 ∧ cur.toList.take (L.length * 4) = recCells L
theorem SlRow.lt {w : World} {g cap : Nat} {L : List Rec} (h : SlRow w g cap L) : g < w.heap.size := by obtain ⟨cur, hg, -, -⟩ := h.row; exact lt_of_row hg
theorem SlRow.cells {w : World} {g cap : Nat} {L : List Rec} (h : SlRow w g cap L) (k : Nat) (hk : k < L.length) :
    (w.cell? ⟨g, k * 4, .none⟩ = some (.int .i64 (L[k].seq : Int)) ∧ w.cell? ⟨g, k * 4 + 1, .none⟩ = some (.int .i64 (L[k].ent : Int)) ∧ w.cell? ⟨g, k * 4 + 2, .none⟩ = some (.int .i64 (L[k].kind : Int)) ∧ w.cell? ⟨g, k * 4 + 3, .none⟩ = some (.int .i64 (L[k].tick : Int))) ∧
    w.frozen? ⟨g, k * 4, .none⟩ = false ∧ w.frozen? ⟨g, k * 4 + 1, .none⟩ = false ∧ w.frozen? ⟨g, k * 4 + 2, .none⟩ = false ∧ w.frozen? ⟨g, k * 4 + 3, .none⟩ = false := by
  obtain ⟨cur, hg, hc, hx⟩ := h.row
  exact recs_cells hg hx hc k hk
theorem SlRow.set {w : World} {g cap : Nat} {L : List Rec} (h : SlRow w g cap L) (k : Nat) (r : Rec) (hk : k < L.length) :
    SlRow ((((w.setCell ⟨g, k * 4, .none⟩ (.int .i64 (r.seq : Int))).setCell ⟨g, k * 4 + 1, .none⟩ (.int .i64 (r.ent : Int))).setCell ⟨g, k * 4 + 2, .none⟩ (.int .i64 (r.kind : Int))).setCell ⟨g, k * 4 + 3, .none⟩ (.int .i64 (r.tick : Int))) g cap (L.set k r) := by
  obtain ⟨cur, hg, hc, hx⟩ := h.row
  refine ⟨⟨(((cur.setIfInBounds (k * 4) (.int .i64 (r.seq : Int))).setIfInBounds (k * 4 + 1) (.int .i64 (r.ent : Int))).setIfInBounds (k * 4 + 2) (.int .i64 (r.kind : Int))).setIfInBounds (k * 4 + 3) (.int .i64 (r.tick : Int)), ?_, by simp [hc], ?_⟩⟩
  · simp [World.setCell, Array.getElem?_modify, hg]
  · rw [List.length_set, ← recCells_set L k r hk, ← hx]
    simp only [Array.toList_setIfInBounds, List.take_set]
theorem Recs.of_row {w : World} {base g cap : Nat} {L : List Rec} (h : SlRow w g cap L) (hb : base ≤ g) (hl : L.length ≤ cap) (hm : cap ≤ maxLen) : Recs w base (.slice (some ⟨g, 0, .none⟩) L.length cap) L := by
  obtain ⟨cur, hg, hc, hx⟩ := h.row
  exact ⟨by rw [recCells_length]; omega, Or.inr ⟨g, cap, cur, rfl, hb, hg, hl, hm, hc, hx⟩⟩
theorem Recs.row_form {w : World} {base : Nat} {v : Value} {L : List Rec} (h : Recs w base v L) :
    (v = .slice .none 0 0 ∧ L = []) ∨ ∃ g cap, v = .slice (some ⟨g, 0, .none⟩) L.length cap ∧ base ≤ g ∧ SlRow w g cap L ∧ L.length ≤ cap ∧ cap ≤ maxLen := by
  rcases h.form with h | ⟨g, cap, cur, h1, h2, h3, h4, h5, h6, h7⟩
  · exact Or.inl h
  · exact Or.inr ⟨g, cap, h1, h2, ⟨cur, h3, h6, h7⟩, h4, h5⟩

/-- The first and the last i of a list have changed places. -/
def turned (L : List Rec) (i : Nat) : List Rec := (List.range L.length).map fun k => if k < i ∨ L.length - 1 - i < k then L.getD (L.length - 1 - k) .none else L.getD k .none
theorem turned_length (L : List Rec) (i : Nat) : (turned L i).length = L.length := by simp [turned]
theorem turned_get (L : List Rec) (i k : Nat) (hk : k < (turned L i).length) : (turned L i)[k] = if k < i ∨ L.length - 1 - i < k then L.getD (L.length - 1 - k) .none else L.getD k .none := by simp [turned]
theorem turned_zero (L : List Rec) : turned L 0 = L := by
  apply List.ext_getElem (turned_length L 0)
  intro k h1 h2
  rw [turned_get, if_neg (by omega), List.getD_eq_getElem?_getD, List.getElem?_eq_getElem h2]; rfl
theorem turned_end (L : List Rec) (i : Nat) (h : ¬ ((i : Int) < (L.length : Int) - 1 - i)) : turned L i = L.reverse := by
  apply List.ext_getElem (by rw [turned_length, List.length_reverse])
  intro k h1 h2
  rw [turned_length] at h1
  rw [turned_get, List.getElem_reverse, List.getD_eq_getElem?_getD, List.getD_eq_getElem?_getD]
  by_cases hc : k < i ∨ L.length - 1 - i < k
  · rw [if_pos hc, List.getElem?_eq_getElem (by omega)]; rfl
  · rw [if_neg hc, List.getElem?_eq_getElem h1]
    have e : L.length - 1 - k = k := by omega
    simp only [e]; rfl
theorem turned_succ (L : List Rec) (i j : Nat) (hj : i + j = L.length - 1) (hij : i < j) (hjl : j < L.length) :
    ((turned L i).set i (L.getD j .none)).set j (L.getD i .none) = turned L (i + 1) := by
  apply List.ext_getElem (by simp [turned])
  intro k h1 h2
  rw [turned_length] at h2
  rw [List.getElem_set, turned_get]
  by_cases e1 : j = k
  · subst e1
    rw [if_pos rfl, if_pos (by omega), show L.length - 1 - j = i by omega]
  · rw [if_neg e1, List.getElem_set]
    by_cases e2 : i = k
    · subst e2
      rw [if_pos rfl, if_pos (by omega), show L.length - 1 - i = j by omega]
    · rw [if_neg e2, turned_get]
      by_cases hc : k < i ∨ L.length - 1 - i < k
      · rw [if_pos hc, if_pos (by omega)]
      · rw [if_neg hc, if_neg (by omega)]
end Go.Proofs.YtebdepbnhemnpaaDoor
