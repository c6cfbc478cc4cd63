/-
  The slots of a log: ring.slotOf and (ring.log).held by contracts. Conditions: the cells lie in memory.
-/
import Derived.Test.YtebdepbnhemnpaaDoorRingDec
namespace Go.Proofs.YtebdepbnhemnpaaDoor
open Go.RowKit Go.Extern.Stop Go.Stop Go.Extern

theorem slotOf_any (n : Nat) (w : World) (h : 1 ≤ n) (h2 : n < 9223372036854775808) :
    Calls Tryd.prog 75 #[.int .i64 (n : Int)] w fun e w' => e = .returned (.int .i64 (((n - 1) % 9 : Nat) : Int)) ∧ w' = w := by
  obtain ⟨m, rfl⟩ : ∃ m, n = m + 1 := ⟨n - 1, by omega⟩
  have e : ((m + 1 : Nat) : Int) - 1 = (m : Int) := by omega
  go_enter Tryd.func75, Tryd.ntmps75
  go_wp2
  go_ret
  refine ⟨?_, rfl⟩
  show Ending.returned (.int .i64 ((m : Int) % 9)) = _
  rw [show ((m : Int) % 9) = (((m + 1 - 1) % 9 : Nat) : Int) by omega]

def recCells (L : List Rec) : List Value := L.flatMap Rec.list
theorem recCells_length (L : List Rec) : (recCells L).length = 4 * L.length := by
  induction L with
  | nil => rfl
  | cons x r ih => simp only [recCells, List.flatMap_cons, List.length_append] at ih ⊢; rw [ih]; simp [Rec.list]; omega
theorem recCells_cons (x : Rec) (L : List Rec) : recCells (x :: L) = x.list ++ recCells L := rfl
theorem recCells_append (K L : List Rec) : recCells (K ++ L) = recCells K ++ recCells L := by simp [recCells]
theorem recCells_get (L : List Rec) : ∀ (k j : Nat) (hk : k < L.length), j < 4 → (recCells L)[k * 4 + j]? = (L[k].list)[j]? := by
  induction L with
  | nil => intro k j hk; simp at hk
  | cons x r ih =>
    intro k j hk hj
    rw [recCells_cons]
    cases k with
    | zero => rw [List.getElem?_append_left (by simp [Rec.list]; omega)]; simp
    | succ k =>
      rw [List.getElem?_append_right (by simp [Rec.list]; omega), show (k + 1) * 4 + j - x.list.length = k * 4 + j by simp [Rec.list]; omega]
      exact ih k j (by simpa using hk) hj
theorem recCells_set (L : List Rec) : ∀ (k : Nat) (r : Rec), k < L.length →
    ((((recCells L).set (k * 4) (.int .i64 (r.seq : Int))).set (k * 4 + 1) (.int .i64 (r.ent : Int))).set (k * 4 + 2) (.int .i64 (r.kind : Int))).set (k * 4 + 3) (.int .i64 (r.tick : Int)) = recCells (L.set k r) := by
  induction L with
  | nil => intro k r hk; simp at hk
  | cons x t ih =>
    intro k r hk
    cases k with
    | zero => simp [recCells_cons, Rec.list]
    | succ k =>
      have := ih k r (by simpa using hk)
      rw [List.set_cons_succ, recCells_cons, recCells_cons, ← this]
      have e : ∀ j, (k + 1) * 4 + j = (k * 4 + j) + 4 := fun j => by omega
      rw [show (k + 1) * 4 = (k * 4 + 0) + 4 by omega]
      simp [Rec.list]

structure RecsRow (w : World) (b : Nat) (L : List Rec) : Prop where
  heap : w.heap[b]? = some (.cells (recCells L).toArray 105 (0, 0))
theorem RecsRow.cell {w : World} {b : Nat} {L : List Rec} (h : RecsRow w b L) (k j : Nat) (hk : k < L.length) (hj : j < 4) : w.cell? ⟨b, k * 4 + j, .none⟩ = (L[k].list)[j]? := by
  rw [← recCells_get L k j hk hj]
  simp [World.cell?, h.heap]
theorem RecsRow.frozen {w : World} {b : Nat} {L : List Rec} (h : RecsRow w b L) (i : Nat) : w.frozen? ⟨b, i, .none⟩ = false := by simp [World.frozen?, h.heap]
theorem RecsRow.below {w w' : World} {b B : Nat} {L : List Rec} (h : RecsRow w b L) (hb : Below B w w') (hlt : b < B) : RecsRow w' b L := ⟨(hb.block b hlt).trans h.heap⟩
theorem RecsRow.lt {w : World} {b : Nat} {L : List Rec} (h : RecsRow w b L) : b < w.heap.size := lt_of_row h.heap
theorem RecsRow.set {w : World} {b : Nat} {L : List Rec} (h : RecsRow w b L) (k : Nat) (r : Rec) (hk : k < L.length) :
    RecsRow ((((w.setCell ⟨b, k * 4, .none⟩ (.int .i64 (r.seq : Int))).setCell ⟨b, k * 4 + 1, .none⟩ (.int .i64 (r.ent : Int))).setCell ⟨b, k * 4 + 2, .none⟩ (.int .i64 (r.kind : Int))).setCell ⟨b, k * 4 + 3, .none⟩ (.int .i64 (r.tick : Int))) b (L.set k r) := by
  refine ⟨?_⟩
  rw [← recCells_set L k r hk]
  simp [World.setCell, Array.getElem?_modify, h.heap]
theorem recs_grown (w : World) (b o : Nat) (v0 v1 v2 v3 : Value) :
    w.grownBy ((((w.setCell ⟨b, o, .none⟩ v0).setCell ⟨b, o + 1, .none⟩ v1).setCell ⟨b, o + 2, .none⟩ v2).setCell ⟨b, o + 3, .none⟩ v3) (some b) :=
  grown_set (grown_set (grown_set (grown_set (grown_refl _ _) _ _) _ _) _ _) _ _

def slotB (l : List UInt8) (i : Nat) : List UInt8 := (l.drop (i * 17)).take 17
def slotR (l : List UInt8) (i : Nat) : Rec := if decB (slotB l i) = true ∧ ((decR (slotB l i)).seq - 1) % 9 = i then decR (slotB l i) else .none
def helds (l : List UInt8) (k : Nat) : List Rec := (List.range 9).map fun i => if i < k then slotR l i else .none
theorem helds_length (l : List UInt8) (k : Nat) : (helds l k).length = 9 := by simp [helds]
theorem helds_succ (l : List UInt8) (k : Nat) (_hk : k < 9) : helds l (k + 1) = (helds l k).set k (slotR l k) := by
  apply List.ext_getElem (by simp [helds])
  intro i h1 h2
  rw [List.getElem_set]
  simp only [helds, List.getElem_map, List.getElem_range]
  by_cases e : k = i
  · subst e; simp
  · simp only [if_neg e]
    by_cases h : i < k
    · rw [if_pos h, if_pos (by omega)]
    · rw [if_neg h, if_neg (by omega)]
theorem helds_zero (l : List UInt8) : helds l 0 = List.replicate 9 .none := by simp [helds, List.map_const']
theorem dec_seq {l : List UInt8} (h : decB l = true) : 1 ≤ (decR l).seq ∧ (decR l).seq < 4294967296 ∧ decR l = dec0 l ∧ enc (dec0 l) = l := by
  unfold decB at h
  unfold decR
  unfold dec at h ⊢
  split
  · rename_i hc; rw [if_pos hc] at h; simp at h
  · rename_i hc
    simp only [not_or, Decidable.not_not] at hc
    refine ⟨by simp; omega, ?_, rfl, hc.2⟩
    have := num_lt (l.take 4)
    have h4 : (l.take 4).length ≤ 4 := by rw [List.length_take]; omega
    have : 256 ^ (l.take 4).length ≤ 256 ^ 4 := Nat.pow_le_pow_right (by decide) h4
    simp [dec0]
    omega
end Go.Proofs.YtebdepbnhemnpaaDoor
