/-
  slices.Delete(s, 0, 1) of eight records by a contract. Conditions: as named.
-/
import Derived.Test.YtebdepbnhemnpaaDoorRingPut
import Derived.Deep.RegionLaw
namespace Go.Proofs.YtebdepbnhemnpaaDoor
open Go.RowKit Go.Extern.Stop Go.Stop Go.Extern

def setFrom (cur : Array Value) : Nat → List Value → Array Value
  | _, [] => cur
  | o, v :: r => setFrom (cur.setIfInBounds o v) (o + 1) r
theorem setFrom_size (vs : List Value) : ∀ (cur : Array Value) (o : Nat), (setFrom cur o vs).size = cur.size := by
  induction vs with
  | nil => intro cur o; rfl
  | cons v r ih => intro cur o; simp only [setFrom, ih]; simp
theorem setFrom_list (vs : List Value) : ∀ (cur : Array Value) (o : Nat), o + vs.length ≤ cur.size → (setFrom cur o vs).toList = cur.toList.take o ++ vs ++ cur.toList.drop (o + vs.length) := by
  induction vs with
  | nil => intro cur o h; simp [setFrom]
  | cons y r ih =>
    intro cur o h
    simp only [List.length_cons] at h
    have e := ih (cur.setIfInBounds o y) (o + 1) (by simp; omega)
    simp only [setFrom, e, List.length_cons]
    have hl : o < cur.toList.length := by simp; omega
    have hset : (cur.setIfInBounds o y).toList = cur.toList.take o ++ y :: cur.toList.drop (o + 1) := by
      rw [Array.toList_setIfInBounds, List.set_eq_take_append_cons_drop, if_pos hl]
    have hlp : (cur.toList.take o).length = o := by rw [List.length_take]; omega
    have e1 : o + 1 - o = 1 := by omega
    have e2 : o + 1 + r.length - o = r.length + 1 := by omega
    have e3 : o + 1 + r.length = o + (r.length + 1) := by omega
    have t1 : (cur.toList.take o ++ y :: cur.toList.drop (o + 1)).take (o + 1) = cur.toList.take o ++ [y] := by
      rw [List.take_append, hlp, e1, List.take_of_length_le (l := cur.toList.take o) (by rw [hlp]; omega)]; rfl
    have t0 : (cur.toList.take o).drop (o + 1 + r.length) = [] := List.drop_eq_nil_of_le (by rw [hlp]; omega)
    have t2 : (cur.toList.take o ++ y :: cur.toList.drop (o + 1)).drop (o + 1 + r.length) = cur.toList.drop (o + 1 + r.length) := by
      rw [List.drop_append, hlp, e2, t0, List.drop_succ_cons, List.drop_drop]; rfl
    rw [hset, t1, t2, e3]
    simp
theorem setCells_row {b : Nat} {t : TypeId} : ∀ (vs : List Value) (o : Nat) (w : World) (cur : Array Value), w.heap[b]? = some (.cells cur t (0, 0)) → (w.setCells b o vs).heap[b]? = some (.cells (setFrom cur o vs) t (0, 0)) := by
  intro vs
  induction vs with
  | nil => intro o w cur h; exact h
  | cons v r ih =>
    intro o w cur h
    exact ih (o + 1) _ _ (by simp only [World.setCell, Array.getElem?_modify, h]; simp)
theorem setCells_grown (b : Nat) : ∀ (vs : List Value) (o : Nat) (w : World), w.grownBy (w.setCells b o vs) (some b) := by
  intro vs
  induction vs with
  | nil => intro o w; exact grown_refl _ _
  | cons v r ih => intro o w; exact grown_trans (grown_set (grown_refl _ _) _ _) (ih (o + 1) _)
theorem clear_rec (w : World) (g o c : Nat) (hc : ∀ j, j < 4 → (w.cell? ⟨g, o + j, .none⟩).isSome = true) (hf : ∀ j, j < 4 → w.frozen? ⟨g, o + j, .none⟩ = false) :
    (Builtin.clear_ #[61] 0 #[.slice (some ⟨g, o, .none⟩) 1 c]).run Tryd.prog w = .ok (.tuple #[]) (w.setCells g o Rec.none.list) := by
  have hv : (zeroValue 64).run Tryd.prog w = .ok (.agg #[.int .i64 0, .int .i64 0, .int .i64 0, .int .i64 0]) w := by kernel_rfl
  have hzc : (Builtin.zeroCells (Value.agg #[.int .i64 0, .int .i64 0, .int .i64 0, .int .i64 0]).cells 1).toList = Rec.none.list := by kernel_rfl
  have hst := run_storeCells_cells (P := Tryd.prog) g o Rec.none.list 0 w (by intro j hj; exact hc j hj) (by intro j hj; exact hf j hj) (list_one _)
  simp only [Nat.add_zero] at hst
  simp [Builtin.clear_, run_underlying Tryd.underlying61, hv, hzc, hst]

set_option maxRecDepth 100000 in
set_option maxHeartbeats 1000000 in
theorem delete_row (g cap : Nat) (x : Rec) (L : List Rec) (w : World) (h : SlRow w g cap (x :: L)) (hl : L.length = 7) (hc : 8 ≤ cap) (hm : cap ≤ maxLen) :
    Calls Tryd.prog 79 #[.slice (some ⟨g, 0, .none⟩) 8 cap, .int .i64 0, .int .i64 1] w fun e w' => e = .returned (.slice (some ⟨g, 0, .none⟩) 7 cap) ∧ SlRow w' g cap L ∧ w.grownBy w' (some g) := by
  obtain ⟨i0, hi, hz0, hz1, hz2⟩ := Tryd.infoRec
  unfold maxLen at hm
  have hc1 : ¬ cap = 1 := by omega
  have hc2 : ¬ cap = 7 := by omega
  have hc3 : (8 : Int) ≤ (cap : Int) := by omega
  have s1 : Hid ((recCells L).length = 7 * 4) := by show _ = _; rw [recCells_length, hl]
  have s2 : Hid (∀ u ∈ recCells L, u.oneCell' = true) := fun u hu => Array.all_eq_true_iff_forall_mem.1 (recs_one L) u (by simpa using hu)
  have s3 : Hid (∀ j u, (recCells L)[j]? = some u → w.drew.cell? ((⟨g, 4, .none⟩ : Addr).add j) = some u) := fun j u hu => by
    have e := h.raw (4 + j) u (by rw [recCells_cons, List.getElem?_append_right (by simp [Rec.list])]; simpa [Rec.list] using hu)
    have e1 : (⟨g, 0, .none⟩ : Addr).add (4 + j) = (⟨g, 4, .none⟩ : Addr).add j := by unfold Addr.add; simp
    rw [e1] at e
    exact e
  have s4 : Hid (∀ j, j < (recCells L).length → (w.drew.cell? ⟨g, 0 + 0 * 4 + j, .none⟩).isSome = true ∧ w.drew.frozen? ⟨g, 0 + 0 * 4 + j, .none⟩ = false) := fun j hj => by
    obtain ⟨cur, hg, h2, -⟩ := h.row
    rw [s1.out] at hj
    rw [Nat.zero_mul, Nat.zero_add]
    refine ⟨?_, by show w.frozen? _ = false; simp [World.frozen?, hg]⟩
    show (w.cell? _).isSome = true
    simp only [World.cell?, hg]
    simp
    omega
  obtain ⟨cur, hg, hcs, -⟩ := h.row
  have hW1 : (w.drew.setCells g 0 (recCells L)).heap[g]? = some (.cells (setFrom cur 0 (recCells L)) 64 (0, 0)) := setCells_row _ _ _ _ hg
  have hz1' := setFrom_size (recCells L) cur 0
  have hcl := clear_rec (w.drew.setCells g 0 (recCells L)) g 28 (cap - 7) (fun j hj => by simp only [World.cell?, hW1]; simp; omega) (fun j hj => by simp [World.frozen?, hW1])
  have HF : Hid (SlRow ((w.drew.setCells g 0 (recCells L)).setCells g 28 Rec.none.list) g cap L ∧ w.grownBy ((w.drew.setCells g 0 (recCells L)).setCells g 28 Rec.none.list) (some g)) := by
    refine ⟨⟨⟨_, setCells_row _ _ _ _ hW1, by rw [setFrom_size, hz1', hcs], ?_⟩⟩, grown_trans (grown_below (grown_refl _ _) ((Below.refl _ _).drew)) (grown_trans (setCells_grown _ _ _ _) (setCells_grown _ _ _ _))⟩
    have l28 := s1.out
    rw [setFrom_list _ _ _ (by rw [hz1', hcs]; simp [Rec.list, Rec.none]; omega), setFrom_list _ _ _ (by rw [hcs, l28]; omega), hl, List.append_assoc, List.take_append, List.take_zero, List.nil_append]
    have e : ((recCells L ++ cur.toList.drop (0 + (recCells L).length)).take 28) = recCells L := by
      rw [List.take_append, l28, List.take_of_length_le (by rw [l28]; decide)]; simp
    rw [e, List.take_of_length_le (by rw [l28]; decide), l28]
    simp
  clear hW1 hz1' hg hcs
  go_enter Tryd.func79, Tryd.ntmps79
  go_wp2_with fail
  go_region_law (refine step_append_room rfl (.tmp 22) (.tmp 25) 61 rfl 64 i0 4 Tryd.underlying61 hi hz1 g 0 0 cap (by simp [Act.eval, Act.put]) ⟨g, 4, .none⟩ 7 (cap - 1) (recCells L) (by simp [Act.eval, Act.put]) s1.out s3.out s2.out (by omega) s4.out ?_)
  go_wp2
  go_ret
  exact ⟨rfl, HF.out⟩
end Go.Proofs.YtebdepbnhemnpaaDoor
