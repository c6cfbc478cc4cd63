/-
  slices.Reverse, slices.Clone of records by contracts. Conditions: as named.
-/
import Derived.Test.YtebdepbnhemnpaaDoorRingSl
import Derived.Lib.SliceRun
namespace Go.Proofs.YtebdepbnhemnpaaDoor
open Go.RowKit Go.Extern.Stop Go.Stop Go.Extern

theorem turned_mid (L : List Rec) (i k : Nat) (hk : k < (turned L i).length) (h : ¬ (k < i ∨ L.length - 1 - i < k)) : (turned L i)[k] = L.getD k .none := by rw [turned_get, if_neg h]

theorem SlRow.drew {w : World} {g cap : Nat} {L : List Rec} (h : SlRow w g cap L) : SlRow w.drew g cap L := ⟨h.row⟩
theorem SlRow.below {w w' : World} {g cap B : Nat} {L : List Rec} (h : SlRow w g cap L) (hb : Below B w w') (hlt : g < B) : SlRow w' g cap L := by
  obtain ⟨cur, hg, h2, h3⟩ := h.row
  exact ⟨⟨cur, (hb.block g hlt).trans hg, h2, h3⟩⟩
theorem SlRow.raw {w : World} {g cap : Nat} {L : List Rec} (h : SlRow w g cap L) (j : Nat) (u : Value) (hu : (recCells L)[j]? = some u) : w.cell? ((⟨g, 0, .none⟩ : Addr).add j) = some u := by
  obtain ⟨cur, hg, h2, h3⟩ := h.row
  have hj := (List.getElem?_eq_some_iff.1 hu).1
  rw [recCells_length] at hj
  rw [← h3, List.getElem?_take, if_pos (by omega)] at hu
  have ea : (⟨g, 0, .none⟩ : Addr).add j = ⟨g, j, .none⟩ := by unfold Addr.add; split <;> simp_all
  rw [ea]
  simp only [World.cell?, hg]
  simpa using hu
theorem swap_grown {w wr : World} {g : Nat} (hg : w.grownBy wr (some g)) (o p : Nat) (v0 v1 v2 v3 v4 v5 v6 v7 : Value) :
    w.grownBy ((((((((wr.setCell ⟨g, o, .none⟩ v0).setCell ⟨g, o + 1, .none⟩ v1).setCell ⟨g, o + 2, .none⟩ v2).setCell ⟨g, o + 3, .none⟩ v3).setCell ⟨g, p, .none⟩ v4).setCell ⟨g, p + 1, .none⟩ v5).setCell ⟨g, p + 2, .none⟩ v6).setCell ⟨g, p + 3, .none⟩ v7).drew (some g) :=
  grown_below (grown_trans hg (grown_trans (recs_grown _ _ _ _ _ _ _) (recs_grown _ _ _ _ _ _ _))) ((Below.refl _ _).drew)

set_option maxRecDepth 100000 in
set_option maxHeartbeats 4000000 in
theorem reverse_row (g cap : Nat) (L : List Rec) (w : World) (h : SlRow w g cap L) (hl : L.length ≤ 100) :
    Calls Tryd.prog 76 #[.slice (some ⟨g, 0, .none⟩) L.length cap] w fun e w' => e = .returned (.tuple #[]) ∧ SlRow w' g cap L.reverse ∧ w.grownBy w' (some g) ∧ w'.heap.size = w.heap.size := by
  go_enter Tryd.func76, Tryd.ntmps76
  go_wp2_with fail
  go_loopw [2, 3] (fun a b wr => ∃ i : Nat, i ≤ L.length ∧ a = .int .i64 i ∧ b = .int .i64 ((L.length : Int) - 1 - i) ∧ SlRow wr g cap (turned L i) ∧ w.grownBy wr (some g) ∧ wr.heap.size = w.heap.size) (fun a _ _ => L.length + 1 - (intOf a).toNat)
  case atStart => exact ⟨0, Nat.zero_le _, rfl, by simp, by rw [turned_zero]; exact h, grown_refl _ _, rfl⟩
  case round =>
    obtain ⟨i, hi, rfl, rfl, hrow, hg, hsz⟩ := hrel
    by_cases hij : (i : Int) < (L.length : Int) - 1 - i
    · obtain ⟨j, hj⟩ : ∃ j : Nat, (L.length : Int) - 1 - i = j := ⟨L.length - 1 - i, by omega⟩
      rw [hj] at hij ⊢
      have hlen := turned_length L i
      have mi := turned_mid L i i (by omega) (by omega)
      have mj := turned_mid L i j (by omega) (by omega)
      obtain ⟨⟨a0, a1, a2, a3⟩, p0, p1, p2, p3⟩ := hrow.cells i (by omega)
      obtain ⟨⟨b0, b1, b2, b3⟩, q0, q1, q2, q3⟩ := hrow.cells j (by omega)
      have R := (hrow.set i (L.getD j .none) (by omega)).set j (L.getD i .none) (by simp; omega)
      rw [turned_succ L i j (by omega) (by omega) (by omega)] at R
      have HR : Hid _ := R
      rw [mi] at a0 a1 a2 a3
      rw [mj] at b0 b1 b2 b3
      have i0 : (0 : Int) ≤ (i : Int) := by omega
      have i1 : (i : Int) < (L.length : Int) := by omega
      have j0 : (0 : Int) ≤ (j : Int) := by omega
      have j1 : (j : Int) < (L.length : Int) := by omega
      have hne : ¬ i = j := by omega
      clear R mi mj hrow
      generalize L.getD i .none = x at *
      generalize L.getD j .none = y at *
      go_wp2_with fail
      go_region
      go_wp2_with fail
      exact ⟨⟨i + 1, by omega, by go_num, by rw [show (j : Int) - 1 = (L.length : Int) - 1 - ((i + 1 : Nat) : Int) by omega], HR.out.drew, swap_grown hg _ _ _ _ _ _ _ _ _ _, by simp; exact hsz⟩, by simp [intOf]; omega⟩
    · have e := turned_end L i hij
      rw [e] at hrow
      clear e
      go_wp2
      go_end0
      exact ⟨rfl, hrow, hg, hsz⟩

theorem reverse_any (base : Nat) (v : Value) (L : List Rec) (w : World) (h : Recs w base v L) (hl : L.length ≤ 100) (hb : base ≤ w.heap.size) :
    Calls Tryd.prog 76 #[v] w fun e w' => e = .returned (.tuple #[]) ∧ Recs w' base v L.reverse ∧ Below base w w' := by
  rcases h.row_form with ⟨rfl, rfl⟩ | ⟨g, cap, rfl, hbg, hrow, hlc, hm⟩
  · go_enter Tryd.func76, Tryd.ntmps76
    go_wp2_with fail
    go_loopw [2, 3] (fun a b wr => a = .int .i64 0 ∧ b = .int .i64 (-1) ∧ wr = w) (fun _ _ _ => 0)
    case atStart => exact ⟨rfl, rfl, rfl⟩
    case round =>
      obtain ⟨rfl, rfl, rfl⟩ := hrel
      go_wp2
      go_end0
      exact ⟨rfl, h, Below.refl _ _⟩
  · refine (reverse_row g cap L w hrow hl).mono ?_
    rintro e w' ⟨rfl, hr, hg, -⟩
    have := Recs.of_row hr hbg (by simpa using hlc) hm
    rw [List.length_reverse] at this
    exact ⟨rfl, this, below_grown (Below.refl _ _) hg hb hbg⟩

theorem Tryd.infoRec : ∃ i : TypeInfo, Tryd.prog.info? 64 = some i ∧ i.zero = some (.agg #[.int .i64 0, .int .i64 0, .int .i64 0, .int .i64 0]) ∧ i.size = 4 ∧ i.bytes = 32 := by
  have h : (Tryd.prog.info? 64).map (fun i => (i.zero, i.size, i.bytes)) = some (some (.agg #[.int .i64 0, .int .i64 0, .int .i64 0, .int .i64 0]), 4, 32) := by kernel_rfl
  obtain ⟨i, hi, he⟩ := Option.map_eq_some_iff.1 h
  simp only [Prod.mk.injEq] at he
  exact ⟨i, hi, he.1, he.2.1, he.2.2⟩

set_option maxRecDepth 100000 in
set_option maxHeartbeats 4000000 in
theorem clone_any (base : Nat) (v : Value) (L : List Rec) (w : World) (h : Recs w base v L) (hl : L.length ≤ 100) :
    Calls Tryd.prog 61 #[v] w fun e w' => ∃ v', e = .returned v' ∧ Recs w' w.heap.size v' L ∧ Below w.heap.size w w' := by
  rcases h.row_form with ⟨rfl, rfl⟩ | ⟨g, cap, rfl, hbg, hrow, hlc, hm⟩
  · go_enter Tryd.func61, Tryd.ntmps61
    have hq := Lib.run_eql_slice_nil (P := Tryd.prog) w 61 64 .none 0 0 0 0 Tryd.underlying61
    go_wp2
    go_ret
    exact ⟨_, rfl, World.ownsRow_nil _ _ _ _, Below.refl _ _⟩
  · go_enter Tryd.func61, Tryd.ntmps61
    have hq := Lib.run_eql_slice_nil (P := Tryd.prog) w 61 64 (some ⟨g, 0, .none⟩) L.length cap 0 0 Tryd.underlying61
    obtain ⟨i0, hi, hz0, hz1, hz2⟩ := Tryd.infoRec
    have hown := World.ownsRow_made (base := w.heap.size) (e := 64) (size := 4) w #[] 0 (Nat.le_refl _) (by decide) rfl
    have hcs : Hid (∀ j u, (recCells L)[j]? = some u → (w.alloc (.cells #[] 64)).cell? ((⟨g, 0, .none⟩ : Addr).add j) = some u) := fun j u hu =>
      (hrow.below ((Below.refl w.heap.size w).alloc (Nat.le_refl _) _) hrow.lt).raw j u hu
    have hones : Hid (∀ u ∈ recCells L, u.oneCell' = true) := fun u hu => Array.all_eq_true_iff_forall_mem.1 (recs_one L) u (by simpa using hu)
    have hll : Hid ((recCells L).length = L.length * 4) := by show _ = _; rw [recCells_length]; omega
    clear h hrow
    go_wp2_with (at_builtin; refine wpList_append_own _ rfl (.tmp 5) (.tmp 6) 61 rfl w.heap.size 64 i0 (.agg #[.int .i64 0, .int .i64 0, .int .i64 0, .int .i64 0]) 4 32 Tryd.underlying61 hi hz0 hz1 hz2 rfl (by decide) _ _ _ rfl hown ⟨g, 0, .none⟩ L.length cap (recCells L) rfl hll.out hcs.out hones.out (by unfold maxLen; omega) (by omega) (by simp) ?_; intro v8 w8 hown8 hgrow8 hlt8)
    go_ret
    rw [List.nil_append, Nat.zero_add] at hown8
    exact ⟨_, rfl, hown8, ((Below.refl _ _).alloc (Nat.le_refl _) _).grown hgrow8 (by simp) (fun k hk => by cases hk; exact Nat.le_refl _)⟩
end Go.Proofs.YtebdepbnhemnpaaDoor
