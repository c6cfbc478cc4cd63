/-
  One act on the cells and on the document's cells, side by side: both answer the same number, and stay the same cells. Conditions: both lie in memory, and are the same ('Sim').
-/
import Derived.Test.YtebdepbnhemnpaaDoorSim
import Derived.Test.YtebdepbnhemnpaaDoorCut
namespace Go.Proofs.YtebdepbnhemnpaaDoor
open Go.RowKit Go.Extern.Stop Go.Stop Go.Extern

theorem CSt.err_cases (s : CSt) (p n : Int) : s.err p n = 0 ∨ s.err p n = 1 + 1 ∨ s.err p n = 7 + 1 := by
  unfold CSt.err
  split
  · exact Or.inr (Or.inl rfl)
  · split
    · exact Or.inr (Or.inr rfl)
    · exact Or.inl rfl
theorem CSt.err_zero {s : CSt} {p n : Int} (h : s.err p n = 0) : 0 ≤ p ∧ 0 ≤ n ∧ p + n ≤ s.size ∧ s.off = false := by
  unfold CSt.err at h
  split at h
  · cases h
  · split at h
    · cases h
    · rename_i h1 h2
      exact ⟨by omega, by omega, by omega, by simpa using h2⟩

/-- coded(the error of number j, j). -/
theorem coded_same (A : Nat → Addr) (j : Nat) (w : World) (hs : Senv A w) (hj : j ≤ 11) :
    Calls Tryd.prog 15 #[errVal A j, .int .i64 (j : Int)] w fun e w' => e = .returned (.bool true) ∧ Below w.heap.size w w' := by
  cases j with
  | zero => exact (coded_nil 0 w).mono fun e w' ⟨he, hw⟩ => by subst hw; exact ⟨he, Below.refl _ _⟩
  | succ i => exact (coded_sent A i ((i + 1 : Nat) : Int) w hs (by omega)).mono fun e w' ⟨he, hb⟩ => ⟨by rw [he]; simp, hb⟩

/-- Write on both. -/
theorem write_both (A : Nat → Addr) (bc bm : Nat) (s : CSt) (m : MSt) (p : Int) (t : ByteArray) (hsim : Sim s m) (hgm : 12 ≤ bc) (hA : ∀ i, i < 11 → (A i).block ≠ bc) (hw : s.written + t.size ≤ 1099511627776) (hp : p ≤ 9223372036854775807) :
    ∃ (s' : CSt) (m' : MSt) (j : Nat), j ≤ 11 ∧ Sim s' m' ∧ s'.written ≤ s.written + t.size ∧
      (∀ wa, CellsAt wa bc s → Senv A wa → Calls Tryd.prog 20 #[.pointer (some ⟨bc, 0, none⟩), .int .i64 p, .string t] wa fun e w' => e = .returned (errVal A j) ∧ CellsAt w' bc s' ∧ wa.grownBy w' (some bc)) ∧
      (∀ wb, ModAt wb bm m → Calls Tryd.prog 27 #[.pointer (some ⟨bm, 0, none⟩), .int .i64 p, .string t] wb fun e w' => e = .returned (.int .i64 (j : Int)) ∧ ModAt w' bm m' ∧ wb.grownBy w' (some bm)) := by
  have hbz : m.B.size ≤ 4096 := by rw [hsim.bsize]; exact hsim.size
  have hno : ∀ i, s.err p t.size = i + 1 → i < 11 → ∃ (s' : CSt) (m' : MSt) (j : Nat), j ≤ 11 ∧ Sim s' m' ∧ s'.written ≤ s.written + t.size ∧
      (∀ wa, CellsAt wa bc s → Senv A wa → Calls Tryd.prog 20 #[.pointer (some ⟨bc, 0, none⟩), .int .i64 p, .string t] wa fun e w' => e = .returned (errVal A j) ∧ CellsAt w' bc s' ∧ wa.grownBy w' (some bc)) ∧
      (∀ wb, ModAt wb bm m → Calls Tryd.prog 27 #[.pointer (some ⟨bm, 0, none⟩), .int .i64 p, .string t] wb fun e w' => e = .returned (.int .i64 (j : Int)) ∧ ModAt w' bm m' ∧ wb.grownBy w' (some bm)) := fun i he hi =>
    ⟨s, m, i + 1, by omega, hsim, by omega,
      fun wa h hs => (write_no A bc s p t i wa h hs hp he).mono fun e w' ⟨h1, h2⟩ => by subst h2; exact ⟨h1, h, grown_refl _ _⟩,
      fun wb h => (mwrite_no bm m p t i wb h hbz hp (by rw [hsim.err]; exact he)).mono fun e w' ⟨h1, h2⟩ => by subst h2; exact ⟨h1, h, grown_refl _ _⟩⟩
  rcases s.err_cases p t.size with he | he | he
  · obtain ⟨hp0, -, hfit, hoff⟩ := CSt.err_zero he
    obtain ⟨q, rfl⟩ := Int.eq_ofNat_of_zero_le hp0
    have hme : m.err q t.size = 0 := by rw [hsim.err]; exact he
    have hmw : m.written + t.size ≤ 1099511627776 := by rw [hsim.written]; exact hw
    have hfit' : q + t.size ≤ s.size := by omega
    by_cases hc : s.cut = true ∧ s.left < t.size
    · have hl := hsim.left hc.1
      have hmc : m.cuts = true := by rw [hsim.cut]; exact hc.1
      have hlen : (t.data.toList.take s.left).length = s.left := by rw [List.length_take]; simp; omega
      refine ⟨{ s.puts q (t.data.toList.take s.left) with off := true }, { B := m.splice q m.left t, off := true, left := 0, cuts := true, written := m.written + m.left }, 8, by decide, ?_, ?_, fun wa h hs => ?_, fun wb h => ?_⟩
      · have := (hsim.puts q s.left t (t.extract 0 s.left) 0 (by omega) hfit' (by rw [Lib.extract_data]; simp) (fun _ => by omega) (by omega)).mono_off true
        unfold MSt.splice
        rw [hl]
        rw [hmc] at this
        exact this
      · show (s.puts q (t.data.toList.take s.left)).written ≤ _
        rw [CSt.puts_written, hlen]; omega
      · have hwr : s.write q t.data.toList = ({ s.puts q (t.data.toList.take s.left) with off := true }, 8) := by unfold CSt.write; rw [if_pos ⟨hc.1, by simpa using hc.2⟩]
        exact (write_to A bc s _ _ q t wa h hs hgm hA hw hsim.bl he hwr).mono fun e w' ⟨h1, h2, h3, _⟩ => ⟨h1, h2, h3⟩
      · exact (mwrite_cut bm m q t wb h hbz hme hmc (by omega) hmw).mono fun e w' ⟨h1, h2, h3, _⟩ => ⟨h1, h2, h3⟩
    · have ht : t.data.toList.take t.size = t.data.toList := List.take_of_length_le (by simp)
      have hwr : s.write q t.data.toList = (s.puts q t.data.toList, 0) := by unfold CSt.write; rw [if_neg (by intro h; exact hc ⟨h.1, by simpa using h.2⟩)]
      have hcw : ∀ wa, CellsAt wa bc s → Senv A wa → Calls Tryd.prog 20 #[.pointer (some ⟨bc, 0, none⟩), .int .i64 (q : Int), .string t] wa fun e w' => e = .returned (errVal A 0) ∧ CellsAt w' bc (s.puts q t.data.toList) ∧ wa.grownBy w' (some bc) := fun wa h hs =>
        (write_to A bc s _ _ q t wa h hs hgm hA hw hsim.bl he hwr).mono fun e w' ⟨h1, h2, h3, _⟩ => ⟨h1, h2, h3⟩
      have hwl : (s.puts q t.data.toList).written ≤ s.written + t.size := by rw [CSt.puts_written]; simp
      cases hcut : s.cut
      · have hmc : m.cuts = false := by rw [hsim.cut]; exact hcut
        have hS := hsim.puts q t.size t t m.left (Nat.le_refl _) hfit' ht.symm (fun e => by rw [hcut] at e; cases e) hsim.bm
        rw [ht] at hS
        exact ⟨s.puts q t.data.toList, _, 0, by decide, hS, hwl, hcw, fun wb h => (mwrite_nocut bm m q t wb h hbz hme hmc hmw).mono fun e w' ⟨h1, h2, h3, _⟩ => ⟨h1, h2, h3⟩⟩
      · have hmc : m.cuts = true := by rw [hsim.cut]; exact hcut
        have hl := hsim.left hcut
        have hlt : t.size ≤ s.left := by
          rcases Nat.lt_or_ge s.left t.size with h | h
          · exact absurd ⟨hcut, h⟩ hc
          · exact h
        have hS := hsim.puts q t.size t t (m.left - t.size) (Nat.le_refl _) hfit' ht.symm (fun _ => by rw [hl]) (by have := hsim.bm; omega)
        rw [ht] at hS
        exact ⟨s.puts q t.data.toList, _, 0, by decide, hS, hwl, hcw, fun wb h => (mwrite_room bm m q t wb h hbz hme hmc (by omega) hsim.bm hmw).mono fun e w' ⟨h1, h2, h3, _⟩ => ⟨h1, h2, h3⟩⟩
  · exact hno 1 he (by decide)
  · exact hno 7 he (by decide)

/-- Cut on both. -/
theorem cut_both (A : Nat → Addr) (bc bm : Nat) (s : CSt) (m : MSt) (n : Int) (hsim : Sim s m) (hn : n ≤ 9223372036854775807) :
    ∃ (s' : CSt) (m' : MSt) (j : Nat), j ≤ 11 ∧ Sim s' m' ∧ s'.written = s.written ∧
      (∀ wa, CellsAt wa bc s → Senv A wa → Calls Tryd.prog 19 #[.pointer (some ⟨bc, 0, none⟩), .int .i64 n] wa fun e w' => e = .returned (errVal A j) ∧ CellsAt w' bc s' ∧ wa.grownBy w' (some bc)) ∧
      (∀ wb, ModAt wb bm m → Calls Tryd.prog 28 #[.pointer (some ⟨bm, 0, none⟩), .int .i64 n] wb fun e w' => e = .returned (.int .i64 (j : Int)) ∧ ModAt w' bm m' ∧ wb.grownBy w' (some bm)) := by
  by_cases h0 : n < 0
  · exact ⟨s, m, 2, by decide, hsim, rfl,
      fun wa h hs => (cut_low A bc n wa hs h0).mono fun e w' ⟨h1, h2⟩ => by subst h2; exact ⟨h1, h, grown_refl _ _⟩,
      fun wb h => (mcut_low bm n wb h0).mono fun e w' ⟨h1, h2⟩ => by subst h2; exact ⟨h1, h, grown_refl _ _⟩⟩
  · cases ho : s.off
    · obtain ⟨q, rfl⟩ := Int.eq_ofNat_of_zero_le (show 0 ≤ n by omega)
      exact ⟨_, _, 0, by decide, hsim.cutAt q (by omega), rfl,
        fun wa h hs => (cut_on bc s q wa h ho).mono fun e w' ⟨h1, h2, h3, _⟩ => ⟨h1, h2, h3⟩,
        fun wb h => (mcut_on bm m q wb h (by rw [hsim.off]; exact ho)).mono fun e w' ⟨h1, h2, h3, _⟩ => ⟨h1, h2, h3⟩⟩
    · exact ⟨s, m, 8, by decide, hsim, rfl,
        fun wa h hs => (cut_off A bc s n wa h hs h0 ho).mono fun e w' ⟨h1, h2⟩ => by subst h2; exact ⟨h1, h, grown_refl _ _⟩,
        fun wb h => (mcut_off bm m n wb h h0 (by rw [hsim.off]; exact ho)).mono fun e w' ⟨h1, h2⟩ => by subst h2; exact ⟨h1, h, grown_refl _ _⟩⟩

/-- Read, its answer as the document's cells have it. -/
theorem read_to (A : Nat → Addr) (b : Nat) (s : CSt) (m : MSt) (p n : Nat) (w : World) (h : CellsAt w b s) (hs : Senv A w) (hsim : Sim s m) (he : s.err p n = 0) :
    Calls Tryd.prog 24 #[.pointer (some ⟨b, 0, none⟩), .int .i64 (p : Int), .int .i64 (n : Int)] w fun e w' => e = .returned (.tuple #[.string (m.B.extract p (p + n)), .nilIface]) ∧ w' = w := by
  have := read_on A b s p n w h hs he
  have hz := CSt.err_zero he
  rw [hsim.part p n (by omega)] at this
  exact this
end Go.Proofs.YtebdepbnhemnpaaDoor
