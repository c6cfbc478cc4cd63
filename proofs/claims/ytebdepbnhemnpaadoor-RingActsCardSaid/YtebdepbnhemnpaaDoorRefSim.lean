/-
  A write on the document's cells, told by what the write makes of the cells that are the same ('Sim'). Conditions: as named.
-/
import Derived.Test.YtebdepbnhemnpaaDoorBoth
import Derived.Test.YtebdepbnhemnpaaDoorRingPut
namespace Go.Proofs.YtebdepbnhemnpaaDoor
open Go.RowKit Go.Extern.Stop Go.Stop Go.Extern

theorem writeE_zero {s : CSt} {p : Nat} {l : List UInt8} (h : s.err p l.length = 0) : s.writeE p l = s.write p l := by unfold CSt.writeE; rw [if_pos h]
theorem writeE_no {s : CSt} {p j : Nat} {l : List UInt8} (h : s.err p l.length = j + 1) : s.writeE p l = (s, j + 1) := by
  unfold CSt.writeE; rw [if_neg (by omega), h]

theorem mwrite_sim (bm : Nat) (s : CSt) (m : MSt) (p : Nat) (t : ByteArray) (hsim : Sim s m) (hw : s.written + t.size ≤ 1099511627776) (hp : (p : Int) ≤ 9223372036854775807) :
    ∃ m' : MSt, Sim (s.writeE p t.data.toList).1 m' ∧
      (∀ wb, ModAt wb bm m → Calls Tryd.prog 27 #[.pointer (some ⟨bm, 0, none⟩), .int .i64 (p : Int), .string t] wb fun e w' => e = .returned (.int .i64 ((s.writeE p t.data.toList).2 : Nat)) ∧ ModAt w' bm m' ∧ wb.grownBy w' (some bm)) := by
  have hbz : m.B.size ≤ 4096 := by rw [hsim.bsize]; exact hsim.size
  have hlen : t.data.toList.length = t.size := by simp
  have hno : ∀ i, s.err p t.size = i + 1 → ∃ m' : MSt, Sim (s.writeE p t.data.toList).1 m' ∧
      (∀ wb, ModAt wb bm m → Calls Tryd.prog 27 #[.pointer (some ⟨bm, 0, none⟩), .int .i64 (p : Int), .string t] wb fun e w' => e = .returned (.int .i64 ((s.writeE p t.data.toList).2 : Nat)) ∧ ModAt w' bm m' ∧ wb.grownBy w' (some bm)) := fun i he => by
    rw [writeE_no (by rw [hlen]; exact he)]
    exact ⟨m, hsim, fun wb h => (mwrite_no bm m p t i wb h hbz hp (by rw [hsim.err]; exact he)).mono fun e w' ⟨h1, h2⟩ => by subst h2; exact ⟨h1, h, grown_refl _ _⟩⟩
  rcases s.err_cases p t.size with he | he | he
  · obtain ⟨-, -, hfit, hoff⟩ := CSt.err_zero he
    have hme : m.err p t.size = 0 := by rw [hsim.err]; exact he
    have hmw : m.written + t.size ≤ 1099511627776 := by rw [hsim.written]; exact hw
    have hfit' : p + t.size ≤ s.size := by omega
    rw [writeE_zero (by rw [hlen]; exact he)]
    by_cases hc : s.cut = true ∧ s.left < t.size
    · have hl := hsim.left hc.1
      have hmc : m.cuts = true := by rw [hsim.cut]; exact hc.1
      have hwr : s.write p t.data.toList = ({ s.puts p (t.data.toList.take s.left) with off := true }, 8) := by unfold CSt.write; rw [if_pos ⟨hc.1, by simpa using hc.2⟩]
      rw [hwr]
      refine ⟨{ B := m.splice p m.left t, off := true, left := 0, cuts := true, written := m.written + m.left }, ?_, fun wb h => ?_⟩
      · have := (hsim.puts p s.left t (t.extract 0 s.left) 0 (by omega) hfit' (by rw [Lib.extract_data]; simp) (fun _ => by omega) (by omega)).mono_off true
        unfold MSt.splice
        rw [hl]
        rw [hmc] at this
        exact this
      · exact (mwrite_cut bm m p t wb h hbz hme hmc (by omega) hmw).mono fun e w' ⟨h1, h2, h3, _⟩ => ⟨h1, h2, h3⟩
    · have ht : t.data.toList.take t.size = t.data.toList := List.take_of_length_le (by simp)
      have hwr : s.write p t.data.toList = (s.puts p t.data.toList, 0) := by unfold CSt.write; rw [if_neg (by intro h; exact hc ⟨h.1, by simpa using h.2⟩)]
      rw [hwr]
      cases hcut : s.cut
      · have hmc : m.cuts = false := by rw [hsim.cut]; exact hcut
        have hS := hsim.puts p t.size t t m.left (Nat.le_refl _) hfit' ht.symm (fun e => by rw [hcut] at e; cases e) hsim.bm
        rw [ht] at hS
        exact ⟨_, hS, fun wb h => (mwrite_nocut bm m p t wb h hbz hme hmc hmw).mono fun e w' ⟨h1, h2, h3, _⟩ => ⟨h1, h2, h3⟩⟩
      · have hmc : m.cuts = true := by rw [hsim.cut]; exact hcut
        have hl := hsim.left hcut
        have hlt : t.size ≤ s.left := by
          rcases Nat.lt_or_ge s.left t.size with h | h
          · exact absurd ⟨hcut, h⟩ hc
          · exact h
        have hS := hsim.puts p t.size t t (m.left - t.size) (Nat.le_refl _) hfit' ht.symm (fun _ => by rw [hl]) (by have := hsim.bm; omega)
        rw [ht] at hS
        exact ⟨_, hS, fun wb h => (mwrite_room bm m p t wb h hbz hme hmc (by omega) hsim.bm hmw).mono fun e w' ⟨h1, h2, h3, _⟩ => ⟨h1, h2, h3⟩⟩
  · exact hno 1 he
  · exact hno 7 he

/-- Byte e of the document's cells. -/
theorem Sim.byte {s : CSt} {m : MSt} (h : Sim s m) (p : Nat) (hp : p < s.size) : ∃ hp' : p < m.B.size, m.B[p] = s.bytes.getD p 0 := by
  have hz := h.bsize
  refine ⟨by omega, ?_⟩
  have hl : p < m.B.data.toList.length := by simp; omega
  have e : m.B.data.toList[p]? = (s.bytes.take s.size)[p]? := by rw [h.b]
  rw [List.getElem?_take_of_lt hp, List.getElem?_eq_getElem hl, List.getElem?_eq_getElem (by rw [h.len]; have := h.size; omega)] at e
  rw [List.getD_eq_getElem?_getD, List.getElem?_eq_getElem (by rw [h.len]; have := h.size; omega)]
  exact Option.some.inj e
end Go.Proofs.YtebdepbnhemnpaaDoor
