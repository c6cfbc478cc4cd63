/-
  The cells and the document's cells go side by side: what each act makes of both. Plain facts on lists and numbers; no program.
-/
import Derived.Test.YtebdepbnhemnpaaDoorRefW
import Derived.Test.YtebdepbnhemnpaaDoorCellsFrom
namespace Go.Proofs.YtebdepbnhemnpaaDoor
open Go.RowKit

/-- The same cells. -/
structure Sim (s : CSt) (m : MSt) : Prop where
  len : s.bytes.length = 4096
  size : s.size ≤ 4096
  b : m.B.data.toList = s.bytes.take s.size
  off : m.off = s.off
  cut : m.cuts = s.cut
  left : s.cut = true → m.left = s.left
  written : m.written = s.written
  bl : s.left ≤ 9223372036854775807
  bm : m.left ≤ 9223372036854775807

theorem Sim.bsize {s : CSt} {m : MSt} (h : Sim s m) : m.B.size = s.size := by
  have := congrArg List.length h.b
  rw [List.length_take, h.len] at this
  have e : m.B.data.toList.length = m.B.size := by simp
  have := h.size
  omega
theorem Sim.err {s : CSt} {m : MSt} (h : Sim s m) (p n : Int) : m.err p n = s.err p n := by
  unfold MSt.err CSt.err
  rw [h.bsize, h.off]
theorem Sim.bytes {s : CSt} {m : MSt} (h : Sim s m) : (s.bytes.take s.size).toArray = m.B.data := by rw [← h.b]
theorem Sim.part {s : CSt} {m : MSt} (h : Sim s m) (p n : Nat) (hf : p + n ≤ s.size) : (⟨((s.bytes.drop p).take n).toArray⟩ : ByteArray) = m.B.extract p (p + n) := by
  apply ByteArray.ext
  apply Array.toList_inj.1
  rw [Lib.extract_data, h.b]
  show (s.bytes.drop p).take n = _
  rw [List.drop_take, List.take_take]
  congr 1
  omega

theorem take_part (l x : List UInt8) (p k z : Nat) (hk : x.length = k) (h : p + k ≤ z) (hz : z ≤ l.length) : (l.take p ++ x ++ l.drop (p + k)).take z = (l.take z).take p ++ x ++ (l.take z).drop (p + k) := by
  have h1 : (l.take p ++ x).length = p + k := by simp [hk]; omega
  rw [List.take_append, h1, List.take_of_length_le (by rw [h1]; exact h), List.take_take, List.drop_take]
  congr 2
  · congr 2; omega

/-- The bytes behind a write of k of them. -/
theorem Sim.spliced {s : CSt} {m : MSt} (h : Sim s m) (p k : Nat) (t x : ByteArray) (hk : k ≤ t.size) (hf : p + t.size ≤ s.size) (hx : x.data.toList = t.data.toList.take k) :
    (m.B.extract 0 p ++ x ++ m.B.extract (p + k) m.B.size).data.toList = (s.puts p (t.data.toList.take k)).bytes.take (s.puts p (t.data.toList.take k)).size := by
  have hz := h.size
  have hl : (t.data.toList.take k).length = k := by rw [List.length_take]; simp; omega
  rw [CSt.puts_size, CSt.puts_bytes _ s p (by rw [hl, h.len]; omega), hl, take_part _ _ p k s.size hl (by omega) (by rw [h.len]; exact hz)]
  simp only [ByteArray.data_append, Array.toList_append, Lib.extract_data, hx, h.b, h.bsize, List.drop_zero, Nat.sub_zero]
  congr 1
  rw [List.take_of_length_le]
  simp [h.len]
  omega

theorem puts_len (l : List UInt8) : ∀ (s : CSt) (p : Nat), (s.puts p l).bytes.length = s.bytes.length := by
  induction l with
  | nil => intro s p; rfl
  | cons y r ih => intro s p; simp only [CSt.puts, ih]; simp [CSt.put]

theorem Sim.puts {s : CSt} {m : MSt} (h : Sim s m) (p k : Nat) (t x : ByteArray) (l' : Nat) (hk : k ≤ t.size) (hf : p + t.size ≤ s.size) (hx : x.data.toList = t.data.toList.take k) (hl : s.cut = true → l' = s.left - k) (hl2 : l' ≤ 9223372036854775807) :
    Sim (s.puts p (t.data.toList.take k)) { B := m.B.extract 0 p ++ x ++ m.B.extract (p + k) m.B.size, off := m.off, left := l', cuts := m.cuts, written := m.written + k } := by
  have hlen : (t.data.toList.take k).length = k := by rw [List.length_take]; simp; omega
  refine ⟨by rw [puts_len]; exact h.len, by rw [CSt.puts_size]; exact h.size, h.spliced p k t x hk hf hx, by rw [CSt.puts_off]; exact h.off, by rw [CSt.puts_cut]; exact h.cut, ?_, ?_, ?_, hl2⟩
  · intro hc
    rw [CSt.puts_cut] at hc
    rw [CSt.puts_left, if_pos hc, hlen]
    exact hl hc
  · rw [CSt.puts_written, hlen, ← h.written]
  · have := h.bl
    rw [CSt.puts_left, hlen]
    split <;> omega

theorem Sim.mono_off {s : CSt} {m : MSt} (h : Sim s m) (x : Bool) : Sim { s with off := x } { m with off := x } := ⟨h.len, h.size, h.b, rfl, h.cut, h.left, h.written, h.bl, h.bm⟩
theorem Sim.on {s : CSt} {m : MSt} (h : Sim s m) : Sim { s with off := false, cut := false, left := 0 } { m with off := false, cuts := false } := ⟨h.len, h.size, h.b, rfl, rfl, fun e => (by cases e), h.written, Nat.zero_le _, h.bm⟩
theorem Sim.cutAt {s : CSt} {m : MSt} (h : Sim s m) (n : Nat) (hn : n ≤ 9223372036854775807) : Sim { s with cut := true, left := n } { m with cuts := true, left := n } := ⟨h.len, h.size, h.b, h.off, rfl, fun _ => rfl, h.written, hn, hn⟩
theorem Sim.text (t : ByteArray) (h : t.size ≤ 4096) : Sim (CSt.ofText t.data.toList) ⟨t, false, 0, false, 0⟩ := by
  have hl : t.data.toList.length = t.size := by simp
  refine ⟨?_, by simp only [CSt.ofText, hl]; exact h, ?_, rfl, rfl, fun e => (by cases e), rfl, Nat.zero_le _, Nat.zero_le _⟩
  · simp only [CSt.ofText, List.length_append, zeros_length, hl]; omega
  · simp only [CSt.ofText, hl]
    rw [List.take_append, hl, Nat.sub_self, List.take_zero, List.append_nil, List.take_of_length_le (by rw [hl]; exact Nat.le_refl _)]
end Go.Proofs.YtebdepbnhemnpaaDoor
