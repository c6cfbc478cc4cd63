/-
  cells.From and cells.Copy told by contracts over the object in memory ('CellsAt'). Conditions as in the texts ahead of this one.
-/
import Derived.Test.YtebdepbnhemnpaaDoorStays
import Derived.Lib.BufferWrite
import Derived.Laws.CopyOwn
import Derived.Outline
namespace Go.Proofs.YtebdepbnhemnpaaDoor
open Go.RowKit Go.Extern.Stop Go.Stop Go.Extern

def CSt.ofText (l : List UInt8) : CSt := ⟨l ++ zeros (4096 - l.length), l.length, 0, false, false, 0⟩

theorem CSt.row_size (s : CSt) (h : s.bytes.length = 4096) : s.row.size = 4101 := by simp [CSt.row, CSt.tail, h]
theorem CSt.row_one (s : CSt) : s.row.all (·.oneCell') = true := by
  apply Array.all_eq_true_iff_forall_mem.2
  intro v hv
  unfold CSt.row at hv
  simp only [List.mem_toArray, List.mem_append, List.mem_map, CSt.tail, List.mem_cons, List.not_mem_nil, or_false] at hv
  rcases hv with ⟨x, _, rfl⟩ | rfl | rfl | rfl | rfl | rfl <;> rfl

theorem Tryd.infoCells : (Tryd.prog.info? 100).map (·.size) = some 4101 := by kernel_rfl
theorem Tryd.infoByte1 : (Tryd.prog.info? 5).map (·.size) = some 1 := by kernel_rfl

theorem grown_setRow {a w : World} {b : Nat} (h : a.grownBy w (some b)) (cs : Array Value) : a.grownBy (w.setRow b cs) (some b) :=
  grown_trans h ⟨rfl, rfl, rfl, by simp, fun k _ hn => setRow_other _ _ _ _ (by simpa using hn)⟩

set_option maxHeartbeats 1000000 in
theorem from_in (t : ByteArray) (w : World) (h1 : t.size ≤ 4096) :
    Calls Tryd.prog 25 #[.string t] w fun e w' => e = .returned (.tuple #[.pointer (some ⟨w.heap.size, 0, none⟩), .nilIface]) ∧ Below w.heap.size w w' ∧ CellsAt w' w.heap.size (CSt.ofText t.data.toList) := by
  have hlen : t.data.toList.length = t.size := by simp
  go_enter Tryd.func25, Tryd.ntmps25
  go_wp2_with fail
  refine (new_in t.size w h1).mono ?_
  rintro e w1 ⟨rfl, hb, hat, -⟩
  have hrow : ((CSt.new t.size).row.toList.take 0 ++ Lib.byteCells t.data.toList ++ (CSt.new t.size).row.toList.drop (0 + t.size)).toArray = (CSt.ofText t.data.toList).row := by
    unfold CSt.row CSt.ofText CSt.new
    simp only [List.take_zero, List.nil_append, Nat.zero_add, List.map_append, CSt.tail]
    rw [List.drop_append, List.length_map, zeros_length, ← List.map_drop, zeros_drop, hlen]
    have e0 : t.size - 4096 = 0 := by omega
    rw [e0, List.drop_zero, List.append_assoc]
    rfl
  have hcp := fun ty => Lib.run_copy_row_string (P := Tryd.prog) w1 41 9 ty 5 w.heap.size 0 4096 4096 t (CSt.new t.size).row 100 Tryd.underlying41 Tryd.infoByte1 hat.heap h1 (by rw [CSt.row_size _ (zeros_length _)]; omega)
  rw [hrow] at hcp
  have hfin : CellsAt (w1.setRow w.heap.size (CSt.ofText t.data.toList).row) w.heap.size (CSt.ofText t.data.toList) :=
    ⟨setRow_heap _ _ _ _ _ _ hat.heap, by simp only [CSt.ofText, List.length_append, zeros_length, hlen]; omega, by simp only [CSt.ofText, hlen]; exact h1⟩
  have sl := slice_all w.heap.size
  clear hrow hlen
  go_wp2
  go_ret2
  exact ⟨rfl, below_setRow hb (Nat.le_refl _) _, hfin⟩

set_option maxHeartbeats 1000000 in
theorem from_out4 (A : Nat → Addr) (t : ByteArray) (w : World) (hs : Sen4 A w) (h1 : 4096 < t.size) (h2 : t.size ≤ maxLen) :
    Calls Tryd.prog 25 #[.string t] w fun e w' => e = .returned (.tuple #[.pointer none, .iface 95 (.pointer (some (A 1)))]) ∧ Below w.heap.size w w' := by
  unfold maxLen at h2
  go_enter Tryd.func25, Tryd.ntmps25
  go_wp2_with fail
  refine (new_out4 A t.size w hs (by omega)).mono ?_
  rintro e w1 ⟨rfl, hb⟩
  go_wp2
  go_ret2
  exact ⟨rfl, hb⟩

set_option maxHeartbeats 1000000 in
theorem copy_any (b : Nat) (s : CSt) (w : World) (h : CellsAt w b s) :
    Calls Tryd.prog 31 #[.pointer (some ⟨b, 0, none⟩)] w fun e w' => e = .returned (.pointer (some ⟨w.heap.size, 0, none⟩)) ∧ Below w.heap.size w w' ∧ CellsAt w' w.heap.size s := by
  have hi : (Tryd.prog.info? 100).map (·.size) = some s.row.size := by rw [CSt.row_size _ h.len]; exact Tryd.infoCells
  have hzs : Tryd.zeroCells100.size = s.row.size := by rw [zero_row, CSt.row_size _ h.len, CSt.row_size _ (zeros_length _)]
  go_enter Tryd.func31, Tryd.ntmps31
  go_wp2_with (first | refine wpList_load_row rfl 100 _ rfl b rfl _ s.row _ _ h.heap Tryd.underlying100 rfl hi ?_ | refine wpList_store_row rfl 100 _ _ rfl w.heap.size s.row rfl rfl 100 Tryd.zeroCells100 (heap_alloc_new w _) hi hzs (CSt.row_one s) ?_)
  go_ret
  exact ⟨rfl, below_setRow ((Below.refl _ _).alloc (Nat.le_refl _) _) (Nat.le_refl _) _, ⟨setRow_heap _ _ _ _ _ _ (heap_alloc_new w _), h.len, h.size⟩⟩
/-- The same, by all sentinels. -/
theorem from_out (A : Nat → Addr) (t : ByteArray) (w : World) (hs : Senv A w) (h1 : 4096 < t.size) (h2 : t.size ≤ maxLen) :
    Calls Tryd.prog 25 #[.string t] w fun e w' => e = .returned (.tuple #[.pointer none, .iface 95 (.pointer (some (A 1)))]) ∧ Below w.heap.size w w' :=
  from_out4 A t w hs.four h1 h2
end Go.Proofs.YtebdepbnhemnpaaDoor
