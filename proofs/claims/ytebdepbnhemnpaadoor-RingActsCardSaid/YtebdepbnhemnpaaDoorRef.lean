/-
  nightwatchref1.Cells (the document's answer), function by function, told by contracts over the object in memory ('ModAt'). No condition but those named.
-/
import Derived.Test.YtebdepbnhemnpaaDoorStays
import Derived.BigRegion
import Derived.Lib.Strings
import Derived.Outline
namespace Go.Proofs.YtebdepbnhemnpaaDoor
open Go.RowKit Go.Extern.Stop Go.Stop Go.Extern

structure MSt where
  B : ByteArray
  off : Bool
  left : Nat
  cuts : Bool
  written : Nat
def MSt.row (m : MSt) : Array Value := #[.string m.B, .bool m.off, .int .i64 (m.left : Int), .bool m.cuts, .int .i64 (m.written : Int)]
structure ModAt (w : World) (b : Nat) (m : MSt) : Prop where
  heap : w.heap[b]? = some (.cells m.row 50 (0, 0))
theorem ModAt.cell {w : World} {b : Nat} {m : MSt} (h : ModAt w b m) (i : Nat) : w.cell? ⟨b, i, none⟩ = m.row[i]? := by simp [World.cell?, h.heap]
theorem ModAt.frozen {w : World} {b : Nat} {m : MSt} (h : ModAt w b m) (i : Nat) : w.frozen? ⟨b, i, none⟩ = false := by simp [World.frozen?, h.heap]
theorem ModAt.c0 {w : World} {b : Nat} {m : MSt} (h : ModAt w b m) : w.cell? ⟨b, 0, none⟩ = some (.string m.B) := h.cell 0
theorem ModAt.c1 {w : World} {b : Nat} {m : MSt} (h : ModAt w b m) : w.cell? ⟨b, 1, none⟩ = some (.bool m.off) := h.cell 1
theorem ModAt.c2 {w : World} {b : Nat} {m : MSt} (h : ModAt w b m) : w.cell? ⟨b, 2, none⟩ = some (.int .i64 (m.left : Int)) := h.cell 2
theorem ModAt.c3 {w : World} {b : Nat} {m : MSt} (h : ModAt w b m) : w.cell? ⟨b, 3, none⟩ = some (.bool m.cuts) := h.cell 3
theorem ModAt.c4 {w : World} {b : Nat} {m : MSt} (h : ModAt w b m) : w.cell? ⟨b, 4, none⟩ = some (.int .i64 (m.written : Int)) := h.cell 4
theorem ModAt.lt {w : World} {b : Nat} {m : MSt} (h : ModAt w b m) : b < w.heap.size := lt_of_row h.heap
theorem ModAt.set {w : World} {b : Nat} {m m' : MSt} (h : ModAt w b m) (i : Nat) (v : Value) (hr : m.row.setIfInBounds i v = m'.row) : ModAt (w.setCell ⟨b, i, none⟩ v) b m' := by
  refine ⟨?_⟩
  simp only [World.setCell, Array.getElem?_modify, h.heap]
  simp [hr]
theorem ModAt.set0 {w : World} {b : Nat} {m : MSt} (h : ModAt w b m) (x : ByteArray) : ModAt (w.setCell ⟨b, 0, none⟩ (.string x)) b { m with B := x } := h.set _ _ rfl
theorem ModAt.set1 {w : World} {b : Nat} {m : MSt} (h : ModAt w b m) (x : Bool) : ModAt (w.setCell ⟨b, 1, none⟩ (.bool x)) b { m with off := x } := h.set _ _ rfl
theorem ModAt.set2 {w : World} {b : Nat} {m : MSt} (h : ModAt w b m) (x : Nat) : ModAt (w.setCell ⟨b, 2, none⟩ (.int .i64 (x : Int))) b { m with left := x } := h.set _ _ rfl
theorem ModAt.set3 {w : World} {b : Nat} {m : MSt} (h : ModAt w b m) (x : Bool) : ModAt (w.setCell ⟨b, 3, none⟩ (.bool x)) b { m with cuts := x } := h.set _ _ rfl
theorem ModAt.set4 {w : World} {b : Nat} {m : MSt} (h : ModAt w b m) (x : Nat) : ModAt (w.setCell ⟨b, 4, none⟩ (.int .i64 (x : Int))) b { m with written := x } := h.set _ _ rfl
theorem ModAt.below {w w' : World} {b : Nat} {m : MSt} (h : ModAt w b m) (hb : Below w.heap.size w w') : ModAt w' b m := ⟨row_below hb h.heap⟩
theorem ModAt.other {w w' : World} {b c : Nat} {m : MSt} (h : ModAt w b m) (hg : w.grownBy w' (some c)) (hne : b ≠ c) : ModAt w' b m :=
  ⟨(hg.block b h.lt (by simpa using hne)).trans h.heap⟩

/-- On. -/
theorem mon_any (b : Nat) (m : MSt) (w : World) (h : ModAt w b m) :
    Calls Tryd.prog 30 #[.pointer (some ⟨b, 0, none⟩)] w fun e w' => e = .returned (.tuple #[]) ∧ ModAt w' b { m with off := false, cuts := false } ∧ w.grownBy w' (some b) ∧ w'.heap.size = w.heap.size := by
  have c1 := h.c1
  have c3 := h.c3
  have f1 := h.frozen 1
  have f3 := h.frozen 3
  go_enter Tryd.func30, Tryd.ntmps30
  go_wp2
  go_end0
  exact ⟨rfl, (h.set1 false).set3 false, grown_set (grown_set (grown_refl _ _) _ _) _ _, by simp⟩

/-- Cut. -/
theorem mcut_on (b : Nat) (m : MSt) (n : Nat) (w : World) (h : ModAt w b m) (ho : m.off = false) :
    Calls Tryd.prog 28 #[.pointer (some ⟨b, 0, none⟩), .int .i64 (n : Int)] w fun e w' => e = .returned (.int .i64 0) ∧ ModAt w' b { m with cuts := true, left := n } ∧ w.grownBy w' (some b) ∧ w'.heap.size = w.heap.size := by
  have c1 := h.c1
  have c2 := h.c2
  have c3 := h.c3
  have f2 := h.frozen 2
  have f3 := h.frozen 3
  have g0 : ¬ (n : Int) < 0 := by omega
  rw [ho] at c1
  have R := (h.set3 true).set2 n
  clear h ho
  go_enter Tryd.func28, Tryd.ntmps28
  go_wp2
  go_ret
  exact ⟨rfl, R, grown_set (grown_set (grown_refl _ _) _ _) _ _, by simp⟩
theorem mcut_low (b : Nat) (n : Int) (w : World) (hn : n < 0) :
    Calls Tryd.prog 28 #[.pointer (some ⟨b, 0, none⟩), .int .i64 n] w fun e w' => e = .returned (.int .i64 2) ∧ w' = w := by
  go_enter Tryd.func28, Tryd.ntmps28
  go_wp2
  go_ret
  exact ⟨rfl, rfl⟩
theorem mcut_off (b : Nat) (m : MSt) (n : Int) (w : World) (h : ModAt w b m) (hn : ¬ n < 0) (ho : m.off = true) :
    Calls Tryd.prog 28 #[.pointer (some ⟨b, 0, none⟩), .int .i64 n] w fun e w' => e = .returned (.int .i64 8) ∧ w' = w := by
  have c1 := h.c1
  rw [ho] at c1
  go_enter Tryd.func28, Tryd.ntmps28
  go_wp2
  go_ret
  exact ⟨rfl, rfl⟩

/-- Error(p, n). -/
def MSt.err (m : MSt) (p n : Int) : Nat := if p < 0 ∨ n < 0 ∨ (m.B.size : Int) - p < n then 2 else if m.off = true then 8 else 0
set_option maxHeartbeats 1000000 in
theorem merr_any (b : Nat) (m : MSt) (p n : Int) (w : World) (h : ModAt w b m) (hz : m.B.size ≤ 4096) (hp : p ≤ 9223372036854775807) :
    Calls Tryd.prog 26 #[.pointer (some ⟨b, 0, none⟩), .int .i64 p, .int .i64 n] w fun e w' => e = .returned (.int .i64 (m.err p n : Nat)) ∧ w' = w := by
  have c0 := h.c0
  have c1 := h.c1
  clear h
  by_cases h1 : p < 0
  · have E : Hid (m.err p n = 2) := if_pos (Or.inl h1)
    go_enter Tryd.func26, Tryd.ntmps26
    go_wp2
    go_ret
    rw [E.out]
    exact ⟨rfl, rfl⟩
  by_cases h2 : n < 0
  · have E : Hid (m.err p n = 2) := if_pos (Or.inr (Or.inl h2))
    go_enter Tryd.func26, Tryd.ntmps26
    go_wp2
    go_ret
    rw [E.out]
    exact ⟨rfl, rfl⟩
  by_cases h3 : (m.B.size : Int) < p
  · have E : Hid (m.err p n = 2) := if_pos (Or.inr (Or.inr (by omega)))
    go_enter Tryd.func26, Tryd.ntmps26
    go_wp2
    go_ret
    rw [E.out]
    exact ⟨rfl, rfl⟩
  by_cases h4 : (m.B.size : Int) - p < n
  · have E : Hid (m.err p n = 2) := if_pos (Or.inr (Or.inr h4))
    go_enter Tryd.func26, Tryd.ntmps26
    go_wp2
    go_ret
    rw [E.out]
    exact ⟨rfl, rfl⟩
  have hno : ¬ (p < 0 ∨ n < 0 ∨ (m.B.size : Int) - p < n) := by omega
  cases ho : m.off
  · have E : Hid (m.err p n = 0) := by show _ = _; unfold MSt.err; rw [if_neg hno, ho]; rfl
    clear hno
    go_enter Tryd.func26, Tryd.ntmps26
    go_wp2
    go_ret
    rw [E.out]
    exact ⟨rfl, rfl⟩
  · have E : Hid (m.err p n = 8) := by show _ = _; unfold MSt.err; rw [if_neg hno, ho]; rfl
    clear hno
    go_enter Tryd.func26, Tryd.ntmps26
    go_wp2
    go_ret
    rw [E.out]
    exact ⟨rfl, rfl⟩
end Go.Proofs.YtebdepbnhemnpaaDoor
