/-
  A cells object in memory, told by its bytes and five fields: what each field's cell holds, and what a store into one makes of it. No condition.
-/
import Derived.Test.YtebdepbnhemnpaaDoorCode
namespace Go.Proofs.YtebdepbnhemnpaaDoor
open Go.RowKit Go.Extern.Stop Go.Stop Go.Extern

structure CSt where
  bytes : List UInt8
  size : Nat
  written : Nat
  off : Bool
  cut : Bool
  left : Nat

def byteVal (x : UInt8) : Value := .int .u8 (x.toNat : Int)
def CSt.tail (s : CSt) : List Value := [.int .i64 (s.size : Int), .int .i64 (s.written : Int), .bool s.off, .bool s.cut, .int .i64 (s.left : Int)]
def CSt.row (s : CSt) : Array Value := (s.bytes.map byteVal ++ s.tail).toArray

structure CellsAt (w : World) (b : Nat) (s : CSt) : Prop where
  heap : w.heap[b]? = some (.cells s.row 100 (0, 0))
  len : s.bytes.length = 4096
  size : s.size ≤ 4096

theorem CellsAt.lt {w : World} {b : Nat} {s : CSt} (h : CellsAt w b s) : b < w.heap.size := lt_of_row h.heap

theorem CellsAt.cell {w : World} {b : Nat} {s : CSt} (h : CellsAt w b s) (i : Nat) : w.cell? ⟨b, i, none⟩ = s.row[i]? := by
  simp [World.cell?, h.heap]
theorem CellsAt.frozen {w : World} {b : Nat} {s : CSt} (h : CellsAt w b s) (i : Nat) : w.frozen? ⟨b, i, none⟩ = false := by
  simp [World.frozen?, h.heap]

theorem CSt.row_byte (s : CSt) (i : Nat) (hi : i < s.bytes.length) : s.row[i]? = some (byteVal s.bytes[i]) := by
  unfold CSt.row
  simp [List.getElem?_append_left, hi]
theorem CSt.row_tail (s : CSt) (hl : s.bytes.length = 4096) (i : Nat) : s.row[4096 + i]? = s.tail[i]? := by
  unfold CSt.row
  rw [List.getElem?_toArray, List.getElem?_append_right (by simp [hl])]
  simp [hl]

theorem CellsAt.byte {w : World} {b : Nat} {s : CSt} (h : CellsAt w b s) (i : Nat) (hi : i < 4096) : w.cell? ⟨b, i, none⟩ = some (.int .u8 ((s.bytes[i]'(by rw [h.len]; exact hi)).toNat : Int)) := by
  rw [h.cell, CSt.row_byte s i (by rw [h.len]; exact hi)]; rfl
theorem CellsAt.c0 {w : World} {b : Nat} {s : CSt} (h : CellsAt w b s) : w.cell? ⟨b, 4096, none⟩ = some (.int .i64 (s.size : Int)) := by
  rw [h.cell, CSt.row_tail s h.len 0]; rfl
theorem CellsAt.c1 {w : World} {b : Nat} {s : CSt} (h : CellsAt w b s) : w.cell? ⟨b, 4097, none⟩ = some (.int .i64 (s.written : Int)) := by
  rw [h.cell, CSt.row_tail s h.len 1]; rfl
theorem CellsAt.c2 {w : World} {b : Nat} {s : CSt} (h : CellsAt w b s) : w.cell? ⟨b, 4098, none⟩ = some (.bool s.off) := by
  rw [h.cell, CSt.row_tail s h.len 2]; rfl
theorem CellsAt.c3 {w : World} {b : Nat} {s : CSt} (h : CellsAt w b s) : w.cell? ⟨b, 4099, none⟩ = some (.bool s.cut) := by
  rw [h.cell, CSt.row_tail s h.len 3]; rfl
theorem CellsAt.c4 {w : World} {b : Nat} {s : CSt} (h : CellsAt w b s) : w.cell? ⟨b, 4100, none⟩ = some (.int .i64 (s.left : Int)) := by
  rw [h.cell, CSt.row_tail s h.len 4]; rfl

theorem CellsAt.set {w : World} {b : Nat} {s s' : CSt} (h : CellsAt w b s) (i : Nat) (v : Value) (hr : s.row.setIfInBounds i v = s'.row) (hl : s'.bytes.length = 4096) (hs : s'.size ≤ 4096) : CellsAt (w.setCell ⟨b, i, none⟩ v) b s' := by
  refine ⟨?_, hl, hs⟩
  simp only [World.setCell, Array.getElem?_modify, h.heap]
  simp [hr]

theorem row_set_tail (bs : List UInt8) (hl : bs.length = 4096) (t : List Value) (i : Nat) (v : Value) : (bs.map byteVal ++ t).toArray.setIfInBounds (4096 + i) v = (bs.map byteVal ++ t.set i v).toArray := by
  rw [List.setIfInBounds_toArray, List.set_append_right _ _ (by simp [hl])]
  simp [hl]

theorem CellsAt.set1 {w : World} {b : Nat} {s : CSt} (h : CellsAt w b s) (n : Nat) : CellsAt (w.setCell ⟨b, 4097, none⟩ (.int .i64 (n : Int))) b { s with written := n } :=
  h.set _ _ (row_set_tail s.bytes h.len s.tail 1 _) h.len h.size
theorem CellsAt.set2 {w : World} {b : Nat} {s : CSt} (h : CellsAt w b s) (v : Bool) : CellsAt (w.setCell ⟨b, 4098, none⟩ (.bool v)) b { s with off := v } :=
  h.set _ _ (row_set_tail s.bytes h.len s.tail 2 _) h.len h.size
theorem CellsAt.set3 {w : World} {b : Nat} {s : CSt} (h : CellsAt w b s) (v : Bool) : CellsAt (w.setCell ⟨b, 4099, none⟩ (.bool v)) b { s with cut := v } :=
  h.set _ _ (row_set_tail s.bytes h.len s.tail 3 _) h.len h.size
theorem CellsAt.set4 {w : World} {b : Nat} {s : CSt} (h : CellsAt w b s) (n : Nat) : CellsAt (w.setCell ⟨b, 4100, none⟩ (.int .i64 (n : Int))) b { s with left := n } :=
  h.set _ _ (row_set_tail s.bytes h.len s.tail 4 _) h.len h.size
theorem CellsAt.setB {w : World} {b : Nat} {s : CSt} (h : CellsAt w b s) (i : Nat) (hi : i < 4096) (x : UInt8) : CellsAt (w.setCell ⟨b, i, none⟩ (.int .u8 (x.toNat : Int))) b { s with bytes := s.bytes.set i x } := by
  refine h.set _ _ ?_ (by simp [h.len]) h.size
  unfold CSt.row
  rw [List.setIfInBounds_toArray, List.set_append_left _ _ (by simp [h.len, hi]), List.map_set]
  rfl

theorem CellsAt.below {w w' : World} {b : Nat} {s : CSt} (h : CellsAt w b s) (hb : Below w.heap.size w w') : CellsAt w' b s := ⟨row_below hb h.heap, h.len, h.size⟩
theorem CellsAt.alloc {w : World} {b : Nat} {s : CSt} (h : CellsAt w b s) (o : Obj) : CellsAt (w.alloc o) b s := h.below ((Below.refl _ _).alloc (Nat.le_refl _) _)
theorem CellsAt.other {w w' : World} {b c : Nat} {s : CSt} (h : CellsAt w b s) (hg : w.grownBy w' (some c)) (hne : b ≠ c) : CellsAt w' b s :=
  ⟨(hg.block b h.lt (by simpa using hne)).trans h.heap, h.len, h.size⟩

/-! the frame 'all but block b' -/
theorem grown_refl (w : World) (r : Option Nat) : w.grownBy w r := ⟨rfl, rfl, rfl, Nat.le_refl _, fun _ _ _ => rfl⟩
theorem grown_trans {a b c : World} {r : Option Nat} (h : a.grownBy b r) (k : b.grownBy c r) : a.grownBy c r :=
  ⟨k.os.trans h.os, k.tape.trans h.tape, k.output.trans h.output, Nat.le_trans h.size k.size, fun i hi hn => (k.block i (Nat.lt_of_lt_of_le hi h.size) hn).trans (h.block i hi hn)⟩
theorem grown_set {a w : World} {b : Nat} (h : a.grownBy w (some b)) (i : Nat) (v : Value) : a.grownBy (w.setCell ⟨b, i, none⟩ v) (some b) :=
  grown_trans h ⟨rfl, rfl, rfl, by simp [World.setCell], fun k _ hn => Below.heap_setCell _ _ _ _ (by simpa using hn)⟩
theorem grown_below {a w w' : World} {r : Option Nat} (h : a.grownBy w r) (k : Below w.heap.size w w') : a.grownBy w' r :=
  grown_trans h ⟨k.os, k.tape, k.output, k.size, fun i hi _ => k.block i hi⟩
theorem below_grown {B : Nat} {a w w' : World} {b : Nat} (h : Below B a w) (k : w.grownBy w' (some b)) (hB : B ≤ w.heap.size) (hb : B ≤ b) : Below B a w' :=
  h.grown k hB (fun i hi => by cases hi; exact hb)
theorem Senv.grown {A : Nat → Addr} {w w' : World} {b : Nat} (h : Senv A w) (k : w.grownBy w' (some b)) (hn : ∀ i, i < 11 → (A i).block ≠ b) (hb : 12 ≤ b) : Senv A w' := by
  have hc : ∀ {g : Nat} {v : Value}, g < 12 → w.cell? ⟨g, 0, none⟩ = some v → w'.cell? ⟨g, 0, none⟩ = some v := fun {g v} hg e =>
    (World.cell?_of_block (k.block g (block_lt e) (by intro e2; cases e2; omega))).trans e
  exact ⟨hc (by omega) h.c0, hc (by omega) h.c1, hc (by omega) h.c2, hc (by omega) h.c3, hc (by omega) h.c4, hc (by omega) h.c5, hc (by omega) h.c6, hc (by omega) h.c7, hc (by omega) h.c8, hc (by omega) h.c9, hc (by omega) h.c10, hc (by omega) h.et,
    fun i hi => by obtain ⟨c, t, e⟩ := h.row i hi; exact ⟨c, t, (k.block _ (lt_of_row e) (by intro e2; exact hn i hi (Option.some.inj e2))).trans e⟩, h.ne⟩
theorem Senv.gm {A : Nat → Addr} {w : World} (h : Senv A w) : 12 ≤ w.heap.size := by
  have h0 := block_lt h.c0
  have h1 := block_lt h.c1
  have h2 := block_lt h.c2
  have h3 := block_lt h.c3
  have h4 := block_lt h.c4
  have h5 := block_lt h.c5
  have h6 := block_lt h.c6
  have h7 := block_lt h.c7
  have h8 := block_lt h.c8
  have h9 := block_lt h.c9
  have h10 := block_lt h.c10
  have h11 := block_lt h.et
  simp only [] at h0 h1 h2 h3 h4 h5 h6 h7 h8 h9 h10 h11
  omega
theorem Senv.apart {A : Nat → Addr} {w : World} (h : Senv A w) (b : Nat) (hb : w.heap.size ≤ b) : ∀ i, i < 11 → (A i).block ≠ b := fun i hi e => by
  obtain ⟨c, t, e2⟩ := h.row i hi
  have := lt_of_row e2
  omega
end Go.Proofs.YtebdepbnhemnpaaDoor
