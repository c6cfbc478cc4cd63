/-
  (*conf.reader).word by a contract ('wordV'). Conditions: the sentinels are in memory; what waits for the word lies in memory, and so does the map of points.
-/
import Derived.Test.YtcnfkdecghdphabGreatDoorCfRNum
import Derived.Test.YtcnfkdecghdphabGreatDoorCfRMap
import Derived.Test.YtcnfkdecghdphabGreatDoorCfRSet
namespace Go.Proofs.YtcnfkdecghdphabGreatDoor
open Go.RowKit Go.Extern.Stop Go.Stop Go.Extern Go.Maps

/-- What a word waits for: 0: a text, 1: a number, 2: a place. -/
def tgtTy : Nat → TypeId
  | 0 => 179
  | 1 => 144
  | _ => 181
def Typed (f : Nat) (u : Value) : Prop := if f = 0 then ∃ s : ByteArray, u = .string s ∧ s.size ≤ 1000000 else ∃ z : Int, u = .int .i64 z
def valOf (f : Nat) (s : ByteArray) (v : Int) : Value := if f = 0 then .string s else .int .i64 v
/-- The map of points in memory. -/
structure MapAt (w : World) (rb mb : Nat) (pts : List ByteArray) : Prop where
  c6 : w.cell? ⟨rb, 6, none⟩ = some (.map (some mb))
  own : ∃ D : DataW Unit, w.ownsMap Tryz.prog 9 (plainElem Tryz.prog 3) mb pts.length D ∧ PtsMap D pts
theorem MapAt.below {w w' : World} {rb mb : Nat} {pts : List ByteArray} (h : MapAt w rb mb pts) (hb : Below w.heap.size w w') : MapAt w' rb mb pts := by
  obtain ⟨D, h1, h2⟩ := h.own
  refine ⟨cell_below hb h.c6, D, ?_, h2⟩
  have hlt := h1.lt
  obtain ⟨es, clock, h3, h4⟩ := h1
  exact ⟨es, clock, (hb.block mb hlt).trans h3, h4⟩
/-- What one word leaves. -/
def WordPost (A : Nat → Addr) (pts : List ByteArray) (f : Nat) (s : ByteArray) (tb tk : Nat) (w : World) (v : Ending) (w' : World) : Prop :=
  v = .returned (errV A (wordV (lookL pts) f (bl s)).1) ∧ ∃ u, Typed f u ∧ ((wordV (lookL pts) f (bl s)).1 = 0 → u = valOf f s (wordV (lookL pts) f (bl s)).2) ∧ Below w.heap.size (w.setCell ⟨tb, tk, none⟩ u) w'
theorem word_err {A : Nat → Addr} {pts : List ByteArray} {f : Nat} {s : ByteArray} {tb tk : Nat} {old : Value} {w w' : World} {c : Nat} (ht : w.cell? ⟨tb, tk, none⟩ = some old) (hT : Typed f old) (hc : (wordV (lookL pts) f (bl s)).1 = c) (h0 : c ≠ 0) (hb : Below w.heap.size w w') : WordPost A pts f s tb tk w (.returned (errV A c)) w' := by
  refine ⟨by rw [hc], old, hT, fun e => absurd (hc.symm.trans e) h0, ?_⟩
  rw [setCell_same ht]
  exact hb
end Go.Proofs.YtcnfkdecghdphabGreatDoor
