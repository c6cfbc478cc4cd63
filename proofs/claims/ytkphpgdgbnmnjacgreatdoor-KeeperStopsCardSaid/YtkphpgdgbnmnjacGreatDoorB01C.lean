/-
  Several texts as one: Bas, Code, Laid, AlSt, LcPure, LoPure, CfMem0, CfArgB.
-/
import Derived.Test.YtkphpgdgbnmnjacGreatDoorB00C
import Derived.WalkKit
import Derived.LaidEql
import Derived.Stop.Asserts
import Derived.RowKitTokens
import Derived.Test.YtkphpgdgbnmnjacGreatDoorProg
import Derived.Outline
import Derived.Test.YtkphpgdgbnmnjacGreatDoorRows
import Derived.LaidLaws
import Derived.LaidHandle
import Derived.LaidMore
import Derived.BigQuiet
import Derived.Deep.QuietTactic
import Derived.Deep.DeepCutAuto
import Derived.WalkSmall
import Derived.Lib.LaidTab
import Derived.ProofKit
import Derived.OpenShut
import Derived.Deep.Slices
import Derived.Carry
namespace Go.Proofs.YtkphpgdgbnmnjacGreatDoor
open Go.RowKit Go.Extern.Stop Go.Stop Go.Extern

theorem block_lt {w : World} {a : Addr} {v : Value} (h : w.cell? a = some v) : a.block < w.heap.size := by
  rcases Nat.lt_or_ge a.block w.heap.size with h' | h'
  · exact h'
  · simp [World.cell?, Array.getElem?_eq_none h'] at h

theorem lt_of_row {w : World} {k : Nat} {o : Obj} (h : w.heap[k]? = some o) : k < w.heap.size := by
  rcases Nat.lt_or_ge k w.heap.size with h' | h'
  · exact h'
  · rw [Array.getElem?_eq_none h'] at h; cases h

theorem cell_below {w w' : World} {a : Addr} {v : Value} (hb : Below w.heap.size w w') (h : w.cell? a = some v) : w'.cell? a = some v :=
  (hb.cell (block_lt h)).trans h

theorem row_below {w w' : World} {k : Nat} {o : Obj} (hb : Below w.heap.size w w') (h : w.heap[k]? = some o) : w'.heap[k]? = some o :=
  (hb.block k (lt_of_row h)).trans h

theorem below_grown {B : Nat} {a w w' : World} {b : Nat} (h : Below B a w) (k : w.grownBy w' (some b)) (hB : B ≤ w.heap.size) (hb : B ≤ b) : Below B a w' :=
  h.grown k hB (fun i hi => by cases hi; exact hb)
theorem Below.one (w : World) (o : Obj) : Below w.heap.size w (w.alloc o) := (Below.refl _ _).alloc (Nat.le_refl _) _
end Go.Proofs.YtkphpgdgbnmnjacGreatDoor

namespace Go.Proofs.YtkphpgdgbnmnjacGreatDoor
open Go.RowKit Go.Extern.Stop Go.Stop Go.Extern

/-- The eleven sentinels (at A 0 .. A 10) and errors.errorType, as start-up lays them. -/
structure Senv (A : Nat → Addr) (w : World) : Prop where
  c0 : w.cell? ⟨7, 0, none⟩ = some (.iface 292 (.pointer (some (A 0))))
  c1 : w.cell? ⟨1, 0, none⟩ = some (.iface 292 (.pointer (some (A 1))))
  c2 : w.cell? ⟨3, 0, none⟩ = some (.iface 292 (.pointer (some (A 2))))
  c3 : w.cell? ⟨8, 0, none⟩ = some (.iface 292 (.pointer (some (A 3))))
  c4 : w.cell? ⟨5, 0, none⟩ = some (.iface 292 (.pointer (some (A 4))))
  c5 : w.cell? ⟨9, 0, none⟩ = some (.iface 292 (.pointer (some (A 5))))
  c6 : w.cell? ⟨10, 0, none⟩ = some (.iface 292 (.pointer (some (A 6))))
  c7 : w.cell? ⟨2, 0, none⟩ = some (.iface 292 (.pointer (some (A 7))))
  c8 : w.cell? ⟨4, 0, none⟩ = some (.iface 292 (.pointer (some (A 8))))
  c9 : w.cell? ⟨0, 0, none⟩ = some (.iface 292 (.pointer (some (A 9))))
  c10 : w.cell? ⟨6, 0, none⟩ = some (.iface 292 (.pointer (some (A 10))))
  et : w.cell? ⟨11, 0, none⟩ = some (.iface 245 (.agg #[.pointer (some ⟨12, 46, none⟩)]))
  row : ∀ i, i < 11 → ∃ c t, w.heap[(A i).block]? = some (.cells c t (0, 0))
  ne : ∀ i j, i < 11 → j < 11 → i ≠ j → A i ≠ A j

theorem Senv.below {A : Nat → Addr} {w w' : World} (h : Senv A w) (hb : Below w.heap.size w w') : Senv A w' :=
  ⟨cell_below hb h.c0, cell_below hb h.c1, cell_below hb h.c2, cell_below hb h.c3, cell_below hb h.c4, cell_below hb h.c5, cell_below hb h.c6, cell_below hb h.c7, cell_below hb h.c8, cell_below hb h.c9, cell_below hb h.c10, cell_below hb h.et,
    fun i hi => by obtain ⟨c, t, e⟩ := h.row i hi; exact ⟨c, t, row_below hb e⟩, h.ne⟩

theorem Senv.alloc {A : Nat → Addr} {w : World} (h : Senv A w) (o : Obj) : Senv A (w.alloc o) := h.below ((Below.refl _ _).alloc (Nat.le_refl _) _)

end Go.Proofs.YtkphpgdgbnmnjacGreatDoor

namespace Go.Proofs.YtkphpgdgbnmnjacGreatDoor
open Go.RowKit Go.ChangeShapes

/-- Sentinels of errors.New's make, as the list has them. -/
def sentList (l : List (String × List UInt8)) : List (String × DataW Unit) := l.map fun x => (x.1, .iface "*errors.errorString" (.ptr (.agg [.lit (.string x.2)])))

theorem sents {P : Program} {W : World} {ti tp te ts : TypeId} {ms : Array (String × TypeId)} {f : Field}
    (hi : P.underlying ti = some (.interface ms)) (hrow : ∀ u, P.typeName? 3 u = some "*errors.errorString" → u = tp)
    (hp : P.underlying tp = some (.pointer te)) (he : P.underlying te = some (.struct #[f])) (hft : f.type = ts) (hfo : f.offset = 0) (hs : P.underlying ts = some .string) (hc : P.cellsOf te = 1) (hcs : P.cellsOf ts = 1) :
    ∀ (l : List (String × List UInt8)) (ps : List MemPlace), (∀ x, x ∈ l → ∃ g, P.globalNamed x.1 = some g ∧ (P.globals[g]?).map (·.type) = some ti) → DataW.LaidVars P W (sentList l) ps → ps.Nodup →
      (∀ b off, MemPlace.cell b off ∈ ps → (∃ c t, W.heap[b]? = some (.cells c t (0, 0))) ∧ ∀ u v, W.cell? ⟨b, off, none⟩ = some (.iface u v) → Value.okWide P W .any 0 u v) →
      ∃ A : Nat → Addr, (∀ i x, l[i]? = some x → W.var? P x.1 = some #[.iface tp (.pointer (some (A i)))]) ∧ (∀ i, i < l.length → ∃ c t, W.heap[(A i).block]? = some (.cells c t (0, 0))) ∧
        (∀ i, i < l.length → MemPlace.cell (A i).block (A i).off ∈ ps) ∧ ∀ i j, i < l.length → j < l.length → i ≠ j → A i ≠ A j := by
  intro l
  induction l with
  | nil => exact fun ps _ _ _ _ => ⟨fun _ => ⟨0, 0, none⟩, fun i x h => by simp at h, fun i h => by simp at h, fun i h => by simp at h, fun i j h => by simp at h⟩
  | cons x r ih =>
    intro ps hg hl hnd hrows
    obtain ⟨n, text⟩ := x
    obtain ⟨g, t, cs, fuel, p, q, hg0, ht0, hv0, hd0, hq, rfl⟩ := hl
    obtain ⟨g', hg1, ht1⟩ := hg (n, text) (List.mem_cons_self ..)
    obtain rfl := Option.some.inj (hg1.symm.trans hg0)
    obtain rfl := Option.some.inj (ht1.symm.trans ht0)
    obtain ⟨lc⟩ := cs
    have ok0 : ∀ u v, lc = [.iface u v] → Value.okWide P W .any 0 u v := fun u v e => by
      subst e
      exact (hrows g' 0 (by simp [MemPlace.row])).2 u v (by simpa using World.var?_cell hg0 hv0 0)
    obtain ⟨a0, s0, rfl, hc0, hs0, hz0, rfl⟩ := errorString_of_trod hi hrow hp he hft hfo hs hc hcs hd0 ok0
    obtain ⟨A, v, b, m, d⟩ := ih q (fun y hy => hg y (List.mem_cons_of_mem _ hy)) hq (List.Nodup.sublist (List.sublist_append_right _ _) hnd) (fun b off hm => hrows b off (List.mem_append_right _ hm))
    have h0m : ∀ i, i < r.length → a0 ≠ A i := fun i hi e => by
      have hm := m i hi
      rw [← e] at hm
      have := List.nodup_append.1 hnd
      exact this.2.2 _ (List.mem_append_right _ (by simp [MemPlace.row])) _ hm rfl
    refine ⟨fun i => match i with | 0 => a0 | i + 1 => A i, fun i y hy => ?_, fun i hi => ?_, fun i hi => ?_, fun i j hi hj hne => ?_⟩
    · cases i with
      | zero => simp only [List.getElem?_cons_zero, Option.some.injEq] at hy; subst hy; exact hv0
      | succ i => exact v i y (by simpa using hy)
    · cases i with
      | zero => exact (hrows a0.block a0.off (by simp [MemPlace.row])).1
      | succ i => exact b i (by simpa using hi)
    · cases i with
      | zero => exact List.mem_append_left _ (List.mem_append_right _ (by simp [MemPlace.row]))
      | succ i => exact List.mem_append_right _ (m i (by simpa using hi))
    · cases i with
      | zero =>
        cases j with
        | zero => exact absurd rfl hne
        | succ j => exact h0m j (by simpa using hj)
      | succ i =>
        cases j with
        | zero => exact fun e => h0m i (by simpa using hi) e.symm
        | succ j => exact d i j (by simpa using hi) (by simpa using hj) (by omega)

/-- The names and the texts, in Code's own order. -/
def sentNames : List (String × List UInt8) := [("nightwatch/api.ErrText", [110, 105, 103, 104, 116, 119, 97, 116, 99, 104, 58, 32, 116, 101, 120, 116]), ("nightwatch/api.ErrBound", [110, 105, 103, 104, 116, 119, 97, 116, 99, 104, 58, 32, 98, 111, 117, 110, 100]), ("nightwatch/api.ErrShape", [110, 105, 103, 104, 116, 119, 97, 116, 99, 104, 58, 32, 115, 104, 97, 112, 101]), ("nightwatch/api.ErrName", [110, 105, 103, 104, 116, 119, 97, 116, 99, 104, 58, 32, 110, 97, 109, 101]), ("nightwatch/api.ErrNone", [110, 105, 103, 104, 116, 119, 97, 116, 99, 104, 58, 32, 110, 111, 110, 101]), ("nightwatch/api.ErrExist", [110, 105, 103, 104, 116, 119, 97, 116, 99, 104, 58, 32, 101, 120, 105, 115, 116]), ("nightwatch/api.ErrFull", [110, 105, 103, 104, 116, 119, 97, 116, 99, 104, 58, 32, 102, 117, 108, 108]), ("nightwatch/api.ErrOff", [110, 105, 103, 104, 116, 119, 97, 116, 99, 104, 58, 32, 111, 102, 102]), ("nightwatch/api.ErrIdle", [110, 105, 103, 104, 116, 119, 97, 116, 99, 104, 58, 32, 105, 100, 108, 101]), ("nightwatch/api.ErrHeld", [110, 105, 103, 104, 116, 119, 97, 116, 99, 104, 58, 32, 104, 101, 108, 100]), ("nightwatch/api.ErrReset", [110, 105, 103, 104, 116, 119, 97, 116, 99, 104, 58, 32, 114, 101, 115, 101, 116])]

theorem own : ownKnob Tryz.prog.godebug = none := by kernel_rfl
theorem Tryz.g0 : Tryz.prog.globalNamed "nightwatch/api.ErrText" = some 7 := by kernel_rfl
theorem Tryz.g1 : Tryz.prog.globalNamed "nightwatch/api.ErrBound" = some 1 := by kernel_rfl
theorem Tryz.g2 : Tryz.prog.globalNamed "nightwatch/api.ErrShape" = some 3 := by kernel_rfl
theorem Tryz.g3 : Tryz.prog.globalNamed "nightwatch/api.ErrName" = some 8 := by kernel_rfl
theorem Tryz.g4 : Tryz.prog.globalNamed "nightwatch/api.ErrNone" = some 5 := by kernel_rfl
theorem Tryz.g5 : Tryz.prog.globalNamed "nightwatch/api.ErrExist" = some 9 := by kernel_rfl
theorem Tryz.g6 : Tryz.prog.globalNamed "nightwatch/api.ErrFull" = some 10 := by kernel_rfl
theorem Tryz.g7 : Tryz.prog.globalNamed "nightwatch/api.ErrOff" = some 2 := by kernel_rfl
theorem Tryz.g8 : Tryz.prog.globalNamed "nightwatch/api.ErrIdle" = some 4 := by kernel_rfl
theorem Tryz.g9 : Tryz.prog.globalNamed "nightwatch/api.ErrHeld" = some 0 := by kernel_rfl
theorem Tryz.g10 : Tryz.prog.globalNamed "nightwatch/api.ErrReset" = some 6 := by kernel_rfl
theorem Tryz.nameErr : Tryz.prog.typeName? 3 292 = some "*errors.errorString" := by kernel_rfl
theorem star : "*" ++ "errors.errorString" = "*errors.errorString" := by decide
theorem Tryz.oneErr (u : TypeId) (h : Tryz.prog.typeName? 3 u = some "*errors.errorString") : u = 292 :=
  typeName_ptr_named (nm := "errors.errorString") (by rw [star]; kernel_rfl) (by kernel_rfl) (by decide) u (by rw [star]; exact h)
theorem Tryz.cellsES : Tryz.prog.cellsOf 311 = 1 := by kernel_rfl
theorem Tryz.cellsStr : Tryz.prog.cellsOf 9 = 1 := by kernel_rfl

end Go.Proofs.YtkphpgdgbnmnjacGreatDoor

namespace Go.Proofs.YtkphpgdgbnmnjacGreatDoor
open Go.RowKit Go.Extern.Stop Go.Stop Go.Extern

/-- A counter: the point (-1: none), Min, Max, the count. -/
structure ASt where
  pt : Int
  mn : Int
  mx : Int
  n : Nat
def ASt.row (a : ASt) : Array Value := #[.int .i64 a.pt, .int .i64 a.mn, .int .i64 a.mx, .int .i64 (a.n : Int)]
/-- The point that is counted. -/
def ptOf (cnt : Int) (len : Nat) : Int := if cnt < 0 ∨ (len : Int) ≤ cnt then -1 else cnt
def ASt.rep (a : ASt) (p : Int) : ASt := if a.pt ≠ -1 ∧ p = a.pt ∧ a.n < 1000 then { a with n := a.n + 1 } else a
def ASt.well (a : ASt) (whole : Bool) : Bool := (decide (a.mn ≤ (a.n : Int)) && decide ((a.n : Int) ≤ a.mx)) || !whole || decide (a.pt = -1)
def ASt.zero (a : ASt) : ASt := { a with n := 0 }
structure AlAt (w : World) (b : Nat) (a : ASt) : Prop where
  heap : w.heap[b]? = some (.cells a.row 231 (0, 0))
  hn : a.n ≤ 1000
structure AlIn (w0 w : World) (b : Nat) (a : ASt) : Prop where
  at' : AlAt w b a
  bel : Below w0.heap.size w0 w
  lo : w0.heap.size ≤ b
theorem AlAt.cell {w : World} {b : Nat} {a : ASt} (h : AlAt w b a) (i : Nat) : w.cell? ⟨b, i, none⟩ = a.row[i]? := by simp [World.cell?, h.heap]
theorem AlAt.frozen {w : World} {b : Nat} {a : ASt} (h : AlAt w b a) (i : Nat) : w.frozen? ⟨b, i, none⟩ = false := by simp [World.frozen?, h.heap]
theorem AlAt.c0 {w : World} {b : Nat} {a : ASt} (h : AlAt w b a) : w.cell? ⟨b, 0, none⟩ = some (.int .i64 a.pt) := h.cell 0
theorem AlAt.c1 {w : World} {b : Nat} {a : ASt} (h : AlAt w b a) : w.cell? ⟨b, 1, none⟩ = some (.int .i64 a.mn) := h.cell 1
theorem AlAt.c2 {w : World} {b : Nat} {a : ASt} (h : AlAt w b a) : w.cell? ⟨b, 2, none⟩ = some (.int .i64 a.mx) := h.cell 2
theorem AlAt.c3 {w : World} {b : Nat} {a : ASt} (h : AlAt w b a) : w.cell? ⟨b, 3, none⟩ = some (.int .i64 (a.n : Int)) := h.cell 3
theorem AlAt.set {w : World} {b : Nat} {a : ASt} (h : AlAt w b a) (n : Nat) (hn : n ≤ 1000) : AlAt (w.setCell ⟨b, 3, none⟩ (.int .i64 (n : Int))) b { a with n := n } := by
  refine ⟨?_, hn⟩
  simp only [World.setCell, Array.getElem?_modify, h.heap]
  simp [ASt.row]
theorem AlAt.below {w w' : World} {b : Nat} {a : ASt} (h : AlAt w b a) (hb : Below w.heap.size w w') : AlAt w' b a := ⟨row_below hb h.heap, h.hn⟩
theorem AlAt.drewN {w : World} {b : Nat} {a : ASt} (h : AlAt w b a) (q : Nat) : AlAt (w.drewN q) b a := ⟨h.heap, h.hn⟩
theorem AlIn.drewN {w0 w : World} {b : Nat} {a : ASt} (h : AlIn w0 w b a) (q : Nat) : AlIn w0 (w.drewN q) b a := ⟨h.at'.drewN q, below_drewN h.bel q, h.lo⟩
theorem AlIn.below {w0 w w' : World} {b : Nat} {a : ASt} (h : AlIn w0 w b a) (hb : Below w.heap.size w w') : AlIn w0 w' b a := ⟨h.at'.below hb, h.bel.trans (hb.mono h.bel.size), h.lo⟩
theorem AlIn.set {w0 w : World} {b : Nat} {a : ASt} (h : AlIn w0 w b a) (n : Nat) (hn : n ≤ 1000) : AlIn w0 (w.setCell ⟨b, 3, none⟩ (.int .i64 (n : Int))) b { a with n := n } := ⟨h.at'.set n hn, h.bel.setCell (p := ⟨b, 3, none⟩) h.lo _, h.lo⟩
theorem AlIn.from {w0 w1 w : World} {b : Nat} {a : ASt} (h : AlIn w1 w b a) (hb : Below w0.heap.size w0 w1) : AlIn w0 w b a := ⟨h.at', hb.trans (h.bel.mono hb.size), Nat.le_trans hb.size h.lo⟩

set_option maxHeartbeats 1000000 in
theorem al_new (name : ByteArray) (tol cnt mn mx : Int) (pa : Option Addr) (pl pc : Nat) (gv ev fv lv : Value) (w : World) :
    Calls Tryz.prog 110 #[.agg #[.string name, .int .i64 tol, .slice pa pl pc, .int .i64 cnt, .int .i64 mn, .int .i64 mx, gv, ev, fv, lv]] w fun v w' => ∃ b, v = .returned (.pointer (some ⟨b, 0, none⟩)) ∧ AlIn w w' b ⟨ptOf cnt pl, mn, mx, 0⟩ := by
  have fin : ∀ (z : Int) (o : Obj), z = ptOf cnt pl → AlIn w ((w.alloc o).alloc (.cells #[.int .i64 z, .int .i64 mn, .int .i64 mx, .int .i64 0] 231)) (w.heap.size + 1) ⟨ptOf cnt pl, mn, mx, 0⟩ := by
    rintro z o rfl
    refine ⟨⟨?_, Nat.zero_le _⟩, (Below.one _ _).alloc (by simp) _, by omega⟩
    show ((w.alloc o).heap.push _)[w.heap.size + 1]? = _
    rw [Array.getElem?_push, if_pos (by simp)]
    rfl
  have HFin : Hid _ := fin
  clear fin
  by_cases h0 : cnt < 0
  · have HZ : Hid ((-1 : Int) = ptOf cnt pl) := by show _ = _; unfold ptOf; rw [if_pos (Or.inl h0)]
    go_enter Tryz.func110, Tryz.ntmps110
    go_wp2
    go_ret
    exact ⟨_, rfl, HFin.out _ _ HZ.out⟩
  by_cases h1 : (pl : Int) ≤ cnt
  · have HZ : Hid ((-1 : Int) = ptOf cnt pl) := by show _ = _; unfold ptOf; rw [if_pos (Or.inr h1)]
    go_enter Tryz.func110, Tryz.ntmps110
    go_wp2
    go_ret
    exact ⟨_, rfl, HFin.out _ _ HZ.out⟩
  · have HZ : Hid (cnt = ptOf cnt pl) := by show _ = _; unfold ptOf; rw [if_neg (by omega)]
    go_enter Tryz.func110, Tryz.ntmps110
    go_wp2
    go_ret
    exact ⟨_, rfl, HFin.out _ _ HZ.out⟩

variable {w0 w : World} {b : Nat} {a : ASt}
end Go.Proofs.YtkphpgdgbnmnjacGreatDoor

namespace Go.Proofs.YtkphpgdgbnmnjacGreatDoor
open Go

/-- How many reports of the counted point a cycle has. -/
def countIn (cnt : Int) (l : List MkD) (cyc : Int) : Nat := l.countP (fun m => decide (m.cyc = cyc) && decide (m.pt = cnt))
theorem countIn_snoc (cnt : Int) (l : List MkD) (m : MkD) (cyc : Int) : countIn cnt (l ++ [m]) cyc = countIn cnt l cyc + (if m.cyc = cyc ∧ m.pt = cnt then 1 else 0) := by
  unfold countIn
  rw [List.countP_append]
  simp only [List.countP_cons, List.countP_nil, Nat.zero_add]
  by_cases h : m.cyc = cyc <;> by_cases h2 : m.pt = cnt <;> simp [h, h2]
theorem countIn_next {cnt : Int} {l : List MkD} {cyc : Int} (h : ∀ m ∈ l, m.cyc < cyc) : countIn cnt l cyc = 0 := by
  unfold countIn
  rw [List.countP_eq_zero]
  intro m hm
  have := h m hm
  simp only [Bool.and_eq_true, decide_eq_true_eq, not_and]
  intro e
  omega
theorem countIn_le (cnt : Int) (l : List MkD) (cyc : Int) : countIn cnt l cyc ≤ l.length := List.countP_le_length
/-- What was not well in a cycle (0: all was; 1: alive; 2: gaps; 3: flow). -/
def kindL (e : EntD) (l : List MkD) (cyc : Int) : Int :=
  if 0 ≤ e.cnt ∧ 0 < cyc ∧ ((countIn e.cnt l cyc : Int) < e.mn ∨ e.mx < (countIn e.cnt l cyc : Int)) then 1
  else if e.gaps.any (fun g => gapBad g l cyc) = true then 2
  else if flowBad e l cyc = true then 3 else 0
/-- The counter behind all reports. -/
def simA (e : EntD) (l : List MkD) (cyc : Int) : ASt := ⟨ptOf e.cnt e.pts.length, e.mn, e.mx, if ptOf e.cnt e.pts.length = -1 then 0 else countIn e.cnt l cyc⟩
theorem simA_new (e : EntD) : simA e [] 0 = ⟨ptOf e.cnt e.pts.length, e.mn, e.mx, 0⟩ := by
  unfold simA countIn
  simp
theorem ptOf_is {cnt : Int} {n : Nat} (h : ptOf cnt n ≠ -1) : ptOf cnt n = cnt := by
  unfold ptOf at h ⊢
  split
  · rename_i h2; rw [if_pos h2] at h; exact absurd rfl h
  · rfl
theorem simA_rep (e : EntD) (l : List MkD) (cyc p t : Int) (hl : l.length < 1000) : (simA e l cyc).rep p = simA e (l ++ [⟨p, t, cyc⟩]) cyc := by
  unfold ASt.rep
  by_cases h : ptOf e.cnt e.pts.length = -1
  · rw [if_neg (by simp [simA, h])]
    simp [simA, h]
  · have hp := ptOf_is h
    have hc := countIn_le e.cnt l cyc
    by_cases hpp : p = e.cnt
    · have e1 : (simA e l cyc).pt ≠ -1 ∧ p = (simA e l cyc).pt ∧ (simA e l cyc).n < 1000 := by
        refine ⟨h, ?_, ?_⟩
        · simp [simA, hp, hpp]
        · simp only [simA, if_neg h]; omega
      rw [if_pos e1]
      simp only [simA, if_neg h, countIn_snoc, hpp, and_self, if_true]
    · rw [if_neg (by simp only [simA]; rw [hp]; exact fun x => hpp x.2.1)]
      simp only [simA, if_neg h, countIn_snoc]
      rw [if_neg (fun x => hpp x.2)]
      rfl
theorem simA_end {e : EntD} {l : List MkD} {cyc : Int} (h : ∀ m ∈ l, m.cyc ≤ cyc) : (simA e l cyc).zero = simA e l (cyc + 1) := by
  unfold ASt.zero simA
  rw [countIn_next (cyc := cyc + 1) (fun m hm => by have := h m hm; omega)]
  simp
/-- The three watches' verdict is the document's. -/
def kindW (a : ASt) (g : GSt) (f : FSt) (whole : Bool) : Int := if a.well whole = false then 1 else if g.bad = true then 2 else if f.bad = true then 3 else 0
theorem kind_sim {e : EntD} {l : List MkD} {cyc : Int} (hc : e.cnt < (e.pts.length : Int)) : kindW (simA e l cyc) (simG e.gaps l cyc) (simF e l cyc) (decide (0 < cyc)) = kindL e l cyc := by
  unfold kindW kindL
  have e1 : ((simA e l cyc).well (decide (0 < cyc)) = false) ↔ (0 ≤ e.cnt ∧ 0 < cyc ∧ ((countIn e.cnt l cyc : Int) < e.mn ∨ e.mx < (countIn e.cnt l cyc : Int))) := by
    unfold ASt.well
    by_cases h : 0 ≤ e.cnt
    · have hp : ptOf e.cnt e.pts.length = e.cnt := by unfold ptOf; rw [if_neg (by omega)]
      have hn : ¬ e.cnt = -1 := by omega
      simp only [simA, hp, if_neg hn]
      generalize ((countIn e.cnt l cyc : Nat) : Int) = n
      by_cases a1 : e.mn ≤ n <;> by_cases a2 : n ≤ e.mx <;> by_cases a3 : 0 < cyc <;> simp [a1, a2, a3, hn, h] <;> omega
    · have hp : ptOf e.cnt e.pts.length = -1 := by unfold ptOf; rw [if_pos (by omega)]
      simp [simA, hp]
      omega
  by_cases h1 : (0 ≤ e.cnt ∧ 0 < cyc ∧ ((countIn e.cnt l cyc : Int) < e.mn ∨ e.mx < (countIn e.cnt l cyc : Int)))
  · rw [if_pos h1, if_pos (e1.2 h1)]
  · rw [if_neg h1, if_neg (fun x => h1 (e1.1 x))]
    rfl
/-- An entity as the document keeps it. -/
structure LSt where
  act : Bool
  since : Int
  ms : List MkD
  run : Int
  ex : Bool
def LSt.new : LSt := ⟨false, 0, [], 0, false⟩
/-- Begin, Stop: an error's number, what is behind. -/
def LSt.begin (s : LSt) : LSt := if s.act then s else ⟨true, 0, [], 0, false⟩
def LSt.stop (s : LSt) : LSt := { s with act := false }
def LSt.rep (e : EntD) (s : LSt) (p t : Int) : LSt := if s.act ∧ hasP e p = true then { s with ms := s.ms ++ [⟨p, t, s.since⟩] } else s
def LSt.run1 (e : EntD) (s : LSt) : Int := if kindL e s.ms s.since = 0 then 0 else s.run + 1
def LSt.turns (e : EntD) (s : LSt) : Bool := s.act && (!s.ex && decide (e.tol < s.run1 e))
def LSt.fin (e : EntD) (s : LSt) : LSt := if s.act then ⟨true, s.since + 1, s.ms, s.run1 e, s.ex || decide (e.tol < s.run1 e)⟩ else s
def LSt.kind (e : EntD) (s : LSt) : Int := if s.act then kindL e s.ms s.since else 0
/-- The status: 0 idle, 1 ok, 2 failed, 3 expired. -/
def LSt.status (s : LSt) : Nat := if s.act then (if s.ex then 3 else if 0 < s.run then 2 else 1) else 0
/-- What is always so. -/
structure LFit (s : LSt) (k : Nat) : Prop where
  len : s.ms.length ≤ k
  each : ∀ m ∈ s.ms, m.cyc ≤ s.since
  s0 : 0 ≤ s.since
  s1 : s.since ≤ (k : Int)
  r0 : 0 ≤ s.run
  r1 : s.run ≤ s.since
theorem LFit.new : LFit LSt.new 0 := ⟨Nat.le_refl _, fun m hm => (by cases hm), Int.le_refl _, Int.le_refl _, Int.le_refl _, Int.le_refl _⟩
theorem LFit.mono {s : LSt} {k n : Nat} (h : LFit s k) (hn : k ≤ n) : LFit s n := ⟨Nat.le_trans h.len hn, h.each, h.s0, by have := h.s1; omega, h.r0, h.r1⟩
theorem LFit.begin {s : LSt} {k : Nat} (h : LFit s k) : LFit s.begin (k + 1) := by
  unfold LSt.begin
  split
  · exact h.mono (by omega)
  · exact ⟨Nat.zero_le _, fun m hm => (by cases hm), Int.le_refl _, by simp; omega, Int.le_refl _, Int.le_refl _⟩
theorem LFit.stop {s : LSt} {k : Nat} (h : LFit s k) : LFit s.stop (k + 1) := ⟨Nat.le_trans h.len (by omega), h.each, h.s0, by have := h.s1; show s.since ≤ _; push_cast; omega, h.r0, h.r1⟩
theorem LFit.rep {e : EntD} {s : LSt} {k : Nat} (h : LFit s k) (p t : Int) : LFit (s.rep e p t) (k + 1) := by
  unfold LSt.rep
  split
  · refine ⟨by have := h.len; simp; omega, fun m hm => ?_, h.s0, by have := h.s1; show s.since ≤ _; push_cast; omega, h.r0, h.r1⟩
    rw [List.mem_append] at hm
    rcases hm with hm | hm
    · exact h.each m hm
    · rw [List.mem_singleton] at hm; subst hm; exact Int.le_refl _
  · exact h.mono (by omega)
theorem LFit.fin {e : EntD} {s : LSt} {k : Nat} (h : LFit s k) : LFit (s.fin e) (k + 1) := by
  unfold LSt.fin
  split
  · have h1 := h.r0
    have h2 := h.r1
    have h3 := h.s0
    have hr : 0 ≤ s.run1 e ∧ s.run1 e ≤ s.since + 1 := by unfold LSt.run1; split <;> omega
    refine ⟨Nat.le_trans h.len (by omega), fun m hm => by have := h.each m hm; show m.cyc ≤ s.since + 1; omega, by show 0 ≤ s.since + 1; omega, by have := h.s1; show s.since + 1 ≤ _; push_cast; omega, hr.1, hr.2⟩
  · exact h.mono (by omega)
end Go.Proofs.YtkphpgdgbnmnjacGreatDoor

namespace Go.Proofs.YtkphpgdgbnmnjacGreatDoor
open Go

/-- The three watches. -/
structure WSt where
  a : ASt
  g : GSt
  f : FSt
def WSt.new (e : EntD) : WSt := ⟨⟨ptOf e.cnt e.pts.length, e.mn, e.mx, 0⟩, GSt.new e.gaps, ⟨-1, false⟩⟩
def WSt.rep (e : EntD) (s : WSt) (p t : Int) : WSt := ⟨s.a.rep p, s.g.rep p t, s.f.rep e p⟩
def WSt.zero (s : WSt) : WSt := ⟨s.a.zero, s.g.zero, s.f.zero⟩
def WSt.kind (s : WSt) (whole : Bool) : Int := kindW s.a s.g s.f whole
/-- An active entity. -/
structure NSt where
  w : WSt
  whole : Bool
  run : Nat
  ex : Bool
def NSt.new (e : EntD) : NSt := ⟨WSt.new e, false, 0, false⟩
def NSt.kind (s : NSt) : Int := s.w.kind s.whole
def NSt.rep (e : EntD) (s : NSt) (p t : Int) : NSt := if hasP e p = true then { s with w := s.w.rep e p t } else s
def NSt.run1 (s : NSt) : Nat := if s.kind = 0 then 0 else s.run + 1
def NSt.turns (e : EntD) (s : NSt) : Bool := decide (s.kind ≠ 0) && (!s.ex && decide (e.tol < (s.run + 1 : Int)))
def NSt.fin (e : EntD) (s : NSt) : NSt := ⟨s.w.zero, true, s.run1, s.ex || s.turns e⟩
def NSt.status (s : NSt) : Nat := if s.ex then 3 else if s.run = 0 then 1 else 2
theorem rep_len (s : GSt) (p t : Int) : (s.rep p t).xs.length = s.xs.length := by unfold GSt.rep; split <;> simp
/-- Both are one: the three watches keep what the document asks of all reports. -/
structure NSim (e : EntD) (n : NSt) (s : LSt) : Prop where
  act : s.act = true
  a : n.w.a = simA e s.ms s.since
  g : n.w.g = simG e.gaps s.ms s.since
  f : n.w.f = simF e s.ms s.since
  whole : n.whole = decide (0 < s.since)
  run : s.run = (n.run : Int)
  ex : n.ex = s.ex
theorem NSim.new (e : EntD) (s : LSt) (h : s.act = false) : NSim e (NSt.new e) s.begin := by
  have hb : s.begin = ⟨true, 0, [], 0, false⟩ := by unfold LSt.begin; rw [h]; rfl
  rw [hb]
  exact ⟨rfl, (simA_new e).symm, sim_new e.gaps, (simF_new e).symm, by simp [NSt.new], rfl, rfl⟩
theorem NSim.rep {e : EntD} {n : NSt} {s : LSt} (h : NSim e n s) (p t : Int) (hl : s.ms.length < 1000) (ht : tickOk t = true) : NSim e (n.rep e p t) (s.rep e p t) := by
  unfold NSt.rep LSt.rep
  by_cases hp : hasP e p = true
  · rw [if_pos hp, if_pos ⟨h.act, hp⟩]
    refine ⟨h.act, ?_, ?_, ?_, h.whole, h.run, h.ex⟩
    · show n.w.a.rep p = _
      rw [h.a]; exact simA_rep e s.ms s.since p t hl
    · show n.w.g.rep p t = _
      rw [h.g]; exact sim_rep e.gaps s.ms s.since p t ht
    · show n.w.f.rep e p = _
      rw [h.f]; exact simF_rep e s.ms s.since p t
  · rw [if_neg hp, if_neg (fun x => hp x.2)]
    exact h
theorem NSim.kind {e : EntD} {n : NSt} {s : LSt} (h : NSim e n s) (hc : e.cnt < (e.pts.length : Int)) : n.kind = s.kind e := by
  unfold NSt.kind WSt.kind LSt.kind
  rw [h.a, h.g, h.f, h.whole, kind_sim hc, if_pos h.act]
theorem NSim.turns {e : EntD} {n : NSt} {s : LSt} (h : NSim e n s) (hc : e.cnt < (e.pts.length : Int)) (ht : 0 ≤ e.tol) : n.turns e = s.turns e := by
  have hk := h.kind hc
  unfold LSt.kind at hk
  rw [if_pos h.act] at hk
  unfold NSt.turns LSt.turns LSt.run1
  rw [hk, h.act, h.ex, h.run]
  by_cases h0 : kindL e s.ms s.since = 0
  · simp [h0]; omega
  · simp [h0]
theorem NSim.fin {e : EntD} {n : NSt} {s : LSt} (h : NSim e n s) (hc : e.cnt < (e.pts.length : Int)) (ht : 0 ≤ e.tol) (hm : ∀ m ∈ s.ms, m.cyc ≤ s.since) (h0 : 0 ≤ s.since) : NSim e (n.fin e) (s.fin e) := by
  have hk := h.kind hc
  have htu := h.turns hc ht
  unfold LSt.kind at hk
  rw [if_pos h.act] at hk
  unfold NSt.fin LSt.fin
  rw [if_pos h.act]
  refine ⟨rfl, ?_, ?_, ?_, ?_, ?_, ?_⟩
  · show n.w.a.zero = _
    rw [h.a]; exact simA_end hm
  · show n.w.g.zero = _
    rw [h.g]; exact sim_end hm
  · show n.w.f.zero = _
    rw [h.f]; exact simF_end hm
  · show true = decide (0 < s.since + 1)
    rw [decide_eq_true (by omega)]
  · show s.run1 e = ((n.run1 : Nat) : Int)
    unfold LSt.run1 NSt.run1
    rw [hk, h.run]
    split <;> simp
  · show (n.ex || n.turns e) = (s.ex || decide (e.tol < s.run1 e))
    rw [htu, h.ex]
    unfold LSt.turns
    rw [h.act]
    cases s.ex <;> simp
theorem NSim.status {e : EntD} {n : NSt} {s : LSt} (h : NSim e n s) : n.status = s.status := by
  unfold NSt.status LSt.status
  rw [h.act, h.ex, h.run]
  cases s.ex
  · by_cases hr : n.run = 0
    · simp [hr]
    · simp [hr, Nat.pos_of_ne_zero hr]
  · rfl
end Go.Proofs.YtkphpgdgbnmnjacGreatDoor

namespace Go.Proofs.YtkphpgdgbnmnjacGreatDoor
open Go.RowKit Go.Extern.Stop Go.Stop Go.Extern

/-- A slice in memory, its elements of k cells each. -/
def SlAt {α : Type} (enc : α → List Value) (k : Nat) (w : World) (v : Value) (xs : List α) : Prop :=
  ∃ sa cap, v = .slice sa xs.length cap ∧ xs.length ≤ cap ∧ (xs ≠ [] → ∃ b o, sa = some ⟨b, o, none⟩ ∧ ∀ i x, xs[i]? = some x → ∀ j u, (enc x)[j]? = some u → w.cell? ⟨b, o + i * k + j, none⟩ = some u)
theorem SlAt.below {α : Type} {enc : α → List Value} {k : Nat} {w w' : World} {v : Value} {xs : List α} (h : SlAt enc k w v xs) (hb : Below w.heap.size w w') : SlAt enc k w' v xs := by
  obtain ⟨sa, cap, h1, h0, h2⟩ := h
  refine ⟨sa, cap, h1, h0, fun hne => ?_⟩
  obtain ⟨b, o, h3, h4⟩ := h2 hne
  exact ⟨b, o, h3, fun i x hx j u hu => cell_below hb (h4 i x hx j u hu)⟩
def encI (x : Int) : List Value := [.int .i64 x]
def encS (s : ByteArray) : List Value := [.string s]
def encP (p : Int × Int) : List Value := [.int .i64 p.1, .int .i64 p.2]
def encG (g : GapD) : List Value := [.int .i64 g.fr, .int .i64 g.to, .int .i64 g.mn, .int .i64 g.mx]
/-- An entity's cells. -/
def entRow (e : EntD) (pv gv ev fv lv : Value) : Array Value := #[.string e.name, .int .i64 e.tol, pv, .int .i64 e.cnt, .int .i64 e.mn, .int .i64 e.mx, gv, ev, fv, lv]
structure EntParts (w : World) (e : EntD) (pv gv ev fv lv : Value) : Prop where
  hp : SlAt encS 1 w pv e.pts
  hg : SlAt encG 4 w gv e.gaps
  he : SlAt encP 2 w ev e.edges
  hf : SlAt encI 1 w fv e.first
  hl : SlAt encI 1 w lv e.last
theorem EntParts.below {w w' : World} {e : EntD} {pv gv ev fv lv : Value} (h : EntParts w e pv gv ev fv lv) (hb : Below w.heap.size w w') : EntParts w' e pv gv ev fv lv :=
  ⟨h.hp.below hb, h.hg.below hb, h.he.below hb, h.hf.below hb, h.hl.below hb⟩
/-- An entity as a value; a list of them; a config as a value. -/
def EntAt (w : World) (v : Value) (e : EntD) : Prop := ∃ pv gv ev fv lv, v = .agg (entRow e pv gv ev fv lv) ∧ EntParts w e pv gv ev fv lv
theorem EntAt.below {w w' : World} {v : Value} {e : EntD} (h : EntAt w v e) (hb : Below w.heap.size w w') : EntAt w' v e := by
  obtain ⟨pv, gv, ev, fv, lv, h1, h2⟩ := h
  exact ⟨pv, gv, ev, fv, lv, h1, h2.below hb⟩
def EntsAt (w : World) (v : Value) (es : List EntD) : Prop :=
  ∃ sa cap, v = .slice sa es.length cap ∧ (es ≠ [] → ∃ b o, sa = some ⟨b, o, none⟩ ∧ ∀ i e, es[i]? = some e → ∃ pv gv ev fv lv, EntParts w e pv gv ev fv lv ∧ ∀ j u, (entRow e pv gv ev fv lv)[j]? = some u → w.cell? ⟨b, o + i * 10 + j, none⟩ = some u)
theorem EntsAt.below {w w' : World} {v : Value} {es : List EntD} (h : EntsAt w v es) (hb : Below w.heap.size w w') : EntsAt w' v es := by
  obtain ⟨sa, cap, h1, h2⟩ := h
  refine ⟨sa, cap, h1, fun hne => ?_⟩
  obtain ⟨b, o, h3, h4⟩ := h2 hne
  refine ⟨b, o, h3, fun i e he => ?_⟩
  obtain ⟨pv, gv, ev, fv, lv, h5, h6⟩ := h4 i e he
  exact ⟨pv, gv, ev, fv, lv, h5.below hb, fun j u hu => cell_below hb (h6 j u hu)⟩
def CfgAt (w : World) (v : Value) (c : CfgD) : Prop := ∃ sv, v = .agg #[.int .i64 c.closed, .int .i64 c.opn, .int .i64 c.cycle, .int .i64 c.delay, sv] ∧ EntsAt w sv c.ents
theorem CfgAt.below {w w' : World} {v : Value} {c : CfgD} (h : CfgAt w v c) (hb : Below w.heap.size w w') : CfgAt w' v c := by
  obtain ⟨sv, h1, h2⟩ := h
  exact ⟨sv, h1, h2.below hb⟩
/-- Not so many that a counter would turn. -/
structure SmallE (e : EntD) : Prop where
  hn : e.name.size ≤ 1000000
  hp : e.pts.length ≤ 1000000
  hs : ∀ p ∈ e.pts, p.size ≤ 1000000
  hg : e.gaps.length ≤ 1000000
  he : e.edges.length ≤ 1000000
  hf : e.first.length ≤ 1000000
  hl : e.last.length ≤ 1000000
structure SmallC (c : CfgD) : Prop where
  hn : c.ents.length ≤ 1000000
  he : ∀ e ∈ c.ents, SmallE e

end Go.Proofs.YtkphpgdgbnmnjacGreatDoor

namespace Go.Proofs.YtkphpgdgbnmnjacGreatDoor
open Go.ChangeShapes Go.WideShapes Go.ChangeAt Go.RowKit Go.Deep

theorem Tryz.laidOut : laidOutB Tryz.prog = true := by kernel_rfl
theorem spot_none {W : World} {a : Addr} {v : Value} (h : W.cell? a = some v) : a = ⟨a.block, a.off, none⟩ := by
  obtain ⟨b, o, s⟩ := a
  cases s with
  | none => rfl
  | some x =>
    exfalso
    unfold World.cell? at h
    split at h
    · simp at h
    · cases h
theorem add_plain (b o j : Nat) : (⟨b, o, none⟩ : Addr).add j = ⟨b, o + j, none⟩ := by unfold Addr.add; split <;> simp_all
theorem cells_of {W : World} {a : Addr} {k : Nat} {cs : List Value} (h : W.cells? 0 a k = some cs) : cs.length = k ∧ ∀ j u, cs[j]? = some u → W.cell? (a.add j) = some u := by
  unfold World.cells? at h
  rw [if_pos (Nat.zero_le _)] at h
  have hl : cs.length = k := by simpa using Lib.mapM_length h
  refine ⟨hl, fun j u hu => ?_⟩
  have hj : j < k := by have := (List.getElem?_eq_some_iff.1 hu).1; omega
  obtain ⟨b, h1, h2⟩ := Lib.mapM_at h j j (by simp [hj])
  rw [hu] at h1
  cases h1
  exact h2
theorem choose_any {α : Type} (d : α) {n : Nat} {p : Nat → α → Prop} (h : ∀ i, i < n → ∃ x, p i x) : ∃ f : Nat → α, ∀ i, i < n → p i (f i) := by
  classical
  refine ⟨fun i => if hi : i < n then Classical.choose (h i hi) else d, fun i hi => ?_⟩
  simp only [dif_pos hi]
  exact Classical.choose_spec (h i hi)
/-- A slice, read: its elements lie in memory, each as it is read. -/
theorem sl_gen {α : Type} (d : α) {Q : List Value → α → Prop} {H : Type} {enc : TypeId × Value → H} {W : World} {T Ts : TypeId} {k fuel : Nat} {cs : List Value} {x : DataW H × List MemPlace} (hs : Tryz.prog.underlying Ts = some (.slice T)) (hk : Tryz.prog.cellsOf T = k) (hk0 : 0 < k)
    (hel : ∀ n cs x, DataW.trod enc Tryz.prog W 0 (fun _ => true) true n T cs = some x → ∃ a, Q cs a) (h : DataW.trod enc Tryz.prog W 0 (fun _ => true) true fuel Ts cs = some x) :
    ∃ (sa : Option Addr) (cap : Nat) (xs : List α), cs = [.slice sa xs.length cap] ∧ xs.length ≤ cap ∧ (xs ≠ [] → ∃ b o, sa = some ⟨b, o, none⟩ ∧ ∀ i a, xs[i]? = some a → ∃ cs', Q cs' a ∧ ∀ j u, cs'[j]? = some u → W.cell? ⟨b, o + i * k + j, none⟩ = some u) := by
  rcases open_slice hs h with ⟨hcs, -⟩ | ⟨a, len, cap, m, n, D, Pl, hcs, -, hlc, hcm, hm, -, hall⟩
  · exact ⟨none, 0, [], by simpa using hcs, Nat.le_refl _, fun e => absurd rfl e⟩
  · simp only [if_true] at hm
    subst hm
    rw [hk] at hall
    obtain ⟨f, hf⟩ := choose_any d (n := len) (p := fun i y => ∃ cs', Q cs' y ∧ W.cells? 0 (a.add (i * k)) k = some cs') (fun i hi => by
      obtain ⟨cs', h1, h2⟩ := hall i (by omega)
      obtain ⟨y, hy⟩ := hel _ _ _ h2
      exact ⟨y, cs', hy, h1⟩)
    have hxl : ((List.range len).map f).length = len := by simp
    refine ⟨some a, m, (List.range len).map f, by rw [hxl]; exact hcs, by rw [hxl]; exact hlc, fun hne => ?_⟩
    have hpos : 0 < len := by
      rcases Nat.eq_zero_or_pos len with h0 | h0
      · subst h0; exact absurd rfl hne
      · exact h0
    have ha : a = ⟨a.block, a.off, none⟩ := by
      obtain ⟨cs', -, h1⟩ := hf 0 hpos
      obtain ⟨hl, hc⟩ := cells_of h1
      have e : (a.add (0 * k)).add 0 = a := by simp [Addr.add]
      have := hc 0 (cs'[0]'(by omega)) (List.getElem?_eq_getElem _)
      rw [e] at this
      exact spot_none this
    refine ⟨a.block, a.off, congrArg some ha, fun i y hy => ?_⟩
    rw [List.getElem?_map, Option.map_eq_some_iff] at hy
    obtain ⟨i', hi', rfl⟩ := hy
    obtain ⟨hil0, hi2⟩ := List.getElem?_eq_some_iff.1 hi'
    have hil : i < len := by simpa using hil0
    obtain rfl : i = i' := by simpa using hi2
    obtain ⟨cs', h1, h2⟩ := hf i hil
    refine ⟨cs', h1, fun j u hu => ?_⟩
    have := (cells_of h2).2 j u hu
    rw [ha, add_plain, add_plain] at this
    exact this
theorem sl_of_trod {α : Type} (d : α) {ec : α → List Value} {H : Type} {enc : TypeId × Value → H} {W : World} {T Ts : TypeId} {k fuel : Nat} {v : Value} {x : DataW H × List MemPlace} (hs : Tryz.prog.underlying Ts = some (.slice T)) (hk : Tryz.prog.cellsOf T = k) (hk0 : 0 < k)
    (hel : ∀ n cs x, DataW.trod enc Tryz.prog W 0 (fun _ => true) true n T cs = some x → ∃ a, cs = ec a) (h : DataW.trod enc Tryz.prog W 0 (fun _ => true) true fuel Ts [v] = some x) : ∃ xs : List α, SlAt ec k W v xs := by
  obtain ⟨sa, cap, xs, hcs, hl, hx⟩ := sl_gen d (Q := fun cs a => cs = ec a) hs hk hk0 hel h
  simp only [List.cons.injEq, and_true] at hcs
  refine ⟨xs, sa, cap, hcs, hl, fun hne => ?_⟩
  obtain ⟨b, o, h1, h2⟩ := hx hne
  refine ⟨b, o, h1, fun i y hy j u hu => ?_⟩
  obtain ⟨cs', rfl, h3⟩ := h2 i y hy
  exact h3 j u hu
theorem sl_of_trod2 {α : Type} (d : α) {ec : α → List Value} {R : α → Prop} {H : Type} {enc : TypeId × Value → H} {W : World} {T Ts : TypeId} {k fuel : Nat} {v : Value} {x : DataW H × List MemPlace} (hs : Tryz.prog.underlying Ts = some (.slice T)) (hk : Tryz.prog.cellsOf T = k) (hk0 : 0 < k)
    (hel : ∀ n cs x, DataW.trod enc Tryz.prog W 0 (fun _ => true) true n T cs = some x → ∃ a, cs = ec a ∧ R a) (h : DataW.trod enc Tryz.prog W 0 (fun _ => true) true fuel Ts [v] = some x) : ∃ xs : List α, SlAt ec k W v xs ∧ ∀ a ∈ xs, R a := by
  obtain ⟨sa, cap, xs, hcs, hl, hx⟩ := sl_gen d (Q := fun cs a => cs = ec a ∧ R a) hs hk hk0 hel h
  simp only [List.cons.injEq, and_true] at hcs
  refine ⟨xs, ⟨sa, cap, hcs, hl, fun hne => ?_⟩, fun a ha => ?_⟩
  · obtain ⟨b, o, h1, h2⟩ := hx hne
    refine ⟨b, o, h1, fun i y hy j u hu => ?_⟩
    obtain ⟨cs', ⟨rfl, -⟩, h3⟩ := h2 i y hy
    exact h3 j u hu
  · obtain ⟨i, hi⟩ := List.getElem?_of_mem ha
    obtain ⟨b, o, h1, h2⟩ := hx (fun e => by rw [e] at ha; cases ha)
    obtain ⟨cs', ⟨-, hr⟩, -⟩ := h2 i a hi
    exact hr
theorem int_of_trod {H : Type} {enc : TypeId × Value → H} {W : World} (n : Nat) (cs : List Value) (x : DataW H × List MemPlace) (h : DataW.trod enc Tryz.prog W 0 (fun _ => true) true n 3 cs = some x) : ∃ z : Int, cs = encI z := by
  obtain ⟨z, h1, -, -⟩ := DataW.trod_int Tryz.underlying3 h
  exact ⟨z, h1⟩
theorem str_of_trod {H : Type} {enc : TypeId × Value → H} {W : World} (n : Nat) (cs : List Value) (x : DataW H × List MemPlace) (h : DataW.trod enc Tryz.prog W 0 (fun _ => true) true n 9 cs = some x) : ∃ z : ByteArray, cs = encS z := by
  obtain ⟨z, h1, -, -⟩ := DataW.trod_string Tryz.underlying9 h
  exact ⟨z, h1⟩
end Go.Proofs.YtkphpgdgbnmnjacGreatDoor
