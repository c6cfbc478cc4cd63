/-
  Package alive by contracts over the object in memory ('AlAt'); a counter of the law's own behind all that was there ('AlIn'). No condition.
-/
import Derived.Test.YtpaolneaomeoiabDoorMemX
import Derived.BigQuiet
import Derived.Deep.QuietTactic
import Derived.Deep.DeepCutAuto
import Derived.WalkSmall
namespace Go.Proofs.YtpaolneaomeoiabDoor
open Go.RowKit Go.Extern.Stop Go.Stop Go.Extern

/-- A counter: the point (-1: none), Min, Max, the count. -/
structure ASt where
  pt : Int
  mn : Int
  mx : Int
  n : Nat
def ASt.row (a : ASt) : Array Value := #[.int .i64 a.pt, .int .i64 a.mn, .int .i64 a.mx, .int .i64 (a.n : Int)]
/-- The point that is counted. -/
def ptOf (cnt : Int) (len : Nat) : Int := if cnt < 0 ∨ (len : Int) ≤ cnt then -1 else cnt
def ASt.rep (a : ASt) (p : Int) : ASt := if a.pt ≠ -1 ∧ p = a.pt ∧ a.n < 1000 then { a with n := a.n + 1 } else a
def ASt.well (a : ASt) (whole : Bool) : Bool := (decide (a.mn ≤ (a.n : Int)) && decide ((a.n : Int) ≤ a.mx)) || !whole || decide (a.pt = -1)
def ASt.zero (a : ASt) : ASt := { a with n := 0 }
structure AlAt (w : World) (b : Nat) (a : ASt) : Prop where
  heap : w.heap[b]? = some (.cells a.row 120 (0, 0))
  hn : a.n ≤ 1000
structure AlIn (w0 w : World) (b : Nat) (a : ASt) : Prop where
  at' : AlAt w b a
  bel : Below w0.heap.size w0 w
  lo : w0.heap.size ≤ b
theorem AlAt.cell {w : World} {b : Nat} {a : ASt} (h : AlAt w b a) (i : Nat) : w.cell? ⟨b, i, none⟩ = a.row[i]? := by simp [World.cell?, h.heap]
theorem AlAt.frozen {w : World} {b : Nat} {a : ASt} (h : AlAt w b a) (i : Nat) : w.frozen? ⟨b, i, none⟩ = false := by simp [World.frozen?, h.heap]
theorem AlAt.c0 {w : World} {b : Nat} {a : ASt} (h : AlAt w b a) : w.cell? ⟨b, 0, none⟩ = some (.int .i64 a.pt) := h.cell 0
theorem AlAt.c1 {w : World} {b : Nat} {a : ASt} (h : AlAt w b a) : w.cell? ⟨b, 1, none⟩ = some (.int .i64 a.mn) := h.cell 1
theorem AlAt.c2 {w : World} {b : Nat} {a : ASt} (h : AlAt w b a) : w.cell? ⟨b, 2, none⟩ = some (.int .i64 a.mx) := h.cell 2
theorem AlAt.c3 {w : World} {b : Nat} {a : ASt} (h : AlAt w b a) : w.cell? ⟨b, 3, none⟩ = some (.int .i64 (a.n : Int)) := h.cell 3
theorem AlAt.set {w : World} {b : Nat} {a : ASt} (h : AlAt w b a) (n : Nat) (hn : n ≤ 1000) : AlAt (w.setCell ⟨b, 3, none⟩ (.int .i64 (n : Int))) b { a with n := n } := by
  refine ⟨?_, hn⟩
  simp only [World.setCell, Array.getElem?_modify, h.heap]
  simp [ASt.row]
theorem AlAt.below {w w' : World} {b : Nat} {a : ASt} (h : AlAt w b a) (hb : Below w.heap.size w w') : AlAt w' b a := ⟨row_below hb h.heap, h.hn⟩
theorem AlAt.drewN {w : World} {b : Nat} {a : ASt} (h : AlAt w b a) (q : Nat) : AlAt (w.drewN q) b a := ⟨h.heap, h.hn⟩
theorem AlIn.drewN {w0 w : World} {b : Nat} {a : ASt} (h : AlIn w0 w b a) (q : Nat) : AlIn w0 (w.drewN q) b a := ⟨h.at'.drewN q, below_drewN h.bel q, h.lo⟩
theorem AlIn.below {w0 w w' : World} {b : Nat} {a : ASt} (h : AlIn w0 w b a) (hb : Below w.heap.size w w') : AlIn w0 w' b a := ⟨h.at'.below hb, h.bel.trans (hb.mono h.bel.size), h.lo⟩
theorem AlIn.set {w0 w : World} {b : Nat} {a : ASt} (h : AlIn w0 w b a) (n : Nat) (hn : n ≤ 1000) : AlIn w0 (w.setCell ⟨b, 3, none⟩ (.int .i64 (n : Int))) b { a with n := n } := ⟨h.at'.set n hn, h.bel.setCell (p := ⟨b, 3, none⟩) h.lo _, h.lo⟩
theorem AlIn.from {w0 w1 w : World} {b : Nat} {a : ASt} (h : AlIn w1 w b a) (hb : Below w0.heap.size w0 w1) : AlIn w0 w b a := ⟨h.at', hb.trans (h.bel.mono hb.size), Nat.le_trans hb.size h.lo⟩

set_option maxHeartbeats 1000000 in
theorem al_new (name : ByteArray) (tol cnt mn mx : Int) (pa : Option Addr) (pl pc : Nat) (gv ev fv lv : Value) (w : World) :
    Calls Tryd.prog 49 #[.agg #[.string name, .int .i64 tol, .slice pa pl pc, .int .i64 cnt, .int .i64 mn, .int .i64 mx, gv, ev, fv, lv]] w fun v w' => ∃ b, v = .returned (.pointer (some ⟨b, 0, none⟩)) ∧ AlIn w w' b ⟨ptOf cnt pl, mn, mx, 0⟩ := by
  have fin : ∀ (z : Int) (o : Obj), z = ptOf cnt pl → AlIn w ((w.alloc o).alloc (.cells #[.int .i64 z, .int .i64 mn, .int .i64 mx, .int .i64 0] 120)) (w.heap.size + 1) ⟨ptOf cnt pl, mn, mx, 0⟩ := by
    rintro z o rfl
    refine ⟨⟨?_, Nat.zero_le _⟩, (Below.one _ _).alloc (by simp) _, by omega⟩
    show ((w.alloc o).heap.push _)[w.heap.size + 1]? = _
    rw [Array.getElem?_push, if_pos (by simp)]
    rfl
  have HFin : Hid _ := fin
  clear fin
  by_cases h0 : cnt < 0
  · have HZ : Hid ((-1 : Int) = ptOf cnt pl) := by show _ = _; unfold ptOf; rw [if_pos (Or.inl h0)]
    go_enter Tryd.func49, Tryd.ntmps49
    go_wp2
    go_ret
    exact ⟨_, rfl, HFin.out _ _ HZ.out⟩
  by_cases h1 : (pl : Int) ≤ cnt
  · have HZ : Hid ((-1 : Int) = ptOf cnt pl) := by show _ = _; unfold ptOf; rw [if_pos (Or.inr h1)]
    go_enter Tryd.func49, Tryd.ntmps49
    go_wp2
    go_ret
    exact ⟨_, rfl, HFin.out _ _ HZ.out⟩
  · have HZ : Hid (cnt = ptOf cnt pl) := by show _ = _; unfold ptOf; rw [if_neg (by omega)]
    go_enter Tryd.func49, Tryd.ntmps49
    go_wp2
    go_ret
    exact ⟨_, rfl, HFin.out _ _ HZ.out⟩

variable {w0 w : World} {b : Nat} {a : ASt}
set_option maxHeartbeats 1000000 in
set_option maxRecDepth 100000 in
theorem al_report (p : Int) (h : AlIn w0 w b a) :
    Calls Tryd.prog 53 #[.pointer (some ⟨b, 0, none⟩), .int .i64 p] w fun e w' => e = .returned (.tuple #[]) ∧ AlIn w0 w' b (a.rep p) := by
  have c0 := h.at'.c0
  have c3 := h.at'.c3
  have f3 := h.at'.frozen 3
  have hn := h.at'.hn
  by_cases h0 : a.pt = -1
  · have HR : Hid (a.rep p = a) := by show _ = _; unfold ASt.rep; rw [if_neg (fun e => e.1 h0)]
    rw [h0] at c0
    have H : Hid (AlIn w0 w b a) := h
    clear h
    go_enter Tryd.func53, Tryd.ntmps53
    go_wp2
    go_end0
    exact ⟨rfl, by rw [HR.out]; exact H.out⟩
  by_cases h1 : p = a.pt
  · subst h1
    by_cases h2 : a.n < 1000
    · have HR : Hid (a.rep a.pt = { a with n := a.n + 1 }) := by show _ = _; unfold ASt.rep; rw [if_pos ⟨h0, rfl, h2⟩]
      have H : Hid (AlIn w0 w b a) := h
      clear h
      have h3 : (a.n : Int) < 1000 := by omega
      go_enter Tryd.func53, Tryd.ntmps53
      go_wp2
      go_end0
      refine ⟨rfl, ?_⟩
      rw [HR.out]
      have := H.out.set (a.n + 1) (by omega)
      simpa using this
    · have HR : Hid (a.rep a.pt = a) := by show _ = _; unfold ASt.rep; rw [if_neg (fun e => h2 e.2.2)]
      have H : Hid (AlIn w0 w b a) := h
      clear h
      have h3 : ¬ (a.n : Int) < 1000 := by omega
      go_enter Tryd.func53, Tryd.ntmps53
      go_wp2
      go_end0
      exact ⟨rfl, by rw [HR.out]; exact H.out⟩
  · have HR : Hid (a.rep p = a) := by show _ = _; unfold ASt.rep; rw [if_neg (fun e => h1 e.2.1)]
    have H : Hid (AlIn w0 w b a) := h
    clear h
    go_enter Tryd.func53, Tryd.ntmps53
    go_wp2
    go_end0
    exact ⟨rfl, by rw [HR.out]; exact H.out⟩
set_option maxHeartbeats 2000000 in
set_option maxRecDepth 100000 in
theorem al_end (whole : Bool) (h : AlIn w0 w b a) :
    Calls Tryd.prog 51 #[.pointer (some ⟨b, 0, none⟩), .bool whole] w fun e w' => e = .returned (.bool (a.well whole)) ∧ AlIn w0 w' b a.zero := by
  have c0 := h.at'.c0
  have c1 := h.at'.c1
  have c2 := h.at'.c2
  have c3 := h.at'.c3
  have f3 := h.at'.frozen 3
  have H : Hid (∀ q, AlIn w0 ((w.drewN q).setCell ⟨b, 3, none⟩ (.int .i64 0)) b a.zero) := fun q => (h.drewN q).set 0 (by omega)
  have d0 : ∀ q, ((w.drewN q).setCell ⟨b, 3, none⟩ (.int .i64 0)).cell? ⟨b, 0, none⟩ = some (.int .i64 a.pt) := fun q => ((h.drewN q).set 0 (by omega)).at'.c0
  clear h
  cases g1 : decide (a.mn ≤ (a.n : Int))
  all_goals cases g2 : decide ((a.n : Int) ≤ a.mx)
  all_goals cases whole
  all_goals cases g3 : decide (a.pt = -1)
  all_goals
    go_enter Tryd.func51, Tryd.ntmps51
    go_wp2_with fail
    go_quiet (fail)
    go_wp2
    go_ret
    exact ⟨by first | (unfold ASt.well; rw [g1, g2, g3]; rfl) | (unfold ASt.well; rw [g1, g2]; rfl), H.out _⟩
end Go.Proofs.YtpaolneaomeoiabDoor
