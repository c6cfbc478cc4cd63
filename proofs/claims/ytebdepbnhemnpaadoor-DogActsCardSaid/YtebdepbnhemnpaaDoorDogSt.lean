/-
  Package dog, function by function, told by contracts over the object in memory ('DogAt'). Conditions: the object's block lies behind the package variables; the sentinels are in memory ('Senv').
-/
import Derived.Test.YtebdepbnhemnpaaDoorCellsOps
import Derived.Test.YtebdepbnhemnpaaDoorOrders
import Derived.BigQuiet
import Derived.Deep.QuietTactic
import Derived.Deep.DeepCutAuto
import Derived.WalkSmall
namespace Go.Proofs.YtebdepbnhemnpaaDoor
open Go.RowKit Go.Extern.Stop Go.Stop Go.Extern


structure DSt where
  closed : Nat
  opn : Nat
  now : Nat
  begun : Nat
  kicks : Nat
  reset : Bool
def DSt.row (d : DSt) : Array Value := #[.int .i64 (d.closed : Int), .int .i64 (d.opn : Int), .int .i64 (d.now : Int), .int .i64 (d.begun : Int), .int .i64 (d.kicks : Int), .bool d.reset]
structure DogAt (w : World) (b : Nat) (d : DSt) : Prop where
  heap : w.heap[b]? = some (.cells d.row 119 (0, 0))
  hc : d.closed ≤ 1000
  ho : d.opn ≤ 1000
  hk : d.kicks ≤ d.begun
  hb : d.begun ≤ d.now
  hn : d.now ≤ 1099511627776
theorem DogAt.cell {w : World} {b : Nat} {d : DSt} (h : DogAt w b d) (i : Nat) : w.cell? ⟨b, i, none⟩ = d.row[i]? := by simp [World.cell?, h.heap]
theorem DogAt.frozen {w : World} {b : Nat} {d : DSt} (h : DogAt w b d) (i : Nat) : w.frozen? ⟨b, i, none⟩ = false := by simp [World.frozen?, h.heap]
theorem DogAt.c0 {w : World} {b : Nat} {d : DSt} (h : DogAt w b d) : w.cell? ⟨b, 0, none⟩ = some (.int .i64 (d.closed : Int)) := h.cell 0
theorem DogAt.c1 {w : World} {b : Nat} {d : DSt} (h : DogAt w b d) : w.cell? ⟨b, 1, none⟩ = some (.int .i64 (d.opn : Int)) := h.cell 1
theorem DogAt.c2 {w : World} {b : Nat} {d : DSt} (h : DogAt w b d) : w.cell? ⟨b, 2, none⟩ = some (.int .i64 (d.now : Int)) := h.cell 2
theorem DogAt.c3 {w : World} {b : Nat} {d : DSt} (h : DogAt w b d) : w.cell? ⟨b, 3, none⟩ = some (.int .i64 (d.begun : Int)) := h.cell 3
theorem DogAt.c4 {w : World} {b : Nat} {d : DSt} (h : DogAt w b d) : w.cell? ⟨b, 4, none⟩ = some (.int .i64 (d.kicks : Int)) := h.cell 4
theorem DogAt.c5 {w : World} {b : Nat} {d : DSt} (h : DogAt w b d) : w.cell? ⟨b, 5, none⟩ = some (.bool d.reset) := h.cell 5
theorem DogAt.lt {w : World} {b : Nat} {d : DSt} (h : DogAt w b d) : b < w.heap.size := lt_of_row h.heap
theorem DogAt.set {w : World} {b : Nat} {d d' : DSt} (h : DogAt w b d) (i : Nat) (v : Value) (hr : d.row.setIfInBounds i v = d'.row) (hc : d'.closed ≤ 1000) (ho : d'.opn ≤ 1000) (hk : d'.kicks ≤ d'.begun) (hb : d'.begun ≤ d'.now) (hn : d'.now ≤ 1099511627776) : DogAt (w.setCell ⟨b, i, none⟩ v) b d' := by
  refine ⟨?_, hc, ho, hk, hb, hn⟩
  simp only [World.setCell, Array.getElem?_modify, h.heap]
  simp [hr]
theorem DogAt.below {w w' : World} {b : Nat} {d : DSt} (h : DogAt w b d) (hb : Below w.heap.size w w') : DogAt w' b d := ⟨row_below hb h.heap, h.hc, h.ho, h.hk, h.hb, h.hn⟩
theorem DogAt.drewN {w : World} {b : Nat} {d : DSt} (h : DogAt w b d) (q : Nat) : DogAt (w.drewN q) b d := ⟨h.heap, h.hc, h.ho, h.hk, h.hb, h.hn⟩
theorem DogAt.drew {w : World} {b : Nat} {d : DSt} (h : DogAt w b d) : DogAt w.drew b d := ⟨h.heap, h.hc, h.ho, h.hk, h.hb, h.hn⟩
theorem DogAt.other {w w' : World} {b c : Nat} {d : DSt} (h : DogAt w b d) (hg : w.grownBy w' (some c)) (hne : b ≠ c) : DogAt w' b d :=
  ⟨(hg.block b h.lt (by simpa using hne)).trans h.heap, h.hc, h.ho, h.hk, h.hb, h.hn⟩
theorem grown_drewN {a w : World} {r : Option Nat} (h : a.grownBy w r) (q : Nat) : a.grownBy (w.drewN q) r := ⟨h.os, h.tape, h.output, h.size, h.block⟩

def DSt.new (c o : Nat) : DSt := ⟨c, o, 0, 0, 0, false⟩
/-- Is the window open? -/
def DSt.isOpen (d : DSt) : Bool := !d.reset && decide (d.closed < d.now - d.begun)
/-- One tick. -/
def DSt.tick (d : DSt) : DSt := { d with now := d.now + 1, reset := decide (d.closed + d.opn < d.now + 1 - d.begun) }
/-- A kick that is well; a kick that is not. -/
def DSt.kick (d : DSt) : DSt := { d with begun := d.now, kicks := d.kicks + 1 }
def DSt.bad (d : DSt) : DSt := { d with reset := true }
def DSt.start (d : DSt) : DSt := { d with begun := d.now, reset := false }

set_option maxHeartbeats 400000 in
theorem dog_new (c o : Nat) (w : World) (h1 : c ≤ 1000) (h2 : 1 ≤ o) (h3 : o ≤ 1000) :
    Calls Tryd.prog 43 #[.int .i64 (c : Int), .int .i64 (o : Int)] w fun e w' => e = .returned (.tuple #[.pointer (some ⟨w.heap.size, 0, none⟩), .nilIface]) ∧ Below w.heap.size w w' ∧ DogAt w' w.heap.size (DSt.new c o) := by
  have g1 : ¬ (c : Int) < 0 := by omega
  have g2 : ¬ 1000 < (c : Int) := by omega
  have g3 : ¬ (o : Int) < 1 := by omega
  have g4 : ¬ 1000 < (o : Int) := by omega
  go_enter Tryd.func43, Tryd.ntmps43
  go_wp2
  go_ret2
  refine ⟨rfl, ?_, ⟨?_, h1, h3, Nat.le_refl _, Nat.le_refl _, Nat.zero_le _⟩⟩
  · exact (Below.refl _ _).alloc (Nat.le_refl _) _
  · show (w.heap.push _)[w.heap.size]? = _
    simp
    rfl

set_option maxHeartbeats 400000 in
theorem dog_new_out (A : Nat → Addr) (c o : Int) (w : World) (hs : Senv A w) (h : c < 0 ∨ 1000 < c ∨ o < 1 ∨ 1000 < o) :
    Calls Tryd.prog 43 #[.int .i64 c, .int .i64 o] w fun e w' => e = .returned (.tuple #[.pointer none, errVal A 2]) ∧ Below w.heap.size w w' := by
  have hc := hs.c1
  by_cases g1 : c < 0
  · clear h
    go_enter Tryd.func43, Tryd.ntmps43
    go_wp2_with fail
    go_quiet (fail)
    go_wp2
    go_ret2
    exact ⟨rfl, below_drewN (Below.refl _ _) _⟩
  by_cases g2 : 1000 < c
  · clear h
    go_enter Tryd.func43, Tryd.ntmps43
    go_wp2_with fail
    go_quiet (fail)
    go_wp2
    go_ret2
    exact ⟨rfl, below_drewN (Below.refl _ _) _⟩
  by_cases g3 : o < 1
  · clear h
    go_enter Tryd.func43, Tryd.ntmps43
    go_wp2_with fail
    go_quiet (fail)
    go_wp2
    go_ret2
    exact ⟨rfl, below_drewN (Below.refl _ _) _⟩
  · have g4 : 1000 < o := by omega
    clear h
    go_enter Tryd.func43, Tryd.ntmps43
    go_wp2_with fail
    go_quiet (fail)
    go_wp2
    go_ret2
    exact ⟨rfl, below_drewN (Below.refl _ _) _⟩

theorem dog_reset (b : Nat) (d : DSt) (w : World) (h : DogAt w b d) :
    Calls Tryd.prog 46 #[.pointer (some ⟨b, 0, none⟩)] w fun e w' => e = .returned (.bool d.reset) ∧ w' = w := by
  have c5 := h.c5
  go_enter Tryd.func46, Tryd.ntmps46
  go_wp2
  go_ret
  exact ⟨rfl, rfl⟩
theorem dog_now (b : Nat) (d : DSt) (w : World) (h : DogAt w b d) :
    Calls Tryd.prog 53 #[.pointer (some ⟨b, 0, none⟩)] w fun e w' => e = .returned (.int .i64 (d.now : Int)) ∧ w' = w := by
  have c2 := h.c2
  go_enter Tryd.func53, Tryd.ntmps53
  go_wp2
  go_ret
  exact ⟨rfl, rfl⟩
theorem dog_kicks (b : Nat) (d : DSt) (w : World) (h : DogAt w b d) :
    Calls Tryd.prog 48 #[.pointer (some ⟨b, 0, none⟩)] w fun e w' => e = .returned (.int .i64 (d.kicks : Int)) ∧ w' = w := by
  have c4 := h.c4
  go_enter Tryd.func48, Tryd.ntmps48
  go_wp2
  go_ret
  exact ⟨rfl, rfl⟩

theorem dog_behind (b : Nat) (d : DSt) (w : World) (h : DogAt w b d) :
    Calls Tryd.prog 67 #[.pointer (some ⟨b, 0, none⟩)] w fun e w' => e = .returned (.int .i64 ((d.now - d.begun : Nat) : Int)) ∧ ∃ q, w' = w.drewN q := by
  have c2 := h.c2
  have c3 := h.c3
  have hb := h.hb
  have hn := h.hn
  have wr : IntKind.i64.wrap ((d.now : Int) - (d.begun : Int)) = ((d.now - d.begun : Nat) : Int) := by rw [IntKind.wrap_i64]; omega
  go_enter Tryd.func67, Tryd.ntmps67
  go_wp2_with fail
  go_quiet (fail)
  go_wp2
  go_ret
  exact ⟨rfl, _, rfl⟩
end Go.Proofs.YtebdepbnhemnpaaDoor
