/-
  Several texts as one: DogSt, DogOps, RefDog, Mks, DcHas, EqPair, LcMod, LcRep, KpPure.
-/
import Derived.Test.YtkphpgdgbnmnjacGreatDoorB11C
import Derived.Test.YtkphpgdgbnmnjacGreatDoorB04C
import Derived.Test.YtkphpgdgbnmnjacGreatDoorB00C
import Derived.Test.YtkphpgdgbnmnjacGreatDoorB03C
import Derived.Test.YtkphpgdgbnmnjacGreatDoorB01C
import Derived.Test.YtkphpgdgbnmnjacGreatDoorB08C
import Derived.Test.YtkphpgdgbnmnjacGreatDoorB16C
import Derived.BigQuiet
import Derived.Deep.QuietTactic
import Derived.Deep.DeepCutAuto
import Derived.WalkSmall
import Derived.Deep.RegionHeld3
import Derived.Laws.StructEq
import Derived.Deep.AppendLies
import Derived.Deep.RegionLaw
namespace Go.Proofs.YtkphpgdgbnmnjacGreatDoor
open Go.RowKit Go.Extern.Stop Go.Stop Go.Extern


structure DSt where
  closed : Nat
  opn : Nat
  now : Nat
  begun : Nat
  kicks : Nat
  reset : Bool
def DSt.row (d : DSt) : Array Value := #[.int .i64 (d.closed : Int), .int .i64 (d.opn : Int), .int .i64 (d.now : Int), .int .i64 (d.begun : Int), .int .i64 (d.kicks : Int), .bool d.reset]
structure DogAt (w : World) (b : Nat) (d : DSt) : Prop where
  heap : w.heap[b]? = some (.cells d.row 151 (0, 0))
  hc : d.closed ≤ 1000
  ho : d.opn ≤ 1000
  hk : d.kicks ≤ d.begun
  hb : d.begun ≤ d.now
  hn : d.now ≤ 1099511627776
theorem DogAt.cell {w : World} {b : Nat} {d : DSt} (h : DogAt w b d) (i : Nat) : w.cell? ⟨b, i, none⟩ = d.row[i]? := by simp [World.cell?, h.heap]
theorem DogAt.frozen {w : World} {b : Nat} {d : DSt} (h : DogAt w b d) (i : Nat) : w.frozen? ⟨b, i, none⟩ = false := by simp [World.frozen?, h.heap]
theorem DogAt.c0 {w : World} {b : Nat} {d : DSt} (h : DogAt w b d) : w.cell? ⟨b, 0, none⟩ = some (.int .i64 (d.closed : Int)) := h.cell 0
theorem DogAt.c1 {w : World} {b : Nat} {d : DSt} (h : DogAt w b d) : w.cell? ⟨b, 1, none⟩ = some (.int .i64 (d.opn : Int)) := h.cell 1
theorem DogAt.c2 {w : World} {b : Nat} {d : DSt} (h : DogAt w b d) : w.cell? ⟨b, 2, none⟩ = some (.int .i64 (d.now : Int)) := h.cell 2
theorem DogAt.c3 {w : World} {b : Nat} {d : DSt} (h : DogAt w b d) : w.cell? ⟨b, 3, none⟩ = some (.int .i64 (d.begun : Int)) := h.cell 3
theorem DogAt.c4 {w : World} {b : Nat} {d : DSt} (h : DogAt w b d) : w.cell? ⟨b, 4, none⟩ = some (.int .i64 (d.kicks : Int)) := h.cell 4
theorem DogAt.c5 {w : World} {b : Nat} {d : DSt} (h : DogAt w b d) : w.cell? ⟨b, 5, none⟩ = some (.bool d.reset) := h.cell 5
theorem DogAt.lt {w : World} {b : Nat} {d : DSt} (h : DogAt w b d) : b < w.heap.size := lt_of_row h.heap
theorem DogAt.set {w : World} {b : Nat} {d d' : DSt} (h : DogAt w b d) (i : Nat) (v : Value) (hr : d.row.setIfInBounds i v = d'.row) (hc : d'.closed ≤ 1000) (ho : d'.opn ≤ 1000) (hk : d'.kicks ≤ d'.begun) (hb : d'.begun ≤ d'.now) (hn : d'.now ≤ 1099511627776) : DogAt (w.setCell ⟨b, i, none⟩ v) b d' := by
  refine ⟨?_, hc, ho, hk, hb, hn⟩
  simp only [World.setCell, Array.getElem?_modify, h.heap]
  simp [hr]
theorem DogAt.below {w w' : World} {b : Nat} {d : DSt} (h : DogAt w b d) (hb : Below w.heap.size w w') : DogAt w' b d := ⟨row_below hb h.heap, h.hc, h.ho, h.hk, h.hb, h.hn⟩
theorem DogAt.drewN {w : World} {b : Nat} {d : DSt} (h : DogAt w b d) (q : Nat) : DogAt (w.drewN q) b d := ⟨h.heap, h.hc, h.ho, h.hk, h.hb, h.hn⟩
theorem DogAt.drew {w : World} {b : Nat} {d : DSt} (h : DogAt w b d) : DogAt w.drew b d := ⟨h.heap, h.hc, h.ho, h.hk, h.hb, h.hn⟩
theorem DogAt.other {w w' : World} {b c : Nat} {d : DSt} (h : DogAt w b d) (hg : w.grownBy w' (some c)) (hne : b ≠ c) : DogAt w' b d :=
  ⟨(hg.block b h.lt (by simpa using hne)).trans h.heap, h.hc, h.ho, h.hk, h.hb, h.hn⟩
theorem grown_drewN {a w : World} {r : Option Nat} (h : a.grownBy w r) (q : Nat) : a.grownBy (w.drewN q) r := ⟨h.os, h.tape, h.output, h.size, h.block⟩

def DSt.new (c o : Nat) : DSt := ⟨c, o, 0, 0, 0, false⟩
/-- Is the window open? -/
def DSt.isOpen (d : DSt) : Bool := !d.reset && decide (d.closed < d.now - d.begun)
/-- One tick. -/
def DSt.tick (d : DSt) : DSt := { d with now := d.now + 1, reset := decide (d.closed + d.opn < d.now + 1 - d.begun) }
/-- A kick that is well; a kick that is not. -/
def DSt.kick (d : DSt) : DSt := { d with begun := d.now, kicks := d.kicks + 1 }
def DSt.bad (d : DSt) : DSt := { d with reset := true }
def DSt.start (d : DSt) : DSt := { d with begun := d.now, reset := false }

set_option maxHeartbeats 400000 in
theorem dog_new (c o : Nat) (w : World) (h1 : c ≤ 1000) (h2 : 1 ≤ o) (h3 : o ≤ 1000) :
    Calls Tryz.prog 63 #[.int .i64 (c : Int), .int .i64 (o : Int)] w fun e w' => e = .returned (.tuple #[.pointer (some ⟨w.heap.size, 0, none⟩), .nilIface]) ∧ Below w.heap.size w w' ∧ DogAt w' w.heap.size (DSt.new c o) := by
  have g1 : ¬ (c : Int) < 0 := by omega
  have g2 : ¬ 1000 < (c : Int) := by omega
  have g3 : ¬ (o : Int) < 1 := by omega
  have g4 : ¬ 1000 < (o : Int) := by omega
  go_enter Tryz.func63, Tryz.ntmps63
  go_wp2
  go_ret2
  refine ⟨rfl, ?_, ⟨?_, h1, h3, Nat.le_refl _, Nat.le_refl _, Nat.zero_le _⟩⟩
  · exact (Below.refl _ _).alloc (Nat.le_refl _) _
  · show (w.heap.push _)[w.heap.size]? = _
    simp
    rfl

theorem dog_reset (b : Nat) (d : DSt) (w : World) (h : DogAt w b d) :
    Calls Tryz.prog 49 #[.pointer (some ⟨b, 0, none⟩)] w fun e w' => e = .returned (.bool d.reset) ∧ w' = w := by
  have c5 := h.c5
  go_enter Tryz.func49, Tryz.ntmps49
  go_wp2
  go_ret
  exact ⟨rfl, rfl⟩
theorem dog_now (b : Nat) (d : DSt) (w : World) (h : DogAt w b d) :
    Calls Tryz.prog 51 #[.pointer (some ⟨b, 0, none⟩)] w fun e w' => e = .returned (.int .i64 (d.now : Int)) ∧ w' = w := by
  have c2 := h.c2
  go_enter Tryz.func51, Tryz.ntmps51
  go_wp2
  go_ret
  exact ⟨rfl, rfl⟩
theorem dog_kicks (b : Nat) (d : DSt) (w : World) (h : DogAt w b d) :
    Calls Tryz.prog 52 #[.pointer (some ⟨b, 0, none⟩)] w fun e w' => e = .returned (.int .i64 (d.kicks : Int)) ∧ w' = w := by
  have c4 := h.c4
  go_enter Tryz.func52, Tryz.ntmps52
  go_wp2
  go_ret
  exact ⟨rfl, rfl⟩

theorem dog_behind (b : Nat) (d : DSt) (w : World) (h : DogAt w b d) :
    Calls Tryz.prog 116 #[.pointer (some ⟨b, 0, none⟩)] w fun e w' => e = .returned (.int .i64 ((d.now - d.begun : Nat) : Int)) ∧ ∃ q, w' = w.drewN q := by
  have c2 := h.c2
  have c3 := h.c3
  have hb := h.hb
  have hn := h.hn
  have wr : IntKind.i64.wrap ((d.now : Int) - (d.begun : Int)) = ((d.now - d.begun : Nat) : Int) := by rw [IntKind.wrap_i64]; omega
  go_enter Tryz.func116, Tryz.ntmps116
  go_wp2_with fail
  go_quiet (fail)
  go_wp2
  go_ret
  exact ⟨rfl, _, rfl⟩
end Go.Proofs.YtkphpgdgbnmnjacGreatDoor

namespace Go.Proofs.YtkphpgdgbnmnjacGreatDoor
open Go.RowKit Go.Extern.Stop Go.Stop Go.Extern

theorem dog_open (b : Nat) (d : DSt) (w : World) (h : DogAt w b d) :
    Calls Tryz.prog 120 #[.pointer (some ⟨b, 0, none⟩)] w fun e w' => e = .returned (.bool d.isOpen) ∧ ∃ q, w' = w.drewN q := by
  have c0 := h.c0
  have c5 := h.c5
  cases hr : d.reset
  · rw [hr] at c5
    have E : Hid (d.isOpen = decide (d.closed < d.now - d.begun)) := by
      show _ = _
      unfold DSt.isOpen
      rw [hr]
      simp only [Bool.not_false, Bool.true_and]
    go_enter Tryz.func120, Tryz.ntmps120
    go_wp2_with fail
    go_quiet (first | (go_at_call 116; exact Calls.quiet_of (dog_behind _ _ _ (h.drewN _))))
    go_wp2
    go_ret
    rw [E.out]
    exact ⟨rfl, _, rfl⟩
  · rw [hr] at c5
    have E : Hid (d.isOpen = false) := by
      show _ = _
      unfold DSt.isOpen
      rw [hr]
      rfl
    go_enter Tryz.func120, Tryz.ntmps120
    go_wp2_with fail
    go_quiet (fail)
    go_wp2
    go_ret
    rw [E.out]
    exact ⟨rfl, _, rfl⟩

/-- What a run that only writes comes to. -/
theorem goodRun.skipped {P : Program} {S : Nat → Value → World → Prop} {C : World → Prop} {i : Nat} {w w' : World} {r : Result Next} (hr : r = .ok .skip w') (hC : C w') (hK : ∀ j v, S j v w → S j v w') (hS : S i undef w') : goodRun P S C i w r := by
  subst hr; exact ⟨hC, hK, hS⟩

def DSt.tickR (d : DSt) (r : Bool) : DSt := ⟨d.closed, d.opn, d.now + 1, d.begun, d.kicks, r⟩
/-- What each operation of the statement that sets 'reset' yields. -/
def tickS (b : Nat) (d : DSt) : Nat → Value → World → Prop
  | 0 => fun v _ => v = .pointer (some ⟨b, 0, none⟩)
  | 1 => fun v _ => v = .pointer (some ⟨b, 0, none⟩)
  | 2 => fun v _ => v = .int .i64 ((d.now + 1 - d.begun : Nat) : Int)
  | 3 => fun v _ => v = .pointer (some ⟨b, 0, none⟩)
  | 4 => fun v _ => v = .pointer (some ⟨b, 0, none⟩)
  | 5 => fun v _ => v = .pointer (some ⟨b, 0, none⟩)
  | 6 => fun v _ => v = .int .i64 (d.closed : Int)
  | 7 => fun v _ => v = .pointer (some ⟨b, 0, none⟩)
  | 8 => fun v _ => v = .pointer (some ⟨b, 0, none⟩)
  | 9 => fun v _ => v = .pointer (some ⟨b, 1, none⟩)
  | 10 => fun v _ => v = .int .i64 (d.opn : Int)
  | 11 => fun v _ => v = .int .i64 ((d.closed + d.opn : Nat) : Int)
  | 12 => fun v _ => v = .bool (decide (d.closed + d.opn < d.now + 1 - d.begun))
  | 13 => fun v _ => v = .pointer (some ⟨b, 0, none⟩)
  | 14 => fun v _ => v = .pointer (some ⟨b, 5, none⟩)
  | 15 => fun _ w => DogAt w b d.tick
  | _ => fun _ _ => True
theorem tickS_keeps {b : Nat} {d : DSt} {w w' : World} (hb : DogAt w b d.tick → DogAt w' b d.tick) : ∀ j v, tickS b d j v w → tickS b d j v w' := by
  intro j v h
  match j, h with
  | 0, h => exact h
  | 1, h => exact h
  | 2, h => exact h
  | 3, h => exact h
  | 4, h => exact h
  | 5, h => exact h
  | 6, h => exact h
  | 7, h => exact h
  | 8, h => exact h
  | 9, h => exact h
  | 10, h => exact h
  | 11, h => exact h
  | 12, h => exact h
  | 13, h => exact h
  | 14, h => exact h
  | 15, h => exact hb h
  | n + 16, h => exact h

set_option maxHeartbeats 1000000 in
set_option maxRecDepth 20000 in
theorem dog_tick (b : Nat) (d : DSt) (w : World) (h : DogAt w b d) (hr : d.reset = false) (hlt : d.now < 1099511627776) :
    Calls Tryz.prog 84 #[.pointer (some ⟨b, 0, none⟩)] w fun e w' => e = .returned .nilIface ∧ DogAt w' b d.tick ∧ w.grownBy w' (some b) := by
  have c5 := h.c5
  have c2 := h.c2
  have f2 := h.frozen 2
  have hc := h.hc
  have ho := h.ho
  rw [hr] at c5
  have g1 : ¬ 1099511627776 ≤ (d.now : Int) := by omega
  have wr : IntKind.i64.wrap ((d.closed : Int) + (d.opn : Int)) = ((d.closed + d.opn : Nat) : Int) := by rw [IntKind.wrap_i64]; omega
  have e1 : ((d.now + 1 : Nat) : Int) = (d.now : Int) + 1 := by omega
  have hT : DogAt (w.setCell ⟨b, 2, none⟩ (.int .i64 ((d.now : Int) + 1))) b (d.tickR d.reset) := by
    rw [← e1]
    exact h.set 2 _ rfl h.hc h.ho h.hk (Nat.le_succ_of_le h.hb) hlt
  have HT : Hid _ := hT
  clear hT h hlt e1
  go_enter Tryz.func84, Tryz.ntmps84
  go_upto_region 6 with fail
  refine region_spec 16 rfl (tickS b d) (fun w' => w.grownBy w' (some b) ∧ ∃ r, DogAt w' b (d.tickR r)) (by kernel_rfl) (by kernel_rfl) ⟨grown_drewN (grown_set (grown_refl _ _) _ _) 1, _, HT.out.drew⟩ ?_ ?_
  · intro i o ho
    match i, ho with
    | 0, ho =>
      obtain rfl := Option.some.inj ho
      refine StepOk.free rfl ?_
      intro a w hC hdep hoth
      have x0 : a.tmps[0]?.getD undef = .pointer (some ⟨b, 0, none⟩) := slot_of (hoth 0 (notDst (by kernel_rfl)))
      exact goodRun.val (c := .pointer (some ⟨b, 0, none⟩)) (by clear hdep hoth; go_simp) hC rfl
    | 1, ho =>
      obtain rfl := Option.some.inj ho
      refine StepOk.free rfl ?_
      intro a w hC hdep hoth
      have x0 : a.tmps[0]?.getD undef = .pointer (some ⟨b, 0, none⟩) := slot_of (hoth 0 (notDst (by kernel_rfl)))
      exact goodRun.val (c := .pointer (some ⟨b, 0, none⟩)) (by clear hdep hoth; go_simp) hC rfl
    | 2, ho =>
      obtain rfl := Option.some.inj ho
      refine StepOk.free rfl ?_
      intro a w hC hdep hoth
      have x22 : a.tmps[22]?.getD undef = .pointer (some ⟨b, 0, none⟩) := slot_of (hdep _ 22 (Array.mem_of_getElem? (i := 0) rfl) rfl rfl)
      obtain ⟨r, hr⟩ := hC.2
      refine goodRun.call (f := 116) (args := #[.pointer (some ⟨b, 0, none⟩)]) (by clear hdep hoth; go_simp) ?_
      refine (dog_behind _ _ _ hr).mono ?_
      rintro e w' ⟨rfl, q, rfl⟩
      exact ⟨_, rfl, ⟨grown_drewN hC.1 _, r, hr.drewN _⟩, tickS_keeps (fun h => h.drewN _), rfl⟩
    | 3, ho =>
      obtain rfl := Option.some.inj ho
      refine StepOk.free rfl ?_
      intro a w hC hdep hoth
      have x0 : a.tmps[0]?.getD undef = .pointer (some ⟨b, 0, none⟩) := slot_of (hoth 0 (notDst (by kernel_rfl)))
      exact goodRun.val (c := .pointer (some ⟨b, 0, none⟩)) (by clear hdep hoth; go_simp) hC rfl
    | 4, ho =>
      obtain rfl := Option.some.inj ho
      refine StepOk.free rfl ?_
      intro a w hC hdep hoth
      have x24 : a.tmps[24]?.getD undef = .pointer (some ⟨b, 0, none⟩) := slot_of (hdep _ 24 (Array.mem_of_getElem? (i := 0) rfl) rfl rfl)
      exact goodRun.val (c := .pointer (some ⟨b, 0, none⟩)) (by clear hdep hoth; go_simp) hC rfl
    | 5, ho =>
      obtain rfl := Option.some.inj ho
      refine StepOk.free rfl ?_
      intro a w hC hdep hoth
      have x25 : a.tmps[25]?.getD undef = .pointer (some ⟨b, 0, none⟩) := slot_of (hdep _ 25 (Array.mem_of_getElem? (i := 0) rfl) rfl rfl)
      exact goodRun.val (c := .pointer (some ⟨b, 0, none⟩)) (by clear hdep hoth; go_simp) hC rfl
    | 6, ho =>
      obtain rfl := Option.some.inj ho
      refine StepOk.free rfl ?_
      intro a w hC hdep hoth
      have x26 : a.tmps[26]?.getD undef = .pointer (some ⟨b, 0, none⟩) := slot_of (hdep _ 26 (Array.mem_of_getElem? (i := 0) rfl) rfl rfl)
      obtain ⟨r, hr⟩ := hC.2
      have c : w.cell? ⟨b, 0, none⟩ = some (.int .i64 (d.closed : Int)) := hr.c0
      exact goodRun.val (c := .int .i64 (d.closed : Int)) (by clear hdep hoth; go_simp) hC rfl
    | 7, ho =>
      obtain rfl := Option.some.inj ho
      refine StepOk.free rfl ?_
      intro a w hC hdep hoth
      have x0 : a.tmps[0]?.getD undef = .pointer (some ⟨b, 0, none⟩) := slot_of (hoth 0 (notDst (by kernel_rfl)))
      exact goodRun.val (c := .pointer (some ⟨b, 0, none⟩)) (by clear hdep hoth; go_simp) hC rfl
    | 8, ho =>
      obtain rfl := Option.some.inj ho
      refine StepOk.free rfl ?_
      intro a w hC hdep hoth
      have x28 : a.tmps[28]?.getD undef = .pointer (some ⟨b, 0, none⟩) := slot_of (hdep _ 28 (Array.mem_of_getElem? (i := 0) rfl) rfl rfl)
      exact goodRun.val (c := .pointer (some ⟨b, 0, none⟩)) (by clear hdep hoth; go_simp) hC rfl
    | 9, ho =>
      obtain rfl := Option.some.inj ho
      refine StepOk.free rfl ?_
      intro a w hC hdep hoth
      have x29 : a.tmps[29]?.getD undef = .pointer (some ⟨b, 0, none⟩) := slot_of (hdep _ 29 (Array.mem_of_getElem? (i := 0) rfl) rfl rfl)
      exact goodRun.val (c := .pointer (some ⟨b, 1, none⟩)) (by clear hdep hoth; go_simp) hC rfl
    | 10, ho =>
      obtain rfl := Option.some.inj ho
      refine StepOk.free rfl ?_
      intro a w hC hdep hoth
      have x30 : a.tmps[30]?.getD undef = .pointer (some ⟨b, 1, none⟩) := slot_of (hdep _ 30 (Array.mem_of_getElem? (i := 0) rfl) rfl rfl)
      obtain ⟨r, hr⟩ := hC.2
      have c : w.cell? ⟨b, 1, none⟩ = some (.int .i64 (d.opn : Int)) := hr.c1
      exact goodRun.val (c := .int .i64 (d.opn : Int)) (by clear hdep hoth; go_simp) hC rfl
    | 11, ho =>
      obtain rfl := Option.some.inj ho
      refine StepOk.free rfl ?_
      intro a w hC hdep hoth
      have x27 : a.tmps[27]?.getD undef = .int .i64 (d.closed : Int) := slot_of (hdep _ 27 (Array.mem_of_getElem? (i := 0) rfl) rfl rfl)
      have x31 : a.tmps[31]?.getD undef = .int .i64 (d.opn : Int) := slot_of (hdep _ 31 (Array.mem_of_getElem? (i := 1) rfl) rfl rfl)
      exact goodRun.val (c := .int .i64 ((d.closed + d.opn : Nat) : Int)) (by clear hdep hoth; go_simp) hC rfl
    | 12, ho =>
      obtain rfl := Option.some.inj ho
      refine StepOk.free rfl ?_
      intro a w hC hdep hoth
      have x23 : a.tmps[23]?.getD undef = .int .i64 ((d.now + 1 - d.begun : Nat) : Int) := slot_of (hdep _ 23 (Array.mem_of_getElem? (i := 0) rfl) rfl rfl)
      have x32 : a.tmps[32]?.getD undef = .int .i64 ((d.closed + d.opn : Nat) : Int) := slot_of (hdep _ 32 (Array.mem_of_getElem? (i := 1) rfl) rfl rfl)
      exact goodRun.val (c := .bool (decide (d.closed + d.opn < d.now + 1 - d.begun))) (by clear hdep hoth; go_simp; omega) hC rfl
    | 13, ho =>
      obtain rfl := Option.some.inj ho
      refine StepOk.free rfl ?_
      intro a w hC hdep hoth
      have x21 : a.tmps[21]?.getD undef = .pointer (some ⟨b, 0, none⟩) := slot_of (hdep _ 21 (Array.mem_of_getElem? (i := 0) rfl) rfl rfl)
      exact goodRun.val (c := .pointer (some ⟨b, 0, none⟩)) (by clear hdep hoth; go_simp) hC rfl
    | 14, ho =>
      obtain rfl := Option.some.inj ho
      refine StepOk.free rfl ?_
      intro a w hC hdep hoth
      have x34 : a.tmps[34]?.getD undef = .pointer (some ⟨b, 0, none⟩) := slot_of (hdep _ 34 (Array.mem_of_getElem? (i := 0) rfl) rfl rfl)
      exact goodRun.val (c := .pointer (some ⟨b, 5, none⟩)) (by clear hdep hoth; go_simp) hC rfl
    | 15, ho =>
      obtain rfl := Option.some.inj ho
      refine StepOk.free rfl ?_
      intro a w hC hdep hoth
      have x35 : a.tmps[35]?.getD undef = .pointer (some ⟨b, 5, none⟩) := slot_of (hdep _ 35 (Array.mem_of_getElem? (i := 0) rfl) rfl rfl)
      have x33 : a.tmps[33]?.getD undef = .bool (decide (d.closed + d.opn < d.now + 1 - d.begun)) := slot_of (hdep _ 33 (Array.mem_of_getElem? (i := 1) rfl) rfl rfl)
      obtain ⟨r, hr⟩ := hC.2
      have c5 : w.cell? ⟨b, 5, none⟩ = some (.bool r) := hr.c5
      have f5 := hr.frozen 5
      have hT : DogAt (w.setCell ⟨b, 5, none⟩ (.bool (decide (d.closed + d.opn < d.now + 1 - d.begun)))) b d.tick := hr.set 5 _ rfl hr.hc hr.ho hr.hk hr.hb hr.hn
      exact goodRun.skipped (w' := w.setCell ⟨b, 5, none⟩ (.bool (decide (d.closed + d.opn < d.now + 1 - d.begun)))) (by clear hdep hoth hT; go_simp) ⟨grown_set hC.1 _ _, _, hT⟩ (tickS_keeps (fun _ => hT)) hT
    | n + 16, ho => simp at ho
  · intro vals w5 hC hS
    have hT : DogAt w5 b d.tick := hS 15 (by decide)
    have hg := hC.1
    clear hS hC HT
    simp only [fill, dstOf]
    go_simp
    go_wp2
    go_ret
    exact ⟨rfl, hT, hg⟩

theorem dog_kick (b : Nat) (d : DSt) (w : World) (h : DogAt w b d) (ho : d.isOpen = true) :
    Calls Tryz.prog 121 #[.pointer (some ⟨b, 0, none⟩)] w fun e w' => e = .returned .nilIface ∧ DogAt w' b d.kick ∧ w.grownBy w' (some b) := by
  have hk := h.hk
  have hb := h.hb
  have hn := h.hn
  have hlt : d.kicks < d.now := by
    unfold DSt.isOpen at ho
    simp only [Bool.and_eq_true, decide_eq_true_eq] at ho
    omega
  have HO : Hid (d.isOpen = true) := ho
  have h1 : ∀ q, DogAt ((w.drewN q).setCell ⟨b, 3, none⟩ (.int .i64 (d.now : Int))) b { d with begun := d.now } := fun q => (h.drewN q).set 3 _ rfl h.hc h.ho (Nat.le_trans h.hk h.hb) (Nat.le_refl _) h.hn
  have h2 : ∀ q, DogAt (((w.drewN q).setCell ⟨b, 3, none⟩ (.int .i64 (d.now : Int))).setCell ⟨b, 4, none⟩ (.int .i64 ((d.kicks : Int) + 1))) b d.kick := fun q => by
    have e : ((d.kicks + 1 : Nat) : Int) = (d.kicks : Int) + 1 := by omega
    rw [← e]
    exact (h1 q).set 4 _ rfl h.hc h.ho (show d.kicks + 1 ≤ d.now by omega) (Nat.le_refl _) h.hn
  have c2 := h.c2
  have c3 := h.c3
  have c4 := h.c4
  have f3 := h.frozen 3
  have f4 := h.frozen 4
  have H1 : Hid _ := h1
  have H2 : Hid _ := h2
  clear h1 h2 ho
  go_enter Tryz.func121, Tryz.ntmps121
  go_wp2_with fail
  refine (dog_open _ _ _ h).mono ?_
  rintro e w1 ⟨rfl, q, rfl⟩
  rw [HO.out]
  clear h
  go_wp2
  go_ret
  exact ⟨rfl, H2.out q, grown_set (grown_set (grown_drewN (grown_refl _ _) _) _ _) _ _⟩

theorem dog_start (b : Nat) (d : DSt) (w : World) (h : DogAt w b d) :
    Calls Tryz.prog 59 #[.pointer (some ⟨b, 0, none⟩)] w fun e w' => e = .returned (.tuple #[]) ∧ DogAt w' b d.start ∧ w.grownBy w' (some b) := by
  have c2 := h.c2
  have c3 := h.c3
  have c5 := h.c5
  have f3 := h.frozen 3
  have f5 := h.frozen 5
  have hk := Nat.le_trans h.hk h.hb
  have R1 : DogAt ((w.setCell ⟨b, 3, none⟩ (.int .i64 (d.now : Int))).setCell ⟨b, 5, none⟩ (.bool false)) b d.start := (h.set (d' := { d with begun := d.now }) 3 _ rfl h.hc h.ho hk (Nat.le_refl _) h.hn).set 5 _ rfl h.hc h.ho hk (Nat.le_refl _) h.hn
  have H1 : Hid _ := R1
  clear R1 h hk
  go_enter Tryz.func59, Tryz.ntmps59
  go_wp2
  go_end0
  exact ⟨rfl, H1.out, grown_set (grown_set (grown_refl _ _) _ _) _ _⟩
end Go.Proofs.YtkphpgdgbnmnjacGreatDoor

namespace Go.Proofs.YtkphpgdgbnmnjacGreatDoor
open Go.RowKit Go.Extern.Stop Go.Stop Go.Extern

structure MDogAt (w : World) (b : Nat) (d : DSt) : Prop where
  heap : w.heap[b]? = some (.cells d.row 119 (0, 0))
  hc : d.closed ≤ 1000
  ho : d.opn ≤ 1000
  hk : d.kicks ≤ d.begun
  hb : d.begun ≤ d.now
  hn : d.now ≤ 1099511627776
theorem MDogAt.cell {w : World} {b : Nat} {d : DSt} (h : MDogAt w b d) (i : Nat) : w.cell? ⟨b, i, none⟩ = d.row[i]? := by simp [World.cell?, h.heap]
theorem MDogAt.frozen {w : World} {b : Nat} {d : DSt} (h : MDogAt w b d) (i : Nat) : w.frozen? ⟨b, i, none⟩ = false := by simp [World.frozen?, h.heap]
theorem MDogAt.c0 {w : World} {b : Nat} {d : DSt} (h : MDogAt w b d) : w.cell? ⟨b, 0, none⟩ = some (.int .i64 (d.closed : Int)) := h.cell 0
theorem MDogAt.c1 {w : World} {b : Nat} {d : DSt} (h : MDogAt w b d) : w.cell? ⟨b, 1, none⟩ = some (.int .i64 (d.opn : Int)) := h.cell 1
theorem MDogAt.c2 {w : World} {b : Nat} {d : DSt} (h : MDogAt w b d) : w.cell? ⟨b, 2, none⟩ = some (.int .i64 (d.now : Int)) := h.cell 2
theorem MDogAt.c3 {w : World} {b : Nat} {d : DSt} (h : MDogAt w b d) : w.cell? ⟨b, 3, none⟩ = some (.int .i64 (d.begun : Int)) := h.cell 3
theorem MDogAt.c4 {w : World} {b : Nat} {d : DSt} (h : MDogAt w b d) : w.cell? ⟨b, 4, none⟩ = some (.int .i64 (d.kicks : Int)) := h.cell 4
theorem MDogAt.c5 {w : World} {b : Nat} {d : DSt} (h : MDogAt w b d) : w.cell? ⟨b, 5, none⟩ = some (.bool d.reset) := h.cell 5
theorem MDogAt.lt {w : World} {b : Nat} {d : DSt} (h : MDogAt w b d) : b < w.heap.size := lt_of_row h.heap
theorem MDogAt.set {w : World} {b : Nat} {d d' : DSt} (h : MDogAt w b d) (i : Nat) (v : Value) (hr : d.row.setIfInBounds i v = d'.row) (hc : d'.closed ≤ 1000) (ho : d'.opn ≤ 1000) (hk : d'.kicks ≤ d'.begun) (hb : d'.begun ≤ d'.now) (hn : d'.now ≤ 1099511627776) : MDogAt (w.setCell ⟨b, i, none⟩ v) b d' := by
  refine ⟨?_, hc, ho, hk, hb, hn⟩
  simp only [World.setCell, Array.getElem?_modify, h.heap]
  simp [hr]
theorem MDogAt.below {w w' : World} {b : Nat} {d : DSt} (h : MDogAt w b d) (hb : Below w.heap.size w w') : MDogAt w' b d := ⟨row_below hb h.heap, h.hc, h.ho, h.hk, h.hb, h.hn⟩
theorem MDogAt.drewN {w : World} {b : Nat} {d : DSt} (h : MDogAt w b d) (q : Nat) : MDogAt (w.drewN q) b d := ⟨h.heap, h.hc, h.ho, h.hk, h.hb, h.hn⟩
theorem MDogAt.drew {w : World} {b : Nat} {d : DSt} (h : MDogAt w b d) : MDogAt w.drew b d := ⟨h.heap, h.hc, h.ho, h.hk, h.hb, h.hn⟩
theorem MDogAt.other {w w' : World} {b c : Nat} {d : DSt} (h : MDogAt w b d) (hg : w.grownBy w' (some c)) (hne : b ≠ c) : MDogAt w' b d :=
  ⟨(hg.block b h.lt (by simpa using hne)).trans h.heap, h.hc, h.ho, h.hk, h.hb, h.hn⟩

end Go.Proofs.YtkphpgdgbnmnjacGreatDoor

namespace Go.Proofs.YtkphpgdgbnmnjacGreatDoor
open Go.RowKit Go.Extern.Stop Go.Stop Go.Extern

def encM (m : MkD) : List Value := [.int .i64 m.pt, .int .i64 m.tick, .int .i64 m.cyc]
theorem encM_len (m : MkD) : (encM m).length = 3 := rfl
/-- The marks, in a row of their own. -/
def MkOwn (B : Nat) (w : World) (v : Value) (ms : List MkD) : Prop := w.ownsRow B 226 3 v ms.length (ms.flatMap encM)
theorem MkOwn.below {B : Nat} {w w' : World} {v : Value} {ms : List MkD} (h : MkOwn B w v ms) (hb : Below w.heap.size w w') : MkOwn B w' v ms := SlOwnR.below h hb
theorem MkOwn.slat {B : Nat} {w : World} {v : Value} {ms : List MkD} (h : MkOwn B w v ms) : SlAt encM 3 w v ms := SlOwn.slat (enc := encM) h encM_len
end Go.Proofs.YtkphpgdgbnmnjacGreatDoor

namespace Go.Proofs.YtkphpgdgbnmnjacGreatDoor
open Go.RowKit Go.Extern.Stop Go.Stop Go.Extern

theorem slatI_cell {w : World} {sa : Option Addr} {cap : Nat} {l : List Int} (h : SlAt encI 1 w (.slice sa l.length cap) l) {k : Nat} {x : Int} (hx : l[k]? = some x) : ∃ g o, sa = some ⟨g, o, none⟩ ∧ ∀ i x, l[i]? = some x → w.cell? ⟨g, o + i, none⟩ = some (.int .i64 x) := by
  obtain ⟨sa', cap', hsl, -, hcc⟩ := h
  cases hsl
  obtain ⟨g, o, rfl, hc0⟩ := hcc (fun h => by rw [h] at hx; simp at hx)
  exact ⟨g, o, rfl, fun i x hx => by have := hc0 i x hx 0 _ rfl; simpa using this⟩
set_option maxRecDepth 100000 in
theorem has_at (l : List Int) (n : Int) (sa : Option Addr) (cap : Nat) (w : World) (h : SlAt encI 1 w (.slice sa l.length cap) l) (hn : l.length ≤ 1000000) :
    Calls Tryz.prog 109 #[.slice sa l.length cap, .int .i64 n] w fun e w' => e = .returned (.bool (l.any fun y => decide (n = y))) ∧ w' = w := by
  have HL : Hid (SlAt encI 1 w (.slice sa l.length cap) l) := h
  clear h
  go_enter Tryz.func109, Tryz.ntmps109
  go_wp2_with fail
  go_loopw [5] (fun i wr => wr = w ∧ ∃ k : Nat, k ≤ l.length ∧ i = .int .i64 k ∧ ∀ j x, j < k → l[j]? = some x → n ≠ x) (fun i _ => l.length - (intOf i).toNat)
  case atStart => exact ⟨rfl, 0, Nat.zero_le _, rfl, fun j x hj => absurd hj (by omega)⟩
  case round =>
    obtain ⟨rfl, k, hk, rfl, hno⟩ := hrel
    have HN : Hid (∀ j x, j < k → l[j]? = some x → n ≠ x) := hno
    clear hno
    by_cases hlt : k < l.length
    · have k1 : (k : Int) < (l.length : Int) := by omega
      obtain ⟨x, hx⟩ : ∃ x, l[k]? = some x := ⟨_, List.getElem?_eq_getElem hlt⟩
      have HX : Hid (l[k]? = some x) := hx
      obtain ⟨g, o, rfl, hc⟩ := slatI_cell HL.out hx
      have c0 := hc k x hx
      clear hc hx
      by_cases e : x = n
      · subst e
        have HE : Hid ((l.any fun y => decide (x = y)) = true) := by show _ = _; rw [List.any_eq_true]; exact ⟨x, List.mem_of_getElem? HX.out, by simp⟩
        go_wp2
        go_ret
        exact ⟨by rw [HE.out]; rfl, rfl⟩
      · go_wp2_with fail
        go_roundw
        case rel =>
          refine ⟨trivial, k + 1, by omega, by go_num, fun j y hj hy => ?_⟩
          rcases Nat.lt_or_ge j k with h1 | h1
          · exact HN.out j y h1 hy
          · obtain rfl : j = k := by omega
            rw [HX.out] at hy
            cases hy
            exact fun e2 => e e2.symm
        case measure => simp [intOf]; omega
    · have k1 : ¬ (k : Int) < (l.length : Int) := by omega
      have HE : Hid ((l.any fun y => decide (n = y)) = false) := by
        show _ = _
        rw [List.any_eq_false]
        intro y hy
        obtain ⟨j, hj⟩ := List.getElem?_of_mem hy
        have hjl : j < l.length := by
          rcases Nat.lt_or_ge j l.length with h' | h'
          · exact h'
          · rw [List.getElem?_eq_none h'] at hj; cases hj
        simpa using HN.out j y (by omega) hj
      go_wp2
      go_ret
      exact ⟨by rw [HE.out]; rfl, rfl⟩
end Go.Proofs.YtkphpgdgbnmnjacGreatDoor

namespace Go.Proofs.YtkphpgdgbnmnjacGreatDoor
open Go.RowKit Go.Extern.Stop Go.Stop Go.Extern

theorem eqlIn_pair (a b c d : Int) (w : World) : (Op.equalIn 10000 139 (.agg #[.int .i64 a, .int .i64 b]) (.agg #[.int .i64 c, .int .i64 d])).run Tryz.prog w = .ok ((a == c) && (b == d)) w := by
  rw [show (10000 : Nat) = 9998 + 2 from rfl, Op.equalIn]
  simp only [Sem.run_bind, run_underlying Tryz.underlying139, Result.andThen_ok, Tryz.sizeOf3, Std.Legacy.Range.forIn_eq_forIn_range', Std.Legacy.Range.size, Nat.sub_zero, Nat.add_sub_cancel, Nat.div_one]
  have p0 : ∀ x y : Int, (part 3 #[.int .i64 x, .int .i64 y] (0 * 1)).run Tryz.prog w = .ok (.int .i64 x) w := fun x y => by simp [part, isAgg, run_underlying Tryz.underlying3]
  have p1 : ∀ x y : Int, (part 3 #[.int .i64 x, .int .i64 y] (1 * 1)).run Tryz.prog w = .ok (.int .i64 y) w := fun x y => by simp [part, isAgg, run_underlying Tryz.underlying3]
  have pe : ∀ x y : Int, (Op.equalIn (9998 + 1) 3 (.int .i64 x) (.int .i64 y)).run Tryz.prog w = .ok (x == y) w := fun x y => run_equalIn_int w 9998 3 .i64 .i64 _ _ Tryz.underlying3
  have hr : List.range' 0 2 1 = [0, 1] := by decide
  rw [hr]
  simp only [List.forIn_cons, List.forIn_nil, Sem.run_bind, p0, pe, Result.andThen_ok]
  cases h1 : (a == c)
  · simp
  · simp only [Bool.not_true, Bool.false_eq_true, if_false, Sem.run_pure, Result.andThen_ok, Bool.true_and, Sem.run_bind, p1, pe]
    cases h2 : (b == d) <;> simp
theorem eql_pair (a b c d : Int) (w : World) : (binOp .eql 139 (.agg #[.int .i64 a, .int .i64 b]) (.agg #[.int .i64 c, .int .i64 d])).run Tryz.prog w = .ok (.bool ((a == c) && (b == d))) w := by
  rw [run_eql_struct, eqlIn_pair]; rfl
theorem Tryz.guardPair : Tryz.prog.eqGuardType Tryz.prog.depth 139 = false := by kernel_rfl
end Go.Proofs.YtkphpgdgbnmnjacGreatDoor

namespace Go.Proofs.YtkphpgdgbnmnjacGreatDoor
open Go.RowKit Go.Extern.Stop Go.Stop Go.Extern

theorem row_put {w : World} {b j : Nat} {cs : Array Value} {T : TypeId} (h : w.heap[b]? = some (.cells cs T (0, 0))) (u : Value) : (w.setCell ⟨b, j, none⟩ u).heap[b]? = some (.cells (cs.setIfInBounds j u) T (0, 0)) := by
  simp only [World.setCell, Array.getElem?_modify, h]
  simp
section
variable {w0 w w' : World} {b : Nat} {e : EntD} {pa ga ea fa la : Option Addr} {pc gc ec fc lc : Nat} {s s' : LSt} {sv sv' : Value}
def lmRow (e : EntD) (pa ga ea fa la : Option Addr) (pc gc ec fc lc : Nat) (s : LSt) (sv : Value) : Array Value := #[.string e.name, .int .i64 e.tol, .slice pa e.pts.length pc, .int .i64 e.cnt, .int .i64 e.mn, .int .i64 e.mx, .slice ga e.gaps.length gc, .slice ea e.edges.length ec, .slice fa e.first.length fc, .slice la e.last.length lc, .bool s.act, .int .i64 s.since, sv, .int .i64 s.run, .bool s.ex]
structure LmIn (w0 w : World) (b : Nat) (e : EntD) (pa ga ea fa la : Option Addr) (pc gc ec fc lc : Nat) (s : LSt) (sv : Value) : Prop where
  heap : w.heap[b]? = some (.cells (lmRow e pa ga ea fa la pc gc ec fc lc s sv) 178 (0, 0))
  own : MkOwn w0.heap.size w sv s.ms
  bel : Below w0.heap.size w0 w
  lo : w0.heap.size ≤ b
theorem LmIn.cell (h : LmIn w0 w b e pa ga ea fa la pc gc ec fc lc s sv) (j : Nat) (u : Value) (hu : (lmRow e pa ga ea fa la pc gc ec fc lc s sv)[j]? = some u) : w.cell? ⟨b, j, none⟩ = some u := by
  simp [World.cell?, h.heap, hu]
theorem LmIn.frozen (h : LmIn w0 w b e pa ga ea fa la pc gc ec fc lc s sv) (j : Nat) : w.frozen? ⟨b, j, none⟩ = false := by simp [World.frozen?, h.heap]
theorem LmIn.below (h : LmIn w0 w b e pa ga ea fa la pc gc ec fc lc s sv) (hb : Below w.heap.size w w') : LmIn w0 w' b e pa ga ea fa la pc gc ec fc lc s sv := ⟨row_below hb h.heap, h.own.below hb, h.bel.trans (hb.mono h.bel.size), h.lo⟩
theorem LmIn.put (h : LmIn w0 w b e pa ga ea fa la pc gc ec fc lc s sv) (j : Nat) (u : Value) (hr : (lmRow e pa ga ea fa la pc gc ec fc lc s sv).setIfInBounds j u = lmRow e pa ga ea fa la pc gc ec fc lc s' sv') (ho : MkOwn w0.heap.size w sv' s'.ms) : LmIn w0 (w.setCell ⟨b, j, none⟩ u) b e pa ga ea fa la pc gc ec fc lc s' sv' :=
  ⟨by rw [← hr]; exact row_put h.heap u, World.ownsRow.kept ho (grown_setCell w b j u) (Or.inr (ow_ne ho h.heap (by decide))), h.bel.setCell (p := ⟨b, j, none⟩) h.lo _, h.lo⟩
/-- The words of the statuses. -/
def statB : Nat → ByteArray
  | 0 => ⟨#[105, 100, 108, 101]⟩
  | 1 => ⟨#[111, 107]⟩
  | 2 => ⟨#[102, 97, 105, 108, 101, 100]⟩
  | _ => ⟨#[101, 120, 112, 105, 114, 101, 100]⟩
end
end Go.Proofs.YtkphpgdgbnmnjacGreatDoor

namespace Go.Proofs.YtkphpgdgbnmnjacGreatDoor
open Go.RowKit Go.Extern.Stop Go.Stop Go.Extern

/-- All that is neither the document's entity nor a row of its marks is as it was. -/
def FrM (w w' : World) : Prop := ∀ (i : Nat) (o : Obj), w.heap[i]? = some o → (∀ c T fr, o = .cells c T fr → T ≠ 226 ∧ T ≠ 178) → w'.heap[i]? = some o
theorem FrM.refl (w : World) : FrM w w := fun _ _ h _ => h
theorem FrM.trans {w w' w'' : World} (h : FrM w w') (h' : FrM w' w'') : FrM w w'' := fun i o hi ho => h' i o (h i o hi ho) ho
theorem lt_of_obj {w : World} {i : Nat} {o : Obj} (h : w.heap[i]? = some o) : i < w.heap.size := by
  rcases Nat.lt_or_ge i w.heap.size with h1 | h1
  · exact h1
  · rw [Array.getElem?_eq_none h1] at h; cases h
theorem FrM.below {w w' : World} (hb : Below w.heap.size w w') : FrM w w' := fun i _ hi _ => (hb.block i (lt_of_obj hi)).trans hi
theorem FrM.own {w w' : World} {B : Nat} {v : Value} {ms : List MkD} (h : MkOwn B w v ms) (hg : w.grownBy w' v.ownBlock) : FrM w w' := fun i o hi ho => by
  refine (hg.block i (lt_of_obj hi) ?_).trans hi
  intro e2
  rcases h.2 with ⟨rfl, _⟩ | ⟨g, cap, cur, rfl, _, hg', _⟩
  · simp [Value.ownBlock] at e2
  · simp only [Value.ownBlock, Option.some.injEq] at e2
    subst e2
    rw [hg'] at hi
    exact (ho _ _ _ (Option.some.inj hi).symm).1 rfl
theorem FrM.put {w w' : World} {b : Nat} {c : Array Value} {fr : Nat × Nat} (hb : w.heap[b]? = some (.cells c 178 fr)) (hg : w.grownBy w' (some b)) : FrM w w' := fun i o hi ho => by
  refine (hg.block i (lt_of_obj hi) ?_).trans hi
  intro e2
  obtain rfl := Option.some.inj e2
  rw [hb] at hi
  exact (ho _ _ _ (Option.some.inj hi).symm).2 rfl
section
variable {w0 w w' : World} {b : Nat} {e : EntD} {pa ga ea fa la : Option Addr} {pc gc ec fc lc : Nat} {s s' : LSt} {sv sv' : Value}
end
end Go.Proofs.YtkphpgdgbnmnjacGreatDoor

namespace Go.Proofs.YtkphpgdgbnmnjacGreatDoor
open Go

/-- Cells, dog, the log's records, is the ring spent, the entities, the status of all. -/
structure KSt where
  c : CSt
  d : DSt
  L : List Rec
  sp : Bool
  ls : List LSt
  t : TSt
/-- Power and no reset: an error's number. -/
def KSt.on (K : KSt) : Nat := if K.c.off = true then 8 else if K.d.reset = true then 11 else 0
def KSt.setL (K : KSt) (i : Nat) (s : LSt) : KSt := { K with ls := K.ls.set i s }
/-- Errors of one entity. -/
def LSt.begN (s : LSt) : Nat := if s.act then 10 else 0
def LSt.stopN (s : LSt) : Nat := if s.act then 0 else 9
def LSt.repN (e : EntD) (s : LSt) (p : Int) : Nat := if s.act then (if hasP e p = true then 0 else 5) else 9
/-- Begin, Stop, Report of entity i. -/
def KSt.begin (K : KSt) (i : Int) : KSt × Nat :=
  if K.on ≠ 0 then (K, K.on) else if i < 0 then (K, 5) else match K.ls[i.toNat]? with
  | none => (K, 5)
  | some s => (K.setL i.toNat s.begin, s.begN)
def KSt.stop (K : KSt) (i : Int) : KSt × Nat :=
  if K.on ≠ 0 then (K, K.on) else if i < 0 then (K, 5) else match K.ls[i.toNat]? with
  | none => (K, 5)
  | some s => (K.setL i.toNat s.stop, s.stopN)
def noEnt : EntD := ⟨⟨#[]⟩, 0, [], 0, 0, 0, [], [], [], []⟩
def KSt.report (c : CfgD) (K : KSt) (i p : Int) : KSt × Nat :=
  if K.on ≠ 0 then (K, K.on) else if i < 0 then (K, 5) else match K.ls[i.toNat]? with
  | none => (K, 5)
  | some s => (K.setL i.toNat (s.rep (c.ents.getD i.toNat noEnt) p (K.d.now : Int)), s.repN (c.ents.getD i.toNat noEnt) p)
/-- One record more. -/
def KSt.app (K : KSt) (e k t : Nat) : KSt × Nat :=
  if K.sp = true then (K, 8) else if (lastR K.L).seq = 4294967295 then (K, 7)
  else if (K.c.putRec (nextR K.L e k t)).2 = 0 then ({ K with c := (K.c.putRec (nextR K.L e k t)).1, L := keepL K.L (nextR K.L e k t) }, 0)
  else ({ K with c := (K.c.putRec (nextR K.L e k t)).1, sp := true }, (K.c.putRec (nextR K.L e k t)).2)
/-- The end of a cycle of entity i. -/
def KSt.endOne (c : CfgD) (K : KSt) (i : Nat) : KSt × Nat := match K.ls[i]? with
  | none => (K, 0)
  | some s => if s.turns (c.ents.getD i noEnt) = true then (K.setL i (s.fin (c.ents.getD i noEnt))).app i (s.kind (c.ents.getD i noEnt)).toNat K.d.now else (K.setL i (s.fin (c.ents.getD i noEnt)), 0)
/-- The end of a cycle of the first n. -/
def KSt.ends (c : CfgD) (K : KSt) : Nat → KSt × Nat
  | 0 => (K, 0)
  | n + 1 => if (K.ends c n).2 = 0 then (K.ends c n).1.endOne c n else K.ends c n
/-- Behind them all: the status of all, a kick. -/
def KSt.last (K : KSt) : KSt :=
  let K1 := { K with t := K.t.fin (K.ls.map fun s => statB s.status) }
  if K1.t.st ≠ 3 ∧ K1.d.isOpen = true then { K1 with d := K1.d.kick } else K1
def KSt.ticked (K : KSt) : KSt := { K with d := K.d.tick }
def KSt.tick (c : CfgD) (K : KSt) : KSt × Nat :=
  if K.on ≠ 0 then (K, K.on)
  else if K.ticked.d.reset = true then (K.ticked, 11)
  else if K.ticked.d.now % c.cycle.toNat ≠ 0 then (K.ticked, 0)
  else if (K.ticked.ends c c.ents.length).2 = 0 then ((K.ticked.ends c c.ents.length).1.last, 0)
  else K.ticked.ends c c.ents.length
/-- Locals, total, ring as at the beginning. -/
def KSt.opened (c : CfgD) (K : KSt) : KSt := ⟨K.c, K.d, openL (K.c.bytes.take K.c.size), false, c.ents.map fun _ => LSt.new, TSt.new c.delay.toNat⟩
def KSt.new (c : CfgD) (s : CSt) : KSt := KSt.opened c ⟨s, DSt.new c.closed.toNat c.opn.toNat, [], false, [], TSt.new 0⟩
def KSt.boot (c : CfgD) (K : KSt) : KSt × Nat :=
  if K.on = 0 then (K, 10) else (KSt.opened c { K with c := { K.c with off := false, cut := false, left := 0 }, d := K.d.start }, 0)
def KSt.ticks (c : CfgD) (K : KSt) : Nat → KSt × Nat
  | 0 => (K, 0)
  | n + 1 => if (K.tick c).2 = 0 then (K.tick c).1.ticks c n else K.tick c
def KSt.cut (K : KSt) (n : Int) : KSt × Nat := if n < 0 then (K, 2) else if K.c.off = true then (K, 8) else ({ K with c := { K.c with cut := true, left := n.toNat } }, 0)
/-- What is always so, behind at most k acts, W bytes written. -/
structure KFit (c : CfgD) (K : KSt) (k W : Nat) : Prop where
  big : Big K.c
  left : K.c.left ≤ 9223372036854775807
  wr : K.c.written ≤ W
  sp : K.sp = true → K.c.off = true
  llen : K.L.length ≤ 8
  last : (lastR K.L).seq ≤ 4294967295
  len : K.ls.length = c.ents.length
  each : ∀ s ∈ K.ls, LFit s (k + K.d.now) ∧ s.ms.length ≤ k ∧ ∀ m ∈ s.ms, 0 ≤ m.tick ∧ m.tick ≤ 1099511627776
  tot : TFit K.t 20
  now : K.d.now ≤ 1099511627776
  win : K.d.closed ≤ 1000 ∧ K.d.opn ≤ 1000 ∧ K.d.kicks ≤ K.d.begun ∧ K.d.begun ≤ K.d.now
end Go.Proofs.YtkphpgdgbnmnjacGreatDoor
