/-
  Several texts as one: DogSt, DogOps, RefDog, AlSt, LcPure.
-/
import Derived.Test.YtdpdbfhbojgigacGreatDoorB03P
import Derived.Test.YtdpdbfhbojgigacGreatDoorB08P
import Derived.Test.YtdpdbfhbojgigacGreatDoorB01P
import Derived.Test.YtdpdbfhbojgigacGreatDoorB00P
import Derived.BigQuiet
import Derived.Deep.QuietTactic
import Derived.Deep.DeepCutAuto
import Derived.WalkSmall
namespace Go.Proofs.YtdpdbfhbojgigacGreatDoor
open Go.RowKit Go.Extern.Stop Go.Stop Go.Extern


structure DSt where
  closed : Nat
  opn : Nat
  now : Nat
  begun : Nat
  kicks : Nat
  reset : Bool
def DSt.row (d : DSt) : Array Value := #[.int .i64 (d.closed : Int), .int .i64 (d.opn : Int), .int .i64 (d.now : Int), .int .i64 (d.begun : Int), .int .i64 (d.kicks : Int), .bool d.reset]
structure DogAt (w : World) (b : Nat) (d : DSt) : Prop where
  heap : w.heap[b]? = some (.cells d.row 158 (0, 0))
  hc : d.closed ≤ 1000
  ho : d.opn ≤ 1000
  hk : d.kicks ≤ d.begun
  hb : d.begun ≤ d.now
  hn : d.now ≤ 1099511627776
theorem DogAt.cell {w : World} {b : Nat} {d : DSt} (h : DogAt w b d) (i : Nat) : w.cell? ⟨b, i, none⟩ = d.row[i]? := by simp [World.cell?, h.heap]
theorem DogAt.frozen {w : World} {b : Nat} {d : DSt} (h : DogAt w b d) (i : Nat) : w.frozen? ⟨b, i, none⟩ = false := by simp [World.frozen?, h.heap]
theorem DogAt.c0 {w : World} {b : Nat} {d : DSt} (h : DogAt w b d) : w.cell? ⟨b, 0, none⟩ = some (.int .i64 (d.closed : Int)) := h.cell 0
theorem DogAt.c1 {w : World} {b : Nat} {d : DSt} (h : DogAt w b d) : w.cell? ⟨b, 1, none⟩ = some (.int .i64 (d.opn : Int)) := h.cell 1
theorem DogAt.c2 {w : World} {b : Nat} {d : DSt} (h : DogAt w b d) : w.cell? ⟨b, 2, none⟩ = some (.int .i64 (d.now : Int)) := h.cell 2
theorem DogAt.c3 {w : World} {b : Nat} {d : DSt} (h : DogAt w b d) : w.cell? ⟨b, 3, none⟩ = some (.int .i64 (d.begun : Int)) := h.cell 3
theorem DogAt.c4 {w : World} {b : Nat} {d : DSt} (h : DogAt w b d) : w.cell? ⟨b, 4, none⟩ = some (.int .i64 (d.kicks : Int)) := h.cell 4
theorem DogAt.c5 {w : World} {b : Nat} {d : DSt} (h : DogAt w b d) : w.cell? ⟨b, 5, none⟩ = some (.bool d.reset) := h.cell 5
theorem DogAt.lt {w : World} {b : Nat} {d : DSt} (h : DogAt w b d) : b < w.heap.size := lt_of_row h.heap
theorem DogAt.set {w : World} {b : Nat} {d d' : DSt} (h : DogAt w b d) (i : Nat) (v : Value) (hr : d.row.setIfInBounds i v = d'.row) (hc : d'.closed ≤ 1000) (ho : d'.opn ≤ 1000) (hk : d'.kicks ≤ d'.begun) (hb : d'.begun ≤ d'.now) (hn : d'.now ≤ 1099511627776) : DogAt (w.setCell ⟨b, i, none⟩ v) b d' := by
  refine ⟨?_, hc, ho, hk, hb, hn⟩
  simp only [World.setCell, Array.getElem?_modify, h.heap]
  simp [hr]
theorem DogAt.below {w w' : World} {b : Nat} {d : DSt} (h : DogAt w b d) (hb : Below w.heap.size w w') : DogAt w' b d := ⟨row_below hb h.heap, h.hc, h.ho, h.hk, h.hb, h.hn⟩
theorem DogAt.drewN {w : World} {b : Nat} {d : DSt} (h : DogAt w b d) (q : Nat) : DogAt (w.drewN q) b d := ⟨h.heap, h.hc, h.ho, h.hk, h.hb, h.hn⟩
theorem DogAt.drew {w : World} {b : Nat} {d : DSt} (h : DogAt w b d) : DogAt w.drew b d := ⟨h.heap, h.hc, h.ho, h.hk, h.hb, h.hn⟩
theorem DogAt.other {w w' : World} {b c : Nat} {d : DSt} (h : DogAt w b d) (hg : w.grownBy w' (some c)) (hne : b ≠ c) : DogAt w' b d :=
  ⟨(hg.block b h.lt (by simpa using hne)).trans h.heap, h.hc, h.ho, h.hk, h.hb, h.hn⟩
theorem grown_drewN {a w : World} {r : Option Nat} (h : a.grownBy w r) (q : Nat) : a.grownBy (w.drewN q) r := ⟨h.os, h.tape, h.output, h.size, h.block⟩

def DSt.new (c o : Nat) : DSt := ⟨c, o, 0, 0, 0, false⟩
/-- Is the window open? -/
def DSt.isOpen (d : DSt) : Bool := !d.reset && decide (d.closed < d.now - d.begun)
/-- One tick. -/
def DSt.tick (d : DSt) : DSt := { d with now := d.now + 1, reset := decide (d.closed + d.opn < d.now + 1 - d.begun) }
/-- A kick that is well; a kick that is not. -/
def DSt.kick (d : DSt) : DSt := { d with begun := d.now, kicks := d.kicks + 1 }
def DSt.bad (d : DSt) : DSt := { d with reset := true }
def DSt.start (d : DSt) : DSt := { d with begun := d.now, reset := false }

set_option maxHeartbeats 400000 in
theorem dog_new (c o : Nat) (w : World) (h1 : c ≤ 1000) (h2 : 1 ≤ o) (h3 : o ≤ 1000) :
    Calls Tryz.prog 71 #[.int .i64 (c : Int), .int .i64 (o : Int)] w fun e w' => e = .returned (.tuple #[.pointer (some ⟨w.heap.size, 0, none⟩), .nilIface]) ∧ Below w.heap.size w w' ∧ DogAt w' w.heap.size (DSt.new c o) := by
  have g1 : ¬ (c : Int) < 0 := by omega
  have g2 : ¬ 1000 < (c : Int) := by omega
  have g3 : ¬ (o : Int) < 1 := by omega
  have g4 : ¬ 1000 < (o : Int) := by omega
  go_enter Tryz.func71, Tryz.ntmps71
  go_wp2
  go_ret2
  refine ⟨rfl, ?_, ⟨?_, h1, h3, Nat.le_refl _, Nat.le_refl _, Nat.zero_le _⟩⟩
  · exact (Below.refl _ _).alloc (Nat.le_refl _) _
  · show (w.heap.push _)[w.heap.size]? = _
    simp
    rfl

theorem dog_reset (b : Nat) (d : DSt) (w : World) (h : DogAt w b d) :
    Calls Tryz.prog 57 #[.pointer (some ⟨b, 0, none⟩)] w fun e w' => e = .returned (.bool d.reset) ∧ w' = w := by
  have c5 := h.c5
  go_enter Tryz.func57, Tryz.ntmps57
  go_wp2
  go_ret
  exact ⟨rfl, rfl⟩
theorem dog_now (b : Nat) (d : DSt) (w : World) (h : DogAt w b d) :
    Calls Tryz.prog 59 #[.pointer (some ⟨b, 0, none⟩)] w fun e w' => e = .returned (.int .i64 (d.now : Int)) ∧ w' = w := by
  have c2 := h.c2
  go_enter Tryz.func59, Tryz.ntmps59
  go_wp2
  go_ret
  exact ⟨rfl, rfl⟩
theorem dog_kicks (b : Nat) (d : DSt) (w : World) (h : DogAt w b d) :
    Calls Tryz.prog 60 #[.pointer (some ⟨b, 0, none⟩)] w fun e w' => e = .returned (.int .i64 (d.kicks : Int)) ∧ w' = w := by
  have c4 := h.c4
  go_enter Tryz.func60, Tryz.ntmps60
  go_wp2
  go_ret
  exact ⟨rfl, rfl⟩

theorem dog_behind (b : Nat) (d : DSt) (w : World) (h : DogAt w b d) :
    Calls Tryz.prog 125 #[.pointer (some ⟨b, 0, none⟩)] w fun e w' => e = .returned (.int .i64 ((d.now - d.begun : Nat) : Int)) ∧ ∃ q, w' = w.drewN q := by
  have c2 := h.c2
  have c3 := h.c3
  have hb := h.hb
  have hn := h.hn
  have wr : IntKind.i64.wrap ((d.now : Int) - (d.begun : Int)) = ((d.now - d.begun : Nat) : Int) := by rw [IntKind.wrap_i64]; omega
  go_enter Tryz.func125, Tryz.ntmps125
  go_wp2_with fail
  go_quiet (fail)
  go_wp2
  go_ret
  exact ⟨rfl, _, rfl⟩
end Go.Proofs.YtdpdbfhbojgigacGreatDoor

namespace Go.Proofs.YtdpdbfhbojgigacGreatDoor
open Go.RowKit Go.Extern.Stop Go.Stop Go.Extern

theorem dog_open (b : Nat) (d : DSt) (w : World) (h : DogAt w b d) :
    Calls Tryz.prog 129 #[.pointer (some ⟨b, 0, none⟩)] w fun e w' => e = .returned (.bool d.isOpen) ∧ ∃ q, w' = w.drewN q := by
  have c0 := h.c0
  have c5 := h.c5
  cases hr : d.reset
  · rw [hr] at c5
    have E : Hid (d.isOpen = decide (d.closed < d.now - d.begun)) := by
      show _ = _
      unfold DSt.isOpen
      rw [hr]
      simp only [Bool.not_false, Bool.true_and]
    go_enter Tryz.func129, Tryz.ntmps129
    go_wp2_with fail
    go_quiet (first | (go_at_call 125; exact Calls.quiet_of (dog_behind _ _ _ (h.drewN _))))
    go_wp2
    go_ret
    rw [E.out]
    exact ⟨rfl, _, rfl⟩
  · rw [hr] at c5
    have E : Hid (d.isOpen = false) := by
      show _ = _
      unfold DSt.isOpen
      rw [hr]
      rfl
    go_enter Tryz.func129, Tryz.ntmps129
    go_wp2_with fail
    go_quiet (fail)
    go_wp2
    go_ret
    rw [E.out]
    exact ⟨rfl, _, rfl⟩

/-- What a run that only writes comes to. -/
theorem goodRun.skipped {P : Program} {S : Nat → Value → World → Prop} {C : World → Prop} {i : Nat} {w w' : World} {r : Result Next} (hr : r = .ok .skip w') (hC : C w') (hK : ∀ j v, S j v w → S j v w') (hS : S i undef w') : goodRun P S C i w r := by
  subst hr; exact ⟨hC, hK, hS⟩

def DSt.tickR (d : DSt) (r : Bool) : DSt := ⟨d.closed, d.opn, d.now + 1, d.begun, d.kicks, r⟩
/-- What each operation of the statement that sets 'reset' yields. -/
def tickS (b : Nat) (d : DSt) : Nat → Value → World → Prop
  | 0 => fun v _ => v = .pointer (some ⟨b, 0, none⟩)
  | 1 => fun v _ => v = .pointer (some ⟨b, 0, none⟩)
  | 2 => fun v _ => v = .int .i64 ((d.now + 1 - d.begun : Nat) : Int)
  | 3 => fun v _ => v = .pointer (some ⟨b, 0, none⟩)
  | 4 => fun v _ => v = .pointer (some ⟨b, 0, none⟩)
  | 5 => fun v _ => v = .pointer (some ⟨b, 0, none⟩)
  | 6 => fun v _ => v = .int .i64 (d.closed : Int)
  | 7 => fun v _ => v = .pointer (some ⟨b, 0, none⟩)
  | 8 => fun v _ => v = .pointer (some ⟨b, 0, none⟩)
  | 9 => fun v _ => v = .pointer (some ⟨b, 1, none⟩)
  | 10 => fun v _ => v = .int .i64 (d.opn : Int)
  | 11 => fun v _ => v = .int .i64 ((d.closed + d.opn : Nat) : Int)
  | 12 => fun v _ => v = .bool (decide (d.closed + d.opn < d.now + 1 - d.begun))
  | 13 => fun v _ => v = .pointer (some ⟨b, 0, none⟩)
  | 14 => fun v _ => v = .pointer (some ⟨b, 5, none⟩)
  | 15 => fun _ w => DogAt w b d.tick
  | _ => fun _ _ => True
theorem tickS_keeps {b : Nat} {d : DSt} {w w' : World} (hb : DogAt w b d.tick → DogAt w' b d.tick) : ∀ j v, tickS b d j v w → tickS b d j v w' := by
  intro j v h
  match j, h with
  | 0, h => exact h
  | 1, h => exact h
  | 2, h => exact h
  | 3, h => exact h
  | 4, h => exact h
  | 5, h => exact h
  | 6, h => exact h
  | 7, h => exact h
  | 8, h => exact h
  | 9, h => exact h
  | 10, h => exact h
  | 11, h => exact h
  | 12, h => exact h
  | 13, h => exact h
  | 14, h => exact h
  | 15, h => exact hb h
  | n + 16, h => exact h

set_option maxHeartbeats 1000000 in
set_option maxRecDepth 20000 in
theorem dog_tick (b : Nat) (d : DSt) (w : World) (h : DogAt w b d) (hr : d.reset = false) (hlt : d.now < 1099511627776) :
    Calls Tryz.prog 92 #[.pointer (some ⟨b, 0, none⟩)] w fun e w' => e = .returned .nilIface ∧ DogAt w' b d.tick ∧ w.grownBy w' (some b) := by
  have c5 := h.c5
  have c2 := h.c2
  have f2 := h.frozen 2
  have hc := h.hc
  have ho := h.ho
  rw [hr] at c5
  have g1 : ¬ 1099511627776 ≤ (d.now : Int) := by omega
  have wr : IntKind.i64.wrap ((d.closed : Int) + (d.opn : Int)) = ((d.closed + d.opn : Nat) : Int) := by rw [IntKind.wrap_i64]; omega
  have e1 : ((d.now + 1 : Nat) : Int) = (d.now : Int) + 1 := by omega
  have hT : DogAt (w.setCell ⟨b, 2, none⟩ (.int .i64 ((d.now : Int) + 1))) b (d.tickR d.reset) := by
    rw [← e1]
    exact h.set 2 _ rfl h.hc h.ho h.hk (Nat.le_succ_of_le h.hb) hlt
  have HT : Hid _ := hT
  clear hT h hlt e1
  go_enter Tryz.func92, Tryz.ntmps92
  go_upto_region 6 with fail
  refine region_spec 16 rfl (tickS b d) (fun w' => w.grownBy w' (some b) ∧ ∃ r, DogAt w' b (d.tickR r)) (by kernel_rfl) (by kernel_rfl) ⟨grown_drewN (grown_set (grown_refl _ _) _ _) 1, _, HT.out.drew⟩ ?_ ?_
  · intro i o ho
    match i, ho with
    | 0, ho =>
      obtain rfl := Option.some.inj ho
      refine StepOk.free rfl ?_
      intro a w hC hdep hoth
      have x0 : a.tmps[0]?.getD undef = .pointer (some ⟨b, 0, none⟩) := slot_of (hoth 0 (notDst (by kernel_rfl)))
      exact goodRun.val (c := .pointer (some ⟨b, 0, none⟩)) (by clear hdep hoth; go_simp) hC rfl
    | 1, ho =>
      obtain rfl := Option.some.inj ho
      refine StepOk.free rfl ?_
      intro a w hC hdep hoth
      have x0 : a.tmps[0]?.getD undef = .pointer (some ⟨b, 0, none⟩) := slot_of (hoth 0 (notDst (by kernel_rfl)))
      exact goodRun.val (c := .pointer (some ⟨b, 0, none⟩)) (by clear hdep hoth; go_simp) hC rfl
    | 2, ho =>
      obtain rfl := Option.some.inj ho
      refine StepOk.free rfl ?_
      intro a w hC hdep hoth
      have x22 : a.tmps[22]?.getD undef = .pointer (some ⟨b, 0, none⟩) := slot_of (hdep _ 22 (Array.mem_of_getElem? (i := 0) rfl) rfl rfl)
      obtain ⟨r, hr⟩ := hC.2
      refine goodRun.call (f := 125) (args := #[.pointer (some ⟨b, 0, none⟩)]) (by clear hdep hoth; go_simp) ?_
      refine (dog_behind _ _ _ hr).mono ?_
      rintro e w' ⟨rfl, q, rfl⟩
      exact ⟨_, rfl, ⟨grown_drewN hC.1 _, r, hr.drewN _⟩, tickS_keeps (fun h => h.drewN _), rfl⟩
    | 3, ho =>
      obtain rfl := Option.some.inj ho
      refine StepOk.free rfl ?_
      intro a w hC hdep hoth
      have x0 : a.tmps[0]?.getD undef = .pointer (some ⟨b, 0, none⟩) := slot_of (hoth 0 (notDst (by kernel_rfl)))
      exact goodRun.val (c := .pointer (some ⟨b, 0, none⟩)) (by clear hdep hoth; go_simp) hC rfl
    | 4, ho =>
      obtain rfl := Option.some.inj ho
      refine StepOk.free rfl ?_
      intro a w hC hdep hoth
      have x24 : a.tmps[24]?.getD undef = .pointer (some ⟨b, 0, none⟩) := slot_of (hdep _ 24 (Array.mem_of_getElem? (i := 0) rfl) rfl rfl)
      exact goodRun.val (c := .pointer (some ⟨b, 0, none⟩)) (by clear hdep hoth; go_simp) hC rfl
    | 5, ho =>
      obtain rfl := Option.some.inj ho
      refine StepOk.free rfl ?_
      intro a w hC hdep hoth
      have x25 : a.tmps[25]?.getD undef = .pointer (some ⟨b, 0, none⟩) := slot_of (hdep _ 25 (Array.mem_of_getElem? (i := 0) rfl) rfl rfl)
      exact goodRun.val (c := .pointer (some ⟨b, 0, none⟩)) (by clear hdep hoth; go_simp) hC rfl
    | 6, ho =>
      obtain rfl := Option.some.inj ho
      refine StepOk.free rfl ?_
      intro a w hC hdep hoth
      have x26 : a.tmps[26]?.getD undef = .pointer (some ⟨b, 0, none⟩) := slot_of (hdep _ 26 (Array.mem_of_getElem? (i := 0) rfl) rfl rfl)
      obtain ⟨r, hr⟩ := hC.2
      have c : w.cell? ⟨b, 0, none⟩ = some (.int .i64 (d.closed : Int)) := hr.c0
      exact goodRun.val (c := .int .i64 (d.closed : Int)) (by clear hdep hoth; go_simp) hC rfl
    | 7, ho =>
      obtain rfl := Option.some.inj ho
      refine StepOk.free rfl ?_
      intro a w hC hdep hoth
      have x0 : a.tmps[0]?.getD undef = .pointer (some ⟨b, 0, none⟩) := slot_of (hoth 0 (notDst (by kernel_rfl)))
      exact goodRun.val (c := .pointer (some ⟨b, 0, none⟩)) (by clear hdep hoth; go_simp) hC rfl
    | 8, ho =>
      obtain rfl := Option.some.inj ho
      refine StepOk.free rfl ?_
      intro a w hC hdep hoth
      have x28 : a.tmps[28]?.getD undef = .pointer (some ⟨b, 0, none⟩) := slot_of (hdep _ 28 (Array.mem_of_getElem? (i := 0) rfl) rfl rfl)
      exact goodRun.val (c := .pointer (some ⟨b, 0, none⟩)) (by clear hdep hoth; go_simp) hC rfl
    | 9, ho =>
      obtain rfl := Option.some.inj ho
      refine StepOk.free rfl ?_
      intro a w hC hdep hoth
      have x29 : a.tmps[29]?.getD undef = .pointer (some ⟨b, 0, none⟩) := slot_of (hdep _ 29 (Array.mem_of_getElem? (i := 0) rfl) rfl rfl)
      exact goodRun.val (c := .pointer (some ⟨b, 1, none⟩)) (by clear hdep hoth; go_simp) hC rfl
    | 10, ho =>
      obtain rfl := Option.some.inj ho
      refine StepOk.free rfl ?_
      intro a w hC hdep hoth
      have x30 : a.tmps[30]?.getD undef = .pointer (some ⟨b, 1, none⟩) := slot_of (hdep _ 30 (Array.mem_of_getElem? (i := 0) rfl) rfl rfl)
      obtain ⟨r, hr⟩ := hC.2
      have c : w.cell? ⟨b, 1, none⟩ = some (.int .i64 (d.opn : Int)) := hr.c1
      exact goodRun.val (c := .int .i64 (d.opn : Int)) (by clear hdep hoth; go_simp) hC rfl
    | 11, ho =>
      obtain rfl := Option.some.inj ho
      refine StepOk.free rfl ?_
      intro a w hC hdep hoth
      have x27 : a.tmps[27]?.getD undef = .int .i64 (d.closed : Int) := slot_of (hdep _ 27 (Array.mem_of_getElem? (i := 0) rfl) rfl rfl)
      have x31 : a.tmps[31]?.getD undef = .int .i64 (d.opn : Int) := slot_of (hdep _ 31 (Array.mem_of_getElem? (i := 1) rfl) rfl rfl)
      exact goodRun.val (c := .int .i64 ((d.closed + d.opn : Nat) : Int)) (by clear hdep hoth; go_simp) hC rfl
    | 12, ho =>
      obtain rfl := Option.some.inj ho
      refine StepOk.free rfl ?_
      intro a w hC hdep hoth
      have x23 : a.tmps[23]?.getD undef = .int .i64 ((d.now + 1 - d.begun : Nat) : Int) := slot_of (hdep _ 23 (Array.mem_of_getElem? (i := 0) rfl) rfl rfl)
      have x32 : a.tmps[32]?.getD undef = .int .i64 ((d.closed + d.opn : Nat) : Int) := slot_of (hdep _ 32 (Array.mem_of_getElem? (i := 1) rfl) rfl rfl)
      exact goodRun.val (c := .bool (decide (d.closed + d.opn < d.now + 1 - d.begun))) (by clear hdep hoth; go_simp; omega) hC rfl
    | 13, ho =>
      obtain rfl := Option.some.inj ho
      refine StepOk.free rfl ?_
      intro a w hC hdep hoth
      have x21 : a.tmps[21]?.getD undef = .pointer (some ⟨b, 0, none⟩) := slot_of (hdep _ 21 (Array.mem_of_getElem? (i := 0) rfl) rfl rfl)
      exact goodRun.val (c := .pointer (some ⟨b, 0, none⟩)) (by clear hdep hoth; go_simp) hC rfl
    | 14, ho =>
      obtain rfl := Option.some.inj ho
      refine StepOk.free rfl ?_
      intro a w hC hdep hoth
      have x34 : a.tmps[34]?.getD undef = .pointer (some ⟨b, 0, none⟩) := slot_of (hdep _ 34 (Array.mem_of_getElem? (i := 0) rfl) rfl rfl)
      exact goodRun.val (c := .pointer (some ⟨b, 5, none⟩)) (by clear hdep hoth; go_simp) hC rfl
    | 15, ho =>
      obtain rfl := Option.some.inj ho
      refine StepOk.free rfl ?_
      intro a w hC hdep hoth
      have x35 : a.tmps[35]?.getD undef = .pointer (some ⟨b, 5, none⟩) := slot_of (hdep _ 35 (Array.mem_of_getElem? (i := 0) rfl) rfl rfl)
      have x33 : a.tmps[33]?.getD undef = .bool (decide (d.closed + d.opn < d.now + 1 - d.begun)) := slot_of (hdep _ 33 (Array.mem_of_getElem? (i := 1) rfl) rfl rfl)
      obtain ⟨r, hr⟩ := hC.2
      have c5 : w.cell? ⟨b, 5, none⟩ = some (.bool r) := hr.c5
      have f5 := hr.frozen 5
      have hT : DogAt (w.setCell ⟨b, 5, none⟩ (.bool (decide (d.closed + d.opn < d.now + 1 - d.begun)))) b d.tick := hr.set 5 _ rfl hr.hc hr.ho hr.hk hr.hb hr.hn
      exact goodRun.skipped (w' := w.setCell ⟨b, 5, none⟩ (.bool (decide (d.closed + d.opn < d.now + 1 - d.begun)))) (by clear hdep hoth hT; go_simp) ⟨grown_set hC.1 _ _, _, hT⟩ (tickS_keeps (fun _ => hT)) hT
    | n + 16, ho => simp at ho
  · intro vals w5 hC hS
    have hT : DogAt w5 b d.tick := hS 15 (by decide)
    have hg := hC.1
    clear hS hC HT
    simp only [fill, dstOf]
    go_simp
    go_wp2
    go_ret
    exact ⟨rfl, hT, hg⟩

theorem dog_kick (b : Nat) (d : DSt) (w : World) (h : DogAt w b d) (ho : d.isOpen = true) :
    Calls Tryz.prog 130 #[.pointer (some ⟨b, 0, none⟩)] w fun e w' => e = .returned .nilIface ∧ DogAt w' b d.kick ∧ w.grownBy w' (some b) := by
  have hk := h.hk
  have hb := h.hb
  have hn := h.hn
  have hlt : d.kicks < d.now := by
    unfold DSt.isOpen at ho
    simp only [Bool.and_eq_true, decide_eq_true_eq] at ho
    omega
  have HO : Hid (d.isOpen = true) := ho
  have h1 : ∀ q, DogAt ((w.drewN q).setCell ⟨b, 3, none⟩ (.int .i64 (d.now : Int))) b { d with begun := d.now } := fun q => (h.drewN q).set 3 _ rfl h.hc h.ho (Nat.le_trans h.hk h.hb) (Nat.le_refl _) h.hn
  have h2 : ∀ q, DogAt (((w.drewN q).setCell ⟨b, 3, none⟩ (.int .i64 (d.now : Int))).setCell ⟨b, 4, none⟩ (.int .i64 ((d.kicks : Int) + 1))) b d.kick := fun q => by
    have e : ((d.kicks + 1 : Nat) : Int) = (d.kicks : Int) + 1 := by omega
    rw [← e]
    exact (h1 q).set 4 _ rfl h.hc h.ho (show d.kicks + 1 ≤ d.now by omega) (Nat.le_refl _) h.hn
  have c2 := h.c2
  have c3 := h.c3
  have c4 := h.c4
  have f3 := h.frozen 3
  have f4 := h.frozen 4
  have H1 : Hid _ := h1
  have H2 : Hid _ := h2
  clear h1 h2 ho
  go_enter Tryz.func130, Tryz.ntmps130
  go_wp2_with fail
  refine (dog_open _ _ _ h).mono ?_
  rintro e w1 ⟨rfl, q, rfl⟩
  rw [HO.out]
  clear h
  go_wp2
  go_ret
  exact ⟨rfl, H2.out q, grown_set (grown_set (grown_drewN (grown_refl _ _) _) _ _) _ _⟩

theorem dog_start (b : Nat) (d : DSt) (w : World) (h : DogAt w b d) :
    Calls Tryz.prog 67 #[.pointer (some ⟨b, 0, none⟩)] w fun e w' => e = .returned (.tuple #[]) ∧ DogAt w' b d.start ∧ w.grownBy w' (some b) := by
  have c2 := h.c2
  have c3 := h.c3
  have c5 := h.c5
  have f3 := h.frozen 3
  have f5 := h.frozen 5
  have hk := Nat.le_trans h.hk h.hb
  have R1 : DogAt ((w.setCell ⟨b, 3, none⟩ (.int .i64 (d.now : Int))).setCell ⟨b, 5, none⟩ (.bool false)) b d.start := (h.set (d' := { d with begun := d.now }) 3 _ rfl h.hc h.ho hk (Nat.le_refl _) h.hn).set 5 _ rfl h.hc h.ho hk (Nat.le_refl _) h.hn
  have H1 : Hid _ := R1
  clear R1 h hk
  go_enter Tryz.func67, Tryz.ntmps67
  go_wp2
  go_end0
  exact ⟨rfl, H1.out, grown_set (grown_set (grown_refl _ _) _ _) _ _⟩
end Go.Proofs.YtdpdbfhbojgigacGreatDoor

namespace Go.Proofs.YtdpdbfhbojgigacGreatDoor
open Go.RowKit Go.Extern.Stop Go.Stop Go.Extern

structure MDogAt (w : World) (b : Nat) (d : DSt) : Prop where
  heap : w.heap[b]? = some (.cells d.row 125 (0, 0))
  hc : d.closed ≤ 1000
  ho : d.opn ≤ 1000
  hk : d.kicks ≤ d.begun
  hb : d.begun ≤ d.now
  hn : d.now ≤ 1099511627776
theorem MDogAt.cell {w : World} {b : Nat} {d : DSt} (h : MDogAt w b d) (i : Nat) : w.cell? ⟨b, i, none⟩ = d.row[i]? := by simp [World.cell?, h.heap]
theorem MDogAt.frozen {w : World} {b : Nat} {d : DSt} (h : MDogAt w b d) (i : Nat) : w.frozen? ⟨b, i, none⟩ = false := by simp [World.frozen?, h.heap]
theorem MDogAt.c0 {w : World} {b : Nat} {d : DSt} (h : MDogAt w b d) : w.cell? ⟨b, 0, none⟩ = some (.int .i64 (d.closed : Int)) := h.cell 0
theorem MDogAt.c1 {w : World} {b : Nat} {d : DSt} (h : MDogAt w b d) : w.cell? ⟨b, 1, none⟩ = some (.int .i64 (d.opn : Int)) := h.cell 1
theorem MDogAt.c2 {w : World} {b : Nat} {d : DSt} (h : MDogAt w b d) : w.cell? ⟨b, 2, none⟩ = some (.int .i64 (d.now : Int)) := h.cell 2
theorem MDogAt.c3 {w : World} {b : Nat} {d : DSt} (h : MDogAt w b d) : w.cell? ⟨b, 3, none⟩ = some (.int .i64 (d.begun : Int)) := h.cell 3
theorem MDogAt.c4 {w : World} {b : Nat} {d : DSt} (h : MDogAt w b d) : w.cell? ⟨b, 4, none⟩ = some (.int .i64 (d.kicks : Int)) := h.cell 4
theorem MDogAt.c5 {w : World} {b : Nat} {d : DSt} (h : MDogAt w b d) : w.cell? ⟨b, 5, none⟩ = some (.bool d.reset) := h.cell 5
theorem MDogAt.lt {w : World} {b : Nat} {d : DSt} (h : MDogAt w b d) : b < w.heap.size := lt_of_row h.heap
theorem MDogAt.set {w : World} {b : Nat} {d d' : DSt} (h : MDogAt w b d) (i : Nat) (v : Value) (hr : d.row.setIfInBounds i v = d'.row) (hc : d'.closed ≤ 1000) (ho : d'.opn ≤ 1000) (hk : d'.kicks ≤ d'.begun) (hb : d'.begun ≤ d'.now) (hn : d'.now ≤ 1099511627776) : MDogAt (w.setCell ⟨b, i, none⟩ v) b d' := by
  refine ⟨?_, hc, ho, hk, hb, hn⟩
  simp only [World.setCell, Array.getElem?_modify, h.heap]
  simp [hr]
theorem MDogAt.below {w w' : World} {b : Nat} {d : DSt} (h : MDogAt w b d) (hb : Below w.heap.size w w') : MDogAt w' b d := ⟨row_below hb h.heap, h.hc, h.ho, h.hk, h.hb, h.hn⟩
theorem MDogAt.drewN {w : World} {b : Nat} {d : DSt} (h : MDogAt w b d) (q : Nat) : MDogAt (w.drewN q) b d := ⟨h.heap, h.hc, h.ho, h.hk, h.hb, h.hn⟩
theorem MDogAt.drew {w : World} {b : Nat} {d : DSt} (h : MDogAt w b d) : MDogAt w.drew b d := ⟨h.heap, h.hc, h.ho, h.hk, h.hb, h.hn⟩
theorem MDogAt.other {w w' : World} {b c : Nat} {d : DSt} (h : MDogAt w b d) (hg : w.grownBy w' (some c)) (hne : b ≠ c) : MDogAt w' b d :=
  ⟨(hg.block b h.lt (by simpa using hne)).trans h.heap, h.hc, h.ho, h.hk, h.hb, h.hn⟩

end Go.Proofs.YtdpdbfhbojgigacGreatDoor

namespace Go.Proofs.YtdpdbfhbojgigacGreatDoor
open Go.RowKit Go.Extern.Stop Go.Stop Go.Extern

/-- A counter: the point (-1: none), Min, Max, the count. -/
structure ASt where
  pt : Int
  mn : Int
  mx : Int
  n : Nat
def ASt.row (a : ASt) : Array Value := #[.int .i64 a.pt, .int .i64 a.mn, .int .i64 a.mx, .int .i64 (a.n : Int)]
/-- The point that is counted. -/
def ptOf (cnt : Int) (len : Nat) : Int := if cnt < 0 ∨ (len : Int) ≤ cnt then -1 else cnt
def ASt.rep (a : ASt) (p : Int) : ASt := if a.pt ≠ -1 ∧ p = a.pt ∧ a.n < 1000 then { a with n := a.n + 1 } else a
def ASt.well (a : ASt) (whole : Bool) : Bool := (decide (a.mn ≤ (a.n : Int)) && decide ((a.n : Int) ≤ a.mx)) || !whole || decide (a.pt = -1)
def ASt.zero (a : ASt) : ASt := { a with n := 0 }
structure AlAt (w : World) (b : Nat) (a : ASt) : Prop where
  heap : w.heap[b]? = some (.cells a.row 237 (0, 0))
  hn : a.n ≤ 1000
structure AlIn (w0 w : World) (b : Nat) (a : ASt) : Prop where
  at' : AlAt w b a
  bel : Below w0.heap.size w0 w
  lo : w0.heap.size ≤ b
theorem AlAt.cell {w : World} {b : Nat} {a : ASt} (h : AlAt w b a) (i : Nat) : w.cell? ⟨b, i, none⟩ = a.row[i]? := by simp [World.cell?, h.heap]
theorem AlAt.frozen {w : World} {b : Nat} {a : ASt} (h : AlAt w b a) (i : Nat) : w.frozen? ⟨b, i, none⟩ = false := by simp [World.frozen?, h.heap]
theorem AlAt.c0 {w : World} {b : Nat} {a : ASt} (h : AlAt w b a) : w.cell? ⟨b, 0, none⟩ = some (.int .i64 a.pt) := h.cell 0
theorem AlAt.c1 {w : World} {b : Nat} {a : ASt} (h : AlAt w b a) : w.cell? ⟨b, 1, none⟩ = some (.int .i64 a.mn) := h.cell 1
theorem AlAt.c2 {w : World} {b : Nat} {a : ASt} (h : AlAt w b a) : w.cell? ⟨b, 2, none⟩ = some (.int .i64 a.mx) := h.cell 2
theorem AlAt.c3 {w : World} {b : Nat} {a : ASt} (h : AlAt w b a) : w.cell? ⟨b, 3, none⟩ = some (.int .i64 (a.n : Int)) := h.cell 3
theorem AlAt.set {w : World} {b : Nat} {a : ASt} (h : AlAt w b a) (n : Nat) (hn : n ≤ 1000) : AlAt (w.setCell ⟨b, 3, none⟩ (.int .i64 (n : Int))) b { a with n := n } := by
  refine ⟨?_, hn⟩
  simp only [World.setCell, Array.getElem?_modify, h.heap]
  simp [ASt.row]
theorem AlAt.below {w w' : World} {b : Nat} {a : ASt} (h : AlAt w b a) (hb : Below w.heap.size w w') : AlAt w' b a := ⟨row_below hb h.heap, h.hn⟩
theorem AlAt.drewN {w : World} {b : Nat} {a : ASt} (h : AlAt w b a) (q : Nat) : AlAt (w.drewN q) b a := ⟨h.heap, h.hn⟩
theorem AlIn.drewN {w0 w : World} {b : Nat} {a : ASt} (h : AlIn w0 w b a) (q : Nat) : AlIn w0 (w.drewN q) b a := ⟨h.at'.drewN q, below_drewN h.bel q, h.lo⟩
theorem AlIn.below {w0 w w' : World} {b : Nat} {a : ASt} (h : AlIn w0 w b a) (hb : Below w.heap.size w w') : AlIn w0 w' b a := ⟨h.at'.below hb, h.bel.trans (hb.mono h.bel.size), h.lo⟩
theorem AlIn.set {w0 w : World} {b : Nat} {a : ASt} (h : AlIn w0 w b a) (n : Nat) (hn : n ≤ 1000) : AlIn w0 (w.setCell ⟨b, 3, none⟩ (.int .i64 (n : Int))) b { a with n := n } := ⟨h.at'.set n hn, h.bel.setCell (p := ⟨b, 3, none⟩) h.lo _, h.lo⟩
theorem AlIn.from {w0 w1 w : World} {b : Nat} {a : ASt} (h : AlIn w1 w b a) (hb : Below w0.heap.size w0 w1) : AlIn w0 w b a := ⟨h.at', hb.trans (h.bel.mono hb.size), Nat.le_trans hb.size h.lo⟩

set_option maxHeartbeats 1000000 in
theorem al_new (name : ByteArray) (tol cnt mn mx : Int) (pa : Option Addr) (pl pc : Nat) (gv ev fv lv : Value) (w : World) :
    Calls Tryz.prog 119 #[.agg #[.string name, .int .i64 tol, .slice pa pl pc, .int .i64 cnt, .int .i64 mn, .int .i64 mx, gv, ev, fv, lv]] w fun v w' => ∃ b, v = .returned (.pointer (some ⟨b, 0, none⟩)) ∧ AlIn w w' b ⟨ptOf cnt pl, mn, mx, 0⟩ := by
  have fin : ∀ (z : Int) (o : Obj), z = ptOf cnt pl → AlIn w ((w.alloc o).alloc (.cells #[.int .i64 z, .int .i64 mn, .int .i64 mx, .int .i64 0] 237)) (w.heap.size + 1) ⟨ptOf cnt pl, mn, mx, 0⟩ := by
    rintro z o rfl
    refine ⟨⟨?_, Nat.zero_le _⟩, (Below.one _ _).alloc (by simp) _, by omega⟩
    show ((w.alloc o).heap.push _)[w.heap.size + 1]? = _
    rw [Array.getElem?_push, if_pos (by simp)]
    rfl
  have HFin : Hid _ := fin
  clear fin
  by_cases h0 : cnt < 0
  · have HZ : Hid ((-1 : Int) = ptOf cnt pl) := by show _ = _; unfold ptOf; rw [if_pos (Or.inl h0)]
    go_enter Tryz.func119, Tryz.ntmps119
    go_wp2
    go_ret
    exact ⟨_, rfl, HFin.out _ _ HZ.out⟩
  by_cases h1 : (pl : Int) ≤ cnt
  · have HZ : Hid ((-1 : Int) = ptOf cnt pl) := by show _ = _; unfold ptOf; rw [if_pos (Or.inr h1)]
    go_enter Tryz.func119, Tryz.ntmps119
    go_wp2
    go_ret
    exact ⟨_, rfl, HFin.out _ _ HZ.out⟩
  · have HZ : Hid (cnt = ptOf cnt pl) := by show _ = _; unfold ptOf; rw [if_neg (by omega)]
    go_enter Tryz.func119, Tryz.ntmps119
    go_wp2
    go_ret
    exact ⟨_, rfl, HFin.out _ _ HZ.out⟩

variable {w0 w : World} {b : Nat} {a : ASt}
end Go.Proofs.YtdpdbfhbojgigacGreatDoor

namespace Go.Proofs.YtdpdbfhbojgigacGreatDoor
open Go

/-- How many reports of the counted point a cycle has. -/
def countIn (cnt : Int) (l : List MkD) (cyc : Int) : Nat := l.countP (fun m => decide (m.cyc = cyc) && decide (m.pt = cnt))
theorem countIn_snoc (cnt : Int) (l : List MkD) (m : MkD) (cyc : Int) : countIn cnt (l ++ [m]) cyc = countIn cnt l cyc + (if m.cyc = cyc ∧ m.pt = cnt then 1 else 0) := by
  unfold countIn
  rw [List.countP_append]
  simp only [List.countP_cons, List.countP_nil, Nat.zero_add]
  by_cases h : m.cyc = cyc <;> by_cases h2 : m.pt = cnt <;> simp [h, h2]
theorem countIn_next {cnt : Int} {l : List MkD} {cyc : Int} (h : ∀ m ∈ l, m.cyc < cyc) : countIn cnt l cyc = 0 := by
  unfold countIn
  rw [List.countP_eq_zero]
  intro m hm
  have := h m hm
  simp only [Bool.and_eq_true, decide_eq_true_eq, not_and]
  intro e
  omega
theorem countIn_le (cnt : Int) (l : List MkD) (cyc : Int) : countIn cnt l cyc ≤ l.length := List.countP_le_length
/-- What was not well in a cycle (0: all was; 1: alive; 2: gaps; 3: flow). -/
def kindL (e : EntD) (l : List MkD) (cyc : Int) : Int :=
  if 0 ≤ e.cnt ∧ 0 < cyc ∧ ((countIn e.cnt l cyc : Int) < e.mn ∨ e.mx < (countIn e.cnt l cyc : Int)) then 1
  else if e.gaps.any (fun g => gapBad g l cyc) = true then 2
  else if flowBad e l cyc = true then 3 else 0
/-- The counter behind all reports. -/
def simA (e : EntD) (l : List MkD) (cyc : Int) : ASt := ⟨ptOf e.cnt e.pts.length, e.mn, e.mx, if ptOf e.cnt e.pts.length = -1 then 0 else countIn e.cnt l cyc⟩
theorem simA_new (e : EntD) : simA e [] 0 = ⟨ptOf e.cnt e.pts.length, e.mn, e.mx, 0⟩ := by
  unfold simA countIn
  simp
theorem ptOf_is {cnt : Int} {n : Nat} (h : ptOf cnt n ≠ -1) : ptOf cnt n = cnt := by
  unfold ptOf at h ⊢
  split
  · rename_i h2; rw [if_pos h2] at h; exact absurd rfl h
  · rfl
theorem simA_rep (e : EntD) (l : List MkD) (cyc p t : Int) (hl : l.length < 1000) : (simA e l cyc).rep p = simA e (l ++ [⟨p, t, cyc⟩]) cyc := by
  unfold ASt.rep
  by_cases h : ptOf e.cnt e.pts.length = -1
  · rw [if_neg (by simp [simA, h])]
    simp [simA, h]
  · have hp := ptOf_is h
    have hc := countIn_le e.cnt l cyc
    by_cases hpp : p = e.cnt
    · have e1 : (simA e l cyc).pt ≠ -1 ∧ p = (simA e l cyc).pt ∧ (simA e l cyc).n < 1000 := by
        refine ⟨h, ?_, ?_⟩
        · simp [simA, hp, hpp]
        · simp only [simA, if_neg h]; omega
      rw [if_pos e1]
      simp only [simA, if_neg h, countIn_snoc, hpp, and_self, if_true]
    · rw [if_neg (by simp only [simA]; rw [hp]; exact fun x => hpp x.2.1)]
      simp only [simA, if_neg h, countIn_snoc]
      rw [if_neg (fun x => hpp x.2)]
      rfl
theorem simA_end {e : EntD} {l : List MkD} {cyc : Int} (h : ∀ m ∈ l, m.cyc ≤ cyc) : (simA e l cyc).zero = simA e l (cyc + 1) := by
  unfold ASt.zero simA
  rw [countIn_next (cyc := cyc + 1) (fun m hm => by have := h m hm; omega)]
  simp
/-- The three watches' verdict is the document's. -/
def kindW (a : ASt) (g : GSt) (f : FSt) (whole : Bool) : Int := if a.well whole = false then 1 else if g.bad = true then 2 else if f.bad = true then 3 else 0
theorem kind_sim {e : EntD} {l : List MkD} {cyc : Int} (hc : e.cnt < (e.pts.length : Int)) : kindW (simA e l cyc) (simG e.gaps l cyc) (simF e l cyc) (decide (0 < cyc)) = kindL e l cyc := by
  unfold kindW kindL
  have e1 : ((simA e l cyc).well (decide (0 < cyc)) = false) ↔ (0 ≤ e.cnt ∧ 0 < cyc ∧ ((countIn e.cnt l cyc : Int) < e.mn ∨ e.mx < (countIn e.cnt l cyc : Int))) := by
    unfold ASt.well
    by_cases h : 0 ≤ e.cnt
    · have hp : ptOf e.cnt e.pts.length = e.cnt := by unfold ptOf; rw [if_neg (by omega)]
      have hn : ¬ e.cnt = -1 := by omega
      simp only [simA, hp, if_neg hn]
      generalize ((countIn e.cnt l cyc : Nat) : Int) = n
      by_cases a1 : e.mn ≤ n <;> by_cases a2 : n ≤ e.mx <;> by_cases a3 : 0 < cyc <;> simp [a1, a2, a3, hn, h] <;> omega
    · have hp : ptOf e.cnt e.pts.length = -1 := by unfold ptOf; rw [if_pos (by omega)]
      simp [simA, hp]
      omega
  by_cases h1 : (0 ≤ e.cnt ∧ 0 < cyc ∧ ((countIn e.cnt l cyc : Int) < e.mn ∨ e.mx < (countIn e.cnt l cyc : Int)))
  · rw [if_pos h1, if_pos (e1.2 h1)]
  · rw [if_neg h1, if_neg (fun x => h1 (e1.1 x))]
    rfl
/-- An entity as the document keeps it. -/
structure LSt where
  act : Bool
  since : Int
  ms : List MkD
  run : Int
  ex : Bool
def LSt.new : LSt := ⟨false, 0, [], 0, false⟩
/-- Begin, Stop: an error's number, what is behind. -/
def LSt.begin (s : LSt) : LSt := if s.act then s else ⟨true, 0, [], 0, false⟩
def LSt.stop (s : LSt) : LSt := { s with act := false }
def LSt.rep (e : EntD) (s : LSt) (p t : Int) : LSt := if s.act ∧ hasP e p = true then { s with ms := s.ms ++ [⟨p, t, s.since⟩] } else s
def LSt.run1 (e : EntD) (s : LSt) : Int := if kindL e s.ms s.since = 0 then 0 else s.run + 1
def LSt.turns (e : EntD) (s : LSt) : Bool := s.act && (!s.ex && decide (e.tol < s.run1 e))
def LSt.fin (e : EntD) (s : LSt) : LSt := if s.act then ⟨true, s.since + 1, s.ms, s.run1 e, s.ex || decide (e.tol < s.run1 e)⟩ else s
def LSt.kind (e : EntD) (s : LSt) : Int := if s.act then kindL e s.ms s.since else 0
/-- The status: 0 idle, 1 ok, 2 failed, 3 expired. -/
def LSt.status (s : LSt) : Nat := if s.act then (if s.ex then 3 else if 0 < s.run then 2 else 1) else 0
/-- What is always so. -/
structure LFit (s : LSt) (k : Nat) : Prop where
  len : s.ms.length ≤ k
  each : ∀ m ∈ s.ms, m.cyc ≤ s.since
  s0 : 0 ≤ s.since
  s1 : s.since ≤ (k : Int)
  r0 : 0 ≤ s.run
  r1 : s.run ≤ s.since
theorem LFit.new : LFit LSt.new 0 := ⟨Nat.le_refl _, fun m hm => (by cases hm), Int.le_refl _, Int.le_refl _, Int.le_refl _, Int.le_refl _⟩
theorem LFit.mono {s : LSt} {k n : Nat} (h : LFit s k) (hn : k ≤ n) : LFit s n := ⟨Nat.le_trans h.len hn, h.each, h.s0, by have := h.s1; omega, h.r0, h.r1⟩
theorem LFit.begin {s : LSt} {k : Nat} (h : LFit s k) : LFit s.begin (k + 1) := by
  unfold LSt.begin
  split
  · exact h.mono (by omega)
  · exact ⟨Nat.zero_le _, fun m hm => (by cases hm), Int.le_refl _, by simp; omega, Int.le_refl _, Int.le_refl _⟩
theorem LFit.stop {s : LSt} {k : Nat} (h : LFit s k) : LFit s.stop (k + 1) := ⟨Nat.le_trans h.len (by omega), h.each, h.s0, by have := h.s1; show s.since ≤ _; push_cast; omega, h.r0, h.r1⟩
theorem LFit.rep {e : EntD} {s : LSt} {k : Nat} (h : LFit s k) (p t : Int) : LFit (s.rep e p t) (k + 1) := by
  unfold LSt.rep
  split
  · refine ⟨by have := h.len; simp; omega, fun m hm => ?_, h.s0, by have := h.s1; show s.since ≤ _; push_cast; omega, h.r0, h.r1⟩
    rw [List.mem_append] at hm
    rcases hm with hm | hm
    · exact h.each m hm
    · rw [List.mem_singleton] at hm; subst hm; exact Int.le_refl _
  · exact h.mono (by omega)
theorem LFit.fin {e : EntD} {s : LSt} {k : Nat} (h : LFit s k) : LFit (s.fin e) (k + 1) := by
  unfold LSt.fin
  split
  · have h1 := h.r0
    have h2 := h.r1
    have h3 := h.s0
    have hr : 0 ≤ s.run1 e ∧ s.run1 e ≤ s.since + 1 := by unfold LSt.run1; split <;> omega
    refine ⟨Nat.le_trans h.len (by omega), fun m hm => by have := h.each m hm; show m.cyc ≤ s.since + 1; omega, by show 0 ≤ s.since + 1; omega, by have := h.s1; show s.since + 1 ≤ _; push_cast; omega, hr.1, hr.2⟩
  · exact h.mono (by omega)
end Go.Proofs.YtdpdbfhbojgigacGreatDoor
