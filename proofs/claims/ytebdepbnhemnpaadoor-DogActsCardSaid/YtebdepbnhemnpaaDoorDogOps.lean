/-
  Package dog, the functions that change a dog (and Open), told by contracts over the object in memory ('DogAt'). Conditions: the object's block lies behind the package variables; the sentinels are in memory ('Senv').
-/
import Derived.Test.YtebdepbnhemnpaaDoorDogSt
namespace Go.Proofs.YtebdepbnhemnpaaDoor
open Go.RowKit Go.Extern.Stop Go.Stop Go.Extern

theorem dog_open (b : Nat) (d : DSt) (w : World) (h : DogAt w b d) :
    Calls Tryd.prog 44 #[.pointer (some ⟨b, 0, none⟩)] w fun e w' => e = .returned (.bool d.isOpen) ∧ ∃ q, w' = w.drewN q := by
  have c0 := h.c0
  have c5 := h.c5
  cases hr : d.reset
  · rw [hr] at c5
    have E : Hid (d.isOpen = decide (d.closed < d.now - d.begun)) := by
      show _ = _
      unfold DSt.isOpen
      rw [hr]
      simp only [Bool.not_false, Bool.true_and]
    go_enter Tryd.func44, Tryd.ntmps44
    go_wp2_with fail
    go_quiet (first | (go_at_call 67; exact Calls.quiet_of (dog_behind _ _ _ (h.drewN _))))
    go_wp2
    go_ret
    rw [E.out]
    exact ⟨rfl, _, rfl⟩
  · rw [hr] at c5
    have E : Hid (d.isOpen = false) := by
      show _ = _
      unfold DSt.isOpen
      rw [hr]
      rfl
    go_enter Tryd.func44, Tryd.ntmps44
    go_wp2_with fail
    go_quiet (fail)
    go_wp2
    go_ret
    rw [E.out]
    exact ⟨rfl, _, rfl⟩

/-- What a run that only writes comes to. -/
theorem goodRun.skipped {P : Program} {S : Nat → Value → World → Prop} {C : World → Prop} {i : Nat} {w w' : World} {r : Result Next} (hr : r = .ok .skip w') (hC : C w') (hK : ∀ j v, S j v w → S j v w') (hS : S i undef w') : goodRun P S C i w r := by
  subst hr; exact ⟨hC, hK, hS⟩

theorem dog_tick_reset (A : Nat → Addr) (b : Nat) (d : DSt) (w : World) (h : DogAt w b d) (hs : Senv A w) (hr : d.reset = true) :
    Calls Tryd.prog 45 #[.pointer (some ⟨b, 0, none⟩)] w fun e w' => e = .returned (errVal A 11) ∧ w' = w := by
  have c5 := h.c5
  have g := hs.c10
  rw [hr] at c5
  go_enter Tryd.func45, Tryd.ntmps45
  go_wp2
  go_ret
  exact ⟨rfl, rfl⟩

def DSt.tickR (d : DSt) (r : Bool) : DSt := ⟨d.closed, d.opn, d.now + 1, d.begun, d.kicks, r⟩
/-- What each operation of the statement that sets 'reset' yields. -/
def tickS (b : Nat) (d : DSt) : Nat → Value → World → Prop
  | 0 => fun v _ => v = .pointer (some ⟨b, 0, none⟩)
  | 1 => fun v _ => v = .pointer (some ⟨b, 0, none⟩)
  | 2 => fun v _ => v = .int .i64 ((d.now + 1 - d.begun : Nat) : Int)
  | 3 => fun v _ => v = .pointer (some ⟨b, 0, none⟩)
  | 4 => fun v _ => v = .pointer (some ⟨b, 0, none⟩)
  | 5 => fun v _ => v = .pointer (some ⟨b, 0, none⟩)
  | 6 => fun v _ => v = .int .i64 (d.closed : Int)
  | 7 => fun v _ => v = .pointer (some ⟨b, 0, none⟩)
  | 8 => fun v _ => v = .pointer (some ⟨b, 0, none⟩)
  | 9 => fun v _ => v = .pointer (some ⟨b, 1, none⟩)
  | 10 => fun v _ => v = .int .i64 (d.opn : Int)
  | 11 => fun v _ => v = .int .i64 ((d.closed + d.opn : Nat) : Int)
  | 12 => fun v _ => v = .bool (decide (d.closed + d.opn < d.now + 1 - d.begun))
  | 13 => fun v _ => v = .pointer (some ⟨b, 0, none⟩)
  | 14 => fun v _ => v = .pointer (some ⟨b, 5, none⟩)
  | 15 => fun _ w => DogAt w b d.tick
  | _ => fun _ _ => True
theorem tickS_keeps {b : Nat} {d : DSt} {w w' : World} (hb : DogAt w b d.tick → DogAt w' b d.tick) : ∀ j v, tickS b d j v w → tickS b d j v w' := by
  intro j v h
  match j, h with
  | 0, h => exact h
  | 1, h => exact h
  | 2, h => exact h
  | 3, h => exact h
  | 4, h => exact h
  | 5, h => exact h
  | 6, h => exact h
  | 7, h => exact h
  | 8, h => exact h
  | 9, h => exact h
  | 10, h => exact h
  | 11, h => exact h
  | 12, h => exact h
  | 13, h => exact h
  | 14, h => exact h
  | 15, h => exact hb h
  | n + 16, h => exact h

set_option maxHeartbeats 1000000 in
set_option maxRecDepth 20000 in
theorem dog_tick (b : Nat) (d : DSt) (w : World) (h : DogAt w b d) (hr : d.reset = false) (hlt : d.now < 1099511627776) :
    Calls Tryd.prog 45 #[.pointer (some ⟨b, 0, none⟩)] w fun e w' => e = .returned .nilIface ∧ DogAt w' b d.tick ∧ w.grownBy w' (some b) := by
  have c5 := h.c5
  have c2 := h.c2
  have f2 := h.frozen 2
  have hc := h.hc
  have ho := h.ho
  rw [hr] at c5
  have g1 : ¬ 1099511627776 ≤ (d.now : Int) := by omega
  have wr : IntKind.i64.wrap ((d.closed : Int) + (d.opn : Int)) = ((d.closed + d.opn : Nat) : Int) := by rw [IntKind.wrap_i64]; omega
  have e1 : ((d.now + 1 : Nat) : Int) = (d.now : Int) + 1 := by omega
  have hT : DogAt (w.setCell ⟨b, 2, none⟩ (.int .i64 ((d.now : Int) + 1))) b (d.tickR d.reset) := by
    rw [← e1]
    exact h.set 2 _ rfl h.hc h.ho h.hk (Nat.le_succ_of_le h.hb) hlt
  have HT : Hid _ := hT
  clear hT h hlt e1
  go_enter Tryd.func45, Tryd.ntmps45
  go_upto_region 6 with fail
  refine region_spec 16 rfl (tickS b d) (fun w' => w.grownBy w' (some b) ∧ ∃ r, DogAt w' b (d.tickR r)) (by kernel_rfl) (by kernel_rfl) ⟨grown_drewN (grown_set (grown_refl _ _) _ _) 1, _, HT.out.drew⟩ ?_ ?_
  · intro i o ho
    match i, ho with
    | 0, ho =>
      obtain rfl := Option.some.inj ho
      refine StepOk.free rfl ?_
      intro a w hC hdep hoth
      have x0 : a.tmps[0]?.getD undef = .pointer (some ⟨b, 0, none⟩) := slot_of (hoth 0 (notDst (by kernel_rfl)))
      exact goodRun.val (c := .pointer (some ⟨b, 0, none⟩)) (by clear hdep hoth; go_simp) hC rfl
    | 1, ho =>
      obtain rfl := Option.some.inj ho
      refine StepOk.free rfl ?_
      intro a w hC hdep hoth
      have x0 : a.tmps[0]?.getD undef = .pointer (some ⟨b, 0, none⟩) := slot_of (hoth 0 (notDst (by kernel_rfl)))
      exact goodRun.val (c := .pointer (some ⟨b, 0, none⟩)) (by clear hdep hoth; go_simp) hC rfl
    | 2, ho =>
      obtain rfl := Option.some.inj ho
      refine StepOk.free rfl ?_
      intro a w hC hdep hoth
      have x22 : a.tmps[22]?.getD undef = .pointer (some ⟨b, 0, none⟩) := slot_of (hdep _ 22 (Array.mem_of_getElem? (i := 0) rfl) rfl rfl)
      obtain ⟨r, hr⟩ := hC.2
      refine goodRun.call (f := 67) (args := #[.pointer (some ⟨b, 0, none⟩)]) (by clear hdep hoth; go_simp) ?_
      refine (dog_behind _ _ _ hr).mono ?_
      rintro e w' ⟨rfl, q, rfl⟩
      exact ⟨_, rfl, ⟨grown_drewN hC.1 _, r, hr.drewN _⟩, tickS_keeps (fun h => h.drewN _), rfl⟩
    | 3, ho =>
      obtain rfl := Option.some.inj ho
      refine StepOk.free rfl ?_
      intro a w hC hdep hoth
      have x0 : a.tmps[0]?.getD undef = .pointer (some ⟨b, 0, none⟩) := slot_of (hoth 0 (notDst (by kernel_rfl)))
      exact goodRun.val (c := .pointer (some ⟨b, 0, none⟩)) (by clear hdep hoth; go_simp) hC rfl
    | 4, ho =>
      obtain rfl := Option.some.inj ho
      refine StepOk.free rfl ?_
      intro a w hC hdep hoth
      have x24 : a.tmps[24]?.getD undef = .pointer (some ⟨b, 0, none⟩) := slot_of (hdep _ 24 (Array.mem_of_getElem? (i := 0) rfl) rfl rfl)
      exact goodRun.val (c := .pointer (some ⟨b, 0, none⟩)) (by clear hdep hoth; go_simp) hC rfl
    | 5, ho =>
      obtain rfl := Option.some.inj ho
      refine StepOk.free rfl ?_
      intro a w hC hdep hoth
      have x25 : a.tmps[25]?.getD undef = .pointer (some ⟨b, 0, none⟩) := slot_of (hdep _ 25 (Array.mem_of_getElem? (i := 0) rfl) rfl rfl)
      exact goodRun.val (c := .pointer (some ⟨b, 0, none⟩)) (by clear hdep hoth; go_simp) hC rfl
    | 6, ho =>
      obtain rfl := Option.some.inj ho
      refine StepOk.free rfl ?_
      intro a w hC hdep hoth
      have x26 : a.tmps[26]?.getD undef = .pointer (some ⟨b, 0, none⟩) := slot_of (hdep _ 26 (Array.mem_of_getElem? (i := 0) rfl) rfl rfl)
      obtain ⟨r, hr⟩ := hC.2
      have c : w.cell? ⟨b, 0, none⟩ = some (.int .i64 (d.closed : Int)) := hr.c0
      exact goodRun.val (c := .int .i64 (d.closed : Int)) (by clear hdep hoth; go_simp) hC rfl
    | 7, ho =>
      obtain rfl := Option.some.inj ho
      refine StepOk.free rfl ?_
      intro a w hC hdep hoth
      have x0 : a.tmps[0]?.getD undef = .pointer (some ⟨b, 0, none⟩) := slot_of (hoth 0 (notDst (by kernel_rfl)))
      exact goodRun.val (c := .pointer (some ⟨b, 0, none⟩)) (by clear hdep hoth; go_simp) hC rfl
    | 8, ho =>
      obtain rfl := Option.some.inj ho
      refine StepOk.free rfl ?_
      intro a w hC hdep hoth
      have x28 : a.tmps[28]?.getD undef = .pointer (some ⟨b, 0, none⟩) := slot_of (hdep _ 28 (Array.mem_of_getElem? (i := 0) rfl) rfl rfl)
      exact goodRun.val (c := .pointer (some ⟨b, 0, none⟩)) (by clear hdep hoth; go_simp) hC rfl
    | 9, ho =>
      obtain rfl := Option.some.inj ho
      refine StepOk.free rfl ?_
      intro a w hC hdep hoth
      have x29 : a.tmps[29]?.getD undef = .pointer (some ⟨b, 0, none⟩) := slot_of (hdep _ 29 (Array.mem_of_getElem? (i := 0) rfl) rfl rfl)
      exact goodRun.val (c := .pointer (some ⟨b, 1, none⟩)) (by clear hdep hoth; go_simp) hC rfl
    | 10, ho =>
      obtain rfl := Option.some.inj ho
      refine StepOk.free rfl ?_
      intro a w hC hdep hoth
      have x30 : a.tmps[30]?.getD undef = .pointer (some ⟨b, 1, none⟩) := slot_of (hdep _ 30 (Array.mem_of_getElem? (i := 0) rfl) rfl rfl)
      obtain ⟨r, hr⟩ := hC.2
      have c : w.cell? ⟨b, 1, none⟩ = some (.int .i64 (d.opn : Int)) := hr.c1
      exact goodRun.val (c := .int .i64 (d.opn : Int)) (by clear hdep hoth; go_simp) hC rfl
    | 11, ho =>
      obtain rfl := Option.some.inj ho
      refine StepOk.free rfl ?_
      intro a w hC hdep hoth
      have x27 : a.tmps[27]?.getD undef = .int .i64 (d.closed : Int) := slot_of (hdep _ 27 (Array.mem_of_getElem? (i := 0) rfl) rfl rfl)
      have x31 : a.tmps[31]?.getD undef = .int .i64 (d.opn : Int) := slot_of (hdep _ 31 (Array.mem_of_getElem? (i := 1) rfl) rfl rfl)
      exact goodRun.val (c := .int .i64 ((d.closed + d.opn : Nat) : Int)) (by clear hdep hoth; go_simp) hC rfl
    | 12, ho =>
      obtain rfl := Option.some.inj ho
      refine StepOk.free rfl ?_
      intro a w hC hdep hoth
      have x23 : a.tmps[23]?.getD undef = .int .i64 ((d.now + 1 - d.begun : Nat) : Int) := slot_of (hdep _ 23 (Array.mem_of_getElem? (i := 0) rfl) rfl rfl)
      have x32 : a.tmps[32]?.getD undef = .int .i64 ((d.closed + d.opn : Nat) : Int) := slot_of (hdep _ 32 (Array.mem_of_getElem? (i := 1) rfl) rfl rfl)
      exact goodRun.val (c := .bool (decide (d.closed + d.opn < d.now + 1 - d.begun))) (by clear hdep hoth; go_simp; omega) hC rfl
    | 13, ho =>
      obtain rfl := Option.some.inj ho
      refine StepOk.free rfl ?_
      intro a w hC hdep hoth
      have x21 : a.tmps[21]?.getD undef = .pointer (some ⟨b, 0, none⟩) := slot_of (hdep _ 21 (Array.mem_of_getElem? (i := 0) rfl) rfl rfl)
      exact goodRun.val (c := .pointer (some ⟨b, 0, none⟩)) (by clear hdep hoth; go_simp) hC rfl
    | 14, ho =>
      obtain rfl := Option.some.inj ho
      refine StepOk.free rfl ?_
      intro a w hC hdep hoth
      have x34 : a.tmps[34]?.getD undef = .pointer (some ⟨b, 0, none⟩) := slot_of (hdep _ 34 (Array.mem_of_getElem? (i := 0) rfl) rfl rfl)
      exact goodRun.val (c := .pointer (some ⟨b, 5, none⟩)) (by clear hdep hoth; go_simp) hC rfl
    | 15, ho =>
      obtain rfl := Option.some.inj ho
      refine StepOk.free rfl ?_
      intro a w hC hdep hoth
      have x35 : a.tmps[35]?.getD undef = .pointer (some ⟨b, 5, none⟩) := slot_of (hdep _ 35 (Array.mem_of_getElem? (i := 0) rfl) rfl rfl)
      have x33 : a.tmps[33]?.getD undef = .bool (decide (d.closed + d.opn < d.now + 1 - d.begun)) := slot_of (hdep _ 33 (Array.mem_of_getElem? (i := 1) rfl) rfl rfl)
      obtain ⟨r, hr⟩ := hC.2
      have c5 : w.cell? ⟨b, 5, none⟩ = some (.bool r) := hr.c5
      have f5 := hr.frozen 5
      have hT : DogAt (w.setCell ⟨b, 5, none⟩ (.bool (decide (d.closed + d.opn < d.now + 1 - d.begun)))) b d.tick := hr.set 5 _ rfl hr.hc hr.ho hr.hk hr.hb hr.hn
      exact goodRun.skipped (w' := w.setCell ⟨b, 5, none⟩ (.bool (decide (d.closed + d.opn < d.now + 1 - d.begun)))) (by clear hdep hoth hT; go_simp) ⟨grown_set hC.1 _ _, _, hT⟩ (tickS_keeps (fun _ => hT)) hT
    | n + 16, ho => simp at ho
  · intro vals w5 hC hS
    have hT : DogAt w5 b d.tick := hS 15 (by decide)
    have hg := hC.1
    clear hS hC HT
    simp only [fill, dstOf]
    go_simp
    go_wp2
    go_ret
    exact ⟨rfl, hT, hg⟩

theorem dog_kick (b : Nat) (d : DSt) (w : World) (h : DogAt w b d) (ho : d.isOpen = true) :
    Calls Tryd.prog 47 #[.pointer (some ⟨b, 0, none⟩)] w fun e w' => e = .returned .nilIface ∧ DogAt w' b d.kick ∧ w.grownBy w' (some b) := by
  have hk := h.hk
  have hb := h.hb
  have hn := h.hn
  have hlt : d.kicks < d.now := by
    unfold DSt.isOpen at ho
    simp only [Bool.and_eq_true, decide_eq_true_eq] at ho
    omega
  have HO : Hid (d.isOpen = true) := ho
  have h1 : ∀ q, DogAt ((w.drewN q).setCell ⟨b, 3, none⟩ (.int .i64 (d.now : Int))) b { d with begun := d.now } := fun q => (h.drewN q).set 3 _ rfl h.hc h.ho (Nat.le_trans h.hk h.hb) (Nat.le_refl _) h.hn
  have h2 : ∀ q, DogAt (((w.drewN q).setCell ⟨b, 3, none⟩ (.int .i64 (d.now : Int))).setCell ⟨b, 4, none⟩ (.int .i64 ((d.kicks : Int) + 1))) b d.kick := fun q => by
    have e : ((d.kicks + 1 : Nat) : Int) = (d.kicks : Int) + 1 := by omega
    rw [← e]
    exact (h1 q).set 4 _ rfl h.hc h.ho (show d.kicks + 1 ≤ d.now by omega) (Nat.le_refl _) h.hn
  have c2 := h.c2
  have c3 := h.c3
  have c4 := h.c4
  have f3 := h.frozen 3
  have f4 := h.frozen 4
  have H1 : Hid _ := h1
  have H2 : Hid _ := h2
  clear h1 h2 ho
  go_enter Tryd.func47, Tryd.ntmps47
  go_wp2_with fail
  refine (dog_open _ _ _ h).mono ?_
  rintro e w1 ⟨rfl, q, rfl⟩
  rw [HO.out]
  clear h
  go_wp2
  go_ret
  exact ⟨rfl, H2.out q, grown_set (grown_set (grown_drewN (grown_refl _ _) _) _ _) _ _⟩

theorem dog_kick_bad (A : Nat → Addr) (b : Nat) (d : DSt) (w : World) (h : DogAt w b d) (hs : Senv A w) (hb : 12 ≤ b) (ho : d.isOpen = false) :
    Calls Tryd.prog 47 #[.pointer (some ⟨b, 0, none⟩)] w fun e w' => e = .returned (errVal A 11) ∧ DogAt w' b d.bad ∧ w.grownBy w' (some b) := by
  have g := hs.c10
  have HO : Hid (d.isOpen = false) := ho
  have c5 := h.c5
  have f5 := h.frozen 5
  have hne : ¬ b = 10 := by omega
  have h1 : ∀ q, DogAt ((w.drewN q).setCell ⟨b, 5, none⟩ (.bool true)) b d.bad := fun q => (h.drewN q).set 5 _ rfl h.hc h.ho h.hk h.hb h.hn
  have H1 : Hid _ := h1
  clear h1 ho
  go_enter Tryd.func47, Tryd.ntmps47
  go_wp2_with fail
  refine (dog_open _ _ _ h).mono ?_
  rintro e w1 ⟨rfl, q, rfl⟩
  rw [HO.out]
  clear h
  go_wp2
  go_ret
  exact ⟨rfl, H1.out q, grown_set (grown_drewN (grown_refl _ _) _) _ _⟩

theorem dog_start (b : Nat) (d : DSt) (w : World) (h : DogAt w b d) :
    Calls Tryd.prog 49 #[.pointer (some ⟨b, 0, none⟩)] w fun e w' => e = .returned (.tuple #[]) ∧ DogAt w' b d.start ∧ w.grownBy w' (some b) := by
  have c2 := h.c2
  have c3 := h.c3
  have c5 := h.c5
  have f3 := h.frozen 3
  have f5 := h.frozen 5
  have hk := Nat.le_trans h.hk h.hb
  have R1 : DogAt ((w.setCell ⟨b, 3, none⟩ (.int .i64 (d.now : Int))).setCell ⟨b, 5, none⟩ (.bool false)) b d.start := (h.set (d' := { d with begun := d.now }) 3 _ rfl h.hc h.ho hk (Nat.le_refl _) h.hn).set 5 _ rfl h.hc h.ho hk (Nat.le_refl _) h.hn
  have H1 : Hid _ := R1
  clear R1 h hk
  go_enter Tryd.func49, Tryd.ntmps49
  go_wp2
  go_end0
  exact ⟨rfl, H1.out, grown_set (grown_set (grown_refl _ _) _ _) _ _⟩
end Go.Proofs.YtebdepbnhemnpaaDoor
