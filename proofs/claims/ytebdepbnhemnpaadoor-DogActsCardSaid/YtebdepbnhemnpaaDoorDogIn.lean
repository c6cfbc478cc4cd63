/-
  A dog of the law's own, in memory behind all that was there ('DogIn'): its functions once more; nightwatchlaw1.barks told by a contract: it answers true. Condition: the sentinels are in memory ('Senv').
-/
import Derived.Test.YtebdepbnhemnpaaDoorDogOps
namespace Go.Proofs.YtebdepbnhemnpaaDoor
open Go.RowKit Go.Extern.Stop Go.Stop Go.Extern

structure DogIn (w0 w : World) (b : Nat) (d : DSt) : Prop where
  dog : DogAt w b d
  bel : Below w0.heap.size w0 w
  lo : w0.heap.size ≤ b
theorem DogIn.below {w0 w w' : World} {b : Nat} {d : DSt} (h : DogIn w0 w b d) (hb : Below w.heap.size w w') : DogIn w0 w' b d := ⟨h.dog.below hb, h.bel.trans (hb.mono h.bel.size), h.lo⟩
theorem DogIn.grown {w0 w w' : World} {b : Nat} {d d' : DSt} (h : DogIn w0 w b d) (hd : DogAt w' b d') (hg : w.grownBy w' (some b)) : DogIn w0 w' b d' := ⟨hd, below_grown h.bel hg h.bel.size h.lo, h.lo⟩
theorem DogIn.drewN {w0 w : World} {b : Nat} {d : DSt} (h : DogIn w0 w b d) (q : Nat) : DogIn w0 (w.drewN q) b d := ⟨h.dog.drewN q, below_drewN h.bel q, h.lo⟩

variable {w0 w : World} {b : Nat} {d : DSt}
theorem din_new (c o : Nat) (h0 : Below w0.heap.size w0 w) (h1 : c ≤ 1000) (h2 : 1 ≤ o) (h3 : o ≤ 1000) :
    Calls Tryd.prog 43 #[.int .i64 (c : Int), .int .i64 (o : Int)] w fun e w' => ∃ b, e = .returned (.tuple #[.pointer (some ⟨b, 0, none⟩), .nilIface]) ∧ b = w.heap.size ∧ DogIn w0 w' b (DSt.new c o) := by
  refine (dog_new c o w h1 h2 h3).mono ?_
  rintro e w' ⟨rfl, hb, hd⟩
  exact ⟨_, rfl, rfl, hd, h0.trans (hb.mono h0.size), h0.size⟩
theorem din_open {v : Bool} (h : DogIn w0 w b d) (hv : d.isOpen = v) :
    Calls Tryd.prog 44 #[.pointer (some ⟨b, 0, none⟩)] w fun e w' => e = .returned (.bool v) ∧ DogIn w0 w' b d := by
  refine (dog_open b d w h.dog).mono ?_
  rintro e w' ⟨rfl, q, rfl⟩
  exact ⟨by rw [hv], h.drewN q⟩
theorem din_reset {v : Bool} (h : DogIn w0 w b d) (hv : d.reset = v) :
    Calls Tryd.prog 46 #[.pointer (some ⟨b, 0, none⟩)] w fun e w' => e = .returned (.bool v) ∧ w' = w := by
  rw [← hv]; exact dog_reset b d w h.dog
theorem din_now {v : Int} (h : DogIn w0 w b d) (hv : (d.now : Int) = v) :
    Calls Tryd.prog 53 #[.pointer (some ⟨b, 0, none⟩)] w fun e w' => e = .returned (.int .i64 v) ∧ w' = w := by
  rw [← hv]; exact dog_now b d w h.dog
theorem din_kicks {v : Int} (h : DogIn w0 w b d) (hv : (d.kicks : Int) = v) :
    Calls Tryd.prog 48 #[.pointer (some ⟨b, 0, none⟩)] w fun e w' => e = .returned (.int .i64 v) ∧ w' = w := by
  rw [← hv]; exact dog_kicks b d w h.dog
theorem din_tick {d' : DSt} (h : DogIn w0 w b d) (hr : d.reset = false) (hlt : d.now < 1099511627776) (hd : d.tick = d') :
    Calls Tryd.prog 45 #[.pointer (some ⟨b, 0, none⟩)] w fun e w' => e = .returned .nilIface ∧ DogIn w0 w' b d' := by
  subst hd
  refine (dog_tick b d w h.dog hr hlt).mono ?_
  rintro e w' ⟨rfl, h1, h2⟩
  exact ⟨rfl, h.grown h1 h2⟩
theorem din_tick_bad {A : Nat → Addr} (hs : Senv A w0) (h : DogIn w0 w b d) (hr : d.reset = true) :
    Calls Tryd.prog 45 #[.pointer (some ⟨b, 0, none⟩)] w fun e w' => e = .returned (errVal A 11) ∧ w' = w :=
  dog_tick_reset A b d w h.dog (hs.below h.bel) hr
theorem din_kick {d' : DSt} (h : DogIn w0 w b d) (ho : d.isOpen = true) (hd : d.kick = d') :
    Calls Tryd.prog 47 #[.pointer (some ⟨b, 0, none⟩)] w fun e w' => e = .returned .nilIface ∧ DogIn w0 w' b d' := by
  subst hd
  refine (dog_kick b d w h.dog ho).mono ?_
  rintro e w' ⟨rfl, h1, h2⟩
  exact ⟨rfl, h.grown h1 h2⟩
theorem din_kick_bad {A : Nat → Addr} {d' : DSt} (hs : Senv A w0) (h : DogIn w0 w b d) (ho : d.isOpen = false) (hd : d.bad = d') :
    Calls Tryd.prog 47 #[.pointer (some ⟨b, 0, none⟩)] w fun e w' => e = .returned (errVal A 11) ∧ DogIn w0 w' b d' := by
  subst hd
  refine (dog_kick_bad A b d w h.dog (hs.below h.bel) (Nat.le_trans hs.gm h.lo) ho).mono ?_
  rintro e w' ⟨rfl, h1, h2⟩
  exact ⟨rfl, h.grown h1 h2⟩
theorem din_start {d' : DSt} (h : DogIn w0 w b d) (hd : d.start = d') :
    Calls Tryd.prog 49 #[.pointer (some ⟨b, 0, none⟩)] w fun e w' => e = .returned (.tuple #[]) ∧ DogIn w0 w' b d' := by
  subst hd
  refine (dog_start b d w h.dog).mono ?_
  rintro e w' ⟨rfl, h1, h2⟩
  exact ⟨rfl, h.grown h1 h2⟩
/-- coded(the error of number j, j). -/
theorem din_coded {A : Nat → Addr} (j : Nat) (hs : Senv A w0) (h : DogIn w0 w b d) (hj : j < 11) :
    Calls Tryd.prog 15 #[errVal A (j + 1), .int .i64 ((j : Int) + 1)] w fun e w' => e = .returned (.bool true) ∧ DogIn w0 w' b d := by
  refine (coded_sent A j ((j : Int) + 1) w (hs.below h.bel) hj).mono ?_
  rintro e w' ⟨rfl, hb⟩
  exact ⟨by simp, h.below hb⟩

set_option maxHeartbeats 1000000 in
theorem barks_any (A : Nat → Addr) (w : World) (hs : Senv A w) :
    Calls Tryd.prog 42 #[] w fun e w' => e = .returned (.bool true) ∧ Below w.heap.size w w' := by
  go_enter Tryd.func42, Tryd.ntmps42
  go_wp2_with fail
  refine (din_new 1 1 (Below.refl w.heap.size w) (by decide) (by decide) (by decide)).mono ?_
  rintro e w1 ⟨b, rfl, -, D1⟩
  go_wp2_with fail
  refine (din_open (v := false) D1 rfl).mono ?_
  rintro e w2 ⟨rfl, D2⟩
  go_wp2_with fail
  refine (din_tick (d' := ⟨1, 1, 1, 0, 0, false⟩) D2 rfl (by decide) rfl).mono ?_
  rintro e w3 ⟨rfl, D3⟩
  go_wp2_with fail
  refine (din_open (v := false) D3 rfl).mono ?_
  rintro e w4 ⟨rfl, D4⟩
  go_wp2_with fail
  refine (din_tick (d' := ⟨1, 1, 2, 0, 0, false⟩) D4 rfl (by decide) rfl).mono ?_
  rintro e w5 ⟨rfl, D5⟩
  go_wp2_with fail
  refine (din_open (v := true) D5 rfl).mono ?_
  rintro e w6 ⟨rfl, D6⟩
  go_wp2_with fail
  refine (din_tick (d' := ⟨1, 1, 3, 0, 0, true⟩) D6 rfl (by decide) rfl).mono ?_
  rintro e w7 ⟨rfl, D7⟩
  go_wp2_with fail
  refine (din_reset (v := true) D7 rfl).mono ?_
  rintro e w8 ⟨rfl, rfl⟩
  go_wp2_with fail
  refine (din_kick_bad (d' := ⟨1, 1, 3, 0, 0, true⟩) hs D7 rfl rfl).mono ?_
  rintro e w9 ⟨rfl, D9⟩
  unfold errVal
  go_wp2_with fail
  refine (din_coded 10 hs D9 (by decide)).mono ?_
  rintro e w10 ⟨rfl, D10⟩
  go_wp2_with fail
  refine (din_now (v := 3) D10 rfl).mono ?_
  rintro e w11 ⟨rfl, rfl⟩
  go_wp2
  go_ret
  exact ⟨rfl, D10.bel⟩
end Go.Proofs.YtebdepbnhemnpaaDoor
