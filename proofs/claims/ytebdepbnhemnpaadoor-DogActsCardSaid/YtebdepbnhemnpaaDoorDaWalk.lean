/-
  nightwatchlaw1.DogActs told by a contract: it answers true; nothing that was there turns. Conditions: the sentinels are in memory ('Senv'); the list lies in memory, with at most three hundred acts.
-/
import Derived.Test.YtebdepbnhemnpaaDoorRefDog
import Derived.Test.YtebdepbnhemnpaaDoorWinWalk
namespace Go.Proofs.YtebdepbnhemnpaaDoor
open Go.RowKit Go.Extern.Stop Go.Stop Go.Extern

/-- The dog, and the document's: the same. -/
structure DogTwo (w0 w : World) (b m : Nat) (d : DSt) : Prop where
  din : DogIn w0 w b d
  mdog : MDogAt w m d
  ne : m ≠ b
  lo : w0.heap.size ≤ m
theorem DogTwo.below {w0 w w' : World} {b m : Nat} {d : DSt} (h : DogTwo w0 w b m d) (hb : Below w.heap.size w w') : DogTwo w0 w' b m d := ⟨h.din.below hb, h.mdog.below hb, h.ne, h.lo⟩
theorem DogTwo.drewN {w0 w : World} {b m : Nat} {d : DSt} (h : DogTwo w0 w b m d) (q : Nat) : DogTwo w0 (w.drewN q) b m d := ⟨h.din.drewN q, h.mdog.drewN q, h.ne, h.lo⟩
/-- Each has made the same step. -/
theorem DogTwo.step {w0 w w1 w2 : World} {b m : Nat} {d d' : DSt} (h : DogTwo w0 w b m d) (h1 : DogAt w1 b d') (g1 : w.grownBy w1 (some b)) (h2 : MDogAt w2 m d') (g2 : w1.grownBy w2 (some m)) : DogTwo w0 w2 b m d' :=
  ⟨⟨h1.other g2 (Ne.symm h.ne), below_grown (below_grown h.din.bel g1 h.din.bel.size h.din.lo) g2 (Nat.le_trans h.din.bel.size g1.size) h.lo, h.din.lo⟩, h2, h.ne, h.lo⟩

theorem heap_last (w : World) (a : Obj) : (w.alloc a).heap[w.heap.size]? = some a := by show (w.heap.push a)[w.heap.size]? = _; simp
/-- What a kick makes of both, and its number. -/
theorem two_kick (A : Nat → Addr) (b m : Nat) (d : DSt) (w0 : World) (hs : Senv A w0) :
    ∃ (d' : DSt) (j : Nat), (j = 0 ∨ j = 11) ∧ d'.now = d.now ∧
      (∀ w, DogTwo w0 w b m d → Calls Tryd.prog 47 #[.pointer (some ⟨b, 0, none⟩)] w fun e w' => e = .returned (errVal A j) ∧ DogAt w' b d' ∧ w.grownBy w' (some b)) ∧
      (∀ w, MDogAt w m d → Calls Tryd.prog 50 #[.pointer (some ⟨m, 0, none⟩)] w fun e w' => e = .returned (.int .i64 (j : Int)) ∧ MDogAt w' m d' ∧ w.grownBy w' (some m)) := by
  cases ho : d.isOpen
  · exact ⟨d.bad, 11, Or.inr rfl, rfl, fun w h => dog_kick_bad A b d w h.din.dog (hs.below h.din.bel) (Nat.le_trans hs.gm h.din.lo) ho, fun w h => mdog_kick_bad m d w h ho⟩
  · exact ⟨d.kick, 0, Or.inl rfl, rfl, fun w h => dog_kick b d w h.din.dog ho, fun w h => mdog_kick m d w h ho⟩
/-- What a tick makes of both, and its number. -/
theorem two_tick (A : Nat → Addr) (b m : Nat) (d : DSt) (w0 : World) (hs : Senv A w0) (hn : d.now < 1099511627776) :
    ∃ (d' : DSt) (j : Nat), (j = 0 ∨ j = 11) ∧ d'.now ≤ d.now + 1 ∧
      (∀ w, DogTwo w0 w b m d → Calls Tryd.prog 45 #[.pointer (some ⟨b, 0, none⟩)] w fun e w' => e = .returned (errVal A j) ∧ DogAt w' b d' ∧ w.grownBy w' (some b)) ∧
      (∀ w, MDogAt w m d → Calls Tryd.prog 51 #[.pointer (some ⟨m, 0, none⟩)] w fun e w' => e = .returned (.int .i64 (j : Int)) ∧ MDogAt w' m d' ∧ w.grownBy w' (some m)) := by
  cases hr : d.reset
  · exact ⟨d.tick, 0, Or.inl rfl, Nat.le_refl _, fun w h => dog_tick b d w h.din.dog hr hn, fun w h => mdog_tick m d w h hr hn⟩
  · exact ⟨d, 11, Or.inr rfl, Nat.le_succ _, fun w h => (dog_tick_reset A b d w h.din.dog (hs.below h.din.bel) hr).mono fun e w' ⟨h1, h2⟩ => by subst h2; exact ⟨h1, h.din.dog, grown_refl _ _⟩,
      fun w h => (mdog_tick_reset m d w h hr).mono fun e w' ⟨h1, h2⟩ => by subst h2; exact ⟨h1, h, grown_refl _ _⟩⟩
/-- coded(the error of number j, j). -/
theorem two_coded {A : Nat → Addr} {w0 w : World} {b m : Nat} {d : DSt} (j : Nat) (hj : j = 0 ∨ j = 11) (hs : Senv A w0) (h : DogTwo w0 w b m d) :
    Calls Tryd.prog 15 #[errVal A j, .int .i64 (j : Int)] w fun e w' => e = .returned (.bool true) ∧ DogTwo w0 w' b m d := by
  rcases hj with rfl | rfl
  · exact (coded_nil 0 w).mono fun e w' ⟨he, hw⟩ => by subst hw; exact ⟨he, h⟩
  · exact (coded_sent A 10 11 w (hs.below h.din.bel) (by decide)).mono fun e w' ⟨he, hb⟩ => ⟨he, h.below hb⟩

set_option maxRecDepth 100000 in
set_option maxHeartbeats 4000000 in
theorem dogActs_in (A : Nat → Addr) (c o : Nat) (sa : Option Addr) (g p len cap : Nat) (l : Nat → Int) (w : World) (hs : Senv A w) (h1 : c ≤ 1000) (h2 : 1 ≤ o) (h3 : o ≤ 1000) (hsa : 0 < len → sa = some ⟨g, p, none⟩) (hl : IntsAt w g p len l) (h300 : len ≤ 300) :
    Calls Tryd.prog 12 #[.int .i64 (c : Int), .int .i64 (o : Int), .slice sa len cap] w fun e w' => e = .returned (.bool true) ∧ Below w.heap.size w w' := by
  have g1 : ¬ (c : Int) < 0 := by omega
  have g2 : ¬ 1000 < (c : Int) := by omega
  have g3 : ¬ (o : Int) < 1 := by omega
  have g4 : ¬ 1000 < (o : Int) := by omega
  have g5 : ¬ 300 < (len : Int) := by omega
  go_enter Tryd.func12, Tryd.ntmps12
  go_wp2_with fail
  refine (barks_any A _ hs).mono ?_
  rintro e w1 ⟨rfl, hb1⟩
  go_wp2_with fail
  refine (din_new c o hb1 h1 h2 h3).mono ?_
  rintro e w2 ⟨b, rfl, -, D2⟩
  go_upto_region 9 with fail
  clear hb1 g5
  go_cut [10] (fun r wx => ∃ m, r = .pointer (some ⟨m, 0, none⟩) ∧ DogTwo w wx b m (DSt.new c o))
  case first =>
    have hblt := D2.dog.lt
    have hD := D2.below ((Below.refl w2.heap.size w2).alloc (Nat.le_refl _) (.cells (DSt.new c o).row 91))
    have hM : MDogAt (w2.alloc (.cells (DSt.new c o).row 91)) w2.heap.size (DSt.new c o) := ⟨heap_last w2 _, h1, h3, Nat.le_refl _, Nat.le_refl _, Nat.zero_le _⟩
    have hsz := D2.bel.size
    have HX : Hid (DogTwo w (w2.alloc (.cells (DSt.new c o).row 91)) b w2.heap.size (DSt.new c o)) := ⟨hD, hM, by omega, hsz⟩
    clear hD hM
    go_wp2_with fail
    go_meet
    case rel => exact ⟨_, rfl, HX.out⟩
  clear D2 g1 g2 g3 g4
  obtain ⟨m, rfl, D2⟩ := hcut
  go_wp2_with fail
  go_loopw [11] (fun i wr => ∃ (k : Nat) (d : DSt), k ≤ len ∧ d.now ≤ k ∧ i = .int .i64 k ∧ DogTwo w wr b m d) (fun i _ => len - (intOf i).toNat)
  case atStart => exact ⟨0, DSt.new c o, Nat.zero_le _, Nat.le_refl _, rfl, D2⟩
  case round =>
    clear D2
    obtain ⟨k, d, hk, hn, rfl, D⟩ := hrel
    by_cases hlt : k < len
    · obtain rfl := hsa (by omega)
      have c0 := (hl.below D.din.bel).at' k hlt
      have k0 : (0 : Int) ≤ (k : Int) := by omega
      have k1 : (k : Int) < (len : Int) := by omega
      generalize l k = x at *
      by_cases x1 : x = 1
      · subst x1
        obtain ⟨d', j, hj, hn', K1, K2⟩ := two_kick A b m d w hs
        have HK1 : Hid _ := K1
        have HK2 : Hid _ := K2
        clear K1 K2
        go_wp2_with fail
        refine (HK1.out _ D).mono ?_
        rintro e w3 ⟨rfl, X3, G3⟩
        go_wp2_with fail
        refine (HK2.out _ (D.mdog.other G3 D.ne)).mono ?_
        rintro e w4 ⟨rfl, X4, G4⟩
        have Y := D.step X3 G3 X4 G4
        clear X3 G3 X4 G4 D HK1 HK2 c0
        go_wp2_with fail
        refine (two_coded j hj hs Y).mono ?_
        rintro e w5 ⟨rfl, Y5⟩
        clear Y
        have Yd := Y5.din.dog
        have Ym := Y5.mdog
        have m2 := Ym.c2
        have m4 := Ym.c4
        have m5 := Ym.c5
        go_wp2_with fail
        go_quiet (first | (go_at_call 44; exact Calls.quiet_of (dog_open _ _ _ (Yd.drewN _))) | (go_at_call 52; exact Calls.quiet_of (mdog_open _ _ _ (Ym.drewN _))) | (go_at_call 46; exact Calls.quiet_of_same (dog_reset _ _ _ (Yd.drewN _))) | (go_at_call 53; exact Calls.quiet_of_same (dog_now _ _ _ (Yd.drewN _))) | (go_at_call 48; exact Calls.quiet_of_same (dog_kicks _ _ _ (Yd.drewN _))))
        clear m2 m4 m5 Yd Ym
        go_wp2_with fail
        go_roundw
        case rel => exact ⟨k + 1, d', by omega, by first | omega | (show (_ : Nat) ≤ _; exact Nat.le_succ_of_le hn) | exact Nat.succ_le_succ hn, by go_num, Y5.drewN _⟩
        case measure => simp [intOf]; omega
      by_cases x2 : x = 2
      · subst x2
        go_wp2_with fail
        refine (dog_start _ _ _ D.din.dog).mono ?_
        rintro e w3 ⟨rfl, X3, G3⟩
        have M3 := D.mdog.other G3 D.ne
        have m5' := M3.c5
        have m2' := M3.c2
        have m3' := M3.c3
        have mf5 := M3.frozen 5
        have mf3 := M3.frozen 3
        have hkk := Nat.le_trans M3.hk M3.hb
        have M4 : MDogAt ((w3.setCell ⟨m, 5, none⟩ (.bool false)).setCell ⟨m, 3, none⟩ (.int .i64 (d.now : Int))) m d.start := (M3.set (d' := { d with reset := false }) 5 _ rfl M3.hc M3.ho M3.hk M3.hb M3.hn).set 3 _ rfl M3.hc M3.ho hkk (Nat.le_refl _) M3.hn
        have Y5 := D.step X3 G3 M4 (grown_set (grown_set (grown_refl _ _) _ _) _ _)
        have HY : Hid _ := Y5
        clear Y5 M4 X3 D c0 M3
        go_upto_region 23 with fail
        clear m5' m2' m3' mf5 mf3
        have Y5 := HY.out
        clear HY
        generalize (w3.setCell ⟨m, 5, none⟩ (.bool false)).setCell ⟨m, 3, none⟩ (.int .i64 (d.now : Int)) = w5 at *
        have Yd := Y5.din.dog
        have Ym := Y5.mdog
        have m2 := Ym.c2
        have m4 := Ym.c4
        have m5 := Ym.c5
        go_wp2_with fail
        go_quiet (first | (go_at_call 44; exact Calls.quiet_of (dog_open _ _ _ (Yd.drewN _))) | (go_at_call 52; exact Calls.quiet_of (mdog_open _ _ _ (Ym.drewN _))) | (go_at_call 46; exact Calls.quiet_of_same (dog_reset _ _ _ (Yd.drewN _))) | (go_at_call 53; exact Calls.quiet_of_same (dog_now _ _ _ (Yd.drewN _))) | (go_at_call 48; exact Calls.quiet_of_same (dog_kicks _ _ _ (Yd.drewN _))))
        clear m2 m4 m5 Yd Ym
        go_wp2_with fail
        go_roundw
        case rel => exact ⟨k + 1, d.start, by omega, by first | omega | (show (_ : Nat) ≤ _; exact Nat.le_succ_of_le hn) | exact Nat.succ_le_succ hn, by go_num, Y5.drewN _⟩
        case measure => simp [intOf]; omega
      · have b1 : (x == 1) = false := by rw [beq_eq_false_iff_ne]; exact x1
        have b2 : (x == 2) = false := by rw [beq_eq_false_iff_ne]; exact x2
        obtain ⟨d', j, hj, hn', K1, K2⟩ := two_tick A b m d w hs (by omega)
        have HK1 : Hid _ := K1
        have HK2 : Hid _ := K2
        clear K1 K2
        go_wp2_with fail
        refine (HK1.out _ D).mono ?_
        rintro e w3 ⟨rfl, X3, G3⟩
        go_wp2_with fail
        refine (HK2.out _ (D.mdog.other G3 D.ne)).mono ?_
        rintro e w4 ⟨rfl, X4, G4⟩
        have Y := D.step X3 G3 X4 G4
        clear X3 G3 X4 G4 D HK1 HK2 c0
        go_wp2_with fail
        refine (two_coded j hj hs Y).mono ?_
        rintro e w5 ⟨rfl, Y5⟩
        clear Y
        have Yd := Y5.din.dog
        have Ym := Y5.mdog
        have m2 := Ym.c2
        have m4 := Ym.c4
        have m5 := Ym.c5
        go_wp2_with fail
        go_quiet (first | (go_at_call 44; exact Calls.quiet_of (dog_open _ _ _ (Yd.drewN _))) | (go_at_call 52; exact Calls.quiet_of (mdog_open _ _ _ (Ym.drewN _))) | (go_at_call 46; exact Calls.quiet_of_same (dog_reset _ _ _ (Yd.drewN _))) | (go_at_call 53; exact Calls.quiet_of_same (dog_now _ _ _ (Yd.drewN _))) | (go_at_call 48; exact Calls.quiet_of_same (dog_kicks _ _ _ (Yd.drewN _))))
        clear m2 m4 m5 Yd Ym
        go_wp2_with fail
        go_roundw
        case rel => exact ⟨k + 1, d', by omega, by first | omega | (show (_ : Nat) ≤ _; exact Nat.le_succ_of_le hn) | exact Nat.succ_le_succ hn, by go_num, Y5.drewN _⟩
        case measure => simp [intOf]; omega
    · go_wp2
      go_ret
      exact ⟨rfl, D.din.bel⟩
end Go.Proofs.YtebdepbnhemnpaaDoor
