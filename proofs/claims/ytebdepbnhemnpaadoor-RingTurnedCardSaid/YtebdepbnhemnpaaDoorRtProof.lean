/-
  Proved: nightwatchlaw1.RingTurned answers true for every number of appends, every place and every byte; each argument reads afterwards as it read before. Conditions: those of the given card alone (four of the api's sentinels are as the program's own text lays them).
-/
import Derived.Test.YtebdepbnhemnpaaDoorCards
import Derived.Test.YtebdepbnhemnpaaDoorTie
import Derived.Test.YtebdepbnhemnpaaDoorLaid
import Derived.Test.YtebdepbnhemnpaaDoorRtLaid
import Derived.Test.YtebdepbnhemnpaaDoorRtWalk
import Derived.ProofKit
import Derived.OpenShut
import Derived.Stop.Joined
import Derived.SevenTiedAt
import Derived.Carry
namespace Go.Proofs.YtebdepbnhemnpaaDoor
open Go.ChangeShapes Go.WideShapes Go.ChangeAt Go.RowKit
open Go.ChangeMaps (open_string shut_string)

set_option maxRecDepth 100000 in
set_option maxHeartbeats 4000000 in
theorem turned_any (A : Nat → Addr) (many m p : Int) (y : UInt8) (w : World) (hs : Sen4 A w) :
    Calls Tryd.prog 8 #[.int .i64 many, .int .i64 m, .int .i64 p, .int .u8 (y.toNat : Int)] w fun e w' => e = .returned (.bool true) ∧ Below w.heap.size w w' := by
  by_cases g : 1 ≤ many ∧ many ≤ 40 ∧ 0 ≤ m ∧ m < 8 ∧ m < many ∧ 0 ≤ p ∧ p < 17 ∧ y ≠ 0
  · obtain ⟨many, rfl⟩ := Int.eq_ofNat_of_zero_le (show 0 ≤ many by omega)
    obtain ⟨m, rfl⟩ := Int.eq_ofNat_of_zero_le g.2.2.1
    obtain ⟨p, rfl⟩ := Int.eq_ofNat_of_zero_le g.2.2.2.2.2.1
    exact turned_in A many m p y w hs (by omega) (by omega) (by omega) (by omega) (by omega) g.2.2.2.2.2.2.2
  · by_cases t1 : many < 1
    · clear g
      go_enter Tryd.func8, Tryd.ntmps8
      go_wp2_with fail
      refine (logged_any A w hs hs.gf).mono ?_
      rintro e w1 ⟨rfl, hb1⟩
      go_wp2
      go_ret
      exact ⟨rfl, hb1⟩
    by_cases t2 : 40 < many
    · clear g
      go_enter Tryd.func8, Tryd.ntmps8
      go_wp2_with fail
      refine (logged_any A w hs hs.gf).mono ?_
      rintro e w1 ⟨rfl, hb1⟩
      go_wp2
      go_ret
      exact ⟨rfl, hb1⟩
    by_cases t3 : m < 0
    · clear g
      go_enter Tryd.func8, Tryd.ntmps8
      go_wp2_with fail
      refine (logged_any A w hs hs.gf).mono ?_
      rintro e w1 ⟨rfl, hb1⟩
      go_wp2
      go_ret
      exact ⟨rfl, hb1⟩
    by_cases t4 : 8 ≤ m
    · clear g
      go_enter Tryd.func8, Tryd.ntmps8
      go_wp2_with fail
      refine (logged_any A w hs hs.gf).mono ?_
      rintro e w1 ⟨rfl, hb1⟩
      go_wp2
      go_ret
      exact ⟨rfl, hb1⟩
    by_cases t5 : many ≤ m
    · clear g
      go_enter Tryd.func8, Tryd.ntmps8
      go_wp2_with fail
      refine (logged_any A w hs hs.gf).mono ?_
      rintro e w1 ⟨rfl, hb1⟩
      go_wp2
      go_ret
      exact ⟨rfl, hb1⟩
    by_cases t6 : p < 0
    · clear g
      go_enter Tryd.func8, Tryd.ntmps8
      go_wp2_with fail
      refine (logged_any A w hs hs.gf).mono ?_
      rintro e w1 ⟨rfl, hb1⟩
      go_wp2
      go_ret
      exact ⟨rfl, hb1⟩
    by_cases t7 : 17 ≤ p
    · clear g
      go_enter Tryd.func8, Tryd.ntmps8
      go_wp2_with fail
      refine (logged_any A w hs hs.gf).mono ?_
      rintro e w1 ⟨rfl, hb1⟩
      go_wp2
      go_ret
      exact ⟨rfl, hb1⟩
    have t8 : y = 0 := by
      apply Classical.byContradiction
      intro h
      exact g ⟨by omega, by omega, by omega, by omega, by omega, by omega, by omega, h⟩
    subst t8
    clear g
    rw [show (((0 : UInt8).toNat : Nat) : Int) = 0 from rfl]
    go_enter Tryd.func8, Tryd.ntmps8
    go_wp2_with fail
    refine (logged_any A w hs hs.gf).mono ?_
    rintro e w1 ⟨rfl, hb1⟩
    go_wp2
    go_ret
    exact ⟨rfl, hb1⟩

theorem turned_byte (A : Nat → Addr) (many m p y : Int) (w : World) (hs : Sen4 A w) (h0 : 0 ≤ y) (h1 : y ≤ 255) :
    Calls Tryd.prog 8 #[.int .i64 many, .int .i64 m, .int .i64 p, .int .u8 y] w fun e w' => e = .returned (.bool true) ∧ Below w.heap.size w w' := by
  obtain ⟨n, rfl⟩ := Int.eq_ofNat_of_zero_le h0
  have h := turned_any A many m p (UInt8.ofNat n) w hs
  rw [show ((UInt8.ofNat n).toNat : Int) = (n : Int) by simp; omega] at h
  exact h

set_option maxRecDepth 100000 in
theorem ringTurned_lifted (os : Os) (started : os.Started) (H : Type) (enc : TypeId × Value → H) :
    ReturnsInHanded {} Tryd.checked os 8 .any (fun w args => (Rows.ringTurnedSpec.pre enc Tryd.prog Tryd.f8 [] false w args ∧ laidMetH Tryd.prog seatLaid4 w) ∧ sizedMet enc Tryd.prog Tryd.f8 (OpenSpec.ofChange Rows.ringTurnedSpec) false w args)
      (Rows.ringTurnedSpec.post enc Tryd.prog Tryd.f8 false true false false) := by
  refine returnsInHanded_of_change_and (C := Tryd.checked) (X := fun w _ => laidMetH Tryd.prog seatLaid4 w) (fun _ _ _ hh h => h.of_heap hh) own started (by kernel_rfl) Tryd.func8
    (ChangeSpec.witness_shaped (enc := enc) (C := Tryd.checked) (os := os) (X := fun w _ => laidMetH Tryd.prog seatLaid4 w) false (World.doorLaid Tryd.prog 400 os) #[.int .i64 0, .int .i64 0, .int .i64 0, .int .u8 0] 8 rfl (World.shaped_of_RefB (by kernel_rfl) (by kernel_rfl)) (by kernel_rfl) (by kernel_rfl) (by kernel_rfl) (door_met4 os _)) ?_
  intro W base args ds gs before hval0 hW _ _ hL _
  have hval : ∀ (j : Nat) t v, Tryd.f8.params[j]? = some t → args[j]? = some v → Value.okWide Tryd.prog W .any base t v := hval0
  have hW' := hW
  obtain ⟨p, q, hA0, hV, rfl, hfz, hnd⟩ := hW
  have hA : DataW.TrodAll enc Tryd.prog W 0 (fun _ => true) true Tryd.f8.params.toList args.toList ds p := hA0
  rw [Tryd.params8] at hA hval
  obtain ⟨v0, v1, v2, v3, d0, d1, d2, d3, p0, p1, p2, p3, rfl, rfl, rfl, h0, h1, h2, h3⟩ := trodAll_four hA
  obtain ⟨rfl, rfl⟩ := trodVars_none hV
  obtain ⟨x0, rfl, rfl, rfl, wx0⟩ := open_int Tryd.underlying3 (hval 0 3 v0 rfl rfl) h0
  obtain ⟨x1, rfl, rfl, rfl, wx1⟩ := open_int Tryd.underlying3 (hval 1 3 v1 rfl rfl) h1
  obtain ⟨x2, rfl, rfl, rfl, wx2⟩ := open_int Tryd.underlying3 (hval 2 3 v2 rfl rfl) h2
  obtain ⟨x3, rfl, rfl, rfl, wx3⟩ := open_int Tryd.underlying5 (hval 3 5 v3 rfl rfl) h3
  obtain ⟨A, hs⟩ := sen4_of_laid hL
  refine (turned_byte A x0 x1 x2 x3 W hs (bounds_u8 wx3).1 (bounds_u8 wx3).2).mono fun e W' ⟨he, hb⟩ => ?_
  subst he
  exact ⟨_, rfl, _, _, _, [], [], [], hW', trodAll_mk1 (shut_bool Tryd.underlying4 true), trodAll_mk4 (shut_int Tryd.underlying3 wx0) (shut_int Tryd.underlying3 wx1) (shut_int Tryd.underlying3 wx2) (shut_int Tryd.underlying5 wx3), rfl, hb.frame _, fun h => by cases h⟩

theorem ringTurned_said : Rows.RingTurnedSaid :=
  OpenClaim.holds_of_wide 8 Tryd.f8 rfl rfl rfl rfl rfl rfl rfl ⟨rfl, rfl, rfl, rfl, rfl⟩ rfl rfl rfl rfl rfl (by kernel_rfl) Tryd.func8 (by kernel_rfl)
    (of_decide_eq_true (by kernel_rfl)) (by unfold Func.isWrapper; rw [if_neg (of_decide_eq_false (by kernel_rfl))]; exact ⟨rfl, rfl⟩)
    (fun os started H enc _ => ringTurned_lifted os started H enc)

theorem ringTurned_plain (f : FuncId) (fn : Func) (hf : Tryd.pinned.checked.prog.funcNamed "nightwatch/nightwatchlaw1.RingTurned" = some f) (hfn : Tryd.pinned.checked.prog.funcs[f]? = some fn) :
    true = Tryd.pinned.checked.prog.looks [] ∧ ∀ (j : Nat) t, fn.params[j]? = some t → Tryd.pinned.checked.prog.wantsStandIn t = false := by
  obtain rfl : f = 8 := Option.some.inj ((show Tryd.prog.funcNamed "nightwatch/nightwatchlaw1.RingTurned" = some 8 by kernel_rfl).symm.trans hf) |>.symm
  obtain rfl : fn = Tryd.f8 := (Option.some.inj (Tryd.func8.symm.trans hfn)).symm
  refine ⟨by kernel_rfl, fun j t ht => ?_⟩
  rw [Tryd.params8] at ht
  have hm : t ∈ [3, 3, 3, 5] := by simpa using Array.mem_of_getElem? ht
  have hall : ([3, 3, 3, 5].all fun u => !Tryd.prog.wantsStandIn u) = true := by kernel_rfl
  exact (show Tryd.prog.wantsStandIn t = false by simpa using List.all_eq_true.1 hall t hm)

/-- The card. -/
theorem ringTurned_card : Rows.RingTurnedCardSaid :=
  Claim7.holds_tied_plain_at .later [] _ _ _ _ ringTurned_said (fun _ h => by cases h) (by kernel_rfl) (fun _ h => by cases h) ringTurned_row_tie rfl ⟨rfl, rfl⟩ (by kernel_rfl) rfl ringTurned_plain (by kernel_rfl)
#print axioms ringTurned_card
end Go.Proofs.YtebdepbnhemnpaaDoor
