/-
  Proved: nightwatchlaw3.KeeperStops answers true for every five numbers; each argument reads afterwards as it read before. Conditions: those of the given card alone (the api's sentinels and errors.errorType are as the program's own text lays them).
-/
import Derived.Test.YtkphpgdgbnmnjacGreatDoorB01S
import Derived.Test.YtkphpgdgbnmnjacGreatDoorB03S
import Derived.Test.YtkphpgdgbnmnjacGreatDoorB00C
import Derived.Test.YtkphpgdgbnmnjacGreatDoorB01C
import Derived.Test.YtkphpgdgbnmnjacGreatDoorB02C
import Derived.Test.YtkphpgdgbnmnjacGreatDoorB03C
import Derived.Test.YtkphpgdgbnmnjacGreatDoorB04C
import Derived.Test.YtkphpgdgbnmnjacGreatDoorB05C
import Derived.Test.YtkphpgdgbnmnjacGreatDoorB06C
import Derived.Test.YtkphpgdgbnmnjacGreatDoorB07C
import Derived.Test.YtkphpgdgbnmnjacGreatDoorB08C
import Derived.Test.YtkphpgdgbnmnjacGreatDoorB09C
import Derived.Test.YtkphpgdgbnmnjacGreatDoorB10C
import Derived.Test.YtkphpgdgbnmnjacGreatDoorB11C
import Derived.Test.YtkphpgdgbnmnjacGreatDoorB12C
import Derived.Test.YtkphpgdgbnmnjacGreatDoorB13C
import Derived.Test.YtkphpgdgbnmnjacGreatDoorB14C
import Derived.Test.YtkphpgdgbnmnjacGreatDoorB15C
import Derived.Test.YtkphpgdgbnmnjacGreatDoorB16C
import Derived.Test.YtkphpgdgbnmnjacGreatDoorB17C
import Derived.Test.YtkphpgdgbnmnjacGreatDoorB18C
import Derived.Test.YtkphpgdgbnmnjacGreatDoorB19C
import Derived.Test.YtkphpgdgbnmnjacGreatDoorB20C
import Derived.Test.YtkphpgdgbnmnjacGreatDoorB31C
import Derived.Test.YtkphpgdgbnmnjacGreatDoorB22C
import Derived.Test.YtkphpgdgbnmnjacGreatDoorB32C
import Derived.Test.YtkphpgdgbnmnjacGreatDoorB33C
import Derived.Test.YtkphpgdgbnmnjacGreatDoorB21C
import Derived.Test.YtkphpgdgbnmnjacGreatDoorB23C
import Derived.Test.YtkphpgdgbnmnjacGreatDoorB24C
import Derived.Test.YtkphpgdgbnmnjacGreatDoorB25C
import Derived.Test.YtkphpgdgbnmnjacGreatDoorB26C
import Derived.Test.YtkphpgdgbnmnjacGreatDoorB27C
import Derived.Test.YtkphpgdgbnmnjacGreatDoorB28C
import Derived.Test.YtkphpgdgbnmnjacGreatDoorB29C
import Derived.Test.YtkphpgdgbnmnjacGreatDoorB30C
import Derived.Test.YtkphpgdgbnmnjacGreatDoorB34C
import Derived.Test.YtkphpgdgbnmnjacGreatDoorB35C
import Derived.Test.YtkphpgdgbnmnjacGreatDoorCards
import Derived.Test.YtkphpgdgbnmnjacGreatDoorTie
import Derived.WalkKit
import Derived.ProofKit
import Derived.OpenShut
import Derived.Deep.Slices
import Derived.Stop.Joined
import Derived.SevenTiedAt
import Derived.Carry
import Derived.LaidLaws
import Derived.LaidMore
namespace Go.Proofs.YtkphpgdgbnmnjacGreatDoor
open Go.ChangeShapes Go.WideShapes Go.ChangeAt Go.RowKit Go.Deep
open Go.ChangeMaps (open_string shut_string)

set_option maxRecDepth 100000 in
theorem keeperStops_lifted (os : Os) (started : os.Started) (H : Type) (enc : TypeId × Value → H) :
    ReturnsInHanded {} Tryz.checked os 4 .any (fun w args => (Rows.keeperStopsSpec.pre enc Tryz.prog Tryz.f4 [] false w args ∧ laidMetH Tryz.prog seatLaid w) ∧ sizedMet enc Tryz.prog Tryz.f4 (OpenSpec.ofChange Rows.keeperStopsSpec) false w args)
      (Rows.keeperStopsSpec.post enc Tryz.prog Tryz.f4 false true false false) := by
  refine returnsInHanded_of_change_and (C := Tryz.checked) (X := fun w _ => laidMetH Tryz.prog seatLaid w) (fun _ _ _ hh h => h.of_heap hh) own started (by kernel_rfl) Tryz.func4
    (ChangeSpec.witness_shaped (enc := enc) (C := Tryz.checked) (os := os) (X := fun w _ => laidMetH Tryz.prog seatLaid w) false (World.doorLaid Tryz.prog 400 os) #[.int .i64 0, .int .i64 0, .int .i64 0, .int .i64 0, .int .i64 0] 8 rfl (World.shaped_of_RefB (by kernel_rfl) (by kernel_rfl)) (by kernel_rfl) (by kernel_rfl) (by kernel_rfl) (door_met os _)) ?_
  intro W base args ds gs before hval0 hW _ _ hL _
  have hval : ∀ (j : Nat) t v, Tryz.f4.params[j]? = some t → args[j]? = some v → Value.okWide Tryz.prog W .any base t v := hval0
  have hW' := hW
  obtain ⟨p, q, hA0, hV, rfl, hfz, hnd⟩ := hW
  have hA : DataW.TrodAll enc Tryz.prog W 0 (fun _ => true) true Tryz.f4.params.toList args.toList ds p := hA0
  rw [Tryz.params4] at hA hval
  obtain ⟨v0, vs0, d0, ds0, p0, q0, hargs, rfl, rfl, h0, r0⟩ := trodAll_cons hA
  obtain ⟨v1, vs1, d1, ds1, p1, q1, rfl, rfl, rfl, h1, r1⟩ := trodAll_cons r0
  obtain ⟨v2, vs2, d2, ds2, p2, q2, rfl, rfl, rfl, h2, r2⟩ := trodAll_cons r1
  obtain ⟨v3, vs3, d3, ds3, p3, q3, rfl, rfl, rfl, h3, r3⟩ := trodAll_cons r2
  obtain ⟨v4, vs4, d4, ds4, p4, q4, rfl, rfl, rfl, h4, r4⟩ := trodAll_cons r3
  obtain ⟨rfl, rfl, rfl⟩ := trodAll_nil r4
  obtain rfl : args = #[v0, v1, v2, v3, v4] := by cases args; simp_all
  obtain ⟨rfl, rfl⟩ := trodVars_none hV
  obtain ⟨x0, rfl, rfl, rfl, wx0⟩ := open_int Tryz.underlying3 (hval 0 3 v0 rfl rfl) h0
  obtain ⟨x1, rfl, rfl, rfl, wx1⟩ := open_int Tryz.underlying3 (hval 1 3 v1 rfl rfl) h1
  obtain ⟨x2, rfl, rfl, rfl, wx2⟩ := open_int Tryz.underlying3 (hval 2 3 v2 rfl rfl) h2
  obtain ⟨x3, rfl, rfl, rfl, wx3⟩ := open_int Tryz.underlying3 (hval 3 3 v3 rfl rfl) h3
  obtain ⟨x4, rfl, rfl, rfl, wx4⟩ := open_int Tryz.underlying3 (hval 4 3 v4 rfl rfl) h4
  obtain ⟨A, hs⟩ := senv_of_laid hL
  clear hA0 hval0
  simp only [List.append_nil] at hW'
  refine (ks_in A x0 x1 x2 x3 x4 W hs).mono fun e W' ⟨he, hb⟩ => ?_
  subst he
  have hAll : DataW.TrodAll enc Tryz.prog W' 0 (fun b => decide (b < W.heap.size)) true [3, 3, 3, 3, 3] [.int .i64 x0, .int .i64 x1, .int .i64 x2, .int .i64 x3, .int .i64 x4] _ _ := (trodAll_cons_mk (shut_int Tryz.underlying3 wx0) (trodAll_cons_mk (shut_int Tryz.underlying3 wx1) (trodAll_cons_mk (shut_int Tryz.underlying3 wx2) (trodAll_cons_mk (shut_int Tryz.underlying3 wx3) (trodAll_cons_mk (shut_int Tryz.underlying3 wx4) trodAll_mk0)))))
  simp only [List.append_nil] at hAll
  exact ⟨_, rfl, _, _, _, [], [], [], hW', trodAll_mk1 (shut_bool Tryz.underlying4 true), hAll, rfl, hb.frame _, fun h => by cases h⟩

theorem keeperStops_said : Rows.KeeperStopsSaid :=
  OpenClaim.holds_of_wide 4 Tryz.f4 rfl rfl rfl rfl rfl rfl rfl ⟨rfl, rfl, rfl, rfl, rfl⟩ rfl rfl rfl rfl rfl (by kernel_rfl) Tryz.func4 (by kernel_rfl)
    (of_decide_eq_true (by kernel_rfl)) (by unfold Func.isWrapper; rw [if_neg (of_decide_eq_false (by kernel_rfl))]; exact ⟨rfl, rfl⟩)
    (fun os started H enc _ => keeperStops_lifted os started H enc)

theorem keeperStops_plain (f : FuncId) (fn : Func) (hf : Tryz.pinned.checked.prog.funcNamed "nightwatch/nightwatchlaw3.KeeperStops" = some f) (hfn : Tryz.pinned.checked.prog.funcs[f]? = some fn) :
    true = Tryz.pinned.checked.prog.looks [] ∧ ∀ (j : Nat) t, fn.params[j]? = some t → Tryz.pinned.checked.prog.wantsStandIn t = false := by
  obtain rfl : f = 4 := Option.some.inj ((show Tryz.prog.funcNamed "nightwatch/nightwatchlaw3.KeeperStops" = some 4 by kernel_rfl).symm.trans hf) |>.symm
  obtain rfl : fn = Tryz.f4 := (Option.some.inj (Tryz.func4.symm.trans hfn)).symm
  refine ⟨by kernel_rfl, fun j t ht => ?_⟩
  rw [Tryz.params4] at ht
  have hm : t ∈ [3, 3, 3, 3, 3] := by simpa using Array.mem_of_getElem? ht
  have hall : ([3, 3, 3, 3, 3].all fun u => !Tryz.prog.wantsStandIn u) = true := by kernel_rfl
  exact (show Tryz.prog.wantsStandIn t = false by simpa using List.all_eq_true.1 hall t hm)

/-- The card. -/
theorem keeperStops_card : Rows.KeeperStopsCardSaid :=
  Claim7.holds_tied_plain_at .later [] _ _ _ _ keeperStops_said (fun _ h => by cases h) (by kernel_rfl) (fun _ h => by cases h) keeperStops_row_tie rfl ⟨rfl, rfl⟩ (by kernel_rfl) rfl keeperStops_plain (by kernel_rfl)
#print axioms keeperStops_card
end Go.Proofs.YtkphpgdgbnmnjacGreatDoor
