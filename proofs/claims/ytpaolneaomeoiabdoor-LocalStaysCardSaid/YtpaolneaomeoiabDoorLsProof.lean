/-
  Proved: nightwatchlaw2.LocalStays answers true for every number and every list of numbers; each argument reads afterwards as it read before. Conditions: those of the given card alone (ErrNone, ErrIdle and ErrHeld are as the program's own text lays them).
-/
import Derived.Test.YtpaolneaomeoiabDoorCards
import Derived.Test.YtpaolneaomeoiabDoorTie
import Derived.Test.YtpaolneaomeoiabDoorCfArgE
import Derived.Test.YtpaolneaomeoiabDoorLsWalk
import Derived.WalkKit
import Derived.ProofKit
import Derived.OpenShut
import Derived.Deep.Slices
import Derived.Stop.Joined
import Derived.SevenTiedAt
import Derived.Carry
import Derived.LaidLaws
import Derived.LaidMore
namespace Go.Proofs.YtpaolneaomeoiabDoor
open Go.ChangeShapes Go.WideShapes Go.ChangeAt Go.RowKit Go.Deep

def seatLaid3 : List (String × DataW Unit) := [("nightwatch/api.ErrNone", Rows.laid_nightwatch_api_ErrNone), ("nightwatch/api.ErrIdle", Rows.laid_nightwatch_api_ErrIdle), ("nightwatch/api.ErrHeld", Rows.laid_nightwatch_api_ErrHeld)]
theorem laid3_split (W : World) : laidMetH Tryd.prog seatLaid3 W = laidMet Tryd.prog seatLaid3 W := MakeChecks.laidMetH_plain _ _ _ (by kernel_rfl)
theorem door_met3 (os : Os) (args : Array Value) : laidMetH Tryd.prog seatLaid3 ((World.doorLaid Tryd.prog 400 os).forCall (fun _ _ => 0) ⟨#[], args, []⟩).memory := by
  rw [laid3_split]
  exact laidMet_of_run' 8 (by kernel_rfl) (by kernel_rfl)
theorem own : ownKnob Tryd.prog.godebug = none := by kernel_rfl
set_option maxRecDepth 100000 in
set_option maxHeartbeats 4000000 in
theorem stays_any (p : Int) (v1 : Value) (l : List Int) (w : World) (hl : SlAt encI 1 w v1 l) :
    Calls Tryd.prog 7 #[.int .i64 p, v1] w fun v w' => v = .returned (.bool true) ∧ Below w.heap.size w w' := by
  obtain ⟨sl, slc, rfl, -⟩ := id hl
  by_cases g1 : p < 1
  · go_enter Tryd.func7, Tryd.ntmps7
    go_wp2_with fail
    refine (lives_any _).mono ?_
    rintro v W ⟨rfl, hb0⟩
    have HB0 : Hid (Below w.heap.size w W) := hb0
    clear hb0
    go_wp2
    go_ret
    exact ⟨rfl, HB0.out⟩
  by_cases g2 : 4 < p
  · go_enter Tryd.func7, Tryd.ntmps7
    go_wp2_with fail
    refine (lives_any _).mono ?_
    rintro v W ⟨rfl, hb0⟩
    have HB0 : Hid (Below w.heap.size w W) := hb0
    clear hb0
    go_wp2
    go_ret
    exact ⟨rfl, HB0.out⟩
  by_cases g3 : 60 < (l.length : Int)
  · go_enter Tryd.func7, Tryd.ntmps7
    go_wp2_with fail
    refine (lives_any _).mono ?_
    rintro v W ⟨rfl, hb0⟩
    have HB0 : Hid (Below w.heap.size w W) := hb0
    clear hb0
    go_wp2
    go_ret
    exact ⟨rfl, HB0.out⟩
  obtain ⟨k, rfl⟩ := Int.eq_ofNat_of_zero_le (show 0 ≤ p by omega)
  have hk : (fourP.take k).length = k := by simp [fourP, List.length_take]; omega
  have := stays_in (fourP.take k) sl l slc w (by rw [hk]) (by omega) (by omega) hl (by omega)
  rw [hk] at this
  exact this

set_option maxRecDepth 100000 in
theorem localStays_lifted (os : Os) (started : os.Started) (H : Type) (enc : TypeId × Value → H) :
    ReturnsInHanded {} Tryd.checked os 7 .any (fun w args => (Rows.localStaysSpec.pre enc Tryd.prog Tryd.f7 [] false w args ∧ laidMetH Tryd.prog seatLaid3 w) ∧ sizedMet enc Tryd.prog Tryd.f7 (OpenSpec.ofChange Rows.localStaysSpec) false w args)
      (Rows.localStaysSpec.post enc Tryd.prog Tryd.f7 false true false false) := by
  refine returnsInHanded_of_change_and (C := Tryd.checked) (X := fun w _ => laidMetH Tryd.prog seatLaid3 w) (fun _ _ _ hh h => h.of_heap hh) own started (by kernel_rfl) Tryd.func7
    (ChangeSpec.witness_shaped (enc := enc) (C := Tryd.checked) (os := os) (X := fun w _ => laidMetH Tryd.prog seatLaid3 w) false (World.doorLaid Tryd.prog 400 os) #[.int .i64 0, .slice none 0 0] 8 rfl (World.shaped_of_RefB (by kernel_rfl) (by kernel_rfl)) (by kernel_rfl) (by kernel_rfl) (by kernel_rfl) (door_met3 os _)) ?_
  intro W base args ds gs before hval0 hW _ _ _ _
  have hval : ∀ (j : Nat) t v, Tryd.f7.params[j]? = some t → args[j]? = some v → Value.okWide Tryd.prog W .any base t v := hval0
  have hW' := hW
  obtain ⟨p, q, hA0, hV, rfl, hfz, hnd⟩ := hW
  have hA : DataW.TrodAll enc Tryd.prog W 0 (fun _ => true) true Tryd.f7.params.toList args.toList ds p := hA0
  rw [Tryd.params7] at hA hval
  obtain ⟨v0, vs0, d0, ds0, p0, q0, hargs, rfl, rfl, h0, r0⟩ := trodAll_cons hA
  obtain ⟨v1, vs1, d1, ds1, p1, q1, rfl, rfl, rfl, h1, r1⟩ := trodAll_cons r0
  obtain ⟨rfl, rfl, rfl⟩ := trodAll_nil r1
  obtain rfl : args = #[v0, v1] := by cases args; simp_all
  obtain ⟨rfl, rfl⟩ := trodVars_none hV
  obtain ⟨x0, rfl, rfl, rfl, wx0⟩ := open_int Tryd.underlying3 (hval 0 3 v0 rfl rfl) h0
  obtain ⟨sa1, len1, cap1, rfl⟩ := okWide_slice Tryd.underlying25 (hval 1 25 v1 rfl rfl)
  have h1k := h1
  obtain ⟨fuel1, hf1⟩ := h1
  obtain ⟨xs1, hxs1⟩ := sl_of_trod (0 : Int) (ec := encI) Tryd.underlying25 Tryd.cellsOne.1 (by decide) int_of_trod (by simpa [Value.cells] using hf1)
  clear hA0 hval0
  simp only [List.append_nil] at hW'
  refine (stays_any x0 _ xs1 W hxs1).mono fun e W' ⟨he, hb⟩ => ?_
  subst he
  have hlt1 : ∀ x ∈ p1, x.block < W.heap.size := fun x hx => hW'.lt x (by simp [hx])
  have hargs1 : DataW.Trod enc Tryd.prog W' 0 (fun b => decide (b < W.heap.size)) true 25 (.slice sa1 len1 cap1) d1 p1 := Below.trod Tryd.laidOut (by kernel_rfl) (of_decide_eq_true (by kernel_rfl)) h1k hb hlt1
  have hAll : DataW.TrodAll enc Tryd.prog W' 0 (fun b => decide (b < W.heap.size)) true [3, 25] [.int .i64 x0, .slice sa1 len1 cap1] _ _ := (trodAll_cons_mk (shut_int Tryd.underlying3 wx0) (trodAll_cons_mk hargs1 trodAll_mk0))
  simp only [List.append_nil] at hAll
  exact ⟨_, rfl, _, _, _, [], p1, [], hW', trodAll_mk1 (shut_bool Tryd.underlying4 true), hAll, rfl, hb.frame _, fun h => by cases h⟩

theorem localStays_said : Rows.LocalStaysSaid :=
  OpenClaim.holds_of_wide 7 Tryd.f7 rfl rfl rfl rfl rfl rfl rfl ⟨rfl, rfl, rfl, rfl, rfl⟩ rfl rfl rfl rfl rfl (by kernel_rfl) Tryd.func7 (by kernel_rfl)
    (of_decide_eq_true (by kernel_rfl)) (by unfold Func.isWrapper; rw [if_neg (of_decide_eq_false (by kernel_rfl))]; exact ⟨rfl, rfl⟩)
    (fun os started H enc _ => localStays_lifted os started H enc)

theorem localStays_plain (f : FuncId) (fn : Func) (hf : Tryd.pinned.checked.prog.funcNamed "nightwatch/nightwatchlaw2.LocalStays" = some f) (hfn : Tryd.pinned.checked.prog.funcs[f]? = some fn) :
    true = Tryd.pinned.checked.prog.looks [] ∧ ∀ (j : Nat) t, fn.params[j]? = some t → Tryd.pinned.checked.prog.wantsStandIn t = false := by
  obtain rfl : f = 7 := Option.some.inj ((show Tryd.prog.funcNamed "nightwatch/nightwatchlaw2.LocalStays" = some 7 by kernel_rfl).symm.trans hf) |>.symm
  obtain rfl : fn = Tryd.f7 := (Option.some.inj (Tryd.func7.symm.trans hfn)).symm
  refine ⟨by kernel_rfl, fun j t ht => ?_⟩
  rw [Tryd.params7] at ht
  have hm : t ∈ [3, 25] := by simpa using Array.mem_of_getElem? ht
  have hall : ([3, 25].all fun u => !Tryd.prog.wantsStandIn u) = true := by kernel_rfl
  exact (show Tryd.prog.wantsStandIn t = false by simpa using List.all_eq_true.1 hall t hm)

/-- The card. -/
theorem localStays_card : Rows.LocalStaysCardSaid :=
  Claim7.holds_tied_plain_at .later [] _ _ _ _ localStays_said (fun _ h => by cases h) (by kernel_rfl) (fun _ h => by cases h) localStays_row_tie rfl ⟨rfl, rfl⟩ (by kernel_rfl) rfl localStays_plain (by kernel_rfl)
#print axioms localStays_card
end Go.Proofs.YtpaolneaomeoiabDoor
