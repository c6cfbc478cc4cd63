/-
  Proved: nightwatchlaw2.TotalStops answers true for both numbers and every list of lists; each argument reads afterwards as it read before. Conditions: those of the given card alone (ErrBound is as the program's own text lays it).
-/
import Derived.Test.YtgehlcmancdgcacDoorCards
import Derived.Test.YtgehlcmancdgcacDoorTie
import Derived.Test.YtgehlcmancdgcacDoorCfArgB
import Derived.Test.YtgehlcmancdgcacDoorTsAny
import Derived.WalkKit
import Derived.ProofKit
import Derived.OpenShut
import Derived.Deep.Slices
import Derived.Stop.Joined
import Derived.SevenTiedAt
import Derived.Carry
import Derived.LaidLaws
import Derived.LaidMore
namespace Go.Proofs.YtgehlcmancdgcacDoor
open Go.ChangeShapes Go.WideShapes Go.ChangeAt Go.RowKit Go.Deep

def seatLaid1 : List (String × DataW Unit) := [("nightwatch/api.ErrBound", Rows.laid_nightwatch_api_ErrBound)]
theorem laid1_split (W : World) : laidMetH Tryd.prog seatLaid1 W = laidMet Tryd.prog seatLaid1 W := MakeChecks.laidMetH_plain _ _ _ (by kernel_rfl)
theorem door_met1 (os : Os) (args : Array Value) : laidMetH Tryd.prog seatLaid1 ((World.doorLaid Tryd.prog 400 os).forCall (fun _ _ => 0) ⟨#[], args, []⟩).memory := by
  rw [laid1_split]
  exact laidMet_of_run' 8 (by kernel_rfl) (by kernel_rfl)
theorem own : ownKnob Tryd.prog.godebug = none := by kernel_rfl
theorem lists_of_trod {H : Type} {enc : TypeId × Value → H} {W : World} {fuel : Nat} {v : Value} {x : DataW H × List MemPlace} (h : DataW.trod enc Tryd.prog W 0 (fun _ => true) true fuel 53 [v] = some x) : ∃ ll : List (List ByteArray), SlsAt W v ll := by
  obtain ⟨sa, cap, xs, hcs, hl, hx⟩ := sl_gen ([] : List ByteArray) (Q := fun cs a => ∃ u, cs = [u] ∧ SlAt encS 1 W u a) Tryd.underlying53 (show Tryd.prog.cellsOf 22 = 1 by kernel_rfl) (by decide) (fun n cs y hy => by
    obtain ⟨sa, cap, xs, hcs, -⟩ := sl_gen (⟨#[]⟩ : ByteArray) (Q := fun cs a => cs = encS a) Tryd.underlying22 (show Tryd.prog.cellsOf 9 = 1 by kernel_rfl) (by decide) str_of_trod hy
    subst hcs
    obtain ⟨ys, hys⟩ := sl_of_trod (⟨#[]⟩ : ByteArray) (ec := encS) Tryd.underlying22 (show Tryd.prog.cellsOf 9 = 1 by kernel_rfl) (by decide) str_of_trod hy
    exact ⟨ys, _, rfl, hys⟩) h
  simp only [List.cons.injEq, and_true] at hcs
  refine ⟨xs, sa, cap, hcs, hl, fun hne => ?_⟩
  obtain ⟨b, o, h1, h2⟩ := hx hne
  refine ⟨b, o, h1, fun i y hy => ?_⟩
  obtain ⟨cs', ⟨u, rfl, hu⟩, h3⟩ := h2 i y hy
  have := h3 0 u rfl
  simp only [Nat.mul_one, Nat.add_zero] at this
  exact ⟨u, this, hu⟩

set_option maxRecDepth 100000 in
theorem totalStops_lifted (os : Os) (started : os.Started) (H : Type) (enc : TypeId × Value → H) :
    ReturnsInHanded {} Tryd.checked os 4 .any (fun w args => (Rows.totalStopsSpec.pre enc Tryd.prog Tryd.f4 [] false w args ∧ laidMetH Tryd.prog seatLaid1 w) ∧ sizedMet enc Tryd.prog Tryd.f4 (OpenSpec.ofChange Rows.totalStopsSpec) false w args)
      (Rows.totalStopsSpec.post enc Tryd.prog Tryd.f4 false true false false) := by
  refine returnsInHanded_of_change_and (C := Tryd.checked) (X := fun w _ => laidMetH Tryd.prog seatLaid1 w) (fun _ _ _ hh h => h.of_heap hh) own started (by kernel_rfl) Tryd.func4
    (ChangeSpec.witness_shaped (enc := enc) (C := Tryd.checked) (os := os) (X := fun w _ => laidMetH Tryd.prog seatLaid1 w) false (World.doorLaid Tryd.prog 400 os) #[.int .i64 0, .int .i64 0, .slice none 0 0] 8 rfl (World.shaped_of_RefB (by kernel_rfl) (by kernel_rfl)) (by kernel_rfl) (by kernel_rfl) (by kernel_rfl) (door_met1 os _)) ?_
  intro W base args ds gs before hval0 hW _ _ _ _
  have hval : ∀ (j : Nat) t v, Tryd.f4.params[j]? = some t → args[j]? = some v → Value.okWide Tryd.prog W .any base t v := hval0
  have hW' := hW
  obtain ⟨p, q, hA0, hV, rfl, hfz, hnd⟩ := hW
  have hA : DataW.TrodAll enc Tryd.prog W 0 (fun _ => true) true Tryd.f4.params.toList args.toList ds p := hA0
  rw [Tryd.params4] at hA hval
  obtain ⟨v0, vs0, d0, ds0, p0, q0, hargs, rfl, rfl, h0, r0⟩ := trodAll_cons hA
  obtain ⟨v1, vs1, d1, ds1, p1, q1, rfl, rfl, rfl, h1, r1⟩ := trodAll_cons r0
  obtain ⟨v2, vs2, d2, ds2, p2, q2, rfl, rfl, rfl, h2, r2⟩ := trodAll_cons r1
  obtain ⟨rfl, rfl, rfl⟩ := trodAll_nil r2
  obtain rfl : args = #[v0, v1, v2] := by cases args; simp_all
  obtain ⟨rfl, rfl⟩ := trodVars_none hV
  obtain ⟨x0, rfl, rfl, rfl, wx0⟩ := open_int Tryd.underlying3 (hval 0 3 v0 rfl rfl) h0
  obtain ⟨x1, rfl, rfl, rfl, wx1⟩ := open_int Tryd.underlying3 (hval 1 3 v1 rfl rfl) h1
  obtain ⟨sa2, len2, cap2, rfl⟩ := okWide_slice Tryd.underlying53 (hval 2 53 v2 rfl rfl)
  have h2k := h2
  obtain ⟨fuel2, hf2⟩ := h2
  obtain ⟨xs2, hxs2⟩ := lists_of_trod (by simpa [Value.cells] using hf2)
  clear hA0 hval0
  simp only [List.append_nil] at hW'
  refine (stops_any to_endC x0 x1 _ xs2 W hxs2).mono fun e W' ⟨he, hb⟩ => ?_
  subst he
  have hlt2 : ∀ x ∈ p2, x.block < W.heap.size := fun x hx => hW'.lt x (by simp [hx])
  have hargs2 : DataW.Trod enc Tryd.prog W' 0 (fun b => decide (b < W.heap.size)) true 53 (.slice sa2 len2 cap2) d2 p2 := Below.trod Tryd.laidOut (by kernel_rfl) (of_decide_eq_true (by kernel_rfl)) h2k hb hlt2
  have hAll : DataW.TrodAll enc Tryd.prog W' 0 (fun b => decide (b < W.heap.size)) true [3, 3, 53] [.int .i64 x0, .int .i64 x1, .slice sa2 len2 cap2] _ _ := (trodAll_cons_mk (shut_int Tryd.underlying3 wx0) (trodAll_cons_mk (shut_int Tryd.underlying3 wx1) (trodAll_cons_mk hargs2 trodAll_mk0)))
  simp only [List.append_nil] at hAll
  exact ⟨_, rfl, _, _, _, [], p2, [], hW', trodAll_mk1 (shut_bool Tryd.underlying4 true), hAll, rfl, hb.frame _, fun h => by cases h⟩

theorem totalStops_said : Rows.TotalStopsSaid :=
  OpenClaim.holds_of_wide 4 Tryd.f4 rfl rfl rfl rfl rfl rfl rfl ⟨rfl, rfl, rfl, rfl, rfl⟩ rfl rfl rfl rfl rfl (by kernel_rfl) Tryd.func4 (by kernel_rfl)
    (of_decide_eq_true (by kernel_rfl)) (by unfold Func.isWrapper; rw [if_neg (of_decide_eq_false (by kernel_rfl))]; exact ⟨rfl, rfl⟩)
    (fun os started H enc _ => totalStops_lifted os started H enc)

theorem totalStops_plain (f : FuncId) (fn : Func) (hf : Tryd.pinned.checked.prog.funcNamed "nightwatch/nightwatchlaw2.TotalStops" = some f) (hfn : Tryd.pinned.checked.prog.funcs[f]? = some fn) :
    true = Tryd.pinned.checked.prog.looks [] ∧ ∀ (j : Nat) t, fn.params[j]? = some t → Tryd.pinned.checked.prog.wantsStandIn t = false := by
  obtain rfl : f = 4 := Option.some.inj ((show Tryd.prog.funcNamed "nightwatch/nightwatchlaw2.TotalStops" = some 4 by kernel_rfl).symm.trans hf) |>.symm
  obtain rfl : fn = Tryd.f4 := (Option.some.inj (Tryd.func4.symm.trans hfn)).symm
  refine ⟨by kernel_rfl, fun j t ht => ?_⟩
  rw [Tryd.params4] at ht
  have hm : t ∈ [3, 3, 53] := by simpa using Array.mem_of_getElem? ht
  have hall : ([3, 3, 53].all fun u => !Tryd.prog.wantsStandIn u) = true := by kernel_rfl
  exact (show Tryd.prog.wantsStandIn t = false by simpa using List.all_eq_true.1 hall t hm)

/-- The card. -/
theorem totalStops_card : Rows.TotalStopsCardSaid :=
  Claim7.holds_tied_plain_at .later [] _ _ _ _ totalStops_said (fun _ h => by cases h) (by kernel_rfl) (fun _ h => by cases h) totalStops_row_tie rfl ⟨rfl, rfl⟩ (by kernel_rfl) rfl totalStops_plain (by kernel_rfl)
#print axioms totalStops_card
end Go.Proofs.YtgehlcmancdgcacDoor
