/-
  Proved: nightwatchlaw1.RingCuts answers true for every list of appends; the argument reads afterwards as it read before. Conditions: those of the given card alone (the api's sentinels and errors.errorType are as the program's own text lays them).
-/
import Derived.Test.YtebdepbnhemnpaaDoorCards
import Derived.Test.YtebdepbnhemnpaaDoorTie
import Derived.Test.YtebdepbnhemnpaaDoorLaid
import Derived.Test.YtebdepbnhemnpaaDoorRcWalk
import Derived.Test.YtebdepbnhemnpaaDoorApps
import Derived.ProofKit
import Derived.OpenShut
import Derived.Stop.Joined
import Derived.SevenTiedAt
import Derived.Deep.Slices
import Derived.Carry
namespace Go.Proofs.YtebdepbnhemnpaaDoor
open Go.ChangeShapes Go.WideShapes Go.ChangeAt Go.RowKit Go.Deep

set_option maxRecDepth 100000 in
set_option maxHeartbeats 2000000 in
theorem ringCuts_any (A : Nat → Addr) (sa : Option Addr) (g o len cap : Nat) (l : Nat → AppD) (w : World) (hs : Senv A w) (hsa : 0 < len → sa = some ⟨g, o, none⟩) (hl : AppsAt w g o len l) (hlen : len ≤ maxLen)
    (hok : ∀ i, i < len → (l i).cut ≤ 9223372036854775807) :
    Calls Tryd.prog 7 #[.slice sa len cap] w fun e w' => e = .returned (.bool true) ∧ Below w.heap.size w w' := by
  by_cases h60 : len ≤ 60
  · exact ringCuts_in A sa g o len cap l w hs hsa hl h60 hok
  · unfold maxLen at hlen
    have t3 : 60 < (len : Int) := by omega
    clear hok hl hsa
    go_enter Tryd.func7, Tryd.ntmps7
    go_wp2_with fail
    refine (logged_any A w hs.four (by have := hs.gm; omega)).mono ?_
    rintro e w1 ⟨rfl, hb1⟩
    go_wp2
    go_ret
    exact ⟨rfl, hb1⟩

set_option maxRecDepth 100000 in
theorem ringCuts_lifted (os : Os) (started : os.Started) (H : Type) (enc : TypeId × Value → H) :
    ReturnsInHanded {} Tryd.checked os 7 .any (fun w args => (Rows.ringCutsSpec.pre enc Tryd.prog Tryd.f7 [] false w args ∧ laidMetH Tryd.prog seatLaid w) ∧ sizedMet enc Tryd.prog Tryd.f7 (OpenSpec.ofChange Rows.ringCutsSpec) false w args)
      (Rows.ringCutsSpec.post enc Tryd.prog Tryd.f7 false true false false) := by
  refine returnsInHanded_of_change_and (C := Tryd.checked) (X := fun w _ => laidMetH Tryd.prog seatLaid w) (fun _ _ _ hh h => h.of_heap hh) own started (by kernel_rfl) Tryd.func7
    (ChangeSpec.witness_shaped (enc := enc) (C := Tryd.checked) (os := os) (X := fun w _ => laidMetH Tryd.prog seatLaid w) false (World.doorLaid Tryd.prog 400 os) #[.slice none 0 0] 8 rfl (World.shaped_of_RefB (by kernel_rfl) (by kernel_rfl)) (by kernel_rfl) (by kernel_rfl) (by kernel_rfl) (door_met os _)) ?_
  intro W base args ds gs before hval0 hW _ _ hL _
  have hval : ∀ (j : Nat) t v, Tryd.f7.params[j]? = some t → args[j]? = some v → Value.okWide Tryd.prog W .any base t v := hval0
  have hW' := hW
  obtain ⟨p, q, hA0, hV, rfl, hfz, hnd⟩ := hW
  have hA : DataW.TrodAll enc Tryd.prog W 0 (fun _ => true) true Tryd.f7.params.toList args.toList ds p := hA0
  rw [Tryd.params7] at hA hval
  obtain ⟨v2, d2, rfl, rfl, h2⟩ := trodAll_one hA
  obtain ⟨rfl, rfl⟩ := trodVars_none hV
  obtain ⟨sa, len, cap, rfl⟩ := okWide_slice Tryd.underlying70 (hval 0 70 v2 rfl rfl)
  obtain ⟨A, hs⟩ := senv_of_laid hL
  have h2k := h2
  obtain ⟨fuel, hf⟩ := h2
  obtain ⟨g, o, l, hlen, hsa, hacts, hok⟩ := apps_of_trod (by simpa [Value.cells] using hf)
  clear hA0 hval0
  simp only [List.append_nil] at hW'
  have hlt : ∀ x ∈ p, x.block < W.heap.size := fun x hx => by simpa using hW'.lt x hx
  refine (ringCuts_any A sa g o len cap l W hs hsa hacts hlen hok).mono fun e W' ⟨he, hb⟩ => ?_
  subst he
  have hargs : DataW.Trod enc Tryd.prog W' 0 (fun b => decide (b < W.heap.size)) true 70 (.slice sa len cap) d2 p := Below.trod Tryd.laidOut (by kernel_rfl) (of_decide_eq_true (by kernel_rfl)) h2k hb hlt
  exact ⟨_, rfl, _, _, _, [], p, [], hW', trodAll_mk1 (shut_bool Tryd.underlying4 true), trodAll_mk1 hargs, rfl, hb.frame _, fun h => by cases h⟩

theorem ringCuts_said : Rows.RingCutsSaid :=
  OpenClaim.holds_of_wide 7 Tryd.f7 rfl rfl rfl rfl rfl rfl rfl ⟨rfl, rfl, rfl, rfl, rfl⟩ rfl rfl rfl rfl rfl (by kernel_rfl) Tryd.func7 (by kernel_rfl)
    (of_decide_eq_true (by kernel_rfl)) (by unfold Func.isWrapper; rw [if_neg (of_decide_eq_false (by kernel_rfl))]; exact ⟨rfl, rfl⟩)
    (fun os started H enc _ => ringCuts_lifted os started H enc)

theorem ringCuts_plain (f : FuncId) (fn : Func) (hf : Tryd.pinned.checked.prog.funcNamed "nightwatch/nightwatchlaw1.RingCuts" = some f) (hfn : Tryd.pinned.checked.prog.funcs[f]? = some fn) :
    true = Tryd.pinned.checked.prog.looks [] ∧ ∀ (j : Nat) t, fn.params[j]? = some t → Tryd.pinned.checked.prog.wantsStandIn t = false := by
  obtain rfl : f = 7 := Option.some.inj ((show Tryd.prog.funcNamed "nightwatch/nightwatchlaw1.RingCuts" = some 7 by kernel_rfl).symm.trans hf) |>.symm
  obtain rfl : fn = Tryd.f7 := (Option.some.inj (Tryd.func7.symm.trans hfn)).symm
  refine ⟨by kernel_rfl, fun j t ht => ?_⟩
  rw [Tryd.params7] at ht
  have hm : t = 70 := by simpa using Array.mem_of_getElem? ht
  subst hm
  exact (show Tryd.prog.wantsStandIn 70 = false by kernel_rfl)

/-- The card. -/
theorem ringCuts_card : Rows.RingCutsCardSaid :=
  Claim7.holds_tied_plain_at .later [] _ _ _ _ ringCuts_said (fun _ h => by cases h) (by kernel_rfl) (fun _ h => by cases h) ringCuts_row_tie rfl ⟨rfl, rfl⟩ (by kernel_rfl) rfl ringCuts_plain (by kernel_rfl)
#print axioms ringCuts_card
end Go.Proofs.YtebdepbnhemnpaaDoor
