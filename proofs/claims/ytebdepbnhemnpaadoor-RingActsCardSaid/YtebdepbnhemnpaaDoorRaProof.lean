/-
  Proved: nightwatchlaw1.RingActs answers true for every text and every list of appends, cuts and boots; each argument reads afterwards as it read before. Conditions: those of the given card alone (the api's sentinels and errors.errorType are as the program's own text lays them).
-/
import Derived.Test.YtebdepbnhemnpaaDoorCards
import Derived.Test.YtebdepbnhemnpaaDoorTie
import Derived.Test.YtebdepbnhemnpaaDoorLaid
import Derived.Test.YtebdepbnhemnpaaDoorApps
import Derived.Test.YtebdepbnhemnpaaDoorRaWalk
import Derived.ProofKit
import Derived.OpenShut
import Derived.Stop.Joined
import Derived.SevenTiedAt
import Derived.Carry
namespace Go.Proofs.YtebdepbnhemnpaaDoor
open Go.ChangeShapes Go.WideShapes Go.ChangeAt Go.RowKit Go.Deep
open Go.ChangeMaps (open_string shut_string)

set_option maxRecDepth 100000 in
set_option maxHeartbeats 4000000 in
theorem ringActs_any (A : Nat → Addr) (T : ByteArray) (sa : Option Addr) (g o len cap : Nat) (l : Nat → AppD) (w : World) (hs : Senv A w) (hsa : 0 < len → sa = some ⟨g, o, .none⟩) (hl : AppsAt w g o len l) (hT : T.size ≤ maxLen) (hlen : len ≤ maxLen)
    (hok : ∀ i, i < len → (l i).cut ≤ 9223372036854775807) :
    Calls Tryd.prog 9 #[.string T, .slice sa len cap] w fun e w' => e = .returned (.bool true) ∧ Below w.heap.size w w' := by
  unfold maxLen at hlen hT
  by_cases gg : T.size ≤ 300 ∧ 153 ≤ T.size ∧ len ≤ 60
  · exact ringActs_in A T sa g o len cap l w hs gg.2.1 gg.1 hsa hl gg.2.2 hok
  · clear hok hl hsa
    by_cases t1 : 300 < (T.size : Int)
    · clear gg
      go_enter Tryd.func9, Tryd.ntmps9
      go_wp2_with fail
      refine (logged_any A w hs.four (by have := hs.gm; omega)).mono ?_
      rintro e w1 ⟨rfl, hb1⟩
      go_wp2
      go_ret
      exact ⟨rfl, hb1⟩
    by_cases t2 : (T.size : Int) < 153
    · clear gg
      go_enter Tryd.func9, Tryd.ntmps9
      go_wp2_with fail
      refine (logged_any A w hs.four (by have := hs.gm; omega)).mono ?_
      rintro e w1 ⟨rfl, hb1⟩
      go_wp2
      go_ret
      exact ⟨rfl, hb1⟩
    have t3 : 60 < (len : Int) := by omega
    clear gg
    go_enter Tryd.func9, Tryd.ntmps9
    go_wp2_with fail
    refine (logged_any A w hs.four (by have := hs.gm; omega)).mono ?_
    rintro e w1 ⟨rfl, hb1⟩
    go_wp2
    go_ret
    exact ⟨rfl, hb1⟩

set_option maxRecDepth 100000 in
theorem ringActs_lifted (os : Os) (started : os.Started) (H : Type) (enc : TypeId × Value → H) :
    ReturnsInHanded {} Tryd.checked os 9 .any (fun w args => (Rows.ringActsSpec.pre enc Tryd.prog Tryd.f9 [] false w args ∧ laidMetH Tryd.prog seatLaid w) ∧ sizedMet enc Tryd.prog Tryd.f9 (OpenSpec.ofChange Rows.ringActsSpec) false w args)
      (Rows.ringActsSpec.post enc Tryd.prog Tryd.f9 false true false false) := by
  refine returnsInHanded_of_change_and (C := Tryd.checked) (X := fun w _ => laidMetH Tryd.prog seatLaid w) (fun _ _ _ hh h => h.of_heap hh) own started (by kernel_rfl) Tryd.func9
    (ChangeSpec.witness_shaped (enc := enc) (C := Tryd.checked) (os := os) (X := fun w _ => laidMetH Tryd.prog seatLaid w) false (World.doorLaid Tryd.prog 400 os) #[.string ⟨#[]⟩, .slice none 0 0] 8 rfl (World.shaped_of_RefB (by kernel_rfl) (by kernel_rfl)) (by kernel_rfl) (by kernel_rfl) (by kernel_rfl) (door_met os _)) ?_
  intro W base args ds gs before hval0 hW _ _ hL _
  have hval : ∀ (j : Nat) t v, Tryd.f9.params[j]? = some t → args[j]? = some v → Value.okWide Tryd.prog W .any base t v := hval0
  have hW' := hW
  obtain ⟨p, q, hA0, hV, rfl, hfz, hnd⟩ := hW
  have hA : DataW.TrodAll enc Tryd.prog W 0 (fun _ => true) true Tryd.f9.params.toList args.toList ds p := hA0
  rw [Tryd.params9] at hA hval
  obtain ⟨v0, v1, d0, d1, p0, p1, rfl, rfl, rfl, h0, h1⟩ := trodAll_two hA
  obtain ⟨rfl, rfl⟩ := trodVars_none hV
  obtain ⟨s0, rfl, rfl, rfl, hs0⟩ := open_string Tryd.underlying9 (hval 0 9 v0 rfl rfl) h0
  obtain ⟨sa1, len1, cap1, rfl⟩ := okWide_slice Tryd.underlying70 (hval 1 70 v1 rfl rfl)
  obtain ⟨A, hs⟩ := senv_of_laid hL
  have h1k := h1
  obtain ⟨fuel1, hf1⟩ := h1
  obtain ⟨g1, o1, l1, hlen1, hsa1, happs1, hok1⟩ := apps_of_trod (by simpa [Value.cells] using hf1)
  clear hA0 hval0
  simp only [List.append_nil, List.nil_append] at hW'
  have hlt : ∀ x ∈ p1, x.block < W.heap.size := fun x hx => by simpa using hW'.lt x hx
  refine (ringActs_any A s0 sa1 g1 o1 len1 cap1 l1 W hs hsa1 happs1 hs0 hlen1 hok1).mono fun e W' ⟨he, hb⟩ => ?_
  subst he
  have hargs1 : DataW.Trod enc Tryd.prog W' 0 (fun b => decide (b < W.heap.size)) true 70 (.slice sa1 len1 cap1) d1 p1 := Below.trod Tryd.laidOut (by kernel_rfl) (of_decide_eq_true (by kernel_rfl)) h1k hb hlt
  exact ⟨_, rfl, _, _, _, [], p1, [], hW', trodAll_mk1 (shut_bool Tryd.underlying4 true), trodAll_mk2 (shut_string Tryd.underlying9 hs0) hargs1, rfl, hb.frame _, fun h => by cases h⟩

theorem ringActs_said : Rows.RingActsSaid :=
  OpenClaim.holds_of_wide 9 Tryd.f9 rfl rfl rfl rfl rfl rfl rfl ⟨rfl, rfl, rfl, rfl, rfl⟩ rfl rfl rfl rfl rfl (by kernel_rfl) Tryd.func9 (by kernel_rfl)
    (of_decide_eq_true (by kernel_rfl)) (by unfold Func.isWrapper; rw [if_neg (of_decide_eq_false (by kernel_rfl))]; exact ⟨rfl, rfl⟩)
    (fun os started H enc _ => ringActs_lifted os started H enc)

theorem ringActs_plain (f : FuncId) (fn : Func) (hf : Tryd.pinned.checked.prog.funcNamed "nightwatch/nightwatchlaw1.RingActs" = some f) (hfn : Tryd.pinned.checked.prog.funcs[f]? = some fn) :
    true = Tryd.pinned.checked.prog.looks [] ∧ ∀ (j : Nat) t, fn.params[j]? = some t → Tryd.pinned.checked.prog.wantsStandIn t = false := by
  obtain rfl : f = 9 := Option.some.inj ((show Tryd.prog.funcNamed "nightwatch/nightwatchlaw1.RingActs" = some 9 by kernel_rfl).symm.trans hf) |>.symm
  obtain rfl : fn = Tryd.f9 := (Option.some.inj (Tryd.func9.symm.trans hfn)).symm
  refine ⟨by kernel_rfl, fun j t ht => ?_⟩
  rw [Tryd.params9] at ht
  have hm : t ∈ [9, 70] := by simpa using Array.mem_of_getElem? ht
  have hall : ([9, 70].all fun u => !Tryd.prog.wantsStandIn u) = true := by kernel_rfl
  exact (show Tryd.prog.wantsStandIn t = false by simpa using List.all_eq_true.1 hall t hm)

/-- The card. -/
theorem ringActs_card : Rows.RingActsCardSaid :=
  Claim7.holds_tied_plain_at .later [] _ _ _ _ ringActs_said (fun _ h => by cases h) (by kernel_rfl) (fun _ h => by cases h) ringActs_row_tie rfl ⟨rfl, rfl⟩ (by kernel_rfl) rfl ringActs_plain (by kernel_rfl)
#print axioms ringActs_card
end Go.Proofs.YtebdepbnhemnpaaDoor
