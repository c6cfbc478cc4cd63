/-
  Proved: nightwatchlaw1.DogActs answers true for every closed and open, and every list of acts; each argument reads afterwards as it read before. Conditions: those of the given card alone (the api's sentinels and errors.errorType are as the program's own text lays them).
-/
import Derived.Test.YtebdepbnhemnpaaDoorCards
import Derived.Test.YtebdepbnhemnpaaDoorTie
import Derived.Test.YtebdepbnhemnpaaDoorLaid
import Derived.Test.YtebdepbnhemnpaaDoorInts
import Derived.Test.YtebdepbnhemnpaaDoorDaWalk
import Derived.ProofKit
import Derived.OpenShut
import Derived.Stop.Joined
import Derived.SevenTiedAt
import Derived.Carry
namespace Go.Proofs.YtebdepbnhemnpaaDoor
open Go.ChangeShapes Go.WideShapes Go.ChangeAt Go.RowKit Go.Deep
open Go.ChangeMaps (open_string shut_string)

set_option maxRecDepth 100000 in
set_option maxHeartbeats 2000000 in
theorem dogActs_any (A : Nat → Addr) (c o : Int) (sa : Option Addr) (g p len cap : Nat) (l : Nat → Int) (w : World) (hs : Senv A w) (hsa : 0 < len → sa = some ⟨g, p, none⟩) (hl : IntsAt w g p len l) (hlen : len ≤ maxLen) :
    Calls Tryd.prog 12 #[.int .i64 c, .int .i64 o, .slice sa len cap] w fun e w' => e = .returned (.bool true) ∧ Below w.heap.size w w' := by
  unfold maxLen at hlen
  by_cases h300 : 300 < (len : Int)
  · clear hl hsa
    go_enter Tryd.func12, Tryd.ntmps12
    go_wp2_with fail
    refine (barks_any A _ hs).mono ?_
    rintro e w1 ⟨rfl, hb1⟩
    go_wp2
    go_ret
    exact ⟨rfl, hb1⟩
  by_cases gg : 0 ≤ c ∧ c ≤ 1000 ∧ 1 ≤ o ∧ o ≤ 1000
  · obtain ⟨c, rfl⟩ := Int.eq_ofNat_of_zero_le gg.1
    obtain ⟨o, rfl⟩ := Int.eq_ofNat_of_zero_le (show 0 ≤ o by omega)
    exact dogActs_in A c o sa g p len cap l w hs (by omega) (by omega) (by omega) hsa hl (by omega)
  · clear hl hsa
    by_cases t1 : c < 0
    · have HB : Hid (c < 0 ∨ 1000 < c ∨ o < 1 ∨ 1000 < o) := by show _ ∨ _; omega
      clear gg
      go_enter Tryd.func12, Tryd.ntmps12
      go_wp2_with fail
      refine (barks_any A _ hs).mono ?_
      rintro e w1 ⟨rfl, hb1⟩
      go_wp2_with fail
      refine (dog_new_out A c o w1 (hs.below hb1) HB.out).mono ?_
      rintro e w2 ⟨rfl, hb2⟩
      have hb2' := hb1.trans (hb2.mono hb1.size)
      unfold errVal
      go_wp2_with fail
      refine (coded_sent A 1 2 w2 (hs.below hb2') (by decide)).mono ?_
      rintro e w3 ⟨rfl, hb3⟩
      go_wp2
      go_ret
      exact ⟨rfl, hb2'.trans (hb3.mono hb2'.size)⟩
    by_cases t2 : 1000 < c
    · have HB : Hid (c < 0 ∨ 1000 < c ∨ o < 1 ∨ 1000 < o) := by show _ ∨ _; omega
      clear gg
      go_enter Tryd.func12, Tryd.ntmps12
      go_wp2_with fail
      refine (barks_any A _ hs).mono ?_
      rintro e w1 ⟨rfl, hb1⟩
      go_wp2_with fail
      refine (dog_new_out A c o w1 (hs.below hb1) HB.out).mono ?_
      rintro e w2 ⟨rfl, hb2⟩
      have hb2' := hb1.trans (hb2.mono hb1.size)
      unfold errVal
      go_wp2_with fail
      refine (coded_sent A 1 2 w2 (hs.below hb2') (by decide)).mono ?_
      rintro e w3 ⟨rfl, hb3⟩
      go_wp2
      go_ret
      exact ⟨rfl, hb2'.trans (hb3.mono hb2'.size)⟩
    by_cases t3 : o < 1
    · have HB : Hid (c < 0 ∨ 1000 < c ∨ o < 1 ∨ 1000 < o) := by show _ ∨ _; omega
      clear gg
      go_enter Tryd.func12, Tryd.ntmps12
      go_wp2_with fail
      refine (barks_any A _ hs).mono ?_
      rintro e w1 ⟨rfl, hb1⟩
      go_wp2_with fail
      refine (dog_new_out A c o w1 (hs.below hb1) HB.out).mono ?_
      rintro e w2 ⟨rfl, hb2⟩
      have hb2' := hb1.trans (hb2.mono hb1.size)
      unfold errVal
      go_wp2_with fail
      refine (coded_sent A 1 2 w2 (hs.below hb2') (by decide)).mono ?_
      rintro e w3 ⟨rfl, hb3⟩
      go_wp2
      go_ret
      exact ⟨rfl, hb2'.trans (hb3.mono hb2'.size)⟩
    have t4 : 1000 < o := by omega
    have HB : Hid (c < 0 ∨ 1000 < c ∨ o < 1 ∨ 1000 < o) := by show _ ∨ _; omega
    clear gg
    go_enter Tryd.func12, Tryd.ntmps12
    go_wp2_with fail
    refine (barks_any A _ hs).mono ?_
    rintro e w1 ⟨rfl, hb1⟩
    go_wp2_with fail
    refine (dog_new_out A c o w1 (hs.below hb1) HB.out).mono ?_
    rintro e w2 ⟨rfl, hb2⟩
    have hb2' := hb1.trans (hb2.mono hb1.size)
    unfold errVal
    go_wp2_with fail
    refine (coded_sent A 1 2 w2 (hs.below hb2') (by decide)).mono ?_
    rintro e w3 ⟨rfl, hb3⟩
    go_wp2
    go_ret
    exact ⟨rfl, hb2'.trans (hb3.mono hb2'.size)⟩

set_option maxRecDepth 100000 in
theorem dogActs_lifted (os : Os) (started : os.Started) (H : Type) (enc : TypeId × Value → H) :
    ReturnsInHanded {} Tryd.checked os 12 .any (fun w args => (Rows.dogActsSpec.pre enc Tryd.prog Tryd.f12 [] false w args ∧ laidMetH Tryd.prog seatLaid w) ∧ sizedMet enc Tryd.prog Tryd.f12 (OpenSpec.ofChange Rows.dogActsSpec) false w args)
      (Rows.dogActsSpec.post enc Tryd.prog Tryd.f12 false true false false) := by
  refine returnsInHanded_of_change_and (C := Tryd.checked) (X := fun w _ => laidMetH Tryd.prog seatLaid w) (fun _ _ _ hh h => h.of_heap hh) own started (by kernel_rfl) Tryd.func12
    (ChangeSpec.witness_shaped (enc := enc) (C := Tryd.checked) (os := os) (X := fun w _ => laidMetH Tryd.prog seatLaid w) false (World.doorLaid Tryd.prog 400 os) #[.int .i64 0, .int .i64 0, .slice none 0 0] 8 rfl (World.shaped_of_RefB (by kernel_rfl) (by kernel_rfl)) (by kernel_rfl) (by kernel_rfl) (by kernel_rfl) (door_met os _)) ?_
  intro W base args ds gs before hval0 hW _ _ hL _
  have hval : ∀ (j : Nat) t v, Tryd.f12.params[j]? = some t → args[j]? = some v → Value.okWide Tryd.prog W .any base t v := hval0
  have hW' := hW
  obtain ⟨p, q, hA0, hV, rfl, hfz, hnd⟩ := hW
  have hA : DataW.TrodAll enc Tryd.prog W 0 (fun _ => true) true Tryd.f12.params.toList args.toList ds p := hA0
  rw [Tryd.params12] at hA hval
  obtain ⟨v0, v1, v2, d0, d1, d2, p0, p1, p2, rfl, rfl, rfl, h0, h1, h2⟩ := trodAll_three hA
  obtain ⟨rfl, rfl⟩ := trodVars_none hV
  obtain ⟨x0, rfl, rfl, rfl, wx0⟩ := open_int Tryd.underlying3 (hval 0 3 v0 rfl rfl) h0
  obtain ⟨x1, rfl, rfl, rfl, wx1⟩ := open_int Tryd.underlying3 (hval 1 3 v1 rfl rfl) h1
  obtain ⟨sa2, len2, cap2, rfl⟩ := okWide_slice Tryd.underlying22 (hval 2 22 v2 rfl rfl)
  obtain ⟨A, hs⟩ := senv_of_laid hL
  have h2k := h2
  obtain ⟨fuel2, hf2⟩ := h2
  obtain ⟨g2, o2, l2, hlen2, hsa2, hints2, hok2⟩ := ints_of_trod (by simpa [Value.cells] using hf2)
  clear hA0 hval0
  simp only [List.append_nil, List.nil_append] at hW'
  have hlt : ∀ x ∈ p2, x.block < W.heap.size := fun x hx => by simpa using hW'.lt x hx
  refine (dogActs_any A x0 x1 sa2 g2 o2 len2 cap2 l2 W hs hsa2 hints2 hlen2).mono fun e W' ⟨he, hb⟩ => ?_
  subst he
  have hargs2 : DataW.Trod enc Tryd.prog W' 0 (fun b => decide (b < W.heap.size)) true 22 (.slice sa2 len2 cap2) d2 p2 := Below.trod Tryd.laidOutI (by kernel_rfl) (of_decide_eq_true (by kernel_rfl)) h2k hb hlt
  exact ⟨_, rfl, _, _, _, [], p2, [], hW', trodAll_mk1 (shut_bool Tryd.underlying4 true), trodAll_mk3 (shut_int Tryd.underlying3 wx0) (shut_int Tryd.underlying3 wx1) hargs2, rfl, hb.frame _, fun h => by cases h⟩

theorem dogActs_said : Rows.DogActsSaid :=
  OpenClaim.holds_of_wide 12 Tryd.f12 rfl rfl rfl rfl rfl rfl rfl ⟨rfl, rfl, rfl, rfl, rfl⟩ rfl rfl rfl rfl rfl (by kernel_rfl) Tryd.func12 (by kernel_rfl)
    (of_decide_eq_true (by kernel_rfl)) (by unfold Func.isWrapper; rw [if_neg (of_decide_eq_false (by kernel_rfl))]; exact ⟨rfl, rfl⟩)
    (fun os started H enc _ => dogActs_lifted os started H enc)

theorem dogActs_plain (f : FuncId) (fn : Func) (hf : Tryd.pinned.checked.prog.funcNamed "nightwatch/nightwatchlaw1.DogActs" = some f) (hfn : Tryd.pinned.checked.prog.funcs[f]? = some fn) :
    true = Tryd.pinned.checked.prog.looks [] ∧ ∀ (j : Nat) t, fn.params[j]? = some t → Tryd.pinned.checked.prog.wantsStandIn t = false := by
  obtain rfl : f = 12 := Option.some.inj ((show Tryd.prog.funcNamed "nightwatch/nightwatchlaw1.DogActs" = some 12 by kernel_rfl).symm.trans hf) |>.symm
  obtain rfl : fn = Tryd.f12 := (Option.some.inj (Tryd.func12.symm.trans hfn)).symm
  refine ⟨by kernel_rfl, fun j t ht => ?_⟩
  rw [Tryd.params12] at ht
  have hm : t ∈ [3, 3, 22] := by simpa using Array.mem_of_getElem? ht
  have hall : ([3, 3, 22].all fun u => !Tryd.prog.wantsStandIn u) = true := by kernel_rfl
  exact (show Tryd.prog.wantsStandIn t = false by simpa using List.all_eq_true.1 hall t hm)

/-- The card. -/
theorem dogActs_card : Rows.DogActsCardSaid :=
  Claim7.holds_tied_plain_at .later [] _ _ _ _ dogActs_said (fun _ h => by cases h) (by kernel_rfl) (fun _ h => by cases h) dogActs_row_tie rfl ⟨rfl, rfl⟩ (by kernel_rfl) rfl dogActs_plain (by kernel_rfl)
#print axioms dogActs_card
end Go.Proofs.YtebdepbnhemnpaaDoor
