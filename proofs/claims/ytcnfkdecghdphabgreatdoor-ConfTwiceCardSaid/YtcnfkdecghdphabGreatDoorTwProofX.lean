/-
  Proved: nightwatchlaw1.ConfTwice answers true for every text; the argument reads afterwards as it read before. Conditions: those of the given card alone (the api's sentinels, conf.keywords and the tables are as the program's own text lays them).
-/
import Derived.Test.YtcnfkdecghdphabGreatDoorCards
import Derived.Test.YtcnfkdecghdphabGreatDoorTie
import Derived.Test.YtcnfkdecghdphabGreatDoorTwLaidX
import Derived.Test.YtcnfkdecghdphabGreatDoorRd2X
import Derived.ProofKit
import Derived.OpenShut
import Derived.Stop.Joined
import Derived.SevenTiedAt
import Derived.Carry
import Derived.HandedShaped
namespace Go.Proofs.YtcnfkdecghdphabGreatDoor
open Go.ChangeShapes Go.WideShapes Go.ChangeAt Go.RowKit
open Go.ChangeMaps (open_string shut_string)

theorem lt_of_cell {W : World} {b o : Nat} {v : Value} (h : W.cell? ⟨b, o, none⟩ = some v) : b < W.heap.size := block_lt h
theorem globals_in {W : World} (hK : KwAt W) (hT : TabAt W) : max 12 16 + 1 ≤ W.heap.size := by
  have h1 := lt_of_cell (hK 0 (by decide))
  have h2 := lt_of_cell (Lib.TabIs.cell hT Tryz.tabNamed 0 (by decide))
  omega
theorem mx_of_shape {W : World} (h : W.ShapedOpen Tryz.prog) : MxAt W := Tryz.laysM146.s1_3 W h
set_option maxRecDepth 100000 in
set_option maxHeartbeats 2000000 in
theorem twice_any (A : Nat → Addr) (s : ByteArray) (w : World) (hs : Sen6 A w) (hK : KwAt w) (hT : TabAt w) (hM : MxAt w) :
    Calls Tryz.prog 3 #[.string s] w fun v w' => v = .returned (.bool true) ∧ Below w.heap.size w w' := by
  by_cases hl : s.size ≤ 2000
  · exact twice_in A s w hs hK hT hM (globals_in hK hT) hl
  · have HT : Hid _ := told_at A w hs hK hT (globals_in hK hT)
    have l1 : (2000 : Int) < (s.size : Int) := by omega
    clear hs hK hT hM
    go_enter Tryz.func3, Tryz.ntmps3
    go_wp2_with fail
    refine Calls.mono HT.out ?_
    rintro e w1 ⟨rfl, hb1⟩
    go_wp2
    go_ret
    exact ⟨rfl, hb1⟩

set_option maxRecDepth 100000 in
theorem confTwice_lifted (os : Os) (started : os.Started) (H : Type) (enc : TypeId × Value → H) :
    ReturnsInHanded {} Tryz.checked os 3 .any (fun w args => (Rows.confTwiceSpec.pre enc Tryz.prog Tryz.f3 [] false w args ∧ laidMetH Tryz.prog twLaid w) ∧ sizedMet enc Tryz.prog Tryz.f3 (OpenSpec.ofChange Rows.confTwiceSpec) false w args)
      (Rows.confTwiceSpec.post enc Tryz.prog Tryz.f3 false true false false) := by
  refine returnsInHanded_of_calls (C := Tryz.checked) own started (by kernel_rfl)
    (ChangeSpec.witness_shaped (enc := enc) (C := Tryz.checked) (os := os) (X := fun w _ => laidMetH Tryz.prog twLaid w) false (World.laidAll Tryz.prog os twLaid) #[.string ⟨#[]⟩] 8 (World.laidAll_os _ _ _) (World.shaped_of_ZipB (by kernel_rfl) (by kernel_rfl)) (by kernel_rfl) (by kernel_rfl) (by kernel_rfl) (tw_met os _)) ?_
  intro w tape i _ hsh _ hok hpre hholds
  obtain ⟨_, _, _, fn', hfn', _, _, _, _, hval0⟩ := hok
  obtain rfl : fn' = Tryz.f3 := Option.some.inj (hfn'.symm.trans Tryz.func3)
  obtain ⟨⟨⟨ds, gs, before, hw, hc⟩, hx⟩, hz⟩ := hpre
  have hW := DataW.Whole.of_heap (w' := w.forCall tape i) (by rfl) hw
  have hL : laidMetH Tryz.prog twLaid (w.forCall tape i) := hx.of_heap (by rfl)
  have hM : MxAt (w.forCall tape i) := mx_of_shape hsh
  obtain ⟨W, hWe⟩ : ∃ W, W = w.forCall tape i := ⟨_, rfl⟩
  have key : Calls Tryz.prog 3 i.args W fun e W' => ∃ v, e = .returned v ∧ Rows.confTwiceSpec.post enc Tryz.prog Tryz.f3 false true false false W i.args v W' := by
    rw [← hWe] at hW hL hM hval0
    clear hWe hw hx hz hc hholds hsh
    obtain ⟨args, hargs⟩ : ∃ a, a = i.args := ⟨_, rfl⟩
    rw [← hargs] at hW hval0 ⊢
    clear hargs
    have hval : ∀ (j : Nat) t v, Tryz.f3.params[j]? = some t → args[j]? = some v → Value.okWide Tryz.prog W .any w.heap.size t v := hval0
    have hW' := hW
    obtain ⟨p, q, hA0, hV, rfl, hfz, hnd⟩ := hW
    have hA : DataW.TrodAll enc Tryz.prog W 0 (fun _ => true) true Tryz.f3.params.toList args.toList ds p := hA0
    rw [Tryz.params3] at hA hval
    obtain ⟨v0, d0, rfl, rfl, h0⟩ := trodAll_one hA
    obtain ⟨rfl, rfl⟩ := trodVars_none hV
    obtain ⟨s0, rfl, rfl, rfl, hs0⟩ := open_string Tryz.underlying9 (hval 0 9 v0 rfl rfl) h0
    obtain ⟨A, hs, hK, hT⟩ := tw_of_laid hL
    refine (twice_any A s0 W hs hK hT hM).mono fun e W' ⟨he, hb⟩ => ?_
    subst he
    exact ⟨_, rfl, _, _, _, [], [], [], hW', trodAll_mk1 (shut_bool Tryz.underlying4 true), trodAll_mk1 (shut_string Tryz.underlying9 hs0), rfl, hb.frame _, fun h => by cases h⟩
  rw [hWe] at key
  refine key.mono fun e W' ⟨v, he, hp⟩ => ?_
  subst he
  exact ChangeSpec.post_blind hp

theorem confTwice_said : Rows.ConfTwiceSaid :=
  OpenClaim.holds_of_wide 3 Tryz.f3 rfl rfl rfl rfl rfl rfl rfl ⟨rfl, rfl, rfl, rfl, rfl⟩ rfl rfl rfl rfl rfl (by kernel_rfl) Tryz.func3 (by kernel_rfl)
    (of_decide_eq_true (by kernel_rfl)) (by unfold Func.isWrapper; rw [if_neg (of_decide_eq_false (by kernel_rfl))]; exact ⟨rfl, rfl⟩)
    (fun os started H enc _ => confTwice_lifted os started H enc)

theorem confTwice_plain (f : FuncId) (fn : Func) (hf : Tryz.pinned.checked.prog.funcNamed "nightwatch/nightwatchlaw1.ConfTwice" = some f) (hfn : Tryz.pinned.checked.prog.funcs[f]? = some fn) :
    true = Tryz.pinned.checked.prog.looks [] ∧ ∀ (j : Nat) t, fn.params[j]? = some t → Tryz.pinned.checked.prog.wantsStandIn t = false := by
  obtain rfl : f = 3 := Option.some.inj ((show Tryz.prog.funcNamed "nightwatch/nightwatchlaw1.ConfTwice" = some 3 by kernel_rfl).symm.trans hf) |>.symm
  obtain rfl : fn = Tryz.f3 := (Option.some.inj (Tryz.func3.symm.trans hfn)).symm
  refine ⟨by kernel_rfl, fun j t ht => ?_⟩
  rw [Tryz.params3] at ht
  have hm : t ∈ [9] := by simpa using Array.mem_of_getElem? ht
  have hall : ([9].all fun u => !Tryz.prog.wantsStandIn u) = true := by kernel_rfl
  exact (show Tryz.prog.wantsStandIn t = false by simpa using List.all_eq_true.1 hall t hm)

/-- The card. -/
theorem confTwice_card : Rows.ConfTwiceCardSaid :=
  Claim7.holds_tied_plain_at .later [] _ _ _ _ confTwice_said (fun _ h => by cases h) (by kernel_rfl) (fun _ h => by cases h) confTwice_row_tie rfl ⟨rfl, rfl⟩ (by kernel_rfl) rfl confTwice_plain (by kernel_rfl)
#print axioms confTwice_card
end Go.Proofs.YtcnfkdecghdphabGreatDoor
