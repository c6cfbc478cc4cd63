/-
  Proved: nightwatchlaw1.ConfReads answers true for every text; the argument reads afterwards as it read before. Conditions: those of the given card alone (the api's sentinels, errors.errorType, conf.keywords and the tables are as the program's own text lays them).
-/
import Derived.Test.YtbholbenjalliaaGreatDoorCards
import Derived.Test.YtbholbenjalliaaGreatDoorTie
import Derived.Test.YtbholbenjalliaaGreatDoorTlX
import Derived.Test.YtbholbenjalliaaGreatDoorRdWalkX
import Derived.ProofKit
import Derived.OpenShut
import Derived.Stop.Joined
import Derived.SevenTiedAt
import Derived.Carry
import Derived.HandedShaped
namespace Go.Proofs.YtbholbenjalliaaGreatDoor
open Go.ChangeShapes Go.WideShapes Go.ChangeAt Go.RowKit
open Go.ChangeMaps (open_string shut_string)

theorem lt_of_cell {W : World} {b o : Nat} {v : Value} (h : W.cell? ⟨b, o, none⟩ = some v) : b < W.heap.size := block_lt h
theorem globals_in {W : World} (hK : KwAt W) (hT : TabAt W) : max 12 16 + 1 ≤ W.heap.size := by
  have h1 := lt_of_cell (hK 0 (by decide))
  have h2 := lt_of_cell (Lib.TabIs.cell hT Tryz.tabNamed 0 (by decide))
  omega
theorem mx_of_shape {W : World} (h : W.ShapedOpen Tryz.prog) : MxAt W := Tryz.laysM146.s1_3 W h
set_option maxRecDepth 100000 in
theorem confReads_lifted (os : Os) (started : os.Started) (H : Type) (enc : TypeId × Value → H) :
    ReturnsInHanded {} Tryz.checked os 4 .any (fun w args => (Rows.confReadsSpec.pre enc Tryz.prog Tryz.f4 [] false w args ∧ laidMetH Tryz.prog txLaid w) ∧ sizedMet enc Tryz.prog Tryz.f4 (OpenSpec.ofChange Rows.confReadsSpec) false w args)
      (Rows.confReadsSpec.post enc Tryz.prog Tryz.f4 false true false false) := by
  refine returnsInHanded_of_calls (C := Tryz.checked) own started (by kernel_rfl)
    (ChangeSpec.witness_shaped (enc := enc) (C := Tryz.checked) (os := os) (X := fun w _ => laidMetH Tryz.prog txLaid w) false (World.layVars Tryz.prog ({ World.holding Tryz.prog os ⟨#[], #[], []⟩ with heap := ⟨Lay.setRows (World.holding Tryz.prog os ⟨#[], #[], []⟩).heap.toList [(11, [(.iface 165 (.agg #[.pointer (some ⟨19, 31, none⟩)]))])]⟩ } : World) txPlain) #[.string ⟨#[]⟩] 8 (World.layVars_os _ _ _) (World.shaped_of_ZipB (by kernel_rfl) (by kernel_rfl)) (by kernel_rfl) (by kernel_rfl) (by kernel_rfl) (tx_met os _)) ?_
  intro w tape i _ hsh _ hok hpre hholds
  obtain ⟨_, _, _, fn', hfn', _, _, _, _, hval0⟩ := hok
  obtain rfl : fn' = Tryz.f4 := Option.some.inj (hfn'.symm.trans Tryz.func4)
  obtain ⟨⟨⟨ds, gs, before, hw, hc⟩, hx⟩, hz⟩ := hpre
  have hW := DataW.Whole.of_heap (w' := w.forCall tape i) (by rfl) hw
  have hL : laidMetH Tryz.prog txLaid (w.forCall tape i) := hx.of_heap (by rfl)
  have hM : MxAt (w.forCall tape i) := mx_of_shape hsh
  obtain ⟨W, hWe⟩ : ∃ W, W = w.forCall tape i := ⟨_, rfl⟩
  have key : Calls Tryz.prog 4 i.args W fun e W' => ∃ v, e = .returned v ∧ Rows.confReadsSpec.post enc Tryz.prog Tryz.f4 false true false false W i.args v W' := by
    rw [← hWe] at hW hL hM hval0
    clear hWe hw hx hz hc hholds hsh
    obtain ⟨args, hargs⟩ : ∃ a, a = i.args := ⟨_, rfl⟩
    rw [← hargs] at hW hval0 ⊢
    clear hargs
    have hval : ∀ (j : Nat) t v, Tryz.f4.params[j]? = some t → args[j]? = some v → Value.okWide Tryz.prog W .any w.heap.size t v := hval0
    have hW' := hW
    obtain ⟨p, q, hA0, hV, rfl, hfz, hnd⟩ := hW
    have hA : DataW.TrodAll enc Tryz.prog W 0 (fun _ => true) true Tryz.f4.params.toList args.toList ds p := hA0
    rw [Tryz.params4] at hA hval
    obtain ⟨v0, d0, rfl, rfl, h0⟩ := trodAll_one hA
    obtain ⟨rfl, rfl⟩ := trodVars_none hV
    obtain ⟨s0, rfl, rfl, rfl, hs0⟩ := open_string Tryz.underlying9 (hval 0 9 v0 rfl rfl) h0
    obtain ⟨A, hs, hK, hT⟩ := tx_of_laid hL
    refine (reads_in A s0 W hs hK hT hM (globals_in hK hT)).mono fun e W' ⟨he, hb⟩ => ?_
    subst he
    exact ⟨_, rfl, _, _, _, [], [], [], hW', trodAll_mk1 (shut_bool Tryz.underlying4 true), trodAll_mk1 (shut_string Tryz.underlying9 hs0), rfl, hb.frame _, fun h => by cases h⟩
  rw [hWe] at key
  refine key.mono fun e W' ⟨v, he, hp⟩ => ?_
  subst he
  exact ChangeSpec.post_blind hp

theorem confReads_said : Rows.ConfReadsSaid :=
  OpenClaim.holds_of_wide 4 Tryz.f4 rfl rfl rfl rfl rfl rfl rfl ⟨rfl, rfl, rfl, rfl, rfl⟩ rfl rfl rfl rfl rfl (by kernel_rfl) Tryz.func4 (by kernel_rfl)
    (of_decide_eq_true (by kernel_rfl)) (by unfold Func.isWrapper; rw [if_neg (of_decide_eq_false (by kernel_rfl))]; exact ⟨rfl, rfl⟩)
    (fun os started H enc _ => confReads_lifted os started H enc)

theorem confReads_plain (f : FuncId) (fn : Func) (hf : Tryz.pinned.checked.prog.funcNamed "nightwatch/nightwatchlaw1.ConfReads" = some f) (hfn : Tryz.pinned.checked.prog.funcs[f]? = some fn) :
    true = Tryz.pinned.checked.prog.looks [] ∧ ∀ (j : Nat) t, fn.params[j]? = some t → Tryz.pinned.checked.prog.wantsStandIn t = false := by
  obtain rfl : f = 4 := Option.some.inj ((show Tryz.prog.funcNamed "nightwatch/nightwatchlaw1.ConfReads" = some 4 by kernel_rfl).symm.trans hf) |>.symm
  obtain rfl : fn = Tryz.f4 := (Option.some.inj (Tryz.func4.symm.trans hfn)).symm
  refine ⟨by kernel_rfl, fun j t ht => ?_⟩
  rw [Tryz.params4] at ht
  have hm : t ∈ [9] := by simpa using Array.mem_of_getElem? ht
  have hall : ([9].all fun u => !Tryz.prog.wantsStandIn u) = true := by kernel_rfl
  exact (show Tryz.prog.wantsStandIn t = false by simpa using List.all_eq_true.1 hall t hm)

/-- The card. -/
theorem confReads_card : Rows.ConfReadsCardSaid :=
  Claim7.holds_tied_plain_at .later [] _ _ _ _ confReads_said (fun _ h => by cases h) (by kernel_rfl) (fun _ h => by cases h) confReads_row_tie rfl ⟨rfl, rfl⟩ (by kernel_rfl) rfl confReads_plain (by kernel_rfl)
#print axioms confReads_card
end Go.Proofs.YtbholbenjalliaaGreatDoor
