/-
  Proved: nightwatchlaw3.ScriptAgain answers true for every text, every list of commands and every number; each argument reads afterwards as it read before. Conditions: those of the given card alone (the api's and strconv's sentinels, conf.keywords and the tables are as the program's own text lays them).
-/
import Derived.Test.YtffpcbdlbcjihadGreatDoorScAgFact
import Derived.Test.YtffpcbdlbcjihadGreatDoorP38S
import Derived.Test.YtffpcbdlbcjihadGreatDoorCards
import Derived.Test.YtffpcbdlbcjihadGreatDoorTie
namespace Go.Proofs.YtffpcbdlbcjihadGreatDoor
open Go.ChangeShapes Go.WideShapes Go.ChangeAt Go.RowKit Go.Deep
set_option maxHeartbeats 40000000 in
theorem scriptAgain_said:Rows.ScriptAgainSaid:=
 OpenClaim.holds_of_wide 4 Tryz.f4 rfl rfl rfl rfl rfl rfl rfl ⟨rfl,rfl,rfl,rfl,rfl⟩ rfl rfl rfl rfl rfl (by as_aux_lemma=>kernel_rfl) Tryz.func4 ag_facts
  (of_decide_eq_true (by as_aux_lemma=>kernel_rfl)) (by unfold Func.isWrapper;rw[if_neg (of_decide_eq_false (by kernel_rfl))];exact⟨rfl,rfl⟩)
  (fun os started H enc _=>scriptAgain_lifted os started H enc)
theorem scriptAgain_plain (f : FuncId) (fn : Func) (hf : Tryz.pinned.checked.prog.funcNamed "nightwatch/nightwatchlaw3.ScriptAgain" = some f) (hfn : Tryz.pinned.checked.prog.funcs[f]? = some fn) :
    true = Tryz.pinned.checked.prog.looks [] ∧ ∀ (j : Nat) t, fn.params[j]? = some t → Tryz.pinned.checked.prog.wantsStandIn t = false := by
  obtain rfl : f = 4 := Option.some.inj ((show Tryz.prog.funcNamed "nightwatch/nightwatchlaw3.ScriptAgain" = some 4 by kernel_rfl).symm.trans hf) |>.symm
  obtain rfl : fn = Tryz.f4 := (Option.some.inj (Tryz.func4.symm.trans hfn)).symm
  refine ⟨by kernel_rfl, fun j t ht => ?_⟩
  rw [Tryz.params4] at ht
  have hm : t ∈ [9, 41, 3] := by simpa using Array.mem_of_getElem? ht
  have hall : ([9, 41, 3].all fun u => !Tryz.prog.wantsStandIn u) = true := by kernel_rfl
  exact (show Tryz.prog.wantsStandIn t = false by simpa using List.all_eq_true.1 hall t hm)
set_option maxHeartbeats 40000000 in
theorem scriptAgain_card:Rows.ScriptAgainCardSaid:=
 Claim7.holds_tied_plain_at .later [] _ _ _ _ scriptAgain_said (fun _ h=>by cases h) (by as_aux_lemma=>kernel_rfl) (fun _ h=>by cases h) scriptAgain_row_tie rfl ⟨rfl,rfl⟩ (by as_aux_lemma=>kernel_rfl) rfl scriptAgain_plain (by as_aux_lemma=>kernel_rfl)
#print axioms scriptAgain_card
end Go.Proofs.YtffpcbdlbcjihadGreatDoor
