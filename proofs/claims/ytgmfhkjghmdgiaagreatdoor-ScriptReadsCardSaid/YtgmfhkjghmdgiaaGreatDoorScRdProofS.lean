/-
  Proved: nightwatchlaw3.ScriptReads answers true for every text and every list of lines; each argument reads afterwards as it read before. Conditions: those of the given card alone (the api's and strconv's sentinels, conf.keywords and the tables are as the program's own text lays them).
-/
import Derived.Test.YtgmfhkjghmdgiaaGreatDoorP19S
import Derived.Test.YtgmfhkjghmdgiaaGreatDoorCards
import Derived.Test.YtgmfhkjghmdgiaaGreatDoorTie
set_option linter.all false
set_option maxHeartbeats 40000000
set_option maxRecDepth 100000
open Option renaming some→J
open Go.Proofs.Tryz
namespace Go.Proofs.YtgmfhkjghmdgiaaGreatDoor
open Go.ChangeShapes Go.WideShapes Go.ChangeAt Go.RowKit Go.Deep
theorem air:Rows.ScriptReadsSaid:=
 OpenClaim.holds_of_wide 3 f3 rfl rfl rfl rfl rfl rfl rfl ⟨rfl,rfl,rfl,rfl,rfl⟩ rfl rfl rfl rfl rfl (by as_aux_lemma=>kernel_rfl) func3 aiq
  (of_decide_eq_true (by as_aux_lemma=>kernel_rfl)) (by unfold Func.isWrapper;rw[aK (of_decide_eq_false (by kernel_rfl))];exact⟨rfl,rfl⟩)
  (λos started H enc _=>aij os started H enc)
theorem ais(f:FuncId) (fn:Func) (hf:Tryz.pinned.checked.prog.funcNamed "nightwatch/nightwatchlaw3.ScriptReads" = J f) (hfn:Tryz.pinned.checked.prog.funcs[f]?=J fn):true=Tryz.pinned.checked.prog.looks [] ∧ ∀(j:Nat) t, fn.params[j]?=J t→Tryz.pinned.checked.prog.wantsStandIn t=false:=by
  obtain rfl:f=3:=bj ((show prog.funcNamed "nightwatch/nightwatchlaw3.ScriptReads" = J 3 by kernel_rfl).symm.trans hf) |>.symm
  obtain rfl:fn=f3:=(bj (func3.symm.trans hfn)).symm
  refine⟨by kernel_rfl, λj t ht=>?_⟩
  rw [params3]at ht
  have hm:t ∈ [9, 22]:=by simpa using bA ht
  have hall:([9, 22].all λu => !prog.wantsStandIn u)=true:=by kernel_rfl
  exact(show prog.wantsStandIn t=false by simpa using py.1 hall t hm)
theorem scriptReads_card:Rows.ScriptReadsCardSaid:=
 Claim7.holds_tied_plain_at .later [] _ _ _ _ air (λ_ h=>by cases h) (by as_aux_lemma=>kernel_rfl) (λ_ h=>by cases h) scriptReads_row_tie rfl ⟨rfl,rfl⟩ (by as_aux_lemma=>kernel_rfl) rfl ais (by as_aux_lemma=>kernel_rfl)
#print axioms scriptReads_card
end Go.Proofs.YtgmfhkjghmdgiaaGreatDoor
