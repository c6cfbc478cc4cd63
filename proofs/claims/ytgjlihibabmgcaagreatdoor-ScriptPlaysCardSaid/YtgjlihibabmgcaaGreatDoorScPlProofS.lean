/-
  Proved: nightwatchlaw3.ScriptPlays answers true for every config and every list of commands; each argument reads afterwards as it read before. Conditions: those of the given card alone (the api's and strconv's sentinels, conf.keywords and the tables are as the program's own text lays them).
-/
import Derived.Test.YtgjlihibabmgcaaGreatDoorP12S
import Derived.Test.YtgjlihibabmgcaaGreatDoorCards
import Derived.Test.YtgjlihibabmgcaaGreatDoorTie
set_option linter.all false
set_option maxHeartbeats 40000000
set_option maxRecDepth 100000
open Option renaming some→J
open Go.Proofs.Tryz
namespace Go.Proofs.YtgjlihibabmgcaaGreatDoor
open Go.ChangeShapes Go.WideShapes Go.ChangeAt Go.RowKit Go.Deep
def anl:Rows.ScriptPlaysSaid:=
 OpenClaim.holds_of_wide 3 f3 rfl rfl rfl rfl rfl rfl rfl ⟨rfl,rfl,rfl,rfl,rfl⟩ rfl rfl rfl rfl rfl (by as_aux_lemma=>kernel_rfl) func3 ank
  (ar (by as_aux_lemma=>kernel_rfl)) (by unfold Func.isWrapper;rw[aK (of_decide_eq_false (by kernel_rfl))];exact⟨rfl,rfl⟩)
  (λos started H enc _=>am9 os started H enc)
def anm(f:FuncId) (fn:Func) (hf:Tryz.pinned.checked.prog.funcNamed "nightwatch/nightwatchlaw3.ScriptPlays" = J f) (hfn:Tryz.pinned.checked.prog.funcs[f]?=J fn):true=Tryz.pinned.checked.prog.looks [] ∧ ∀(j:Nat) t, fn.params[j]?=J t→Tryz.pinned.checked.prog.wantsStandIn t=false:=by
  obtain rfl:f=3:=fg ((show prog.funcNamed "nightwatch/nightwatchlaw3.ScriptPlays" = J 3 by kernel_rfl).symm.trans hf) |>.symm
  obtain rfl:fn=f3:=(fg (func3.symm.trans hfn)).symm
  refine⟨by kernel_rfl, λj t ht=>?_⟩
  rw [params3]at ht
  have hm:t ∈ [24, 25]:=by simpa using bj ht
  have hall:([24, 25].all λu => !prog.wantsStandIn u)=true:=by kernel_rfl
  exact(show prog.wantsStandIn t=false by simpa using u5.1 hall t hm)
theorem scriptPlays_card:Rows.ScriptPlaysCardSaid:=
 Claim7.holds_tied_plain_at .later [] _ _ _ _ anl (λ_ h=>by cases h) (by as_aux_lemma=>kernel_rfl) (λ_ h=>by cases h) scriptPlays_row_tie rfl ⟨rfl,rfl⟩ (by as_aux_lemma=>kernel_rfl) rfl anm (by as_aux_lemma=>kernel_rfl)
#print axioms scriptPlays_card
end Go.Proofs.YtgjlihibabmgcaaGreatDoor
