/-
  Proved: nightwatchlaw3.SideReads answers true for every list of texts and every number, on every schedule and every other choice that the model leaves open; each argument reads afterwards as it read before. Conditions: those of the given card alone (the api's sentinels, conf.keywords and the tables are as the program's own text lays them).
-/
import Derived.Test.YtjjodkjbmgnbeaaGreatDoorP07S
import Derived.Test.YtjjodkjbmgnbeaaGreatDoorCards
import Derived.Test.YtjjodkjbmgnbeaaGreatDoorTie
set_option linter.all false
set_option maxHeartbeats 40000000
set_option maxRecDepth 100000
open Option renaming some→U
open Go.Proofs.Tryz
namespace Go.Proofs.YtjjodkjbmgnbeaaGreatDoor
open Go.ChangeShapes Go.WideShapes Go.ChangeAt Go.RowKit Go.Deep
def agR:Rows.SideReadsSaid:=
 OpenClaim.holds_of_wide_leaving 3 f3 rfl rfl rfl rfl rfl rfl rfl ⟨rfl,rfl,rfl,rfl,rfl⟩ rfl rfl rfl rfl rfl (by as_aux_lemma=>kernel_rfl) func3 agQ
  (aD (by as_aux_lemma=>kernel_rfl)) (by unfold Func.isWrapper;rw[aF (of_decide_eq_false (by kernel_rfl))];exact⟨rfl,rfl⟩)
  (λos started H enc _=>agI os started H enc)
def agS(f:FuncId) (fn:Func) (hf:Tryz.pinned.checked.prog.funcNamed "nightwatch/nightwatchlaw3.SideReads" = U f) (hfn:Tryz.pinned.checked.prog.funcs[f]?=U fn):true=Tryz.pinned.checked.prog.looks [] ∧ ∀(j:Nat) t, fn.params[j]?=U t→Tryz.pinned.checked.prog.wantsStandIn t=false:=by
  obtain rfl:f=3:=b_ ((show prog.funcNamed "nightwatch/nightwatchlaw3.SideReads" = U 3 by kernel_rfl).symm.trans hf) |>.symm
  obtain rfl:fn=f3:=(b_ (func3.symm.trans hfn)).symm
  refine⟨by kernel_rfl, λj t ht=>?_⟩
  rw [params3]at ht
  have hm:t ∈ [22, 3]:=by simpa using bU ht
  have hall:([22, 3].all λu => !prog.wantsStandIn u)=true:=by kernel_rfl
  exact(show prog.wantsStandIn t=false by simpa using mB.1 hall t hm)
def agT(Lk:Looks){p:Pinned}{s:OpenSpec}{c:OpenClaim}(kinds:List LaidKind)(tests:Bool)(zK:Bool×String)(lk:Bool)
  (hc:c.holds p s) (hw:c.wfByText s=true) (agU:c.laidByTextAt Lk p kinds tests)
  (hst:c.start=.entering) (agV:c.noBlocks=false/\c.again=false) (hm:p.checked.prog.mainIs=U (zK.1,zK.2.toList)) (hn:(!zK.1&&zK.2.isEmpty && !lk)=false)
  (hl:∀f fn,p.checked.prog.funcNamed c.func=U f->p.checked.prog.funcs[f]?=U fn->lk=p.checked.prog.looks []/\∀(j:Nat) t,fn.params[j]?=U t->p.checked.prog.wantsStandIn t=false)
  (hg:true=c.goesBy p.checked.prog):Claim7.holds p (.plain s) { stood:={ row:=c,standIns:=[],harness:=zK,looks:=lk },kinds:=[],alts:=[],goes:=true,laidByText:=true,laidKinds:=kinds,laidTests:=tests,laidLooks:=Lk }:=by
 have h6:Claim7.isSixth { stood:={ row:=c,standIns:=[],harness:=zK,looks:=lk },kinds:=[] }=false:=by simpa[Claim7.isSixth]using hn
 obtain⟨_,rest⟩:=Claim7.new_of_sixth hc zK lk hst agV hm h6 hl
 exact⟨⟨hw,rest⟩,(λ_ h=>by cases h),agU,(λh=>by cases h),hg⟩
theorem sideReads_card:Rows.SideReadsCardSaid:=
 agT .later _ _ _ _ agR (by as_aux_lemma=>kernel_rfl) sideReads_row_tie rfl ⟨rfl,rfl⟩ (by as_aux_lemma=>kernel_rfl) rfl agS (by as_aux_lemma=>kernel_rfl)
#print axioms sideReads_card
end Go.Proofs.YtjjodkjbmgnbeaaGreatDoor
