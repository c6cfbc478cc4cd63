/-
  Proved: nightwatchlaw3.PlayRuns answers true for every config and every script; each argument reads afterwards as it read before. Conditions: those of the given card alone (the api's sentinels and errors.errorType are as the program's own text lays them).
-/
import Derived.Test.YtdpdbfhbojgigacGreatDoorR01S
import Derived.Test.YtdpdbfhbojgigacGreatDoorCards
import Derived.Test.YtdpdbfhbojgigacGreatDoorTie
import Derived.WalkKit
import Derived.ProofKit
import Derived.OpenShut
import Derived.Deep.Slices
import Derived.Stop.Joined
import Derived.SevenTiedAt
import Derived.Carry
import Derived.LaidLaws
import Derived.LaidMore
namespace Go.Proofs.YtdpdbfhbojgigacGreatDoor
open Go.ChangeShapes Go.WideShapes Go.ChangeAt Go.RowKit Go.Deep
open Go.ChangeMaps (open_string shut_string)
set_option maxHeartbeats 40000000 in
set_option maxRecDepth 100000 in
theorem playRuns_lifted (os:Os)(started:os.Started)(H:Type)(enc:TypeId × Value->H) :
  ReturnsInHanded {} Tryz.checked os 9 .any (fun w args=>(Rows.playRunsSpec.pre enc Tryz.prog Tryz.f9 [] false w args/\laidMetH Tryz.prog seatLaid w)/\sizedMet enc Tryz.prog Tryz.f9 (OpenSpec.ofChange Rows.playRunsSpec) false w args)
   (Rows.playRunsSpec.post enc Tryz.prog Tryz.f9 false true false false):=by
 refine returnsInHanded_of_change_and (C:=Tryz.checked) (X:=fun w _=>laidMetH Tryz.prog seatLaid w) (fun _ _ _ hh h=>h.of_heap hh) own started (by as_aux_lemma=>kernel_rfl) Tryz.func9
  (ChangeSpec.witness_shaped (enc:=enc) (C:=Tryz.checked) (os:=os) (X:=fun w _=>laidMetH Tryz.prog seatLaid w) false (World.doorLaid Tryz.prog 400 os) #[.agg #[.int .i64 0,.int .i64 0,.int .i64 0,.int .i64 0,.slice none 0 0],.slice none 0 0] 8 rfl (World.shaped_of_RefB (by as_aux_lemma=>kernel_rfl) (by as_aux_lemma=>kernel_rfl)) (by as_aux_lemma=>kernel_rfl) (by as_aux_lemma=>kernel_rfl) (by as_aux_lemma=>kernel_rfl) (door_met os _)) ?_
 intro W base args ds gs before hval0 hW _ _ hL _
 have hval:∀ (j:Nat) t v,Tryz.f9.params[j]?=some t->args[j]?=some v->Value.okWide Tryz.prog W .any base t v:=hval0
 have hW':=hW
 obtain⟨p,q,hA0,hV,rfl,hfz,hnd⟩:=hW
 have hA:DataW.TrodAll enc Tryz.prog W 0 (fun _=>true) true Tryz.f9.params.toList args.toList ds p:=hA0
 rw[Tryz.params9] at hA hval
 obtain⟨v0,vs0,d0,ds0,p0,q0,hargs,rfl,rfl,h0,r0⟩:=trodAll_cons hA
 obtain⟨v1,vs1,d1,ds1,p1,q1,rfl,rfl,rfl,h1,r1⟩:=trodAll_cons r0
 obtain⟨rfl,rfl,rfl⟩:=trodAll_nil r1
 obtain rfl:args=#[v0,v1]:=by cases args;simp_all
 obtain⟨rfl,rfl⟩:=trodVars_none hV
 obtain⟨cs0,rfl,hsz0⟩:=okWide_struct Tryz.underlying24 (hval 0 24 v0 rfl rfl)
 have h0k:=h0
 obtain⟨fuel0,hf0⟩:=h0
 obtain⟨c0,sa0,sc0,hcs0,hE0⟩:=cfg_of_trod (by simpa[Value.cells] using hf0)
 obtain rfl:cs0=#[.int .i64 c0.closed,.int .i64 c0.opn,.int .i64 c0.cycle,.int .i64 c0.delay,.slice sa0 c0.ents.length sc0]:=Array.ext' hcs0
 have h1k:=h1
 obtain⟨sa1,len1,cap1,rfl⟩:=okWide_slice Tryz.underlying36 (hval 1 36 v1 rfl rfl)
 obtain⟨fuel1,hf1⟩:=h1
 obtain⟨xs1,hxs1,hxl1,hxv1⟩:=ints_of_trodB (by simpa[Value.cells] using hf1)
 obtain⟨sl1,slc1,hsl1,-⟩:=id hxs1
 simp only[Value.slice.injEq] at hsl1
 obtain⟨rfl,rfl,rfl⟩:=hsl1
 obtain⟨A,hs⟩:=senv_of_laid hL
 clear hA0 hval0
 simp only[List.append_nil] at hW'
 refine(pr_in A c0 sa0 sc0 xs1 sa1 cap1 W hs hE0 hxs1 hxl1 hxv1).mono fun e W' ⟨he,hb⟩=>?_
 subst he
 have hlt0:∀ x∈p0,x.block < W.heap.size:=fun x hx=>hW'.lt x (by simp[hx])
 have hargs0:DataW.Trod enc Tryz.prog W' 0 (fun b=>decide (b < W.heap.size)) true 24 (.agg #[.int .i64 c0.closed,.int .i64 c0.opn,.int .i64 c0.cycle,.int .i64 c0.delay,.slice sa0 c0.ents.length sc0]) d0 p0:=Below.trod Tryz.laidOut (by as_aux_lemma=>kernel_rfl) (of_decide_eq_true (by as_aux_lemma=>kernel_rfl)) h0k hb hlt0
 have hlt1:∀ x∈p1,x.block < W.heap.size:=fun x hx=>hW'.lt x (by simp[hx])
 have hargs1:DataW.Trod enc Tryz.prog W' 0 (fun b=>decide (b < W.heap.size)) true 36 (.slice sa1 xs1.length cap1) d1 p1:=Below.trod Tryz.laidOut (by as_aux_lemma=>kernel_rfl) (of_decide_eq_true (by as_aux_lemma=>kernel_rfl)) h1k hb hlt1
 have hAll:DataW.TrodAll enc Tryz.prog W' 0 (fun b=>decide (b < W.heap.size)) true [24,36] [.agg #[.int .i64 c0.closed,.int .i64 c0.opn,.int .i64 c0.cycle,.int .i64 c0.delay,.slice sa0 c0.ents.length sc0],.slice sa1 xs1.length cap1] _ _:=(trodAll_cons_mk hargs0 (trodAll_cons_mk hargs1 trodAll_mk0))
 simp only[List.append_nil] at hAll
 exact⟨_,rfl,_,_,_,[],p0++p1,[],hW',trodAll_mk1 (shut_bool Tryz.underlying4 true),hAll,rfl,hb.frame _,fun h=>by cases h⟩
set_option maxHeartbeats 40000000 in
theorem playRuns_said:Rows.PlayRunsSaid:=
 OpenClaim.holds_of_wide 9 Tryz.f9 rfl rfl rfl rfl rfl rfl rfl ⟨rfl,rfl,rfl,rfl,rfl⟩ rfl rfl rfl rfl rfl (by as_aux_lemma=>kernel_rfl) Tryz.func9 (by as_aux_lemma=>kernel_rfl)
  (of_decide_eq_true (by as_aux_lemma=>kernel_rfl)) (by unfold Func.isWrapper;rw[if_neg (of_decide_eq_false (by kernel_rfl))];exact⟨rfl,rfl⟩)
  (fun os started H enc _=>playRuns_lifted os started H enc)
theorem playRuns_plain (f : FuncId) (fn : Func) (hf : Tryz.pinned.checked.prog.funcNamed "nightwatch/nightwatchlaw3.PlayRuns" = some f) (hfn : Tryz.pinned.checked.prog.funcs[f]? = some fn) :
    true = Tryz.pinned.checked.prog.looks [] ∧ ∀ (j : Nat) t, fn.params[j]? = some t → Tryz.pinned.checked.prog.wantsStandIn t = false := by
  obtain rfl : f = 9 := Option.some.inj ((show Tryz.prog.funcNamed "nightwatch/nightwatchlaw3.PlayRuns" = some 9 by kernel_rfl).symm.trans hf) |>.symm
  obtain rfl : fn = Tryz.f9 := (Option.some.inj (Tryz.func9.symm.trans hfn)).symm
  refine ⟨by kernel_rfl, fun j t ht => ?_⟩
  rw [Tryz.params9] at ht
  have hm : t ∈ [24, 36] := by simpa using Array.mem_of_getElem? ht
  have hall : ([24, 36].all fun u => !Tryz.prog.wantsStandIn u) = true := by kernel_rfl
  exact (show Tryz.prog.wantsStandIn t = false by simpa using List.all_eq_true.1 hall t hm)
set_option maxHeartbeats 40000000 in
theorem playRuns_card:Rows.PlayRunsCardSaid:=
 Claim7.holds_tied_plain_at .later [] _ _ _ _ playRuns_said (fun _ h=>by cases h) (by as_aux_lemma=>kernel_rfl) (fun _ h=>by cases h) playRuns_row_tie rfl ⟨rfl,rfl⟩ (by as_aux_lemma=>kernel_rfl) rfl playRuns_plain (by as_aux_lemma=>kernel_rfl)
#print axioms playRuns_card
end Go.Proofs.YtdpdbfhbojgigacGreatDoor
