/-
  Several texts as one: ScAgLift.
-/
import Derived.Test.YtffpcbdlbcjihadGreatDoorP37S
import Derived.WalkKit
import Derived.ProofKit
import Derived.OpenShut
import Derived.Deep.Slices
import Derived.Stop.Joined
import Derived.SevenTiedAt
import Derived.Carry
import Derived.HandedShaped
namespace Go.Proofs.YtffpcbdlbcjihadGreatDoor
open Go.ChangeShapes Go.WideShapes Go.ChangeAt Go.RowKit Go.Deep
open Go.ChangeMaps (open_string shut_string)
theorem ag_mx {W:World}(h:W.ShapedOpen Tryz.prog):MxAt W:=Tryz.laysM146.s1_3 W h
set_option maxHeartbeats 40000000 in
set_option maxRecDepth 100000 in
theorem scriptAgain_lifted (os:Os)(started:os.Started)(H:Type)(enc:TypeId × Value->H) :
  ReturnsInHanded {} Tryz.checked os 4 .any (fun w args=>(Rows.scriptAgainSpec.pre enc Tryz.prog Tryz.f4 [] false w args/\laidMetH Tryz.prog agLaid w)/\sizedMet enc Tryz.prog Tryz.f4 (OpenSpec.ofChange Rows.scriptAgainSpec) false w args)
   (Rows.scriptAgainSpec.post enc Tryz.prog Tryz.f4 false true false false):=by
 refine returnsInHanded_of_calls (C:=Tryz.checked) own started (by as_aux_lemma=>kernel_rfl)
  (ChangeSpec.witness_shaped (enc:=enc) (C:=Tryz.checked) (os:=os) (X:=fun w _=>laidMetH Tryz.prog agLaid w) false (World.laidAll Tryz.prog os agLaid) #[.string ⟨#[]⟩,.slice none 0 0,.int .i64 0] 8 (World.laidAll_os _ _ _) (World.shaped_of_ZipB (by as_aux_lemma=>kernel_rfl) (by as_aux_lemma=>kernel_rfl)) (by as_aux_lemma=>kernel_rfl) (by as_aux_lemma=>kernel_rfl) (by as_aux_lemma=>kernel_rfl) (ag_met os _)) ?_
 intro w tape i _ hsh _ hok hpre hholds;obtain⟨_,_,_,fn',hfn',_,_,_,_,hval0⟩:=hok;obtain rfl:fn'=Tryz.f4:=Option.some.inj (hfn'.symm.trans Tryz.func4);obtain⟨⟨⟨ds,gs,before,hw,hc⟩,hx⟩,hz⟩:=hpre;have hW:=DataW.Whole.of_heap (w':=w.forCall tape i) (by rfl) hw;have hL:laidMetH Tryz.prog agLaid (w.forCall tape i):=hx.of_heap (by rfl);have hM:MxAt (w.forCall tape i):=ag_mx hsh;obtain⟨W,hWe⟩:∃ W,W=w.forCall tape i:=⟨_,rfl⟩;have key:Calls Tryz.prog 4 i.args W fun e W'=>∃ v,e=.returned v/\Rows.scriptAgainSpec.post enc Tryz.prog Tryz.f4 false true false false W i.args v W':=by
  rw[<- hWe] at hW hL hM hval0;clear hWe hw hx hz hc hholds hsh;obtain⟨args,hargs⟩:∃ a,a=i.args:=⟨_,rfl⟩;rw[<- hargs] at hW hval0 ⊢;clear hargs;have hval:∀ (j:Nat) t v,Tryz.f4.params[j]?=some t->args[j]?=some v->Value.okWide Tryz.prog W .any w.heap.size t v:=hval0;have hW':=hW;obtain⟨p,q,hA0,hV,rfl,hfz,hnd⟩:=hW;have hA:DataW.TrodAll enc Tryz.prog W 0 (fun _=>true) true Tryz.f4.params.toList args.toList ds p:=hA0;rw[Tryz.params4] at hA hval;obtain⟨v0,vs0,d0,ds0,p0,q0,hargs,rfl,rfl,h0,r0⟩:=trodAll_cons hA;obtain⟨v1,vs1,d1,ds1,p1,q1,rfl,rfl,rfl,h1,r1⟩:=trodAll_cons r0;obtain⟨v2,vs2,d2,ds2,p2,q2,rfl,rfl,rfl,h2,r2⟩:=trodAll_cons r1;obtain⟨rfl,rfl,rfl⟩:=trodAll_nil r2;obtain rfl:args=#[v0,v1,v2]:=by cases args;simp_all
  obtain⟨rfl,rfl⟩:=trodVars_none hV;obtain⟨s0,rfl,rfl,rfl,hs0⟩:=open_string Tryz.underlying9 (hval 0 9 v0 rfl rfl) h0;have h1k:=h1;obtain⟨sa1,len1,cap1,rfl⟩:=okWide_slice Tryz.underlying41 (hval 1 41 v1 rfl rfl);obtain⟨fuel1,hf1⟩:=h1;obtain⟨sa2,cap2,L,hv1,hL1⟩:=lines_of_trod (by simpa[Value.cells] using hf1);simp only[Value.slice.injEq] at hv1;obtain⟨rfl,rfl,rfl⟩:=hv1;obtain⟨x2,rfl,rfl,rfl,wx2⟩:=open_int Tryz.underlying3 (hval 2 3 v2 rfl rfl) h2;obtain⟨A,hs,hT⟩:=ag_of_laid hL hM;clear hA0 hval0;simp only[List.append_nil,List.nil_append] at hW'
  refine(again_in A agT s0 L sa1 cap1 x2 W hs hT hL1).mono fun e W' ⟨he,hb⟩=>?_
  subst he;have hlt1:∀ x∈p1,x.block < W.heap.size:=fun x hx=>hW'.lt x (by simp[hx])
  have hargs1:DataW.Trod enc Tryz.prog W' 0 (fun b=>decide (b < W.heap.size)) true 41 (.slice sa1 L.length cap1) d1 p1:=Below.trod Tryz.laidOut (by as_aux_lemma=>kernel_rfl) (of_decide_eq_true (by as_aux_lemma=>kernel_rfl)) h1k hb hlt1;have hAll:DataW.TrodAll enc Tryz.prog W' 0 (fun b=>decide (b < W.heap.size)) true [9,41,3] [.string s0,.slice sa1 L.length cap1,.int .i64 x2] _ _:=(trodAll_cons_mk (shut_string Tryz.underlying9 hs0) (trodAll_cons_mk hargs1 (trodAll_cons_mk (shut_int Tryz.underlying3 wx2) trodAll_mk0)));simp only[List.append_nil,List.nil_append] at hAll;exact⟨_,rfl,_,_,_,[],p1,[],hW',trodAll_mk1 (shut_bool Tryz.underlying4 true),hAll,rfl,hb.frame _,fun h=>by cases h⟩
 rw[hWe] at key
 refine key.mono fun e W' ⟨v,he,hp⟩=>?_
 subst he;exact ChangeSpec.post_blind hp
end Go.Proofs.YtffpcbdlbcjihadGreatDoor
