/-
  Several texts as one: ScPlLift, ScPlFact.
-/
import Derived.Test.YtgjlihibabmgcaaGreatDoorP11S
import Derived.Stop.Joined
import Derived.SevenTiedAt
import Derived.HandedShaped
import Derived.Test.YtgjlihibabmgcaaGreatDoorChecked
import Derived.JoinedOf
set_option linter.all false
set_option maxHeartbeats 40000000
set_option maxRecDepth 100000
open Go renaming Value→aw,World→ak
open Option renaming none→I,some→J
open Go.Proofs.Tryz
namespace Go.Proofs.YtgjlihibabmgcaaGreatDoor
open Go.ChangeAt Go.ChangeShapes Go.Deep Go.RowKit Go.WideShapes
def am7{W:ak}(h:W.ShapedOpen prog):pR W:=Jy.s1_3 W h
def am8(i:Nat)(h:i<11):IY (i+1)=lW (i+1):=by
 have:∀j:Fin 11,IY (j.1+1)=lW (j.1+1):=by decide
 exact this ⟨i,h⟩
def am9(os:Os)(started:os.Started)(H:Type)(enc:TypeId×aw->H):ReturnsInHanded {} checked os 3 .any (λw args=>(Rows.scriptPlaysSpec.pre enc prog f3 [] false w args/\laidMetH prog wG w)/\sizedMet enc prog f3 (OpenSpec.ofChange Rows.scriptPlaysSpec) false w args)
   (Rows.scriptPlaysSpec.post enc prog f3 false true false false):=by
 refine returnsInHanded_of_calls (C:=checked) own started (by as_aux_lemma=>kernel_rfl)
  (ChangeSpec.witness_shaped (enc:=enc) (C:=checked) (os:=os) (X:=λw _=>laidMetH prog wG w) false (World.laidAll prog os wG) #[.agg #[.int .i64 0,.int .i64 0,.int .i64 0,.int .i64 0,.slice I 0 0],.slice I 0 0] 8 (World.laidAll_os _ _ _) (World.shaped_of_ZipB (by as_aux_lemma=>kernel_rfl) (by as_aux_lemma=>kernel_rfl)) (by as_aux_lemma=>kernel_rfl) (by as_aux_lemma=>kernel_rfl) (by as_aux_lemma=>kernel_rfl) (ajc os _)) ?_
 intro w tape i _ C0 _ gj Df am_;obtain⟨_,_,_,apu,am',_,_,_,_,Jl⟩:=gj;obtain rfl:=fg (am'.symm.trans func3);obtain⟨⟨⟨ds,gs,before,hw,hc⟩,hx⟩,hz⟩:=Df;have hW:=DataW.Whole.of_heap (w':=w.forCall tape i) (by rfl) hw;have hL:laidMetH _ _ (w.forCall tape i):=hx.of_heap (by rfl);have hM:=am7 C0;obtain⟨W,OI⟩:∃W,W=w.forCall tape i:=⟨_,rfl⟩;have key:Calls prog 3 i.args W λe W'=>∃v,e=.returned v/\Rows.scriptPlaysSpec.post enc prog f3 false true false false W i.args v W':=by
  rw[<- OI]at hW hL hM Jl;clear OI hw hx hz hc am_ C0;obtain⟨args,OJ⟩:∃a,a=i.args:=⟨_,rfl⟩;rw[<- OJ]at hW Jl⊢;clear OJ;have hval:∀(j:Nat) t v,f3.params[j]?=J t->args[j]?=J v->Value.okWide prog W .any _ t v:=Jl;have vR:=hW;obtain⟨p,q,Wx,hV,rfl,Xx,qP⟩:=hW;have hA:=Wx;rw[params3]at hA hval;obtain⟨v0,apv,d0,apw,p0,q0,OJ,rfl,rfl,h0,r0⟩:=trodAll_cons hA;obtain⟨v1,apx,d1,apy,p1,q1,rfl,rfl,rfl,h1,r1⟩:=trodAll_cons r0;obtain⟨rfl,rfl,rfl⟩:=trodAll_nil r1;obtain rfl:args=#[v0,v1]:=by cases args;simp_all
  obtain⟨rfl,rfl⟩:=trodVars_none hV;obtain⟨cs0,rfl,apz⟩:=okWide_struct underlying24 (hval 0 24 v0 rfl rfl);have ana:=h0;obtain⟨apA,anb⟩:=h0;obtain⟨c0,OM,OO,anc,Cx⟩:=ajF (by simpa[Value.cells]using anb);obtain rfl:cs0=#[.int .i64 c0.closed,.int .i64 c0.opn,.int .i64 c0.cycle,.int .i64 c0.bE,.slice OM c0.az.length OO]:=Array.ext' anc;have ane:=h1;obtain⟨OD,apB,apC,rfl⟩:=okWide_slice underlying25 (hval 1 25 v1 rfl rfl);obtain⟨apD,nW⟩:=h1;obtain⟨JB,xi,L,lS,anf⟩:=ajC (by simpa[Value.cells]using nW);simp only[mf]at lS;obtain⟨rfl,rfl,rfl⟩:=lS;obtain⟨A,hs,hT⟩:=aja hL hM;clear Wx Jl;simp only[pk]at vR
  refine(amT A c0 OM OO L OD _ W hs (λi hi=>by rw[hT i hi,am8 i hi]) Cx anf).mono λe W' ⟨he,hb⟩=>?_
  subst he;have ang:∀x∈p0,x.block<W.heap.size:=λx hx=>vR.lt x (by simp[hx])
  have anh:DataW.Trod enc prog W' 0 (λb=>decide (b<W.heap.size)) true 24 (.agg #[.int .i64 c0.closed,.int .i64 c0.opn,.int .i64 c0.cycle,.int .i64 c0.bE,.slice OM c0.az.length OO]) d0 p0:=Below.trod laidOut (by as_aux_lemma=>kernel_rfl) (ar (by as_aux_lemma=>kernel_rfl)) ana hb ang;have JI:∀x∈p1,x.block<W.heap.size:=λx hx=>vR.lt x (by simp[hx])
  have ani:DataW.Trod enc _ W' 0 _ _ 25 _ d1 p1:=Below.trod laidOut (by as_aux_lemma=>kernel_rfl) (ar (by as_aux_lemma=>kernel_rfl)) ane hb JI;have Wy:DataW.TrodAll enc _ W' 0 _ _ [24,25] _ _ _:=(trodAll_cons_mk anh (trodAll_cons_mk ani trodAll_mk0));simp only[pk]at Wy;exact⟨_,rfl,_,_,_,[],p0++p1,[],vR,trodAll_mk1 (shut_bool underlying4 _),Wy,rfl,hb.frame _,λh=>by cases h⟩
 rw[OI]at key
 refine key.mono λe W' ⟨v,he,hp⟩=>?_
 subst he;exact ChangeSpec.post_blind hp
def anj{a b:Bool}(h1:a=true)(h2:b=true):(a&&b)=true:=by rw[h1,h2];rfl
def ank:joinedFacts Tryz.pinned.checked.prog 3 f3 Rows.scriptPlaysSpec Rows.scriptPlaysRow=true:=by
 unfold joinedFacts
 repeat' (with_reducible refine anj ?_ ?_)
 all_goals as_aux_lemma=>kernel_rfl
end Go.Proofs.YtgjlihibabmgcaaGreatDoor
