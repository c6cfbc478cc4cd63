/-
  Several texts as one: GaNew, DcHas, EqPair, LcMod, KpPure, CfArgB, CfArgE, FlKey, KpFit, KpMem, KpMore, PlPure, CfSplit, ScPure, Shelf2, LoPure, FlSt, FlOps, Orders2.
-/
import Derived.Test.YtgmfhkjghmdgiaaGreatDoorP03S
import Derived.Laws.StructEq
import Derived.ProofKit
import Derived.OpenShut
import Derived.Deep.Slices
import Derived.Carry
import Derived.DeepKeys4
import Derived.Maps.OwnSet
import Derived.Maps.Own
import Derived.Lib.Split
import Derived.Lib.Atoi
import Derived.Lib.AtoiBound
import Derived.Lib.Join
import Derived.Lib.Replace
import Derived.Lib.Strings
import Derived.Shelf.LaysC
import Derived.Shelf.Strconv.Atoi
import Derived.Shelf.Strconv.AtoiErr
import Derived.Shelf.Strings.OnBuilder
import Derived.Shelf.Strings.Replace
import Derived.Maps.RangeWalk
import Derived.Maps.AppendAt
set_option linter.all false
set_option maxHeartbeats 40000000
set_option maxRecDepth 100000
abbrev qq.{u}:=@List.take_append_drop.{u}
abbrev vS.{u}:=@List.getElem?_of_mem.{u}
abbrev xC.{u}:=@List.getElem_of_mem.{u}
abbrev sD.{u}:=@beq_iff_eq.{u}
open Go renaming Addr→az,Value→ar,World→ai
open Go.Ending renaming returned→ax
open Go.IntKind renaming i64→R
open Go.Obj renaming cells→au
open Go.RowKit renaming Hid→aa
open Go.Value renaming agg→aU,bool→aI,int→U,pointer→aj,slice→af,string→aq,tuple→bn
open Option renaming none→I,some→J
open Go.Proofs.Tryz
namespace Go.Proofs.YtgmfhkjghmdgiaaGreatDoor
open Go.RowKit Go.Extern.Stop Go.Stop Go.Extern
theorem YQ:(prog.info? 288).map (λi=>(i.zero,i.size,i.bytes))=J (J (aU #[U R 0,U R 0,U R 0,U R 0,U R 0]),5,40):=by kernel_rfl
theorem YR{w:ai}{ops:Array Oper}{rest:List Oper}{o:Oper}{a:Act}{Q:Exit->Act->ai->Prop}(hgd:o.guard=I)(l c:Operand)(t:TypeId)
  (ho:o.op=Op.makeSlice t l c) (B:Nat) (e:TypeId) (i:TypeInfo) (z:ar) (size bytes:Nat) (ht:prog.underlying t=J (.slice e)) (hi:prog.info? e=J i) (hz:i.zero=J z) (hsize:i.size=size) (hby:i.bytes=bytes) (n:Nat)
  (hl:a.eval l=U R 0) (hc:a.eval c=U R (n:Int)) (hn:n<=1000000) (qY:bytes<=1000) (hB:B<=w.heap.size)
  (h:∀w',w'.ownsRow B e size (af (J ⟨w.heap.size,0,I⟩) 0 n) 0 []->Below w.heap.size w w'->w'.heap.size=w.heap.size+1->wpList prog ops Q rest (a.put o.dst (af (J ⟨w.heap.size,0,I⟩) 0 n)) w'):wpList prog ops Q (o::rest) a w:=by
 refine wpList_plain hgd λK hK=>?_
 have hm:i.bytes*n<=1000*1000000:=Nat.mul_le_mul (by omega) hn;have hr:=run_make (P:=prog) w t e i z ht hi hz R R 0 n (qJ _) (by omega) (by have:((i.bytes*n:Nat):Int)<=281474976710656:=(by omega);rwa [Int.natCast_mul]at this) (by omega);simp only[Int.toNat_zero,yU]at hr;unfold Oper.wp execOp;simp only[ho,hl,hc,rZ,Sem.run_pure,vH,hr]
 refine hK _ _ (h _ ?_ (aN _ _) (by simp));have:=za (e:=e) (size:=size) w (madeCells z.cells (n*i.size)) n hB (by unfold maxLen;omega) (by rw[size_madeCells,hsize]);exact this
variable {B b cap:Nat}{w0 w w':ai}{sa:Option az}{s:cj}{xs:List WG}
theorem YS{v:ar}{xs:List WG}{bad:Bool}(hb:w.heap[b]?=J (au #[v,aI bad] 286 (0,0)))(ho:bU ra 5 288 B w v xs)(fE:B<=b)(hf:cj.fit ⟨xs,bad⟩):∃sa cap,eI B w b sa cap ⟨xs,bad⟩:=by
 rcases ho.2 with⟨rfl,h0⟩|⟨g,cap,cur,rfl,hB,hg,hle,-⟩
 ·have:=qI h0;subst this;exact⟨_,0,hb,λe=>absurd rfl e,fE,hf⟩
 refine⟨_,cap,hb,λhne=>⟨g,0,rfl,λe=>?_,hB,λi x hx j u hu=>?_,cur,hg⟩,fE,hf⟩
 ·subst e;rw[hg]at hb;simp only[eR,l_]at hb;exact absurd hb.2.1 (by decide)
 have:=ho.cells (g:=g) rfl _ u (Ei Ih xs i j x u hx hu);rw[kP]at this;rw[qX];exact this
theorem YT(name:ByteArray)(aJ cnt mn mx:Int)(pv ev fv lv:ar)(ga:Option az)(gc:Nat)(gs:List fM)(w:ai)(hg:bN iD 4 w (af ga gs.length gc) gs)(hlen:gs.length<=1000000):Calls prog 154 #[aU #[aq name,U R aJ,pv,U R cnt,U R mn,U R mx,af ga gs.length gc,ev,fv,lv]] w λv w'=>∃b,v=ax (aj (J ⟨b,0,I⟩))/\YM w w' b (cj.new gs):=by
 obtain⟨i0,hi,hz0,hz1,hz2⟩:=fj YQ;have HG:aa (bN _ 4 w _ gs):=hg;have HL:aa _:=hlen;clear hg hlen;go_enter func154,ntmps154
 go_upto_region 2 with(refine YR rfl _ _ 284 rfl w.heap.size 288 i0 _ 5 40 underlying284 hi hz0 hz1 hz2 _ rfl rfl HL.o (by decide) (by simp) ?_;intro w1 hown1 hb1 hs1)
 obtain⟨W,hW⟩:∃V,V=w1.alloc (au #[af (J ⟨w.heap.size+1,0,I⟩) 0 gs.length,aI false] 286):=⟨_,rfl⟩;have NS:w1.heap.size=w.heap.size+2:=by rw[hs1];simp
 clear hs1;have hBl:Below w.heap.size w W:=by rw[hW];exact(((aC _ _).alloc (aQ _) _).trans (hb1.mono (by simp))).alloc (by omega) _
 have gK:aa _:=hBl;have rf:aa (W.heap[w.heap.size+2]?=J (au #[af (J ⟨w.heap.size+1,0,I⟩) 0 gs.length,aI false] 286 (0,0))):=by
  show _=_
  rw[hW,<- NS];exact cR w1 _
 have e6:W.cell? ⟨w.heap.size,6,I⟩=J (af ga gs.length gc):=by
  have h1:=bG hb1 (cR w (au _ 84));have h2:=bG (aN w1 (au #[af (J ⟨w.heap.size+1,0,I⟩) 0 gs.length,aI false] 286)) h1;rw[hW];simp[World.cell?,h2]
 have BU:aa (W.ownsRow w.heap.size 288 5 (af (J ⟨w.heap.size+1,0,I⟩) 0 gs.length) 0 []):=by
  show World.ownsRow _ _ _ _ _ _ _
  have h3:=hown1;simp only[qT]at h3;rw[hW];exact h3.alloc _
 have YU:aa (W.heap.size=w.heap.size+3):=by show _=_;rw[hW,qT];omega
 rw[<- hW,show w.heap.size+1+1=w.heap.size+2 from rfl];clear hW hown1 hb1 NS hBl;go_wp2_with fail
 go_loopw [15,5] (λi _ wr=>∃k:Nat,k<=gs.length/\i=U R k/\Below w.heap.size w wr/\∃va vc,wr.heap[w.heap.size+2]?=J (au #[af va k vc,aI false] 286 (0,0))/\wr.ownsRow w.heap.size 288 5 (af va k vc) k (((gs.take k).map WG.new).flatMap ra)) (λi _ _=>gs.length-(intOf i).toNat)
 case atStart=>exact⟨0,bI _,rfl,gK.o,_,_,rf.o,by simpa using BU.o⟩
 case round=>
  clear e6 rf BU gK YU;obtain⟨k,hk,rfl,iE,va,vc,zu,im⟩:=hrel;have HB:aa _:=iE;have NT:aa _:=zu;have iq:aa (wr.ownsRow _ 288 5 _ k _):=im;clear iE zu im
  by_cases hlt:k<gs.length
  ·have k1:(k:Int)<(gs.length:Int):=by omega
   have k2:k<1000000:=by have:=HL.o;omega
   obtain⟨x,hx⟩:∃x,gs[k]?=J x:=⟨_,bH hlt⟩;have HX:aa (((gs.take (k+1)).map WG.new).flatMap ra=((gs.take k).map WG.new).flatMap ra++[U R x.fr,U R x.to,U R x.mn,U R x.mx,U R (-1)]):=by
    show _=_
    rw[fW,hx];simp[ra,WG.new]
   obtain⟨dI,cap',ck,-,hcc⟩:=id HG.o
   cases ck
   obtain⟨g,o,rfl,hc0⟩:=hcc (λh=>by rw[h]at hx;simp at hx);have c0:wr.cell? ⟨g,o+k*4,_⟩=J _:=aG HB.o (hc0 k _ hx 0 _ rfl);have c1:=aG HB.o (hc0 k _ hx 1 _ rfl);have c2:=aG HB.o (hc0 k _ hx 2 _ rfl);have c3:=aG HB.o (hc0 k _ hx 3 _ rfl);clear hcc hc0 hx;go_upto_region 5 with fail
   obtain⟨V,hV⟩:∃V,V=wr.alloc (au #[U R x.fr,U R x.to,U R x.mn,U R x.mx] 86):=⟨_,rfl⟩;rw[<- hV];have jZ:aa (Below wr.heap.size wr V):=by show Below _ _ _;rw[hV];exact aN _ _
   have YV:aa (V.heap.size=wr.heap.size+1):=by show _=_;rw[hV,qT]
   have dd:∀(j:Nat) u,([U R x.fr,U R x.to,U R x.mn,U R x.mx]:List _)[j]?=J u->V.cell? ⟨wr.heap.size,0+j,I⟩=J u:=λj u hu=>by
    rw[hV];have:=sB wr _ 86 j u hu;rwa [kP]at this
   have d0:=dd 0 _ rfl;have d1:=dd 1 _ rfl;have d2:=dd 2 _ rfl;have d3:=dd 3 _ rfl;simp only[nj]at d0 d1 d2 d3;clear hV c0 c1 c2 c3 dd;have Ii:aa _:=bG jZ.o NT.o;have YW:aa (V.ownsRow _ 288 5 _ k _):=BR.below iq.o jZ.o;have hown:V.drew.ownsRow _ 288 5 _ k _:=YW.o;have lH:w.heap.size<=V.heap.size:=bw HB.o.size (by have:=YV.o;omega);have c8:V.cell? ⟨w.heap.size+2,0,I⟩=J (af va k vc):=by simp[World.cell?,Ii.o]
   have BV:∀ob,(V.alloc ob).cell? _=J _:=λob=>aG (aN _ _) c8
   have ai0:∀ob,(V.alloc ob).cell? _=J _:=λob=>aG (aN _ _) d0
   have KB:aa (∀(ob:Obj) (w8:ai),(V.drew.alloc ob).grownBy w8 (Value.slice va k vc).ownBlock->w8.heap[w.heap.size+2]?=J (au #[af va k vc,aI false] 286 (0,0))):=λob w8 hg=>by
    have h1:(V.drew.alloc ob).heap[w.heap.size+2]?=J _:=bG (w:=V.drew) (aN _ _) Ii.o;exact(hg.block _ (bJ h1) (λe2=>Em (w:=V.drew) hown Ii.o (by decide) e2.symm)).trans h1
   have KL:aa (∀(ob:Obj) (w8:ai),(V.drew.alloc ob).grownBy w8 (Value.slice va k vc).ownBlock->Below w.heap.size w w8):=λob w8 hg=>by
    have h1:Below _ w (V.drew.alloc ob):=(HB.o.trans (jZ.o.mono HB.o.size)).drew.alloc (by simp;omega) _;exact h1.grown hg h1.size (λi hi=>(hown.lt i hi).1)
   go_wp2_with fail
   go_region_law (refine ni _ rfl _ _ 284 rfl _ 288 i0 _ 5 40 underlying284 hi hz0 hz1 hz2 rfl (by decide) _ k _ (by simp[Act.eval]) (hown.alloc _) _ 1 1 _ (by simp[Act.eval]) rfl (sB V.drew [U R x.fr,U R x.to,U R x.mn,U R x.mx,U R (-1)] 288) (YL ⟨x,-1⟩) (by decide) (by unfold maxLen;omega) (by omega) (by simp;omega) (V.heap.size+1) (by simp) ?_;intro g' cap' w8 dy bZ cH ld;have r8:=KB.o _ _ bZ;have d8:w8.cell? ⟨w.heap.size+2,0,I⟩=J (af va k vc):=(by simp[World.cell?,r8]);have d9:w8.frozen? ⟨w.heap.size+2,0,I⟩=false:=(by simp[World.frozen?,r8]))
   all_goals
    go_wp2_with fail
    go_roundw
    case rel=>
     refine⟨k+1,by omega,by go_num,?_,J ⟨g',0,I⟩,cap',?_,?_⟩
     ·exact(KL.o _ _ bZ).setCell (p:=⟨_,0,_⟩) (by simp) _
     ·simp[World.setCell,dr,r8]
     rw[HX.o];exact dy.kept (fp w8 _ _ _) (aP (λe2=>Em dy r8 (by decide) e2))
    case measure=>simp[intOf];omega
  have k1:¬(k:Int)<(gs.length:Int):=by omega
  have lh:k=gs.length:=by omega
  have HF:aa (∃sa cap,eI w.heap.size wr _ sa cap ⟨(gs.take k).map _,_⟩):=YS NT.o (by
   have:=iq.o;show World.ownsRow _ _ _ _ _ _ _
   rw[show ((gs.take k).map _).length=k by simp;omega];exact this) (by omega) (by rw[lh,l4];exact cj.T4 gs)
  have HE:aa (cj.new gs=⟨(gs.take k).map WG.new,false⟩):=by show _=_;rw[lh,l4];rfl
  go_wp2;go_ret
  refine⟨_,rfl,HB.o,?_⟩;rw[HE.o];exact HF.o
end Go.Proofs.YtgmfhkjghmdgiaaGreatDoor
namespace Go.Proofs.YtgmfhkjghmdgiaaGreatDoor
open Go.RowKit Go.Extern.Stop Go.Stop Go.Extern
theorem BW{w:ai}{sa:Option az}{cap:Nat}{l:List Int}(h:bN bm 1 w (af sa l.length cap) l){k:Nat}{x:Int}(hx:l[k]?=J x):∃g o,sa=J ⟨g,o,I⟩/\∀i x,l[i]?=J x->w.cell? ⟨g,o+i,I⟩=J (U R x):=by
 obtain⟨dI,cap',ck,-,hcc⟩:=h
 cases ck
 obtain⟨g,o,rfl,hc0⟩:=hcc (λh=>by rw[h]at hx;simp at hx);exact⟨g,o,rfl,λi x hx=>by have:=hc0 i x hx 0 _ rfl;simpa using this⟩
theorem YX(l:List Int)(n:Int)(sa:Option az)(cap:Nat)(w:ai)(h:bN bm 1 w (af sa l.length cap) l)(hn:l.length<=1000000):Calls prog 123 #[af sa l.length cap,U R n] w λe w'=>e=ax (aI (l.any λy=>decide (n=y)))/\w'=w:=by
 have HL:aa (bN _ 1 w _ l):=h;clear h;go_enter func123,ntmps123
 go_wp2_with fail
 go_loopw [5] (λi wr=>wr=w/\∃k:Nat,k<=l.length/\i=U R k/\∀j x,j<k->l[j]?=J x->n≠x) (λi _=>l.length-(intOf i).toNat)
 case atStart=>exact⟨rfl,0,bI _,rfl,λj x hj=>absurd hj (by omega)⟩
 case round=>
  obtain⟨rfl,k,hk,rfl,hno⟩:=hrel;have HN:aa _:=hno;clear hno
  by_cases hlt:k<l.length
  ·have k1:(k:Int)<(l.length:Int):=by omega
   obtain⟨x,hx⟩:∃x,l[k]?=J x:=⟨_,bH hlt⟩;have HX:aa _:=hx;obtain⟨g,o,rfl,hc⟩:=BW HL.o hx;have c0:=hc k x hx;clear hc hx
   by_cases e:x=n
   ·subst e;have HE:aa ((l.any λy=>decide (x=y))=true):=by show _=_;rw[nR];exact⟨x,cM HX.o,by simp⟩
    go_wp2;go_ret;exact⟨by rw[HE.o];rfl,rfl⟩
   go_wp2_with fail
   go_roundw
   case rel=>
    refine⟨trivial,k+1,by omega,by go_num,λj y hj hy=>?_⟩
    rcases fR j k with h1|h1
    ·exact HN.o j y h1 hy
    obtain rfl:j=k:=by omega
    rw[HX.o]at hy
    cases hy
    exact λe2=>e e2.symm
   case measure=>simp[intOf];omega
  have k1:¬(k:Int)<(l.length:Int):=by omega
  have HE:aa ((l.any λy=>decide (n=y))=false):=by
   show _=_
   rw[lW];intro y hy;obtain⟨j,hj⟩:=vS hy;have zj:j<l.length:=by
    rcases fR j l.length with h'|h'
    ·exact h'
    rw[iI h']at hj;cases hj
   simpa using HN.o j y (by omega) hj
  go_wp2;go_ret;exact⟨by rw[HE.o];rfl,rfl⟩
theorem YY(a b c d:Int)(w:ai):(Op.equalIn 10000 87 (aU #[U R a,U R b]) (aU #[U R c,U R d])).run prog w=.ok ((a==c)&&(b==d)) w:=by
 rw[show (10000:Nat)=9998+2 from rfl,Op.equalIn];simp only[rZ,run_underlying underlying87,vH,sizeOf3,Std.Legacy.Range.forIn_eq_forIn_range',Std.Legacy.Range.size,Nat.sub_zero,Bp,Nat.div_one];have p0:∀x y:Int,(part 3 #[U R x,U R y] (0*1)).run prog w=.ok (U R x) w:=λx y=>by simp[part]
 have p1:∀x y:Int,(part 3 #[U R x,U R y] (1*1)).run prog w=.ok (U R y) w:=λx y=>by simp[part]
 have pe:∀x y:Int,(Op.equalIn _ 3 _ _).run _ w=.ok (x==y) w:=λx y=>run_equalIn_int w 9998 3 R R _ _ underlying3
 have hr:List.range' 0 2 1=[0,1]:=by decide
 rw[hr];simp only[List.forIn_cons,List.forIn_nil,rZ,p0,pe,vH]
 cases h1:(a==c)
 ·simp
 simp only[Bool.not_true,Bool.false_eq_true,if_false,Sem.run_pure,vH,Bool.true_and,rZ,p1,pe]
 cases h2:(b==d)<;>simp
theorem Eo(a b c d:Int)(w:ai):(binOp .eql 87 (aU #[U R a,U R b]) (aU #[U R c,U R d])).run prog w=.ok (aI ((a==c)&&(b==d))) w:=by
 rw[run_eql_struct,YY];rfl
theorem Ep:prog.eqGuardType prog.depth 87=false:=by kernel_rfl
theorem BX{w:ai}{b j:Nat}{cs:Array ar}{T:TypeId}(h:w.heap[b]?=J (au cs T (0,0)))(u:ar):(w.setCell ⟨b,j,I⟩ u).heap[b]?=J (au (cs.setIfInBounds j u) T (0,0)):=by
 simp only[World.setCell,dr,h];simp
section
variable {w0 w w':ai}{b:Nat}{e:aF}{pa ga ea fa la:Option az}{pc gc ec fc lc:Nat}{s s':bB}{sv ai1:ar}
def pJ:Nat->ByteArray
 |0=>⟨#[105,100,108,101]⟩
 |1=>⟨#[111,107]⟩
 |2=>⟨#[102,97,105,108,101,100]⟩
 |_=>⟨#[101,120,112,105,114,101,100]⟩
end
end Go.Proofs.YtgmfhkjghmdgiaaGreatDoor
namespace Go.Proofs.YtgmfhkjghmdgiaaGreatDoor
open Go
structure aH where
 c:aM
 d:cS
 L:List Rec
 sp:Bool
 ls:List bB
 t:cD
def aH.on(K:aH):Nat:=if K.c.off=true then 8 else if K.d.reset=true then 11 else 0
def aH.fN(K:aH)(i:Nat)(s:bB):aH:={ K with ls:=K.ls.set i s }
def bB.xD(s:bB):Nat:=if s.act then 10 else 0
def bB.kQ(s:bB):Nat:=if s.act then 0 else 9
def bB.vT(e:aF)(s:bB)(p:Int):Nat:=if s.act then (if jP e p=true then 0 else 5)else 9
def aH.begin(K:aH)(i:Int):aH×Nat:=
 if K.on≠0 then (K,K.on)else if i<0 then (K,5)else match K.ls[i.toNat]? with
 |none=>(K,5)
 |some s=>(K.fN i.toNat s.begin,s.xD)
def aH.stop(K:aH)(i:Int):aH×Nat:=
 if K.on≠0 then (K,K.on)else if i<0 then (K,5)else match K.ls[i.toNat]? with
 |none=>(K,5)
 |some s=>(K.fN i.toNat s.stop,s.kQ)
def nZ:aF:=⟨⟨#[]⟩,0,[],0,0,0,[],[],[],[]⟩
def aH.report(c:aS)(K:aH)(i p:Int):aH×Nat:=
 if K.on≠0 then (K,K.on)else if i<0 then (K,5)else match K.ls[i.toNat]? with
 |none=>(K,5)
 |some s=>(K.fN i.toNat (s.rep (c.aw.getD i.toNat nZ) p (K.d.now:Int)),s.vT (c.aw.getD i.toNat nZ) p)
def aH.app(K:aH)(e k t:Nat):aH×Nat:=
 if K.sp=true then (K,8)else if (fT K.L).seq=4294967295 then (K,7)
 else if (K.c.eU (jW K.L e k t)).2=0 then ({ K with c:=(K.c.eU (jW K.L e k t)).1,L:=qW K.L (jW K.L e k t) },0)
 else ({ K with c:=(K.c.eU (jW K.L e k t)).1,sp:=true },(K.c.eU (jW K.L e k t)).2)
def aH.gW(c:aS)(K:aH)(i:Nat):aH×Nat:=match K.ls[i]? with
 |none=>(K,0)
 |some s=>if s.turns (c.aw.getD i nZ)=true then (K.fN i (s.fin (c.aw.getD i nZ))).app i (s.kind (c.aw.getD i nZ)).toNat K.d.now else (K.fN i (s.fin (c.aw.getD i nZ)),0)
def aH.ends(c:aS)(K:aH):Nat->aH×Nat
 |0=>(K,0)
 |n+1=>if (K.ends c n).2=0 then (K.ends c n).1.gW c n else K.ends c n
def aH.last(K:aH):aH:=
 let K1:={ K with t:=K.t.fin (K.ls.map λs=>pJ s.status) }
 if K1.t.st≠3/\K1.d.nu=true then { K1 with d:=K1.d.vQ }else K1
def aH.fF(K:aH):aH:={ K with d:=K.d.tick }
def aH.tick(c:aS)(K:aH):aH×Nat:=
 if K.on≠0 then (K,K.on)
 else if K.fF.d.reset=true then (K.fF,11)
 else if K.fF.d.now%c.cycle.toNat≠0 then (K.fF,0)
 else if (K.fF.ends c c.aw.length).2=0 then ((K.fF.ends c c.aw.length).1.last,0)
 else K.fF.ends c c.aw.length
def aH.opened(c:aS)(K:aH):aH:=⟨K.c,K.d,kK (K.c.bytes.take K.c.size),false,c.aw.map λ_=>bB.new,cD.new c.bC.toNat⟩
def aH.new(c:aS)(s:aM):aH:=aH.opened c ⟨s,cS.new c.closed.toNat c.opn.toNat,[],false,[],cD.new 0⟩
def aH.j4(c:aS)(K:aH):aH×Nat:=
 if K.on=0 then (K,10)else (aH.opened c { K with c:={ K.c with off:=false,cut:=false,left:=0 },d:=K.d.start },0)
def aH.fO(c:aS)(K:aH):Nat->aH×Nat
 |0=>(K,0)
 |n+1=>if (K.tick c).2=0 then (K.tick c).1.fO c n else K.tick c
def aH.cut(K:aH)(n:Int):aH×Nat:=if n<0 then (K,2)else if K.c.off=true then (K,8)else ({ K with c:={ K.c with cut:=true,left:=n.toNat } },0)
structure bQ(c:aS)(K:aH)(k W:Nat):Prop where
 big:kM K.c
 left:K.c.left<=9223372036854775807
 wr:K.c.written<=W
 sp:K.sp=true->K.c.off=true
 gX:K.L.length<=8
 last:(fT K.L).seq<=4294967295
 len:K.ls.length=c.aw.length
 each:∀s∈K.ls,gJ s (k+K.d.now)/\s.ms.length<=k/\∀m∈s.ms,0<=m.tick/\m.tick<=1099511627776
 lI:qg K.t 20
 now:K.d.now<=1099511627776
 win:K.d.closed<=1000/\K.d.opn<=1000/\K.d.jX<=K.d.begun/\K.d.begun<=K.d.now
end Go.Proofs.YtgmfhkjghmdgiaaGreatDoor
namespace Go.Proofs.YtgmfhkjghmdgiaaGreatDoor
open Go.ChangeShapes Go.WideShapes Go.ChangeAt Go.RowKit Go.Deep
theorem laidOut:laidOutB prog=true:=by kernel_rfl
theorem YZ{W:ai}{a:az}{v:ar}(h:W.cell? a=J v):a=⟨a.block,a.off,I⟩:=by
 obtain⟨b,o,s⟩:=a
 cases s with
 |none=>rfl
 |some x=>
  exfalso
  unfold World.cell? at h
  split at h
  ·simp at h
  cases h
theorem add_plain(b o j:Nat):(⟨b,o,I⟩:az).add j=⟨b,o+j,I⟩:=by unfold Addr.add;split<;>simp_all
theorem NU{W:ai}{a:az}{k:Nat}{cs:List ar}(h:W.cells? 0 a k=J cs):cs.length=k/\∀j u,cs[j]?=J u->W.cell? (a.add j)=J u:=by
 unfold World.cells? at h;rw[aR (bI _)]at h;have hl:cs.length=k:=by simpa using Lib.mapM_length h
 refine⟨hl,λj u hu=>?_⟩;have hj:j<k:=by have:=(dT.1 hu).1;omega
 obtain⟨b,h1,h2⟩:=Lib.mapM_at h j j (by simp[hj]);rw[hu]at h1
 cases h1
 exact h2
theorem Y0{α:Type}(d:α){n:Nat}{p:Nat->α->Prop}(h:∀i,i<n->∃x,p i x):∃f:Nat->α,∀i,i<n->p i (f i):=by
 classical
 refine⟨λi=>if hi:i<n then Classical.choose (h i hi)else d,λi hi=>?_⟩;simp only[dif_pos hi];exact Classical.choose_spec _
theorem Y1{α:Type}(d:α){Q:List ar->α->Prop}{H:Type}{enc:TypeId×ar->H}{W:ai}{T Ts:TypeId}{k fuel:Nat}{cs:List ar}{x:DataW H×List MemPlace}(hs:prog.underlying Ts=J (.slice T))(hk:prog.cellsOf T=k)(eY:0<k)
  (Ij:∀n cs x,DataW.trod enc prog W 0 (λ_=>true) true n T cs=J x->∃a,Q cs a) (h:DataW.trod enc prog W 0 (λ_=>true) true fuel Ts cs=J x):∃(sa:Option az) (cap:Nat) (xs:List α),cs=[.slice sa xs.length cap]/\xs.length<=cap/\(xs≠[]->∃b o,sa=J ⟨b,o,I⟩/\∀i a,xs[i]?=J a->∃cs',Q cs' a/\∀j u,cs'[j]?=J u->W.cell? ⟨b,o+i*k+j,I⟩=J u):=by
 rcases open_slice hs h with⟨hcs,-⟩|⟨a,len,cap,m,n,D,Pl,hcs,-,hlc,hcm,hm,-,hall⟩
 ·exact⟨_,0,[],by simpa using hcs,aQ _,λe=>absurd rfl e⟩
 simp only[if_true]at hm;subst hm;rw[hk]at hall;obtain⟨f,hf⟩:=Y0 d (n:=len) (p:=λi y=>∃cs',Q cs' y/\W.cells? 0 (a.add (i*k)) k=J cs') (λi hi=>by
  obtain⟨cs',h1,h2⟩:=hall i (by omega);obtain⟨y,hy⟩:=Ij _ _ _ h2;exact⟨y,cs',hy,h1⟩)
 have iL:((List.range len).map f).length=len:=by simp
 refine⟨_,m,_,by rw[iL];exact hcs,by rw[iL];exact hlc,λhne=>?_⟩;have y_:0<len:=by
  rcases Nat.eq_zero_or_pos len with h0|h0
  ·subst h0;exact absurd rfl hne
  exact h0
 have ha:a=⟨a.block,a.off,I⟩:=by
  obtain⟨cs',-,h1⟩:=hf 0 y_;obtain⟨hl,hc⟩:=NU h1;have e:(a.add (0*k)).add 0=a:=by simp[Addr.add]
  have:=hc 0 (cs'[0]'(by omega)) (bH _);rw[e]at this;exact YZ this
 refine⟨_,_,mY _ ha,λi y hy=>?_⟩;rw[gR,m_]at hy;obtain⟨i',hi',rfl⟩:=hy;obtain⟨Y2,oP⟩:=dT.1 hi';have Er:i<len:=by simpa using Y2
 obtain rfl:=by simpa using oP
 obtain⟨cs',h1,h2⟩:=hf i Er
 refine⟨cs',h1,λj u hu=>?_⟩;have:=(NU h2).2 j u hu;rw[ha,add_plain,add_plain]at this;exact this
theorem Y3{α:Type}(d:α){ec:α->List ar}{H:Type}{enc:TypeId×ar->H}{W:ai}{T Ts:TypeId}{k fuel:Nat}{v:ar}{x:DataW H×List MemPlace}(hs:prog.underlying Ts=J (.slice T))(hk:prog.cellsOf T=k)(eY:0<k)
  (Ij:∀n cs x,DataW.trod enc prog W 0 (λ_=>true) true n T cs=J x->∃a,cs=ec a) (h:DataW.trod enc prog W 0 (λ_=>true) true fuel Ts [v]=J x):∃xs:List α,bN ec k W v xs:=by
 obtain⟨sa,cap,xs,hcs,hl,hx⟩:=Y1 d (Q:=λcs a=>cs=ec a) hs hk eY Ij h;simp only[List.cons.injEq,and_true]at hcs
 refine⟨xs,sa,cap,hcs,hl,λhne=>?_⟩;obtain⟨b,o,h1,h2⟩:=hx hne
 refine⟨b,o,h1,λi y hy j u hu=>?_⟩;obtain⟨cs',rfl,h3⟩:=h2 i y hy;exact h3 j u hu
theorem Y4{H:Type}{enc:TypeId×ar->H}{W:ai}(n:Nat)(cs:List ar)(x:DataW H×List MemPlace)(h:DataW.trod enc prog W 0 (λ_=>true) true n 9 cs=J x):∃z:ByteArray,cs=bS z:=by
 obtain⟨z,h1,-,-⟩:=DataW.trod_string underlying9 h;exact⟨z,h1⟩
theorem NV:prog.cellsOf 87=2:=by kernel_rfl
theorem NW:prog.cellsOf 3=1/\prog.cellsOf 9=1/\prog.cellsOf 22=1/\prog.cellsOf 81=1/\prog.cellsOf 82=1/\prog.cellsOf 65=1:=⟨by kernel_rfl,by kernel_rfl,by kernel_rfl,by kernel_rfl,by kernel_rfl,by kernel_rfl⟩
end Go.Proofs.YtgmfhkjghmdgiaaGreatDoor
namespace Go.Proofs.YtgmfhkjghmdgiaaGreatDoor
open Go.RowKit Go.Extern.Stop Go.Stop Go.Extern Go.Maps
theorem Y5:(87:TypeId)<prog.types.size:=of_decide_eq_true (by kernel_rfl)
theorem Y6:(match prog.underlying 87 with|some (.array _ _)|some (.struct _)=>true|_=>false)=true:=by rw[underlying87]
theorem Ik:Maps.Keyed prog 87:=Maps.Keyed.of_law (deep_law_laid laidOut (m:=2) (by omega) Y5 (by kernel_rfl) Y6)
theorem Y7:prog.keyType 87=true:=by kernel_rfl
theorem Y8:prog.types.size=390:=by kernel_rfl
def ll(n:Int):Prop:=(Lit.int .i64 n).wf=true
theorem BZ{n:Int}(h0:-1<=n)(h1:n<=1000000):ll n:=by
 show (decide _&&decide _)=true
 have e1:IntKind.min R=-9223372036854775808:=by decide
 have e2:IntKind.max R=9223372036854775807:=by decide
 rw[e1,e2,bM (by omega),bM (by omega)];rfl
def sF(l:List (Int×Int)):Prop:=∀p∈l,ll p.1/\ll p.2
def ud(p:Int×Int):Lit:=.string (keyBytes [.int .i64 p.1,.int .i64 p.2])
theorem Es{a b:Int}(ha:ll a)(hb:ll b):keyOf prog 87 (.agg #[.int .i64 a,.int .i64 b])=J (ud (a,b)):=by
 unfold ll at ha hb;have hf:(Value.agg #[.int .i64 a,.int .i64 b]).formed prog 87=true:=by simp[Value.formed,NV]
 have hl:prog.keyLits (390+1) 87 [.int .i64 a,.int .i64 b]=J [.int .i64 a,.int .i64 b]:=by
  have h1:∀(n:Nat) (c:Int),(Lit.int .i64 c).wf=true->prog.keyLits (n+1) 3 [.int .i64 c]=J [.int .i64 c]:=λn c hc=>by simp[Program.keyLits,hc]
  unfold Program.keyLits;simp only[underlying87,NV,NW];have e0:=h1 (390-1) a ha;have e1:=h1 (390-1) b hb;simp[List.range,List.range.loop,e0,e1]
 unfold keyOf;rw[underlying87];simp only[Y7,hf,Bool.and_self,if_true,Y8];rw[show (Value.agg _).cells.toList=[.int .i64 a,.int .i64 b]from rfl,hl];rfl
theorem Y9{p q:Int×Int}(hp:ll p.1/\ll p.2)(hq:ll q.1/\ll q.2)(h:ud p=ud q):p=q:=by
 have h1:=Es hp.1 hp.2;have h2:=Es hq.1 hq.2;have e:=Ik.inj h1 (h2.trans (by rw[show ud _=ud _ from h]));simp at e
 exact Prod.ext e.1 e.2
def zv(D:DataW Unit)(l:List (Int×Int)):Prop:=
 IsMap D/\(l=[]->Maps.size D=0)/\∀p:Int×Int,ll p.1->ll p.2->Maps.has D (ud p)=decide (p∈l)
theorem Y_:zv (.map []) []:=⟨isMap_empty,λ_=>rfl,λ_ _ _=>by simp[Maps.has]⟩
theorem Y'{D:DataW Unit}{l:List (Int×Int)}(h:zv D l)(p:Int×Int)(hp:ll p.1/\ll p.2):zv (D.put (ud p) (.agg [])) (l++[p]):=by
 refine⟨h.1.put _ _,λe=>by simp at e,λq h1 h2=>?_⟩
 by_cases e:q=p
 ·subst e;rw[Maps.has_put_same h.1 (by trivial)];simp
 have hne:ud q≠ud p:=λh'=>e (Y9 ⟨h1,h2⟩ hp h')
 rw[Maps.has_put_other hne,h.2.2 q h1 h2];simp[e]
theorem Za{D:DataW Unit}{l:List (Int×Int)}(h:zv D l)(hw:sF l):(Maps.size D=0↔l=[]):=by
 refine⟨λhs=>?_,h.2.1⟩
 cases l with
 |nil=>rfl
 |cons p t=>
  have h1:=h.2.2 p (hw p (by simp)).1 (hw p (by simp)).2;obtain⟨es,rfl⟩:=h.1;have h0:=qI hs;subst h0;simp[Maps.has]at h1
end Go.Proofs.YtgmfhkjghmdgiaaGreatDoor
namespace Go.Proofs.YtgmfhkjghmdgiaaGreatDoor
open Go
structure gi(c:aS):Prop where
 cl:0<=c.closed/\c.closed<=1000
 op:1<=c.opn/\c.opn<=1000
 cy:1<=c.cycle/\c.cycle<=100
 de:0<=c.bC/\c.bC<=20
 le:c.cycle<=c.opn
 nn:c.aw.length<=8
 each:∀e∈c.aw,k7 e/\e.cnt<(e.ak.length:Int)/\0<=e.aJ/\sF e.aA
theorem qg.NX{s:cD}(h:qg s 20)(l:List ByteArray):qg (s.fin l) 20:=by
 have h':=h.fin l
 refine⟨h'.d,?_,h'.lt,h'.st,h'.z⟩;have hd:=h.d;have h0:=h.s0;have hl:=h.lt;unfold cD.fin
 split
 ·exact h0
 split
 ·rename_i h2;have:=hl h2;unfold cD.cut
  split<;>(show s.since+1<=20;omega)
 unfold cD.cut
 split<;>exact bI _
section
variable {c:aS}{K:aH}{k W:Nat}
theorem Zb(e:aF)(l:List eW)(cyc:Int):0<=vR e l cyc/\vR e l cyc<=3:=by
 unfold vR
 split
 ·decide
 split
 ·decide
 split<;>decide
theorem Il(e:aF)(s:bB):0<=s.kind e/\s.kind e<=3:=by
 unfold bB.kind
 split
 ·exact Zb _ _ _
 decide
theorem aH.Et:K.on=0↔K.c.off=false/\K.d.reset=false:=by
 unfold aH.on
 cases K.c.off<;>cases K.d.reset<;>simp
theorem bQ.mono(h:bQ c K k W){k' W':Nat}(hk:k<=k')(hW:W<=W'):bQ c K k' W':=
 ⟨h.big,h.left,bw h.wr hW,h.sp,h.gX,h.last,h.len,λs hs=>⟨(h.each s hs).1.mono (by omega),bw (h.each s hs).2.1 hk,(h.each s hs).2.2⟩,h.lI,h.now,h.win⟩
theorem bQ.fN(h:bQ c K k W){i:Nat}{s:bB}(hs:gJ s (k+K.d.now)/\s.ms.length<=k/\∀m∈s.ms,0<=m.tick/\m.tick<=1099511627776):bQ c (K.fN i s) k W:=
 ⟨h.big,h.left,h.wr,h.sp,h.gX,h.last,by show (K.ls.set i s).length=_;rw[ze];exact h.len,λx hx=>by
  rcases List.mem_or_eq_of_mem_set hx with hx|rfl
  ·exact h.each x hx
  exact hs,h.lI,h.now,h.win⟩
theorem NY(s:bB):s.begin.ms=s.ms\/s.begin.ms=[]:=by unfold bB.begin;split;exact a_ rfl;exact aP rfl
theorem bQ.begin(h:bQ c K k W)(i:Int):bQ c (K.begin i).1 (k+1) W:=by
 unfold aH.begin
 split
 ·exact h.mono (by omega) (aQ _)
 split
 ·exact h.mono (by omega) (aQ _)
 split
 ·exact h.mono (by omega) (aQ _)
 rename_i s hs;obtain⟨h1,h2,h3⟩:=h.each s (cM hs)
 refine(h.mono (k':=k+1) (by omega) (aQ _)).fN ⟨h1.begin.mono (by omega),?_,?_⟩
 ·rcases NY s with e|e<;>rw[e]
  ·omega
  exact bI _
 rcases NY s with e|e<;>rw[e]
 ·exact h3
 intro m hm;cases hm
theorem bQ.stop(h:bQ c K k W)(i:Int):bQ c (K.stop i).1 (k+1) W:=by
 unfold aH.stop
 split
 ·exact h.mono (by omega) (aQ _)
 split
 ·exact h.mono (by omega) (aQ _)
 split
 ·exact h.mono (by omega) (aQ _)
 rename_i s hs;obtain⟨h1,h2,h3⟩:=h.each s (cM hs);exact(h.mono (k':=k+1) (by omega) (aQ _)).fN ⟨h1.stop.mono (by omega),Nat.le_succ_of_le h2,h3⟩
theorem bQ.report(h:bQ c K k W)(i p:Int):bQ c (K.report c i p).1 (k+1) W:=by
 unfold aH.report
 split
 ·exact h.mono (by omega) (aQ _)
 split
 ·exact h.mono (by omega) (aQ _)
 split
 ·exact h.mono (by omega) (aQ _)
 rename_i s hs;obtain⟨h1,h2,h3⟩:=h.each s (cM hs)
 refine(h.mono (k':=k+1) (by omega) (aQ _)).fN ⟨(h1.rep p _).mono (by omega),?_,?_⟩
 ·unfold bB.rep
  split
  ·show (s.ms++_).length<=_
   rw[dm,qb];omega
  omega
 unfold bB.rep
 split
 ·intro m hm;have zw:m∈s.ms++[⟨p,_,_⟩]:=hm
  rcases pz.1 zw with zw|zw
  ·exact h3 m zw
  rw[iF]at zw;subst zw;have:=h.now;exact⟨Int.natCast_nonneg _,by show (K.d.now:Int)<=_;omega⟩
 exact h3
theorem bQ.cut(h:bQ c K k W)(n:Int)(hn:n<=9223372036854775807):bQ c (K.cut n).1 k W:=by
 unfold aH.cut
 split
 ·exact h
 split
 ·exact h
 exact⟨⟨h.big.len,h.big.size,h.big.top⟩,by show n.toNat<=_;omega,h.wr,h.sp,h.gX,h.last,h.len,h.each,h.lI,h.now,h.win⟩
theorem bQ.app(h:bQ c K k W)(ho:K.c.off=false)(e kd t:Nat):bQ c (K.app e kd t).1 k (W+18)/\((K.app e kd t).2=0->(K.app e kd t).1.c.off=false/\(K.app e kd t).1.sp=false)/\(K.app e kd t).1.d=K.d/\(K.app e kd t).1.ls=K.ls/\(K.app e kd t).1.t=K.t:=by
 have hsp:K.sp=false:=by
  cases e:K.sp with
  |false=>rfl
  |true=>rw[h.sp e]at ho;cases ho
 have hB:=(Yi h.big ho (jW K.L e kd t));unfold aH.app;rw[aK (by rw[hsp];simp)]
 split
 ·exact⟨h.mono (aQ _) (by omega),λe=>(by cases e),rfl,rfl,rfl⟩
 rename_i hq;have Zc:=h.last
 split
 ·rename_i h0
  refine⟨⟨hB.1,Nw _ h.left,bw (Nv _ _) (by have:=h.wr;omega),λe=>?_,Yg _ h.gX,?_,h.len,h.each,h.lI,h.now,h.win⟩,λ_=>⟨hB.2 h0,hsp⟩,rfl,rfl,rfl⟩
  ·rw[show K.sp=true from e]at hsp;cases hsp
  show (fT (qW K.L _)).seq<=_
  rw[Yh];show (fT K.L).seq+1<=_
  omega
 rename_i h0
 refine⟨⟨hB.1,Nw _ h.left,bw (Nv _ _) (by have:=h.wr;omega),λ_=>?_,h.gX,h.last,h.len,h.each,h.lI,h.now,h.win⟩,λe=>absurd e h0,rfl,rfl,rfl⟩
 rcases Yp h.big ho (jW K.L e kd t)with e8|e8
 ·exact absurd e8 h0
 exact Yo e8
theorem bQ.Zd(h:bQ c K k W){i:Nat}{s:bB}(hs:K.ls[i]?=J s)(h4:gJ s (k+K.d.now-1))(h5:1<=K.d.now)(e:aF):bQ c (K.fN i (s.fin e)) k W:=by
 obtain⟨h1,h2,h3⟩:=h.each s (cM hs);have B8:(s.fin e).ms=s.ms:=by unfold bB.fin;split<;>rfl
 exact h.fN ⟨h4.fin.mono (by omega),by rw[B8];exact h2,by rw[B8];exact h3⟩
theorem bQ.gW(h:bQ c K k W)(ho:K.c.off=false)(i:Nat)(hi:∀s,K.ls[i]?=J s->gJ s (k+K.d.now-1)/\1<=K.d.now):bQ c (K.gW c i).1 k (W+18)/\((K.gW c i).2=0->(K.gW c i).1.c.off=false/\(K.gW c i).1.sp=false)/\(K.gW c i).1.d=K.d/\(K.gW c i).1.t=K.t/\∀j,j≠i->(K.gW c i).1.ls[j]?=K.ls[j]?:=by
 have hsp:K.sp=false:=by
  cases e:K.sp with
  |false=>rfl
  |true=>rw[h.sp e]at ho;cases ho
 unfold aH.gW
 split
 ·exact⟨h.mono (aQ _) (by omega),λ_=>⟨ho,hsp⟩,rfl,rfl,λ_ _=>rfl⟩
 rename_i s hs;obtain⟨h1,h2,h3⟩:=h.each s (cM hs);obtain⟨h4,h5⟩:=hi s hs;have B8:(s.fin (c.aw.getD i nZ)).ms=s.ms:=by unfold bB.fin;split<;>rfl
 have h':bQ c (K.fN i _) k W:=h.fN ⟨h4.fin.mono (by omega),by rw[B8];exact h2,by rw[B8];exact h3⟩;have hj:∀j,j≠i->(K.fN i (s.fin (c.aw.getD i nZ))).ls[j]?=K.ls[j]?:=λj hj=>by
  show (K.ls.set i _)[j]?=_
  rw[List.getElem?_set_ne (λe=>hj e.symm)]
 split
 ·obtain⟨a1,a2,a3,a4,a5⟩:=h'.app ho i (s.kind (c.aw.getD i nZ)).toNat K.d.now;exact⟨a1,a2,a3,a5,λj hj'=>by rw[a4];exact hj j hj'⟩
 exact⟨h'.mono (aQ _) (by omega),λ_=>⟨ho,hsp⟩,rfl,rfl,hj⟩
theorem bQ.ends(h:bQ c K k W)(ho:K.c.off=false)(hi:∀s∈K.ls,gJ s (k+K.d.now-1))(h1:1<=K.d.now):∀n,bQ c (K.ends c n).1 k (W+18*n)/\((K.ends c n).2=0->(K.ends c n).1.c.off=false/\(K.ends c n).1.sp=false)/\(K.ends c n).1.d=K.d/\(K.ends c n).1.t=K.t/\∀j,n<=j->(K.ends c n).1.ls[j]?=K.ls[j]?
 |0=>⟨h,λ_=>⟨ho,by
   cases e:K.sp with
   |false=>exact e
   |true=>rw[h.sp e]at ho;cases ho⟩,rfl,rfl,λ_ _=>rfl⟩
 |n+1=>by
  obtain⟨a1,a2,a3,a4,a5⟩:=bQ.ends h ho hi h1 n;unfold aH.ends
  split
  ·rename_i h0;obtain⟨b1,b2,b3,b4,b5⟩:=a1.gW (a2 h0).1 n (λs hs=>by
    rw[a5 n (aQ _)]at hs;rw[a3];exact⟨hi s (cM hs),h1⟩)
   exact⟨b1.mono (aQ _) (by omega),b2,b3.trans a3,b4.trans a4,λj hj=>(b5 j (by omega)).trans (a5 j (by omega))⟩
  rename_i h0;exact⟨a1.mono (aQ _) (by omega),λe=>absurd e h0,a3,a4,λj hj=>a5 j (by omega)⟩
theorem bQ.fF(h:bQ c K k W)(hn:K.d.now<1099511627776):bQ c K.fF k W/\(∀s∈K.fF.ls,gJ s (k+K.fF.d.now-1))/\1<=K.fF.d.now:=
 ⟨⟨h.big,h.left,h.wr,h.sp,h.gX,h.last,h.len,λs hs=>⟨(h.each s hs).1.mono (by show _<=k+(K.d.now+1);omega),(h.each s hs).2⟩,h.lI,hn,⟨h.win.1,h.win.2.1,h.win.2.2.1,by have:=h.win.2.2.2;show K.d.begun<=K.d.now+1;omega⟩⟩,λs hs=>(h.each s hs).1.mono (by show _<=k+(K.d.now+1)-1;omega),by show 1<=K.d.now+1;omega⟩
theorem bQ.vt(h:bQ c K k W):bQ c K.last k W:=by
 have hw:=h.win;have h1:bQ c { K with t:=K.t.fin (K.ls.map λs=>pJ s.status) } k W:=⟨h.big,h.left,h.wr,h.sp,h.gX,h.last,h.len,h.each,h.lI.NX _,h.now,h.win⟩;unfold aH.last;simp only[]
 split
 ·rename_i hc
  refine⟨h1.big,h1.left,h1.wr,h1.sp,h1.gX,h1.last,h1.len,h1.each,h1.lI,h1.now,⟨hw.1,hw.2.1,?_,aQ _⟩⟩;show K.d.jX+1<=K.d.now
  have ho:=hc.2;unfold cS.nu at ho;simp only[rS,xa]at ho;omega
 exact h1
theorem NZ:K.last.d.now=K.d.now:=by unfold aH.last;simp only[];split<;>rfl
theorem bQ.tick(hr:gi c)(h:bQ c K k (144*K.d.now))(hn:K.d.now<1099511627776):bQ c (K.tick c).1 k (144*(K.tick c).1.d.now):=by
 unfold aH.tick
 split
 ·exact h
 rename_i Hc;have Ze:K.on=0:=by omega
 obtain⟨ho,-⟩:=aH.Et.1 Ze;obtain⟨t1,t2,t3⟩:=h.fF hn;have hW:144*K.fF.d.now=144*K.d.now+144:=by show 144*(K.d.now+1)=_;omega
 split
 ·rw[hW];exact t1.mono (aQ _) (by omega)
 split
 ·rw[hW];exact t1.mono (aQ _) (by omega)
 obtain⟨a1,-,a3,-⟩:=t1.ends ho t2 t3 c.aw.length;have Eu:=hr.nn
 split
 ·show bQ c (K.fF.ends c _).1.last k (144*(K.fF.ends c _).1.last.d.now)
  rw[NZ,a3,hW];exact(a1.mono (aQ _) (by omega)).vt
 rw[a3,hW];exact a1.mono (aQ _) (by omega)
theorem bQ.opened(hr:gi c)(h:kM K.c)(h0:K.c.left<=9223372036854775807)(hw:K.c.written<=W)(hn:K.d.now<=1099511627776)(hd:K.d.closed<=1000/\K.d.opn<=1000/\K.d.jX<=K.d.begun/\K.d.begun<=K.d.now):bQ c (aH.opened c K) k W:=by
 have qp:=hr.de;have e1:=Ym (K.c.bytes.take K.c.size);have e2:=Yl (K.c.bytes.take K.c.size);unfold aH.opened;revert e1 e2
 generalize kK (K.c.bytes.take K.c.size)=X;intro e1 e2
 refine⟨h,h0,hw,λe=>(by cases e),e1,e2,by simp,λs hs=>?_,?_,hn,hd⟩
 ·have:s=bB.new:=by
   simp only[lX]at hs;obtain⟨_,_,rfl⟩:=hs;rfl
  subst this;exact⟨gJ.new.mono (bI _),bI _,λm hm=>(by cases hm)⟩
 have:=qg.new (d:=c.bC.toNat) (by omega);exact⟨this.d,bI _,this.lt,this.st,this.z⟩
theorem bQ.new(hr:gi c){s:aM}(h:kM s)(h0:s.left<=9223372036854775807)(hw:s.written=0):bQ c (aH.new c s) 0 0:=by
 have h1:=hr.cl;have h2:=hr.op;exact bQ.opened hr h h0 (by show s.written<=0;omega) (bI _) ⟨by show c.closed.toNat<=1000;omega,by show c.opn.toNat<=1000;omega,aQ _,aQ _⟩
theorem bQ.j4(hr:gi c)(h:bQ c K k W):bQ c (K.j4 c).1 k W:=by
 unfold aH.j4
 split
 ·exact h
 exact bQ.opened hr ⟨h.big.len,h.big.size,h.big.top⟩ (bI _) h.wr h.now ⟨h.win.1,h.win.2.1,bw h.win.2.2.1 h.win.2.2.2,aQ _⟩
theorem Zf:(K.j4 c).1.d.now=K.d.now:=by unfold aH.j4;split<;>rfl
theorem Zg(i:Int):(K.begin i).1.d=K.d:=by unfold aH.begin;split;rfl;split;rfl;split<;>rfl
theorem Zh(i:Int):(K.stop i).1.d=K.d:=by unfold aH.stop;split;rfl;split;rfl;split<;>rfl
theorem Zi(i p:Int):(K.report c i p).1.d=K.d:=by unfold aH.report;split;rfl;split;rfl;split<;>rfl
theorem Zj(n:Int):(K.cut n).1.d=K.d:=by unfold aH.cut;split;rfl;split<;>rfl
end
end Go.Proofs.YtgmfhkjghmdgiaaGreatDoor
namespace Go.Proofs.YtgmfhkjghmdgiaaGreatDoor
open Go.RowKit Go.Extern.Stop Go.Stop Go.Extern
def gr(F:Nat->Prop)(w w':ai):Nat->Prop:=λk=>F k\/(w.heap.size<=k/\k<w'.heap.size)
structure nB(H:Nat->Nat->Prop)(B:Nat)(w:ai):Prop where
 lo:∀i k,H i k->B<=k
 lt:∀i k,H i k->k<w.heap.size
 vU:∀i j k,H i k->H j k->i=j
def dV(H:Nat->Nat->Prop)(i:Nat)(w w':ai):Nat->Nat->Prop:=λj k=>H j k\/(j=i/\w.heap.size<=k/\k<w'.heap.size)
section
variable {H:Nat->Nat->Prop}{B:Nat}{w w' w'':ai}{F:Nat->Prop}
theorem nB.upd(h:nB H B w)(hs:w.heap.size<=w'.heap.size)(hB:B<=w.heap.size)(i:Nat):nB (dV H i w w') B w':=by
 refine⟨λj k hk=>?_,λj k hk=>?_,λj j' k hk lJ=>?_⟩
 ·rcases hk with hk|⟨_,hk,_⟩
  ·exact h.lo j k hk
  exact bw hB hk
 ·rcases hk with hk|⟨_,_,hk⟩
  ·exact eh (h.lt j k hk) hs
  exact hk
 rcases hk with hk|⟨e,hk,_⟩<;>rcases lJ with lJ|⟨e',lJ,_⟩
 ·exact h.vU j j' k hk lJ
 ·have:=h.lt j k hk;omega
 ·have:=h.lt j' k lJ;omega
 rw[e,e']
theorem nB.grow(h:nB H B w)(hs:w.heap.size<=w'.heap.size):nB H B w':=⟨h.lo,λi k hk=>eh (h.lt i k hk) hs,h.vU⟩
theorem nB.keep(h:nB H B w){i j:Nat}(hne:j≠i)(ho:bh (H i) w w'):∀k,H j k->w'.heap[k]?=w.heap[k]?:=λk hk=>ho.block k (h.lt j k hk) (λhi=>hne (h.vU j i k hk hi))
theorem nB.not(h:nB H B w){i j:Nat}(hne:j≠i){k:Nat}(hk:H j k):¬H i k:=λhi=>hne (h.vU j i k hk hi)
theorem B9(hF:∀i k,H i k->F k)(i:Nat):∀j k,dV H i w w' j k->gr F w w' k:=λj k hk=>by
 rcases hk with hk|⟨_,h1,h2⟩
 ·exact a_ (hF j k hk)
 exact aP ⟨h1,h2⟩
theorem bh.all(hF:∀i k,H i k->F k){i:Nat}(h:bh (H i) w w'):bh F w w':=h.mono (λk _ hk=>hF i k hk)
theorem bh.gr(h:bh F w w')(h':bh (gr F w w') w' w''):bh F w w'':=h.trans h' (λk hk hg=>by
 rcases hg with hg|⟨h1,_⟩
 ·exact hg
 omega)
theorem Zk{k:Nat}(h1:w.heap.size<=w'.heap.size)(h2:w'.heap.size<=w''.heap.size)(hk:gr (gr F w w') w' w'' k):gr F w w'' k:=by
 rcases hk with(hk|⟨a,b⟩)|⟨a,b⟩
 ·exact a_ hk
 ·exact aP ⟨a,by omega⟩
 exact aP ⟨by omega,b⟩
theorem N0{B k n:Nat}{T:TypeId}{v:ar}{xs:List ar}(h:w.ownsRow B T k v n xs)(hs:∀g,v.ownBlock=J g->w'.heap[g]?=w.heap[g]?):w'.ownsRow B T k v n xs:=by
 refine⟨h.1,?_⟩
 rcases h.2 with hn|⟨g,cap,cur,rfl,hb,zx,rest⟩
 ·exact .inl hn
 exact .inr ⟨g,cap,cur,rfl,hb,(hs g rfl).trans zx,rest⟩
end
def ue(b:Nat):List ar:=[aj (J ⟨b,0,I⟩)]
theorem aH.N1(K:aH):K.on=0\/K.on=8\/K.on=11:=by unfold aH.on;split;exact aP (a_ rfl);split;exact aP (aP rfl);exact a_ rfl
def oQ(n:Nat):ByteArray:=if n=8 then ⟨#[111,102,102]⟩else if n=11 then ⟨#[114,101,115,101,116]⟩else ⟨#[111,110]⟩
theorem Im(K:aH)(e k t:Nat):(K.app e k t).1.d=K.d:=by
 unfold aH.app
 split
 ·rfl
 split
 ·rfl
 split<;>rfl
def mF(K:aH)(n:Nat):List ByteArray:=(K.ls.take n).map λs=>pJ s.status
theorem Zl(c:aS)(K:aH)(n:Nat){s:bB}{e:aF}(h0:(K.ends c n).2=0)(hs:(K.ends c n).1.ls[n]?=J s)(he:c.aw[n]?=J e):K.ends c (n+1)=if s.turns e=true then ((K.ends c n).1.fN n (s.fin e)).app n (s.kind e).toNat (K.ends c n).1.d.now else ((K.ends c n).1.fN n (s.fin e),0):=by
 have rh:c.aw.getD n nZ=e:=by rw[fQ,he];rfl
 show (if (K.ends c n).2=0 then (K.ends c n).1.gW c n else K.ends c n)=_
 rw[aR h0];unfold aH.gW;rw[hs];simp only[rh]
theorem N2(c:aS)(K:aH){m:Nat}(h:(K.ends c m).2≠0):∀{n:Nat},m<=n->K.ends c n=K.ends c m
 |0,hn=>by rw[show m=0 by omega]
 |n+1,hn=>by
  by_cases e:m=n+1
  ·rw[e]
  have ih:=N2 c K h (n:=n) (by omega);show (if (K.ends c n).2=0 then (K.ends c n).1.gW c n else K.ends c n)=_
  rw[ih,aK h]
theorem Zm{K:aH}{n:Nat}{s:bB}(hn:n<K.ls.length):mF (K.fN n s) (n+1)=mF K n++[pJ s.status]:=by
 unfold mF aH.fN;simp only[];rw[fW,List.getElem?_set_self hn,List.take_set_of_le (aQ _),pH];rfl
theorem N3(K:aH)(e k t:Nat):(K.app e k t).1.ls=K.ls:=by
 unfold aH.app
 split
 ·rfl
 split
 ·rfl
 split<;>rfl
section
variable {c:aS}{K:aH}{k:Nat}
theorem Io(c:aS)(K:aH):∀n,(K.ends c n).1.d=K.d
 |0=>rfl
 |n+1=>by
  have ih:=Io c K n;show (if (K.ends c n).2=0 then (K.ends c n).1.gW c n else K.ends c n).1.d=_
  split
  ·unfold aH.gW
   split
   ·exact ih
   split
   ·rw[Im];exact ih
   exact ih
  exact ih
theorem Ev(c:aS)(K:aH):(K.tick c).1.d.now<=K.d.now+1:=by
 unfold aH.tick
 split
 ·show K.d.now<=_;omega
 split
 ·exact aQ _
 split
 ·exact aQ _
 split
 ·show (K.fF.ends c _).1.last.d.now<=_
  rw[NZ,Io];exact aQ _
 rw[Io];exact aQ _
theorem bQ.fO(hr:gi c):∀(n:Nat) (K:aH),bQ c K k (144*K.d.now)->K.d.now+n<=1099511627776->bQ c (K.fO c n).1 k (144*(K.fO c n).1.d.now)/\(K.fO c n).1.d.now<=K.d.now+n
 |0,K,h,_=>⟨h,aQ _⟩
 |n+1,K,h,hn=>by
  have h1:=h.tick hr (by omega);have h2:=Ev c K;show bQ c (if (K.tick c).2=0 then (K.tick c).1.fO c n else K.tick c).1 k _/\(if (K.tick c).2=0 then (K.tick c).1.fO c n else K.tick c).1.d.now<=_
  show bQ c _ k (144*(if (K.tick c).2=0 then (K.tick c).1.fO c n else K.tick c).1.d.now)/\_
  split
  ·obtain⟨a,b⟩:=bQ.fO hr n _ h1 (by omega);exact⟨a,by omega⟩
  exact⟨h1,by omega⟩
end
end Go.Proofs.YtgmfhkjghmdgiaaGreatDoor
namespace Go.Proofs.YtgmfhkjghmdgiaaGreatDoor
open Go
section
variable {c:aS}{K:aH}{k:Nat}
theorem Ew(K:aH):K.on<=11:=by unfold aH.on;split;omega;split<;>omega
theorem Zn{K:aH}(hb:kM K.c)(ho:K.c.off=false)(e kd t:Nat):(K.app e kd t).2<=11:=by
 unfold aH.app
 split
 ·show 8<=11;omega
 split
 ·show 7<=11;omega
 split
 ·show 0<=11;omega
 exact Yj hb ho _
theorem Zo{K:aH}(hb:kM K.c)(ho:K.c.off=false)(i:Nat):(K.gW c i).2<=11:=by
 unfold aH.gW
 split
 ·show 0<=11;omega
 split
 ·exact Zn (K:=K.fN i _) hb ho _ _ _
 show 0<=11;omega
theorem N4{K:aH}{W:Nat}(h:bQ c K k W)(ho:K.c.off=false)(hi:∀s∈K.ls,gJ s (k+K.d.now-1))(h1:1<=K.d.now):∀n,(K.ends c n).2<=11
 |0=>by show 0<=11;omega
 |n+1=>by
  show (if (K.ends c n).2=0 then (K.ends c n).1.gW c n else K.ends c n).2<=11
  obtain⟨a,b,-⟩:=h.ends ho hi h1 n
  split
  ·rename_i h0;exact Zo a.big (b h0).1 n
  exact N4 h ho hi h1 n
theorem Zp{W:Nat}(h:bQ c K k W)(hn:K.d.now<1099511627776):(K.tick c).2<=11:=by
 unfold aH.tick
 split
 ·exact Ew K
 rename_i Hc
 split
 ·show 11<=11;omega
 split
 ·show 0<=11;omega
 split
 ·show 0<=11;omega
 obtain⟨a,b,d⟩:=h.fF hn;have hz:K.on=0:=by omega
 exact N4 a (aH.Et.1 hz).1 b d _
theorem N5(hr:gi c):∀(n:Nat) (K:aH),bQ c K k (144*K.d.now)->K.d.now+n<=1099511627776->(K.fO c n).2<=11
 |0,K,_,_=>by show 0<=11;omega
 |n+1,K,h,hn=>by
  have h2:=Ev c K;show (if (K.tick c).2=0 then (K.tick c).1.fO c n else K.tick c).2<=11
  split
  ·exact N5 hr n _ (h.tick hr (by omega)) (by omega)
  exact Zp h (by omega)
theorem Zq(K:aH)(i p:Int):(K.report c i p).2<=11:=by
 unfold aH.report
 split
 ·exact Ew K
 split
 ·show 5<=11;omega
 split
 ·show 5<=11;omega
 show bB.vT _ _ _<=11;unfold bB.vT;split;split<;>omega;omega
theorem Zr(K:aH)(i:Int):(K.begin i).2<=11:=by
 unfold aH.begin
 split
 ·exact Ew K
 split
 ·show 5<=11;omega
 split
 ·show 5<=11;omega
 show bB.xD _<=11;unfold bB.xD;split<;>omega
theorem Zs(K:aH)(i:Int):(K.stop i).2<=11:=by
 unfold aH.stop
 split
 ·exact Ew K
 split
 ·show 5<=11;omega
 split
 ·show 5<=11;omega
 show bB.kQ _<=11;unfold bB.kQ;split<;>omega
theorem Zt(K:aH)(n:Int):(K.cut n).2<=11:=by unfold aH.cut;split;(show 2<=11;omega);split;(show 8<=11;omega);(show 0<=11;omega)
theorem Zu(c:aS)(K:aH):(K.j4 c).2<=11:=by unfold aH.j4;split;(show 10<=11;omega);(show 0<=11;omega)
end
end Go.Proofs.YtgmfhkjghmdgiaaGreatDoor
namespace Go.Proofs.YtgmfhkjghmdgiaaGreatDoor
theorem Ex(s:List UInt8)(c:UInt8)(i:Nat):Lib.occAt s [c] i=true↔s[i]?=J c:=by
 unfold Lib.occAt
 constructor
 ·intro h
  cases hd:s.drop i with
  |nil=>rw[hd]at h;simp[List.isPrefixOf]at h
  |cons x t=>
   rw[hd]at h;simp[List.isPrefixOf]at h
   have e:s[i]?=(s.drop i)[0]?:=by simp
   rw[e,hd,<- h];rfl
 intro h;have e:s.drop i=c::s.drop (i+1):=by
  obtain⟨hi,hc⟩:=dT.1 h;rw[kq hi,hc]
 rw[e];simp[List.isPrefixOf]
theorem Zv(c:UInt8):∀(n:Nat) (s:List UInt8),s.length<=n->Lib.split s [c]=bW c s:=by
 intro n
 induction n with
 |zero=>
  intro s hs;obtain rfl:s=[]:=qI (by omega);have:Lib.index [] [c]=-1:=by rcases Lib.index_spec [] [c]with⟨h,-⟩|⟨i,-,-,h,-⟩;exact h;exact absurd ((Ex _ _ _).1 h) (by simp)
  unfold Lib.split;rw[Lib.count_miss this];rfl
 |succ n ih=>
  intro s hs
  rcases Lib.index_spec s [c]with⟨h,hno⟩|⟨i,h,hi,ho,hno⟩
  ·have hc:c∉s:=λhm=>by
    obtain⟨j,hj,e⟩:=xC hm;have:=hno j (by omega);have h2:=(Ex s c j).2 (by rw[bH hj,e]);rw[this]at h2
    cases h2
   unfold Lib.split;rw[Lib.count_miss h,Ln c s hc];rfl
  have Zw:=(Ex s c i).1 ho;obtain⟨Er,hcv⟩:=dT.1 Zw;have e1:s=s.take i++c::s.drop (i+1):=by
   have:s.drop i=c::s.drop (i+1):=by rw[kq Er,hcv]
   rw[<- this,qq]
  have hc:c∉s.take i:=λhm=>by
   obtain⟨j,hj,e⟩:=xC hm;have Zx:j<i:=by rw[gy]at hj;omega
   have h2:=(Ex s c j).2 (by rw[List.getElem_take]at e;rw[bH (by omega),e]);have:=hno j Zx;rw[this]at h2
   cases h2
  have e2:Lib.split s [c]=s.take i::Lib.split (s.drop (i+1)) [c]:=by
   unfold Lib.split;rw[Lib.count_hit (by simp) h,Nat.add_comm 1,Lib.splitK];have hm:¬(Lib.index s [c] == -1)=true:=λe=>by have:=sD.1 e;omega
   have et:(Lib.index s [c]).toNat=i:=by omega
   rw[aK hm,et];rfl
  rw[e2,ih _ (by rw[List.length_drop];omega)];have e3:bW c (c::s.drop (i+1))=[]::bW c (s.drop (i+1)):=by rw[bW,aR rfl]
  have e4:=F_ c _ _ _ e3 _ hc;rw[<- e1]at e4;rw[e4];simp
theorem N6(c:UInt8)(s sep:ByteArray)(hs:sep.data.toList=[c]):(Lib.splitB sep 0 (Lib.countB s sep) s).map (·.data.toList)=bW c s.data.toList:=by
 rw[Lib.splitB_data,hs];have e:Lib.countB s sep=Lib.count s.data.toList [c]:=by unfold Lib.countB;rw[hs]
 rw[e];exact Zv c _ _ (aQ _)
end Go.Proofs.YtgmfhkjghmdgiaaGreatDoor
namespace Go.Proofs.YtgmfhkjghmdgiaaGreatDoor
open Go
def oT:Nat->Bs
 |0=>[98,101,103,105,110]
 |1=>[115,116,111,112]
 |2=>[114,101,112,111,114,116]
 |3=>[116,105,99,107]
 |4=>[99,117,116]
 |5=>[98,111,111,116]
 |6=>[110,111,119]
 |7=>[107,105,99,107,115]
 |8=>[115,116,97,116,117,115]
 |9=>[116,111,116,97,108]
 |10=>[115,116,97,116,101]
 |11=>[99,97,117,115,101]
 |12=>[108,111,103]
 |_=>[99,111,110,102,105,103]
def ir(w:Bs):Option Nat:=(List.range 14).find? (λk=>decide (oT k=w))
def iG:Nat->List Int
 |0=>[1]
 |1=>[1]
 |2=>[1,5]
 |3=>[5]
 |4=>[5]
 |8=>[1]
 |_=>[]
def iH(w:Bs)(d:Int):Option Int:=if d<(w.length:Int)then I else match Lib.atoi w with
 |some n=>if n<0\/num n≠w then I else J n
 |none=>I
def dt:List Int->List Bs->Option (List Int)
 |[],[]=>J []
 |d::ds,w::ws=>match iH w d with
  |none=>I
  |some n=>(dt ds ws).map (λt=>n::t)
 |_,_=>I
def kC(r:Rec):Bs:=Lib.join [num r.seq,num r.dU,num r.kind,num r.tick] [32]
def B_:Bs:=[110,111,116,104,105,110,103]
def Zy:Bs:=[111,107]
def uf(L:List Rec):Bs:=if L.length=0 then B_ else kC (fT L)
def ug(L:List Rec):Bs:=if L.length=0 then B_ else Lib.join (L.map kC) [44,32]
def ri(c:aS):Bs:=Lib.replaceAll (Lib.trimSuffix (jn c) [10]) [10] [59,32]
def rj(j:Nat):Bs:=if j=0 then Zy else []
def oU(p:aH×Nat):aH×Bs×Nat:=(p.1,rj p.2,p.2)
def aH.dN(c:aS)(K:aH)(ns:List Int):Nat->aH×Bs×Nat
 |0=>oU (K.begin (ns.getD 0 0))
 |1=>oU (K.stop (ns.getD 0 0))
 |2=>oU (K.report c (ns.getD 0 0) (ns.getD 1 0))
 |3=>oU (K.fO c (ns.getD 0 0).toNat)
 |4=>oU (K.cut (ns.getD 0 0))
 |5=>oU (K.j4 c)
 |6=>(K,num K.d.now,0)
 |7=>(K,num K.d.jX,0)
 |8=>match K.ls[(ns.getD 0 0).toNat]? with
  |some s=>(K,bl (pJ s.status),0)
  |none=>(K,[],5)
 |9=>(K,bl (kI K.t.st),0)
 |10=>(K,bl (oQ K.on),0)
 |11=>(K,uf K.L,0)
 |12=>(K,ug K.L,0)
 |_=>(K,ri c,0)
def aH.lp(c:aS)(K:aH):List Bs->aH×Bs×Nat
 |[]=>(K,[],1)
 |h::ws=>match ir h with
  |none=>(K,[],1)
  |some k=>match dt (iG k) ws with
   |none=>(K,[],1)
   |some ns=>K.dN c ns k
def aH.fU(c:aS)(K:aH)(l:Bs):aH×Bs×Nat:=K.lp c (bW 32 l)
def n_(T:Nat->Bs)(p:aH×Bs×Nat):Bs:=if p.2.2=0 then p.2.1 else T p.2.2
def iu(c:aS):aH->List Bs->aH
 |K,[]=>K
 |K,l::t=>iu c (K.fU c l).1 t
def gz(c:aS)(T:Nat->Bs):aH->List Bs->List Bs
 |_,[]=>[]
 |K,l::t=>n_ T (K.fU c l)::gz c T (K.fU c l).1 t
def xE:List Bs->Nat
 |[]=>0
 |h::ws=>if ir h=J 3 then (((dt [5] ws).getD []).getD 0 0).toNat else 0
def jv(l:Bs):Nat:=xE (bW 32 l)
def j_:List Bs->Nat
 |[]=>0
 |l::t=>jv l+j_ t
section
variable {c:aS}{T:Nat->Bs}{K:aH}{k:Nat}
theorem N7(c:aS):∀(l t:List Bs) (K:aH),iu c K (l++t)=iu c (iu c K l) t
 |[],_,_=>rfl
 |v::l,t,K=>N7 c l t (K.fU c v).1
theorem Ip(c:aS)(T:Nat->Bs):∀(l t:List Bs) (K:aH),gz c T K (l++t)=gz c T K l++gz c T (iu c K l) t
 |[],_,_=>rfl
 |v::l,t,K=>by
  show _::gz c T _ (l++t)=_::(_++_)
  rw[Ip c T l t _];rfl
theorem Ey(c:aS)(T:Nat->Bs):∀(l:List Bs) (K:aH),(gz c T K l).length=l.length
 |[],_=>rfl
 |v::l,K=>by show (gz c T _ l).length+1=l.length+1;rw[Ey c T l]
theorem Zz{l:List Bs}{i:Nat}{v:Bs}(h:l[i]?=J v):iu c K (l.take (i+1))=((iu c K (l.take i)).fU c v).1:=by
 rw[fW,h,N7];rfl
theorem N8{l:List Bs}{i:Nat}{v:Bs}(h:l[i]?=J v):gz c T K (l.take (i+1))=gz c T K (l.take i)++[n_ T ((iu c K (l.take i)).fU c v)]:=by
 rw[fW,h,Ip];rfl
theorem Iq:∀(l t:List Bs),j_ (l++t)=j_ l+j_ t
 |[],t=>(nj _).symm
 |v::l,t=>by show jv v+j_ (l++t)=jv v+j_ l+j_ t;rw[Iq l t,qX]
theorem N9(l:List Bs)(i:Nat):j_ (l.take i)<=j_ l:=by
 have:=Iq (l.take i) (l.drop i);rw[qq]at this;omega
theorem N_{w:Bs}{d n:Int}(h:iH w d=J n):0<=n/\num n=w/\(w.length:Int)<=d/\Lib.atoi w=J n:=by
 unfold iH at h
 split at h
 ·cases h
 rename_i hd
 split at h
 ·rename_i m hm
  split at h
  ·cases h
  rename_i hc
  cases h
  refine⟨by omega,Classical.byContradiction λe=>hc (aP e),by omega,hm⟩
 cases h
theorem Ir:∀(ds:List Int) (ws:List Bs) (ns:List Int),(∀d∈ds,d<=18)->dt ds ws=J ns->ns.length=ds.length/\ws.length=ds.length/\∀n∈ns,0<=n/\n<1000000000000000000
 |[],[],ns,_,h=>by cases h;exact⟨rfl,rfl,λn hn=>by cases hn⟩
 |[],_::_,_,_,h=>by cases h
 |_::_,[],_,_,h=>by cases h
 |d::ds,w::ws,ns,hd,h=>by
  rw[dt]at h
  split at h
  ·cases h
  rename_i n hn
  cases ht:dt ds ws with
  |none=>rw[ht]at h;cases h
  |some t=>
   rw[ht]at h
   cases h
   obtain⟨a,b,e⟩:=Ir ds ws t (λx hx=>hd x (tE _ hx)) ht
   refine⟨by simp[a],by simp[b],λm hm=>?_⟩
   rcases fg.1 hm with rfl|hm
   ·obtain⟨s1,-,s3,s4⟩:=N_ hn;have:=hd d (qc ..);exact⟨s1,(Lib.atoi_bound s4 (by omega)).2⟩
   exact e m hm
theorem Iu(k:Nat):∀d∈iG k,d<=18:=by
 unfold iG
 split<;>intro d hd<;>simp at hd<;>omega
theorem ZA{ns:List Int}(h:∀n∈ns,0<=n/\n<1000000000000000000)(i:Nat):0<=ns.getD i 0/\ns.getD i 0<1000000000000000000:=by
 rw[fQ]
 cases e:ns[i]? with
 |none=>exact⟨qJ _,by decide⟩
 |some n=>exact h n (cM e)
theorem Ca{w:Bs}(h:ir w=J k):k<14/\oT k=w:=by
 unfold ir at h;have h1:=List.find?_some h;have h2:=List.mem_of_find?_eq_some h;exact⟨mr.1 h2,of_decide_eq_true h1⟩
theorem Oa{w:Bs}(h:ir w=I):∀k,k<14->oT k≠w:=by
 unfold ir at h;intro k hk e;have:=List.find?_eq_none.1 h k (mr.2 hk);exact this (bM e)
theorem zy{p:aH×Nat}(n:Nat)(h:bQ c p.1 (k+1) (144*p.1.d.now)/\p.1.d.now<=K.d.now+n)(h2:p.2<=11):bQ c (oU p).1 (k+1) (144*(oU p).1.d.now)/\(oU p).1.d.now<=K.d.now+n/\(oU p).2.2<=11:=⟨h.1,h.2,h2⟩
theorem ZB(hr:gi c)(h:bQ c K k (144*K.d.now))(ns:List Int)(hb:∀n∈ns,0<=n/\n<1000000000000000000)(kd N:Nat)(hN:kd=3->(ns.getD 0 0).toNat<=N)(hn:K.d.now+N<=1099511627776):bQ c (K.dN c ns kd).1 (k+1) (144*(K.dN c ns kd).1.d.now)/\(K.dN c ns kd).1.d.now<=K.d.now+N/\(K.dN c ns kd).2.2<=11:=by
 have iC:bQ c K (k+1) _/\K.d.now<=K.d.now+N:=⟨h.mono (by omega) (aQ _),by omega⟩;unfold aH.dN
 split
 ·exact zy N (by rw[Zg];exact⟨h.begin _,by omega⟩) (Zr K _)
 ·exact zy N (by rw[Zh];exact⟨h.stop _,by omega⟩) (Zs K _)
 ·exact zy N (by rw[Zi];exact⟨h.report _ _,by omega⟩) (Zq K _ _)
 ·have:=hN rfl;obtain⟨a,b⟩:=bQ.fO hr (ns.getD 0 0).toNat K h (by omega);exact zy N ⟨a.mono (by omega) (aQ _),by omega⟩ (N5 hr _ K h (by omega))
 ·exact zy N (by rw[Zj];exact⟨(h.cut _ (by have:=ZA hb 0;omega)).mono (by omega) (aQ _),by omega⟩) (Zt K _)
 ·exact zy N (by rw[Zf];exact⟨(h.j4 hr).mono (by omega) (aQ _),by omega⟩) (Zu c K)
 ·exact⟨iC.1,iC.2,bI _⟩
 ·exact⟨iC.1,iC.2,bI _⟩
 ·split
  ·exact⟨iC.1,iC.2,bI _⟩
  exact⟨iC.1,iC.2,by show 5<=11;omega⟩
 ·exact⟨iC.1,iC.2,bI _⟩
 ·exact⟨iC.1,iC.2,bI _⟩
 ·exact⟨iC.1,iC.2,bI _⟩
 ·exact⟨iC.1,iC.2,bI _⟩
 exact⟨iC.1,iC.2,bI _⟩
theorem Iw{w:Bs}{ws:List Bs}(h:ir w=I):K.lp c (w::ws)=(K,[],1):=by rw[aH.lp,h]
theorem Ix{w:Bs}{ws:List Bs}{kd:Nat}(h:ir w=J kd)(h2:dt (iG kd) ws=I):K.lp c (w::ws)=(K,[],1):=by rw[aH.lp,h];show (match dt _ ws with|none=>_|some ns=>_)=_;rw[h2]
theorem xF{w:Bs}{ws:List Bs}{kd:Nat}{ns:List Int}(h:ir w=J kd)(h2:dt (iG kd) ws=J ns):K.lp c (w::ws)=K.dN c ns kd:=by rw[aH.lp,h];show (match dt _ ws with|none=>_|some ns=>_)=_;rw[h2]
theorem ZC(hr:gi c)(h:bQ c K k (144*K.d.now))(ws:List Bs)(hn:K.d.now+xE ws<=1099511627776):bQ c (K.lp c ws).1 (k+1) (144*(K.lp c ws).1.d.now)/\(K.lp c ws).1.d.now<=K.d.now+xE ws/\(K.lp c ws).2.2<=11:=by
 have iC:bQ c K (k+1) _/\K.d.now<=K.d.now+xE ws/\1<=11:=⟨h.mono (by omega) (aQ _),by omega,by omega⟩
 cases ws with
 |nil=>exact iC
 |cons w ws=>
  cases hk:ir w with
  |none=>rw[Iw hk];exact iC
  |some kd=>
   cases hs:dt (iG kd) ws with
   |none=>rw[Ix hk hs];exact iC
   |some ns=>
    rw[xF hk hs]
    refine ZB hr h ns (Ir _ _ _ (Iu kd) hs).2.2 kd _ (λe=>?_) hn;subst e;show _<=(if ir w=J 3 then _ else _)
    rw[aR hk,show dt [5] ws=J ns from hs];exact aQ _
theorem Iy(hr:gi c)(h:bQ c K k (144*K.d.now))(l:Bs)(hn:K.d.now+jv l<=1099511627776):bQ c (K.fU c l).1 (k+1) (144*(K.fU c l).1.d.now)/\(K.fU c l).1.d.now<=K.d.now+jv l/\(K.fU c l).2.2<=11:=ZC hr h _ hn
theorem Ob(hr:gi c):∀(l:List Bs) (K:aH) (k:Nat),bQ c K k (144*K.d.now)->K.d.now+j_ l<=900000->bQ c (iu c K l) (k+l.length) (144*(iu c K l).d.now)/\(iu c K l).d.now<=K.d.now+j_ l
 |[],K,k,h,_=>⟨h,aQ _⟩
 |v::l,K,k,h,hn=>by
  have hl:j_ (v::l)=jv v+j_ l:=rfl;obtain⟨a,b,-⟩:=Iy hr h v (by omega);obtain⟨a2,b2⟩:=Ob hr l _ _ a (by omega);have e:k+(v::l).length=k+1+l.length:=by simp;omega
  rw[e];exact⟨a2,by show (iu c _ l).d.now<=_;omega⟩
end
end Go.Proofs.YtgmfhkjghmdgiaaGreatDoor
namespace Go.Proofs
open Go.Shelf
def Oc:Go.Shelf.Ren:=⟨fun|156=>85|165=>117|166=>118|169=>119|240=>169|241=>170|276=>229|277=>230|n=>n,fun|31=>22|9=>9|3=>3|4=>4|0=>0|20=>20|72=>184|76=>186|70=>181|37=>182|75=>25|127=>255|164=>134|5=>5|80=>76|n=>n,fun|n=>n⟩
theorem ZE:Go.Proofs.Lays.n156 prog Oc:=by repeat' (first|kernel_rfl|(intro w;kernel_rfl)|decide|constructor)
theorem ZF:Builder.Extra prog Oc:=by repeat' (first|kernel_rfl|(intro w;kernel_rfl)|decide|constructor)
open Go.RowKit in
theorem strings_Join(bk o c:Nat)(xs:List ByteArray)(sep:ByteArray)(w:ai)(GX:∀(j:Nat) x,xs[j]?=J x->w.cell? ⟨bk,o+j,I⟩=J (aq x))(iE:bk<w.heap.size)(hN:xs.length<=140737488355328)(Iz:xs.length<=c)(hlen:(Lib.join (xs.map (·.data.toList)) sep.data.toList).length<=140737488355328):Calls prog 85 #[af (J ⟨bk,o,I⟩) xs.length c,aq sep] w λe w'=>e=ax (aq ⟨(Lib.join (xs.map (·.data.toList)) sep.data.toList).toArray⟩)/\Below w.heap.size w w':=Any.strings_Join ZE ZF bk o c xs sep w GX iE hN Iz hlen
def ZG:Go.Shelf.Ren:=⟨fun|172=>174|244=>234|245=>235|247=>261|279=>262|280=>263|281=>264|282=>265|287=>282|316=>283|171=>36|205=>284|321=>287|322=>288|243=>74|246=>114|283=>164|284=>165|285=>166|286=>167|129=>225|317=>224|318=>226|319=>227|320=>228|337=>259|338=>260|n=>n,fun|9=>9|3=>3|75=>25|76=>186|4=>4|5=>5|167=>326|37=>182|0=>0|85=>327|2=>2|168=>329|53=>249|175=>345|46=>300|210=>349|127=>255|145=>354|143=>352|21=>21|171=>248|173=>252|212=>296|51=>297|20=>20|213=>298|232=>343|233=>344|80=>76|n=>n,fun|15=>19|16=>20|17=>13|18=>17|19=>18|n=>n⟩
theorem ZH:Go.Proofs.Lays.n172 prog ZG:=by repeat' (first|kernel_rfl|(intro w;kernel_rfl)|decide|constructor)
open Go.RowKit in
theorem strconv_Atoi(s:ByteArray)(n:Int)(hl:s.size<=18)(h:Lib.atoi s.data.toList=J n)(w:ai):Calls prog 174 #[aq s] w λe w'=>e=ax (bn #[U R n,.nilIface])/\∃t,w'=Lib.bytesWorld w 5 t:=Any.strconv_Atoi ZH s n hl h w
def ZI:Go.Shelf.Ren:=⟨fun|172=>174|244=>234|245=>235|247=>261|279=>262|280=>263|281=>264|282=>265|287=>282|316=>283|171=>36|205=>284|321=>287|322=>288|243=>74|246=>114|283=>164|284=>165|285=>166|286=>167|129=>225|317=>224|318=>226|319=>227|320=>228|337=>259|338=>260|n=>n,fun|9=>9|3=>3|75=>25|76=>186|4=>4|5=>5|167=>326|37=>182|0=>0|85=>327|2=>2|168=>329|53=>249|175=>345|46=>300|210=>349|127=>255|145=>354|143=>352|21=>21|171=>248|173=>252|212=>296|51=>297|20=>20|213=>298|232=>343|233=>344|80=>76|n=>n,fun|15=>19|16=>20|17=>13|18=>17|19=>18|n=>n⟩
theorem ZJ:Go.Proofs.LaysC.n172 prog ZI:=by repeat' (first|kernel_rfl|(intro w;kernel_rfl)|decide|constructor)
open Go.RowKit in
theorem strconv_Atoi_err(s:ByteArray)(hl:s.size<=18)(h:Lib.atoi s.data.toList=I)(ev:ar)(w:ai)(hv:w.cell? ⟨19,0,I⟩=J ev)(sG:ev=.nilIface\/∃te pe,ev=.iface te pe):Calls prog 174 #[aq s] w λe w'=>∃N,e=ax (bn #[U R 0,.iface 329 (aj (J ⟨N,0,I⟩))])/\w.heap.size<=N/\w'.heap[N]?=J (au #[aq ⟨#[65,116,111,105]⟩,aq s,ev] 349 (0,0))/\Below w.heap.size w w':=Any.strconv_Atoi_err ZJ s hl h ev w hv sG
def Od:Go.Shelf.Ren:=⟨fun|155=>87|154=>121|138=>130|165=>117|143=>131|166=>118|197=>173|169=>119|195=>178|218=>179|240=>169|241=>170|219=>180|260=>233|276=>229|277=>230|217=>238|225=>239|224=>240|267=>241|266=>267|314=>268|n=>n,fun|9=>9|3=>3|4=>4|72=>184|0=>0|76=>186|105=>259|21=>21|5=>5|70=>181|20=>20|37=>182|75=>25|127=>255|164=>134|46=>300|119=>322|139=>325|138=>324|146=>333|51=>297|80=>76|n=>n,fun|1=>14|3=>15|4=>16|n=>n⟩
theorem ZK:Go.Proofs.Lays.n155 prog Od:=by repeat' (first|kernel_rfl|(intro w;kernel_rfl)|decide|constructor)
theorem ZL:Builder.Extra prog Od:=by repeat' (first|kernel_rfl|(intro w;kernel_rfl)|decide|constructor)
open Go.RowKit Go.Lib in
theorem strings_ReplaceAll(s old new:ByteArray)(m:Int)(w:ai)(hs:s.size<4294967281)(hm:w.cell? ⟨14,0,I⟩=J (U R m))(h1:1<=old.size)(hlen:s.size+Lib.countB s old*new.size<=140737488355328):Calls prog 87 #[aq s,aq old,aq new] w λe w'=>
   e=ax (aq ⟨(Lib.replaceAll s.data.toList old.data.toList new.data.toList).toArray⟩)/\Below w.heap.size w w':=Any.strings_ReplaceAll ZK ZL s old new m w hs hm h1 hlen
end Go.Proofs
namespace Go.Proofs.YtgmfhkjghmdgiaaGreatDoor
open Go
structure eZ where
 a:fo
 g:cj
 f:iY
def eZ.new(e:aF):eZ:=⟨⟨kO e.cnt e.ak.length,e.mn,e.mx,0⟩,cj.new e.aB,⟨-1,false⟩⟩
def eZ.rep(e:aF)(s:eZ)(p t:Int):eZ:=⟨s.a.rep p,s.g.rep p t,s.f.rep e p⟩
def eZ.zero(s:eZ):eZ:=⟨s.a.zero,s.g.zero,s.f.zero⟩
def eZ.kind(s:eZ)(whole:Bool):Int:=Eh s.a s.g s.f whole
structure dw where
 w:eZ
 whole:Bool
 run:Nat
 ex:Bool
def dw.new(e:aF):dw:=⟨eZ.new e,false,0,false⟩
def dw.kind(s:dw):Int:=s.w.kind s.whole
def dw.rep(e:aF)(s:dw)(p t:Int):dw:=if jP e p=true then { s with w:=s.w.rep e p t }else s
def dw.nY(s:dw):Nat:=if s.kind=0 then 0 else s.run+1
def dw.turns(e:aF)(s:dw):Bool:=decide (s.kind≠0)&&(!s.ex&&decide (e.aJ<(s.run+1:Int)))
def dw.fin(e:aF)(s:dw):dw:=⟨s.w.zero,true,s.nY,s.ex||s.turns e⟩
def dw.status(s:dw):Nat:=if s.ex then 3 else if s.run=0 then 1 else 2
theorem ZM(s:cj)(p t:Int):(s.rep p t).xs.length=s.xs.length:=by unfold cj.rep;split<;>simp
structure kf(e:aF)(n:dw)(s:bB):Prop where
 act:s.act=true
 a:n.w.a=kB e s.ms s.since
 g:n.w.g=rU e.aB s.ms s.since
 f:n.w.f=rV e s.ms s.since
 whole:n.whole=decide (0<s.since)
 run:s.run=(n.run:Int)
 ex:n.ex=s.ex
theorem kf.new(e:aF)(s:bB)(h:s.act=false):kf e (dw.new e) s.begin:=by
 have hb:s.begin=⟨true,0,[],0,false⟩:=by unfold bB.begin;rw[h];rfl
 rw[hb];exact⟨rfl,(YF e).symm,T1 _,(T_ e).symm,by simp[dw.new],rfl,rfl⟩
theorem kf.rep{e:aF}{n:dw}{s:bB}(h:kf e n s)(p t:Int)(hl:s.ms.length<1000)(ht:qK t=true):kf e (n.rep e p t) (s.rep e p t):=by
 unfold dw.rep bB.rep
 by_cases hp:jP e p=true
 ·rw[aR hp,aR ⟨h.act,hp⟩]
  refine⟨h.act,?_,?_,?_,h.whole,h.run,h.ex⟩
  ·show n.w.a.rep p=_
   rw[h.a];exact YH e _ _ p t hl
  ·show n.w.g.rep p t=_
   rw[h.g];exact T2 _ _ _ p t ht
  show n.w.f.rep e p=_
  rw[h.f];exact Ua e _ _ p t
 rw[aK hp,aK (λx=>hp x.2)];exact h
theorem kf.kind{e:aF}{n:dw}{s:bB}(h:kf e n s)(hc:e.cnt<(e.ak.length:Int)):n.kind=s.kind e:=by
 unfold dw.kind eZ.kind bB.kind;rw[h.a,h.g,h.f,h.whole,YJ hc,aR h.act]
theorem kf.turns{e:aF}{n:dw}{s:bB}(h:kf e n s)(hc:e.cnt<(e.ak.length:Int))(ht:0<=e.aJ):n.turns e=s.turns e:=by
 have hk:=h.kind hc;unfold bB.kind at hk;rw[aR h.act]at hk;unfold dw.turns bB.turns bB.nY;rw[hk,h.act,h.ex,h.run]
 by_cases h0:vR e s.ms s.since=0
 ·simp[h0];omega
 simp[h0]
theorem kf.fin{e:aF}{n:dw}{s:bB}(h:kf e n s)(hc:e.cnt<(e.ak.length:Int))(ht:0<=e.aJ)(hm:∀m∈s.ms,m.cyc<=s.since)(h0:0<=s.since):kf e (n.fin e) (s.fin e):=by
 have hk:=h.kind hc;have ZN:=h.turns hc ht;unfold bB.kind at hk;rw[aR h.act]at hk;unfold dw.fin bB.fin;rw[aR h.act]
 refine⟨rfl,?_,?_,?_,?_,?_,?_⟩
 ·show n.w.a.zero=_
  rw[h.a];exact YI hm
 ·show n.w.g.zero=_
  rw[h.g];exact T3 hm
 ·show n.w.f.zero=_
  rw[h.f];exact Ub hm
 ·show true=decide (0<s.since+1)
  rw[bM (by omega)]
 ·show s.nY e=((n.nY:Nat):Int)
  unfold bB.nY dw.nY;rw[hk,h.run]
  split<;>simp
 show (n.ex||n.turns e)=(s.ex||decide _)
 rw[ZN,h.ex];unfold bB.turns;rw[h.act]
 cases s.ex<;>simp
theorem kf.status{e:aF}{n:dw}{s:bB}(h:kf e n s):n.status=s.status:=by
 unfold dw.status bB.status;rw[h.act,h.ex,h.run]
 cases s.ex
 ·by_cases hr:n.run=0
  ·simp[hr]
  simp[hr]
 rfl
end Go.Proofs.YtgmfhkjghmdgiaaGreatDoor
namespace Go.Proofs.YtgmfhkjghmdgiaaGreatDoor
open Go.RowKit Go.Extern.Stop Go.Stop Go.Extern
structure dW(B:Nat)(w:ai)(b:Nat)(e:aF)(s:iY)(m n:Nat)(D:DataW Unit)(fv lv:ar):Prop where
 heap:w.heap[b]?=J (.cells #[.int .i64 (e.ak.length:Int),.map (J m),fv,lv,.int .i64 s.ah,.bool s.bad] 291 (0,0))
 lo:B<=b
 own:w.ownsMap prog 87 unitElem m n D
 zA:zv D e.aA
 hf:bU bm 1 3 B w fv e.first
 hl:bU bm 1 3 B w lv e.last
 fit:s.ah=-1\/(0<=s.ah/\s.ah<(e.ak.length:Int))
 sm:k7 e
 wf:sF e.aA
variable {B b m n:Nat}{w0 w w':ai}{e:aF}{s:iY}{D:DataW Unit}{fv lv:ar}
theorem dW.ZO(h:dW B w b e s m n D fv lv):m≠b:=by
 obtain⟨es,c,hm,-⟩:=h.own;intro e;subst e;rw[h.heap]at hm
 cases hm
theorem Ez{k:TypeId}{jA:ar->Option (DataW Unit×List MemPlace)}(h:w.ownsMap prog k jA m n D)(hb:Below w.heap.size w w'):w'.ownsMap prog k jA m n D:=
 h.kept (row:=I) ⟨hb.os,hb.tape,hb.output,hb.size,λk hk _=>hb.block k hk⟩ (by simp)
theorem dW.below(h:dW B w b e s m n D fv lv)(hb:Below w.heap.size w w'):dW B w' b e s m n D fv lv:=
 ⟨bG hb h.heap,h.lo,Ez h.own hb,h.zA,h.hf.below hb,h.hl.below hb,h.fit,h.sm,h.wf⟩
theorem dW.setCell(h:dW B w b e s m n D fv lv)(i:Nat)(u:ar){s':iY}(hr:(#[U R (e.ak.length:Int),.map (J m),fv,lv,U R s.ah,aI s.bad]:Array ar).setIfInBounds i u=#[U R (e.ak.length:Int),.map (J m),fv,lv,U R s'.ah,aI s'.bad])(hf:s'.ah=-1\/(0<=s'.ah/\s'.ah<(e.ak.length:Int))):dW B (w.setCell ⟨b,i,I⟩ u) b e s' m n D fv lv:=by
 refine⟨?_,h.lo,h.own.setCell (a:=⟨b,i,_⟩) h.ZO u,h.zA,h.hf.other (fp w b i u) h.heap (by decide),h.hl.other (fp w b i u) h.heap (by decide),hf,h.sm,h.wf⟩;simp only[World.setCell,dr,h.heap];simp[<- hr]
theorem dW.ZP(h:dW B w b e s m n D fv lv){a:Int}(hf:a=-1\/(0<=a/\a<(e.ak.length:Int))):dW B (w.setCell ⟨b,4,I⟩ (U R a)) b e ⟨a,s.bad⟩ m n D fv lv:=h.setCell 4 _ (by simp) hf
theorem dW.BS(h:dW B w b e s m n D fv lv)(v:Bool):dW B (w.setCell ⟨b,5,I⟩ (aI v)) b e ⟨s.ah,v⟩ m n D fv lv:=h.setCell 5 _ (by simp) h.fit
theorem dW.cell(h:dW B w b e s m n D fv lv)(i:Nat)(u:ar)(hu:(#[U R (e.ak.length:Int),.map (J m),fv,lv,U R s.ah,aI s.bad]:Array ar)[i]?=J u):w.cell? ⟨b,i,I⟩=J u:=by simp[World.cell?,h.heap,hu]
theorem dW.frozen(h:dW B w b e s m n D fv lv)(i:Nat):w.frozen? ⟨b,i,I⟩=false:=by simp[World.frozen?,h.heap]
theorem ZQ(l:List Int)(x:Int)(sa:Option az)(cap:Nat)(w:ai)(hl:bN bm 1 w (af sa l.length cap) l)(hn:l.length<=1000000):Calls prog 272 #[af sa l.length cap,U R x] w λv w'=>(∃i:Int,v=ax (U R i)/\(0<=i↔x∈l))/\w'=w:=by
 have HL:aa (bN _ 1 w _ l):=hl;have HN:aa _:=hn;clear hl hn;go_enter func272,ntmps272
 go_wp2;go_loop [5,8] (λ_ i=>∃k:Nat,k<=l.length/\i=U R k/\∀j,j<k->l[j]?≠J x) (λ_ i=>l.length-(intOf i).toNat)
 case atStart=>exact⟨0,bI _,rfl,λj hj=>absurd hj (by omega)⟩
 case round=>
  obtain⟨k,hk,rfl,hno⟩:=hrel;have gj:aa _:=hno;clear hno
  by_cases hlt:k<l.length
  ·have k1:(k:Int)<(l.length:Int):=by omega
   have k2:k<1000000:=by have:=HN.o;omega
   obtain⟨y,hy⟩:∃y,l[k]?=J y:=⟨_,bH hlt⟩;have HY:aa _:=hy;obtain⟨dI,cap',ck,-,hcc⟩:=id HL.o
   cases ck
   obtain⟨g,o,rfl,hc0⟩:=hcc (λh=>by rw[h]at hy;simp at hy);have c0:=hc0 k _ hy 0 _ rfl;simp only[tN,oH]at c0;clear hcc hc0 hy
   by_cases IA:x=y
   ·have HX:aa (x∈l):=by show _∈_;rw[IA];exact cM HY.o
    subst IA;go_wp2;go_ret;exact⟨⟨_,rfl,⟨λ_=>HX.o,λ_=>by omega⟩⟩,rfl⟩
   have HX:aa (∀j,j<k+1->l[j]?≠J x):=λj hj=>by
    rcases fR j k with h1|h1
    ·exact gj.o j h1
    rw[show j=k by omega,HY.o];intro h;exact IA (by simpa using h.symm)
   go_wp2;go_round
   case rel=>exact⟨_,by omega,by go_num,HX.o⟩
   case measure=>simp[intOf];omega
  have k1:¬(k:Int)<(l.length:Int):=by omega
  have HX:aa (x∉l):=by
   show _∉_
   intro h;obtain⟨i,hi⟩:=vS h;have:=(dT.1 hi).1;exact gj.o i (by omega) hi
  go_wp2;go_ret;exact⟨⟨_,rfl,⟨λh=>absurd h (by omega),λh=>absurd h HX.o⟩⟩,rfl⟩
theorem IB(l:List Int)(x:Int)(sa:Option az)(cap:Nat)(w:ai)(hl:bN bm 1 w (af sa l.length cap) l)(hn:l.length<=1000000):Calls prog 248 #[af sa l.length cap,U R x] w λv w'=>v=ax (aI (decide (x∈l)))/\w'=w:=by
 have HC:aa _:=ZQ l x sa cap w hl hn;clear hl hn;go_enter func248,ntmps248
 go_wp2_with fail
 refine aL HC.o ?_;rintro v w' ⟨⟨i,rfl,hi⟩,rfl⟩;have HI:aa (decide _=decide _):=jE.2 hi;clear hi HC;go_wp2;go_ret;exact⟨by rw[<- HI.o];first|rfl|simp,rfl⟩
theorem zB(p:Int)(h:dW B w b e s m n D fv lv):Calls prog 253 #[aj (J ⟨b,0,I⟩),U R p] w λv w'=>v=ax (aI (jP e p))/\w'=w:=by
 have c0:=h.cell 0 _ rfl;clear h
 by_cases g0:0<=p
 ·have HR:aa (jP e p=decide (p<(e.ak.length:Int))):=by show _=_;unfold jP;rw[bM g0];rfl
  go_enter func253,ntmps253
  go_wp2;go_ret;exact⟨by rw[HR.o];first|rfl|simp,rfl⟩
 have HR:aa (jP e p=false):=by show _=_;unfold jP;rw[cw g0];rfl
 go_enter func253,ntmps253
 go_wp2;go_ret;exact⟨by rw[HR.o];first|rfl|simp,rfl⟩
end Go.Proofs.YtgmfhkjghmdgiaaGreatDoor
namespace Go.Proofs.YtgmfhkjghmdgiaaGreatDoor
open Go.RowKit Go.Extern.Stop Go.Stop Go.Extern
variable {B b m n:Nat}{w0 w w':ai}{e:aF}{s:iY}{D:DataW Unit}{fv lv:ar}
theorem EB(w:ai)(r:Option Nat):w.grownBy w r:=⟨rfl,rfl,rfl,aQ _,λ_ _ _=>rfl⟩
theorem ZR(w:ai):(zeroValue 224).run prog w=.ok (aU #[]) w:=by kernel_rfl
theorem dW.ak(h:dW B w b e s m n D fv lv):e.ak.length<=1000000:=h.sm.hp
theorem ZT{p:Int}(h:jP e p=true)(hp:e.ak.length<=1000000):ll p:=by
 unfold jP at h;simp at h
 exact BZ (by omega) (by omega)
theorem ZU{a:Int}(h:a=-1\/(0<=a/\a<(e.ak.length:Int)))(hp:e.ak.length<=1000000):ll a:=by
 rcases h with rfl|h
 ·exact BZ (by omega) (by omega)
 exact BZ (by omega) (by omega)
theorem ZV(ah p:Int)(h:dW B w b e s m n D fv lv)(Oe:ah=-1\/(0<=ah/\ah<(e.ak.length:Int))):Calls prog 216 #[aj (J ⟨b,0,I⟩),U R ah,U R p] w λv w'=>v=ax (aI (qf e ah p))/\w.grownBy w' I:=by
 have H:aa _:=h;have c1:=h.cell 1 _ rfl;have HS:=Za h.zA h.wf;have Og:aa (ll ah):=ZU Oe h.ak;clear h Oe
 by_cases h0:e.aA=[]
 ·have hz:=HS.2 h0;have HR:aa (qf e ah p=true):=by show _=_;unfold qf;rw[bM h0];rfl
  clear HS h0;go_enter func216,ntmps216
  go_wp2_with (at_len;refine wpList_len_own _ rfl _ 289 rfl 87 224 underlying289 _ m n D rfl H.o.own ?_)
  go_ret;exact⟨by rw[HR.o];rfl,EB _ _⟩
 have hz:¬((Maps.size D:Nat):Int)=0:=λh=>h0 (HS.1 (by omega))
 have HD:aa (qf e ah p=(jP e p&&(if ah=-1 then decide (p∈e.first)else decide ((ah,p)∈e.aA)))):=by show _=_;unfold qf;rw[cw h0];rfl
 clear HS h0
 cases hp:jP e p
 ·have HR:aa (qf e ah p=false):=by show _=_;rw[HD.o,hp];rfl
  go_enter func216,ntmps216
  go_wp2_with (first|(at_len;refine wpList_len_own _ rfl _ 289 rfl 87 224 underlying289 _ m n D rfl H.o.own ?_)|(go_at_call 253;refine(zB p H.o).mono ?_;rw[hp];rintro v w' ⟨rfl,rfl⟩))
  go_ret;exact⟨by rw[HR.o];rfl,EB _ _⟩
 have Oh:aa (ll p):=ZT hp H.o.ak
 by_cases ha:ah=-1
 ·have HR:aa (qf e ah p=decide (p∈e.first)):=by show _=_;rw[HD.o,hp,aR ha];rfl
  have c2:=H.o.cell 2 _ rfl;obtain⟨sa,c,rfl⟩:=mD H.o.hf;subst ha;go_enter func216,ntmps216
  go_wp2_with (first|(at_len;refine wpList_len_own _ rfl _ 289 rfl 87 224 underlying289 _ m n D rfl H.o.own ?_)|(go_at_call 253;refine(zB p H.o).mono ?_;rw[hp];rintro v w' ⟨rfl,rfl⟩)|(go_at_call 248;refine(IB _ p _ _ _ (H.o.hf.jc (λ_=>rfl)) H.o.sm.hf).mono ?_;rintro v w' ⟨rfl,rfl⟩))
  go_ret;exact⟨by rw[HR.o];rfl,EB _ _⟩
 have HR:aa (qf e ah p=decide ((ah,p)∈e.aA)):=by show _=_;rw[HD.o,hp,aK ha];rfl
 have HM:aa (Maps.has D _=decide ((ah,p)∈e.aA)):=H.o.zA.2.2 _ Og.o Oh.o;go_enter func216,ntmps216
 go_wp2_with (first|(at_len;refine wpList_len_own _ rfl _ 289 rfl 87 224 underlying289 _ m n D rfl H.o.own ?_)|(go_at_call 253;refine(zB p H.o).mono ?_;rw[hp];rintro v w' ⟨rfl,rfl⟩)|(at_lookup;refine wpList_lookup_own_unit _ rfl _ _ 289 rfl 87 224 Ik underlying289 (ZR _) m n D rfl H.o.own _ _ rfl (Es Og.o Oh.o) ?_))
 go_ret;exact⟨by rw[HR.o,<- HM.o];rfl,World.grownBy_alloc _ _ _⟩
theorem Oi(p:Int)(h:dW B w b e s m n D fv lv):Calls prog 217 #[aj (J ⟨b,0,I⟩),U R p] w λv w'=>v=ax (U R (mZ e p))/\w'=w:=by
 have H:aa _:=h;clear h
 cases hp:jP e p
 ·have HR:aa (mZ e p=-1):=by show _=_;unfold mZ;rw[aK (by rw[hp];simp)]
  go_enter func217,ntmps217
  go_wp2_with (go_at_call 253;refine(zB p H.o).mono ?_;rw[hp];rintro v w' ⟨rfl,rfl⟩)
  go_ret;exact⟨by rw[HR.o];rfl,rfl⟩
 have c3:=H.o.cell 3 _ rfl;obtain⟨sa,c,rfl⟩:=mD H.o.hl
 by_cases hl:p∈e.last
 ·have HR:aa (mZ e p=-1):=by show _=_;unfold mZ;rw[aK (λh=>h.2 hl)]
  have hd:=bM hl;clear hl;go_enter func217,ntmps217
  go_wp2_with (first|(go_at_call 253;refine(zB p H.o).mono ?_;rw[hp];rintro v w' ⟨rfl,rfl⟩)|(go_at_call 248;refine(IB _ p _ _ _ (H.o.hl.jc (λ_=>rfl)) H.o.sm.hl).mono ?_;rw[hd];rintro v w' ⟨rfl,rfl⟩))
  go_ret;exact⟨by rw[HR.o];rfl,rfl⟩
 have HR:aa (mZ e p=p):=by show _=_;unfold mZ;rw[aR ⟨hp,hl⟩]
 have hd:=cw hl;clear hl;go_enter func217,ntmps217
 go_wp2_with (first|(go_at_call 253;refine(zB p H.o).mono ?_;rw[hp];rintro v w' ⟨rfl,rfl⟩)|(go_at_call 248;refine(IB _ p _ _ _ (H.o.hl.jc (λ_=>rfl)) H.o.sm.hl).mono ?_;rw[hd];rintro v w' ⟨rfl,rfl⟩))
 go_ret;exact⟨by rw[HR.o];rfl,rfl⟩
theorem IC(h:w.grownBy w' I):Below w.heap.size w w':=⟨h.os,h.tape,h.output,h.size,λk hk=>h.block k hk (by simp)⟩
end Go.Proofs.YtgmfhkjghmdgiaaGreatDoor
namespace Go.Proofs.YtgmfhkjghmdgiaaGreatDoor
open Go
def mark(done:Nat->Bool)(i:Nat):Nat->Bool:=λj=>decide (j=i)||done j
theorem ZW(vals:Nat->Option ar)(i:Nat)(v:ar):(λj=>(upd vals i v j).isSome)=mark (λj=>(vals j).isSome) i:=by
 funext j
 unfold mark upd
 by_cases h:j=i
 ·simp[h]
 simp[h]
theorem cr(done:Nat->Bool){i j:Nat}(h:j≠i):mark done i j=done j:=by simp[mark,h]
theorem zC(done:Nat->Bool)(i:Nat):mark done i i=true:=by simp[mark]
def cu(P:Program)(S:Nat->ar->ai->Prop)(C:(Nat->Bool)->ai->Prop)(done:Nat->Bool)(i:Nat)(w:ai):Result Next->Prop
 |.ok (.value u) w'=>C (mark done i) w'/\(∀j v,done j=true->S j v w->S j v w')/\S i u w'
 |.ok .skip w'=>C (mark done i) w'/\(∀j v,done j=true->S j v w->S j v w')/\S i undef w'
 |.ok (.enter f args) w'=>Calls P f args w' λe w''=>∃v,e=ax v/\C (mark done i) w''/\(∀j v,done j=true->S j v w->S j v w'')/\S i v w''
 |_=>False
section
variable {P:Program}{ops:Array Oper}{Q:Exit->Act->ai->Prop}{md:Region.Mode}{S:Nat->ar->ai->Prop}{C:(Nat->Bool)->ai->Prop}{a0:Act}
def cI(P:Program)(md:Region.Mode)(ops:Array Oper)(S:Nat->ar->ai->Prop)(C:(Nat->Bool)->ai->Prop)(a0:Act)(i:Nat)(o:Oper):Prop:=
 ∀(done:Nat->Bool) (a:Act) (w:ai),C done w->done i=false->a.tmps.size=a0.tmps.size->(∀e,e∈o.after->Region.binds md e=true->done e.on=true)->(∀e d,e∈o.after->Region.binds md e=true->dz ops e.on=J d->S e.on (a.eval (.tmp d)) w) ->
  (∀d,(∀j,dz ops j≠J d)->a.eval (.tmp d)=a0.eval (.tmp d)) ->
  if Region.wanted o (yielded ops a.tmps)=true then cu P S C done i w ((execOp a.eval o).run P w)else C (mark done i) w/\S i undef w
theorem ZX(hd:BJ ops)(BK:∀j d,dz ops j=J d->d<a0.tmps.size)
  (hback:∀i o,ops[i]?=J o->∀e,e∈o.after->Region.binds md e=true->e.on<i)
  (step:∀i o,ops[i]?=J o->cI P md ops S C a0 i o)
  (fin:∀(vals:Nat->ar) (w:ai),C (λj=>decide (j<ops.size)) w->(∀j,j<ops.size->S j (vals j) w)->Q .normal (fill ops a0 (λj=>J (vals j)) ops.size) w):∀(fuel:Nat) (listed:Array Bool) (vals:Nat->Option ar) (w:ai),listed.size=ops.size->(∀j,j<ops.size->listed.getD j true=(vals j).isSome)->(∀j,ops.size<=j->vals j=I)->C (λj=>(vals j).isSome) w ->
   (∀j v,vals j=J v->S j v w)->cnt vals ops.size<=fuel->wpAny P md ops Q fuel listed (fill ops a0 vals ops.size) w:=by
 have BL:∀(vals:Nat->Option _) (w:ai),C (λj=>(vals j).isSome) w->(∀j,ops.size<=j->vals j=I)->(∀j v,vals j=J v->S j v w)->(∀j,j<ops.size->(vals j).isSome=true)->Q .normal (fill ops a0 vals ops.size) w:=by
  intro vals w hC hout hS hall;have hd:(λj=>(vals j).isSome)=λj=>decide (j<ops.size):=by
   funext j
   by_cases hj:j<ops.size
   ·simp[hall j hj,hj]
   simp[hout j (by omega),hj]
  rw[hd]at hC;have e:fill ops a0 vals ops.size=fill ops a0 (λj=>J ((vals j).getD undef)) ops.size:=by
   have:∀k,k<=ops.size->fill ops a0 vals k=fill ops a0 (λj=>J ((vals j).getD undef)) k:=by
    intro k
    induction k with
    |zero=>intro _;rfl
    |succ k ih=>
     intro hk;have hs:=hall k (by omega)
     cases hv:vals k with
     |none=>rw[hv]at hs;cases hs
     |some v=>simp only[fill,hv,sx,ih (by omega)]
   exact this _ (aQ _)
  rw[e]
  refine fin _ w hC (λj hj=>?_);have hs:=hall j hj
  cases hv:vals j with
  |none=>rw[hv]at hs;cases hs
  |some v=>exact hS j v hv
 have BM:∀(listed:Array _) (vals:Nat->Option ar),listed.size=ops.size->(∀j,j<ops.size->listed.getD j true=(vals j).isSome)->Region.ready md ops listed=[]->∀j,j<ops.size->(vals j).isSome=true:=by
  intro listed vals hsz hl hr j
  induction j using Nat.strongRecOn with
  |ind j ih=>
   intro hj
   cases hv:(vals j).isSome with
   |true=>rfl
   |false=>
    exfalso
    have hm:j∈Region.ready md ops listed:=by
     rw[mem_ready]
     refine⟨by rw[hl j hj,hv],_,oM hj,λe he hb=>?_⟩;have hlt:=hback j _ (oM hj) e he hb;have h1:=ih _ hlt (by omega);have h2:=hl e.on (by omega);rw[h1]at h2;have h3:e.on<listed.size:=by omega
     simp only[ua,oM h3,sx]at h2⊢;exact h2
    rw[hr]at hm
    cases hm
 intro fuel
 induction fuel with
 |zero=>
  intro listed vals w hsz hl hout hC hS hc;have hall:=H6 vals ops.size (by omega)
  refine⟨?_,BL _ w hC hout hS hall⟩
  cases hr:Region.ready md ops listed with
  |nil=>rfl
  |cons i r=>
   have hm:i∈Region.ready md ops listed:=by rw[hr];exact qc ..
   rw[mem_ready]at hm;obtain⟨h0,o,ho,-⟩:=hm;have hi:=(sw.1 ho).1;rw[hl i hi,hall i hi]at h0
   cases h0
 |succ fuel ih=>
  intro listed vals w hsz hl hout hC hS hc
  refine⟨λhr=>BL _ w hC hout hS (BM _ _ hsz hl hr),λi hm=>?_⟩;rw[mem_ready]at hm;obtain⟨h0,o,ho,zq⟩:=hm;have hi:=(sw.1 ho).1;have hnone:vals i=I:=by
   rw[hl i hi]at h0
   cases hv:vals i with
   |none=>rfl
   |some v=>rw[hv]at h0;cases h0
  have cO:dz ops i=o.dst:=by simp[dz,ho]
  have hdone:∀e,e∈o.after->Region.binds md e=true->(vals e.on).isSome=true:=λe he hb=>by
   have h1:=zq e he hb;have hlt:=hback i o ho e he hb;have h2:=hl e.on (by omega);have h3:e.on<listed.size:=by omega
   rw[<- h2];simp only[ua,oM h3,sx]at h1⊢;exact h1
  have hst:=step i o ho _ _ w hC (by simp[hnone]) (Hu _ _ _ _) hdone (λe d he hb qp=>by
    have h1:=zq e he hb;have hlt:=hback i o ho e he hb;have h2:=hl e.on (by omega);have h3:e.on<listed.size:=by omega
    have h4:(vals e.on).isSome=true:=by
     rw[<- h2];simp only[ua,oM h3,sx]at h1⊢;exact h1
    cases hv:vals e.on with
    |none=>rw[hv]at h4;cases h4
    |some v=>
     rw[Hw ops a0 _ hd _ d v hv qp (BK _ _ qp) _ (by omega)];exact hS _ _ hv)
   (λd oB=>Hv ops a0 vals d ops.size (λj _=>oB j))
  have oN:∀(v:ar) (w':ai),C (mark (λj=>(vals j).isSome) i) w'->(∀j v,(vals j).isSome=true->S j v w->S j v w')->S i v w'->wpAny P md ops Q fuel (listed.setIfInBounds i true) ((fill ops a0 vals ops.size).put o.dst v) w':=by
   intro v w' BN hK H7;rw[<- cO,<- Hy ops a0 _ hd i v hnone _ hi]
   refine ih _ _ w' (by simp[hsz]) (λj hj=>?_) (λj hj=>?_) (by rw[ZW];exact BN) (λj u hu=>?_) (by have:=Hz _ i v hnone _ hi;omega)
   ·by_cases e:j=i
    ·subst e;simp[upd]
    rw[getD_set_ne _ (Ne.symm e),hl j hj];simp[upd,e]
   ·have e:j≠i:=by omega
    simp[upd,e,hout j hj]
   by_cases e:j=i
   ·subst e;simp[upd]at hu
    subst hu;exact H7
   simp[upd,e]at hu
   exact hK _ _ (by rw[hu];rfl) (hS _ _ hu)
  unfold wpOp;simp only[ho]
  split
  ·rename_i hw;rw[aR hw]at hst
   refine .inl ?_;unfold Oper.wp;generalize (execOp (fill ops a0 vals ops.size).eval o).run P w=r at hst
   cases r with
   |ok n w'=>
    cases n<;>simp only[cu]at hst<;>simp only[Oper.upon]
    case value u=>exact oN _ _ hst.1 hst.2.1 hst.2.2
    case skip=>exact oN _ _ hst.1 hst.2.1 hst.2.2
    case enter f args=>exact hst.mono λe w'' ⟨v,he,h1,h2,h3⟩=>by subst he;exact oN _ _ h1 h2 h3
   |halt x w'=>simp only[cu]at hst
  rename_i hw;rw[aK hw]at hst;exact oN _ _ hst.1 (λ_ _ _ h=>h) hst.2
theorem Cb{id:Nat}{w:ai}(n:Nat)(hn:ops.size=n)(S:Nat->ar->ai->Prop)(C:(Nat->Bool)->ai->Prop)(hm:P.follows .mixedOrders=true)(hB:zr ops a0.tmps.size=true)(hC:C (λ_=>false) w.drew)
  (step:∀i o,ops[i]?=J o->cI P .any ops S C a0 i o)
  (fin:∀(vals:Nat->ar) (w:ai),C (λj=>decide (j<n)) w->(∀j,j<n->S j (vals j) w)->Q .normal (fill ops a0 (λj=>J (vals j)) n) w):(Code.region id ops true).wp P Q a0 w:=by
 subst hn;unfold zr at hB;simp only[rS,py,mr]at hB;obtain⟨⟨h1,h2⟩,h3⟩:=hB
 refine wp_region_any hm ?_;have hnone:fill ops a0 (λ_=>I) ops.size=a0:=by
  have:∀k,fill ops a0 (λ_=>I) k=a0:=by
   intro k
   induction k with
   |zero=>rfl
   |succ k ih=>simp only[fill,ih]
  exact this _
 have key:=ZX (P:=P) (ops:=ops) (Q:=Q) (md:=.any) (S:=S) (C:=C) (a0:=a0)
  (λi j d hne hi hj=>by
   have h:=h1 i (sA hi) j (sA hj);simp[hne,hi,hj]at h)
  (λj d hj=>by
   have h:=h2 j (sA hj);rw[hj]at h;simpa using h)
  (λi o ho e he hb=>by
   have h:=h3 i (sw.1 ho).1;rw[ho]at h;have:=py.1 h e (by simpa using he);simpa[hb]using this)
  step fin ops.size (Array.replicate ops.size false) _ _ (by simp) (λj hj=>by simp[hj]) (λ_ _=>rfl) hC (λj v h=>by cases h) (by
   have:∀k,cnt (λ_=>I) k<=k:=by
    intro k
    induction k with
    |zero=>exact aQ _
    |succ k ih=>simp only[cnt];split<;>omega
   exact this _)
 rw[hnone]at key;exact key
theorem cI.free{i:Nat}{o:Oper}(hg:o.guard=I)
  (hrun:∀(done:Nat->Bool) (a:Act) (w:ai),C done w->done i=false->(∀e,e∈o.after->Region.binds md e=true->done e.on=true)->(∀e d,e∈o.after->Region.binds md e=true->dz ops e.on=J d->S e.on (a.eval (.tmp d)) w)->(∀d,(∀j,dz ops j≠J d)->a.eval (.tmp d)=a0.eval (.tmp d))->cu P S C done i w ((execOp a.eval o).run P w)):cI P md ops S C a0 i o:=by
 intro done a w hC hi _ cO ay aD;rw[aR (by unfold Region.wanted;rw[hg])];exact hrun _ a w hC hi cO ay aD
theorem cu.val{i:Nat}{done:Nat->Bool}{w:ai}{c:ar}{r:Result Next}(hr:r=.ok (.value c) w)(hC:C (mark done i) w)(hS:S i c w):cu P S C done i w r:=by
 subst hr;exact⟨hC,λ_ _ _ h=>h,hS⟩
theorem cu.made{i:Nat}{done:Nat->Bool}{w w':ai}{c:ar}{r:Result Next}(hr:r=.ok (.value c) w')(hC:C (mark done i) w')(hK:∀j v,done j=true->S j v w->S j v w')(hS:S i c w'):cu P S C done i w r:=by
 subst hr;exact⟨hC,hK,hS⟩
theorem cu.BQ{i:Nat}{done:Nat->Bool}{w w':ai}{r:Result Next}(hr:r=.ok .skip w')(hC:C (mark done i) w')(hK:∀j v,done j=true->S j v w->S j v w')(hS:S i undef w'):cu P S C done i w r:=by
 subst hr;exact⟨hC,hK,hS⟩
theorem cu.call{i:Nat}{done:Nat->Bool}{w:ai}{f:FuncId}{args:Array ar}{r:Result Next}(hr:r=.ok (.enter f args) w)
  (hc:Calls P f args w λe w''=>∃v,e=ax v/\C (mark done i) w''/\(∀j v,done j=true->S j v w->S j v w'')/\S i v w''):cu P S C done i w r:=by
 subst hr;exact hc
end
end Go.Proofs.YtgmfhkjghmdgiaaGreatDoor
