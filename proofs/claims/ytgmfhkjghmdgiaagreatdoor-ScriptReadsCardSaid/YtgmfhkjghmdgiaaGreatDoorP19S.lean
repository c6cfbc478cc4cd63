/-
  Several texts as one: ScRdW, ScRdLift, ScRdFact.
-/
import Derived.Test.YtgmfhkjghmdgiaaGreatDoorP18S
import Derived.Stop.Joined
import Derived.SevenTiedAt
import Derived.HandedShaped
import Derived.Test.YtgmfhkjghmdgiaaGreatDoorChecked
import Derived.JoinedOf
set_option linter.all false
set_option maxHeartbeats 40000000
set_option maxRecDepth 100000
open Go renaming Addr→az,Value→ar,World→ai
open Go.Ending renaming returned→ax
open Go.IntKind renaming i64→R
open Go.Obj renaming cells→au
open Go.RowKit renaming Hid→aa
open Go.Value renaming agg→aU,bool→aI,int→U,pointer→aj,slice→af,string→aq
open Option renaming none→I,some→J
open Go.Proofs.Tryz
namespace Go.Proofs.YtgmfhkjghmdgiaaGreatDoor
open Go.Extern Go.Extern.Stop Go.Maps Go.RowKit Go.Stop
theorem Tx(A:Nat->az)(r:ar)(f:Nat×Int)(code place:Int)(V:ai)(hc:code=(f.1:Int))(hp:code≠0->place=f.2)(hs:kZ A V)(h:kJ A V r f):Calls prog 8 #[r,aU #[U R code,U R place]] V λe w'=>e=ax (aI true)/\Below V.heap.size V w':=by
 refine(ag6 A r f code place V hs h).mono ?_;rintro v w' ⟨rfl,hb⟩
 refine⟨?_,hb⟩;have:(f.1:Int)=code/\(f.1=0\/f.2=place):=by
  refine⟨hc.symm,?_⟩
  by_cases h0:f.1=0
  ·exact a_ h0
  exact aP (hp (by rw[hc];omega)).symm
 rw[bM this]
def Lb(x:ByteArray):Prop:=x.size<=40/\((bl x).take 4=oT 3->x.size<=8)
theorem Ty{l:Bs}{j:Nat}(h:∀b∈l.take j,b≠32)(hs:l.drop j=[]\/∃t,l.drop j=32::t):l.takeWhile (λb=>b != 32)=l.take j:=by
 have e:l.takeWhile (λb=>b != 32)=(l.take j++l.drop j).takeWhile (λb=>b != 32):=by rw[qq]
 rw[e,List.takeWhile_append_of_pos (λb hb=>by simpa using h b hb)]
 rcases hs with hs|⟨t,hs⟩<;>rw[hs]<;>simp
def Lc(p:Nat->Oper->Prop):Nat->List Oper->Prop
 |_,[]=>True
 |k,o::t=>p k o/\Lc p (k+1) t
theorem Tz{p:Nat->Oper->Prop}:∀(l:List Oper) (k:Nat),Lc p k l->∀i o,l[i]?=J o->p (k+i) o
 |[],_,_,i,o,h=>by simp at h
 |x::l,k,⟨h1,_⟩,0,o,h=>by
  simp at h
  subst h;exact h1
 |x::l,k,⟨_,h2⟩,i+1,o,h=>by
  have:=Tz l (k+1) h2 i o (by simpa using h);rwa [show k+1+i=k+(i+1) by omega]at this
theorem ah8{p:Nat->Oper->Prop}{ops:Array Oper}(h:Lc p 0 ops.toList)(i:Nat)(o:Oper)(ho:ops[i]?=J o):p i o:=by
 have:=Tz _ 0 h i o (by simpa using ho);rwa [nj]at this
def TA(ov iv pv:ar):Nat->ar
 |0=>ov
 |1=>iv
 |2=>pv
 |3=>aq wZ
 |6=>aI false
 |7=>aI true
 |8=>aI true
 |9=>ov
 |10=>iv
 |11=>pv
 |12=>aq wZ
 |13=>aq wZ
 |_=>aI false
theorem ah9(A:Nat->az)(T:Nat->Bs)(s:ByteArray)(ls:List ByteArray)(la:Option az)(lc:Nat)(w:ai)(h:uU A w)(hv:kZ A w)(hT:∀i,i<11->w.cell? (A i)=J (aq ⟨(T (i+1)).toArray⟩))(ah_:T 1=bl wZ)(ah':∀i,T i≠[])(hL:bN bS 1 w (af la ls.length lc) ls):Calls prog 3 #[aq s,af la ls.length lc] w λe w'=>e=ax (aI true)/\Below w.heap.size w w':=by
 have HH:aa _:=ag3 A T w h hT
 by_cases c1:2000<(s.size:Int)
 ·clear h hT hL;go_enter func3,ntmps3
  go_wp2_with fail
  refine aL HH.o ?_;rintro e w1 ⟨rfl,hb⟩;go_wp2;go_ret;exact⟨rfl,hb⟩
 by_cases c2:110<(ls.length:Int)
 ·clear h hT hL;go_enter func3,ntmps3
  go_wp2_with fail
  refine aL HH.o ?_;rintro e w1 ⟨rfl,hb⟩;go_wp2;go_ret;exact⟨rfl,hb⟩
 have HE:aa _:=h;have HV:aa _:=hv;have HT:aa _:=hT;have fe:aa _:=hL;obtain⟨i0,oZ,hz0,hz1,hz2⟩:=fj EY;have hlen:ls.length<=110:=by omega
 have HS:aa (s.size<=2000):=by show _<=_;omega
 clear h hv hT hL;go_enter func3,ntmps3
 go_wp2_with fail
 refine aL HH.o ?_;rintro e W ⟨rfl,hb⟩;have HB:aa _:=hb;have TB:aa (mJ W W (af I 0 0) []):=⟨aC _ _,fC _ _ _ _⟩;clear hb HH;go_upto_region 5 with fail
 clear c1 c2
 go_cut [7] (λi wx=>i=U R 0/\wx=W)
 case first=>
  go_wp2_with fail
  go_meet
  case rel=>exact⟨rfl,rfl⟩
 obtain⟨rfl,rfl⟩:=hcut;rename ai=>W
 go_wp2_with fail
 go_loopw [6,7] (λlv i wr=>∃(n:Nat),n<=ls.length/\i=U R n/\aa (∀x∈ls.take n,Lb x)/\aa (mJ W wr lv (ls.take n))) (λ_ i _=>ls.length-(intOf i).toNat)
 case atStart=>exact⟨0,bI _,rfl,λx hx=>by simp at hx,TB.o⟩
 case round=>
  clear TB;obtain⟨n,hn,rfl,HX,HL⟩:=hrel;obtain⟨ka,kc,ly⟩:=mD HL.o.own;subst ly
  by_cases hlt:n<ls.length
  ·have k1:(n:Int)<(ls.length:Int):=by omega
   obtain⟨x,hx⟩:∃x,ls[n]?=J x:=⟨_,bH hlt⟩;have Ld:Below w.heap.size w wr:=HB.o.trans (HL.o.br.mono HB.o.size);obtain⟨b,o,rfl,hcc⟩:=sK (bN.below fe.o Ld) hx;have y0:=hcc n x hx;have jg:aa _:=Ld;have aia:aa (ls[n]?=J x):=hx;clear Ld hx hcc;have wY:(ls.take n).length=n:=by rw[gy];omega
   rw[wY]at HL⊢
   by_cases q1:40<(x.size:Int)
   ·go_wp2;go_ret;exact⟨rfl,jg.o⟩
   have aib:aa ((bl x).take 4=bl (x.extract 0 4)):=by
    show _=_
    unfold bl;rw[zb];rfl
   by_cases q4:8<(x.size:Int)/\((x.extract 0 4).toList==[116,105,99,107])=true
   ·obtain⟨q2,he⟩:=q4;have q5:(4:Int)<=(x.size:Int):=by omega
    go_wp2;go_ret;exact⟨rfl,jg.o⟩
   have HR:aa (Lb x):=⟨by omega,λe=>by
    refine Classical.byContradiction λh8=>q4 ⟨by omega,?_⟩
    rw[fZ,sD];exact aib.o.symm.trans e⟩
   have gY:aa (wr.ownsRow W.heap.size 9 1 (af ka n kc) n ((ls.take n).flatMap bS)):=by have:=HL.o.own;rwa [wY]at this
   have hz3:W.heap.size<=wr.heap.size:=HL.o.br.size;have key:¬8<(x.size:Int)\/(8<(x.size:Int)/\(4:Int)<=(x.size:Int)/\((x.extract 0 4).toList==[116,105,99,107])=false):=by
    by_cases q2:8<(x.size:Int)
    ·exact aP ⟨q2,by omega,by simpa[q2]using q4⟩
    exact a_ q2
   clear q4
   rcases key with q2|⟨q2,q5,he⟩
   all_goals
    go_wp2_with (at_builtin;refine zI _ rfl _ _ 22 rfl W.heap.size 9 i0 (aq ⟨#[]⟩) 1 16 underlying22 oZ hz0 hz1 hz2 rfl (by decide) (af ka n kc) n ((ls.take n).flatMap bS) rfl (zH gY.o _) ⟨wr.heap.size,0,I⟩ 1 1 [aq x] rfl rfl (sB wr [aq x] 9) (λu hu=>by rw[iF]at hu;subst hu;rfl) (by decide) (by unfold maxLen;omega) (by omega) (by simp;omega) (wr.heap.size+1) (by simp) ?_;intro gg cc xO hown hg cH ru)
    have Le:ls.take (n+1)=ls.take n++[x]:=by rw[fW,aia.o];rfl
    have uw:aa (mJ W xO (af (J ⟨gg,0,I⟩) (n+1) cc) (ls.take (n+1))):=by rw[Le];exact HL.o.more (by rw[wY]) hown hg
    have aic:aa (∀y∈ls.take (n+1),Lb y):=λy hy=>by
     rw[Le]at hy
     rcases pz.1 hy with hy|hy
     ·exact HX.o y hy
     rw[iF.1 hy];exact HR.o
    clear hown hg cH ru gY HL HX Le;go_roundw
    case rel=>exact⟨n+1,by omega,by go_num,aic.o,uw.o⟩
    case measure=>simp[intOf];omega
  obtain rfl:n=ls.length:=by omega
  have k1:¬(ls.length:Int)<(ls.length:Int):=by omega
  rw[l4]at HL HX⊢;have jg:aa (Below w.heap.size w wr):=HB.o.trans (HL.o.br.mono HB.o.size);have ck:bN bS 1 wr (af ka ls.length kc) ls:=bU.jc (B:=W.heap.size) (T:=9) HL.o.own (λ_=>rfl);have wR:aa _:=SS A T s ls ka kc wr (uU.below HE.o jg.o) (λi hi=>aG jg.o (HT.o i hi)) (by have:=HS.o;omega) ck (λx hx=>bw (HX.o x hx).1 (by decide)) (by omega) (by
   have h1:=SR (ls.map bl) (λl hl=>by
    obtain⟨x,hx,rfl⟩:=lX.1 hl;have h2:=(HX.o x hx).2;have e:(bl x).length=x.size:=by simp[bl]
    rw[e];exact h2)
   rw[fL]at h1;omega)
  have aid:aa (∀x∈ls,x.size<=40):=λx hx=>(HX.o x hx).1
  have np:aa (∀V,Below wr.heap.size wr V->bN bS 1 V (af la ls.length lc) ls):=λV hV=>bN.below fe.o (jg.o.trans (hV.mono jg.o.size))
  clear HL HX hlt hn ck fe;go_wp2_with fail
  refine aL wR.o ?_;rintro e w5 ⟨jG,av,ev,rfl,TC,TD,TE⟩;have kU:aa (Below w.heap.size w w5):=jg.o.trans (jG.mono jg.o.size);have TF:aa _:=jG;have HM:aa _:=TC;have DB:aa _:=TD;have TG:aa _:=TE;clear jG TC TD TE wR;have HO:aa _:=ah0 s w5 (by have:=HS.o;omega);go_wp2_with fail
  refine aL HO.o ?_;rintro v w6 ⟨c2,akr,code,place,rfl,iB,hc2,cA,yP,B2,TH⟩;obtain⟨vb,vd,rfl,-⟩:=id TH.aw;have iC:cW aV (bl s)=cW bq (bl s):=Ux QY ahm _;rw[<- iC]at hc2 cA yP;obtain⟨kW,hU⟩:∃kW,kW=(w6.alloc (au #[U R c2.closed,U R c2.opn,U R c2.cycle,U R c2.bC,af vb c2.aw.length vd] 30)).alloc (au #[U R code,U R place] 32):=⟨_,rfl⟩;have rC:Below w5.heap.size w5 kW:=by rw[hU];exact(iB.alloc iB.size _).alloc (by simp;have:=iB.size;omega) _
  have hf:kW.heap[w6.heap.size+1]?=J (au #[U R code,U R place] 32 (0,0)):=by
   have:=cR (w6.alloc (au #[U R c2.closed,U R c2.opn,U R c2.cycle,U R c2.bC,af vb c2.aw.length vd] 30)) (au #[U R code,U R place] 32);rw[hU];simpa using this
  obtain⟨yb,wA⟩:∃b,b=w6.heap.size+1:=⟨_,rfl⟩;have aie:aa (w5.heap.size<=yb):=by show _<=_;have:=iB.size;omega
  rw[<- wA]at hf;have HF:aa _:=hf;have aks:aa _:=rC;have bK:aa (Below w.heap.size w kW):=kU.o.trans (rC.mono kU.o.size);have F7:aa (code=((cW aV (bl s)).1.1:Int)/\(code≠0->place=(cW aV (bl s)).1.2)):=⟨cA,yP⟩;clear iB hc2 cA yP TH iC hf HO;go_upto_region 13 with fail
  rw[<- hU,<- wA];clear hU wA
  by_cases akt:100<(ls.length:Int)
  ·obtain⟨rfl,rfl⟩:=HM.o (by rw[fL];omega);have AE:aa _:=rG 2 kW;clear rC;go_wp2_with fail
   refine aL AE.o ?_;rintro v w7 ⟨rfl,zg⟩;have DD:=bG zg HF.o;have g0:w7.cell? ⟨yb,0,I⟩=J (U R code):=by simp[World.cell?,DD]
   have g1:w7.cell? ⟨yb,1,I⟩=J (U R place):=by simp[World.cell?,DD]
   have Ke:w7.frozen? ⟨yb,0,I⟩=false:=by simp[World.frozen?,DD]
   have Kf:w7.frozen? ⟨yb,1,I⟩=false:=by simp[World.frozen?,DD]
   have aif:aa (Below w.heap.size w w7):=bK.o.trans (zg.mono bK.o.size);have TI:aa (w.heap.size<=yb):=by show _<=_;have:=aie.o;have:=kU.o.size;omega
   clear DD zg;go_upto_region 15 with fail
   obtain⟨V,hV⟩:∃V,V=(w7.setCell ⟨yb,0,I⟩ (U R 2)).setCell ⟨yb,1,I⟩ (U R (-1)):=⟨_,rfl⟩;have v0:V.cell? ⟨yb,0,I⟩=J (U R 2):=by rw[hV,eD (aP Nat.one_ne_zero) rfl rfl];exact DK _ _ _ g0
   have v1:V.cell? ⟨yb,1,I⟩=J (U R (-1)):=by rw[hV];exact DK _ _ _ (by rw[eD (aP Nat.zero_ne_one) rfl rfl];exact g1)
   have jZ:aa (Below w.heap.size w V):=by rw[hV];exact(aif.o.setCell TI.o _).setCell TI.o _
   rw[<- hV];clear hV g0 g1 Ke Kf;have Lf:aa _:=Tx A (errVal A 2) (2,-1) 2 (-1) V rfl (λ_=>rfl) (kZ.below HV.o jZ.o) ⟨by decide,a_ ⟨rfl,rfl⟩⟩;go_wp2_with fail
   refine aL Lf.o ?_;rintro v w8 ⟨rfl,Lg⟩;go_wp2;go_ret;exact⟨rfl,jZ.o.trans (Lg.mono jZ.o.size)⟩
  have f0:kW.cell? ⟨yb,0,I⟩=J (U R code):=by have:=HF.o;simp[World.cell?,this]
  have f1:kW.cell? ⟨yb,1,I⟩=J (U R place):=by have:=HF.o;simp[World.cell?,this]
  by_cases h0:(cW aV (bl s)).1.1=0
  ·obtain rfl:code=0:=by rw[F7.o.1,h0];rfl
   obtain⟨rfl,how⟩:=TG.o (by rw[fL];omega) h0;obtain⟨oa,oc,cC⟩:=mD how;have sH:(mS (gz (cW aV (bl s)).2 T (aH.new (cW aV (bl s)).2 (aM.new 4096)) (ls.map bl))).length=ls.length:=by unfold mS;rw[fL,Ey,fL]
   rw[sH]at cC;subst cC;obtain⟨AL,Lh⟩:∃l,l=mS (gz (cW aV (bl s)).2 T (aH.new (cW aV (bl s)).2 (aM.new 4096)) (ls.map bl)):=⟨_,rfl⟩;rw[<- Lh]at how sH;have HA:aa (∀V,Below kW.heap.size kW V->∀n x,ls[n]?=J x->∃gb go a,oa=J ⟨gb,go,I⟩/\V.cell? ⟨gb,go+n,I⟩=J (aq a)/\bl a≠[]/\(ir ((bl x).takeWhile (λb=>b != 32))=I->a=wZ)):=λV hV n x hx=>by
    have h1:(ls.map bl)[n]?=J (bl x):=by rw[gR,hx];rfl
    have h2:=agP (c:=(cW aV (bl s)).2) (T:=T) (K:=aH.new (cW aV (bl s)).2 (aM.new 4096)) h1;have h3:AL[n]?=J ⟨(n_ T ((iu (cW aV (bl s)).2 (aH.new (cW aV (bl s)).2 (aM.new 4096)) ((ls.map bl).take n)).fU (cW aV (bl s)).2 (bl x))).toArray⟩:=by rw[Lh];unfold mS;rw[gR,h2];rfl
    have h4:=how.jc (λ_=>rfl);have aih:bN bS 1 V (af oa AL.length oc) AL:=by rw[sH];exact h4.below (rC.trans (hV.mono rC.size))
    obtain⟨gb,go,rfl,hc⟩:=sK aih h3
    refine⟨gb,go,_,rfl,hc n _ h3,?_,λhk=>?_⟩
    ·have:=agN ah' (cW aV (bl s)).2 (iu (cW aV (bl s)).2 (aH.new (cW aV (bl s)).2 (aM.new 4096)) ((ls.map bl).take n)) (bl x);simpa[bl]using this
    rw[agO hk,ah_];simp[bl]
   have TJ:aa (∀V,Below kW.heap.size kW V->bN bS 1 V (af la ls.length lc) ls):=λV hV=>np.o V (TF.o.trans ((rC.trans (hV.mono rC.size)).mono TF.o.size))
   clear how sH Lh h0 rC TG DB HM np;go_upto_region 19 with fail
   go_cut [12] (λi wx=>i=U R 0/\wx=kW)
   case first=>
    go_wp2_with fail
    go_meet
    case rel=>exact⟨rfl,rfl⟩
   obtain⟨rfl,rfl⟩:=hcut;rename ai=>kW
   clear f0 f1;go_wp2_with fail
   go_loopw [12,13,14,15,16,17] (λi _ _ _ _ _ wx=>∃n:Nat,n<=ls.length/\i=U R n/\aa (Below kW.heap.size kW wx)) (λi _ _ _ _ _ _=>ls.length-(intOf i).toNat)
   case atStart=>exact⟨0,bI _,rfl,aC _ _⟩
   case round=>
    obtain⟨n,hn,rfl,cY⟩:=hrel;rename ai=>wx
    by_cases hlt:n<ls.length
    ·have k1:(n:Int)<(ls.length:Int):=by omega
     obtain⟨x,hx⟩:∃x,ls[n]?=J x:=⟨_,bH hlt⟩;obtain⟨b,o,rfl,hcc⟩:=sK (TJ.o wx cY.o) hx;have y0:=hcc n x hx;obtain⟨gb,go,a,rfl,z0,ha,hno⟩:=HA.o wx cY.o n x hx;have HN:aa (bl a≠[]/\_):=⟨ha,hno⟩;have aku:x.size<=40:=aid.o x (cM hx);clear hx hcc ha hno;go_upto_block 4 with fail
     go_cut [13,14] (λsv _ wv=>∃y:ByteArray,sv=aq y/\aa (bl y=(bl x).takeWhile (λb=>b != 32))/\wv=wx)
     case first=>
      go_wp2_with fail
      go_loopw [13,14] (λsv kv wv=>∃(j:Nat) (y:ByteArray),j<=x.size/\kv=U R j/\sv=aq y/\y.size=j/\aa (bl y=(bl x).take j/\∀b∈(bl x).take j,b≠32)/\wv=wx) (λ_ k _=>x.size-(intOf k).toNat)
      case atStart=>exact⟨0,⟨#[]⟩,bI _,rfl,rfl,rfl,⟨rfl,λb hb=>by simp at hb⟩,rfl⟩
      case round=>
       obtain⟨j,y,hj,rfl,rfl,akv,HY,rfl⟩:=hrel;rename ai=>wx
       by_cases hl2:j<x.size
       ·have k2:(j:Int)<(x.size:Int):=by omega
        have k3:(0:Int)<=(j:Int):=by omega
        have hdr:(bl x).drop j=(bl x).getD j 0::(bl x).drop (j+1):=drop_at (by unfold bl;rw[lU];exact hl2);have hby:x[j]=(bl x).getD j 0:=byte_at x j hl2;rw[<- hby]at hdr;have nH:aa (bl (x.extract j (j+1))=[x[j]]):=by rw[hby];exact one_byte x j hl2
        have ck:=Ta x j hl2;have lN:aa _:=hdr;clear hdr hby;generalize qY:x[j]=bb at *
        by_cases e:bb=32
        ·have e1:((bb.toNat:Int)==32)=true:=by rw[e];rfl
         have e2:(bb.toNat:Int)=32:=by rw[e];rfl
         rw[e]at lN;have HW:aa (bl y=(bl x).takeWhile (λb=>b != 32)):=by show _=_;rw[HY.o.1,Ty HY.o.2 (aP ⟨_,lN.o⟩)]
         clear ck nH lN HY e;go_wp2_with fail
         go_meet
         case rel=>exact⟨y,rfl,HW.o,rfl⟩
        have e1:((bb.toNat:Int)==32)=false:=by
         rw[iZ];intro h;exact e (UInt8.toNat_inj.1 (by simpa using Int.ofNat_inj.1 h))
        have e2:¬(bb.toNat:Int)=32:=by simpa using e1
        have fK:aa ((x.extract j (j+1)).size=1):=by
         have h2:=mY List.length nH.o;unfold bl at h2;rw[lU]at h2;exact h2
        have ha:=run_string_add_sum (P:=prog) wx y (x.extract j (j+1)) (by have:=fK.o;omega);have ym:aa (bl (y++x.extract j (j+1))=(bl x).take (j+1)/\∀b∈(bl x).take (j+1),b≠32):=by
         have et:(bl x).take (j+1)=(bl x).take j++[bb]:=by
          have h5:(bl x)[j]?=J bb:=by
           have:=mY (λl=>l[0]?) lN.o;simpa using this
          rw[fW,h5];rfl
         refine⟨by rw[show bl (y++x.extract j (j+1))=bl y++bl (x.extract j (j+1)) by simp[bl],nH.o,HY.o.1,et],λb hb=>?_⟩;rw[et]at hb
         rcases pz.1 hb with hb|hb
         ·exact HY.o.2 b hb
         rw[iF.1 hb];exact e
        clear e nH lN HY;go_wp2_with fail
        go_roundw
        case rel=>exact⟨j+1,y++x.extract j (j+1),by omega,by go_num,rfl,by rw[ByteArray.size_append,fK.o];omega,ym.o,trivial⟩
        case measure=>simp[intOf];omega
       have k2:¬(j:Int)<(x.size:Int):=by omega
       have HW:aa (bl y=(bl x).takeWhile (λb=>b != 32)):=by show _=_;rw[HY.o.1,Ty HY.o.2 (a_ (rY (by unfold bl;rw[lU];exact Nat.le_of_not_lt hl2)))]
       clear HY;go_wp2_with fail
       go_meet
       case rel=>exact⟨y,rfl,HW.o,rfl⟩
     obtain⟨y,rfl,HY,rfl⟩:=hcut;rename ai=>wx
     have a1:(a.toList==[])=false:=by rw[fZ,iZ];exact HN.o.1
     cases hk:ir (bl y)with
     |some k=>
      have Li:aa _:=agI y k wx hk;clear hk;go_wp2_with fail
      refine aL Li.o ?_;rintro v wq ⟨rfl,rfl⟩;rename ai=>wx
      generalize ((iG k).length:Int)=d1;generalize SN k=d2;go_wp2_with fail
      go_quiet (fail)
      go_wp2_with fail
      go_roundw
      case rel=>exact⟨n+1,by omega,by go_num,cg cY.o _⟩
      case measure=>simp[intOf];omega
     |none=>
      have Li:aa _:=agH y wx hk;obtain rfl:a=wZ:=HN.o.2 (by rw[<- HY.o];exact hk);clear hk;go_wp2_with fail
      refine aL Li.o ?_;rintro v wq ⟨rfl,rfl⟩;rename ai=>wx
      go_wp2_with fail
      refine vP 17 rfl (λj v _=>v=TA (af (J ⟨gb,go,I⟩) ls.length oc) (U R n) (aj (J ⟨gb,go+n,I⟩)) j) (λV=>Below wx.heap.size wx V) (by kernel_rfl) (by kernel_rfl) (aC _ _).drew (ah8 ?_) ?_
      ·repeat' (first|exact trivial|refine And.intro ?_ ?_)
       all_goals
        first
        |refine cX.free rfl ?_
        |refine cX.yes rfl rfl (λa V hC ay=>ay _ _ (bA (i:=0) rfl) rfl rfl) ?_
        |refine cX.yes rfl rfl (λa V hC ay=>ay _ _ (bA (i:=1) rfl) rfl rfl) ?_
        |refine cX.yes rfl rfl (λa V hC ay=>ay _ _ (bA (i:=2) rfl) rfl rfl) ?_
        intro f V hC ay aD;have x8:=bp (aD 8 (eX (by kernel_rfl)));have IH:=bp (aD 12 (eX (by kernel_rfl)));have Ov:=bp (aD 17 (eX (by kernel_rfl)))
        try have x0:=bp (ay _ _ (bA (i:=0) rfl) rfl rfl)
        try have x1:=bp (ay _ _ (bA (i:=1) rfl) rfl rfl)
        try have x2:=bp (ay _ _ (bA (i:=2) rfl) rfl rfl)
        have z1:=aG hC z0;clear ay aD
        first
        |(refine lq ?_ hC rfl;simp only[TA]at *;go_simp;done)
        |(refine pK (f:=10) (args:=#[U R 1]) (by go_simp) ?_;exact(ag4 V).mono λe w' h=>⟨_,h.1,hC.trans (h.2.mono hC.size),λ_ _ h=>h,rfl⟩)
      intro vals V hC hS;have v16:vals 16=aI false:=hS 16 (by decide);have mG:aa (Below wx.heap.size wx V):=hC;clear hS hC;simp only[fill,dz];go_simp
      go_wp2_with fail
      go_roundw
      case rel=>exact⟨n+1,by omega,by go_num,cY.o.trans (mG.o.mono cY.o.size)⟩
      case measure=>simp[intOf];omega
    obtain rfl:n=ls.length:=by omega
    have k1:¬(ls.length:Int)<(ls.length:Int):=by omega
    clear HA TJ;go_wp2;go_ret;exact⟨rfl,bK.o.trans (cY.o.mono bK.o.size)⟩
  have FW:(0:Int)<code:=by rw[F7.o.1];omega
  obtain⟨rfl,pX⟩:=DB.o (by rw[fL];omega) h0;obtain⟨et,ex,rfl⟩:=pX.some h0;have Lf:aa _:=Tx A _ _ code place kW F7.o.1 F7.o.2 (kZ.below HV.o bK.o) (pX.below rC);clear pX h0;go_wp2_with fail
  refine aL Lf.o ?_;rintro v w8 ⟨rfl,Lg⟩;go_wp2;go_ret;exact⟨rfl,bK.o.trans (Lg.mono bK.o.size)⟩
open Go.ChangeAt Go.ChangeShapes Go.Deep Go.WideShapes
open Go.ChangeMaps (open_string shut_string)
theorem aii{W:ai}(h:W.ShapedOpen prog):ox W:=GH.s1_3 W h
theorem aij(os:Os)(started:os.Started)(H:Type)(enc:TypeId×ar->H):ReturnsInHanded {} checked os 3 .any (λw args=>(Rows.scriptReadsSpec.pre enc prog f3 [] false w args/\laidMetH prog yI w)/\sizedMet enc prog f3 (OpenSpec.ofChange Rows.scriptReadsSpec) false w args)
   (Rows.scriptReadsSpec.post enc prog f3 false true false false):=by
 refine returnsInHanded_of_calls (C:=checked) own started (by as_aux_lemma=>kernel_rfl)
  (ChangeSpec.witness_shaped (enc:=enc) (C:=checked) (os:=os) (X:=λw _=>laidMetH prog yI w) false (World.layVars prog ({ World.holding prog os ⟨#[],#[],[]⟩with heap:=⟨Lay.setRows (World.holding prog os ⟨#[],#[],[]⟩).heap.toList [(11,[(.iface 196 (.agg #[.pointer (J ⟨26,25,I⟩)]))])]⟩ }:ai) td) #[.string ⟨#[]⟩,.slice I 0 0] 8 (World.layVars_os _ _ _) (World.shaped_of_ZipB (by as_aux_lemma=>kernel_rfl) (by as_aux_lemma=>kernel_rfl)) (by as_aux_lemma=>kernel_rfl) (by as_aux_lemma=>kernel_rfl) (by as_aux_lemma=>kernel_rfl) (agG os _)) ?_
 intro w tape i _ Be _ im dL aik;obtain⟨_,_,_,ail,aim,_,_,_,_,F8⟩:=im;obtain rfl:ail=f3:=bj (aim.symm.trans func3);obtain⟨⟨⟨ds,gs,before,hw,hc⟩,hx⟩,hz⟩:=dL;have hW:=DataW.Whole.of_heap (w':=w.forCall tape i) (by rfl) hw;have hL:laidMetH prog yI (w.forCall tape i):=hx.of_heap (by rfl);have hM:ox (w.forCall tape i):=aii Be;obtain⟨W,Lj⟩:∃W,W=w.forCall tape i:=⟨_,rfl⟩;have key:Calls prog 3 i.args W λe W'=>∃v,e=.returned v/\Rows.scriptReadsSpec.post enc prog f3 false true false false W i.args v W':=by
  rw[<- Lj]at hW hL hM F8;clear Lj hw hx hz hc aik Be;obtain⟨args,Lk⟩:∃a,a=i.args:=⟨_,rfl⟩;rw[<- Lk]at hW F8⊢;clear Lk;have hval:∀(j:Nat) t v,f3.params[j]?=J t->args[j]?=J v->Value.okWide prog W .any w.heap.size t v:=F8;have wK:=hW;obtain⟨p,q,TK,hV,rfl,Va,oB⟩:=hW;have hA:DataW.TrodAll enc prog W 0 (λ_=>true) true f3.params.toList args.toList ds p:=TK;rw[params3]at hA hval;obtain⟨v0,akw,d0,akx,p0,q0,Lk,rfl,rfl,h0,r0⟩:=trodAll_cons hA;obtain⟨v1,aky,d1,akz,p1,q1,rfl,rfl,rfl,h1,r1⟩:=trodAll_cons r0;obtain⟨rfl,rfl,rfl⟩:=trodAll_nil r1;obtain rfl:args=#[v0,v1]:=by cases args;simp_all
  obtain⟨rfl,rfl⟩:=trodVars_none hV;obtain⟨s0,rfl,rfl,rfl,hs0⟩:=open_string underlying9 (hval 0 9 v0 rfl rfl) h0;have ain:=h1;obtain⟨Ll,akA,Lm,rfl⟩:=okWide_slice underlying22 (hval 1 22 v1 rfl rfl);obtain⟨akB,mz⟩:=h1;obtain⟨L,TL⟩:=Y3 ByteArray.empty (ec:=bS) underlying22 NW.2.1 (by decide) Y4 (by simpa[Value.cells]using mz);obtain⟨Vx,vB,cC,-⟩:=id TL;simp only[tU]at cC;obtain⟨rfl,rfl,rfl⟩:=cC;obtain⟨A,hs,J3,hT⟩:=agD hL hM;clear TK F8;simp only[qd,tF]at wK
  refine(ah9 A FU s0 L Ll Lm W hs J3 hT rfl agB TL).mono λe W' ⟨he,hb⟩=>?_
  subst he;have ij:∀x∈p1,x.block<W.heap.size:=λx hx=>wK.lt x (by simp[hx])
  have aio:DataW.Trod enc prog W' 0 (λb=>decide (b<W.heap.size)) true 22 (.slice Ll L.length Lm) d1 p1:=Below.trod laidOut (by as_aux_lemma=>kernel_rfl) (of_decide_eq_true (by as_aux_lemma=>kernel_rfl)) ain hb ij;have TM:DataW.TrodAll enc prog W' 0 (λb=>decide (b<W.heap.size)) true [9,22] [.string s0,.slice Ll L.length Lm] _ _:=(trodAll_cons_mk (shut_string underlying9 hs0) (trodAll_cons_mk aio trodAll_mk0));simp only[qd,tF]at TM;exact⟨_,rfl,_,_,_,[],p1,[],wK,trodAll_mk1 (shut_bool underlying4 true),TM,rfl,hb.frame _,λh=>by cases h⟩
 rw[Lj]at key
 refine key.mono λe W' ⟨v,he,hp⟩=>?_
 subst he;exact ChangeSpec.post_blind hp
theorem aip{a b:Bool}(h1:a=true)(h2:b=true):(a&&b)=true:=by rw[h1,h2];rfl
theorem aiq:joinedFacts Tryz.pinned.checked.prog 3 f3 Rows.scriptReadsSpec Rows.scriptReadsRow=true:=by
 unfold joinedFacts
 repeat' (with_reducible refine aip ?_ ?_)
 all_goals as_aux_lemma=>kernel_rfl
end Go.Proofs.YtgmfhkjghmdgiaaGreatDoor
