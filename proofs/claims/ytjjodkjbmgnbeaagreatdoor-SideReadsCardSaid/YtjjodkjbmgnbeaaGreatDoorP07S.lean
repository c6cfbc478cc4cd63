/-
  Several texts as one: DrLine7, DrLine8, DrLine9, DrLineN, DrLineA, DrOf, DcSmI, DcSmT, DcSame, DcSameC, SdLawE, SdLawF, SdLawG, SdLawH, SdLawI, OrdD, SdLawJ, SdLawN, SdLawO, SdBad, SdLawP, SdLaid, SdLift, SdFact.
-/
import Derived.Test.YtjjodkjbmgnbeaaGreatDoorP06S
import Derived.Lay
import Derived.Test.YtjjodkjbmgnbeaaGreatDoorChecked
import Derived.ProofKit
import Derived.OpenShut
import Derived.Deep.Strs
import Derived.Stop.Joined
import Derived.SevenTiedAt
import Derived.Carry
import Derived.HandedShaped
import Derived.JoinedOf
set_option linter.all false
set_option maxHeartbeats 40000000
set_option maxRecDepth 100000
abbrev iG:=@Go.Proofs.YtjjodkjbmgnbeaaGreatDoor.goes_quiet
open Go renaming Addr→av,Value→aj,World→ah
open Go.Addr renaming mk→ar
open Go.Ending renaming returned→aH
open Go.IntKind renaming i64→I
open Go.Obj renaming cells→ay
open Go.RowKit renaming Hid→ag
open Go.Value renaming agg→a_,bool→aJ,int→af,pointer→ax,slice→ak,string→aB,tuple→aX
open Go.World renaming cell?→aL,frozen?→bE,setCell→cZ
open Option renaming none→J,some→U
open Go.Proofs.Tryz
namespace Go.Proofs.YtjjodkjbmgnbeaaGreatDoor
open Go.Extern Go.Extern.Stop Go.Maps Go.RowKit Go.Stop
variable{E SB:Nat->Prop}{a b w w':ah}{c code p place:Int}{e:TypeId}{g i rb:Nat}{gs:Array Goroutine}{s:Bs}{sl:Option (Nat×Nat)}{sv y:aj}{t:Trace}
def ae'(w0 w:ah)(rb:Nat)(c:aV)(last:Int)(l:ByteArray)(ws:List Bs)(hb0:bp rb w0 w)(h:dX w0.heap.size rb w c (cL last))(hl:l.size<=1000000)(l0:-1<=last)(l9:last<=9)(hO:gJ 1000000 c last)(hcut:bS 32 (bl l)=kw 7::ws):Calls prog 17 #[ax (U (ar rb 0 J)),aB l] w λv w'=>v=aH (af I (bq last c 7 ws:Nat))/\bp rb w0 w'/\(bq last c 7 ws=0->dX w0.heap.size rb w' (eV c 7 ws (aI (aT (bu c.az)) false (form 7) ws).2) (gY 7)):=by
 have HS:ag (bp rb w0 w/\dX w0.heap.size rb w c (cL last)):=⟨hb0,h⟩;have HO:ag (gJ 1000000 c last):=hO;have gD:=uo w ⟨#[101,100,103,101]⟩ hl hcut;have gN:=uq (b:=may last 7) ⟨#[101,100,103,101]⟩ h l0 l9 rfl;clear hb0 h hl l0 l9 hO hcut;go_enter func17,ntmps17
 go_wp2_with fail
 refine bw gD.o ?_;rintro v w1 ⟨wt,wg,wc,m,rfl,hm,fV,hown,hb1⟩;have aS:ag (Below w.heap.size w w1):=hb1;have lI:ag (w.heap.size<=wg):=(hown.lt wg rfl).1;have HW:ag (∀V,Below w1.heap.size w1 V->∀j s,(⟨#[101,100,103,101]⟩::wt)[j]?=U s->V.cell? (ar wg j J)=U (aB s)):=λV hV j s hj=>aA hV (ri hown j s hj)
 have HM:ag (m=wt.length+1/\wt.map bl=ws):=⟨hm,fV⟩;have c0:=HW.o w1 (aC _ _) 0 _ rfl;have m0:(0:Int)<(m:Int):=by omega
 clear hm fV hown hb1 gD;go_wp2_with fail
 refine bw (gN.o w1 aS.o) ?_;rintro v w2 ⟨rfl,hb2⟩;have aO:ag (Below w.heap.size w w2):=aS.o.trans (hb2.mono aS.o.size);have bf:ag (Below w1.heap.size w1 w2):=hb2;have bI:ag (∀V,Below w2.heap.size w2 V->bp rb w0 V):=λV hV=>HS.o.1.trans ((aO.o.trans (hV.mono aO.o.size)).mono HS.o.1.size)
 clear hb2 gN c0
 cases cM:may last 7 with
 |false=>
  have HE:ag (bq last c 7 ws=1):=uk cM;clear cM;go_wp2;go_ret;exact di HE.o rfl (bI.o _ (aC _ _))
 |true=>
  have HY:ag (may last 7=true):=cM;have HK:ag (bq last c 7 ws=(aI (aT (bu c.az)) false (form 7) ws).1):=um cM;clear cM
  by_cases hN:wt.length=2
  ·obtain⟨s0,s1,rfl⟩:∃s0 s1,wt=[s0,s1]:=by
    match wt,hN with
    |[s0,s1],_=>exact⟨s0,s1,rfl⟩
   obtain rfl:ws=[bl s0,bl s1]:=HM.o.2.symm.trans rfl;obtain rfl:m=2+1:=HM.o.1;clear HM hN;obtain⟨L,g,cap,es,e,x,cells,n,pa,pc,py,sD,m_,H1,sF,lH,fJ,Ds,Dt,Du,my,jC,rk,ox⟩:=HS.o.2.last 7 HO.o (by decide) HY.o;rw[m_.o]at HK;have e4:=my.o w2 aO.o;go_wp2_with fail
   go_loopw [9,10,11,12] (λnv ov iv _ wr=>∃(j:Nat) (nn:Bool) (vs:List Int) (na:Option av) (nc:Nat),j<=2/\iv=af I j/\ov=aJ nn/\nv=ak na j nc/\wr.ownsRow w2.heap.size 3 1 (ak na j nc) j (vs.flatMap bc)/\Below w2.heap.size w2 wr/\dL (aT e.au) [2,2] [bl s0,bl s1] j nn vs) (λ_ _ iv _ _=>2-(intOf iv).toNat)
   case atStart=>exact⟨0,false,[],J,0,cG _,rfl,rfl,rfl,kE _ _ _ _,aC _ _,dL.start _ _ _⟩
   case round=>
    obtain⟨j,nn,vs,na,nc,hj,rfl,rfl,rfl,hown,hb,hf⟩:=hrel;have HB:ag (Below w2.heap.size w2 wr):=hb;have aZ:ag (wr.ownsRow w2.heap.size 3 1 (ak na j nc) j (vs.flatMap bc)):=hown;have HF:ag (dL (aT e.au) [2,2] [bl s0,bl s1] j nn vs):=hf;clear hb hown hf e4
    by_cases hlt:j<2
    ·clear hj
     rcases(show j=0\/j=1 by omega)with rfl|rfl
     clear hlt
     ·have e5:=my.o wr (aO.o.trans (HB.o.mono aO.o.size));have e6:=jC.o wr (aO.o.trans (HB.o.mono aO.o.size));have d0:=HW.o wr (bf.o.trans (HB.o.mono bf.o.size)) 1 s0 rfl;have jv:ag (∀q,Calls prog 34 #[ak pa e.au.length pc,aB s0] (wr.drewN q) λe' w'=>e'=aH (af I (idxOf e.au s0))/\w'=wr.drewN q):=λq=>rk.o s0 _ (aO.o.trans ((cB HB.o q).mono aO.o.size))
      have qu:ag (¬s0=⟨#[]⟩->_):=@zA e.au s0;generalize idxOf e.au s0=z at *;go_upto_region 38 with fail
      go_cut [12] (λxv wv=>xv=af I z/\Below w2.heap.size w2 wv/\wv.ownsRow w2.heap.size 3 1 (ak na 0 nc) 0 (vs.flatMap bc))
      case first=>
       go_wp2_with fail
       go_quiet (first|(go_at_call 34;exact pF (jv.o _)))
       go_wp2
       go_meet
       case rel=>exact⟨rfl,cB HB.o _,aZ.o⟩
      obtain⟨rfl,kO,iy⟩:=hcut;clear HB aZ jv e5 e6 d0;rename ah=>wr
      have HB:ag (Below w2.heap.size w2 wr):=kO;have aZ:ag (wr.ownsRow w2.heap.size 3 1 (ak na 0 nc) 0 (vs.flatMap bc)):=iy;clear kO iy;have d0:=HW.o wr (bf.o.trans (HB.o.mono bf.o.size)) 1 s0 rfl
      by_cases bW:s0=⟨#[]⟩
      ·have HE:ag (bq last c 7 [bl s0,bl s1]=1):=HK.o.trans (HF.o.bad rfl rfl (by rw[bW];exact vL));obtain⟨n1,n2⟩:=nX bW;clear bW
       by_cases z0:z<0
       ·go_wp2;go_ret;exact di HE.o rfl (bI.o _ HB.o)
       go_wp2;go_ret;exact di HE.o rfl (bI.o _ HB.o)
      have iQ:ag _:=qu.o bW;obtain⟨n1,n2⟩:=eG bW;clear bW
      by_cases z0:z<0
      ·have HZ:ag ((bg (aT e.au) 2 (bl s0)).1=5):=by show _=_;rw[iQ.o.1,aU z0]
       go_wp2_with (at_builtin;refine jw HB.o.size aZ.o rfl rfl rfl rfl (by omega) ?_;intro v1 w4 hown1 cY)
       obtain⟨dM,cN,bK⟩:=eO hown1;subst bK;go_roundw
       case rel=>exact⟨0+1,true,vs++[z],dM,cN,by omega,rfl,rfl,rfl,by simpa[fj,bc]using hown1,(HB.o.alloc HB.o.size _).grown cY (by have:=HB.o.size;simp;omega) (λq hq=>(aZ.o.lt q hq).1),HF.o.next rfl rfl true z (by rw[HZ.o];decide) (by rw[HZ.o];simp) (λh0=>by cases h0)⟩
       case measure=>simp[intOf]
      have HZ:ag ((bg (aT e.au) 2 (bl s0)).1=0/\(bg (aT e.au) 2 (bl s0)).2=z):=⟨by rw[iQ.o.1,aF z0],iQ.o.2 (by omega)⟩;go_wp2_with (at_builtin;refine jw HB.o.size aZ.o rfl rfl rfl rfl (by omega) ?_;intro v1 w4 hown1 cY)
      obtain⟨dM,cN,bK⟩:=eO hown1;subst bK;go_roundw
      case rel=>exact⟨0+1,nn,vs++[z],dM,cN,by omega,rfl,rfl,rfl,by simpa[fj,bc]using hown1,(HB.o.alloc HB.o.size _).grown cY (by have:=HB.o.size;simp;omega) (λq hq=>(aZ.o.lt q hq).1),HF.o.next rfl rfl nn z (by rw[HZ.o.1];decide) (by rw[HZ.o.1];simp) (λ_=>HZ.o.2.symm)⟩
      case measure=>simp[intOf]
     have e5:=my.o wr (aO.o.trans (HB.o.mono aO.o.size));have e6:=jC.o wr (aO.o.trans (HB.o.mono aO.o.size));have d1:=HW.o wr (bf.o.trans (HB.o.mono bf.o.size)) 2 s1 rfl;have jv:ag (∀q,Calls prog 34 #[ak pa e.au.length pc,aB s1] (wr.drewN q) λe' w'=>e'=aH (af I (idxOf e.au s1))/\w'=wr.drewN q):=λq=>rk.o s1 _ (aO.o.trans ((cB HB.o q).mono aO.o.size))
     have qu:ag (¬s1=⟨#[]⟩->_):=@zA e.au s1;generalize idxOf e.au s1=z at *;go_upto_region 38 with fail
     go_cut [12] (λxv wv=>xv=af I z/\Below w2.heap.size w2 wv/\wv.ownsRow w2.heap.size 3 1 (ak na 1 nc) 1 (vs.flatMap bc))
     case first=>
      go_wp2_with fail
      go_quiet (first|(go_at_call 34;exact pF (jv.o _)))
      go_wp2
      go_meet
      case rel=>exact⟨rfl,cB HB.o _,aZ.o⟩
     obtain⟨rfl,kO,iy⟩:=hcut;clear HB aZ jv e5 e6 d1;rename ah=>wr
     have HB:ag (Below w2.heap.size w2 wr):=kO;have aZ:ag (wr.ownsRow w2.heap.size 3 1 (ak na 1 nc) 1 (vs.flatMap bc)):=iy;clear kO iy;have d1:=HW.o wr (bf.o.trans (HB.o.mono bf.o.size)) 2 s1 rfl
     by_cases bW:s1=⟨#[]⟩
     ·have HE:ag (bq last c 7 [bl s0,bl s1]=1):=HK.o.trans (HF.o.bad rfl rfl (by rw[bW];exact vL));obtain⟨n1,n2⟩:=nX bW;clear bW
      by_cases z0:z<0
      ·go_wp2;go_ret;exact di HE.o rfl (bI.o _ HB.o)
      go_wp2;go_ret;exact di HE.o rfl (bI.o _ HB.o)
     have iQ:ag _:=qu.o bW;obtain⟨n1,n2⟩:=eG bW;clear bW
     by_cases z0:z<0
     ·have HZ:ag ((bg (aT e.au) 2 (bl s1)).1=5):=by show _=_;rw[iQ.o.1,aU z0]
      go_wp2_with (at_builtin;refine jw HB.o.size aZ.o rfl rfl rfl rfl (by omega) ?_;intro v1 w4 hown1 cY)
      obtain⟨dM,cN,bK⟩:=eO hown1;subst bK;go_roundw
      case rel=>exact⟨1+1,true,vs++[z],dM,cN,by omega,rfl,rfl,rfl,by simpa[fj,bc]using hown1,(HB.o.alloc HB.o.size _).grown cY (by have:=HB.o.size;simp;omega) (λq hq=>(aZ.o.lt q hq).1),HF.o.next rfl rfl true z (by rw[HZ.o];decide) (by rw[HZ.o];simp) (λh0=>by cases h0)⟩
      case measure=>simp[intOf]
     have HZ:ag ((bg (aT e.au) 2 (bl s1)).1=0/\(bg (aT e.au) 2 (bl s1)).2=z):=⟨by rw[iQ.o.1,aF z0],iQ.o.2 (by omega)⟩;go_wp2_with (at_builtin;refine jw HB.o.size aZ.o rfl rfl rfl rfl (by omega) ?_;intro v1 w4 hown1 cY)
     obtain⟨dM,cN,bK⟩:=eO hown1;subst bK;go_roundw
     case rel=>exact⟨1+1,nn,vs++[z],dM,cN,by omega,rfl,rfl,rfl,by simpa[fj,bc]using hown1,(HB.o.alloc HB.o.size _).grown cY (by have:=HB.o.size;simp;omega) (λq hq=>(aZ.o.lt q hq).1),HF.o.next rfl rfl nn z (by rw[HZ.o.1];decide) (by rw[HZ.o.1];simp) (λ_=>HZ.o.2.symm)⟩
     case measure=>simp[intOf]
    obtain rfl:j=2:=by omega
    clear hlt hj;obtain⟨bM,fg⟩:=(show dL (aT e.au) [2,2] [bl s0,bl s1] ([2,2]:List Nat).length nn vs from HF.o).done rfl
    cases nn with
    |true=>
     have HE:ag (bq last c 7 [bl s0,bl s1]=5):=HK.o.trans (bM);clear bM fg;go_wp2;go_ret;exact di HE.o rfl (bI.o _ HB.o)
    |false=>
     have fO:ag (bq last c 7 [bl s0,bl s1]=0):=by show _=_;rw[HK.o];exact bM
     have lJ:ag ((aI (aT e.au) false [2,2] [bl s0,bl s1]).2=vs):=fg rfl;have hlen:=HF.o.len;clear bM fg;obtain⟨v0,v1,rfl⟩:∃v0 v1,vs=[v0,v1]:=by
      match vs,hlen with
      |[v0,v1],_=>exact⟨v0,v1,rfl⟩
     obtain⟨ng,cN,g_⟩:=sA aZ.o
     cases g_
     have lK:ag (w2.heap.size<=ng):=(aZ.o.lt ng rfl).1;have x0:=mr aZ.o 0 v0 rfl;have x1:=mr aZ.o 1 v1 rfl;have fh:ag (Below w.heap.size w wr):=aO.o.trans (HB.o.mono aO.o.size);have d0:=HW.o wr (bf.o.trans (HB.o.mono bf.o.size)) 0 _ rfl;have d1:=HW.o wr (bf.o.trans (HB.o.mono bf.o.size)) 1 _ rfl;have d2:=HW.o wr (bf.o.trans (HB.o.mono bf.o.size)) 2 _ rfl;clear hlen HF;have hbase:=H1.o wr fh.o;obtain⟨eI,o_⟩:=ox.o;have fq:¬rb=wg:=by have:=lI.o;omega
     have vN:¬wg=rb:=λe2=>fq e2.symm
     have gF:¬rb=ng:=by have:=aO.o.size;have:=lK.o;omega
     have vO:¬ng=rb:=λe2=>gF e2.symm
     obtain⟨r5,f5⟩:=bB.r5 hbase;go_upto_region 62 with fail
     obtain⟨Wz,dp,ij,kY,sG⟩:=bB.word hbase (bI.o _ HB.o) fh.o.size ⟨#[101,100,103,101]⟩;rw[<- dp];have y0:=gC dp fq d0;have y1:=gC dp fq d1;have y2:=gC dp fq d2;have u0:=gC dp gF x0;have u1:=gC dp gF x1;clear dp r5 f5 hbase d0 d1 d2 x0 x1;obtain⟨ga,gc,ea,ec,fa,fc,la,lc,eF⟩:=ij.o.new.Bc sF.o;have e4:=ij.o.r4 fJ.o;obtain⟨⟨q0,-⟩,⟨q1,-⟩,⟨q2,-⟩,⟨q3,-⟩,⟨q4,-⟩,⟨q5,-⟩,⟨q6,-⟩,⟨q7,-⟩,⟨q8,-⟩,⟨q9,-⟩⟩:=ij.o.ten eF.o.1 fJ.o;go_upto_region 63 with fail
     obtain⟨eb,nh,V,hV,fK,jx,ni,jI,pA,nZ⟩:=ij.o.copy kY.o sG.o sD.o o_ eI eF.o.1;rw[<- hV,<- nh];have y0:=aA fK.o y0;have y1:=aA fK.o y1;have y2:=aA fK.o y2;have u0:=aA fK.o u0;have u1:=aA fK.o u1;clear hV nh e4 q0 q1 q2 q3 q4 q5 q6 q7 q8 q9;obtain⟨j0,hj,oX,qo,mV⟩:=ma Ma;have q2:V.cell? (ar eb 7 J)=U (ak ea e.aN.length ec):=by simp[aL,jI.o]
     have vP:∀ob,(V.alloc ob).cell? ⟨eb,7,J⟩=U (ak ea e.aN.length ec):=λob=>aA (bt _ _) q2
     have hown:V.drew.ownsRow L 86 2 (ak ea e.aN.length ec) e.aN.length (e.aN.flatMap kU):=by have:=jx.o.new.he;rw[eF.o.2]at this;exact this
     have mf:=nZ.o;have kh:e.aN.length<=1000000:=lH.o.2.d;have KB:=jx.o.keep ni.o jI.o (by decide) hown;go_wp2_with fail
     go_region_law (refine qa _ rfl (.tmp 235) (.tmp 243) 57 rfl L 86 j0 (a_ #[af I 0,af I 0]) 2 16 underlying57 hj oX qo mV rfl (by decide) (ak ea e.aN.length ec) e.aN.length (e.aN.flatMap kU) (by simp[Act.eval]) (hown.alloc _) ⟨V.heap.size,0,.none⟩ 1 1 [af I v0,af I v1] (by simp[Act.eval]) rfl (AH V.drew [af I v0,af I v1] 86) (Mb (v0,v1)) (by decide) (by unfold maxLen;omega) (by omega) (by simp;omega) (V.heap.size+1) (by simp) ?_;intro g' cap' w8 fG cv iD o9;have r8:=KB.o _ _ cv;have d8:w8.cell? (ar eb 7 J)=U (ak ea e.aN.length ec):=(by simp[aL,r8.1]);have d9:w8.frozen? (ar eb 7 J)=false:=(by simp[bE,r8.1]))
     all_goals
      have H8:ag (_/\_):=r8;have vQ:ag (bB w0.heap.size rb L g cap w8 c ⟨#[101,100,103,101]⟩ es (x.row e).toList { e with aN:=e.aN++[(v0,v1)] } ({ x with e:=ak (U (ar g' 0 J)) (e.aN.length+1) cap' }) cells):=(jx.o.below (w':=V.drew.alloc _) ((aC V.heap.size V).drew.alloc (by simp) _)).JR (v0,v1) (by rw[eF.o.2];exact cv) fG;have vR:ag (L<=w8.heap.size):=by have h1:=cv.size;have h2:=nZ.o;show _<=_;simp at h1;omega
      clear cv fG r8 iD q2 vP hown;go_upto_region 78 with fail
      obtain⟨Y,hY,jY,sH,jH,sI⟩:=vQ.o.part H8.o pA.o HS.o.1.size vR.o 7 (ak (U (ar g' 0 J)) (e.aN.length+1) cap');rw[<- hY];have nj:ag (({ x with e:=ak (U (ar g' 0 J)) (e.aN.length+1) cap' }:bJ).row { e with aN:=e.aN++[(v0,v1)] }=#[aB e.name,af I e.aW,ak pa e.au.length pc,af I e.cnt,af I e.mn,af I e.mx,ak ga e.aP.length gc,ak (U (ar g' 0 J)) (e.aN.length+1) cap',ak fa e.first.length fc,ak la e.last.length lc]):=by show _=_;rw[eF.o.2];rfl
      clear hY d8 d9 mf kh y0 y1 y2 u0 u1;have e4:=jY.o.r4 fJ.o;obtain⟨q0,q1,q2,q3,q4,q5,q6,q7,q8,q9⟩:=Bb sH nj.o rfl;obtain⟨⟨p0,f0⟩,⟨p1,f1⟩,⟨p2,f2⟩,⟨p3,f3⟩,⟨p4,f4⟩,⟨p5,f5⟩,⟨p6,f6⟩,⟨p7,f7⟩,⟨p8,f8⟩,⟨p9,f9⟩⟩:=jY.o.ten eF.o.1 fJ.o;go_wp2_with fail
      go_region
      all_goals
       obtain⟨Z,hZ,iO,dW,sJ⟩:=jY.o.back nj.o fJ.o jH.o sI.o;rw[<- hZ];clear hZ e4 q0 p0 f0 q1 p1 f1 q2 p2 f2 q3 p3 f3 q4 p4 f4 q5 p5 f5 q6 p6 f6 q7 p7 f7 q8 p8 f8 q9 p9 f9;go_wp2;go_ret
       refine⟨by rw[fO.o];rfl,dW.o.drew,λ_=>bk ⟨L,g,cap,es,{ e with aN:=e.aN++[(v0,v1)] },({ x with e:=ak (U (ar g' 0 J)) (e.aN.length+1) cap' }),cells,?_,sJ.o,?_⟩⟩
       ·rw[m_.o,show (aI (aT e.au) false (form 7) [bl s0,bl s1]).2=_ from lJ.o];exact(by simp only[eV];rw[py.o,rq];rfl)
       exact nY.cfg (bB.below iO.o (aC _ _).drew) (λ_ _=>rfl)
  have HE:ag (bq last c 7 ws=1):=HK.o.trans (sB _ _ _ (by rw[<- HM.o.2,qb];exact hN));have mN:¬(m:Int)=2+1:=by have:=HM.o.1;omega
  clear hN;go_wp2;go_ret;exact di HE.o rfl (bI.o _ (aC _ _))
def afa(w0 w:ah)(rb:Nat)(c:aV)(last:Int)(l:ByteArray)(ws:List Bs)(hb0:bp rb w0 w)(h:dX w0.heap.size rb w c (cL last))(hl:l.size<=1000000)(l0:-1<=last)(l9:last<=9)(hO:gJ 1000000 c last)(hcut:bS 32 (bl l)=kw 8::ws):Calls prog 17 #[ax (U (ar rb 0 J)),aB l] w λv w'=>v=aH (af I (bq last c 8 ws:Nat))/\bp rb w0 w'/\(bq last c 8 ws=0->dX w0.heap.size rb w' (eV c 8 ws (aI (aT (bu c.az)) false (form 8) ws).2) (gY 8)):=by
 have HS:ag (bp rb w0 w/\dX w0.heap.size rb w c (cL last)):=⟨hb0,h⟩;have HO:ag (gJ 1000000 c last):=hO;have gD:=uo w ⟨#[102,105,114,115,116]⟩ hl hcut;have gN:=uq (b:=may last 8) ⟨#[102,105,114,115,116]⟩ h l0 l9 rfl;clear hb0 h hl l0 l9 hO hcut;go_enter func17,ntmps17
 go_wp2_with fail
 refine bw gD.o ?_;rintro v w1 ⟨wt,wg,wc,m,rfl,hm,fV,hown,hb1⟩;have aS:ag (Below w.heap.size w w1):=hb1;have lI:ag (w.heap.size<=wg):=(hown.lt wg rfl).1;have HW:ag (∀V,Below w1.heap.size w1 V->∀j s,(⟨#[102,105,114,115,116]⟩::wt)[j]?=U s->V.cell? (ar wg j J)=U (aB s)):=λV hV j s hj=>aA hV (ri hown j s hj)
 have HM:ag (m=wt.length+1/\wt.map bl=ws):=⟨hm,fV⟩;have c0:=HW.o w1 (aC _ _) 0 _ rfl;have m0:(0:Int)<(m:Int):=by omega
 clear hm fV hown hb1 gD;go_wp2_with fail
 refine bw (gN.o w1 aS.o) ?_;rintro v w2 ⟨rfl,hb2⟩;have aO:ag (Below w.heap.size w w2):=aS.o.trans (hb2.mono aS.o.size);have bf:ag (Below w1.heap.size w1 w2):=hb2;have bI:ag (∀V,Below w2.heap.size w2 V->bp rb w0 V):=λV hV=>HS.o.1.trans ((aO.o.trans (hV.mono aO.o.size)).mono HS.o.1.size)
 clear hb2 gN c0
 cases cM:may last 8 with
 |false=>
  have HE:ag (bq last c 8 ws=1):=uk cM;clear cM;go_wp2;go_ret;exact di HE.o rfl (bI.o _ (aC _ _))
 |true=>
  have HY:ag (may last 8=true):=cM;have HK:ag (bq last c 8 ws=(aI (aT (bu c.az)) false (form 8) ws).1):=um cM;clear cM
  by_cases hN:wt.length=1
  ·obtain⟨s0,rfl⟩:∃s0,wt=[s0]:=by
    match wt,hN with
    |[s0],_=>exact⟨s0,rfl⟩
   obtain rfl:ws=[bl s0]:=HM.o.2.symm.trans rfl;obtain rfl:m=1+1:=HM.o.1;clear HM hN;obtain⟨L,g,cap,es,e,x,cells,n,pa,pc,py,sD,m_,H1,sF,lH,fJ,Ds,Dt,Du,my,jC,rk,ox⟩:=HS.o.2.last 8 HO.o (by decide) HY.o;rw[m_.o]at HK;have e4:=my.o w2 aO.o;go_wp2_with fail
   go_loopw [9,10,11,12] (λnv ov iv _ wr=>∃(j:Nat) (nn:Bool) (vs:List Int) (na:Option av) (nc:Nat),j<=1/\iv=af I j/\ov=aJ nn/\nv=ak na j nc/\wr.ownsRow w2.heap.size 3 1 (ak na j nc) j (vs.flatMap bc)/\Below w2.heap.size w2 wr/\dL (aT e.au) [2] [bl s0] j nn vs) (λ_ _ iv _ _=>1-(intOf iv).toNat)
   case atStart=>exact⟨0,false,[],J,0,cG _,rfl,rfl,rfl,kE _ _ _ _,aC _ _,dL.start _ _ _⟩
   case round=>
    obtain⟨j,nn,vs,na,nc,hj,rfl,rfl,rfl,hown,hb,hf⟩:=hrel;have HB:ag (Below w2.heap.size w2 wr):=hb;have aZ:ag (wr.ownsRow w2.heap.size 3 1 (ak na j nc) j (vs.flatMap bc)):=hown;have HF:ag (dL (aT e.au) [2] [bl s0] j nn vs):=hf;clear hb hown hf e4
    by_cases hlt:j<1
    ·clear hj;obtain rfl:j=0:=by omega
     clear hlt;have e5:=my.o wr (aO.o.trans (HB.o.mono aO.o.size));have e6:=jC.o wr (aO.o.trans (HB.o.mono aO.o.size));have d0:=HW.o wr (bf.o.trans (HB.o.mono bf.o.size)) 1 s0 rfl;have jv:ag (∀q,Calls prog 34 #[ak pa e.au.length pc,aB s0] (wr.drewN q) λe' w'=>e'=aH (af I (idxOf e.au s0))/\w'=wr.drewN q):=λq=>rk.o s0 _ (aO.o.trans ((cB HB.o q).mono aO.o.size))
     have qu:ag (¬s0=⟨#[]⟩->_):=@zA e.au s0;generalize idxOf e.au s0=z at *;go_upto_region 38 with fail
     go_cut [12] (λxv wv=>xv=af I z/\Below w2.heap.size w2 wv/\wv.ownsRow w2.heap.size 3 1 (ak na 0 nc) 0 (vs.flatMap bc))
     case first=>
      go_wp2_with fail
      go_quiet (first|(go_at_call 34;exact pF (jv.o _)))
      go_wp2
      go_meet
      case rel=>exact⟨rfl,cB HB.o _,aZ.o⟩
     obtain⟨rfl,kO,iy⟩:=hcut;clear HB aZ jv e5 e6 d0;rename ah=>wr
     have HB:ag (Below w2.heap.size w2 wr):=kO;have aZ:ag (wr.ownsRow w2.heap.size 3 1 (ak na 0 nc) 0 (vs.flatMap bc)):=iy;clear kO iy;have d0:=HW.o wr (bf.o.trans (HB.o.mono bf.o.size)) 1 s0 rfl
     by_cases bW:s0=⟨#[]⟩
     ·have HE:ag (bq last c 8 [bl s0]=1):=HK.o.trans (HF.o.bad rfl rfl (by rw[bW];exact vL));obtain⟨n1,n2⟩:=nX bW;clear bW
      by_cases z0:z<0
      ·go_wp2;go_ret;exact di HE.o rfl (bI.o _ HB.o)
      go_wp2;go_ret;exact di HE.o rfl (bI.o _ HB.o)
     have iQ:ag _:=qu.o bW;obtain⟨n1,n2⟩:=eG bW;clear bW
     by_cases z0:z<0
     ·have HZ:ag ((bg (aT e.au) 2 (bl s0)).1=5):=by show _=_;rw[iQ.o.1,aU z0]
      go_wp2_with (at_builtin;refine jw HB.o.size aZ.o rfl rfl rfl rfl (by omega) ?_;intro v1 w4 hown1 cY)
      obtain⟨dM,cN,bK⟩:=eO hown1;subst bK;go_roundw
      case rel=>exact⟨0+1,true,vs++[z],dM,cN,by omega,rfl,rfl,rfl,by simpa[fj,bc]using hown1,(HB.o.alloc HB.o.size _).grown cY (by have:=HB.o.size;simp;omega) (λq hq=>(aZ.o.lt q hq).1),HF.o.next rfl rfl true z (by rw[HZ.o];decide) (by rw[HZ.o];simp) (λh0=>by cases h0)⟩
      case measure=>simp[intOf]
     have HZ:ag ((bg (aT e.au) 2 (bl s0)).1=0/\(bg (aT e.au) 2 (bl s0)).2=z):=⟨by rw[iQ.o.1,aF z0],iQ.o.2 (by omega)⟩;go_wp2_with (at_builtin;refine jw HB.o.size aZ.o rfl rfl rfl rfl (by omega) ?_;intro v1 w4 hown1 cY)
     obtain⟨dM,cN,bK⟩:=eO hown1;subst bK;go_roundw
     case rel=>exact⟨0+1,nn,vs++[z],dM,cN,by omega,rfl,rfl,rfl,by simpa[fj,bc]using hown1,(HB.o.alloc HB.o.size _).grown cY (by have:=HB.o.size;simp;omega) (λq hq=>(aZ.o.lt q hq).1),HF.o.next rfl rfl nn z (by rw[HZ.o.1];decide) (by rw[HZ.o.1];simp) (λ_=>HZ.o.2.symm)⟩
     case measure=>simp[intOf]
    obtain rfl:j=1:=by omega
    clear hlt hj;obtain⟨bM,fg⟩:=(show dL (aT e.au) [2] [bl s0] ([2]:List Nat).length nn vs from HF.o).done rfl
    cases nn with
    |true=>
     have HE:ag (bq last c 8 [bl s0]=5):=HK.o.trans (bM);clear bM fg;go_wp2;go_ret;exact di HE.o rfl (bI.o _ HB.o)
    |false=>
     have fO:ag (bq last c 8 [bl s0]=0):=by show _=_;rw[HK.o];exact bM
     have lJ:ag ((aI (aT e.au) false [2] [bl s0]).2=vs):=fg rfl;have hlen:=HF.o.len;clear bM fg;obtain⟨v0,rfl⟩:∃v0,vs=[v0]:=by
      match vs,hlen with
      |[v0],_=>exact⟨v0,rfl⟩
     obtain⟨ng,cN,g_⟩:=sA aZ.o
     cases g_
     have lK:ag (w2.heap.size<=ng):=(aZ.o.lt ng rfl).1;have x0:=mr aZ.o 0 v0 rfl;have fh:ag (Below w.heap.size w wr):=aO.o.trans (HB.o.mono aO.o.size);have d0:=HW.o wr (bf.o.trans (HB.o.mono bf.o.size)) 0 _ rfl;have d1:=HW.o wr (bf.o.trans (HB.o.mono bf.o.size)) 1 _ rfl;clear hlen HF;have hbase:=H1.o wr fh.o;obtain⟨eI,o_⟩:=ox.o;have fq:¬rb=wg:=by have:=lI.o;omega
     have vN:¬wg=rb:=λe2=>fq e2.symm
     have gF:¬rb=ng:=by have:=aO.o.size;have:=lK.o;omega
     have vO:¬ng=rb:=λe2=>gF e2.symm
     obtain⟨r5,f5⟩:=bB.r5 hbase;go_upto_region 62 with fail
     obtain⟨Wz,dp,ij,kY,sG⟩:=bB.word hbase (bI.o _ HB.o) fh.o.size ⟨#[102,105,114,115,116]⟩;rw[<- dp];have y0:=gC dp fq d0;have y1:=gC dp fq d1;have u0:=gC dp gF x0;clear dp r5 f5 hbase d0 d1 x0;obtain⟨ga,gc,ea,ec,fa,fc,la,lc,eF⟩:=ij.o.new.Bc sF.o;have e4:=ij.o.r4 fJ.o;obtain⟨⟨q0,-⟩,⟨q1,-⟩,⟨q2,-⟩,⟨q3,-⟩,⟨q4,-⟩,⟨q5,-⟩,⟨q6,-⟩,⟨q7,-⟩,⟨q8,-⟩,⟨q9,-⟩⟩:=ij.o.ten eF.o.1 fJ.o;go_upto_region 63 with fail
     obtain⟨eb,nh,V,hV,fK,jx,ni,jI,pA,nZ⟩:=ij.o.copy kY.o sG.o sD.o o_ eI eF.o.1;rw[<- hV,<- nh];have y0:=aA fK.o y0;have y1:=aA fK.o y1;have u0:=aA fK.o u0;clear hV nh e4 q0 q1 q2 q3 q4 q5 q6 q7 q8 q9;obtain⟨j0,hj,oX,qo,mV⟩:=ma zP;have q2:V.cell? (ar eb 8 J)=U (ak fa e.first.length fc):=by simp[aL,jI.o]
     have vP:∀ob,(V.alloc ob).cell? ⟨eb,8,J⟩=U (ak fa e.first.length fc):=λob=>aA (bt _ _) q2
     have hown:V.drew.ownsRow L 3 1 (ak fa e.first.length fc) e.first.length (e.first.flatMap bc):=by have:=jx.o.new.hf;rw[eF.o.2]at this;exact this
     have mf:=nZ.o;have kh:e.first.length<=1000000:=lH.o.2.f;have KB:=jx.o.keep ni.o jI.o (by decide) hown;go_wp2_with fail
     go_region_law (refine qa _ rfl (.tmp 249) (.tmp 253) 58 rfl L 3 j0 (af I 0) 1 8 underlying58 hj oX qo mV rfl (by decide) (ak fa e.first.length fc) e.first.length (e.first.flatMap bc) (by simp[Act.eval]) (hown.alloc _) ⟨V.heap.size,0,.none⟩ 1 1 [af I v0] (by simp[Act.eval]) rfl (Ba V.drew (af I v0) 3) (zQ v0) (by decide) (by unfold maxLen;omega) (by omega) (by simp;omega) (V.heap.size+1) (by simp) ?_;intro g' cap' w8 fG cv iD o9;have r8:=KB.o _ _ cv;have d8:w8.cell? (ar eb 8 J)=U (ak fa e.first.length fc):=(by simp[aL,r8.1]);have d9:w8.frozen? (ar eb 8 J)=false:=(by simp[bE,r8.1]))
     all_goals
      have H8:ag (_/\_):=r8;have vQ:ag (bB w0.heap.size rb L g cap w8 c ⟨#[102,105,114,115,116]⟩ es (x.row e).toList { e with first:=e.first++[v0] } ({ x with f:=ak (U (ar g' 0 J)) (e.first.length+1) cap' }) cells):=(jx.o.below (w':=V.drew.alloc _) ((aC V.heap.size V).drew.alloc (by simp) _)).JS v0 (by rw[eF.o.2];exact cv) fG (aeM (w:=V) jx.o.new (by rw[eF.o.2];exact iD) jx.o.fl (by simp));have vR:ag (L<=w8.heap.size):=by have h1:=cv.size;have h2:=nZ.o;show _<=_;simp at h1;omega
      clear cv fG r8 iD q2 vP hown;go_upto_region 78 with fail
      obtain⟨Y,hY,jY,sH,jH,sI⟩:=vQ.o.part H8.o pA.o HS.o.1.size vR.o 8 (ak (U (ar g' 0 J)) (e.first.length+1) cap');rw[<- hY];have nj:ag (({ x with f:=ak (U (ar g' 0 J)) (e.first.length+1) cap' }:bJ).row { e with first:=e.first++[v0] }=#[aB e.name,af I e.aW,ak pa e.au.length pc,af I e.cnt,af I e.mn,af I e.mx,ak ga e.aP.length gc,ak ea e.aN.length ec,ak (U (ar g' 0 J)) (e.first.length+1) cap',ak la e.last.length lc]):=by show _=_;rw[eF.o.2];rfl
      clear hY d8 d9 mf kh y0 y1 u0;have e4:=jY.o.r4 fJ.o;obtain⟨q0,q1,q2,q3,q4,q5,q6,q7,q8,q9⟩:=Bb sH nj.o rfl;obtain⟨⟨p0,f0⟩,⟨p1,f1⟩,⟨p2,f2⟩,⟨p3,f3⟩,⟨p4,f4⟩,⟨p5,f5⟩,⟨p6,f6⟩,⟨p7,f7⟩,⟨p8,f8⟩,⟨p9,f9⟩⟩:=jY.o.ten eF.o.1 fJ.o;go_wp2_with fail
      go_region
      all_goals
       obtain⟨Z,hZ,iO,dW,sJ⟩:=jY.o.back nj.o fJ.o jH.o sI.o;rw[<- hZ];clear hZ e4 q0 p0 f0 q1 p1 f1 q2 p2 f2 q3 p3 f3 q4 p4 f4 q5 p5 f5 q6 p6 f6 q7 p7 f7 q8 p8 f8 q9 p9 f9;go_wp2;go_ret
       refine⟨by rw[fO.o];rfl,dW.o.drew,λ_=>bk ⟨L,g,cap,es,{ e with first:=e.first++[v0] },({ x with f:=ak (U (ar g' 0 J)) (e.first.length+1) cap' }),cells,?_,sJ.o,?_⟩⟩
       ·rw[m_.o,show (aI (aT e.au) false (form 8) [bl s0]).2=_ from lJ.o];exact(by simp only[eV];rw[py.o,rq];rfl)
       exact nY.cfg (bB.below iO.o (aC _ _).drew) (λ_ _=>rfl)
  have HE:ag (bq last c 8 ws=1):=HK.o.trans (sB _ _ _ (by rw[<- HM.o.2,qb];exact hN));have mN:¬(m:Int)=1+1:=by have:=HM.o.1;omega
  clear hN;go_wp2;go_ret;exact di HE.o rfl (bI.o _ (aC _ _))
def afb(w0 w:ah)(rb:Nat)(c:aV)(last:Int)(l:ByteArray)(ws:List Bs)(hb0:bp rb w0 w)(h:dX w0.heap.size rb w c (cL last))(hl:l.size<=1000000)(l0:-1<=last)(l9:last<=9)(hO:gJ 1000000 c last)(hcut:bS 32 (bl l)=kw 9::ws):Calls prog 17 #[ax (U (ar rb 0 J)),aB l] w λv w'=>v=aH (af I (bq last c 9 ws:Nat))/\bp rb w0 w'/\(bq last c 9 ws=0->dX w0.heap.size rb w' (eV c 9 ws (aI (aT (bu c.az)) false (form 9) ws).2) (gY 9)):=by
 have HS:ag (bp rb w0 w/\dX w0.heap.size rb w c (cL last)):=⟨hb0,h⟩;have HO:ag (gJ 1000000 c last):=hO;have gD:=uo w ⟨#[108,97,115,116]⟩ hl hcut;have gN:=uq (b:=may last 9) ⟨#[108,97,115,116]⟩ h l0 l9 rfl;clear hb0 h hl l0 l9 hO hcut;go_enter func17,ntmps17
 go_wp2_with fail
 refine bw gD.o ?_;rintro v w1 ⟨wt,wg,wc,m,rfl,hm,fV,hown,hb1⟩;have aS:ag (Below w.heap.size w w1):=hb1;have lI:ag (w.heap.size<=wg):=(hown.lt wg rfl).1;have HW:ag (∀V,Below w1.heap.size w1 V->∀j s,(⟨#[108,97,115,116]⟩::wt)[j]?=U s->V.cell? (ar wg j J)=U (aB s)):=λV hV j s hj=>aA hV (ri hown j s hj)
 have HM:ag (m=wt.length+1/\wt.map bl=ws):=⟨hm,fV⟩;have c0:=HW.o w1 (aC _ _) 0 _ rfl;have m0:(0:Int)<(m:Int):=by omega
 clear hm fV hown hb1 gD;go_wp2_with fail
 refine bw (gN.o w1 aS.o) ?_;rintro v w2 ⟨rfl,hb2⟩;have aO:ag (Below w.heap.size w w2):=aS.o.trans (hb2.mono aS.o.size);have bf:ag (Below w1.heap.size w1 w2):=hb2;have bI:ag (∀V,Below w2.heap.size w2 V->bp rb w0 V):=λV hV=>HS.o.1.trans ((aO.o.trans (hV.mono aO.o.size)).mono HS.o.1.size)
 clear hb2 gN c0
 cases cM:may last 9 with
 |false=>
  have HE:ag (bq last c 9 ws=1):=uk cM;clear cM;go_wp2;go_ret;exact di HE.o rfl (bI.o _ (aC _ _))
 |true=>
  have HY:ag (may last 9=true):=cM;have HK:ag (bq last c 9 ws=(aI (aT (bu c.az)) false (form 9) ws).1):=um cM;clear cM
  by_cases hN:wt.length=1
  ·obtain⟨s0,rfl⟩:∃s0,wt=[s0]:=by
    match wt,hN with
    |[s0],_=>exact⟨s0,rfl⟩
   obtain rfl:ws=[bl s0]:=HM.o.2.symm.trans rfl;obtain rfl:m=1+1:=HM.o.1;clear HM hN;obtain⟨L,g,cap,es,e,x,cells,n,pa,pc,py,sD,m_,H1,sF,lH,fJ,Ds,Dt,Du,my,jC,rk,ox⟩:=HS.o.2.last 9 HO.o (by decide) HY.o;rw[m_.o]at HK;have e4:=my.o w2 aO.o;go_wp2_with fail
   go_loopw [9,10,11,12] (λnv ov iv _ wr=>∃(j:Nat) (nn:Bool) (vs:List Int) (na:Option av) (nc:Nat),j<=1/\iv=af I j/\ov=aJ nn/\nv=ak na j nc/\wr.ownsRow w2.heap.size 3 1 (ak na j nc) j (vs.flatMap bc)/\Below w2.heap.size w2 wr/\dL (aT e.au) [2] [bl s0] j nn vs) (λ_ _ iv _ _=>1-(intOf iv).toNat)
   case atStart=>exact⟨0,false,[],J,0,cG _,rfl,rfl,rfl,kE _ _ _ _,aC _ _,dL.start _ _ _⟩
   case round=>
    obtain⟨j,nn,vs,na,nc,hj,rfl,rfl,rfl,hown,hb,hf⟩:=hrel;have HB:ag (Below w2.heap.size w2 wr):=hb;have aZ:ag (wr.ownsRow w2.heap.size 3 1 (ak na j nc) j (vs.flatMap bc)):=hown;have HF:ag (dL (aT e.au) [2] [bl s0] j nn vs):=hf;clear hb hown hf e4
    by_cases hlt:j<1
    ·clear hj;obtain rfl:j=0:=by omega
     clear hlt;have e5:=my.o wr (aO.o.trans (HB.o.mono aO.o.size));have e6:=jC.o wr (aO.o.trans (HB.o.mono aO.o.size));have d0:=HW.o wr (bf.o.trans (HB.o.mono bf.o.size)) 1 s0 rfl;have jv:ag (∀q,Calls prog 34 #[ak pa e.au.length pc,aB s0] (wr.drewN q) λe' w'=>e'=aH (af I (idxOf e.au s0))/\w'=wr.drewN q):=λq=>rk.o s0 _ (aO.o.trans ((cB HB.o q).mono aO.o.size))
     have qu:ag (¬s0=⟨#[]⟩->_):=@zA e.au s0;generalize idxOf e.au s0=z at *;go_upto_region 38 with fail
     go_cut [12] (λxv wv=>xv=af I z/\Below w2.heap.size w2 wv/\wv.ownsRow w2.heap.size 3 1 (ak na 0 nc) 0 (vs.flatMap bc))
     case first=>
      go_wp2_with fail
      go_quiet (first|(go_at_call 34;exact pF (jv.o _)))
      go_wp2
      go_meet
      case rel=>exact⟨rfl,cB HB.o _,aZ.o⟩
     obtain⟨rfl,kO,iy⟩:=hcut;clear HB aZ jv e5 e6 d0;rename ah=>wr
     have HB:ag (Below w2.heap.size w2 wr):=kO;have aZ:ag (wr.ownsRow w2.heap.size 3 1 (ak na 0 nc) 0 (vs.flatMap bc)):=iy;clear kO iy;have d0:=HW.o wr (bf.o.trans (HB.o.mono bf.o.size)) 1 s0 rfl
     by_cases bW:s0=⟨#[]⟩
     ·have HE:ag (bq last c 9 [bl s0]=1):=HK.o.trans (HF.o.bad rfl rfl (by rw[bW];exact vL));obtain⟨n1,n2⟩:=nX bW;clear bW
      by_cases z0:z<0
      ·go_wp2;go_ret;exact di HE.o rfl (bI.o _ HB.o)
      go_wp2;go_ret;exact di HE.o rfl (bI.o _ HB.o)
     have iQ:ag _:=qu.o bW;obtain⟨n1,n2⟩:=eG bW;clear bW
     by_cases z0:z<0
     ·have HZ:ag ((bg (aT e.au) 2 (bl s0)).1=5):=by show _=_;rw[iQ.o.1,aU z0]
      go_wp2_with (at_builtin;refine jw HB.o.size aZ.o rfl rfl rfl rfl (by omega) ?_;intro v1 w4 hown1 cY)
      obtain⟨dM,cN,bK⟩:=eO hown1;subst bK;go_roundw
      case rel=>exact⟨0+1,true,vs++[z],dM,cN,by omega,rfl,rfl,rfl,by simpa[fj,bc]using hown1,(HB.o.alloc HB.o.size _).grown cY (by have:=HB.o.size;simp;omega) (λq hq=>(aZ.o.lt q hq).1),HF.o.next rfl rfl true z (by rw[HZ.o];decide) (by rw[HZ.o];simp) (λh0=>by cases h0)⟩
      case measure=>simp[intOf]
     have HZ:ag ((bg (aT e.au) 2 (bl s0)).1=0/\(bg (aT e.au) 2 (bl s0)).2=z):=⟨by rw[iQ.o.1,aF z0],iQ.o.2 (by omega)⟩;go_wp2_with (at_builtin;refine jw HB.o.size aZ.o rfl rfl rfl rfl (by omega) ?_;intro v1 w4 hown1 cY)
     obtain⟨dM,cN,bK⟩:=eO hown1;subst bK;go_roundw
     case rel=>exact⟨0+1,nn,vs++[z],dM,cN,by omega,rfl,rfl,rfl,by simpa[fj,bc]using hown1,(HB.o.alloc HB.o.size _).grown cY (by have:=HB.o.size;simp;omega) (λq hq=>(aZ.o.lt q hq).1),HF.o.next rfl rfl nn z (by rw[HZ.o.1];decide) (by rw[HZ.o.1];simp) (λ_=>HZ.o.2.symm)⟩
     case measure=>simp[intOf]
    obtain rfl:j=1:=by omega
    clear hlt hj;obtain⟨bM,fg⟩:=(show dL (aT e.au) [2] [bl s0] ([2]:List Nat).length nn vs from HF.o).done rfl
    cases nn with
    |true=>
     have HE:ag (bq last c 9 [bl s0]=5):=HK.o.trans (bM);clear bM fg;go_wp2;go_ret;exact di HE.o rfl (bI.o _ HB.o)
    |false=>
     have fO:ag (bq last c 9 [bl s0]=0):=by show _=_;rw[HK.o];exact bM
     have lJ:ag ((aI (aT e.au) false [2] [bl s0]).2=vs):=fg rfl;have hlen:=HF.o.len;clear bM fg;obtain⟨v0,rfl⟩:∃v0,vs=[v0]:=by
      match vs,hlen with
      |[v0],_=>exact⟨v0,rfl⟩
     obtain⟨ng,cN,g_⟩:=sA aZ.o
     cases g_
     have lK:ag (w2.heap.size<=ng):=(aZ.o.lt ng rfl).1;have x0:=mr aZ.o 0 v0 rfl;have fh:ag (Below w.heap.size w wr):=aO.o.trans (HB.o.mono aO.o.size);have d0:=HW.o wr (bf.o.trans (HB.o.mono bf.o.size)) 0 _ rfl;have d1:=HW.o wr (bf.o.trans (HB.o.mono bf.o.size)) 1 _ rfl;clear hlen HF;have hbase:=H1.o wr fh.o;obtain⟨eI,o_⟩:=ox.o;have fq:¬rb=wg:=by have:=lI.o;omega
     have vN:¬wg=rb:=λe2=>fq e2.symm
     have gF:¬rb=ng:=by have:=aO.o.size;have:=lK.o;omega
     have vO:¬ng=rb:=λe2=>gF e2.symm
     obtain⟨r5,f5⟩:=bB.r5 hbase;go_upto_region 62 with fail
     obtain⟨Wz,dp,ij,kY,sG⟩:=bB.word hbase (bI.o _ HB.o) fh.o.size ⟨#[108,97,115,116]⟩;rw[<- dp];have y0:=gC dp fq d0;have y1:=gC dp fq d1;have u0:=gC dp gF x0;clear dp r5 f5 hbase d0 d1 x0;obtain⟨ga,gc,ea,ec,fa,fc,la,lc,eF⟩:=ij.o.new.Bc sF.o;have e4:=ij.o.r4 fJ.o;obtain⟨⟨q0,-⟩,⟨q1,-⟩,⟨q2,-⟩,⟨q3,-⟩,⟨q4,-⟩,⟨q5,-⟩,⟨q6,-⟩,⟨q7,-⟩,⟨q8,-⟩,⟨q9,-⟩⟩:=ij.o.ten eF.o.1 fJ.o;go_upto_region 63 with fail
     obtain⟨eb,nh,V,hV,fK,jx,ni,jI,pA,nZ⟩:=ij.o.copy kY.o sG.o sD.o o_ eI eF.o.1;rw[<- hV,<- nh];have y0:=aA fK.o y0;have y1:=aA fK.o y1;have u0:=aA fK.o u0;clear hV nh e4 q0 q1 q2 q3 q4 q5 q6 q7 q8 q9;obtain⟨j0,hj,oX,qo,mV⟩:=ma zP;have q2:V.cell? (ar eb 9 J)=U (ak la e.last.length lc):=by simp[aL,jI.o]
     have vP:∀ob,(V.alloc ob).cell? ⟨eb,9,J⟩=U (ak la e.last.length lc):=λob=>aA (bt _ _) q2
     have hown:V.drew.ownsRow L 3 1 (ak la e.last.length lc) e.last.length (e.last.flatMap bc):=by have:=jx.o.new.hl;rw[eF.o.2]at this;exact this
     have mf:=nZ.o;have kh:e.last.length<=1000000:=lH.o.2.l;have KB:=jx.o.keep ni.o jI.o (by decide) hown;go_wp2_with fail
     go_region_law (refine qa _ rfl (.tmp 259) (.tmp 263) 58 rfl L 3 j0 (af I 0) 1 8 underlying58 hj oX qo mV rfl (by decide) (ak la e.last.length lc) e.last.length (e.last.flatMap bc) (by simp[Act.eval]) (hown.alloc _) ⟨V.heap.size,0,.none⟩ 1 1 [af I v0] (by simp[Act.eval]) rfl (Ba V.drew (af I v0) 3) (zQ v0) (by decide) (by unfold maxLen;omega) (by omega) (by simp;omega) (V.heap.size+1) (by simp) ?_;intro g' cap' w8 fG cv iD o9;have r8:=KB.o _ _ cv;have d8:w8.cell? (ar eb 9 J)=U (ak la e.last.length lc):=(by simp[aL,r8.1]);have d9:w8.frozen? (ar eb 9 J)=false:=(by simp[bE,r8.1]))
     all_goals
      have H8:ag (_/\_):=r8;have vQ:ag (bB w0.heap.size rb L g cap w8 c ⟨#[108,97,115,116]⟩ es (x.row e).toList { e with last:=e.last++[v0] } ({ x with l:=ak (U (ar g' 0 J)) (e.last.length+1) cap' }) cells):=(jx.o.below (w':=V.drew.alloc _) ((aC V.heap.size V).drew.alloc (by simp) _)).JU v0 (by rw[eF.o.2];exact cv) fG (aeN (w:=V) jx.o.new (by rw[eF.o.2];exact iD) jx.o.fl (by simp));have vR:ag (L<=w8.heap.size):=by have h1:=cv.size;have h2:=nZ.o;show _<=_;simp at h1;omega
      clear cv fG r8 iD q2 vP hown;go_upto_region 78 with fail
      obtain⟨Y,hY,jY,sH,jH,sI⟩:=vQ.o.part H8.o pA.o HS.o.1.size vR.o 9 (ak (U (ar g' 0 J)) (e.last.length+1) cap');rw[<- hY];have nj:ag (({ x with l:=ak (U (ar g' 0 J)) (e.last.length+1) cap' }:bJ).row { e with last:=e.last++[v0] }=#[aB e.name,af I e.aW,ak pa e.au.length pc,af I e.cnt,af I e.mn,af I e.mx,ak ga e.aP.length gc,ak ea e.aN.length ec,ak fa e.first.length fc,ak (U (ar g' 0 J)) (e.last.length+1) cap']):=by show _=_;rw[eF.o.2];rfl
      clear hY d8 d9 mf kh y0 y1 u0;have e4:=jY.o.r4 fJ.o;obtain⟨q0,q1,q2,q3,q4,q5,q6,q7,q8,q9⟩:=Bb sH nj.o rfl;obtain⟨⟨p0,f0⟩,⟨p1,f1⟩,⟨p2,f2⟩,⟨p3,f3⟩,⟨p4,f4⟩,⟨p5,f5⟩,⟨p6,f6⟩,⟨p7,f7⟩,⟨p8,f8⟩,⟨p9,f9⟩⟩:=jY.o.ten eF.o.1 fJ.o;go_wp2_with fail
      go_region
      all_goals
       obtain⟨Z,hZ,iO,dW,sJ⟩:=jY.o.back nj.o fJ.o jH.o sI.o;rw[<- hZ];clear hZ e4 q0 p0 f0 q1 p1 f1 q2 p2 f2 q3 p3 f3 q4 p4 f4 q5 p5 f5 q6 p6 f6 q7 p7 f7 q8 p8 f8 q9 p9 f9;go_wp2;go_ret
       refine⟨by rw[fO.o];rfl,dW.o.drew,λ_=>bk ⟨L,g,cap,es,{ e with last:=e.last++[v0] },({ x with l:=ak (U (ar g' 0 J)) (e.last.length+1) cap' }),cells,?_,sJ.o,?_⟩⟩
       ·rw[m_.o,show (aI (aT e.au) false (form 9) [bl s0]).2=_ from lJ.o];exact(by simp only[eV];rw[py.o,rq];rfl)
       exact nY.cfg (bB.below iO.o (aC _ _).drew) (λ_ _=>rfl)
  have HE:ag (bq last c 9 ws=1):=HK.o.trans (sB _ _ _ (by rw[<- HM.o.2,qb];exact hN));have mN:¬(m:Int)=1+1:=by have:=HM.o.1;omega
  clear hN;go_wp2;go_ret;exact di HE.o rfl (bI.o _ (aC _ _))
def afc(w0 w:ah)(rb:Nat)(c:aV)(last:Int)(l:ByteArray)(hd:Bs)(ws:List Bs)(hb0:bp rb w0 w)(h:dX w0.heap.size rb w c (cL last))(hl:l.size<=1000000)(l0:-1<=last)(l9:last<=9)(hcut:bS 32 (bl l)=hd::ws)(hk:kindOf hd=J):Calls prog 17 #[ax (U (ar rb 0 J)),aB l] w λv w'=>v=aH (af I 1)/\bp rb w0 w':=by
 have rG:ag (bp rb w0 w):=hb0;have gN:ag (∀V,Below w.heap.size w V->∀u:ByteArray,bl u=hd->Calls prog 32 #[ax (U (ar rb 0 J)),aB u] V λe w'=>e=aH (aJ false)/\Below V.heap.size V w'):=λV hV u hu=>by
  have hc:V.cell? (ar rb 5 J)=U (aB (cL last)):=by
   rcases h.below hV with h1|⟨_,_,_,_,_,_,_,_,_,h1⟩
   ·have:=h1.row;simp[aL,this,dG]
   have:=h1.row;simp[aL,this,dG]
  have:=RU rb last u V l0 l9 hc;rw[show xA last u=false by unfold xA;rw[hu,hk]]at this;exact this
 have Dl:ag (∀u:ByteArray,bl u=hd->∀k,k<10->¬u=⟨(kw k).toArray⟩):=λu hu k h10 e=>by
  have h1:bl u=kw k:=by rw[e];exact uA _
  rw[hu]at h1;rw[h1,GJ k h10]at hk
  cases hk
 have gD:ag _:=Gi l 32 w hl;have Sj:ag (bS 32 (bl l)=hd::ws):=hcut;clear hb0 h hl l0 l9 hcut hk;go_enter func17,ntmps17
 go_wp2_with fail
 refine bw gD.o ?_;rintro v w1 ⟨wl,g,cap,rfl,h1,hown,hb1⟩;rw[Sj.o]at h1
 cases wl with
 |nil=>simp at h1
 |cons u wt=>
  have hu:bl u=hd:=by simp at h1;exact h1.1
  have aS:ag (Below w.heap.size w w1):=hb1;have HU:ag (bl u=hd):=hu;have d0:=ri hown 0 u rfl;have hne:=Dl.o u hu;obtain⟨ahG,ahH⟩:=eG (l:=[119,105,110,100,111,119]) (hne 0 (by decide));obtain⟨ahI,ahJ⟩:=eG (l:=[99,121,99,108,101]) (hne 1 (by decide));obtain⟨ahK,ahL⟩:=eG (l:=[100,101,108,97,121]) (hne 2 (by decide));obtain⟨ahM,ahN⟩:=eG (l:=[101,110,116,105,116,121]) (hne 3 (by decide));obtain⟨ahO,ahP⟩:=eG (l:=[112,111,105,110,116]) (hne 4 (by decide));obtain⟨ahQ,ahR⟩:=eG (l:=[99,111,117,110,116]) (hne 5 (by decide));obtain⟨ahS,ahT⟩:=eG (l:=[103,97,112]) (hne 6 (by decide));obtain⟨ahU,ahV⟩:=eG (l:=[101,100,103,101]) (hne 7 (by decide));obtain⟨ahW,ahX⟩:=eG (l:=[102,105,114,115,116]) (hne 8 (by decide));obtain⟨ahY,ahZ⟩:=eG (l:=[108,97,115,116]) (hne 9 (by decide));have s0:(0:Int)<(((u::wt).length:Nat):Int):=by simp
  clear h1 hown hb1 hu hne gD Sj;obtain⟨m,hm⟩:∃m,m=(u::wt).length:=⟨_,rfl⟩;rw[<- hm]at s0;rw[<- hm];clear hm;go_wp2_with (go_at_call 32;refine bw (gN.o _ aS.o u HU.o) ?_;rintro v w2 ⟨rfl,hb2⟩)
  go_ret;exact⟨rfl,rG.o.trans ((aS.o.trans (hb2.mono aS.o.size)).mono rG.o.size)⟩
def afd(k:Nat):cL (k:Int)=gY k:=by unfold cL;rw[aF (by omega),zh]
def afe(w0 w:ah)(rb:Nat)(c:aV)(last:Int)(l:ByteArray)(hb0:bp rb w0 w)(h:dX w0.heap.size rb w c (cL last))(hl:l.size<=1000000)(l0:-1<=last)(l9:last<=9)(hO:gJ 1000000 c last):Calls prog 17 #[ax (U (ar rb 0 J)),aB l] w λv w'=>v=aH (af I (((eA aT ⟨last,c⟩ (bl l)).1:Nat):Int))/\bp rb w0 w'/\((eA aT ⟨last,c⟩ (bl l)).1=0->dX w0.heap.size rb w' (eA aT ⟨last,c⟩ (bl l)).2.cfg (cL (eA aT ⟨last,c⟩ (bl l)).2.last)/\-1<=(eA aT ⟨last,c⟩ (bl l)).2.last/\(eA aT ⟨last,c⟩ (bl l)).2.last<=9):=by
 obtain⟨h0,tl,-,Dw,-⟩:=Qd l ⟨#[32]⟩ rfl;obtain⟨ws,fV⟩:∃ws,ws=tl.map bl:=⟨_,rfl⟩;rw[<- fV]at Dw;have e1:eA aT ⟨last,c⟩ (bl l)=jy aT ⟨last,c⟩ (bl h0) ws:=by unfold eA;rw[Dw]
 cases hk:kindOf (bl h0)with
 |none=>
  have e2:jy aT ⟨last,c⟩ (bl h0) ws=(1,⟨last,c⟩):=by unfold jy;rw[hk]
  rw[e1,e2]
  apply(afc w0 w rb c last l (bl h0) ws hb0 h hl l0 l9 Dw hk).mono;rintro v w' ⟨rfl,hb⟩;exact⟨rfl,hb,λh=>by simp at h⟩
 |some k=>
  obtain⟨h1,kR⟩:=Bo hk;have hcut:bS 32 (bl l)=kw k::ws:=by rw[Dw,h1]
  rw[e1,h1];clear Dw hk e1;have fin:∀k,k<10->Calls prog 17 #[ax (U (ar rb 0 J)),aB l] w (λv w'=>v=aH (af I (bq last c k ws:Nat))/\bp rb w0 w'/\(bq last c k ws=0->dX w0.heap.size rb w' (eV c k ws (aI (aT (bu c.az)) false (form k) ws).2) (gY k))) ->
    Calls prog 17 #[ax (U (ar rb 0 J)),aB l] w λv w'=>v=aH (af I (((jy aT ⟨last,c⟩ (kw k) ws).1:Nat):Int))/\bp rb w0 w'/\((jy aT ⟨last,c⟩ (kw k) ws).1=0->dX w0.heap.size rb w' (jy aT ⟨last,c⟩ (kw k) ws).2.cfg (cL (jy aT ⟨last,c⟩ (kw k) ws).2.last)/\-1<=(jy aT ⟨last,c⟩ (kw k) ws).2.last/\(jy aT ⟨last,c⟩ (kw k) ws).2.last<=9):=λk kR hc=>by
   obtain⟨a1,a2⟩:=aeH (last:=last) (c:=c) kR ws
   refine hc.mono ?_;rintro v w' ⟨rfl,hb,hd⟩;rw[a1]
   refine⟨rfl,hb,λh0=>?_⟩;rw[a2 h0];exact⟨by rw[afd];exact hd h0,by show -1<=(k:Int);omega,by show (k:Int)<=9;omega⟩
  match k,kR with
  |0,_=>exact fin 0 (by decide) (aeR w0 w rb c last l ws hb0 h hl l0 l9 hO hcut)
  |1,_=>exact fin 1 (by decide) (aeS w0 w rb c last l ws hb0 h hl l0 l9 hO hcut)
  |2,_=>exact fin 2 (by decide) (aeT w0 w rb c last l ws hb0 h hl l0 l9 hO hcut)
  |3,_=>exact fin 3 (by decide) (aeU w0 w rb c last l ws hb0 h hl l0 l9 hO hcut)
  |4,_=>exact fin 4 (by decide) (aeV w0 w rb c last l ws hb0 h hl l0 l9 hO hcut)
  |5,_=>exact fin 5 (by decide) (aeW w0 w rb c last l ws hb0 h hl l0 l9 hO hcut)
  |6,_=>exact fin 6 (by decide) (ae7 w0 w rb c last l ws hb0 h hl l0 l9 hO hcut)
  |7,_=>exact fin 7 (by decide) (ae' w0 w rb c last l ws hb0 h hl l0 l9 hO hcut)
  |8,_=>exact fin 8 (by decide) (afa w0 w rb c last l ws hb0 h hl l0 l9 hO hcut)
  |9,_=>exact fin 9 (by decide) (afb w0 w rb c last l ws hb0 h hl l0 l9 hO hcut)
def Be{fn:Func}{p q:Tmp}(h:fn.results=#[.cell p 34,.cell q 30])(tmps:Array aj)(w:ah)(g k:Nat)(a b c d e x y:aj)
  (hp:tmps.getD p undef=ax (U (ar g 0 J))) (hq:tmps.getD q undef=ax (U (ar k 0 J))) (hg:w.heap[g]?=U (ay #[a,b,c,d,e] 34 (0,0))) (hk:w.heap[k]?=U (ay #[x,y] 30 (0,0))):(results fn tmps).run prog w=.ok (aX #[a_ #[a,b,c,d,e],a_ #[x,y]]) w:=by
 have aff:tmps[p]?.getD undef=ax (U (ar g 0 J)):=by simpa using hp
 have hq':tmps[q]?.getD undef=ax (U (ar k 0 J)):=by simpa using hq
 simp[results,h,aff,hq',asAddr,run_loadVar_row w g _ 34 #[a,b,c,d,e] _ _ hg underlying34 rfl oN,run_loadVar_row w k _ 30 #[x,y] _ _ hk underlying30 rfl eZ]
def rj.FB{B:Nat}{c:aV}{lw:ByteArray}{ev:aj}{cells:List aj}(h:rj B rb w c lw ev cells):gG B w ev c.az:=
 ⟨cells,h.az,λi e he=>by
  obtain⟨x,a,-,d⟩:=h.olds i e he;exact⟨x.p,x.g,x.e,x.f,x.l,a,d⟩⟩
def Sk{B b:Nat}{v:aj}{es:List aG}(h:gG B w v es)(hg:w.grownBy w' (U b)){cs:Array aj}{T:TypeId}{fr:Nat×Nat}(hb:w.heap[b]?=U (ay cs T fr))(h0:T≠60)(h1:T≠9)(h2:T≠85)(h3:T≠86)(h4:T≠3):gG B w' v es:=by
 obtain⟨cells,ho,hp⟩:=h
 refine⟨_,ho.kept hg (bk (eu ho hb h0)),λi e he=>?_⟩;obtain⟨pv,gv,ev,fv,lv,a,d⟩:=hp i e he;exact⟨pv,gv,ev,fv,lv,dU.other (x:=⟨pv,gv,ev,fv,lv⟩) a hg hb h1 h2 h3 h4,d⟩
def vS(a:ByteArray):(bl a).length=a.size:=by simp[bl]
def Sl{o:Obj}(h:bp rb a b)(hc:a.heap[g]?=U o)(hne:g≠rb):b.heap[g]?=U o:=(h.block g (cU hc) (λe=>hne (by cases e;rfl))).trans hc
def afg{v:aj}(h:bp rb a b)(hc:a.cell? (ar g i J)=U v)(hne:g≠rb):b.cell? (ar g i J)=U v:=by
 have h1:=h.block g (j6 hc) (λe=>hne (by cases e;rfl));unfold aL at hc⊢;simp only[h1];exact hc
def afh{b:UInt8}(h:s.getLast?=U b):trim s=if b=10 then s.dropLast else s:=by
 unfold trim;rw[h]
 by_cases e:b=10
 ·subst e;simp
 rw[aF (λh=>e (by simpa using h)),aF e]
def afi(look:kQ):cy look 0 ⟨-1,bT⟩ (bS 10 (trim []))=cy look 0 ⟨-1,bT⟩ []:=by
 have h1:bS 10 (trim [])=[[]]:=by decide
 have h2:eA look ⟨-1,bT⟩ []=(1,⟨-1,bT⟩):=by
  have h3:bS 32 ([]:Bs)=[[]]:=by decide
  have h4:kindOf ([]:Bs)=J:=by decide
  simp[eA,h3,jy,h4]
 rw[h1];simp[cy,h2]
def afj{look:kQ}{ls:List Bs}(hs:s.length<=8000)(h:cy look 0 ⟨-1,bT⟩ (bS 10 (trim s))=cy look 0 ⟨-1,bT⟩ ls):gf look s=if (cy look 0 ⟨-1,bT⟩ ls).1.1=0 then (if (dJ (cy look 0 ⟨-1,bT⟩ ls).2.cfg).1=0 then ((0,-1),(cy look 0 ⟨-1,bT⟩ ls).2.cfg)else (dJ (cy look 0 ⟨-1,bT⟩ ls).2.cfg,bT))else ((cy look 0 ⟨-1,bT⟩ ls).1,bT):=by
 unfold gf;rw[aF (by omega),h]
structure uv(w:ah)(B:Nat)(ev:aj)(es:List aG)(C F:Array aj)(Z:ah):Prop where
 c:Z.heap[w.heap.size]?=U (ay C 34 (0,0))
 f:Z.heap[w.heap.size+1]?=U (ay F 30 (0,0))
 gV:Below w.heap.size w Z
 own:gG B Z ev es
section
variable {w Z:ah}{B:Nat}{ev:aj}{es:List aG}{C F:Array aj}
def uv.uw(h:uv w B ev es C F Z)(j:Nat)(u:aj):uv w B ev es (C.setIfInBounds j u) F (Z.setCell (ar w.heap.size j J) u):=
 ⟨vM h.c u,((o8 Z w.heap.size j u).block _ (cU h.f) (by simp)).trans h.f,h.gV.setCell (p:=⟨w.heap.size,j,J⟩) (aR _) u,Sk h.own (o8 Z w.heap.size j u) h.c (by decide) (by decide) (by decide) (by decide) (by decide)⟩
def uv.Gq(h:uv w B ev es C F Z)(j:Nat)(u:aj):uv w B ev es C (F.setIfInBounds j u) (Z.setCell ⟨w.heap.size+1,j,J⟩ u):=
 ⟨((o8 Z (w.heap.size+1) j u).block _ (cU h.c) (by simp)).trans h.c,vM h.f u,h.gV.setCell (p:=⟨w.heap.size+1,j,J⟩) (Nat.le_succ _) u,Sk h.own (o8 Z (w.heap.size+1) j u) h.f (by decide) (by decide) (by decide) (by decide) (by decide)⟩
def uv.drew(h:uv w B ev es C F Z):uv w B ev es C F Z.drew:=⟨h.c,h.f,h.gV.drew,h.own.below (aC _ _).drew⟩
end
def afk(s:ByteArray)(w:ah)(v:Ending)(w':ah):Prop:=∃(c:aV) (sv:aj) (code place:Int),v=aH (aX #[a_ #[af I c.closed,af I c.opn,af I c.cycle,af I c.bO,sv],a_ #[af I code,af I place]])/\Below w.heap.size w w'/\c=(gf aT (bl s)).2/\code=((gf aT (bl s)).1.1:Int)/\(code≠0->place=(gf aT (bl s)).1.2)/\∃B',gG B' w' sv c.az
def afl(s:ByteArray)(w:ah)(hn:s.size<=8000):Calls prog 7 #[aB s] w (afk s w):=by
 have HN:ag _:=hn;have g1:¬8000<(s.size:Int):=by omega
 clear hn;go_enter func7,ntmps7
 go_upto_region 5 with fail
 obtain⟨W2,hW2⟩:∃V,V=(w.alloc (ay #[af I 0,af I 0,af I 0,af I 0,ak J 0 0] 34)).alloc (ay #[af I 0,af I 0] 30):=⟨_,rfl⟩;rw[<- hW2];obtain⟨W3,hW3⟩:∃V,V=W2.alloc (ay #[af I 0,af I 0,af I 0,af I 0,ak J 0 0,aB ⟨#[]⟩] 49):=⟨_,rfl⟩;rw[<- hW3];have afm:ag (W2.heap.size=w.heap.size+2):=by show _=_;rw[hW2];simp
 have aO:ag (Below w.heap.size w W2):=by show Below _ _ _;rw[hW2];exact(bt _ _).alloc (by simp) _
 have CZ:ag (∀V,Below _ W2 V->V.heap[w.heap.size]?=U _):=λV hV=>cX hV (by rw[hW2];exact cX (bt _ _) (dT w _))
 have Sm:ag (∀V,Below _ W2 V->V.heap[w.heap.size+1]?=U (ay #[af I 0,af I 0] 30 (0,0))):=λV hV=>cX hV (by
  have:=dT (w.alloc (ay #[af I 0,af I 0,af I 0,af I 0,ak J 0 0] 34)) (ay #[af I 0,af I 0] 30);rw[World.size_alloc]at this;rw[hW2];exact this)
 obtain⟨rb,iZ⟩:∃rb,rb=w.heap.size+2:=⟨_,rfl⟩;have qT:ag (W3.heap[rb]?=U (ay #[af I 0,af I 0,af I 0,af I 0,ak J 0 0,aB ⟨#[]⟩] 49 (0,0))):=by
  show _=_
  have h1:=dT W2 (ay #[af I 0,af I 0,af I 0,af I 0,ak J 0 0,aB ⟨#[]⟩] 49);rw[afm.o,<- iZ]at h1;rw[hW3];exact h1
 have mX:ag (Below W2.heap.size W2 W3):=by show Below _ _ _;rw[hW3];exact bt _ _
 rw[<- iZ];have Gs:ag (rb≠w.heap.size/\rb≠w.heap.size+1):=⟨by omega,by omega⟩;have C0:ag (w.heap.size<=rb):=by show _<=_;omega
 clear hW2 hW3 iZ;go_upto_if 17 with fail
 go_cut [0,5,18,19,20,21,22,23,24,25,26,27,28,29,30] (λ_ lv _ _ _ _ _ _ _ _ _ _ _ _ _ wx=>∃(lines:List ByteArray) (sa:Option av) (sc:Nat),lv=ak sa lines.length sc/\(lines≠[]->∃g,sa=U ⟨g,0,J⟩/\g≠rb/\∀i l,lines[i]?=U l->wx.cell? (ar g i J)=U (aB l))/\Below W3.heap.size W3 wx/\lines.length<=8001/\(∀l∈lines,l.size<=8000)/\cy aT 0 ⟨-1,bT⟩ (bS 10 (trim (bl s)))=cy aT 0 ⟨-1,bT⟩ (lines.map bl))
 case first=>
  by_cases hs0:s=⟨#[]⟩
  ·have HE:ag (cy aT 0 ⟨-1,bT⟩ (bS 10 (trim (bl s)))=cy aT 0 ⟨-1,bT⟩ []):=by show _=_;rw[hs0];exact afi _
   subst hs0;have e3:((⟨#[]⟩:ByteArray).toList.isEmpty)=true:=by rw[iA];rfl
   simp only[e3,Bool.not_true];go_wp2
   go_meet
   case rel=>exact⟨[],_,0,rfl,(λh=>absurd rfl h),aC _ _,by simp,(λl hl=>by simp at hl),HE.o⟩
  obtain⟨e1,e2⟩:=eG (l:=[]) hs0;have e3:s.toList.isEmpty=false:=by simpa using e2
  simp only[e3,Bool.not_false];obtain⟨k,hk⟩:∃k,s.size=k+1:=⟨s.size-1,by
   have:s.size≠0:=λh=>hs0 (oG (sN (by rw[vS];exact h)))
   omega⟩
  have hsz:(s.size:Int)=(k:Int)+1:=by omega
  have k8:k<8000:=by have:=HN.o;omega
  obtain⟨b,hb⟩:∃b,b=s[k]'(by omega):=⟨_,rfl⟩;have KS:∀W:ah,(Instr.index 9 (aB s) (af I (k:Int))).run prog W=.ok (af .u8 (b.toNat:Int)) W:=λW=>by
   rw[run_index_string W 9 s I _ underlying9,dif_pos (by omega),hb];rfl
  have Lb:(bl s).getLast?=U b:=by
   rw[List.getLast?_eq_getElem?,vS,hk,hb];simp[bl,hk]
   rfl
  have Bf:ag _:=afh Lb;have iO:ag (∀(s1:ByteArray) (V V':ah) (wl:List _) (g cap:Nat),bl s1=trim (bl s)->Below W3.heap.size W3 V->wl.map bl=bS 10 (bl s1)->V'.ownsRow V.heap.size 9 1 (ak (U (ar g 0 J)) wl.length cap) wl.length (wl.flatMap gg)->Below V.heap.size V V'->(wl≠[]->∃g',U (⟨g,0,J⟩:av)=U ⟨g',0,J⟩/\g'≠rb/\∀i l,wl[i]?=U l->V'.cell? (ar g' i J)=U (aB l))/\Below W3.heap.size W3 V'/\wl.length<=8001/\(∀l∈wl,l.size<=8000)/\cy aT 0 ⟨-1,bT⟩ (bS 10 (trim (bl s)))=cy aT 0 ⟨-1,bT⟩ (wl.map bl)):=λs1 V V' wl g cap h1 hV h2 h3 h4=>by
   have ah0:(bl s1).length<=8000:=by
    rw[h1,Bf.o];have h5:=vS s;have h6:=HN.o
    split
    ·rw[List.length_dropLast];omega
    omega
   obtain⟨z1,z2⟩:=CW 10 (bl s1);rw[<- h2]at z1 z2
   refine⟨λ_=>⟨g,rfl,?_,λi l hl=>ri h3 i l hl⟩,hV.trans (h4.mono hV.size),by simp at z2;omega,λl hl=>?_,by rw[h2,h1]⟩
   ·have h9:=(World.ownsRow.lt h3 g rfl).1;have h10:=hV.size;have h11:=cU qT.o;omega
   have h7:=z1 _ (List.mem_map_of_mem hl);have h8:=vS l;omega
  have Sn:ag _:=HN.o
  by_cases zD:b=10
  ·have afn:(b.toNat:Int)=10:=by rw[zD];rfl
   obtain⟨s1,hs1⟩:∃s1,s1=s.extract 0 k:=⟨_,rfl⟩;have ah1:∀W:ah,(Instr.slice 9 (aB s) J (U (af I (k:Int))) J).run prog W=.ok (aB s1) W:=λW=>by
    rw[run_slice_string_h W 9 s underlying9 I _ (by omega) (by omega),hs1];rfl
   have aS:ag (bl s1=trim (bl s)):=by
    show _=_
    rw[Bf.o,aU zD,hs1,List.dropLast_eq_take,vS,hk];simp[bl]
   have gu:ag (s1.size<=1000000):=by
    show _<=_
    have h5:=vS s1;have h6:=aS.o;rw[Bf.o,aU zD]at h6;rw[<- h5,h6,List.length_dropLast,vS];have:=Sn.o;omega
   clear hs0 hb zD Lb Bf hs1 hk;go_wp2_with (go_at_call 16;apply(Gi s1 10 W3 gu.o).mono;rintro v wc ⟨wl,g,cap,rfl,h1,h2,h3⟩;have HR:ag _:=iO.o s1 W3 wc wl g cap aS.o (aC _ _) h1 h2 h3;clear h1 h2 h3)
   go_meet
   case rel=>exact⟨wl,_,_,rfl,HR.o⟩
  have afn:¬(b.toNat:Int)=10:=λh=>zD (by
   apply UInt8.toNat.inj
   show b.toNat=10
   omega)
  have aS:ag (bl s=trim (bl s)):=by show _=_;rw[Bf.o,aF zD]
  have gu:ag (s.size<=1000000):=by show _<=_;have:=Sn.o;omega
  clear hs0 hb zD Lb Bf hk;go_wp2_with (go_at_call 16;apply(Gi s 10 W3 gu.o).mono;rintro v wc ⟨wl,g,cap,rfl,h1,h2,h3⟩;have HR:ag _:=iO.o s W3 wc wl g cap aS.o (aC _ _) h1 h2 h3;clear h1 h2 h3)
  go_meet
  case rel=>exact⟨wl,_,_,rfl,HR.o⟩
 obtain⟨lines,sa,sc,rfl,hL4,hb4,hl4,Sq,Sr⟩:=hcut;rename ah=>W4
 have afo:ag (∀V,bp rb W4 V->∀k l,lines[k]?=U l->∃g,sa=U ⟨g,0,J⟩/\V.cell? (ar g k J)=U (aB l)):=λV hV k l hl=>by
  obtain⟨g,h1,h2,h3⟩:=hL4 (λe=>by rw[e]at hl;simp at hl);exact⟨g,h1,afg hV (h3 k l hl) h2⟩
 have Gv:ag (lines.length<=8001/\∀l∈lines,l.size<=8000):=⟨hl4,Sq⟩;have za:ag _:=afj (by rw[vS];exact HN.o) Sr;have nV:ag _:=mX.o.trans (hb4.mono mX.o.size);have Ss:ag (dX W4.heap.size rb W4 bT (cL (-1))):=cF ⟨cF rfl,rfl,cX hb4 qT.o⟩;have Dx:ag (∀V,bp rb W4 V->V.heap[w.heap.size]?=U (ay #[af I 0,af I 0,af I 0,af I 0,ak J 0 0] 34 (0,0))):=λV hV=>Sl hV (CZ.o W4 nV.o) (λe=>Gs.o.1 e.symm)
 have Bg:ag (∀V,bp rb W4 V->V.heap[w.heap.size+1]?=U (ay #[af I 0,af I 0] 30 (0,0))):=λV hV=>Sl hV (Sm.o W4 nV.o) (λe=>Gs.o.2 e.symm)
 have fh:ag (∀V,bp rb W4 V->Below w.heap.size w V):=λV hV=>by
  have h1:=aO.o.trans (nV.o.mono aO.o.size);exact h1.grown hV h1.size (λi hi=>by cases hi;have:=C0.o;omega)
 clear hL4 hb4 hl4 Sq Sr mX qT g1 nV aO CZ Sm;have Sv:ag (∀V,bp rb W4 V->∀code place:Int,((V.setRow w.heap.size #[af I 0,af I 0,af I 0,af I 0,ak J 0 0]).setRow (w.heap.size+1) #[af I code,af I place]).heap[w.heap.size]?=U (ay #[af I 0,af I 0,af I 0,af I 0,ak J 0 0] 34 (0,0))/\((V.setRow w.heap.size #[af I 0,af I 0,af I 0,af I 0,ak J 0 0]).setRow (w.heap.size+1) #[af I code,af I place]).heap[w.heap.size+1]?=U (ay #[af I code,af I place] 30 (0,0))/\Below w.heap.size w ((V.setRow w.heap.size #[af I 0,af I 0,af I 0,af I 0,ak J 0 0]).setRow (w.heap.size+1) #[af I code,af I place])):=λV hV code place=>by
  have h1:=jf (w:=V) #[af I 0,af I 0,af I 0,af I 0,ak J 0 0] (Dx.o V hV);have g1:=pL V w.heap.size #[af I 0,af I 0,af I 0,af I 0,ak J 0 0];have h2:=(g1.block _ (cU (Bg.o V hV)) (by simp)).trans (Bg.o V hV);have g2:=pL (V.setRow w.heap.size #[af I 0,af I 0,af I 0,af I 0,ak J 0 0]) (w.heap.size+1) #[af I code,af I place];have b1:=fh.o V hV;have b2:=b1.grown g1 b1.size (λi hi=>by cases hi;exact aR _);exact⟨(g2.block _ (cU h1) (by simp)).trans h1,jf _ h2,b2.grown g2 b2.size (λi hi=>by cases hi;omega)⟩
 have Sw:ag _:=λV hV=>((pL V w.heap.size #[af I 0,af I 0,af I 0,af I 0,ak J 0 0]).block _ (cU (Bg.o V hV)) (by simp)).trans (Bg.o V hV)
 go_upto_region 9 with fail
 go_cut [6] (λi wx=>i=af I 0/\wx=W4)
 case first=>
  go_wp2
  go_meet
  case rel=>exact⟨rfl,rfl⟩
 obtain⟨rfl,rfl⟩:=hcut;rename ah=>W4
 go_wp2_with fail
 go_loopw [6,7] (λiv _ wr=>∃(k:Nat) (st:RS),k<=lines.length/\iv=af I k/\bp rb W4 wr/\dX W4.heap.size rb wr st.cfg (cL st.last)/\(-1<=st.last/\st.last<=9)/\gJ k st.cfg st.last/\(∀e∈st.cfg.az,yY e)/\cy aT 0 ⟨-1,bT⟩ (lines.map bl)=cy aT k st ((lines.drop k).map bl)) (λi _ _=>lines.length-(intOf i).toNat)
 case atStart=>exact⟨0,_,cG _,rfl,bp.refl _ _,Ss.o,⟨by decide,by decide⟩,⟨λ_=>rfl,λh=>by simp at h,aR _,λe he=>by simp[bT]at he⟩,λe he=>by simp[bT]at he,rfl⟩
 case round=>
  clear Ss;obtain⟨k,st,hk,rfl,eW,Sy,hlk,yZ,hsm,y_⟩:=hrel;have HB:ag (bp rb W4 wr):=eW;have HD:ag (dX _ rb wr _ _):=Sy;have Bh:ag _:=hlk;have HO:ag (gJ k st.cfg st.last/\∀e∈st.cfg.az,yY e):=⟨yZ,hsm⟩;have uf:ag _:=y_;clear eW Sy hlk yZ hsm y_
  by_cases hlt:k<lines.length
  ·have k1:(k:Int)<(lines.length:Int):=by omega
   have k2:k<8001:=by have:=Gv.o.1;omega
   obtain⟨l,hl⟩:∃l,lines[k]?=U l:=⟨_,bL hlt⟩;have jV:ag _:=Gv.o.2 l (fQ hl);have sf:ag ((lines.drop k).map bl=bl l::(lines.drop (k+1)).map bl):=by
    show _=_
    rw[lM hlt];rw[bL hlt]at hl
    cases hl;rfl
   obtain⟨g,rfl,c0⟩:=afo.o wr HB.o k l hl;clear hl;go_wp2_with fail
   apply(afe W4 wr rb _ _ l HB.o HD.o (by have:=jV.o;omega) Bh.o.1 Bh.o.2 ⟨HO.o.1.e0,HO.o.1.e3,bH HO.o.1.len (by omega),λe he=>(HO.o.1.sz e he).mono (by omega)⟩).mono;rintro v w5 ⟨rfl,tR,Sz⟩;have lq:ag (bp rb W4 w5):=tR;have SA:ag _:=Sz;clear tR Sz c0 HD HB
   by_cases h0:(eA aT ⟨st.last,st.cfg⟩ (bl l)).1=0
   ·have HC:ag _:=h0;rw[h0];clear h0;go_wp2
    go_roundw
    case rel=>
     have J5:(bl l).length<=1000000:=by have:=jV.o;rw[vS];omega
     obtain⟨s1,s2⟩:=Qg HO.o.1 HO.o.2 J5 HC.o;obtain⟨d1,d2⟩:=SA.o HC.o;exact⟨_,_,by omega,by go_num,lq.o,d1,d2,s1,s2,by rw[uf.o,sf.o,Qj HC.o]⟩
    case measure=>simp[intOf];omega
   obtain⟨j,hj⟩:∃j,j=(eA aT ⟨st.last,st.cfg⟩ (bl l)).1:=⟨_,rfl⟩;have HE:ag (gf aT (bl s)=((j,(k:Int)),bT)):=by
    show _=_
    have h1:cy aT 0 ⟨-1,bT⟩ (lines.map bl)=((j,(k:Int)),st):=by rw[uf.o,sf.o,Qi h0,<- hj]
    rw[za.o,h1,aF (by show ¬j=0;rw[hj];exact h0)]
   have g0:(0:Int)<(j:Int):=by omega
   rw[<- hj];clear h0 hj SA;have Dy:=Dx.o w5 lq.o;have Dz:=Sw.o w5 lq.o;go_wp2_with (first|(refine gm rfl 34 _ _ rfl _ _ rfl rfl 34 _ Dy oN rfl (by simp[Value.oneCell']) ?_)|(refine gm rfl 30 _ _ rfl _ _ rfl rfl 30 _ Dz eZ rfl (by simp[Value.oneCell']) ?_))
   obtain⟨z1,z2,z3⟩:=Sv.o w5 lq.o (j:Int) (k:Int)
   refine gp (Be rfl _ _ w.heap.size (w.heap.size+1) _ _ _ _ _ _ _ rfl rfl z1 z2) rfl ?_;exact⟨_,ak J 0 0,(j:Int),(k:Int),rfl,z3,by rw[HE.o],by rw[HE.o],λ_=>by rw[HE.o],0,gG.nil _ _⟩
  have k1:¬(k:Int)<(lines.length:Int):=by omega
  obtain rfl:k=lines.length:=by omega
  have C1:ag (cy aT 0 ⟨-1,bT⟩ (lines.map bl)=cy aT lines.length st []):=by show _=_;have:=uf.o;rw[List.drop_length]at this;exact this
  obtain⟨ev,cells,hV⟩:=HD.o.view;have HV:ag _:=hV;have r5:wr.cell? (ar rb 5 J)=U (aB (cL st.last)):=by have:=hV.row;simp[aL,this,dG]
  clear hV uf HD
  by_cases h2:st.last<2
  ·have HE:ag (gf aT (bl s)=((1,(lines.length:Int)),bT)):=by
    show _=_
    have h1:cy aT 0 ⟨-1,bT⟩ (lines.map bl)=((1,(lines.length:Int)),st):=by rw[C1.o,cy,aU h2]
    rw[za.o,h1];exact aF (by simp)
   have Dy:=Dx.o wr HB.o;have Dz:=Sw.o wr HB.o;obtain⟨z1,z2,z3⟩:=Sv.o wr HB.o 1 (lines.length:Int);have HZ:ag _:=And.intro z1 (And.intro z2 z3);have afp:st.last=-1\/st.last=0\/st.last=1:=by have:=Bh.o;omega
   clear z1 z2 z3 h2
   rcases afp with h|h|h
   ·have r6:wr.cell? (ar rb 5 J)=U (aB ⟨#[]⟩):=by rw[r5,h];rfl
    clear r5 h;go_wp2_with (first|(refine gm rfl 34 _ _ rfl _ _ rfl rfl 34 _ Dy oN rfl (by simp[Value.oneCell']) ?_)|(refine gm rfl 30 _ _ rfl _ _ rfl rfl 30 _ Dz eZ rfl (by simp[Value.oneCell']) ?_))
    refine gp (Be rfl _ _ w.heap.size (w.heap.size+1) _ _ _ _ _ _ _ rfl rfl HZ.o.1 HZ.o.2.1) rfl ?_;exact⟨_,ak J 0 0,1,(lines.length:Int),rfl,HZ.o.2.2,by rw[HE.o],by rw[HE.o];rfl,λ_=>by rw[HE.o],0,gG.nil _ _⟩
   ·have r6:wr.cell? (ar rb 5 J)=U (aB ⟨#[119,105,110,100,111,119]⟩):=by rw[r5,h];rfl
    clear r5 h;go_wp2_with (first|(refine gm rfl 34 _ _ rfl _ _ rfl rfl 34 _ Dy oN rfl (by simp[Value.oneCell']) ?_)|(refine gm rfl 30 _ _ rfl _ _ rfl rfl 30 _ Dz eZ rfl (by simp[Value.oneCell']) ?_))
    refine gp (Be rfl _ _ w.heap.size (w.heap.size+1) _ _ _ _ _ _ _ rfl rfl HZ.o.1 HZ.o.2.1) rfl ?_;exact⟨_,ak J 0 0,1,(lines.length:Int),rfl,HZ.o.2.2,by rw[HE.o],by rw[HE.o];rfl,λ_=>by rw[HE.o],0,gG.nil _ _⟩
   have r6:wr.cell? (ar rb 5 J)=U (aB ⟨#[99,121,99,108,101]⟩):=by rw[r5,h];rfl
   clear r5 h;go_wp2_with (first|(refine gm rfl 34 _ _ rfl _ _ rfl rfl 34 _ Dy oN rfl (by simp[Value.oneCell']) ?_)|(refine gm rfl 30 _ _ rfl _ _ rfl rfl 30 _ Dz eZ rfl (by simp[Value.oneCell']) ?_))
   refine gp (Be rfl _ _ w.heap.size (w.heap.size+1) _ _ _ _ _ _ _ rfl rfl HZ.o.1 HZ.o.2.1) rfl ?_;exact⟨_,ak J 0 0,1,(lines.length:Int),rfl,HZ.o.2.2,by rw[HE.o],by rw[HE.o];rfl,λ_=>by rw[HE.o],0,gG.nil _ _⟩
  have HE:ag (cy aT 0 ⟨-1,bT⟩ (lines.map bl)=((0,-1),st)):=by show _=_;rw[C1.o,cy,aF h2]
  have qg:jB _:=⟨bH HO.o.1.len (by have:=Gv.o.1;omega),λe he=>by
   obtain⟨a,b⟩:=HO.o.2 e he;have sz:=(HO.o.1.sz e he).mono (m:=1000000) (by have:=Gv.o.1;omega);exact⟨a,sz.p,b,sz.g,sz.d,sz.f,sz.l⟩⟩
  have su:ag _:=qg;have m0:¬cL _=⟨#[]⟩:=λh=>by have:=(RQ Bh.o.2).1 h;omega
  have m1:¬cL _=gY 0:=λh=>by have:=(K2 Bh.o.2 (by decide)).1 h;omega
  have m2:¬cL _=gY 1:=λh=>by have:=(K2 Bh.o.2 (by decide)).1 h;omega
  obtain⟨va,vc,rfl⟩:=eO HV.o.az;have hrow:=HV.o.row;obtain⟨lw,SC⟩:∃lw,lw=cL st.last:=⟨_,rfl⟩;rw[<- SC]at m0 m1 m2 r5 hrow;obtain⟨a1,a2⟩:=eG (l:=[]) m0;obtain⟨b1,b2⟩:=eG (l:=[119,105,110,100,111,119]) m1;obtain⟨d1,d2⟩:=eG (l:=[99,121,99,108,101]) m2;have a3:lw.toList.isEmpty=false:=by simpa using a2
  have gK:ag (∀V,Below wr.heap.size wr V->V.cell? (ar rb 0 J)=U (af I st.cfg.closed)/\V.cell? (ar rb 1 J)=U (af I st.cfg.opn)/\V.cell? (ar rb 2 J)=U (af I st.cfg.cycle)/\V.cell? (ar rb 3 J)=U (af I st.cfg.bO)/\V.cell? (ar rb 4 J)=U (ak va st.cfg.az.length vc)):=λV hV=>by
   have:=cX hV hrow;exact⟨by simp[aL,this,dG],by simp[aL,this,dG],by simp[aL,this,dG],by simp[aL,this,dG],by simp[aL,this,dG]⟩
  obtain⟨r0,r1,r2,r3,r4⟩:=gK.o wr (aC _ _);have Lc:ag _:=aeh _ va vc wr HV.o.FB.az qg;clear SC hrow qg m0 m1 m2 h2;obtain⟨code,bM⟩:∃x:Int,x=((dJ st.cfg).1:Int):=⟨_,rfl⟩;obtain⟨place,Ld⟩:∃x:Int,x=(dJ st.cfg).2:=⟨_,rfl⟩;rw[<- bM,<- Ld]at Lc;have DC:ag (code=((dJ st.cfg).1:Int)/\place=(dJ st.cfg).2):=⟨bM,Ld⟩;clear bM Ld;go_wp2_with fail
  refine bw Lc.o ?_;rintro v w6 ⟨rfl,jX⟩;have qp:ag _:=jX;clear jX Lc r0 r1 r2 r3 r4 r5 a1 a2 a3 b1 b2 d1 d2;go_upto_region 18 with fail
  obtain⟨V,hV⟩:∃V,V=w6.alloc (ay #[af I code,af I place] 30):=⟨_,rfl⟩;rw[<- hV];obtain⟨fb,Le⟩:∃b,b=w6.heap.size:=⟨_,rfl⟩;rw[<- Le];have ni:ag (Below wr.heap.size wr V):=by show Below _ _ _;rw[hV];exact qp.o.alloc qp.o.size _
  have oW:V.heap[fb]?=U (ay #[af I code,af I place] 30 (0,0)):=by rw[hV,Le];exact dT w6 _
  have HW:ag (uv w W4.heap.size (ak va st.cfg.az.length vc) st.cfg.az #[af I 0,af I 0,af I 0,af I 0,ak J 0 0] #[af I 0,af I 0] V):=⟨cX ni.o (Dx.o wr HB.o),cX ni.o (Bg.o wr HB.o),(fh.o wr HB.o).trans (ni.o.mono (fh.o wr HB.o).size),HV.o.FB.below ni.o⟩;have afq:¬fb=w.heap.size:=by have:=cU (Dx.o wr HB.o);have:=qp.o.size;omega
  have afr:¬fb=w.heap.size+1:=by have:=cU (Bg.o wr HB.o);have:=qp.o.size;omega
  have afs:¬rb=w.heap.size:=Gs.o.1;have aft:¬rb=w.heap.size+1:=Gs.o.2;have ah2:¬w.heap.size=fb:=λh=>afq h.symm
  have ah3:¬w.heap.size+1=fb:=λh=>afr h.symm
  have ah4:¬w.heap.size=rb:=λh=>afs h.symm
  have ah5:¬w.heap.size+1=rb:=λh=>aft h.symm
  have t0:V.cell? (ar fb 0 J)=U (af I code):=by simp[aL,oW]
  have t1:V.cell? (ar fb 1 J)=U (af I place):=by simp[aL,oW]
  have q0:V.cell? (ar w.heap.size 0 J)=U (af I 0):=by have:=HW.o.c;simp[aL,this]
  have ah6:V.frozen? (ar w.heap.size 0 J)=false:=by have:=HW.o.c;simp[bE,this]
  have q1:V.cell? (ar w.heap.size 1 J)=U (af I 0):=by have:=HW.o.c;simp[aL,this]
  have ah7:V.frozen? (ar w.heap.size 1 J)=false:=by have:=HW.o.c;simp[bE,this]
  have q2:V.cell? (ar w.heap.size 2 J)=U (af I 0):=by have:=HW.o.c;simp[aL,this]
  have ah8:V.frozen? (ar w.heap.size 2 J)=false:=by have:=HW.o.c;simp[bE,this]
  have q3:V.cell? (ar w.heap.size 3 J)=U (af I 0):=by have:=HW.o.c;simp[aL,this]
  have ah9:V.frozen? (ar w.heap.size 3 J)=false:=by have:=HW.o.c;simp[bE,this]
  have q4:V.cell? (ar w.heap.size 4 J)=U (ak J 0 0):=by have:=HW.o.c;simp[aL,this]
  have ah_:V.frozen? (ar w.heap.size 4 J)=false:=by have:=HW.o.c;simp[bE,this]
  have p0:V.cell? ⟨w.heap.size+1,0,J⟩=U (af I 0):=by have:=HW.o.f;simp[aL,this]
  have p1:V.cell? ⟨w.heap.size+1,1,J⟩=U (af I 0):=by have:=HW.o.f;simp[aL,this]
  have ah':V.frozen? ⟨w.heap.size+1,0,J⟩=false:=by have:=HW.o.f;simp[bE,this]
  have aia:V.frozen? ⟨w.heap.size+1,1,J⟩=false:=by have:=HW.o.f;simp[bE,this]
  obtain⟨r0,r1,r2,r3,r4⟩:=gK.o V ni.o;clear hV Le oW
  by_cases h0:(dJ st.cfg).1=0
  ·have Bi:ag (gf aT (bl s)=((0,-1),st.cfg)):=by show _=_;rw[za.o,HE.o,aU rfl,aU h0]
   have g0:¬(0:Int)<code:=by have:=DC.o.1;omega
   have fO:ag (code=0):=by show _=_;have:=DC.o.1;omega
   clear h0;go_wp2_with fail
   go_region
   all_goals
    go_wp2_with fail
    have hz:=((((((((HW.o.uw 0 (af I st.cfg.closed)).uw 1 (af I st.cfg.opn)).uw 2 (af I st.cfg.cycle)).uw 3 (af I st.cfg.bO)).uw 4 (ak va st.cfg.az.length vc)).Gq 0 (af I code)).Gq 1 (af I place)).drew)
    refine gp (Be rfl _ _ w.heap.size (w.heap.size+1) _ _ _ _ _ _ _ rfl rfl hz.c hz.f) rfl ?_;exact⟨_,_,_,_,rfl,hz.gV,by rw[Bi.o],by rw[Bi.o];exact fO.o,λh=>absurd fO.o h,_,hz.own⟩
  have Bi:ag (gf aT (bl s)=(dJ st.cfg,bT)):=by show _=_;rw[za.o,HE.o,aU rfl,aF h0]
  have g0:(0:Int)<code:=by have:=DC.o.1;omega
  clear h0;go_wp2_with fail
  go_region
  all_goals
   go_wp2_with fail
   have hz:=((((((((HW.o.uw 0 (af I 0)).uw 1 (af I 0)).uw 2 (af I 0)).uw 3 (af I 0)).uw 4 (ak J 0 0)).Gq 0 (af I code)).Gq 1 (af I place)).drew)
   refine gp (Be rfl _ _ w.heap.size (w.heap.size+1) _ _ _ _ _ _ _ rfl rfl hz.c hz.f) rfl ?_;exact⟨_,_,code,place,rfl,hz.gV,by rw[Bi.o],by rw[Bi.o];exact DC.o.1,λ_=>by rw[Bi.o];exact DC.o.2,0,gG.nil _ _⟩
def SD(l:List Int)(sa sb:Option av)(ca cb:Nat)(w:ah)(ha:bY bc 1 w (ak sa l.length ca) l)(hb:bY bc 1 w (ak sb l.length cb) l)(hn:l.length<=1000000):Calls prog 39 #[ak sa l.length ca,ak sb l.length cb] w λe w'=>e=aH (aJ true)/\Below w.heap.size w w':=by
 have HA:ag (bY bc 1 w (ak sa l.length ca) l):=ha;have HB:ag (bY bc 1 w (ak sb l.length cb) l):=hb;clear ha hb;go_enter func39,ntmps39
 go_wp2_with fail
 go_loopw [5] (λi wr=>∃k:Nat,k<=l.length/\i=af I k/\Below w.heap.size w wr) (λi _=>l.length-(intOf i).toNat)
 case atStart=>exact⟨0,cG _,rfl,aC _ _⟩
 case round=>
  obtain⟨k,hk,rfl,hbr⟩:=hrel;have HR:ag (Below w.heap.size w wr):=hbr;clear hbr
  by_cases hlt:k<l.length
  ·have k1:(k:Int)<(l.length:Int):=by omega
   obtain⟨x,hx⟩:∃x,l[k]?=U x:=⟨_,bL hlt⟩;obtain⟨g,o,rfl,hc⟩:=Dh (HA.o.below HR.o) hx;have c0:=hc k x hx;obtain⟨g2,o2,rfl,hc2⟩:=Dh (HB.o.below HR.o) hx;have c1:=hc2 k x hx;clear hc hc2 hx;go_wp2_with fail
   go_quiet (fail)
   go_wp2
   go_roundw
   case rel=>exact⟨k+1,by omega,by go_num,cB HR.o _⟩
   case measure=>simp[intOf];omega
  have k1:¬(k:Int)<(l.length:Int):=by omega
  go_wp2;go_ret;exact⟨rfl,HR.o⟩
def afu(l:List ByteArray)(sa sb:Option av)(ca cb:Nat)(w:ah)(ha:bY gg 1 w (ak sa l.length ca) l)(hb:bY gg 1 w (ak sb l.length cb) l)(hn:l.length<=1000000):Calls prog 38 #[ak sa l.length ca,ak sb l.length cb] w λe w'=>e=aH (aJ true)/\Below w.heap.size w w':=by
 have HA:ag (bY _ 1 w _ l):=ha;have HB:ag (bY _ 1 w _ l):=hb;go_enter func38,ntmps38
 go_wp2_with fail
 go_loopw [5] (λi wr=>∃k:Nat,k<=l.length/\i=af I k/\Below w.heap.size w wr) (λi _=>l.length-(intOf i).toNat)
 case atStart=>exact⟨0,cG _,rfl,aC _ _⟩
 case round=>
  obtain⟨k,hk,rfl,(hbr:ag _)⟩:=hrel
  by_cases hlt:k<l.length
  ·have k1:(k:Int)<(l.length:Int):=by omega
   obtain⟨x,hx⟩:∃x,l[k]?=U x:=⟨_,bL hlt⟩;obtain⟨g,o,rfl,hc⟩:=F9 (HA.below hbr) hx;have c0:=hc k x hx;obtain⟨g2,o2,rfl,hc2⟩:=F9 (HB.below hbr) hx;have c1:=hc2 k x hx;go_wp2_with fail
   go_quiet (fail)
   go_wp2
   go_roundw
   case rel=>exact⟨k+1,by omega,by go_num,cB hbr _⟩
   case measure=>simp[intOf];omega
  have k1:¬(k:Int)<(l.length:Int):=by omega
  go_wp2;go_ret;exact⟨rfl,hbr⟩
def afv(e:aG)(pa ga ea fa la pb gb eb fb lb:Option av)(pc gc ec fc lc pd gd ed fd ld:Nat)(w:ah)(hA:lO w e (ak pa e.au.length pc) (ak ga e.aP.length gc) (ak ea e.aN.length ec) (ak fa e.first.length fc) (ak la e.last.length lc))(hB:lO w e (ak pb e.au.length pd) (ak gb e.aP.length gd) (ak eb e.aN.length ed) (ak fb e.first.length fd) (ak lb e.last.length ld))(hS:rB e):Calls prog 20 #[a_ #[aB e.name,af I e.aW,ak pa e.au.length pc,af I e.cnt,af I e.mn,af I e.mx,ak ga e.aP.length gc,ak ea e.aN.length ec,ak fa e.first.length fc,ak la e.last.length lc],a_ #[aB e.name,af I e.aW,ak pb e.au.length pd,af I e.cnt,af I e.mn,af I e.mx,ak gb e.aP.length gd,ak eb e.aN.length ed,ak fb e.first.length fd,ak lb e.last.length ld]] w λv w'=>v=aH (aJ true)/\Below w.heap.size w w':=by
 obtain⟨W,hW⟩:∃V,V=(w.alloc (ay #[aB e.name,af I e.aW,ak pa e.au.length pc,af I e.cnt,af I e.mn,af I e.mx,ak ga e.aP.length gc,ak ea e.aN.length ec,ak fa e.first.length fc,ak la e.last.length lc] 60)).alloc (ay #[aB e.name,af I e.aW,ak pb e.au.length pd,af I e.cnt,af I e.mn,af I e.mx,ak gb e.aP.length gd,ak eb e.aN.length ed,ak fb e.first.length fd,ak lb e.last.length ld] 60):=⟨_,rfl⟩;have ju:ag (Below w.heap.size w W):=by show Below _ _ _;rw[hW];exact(bt _ _).alloc (by simp) _
 have HF:ag (∀V,Below W.heap.size W V->Below w.heap.size w V):=λV hV=>ju.o.trans (hV.mono ju.o.size)
 have HX:ag (∀V,Below W.heap.size W V->∀(j:Nat) u,(#[aB e.name,af I e.aW,ak pa e.au.length pc,af I e.cnt,af I e.mn,af I e.mx,ak ga e.aP.length gc,ak ea e.aN.length ec,ak fa e.first.length fc,ak la e.last.length lc]:Array aj)[j]?=U u->V.cell? (ar w.heap.size j J)=U u):=λV hV j u hu=>by
  have:=cX hV (show W.heap[w.heap.size]?=_ by rw[hW];exact cX (bt _ _) (dT w _));simp[aL,this,hu]
 have HY:ag (∀V,Below W.heap.size W V->∀(j:Nat) u,(#[aB e.name,af I e.aW,ak pb e.au.length pd,af I e.cnt,af I e.mn,af I e.mx,ak gb e.aP.length gd,ak eb e.aN.length ed,ak fb e.first.length fd,ak lb e.last.length ld]:Array aj)[j]?=U u->V.cell? ⟨w.heap.size+1,j,J⟩=U u):=λV hV j u hu=>by
  have:=cX hV (show W.heap[w.heap.size+1]?=U (ay #[aB e.name,af I e.aW,ak pb e.au.length pd,af I e.cnt,af I e.mn,af I e.mx,ak gb e.aP.length gd,ak eb e.aN.length ed,ak fb e.first.length fd,ak lb e.last.length ld] 60 (0,0)) by rw[hW];have:=dT (w.alloc (ay #[aB e.name,af I e.aW,ak pa e.au.length pc,af I e.cnt,af I e.mn,af I e.mx,ak ga e.aP.length gc,ak ea e.aN.length ec,ak fa e.first.length fc,ak la e.last.length lc] 60)) (ay #[aB e.name,af I e.aW,ak pb e.au.length pd,af I e.cnt,af I e.mn,af I e.mx,ak gb e.aP.length gd,ak eb e.aN.length ed,ak fb e.first.length fd,ak lb e.last.length ld] 60);simpa using this);simp[aL,this,hu]
 have HA:ag (∀V,Below W.heap.size W V->lO V e (ak pa e.au.length pc) (ak ga e.aP.length gc) (ak ea e.aN.length ec) (ak fa e.first.length fc) (ak la e.last.length lc)):=λV hV=>hA.below (HF.o V hV)
 have HB:ag (∀V,Below W.heap.size W V->lO V e (ak pb e.au.length pd) (ak gb e.aP.length gd) (ak eb e.aN.length ed) (ak fb e.first.length fd) (ak lb e.last.length ld)):=λV hV=>hB.below (HF.o V hV)
 have HS:ag (rB e):=hS;clear hA hB hS;have x0:=HX.o W (aC _ _) 0 _ rfl;have y0:=HY.o W (aC _ _) 0 _ rfl;have x1:=HX.o W (aC _ _) 1 _ rfl;have y1:=HY.o W (aC _ _) 1 _ rfl;have x2:=HX.o W (aC _ _) 2 _ rfl;have y2:=HY.o W (aC _ _) 2 _ rfl;have x3:=HX.o W (aC _ _) 3 _ rfl;have y3:=HY.o W (aC _ _) 3 _ rfl;have x4:=HX.o W (aC _ _) 4 _ rfl;have y4:=HY.o W (aC _ _) 4 _ rfl;have x5:=HX.o W (aC _ _) 5 _ rfl;have y5:=HY.o W (aC _ _) 5 _ rfl;go_enter func20,ntmps20
 go_upto_region 1 with fail
 rw[<- hW];clear hW;go_upto_region 3 with fail
 clear x0 x1 x3 x4 x5 y0 y1 y3 y4 y5;go_wp2_with fail
 apply(afu e.au pa pb pc pd W (HA.o W (aC _ _)).hp (HB.o W (aC _ _)).hp HS.o.hp).mono;rintro v w1 ⟨rfl,hb1⟩;have aS:ag (Below W.heap.size W w1):=hb1;clear hb1 x2 y2;have x8:=HX.o w1 aS.o 8 _ rfl;have y8:=HY.o w1 aS.o 8 _ rfl;go_wp2_with fail
 apply(SD e.first fa fb fc fd w1 (HA.o w1 aS.o).hf (HB.o w1 aS.o).hf HS.o.hf).mono;rintro v w2 ⟨rfl,hb2⟩;have aO:ag (Below W.heap.size W w2):=aS.o.trans (hb2.mono aS.o.size);clear hb2 x8 y8;have x9:=HX.o w2 aO.o 9 _ rfl;have y9:=HY.o w2 aO.o 9 _ rfl;go_wp2_with fail
 apply(SD e.last la lb lc ld w2 (HA.o w2 aO.o).hl (HB.o w2 aO.o).hl HS.o.hl).mono;rintro v w3 ⟨rfl,hb3⟩;have mX:ag (Below W.heap.size W w3):=aO.o.trans (hb3.mono aO.o.size);clear hb3 x9 y9;have x6:=HX.o w3 mX.o 6 _ rfl;have y6:=HY.o w3 mX.o 6 _ rfl;have x7:=HX.o w3 mX.o 7 _ rfl;have y7:=HY.o w3 mX.o 7 _ rfl;go_upto_region 5 with fail
 clear x6 y6 x7 y7
 go_cut [5] (λi wv=>i=af I 0/\wv=w3)
 case first=>
  go_wp2
  go_meet
  case rel=>exact⟨rfl,rfl⟩
 obtain⟨rfl,rfl⟩:=hcut;rename ah=>w3
 go_wp2_with fail
 go_loopw [5] (λi wr=>∃k:Nat,k<=e.aP.length/\i=af I k/\Below W.heap.size W wr) (λi _=>e.aP.length-(intOf i).toNat)
 case atStart=>exact⟨0,cG _,rfl,mX.o⟩
 case round=>
  clear mX;obtain⟨k,hk,rfl,hbr⟩:=hrel;have HR:ag (Below W.heap.size W wr):=hbr;clear hbr;have x6:=HX.o wr HR.o 6 _ rfl;have y6:=HY.o wr HR.o 6 _ rfl
  by_cases hlt:k<e.aP.length
  ·have k1:(k:Int)<(e.aP.length:Int):=by omega
   have k2:k<1000000:=by have:=HS.o.hg;omega
   obtain⟨q,hq⟩:∃q,e.aP[k]?=U q:=⟨_,bL hlt⟩;obtain⟨fw,cap',fL,-,hcc⟩:=(HA.o wr HR.o).hg
   cases fL
   obtain⟨g,o,rfl,hc0⟩:=hcc (λh=>by rw[h]at hq;simp at hq);obtain⟨fw,cap',fL,-,hdd⟩:=(HB.o wr HR.o).hg
   cases fL
   obtain⟨g2,o2,rfl,dP⟩:=hdd (λh=>by rw[h]at hq;simp at hq);have c0:wr.cell? ⟨g,o+k*4,J⟩=U (af I q.fr):=hc0 k _ hq 0 _ rfl;have c1:wr.cell? ⟨g,o+k*4+1,J⟩=U (af I q.to):=hc0 k _ hq 1 _ rfl;have c2:wr.cell? ⟨g,o+k*4+2,J⟩=U (af I q.mn):=hc0 k _ hq 2 _ rfl;have c3:wr.cell? ⟨g,o+k*4+3,J⟩=U (af I q.mx):=hc0 k _ hq 3 _ rfl;have d0:wr.cell? ⟨g2,o2+k*4,J⟩=U (af I q.fr):=dP k _ hq 0 _ rfl;have d1:wr.cell? ⟨g2,o2+k*4+1,J⟩=U (af I q.to):=dP k _ hq 1 _ rfl;have d2:wr.cell? ⟨g2,o2+k*4+2,J⟩=U (af I q.mn):=dP k _ hq 2 _ rfl;have d3:wr.cell? ⟨g2,o2+k*4+3,J⟩=U (af I q.mx):=dP k _ hq 3 _ rfl;clear hcc hc0 hdd dP hq;go_wp2_with fail
   go_quiet (fail)
   go_wp2
   go_roundw
   case rel=>exact⟨k+1,by omega,by go_num,cB HR.o _⟩
   case measure=>simp[intOf];omega
  have k1:¬(k:Int)<(e.aP.length:Int):=by omega
  go_upto_region 10 with fail
  clear x6 y6 k1 hlt hk
  go_cut [6] (λi wv=>i=af I 0/\wv=wr)
  case first=>
   go_wp2
   go_meet
   case rel=>exact⟨rfl,rfl⟩
  obtain⟨rfl,rfl⟩:=hcut;rename ah=>wr
  go_wp2_with fail
  go_loopw [6] (λi wr=>∃k:Nat,k<=e.aN.length/\i=af I k/\Below W.heap.size W wr) (λi _=>e.aN.length-(intOf i).toNat)
  case atStart=>exact⟨0,cG _,rfl,HR.o⟩
  case round=>
   clear HR;obtain⟨k,hk,rfl,hbr⟩:=hrel;rename ah=>wr
   have HR:ag (Below W.heap.size W wr):=hbr;clear hbr;have x7:=HX.o wr HR.o 7 _ rfl;have y7:=HY.o wr HR.o 7 _ rfl
   by_cases hlt:k<e.aN.length
   ·have k1:(k:Int)<(e.aN.length:Int):=by omega
    have k2:k<1000000:=by have:=HS.o.he;omega
    obtain⟨q,hq⟩:∃q,e.aN[k]?=U q:=⟨_,bL hlt⟩;obtain⟨fw,cap',fL,-,hcc⟩:=(HA.o wr HR.o).he
    cases fL
    obtain⟨g,o,rfl,hc0⟩:=hcc (λh=>by rw[h]at hq;simp at hq);obtain⟨fw,cap',fL,-,hdd⟩:=(HB.o wr HR.o).he
    cases fL
    obtain⟨g2,o2,rfl,dP⟩:=hdd (λh=>by rw[h]at hq;simp at hq);have c0:wr.cell? ⟨g,o+k*2,J⟩=U (af I q.1):=hc0 k _ hq 0 _ rfl;have c1:wr.cell? ⟨g,o+k*2+1,J⟩=U (af I q.2):=hc0 k _ hq 1 _ rfl;have d0:wr.cell? ⟨g2,o2+k*2,J⟩=U (af I q.1):=dP k _ hq 0 _ rfl;have d1:wr.cell? ⟨g2,o2+k*2+1,J⟩=U (af I q.2):=dP k _ hq 1 _ rfl;have KY:∀w,(binOp .neq 86 (a_ #[af I q.1,af I q.2]) (a_ #[af I q.1,af I q.2])).run prog w=.ok (aJ false) w:=λw=>by rw[U8];simp
    have KZ:=BN;clear hcc hc0 hdd dP hq;go_wp2_with fail
    go_quiet (fail)
    go_wp2
    go_roundw
    case rel=>exact⟨k+1,by omega,by go_num,cB HR.o _⟩
    case measure=>simp[intOf];omega
   have k1:¬(k:Int)<(e.aN.length:Int):=by omega
   go_wp2;go_ret;exact⟨rfl,HF.o _ HR.o⟩
def afw(c:aV)(sa sb:Option av)(ca cb:Nat)(w:ah)(hA:iJ w (ak sa c.az.length ca) c.az)(hB:iJ w (ak sb c.az.length cb) c.az)(hS:jB c):Calls prog 9 #[a_ #[af I c.closed,af I c.opn,af I c.cycle,af I c.bO,ak sa c.az.length ca],a_ #[af I c.closed,af I c.opn,af I c.cycle,af I c.bO,ak sb c.az.length cb]] w λv w'=>v=aH (aJ true)/\Below w.heap.size w w':=by
 obtain⟨W,hW⟩:∃V,V=(w.alloc (ay #[af I c.closed,af I c.opn,af I c.cycle,af I c.bO,ak sa c.az.length ca] 34)).alloc (ay #[af I c.closed,af I c.opn,af I c.cycle,af I c.bO,ak sb c.az.length cb] 34):=⟨_,rfl⟩;have ju:ag (Below w.heap.size w W):=by show Below _ _ _;rw[hW];exact(bt _ _).alloc (by simp) _
 have HF:ag (∀V,Below W.heap.size W V->Below w.heap.size w V):=λV hV=>ju.o.trans (hV.mono ju.o.size)
 have HX:ag (∀V,Below W.heap.size W V->∀(j:Nat) u,(#[af I c.closed,af I c.opn,af I c.cycle,af I c.bO,ak sa c.az.length ca]:Array aj)[j]?=U u->V.cell? (ar w.heap.size j J)=U u):=λV hV j u hu=>by
  have:=cX hV (show W.heap[w.heap.size]?=_ by rw[hW];exact cX (bt _ _) (dT w _));simp[aL,this,hu]
 have HY:ag (∀V,Below W.heap.size W V->∀(j:Nat) u,(#[af I c.closed,af I c.opn,af I c.cycle,af I c.bO,ak sb c.az.length cb]:Array aj)[j]?=U u->V.cell? ⟨w.heap.size+1,j,J⟩=U u):=λV hV j u hu=>by
  have:=cX hV (show W.heap[w.heap.size+1]?=U (ay #[af I c.closed,af I c.opn,af I c.cycle,af I c.bO,ak sb c.az.length cb] 34 (0,0)) by rw[hW];have:=dT (w.alloc (ay #[af I c.closed,af I c.opn,af I c.cycle,af I c.bO,ak sa c.az.length ca] 34)) (ay #[af I c.closed,af I c.opn,af I c.cycle,af I c.bO,ak sb c.az.length cb] 34);simpa using this);simp[aL,this,hu]
 have HA:ag (∀V,Below W.heap.size W V->iJ V (ak sa c.az.length ca) c.az):=λV hV=>hA.below (HF.o V hV)
 have HB:ag (∀V,Below W.heap.size W V->iJ V (ak sb c.az.length cb) c.az):=λV hV=>hB.below (HF.o V hV)
 have HS:ag (jB c):=hS;clear hA hB hS;have x0:=HX.o W (aC _ _) 0 _ rfl;have y0:=HY.o W (aC _ _) 0 _ rfl;have x1:=HX.o W (aC _ _) 1 _ rfl;have y1:=HY.o W (aC _ _) 1 _ rfl;have x2:=HX.o W (aC _ _) 2 _ rfl;have y2:=HY.o W (aC _ _) 2 _ rfl;have x3:=HX.o W (aC _ _) 3 _ rfl;have y3:=HY.o W (aC _ _) 3 _ rfl;have x4:=HX.o W (aC _ _) 4 _ rfl;have y4:=HY.o W (aC _ _) 4 _ rfl;go_enter func9,ntmps9
 go_upto_region 1 with fail
 rw[<- hW];clear hW;go_upto_region 3 with fail
 clear x0 x1 x2 x3 x4 y0 y1 y2 y3 y4
 go_cut [5] (λi wv=>i=af I 0/\wv=W)
 case first=>
  go_wp2
  go_meet
  case rel=>exact⟨rfl,rfl⟩
 obtain⟨rfl,rfl⟩:=hcut;rename ah=>W
 go_wp2_with fail
 go_loopw [5,6] (λi _ wr=>∃k:Nat,k<=c.az.length/\i=af I k/\Below W.heap.size W wr) (λi _ _=>c.az.length-(intOf i).toNat)
 case atStart=>exact⟨0,cG _,rfl,aC _ _⟩
 case round=>
  obtain⟨k,hk,rfl,hbr⟩:=hrel;have HR:ag (Below W.heap.size W wr):=hbr;clear hbr
  by_cases hlt:k<c.az.length
  ·have k1:(k:Int)<(c.az.length:Int):=by omega
   have k2:k<1000000:=by have:=HS.o.hn;omega
   obtain⟨e,he⟩:∃e,c.az[k]?=U e:=⟨_,bL hlt⟩;have afx:ag (rB e):=HS.o.he e (fQ he);obtain⟨fw,cap',fL,hcc⟩:=HA.o wr HR.o
   cases fL
   obtain⟨g,o,rfl,hc0⟩:=hcc (λh=>by rw[h]at he;simp at he);obtain⟨pv,gv,ev,fv,lv,hP,hcell⟩:=hc0 k e he;obtain⟨pa,pc,rfl,-⟩:=id hP.hp;obtain⟨ga,gc,rfl,-⟩:=id hP.hg;obtain⟨ea,ec,rfl,-⟩:=id hP.he;obtain⟨fa,fc,rfl,-⟩:=id hP.hf;obtain⟨la,lc,rfl,-⟩:=id hP.hl;obtain⟨fw,cap',fL,hdd⟩:=HB.o wr HR.o
   cases fL
   obtain⟨g2,o2,rfl,dP⟩:=hdd (λh=>by rw[h]at he;simp at he);obtain⟨pv,gv,ev,fv,lv,hQ,sK⟩:=dP k e he;obtain⟨pb,pd,rfl,-⟩:=id hQ.hp;obtain⟨gb,gd,rfl,-⟩:=id hQ.hg;obtain⟨eb,ed,rfl,-⟩:=id hQ.he;obtain⟨fb,fd,rfl,-⟩:=id hQ.hf;obtain⟨lb,ld,rfl,-⟩:=id hQ.hl;have HK:ag (∀V,Below wr.heap.size wr V->V.cell? (ar w.heap.size 4 J)=U (ak (U (ar g o J)) c.az.length ca)/\V.cell? ⟨w.heap.size+1,4,J⟩=U (ak (U (ar g2 o2 J)) c.az.length cb)/\V.cell? ⟨g,o+k*10,J⟩=U (aB e.name)/\V.cell? ⟨g,o+k*10+1,J⟩=U (af I e.aW)/\V.cell? ⟨g,o+k*10+2,J⟩=U (ak pa e.au.length pc)/\V.cell? ⟨g,o+k*10+3,J⟩=U (af I e.cnt)/\V.cell? ⟨g,o+k*10+4,J⟩=U (af I e.mn)/\V.cell? ⟨g,o+k*10+5,J⟩=U (af I e.mx)/\V.cell? ⟨g,o+k*10+6,J⟩=U (ak ga e.aP.length gc)/\V.cell? ⟨g,o+k*10+7,J⟩=U (ak ea e.aN.length ec)/\V.cell? ⟨g,o+k*10+8,J⟩=U (ak fa e.first.length fc)/\V.cell? ⟨g,o+k*10+9,J⟩=U (ak la e.last.length lc)/\V.cell? ⟨g2,o2+k*10,J⟩=U (aB e.name)/\V.cell? ⟨g2,o2+k*10+1,J⟩=U (af I e.aW)/\V.cell? ⟨g2,o2+k*10+2,J⟩=U (ak pb e.au.length pd)/\V.cell? ⟨g2,o2+k*10+3,J⟩=U (af I e.cnt)/\V.cell? ⟨g2,o2+k*10+4,J⟩=U (af I e.mn)/\V.cell? ⟨g2,o2+k*10+5,J⟩=U (af I e.mx)/\V.cell? ⟨g2,o2+k*10+6,J⟩=U (ak gb e.aP.length gd)/\V.cell? ⟨g2,o2+k*10+7,J⟩=U (ak eb e.aN.length ed)/\V.cell? ⟨g2,o2+k*10+8,J⟩=U (ak fb e.first.length fd)/\V.cell? ⟨g2,o2+k*10+9,J⟩=U (ak lb e.last.length ld)):=λV hV=>by
    have b1:=HR.o.trans (hV.mono HR.o.size);exact⟨HX.o V b1 4 _ rfl,HY.o V b1 4 _ rfl,aA hV (by have:=hcell 0 (aB e.name) rfl;simpa using this),aA hV (by have:=hcell 1 (af I e.aW) rfl;simpa using this),aA hV (by have:=hcell 2 (ak pa e.au.length pc) rfl;simpa using this),aA hV (by have:=hcell 3 (af I e.cnt) rfl;simpa using this),aA hV (by have:=hcell 4 (af I e.mn) rfl;simpa using this),aA hV (by have:=hcell 5 (af I e.mx) rfl;simpa using this),aA hV (by have:=hcell 6 (ak ga e.aP.length gc) rfl;simpa using this),aA hV (by have:=hcell 7 (ak ea e.aN.length ec) rfl;simpa using this),aA hV (by have:=hcell 8 (ak fa e.first.length fc) rfl;simpa using this),aA hV (by have:=hcell 9 (ak la e.last.length lc) rfl;simpa using this),aA hV (by have:=sK 0 (aB e.name) rfl;simpa using this),aA hV (by have:=sK 1 (af I e.aW) rfl;simpa using this),aA hV (by have:=sK 2 (ak pb e.au.length pd) rfl;simpa using this),aA hV (by have:=sK 3 (af I e.cnt) rfl;simpa using this),aA hV (by have:=sK 4 (af I e.mn) rfl;simpa using this),aA hV (by have:=sK 5 (af I e.mx) rfl;simpa using this),aA hV (by have:=sK 6 (ak gb e.aP.length gd) rfl;simpa using this),aA hV (by have:=sK 7 (ak eb e.aN.length ed) rfl;simpa using this),aA hV (by have:=sK 8 (ak fb e.first.length fd) rfl;simpa using this),aA hV (by have:=sK 9 (ak lb e.last.length ld) rfl;simpa using this)⟩
   have df:=HK.o wr (aC _ _);have HC:ag (∀n,Calls prog 20 #[a_ #[aB e.name,af I e.aW,ak pa e.au.length pc,af I e.cnt,af I e.mn,af I e.mx,ak ga e.aP.length gc,ak ea e.aN.length ec,ak fa e.first.length fc,ak la e.last.length lc],a_ #[aB e.name,af I e.aW,ak pb e.au.length pd,af I e.cnt,af I e.mn,af I e.mx,ak gb e.aP.length gd,ak eb e.aN.length ed,ak fb e.first.length fd,ak lb e.last.length ld]] (wr.drewN n) λv w'=>v=aH (aJ true)/\Below wr.heap.size wr w'):=λn=>by
    refine(afv e pa ga ea fa la pb gb eb fb lb pc gc ec fc lc pd gd ed fd ld (wr.drewN n) (hP.below (cB (aC _ _) n)) (hQ.below (cB (aC _ _) n)) afx.o).mono λv w' h=>⟨h.1,(cB (aC _ _) n).trans h.2⟩
   clear hP hQ hcell sK hc0 dP hcc hdd he;obtain⟨s0,s1,s2,s3,s4,s5,s6,s7,s8,s9,SE,SF,s12,SG,SH,SI,SJ,SK,SL,SN,SP,SQ⟩:=df;go_wp2_with fail
   go_region_held3 (λw'=>w'.cell? (ar w.heap.size 4 J)=U (ak (U (ar g o J)) c.az.length ca)/\w'.cell? ⟨w.heap.size+1,4,J⟩=U (ak (U (ar g2 o2 J)) c.az.length cb)/\w'.cell? ⟨g,o+k*10,J⟩=U (aB e.name)/\w'.cell? ⟨g,o+k*10+1,J⟩=U (af I e.aW)/\w'.cell? ⟨g,o+k*10+2,J⟩=U (ak pa e.au.length pc)/\w'.cell? ⟨g,o+k*10+3,J⟩=U (af I e.cnt)/\w'.cell? ⟨g,o+k*10+4,J⟩=U (af I e.mn)/\w'.cell? ⟨g,o+k*10+5,J⟩=U (af I e.mx)/\w'.cell? ⟨g,o+k*10+6,J⟩=U (ak ga e.aP.length gc)/\w'.cell? ⟨g,o+k*10+7,J⟩=U (ak ea e.aN.length ec)/\w'.cell? ⟨g,o+k*10+8,J⟩=U (ak fa e.first.length fc)/\w'.cell? ⟨g,o+k*10+9,J⟩=U (ak la e.last.length lc)/\w'.cell? ⟨g2,o2+k*10,J⟩=U (aB e.name)/\w'.cell? ⟨g2,o2+k*10+1,J⟩=U (af I e.aW)/\w'.cell? ⟨g2,o2+k*10+2,J⟩=U (ak pb e.au.length pd)/\w'.cell? ⟨g2,o2+k*10+3,J⟩=U (af I e.cnt)/\w'.cell? ⟨g2,o2+k*10+4,J⟩=U (af I e.mn)/\w'.cell? ⟨g2,o2+k*10+5,J⟩=U (af I e.mx)/\w'.cell? ⟨g2,o2+k*10+6,J⟩=U (ak gb e.aP.length gd)/\w'.cell? ⟨g2,o2+k*10+7,J⟩=U (ak eb e.aN.length ed)/\w'.cell? ⟨g2,o2+k*10+8,J⟩=U (ak fb e.first.length fd)/\w'.cell? ⟨g2,o2+k*10+9,J⟩=U (ak lb e.last.length ld)) (first|exact⟨s0,s1,s2,s3,s4,s5,s6,s7,s8,s9,SE,SF,s12,SG,SH,SI,SJ,SK,SL,SN,SP,SQ⟩|exact HK.o _ hb2) (first|(go_at_call 20;refine bw (HC.o _) ?_;rintro v w2 ⟨rfl,hb2⟩))
   all_goals
    have aO:ag (Below W.heap.size W w2):=HR.o.trans (hb2.mono HR.o.size);clear hb2 s0 s1 s2 s3 s4 s5 s6 s7 s8 s9 SE SF s12 SG SH SI SJ SK SL SN SP SQ;go_wp2
    go_roundw
    case rel=>exact⟨k+1,by omega,by go_num,aO.o⟩
    case measure=>simp[intOf];omega
  have k1:¬(k:Int)<(c.az.length:Int):=by omega
  have x4:=HX.o wr HR.o 4 _ rfl;go_wp2;go_ret;exact⟨rfl,HF.o _ HR.o⟩
open Go Go.Conc Go.Conc.Lib Go.ConcX.Gen
open Go.ConcN (sumTo)
def Sd.afy(s:Sd)(m:Int)(v e:aj)(w:ah):Prop:=(fe m s.n=0/\s.Told (aX #[v,e]) w)\/(fe m s.n≠0/\v=ak J 0 0/\e=bF s.A (fe m s.n))
structure Sd.Fin(s:Sd)(m:Int)(v e:aj)(F SB:Nat->Prop)(w:ah):Prop where
 kH:jP F s.gs s.ts (λf=>fH.contains f=true) 16 w
 no:∀b,F b->s.gs b=false/\s.ts b=false
 nF:∀b,F b->¬SB b
 rv:RV (s.kA F) v v
 re:RV (s.kA F) e e
 tell:∀w2:ah,(∀a:av,F a.block\/s.gs a.block=true->w2.cell? a=w.cell? a)->s.afy m v e w2
 kn:s.Kn w
 low:∀b,s.gs b=true\/s.ts b=true->b<w.heap.size/\¬SB b
 s12:∀g,g∈mh->s.gs g=true
 tA:∀i,i<11->s.ts (s.A i).block=true
 gl:∀x,qV.contains x=true->s.gs x=true\/s.ts x=true
def afz{A:Nat->av}{W:ah}(h:gZ A W)(k:∀b,b<W.heap.size->w'.heap[b]?=W.heap[b]?)(hs:W.heap.size<=w'.heap.size):gZ A w':=by
 have hb:Below W.heap.size W { w' with os:=W.os,tape:=W.tape,output:=W.output }:=⟨rfl,rfl,rfl,hs,k⟩;have s1:=h.below hb;exact⟨s1.c0,s1.c1,s1.c2,s1.c3,s1.c4,s1.c5,s1.c6,s1.c7,s1.c8,s1.c9,s1.c10,s1.et,s1.row,s1.ne⟩
section
variable {s:Sd}{m:Int}{v e:aj}{F SB:Nat->Prop}{w w':ah}
def Sd.Fin.on(h:s.Fin m v e F SB w)(k:∀b,b<w.heap.size->w'.heap[b]?=w.heap[b]?)(hs:w.heap.size<=w'.heap.size):s.Fin m v e F SB w':=by
 have lt:∀b,F b\/s.gs b=true\/s.ts b=true->b<w.heap.size:=λb hb=>hb.elim (λh'=>h.kH.lt h') λh'=>(h.low b h').1
 refine⟨h.kH.on λb hb=>k b (lt b (.inl hb)),h.no,h.nF,h.rv,h.re,λw2 k2=>h.tell w2 λa ha=>(k2 a ha).trans (jc (k _ (lt _ (ha.imp id .inl)))),⟨afz h.kn.eQ k hs,λb hb=>by rw[k b (lt b (.inr (.inl hb)))];exact h.kn.ro b hb,λb hb=>by rw[k b (lt b (.inr (.inr hb)))];exact h.kn.tk b hb,bH h.kn.g hs⟩,λb hb=>⟨dK (h.low b hb).1 hs,(h.low b hb).2⟩,h.s12,h.tA,h.gl⟩
def Sd.Fin.call(h:s.Fin m v e F SB w){O:Nat->Prop}(hO:jP O s.gs s.ts (λf=>fH.contains f=true) 16 w)(hno:∀b,O b->s.gs b=false/\s.ts b=false)(afA:∀b,O b->¬SB b){R:aj->ah->Prop}{gs:Array Goroutine}{t:Trace}{q:Nat->Nat}{sl:Option (Nat×Nat)}{b:Frame}{a:Act}{kk:List Item}{cs:List Frame}{ops:Array Oper}{i:Nat}{rest:List Nat}{o:Oper}{f:FuncId}{xs:Array aj}
  (hf:fH.contains f=true) (hb:∃fn c,prog.funcs[f]?=U fn/\fn.body=U c) (hl:RL (s.kA O) xs xs)
  (hC:∀τ,Calls prog f xs (s.gh w τ) λe v'=>∃y,e=aH y/\R y v'/\Below (s.gh w τ).heap.size (s.gh w τ) v')
  (ho:ops[i]?=U o) (hw:Region.wanted o (yielded ops a.tmps)=true) (hk:b.kind≠.early) (hr:∀w₁,AtRel w w₁->(execOp a.eval o).run prog w₁=.ok (.enter f xs) w₁/\(execOp a.eval o).events prog w₁ #[]=#[])
  (hB:BS prog SB gs (G (b.at a (.inRegion ops (i::rest)::kk)) cs) w t q):∃M cg w' sl' t' q' β' y y' V,runNT prog M (crowd gs w sl) t=(.next (crowd cg w' sl'),t')/\BS prog SB cg (G (b.at (a.put o.dst y') (.inRegion ops rest::kk)) cs) w' t' q'/\R y V/\RV β' y y'/\RW β' V w'/\Fx (s.kA O) β' w w'/\(∀b,b<w.heap.size->w'.heap[b]?=w.heap[b]?)/\bG w w':=by
 have tI:Cx prog fH qV (s.kA O):=J9 rfl (by kernel_rfl) λx hx=>(h.gl x hx).elim (λh=>.inr (.inl ⟨rfl,h⟩)) λh=>.inr (.inr ⟨rfl,h⟩)
 obtain⟨M,cg,w',sl',t',q',β',y,y',V,r1,-,h2,h3,h4,h5,h6,h7⟩:=BS.adH (sl:=sl) (SB:=SB) (R:=R) tI rfl hf hb hl (h.kn.rw hO hno) hO hno (λτ=>(hC τ).mono λe v' ⟨y,e1,e2,e3⟩=>⟨y,e1,e2,λb hb=>e3.block b (by
  have:(s.gh w τ).heap.size=w.heap.size:=N7;omega)⟩) (λb hb=>hb.elim (afA b) λhb=>(h.low b (.inl hb)).2) ho hw hk hr hB
 exact⟨M,cg,w',sl',t',q',β',y,y',V,r1,h2,h3,h4,h5,h6,h7,h6.os,h6.output,h6.tape,h6.size⟩
def SR:jP (λ_=>False) s.gs s.ts (λf=>fH.contains f=true) 16 w:=λ_ hb=>hb.elim
structure Sd.DF(s:Sd)(i:Nat)(sv:aj)(code place:Int)(E:Nat->Prop)(w0 w:ah):Prop where
 code:code=((s.rd i).1.1:Int)
 kH:jP E s.gs s.ts (λf=>fH.contains f=true) 16 w
 new:∀b,E b->w0.heap.size<=b/\s.gs b=false/\s.ts b=false
 rv:RV (s.kA E) sv sv
 at':∀w2:ah,(∀a:av,E a.block\/s.gs a.block=true->w2.cell? a=w.cell? a)->iJ w2 sv (s.rd i).2.az
def Sd.DF.on{w0:ah}(h:s.DF i sv code place E w0 w)(hl:∀b,s.gs b=true->b<w.heap.size)(k:∀b,b<w.heap.size->w'.heap[b]?=w.heap[b]?):s.DF i sv code place E w0 w':=
 ⟨h.code,h.kH.on λb hb=>k b (h.kH.lt hb),h.new,h.rv,λw2 k2=>h.at' w2 λa ha=>(k2 a ha).trans (jc (k _ (ha.elim (λz=>h.kH.lt z) (hl _))))⟩
def Sd.Fin.SS(h:s.Fin m v e F SB w)(i:Nat)(hs:(s.txt i).size<=8000){gs:Array Goroutine}{t:Trace}{q:Nat->Nat}{sl:Option (Nat×Nat)}{b:Frame}{a:Act}{kk:List Item}{cs:List Frame}{ops:Array Oper}{j:Nat}{rest:List Nat}{o:Oper}
  (ho:ops[j]?=U o) (hw:Region.wanted o (yielded ops a.tmps)=true) (hk:b.kind≠.early) (hr:∀w₁,AtRel w w₁->(execOp a.eval o).run prog w₁=.ok (.enter 7 #[aB (s.txt i)]) w₁/\(execOp a.eval o).events prog w₁ #[]=#[])
  (hB:BS prog SB gs (G (b.at a (.inRegion ops (j::rest)::kk)) cs) w t q):∃M cg w' sl' t' q' sv code place E,runNT prog M (crowd gs w sl) t=(.next (crowd cg w' sl'),t')/\BS prog SB cg (G (b.at (a.put o.dst (aX #[.agg (bA (s.rd i).2 sv),a_ #[af I code,af I place]])) (.inRegion ops rest::kk)) cs) w' t' q'/\(∃sa l c,sv=ak sa l c)/\s.DF i sv code place E w w'/\(∀b,b<w.heap.size->w'.heap[b]?=w.heap[b]?)/\bG w w':=by
 obtain⟨M,cg,w',sl',t',q',β',y,y',V,r1,h2,⟨c,sv,code,place,rfl,hc,bM,B',hE⟩,h4,h5,h6,h7,h8⟩:=h.call (sl:=sl) (R:=λy V=>∃(c:aV) (sv:aj) (code place:Int),y=aX #[.agg (bA c sv),a_ #[af I code,af I place]]/\c=(s.rd i).2/\code=((s.rd i).1.1:Int)/\∃B',gG B' V sv c.az) (O:=λ_=>False) SR (λ_ hb=>hb.elim) (λ_ hb=>hb.elim)
  (show fH.contains 7=true from aD rfl) ⟨f7,_,func7,rfl⟩ (bh.one (jg.2 rfl))
  (λτ=>(afl (s.txt i) _ hs).mono (by
   rintro e v' ⟨c,sv,code,place,rfl,hb,hc,bM,-,hE⟩;have pK:gf aM (Go.Proofs.YtjjodkjbmgnbeaaGreatDoor.bl (s.txt i))=gf aT (Go.Proofs.YtjjodkjbmgnbeaaGreatDoor.bl (s.txt i)):=TG ZJ aeE _;exact⟨_,rfl,⟨c,sv,code,place,rfl,by rw[hc,<- pK],by rw[bM,<- pK],hE⟩,hb⟩)) ho hw hk hr hB
 obtain⟨x,z,rfl,hx,hz⟩:=FX h4;obtain⟨xs,rfl,oL⟩:=gH.1 hx;obtain⟨qi,rfl,ow⟩:=Qv oL;obtain⟨zs,rfl,hzs⟩:=gH.1 hz;obtain⟨p,q',r,u,e1,rfl,hp,hq⟩:=(uU hzs).resolve_right (by simp);obtain⟨rfl,rfl⟩:Value.int I code=p/\Value.int I place=q':=by
  have:=iU (λx:Array aj=>x.toList) e1;simpa using this
 cases cO.1 hp
 cases cO.1 hq
 subst hc;have hro:∀b b',β'.ro b b'↔b=b'/\s.gs b=true:=λb b'=>by rw[<- h6.le.ro];rfl
 have zu:∀b b',β'.tok b b'↔b=b'/\s.ts b=true:=λb b'=>by rw[<- h6.le.tok];rfl
 have hfn:∀f,β'.fn f->fH.contains f=true:=λf h=>by rw[<- h6.le.fn]at h;exact h
 have dr:=EH (β:=β') (gs:=s.gs) (ts:=s.ts) (fn:=λf=>fH.contains f=true) (g:=16) (λb b'=>(hro b b').1) λb b'=>(zu b b').1
 refine⟨M,cg,w',sl',t',_,qi,code,place,λb'=>∃a,β'.own a b',r1,h2,?_,⟨bM,h5.kH (λb b'=>(hro b b').1) (λb b'=>(zu b b').1) hfn,λb ⟨a,hb⟩=>⟨(h6.new a b hb).elim (λh=>h.2.elim) id,h5.apart hro zu hb⟩,RV.into dr hfn ow,λw2 k=>?_⟩,h7,h8⟩
 ·obtain⟨sa,cap,rfl,-⟩:=hE.az;obtain⟨fw,rfl,-⟩:=gX.1 ow;exact⟨_,_,_,rfl⟩
 exact hE.az.tr (h5.IC (W':=w2) λb a h=>k a (h.imp (λh=>⟨b,h⟩) λh=>by
  obtain⟨e,h⟩:=(hro _ _).1 h;rw[<- e];exact h)) ow
end
def afB{β:aK}{a b:Int}(h:RV β (a_ #[af I a,af I b]) y):y=a_ #[af I a,af I b]:=by
 obtain⟨zs,rfl,hzs⟩:=gH.1 h;obtain⟨p,q',r,u,e1,rfl,hp,hq⟩:=(uU hzs).resolve_right (by simp);obtain⟨rfl,rfl⟩:Value.int I a=p/\Value.int I b=q':=by
  have:=iU (λx:Array aj=>x.toList) e1;simpa using this
 rw[cO.1 hp,cO.1 hq]
def afC{β:aK}{a b:Int}:RV β (a_ #[af I a,af I b]) (a_ #[af I a,af I b]):=
 gH.2 ⟨_,rfl,(bh.one (cO.2 rfl)).push (cO.2 rfl)⟩
def Sd.vT(s:Sd)(m:Int)(c p:Int):Prop:=
 (fe m s.n≠0/\c=(fe m s.n:Int)/\p=-1)\/(fe m s.n=0/\∃i,i<s.n/\(∀j,j<i->(s.rd j).1.1=0)/\(s.rd i).1.1≠0/\c=((s.rd i).1.1:Int)/\p=i)\/(fe m s.n=0/\c=0/\∀i,i<s.n->(s.rd i).1.1=0)
section
variable {s:Sd}{m:Int}{v e:aj}{F SB:Nat->Prop}{w w':ah}{gs:Array Goroutine}{t:Trace}{q:Nat->Nat}{sl:Option (Nat×Nat)}{b:Frame}{a:Act}{kk:List Item}{cs:List Frame}{ops:Array Oper}{j:Nat}{rest:List Nat}{o:Oper}
def Sd.Fin.wf(h:s.Fin m v e F SB w)(ho:ops[j]?=U o)(hw:Region.wanted o (yielded ops a.tmps)=true)(hk:b.kind≠.early)(hr:∀w₁,AtRel w w₁->(execOp a.eval o).run prog w₁=.ok (.enter 6 #[af I m,af I s.n]) w₁/\(execOp a.eval o).events prog w₁ #[]=#[])
  (hB:BS prog SB gs (G (b.at a (.inRegion ops (j::rest)::kk)) cs) w t q):∃M cg w' sl' t' q',runNT prog M (crowd gs w sl) t=(.next (crowd cg w' sl'),t')/\BS prog SB cg (G (b.at (a.put o.dst (a_ #[af I (fe m s.n),af I (-1)])) (.inRegion ops rest::kk)) cs) w' t' q'/\(∀b,b<w.heap.size->w'.heap[b]?=w.heap[b]?)/\bG w w':=by
 obtain⟨M,cg,w',sl',t',q',β',y,y',V,r1,h2,rfl,h4,-,-,h7,h8⟩:=h.call (sl:=sl) (R:=λy _=>y=a_ #[af I (fe m s.n),af I (-1)]) (O:=λ_=>False) SR (λ_ hb=>hb.elim) (λ_ hb=>hb.elim)
  (show fH.contains 6=true from aD rfl) ⟨f6,_,func6,rfl⟩ ((bh.one (cO.2 rfl)).push (cO.2 rfl))
  (λτ=>(aej m s.n _).mono (by
   rintro e v' ⟨rfl,hb⟩;exact⟨_,rfl,rfl,hb⟩)) ho hw hk hr hB
 rw[afB h4]at h2;exact⟨M,cg,w',sl',t',q',r1,h2,h7,h8⟩
def Sd.Fin.err(h:s.Fin m v e F SB w)(hv:s.vT m c p)(hc:c≠0)(τ:Nat->Question->Nat):v=ak J 0 0/\∃f:Nat×Int,(f.1:Int)=c/\f.2=p/\gR s.A (s.gh w τ) e f:=by
 have ht:=h.tell (s.gh w τ) λa ha=>Sd.FY h.no a ha
 rcases hv with⟨h1,rfl,rfl⟩|⟨h1,i,hi,h2,h3,rfl,rfl⟩|⟨h1,rfl,h2⟩
 ·rcases ht with⟨h4,_⟩|⟨_,h5,h6⟩
  ·exact absurd h4 h1
  refine⟨h5,(fe m s.n,-1),rfl,rfl,?_,.inl ⟨rfl,h6⟩⟩;show fe m s.n<=11
  unfold fe
  split
  ·omega
  split<;>omega
 ·rcases ht with⟨_,⟨h5,_⟩|⟨i',hi',h5,h6,h7,b,hy,h8,h9⟩⟩|⟨h4,_⟩
  ·exact absurd (h5 i hi) h3
  ·obtain rfl:i'=i:=by
    rcases Nat.lt_trichotomy i' i with hl|e|hl
    ·exact absurd (h2 i' hl) h6
    ·exact e
    exact absurd (h5 i hl) h3
   have he:v=ak J 0 0/\e=.iface 88 (ax (U (ar b 0 J))):=by
    have:=iU (λx:aj=>match x with|aX a=>a.toList|_=>[]) hy;simpa using this
   exact⟨he.1,((s.rd i').1.1,i'),rfl,rfl,h7,.inr ⟨by show 0<(s.rd i').1.1;omega,b,he.2,h8,h9⟩⟩
  exact absurd h1 h4
 exact absurd rfl hc
def Sd.Fin.afD(h:s.Fin m v e F SB w)(hv:s.vT m c p)(hc:c≠0)(ho:ops[j]?=U o)(hw:Region.wanted o (yielded ops a.tmps)=true)(hk:b.kind≠.early)(hr:∀w₁,AtRel w w₁->(execOp a.eval o).run prog w₁=.ok (.enter 8 #[e,a_ #[af I c,af I p]]) w₁/\(execOp a.eval o).events prog w₁ #[]=#[])
  (hB:BS prog SB gs (G (b.at a (.inRegion ops (j::rest)::kk)) cs) w t q):∃M cg w' sl' t' q',runNT prog M (crowd gs w sl) t=(.next (crowd cg w' sl'),t')/\BS prog SB cg (G (b.at (a.put o.dst (aJ true)) (.inRegion ops rest::kk)) cs) w' t' q'/\(∀b,b<w.heap.size->w'.heap[b]?=w.heap[b]?)/\bG w w':=by
 obtain⟨M,cg,w',sl',t',q',β',y,y',V,r1,h2,rfl,h4,-,-,h7,h8⟩:=h.call (sl:=sl) (R:=λy _=>y=aJ true) (O:=F) h.kH h.no h.nF
  (show fH.contains 8=true from aD rfl) ⟨f8,_,func8,rfl⟩ ((bh.one h.re).push afC)
  (λτ=>by
   obtain⟨-,f,h5,h6,h7⟩:=h.err hv hc τ
   apply(VX s.A e f c p _ (h.kn.QV h.s12 h.tA τ) h7).mono;rintro e v' ⟨rfl,hb⟩;exact⟨_,rfl,by rw[bz ⟨h5,.inr h6⟩],hb⟩) ho hw hk hr hB
 cases fM.1 h4
 exact⟨M,cg,w',sl',t',q',r1,h2,h7,h8⟩
def Sd.Fin.one(h:s.Fin m v e F SB w)(hv:s.vT m 0 p)(i:Nat)(hi:i<s.n):e=.nilIface/\jB (s.rd i).2/\∃b cap sv,v=ak (U (ar b 0 J)) s.n cap/\¬SB b/\b<w.heap.size/\w.rangeAt b (i*5) (bA (s.rd i).2 sv).toList/\RV (s.kA F) sv sv/\∀w2:ah,(∀a:av,F a.block\/s.gs a.block=true->w2.cell? a=w.cell? a)->iJ w2 sv (s.rd i).2.az:=by
 have hz:fe m s.n=0/\∀i,i<s.n->(s.rd i).1.1=0:=by
  rcases hv with⟨h1,h2,-⟩|⟨-,i,-,-,h1,h2,-⟩|⟨h1,-,h2⟩
  ·exact absurd (by omega) h1
  ·exact absurd (by omega) h1
  exact⟨h1,h2⟩
 have get:∀w2:ah,(∀a:av,F a.block\/s.gs a.block=true->w2.cell? a=w.cell? a)->∃sa cap,v=ak sa s.n cap/\e=.nilIface/\jB (s.rd i).2/\∃b sv,sa=U ⟨b,0,J⟩/\(∀j u,(bA (s.rd i).2 sv)[j]?=U u->w2.cell? ⟨b,i*5+j,J⟩=U u)/\iJ w2 sv (s.rd i).2.az:=λw2 k=>by
  rcases h.tell w2 k with⟨_,⟨_,sa,cap,hy,h3⟩|⟨i',hi',h5,h6,_⟩⟩|⟨h4,_⟩
  ·have he:v=ak sa s.n cap/\e=.nilIface:=by
    have:=iU (λx:aj=>match x with|aX a=>a.toList|_=>[]) hy;simpa using this
   exact⟨sa,cap,he.1,he.2,h3 i hi⟩
  ·exact absurd (hz.2 i' hi') h6
  exact absurd hz.1 h4
 obtain⟨sa,cap,bK,he,hS,b,sv,rfl,hc,hE⟩:=get (jO w s.gs s.ts) λa ha=>(Cf (ha.elim (λh'=>.inr (h.no _ h').2) .inl))
 have hcell:∀a u,(jO w s.gs s.ts).cell? a=U u->w.cell? a=U u:=λa u hu=>by
  by_cases e1:s.gs a.block=true
  ·rw[<- hu];exact(Cf (.inl e1)).symm
  cases e2:s.ts a.block with
  |false=>rw[<- hu];exact(Cf (.inr e2)).symm
  |true=>
   obtain⟨e3,c,ty,e4⟩:=h.kn.tk _ e2;rw[cell_of (Ce e4 e3 e2)]at hu
   split at hu
   ·cases hu
   simp at hu
 have hbl:(s.kA F).any b b:=by
  have:=h.rv;rw[bK]at this;obtain⟨a',e1,ha⟩:=gX.1 this;obtain⟨_,e2,ha⟩:=ha
  cases e2
  cases e1
  exact ha.blk
 have hr:=h.kn.rw h.kH h.no;have h4:=hc 4 sv rfl
 refine⟨he,hS,b,cap,sv,bK,?_,?_,λj u hu=>hcell _ _ (hc j u (by rw[<- oI];exact hu)),?_,λw2 k2=>?_⟩
 ·obtain⟨-,hb⟩:=IE hbl;exact hb.elim (h.nF b) λhb=>(h.low b hb).2
 ·exact(hr.lt hbl).2
 ·obtain⟨y,h5,h6⟩:=hr.N9.cell ⟨b,i*5+4,J⟩ ⟨b,i*5+4,J⟩ sv ⟨hbl,rfl,rfl⟩ h4;rw[hcell _ _ h4]at h5
  cases h5
  exact h6
 obtain⟨fw,cap',hv2,-,-,b',qi,rfl,hc',t_⟩:=get w2 k2;have e1:b'=b:=by rw[bK]at hv2;cases hv2;rfl
 subst e1;have h7:=hc' 4 qi rfl;have e2:qi=sv:=by
  obtain⟨-,hb⟩:=IE hbl
  rcases hb with hb|hb|hb
  ·rw[k2 _ (.inl hb),hcell _ _ h4]at h7;cases h7;rfl
  ·rw[k2 _ (.inr hb),hcell _ _ h4]at h7;cases h7;rfl
  obtain⟨e3,c,ty,e4⟩:=h.kn.tk _ hb;rw[cell_of (Ce e4 e3 hb)]at h4;simp at h4
 rw[<- e2];exact t_
def Sd.Fin.same(h:s.Fin m v e F SB w){Lf:aj}{w0:ah}(hS:jB (s.rd i).2)(h1:RV (s.kA F) sv sv)(h2:∀w2:ah,(∀a:av,F a.block\/s.gs a.block=true->w2.cell? a=w.cell? a)->iJ w2 sv (s.rd i).2.az)(hC:s.DF i Lf code place E w0 w)(afE:∀b,E b->¬SB b)
  (ho:ops[j]?=U o) (hw:Region.wanted o (yielded ops a.tmps)=true) (hk:b.kind≠.early) (hr:∀w₁,AtRel w w₁->(execOp a.eval o).run prog w₁=.ok (.enter 9 #[.agg (bA (s.rd i).2 sv),.agg (bA (s.rd i).2 Lf)]) w₁/\(execOp a.eval o).events prog w₁ #[]=#[])
  (hB:BS prog SB gs (G (b.at a (.inRegion ops (j::rest)::kk)) cs) w t q):∃M cg w' sl' t' q',runNT prog M (crowd gs w sl) t=(.next (crowd cg w' sl'),t')/\BS prog SB cg (G (b.at (a.put o.dst (aJ true)) (.inRegion ops rest::kk)) cs) w' t' q'/\(∀b,b<w.heap.size->w'.heap[b]?=w.heap[b]?)/\bG w w':=by
 have hno:∀b,F b\/E b->s.gs b=false/\s.ts b=false:=λb hb=>hb.elim (h.no b) λhb=>(hC.new b hb).2
 have r1:=RV.wide (O':=λb=>F b\/E b) h1 (λb k=>.inl k) (λ_ h=>h);have r2:=RV.wide (O':=λb=>F b\/E b) hC.rv (λb k=>.inr k) (λ_ h=>h);have cfg:∀sv,RV (s.kA λb=>F b\/E b) sv sv->RV (s.kA λb=>F b\/E b) (.agg (bA (s.rd i).2 sv)) (.agg (bA (s.rd i).2 sv)):=λsv h=>gH.2 ⟨_,rfl,rfl,λj x y hx hy=>by
  cases hx.symm.trans hy
  obtain _|_|_|_|_|j:=j
  all_goals first|(cases hx;first|exact h|exact cO.2 rfl)|skip
  simp[bA]at hx⟩
 obtain⟨M,cg,w',sl',t',q',β',y,y',V,r1,h2,rfl,h4,-,-,h7,h8⟩:=h.call (sl:=sl) (R:=λy _=>y=aJ true) (O:=λb=>F b\/E b) (λb hb=>hb.elim (λhb=>h.kH.sub (λ_ k=>.inl k) (λ_ h=>h) hb) λhb=>hC.kH.sub (λ_ k=>.inr k) (λ_ h=>h) hb) hno (λb hb=>hb.elim (h.nF b) (afE b))
  (show fH.contains 9=true from aD rfl) ⟨f9,_,func9,rfl⟩ ((bh.one (cfg sv r1)).push (cfg Lf r2))
  (λτ=>by
   have g1:=h2 (s.gh w τ) λa ha=>Sd.FY hno a (ha.imp .inl id)
   have g2:=hC.at' (s.gh w τ) λa ha=>Sd.FY hno a (ha.imp .inr id)
   obtain⟨sa,ca,rfl,-⟩:=id g1;obtain⟨sb,cb,rfl,-⟩:=id g2
   apply(afw (s.rd i).2 sa sb ca cb _ g1 g2 hS).mono;rintro e v' ⟨rfl,hb⟩;exact⟨_,rfl,rfl,hb⟩) ho hw hk hr hB
 cases fM.1 h4
 exact⟨M,cg,w',sl',t',q',r1,h2,h7,h8⟩
end
open Go.ConcR (KK WgAt stA smA rd wr mk DC0)
def oB(f:Func):Code:=match (iF f)with|.seq (.seq _ (.block _ (.loop c))) _=>c|_=>.skip
def jJ(f:Func):Code:=match (iF f)with|.seq _ c=>c|_=>.skip
def vU(f:Func):Array Oper:=match (oB f)with|.seq _ (.seq (.block _ (.seq (.region _ ops _) _)) _)=>ops|_=>#[]
def Gx(f:Func):Code:=match (oB f)with|.seq _ (.seq (.block _ (.seq _ c)) _)=>c|_=>.skip
def Gy(f:Func):Code:=match (oB f)with|.seq _ (.seq _ c)=>c|_=>.skip
def vV(l m v e:aj)(fb i:Nat)(g:Goroutine):Prop:=∃T:Array aj,T.size=126/\T[0]?=U l/\T[1]?=U m/\T[9]?=U v/\T[10]?=U e/\T[11]?=U (Sd.ptr fb)/\T[12]?=U (af I i) /\
 g=G ((base fZ).at ⟨T,[]⟩ [.code (oB f3),.inLoop (oB f3),.inBlock 2,.code (jJ f3)]) []
def SU(l m v e:aj)(fb i:Nat)(x:aj)(g:Goroutine):Prop:=∃T:Array aj,T.size=126/\T[0]?=U l/\T[1]?=U m/\T[9]?=U v/\T[10]?=U e/\T[11]?=U (Sd.ptr fb)/\T[12]?=U (af I i)/\T[74]?=U x /\
 g=G ((base fZ).at ⟨T,[]⟩ [.inRegion (vU f3) [4,5,6,7,8,9,10,11],.code (Gx f3),.inBlock 3,.code (Gy f3),.inLoop (oB f3),.inBlock 2,.code (jJ f3)]) []
def zE(l m v e:aj)(fb:Nat)(g:Goroutine):Prop:=∃T:Array aj,T.size=126/\T[0]?=U l/\T[1]?=U m/\T[9]?=U v/\T[10]?=U e/\T[11]?=U (Sd.ptr fb)/\g=G ((base fZ).at ⟨T,[]⟩ [.code (jJ f3)]) []
structure KA(w0:ah)(fb:Nat)(c p:Int)(w:ah):Prop where
 old:∀b,b<w0.heap.size->w.heap[b]?=w0.heap[b]?
 same:bG w0 w
 ge:w0.heap.size<=fb
 f:w.heap[fb]?=U (ay #[af I c,af I p] 30 (0,0))
section
variable {w0 w w₁:ah}{fb:Nat}{c p:Int}
def KA.rely(h:KA w0 fb c p w)(r:AtRel w w₁):KA w0 fb c p w₁:=by
 obtain⟨d,rfl⟩:=r;exact⟨h.old,⟨h.same.os,h.same.o,h.same.tape,h.same.size⟩,h.ge,h.f⟩
def KA.lt(h:KA w0 fb c p w):fb<w.heap.size:=(bD.1 h.f).1
def KA.on(h:KA w0 fb c p w)(k:∀b,b<w.heap.size->w₁.heap[b]?=w.heap[b]?)(hs:bG w w₁):KA w0 fb c p w₁:=
 ⟨λb hb=>(k b (dK hb h.same.size)).trans (h.old b hb),⟨hs.os.trans h.same.os,hs.o.trans h.same.o,hs.tape.trans h.same.tape,bH h.same.size hs.size⟩,h.ge,(k fb h.lt).trans h.f⟩
def KA.alloc(h:KA w0 fb c p w)(o:Obj):KA w0 fb c p (w.alloc o):=h.on (λ_ hb=>alloc_old hb) ⟨rfl,rfl,rfl,zo⟩
def KA.kp{N:Nat}(h:KA w0 fb c p w)(hk:Kp (λb=>b=N) w w₁)(h1:w0.heap.size<=N)(h2:N≠fb):KA w0 fb c p w₁:=
 ⟨λb hb=>(hk.frame b (by omega)).trans (h.old b hb),⟨hk.os.trans h.same.os,hk.o.trans h.same.o,hk.tape.trans h.same.tape,by rw[hk.size];exact h.same.size⟩,h.ge,(hk.frame fb (by omega)).trans h.f⟩
def Lg{a b x:aj}{t:TypeId}(h:w.heap[g]?=U (ay #[a,b] t (0,0))):(w.setCells g 0 [x,y]).heap[g]?=U (ay #[x,y] t (0,0)):=by
 simp[World.setCells,cZ,fR,h]
def KA.set(h:KA w0 fb c p w)(c' p':Int):KA w0 fb c' p' (w.setCells fb 0 [af I c',af I p']):=by
 have hk:=Kp.bZ (O:=λb=>b=fb) (g:=fb) rfl [af I c',af I p'] 0 w;exact⟨λb hb=>(hk.frame b (by have:=h.ge;omega)).trans (h.old b hb),⟨hk.os.trans h.same.os,hk.o.trans h.same.o,hk.tape.trans h.same.tape,by rw[hk.size];exact h.same.size⟩,h.ge,Lg h.f⟩
end
def afF(l m v e:aj)(c p:Int)(T:Array aj)(hs:T.size=126)(h0:T[0]?=U l)(h1:T[1]?=U m)(h9:T[9]?=U v)(h10:T[10]?=U e)(w:ah)(eU:∀b,SB b->b<w.heap.size):Goes prog true AtRel (dF SB) (λg w'=>∃fb,KA w fb c p w'/\vV l m v e fb 0 g) 40 (G ((base fZ).at (Act.put ⟨T,[]⟩ (((vD f3)[3]?).bind (·.dst)) (a_ #[af I c,af I p])) [.inRegion (vD f3) [4,5],.code (iF f3)]) []) w:=by
 obtain⟨y,rfl⟩:=oy T hs;have e0:y 0=l:=by simpa using h0
 have e1:y 1=m:=by simpa using h1
 have e9:y 9=v:=by simpa using h9
 have lr:y 10=e:=by simpa using h10
 simp only[e0,e1,e9,lr];clear hs h0 h1 h9 h10 e0 e1 e9 lr;have hF:w.heap=w.heap/\bG w w:=⟨rfl,rfl,rfl,rfl,aR _⟩;have rl:∀{x x₁:ah},(x.heap=w.heap/\bG w x)->AtRel x x₁->(x₁.heap=w.heap/\bG w x₁):=λh r=>by obtain⟨d,rfl⟩:=r;exact⟨h.1,h.2.os,h.2.o,h.2.tape,h.2.size⟩
 simp only[vD,iF,gM,gy,fI,cQ,f3,bC];walk_nrm
 refine vC (n:=39) (v:=λN=>ax (U (ar N 0 J))) (ob:=ay #[af I 0,af I 0] 30 (0,0)) rfl rfl (by k_ne) (λw₂ h₂=>⟨by simp[execOp,go_sem],by simp[execOp,go_sem]⟩) λw₂ h₂=>?_
 replace hF:=rl hF h₂
 walk_nrm
 have hK:KA w w₂.heap.size 0 0 (w₂.alloc (ay #[af I 0,af I 0] 30 (0,0))):=
  ⟨λb hb=>(alloc_old (by rw[hF.1];exact hb)).trans (by rw[hF.1]),tZ hF.2,by rw[hF.1];exact aR _,dT _ _⟩
 have hN:¬SB w₂.heap.size:=λh=>by have:=eU _ h;rw[hF.1]at this;omega
 generalize w₂.alloc _=V at hK;generalize w₂.heap.size=fb at hK hN;clear hF rl h₂ eU
 refine A0 (n:=38) (g:=fb) (k:=0) (x:=.tmp 11) (y:=.tmp 58) (cells:=#[af I c,af I p]) rfl rfl (by k_ne) rfl rfl rfl (by kernel_rfl) (by simp[Value.oneCell']) hN (λw₁ h₁=>⟨sg (hK.rely h₁).f 0 (by simp),(hK.rely h₁).lt⟩) λw₁ h₁=>?_
 have hF:=(hK.rely h₁).set c p;clear hK h₁;generalize w₁.setCells fb 0 _=V at hF;have rl:∀{x x₁:ah},KA w fb c p x->AtRel x x₁->KA w fb c p x₁:=λh r=>h.rely r
 refine iG (n:=20) (m:=18) atRel_refl (λw=>dB w) ?_;walk_nrm
 u_c stepG_region_end rl hF
 u_c stepG_seq rl hF
 u_c stepG_seq rl hF
 u_reg rl hF
 u_op rl hF
 u_c stepG_region_end rl hF
 u_c stepG_block rl hF
 u_c stepG_loop rl hF
 refine Goes.stop λw₁ h₁=>Goes.stop λw₂ h₂=>?_
 refine⟨fb,rl (rl hF h₁) h₂,?_⟩;simp only[vV,Sd.ptr,oB,jJ,iF,gM,gy,fI,cQ,f3,bC];exact⟨_,rfl,rfl,rfl,rfl,rfl,rfl,rfl,rfl⟩
def afG(lb lo n cap0 fb i:Nat)(m v e:aj)(p:Int)(x:ByteArray)(hi:i<n)(w0 w:ah)(eU:∀b,SB b->b<w0.heap.size)(A4:¬SB lb)(hl:lb<w0.heap.size)(hc:w0.cell? ⟨lb,lo+i,J⟩=U (aB x))(g:Goroutine)(hg:vV (ak (U (ar lb lo J)) n cap0) m v e fb i g)(hF:KA w0 fb 0 p w):Goes prog true AtRel (dF SB) (λg w'=>KA w0 fb 0 p w'/\SU (ak (U (ar lb lo J)) n cap0) m v e fb i (aB x) g) 80 g w:=by
 obtain⟨T,hs,h0,h1,h9,h10,h11,iV,rfl⟩:=hg;obtain⟨y,rfl⟩:=oy T hs;have e0:y 0=ak (U (ar lb lo J)) n cap0:=by simpa using h0
 have e1:y 1=m:=by simpa using h1
 have e9:y 9=v:=by simpa using h9
 have lr:y 10=e:=by simpa using h10
 have e11:y 11=Sd.ptr fb:=by simpa using h11
 have pN:y 12=af I i:=by simpa using iV
 simp only[e0,e1,e9,lr,e11,pN];clear hs h0 h1 h9 h10 h11 iV e0 e1 e9 lr e11 pN;have hlt:(i:Int)<(n:Int):=by omega
 have dr:¬n<=i:=by omega
 have uy:¬SB fb:=λh=>by have:=eU _ h;have:=hF.ge;omega
 have cP:=λw:ah=>C4 (P:=prog) (w:=w) (es:=#[]) 22 ⟨lb,lo,J⟩ n cap0 I i (by kernel_rfl) ⟨by omega,by omega⟩
 have rl:∀{x x₁:ah},KA w0 fb 0 p x->AtRel x x₁->KA w0 fb 0 p x₁:=λh r=>h.rely r
 simp only[oB,iF,gM,gy,fI,cQ,f3,bC,Sd.ptr]
 refine iG (n:=20) (m:=60) atRel_refl (λw=>dB w) ?_;u_c stepG_seq rl hF
 u_c stepG_seq rl hF
 u_reg rl hF
 u_op rl hF
 u_op rl hF
 u_op rl hF
 u_op rl hF
 u_op rl hF
 u_op rl hF
 refine Goes.stop λw₁ h₁=>?_
 replace hF:=rl hF h₁
 clear h₁
 refine kM (n:=59) (v:=af I 0) rfl rfl (by k_ne) (λw₂ h₂=>?_) ?_
 ·have h:=rl hF h₂;have hc:w₂.cell? (ar fb 0 J)=U (af I 0):=by simp[aL,h.f]
  constructor
  ·simp[execOp,go_sem,hc]
  intro e he;simp[go_sem,execOp,hc]at he
  exact⟨_,he,uy,h.lt⟩
 walk_nrm
 refine iG (n:=20) (m:=39) atRel_refl (λw=>dB w) ?_;u_op rl hF
 u_op rl hF
 u_c stepG_region_end rl hF
 u_cond true rl hF
 u_c stepG_skip rl hF
 u_c stepG_seq rl hF
 u_c stepG_block rl hF
 u_c stepG_seq rl hF
 u_reg rl hF
 u_op rl hF
 u_op rl hF
 refine Goes.stop λw₁ h₁=>?_
 replace hF:=rl hF h₁
 clear h₁
 refine kM (n:=38) (v:=ax (U ⟨lb,lo+i,J⟩)) rfl rfl (by k_ne) (λw₂ h₂=>?_) ?_
 ·constructor
  ·simp[execOp,go_sem,dr]
  intro e he;simp[execOp,go_sem,cP]at he
 walk_nrm
 refine kM (n:=37) (v:=aB x) rfl rfl (by k_ne) (λw₂ h₂=>?_) ?_
 ·have h:=rl hF h₂;have hc:w₂.cell? ⟨lb,lo+i,J⟩=U (aB x):=(jc (a:=⟨lb,lo+i,J⟩) (h.old lb hl)).trans hc
  constructor
  ·simp[execOp,go_sem,hc]
  intro e he;simp[go_sem,execOp,hc]at he
  exact⟨_,he,A4,dK hl h.same.size⟩
 walk_nrm
 refine Goes.stop λw₂ h₂=>?_
 refine⟨rl hF h₂,?_⟩;simp only[SU,Sd.ptr,vU,Gx,Gy,oB,jJ,iF,gM,gy,fI,cQ,f3,bC];exact⟨_,rfl,rfl,rfl,rfl,rfl,rfl,rfl,rfl,rfl⟩
def afH(la:Option av)(n cap0 fb i:Nat)(m v e:aj)(c p:Int)(hc0:c≠0)(hi:i<n)(w0 w:ah)(eU:∀b,SB b->b<w0.heap.size)(g:Goroutine)(hg:vV (ak la n cap0) m v e fb i g)(hF:KA w0 fb c p w):Goes prog true AtRel (dF SB) (λg w'=>KA w0 fb c p w'/\zE (ak la n cap0) m v e fb g) 80 g w:=by
 obtain⟨T,hs,h0,h1,h9,h10,h11,iV,rfl⟩:=hg;obtain⟨y,rfl⟩:=oy T hs;have e0:y 0=ak la n cap0:=by simpa using h0
 have e1:y 1=m:=by simpa using h1
 have e9:y 9=v:=by simpa using h9
 have lr:y 10=e:=by simpa using h10
 have e11:y 11=Sd.ptr fb:=by simpa using h11
 have pN:y 12=af I i:=by simpa using iV
 simp only[e0,e1,e9,lr,e11,pN];clear hs h0 h1 h9 h10 h11 iV e0 e1 e9 lr e11 pN;have hlt:(i:Int)<(n:Int):=by omega
 have hb0:(c==0)=false:=by simpa using hc0
 have uy:¬SB fb:=λh=>by have:=eU _ h;have:=hF.ge;omega
 have rl:∀{x x₁:ah},KA w0 fb c p x->AtRel x x₁->KA w0 fb c p x₁:=λh r=>h.rely r
 simp only[oB,iF,gM,gy,fI,cQ,f3,bC,Sd.ptr]
 refine iG (n:=20) (m:=60) atRel_refl (λw=>dB w) ?_;u_c stepG_seq rl hF
 u_c stepG_seq rl hF
 u_reg rl hF
 u_op rl hF
 u_op rl hF
 u_op rl hF
 u_op rl hF
 u_op rl hF
 u_op rl hF
 refine Goes.stop λw₁ h₁=>?_
 replace hF:=rl hF h₁
 clear h₁
 refine kM (n:=59) (v:=af I c) rfl rfl (by k_ne) (λw₂ h₂=>?_) ?_
 ·have h:=rl hF h₂;have hc:w₂.cell? (ar fb 0 J)=U (af I c):=by simp[aL,h.f]
  constructor
  ·simp[execOp,go_sem,hc]
  intro e he;simp[go_sem,execOp,hc]at he
  exact⟨_,he,uy,h.lt⟩
 walk_nrm
 refine iG (n:=20) (m:=39) atRel_refl (λw=>dB w) ?_;u_op rl hF
 u_op rl hF
 u_c stepG_region_end rl hF
 u_cond false rl hF
 u_exit rl hF
 refine Goes.stop λw₁ h₁=>Goes.stop λw₂ h₂=>?_
 refine⟨rl (rl hF h₁) h₂,?_⟩;simp only[zE,Sd.ptr,jJ,iF,gM,gy,fI,cQ,f3,bC];exact⟨_,rfl,rfl,rfl,rfl,rfl,rfl,rfl⟩
def afI(la:Option av)(n cap0 fb:Nat)(m v e:aj)(c p:Int){SB:Nat->Prop}(w0 w:ah)(g:Goroutine)(hg:vV (ak la n cap0) m v e fb n g)(hF:KA w0 fb c p w):Goes prog true AtRel (dF SB) (λg w'=>KA w0 fb c p w'/\zE (ak la n cap0) m v e fb g) 80 g w:=by
 obtain⟨T,hs,h0,h1,h9,h10,h11,iV,rfl⟩:=hg;obtain⟨y,rfl⟩:=oy T hs;have e0:y 0=ak la n cap0:=by simpa using h0
 have e1:y 1=m:=by simpa using h1
 have e9:y 9=v:=by simpa using h9
 have lr:y 10=e:=by simpa using h10
 have e11:y 11=Sd.ptr fb:=by simpa using h11
 have pN:y 12=af I n:=by simpa using iV
 simp only[e0,e1,e9,lr,e11,pN];clear hs h0 h1 h9 h10 h11 iV e0 e1 e9 lr e11 pN;have hlt:¬(n:Int)<(n:Int):=by omega
 have rl:∀{x x₁:ah},KA w0 fb c p x->AtRel x x₁->KA w0 fb c p x₁:=λh r=>h.rely r
 simp only[oB,iF,gM,gy,fI,cQ,f3,bC,Sd.ptr]
 refine iG (n:=20) (m:=60) atRel_refl (λw=>dB w) ?_;u_c stepG_seq rl hF
 u_c stepG_seq rl hF
 u_reg rl hF
 u_op rl hF
 u_op rl hF
 u_op rl hF
 u_op rl hF
 u_op rl hF
 u_skip rl hF
 u_skip rl hF
 u_skip rl hF
 u_op rl hF
 u_c stepG_region_end rl hF
 u_cond false rl hF
 u_exit rl hF
 refine Goes.stop λw₁ h₁=>Goes.stop λw₂ h₂=>?_
 refine⟨rl (rl hF h₁) h₂,?_⟩;simp only[zE,Sd.ptr,jJ,iF,gM,gy,fI,cQ,f3,bC];exact⟨_,rfl,rfl,rfl,rfl,rfl,rfl,rfl⟩
def afJ(l m v e:aj)(fb i:Nat)(p:Int)(cf:aV)(sv:aj)(ow:∃sa l c,sv=ak sa l c)(code place:Int)(bM:0<=code)(hi:i<110)(T:Array aj)(hs:T.size=126)(h0:T[0]?=U l)(h1:T[1]?=U m)(h9:T[9]?=U v)(h10:T[10]?=U e)(h11:T[11]?=U (Sd.ptr fb))(iV:T[12]?=U (af I i))(w0 w:ah)(eU:∀b,SB b->b<w0.heap.size)(hF:KA w0 fb 0 p w):Goes prog true AtRel (dF SB) (λg w'=>(∃c' p',KA w0 fb c' p' w'/\((code=0/\c'=0/\p'=p)\/(code≠0/\c'=code/\p'=i)))/\vV l m v e fb (i+1) g) 80 (G ((base fZ).at (Act.put ⟨T,[]⟩ (((vU f3)[4]?).bind (·.dst)) (aX #[.agg (bA cf sv),a_ #[af I code,af I place]])) [.inRegion (vU f3) [5,6,7,8,9,10,11],.code (Gx f3),.inBlock 3,.code (Gy f3),.inLoop (oB f3),.inBlock 2,.code (jJ f3)]) []) w:=by
 obtain⟨y,rfl⟩:=oy T hs;have e0:y 0=l:=by simpa using h0
 have e1:y 1=m:=by simpa using h1
 have e9:y 9=v:=by simpa using h9
 have lr:y 10=e:=by simpa using h10
 have e11:y 11=Sd.ptr fb:=by simpa using h11
 have pN:y 12=af I i:=by simpa using iV
 simp only[e0,e1,e9,lr,e11,pN];clear hs h0 h1 h9 h10 h11 iV e0 e1 e9 lr e11 pN;have uy:¬SB fb:=λh=>by have:=eU _ h;have:=hF.ge;omega
 have hw2:IntKind.i64.wrap ((i:Int)+1)=((i+1:Nat):Int):=by rw[zn (by omega) (by omega)];omega
 have rl:∀{x x₁:ah},KA w0 fb 0 p x->AtRel x x₁->KA w0 fb 0 p x₁:=λh r=>h.rely r
 simp only[vU,Gx,Gy,oB,iF,gM,gy,fI,cQ,f3,bC,Sd.ptr]
 refine iG (n:=10) (m:=70) atRel_refl (λw=>dB w) ?_;walk_nrm
 u_op rl hF
 u_op rl hF
 u_op rl hF
 refine Goes.stop λw₁ h₁=>?_
 replace hF:=rl hF h₁
 clear h₁
 refine vC (n:=69) (v:=λN=>ax (U (ar N 0 J))) (ob:=ay #[af I 0,af I 0,af I 0,af I 0,ak J 0 0] 34 (0,0)) rfl rfl (by k_ne) (λw₂ h₂=>⟨by simp[execOp,go_sem],by simp[execOp,go_sem]⟩) λw₂ h₂=>?_
 replace hF:=rl hF h₂
 walk_nrm
 have h1:KA w0 fb 0 p (w₂.alloc (ay #[af I 0,af I 0,af I 0,af I 0,ak J 0 0] 34 (0,0)))/\(w₂.alloc (ay #[af I 0,af I 0,af I 0,af I 0,ak J 0 0] 34 (0,0))).heap[w₂.heap.size]?=U (ay #[af I 0,af I 0,af I 0,af I 0,ak J 0 0] 34 (0,0)):=⟨hF.alloc _,dT _ _⟩;have hx1:w0.heap.size<=w₂.heap.size/\w₂.heap.size≠fb:=⟨hF.same.size,by have:=hF.lt;omega⟩;generalize w₂.alloc _=V at h1;generalize w₂.heap.size=xb at h1 hx1;clear hF h₂
 refine vC (n:=68) (v:=λN=>ax (U (ar N 0 J))) (ob:=ay #[af I 0,af I 0] 30 (0,0)) rfl rfl (by k_ne) (λw₂ h₂=>⟨by simp[execOp,go_sem],by simp[execOp,go_sem]⟩) λw₂ h₂=>?_
 have oC:KA w0 fb 0 p w₂/\w₂.heap[xb]?=U (ay #[af I 0,af I 0,af I 0,af I 0,ak J 0 0] 34 (0,0)):=by obtain⟨d,rfl⟩:=h₂;exact⟨rl h1.1 ⟨d,rfl⟩,h1.2⟩
 walk_nrm
 have h2:KA w0 fb 0 p (w₂.alloc (ay #[af I 0,af I 0] 30 (0,0)))/\(w₂.alloc (ay #[af I 0,af I 0] 30 (0,0))).heap[xb]?=U (ay #[af I 0,af I 0,af I 0,af I 0,ak J 0 0] 34 (0,0))/\(w₂.alloc (ay #[af I 0,af I 0] 30 (0,0))).heap[w₂.heap.size]?=U (ay #[af I 0,af I 0] 30 (0,0)):=
  ⟨oC.1.alloc _,(alloc_old (bD.1 oC.2).1).trans oC.2,dT _ _⟩
 have hx2:w0.heap.size<=w₂.heap.size/\w₂.heap.size≠fb/\w₂.heap.size≠xb:=⟨oC.1.same.size,by have:=oC.1.lt;omega,by have:=(bD.1 oC.2).1;omega⟩;generalize w₂.alloc _=V2 at h2;generalize w₂.heap.size=yb at h2 hx2;clear h1 oC h₂ V;have Gz:¬SB xb:=λh=>by have:=eU _ h;have:=hx1.1;omega
 have DG:¬SB yb:=λh=>by have:=eU _ h;have:=hx2.1;omega
 refine A0 (n:=67) (g:=xb) (k:=0) (x:=.tmp 13) (y:=.tmp 76) (cells:=bA cf sv) rfl rfl (by k_ne) rfl rfl rfl (by kernel_rfl) (by obtain⟨sa,l',c',rfl⟩:=ow;simp[bA,Value.oneCell']) Gz (λw₁ h₁=>?_) λw₁ h₁=>?_
 ·obtain⟨d,rfl⟩:=h₁;have zF:(V2.at d).heap[xb]?=_:=h2.2.1;exact⟨sg zF 0 (by simp[bA]),(bD.1 h2.2.1).1⟩
 have hk:=Kp.bZ (O:=λb=>b=xb) (g:=xb) rfl (bA cf sv).toList 0 w₁;have h3:KA w0 fb 0 p (w₁.setCells xb 0 (bA cf sv).toList)/\(w₁.setCells xb 0 (bA cf sv).toList).rangeAt xb 0 (bA cf sv).toList/\xb<(w₁.setCells xb 0 (bA cf sv).toList).heap.size/\(w₁.setCells xb 0 (bA cf sv).toList).heap[yb]?=U (ay #[af I 0,af I 0] 30 (0,0)):=by
  obtain⟨d,rfl⟩:=h₁;have zF:(V2.at d).heap[xb]?=_:=h2.2.1;exact⟨(rl h2.1 ⟨d,rfl⟩).kp hk hx1.1 hx1.2,C3 _ xb 0 _ (sg zF 0 (by simp[bA])),by rw[hk.size];exact(bD.1 h2.2.1).1,(hk.frame yb hx2.2.2).trans h2.2.2⟩
 walk_nrm
 generalize w₁.setCells xb 0 _=V3 at h3;clear h2 hk h₁ V2
 refine A0 (n:=66) (g:=yb) (k:=0) (x:=.tmp 14) (y:=.tmp 77) (cells:=#[af I code,af I place]) rfl rfl (by k_ne) rfl rfl rfl (by kernel_rfl) (by simp[Value.oneCell']) DG (λw₁ h₁=>?_) λw₁ h₁=>?_
 ·obtain⟨d,rfl⟩:=h₁;have zG:(V3.at d).heap[yb]?=_:=h3.2.2.2;exact⟨sg zG 0 (by simp),(bD.1 h3.2.2.2).1⟩
 have hk:=Kp.bZ (O:=λb=>b=yb) (g:=yb) rfl [af I code,af I place] 0 w₁;have h4:KA w0 fb 0 p (w₁.setCells yb 0 [af I code,af I place])/\(w₁.setCells yb 0 [af I code,af I place]).rangeAt xb 0 (bA cf sv).toList/\xb<(w₁.setCells yb 0 [af I code,af I place]).heap.size/\(w₁.setCells yb 0 [af I code,af I place]).heap[yb]?=U (ay #[af I code,af I place] 30 (0,0)):=by
  obtain⟨d,rfl⟩:=h₁;have zG:(V3.at d).heap[yb]?=_:=h3.2.2.2;exact⟨(rl h3.1 ⟨d,rfl⟩).kp hk hx2.1 hx2.2.1,tU h3.2.1 (hk.frame xb λe=>hx2.2.2 e.symm),by rw[hk.size];exact h3.2.2.1,Lg zG⟩
 walk_nrm
 generalize w₁.setCells yb 0 _=V4 at h4;clear h3 hk h₁ V3;have hF:=h4;have rl:∀{x x₁:ah},(KA w0 fb 0 p x/\x.rangeAt xb 0 (bA cf sv).toList/\xb<x.heap.size/\x.heap[yb]?=U (ay #[af I code,af I place] 30 (0,0)))->AtRel x x₁->(KA w0 fb 0 p x₁/\x₁.rangeAt xb 0 (bA cf sv).toList/\xb<x₁.heap.size/\x₁.heap[yb]?=U (ay #[af I code,af I place] 30 (0,0))):=λh r=>⟨h.1.rely r,by obtain⟨d,rfl⟩:=r;exact h.2⟩
 refine iG (n:=10) (m:=56) atRel_refl (λw=>dB w) ?_;u_c stepG_region_end rl hF
 u_c stepG_seq rl hF
 u_reg rl hF
 u_op rl hF
 refine Goes.stop λw₁ h₁=>?_
 replace hF:=rl hF h₁
 clear h₁ h4
 refine kM (n:=55) (v:=af I code) rfl rfl (by k_ne) (λw₂ h₂=>?_) ?_
 ·have h:=rl hF h₂;have hc:w₂.cell? (ar yb 0 J)=U (af I code):=by simp[aL,h.2.2.2]
  constructor
  ·simp[execOp,go_sem,hc]
  intro e he;simp[go_sem,execOp,hc]at he
  exact⟨_,he,DG,(bD.1 h.2.2.2).1⟩
 walk_nrm
 rcases Int.lt_or_le 0 code with F6|hle
 ·refine iG (n:=10) (m:=45) atRel_refl (λw=>dB w) ?_;u_op rl hF
  u_c stepG_region_end rl hF
  u_cond true rl hF
  u_reg rl hF
  u_op rl hF
  refine Goes.stop λw₁ h₁=>?_
  replace hF:=rl hF h₁
  clear h₁
  refine kM (n:=44) (v:=af I code) rfl rfl (by k_ne) (λw₂ h₂=>?_) ?_
  ·have h:=rl hF h₂;have hc:w₂.cell? (ar yb 0 J)=U (af I code):=by simp[aL,h.2.2.2]
   constructor
   ·simp[execOp,go_sem,hc]
   intro e he;simp[go_sem,execOp,hc]at he
   exact⟨_,he,DG,(bD.1 h.2.2.2).1⟩
  walk_nrm
  refine iG (n:=5) (m:=39) atRel_refl (λw=>dB w) ?_;u_op rl hF
  refine Goes.stop λw₁ h₁=>?_
  replace hF:=rl hF h₁
  clear h₁
  refine tY (n:=38) rfl rfl (by k_ne) λw₂ h₂=>⟨a_ #[af I code,af I i],w₂,by kernel_rfl,by kernel_rfl,dB _,?_⟩
  replace hF:=rl hF h₂
  clear h₂;walk_nrm
  refine A0 (n:=37) (g:=fb) (k:=0) (x:=.tmp 11) (y:=.tmp 84) (cells:=#[af I code,af I i]) rfl rfl (by k_ne) rfl rfl rfl (by kernel_rfl) (by simp[Value.oneCell']) uy (λw₁ h₁=>⟨sg (rl hF h₁).1.f 0 (by simp),(rl hF h₁).1.lt⟩) λw₁ h₁=>?_
  have h5:=(rl hF h₁).1.set code i;walk_nrm
  generalize w₁.setCells fb 0 _=V5 at h5;clear hF h₁ rl;have hF:=h5;have rl:∀{x x₁:ah},KA w0 fb code i x->AtRel x x₁->KA w0 fb code i x₁:=λh r=>h.rely r
  refine iG (n:=20) (m:=17) atRel_refl (λw=>dB w) ?_;u_c stepG_region_end rl hF
  u_c stepG_inBlock rl hF
  u_reg rl hF
  u_op rl hF
  u_op rl hF
  rw[show (i:Int)+1=((i+1:Nat):Int) by omega];u_op rl hF
  u_c stepG_region_end rl hF
  u_c stepG_inLoop rl hF
  refine Goes.stop λw₁ h₁=>Goes.stop λw₂ h₂=>?_
  refine⟨⟨code,i,rl (rl hF h₁) h₂,.inr ⟨by omega,rfl,rfl⟩⟩,?_⟩;simp only[vV,Sd.ptr,oB,jJ,iF,gM,gy,fI,cQ,f3,bC];exact⟨_,rfl,rfl,rfl,rfl,rfl,rfl,rfl,rfl⟩
 have aib:¬(0:Int)<code:=by omega
 refine iG (n:=20) (m:=35) atRel_refl (λw=>dB w) ?_;u_op rl hF
 u_c stepG_region_end rl hF
 u_cond false rl hF
 u_c stepG_skip rl hF
 u_c stepG_inBlock rl hF
 u_reg rl hF
 u_op rl hF
 u_op rl hF
 rw[show (i:Int)+1=((i+1:Nat):Int) by omega];u_op rl hF
 u_c stepG_region_end rl hF
 u_c stepG_inLoop rl hF
 refine Goes.stop λw₁ h₁=>Goes.stop λw₂ h₂=>?_
 refine⟨⟨0,p,(rl (rl hF h₁) h₂).1,.inl ⟨by omega,rfl,rfl⟩⟩,?_⟩;simp only[vV,Sd.ptr,oB,jJ,iF,gM,gy,fI,cQ,f3,bC];exact⟨_,rfl,rfl,rfl,rfl,rfl,rfl,rfl,rfl⟩
def pB(f:Func):Code:=match (jJ f)with|.seq _ c=>c|_=>.skip
def vW(f:Func):Array Oper:=match (jJ f)with|.seq (.seq _ (.cond _ (.seq (.region _ ops _) _) _)) _=>ops|_=>#[]
def nk(f:Func):Code:=match (pB f)with|.seq _ (.seq (.seq _ (.block _ (.loop c))) _)=>c|_=>.skip
def qw(f:Func):Code:=match (pB f)with|.seq _ (.seq _ c)=>c|_=>.skip
def SV(v e:aj)(c p:Int)(g:Goroutine):Prop:=∃T:Array aj,T.size=126/\T[9]?=U v/\T[88]?=U e/\T[89]?=U (a_ #[af I c,af I p])/\g=G ((base fZ).at ⟨T,[]⟩ [.inRegion (vW f3) [2,3,4,5,6,7,8],.code .ret,.code (pB f3)]) []
def zH(l v:aj)(i:Nat)(g:Goroutine):Prop:=∃T:Array aj,T.size=126/\T[0]?=U l/\T[9]?=U v/\T[15]?=U (af I i)/\g=G ((base fZ).at ⟨T,[]⟩ [.code (nk f3),.inLoop (nk f3),.inBlock 4,.code (qw f3)]) []
def afK(l m v e:aj)(fb:Nat)(c p:Int)(hc:0<c)(w0 w:ah)(eU:∀b,SB b->b<w0.heap.size)(g:Goroutine)(hg:zE l m v e fb g)(hF:KA w0 fb c p w):Goes prog true AtRel (dF SB) (λg w'=>KA w0 fb c p w'/\SV v e c p g) 40 g w:=by
 obtain⟨T,hs,h0,h1,h9,h10,h11,rfl⟩:=hg;obtain⟨y,rfl⟩:=oy T hs;have e0:y 0=l:=by simpa using h0
 have e1:y 1=m:=by simpa using h1
 have e9:y 9=v:=by simpa using h9
 have lr:y 10=e:=by simpa using h10
 have e11:y 11=Sd.ptr fb:=by simpa using h11
 simp only[e0,e1,e9,lr,e11];clear hs h0 h1 h9 h10 h11 e0 e1 e9 lr e11;have uy:¬SB fb:=λh=>by have:=eU _ h;have:=hF.ge;omega
 have rl:∀{x x₁:ah},KA w0 fb c p x->AtRel x x₁->KA w0 fb c p x₁:=λh r=>h.rely r
 simp only[jJ,iF,gM,gy,fI,cQ,f3,bC,Sd.ptr]
 refine iG (n:=10) (m:=30) atRel_refl (λw=>dB w) ?_;u_c stepG_seq rl hF
 u_c stepG_seq rl hF
 u_reg rl hF
 u_op rl hF
 refine Goes.stop λw₁ h₁=>?_
 replace hF:=rl hF h₁
 clear h₁
 refine kM (n:=29) (v:=af I c) rfl rfl (by k_ne) (λw₂ h₂=>?_) ?_
 ·have h:=rl hF h₂;have hc:w₂.cell? (ar fb 0 J)=U (af I c):=by simp[aL,h.f]
  constructor
  ·simp[execOp,go_sem,hc]
  intro e he;simp[go_sem,execOp,hc]at he
  exact⟨_,he,uy,h.lt⟩
 walk_nrm
 refine iG (n:=10) (m:=19) atRel_refl (λw=>dB w) ?_;u_op rl hF
 u_c stepG_region_end rl hF
 u_cond true rl hF
 u_c stepG_seq rl hF
 u_reg rl hF
 u_op rl hF
 refine Goes.stop λw₁ h₁=>?_
 replace hF:=rl hF h₁
 clear h₁
 refine adD (n:=18) (g:=fb) (k:=0) (x:=.tmp 11) (xs:=[af I c,af I p]) rfl rfl (by k_ne) rfl rfl underlying30 rfl (by kernel_rfl) uy (λw₃ h₃=>⟨λj u hu=>?_,(rl hF h₃).lt⟩) ?_
 ·have hf:=(rl hF h₃).f
  match j,hu with
  |0,hu=>cases hu;simp[aL,hf]
  |1,hu=>cases hu;simp[aL,hf]
 walk_nrm
 refine Goes.stop λw₁ h₁=>?_
 refine⟨rl hF h₁,?_⟩;simp only[SV,vW,pB,jJ,iF,gM,gy,fI,cQ,f3,bC];exact⟨_,rfl,rfl,rfl,rfl,rfl⟩
def afL(T:Array aj)(hs:T.size=126)(h9:T[9]?=U (ak J 0 0))(w:ah):Goes prog true AtRel DC0 (λg w'=>AtRel w w'/\zw g) 20 (G ((base fZ).at (Act.put ⟨T,[]⟩ (((vW f3)[2]?).bind (·.dst)) (aJ true)) [.inRegion (vW f3) [3,4,5,6,7,8],.code .ret,.code (pB f3)]) []) w:=by
 obtain⟨y,rfl⟩:=oy T hs;have e9:y 9=ak J 0 0:=by simpa using h9
 simp only[e9];clear hs h9 e9;have hF:AtRel w w:=atRel_refl w;have rl:∀{x x₁:ah},AtRel w x->AtRel x x₁->AtRel w x₁:=λh r=>atRel_trans _ _ _ h r
 simp only[vW,pB,jJ,iF,gM,gy,fI,cQ,f3,bC];walk_nrm
 u_op rl hF
 u_op rl hF
 u_op rl hF
 u_op rl hF
 u_op rl hF
 u_op rl hF
 u_c stepG_region_end rl hF
 u_c stepG_ret' rl hF
 refine Goes.stop λw₁ h₁=>?_
 exact⟨rl hF h₁,_,_,rfl,rfl⟩
def afM(la:Option av)(n cap0:Nat)(m:aj)(sa:Option av)(cap:Nat)(fb:Nat)(p:Int)(w0 w:ah)(eU:∀b,SB b->b<w0.heap.size)(g:Goroutine)(hg:zE (ak la n cap0) m (ak sa n cap) .nilIface fb g)(hF:KA w0 fb 0 p w):Goes prog true AtRel (dF SB) (λg w'=>KA w0 fb 0 p w'/\zH (ak la n cap0) (ak sa n cap) 0 g) 60 g w:=by
 obtain⟨T,hs,h0,h1,h9,h10,h11,rfl⟩:=hg;obtain⟨y,rfl⟩:=oy T hs;have e0:y 0=ak la n cap0:=by simpa using h0
 have e1:y 1=m:=by simpa using h1
 have e9:y 9=ak sa n cap:=by simpa using h9
 have lr:y 10=.nilIface:=by simpa using h10
 have e11:y 11=Sd.ptr fb:=by simpa using h11
 simp only[e0,e1,e9,lr,e11];clear hs h0 h1 h9 h10 h11 e0 e1 e9 lr e11;have uy:¬SB fb:=λh=>by have:=eU _ h;have:=hF.ge;omega
 have rl:∀{x x₁:ah},KA w0 fb 0 p x->AtRel x x₁->KA w0 fb 0 p x₁:=λh r=>h.rely r
 simp only[jJ,iF,gM,gy,fI,cQ,f3,bC,Sd.ptr]
 refine iG (n:=10) (m:=50) atRel_refl (λw=>dB w) ?_;u_c stepG_seq rl hF
 u_c stepG_seq rl hF
 u_reg rl hF
 u_op rl hF
 refine Goes.stop λw₁ h₁=>?_
 replace hF:=rl hF h₁
 clear h₁
 refine kM (n:=49) (v:=af I 0) rfl rfl (by k_ne) (λw₂ h₂=>?_) ?_
 ·have h:=rl hF h₂;have hc:w₂.cell? (ar fb 0 J)=U (af I 0):=by simp[aL,h.f]
  constructor
  ·simp[execOp,go_sem,hc]
  intro e he;simp[go_sem,execOp,hc]at he
  exact⟨_,he,uy,h.lt⟩
 walk_nrm
 refine iG (n:=10) (m:=39) atRel_refl (λw=>dB w) ?_;u_op rl hF
 u_c stepG_region_end rl hF
 u_cond false rl hF
 u_c stepG_skip rl hF
 u_c stepG_seq rl hF
 u_c stepG_seq rl hF
 u_reg rl hF
 u_op rl hF
 refine Goes.stop λw₁ h₁=>?_
 replace hF:=rl hF h₁
 clear h₁
 refine tY (n:=38) rfl rfl (by k_ne) λw₂ h₂=>⟨aJ false,w₂,by kernel_rfl,by kernel_rfl,dB _,?_⟩
 replace hF:=rl hF h₂
 clear h₂;walk_nrm
 refine iG (n:=30) (m:=8) atRel_refl (λw=>dB w) ?_;u_op rl hF
 u_op rl hF
 u_op rl hF
 u_op rl hF
 u_op rl hF
 u_op rl hF
 u_op rl hF
 u_c stepG_region_end rl hF
 u_cond false rl hF
 u_c stepG_skip rl hF
 u_c stepG_seq rl hF
 u_c stepG_seq rl hF
 u_reg rl hF
 u_op rl hF
 u_c stepG_region_end rl hF
 u_c stepG_block rl hF
 u_c stepG_loop rl hF
 refine Goes.stop λw₁ h₁=>Goes.stop λw₂ h₂=>?_
 refine⟨rl (rl hF h₁) h₂,?_⟩;simp only[zH,nk,qw,pB,jJ,iF,gM,gy,fI,cQ,f3,bC];exact⟨_,rfl,rfl,rfl,rfl,rfl⟩
def SX{vals:Nat->Option aj}{c:Nat}(h1:∀j,j<c->(vals j).isSome=true)(h2:∀j,c<=j->vals j=J):∀n,cnt vals n=n-c:=by
 intro n
 induction n with
 |zero=>simp[cnt]
 |succ n ih=>
  simp only[cnt,ih]
  by_cases e:n<c
  ·obtain⟨v,hv⟩:=ou.1 (h1 n e);rw[hv];simp
   omega
  rw[h2 n (by omega)];simp
  omega
def xD(n c:Nat):Array Bool:=((List.range n).map λj=>decide (j<c)).toArray
section
variable {P:Program}{main:Bool}{R:ah->ah->Prop}{D:ah->ah->Array Event->Prop}{ops:Array Oper}{C:(Nat->Option aj)->ah->Prop}{a0:Act}{Stop:Goroutine->ah->Prop}{b:Frame}{k:List Item}{cs:List Frame}{c m:Nat}{last:List Nat}
def afN(hd:BG ops)(dr:∀j d,er ops j=U d->d<a0.tmps.size)(hback:∀i o,ops[i]?=U o->∀e,e∈o.after->Region.binds .any e=true->e.on<i)(zr:∀vals w w₁,C vals w->R w w₁->C vals w₁)(hb:b.kind≠.early)
  (step:∀i o,i<c->ops[i]?=U o->FT P D b.fn .any ops C a0 i o) (hst:∀vals w,C vals w->(∀o,ops[c]?=U o->∀e,e∈o.after->Region.binds .any e=true->(vals e.on).isSome=true)->∀j,j<c->(vals j).isSome=true)
  (oo:∀i,c<i->∀o,ops[i]?=U o->∃e,e∈o.after/\Region.binds .any e=true/\e.on=c) (hcs:c<ops.size) (Lh:∀t,Region.linearise.go .any ops (ops.size-c) t (xD ops.size c) []=last)
  (fin:∀(vals:Nat->Option aj) (w:ah),C vals w->(∀j,j<c->(vals j).isSome=true)->(∀j,c<=j->vals j=J)->Goes P main R D Stop m (G (b.at (fill ops a0 vals ops.size) (.inRegion ops last::k)) cs) w):∀(fuel t:Nat) (listed:Array Bool) (vals:Nat->Option aj) (w:ah),listed.size=ops.size->(∀j,j<ops.size->listed.getD j true=(vals j).isSome)->(∀j,c<=j->vals j=J)->C vals w->cnt vals ops.size=fuel ->
   Goes P main R D Stop (m+fuel) (G (b.at (fill ops a0 vals ops.size) (.inRegion ops (Region.linearise.go .any ops fuel t listed [])::k)) cs) w:=by
 have BH:∀(listed:Array Bool) (vals:Nat->Option aj),listed.size=ops.size->(∀j,j<ops.size->listed.getD j true=(vals j).isSome)->Region.ready .any ops listed=[]->∀j,j<ops.size->(vals j).isSome=true:=by
  intro listed vals hsz hl hr j
  induction j using Nat.strongRecOn with
  |ind j ih=>
   intro hj
   cases hv:(vals j).isSome with
   |true=>rfl
   |false=>
    exfalso
    have hm:j∈Region.ready .any ops listed:=by
     rw[mem_ready]
     refine⟨by rw[hl j hj,hv],_,eB hj,λe he hb=>?_⟩;have hlt:=hback j _ (eB hj) e he hb;have h1:=ih _ hlt (by omega);have h2:=hl e.on (by omega);rw[h1]at h2;have h3:e.on<listed.size:=by omega
     simp only[pD,eB h3,bC]at h2⊢;exact h2
    rw[hr]at hm
    cases hm
 intro fuel
 induction fuel with
 |zero=>
  intro t listed vals w hsz hl hn hC hc;have:=Hg vals ops.size hc c hcs;rw[hn c (aR _)]at this
  cases this
 |succ fuel ih=>
  intro t listed vals w hsz hl hn hC hc;simp only[Region.linearise.go];change Goes P main R D Stop _ (G (b.at _ (.inRegion ops (match (Region.ready .any ops listed)[t%(Region.ready .any ops listed).length]? with
   |some i=>Region.linearise.go .any ops fuel (t / (Region.ready .any ops listed).length) (listed.setIfInBounds i true) [i]
   |none=>[].reverse)::k)) cs) w
  cases hi:(Region.ready .any ops listed)[t%(Region.ready .any ops listed).length]? with
  |none=>
   have hnil:Region.ready .any ops listed=[]:=by
    cases hr:Region.ready .any ops listed with
    |nil=>rfl
    |cons x xs=>
     rw[hr]at hi;have hlt:t%(x::xs).length<(x::xs).length:=Nat.mod_lt _ (by simp);simp at hi
     simp at hlt
     omega
   have:=BH listed vals hsz hl hnil c hcs;rw[hn c (aR _)]at this
   cases this
  |some i=>
   simp only[];have hm:=fQ hi;rw[mem_ready]at hm;obtain⟨h0,o,ho,BI⟩:=hm;have yE:=(bD.1 ho).1;have Li:∀e,e∈o.after->Region.binds .any e=true->(vals e.on).isSome=true:=λe he hb=>by
    have h1:=BI e he hb;have hlt:=hback i o ho e he hb;have h2:=hl e.on (by omega);have h3:e.on<listed.size:=by omega
    rw[<- h2];simp only[pD,eB h3,bC]at h1⊢;exact h1
   rcases Nat.lt_trichotomy i c with CU|rfl|CU
   ·rw[linearise_go_acc,List.reverse_singleton,List.singleton_append];have hnone:vals i=J:=by
     rw[hl i yE]at h0
     cases hv:vals i with
     |none=>rfl
     |some v=>rw[hv]at h0;cases h0
    have dQ:er ops i=o.dst:=by simp[er,ho]
    have sW:∀(v:aj) (w':ah) (t':Nat),C (dE vals i v) w'->Goes P main R D Stop (m+fuel) (G (b.at ((fill ops a0 vals ops.size).put o.dst v) (.inRegion ops (Region.linearise.go .any ops fuel t' (listed.setIfInBounds i true) [])::k)) cs) w':=by
     intro v w' t' wE;rw[<- dQ,<- He ops a0 _ hd i v hnone _ yE]
     refine ih t' _ _ w' (by simp[hsz]) (λj hj=>?_) (λj hj=>by rw[Hh _ _ (by omega)];exact hn j hj) wE (by have:=Hf _ i v hnone _ yE;omega)
     by_cases e:j=i
     ·subst e;simp[dE]
     rw[getD_set_ne _ (ey e),hl j hj];simp[dE,e]
    refine Goes.step rfl λw₁ vB=>?_
    have hs:=step i o CU ho vals (fill ops a0 vals ops.size) w₁ (zr _ w w₁ hC vB) hnone (Eb ..) (λe he hb=>by
     have h4:=Li e he hb;have hlt:=hback i o ho e he hb
     cases hv:vals e.on with
     |none=>rw[hv]at h4;cases h4
     |some v=>exact⟨v,rfl,λd wD=>Hd ops a0 _ hd _ d v hv wD (dr _ _ wD) _ (by omega)⟩)
     (λd rC=>Hc ops a0 vals d ops.size (λj _=>rC j))
    obtain⟨hw,h⟩:=hs
    cases hr:(execOp (fill ops a0 vals ops.size).eval o).run P w₁ with
    |ok n w'=>
     rw[hr]at h
     cases n<;>simp only[tX]at h
     case value u=>
      rw[stepG_value ho hw hb hr];exact⟨h.1,sW _ _ _ h.2⟩
     case skip=>
      rw[stepG_none ho hw hb hr];exact⟨h.1,sW _ _ _ h.2⟩
    |halt x w'=>rw[hr]at h;simp only[tX]at h
   ·have hall:=hst vals w hC λo' afO e he hb=>by
     cases ho.symm.trans afO
     exact Li e he hb
    have afP:listed=xD ops.size i:=by
     refine Array.ext (by simp[xD,hsz]) λj h1 h2=>?_
     have h3:=hl j (by omega);simp only[pD,eB h1,bC]at h3;rw[h3];simp only[xD,List.getElem_toArray,List.getElem_map,List.getElem_range]
     by_cases e:j<i
     ·rw[hall j e];simp[e]
     rw[hn j (by omega)];simp[e]
    have EA:fuel+1=ops.size-i:=by rw[<- hc];exact SX hall hn ops.size
    have h5:=Lh t;rw[<- afP,<- EA]at h5;simp only[Region.linearise.go]at h5;change (match (Region.ready .any ops listed)[t%(Region.ready .any ops listed).length]? with
     |some i=>Region.linearise.go .any ops fuel (t / (Region.ready .any ops listed).length) (listed.setIfInBounds i true) [i]
     |none=>[].reverse)=last at h5
    rw[hi]at h5;simp only[]at h5;rw[h5];exact tD (by omega) (fin vals w hC hall hn)
   obtain⟨e,he,hb',hce⟩:=oo i CU o ho;have:=Li e he hb';rw[hce,hn c (aR _)]at this
   cases this
def afQ{N:Nat}(hN:ops.size=N)(hd:LetsDraw D)(hm:P.follows .mixedOrders=true)(hB:wC ops a0.tmps.size=true)(zr:∀vals w w₁,C vals w->R w w₁->C vals w₁){id:Nat}(hb:b.kind≠.early)
  (h0:∀w₁,R w w₁->C (λ_=>J) { w₁ with drawn:=w₁.drawn+1 }) (step:∀i o,i<c->ops[i]?=U o->FT P D b.fn .any ops C a0 i o) (hst:∀vals w,C vals w->(∀o,ops[c]?=U o->∀e,e∈o.after->Region.binds .any e=true->(vals e.on).isSome=true)->∀j,j<c->(vals j).isSome=true)
  (oo:∀i,c<i->∀o,ops[i]?=U o->∃e,e∈o.after/\Region.binds .any e=true/\e.on=c) (hcs:c<ops.size) (Lh:∀t,Region.linearise.go .any ops (ops.size-c) t (xD ops.size c) []=last)
  (fin:∀(vals:Nat->Option aj) (w:ah),C vals w->(∀j,j<c->(vals j).isSome=true)->(∀j,c<=j->vals j=J)->Goes P main R D Stop m (G (b.at (fill ops a0 vals ops.size) (.inRegion ops last::k)) cs) w):Goes P main R D Stop (m+(N+1)) (G (b.at a0 (.code (.region id ops true)::k)) cs) w:=by
 unfold wC at hB;simp only[kS,mB,pG]at hB;obtain⟨⟨h1,h2⟩,h3⟩:=hB;have hnone:fill ops a0 (λ_=>J) ops.size=a0:=by
  have:∀k,fill ops a0 (λ_=>J) k=a0:=by
   intro k
   induction k with
   |zero=>rfl
   |succ k ih=>simp only[fill,ih]
  exact this _
 rw[<- xK,<- hN]
 refine Goes.step rfl λw₁ vB=>?_
 rw[stepG_region_draw]
 refine⟨hd _,?_⟩;rw[hm];have key:=afN (P:=P) (main:=main) (R:=R) (D:=D) (ops:=ops) (C:=C) (a0:=a0) (Stop:=Stop) (b:=b) (k:=k) (cs:=cs) (c:=c) (m:=m) (last:=last)
  (λi j d hne hi hj=>by
   have h:=h1 i (sV hi) j (sV hj);simp[hne,hi,hj]at h)
  (λj d hj=>by
   have h:=h2 j (sV hj);rw[hj]at h;simpa using h)
  (λi o ho e he hb=>by
   have h:=h3 i (bD.1 ho).1;rw[ho]at h;have:=mB.1 h e (by simpa using he);simpa[hb]using this)
  zr hb step hst oo hcs Lh fin ops.size (w₁.tape w₁.drawn (.order b.fn id)) (Array.replicate ops.size false) (λ_=>J) { w₁ with drawn:=w₁.drawn+1 } (by simp) (λj hj=>by simp[hj]) (λ_ _=>rfl) (h0 w₁ vB) (SX (c:=0) (λj hj=>absurd hj (im _)) (λ_ _=>rfl) ops.size)
 rw[hnone]at key;exact key
end
def vX(f:Func):Array Oper:=match (nk f)with|.seq _ (.seq (.block _ (.seq (.region _ ops _) _)) _)=>ops|_=>#[]
def xE(f:Func):Code:=match (nk f)with|.seq _ (.seq (.block _ (.seq _ c)) _)=>c|_=>.skip
def jb(f:Func):Array Oper:=match (xE f)with|.seq (.region _ ops _) _=>ops|_=>#[]
def GA(f:Func):Code:=match (xE f)with|.seq _ c=>c|_=>.skip
def xF(f:Func):Code:=match (nk f)with|.seq _ (.seq _ c)=>c|_=>.skip
def SY(l v:aj)(i:Nat)(x:aj)(g:Goroutine):Prop:=∃T:Array aj,T.size=126/\T[0]?=U l/\T[9]?=U v/\T[15]?=U (af I i)/\T[115]?=U x /\
 g=G ((base fZ).at ⟨T,[]⟩ [.inRegion (vX f3) [4,5,6,7,8,9,10,11],.code (xE f3),.inBlock 5,.code (xF f3),.inLoop (nk f3),.inBlock 4,.code (qw f3)]) []
def SZ(l v:aj)(i:Nat)(x z:aj)(g:Goroutine):Prop:=∃T:Array aj,T.size=126/\T[0]?=U l/\T[9]?=U v/\T[15]?=U (af I i)/\T[122]?=U x/\T[123]?=U z /\
 g=G ((base fZ).at ⟨T,[]⟩ [.inRegion (jb f3) [5,6],.code (GA f3),.inBlock 5,.code (xF f3),.inLoop (nk f3),.inBlock 4,.code (qw f3)]) []
def afR(la:Option av)(n cap0:Nat)(v:aj)(g:Goroutine)(w:ah)(hg:zH (ak la n cap0) v n g):Goes prog true AtRel DC0 (λg w'=>AtRel w w'/\zw g) 30 g w:=by
 obtain⟨T,hs,h0,h9,ja,rfl⟩:=hg;obtain⟨y,rfl⟩:=oy T hs;have e0:y 0=ak la n cap0:=by simpa using h0
 have e9:y 9=v:=by simpa using h9
 have sL:y 15=af I n:=by simpa using ja
 simp only[e0,e9,sL];clear hs h0 h9 ja e0 e9 sL;have hF:AtRel w w:=atRel_refl w;have rl:∀{x x₁:ah},AtRel w x->AtRel x x₁->AtRel w x₁:=λh r=>atRel_trans _ _ _ h r
 have hlt:¬(n:Int)<(n:Int):=by omega
 simp only[nk,qw,pB,jJ,iF,gM,gy,fI,cQ,f3,bC];u_c stepG_seq rl hF
 u_c stepG_seq rl hF
 u_reg rl hF
 u_op rl hF
 u_op rl hF
 u_op rl hF
 u_op rl hF
 u_c stepG_region_end rl hF
 u_cond false rl hF
 u_exit rl hF
 u_c stepG_seq rl hF
 u_reg rl hF
 u_op rl hF
 u_c stepG_region_end rl hF
 u_c stepG_ret' rl hF
 refine Goes.stop λw₁ h₁=>?_
 exact⟨rl hF h₁,_,_,rfl,rfl⟩
def afS(lb lo n cap0 fb i:Nat)(v:aj)(p:Int)(x:ByteArray)(hi:i<n)(w0 w:ah)(A4:¬SB lb)(hl:lb<w0.heap.size)(hc:w0.cell? ⟨lb,lo+i,J⟩=U (aB x))(g:Goroutine)(hg:zH (ak (U (ar lb lo J)) n cap0) v i g)(hF:KA w0 fb 0 p w):Goes prog true AtRel (dF SB) (λg w'=>KA w0 fb 0 p w'/\SY (ak (U (ar lb lo J)) n cap0) v i (aB x) g) 60 g w:=by
 obtain⟨T,hs,h0,h9,ja,rfl⟩:=hg;obtain⟨y,rfl⟩:=oy T hs;have e0:y 0=ak (U (ar lb lo J)) n cap0:=by simpa using h0
 have e9:y 9=v:=by simpa using h9
 have sL:y 15=af I i:=by simpa using ja
 simp only[e0,e9,sL];clear hs h0 h9 ja e0 e9 sL;have hlt:(i:Int)<(n:Int):=by omega
 have dr:¬n<=i:=by omega
 have cP:=λw:ah=>C4 (P:=prog) (w:=w) (es:=#[]) 22 ⟨lb,lo,J⟩ n cap0 I i (by kernel_rfl) ⟨by omega,by omega⟩
 have rl:∀{x x₁:ah},KA w0 fb 0 p x->AtRel x x₁->KA w0 fb 0 p x₁:=λh r=>h.rely r
 simp only[nk,qw,pB,jJ,iF,gM,gy,fI,cQ,f3,bC]
 refine iG (n:=20) (m:=40) atRel_refl (λw=>dB w) ?_;u_c stepG_seq rl hF
 u_c stepG_seq rl hF
 u_reg rl hF
 u_op rl hF
 u_op rl hF
 u_op rl hF
 u_op rl hF
 u_c stepG_region_end rl hF
 u_cond true rl hF
 u_c stepG_skip rl hF
 u_c stepG_seq rl hF
 u_c stepG_block rl hF
 u_c stepG_seq rl hF
 u_reg rl hF
 u_op rl hF
 u_op rl hF
 refine Goes.stop λw₁ h₁=>?_
 replace hF:=rl hF h₁
 clear h₁
 refine kM (n:=39) (v:=ax (U ⟨lb,lo+i,J⟩)) rfl rfl (by k_ne) (λw₂ h₂=>?_) ?_
 ·constructor
  ·simp[execOp,go_sem,dr]
  intro e he;simp[execOp,go_sem,cP]at he
 walk_nrm
 refine kM (n:=38) (v:=aB x) rfl rfl (by k_ne) (λw₂ h₂=>?_) ?_
 ·have h:=rl hF h₂;have hc:w₂.cell? ⟨lb,lo+i,J⟩=U (aB x):=(jc (a:=⟨lb,lo+i,J⟩) (h.old lb hl)).trans hc
  constructor
  ·simp[execOp,go_sem,hc]
  intro e he;simp[go_sem,execOp,hc]at he
  exact⟨_,he,A4,dK hl h.same.size⟩
 walk_nrm
 refine Goes.stop λw₂ h₂=>?_
 refine⟨rl hF h₂,?_⟩;simp only[SY,vX,xE,xF,nk,qw,pB,jJ,iF,gM,gy,fI,cQ,f3,bC];exact⟨_,rfl,rfl,rfl,rfl,rfl,rfl⟩
structure KB(w0:ah)(fb:Nat)(w:ah):Prop where
 old:∀b,b<w0.heap.size->w.heap[b]?=w0.heap[b]?
 same:bG w0 w
 lf:fb<w0.heap.size
section
variable {w0 w w₁:ah}{fb:Nat}
def KB.rely(h:KB w0 fb w)(r:AtRel w w₁):KB w0 fb w₁:=by
 obtain⟨d,rfl⟩:=r;exact⟨h.old,⟨h.same.os,h.same.o,h.same.tape,h.same.size⟩,h.lf⟩
def KB.lt(h:KB w0 fb w):fb<w.heap.size:=dK h.lf h.same.size
def KB.alloc(h:KB w0 fb w)(o:Obj):KB w0 fb (w.alloc o):=
 ⟨λb hb=>(alloc_old (dK hb h.same.size)).trans (h.old b hb),tZ h.same,h.lf⟩
def KB.kp{N:Nat}(h:KB w0 fb w)(hk:Kp (λb=>b=N) w w₁)(h1:w0.heap.size<=N)(_:N≠fb):KB w0 fb w₁:=
 ⟨λb hb=>(hk.frame b (by omega)).trans (h.old b hb),⟨hk.os.trans h.same.os,hk.o.trans h.same.o,hk.tape.trans h.same.tape,by rw[hk.size];exact h.same.size⟩,h.lf⟩
end
structure KR(w0:ah)(fb:Nat)(b i xb:Nat)(v x z:aj)(cs1 Bj:List aj)(vals:Nat->Option aj)(w:ah):Prop where
 ka:KB w0 fb w
 o:w.rangeAt b (i*5) cs1/\b<w.heap.size
 mine:w.rangeAt xb 0 Bj/\xb<w.heap.size
 v0:∀u,vals 0=U u->u=v
 v1:∀u,vals 1=U u->u=af I i
 v2:∀u,vals 2=U u->u=ax (U ⟨b,i*5,J⟩)
 v3:∀u,vals 3=U u->u=x
 v4:∀u,vals 4=U u->u=z
 d2:vals 2≠J->vals 0≠J/\vals 1≠J
 d3:vals 3≠J->vals 2≠J
section
variable {w0 w w₁:ah}{fb:Nat}{b i xb:Nat}{v x z:aj}{cs1 Bj:List aj}{vals:Nat->Option aj}
def KR.rely(h:KR w0 fb b i xb v x z cs1 Bj vals w)(r:AtRel w w₁):KR w0 fb b i xb v x z cs1 Bj vals w₁:=by
 have hk:=h.ka.rely r;obtain⟨d,rfl⟩:=r;exact⟨hk,h.o,h.mine,h.v0,h.v1,h.v2,h.v3,h.v4,h.d2,h.d3⟩
def GC(vals:Nat->Option aj)(i:Nat)(v:aj)(j:Nat):dE vals i v j=if j=i then U v else vals j:=rfl
def KR.upd{k:Nat}{u:aj}(h:KR w0 fb b i xb v x z cs1 Bj vals w)(h0:k=0->u=v)(h1:k=1->u=af I i)(h2:k=2->u=ax (U ⟨b,i*5,J⟩)/\vals 0≠J/\vals 1≠J)(h3:k=3->u=x/\vals 2≠J)(h4:k=4->u=z):KR w0 fb b i xb v x z cs1 Bj (dE vals k u) w:=by
 have key:∀{j:Nat} {c:aj},(∀u',vals j=U u'->u'=c)->(k=j->u=c)->∀u',dE vals k u j=U u'->u'=c:=λ{j c} ha hb u' hu=>by
  rw[GC]at hu
  by_cases e:j=k
  ·rw[aU e]at hu;cases hu;exact hb e.symm
  rw[aF e]at hu;exact ha u' hu
 have sub:∀{j:Nat},vals j≠J->dE vals k u j≠J:=λ{j} hj=>by
  rw[GC]
  split
  ·simp
  exact hj
 refine⟨h.ka,h.o,h.mine,key h.v0 h0,key h.v1 h1,key h.v2 λe=>(h2 e).1,key h.v3 λe=>(h3 e).1,key h.v4 h4,λhn=>?_,λhn=>?_⟩
 ·rw[GC]at hn
  by_cases e:2=k
  ·exact⟨sub (h2 e.symm).2.1,sub (h2 e.symm).2.2⟩
  rw[aF e]at hn;exact⟨sub (h.d2 hn).1,sub (h.d2 hn).2⟩
 rw[GC]at hn
 by_cases e:3=k
 ·exact sub (h3 e.symm).2
 rw[aF e]at hn;exact sub (h.d3 hn)
end
def afT(t:Nat):Region.linearise.go .any (jb f3) ((jb f3).size-5) t (xD (jb f3).size 5) []=[5,6]:=by
 have e0:(jb f3).size-5=2:=by kernel_rfl
 have e1:Region.ready .any (jb f3) (xD (jb f3).size 5)=[5]:=by kernel_rfl
 have e2:Region.ready .any (jb f3) ((xD (jb f3).size 5).setIfInBounds 5 true)=[6]:=by kernel_rfl
 have step:∀(fuel t:Nat) (l:Array Bool) (acc:List Nat) (i:Nat),Region.ready .any (jb f3) l=[i]->Region.linearise.go .any (jb f3) (fuel+1) t l acc=Region.linearise.go .any (jb f3) fuel (t / 1) (l.setIfInBounds i true) (i::acc):=λfuel t l acc i hr=>by
  simp only[Region.linearise.go];change (match (Region.ready .any (jb f3) l)[t%(Region.ready .any (jb f3) l).length]? with
   |some i=>Region.linearise.go .any (jb f3) fuel (t / (Region.ready .any (jb f3) l).length) (l.setIfInBounds i true) (i::acc)
   |none=>acc.reverse)=_
  rw[hr];simp[Nat.mod_one]
 rw[e0,step _ _ _ _ _ e1,step _ _ _ _ _ e2];rfl
def afU(l:aj)(n fb i:Nat)(cf:aV)(sv n5:aj)(ow:∃sa l c,sv=ak sa l c)(code place:Int)(hi:i<n)(b cap:Nat)(T:Array aj)(hs:T.size=126)(h0:T[0]?=U l)(h9:T[9]?=U (ak (U (ar b 0 J)) n cap))(ja:T[15]?=U (af I i))(w:ah)(eU:∀b,SB b->b<w.heap.size)(afV:¬SB b)(hb:b<w.heap.size)(hr:w.rangeAt b (i*5) (bA cf n5).toList)(hfw:fb<w.heap.size):Goes prog true AtRel (dF SB) (λg w'=>KB w fb w'/\SZ l (ak (U (ar b 0 J)) n cap) i (.agg (bA cf n5)) (.agg (bA cf sv)) g) 100 (G ((base fZ).at (Act.put ⟨T,[]⟩ (((vX f3)[4]?).bind (·.dst)) (aX #[.agg (bA cf sv),a_ #[af I code,af I place]])) [.inRegion (vX f3) [5,6,7,8,9,10,11],.code (xE f3),.inBlock 5,.code (xF f3),.inLoop (nk f3),.inBlock 4,.code (qw f3)]) []) w:=by
 obtain⟨y,rfl⟩:=oy T hs;have e0:y 0=l:=by simpa using h0
 have e9:y 9=ak (U (ar b 0 J)) n cap:=by simpa using h9
 have sL:y 15=af I i:=by simpa using ja
 simp only[e0,e9,sL];clear hs h0 h9 ja e0 e9 sL;have dr:¬n<=i:=by omega
 have cP:=λw:ah=>C4 (P:=prog) (w:=w) (es:=#[]) 24 ⟨b,0,J⟩ n cap I i (by kernel_rfl) ⟨by omega,by omega⟩
 have hF:KB w fb w:=⟨λ_ _=>rfl,⟨rfl,rfl,rfl,aR _⟩,hfw⟩;have rl:∀{x x₁:ah},KB w fb x->AtRel x x₁->KB w fb x₁:=λh r=>h.rely r
 simp only[vX,xE,xF,nk,qw,pB,jJ,iF,gM,gy,fI,cQ,f3,bC]
 refine iG (n:=10) (m:=90) atRel_refl (λw=>dB w) ?_;walk_nrm
 u_op rl hF
 u_op rl hF
 u_op rl hF
 refine Goes.stop λw₁ h₁=>?_
 replace hF:=rl hF h₁
 clear h₁
 refine vC (n:=89) (v:=λN=>ax (U (ar N 0 J))) (ob:=ay #[af I 0,af I 0,af I 0,af I 0,ak J 0 0] 34 (0,0)) rfl rfl (by k_ne) (λw₂ h₂=>⟨by simp[execOp,go_sem],by simp[execOp,go_sem]⟩) λw₂ h₂=>?_
 replace hF:=rl hF h₂
 walk_nrm
 have h1:KB w fb (w₂.alloc (ay #[af I 0,af I 0,af I 0,af I 0,ak J 0 0] 34 (0,0)))/\(w₂.alloc (ay #[af I 0,af I 0,af I 0,af I 0,ak J 0 0] 34 (0,0))).heap[w₂.heap.size]?=U (ay #[af I 0,af I 0,af I 0,af I 0,ak J 0 0] 34 (0,0)):=⟨hF.alloc _,dT _ _⟩;have hx1:w.heap.size<=w₂.heap.size/\w₂.heap.size≠fb:=⟨hF.same.size,by have:=hF.lt;omega⟩;generalize w₂.alloc _=V at h1;generalize w₂.heap.size=xb at h1 hx1;clear hF h₂
 refine vC (n:=88) (v:=λN=>ax (U (ar N 0 J))) (ob:=ay #[af I 0,af I 0] 30 (0,0)) rfl rfl (by k_ne) (λw₂ h₂=>⟨by simp[execOp,go_sem],by simp[execOp,go_sem]⟩) λw₂ h₂=>?_
 have oC:KB w fb w₂/\w₂.heap[xb]?=U (ay #[af I 0,af I 0,af I 0,af I 0,ak J 0 0] 34 (0,0)):=by obtain⟨d,rfl⟩:=h₂;exact⟨rl h1.1 ⟨d,rfl⟩,h1.2⟩
 walk_nrm
 have h2:KB w fb (w₂.alloc (ay #[af I 0,af I 0] 30 (0,0)))/\(w₂.alloc (ay #[af I 0,af I 0] 30 (0,0))).heap[xb]?=U (ay #[af I 0,af I 0,af I 0,af I 0,ak J 0 0] 34 (0,0))/\(w₂.alloc (ay #[af I 0,af I 0] 30 (0,0))).heap[w₂.heap.size]?=U (ay #[af I 0,af I 0] 30 (0,0)):=
  ⟨oC.1.alloc _,(alloc_old (bD.1 oC.2).1).trans oC.2,dT _ _⟩
 have hx2:w.heap.size<=w₂.heap.size/\w₂.heap.size≠fb/\w₂.heap.size≠xb:=⟨oC.1.same.size,by have:=oC.1.lt;omega,by have:=(bD.1 oC.2).1;omega⟩;generalize w₂.alloc _=V2 at h2;generalize w₂.heap.size=yb at h2 hx2;clear h1 oC h₂ V;have Gz:¬SB xb:=λh=>by have:=eU _ h;have:=hx1.1;omega
 have DG:¬SB yb:=λh=>by have:=eU _ h;have:=hx2.1;omega
 refine A0 (n:=87) (g:=xb) (k:=0) (x:=.tmp 16) (y:=.tmp 117) (cells:=bA cf sv) rfl rfl (by k_ne) rfl rfl rfl (by kernel_rfl) (by obtain⟨sa,l',c',rfl⟩:=ow;simp[bA,Value.oneCell']) Gz (λw₁ h₁=>?_) λw₁ h₁=>?_
 ·obtain⟨d,rfl⟩:=h₁;have zF:(V2.at d).heap[xb]?=_:=h2.2.1;exact⟨sg zF 0 (by simp[bA]),(bD.1 h2.2.1).1⟩
 have hk:=Kp.bZ (O:=λb=>b=xb) (g:=xb) rfl (bA cf sv).toList 0 w₁;have h3:KB w fb (w₁.setCells xb 0 (bA cf sv).toList)/\(w₁.setCells xb 0 (bA cf sv).toList).rangeAt xb 0 (bA cf sv).toList/\xb<(w₁.setCells xb 0 (bA cf sv).toList).heap.size/\(w₁.setCells xb 0 (bA cf sv).toList).heap[yb]?=U (ay #[af I 0,af I 0] 30 (0,0)):=by
  obtain⟨d,rfl⟩:=h₁;have zF:(V2.at d).heap[xb]?=_:=h2.2.1;exact⟨(rl h2.1 ⟨d,rfl⟩).kp hk hx1.1 hx1.2,C3 _ xb 0 _ (sg zF 0 (by simp[bA])),by rw[hk.size];exact(bD.1 h2.2.1).1,(hk.frame yb hx2.2.2).trans h2.2.2⟩
 walk_nrm
 generalize w₁.setCells xb 0 _=V3 at h3;clear h2 hk h₁ V2
 refine A0 (n:=86) (g:=yb) (k:=0) (x:=.tmp 17) (y:=.tmp 118) (cells:=#[af I code,af I place]) rfl rfl (by k_ne) rfl rfl rfl (by kernel_rfl) (by simp[Value.oneCell']) DG (λw₁ h₁=>?_) λw₁ h₁=>?_
 ·obtain⟨d,rfl⟩:=h₁;have zG:(V3.at d).heap[yb]?=_:=h3.2.2.2;exact⟨sg zG 0 (by simp),(bD.1 h3.2.2.2).1⟩
 have hk:=Kp.bZ (O:=λb=>b=yb) (g:=yb) rfl [af I code,af I place] 0 w₁;have h4:KB w fb (w₁.setCells yb 0 [af I code,af I place])/\(w₁.setCells yb 0 [af I code,af I place]).rangeAt xb 0 (bA cf sv).toList/\xb<(w₁.setCells yb 0 [af I code,af I place]).heap.size/\(w₁.setCells yb 0 [af I code,af I place]).heap[yb]?=U (ay #[af I code,af I place] 30 (0,0)):=by
  obtain⟨d,rfl⟩:=h₁;have zG:(V3.at d).heap[yb]?=_:=h3.2.2.2;exact⟨(rl h3.1 ⟨d,rfl⟩).kp hk hx2.1 hx2.2.1,tU h3.2.1 (hk.frame xb λe=>hx2.2.2 e.symm),by rw[hk.size];exact h3.2.2.1,Lg zG⟩
 walk_nrm
 generalize w₁.setCells yb 0 _=V4 at h4;clear h3 hk h₁ V3;have hF:=h4;have rl:∀{x x₁:ah},(KB w fb x/\x.rangeAt xb 0 (bA cf sv).toList/\xb<x.heap.size/\x.heap[yb]?=U (ay #[af I code,af I place] 30 (0,0)))->AtRel x x₁->(KB w fb x₁/\x₁.rangeAt xb 0 (bA cf sv).toList/\xb<x₁.heap.size/\x₁.heap[yb]?=U (ay #[af I code,af I place] 30 (0,0))):=λh r=>⟨h.1.rely r,by obtain⟨d,rfl⟩:=r;exact h.2⟩
 refine iG (n:=10) (m:=76) atRel_refl (λw=>dB w) ?_;u_c stepG_region_end rl hF
 u_c stepG_seq rl hF
 refine Goes.stop λw₁ h₁=>?_
 replace hF:=rl hF h₁
 clear h₁ h4;have afW:LetsDraw (dF SB):=λw=>⟨aR _,by simp⟩
 refine tD (show 68+(7+1)<=76 by omega) (afQ (N:=7) (c:=5) (last:=[5,6]) (C:=KR w fb b i xb (ak (U (ar b 0 J)) n cap) (.agg (bA cf n5)) (.agg (bA cf sv)) (bA cf n5).toList (bA cf sv).toList) rfl afW (by kernel_rfl) (by kernel_rfl) (λvals w w₁ h r=>h.rely r) (by k_ne) (λw₂ r=>?_) (λk o hk ho=>?_) (λvals x hC h j hj=>?_) (λk hk o ho=>?_) (by decide) (λt=>?_) (λvals x hC hall hnone=>?_))
 ·have h:=rl hF r;have hb2:b<w₂.heap.size:=dK hb h.1.same.size;exact⟨⟨h.1.old,⟨h.1.same.os,h.1.same.o,h.1.same.tape,h.1.same.size⟩,h.1.lf⟩,⟨tU hr (h.1.old b hb),hb2⟩,⟨h.2.1,h.2.2.1⟩,λ_ h=>(by cases h),λ_ h=>(by cases h),λ_ h=>(by cases h),λ_ h=>(by cases h),λ_ h=>(by cases h),λh=>absurd rfl h,λh=>absurd rfl h⟩
 ·intro vals a x hC hn hsz aY bj;have quiet:∀{u:aj},(execOp a.eval o).run prog x=.ok (.value u) x->(execOp a.eval o).events prog x #[]=#[]->KR w fb b i xb (ak (U (ar b 0 J)) n cap) (.agg (bA cf n5)) (.agg (bA cf sv)) (bA cf n5).toList (bA cf sv).toList (dE vals k u) x->tX (dF SB) (KR w fb b i xb (ak (U (ar b 0 J)) n cap) (.agg (bA cf n5)) (.agg (bA cf sv)) (bA cf n5).toList (bA cf sv).toList) vals k x (listed prog (base fZ).fn a o x) ((execOp a.eval o).run prog x):=λ{u} h1 h2 h3=>by
   rw[h1,listed_nil (b:=base fZ) h2];exact⟨dB _,h3⟩
  have reads:∀{g:Nat} {u:aj},¬SB g->g<x.heap.size->(execOp a.eval o).run prog x=.ok (.value u) x->(∀e∈(execOp a.eval o).events prog x #[],zi g false e)->KR w fb b i xb (ak (U (ar b 0 J)) n cap) (.agg (bA cf n5)) (.agg (bA cf sv)) (bA cf n5).toList (bA cf sv).toList (dE vals k u) x->tX (dF SB) (KR w fb b i xb (ak (U (ar b 0 J)) n cap) (.agg (bA cf n5)) (.agg (bA cf sv)) (bA cf n5).toList (bA cf sv).toList) vals k x (listed prog (base fZ).fn a o x) ((execOp a.eval o).run prog x):=λ{g u} h0 h1 h2 h3 h4=>by
   rw[h2];exact⟨KE (aR _) h0 h1 λe he=>h3 e (mem_listed he),h4⟩
  obtain rfl|rfl|rfl|rfl|rfl:k=0\/k=1\/k=2\/k=3\/k=4:=by omega
  ·cases ho
   have k0:=bj 9 (nB (by kernel_rfl))
   refine⟨rfl,quiet (u:=ak (U (ar b 0 J)) n cap) ?_ ?_ (hC.upd (λ_=>rfl) (λe=>(by cases e)) (λe=>(by cases e)) (λe=>(by cases e)) (λe=>(by cases e)))⟩
   ·generalize a.eval=ρ at k0;simp[execOp,go_sem,k0]
   generalize a.eval=ρ at k0;simp[execOp,go_sem,k0]
  ·cases ho
   have k0:=bj 15 (nB (by kernel_rfl))
   refine⟨rfl,quiet (u:=af I i) ?_ ?_ (hC.upd (λe=>(by cases e)) (λ_=>rfl) (λe=>(by cases e)) (λe=>(by cases e)) (λe=>(by cases e)))⟩
   ·generalize a.eval=ρ at k0;simp[execOp,go_sem,k0]
   generalize a.eval=ρ at k0;simp[execOp,go_sem,k0]
  ·cases ho
   obtain⟨u0,h0,k0⟩:=aY ⟨0,.data⟩ (by simp) rfl;obtain⟨u1,h1,k1⟩:=aY ⟨1,.data⟩ (by simp) rfl;obtain rfl:=hC.v0 _ h0;obtain rfl:=hC.v1 _ h1;have k0:=k0 119 rfl;have k1:=k1 120 rfl
   refine⟨rfl,quiet (u:=ax (U ⟨b,i*5,J⟩)) ?_ ?_ (hC.upd (λe=>(by cases e)) (λe=>(by cases e)) (λ_=>⟨rfl,by rw[h0];simp,by rw[h1];simp⟩) (λe=>(by cases e)) (λe=>(by cases e)))⟩
   ·generalize a.eval=ρ at k0 k1;simp[execOp,go_sem,k0,k1,dr]
   generalize a.eval=ρ at k0 k1;simp[execOp,go_sem,k0,k1,cP]
  ·cases ho
   obtain⟨u2,h2,k2⟩:=aY ⟨2,.data⟩ (by simp) rfl;obtain rfl:=hC.v2 _ h2;have k2:=k2 121 rfl;obtain⟨r1,r2⟩:=FL (P:=prog) (o:=(jb f3).getD 3 default) (a:=a) (x:=.tmp 121) (g:=b) (k:=i*5) (xs:=(bA cf n5).toList) rfl k2 hC.o.1 underlying34 rfl (by kernel_rfl);exact⟨rfl,reads afV hC.o.2 r1 r2 (hC.upd (λe=>(by cases e)) (λe=>(by cases e)) (λe=>(by cases e)) (λ_=>⟨rfl,by rw[h2];simp⟩) (λe=>(by cases e)))⟩
  cases ho
  have k0:=bj 16 (nB (by kernel_rfl));obtain⟨r1,r2⟩:=FL (P:=prog) (o:=(jb f3).getD 4 default) (a:=a) (x:=.tmp 16) (g:=xb) (k:=0) (xs:=(bA cf sv).toList) rfl k0 hC.mine.1 underlying34 rfl (by kernel_rfl);exact⟨rfl,reads Gz hC.mine.2 r1 r2 (hC.upd (λe=>(by cases e)) (λe=>(by cases e)) (λe=>(by cases e)) (λe=>(by cases e)) (λ_=>rfl))⟩
 ·have h3:=h _ rfl ⟨3,.data⟩ (by simp) rfl;have h4:=h _ rfl ⟨4,.data⟩ (by simp) rfl;have n3:vals 3≠J:=λe=>by rw[e]at h3;cases h3
  have n2:=hC.d3 n3;obtain⟨n0,n1⟩:=hC.d2 n2;obtain rfl|rfl|rfl|rfl|rfl:j=0\/j=1\/j=2\/j=3\/j=4:=by omega
  ·exact Option.isSome_iff_ne_none.2 n0
  ·exact Option.isSome_iff_ne_none.2 n1
  ·exact Option.isSome_iff_ne_none.2 n2
  ·exact h3
  exact h4
 ·have hlt:k<7:=by simpa using(bD.1 ho).1
  obtain rfl:k=6:=by omega
  cases ho
  exact⟨⟨5,.data⟩,by simp,rfl,rfl⟩
 ·exact afT t
 obtain⟨u0,e0⟩:=ou.1 (hall 0 (by decide));obtain⟨u1,e1⟩:=ou.1 (hall 1 (by decide));obtain⟨u2,e2⟩:=ou.1 (hall 2 (by decide));obtain⟨u3,e3⟩:=ou.1 (hall 3 (by decide));obtain⟨u4,e4⟩:=ou.1 (hall 4 (by decide));have e5:=hnone 5 (by decide);have e6:=hnone 6 (by decide);obtain rfl:=hC.v3 _ e3;obtain rfl:=hC.v4 _ e4;have hk:=hC.ka;clear hC hall hnone;simp only[fill,er,wT,List.getElem?_cons_succ,vZ,Aa,e0,e1,e2,e3,e4,e5,e6,List.size_toArray,wu,sR,Nat.reduceAdd,pH];walk_nrm
 refine Goes.stop λw₁ h₁=>⟨hk.rely h₁,?_⟩
 simp only[SZ,jb,GA,xE,xF,nk,qw,pB,jJ,iF,gM,gy,fI,cQ,f3,bC];exact⟨_,rfl,rfl,rfl,rfl,rfl,rfl,rfl⟩
def afX(l v:aj)(i:Nat)(hi:i<110)(T:Array aj)(hs:T.size=126)(h0:T[0]?=U l)(h9:T[9]?=U v)(ja:T[15]?=U (af I i))(w:ah):Goes prog true AtRel DC0 (λg w'=>AtRel w w'/\zH l v (i+1) g) 20 (G ((base fZ).at (Act.put ⟨T,[]⟩ (((jb f3)[5]?).bind (·.dst)) (aJ true)) [.inRegion (jb f3) [6],.code (GA f3),.inBlock 5,.code (xF f3),.inLoop (nk f3),.inBlock 4,.code (qw f3)]) []) w:=by
 obtain⟨y,rfl⟩:=oy T hs;have e0:y 0=l:=by simpa using h0
 have e9:y 9=v:=by simpa using h9
 have sL:y 15=af I i:=by simpa using ja
 simp only[e0,e9,sL];clear hs h0 h9 ja e0 e9 sL;have hF:AtRel w w:=atRel_refl w;have rl:∀{x x₁:ah},AtRel w x->AtRel x x₁->AtRel w x₁:=λh r=>atRel_trans _ _ _ h r
 have hw2:IntKind.i64.wrap ((i:Int)+1)=((i+1:Nat):Int):=by rw[zn (by omega) (by omega)];omega
 simp only[jb,GA,xE,xF,nk,qw,pB,jJ,iF,gM,gy,fI,cQ,f3,bC];walk_nrm
 u_op rl hF
 u_c stepG_region_end rl hF
 u_cond false rl hF
 u_c stepG_skip rl hF
 u_c stepG_inBlock rl hF
 u_reg rl hF
 u_op rl hF
 u_op rl hF
 rw[show (i:Int)+1=((i+1:Nat):Int) by omega];u_op rl hF
 u_c stepG_region_end rl hF
 u_c stepG_inLoop rl hF
 refine Goes.stop λw₁ h₁=>⟨rl hF h₁,?_⟩
 simp only[zH,nk,qw,pB,jJ,iF,gM,gy,fI,cQ,f3,bC];exact⟨_,rfl,rfl,rfl,rfl,rfl⟩
def uz(W:ah)(y:aj)(w:ah):Prop:=y=aJ true/\(∀b,b<W.heap.size->w.heap[b]?=W.heap[b]?)/\bG W w
def Lj{W:ah}{g:Goroutine}{q:Nat->Nat}(hB:BS prog SB gs g w t q)(hg:zw g)(hk:∀b,b<W.heap.size->w.heap[b]?=W.heap[b]?)(hs:bG W w):eJ prog (uz W) (crowd gs w sl) t:=by
 obtain⟨T,k,h4,rfl⟩:=hg;have hres:f3.results=#[.tmp 4]:=rfl;have hr:∀w,(results f3 T).runT prog w #[]=(.ok (aJ true) w,#[]):=λw=>by
  rw[Sem.runT_eq,results_tmp hres,events_results_tmp hres];simp[h4]
 exact BS.fin (P:=prog) (SB:=SB) (w:=w) (a:=⟨T,[]⟩) (b:=base fZ) (k:=k) rfl rfl func3 (by kernel_rfl) hr (λd=>⟨rfl,hk,⟨hs.os,hs.o,hs.tape,hs.size⟩⟩) (sumTo gs.size q) gs w.drawn sl t q (aR _) hB
structure qx(s:Sd)(m:Int)(v e:aj)(F SB:Nat->Prop)(W wB:ah)(la:Option av):Prop where
 fin:s.Fin m v e F SB wB
 old:∀b,b<W.heap.size->wB.heap[b]?=W.heap[b]?
 same:bG W wB
 sb:∀b,SB b->b<wB.heap.size
 n110:s.n<=110
 row:∀i,i<s.n->∃lb lo,la=U ⟨lb,lo,J⟩/\¬SB lb/\lb<wB.heap.size/\wB.cell? ⟨lb,lo+i,J⟩=U (aB (s.txt i))
 small:∀i,i<s.n->(s.txt i).size<=8000
section
variable {s:Sd}{m:Int}{v e:aj}{F SB:Nat->Prop}{W wB:ah}{la:Option av}
def qx.ends(h:qx s m v e F SB W wB la){g:Goroutine}{q:Nat->Nat}(hB:BS prog SB gs g w t q)(hg:zw g)(hk:∀b,b<wB.heap.size->w.heap[b]?=wB.heap[b]?)(hs:bG wB w):eJ prog (uz W) (crowd gs w sl) t:=
 Lj hB hg (λb hb=>(hk b (dK hb h.same.size)).trans (h.old b hb)) ⟨hs.os.trans h.same.os,hs.o.trans h.same.o,hs.tape.trans h.same.tape,bH h.same.size hs.size⟩
def GD:(f7.name == "runtime.NumGoroutine")=false:=by kernel_rfl
def S0:(f8.name == "runtime.NumGoroutine")=false:=by kernel_rfl
def S3:(f9.name == "runtime.NumGoroutine")=false:=by kernel_rfl
def S4:(f6.name == "runtime.NumGoroutine")=false:=by kernel_rfl
def qx.third(h:qx s m v e F SB W wB la)(p:Int)(hv:s.vT m 0 p)(cap0 fb:Nat):∀(k i:Nat) (w:ah) (gs:Array Goroutine) (g:Goroutine) (t:Trace) (q:Nat->Nat) (sl:Option (Nat×Nat)),i+k=s.n->BS prog SB gs g w t q->zH (ak la s.n cap0) v i g->KA wB fb 0 p w->eJ prog (uz W) (crowd gs w sl) t:=by
 intro k
 induction k with
 |zero=>
  intro i w gs g t q sl hi hB hg hK;obtain rfl:i=s.n:=by omega
  obtain⟨M,gs',g',d,sl',t',q',r1,-,hE,jT⟩:=hB.quiet (sl:=sl) (afR la s.n cap0 v g w hg);exact eJ.after r1 (h.ends jT hE hK.old ⟨hK.same.os,hK.same.o,hK.same.tape,hK.same.size⟩)
 |succ k ih=>
  intro i w gs g t q sl hi hB hg hK;have dr:i<s.n:=by omega
  have DI:=h.n110;obtain⟨lb,lo,rfl,l1,l2,l3⟩:=h.row i dr;obtain⟨M1,jS,g1,w1,gj,t1,q1,r1,-,⟨lu,T,hs,h0,h9,ja,afY,rfl⟩,js⟩:=BS.goes (P:=prog) (SB:=SB) (60+sumTo gs.size q) 60 gs g w sl t q (aR _) hB (afS lb lo s.n cap0 fb i v p (s.txt i) dr wB w l1 l2 l3 g hg hK);have mD:=h.fin.on lu.old lu.same.size;obtain⟨-,hS,b,cap,n5,rfl,o1,o2,o3,o4,o5⟩:=mD.one hv i dr;obtain⟨M2,cg,w2,gI,t2,q2,sv,code,place,E,r2,gT,ow,hC,qm,fB⟩:=mD.SS (sl:=gj) i (h.small i dr) (ops:=(vX f3)) (j:=4) (rest:=[5,6,7,8,9,10,11]) (o:=(vX f3).getD 4 default) (b:=base fZ) (a:=⟨T,[]⟩) (by kernel_rfl) (by kernel_rfl) (by k_ne)
   (λw₁ _=>by
    have hx:#[Operand.tmp 115].map (Act.eval ⟨T,[]⟩)=#[aB (s.txt i)]:=by simp[Act.eval,afY]
    have h1:=run_call_body (P:=prog) (w:=w₁) (a:=⟨T,[]⟩) (o:=(vX f3).getD 4 default) (args:=#[.tmp 115]) rfl func7 GD rfl;rw[hx]at h1;exact⟨h1,events_call_body (P:=prog) (w:=w₁) (a:=⟨T,[]⟩) (o:=(vX f3).getD 4 default) (args:=#[.tmp 115]) rfl func7 GD rfl _⟩) js
  have afZ:∀b,SB b->b<w1.heap.size:=js.lt;obtain⟨M3,tL,g3,w3,qQ,t3,q3,r3,-,⟨hK3,T3,hs3,k0,k9,af0,af1,af2,rfl⟩,pk⟩:=BS.goes (P:=prog) (SB:=SB) (100+sumTo cg.size q2) 100 cg _ w2 gI t2 q2 (aR _) gT
   (afU (ak (U (ar lb lo J)) s.n cap0) s.n fb i (s.rd i).2 sv n5 ow code place dr b cap T hs h0 h9 ja w2 gT.lt o1 (dK o2 fB.size) (tU o3 (qm b o2)) (dK lu.lt fB.size))
  have rY:∀b,b<w1.heap.size->w3.heap[b]?=w1.heap[b]?:=λb hb=>(hK3.old b (dK hb fB.size)).trans (qm b hb)
  have Ll:w1.heap.size<=w3.heap.size:=bH fB.size hK3.same.size;have hf3:=mD.on rY Ll;have af3:∀b,F b\/s.gs b=true->b<w1.heap.size:=λb hb=>hb.elim (λh'=>mD.kH.lt h') λh'=>(mD.low b (.inl h')).1
  obtain⟨M4,yF,w4,xd,t4,q4,r4,zv,KD,mz⟩:=hf3.same (sl:=qQ) hS o4 (λaf4 k2=>o5 af4 λa ha=>(k2 a ha).trans (jc (rY _ (af3 _ ha)))) (hC.on (λb hb=>dK (mD.low b (.inl hb)).1 fB.size) hK3.old) (λb hb hS=>by have:=(hC.new b hb).1;have:=afZ b hS;omega)
   (ops:=(jb f3)) (j:=5) (rest:=[6]) (o:=(jb f3).getD 5 default) (b:=base fZ) (a:=⟨T3,[]⟩) (by kernel_rfl) (by kernel_rfl) (by k_ne)
   (λw₁ _=>by
    have hx:#[Operand.tmp 122,Operand.tmp 123].map (Act.eval ⟨T3,[]⟩)=#[.agg (bA (s.rd i).2 n5),.agg (bA (s.rd i).2 sv)]:=by simp[Act.eval,af1,af2]
    have h1:=run_call_body (P:=prog) (w:=w₁) (a:=⟨T3,[]⟩) (o:=(jb f3).getD 5 default) (args:=#[.tmp 122,.tmp 123]) rfl func9 S3 rfl;rw[hx]at h1;exact⟨h1,events_call_body (P:=prog) (w:=w₁) (a:=⟨T3,[]⟩) (o:=(jb f3).getD 5 default) (args:=#[.tmp 122,.tmp 123]) rfl func9 S3 rfl _⟩) pk
  obtain⟨M5,Lm,g5,d5,DJ,t5,q5,r5,-,af5,DK⟩:=zv.quiet (sl:=xd) (afX (ak (U (ar lb lo J)) s.n cap0) _ i (by omega) T3 hs3 k0 k9 af0 w4);have af6:KA wB fb 0 p (w4.at d5):=lu.on (λb hb=>(KD b (dK hb Ll)).trans (rY b hb)) ⟨mz.os.trans (hK3.same.os.trans fB.os),mz.o.trans (hK3.same.o.trans fB.o),mz.tape.trans (hK3.same.tape.trans fB.tape),bH Ll mz.size⟩;exact eJ.after r1 (eJ.after r2 (eJ.after r3 (eJ.after r4 (eJ.after r5 (ih (i+1) _ Lm g5 t5 q5 DJ (by omega) DK af5 af6)))))
end
section
variable {s:Sd}{m:Int}{v e:aj}{F SB:Nat->Prop}{W wB w:ah}{la:Option av}
def Sd.Fin.ok(h:s.Fin m v e F SB w)(hv:s.vT m 0 p):∃sa cap,v=ak sa s.n cap/\e=.nilIface:=by
 have hz:fe m s.n=0/\∀i,i<s.n->(s.rd i).1.1=0:=by
  rcases hv with⟨h1,h2,-⟩|⟨-,i,-,-,h1,h2,-⟩|⟨h1,-,h2⟩
  ·exact absurd (by omega) h1
  ·exact absurd (by omega) h1
  exact⟨h1,h2⟩
 rcases h.tell w λ_ _=>rfl with⟨_,⟨_,sa,cap,hy,h3⟩|⟨i',hi',h5,h6,_⟩⟩|⟨h4,_⟩
 ·have he:v=ak sa s.n cap/\e=.nilIface:=by
   have:=iU (λx:aj=>match x with|aX a=>a.toList|_=>[]) hy;simpa using this
  exact⟨sa,cap,he.1,he.2⟩
 ·exact absurd (hz.2 i' hi') h6
 exact absurd hz.1 h4
def Sd.vT.af7(h:s.vT m c p):0<=c:=by
 rcases h with⟨-,rfl,-⟩|⟨-,i,-,-,-,rfl,-⟩|⟨-,rfl,-⟩<;>omega
def qx.S5(h:qx s m v e F SB W wB la)(cap0 fb:Nat)(c p:Int)(hv:s.vT m c p)(w:ah)(gs:Array Goroutine)(g:Goroutine)(t:Trace)(q:Nat->Nat)(sl:Option (Nat×Nat))(hB:BS prog SB gs g w t q)(hg:zE (ak la s.n cap0) (af I m) v e fb g)(hK:KA wB fb c p w):eJ prog (uz W) (crowd gs w sl) t:=by
 by_cases hc:c=0
 ·subst hc;obtain⟨sa,cap,rfl,rfl⟩:=h.fin.ok hv;obtain⟨M1,jS,g1,w1,gj,t1,q1,r1,-,⟨lu,hg1⟩,js⟩:=BS.goes (P:=prog) (SB:=SB) (60+sumTo gs.size q) 60 gs g w sl t q (aR _) hB (afM la s.n cap0 (af I m) sa cap fb p wB w h.sb g hg hK);exact eJ.after r1 (h.third p hv cap0 fb s.n 0 w1 jS g1 t1 q1 gj (pH _) js hg1 lu)
 have jM:0<c:=by have:=hv.af7;omega
 obtain⟨M1,jS,g1,w1,gj,t1,q1,r1,-,⟨lu,T,hs,h9,af8,af9,rfl⟩,js⟩:=BS.goes (P:=prog) (SB:=SB) (40+sumTo gs.size q) 40 gs g w sl t q (aR _) hB (afK (ak la s.n cap0) (af I m) v e fb c p jM wB w h.sb g hg hK);have mD:=h.fin.on lu.old lu.same.size;obtain⟨rfl,-⟩:=mD.err hv hc (λ_ _=>0);obtain⟨M2,cg,w2,gI,t2,q2,r2,gT,qm,fB⟩:=mD.afD (sl:=gj) hv hc (ops:=(vW f3)) (j:=2) (rest:=[3,4,5,6,7,8]) (o:=(vW f3).getD 2 default) (b:=base fZ) (a:=⟨T,[]⟩) (by kernel_rfl) (by kernel_rfl) (by k_ne)
  (λw₁ _=>by
   have hx:#[Operand.tmp 88,Operand.tmp 89].map (Act.eval ⟨T,[]⟩)=#[e,a_ #[af I c,af I p]]:=by simp[Act.eval,af8,af9]
   have h1:=run_call_body (P:=prog) (w:=w₁) (a:=⟨T,[]⟩) (o:=(vW f3).getD 2 default) (args:=#[.tmp 88,.tmp 89]) rfl func8 S0 rfl;rw[hx]at h1;exact⟨h1,events_call_body (P:=prog) (w:=w₁) (a:=⟨T,[]⟩) (o:=(vW f3).getD 2 default) (args:=#[.tmp 88,.tmp 89]) rfl func8 S0 rfl _⟩) js
 obtain⟨M3,tL,g3,d3,qQ,t3,q3,r3,-,hg3,pk⟩:=gT.quiet (sl:=gI) (afL T hs h9 w2);have hK3:KA wB fb c p (w2.at d3):=lu.on (λb hb=>qm b hb) ⟨fB.os,fB.o,fB.tape,fB.size⟩;exact eJ.after r1 (eJ.after r2 (eJ.after r3 (h.ends pk hg3 hK3.old hK3.same)))
def Sd.Inv(s:Sd)(m:Int)(c p:Int)(i:Nat):Prop:=(c≠0/\s.vT m c p)\/(fe m s.n=0/\c=0/\∀j,j<i->(s.rd j).1.1=0)
def qx.second(h:qx s m v e F SB W wB la)(cap0 fb:Nat):∀(k i:Nat) (c p:Int) (w:ah) (gs:Array Goroutine) (g:Goroutine) (t:Trace) (q:Nat->Nat) (sl:Option (Nat×Nat)),i+k=s.n->s.Inv m c p i->BS prog SB gs g w t q->vV (ak la s.n cap0) (af I m) v e fb i g->KA wB fb c p w->eJ prog (uz W) (crowd gs w sl) t:=by
 intro k
 induction k with
 |zero=>
  intro i c p w gs g t q sl hi hI hB hg hK;obtain rfl:i=s.n:=by omega
  obtain⟨M1,jS,g1,w1,gj,t1,q1,r1,-,⟨lu,hg1⟩,js⟩:=BS.goes (P:=prog) (SB:=SB) (80+sumTo gs.size q) 80 gs g w sl t q (aR _) hB (afI la s.n cap0 fb (af I m) v e c p wB w g hg hK)
  refine eJ.after r1 (h.S5 cap0 fb c p ?_ w1 jS g1 t1 q1 gj js hg1 lu)
  rcases hI with⟨-,hv⟩|⟨h1,h2,h3⟩
  ·exact hv
  exact .inr (.inr ⟨h1,h2,h3⟩)
 |succ k ih=>
  intro i c p w gs g t q sl hi hI hB hg hK;have dr:i<s.n:=by omega
  have DI:=h.n110
  rcases hI with⟨hc,hv⟩|⟨h1,rfl,h3⟩
  ·obtain⟨M1,jS,g1,w1,gj,t1,q1,r1,-,⟨lu,hg1⟩,js⟩:=BS.goes (P:=prog) (SB:=SB) (80+sumTo gs.size q) 80 gs g w sl t q (aR _) hB (afH la s.n cap0 fb i (af I m) v e c p hc dr wB w h.sb g hg hK);exact eJ.after r1 (h.S5 cap0 fb c p hv w1 jS g1 t1 q1 gj js hg1 lu)
  obtain⟨lb,lo,rfl,l1,l2,l3⟩:=h.row i dr;obtain⟨M1,jS,g1,w1,gj,t1,q1,r1,-,⟨lu,T,hs,h0,k1,h9,h10,h11,iV,af_,rfl⟩,js⟩:=BS.goes (P:=prog) (SB:=SB) (80+sumTo gs.size q) 80 gs g w sl t q (aR _) hB (afG lb lo s.n cap0 fb i (af I m) v e p (s.txt i) dr wB w h.sb l1 l2 l3 g hg hK);have mD:=h.fin.on lu.old lu.same.size;obtain⟨M2,cg,w2,gI,t2,q2,sv,code,place,E,r2,gT,ow,hC,qm,fB⟩:=mD.SS (sl:=gj) i (h.small i dr) (ops:=(vU f3)) (j:=4) (rest:=[5,6,7,8,9,10,11]) (o:=(vU f3).getD 4 default) (b:=base fZ) (a:=⟨T,[]⟩) (by kernel_rfl) (by kernel_rfl) (by k_ne)
   (λw₁ _=>by
    have hx:#[Operand.tmp 74].map (Act.eval ⟨T,[]⟩)=#[aB (s.txt i)]:=by simp[Act.eval,af_]
    have h1:=run_call_body (P:=prog) (w:=w₁) (a:=⟨T,[]⟩) (o:=(vU f3).getD 4 default) (args:=#[.tmp 74]) rfl func7 GD rfl;rw[hx]at h1;exact⟨h1,events_call_body (P:=prog) (w:=w₁) (a:=⟨T,[]⟩) (o:=(vU f3).getD 4 default) (args:=#[.tmp 74]) rfl func7 GD rfl _⟩) js
  have hK2:KA wB fb 0 p w2:=lu.on qm fB;obtain⟨M3,tL,g3,w3,qQ,t3,q3,r3,-,⟨⟨c',p',hK3,af'⟩,hg3⟩,pk⟩:=BS.goes (P:=prog) (SB:=SB) (80+sumTo cg.size q2) 80 cg _ w2 gI t2 q2 (aR _) gT
   (afJ (ak (U (ar lb lo J)) s.n cap0) (af I m) v e fb i p (s.rd i).2 sv ow code place (by rw[hC.code];omega) (by omega) T hs h0 k1 h9 h10 h11 iV wB w2 h.sb hK2)
  refine eJ.after r1 (eJ.after r2 (eJ.after r3 (ih (i+1) c' p' w3 tL g3 t3 q3 qQ (by omega) ?_ pk hg3 hK3)))
  rcases af' with⟨e1,rfl,rfl⟩|⟨e1,rfl,rfl⟩
  ·refine .inr ⟨h1,rfl,λj hj=>?_⟩
   rcases BW.1 hj with hj|rfl
   ·exact h3 j hj
   have:=hC.code;omega
  have h5:=hC.code;exact .inl ⟨e1,.inr (.inl ⟨h1,i,dr,h3,by omega,h5,rfl⟩)⟩
def qx.all(h:qx s m v e F SB W wB la)(cap0:Nat)(gs:Array Goroutine)(g:Goroutine)(t:Trace)(q:Nat->Nat)(sl:Option (Nat×Nat))(hB:BS prog SB gs g wB t q)(hg:KM (ak la s.n cap0) (af I m) v e s.n g):eJ prog (uz W) (crowd gs wB sl) t:=by
 obtain⟨T,hs,h0,h1,h9,h10,aga,agb,rfl⟩:=hg;obtain⟨M1,jS,w1,gj,t1,q1,r1,js,AZ,hS1⟩:=h.fin.wf (sl:=sl) (ops:=(vD f3)) (j:=3) (rest:=[4,5]) (o:=(vD f3).getD 3 default) (b:=base fZ) (a:=⟨T,[]⟩) (by kernel_rfl) (by kernel_rfl) (by k_ne)
  (λw₁ _=>by
   have hx:#[Operand.tmp 55,Operand.tmp 57].map (Act.eval ⟨T,[]⟩)=#[af I m,af I s.n]:=by simp[Act.eval,aga,agb]
   have h1:=run_call_body (P:=prog) (w:=w₁) (a:=⟨T,[]⟩) (o:=(vD f3).getD 3 default) (args:=#[.tmp 55,.tmp 57]) rfl func6 S4 rfl;rw[hx]at h1;exact⟨h1,events_call_body (P:=prog) (w:=w₁) (a:=⟨T,[]⟩) (o:=(vD f3).getD 3 default) (args:=#[.tmp 55,.tmp 57]) rfl func6 S4 rfl _⟩) hB
 have hL:qx s m v e F SB W w1 la:=⟨h.fin.on AZ hS1.size,λb hb=>(AZ b (dK hb h.same.size)).trans (h.old b hb),⟨hS1.os.trans h.same.os,hS1.o.trans h.same.o,hS1.tape.trans h.same.tape,bH h.same.size hS1.size⟩,λb hb=>dK (h.sb b hb) hS1.size,h.n110,λi hi=>by
  obtain⟨lb,lo,a1,a2,a3,a4⟩:=h.row i hi;exact⟨lb,lo,a1,a2,dK a3 hS1.size,(jc (a:=⟨lb,lo+i,J⟩) (AZ lb a3)).trans a4⟩,h.small⟩
 obtain⟨M2,cg,g2,w2,gI,t2,q2,r2,-,⟨fb,hK2,hg2⟩,gT⟩:=BS.goes (P:=prog) (SB:=SB) (40+sumTo jS.size q1) 40 jS _ w1 gj t1 q1 (aR _) js (afF (ak la s.n cap0) (af I m) v e (fe m s.n) (-1) T hs h0 h1 h9 h10 w1 js.lt)
 refine eJ.after r1 (eJ.after r2 (hL.second cap0 fb s.n 0 _ _ w2 cg g2 t2 q2 gI (pH _) ?_ gT hg2 hK2))
 by_cases hz:fe m s.n=0
 ·exact .inr ⟨hz,by rw[hz];rfl,λj hj=>absurd hj (im _)⟩
 exact .inl ⟨by omega,.inl ⟨hz,rfl,rfl⟩⟩
end
def DL(f:Func):Array Oper:=match (mj f)with|.seq _ (.seq (.seq (.region _ ops _) _) _)=>ops|_=>#[]
def DN(f:Func):Code:=match (mj f)with|.seq _ (.seq (.seq _ c) _)=>c|_=>.skip
def DO(f:Func):Code:=match (mj f)with|.seq _ (.seq _ c)=>c|_=>.skip
def Ln(cs:List Frame)(ty:TypeId)(pv:aj){SB:Nat->Prop}(b₀:Frame)(a₀:Act)(ops₀:Array Oper)(i₀:Nat)(rest₀:List Nat)(k₀:List Item)(x0 x1 x2 x3 x4 x5 x6 x7 x8 x9 dV cr bN cu cD cI cJ bP cK cS:aj)(w:ah):Goes prog true AtRel (dF SB) (λg w'=>AtRel w w'/\g=G (b₀.at (a₀.put ((ops₀[i₀]?).bind (·.dst)) (aX #[ak J 0 0,.iface ty pv])) (.inRegion ops₀ rest₀::k₀)) cs) 30
   (G ((base ub).at ⟨#[x0,x1,x2,x3,x4,x5,x6,x7,x8,x9,.iface ty pv,dV,cr,bN,cu,cD,cI,cJ,bP,cK,cS],[]⟩ [.inRegion (DL f5) [4],.code (DN f5),.code (DO f5)]) (b₀.at a₀ (.inRegion ops₀ (i₀::rest₀)::k₀)::cs)) w:=by
 have hF:AtRel w w:=atRel_refl w;have rl:∀{x x₁:ah},AtRel w x->AtRel x x₁->AtRel w x₁:=λh r=>atRel_trans _ _ _ h r
 simp only[DL,DN,DO,mj,f5,bC]
 refine iG (n:=8) (m:=22) atRel_refl (λw=>dB w) ?_;u_op rl hF
 u_c stepG_region_end rl hF
 u_c stepG_seq rl hF
 u_reg rl hF
 u_op rl hF
 refine Goes.stop λw₁ h₁=>?_
 replace hF:=rl hF h₁
 clear h₁
 refine tY (n:=21) rfl rfl (by k_ne) λw₂ h₂=>⟨aJ true,w₂,by kernel_rfl,by kernel_rfl,dB _,?_⟩
 replace hF:=rl hF h₂
 clear h₂;walk_nrm
 refine iG (n:=20) (m:=1) atRel_refl (λw=>dB w) ?_;u_c stepG_region_end rl hF
 u_cond true rl hF
 u_c stepG_seq rl hF
 u_reg rl hF
 u_op rl hF
 u_op rl hF
 u_op rl hF
 u_c stepG_region_end rl hF
 u_c stepG_ret' rl hF
 u_in rl hF
 refine goes_leave2 rfl rfl func5 rfl ⟨by u_nil,?_⟩;exact Goes.stop λw₁ h₁=>Goes.stop λw₂ h₂=>⟨rl (rl hF h₁) h₂,rfl⟩
def agc(cs:List Frame)(sa:Option av)(n cap:Nat)(m:Int)(hc:fe m n≠0)(A:Nat->av)(b₀:Frame)(a₀:Act)(ops₀:Array Oper)(i₀:Nat)(rest₀:List Nat)(k₀:List Item)(w:ah)(eU:∀b,SB b->b<w.heap.size)(hA:gZ A w)(Lp:∀b,b∈mh->¬SB b)(hg0:∀b,b∈mh->b<w.heap.size):Goes prog true AtRel (dF SB) (λg w'=>((∀b,b<w.heap.size->w'.heap[b]?=w.heap[b]?)/\bG w w')/\g=G (b₀.at (a₀.put ((ops₀[i₀]?).bind (·.dst)) (aX #[ak J 0 0,bF A (fe m n)])) (.inRegion ops₀ rest₀::k₀)) cs) 150
   (G ((base ub).at ⟨(ak sa n cap::af I m::List.replicate 19 undef).toArray,[]⟩ [.code (mj f5)]) (b₀.at a₀ (.inRegion ops₀ (i₀::rest₀)::k₀)::cs)) w:=by
 have hF:w.heap=w.heap/\bG w w:=⟨rfl,rfl,rfl,rfl,aR _⟩;have rl:∀{x x₁:ah},(x.heap=w.heap/\bG w x)->AtRel x x₁->(x₁.heap=w.heap/\bG w x₁):=λh r=>by obtain⟨d,rfl⟩:=r;exact⟨h.1,h.2.os,h.2.o,h.2.tape,h.2.size⟩
 simp only[mj,f5,bC,List.replicate]
 refine iG (n:=2) (m:=148) atRel_refl (λw=>dB w) ?_;u_c stepG_seq rl hF
 u_reg rl hF
 refine Goes.stop λw₁ h₁=>?_
 replace hF:=rl hF h₁
 clear h₁
 refine vC (n:=147) (v:=λN=>ax (U (ar N 0 J))) (ob:=ay #[ak sa n cap] 22 (0,0)) rfl rfl (by k_ne) (λw₂ h₂=>⟨by simp[execOp,go_sem],by simp[execOp,go_sem]⟩) λw₂ h₂=>?_
 replace hF:=rl hF h₂
 walk_nrm
 obtain⟨W,hW⟩:∃W,W=w₂.alloc (ay #[ak sa n cap] 22 (0,0)):=⟨_,rfl⟩;obtain⟨N,hN⟩:∃N,N=w₂.heap.size:=⟨_,rfl⟩;have AW:w.heap.size=N:=by rw[hN,hF.1]
 have Fy:W.heap[N]?=U (ay #[ak sa n cap] 22 (0,0))/\(∀b,b<N->W.heap[b]?=w.heap[b]?)/\bG w W/\N<W.heap.size:=by
  subst hW
  refine⟨by rw[hN];exact dT _ _,λb hb=>(alloc_old (by omega)).trans (by rw[hF.1]),tZ hF.2,?_⟩;show N<(w₂.heap.push _).size
  rw[rK];omega
 rw[<- hW,<- hN];clear hW hN hF rl h₂ w₂;have hF:=Fy;have rl:∀{x x₁:ah},(x.heap[N]?=U (ay #[ak sa n cap] 22 (0,0))/\(∀b,b<N->x.heap[b]?=w.heap[b]?)/\bG w x/\N<x.heap.size)->AtRel x x₁->(x₁.heap[N]?=U (ay #[ak sa n cap] 22 (0,0))/\(∀b,b<N->x₁.heap[b]?=w.heap[b]?)/\bG w x₁/\N<x₁.heap.size):=λh r=>by obtain⟨d,rfl⟩:=r;exact⟨h.1,h.2.1,⟨h.2.2.1.os,h.2.2.1.o,h.2.2.1.tape,h.2.2.1.size⟩,h.2.2.2⟩
 have F0:¬SB N:=λh=>by have:=eU N h;omega
 refine iG (n:=10) (m:=137) atRel_refl (λw=>dB w) ?_;u_op rl hF
 u_op rl hF
 u_c stepG_region_end rl hF
 u_c stepG_seq rl hF
 u_c stepG_seq rl hF
 u_reg rl hF
 refine Goes.stop λw₁ h₁=>?_
 replace hF:=rl hF h₁
 clear h₁
 refine kM (n:=136) (v:=ak sa n cap) rfl rfl (by k_ne) (λw₂ h₂=>?_) ?_
 ·have h:=rl hF h₂;have hc:w₂.cell? (ar N 0 J)=U (ak sa n cap):=by simp[aL,h.1]
  constructor
  ·simp[execOp,go_sem,hc]
  intro e he;simp[go_sem,execOp,hc]at he
  exact⟨⟨N,0,J⟩,he,F0,h.2.2.2⟩
 walk_nrm
 have fin:∀{x x':ah},(x.heap[N]?=U (ay #[ak sa n cap] 22 (0,0))/\(∀b,b<N->x.heap[b]?=w.heap[b]?)/\bG w x/\N<x.heap.size)->AtRel x x'->(∀b,b<w.heap.size->x'.heap[b]?=w.heap[b]?)/\bG w x':=λh r=>by
  have:=rl h r;exact⟨λb hb=>this.2.1 b (by omega),this.2.2.1⟩
 have Lq:∀{x:ah} (g:Nat) (u:aj),g∈mh->w.cell? (ar g 0 J)=U u->(x.heap[N]?=U (ay #[ak sa n cap] 22 (0,0))/\(∀b,b<N->x.heap[b]?=w.heap[b]?)/\bG w x/\N<x.heap.size)->x.cell? (ar g 0 J)=U u/\g<x.heap.size:=λ{x} g u hg hu h=>by
  have hl:=hg0 g hg;exact⟨(jc (a:=⟨g,0,J⟩) (h.2.1 g (by omega))).trans hu,by have:=h.2.2.2;omega⟩
 refine iG (n:=30) (m:=106) atRel_refl (λw=>dB w) ?_;u_op rl hF
 u_op rl hF
 u_call func10 QY f10 rl hF
 u_c stepG_seq rl hF
 u_reg rl hF
 u_op rl hF
 u_c stepG_region_end rl hF
 u_c stepG_seq rl hF
 u_c stepG_block rl hF
 u_c stepG_seq rl hF
 u_reg rl hF
 u_op rl hF
 by_cases b1:m<1
 ·u_op rl hF
  u_op rl hF
  u_skip rl hF
  u_skip rl hF
  u_op rl hF
  u_op rl hF
  u_c stepG_region_end rl hF
  u_cond true rl hF
  u_c stepG_seq rl hF
  u_reg rl hF
  refine Goes.stop λw₁ h₁=>?_
  replace hF:=rl hF h₁
  clear h₁
  refine kM (n:=105) (v:=.iface 238 (ax (U (A 2)))) rfl rfl (by k_ne) (λw₂ h₂=>?_) ?_
  ·obtain⟨hc,hl⟩:=Lq 0 _ (by simp[mh]) hA.c2 (rl hF h₂)
   constructor
   ·simp[execOp,go_sem,hc]
   intro e he;simp[go_sem,execOp,hc]at he
   exact⟨_,he,Lp _ (by simp[mh]),hl⟩
  walk_nrm
  refine iG (n:=10) (m:=95) atRel_refl (λw=>dB w) ?_;u_op rl hF
  u_c stepG_region_end rl hF
  u_c stepG_ret' rl hF
  u_leave1 func10 rl hF
  refine Goes.stop λw₁ h₁=>?_
  replace hF:=rl hF h₁
  clear h₁;have hw:fe m n=3:=by unfold fe;simp[b1]
  have key:=Ln cs 238 (ax (U (A 2))) (SB:=SB) b₀ a₀ ops₀ i₀ rest₀ k₀ (ak sa n cap) (af I m) (ax (U (ar N 0 J))) undef (ak J 0 0) .nilIface undef (ak sa n cap) (af I n) (af I m) undef undef undef undef undef undef undef undef undef undef w₁;simp only[DL,DN,DO,mj,f5,bC]at key;rw[hw];exact tD (show 30<=95 by omega) (Go.ConcN.goes_mono (λg w' ⟨r,e⟩=>⟨fin hF r,e⟩) key)
 by_cases b2:16<m
 ·u_op rl hF
  u_op rl hF
  u_op rl hF
  u_op rl hF
  u_op rl hF
  u_op rl hF
  u_c stepG_region_end rl hF
  u_cond true rl hF
  u_c stepG_seq rl hF
  u_reg rl hF
  refine Goes.stop λw₁ h₁=>?_
  replace hF:=rl hF h₁
  clear h₁
  refine kM (n:=105) (v:=.iface 238 (ax (U (A 2)))) rfl rfl (by k_ne) (λw₂ h₂=>?_) ?_
  ·obtain⟨hc,hl⟩:=Lq 0 _ (by simp[mh]) hA.c2 (rl hF h₂)
   constructor
   ·simp[execOp,go_sem,hc]
   intro e he;simp[go_sem,execOp,hc]at he
   exact⟨_,he,Lp _ (by simp[mh]),hl⟩
  walk_nrm
  refine iG (n:=10) (m:=95) atRel_refl (λw=>dB w) ?_;u_op rl hF
  u_c stepG_region_end rl hF
  u_c stepG_ret' rl hF
  u_leave1 func10 rl hF
  refine Goes.stop λw₁ h₁=>?_
  replace hF:=rl hF h₁
  clear h₁;have hw:fe m n=3:=by unfold fe;simp[b2]
  have key:=Ln cs 238 (ax (U (A 2))) (SB:=SB) b₀ a₀ ops₀ i₀ rest₀ k₀ (ak sa n cap) (af I m) (ax (U (ar N 0 J))) undef (ak J 0 0) .nilIface undef (ak sa n cap) (af I n) (af I m) undef undef undef undef undef undef undef undef undef undef w₁;simp only[DL,DN,DO,mj,f5,bC]at key;rw[hw];exact tD (show 30<=95 by omega) (Go.ConcN.goes_mono (λg w' ⟨r,e⟩=>⟨fin hF r,e⟩) key)
 have h3:100<n:=by
  by_cases h:100<n
  ·exact h
  exact absurd (by unfold fe;simp[b1,b2,h]) hc
 have b3:(100:Int)<(n:Int):=by omega
 u_op rl hF
 u_op rl hF
 u_op rl hF
 u_op rl hF
 u_op rl hF
 u_op rl hF
 u_c stepG_region_end rl hF
 u_cond false rl hF
 u_c stepG_seq rl hF
 u_reg rl hF
 u_op rl hF
 u_op rl hF
 u_op rl hF
 u_c stepG_region_end rl hF
 u_cond true rl hF
 u_c stepG_seq rl hF
 u_reg rl hF
 refine Goes.stop λw₁ h₁=>?_
 replace hF:=rl hF h₁
 clear h₁
 refine kM (n:=105) (v:=.iface 238 (ax (U (A 1)))) rfl rfl (by k_ne) (λw₂ h₂=>?_) ?_
 ·obtain⟨hc,hl⟩:=Lq 1 _ (by simp[mh]) hA.c1 (rl hF h₂)
  constructor
  ·simp[execOp,go_sem,hc]
  intro e he;simp[go_sem,execOp,hc]at he
  exact⟨_,he,Lp _ (by simp[mh]),hl⟩
 walk_nrm
 refine iG (n:=10) (m:=95) atRel_refl (λw=>dB w) ?_;u_op rl hF
 u_c stepG_region_end rl hF
 u_c stepG_ret' rl hF
 u_leave1 func10 rl hF
 refine Goes.stop λw₁ h₁=>?_
 replace hF:=rl hF h₁
 clear h₁;have hw:fe m n=2:=by unfold fe;simp[b1,b2,h3]
 have key:=Ln cs 238 (ax (U (A 1))) (SB:=SB) b₀ a₀ ops₀ i₀ rest₀ k₀ (ak sa n cap) (af I m) (ax (U (ar N 0 J))) undef (ak J 0 0) .nilIface undef (ak sa n cap) (af I n) (af I m) undef undef undef undef undef undef undef undef undef undef w₁;simp only[DL,DN,DO,mj,f5,bC]at key;rw[hw];exact tD (show 30<=95 by omega) (Go.ConcN.goes_mono (λg w' ⟨r,e⟩=>⟨fin hF r,e⟩) key)
def S6:(gf aM (bl px)).1.1=0/\(gf aM (bl px)).2.opn=2:=by
 constructor<;>kernel_rfl
def mY.mono{B B' n:Nat}{v:aj}{txt:Nat->ByteArray}(h:mY B w v n txt)(hB:B'<=B):mY B' w v n txt:=by
 rcases h with h|⟨g,cap,cur,rfl,h1,h2⟩
 ·exact .inl h
 exact .inr ⟨g,cap,cur,rfl,bH hB h1,h2⟩
def Sd.Out.fin{s:Sd}{m:Int}{v e:aj}{F:Nat->Prop}(h:s.Out v e F w)(hw:fe m s.n=0)(hF:∀b,F b->¬SB b)(low:∀b,s.gs b=true\/s.ts b=true->b<w.heap.size/\¬SB b)(s12:∀g,g∈mh->s.gs g=true)(tA:∀i,i<11->s.ts (s.A i).block=true)(gl:∀x,qV.contains x=true->s.gs x=true\/s.ts x=true):s.Fin m v e F SB w:=
 ⟨h.kH,h.no,hF,h.rv,h.re,λw2 k=>.inl ⟨hw,h.told w2 k⟩,h.kn,low,s12,tA,gl⟩
section
variable {A:Nat->av}{g0 ts:Nat->Bool}{W:ah}{la:Option av}{n cap0:Nat}{m:Int}{txt:Nat->ByteArray}
def pw.bad(hG:pw A g0 ts W)(k:∀b,b<W.heap.size->w.heap[b]?=W.heap[b]?)(hs:W.heap.size<=w.heap.size)(eU:∀b,SB b->W.heap.size<=b)(v:aj)(hc:fe m n≠0):(ml A g0 ts n v 2 2 txt W).Fin m (ak J 0 0) (bF A (fe m n)) (λ_=>False) SB w:=by
 have h:=hG.on k hs;have e0:g0 2=true:=hG.s8 _ (by simp);have yz:∀b,(ml A g0 ts n v 2 2 txt W).gs b=true->g0 b=true:=λb hb=>by
  rcases nU.1 hb with hb|rfl|rfl
  ·exact hb
  ·exact e0
  exact e0
 have iV:fe m n<=3:=by
  unfold fe
  split
  ·omega
  split<;>omega
 refine⟨λ_ hb=>hb.elim,λ_ hb=>hb.elim,λ_ hb=>hb.elim,gX.2 ⟨_,rfl,rfl⟩,?_,λ_ _=>.inr ⟨hc,rfl,rfl⟩,⟨h.eQ,λb hb=>?_,λb hb=>⟨?_,(h.tk b hb).2⟩,h.g⟩,λb hb=>?_,λg hg=>nU.2 (.inl (hG.s12 g hg)),hG.tA,λx hx=>(hG.gl x hx).imp (λz=>nU.2 (.inl z)) id⟩
 ·obtain⟨j,hj⟩:=FK hc;rw[hj];exact jh.2 ⟨_,rfl,gW.2 ⟨_,rfl,_,rfl,.inr (.inr ⟨rfl,hG.tA j (by omega)⟩),rfl,rfl⟩⟩
 ·obtain⟨c,e,h1,h2⟩:=h.ro b (yz b hb);exact⟨c,e,h1,h2 _⟩
 ·cases e:(ml A g0 ts n v 2 2 txt W).gs b with
  |false=>rfl
  |true=>
   have:=yz b e;rw[(h.tk b hb).1]at this
   cases this
 have hl:=hG.lt (hb.imp (yz b) id);exact⟨by omega,λhS=>by have:=eU b hS;omega⟩
def S7:fe 2 1=0:=by decide
def agd{W0:ah}{N:Nat}(eU:∀b,SB b->b<N)(hn:n<=110)(hsz:∀i,i<n->(txt i).size<=1000000000000000)(hrow:∀i,i<n->∃lb lo,la=U ⟨lb,lo,J⟩/\¬SB lb/\lb<N/\W0.cell? ⟨lb,lo+i,J⟩=U (aB (txt i)))(Post:aj->ah->Prop)
  (hend:∀(gs:Array Goroutine) (g:Goroutine) (w:ah) (t:Trace) (q:Nat->Nat) (sl:Option (Nat×Nat)),BS prog SB gs g w t q->zw g->(∀b,b<N->w.heap[b]?=W0.heap[b]?)->bG W0 w->eJ prog Post (crowd gs w sl) t)
  (age:∀(own:aj) (nn:Nat) (gs:Array Goroutine) (g:Goroutine) (w:ah) (t:Trace) (q:Nat->Nat) (sl:Option (Nat×Nat)),(∀i,i<n->(txt i).size<=4000)->BS prog SB gs g w t q->xr (ak la n cap0) (af I m) nn n own g->KQ W0 N own n txt w->eJ prog Post (crowd gs w sl) t):∀(k i nn:Nat) (own:aj) (w:ah) (gs:Array Goroutine) (g:Goroutine) (t:Trace) (q:Nat->Nat) (sl:Option (Nat×Nat)),i+k=n->nn<=4000->(∀j,j<i->(txt j).size<=4000)->BS prog SB gs g w t q->xr (ak la n cap0) (af I m) nn i own g->KQ W0 N own i txt w->eJ prog Post (crowd gs w sl) t:=by
 intro k
 induction k with
 |zero=>
  intro i nn own w gs g t q sl hi _ hz hB hg hK;obtain rfl:i=n:=by omega
  exact age own nn gs g w t q sl hz hB hg hK
 |succ k ih=>
  intro i nn own w gs g t q sl hi F7 hz hB hg hK;have dr:i<n:=by omega
  obtain⟨lb,lo,rfl,l1,l2,l3⟩:=hrow i dr;obtain⟨M1,jS,g1,w1,gj,t1,q1,r1,-,hS1,js⟩:=BS.goes (P:=prog) (SB:=SB) (120+sumTo gs.size q) 120 gs g w sl t q (aR _) hB (adP lb lo n cap0 nn i (af I m) own txt dr hn F7 (hsz i dr) W0 w N eU l1 l2 l3 g hg hK)
  rcases hS1 with⟨h1,F8,lu,hg1⟩|⟨-,h1,h2,hg1⟩
  ·refine eJ.after r1 (ih (i+1) _ F8 w1 jS g1 t1 q1 gj (by omega) h1 (λj hj=>?_) js hg1 lu)
   rcases BW.1 hj with hj|rfl
   ·exact hz j hj
   omega
  exact eJ.after r1 (hend jS g1 w1 t1 q1 gj js hg1 h1 h2)
def agf(hG:pw A g0 ts W)(hn:n<=9223372036854775807)(hsz:∀i,i<n->(txt i).size<=1000000000000000)(hrow:∀i,i<n->∃lb lo,la=U ⟨lb,lo,J⟩/\lb<W.heap.size/\W.cell? ⟨lb,lo+i,J⟩=U (aB (txt i)))(sl:Option (Nat×Nat)):eJ prog (uz W) (crowd #[G ((base fZ).at ⟨(ak la n cap0::af I m::List.replicate 124 undef).toArray,[]⟩ [.code (cQ f3)]) []] W sl) #[]:=by
 obtain⟨M1,jS,g1,w1,gj,t1,q1,r1,-,⟨⟨a1,a2,a3,a4⟩,x1,x2,x3,rfl⟩,js⟩:=BS.goes (P:=prog) (SB:=λ_=>False) _ 60 _ _ W sl #[] (λ_=>0) (aR _) (BS.first _ W) (adN (ak la n cap0) (af I m) W)
 refine eJ.after r1 ?_;have agh:mY W.heap.size w1 (ak (U (ar W.heap.size 0 J)) 1 1) 1 (λ_=>px):=by
  refine .inr ⟨_,1,_,rfl,aR _,a1,aR _,by decide,rfl,λi hi=>?_,λi u hu=>?_⟩
  ·obtain rfl:i=0:=by omega
   rfl
  obtain _|i:=i
  ·cases hu;exact⟨_,rfl⟩
  simp at hu
 obtain⟨rb,M2,cg,w2,gI,t2,q2,v,e,F,SB,r2,-,gT,agi,hF2,S8,qm,fB,agj⟩:=Q9 (n:=1) (txt:=λ_=>px) (sl:=gj) hG 2 (by omega) (by omega) (λi _=>by decide) a2 (by omega) (λb hb=>hb.elim) agh (λg _ hb=>hb) js
 refine eJ.after r2 ?_;have KF:(ml A g0 ts 1 (ak (U (ar W.heap.size 0 J)) 1 1) w1.heap.size rb (λ_=>px) W).Fin 2 v e F SB w2:=S8.fin S7 (λb hb=>(hF2 b hb).2) (λb hb=>by
  obtain⟨h1,h2⟩:=agj b hb
  refine⟨?_,h2⟩;have hz:=fB.size
  rcases eC b w2.heap.size with h3|h3
  ·exact h3
  obtain rfl:b=w1.heap.size:=by omega
  rcases hb with hb|hb
  ·obtain⟨c,ty,e4,-⟩:=S8.kn.ro _ hb;exact(bD.1 e4).1
  have:=hG.lt (.inr hb);omega) (λg hg=>nU.2 (.inl (hG.s12 g hg))) hG.tA λx hx=>(hG.gl x hx).imp (λz=>nU.2 (.inl z)) id
 obtain⟨rfl,-,b,cap,sv,rfl,o1,o2,o3,-⟩:=KF.one (p:=0) (.inr (.inr ⟨S7,rfl,λi _=>S6.1⟩)) 0 (by show 0<1;omega);have agk:w2.cell? (ar b 1 J)=U (af I 2):=by
  have:=o3 1 _ rfl;rw[show (0*5+1:Nat)=1 from rfl]at this;rw[this];exact iU (λz=>U (Value.int I z)) S6.2
 have zI:∀b,SB b->W.heap.size<b:=λb hb=>(agi b hb).elim (λh=>h.elim) λh=>by omega
 have hW2:∀b,b<W.heap.size->w2.heap[b]?=W.heap[b]?:=λb hb=>(qm b (by omega) id).trans (a2 b hb)
 have oD:bG W w2:=⟨fB.os.trans a4.os,fB.o.trans a4.o,fB.tape.trans a4.tape,bH a4.size fB.size⟩;obtain⟨M3,tL,g3,w3,qQ,t3,q3,r3,-,⟨⟨d3,rfl⟩,agl⟩,pk⟩:=BS.goes (P:=prog) (SB:=SB) (100+sumTo cg.size q2) 100 cg _ w2 gI t2 q2 (aR _) gT (adO la n cap0 (af I m) hn (aJ false) x1 x2 x3 (ak (U (ar W.heap.size 0 J)) 1 1) b cap w2 o1 o2 agk)
 refine eJ.after r3 ?_
 rcases agl with⟨DI,hg3⟩|⟨-,hg3⟩
 ·refine agd (SB:=SB) (W0:=w2.at d3) (N:=w2.heap.size) pk.lt DI hsz (λi hi=>?_) (uz W) (λgs g w t q sl hB hg h1 h2=>Lj hB hg (λb hb=>(h1 b (by have:=oD.size;omega)).trans (hW2 b hb)) ⟨h2.os.trans oD.os,h2.o.trans oD.o,h2.tape.trans oD.tape,bH oD.size h2.size⟩) (λown nn gs g w t q sl hz hB hg hK=>?_) n 0 0 (ak J 0 0) _ tL g3 t3 q3 qQ (pH _) (cG _) (λj hj=>absurd hj (im _)) pk hg3 ⟨.inl ⟨rfl,rfl⟩,λ_ _=>rfl,⟨rfl,rfl,rfl,aR _⟩,aR _⟩
  ·obtain⟨lb,lo,e1,e2,e3⟩:=hrow i hi;exact⟨lb,lo,e1,λh=>by have:=zI _ h;omega,by have:=oD.size;omega,(jc (a:=⟨lb,lo+i,J⟩) (hW2 lb e2)).trans e3⟩
  have hz2:=oD.size;have GF:∀b,b<W.heap.size->w.heap[b]?=W.heap[b]?:=λb hb=>(hK.old b (by omega)).trans (hW2 b hb)
  have mz:bG W w:=⟨hK.same.os.trans oD.os,hK.same.o.trans oD.o,hK.same.tape.trans oD.tape,bH oD.size hK.same.size⟩;obtain⟨M4,yF,g4,d4,xd,t4,q4,r4,-,⟨T,hs,h0,h1,rfl⟩,zv⟩:=hB.quiet (sl:=sl) (adQ la n cap0 nn (af I m) own g w hg)
  refine eJ.after r4 ?_;have S9:∀(w':ah) (pq:Nat->Prop),(∀b,b<W.heap.size->w'.heap[b]?=W.heap[b]?)->(∀b,pq b->W.heap.size<=b)->W.heap.size<=w'.heap.size->∀i,i<n->∃lb lo,la=U ⟨lb,lo,J⟩/\¬pq lb/\lb<w'.heap.size/\w'.cell? ⟨lb,lo+i,J⟩=U (aB (txt i)):=λw' pq k1 k2 k3 i hi=>by
   obtain⟨lb,lo,e1,e2,e3⟩:=hrow i hi;exact⟨lb,lo,e1,λh=>by have:=k2 _ h;omega,by omega,(jc (a:=⟨lb,lo+i,J⟩) (k1 lb e2)).trans e3⟩
  by_cases hc:fe m n=0
  ·have hb:1<=m/\m<=16/\n<=100:=by
    unfold fe at hc
    by_cases h1:m<1\/16<m
    ·simp[h1]at hc
    by_cases h2:100<n
    ·simp[h1,h2]at hc
    omega
   obtain⟨mn,rfl⟩:∃mn:Nat,m=mn:=⟨m.toNat,by omega⟩;obtain⟨S_,M5,Lm,w5,DJ,t5,q5,v5,e5,F5,GG,r5,-,DK,agm,agn,Ta,Lr,vY,ago⟩:=Q9 (n:=n) (txt:=txt) (v:=own) (w:=w.at d4) (sl:=xd) hG mn (by omega) hb.2.2 (λi hi=>bH (hz i hi) (by omega)) (λb hb=>GF b hb) mz.size (λb hb=>Nat.le_of_lt (zI b hb)) ((hK.at' d4).row.mono hz2) (λg hg hS=>by have:=(hK.row.lt hg).1;have:=pk.lt g hS;have:g<w2.heap.size:=this;omega) zv
   refine eJ.after r5 ?_;have agp:∀b,GG b->W.heap.size<=b:=λb hb=>(agm b hb).elim (λh=>Nat.le_of_lt (zI b h)) λh=>by have:=mz.size;have h:w.heap.size<b:=h;omega
   have nT:∀b,b<W.heap.size->w5.heap[b]?=W.heap[b]?:=λb hb=>(Lr b (by have:=mz.size;show b<w.heap.size;omega) λh=>by have:=zI b h;omega).trans (GF b hb)
   have qy:bG W w5:=⟨vY.os.trans mz.os,vY.o.trans mz.o,vY.tape.trans mz.tape,bH mz.size vY.size⟩;have agq:(ml A g0 ts n own (w.at d4).heap.size S_ txt W).Fin mn v5 e5 F5 GG w5:=Ta.fin hc (λb hb=>(agn b hb).2) (λb hb=>by
    obtain⟨h1,h2⟩:=ago b hb
    refine⟨?_,h2⟩
    rcases hb with hb|hb
    ·obtain⟨c,ty,e4,-⟩:=Ta.kn.ro _ hb;exact(bD.1 e4).1
    have:=hG.lt (.inr hb);have:=qy.size;omega) (λg hg=>nU.2 (.inl (hG.s12 g hg))) hG.tA λx hx=>(hG.gl x hx).imp (λz=>nU.2 (.inl z)) id
   obtain⟨M6,Ls,g6,d6,Lt,t6,q6,r6,-,C5,DR⟩:=DK.quiet (sl:=DJ) (Rh la n cap0 (af I mn) v5 e5 T hs h0 h1 w5)
   refine eJ.after r6 ?_;have hL:qx (ml A g0 ts n own (w.at d4).heap.size S_ txt W) mn v5 e5 F5 GG W (w5.at d6) la:=⟨agq.on (λ_ _=>rfl) (aR _),nT,⟨qy.os,qy.o,qy.tape,qy.size⟩,DR.lt,DI,S9 (w5.at d6) GG nT agp qy.size,λi hi=>bH (hz i hi) (by omega)⟩;exact hL.all cap0 Ls g6 t6 q6 Lt DR C5
  obtain⟨sa,cap',rfl⟩:∃sa cap',own=ak sa n cap':=by
   rcases hK.row with⟨rfl,rfl⟩|⟨g,cap,cur,rfl,-⟩
   ·exact⟨_,_,rfl⟩
   exact⟨_,_,rfl⟩
  have Tb:=hG.on (w':=w.at d4) GF mz.size;obtain⟨M5,Lm,g5,w5,DJ,t5,q5,r5,-,⟨⟨Lr,vY⟩,rfl⟩,DK⟩:=BS.goes (P:=prog) (SB:=SB) (150+sumTo yF.size q4) 150 yF _ (w.at d4) xd t4 q4 (aR _) zv (agc [] sa n cap' m hc A (base fZ) ⟨T,[]⟩ (A5 f3) 2 [3,4,5,6,7] [.code (gM f3)] (w.at d4) zv.lt Tb.eQ (λb hb hS=>by have:=zI b hS;have:=hG.lt (.inl (hG.s12 b hb));omega) λb hb=>Tb.lt (.inl (hG.s12 b hb)))
  refine eJ.after r5 ?_;have nT:∀b,b<W.heap.size->w5.heap[b]?=W.heap[b]?:=λb hb=>(Lr b (by have:=mz.size;show b<w.heap.size;omega)).trans (GF b hb)
  have qy:bG W w5:=⟨vY.os.trans mz.os,vY.o.trans mz.o,vY.tape.trans mz.tape,bH mz.size vY.size⟩;obtain⟨M6,Ls,g6,d6,Lt,t6,q6,r6,-,C5,DR⟩:=DK.quiet (sl:=DJ) (Rh la n cap0 (af I m) (ak J 0 0) (bF A (fe m n)) T hs h0 h1 w5)
  refine eJ.after r6 ?_;have hL:qx (ml A g0 ts n (ak sa n cap') 2 2 txt W) m (ak J 0 0) (bF A (fe m n)) (λ_=>False) SB W (w5.at d6) la:=⟨hG.bad (w:=w5.at d6) nT qy.size (λb hb=>Nat.le_of_lt (zI b hb)) _ hc,nT,⟨qy.os,qy.o,qy.tape,qy.size⟩,DR.lt,DI,S9 (w5.at d6) SB nT (λb hb=>Nat.le_of_lt (zI b hb)) qy.size,λi hi=>bH (hz i hi) (by omega)⟩;exact hL.all cap0 Ls g6 t6 q6 Lt DR C5
 exact Lj pk hg3 hW2 ⟨oD.os,oD.o,oD.tape,oD.size⟩
end
open Go.ChangeShapes
def agr:prog.globalNamed "errors.errorType" = U 11:=by kernel_rfl
def rt:(prog.cutTypes.find? (·.1 == "internal/reflectlite.rtype")).map (·.2)=U 176:=by kernel_rfl
def ags:((List.range 270).filter λt=>prog.rowNamed t [101,114,114,111,114])=[26]:=by kernel_rfl
def agt:prog.types.size=270:=by kernel_rfl
def g6:prog.globalNamed "nightwatch/api.ErrFull" = U 6:=by kernel_rfl
def g7:prog.globalNamed "nightwatch/api.ErrOff" = U 7:=by kernel_rfl
def g8:prog.globalNamed "nightwatch/api.ErrIdle" = U 8:=by kernel_rfl
def g9:prog.globalNamed "nightwatch/api.ErrHeld" = U 9:=by kernel_rfl
def g10:prog.globalNamed "nightwatch/api.ErrReset" = U 10:=by kernel_rfl
def Bl:List (String×List UInt8):=[("nightwatch/api.ErrText", [110, 105, 103, 104, 116, 119, 97, 116, 99, 104, 58, 32, 116, 101, 120, 116]), ("nightwatch/api.ErrBound", [110, 105, 103, 104, 116, 119, 97, 116, 99, 104, 58, 32, 98, 111, 117, 110, 100]), ("nightwatch/api.ErrShape", [110, 105, 103, 104, 116, 119, 97, 116, 99, 104, 58, 32, 115, 104, 97, 112, 101]), ("nightwatch/api.ErrName", [110, 105, 103, 104, 116, 119, 97, 116, 99, 104, 58, 32, 110, 97, 109, 101]), ("nightwatch/api.ErrNone", [110, 105, 103, 104, 116, 119, 97, 116, 99, 104, 58, 32, 110, 111, 110, 101]), ("nightwatch/api.ErrExist", [110, 105, 103, 104, 116, 119, 97, 116, 99, 104, 58, 32, 101, 120, 105, 115, 116]), ("nightwatch/api.ErrFull", [110, 105, 103, 104, 116, 119, 97, 116, 99, 104, 58, 32, 102, 117, 108, 108]), ("nightwatch/api.ErrOff", [110, 105, 103, 104, 116, 119, 97, 116, 99, 104, 58, 32, 111, 102, 102]), ("nightwatch/api.ErrIdle", [110, 105, 103, 104, 116, 119, 97, 116, 99, 104, 58, 32, 105, 100, 108, 101]), ("nightwatch/api.ErrHeld", [110, 105, 103, 104, 116, 119, 97, 116, 99, 104, 58, 32, 104, 101, 108, 100]), ("nightwatch/api.ErrReset", [110, 105, 103, 104, 116, 119, 97, 116, 99, 104, 58, 32, 114, 101, 115, 101, 116])]
def agu:(Bl.map λx=>(prog.globalNamed x.1).bind λg=>(prog.globals[g]?).map (·.type))=List.replicate 11 (U 26):=by kernel_rfl
def zJ:List (String×DataW Unit):=[("unicode/utf8.acceptRanges", Rows.laid_unicode_utf8_acceptRanges), ("errors.errorType", Rows.laid_errors_errorType), ("nightwatch/api.ErrText", Rows.laid_nightwatch_api_ErrText), ("nightwatch/api.ErrBound", Rows.laid_nightwatch_api_ErrBound), ("nightwatch/api.ErrShape", Rows.laid_nightwatch_api_ErrShape), ("nightwatch/api.ErrName", Rows.laid_nightwatch_api_ErrName), ("nightwatch/api.ErrNone", Rows.laid_nightwatch_api_ErrNone), ("nightwatch/api.ErrExist", Rows.laid_nightwatch_api_ErrExist), ("nightwatch/api.ErrFull", Rows.laid_nightwatch_api_ErrFull), ("nightwatch/api.ErrOff", Rows.laid_nightwatch_api_ErrOff), ("nightwatch/api.ErrIdle", Rows.laid_nightwatch_api_ErrIdle), ("nightwatch/api.ErrHeld", Rows.laid_nightwatch_api_ErrHeld), ("nightwatch/api.ErrReset", Rows.laid_nightwatch_api_ErrReset), ("nightwatch/conf.keywords", Rows.laid_nightwatch_conf_keywords), ("unicode/utf8.first", Rows.laid_unicode_utf8_first)]
def qz:List (String×DataW Unit):=[("unicode/utf8.acceptRanges", Rows.laid_unicode_utf8_acceptRanges), ("nightwatch/api.ErrText", Rows.laid_nightwatch_api_ErrText), ("nightwatch/api.ErrBound", Rows.laid_nightwatch_api_ErrBound), ("nightwatch/api.ErrShape", Rows.laid_nightwatch_api_ErrShape), ("nightwatch/api.ErrName", Rows.laid_nightwatch_api_ErrName), ("nightwatch/api.ErrNone", Rows.laid_nightwatch_api_ErrNone), ("nightwatch/api.ErrExist", Rows.laid_nightwatch_api_ErrExist), ("nightwatch/api.ErrFull", Rows.laid_nightwatch_api_ErrFull), ("nightwatch/api.ErrOff", Rows.laid_nightwatch_api_ErrOff), ("nightwatch/api.ErrIdle", Rows.laid_nightwatch_api_ErrIdle), ("nightwatch/api.ErrHeld", Rows.laid_nightwatch_api_ErrHeld), ("nightwatch/api.ErrReset", Rows.laid_nightwatch_api_ErrReset), ("nightwatch/conf.keywords", Rows.laid_nightwatch_conf_keywords), ("unicode/utf8.first", Rows.laid_unicode_utf8_first)]
def agv(W:ah):laidMetH prog zJ W=(laidMet prog qz W ∧ handlesMet prog [("errors.errorType", Rows.laid_errors_errorType)] W):=by kernel_rfl
def agw:qz=[("unicode/utf8.acceptRanges", Rows.laid_unicode_utf8_acceptRanges)] ++ (L8 Bl ++ ([("nightwatch/conf.keywords", Rows.laid_nightwatch_conf_keywords)] ++ [("unicode/utf8.first", Rows.laid_unicode_utf8_first)])):=rfl
def n6:List Nat:=[2,1,0,3,4,5,6,7,8,9,10,11,12,13]
def DT:List Nat:=[15,14]
def Tc:(n6.map λg=>(decide (g<prog.globals.size),(((begin prog (λ_ _=>0) default).world.heap[g]?).bind Obj.row?).map λx=>x.1.size))=List.replicate 12 (true,U 1)++[(true,U 10),(true,U 1)]:=by kernel_rfl
def agx:(DT.map λg=>(decide (g<prog.globals.size),((((begin prog (λ_ _=>0) default).world.heap[g]?).bind Obj.row?).map λ_=>true)))=[(true,U true),(true,U true)]:=by kernel_rfl
def Td:prog.globals.size=16:=by kernel_rfl
def agy:(((begin prog (λ_ _=>0) default).world.heap[16]?).map λo=>match o with|ay _ _ fz=>decide (fz=(0,0))|_=>false)=U true:=by kernel_rfl
def Lu{P:Program}{W:ah}(h:W.ShapedOpen P)(hg:g<P.globals.size){α:Type}{f:Array aj->α}{y:α}(e:((((begin P (λ_ _=>0) default).world.heap[g]?).bind Obj.row?).map λx=>f x.1)=U y):∃zero c t,f zero=y/\W.heap[g]?=U (ay c t (0,0))/\c.size=zero.size:=by
 obtain⟨⟨zero,t⟩,h1,h2⟩:=jz.1 e;obtain⟨cs,h3,h4,-⟩:=h.1 g zero t hg h1;exact⟨zero,cs,t,h2,h3,h4⟩
def agz{W:ah}(h:W.ShapedOpen prog):∃c t,W.heap[16]?=U (ay c t (0,0)):=by
 obtain⟨o,h1,h2⟩:=jz.1 agy;obtain⟨o',o₀,h3,h4,h5⟩:=h.2 16 (uX Td) (bD.1 h1).1;obtain rfl:=b_ (h1.symm.trans h4);rw[aF (by rw[Td];decide)]at h5;subst h5
 cases o' with
 |cells c t fz=>
  simp only[decide_eq_true_eq]at h2;subst h2;exact⟨c,t,h3⟩
 |_=>cases h2
def agA{β:aK}{W:ah}{c:Array aj}{fz:Nat×Nat}{v:aj}(h:W.heap[g]?=U (ay c e fz))(hs:c.size=1)(hv:W.cell? (ar g 0 J)=U v)(hr:RV β v v):RL β c c:=bh.BU λx hx=>by
 obtain⟨i,hi,rfl⟩:=xH.1 hx;obtain rfl:i=0:=by omega
 have e:W.cell? (ar g 0 J)=c[0]?:=by simp[aL,h]
 rw[e,eB hi]at hv;rw[b_ hv];exact hr
def Te{W:ah}{a:av}{c:Array aj}{fz:Nat×Nat}{v:aj}(h:W.heap[a.block]?=U (ay c e fz))(ha:W.cell? a=U v):c[a.off]?=U v:=by
 unfold aL at ha;rw[h]at ha;simp only at ha
 split at ha
 ·cases ha
 exact ha
def agB{W:ah}{c:Array aj}{fz:Nat×Nat}{v:aj}{a:av}{z:ByteArray}(h:W.heap[g]?=U (ay c e fz))(hs:c.size=1)(hv:W.cell? (ar g 0 J)=U v)(hn:∀z,v≠aB z)(ha:W.cell? a=U (aB z)):a.block≠g:=λe'=>by
 have e1:W.cell? (ar g 0 J)=c[0]?:=by simp[aL,h]
 replace ha:=Te (e'▸h) ha
 obtain⟨hlt,-⟩:=bD.1 ha;have h0:a.off=0:=by omega
 rw[h0,<- e1,hv]at ha;exact hn z (b_ ha)
def agC{W:ah}(h:laidMetH prog zJ W)(lF:W.ShapedOpen prog):∃(A:Nat->av) (g0 ts:Nat->Bool),pw A g0 ts W:=by
 rw[agv]at h;obtain⟨⟨aic,hl0,agD,agE⟩,hh⟩:=h;rw[agw]at hl0;obtain⟨p1,r1,rfl,-,hl0⟩:=D7 _ _ _ hl0;obtain⟨ps,r3,rfl,hl,hl0⟩:=D7 _ _ _ hl0;obtain⟨p4,r4,rfl,Tf,-⟩:=D7 _ _ _ hl0;have Tg:(ps++(p4++r4)).Nodup:=(List.nodup_append.1 agD).2.1;have rC:ps.Nodup:=(List.nodup_append.1 Tg).1;have BF:∀b off,MemPlace.cell b off∈ps->_:=λb off hm=>agE b off (by simp[hm])
 have yz:∀x,x∈Bl->∃g,prog.globalNamed x.1=U g/\(prog.globals[g]?).map (·.type)=U 26:=λx hx=>by
  have h1:((prog.globalNamed x.1).bind λg=>(prog.globals[g]?).map (·.type))∈List.replicate 11 (U 26):=by
   rw[<- agu];exact List.mem_map_of_mem hx
  have h2:=List.eq_of_mem_replicate h1;simp only[Ej]at h2;obtain⟨g,a,b⟩:=h2;exact⟨g,a,b⟩
 obtain⟨A,hv,hr,hp,hne,ht⟩:=Ul underlying26 Uo underlying238 underlying259 rfl rfl underlying9 Up G4 Bl ps yz hl rC BF;have het:W.cell? (ar 11 0 J)=U (.iface 176 (.agg #[.pointer (U (ar 16 26 J))])):=by
  obtain⟨name,u,ty,e1,e2,e3,e4,e5⟩:=hh _ (p_.2 rfl);have en:name=[101,114,114,111,114]:=(b_ e1).symm;subst en;obtain rfl:=b_ (rt.symm.trans e2);have hm:ty∈(List.range 270).filter λt=>prog.rowNamed t [101,114,114,111,114]:=List.mem_filter.2 ⟨pG.2 (by rw[<- agt];exact e3),e4⟩
  rw[ags]at hm;obtain rfl:=p_.1 hm;have hh:typeHandle prog 26=.pointer (U (ar 16 26 J)):=by kernel_rfl
  rw[hh]at e5;simpa using oK agr e5 0
 have hS:gZ A W:=⟨by simpa using oK g0 (hv 0 _ rfl) 0,by simpa using oK g1 (hv 1 _ rfl) 0,by simpa using oK g2 (hv 2 _ rfl) 0,by simpa using oK g3 (hv 3 _ rfl) 0,by simpa using oK g4 (hv 4 _ rfl) 0,by simpa using oK g5 (hv 5 _ rfl) 0,by simpa using oK g6 (hv 6 _ rfl) 0,by simpa using oK g7 (hv 7 _ rfl) 0,by simpa using oK g8 (hv 8 _ rfl) 0,by simpa using oK g9 (hv 9 _ rfl) 0,by simpa using oK g10 (hv 10 _ rfl) 0,het,λi hi=>hr i hi,λi j hi hj=>hne i j hi hj⟩;have hK:=Uu Tf;have hM:nP W:=G0.s1_3 W lF;have zl:∀i,i<11->∃z,W.cell? (A i)=U (.string z):=λi hi=>by
  have e:Bl[i]?=U (Bl.getD i ("", [0])):=by rw [nu, bL (by exact hi)]; rfl
  exact⟨_,ht i _ e⟩
 have hro:∀k g,n6[k]?=U g->k≠12->∃c t,W.heap[g]?=U (.cells c t (0,0))/\c.size=1:=λk g hk iV=>by
  have h1:=iU (λl=>l[k]?) Tc;simp only[iT,hk,rM]at h1;have iq:k<14:=(eK.1 hk).1;have h2:(List.replicate 12 (true,U 1)++[(true,U 10),(true,U 1)])[k]?=U (true,U 1):=by
   by_cases hlt:k<12
   ·rw[qC (by simpa using hlt),List.getElem?_replicate,aU hlt]
   obtain rfl:k=13:=by omega
   rfl
  rw[h2]at h1;obtain⟨h3,h4⟩:=o6 (b_ h1);obtain⟨z,c,t,e1,e2,e3⟩:=Lu lF (aD h3) (f:=Array.size) h4;exact⟨c,t,e2,e3.trans e1⟩
 obtain⟨ck,tk,ek,sk⟩:∃c t,W.heap[12]?=U (.cells c t (0,0))/\c.size=10:=by
  have h1:=iU (λl=>l[12]?) Tc;obtain⟨h3,h4⟩:=o6 (b_ h1);obtain⟨z,c,t,e1,e2,e3⟩:=Lu lF (aD h3) (f:=Array.size) h4;exact⟨c,t,e2,e3.trans e1⟩
 have IB:∀g,g∈DT->∃c t,W.heap[g]?=U (.cells c t (0,0)):=λg hg=>by
  obtain⟨k,hk⟩:=AP.1 hg;have h1:=iU (λl=>l[k]?) agx;simp only[iT,hk,rM]at h1;have iq:k<2:=(eK.1 hk).1;have h2:[(true,U true),(true,U true)][k]?=U (true,U true):=by
   match k,iq with
   |0,_=>rfl
   |1,_=>rfl
  rw[h2]at h1;obtain⟨h3,h4⟩:=o6 (b_ h1);obtain⟨z,c,t,e1,e2,e3⟩:=Lu lF (aD h3) (f:=λ_=>true) h4;exact⟨c,t,e2⟩
 obtain⟨cn,tn,en⟩:=agz lF;obtain⟨mx,hmx⟩:=id hM;have Ti:∀k g,n6[k]?=U g->k≠12->∃v,W.cell? (ar g 0 J)=U v/\(∀z,v≠.string z)/\((∃i,i<11/\v=.iface 238 (.pointer (U (A i))))\/v=.iface 176 (.agg #[.pointer (U (ar 16 26 J))])\/∃m,v=.int .i64 m):=λk g hk iV=>by
  have iq:k<14:=(eK.1 hk).1
  match k,iq,hk with
  |0,_,hk=>obtain rfl:=b_ hk;exact⟨_,hS.c0,(λ_ h=>by cases h),.inl ⟨0,by omega,rfl⟩⟩
  |1,_,hk=>obtain rfl:=b_ hk;exact⟨_,hS.c1,(λ_ h=>by cases h),.inl ⟨1,by omega,rfl⟩⟩
  |2,_,hk=>obtain rfl:=b_ hk;exact⟨_,hS.c2,(λ_ h=>by cases h),.inl ⟨2,by omega,rfl⟩⟩
  |3,_,hk=>obtain rfl:=b_ hk;exact⟨_,hS.c3,(λ_ h=>by cases h),.inl ⟨3,by omega,rfl⟩⟩
  |4,_,hk=>obtain rfl:=b_ hk;exact⟨_,hS.c4,(λ_ h=>by cases h),.inl ⟨4,by omega,rfl⟩⟩
  |5,_,hk=>obtain rfl:=b_ hk;exact⟨_,hS.c5,(λ_ h=>by cases h),.inl ⟨5,by omega,rfl⟩⟩
  |6,_,hk=>obtain rfl:=b_ hk;exact⟨_,hS.c6,(λ_ h=>by cases h),.inl ⟨6,by omega,rfl⟩⟩
  |7,_,hk=>obtain rfl:=b_ hk;exact⟨_,hS.c7,(λ_ h=>by cases h),.inl ⟨7,by omega,rfl⟩⟩
  |8,_,hk=>obtain rfl:=b_ hk;exact⟨_,hS.c8,(λ_ h=>by cases h),.inl ⟨8,by omega,rfl⟩⟩
  |9,_,hk=>obtain rfl:=b_ hk;exact⟨_,hS.c9,(λ_ h=>by cases h),.inl ⟨9,by omega,rfl⟩⟩
  |10,_,hk=>obtain rfl:=b_ hk;exact⟨_,hS.c10,(λ_ h=>by cases h),.inl ⟨10,by omega,rfl⟩⟩
  |11,_,hk=>obtain rfl:=b_ hk;exact⟨_,hS.et,(λ_ h=>by cases h),.inr (.inl rfl)⟩
  |12,_,_=>exact absurd rfl iV
  |13,_,hk=>obtain rfl:=b_ hk;exact⟨_,hmx,(λ_ h=>by cases h),.inr (.inr ⟨mx,rfl⟩)⟩
 have hA:∀i,i<11->n6.contains (A i).block=false:=λi hi=>by
  obtain⟨z,hz⟩:=zl i hi
  refine Bool.eq_false_iff.2 λhc=>?_
  obtain⟨k,hk⟩:=AP.1 (x_.1 hc)
  by_cases iV:k=12
  ·subst iV;have hb:12=(A i).block:=b_ hk;obtain⟨g',t',cs,fuel,p,q,gS,L_,D9,hd,hq,rfl⟩:=Tf;obtain rfl:=b_ (D8.symm.trans gS);have e1:(A i).off<ck.size:=by
    exact(bD.1 (Te (hb▸ek) hz)).1
   have e3:cs=ck:=by
    simp only[World.var?,D8,Aa,ek,gQ]at D9;exact D9.symm
   have dr:MemPlace.cell (A i).block (A i).off∈MemPlace.row ⟨12,0,J⟩ cs.size++p++q++r4:=by
    refine Bu _ (Bu _ (Bu _ ?_));rw[MemPlace.row,e3];exact pJ.2 ⟨(A i).off,pG.2 e1,by simp[hb]⟩
   exact(List.nodup_append.1 Tg).2.2 _ (hp i hi) _ dr rfl
  obtain⟨c,t,e1,e2⟩:=hro k _ hk iV;obtain⟨v,e3,e4,-⟩:=Ti k _ hk iV;exact agB e1 e2 e3 e4 hz rfl
 let g0:Nat->Bool:=λb=>n6.contains b
 let ts:Nat->Bool:=λb=>!n6.contains b&&((List.range 11).any (λi=>(A i).block==b)||DT.contains b||b==16)
 have Tj:∀i,i<11->ts (A i).block=true:=λi hi=>by
  show (!n6.contains (A i).block&&_)=true
  rw[hA i hi];have:(List.range 11).any (λj=>(A j).block==(A i).block)=true:=pC.2 ⟨i,pG.2 hi,rX _⟩;rw[this];rfl
 have FR:ts 16=true:=by
  show (!n6.contains 16&&(_||_||(16==16)))=true
  rw[show n6.contains 16=false from rfl];simp
 have ptr:∀(gs:Nat->Bool) (a:av),ts a.block=true->RV (h_ (λ_=>False) gs ts (λf=>fH.contains f=true) 16) (.pointer (U a)) (.pointer (U a)):=λgs a ha=>rN ⟨.inr (.inr ⟨rfl,ha⟩),rfl,rfl⟩
 refine⟨A,g0,ts,⟨hS,hK,hM,λb hb=>?_,λb hb=>?_,?_,?_,?_,Tj,λx hx=>?_⟩⟩
 ·obtain⟨k,hk⟩:=AP.1 (x_.1 hb)
  by_cases iV:k=12
  ·subst iV;obtain rfl:=b_ hk
   refine⟨ck,tk,ek,λgs=>bh.BU λx hx=>?_⟩;obtain⟨i,hi,rfl⟩:=xH.1 hx;have e2:W.cell? (ar 12 i J)=ck[i]?:=by simp[aL,ek]
   have e3:=hK i (by omega);rw[e2,eB hi]at e3;rw[b_ e3];exact jg.2 rfl
  obtain⟨c,t,e1,e2⟩:=hro k _ hk iV;obtain⟨v,e3,-,e4⟩:=Ti k _ hk iV
  refine⟨c,t,e1,λgs=>agA e1 e2 e3 ?_⟩
  rcases e4 with⟨i,hi,rfl⟩|rfl|⟨m,rfl⟩
  ·exact jh.2 ⟨_,rfl,ptr gs _ (Tj i hi)⟩
  ·exact jh.2 ⟨_,rfl,gH.2 ⟨_,rfl,bh.one (ptr gs _ FR)⟩⟩
  exact cO.2 rfl
 ·have hb':(!n6.contains b&&((List.range 11).any (λi=>(A i).block==b)||DT.contains b||b==16))=true:=hb;rw[kS,Bool.or_eq_true,Bool.or_eq_true]at hb';obtain⟨h1,h2⟩:=hb'
  refine⟨(Bool.not_eq_true' (n6.contains b))▸h1,?_⟩
  rcases h2 with(h2|h2)|h2
  ·obtain⟨i,hi,e⟩:=pC.1 h2;obtain rfl:=eq_of_beq e;exact hr i (pG.1 hi)
  ·exact IB b (x_.1 h2)
  obtain rfl:=eq_of_beq h2;exact⟨cn,tn,en⟩
 ·exact Nat.le_of_lt (bD.1 en).1
 ·intro g hg;have:=mB.1 (show ([2,1,0,3,4,5,12,13].all λg=>n6.contains g)=true from rfl);exact this g hg
 ·intro g hg;have:=mB.1 (show (mh.all λg=>n6.contains g)=true from rfl);exact this g hg
 have:=mB.1 (show (qV.l.all λx=>n6.contains x||(DT.contains x||x==16))=true from rfl) x (x_.1 hx);rw[Bool.or_eq_true,Bool.or_eq_true,og]at this
 rcases this with h1|h1
 ·exact .inl h1
 cases hc:n6.contains x with
 |true=>exact .inl hc
 |false=>
  refine .inr ?_;show (!n6.contains x&&_)=true
  rw[hc]
  rcases h1 with h1|rfl
  ·rw[h1];simp
  simp
def agF(os:Os)(args:Array aj):laidMetH prog zJ ((World.layVars prog ({ World.holding prog os ⟨#[],#[],[]⟩with heap:=⟨Lay.setRows (World.holding prog os ⟨#[],#[],[]⟩).heap.toList [(11,[(.iface 176 (.agg #[.pointer (U (ar 16 26 J))]))])]⟩ }:ah) qz).forCall (λ_ _=>0) ⟨#[],args,[]⟩).memory:=by
 refine laidMetH_of_parts ?_ (by kernel_rfl);have e0:(zJ.filter λx=>x.2.handleName?.isNone)=qz:=by kernel_rfl
 rw[e0];have e1:(qz.filter λx=>(qz.map (·.1)).contains x.1)=qz:=List.filter_eq_self.2 λx hx=>x_.2 (pJ.2 ⟨x,hx,rfl⟩)
 have e2:(qz.filter λx=>!(qz.map (·.1)).contains x.1)=[]:=List.filter_eq_nil_iff.2 λx hx=>by rw[x_.2 (pJ.2 ⟨x,hx,rfl⟩)];simp
 have h:laidMet prog qz (World.layVars prog ({ World.holding prog os ⟨#[],#[],[]⟩with heap:=⟨Lay.setRows (World.holding prog os ⟨#[],#[],[]⟩).heap.toList [(11,[(.iface 176 (.agg #[.pointer (U (ar 16 26 J))]))])]⟩ }:ah) qz):=laidMet_layVars (w0:=({ World.holding prog os ⟨#[],#[],[]⟩with heap:=⟨Lay.setRows (World.holding prog os ⟨#[],#[],[]⟩).heap.toList [(11,[(.iface 176 (.agg #[.pointer (U (ar 16 26 J))]))])]⟩ }:ah)) (qz.map (·.1)) [] (by rw[e1]) (by rw[e1];kernel_rfl) (by rw[e1];kernel_rfl) (by rw[e2];exact LaidIn.none);exact h.of_heap (by simp[World.memory,World.forCall,Input.heap])
open Go.ChangeAt Go.Deep Go.WideShapes
def laidOut:laidOutB prog=true:=by kernel_rfl
def agG(a b:aj):Frame.enter prog fZ #[a,b] .normal=(base fZ).at ⟨(a::b::List.replicate 124 undef).toArray,[]⟩ [.code (cQ f3)]:=by
 rw[enter_at (P:=prog) _ func3 (show f3.body=U (cQ f3) by kernel_rfl)];have e:f3.ntmps-(#[a,b]:Array aj).size=124:=by kernel_rfl
 have e2:(#[a,b]:Array aj)++Array.replicate 124 undef=(a::b::List.replicate 124 undef).toArray:=Array.ext' (by simp only[Array.toList_append,Array.toList_replicate,rp,Ax]);rw[e,e2]
def agH{H:Type}{ts:List TypeId}{ds:List (DataW H)}(h:(DataW.weightsEach prog ts ds).all (·<=reachBytes)=true){j:Nat}{spare:List (DataW H)}{n:Nat}{Sx:Nat->ByteArray}(ht:ts[j]?=U 22)
  (hd:ds[j]?=U (.slice ((List.range n).map λi=>.lit (.string (Sx i).data.toList)) spare)) (i:Nat) (hi:i<n):(Sx i).size<=reachBytes:=by
 have hall:∀(l:List (DataW H)) (x:DataW H),x∈l->∀k∈x.weights prog 9,k∈DataW.weightsAll prog 9 l:=λl=>by
  induction l with
  |nil=>intro x hx;cases hx
  |cons y r ih=>
   intro x hx k hk;simp only[DataW.weightsAll,vo]
   rcases fu.1 hx with rfl|hx
   ·exact .inl hk
   exact .inr (ih x hx k hk)
 have hm:(Sx i).data.toList.length∈DataW.weightsEach prog ts ds:=by
  refine DataW.weights_mem_each ht hd _ ?_;simp only[DataW.weights,underlying22,fu,vo]
  refine .inr (.inl (hall _ (.lit (.string (Sx i).data.toList)) (pJ.2 ⟨i,pG.2 hi,rfl⟩) _ ?_));simp[DataW.weights]
 have:=mB.1 h _ hm;simpa using this
def uz.below{W:ah}(h:uz W y w):Below W.heap.size W w:=⟨h.2.2.os,h.2.2.tape,h.2.2.o,h.2.2.size,h.2.1⟩
def agI(os:Os)(started:os.Started)(H:Type)(enc:TypeId×aj->H):ReturnsInLeavingWide {} checked os 3 .any (λw args=>(Rows.sideReadsSpec.pre enc prog f3 [] false w args/\laidMetH prog zJ w)/\sizedMet enc prog f3 (OpenSpec.ofChange Rows.sideReadsSpec) false w args)
   (Rows.sideReadsSpec.post enc prog f3 false true false false):=by
 refine returnsInLeavingWide_of_good (C:=checked) own started
  (ChangeSpec.witness_shaped (enc:=enc) (C:=checked) (os:=os) (X:=λw _=>laidMetH prog zJ w) false (World.layVars prog ({ World.holding prog os ⟨#[],#[],[]⟩with heap:=⟨Lay.setRows (World.holding prog os ⟨#[],#[],[]⟩).heap.toList [(11,[(.iface 176 (.agg #[.pointer (U (ar 16 26 J))]))])]⟩ }:ah) qz) #[.slice J 0 0,.int .i64 0] 8 (World.layVars_os _ _ _) (World.shaped_of_ZipB (by as_aux_lemma=>kernel_rfl) (by as_aux_lemma=>kernel_rfl)) (by as_aux_lemma=>kernel_rfl) (by as_aux_lemma=>kernel_rfl) (by as_aux_lemma=>kernel_rfl) (agF os _)) ?_
 intro w tape i _ lF _ yZ dY agJ;obtain⟨_,_,_,rP,agK,_,_,_,_,GH⟩:=yZ;obtain rfl:rP=f3:=b_ (agK.symm.trans func3);obtain⟨⟨⟨ds,gs,before,hw,hc⟩,hx⟩,hz⟩:=dY;have hW:=DataW.Whole.of_heap (w':=w.forCall tape i) (by rfl) hw;have Tk:=hz.weights hw;have hL:laidMetH prog zJ (w.forCall tape i):=hx.of_heap (by rfl);obtain⟨W,GI⟩:∃W,W=w.forCall tape i:=⟨_,rfl⟩;have key:eJ prog (λv W'=>Rows.sideReadsSpec.post enc prog f3 false true false false W i.args v W') (solo (G (Frame.enter prog fZ i.args .normal) []) W) #[]:=by
  have agL:W.ShapedOpen prog:=GI▸lF;rw[<- GI]at hW hL GH;clear GI hw hx hz hc agJ lF;obtain⟨args,Dd⟩:∃a,a=i.args:=⟨_,rfl⟩;rw[<- Dd]at hW GH⊢;clear Dd;have hsz:(DataW.weightsEach prog (f3.params.toList++Rows.sideReadsSpec.plain.varTypes prog) (ds++gs)).all (·<=reachBytes)=true:=Tk;have hval:∀(j:Nat) t v,f3.params[j]?=U t->args[j]?=U v->Value.okWide prog W .any w.heap.size t v:=GH;have Lv:=hW;obtain⟨p,q,Tl,hV,rfl,aid,rC⟩:=hW;have hA:DataW.TrodAll enc prog W 0 (λ_=>true) true f3.params.toList args.toList ds p:=Tl;rw[params3]at hA hval hsz;obtain⟨v0,aie,d0,aif,p0,q0,Dd,rfl,rfl,h0,r0⟩:=trodAll_cons hA;obtain⟨v1,aih,d1,aii,p1,q1,rfl,rfl,rfl,h1,r1⟩:=trodAll_cons r0;obtain⟨rfl,rfl,rfl⟩:=trodAll_nil r1;obtain rfl:args=#[v0,v1]:=by cases args;simp_all
  obtain⟨rfl,rfl⟩:=trodVars_none hV;obtain⟨sa,len,cap,rfl⟩:=okWide_slice underlying22 (hval 0 22 v0 rfl rfl);obtain⟨m,rfl,rfl,rfl,Aq⟩:=open_int underlying3 (hval 1 3 v1 rfl rfl) h1;have agM:=h0;obtain⟨fuel,hf⟩:=h0;obtain⟨A,g0,ts,hG⟩:=agC hL agL;clear Tl GH Tk;simp only[List.append_nil]at Lv;rw[solo_eq_crowd,agG];obtain⟨txt,hn,agN,hrow⟩:∃txt:Nat->ByteArray,len<=9223372036854775807/\(∀i,i<len->(txt i).size<=1000000000000000)/\∀i,i<len->∃lb lo,sa=U ⟨lb,lo,J⟩/\lb<W.heap.size/\W.cell? ⟨lb,lo+i,J⟩=U (.string (txt i)):=by
   rcases open_strs underlying22 underlying9 G4 hf with⟨hcs,-⟩|⟨a,len',cap',m',Sx,hcs,-,hl,hm,Ed,hx,hcell⟩
   ·simp[Value.cells]at hcs
    obtain⟨rfl,rfl,rfl⟩:=hcs;exact⟨λ_=>⟨#[]⟩,by omega,λi hi=>absurd hi (im _),λi hi=>absurd hi (im _)⟩
   simp[Value.cells]at hcs
   obtain⟨rfl,rfl,rfl⟩:=hcs;simp only[kC]at Ed;subst Ed;simp only[Prod.mk.injEq]at hx;obtain⟨rfl,rfl⟩:=hx
   refine⟨Sx,by simp only[maxLen]at hm;omega,λi hi=>?_,λi hi=>?_⟩
   ·have:=agH hsz (j:=0) rfl rfl i hi;simp only[reachBytes]at this;omega
   obtain⟨b,off,spot⟩:=a;have hspot:spot=J:=by simpa[Addr.add]using World.cell?_spot (hcell 0 (by omega)).1
   subst hspot;have hc:=(hcell i (by omega)).1;rw[add_plain]at hc;exact⟨b,off,rfl,World.block_lt_of_cell? _ _ hc,hc⟩
  have hlt:∀x∈p0,x.block<W.heap.size:=λx hx=>Lv.lt x (by simp[hx])
  obtain⟨N,last,o,w',t',r1,r2,r3,r4⟩:=agf (cap0:=cap) (m:=m) hG hn agN hrow J
  refine⟨N,last,o,w',t',r1,r2,r3,r4.mono λv hp=>?_⟩;have hb:=hp.below;obtain rfl:=hp.1;have agO:DataW.Trod enc prog w' 0 (λb=>decide (b<W.heap.size)) true 22 (.slice sa len cap) d0 p0:=Below.trod laidOut (by as_aux_lemma=>kernel_rfl) (aD (by as_aux_lemma=>kernel_rfl)) agM hb hlt;have Tm:DataW.TrodAll enc prog w' 0 (λb=>decide (b<W.heap.size)) true [22,3] [.slice sa len cap,.int .i64 m] _ _:=(trodAll_cons_mk agO (trodAll_cons_mk (shut_int underlying3 Aq) trodAll_mk0));simp only[List.append_nil]at Tm;exact⟨_,_,_,[],p0,[],Lv,trodAll_mk1 (shut_bool underlying4 true),Tm,rfl,hb.frame _,λh=>by cases h⟩
 rw[GI]at key;obtain⟨N,last,o,w',t',r1,r2,r3,r4⟩:=key;exact⟨N,last,o,w',t',r1,r2,r3,r4.mono λv hp=>ChangeSpec.post_blind hp⟩
def agP{a b:Bool}(h1:a=true)(h2:b=true):(a&&b)=true:=by rw[h1,h2];rfl
def agQ:joinedFacts Tryz.pinned.checked.prog 3 f3 Rows.sideReadsSpec Rows.sideReadsRow=true:=by
 unfold joinedFacts
 repeat' (with_reducible refine agP ?_ ?_)
 all_goals as_aux_lemma=>kernel_rfl
end Go.Proofs.YtjjodkjbmgnbeaaGreatDoor
