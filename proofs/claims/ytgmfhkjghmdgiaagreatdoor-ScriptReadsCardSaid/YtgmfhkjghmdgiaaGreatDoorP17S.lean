/-
  Several texts as one: DrLine6, DrLine7.
-/
import Derived.Test.YtgmfhkjghmdgiaaGreatDoorP16S
set_option linter.all false
set_option maxHeartbeats 40000000
set_option maxRecDepth 100000
open Go renaming Addr→az,World→ai
open Go.Ending renaming returned→ax
open Go.IntKind renaming i64→R
open Go.Obj renaming cells→au
open Go.RowKit renaming Hid→aa
open Go.Value renaming agg→aU,bool→aI,int→U,pointer→aj,slice→af,string→aq
open Option renaming none→I,some→J
open Go.Proofs.Tryz
namespace Go.Proofs.YtgmfhkjghmdgiaaGreatDoor
open Go.Extern Go.Extern.Stop Go.Maps Go.RowKit Go.Stop
theorem ahL(w0 w:ai)(rb:Nat)(c:aS)(last:Int)(l:ByteArray)(ws:List Bs)(hb0:bD rb w0 w)(h:eO w0.heap.size rb w c (cf last))(hl:l.size<=1000000)(l0:-1<=last)(l9:last<=9)(hO:gZ 1000000 c last)(hcut:bW 32 (bl l)=kw 6::ws):Calls prog 16 #[aj (J ⟨rb,0,I⟩),aq l] w λv w'=>v=ax (U R (bR last c 6 ws:Nat))/\bD rb w0 w'/\(bR last c 6 ws=0->eO w0.heap.size rb w' (ed c 6 ws (aY (bq (bO c.aw)) false (form 6) ws).2) (eN 6)):=by
 obtain⟨i0,hi,hz0,hz1,hz2⟩:=fj ny;have HS:aa (bD rb w0 w/\eO w0.heap.size rb w c (cf last)):=⟨hb0,h⟩;have HO:aa (gZ 1000000 c last):=hO;have gD:aa (Calls prog 15 #[aq l,U .u8 32] w λe w'=>∃(wt:List ByteArray) (g cap m:Nat),e=ax (af (J ⟨g,0,I⟩) m cap)/\m=wt.length+1/\wt.map bl=ws/\w'.ownsRow w.heap.size 9 1 (af (J ⟨g,0,I⟩) m cap) m ((⟨#[103,97,112]⟩::wt).flatMap bS)/\Below w.heap.size w w'):=by
  refine(pZ l 32 w hl).mono ?_;rintro e w' ⟨wl,g,cap,rfl,h1,h2,h3⟩;rw[hcut]at h1;obtain⟨wt,rfl,h4⟩:=tz h1;exact⟨wt,g,cap,_,rfl,rfl,h4,h2,h3⟩
 have gP:aa (∀V,Below w.heap.size w V->Calls prog 53 #[aj (J ⟨rb,0,I⟩),aq ⟨#[103,97,112]⟩] V λe w'=>e=ax (aI (may last 6))/\Below V.heap.size V w'):=λV hV=>by
  have hc:V.cell? ⟨rb,5,I⟩=J (aq (cf last)):=by
   rcases h.below hV with h1|⟨_,_,_,_,_,_,_,_,_,h1⟩
   ·have:=h1.row;simp[World.cell?,this,bV]
   have:=h1.row;simp[World.cell?,this,bV]
  exact rJ rb last (eN 6) V l0 l9 hc
 clear hb0 h hl l0 l9 hO hcut;go_enter func16,ntmps16
 go_wp2_with fail
 refine aL gD.o ?_;rintro v w1 ⟨wt,wg,wc,m,rfl,hm,fq,hown,hb1⟩;have aO:aa (Below w.heap.size w w1):=hb1;have lQ:aa (w.heap.size<=wg):=by
  show _<=_
  exact(hown.lt wg rfl).1
 have HW:aa (∀V,Below w1.heap.size w1 V->∀j s,(⟨#[103,97,112]⟩::wt)[j]?=J s->V.cell? ⟨wg,j,I⟩=J (aq s)):=λV hV j s hj=>aG hV (qE hown j s hj)
 have HM:aa (m=wt.length+1/\wt.map bl=ws):=⟨hm,fq⟩;have c0:w1.cell? ⟨wg,0,I⟩=J (aq ⟨#[103,97,112]⟩):=HW.o w1 (aC _ _) 0 _ rfl;have m0:(0:Int)<(m:Int):=by omega
 clear hm fq hown hb1 gD;go_wp2_with fail
 refine aL (gP.o w1 aO.o) ?_;rintro v w2 ⟨rfl,hb2⟩;have aW:aa (Below w.heap.size w w2):=aO.o.trans (hb2.mono aO.o.size);have bL:aa (Below w1.heap.size w1 w2):=hb2;have bK:aa (∀V,Below w2.heap.size w2 V->bD rb w0 V):=λV hV=>HS.o.1.trans ((aW.o.trans (hV.mono aW.o.size)).mono HS.o.1.size)
 clear hb2 gP c0
 cases cZ:may last 6 with
 |false=>
  have HE:aa (bR last c 6 ws=1):=tr cZ;clear cZ;go_wp2;go_ret;exact⟨by rw[HE.o];rfl,bK.o _ (aC _ _),λh0=>by rw[HE.o]at h0;cases h0⟩
 |true=>
  have HY:aa (may last 6=true):=cZ;have HK:aa (bR last c 6 ws=(aY (bq (bO c.aw)) false (form 6) ws).1):=tu cZ;clear cZ
  by_cases hN:wt.length=4
  ·obtain⟨s0,s1,s2,s3,rfl⟩:∃s0 s1 s2 s3,wt=[s0,s1,s2,s3]:=by
    match wt,hN with
    |[s0,s1,s2,s3],_=>exact⟨s0,s1,s2,s3,rfl⟩
   obtain rfl:ws=[bl s0,bl s1,bl s2,bl s3]:=HM.o.2.symm.trans rfl;obtain rfl:m=4+1:=HM.o.1;clear HM hN;obtain⟨L,g,cap,es,e,x,cells,hce,eG,hD⟩:∃L g cap es e x cells,c.aw=es++[e]/\L<=w.heap.size/\gO w0.heap.size rb L g cap w c (cf last) es e x cells:=by
    rcases HS.o.2 with h1|h1
    ·exact absurd h1.nil (HO.o.e3 (yD (by decide) HY.o))
    exact h1
   have pj:aa (c.aw=es++[e]):=hce;have np:aa (L<=w.heap.size):=eG;have mV:aa (bO c.aw=e.ak):=by show _=_;rw[hce];exact yx _ _
   rw[mV.o]at HK;have H1:aa (∀V,Below w.heap.size w V->gO w0.heap.size rb L g cap V c (cf last) es e x cells):=λV hV=>bX.below hD hV
   obtain⟨pa,pc,eu⟩:=cJ hD.new.hp;have rM:aa (x.p=af pa e.ak.length pc):=eu;have fK:aa (es.length<1000000/\nM 1000000 e):=⟨by have:=HO.o.len;rw[hce,dm]at this;simp at this;omega,HO.o.sz e (by rw[hce];simp)⟩;obtain⟨n,hn⟩:∃n,n=es.length:=⟨_,rfl⟩;have aX:aa (n=es.length):=hn;have Dw:n<1000000:=by have:=fK.o.1;omega
   have Dx:(n:Int)<(n:Int)+1:=by omega
   have Dy:¬(n:Int)<0:=by omega
   have kD:aa (∀V,Below w.heap.size w V->V.cell? ⟨rb,4,I⟩=J (af (J ⟨g,0,I⟩) (n+1) cap)):=λV hV=>by have:=(H1.o V hV).row;rw[hn];simp[World.cell?,this,bV]
   have iy:aa (∀V,Below w.heap.size w V->V.cell? ⟨g,n*10+2,I⟩=J (af pa e.ak.length pc)):=λV hV=>by rw[hn,<- eu];exact((H1.o V hV).aZ (j:=2) rfl).1
   have qG:aa (∀s V,Below w.heap.size w V->Calls prog 55 #[af pa e.ak.length pc,aq s] V λe' w'=>e'=ax (U R (idxOf e.ak s))/\w'=V):=λs V hV=>wk e.ak s pa pc V (by rw[<- eu];exact bU.jc (enc:=bS) (H1.o V hV).new.hp (λ_=>rfl)) fK.o.2.p
   have e4:=kD.o w2 aW.o;clear hce eG hD eu hn;go_wp2_with fail
   go_loopw [9,10,11,12] (λnv ov iv _ wr=>∃(j:Nat) (nn:Bool) (vs:List Int) (na:Option az) (nc:Nat),j<=4/\iv=U R j/\ov=aI nn/\nv=af na j nc/\wr.ownsRow w2.heap.size 3 1 (af na j nc) j (vs.flatMap bm)/\Below w2.heap.size w2 wr/\dR (bq e.ak) [2,2,1,1] [bl s0,bl s1,bl s2,bl s3] j nn vs) (λ_ _ iv _ _=>4-(intOf iv).toNat)
   case atStart=>exact⟨0,false,[],I,0,bI _,rfl,rfl,rfl,fC _ _ _ _,aC _ _,dR.start _ _ _⟩
   case round=>
    obtain⟨j,nn,vs,na,nc,hj,rfl,rfl,rfl,hown,hb,hf⟩:=hrel;have HB:aa (Below w2.heap.size w2 wr):=hb;have bE:aa (wr.ownsRow w2.heap.size 3 1 (af na j nc) j (vs.flatMap bm)):=hown;have HF:aa (dR (bq e.ak) [2,2,1,1] [bl s0,bl s1,bl s2,bl s3] j nn vs):=hf;clear hb hown hf e4
    by_cases hlt:j<4
    ·clear hj
     rcases(show j=0\/j=1\/j=2\/j=3 by omega)with rfl|rfl|rfl|rfl
     clear hlt
     ·have e5:=kD.o wr (aW.o.trans (HB.o.mono aW.o.size));have e6:=iy.o wr (aW.o.trans (HB.o.mono aW.o.size));have d0:=HW.o wr (bL.o.trans (HB.o.mono bL.o.size)) 1 s0 rfl;have jN:aa (∀q,Calls prog 55 #[af pa e.ak.length pc,aq s0] (wr.drewN q) λe' w'=>e'=ax (U R (idxOf e.ak s0))/\w'=wr.drewN q):=λq=>qG.o s0 _ (aW.o.trans ((cg HB.o q).mono aW.o.size))
      have kT:aa (¬s0=⟨#[]⟩->_):=@yM e.ak s0;generalize idxOf e.ak s0=z at *;go_upto_region 38 with fail
      go_cut [12] (λxv wv=>xv=U R z/\Below w2.heap.size w2 wv/\wv.ownsRow w2.heap.size 3 1 (af na 0 nc) 0 (vs.flatMap bm))
      case first=>
       go_wp2_with fail
       go_quiet (first|(go_at_call 55;exact o8 (jN.o _)))
       go_wp2_with fail
       go_meet
       case rel=>exact⟨rfl,cg HB.o _,bE.o⟩
      obtain⟨rfl,fk,ji⟩:=hcut;clear HB bE jN e5 e6 d0;rename ai=>wr
      have HB:aa (Below w2.heap.size w2 wr):=fk;have bE:aa (wr.ownsRow w2.heap.size 3 1 (af na 0 nc) 0 (vs.flatMap bm)):=ji;clear fk ji;have d0:=HW.o wr (bL.o.trans (HB.o.mono bL.o.size)) 1 s0 rfl
      by_cases d_:s0=⟨#[]⟩
      ·have HE:aa (bR last c 6 [bl s0,bl s1,bl s2,bl s3]=1):=by show _=_;rw[HK.o];exact HF.o.bad rfl rfl (by rw[d_];exact uZ)
       obtain⟨n1,n2⟩:=nO d_;clear d_
       by_cases z0:z<0
       ·go_wp2;go_ret;exact⟨by rw[HE.o];rfl,bK.o _ HB.o,λh0=>by rw[HE.o]at h0;cases h0⟩
       go_wp2;go_ret;exact⟨by rw[HE.o];rfl,bK.o _ HB.o,λh0=>by rw[HE.o]at h0;cases h0⟩
      have iU:aa _:=kT.o d_;obtain⟨n1,n2⟩:=eM d_;clear d_
      by_cases z0:z<0
      ·have HZ:aa ((bF (bq e.ak) 2 (bl s0)).1=5):=by show _=_;rw[iU.o.1,aR z0]
       go_wp2_with (at_builtin;refine fw _ rfl _ _ 65 rfl w2.heap.size 3 i0 (U R 0) 1 8 underlying65 hi hz0 hz1 hz2 rfl (by decide) (af na 0 nc) 0 (vs.flatMap bm) rfl (bE.o.alloc _) ⟨wr.heap.size,0,.none⟩ 1 1 [U R z] rfl rfl (h_ _ _ _) (by intro u hu;simp at hu;subst hu;rfl) (by unfold maxLen;omega) (by omega) (by have:=HB.o.size;simp;omega) ?_;intro v1 w4 hown1 dh ij)
       obtain⟨dS,df,cC⟩:=cJ hown1;subst cC;go_roundw
       case rel=>exact⟨0+1,true,vs++[z],dS,df,by omega,rfl,rfl,rfl,by simpa[dP,bm]using hown1,(HB.o.alloc HB.o.size _).grown dh (by have:=HB.o.size;simp;omega) (λq hq=>(bE.o.lt q hq).1),HF.o.next rfl rfl true z (by rw[HZ.o];decide) (by rw[HZ.o];simp) (λh0=>by cases h0)⟩
       case measure=>simp[intOf]
      have HZ:aa ((bF (bq e.ak) 2 (bl s0)).1=0/\(bF (bq e.ak) 2 (bl s0)).2=z):=⟨by rw[iU.o.1,aK z0],iU.o.2 (by omega)⟩;go_wp2_with (at_builtin;refine fw _ rfl _ _ 65 rfl w2.heap.size 3 i0 (U R 0) 1 8 underlying65 hi hz0 hz1 hz2 rfl (by decide) (af na 0 nc) 0 (vs.flatMap bm) rfl (bE.o.alloc _) ⟨wr.heap.size,0,.none⟩ 1 1 [U R z] rfl rfl (h_ _ _ _) (by intro u hu;simp at hu;subst hu;rfl) (by unfold maxLen;omega) (by omega) (by have:=HB.o.size;simp;omega) ?_;intro v1 w4 hown1 dh ij)
      obtain⟨dS,df,cC⟩:=cJ hown1;subst cC;go_roundw
      case rel=>exact⟨0+1,nn,vs++[z],dS,df,by omega,rfl,rfl,rfl,by simpa[dP,bm]using hown1,(HB.o.alloc HB.o.size _).grown dh (by have:=HB.o.size;simp;omega) (λq hq=>(bE.o.lt q hq).1),HF.o.next rfl rfl nn z (by rw[HZ.o.1];decide) (by rw[HZ.o.1];simp) (λ_=>HZ.o.2.symm)⟩
      case measure=>simp[intOf]
     ·have e5:=kD.o wr (aW.o.trans (HB.o.mono aW.o.size));have e6:=iy.o wr (aW.o.trans (HB.o.mono aW.o.size));have d1:=HW.o wr (bL.o.trans (HB.o.mono bL.o.size)) 2 s1 rfl;have jN:aa (∀q,Calls prog 55 #[af pa e.ak.length pc,aq s1] (wr.drewN q) λe' w'=>e'=ax (U R (idxOf e.ak s1))/\w'=wr.drewN q):=λq=>qG.o s1 _ (aW.o.trans ((cg HB.o q).mono aW.o.size))
      have kT:aa (¬s1=⟨#[]⟩->_):=@yM e.ak s1;generalize idxOf e.ak s1=z at *;go_upto_region 38 with fail
      go_cut [12] (λxv wv=>xv=U R z/\Below w2.heap.size w2 wv/\wv.ownsRow w2.heap.size 3 1 (af na 1 nc) 1 (vs.flatMap bm))
      case first=>
       go_wp2_with fail
       go_quiet (first|(go_at_call 55;exact o8 (jN.o _)))
       go_wp2_with fail
       go_meet
       case rel=>exact⟨rfl,cg HB.o _,bE.o⟩
      obtain⟨rfl,fk,ji⟩:=hcut;clear HB bE jN e5 e6 d1;rename ai=>wr
      have HB:aa (Below w2.heap.size w2 wr):=fk;have bE:aa (wr.ownsRow w2.heap.size 3 1 (af na 1 nc) 1 (vs.flatMap bm)):=ji;clear fk ji;have d1:=HW.o wr (bL.o.trans (HB.o.mono bL.o.size)) 2 s1 rfl
      by_cases d_:s1=⟨#[]⟩
      ·have HE:aa (bR last c 6 [bl s0,bl s1,bl s2,bl s3]=1):=by show _=_;rw[HK.o];exact HF.o.bad rfl rfl (by rw[d_];exact uZ)
       obtain⟨n1,n2⟩:=nO d_;clear d_
       by_cases z0:z<0
       ·go_wp2;go_ret;exact⟨by rw[HE.o];rfl,bK.o _ HB.o,λh0=>by rw[HE.o]at h0;cases h0⟩
       go_wp2;go_ret;exact⟨by rw[HE.o];rfl,bK.o _ HB.o,λh0=>by rw[HE.o]at h0;cases h0⟩
      have iU:aa _:=kT.o d_;obtain⟨n1,n2⟩:=eM d_;clear d_
      by_cases z0:z<0
      ·have HZ:aa ((bF (bq e.ak) 2 (bl s1)).1=5):=by show _=_;rw[iU.o.1,aR z0]
       go_wp2_with (at_builtin;refine fw _ rfl _ _ 65 rfl w2.heap.size 3 i0 (U R 0) 1 8 underlying65 hi hz0 hz1 hz2 rfl (by decide) (af na 1 nc) 1 (vs.flatMap bm) rfl (bE.o.alloc _) ⟨wr.heap.size,0,.none⟩ 1 1 [U R z] rfl rfl (h_ _ _ _) (by intro u hu;simp at hu;subst hu;rfl) (by unfold maxLen;omega) (by omega) (by have:=HB.o.size;simp;omega) ?_;intro v1 w4 hown1 dh ij)
       obtain⟨dS,df,cC⟩:=cJ hown1;subst cC;go_roundw
       case rel=>exact⟨1+1,true,vs++[z],dS,df,by omega,rfl,rfl,rfl,by simpa[dP,bm]using hown1,(HB.o.alloc HB.o.size _).grown dh (by have:=HB.o.size;simp;omega) (λq hq=>(bE.o.lt q hq).1),HF.o.next rfl rfl true z (by rw[HZ.o];decide) (by rw[HZ.o];simp) (λh0=>by cases h0)⟩
       case measure=>simp[intOf]
      have HZ:aa ((bF (bq e.ak) 2 (bl s1)).1=0/\(bF (bq e.ak) 2 (bl s1)).2=z):=⟨by rw[iU.o.1,aK z0],iU.o.2 (by omega)⟩;go_wp2_with (at_builtin;refine fw _ rfl _ _ 65 rfl w2.heap.size 3 i0 (U R 0) 1 8 underlying65 hi hz0 hz1 hz2 rfl (by decide) (af na 1 nc) 1 (vs.flatMap bm) rfl (bE.o.alloc _) ⟨wr.heap.size,0,.none⟩ 1 1 [U R z] rfl rfl (h_ _ _ _) (by intro u hu;simp at hu;subst hu;rfl) (by unfold maxLen;omega) (by omega) (by have:=HB.o.size;simp;omega) ?_;intro v1 w4 hown1 dh ij)
      obtain⟨dS,df,cC⟩:=cJ hown1;subst cC;go_roundw
      case rel=>exact⟨1+1,nn,vs++[z],dS,df,by omega,rfl,rfl,rfl,by simpa[dP,bm]using hown1,(HB.o.alloc HB.o.size _).grown dh (by have:=HB.o.size;simp;omega) (λq hq=>(bE.o.lt q hq).1),HF.o.next rfl rfl nn z (by rw[HZ.o.1];decide) (by rw[HZ.o.1];simp) (λ_=>HZ.o.2.symm)⟩
      case measure=>simp[intOf]
     ·have d2:=HW.o wr (bL.o.trans (HB.o.mono bL.o.size)) 3 s2 rfl;have jm:aa _:=uX s2 wr;go_wp2_with fail
      refine aL jm.o ?_;rintro v w3 ⟨rfl,hw3⟩;rw[hw3];clear hw3 w3;have dF:aa _:=@uY (bq e.ak) s2;clear jm;generalize kV (bl s2)=z at *
      by_cases z0:z<0
      ·have HE:aa (bR last c 6 [bl s0,bl s1,bl s2,bl s3]=1):=by show _=_;rw[HK.o];exact HF.o.bad rfl rfl (by rw[dF.o.1,aR z0])
       go_wp2;go_ret;exact⟨by rw[HE.o];rfl,bK.o _ HB.o,λh0=>by rw[HE.o]at h0;cases h0⟩
      have z1:0<=z:=by omega
      obtain⟨n1,n2⟩:=eM (dF.o.2 z1).2;go_wp2_with (at_builtin;refine fw _ rfl _ _ 65 rfl w2.heap.size 3 i0 (U R 0) 1 8 underlying65 hi hz0 hz1 hz2 rfl (by decide) (af na 2 nc) 2 (vs.flatMap bm) rfl (bE.o.alloc _) ⟨wr.heap.size,0,.none⟩ 1 1 [U R z] rfl rfl (h_ _ _ _) (by intro u hu;simp at hu;subst hu;rfl) (by unfold maxLen;omega) (by omega) (by have:=HB.o.size;simp;omega) ?_;intro v1 w4 hown1 dh ij)
      obtain⟨dS,df,cC⟩:=cJ hown1;subst cC;go_roundw
      case rel=>exact⟨2+1,nn,vs++[z],dS,df,by omega,rfl,rfl,rfl,by simpa[dP,bm]using hown1,(HB.o.alloc HB.o.size _).grown dh (by have:=HB.o.size;simp;omega) (λq hq=>(bE.o.lt q hq).1),HF.o.next rfl rfl nn z (by rw[dF.o.1,aK (by omega)];decide) (by rw[dF.o.1,aK (by omega)];simp) (λ_=>(dF.o.2 z1).1.symm)⟩
      case measure=>simp[intOf]
     have d3:=HW.o wr (bL.o.trans (HB.o.mono bL.o.size)) 4 s3 rfl;have jm:aa _:=uX s3 wr;go_wp2_with fail
     refine aL jm.o ?_;rintro v w3 ⟨rfl,hw3⟩;rw[hw3];clear hw3 w3;have dF:aa _:=@uY (bq e.ak) s3;clear jm;generalize kV (bl s3)=z at *
     by_cases z0:z<0
     ·have HE:aa (bR last c 6 [bl s0,bl s1,bl s2,bl s3]=1):=by show _=_;rw[HK.o];exact HF.o.bad rfl rfl (by rw[dF.o.1,aR z0])
      go_wp2;go_ret;exact⟨by rw[HE.o];rfl,bK.o _ HB.o,λh0=>by rw[HE.o]at h0;cases h0⟩
     have z1:0<=z:=by omega
     obtain⟨n1,n2⟩:=eM (dF.o.2 z1).2;go_wp2_with (at_builtin;refine fw _ rfl _ _ 65 rfl w2.heap.size 3 i0 (U R 0) 1 8 underlying65 hi hz0 hz1 hz2 rfl (by decide) (af na 3 nc) 3 (vs.flatMap bm) rfl (bE.o.alloc _) ⟨wr.heap.size,0,.none⟩ 1 1 [U R z] rfl rfl (h_ _ _ _) (by intro u hu;simp at hu;subst hu;rfl) (by unfold maxLen;omega) (by omega) (by have:=HB.o.size;simp;omega) ?_;intro v1 w4 hown1 dh ij)
     obtain⟨dS,df,cC⟩:=cJ hown1;subst cC;go_roundw
     case rel=>exact⟨3+1,nn,vs++[z],dS,df,by omega,rfl,rfl,rfl,by simpa[dP,bm]using hown1,(HB.o.alloc HB.o.size _).grown dh (by have:=HB.o.size;simp;omega) (λq hq=>(bE.o.lt q hq).1),HF.o.next rfl rfl nn z (by rw[dF.o.1,aK (by omega)];decide) (by rw[dF.o.1,aK (by omega)];simp) (λ_=>(dF.o.2 z1).1.symm)⟩
     case measure=>simp[intOf]
    obtain rfl:j=4:=by omega
    clear hlt hj;obtain⟨cA,fu⟩:=(show dR (bq e.ak) [2,2,1,1] [bl s0,bl s1,bl s2,bl s3] ([2,2,1,1]:List Nat).length nn vs from HF.o).done rfl
    cases nn with
    |true=>
     have HE:aa (bR last c 6 [bl s0,bl s1,bl s2,bl s3]=5):=by show _=_;rw[HK.o];exact cA
     clear cA fu;go_wp2;go_ret;exact⟨by rw[HE.o];rfl,bK.o _ HB.o,λh0=>by rw[HE.o]at h0;cases h0⟩
    |false=>
     have ft:aa (bR last c 6 [bl s0,bl s1,bl s2,bl s3]=0):=by show _=_;rw[HK.o];exact cA
     have lR:aa ((aY (bq e.ak) false [2,2,1,1] [bl s0,bl s1,bl s2,bl s3]).2=vs):=fu rfl;have hlen:=HF.o.len;clear cA fu;obtain⟨v0,v1,v2,v3,rfl⟩:∃v0 v1 v2 v3,vs=[v0,v1,v2,v3]:=by
      match vs,hlen with
      |[v0,v1,v2,v3],_=>exact⟨v0,v1,v2,v3,rfl⟩
     obtain⟨ng,df,ki⟩:=rK bE.o
     cases ki
     have lS:aa (w2.heap.size<=ng):=by show _<=_;exact(bE.o.lt ng rfl).1
     have x0:=mq bE.o 0 v0 rfl;have x1:=mq bE.o 1 v1 rfl;have x2:=mq bE.o 2 v2 rfl;have x3:=mq bE.o 3 v3 rfl;have cY:aa (Below w.heap.size w wr):=aW.o.trans (HB.o.mono aW.o.size);have d0:=HW.o wr (bL.o.trans (HB.o.mono bL.o.size)) 0 _ rfl;have d1:=HW.o wr (bL.o.trans (HB.o.mono bL.o.size)) 1 _ rfl;have d2:=HW.o wr (bL.o.trans (HB.o.mono bL.o.size)) 2 _ rfl;have d3:=HW.o wr (bL.o.trans (HB.o.mono bL.o.size)) 3 _ rfl;have d4:=HW.o wr (bL.o.trans (HB.o.mono bL.o.size)) 4 _ rfl;clear hlen HF;have hbase:=H1.o wr cY.o;have qz:rb<w.heap.size:=bJ (H1.o w (aC _ _)).row;have wO:g<w.heap.size:=by obtain⟨cur,h1,-⟩:=(H1.o w (aC _ _)).grow;exact bJ h1
     have eH:¬rb=wg:=by have:=lQ.o;omega
     have u_:¬wg=rb:=λe2=>eH e2.symm
     have gF:¬rb=ng:=by have:=aW.o.size;have:=lS.o;omega
     have ve:¬ng=rb:=λe2=>gF e2.symm
     have hrow:=hbase.row;have r5:wr.cell? ⟨rb,5,I⟩=J (aq (cf last)):=by simp[World.cell?,hrow,bV]
     have f5:wr.frozen? ⟨rb,5,I⟩=false:=by simp[World.frozen?,hrow]
     clear hrow;go_upto_region 62 with fail
     obtain⟨Wz,cB⟩:∃V,V=wr.setCell ⟨rb,5,I⟩ (aq ⟨#[103,97,112]⟩):=⟨_,rfl⟩;rw[<- cB];have bP:aa (bX w0.heap.size rb L g cap Wz c ⟨#[103,97,112]⟩ es (x.row e).toList e x cells):=by rw[cB];exact bX.pk hbase 5 (aq ⟨#[103,97,112]⟩) rfl
     have jh:aa (bD rb w0 Wz):=by rw[cB];exact(bK.o _ HB.o).setCell (p:=⟨rb,5,I⟩) hbase.lo _
     have mW:aa (w.heap.size<=Wz.heap.size):=by show _<=_;rw[cB];have:=cY.o.size;simpa[World.setCell]using this
     have y0:Wz.cell? ⟨wg,0,I⟩=J (aq ⟨#[103,97,112]⟩):=by rw[cB,eD (a_ eH) rfl rfl];exact d0
     have y1:Wz.cell? ⟨wg,1,I⟩=J (aq s0):=by rw[cB,eD (a_ eH) rfl rfl];exact d1
     have y2:Wz.cell? ⟨wg,2,I⟩=J (aq s1):=by rw[cB,eD (a_ eH) rfl rfl];exact d2
     have y3:Wz.cell? ⟨wg,3,I⟩=J (aq s2):=by rw[cB,eD (a_ eH) rfl rfl];exact d3
     have y4:Wz.cell? ⟨wg,4,I⟩=J (aq s3):=by rw[cB,eD (a_ eH) rfl rfl];exact d4
     have u0:Wz.cell? ⟨ng,0,I⟩=J (U R v0):=by rw[cB,eD (a_ gF) rfl rfl];exact x0
     have u1:Wz.cell? ⟨ng,1,I⟩=J (U R v1):=by rw[cB,eD (a_ gF) rfl rfl];exact x1
     have u2:Wz.cell? ⟨ng,2,I⟩=J (U R v2):=by rw[cB,eD (a_ gF) rfl rfl];exact x2
     have u3:Wz.cell? ⟨ng,3,I⟩=J (U R v3):=by rw[cB,eD (a_ gF) rfl rfl];exact x3
     clear cB r5 f5 hbase d0 d1 d2 d3 d4 x0 x1 x2 x3;obtain⟨ga,gc,il⟩:=cJ bP.o.new.hg;obtain⟨ea,ec,kj⟩:=cJ bP.o.new.he;obtain⟨fa,fc,fx⟩:=cJ bP.o.new.hf;obtain⟨la,lc,iL⟩:=cJ bP.o.new.hl;have aT:aa (x.row e=#[aq e.name,U R e.aJ,af pa e.ak.length pc,U R e.cnt,U R e.mn,U R e.mx,af ga e.aB.length gc,af ea e.aA.length ec,af fa e.first.length fc,af la e.last.length lc]/\x=⟨af pa e.ak.length pc,af ga e.aB.length gc,af ea e.aA.length ec,af fa e.first.length fc,af la e.last.length lc⟩):=by
      have eu:=rM.o;obtain⟨xp,xg,xe,xf,xl⟩:=x;simp only at eu il kj fx iL;subst eu il kj fx iL;exact⟨rfl,rfl⟩
     clear il kj fx iL;have e4:Wz.cell? ⟨rb,4,I⟩=J (af (J ⟨g,0,I⟩) (n+1) cap):=by have:=bP.o.row;rw[aX.o];simp[World.cell?,this,bV]
     have q0:Wz.cell? ⟨g,n*10,I⟩=J (aq e.name):=by have:=(bP.o.aZ (j:=0) (u:=aq e.name) (by rw[aT.o.1];rfl)).1;rw[aX.o];simpa using this
     have q1:Wz.cell? ⟨g,n*10+1,I⟩=J (U R e.aJ):=by have:=(bP.o.aZ (j:=1) (u:=U R e.aJ) (by rw[aT.o.1];rfl)).1;rw[aX.o];simpa using this
     have q2:Wz.cell? ⟨g,n*10+2,I⟩=J (af pa e.ak.length pc):=by have:=(bP.o.aZ (j:=2) (u:=af pa e.ak.length pc) (by rw[aT.o.1];rfl)).1;rw[aX.o];simpa using this
     have q3:Wz.cell? ⟨g,n*10+3,I⟩=J (U R e.cnt):=by have:=(bP.o.aZ (j:=3) (u:=U R e.cnt) (by rw[aT.o.1];rfl)).1;rw[aX.o];simpa using this
     have q4:Wz.cell? ⟨g,n*10+4,I⟩=J (U R e.mn):=by have:=(bP.o.aZ (j:=4) (u:=U R e.mn) (by rw[aT.o.1];rfl)).1;rw[aX.o];simpa using this
     have q5:Wz.cell? ⟨g,n*10+5,I⟩=J (U R e.mx):=by have:=(bP.o.aZ (j:=5) (u:=U R e.mx) (by rw[aT.o.1];rfl)).1;rw[aX.o];simpa using this
     have q6:Wz.cell? ⟨g,n*10+6,I⟩=J (af ga e.aB.length gc):=by have:=(bP.o.aZ (j:=6) (u:=af ga e.aB.length gc) (by rw[aT.o.1];rfl)).1;rw[aX.o];simpa using this
     have q7:Wz.cell? ⟨g,n*10+7,I⟩=J (af ea e.aA.length ec):=by have:=(bP.o.aZ (j:=7) (u:=af ea e.aA.length ec) (by rw[aT.o.1];rfl)).1;rw[aX.o];simpa using this
     have q8:Wz.cell? ⟨g,n*10+8,I⟩=J (af fa e.first.length fc):=by have:=(bP.o.aZ (j:=8) (u:=af fa e.first.length fc) (by rw[aT.o.1];rfl)).1;rw[aX.o];simpa using this
     have q9:Wz.cell? ⟨g,n*10+9,I⟩=J (af la e.last.length lc):=by have:=(bP.o.aZ (j:=9) (u:=af la e.last.length lc) (by rw[aT.o.1];rfl)).1;rw[aX.o];simpa using this
     go_upto_region 63 with fail
     obtain⟨V,hV⟩:∃V,V=Wz.alloc (au #[aq e.name,U R e.aJ,af pa e.ak.length pc,U R e.cnt,U R e.mn,U R e.mx,af ga e.aB.length gc,af ea e.aA.length ec,af fa e.first.length fc,af la e.last.length lc] 84):=⟨_,rfl⟩;rw[<- hV];obtain⟨eb,km⟩:∃b,b=Wz.heap.size:=⟨_,rfl⟩;rw[<- km];have dG:aa (Below Wz.heap.size Wz V):=by show Below _ _ _;rw[hV];exact aN _ _
     have jz:aa (bX w0.heap.size rb L g cap V c ⟨#[103,97,112]⟩ es (x.row e).toList e x cells):=bP.o.below dG.o;have gC:aa (bD rb w0 V):=jh.o.trans (dG.o.mono jh.o.size);have jO:aa (V.heap[eb]?=J (au #[aq e.name,U R e.aJ,af pa e.ak.length pc,U R e.cnt,U R e.mn,U R e.mx,af ga e.aB.length gc,af ea e.aA.length ec,af fa e.first.length fc,af la e.last.length lc] 84 (0,0))):=by show _=_;rw[hV,km];exact cR Wz _
     have lT:aa (eb≠g/\eb≠rb/\w.heap.size<=eb):=by have:=mW.o;exact⟨by omega,by omega,by omega⟩
     have nP:aa (L<=V.heap.size):=bw np.o (bw mW.o dG.o.size);have y0:=aG dG.o y0;have y1:=aG dG.o y1;have y2:=aG dG.o y2;have y3:=aG dG.o y3;have y4:=aG dG.o y4;have u0:=aG dG.o u0;have u1:=aG dG.o u1;have u2:=aG dG.o u2;have u3:=aG dG.o u3;clear hV km e4 q0 q1 q2 q3 q4 q5 q6 q7 q8 q9;obtain⟨j0,hj,qB,tA,nt⟩:=fj Ek;have q2:V.cell? ⟨eb,6,I⟩=J (af ga e.aB.length gc):=by simp[World.cell?,jO.o]
     have vg:∀ob,(V.alloc ob).cell? ⟨eb,6,I⟩=J (af ga e.aB.length gc):=λob=>aG (aN _ _) q2
     have hown:V.drew.ownsRow L 86 4 (af ga e.aB.length gc) e.aB.length (e.aB.flatMap iD):=by have:=jz.o.new.hg;rw[aT.o.2]at this;exact this
     have lH:=nP.o;have lD:e.aB.length<=1000000:=fK.o.2.g;have KB:aa (∀(ob:Obj) (w8:ai),(V.drew.alloc ob).grownBy w8 (Value.slice ga e.aB.length gc).ownBlock->w8.heap[eb]?=J (au #[aq e.name,U R e.aJ,af pa e.ak.length pc,U R e.cnt,U R e.mn,U R e.mx,af ga e.aB.length gc,af ea e.aA.length ec,af fa e.first.length fc,af la e.last.length lc] 84 (0,0))/\bD rb w0 w8):=λob w8 hg=>by
      have bb:Below V.heap.size V (V.drew.alloc ob):=(aC V.heap.size V).drew.alloc (by simp) ob;have pq:=jz.o.below bb;have b3:bD rb w0 (V.drew.alloc ob):=gC.o.trans (bb.mono gC.o.size);have k3:=bG bb jO.o;have pw:(V.drew.alloc ob).ownsRow L 86 4 (af ga e.aB.length gc) e.aB.length (e.aB.flatMap iD):=by have:=pq.new.hg;rw[aT.o.2]at this;exact this
      exact⟨(hg.block eb (bJ k3) (λe2=>dZ pw k3 (by decide) e2.symm)).trans k3,b3.grown hg b3.size (λb hb=>bw pq.jL (pw.lt b hb).1)⟩
     have Te:(V.drew.alloc (au #[U R v0,U R v1,U R v2,U R v3] 86)).cell? ⟨eb,6,I⟩=J (af ga e.aB.length gc):=aG ((aC V.heap.size V).drew.alloc (by simp) _) q2;obtain⟨X,K7,F4⟩:∃X:Nat->Nat->ai->Prop,aa (∀g' cap' w8,(V.drew.alloc (au #[U R v0,U R v1,U R v2,U R v3] 86)).grownBy w8 (Value.slice ga e.aB.length gc).ownBlock->w8.ownsRow L 86 4 (af (J ⟨g',0,I⟩) (e.aB.length+1) cap') (e.aB.length+1) (e.aB.flatMap iD++iD ⟨v0,v1,v2,v3⟩)->X g' cap' w8)/\aa (∀g' cap' w8,X g' cap' w8->(w8.heap[eb]?=J (au #[aq e.name,U R e.aJ,af pa e.ak.length pc,U R e.cnt,U R e.mn,U R e.mx,af ga e.aB.length gc,af ea e.aA.length ec,af fa e.first.length fc,af la e.last.length lc] 84 (0,0))/\bD rb w0 w8)/\bX w0.heap.size rb L g cap w8 c ⟨#[103,97,112]⟩ es (x.row e).toList { e with aB:=e.aB++[⟨v0,v1,v2,v3⟩] } ({ x with g:=af (J ⟨g',0,I⟩) (e.aB.length+1) cap' }) cells/\L<=w8.heap.size):=by
      refine⟨λg' cap' w8=>(w8.heap[eb]?=J (au #[aq e.name,U R e.aJ,af pa e.ak.length pc,U R e.cnt,U R e.mn,U R e.mx,af ga e.aB.length gc,af ea e.aA.length ec,af fa e.first.length fc,af la e.last.length lc] 84 (0,0))/\bD rb w0 w8)/\bX w0.heap.size rb L g cap w8 c ⟨#[103,97,112]⟩ es (x.row e).toList { e with aB:=e.aB++[⟨v0,v1,v2,v3⟩] } ({ x with g:=af (J ⟨g',0,I⟩) (e.aB.length+1) cap' }) cells/\L<=w8.heap.size,?_,λ_ _ _ h=>h⟩;intro g' cap' w8 bZ dy;exact⟨KB.o _ _ bZ,(jz.o.below (w':=V.drew.alloc _) ((aC V.heap.size V).drew.alloc (by simp) _)).J_ ⟨v0,v1,v2,v3⟩ (by rw[aT.o.2];exact bZ) dy,by have h1:=bZ.size;have h2:=nP.o;simp at h1;omega⟩
     go_upto_region 71 with fail
     refine Cb 19 rfl (K5 eb ng nc V.heap.size ga e.aB.length gc v0 v1 v2 v3 X) (gw V eb (af ga e.aB.length gc) (au #[U R v0,U R v1,U R v2,U R v3] 86)) (by kernel_rfl) (by kernel_rfl) ahF ?_ ?_
     ·intro i o ho
      match i,ho with
      |0,ho=>
       obtain rfl:=bj ho
       refine cI.free rfl ?_;intro done a W hC cd dL ay aD;have EF:a.tmps[14]?.getD undef=aj (J ⟨eb,0,I⟩):=bp (aD 14 (eX (by kernel_rfl)));exact cu.val (c:=aj (J ⟨eb,6,I⟩)) (by clear ay aD dL;go_simp) (hC.other (by decide) (by decide) (by decide) (by decide)) rfl
      |1,ho=>
       obtain rfl:=bj ho
       refine cI.free rfl ?_;intro done a W hC cd dL ay aD;have ajH:a.tmps[214]?.getD undef=aj (J ⟨eb,6,I⟩):=bp (ay _ 214 (bA (i:=0) rfl) rfl rfl);have q:=hC.cell (hC.ahH cd) q2 Te;exact cu.val (c:=af ga e.aB.length gc) (by clear ay aD dL;go_simp) (hC.other (by decide) (by decide) (by decide) (by decide)) rfl
      |2,ho=>
       obtain rfl:=bj ho
       refine cI.free rfl ?_;intro done a W hC cd dL ay aD;have x9:a.tmps[9]?.getD undef=af (J ⟨ng,0,I⟩) 4 nc:=bp (aD 9 (eX (by kernel_rfl)));exact cu.val (c:=af (J ⟨ng,0,I⟩) 4 nc) (by clear ay aD dL;go_simp) (hC.other (by decide) (by decide) (by decide) (by decide)) rfl
      |3,ho=>
       obtain rfl:=bj ho
       refine cI.free rfl ?_;intro done a W hC cd dL ay aD;have ajI:a.tmps[216]?.getD undef=af (J ⟨ng,0,I⟩) 4 nc:=bp (ay _ 216 (bA (i:=0) rfl) rfl rfl);exact cu.val (c:=aj (J ⟨ng,0,I⟩)) (by clear ay aD dL;go_simp) (hC.other (by decide) (by decide) (by decide) (by decide)) rfl
      |4,ho=>
       obtain rfl:=bj ho
       refine cI.free rfl ?_;intro done a W hC cd dL ay aD;have ajJ:a.tmps[217]?.getD undef=aj (J ⟨ng,0,I⟩):=bp (ay _ 217 (bA (i:=0) rfl) rfl rfl);obtain rfl:=hC.early (hC.F3 (by decide) cd);exact cu.val (c:=U R v0) (by clear ay aD dL;go_simp) (hC.other (by decide) (by decide) (by decide) (by decide)) rfl
      |5,ho=>
       obtain rfl:=bj ho
       refine cI.free rfl ?_;intro done a W hC cd dL ay aD;have x9:a.tmps[9]?.getD undef=af (J ⟨ng,0,I⟩) 4 nc:=bp (aD 9 (eX (by kernel_rfl)));exact cu.val (c:=af (J ⟨ng,0,I⟩) 4 nc) (by clear ay aD dL;go_simp) (hC.other (by decide) (by decide) (by decide) (by decide)) rfl
      |6,ho=>
       obtain rfl:=bj ho
       refine cI.free rfl ?_;intro done a W hC cd dL ay aD;have ajK:a.tmps[219]?.getD undef=af (J ⟨ng,0,I⟩) 4 nc:=bp (ay _ 219 (bA (i:=0) rfl) rfl rfl);exact cu.val (c:=aj (J ⟨ng,1,I⟩)) (by clear ay aD dL;go_simp) (hC.other (by decide) (by decide) (by decide) (by decide)) rfl
      |7,ho=>
       obtain rfl:=bj ho
       refine cI.free rfl ?_;intro done a W hC cd dL ay aD;have ajL:a.tmps[220]?.getD undef=aj (J ⟨ng,1,I⟩):=bp (ay _ 220 (bA (i:=0) rfl) rfl rfl);obtain rfl:=hC.early (hC.F3 (by decide) cd);exact cu.val (c:=U R v1) (by clear ay aD dL;go_simp) (hC.other (by decide) (by decide) (by decide) (by decide)) rfl
      |8,ho=>
       obtain rfl:=bj ho
       refine cI.free rfl ?_;intro done a W hC cd dL ay aD;have x9:a.tmps[9]?.getD undef=af (J ⟨ng,0,I⟩) 4 nc:=bp (aD 9 (eX (by kernel_rfl)));exact cu.val (c:=af (J ⟨ng,0,I⟩) 4 nc) (by clear ay aD dL;go_simp) (hC.other (by decide) (by decide) (by decide) (by decide)) rfl
      |9,ho=>
       obtain rfl:=bj ho
       refine cI.free rfl ?_;intro done a W hC cd dL ay aD;have ajM:a.tmps[222]?.getD undef=af (J ⟨ng,0,I⟩) 4 nc:=bp (ay _ 222 (bA (i:=0) rfl) rfl rfl);exact cu.val (c:=aj (J ⟨ng,2,I⟩)) (by clear ay aD dL;go_simp) (hC.other (by decide) (by decide) (by decide) (by decide)) rfl
      |10,ho=>
       obtain rfl:=bj ho
       refine cI.free rfl ?_;intro done a W hC cd dL ay aD;have ajN:a.tmps[223]?.getD undef=aj (J ⟨ng,2,I⟩):=bp (ay _ 223 (bA (i:=0) rfl) rfl rfl);obtain rfl:=hC.early (hC.F3 (by decide) cd);exact cu.val (c:=U R v2) (by clear ay aD dL;go_simp) (hC.other (by decide) (by decide) (by decide) (by decide)) rfl
      |11,ho=>
       obtain rfl:=bj ho
       refine cI.free rfl ?_;intro done a W hC cd dL ay aD;have x9:a.tmps[9]?.getD undef=af (J ⟨ng,0,I⟩) 4 nc:=bp (aD 9 (eX (by kernel_rfl)));exact cu.val (c:=af (J ⟨ng,0,I⟩) 4 nc) (by clear ay aD dL;go_simp) (hC.other (by decide) (by decide) (by decide) (by decide)) rfl
      |12,ho=>
       obtain rfl:=bj ho
       refine cI.free rfl ?_;intro done a W hC cd dL ay aD;have ajO:a.tmps[225]?.getD undef=af (J ⟨ng,0,I⟩) 4 nc:=bp (ay _ 225 (bA (i:=0) rfl) rfl rfl);exact cu.val (c:=aj (J ⟨ng,3,I⟩)) (by clear ay aD dL;go_simp) (hC.other (by decide) (by decide) (by decide) (by decide)) rfl
      |13,ho=>
       obtain rfl:=bj ho
       refine cI.free rfl ?_;intro done a W hC cd dL ay aD;have ajP:a.tmps[226]?.getD undef=aj (J ⟨ng,3,I⟩):=bp (ay _ 226 (bA (i:=0) rfl) rfl rfl);obtain rfl:=hC.early (hC.F3 (by decide) cd);exact cu.val (c:=U R v3) (by clear ay aD dL;go_simp) (hC.other (by decide) (by decide) (by decide) (by decide)) rfl
      |14,ho=>
       obtain rfl:=bj ho
       refine cI.free rfl ?_;intro done a W hC cd dL ay aD;have ajQ:a.tmps[218]?.getD undef=U R v0:=bp (ay _ 218 (bA (i:=0) rfl) rfl rfl);have ajR:a.tmps[221]?.getD undef=U R v1:=bp (ay _ 221 (bA (i:=1) rfl) rfl rfl);have ajS:a.tmps[224]?.getD undef=U R v2:=bp (ay _ 224 (bA (i:=2) rfl) rfl rfl);have ajT:a.tmps[227]?.getD undef=U R v3:=bp (ay _ 227 (bA (i:=3) rfl) rfl rfl);exact cu.val (c:=aU #[U R v0,U R v1,U R v2,U R v3]) (by clear ay aD dL;go_simp) (hC.ahG ⟨dL _ (bA (i:=0) rfl) rfl,dL _ (bA (i:=1) rfl) rfl,dL _ (bA (i:=2) rfl) rfl,dL _ (bA (i:=3) rfl) rfl⟩) rfl
      |15,ho=>
       obtain rfl:=bj ho
       refine cI.free rfl ?_;intro done a W hC cd dL ay aD;have ajU:a.tmps[228]?.getD undef=aU #[U R v0,U R v1,U R v2,U R v3]:=bp (ay _ 228 (bA (i:=0) rfl) rfl rfl);have HC:aa _:=hC.ahI cd (dL _ (bA (i:=0) rfl) rfl);have Tf:=hC.Td cd;have K9:=hC.K4 Tf;obtain rfl:=hC.early cd;exact cu.made (c:=af (J ⟨V.heap.size,0,I⟩) 1 1) (w':=V.drew.alloc (au #[U R v0,U R v1,U R v2,U R v3] 86)) (by clear ay aD dL;go_simp) HC.o (λj v hj h=>K6 (λe2=>by rw[e2,Tf]at hj;cases hj) (λe2=>by rw[e2,K9]at hj;cases hj) h) rfl
      |16,ho=>
       obtain rfl:=bj ho
       refine cI.free rfl ?_;intro done a W hC cd dL ay aD;have Tg:done 15=true:=dL _ (bA (i:=1) rfl) rfl;have p1:done 1=true:=dL _ (bA (i:=0) rfl) rfl;have K9:=hC.K4 cd;have ahM:a.eval (.tmp 215)=(af ga e.aB.length gc):=ay _ 215 (bA (i:=0) rfl) rfl rfl;have ahN:a.eval (.tmp 229)=af (J ⟨V.heap.size,0,I⟩) 1 1:=ay _ 229 (bA (i:=1) rfl) rfl rfl;have HC:=λW' hc=>hC.ahJ (W':=W') cd ⟨Tg,p1⟩ hc
       obtain rfl:=hC.grown Tg cd;obtain⟨g',cap',w8,ahO,Th,Ti⟩:=ahD L 81 (hown.alloc (au #[U R v0,U R v1,U R v2,U R v3] 86)) ⟨v0,v1,v2,v3⟩ ⟨V.heap.size,0,I⟩ 1 (Av V.drew [U R v0,U R v1,U R v2,U R v3] 86) lD (by simp;omega);have r8:=F4.o g' cap' w8 (K7.o g' cap' w8 Ti Th)
       refine cu.made (c:=af (J ⟨g',0,I⟩) (e.aB.length+1) cap') (w':=w8) (ahC (s:=.tmp 215) (x:=.tmp 229) rfl rfl ahM ahN ahO) (HC w8 (by simp[World.cell?,r8.1.1])) (λj v hj h=>K6 (λe2=>by rw[e2,cd]at hj;cases hj) (λe2=>by rw[e2,K9]at hj;cases hj) h) ⟨g',cap',rfl,λ_=>K7.o g' cap' w8 Ti Th⟩
      |17,ho=>
       obtain rfl:=bj ho
       refine cI.free rfl ?_;intro done a W hC cd dL ay aD;have EF:a.tmps[14]?.getD undef=aj (J ⟨eb,0,I⟩):=bp (aD 14 (eX (by kernel_rfl)));exact cu.val (c:=aj (J ⟨eb,6,I⟩)) (by clear ay aD dL;go_simp) (hC.other (by decide) (by decide) (by decide) (by decide)) rfl
      |18,ho=>
       obtain rfl:=bj ho
       refine cI.free rfl ?_;intro done a W hC cd dL ay aD;have ajV:a.tmps[231]?.getD undef=aj (J ⟨eb,6,I⟩):=bp (ay _ 231 (bA (i:=0) rfl) rfl rfl);obtain⟨g',cap',hv,yN⟩:=ay _ 230 (bA (i:=1) rfl) rfl rfl;have ajW:=bp hv;have Tj:done 16=true:=dL _ (bA (i:=1) rfl) rfl;have d8:=hC.late Tj cd;have r8:=F4.o g' cap' W (yN d8);have d9:W.frozen? ⟨eb,6,I⟩=false:=by simp[World.frozen?,r8.1.1]
       have Tk:=yN d8;have Tl:(W.setCell ⟨eb,6,I⟩ (af (J ⟨g',0,I⟩) (e.aB.length+1) cap')).cell? ⟨eb,6,I⟩=J (af (J ⟨g',0,I⟩) (e.aB.length+1) cap'):=by simp[World.cell?,p_ r8.1.1]
       have HC:aa _:=hC.ahK (W':=W.setCell ⟨eb,6,I⟩ (af (J ⟨g',0,I⟩) (e.aB.length+1) cap')) Tj
       refine cu.BQ (w':=W.setCell ⟨eb,6,I⟩ (af (J ⟨g',0,I⟩) (e.aB.length+1) cap')) (by clear ay aD dL hC hv yN r8 Tk Tl;go_simp) HC.o ?_ ⟨g',cap',W,Tk,rfl⟩;intro j v hj h
       by_cases Cn:j=16
       ·subst Cn;obtain⟨g2,vB,h1,-⟩:=h;exact⟨g2,vB,h1,λe2=>by rw[Tl]at e2;simp at e2⟩
       exact K6 Cn (λe2=>by rw[e2,cd]at hj;cases hj) h
      |n+19,ho=>simp at ho
     intro vals W hC hS;obtain⟨g',cap',w8,yN,rfl⟩:=hS 18 (by decide);have HX:aa (X g' cap' w8):=yN;clear hS hC;simp only[fill,dz];go_simp
     clear HX;have r8:=F4.o _ _ _ yN;have H8:aa (_/\_):=r8.1;have vh:aa (bX w0.heap.size rb L g cap w8 c ⟨#[103,97,112]⟩ es (x.row e).toList { e with aB:=e.aB++[⟨v0,v1,v2,v3⟩] } ({ x with g:=af (J ⟨g',0,I⟩) (e.aB.length+1) cap' }) cells):=r8.2.1;have vk:aa (L<=w8.heap.size):=r8.2.2;clear r8 yN K7 F4 q2 vg Te hown;go_upto_region 78 with fail
     obtain⟨Y,hY⟩:∃Y,Y=w8.setCell ⟨eb,6,I⟩ (af (J ⟨g',0,I⟩) (e.aB.length+1) cap'):=⟨_,rfl⟩;rw[<- hY];have bz:aa (bX w0.heap.size rb L g cap Y c ⟨#[103,97,112]⟩ es (x.row e).toList { e with aB:=e.aB++[⟨v0,v1,v2,v3⟩] } ({ x with g:=af (J ⟨g',0,I⟩) (e.aB.length+1) cap' }) cells):=by rw[hY];exact vh.o.qR eb 6 _ H8.o.1 lT.o.1
     have cL:aa (Y.heap[eb]?=J (au #[aq e.name,U R e.aJ,af pa e.ak.length pc,U R e.cnt,U R e.mn,U R e.mx,af (J ⟨g',0,I⟩) (e.aB.length+1) cap',af ea e.aA.length ec,af fa e.first.length fc,af la e.last.length lc] 84 (0,0))):=by show _=_;rw[hY];exact p_ H8.o.1 _
     have iA:aa (bD rb w0 Y):=by show bD _ _ _;rw[hY];exact H8.o.2.setCell (p:=⟨eb,6,I⟩) (aP (bw HS.o.1.size lT.o.2.2)) _
     have rN:aa (L<=Y.heap.size):=by show _<=_;rw[hY];simpa[World.setCell]using vk.o
     have rO:aa (({ x with g:=af (J ⟨g',0,I⟩) (e.aB.length+1) cap' }:cn).row { e with aB:=e.aB++[⟨v0,v1,v2,v3⟩] }=#[aq e.name,U R e.aJ,af pa e.ak.length pc,U R e.cnt,U R e.mn,U R e.mx,af (J ⟨g',0,I⟩) (e.aB.length+1) cap',af ea e.aA.length ec,af fa e.first.length fc,af la e.last.length lc]):=by show _=_;rw[aT.o.2];rfl
     clear hY lH lD y0 y1 y2 y3 y4 u0 u1 u2 u3;have e4:Y.cell? ⟨rb,4,I⟩=J (af (J ⟨g,0,I⟩) (n+1) cap):=by have:=bz.o.row;rw[aX.o];simp[World.cell?,this,bV]
     have q0:Y.cell? ⟨eb,0,I⟩=J (aq e.name):=by simp[World.cell?,cL.o]
     have p0:Y.cell? ⟨g,n*10,I⟩=J (aq e.name):=by have:=(bz.o.aZ (j:=0) (u:=aq e.name) (by rw[aT.o.1];rfl)).1;rw[aX.o];simpa using this
     have f0:Y.frozen? ⟨g,n*10,I⟩=false:=by have:=(bz.o.aZ (j:=0) (u:=aq e.name) (by rw[aT.o.1];rfl)).2;rw[aX.o];simpa using this
     have q1:Y.cell? ⟨eb,1,I⟩=J (U R e.aJ):=by simp[World.cell?,cL.o]
     have p1:Y.cell? ⟨g,n*10+1,I⟩=J (U R e.aJ):=by have:=(bz.o.aZ (j:=1) (u:=U R e.aJ) (by rw[aT.o.1];rfl)).1;rw[aX.o];simpa using this
     have f1:Y.frozen? ⟨g,n*10+1,I⟩=false:=by have:=(bz.o.aZ (j:=1) (u:=U R e.aJ) (by rw[aT.o.1];rfl)).2;rw[aX.o];simpa using this
     have q2:Y.cell? ⟨eb,2,I⟩=J (af pa e.ak.length pc):=by simp[World.cell?,cL.o]
     have p2:Y.cell? ⟨g,n*10+2,I⟩=J (af pa e.ak.length pc):=by have:=(bz.o.aZ (j:=2) (u:=af pa e.ak.length pc) (by rw[aT.o.1];rfl)).1;rw[aX.o];simpa using this
     have f2:Y.frozen? ⟨g,n*10+2,I⟩=false:=by have:=(bz.o.aZ (j:=2) (u:=af pa e.ak.length pc) (by rw[aT.o.1];rfl)).2;rw[aX.o];simpa using this
     have q3:Y.cell? ⟨eb,3,I⟩=J (U R e.cnt):=by simp[World.cell?,cL.o]
     have p3:Y.cell? ⟨g,n*10+3,I⟩=J (U R e.cnt):=by have:=(bz.o.aZ (j:=3) (u:=U R e.cnt) (by rw[aT.o.1];rfl)).1;rw[aX.o];simpa using this
     have f3:Y.frozen? ⟨g,n*10+3,I⟩=false:=by have:=(bz.o.aZ (j:=3) (u:=U R e.cnt) (by rw[aT.o.1];rfl)).2;rw[aX.o];simpa using this
     have q4:Y.cell? ⟨eb,4,I⟩=J (U R e.mn):=by simp[World.cell?,cL.o]
     have p4:Y.cell? ⟨g,n*10+4,I⟩=J (U R e.mn):=by have:=(bz.o.aZ (j:=4) (u:=U R e.mn) (by rw[aT.o.1];rfl)).1;rw[aX.o];simpa using this
     have f4:Y.frozen? ⟨g,n*10+4,I⟩=false:=by have:=(bz.o.aZ (j:=4) (u:=U R e.mn) (by rw[aT.o.1];rfl)).2;rw[aX.o];simpa using this
     have q5:Y.cell? ⟨eb,5,I⟩=J (U R e.mx):=by simp[World.cell?,cL.o]
     have p5:Y.cell? ⟨g,n*10+5,I⟩=J (U R e.mx):=by have:=(bz.o.aZ (j:=5) (u:=U R e.mx) (by rw[aT.o.1];rfl)).1;rw[aX.o];simpa using this
     have f5:Y.frozen? ⟨g,n*10+5,I⟩=false:=by have:=(bz.o.aZ (j:=5) (u:=U R e.mx) (by rw[aT.o.1];rfl)).2;rw[aX.o];simpa using this
     have q6:Y.cell? ⟨eb,6,I⟩=J (af (J ⟨g',0,I⟩) (e.aB.length+1) cap'):=by simp[World.cell?,cL.o]
     have p6:Y.cell? ⟨g,n*10+6,I⟩=J (af ga e.aB.length gc):=by have:=(bz.o.aZ (j:=6) (u:=af ga e.aB.length gc) (by rw[aT.o.1];rfl)).1;rw[aX.o];simpa using this
     have f6:Y.frozen? ⟨g,n*10+6,I⟩=false:=by have:=(bz.o.aZ (j:=6) (u:=af ga e.aB.length gc) (by rw[aT.o.1];rfl)).2;rw[aX.o];simpa using this
     have q7:Y.cell? ⟨eb,7,I⟩=J (af ea e.aA.length ec):=by simp[World.cell?,cL.o]
     have p7:Y.cell? ⟨g,n*10+7,I⟩=J (af ea e.aA.length ec):=by have:=(bz.o.aZ (j:=7) (u:=af ea e.aA.length ec) (by rw[aT.o.1];rfl)).1;rw[aX.o];simpa using this
     have f7:Y.frozen? ⟨g,n*10+7,I⟩=false:=by have:=(bz.o.aZ (j:=7) (u:=af ea e.aA.length ec) (by rw[aT.o.1];rfl)).2;rw[aX.o];simpa using this
     have q8:Y.cell? ⟨eb,8,I⟩=J (af fa e.first.length fc):=by simp[World.cell?,cL.o]
     have p8:Y.cell? ⟨g,n*10+8,I⟩=J (af fa e.first.length fc):=by have:=(bz.o.aZ (j:=8) (u:=af fa e.first.length fc) (by rw[aT.o.1];rfl)).1;rw[aX.o];simpa using this
     have f8:Y.frozen? ⟨g,n*10+8,I⟩=false:=by have:=(bz.o.aZ (j:=8) (u:=af fa e.first.length fc) (by rw[aT.o.1];rfl)).2;rw[aX.o];simpa using this
     have q9:Y.cell? ⟨eb,9,I⟩=J (af la e.last.length lc):=by simp[World.cell?,cL.o]
     have p9:Y.cell? ⟨g,n*10+9,I⟩=J (af la e.last.length lc):=by have:=(bz.o.aZ (j:=9) (u:=af la e.last.length lc) (by rw[aT.o.1];rfl)).1;rw[aX.o];simpa using this
     have f9:Y.frozen? ⟨g,n*10+9,I⟩=false:=by have:=(bz.o.aZ (j:=9) (u:=af la e.last.length lc) (by rw[aT.o.1];rfl)).2;rw[aX.o];simpa using this
     go_wp2_with fail
     go_region
     all_goals
      obtain⟨Z,hZ⟩:∃Z,Z=((((((((((Y.setCell ⟨g,n*10,I⟩ (aq e.name)).setCell ⟨g,n*10+1,I⟩ (U R e.aJ)).setCell ⟨g,n*10+2,I⟩ (af pa e.ak.length pc)).setCell ⟨g,n*10+3,I⟩ (U R e.cnt)).setCell ⟨g,n*10+4,I⟩ (U R e.mn)).setCell ⟨g,n*10+5,I⟩ (U R e.mx)).setCell ⟨g,n*10+6,I⟩ (af (J ⟨g',0,I⟩) (e.aB.length+1) cap')).setCell ⟨g,n*10+7,I⟩ (af ea e.aA.length ec)).setCell ⟨g,n*10+8,I⟩ (af fa e.first.length fc)).setCell ⟨g,n*10+9,I⟩ (af la e.last.length lc)):=⟨_,rfl⟩;rw[<- hZ];have eP:aa (gO w0.heap.size rb L g cap Z c ⟨#[103,97,112]⟩ es { e with aB:=e.aB++[⟨v0,v1,v2,v3⟩] } ({ x with g:=af (J ⟨g',0,I⟩) (e.aB.length+1) cap' }) cells):=by
       rw[hZ];exact bz.o.AP (by rw[aX.o]) (by rw[rO.o])
      have ey:aa (bD rb w0 Z):=by
       obtain⟨cur,-,rP⟩:=bz.o.grow;have hle:g=rb\/w0.heap.size<=g:=aP rP;show bD _ _ _
       rw[hZ];exact((((((((((iA.o.setCell (p:=⟨g,n*10,I⟩) hle _).setCell (p:=⟨g,n*10+1,I⟩) hle _).setCell (p:=⟨g,n*10+2,I⟩) hle _).setCell (p:=⟨g,n*10+3,I⟩) hle _).setCell (p:=⟨g,n*10+4,I⟩) hle _).setCell (p:=⟨g,n*10+5,I⟩) hle _).setCell (p:=⟨g,n*10+6,I⟩) hle _).setCell (p:=⟨g,n*10+7,I⟩) hle _).setCell (p:=⟨g,n*10+8,I⟩) hle _).setCell (p:=⟨g,n*10+9,I⟩) hle _)
      have rQ:aa (L<=Z.heap.size):=by show _<=_;rw[hZ];simpa[World.setCell]using rN.o
      clear hZ e4 q0 p0 f0 q1 p1 f1 q2 p2 f2 q3 p3 f3 q4 p4 f4 q5 p5 f5 q6 p6 f6 q7 p7 f7 q8 p8 f8 q9 p9 f9;go_wp2;go_ret
      refine⟨by rw[ft.o];rfl,ey.o.drew,λ_=>aP ⟨L,g,cap,es,{ e with aB:=e.aB++[⟨v0,v1,v2,v3⟩] },({ x with g:=af (J ⟨g',0,I⟩) (e.aB.length+1) cap' }),cells,?_,rQ.o,?_⟩⟩
      ·rw[mV.o,show (aY (bq e.ak) false (form 6) [bl s0,bl s1,bl s2,bl s3]).2=_ from lR.o];exact(by simp only[ed];rw[pj.o,pD];rfl)
      exact gO.cfg (bX.below eP.o (aC _ _).drew) (λ_ _=>rfl)
  have HE:aa (bR last c 6 ws=1):=by show _=_;rw[HK.o];exact rL _ _ _ (by rw[<- HM.o.2,fL];exact hN)
  have mN:¬(m:Int)=4+1:=by have:=HM.o.1;omega
  clear hN;go_wp2;go_ret;exact⟨by rw[HE.o];rfl,bK.o _ (aC _ _),λh0=>by rw[HE.o]at h0;cases h0⟩
theorem ahP(w0 w:ai)(rb:Nat)(c:aS)(last:Int)(l:ByteArray)(ws:List Bs)(hb0:bD rb w0 w)(h:eO w0.heap.size rb w c (cf last))(hl:l.size<=1000000)(l0:-1<=last)(l9:last<=9)(hO:gZ 1000000 c last)(hcut:bW 32 (bl l)=kw 7::ws):Calls prog 16 #[aj (J ⟨rb,0,I⟩),aq l] w λv w'=>v=ax (U R (bR last c 7 ws:Nat))/\bD rb w0 w'/\(bR last c 7 ws=0->eO w0.heap.size rb w' (ed c 7 ws (aY (bq (bO c.aw)) false (form 7) ws).2) (eN 7)):=by
 obtain⟨i0,hi,hz0,hz1,hz2⟩:=fj ny;have HS:aa (bD rb w0 w/\eO w0.heap.size rb w c (cf last)):=⟨hb0,h⟩;have HO:aa (gZ 1000000 c last):=hO;have gD:aa (Calls prog 15 #[aq l,U .u8 32] w λe w'=>∃(wt:List ByteArray) (g cap m:Nat),e=ax (af (J ⟨g,0,I⟩) m cap)/\m=wt.length+1/\wt.map bl=ws/\w'.ownsRow w.heap.size 9 1 (af (J ⟨g,0,I⟩) m cap) m ((⟨#[101,100,103,101]⟩::wt).flatMap bS)/\Below w.heap.size w w'):=by
  refine(pZ l 32 w hl).mono ?_;rintro e w' ⟨wl,g,cap,rfl,h1,h2,h3⟩;rw[hcut]at h1;obtain⟨wt,rfl,h4⟩:=tz h1;exact⟨wt,g,cap,_,rfl,rfl,h4,h2,h3⟩
 have gP:aa (∀V,Below w.heap.size w V->Calls prog 53 #[aj (J ⟨rb,0,I⟩),aq ⟨#[101,100,103,101]⟩] V λe w'=>e=ax (aI (may last 7))/\Below V.heap.size V w'):=λV hV=>by
  have hc:V.cell? ⟨rb,5,I⟩=J (aq (cf last)):=by
   rcases h.below hV with h1|⟨_,_,_,_,_,_,_,_,_,h1⟩
   ·have:=h1.row;simp[World.cell?,this,bV]
   have:=h1.row;simp[World.cell?,this,bV]
  exact rJ rb last (eN 7) V l0 l9 hc
 clear hb0 h hl l0 l9 hO hcut;go_enter func16,ntmps16
 go_wp2_with fail
 refine aL gD.o ?_;rintro v w1 ⟨wt,wg,wc,m,rfl,hm,fq,hown,hb1⟩;have aO:aa (Below w.heap.size w w1):=hb1;have lQ:aa (w.heap.size<=wg):=by
  show _<=_
  exact(hown.lt wg rfl).1
 have HW:aa (∀V,Below w1.heap.size w1 V->∀j s,(⟨#[101,100,103,101]⟩::wt)[j]?=J s->V.cell? ⟨wg,j,I⟩=J (aq s)):=λV hV j s hj=>aG hV (qE hown j s hj)
 have HM:aa (m=wt.length+1/\wt.map bl=ws):=⟨hm,fq⟩;have c0:w1.cell? ⟨wg,0,I⟩=J (aq ⟨#[101,100,103,101]⟩):=HW.o w1 (aC _ _) 0 _ rfl;have m0:(0:Int)<(m:Int):=by omega
 clear hm fq hown hb1 gD;go_wp2_with fail
 refine aL (gP.o w1 aO.o) ?_;rintro v w2 ⟨rfl,hb2⟩;have aW:aa (Below w.heap.size w w2):=aO.o.trans (hb2.mono aO.o.size);have bL:aa (Below w1.heap.size w1 w2):=hb2;have bK:aa (∀V,Below w2.heap.size w2 V->bD rb w0 V):=λV hV=>HS.o.1.trans ((aW.o.trans (hV.mono aW.o.size)).mono HS.o.1.size)
 clear hb2 gP c0
 cases cZ:may last 7 with
 |false=>
  have HE:aa (bR last c 7 ws=1):=tr cZ;clear cZ;go_wp2;go_ret;exact⟨by rw[HE.o];rfl,bK.o _ (aC _ _),λh0=>by rw[HE.o]at h0;cases h0⟩
 |true=>
  have HY:aa (may last 7=true):=cZ;have HK:aa (bR last c 7 ws=(aY (bq (bO c.aw)) false (form 7) ws).1):=tu cZ;clear cZ
  by_cases hN:wt.length=2
  ·obtain⟨s0,s1,rfl⟩:∃s0 s1,wt=[s0,s1]:=by
    match wt,hN with
    |[s0,s1],_=>exact⟨s0,s1,rfl⟩
   obtain rfl:ws=[bl s0,bl s1]:=HM.o.2.symm.trans rfl;obtain rfl:m=2+1:=HM.o.1;clear HM hN;obtain⟨L,g,cap,es,e,x,cells,hce,eG,hD⟩:∃L g cap es e x cells,c.aw=es++[e]/\L<=w.heap.size/\gO w0.heap.size rb L g cap w c (cf last) es e x cells:=by
    rcases HS.o.2 with h1|h1
    ·exact absurd h1.nil (HO.o.e3 (yD (by decide) HY.o))
    exact h1
   have pj:aa (c.aw=es++[e]):=hce;have np:aa (L<=w.heap.size):=eG;have mV:aa (bO c.aw=e.ak):=by show _=_;rw[hce];exact yx _ _
   rw[mV.o]at HK;have H1:aa (∀V,Below w.heap.size w V->gO w0.heap.size rb L g cap V c (cf last) es e x cells):=λV hV=>bX.below hD hV
   obtain⟨pa,pc,eu⟩:=cJ hD.new.hp;have rM:aa (x.p=af pa e.ak.length pc):=eu;have fK:aa (es.length<1000000/\nM 1000000 e):=⟨by have:=HO.o.len;rw[hce,dm]at this;simp at this;omega,HO.o.sz e (by rw[hce];simp)⟩;obtain⟨n,hn⟩:∃n,n=es.length:=⟨_,rfl⟩;have aX:aa (n=es.length):=hn;have Dw:n<1000000:=by have:=fK.o.1;omega
   have Dx:(n:Int)<(n:Int)+1:=by omega
   have Dy:¬(n:Int)<0:=by omega
   have kD:aa (∀V,Below w.heap.size w V->V.cell? ⟨rb,4,I⟩=J (af (J ⟨g,0,I⟩) (n+1) cap)):=λV hV=>by have:=(H1.o V hV).row;rw[hn];simp[World.cell?,this,bV]
   have iy:aa (∀V,Below w.heap.size w V->V.cell? ⟨g,n*10+2,I⟩=J (af pa e.ak.length pc)):=λV hV=>by rw[hn,<- eu];exact((H1.o V hV).aZ (j:=2) rfl).1
   have qG:aa (∀s V,Below w.heap.size w V->Calls prog 55 #[af pa e.ak.length pc,aq s] V λe' w'=>e'=ax (U R (idxOf e.ak s))/\w'=V):=λs V hV=>wk e.ak s pa pc V (by rw[<- eu];exact bU.jc (enc:=bS) (H1.o V hV).new.hp (λ_=>rfl)) fK.o.2.p
   have e4:=kD.o w2 aW.o;clear hce eG hD eu hn;go_wp2_with fail
   go_loopw [9,10,11,12] (λnv ov iv _ wr=>∃(j:Nat) (nn:Bool) (vs:List Int) (na:Option az) (nc:Nat),j<=2/\iv=U R j/\ov=aI nn/\nv=af na j nc/\wr.ownsRow w2.heap.size 3 1 (af na j nc) j (vs.flatMap bm)/\Below w2.heap.size w2 wr/\dR (bq e.ak) [2,2] [bl s0,bl s1] j nn vs) (λ_ _ iv _ _=>2-(intOf iv).toNat)
   case atStart=>exact⟨0,false,[],I,0,bI _,rfl,rfl,rfl,fC _ _ _ _,aC _ _,dR.start _ _ _⟩
   case round=>
    obtain⟨j,nn,vs,na,nc,hj,rfl,rfl,rfl,hown,hb,hf⟩:=hrel;have HB:aa (Below w2.heap.size w2 wr):=hb;have bE:aa (wr.ownsRow w2.heap.size 3 1 (af na j nc) j (vs.flatMap bm)):=hown;have HF:aa (dR (bq e.ak) [2,2] [bl s0,bl s1] j nn vs):=hf;clear hb hown hf e4
    by_cases hlt:j<2
    ·clear hj
     rcases(show j=0\/j=1 by omega)with rfl|rfl
     clear hlt
     ·have e5:=kD.o wr (aW.o.trans (HB.o.mono aW.o.size));have e6:=iy.o wr (aW.o.trans (HB.o.mono aW.o.size));have d0:=HW.o wr (bL.o.trans (HB.o.mono bL.o.size)) 1 s0 rfl;have jN:aa (∀q,Calls prog 55 #[af pa e.ak.length pc,aq s0] (wr.drewN q) λe' w'=>e'=ax (U R (idxOf e.ak s0))/\w'=wr.drewN q):=λq=>qG.o s0 _ (aW.o.trans ((cg HB.o q).mono aW.o.size))
      have kT:aa (¬s0=⟨#[]⟩->_):=@yM e.ak s0;generalize idxOf e.ak s0=z at *;go_upto_region 38 with fail
      go_cut [12] (λxv wv=>xv=U R z/\Below w2.heap.size w2 wv/\wv.ownsRow w2.heap.size 3 1 (af na 0 nc) 0 (vs.flatMap bm))
      case first=>
       go_wp2_with fail
       go_quiet (first|(go_at_call 55;exact o8 (jN.o _)))
       go_wp2_with fail
       go_meet
       case rel=>exact⟨rfl,cg HB.o _,bE.o⟩
      obtain⟨rfl,fk,ji⟩:=hcut;clear HB bE jN e5 e6 d0;rename ai=>wr
      have HB:aa (Below w2.heap.size w2 wr):=fk;have bE:aa (wr.ownsRow w2.heap.size 3 1 (af na 0 nc) 0 (vs.flatMap bm)):=ji;clear fk ji;have d0:=HW.o wr (bL.o.trans (HB.o.mono bL.o.size)) 1 s0 rfl
      by_cases d_:s0=⟨#[]⟩
      ·have HE:aa (bR last c 7 [bl s0,bl s1]=1):=by show _=_;rw[HK.o];exact HF.o.bad rfl rfl (by rw[d_];exact uZ)
       obtain⟨n1,n2⟩:=nO d_;clear d_
       by_cases z0:z<0
       ·go_wp2;go_ret;exact⟨by rw[HE.o];rfl,bK.o _ HB.o,λh0=>by rw[HE.o]at h0;cases h0⟩
       go_wp2;go_ret;exact⟨by rw[HE.o];rfl,bK.o _ HB.o,λh0=>by rw[HE.o]at h0;cases h0⟩
      have iU:aa _:=kT.o d_;obtain⟨n1,n2⟩:=eM d_;clear d_
      by_cases z0:z<0
      ·have HZ:aa ((bF (bq e.ak) 2 (bl s0)).1=5):=by show _=_;rw[iU.o.1,aR z0]
       go_wp2_with (at_builtin;refine fw _ rfl _ _ 65 rfl w2.heap.size 3 i0 (U R 0) 1 8 underlying65 hi hz0 hz1 hz2 rfl (by decide) (af na 0 nc) 0 (vs.flatMap bm) rfl (bE.o.alloc _) ⟨wr.heap.size,0,.none⟩ 1 1 [U R z] rfl rfl (h_ _ _ _) (by intro u hu;simp at hu;subst hu;rfl) (by unfold maxLen;omega) (by omega) (by have:=HB.o.size;simp;omega) ?_;intro v1 w4 hown1 dh ij)
       obtain⟨dS,df,cC⟩:=cJ hown1;subst cC;go_roundw
       case rel=>exact⟨0+1,true,vs++[z],dS,df,by omega,rfl,rfl,rfl,by simpa[dP,bm]using hown1,(HB.o.alloc HB.o.size _).grown dh (by have:=HB.o.size;simp;omega) (λq hq=>(bE.o.lt q hq).1),HF.o.next rfl rfl true z (by rw[HZ.o];decide) (by rw[HZ.o];simp) (λh0=>by cases h0)⟩
       case measure=>simp[intOf]
      have HZ:aa ((bF (bq e.ak) 2 (bl s0)).1=0/\(bF (bq e.ak) 2 (bl s0)).2=z):=⟨by rw[iU.o.1,aK z0],iU.o.2 (by omega)⟩;go_wp2_with (at_builtin;refine fw _ rfl _ _ 65 rfl w2.heap.size 3 i0 (U R 0) 1 8 underlying65 hi hz0 hz1 hz2 rfl (by decide) (af na 0 nc) 0 (vs.flatMap bm) rfl (bE.o.alloc _) ⟨wr.heap.size,0,.none⟩ 1 1 [U R z] rfl rfl (h_ _ _ _) (by intro u hu;simp at hu;subst hu;rfl) (by unfold maxLen;omega) (by omega) (by have:=HB.o.size;simp;omega) ?_;intro v1 w4 hown1 dh ij)
      obtain⟨dS,df,cC⟩:=cJ hown1;subst cC;go_roundw
      case rel=>exact⟨0+1,nn,vs++[z],dS,df,by omega,rfl,rfl,rfl,by simpa[dP,bm]using hown1,(HB.o.alloc HB.o.size _).grown dh (by have:=HB.o.size;simp;omega) (λq hq=>(bE.o.lt q hq).1),HF.o.next rfl rfl nn z (by rw[HZ.o.1];decide) (by rw[HZ.o.1];simp) (λ_=>HZ.o.2.symm)⟩
      case measure=>simp[intOf]
     have e5:=kD.o wr (aW.o.trans (HB.o.mono aW.o.size));have e6:=iy.o wr (aW.o.trans (HB.o.mono aW.o.size));have d1:=HW.o wr (bL.o.trans (HB.o.mono bL.o.size)) 2 s1 rfl;have jN:aa (∀q,Calls prog 55 #[af pa e.ak.length pc,aq s1] (wr.drewN q) λe' w'=>e'=ax (U R (idxOf e.ak s1))/\w'=wr.drewN q):=λq=>qG.o s1 _ (aW.o.trans ((cg HB.o q).mono aW.o.size))
     have kT:aa (¬s1=⟨#[]⟩->_):=@yM e.ak s1;generalize idxOf e.ak s1=z at *;go_upto_region 38 with fail
     go_cut [12] (λxv wv=>xv=U R z/\Below w2.heap.size w2 wv/\wv.ownsRow w2.heap.size 3 1 (af na 1 nc) 1 (vs.flatMap bm))
     case first=>
      go_wp2_with fail
      go_quiet (first|(go_at_call 55;exact o8 (jN.o _)))
      go_wp2_with fail
      go_meet
      case rel=>exact⟨rfl,cg HB.o _,bE.o⟩
     obtain⟨rfl,fk,ji⟩:=hcut;clear HB bE jN e5 e6 d1;rename ai=>wr
     have HB:aa (Below w2.heap.size w2 wr):=fk;have bE:aa (wr.ownsRow w2.heap.size 3 1 (af na 1 nc) 1 (vs.flatMap bm)):=ji;clear fk ji;have d1:=HW.o wr (bL.o.trans (HB.o.mono bL.o.size)) 2 s1 rfl
     by_cases d_:s1=⟨#[]⟩
     ·have HE:aa (bR last c 7 [bl s0,bl s1]=1):=by show _=_;rw[HK.o];exact HF.o.bad rfl rfl (by rw[d_];exact uZ)
      obtain⟨n1,n2⟩:=nO d_;clear d_
      by_cases z0:z<0
      ·go_wp2;go_ret;exact⟨by rw[HE.o];rfl,bK.o _ HB.o,λh0=>by rw[HE.o]at h0;cases h0⟩
      go_wp2;go_ret;exact⟨by rw[HE.o];rfl,bK.o _ HB.o,λh0=>by rw[HE.o]at h0;cases h0⟩
     have iU:aa _:=kT.o d_;obtain⟨n1,n2⟩:=eM d_;clear d_
     by_cases z0:z<0
     ·have HZ:aa ((bF (bq e.ak) 2 (bl s1)).1=5):=by show _=_;rw[iU.o.1,aR z0]
      go_wp2_with (at_builtin;refine fw _ rfl _ _ 65 rfl w2.heap.size 3 i0 (U R 0) 1 8 underlying65 hi hz0 hz1 hz2 rfl (by decide) (af na 1 nc) 1 (vs.flatMap bm) rfl (bE.o.alloc _) ⟨wr.heap.size,0,.none⟩ 1 1 [U R z] rfl rfl (h_ _ _ _) (by intro u hu;simp at hu;subst hu;rfl) (by unfold maxLen;omega) (by omega) (by have:=HB.o.size;simp;omega) ?_;intro v1 w4 hown1 dh ij)
      obtain⟨dS,df,cC⟩:=cJ hown1;subst cC;go_roundw
      case rel=>exact⟨1+1,true,vs++[z],dS,df,by omega,rfl,rfl,rfl,by simpa[dP,bm]using hown1,(HB.o.alloc HB.o.size _).grown dh (by have:=HB.o.size;simp;omega) (λq hq=>(bE.o.lt q hq).1),HF.o.next rfl rfl true z (by rw[HZ.o];decide) (by rw[HZ.o];simp) (λh0=>by cases h0)⟩
      case measure=>simp[intOf]
     have HZ:aa ((bF (bq e.ak) 2 (bl s1)).1=0/\(bF (bq e.ak) 2 (bl s1)).2=z):=⟨by rw[iU.o.1,aK z0],iU.o.2 (by omega)⟩;go_wp2_with (at_builtin;refine fw _ rfl _ _ 65 rfl w2.heap.size 3 i0 (U R 0) 1 8 underlying65 hi hz0 hz1 hz2 rfl (by decide) (af na 1 nc) 1 (vs.flatMap bm) rfl (bE.o.alloc _) ⟨wr.heap.size,0,.none⟩ 1 1 [U R z] rfl rfl (h_ _ _ _) (by intro u hu;simp at hu;subst hu;rfl) (by unfold maxLen;omega) (by omega) (by have:=HB.o.size;simp;omega) ?_;intro v1 w4 hown1 dh ij)
     obtain⟨dS,df,cC⟩:=cJ hown1;subst cC;go_roundw
     case rel=>exact⟨1+1,nn,vs++[z],dS,df,by omega,rfl,rfl,rfl,by simpa[dP,bm]using hown1,(HB.o.alloc HB.o.size _).grown dh (by have:=HB.o.size;simp;omega) (λq hq=>(bE.o.lt q hq).1),HF.o.next rfl rfl nn z (by rw[HZ.o.1];decide) (by rw[HZ.o.1];simp) (λ_=>HZ.o.2.symm)⟩
     case measure=>simp[intOf]
    obtain rfl:j=2:=by omega
    clear hlt hj;obtain⟨cA,fu⟩:=(show dR (bq e.ak) [2,2] [bl s0,bl s1] ([2,2]:List Nat).length nn vs from HF.o).done rfl
    cases nn with
    |true=>
     have HE:aa (bR last c 7 [bl s0,bl s1]=5):=by show _=_;rw[HK.o];exact cA
     clear cA fu;go_wp2;go_ret;exact⟨by rw[HE.o];rfl,bK.o _ HB.o,λh0=>by rw[HE.o]at h0;cases h0⟩
    |false=>
     have ft:aa (bR last c 7 [bl s0,bl s1]=0):=by show _=_;rw[HK.o];exact cA
     have lR:aa ((aY (bq e.ak) false [2,2] [bl s0,bl s1]).2=vs):=fu rfl;have hlen:=HF.o.len;clear cA fu;obtain⟨v0,v1,rfl⟩:∃v0 v1,vs=[v0,v1]:=by
      match vs,hlen with
      |[v0,v1],_=>exact⟨v0,v1,rfl⟩
     obtain⟨ng,df,ki⟩:=rK bE.o
     cases ki
     have lS:aa (w2.heap.size<=ng):=by show _<=_;exact(bE.o.lt ng rfl).1
     have x0:=mq bE.o 0 v0 rfl;have x1:=mq bE.o 1 v1 rfl;have cY:aa (Below w.heap.size w wr):=aW.o.trans (HB.o.mono aW.o.size);have d0:=HW.o wr (bL.o.trans (HB.o.mono bL.o.size)) 0 _ rfl;have d1:=HW.o wr (bL.o.trans (HB.o.mono bL.o.size)) 1 _ rfl;have d2:=HW.o wr (bL.o.trans (HB.o.mono bL.o.size)) 2 _ rfl;clear hlen HF;have hbase:=H1.o wr cY.o;have qz:rb<w.heap.size:=bJ (H1.o w (aC _ _)).row;have wO:g<w.heap.size:=by obtain⟨cur,h1,-⟩:=(H1.o w (aC _ _)).grow;exact bJ h1
     have eH:¬rb=wg:=by have:=lQ.o;omega
     have u_:¬wg=rb:=λe2=>eH e2.symm
     have gF:¬rb=ng:=by have:=aW.o.size;have:=lS.o;omega
     have ve:¬ng=rb:=λe2=>gF e2.symm
     have hrow:=hbase.row;have r5:wr.cell? ⟨rb,5,I⟩=J (aq (cf last)):=by simp[World.cell?,hrow,bV]
     have f5:wr.frozen? ⟨rb,5,I⟩=false:=by simp[World.frozen?,hrow]
     clear hrow;go_upto_region 62 with fail
     obtain⟨Wz,cB⟩:∃V,V=wr.setCell ⟨rb,5,I⟩ (aq ⟨#[101,100,103,101]⟩):=⟨_,rfl⟩;rw[<- cB];have bP:aa (bX w0.heap.size rb L g cap Wz c ⟨#[101,100,103,101]⟩ es (x.row e).toList e x cells):=by rw[cB];exact bX.pk hbase 5 (aq ⟨#[101,100,103,101]⟩) rfl
     have jh:aa (bD rb w0 Wz):=by rw[cB];exact(bK.o _ HB.o).setCell (p:=⟨rb,5,I⟩) hbase.lo _
     have mW:aa (w.heap.size<=Wz.heap.size):=by show _<=_;rw[cB];have:=cY.o.size;simpa[World.setCell]using this
     have y0:Wz.cell? ⟨wg,0,I⟩=J (aq ⟨#[101,100,103,101]⟩):=by rw[cB,eD (a_ eH) rfl rfl];exact d0
     have y1:Wz.cell? ⟨wg,1,I⟩=J (aq s0):=by rw[cB,eD (a_ eH) rfl rfl];exact d1
     have y2:Wz.cell? ⟨wg,2,I⟩=J (aq s1):=by rw[cB,eD (a_ eH) rfl rfl];exact d2
     have u0:Wz.cell? ⟨ng,0,I⟩=J (U R v0):=by rw[cB,eD (a_ gF) rfl rfl];exact x0
     have u1:Wz.cell? ⟨ng,1,I⟩=J (U R v1):=by rw[cB,eD (a_ gF) rfl rfl];exact x1
     clear cB r5 f5 hbase d0 d1 d2 x0 x1;obtain⟨ga,gc,il⟩:=cJ bP.o.new.hg;obtain⟨ea,ec,kj⟩:=cJ bP.o.new.he;obtain⟨fa,fc,fx⟩:=cJ bP.o.new.hf;obtain⟨la,lc,iL⟩:=cJ bP.o.new.hl;have aT:aa (x.row e=#[aq e.name,U R e.aJ,af pa e.ak.length pc,U R e.cnt,U R e.mn,U R e.mx,af ga e.aB.length gc,af ea e.aA.length ec,af fa e.first.length fc,af la e.last.length lc]/\x=⟨af pa e.ak.length pc,af ga e.aB.length gc,af ea e.aA.length ec,af fa e.first.length fc,af la e.last.length lc⟩):=by
      have eu:=rM.o;obtain⟨xp,xg,xe,xf,xl⟩:=x;simp only at eu il kj fx iL;subst eu il kj fx iL;exact⟨rfl,rfl⟩
     clear il kj fx iL;have e4:Wz.cell? ⟨rb,4,I⟩=J (af (J ⟨g,0,I⟩) (n+1) cap):=by have:=bP.o.row;rw[aX.o];simp[World.cell?,this,bV]
     have q0:Wz.cell? ⟨g,n*10,I⟩=J (aq e.name):=by have:=(bP.o.aZ (j:=0) (u:=aq e.name) (by rw[aT.o.1];rfl)).1;rw[aX.o];simpa using this
     have q1:Wz.cell? ⟨g,n*10+1,I⟩=J (U R e.aJ):=by have:=(bP.o.aZ (j:=1) (u:=U R e.aJ) (by rw[aT.o.1];rfl)).1;rw[aX.o];simpa using this
     have q2:Wz.cell? ⟨g,n*10+2,I⟩=J (af pa e.ak.length pc):=by have:=(bP.o.aZ (j:=2) (u:=af pa e.ak.length pc) (by rw[aT.o.1];rfl)).1;rw[aX.o];simpa using this
     have q3:Wz.cell? ⟨g,n*10+3,I⟩=J (U R e.cnt):=by have:=(bP.o.aZ (j:=3) (u:=U R e.cnt) (by rw[aT.o.1];rfl)).1;rw[aX.o];simpa using this
     have q4:Wz.cell? ⟨g,n*10+4,I⟩=J (U R e.mn):=by have:=(bP.o.aZ (j:=4) (u:=U R e.mn) (by rw[aT.o.1];rfl)).1;rw[aX.o];simpa using this
     have q5:Wz.cell? ⟨g,n*10+5,I⟩=J (U R e.mx):=by have:=(bP.o.aZ (j:=5) (u:=U R e.mx) (by rw[aT.o.1];rfl)).1;rw[aX.o];simpa using this
     have q6:Wz.cell? ⟨g,n*10+6,I⟩=J (af ga e.aB.length gc):=by have:=(bP.o.aZ (j:=6) (u:=af ga e.aB.length gc) (by rw[aT.o.1];rfl)).1;rw[aX.o];simpa using this
     have q7:Wz.cell? ⟨g,n*10+7,I⟩=J (af ea e.aA.length ec):=by have:=(bP.o.aZ (j:=7) (u:=af ea e.aA.length ec) (by rw[aT.o.1];rfl)).1;rw[aX.o];simpa using this
     have q8:Wz.cell? ⟨g,n*10+8,I⟩=J (af fa e.first.length fc):=by have:=(bP.o.aZ (j:=8) (u:=af fa e.first.length fc) (by rw[aT.o.1];rfl)).1;rw[aX.o];simpa using this
     have q9:Wz.cell? ⟨g,n*10+9,I⟩=J (af la e.last.length lc):=by have:=(bP.o.aZ (j:=9) (u:=af la e.last.length lc) (by rw[aT.o.1];rfl)).1;rw[aX.o];simpa using this
     go_upto_region 63 with fail
     obtain⟨V,hV⟩:∃V,V=Wz.alloc (au #[aq e.name,U R e.aJ,af pa e.ak.length pc,U R e.cnt,U R e.mn,U R e.mx,af ga e.aB.length gc,af ea e.aA.length ec,af fa e.first.length fc,af la e.last.length lc] 84):=⟨_,rfl⟩;rw[<- hV];obtain⟨eb,km⟩:∃b,b=Wz.heap.size:=⟨_,rfl⟩;rw[<- km];have dG:aa (Below Wz.heap.size Wz V):=by show Below _ _ _;rw[hV];exact aN _ _
     have jz:aa (bX w0.heap.size rb L g cap V c ⟨#[101,100,103,101]⟩ es (x.row e).toList e x cells):=bP.o.below dG.o;have gC:aa (bD rb w0 V):=jh.o.trans (dG.o.mono jh.o.size);have jO:aa (V.heap[eb]?=J (au #[aq e.name,U R e.aJ,af pa e.ak.length pc,U R e.cnt,U R e.mn,U R e.mx,af ga e.aB.length gc,af ea e.aA.length ec,af fa e.first.length fc,af la e.last.length lc] 84 (0,0))):=by show _=_;rw[hV,km];exact cR Wz _
     have lT:aa (eb≠g/\eb≠rb/\w.heap.size<=eb):=by have:=mW.o;exact⟨by omega,by omega,by omega⟩
     have nP:aa (L<=V.heap.size):=bw np.o (bw mW.o dG.o.size);have y0:=aG dG.o y0;have y1:=aG dG.o y1;have y2:=aG dG.o y2;have u0:=aG dG.o u0;have u1:=aG dG.o u1;clear hV km e4 q0 q1 q2 q3 q4 q5 q6 q7 q8 q9;obtain⟨j0,hj,qB,tA,nt⟩:=fj Ic;have q2:V.cell? ⟨eb,7,I⟩=J (af ea e.aA.length ec):=by simp[World.cell?,jO.o]
     have vg:∀ob,(V.alloc ob).cell? ⟨eb,7,I⟩=J (af ea e.aA.length ec):=λob=>aG (aN _ _) q2
     have hown:V.drew.ownsRow L 87 2 (af ea e.aA.length ec) e.aA.length (e.aA.flatMap jq):=by have:=jz.o.new.he;rw[aT.o.2]at this;exact this
     have lH:=nP.o;have lD:e.aA.length<=1000000:=fK.o.2.d;have KB:aa (∀(ob:Obj) (w8:ai),(V.drew.alloc ob).grownBy w8 (Value.slice ea e.aA.length ec).ownBlock->w8.heap[eb]?=J (au #[aq e.name,U R e.aJ,af pa e.ak.length pc,U R e.cnt,U R e.mn,U R e.mx,af ga e.aB.length gc,af ea e.aA.length ec,af fa e.first.length fc,af la e.last.length lc] 84 (0,0))/\bD rb w0 w8):=λob w8 hg=>by
      have bb:Below V.heap.size V (V.drew.alloc ob):=(aC V.heap.size V).drew.alloc (by simp) ob;have pq:=jz.o.below bb;have b3:bD rb w0 (V.drew.alloc ob):=gC.o.trans (bb.mono gC.o.size);have k3:=bG bb jO.o;have pw:(V.drew.alloc ob).ownsRow L 87 2 (af ea e.aA.length ec) e.aA.length (e.aA.flatMap jq):=by have:=pq.new.he;rw[aT.o.2]at this;exact this
      exact⟨(hg.block eb (bJ k3) (λe2=>dZ pw k3 (by decide) e2.symm)).trans k3,b3.grown hg b3.size (λb hb=>bw pq.jL (pw.lt b hb).1)⟩
     go_wp2_with fail
     go_region_law (refine ni _ rfl (.tmp 235) (.tmp 243) 82 rfl L 87 j0 (aU #[U R 0,U R 0]) 2 16 underlying82 hj qB tA nt rfl (by decide) (af ea e.aA.length ec) e.aA.length (e.aA.flatMap jq) (by simp[Act.eval]) (hown.alloc _) ⟨V.heap.size,0,.none⟩ 1 1 [U R v0,U R v1] (by simp[Act.eval]) rfl (Av V.drew [U R v0,U R v1] 87) (Ie (v0,v1)) (by decide) (by unfold maxLen;omega) (by omega) (by simp;omega) (V.heap.size+1) (by simp) ?_;intro g' cap' w8 dy bZ cH ld;have r8:=KB.o _ _ bZ;have d8:w8.cell? ⟨eb,7,I⟩=J (af ea e.aA.length ec):=(by simp[World.cell?,r8.1]);have d9:w8.frozen? ⟨eb,7,I⟩=false:=(by simp[World.frozen?,r8.1]))
     all_goals
      have H8:aa (_/\_):=r8;have vh:aa (bX w0.heap.size rb L g cap w8 c ⟨#[101,100,103,101]⟩ es (x.row e).toList { e with aA:=e.aA++[(v0,v1)] } ({ x with e:=af (J ⟨g',0,I⟩) (e.aA.length+1) cap' }) cells):=(jz.o.below (w':=V.drew.alloc _) ((aC V.heap.size V).drew.alloc (by simp) _)).Ka (v0,v1) (by rw[aT.o.2];exact bZ) dy;have vk:aa (L<=w8.heap.size):=by have h1:=bZ.size;have h2:=nP.o;show _<=_;simp at h1;omega
      clear bZ dy r8 cH q2 vg hown;go_upto_region 78 with fail
      obtain⟨Y,hY⟩:∃Y,Y=w8.setCell ⟨eb,7,I⟩ (af (J ⟨g',0,I⟩) (e.aA.length+1) cap'):=⟨_,rfl⟩;rw[<- hY];have bz:aa (bX w0.heap.size rb L g cap Y c ⟨#[101,100,103,101]⟩ es (x.row e).toList { e with aA:=e.aA++[(v0,v1)] } ({ x with e:=af (J ⟨g',0,I⟩) (e.aA.length+1) cap' }) cells):=by rw[hY];exact vh.o.qR eb 7 _ H8.o.1 lT.o.1
      have cL:aa (Y.heap[eb]?=J (au #[aq e.name,U R e.aJ,af pa e.ak.length pc,U R e.cnt,U R e.mn,U R e.mx,af ga e.aB.length gc,af (J ⟨g',0,I⟩) (e.aA.length+1) cap',af fa e.first.length fc,af la e.last.length lc] 84 (0,0))):=by show _=_;rw[hY];exact p_ H8.o.1 _
      have iA:aa (bD rb w0 Y):=by show bD _ _ _;rw[hY];exact H8.o.2.setCell (p:=⟨eb,7,I⟩) (aP (bw HS.o.1.size lT.o.2.2)) _
      have rN:aa (L<=Y.heap.size):=by show _<=_;rw[hY];simpa[World.setCell]using vk.o
      have rO:aa (({ x with e:=af (J ⟨g',0,I⟩) (e.aA.length+1) cap' }:cn).row { e with aA:=e.aA++[(v0,v1)] }=#[aq e.name,U R e.aJ,af pa e.ak.length pc,U R e.cnt,U R e.mn,U R e.mx,af ga e.aB.length gc,af (J ⟨g',0,I⟩) (e.aA.length+1) cap',af fa e.first.length fc,af la e.last.length lc]):=by show _=_;rw[aT.o.2];rfl
      clear hY d8 d9 lH lD y0 y1 y2 u0 u1;have e4:Y.cell? ⟨rb,4,I⟩=J (af (J ⟨g,0,I⟩) (n+1) cap):=by have:=bz.o.row;rw[aX.o];simp[World.cell?,this,bV]
      have q0:Y.cell? ⟨eb,0,I⟩=J (aq e.name):=by simp[World.cell?,cL.o]
      have p0:Y.cell? ⟨g,n*10,I⟩=J (aq e.name):=by have:=(bz.o.aZ (j:=0) (u:=aq e.name) (by rw[aT.o.1];rfl)).1;rw[aX.o];simpa using this
      have f0:Y.frozen? ⟨g,n*10,I⟩=false:=by have:=(bz.o.aZ (j:=0) (u:=aq e.name) (by rw[aT.o.1];rfl)).2;rw[aX.o];simpa using this
      have q1:Y.cell? ⟨eb,1,I⟩=J (U R e.aJ):=by simp[World.cell?,cL.o]
      have p1:Y.cell? ⟨g,n*10+1,I⟩=J (U R e.aJ):=by have:=(bz.o.aZ (j:=1) (u:=U R e.aJ) (by rw[aT.o.1];rfl)).1;rw[aX.o];simpa using this
      have f1:Y.frozen? ⟨g,n*10+1,I⟩=false:=by have:=(bz.o.aZ (j:=1) (u:=U R e.aJ) (by rw[aT.o.1];rfl)).2;rw[aX.o];simpa using this
      have q2:Y.cell? ⟨eb,2,I⟩=J (af pa e.ak.length pc):=by simp[World.cell?,cL.o]
      have p2:Y.cell? ⟨g,n*10+2,I⟩=J (af pa e.ak.length pc):=by have:=(bz.o.aZ (j:=2) (u:=af pa e.ak.length pc) (by rw[aT.o.1];rfl)).1;rw[aX.o];simpa using this
      have f2:Y.frozen? ⟨g,n*10+2,I⟩=false:=by have:=(bz.o.aZ (j:=2) (u:=af pa e.ak.length pc) (by rw[aT.o.1];rfl)).2;rw[aX.o];simpa using this
      have q3:Y.cell? ⟨eb,3,I⟩=J (U R e.cnt):=by simp[World.cell?,cL.o]
      have p3:Y.cell? ⟨g,n*10+3,I⟩=J (U R e.cnt):=by have:=(bz.o.aZ (j:=3) (u:=U R e.cnt) (by rw[aT.o.1];rfl)).1;rw[aX.o];simpa using this
      have f3:Y.frozen? ⟨g,n*10+3,I⟩=false:=by have:=(bz.o.aZ (j:=3) (u:=U R e.cnt) (by rw[aT.o.1];rfl)).2;rw[aX.o];simpa using this
      have q4:Y.cell? ⟨eb,4,I⟩=J (U R e.mn):=by simp[World.cell?,cL.o]
      have p4:Y.cell? ⟨g,n*10+4,I⟩=J (U R e.mn):=by have:=(bz.o.aZ (j:=4) (u:=U R e.mn) (by rw[aT.o.1];rfl)).1;rw[aX.o];simpa using this
      have f4:Y.frozen? ⟨g,n*10+4,I⟩=false:=by have:=(bz.o.aZ (j:=4) (u:=U R e.mn) (by rw[aT.o.1];rfl)).2;rw[aX.o];simpa using this
      have q5:Y.cell? ⟨eb,5,I⟩=J (U R e.mx):=by simp[World.cell?,cL.o]
      have p5:Y.cell? ⟨g,n*10+5,I⟩=J (U R e.mx):=by have:=(bz.o.aZ (j:=5) (u:=U R e.mx) (by rw[aT.o.1];rfl)).1;rw[aX.o];simpa using this
      have f5:Y.frozen? ⟨g,n*10+5,I⟩=false:=by have:=(bz.o.aZ (j:=5) (u:=U R e.mx) (by rw[aT.o.1];rfl)).2;rw[aX.o];simpa using this
      have q6:Y.cell? ⟨eb,6,I⟩=J (af ga e.aB.length gc):=by simp[World.cell?,cL.o]
      have p6:Y.cell? ⟨g,n*10+6,I⟩=J (af ga e.aB.length gc):=by have:=(bz.o.aZ (j:=6) (u:=af ga e.aB.length gc) (by rw[aT.o.1];rfl)).1;rw[aX.o];simpa using this
      have f6:Y.frozen? ⟨g,n*10+6,I⟩=false:=by have:=(bz.o.aZ (j:=6) (u:=af ga e.aB.length gc) (by rw[aT.o.1];rfl)).2;rw[aX.o];simpa using this
      have q7:Y.cell? ⟨eb,7,I⟩=J (af (J ⟨g',0,I⟩) (e.aA.length+1) cap'):=by simp[World.cell?,cL.o]
      have p7:Y.cell? ⟨g,n*10+7,I⟩=J (af ea e.aA.length ec):=by have:=(bz.o.aZ (j:=7) (u:=af ea e.aA.length ec) (by rw[aT.o.1];rfl)).1;rw[aX.o];simpa using this
      have f7:Y.frozen? ⟨g,n*10+7,I⟩=false:=by have:=(bz.o.aZ (j:=7) (u:=af ea e.aA.length ec) (by rw[aT.o.1];rfl)).2;rw[aX.o];simpa using this
      have q8:Y.cell? ⟨eb,8,I⟩=J (af fa e.first.length fc):=by simp[World.cell?,cL.o]
      have p8:Y.cell? ⟨g,n*10+8,I⟩=J (af fa e.first.length fc):=by have:=(bz.o.aZ (j:=8) (u:=af fa e.first.length fc) (by rw[aT.o.1];rfl)).1;rw[aX.o];simpa using this
      have f8:Y.frozen? ⟨g,n*10+8,I⟩=false:=by have:=(bz.o.aZ (j:=8) (u:=af fa e.first.length fc) (by rw[aT.o.1];rfl)).2;rw[aX.o];simpa using this
      have q9:Y.cell? ⟨eb,9,I⟩=J (af la e.last.length lc):=by simp[World.cell?,cL.o]
      have p9:Y.cell? ⟨g,n*10+9,I⟩=J (af la e.last.length lc):=by have:=(bz.o.aZ (j:=9) (u:=af la e.last.length lc) (by rw[aT.o.1];rfl)).1;rw[aX.o];simpa using this
      have f9:Y.frozen? ⟨g,n*10+9,I⟩=false:=by have:=(bz.o.aZ (j:=9) (u:=af la e.last.length lc) (by rw[aT.o.1];rfl)).2;rw[aX.o];simpa using this
      go_wp2_with fail
      go_region
      all_goals
       obtain⟨Z,hZ⟩:∃Z,Z=((((((((((Y.setCell ⟨g,n*10,I⟩ (aq e.name)).setCell ⟨g,n*10+1,I⟩ (U R e.aJ)).setCell ⟨g,n*10+2,I⟩ (af pa e.ak.length pc)).setCell ⟨g,n*10+3,I⟩ (U R e.cnt)).setCell ⟨g,n*10+4,I⟩ (U R e.mn)).setCell ⟨g,n*10+5,I⟩ (U R e.mx)).setCell ⟨g,n*10+6,I⟩ (af ga e.aB.length gc)).setCell ⟨g,n*10+7,I⟩ (af (J ⟨g',0,I⟩) (e.aA.length+1) cap')).setCell ⟨g,n*10+8,I⟩ (af fa e.first.length fc)).setCell ⟨g,n*10+9,I⟩ (af la e.last.length lc)):=⟨_,rfl⟩;rw[<- hZ];have eP:aa (gO w0.heap.size rb L g cap Z c ⟨#[101,100,103,101]⟩ es { e with aA:=e.aA++[(v0,v1)] } ({ x with e:=af (J ⟨g',0,I⟩) (e.aA.length+1) cap' }) cells):=by
        rw[hZ];exact bz.o.AP (by rw[aX.o]) (by rw[rO.o])
       have ey:aa (bD rb w0 Z):=by
        obtain⟨cur,-,rP⟩:=bz.o.grow;have hle:g=rb\/w0.heap.size<=g:=aP rP;show bD _ _ _
        rw[hZ];exact((((((((((iA.o.setCell (p:=⟨g,n*10,I⟩) hle _).setCell (p:=⟨g,n*10+1,I⟩) hle _).setCell (p:=⟨g,n*10+2,I⟩) hle _).setCell (p:=⟨g,n*10+3,I⟩) hle _).setCell (p:=⟨g,n*10+4,I⟩) hle _).setCell (p:=⟨g,n*10+5,I⟩) hle _).setCell (p:=⟨g,n*10+6,I⟩) hle _).setCell (p:=⟨g,n*10+7,I⟩) hle _).setCell (p:=⟨g,n*10+8,I⟩) hle _).setCell (p:=⟨g,n*10+9,I⟩) hle _)
       have rQ:aa (L<=Z.heap.size):=by show _<=_;rw[hZ];simpa[World.setCell]using rN.o
       clear hZ e4 q0 p0 f0 q1 p1 f1 q2 p2 f2 q3 p3 f3 q4 p4 f4 q5 p5 f5 q6 p6 f6 q7 p7 f7 q8 p8 f8 q9 p9 f9;go_wp2;go_ret
       refine⟨by rw[ft.o];rfl,ey.o.drew,λ_=>aP ⟨L,g,cap,es,{ e with aA:=e.aA++[(v0,v1)] },({ x with e:=af (J ⟨g',0,I⟩) (e.aA.length+1) cap' }),cells,?_,rQ.o,?_⟩⟩
       ·rw[mV.o,show (aY (bq e.ak) false (form 7) [bl s0,bl s1]).2=_ from lR.o];exact(by simp only[ed];rw[pj.o,pD];rfl)
       exact gO.cfg (bX.below eP.o (aC _ _).drew) (λ_ _=>rfl)
  have HE:aa (bR last c 7 ws=1):=by show _=_;rw[HK.o];exact rL _ _ _ (by rw[<- HM.o.2,fL];exact hN)
  have mN:¬(m:Int)=2+1:=by have:=HM.o.1;omega
  clear hN;go_wp2;go_ret;exact⟨by rw[HE.o];rfl,bK.o _ (aC _ _),λh0=>by rw[HE.o]at h0;cases h0⟩
end Go.Proofs.YtgmfhkjghmdgiaaGreatDoor
