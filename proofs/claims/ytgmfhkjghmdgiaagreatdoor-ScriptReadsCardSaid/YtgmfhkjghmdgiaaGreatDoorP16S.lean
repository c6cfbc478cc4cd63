/-
  Several texts as one: DrLine1, DrLine2, DrLine3, DrLine4, DrLine5, DrGap.
-/
import Derived.Test.YtgmfhkjghmdgiaaGreatDoorP15S
set_option linter.all false
set_option maxHeartbeats 40000000
set_option maxRecDepth 100000
open Go renaming Addr→az,Value→ar,World→ai
open Go.Ending renaming returned→ax
open Go.IntKind renaming i64→R
open Go.Obj renaming cells→au
open Go.RowKit renaming Hid→aa
open Go.Value renaming agg→aU,bool→aI,int→U,pointer→aj,slice→af,string→aq
open Option renaming none→I,some→J
open Go.Proofs.Tryz
namespace Go.Proofs.YtgmfhkjghmdgiaaGreatDoor
open Go.Extern Go.Extern.Stop Go.Maps Go.RowKit Go.Stop
theorem ahw(w0 w:ai)(rb:Nat)(c:aS)(last:Int)(l:ByteArray)(ws:List Bs)(hb0:bD rb w0 w)(h:eO w0.heap.size rb w c (cf last))(hl:l.size<=1000000)(l0:-1<=last)(l9:last<=9)(hO:gZ 1000000 c last)(hcut:bW 32 (bl l)=kw 1::ws):Calls prog 16 #[aj (J ⟨rb,0,I⟩),aq l] w λv w'=>v=ax (U R (bR last c 1 ws:Nat))/\bD rb w0 w'/\(bR last c 1 ws=0->eO w0.heap.size rb w' (ed c 1 ws (aY (bq (bO c.aw)) false (form 1) ws).2) (eN 1)):=by
 obtain⟨i0,hi,hz0,hz1,hz2⟩:=fj ny;have HS:aa (bD rb w0 w/\eO w0.heap.size rb w c (cf last)):=⟨hb0,h⟩;have HO:aa (gZ 1000000 c last):=hO;have gD:aa (Calls prog 15 #[aq l,U .u8 32] w λe w'=>∃(wt:List ByteArray) (g cap m:Nat),e=ax (af (J ⟨g,0,I⟩) m cap)/\m=wt.length+1/\wt.map bl=ws/\w'.ownsRow w.heap.size 9 1 (af (J ⟨g,0,I⟩) m cap) m ((⟨#[99,121,99,108,101]⟩::wt).flatMap bS)/\Below w.heap.size w w'):=by
  refine(pZ l 32 w hl).mono ?_;rintro e w' ⟨wl,g,cap,rfl,h1,h2,h3⟩;rw[hcut]at h1;obtain⟨wt,rfl,h4⟩:=tz h1;exact⟨wt,g,cap,_,rfl,rfl,h4,h2,h3⟩
 have gP:aa (∀V,Below w.heap.size w V->Calls prog 53 #[aj (J ⟨rb,0,I⟩),aq ⟨#[99,121,99,108,101]⟩] V λe w'=>e=ax (aI (may last 1))/\Below V.heap.size V w'):=λV hV=>by
  have hc:V.cell? ⟨rb,5,I⟩=J (aq (cf last)):=by
   rcases h.below hV with h1|⟨_,_,_,_,_,_,_,_,_,h1⟩
   ·have:=h1.row;simp[World.cell?,this,bV]
   have:=h1.row;simp[World.cell?,this,bV]
  exact rJ rb last (eN 1) V l0 l9 hc
 clear hb0 h hl l0 l9 hO hcut;go_enter func16,ntmps16
 go_wp2_with fail
 refine aL gD.o ?_;rintro v w1 ⟨wt,wg,wc,m,rfl,hm,fq,hown,hb1⟩;have aO:aa (Below w.heap.size w w1):=hb1;have lQ:aa (w.heap.size<=wg):=by
  show _<=_
  exact(hown.lt wg rfl).1
 have HW:aa (∀V,Below w1.heap.size w1 V->∀j s,(⟨#[99,121,99,108,101]⟩::wt)[j]?=J s->V.cell? ⟨wg,j,I⟩=J (aq s)):=λV hV j s hj=>aG hV (qE hown j s hj)
 have HM:aa (m=wt.length+1/\wt.map bl=ws):=⟨hm,fq⟩;have c0:w1.cell? ⟨wg,0,I⟩=J (aq ⟨#[99,121,99,108,101]⟩):=HW.o w1 (aC _ _) 0 _ rfl;have m0:(0:Int)<(m:Int):=by omega
 clear hm fq hown hb1 gD;go_wp2_with fail
 refine aL (gP.o w1 aO.o) ?_;rintro v w2 ⟨rfl,hb2⟩;have aW:aa (Below w.heap.size w w2):=aO.o.trans (hb2.mono aO.o.size);have bL:aa (Below w1.heap.size w1 w2):=hb2;have bK:aa (∀V,Below w2.heap.size w2 V->bD rb w0 V):=λV hV=>HS.o.1.trans ((aW.o.trans (hV.mono aW.o.size)).mono HS.o.1.size)
 clear hb2 gP c0
 cases cZ:may last 1 with
 |false=>
  have HE:aa (bR last c 1 ws=1):=tr cZ;clear cZ;go_wp2;go_ret;exact⟨by rw[HE.o];rfl,bK.o _ (aC _ _),λh0=>by rw[HE.o]at h0;cases h0⟩
 |true=>
  have HY:aa (may last 1=true):=cZ;have HK:aa (bR last c 1 ws=(aY (bq (bO c.aw)) false (form 1) ws).1):=tu cZ;clear cZ
  by_cases hN:wt.length=1
  ·obtain⟨s0,rfl⟩:∃s0,wt=[s0]:=by
    match wt,hN with
    |[s0],_=>exact⟨s0,rfl⟩
   obtain rfl:ws=[bl s0]:=HM.o.2.symm.trans rfl;obtain rfl:m=1+1:=HM.o.1;clear HM hN;have H1:aa (∀V,Below w.heap.size w V->tq w0.heap.size rb V c (cf last)):=λV hV=>by
    rcases HS.o.2.below hV with h1|⟨_,_,_,es,e,_,_,h1,_,_⟩
    ·exact h1
    have h2:=HO.o.e0 (by have:=HY.o;unfold may at this;rw[aR (by decide)]at this;simp at this;omega);rw[h2]at h1;simp at h1
   have e4:w2.cell? ⟨rb,4,I⟩=J (af I 0 0):=by have:=(H1.o w2 aW.o).row;simp[World.cell?,this,bV]
   go_wp2_with fail
   go_loopw [9,10,11,12] (λnv ov iv _ wr=>∃(j:Nat) (nn:Bool) (vs:List Int) (na:Option az) (nc:Nat),j<=1/\iv=U R j/\ov=aI nn/\nv=af na j nc/\wr.ownsRow w2.heap.size 3 1 (af na j nc) j (vs.flatMap bm)/\Below w2.heap.size w2 wr/\dR (bq (bO c.aw)) [1] [bl s0] j nn vs) (λ_ _ iv _ _=>1-(intOf iv).toNat)
   case atStart=>exact⟨0,false,[],I,0,bI _,rfl,rfl,rfl,fC _ _ _ _,aC _ _,dR.start _ _ _⟩
   case round=>
    obtain⟨j,nn,vs,na,nc,hj,rfl,rfl,rfl,hown,hb,hf⟩:=hrel;have HB:aa (Below w2.heap.size w2 wr):=hb;have bE:aa (wr.ownsRow w2.heap.size 3 1 (af na j nc) j (vs.flatMap bm)):=hown;have HF:aa (dR (bq (bO c.aw)) [1] [bl s0] j nn vs):=hf;clear hb hown hf e4
    by_cases hlt:j<1
    ·clear hj;obtain rfl:j=0:=by omega
     clear hlt;have d0:=HW.o wr (bL.o.trans (HB.o.mono bL.o.size)) 1 s0 rfl;have jm:aa _:=uX s0 wr;go_wp2_with fail
     refine aL jm.o ?_;rintro v w3 ⟨rfl,hw3⟩;rw[hw3];clear hw3 w3;have dF:aa _:=@uY (bq (bO c.aw)) s0;clear jm;generalize kV (bl s0)=z at *
     by_cases z0:z<0
     ·have HE:aa (bR last c 1 [bl s0]=1):=by show _=_;rw[HK.o];exact HF.o.bad rfl rfl (by rw[dF.o.1,aR z0])
      go_wp2;go_ret;exact⟨by rw[HE.o];rfl,bK.o _ HB.o,λh0=>by rw[HE.o]at h0;cases h0⟩
     have z1:0<=z:=by omega
     obtain⟨n1,n2⟩:=eM (dF.o.2 z1).2;go_wp2_with (at_builtin;refine fw _ rfl _ _ 65 rfl w2.heap.size 3 i0 (U R 0) 1 8 underlying65 hi hz0 hz1 hz2 rfl (by decide) (af na 0 nc) 0 (vs.flatMap bm) rfl (bE.o.alloc _) ⟨wr.heap.size,0,.none⟩ 1 1 [U R z] rfl rfl (h_ _ _ _) (by intro u hu;simp at hu;subst hu;rfl) (by unfold maxLen;omega) (by omega) (by have:=HB.o.size;simp;omega) ?_;intro v1 w4 hown1 dh ij)
     obtain⟨dS,df,cC⟩:=cJ hown1;subst cC;go_roundw
     case rel=>exact⟨0+1,nn,vs++[z],dS,df,by omega,rfl,rfl,rfl,by simpa[dP,bm]using hown1,(HB.o.alloc HB.o.size _).grown dh (by have:=HB.o.size;simp;omega) (λq hq=>(bE.o.lt q hq).1),HF.o.next rfl rfl nn z (by rw[dF.o.1,aK (by omega)];decide) (by rw[dF.o.1,aK (by omega)];simp) (λ_=>(dF.o.2 z1).1.symm)⟩
     case measure=>simp[intOf]
    obtain rfl:j=1:=by omega
    clear hlt hj;obtain⟨cA,fu⟩:=(show dR (bq (bO c.aw)) [1] [bl s0] ([1]:List Nat).length nn vs from HF.o).done rfl
    cases nn with
    |true=>
     have HE:aa (bR last c 1 [bl s0]=5):=by show _=_;rw[HK.o];exact cA
     clear cA fu;go_wp2;go_ret;exact⟨by rw[HE.o];rfl,bK.o _ HB.o,λh0=>by rw[HE.o]at h0;cases h0⟩
    |false=>
     have ft:aa (bR last c 1 [bl s0]=0):=by show _=_;rw[HK.o];exact cA
     have lR:aa ((aY (bq (bO c.aw)) false [1] [bl s0]).2=vs):=fu rfl;have hlen:=HF.o.len;clear cA fu;obtain⟨v0,rfl⟩:∃v0,vs=[v0]:=by
      match vs,hlen with
      |[v0],_=>exact⟨v0,rfl⟩
     obtain⟨ng,df,ki⟩:=rK bE.o
     cases ki
     have lS:aa (w2.heap.size<=ng):=by show _<=_;exact(bE.o.lt ng rfl).1
     have x0:=mq bE.o 0 v0 rfl;have cY:aa (Below w.heap.size w wr):=aW.o.trans (HB.o.mono aW.o.size);have d0:=HW.o wr (bL.o.trans (HB.o.mono bL.o.size)) 0 _ rfl;have d1:=HW.o wr (bL.o.trans (HB.o.mono bL.o.size)) 1 _ rfl;clear hlen HF;have hrow:=(H1.o wr cY.o).row;have eH:¬rb=wg:=by have:=bJ ((H1.o w (aC _ _)).row);have:=lQ.o;omega
     have u_:¬wg=rb:=λe2=>eH e2.symm
     have gF:¬rb=ng:=by have:=bJ ((H1.o w (aC _ _)).row);have:=aW.o.size;have:=lS.o;omega
     have ve:¬ng=rb:=λe2=>gF e2.symm
     have r0:wr.cell? ⟨rb,0,I⟩=J (U R c.closed):=by simp[World.cell?,hrow,bV]
     have f0:wr.frozen? ⟨rb,0,I⟩=false:=by simp[World.frozen?,hrow]
     have r1:wr.cell? ⟨rb,1,I⟩=J (U R c.opn):=by simp[World.cell?,hrow,bV]
     have f1:wr.frozen? ⟨rb,1,I⟩=false:=by simp[World.frozen?,hrow]
     have r2:wr.cell? ⟨rb,2,I⟩=J (U R c.cycle):=by simp[World.cell?,hrow,bV]
     have f2:wr.frozen? ⟨rb,2,I⟩=false:=by simp[World.frozen?,hrow]
     have r3:wr.cell? ⟨rb,3,I⟩=J (U R c.bC):=by simp[World.cell?,hrow,bV]
     have f3:wr.frozen? ⟨rb,3,I⟩=false:=by simp[World.frozen?,hrow]
     have r5:wr.cell? ⟨rb,5,I⟩=J (aq (cf last)):=by simp[World.cell?,hrow,bV]
     have f5:wr.frozen? ⟨rb,5,I⟩=false:=by simp[World.frozen?,hrow]
     clear hrow;go_wp2;go_ret
     refine⟨by rw[ft.o];rfl,?_,λ_=>a_ ?_⟩
     ·exact((bK.o _ HB.o).setCell (p:=⟨rb,5,I⟩) (H1.o w (aC _ _)).lo _).setCell (p:=⟨rb,2,I⟩) (H1.o w (aC _ _)).lo _
     rw[show (aY (bq (bO c.aw)) false (form 1) [bl s0]).2=_ from lR.o];exact(((H1.o wr cY.o).pk (c':=c) (lw':=⟨#[99,121,99,108,101]⟩) (H1.o wr cY.o).nil 5 (aq ⟨#[99,121,99,108,101]⟩) rfl).pk (c':=⟨c.closed,c.opn,v0,c.bC,c.aw⟩) (lw':=⟨#[99,121,99,108,101]⟩) (H1.o wr cY.o).nil 2 (U R v0) rfl)
  have HE:aa (bR last c 1 ws=1):=by show _=_;rw[HK.o];exact rL _ _ _ (by rw[<- HM.o.2,fL];exact hN)
  have mN:¬(m:Int)=1+1:=by have:=HM.o.1;omega
  clear hN;go_wp2;go_ret;exact⟨by rw[HE.o];rfl,bK.o _ (aC _ _),λh0=>by rw[HE.o]at h0;cases h0⟩
theorem ahx(w0 w:ai)(rb:Nat)(c:aS)(last:Int)(l:ByteArray)(ws:List Bs)(hb0:bD rb w0 w)(h:eO w0.heap.size rb w c (cf last))(hl:l.size<=1000000)(l0:-1<=last)(l9:last<=9)(hO:gZ 1000000 c last)(hcut:bW 32 (bl l)=kw 2::ws):Calls prog 16 #[aj (J ⟨rb,0,I⟩),aq l] w λv w'=>v=ax (U R (bR last c 2 ws:Nat))/\bD rb w0 w'/\(bR last c 2 ws=0->eO w0.heap.size rb w' (ed c 2 ws (aY (bq (bO c.aw)) false (form 2) ws).2) (eN 2)):=by
 obtain⟨i0,hi,hz0,hz1,hz2⟩:=fj ny;have HS:aa (bD rb w0 w/\eO w0.heap.size rb w c (cf last)):=⟨hb0,h⟩;have HO:aa (gZ 1000000 c last):=hO;have gD:aa (Calls prog 15 #[aq l,U .u8 32] w λe w'=>∃(wt:List ByteArray) (g cap m:Nat),e=ax (af (J ⟨g,0,I⟩) m cap)/\m=wt.length+1/\wt.map bl=ws/\w'.ownsRow w.heap.size 9 1 (af (J ⟨g,0,I⟩) m cap) m ((⟨#[100,101,108,97,121]⟩::wt).flatMap bS)/\Below w.heap.size w w'):=by
  refine(pZ l 32 w hl).mono ?_;rintro e w' ⟨wl,g,cap,rfl,h1,h2,h3⟩;rw[hcut]at h1;obtain⟨wt,rfl,h4⟩:=tz h1;exact⟨wt,g,cap,_,rfl,rfl,h4,h2,h3⟩
 have gP:aa (∀V,Below w.heap.size w V->Calls prog 53 #[aj (J ⟨rb,0,I⟩),aq ⟨#[100,101,108,97,121]⟩] V λe w'=>e=ax (aI (may last 2))/\Below V.heap.size V w'):=λV hV=>by
  have hc:V.cell? ⟨rb,5,I⟩=J (aq (cf last)):=by
   rcases h.below hV with h1|⟨_,_,_,_,_,_,_,_,_,h1⟩
   ·have:=h1.row;simp[World.cell?,this,bV]
   have:=h1.row;simp[World.cell?,this,bV]
  exact rJ rb last (eN 2) V l0 l9 hc
 clear hb0 h hl l0 l9 hO hcut;go_enter func16,ntmps16
 go_wp2_with fail
 refine aL gD.o ?_;rintro v w1 ⟨wt,wg,wc,m,rfl,hm,fq,hown,hb1⟩;have aO:aa (Below w.heap.size w w1):=hb1;have lQ:aa (w.heap.size<=wg):=by
  show _<=_
  exact(hown.lt wg rfl).1
 have HW:aa (∀V,Below w1.heap.size w1 V->∀j s,(⟨#[100,101,108,97,121]⟩::wt)[j]?=J s->V.cell? ⟨wg,j,I⟩=J (aq s)):=λV hV j s hj=>aG hV (qE hown j s hj)
 have HM:aa (m=wt.length+1/\wt.map bl=ws):=⟨hm,fq⟩;have c0:w1.cell? ⟨wg,0,I⟩=J (aq ⟨#[100,101,108,97,121]⟩):=HW.o w1 (aC _ _) 0 _ rfl;have m0:(0:Int)<(m:Int):=by omega
 clear hm fq hown hb1 gD;go_wp2_with fail
 refine aL (gP.o w1 aO.o) ?_;rintro v w2 ⟨rfl,hb2⟩;have aW:aa (Below w.heap.size w w2):=aO.o.trans (hb2.mono aO.o.size);have bL:aa (Below w1.heap.size w1 w2):=hb2;have bK:aa (∀V,Below w2.heap.size w2 V->bD rb w0 V):=λV hV=>HS.o.1.trans ((aW.o.trans (hV.mono aW.o.size)).mono HS.o.1.size)
 clear hb2 gP c0
 cases cZ:may last 2 with
 |false=>
  have HE:aa (bR last c 2 ws=1):=tr cZ;clear cZ;go_wp2;go_ret;exact⟨by rw[HE.o];rfl,bK.o _ (aC _ _),λh0=>by rw[HE.o]at h0;cases h0⟩
 |true=>
  have HY:aa (may last 2=true):=cZ;have HK:aa (bR last c 2 ws=(aY (bq (bO c.aw)) false (form 2) ws).1):=tu cZ;clear cZ
  by_cases hN:wt.length=1
  ·obtain⟨s0,rfl⟩:∃s0,wt=[s0]:=by
    match wt,hN with
    |[s0],_=>exact⟨s0,rfl⟩
   obtain rfl:ws=[bl s0]:=HM.o.2.symm.trans rfl;obtain rfl:m=1+1:=HM.o.1;clear HM hN;have H1:aa (∀V,Below w.heap.size w V->tq w0.heap.size rb V c (cf last)):=λV hV=>by
    rcases HS.o.2.below hV with h1|⟨_,_,_,es,e,_,_,h1,_,_⟩
    ·exact h1
    have h2:=HO.o.e0 (by have:=HY.o;unfold may at this;rw[aR (by decide)]at this;simp at this;omega);rw[h2]at h1;simp at h1
   have e4:w2.cell? ⟨rb,4,I⟩=J (af I 0 0):=by have:=(H1.o w2 aW.o).row;simp[World.cell?,this,bV]
   go_wp2_with fail
   go_loopw [9,10,11,12] (λnv ov iv _ wr=>∃(j:Nat) (nn:Bool) (vs:List Int) (na:Option az) (nc:Nat),j<=1/\iv=U R j/\ov=aI nn/\nv=af na j nc/\wr.ownsRow w2.heap.size 3 1 (af na j nc) j (vs.flatMap bm)/\Below w2.heap.size w2 wr/\dR (bq (bO c.aw)) [1] [bl s0] j nn vs) (λ_ _ iv _ _=>1-(intOf iv).toNat)
   case atStart=>exact⟨0,false,[],I,0,bI _,rfl,rfl,rfl,fC _ _ _ _,aC _ _,dR.start _ _ _⟩
   case round=>
    obtain⟨j,nn,vs,na,nc,hj,rfl,rfl,rfl,hown,hb,hf⟩:=hrel;have HB:aa (Below w2.heap.size w2 wr):=hb;have bE:aa (wr.ownsRow w2.heap.size 3 1 (af na j nc) j (vs.flatMap bm)):=hown;have HF:aa (dR (bq (bO c.aw)) [1] [bl s0] j nn vs):=hf;clear hb hown hf e4
    by_cases hlt:j<1
    ·clear hj;obtain rfl:j=0:=by omega
     clear hlt;have d0:=HW.o wr (bL.o.trans (HB.o.mono bL.o.size)) 1 s0 rfl;have jm:aa _:=uX s0 wr;go_wp2_with fail
     refine aL jm.o ?_;rintro v w3 ⟨rfl,hw3⟩;rw[hw3];clear hw3 w3;have dF:aa _:=@uY (bq (bO c.aw)) s0;clear jm;generalize kV (bl s0)=z at *
     by_cases z0:z<0
     ·have HE:aa (bR last c 2 [bl s0]=1):=by show _=_;rw[HK.o];exact HF.o.bad rfl rfl (by rw[dF.o.1,aR z0])
      go_wp2;go_ret;exact⟨by rw[HE.o];rfl,bK.o _ HB.o,λh0=>by rw[HE.o]at h0;cases h0⟩
     have z1:0<=z:=by omega
     obtain⟨n1,n2⟩:=eM (dF.o.2 z1).2;go_wp2_with (at_builtin;refine fw _ rfl _ _ 65 rfl w2.heap.size 3 i0 (U R 0) 1 8 underlying65 hi hz0 hz1 hz2 rfl (by decide) (af na 0 nc) 0 (vs.flatMap bm) rfl (bE.o.alloc _) ⟨wr.heap.size,0,.none⟩ 1 1 [U R z] rfl rfl (h_ _ _ _) (by intro u hu;simp at hu;subst hu;rfl) (by unfold maxLen;omega) (by omega) (by have:=HB.o.size;simp;omega) ?_;intro v1 w4 hown1 dh ij)
     obtain⟨dS,df,cC⟩:=cJ hown1;subst cC;go_roundw
     case rel=>exact⟨0+1,nn,vs++[z],dS,df,by omega,rfl,rfl,rfl,by simpa[dP,bm]using hown1,(HB.o.alloc HB.o.size _).grown dh (by have:=HB.o.size;simp;omega) (λq hq=>(bE.o.lt q hq).1),HF.o.next rfl rfl nn z (by rw[dF.o.1,aK (by omega)];decide) (by rw[dF.o.1,aK (by omega)];simp) (λ_=>(dF.o.2 z1).1.symm)⟩
     case measure=>simp[intOf]
    obtain rfl:j=1:=by omega
    clear hlt hj;obtain⟨cA,fu⟩:=(show dR (bq (bO c.aw)) [1] [bl s0] ([1]:List Nat).length nn vs from HF.o).done rfl
    cases nn with
    |true=>
     have HE:aa (bR last c 2 [bl s0]=5):=by show _=_;rw[HK.o];exact cA
     clear cA fu;go_wp2;go_ret;exact⟨by rw[HE.o];rfl,bK.o _ HB.o,λh0=>by rw[HE.o]at h0;cases h0⟩
    |false=>
     have ft:aa (bR last c 2 [bl s0]=0):=by show _=_;rw[HK.o];exact cA
     have lR:aa ((aY (bq (bO c.aw)) false [1] [bl s0]).2=vs):=fu rfl;have hlen:=HF.o.len;clear cA fu;obtain⟨v0,rfl⟩:∃v0,vs=[v0]:=by
      match vs,hlen with
      |[v0],_=>exact⟨v0,rfl⟩
     obtain⟨ng,df,ki⟩:=rK bE.o
     cases ki
     have lS:aa (w2.heap.size<=ng):=by show _<=_;exact(bE.o.lt ng rfl).1
     have x0:=mq bE.o 0 v0 rfl;have cY:aa (Below w.heap.size w wr):=aW.o.trans (HB.o.mono aW.o.size);have d0:=HW.o wr (bL.o.trans (HB.o.mono bL.o.size)) 0 _ rfl;have d1:=HW.o wr (bL.o.trans (HB.o.mono bL.o.size)) 1 _ rfl;clear hlen HF;have hrow:=(H1.o wr cY.o).row;have eH:¬rb=wg:=by have:=bJ ((H1.o w (aC _ _)).row);have:=lQ.o;omega
     have u_:¬wg=rb:=λe2=>eH e2.symm
     have gF:¬rb=ng:=by have:=bJ ((H1.o w (aC _ _)).row);have:=aW.o.size;have:=lS.o;omega
     have ve:¬ng=rb:=λe2=>gF e2.symm
     have r0:wr.cell? ⟨rb,0,I⟩=J (U R c.closed):=by simp[World.cell?,hrow,bV]
     have f0:wr.frozen? ⟨rb,0,I⟩=false:=by simp[World.frozen?,hrow]
     have r1:wr.cell? ⟨rb,1,I⟩=J (U R c.opn):=by simp[World.cell?,hrow,bV]
     have f1:wr.frozen? ⟨rb,1,I⟩=false:=by simp[World.frozen?,hrow]
     have r2:wr.cell? ⟨rb,2,I⟩=J (U R c.cycle):=by simp[World.cell?,hrow,bV]
     have f2:wr.frozen? ⟨rb,2,I⟩=false:=by simp[World.frozen?,hrow]
     have r3:wr.cell? ⟨rb,3,I⟩=J (U R c.bC):=by simp[World.cell?,hrow,bV]
     have f3:wr.frozen? ⟨rb,3,I⟩=false:=by simp[World.frozen?,hrow]
     have r5:wr.cell? ⟨rb,5,I⟩=J (aq (cf last)):=by simp[World.cell?,hrow,bV]
     have f5:wr.frozen? ⟨rb,5,I⟩=false:=by simp[World.frozen?,hrow]
     clear hrow;go_wp2;go_ret
     refine⟨by rw[ft.o];rfl,?_,λ_=>a_ ?_⟩
     ·exact((bK.o _ HB.o).setCell (p:=⟨rb,5,I⟩) (H1.o w (aC _ _)).lo _).setCell (p:=⟨rb,3,I⟩) (H1.o w (aC _ _)).lo _
     rw[show (aY (bq (bO c.aw)) false (form 2) [bl s0]).2=_ from lR.o];exact(((H1.o wr cY.o).pk (c':=c) (lw':=⟨#[100,101,108,97,121]⟩) (H1.o wr cY.o).nil 5 (aq ⟨#[100,101,108,97,121]⟩) rfl).pk (c':=⟨c.closed,c.opn,c.cycle,v0,c.aw⟩) (lw':=⟨#[100,101,108,97,121]⟩) (H1.o wr cY.o).nil 3 (U R v0) rfl)
  have HE:aa (bR last c 2 ws=1):=by show _=_;rw[HK.o];exact rL _ _ _ (by rw[<- HM.o.2,fL];exact hN)
  have mN:¬(m:Int)=1+1:=by have:=HM.o.1;omega
  clear hN;go_wp2;go_ret;exact⟨by rw[HE.o];rfl,bK.o _ (aC _ _),λh0=>by rw[HE.o]at h0;cases h0⟩
theorem ahy(w0 w:ai)(rb:Nat)(c:aS)(last:Int)(l:ByteArray)(ws:List Bs)(hb0:bD rb w0 w)(h:eO w0.heap.size rb w c (cf last))(hl:l.size<=1000000)(l0:-1<=last)(l9:last<=9)(hO:gZ 1000000 c last)(hcut:bW 32 (bl l)=kw 3::ws):Calls prog 16 #[aj (J ⟨rb,0,I⟩),aq l] w λv w'=>v=ax (U R (bR last c 3 ws:Nat))/\bD rb w0 w'/\(bR last c 3 ws=0->eO w0.heap.size rb w' (ed c 3 ws (aY (bq (bO c.aw)) false (form 3) ws).2) (eN 3)):=by
 obtain⟨i0,hi,hz0,hz1,hz2⟩:=fj ny;have HS:aa (bD rb w0 w/\eO w0.heap.size rb w c (cf last)):=⟨hb0,h⟩;have HO:aa (gZ 1000000 c last):=hO;have gD:aa (Calls prog 15 #[aq l,U .u8 32] w λe w'=>∃(wt:List ByteArray) (g cap m:Nat),e=ax (af (J ⟨g,0,I⟩) m cap)/\m=wt.length+1/\wt.map bl=ws/\w'.ownsRow w.heap.size 9 1 (af (J ⟨g,0,I⟩) m cap) m ((⟨#[101,110,116,105,116,121]⟩::wt).flatMap bS)/\Below w.heap.size w w'):=by
  refine(pZ l 32 w hl).mono ?_;rintro e w' ⟨wl,g,cap,rfl,h1,h2,h3⟩;rw[hcut]at h1;obtain⟨wt,rfl,h4⟩:=tz h1;exact⟨wt,g,cap,_,rfl,rfl,h4,h2,h3⟩
 have gP:aa (∀V,Below w.heap.size w V->Calls prog 53 #[aj (J ⟨rb,0,I⟩),aq ⟨#[101,110,116,105,116,121]⟩] V λe w'=>e=ax (aI (may last 3))/\Below V.heap.size V w'):=λV hV=>by
  have hc:V.cell? ⟨rb,5,I⟩=J (aq (cf last)):=by
   rcases h.below hV with h1|⟨_,_,_,_,_,_,_,_,_,h1⟩
   ·have:=h1.row;simp[World.cell?,this,bV]
   have:=h1.row;simp[World.cell?,this,bV]
  exact rJ rb last (eN 3) V l0 l9 hc
 clear hb0 h hl l0 l9 hO hcut;go_enter func16,ntmps16
 go_wp2_with fail
 refine aL gD.o ?_;rintro v w1 ⟨wt,wg,wc,m,rfl,hm,fq,hown,hb1⟩;have aO:aa (Below w.heap.size w w1):=hb1;have lQ:aa (w.heap.size<=wg):=by
  show _<=_
  exact(hown.lt wg rfl).1
 have HW:aa (∀V,Below w1.heap.size w1 V->∀j s,(⟨#[101,110,116,105,116,121]⟩::wt)[j]?=J s->V.cell? ⟨wg,j,I⟩=J (aq s)):=λV hV j s hj=>aG hV (qE hown j s hj)
 have HM:aa (m=wt.length+1/\wt.map bl=ws):=⟨hm,fq⟩;have c0:w1.cell? ⟨wg,0,I⟩=J (aq ⟨#[101,110,116,105,116,121]⟩):=HW.o w1 (aC _ _) 0 _ rfl;have m0:(0:Int)<(m:Int):=by omega
 clear hm fq hown hb1 gD;go_wp2_with fail
 refine aL (gP.o w1 aO.o) ?_;rintro v w2 ⟨rfl,hb2⟩;have aW:aa (Below w.heap.size w w2):=aO.o.trans (hb2.mono aO.o.size);have bL:aa (Below w1.heap.size w1 w2):=hb2;have bK:aa (∀V,Below w2.heap.size w2 V->bD rb w0 V):=λV hV=>HS.o.1.trans ((aW.o.trans (hV.mono aW.o.size)).mono HS.o.1.size)
 clear hb2 gP c0
 cases cZ:may last 3 with
 |false=>
  have HE:aa (bR last c 3 ws=1):=tr cZ;clear cZ;go_wp2;go_ret;exact⟨by rw[HE.o];rfl,bK.o _ (aC _ _),λh0=>by rw[HE.o]at h0;cases h0⟩
 |true=>
  have HY:aa (may last 3=true):=cZ;have HK:aa (bR last c 3 ws=(aY (bq (bO c.aw)) false (form 3) ws).1):=tu cZ;clear cZ
  by_cases hN:wt.length=2
  ·obtain⟨s0,s1,rfl⟩:∃s0 s1,wt=[s0,s1]:=by
    match wt,hN with
    |[s0,s1],_=>exact⟨s0,s1,rfl⟩
   obtain rfl:ws=[bl s0,bl s1]:=HM.o.2.symm.trans rfl;obtain rfl:m=2+1:=HM.o.1;clear HM hN;obtain⟨ajD,ajE,ajF,e4⟩:∃va vn vc,w2.cell? ⟨rb,4,I⟩=J (af va vn vc):=by
    obtain⟨ev,cells,kg⟩:=(HS.o.2.below aW.o).view;obtain⟨va,vc,rfl⟩:=cJ kg.aw
    refine⟨va,c.aw.length,vc,?_⟩;have:=kg.row;simp[World.cell?,this,bV]
   go_wp2_with fail
   go_loopw [9,10,11,12] (λnv ov iv _ wr=>∃(j:Nat) (nn:Bool) (vs:List Int) (na:Option az) (nc:Nat),j<=2/\iv=U R j/\ov=aI nn/\nv=af na j nc/\wr.ownsRow w2.heap.size 3 1 (af na j nc) j (vs.flatMap bm)/\Below w2.heap.size w2 wr/\dR (bq (bO c.aw)) [0,1] [bl s0,bl s1] j nn vs) (λ_ _ iv _ _=>2-(intOf iv).toNat)
   case atStart=>exact⟨0,false,[],I,0,bI _,rfl,rfl,rfl,fC _ _ _ _,aC _ _,dR.start _ _ _⟩
   case round=>
    obtain⟨j,nn,vs,na,nc,hj,rfl,rfl,rfl,hown,hb,hf⟩:=hrel;have HB:aa (Below w2.heap.size w2 wr):=hb;have bE:aa (wr.ownsRow w2.heap.size 3 1 (af na j nc) j (vs.flatMap bm)):=hown;have HF:aa (dR (bq (bO c.aw)) [0,1] [bl s0,bl s1] j nn vs):=hf;clear hb hown hf e4
    by_cases hlt:j<2
    ·clear hj
     rcases(show j=0\/j=1 by omega)with rfl|rfl
     clear hlt
     ·have d0:=HW.o wr (bL.o.trans (HB.o.mono bL.o.size)) 1 s0 rfl
      by_cases es:s0=⟨#[]⟩
      ·have HE:aa (bR last c 3 [bl s0,bl s1]=1):=by show _=_;rw[HK.o];exact HF.o.bad rfl rfl (by rw[es];exact uZ)
       obtain⟨n1,n2⟩:=nO es;clear es;go_wp2;go_ret;exact⟨by rw[HE.o];rfl,bK.o _ HB.o,λh0=>by rw[HE.o]at h0;cases h0⟩
      have sU:aa _:=@Tc (bq (bO c.aw)) s0 es;obtain⟨n1,n2⟩:=eM es;clear es;go_wp2_with (at_builtin;refine fw _ rfl _ _ 65 rfl w2.heap.size 3 i0 (U R 0) 1 8 underlying65 hi hz0 hz1 hz2 rfl (by decide) (af na 0 nc) 0 (vs.flatMap bm) rfl (bE.o.alloc _) ⟨wr.heap.size,0,.none⟩ 1 1 [U R 0] rfl rfl (h_ _ _ _) (by intro u hu;simp at hu;subst hu;rfl) (by unfold maxLen;omega) (by omega) (by have:=HB.o.size;simp;omega) ?_;intro v1 w4 hown1 dh ij)
      obtain⟨dS,df,cC⟩:=cJ hown1;subst cC;go_roundw
      case rel=>exact⟨0+1,nn,vs++[0],dS,df,by omega,rfl,rfl,rfl,by simpa[dP,bm]using hown1,(HB.o.alloc HB.o.size _).grown dh (by have:=HB.o.size;simp;omega) (λq hq=>(bE.o.lt q hq).1),HF.o.next rfl rfl nn 0 (by rw[sU.o];decide) (by rw[sU.o];simp) (λ_=>by rw[sU.o])⟩
      case measure=>simp[intOf]
     have d1:=HW.o wr (bL.o.trans (HB.o.mono bL.o.size)) 2 s1 rfl;have jm:aa _:=uX s1 wr;go_wp2_with fail
     refine aL jm.o ?_;rintro v w3 ⟨rfl,hw3⟩;rw[hw3];clear hw3 w3;have dF:aa _:=@uY (bq (bO c.aw)) s1;clear jm;generalize kV (bl s1)=z at *
     by_cases z0:z<0
     ·have HE:aa (bR last c 3 [bl s0,bl s1]=1):=by show _=_;rw[HK.o];exact HF.o.bad rfl rfl (by rw[dF.o.1,aR z0])
      go_wp2;go_ret;exact⟨by rw[HE.o];rfl,bK.o _ HB.o,λh0=>by rw[HE.o]at h0;cases h0⟩
     have z1:0<=z:=by omega
     obtain⟨n1,n2⟩:=eM (dF.o.2 z1).2;go_wp2_with (at_builtin;refine fw _ rfl _ _ 65 rfl w2.heap.size 3 i0 (U R 0) 1 8 underlying65 hi hz0 hz1 hz2 rfl (by decide) (af na 1 nc) 1 (vs.flatMap bm) rfl (bE.o.alloc _) ⟨wr.heap.size,0,.none⟩ 1 1 [U R z] rfl rfl (h_ _ _ _) (by intro u hu;simp at hu;subst hu;rfl) (by unfold maxLen;omega) (by omega) (by have:=HB.o.size;simp;omega) ?_;intro v1 w4 hown1 dh ij)
     obtain⟨dS,df,cC⟩:=cJ hown1;subst cC;go_roundw
     case rel=>exact⟨1+1,nn,vs++[z],dS,df,by omega,rfl,rfl,rfl,by simpa[dP,bm]using hown1,(HB.o.alloc HB.o.size _).grown dh (by have:=HB.o.size;simp;omega) (λq hq=>(bE.o.lt q hq).1),HF.o.next rfl rfl nn z (by rw[dF.o.1,aK (by omega)];decide) (by rw[dF.o.1,aK (by omega)];simp) (λ_=>(dF.o.2 z1).1.symm)⟩
     case measure=>simp[intOf]
    obtain rfl:j=2:=by omega
    clear hlt hj;obtain⟨cA,fu⟩:=(show dR (bq (bO c.aw)) [0,1] [bl s0,bl s1] ([0,1]:List Nat).length nn vs from HF.o).done rfl
    cases nn with
    |true=>
     have HE:aa (bR last c 3 [bl s0,bl s1]=5):=by show _=_;rw[HK.o];exact cA
     clear cA fu;go_wp2;go_ret;exact⟨by rw[HE.o];rfl,bK.o _ HB.o,λh0=>by rw[HE.o]at h0;cases h0⟩
    |false=>
     have ft:aa (bR last c 3 [bl s0,bl s1]=0):=by show _=_;rw[HK.o];exact cA
     have lR:aa ((aY (bq (bO c.aw)) false [0,1] [bl s0,bl s1]).2=vs):=fu rfl;have hlen:=HF.o.len;clear cA fu;obtain⟨v0,v1,rfl⟩:∃v0 v1,vs=[v0,v1]:=by
      match vs,hlen with
      |[v0,v1],_=>exact⟨v0,v1,rfl⟩
     obtain⟨ng,df,ki⟩:=rK bE.o
     cases ki
     have lS:aa (w2.heap.size<=ng):=by show _<=_;exact(bE.o.lt ng rfl).1
     have x0:=mq bE.o 0 v0 rfl;have x1:=mq bE.o 1 v1 rfl;have cY:aa (Below w.heap.size w wr):=aW.o.trans (HB.o.mono aW.o.size);have d0:=HW.o wr (bL.o.trans (HB.o.mono bL.o.size)) 0 _ rfl;have d1:=HW.o wr (bL.o.trans (HB.o.mono bL.o.size)) 1 _ rfl;have d2:=HW.o wr (bL.o.trans (HB.o.mono bL.o.size)) 2 _ rfl;clear hlen HF;obtain⟨ev,cells,kg⟩:=(HS.o.2.below cY.o).view;obtain⟨va,vc,rfl⟩:=cJ kg.aw;have FZ:aa (qF w0.heap.size rb wr c (cf last) (af va c.aw.length vc) cells):=kg;clear kg;have hrow:=FZ.o.row;have qz:rb<w.heap.size:=by rcases HS.o.2 with h1|⟨_,_,_,_,_,_,_,_,_,h1⟩<;>exact bJ h1.row
     have eH:¬rb=wg:=by have:=lQ.o;omega
     have u_:¬wg=rb:=λe2=>eH e2.symm
     have gF:¬rb=ng:=by have:=aW.o.size;have:=lS.o;omega
     have ve:¬ng=rb:=λe2=>gF e2.symm
     have r5:wr.cell? ⟨rb,5,I⟩=J (aq (cf last)):=by simp[World.cell?,hrow,bV]
     have f5:wr.frozen? ⟨rb,5,I⟩=false:=by simp[World.frozen?,hrow]
     have r4:wr.cell? ⟨rb,4,I⟩=J (af va c.aw.length vc):=by simp[World.cell?,hrow,bV]
     clear hrow;go_upto_region 59 with fail
     obtain⟨Wz,cB⟩:∃V,V=wr.setCell ⟨rb,5,I⟩ (aq ⟨#[101,110,116,105,116,121]⟩):=⟨_,rfl⟩;rw[<- cB];have F0:aa (qF w0.heap.size rb Wz c ⟨#[101,110,116,105,116,121]⟩ (af va c.aw.length vc) cells):=by rw[cB];exact FZ.o.setW ⟨#[101,110,116,105,116,121]⟩
     have jh:aa (bD rb w0 Wz):=by rw[cB];exact(bK.o _ HB.o).setCell (p:=⟨rb,5,I⟩) FZ.o.lo _
     have c4:Wz.cell? ⟨rb,4,I⟩=J (af va c.aw.length vc):=by have:=F0.o.row;simp[World.cell?,this,bV]
     have y1:Wz.cell? ⟨wg,1,I⟩=J (aq s0):=by rw[cB,eD (a_ eH) rfl rfl];exact d1
     have y2:Wz.cell? ⟨ng,1,I⟩=J (U R v1):=by rw[cB,eD (a_ gF) rfl rfl];exact x1
     clear cB r4 r5 f5 d0 d1 d2 x0 x1;have Kg:∀ob,(Wz.alloc ob).cell? ⟨rb,4,I⟩=J (af va c.aw.length vc):=λob=>aG (aN _ _) c4
     obtain⟨j0,hj,qB,tA,nt⟩:=fj Ra;have hown:Wz.drew.ownsRow w0.heap.size 84 10 (af va c.aw.length vc) c.aw.length cells:=F0.o.aw;have lH:w0.heap.size<=Wz.heap.size:=jh.o.size;have lD:c.aw.length<=1000000:=HO.o.len;have KB:aa (∀(ob:Obj) (w8:ai),(Wz.drew.alloc ob).grownBy w8 (Value.slice va c.aw.length vc).ownBlock->w8.heap[rb]?=J (au (bV c (af va c.aw.length vc) ⟨#[101,110,116,105,116,121]⟩) 53 (0,0))/\bD rb w0 w8):=λob w8 hg=>by
      have iT:=F0.o.below (w':=Wz.drew.alloc ob) ((aC Wz.heap.size Wz).drew.alloc (by simp) ob);have b3:bD rb w0 (Wz.drew.alloc ob):=jh.o.trans (((aC Wz.heap.size Wz).drew.alloc (by simp) ob).mono jh.o.size);exact⟨(hg.block rb (bJ iT.row) (λe2=>dZ iT.aw iT.row (by decide) e2.symm)).trans iT.row,b3.grown hg b3.size (λk hk=>(iT.aw.lt k hk).1)⟩
     go_wp2_with fail
     go_region_law (refine ni _ rfl (.tmp 162) (.tmp 170) 28 rfl w0.heap.size 84 j0 (aU #[aq ⟨#[]⟩,U R 0,af I 0 0,U R 0,U R 0,U R 0,af I 0 0,af I 0 0,af I 0 0,af I 0 0]) 10 168 underlying28 hj qB tA nt rfl (by decide) (af va c.aw.length vc) c.aw.length cells (by simp[Act.eval]) (hown.alloc _) ⟨Wz.heap.size,0,.none⟩ 1 1 (pU.row (pg s0 v1)).toList (by simp[Act.eval]) rfl (Av Wz.drew (pU.row (pg s0 v1)).toList 84) (Rp s0 v1) (by decide) (by unfold maxLen;omega) (by omega) (by simp;omega) (Wz.heap.size+1) (by simp) ?_;intro g' cap' w8 dy bZ cH ld;have r8:=KB.o _ _ bZ;have d8:w8.cell? ⟨rb,4,I⟩=J (af va c.aw.length vc):=(by simp[World.cell?,r8.1,bV]);have d9:w8.frozen? ⟨rb,4,I⟩=false:=(by simp[World.frozen?,r8.1]))
     all_goals
      have H8:aa (bD rb w0 w8):=r8.2;have C_:aa _:=bZ;have yw:aa _:=dy;clear bZ dy r8 cH Kg c4 y1 y2;go_wp2;go_ret
      refine⟨by rw[ft.o];rfl,H8.o.setCell (p:=⟨rb,4,I⟩) FZ.o.lo _,λ_=>aP ?_⟩;rw[show (aY (bq (bO c.aw)) false (form 3) [bl s0,bl s1]).2=_ from lR.o];have hD:=ahs (F0.o.below (w':=Wz.drew.alloc _) ((aC Wz.heap.size Wz).drew.alloc (by simp) _)) (by simp;omega) C_.o yw.o;exact⟨_,g',cap',c.aw,pg s0 v1,pU,cells,by simp only[ed,qL,pg];rw[show (⟨(([bl s0,bl s1]:List Bs).getD 0 []).toArray⟩:ByteArray)=s0 from lC (by rw[qh];rfl)];rfl,by have:=C_.o.size;simp[World.setCell]at this⊢;omega,hD.cfg (λ_ _=>rfl)⟩
  have HE:aa (bR last c 3 ws=1):=by show _=_;rw[HK.o];exact rL _ _ _ (by rw[<- HM.o.2,fL];exact hN)
  have mN:¬(m:Int)=2+1:=by have:=HM.o.1;omega
  clear hN;go_wp2;go_ret;exact⟨by rw[HE.o];rfl,bK.o _ (aC _ _),λh0=>by rw[HE.o]at h0;cases h0⟩
theorem ahz(w0 w:ai)(rb:Nat)(c:aS)(last:Int)(l:ByteArray)(ws:List Bs)(hb0:bD rb w0 w)(h:eO w0.heap.size rb w c (cf last))(hl:l.size<=1000000)(l0:-1<=last)(l9:last<=9)(hO:gZ 1000000 c last)(hcut:bW 32 (bl l)=kw 4::ws):Calls prog 16 #[aj (J ⟨rb,0,I⟩),aq l] w λv w'=>v=ax (U R (bR last c 4 ws:Nat))/\bD rb w0 w'/\(bR last c 4 ws=0->eO w0.heap.size rb w' (ed c 4 ws (aY (bq (bO c.aw)) false (form 4) ws).2) (eN 4)):=by
 obtain⟨i0,hi,hz0,hz1,hz2⟩:=fj ny;have HS:aa (bD rb w0 w/\eO w0.heap.size rb w c (cf last)):=⟨hb0,h⟩;have HO:aa (gZ 1000000 c last):=hO;have gD:aa (Calls prog 15 #[aq l,U .u8 32] w λe w'=>∃(wt:List ByteArray) (g cap m:Nat),e=ax (af (J ⟨g,0,I⟩) m cap)/\m=wt.length+1/\wt.map bl=ws/\w'.ownsRow w.heap.size 9 1 (af (J ⟨g,0,I⟩) m cap) m ((⟨#[112,111,105,110,116]⟩::wt).flatMap bS)/\Below w.heap.size w w'):=by
  refine(pZ l 32 w hl).mono ?_;rintro e w' ⟨wl,g,cap,rfl,h1,h2,h3⟩;rw[hcut]at h1;obtain⟨wt,rfl,h4⟩:=tz h1;exact⟨wt,g,cap,_,rfl,rfl,h4,h2,h3⟩
 have gP:aa (∀V,Below w.heap.size w V->Calls prog 53 #[aj (J ⟨rb,0,I⟩),aq ⟨#[112,111,105,110,116]⟩] V λe w'=>e=ax (aI (may last 4))/\Below V.heap.size V w'):=λV hV=>by
  have hc:V.cell? ⟨rb,5,I⟩=J (aq (cf last)):=by
   rcases h.below hV with h1|⟨_,_,_,_,_,_,_,_,_,h1⟩
   ·have:=h1.row;simp[World.cell?,this,bV]
   have:=h1.row;simp[World.cell?,this,bV]
  exact rJ rb last (eN 4) V l0 l9 hc
 clear hb0 h hl l0 l9 hO hcut;go_enter func16,ntmps16
 go_wp2_with fail
 refine aL gD.o ?_;rintro v w1 ⟨wt,wg,wc,m,rfl,hm,fq,hown,hb1⟩;have aO:aa (Below w.heap.size w w1):=hb1;have lQ:aa (w.heap.size<=wg):=by
  show _<=_
  exact(hown.lt wg rfl).1
 have HW:aa (∀V,Below w1.heap.size w1 V->∀j s,(⟨#[112,111,105,110,116]⟩::wt)[j]?=J s->V.cell? ⟨wg,j,I⟩=J (aq s)):=λV hV j s hj=>aG hV (qE hown j s hj)
 have HM:aa (m=wt.length+1/\wt.map bl=ws):=⟨hm,fq⟩;have c0:w1.cell? ⟨wg,0,I⟩=J (aq ⟨#[112,111,105,110,116]⟩):=HW.o w1 (aC _ _) 0 _ rfl;have m0:(0:Int)<(m:Int):=by omega
 clear hm fq hown hb1 gD;go_wp2_with fail
 refine aL (gP.o w1 aO.o) ?_;rintro v w2 ⟨rfl,hb2⟩;have aW:aa (Below w.heap.size w w2):=aO.o.trans (hb2.mono aO.o.size);have bL:aa (Below w1.heap.size w1 w2):=hb2;have bK:aa (∀V,Below w2.heap.size w2 V->bD rb w0 V):=λV hV=>HS.o.1.trans ((aW.o.trans (hV.mono aW.o.size)).mono HS.o.1.size)
 clear hb2 gP c0
 cases cZ:may last 4 with
 |false=>
  have HE:aa (bR last c 4 ws=1):=tr cZ;clear cZ;go_wp2;go_ret;exact⟨by rw[HE.o];rfl,bK.o _ (aC _ _),λh0=>by rw[HE.o]at h0;cases h0⟩
 |true=>
  have HY:aa (may last 4=true):=cZ;have HK:aa (bR last c 4 ws=(aY (bq (bO c.aw)) false (form 4) ws).1):=tu cZ;clear cZ
  by_cases hN:wt.length=1
  ·obtain⟨s0,rfl⟩:∃s0,wt=[s0]:=by
    match wt,hN with
    |[s0],_=>exact⟨s0,rfl⟩
   obtain rfl:ws=[bl s0]:=HM.o.2.symm.trans rfl;obtain rfl:m=1+1:=HM.o.1;clear HM hN;obtain⟨L,g,cap,es,e,x,cells,hce,eG,hD⟩:∃L g cap es e x cells,c.aw=es++[e]/\L<=w.heap.size/\gO w0.heap.size rb L g cap w c (cf last) es e x cells:=by
    rcases HS.o.2 with h1|h1
    ·exact absurd h1.nil (HO.o.e3 (yD (by decide) HY.o))
    exact h1
   have pj:aa (c.aw=es++[e]):=hce;have np:aa (L<=w.heap.size):=eG;have mV:aa (bO c.aw=e.ak):=by show _=_;rw[hce];exact yx _ _
   rw[mV.o]at HK;have H1:aa (∀V,Below w.heap.size w V->gO w0.heap.size rb L g cap V c (cf last) es e x cells):=λV hV=>bX.below hD hV
   obtain⟨pa,pc,eu⟩:=cJ hD.new.hp;have rM:aa (x.p=af pa e.ak.length pc):=eu;have fK:aa (es.length<1000000/\nM 1000000 e):=⟨by have:=HO.o.len;rw[hce,dm]at this;simp at this;omega,HO.o.sz e (by rw[hce];simp)⟩;obtain⟨n,hn⟩:∃n,n=es.length:=⟨_,rfl⟩;have aX:aa (n=es.length):=hn;have Dw:n<1000000:=by have:=fK.o.1;omega
   have Dx:(n:Int)<(n:Int)+1:=by omega
   have Dy:¬(n:Int)<0:=by omega
   have kD:aa (∀V,Below w.heap.size w V->V.cell? ⟨rb,4,I⟩=J (af (J ⟨g,0,I⟩) (n+1) cap)):=λV hV=>by have:=(H1.o V hV).row;rw[hn];simp[World.cell?,this,bV]
   have iy:aa (∀V,Below w.heap.size w V->V.cell? ⟨g,n*10+2,I⟩=J (af pa e.ak.length pc)):=λV hV=>by rw[hn,<- eu];exact((H1.o V hV).aZ (j:=2) rfl).1
   have qG:aa (∀s V,Below w.heap.size w V->Calls prog 55 #[af pa e.ak.length pc,aq s] V λe' w'=>e'=ax (U R (idxOf e.ak s))/\w'=V):=λs V hV=>wk e.ak s pa pc V (by rw[<- eu];exact bU.jc (enc:=bS) (H1.o V hV).new.hp (λ_=>rfl)) fK.o.2.p
   have e4:=kD.o w2 aW.o;clear hce eG hD eu hn;go_wp2_with fail
   go_loopw [9,10,11,12] (λnv ov iv _ wr=>∃(j:Nat) (nn:Bool) (vs:List Int) (na:Option az) (nc:Nat),j<=1/\iv=U R j/\ov=aI nn/\nv=af na j nc/\wr.ownsRow w2.heap.size 3 1 (af na j nc) j (vs.flatMap bm)/\Below w2.heap.size w2 wr/\dR (bq e.ak) [0] [bl s0] j nn vs) (λ_ _ iv _ _=>1-(intOf iv).toNat)
   case atStart=>exact⟨0,false,[],I,0,bI _,rfl,rfl,rfl,fC _ _ _ _,aC _ _,dR.start _ _ _⟩
   case round=>
    obtain⟨j,nn,vs,na,nc,hj,rfl,rfl,rfl,hown,hb,hf⟩:=hrel;have HB:aa (Below w2.heap.size w2 wr):=hb;have bE:aa (wr.ownsRow w2.heap.size 3 1 (af na j nc) j (vs.flatMap bm)):=hown;have HF:aa (dR (bq e.ak) [0] [bl s0] j nn vs):=hf;clear hb hown hf e4
    by_cases hlt:j<1
    ·clear hj;obtain rfl:j=0:=by omega
     clear hlt;have d0:=HW.o wr (bL.o.trans (HB.o.mono bL.o.size)) 1 s0 rfl
     by_cases es:s0=⟨#[]⟩
     ·have HE:aa (bR last c 4 [bl s0]=1):=by show _=_;rw[HK.o];exact HF.o.bad rfl rfl (by rw[es];exact uZ)
      obtain⟨n1,n2⟩:=nO es;clear es;go_wp2;go_ret;exact⟨by rw[HE.o];rfl,bK.o _ HB.o,λh0=>by rw[HE.o]at h0;cases h0⟩
     have sU:aa _:=@Tc (bq e.ak) s0 es;obtain⟨n1,n2⟩:=eM es;clear es;go_wp2_with (at_builtin;refine fw _ rfl _ _ 65 rfl w2.heap.size 3 i0 (U R 0) 1 8 underlying65 hi hz0 hz1 hz2 rfl (by decide) (af na 0 nc) 0 (vs.flatMap bm) rfl (bE.o.alloc _) ⟨wr.heap.size,0,.none⟩ 1 1 [U R 0] rfl rfl (h_ _ _ _) (by intro u hu;simp at hu;subst hu;rfl) (by unfold maxLen;omega) (by omega) (by have:=HB.o.size;simp;omega) ?_;intro v1 w4 hown1 dh ij)
     obtain⟨dS,df,cC⟩:=cJ hown1;subst cC;go_roundw
     case rel=>exact⟨0+1,nn,vs++[0],dS,df,by omega,rfl,rfl,rfl,by simpa[dP,bm]using hown1,(HB.o.alloc HB.o.size _).grown dh (by have:=HB.o.size;simp;omega) (λq hq=>(bE.o.lt q hq).1),HF.o.next rfl rfl nn 0 (by rw[sU.o];decide) (by rw[sU.o];simp) (λ_=>by rw[sU.o])⟩
     case measure=>simp[intOf]
    obtain rfl:j=1:=by omega
    clear hlt hj;obtain⟨cA,fu⟩:=(show dR (bq e.ak) [0] [bl s0] ([0]:List Nat).length nn vs from HF.o).done rfl
    cases nn with
    |true=>
     have HE:aa (bR last c 4 [bl s0]=5):=by show _=_;rw[HK.o];exact cA
     clear cA fu;go_wp2;go_ret;exact⟨by rw[HE.o];rfl,bK.o _ HB.o,λh0=>by rw[HE.o]at h0;cases h0⟩
    |false=>
     have ft:aa (bR last c 4 [bl s0]=0):=by show _=_;rw[HK.o];exact cA
     have lR:aa ((aY (bq e.ak) false [0] [bl s0]).2=vs):=fu rfl;have hlen:=HF.o.len;clear cA fu;obtain⟨v0,rfl⟩:∃v0,vs=[v0]:=by
      match vs,hlen with
      |[v0],_=>exact⟨v0,rfl⟩
     obtain⟨ng,df,ki⟩:=rK bE.o
     cases ki
     have lS:aa (w2.heap.size<=ng):=by show _<=_;exact(bE.o.lt ng rfl).1
     have x0:=mq bE.o 0 v0 rfl;have cY:aa (Below w.heap.size w wr):=aW.o.trans (HB.o.mono aW.o.size);have d0:=HW.o wr (bL.o.trans (HB.o.mono bL.o.size)) 0 _ rfl;have d1:=HW.o wr (bL.o.trans (HB.o.mono bL.o.size)) 1 _ rfl;clear hlen HF;have hbase:=H1.o wr cY.o;have qz:rb<w.heap.size:=bJ (H1.o w (aC _ _)).row;have wO:g<w.heap.size:=by obtain⟨cur,h1,-⟩:=(H1.o w (aC _ _)).grow;exact bJ h1
     have eH:¬rb=wg:=by have:=lQ.o;omega
     have u_:¬wg=rb:=λe2=>eH e2.symm
     have gF:¬rb=ng:=by have:=aW.o.size;have:=lS.o;omega
     have ve:¬ng=rb:=λe2=>gF e2.symm
     have hrow:=hbase.row;have r5:wr.cell? ⟨rb,5,I⟩=J (aq (cf last)):=by simp[World.cell?,hrow,bV]
     have f5:wr.frozen? ⟨rb,5,I⟩=false:=by simp[World.frozen?,hrow]
     clear hrow;go_upto_region 62 with fail
     obtain⟨Wz,cB⟩:∃V,V=wr.setCell ⟨rb,5,I⟩ (aq ⟨#[112,111,105,110,116]⟩):=⟨_,rfl⟩;rw[<- cB];have bP:aa (bX w0.heap.size rb L g cap Wz c ⟨#[112,111,105,110,116]⟩ es (x.row e).toList e x cells):=by rw[cB];exact bX.pk hbase 5 (aq ⟨#[112,111,105,110,116]⟩) rfl
     have jh:aa (bD rb w0 Wz):=by rw[cB];exact(bK.o _ HB.o).setCell (p:=⟨rb,5,I⟩) hbase.lo _
     have mW:aa (w.heap.size<=Wz.heap.size):=by show _<=_;rw[cB];have:=cY.o.size;simpa[World.setCell]using this
     have y0:Wz.cell? ⟨wg,0,I⟩=J (aq ⟨#[112,111,105,110,116]⟩):=by rw[cB,eD (a_ eH) rfl rfl];exact d0
     have y1:Wz.cell? ⟨wg,1,I⟩=J (aq s0):=by rw[cB,eD (a_ eH) rfl rfl];exact d1
     have u0:Wz.cell? ⟨ng,0,I⟩=J (U R v0):=by rw[cB,eD (a_ gF) rfl rfl];exact x0
     clear cB r5 f5 hbase d0 d1 x0;obtain⟨ga,gc,il⟩:=cJ bP.o.new.hg;obtain⟨ea,ec,kj⟩:=cJ bP.o.new.he;obtain⟨fa,fc,fx⟩:=cJ bP.o.new.hf;obtain⟨la,lc,iL⟩:=cJ bP.o.new.hl;have aT:aa (x.row e=#[aq e.name,U R e.aJ,af pa e.ak.length pc,U R e.cnt,U R e.mn,U R e.mx,af ga e.aB.length gc,af ea e.aA.length ec,af fa e.first.length fc,af la e.last.length lc]/\x=⟨af pa e.ak.length pc,af ga e.aB.length gc,af ea e.aA.length ec,af fa e.first.length fc,af la e.last.length lc⟩):=by
      have eu:=rM.o;obtain⟨xp,xg,xe,xf,xl⟩:=x;simp only at eu il kj fx iL;subst eu il kj fx iL;exact⟨rfl,rfl⟩
     clear il kj fx iL;have e4:Wz.cell? ⟨rb,4,I⟩=J (af (J ⟨g,0,I⟩) (n+1) cap):=by have:=bP.o.row;rw[aX.o];simp[World.cell?,this,bV]
     have q0:Wz.cell? ⟨g,n*10,I⟩=J (aq e.name):=by have:=(bP.o.aZ (j:=0) (u:=aq e.name) (by rw[aT.o.1];rfl)).1;rw[aX.o];simpa using this
     have q1:Wz.cell? ⟨g,n*10+1,I⟩=J (U R e.aJ):=by have:=(bP.o.aZ (j:=1) (u:=U R e.aJ) (by rw[aT.o.1];rfl)).1;rw[aX.o];simpa using this
     have q2:Wz.cell? ⟨g,n*10+2,I⟩=J (af pa e.ak.length pc):=by have:=(bP.o.aZ (j:=2) (u:=af pa e.ak.length pc) (by rw[aT.o.1];rfl)).1;rw[aX.o];simpa using this
     have q3:Wz.cell? ⟨g,n*10+3,I⟩=J (U R e.cnt):=by have:=(bP.o.aZ (j:=3) (u:=U R e.cnt) (by rw[aT.o.1];rfl)).1;rw[aX.o];simpa using this
     have q4:Wz.cell? ⟨g,n*10+4,I⟩=J (U R e.mn):=by have:=(bP.o.aZ (j:=4) (u:=U R e.mn) (by rw[aT.o.1];rfl)).1;rw[aX.o];simpa using this
     have q5:Wz.cell? ⟨g,n*10+5,I⟩=J (U R e.mx):=by have:=(bP.o.aZ (j:=5) (u:=U R e.mx) (by rw[aT.o.1];rfl)).1;rw[aX.o];simpa using this
     have q6:Wz.cell? ⟨g,n*10+6,I⟩=J (af ga e.aB.length gc):=by have:=(bP.o.aZ (j:=6) (u:=af ga e.aB.length gc) (by rw[aT.o.1];rfl)).1;rw[aX.o];simpa using this
     have q7:Wz.cell? ⟨g,n*10+7,I⟩=J (af ea e.aA.length ec):=by have:=(bP.o.aZ (j:=7) (u:=af ea e.aA.length ec) (by rw[aT.o.1];rfl)).1;rw[aX.o];simpa using this
     have q8:Wz.cell? ⟨g,n*10+8,I⟩=J (af fa e.first.length fc):=by have:=(bP.o.aZ (j:=8) (u:=af fa e.first.length fc) (by rw[aT.o.1];rfl)).1;rw[aX.o];simpa using this
     have q9:Wz.cell? ⟨g,n*10+9,I⟩=J (af la e.last.length lc):=by have:=(bP.o.aZ (j:=9) (u:=af la e.last.length lc) (by rw[aT.o.1];rfl)).1;rw[aX.o];simpa using this
     go_upto_region 63 with fail
     obtain⟨V,hV⟩:∃V,V=Wz.alloc (au #[aq e.name,U R e.aJ,af pa e.ak.length pc,U R e.cnt,U R e.mn,U R e.mx,af ga e.aB.length gc,af ea e.aA.length ec,af fa e.first.length fc,af la e.last.length lc] 84):=⟨_,rfl⟩;rw[<- hV];obtain⟨eb,km⟩:∃b,b=Wz.heap.size:=⟨_,rfl⟩;rw[<- km];have dG:aa (Below Wz.heap.size Wz V):=by show Below _ _ _;rw[hV];exact aN _ _
     have jz:aa (bX w0.heap.size rb L g cap V c ⟨#[112,111,105,110,116]⟩ es (x.row e).toList e x cells):=bP.o.below dG.o;have gC:aa (bD rb w0 V):=jh.o.trans (dG.o.mono jh.o.size);have jO:aa (V.heap[eb]?=J (au #[aq e.name,U R e.aJ,af pa e.ak.length pc,U R e.cnt,U R e.mn,U R e.mx,af ga e.aB.length gc,af ea e.aA.length ec,af fa e.first.length fc,af la e.last.length lc] 84 (0,0))):=by show _=_;rw[hV,km];exact cR Wz _
     have lT:aa (eb≠g/\eb≠rb/\w.heap.size<=eb):=by have:=mW.o;exact⟨by omega,by omega,by omega⟩
     have nP:aa (L<=V.heap.size):=bw np.o (bw mW.o dG.o.size);have y0:=aG dG.o y0;have y1:=aG dG.o y1;have u0:=aG dG.o u0;clear hV km e4 q0 q1 q2 q3 q4 q5 q6 q7 q8 q9;obtain⟨j0,hj,qB,tA,nt⟩:=fj Ej;have q2:V.cell? ⟨eb,2,I⟩=J (af pa e.ak.length pc):=by simp[World.cell?,jO.o]
     have vg:∀ob,(V.alloc ob).cell? ⟨eb,2,I⟩=J (af pa e.ak.length pc):=λob=>aG (aN _ _) q2
     have hown:V.drew.ownsRow L 9 1 (af pa e.ak.length pc) e.ak.length (e.ak.flatMap bS):=by have:=jz.o.new.hp;rw[aT.o.2]at this;exact this
     have lH:=nP.o;have lD:e.ak.length<=1000000:=fK.o.2.p;have KB:aa (∀(ob:Obj) (w8:ai),(V.drew.alloc ob).grownBy w8 (Value.slice pa e.ak.length pc).ownBlock->w8.heap[eb]?=J (au #[aq e.name,U R e.aJ,af pa e.ak.length pc,U R e.cnt,U R e.mn,U R e.mx,af ga e.aB.length gc,af ea e.aA.length ec,af fa e.first.length fc,af la e.last.length lc] 84 (0,0))/\bD rb w0 w8):=λob w8 hg=>by
      have bb:Below V.heap.size V (V.drew.alloc ob):=(aC V.heap.size V).drew.alloc (by simp) ob;have pq:=jz.o.below bb;have b3:bD rb w0 (V.drew.alloc ob):=gC.o.trans (bb.mono gC.o.size);have k3:=bG bb jO.o;have pw:(V.drew.alloc ob).ownsRow L 9 1 (af pa e.ak.length pc) e.ak.length (e.ak.flatMap bS):=by have:=pq.new.hp;rw[aT.o.2]at this;exact this
      exact⟨(hg.block eb (bJ k3) (λe2=>dZ pw k3 (by decide) e2.symm)).trans k3,b3.grown hg b3.size (λb hb=>bw pq.jL (pw.lt b hb).1)⟩
     go_wp2_with fail
     go_region_law (refine ni _ rfl (.tmp 191) (.tmp 195) 22 rfl L 9 j0 (aq ⟨#[]⟩) 1 16 underlying22 hj qB tA nt rfl (by decide) (af pa e.ak.length pc) e.ak.length (e.ak.flatMap bS) (by simp[Act.eval]) (hown.alloc _) ⟨V.heap.size,0,.none⟩ 1 1 [aq s0] (by simp[Act.eval]) rfl (h_ V.drew (aq s0) 9) (by intro u hu;simp at hu;subst hu;rfl) (by decide) (by unfold maxLen;omega) (by omega) (by simp;omega) (V.heap.size+1) (by simp) ?_;intro g' cap' w8 dy bZ cH ld;have r8:=KB.o _ _ bZ;have d8:w8.cell? ⟨eb,2,I⟩=J (af pa e.ak.length pc):=(by simp[World.cell?,r8.1]);have d9:w8.frozen? ⟨eb,2,I⟩=false:=(by simp[World.frozen?,r8.1]))
     all_goals
      have H8:aa (_/\_):=r8;have vh:aa (bX w0.heap.size rb L g cap w8 c ⟨#[112,111,105,110,116]⟩ es (x.row e).toList { e with ak:=e.ak++[s0] } ({ x with p:=af (J ⟨g',0,I⟩) (e.ak.length+1) cap' }) cells):=(jz.o.below (w':=V.drew.alloc _) ((aC V.heap.size V).drew.alloc (by simp) _)).J9 s0 (by rw[aT.o.2];exact bZ) dy;have vk:aa (L<=w8.heap.size):=by have h1:=bZ.size;have h2:=nP.o;show _<=_;simp at h1;omega
      clear bZ dy r8 cH q2 vg hown;go_upto_region 78 with fail
      obtain⟨Y,hY⟩:∃Y,Y=w8.setCell ⟨eb,2,I⟩ (af (J ⟨g',0,I⟩) (e.ak.length+1) cap'):=⟨_,rfl⟩;rw[<- hY];have bz:aa (bX w0.heap.size rb L g cap Y c ⟨#[112,111,105,110,116]⟩ es (x.row e).toList { e with ak:=e.ak++[s0] } ({ x with p:=af (J ⟨g',0,I⟩) (e.ak.length+1) cap' }) cells):=by rw[hY];exact vh.o.qR eb 2 _ H8.o.1 lT.o.1
      have cL:aa (Y.heap[eb]?=J (au #[aq e.name,U R e.aJ,af (J ⟨g',0,I⟩) (e.ak.length+1) cap',U R e.cnt,U R e.mn,U R e.mx,af ga e.aB.length gc,af ea e.aA.length ec,af fa e.first.length fc,af la e.last.length lc] 84 (0,0))):=by show _=_;rw[hY];exact p_ H8.o.1 _
      have iA:aa (bD rb w0 Y):=by show bD _ _ _;rw[hY];exact H8.o.2.setCell (p:=⟨eb,2,I⟩) (aP (bw HS.o.1.size lT.o.2.2)) _
      have rN:aa (L<=Y.heap.size):=by show _<=_;rw[hY];simpa[World.setCell]using vk.o
      have rO:aa (({ x with p:=af (J ⟨g',0,I⟩) (e.ak.length+1) cap' }:cn).row { e with ak:=e.ak++[s0] }=#[aq e.name,U R e.aJ,af (J ⟨g',0,I⟩) (e.ak.length+1) cap',U R e.cnt,U R e.mn,U R e.mx,af ga e.aB.length gc,af ea e.aA.length ec,af fa e.first.length fc,af la e.last.length lc]):=by show _=_;rw[aT.o.2];rfl
      clear hY d8 d9 lH lD y0 y1 u0;have e4:Y.cell? ⟨rb,4,I⟩=J (af (J ⟨g,0,I⟩) (n+1) cap):=by have:=bz.o.row;rw[aX.o];simp[World.cell?,this,bV]
      have q0:Y.cell? ⟨eb,0,I⟩=J (aq e.name):=by simp[World.cell?,cL.o]
      have p0:Y.cell? ⟨g,n*10,I⟩=J (aq e.name):=by have:=(bz.o.aZ (j:=0) (u:=aq e.name) (by rw[aT.o.1];rfl)).1;rw[aX.o];simpa using this
      have f0:Y.frozen? ⟨g,n*10,I⟩=false:=by have:=(bz.o.aZ (j:=0) (u:=aq e.name) (by rw[aT.o.1];rfl)).2;rw[aX.o];simpa using this
      have q1:Y.cell? ⟨eb,1,I⟩=J (U R e.aJ):=by simp[World.cell?,cL.o]
      have p1:Y.cell? ⟨g,n*10+1,I⟩=J (U R e.aJ):=by have:=(bz.o.aZ (j:=1) (u:=U R e.aJ) (by rw[aT.o.1];rfl)).1;rw[aX.o];simpa using this
      have f1:Y.frozen? ⟨g,n*10+1,I⟩=false:=by have:=(bz.o.aZ (j:=1) (u:=U R e.aJ) (by rw[aT.o.1];rfl)).2;rw[aX.o];simpa using this
      have q2:Y.cell? ⟨eb,2,I⟩=J (af (J ⟨g',0,I⟩) (e.ak.length+1) cap'):=by simp[World.cell?,cL.o]
      have p2:Y.cell? ⟨g,n*10+2,I⟩=J (af pa e.ak.length pc):=by have:=(bz.o.aZ (j:=2) (u:=af pa e.ak.length pc) (by rw[aT.o.1];rfl)).1;rw[aX.o];simpa using this
      have f2:Y.frozen? ⟨g,n*10+2,I⟩=false:=by have:=(bz.o.aZ (j:=2) (u:=af pa e.ak.length pc) (by rw[aT.o.1];rfl)).2;rw[aX.o];simpa using this
      have q3:Y.cell? ⟨eb,3,I⟩=J (U R e.cnt):=by simp[World.cell?,cL.o]
      have p3:Y.cell? ⟨g,n*10+3,I⟩=J (U R e.cnt):=by have:=(bz.o.aZ (j:=3) (u:=U R e.cnt) (by rw[aT.o.1];rfl)).1;rw[aX.o];simpa using this
      have f3:Y.frozen? ⟨g,n*10+3,I⟩=false:=by have:=(bz.o.aZ (j:=3) (u:=U R e.cnt) (by rw[aT.o.1];rfl)).2;rw[aX.o];simpa using this
      have q4:Y.cell? ⟨eb,4,I⟩=J (U R e.mn):=by simp[World.cell?,cL.o]
      have p4:Y.cell? ⟨g,n*10+4,I⟩=J (U R e.mn):=by have:=(bz.o.aZ (j:=4) (u:=U R e.mn) (by rw[aT.o.1];rfl)).1;rw[aX.o];simpa using this
      have f4:Y.frozen? ⟨g,n*10+4,I⟩=false:=by have:=(bz.o.aZ (j:=4) (u:=U R e.mn) (by rw[aT.o.1];rfl)).2;rw[aX.o];simpa using this
      have q5:Y.cell? ⟨eb,5,I⟩=J (U R e.mx):=by simp[World.cell?,cL.o]
      have p5:Y.cell? ⟨g,n*10+5,I⟩=J (U R e.mx):=by have:=(bz.o.aZ (j:=5) (u:=U R e.mx) (by rw[aT.o.1];rfl)).1;rw[aX.o];simpa using this
      have f5:Y.frozen? ⟨g,n*10+5,I⟩=false:=by have:=(bz.o.aZ (j:=5) (u:=U R e.mx) (by rw[aT.o.1];rfl)).2;rw[aX.o];simpa using this
      have q6:Y.cell? ⟨eb,6,I⟩=J (af ga e.aB.length gc):=by simp[World.cell?,cL.o]
      have p6:Y.cell? ⟨g,n*10+6,I⟩=J (af ga e.aB.length gc):=by have:=(bz.o.aZ (j:=6) (u:=af ga e.aB.length gc) (by rw[aT.o.1];rfl)).1;rw[aX.o];simpa using this
      have f6:Y.frozen? ⟨g,n*10+6,I⟩=false:=by have:=(bz.o.aZ (j:=6) (u:=af ga e.aB.length gc) (by rw[aT.o.1];rfl)).2;rw[aX.o];simpa using this
      have q7:Y.cell? ⟨eb,7,I⟩=J (af ea e.aA.length ec):=by simp[World.cell?,cL.o]
      have p7:Y.cell? ⟨g,n*10+7,I⟩=J (af ea e.aA.length ec):=by have:=(bz.o.aZ (j:=7) (u:=af ea e.aA.length ec) (by rw[aT.o.1];rfl)).1;rw[aX.o];simpa using this
      have f7:Y.frozen? ⟨g,n*10+7,I⟩=false:=by have:=(bz.o.aZ (j:=7) (u:=af ea e.aA.length ec) (by rw[aT.o.1];rfl)).2;rw[aX.o];simpa using this
      have q8:Y.cell? ⟨eb,8,I⟩=J (af fa e.first.length fc):=by simp[World.cell?,cL.o]
      have p8:Y.cell? ⟨g,n*10+8,I⟩=J (af fa e.first.length fc):=by have:=(bz.o.aZ (j:=8) (u:=af fa e.first.length fc) (by rw[aT.o.1];rfl)).1;rw[aX.o];simpa using this
      have f8:Y.frozen? ⟨g,n*10+8,I⟩=false:=by have:=(bz.o.aZ (j:=8) (u:=af fa e.first.length fc) (by rw[aT.o.1];rfl)).2;rw[aX.o];simpa using this
      have q9:Y.cell? ⟨eb,9,I⟩=J (af la e.last.length lc):=by simp[World.cell?,cL.o]
      have p9:Y.cell? ⟨g,n*10+9,I⟩=J (af la e.last.length lc):=by have:=(bz.o.aZ (j:=9) (u:=af la e.last.length lc) (by rw[aT.o.1];rfl)).1;rw[aX.o];simpa using this
      have f9:Y.frozen? ⟨g,n*10+9,I⟩=false:=by have:=(bz.o.aZ (j:=9) (u:=af la e.last.length lc) (by rw[aT.o.1];rfl)).2;rw[aX.o];simpa using this
      go_wp2_with fail
      go_region
      all_goals
       obtain⟨Z,hZ⟩:∃Z,Z=((((((((((Y.setCell ⟨g,n*10,I⟩ (aq e.name)).setCell ⟨g,n*10+1,I⟩ (U R e.aJ)).setCell ⟨g,n*10+2,I⟩ (af (J ⟨g',0,I⟩) (e.ak.length+1) cap')).setCell ⟨g,n*10+3,I⟩ (U R e.cnt)).setCell ⟨g,n*10+4,I⟩ (U R e.mn)).setCell ⟨g,n*10+5,I⟩ (U R e.mx)).setCell ⟨g,n*10+6,I⟩ (af ga e.aB.length gc)).setCell ⟨g,n*10+7,I⟩ (af ea e.aA.length ec)).setCell ⟨g,n*10+8,I⟩ (af fa e.first.length fc)).setCell ⟨g,n*10+9,I⟩ (af la e.last.length lc)):=⟨_,rfl⟩;rw[<- hZ];have eP:aa (gO w0.heap.size rb L g cap Z c ⟨#[112,111,105,110,116]⟩ es { e with ak:=e.ak++[s0] } ({ x with p:=af (J ⟨g',0,I⟩) (e.ak.length+1) cap' }) cells):=by
        rw[hZ];exact bz.o.AP (by rw[aX.o]) (by rw[rO.o])
       have ey:aa (bD rb w0 Z):=by
        obtain⟨cur,-,rP⟩:=bz.o.grow;have hle:g=rb\/w0.heap.size<=g:=aP rP;show bD _ _ _
        rw[hZ];exact((((((((((iA.o.setCell (p:=⟨g,n*10,I⟩) hle _).setCell (p:=⟨g,n*10+1,I⟩) hle _).setCell (p:=⟨g,n*10+2,I⟩) hle _).setCell (p:=⟨g,n*10+3,I⟩) hle _).setCell (p:=⟨g,n*10+4,I⟩) hle _).setCell (p:=⟨g,n*10+5,I⟩) hle _).setCell (p:=⟨g,n*10+6,I⟩) hle _).setCell (p:=⟨g,n*10+7,I⟩) hle _).setCell (p:=⟨g,n*10+8,I⟩) hle _).setCell (p:=⟨g,n*10+9,I⟩) hle _)
       have rQ:aa (L<=Z.heap.size):=by show _<=_;rw[hZ];simpa[World.setCell]using rN.o
       clear hZ e4 q0 p0 f0 q1 p1 f1 q2 p2 f2 q3 p3 f3 q4 p4 f4 q5 p5 f5 q6 p6 f6 q7 p7 f7 q8 p8 f8 q9 p9 f9;go_wp2;go_ret
       refine⟨by rw[ft.o];rfl,ey.o.drew,λ_=>aP ⟨L,g,cap,es,{ e with ak:=e.ak++[s0] },({ x with p:=af (J ⟨g',0,I⟩) (e.ak.length+1) cap' }),cells,?_,rQ.o,?_⟩⟩
       ·rw[mV.o,show (aY (bq e.ak) false (form 4) [bl s0]).2=_ from lR.o];exact(by simp only[ed];rw[pj.o,pD];rw[show jQ 4 [bl s0] [v0] e={ e with ak:=e.ak++[s0] }from by simp only[jQ];rw[show (⟨(([bl s0]:List Bs).getD 0 []).toArray⟩:ByteArray)=s0 from lC (by rw[qh];rfl)]])
       exact gO.cfg (bX.below eP.o (aC _ _).drew) (λ_ _=>rfl)
  have HE:aa (bR last c 4 ws=1):=by show _=_;rw[HK.o];exact rL _ _ _ (by rw[<- HM.o.2,fL];exact hN)
  have mN:¬(m:Int)=1+1:=by have:=HM.o.1;omega
  clear hN;go_wp2;go_ret;exact⟨by rw[HE.o];rfl,bK.o _ (aC _ _),λh0=>by rw[HE.o]at h0;cases h0⟩
theorem ahA(w0 w:ai)(rb:Nat)(c:aS)(last:Int)(l:ByteArray)(ws:List Bs)(hb0:bD rb w0 w)(h:eO w0.heap.size rb w c (cf last))(hl:l.size<=1000000)(l0:-1<=last)(l9:last<=9)(hO:gZ 1000000 c last)(hcut:bW 32 (bl l)=kw 5::ws):Calls prog 16 #[aj (J ⟨rb,0,I⟩),aq l] w λv w'=>v=ax (U R (bR last c 5 ws:Nat))/\bD rb w0 w'/\(bR last c 5 ws=0->eO w0.heap.size rb w' (ed c 5 ws (aY (bq (bO c.aw)) false (form 5) ws).2) (eN 5)):=by
 obtain⟨i0,hi,hz0,hz1,hz2⟩:=fj ny;have HS:aa (bD rb w0 w/\eO w0.heap.size rb w c (cf last)):=⟨hb0,h⟩;have HO:aa (gZ 1000000 c last):=hO;have gD:aa (Calls prog 15 #[aq l,U .u8 32] w λe w'=>∃(wt:List ByteArray) (g cap m:Nat),e=ax (af (J ⟨g,0,I⟩) m cap)/\m=wt.length+1/\wt.map bl=ws/\w'.ownsRow w.heap.size 9 1 (af (J ⟨g,0,I⟩) m cap) m ((⟨#[99,111,117,110,116]⟩::wt).flatMap bS)/\Below w.heap.size w w'):=by
  refine(pZ l 32 w hl).mono ?_;rintro e w' ⟨wl,g,cap,rfl,h1,h2,h3⟩;rw[hcut]at h1;obtain⟨wt,rfl,h4⟩:=tz h1;exact⟨wt,g,cap,_,rfl,rfl,h4,h2,h3⟩
 have gP:aa (∀V,Below w.heap.size w V->Calls prog 53 #[aj (J ⟨rb,0,I⟩),aq ⟨#[99,111,117,110,116]⟩] V λe w'=>e=ax (aI (may last 5))/\Below V.heap.size V w'):=λV hV=>by
  have hc:V.cell? ⟨rb,5,I⟩=J (aq (cf last)):=by
   rcases h.below hV with h1|⟨_,_,_,_,_,_,_,_,_,h1⟩
   ·have:=h1.row;simp[World.cell?,this,bV]
   have:=h1.row;simp[World.cell?,this,bV]
  exact rJ rb last (eN 5) V l0 l9 hc
 clear hb0 h hl l0 l9 hO hcut;go_enter func16,ntmps16
 go_wp2_with fail
 refine aL gD.o ?_;rintro v w1 ⟨wt,wg,wc,m,rfl,hm,fq,hown,hb1⟩;have aO:aa (Below w.heap.size w w1):=hb1;have lQ:aa (w.heap.size<=wg):=by
  show _<=_
  exact(hown.lt wg rfl).1
 have HW:aa (∀V,Below w1.heap.size w1 V->∀j s,(⟨#[99,111,117,110,116]⟩::wt)[j]?=J s->V.cell? ⟨wg,j,I⟩=J (aq s)):=λV hV j s hj=>aG hV (qE hown j s hj)
 have HM:aa (m=wt.length+1/\wt.map bl=ws):=⟨hm,fq⟩;have c0:w1.cell? ⟨wg,0,I⟩=J (aq ⟨#[99,111,117,110,116]⟩):=HW.o w1 (aC _ _) 0 _ rfl;have m0:(0:Int)<(m:Int):=by omega
 clear hm fq hown hb1 gD;go_wp2_with fail
 refine aL (gP.o w1 aO.o) ?_;rintro v w2 ⟨rfl,hb2⟩;have aW:aa (Below w.heap.size w w2):=aO.o.trans (hb2.mono aO.o.size);have bL:aa (Below w1.heap.size w1 w2):=hb2;have bK:aa (∀V,Below w2.heap.size w2 V->bD rb w0 V):=λV hV=>HS.o.1.trans ((aW.o.trans (hV.mono aW.o.size)).mono HS.o.1.size)
 clear hb2 gP c0
 cases cZ:may last 5 with
 |false=>
  have HE:aa (bR last c 5 ws=1):=tr cZ;clear cZ;go_wp2;go_ret;exact⟨by rw[HE.o];rfl,bK.o _ (aC _ _),λh0=>by rw[HE.o]at h0;cases h0⟩
 |true=>
  have HY:aa (may last 5=true):=cZ;have HK:aa (bR last c 5 ws=(aY (bq (bO c.aw)) false (form 5) ws).1):=tu cZ;clear cZ
  by_cases hN:wt.length=3
  ·obtain⟨s0,s1,s2,rfl⟩:∃s0 s1 s2,wt=[s0,s1,s2]:=by
    match wt,hN with
    |[s0,s1,s2],_=>exact⟨s0,s1,s2,rfl⟩
   obtain rfl:ws=[bl s0,bl s1,bl s2]:=HM.o.2.symm.trans rfl;obtain rfl:m=3+1:=HM.o.1;clear HM hN;obtain⟨L,g,cap,es,e,x,cells,hce,eG,hD⟩:∃L g cap es e x cells,c.aw=es++[e]/\L<=w.heap.size/\gO w0.heap.size rb L g cap w c (cf last) es e x cells:=by
    rcases HS.o.2 with h1|h1
    ·exact absurd h1.nil (HO.o.e3 (yD (by decide) HY.o))
    exact h1
   have pj:aa (c.aw=es++[e]):=hce;have np:aa (L<=w.heap.size):=eG;have mV:aa (bO c.aw=e.ak):=by show _=_;rw[hce];exact yx _ _
   rw[mV.o]at HK;have H1:aa (∀V,Below w.heap.size w V->gO w0.heap.size rb L g cap V c (cf last) es e x cells):=λV hV=>bX.below hD hV
   obtain⟨pa,pc,eu⟩:=cJ hD.new.hp;have rM:aa (x.p=af pa e.ak.length pc):=eu;have fK:aa (es.length<1000000/\nM 1000000 e):=⟨by have:=HO.o.len;rw[hce,dm]at this;simp at this;omega,HO.o.sz e (by rw[hce];simp)⟩;obtain⟨n,hn⟩:∃n,n=es.length:=⟨_,rfl⟩;have aX:aa (n=es.length):=hn;have Dw:n<1000000:=by have:=fK.o.1;omega
   have Dx:(n:Int)<(n:Int)+1:=by omega
   have Dy:¬(n:Int)<0:=by omega
   have kD:aa (∀V,Below w.heap.size w V->V.cell? ⟨rb,4,I⟩=J (af (J ⟨g,0,I⟩) (n+1) cap)):=λV hV=>by have:=(H1.o V hV).row;rw[hn];simp[World.cell?,this,bV]
   have iy:aa (∀V,Below w.heap.size w V->V.cell? ⟨g,n*10+2,I⟩=J (af pa e.ak.length pc)):=λV hV=>by rw[hn,<- eu];exact((H1.o V hV).aZ (j:=2) rfl).1
   have qG:aa (∀s V,Below w.heap.size w V->Calls prog 55 #[af pa e.ak.length pc,aq s] V λe' w'=>e'=ax (U R (idxOf e.ak s))/\w'=V):=λs V hV=>wk e.ak s pa pc V (by rw[<- eu];exact bU.jc (enc:=bS) (H1.o V hV).new.hp (λ_=>rfl)) fK.o.2.p
   have e4:=kD.o w2 aW.o;clear hce eG hD eu hn;go_wp2_with fail
   go_loopw [9,10,11,12] (λnv ov iv _ wr=>∃(j:Nat) (nn:Bool) (vs:List Int) (na:Option az) (nc:Nat),j<=3/\iv=U R j/\ov=aI nn/\nv=af na j nc/\wr.ownsRow w2.heap.size 3 1 (af na j nc) j (vs.flatMap bm)/\Below w2.heap.size w2 wr/\dR (bq e.ak) [2,1,1] [bl s0,bl s1,bl s2] j nn vs) (λ_ _ iv _ _=>3-(intOf iv).toNat)
   case atStart=>exact⟨0,false,[],I,0,bI _,rfl,rfl,rfl,fC _ _ _ _,aC _ _,dR.start _ _ _⟩
   case round=>
    obtain⟨j,nn,vs,na,nc,hj,rfl,rfl,rfl,hown,hb,hf⟩:=hrel;have HB:aa (Below w2.heap.size w2 wr):=hb;have bE:aa (wr.ownsRow w2.heap.size 3 1 (af na j nc) j (vs.flatMap bm)):=hown;have HF:aa (dR (bq e.ak) [2,1,1] [bl s0,bl s1,bl s2] j nn vs):=hf;clear hb hown hf e4
    by_cases hlt:j<3
    ·clear hj
     rcases(show j=0\/j=1\/j=2 by omega)with rfl|rfl|rfl
     clear hlt
     ·have e5:=kD.o wr (aW.o.trans (HB.o.mono aW.o.size));have e6:=iy.o wr (aW.o.trans (HB.o.mono aW.o.size));have d0:=HW.o wr (bL.o.trans (HB.o.mono bL.o.size)) 1 s0 rfl;have jN:aa (∀q,Calls prog 55 #[af pa e.ak.length pc,aq s0] (wr.drewN q) λe' w'=>e'=ax (U R (idxOf e.ak s0))/\w'=wr.drewN q):=λq=>qG.o s0 _ (aW.o.trans ((cg HB.o q).mono aW.o.size))
      have kT:aa (¬s0=⟨#[]⟩->_):=@yM e.ak s0;generalize idxOf e.ak s0=z at *;go_upto_region 38 with fail
      go_cut [12] (λxv wv=>xv=U R z/\Below w2.heap.size w2 wv/\wv.ownsRow w2.heap.size 3 1 (af na 0 nc) 0 (vs.flatMap bm))
      case first=>
       go_wp2_with fail
       go_quiet (first|(go_at_call 55;exact o8 (jN.o _)))
       go_wp2_with fail
       go_meet
       case rel=>exact⟨rfl,cg HB.o _,bE.o⟩
      obtain⟨rfl,fk,ji⟩:=hcut;clear HB bE jN e5 e6 d0;rename ai=>wr
      have HB:aa (Below w2.heap.size w2 wr):=fk;have bE:aa (wr.ownsRow w2.heap.size 3 1 (af na 0 nc) 0 (vs.flatMap bm)):=ji;clear fk ji;have d0:=HW.o wr (bL.o.trans (HB.o.mono bL.o.size)) 1 s0 rfl
      by_cases d_:s0=⟨#[]⟩
      ·have HE:aa (bR last c 5 [bl s0,bl s1,bl s2]=1):=by show _=_;rw[HK.o];exact HF.o.bad rfl rfl (by rw[d_];exact uZ)
       obtain⟨n1,n2⟩:=nO d_;clear d_
       by_cases z0:z<0
       ·go_wp2;go_ret;exact⟨by rw[HE.o];rfl,bK.o _ HB.o,λh0=>by rw[HE.o]at h0;cases h0⟩
       go_wp2;go_ret;exact⟨by rw[HE.o];rfl,bK.o _ HB.o,λh0=>by rw[HE.o]at h0;cases h0⟩
      have iU:aa _:=kT.o d_;obtain⟨n1,n2⟩:=eM d_;clear d_
      by_cases z0:z<0
      ·have HZ:aa ((bF (bq e.ak) 2 (bl s0)).1=5):=by show _=_;rw[iU.o.1,aR z0]
       go_wp2_with (at_builtin;refine fw _ rfl _ _ 65 rfl w2.heap.size 3 i0 (U R 0) 1 8 underlying65 hi hz0 hz1 hz2 rfl (by decide) (af na 0 nc) 0 (vs.flatMap bm) rfl (bE.o.alloc _) ⟨wr.heap.size,0,.none⟩ 1 1 [U R z] rfl rfl (h_ _ _ _) (by intro u hu;simp at hu;subst hu;rfl) (by unfold maxLen;omega) (by omega) (by have:=HB.o.size;simp;omega) ?_;intro v1 w4 hown1 dh ij)
       obtain⟨dS,df,cC⟩:=cJ hown1;subst cC;go_roundw
       case rel=>exact⟨0+1,true,vs++[z],dS,df,by omega,rfl,rfl,rfl,by simpa[dP,bm]using hown1,(HB.o.alloc HB.o.size _).grown dh (by have:=HB.o.size;simp;omega) (λq hq=>(bE.o.lt q hq).1),HF.o.next rfl rfl true z (by rw[HZ.o];decide) (by rw[HZ.o];simp) (λh0=>by cases h0)⟩
       case measure=>simp[intOf]
      have HZ:aa ((bF (bq e.ak) 2 (bl s0)).1=0/\(bF (bq e.ak) 2 (bl s0)).2=z):=⟨by rw[iU.o.1,aK z0],iU.o.2 (by omega)⟩;go_wp2_with (at_builtin;refine fw _ rfl _ _ 65 rfl w2.heap.size 3 i0 (U R 0) 1 8 underlying65 hi hz0 hz1 hz2 rfl (by decide) (af na 0 nc) 0 (vs.flatMap bm) rfl (bE.o.alloc _) ⟨wr.heap.size,0,.none⟩ 1 1 [U R z] rfl rfl (h_ _ _ _) (by intro u hu;simp at hu;subst hu;rfl) (by unfold maxLen;omega) (by omega) (by have:=HB.o.size;simp;omega) ?_;intro v1 w4 hown1 dh ij)
      obtain⟨dS,df,cC⟩:=cJ hown1;subst cC;go_roundw
      case rel=>exact⟨0+1,nn,vs++[z],dS,df,by omega,rfl,rfl,rfl,by simpa[dP,bm]using hown1,(HB.o.alloc HB.o.size _).grown dh (by have:=HB.o.size;simp;omega) (λq hq=>(bE.o.lt q hq).1),HF.o.next rfl rfl nn z (by rw[HZ.o.1];decide) (by rw[HZ.o.1];simp) (λ_=>HZ.o.2.symm)⟩
      case measure=>simp[intOf]
     ·have d1:=HW.o wr (bL.o.trans (HB.o.mono bL.o.size)) 2 s1 rfl;have jm:aa _:=uX s1 wr;go_wp2_with fail
      refine aL jm.o ?_;rintro v w3 ⟨rfl,hw3⟩;rw[hw3];clear hw3 w3;have dF:aa _:=@uY (bq e.ak) s1;clear jm;generalize kV (bl s1)=z at *
      by_cases z0:z<0
      ·have HE:aa (bR last c 5 [bl s0,bl s1,bl s2]=1):=by show _=_;rw[HK.o];exact HF.o.bad rfl rfl (by rw[dF.o.1,aR z0])
       go_wp2;go_ret;exact⟨by rw[HE.o];rfl,bK.o _ HB.o,λh0=>by rw[HE.o]at h0;cases h0⟩
      have z1:0<=z:=by omega
      obtain⟨n1,n2⟩:=eM (dF.o.2 z1).2;go_wp2_with (at_builtin;refine fw _ rfl _ _ 65 rfl w2.heap.size 3 i0 (U R 0) 1 8 underlying65 hi hz0 hz1 hz2 rfl (by decide) (af na 1 nc) 1 (vs.flatMap bm) rfl (bE.o.alloc _) ⟨wr.heap.size,0,.none⟩ 1 1 [U R z] rfl rfl (h_ _ _ _) (by intro u hu;simp at hu;subst hu;rfl) (by unfold maxLen;omega) (by omega) (by have:=HB.o.size;simp;omega) ?_;intro v1 w4 hown1 dh ij)
      obtain⟨dS,df,cC⟩:=cJ hown1;subst cC;go_roundw
      case rel=>exact⟨1+1,nn,vs++[z],dS,df,by omega,rfl,rfl,rfl,by simpa[dP,bm]using hown1,(HB.o.alloc HB.o.size _).grown dh (by have:=HB.o.size;simp;omega) (λq hq=>(bE.o.lt q hq).1),HF.o.next rfl rfl nn z (by rw[dF.o.1,aK (by omega)];decide) (by rw[dF.o.1,aK (by omega)];simp) (λ_=>(dF.o.2 z1).1.symm)⟩
      case measure=>simp[intOf]
     have d2:=HW.o wr (bL.o.trans (HB.o.mono bL.o.size)) 3 s2 rfl;have jm:aa _:=uX s2 wr;go_wp2_with fail
     refine aL jm.o ?_;rintro v w3 ⟨rfl,hw3⟩;rw[hw3];clear hw3 w3;have dF:aa _:=@uY (bq e.ak) s2;clear jm;generalize kV (bl s2)=z at *
     by_cases z0:z<0
     ·have HE:aa (bR last c 5 [bl s0,bl s1,bl s2]=1):=by show _=_;rw[HK.o];exact HF.o.bad rfl rfl (by rw[dF.o.1,aR z0])
      go_wp2;go_ret;exact⟨by rw[HE.o];rfl,bK.o _ HB.o,λh0=>by rw[HE.o]at h0;cases h0⟩
     have z1:0<=z:=by omega
     obtain⟨n1,n2⟩:=eM (dF.o.2 z1).2;go_wp2_with (at_builtin;refine fw _ rfl _ _ 65 rfl w2.heap.size 3 i0 (U R 0) 1 8 underlying65 hi hz0 hz1 hz2 rfl (by decide) (af na 2 nc) 2 (vs.flatMap bm) rfl (bE.o.alloc _) ⟨wr.heap.size,0,.none⟩ 1 1 [U R z] rfl rfl (h_ _ _ _) (by intro u hu;simp at hu;subst hu;rfl) (by unfold maxLen;omega) (by omega) (by have:=HB.o.size;simp;omega) ?_;intro v1 w4 hown1 dh ij)
     obtain⟨dS,df,cC⟩:=cJ hown1;subst cC;go_roundw
     case rel=>exact⟨2+1,nn,vs++[z],dS,df,by omega,rfl,rfl,rfl,by simpa[dP,bm]using hown1,(HB.o.alloc HB.o.size _).grown dh (by have:=HB.o.size;simp;omega) (λq hq=>(bE.o.lt q hq).1),HF.o.next rfl rfl nn z (by rw[dF.o.1,aK (by omega)];decide) (by rw[dF.o.1,aK (by omega)];simp) (λ_=>(dF.o.2 z1).1.symm)⟩
     case measure=>simp[intOf]
    obtain rfl:j=3:=by omega
    clear hlt hj;obtain⟨cA,fu⟩:=(show dR (bq e.ak) [2,1,1] [bl s0,bl s1,bl s2] ([2,1,1]:List Nat).length nn vs from HF.o).done rfl
    cases nn with
    |true=>
     have HE:aa (bR last c 5 [bl s0,bl s1,bl s2]=5):=by show _=_;rw[HK.o];exact cA
     clear cA fu;go_wp2;go_ret;exact⟨by rw[HE.o];rfl,bK.o _ HB.o,λh0=>by rw[HE.o]at h0;cases h0⟩
    |false=>
     have ft:aa (bR last c 5 [bl s0,bl s1,bl s2]=0):=by show _=_;rw[HK.o];exact cA
     have lR:aa ((aY (bq e.ak) false [2,1,1] [bl s0,bl s1,bl s2]).2=vs):=fu rfl;have hlen:=HF.o.len;clear cA fu;obtain⟨v0,v1,v2,rfl⟩:∃v0 v1 v2,vs=[v0,v1,v2]:=by
      match vs,hlen with
      |[v0,v1,v2],_=>exact⟨v0,v1,v2,rfl⟩
     obtain⟨ng,df,ki⟩:=rK bE.o
     cases ki
     have lS:aa (w2.heap.size<=ng):=by show _<=_;exact(bE.o.lt ng rfl).1
     have x0:=mq bE.o 0 v0 rfl;have x1:=mq bE.o 1 v1 rfl;have x2:=mq bE.o 2 v2 rfl;have cY:aa (Below w.heap.size w wr):=aW.o.trans (HB.o.mono aW.o.size);have d0:=HW.o wr (bL.o.trans (HB.o.mono bL.o.size)) 0 _ rfl;have d1:=HW.o wr (bL.o.trans (HB.o.mono bL.o.size)) 1 _ rfl;have d2:=HW.o wr (bL.o.trans (HB.o.mono bL.o.size)) 2 _ rfl;have d3:=HW.o wr (bL.o.trans (HB.o.mono bL.o.size)) 3 _ rfl;clear hlen HF;have hbase:=H1.o wr cY.o;have qz:rb<w.heap.size:=bJ (H1.o w (aC _ _)).row;have wO:g<w.heap.size:=by obtain⟨cur,h1,-⟩:=(H1.o w (aC _ _)).grow;exact bJ h1
     have eH:¬rb=wg:=by have:=lQ.o;omega
     have u_:¬wg=rb:=λe2=>eH e2.symm
     have gF:¬rb=ng:=by have:=aW.o.size;have:=lS.o;omega
     have ve:¬ng=rb:=λe2=>gF e2.symm
     have hrow:=hbase.row;have r5:wr.cell? ⟨rb,5,I⟩=J (aq (cf last)):=by simp[World.cell?,hrow,bV]
     have f5:wr.frozen? ⟨rb,5,I⟩=false:=by simp[World.frozen?,hrow]
     clear hrow;go_upto_region 62 with fail
     obtain⟨Wz,cB⟩:∃V,V=wr.setCell ⟨rb,5,I⟩ (aq ⟨#[99,111,117,110,116]⟩):=⟨_,rfl⟩;rw[<- cB];have bP:aa (bX w0.heap.size rb L g cap Wz c ⟨#[99,111,117,110,116]⟩ es (x.row e).toList e x cells):=by rw[cB];exact bX.pk hbase 5 (aq ⟨#[99,111,117,110,116]⟩) rfl
     have jh:aa (bD rb w0 Wz):=by rw[cB];exact(bK.o _ HB.o).setCell (p:=⟨rb,5,I⟩) hbase.lo _
     have mW:aa (w.heap.size<=Wz.heap.size):=by show _<=_;rw[cB];have:=cY.o.size;simpa[World.setCell]using this
     have y0:Wz.cell? ⟨wg,0,I⟩=J (aq ⟨#[99,111,117,110,116]⟩):=by rw[cB,eD (a_ eH) rfl rfl];exact d0
     have y1:Wz.cell? ⟨wg,1,I⟩=J (aq s0):=by rw[cB,eD (a_ eH) rfl rfl];exact d1
     have y2:Wz.cell? ⟨wg,2,I⟩=J (aq s1):=by rw[cB,eD (a_ eH) rfl rfl];exact d2
     have y3:Wz.cell? ⟨wg,3,I⟩=J (aq s2):=by rw[cB,eD (a_ eH) rfl rfl];exact d3
     have u0:Wz.cell? ⟨ng,0,I⟩=J (U R v0):=by rw[cB,eD (a_ gF) rfl rfl];exact x0
     have u1:Wz.cell? ⟨ng,1,I⟩=J (U R v1):=by rw[cB,eD (a_ gF) rfl rfl];exact x1
     have u2:Wz.cell? ⟨ng,2,I⟩=J (U R v2):=by rw[cB,eD (a_ gF) rfl rfl];exact x2
     clear cB r5 f5 hbase d0 d1 d2 d3 x0 x1 x2;obtain⟨ga,gc,il⟩:=cJ bP.o.new.hg;obtain⟨ea,ec,kj⟩:=cJ bP.o.new.he;obtain⟨fa,fc,fx⟩:=cJ bP.o.new.hf;obtain⟨la,lc,iL⟩:=cJ bP.o.new.hl;have aT:aa (x.row e=#[aq e.name,U R e.aJ,af pa e.ak.length pc,U R e.cnt,U R e.mn,U R e.mx,af ga e.aB.length gc,af ea e.aA.length ec,af fa e.first.length fc,af la e.last.length lc]/\x=⟨af pa e.ak.length pc,af ga e.aB.length gc,af ea e.aA.length ec,af fa e.first.length fc,af la e.last.length lc⟩):=by
      have eu:=rM.o;obtain⟨xp,xg,xe,xf,xl⟩:=x;simp only at eu il kj fx iL;subst eu il kj fx iL;exact⟨rfl,rfl⟩
     clear il kj fx iL;have e4:Wz.cell? ⟨rb,4,I⟩=J (af (J ⟨g,0,I⟩) (n+1) cap):=by have:=bP.o.row;rw[aX.o];simp[World.cell?,this,bV]
     have q0:Wz.cell? ⟨g,n*10,I⟩=J (aq e.name):=by have:=(bP.o.aZ (j:=0) (u:=aq e.name) (by rw[aT.o.1];rfl)).1;rw[aX.o];simpa using this
     have q1:Wz.cell? ⟨g,n*10+1,I⟩=J (U R e.aJ):=by have:=(bP.o.aZ (j:=1) (u:=U R e.aJ) (by rw[aT.o.1];rfl)).1;rw[aX.o];simpa using this
     have q2:Wz.cell? ⟨g,n*10+2,I⟩=J (af pa e.ak.length pc):=by have:=(bP.o.aZ (j:=2) (u:=af pa e.ak.length pc) (by rw[aT.o.1];rfl)).1;rw[aX.o];simpa using this
     have q3:Wz.cell? ⟨g,n*10+3,I⟩=J (U R e.cnt):=by have:=(bP.o.aZ (j:=3) (u:=U R e.cnt) (by rw[aT.o.1];rfl)).1;rw[aX.o];simpa using this
     have q4:Wz.cell? ⟨g,n*10+4,I⟩=J (U R e.mn):=by have:=(bP.o.aZ (j:=4) (u:=U R e.mn) (by rw[aT.o.1];rfl)).1;rw[aX.o];simpa using this
     have q5:Wz.cell? ⟨g,n*10+5,I⟩=J (U R e.mx):=by have:=(bP.o.aZ (j:=5) (u:=U R e.mx) (by rw[aT.o.1];rfl)).1;rw[aX.o];simpa using this
     have q6:Wz.cell? ⟨g,n*10+6,I⟩=J (af ga e.aB.length gc):=by have:=(bP.o.aZ (j:=6) (u:=af ga e.aB.length gc) (by rw[aT.o.1];rfl)).1;rw[aX.o];simpa using this
     have q7:Wz.cell? ⟨g,n*10+7,I⟩=J (af ea e.aA.length ec):=by have:=(bP.o.aZ (j:=7) (u:=af ea e.aA.length ec) (by rw[aT.o.1];rfl)).1;rw[aX.o];simpa using this
     have q8:Wz.cell? ⟨g,n*10+8,I⟩=J (af fa e.first.length fc):=by have:=(bP.o.aZ (j:=8) (u:=af fa e.first.length fc) (by rw[aT.o.1];rfl)).1;rw[aX.o];simpa using this
     have q9:Wz.cell? ⟨g,n*10+9,I⟩=J (af la e.last.length lc):=by have:=(bP.o.aZ (j:=9) (u:=af la e.last.length lc) (by rw[aT.o.1];rfl)).1;rw[aX.o];simpa using this
     go_upto_region 63 with fail
     obtain⟨V,hV⟩:∃V,V=Wz.alloc (au #[aq e.name,U R e.aJ,af pa e.ak.length pc,U R e.cnt,U R e.mn,U R e.mx,af ga e.aB.length gc,af ea e.aA.length ec,af fa e.first.length fc,af la e.last.length lc] 84):=⟨_,rfl⟩;rw[<- hV];obtain⟨eb,km⟩:∃b,b=Wz.heap.size:=⟨_,rfl⟩;rw[<- km];have dG:aa (Below Wz.heap.size Wz V):=by show Below _ _ _;rw[hV];exact aN _ _
     have jz:aa (bX w0.heap.size rb L g cap V c ⟨#[99,111,117,110,116]⟩ es (x.row e).toList e x cells):=bP.o.below dG.o;have gC:aa (bD rb w0 V):=jh.o.trans (dG.o.mono jh.o.size);have jO:aa (V.heap[eb]?=J (au #[aq e.name,U R e.aJ,af pa e.ak.length pc,U R e.cnt,U R e.mn,U R e.mx,af ga e.aB.length gc,af ea e.aA.length ec,af fa e.first.length fc,af la e.last.length lc] 84 (0,0))):=by show _=_;rw[hV,km];exact cR Wz _
     have lT:aa (eb≠g/\eb≠rb/\w.heap.size<=eb):=by have:=mW.o;exact⟨by omega,by omega,by omega⟩
     have nP:aa (L<=V.heap.size):=bw np.o (bw mW.o dG.o.size);have zV:aa (¬eb=wg/\¬eb=ng):=⟨λe2=>by have h1:=fY y0;simp only at h1;omega,λe2=>by have h1:=fY u0;simp only at h1;omega⟩;have y0:=aG dG.o y0;have y1:=aG dG.o y1;have y2:=aG dG.o y2;have y3:=aG dG.o y3;have u0:=aG dG.o u0;have u1:=aG dG.o u1;have u2:=aG dG.o u2;clear hV km e4 q0 q1 q2 q3 q4 q5 q6 q7 q8 q9;have q3:V.cell? ⟨eb,3,I⟩=J (U R e.cnt):=by simp[World.cell?,jO.o]
     have f3:V.frozen? ⟨eb,3,I⟩=false:=by simp[World.frozen?,jO.o]
     have q4:V.cell? ⟨eb,4,I⟩=J (U R e.mn):=by simp[World.cell?,jO.o]
     have f4:V.frozen? ⟨eb,4,I⟩=false:=by simp[World.frozen?,jO.o]
     have q5:V.cell? ⟨eb,5,I⟩=J (U R e.mx):=by simp[World.cell?,jO.o]
     have f5:V.frozen? ⟨eb,5,I⟩=false:=by simp[World.frozen?,jO.o]
     have AH:¬eb=wg:=zV.o.1;have FO:¬wg=eb:=λe2=>AH e2.symm
     have ahB:¬eb=ng:=zV.o.2;have ajG:¬ng=eb:=λe2=>ahB e2.symm
     go_upto_region 78 with fail
     obtain⟨Y,hY⟩:∃Y,Y=((V.setCell ⟨eb,3,I⟩ (U R v0)).setCell ⟨eb,4,I⟩ (U R v1)).setCell ⟨eb,5,I⟩ (U R v2):=⟨_,rfl⟩;rw[<- hY];have bz:aa (bX w0.heap.size rb L g cap Y c ⟨#[99,111,117,110,116]⟩ es (x.row e).toList { e with cnt:=v0,mn:=v1,mx:=v2 } x cells):=by
      rw[hY];have h1:=jz.o.qR eb 3 (U R v0) jO.o lT.o.1;have k1:=p_ (j:=3) jO.o (U R v0);have h2:=h1.qR eb 4 (U R v1) k1 lT.o.1;have k2:=p_ (j:=4) k1 (U R v1);have h3:=h2.qR eb 5 (U R v2) k2 lT.o.1;exact⟨h3.lo,h3.jL,h3.row,h3.aw,h3.w9,h3.iz,h3.olds,⟨h3.new.hp,h3.new.hg,h3.new.he,h3.new.hf,h3.new.hl⟩,h3.fl⟩
     have cL:aa (Y.heap[eb]?=J (au #[aq e.name,U R e.aJ,af pa e.ak.length pc,U R v0,U R v1,U R v2,af ga e.aB.length gc,af ea e.aA.length ec,af fa e.first.length fc,af la e.last.length lc] 84 (0,0))):=by
      show _=_
      rw[hY];exact p_ (p_ (p_ jO.o _) _) _
     have iA:aa (bD rb w0 Y):=by
      show bD _ _ _
      rw[hY];have hle:eb=rb\/w0.heap.size<=eb:=aP (bw HS.o.1.size lT.o.2.2);exact((gC.o.setCell (p:=⟨eb,3,I⟩) hle _).setCell (p:=⟨eb,4,I⟩) hle _).setCell (p:=⟨eb,5,I⟩) hle _
     have rN:aa (L<=Y.heap.size):=by show _<=_;rw[hY];simpa[World.setCell]using nP.o
     have rO:aa (x.row { e with cnt:=v0,mn:=v1,mx:=v2 }=#[aq e.name,U R e.aJ,af pa e.ak.length pc,U R v0,U R v1,U R v2,af ga e.aB.length gc,af ea e.aA.length ec,af fa e.first.length fc,af la e.last.length lc]):=by show _=_;rw[aT.o.2];rfl
     clear hY q3 q4 q5 f3 f4 f5 y0 y1 y2 y3 u0 u1 u2;have e4:Y.cell? ⟨rb,4,I⟩=J (af (J ⟨g,0,I⟩) (n+1) cap):=by have:=bz.o.row;rw[aX.o];simp[World.cell?,this,bV]
     have q0:Y.cell? ⟨eb,0,I⟩=J (aq e.name):=by simp[World.cell?,cL.o]
     have p0:Y.cell? ⟨g,n*10,I⟩=J (aq e.name):=by have:=(bz.o.aZ (j:=0) (u:=aq e.name) (by rw[aT.o.1];rfl)).1;rw[aX.o];simpa using this
     have f0:Y.frozen? ⟨g,n*10,I⟩=false:=by have:=(bz.o.aZ (j:=0) (u:=aq e.name) (by rw[aT.o.1];rfl)).2;rw[aX.o];simpa using this
     have q1:Y.cell? ⟨eb,1,I⟩=J (U R e.aJ):=by simp[World.cell?,cL.o]
     have p1:Y.cell? ⟨g,n*10+1,I⟩=J (U R e.aJ):=by have:=(bz.o.aZ (j:=1) (u:=U R e.aJ) (by rw[aT.o.1];rfl)).1;rw[aX.o];simpa using this
     have f1:Y.frozen? ⟨g,n*10+1,I⟩=false:=by have:=(bz.o.aZ (j:=1) (u:=U R e.aJ) (by rw[aT.o.1];rfl)).2;rw[aX.o];simpa using this
     have q2:Y.cell? ⟨eb,2,I⟩=J (af pa e.ak.length pc):=by simp[World.cell?,cL.o]
     have p2:Y.cell? ⟨g,n*10+2,I⟩=J (af pa e.ak.length pc):=by have:=(bz.o.aZ (j:=2) (u:=af pa e.ak.length pc) (by rw[aT.o.1];rfl)).1;rw[aX.o];simpa using this
     have f2:Y.frozen? ⟨g,n*10+2,I⟩=false:=by have:=(bz.o.aZ (j:=2) (u:=af pa e.ak.length pc) (by rw[aT.o.1];rfl)).2;rw[aX.o];simpa using this
     have q3:Y.cell? ⟨eb,3,I⟩=J (U R v0):=by simp[World.cell?,cL.o]
     have p3:Y.cell? ⟨g,n*10+3,I⟩=J (U R e.cnt):=by have:=(bz.o.aZ (j:=3) (u:=U R e.cnt) (by rw[aT.o.1];rfl)).1;rw[aX.o];simpa using this
     have f3:Y.frozen? ⟨g,n*10+3,I⟩=false:=by have:=(bz.o.aZ (j:=3) (u:=U R e.cnt) (by rw[aT.o.1];rfl)).2;rw[aX.o];simpa using this
     have q4:Y.cell? ⟨eb,4,I⟩=J (U R v1):=by simp[World.cell?,cL.o]
     have p4:Y.cell? ⟨g,n*10+4,I⟩=J (U R e.mn):=by have:=(bz.o.aZ (j:=4) (u:=U R e.mn) (by rw[aT.o.1];rfl)).1;rw[aX.o];simpa using this
     have f4:Y.frozen? ⟨g,n*10+4,I⟩=false:=by have:=(bz.o.aZ (j:=4) (u:=U R e.mn) (by rw[aT.o.1];rfl)).2;rw[aX.o];simpa using this
     have q5:Y.cell? ⟨eb,5,I⟩=J (U R v2):=by simp[World.cell?,cL.o]
     have p5:Y.cell? ⟨g,n*10+5,I⟩=J (U R e.mx):=by have:=(bz.o.aZ (j:=5) (u:=U R e.mx) (by rw[aT.o.1];rfl)).1;rw[aX.o];simpa using this
     have f5:Y.frozen? ⟨g,n*10+5,I⟩=false:=by have:=(bz.o.aZ (j:=5) (u:=U R e.mx) (by rw[aT.o.1];rfl)).2;rw[aX.o];simpa using this
     have q6:Y.cell? ⟨eb,6,I⟩=J (af ga e.aB.length gc):=by simp[World.cell?,cL.o]
     have p6:Y.cell? ⟨g,n*10+6,I⟩=J (af ga e.aB.length gc):=by have:=(bz.o.aZ (j:=6) (u:=af ga e.aB.length gc) (by rw[aT.o.1];rfl)).1;rw[aX.o];simpa using this
     have f6:Y.frozen? ⟨g,n*10+6,I⟩=false:=by have:=(bz.o.aZ (j:=6) (u:=af ga e.aB.length gc) (by rw[aT.o.1];rfl)).2;rw[aX.o];simpa using this
     have q7:Y.cell? ⟨eb,7,I⟩=J (af ea e.aA.length ec):=by simp[World.cell?,cL.o]
     have p7:Y.cell? ⟨g,n*10+7,I⟩=J (af ea e.aA.length ec):=by have:=(bz.o.aZ (j:=7) (u:=af ea e.aA.length ec) (by rw[aT.o.1];rfl)).1;rw[aX.o];simpa using this
     have f7:Y.frozen? ⟨g,n*10+7,I⟩=false:=by have:=(bz.o.aZ (j:=7) (u:=af ea e.aA.length ec) (by rw[aT.o.1];rfl)).2;rw[aX.o];simpa using this
     have q8:Y.cell? ⟨eb,8,I⟩=J (af fa e.first.length fc):=by simp[World.cell?,cL.o]
     have p8:Y.cell? ⟨g,n*10+8,I⟩=J (af fa e.first.length fc):=by have:=(bz.o.aZ (j:=8) (u:=af fa e.first.length fc) (by rw[aT.o.1];rfl)).1;rw[aX.o];simpa using this
     have f8:Y.frozen? ⟨g,n*10+8,I⟩=false:=by have:=(bz.o.aZ (j:=8) (u:=af fa e.first.length fc) (by rw[aT.o.1];rfl)).2;rw[aX.o];simpa using this
     have q9:Y.cell? ⟨eb,9,I⟩=J (af la e.last.length lc):=by simp[World.cell?,cL.o]
     have p9:Y.cell? ⟨g,n*10+9,I⟩=J (af la e.last.length lc):=by have:=(bz.o.aZ (j:=9) (u:=af la e.last.length lc) (by rw[aT.o.1];rfl)).1;rw[aX.o];simpa using this
     have f9:Y.frozen? ⟨g,n*10+9,I⟩=false:=by have:=(bz.o.aZ (j:=9) (u:=af la e.last.length lc) (by rw[aT.o.1];rfl)).2;rw[aX.o];simpa using this
     go_wp2_with fail
     go_region
     all_goals
      obtain⟨Z,hZ⟩:∃Z,Z=((((((((((Y.setCell ⟨g,n*10,I⟩ (aq e.name)).setCell ⟨g,n*10+1,I⟩ (U R e.aJ)).setCell ⟨g,n*10+2,I⟩ (af pa e.ak.length pc)).setCell ⟨g,n*10+3,I⟩ (U R v0)).setCell ⟨g,n*10+4,I⟩ (U R v1)).setCell ⟨g,n*10+5,I⟩ (U R v2)).setCell ⟨g,n*10+6,I⟩ (af ga e.aB.length gc)).setCell ⟨g,n*10+7,I⟩ (af ea e.aA.length ec)).setCell ⟨g,n*10+8,I⟩ (af fa e.first.length fc)).setCell ⟨g,n*10+9,I⟩ (af la e.last.length lc)):=⟨_,rfl⟩;rw[<- hZ];have eP:aa (gO w0.heap.size rb L g cap Z c ⟨#[99,111,117,110,116]⟩ es { e with cnt:=v0,mn:=v1,mx:=v2 } (x) cells):=by
       rw[hZ];exact bz.o.AP (by rw[aX.o]) (by rw[rO.o])
      have ey:aa (bD rb w0 Z):=by
       obtain⟨cur,-,rP⟩:=bz.o.grow;have hle:g=rb\/w0.heap.size<=g:=aP rP;show bD _ _ _
       rw[hZ];exact((((((((((iA.o.setCell (p:=⟨g,n*10,I⟩) hle _).setCell (p:=⟨g,n*10+1,I⟩) hle _).setCell (p:=⟨g,n*10+2,I⟩) hle _).setCell (p:=⟨g,n*10+3,I⟩) hle _).setCell (p:=⟨g,n*10+4,I⟩) hle _).setCell (p:=⟨g,n*10+5,I⟩) hle _).setCell (p:=⟨g,n*10+6,I⟩) hle _).setCell (p:=⟨g,n*10+7,I⟩) hle _).setCell (p:=⟨g,n*10+8,I⟩) hle _).setCell (p:=⟨g,n*10+9,I⟩) hle _)
      have rQ:aa (L<=Z.heap.size):=by show _<=_;rw[hZ];simpa[World.setCell]using rN.o
      clear hZ e4 q0 p0 f0 q1 p1 f1 q2 p2 f2 q3 p3 f3 q4 p4 f4 q5 p5 f5 q6 p6 f6 q7 p7 f7 q8 p8 f8 q9 p9 f9;go_wp2;go_ret
      refine⟨by rw[ft.o];rfl,ey.o.drew,λ_=>aP ⟨L,g,cap,es,{ e with cnt:=v0,mn:=v1,mx:=v2 },(x),cells,?_,rQ.o,?_⟩⟩
      ·rw[mV.o,show (aY (bq e.ak) false (form 5) [bl s0,bl s1,bl s2]).2=_ from lR.o];exact(by simp only[ed];rw[pj.o,pD];rfl)
      exact gO.cfg (bX.below eP.o (aC _ _).drew) (λ_ _=>rfl)
  have HE:aa (bR last c 5 ws=1):=by show _=_;rw[HK.o];exact rL _ _ _ (by rw[<- HM.o.2,fL];exact hN)
  have mN:¬(m:Int)=3+1:=by have:=HM.o.1;omega
  clear hN;go_wp2;go_ret;exact⟨by rw[HE.o];rfl,bK.o _ (aC _ _),λh0=>by rw[HE.o]at h0;cases h0⟩
theorem ahC{a:Act}{o:Oper}{s x:Operand}{t ty:TypeId}{vs vx v':ar}{V V':ai}(ho:o.op=.call { callee:=.builtin .append,args:=#[s,x],argTypes:=#[t,t] })(qP:o.type=ty)(hs:a.eval s=vs)(hx:a.eval x=vx)
  (hr:(Builtin.append_ #[t,t] ty #[vs,vx]).run prog V=.ok v' V'):(execOp a.eval o).run prog V=.ok (.value v') V':=by
 subst qP;unfold execOp;simp only[ho,resolve,invoke,builtin,rZ,Sem.run_pure,vH,List.map_toArray,pA,List.map_nil,hs,hx,hr]
theorem ahD(L:Nat)(ty:TypeId){w:ai}{v:ar}{gs:List fM}(h:w.ownsRow L 86 4 v gs.length (gs.flatMap iD))(x:fM)(a:az)(c:Nat)(hx:∀j u,(iD x)[j]?=J u->w.cell? (a.add j)=J u)(hl:gs.length<=1000000)(hB:L<=w.heap.size):∃g' cap' w',(Builtin.append_ #[81,81] ty #[v,af (J a) 1 c]).run prog w=.ok (af (J ⟨g',0,I⟩) (gs.length+1) cap') w'/\w'.ownsRow L 86 4 (af (J ⟨g',0,I⟩) (gs.length+1) cap') (gs.length+1) (gs.flatMap iD++iD x)/\w.grownBy w' v.ownBlock:=by
 obtain⟨i0,hi,hz0,hz1,hz2⟩:=fj Ek;obtain⟨v',w',hr,ho,hg,-⟩:=run_append_own (P:=prog) w L 81 ty 86 i0 _ 4 32 underlying81 hi hz0 hz1 hz2 rfl (by decide) v _ _ h a 1 c _ rfl hx (Ig x) (by unfold maxLen;omega) (by omega) hB
 rcases ho.2 with⟨-,h0⟩|⟨g,cap,cur,rfl,-⟩
 ·omega
 exact⟨g,cap,w',hr,ho,hg⟩
theorem oz{done:Nat->Bool}{i j:Nat}(h:i≠j):mark done i j=done j:=by simp[mark,Ne.symm h]
theorem KZ(done:Nat->Bool)(i:Nat):mark done i i=true:=by simp[mark]
theorem tB{done:Nat->Bool}{j:Nat}(i:Nat)(h:done j=true):mark done i j=true:=by simp[mark,h]
structure F2(done:Nat->Bool):Prop where
 a:done 14=true->done 4=true/\done 7=true/\done 10=true/\done 13=true
 b:done 15=true->done 14=true
 c:done 16=true->done 15=true/\done 1=true
 d:done 18=true->done 16=true
theorem F2.mark{done:Nat->Bool}(h:F2 done)(i:Nat)(xU:i=14->done 4=true/\done 7=true/\done 10=true/\done 13=true)(qH:i=15->done 14=true)(ju:i=16->done 15=true/\done 1=true)(w_:i=18->done 16=true):F2 (mark done i)where
 a:=λx=>by
  have:done 4=true/\done 7=true/\done 10=true/\done 13=true:=by
   by_cases e:i=14
   ·exact xU e
   rw[oz e]at x;exact h.a x
  exact⟨tB i this.1,tB i this.2.1,tB i this.2.2.1,tB i this.2.2.2⟩
 b:=λx=>by
  by_cases e:i=15
  ·exact tB i (qH e)
  rw[oz e]at x;exact tB i (h.b x)
 c:=λx=>by
  have:done 15=true/\done 1=true:=by
   by_cases e:i=16
   ·exact ju e
   rw[oz e]at x;exact h.c x
  exact⟨tB i this.1,tB i this.2⟩
 d:=λx=>by
  by_cases e:i=18
  ·exact tB i (w_ e)
  rw[oz e]at x;exact tB i (h.d x)
def ahE(V:ai)(eb:Nat)(old:ar)(new:Obj):Bool->Bool->Bool->ai->Prop
 |false,_,_=>λW=>W=V.drew
 |true,false,_=>λW=>W=V.drew.alloc new
 |true,true,false=>λW=>W.cell? ⟨eb,6,I⟩=J old
 |true,true,true=>λ_=>True
def gw(V:ai)(eb:Nat)(old:ar)(new:Obj)(done:Nat->Bool)(W:ai):Prop:=F2 done/\ahE V eb old new (done 15) (done 16) (done 18) W
section
variable {V W:ai}{eb:Nat}{old:ar}{new:Obj}{done:Nat->Bool}
theorem ahF:gw V eb old new (λ_=>false) V.drew:=⟨⟨λh=>(by cases h),λh=>(by cases h),λh=>(by cases h),λh=>(by cases h)⟩,rfl⟩
theorem gw.other(h:gw V eb old new done W){i:Nat}(xU:i≠14)(qH:i≠15)(ju:i≠16)(w_:i≠18):gw V eb old new (mark done i) W:=
 ⟨h.1.mark i (λe=>absurd e xU) (λe=>absurd e qH) (λe=>absurd e ju) (λe=>absurd e w_),by rw[oz qH,oz ju,oz w_];exact h.2⟩
theorem gw.ahG(h:gw V eb old new done W)(hp:done 4=true/\done 7=true/\done 10=true/\done 13=true):gw V eb old new (mark done 14) W:=
 ⟨h.1.mark 14 (λ_=>hp) (λe=>absurd e (by decide)) (λe=>absurd e (by decide)) (λe=>absurd e (by decide)),by rw[oz (by decide),oz (by decide),oz (by decide)];exact h.2⟩
theorem gw.early(h:gw V eb old new done W)(qH:done 15=false):W=V.drew:=by have:=h.2;rw[qH]at this;exact this
theorem gw.Td(h:gw V eb old new done W)(qH:done 15=false):done 16=false:=by
 cases e:done 16 with
 |false=>rfl
 |true=>have:=(h.1.c e).1;rw[qH]at this;cases this
theorem gw.ahH(h:gw V eb old new done W)(h1:done 1=false):done 16=false:=by
 cases e:done 16 with
 |false=>rfl
 |true=>have:=(h.1.c e).2;rw[h1]at this;cases this
theorem gw.K4(h:gw V eb old new done W)(ju:done 16=false):done 18=false:=by
 cases e:done 18 with
 |false=>rfl
 |true=>have:=h.1.d e;rw[ju]at this;cases this
theorem gw.F3(h:gw V eb old new done W){k:Nat}(hk:k=4\/k=7\/k=10\/k=13)(hd:done k=false):done 15=false:=by
 cases e:done 15 with
 |false=>rfl
 |true=>
  obtain⟨a,b,c,d⟩:=h.1.a (h.1.b e)
  rcases hk with rfl|rfl|rfl|rfl
  ·rw[a]at hd;cases hd
  ·rw[b]at hd;cases hd
  ·rw[c]at hd;cases hd
  rw[d]at hd;cases hd
theorem gw.grown(h:gw V eb old new done W)(qH:done 15=true)(ju:done 16=false):W=V.drew.alloc new:=by have:=h.2;rw[qH,ju]at this;exact this
theorem gw.cell(h:gw V eb old new done W)(ju:done 16=false)(q:V.drew.cell? ⟨eb,6,I⟩=J old)(q':(V.drew.alloc new).cell? ⟨eb,6,I⟩=J old):W.cell? ⟨eb,6,I⟩=J old:=by
 cases e:done 15 with
 |false=>rw[h.early e];exact q
 |true=>rw[h.grown e ju];exact q'
theorem gw.ahI(h:gw V eb old new done W)(qH:done 15=false)(xU:done 14=true):gw V eb old new (mark done 15) (V.drew.alloc new):=
 ⟨h.1.mark 15 (λe=>absurd e (by decide)) (λ_=>xU) (λe=>absurd e (by decide)) (λe=>absurd e (by decide)),by rw[KZ,oz (by decide),h.Td qH];rfl⟩
theorem gw.ahJ{W':ai}(h:gw V eb old new done W)(ju:done 16=false)(hp:done 15=true/\done 1=true)(hc:W'.cell? ⟨eb,6,I⟩=J old):gw V eb old new (mark done 16) W':=
 ⟨h.1.mark 16 (λe=>absurd e (by decide)) (λe=>absurd e (by decide)) (λ_=>hp) (λe=>absurd e (by decide)),by rw[KZ,oz (by decide),oz (by decide),hp.1,h.K4 ju];exact hc⟩
theorem gw.ahK{W':ai}(h:gw V eb old new done W)(ju:done 16=true):gw V eb old new (mark done 18) W':=
 ⟨h.1.mark 18 (λe=>absurd e (by decide)) (λe=>absurd e (by decide)) (λe=>absurd e (by decide)) (λ_=>ju),by rw[KZ,oz (by decide),oz (by decide),ju,(h.1.c ju).1];exact trivial⟩
theorem gw.late(h:gw V eb old new done W)(ju:done 16=true)(w_:done 18=false):W.cell? ⟨eb,6,I⟩=J old:=by have:=h.2;rw[(h.1.c ju).1,ju,w_]at this;exact this
end
def K5(eb ng nc nb:Nat)(ga:Option az)(n gc:Nat)(v0 v1 v2 v3:Int)(X:Nat->Nat->ai->Prop):Nat->ar->ai->Prop
 |0=>λv _=>v=aj (J ⟨eb,6,I⟩)
 |1=>λv _=>v=af ga n gc
 |2=>λv _=>v=af (J ⟨ng,0,I⟩) 4 nc
 |3=>λv _=>v=aj (J ⟨ng,0,I⟩)
 |4=>λv _=>v=U R v0
 |5=>λv _=>v=af (J ⟨ng,0,I⟩) 4 nc
 |6=>λv _=>v=aj (J ⟨ng,1,I⟩)
 |7=>λv _=>v=U R v1
 |8=>λv _=>v=af (J ⟨ng,0,I⟩) 4 nc
 |9=>λv _=>v=aj (J ⟨ng,2,I⟩)
 |10=>λv _=>v=U R v2
 |11=>λv _=>v=af (J ⟨ng,0,I⟩) 4 nc
 |12=>λv _=>v=aj (J ⟨ng,3,I⟩)
 |13=>λv _=>v=U R v3
 |14=>λv _=>v=aU #[U R v0,U R v1,U R v2,U R v3]
 |15=>λv _=>v=af (J ⟨nb,0,I⟩) 1 1
 |16=>λv W=>∃g' cap',v=af (J ⟨g',0,I⟩) (n+1) cap'/\(W.cell? ⟨eb,6,I⟩=J (af ga n gc)->X g' cap' W)
 |17=>λv _=>v=aj (J ⟨eb,6,I⟩)
 |18=>λ_ W=>∃g' cap' w8,X g' cap' w8/\W=w8.setCell ⟨eb,6,I⟩ (af (J ⟨g',0,I⟩) (n+1) cap')
 |_=>λ_ _=>True
theorem K6{eb ng nc nb:Nat}{ga:Option az}{n gc:Nat}{v0 v1 v2 v3:Int}{X:Nat->Nat->ai->Prop}{W W':ai}{j:Nat}{v:ar}(ju:j≠16)(w_:j≠18)(h:K5 eb ng nc nb ga n gc v0 v1 v2 v3 X j v W):K5 eb ng nc nb ga n gc v0 v1 v2 v3 X j v W':=by
 match j,h with
 |0,h=>exact h
 |1,h=>exact h
 |2,h=>exact h
 |3,h=>exact h
 |4,h=>exact h
 |5,h=>exact h
 |6,h=>exact h
 |7,h=>exact h
 |8,h=>exact h
 |9,h=>exact h
 |10,h=>exact h
 |11,h=>exact h
 |12,h=>exact h
 |13,h=>exact h
 |14,h=>exact h
 |15,h=>exact h
 |16,h=>exact absurd rfl ju
 |17,h=>exact h
 |18,h=>exact absurd rfl w_
 |n+19,h=>exact h
end Go.Proofs.YtgmfhkjghmdgiaaGreatDoor
