/-
  Several texts as one: DrLine8, DrLine9, DrLineN, DrLineA, DrOf.
-/
import Derived.Test.YtgmfhkjghmdgiaaGreatDoorP17S
set_option linter.all false
set_option maxHeartbeats 40000000
set_option maxRecDepth 100000
open Go renaming Addr→az,Value→ar,World→ai
open Go.Ending renaming returned→ax
open Go.IntKind renaming i64→R
open Go.Obj renaming cells→au
open Go.RowKit renaming Hid→aa
open Go.Value renaming agg→aU,bool→aI,int→U,pointer→aj,slice→af,string→aq,tuple→bn
open Option renaming none→I,some→J
open Go.Proofs.Tryz
namespace Go.Proofs.YtgmfhkjghmdgiaaGreatDoor
open Go.Extern Go.Extern.Stop Go.Maps Go.RowKit Go.Stop
theorem ahQ(w0 w:ai)(rb:Nat)(c:aS)(last:Int)(l:ByteArray)(ws:List Bs)(hb0:bD rb w0 w)(h:eO w0.heap.size rb w c (cf last))(hl:l.size<=1000000)(l0:-1<=last)(l9:last<=9)(hO:gZ 1000000 c last)(hcut:bW 32 (bl l)=kw 8::ws):Calls prog 16 #[aj (J ⟨rb,0,I⟩),aq l] w λv w'=>v=ax (U R (bR last c 8 ws:Nat))/\bD rb w0 w'/\(bR last c 8 ws=0->eO w0.heap.size rb w' (ed c 8 ws (aY (bq (bO c.aw)) false (form 8) ws).2) (eN 8)):=by
 obtain⟨i0,hi,hz0,hz1,hz2⟩:=fj ny;have HS:aa (bD rb w0 w/\eO w0.heap.size rb w c (cf last)):=⟨hb0,h⟩;have HO:aa (gZ 1000000 c last):=hO;have gD:aa (Calls prog 15 #[aq l,U .u8 32] w λe w'=>∃(wt:List ByteArray) (g cap m:Nat),e=ax (af (J ⟨g,0,I⟩) m cap)/\m=wt.length+1/\wt.map bl=ws/\w'.ownsRow w.heap.size 9 1 (af (J ⟨g,0,I⟩) m cap) m ((⟨#[102,105,114,115,116]⟩::wt).flatMap bS)/\Below w.heap.size w w'):=by
  refine(pZ l 32 w hl).mono ?_;rintro e w' ⟨wl,g,cap,rfl,h1,h2,h3⟩;rw[hcut]at h1;obtain⟨wt,rfl,h4⟩:=tz h1;exact⟨wt,g,cap,_,rfl,rfl,h4,h2,h3⟩
 have gP:aa (∀V,Below w.heap.size w V->Calls prog 53 #[aj (J ⟨rb,0,I⟩),aq ⟨#[102,105,114,115,116]⟩] V λe w'=>e=ax (aI (may last 8))/\Below V.heap.size V w'):=λV hV=>by
  have hc:V.cell? ⟨rb,5,I⟩=J (aq (cf last)):=by
   rcases h.below hV with h1|⟨_,_,_,_,_,_,_,_,_,h1⟩
   ·have:=h1.row;simp[World.cell?,this,bV]
   have:=h1.row;simp[World.cell?,this,bV]
  exact rJ rb last (eN 8) V l0 l9 hc
 clear hb0 h hl l0 l9 hO hcut;go_enter func16,ntmps16
 go_wp2_with fail
 refine aL gD.o ?_;rintro v w1 ⟨wt,wg,wc,m,rfl,hm,fq,hown,hb1⟩;have aO:aa (Below w.heap.size w w1):=hb1;have lQ:aa (w.heap.size<=wg):=by
  show _<=_
  exact(hown.lt wg rfl).1
 have HW:aa (∀V,Below w1.heap.size w1 V->∀j s,(⟨#[102,105,114,115,116]⟩::wt)[j]?=J s->V.cell? ⟨wg,j,I⟩=J (aq s)):=λV hV j s hj=>aG hV (qE hown j s hj)
 have HM:aa (m=wt.length+1/\wt.map bl=ws):=⟨hm,fq⟩;have c0:w1.cell? ⟨wg,0,I⟩=J (aq ⟨#[102,105,114,115,116]⟩):=HW.o w1 (aC _ _) 0 _ rfl;have m0:(0:Int)<(m:Int):=by omega
 clear hm fq hown hb1 gD;go_wp2_with fail
 refine aL (gP.o w1 aO.o) ?_;rintro v w2 ⟨rfl,hb2⟩;have aW:aa (Below w.heap.size w w2):=aO.o.trans (hb2.mono aO.o.size);have bL:aa (Below w1.heap.size w1 w2):=hb2;have bK:aa (∀V,Below w2.heap.size w2 V->bD rb w0 V):=λV hV=>HS.o.1.trans ((aW.o.trans (hV.mono aW.o.size)).mono HS.o.1.size)
 clear hb2 gP c0
 cases cZ:may last 8 with
 |false=>
  have HE:aa (bR last c 8 ws=1):=tr cZ;clear cZ;go_wp2;go_ret;exact⟨by rw[HE.o];rfl,bK.o _ (aC _ _),λh0=>by rw[HE.o]at h0;cases h0⟩
 |true=>
  have HY:aa (may last 8=true):=cZ;have HK:aa (bR last c 8 ws=(aY (bq (bO c.aw)) false (form 8) ws).1):=tu cZ;clear cZ
  by_cases hN:wt.length=1
  ·obtain⟨s0,rfl⟩:∃s0,wt=[s0]:=by
    match wt,hN with
    |[s0],_=>exact⟨s0,rfl⟩
   obtain rfl:ws=[bl s0]:=HM.o.2.symm.trans rfl;obtain rfl:m=1+1:=HM.o.1;clear HM hN;obtain⟨L,g,cap,es,e,x,cells,hce,eG,hD⟩:∃L g cap es e x cells,c.aw=es++[e]/\L<=w.heap.size/\gO w0.heap.size rb L g cap w c (cf last) es e x cells:=by
    rcases HS.o.2 with h1|h1
    ·exact absurd h1.nil (HO.o.e3 (yD (by decide) HY.o))
    exact h1
   have pj:aa (c.aw=es++[e]):=hce;have np:aa (L<=w.heap.size):=eG;have mV:aa (bO c.aw=e.ak):=by show _=_;rw[hce];exact yx _ _
   rw[mV.o]at HK;have H1:aa (∀V,Below w.heap.size w V->gO w0.heap.size rb L g cap V c (cf last) es e x cells):=λV hV=>bX.below hD hV
   obtain⟨pa,pc,eu⟩:=cJ hD.new.hp;have rM:aa (x.p=af pa e.ak.length pc):=eu;have fK:aa (es.length<1000000/\nM 1000000 e):=⟨by have:=HO.o.len;rw[hce,dm]at this;simp at this;omega,HO.o.sz e (by rw[hce];simp)⟩;obtain⟨n,hn⟩:∃n,n=es.length:=⟨_,rfl⟩;have aX:aa (n=es.length):=hn;have Dw:n<1000000:=by have:=fK.o.1;omega
   have Dx:(n:Int)<(n:Int)+1:=by omega
   have Dy:¬(n:Int)<0:=by omega
   have kD:aa (∀V,Below w.heap.size w V->V.cell? ⟨rb,4,I⟩=J (af (J ⟨g,0,I⟩) (n+1) cap)):=λV hV=>by have:=(H1.o V hV).row;rw[hn];simp[World.cell?,this,bV]
   have iy:aa (∀V,Below w.heap.size w V->V.cell? ⟨g,n*10+2,I⟩=J (af pa e.ak.length pc)):=λV hV=>by rw[hn,<- eu];exact((H1.o V hV).aZ (j:=2) rfl).1
   have qG:aa (∀s V,Below w.heap.size w V->Calls prog 55 #[af pa e.ak.length pc,aq s] V λe' w'=>e'=ax (U R (idxOf e.ak s))/\w'=V):=λs V hV=>wk e.ak s pa pc V (by rw[<- eu];exact bU.jc (enc:=bS) (H1.o V hV).new.hp (λ_=>rfl)) fK.o.2.p
   have e4:=kD.o w2 aW.o;clear hce eG hD eu hn;go_wp2_with fail
   go_loopw [9,10,11,12] (λnv ov iv _ wr=>∃(j:Nat) (nn:Bool) (vs:List Int) (na:Option az) (nc:Nat),j<=1/\iv=U R j/\ov=aI nn/\nv=af na j nc/\wr.ownsRow w2.heap.size 3 1 (af na j nc) j (vs.flatMap bm)/\Below w2.heap.size w2 wr/\dR (bq e.ak) [2] [bl s0] j nn vs) (λ_ _ iv _ _=>1-(intOf iv).toNat)
   case atStart=>exact⟨0,false,[],I,0,bI _,rfl,rfl,rfl,fC _ _ _ _,aC _ _,dR.start _ _ _⟩
   case round=>
    obtain⟨j,nn,vs,na,nc,hj,rfl,rfl,rfl,hown,hb,hf⟩:=hrel;have HB:aa (Below w2.heap.size w2 wr):=hb;have bE:aa (wr.ownsRow w2.heap.size 3 1 (af na j nc) j (vs.flatMap bm)):=hown;have HF:aa (dR (bq e.ak) [2] [bl s0] j nn vs):=hf;clear hb hown hf e4
    by_cases hlt:j<1
    ·clear hj;obtain rfl:j=0:=by omega
     clear hlt;have e5:=kD.o wr (aW.o.trans (HB.o.mono aW.o.size));have e6:=iy.o wr (aW.o.trans (HB.o.mono aW.o.size));have d0:=HW.o wr (bL.o.trans (HB.o.mono bL.o.size)) 1 s0 rfl;have jN:aa (∀q,Calls prog 55 #[af pa e.ak.length pc,aq s0] (wr.drewN q) λe' w'=>e'=ax (U R (idxOf e.ak s0))/\w'=wr.drewN q):=λq=>qG.o s0 _ (aW.o.trans ((cg HB.o q).mono aW.o.size))
     have kT:aa (¬s0=⟨#[]⟩->_):=@yM e.ak s0;generalize idxOf e.ak s0=z at *;go_upto_region 38 with fail
     go_cut [12] (λxv wv=>xv=U R z/\Below w2.heap.size w2 wv/\wv.ownsRow w2.heap.size 3 1 (af na 0 nc) 0 (vs.flatMap bm))
     case first=>
      go_wp2_with fail
      go_quiet (first|(go_at_call 55;exact o8 (jN.o _)))
      go_wp2_with fail
      go_meet
      case rel=>exact⟨rfl,cg HB.o _,bE.o⟩
     obtain⟨rfl,fk,ji⟩:=hcut;clear HB bE jN e5 e6 d0;rename ai=>wr
     have HB:aa (Below w2.heap.size w2 wr):=fk;have bE:aa (wr.ownsRow w2.heap.size 3 1 (af na 0 nc) 0 (vs.flatMap bm)):=ji;clear fk ji;have d0:=HW.o wr (bL.o.trans (HB.o.mono bL.o.size)) 1 s0 rfl
     by_cases d_:s0=⟨#[]⟩
     ·have HE:aa (bR last c 8 [bl s0]=1):=by show _=_;rw[HK.o];exact HF.o.bad rfl rfl (by rw[d_];exact uZ)
      obtain⟨n1,n2⟩:=nO d_;clear d_
      by_cases z0:z<0
      ·go_wp2;go_ret;exact⟨by rw[HE.o];rfl,bK.o _ HB.o,λh0=>by rw[HE.o]at h0;cases h0⟩
      go_wp2;go_ret;exact⟨by rw[HE.o];rfl,bK.o _ HB.o,λh0=>by rw[HE.o]at h0;cases h0⟩
     have iU:aa _:=kT.o d_;obtain⟨n1,n2⟩:=eM d_;clear d_
     by_cases z0:z<0
     ·have HZ:aa ((bF (bq e.ak) 2 (bl s0)).1=5):=by show _=_;rw[iU.o.1,aR z0]
      go_wp2_with (at_builtin;refine fw _ rfl _ _ 65 rfl w2.heap.size 3 i0 (U R 0) 1 8 underlying65 hi hz0 hz1 hz2 rfl (by decide) (af na 0 nc) 0 (vs.flatMap bm) rfl (bE.o.alloc _) ⟨wr.heap.size,0,.none⟩ 1 1 [U R z] rfl rfl (h_ _ _ _) (by intro u hu;simp at hu;subst hu;rfl) (by unfold maxLen;omega) (by omega) (by have:=HB.o.size;simp;omega) ?_;intro v1 w4 hown1 dh ij)
      obtain⟨dS,df,cC⟩:=cJ hown1;subst cC;go_roundw
      case rel=>exact⟨0+1,true,vs++[z],dS,df,by omega,rfl,rfl,rfl,by simpa[dP,bm]using hown1,(HB.o.alloc HB.o.size _).grown dh (by have:=HB.o.size;simp;omega) (λq hq=>(bE.o.lt q hq).1),HF.o.next rfl rfl true z (by rw[HZ.o];decide) (by rw[HZ.o];simp) (λh0=>by cases h0)⟩
      case measure=>simp[intOf]
     have HZ:aa ((bF (bq e.ak) 2 (bl s0)).1=0/\(bF (bq e.ak) 2 (bl s0)).2=z):=⟨by rw[iU.o.1,aK z0],iU.o.2 (by omega)⟩;go_wp2_with (at_builtin;refine fw _ rfl _ _ 65 rfl w2.heap.size 3 i0 (U R 0) 1 8 underlying65 hi hz0 hz1 hz2 rfl (by decide) (af na 0 nc) 0 (vs.flatMap bm) rfl (bE.o.alloc _) ⟨wr.heap.size,0,.none⟩ 1 1 [U R z] rfl rfl (h_ _ _ _) (by intro u hu;simp at hu;subst hu;rfl) (by unfold maxLen;omega) (by omega) (by have:=HB.o.size;simp;omega) ?_;intro v1 w4 hown1 dh ij)
     obtain⟨dS,df,cC⟩:=cJ hown1;subst cC;go_roundw
     case rel=>exact⟨0+1,nn,vs++[z],dS,df,by omega,rfl,rfl,rfl,by simpa[dP,bm]using hown1,(HB.o.alloc HB.o.size _).grown dh (by have:=HB.o.size;simp;omega) (λq hq=>(bE.o.lt q hq).1),HF.o.next rfl rfl nn z (by rw[HZ.o.1];decide) (by rw[HZ.o.1];simp) (λ_=>HZ.o.2.symm)⟩
     case measure=>simp[intOf]
    obtain rfl:j=1:=by omega
    clear hlt hj;obtain⟨cA,fu⟩:=(show dR (bq e.ak) [2] [bl s0] ([2]:List Nat).length nn vs from HF.o).done rfl
    cases nn with
    |true=>
     have HE:aa (bR last c 8 [bl s0]=5):=by show _=_;rw[HK.o];exact cA
     clear cA fu;go_wp2;go_ret;exact⟨by rw[HE.o];rfl,bK.o _ HB.o,λh0=>by rw[HE.o]at h0;cases h0⟩
    |false=>
     have ft:aa (bR last c 8 [bl s0]=0):=by show _=_;rw[HK.o];exact cA
     have lR:aa ((aY (bq e.ak) false [2] [bl s0]).2=vs):=fu rfl;have hlen:=HF.o.len;clear cA fu;obtain⟨v0,rfl⟩:∃v0,vs=[v0]:=by
      match vs,hlen with
      |[v0],_=>exact⟨v0,rfl⟩
     obtain⟨ng,df,ki⟩:=rK bE.o
     cases ki
     have lS:aa (w2.heap.size<=ng):=by show _<=_;exact(bE.o.lt ng rfl).1
     have x0:=mq bE.o 0 v0 rfl;have cY:aa (Below w.heap.size w wr):=aW.o.trans (HB.o.mono aW.o.size);have d0:=HW.o wr (bL.o.trans (HB.o.mono bL.o.size)) 0 _ rfl;have d1:=HW.o wr (bL.o.trans (HB.o.mono bL.o.size)) 1 _ rfl;clear hlen HF;have hbase:=H1.o wr cY.o;have qz:rb<w.heap.size:=bJ (H1.o w (aC _ _)).row;have wO:g<w.heap.size:=by obtain⟨cur,h1,-⟩:=(H1.o w (aC _ _)).grow;exact bJ h1
     have eH:¬rb=wg:=by have:=lQ.o;omega
     have u_:¬wg=rb:=λe2=>eH e2.symm
     have gF:¬rb=ng:=by have:=aW.o.size;have:=lS.o;omega
     have ve:¬ng=rb:=λe2=>gF e2.symm
     have hrow:=hbase.row;have r5:wr.cell? ⟨rb,5,I⟩=J (aq (cf last)):=by simp[World.cell?,hrow,bV]
     have f5:wr.frozen? ⟨rb,5,I⟩=false:=by simp[World.frozen?,hrow]
     clear hrow;go_upto_region 62 with fail
     obtain⟨Wz,cB⟩:∃V,V=wr.setCell ⟨rb,5,I⟩ (aq ⟨#[102,105,114,115,116]⟩):=⟨_,rfl⟩;rw[<- cB];have bP:aa (bX w0.heap.size rb L g cap Wz c ⟨#[102,105,114,115,116]⟩ es (x.row e).toList e x cells):=by rw[cB];exact bX.pk hbase 5 (aq ⟨#[102,105,114,115,116]⟩) rfl
     have jh:aa (bD rb w0 Wz):=by rw[cB];exact(bK.o _ HB.o).setCell (p:=⟨rb,5,I⟩) hbase.lo _
     have mW:aa (w.heap.size<=Wz.heap.size):=by show _<=_;rw[cB];have:=cY.o.size;simpa[World.setCell]using this
     have y0:Wz.cell? ⟨wg,0,I⟩=J (aq ⟨#[102,105,114,115,116]⟩):=by rw[cB,eD (a_ eH) rfl rfl];exact d0
     have y1:Wz.cell? ⟨wg,1,I⟩=J (aq s0):=by rw[cB,eD (a_ eH) rfl rfl];exact d1
     have u0:Wz.cell? ⟨ng,0,I⟩=J (U R v0):=by rw[cB,eD (a_ gF) rfl rfl];exact x0
     clear cB r5 f5 hbase d0 d1 x0;obtain⟨ga,gc,il⟩:=cJ bP.o.new.hg;obtain⟨ea,ec,kj⟩:=cJ bP.o.new.he;obtain⟨fa,fc,fx⟩:=cJ bP.o.new.hf;obtain⟨la,lc,iL⟩:=cJ bP.o.new.hl;have aT:aa (x.row e=#[aq e.name,U R e.aJ,af pa e.ak.length pc,U R e.cnt,U R e.mn,U R e.mx,af ga e.aB.length gc,af ea e.aA.length ec,af fa e.first.length fc,af la e.last.length lc]/\x=⟨af pa e.ak.length pc,af ga e.aB.length gc,af ea e.aA.length ec,af fa e.first.length fc,af la e.last.length lc⟩):=by
      have eu:=rM.o;obtain⟨xp,xg,xe,xf,xl⟩:=x;simp only at eu il kj fx iL;subst eu il kj fx iL;exact⟨rfl,rfl⟩
     clear il kj fx iL;have e4:Wz.cell? ⟨rb,4,I⟩=J (af (J ⟨g,0,I⟩) (n+1) cap):=by have:=bP.o.row;rw[aX.o];simp[World.cell?,this,bV]
     have q0:Wz.cell? ⟨g,n*10,I⟩=J (aq e.name):=by have:=(bP.o.aZ (j:=0) (u:=aq e.name) (by rw[aT.o.1];rfl)).1;rw[aX.o];simpa using this
     have q1:Wz.cell? ⟨g,n*10+1,I⟩=J (U R e.aJ):=by have:=(bP.o.aZ (j:=1) (u:=U R e.aJ) (by rw[aT.o.1];rfl)).1;rw[aX.o];simpa using this
     have q2:Wz.cell? ⟨g,n*10+2,I⟩=J (af pa e.ak.length pc):=by have:=(bP.o.aZ (j:=2) (u:=af pa e.ak.length pc) (by rw[aT.o.1];rfl)).1;rw[aX.o];simpa using this
     have q3:Wz.cell? ⟨g,n*10+3,I⟩=J (U R e.cnt):=by have:=(bP.o.aZ (j:=3) (u:=U R e.cnt) (by rw[aT.o.1];rfl)).1;rw[aX.o];simpa using this
     have q4:Wz.cell? ⟨g,n*10+4,I⟩=J (U R e.mn):=by have:=(bP.o.aZ (j:=4) (u:=U R e.mn) (by rw[aT.o.1];rfl)).1;rw[aX.o];simpa using this
     have q5:Wz.cell? ⟨g,n*10+5,I⟩=J (U R e.mx):=by have:=(bP.o.aZ (j:=5) (u:=U R e.mx) (by rw[aT.o.1];rfl)).1;rw[aX.o];simpa using this
     have q6:Wz.cell? ⟨g,n*10+6,I⟩=J (af ga e.aB.length gc):=by have:=(bP.o.aZ (j:=6) (u:=af ga e.aB.length gc) (by rw[aT.o.1];rfl)).1;rw[aX.o];simpa using this
     have q7:Wz.cell? ⟨g,n*10+7,I⟩=J (af ea e.aA.length ec):=by have:=(bP.o.aZ (j:=7) (u:=af ea e.aA.length ec) (by rw[aT.o.1];rfl)).1;rw[aX.o];simpa using this
     have q8:Wz.cell? ⟨g,n*10+8,I⟩=J (af fa e.first.length fc):=by have:=(bP.o.aZ (j:=8) (u:=af fa e.first.length fc) (by rw[aT.o.1];rfl)).1;rw[aX.o];simpa using this
     have q9:Wz.cell? ⟨g,n*10+9,I⟩=J (af la e.last.length lc):=by have:=(bP.o.aZ (j:=9) (u:=af la e.last.length lc) (by rw[aT.o.1];rfl)).1;rw[aX.o];simpa using this
     go_upto_region 63 with fail
     obtain⟨V,hV⟩:∃V,V=Wz.alloc (au #[aq e.name,U R e.aJ,af pa e.ak.length pc,U R e.cnt,U R e.mn,U R e.mx,af ga e.aB.length gc,af ea e.aA.length ec,af fa e.first.length fc,af la e.last.length lc] 84):=⟨_,rfl⟩;rw[<- hV];obtain⟨eb,km⟩:∃b,b=Wz.heap.size:=⟨_,rfl⟩;rw[<- km];have dG:aa (Below Wz.heap.size Wz V):=by show Below _ _ _;rw[hV];exact aN _ _
     have jz:aa (bX w0.heap.size rb L g cap V c ⟨#[102,105,114,115,116]⟩ es (x.row e).toList e x cells):=bP.o.below dG.o;have gC:aa (bD rb w0 V):=jh.o.trans (dG.o.mono jh.o.size);have jO:aa (V.heap[eb]?=J (au #[aq e.name,U R e.aJ,af pa e.ak.length pc,U R e.cnt,U R e.mn,U R e.mx,af ga e.aB.length gc,af ea e.aA.length ec,af fa e.first.length fc,af la e.last.length lc] 84 (0,0))):=by show _=_;rw[hV,km];exact cR Wz _
     have lT:aa (eb≠g/\eb≠rb/\w.heap.size<=eb):=by have:=mW.o;exact⟨by omega,by omega,by omega⟩
     have nP:aa (L<=V.heap.size):=bw np.o (bw mW.o dG.o.size);have y0:=aG dG.o y0;have y1:=aG dG.o y1;have u0:=aG dG.o u0;clear hV km e4 q0 q1 q2 q3 q4 q5 q6 q7 q8 q9;obtain⟨j0,hj,qB,tA,nt⟩:=fj ny;have q2:V.cell? ⟨eb,8,I⟩=J (af fa e.first.length fc):=by simp[World.cell?,jO.o]
     have vg:∀ob,(V.alloc ob).cell? ⟨eb,8,I⟩=J (af fa e.first.length fc):=λob=>aG (aN _ _) q2
     have hown:V.drew.ownsRow L 3 1 (af fa e.first.length fc) e.first.length (e.first.flatMap bm):=by have:=jz.o.new.hf;rw[aT.o.2]at this;exact this
     have lH:=nP.o;have lD:e.first.length<=1000000:=fK.o.2.f;have KB:aa (∀(ob:Obj) (w8:ai),(V.drew.alloc ob).grownBy w8 (Value.slice fa e.first.length fc).ownBlock->w8.heap[eb]?=J (au #[aq e.name,U R e.aJ,af pa e.ak.length pc,U R e.cnt,U R e.mn,U R e.mx,af ga e.aB.length gc,af ea e.aA.length ec,af fa e.first.length fc,af la e.last.length lc] 84 (0,0))/\bD rb w0 w8):=λob w8 hg=>by
      have bb:Below V.heap.size V (V.drew.alloc ob):=(aC V.heap.size V).drew.alloc (by simp) ob;have pq:=jz.o.below bb;have b3:bD rb w0 (V.drew.alloc ob):=gC.o.trans (bb.mono gC.o.size);have k3:=bG bb jO.o;have pw:(V.drew.alloc ob).ownsRow L 3 1 (af fa e.first.length fc) e.first.length (e.first.flatMap bm):=by have:=pq.new.hf;rw[aT.o.2]at this;exact this
      exact⟨(hg.block eb (bJ k3) (λe2=>dZ pw k3 (by decide) e2.symm)).trans k3,b3.grown hg b3.size (λb hb=>bw pq.jL (pw.lt b hb).1)⟩
     go_wp2_with fail
     go_region_law (refine ni _ rfl (.tmp 249) (.tmp 253) 65 rfl L 3 j0 (U R 0) 1 8 underlying65 hj qB tA nt rfl (by decide) (af fa e.first.length fc) e.first.length (e.first.flatMap bm) (by simp[Act.eval]) (hown.alloc _) ⟨V.heap.size,0,.none⟩ 1 1 [U R v0] (by simp[Act.eval]) rfl (h_ V.drew (U R v0) 3) (xB v0) (by decide) (by unfold maxLen;omega) (by omega) (by simp;omega) (V.heap.size+1) (by simp) ?_;intro g' cap' w8 dy bZ cH ld;have r8:=KB.o _ _ bZ;have d8:w8.cell? ⟨eb,8,I⟩=J (af fa e.first.length fc):=(by simp[World.cell?,r8.1]);have d9:w8.frozen? ⟨eb,8,I⟩=false:=(by simp[World.frozen?,r8.1]))
     all_goals
      have H8:aa (_/\_):=r8;have vh:aa (bX w0.heap.size rb L g cap w8 c ⟨#[102,105,114,115,116]⟩ es (x.row e).toList { e with first:=e.first++[v0] } ({ x with f:=af (J ⟨g',0,I⟩) (e.first.length+1) cap' }) cells):=(jz.o.below (w':=V.drew.alloc _) ((aC V.heap.size V).drew.alloc (by simp) _)).Kb v0 (by rw[aT.o.2];exact bZ) dy (aht (w:=V) jz.o.new (by rw[aT.o.2];exact cH) jz.o.fl (by simp));have vk:aa (L<=w8.heap.size):=by have h1:=bZ.size;have h2:=nP.o;show _<=_;simp at h1;omega
      clear bZ dy r8 cH q2 vg hown;go_upto_region 78 with fail
      obtain⟨Y,hY⟩:∃Y,Y=w8.setCell ⟨eb,8,I⟩ (af (J ⟨g',0,I⟩) (e.first.length+1) cap'):=⟨_,rfl⟩;rw[<- hY];have bz:aa (bX w0.heap.size rb L g cap Y c ⟨#[102,105,114,115,116]⟩ es (x.row e).toList { e with first:=e.first++[v0] } ({ x with f:=af (J ⟨g',0,I⟩) (e.first.length+1) cap' }) cells):=by rw[hY];exact vh.o.qR eb 8 _ H8.o.1 lT.o.1
      have cL:aa (Y.heap[eb]?=J (au #[aq e.name,U R e.aJ,af pa e.ak.length pc,U R e.cnt,U R e.mn,U R e.mx,af ga e.aB.length gc,af ea e.aA.length ec,af (J ⟨g',0,I⟩) (e.first.length+1) cap',af la e.last.length lc] 84 (0,0))):=by show _=_;rw[hY];exact p_ H8.o.1 _
      have iA:aa (bD rb w0 Y):=by show bD _ _ _;rw[hY];exact H8.o.2.setCell (p:=⟨eb,8,I⟩) (aP (bw HS.o.1.size lT.o.2.2)) _
      have rN:aa (L<=Y.heap.size):=by show _<=_;rw[hY];simpa[World.setCell]using vk.o
      have rO:aa (({ x with f:=af (J ⟨g',0,I⟩) (e.first.length+1) cap' }:cn).row { e with first:=e.first++[v0] }=#[aq e.name,U R e.aJ,af pa e.ak.length pc,U R e.cnt,U R e.mn,U R e.mx,af ga e.aB.length gc,af ea e.aA.length ec,af (J ⟨g',0,I⟩) (e.first.length+1) cap',af la e.last.length lc]):=by show _=_;rw[aT.o.2];rfl
      clear hY d8 d9 lH lD y0 y1 u0;have e4:Y.cell? ⟨rb,4,I⟩=J (af (J ⟨g,0,I⟩) (n+1) cap):=by have:=bz.o.row;rw[aX.o];simp[World.cell?,this,bV]
      have q0:Y.cell? ⟨eb,0,I⟩=J (aq e.name):=by simp[World.cell?,cL.o]
      have p0:Y.cell? ⟨g,n*10,I⟩=J (aq e.name):=by have:=(bz.o.aZ (j:=0) (u:=aq e.name) (by rw[aT.o.1];rfl)).1;rw[aX.o];simpa using this
      have f0:Y.frozen? ⟨g,n*10,I⟩=false:=by have:=(bz.o.aZ (j:=0) (u:=aq e.name) (by rw[aT.o.1];rfl)).2;rw[aX.o];simpa using this
      have q1:Y.cell? ⟨eb,1,I⟩=J (U R e.aJ):=by simp[World.cell?,cL.o]
      have p1:Y.cell? ⟨g,n*10+1,I⟩=J (U R e.aJ):=by have:=(bz.o.aZ (j:=1) (u:=U R e.aJ) (by rw[aT.o.1];rfl)).1;rw[aX.o];simpa using this
      have f1:Y.frozen? ⟨g,n*10+1,I⟩=false:=by have:=(bz.o.aZ (j:=1) (u:=U R e.aJ) (by rw[aT.o.1];rfl)).2;rw[aX.o];simpa using this
      have q2:Y.cell? ⟨eb,2,I⟩=J (af pa e.ak.length pc):=by simp[World.cell?,cL.o]
      have p2:Y.cell? ⟨g,n*10+2,I⟩=J (af pa e.ak.length pc):=by have:=(bz.o.aZ (j:=2) (u:=af pa e.ak.length pc) (by rw[aT.o.1];rfl)).1;rw[aX.o];simpa using this
      have f2:Y.frozen? ⟨g,n*10+2,I⟩=false:=by have:=(bz.o.aZ (j:=2) (u:=af pa e.ak.length pc) (by rw[aT.o.1];rfl)).2;rw[aX.o];simpa using this
      have q3:Y.cell? ⟨eb,3,I⟩=J (U R e.cnt):=by simp[World.cell?,cL.o]
      have p3:Y.cell? ⟨g,n*10+3,I⟩=J (U R e.cnt):=by have:=(bz.o.aZ (j:=3) (u:=U R e.cnt) (by rw[aT.o.1];rfl)).1;rw[aX.o];simpa using this
      have f3:Y.frozen? ⟨g,n*10+3,I⟩=false:=by have:=(bz.o.aZ (j:=3) (u:=U R e.cnt) (by rw[aT.o.1];rfl)).2;rw[aX.o];simpa using this
      have q4:Y.cell? ⟨eb,4,I⟩=J (U R e.mn):=by simp[World.cell?,cL.o]
      have p4:Y.cell? ⟨g,n*10+4,I⟩=J (U R e.mn):=by have:=(bz.o.aZ (j:=4) (u:=U R e.mn) (by rw[aT.o.1];rfl)).1;rw[aX.o];simpa using this
      have f4:Y.frozen? ⟨g,n*10+4,I⟩=false:=by have:=(bz.o.aZ (j:=4) (u:=U R e.mn) (by rw[aT.o.1];rfl)).2;rw[aX.o];simpa using this
      have q5:Y.cell? ⟨eb,5,I⟩=J (U R e.mx):=by simp[World.cell?,cL.o]
      have p5:Y.cell? ⟨g,n*10+5,I⟩=J (U R e.mx):=by have:=(bz.o.aZ (j:=5) (u:=U R e.mx) (by rw[aT.o.1];rfl)).1;rw[aX.o];simpa using this
      have f5:Y.frozen? ⟨g,n*10+5,I⟩=false:=by have:=(bz.o.aZ (j:=5) (u:=U R e.mx) (by rw[aT.o.1];rfl)).2;rw[aX.o];simpa using this
      have q6:Y.cell? ⟨eb,6,I⟩=J (af ga e.aB.length gc):=by simp[World.cell?,cL.o]
      have p6:Y.cell? ⟨g,n*10+6,I⟩=J (af ga e.aB.length gc):=by have:=(bz.o.aZ (j:=6) (u:=af ga e.aB.length gc) (by rw[aT.o.1];rfl)).1;rw[aX.o];simpa using this
      have f6:Y.frozen? ⟨g,n*10+6,I⟩=false:=by have:=(bz.o.aZ (j:=6) (u:=af ga e.aB.length gc) (by rw[aT.o.1];rfl)).2;rw[aX.o];simpa using this
      have q7:Y.cell? ⟨eb,7,I⟩=J (af ea e.aA.length ec):=by simp[World.cell?,cL.o]
      have p7:Y.cell? ⟨g,n*10+7,I⟩=J (af ea e.aA.length ec):=by have:=(bz.o.aZ (j:=7) (u:=af ea e.aA.length ec) (by rw[aT.o.1];rfl)).1;rw[aX.o];simpa using this
      have f7:Y.frozen? ⟨g,n*10+7,I⟩=false:=by have:=(bz.o.aZ (j:=7) (u:=af ea e.aA.length ec) (by rw[aT.o.1];rfl)).2;rw[aX.o];simpa using this
      have q8:Y.cell? ⟨eb,8,I⟩=J (af (J ⟨g',0,I⟩) (e.first.length+1) cap'):=by simp[World.cell?,cL.o]
      have p8:Y.cell? ⟨g,n*10+8,I⟩=J (af fa e.first.length fc):=by have:=(bz.o.aZ (j:=8) (u:=af fa e.first.length fc) (by rw[aT.o.1];rfl)).1;rw[aX.o];simpa using this
      have f8:Y.frozen? ⟨g,n*10+8,I⟩=false:=by have:=(bz.o.aZ (j:=8) (u:=af fa e.first.length fc) (by rw[aT.o.1];rfl)).2;rw[aX.o];simpa using this
      have q9:Y.cell? ⟨eb,9,I⟩=J (af la e.last.length lc):=by simp[World.cell?,cL.o]
      have p9:Y.cell? ⟨g,n*10+9,I⟩=J (af la e.last.length lc):=by have:=(bz.o.aZ (j:=9) (u:=af la e.last.length lc) (by rw[aT.o.1];rfl)).1;rw[aX.o];simpa using this
      have f9:Y.frozen? ⟨g,n*10+9,I⟩=false:=by have:=(bz.o.aZ (j:=9) (u:=af la e.last.length lc) (by rw[aT.o.1];rfl)).2;rw[aX.o];simpa using this
      go_wp2_with fail
      go_region
      all_goals
       obtain⟨Z,hZ⟩:∃Z,Z=((((((((((Y.setCell ⟨g,n*10,I⟩ (aq e.name)).setCell ⟨g,n*10+1,I⟩ (U R e.aJ)).setCell ⟨g,n*10+2,I⟩ (af pa e.ak.length pc)).setCell ⟨g,n*10+3,I⟩ (U R e.cnt)).setCell ⟨g,n*10+4,I⟩ (U R e.mn)).setCell ⟨g,n*10+5,I⟩ (U R e.mx)).setCell ⟨g,n*10+6,I⟩ (af ga e.aB.length gc)).setCell ⟨g,n*10+7,I⟩ (af ea e.aA.length ec)).setCell ⟨g,n*10+8,I⟩ (af (J ⟨g',0,I⟩) (e.first.length+1) cap')).setCell ⟨g,n*10+9,I⟩ (af la e.last.length lc)):=⟨_,rfl⟩;rw[<- hZ];have eP:aa (gO w0.heap.size rb L g cap Z c ⟨#[102,105,114,115,116]⟩ es { e with first:=e.first++[v0] } ({ x with f:=af (J ⟨g',0,I⟩) (e.first.length+1) cap' }) cells):=by
        rw[hZ];exact bz.o.AP (by rw[aX.o]) (by rw[rO.o])
       have ey:aa (bD rb w0 Z):=by
        obtain⟨cur,-,rP⟩:=bz.o.grow;have hle:g=rb\/w0.heap.size<=g:=aP rP;show bD _ _ _
        rw[hZ];exact((((((((((iA.o.setCell (p:=⟨g,n*10,I⟩) hle _).setCell (p:=⟨g,n*10+1,I⟩) hle _).setCell (p:=⟨g,n*10+2,I⟩) hle _).setCell (p:=⟨g,n*10+3,I⟩) hle _).setCell (p:=⟨g,n*10+4,I⟩) hle _).setCell (p:=⟨g,n*10+5,I⟩) hle _).setCell (p:=⟨g,n*10+6,I⟩) hle _).setCell (p:=⟨g,n*10+7,I⟩) hle _).setCell (p:=⟨g,n*10+8,I⟩) hle _).setCell (p:=⟨g,n*10+9,I⟩) hle _)
       have rQ:aa (L<=Z.heap.size):=by show _<=_;rw[hZ];simpa[World.setCell]using rN.o
       clear hZ e4 q0 p0 f0 q1 p1 f1 q2 p2 f2 q3 p3 f3 q4 p4 f4 q5 p5 f5 q6 p6 f6 q7 p7 f7 q8 p8 f8 q9 p9 f9;go_wp2;go_ret
       refine⟨by rw[ft.o];rfl,ey.o.drew,λ_=>aP ⟨L,g,cap,es,{ e with first:=e.first++[v0] },({ x with f:=af (J ⟨g',0,I⟩) (e.first.length+1) cap' }),cells,?_,rQ.o,?_⟩⟩
       ·rw[mV.o,show (aY (bq e.ak) false (form 8) [bl s0]).2=_ from lR.o];exact(by simp only[ed];rw[pj.o,pD];rfl)
       exact gO.cfg (bX.below eP.o (aC _ _).drew) (λ_ _=>rfl)
  have HE:aa (bR last c 8 ws=1):=by show _=_;rw[HK.o];exact rL _ _ _ (by rw[<- HM.o.2,fL];exact hN)
  have mN:¬(m:Int)=1+1:=by have:=HM.o.1;omega
  clear hN;go_wp2;go_ret;exact⟨by rw[HE.o];rfl,bK.o _ (aC _ _),λh0=>by rw[HE.o]at h0;cases h0⟩
theorem ahR(w0 w:ai)(rb:Nat)(c:aS)(last:Int)(l:ByteArray)(ws:List Bs)(hb0:bD rb w0 w)(h:eO w0.heap.size rb w c (cf last))(hl:l.size<=1000000)(l0:-1<=last)(l9:last<=9)(hO:gZ 1000000 c last)(hcut:bW 32 (bl l)=kw 9::ws):Calls prog 16 #[aj (J ⟨rb,0,I⟩),aq l] w λv w'=>v=ax (U R (bR last c 9 ws:Nat))/\bD rb w0 w'/\(bR last c 9 ws=0->eO w0.heap.size rb w' (ed c 9 ws (aY (bq (bO c.aw)) false (form 9) ws).2) (eN 9)):=by
 obtain⟨i0,hi,hz0,hz1,hz2⟩:=fj ny;have HS:aa (bD rb w0 w/\eO w0.heap.size rb w c (cf last)):=⟨hb0,h⟩;have HO:aa (gZ 1000000 c last):=hO;have gD:aa (Calls prog 15 #[aq l,U .u8 32] w λe w'=>∃(wt:List ByteArray) (g cap m:Nat),e=ax (af (J ⟨g,0,I⟩) m cap)/\m=wt.length+1/\wt.map bl=ws/\w'.ownsRow w.heap.size 9 1 (af (J ⟨g,0,I⟩) m cap) m ((⟨#[108,97,115,116]⟩::wt).flatMap bS)/\Below w.heap.size w w'):=by
  refine(pZ l 32 w hl).mono ?_;rintro e w' ⟨wl,g,cap,rfl,h1,h2,h3⟩;rw[hcut]at h1;obtain⟨wt,rfl,h4⟩:=tz h1;exact⟨wt,g,cap,_,rfl,rfl,h4,h2,h3⟩
 have gP:aa (∀V,Below w.heap.size w V->Calls prog 53 #[aj (J ⟨rb,0,I⟩),aq ⟨#[108,97,115,116]⟩] V λe w'=>e=ax (aI (may last 9))/\Below V.heap.size V w'):=λV hV=>by
  have hc:V.cell? ⟨rb,5,I⟩=J (aq (cf last)):=by
   rcases h.below hV with h1|⟨_,_,_,_,_,_,_,_,_,h1⟩
   ·have:=h1.row;simp[World.cell?,this,bV]
   have:=h1.row;simp[World.cell?,this,bV]
  exact rJ rb last (eN 9) V l0 l9 hc
 clear hb0 h hl l0 l9 hO hcut;go_enter func16,ntmps16
 go_wp2_with fail
 refine aL gD.o ?_;rintro v w1 ⟨wt,wg,wc,m,rfl,hm,fq,hown,hb1⟩;have aO:aa (Below w.heap.size w w1):=hb1;have lQ:aa (w.heap.size<=wg):=by
  show _<=_
  exact(hown.lt wg rfl).1
 have HW:aa (∀V,Below w1.heap.size w1 V->∀j s,(⟨#[108,97,115,116]⟩::wt)[j]?=J s->V.cell? ⟨wg,j,I⟩=J (aq s)):=λV hV j s hj=>aG hV (qE hown j s hj)
 have HM:aa (m=wt.length+1/\wt.map bl=ws):=⟨hm,fq⟩;have c0:w1.cell? ⟨wg,0,I⟩=J (aq ⟨#[108,97,115,116]⟩):=HW.o w1 (aC _ _) 0 _ rfl;have m0:(0:Int)<(m:Int):=by omega
 clear hm fq hown hb1 gD;go_wp2_with fail
 refine aL (gP.o w1 aO.o) ?_;rintro v w2 ⟨rfl,hb2⟩;have aW:aa (Below w.heap.size w w2):=aO.o.trans (hb2.mono aO.o.size);have bL:aa (Below w1.heap.size w1 w2):=hb2;have bK:aa (∀V,Below w2.heap.size w2 V->bD rb w0 V):=λV hV=>HS.o.1.trans ((aW.o.trans (hV.mono aW.o.size)).mono HS.o.1.size)
 clear hb2 gP c0
 cases cZ:may last 9 with
 |false=>
  have HE:aa (bR last c 9 ws=1):=tr cZ;clear cZ;go_wp2;go_ret;exact⟨by rw[HE.o];rfl,bK.o _ (aC _ _),λh0=>by rw[HE.o]at h0;cases h0⟩
 |true=>
  have HY:aa (may last 9=true):=cZ;have HK:aa (bR last c 9 ws=(aY (bq (bO c.aw)) false (form 9) ws).1):=tu cZ;clear cZ
  by_cases hN:wt.length=1
  ·obtain⟨s0,rfl⟩:∃s0,wt=[s0]:=by
    match wt,hN with
    |[s0],_=>exact⟨s0,rfl⟩
   obtain rfl:ws=[bl s0]:=HM.o.2.symm.trans rfl;obtain rfl:m=1+1:=HM.o.1;clear HM hN;obtain⟨L,g,cap,es,e,x,cells,hce,eG,hD⟩:∃L g cap es e x cells,c.aw=es++[e]/\L<=w.heap.size/\gO w0.heap.size rb L g cap w c (cf last) es e x cells:=by
    rcases HS.o.2 with h1|h1
    ·exact absurd h1.nil (HO.o.e3 (yD (by decide) HY.o))
    exact h1
   have pj:aa (c.aw=es++[e]):=hce;have np:aa (L<=w.heap.size):=eG;have mV:aa (bO c.aw=e.ak):=by show _=_;rw[hce];exact yx _ _
   rw[mV.o]at HK;have H1:aa (∀V,Below w.heap.size w V->gO w0.heap.size rb L g cap V c (cf last) es e x cells):=λV hV=>bX.below hD hV
   obtain⟨pa,pc,eu⟩:=cJ hD.new.hp;have rM:aa (x.p=af pa e.ak.length pc):=eu;have fK:aa (es.length<1000000/\nM 1000000 e):=⟨by have:=HO.o.len;rw[hce,dm]at this;simp at this;omega,HO.o.sz e (by rw[hce];simp)⟩;obtain⟨n,hn⟩:∃n,n=es.length:=⟨_,rfl⟩;have aX:aa (n=es.length):=hn;have Dw:n<1000000:=by have:=fK.o.1;omega
   have Dx:(n:Int)<(n:Int)+1:=by omega
   have Dy:¬(n:Int)<0:=by omega
   have kD:aa (∀V,Below w.heap.size w V->V.cell? ⟨rb,4,I⟩=J (af (J ⟨g,0,I⟩) (n+1) cap)):=λV hV=>by have:=(H1.o V hV).row;rw[hn];simp[World.cell?,this,bV]
   have iy:aa (∀V,Below w.heap.size w V->V.cell? ⟨g,n*10+2,I⟩=J (af pa e.ak.length pc)):=λV hV=>by rw[hn,<- eu];exact((H1.o V hV).aZ (j:=2) rfl).1
   have qG:aa (∀s V,Below w.heap.size w V->Calls prog 55 #[af pa e.ak.length pc,aq s] V λe' w'=>e'=ax (U R (idxOf e.ak s))/\w'=V):=λs V hV=>wk e.ak s pa pc V (by rw[<- eu];exact bU.jc (enc:=bS) (H1.o V hV).new.hp (λ_=>rfl)) fK.o.2.p
   have e4:=kD.o w2 aW.o;clear hce eG hD eu hn;go_wp2_with fail
   go_loopw [9,10,11,12] (λnv ov iv _ wr=>∃(j:Nat) (nn:Bool) (vs:List Int) (na:Option az) (nc:Nat),j<=1/\iv=U R j/\ov=aI nn/\nv=af na j nc/\wr.ownsRow w2.heap.size 3 1 (af na j nc) j (vs.flatMap bm)/\Below w2.heap.size w2 wr/\dR (bq e.ak) [2] [bl s0] j nn vs) (λ_ _ iv _ _=>1-(intOf iv).toNat)
   case atStart=>exact⟨0,false,[],I,0,bI _,rfl,rfl,rfl,fC _ _ _ _,aC _ _,dR.start _ _ _⟩
   case round=>
    obtain⟨j,nn,vs,na,nc,hj,rfl,rfl,rfl,hown,hb,hf⟩:=hrel;have HB:aa (Below w2.heap.size w2 wr):=hb;have bE:aa (wr.ownsRow w2.heap.size 3 1 (af na j nc) j (vs.flatMap bm)):=hown;have HF:aa (dR (bq e.ak) [2] [bl s0] j nn vs):=hf;clear hb hown hf e4
    by_cases hlt:j<1
    ·clear hj;obtain rfl:j=0:=by omega
     clear hlt;have e5:=kD.o wr (aW.o.trans (HB.o.mono aW.o.size));have e6:=iy.o wr (aW.o.trans (HB.o.mono aW.o.size));have d0:=HW.o wr (bL.o.trans (HB.o.mono bL.o.size)) 1 s0 rfl;have jN:aa (∀q,Calls prog 55 #[af pa e.ak.length pc,aq s0] (wr.drewN q) λe' w'=>e'=ax (U R (idxOf e.ak s0))/\w'=wr.drewN q):=λq=>qG.o s0 _ (aW.o.trans ((cg HB.o q).mono aW.o.size))
     have kT:aa (¬s0=⟨#[]⟩->_):=@yM e.ak s0;generalize idxOf e.ak s0=z at *;go_upto_region 38 with fail
     go_cut [12] (λxv wv=>xv=U R z/\Below w2.heap.size w2 wv/\wv.ownsRow w2.heap.size 3 1 (af na 0 nc) 0 (vs.flatMap bm))
     case first=>
      go_wp2_with fail
      go_quiet (first|(go_at_call 55;exact o8 (jN.o _)))
      go_wp2_with fail
      go_meet
      case rel=>exact⟨rfl,cg HB.o _,bE.o⟩
     obtain⟨rfl,fk,ji⟩:=hcut;clear HB bE jN e5 e6 d0;rename ai=>wr
     have HB:aa (Below w2.heap.size w2 wr):=fk;have bE:aa (wr.ownsRow w2.heap.size 3 1 (af na 0 nc) 0 (vs.flatMap bm)):=ji;clear fk ji;have d0:=HW.o wr (bL.o.trans (HB.o.mono bL.o.size)) 1 s0 rfl
     by_cases d_:s0=⟨#[]⟩
     ·have HE:aa (bR last c 9 [bl s0]=1):=by show _=_;rw[HK.o];exact HF.o.bad rfl rfl (by rw[d_];exact uZ)
      obtain⟨n1,n2⟩:=nO d_;clear d_
      by_cases z0:z<0
      ·go_wp2;go_ret;exact⟨by rw[HE.o];rfl,bK.o _ HB.o,λh0=>by rw[HE.o]at h0;cases h0⟩
      go_wp2;go_ret;exact⟨by rw[HE.o];rfl,bK.o _ HB.o,λh0=>by rw[HE.o]at h0;cases h0⟩
     have iU:aa _:=kT.o d_;obtain⟨n1,n2⟩:=eM d_;clear d_
     by_cases z0:z<0
     ·have HZ:aa ((bF (bq e.ak) 2 (bl s0)).1=5):=by show _=_;rw[iU.o.1,aR z0]
      go_wp2_with (at_builtin;refine fw _ rfl _ _ 65 rfl w2.heap.size 3 i0 (U R 0) 1 8 underlying65 hi hz0 hz1 hz2 rfl (by decide) (af na 0 nc) 0 (vs.flatMap bm) rfl (bE.o.alloc _) ⟨wr.heap.size,0,.none⟩ 1 1 [U R z] rfl rfl (h_ _ _ _) (by intro u hu;simp at hu;subst hu;rfl) (by unfold maxLen;omega) (by omega) (by have:=HB.o.size;simp;omega) ?_;intro v1 w4 hown1 dh ij)
      obtain⟨dS,df,cC⟩:=cJ hown1;subst cC;go_roundw
      case rel=>exact⟨0+1,true,vs++[z],dS,df,by omega,rfl,rfl,rfl,by simpa[dP,bm]using hown1,(HB.o.alloc HB.o.size _).grown dh (by have:=HB.o.size;simp;omega) (λq hq=>(bE.o.lt q hq).1),HF.o.next rfl rfl true z (by rw[HZ.o];decide) (by rw[HZ.o];simp) (λh0=>by cases h0)⟩
      case measure=>simp[intOf]
     have HZ:aa ((bF (bq e.ak) 2 (bl s0)).1=0/\(bF (bq e.ak) 2 (bl s0)).2=z):=⟨by rw[iU.o.1,aK z0],iU.o.2 (by omega)⟩;go_wp2_with (at_builtin;refine fw _ rfl _ _ 65 rfl w2.heap.size 3 i0 (U R 0) 1 8 underlying65 hi hz0 hz1 hz2 rfl (by decide) (af na 0 nc) 0 (vs.flatMap bm) rfl (bE.o.alloc _) ⟨wr.heap.size,0,.none⟩ 1 1 [U R z] rfl rfl (h_ _ _ _) (by intro u hu;simp at hu;subst hu;rfl) (by unfold maxLen;omega) (by omega) (by have:=HB.o.size;simp;omega) ?_;intro v1 w4 hown1 dh ij)
     obtain⟨dS,df,cC⟩:=cJ hown1;subst cC;go_roundw
     case rel=>exact⟨0+1,nn,vs++[z],dS,df,by omega,rfl,rfl,rfl,by simpa[dP,bm]using hown1,(HB.o.alloc HB.o.size _).grown dh (by have:=HB.o.size;simp;omega) (λq hq=>(bE.o.lt q hq).1),HF.o.next rfl rfl nn z (by rw[HZ.o.1];decide) (by rw[HZ.o.1];simp) (λ_=>HZ.o.2.symm)⟩
     case measure=>simp[intOf]
    obtain rfl:j=1:=by omega
    clear hlt hj;obtain⟨cA,fu⟩:=(show dR (bq e.ak) [2] [bl s0] ([2]:List Nat).length nn vs from HF.o).done rfl
    cases nn with
    |true=>
     have HE:aa (bR last c 9 [bl s0]=5):=by show _=_;rw[HK.o];exact cA
     clear cA fu;go_wp2;go_ret;exact⟨by rw[HE.o];rfl,bK.o _ HB.o,λh0=>by rw[HE.o]at h0;cases h0⟩
    |false=>
     have ft:aa (bR last c 9 [bl s0]=0):=by show _=_;rw[HK.o];exact cA
     have lR:aa ((aY (bq e.ak) false [2] [bl s0]).2=vs):=fu rfl;have hlen:=HF.o.len;clear cA fu;obtain⟨v0,rfl⟩:∃v0,vs=[v0]:=by
      match vs,hlen with
      |[v0],_=>exact⟨v0,rfl⟩
     obtain⟨ng,df,ki⟩:=rK bE.o
     cases ki
     have lS:aa (w2.heap.size<=ng):=by show _<=_;exact(bE.o.lt ng rfl).1
     have x0:=mq bE.o 0 v0 rfl;have cY:aa (Below w.heap.size w wr):=aW.o.trans (HB.o.mono aW.o.size);have d0:=HW.o wr (bL.o.trans (HB.o.mono bL.o.size)) 0 _ rfl;have d1:=HW.o wr (bL.o.trans (HB.o.mono bL.o.size)) 1 _ rfl;clear hlen HF;have hbase:=H1.o wr cY.o;have qz:rb<w.heap.size:=bJ (H1.o w (aC _ _)).row;have wO:g<w.heap.size:=by obtain⟨cur,h1,-⟩:=(H1.o w (aC _ _)).grow;exact bJ h1
     have eH:¬rb=wg:=by have:=lQ.o;omega
     have u_:¬wg=rb:=λe2=>eH e2.symm
     have gF:¬rb=ng:=by have:=aW.o.size;have:=lS.o;omega
     have ve:¬ng=rb:=λe2=>gF e2.symm
     have hrow:=hbase.row;have r5:wr.cell? ⟨rb,5,I⟩=J (aq (cf last)):=by simp[World.cell?,hrow,bV]
     have f5:wr.frozen? ⟨rb,5,I⟩=false:=by simp[World.frozen?,hrow]
     clear hrow;go_upto_region 62 with fail
     obtain⟨Wz,cB⟩:∃V,V=wr.setCell ⟨rb,5,I⟩ (aq ⟨#[108,97,115,116]⟩):=⟨_,rfl⟩;rw[<- cB];have bP:aa (bX w0.heap.size rb L g cap Wz c ⟨#[108,97,115,116]⟩ es (x.row e).toList e x cells):=by rw[cB];exact bX.pk hbase 5 (aq ⟨#[108,97,115,116]⟩) rfl
     have jh:aa (bD rb w0 Wz):=by rw[cB];exact(bK.o _ HB.o).setCell (p:=⟨rb,5,I⟩) hbase.lo _
     have mW:aa (w.heap.size<=Wz.heap.size):=by show _<=_;rw[cB];have:=cY.o.size;simpa[World.setCell]using this
     have y0:Wz.cell? ⟨wg,0,I⟩=J (aq ⟨#[108,97,115,116]⟩):=by rw[cB,eD (a_ eH) rfl rfl];exact d0
     have y1:Wz.cell? ⟨wg,1,I⟩=J (aq s0):=by rw[cB,eD (a_ eH) rfl rfl];exact d1
     have u0:Wz.cell? ⟨ng,0,I⟩=J (U R v0):=by rw[cB,eD (a_ gF) rfl rfl];exact x0
     clear cB r5 f5 hbase d0 d1 x0;obtain⟨ga,gc,il⟩:=cJ bP.o.new.hg;obtain⟨ea,ec,kj⟩:=cJ bP.o.new.he;obtain⟨fa,fc,fx⟩:=cJ bP.o.new.hf;obtain⟨la,lc,iL⟩:=cJ bP.o.new.hl;have aT:aa (x.row e=#[aq e.name,U R e.aJ,af pa e.ak.length pc,U R e.cnt,U R e.mn,U R e.mx,af ga e.aB.length gc,af ea e.aA.length ec,af fa e.first.length fc,af la e.last.length lc]/\x=⟨af pa e.ak.length pc,af ga e.aB.length gc,af ea e.aA.length ec,af fa e.first.length fc,af la e.last.length lc⟩):=by
      have eu:=rM.o;obtain⟨xp,xg,xe,xf,xl⟩:=x;simp only at eu il kj fx iL;subst eu il kj fx iL;exact⟨rfl,rfl⟩
     clear il kj fx iL;have e4:Wz.cell? ⟨rb,4,I⟩=J (af (J ⟨g,0,I⟩) (n+1) cap):=by have:=bP.o.row;rw[aX.o];simp[World.cell?,this,bV]
     have q0:Wz.cell? ⟨g,n*10,I⟩=J (aq e.name):=by have:=(bP.o.aZ (j:=0) (u:=aq e.name) (by rw[aT.o.1];rfl)).1;rw[aX.o];simpa using this
     have q1:Wz.cell? ⟨g,n*10+1,I⟩=J (U R e.aJ):=by have:=(bP.o.aZ (j:=1) (u:=U R e.aJ) (by rw[aT.o.1];rfl)).1;rw[aX.o];simpa using this
     have q2:Wz.cell? ⟨g,n*10+2,I⟩=J (af pa e.ak.length pc):=by have:=(bP.o.aZ (j:=2) (u:=af pa e.ak.length pc) (by rw[aT.o.1];rfl)).1;rw[aX.o];simpa using this
     have q3:Wz.cell? ⟨g,n*10+3,I⟩=J (U R e.cnt):=by have:=(bP.o.aZ (j:=3) (u:=U R e.cnt) (by rw[aT.o.1];rfl)).1;rw[aX.o];simpa using this
     have q4:Wz.cell? ⟨g,n*10+4,I⟩=J (U R e.mn):=by have:=(bP.o.aZ (j:=4) (u:=U R e.mn) (by rw[aT.o.1];rfl)).1;rw[aX.o];simpa using this
     have q5:Wz.cell? ⟨g,n*10+5,I⟩=J (U R e.mx):=by have:=(bP.o.aZ (j:=5) (u:=U R e.mx) (by rw[aT.o.1];rfl)).1;rw[aX.o];simpa using this
     have q6:Wz.cell? ⟨g,n*10+6,I⟩=J (af ga e.aB.length gc):=by have:=(bP.o.aZ (j:=6) (u:=af ga e.aB.length gc) (by rw[aT.o.1];rfl)).1;rw[aX.o];simpa using this
     have q7:Wz.cell? ⟨g,n*10+7,I⟩=J (af ea e.aA.length ec):=by have:=(bP.o.aZ (j:=7) (u:=af ea e.aA.length ec) (by rw[aT.o.1];rfl)).1;rw[aX.o];simpa using this
     have q8:Wz.cell? ⟨g,n*10+8,I⟩=J (af fa e.first.length fc):=by have:=(bP.o.aZ (j:=8) (u:=af fa e.first.length fc) (by rw[aT.o.1];rfl)).1;rw[aX.o];simpa using this
     have q9:Wz.cell? ⟨g,n*10+9,I⟩=J (af la e.last.length lc):=by have:=(bP.o.aZ (j:=9) (u:=af la e.last.length lc) (by rw[aT.o.1];rfl)).1;rw[aX.o];simpa using this
     go_upto_region 63 with fail
     obtain⟨V,hV⟩:∃V,V=Wz.alloc (au #[aq e.name,U R e.aJ,af pa e.ak.length pc,U R e.cnt,U R e.mn,U R e.mx,af ga e.aB.length gc,af ea e.aA.length ec,af fa e.first.length fc,af la e.last.length lc] 84):=⟨_,rfl⟩;rw[<- hV];obtain⟨eb,km⟩:∃b,b=Wz.heap.size:=⟨_,rfl⟩;rw[<- km];have dG:aa (Below Wz.heap.size Wz V):=by show Below _ _ _;rw[hV];exact aN _ _
     have jz:aa (bX w0.heap.size rb L g cap V c ⟨#[108,97,115,116]⟩ es (x.row e).toList e x cells):=bP.o.below dG.o;have gC:aa (bD rb w0 V):=jh.o.trans (dG.o.mono jh.o.size);have jO:aa (V.heap[eb]?=J (au #[aq e.name,U R e.aJ,af pa e.ak.length pc,U R e.cnt,U R e.mn,U R e.mx,af ga e.aB.length gc,af ea e.aA.length ec,af fa e.first.length fc,af la e.last.length lc] 84 (0,0))):=by show _=_;rw[hV,km];exact cR Wz _
     have lT:aa (eb≠g/\eb≠rb/\w.heap.size<=eb):=by have:=mW.o;exact⟨by omega,by omega,by omega⟩
     have nP:aa (L<=V.heap.size):=bw np.o (bw mW.o dG.o.size);have y0:=aG dG.o y0;have y1:=aG dG.o y1;have u0:=aG dG.o u0;clear hV km e4 q0 q1 q2 q3 q4 q5 q6 q7 q8 q9;obtain⟨j0,hj,qB,tA,nt⟩:=fj ny;have q2:V.cell? ⟨eb,9,I⟩=J (af la e.last.length lc):=by simp[World.cell?,jO.o]
     have vg:∀ob,(V.alloc ob).cell? ⟨eb,9,I⟩=J (af la e.last.length lc):=λob=>aG (aN _ _) q2
     have hown:V.drew.ownsRow L 3 1 (af la e.last.length lc) e.last.length (e.last.flatMap bm):=by have:=jz.o.new.hl;rw[aT.o.2]at this;exact this
     have lH:=nP.o;have lD:e.last.length<=1000000:=fK.o.2.l;have KB:aa (∀(ob:Obj) (w8:ai),(V.drew.alloc ob).grownBy w8 (Value.slice la e.last.length lc).ownBlock->w8.heap[eb]?=J (au #[aq e.name,U R e.aJ,af pa e.ak.length pc,U R e.cnt,U R e.mn,U R e.mx,af ga e.aB.length gc,af ea e.aA.length ec,af fa e.first.length fc,af la e.last.length lc] 84 (0,0))/\bD rb w0 w8):=λob w8 hg=>by
      have bb:Below V.heap.size V (V.drew.alloc ob):=(aC V.heap.size V).drew.alloc (by simp) ob;have pq:=jz.o.below bb;have b3:bD rb w0 (V.drew.alloc ob):=gC.o.trans (bb.mono gC.o.size);have k3:=bG bb jO.o;have pw:(V.drew.alloc ob).ownsRow L 3 1 (af la e.last.length lc) e.last.length (e.last.flatMap bm):=by have:=pq.new.hl;rw[aT.o.2]at this;exact this
      exact⟨(hg.block eb (bJ k3) (λe2=>dZ pw k3 (by decide) e2.symm)).trans k3,b3.grown hg b3.size (λb hb=>bw pq.jL (pw.lt b hb).1)⟩
     go_wp2_with fail
     go_region_law (refine ni _ rfl (.tmp 259) (.tmp 263) 65 rfl L 3 j0 (U R 0) 1 8 underlying65 hj qB tA nt rfl (by decide) (af la e.last.length lc) e.last.length (e.last.flatMap bm) (by simp[Act.eval]) (hown.alloc _) ⟨V.heap.size,0,.none⟩ 1 1 [U R v0] (by simp[Act.eval]) rfl (h_ V.drew (U R v0) 3) (xB v0) (by decide) (by unfold maxLen;omega) (by omega) (by simp;omega) (V.heap.size+1) (by simp) ?_;intro g' cap' w8 dy bZ cH ld;have r8:=KB.o _ _ bZ;have d8:w8.cell? ⟨eb,9,I⟩=J (af la e.last.length lc):=(by simp[World.cell?,r8.1]);have d9:w8.frozen? ⟨eb,9,I⟩=false:=(by simp[World.frozen?,r8.1]))
     all_goals
      have H8:aa (_/\_):=r8;have vh:aa (bX w0.heap.size rb L g cap w8 c ⟨#[108,97,115,116]⟩ es (x.row e).toList { e with last:=e.last++[v0] } ({ x with l:=af (J ⟨g',0,I⟩) (e.last.length+1) cap' }) cells):=(jz.o.below (w':=V.drew.alloc _) ((aC V.heap.size V).drew.alloc (by simp) _)).Kc v0 (by rw[aT.o.2];exact bZ) dy (ahu (w:=V) jz.o.new (by rw[aT.o.2];exact cH) jz.o.fl (by simp));have vk:aa (L<=w8.heap.size):=by have h1:=bZ.size;have h2:=nP.o;show _<=_;simp at h1;omega
      clear bZ dy r8 cH q2 vg hown;go_upto_region 78 with fail
      obtain⟨Y,hY⟩:∃Y,Y=w8.setCell ⟨eb,9,I⟩ (af (J ⟨g',0,I⟩) (e.last.length+1) cap'):=⟨_,rfl⟩;rw[<- hY];have bz:aa (bX w0.heap.size rb L g cap Y c ⟨#[108,97,115,116]⟩ es (x.row e).toList { e with last:=e.last++[v0] } ({ x with l:=af (J ⟨g',0,I⟩) (e.last.length+1) cap' }) cells):=by rw[hY];exact vh.o.qR eb 9 _ H8.o.1 lT.o.1
      have cL:aa (Y.heap[eb]?=J (au #[aq e.name,U R e.aJ,af pa e.ak.length pc,U R e.cnt,U R e.mn,U R e.mx,af ga e.aB.length gc,af ea e.aA.length ec,af fa e.first.length fc,af (J ⟨g',0,I⟩) (e.last.length+1) cap'] 84 (0,0))):=by show _=_;rw[hY];exact p_ H8.o.1 _
      have iA:aa (bD rb w0 Y):=by show bD _ _ _;rw[hY];exact H8.o.2.setCell (p:=⟨eb,9,I⟩) (aP (bw HS.o.1.size lT.o.2.2)) _
      have rN:aa (L<=Y.heap.size):=by show _<=_;rw[hY];simpa[World.setCell]using vk.o
      have rO:aa (({ x with l:=af (J ⟨g',0,I⟩) (e.last.length+1) cap' }:cn).row { e with last:=e.last++[v0] }=#[aq e.name,U R e.aJ,af pa e.ak.length pc,U R e.cnt,U R e.mn,U R e.mx,af ga e.aB.length gc,af ea e.aA.length ec,af fa e.first.length fc,af (J ⟨g',0,I⟩) (e.last.length+1) cap']):=by show _=_;rw[aT.o.2];rfl
      clear hY d8 d9 lH lD y0 y1 u0;have e4:Y.cell? ⟨rb,4,I⟩=J (af (J ⟨g,0,I⟩) (n+1) cap):=by have:=bz.o.row;rw[aX.o];simp[World.cell?,this,bV]
      have q0:Y.cell? ⟨eb,0,I⟩=J (aq e.name):=by simp[World.cell?,cL.o]
      have p0:Y.cell? ⟨g,n*10,I⟩=J (aq e.name):=by have:=(bz.o.aZ (j:=0) (u:=aq e.name) (by rw[aT.o.1];rfl)).1;rw[aX.o];simpa using this
      have f0:Y.frozen? ⟨g,n*10,I⟩=false:=by have:=(bz.o.aZ (j:=0) (u:=aq e.name) (by rw[aT.o.1];rfl)).2;rw[aX.o];simpa using this
      have q1:Y.cell? ⟨eb,1,I⟩=J (U R e.aJ):=by simp[World.cell?,cL.o]
      have p1:Y.cell? ⟨g,n*10+1,I⟩=J (U R e.aJ):=by have:=(bz.o.aZ (j:=1) (u:=U R e.aJ) (by rw[aT.o.1];rfl)).1;rw[aX.o];simpa using this
      have f1:Y.frozen? ⟨g,n*10+1,I⟩=false:=by have:=(bz.o.aZ (j:=1) (u:=U R e.aJ) (by rw[aT.o.1];rfl)).2;rw[aX.o];simpa using this
      have q2:Y.cell? ⟨eb,2,I⟩=J (af pa e.ak.length pc):=by simp[World.cell?,cL.o]
      have p2:Y.cell? ⟨g,n*10+2,I⟩=J (af pa e.ak.length pc):=by have:=(bz.o.aZ (j:=2) (u:=af pa e.ak.length pc) (by rw[aT.o.1];rfl)).1;rw[aX.o];simpa using this
      have f2:Y.frozen? ⟨g,n*10+2,I⟩=false:=by have:=(bz.o.aZ (j:=2) (u:=af pa e.ak.length pc) (by rw[aT.o.1];rfl)).2;rw[aX.o];simpa using this
      have q3:Y.cell? ⟨eb,3,I⟩=J (U R e.cnt):=by simp[World.cell?,cL.o]
      have p3:Y.cell? ⟨g,n*10+3,I⟩=J (U R e.cnt):=by have:=(bz.o.aZ (j:=3) (u:=U R e.cnt) (by rw[aT.o.1];rfl)).1;rw[aX.o];simpa using this
      have f3:Y.frozen? ⟨g,n*10+3,I⟩=false:=by have:=(bz.o.aZ (j:=3) (u:=U R e.cnt) (by rw[aT.o.1];rfl)).2;rw[aX.o];simpa using this
      have q4:Y.cell? ⟨eb,4,I⟩=J (U R e.mn):=by simp[World.cell?,cL.o]
      have p4:Y.cell? ⟨g,n*10+4,I⟩=J (U R e.mn):=by have:=(bz.o.aZ (j:=4) (u:=U R e.mn) (by rw[aT.o.1];rfl)).1;rw[aX.o];simpa using this
      have f4:Y.frozen? ⟨g,n*10+4,I⟩=false:=by have:=(bz.o.aZ (j:=4) (u:=U R e.mn) (by rw[aT.o.1];rfl)).2;rw[aX.o];simpa using this
      have q5:Y.cell? ⟨eb,5,I⟩=J (U R e.mx):=by simp[World.cell?,cL.o]
      have p5:Y.cell? ⟨g,n*10+5,I⟩=J (U R e.mx):=by have:=(bz.o.aZ (j:=5) (u:=U R e.mx) (by rw[aT.o.1];rfl)).1;rw[aX.o];simpa using this
      have f5:Y.frozen? ⟨g,n*10+5,I⟩=false:=by have:=(bz.o.aZ (j:=5) (u:=U R e.mx) (by rw[aT.o.1];rfl)).2;rw[aX.o];simpa using this
      have q6:Y.cell? ⟨eb,6,I⟩=J (af ga e.aB.length gc):=by simp[World.cell?,cL.o]
      have p6:Y.cell? ⟨g,n*10+6,I⟩=J (af ga e.aB.length gc):=by have:=(bz.o.aZ (j:=6) (u:=af ga e.aB.length gc) (by rw[aT.o.1];rfl)).1;rw[aX.o];simpa using this
      have f6:Y.frozen? ⟨g,n*10+6,I⟩=false:=by have:=(bz.o.aZ (j:=6) (u:=af ga e.aB.length gc) (by rw[aT.o.1];rfl)).2;rw[aX.o];simpa using this
      have q7:Y.cell? ⟨eb,7,I⟩=J (af ea e.aA.length ec):=by simp[World.cell?,cL.o]
      have p7:Y.cell? ⟨g,n*10+7,I⟩=J (af ea e.aA.length ec):=by have:=(bz.o.aZ (j:=7) (u:=af ea e.aA.length ec) (by rw[aT.o.1];rfl)).1;rw[aX.o];simpa using this
      have f7:Y.frozen? ⟨g,n*10+7,I⟩=false:=by have:=(bz.o.aZ (j:=7) (u:=af ea e.aA.length ec) (by rw[aT.o.1];rfl)).2;rw[aX.o];simpa using this
      have q8:Y.cell? ⟨eb,8,I⟩=J (af fa e.first.length fc):=by simp[World.cell?,cL.o]
      have p8:Y.cell? ⟨g,n*10+8,I⟩=J (af fa e.first.length fc):=by have:=(bz.o.aZ (j:=8) (u:=af fa e.first.length fc) (by rw[aT.o.1];rfl)).1;rw[aX.o];simpa using this
      have f8:Y.frozen? ⟨g,n*10+8,I⟩=false:=by have:=(bz.o.aZ (j:=8) (u:=af fa e.first.length fc) (by rw[aT.o.1];rfl)).2;rw[aX.o];simpa using this
      have q9:Y.cell? ⟨eb,9,I⟩=J (af (J ⟨g',0,I⟩) (e.last.length+1) cap'):=by simp[World.cell?,cL.o]
      have p9:Y.cell? ⟨g,n*10+9,I⟩=J (af la e.last.length lc):=by have:=(bz.o.aZ (j:=9) (u:=af la e.last.length lc) (by rw[aT.o.1];rfl)).1;rw[aX.o];simpa using this
      have f9:Y.frozen? ⟨g,n*10+9,I⟩=false:=by have:=(bz.o.aZ (j:=9) (u:=af la e.last.length lc) (by rw[aT.o.1];rfl)).2;rw[aX.o];simpa using this
      go_wp2_with fail
      go_region
      all_goals
       obtain⟨Z,hZ⟩:∃Z,Z=((((((((((Y.setCell ⟨g,n*10,I⟩ (aq e.name)).setCell ⟨g,n*10+1,I⟩ (U R e.aJ)).setCell ⟨g,n*10+2,I⟩ (af pa e.ak.length pc)).setCell ⟨g,n*10+3,I⟩ (U R e.cnt)).setCell ⟨g,n*10+4,I⟩ (U R e.mn)).setCell ⟨g,n*10+5,I⟩ (U R e.mx)).setCell ⟨g,n*10+6,I⟩ (af ga e.aB.length gc)).setCell ⟨g,n*10+7,I⟩ (af ea e.aA.length ec)).setCell ⟨g,n*10+8,I⟩ (af fa e.first.length fc)).setCell ⟨g,n*10+9,I⟩ (af (J ⟨g',0,I⟩) (e.last.length+1) cap')):=⟨_,rfl⟩;rw[<- hZ];have eP:aa (gO w0.heap.size rb L g cap Z c ⟨#[108,97,115,116]⟩ es { e with last:=e.last++[v0] } ({ x with l:=af (J ⟨g',0,I⟩) (e.last.length+1) cap' }) cells):=by
        rw[hZ];exact bz.o.AP (by rw[aX.o]) (by rw[rO.o])
       have ey:aa (bD rb w0 Z):=by
        obtain⟨cur,-,rP⟩:=bz.o.grow;have hle:g=rb\/w0.heap.size<=g:=aP rP;show bD _ _ _
        rw[hZ];exact((((((((((iA.o.setCell (p:=⟨g,n*10,I⟩) hle _).setCell (p:=⟨g,n*10+1,I⟩) hle _).setCell (p:=⟨g,n*10+2,I⟩) hle _).setCell (p:=⟨g,n*10+3,I⟩) hle _).setCell (p:=⟨g,n*10+4,I⟩) hle _).setCell (p:=⟨g,n*10+5,I⟩) hle _).setCell (p:=⟨g,n*10+6,I⟩) hle _).setCell (p:=⟨g,n*10+7,I⟩) hle _).setCell (p:=⟨g,n*10+8,I⟩) hle _).setCell (p:=⟨g,n*10+9,I⟩) hle _)
       have rQ:aa (L<=Z.heap.size):=by show _<=_;rw[hZ];simpa[World.setCell]using rN.o
       clear hZ e4 q0 p0 f0 q1 p1 f1 q2 p2 f2 q3 p3 f3 q4 p4 f4 q5 p5 f5 q6 p6 f6 q7 p7 f7 q8 p8 f8 q9 p9 f9;go_wp2;go_ret
       refine⟨by rw[ft.o];rfl,ey.o.drew,λ_=>aP ⟨L,g,cap,es,{ e with last:=e.last++[v0] },({ x with l:=af (J ⟨g',0,I⟩) (e.last.length+1) cap' }),cells,?_,rQ.o,?_⟩⟩
       ·rw[mV.o,show (aY (bq e.ak) false (form 9) [bl s0]).2=_ from lR.o];exact(by simp only[ed];rw[pj.o,pD];rfl)
       exact gO.cfg (bX.below eP.o (aC _ _).drew) (λ_ _=>rfl)
  have HE:aa (bR last c 9 ws=1):=by show _=_;rw[HK.o];exact rL _ _ _ (by rw[<- HM.o.2,fL];exact hN)
  have mN:¬(m:Int)=1+1:=by have:=HM.o.1;omega
  clear hN;go_wp2;go_ret;exact⟨by rw[HE.o];rfl,bK.o _ (aC _ _),λh0=>by rw[HE.o]at h0;cases h0⟩
theorem ahS(w0 w:ai)(rb:Nat)(c:aS)(last:Int)(l:ByteArray)(hd:Bs)(ws:List Bs)(hb0:bD rb w0 w)(h:eO w0.heap.size rb w c (cf last))(hl:l.size<=1000000)(l0:-1<=last)(l9:last<=9)(hcut:bW 32 (bl l)=hd::ws)(hk:kindOf hd=I):Calls prog 16 #[aj (J ⟨rb,0,I⟩),aq l] w λv w'=>v=ax (U R 1)/\bD rb w0 w':=by
 have dX:aa (bD rb w0 w):=hb0;have gP:aa (∀V,Below w.heap.size w V->∀u:ByteArray,bl u=hd->Calls prog 53 #[aj (J ⟨rb,0,I⟩),aq u] V λe w'=>e=ax (aI false)/\Below V.heap.size V w'):=λV hV u hu=>by
  have hc:V.cell? ⟨rb,5,I⟩=J (aq (cf last)):=by
   rcases h.below hV with h1|⟨_,_,_,_,_,_,_,_,_,h1⟩
   ·have:=h1.row;simp[World.cell?,this,bV]
   have:=h1.row;simp[World.cell?,this,bV]
  have:=rJ rb last u V l0 l9 hc;rw[show yL last u=false by unfold yL;rw[hu,hk]]at this;exact this
 have Dj:aa (∀u:ByteArray,bl u=hd->∀k,k<10->¬u=⟨(kw k).toArray⟩):=λu hu k h10 e=>by
  have h1:bl u=kw k:=by rw[e];exact qh _
  rw[hu]at h1;rw[h1,DI k h10]at hk
  cases hk
 have gD:aa _:=pZ l 32 w hl;have uO:aa (bW 32 (bl l)=hd::ws):=hcut;clear hb0 h hl l0 l9 hcut hk;go_enter func16,ntmps16
 go_wp2_with fail
 refine aL gD.o ?_;rintro v w1 ⟨wl,g,cap,rfl,h1,hown,hb1⟩;rw[uO.o]at h1
 cases wl with
 |nil=>simp at h1
 |cons u wt=>
  have hu:bl u=hd:=by simp at h1;exact h1.1
  have aO:aa (Below w.heap.size w w1):=hb1;have HU:aa (bl u=hd):=hu;have d0:=qE hown 0 u rfl;have hne:=Dj.o u hu;obtain⟨ajX,ajY⟩:=eM (l:=[119,105,110,100,111,119]) (hne 0 (by decide));obtain⟨ajZ,aj0⟩:=eM (l:=[99,121,99,108,101]) (hne 1 (by decide));obtain⟨aj1,aj2⟩:=eM (l:=[100,101,108,97,121]) (hne 2 (by decide));obtain⟨aj3,aj4⟩:=eM (l:=[101,110,116,105,116,121]) (hne 3 (by decide));obtain⟨aj5,aj6⟩:=eM (l:=[112,111,105,110,116]) (hne 4 (by decide));obtain⟨aj7,aj8⟩:=eM (l:=[99,111,117,110,116]) (hne 5 (by decide));obtain⟨aj9,aj_⟩:=eM (l:=[103,97,112]) (hne 6 (by decide));obtain⟨aj',aka⟩:=eM (l:=[101,100,103,101]) (hne 7 (by decide));obtain⟨akb,akc⟩:=eM (l:=[102,105,114,115,116]) (hne 8 (by decide));obtain⟨akd,ake⟩:=eM (l:=[108,97,115,116]) (hne 9 (by decide));have s0:(0:Int)<(((u::wt).length:Nat):Int):=by simp
  clear h1 hown hb1 hu hne gD uO;obtain⟨m,hm⟩:∃m,m=(u::wt).length:=⟨_,rfl⟩;rw[<- hm]at s0;rw[<- hm];clear hm;go_wp2_with (go_at_call 53;refine aL (gP.o _ aO.o u HU.o) ?_;rintro v w2 ⟨rfl,hb2⟩)
  go_ret;exact⟨rfl,dX.o.trans ((aO.o.trans (hb2.mono aO.o.size)).mono dX.o.size)⟩
theorem ahT(k:Nat):cf (k:Int)=eN k:=by unfold cf;rw[aK (by omega),yU]
theorem ahU(w0 w:ai)(rb:Nat)(c:aS)(last:Int)(l:ByteArray)(hb0:bD rb w0 w)(h:eO w0.heap.size rb w c (cf last))(hl:l.size<=1000000)(l0:-1<=last)(l9:last<=9)(hO:gZ 1000000 c last):Calls prog 16 #[aj (J ⟨rb,0,I⟩),aq l] w λv w'=>v=ax (U R (((ez bq ⟨last,c⟩ (bl l)).1:Nat):Int))/\bD rb w0 w'/\((ez bq ⟨last,c⟩ (bl l)).1=0->eO w0.heap.size rb w' (ez bq ⟨last,c⟩ (bl l)).2.cfg (cf (ez bq ⟨last,c⟩ (bl l)).2.last)/\-1<=(ez bq ⟨last,c⟩ (bl l)).2.last/\(ez bq ⟨last,c⟩ (bl l)).2.last<=9):=by
 obtain⟨h0,tl,-,Dz,-⟩:=Kl l ⟨#[32]⟩ rfl;obtain⟨ws,fq⟩:∃ws,ws=tl.map bl:=⟨_,rfl⟩;rw[<- fq]at Dz;have e1:ez bq ⟨last,c⟩ (bl l)=jo bq ⟨last,c⟩ (bl h0) ws:=by unfold ez;rw[Dz]
 cases hk:kindOf (bl h0)with
 |none=>
  have e2:jo bq ⟨last,c⟩ (bl h0) ws=(1,⟨last,c⟩):=by unfold jo;rw[hk]
  rw[e1,e2]
  refine(ahS w0 w rb c last l (bl h0) ws hb0 h hl l0 l9 Dz hk).mono ?_;rintro v w' ⟨rfl,hb⟩;exact⟨rfl,hb,λh=>by simp at h⟩
 |some k=>
  obtain⟨h1,kY⟩:=A0 hk;have hcut:bW 32 (bl l)=kw k::ws:=by rw[Dz,h1]
  rw[e1,h1];clear Dz hk e1;have fin:∀k,k<10->Calls prog 16 #[aj (J ⟨rb,0,I⟩),aq l] w (λv w'=>v=ax (U R (bR last c k ws:Nat))/\bD rb w0 w'/\(bR last c k ws=0->eO w0.heap.size rb w' (ed c k ws (aY (bq (bO c.aw)) false (form k) ws).2) (eN k))) ->
    Calls prog 16 #[aj (J ⟨rb,0,I⟩),aq l] w λv w'=>v=ax (U R (((jo bq ⟨last,c⟩ (kw k) ws).1:Nat):Int))/\bD rb w0 w'/\((jo bq ⟨last,c⟩ (kw k) ws).1=0->eO w0.heap.size rb w' (jo bq ⟨last,c⟩ (kw k) ws).2.cfg (cf (jo bq ⟨last,c⟩ (kw k) ws).2.last)/\-1<=(jo bq ⟨last,c⟩ (kw k) ws).2.last/\(jo bq ⟨last,c⟩ (kw k) ws).2.last<=9):=λk kY hc=>by
   obtain⟨a1,a2⟩:=ahp (last:=last) (c:=c) kY ws
   refine hc.mono ?_;rintro v w' ⟨rfl,hb,hd⟩;rw[a1]
   refine⟨rfl,hb,λh0=>?_⟩;rw[a2 h0];exact⟨by rw[ahT];exact hd h0,by show -1<=(k:Int);omega,by show (k:Int)<=9;omega⟩
  match k,kY with
  |0,_=>exact fin 0 (by decide) (ahv w0 w rb c last l ws hb0 h hl l0 l9 hO hcut)
  |1,_=>exact fin 1 (by decide) (ahw w0 w rb c last l ws hb0 h hl l0 l9 hO hcut)
  |2,_=>exact fin 2 (by decide) (ahx w0 w rb c last l ws hb0 h hl l0 l9 hO hcut)
  |3,_=>exact fin 3 (by decide) (ahy w0 w rb c last l ws hb0 h hl l0 l9 hO hcut)
  |4,_=>exact fin 4 (by decide) (ahz w0 w rb c last l ws hb0 h hl l0 l9 hO hcut)
  |5,_=>exact fin 5 (by decide) (ahA w0 w rb c last l ws hb0 h hl l0 l9 hO hcut)
  |6,_=>exact fin 6 (by decide) (ahL w0 w rb c last l ws hb0 h hl l0 l9 hO hcut)
  |7,_=>exact fin 7 (by decide) (ahP w0 w rb c last l ws hb0 h hl l0 l9 hO hcut)
  |8,_=>exact fin 8 (by decide) (ahQ w0 w rb c last l ws hb0 h hl l0 l9 hO hcut)
  |9,_=>exact fin 9 (by decide) (ahR w0 w rb c last l ws hb0 h hl l0 l9 hO hcut)
theorem AQ{fn:Func}{p q:Tmp}(h:fn.results=#[.cell p 30,.cell q 32])(tmps:Array ar)(w:ai)(g k:Nat)(a b c d e x y:ar)
  (hp:tmps.getD p undef=aj (J ⟨g,0,I⟩)) (hq:tmps.getD q undef=aj (J ⟨k,0,I⟩)) (hg:w.heap[g]?=J (au #[a,b,c,d,e] 30 (0,0))) (hk:w.heap[k]?=J (au #[x,y] 32 (0,0))):(results fn tmps).run prog w=.ok (bn #[aU #[a,b,c,d,e],aU #[x,y]]) w:=by
 have ui:tmps[p]?.getD undef=aj (J ⟨g,0,I⟩):=by simpa using hp
 have hq':tmps[q]?.getD undef=aj (J ⟨k,0,I⟩):=by simpa using hq
 simp[results,h,ui,hq',asAddr,run_loadVar_row w g _ 30 #[a,b,c,d,e] _ _ hg underlying30 rfl ou,run_loadVar_row w k _ 32 #[x,y] _ _ hk underlying32 rfl gN]
theorem qF.FJ{B rb:Nat}{w:ai}{c:aS}{lw:ByteArray}{ev:ar}{cells:List ar}(h:qF B rb w c lw ev cells):gm B w ev c.aw:=
 ⟨cells,h.aw,λi e he=>by
  obtain⟨x,a,-,d⟩:=h.olds i e he;exact⟨x.p,x.g,x.e,x.f,x.l,a,d⟩⟩
theorem Tm{B b:Nat}{w w':ai}{v:ar}{es:List aF}(h:gm B w v es)(hg:w.grownBy w' (J b)){cs:Array ar}{T:TypeId}{fr:Nat×Nat}(hb:w.heap[b]?=J (au cs T fr))(h0:T≠84)(h1:T≠9)(h2:T≠86)(h3:T≠87)(h4:T≠3):gm B w' v es:=by
 obtain⟨cells,ho,hp⟩:=h
 refine⟨_,ho.kept hg (aP (dZ ho hb h0)),λi e he=>?_⟩;obtain⟨pv,gv,ev,fv,lv,a,d⟩:=hp i e he;exact⟨pv,gv,ev,fv,lv,eF.other (x:=⟨pv,gv,ev,fv,lv⟩) a hg hb h1 h2 h3 h4,d⟩
theorem vo(a:ByteArray):(bl a).length=a.size:=by simp[bl]
theorem Tn{rb g:Nat}{a b:ai}{o:Obj}(h:bD rb a b)(hc:a.heap[g]?=J o)(hne:g≠rb):b.heap[g]?=J o:=(h.block g (bJ hc) (λe=>hne (by cases e;rfl))).trans hc
theorem ahV{rb g i:Nat}{a b:ai}{v:ar}(h:bD rb a b)(hc:a.cell? ⟨g,i,I⟩=J v)(hne:g≠rb):b.cell? ⟨g,i,I⟩=J v:=by
 have h1:=h.block g (fY hc) (λe=>hne (by cases e;rfl));unfold World.cell? at hc⊢;simp only[h1];exact hc
theorem ahW{s:Bs}{b:UInt8}(h:s.getLast?=J b):trim s=if b=10 then s.dropLast else s:=by
 unfold trim;rw[h]
 by_cases e:b=10
 ·subst e;simp
 rw[aK (λh=>e (by simpa using h)),aK e]
theorem ahX(look:ic):ct look 0 ⟨-1,cE⟩ (bW 10 (trim []))=ct look 0 ⟨-1,cE⟩ []:=by
 have h1:bW 10 (trim [])=[[]]:=by decide
 have h2:ez look ⟨-1,cE⟩ []=(1,⟨-1,cE⟩):=by
  have h3:bW 32 ([]:Bs)=[[]]:=by decide
  have h4:kindOf ([]:Bs)=I:=by decide
  simp[ez,h3,jo,h4]
 rw[h1];simp[ct,h2]
theorem ahY{look:ic}{s:Bs}{ls:List Bs}(hs:s.length<=8000)(h:ct look 0 ⟨-1,cE⟩ (bW 10 (trim s))=ct look 0 ⟨-1,cE⟩ ls):cW look s=if (ct look 0 ⟨-1,cE⟩ ls).1.1=0 then (if (cG (ct look 0 ⟨-1,cE⟩ ls).2.cfg).1=0 then ((0,-1),(ct look 0 ⟨-1,cE⟩ ls).2.cfg)else (cG (ct look 0 ⟨-1,cE⟩ ls).2.cfg,cE))else ((ct look 0 ⟨-1,cE⟩ ls).1,cE):=by
 unfold cW;rw[aK (by omega),h]
structure tC(w:ai)(B:Nat)(ev:ar)(es:List aF)(C F:Array ar)(Z:ai):Prop where
 c:Z.heap[w.heap.size]?=J (au C 30 (0,0))
 f:Z.heap[w.heap.size+1]?=J (au F 32 (0,0))
 br:Below w.heap.size w Z
 own:gm B Z ev es
section
variable {w Z:ai}{B:Nat}{ev:ar}{es:List aF}{C F:Array ar}
theorem tC.tD(h:tC w B ev es C F Z)(j:Nat)(u:ar):tC w B ev es (C.setIfInBounds j u) F (Z.setCell ⟨w.heap.size,j,I⟩ u):=
 ⟨p_ h.c u,((pd Z w.heap.size j u).block _ (bJ h.f) (by simp)).trans h.f,h.br.setCell (p:=⟨w.heap.size,j,I⟩) (aQ _) u,Tm h.own (pd Z w.heap.size j u) h.c (by decide) (by decide) (by decide) (by decide) (by decide)⟩
theorem tC.xK(h:tC w B ev es C F Z)(j:Nat)(u:ar):tC w B ev es C (F.setIfInBounds j u) (Z.setCell ⟨w.heap.size+1,j,I⟩ u):=
 ⟨((pd Z (w.heap.size+1) j u).block _ (bJ h.c) (by simp)).trans h.c,p_ h.f u,h.br.setCell (p:=⟨w.heap.size+1,j,I⟩) (Nat.le_succ _) u,Tm h.own (pd Z (w.heap.size+1) j u) h.f (by decide) (by decide) (by decide) (by decide) (by decide)⟩
theorem tC.drew(h:tC w B ev es C F Z):tC w B ev es C F Z.drew:=⟨h.c,h.f,h.br.drew,h.own.below (aC _ _).drew⟩
end
def ahZ(s:ByteArray)(w:ai)(v:Ending)(w':ai):Prop:=∃(c:aS) (sv:ar) (code place:Int),v=ax (bn #[aU #[U R c.closed,U R c.opn,U R c.cycle,U R c.bC,sv],aU #[U R code,U R place]])/\Below w.heap.size w w'/\c=(cW bq (bl s)).2/\code=((cW bq (bl s)).1.1:Int)/\(code≠0->place=(cW bq (bl s)).1.2)/\∃B',gm B' w' sv c.aw
theorem ah0(s:ByteArray)(w:ai)(hn:s.size<=8000):Calls prog 6 #[aq s] w (ahZ s w):=by
 have HN:aa _:=hn;have g1:¬8000<(s.size:Int):=by omega
 clear hn;go_enter func6,ntmps6
 go_upto_region 5 with fail
 obtain⟨W2,hW2⟩:∃V,V=(w.alloc (au #[U R 0,U R 0,U R 0,U R 0,af I 0 0] 30)).alloc (au #[U R 0,U R 0] 32):=⟨_,rfl⟩;rw[<- hW2];obtain⟨W3,hW3⟩:∃V,V=W2.alloc (au #[U R 0,U R 0,U R 0,U R 0,af I 0 0,aq ⟨#[]⟩] 53):=⟨_,rfl⟩;rw[<- hW3];have wC:aa (W2.heap.size=w.heap.size+2):=by show _=_;rw[hW2];simp
 have aW:aa (Below w.heap.size w W2):=by show Below _ _ _;rw[hW2];exact(aN _ _).alloc (by simp) _
 have Dm:aa (∀V,Below _ W2 V->V.heap[w.heap.size]?=J _):=λV hV=>bG hV (by rw[hW2];exact bG (aN _ _) (cR w _))
 have mf:aa (∀V,Below _ W2 V->V.heap[w.heap.size+1]?=J (au #[U R 0,U R 0] 32 (0,0))):=λV hV=>bG hV (by
  have:=cR (w.alloc (au #[U R 0,U R 0,U R 0,U R 0,af I 0 0] 30)) (au #[U R 0,U R 0] 32);rw[qT]at this;rw[hW2];exact this)
 obtain⟨rb,jb⟩:∃rb,rb=w.heap.size+2:=⟨_,rfl⟩;have lu:aa (W3.heap[rb]?=J (au #[U R 0,U R 0,U R 0,U R 0,af I 0 0,aq ⟨#[]⟩] 53 (0,0))):=by
  show _=_
  have h1:=cR W2 (au #[U R 0,U R 0,U R 0,U R 0,af I 0 0,aq ⟨#[]⟩] 53);rw[wC.o,<- jb]at h1;rw[hW3];exact h1
 have fG:aa (Below W2.heap.size W2 W3):=by show Below _ _ _;rw[hW3];exact aN _ _
 rw[<- jb];have F5:aa (rb≠w.heap.size/\rb≠w.heap.size+1):=⟨by omega,by omega⟩;have Dn:aa (w.heap.size<=rb):=by show _<=_;omega
 clear hW2 hW3 jb;go_upto_if 17 with fail
 go_cut [0,5,18,19,20,21,22,23,24,25,26,27,28,29,30] (λ_ lv _ _ _ _ _ _ _ _ _ _ _ _ _ wx=>∃(lines:List ByteArray) (sa:Option az) (sc:Nat),lv=af sa lines.length sc/\(lines≠[]->∃g,sa=J ⟨g,0,I⟩/\g≠rb/\∀i l,lines[i]?=J l->wx.cell? ⟨g,i,I⟩=J (aq l))/\Below W3.heap.size W3 wx/\lines.length<=8001/\(∀l∈lines,l.size<=8000)/\ct bq 0 ⟨-1,cE⟩ (bW 10 (trim (bl s)))=ct bq 0 ⟨-1,cE⟩ (lines.map bl))
 case first=>
  by_cases hs0:s=⟨#[]⟩
  ·have HE:aa (ct bq 0 ⟨-1,cE⟩ (bW 10 (trim (bl s)))=ct bq 0 ⟨-1,cE⟩ []):=by show _=_;rw[hs0];exact ahX _
   subst hs0;have e3:((⟨#[]⟩:ByteArray).toList.isEmpty)=true:=by rw[fZ];rfl
   simp only[e3,Bool.not_true];go_wp2_with fail
   go_meet
   case rel=>exact⟨[],_,0,rfl,(λh=>absurd rfl h),aC _ _,by simp,(λl hl=>by simp at hl),HE.o⟩
  obtain⟨e1,e2⟩:=eM (l:=[]) hs0;have e3:s.toList.isEmpty=false:=by simpa using e2
  simp only[e3,Bool.not_false];obtain⟨k,hk⟩:∃k,s.size=k+1:=⟨s.size-1,by
   have:s.size≠0:=λh=>hs0 (lC (qI (by rw[vo];exact h)))
   omega⟩
  have hsz:(s.size:Int)=(k:Int)+1:=by omega
  have k8:k<8000:=by have:=HN.o;omega
  obtain⟨b,hb⟩:∃b,b=s[k]'(by omega):=⟨_,rfl⟩;have KA:∀W:ai,(Instr.index 9 (aq s) (U R (k:Int))).run prog W=.ok (U .u8 (b.toNat:Int)) W:=λW=>by
   rw[run_index_string W 9 s R _ underlying9,dif_pos (by omega),hb];rfl
  have K_:(bl s).getLast?=J b:=by
   rw[List.getLast?_eq_getElem?,vo,hk,hb];simp[bl,hk]
   rfl
  have uN:aa _:=ahW K_;have eP:aa (∀(s1:ByteArray) (V V':ai) (wl:List _) (g cap:Nat),bl s1=trim (bl s)->Below W3.heap.size W3 V->wl.map bl=bW 10 (bl s1)->V'.ownsRow V.heap.size 9 1 (af (J ⟨g,0,I⟩) wl.length cap) wl.length (wl.flatMap bS)->Below V.heap.size V V'->(wl≠[]->∃g',J (⟨g,0,I⟩:az)=J ⟨g',0,I⟩/\g'≠rb/\∀i l,wl[i]?=J l->V'.cell? ⟨g',i,I⟩=J (aq l))/\Below W3.heap.size W3 V'/\wl.length<=8001/\(∀l∈wl,l.size<=8000)/\ct bq 0 ⟨-1,cE⟩ (bW 10 (trim (bl s)))=ct bq 0 ⟨-1,cE⟩ (wl.map bl)):=λs1 V V' wl g cap h1 hV h2 h3 h4=>by
   have sH:(bl s1).length<=8000:=by
    rw[h1,uN.o];have h5:=vo s;have h6:=HN.o
    split
    ·rw[List.length_dropLast];omega
    omega
   obtain⟨z1,z2⟩:=Aw 10 (bl s1);rw[<- h2]at z1 z2
   refine⟨λ_=>⟨g,rfl,?_,λi l hl=>qE h3 i l hl⟩,hV.trans (h4.mono hV.size),by simp at z2;omega,λl hl=>?_,by rw[h2,h1]⟩
   ·have h9:=(World.ownsRow.lt h3 g rfl).1;have h10:=hV.size;have h11:=bJ lu.o;omega
   have h7:=z1 _ (Da hl);have h8:=vo l;omega
  have Tp:aa _:=HN.o
  by_cases yO:b=10
  ·have ah1:(b.toNat:Int)=10:=by rw[yO];rfl
   obtain⟨s1,hs1⟩:∃s1,s1=s.extract 0 k:=⟨_,rfl⟩;have akf:∀W:ai,(Instr.slice 9 (aq s) I (J (U R (k:Int))) I).run prog W=.ok (aq s1) W:=λW=>by
    rw[run_slice_string_h W 9 s underlying9 R _ (by omega) (by omega),hs1];rfl
   have aO:aa (bl s1=trim (bl s)):=by
    show _=_
    rw[uN.o,aR yO,hs1,List.dropLast_eq_take,vo,hk];simp[bl]
   have fP:aa (s1.size<=1000000):=by
    show _<=_
    have h5:=vo s1;have h6:=aO.o;rw[uN.o,aR yO]at h6;rw[<- h5,h6,List.length_dropLast,vo];have:=Tp.o;omega
   clear hs0 hb yO K_ uN hs1 hk;go_wp2_with (go_at_call 15;refine(pZ s1 10 W3 fP.o).mono ?_;rintro v wc ⟨wl,g,cap,rfl,h1,h2,h3⟩;have HR:aa _:=eP.o s1 W3 wc wl g cap aO.o (aC _ _) h1 h2 h3;clear h1 h2 h3)
   go_meet
   case rel=>exact⟨wl,_,_,rfl,HR.o⟩
  have ah1:¬(b.toNat:Int)=10:=λh=>yO (by
   apply UInt8.toNat.inj
   show b.toNat=10
   omega)
  have aO:aa (bl s=trim (bl s)):=by show _=_;rw[uN.o,aK yO]
  have fP:aa (s.size<=1000000):=by show _<=_;have:=Tp.o;omega
  clear hs0 hb yO K_ uN hk;go_wp2_with (go_at_call 15;refine(pZ s 10 W3 fP.o).mono ?_;rintro v wc ⟨wl,g,cap,rfl,h1,h2,h3⟩;have HR:aa _:=eP.o s W3 wc wl g cap aO.o (aC _ _) h1 h2 h3;clear h1 h2 h3)
  go_meet
  case rel=>exact⟨wl,_,_,rfl,HR.o⟩
 obtain⟨lines,sa,sc,rfl,hL4,hb4,hl4,Ks,Tq⟩:=hcut;rename ai=>W4
 have ah2:aa (∀V,bD rb W4 V->∀k l,lines[k]?=J l->∃g,sa=J ⟨g,0,I⟩/\V.cell? ⟨g,k,I⟩=J (aq l)):=λV hV k l hl=>by
  obtain⟨g,h1,h2,h3⟩:=hL4 (λe=>by rw[e]at hl;simp at hl);exact⟨g,h1,ahV hV (h3 k l hl) h2⟩
 have F6:aa (lines.length<=8001/\∀l∈lines,l.size<=8000):=⟨hl4,Ks⟩;have pQ:aa _:=ahY (by rw[vo];exact HN.o) Tq;have kR:aa _:=fG.o.trans (hb4.mono fG.o.size);have Tr:aa (eO W4.heap.size rb W4 cE (cf (-1))):=a_ ⟨a_ rfl,rfl,bG hb4 lu.o⟩;have DA:aa (∀V,bD rb W4 V->V.heap[w.heap.size]?=J (au #[U R 0,U R 0,U R 0,U R 0,af I 0 0] 30 (0,0))):=λV hV=>Tn hV (Dm.o W4 kR.o) (λe=>F5.o.1 e.symm)
 have AR:aa (∀V,bD rb W4 V->V.heap[w.heap.size+1]?=J (au #[U R 0,U R 0] 32 (0,0))):=λV hV=>Tn hV (mf.o W4 kR.o) (λe=>F5.o.2 e.symm)
 have cY:aa (∀V,bD rb W4 V->Below w.heap.size w V):=λV hV=>by
  have h1:=aW.o.trans (kR.o.mono aW.o.size);exact h1.grown hV h1.size (λi hi=>by cases hi;have:=Dn.o;omega)
 clear hL4 hb4 hl4 Ks Tq fG lu g1 kR aW Dm mf;have DB:aa (∀V,bD rb W4 V->∀code place:Int,((V.setRow w.heap.size #[U R 0,U R 0,U R 0,U R 0,af I 0 0]).setRow (w.heap.size+1) #[U R code,U R place]).heap[w.heap.size]?=J (au #[U R 0,U R 0,U R 0,U R 0,af I 0 0] 30 (0,0))/\((V.setRow w.heap.size #[U R 0,U R 0,U R 0,U R 0,af I 0 0]).setRow (w.heap.size+1) #[U R code,U R place]).heap[w.heap.size+1]?=J (au #[U R code,U R place] 32 (0,0))/\Below w.heap.size w ((V.setRow w.heap.size #[U R 0,U R 0,U R 0,U R 0,af I 0 0]).setRow (w.heap.size+1) #[U R code,U R place])):=λV hV code place=>by
  have h1:=jY (w:=V) #[U R 0,U R 0,U R 0,U R 0,af I 0 0] (DA.o V hV);have g1:=oO V w.heap.size #[U R 0,U R 0,U R 0,U R 0,af I 0 0];have h2:=(g1.block _ (bJ (AR.o V hV)) (by simp)).trans (AR.o V hV);have g2:=oO (V.setRow w.heap.size #[U R 0,U R 0,U R 0,U R 0,af I 0 0]) (w.heap.size+1) #[U R code,U R place];have b1:=cY.o V hV;have b2:=b1.grown g1 b1.size (λi hi=>by cases hi;exact aQ _);exact⟨(g2.block _ (bJ h1) (by simp)).trans h1,jY _ h2,b2.grown g2 b2.size (λi hi=>by cases hi;omega)⟩
 have Tt:aa _:=λV hV=>((oO V w.heap.size #[U R 0,U R 0,U R 0,U R 0,af I 0 0]).block _ (bJ (AR.o V hV)) (by simp)).trans (AR.o V hV)
 go_upto_region 9 with fail
 go_cut [6] (λi wx=>i=U R 0/\wx=W4)
 case first=>
  go_wp2_with fail
  go_meet
  case rel=>exact⟨rfl,rfl⟩
 obtain⟨rfl,rfl⟩:=hcut;rename ai=>W4
 go_wp2_with fail
 go_loopw [6,7] (λiv _ wr=>∃(k:Nat) (st:RS),k<=lines.length/\iv=U R k/\bD rb W4 wr/\eO W4.heap.size rb wr st.cfg (cf st.last)/\(-1<=st.last/\st.last<=9)/\gZ k st.cfg st.last/\(∀e∈st.cfg.aw,yC e)/\ct bq 0 ⟨-1,cE⟩ (lines.map bl)=ct bq k st ((lines.drop k).map bl)) (λi _ _=>lines.length-(intOf i).toNat)
 case atStart=>exact⟨0,_,bI _,rfl,bD.refl _ _,Tr.o,⟨by decide,by decide⟩,⟨λ_=>rfl,λh=>by simp at h,aQ _,λe he=>by simp[cE]at he⟩,λe he=>by simp[cE]at he,rfl⟩
 case round=>
  clear Tr;obtain⟨k,st,hk,rfl,iE,Tu,hlk,im,hsm,vJ⟩:=hrel;have HB:aa (bD rb W4 wr):=iE;have HD:aa (eO _ rb wr _ _):=Tu;have oY:aa _:=hlk;have HO:aa (gZ k st.cfg st.last/\∀e∈st.cfg.aw,yC e):=⟨im,hsm⟩;have fe:aa _:=vJ;clear iE Tu hlk im hsm vJ
  by_cases hlt:k<lines.length
  ·have k1:(k:Int)<(lines.length:Int):=by omega
   have k2:k<8001:=by have:=F6.o.1;omega
   obtain⟨l,hl⟩:∃l,lines[k]?=J l:=⟨_,bH hlt⟩;have iN:aa _:=F6.o.2 l (cM hl);have lN:aa ((lines.drop k).map bl=bl l::(lines.drop (k+1)).map bl):=by
    show _=_
    rw[kq hlt];rw[bH hlt]at hl
    cases hl;rfl
   obtain⟨g,rfl,c0⟩:=ah2.o wr HB.o k l hl;clear hl;go_wp2_with fail
   refine(ahU W4 wr rb _ _ l HB.o HD.o (by have:=iN.o;omega) oY.o.1 oY.o.2 ⟨HO.o.1.e0,HO.o.1.e3,bw HO.o.1.len (by omega),λe he=>(HO.o.1.sz e he).mono (by omega)⟩).mono ?_;rintro v w5 ⟨rfl,jG,Fe⟩;have kU:aa (bD rb W4 w5):=jG;have Tv:aa _:=Fe;clear jG Fe c0 HD HB
   by_cases h0:(ez bq ⟨st.last,st.cfg⟩ (bl l)).1=0
   ·have HC:aa _:=h0;rw[h0];clear h0;go_wp2_with fail
    go_roundw
    case rel=>
     have Bz:(bl l).length<=1000000:=by have:=iN.o;rw[vo];omega
     obtain⟨s1,s2⟩:=SB HO.o.1 HO.o.2 Bz HC.o;obtain⟨d1,d2⟩:=Tv.o HC.o;exact⟨_,_,by omega,by go_num,kU.o,d1,d2,s1,s2,by rw[fe.o,lN.o,SE HC.o]⟩
    case measure=>simp[intOf];omega
   obtain⟨j,hj⟩:∃j,j=(ez bq ⟨st.last,st.cfg⟩ (bl l)).1:=⟨_,rfl⟩;have HE:aa (cW bq (bl s)=((j,(k:Int)),cE)):=by
    show _=_
    have h1:ct bq 0 ⟨-1,cE⟩ (lines.map bl)=((j,(k:Int)),st):=by rw[fe.o,lN.o,SD h0,<- hj]
    rw[pQ.o,h1,aK (by show ¬j=0;rw[hj];exact h0)]
   have g0:(0:Int)<(j:Int):=by omega
   rw[<- hj];clear h0 hj Tv;have oh:=DA.o w5 kU.o;have DC:=Tt.o w5 kU.o;go_wp2_with (first|(refine f_ rfl 30 _ _ rfl _ _ rfl rfl 30 _ oh ou rfl (by simp[Value.oneCell']) ?_)|(refine f_ rfl 32 _ _ rfl _ _ rfl rfl 32 _ DC gN rfl (by simp[Value.oneCell']) ?_))
   obtain⟨z1,z2,z3⟩:=DB.o w5 kU.o (j:Int) (k:Int)
   refine er (AQ rfl _ _ w.heap.size (w.heap.size+1) _ _ _ _ _ _ _ rfl rfl z1 z2) rfl ?_;exact⟨_,af I 0 0,(j:Int),(k:Int),rfl,z3,by rw[HE.o],by rw[HE.o],λ_=>by rw[HE.o],0,gm.nil _ _⟩
  have k1:¬(k:Int)<(lines.length:Int):=by omega
  obtain rfl:k=lines.length:=by omega
  have Dp:aa (ct bq 0 ⟨-1,cE⟩ (lines.map bl)=ct bq lines.length st []):=by show _=_;have:=fe.o;rw[List.drop_length]at this;exact this
  obtain⟨ev,cells,hV⟩:=HD.o.view;have HV:aa _:=hV;have r5:wr.cell? ⟨rb,5,I⟩=J (aq (cf st.last)):=by have:=hV.row;simp[World.cell?,this,bV]
  clear hV fe HD
  by_cases h2:st.last<2
  ·have HE:aa (cW bq (bl s)=((1,(lines.length:Int)),cE)):=by
    show _=_
    have h1:ct bq 0 ⟨-1,cE⟩ (lines.map bl)=((1,(lines.length:Int)),st):=by rw[Dp.o,ct,aR h2]
    rw[pQ.o,h1];exact aK (by simp)
   have oh:=DA.o wr HB.o;have DC:=Tt.o wr HB.o;obtain⟨z1,z2,z3⟩:=DB.o wr HB.o 1 (lines.length:Int);have HZ:aa _:=And.intro z1 (And.intro z2 z3);have ah3:st.last=-1\/st.last=0\/st.last=1:=by have:=oY.o;omega
   clear z1 z2 z3 h2
   rcases ah3 with h|h|h
   ·have r6:wr.cell? ⟨rb,5,I⟩=J (aq ⟨#[]⟩):=by rw[r5,h];rfl
    clear r5 h;go_wp2_with (first|(refine f_ rfl 30 _ _ rfl _ _ rfl rfl 30 _ oh ou rfl (by simp[Value.oneCell']) ?_)|(refine f_ rfl 32 _ _ rfl _ _ rfl rfl 32 _ DC gN rfl (by simp[Value.oneCell']) ?_))
    refine er (AQ rfl _ _ w.heap.size (w.heap.size+1) _ _ _ _ _ _ _ rfl rfl HZ.o.1 HZ.o.2.1) rfl ?_;exact⟨_,af I 0 0,1,(lines.length:Int),rfl,HZ.o.2.2,by rw[HE.o],by rw[HE.o];rfl,λ_=>by rw[HE.o],0,gm.nil _ _⟩
   ·have r6:wr.cell? ⟨rb,5,I⟩=J (aq ⟨#[119,105,110,100,111,119]⟩):=by rw[r5,h];rfl
    clear r5 h;go_wp2_with (first|(refine f_ rfl 30 _ _ rfl _ _ rfl rfl 30 _ oh ou rfl (by simp[Value.oneCell']) ?_)|(refine f_ rfl 32 _ _ rfl _ _ rfl rfl 32 _ DC gN rfl (by simp[Value.oneCell']) ?_))
    refine er (AQ rfl _ _ w.heap.size (w.heap.size+1) _ _ _ _ _ _ _ rfl rfl HZ.o.1 HZ.o.2.1) rfl ?_;exact⟨_,af I 0 0,1,(lines.length:Int),rfl,HZ.o.2.2,by rw[HE.o],by rw[HE.o];rfl,λ_=>by rw[HE.o],0,gm.nil _ _⟩
   have r6:wr.cell? ⟨rb,5,I⟩=J (aq ⟨#[99,121,99,108,101]⟩):=by rw[r5,h];rfl
   clear r5 h;go_wp2_with (first|(refine f_ rfl 30 _ _ rfl _ _ rfl rfl 30 _ oh ou rfl (by simp[Value.oneCell']) ?_)|(refine f_ rfl 32 _ _ rfl _ _ rfl rfl 32 _ DC gN rfl (by simp[Value.oneCell']) ?_))
   refine er (AQ rfl _ _ w.heap.size (w.heap.size+1) _ _ _ _ _ _ _ rfl rfl HZ.o.1 HZ.o.2.1) rfl ?_;exact⟨_,af I 0 0,1,(lines.length:Int),rfl,HZ.o.2.2,by rw[HE.o],by rw[HE.o];rfl,λ_=>by rw[HE.o],0,gm.nil _ _⟩
  have HE:aa (ct bq 0 ⟨-1,cE⟩ (lines.map bl)=((0,-1),st)):=by show _=_;rw[Dp.o,ct,aK h2]
  have AJ:nh _:=⟨bw HO.o.1.len (by have:=F6.o.1;omega),λe he=>by
   obtain⟨a,b⟩:=HO.o.2 e he;have sz:=(HO.o.1.sz e he).mono (m:=1000000) (by have:=F6.o.1;omega);exact⟨a,sz.p,b,sz.g,sz.d,sz.f,sz.l⟩⟩
  have iw:aa _:=AJ;have m0:¬cf _=⟨#[]⟩:=λh=>by have:=(S7 oY.o.2).1 h;omega
  have m1:¬cf _=eN 0:=λh=>by have:=(KX oY.o.2 (by decide)).1 h;omega
  have m2:¬cf _=eN 1:=λh=>by have:=(KX oY.o.2 (by decide)).1 h;omega
  obtain⟨va,vc,rfl⟩:=cJ HV.o.aw;have hrow:=HV.o.row;obtain⟨lw,Tw⟩:∃lw,lw=cf st.last:=⟨_,rfl⟩;rw[<- Tw]at m0 m1 m2 r5 hrow;obtain⟨a1,a2⟩:=eM (l:=[]) m0;obtain⟨b1,b2⟩:=eM (l:=[119,105,110,100,111,119]) m1;obtain⟨d1,d2⟩:=eM (l:=[99,121,99,108,101]) m2;have a3:lw.toList.isEmpty=false:=by simpa using a2
  have gu:aa (∀V,Below wr.heap.size wr V->V.cell? ⟨rb,0,I⟩=J (U R st.cfg.closed)/\V.cell? ⟨rb,1,I⟩=J (U R st.cfg.opn)/\V.cell? ⟨rb,2,I⟩=J (U R st.cfg.cycle)/\V.cell? ⟨rb,3,I⟩=J (U R st.cfg.bC)/\V.cell? ⟨rb,4,I⟩=J (af va st.cfg.aw.length vc)):=λV hV=>by
   have:=bG hV hrow;exact⟨by simp[World.cell?,this,bV],by simp[World.cell?,this,bV],by simp[World.cell?,this,bV],by simp[World.cell?,this,bV],by simp[World.cell?,this,bV]⟩
  obtain⟨r0,r1,r2,r3,r4⟩:=gu.o wr (aC _ _);have La:aa _:=afJ _ va vc wr HV.o.FJ.aw AJ;clear Tw hrow AJ m0 m1 m2 h2;obtain⟨code,cA⟩:∃x:Int,x=((cG st.cfg).1:Int):=⟨_,rfl⟩;obtain⟨place,yP⟩:∃x:Int,x=(cG st.cfg).2:=⟨_,rfl⟩;rw[<- cA,<- yP]at La;have yJ:aa (code=((cG st.cfg).1:Int)/\place=(cG st.cfg).2):=⟨cA,yP⟩;clear cA yP;go_wp2_with fail
  refine aL La.o ?_;rintro v w6 ⟨rfl,iB⟩;have pV:aa _:=iB;clear iB La r0 r1 r2 r3 r4 r5 a1 a2 a3 b1 b2 d1 d2;go_upto_region 18 with fail
  obtain⟨V,hV⟩:∃V,V=w6.alloc (au #[U R code,U R place] 32):=⟨_,rfl⟩;rw[<- hV];obtain⟨fb,lO⟩:∃b,b=w6.heap.size:=⟨_,rfl⟩;rw[<- lO];have gC:aa (Below wr.heap.size wr V):=by show Below _ _ _;rw[hV];exact pV.o.alloc pV.o.size _
  have oJ:V.heap[fb]?=J (au #[U R code,U R place] 32 (0,0)):=by rw[hV,lO];exact cR w6 _
  have HW:aa (tC w W4.heap.size (af va st.cfg.aw.length vc) st.cfg.aw #[U R 0,U R 0,U R 0,U R 0,af I 0 0] #[U R 0,U R 0] V):=⟨bG gC.o (DA.o wr HB.o),bG gC.o (AR.o wr HB.o),(cY.o wr HB.o).trans (gC.o.mono (cY.o wr HB.o).size),HV.o.FJ.below gC.o⟩;have ah4:¬fb=w.heap.size:=by have:=bJ (DA.o wr HB.o);have:=pV.o.size;omega
  have ah5:¬fb=w.heap.size+1:=by have:=bJ (AR.o wr HB.o);have:=pV.o.size;omega
  have ah6:¬rb=w.heap.size:=F5.o.1;have ah7:¬rb=w.heap.size+1:=F5.o.2;have akg:¬w.heap.size=fb:=λh=>ah4 h.symm
  have akh:¬w.heap.size+1=fb:=λh=>ah5 h.symm
  have aki:¬w.heap.size=rb:=λh=>ah6 h.symm
  have akj:¬w.heap.size+1=rb:=λh=>ah7 h.symm
  have t0:V.cell? ⟨fb,0,I⟩=J (U R code):=by simp[World.cell?,oJ]
  have t1:V.cell? ⟨fb,1,I⟩=J (U R place):=by simp[World.cell?,oJ]
  have q0:V.cell? ⟨w.heap.size,0,I⟩=J (U R 0):=by have:=HW.o.c;simp[World.cell?,this]
  have akk:V.frozen? ⟨w.heap.size,0,I⟩=false:=by have:=HW.o.c;simp[World.frozen?,this]
  have q1:V.cell? ⟨w.heap.size,1,I⟩=J (U R 0):=by have:=HW.o.c;simp[World.cell?,this]
  have akl:V.frozen? ⟨w.heap.size,1,I⟩=false:=by have:=HW.o.c;simp[World.frozen?,this]
  have q2:V.cell? ⟨w.heap.size,2,I⟩=J (U R 0):=by have:=HW.o.c;simp[World.cell?,this]
  have akm:V.frozen? ⟨w.heap.size,2,I⟩=false:=by have:=HW.o.c;simp[World.frozen?,this]
  have q3:V.cell? ⟨w.heap.size,3,I⟩=J (U R 0):=by have:=HW.o.c;simp[World.cell?,this]
  have akn:V.frozen? ⟨w.heap.size,3,I⟩=false:=by have:=HW.o.c;simp[World.frozen?,this]
  have q4:V.cell? ⟨w.heap.size,4,I⟩=J (af I 0 0):=by have:=HW.o.c;simp[World.cell?,this]
  have ako:V.frozen? ⟨w.heap.size,4,I⟩=false:=by have:=HW.o.c;simp[World.frozen?,this]
  have p0:V.cell? ⟨w.heap.size+1,0,I⟩=J (U R 0):=by have:=HW.o.f;simp[World.cell?,this]
  have p1:V.cell? ⟨w.heap.size+1,1,I⟩=J (U R 0):=by have:=HW.o.f;simp[World.cell?,this]
  have akp:V.frozen? ⟨w.heap.size+1,0,I⟩=false:=by have:=HW.o.f;simp[World.frozen?,this]
  have akq:V.frozen? ⟨w.heap.size+1,1,I⟩=false:=by have:=HW.o.f;simp[World.frozen?,this]
  obtain⟨r0,r1,r2,r3,r4⟩:=gu.o V gC.o;clear hV lO oJ
  by_cases h0:(cG st.cfg).1=0
  ·have AU:aa (cW bq (bl s)=((0,-1),st.cfg)):=by show _=_;rw[pQ.o,HE.o,aR rfl,aR h0]
   have g0:¬(0:Int)<code:=by have:=yJ.o.1;omega
   have ft:aa (code=0):=by show _=_;have:=yJ.o.1;omega
   clear h0;go_wp2_with fail
   go_region
   all_goals
    go_wp2_with fail
    have hz:=((((((((HW.o.tD 0 (U R st.cfg.closed)).tD 1 (U R st.cfg.opn)).tD 2 (U R st.cfg.cycle)).tD 3 (U R st.cfg.bC)).tD 4 (af va st.cfg.aw.length vc)).xK 0 (U R code)).xK 1 (U R place)).drew)
    refine er (AQ rfl _ _ w.heap.size (w.heap.size+1) _ _ _ _ _ _ _ rfl rfl hz.c hz.f) rfl ?_;exact⟨_,_,_,_,rfl,hz.br,by rw[AU.o],by rw[AU.o];exact ft.o,λh=>absurd ft.o h,_,hz.own⟩
  have AU:aa (cW bq (bl s)=(cG st.cfg,cE)):=by show _=_;rw[pQ.o,HE.o,aR rfl,aK h0]
  have g0:(0:Int)<code:=by have:=yJ.o.1;omega
  clear h0;go_wp2_with fail
  go_region
  all_goals
   go_wp2_with fail
   have hz:=((((((((HW.o.tD 0 (U R 0)).tD 1 (U R 0)).tD 2 (U R 0)).tD 3 (U R 0)).tD 4 (af I 0 0)).xK 0 (U R code)).xK 1 (U R place)).drew)
   refine er (AQ rfl _ _ w.heap.size (w.heap.size+1) _ _ _ _ _ _ _ rfl rfl hz.c hz.f) rfl ?_;exact⟨_,_,code,place,rfl,hz.br,by rw[AU.o],by rw[AU.o];exact yJ.o.1,λ_=>by rw[AU.o];exact yJ.o.2,0,gm.nil _ _⟩
end Go.Proofs.YtgmfhkjghmdgiaaGreatDoor
