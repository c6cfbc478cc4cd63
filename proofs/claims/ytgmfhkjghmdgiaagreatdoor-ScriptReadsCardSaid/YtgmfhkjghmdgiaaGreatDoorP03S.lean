/-
  Several texts as one: RingOps, RingApp, RingAppGo, RingPure, RingInv, RingMore, Orders, DogSt, DogOps, AlSt, LcPure, CfCopy, CfOwn, Rw, GaSt, GaOps.
-/
import Derived.Test.YtgmfhkjghmdgiaaGreatDoorP02S
import Derived.Orders
import Derived.Deep.Upon
import Derived.Laws.Rows
set_option linter.all false
set_option maxHeartbeats 40000000
set_option maxRecDepth 100000
abbrev bA.{u}:=@Array.mem_of_getElem?.{u}
abbrev aN:=@Go.Proofs.YtgmfhkjghmdgiaaGreatDoor.Below.one
abbrev bM:=@decide_eq_true
abbrev iF.{u}:=@List.mem_singleton.{u}
abbrev oM.{u}:=@Array.getElem?_eq_getElem.{u}
abbrev l4.{u}:=@List.take_length.{u}
abbrev l_:=@Go.Obj.cells.injEq
abbrev sw.{u}:=@Array.getElem?_eq_some_iff.{u}
abbrev ua.{u}:=@Array.getD_eq_getD_getElem?.{u}
abbrev qo.{u}:=@List.length_nil.{u}
abbrev sx.{u}:=@Option.getD_some.{u}
abbrev qX:=@Nat.add_assoc
abbrev zm:=@Go.IntKind.wrap_i64
open Go renaming Addr→az,Value→ar,World→ai
open Go.Ending renaming returned→ax
open Go.IntKind renaming i64→R
open Go.Obj renaming cells→au
open Go.RowKit renaming Hid→aa
open Go.Value renaming agg→aU,bool→aI,int→U,pointer→aj,slice→af,string→aq,tuple→bn
open Option renaming none→I,some→J
open Go.Proofs.Tryz
namespace Go.Proofs.YtgmfhkjghmdgiaaGreatDoor
open Go.Extern Go.Extern.Stop Go.RowKit Go.Stop
theorem XQ(A:Nat->az)(bc:Nat)(s:aM)(j:Nat)(w:ai)(h:bY w bc s)(hs:gT A w)(he:s.err 0 153=j+1):Calls prog 107 #[aj (J ⟨bc,0,.none⟩)] w λe w'=>e=ax (bn #[aj .none,errVal A (j+1)])/\Below w.heap.size w w':=by
 have B1:=(aC _ w).alloc (aQ _) (au #[aj (J ⟨bc,0,.none⟩)] 235);have HH:aa _:=Xa A bc s j _ (h.below B1) (hs.below B1) he;go_enter func107,ntmps107
 go_wp2_with fail
 refine aL HH.o ?_;rintro e w1 ⟨rfl,hb1⟩;have B2:=B1.trans (hb1.mono (by simp));unfold errVal;have s1:=hb1.size;simp only[qT]at s1;go_wp2_with (refine f_ rfl 236 _ _ rfl _ _ rfl rfl 236 _ (cR w1 _) (xx _ (by simp)) rfl (xw _) ?_)
 go_ret2
 exact⟨rfl,below_setRow (B2.alloc (by omega) _) (by omega) _⟩
def sy(n m:Int):Bool:=decide (0<=n/\n<=m)
theorem zn(n m:Int)(w:ai):Calls prog 255 #[U R n,U R m] w λe w'=>e=ax (aI (sy n m))/\w'=w:=by
 by_cases h0:0<=n
 ·by_cases h1:n<=m
  ·have HD:aa (sy n m=true):=bM ⟨h0,h1⟩;go_enter func255,ntmps255
   go_wp2;go_ret;rw[HD.o];exact⟨rfl,rfl⟩
  have HD:aa (sy n m=false):=cw (λh=>h1 h.2);go_enter func255,ntmps255
  go_wp2;go_ret;rw[HD.o];exact⟨rfl,rfl⟩
 have HD:aa (sy n m=false):=cw (λh=>h0 h.1);go_enter func255,ntmps255
 go_wp2;go_ret;rw[HD.o];exact⟨rfl,rfl⟩
theorem XR(B rb bc:Nat)(v:ar)(L:List Rec)(sp:Bool)(w:ai)(h:eK w B rb bc v L sp)(hl:L.length<=100):Calls prog 116 #[aj (J ⟨rb,0,.none⟩)] w λe w'=>∃v',e=ax v'/\fD w' w.heap.size v' L/\Below w.heap.size w w':=by
 have c1:=h.c1;go_enter func116,ntmps116
 go_wp2_with fail
 refine(W7 B v L _ h.recs hl).mono ?_;rintro e w1 ⟨v1,rfl,hr,hb⟩;go_wp2;go_ret;exact⟨_,rfl,hr,hb⟩
theorem fS.drew{w:ai}{b:Nat}{r:Rec}(h:fS w b r):fS w.drew b r:=⟨h.heap⟩
def fT(L:List Rec):Rec:=L.getLast?.getD .none
theorem Hl(B rb bc:Nat)(v:ar)(L:List Rec)(sp:Bool)(w:ai)(h:eK w B rb bc v L sp)(hl:L.length<=100):Calls prog 115 #[aj (J ⟨rb,0,.none⟩)] w λe w'=>e=ax (bn #[(fT L).val,aI (decide (0<L.length))])/\Below w.heap.size w w':=by
 have B1:=(aC _ w).alloc (aQ _) (au #[U R ((Rec.none.seq:Nat):Int),U R ((Rec.none.dU:Nat):Int),U R ((Rec.none.kind:Nat):Int),U R ((Rec.none.tick:Nat):Int)] 119);have R1:=h.below B1;have Z1:=fS.new w .none;have hlt:=h.lt;obtain⟨W,hW⟩:∃W,w.alloc (au #[U R ((Rec.none.seq:Nat):Int),U R ((Rec.none.dU:Nat):Int),U R ((Rec.none.kind:Nat):Int),U R ((Rec.none.tick:Nat):Int)] 119)=W:=⟨_,rfl⟩;rw[hW]at B1 R1 Z1;have HW:aa (w.alloc (au #[U R 0,U R 0,U R 0,U R 0] 119)=W):=hW;clear hW;have c1:=R1.c1;obtain⟨z0,z1,z2,z3⟩:=Z1.at;have f0:=Z1.frozen 0;have f1:=Z1.frozen 1;have f2:=Z1.frozen 2;have f3:=Z1.frozen 3;have zl:=Z1.lt
 rcases R1.recs.qV with⟨rfl,rfl⟩|⟨g,cap,rfl,hbg,hrow,hlc,hm⟩
 ·go_enter func115,ntmps115
  go_upto_region 1 with fail
  rw[HW.o];go_wp2_with fail
  refine er (sq rfl _ _ _ .none rfl (Z1.nU .none).at) rfl ?_;exact⟨rfl,r7 B1 (qU _ _ _ _ _ _) (by omega) (aQ _)⟩
 by_cases h0:L.length=0
 ·have hnil:=List.length_eq_zero_iff.1 h0;subst hnil;go_enter func115,ntmps115
  go_upto_region 1 with fail
  rw[HW.o];go_wp2_with fail
  refine er (sq rfl _ _ _ .none rfl (Z1.nU .none).at) rfl ?_;exact⟨rfl,r7 B1 (qU _ _ _ _ _ _) (by omega) (aQ _)⟩
 obtain⟨n,hn⟩:∃n,L.length=n+1:=⟨L.length-1,by omega⟩;obtain⟨⟨a0,a1,a2,a3⟩,-⟩:=hrow.cells n (by omega);have hx:L[n]'(by omega)=fT L:=by
  unfold fT;rw[List.getLast?_eq_getElem?,show L.length-1=n by omega,bH (by omega)];rfl
 rw[hx]at a0 a1 a2 a3;have HD:aa (decide (0<L.length)=true):=bM (by omega);rw[hn]at c1;have Hm:g≠w.heap.size:=by
  have:=h.recs.lt g rfl;omega
 have aiR:¬((n:Int)+1=0):=by omega
 clear hx;generalize fT L=x at *;go_enter func115,ntmps115
 go_upto_region 1 with fail
 rw[HW.o];go_wp2_with fail
 go_region
 go_wp2_with fail
 refine er (sq rfl _ _ _ x rfl (Z1.nU x).drew.at) rfl ?_;rw[HD.o];exact⟨rfl,(r7 B1 (qU _ _ _ _ _ _) (by omega) (aQ _)).drew⟩
theorem XS(B rb bc:Nat)(v:ar)(L:List Rec)(sp:Bool)(x:Rec)(w:ai)(h:eK w B rb bc v L sp)(oK:bc<w.heap.size)(hl:L.length<=8):Calls prog 257 #[aj (J ⟨rb,0,.none⟩),x.val] w λe w'=>e=ax (bn #[])/\∃v',eK w' B rb bc v' (qW L x) sp/\bh (λk=>k=rb\/v.ownBlock=J k) w w'/\∀k,v'.ownBlock=J k->v.ownBlock=J k\/w.heap.size<=k:=by
 unfold qW
 by_cases h8:L.length=8
 ·rw[aR h8]
  cases L with
  |nil=>cases h8
  |cons y M=>exact XO B rb bc v y M sp x w h oK (by simpa using h8)
 rw[aK h8];exact XM B rb bc v L sp x w h oK (by omega)
theorem Nf(w:ai):∃W,w.alloc (au #[U R 0,U R 0,U R 0,U R 0] 119)=W/\fS W w.heap.size .none/\Below w.heap.size w W/\W.heap.size=w.heap.size+1:=
 ⟨_,rfl,fS.new w .none,(aC _ _).alloc (aQ _) _,by simp⟩
theorem XT(A:Nat->az)(B rb bc:Nat)(v:ar)(L:List Rec)(n1 n2 n3:Int)(w:ai)(h:eK w B rb bc v L false)(hs:gT A w)(hl:L.length<=8)(mz:sy n1 255=true)(hf2:sy n2 255=true)(hf3:sy n3 281474976710655=true)(hq:(fT L).seq=4294967295):Calls prog 220 #[aj (J ⟨rb,0,.none⟩),U R n1,U R n2,U R n3] w λe w'=>e=ax (bn #[Rec.none.val,errVal A 7])/\Below w.heap.size w w':=by
 obtain⟨W,hW,Z1,B1,s1⟩:=Nf w;have R1:=h.below B1;have S1:=hs.below B1;have HW:aa _:=hW;clear hW;have c2:=R1.c2;have n7:¬w.heap.size=6:=by have:=fY hs.c6;simp at this;omega
 have aiS:¬6=w.heap.size:=by omega
 go_enter func220,ntmps220
 go_upto_region 1 with fail
 rw[HW.o];go_wp2_with fail
 refine(zn n1 255 W).mono ?_;rintro e w1 ⟨rfl,rfl⟩;rw[mz];go_wp2_with fail
 refine(zn n2 255 w1).mono ?_;rintro e w2 ⟨rfl,rfl⟩;rw[hf2];go_wp2_with fail
 refine(zn n3 281474976710655 w2).mono ?_;rintro e w3 ⟨rfl,rfl⟩;rw[hf3];go_wp2_with fail
 refine(Hl B rb bc v L _ w3 R1 (by omega)).mono ?_;rintro e w4 ⟨rfl,hb4⟩;have hq':((fT L).seq:Int)=4294967295:=by omega
 unfold Rec.val;rw[hq'];have B4:=B1.trans (hb4.mono (by omega));have Z4:=Z1.below hb4 Z1.lt;have S4:=S1.below hb4;have s4:=hb4.size;have z4:=Z4.lt;go_upto_region 6 with fail
 obtain⟨W5,vN⟩:∃W5,w4.alloc (au #[U R 4294967295,U R ((fT L).dU:Int),U R ((fT L).kind:Int),U R ((fT L).tick:Int)] 119)=W5:=⟨_,rfl⟩;have B5:Below w4.heap.size w4 W5:=by rw[<- vN];exact(aC _ _).alloc (aQ _) _
 have c5:W5.cell? ⟨w4.heap.size,0,.none⟩=J (U R 4294967295):=by rw[<- vN];exact dK _ _ _ _ rfl
 rw[vN];have Z5:=Z4.below B5 z4;have g6:=(S4.below B5).c6;obtain⟨z0,z1,z2,z3⟩:=Z5.at;have f0:=Z5.frozen 0;have f1:=Z5.frozen 1;have f2:=Z5.frozen 2;have f3:=Z5.frozen 3;have s5:=B5.size;go_wp2_with fail
 go_region
 all_goals
  go_wp2_with fail
  refine er (sq rfl _ _ _ .none rfl (Z5.nU .none).drew.at) rfl ?_;exact⟨rfl,(r7 (B4.trans (B5.mono (by omega))) (qU _ _ _ _ _ _) (by omega) (aQ _)).drew⟩
theorem eK.off{w w':ai}{B rb bc:Nat}{v:ar}{L:List Rec}{sp:Bool}{S:Nat->Prop}(h:eK w B rb bc v L sp)(ho:bh S w w')(h1:¬S rb)(h2:∀g,v.ownBlock=J g->¬S g):eK w' B rb bc v L sp:=by
 refine⟨(ho.block rb h.lt h1).trans h.heap,?_,h.sep,h.lo⟩
 rcases h.recs.qV with⟨rfl,rfl⟩|⟨g,cap,rfl,hbg,hrow,hlc,hm⟩
 ·exact fC _ _ _ _
 obtain⟨cur,hg,k2,k3⟩:=hrow.row;exact fD.xy ⟨⟨cur,(ho.block g hrow.lt (h2 g rfl)).trans hg,k2,k3⟩⟩ hbg hlc hm
theorem eK.spent{w:ai}{B rb bc:Nat}{v:ar}{L:List Rec}{sp:Bool}(h:eK w B rb bc v L sp):eK (w.setCell ⟨rb,2,.none⟩ (aI true)) B rb bc v L true:=by
 have t_:w.grownBy (w.setCell ⟨rb,2,_⟩ (aI true)) _:=gS (ky _ _) _ _
 refine⟨by simp[World.setCell,dr,h.heap],?_,h.sep,h.lo⟩
 rcases h.recs.qV with⟨rfl,rfl⟩|⟨g,cap,rfl,hbg,hrow,hlc,hm⟩
 ·exact fC _ _ _ _
 exact fD.xy (hrow.grown t_ (λe=>h.sep.1 (by rw[<- e];rfl))) hbg hlc hm
theorem fS.off{w w':ai}{b:Nat}{r:Rec}{S:Nat->Prop}(h:fS w b r)(ho:bh S w w')(h1:¬S b):fS w' b r:=⟨(ho.block b h.lt h1).trans h.heap⟩
theorem bY.off{w w':ai}{b:Nat}{s:aM}{S:Nat->Prop}(h:bY w b s)(ho:bh S w w')(h1:¬S b):bY w' b s:=⟨(ho.block b h.lt h1).trans h.heap,h.len,h.size⟩
def jW(L:List Rec)(e k t:Nat):Rec:=⟨(fT L).seq+1,e,k,t⟩
theorem XU(A:Nat->az)(B rb bc:Nat)(v:ar)(L:List Rec)(s:aM)(n1 n2 n3:Nat)(w:ai)(h:eK w B rb bc v L false)(hc:bY w bc s)(hs:gT A w)(qi:8<=bc)(jb:rb≠bc)(Ng:s.Low 18)(hl:L.length<=8)(mz:n1<=255)(hf2:n2<=255)(hf3:n3<=281474976710655)(hq:(fT L).seq<4294967295):Calls prog 220 #[aj (J ⟨rb,0,.none⟩),U R (n1:Int),U R (n2:Int),U R (n3:Int)] w λe w'=>
   (∃j,(s.eU (jW L n1 n2 n3)).2=j+1/\e=ax (bn #[Rec.none.val,errVal A (j+1)])/\eK w' B rb bc v L true/\bY w' bc (s.eU (jW L n1 n2 n3)).1/\bh (λk=>k=bc\/k=rb\/v.ownBlock=J k) w w') \/
   ((s.eU (jW L n1 n2 n3)).2=0/\e=ax (bn #[(jW L n1 n2 n3).val,.nilIface])/\(∃v',eK w' B rb bc v' (qW L (jW L n1 n2 n3)) false/\∀k,v'.ownBlock=J k->v.ownBlock=J k\/w.heap.size<=k)/\bY w' bc (s.eU (jW L n1 n2 n3)).1/\bh (λk=>k=bc\/k=rb\/v.ownBlock=J k) w w'):=by
 have q1:sy (n1:Int) 255=true:=bM (by omega);have q2:sy (n2:Int) 255=true:=bM (by omega);have q3:sy (n3:Int) 281474976710655=true:=bM (by omega);obtain⟨W,hW,Z1,B1,s1⟩:=Nf w;have hlt:=h.lt;have aiT:=hc.lt;have Ee:aa _:=h.recs.lt;have R1:=h.below B1;have S1:=hs.below B1;have C1:=hc.below B1;have HW:aa _:=hW;clear hW;have c2:=R1.c2;have Nh:aa _:=λw' ha hs'=>Xx A bc s (jW L n1 n2 n3) w' ha hs' qi Ng (by simp[jW]) (by simp[jW];omega)
 have gI:=Nh.o;have Hn:aa ((jW L n1 n2 n3).val=aU #[U R (((fT L).seq:Int)+1),U R (n1:Int),U R (n2:Int),U R (n3:Int)]):=by
  show _=_
  simp[jW,Rec.val]
 rw[Hn.o]at gI;have Ni:aa _:=gI;clear gI Nh;generalize il:jW L n1 n2 n3=x at *;have hx0:(x.seq:Int)=((fT L).seq:Int)+1:=by rw[<- il];simp[jW]
 have hx1:x.dU=n1:=by rw[<- il];rfl
 have hx2:x.kind=n2:=by rw[<- il];rfl
 have hx3:x.tick=n3:=by rw[<- il];rfl
 clear il;subst hx1 hx2 hx3;have jH:aa _:=hx0;clear hx0;go_enter func220,ntmps220
 go_upto_region 1 with fail
 rw[HW.o];go_wp2_with fail
 refine(zn _ 255 W).mono ?_;rintro e w1 ⟨rfl,rfl⟩;rw[q1];go_wp2_with fail
 refine(zn _ 255 w1).mono ?_;rintro e w2 ⟨rfl,rfl⟩;rw[q2];go_wp2_with fail
 refine(zn _ 281474976710655 w2).mono ?_;rintro e w3 ⟨rfl,rfl⟩;rw[q3];go_wp2_with fail
 refine(Hl B rb bc v L _ w3 R1 (by omega)).mono ?_;rintro e w4 ⟨rfl,hb4⟩;have hq':(((fT L).seq:Int)==4294967295)=false:=by rw[iZ];omega
 have HQ:aa _:=hq;have aiU:IntKind.i64.wrap (((fT L).seq:Int)+1)=((fT L).seq:Int)+1:=by rw[zm];omega
 clear hq Ng;unfold Rec.val;have B4:=B1.trans (hb4.mono (by omega));have Z4:=Z1.below hb4 Z1.lt;have S4:=S1.below hb4;have C4:=C1.below hb4;have R4:=R1.below hb4;have s4:=hb4.size;clear c2 hb4 B1 Z1 S1 C1 R1;generalize fT L=y at *;go_upto_region 6 with fail
 obtain⟨W5,vN⟩:∃W5,w4.alloc (au #[U R (y.seq:Int),U R (y.dU:Int),U R (y.kind:Int),U R (y.tick:Int)] 119)=W5:=⟨_,rfl⟩;have B5:Below w4.heap.size w4 W5:=by rw[<- vN];exact(aC _ _).alloc (aQ _) _
 have c5:W5.cell? ⟨w4.heap.size,0,.none⟩=J (U R (y.seq:Int)):=by rw[<- vN];exact dK _ _ _ _ rfl
 rw[vN];clear vN;have s5:=B5.size;go_upto_region 9 with fail
 obtain⟨W6,BH⟩:∃W6,W5.alloc (au #[U R ((y.seq:Int)+1),U R (x.dU:Int),U R (x.kind:Int),U R (x.tick:Int)] 119)=W6:=⟨_,rfl⟩;have B6:Below W5.heap.size W5 W6:=by rw[<- BH];exact(aC _ _).alloc (aQ _) _
 have X6:fS W6 W5.heap.size x:=by
  refine⟨?_⟩;rw[<- BH,jH.o];exact cR _ _
 rw[BH];have s6:W6.heap.size=W5.heap.size+1:=by rw[<- BH];simp
 clear BH;have BI:=B5.trans (B6.mono s5);have XV:=B4.trans (BI.mono (by omega));have R6:=R4.below BI;have C6:=C4.below BI;have S6:=S4.below BI;have Z6:=Z4.below BI Z4.lt;have z4:=Z4.lt;clear R4 C4 S4 Z4 c5;obtain⟨e0,e1,e2,e3⟩:=X6.at;rw[jH.o]at e0;have r0:=R6.c0;have Nj:bY W6.drew bc s:=⟨C6.heap,C6.len,C6.size⟩;have Nk:gT A W6.drew:=⟨S6.c1,S6.c2,S6.c6,S6.c7⟩;have eH:W5.heap.size≠bc:=by omega
 go_region_held3 (λw'=>w'.cell? ⟨rb,0,.none⟩=J (aj (J ⟨bc,0,.none⟩))/\w'.cell? ⟨W5.heap.size,0,.none⟩=J (U R ((y.seq:Int)+1))/\w'.cell? ⟨W5.heap.size,1,.none⟩=J (U R (x.dU:Int))/\w'.cell? ⟨W5.heap.size,2,.none⟩=J (U R (x.kind:Int))/\w'.cell? ⟨W5.heap.size,3,.none⟩=J (U R (x.tick:Int))) (first|exact⟨r0,e0,e1,e2,e3⟩|exact⟨k0,k1,k2,k3,k4⟩) (first|(go_at_call 256;refine aL (Ni.o _ Nj Nk) ?_;rintro e w7 ⟨rfl,C7,G7⟩;have k0:=vM G7 (show W6.drew.cell? _=_ from r0) jb;have k1:=vM G7 (show W6.drew.cell? _=_ from e0) eH;have k2:=vM G7 (show W6.drew.cell? _=_ from e1) eH;have k3:=vM G7 (show W6.drew.cell? _=_ from e2) eH;have k4:=vM G7 (show W6.drew.cell? _=_ from e3) eH))
 have O7:=(bh.ig ((aC _ _).drew) _).trans (bh.iO G7) (λ_ _ hs=>hs);have R7:=R6.off O7 jb (λg e1 e2=>R6.sep.2 (by rw[e1,e2]));have Z7:=Z6.off O7 (by omega);have X7:=X6.off O7 eH;have Nl:=(bh.ig XV (λk=>k=bc\/k=rb\/v.ownBlock=J k)).trans O7 (λ_ _ hs=>a_ hs);have Nn:¬w.heap.size=rb:=by omega
 have Np:¬rb=w.heap.size:=by omega
 have s7:=O7.size;clear k0 k1 k2 k3 k4 e0 e1 e2 e3 r0 R6 Z6 X6 C6 Nj Nk G7 Ni;generalize Nq:s.eU x=p at *;have jt:aa _:=Nq;clear Nq
 cases hp:p.2 with
 |succ j=>
  have c2:=R7.c2;have f2:=R7.frozen 2;have G8:w7.grownBy (w7.setCell ⟨rb,2,.none⟩ (aI true)) (J rb):=gS (ky _ _) _ _;have R8:=R7.spent;have Z8:=Z7.off (bh.iO G8) Nn;have C8:=C7.off (bh.iO G8) (λe=>jb e.symm);have z0:=Z8.at.c0;have z1:=Z8.at.c1;have z2:=Z8.at.c2;have z3:=Z8.at.c3;have g0:=Z8.frozen 0;have g1:=Z8.frozen 1;have g2:=Z8.frozen 2;have g3:=Z8.frozen 3;unfold errVal;go_upto_region 12 with fail
  obtain⟨W8,Ho⟩:∃W8,w7.setCell ⟨rb,2,.none⟩ (aI true)=W8:=⟨_,rfl⟩;rw[Ho]at R8 Z8 C8 z0 z1 z2 z3 g0 g1 g2 g3 G8;rw[Ho];clear Ho c2 f2;go_wp2_with fail
  have G9:=qU W8 w.heap.size (U R 0) (U R 0) (U R 0) (U R 0)
  refine er (sq rfl _ _ w.heap.size .none rfl (Z8.nU .none).at) rfl ?_;rw[jt.o]
  refine a_ ⟨j,hp,rfl,R8.off (bh.iO G9) Np (λg e1 e2=>by have:=(Ee.o g e1).2;omega),C8.off (bh.iO G9) (by omega),?_⟩;exact(Nl.trans (bh.iO G8) (λk _ hs=>aP (a_ hs))).trans (bh.iO G9) (λk hk hs=>by omega)
 |zero=>
  have KP:=XS B rb bc v L _ x w7 R7 (by omega) hl;rw[Hn.o]at KP;have vO:aa _:=KP;clear KP;have e0:=X7.at.c0;rw[jH.o]at e0;have e1:=X7.at.c1;have e2:=X7.at.c2;have e3:=X7.at.c3;unfold errVal;go_wp2_with fail
  refine aL vO.o ?_;rintro e w8 ⟨rfl,v',R8,O8,K8⟩;have nz:¬(w.heap.size=rb\/v.ownBlock=J w.heap.size):=by
   rintro(e|e)
   ·exact Nn e
   have:=(Ee.o _ e).2;omega
  have nx:¬(W5.heap.size=rb\/v.ownBlock=J W5.heap.size):=by
   rintro(e|e)
   ·omega
   have:=(Ee.o _ e).2;omega
  have nc:¬(bc=rb\/v.ownBlock=J bc):=by
   rintro(e|e)
   ·exact jb e.symm
   exact R7.sep.2 e
  have Z8:=Z7.off O8 nz;have X8:=X7.off O8 nx;have C8:=C7.off O8 nc;clear e0 e1 e2 e3 vO;have e0:=X8.at.c0;rw[jH.o]at e0;have e1:=X8.at.c1;have e2:=X8.at.c2;have e3:=X8.at.c3;have z0:=Z8.at.c0;have z1:=Z8.at.c1;have z2:=Z8.at.c2;have z3:=Z8.at.c3;have g0:=Z8.frozen 0;have g1:=Z8.frozen 1;have g2:=Z8.frozen 2;have g3:=Z8.frozen 3;go_wp2_with fail
  have Z9:=Z8.nU x;rw[jH.o]at Z9;have G9:=qU w8 w.heap.size (U R ((y.seq:Int)+1)) (U R (x.dU:Int)) (U R (x.kind:Int)) (U R (x.tick:Int))
  refine er (sq rfl _ _ _ x rfl Z9.at) rfl ?_;have nv:∀g,v'.ownBlock=J g->¬g=w.heap.size:=λg e e2=>by
   rcases K8 g e with e3|e3
   ·have:=(Ee.o g e3).2;omega
   omega
  rw[jt.o]
  refine aP ⟨hp,Hn.o▸rfl,⟨v',R8.off (bh.iO G9) Np nv,λk e=>(K8 k e).imp id (λh=>by omega)⟩,C8.off (bh.iO G9) (by omega),?_⟩;exact(Nl.trans O8 (λk _ hs=>aP hs)).trans (bh.iO G9) (λk hk hs=>by omega)
def sl(s:aM)(i:Nat):List UInt8:=(s.bytes.drop (i*17)).take 17
structure kM(s:aM):Prop where
 len:s.bytes.length=4096
 size:153<=s.size
 top:s.size<=4096
theorem Hp{s:aM}(h:kM s)(i:Nat)(hi:i<9):(sl s i).length=17:=by
 unfold sl;rw[gy,List.length_drop,h.len];omega
theorem XW{s:aM}(i:Nat)(hi:i<9):lg (s.bytes.take 153) i=sl s i:=by
 unfold lg sl;rw[List.drop_take,List.take_take];congr 1
 omega
theorem XX(l:List UInt8):∀(s:aM) (p:Nat),(s.cQ p l).bytes.length=s.bytes.length:=by
 induction l with
 |nil=>intro s p;rfl
 |cons y r ih=>intro s p;simp only[aM.cQ,ih];simp[aM.put]
theorem kM.cQ{s:aM}(h:kM s)(p:Nat)(l:List UInt8):kM (s.cQ p l):=⟨by rw[XX];exact h.len,by rw[aM.GN];exact h.size,by rw[aM.GN];exact h.top⟩
theorem zo{s:aM}(i k:Nat)(hk:k<17):(sl s i)[k]?=s.bytes[i*17+k]?:=by
 unfold sl;rw[oG,aR hk,List.getElem?_drop]
theorem Nr(s:aM)(p:Nat)(l:List UInt8)(hf:p+l.length<=s.bytes.length)(k:Nat):(s.cQ p l).bytes[k]?=if p<=k/\k<p+l.length then l[k-p]? else s.bytes[k]?:=by
 rw[aM.V7 l s p hf];have hp:(s.bytes.take p).length=p:=by rw[gy];omega
 by_cases h1:k<p
 ·rw[aK (by omega),iV,mX (by omega),oG,aR h1]
 by_cases h2:k<p+l.length
 ·rw[aR ⟨by omega,h2⟩,mX (by rw[dm,hp];omega),ko (by omega),hp]
 rw[aK (by omega),ko (by rw[dm,hp];omega),List.getElem?_drop];congr 1
 rw[dm,hp];omega
theorem XY{s:aM}(h:kM s)(q i p:Nat)(l:List UInt8)(hq:q<9)(hi:i<9)(hne:i≠q)(h1:q*17<=p)(h2:p+l.length<=q*17+17):sl (s.cQ p l) i=sl s i:=by
 apply List.ext_getElem?
 intro k
 by_cases hk:k<17
 ·rw[zo _ _ hk,zo _ _ hk,Nr _ _ _ (by rw[h.len];omega),aK (by omega)]
 rw[iI (by rw[Hp (h.cQ p l) i hi];omega),iI (by rw[Hp h i hi];omega)]
theorem Ef{s:aM}(h:kM s)(q p k:Nat)(l:List UInt8)(hq:q<9)(XZ:q*17<=p)(h2:p+l.length<=q*17+17)(hk:k<17):(sl (s.cQ p l) q)[k]?=if p<=q*17+k/\q*17+k<p+l.length then l[q*17+k-p]? else (sl s q)[k]?:=by
 rw[zo _ _ hk,zo _ _ hk,Nr _ _ _ (by rw[h.len];omega)]
structure kN(s s':aM)(q:Nat):Prop where
 big:kM s'
 size:s'.size=s.size
 same:∀i,i<9->i≠q->sl s' i=sl s i
theorem kN.refl{s:aM}(h:kM s)(q:Nat):kN s s q:=⟨h,rfl,λ_ _ _=>rfl⟩
theorem kN.trans{a b c:aM}{q:Nat}(h:kN a b q)(k:kN b c q):kN a c q:=⟨k.big,k.size.trans h.size,λi hi hn=>(k.same i hi hn).trans (h.same i hi hn)⟩
theorem kN.off{s s':aM}{q:Nat}(h:kN s s' q)(x:Bool):kN s { s' with off:=x } q:=⟨⟨h.big.len,h.big.size,h.big.top⟩,h.size,h.same⟩
theorem kN.cQ{s:aM}(h:kM s)(q p:Nat)(l:List UInt8)(hq:q<9)(h1:q*17<=p)(h2:p+l.length<=q*17+17):kN s (s.cQ p l) q:=
 ⟨h.cQ p l,aM.GN _ _ _,λi hi hn=>XY h q i p l hq hi hn h1 h2⟩
theorem Hq{s:aM}(h:kM s)(ho:s.off=false)(q p:Nat)(l:List UInt8)(hq:q<9)(XZ:q*17<=p)(h2:p+l.length<=q*17+17):(∃m,m<l.length/\s.gU p l=({ s.cQ p (l.take m)with off:=true },8))\/s.gU p l=(s.cQ p l,0):=by
 have hz:=h.size;have he:s.err p l.length=0:=by
  unfold aM.err;rw[aK (by omega),ho];rfl
 unfold aM.gU;rw[aR he];unfold aM.write
 by_cases hc:s.cut=true/\s.left<l.length
 ·rw[aR hc];exact a_ ⟨_,hc.2,rfl⟩
 rw[aK hc];exact aP rfl
theorem Hr{s:aM}(h:kM s)(ho:s.off=false)(r:Rec):((s.eU r).2=0/\kN s (s.eU r).1 ((r.seq-1)%9)/\(s.eU r).1.off=false/\sl (s.eU r).1 ((r.seq-1)%9)=enc r) \/
  ((s.eU r).2=8/\kN s (s.eU r).1 ((r.seq-1)%9)/\(sl (s.eU r).1 ((r.seq-1)%9)=sl s ((r.seq-1)%9)\/(sl (s.eU r).1 ((r.seq-1)%9))[16]?=J 0)):=by
 have hq:(r.seq-1)%9<9:=Nat.mod_lt _ (by decide);unfold aM.eU;generalize (r.seq-1)%9=q at *;simp only[];have hz:(s.zeroAt (q*17+16)=({ s.cQ (q*17+16) []with off:=true },8))\/(∃a,s.zeroAt (q*17+16)=(a,0)/\kN s a q/\a.off=false/\(sl a q)[16]?=J 0):=by
  have he:s.err ((q*17+16:Nat):Int) 1=0:=by
   unfold aM.err;have:=h.size;rw[aK (by omega),ho];rfl
  unfold aM.zeroAt;rw[aR he]
  by_cases hb:s.bytes.getD (q*17+16) 0=0
  ·rw[aR hb]
   refine aP ⟨s,rfl,kN.refl h q,ho,?_⟩;rw[zo _ _ (by decide)];rw[fQ,bH (by rw[h.len];omega)]at hb;rw[bH (by rw[h.len];omega)];exact mY _ hb
  rw[aK hb]
  rcases Hq h ho q (q*17+16) [0] hq (by omega) (by simp)with⟨m,hm,e⟩|e
  ·have:m=0:=by simpa using hm
   subst this;exact a_ e
  refine aP ⟨_,e,kN.cQ h q _ _ hq (by omega) (by simp),by rw[aM.GM];exact ho,?_⟩;rw[Ef h q _ 16 [0] hq (by omega) (by simp) (by decide),aR (by simp)];simp
 rcases hz with e|⟨a,e,oa,ao,al⟩
 ·rw[e];right
  refine⟨rfl,(kN.cQ h q _ [] hq (by omega) (by simp)).off _,a_ rfl⟩
 rw[e];rw[aR rfl];have X0:=sj r
 rcases Hq oa.big ao q _ (jV r) hq (aQ _) (by omega)with⟨m,hm,e2⟩|e2
 ·rw[e2];right
  have hl:((jV r).take m).length=m:=by rw[gy];omega
  refine⟨rfl,(oa.trans (kN.cQ oa.big q _ _ hq (aQ _) (by omega))).off _,aP ?_⟩;show (sl (a.cQ _ _) q)[16]?=_
  rw[Ef oa.big q _ 16 _ hq (aQ _) (by omega) (by decide),aK (by omega)];exact al
 rw[e2];have ob:=kN.cQ oa.big q _ (jV r) hq (aQ _) (by omega);have bo:(a.cQ (q*17) (jV r)).off=false:=by rw[aM.GM];exact ao
 have bl:∀k,k<17->(sl (a.cQ (q*17) (jV r)) q)[k]?=if k<16 then (jV r)[k]? else J 0:=by
  intro k hk;rw[Ef oa.big q _ k _ hq (aQ _) (by omega) hk]
  by_cases ju:k<16
  ·rw[aR (by omega),aR ju];congr 1
   omega
  have:k=16:=by omega
  subst this;rw[aK (by omega),aK (by omega)];exact al
 rw[aR rfl]
 rcases Hq ob.big bo q (q*17+16) [165] hq (by omega) (by simp)with⟨m,hm,e3⟩|e3
 ·have:m=0:=by simpa using hm
  subst this;rw[e3];right
  refine⟨rfl,((oa.trans ob).trans (kN.cQ ob.big q _ [] hq (by omega) (by simp))).off _,aP ?_⟩;show (sl (a.cQ (q*17) (jV r)) q)[16]?=_
  rw[bl 16 (by decide)];rfl
 rw[e3];left
 refine⟨rfl,(oa.trans ob).trans (kN.cQ ob.big q _ _ hq (by omega) (by simp)),by rw[aM.GM];exact bo,?_⟩;apply List.ext_getElem?
 intro k
 by_cases hk:k<17
 ·rw[Ef ob.big q _ k _ hq (by omega) (by simp) hk,bl k hk];unfold enc
  by_cases ju:k<16
  ·rw[aK (by simp;omega),aR ju,mX (by omega)]
  have:k=16:=by omega
  subst this;rw[aR (by simp),ko (by omega),X0];simp
 rw[iI (by rw[Hp (ob.big.cQ _ _) q hq];omega),iI (by rw[MI];omega)]
theorem X3(r:Rec):(enc r)[16]?=J 165:=by
 unfold enc;rw[ko (by rw[sj];omega),sj];rfl
theorem X4{l:List UInt8}(h:l[16]?=J 0):oI l=false:=by
 cases hd:oI l with
 |false=>rfl
 |true=>
  have e:=(GY hd).2.2.2;rw[<- e,X3]at h
  cases h
def sr(s:aM)(i:Nat):Rec:=tY (s.bytes.take 153) i
theorem X5{s:aM}{i:Nat}(hi:i<9):sr s i=if oI (sl s i)=true/\((ik (sl s i)).seq-1)%9=i then ik (sl s i)else .none:=by
 unfold sr tY;rw[XW i hi]
theorem Ns{s:aM}{i:Nat}(hi:i<9)(h:(sl s i)[16]?=J 0):sr s i=.none:=by
 rw[X5 hi,X4 h,aK (by simp)]
theorem X9(s:aM)(i:Nat)(hi:i<9):(gh (s.bytes.take 153) 9).getD i .none=sr s i:=by
 rw[fQ,bH (by rw[xu];exact hi)];simp[gh,hi,sr]
theorem X_{s:aM}{r:Rec}(h:r∈gh (s.bytes.take 153) 9):∃i,i<9/\r=sr s i:=by
 simp only[gh,lX,mr]at h;obtain⟨i,hi,rfl⟩:=h;exact⟨i,hi,by rw[aR hi];rfl⟩
theorem Ya(s:aM)(i:Nat)(hi:i<9):sr s i∈gh (s.bytes.take 153) 9:=by
 simp only[gh,lX,mr];exact⟨i,hi,by rw[aR hi];rfl⟩
theorem Yb(L:List Rec):∀m,m<=L.foldl (λm r=>max m r.seq) m:=by
 induction L with
 |nil=>intro m;exact aQ _
 |cons r t ih=>intro m;exact bw (Nat.le_max_left _ _) (ih _)
theorem Yc(L:List Rec)(n:Nat):∀m,m<=n->(∀r∈L,r.seq<=n)->L.foldl (λm r=>max m r.seq) m<=n:=by
 induction L with
 |nil=>intro m h _;exact h
 |cons r t ih=>intro m h h2;exact ih _ (Nat.max_le.2 ⟨h,h2 r (by simp)⟩) (λx hx=>h2 x (by simp[hx]))
theorem Yd(L:List Rec):∀m r,r∈L->r.seq<=L.foldl (λm r=>max m r.seq) m:=by
 induction L with
 |nil=>intro m r h;cases h
 |cons x t ih=>
  intro m r h
  rcases fg.1 h with rfl|h
  ·exact bw (Nat.le_max_right m _) (Yb t _)
  exact ih _ r h
theorem Ye{L:List Rec}{n:Nat}(h1:∀r∈L,r.seq<=n)(h2:n=0\/∃r∈L,r.seq=n):pI L=n:=by
 have a:=Yc L n 0 (bI _) h1;have b:n<=pI L:=by
  rcases h2 with rfl|⟨r,hr,rfl⟩
  ·exact bI _
  exact Yd L 0 r hr
 exact Nat.le_antisymm a b
structure Inv(s:aM)(done:List Rec):Prop where
 big:kM s
 seq:∀i (h:i<done.length),done[i].seq=i+1
 i1:∀j (h:j<done.length),done.length<=j+8->sr s (j%9)=done[j]
 i2:sr s (done.length%9)=.none\/(9<=done.length/\sr s (done.length%9)=done.getD (done.length-9) .none)
 i3:∀i,done.length<i->i<9->sr s i=.none
theorem Inv.le{s:aM}{done:List Rec}(h:Inv s done)(i:Nat)(hi:i<9):(sr s i).seq<=done.length:=by
 by_cases h0:done.length<i
 ·rw[h.i3 i h0 hi];exact bI _
 by_cases e:i=done.length%9
 ·rw[e]
  rcases h.i2 with e2|⟨h9,e2⟩
  ·rw[e2];exact bI _
  rw[e2,fQ,bH (by omega)];show (done[done.length-9]).seq<=_
  rw[h.seq];omega
 obtain⟨j,hj,nt,Yf⟩:∃j,j<done.length/\done.length<=j+8/\j%9=i:=by
  refine⟨done.length-1-(done.length+8-i)%9,?_,?_,?_⟩<;>omega
 have:=h.i1 j hj nt;rw[Yf]at this;rw[this,h.seq];omega
theorem Inv.chain{s:aM}{done:List Rec}(h:Inv s done):∀(m n:Nat),n<=done.length->done.length+m<=n+8->chain (gh (s.bytes.take 153) 9) m n=((done.take n).drop (n-m)).reverse:=by
 intro m
 induction m with
 |zero=>
  intro n hn hm;rw[Nat.sub_zero,rY (by rw[gy];omega)];rfl
 |succ m ih=>
  intro n hn hm
  cases n with
  |zero=>rw[BA _ _ _ (λh=>absurd h.1 (by omega))];simp
  |succ n=>
   have hlt:n<done.length:=by omega
   have hg:(gh (s.bytes.take 153) 9).getD (n%9) .none=done[n]:=by
    rw[X9 s _ (Nat.mod_lt _ (by decide)),h.i1 n hlt (by omega)]
   have hst:=D_ _ m (n+1) (by omega) (by rw[Bp,hg,h.seq n hlt]);rw[Bp,hg]at hst;rw[hst,ih n (by omega) (by omega),List.take_succ_eq_append_getElem hlt,List.drop_append,List.reverse_append];have e1:n+1-(m+1)=n-m:=by omega
   have e2:n-m-(done.take n).length=0:=by rw[gy];omega
   rw[e1,e2,List.drop_zero];rfl
theorem Inv.opens{s:aM}{done:List Rec}(h:Inv s done):kK s.bytes=done.drop (done.length-8):=by
 have hm:pI (gh (s.bytes.take 153) 9)=done.length:=by
  apply Ye
  ·intro r hr;obtain⟨i,hi,rfl⟩:=X_ hr;exact h.le i hi
  cases hd:done.length with
  |zero=>exact a_ rfl
  |succ n=>
   right
   refine⟨_,Ya s (n%9) (Nat.mod_lt _ (by decide)),?_⟩;rw[h.i1 n (by omega) (by omega),h.seq n (by omega)]
 unfold kK vK;rw[hm,h.chain 8 _ (aQ _) (by omega),List.reverse_reverse,l4]
theorem Nt(n i:Nat)(hi:i<9):(sl (aM.new n) i)[16]?=J 0:=by
 rw[zo _ _ (by decide)];show (zeros 4096)[_]?=_
 unfold zeros;rw[List.getElem?_replicate,aR (by omega)]
theorem Inv.new(n:Nat)(h1:153<=n)(h2:n<=4096):Inv (aM.new n) []:=
 ⟨⟨GL _,h1,h2⟩,λi h=>by simp at h,λj h=>by simp at h,a_ (Ns (by decide) (Nt n _ (by decide))),λi _ hi=>Ns hi (Nt n i hi)⟩
theorem Yg{L:List Rec}(x:Rec)(h:L.length<=8):(qW L x).length<=8:=by
 unfold qW
 split
 ·rw[dm,List.length_tail,qb];omega
 rw[dm,qb];omega
theorem Yh(L:List Rec)(x:Rec):fT (qW L x)=x:=by
 unfold qW fT;simp
theorem Yi{s:aM}(h:kM s)(ho:s.off=false)(r:Rec):kM (s.eU r).1/\((s.eU r).2=0->(s.eU r).1.off=false):=by
 rcases Hr h ho r with⟨-,e,e2,-⟩|⟨e8,e,-⟩
 ·exact⟨e.big,λ_=>e2⟩
 exact⟨e.big,λe0=>by rw[e8]at e0;cases e0⟩
theorem Yj{s:aM}(h:kM s)(ho:s.off=false)(r:Rec):(s.eU r).2<=11:=by
 rcases Hr h ho r with⟨e,-⟩|⟨e,-⟩<;>omega
theorem Yk(L:List Rec)(h:∀r∈L,r.seq<4294967296):∀m n,∀r∈chain L m n,r.seq<4294967296:=by
 intro m
 induction m with
 |zero=>intro n r hr;cases hr
 |succ m ih=>
  intro n r hr
  by_cases hc:0<n/\(L.getD ((n-1)%9) .none).seq=n
  ·rw[D_ L m n hc.1 hc.2]at hr
   rcases fg.1 hr with rfl|hr
   ·rw[fQ]
    cases hg:L[(n-1)%9]? with
    |none=>exact(by decide:(0:Nat)<4294967296)
    |some x=>exact h x (cM hg)
   exact ih _ r hr
  rw[BA L _ n hc]at hr;cases hr
theorem Yl(l:List UInt8):(fT (kK l)).seq<=4294967295:=by
 unfold fT kK vK
 cases hg:(chain (gh (l.take 153) 9) 8 (pI (gh (l.take 153) 9))).reverse.getLast? with
 |none=>exact(by decide:(0:Nat)<=4294967295)
 |some x=>
  have hm:=List.mem_of_getLast? hg;rw[List.mem_reverse]at hm;have:=Yk _ (MX _) _ _ x hm;show x.seq<=_
  omega
theorem Ym(l:List UInt8):(kK l).length<=8:=by unfold kK vK;rw[List.length_reverse];exact Xi _ 8 _
theorem Nu(l:List UInt8)(n:Nat)(h:153<=n):kK (l.take n)=kK l:=by unfold kK;rw[List.take_take,Nat.min_eq_left h]
theorem Hs{s:aM}{p:Nat}{l:List UInt8}(h:(s.gU p l).2=8):(s.gU p l).1.off=true:=by
 unfold aM.gU at h⊢
 split at h
 ·rename_i h0;rw[aR h0];unfold aM.write at h⊢
  split at h
  ·rename_i h1;rw[aR h1]
  cases h
 rename_i h0;rw[aK h0];have h':s.err p _=8:=h;unfold aM.err at h'
 split at h'
 ·cases h'
 split at h'
 ·assumption
 cases h'
theorem Yn{s:aM}{p:Nat}(h:(s.zeroAt p).2=8):(s.zeroAt p).1.off=true:=by
 unfold aM.zeroAt at h⊢
 split at h
 ·rename_i h0;rw[aR h0]
  split at h
  ·cases h
  rename_i h1;rw[aK h1];exact Hs h
 rename_i h0;rw[aK h0];have h':s.err p 1=8:=h;unfold aM.err at h'
 split at h'
 ·cases h'
 split at h'
 ·assumption
 cases h'
theorem Yo{s:aM}{r:Rec}(h:(s.eU r).2=8):(s.eU r).1.off=true:=by
 unfold aM.eU at h⊢;simp only[]at h⊢
 split at h
 ·rename_i h0;rw[aR h0]
  split at h
  ·rename_i h1;rw[aR h1];exact Hs h
  rename_i h1;rw[aK h1];exact Hs h
 rename_i h0;rw[aK h0];exact Yn h
theorem Yp{s:aM}(h:kM s)(ho:s.off=false)(r:Rec):(s.eU r).2=0\/(s.eU r).2=8:=by
 rcases Hr h ho r with⟨e,-⟩|⟨e,-⟩
 ·exact a_ e
 exact aP e
theorem Ht(s:aM)(p:Nat)(l:List UInt8):(s.gU p l).1.written<=s.written+l.length:=by
 unfold aM.gU
 split
 ·unfold aM.write
  split
  ·show (s.cQ p _).written<=_
   rw[aM.Bl,gy];omega
  show (s.cQ p l).written<=_
  rw[aM.Bl];omega
 show s.written<=_;omega
theorem Yq(s:aM)(p:Nat):(s.zeroAt p).1.written<=s.written+1:=by
 unfold aM.zeroAt
 split
 ·split
  ·show s.written<=_;omega
  exact Ht s p [0]
 show s.written<=_;omega
theorem Nv(s:aM)(r:Rec):(s.eU r).1.written<=s.written+18:=by
 have h1:=Yq s ((r.seq-1)%9*17+16);have h2:=Ht (s.zeroAt ((r.seq-1)%9*17+16)).1 ((r.seq-1)%9*17) (jV r);have h3:=Ht ((s.zeroAt ((r.seq-1)%9*17+16)).1.gU ((r.seq-1)%9*17) (jV r)).1 ((r.seq-1)%9*17+16) [165];rw[sj]at h2;have h4:([165]:List UInt8).length=1:=rfl;rw[h4]at h3;unfold aM.eU;simp only[]
 split
 ·split
  ·omega
  omega
 omega
theorem Nw{s:aM}(r:Rec)(h:s.left<=9223372036854775807):(s.eU r).1.left<=9223372036854775807:=by
 have hz:∀(a:aM) (p:Nat) (l:List _),a.left<=9223372036854775807->(a.gU p l).1.left<=9223372036854775807:=λa p l ha=>by
  unfold aM.gU
  split
  ·unfold aM.write
   split
   ·show (a.cQ p _).left<=_
    rw[aM.Bn]
    split<;>omega
   rw[aM.Bn]
   split<;>omega
  exact ha
 have h1:(s.zeroAt ((r.seq-1)%9*17+16)).1.left<=9223372036854775807:=by
  unfold aM.zeroAt
  split
  ·split
   ·exact h
   exact hz s _ _ h
  exact h
 unfold aM.eU;simp only[]
 split
 ·split
  ·exact hz _ _ _ (hz _ _ _ h1)
  exact hz _ _ _ h1
 exact h1
open Go
def dz(ops:Array Oper)(j:Nat):Option Tmp:=(ops[j]?).bind (·.dst)
def fill(ops:Array Oper)(a0:Act)(vals:Nat->Option ar):Nat->Act
 |0=>a0
 |k+1=>match vals k with
  |none=>fill ops a0 vals k
  |some v=>(fill ops a0 vals k).put (dz ops k) v
def upd(vals:Nat->Option ar)(i:Nat)(v:ar):Nat->Option ar:=λj=>if j=i then J v else vals j
def BJ(ops:Array Oper):Prop:=∀i j d,i≠j->dz ops i=J d->dz ops j≠J d
theorem Hu(ops:Array Oper)(a0:Act)(vals:Nat->Option ar):∀k,(fill ops a0 vals k).tmps.size=a0.tmps.size:=by
 intro k
 induction k with
 |zero=>rfl
 |succ k ih=>
  unfold fill
  split
  ·exact ih
  cases dz ops k<;>simp[Act.put,ih]
theorem Hv(ops:Array Oper)(a0:Act)(vals:Nat->Option ar)(d:Tmp):∀k,(∀j,j<k->dz ops j≠J d)->(fill ops a0 vals k).eval (.tmp d)=a0.eval (.tmp d):=by
 intro k
 induction k with
 |zero=>intro _;rfl
 |succ k ih=>
  intro h;unfold fill
  split
  ·exact ih (λj hj=>h j (by omega))
  rw[Act.eval_put (λe he hx=>h k (by omega) (by rw[he];cases hx;rfl))];exact ih (λj hj=>h j (by omega))
theorem Hw(ops:Array Oper)(a0:Act)(vals:Nat->Option ar)(hd:BJ ops)(j:Nat)(d:Tmp)(v:ar)(hj:vals j=J v)(Nx:dz ops j=J d)(hlt:d<a0.tmps.size):∀k,j<k->(fill ops a0 vals k).eval (.tmp d)=v:=by
 intro k
 induction k with
 |zero=>intro h;omega
 |succ k ih=>
  intro h;unfold fill
  by_cases e:j=k
  ·subst e;rw[hj];have hs:=Hu ops a0 vals j;simp only[Nx,Act.put,Act.eval];simp[hs,hlt]
  have hk:=ih (by omega)
  split
  ·exact hk
  rw[Act.eval_put (λe2 he hx=>hd j k d e Nx (by rw[he];cases hx;rfl))];exact hk
theorem Yr(ops:Array Oper)(a0:Act)(vals:Nat->Option ar)(i:Nat)(v:ar):∀k,k<=i->fill ops a0 (upd vals i v) k=fill ops a0 vals k:=by
 intro k
 induction k with
 |zero=>intro _;rfl
 |succ k ih=>
  intro h;have e:upd vals i v k=vals k:=by simp[upd];omega
  unfold fill;rw[e,ih (by omega)]
theorem Hy(ops:Array Oper)(a0:Act)(vals:Nat->Option ar)(hd:BJ ops)(i:Nat)(v:ar)(hi:vals i=I):∀k,i<k->fill ops a0 (upd vals i v) k=(fill ops a0 vals k).put (dz ops i) v:=by
 intro k
 induction k with
 |zero=>intro h;omega
 |succ k ih=>
  intro h
  by_cases e:i=k
  ·subst e;have e1:upd vals i v i=J v:=by simp[upd]
   have e2:=Yr ops a0 vals i v i (aQ _);simp only[fill,e1,hi,e2]
  have e1:upd vals i v k=vals k:=by simp[upd,Ne.symm e]
  have hk:=ih (by omega);simp only[fill,e1,hk]
  cases hv:vals k with
  |none=>rfl
  |some u=>exact(Act.put_comm _ v u (λd Ys=>hd i k d e Ys))
def cnt(vals:Nat->Option ar):Nat->Nat
 |0=>0
 |k+1=>cnt vals k+(if (vals k).isNone then 1 else 0)
theorem Yt(vals:Nat->Option ar)(i:Nat)(v:ar):∀k,k<=i->cnt (upd vals i v) k=cnt vals k:=by
 intro k
 induction k with
 |zero=>intro _;rfl
 |succ k ih=>
  intro h;have e:upd vals i v k=vals k:=by simp[upd];omega
  simp only[cnt,e,ih (by omega)]
theorem Hz(vals:Nat->Option ar)(i:Nat)(v:ar)(hi:vals i=I):∀k,i<k->cnt (upd vals i v) k+1=cnt vals k:=by
 intro k
 induction k with
 |zero=>intro h;omega
 |succ k ih=>
  intro h
  by_cases e:i=k
  ·subst e;have e1:upd vals i v i=J v:=by simp[upd]
   simp only[cnt,e1,hi,Yt vals i v i (aQ _)];simp
  have e1:upd vals i v k=vals k:=by simp[upd,Ne.symm e]
  have:=ih (by omega);simp only[cnt,e1];omega
theorem H6(vals:Nat->Option ar):∀k,cnt vals k=0->∀j,j<k->(vals j).isSome=true:=by
 intro k
 induction k with
 |zero=>intro _ j h;omega
 |succ k ih=>
  intro h j hj;simp only[cnt]at h
  by_cases e:j=k
  ·subst e
   cases hv:vals j with
   |none=>simp[hv]at h
   |some v=>rfl
  exact ih (by omega) j (by omega)
def goodRun(P:Program)(S:Nat->ar->ai->Prop)(C:ai->Prop)(i:Nat)(w:ai):Result Next->Prop
 |.ok (.value u) w'=>C w'/\(∀j v,S j v w->S j v w')/\S i u w'
 |.ok .skip w'=>C w'/\(∀j v,S j v w->S j v w')/\S i undef w'
 |.ok (.enter f args) w'=>Calls P f args w' λe w''=>∃v,e=ax v/\C w''/\(∀j v,S j v w->S j v w'')/\S i v w''
 |_=>False
section
variable {P:Program}{ops:Array Oper}{Q:Exit->Act->ai->Prop}{md:Region.Mode}{S:Nat->ar->ai->Prop}{C:ai->Prop}{a0:Act}
def cX(P:Program)(md:Region.Mode)(ops:Array Oper)(S:Nat->ar->ai->Prop)(C:ai->Prop)(a0:Act)(i:Nat)(o:Oper):Prop:=
 ∀(a:Act) (w:ai),C w->a.tmps.size=a0.tmps.size->(∀e d,e∈o.after->Region.binds md e=true->dz ops e.on=J d->S e.on (a.eval (.tmp d)) w) ->
  (∀d,(∀j,dz ops j≠J d)->a.eval (.tmp d)=a0.eval (.tmp d)) ->
  if Region.wanted o (yielded ops a.tmps)=true then goodRun P S C i w ((execOp a.eval o).run P w)else S i undef w
theorem Yu(hd:BJ ops)(BK:∀j d,dz ops j=J d->d<a0.tmps.size)
  (hback:∀i o,ops[i]?=J o->∀e,e∈o.after->Region.binds md e=true->e.on<i)
  (step:∀i o,ops[i]?=J o->cX P md ops S C a0 i o)
  (fin:∀(vals:Nat->ar) (w:ai),C w->(∀j,j<ops.size->S j (vals j) w)->Q .normal (fill ops a0 (λj=>J (vals j)) ops.size) w):∀(fuel:Nat) (listed:Array Bool) (vals:Nat->Option ar) (w:ai),listed.size=ops.size->(∀j,j<ops.size->listed.getD j true=(vals j).isSome)->C w ->
   (∀j v,vals j=J v->S j v w)->cnt vals ops.size<=fuel->wpAny P md ops Q fuel listed (fill ops a0 vals ops.size) w:=by
 have BL:∀(vals:Nat->Option _) (w:ai),C w->(∀j v,vals j=J v->S j v w)->(∀j,j<ops.size->(vals j).isSome=true)->Q .normal (fill ops a0 vals ops.size) w:=by
  intro vals w hC hS hall;have e:fill ops a0 vals ops.size=fill ops a0 (λj=>J ((vals j).getD undef)) ops.size:=by
   have:∀k,k<=ops.size->fill ops a0 vals k=fill ops a0 (λj=>J ((vals j).getD undef)) k:=by
    intro k
    induction k with
    |zero=>intro _;rfl
    |succ k ih=>
     intro hk;have hs:=hall k (by omega)
     cases hv:vals k with
     |none=>rw[hv]at hs;cases hs
     |some v=>simp only[fill,hv,sx,ih (by omega)]
   exact this _ (aQ _)
  rw[e]
  refine fin _ w hC (λj hj=>?_);have hs:=hall j hj
  cases hv:vals j with
  |none=>rw[hv]at hs;cases hs
  |some v=>exact hS j v hv
 have BM:∀(listed:Array _) (vals:Nat->Option ar),listed.size=ops.size->(∀j,j<ops.size->listed.getD j true=(vals j).isSome)->Region.ready md ops listed=[]->∀j,j<ops.size->(vals j).isSome=true:=by
  intro listed vals hsz hl hr j
  induction j using Nat.strongRecOn with
  |ind j ih=>
   intro hj
   cases hv:(vals j).isSome with
   |true=>rfl
   |false=>
    exfalso
    have hm:j∈Region.ready md ops listed:=by
     rw[mem_ready]
     refine⟨by rw[hl j hj,hv],_,oM hj,λe he hb=>?_⟩;have hlt:=hback j _ (oM hj) e he hb;have h1:=ih _ hlt (by omega);have h2:=hl e.on (by omega);rw[h1]at h2;have h3:e.on<listed.size:=by omega
     simp only[ua,oM h3,sx]at h2⊢;exact h2
    rw[hr]at hm
    cases hm
 intro fuel
 induction fuel with
 |zero=>
  intro listed vals w hsz hl hC hS hc;have hall:=H6 vals ops.size (by omega)
  refine⟨?_,BL _ w hC hS hall⟩
  cases hr:Region.ready md ops listed with
  |nil=>rfl
  |cons i r=>
   have hm:i∈Region.ready md ops listed:=by rw[hr];exact qc ..
   rw[mem_ready]at hm;obtain⟨h0,o,ho,-⟩:=hm;have hi:=(sw.1 ho).1;rw[hl i hi,hall i hi]at h0
   cases h0
 |succ fuel ih=>
  intro listed vals w hsz hl hC hS hc
  refine⟨λhr=>BL _ w hC hS (BM _ _ hsz hl hr),λi hm=>?_⟩;rw[mem_ready]at hm;obtain⟨h0,o,ho,zq⟩:=hm;have hi:=(sw.1 ho).1;have hnone:vals i=I:=by
   rw[hl i hi]at h0
   cases hv:vals i with
   |none=>rfl
   |some v=>rw[hv]at h0;cases h0
  have cO:dz ops i=o.dst:=by simp[dz,ho]
  have hst:=step i o ho _ w hC (Hu _ _ _ _) (λe d he hb qp=>by
    have h1:=zq e he hb;have hlt:=hback i o ho e he hb;have h2:=hl e.on (by omega);have h3:e.on<listed.size:=by omega
    have h4:(vals e.on).isSome=true:=by
     rw[<- h2];simp only[ua,oM h3,sx]at h1⊢;exact h1
    cases hv:vals e.on with
    |none=>rw[hv]at h4;cases h4
    |some v=>
     rw[Hw ops a0 _ hd _ d v hv qp (BK _ _ qp) _ (by omega)];exact hS _ _ hv)
   (λd oB=>Hv ops a0 vals d ops.size (λj _=>oB j))
  have oN:∀(v:ar) (w':ai),C w'->(∀j v,S j v w->S j v w')->S i v w'->wpAny P md ops Q fuel (listed.setIfInBounds i true) ((fill ops a0 vals ops.size).put o.dst v) w':=by
   intro v w' BN hK H7;rw[<- cO,<- Hy ops a0 _ hd i v hnone _ hi]
   refine ih _ _ w' (by simp[hsz]) (λj hj=>?_) BN (λj u hu=>?_) (by have:=Hz _ i v hnone _ hi;omega)
   ·by_cases e:j=i
    ·subst e;simp[upd]
    rw[getD_set_ne _ (Ne.symm e),hl j hj];simp[upd,e]
   by_cases e:j=i
   ·subst e;simp[upd]at hu
    subst hu;exact H7
   simp[upd,e]at hu
   exact hK _ _ (hS _ _ hu)
  unfold wpOp;simp only[ho]
  split
  ·rename_i hw;rw[aR hw]at hst
   refine .inl ?_;unfold Oper.wp;generalize (execOp (fill ops a0 vals ops.size).eval o).run P w=r at hst
   cases r with
   |ok n w'=>
    cases n<;>simp only[goodRun]at hst<;>simp only[Oper.upon]
    case value u=>exact oN _ _ hst.1 hst.2.1 hst.2.2
    case skip=>exact oN _ _ hst.1 hst.2.1 hst.2.2
    case enter f args=>exact hst.mono λe w'' ⟨v,he,h1,h2,h3⟩=>by subst he;exact oN _ _ h1 h2 h3
   |halt x w'=>simp only[goodRun]at hst
  rename_i hw;rw[aK hw]at hst;exact oN _ _ hC (λ_ _ h=>h) hst
def zr(ops:Array Oper)(n:Nat):Bool:=
 ((List.range ops.size).all λi=>(List.range ops.size).all λj=>i==j||(match dz ops i,dz ops j with|some d,J e=>d != e|_,_=>true)) &&
 ((List.range ops.size).all λi=>match dz ops i with|some d=>decide (d<n)|none=>true) &&
 ((List.range ops.size).all λi=>match ops[i]? with|some o=>o.after.toList.all λe=>!Region.binds .any e||decide (e.on<i)|none=>true)
theorem sA{ops:Array Oper}{j:Nat}{d:Tmp}(h:dz ops j=J d):j<ops.size:=by
 rcases fR j ops.size with h'|h'
 ·exact h'
 simp[dz,vy h']at h
theorem vP{id:Nat}{w:ai}(n:Nat)(hn:ops.size=n)(S:Nat->ar->ai->Prop)(C:ai->Prop)(hm:P.follows .mixedOrders=true)(hB:zr ops a0.tmps.size=true)(hC:C w.drew)
  (step:∀i o,ops[i]?=J o->cX P .any ops S C a0 i o)
  (fin:∀(vals:Nat->ar) (w:ai),C w->(∀j,j<n->S j (vals j) w)->Q .normal (fill ops a0 (λj=>J (vals j)) n) w):(Code.region id ops true).wp P Q a0 w:=by
 subst hn;unfold zr at hB;simp only[rS,py,mr]at hB;obtain⟨⟨h1,h2⟩,h3⟩:=hB
 refine wp_region_any hm ?_;have hnone:fill ops a0 (λ_=>I) ops.size=a0:=by
  have:∀k,fill ops a0 (λ_=>I) k=a0:=by
   intro k
   induction k with
   |zero=>rfl
   |succ k ih=>simp only[fill,ih]
  exact this _
 have key:=Yu (P:=P) (ops:=ops) (Q:=Q) (md:=.any) (S:=S) (C:=C) (a0:=a0)
  (λi j d hne hi hj=>by
   have h:=h1 i (sA hi) j (sA hj);simp[hne,hi,hj]at h)
  (λj d hj=>by
   have h:=h2 j (sA hj);rw[hj]at h;simpa using h)
  (λi o ho e he hb=>by
   have h:=h3 i (sw.1 ho).1;rw[ho]at h;have:=py.1 h e (by simpa using he);simpa[hb]using this)
  step fin ops.size (Array.replicate ops.size false) (λ_=>I) _ (by simp) (λj hj=>by simp[hj]) hC (λj v h=>by cases h) (by
   have:∀k,cnt (λ_=>I) k<=k:=by
    intro k
    induction k with
    |zero=>exact aQ _
    |succ k ih=>simp only[cnt];split<;>omega
   exact this _)
 rw[hnone]at key;exact key
theorem eX{ops:Array Oper}{d:Tmp}(h:((List.range ops.size).all λj=>!(dz ops j==J d))=true):∀j,dz ops j≠J d:=λj e=>by
 have:=py.1 h j (mr.2 (sA e));simp[e]at this
theorem bp{a:Act}{d:Tmp}{c:ar}(h:a.eval (.tmp d)=c):a.tmps[d]?.getD undef=c:=by
 rw[<- ua];exact h
theorem cX.free{i:Nat}{o:Oper}(hg:o.guard=I)
  (hrun:∀(a:Act) (w:ai),C w->(∀e d,e∈o.after->Region.binds md e=true->dz ops e.on=J d->S e.on (a.eval (.tmp d)) w)->(∀d,(∀j,dz ops j≠J d)->a.eval (.tmp d)=a0.eval (.tmp d))->goodRun P S C i w ((execOp a.eval o).run P w)):cX P md ops S C a0 i o:=by
 intro a w hC _ ay aD;rw[aR (by unfold Region.wanted;rw[hg])];exact hrun a w hC ay aD
theorem cX.yes{i g:Nat}{o:Oper}{want:Bool}{d:Tmp}(hg:o.guard=J (g,want))(BO:dz ops g=J d)
  (BP:∀(a:Act) (w:ai),C w->(∀e d,e∈o.after->Region.binds md e=true->dz ops e.on=J d->S e.on (a.eval (.tmp d)) w)->a.eval (.tmp d)=aI want)
  (hrun:∀(a:Act) (w:ai),C w->(∀e d,e∈o.after->Region.binds md e=true->dz ops e.on=J d->S e.on (a.eval (.tmp d)) w)->(∀d,(∀j,dz ops j≠J d)->a.eval (.tmp d)=a0.eval (.tmp d))->goodRun P S C i w ((execOp a.eval o).run P w)):cX P md ops S C a0 i o:=by
 intro a w hC _ ay aD;have hv:=BP a w hC ay;have hw:Region.wanted o (yielded ops a.tmps)=true:=by
  unfold Region.wanted;rw[hg];have:yielded ops a.tmps g=J want:=by
   unfold yielded;rw[show (ops[g]?).bind _=J d from BO];simp only[Act.eval,ua]at hv
   cases ht:a.tmps[d]? with
   |none=>rw[ht]at hv;cases hv
   |some x=>rw[ht]at hv;simp only[sx]at hv;subst hv;simp[ht]
  simp[this]
 rw[aR hw];exact hrun a w hC ay aD
theorem goodRun.made{i:Nat}{w w':ai}{c:ar}{r:Result Next}(hr:r=.ok (.value c) w')(hC:C w')(hK:∀j v,S j v w->S j v w')(hS:S i c w'):goodRun P S C i w r:=by
 subst hr;exact⟨hC,hK,hS⟩
theorem goodRun.call{i:Nat}{w:ai}{f:FuncId}{args:Array ar}{r:Result Next}(hr:r=.ok (.enter f args) w)
  (hc:Calls P f args w λe w''=>∃v,e=ax v/\C w''/\(∀j v,S j v w->S j v w'')/\S i v w''):goodRun P S C i w r:=by
 subst hr;exact hc
theorem goodRun.val{i:Nat}{w:ai}{c:ar}{r:Result Next}(hr:r=.ok (.value c) w)(hC:C w)(hS:S i c w):goodRun P S C i w r:=by
 subst hr;exact⟨hC,λ_ _ h=>h,hS⟩
end
structure cS where
 closed:Nat
 opn:Nat
 now:Nat
 begun:Nat
 jX:Nat
 reset:Bool
def cS.row(d:cS):Array ar:=#[U R (d.closed:Int),U R (d.opn:Int),U R (d.now:Int),U R (d.begun:Int),U R (d.jX:Int),aI d.reset]
structure cP(w:ai)(b:Nat)(d:cS):Prop where
 heap:w.heap[b]?=J (au d.row 161 (0,0))
 hc:d.closed<=1000
 ho:d.opn<=1000
 hk:d.jX<=d.begun
 hb:d.begun<=d.now
 hn:d.now<=1099511627776
theorem cP.cell{w:ai}{b:Nat}{d:cS}(h:cP w b d)(i:Nat):w.cell? ⟨b,i,I⟩=d.row[i]?:=by simp[World.cell?,h.heap]
theorem cP.frozen{w:ai}{b:Nat}{d:cS}(h:cP w b d)(i:Nat):w.frozen? ⟨b,i,I⟩=false:=by simp[World.frozen?,h.heap]
theorem cP.c0{w:ai}{b:Nat}{d:cS}(h:cP w b d):w.cell? ⟨b,0,I⟩=J (U R (d.closed:Int)):=h.cell 0
theorem cP.c1{w:ai}{b:Nat}{d:cS}(h:cP w b d):w.cell? ⟨b,1,I⟩=J (U R (d.opn:Int)):=h.cell 1
theorem cP.c2{w:ai}{b:Nat}{d:cS}(h:cP w b d):w.cell? ⟨b,2,I⟩=J (U R (d.now:Int)):=h.cell 2
theorem cP.c3{w:ai}{b:Nat}{d:cS}(h:cP w b d):w.cell? ⟨b,3,I⟩=J (U R (d.begun:Int)):=h.cell 3
theorem cP.c4{w:ai}{b:Nat}{d:cS}(h:cP w b d):w.cell? ⟨b,4,I⟩=J (U R (d.jX:Int)):=h.cell 4
theorem cP.c5{w:ai}{b:Nat}{d:cS}(h:cP w b d):w.cell? ⟨b,5,I⟩=J (aI d.reset):=h.cell 5
theorem cP.lt{w:ai}{b:Nat}{d:cS}(h:cP w b d):b<w.heap.size:=bJ h.heap
theorem cP.set{w:ai}{b:Nat}{d d':cS}(h:cP w b d)(i:Nat)(v:ar)(hr:d.row.setIfInBounds i v=d'.row)(hc:d'.closed<=1000)(ho:d'.opn<=1000)(hk:d'.jX<=d'.begun)(hb:d'.begun<=d'.now)(hn:d'.now<=1099511627776):cP (w.setCell ⟨b,i,I⟩ v) b d':=by
 refine⟨?_,hc,ho,hk,hb,hn⟩;simp only[World.setCell,dr,h.heap];simp[hr]
theorem cP.below{w w':ai}{b:Nat}{d:cS}(h:cP w b d)(hb:Below w.heap.size w w'):cP w' b d:=⟨bG hb h.heap,h.hc,h.ho,h.hk,h.hb,h.hn⟩
theorem cP.drewN{w:ai}{b:Nat}{d:cS}(h:cP w b d)(q:Nat):cP (w.drewN q) b d:=⟨h.heap,h.hc,h.ho,h.hk,h.hb,h.hn⟩
theorem cP.drew{w:ai}{b:Nat}{d:cS}(h:cP w b d):cP w.drew b d:=⟨h.heap,h.hc,h.ho,h.hk,h.hb,h.hn⟩
theorem H9{a w:ai}{r:Option Nat}(h:a.grownBy w r)(q:Nat):a.grownBy (w.drewN q) r:=⟨h.os,h.tape,h.output,h.size,h.block⟩
def cS.new(c o:Nat):cS:=⟨c,o,0,0,0,false⟩
def cS.nu(d:cS):Bool:=!d.reset&&decide (d.closed<d.now-d.begun)
def cS.tick(d:cS):cS:={ d with now:=d.now+1,reset:=decide (d.closed+d.opn<d.now+1-d.begun) }
def cS.vQ(d:cS):cS:={ d with begun:=d.now,jX:=d.jX+1 }
def cS.start(d:cS):cS:={ d with begun:=d.now,reset:=false }
theorem Yv(c o:Nat)(w:ai)(h1:c<=1000)(h2:1<=o)(h3:o<=1000):Calls prog 64 #[U R (c:Int),U R (o:Int)] w λe w'=>e=ax (bn #[aj (J ⟨w.heap.size,0,I⟩),.nilIface])/\Below w.heap.size w w'/\cP w' w.heap.size (cS.new c o):=by
 have g1:¬(c:Int)<0:=by omega
 have g2:¬1000<(c:Int):=by omega
 have g3:¬(o:Int)<1:=by omega
 have g4:¬1000<(o:Int):=by omega
 go_enter func64,ntmps64
 go_wp2;go_ret2
 refine⟨rfl,?_,⟨?_,h1,h3,aQ _,aQ _,bI _⟩⟩
 ·exact(aC _ _).alloc (aQ _) _
 show (w.heap.push _)[w.heap.size]?=_
 simp
 rfl
theorem Ny(b:Nat)(d:cS)(w:ai)(h:cP w b d):Calls prog 81 #[aj (J ⟨b,0,I⟩)] w λe w'=>e=ax (aI d.reset)/\w'=w:=by
 have c5:=h.c5;go_enter func81,ntmps81
 go_wp2;go_ret;exact⟨rfl,rfl⟩
theorem Nz(b:Nat)(d:cS)(w:ai)(h:cP w b d):Calls prog 75 #[aj (J ⟨b,0,I⟩)] w λe w'=>e=ax (U R (d.now:Int))/\w'=w:=by
 have c2:=h.c2;go_enter func75,ntmps75
 go_wp2;go_ret;exact⟨rfl,rfl⟩
theorem Yw(b:Nat)(d:cS)(w:ai)(h:cP w b d):Calls prog 76 #[aj (J ⟨b,0,I⟩)] w λe w'=>e=ax (U R (d.jX:Int))/\w'=w:=by
 have c4:=h.c4;go_enter func76,ntmps76
 go_wp2;go_ret;exact⟨rfl,rfl⟩
theorem NA(b:Nat)(d:cS)(w:ai)(h:cP w b d):Calls prog 218 #[aj (J ⟨b,0,I⟩)] w λe w'=>e=ax (U R ((d.now-d.begun:Nat):Int))/\∃q,w'=w.drewN q:=by
 have c2:=h.c2;have c3:=h.c3;have hb:=h.hb;have hn:=h.hn;have wr:IntKind.i64.wrap ((d.now:Int)-(d.begun:Int))=((d.now-d.begun:Nat):Int):=by rw[zm];omega
 go_enter func218,ntmps218
 go_wp2_with fail
 go_quiet (fail)
 go_wp2;go_ret;exact⟨rfl,_,rfl⟩
theorem NB(b:Nat)(d:cS)(w:ai)(h:cP w b d):Calls prog 222 #[aj (J ⟨b,0,I⟩)] w λe w'=>e=ax (aI d.nu)/\∃q,w'=w.drewN q:=by
 have c0:=h.c0;have c5:=h.c5
 cases hr:d.reset
 ·rw[hr]at c5;have E:aa (d.nu=decide (d.closed<d.now-d.begun)):=by
   show _=_
   unfold cS.nu;rw[hr];simp only[Bool.not_false,Bool.true_and]
  go_enter func222,ntmps222
  go_wp2_with fail
  go_quiet (first|(go_at_call 218;exact Calls.quiet_of (NA _ _ _ (h.drewN _))))
  go_wp2;go_ret;rw[E.o];exact⟨rfl,_,rfl⟩
 rw[hr]at c5;have E:aa (d.nu=false):=by
  show _=_
  unfold cS.nu;rw[hr];rfl
 go_enter func222,ntmps222
 go_wp2_with fail
 go_quiet (fail)
 go_wp2;go_ret;rw[E.o];exact⟨rfl,_,rfl⟩
theorem goodRun.BQ{P:Program}{S:Nat->ar->ai->Prop}{C:ai->Prop}{i:Nat}{w w':ai}{r:Result Next}(hr:r=.ok .skip w')(hC:C w')(hK:∀j v,S j v w->S j v w')(hS:S i undef w'):goodRun P S C i w r:=by
 subst hr;exact⟨hC,hK,hS⟩
def cS.NC(d:cS)(r:Bool):cS:=⟨d.closed,d.opn,d.now+1,d.begun,d.jX,r⟩
def H_(b:Nat)(d:cS):Nat->ar->ai->Prop
 |0=>λv _=>v=aj (J ⟨b,0,I⟩)
 |1=>λv _=>v=aj (J ⟨b,0,I⟩)
 |2=>λv _=>v=U R ((d.now+1-d.begun:Nat):Int)
 |3=>λv _=>v=aj (J ⟨b,0,I⟩)
 |4=>λv _=>v=aj (J ⟨b,0,I⟩)
 |5=>λv _=>v=aj (J ⟨b,0,I⟩)
 |6=>λv _=>v=U R (d.closed:Int)
 |7=>λv _=>v=aj (J ⟨b,0,I⟩)
 |8=>λv _=>v=aj (J ⟨b,0,I⟩)
 |9=>λv _=>v=aj (J ⟨b,1,I⟩)
 |10=>λv _=>v=U R (d.opn:Int)
 |11=>λv _=>v=U R ((d.closed+d.opn:Nat):Int)
 |12=>λv _=>v=aI (decide (d.closed+d.opn<d.now+1-d.begun))
 |13=>λv _=>v=aj (J ⟨b,0,I⟩)
 |14=>λv _=>v=aj (J ⟨b,5,I⟩)
 |15=>λ_ w=>cP w b d.tick
 |_=>λ_ _=>True
theorem ND{b:Nat}{d:cS}{w w':ai}(hb:cP w b d.tick->cP w' b d.tick):∀j v,H_ b d j v w->H_ b d j v w':=by
 intro j v h
 match j,h with
 |0,h=>exact h
 |1,h=>exact h
 |2,h=>exact h
 |3,h=>exact h
 |4,h=>exact h
 |5,h=>exact h
 |6,h=>exact h
 |7,h=>exact h
 |8,h=>exact h
 |9,h=>exact h
 |10,h=>exact h
 |11,h=>exact h
 |12,h=>exact h
 |13,h=>exact h
 |14,h=>exact h
 |15,h=>exact hb h
 |n+16,h=>exact h
theorem Yx(b:Nat)(d:cS)(w:ai)(h:cP w b d)(hr:d.reset=false)(hlt:d.now<1099511627776):Calls prog 159 #[aj (J ⟨b,0,I⟩)] w λe w'=>e=ax .nilIface/\cP w' b d.tick/\w.grownBy w' (J b):=by
 have c5:=h.c5;have c2:=h.c2;have f2:=h.frozen 2;have hc:=h.hc;have ho:=h.ho;rw[hr]at c5;have g1:¬1099511627776<=(d.now:Int):=by omega
 have wr:IntKind.i64.wrap ((d.closed:Int)+(d.opn:Int))=((d.closed+d.opn:Nat):Int):=by rw[zm];omega
 have e1:((d.now+1:Nat):Int)=(d.now:Int)+1:=by omega
 have hT:cP (w.setCell ⟨b,2,I⟩ (U R ((d.now:Int)+1))) b (d.NC d.reset):=by
  rw[<- e1];exact h.set 2 _ rfl h.hc h.ho h.hk (Nat.le_succ_of_le h.hb) hlt
 have HT:aa _:=hT;clear hT h hlt e1;go_enter func159,ntmps159
 go_upto_region 6 with fail
 refine vP 16 rfl (H_ b d) (λw'=>w.grownBy w' _/\∃r,cP w' b (d.NC r)) (by kernel_rfl) (by kernel_rfl) ⟨H9 (gS (ky _ _) _ _) 1,_,HT.o.drew⟩ ?_ ?_
 ·intro i o ho
  match i,ho with
  |0,ho=>
   obtain rfl:=bj ho
   refine cX.free rfl ?_;intro a w hC ay aD;have x0:a.tmps[0]?.getD _=aj _:=bp (aD 0 (eX (by kernel_rfl)));exact goodRun.val (c:=aj _) (by clear ay aD;go_simp) hC rfl
  |1,ho=>
   obtain rfl:=bj ho
   refine cX.free rfl ?_;intro a w hC ay aD;have x0:a.tmps[0]?.getD _=aj _:=bp (aD 0 (eX (by kernel_rfl)));exact goodRun.val (c:=aj _) (by clear ay aD;go_simp) hC rfl
  |2,ho=>
   obtain rfl:=bj ho
   refine cX.free rfl ?_;intro a w hC ay aD;have NF:a.tmps[22]?.getD _=aj _:=bp (ay _ 22 (bA (i:=0) rfl) rfl rfl);obtain⟨r,hr⟩:=hC.2
   refine goodRun.call (f:=218) (args:=#[aj (J ⟨b,0,I⟩)]) (by clear ay aD;go_simp) ?_
   refine(NA _ _ _ hr).mono ?_;rintro e w' ⟨rfl,q,rfl⟩;exact⟨_,rfl,⟨H9 hC.1 _,r,hr.drewN _⟩,ND (λh=>h.drewN _),rfl⟩
  |3,ho=>
   obtain rfl:=bj ho
   refine cX.free rfl ?_;intro a w hC ay aD;have x0:a.tmps[0]?.getD _=aj _:=bp (aD 0 (eX (by kernel_rfl)));exact goodRun.val (c:=aj _) (by clear ay aD;go_simp) hC rfl
  |4,ho=>
   obtain rfl:=bj ho
   refine cX.free rfl ?_;intro a w hC ay aD;have Yy:a.tmps[24]?.getD _=aj _:=bp (ay _ 24 (bA (i:=0) rfl) rfl rfl);exact goodRun.val (c:=aj _) (by clear ay aD;go_simp) hC rfl
  |5,ho=>
   obtain rfl:=bj ho
   refine cX.free rfl ?_;intro a w hC ay aD;have NG:a.tmps[25]?.getD _=aj _:=bp (ay _ 25 (bA (i:=0) rfl) rfl rfl);exact goodRun.val (c:=aj _) (by clear ay aD;go_simp) hC rfl
  |6,ho=>
   obtain rfl:=bj ho
   refine cX.free rfl ?_;intro a w hC ay aD;have NH:a.tmps[26]?.getD _=aj _:=bp (ay _ 26 (bA (i:=0) rfl) rfl rfl);obtain⟨r,hr⟩:=hC.2;have c:w.cell? _=J (U R (d.closed:Int)):=hr.c0;exact goodRun.val (c:=U R _) (by clear ay aD;go_simp) hC rfl
  |7,ho=>
   obtain rfl:=bj ho
   refine cX.free rfl ?_;intro a w hC ay aD;have x0:a.tmps[0]?.getD _=aj _:=bp (aD 0 (eX (by kernel_rfl)));exact goodRun.val (c:=aj _) (by clear ay aD;go_simp) hC rfl
  |8,ho=>
   obtain rfl:=bj ho
   refine cX.free rfl ?_;intro a w hC ay aD;have Ia:a.tmps[28]?.getD _=aj _:=bp (ay _ 28 (bA (i:=0) rfl) rfl rfl);exact goodRun.val (c:=aj _) (by clear ay aD;go_simp) hC rfl
  |9,ho=>
   obtain rfl:=bj ho
   refine cX.free rfl ?_;intro a w hC ay aD;have NI:a.tmps[29]?.getD _=aj _:=bp (ay _ 29 (bA (i:=0) rfl) rfl rfl);exact goodRun.val (c:=aj _) (by clear ay aD;go_simp) hC rfl
  |10,ho=>
   obtain rfl:=bj ho
   refine cX.free rfl ?_;intro a w hC ay aD;have Yz:a.tmps[30]?.getD _=aj _:=bp (ay _ 30 (bA (i:=0) rfl) rfl rfl);obtain⟨r,hr⟩:=hC.2;have c:w.cell? _=J (U R (d.opn:Int)):=hr.c1;exact goodRun.val (c:=U R _) (by clear ay aD;go_simp) hC rfl
  |11,ho=>
   obtain rfl:=bj ho
   refine cX.free rfl ?_;intro a w hC ay aD;have NJ:a.tmps[27]?.getD _=U R _:=bp (ay _ 27 (bA (i:=0) rfl) rfl rfl);have aiV:a.tmps[31]?.getD _=U R _:=bp (ay _ 31 (bA (i:=1) rfl) rfl rfl);exact goodRun.val (c:=U R _) (by clear ay aD;go_simp) hC rfl
  |12,ho=>
   obtain rfl:=bj ho
   refine cX.free rfl ?_;intro a w hC ay aD;have NK:a.tmps[23]?.getD _=U R _:=bp (ay _ 23 (bA (i:=0) rfl) rfl rfl);have aiW:a.tmps[32]?.getD _=U R _:=bp (ay _ 32 (bA (i:=1) rfl) rfl rfl);exact goodRun.val (c:=aI _) (by clear ay aD;go_simp;omega) hC rfl
  |13,ho=>
   obtain rfl:=bj ho
   refine cX.free rfl ?_;intro a w hC ay aD;have NL:a.tmps[21]?.getD _=aj _:=bp (ay _ 21 (bA (i:=0) rfl) rfl rfl);exact goodRun.val (c:=aj _) (by clear ay aD;go_simp) hC rfl
  |14,ho=>
   obtain rfl:=bj ho
   refine cX.free rfl ?_;intro a w hC ay aD;have aiX:a.tmps[34]?.getD _=aj _:=bp (ay _ 34 (bA (i:=0) rfl) rfl rfl);exact goodRun.val (c:=aj _) (by clear ay aD;go_simp) hC rfl
  |15,ho=>
   obtain rfl:=bj ho
   refine cX.free rfl ?_;intro a w hC ay aD;have aiY:a.tmps[35]?.getD _=aj _:=bp (ay _ 35 (bA (i:=0) rfl) rfl rfl);have aiZ:a.tmps[33]?.getD _=aI _:=bp (ay _ 33 (bA (i:=1) rfl) rfl rfl);obtain⟨r,hr⟩:=hC.2;have c5:w.cell? _=J (aI r):=hr.c5;have f5:=hr.frozen 5;have hT:cP (w.setCell _ (aI (decide _))) b d.tick:=hr.set 5 _ rfl hr.hc hr.ho hr.hk hr.hb hr.hn;exact goodRun.BQ (w':=w.setCell _ _) (by clear ay aD hT;go_simp) ⟨gS hC.1 _ _,_,hT⟩ (ND (λ_=>hT)) hT
  |n+16,ho=>simp at ho
 intro vals w5 hC hS;have hT:cP w5 b _:=hS 15 (by decide);have hg:=hC.1;clear hS hC HT;simp only[fill,dz];go_simp
 go_wp2;go_ret;exact⟨rfl,hT,hg⟩
theorem YA(b:Nat)(d:cS)(w:ai)(h:cP w b d)(ho:d.nu=true):Calls prog 223 #[aj (J ⟨b,0,I⟩)] w λe w'=>e=ax .nilIface/\cP w' b d.vQ/\w.grownBy w' (J b):=by
 have hk:=h.hk;have hb:=h.hb;have hn:=h.hn;have hlt:d.jX<d.now:=by
  unfold cS.nu at ho;simp only[rS,xa]at ho;omega
 have HO:aa _:=ho;have h1:∀q,cP ((w.drewN q).setCell _ (U R (d.now:Int))) b { d with begun:=d.now }:=λq=>(h.drewN q).set 3 _ rfl h.hc h.ho (bw h.hk h.hb) (aQ _) h.hn
 have h2:∀q,cP (((w.drewN q).setCell ⟨b,3,I⟩ (U R (d.now:Int))).setCell ⟨b,4,I⟩ (U R ((d.jX:Int)+1))) b d.vQ:=λq=>by
  have e:((d.jX+1:Nat):Int)=(d.jX:Int)+1:=by omega
  rw[<- e];exact(h1 q).set 4 _ rfl h.hc h.ho (show d.jX+1<=d.now by omega) (aQ _) h.hn
 have c2:=h.c2;have c3:=h.c3;have c4:=h.c4;have f3:=h.frozen 3;have f4:=h.frozen 4;have H1:aa _:=h1;have H2:aa _:=h2;clear h1 h2 ho;go_enter func223,ntmps223
 go_wp2_with fail
 refine(NB _ _ _ h).mono ?_;rintro e w1 ⟨rfl,q,rfl⟩;rw[HO.o];clear h;go_wp2;go_ret;exact⟨rfl,H2.o q,gS (gS (H9 (ky _ _) _) _ _) _ _⟩
theorem YB(b:Nat)(d:cS)(w:ai)(h:cP w b d):Calls prog 73 #[aj (J ⟨b,0,I⟩)] w λe w'=>e=ax (bn #[])/\cP w' b d.start/\w.grownBy w' (J b):=by
 have c2:=h.c2;have c3:=h.c3;have c5:=h.c5;have f3:=h.frozen 3;have f5:=h.frozen 5;have hk:=bw h.hk h.hb;have R1:cP ((w.setCell _ (U R (d.now:Int))).setCell _ (aI false)) b d.start:=(h.set (d':={ d with begun:=d.now }) 3 _ rfl h.hc h.ho hk (aQ _) h.hn).set 5 _ rfl h.hc h.ho hk (aQ _) h.hn;have H1:aa _:=R1;clear R1 h hk;go_enter func73,ntmps73
 go_wp2;go_end0
 exact⟨rfl,H1.o,gS (gS (ky _ _) _ _) _ _⟩
section
structure fo where
 pt:Int
 mn:Int
 mx:Int
 n:Nat
def fo.row(a:fo):Array ar:=#[U R a.pt,U R a.mn,U R a.mx,U R (a.n:Int)]
def kO(cnt:Int)(len:Nat):Int:=if cnt<0\/(len:Int)<=cnt then -1 else cnt
def fo.rep(a:fo)(p:Int):fo:=if a.pt≠-1/\p=a.pt/\a.n<1000 then { a with n:=a.n+1 }else a
def fo.well(a:fo)(whole:Bool):Bool:=(decide (a.mn<=(a.n:Int))&&decide ((a.n:Int)<=a.mx)) || !whole||decide (a.pt=-1)
def fo.zero(a:fo):fo:={ a with n:=0 }
structure gV(w:ai)(b:Nat)(a:fo):Prop where
 heap:w.heap[b]?=J (au a.row 283 (0,0))
 hn:a.n<=1000
structure NM(w0 w:ai)(b:Nat)(a:fo):Prop where
 at':gV w b a
 br:Below w0.heap.size w0 w
 lo:w0.heap.size<=b
theorem gV.cell{w:ai}{b:Nat}{a:fo}(h:gV w b a)(i:Nat):w.cell? ⟨b,i,I⟩=a.row[i]?:=by simp[World.cell?,h.heap]
theorem gV.frozen{w:ai}{b:Nat}{a:fo}(h:gV w b a)(i:Nat):w.frozen? ⟨b,i,I⟩=false:=by simp[World.frozen?,h.heap]
theorem gV.c0{w:ai}{b:Nat}{a:fo}(h:gV w b a):w.cell? ⟨b,0,I⟩=J (U R a.pt):=h.cell 0
theorem gV.c1{w:ai}{b:Nat}{a:fo}(h:gV w b a):w.cell? ⟨b,1,I⟩=J (U R a.mn):=h.cell 1
theorem gV.c2{w:ai}{b:Nat}{a:fo}(h:gV w b a):w.cell? ⟨b,2,I⟩=J (U R a.mx):=h.cell 2
theorem gV.c3{w:ai}{b:Nat}{a:fo}(h:gV w b a):w.cell? ⟨b,3,I⟩=J (U R (a.n:Int)):=h.cell 3
theorem gV.set{w:ai}{b:Nat}{a:fo}(h:gV w b a)(n:Nat)(hn:n<=1000):gV (w.setCell ⟨b,3,I⟩ (U R (n:Int))) b { a with n:=n }:=by
 refine⟨?_,hn⟩;simp only[World.setCell,dr,h.heap];simp[fo.row]
theorem gV.drewN{w:ai}{b:Nat}{a:fo}(h:gV w b a)(q:Nat):gV (w.drewN q) b a:=⟨h.heap,h.hn⟩
theorem YC(name:ByteArray)(aJ cnt mn mx:Int)(pa:Option az)(pl pc:Nat)(gv ev fv lv:ar)(w:ai):Calls prog 153 #[aU #[aq name,U R aJ,af pa pl pc,U R cnt,U R mn,U R mx,gv,ev,fv,lv]] w λv w'=>∃b,v=ax (aj (J ⟨b,0,I⟩))/\NM w w' b ⟨kO cnt pl,mn,mx,0⟩:=by
 have fin:∀(z:Int) (o:Obj),z=kO cnt pl->NM w ((w.alloc o).alloc (au #[U R z,U R mn,U R mx,U R 0] 283)) (w.heap.size+1) ⟨kO cnt pl,mn,mx,0⟩:=by
  rintro z o rfl
  refine⟨⟨?_,bI _⟩,(aN _ _).alloc (by simp) _,by omega⟩;show ((w.alloc o).heap.push _)[w.heap.size+1]?=_
  rw[Array.getElem?_push,aR (by simp)];rfl
 have eP:aa _:=fin;clear fin
 by_cases h0:cnt<0
 ·have HZ:aa ((-1:Int)=kO cnt pl):=by show _=_;unfold kO;rw[aR (a_ h0)]
  go_enter func153,ntmps153
  go_wp2;go_ret;exact⟨_,rfl,eP.o _ _ HZ.o⟩
 by_cases h1:(pl:Int)<=cnt
 ·have HZ:aa ((-1:Int)=kO cnt pl):=by show _=_;unfold kO;rw[aR (aP h1)]
  go_enter func153,ntmps153
  go_wp2;go_ret;exact⟨_,rfl,eP.o _ _ HZ.o⟩
 have HZ:aa (cnt=kO cnt pl):=by show _=_;unfold kO;rw[aK (by omega)]
 go_enter func153,ntmps153
 go_wp2;go_ret;exact⟨_,rfl,eP.o _ _ HZ.o⟩
variable {w0 w:ai}{b:Nat}{a:fo}
end
def nX(cnt:Int)(l:List eW)(cyc:Int):Nat:=l.countP (λm=>decide (m.cyc=cyc)&&decide (m.pt=cnt))
theorem NN(cnt:Int)(l:List eW)(m:eW)(cyc:Int):nX cnt (l++[m]) cyc=nX cnt l cyc+(if m.cyc=cyc/\m.pt=cnt then 1 else 0):=by
 unfold nX;rw[List.countP_append];simp only[List.countP_cons,List.countP_nil,nj]
 by_cases h:m.cyc=cyc<;>by_cases h2:m.pt=cnt<;>simp[h2]
theorem YD{cnt:Int}{l:List eW}{cyc:Int}(h:∀m∈l,m.cyc<cyc):nX cnt l cyc=0:=by
 unfold nX;rw[List.countP_eq_zero];intro m hm;have:=h m hm;simp only[rS,xa,not_and];intro e;omega
theorem YE(cnt:Int)(l:List eW)(cyc:Int):nX cnt l cyc<=l.length:=List.countP_le_length
def vR(e:aF)(l:List eW)(cyc:Int):Int:=
 if 0<=e.cnt/\0<cyc/\((nX e.cnt l cyc:Int)<e.mn\/e.mx<(nX e.cnt l cyc:Int))then 1
 else if e.aB.any (λg=>tG g l cyc)=true then 2
 else if tH e l cyc=true then 3 else 0
def kB(e:aF)(l:List eW)(cyc:Int):fo:=⟨kO e.cnt e.ak.length,e.mn,e.mx,if kO e.cnt e.ak.length=-1 then 0 else nX e.cnt l cyc⟩
theorem YF(e:aF):kB e [] 0=⟨kO e.cnt e.ak.length,e.mn,e.mx,0⟩:=by
 unfold kB nX;simp
theorem YG{cnt:Int}{n:Nat}(h:kO cnt n≠-1):kO cnt n=cnt:=by
 unfold kO at h⊢
 split
 ·rename_i h2;rw[aR h2]at h;exact absurd rfl h
 rfl
theorem YH(e:aF)(l:List eW)(cyc p t:Int)(hl:l.length<1000):(kB e l cyc).rep p=kB e (l++[⟨p,t,cyc⟩]) cyc:=by
 unfold fo.rep
 by_cases h:kO e.cnt e.ak.length=-1
 ·rw[aK (by simp[kB,h])];simp[kB,h]
 have hp:=YG h;have hc:=YE e.cnt l cyc
 by_cases Eg:p=e.cnt
 ·have e1:(kB e l cyc).pt≠-1/\p=(kB e l cyc).pt/\(kB e l cyc).n<1000:=by
   refine⟨h,?_,?_⟩
   ·simp[kB,hp,Eg]
   simp only[kB,aK h];omega
  rw[aR e1];simp only[kB,aK h,NN,Eg,and_self,if_true]
 rw[aK (by simp only[kB];rw[hp];exact λx=>Eg x.2.1)];simp only[kB,aK h,NN];rw[aK (λx=>Eg x.2)];rfl
theorem YI{e:aF}{l:List eW}{cyc:Int}(h:∀m∈l,m.cyc<=cyc):(kB e l cyc).zero=kB e l (cyc+1):=by
 unfold fo.zero kB;rw[YD (cyc:=cyc+1) (λm hm=>by have:=h m hm;omega)];simp
def Eh(a:fo)(g:cj)(f:iY)(whole:Bool):Int:=if a.well whole=false then 1 else if g.bad=true then 2 else if f.bad=true then 3 else 0
theorem YJ{e:aF}{l:List eW}{cyc:Int}(hc:e.cnt<(e.ak.length:Int)):Eh (kB e l cyc) (rU e.aB l cyc) (rV e l cyc) (decide (0<cyc))=vR e l cyc:=by
 unfold Eh vR;have e1:((kB e l cyc).well (decide (0<cyc))=false)↔(0<=e.cnt/\0<cyc/\((nX e.cnt l cyc:Int)<e.mn\/e.mx<(nX e.cnt l cyc:Int))):=by
  unfold fo.well
  by_cases h:0<=e.cnt
  ·have hp:kO e.cnt e.ak.length=e.cnt:=by unfold kO;rw[aK (by omega)]
   have hn:¬e.cnt=-1:=by omega
   simp only[kB,hp,aK hn];generalize ((nX e.cnt l cyc:Nat):Int)=n
   by_cases a1:e.mn<=n<;>by_cases a2:n<=e.mx<;>by_cases a3:0<cyc<;>simp[a1,a2,a3,hn,h]<;>omega
  have hp:kO e.cnt e.ak.length=-1:=by unfold kO;rw[aR (by omega)]
  simp[kB,hp]
  omega
 by_cases h1:(0<=e.cnt/\0<cyc/\((nX e.cnt l cyc:Int)<e.mn\/e.mx<(nX e.cnt l cyc:Int)))
 ·rw[aR h1,aR (e1.2 h1)]
 rw[aK h1,aK (λx=>h1 (e1.1 x))];rfl
structure bB where
 act:Bool
 since:Int
 ms:List eW
 run:Int
 ex:Bool
def bB.new:bB:=⟨false,0,[],0,false⟩
def bB.begin(s:bB):bB:=if s.act then s else ⟨true,0,[],0,false⟩
def bB.stop(s:bB):bB:={ s with act:=false }
def bB.rep(e:aF)(s:bB)(p t:Int):bB:=if s.act/\jP e p=true then { s with ms:=s.ms++[⟨p,t,s.since⟩] }else s
def bB.nY(e:aF)(s:bB):Int:=if vR e s.ms s.since=0 then 0 else s.run+1
def bB.turns(e:aF)(s:bB):Bool:=s.act&&(!s.ex&&decide (e.aJ<s.nY e))
def bB.fin(e:aF)(s:bB):bB:=if s.act then ⟨true,s.since+1,s.ms,s.nY e,s.ex||decide (e.aJ<s.nY e)⟩else s
def bB.kind(e:aF)(s:bB):Int:=if s.act then vR e s.ms s.since else 0
def bB.status(s:bB):Nat:=if s.act then (if s.ex then 3 else if 0<s.run then 2 else 1)else 0
structure gJ(s:bB)(k:Nat):Prop where
 len:s.ms.length<=k
 each:∀m∈s.ms,m.cyc<=s.since
 s0:0<=s.since
 s1:s.since<=(k:Int)
 r0:0<=s.run
 r1:s.run<=s.since
theorem gJ.new:gJ bB.new 0:=⟨aQ _,λm hm=>(by cases hm),qJ _,qJ _,qJ _,qJ _⟩
theorem gJ.mono{s:bB}{k n:Nat}(h:gJ s k)(hn:k<=n):gJ s n:=⟨bw h.len hn,h.each,h.s0,by have:=h.s1;omega,h.r0,h.r1⟩
theorem gJ.begin{s:bB}{k:Nat}(h:gJ s k):gJ s.begin (k+1):=by
 unfold bB.begin
 split
 ·exact h.mono (by omega)
 exact⟨bI _,λm hm=>(by cases hm),qJ _,by simp;omega,qJ _,qJ _⟩
theorem gJ.stop{s:bB}{k:Nat}(h:gJ s k):gJ s.stop (k+1):=⟨bw h.len (by omega),h.each,h.s0,by have:=h.s1;show s.since<=_;push_cast;omega,h.r0,h.r1⟩
theorem gJ.rep{e:aF}{s:bB}{k:Nat}(h:gJ s k)(p t:Int):gJ (s.rep e p t) (k+1):=by
 unfold bB.rep
 split
 ·refine⟨by have:=h.len;simp;omega,λm hm=>?_,h.s0,by have:=h.s1;show s.since<=_;push_cast;omega,h.r0,h.r1⟩;rw[pz]at hm
  rcases hm with hm|hm
  ·exact h.each m hm
  rw[iF]at hm;subst hm;exact qJ _
 exact h.mono (by omega)
theorem gJ.fin{e:aF}{s:bB}{k:Nat}(h:gJ s k):gJ (s.fin e) (k+1):=by
 unfold bB.fin
 split
 ·have h1:=h.r0;have h2:=h.r1;have h3:=h.s0;have hr:0<=s.nY e/\s.nY e<=s.since+1:=by unfold bB.nY;split<;>omega
  refine⟨bw h.len (by omega),λm hm=>by have:=h.each m hm;show m.cyc<=s.since+1;omega,by show 0<=s.since+1;omega,by have:=h.s1;show s.since+1<=_;push_cast;omega,hr.1,hr.2⟩
 exact h.mono (by omega)
theorem kP(b o j:Nat):(⟨b,o,I⟩:az).add j=⟨b,o+j,I⟩:=by unfold Addr.add;split<;>simp_all
def bU{α:Type}(enc:α->List ar)(k:Nat)(T:TypeId)(B:Nat)(w:ai)(v:ar)(xs:List α):Prop:=w.ownsRow B T k v xs.length (xs.flatMap enc)
theorem Ei{α:Type}{enc:α->List ar}{k:Nat}(lG:∀x,(enc x).length=k):∀(xs:List α) (i j:Nat) (x:α) (u:ar),xs[i]?=J x->(enc x)[j]?=J u->(xs.flatMap enc)[i*k+j]?=J u
 |[],i,j,x,u,h,_=>by simp at h
 |y::t,0,j,x,u,h,hu=>by
  simp at h
  subst h;have hj:=(dT.1 hu).1;rw[lV,Nat.zero_mul,nj,mX hj];exact hu
 |y::t,i+1,j,x,u,h,hu=>by
  have ih:=Ei lG t i j x u (by simpa using h) hu;rw[lV,ko (by rw[lG];rw[Nat.succ_mul];omega),lG];have e:(i+1)*k+j-k=i*k+j:=by rw[Nat.succ_mul];omega
  rw[e];exact ih
theorem xz{α:Type}{enc:α->List ar}{k:Nat}(lG:∀x,(enc x).length=k):∀(xs:List α),(xs.flatMap enc).length=xs.length*k
 |[]=>by simp
 |y::t=>by rw[lV,dm,lG,xz lG t,kr,Nat.succ_mul];omega
theorem xA{α:Type}{enc:α->List ar}{k:Nat}(lG:∀x,(enc x).length=k):∀(xs:List α) (n:Nat) (u:ar),(xs.flatMap enc)[n]?=J u->∃i j x,n=i*k+j/\xs[i]?=J x/\(enc x)[j]?=J u
 |[],n,u,h=>by simp at h
 |y::t,n,u,h=>by
  rw[lV]at h
  by_cases hn:n<k
  ·rw[mX (by rw[lG];exact hn)]at h;exact⟨0,n,y,by simp,rfl,h⟩
  rw[ko (by rw[lG];omega),lG]at h;obtain⟨i,j,x,e,h1,h2⟩:=xA lG t _ u h;exact⟨i+1,j,x,by rw[Nat.succ_mul];omega,by simpa using h1,h2⟩
theorem bU.jc{α:Type}{enc:α->List ar}{k:Nat}{T:TypeId}{B:Nat}{w:ai}{v:ar}{xs:List α}(h:bU enc k T B w v xs)(lG:∀x,(enc x).length=k):bN enc k w v xs:=by
 rcases h.2 with⟨rfl,h0⟩|⟨g,cap,cur,rfl,hB,hg,hle,-⟩
 ·have:=qI h0;subst this;exact⟨_,0,rfl,aQ _,λe=>absurd rfl e⟩
 refine⟨_,cap,rfl,hle,λ_=>⟨g,0,rfl,λi x hx j u hu=>?_⟩⟩;have:=h.cells (g:=g) rfl _ u (Ei lG xs i j x u hx hu);rw[kP]at this;rw[qX];exact this
theorem bU.below{α:Type}{enc:α->List ar}{k:Nat}{T:TypeId}{B:Nat}{w w':ai}{v:ar}{xs:List α}(h:bU enc k T B w v xs)(hb:Below w.heap.size w w'):bU enc k T B w' v xs:=
 h.kept (row:=I) ⟨hb.os,hb.tape,hb.output,hb.size,λk hk _=>hb.block k hk⟩ (by by_cases e:v.ownBlock=I;exact a_ e;exact aP e)
theorem bU.other{α:Type}{enc:α->List ar}{T T':TypeId}{B b:Nat}{w w':ai}{v:ar}{xs:List α}{k:Nat}(h:bU enc k T B w v xs)(hg:w.grownBy w' (J b)){c:Array ar}{fr:Nat×Nat}(hb:w.heap[b]?=J (au c T' fr))(hT:T'≠T):bU enc k T B w' v xs:=by
 refine h.kept hg (aP ?_)
 rcases h.2 with⟨rfl,_⟩|⟨g,cap,cur,rfl,_,eA,_⟩
 ·simp[Value.ownBlock]
 intro e;simp only[Value.ownBlock,eR]at e;subst e;rw[eA]at hb;simp only[eR,l_]at hb;exact hT hb.2.1.symm
theorem fp(w:ai)(b j:Nat)(v:ar):w.grownBy (w.setCell ⟨b,j,I⟩ v) (J b):=
 ⟨rfl,rfl,rfl,by simp[World.setCell],λk _ hk=>tM _ _ _ _ (λe=>hk (by simp[e]))⟩
theorem YK{α:Type}{w:ai}{ops:Array Oper}{rest:List Oper}{o:Oper}{a:Act}{Q:Exit->Act->ai->Prop}(hgd:o.guard=I)(s x:Operand)(t:TypeId)
  (ho:o.op=.call { callee:=.builtin .append,args:=#[s,x],argTypes:=#[t,t] })
  (B:Nat) (e:TypeId) (i:TypeInfo) (z:ar) (size bytes:Nat) (ht:prog.underlying t=J (.slice e)) (hi:prog.info? e=J i) (hz:i.zero=J z) (hsize:i.size=size) (hby:i.bytes=bytes) (hzs:z.cells.size=size) (hsz:0<size)
  (hs:a.eval s=af I 0 0) (enc:α->List ar) (lG:∀x,(enc x).length=size) (h1:∀x,∀u∈enc x,u.oneCell'=true) (v:ar) (xs:List α) (hx:a.eval x=v) (hv:bN enc size w v xs) (hm:xs.length<=1000000) (qY:bytes<=1000) (hB:B<=w.heap.size)
  (h:∀dI cap' w',bU enc size e B w' (af dI xs.length cap') xs->Below w.heap.size w w'->wpList prog ops Q rest (a.put o.dst (af dI xs.length cap')) w'):wpList prog ops Q (o::rest) a w:=by
 obtain⟨sa,cap,rfl,hle,hcell⟩:=hv
 by_cases hne:xs=[]
 ·subst hne
  refine wpList_plain hgd λK hK=>?_
  have Ib:Src prog i.size t (af sa 0 cap) 0 [] w:=by
   cases sa with
   |none=>exact Src.ofNil w ht cap
   |some ad=>exact Src.ofSlice w ht ad 0 cap [] (by simp) (λj u hu=>by simp at hu) (λu hu=>by simp at hu)
  have hr:=run_append_nothing (P:=prog) w t t o.type e i ht hi I 0 0 (aQ _) _ Ib;unfold Oper.wp execOp;simp only[qo]at hx;simp only[ho,resolve,invoke,builtin,rZ,Sem.run_pure,vH,List.map_toArray,pA,List.map_nil,hs,hx,hr];exact hK _ _ (h _ 0 w (fC _ _ _ _) (aC _ _))
 obtain⟨b,of,rfl,hc⟩:=hcell hne
 refine fw w hgd s x t ho _ e i z _ _ ht hi hz hsize hby hzs hsz _ 0 [] hs (fC _ _ _ _) _ _ cap _ hx (xz lG xs) (λj u hu=>?_) (λu hu=>?_) (by unfold maxLen;omega) ?_ (aQ _) (λv' w' hown hg hn=>?_)
 ·obtain⟨i',j',y,e1,h2,h3⟩:=xA lG xs j u hu;have:=hc i' y h2 j' u h3;rw[e1,kP,<- qX];exact this
 ·simp only[rT]at hu;obtain⟨y,-,hy⟩:=hu;exact h1 y u hy
 ·have:(0+xs.length)*bytes<=1000000*1000:=Nat.mul_le_mul (by omega) qY;omega
 have hown':w'.ownsRow w.heap.size e size v' xs.length (xs.flatMap enc):=by simpa using hown
 have hb:=(aC _ _).grown hg (aQ _) (λk hk=>by simp[Value.ownBlock]at hk)
 rcases hown'.2 with⟨rfl,h0⟩|⟨g,vB,cur,rfl,zt,r⟩
 ·exact absurd (qI h0) hne
 exact h _ _ w' ⟨hown'.1,aP ⟨g,_,cur,rfl,bw hB zt,r⟩⟩ hb
theorem Ej:(prog.info? 9).map (λi=>(i.zero,i.size,i.bytes))=J (J (aq ⟨#[]⟩),1,16):=by kernel_rfl
theorem Ek:(prog.info? 86).map (λi=>(i.zero,i.size,i.bytes))=J (J (aU #[U R 0,U R 0,U R 0,U R 0]),4,32):=by kernel_rfl
theorem Ic:(prog.info? 87).map (λi=>(i.zero,i.size,i.bytes))=J (J (aU #[U R 0,U R 0]),2,16):=by kernel_rfl
theorem ny:(prog.info? 3).map (λi=>(i.zero,i.size,i.bytes))=J (J (U R 0),1,8):=by kernel_rfl
theorem NQ:∀(x:ByteArray),∀u∈bS x,u.oneCell'=true:=by intro x u hu;simp[bS]at hu;subst hu;rfl
theorem xB:∀(x:Int),∀u∈bm x,u.oneCell'=true:=by intro x u hu;simp[bm]at hu;subst hu;rfl
theorem Ie:∀(x:Int×Int),∀u∈jq x,u.oneCell'=true:=by intro x u hu;simp[jq]at hu;rcases hu with rfl|rfl<;>rfl
theorem Ig:∀(x:fM),∀u∈iD x,u.oneCell'=true:=by intro x u hu;simp[iD]at hu;rcases hu with rfl|rfl|rfl|rfl<;>rfl
structure qZ(B:Nat)(w:ai)(e:aF)(pv gv ev fv lv:ar):Prop where
 hp:bU bS 1 9 B w pv e.ak
 hg:bU iD 4 86 B w gv e.aB
 he:bU jq 2 87 B w ev e.aA
 hf:bU bm 1 3 B w fv e.first
 hl:bU bm 1 3 B w lv e.last
theorem qZ.parts{B:Nat}{w:ai}{e:aF}{pv gv ev fv lv:ar}(h:qZ B w e pv gv ev fv lv):mB w e pv gv ev fv lv:=
 ⟨h.hp.jc (λ_=>rfl),h.hg.jc (λ_=>rfl),h.he.jc (λ_=>rfl),h.hf.jc (λ_=>rfl),h.hl.jc (λ_=>rfl)⟩
theorem qZ.below{B:Nat}{w w':ai}{e:aF}{pv gv ev fv lv:ar}(h:qZ B w e pv gv ev fv lv)(hb:Below w.heap.size w w'):qZ B w' e pv gv ev fv lv:=
 ⟨h.hp.below hb,h.hg.below hb,h.he.below hb,h.hf.below hb,h.hl.below hb⟩
theorem oO(w:ai)(g:Nat)(cs:Array ar):w.grownBy (w.setRow g cs) (J g):=
 ⟨rfl,rfl,rfl,by simp[World.setRow],λk _ hk=>by
  have hne:¬g=k:=λe=>hk (by rw[e])
  simp[World.setRow,dr,hne]⟩
theorem jY{w:ai}{g:Nat}{old:Array ar}{t:TypeId}{fr:Nat×Nat}(cs:Array ar)(h:w.heap[g]?=J (au old t fr)):(w.setRow g cs).heap[g]?=J (au cs t fr):=by simp[World.setRow,dr,h]
theorem El:(prog.info? 84).map (·.size)=J 10:=by kernel_rfl
theorem sB(w:ai)(cs:List ar)(T:TypeId):∀(j:Nat) u,cs[j]?=J u->(w.alloc (au cs.toArray T)).cell? ((⟨w.heap.size,0,I⟩:az).add j)=J u:=by
 intro j u hu;rw[kP,dK _ _ _ _ rfl];simpa using hu
theorem Em{w:ai}{B k n:Nat}{T T':TypeId}{v:ar}{xs:List ar}(h:w.ownsRow B T k v n xs){b:Nat}{c:Array ar}{fr:Nat×Nat}(hb:w.heap[b]?=J (au c T' fr))(hT:T'≠T):v.ownBlock≠J b:=by
 rcases h.2 with⟨rfl,_⟩|⟨g,cap,cur,rfl,_,eA,_⟩
 ·simp[Value.ownBlock]
 intro e;simp only[Value.ownBlock,eR]at e;subst e;rw[eA]at hb;simp only[eR,l_]at hb;exact absurd hb.2.1.symm hT
theorem BR.below{w w':ai}{B k n:Nat}{T:TypeId}{v:ar}{xs:List ar}(h:w.ownsRow B T k v n xs)(hb:Below w.heap.size w w'):w'.ownsRow B T k v n xs:=
 h.kept (row:=I) ⟨hb.os,hb.tape,hb.output,hb.size,λk hk _=>hb.block k hk⟩ (by by_cases e:v.ownBlock=I;exact a_ e;exact aP e)
theorem mD{w:ai}{B k n:Nat}{T:TypeId}{v:ar}{xs:List ar}(h:w.ownsRow B T k v n xs):∃sa c,v=af sa n c:=by
 rcases h.2 with⟨rfl,rfl⟩|⟨g,cap,cur,rfl,_⟩
 ·exact⟨_,_,rfl⟩
 exact⟨_,_,rfl⟩
section
def ra(x:WG):List ar:=[U R x.g.fr,U R x.g.to,U R x.g.mn,U R x.g.mx,U R x.t]
theorem Ih(x:WG):(ra x).length=5:=rfl
theorem YL:∀(x:WG),∀u∈ra x,u.oneCell'=true:=by intro x u hu;simp[ra]at hu;rcases hu with rfl|rfl|rfl|rfl|rfl<;>rfl
def WgAt(B b:Nat)(w:ai)(sa:Option az)(xs:List WG):Prop:=
 xs≠[]->∃g o,sa=J ⟨g,o,I⟩/\g≠b/\B<=g/\(∀i x,xs[i]?=J x->∀j u,(ra x)[j]?=J u->w.cell? ⟨g,o+i*5+j,I⟩=J u)/\∃cur,w.heap[g]?=J (au cur 288 (0,0))
structure eI(B:Nat)(w:ai)(b:Nat)(sa:Option az)(cap:Nat)(s:cj):Prop where
 heap:w.heap[b]?=J (au #[af sa s.xs.length cap,aI s.bad] 286 (0,0))
 sl:WgAt B b w sa s.xs
 lo:B<=b
 fit:s.fit
def YM(w0 w:ai)(b:Nat)(s:cj):Prop:=Below w0.heap.size w0 w/\∃sa cap,eI w0.heap.size w b sa cap s
variable {B b cap:Nat}{w0 w w':ai}{sa:Option az}{s:cj}{xs:List WG}
theorem eI.BS(h:eI B w b sa cap s)(v:Bool):eI B (w.setCell ⟨b,1,I⟩ (aI v)) b sa cap ⟨s.xs,v⟩:=by
 refine⟨?_,λhne=>?_,h.lo,h.fit⟩
 ·simp only[World.setCell,dr,h.heap];simp
 obtain⟨g,o,e,h1,h2,hc,cur,hf⟩:=h.sl hne
 refine⟨g,o,e,h1,h2,λi x hx j u hu=>(World.cell?_setCell_other _ _ _ _ (λe=>h1 (mY Addr.block e).symm)).trans (hc i x hx j u hu),cur,?_⟩;simp only[World.setCell,dr];rw[aK (λe=>h1 e.symm)];exact hf
theorem eI.YN{g o k:Nat}{x:WG}{t:Int}(h:eI B w b (J ⟨g,o,I⟩) cap s)(hx:s.xs[k]?=J x)(ht:-1<=t/\t<=1099511627776):eI B (w.setCell ⟨g,o+k*5+4,I⟩ (U R t)) b (J ⟨g,o,I⟩) cap ⟨s.xs.set k ⟨x.g,t⟩,s.bad⟩:=by
 have hne:s.xs≠[]:=λe=>by rw[e]at hx;simp at hx
 obtain⟨g',o',e,h1,h2,hc,cur,hf⟩:=h.sl hne;obtain⟨rfl,rfl⟩:=by simpa using e
 refine⟨?_,λ_=>⟨g,o,rfl,h1,h2,λi y hy j u hu=>?_,cur.setIfInBounds (o+k*5+4) (U R t),?_⟩,h.lo,λy hy=>?_⟩
 ·simp only[World.setCell,dr];rw[aK h1,ze];exact h.heap
 ·simp only[List.getElem?_set]at hy
  split at hy
  ·rename_i e1;subst e1
   split at hy
   ·cases hy
    have hj:j<5:=by
     rcases fR j 5 with h'|h'
     ·exact h'
     rw[iI (by rw[Ih];exact h')]at hu;cases hu
    by_cases e4:j=4
    ·subst e4;have:u=U R t:=by simpa[ra]using hu.symm
     subst this;exact DK _ _ _ (hc k x hx 4 _ rfl)
    rw[World.cell?_setCell_other _ _ _ _ (by intro e;simp only[tW]at e;omega)]
    refine hc k x hx j u ?_
    match j,hj,e4 with
    |0,_,_=>exact hu
    |1,_,_=>exact hu
    |2,_,_=>exact hu
    |3,_,_=>exact hu
    |4,_,h4=>exact absurd rfl h4
   cases hy
  rename_i e1;have hj:j<5:=by
   rcases fR j 5 with h'|h'
   ·exact h'
   rw[iI (by rw[Ih];exact h')]at hu;cases hu
  rw[World.cell?_setCell_other _ _ _ _ (by intro e;simp only[tW]at e;omega)];exact hc i y hy j u hu
 ·simp[World.setCell,dr,hf]
 rcases List.mem_or_eq_of_mem_set hy with h'|rfl
 ·exact h.fit y h'
 exact ht
theorem eI.c0(h:eI B w b sa cap s):w.cell? ⟨b,0,I⟩=J (af sa s.xs.length cap):=by simp[World.cell?,h.heap]
theorem eI.c1(h:eI B w b sa cap s):w.cell? ⟨b,1,I⟩=J (aI s.bad):=by simp[World.cell?,h.heap]
theorem eI.f1(h:eI B w b sa cap s):w.frozen? ⟨b,1,I⟩=false:=by simp[World.frozen?,h.heap]
def En(w:ai)(g o:Nat)(x:WG):Prop:=∀j u,(ra x)[j]?=J u->w.cell? ⟨g,o+j,I⟩=J u
theorem NR{g o:Nat}{x:WG}{tick:Int}(h:En w g o x)(hx:-1<=x.t/\x.t<=1099511627776)(ht:0<=tick/\tick<=1099511627776):Calls prog 252 #[aj (J ⟨g,o,I⟩),U R tick] w λe w'=>e=ax (aI (x.bears tick))/\w'=w:=by
 have c2:=h 2 _ rfl;have c3:=h 3 _ rfl;have c4:=h 4 _ rfl;obtain⟨hx0,hx1⟩:=hx;obtain⟨xn,yX⟩:=ht;clear h
 by_cases g0:x.t=-1
 ·have HR:aa (x.bears tick=false):=by show _=_;unfold WG.bears;rw[g0];rfl
  rw[g0]at c4;clear hx0 hx1 c2 c3;go_enter func252,ntmps252
  go_wp2;go_ret;exact⟨by rw[HR.o];first|rfl|(show Ending.returned (Value.bool (x.t != -1))=_;simp[g0]),rfl⟩
 by_cases g1:x.g.mn<=tick-x.t
 ·by_cases g2:tick-x.t<=x.g.mx
  ·have HR:aa (x.bears tick=true):=by show _=_;unfold WG.bears;simp[g0,g1,g2]
   go_enter func252,ntmps252
   go_wp2;go_ret;exact⟨by rw[HR.o];first|rfl|(show Ending.returned (Value.bool _)=_;simp[g0]),rfl⟩
  have HR:aa (x.bears tick=false):=by show _=_;unfold WG.bears;simp[g2]
  go_enter func252,ntmps252
  go_wp2;go_ret;exact⟨by rw[HR.o];first|rfl|(show Ending.returned (Value.bool (x.t != -1))=_;simp[g0]),rfl⟩
 have HR:aa (x.bears tick=false):=by show _=_;unfold WG.bears;simp[g1]
 go_enter func252,ntmps252
 go_wp2;go_ret;exact⟨by rw[HR.o];first|rfl|(show Ending.returned (Value.bool (x.t != -1))=_;simp[g0]),rfl⟩
end
section
variable {B b cap:Nat}{w0 w w':ai}{sa:Option az}{s:cj}{xs:List WG}
theorem YO{g o:Nat}{x:WG}{p tick:Int}(h:En w g o x)(hf:w.frozen? ⟨g,o+4,I⟩=false)(hx:-1<=x.t/\x.t<=1099511627776)(ht:0<=tick/\tick<=1099511627776):Calls prog 215 #[aj (J ⟨g,o,I⟩),U R p,U R tick] w λe w'=>e=ax (aI (x.bad p tick))/\w'=if p=x.g.fr then w.setCell ⟨g,o+4,I⟩ (U R tick)else w:=by
 have HO:aa (En w g o x):=h;have HX:aa _:=hx;have HT:aa _:=ht;have c0:=h 0 _ rfl;have c1:=h 1 _ rfl;have c4:=h 4 _ rfl;simp only[oH]at c0;clear h hx ht
 by_cases g1:p=x.g.to
 ·by_cases g0:p=x.g.fr
  ·rw[aR g0];have HR:aa (x.bad p tick=!x.bears tick):=by show _=_;unfold WG.bad;rw[bM g1];rfl
   rw[<- g1]at c1;rw[<- g0]at c0;clear g0 g1;go_enter func215,ntmps215
   go_wp2_with fail
   refine(NR HO.o HX.o HT.o).mono ?_;rintro v w1 ⟨rfl,rfl⟩;go_wp2;go_ret;exact⟨by rw[HR.o];rfl,rfl⟩
  rw[aK g0];have HR:aa (x.bad p tick=!x.bears tick):=by show _=_;unfold WG.bad;rw[bM g1];rfl
  rw[<- g1]at c1;clear g1;go_enter func215,ntmps215
  go_wp2_with fail
  refine(NR HO.o HX.o HT.o).mono ?_;rintro v w1 ⟨rfl,rfl⟩;go_wp2;go_ret;exact⟨by rw[HR.o];rfl,rfl⟩
 have HR:aa (x.bad p tick=false):=by show _=_;unfold WG.bad;rw[cw g1];rfl
 by_cases g0:p=x.g.fr
 ·rw[aR g0];rw[<- g0]at c0;clear g0;go_enter func215,ntmps215
  go_wp2;go_ret;exact⟨by rw[HR.o];rfl,rfl⟩
 rw[aK g0];go_enter func215,ntmps215
 go_wp2;go_ret;exact⟨by rw[HR.o];rfl,rfl⟩
theorem YP{α:Type}{l:List α}{k:Nat}{x:α}(h:l[k]?=J x):l.set k x=l:=by
 apply List.ext_getElem?
 intro i;rw[List.getElem?_set]
 split
 ·rename_i e;subst e
  split
  ·exact h.symm
  rename_i hk;rw[iI (by omega)]at h
  cases h
 rfl
theorem eI.round{g o k:Nat}{x:WG}{p tick:Int}(h:eI B w b (J ⟨g,o,I⟩) cap s)(hx:s.xs[k]?=J x)(ht:0<=tick/\tick<=1099511627776):eI B (if p=x.g.fr then w.setCell ⟨g,o+k*5+4,I⟩ (U R tick)else w) b (J ⟨g,o,I⟩) cap ⟨s.xs.set k (x.rep p tick),s.bad⟩:=by
 unfold WG.rep
 split
 ·exact h.YN hx ⟨by omega,ht.2⟩
 rw[YP hx];exact h
end
end Go.Proofs.YtgmfhkjghmdgiaaGreatDoor
