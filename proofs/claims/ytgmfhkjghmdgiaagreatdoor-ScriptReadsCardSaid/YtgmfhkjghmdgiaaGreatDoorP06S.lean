/-
  Several texts as one: LoNew, LoOps, LoFin, KpLoc, KpRing, DcIdx, ToSt, KeMem, ScNum.
-/
import Derived.Test.YtgmfhkjghmdgiaaGreatDoorP05S
set_option linter.all false
set_option maxHeartbeats 40000000
set_option maxRecDepth 100000
abbrev dP.{u,v}:=@List.flatMap_append.{u,v}
abbrev zH:=@Go.World.ownsRow.alloc
abbrev zI:=@Go.wpList_append_lies
abbrev EJ.{u}:=@List.findIdx?_eq_none_iff.{u}
open Go renaming Addr→az,Value→ar,World→ai
open Go.Ending renaming returned→ax
open Go.IntKind renaming i64→R
open Go.Obj renaming cells→au
open Go.RowKit renaming Hid→aa
open Go.Value renaming agg→aU,bool→aI,int→U,pointer→aj,slice→af,string→aq,tuple→bn
open Option renaming none→I,some→J
open Go.Proofs.Tryz
namespace Go.Proofs.YtgmfhkjghmdgiaaGreatDoor
open Go.Extern Go.Extern.Stop Go.RowKit Go.Stop
section
variable {F F':Nat->Prop}{w w' w'':ai}{b ba bg bf:Nat}{e:aF}{E:EA}{s:Option dw}
def cU(x y z:ar)(e:aF)(E:EA)(act wh:Bool)(run:Int)(ex:Bool):Array ar:=#[x,y,z,aq e.name,U R e.aJ,af E.pa e.ak.length E.pc,U R e.cnt,U R e.mn,U R e.mx,af E.ga e.aB.length E.gc,af E.ea e.aA.length E.ec,af E.fa e.first.length E.fc,af E.la e.last.length E.lc,aI act,aI wh,U R run,aI ex]
def aau(F:Nat->Prop)(w:ai)(b:Nat)(e:aF)(E:EA):Option dw->Prop
 |none=>w.heap[b]?=J (au (cU (aj I) (aj I) (aj I) e E false false 0 false) 169 (0,0))
 |some n=>∃ba bg bf,w.heap[b]?=J (au (cU (aj (J ⟨ba,0,I⟩)) (aj (J ⟨bg,0,I⟩)) (aj (J ⟨bf,0,I⟩)) e E true n.whole (n.run:Int) n.ex) 169 (0,0))/\iP F w ba bg bf e n.w
structure gL(F:Nat->Prop)(w:ai)(b:Nat)(e:aF)(E:EA)(s:Option dw):Prop where
 parts:od F w e E
 fb:F b
 row:aau F w b e E s
theorem gL.same(h:gL F w b e E s)(hs:∀k,F k->w'.heap[k]?=w.heap[k]?):gL F w' b e E s:=by
 refine⟨h.parts.same hs,h.fb,?_⟩;have hr:=h.row
 cases s with
 |none=>exact(hs b h.fb).trans hr
 |some n=>obtain⟨ba,bg,bf,h1,h2⟩:=hr;exact⟨ba,bg,bf,(hs b h.fb).trans h1,h2.same hs⟩
theorem iP.mono{s:eZ}(h:iP F w ba bg bf e s)(hF:∀k,k<w.heap.size->F k->F' k):iP F' w ba bg bf e s:=by
 obtain⟨sa,cap,h1,h2⟩:=h.ga;obtain⟨m,n,D,fv,lv,h3,h4,h5,h6,h7⟩:=h.fl;exact⟨h.al,hF _ (bJ h.al.heap) h.fa,⟨sa,cap,h1,λk hk=>hF k (OD h1 hk) (h2 k hk)⟩,⟨m,n,D,fv,lv,h3,hF _ (bJ h3.heap) h4,hF _ (map_lt h3) h5,λg hg=>hF g (h3.hf.lt g hg).2 (h6 g hg),λg hg=>hF g (h3.hl.lt g hg).2 (h7 g hg)⟩,h.gl⟩
theorem gL.lt(h:gL F w b e E s):b<w.heap.size:=by
 have hr:=h.row
 cases s with
 |none=>exact bJ hr
 |some n=>obtain⟨ba,bg,bf,h1,-⟩:=hr;exact bJ h1
theorem gL.mono(h:gL F w b e E s)(hF:∀k,k<w.heap.size->F k->F' k):gL F' w b e E s:=by
 refine⟨h.parts.mono hF,hF _ h.lt h.fb,?_⟩;have hr:=h.row
 cases s with
 |none=>exact hr
 |some n=>obtain⟨ba,bg,bf,h1,h2⟩:=hr;exact⟨ba,bg,bf,h1,h2.mono hF⟩
theorem aav(w:ai)(e:aF)(E:EA)(hP:rk w e E)(hS:k7 e):Calls prog 106 #[aU #[aq e.name,U R e.aJ,af E.pa e.ak.length E.pc,U R e.cnt,U R e.mn,U R e.mx,af E.ga e.aB.length E.gc,af E.ea e.aA.length E.ec,af E.fa e.first.length E.fc,af E.la e.last.length E.lc]] w λv w'=>(∃E':EA,v=ax (OC e E')/\od (λk=>w.heap.size<=k) w' e E')/\Below w.heap.size w w':=by
 have HP:aa (rk w e E):=hP;have HS:aa _:=hS;clear hP hS;go_enter func106,ntmps106
 go_upto_region 1 with fail
 obtain⟨V0,kg⟩:∃V,V=(w.alloc (au #[aq e.name,U R e.aJ,af E.pa e.ak.length E.pc,U R e.cnt,U R e.mn,U R e.mx,af E.ga e.aB.length E.gc,af E.ea e.aA.length E.ec,af E.fa e.first.length E.fc,af E.la e.last.length E.lc] 84)).alloc (au #[aq ⟨#[]⟩,U R 0,af I 0 0,U R 0,U R 0,U R 0,af I 0 0,af I 0 0,af I 0 0,af I 0 0] 84):=⟨_,rfl⟩;rw[<- kg];have hs0:V0.heap.size=w.heap.size+2:=by rw[kg];simp
 have zJ:aa (Below w.heap.size w V0):=by show Below _ _ _;rw[kg];exact(aN _ _).alloc (by simp) _
 have zK:aa (V0.heap[w.heap.size]?=J (au #[aq e.name,U R e.aJ,af E.pa e.ak.length E.pc,U R e.cnt,U R e.mn,U R e.mx,af E.ga e.aB.length E.gc,af E.ea e.aA.length E.ec,af E.fa e.first.length E.fc,af E.la e.last.length E.lc] 84 (0,0))):=by
  show _=_
  rw[kg];exact bG (aN _ _) (cR w _)
 have oW:aa (V0.heap[w.heap.size+1]?=J (au #[aq ⟨#[]⟩,U R 0,af I 0 0,U R 0,U R 0,U R 0,af I 0 0,af I 0 0,af I 0 0,af I 0 0] 84 (0,0))):=by
  show _=_
  rw[kg];have:=cR (w.alloc (au #[aq e.name,U R e.aJ,af E.pa e.ak.length E.pc,U R e.cnt,U R e.mn,U R e.mx,af E.ga e.aB.length E.gc,af E.ea e.aA.length E.ec,af E.fa e.first.length E.fc,af E.la e.last.length E.lc] 84)) (au #[aq ⟨#[]⟩,U R 0,af I 0 0,U R 0,U R 0,U R 0,af I 0 0,af I 0 0,af I 0 0,af I 0 0] 84);simpa using this
 clear kg hs0;have s0:V0.cell? ⟨w.heap.size,2,I⟩=J (af E.pa e.ak.length E.pc):=by have:=zK.o;simp[World.cell?,this]
 go_wp2_with fail
 refine(Z_ _ _ _ _ V0 (HP.o.below zJ.o).hp HS.o.hp zJ.o.size).mono ?_;rintro v W0 ⟨⟨sI,sJ,rfl,hop⟩,hb0⟩;have d0:W0.cell? ⟨w.heap.size,2,I⟩=J (af E.pa e.ak.length E.pc):=by have:=bG hb0 zK.o;simp[World.cell?,this]
 have q0:W0.frozen? ⟨w.heap.size,2,I⟩=false:=by have:=bG hb0 zK.o;simp[World.frozen?,this]
 have OZ:aa (bU _ 1 9 _ W0 _ _):=hop;have xL:aa _:=hb0;clear hop hb0 s0;go_upto_region 2 with fail
 obtain⟨V1,hV1⟩:∃V,V=W0.setCell ⟨w.heap.size,2,I⟩ (af sI e.ak.length sJ):=⟨_,rfl⟩;rw[<- hV1];have hg1:W0.grownBy V1 (J w.heap.size):=by rw[hV1];exact fp _ _ _ _
 have oX:aa (V1.heap[w.heap.size]?=J (au #[aq e.name,U R e.aJ,af sI e.ak.length sJ,U R e.cnt,U R e.mn,U R e.mx,af E.ga e.aB.length E.gc,af E.ea e.aA.length E.ec,af E.fa e.first.length E.fc,af E.la e.last.length E.lc] 84 (0,0))):=by
  show _=_
  have:=bG xL.o zK.o;rw[hV1];simp[World.setCell,dr,this]
 have nD:aa _:=(hg1.block _ (bJ (bG xL.o oW.o)) (by simp)).trans (bG xL.o oW.o);have zL:aa _:=(zJ.o.trans (xL.o.mono zJ.o.size)).grown hg1 (bw zJ.o.size xL.o.size) (λk hk=>by cases hk;exact aQ _);have O0:aa (bU _ 1 9 _ V1 _ _):=OZ.o.other hg1 (bG xL.o zK.o) (by decide);clear d0 q0 hV1 hg1 OZ xL zK oW zJ;have s1:V1.cell? ⟨w.heap.size,6,I⟩=J (af E.ga e.aB.length E.gc):=by have:=oX.o;simp[World.cell?,this]
 go_wp2_with fail
 refine(Z' _ _ _ _ V1 (HP.o.below zL.o).hg HS.o.hg zL.o.size).mono ?_;rintro v W1 ⟨⟨uo,uq,rfl,O1⟩,hb1⟩;have d1:W1.cell? ⟨w.heap.size,6,I⟩=J (af E.ga e.aB.length E.gc):=by have:=bG hb1 oX.o;simp[World.cell?,this]
 have q1:W1.frozen? ⟨w.heap.size,6,I⟩=false:=by have:=bG hb1 oX.o;simp[World.frozen?,this]
 have O4:aa (bU _ 4 86 _ W1 _ _):=O1;have ur:aa _:=hb1;clear O1 hb1 s1;go_upto_region 3 with fail
 obtain⟨V2,hV2⟩:∃V,V=W1.setCell ⟨w.heap.size,6,I⟩ (af uo e.aB.length uq):=⟨_,rfl⟩;rw[<- hV2];have hg2:W1.grownBy V2 (J w.heap.size):=by rw[hV2];exact fp _ _ _ _
 have rp:aa (V2.heap[w.heap.size]?=J (au #[aq e.name,U R e.aJ,af sI e.ak.length sJ,U R e.cnt,U R e.mn,U R e.mx,af uo e.aB.length uq,af E.ea e.aA.length E.ec,af E.fa e.first.length E.fc,af E.la e.last.length E.lc] 84 (0,0))):=by
  show _=_
  have:=bG ur.o oX.o;rw[hV2];simp[World.setCell,dr,this]
 have b_:aa _:=(hg2.block _ (bJ (bG ur.o nD.o)) (by simp)).trans (bG ur.o nD.o);have zM:aa _:=(zL.o.trans (ur.o.mono zL.o.size)).grown hg2 (bw zL.o.size ur.o.size) (λk hk=>by cases hk;exact aQ _);have O5:aa (bU _ 1 9 _ V2 _ _):=(O0.o.below ur.o).other hg2 (bG ur.o oX.o) (by decide);have O6:aa (bU _ 4 86 _ V2 _ _):=O4.o.other hg2 (bG ur.o oX.o) (by decide);clear d1 q1 hV2 hg2 O4 ur oX nD zL O0;have s2:V2.cell? ⟨w.heap.size,7,I⟩=J (af E.ea e.aA.length E.ec):=by have:=rp.o;simp[World.cell?,this]
 go_wp2_with fail
 refine(aaa _ _ _ _ V2 (HP.o.below zM.o).he HS.o.he zM.o.size).mono ?_;rintro v W2 ⟨⟨vY,vZ,rfl,O9⟩,hb2⟩;have d2:W2.cell? ⟨w.heap.size,7,I⟩=J (af E.ea e.aA.length E.ec):=by have:=bG hb2 rp.o;simp[World.cell?,this]
 have q2:W2.frozen? ⟨w.heap.size,7,I⟩=false:=by have:=bG hb2 rp.o;simp[World.frozen?,this]
 have O_:aa (bU _ 2 87 _ W2 _ _):=O9;have rq:aa _:=hb2;clear O9 hb2 s2;go_upto_region 4 with fail
 obtain⟨V3,EK⟩:∃V,V=W2.setCell ⟨w.heap.size,7,I⟩ (af vY e.aA.length vZ):=⟨_,rfl⟩;rw[<- EK];have hg3:W2.grownBy V3 (J w.heap.size):=by rw[EK];exact fp _ _ _ _
 have gY:aa (V3.heap[w.heap.size]?=J (au #[aq e.name,U R e.aJ,af sI e.ak.length sJ,U R e.cnt,U R e.mn,U R e.mx,af uo e.aB.length uq,af vY e.aA.length vZ,af E.fa e.first.length E.fc,af E.la e.last.length E.lc] 84 (0,0))):=by
  show _=_
  have:=bG rq.o rp.o;rw[EK];simp[World.setCell,dr,this]
 have lu:aa _:=(hg3.block _ (bJ (bG rq.o b_.o)) (by simp)).trans (bG rq.o b_.o);have zN:aa _:=(zM.o.trans (rq.o.mono zM.o.size)).grown hg3 (bw zM.o.size rq.o.size) (λk hk=>by cases hk;exact aQ _);have Pb:aa (bU _ 1 9 _ V3 _ _):=(O5.o.below rq.o).other hg3 (bG rq.o rp.o) (by decide);have Pc:aa (bU _ 4 86 _ V3 _ _):=(O6.o.below rq.o).other hg3 (bG rq.o rp.o) (by decide);have Pf:aa (bU _ 2 87 _ V3 _ _):=O_.o.other hg3 (bG rq.o rp.o) (by decide);clear d2 q2 EK hg3 O_ rq rp b_ zM O5 O6;have s3:V3.cell? ⟨w.heap.size,8,I⟩=J (af E.fa e.first.length E.fc):=by have:=gY.o;simp[World.cell?,this]
 go_wp2_with fail
 refine(EC _ _ _ _ V3 (HP.o.below zN.o).hf HS.o.hf zN.o.size).mono ?_;rintro v W3 ⟨⟨xM,xN,rfl,dB⟩,hb3⟩;have d3:W3.cell? ⟨w.heap.size,8,I⟩=J (af E.fa e.first.length E.fc):=by have:=bG hb3 gY.o;simp[World.cell?,this]
 have q3:W3.frozen? ⟨w.heap.size,8,I⟩=false:=by have:=bG hb3 gY.o;simp[World.frozen?,this]
 have Pg:aa (bU _ 1 3 _ W3 _ _):=dB;have pM:aa _:=hb3;clear dB hb3 s3;go_upto_region 5 with fail
 obtain⟨V4,EL⟩:∃V,V=W3.setCell ⟨w.heap.size,8,I⟩ (af xM e.first.length xN):=⟨_,rfl⟩;rw[<- EL];have hg4:W3.grownBy V4 (J w.heap.size):=by rw[EL];exact fp _ _ _ _
 have qx:aa (V4.heap[w.heap.size]?=J (au #[aq e.name,U R e.aJ,af sI e.ak.length sJ,U R e.cnt,U R e.mn,U R e.mx,af uo e.aB.length uq,af vY e.aA.length vZ,af xM e.first.length xN,af E.la e.last.length E.lc] 84 (0,0))):=by
  show _=_
  have:=bG pM.o gY.o;rw[EL];simp[World.setCell,dr,this]
 have kD:aa _:=(hg4.block _ (bJ (bG pM.o lu.o)) (by simp)).trans (bG pM.o lu.o);have zO:aa _:=(zN.o.trans (pM.o.mono zN.o.size)).grown hg4 (bw zN.o.size pM.o.size) (λk hk=>by cases hk;exact aQ _);have Ph:aa (bU _ 1 9 _ V4 _ _):=(Pb.o.below pM.o).other hg4 (bG pM.o gY.o) (by decide);have Pj:aa (bU _ 4 86 _ V4 _ _):=(Pc.o.below pM.o).other hg4 (bG pM.o gY.o) (by decide);have Pk:aa (bU _ 2 87 _ V4 _ _):=(Pf.o.below pM.o).other hg4 (bG pM.o gY.o) (by decide);have Pm:aa (bU _ 1 3 _ V4 _ _):=Pg.o.other hg4 (bG pM.o gY.o) (by decide);clear d3 q3 EL hg4 Pg pM gY lu zN Pb Pc Pf;have s4:V4.cell? ⟨w.heap.size,9,I⟩=J (af E.la e.last.length E.lc):=by have:=qx.o;simp[World.cell?,this]
 go_wp2_with fail
 refine(EC _ _ _ _ V4 (HP.o.below zO.o).hl HS.o.hl zO.o.size).mono ?_;rintro v W4 ⟨⟨zP,zQ,rfl,Cl⟩,hb4⟩;have d4:W4.cell? ⟨w.heap.size,9,I⟩=J (af E.la e.last.length E.lc):=by have:=bG hb4 qx.o;simp[World.cell?,this]
 have q4:W4.frozen? ⟨w.heap.size,9,I⟩=false:=by have:=bG hb4 qx.o;simp[World.frozen?,this]
 have Pn:aa (bU _ 1 3 _ W4 _ _):=Cl;have og:aa _:=hb4;clear Cl hb4 s4;go_upto_region 6 with fail
 obtain⟨V5,EM⟩:∃V,V=W4.setCell ⟨w.heap.size,9,I⟩ (af zP e.last.length zQ):=⟨_,rfl⟩;rw[<- EM];have oL:W4.grownBy V5 (J w.heap.size):=by rw[EM];exact fp _ _ _ _
 have EN:aa (V5.heap[w.heap.size]?=J (au #[aq e.name,U R e.aJ,af sI e.ak.length sJ,U R e.cnt,U R e.mn,U R e.mx,af uo e.aB.length uq,af vY e.aA.length vZ,af xM e.first.length xN,af zP e.last.length zQ] 84 (0,0))):=by
  show _=_
  have:=bG og.o qx.o;rw[EM];simp[World.setCell,dr,this]
 have oh:aa _:=(oL.block _ (bJ (bG og.o kD.o)) (by simp)).trans (bG og.o kD.o);have Po:aa _:=(zO.o.trans (og.o.mono zO.o.size)).grown oL (bw zO.o.size og.o.size) (λk hk=>by cases hk;exact aQ _);have aaw:aa (bU _ 1 9 _ V5 _ _):=(Ph.o.below og.o).other oL (bG og.o qx.o) (by decide);have aax:aa (bU _ 4 86 _ V5 _ _):=(Pj.o.below og.o).other oL (bG og.o qx.o) (by decide);have aay:aa (bU _ 2 87 _ V5 _ _):=(Pk.o.below og.o).other oL (bG og.o qx.o) (by decide);have aaz:aa (bU _ 1 3 _ V5 _ _):=(Pm.o.below og.o).other oL (bG og.o qx.o) (by decide);have aaA:aa (bU _ 1 3 _ V5 _ _):=Pn.o.other oL (bG og.o qx.o) (by decide);clear d4 q4 EM oL Pn og qx kD zO Ph Pj Pk Pm;go_wp2_with (first|(refine sf rfl 84 _ rfl _ rfl _ _ _ _ EN.o underlying84 rfl El ?_)|(refine f_ rfl 84 _ _ rfl _ _ rfl rfl 84 _ oh.o El rfl (by simp[Value.oneCell']) ?_))
 have hgr:V5.grownBy (V5.setRow (w.heap.size+1) #[aq e.name,U R e.aJ,af sI e.ak.length sJ,U R e.cnt,U R e.mn,U R e.mx,af uo e.aB.length uq,af vY e.aA.length vZ,af xM e.first.length xN,af zP e.last.length zQ]) (J (w.heap.size+1)):=oO _ _ _;have hres:(V5.setRow (w.heap.size+1) #[aq e.name,U R e.aJ,af sI e.ak.length sJ,U R e.cnt,U R e.mn,U R e.mx,af uo e.aB.length uq,af vY e.aA.length vZ,af xM e.first.length xN,af zP e.last.length zQ]).heap[w.heap.size+1]?=J (au #[aq e.name,U R e.aJ,af sI e.ak.length sJ,U R e.cnt,U R e.mn,U R e.mx,af uo e.aB.length uq,af vY e.aA.length vZ,af xM e.first.length xN,af zP e.last.length zQ] 84 (0,0)):=jY _ oh.o
 refine er (nC rfl _ _ _ _ _ _ _ rfl hres underlying84 rfl El) rfl ?_;exact⟨⟨⟨sI,uo,vY,xM,zP,sJ,uq,vZ,xN,zQ⟩,rfl,⟨lr.of (aaw.o.other hgr oh.o (by decide)) (λ_ h=>h),lr.of (aax.o.other hgr oh.o (by decide)) (λ_ h=>h),lr.of (aay.o.other hgr oh.o (by decide)) (λ_ h=>h),lr.of (aaz.o.other hgr oh.o (by decide)) (λ_ h=>h),lr.of (aaA.o.other hgr oh.o (by decide)) (λ_ h=>h)⟩⟩,Po.o.grown hgr Po.o.size (λk hk=>by cases hk;omega)⟩
theorem aaB(w:ai)(e:aF)(E:EA)(hP:rk w e E)(hS:k7 e):Calls prog 65 #[aU #[aq e.name,U R e.aJ,af E.pa e.ak.length E.pc,U R e.cnt,U R e.mn,U R e.mx,af E.ga e.aB.length E.gc,af E.ea e.aA.length E.ec,af E.fa e.first.length E.fc,af E.la e.last.length E.lc]] w λv w'=>(∃(b:Nat) (E':EA),v=ax (aj (J ⟨b,0,I⟩))/\gL (λk=>w.heap.size<=k) w' b e E' I)/\Below w.heap.size w w':=by
 have HP:aa (rk w e E):=hP;have HS:aa _:=hS;clear hP hS;go_enter func65,ntmps65
 go_wp2_with fail
 have dX:aa (Below _ w (w.alloc (au #[aq e.name,U R e.aJ,af E.pa e.ak.length E.pc,U R e.cnt,U R e.mn,U R e.mx,af E.ga e.aB.length E.gc,af E.ea e.aA.length E.ec,af E.fa e.first.length E.fc,af E.la e.last.length E.lc] 84))):=aN _ _
 refine(aav _ e E (HP.o.below dX.o) HS.o).mono ?_;rintro v W ⟨⟨E',rfl,hp⟩,hb⟩;have HW:aa (od (λk=>w.heap.size<=k) W e E'/\Below _ w W):=⟨hp.mono (λk _ h=>by simp at h;show w.heap.size<=k;omega),dX.o.trans (hb.mono (by simp))⟩;clear hp hb dX HP;unfold OC;go_wp2;go_ret;have hb1:Below _ W (W.alloc (au (cU (aj I) (aj I) (aj I) e E' false false 0 false) 169)):=aN _ _
 refine⟨⟨_,E',rfl,(od.fr HW.o.1 (F':=λ_=>False) (fy.below hb1)),HW.o.2.size,?_⟩,HW.o.2.trans (hb1.mono HW.o.2.size)⟩;exact cR W _
end
section
variable {F F':Nat->Prop}{w w' w'':ai}{b ba bg bf:Nat}{e:aF}{E:EA}{s:Option dw}{n:dw}
theorem aaC:(prog.info? 169).map (·.size)=J 17:=by kernel_rfl
theorem aaD(h:gL F w b e E I)(hS:k7 e)(hW:sF e.aA):Calls prog 68 #[aj (J ⟨b,0,I⟩)] w λv w'=>v=ax .nilIface/\gL (λk=>F k\/w.heap.size<=k) w' b e E (J (dw.new e))/\fy F w w':=by
 have H:aa _:=h;have HS:aa _:=hS;have HW:aa (sF _):=hW;have hr:w.heap[b]?=J _:=h.row;have HR:aa _:=hr;have c13:w.cell? ⟨b,13,I⟩=J (aI false):=by simp[World.cell?,hr,cU]
 have c3:w.cell? ⟨b,3,I⟩=J (aq e.name):=by simp[World.cell?,hr,cU]
 have c4:w.cell? ⟨b,4,I⟩=J (U R e.aJ):=by simp[World.cell?,hr,cU]
 have c5:w.cell? ⟨b,5,I⟩=J (af E.pa e.ak.length E.pc):=by simp[World.cell?,hr,cU]
 have c6:w.cell? ⟨b,6,I⟩=J (U R e.cnt):=by simp[World.cell?,hr,cU]
 have c7:w.cell? ⟨b,7,I⟩=J (U R e.mn):=by simp[World.cell?,hr,cU]
 have c8:w.cell? ⟨b,8,I⟩=J (U R e.mx):=by simp[World.cell?,hr,cU]
 have c9:w.cell? ⟨b,9,I⟩=J (af E.ga e.aB.length E.gc):=by simp[World.cell?,hr,cU]
 have c10:w.cell? ⟨b,10,I⟩=J (af E.ea e.aA.length E.ec):=by simp[World.cell?,hr,cU]
 have c11:w.cell? ⟨b,11,I⟩=J (af E.fa e.first.length E.fc):=by simp[World.cell?,hr,cU]
 have c12:w.cell? ⟨b,12,I⟩=J (af E.la e.last.length E.lc):=by simp[World.cell?,hr,cU]
 clear h hS hW hr;go_enter func68,ntmps68
 go_wp2_with fail
 refine(aal _ e E H.o.parts.parts HS.o HW.o).mono ?_;rintro v W ⟨⟨ba,bg,bf,rfl,Pp⟩,hb⟩;have hr1:=bG hb HR.o;have nD:aa _:=hr1;have aO:aa _:=hb;have aaE:aa _:=Pp;have d0:W.cell? ⟨b,0,I⟩=J (aj I):=by simp[World.cell?,hr1,cU]
 have d1:W.cell? ⟨b,1,I⟩=J (aj I):=by simp[World.cell?,hr1,cU]
 have d2:W.cell? ⟨b,2,I⟩=J (aj I):=by simp[World.cell?,hr1,cU]
 have d13:W.cell? ⟨b,13,I⟩=J (aI false):=by simp[World.cell?,hr1,cU]
 have q:∀i,W.frozen? ⟨b,i,I⟩=false:=λi=>by simp[World.frozen?,hr1]
 clear c3 c4 c5 c6 c7 c8 c9 c10 c11 c12 c13 Pp hb hr1;go_wp2;go_ret;have hg:W.grownBy ((((W.setCell ⟨b,0,_⟩ (aj (J ⟨ba,0,I⟩))).setCell ⟨b,1,_⟩ (aj (J ⟨bg,0,I⟩))).setCell ⟨b,2,_⟩ (aj (J ⟨bf,0,I⟩))).setCell ⟨b,13,_⟩ (aI true)) (J b):=(((fp _ _ _ _).trans (fp _ _ _ _)).trans (fp _ _ _ _)).trans (fp _ _ _ _);have hrow:((((W.setCell ⟨b,0,I⟩ (aj (J ⟨ba,0,I⟩))).setCell ⟨b,1,I⟩ (aj (J ⟨bg,0,I⟩))).setCell ⟨b,2,I⟩ (aj (J ⟨bf,0,I⟩))).setCell ⟨b,13,I⟩ (aI true)).heap[b]?=J (au (cU (aj (J ⟨ba,0,I⟩)) (aj (J ⟨bg,0,I⟩)) (aj (J ⟨bf,0,I⟩)) e E true false 0 false) 169 (0,0)):=by
  have:=nD.o;simp[World.setCell,dr,this,cU]
 have mz:fy F w W:=fy.below aO.o;have hf2:=fy.put hg nD.o (a_ rfl) H.o.fb;have vX:=mz.trans hf2 (λ_ _ x=>x)
 refine⟨rfl,⟨(H.o.parts.fr vX).mono (λ_ _ x=>a_ x),a_ H.o.fb,ba,bg,bf,hrow,?_⟩,vX⟩
 refine iP.mono (F:=λk=>w.heap.size<=k) (aaE.o.same (λk hk=>?_)) (λ_ _ x=>aP x);have hbl:=bJ HR.o;have lJ:=hk;have hne:J k≠J b:=λe1=>by rw[bj e1]at lJ;omega
 rcases fR k W.heap.size with h1|h1
 ·exact hg.block k h1 hne
 rw[vy h1,vy (by simpa[World.setCell]using h1)]
theorem aaF(x:ar)(h:gL F w b e E (J n))(hx:w.cell? ⟨9,0,I⟩=J x):Calls prog 68 #[aj (J ⟨b,0,I⟩)] w λv w'=>v=ax x/\w'=w:=by
 obtain⟨ba,bg,bf,hr,-⟩:=h.row;have c13:w.cell? ⟨b,13,I⟩=J (aI true):=by simp[World.cell?,hr,cU]
 clear h hr;go_enter func68,ntmps68
 go_wp2;go_ret;exact⟨rfl,rfl⟩
theorem aaG(x:ar)(h:gL F w b e E I)(hx:w.cell? ⟨8,0,I⟩=J x):Calls prog 69 #[aj (J ⟨b,0,I⟩)] w λv w'=>v=ax x/\w'=w:=by
 have hr:w.heap[b]?=J _:=h.row;have c13:w.cell? ⟨b,13,I⟩=J (aI false):=by simp[World.cell?,hr,cU]
 clear h hr;go_enter func69,ntmps69
 go_wp2;go_ret;exact⟨rfl,rfl⟩
theorem aaH(h:gL F w b e E (J n)):Calls prog 69 #[aj (J ⟨b,0,I⟩)] w λv w'=>v=ax .nilIface/\gL F w' b e E I/\fy F w w':=by
 have H:aa _:=h;obtain⟨ba,bg,bf,hr,-⟩:=h.row;have HR:aa _:=hr;have c13:w.cell? ⟨b,13,I⟩=J (aI true):=by simp[World.cell?,hr,cU]
 have c3:w.cell? ⟨b,3,I⟩=J (aq e.name):=by simp[World.cell?,hr,cU]
 have c4:w.cell? ⟨b,4,I⟩=J (U R e.aJ):=by simp[World.cell?,hr,cU]
 have c5:w.cell? ⟨b,5,I⟩=J (af E.pa e.ak.length E.pc):=by simp[World.cell?,hr,cU]
 have c6:w.cell? ⟨b,6,I⟩=J (U R e.cnt):=by simp[World.cell?,hr,cU]
 have c7:w.cell? ⟨b,7,I⟩=J (U R e.mn):=by simp[World.cell?,hr,cU]
 have c8:w.cell? ⟨b,8,I⟩=J (U R e.mx):=by simp[World.cell?,hr,cU]
 have c9:w.cell? ⟨b,9,I⟩=J (af E.ga e.aB.length E.gc):=by simp[World.cell?,hr,cU]
 have c10:w.cell? ⟨b,10,I⟩=J (af E.ea e.aA.length E.ec):=by simp[World.cell?,hr,cU]
 have c11:w.cell? ⟨b,11,I⟩=J (af E.fa e.first.length E.fc):=by simp[World.cell?,hr,cU]
 have c12:w.cell? ⟨b,12,I⟩=J (af E.la e.last.length E.lc):=by simp[World.cell?,hr,cU]
 clear h hr;go_enter func69,ntmps69
 go_wp2_with (refine f_ rfl 169 _ _ rfl b (cU _ _ _ e E _ _ 0 _) rfl rfl 169 _ HR.o aaC rfl (by simp[Value.oneCell',cU]) ?_)
 go_ret;have hg:w.grownBy (w.setRow b (cU (aj I) (aj I) (aj I) e E false false 0 false)) _:=oO _ _ _;have hf:=fy.put hg HR.o (a_ rfl) H.o.fb;exact⟨rfl,⟨H.o.parts.fr hf,H.o.fb,jY _ HR.o⟩,hf⟩
theorem aaI(x:ar)(p t:Int)(h:gL F w b e E I)(hx:w.cell? ⟨8,0,I⟩=J x):Calls prog 70 #[aj (J ⟨b,0,I⟩),U R p,U R t] w λv w'=>v=ax x/\w'=w:=by
 have hr:w.heap[b]?=J _:=h.row;have c13:w.cell? ⟨b,13,I⟩=J (aI false):=by simp[World.cell?,hr,cU]
 clear h hr;go_enter func70,ntmps70
 go_wp2;go_ret;exact⟨rfl,rfl⟩
theorem aaJ(x:ar)(p t:Int)(h:gL F w b e E (J n))(hp:jP e p=false)(hx:w.cell? ⟨4,0,I⟩=J x):Calls prog 70 #[aj (J ⟨b,0,I⟩),U R p,U R t] w λv w'=>v=ax x/\w'=w:=by
 obtain⟨ba,bg,bf,hr,-⟩:=h.row;have c13:w.cell? ⟨b,13,I⟩=J (aI true):=by simp[World.cell?,hr,cU]
 have c5:w.cell? ⟨b,5,I⟩=J (af E.pa e.ak.length E.pc):=by simp[World.cell?,hr,cU]
 clear h hr
 by_cases g0:p<0
 ·clear hp;go_enter func70,ntmps70
  go_wp2;go_ret;exact⟨rfl,rfl⟩
 have g1:(e.ak.length:Int)<=p:=by unfold jP at hp;simp at hp;omega
 clear hp;go_enter func70,ntmps70
 go_wp2;go_ret;exact⟨rfl,rfl⟩
theorem aaK(p t:Int)(h:gL F w b e E (J n))(hp:jP e p=true)(hS:k7 e):Calls prog 70 #[aj (J ⟨b,0,I⟩),U R p,U R t] w λv w'=>v=ax .nilIface/\gL F w' b e E (J (n.rep e p t))/\fy F w w':=by
 have H:aa _:=h;have HS:aa _:=hS;have HP:aa _:=hp;obtain⟨ba,bg,bf,hr,hw⟩:=h.row;have HR:aa _:=hr;have xI:aa _:=hw;have c13:w.cell? ⟨b,13,I⟩=J (aI true):=by simp[World.cell?,hr,cU]
 have c5:w.cell? ⟨b,5,I⟩=J (af E.pa e.ak.length E.pc):=by simp[World.cell?,hr,cU]
 have g0:¬p<0:=by unfold jP at hp;simp at hp;omega
 have g1:¬(e.ak.length:Int)<=p:=by unfold jP at hp;simp at hp;omega
 clear h hr hw hp hS;go_enter func70,ntmps70
 go_wp2_with fail
 refine(aan p t _ xI.o HR.o rfl rfl rfl HS.o).mono ?_;rintro v W ⟨rfl,mg⟩;have HT:aa _:=mg;clear mg;go_wp2;go_ret
 refine⟨rfl,⟨H.o.parts.fr HT.o.fr,H.o.fb,?_⟩,HT.o.fr⟩;unfold dw.rep;rw[aR HP.o];exact⟨ba,bg,bf,HT.o.row,HT.o.jI⟩
def IP:Nat->ByteArray
 |0=>⟨#[105,100,108,101]⟩
 |1=>⟨#[111,107]⟩
 |2=>⟨#[102,97,105,108,101,100]⟩
 |_=>⟨#[101,120,112,105,114,101,100]⟩
theorem aaL(h:gL F w b e E I):Calls prog 78 #[aj (J ⟨b,0,I⟩)] w λv w'=>v=ax (aq (IP 0))/\w'=w:=by
 have hr:w.heap[b]?=J _:=h.row;have c13:w.cell? ⟨b,13,I⟩=J (aI false):=by simp[World.cell?,hr,cU]
 clear h hr;go_enter func78,ntmps78
 go_wp2;go_ret;exact⟨rfl,rfl⟩
theorem aaM(h:gL F w b e E (J n)):Calls prog 78 #[aj (J ⟨b,0,I⟩)] w λv w'=>v=ax (aq (IP n.status))/\w'=w:=by
 obtain⟨ba,bg,bf,hr,-⟩:=h.row;have c13:w.cell? ⟨b,13,I⟩=J (aI true):=by simp[World.cell?,hr,cU]
 have c15:w.cell? ⟨b,15,I⟩=J (U R (n.run:Int)):=by simp[World.cell?,hr,cU]
 have c16:w.cell? ⟨b,16,I⟩=J (aI n.ex):=by simp[World.cell?,hr,cU]
 clear h hr;obtain⟨nw,aaN,run,ex⟩:=n
 cases ex with
 |true=>
  go_enter func78,ntmps78
  go_wp2;go_ret;exact⟨rfl,rfl⟩
 |false=>
  by_cases h0:run=0
  ·subst h0;go_enter func78,ntmps78
   go_wp2;go_ret;exact⟨rfl,rfl⟩
  have HR:aa (dw.status ⟨nw,aaN,run,false⟩=2):=by show _=_;simp[dw.status,h0]
  have h1:¬((run:Nat):Int)=0:=by omega
  go_enter func78,ntmps78
  go_wp2;go_ret;exact⟨by rw[HR.o];rfl,rfl⟩
end
section
variable {F F':Nat->Prop}{w w' w'':ai}{b ba bg bf:Nat}{e:aF}{E:EA}{s:Option dw}{n:dw}
def aaO(n:dw)(b:Nat):Nat->ar->Prop
 |0=>λv=>v=aj (J ⟨b,0,I⟩)
 |1=>λv=>v=aj (J ⟨b,0,I⟩)
 |2=>λv=>v=aj (J ⟨b,0,I⟩)
 |3=>λv=>v=aj (J ⟨b,0,I⟩)
 |4=>λv=>v=aj (J ⟨b,0,I⟩)
 |5=>λv=>v=aj (J ⟨b,14,I⟩)
 |6=>λv=>v=aI n.whole
 |7=>λv=>v=U R n.kind
 |8=>λv=>v=U R n.kind
 |_=>λ_=>True
def aaP(s:eZ)(d:Bool):eZ:=if d then s.zero else s
theorem gL.put{n':dw}{W:ai}(h:gL F w b e E (J n))(hT:qw F w W b ba bg bf e n'.w (cU (aj (J ⟨ba,0,I⟩)) (aj (J ⟨bg,0,I⟩)) (aj (J ⟨bf,0,I⟩)) e E true n.whole (n.run:Int) n.ex))(W2:ai)(hg:W.grownBy W2 (J b))(hrow:W2.heap[b]?=J (au (cU (aj (J ⟨ba,0,I⟩)) (aj (J ⟨bg,0,I⟩)) (aj (J ⟨bf,0,I⟩)) e E true n'.whole (n'.run:Int) n'.ex) 169 (0,0))):gL F W2 b e E (J n')/\fy F w W2:=by
 have hf2:=fy.put hg hT.row (a_ rfl) h.fb;have vX:=hT.fr.trans hf2 (λ_ _ x=>x)
 refine⟨⟨h.parts.fr vX,h.fb,ba,bg,bf,hrow,?_⟩,vX⟩;obtain⟨sa,cap,h1,h2⟩:=hT.jI.ga;obtain⟨m,nn,D,fv,lv,h3,h4,h5,h6,h7⟩:=hT.jI.fl;have jr:∀k,(∀c T fr,W.heap[k]?=J (au c T fr)->T≠169 )->k<W.heap.size->W2.heap[k]?=W.heap[k]?:=λk hk hlt=>hg.block k hlt (λe1=>by cases e1;exact hk _ _ _ hT.row rfl)
 have qP:∀{k:Nat} {c:Array _} {T:TypeId} {fr:Nat×Nat},W.heap[k]?=J (au c T fr)->T≠169->W2.heap[k]?=W.heap[k]?:=λhk zR=>jr _ (λc' T' um h'=>by rw[hk]at h';simp only[eR,l_]at h';rw[<- h'.2.1];exact zR) (bJ hk)
 refine⟨hT.jI.al.same (qP hT.jI.al.heap (by decide)),hT.jI.fa,⟨sa,cap,h1.same (λk hk=>?_),h2⟩,⟨m,nn,D,fv,lv,h3.same (qP h3.heap (by decide)) ?_ (λg hg=>?_) (λg hg=>?_),h4,h5,h6,h7⟩,hT.jI.gl⟩
 ·obtain⟨c,T,fr,h8,h9⟩:=xJ h1 hk;exact qP h8 (by rcases h9 with rfl|rfl<;>decide)
 ·refine jr m (λc T fr hc=>?_) (map_lt h3);obtain⟨es,c',xH,rest⟩:=h3.own;rw[xH]at hc
  cases hc
 ·obtain⟨c',um,h8⟩:=EH h3.hf hg;exact qP h8 (by decide)
 obtain⟨c',um,h8⟩:=EH h3.hl hg;exact qP h8 (by decide)
theorem aaQ(h:gL F w b e E I):Calls prog 219 #[aj (J ⟨b,0,I⟩)] w λv w'=>v=ax (bn #[U R 0,aI false])/\w'=w:=by
 have hr:w.heap[b]?=J _:=h.row;have c13:w.cell? ⟨b,13,I⟩=J (aI false):=by simp[World.cell?,hr,cU]
 clear h hr;go_enter func219,ntmps219
 go_wp2;go_ret2
 exact⟨rfl,rfl⟩
theorem aaR(h:gL F w b e E (J n))(hn:n.run<=1000000):Calls prog 219 #[aj (J ⟨b,0,I⟩)] w λv w'=>v=ax (bn #[U R n.kind,aI (n.turns e)])/\gL F w' b e E (J (n.fin e))/\fy F w w':=by
 have H:aa _:=h;have HN:aa _:=hn;obtain⟨ba,bg,bf,hr,hw⟩:=h.row;have xI:aa (qw F w w b ba bg bf e n.w _):=⟨hw,hr,fy.refl _ _⟩;have c13:w.cell? ⟨b,13,I⟩=J (aI true):=by simp[World.cell?,hr,cU]
 clear h hr hw hn;go_enter func219,ntmps219
 go_wp2_with fail
 clear c13
 refine Cb 9 rfl (λj v _=>aaO n b j v) (λdone V=>qw F w V b ba bg bf e (aaP n.w (done 7)) _) (by kernel_rfl) (by kernel_rfl) ⟨xI.o.jI.same (λ_ _=>rfl),xI.o.row,fy.below (aC _ _).drew⟩ ?_ ?_
 ·intro i o ho
  match i,ho with
  |0,ho=>
   obtain rfl:=bj ho
   refine cI.free rfl ?_;intro done a V hC cd cO ay aD;have x0:a.tmps[0]?.getD _=aj _:=bp (aD 0 (eX (by kernel_rfl)));exact cu.val (c:=aj _) (by clear ay aD cO hC;go_simp) (by rw[cr _ (show 7≠0 by decide)];exact hC) rfl
  |1,ho=>
   obtain rfl:=bj ho
   refine cI.free rfl ?_;intro done a V hC cd cO ay aD;have x9:a.tmps[9]?.getD _=aj _:=bp (ay _ 9 (bA (i:=0) rfl) rfl rfl);exact cu.val (c:=aj _) (by clear ay aD cO hC;go_simp) (by rw[cr _ (show 7≠1 by decide)];exact hC) rfl
  |2,ho=>
   obtain rfl:=bj ho
   refine cI.free rfl ?_;intro done a V hC cd cO ay aD;have Om:a.tmps[10]?.getD _=aj _:=bp (ay _ 10 (bA (i:=0) rfl) rfl rfl);exact cu.val (c:=aj _) (by clear ay aD cO hC;go_simp) (by rw[cr _ (show 7≠2 by decide)];exact hC) rfl
  |3,ho=>
   obtain rfl:=bj ho
   refine cI.free rfl ?_;intro done a V hC cd cO ay aD;have x0:a.tmps[0]?.getD _=aj _:=bp (aD 0 (eX (by kernel_rfl)));exact cu.val (c:=aj _) (by clear ay aD cO hC;go_simp) (by rw[cr _ (show 7≠3 by decide)];exact hC) rfl
  |4,ho=>
   obtain rfl:=bj ho
   refine cI.free rfl ?_;intro done a V hC cd cO ay aD;have IH:a.tmps[12]?.getD _=aj _:=bp (ay _ 12 (bA (i:=0) rfl) rfl rfl);exact cu.val (c:=aj _) (by clear ay aD cO hC;go_simp) (by rw[cr _ (show 7≠4 by decide)];exact hC) rfl
  |5,ho=>
   obtain rfl:=bj ho
   refine cI.free rfl ?_;intro done a V hC cd cO ay aD;have Oo:a.tmps[13]?.getD _=aj _:=bp (ay _ 13 (bA (i:=0) rfl) rfl rfl);exact cu.val (c:=aj _) (by clear ay aD cO hC;go_simp) (by rw[cr _ (show 7≠5 by decide)];exact hC) rfl
  |6,ho=>
   obtain rfl:=bj ho
   refine cI.free rfl ?_;intro done a V hC cd cO ay aD;have EF:a.tmps[14]?.getD _=aj _:=bp (ay _ 14 (bA (i:=0) rfl) rfl rfl);have c14:V.cell? ⟨b,14,I⟩=J (aI n.whole):=by simp[World.cell?,hC.row,cU]
   exact cu.val (c:=aI _) (by clear ay aD cO hC;go_simp) (by rw[cr _ (show 7≠6 by decide)];exact hC) rfl
  |7,ho=>
   obtain rfl:=bj ho
   refine cI.free rfl ?_;intro done a V hC cd cO ay aD;have IG:a.tmps[11]?.getD _=aj _:=bp (ay _ 11 (bA (i:=0) rfl) rfl rfl);have Ot:a.tmps[15]?.getD _=aI _:=bp (ay _ 15 (bA (i:=1) rfl) rfl rfl)
   refine cu.call (f:=254) (args:=#[aj (J ⟨b,0,I⟩),aI n.whole]) (by clear ay aD cO hC;go_simp) ?_;rw[cd]at hC
   refine(aar _ _ hC.jI hC.row rfl rfl rfl).mono ?_;rintro v w1 ⟨rfl,mg⟩
   refine⟨_,rfl,?_,λ_ _ _ h=>h,rfl⟩;rw[zC];exact⟨mg.jI,mg.row,hC.fr.trans mg.fr (λ_ _ x=>x)⟩
  |8,ho=>
   obtain rfl:=bj ho
   refine cI.free rfl ?_;intro done a V hC cd cO ay aD;have Ou:a.tmps[16]?.getD _=U R _:=bp (ay _ 16 (bA (i:=0) rfl) rfl rfl);exact cu.val (c:=U R _) (by clear ay aD cO hC;go_simp) (by rw[cr _ (show 7≠8 by decide)];exact hC) rfl
  |n+9,ho=>simp at ho
 intro vals V hC hS;have HC:aa (qw F w V b ba bg bf e n.w.zero _):=hC;have v8:vals 8=U R _:=hS 8 (by decide);have hr:=HC.o.row;have c14:V.cell? ⟨b,14,I⟩=J (aI n.whole):=by simp[World.cell?,hr,cU]
 have c15:V.cell? ⟨b,15,I⟩=J (U R (n.run:Int)):=by simp[World.cell?,hr,cU]
 have c16:V.cell? ⟨b,16,I⟩=J (aI n.ex):=by simp[World.cell?,hr,cU]
 have c4:V.cell? ⟨b,4,I⟩=J (U R e.aJ):=by simp[World.cell?,hr,cU]
 have q:∀i,V.frozen? ⟨b,i,I⟩=false:=λi=>by simp[World.frozen?,hr]
 clear hC hS xI hr;simp only[fill,dz];go_simp
 by_cases hk:n.kind=0
 ·have HF:aa (n.fin e=⟨n.w.zero,true,0,n.ex⟩/\n.turns e=false/\n.kind=0):=by
   show _/\_/\_
   refine⟨?_,?_,hk⟩
   ·unfold dw.fin dw.nY dw.turns;simp[hk]
   unfold dw.turns;simp[hk]
  go_wp2;go_ret2
  have hg:V.grownBy ((V.setCell ⟨b,14,_⟩ (aI true)).setCell ⟨b,15,_⟩ (U R 0)) _:=(fp _ _ _ _).trans (fp _ _ _ _)
  refine⟨by rw[HF.o.2.1,HF.o.2.2];rfl,?_⟩;rw[HF.o.1]
  refine H.o.put (n':=⟨n.w.zero,_,0,_⟩) HC.o _ hg ?_;have:=HC.o.row;simp[World.setCell,dr,this,cU]
 have HF:aa (n.fin e=⟨n.w.zero,true,n.run+1,n.ex||(!n.ex&&decide (e.aJ<((n.run:Int)+1)))⟩/\n.turns e=(!n.ex&&decide (e.aJ<((n.run:Int)+1)))):=by
  show _/\_
  refine⟨?_,?_⟩
  ·unfold dw.fin dw.nY dw.turns;simp[hk]
  unfold dw.turns;simp[hk]
 have Mh:(n.run:Int)<=1000000:=by have:=HN.o;omega
 have HR:aa _:=HC.o.row;go_wp2_with fail
 obtain⟨V2,hV2⟩:∃W,W=(V.setCell ⟨b,14,I⟩ (aI true)).setCell ⟨b,15,I⟩ (U R ((n.run:Int)+1)):=⟨_,rfl⟩;rw[<- hV2];have hg2:V.grownBy V2 (J b):=by rw[hV2];exact(fp _ _ _ _).trans (fp _ _ _ _)
 have Cm:aa _:=hg2;have hr2:V2.heap[b]?=J (au (cU (aj (J ⟨ba,0,I⟩)) (aj (J ⟨bg,0,I⟩)) (aj (J ⟨bf,0,I⟩)) e E true true ((n.run:Int)+1) n.ex) 169 (0,0)):=by
  have:=HR.o;rw[hV2];simp[World.setCell,dr,this,cU]
 have b_:aa _:=hr2;have e4:V2.cell? ⟨b,4,I⟩=J (U R e.aJ):=by simp[World.cell?,hr2,cU]
 have ai2:V2.cell? ⟨b,15,I⟩=J (U R ((n.run:Int)+1)):=by simp[World.cell?,hr2,cU]
 have Cn:V2.cell? ⟨b,16,I⟩=J (aI n.ex):=by simp[World.cell?,hr2,cU]
 have q2:∀i,V2.frozen? ⟨b,i,I⟩=false:=λi=>by simp[World.frozen?,hr2]
 have HZ:aa (∀q (x:Bool),x=(n.ex||(!n.ex&&decide (e.aJ<((n.run:Int)+1))))->gL F ((V2.drewN q).setCell ⟨b,16,I⟩ (aI x)) b e E (J (n.fin e))/\fy F w ((V2.drewN q).setCell ⟨b,16,I⟩ (aI x))):=λq x hx=>by
  have hg3:V.grownBy ((V2.drewN q).setCell ⟨b,16,_⟩ (aI x)) _:=(Cm.o.trans (Oy _ _ _)).trans (fp _ _ _ _);rw[HF.o.1,<- hx]
  refine H.o.put (n':=⟨n.w.zero,_,_,x⟩) HC.o _ hg3 ?_;have h3:=b_.o;simp[World.setCell,dr,h3,cU]
 clear hV2 hg2 hr2 HR HC c4 c14 c15 c16 q hk v8;have HT:aa _:=HF.o.2;clear HF
 cases q1:n.ex
 ·rw[q1]at Cn HT HZ
  by_cases q3:e.aJ<((n.run:Int)+1)
  ·have HD:aa _:=bM q3;go_quiet (fail)
   go_wp2;go_ret2
   exact⟨by rw[HT.o,HD.o];rfl,HZ.o _ _ (by rw[HD.o];rfl)⟩
  have HD:aa _:=cw q3;go_quiet (fail)
  go_wp2;go_ret2
  exact⟨by rw[HT.o,HD.o];rfl,HZ.o _ _ (by rw[HD.o];rfl)⟩
 rw[q1]at Cn HT HZ;go_quiet (fail)
 go_wp2;go_ret2
 exact⟨by rw[HT.o];rfl,HZ.o _ _ rfl⟩
end
section
variable {A:Nat->az}{F F':Nat->Prop}{w w':ai}{b:Nat}{e:aF}{s:bB}
def IQ(e:aF):Option dw->bB->Prop
 |none,s=>s.act=false
 |some n,s=>kf e n s
structure dY(F:Nat->Prop)(w:ai)(b:Nat)(e:aF)(s:bB):Prop where
 ex:∃E so,gL F w b e E so/\IQ e so s
 lt:∀k,F k->k<w.heap.size
theorem dY.same(h:dY F w b e s)(hs:∀k,F k->w'.heap[k]?=w.heap[k]?)(hz:w.heap.size<=w'.heap.size):dY F w' b e s:=by
 obtain⟨E,so,h1,h2⟩:=h.ex;exact⟨⟨E,so,h1.same hs,h2⟩,λk hk=>eh (h.lt k hk) hz⟩
theorem dY.to{E:EA}{so:Option dw}(h:gL (λk=>F k\/w.heap.size<=k) w' b e E so)(hs:IQ e so s)(hl:∀k,F k->k<w.heap.size)(hz:w.heap.size<=w'.heap.size):dY (gr F w w') w' b e s:=
 ⟨⟨E,so,h.mono (λk hk hf=>hf.imp id (λa=>⟨a,hk⟩)),hs⟩,λk hk=>by
  rcases hk with hk|⟨_,hk⟩
  ·exact eh (hl k hk) hz
  exact hk⟩
theorem dY.v_{E:EA}{so:Option dw}(h:gL F w' b e E so)(hs:IQ e so s)(hl:∀k,F k->k<w.heap.size)(hz:w.heap.size<=w'.heap.size):dY (gr F w w') w' b e s:=dY.to (h.mono (λ_ _ h=>a_ h)) hs hl hz
theorem aaS(h:dY F w b e s)(hx:w.cell? ⟨9,0,I⟩=J (errVal A 10))(hS:k7 e)(hW:sF e.aA):Calls prog 68 #[aj (J ⟨b,0,I⟩)] w λv w'=>v=ax (errVal A s.xD)/\dY (gr F w w') w' b e s.begin/\bh F w w':=by
 obtain⟨E,so,h1,h2⟩:=h.ex
 cases so with
 |none=>
  have ha:s.act=false:=h2
  refine(aaD h1 hS hW).mono ?_;rintro v w' ⟨rfl,h3,h4⟩;exact⟨by unfold bB.xD;rw[ha];rfl,dY.to h3 (kf.new e s ha) h.lt h4.off.size,h4.off⟩
 |some n=>
  have ha:=kf.act h2
  refine(aaF _ h1 hx).mono ?_;rintro v w' ⟨rfl,rfl⟩;have hb:s.begin=s:=by unfold bB.begin;rw[ha];rfl
  rw[hb];exact⟨by unfold bB.xD;rw[ha];rfl,dY.v_ h1 h2 h.lt (aQ _),bh.refl _ _⟩
theorem Pq(h:dY F w b e s)(hx:w.cell? ⟨8,0,I⟩=J (errVal A 9)):Calls prog 69 #[aj (J ⟨b,0,I⟩)] w λv w'=>v=ax (errVal A s.kQ)/\dY (gr F w w') w' b e s.stop/\bh F w w':=by
 obtain⟨E,so,h1,h2⟩:=h.ex
 cases so with
 |none=>
  have ha:s.act=false:=h2
  refine(aaG _ h1 hx).mono ?_;rintro v w' ⟨rfl,rfl⟩;exact⟨by unfold bB.kQ;rw[ha];rfl,dY.v_ h1 (show s.stop.act=false from rfl) h.lt (aQ _),bh.refl _ _⟩
 |some n=>
  have ha:=kf.act h2
  refine(aaH h1).mono ?_;rintro v w' ⟨rfl,h3,h4⟩;exact⟨by unfold bB.kQ;rw[ha];rfl,dY.v_ h3 (show s.stop.act=false from rfl) h.lt h4.off.size,h4.off⟩
theorem aaT(p t:Int)(h:dY F w b e s)(hx:w.cell? ⟨8,0,I⟩=J (errVal A 9))(hy:w.cell? ⟨4,0,I⟩=J (errVal A 5))(hS:k7 e)(hn:s.ms.length<1000)(ht:0<=t/\t<=1099511627776):Calls prog 70 #[aj (J ⟨b,0,I⟩),U R p,U R t] w λv w'=>v=ax (errVal A (s.vT e p))/\dY (gr F w w') w' b e (s.rep e p t)/\bh F w w':=by
 obtain⟨E,so,h1,h2⟩:=h.ex
 cases so with
 |none=>
  have ha:s.act=false:=h2
  refine(aaI _ p t h1 hx).mono ?_;rintro v w' ⟨rfl,rfl⟩;have hb:s.rep e p t=s:=by unfold bB.rep;rw[aK (λx=>by rw[ha]at x;cases x.1)]
  rw[hb];exact⟨by unfold bB.vT;rw[ha];rfl,dY.v_ h1 h2 h.lt (aQ _),bh.refl _ _⟩
 |some n=>
  have ha:=kf.act h2
  cases hp:jP e p
  ·refine(aaJ _ p t h1 hp hy).mono ?_;rintro v w' ⟨rfl,rfl⟩;have hb:s.rep e p t=s:=by unfold bB.rep;rw[aK (λx=>by rw[hp]at x;cases x.2)]
   rw[hb];exact⟨by unfold bB.vT;rw[ha,hp];rfl,dY.v_ h1 h2 h.lt (aQ _),bh.refl _ _⟩
  refine(aaK p t h1 hp hS).mono ?_;rintro v w' ⟨rfl,h3,h4⟩;exact⟨by unfold bB.vT;rw[ha,hp];rfl,dY.v_ h3 (kf.rep h2 p t hn (by unfold qK;rw[bM ht.1,bM ht.2];rfl)) h.lt h4.off.size,h4.off⟩
theorem aaU(h:dY F w b e s)(hc:e.cnt<(e.ak.length:Int))(ht:0<=e.aJ)(hF:gJ s 900000):Calls prog 219 #[aj (J ⟨b,0,I⟩)] w λv w'=>v=ax (bn #[U R (s.kind e),aI (s.turns e)])/\dY (gr F w w') w' b e (s.fin e)/\bh F w w':=by
 obtain⟨E,so,h1,h2⟩:=h.ex
 cases so with
 |none=>
  have ha:s.act=false:=h2
  refine(aaQ h1).mono ?_;rintro v w' ⟨rfl,rfl⟩;have hb:s.fin e=s:=by unfold bB.fin;rw[ha];rfl
  rw[hb];exact⟨by unfold bB.kind bB.turns;rw[ha];rfl,dY.v_ h1 h2 h.lt (aQ _),bh.refl _ _⟩
 |some n=>
  have zS:kf e n s:=h2
  refine(aaR h1 (by have:=zS.run;have:=hF.r1;have:=hF.s1;omega)).mono ?_;rintro v w' ⟨rfl,h3,h4⟩;exact⟨by rw[zS.kind hc,zS.turns hc ht],dY.v_ h3 (zS.fin hc ht hF.each hF.s0) h.lt h4.off.size,h4.off⟩
theorem aaV:∀n,n<=3->IP n=pJ n
 |0,_=>rfl
 |1,_=>rfl
 |2,_=>rfl
 |3,_=>rfl
 |n+4,h=>by omega
theorem Pr(h:dY F w b e s):Calls prog 78 #[aj (J ⟨b,0,I⟩)] w λv w'=>v=ax (aq (pJ s.status))/\w'=w:=by
 obtain⟨E,so,h1,h2⟩:=h.ex
 cases so with
 |none=>
  have ha:s.act=false:=h2
  refine(aaL h1).mono ?_;rintro v w' ⟨rfl,rfl⟩;exact⟨by unfold bB.status;rw[ha];rfl,rfl⟩
 |some n=>
  have zS:kf e n s:=h2
  refine(aaM h1).mono ?_;rintro v w' ⟨rfl,rfl⟩;have hn:n.status<=3:=by unfold dw.status;split;omega;split<;>omega
  exact⟨by rw[aaV _ hn,zS.status],rfl⟩
theorem aaW(w:ai)(e:aF)(E:EA)(hP:rk w e E)(hS:k7 e):Calls prog 65 #[aU #[aq e.name,U R e.aJ,af E.pa e.ak.length E.pc,U R e.cnt,U R e.mn,U R e.mx,af E.ga e.aB.length E.gc,af E.ea e.aA.length E.ec,af E.fa e.first.length E.fc,af E.la e.last.length E.lc]] w λv w'=>∃b,v=ax (aj (J ⟨b,0,I⟩))/\dY (λk=>w.heap.size<=k/\k<w'.heap.size) w' b e bB.new/\Below w.heap.size w w':=by
 refine(aaB w e E hP hS).mono ?_;rintro v w' ⟨⟨b,E',rfl,h1⟩,hb⟩;exact⟨b,rfl,⟨⟨E',_,h1.mono (λk hk h=>⟨h,hk⟩),rfl⟩,λk hk=>hk.2⟩,hb⟩
end
section
variable {A:Nat->az}{F F':Nat->Prop}{w w':ai}{B rb bc:Nat}{s:aM}{L:List Rec}{sp:Bool}{c:aS}{K:aH}{k W:Nat}
structure jd(F:Nat->Prop)(B:Nat)(w:ai)(rb bc:Nat)(s:aM)(L:List Rec)(sp:Bool):Prop where
 ring:∃v,eK w B rb bc v L sp/\∀k,v.ownBlock=J k->F k
 cells:bY w bc s
 fr:F rb
 fc:F bc
 ne:rb≠bc
 lt:∀k,F k->k<w.heap.size
theorem jd.off{S:Nat->Prop}(h:jd F B w rb bc s L sp)(ho:bh S w w')(hS:∀k,F k->¬S k):jd F B w' rb bc s L sp:=by
 obtain⟨v,h1,h2⟩:=h.ring;exact⟨⟨v,h1.off ho (hS rb h.fr) (λg hg=>hS g (h2 g hg)),h2⟩,h.cells.off ho (hS bc h.fc),h.fr,h.fc,h.ne,λk hk=>eh (h.lt k hk) ho.size⟩
theorem jd.to{v v':ar}{s':aM}{L':List Rec}{Ps:Bool}(h:jd F B w rb bc s L sp)(hv:∀k,v.ownBlock=J k->F k)(h1:eK w' B rb bc v' L' Ps)(hn:∀k,v'.ownBlock=J k->v.ownBlock=J k\/w.heap.size<=k)(h2:bY w' bc s')(hz:w.heap.size<=w'.heap.size):jd (gr F w w') B w' rb bc s' L' Ps:=
 ⟨⟨v',h1,λk hk=>(hn k hk).elim (λa=>a_ (hv k a)) (λa=>aP ⟨a,(h1.recs.lt k hk).2⟩)⟩,h2,a_ h.fr,a_ h.fc,h.ne,λk hk=>by
  rcases hk with hk|⟨_,hk⟩
  ·exact eh (h.lt k hk) hz
  exact hk⟩
theorem jd.Pt{s':aM}(h:jd F B w rb bc s L sp)(h2:bY w' bc s')(hg:w.grownBy w' (J bc)):jd (gr F w w') B w' rb bc s' L sp/\bh F w w':=by
 obtain⟨v,h1,h3⟩:=h.ring;have ho:=bh.iO hg;exact⟨h.to h3 (h1.off ho h.ne (λg hg e=>h1.sep.2 (by rw[hg,e]))) (λk hk=>a_ hk) h2 hg.size,ho.mono (λk _ e=>by rw[e];exact h.fc)⟩
theorem aaX(h:jd F B w rb bc K.c K.L K.sp)(hf:bQ c K k W)(hW:W+18<=1099511627776)(ho:K.c.off=false)(hs:gT A w)(qi:8<=bc)(i kd t:Nat)(h1:i<=255)(h2:kd<=255)(h3:t<=281474976710655):Calls prog 220 #[aj (J ⟨rb,0,I⟩),U R (i:Int),U R (kd:Int),U R (t:Int)] w λe w'=>∃r:Rec,e=ax (bn #[r.val,errVal A (K.app i kd t).2])/\jd (gr F w w') B w' rb bc (K.app i kd t).1.c (K.app i kd t).1.L (K.app i kd t).1.sp/\bh F w w':=by
 have hsp:K.sp=false:=by
  cases e:K.sp with
  |false=>rfl
  |true=>rw[hf.sp e]at ho;cases ho
 obtain⟨v,hr,hv⟩:=h.ring;rw[hsp]at hr;have hS:∀V,bh (λk=>k=bc\/k=rb\/v.ownBlock=J k) w V->bh F w V:=λV hV=>hV.mono (λk _ hk=>by
  rcases hk with rfl|rfl|hk
  ·exact h.fc
  ·exact h.fr
  exact hv k hk)
 have Zc:=hf.last
 by_cases hq:(fT K.L).seq=4294967295
 ·have hB:K.app i kd t=(K,7):=by unfold aH.app;rw[aK (by rw[hsp];simp),aR hq]
  rw[hB]
  refine(XT A B rb bc v K.L i kd t w hr hs hf.gX (bM (by omega)) (bM (by omega)) (bM (by omega)) hq).mono ?_;rintro e w' ⟨rfl,hb⟩
  refine⟨_,rfl,?_,bh.ig hb F⟩;show jd _ B w' rb bc K.c K.L K.sp
  rw[hsp];exact h.to hv (hr.below hb) (λk hk=>a_ hk) (h.cells.below hb) hb.size
 refine(XU A B rb bc v K.L K.c i kd t w hr h.cells hs qi h.ne ⟨by have:=hf.wr;omega,hf.left⟩ hf.gX h1 h2 h3 (by omega)).mono ?_;rintro e w' (⟨j,hj,rfl,IU,hc,dB⟩|⟨h0,rfl,⟨v',IU,hv'⟩,hc,dB⟩)
 ·have hB:K.app i kd t=({ K with c:=(K.c.eU (jW K.L i kd t)).1,sp:=true },j+1):=by unfold aH.app;rw[aK (by rw[hsp];simp),aK hq,aK (by omega),hj]
  rw[hB];exact⟨_,rfl,h.to hv IU (λk hk=>a_ hk) hc dB.size,hS w' dB⟩
 have hB:K.app i kd t=({ K with c:=(K.c.eU (jW K.L i kd t)).1,L:=qW K.L (jW K.L i kd t) },0):=by unfold aH.app;rw[aK (by rw[hsp];simp),aK hq,aR h0]
 rw[hB]
 refine⟨_,rfl,?_,hS w' dB⟩;show jd _ B w' rb bc _ _ K.sp
 rw[hsp];exact h.to hv IU hv' hc dB.size
theorem aaY(h:jd F B w rb bc K.c K.L K.sp)(hs:gT A w)(n:Int):Calls prog 32 #[aj (J ⟨bc,0,I⟩),U R n] w λe w'=>e=ax (errVal A (K.cut n).2)/\jd (gr F w w') B w' rb bc (K.cut n).1.c (K.cut n).1.L (K.cut n).1.sp/\bh F w w':=by
 have same:jd (gr F w w) B w rb bc K.c K.L K.sp:=by obtain⟨v,a,b⟩:=h.ring;exact h.to b a (λk hk=>a_ hk) h.cells (aQ _)
 by_cases hn:n<0
 ·have hB:K.cut n=(K,2):=by unfold aH.cut;rw[aR hn]
  rw[hB]
  refine(Wa A bc n w hs hn).mono ?_;rintro e w' ⟨rfl,rfl⟩;exact⟨rfl,same,bh.refl _ _⟩
 by_cases ho:K.c.off=true
 ·have hB:K.cut n=(K,8):=by unfold aH.cut;rw[aK hn,aR ho]
  rw[hB]
  refine(Wb A bc K.c n w h.cells hs hn ho).mono ?_;rintro e w' ⟨rfl,rfl⟩;exact⟨rfl,same,bh.refl _ _⟩
 have Ce:K.c.off=false:=by cases e:K.c.off;rfl;exact absurd e ho
 obtain⟨q,rfl⟩:∃q:Nat,n=(q:Int):=⟨n.toNat,by omega⟩;have hB:K.cut (q:Int)=({ K with c:={ K.c with cut:=true,left:=q } },0):=by unfold aH.cut;rw[aK hn,aK ho];rfl
 rw[hB]
 refine(V_ bc K.c q w h.cells Ce).mono ?_;rintro e w' ⟨rfl,hc,hg,-⟩;obtain⟨a,b⟩:=h.Pt hc hg;exact⟨rfl,a,b⟩
theorem aaZ(h:jd F B w rb bc s L sp):Calls prog 72 #[aj (J ⟨bc,0,I⟩)] w λe w'=>e=ax (bn #[])/\jd (gr F w w') B w' rb bc { s with off:=false,cut:=false,left:=0 } L sp/\bh F w w':=by
 refine(VW bc s w h.cells).mono ?_;rintro e w' ⟨rfl,hc,hg,-⟩;obtain⟨a,b⟩:=h.Pt hc hg;exact⟨rfl,a,b⟩
theorem aa0{D:Nat}(h:bY w bc s)(hs:gT A w)(pN:153<=s.size)(jr:s.off=false)(hD:D<=w.heap.size):Calls prog 107 #[aj (J ⟨bc,0,I⟩)] w λe w'=>∃rb,e=ax (bn #[aj (J ⟨rb,0,I⟩),.nilIface])/\jd (λk=>k=bc\/(w.heap.size<=k/\k<w'.heap.size)) D w' rb bc s (kK (s.bytes.take s.size)) false/\Below w.heap.size w w':=by
 refine(Xp A bc s w h hs (by unfold aM.err;rw[aK (by omega),aK (by rw[jr];simp)])).mono ?_;rintro e w' ⟨rb,v,rfl,hr,hb⟩;have hlt:=h.lt;have Xk:=hr.lo
 refine⟨rb,rfl,⟨⟨v,?_,λk hk=>aP (hr.recs.lt k hk)⟩,h.below hb,aP ⟨hr.lo,hr.lt⟩,a_ rfl,by omega,λk hk=>?_⟩,hb⟩
 ·rw[Nu _ _ pN];exact⟨hr.heap,hr.recs.mono hD,hr.sep,bw hD hr.lo⟩
 rcases hk with rfl|hk
 ·exact eh hlt hb.size
 exact hk.2
theorem cP.off{w w':ai}{b:Nat}{d:cS}{S:Nat->Prop}(h:cP w b d)(ho:bh S w w')(h1:¬S b):cP w' b d:=⟨(ho.block b h.lt h1).trans h.heap,h.hc,h.ho,h.hk,h.hb,h.hn⟩
end
def idxOf(l:List ByteArray)(s:ByteArray):Int:=match l.findIdx? (λy=>decide (y=s))with
 |some i=>(i:Int)
 |none=>-1
theorem sK{w:ai}{sa:Option az}{cap:Nat}{l:List ByteArray}(h:bN bS 1 w (af sa l.length cap) l){k:Nat}{x:ByteArray}(hx:l[k]?=J x):∃g o,sa=J ⟨g,o,I⟩/\∀i x,l[i]?=J x->w.cell? ⟨g,o+i,I⟩=J (aq x):=by
 obtain⟨dI,cap',ck,-,hcc⟩:=h
 cases ck
 obtain⟨g,o,rfl,hc0⟩:=hcc (λh=>by rw[h]at hx;simp at hx);exact⟨g,o,rfl,λi x hx=>by have:=hc0 i x hx 0 _ rfl;simpa using this⟩
theorem wj{a b:ByteArray}(h:¬a=b):(a.toList==b.toList)=false/\¬a.toList=b.toList:=by
 have h2:¬a.toList=b.toList:=λe=>by
  rw[fZ,fZ]at e;apply h
  obtain⟨⟨a⟩⟩:=a;obtain⟨⟨b⟩⟩:=b;simp at e
  subst e;rfl
 exact⟨by simpa using h2,h2⟩
theorem Pu{l:List ByteArray}{s:ByteArray}{k:Nat}(hk:l[k]?=J s)(h:∀j x,j<k->l[j]?=J x->x≠s):idxOf l s=k:=by
 have:l.findIdx? (λy=>decide (y=s))=J k:=by
  rw[List.findIdx?_eq_some_iff_getElem];obtain⟨hlt,e⟩:=dT.1 hk;exact⟨hlt,by simp[e],λj hj=>by simpa using h j _ hj (bH (by omega))⟩
 unfold idxOf;rw[this]
theorem EO{l:List ByteArray}{s:ByteArray}(h:∀j x,j<l.length->l[j]?=J x->x≠s):idxOf l s=-1:=by
 have:l.findIdx? (λy=>decide (y=s))=I:=by
  rw[EJ];intro y hy;obtain⟨j,hj⟩:=vS hy;have zj:j<l.length:=by
   rcases fR j l.length with h'|h'
   ·exact h'
   rw[iI h']at hj;cases hj
  simpa using h j y zj hj
 unfold idxOf;rw[this]
theorem wk(l:List ByteArray)(s:ByteArray)(sa:Option az)(cap:Nat)(w:ai)(h:bN bS 1 w (af sa l.length cap) l)(hn:l.length<=1000000):Calls prog 55 #[af sa l.length cap,aq s] w λe w'=>e=ax (U R (idxOf l s))/\w'=w:=by
 have HL:aa (bN _ 1 w _ l):=h;clear h;go_enter func55,ntmps55
 go_wp2_with fail
 go_loopw [5] (λi wr=>wr=w/\∃k:Nat,k<=l.length/\i=U R k/\∀j x,j<k->l[j]?=J x->x≠s) (λi _=>l.length-(intOf i).toNat)
 case atStart=>exact⟨rfl,0,bI _,rfl,λj x hj=>absurd hj (by omega)⟩
 case round=>
  obtain⟨rfl,k,hk,rfl,hno⟩:=hrel;have HN:aa _:=hno;clear hno
  by_cases hlt:k<l.length
  ·have k1:(k:Int)<(l.length:Int):=by omega
   obtain⟨x,hx⟩:∃x,l[k]?=J x:=⟨_,bH hlt⟩;have HX:aa _:=hx;obtain⟨g,o,rfl,hc⟩:=sK HL.o hx;have c0:=hc k x hx;clear hc hx
   by_cases e:x=s
   ·subst e;have HE:aa _:=Pu HX.o HN.o;go_wp2;go_ret;exact⟨by rw[HE.o];rfl,rfl⟩
   have n1:=(wj e).1;have n2:=(wj e).2;go_wp2_with fail
   go_roundw
   case rel=>
    refine⟨trivial,k+1,by omega,by go_num,λj y hj hy=>?_⟩
    rcases fR j k with h1|h1
    ·exact HN.o j y h1 hy
    obtain rfl:j=k:=by omega
    rw[HX.o]at hy
    cases hy
    exact e
   case measure=>simp[intOf];omega
  have k1:¬(k:Int)<(l.length:Int):=by omega
  have HE:aa _:=EO (λj x hj hx=>HN.o j x (by omega) hx);go_wp2;go_ret;exact⟨by rw[HE.o];rfl,rfl⟩
section
variable {w0 w1 w w':ai}{b:Nat}{s s':cD}
def qy(s:cD):Array ar:=#[aq (kI s.st),U R ((s.bC:Int)-(s.since:Int))]
structure mH(w0 w:ai)(b:Nat)(s:cD):Prop where
 heap:w.heap[b]?=J (au (qy s) 180 (0,0))
 br:Below w0.heap.size w0 w
 lo:w0.heap.size<=b
theorem aa1(d:Nat)(w:ai)(hd:d<=20):Calls prog 108 #[U R (d:Int)] w λv w'=>∃b,v=ax (bn #[aj (J ⟨b,0,I⟩),.nilIface])/\mH w w' b (cD.new d):=by
 have g1:¬(d:Int)<0:=by omega
 have g2:¬20<(d:Int):=by omega
 have e:qy (cD.new d)=#[aq ⟨#[111,107]⟩,U R (d:Int)]:=by simp[qy,cD.new,kI]
 have HE:aa _:=e;clear e;go_enter func108,ntmps108
 go_wp2;go_ret2
 exact⟨_,rfl,by rw[HE.o];exact cR w _,aN _ _,aQ _⟩
theorem aa2(h:mH w0 w b s):Calls prog 79 #[aj (J ⟨b,0,I⟩)] w λv w'=>v=ax (aq (kI s.st))/\w'=w:=by
 have hr:=h.heap;have c0:w.cell? ⟨b,0,I⟩=J (aq (kI s.st)):=by simp[World.cell?,hr,qy]
 clear h hr;go_enter func79,ntmps79
 go_wp2;go_ret;exact⟨rfl,rfl⟩
theorem aa3(h:mH w0 w b s)(hs:s.st<=3):Calls prog 162 #[aj (J ⟨b,0,I⟩)] w λv w'=>v=ax (aI (decide (s.st≠3)))/\w'=w:=by
 have hr:=h.heap;have c2:∀x,kI s.st=x->w.cell? ⟨b,0,I⟩=J (aq x):=λx hx=>by simp[World.cell?,hr,hx,qy]
 obtain⟨d,si,st⟩:=s;clear h hr;have hs':st<=3:=hs
 match st,hs' with
 |0,_=>
  have c:=c2 ⟨_⟩ rfl;clear c2;go_enter func162,ntmps162
  go_wp2;go_ret;exact⟨rfl,rfl⟩
 |1,_=>
  have c:=c2 ⟨_⟩ rfl;clear c2;go_enter func162,ntmps162
  go_wp2;go_ret;exact⟨rfl,rfl⟩
 |2,_=>
  have c:=c2 ⟨_⟩ rfl;clear c2;go_enter func162,ntmps162
  go_wp2;go_ret;exact⟨rfl,rfl⟩
 |3,_=>
  have c:=c2 ⟨_⟩ rfl;clear c2;go_enter func162,ntmps162
  go_wp2;go_ret;exact⟨rfl,rfl⟩
theorem aa4(l:List ByteArray)(s:ByteArray)(sa:Option az)(cap:Nat)(w:ai)(h:bN bS 1 w (af sa l.length cap) l)(hn:l.length<=1000000):Calls prog 281 #[af sa l.length cap,aq s] w λe w'=>e=ax (U R (idxOf l s))/\w'=w:=by
 have HL:aa (bN _ 1 w _ l):=h;clear h;go_enter func281,ntmps281
 go_wp2_with fail
 go_loopw [5,8] (λ_ i wr=>wr=w/\∃k:Nat,k<=l.length/\i=U R k/\∀j x,j<k->l[j]?=J x->x≠s) (λ_ i _=>l.length-(intOf i).toNat)
 case atStart=>exact⟨rfl,0,bI _,rfl,λj x hj=>absurd hj (by omega)⟩
 case round=>
  obtain⟨rfl,k,hk,rfl,hno⟩:=hrel;have HN:aa _:=hno;clear hno
  by_cases hlt:k<l.length
  ·have k1:(k:Int)<(l.length:Int):=by omega
   obtain⟨x,hx⟩:∃x,l[k]?=J x:=⟨_,bH hlt⟩;have HX:aa _:=hx;obtain⟨g,o,rfl,hc⟩:=sK HL.o hx;have c0:=hc k x hx;clear hc hx
   by_cases e:x=s
   ·subst e;have HE:aa _:=Pu HX.o HN.o;go_wp2;go_ret;exact⟨by rw[HE.o];rfl,rfl⟩
   have n1:=(wj e).1;have n2:=(wj e).2;have n3:=(wj (λe'=>e e'.symm:¬s=x)).1;have n4:=(wj (λe'=>e e'.symm:¬s=x)).2;go_wp2_with fail
   go_roundw
   case rel=>
    refine⟨trivial,k+1,by omega,by go_num,λj y hj hy=>?_⟩
    rcases fR j k with h1|h1
    ·exact HN.o j y h1 hy
    obtain rfl:j=k:=by omega
    rw[HX.o]at hy
    cases hy
    exact e
   case measure=>simp[intOf];omega
  have k1:¬(k:Int)<(l.length:Int):=by omega
  have HE:aa _:=EO (λj x hj hx=>HN.o j x (by omega) hx);go_wp2;go_ret;exact⟨by rw[HE.o];rfl,rfl⟩
theorem aa5(l:List ByteArray)(x:ByteArray):decide (0<=idxOf l x)=hasB l x:=by
 cases hb:hasB l x with
 |false=>
  have:idxOf l x=-1:=EO (λj y _ hy e=>by
   have:=lW.1 hb y (cM hy);simp[e]at this)
  rw[this];rfl
 |true=>
  unfold hasB at hb;obtain⟨y,hy,he⟩:=nR.1 hb;unfold idxOf
  split
  ·simp
  rename_i hn;have:=EJ.1 hn y hy;rw[he]at this
  cases this
theorem Co(l:List ByteArray)(s:ByteArray)(sa:Option az)(cap:Nat)(w:ai)(h:bN bS 1 w (af sa l.length cap) l)(hn:l.length<=1000000):Calls prog 258 #[af sa l.length cap,aq s] w λe w'=>e=ax (aI (hasB l s))/\w'=w:=by
 have H:aa (Calls _ 281 _ w λe w'=>e=ax _/\w'=w):=aa4 l s sa cap w h hn;rw[<- aa5];clear hn h;go_enter func258,ntmps258
 go_wp2_with fail
 refine H.o.mono ?_;rintro e w' ⟨rfl,rfl⟩;go_wp2;go_ret;exact⟨rfl,rfl⟩
theorem aa6(l:List ByteArray)(sa:Option az)(cap:Nat)(w:ai)(h:bN bS 1 w (af sa l.length cap) l)(hn:l.length<=1000000):Calls prog 221 #[af sa l.length cap] w λe w'=>e=ax (aq (kI (nS l)))/\w'=w:=by
 have HL:aa (bN _ 1 w _ l):=h;have HN:aa _:=hn;clear h hn
 cases hx:hasB l Gd
 ·cases hf:hasB l Gc
  ·have HW:aa (kI (nS l)=⟨#[111,107]⟩):=by show _=_;unfold nS;rw[aK (by rw[hx];simp),aK (by rw[hf];simp)];rfl
   have HX:aa (hasB l ⟨_⟩=false):=hx;have HF:aa (hasB l ⟨_⟩=false):=hf;clear hx hf;go_enter func221,ntmps221
   go_wp2_with fail
   refine(Co l _ sa cap _ HL.o HN.o).mono ?_;rintro e w' ⟨rfl,rfl⟩;rw[HX.o];go_wp2_with fail
   refine(Co l _ sa cap _ HL.o HN.o).mono ?_;rintro e w' ⟨rfl,rfl⟩;rw[HF.o];go_wp2;go_ret;exact⟨by rw[HW.o];rfl,rfl⟩
  have HW:aa (kI (nS l)=⟨#[102,97,105,108,101,100]⟩):=by show _=_;unfold nS;rw[aK (by rw[hx];simp),aR hf];rfl
  have HX:aa (hasB l ⟨_⟩=false):=hx;have HF:aa (hasB l ⟨_⟩=true):=hf;clear hx hf;go_enter func221,ntmps221
  go_wp2_with fail
  refine(Co l _ sa cap _ HL.o HN.o).mono ?_;rintro e w' ⟨rfl,rfl⟩;rw[HX.o];go_wp2_with fail
  refine(Co l _ sa cap _ HL.o HN.o).mono ?_;rintro e w' ⟨rfl,rfl⟩;rw[HF.o];go_wp2;go_ret;exact⟨by rw[HW.o];rfl,rfl⟩
 have HW:aa (kI (nS l)=⟨#[101,120,112,105,114,101,100]⟩):=by show _=_;unfold nS;rw[aR hx];rfl
 have HX:aa (hasB l ⟨_⟩=true):=hx;clear hx;go_enter func221,ntmps221
 go_wp2_with fail
 refine(Co l _ sa cap _ HL.o HN.o).mono ?_;rintro e w' ⟨rfl,rfl⟩;rw[HX.o];go_wp2;go_ret;exact⟨by rw[HW.o];rfl,rfl⟩
theorem mH.put(h:mH w0 w b s)(j:Nat)(u:ar)(hr:(qy s).setIfInBounds j u=qy s'):mH w0 (w.setCell ⟨b,j,I⟩ u) b s':=by
 refine⟨?_,h.br.setCell (p:=⟨b,j,_⟩) h.lo _,h.lo⟩;simp only[World.setCell,dr,h.heap];simp[<- hr]
theorem aa7(w0 w:ai)(b k:Nat)(s:cD)(l:List ByteArray)(sa:Option az)(cap:Nat)(h:mH w0 w b s)(hf:qg s k)(MQ:k<=100000)(hl:∀V,w.grownBy V (J b)->bN bS 1 V (af sa l.length cap) l)(hn:l.length<=1000000):Calls prog 161 #[aj (J ⟨b,0,I⟩),af sa l.length cap] w λv w'=>v=ax (aq (kI (s.fin l).st))/\mH w0 w' b (s.fin l)/\w.grownBy w' (J b):=by
 have oY:aa _:=hl;have HN:aa _:=hn;obtain⟨d,si,st⟩:=s;have hr:=h.heap;have c1:w.cell? ⟨b,1,I⟩=J (U R ((d:Int)-(si:Int))):=by simp[World.cell?,hr,qy]
 have Pv:w.cell? ⟨b,0,I⟩=J (aq (kI st)):=by simp[World.cell?,hr,qy]
 have q:∀i,w.frozen? ⟨b,i,I⟩=false:=λi=>by simp[World.frozen?,hr]
 have hst:st<=3:=hf.st;have aa8:d<=20:=hf.d;have hlt:st=2->si<d:=hf.lt;have hz:st<2->si=0:=hf.z;have mf:aa (∀W,w.grownBy W _->w.grownBy W (J b)):=λW hW=>hW
 have H:aa _:=h;clear hr h hf hl hn;have go:∀x,kI st=x->w.cell? _=J _:=λx hx=>by rw[<- hx];exact Pv
 clear Pv
 by_cases h3:st=3
 ·subst h3;have c0:=go ⟨_⟩ rfl;clear go;go_enter func161,ntmps161
  go_wp2;go_ret;exact⟨rfl,H.o,Cc _ _⟩
 by_cases h2:st=2
 ·subst h2;have c0:=go ⟨_⟩ rfl;clear go;have IV:=hlt rfl;obtain⟨n,hn⟩:∃n:Nat,d=si+1+n:=⟨d-(si+1),by omega⟩;have hc1:((d:Int)-(si:Int))=(n:Int)+1:=by omega
  rw[hc1]at c1;have ai3:n<=20:=by omega
  have HV:aa (∀V,V=w.setCell ⟨b,1,I⟩ (U R (n:Int))->mH w0 V b ⟨d,si+1,2⟩/\w.grownBy V (J b)):=λV hV=>by
   rw[hV];exact⟨H.o.put (s':=⟨d,_,2⟩) 1 _ (by simp[qy];omega),fp _ _ _ _⟩
  clear hlt hz hst aa8 hc1 IV h3
  by_cases hd:n=0
  ·subst hd;have HE:aa (cD.fin ⟨d,si,2⟩ l=⟨d,si+1,3⟩):=by show _=_;rw[show cD.fin _ l=cD.cut ⟨d,si+1,2⟩from rfl];unfold cD.cut;rw[aR ⟨rfl,by show si+1=d;omega⟩]
   clear hn;simp only[Int.ofNat_zero,Int.zero_add]at c1 HV;go_enter func161,ntmps161
   go_wp2_with fail
   go_ret;obtain⟨a1,a2⟩:=HV.o _ rfl;exact⟨by rw[HE.o];rfl,by rw[HE.o];exact a1.put (s':=⟨d,_,3⟩) 0 _ rfl,mf.o _ (a2.trans (fp _ _ _ _))⟩
  have ER:¬(n:Int)=0:=by omega
  have HE:aa (cD.fin ⟨d,si,2⟩ l=⟨d,si+1,2⟩):=by show _=_;rw[show cD.fin _ l=cD.cut ⟨d,si+1,2⟩from rfl];unfold cD.cut;rw[aK (λx=>hd (by have:si+1=d:=x.2;omega))]
  clear hn;go_enter func161,ntmps161
  go_wp2_with fail
  go_ret;obtain⟨a1,a2⟩:=HV.o _ rfl;exact⟨by rw[HE.o];rfl,by rw[HE.o];exact a1,mf.o _ a2⟩
 obtain rfl:=hz (by omega);have HW:aa (cD.fin ⟨d,0,st⟩ l=cD.cut ⟨d,0,nS l⟩):=by show _=_;unfold cD.fin;rw[aK h3,aK h2]
 have aa9:st=0\/st=1:=by omega
 have hw3:=Lt l;have uu:aa (∀x,kI (nS l)=x->Calls prog 221 #[af sa l.length cap] w λe w'=>e=ax (aq x)/\w'=w):=λx hx=>by
  rw[<- hx];exact aa6 l sa cap w (oY.o w (Cc _ _)) HN.o
 simp only[Int.ofNat_zero,Int.sub_zero]at c1;clear hst h2 h3 hz hlt oY HN;generalize nS l=wo at HW hw3 uu
 rcases aa9 with rfl|rfl
 ·have c0:=go ⟨_⟩ rfl;clear go
  match wo,hw3 with
  |0,_=>
   obtain⟨a1,a2⟩:mH w0 (w.setCell _ (aq ⟨_⟩)) b _/\w.grownBy (w.setCell ⟨b,0,_⟩ (aq ⟨#[111,107]⟩)) _:=⟨H.o.put (s':=⟨d,0,0⟩) 0 _ rfl,fp _ _ _ _⟩;have HA:aa _:=a1;have HG:aa _:=a2;clear a1 a2;have HE:aa (cD.fin ⟨d,0,0⟩ l=⟨d,0,0⟩):=by show _=_;rw[HW.o];unfold cD.cut;rw[aK (λx=>by have:(0:Nat)=2:=x.1;omega)]
   go_enter func161,ntmps161
   go_wp2_with fail
   refine(uu.o ⟨_⟩ rfl).mono ?_;rintro e w' ⟨rfl,rfl⟩;go_wp2_with fail
   go_ret;exact⟨by rw[HE.o];rfl,by rw[HE.o];exact HA.o,mf.o _ HG.o⟩
  |1,_=>
   obtain⟨a1,a2⟩:mH w0 (w.setCell _ (aq ⟨_⟩)) b _/\w.grownBy (w.setCell ⟨b,0,_⟩ (aq ⟨#[102,97,105,108,101,100]⟩)) _:=⟨H.o.put (s':=⟨d,0,1⟩) 0 _ rfl,fp _ _ _ _⟩;have HA:aa _:=a1;have HG:aa _:=a2;clear a1 a2;have HE:aa (cD.fin ⟨d,0,0⟩ l=⟨d,0,1⟩):=by show _=_;rw[HW.o];unfold cD.cut;rw[aK (λx=>by have:(1:Nat)=2:=x.1;omega)]
   go_enter func161,ntmps161
   go_wp2_with fail
   refine(uu.o ⟨_⟩ rfl).mono ?_;rintro e w' ⟨rfl,rfl⟩;go_wp2_with fail
   go_ret;exact⟨by rw[HE.o];rfl,by rw[HE.o];exact HA.o,mf.o _ HG.o⟩
  |2,_=>
   obtain⟨a1,a2⟩:mH w0 (w.setCell _ (aq ⟨_⟩)) b _/\w.grownBy (w.setCell ⟨b,0,_⟩ (aq ⟨#[101,120,112,105,114,101,100]⟩)) _:=⟨H.o.put (s':=⟨d,0,2⟩) 0 _ rfl,fp _ _ _ _⟩;have HA:aa _:=a1;have HG:aa _:=a2;clear a1 a2
   by_cases hd:d=0
   ·subst hd;have HE:aa (cD.fin ⟨0,0,0⟩ l=⟨0,0,3⟩):=by show _=_;rw[HW.o];unfold cD.cut;rw[aR ⟨rfl,rfl⟩]
    simp only[Int.ofNat_zero]at c1;go_enter func161,ntmps161
    go_wp2_with fail
    refine(uu.o ⟨_⟩ rfl).mono ?_;rintro e w' ⟨rfl,rfl⟩;go_wp2_with fail
    go_ret;exact⟨by rw[HE.o];rfl,by rw[HE.o];exact HA.o.put (s':=⟨0,0,3⟩) 0 _ rfl,mf.o _ (HG.o.trans (fp _ _ _ _))⟩
   have ER:¬(d:Int)=0:=by omega
   have HE:aa (cD.fin ⟨d,0,0⟩ l=⟨d,0,2⟩):=by show _=_;rw[HW.o];unfold cD.cut;rw[aK (λx=>hd x.2.symm)]
   go_enter func161,ntmps161
   go_wp2_with fail
   refine(uu.o ⟨_⟩ rfl).mono ?_;rintro e w' ⟨rfl,rfl⟩;go_wp2_with fail
   go_ret;exact⟨by rw[HE.o];rfl,by rw[HE.o];exact HA.o,mf.o _ HG.o⟩
 have c0:=go ⟨_⟩ rfl;clear go
 match wo,hw3 with
 |0,_=>
  obtain⟨a1,a2⟩:mH w0 (w.setCell _ (aq ⟨_⟩)) b _/\w.grownBy (w.setCell ⟨b,0,_⟩ (aq ⟨#[111,107]⟩)) _:=⟨H.o.put (s':=⟨d,0,0⟩) 0 _ rfl,fp _ _ _ _⟩;have HA:aa _:=a1;have HG:aa _:=a2;clear a1 a2;have HE:aa (cD.fin ⟨d,0,1⟩ l=⟨d,0,0⟩):=by show _=_;rw[HW.o];unfold cD.cut;rw[aK (λx=>by have:(0:Nat)=2:=x.1;omega)]
  go_enter func161,ntmps161
  go_wp2_with fail
  refine(uu.o ⟨_⟩ rfl).mono ?_;rintro e w' ⟨rfl,rfl⟩;go_wp2_with fail
  go_ret;exact⟨by rw[HE.o];rfl,by rw[HE.o];exact HA.o,mf.o _ HG.o⟩
 |1,_=>
  obtain⟨a1,a2⟩:mH w0 (w.setCell _ (aq ⟨_⟩)) b _/\w.grownBy (w.setCell ⟨b,0,_⟩ (aq ⟨#[102,97,105,108,101,100]⟩)) _:=⟨H.o.put (s':=⟨d,0,1⟩) 0 _ rfl,fp _ _ _ _⟩;have HA:aa _:=a1;have HG:aa _:=a2;clear a1 a2;have HE:aa (cD.fin ⟨d,0,1⟩ l=⟨d,0,1⟩):=by show _=_;rw[HW.o];unfold cD.cut;rw[aK (λx=>by have:(1:Nat)=2:=x.1;omega)]
  go_enter func161,ntmps161
  go_wp2_with fail
  refine(uu.o ⟨_⟩ rfl).mono ?_;rintro e w' ⟨rfl,rfl⟩;go_wp2_with fail
  go_ret;exact⟨by rw[HE.o];rfl,by rw[HE.o];exact HA.o,mf.o _ HG.o⟩
 |2,_=>
  obtain⟨a1,a2⟩:mH w0 (w.setCell _ (aq ⟨_⟩)) b _/\w.grownBy (w.setCell ⟨b,0,_⟩ (aq ⟨#[101,120,112,105,114,101,100]⟩)) _:=⟨H.o.put (s':=⟨d,0,2⟩) 0 _ rfl,fp _ _ _ _⟩;have HA:aa _:=a1;have HG:aa _:=a2;clear a1 a2
  by_cases hd:d=0
  ·subst hd;have HE:aa (cD.fin ⟨0,0,1⟩ l=⟨0,0,3⟩):=by show _=_;rw[HW.o];unfold cD.cut;rw[aR ⟨rfl,rfl⟩]
   simp only[Int.ofNat_zero]at c1;go_enter func161,ntmps161
   go_wp2_with fail
   refine(uu.o ⟨_⟩ rfl).mono ?_;rintro e w' ⟨rfl,rfl⟩;go_wp2_with fail
   go_ret;exact⟨by rw[HE.o];rfl,by rw[HE.o];exact HA.o.put (s':=⟨0,0,3⟩) 0 _ rfl,mf.o _ (HG.o.trans (fp _ _ _ _))⟩
  have ER:¬(d:Int)=0:=by omega
  have HE:aa (cD.fin ⟨d,0,1⟩ l=⟨d,0,2⟩):=by show _=_;rw[HW.o];unfold cD.cut;rw[aK (λx=>hd x.2.symm)]
  go_enter func161,ntmps161
  go_wp2_with fail
  refine(uu.o ⟨_⟩ rfl).mono ?_;rintro e w' ⟨rfl,rfl⟩;go_wp2_with fail
  go_ret;exact⟨by rw[HE.o];rfl,by rw[HE.o];exact HA.o,mf.o _ HG.o⟩
end
section
variable {F F':Nat->Prop}{B:Nat}{w w':ai}{b rb bc:Nat}{e:aF}{s s':bB}{cs:aM}{L:List Rec}{sp:Bool}
theorem dY.grow(h:dY F w b e s)(hF:∀k,F k->F' k)(hl:∀k,F' k->k<w.heap.size):dY F' w b e s:=by
 obtain⟨E,so,h1,h2⟩:=h.ex;exact⟨⟨E,so,h1.mono (λk _ hk=>hF k hk),h2⟩,hl⟩
theorem dY.idle(h:dY F w b e s)(h1:s.act=false)(h2:s'.act=false):dY F w b e s':=by
 obtain⟨E,so,h3,h4⟩:=h.ex
 cases so with
 |none=>exact⟨⟨E,_,h3,h2⟩,h.lt⟩
 |some n=>
  have:=kf.act h4;rw[h1]at this
  cases this
theorem jd.grow(h:jd F B w rb bc cs L sp)(hF:∀k,F k->F' k)(hl:∀k,F' k->k<w.heap.size):jd F' B w rb bc cs L sp:=by
 obtain⟨v,h1,h2⟩:=h.ring;exact⟨⟨v,h1,λk hk=>hF k (h2 k hk)⟩,h.cells,hF _ h.fr,hF _ h.fc,h.ne,hl⟩
end
structure fA(A:Nat->az)(w:ai):Prop where
 c1:w.cell? ⟨0,0,I⟩=J (.iface 352 (aj (J (A 1))))
 c2:w.cell? ⟨2,0,I⟩=J (.iface 352 (aj (J (A 2))))
 c3:w.cell? ⟨3,0,I⟩=J (.iface 352 (aj (J (A 3))))
 c4:w.cell? ⟨4,0,I⟩=J (.iface 352 (aj (J (A 4))))
 c5:w.cell? ⟨5,0,I⟩=J (.iface 352 (aj (J (A 5))))
 c6:w.cell? ⟨6,0,I⟩=J (.iface 352 (aj (J (A 6))))
 c7:w.cell? ⟨7,0,I⟩=J (.iface 352 (aj (J (A 7))))
 c8:w.cell? ⟨8,0,I⟩=J (.iface 352 (aj (J (A 8))))
 c9:w.cell? ⟨9,0,I⟩=J (.iface 352 (aj (J (A 9))))
 c10:w.cell? ⟨10,0,I⟩=J (.iface 352 (aj (J (A 10))))
theorem fA.below{A:Nat->az}{w w':ai}(h:fA A w)(hb:Below w.heap.size w w'):fA A w':=
 ⟨aG hb h.c1,aG hb h.c2,aG hb h.c3,aG hb h.c4,aG hb h.c5,aG hb h.c6,aG hb h.c7,aG hb h.c8,aG hb h.c9,aG hb h.c10⟩
theorem fA.four{A:Nat->az}{w:ai}(h:fA A w):gT A w:=⟨h.c1,h.c2,h.c6,h.c7⟩
theorem fA.gf{A:Nat->az}{w:ai}(h:fA A w):8<=w.heap.size:=by
 have h1:=fY h.c1;have h2:=fY h.c2;have h3:=fY h.c6;have h4:=fY h.c7;simp only[]at h1 h2 h3 h4;omega
def wm(c:aS)(bd bc:Nat)(rv lv tv:ar):Array ar:=#[aj (J ⟨bd,0,I⟩),U R c.cycle,aj (J ⟨bc,0,I⟩),U R c.bC,rv,lv,tv]
structure bT(H:Nat->Nat->Prop)(w0 w:ai)(c:aS)(kb bc bd rb bt:Nat)(lv:ar)(bs:List Nat)(K:aH):Prop where
 eJ:nB H w0.heap.size w
 row:w.heap[kb]?=J (au (wm c bd bc (aj (J ⟨rb,0,I⟩)) lv (aj (J ⟨bt,0,I⟩))) 113 (0,0))
 hk:H 0 kb
 own:bU ue 1 114 w0.heap.size w lv bs
 hl:∀k,lv.ownBlock=J k->H 1 k
 ring:jd (H 2) w0.heap.size w rb bc K.c K.L K.sp
 kE:cP w bd K.d
 hd:H 3 bd
 lI:w.heap[bt]?=J (au (qy K.t) 180 (0,0))
 ht:H 4 bt
 loc:∀i b e s,bs[i]?=J b->c.aw[i]?=J e->K.ls[i]?=J s->dY (H (5+i)) w b e s
 eB:bs.length=c.aw.length
 gX:K.ls.length=c.aw.length
 br:Below w0.heap.size w0 w
section
variable {H:Nat->Nat->Prop}{F:Nat->Prop}{w0 w w':ai}{c:aS}{kb bc bd rb bt:Nat}{lv:ar}{bs:List Nat}{K:aH}
theorem bT.ES(h:bT H w0 w c kb bc bd rb bt lv bs K){i:Nat}(ho:bh (H i) w w'):Below w0.heap.size w0 w':=bh.below h.br ho h.br.size (λk hk=>h.eJ.lo i k hk)
theorem bT.wu(h:bT H w0 w c kb bc bd rb bt lv bs K){i:Nat}(ho:bh (H i) w w'):nB (dV H i w w') w0.heap.size w':=h.eJ.upd ho.size h.br.size i
theorem bT.IW(h:bT H w0 w c kb bc bd rb bt lv bs K){i:Nat}(ho:bh (H i) w w')(hi:2≠i):jd (dV H i w w' 2) w0.heap.size w' rb bc K.c K.L K.sp:=
 (h.ring.off ho (λ_ hk=>h.eJ.not hi hk)).grow (λ_ hk=>a_ hk) (λk hk=>(h.wu ho).lt 2 k hk)
theorem bT.ET(h:bT H w0 w c kb bc bd rb bt lv bs K){i:Nat}(ho:bh (H i) w w'){j b:Nat}{e:aF}{s:bB}(hl:dY (H (5+j)) w b e s)(hj:5+j≠i):dY (dV H i w w' (5+j)) w' b e s:=
 (hl.same (h.eJ.keep hj ho) ho.size).grow (λ_ hk=>a_ hk) (λk hk=>(h.wu ho).lt _ k hk)
theorem bT.off{S:Nat->Prop}(h:bT H w0 w c kb bc bd rb bt lv bs K)(ho:bh S w w')(hS:∀i k,H i k->¬S k)(hB:∀k,S k->w0.heap.size<=k):bT H w0 w' c kb bc bd rb bt lv bs K:=by
 have hs:=λi k hk=>ho.block k (h.eJ.lt i k hk) (hS i k hk)
 exact⟨h.eJ.grow ho.size,(hs 0 kb h.hk).trans h.row,h.hk,bU.same h.own (λg hg=>hs 1 g (h.hl g hg)),h.hl,h.ring.off ho (λk hk=>hS 2 k hk),h.kE.off ho (hS 3 bd h.hd),h.hd,(hs 4 bt h.ht).trans h.lI,h.ht,
  λi b e s h1 h2 h3=>(h.loc i b e s h1 h2 h3).same (hs _) ho.size,h.eB,h.gX,bh.below h.br ho h.br.size hB⟩
theorem bT.below(h:bT H w0 w c kb bc bd rb bt lv bs K)(hb:Below w.heap.size w w'):bT H w0 w' c kb bc bd rb bt lv bs K:=
 h.off (bh.ig hb (λ_=>False)) (λ_ _ _ e=>e) (λ_ e=>e.elim)
theorem bT.IX(h:bT H w0 w c kb bc bd rb bt lv bs K)(ho:bh (H 3) w w'){d:cS}(hd:cP w' bd d):bT (dV H 3 w w') w0 w' c kb bc bd rb bt lv bs { K with d:=d }:=
 ⟨h.wu ho,(h.eJ.keep (show 0≠3 by decide) ho kb h.hk).trans h.row,a_ h.hk,bU.same h.own (λg hg=>h.eJ.keep (show 1≠3 by decide) ho g (h.hl g hg)),λk hk=>a_ (h.hl k hk),
  h.IW ho (by decide),hd,a_ h.hd,(h.eJ.keep (show 4≠3 by decide) ho bt h.ht).trans h.lI,a_ h.ht,
  λi b e s h1 h2 h3=>h.ET ho (h.loc i b e s h1 h2 h3) (by omega),h.eB,h.gX,h.ES ho⟩
theorem bT.aa_(h:bT H w0 w c kb bc bd rb bt lv bs K)(ho:bh (H 4) w w'){t:cD}(ht:w'.heap[bt]?=J (au (qy t) 180 (0,0))):bT (dV H 4 w w') w0 w' c kb bc bd rb bt lv bs { K with t:=t }:=
 ⟨h.wu ho,(h.eJ.keep (show 0≠4 by decide) ho kb h.hk).trans h.row,a_ h.hk,bU.same h.own (λg hg=>h.eJ.keep (show 1≠4 by decide) ho g (h.hl g hg)),λk hk=>a_ (h.hl k hk),
  h.IW ho (by decide),h.kE.off ho (h.eJ.not (show 3≠4 by decide) h.hd),a_ h.hd,ht,a_ h.ht,
  λi b e s h1 h2 h3=>h.ET ho (h.loc i b e s h1 h2 h3) (by omega),h.eB,h.gX,h.ES ho⟩
theorem bT.toRing(h:bT H w0 w c kb bc bd rb bt lv bs K)(ho:bh (H 2) w w'){s:aM}{L:List Rec}{sp:Bool}(hr:jd (gr (H 2) w w') w0.heap.size w' rb bc s L sp):bT (dV H 2 w w') w0 w' c kb bc bd rb bt lv bs { K with c:=s,L:=L,sp:=sp }:=
 ⟨h.wu ho,(h.eJ.keep (show 0≠2 by decide) ho kb h.hk).trans h.row,a_ h.hk,bU.same h.own (λg hg=>h.eJ.keep (show 1≠2 by decide) ho g (h.hl g hg)),λk hk=>a_ (h.hl k hk),
  hr.grow (λk hk=>hk.imp id (λa=>⟨rfl,a⟩)) (λk hk=>(h.wu ho).lt 2 k hk),h.kE.off ho (h.eJ.not (show 3≠2 by decide) h.hd),a_ h.hd,(h.eJ.keep (show 4≠2 by decide) ho bt h.ht).trans h.lI,a_ h.ht,
  λi b e s h1 h2 h3=>h.ET ho (h.loc i b e s h1 h2 h3) (by omega),h.eB,h.gX,h.ES ho⟩
theorem bT.Cp(h:bT H w0 w c kb bc bd rb bt lv bs K){i b:Nat}{e:aF}{s:bB}(ho:bh (H (5+i)) w w')(hb:bs[i]?=J b)(he:c.aw[i]?=J e)(hl:dY (gr (H (5+i)) w w') w' b e s):bT (dV H (5+i) w w') w0 w' c kb bc bd rb bt lv bs (K.fN i s):=
 ⟨h.wu ho,(h.eJ.keep (show 0≠5+i by omega) ho kb h.hk).trans h.row,a_ h.hk,bU.same h.own (λg hg=>h.eJ.keep (show 1≠5+i by omega) ho g (h.hl g hg)),λk hk=>a_ (h.hl k hk),
  h.IW ho (by omega),h.kE.off ho (h.eJ.not (show 3≠5+i by omega) h.hd),a_ h.hd,(h.eJ.keep (show 4≠5+i by omega) ho bt h.ht).trans h.lI,a_ h.ht,
  λj b' e' s' h1 h2 h3=>by
   by_cases hj:j=i
   ·subst hj;rw[hb]at h1;rw[he]at h2
    cases h1;cases h2
    have:s'=s:=by
     have h4:(K.ls.set j s)[j]?=J s':=h3;rw[List.getElem?_set_self (by rw[h.gX];exact(dT.1 he).1)]at h4;exact(bj h4).symm
    subst this;exact hl.grow (λk hk=>hk.imp id (λh5=>⟨rfl,h5⟩)) (λk hk=>(h.wu ho).lt _ k hk)
   have h4:(K.ls.set i s)[j]?=J s':=h3;rw[List.getElem?_set_ne (λe=>hj e.symm)]at h4;exact h.ET ho (h.loc j b' e' s' h1 h2 h4) (by omega),h.eB,by show (K.ls.set i s).length=_;rw[ze];exact h.gX,h.ES ho⟩
theorem bT.cell(h:bT H w0 w c kb bc bd rb bt lv bs K)(j:Nat)(u:ar)(hu:(wm c bd bc (aj (J ⟨rb,0,I⟩)) lv (aj (J ⟨bt,0,I⟩)))[j]?=J u):w.cell? ⟨kb,j,I⟩=J u:=by
 simp[World.cell?,h.row,hu]
theorem bT.to(h:bT H w0 w c kb bc bd rb bt lv bs K):mH w0 w bt K.t:=⟨h.lI,h.br,h.eJ.lo 4 bt h.ht⟩
theorem bT.zT(h:bT H w0 w c kb bc bd rb bt lv bs K){i:Nat}{s:bB}(hs:K.ls[i]?=J s):∃(b:Nat) (e:aF) (g cap:Nat),bs[i]?=J b/\c.aw[i]?=J e/\lv=af (J ⟨g,0,I⟩) K.ls.length cap/\w.cell? ⟨g,i,I⟩=J (aj (J ⟨b,0,I⟩))/\dY (H (5+i)) w b e s:=by
 have hi:=(dT.1 hs).1;obtain⟨b,hb⟩:∃b,bs[i]?=J b:=⟨_,bH (by rw[h.eB,<- h.gX];exact hi)⟩;obtain⟨e,he⟩:∃e,c.aw[i]?=J e:=⟨_,bH (by rw[<- h.gX];exact hi)⟩;have h1:=h.loc i b e s hb he hs;have hl:bs.length=K.ls.length:=by rw[h.eB,h.gX]
 obtain⟨-,hn|⟨g,cap,cur,h3,-,h4,h5,h6,h7,h8⟩⟩:=h.own
 ·exact absurd hn.2 (by omega)
 rw[hl]at h3
 refine⟨b,e,g,cap,hb,he,h3,?_,h1⟩;have:=Ei (enc:=ue) (k:=1) (λ_=>rfl) bs i 0 b _ hb rfl;simp only[tN,oH]at this;rw[<- h8,oG,aR (by omega)]at this;simp only[World.cell?,h4];simpa using this
end
def eV(F:Nat->Prop)(w0 w:ai)(c:aS)(kb bc:Nat)(K:aH):Prop:=
 ∃H bd rb bt lv bs,bT H w0 w c kb bc bd rb bt lv bs K/\∀i k,H i k->F k
def di(F:Nat->Prop)(w0 w:ai)(c:aS)(kb bc:Nat)(K:aH)(w':ai):Prop:=eV (gr F w w') w0 w' c kb bc K/\bh F w w'
section
variable {H:Nat->Nat->Prop}{F:Nat->Prop}{w0 w w' V:ai}{c:aS}{kb bc bd rb bt:Nat}{lv:ar}{bs:List Nat}{K K1:aH}
theorem di.same(h:eV F w0 w c kb bc K):di F w0 w c kb bc K w:=by
 obtain⟨H,bd,rb,bt,lv,bs,h1,h2⟩:=h;exact⟨⟨H,bd,rb,bt,lv,bs,h1,λi k hk=>a_ (h2 i k hk)⟩,bh.refl _ _⟩
theorem bT.post{i IY aa' aba:Nat}{abb:ar}{abc:List Nat}{K':aH}(hF:∀i k,H i k->F k)(ho:bh (H i) w w')(h:bT (dV H i w w') w0 w' c kb bc IY aa' aba abb abc K'):di F w0 w c kb bc K' w':=
 ⟨⟨_,_,_,_,_,_,h,B9 hF i⟩,bh.all hF ho⟩
theorem di.trans(h1:di F w0 w c kb bc K1 V)(h2:di (gr F w V) w0 V c kb bc K w'):di F w0 w c kb bc K w':=by
 obtain⟨⟨H,bd,rb,bt,lv,bs,h3,h4⟩,h5⟩:=h2;exact⟨⟨H,bd,rb,bt,lv,bs,h3,λi k hk=>Zk h1.2.size h5.size (h4 i k hk)⟩,h1.2.gr h5⟩
theorem di.below(h:di F w0 w c kb bc K w')(hb:Below w'.heap.size w' V):di F w0 w c kb bc K V:=by
 obtain⟨⟨H,bd,rb,bt,lv,bs,h3,h4⟩,h5⟩:=h;exact⟨⟨H,bd,rb,bt,lv,bs,h3.below hb,λi k hk=>(h4 i k hk).imp id (λ⟨a,b⟩=>⟨a,eh b hb.size⟩)⟩,h5.trans (bh.ig hb F) (λ_ _ h=>h)⟩
theorem di.from(h:di F w0 V c kb bc K w')(hb:Below w.heap.size w V):di F w0 w c kb bc K w':=by
 obtain⟨⟨H,bd,rb,bt,lv,bs,h1,h2⟩,h3⟩:=h;exact⟨⟨H,bd,rb,bt,lv,bs,h1,λi k hk=>(h2 i k hk).imp id (λ⟨a,b⟩=>⟨bw hb.size a,b⟩)⟩,(bh.ig hb F).trans h3 (λ_ _ h=>h)⟩
theorem eV.br(h:eV F w0 w c kb bc K):Below w0.heap.size w0 w:=by obtain⟨H,bd,rb,bt,lv,bs,h1,-⟩:=h;exact h1.br
theorem eV.below(h:eV F w0 w c kb bc K)(hb:Below w.heap.size w w'):eV F w0 w' c kb bc K:=by
 obtain⟨H,bd,rb,bt,lv,bs,h1,h2⟩:=h;exact⟨H,bd,rb,bt,lv,bs,h1.below hb,h2⟩
theorem eV.off{S:Nat->Prop}(h:eV F w0 w c kb bc K)(ho:bh S w w')(hS:∀k,F k->¬S k)(hB:∀k,S k->w0.heap.size<=k):eV F w0 w' c kb bc K:=by
 obtain⟨H,bd,rb,bt,lv,bs,h1,h2⟩:=h;exact⟨H,bd,rb,bt,lv,bs,h1.off ho (λi k hk=>hS k (h2 i k hk)) hB,h2⟩
end
def fV(H:Nat->Nat->Prop)(w0 w:ai)(c:aS)(kb bc bd rb bt:Nat)(lv:ar)(bs:List Nat)(K:aH)(w':ai):Prop:=
 ∃H',bT H' w0 w' c kb bc bd rb bt lv bs K/\(∀i k,H' i k->gr (λk=>∃i,H i k) w w' k)/\bh (λk=>∃i,H i k) w w'
section
variable {H H1:Nat->Nat->Prop}{F:Nat->Prop}{w0 w w' V:ai}{c:aS}{kb bc bd rb bt:Nat}{lv:ar}{bs:List Nat}{K K1:aH}
theorem fV.same(h:bT H w0 w c kb bc bd rb bt lv bs K):fV H w0 w c kb bc bd rb bt lv bs K w:=⟨H,h,λi _ hk=>a_ ⟨i,hk⟩,bh.refl _ _⟩
theorem fV.one{i:Nat}(ho:bh (H i) w w')(h:bT (dV H i w w') w0 w' c kb bc bd rb bt lv bs K):fV H w0 w c kb bc bd rb bt lv bs K w':=⟨_,h,B9 (λi _ hk=>⟨i,hk⟩) i,bh.all (λi _ hk=>⟨i,hk⟩) ho⟩
theorem fV.trans(hg:∀i k,H1 i k->gr (λk=>∃i,H i k) w V k)(ho:bh (λk=>∃i,H i k) w V)(h:fV H1 w0 V c kb bc bd rb bt lv bs K w'):fV H w0 w c kb bc bd rb bt lv bs K w':=by
 obtain⟨H2,h1,h2,h3⟩:=h
 refine⟨H2,h1,λi k hk=>?_,ho.trans h3 (λk hk ⟨i,hi⟩=>?_)⟩
 ·rcases h2 i k hk with⟨j,hj⟩|⟨a,b⟩
  ·exact(hg j k hj).imp id (λ⟨a,b⟩=>⟨a,eh b h3.size⟩)
  exact aP ⟨bw ho.size a,b⟩
 rcases hg i k hi with a|⟨a,_⟩
 ·exact a
 omega
theorem fV.post(h:fV H w0 w c kb bc bd rb bt lv bs K w')(hF:∀i k,H i k->F k):di F w0 w c kb bc K w':=by
 obtain⟨H2,h1,h2,h3⟩:=h;exact⟨⟨H2,_,_,_,_,_,h1,λi k hk=>(h2 i k hk).imp (λ⟨j,hj⟩=>hF j k hj) id⟩,h3.mono (λk _ ⟨j,hj⟩=>hF j k hj)⟩
end
def wz(w:ai):Prop:=∃ev,w.cell? ⟨19,0,I⟩=J ev/\(ev=.nilIface\/∃te pe,ev=.iface te pe)
theorem wz.below{w w':ai}(h:wz w)(hb:Below w.heap.size w w'):wz w':=by
 obtain⟨ev,h1,h2⟩:=h;exact⟨ev,aG hb h1,h2⟩
theorem IZ(a:az):a.add 0=a:=by obtain⟨b,o,s⟩:=a;unfold Addr.add;split<;>simp_all
theorem abd(s:ByteArray)(d:Int)(w:ai)(hT:iK w)(hS:wz w)(hG:(max 12 13+1)<=w.heap.size)(hd:d<=18):Calls prog 122 #[aq s,U R d] w λe w'=>e=ax (bn #[U R ((iH (bl s) d).getD 0),aI (iH (bl s) d).isSome])/\Below w.heap.size w w':=by
 have hlen:((bl s).length:Int)=(s.size:Int):=by rw[show (bl s).length=s.size from by simp[bl]]
 by_cases h1:d<(s.size:Int)
 ·have HE:aa (iH (bl s) d=I):=by show _=_;unfold iH;rw[aR (by omega)]
  clear hlen;go_enter func122,ntmps122
  go_wp2_with fail
  go_ret2
  rw[HE.o];exact⟨rfl,aC _ _⟩
 have hs:s.size<=18:=by omega
 cases hat:Lib.atoi s.data.toList with
 |none=>
  have HE:aa (iH (bl s) d=I):=by show _=_;unfold iH;rw[aK (by omega),show bl s=s.data.toList from rfl,hat]
  obtain⟨ev,hv,sG⟩:=hS;have HX:aa _:=strconv_Atoi_err s hs hat ev w hv sG;clear hlen hat hv sG hT;go_enter func122,ntmps122
  go_wp2_with fail
  refine aL HX.o ?_;rintro e w1 ⟨N,rfl,-,-,hb⟩;go_wp2_with fail
  go_ret2
  rw[HE.o];exact⟨rfl,hb⟩
 |some n=>
  have ai4:=Lib.atoi_bound hat (by rw[show s.data.toList.length=s.size from by simp];exact hs);have HX:aa (Calls prog 174 #[aq s] w λe w'=>e=ax (bn #[U R n,.nilIface])/\Below w.heap.size w w'):=by
   refine aL (strconv_Atoi s n hs hat w) ?_;rintro e w' ⟨rfl,t,rfl⟩;exact⟨rfl,Lib.bytesWorld_below _ _ _⟩
  by_cases hn:n<0
  ·have HE:aa (iH (bl s) d=I):=by show _=_;unfold iH;rw[aK (by omega),show bl s=s.data.toList from rfl,hat];exact aR (a_ hn)
   clear hlen hat hS hT;go_enter func122,ntmps122
   go_wp2_with fail
   refine aL HX.o ?_;rintro e w1 ⟨rfl,hb⟩;go_wp2_with fail
   go_ret2
   rw[HE.o];exact⟨rfl,hb⟩
  have HI:aa (∀W,Below w.heap.size w W->Calls prog 36 #[U R n] W λe w'=>e=ax (aq ⟨(num n).toArray⟩)/\Below W.heap.size W w'):=λW hW=>by
   refine aL (strconv_Itoa n (by omega) (by omega) W (hT.below hW hG)) ?_;rintro e w' ⟨rfl,k,os,rfl⟩
   refine⟨?_,?_⟩
   ·unfold Lib.itoa num;rw[aK (by omega),GI]
   refine⟨rfl,rfl,rfl,(by show W.heap.size<=((W.drewN k).heap++os).size;rw[Array.size_append];exact Nat.le_add_right _ _),λi hi=>?_⟩;show ((W.drewN k).heap++os)[i]?=_
   rw[Array.getElem?_append_left (by show i<W.heap.size;omega)];rfl
  obtain⟨y,hy⟩:∃y:ByteArray,y=⟨(num n).toArray⟩:=⟨_,rfl⟩;rw[<- hy]at HI;have wA:bl y=num n:=by rw[hy];simp[bl]
  by_cases he:y=s
  ·have HE:aa (iH (bl s) d=J n):=by show _=_;unfold iH;rw[aK (by omega),show bl s=s.data.toList from rfl,hat];exact aK (λh=>h.elim (λh=>hn h) (λh=>h (by rw[<- wA,he];rfl)))
   subst he;clear hlen hat hS hT hy wA;go_enter func122,ntmps122
   go_wp2_with fail
   refine aL HX.o ?_;rintro e w1 ⟨rfl,hb⟩;have zU:aa _:=HI.o w1 hb;have HB:aa _:=hb;clear hb HI;go_wp2_with fail
   refine aL zU.o ?_;rintro e w2 ⟨rfl,hb2⟩;go_wp2_with fail
   go_ret2
   rw[HE.o];exact⟨rfl,HB.o.trans (hb2.mono HB.o.size)⟩
  have HE:aa (iH (bl s) d=I):=by show _=_;unfold iH;rw[aK (by omega),show bl s=s.data.toList from rfl,hat];exact aR (aP (λh=>he (lC (wA.trans h))))
  have hne:=(Lib.bytes_beq_false_iff y s).2 he;clear hlen hat hS hT hy wA he;go_enter func122,ntmps122
  go_wp2_with fail
  refine aL HX.o ?_;rintro e w1 ⟨rfl,hb⟩;have zU:aa _:=HI.o w1 hb;have HB:aa _:=hb;clear hb HI;go_wp2_with fail
  refine aL zU.o ?_;rintro e w2 ⟨rfl,hb2⟩;go_wp2_with fail
  go_ret2
  rw[HE.o];exact⟨rfl,HB.o.trans (hb2.mono HB.o.size)⟩
theorem I0:∀(d1:List Int) (w1:List Bs) (d2:List Int) (w2:List Bs),d1.length=w1.length->dt (d1++d2) (w1++w2)=(dt d1 w1).bind λa=>(dt d2 w2).map λb=>a++b
 |[],[],d2,w2,_=>by show dt d2 w2=(dt d2 w2).map _;cases dt d2 w2<;>rfl
 |[],_::_,_,_,h=>by cases h
 |_::_,[],_,_,h=>by cases h
 |d::d1,w::w1,d2,w2,h=>by
  have ih:=I0 d1 w1 d2 w2 (by simpa using h);rw[px,px,dt,dt]
  cases iH w d with
  |none=>rfl
  |some n=>
   simp only[ih]
   cases dt d1 w1 with
   |none=>rfl
   |some a=>cases dt d2 w2<;>rfl
theorem Pw:∀(ds:List Int) (ws:List Bs),ds.length≠ws.length->dt ds ws=I
 |[],[],h=>absurd rfl h
 |[],_::_,_=>rfl
 |_::_,[],_=>rfl
 |d::ds,w::ws,h=>by
  rw[dt,Pw ds ws (λe=>h (by simp[e]))]
  cases iH w d<;>rfl
theorem abe{ds:List Int}{ws:List Bs}{k:Nat}{d:Int}{w:Bs}{ns:List Int}(hl:ds.length=ws.length)(hd:ds[k]?=J d)(hw:ws[k]?=J w)(h:dt (ds.take k) (ws.take k)=J ns):(iH w d=I->dt ds ws=I)/\∀n,iH w d=J n->dt (ds.take (k+1)) (ws.take (k+1))=J (ns++[n]):=by
 have h1:(ds.take k).length=(ws.take k).length:=by simp[hl]
 have e:dt (ds.take (k+1)) (ws.take (k+1))=(iH w d).map λn=>ns++[n]:=by
  rw[fW,fW,hd,hw,I0 _ _ _ _ h1,h];show ((dt [d] [w]).map _)=_
  rw[dt]
  cases iH w d<;>rfl
 refine⟨λhn=>?_,λn hn=>by rw[e,hn];rfl⟩;rw[hn]at e;have h2:(ds.take (k+1)).length=(ws.take (k+1)).length:=by simp[hl]
 have:=I0 _ _ (ds.drop (k+1)) (ws.drop (k+1)) h2;rw[qq,qq,e]at this;exact this
theorem abf:(prog.info? 3).map (λi=>(i.zero,i.size,i.bytes))=J (J (U R 0),1,8):=by kernel_rfl
def Px(A:Nat->az)(ds:List Int)(ws:List ByteArray)(w:ai)(e:Ending)(w':ai):Prop:=
 ∃nv ev,e=ax (bn #[nv,ev])/\Below w.heap.size w w'/\(dt ds (ws.map bl)=I->ev=errVal A 1)/\∀ns,dt ds (ws.map bl)=J ns->ev=.nilIface/\bN bm 1 w' nv ns/\∀g,nv.ownBlock=J g->w.heap.size<=g
theorem abg(A:Nat->az)(ds:List Int)(ws:List ByteArray)(wa:Option az)(wc:Nat)(da:Option az)(dc:Nat)(w:ai)(hT:iK w)(hS:wz w)(hG:(max 12 13+1)<=w.heap.size)(hE:w.cell? ⟨1,0,I⟩=J (.iface 352 (aj (J (A 0)))))
  (hd:∀d∈ds,d<=18) (fq:bN bS 1 w (af wa ws.length wc) ws) (I1:bN bm 1 w (af da ds.length dc) ds) (hn:ds.length<=10):Calls prog 88 #[af wa ws.length wc,af da ds.length dc] w λe w'=>Px A ds ws w e w':=by
 by_cases hl:ds.length=ws.length
 ·obtain⟨i0,oZ,hz0,hz1,hz2⟩:=fj abf;obtain⟨W1,Cq,hown1,hg1⟩:=run_make_own (P:=prog) w _ 65 3 i0 _ 1 underlying65 oZ hz0 hz1 R R ws.length (by rw[hz2];omega) (by unfold maxLen;omega) (aQ _);have hb1:Below _ w W1:=⟨hg1.os,hg1.tape,hg1.output,hg1.size,λk hk=>hg1.block k hk (by simp)⟩;have aO:aa _:=hb1;have oX:aa (W1.ownsRow _ 3 1 _ 0 (([]:List Int).flatMap bm)):=hown1;have o0:aa (∀V,Below _ w V->iK V/\wz V/\V.cell? _=J _/\bN _ 1 V _ ws/\bN _ 1 V _ ds/\(max 12 13+1)<=V.heap.size):=λV hV=>⟨hT.below hV hG,hS.below hV,aG hV hE,fq.below hV,I1.below hV,bw hG hV.size⟩
  have HD:aa _:=hd;have k0:((ws.length:Int) != (ds.length:Int))=false:=by simp[hl]
  have Py:ws.length<=10:=by omega
  have fe:aa _:=hl;have hmap:Option.map (λx:az=>x.add 0) wa=wa:=by cases wa with|none=>rfl|some a=>simp[IZ]
  clear hT hS hG hE fq I1 hn hl hd hown1 hg1 hb1;go_enter func88,ntmps88
  go_upto_region 4 with fail
  go_cut [20,21,22] (λl' n i wx=>l'=af wa ws.length wc/\n=U R (ws.length:Int)/\i=U R 0/\wx=W1)
  case first=>
   go_wp2_with fail
   go_meet
   case rel=>exact⟨rfl,rfl,rfl,rfl⟩
  obtain⟨rfl,rfl,rfl,rfl⟩:=hcut;clear Cq hmap;rename ai=>W1
  go_wp2_with fail
  go_loopw [6,7,8,9,10,22] (λav _ _ _ _ i wr=>∃(n:Nat) (ns:List Int) (ka:Option az) (kc:Nat),n<=ws.length/\i=U R n/\av=af ka n kc/\aa (dt (ds.take n) ((ws.map bl).take n)=J ns)/\aa (ns.length=n)/\aa (wr.ownsRow w.heap.size 3 1 av n (ns.flatMap bm))/\aa (Below w.heap.size w wr)) (λ_ _ _ _ _ i _=>ws.length-(intOf i).toNat)
  case atStart=>exact⟨0,[],_,_,bI _,rfl,rfl,rfl,rfl,oX.o,aO.o⟩
  case round=>
   clear oX aO;obtain⟨n,ns,ka,kc,yY,rfl,rfl,HN,Pz,HO,HB⟩:=hrel
   by_cases hlt:n<ws.length
   ·have k1:(n:Int)<(ws.length:Int):=by omega
    obtain⟨x,hx⟩:∃x,ws[n]?=J x:=⟨_,bH hlt⟩;obtain⟨d,hd⟩:∃d,ds[n]?=J d:=⟨_,bH (by have:=fe.o;omega)⟩;obtain⟨s1,s2,s3,s4,s5,s6⟩:=o0.o wr HB.o;obtain⟨g,o,rfl,hc⟩:=sK s4 hx;have c0:=hc n x hx;have I2:n<ds.length:=by have:=fe.o;omega
    obtain⟨g2,o2,rfl,hc2⟩:=BW s5 hd;have c1:=hc2 n d hd;have k2:(n:Int)<(ds.length:Int):=by omega
    have HX:aa _:=abd x d wr s1 s2 s6 (HD.o d (cM hd));have EU:aa ((iH _ d=I->dt ds _=I)/\∀n',iH (bl x) d=J n'->dt _ _=J _):=abe (by simp[fe.o]) hd (by simp[hx]) HN.o;clear hc hc2 hx hd s1 s2 s3 s4 s5 s6 I2;go_wp2_with fail
    refine aL HX.o ?_;rintro e w3 ⟨rfl,hb3⟩;have fG:aa _:=HB.o.trans (hb3.mono HB.o.size);have gY:aa (w3.ownsRow _ 3 1 _ n _):=BR.below HO.o hb3;clear HX hb3 HO c0 c1
    cases hv:iH (bl x) d with
    |none=>
     have gj:aa _:=EU.o.1 hv;have s3:=(o0.o w3 fG.o).2.2.1;rw[show (I:Option Int).getD 0=0 from rfl,show (I:Option Int).isSome=false from rfl];clear EU hv;go_wp2_with fail
     go_region
     all_goals go_wp2
     all_goals go_ret2
     all_goals exact⟨_,_,rfl,cg fG.o 1,λ_=>rfl,λns h=>by rw[gj.o]at h;cases h⟩
    |some y=>
     have gj:aa _:=EU.o.2 y hv;rw[show (J y).getD 0=y from rfl,show (J y).isSome=true from rfl];have hz3:=fG.o.size;clear EU hv;go_wp2_with (at_builtin;refine zI _ rfl _ _ 65 rfl _ 3 i0 _ 1 8 underlying65 oZ hz0 hz1 hz2 rfl (by decide) (af ka n kc) n _ rfl (zH gY.o _) _ 1 1 _ rfl rfl (sB w3 _ 3) (λu hu=>by rw[iF]at hu;subst hu;rfl) (by decide) (by unfold maxLen;omega) (by omega) (by simp;omega) (w3.heap.size+1) (by simp) ?_;intro gg cc xO hown hg cH ru)
     have qx:aa (xO.ownsRow w.heap.size 3 1 (af (J ⟨gg,0,I⟩) (n+1) cc) (n+1) ((ns++[y]).flatMap bm)):=by
      have e:(ns++[y]).flatMap bm=ns.flatMap bm++[U R y]:=by rw[dP];rfl
      show World.ownsRow _ _ _ _ _ _ _
      rw[e];exact hown
     have kR:aa _:=(fG.o.alloc hz3 _).grown hg (bw hz3 (by simp)) (λk hk=>(gY.o.lt k hk).1);clear hown hg cH ru gY;go_roundw
     case rel=>exact⟨_,_,_,_,by omega,by go_num,rfl,gj.o,by show _=_;rw[dm,Pz.o];rfl,qx.o,kR.o⟩
     case measure=>simp[intOf];omega
   obtain rfl:n=ws.length:=by omega
   have k1:¬(ws.length:Int)<(ws.length:Int):=by omega
   have HF:aa (dt ds (ws.map bl)=J ns):=by
    have h5:=HN.o;rw[<- fe.o,l4,fe.o,show ws.length=(ws.map bl).length by simp,l4]at h5;exact h5
   clear HN;go_wp2;go_ret2
   refine⟨_,_,rfl,HB.o,λh=>(by rw[HF.o]at h;cases h),λai5 h=>⟨rfl,?_⟩⟩;rw[HF.o]at h
   cases h
   exact⟨bU.jc (B:=w.heap.size) (T:=3) (by show World.ownsRow _ _ _ _ _ _ _;rw[Pz.o];exact HO.o) (λ_=>rfl),λg hg=>(HO.o.lt g hg).1⟩
 have gj:aa (dt ds (ws.map bl)=I):=Pw _ _ (by simpa using hl);have k0:((ws.length:Int) != (ds.length:Int))=true:=by rw[bne_iff_ne];omega
 clear hl hT hS hG hd fq I1;go_enter func88,ntmps88
 go_wp2_with fail
 go_region
 all_goals go_wp2
 all_goals go_ret2
 all_goals exact⟨_,_,rfl,cg (aC _ _) 1,λ_=>rfl,λns h=>by rw[gj.o]at h;cases h⟩
end Go.Proofs.YtgmfhkjghmdgiaaGreatDoor
