/-
  Several texts as one: KmOpR, KmCan, KmOpn, KmBoot, KmCut, DcText, ScAnA, ScAnB, ScAnC, ScAnD, PrNew, CfHeavy, ScPlW.
-/
import Derived.Test.YtgjlihibabmgcaaGreatDoorP10S
import Derived.Deep.DrawnRows
import Derived.Deep.OwnRows
set_option linter.all false
set_option maxHeartbeats 40000000
set_option maxRecDepth 100000
abbrev nP:=@Go.ByteArray.size_mk'
open Go renaming Addr→aC,Value→aw,World→ak
open Go.Addr renaming mk→ai
open Go.Ending renaming returned→ax
open Go.IntKind renaming i64→af
open Go.Obj renaming cells→ay
open Go.RowKit renaming Hid→U
open Go.Value renaming agg→bK,bool→aL,int→ae,ownBlock→dF,pointer→aq,slice→aj,string→aA,tuple→bn
open Go.World renaming cell?→aH,frozen?→bM
open Option renaming none→I,some→J
open Go.Proofs.Tryz
namespace Go.Proofs.YtgjlihibabmgcaaGreatDoor
open Go.Extern Go.Extern.Stop Go.RowKit Go.Stop
variable{B cap i k n sc:Nat}{V w w0 w4:ak}{args:Array aw}{c:aX}{ev v:aw}{f:FuncId}{sa:Option aC}{x:Int}
def alP{a:Act}{o:Oper}{s x:Operand}{t ty:TypeId}{vs vx v':aw}{V V':ak}(ho:o.op=.call { callee:=.builtin .append,args:=#[s,x],argTypes:=#[t,t] })(vC:o.type=ty)(hs:a.eval s=vs)(hx:a.eval x=vx)
  (hr:(Builtin.append_ #[t,t] ty #[vs,vx]).run prog V=.ok v' V'):(execOp a.eval o).run prog V=.ok (.value v') V':=by
 subst vC hs hx;simp[execOp,ho,resolve,invoke,builtin,hr]
def alQ(kb b n N:Nat)(la:Option aC)(lc eb eo ec:Nat)(e:aM)(E:EA):Nat->aw
 |0=>aq (J (ai kb 0 I))
 |1=>aq (J (ai kb 0 I))
 |2=>aq (J (ai kb 0 I))
 |3=>aq (J (ai kb 8 I))
 |4=>aj la n lc
 |5=>aq (J (ai kb 0 I))
 |6=>aq (J (ai kb 0 I))
 |7=>aq (J (ai kb 0 I))
 |8=>aq (J (ai kb 4 I))
 |9=>aj (J (ai eb eo I)) N ec
 |10=>ae af (n:Int)
 |11=>aq (J ⟨eb,eo+n*10,I⟩)
 |12=>.agg (eR e E.pa E.pc E.ga E.gc E.ea E.ec E.fa E.fc E.la E.lc)
 |13=>bK #[aA e.name,ae af e.bh,aj E.pa e.au.length E.pc,ae af e.cnt,ae af e.mn,ae af e.mx,aj E.ga e.aV.length E.gc,aj E.ea e.aP.length E.ec,aj E.fa e.first.length E.fc,aj E.la e.last.length E.lc,aL false,ae af 0,aj I 0 0,ae af 0,aL false]
 |14=>aq (J (ai b 0 I))
 |15=>aj (J ⟨b+1,0,I⟩) 1 1
 |17=>aq (J (ai kb 0 I))
 |18=>aq (J (ai kb 8 I))
 |_=>undef
structure jW(V0 A1 A2:ak)(kb n:Nat)(K:Nat->aw)(Q:Nat->Nat->ak->Prop)(vals:Nat->Option aw)(V:ak):Prop where
 cs:∀j,j<20->j≠16->j≠19->∀v,vals j=J v->v=K j
 st:(vals 14=I/\vals 15=I/\vals 16=I/\vals 19=I/\V=V0)\/(vals 14≠I/\vals 15=I/\vals 16=I/\vals 19=I/\V=A1)\/(vals 14≠I/\vals 15≠I/\vals 16=I/\vals 19=I/\V=A2) \/
  (vals 14≠I/\vals 15≠I/\∃g cap V3,vals 16=J (aj (J (ai g 0 I)) (n+1) cap)/\Q g cap V3/\((vals 19=I/\V=V3)\/(vals 19≠I/\V=V3.setCell (ai kb 8 I) (aj (J (ai g 0 I)) (n+1) cap))))
 cl:vals 19≠I->vals 4≠I/\vals 9≠I/\vals 12≠I
section
variable {V0 A1 A2 V V':ak}{kb n:Nat}{K:Nat->aw}{Q:Nat->Nat->ak->Prop}{vals:Nat->Option aw}{i:Nat}{u:aw}
def jW.start:jW V0 A1 A2 kb n K Q (λ_=>.none) V0:=⟨λ_ _ _ _ _ h=>(by cases h),aT ⟨rfl,rfl,rfl,rfl,rfl⟩,λh=>absurd rfl h⟩
def jW.good(h:jW V0 A1 A2 kb n K Q vals V)(hi:i=4\/i=9\/i=12)(hn:vals i=.none):V=V0\/V=A1\/V=A2\/∃g cap,Q g cap V:=by
 rcases h.st with⟨_,_,_,_,e⟩|⟨_,_,_,_,e⟩|⟨_,_,_,_,e⟩|⟨_,_,g,cap,V3,_,hq,⟨_,e⟩|⟨Ay,_⟩⟩
 ·exact aT e
 ·exact aN (aT e)
 ·exact aN (aN (aT e))
 ·exact aN (aN (aN ⟨g,cap,e▸hq⟩))
 obtain⟨a,b,c⟩:=h.cl Ay
 rcases hi with rfl|rfl|rfl
 ·exact absurd hn a
 ·exact absurd hn b
 exact absurd hn c
def jW.const(h:jW V0 A1 A2 kb n K Q vals V)(hi:i<14\/i=17\/i=18)(hu:u=K i):jW V0 A1 A2 kb n K Q (upd vals i u) V:=by
 have o:∀j,j=14\/j=15\/j=16\/j=19->upd _ i u j=vals j:=λj hj=>dU _ u (by omega)
 refine⟨λj h1 h2 h3 v hv=>?_,?_,λAy=>?_⟩
 ·by_cases e:j=i
  ·subst e;rw[jH]at hv;exact(fg hv).symm.trans hu
  exact h.cs j h1 h2 h3 v (by rwa [dU vals u e]at hv)
 ·rw[o 14 (by omega),o 15 (by omega),o 16 (by omega),o 19 (by omega)];exact h.st
 obtain⟨a,b,c⟩:=h.cl (by rwa [o 19 (by omega)]at Ay);exact⟨qj a,qj b,qj c⟩
def jW.mem(h:jW V0 A1 A2 kb n K Q vals V)(hi:i=14\/i=15\/i=16\/i=19)(hu:i=14\/i=15->u=K i)(hs:(upd vals i u 14=.none/\upd vals i u 15=.none/\upd vals i u 16=.none/\upd vals i u 19=.none/\V'=V0)\/(upd vals i u 14≠.none/\upd vals i u 15=.none/\upd vals i u 16=.none/\upd vals i u 19=.none/\V'=A1)\/(upd vals i u 14≠.none/\upd vals i u 15≠.none/\upd vals i u 16=.none/\upd vals i u 19=.none/\V'=A2) \/
  (upd vals i u 14≠.none/\upd vals i u 15≠.none/\∃g cap V3,upd vals i u 16=J (aj (J ⟨g,0,.none⟩) (n+1) cap)/\Q g cap V3/\((upd vals i u 19=.none/\V'=V3)\/(upd vals i u 19≠.none/\V'=V3.setCell ⟨kb,8,.none⟩ (aj (J ⟨g,0,.none⟩) (n+1) cap)))))
  (hc:i=19->vals 4≠.none/\vals 9≠.none/\vals 12≠.none):jW V0 A1 A2 kb n K Q (upd vals i u) V':=by
 refine⟨λj h1 h2 h3 v hv=>?_,hs,λAy=>?_⟩
 ·by_cases e:j=i
  ·subst e;rw[jH]at hv;exact(fg hv).symm.trans (hu (by omega))
  exact h.cs j h1 h2 h3 v (by rwa [dU vals u e]at hv)
 by_cases e:i=19
 ·obtain⟨a,b,c⟩:=hc e;exact⟨qj a,qj b,qj c⟩
 obtain⟨a,b,c⟩:=h.cl (by rwa [dU vals u (λe2=>e e2.symm)]at Ay);exact⟨qj a,qj b,qj c⟩
def jW.box(h:jW V0 A1 A2 kb n K Q vals V)(hn:vals 14=.none)(hu:u=K 14):V=V0/\jW V0 A1 A2 kb n K Q (upd vals 14 u) A1:=by
 rcases h.st with⟨_,b,c,d,e⟩|⟨a,_⟩|⟨a,_⟩|⟨a,_⟩
 ·refine⟨e,h.mem (aT rfl) (λ_=>hu) (aN (aT ⟨by rw[jH];simp,?_,?_,?_,rfl⟩)) (λe=>by cases e)⟩
  ·rw[dU _ u (ar rfl)];exact b
  ·rw[dU _ u (ar rfl)];exact c
  rw[dU _ u (ar rfl)];exact d
 ·exact absurd hn a
 ·exact absurd hn a
 exact absurd hn a
def jW.built(h:jW V0 A1 A2 kb n K Q vals V)(hn:vals 15=.none)(sF:vals 14≠.none)(hu:u=K 15):V=A1/\jW V0 A1 A2 kb n K Q (upd vals 15 u) A2:=by
 rcases h.st with⟨a,_⟩|⟨a,b,c,d,e⟩|⟨_,a,_⟩|⟨_,a,_⟩
 ·exact absurd a sF
 ·refine⟨e,h.mem (aN (aT rfl)) (λ_=>hu) (aN (aN (aT ⟨?_,by rw[jH];simp,?_,?_,rfl⟩))) (λe=>by cases e)⟩
  ·rw[dU _ u (ar rfl)];exact a
  ·rw[dU _ u (ar rfl)];exact c
  rw[dU _ u (ar rfl)];exact d
 ·exact absurd hn a
 exact absurd hn a
def jW.app(h:jW V0 A1 A2 kb n K Q vals V)(hn:vals 16=.none)(I':vals 15≠.none):V=A2/\∀g cap V3,Q g cap V3->jW V0 A1 A2 kb n K Q (upd vals 16 (aj (J ⟨g,0,.none⟩) (n+1) cap)) V3:=by
 rcases h.st with⟨_,a,_⟩|⟨_,a,_⟩|⟨a,b,c,d,e⟩|⟨_,_,_,_,_,a,_⟩
 ·exact absurd a I'
 ·exact absurd a I'
 ·refine⟨e,λg cap V3 hq=>h.mem (aN (aN (aT rfl))) (λe=>by omega) (aN (aN (aN ⟨?_,?_,g,cap,V3,jH _ _ _,hq,aT ⟨?_,rfl⟩⟩))) (λe=>by cases e)⟩
  ·rw[dU _ _ (ar rfl)];exact a
  ·rw[dU _ _ (ar rfl)];exact b
  rw[dU _ _ (ar rfl)];exact d
 rw[hn]at a;cases a
def jW.put(h:jW V0 A1 A2 kb n K Q vals V)(hn:vals 19=.none)(qi:vals 16≠.none)(hc:vals 4≠.none/\vals 9≠.none/\vals 12≠.none):∃g cap,vals 16=J (aj (J ⟨g,0,.none⟩) (n+1) cap)/\Q g cap V/\jW V0 A1 A2 kb n K Q (upd vals 19 undef) (V.setCell ⟨kb,8,.none⟩ (aj (J ⟨g,0,.none⟩) (n+1) cap)):=by
 rcases h.st with⟨_,_,a,_⟩|⟨_,_,a,_⟩|⟨_,_,a,_⟩|⟨a,b,g,cap,V3,d,hq,⟨_,rfl⟩|⟨e,_⟩⟩
 ·exact absurd a qi
 ·exact absurd a qi
 ·exact absurd a qi
 ·refine⟨g,cap,d,hq,h.mem (aN (aN (aN rfl))) (λe=>by omega) (aN (aN (aN ⟨?_,?_,g,cap,_,?_,hq,aN ⟨by rw[jH];simp,rfl⟩⟩))) (λ_=>hc)⟩
  ·rw[dU _ _ (ar rfl)];exact a
  ·rw[dU _ _ (ar rfl)];exact b
  rw[dU _ _ (ar rfl)];exact d
 exact absurd hn e
end
def wR(kb:Nat)(lv:aw)(bm rm:Nat)(v:aw)(bd bt:Nat)(bs:List Nat):Nat->Nat->Prop:=λn k=>
 if n=0 then k=kb else if n=1 then lv.ownBlock=J k else if n=2 then k=bm\/k=rm\/v.ownBlock=J k else if n=3 then k=bd else if n=4 then k=bt else bs[n-5]?=J k
structure AA(A B C:Nat)(kb:Nat)(lv:aw)(bm rm:Nat)(v:aw)(bd bt:Nat)(bs:List Nat):Prop where
 k1:kb<A/\bm<A/\bd<A
 k2:kb≠bm/\kb≠bd/\bm≠bd
 r1:A<=rm/\rm<B
 v1:∀k,v.ownBlock=J k->A<=k/\k<B
 l1:∀k,lv.ownBlock=J k->B<=k/\k<C
 b1:∀(j k:Nat),bs[j]?=J k->B<=k/\k<C
 lb:∀(j k:Nat),bs[j]?=J k->lv.ownBlock≠J k
 bb:∀(i j k:Nat),bs[i]?=J k->bs[j]?=J k->i=j
 t1:bt=C
section
variable {A B C kb bm rm bd bt:Nat}{lv v:aw}{bs:List Nat}
def AA.cases(h:AA A B C kb lv bm rm v bd bt bs)(hk:wR kb lv bm rm v bd bt bs n k):(n=0/\k=kb)\/(n=1/\lv.ownBlock=J k/\B<=k/\k<C)\/(n=2/\k=bm)\/(n=2/\A<=k/\k<B)\/(n=3/\k=bd)\/(n=4/\k=C)\/(5<=n/\bs[n-5]?=J k/\B<=k/\k<C):=by
 unfold wR at hk
 split at hk
 ·exact aT ⟨by assumption,hk⟩
 split at hk
 ·exact aN (aT ⟨by assumption,hk,h.l1 k hk⟩)
 split at hk
 ·rcases hk with hk|hk|hk
  ·exact aN (aN (aT ⟨by assumption,hk⟩))
  ·exact aN (aN (aN (aT ⟨by assumption,by rw[hk];exact h.r1⟩)))
  exact aN (aN (aN (aT ⟨by assumption,h.v1 k hk⟩)))
 split at hk
 ·exact aN (aN (aN (aN (aT ⟨by assumption,hk⟩))))
 split at hk
 ·exact aN (aN (aN (aN (aN (aT ⟨by assumption,hk.trans h.t1⟩)))))
 exact aN (aN (aN (aN (aN (aN ⟨by omega,hk,h.b1 _ k hk⟩)))))
def AA.bO(h:AA A B C kb lv bm rm v bd bt bs){D:Nat}(alR:A<=B)(alS:B<=C)(hD:D<=A/\D<=kb/\D<=bm/\D<=bd)(hw:C<w.heap.size):mq (wR kb lv bm rm v bd bt bs) D w:=by
 have a1:=h.k1;have a2:=h.k2
 refine⟨λi k hk=>?_,λi k hk=>?_,λi j k hk hj=>?_⟩
 ·rcases h.cases hk with x|x|x|x|x|x|x<;>omega
 ·rcases h.cases hk with x|x|x|x|x|x|x<;>omega
 rcases h.cases hk with x|x|x|x|x|x|x<;>rcases h.cases hj with y|y|y|y|y|y|y<;>first|omega|exact absurd y.2.1 (h.lb _ k x.2.1)|exact absurd x.2.1 (h.lb _ k y.2.1)|(have:=h.bb _ _ k x.2.1 y.2.1;omega)
def AA.new(h:AA A B C kb lv bm rm v bd bt bs)(alR:A<=B)(alS:B<=C):∀i k,wR kb lv bm rm v bd bt bs i k->k=kb\/k=bm\/k=bd\/A<=k:=λi k hk=>by
 rcases h.cases hk with x|x|x|x|x|x|x<;>omega
def alT(h:bs[i]?=J k):wR kb lv bm rm v bd bt bs (5+i) k:=by
 unfold wR;rw[aK (by omega),aK (by omega),aK (by omega),aK (by omega),aK (by omega),show 5+i-5=i by omega];exact h
end
section
variable {w0 w w':ak}{c:aX}{ev:aw}{kb bm bd:Nat}{rv lv tv:aw}{m:cr}{s:aI}{d:bR}
structure wS(w0 w:ak)(c:aX)(ev:aw)(kb bm bd:Nat)(rv lv tv:aw)(m:cr)(s:aI)(d:bR):Prop where
 row:w.heap[kb]?=J (ay (CH c ev bm bd rv lv tv) 82 (0,0))
 mod:cg w bm m
 m_:gy s m
 big:153<=s.size
 dog:eE w bd d
 lo:w0.heap.size<=kb/\w0.heap.size<=bm/\w0.heap.size<=bd
 az:eU w0 ev c.az
 aY:Below w0.heap.size w0 w
def wS.cell(h:wS w0 w c ev kb bm bd rv lv tv m s d)(j:Nat)(u:aw)(hu:(CH c ev bm bd rv lv tv)[j]?=J u):w.cell? (ai kb j I)=J u:=uO h.row hu
def wS.alU{w1 W1:ak}{L:List Rec}(h:wS w0 w c ev kb bm bd rv lv tv m s d)(hb:Below w.heap.size w w1)(CI:eC w1 B v L)(hB:w.heap.size<=B)
  (hW:W1=((w1.alloc (ay #[aq (J (ai bm 0 I)),v,aL false] 94)).setCell ⟨kb,7,I⟩ (aq (J (ai w1.heap.size 0 I)))).setCell ⟨kb,8,I⟩ (aj I 0 0)):wS w0 W1 c ev kb bm bd (aq (J (ai w1.heap.size 0 I))) (aj I 0 0) tv m s d/\gU W1 w0.heap.size w1.heap.size bm v L false/\aG (λk=>k=kb) w W1/\(∀k,v.ownBlock=J k->w.heap.size<=k)/\w1.heap.size<W1.heap.size:=by
 have ba:Below _ w (w1.alloc (ay #[aq (J (ai bm 0 I)),v,aL false] 94)):=hb.alloc hb.size _;have hrow:=a8 ba h.row;have hgo:(w1.alloc (ay #[aq (J (ai bm 0 I)),v,aL false] 94)).grownBy W1 (J kb):=by rw[hW];exact(bJ ..).trans (bJ ..)
 have bz:=aG.cG hgo;have Mi:=bL h.row;have AB:=hb.size;have hw0:=h.aY.size;have fj:=(aG.dm ba _).trans bz (λ_ _ e=>e);have alV:=(bz.block _ (by simp) (by omega)).trans (cj w1 _);have rF:=CI.lt
 refine⟨⟨?_,?_,h.m_,h.big,?_,h.lo,h.az,?_⟩,⟨alV,?_,⟨λe=>?_,λe=>?_⟩,by omega,?_⟩,fj,λk hk=>bp hB (rF k hk).1,?_⟩
 ·rw[hW];exact pF (pF hrow _) _
 ·exact h.mod.off fj (λe=>by have a:=h.mod.heap;rw[e,h.row]at a;simp at a)
 ·exact h.dog.off fj (λe=>by have a:=h.dog.heap;rw[e,h.row]at a;simp at a)
 ·exact aG.below h.aY fj hw0 (λk hk=>by rw[hk];exact h.lo.1)
 ·have h1:eC (w1.alloc (ay #[aq (J (ai bm 0 I)),v,aL false] 94)) B v L:=xw.below CI (aS _ _);have h2:eC W1 B v L:=zq h1 (λg hg=>bz.block g (by have:=(rF g hg).2;simp;omega) (λe=>by have:=(rF g hg).1;omega));exact h2.aj4.mono (by omega)
 ·have:=(rF _ e).2;omega
 ·have h1:=(rF _ e).1;have h2:=h.mod.lt;omega
 ·have:=h.mod.lt;omega
 have:=bz.size;simp at this;omega
def alW{w:ak}{B':Nat}{T:TypeId}{xs:List aw}(h:w.ownsRow B T k v n xs)(hb:B'<=B):w.ownsRow B' T k v n xs:=⟨h.1,h.2.imp id λ⟨g,cap,cur,h1,h2,h3⟩=>⟨g,cap,cur,h1,bp hb h2,h3⟩⟩
def alX{wc wr W6:ak}{rm:Nat}{lx:aw}{bs:List Nat}(hh:wS w0 wc c ev kb bm bd (aq (J (ai rm 0 I))) (aj I 0 0) tv m s d)(Fy:gU wc w0.heap.size rm bm v (iy m.B.data.toList) false)(fj:aG (λk=>k=kb) w wc)(hv:∀k,v.ownBlock=J k->w.heap.size<=k)(Av:w.heap.size<=rm/\rm<wc.heap.size)(hlt:kb<w.heap.size/\bm<w.heap.size/\bd<w.heap.size)(hw0:w0.heap.size<=w.heap.size)
  (L:wQ w0 wc wr c ev kb bm bd (aq (J (ai rm 0 I))) tv lx bs) (hbl:bs.length=c.az.length) (tS:0<=c.bE)
  (hW:W6=(wr.alloc (ay #[ae af c.bE,ae af 0,aA ⟨#[111,107]⟩] 90)).setCell ⟨kb,9,I⟩ (aq (J (ai wr.heap.size 0 I)))):dC (wR kb lx bm rm v bd wr.heap.size bs) w0 W6 c ev kb bm bd rm wr.heap.size v lx m bs (aD.opened c ⟨s,d,[],false,[],bG.new 0⟩)/\(∀i k,wR kb lx bm rm v bd wr.heap.size bs i k->k=kb\/k=bm\/k=bd\/w.heap.size<=k)/\aG (λk=>k=kb) w W6:=by
 have ba:=aS wr (ay #[ae af c.bE,ae af 0,aA ⟨#[111,107]⟩] 90);have CJ:aG (λk=>k=kb) (wr.alloc (ay #[ae af c.bE,ae af 0,aA ⟨#[111,107]⟩] 90)) W6:=by rw[hW];exact aG.cG (bJ ..)
 have Oi:=(aG.dm ba _).trans CJ (λ_ _ e=>e);have FK:=L.off.trans Oi (λ_ _ e=>e);have alY:wr.heap.size<W6.heap.size:=by have:=CJ.size;simp at this;omega
 have VJ:=L.off.size;have AB:=fj.size;have VK:bm≠kb:=λe=>by have a:=hh.mod.heap;rw[e,hh.row]at a;simp at a
 have VL:bd≠kb:=λe=>by have a:=hh.dog.heap;rw[e,hh.row]at a;simp at a
 have alZ:bm≠bd:=λe=>by have a:=hh.mod.heap;rw[e,hh.dog.heap]at a;simp at a
 have nV:=L.own.lt;have ki:∀(j k:Nat),bs[j]?=J k->wc.heap.size<=k/\k<wr.heap.size:=λj k hj=>by obtain⟨_,_,_,a2,a3,_⟩:=L.loc j k hj;exact⟨a2,bL a3⟩
 have R:AA _ _ _ kb lx bm rm v bd _ bs:=⟨hlt,⟨λe=>VK e.symm,λe=>VL e.symm,alZ⟩,Av,λk hk=>⟨hv k hk,(Fy.sl.lt k hk).2⟩,nV,ki,λj k hj=>by obtain⟨_,_,_,_,a3,_⟩:=L.loc j k hj;exact qZ L.own a3 (ar rfl),L.Oh,rfl⟩;have hrow:W6.heap[kb]?=J (ay (N3 c ev bm bd rm wr.heap.size lx) 82 (0,0)):=by rw[hW];exact pF (a8 ba L.row) _
 have al0:W6.heap[wr.heap.size]?=J (ay (cZ (bG.new c.bE.toNat)) 90 (0,0)):=by
  refine(CJ.block _ (by simp) (by omega)).trans ?_;have e:cZ (bG.new c.bE.toNat)=#[ae af c.bE,ae af 0,aA ⟨#[111,107]⟩]:=by
   show #[Value.int af ((c.bE.toNat:Nat):Int),Value.int af ((0:Nat):Int),Value.string (dE 0)]=_
   rw[show ((c.bE.toNat:Nat):Int)=c.bE by omega];rfl
  rw[e];exact cj wr _
 have hL:(aD.opened c ⟨s,d,[],false,[],bG.new 0⟩).L=iy m.B.data.toList:=by simp only[aD.opened];rw[hh.m_.b]
 have al1:=Fy.off FK (by omega) (λg hg=>by have:=hv g hg;omega)
 refine⟨⟨R.bO AB VJ ⟨hw0,hh.lo⟩ alY,hrow,rfl,bI.same (alW L.own (by omega)) (λg hg=>Oi.block g (nV g hg).2 (λe=>by have:=(nV g hg).1;omega)),λk hk=>hk,hh.mod.off FK VK,aT rfl,hh.m_,?_,aN (aT rfl),λk hk=>aN (aN hk),hh.dog.off FK VL,rfl,al0,rfl,λi b e s h1 h2 h3=>?_,hbl,?_,hh.az,?_⟩,R.new AB VJ,fj.trans FK (λ_ _ e=>e)⟩
 ·rw[hL];exact al1
 ·obtain⟨e',E,a1,a2,a3,a4⟩:=L.loc i b h1;rw[h2]at a1
  cases a1
  have hs:s=aZ.new:=by
   have h4:(c.az.map λ_=>aZ.new)[i]?=J s:=h3;rw[gY,h2]at h4;exact(fg h4).symm
  subst hs
  refine⟨E,⟨⟨_,?_,gF _ _ _ _,λk hk=>by cases hk⟩,alT h1,by omega⟩,a4⟩;exact(Oi.block b (bL a3) (by omega)).trans a3
 ·show (c.az.map λ_=>aZ.new).length=_
  rw[iE]
 exact aG.below hh.aY FK (by omega) (λk hk=>by rw[hk];exact hh.lo.1)
def al2(w0 w:ak)(c:aX)(ev:aw)(kb bm bd:Nat)(m:cr)(s:aI)(d:bR)(w':ak):Prop:=∃H rm bt v lx bs,dC H w0 w' c ev kb bm bd rm bt v lx m bs (aD.opened c ⟨s,d,[],false,[],bG.new 0⟩)/\(∀i k,H i k->k=kb\/k=bm\/k=bd\/w.heap.size<=k)/\aG (λk=>k=kb) w w'
def eU.one{w:ak}{es:List aM}{e:aM}(h:eU w (aj sa es.length cap) es)(he:es[i]?=J e):∃(E:EA) (b o:Nat),sa=J ⟨b,o,I⟩/\fh w e (aj E.pa e.au.length E.pc) (aj E.ga e.aV.length E.gc) (aj E.ea e.aP.length E.ec) (aj E.fa e.first.length E.fc) (aj E.la e.last.length E.lc)/\∀(j:Nat) (u:aw),(nU e (aj E.pa e.au.length E.pc) (aj E.ga e.aV.length E.gc) (aj E.ea e.aP.length E.ec) (aj E.fa e.first.length E.fc) (aj E.la e.last.length E.lc))[j]?=J u->w.cell? ⟨b,o+i*10+j,I⟩=J u:=by
 obtain⟨bQ,cap',h1,h2⟩:=h
 cases h1
 obtain⟨b,o,rfl,h3⟩:=h2 (λx=>by rw[x]at he;simp at he);obtain⟨pv,gv,dv,fv,lv,hP,hce⟩:=h3 i e he;obtain⟨pa,pc,rfl,-⟩:=id hP.hp;obtain⟨ga,gc,rfl,-⟩:=id hP.hg;obtain⟨da,dc,rfl,-⟩:=id hP.he;obtain⟨fa,fc,rfl,-⟩:=id hP.hf;obtain⟨ya,yc,rfl,-⟩:=id hP.hl;exact⟨⟨pa,ga,da,fa,ya,pc,gc,dc,fc,yc⟩,b,o,rfl,hP,hce⟩
def VM(h:wS w0 w c ev kb bm bd rv lv tv m s d)(hn:c.az.length<=8)(tS:0<=c.bE):Calls prog 24 #[aq (J (ai kb 0 I))] w λe w'=>e=ax (bn #[])/\al2 w0 w c ev kb bm bd m s d w':=by
 have c5:w.cell? _=J (aq _):=h.cell 5 _ rfl;have m0:=h.mod.c0;have VN:U (∀V,Below w.heap.size w V->Calls _ 50 _ V λe w'=>∃v,e=ax v/\eC w' _ v _/\Below _ V w'):=λV _=>alK m.B V (by have:=h.m_.bsize;have:=h.big;omega)
 have f7:∀i,w.frozen? (ai kb i I)=false:=λi=>by have:=h.row;simp[bM,this]
 have c7:w.cell? _=J rv:=h.cell 7 _ rfl;have HK:U (∀V,Below _ w V->V.cell? _=J _/\V.cell? _=J _/\V.cell? _=J rv/\V.frozen? (ai kb 7 I)=false):=λV hV=>⟨aJ hV c5,aJ hV m0,aJ hV c7,by have:=a8 hV h.row;simp[bM,this]⟩
 have VO:U (∀(V:ak) (x:aw),Below w.heap.size w V->(V.setCell (ai kb 7 I) x).cell? ⟨kb,5,I⟩=J (aq (J (ai bm 0 I)))/\(V.setCell (ai kb 7 I) x).cell? ⟨bm,0,I⟩=J (aA m.B)):=λV x hV=>by
  have r1:=pF (j:=7) (a8 hV h.row) x
  refine⟨uO r1 rfl,?_⟩;have hm:=h.mod.below hV;exact(hm.other (bJ V kb 7 x) (λe=>by have a:=hm.heap;have b:=a8 hV h.row;rw[e,b]at a;simp at a)).c0
 change U _ at tS h
 go_enter func24,ntmps24
 go_upto_region 0 with fail
 go_region_held3 (λV=>V.cell? (ai kb 5 I)=J (aq (J (ai bm 0 I)))/\V.cell? (ai bm 0 I)=J (aA m.B)) (first|exact⟨c5,m0⟩|exact⟨(HK _ hb1).1,(HK _ hb1).2.1⟩|exact⟨(HK _ (yz _)).1,(HK _ (yz _)).2.1⟩|exact VO _ _ (yz _)) (first|(go_at_call 50;refine aO (VN.o _ (br (aF _ _) 1)) ?_;rintro e w1 ⟨v,rfl,CI,VP⟩;have hb1:=(aF w.heap.size w).drew.trans VP;obtain⟨k5,k0,k7,q7⟩:=HK _ hb1;obtain⟨va,vc,rfl⟩:=iB CI;have yz:=λo=>hb1.alloc hb1.size o;have a7:=λo=>(HK _ (yz o)).2.2.1;have al3:=λo=>(HK _ (yz o)).2.2.2))
 have b8:∀o x,((w1.alloc o).setCell ⟨kb,7,_⟩ x).cell? ⟨kb,8,_⟩=J lv:=λo x=>uO (pF (a8 (yz o) h.row) x) rfl
 have al4:∀o x,((w1.alloc o).setCell ⟨kb,7,I⟩ x).frozen? ⟨kb,8,I⟩=false:=λo x=>by have:=pF (j:=7) (a8 (yz o) h.row) x;simp[bM,this]
 go_upto_region 2 with fail
 obtain⟨W1,hW1⟩:∃X,X=((w1.alloc (ay #[aq (J (ai bm 0 I)),aj va (iy m.B.data.toList).length vc,aL false] 94)).setCell ⟨kb,7,I⟩ (aq (J (ai w1.heap.size 0 I)))).setCell ⟨kb,8,I⟩ (aj I 0 0):=⟨_,rfl⟩;rw[<- hW1];have al5:U _:=hb1.size;have uR:U _:=h.alU hb1 CI (by simp) hW1;clear hW1 b8 al4 a7 al3 yz k5 k0 k7 q7 hb1 VP CI c5 m0 c7 f7 HK VO VN
 go_cut [2] (λi wx=>i=ae af 0/\wx=W1)
 case first=>
  go_wp2
  go_meet
  case rel=>exact⟨rfl,rfl⟩
 obtain⟨rfl,rfl⟩:=hcut;go_wp2_with fail
 obtain⟨j0,EW,qE,vI,sP⟩:=iw alN;obtain⟨ea,ec,rfl,(TS:U _)⟩:=h.az;have Oj:U (Below _ w0 wc/\w0.heap.size<=wc.heap.size):=⟨uR.1.aY,uR.1.aY.size⟩;have yi:U (wQ w0 wc wc c _ kb bm bd _ tv _ []):=⟨uR.1.row,bL uR.1.row,aG.refl _ _,gF _ _ _ _,λj b hj=>by simp at hj,λi j b hi=>by simp at hi⟩
 go_loopw [2] (λi wr=>∃(bs:List Nat) (lx:aw),bs.length<=c.az.length/\i=ae af bs.length/\wQ w0 wc wr c (aj ea c.az.length ec) kb bm bd (aq (J (ai w1.heap.size 0 I))) tv lx bs) (λi _=>c.az.length-(intOf i).toNat)
 case atStart=>exact⟨[],_,bA _,rfl,yi⟩
 case round=>
  clear yi;obtain⟨bs,lx,hbl,rfl,L⟩:=hrel;have wT:U _:=aG.below Oj.1 L.off Oj.2 (λk hk=>by rw[hk];exact uR.1.lo.1);have e4:wr.cell? ⟨kb,4,_⟩=J (aj ea _ ec):=uO L.row rfl
  by_cases hlt:bs.length<c.az.length
  ·obtain⟨e,he⟩:∃e,c.az[bs.length]?=J e:=⟨_,bq hlt⟩;obtain⟨E,eb,eo,rfl,hP,hce⟩:=eU.one h.az he;obtain⟨la,lc,hlx⟩:=iB L.own;subst hlx;have k1:(bs.length:Int)<(c.az.length:Int):=by omega
   have k8:bs.length<8:=by omega
   obtain⟨A1,vX⟩:∃X,X=wr.drew.alloc (ay #[aA e.name,ae af e.bh,aj E.pa e.au.length E.pc,ae af e.cnt,ae af e.mn,ae af e.mx,aj E.ga e.aV.length E.gc,aj E.ea e.aP.length E.ec,aj E.fa e.first.length E.fc,aj E.la e.last.length E.lc,aL false,ae af 0,aj I 0 0,ae af 0,aL false] 128):=⟨_,rfl⟩;obtain⟨A2,yg⟩:∃X,X=A1.alloc (ay #[aq (J (ai wr.heap.size 0 I))] 88):=⟨_,rfl⟩;have FL:Below wr.heap.size wr A1:=by rw[vX];exact(aF _ wr).drew.alloc (aR _) _
   have wU:Below wr.heap.size wr A2:=by rw[yg];exact FL.alloc FL.size _
   have EX:=qZ L.own L.row (ar rfl);have Jd:∀V3,A2.grownBy V3 (Value.slice la bs.length lc).ownBlock->V3.heap[kb]?=J (ay (CH c (aj (J (ai eb eo I)) c.az.length ec) bm bd (aq (J (ai w1.heap.size 0 I))) (aj la bs.length lc) tv) 82 (0,0))/\Below w0.heap.size w0 V3:=λV3 hg=>
    ⟨(hg.block kb (bL (a8 wU L.row)) (λx=>EX x.symm)).trans (a8 wU L.row),(wT.trans (wU.mono wT.size)).grown hg (bp wT.size wU.size) (λi hi=>bp Oj.2 (L.own.lt i hi).1)⟩
   have Nc:U (∀g cap V,(V.ownsRow wc.heap.size 88 1 (aj (J (ai g 0 I)) (bs.length+1) cap) (bs.length+1) (bs.flatMap lM++[aq (J (ai wr.heap.size 0 I))])/\A2.grownBy V (Value.slice la bs.length lc).ownBlock)->V.cell? (ai kb 8 I)=J (aj la bs.length lc)/\V.frozen? (ai kb 8 I)=false):=λg cap V hq=>by
    have hr:=(Jd V hq.2).1;exact⟨uO hr rfl,by simp[bM,hr]⟩
   have hcw:∀V,V.heap[kb]?=J (ay (CH c (aj (J (ai eb eo I)) c.az.length ec) bm bd (aq (J (ai w1.heap.size 0 I))) (aj la bs.length lc) tv) 82 (0,0))->Below w0.heap.size w0 V->V.cell? (ai kb 8 I)=J (aj la bs.length lc)/\V.cell? (ai kb 4 I)=J (aj (J (ai eb eo I)) c.az.length ec)/\V.cell? ⟨eb,eo+bs.length*10,I⟩=J (aA e.name)/\V.cell? ⟨eb,eo+bs.length*10+1,I⟩=J (ae af e.bh)/\V.cell? ⟨eb,eo+bs.length*10+2,I⟩=J (aj E.pa e.au.length E.pc)/\V.cell? ⟨eb,eo+bs.length*10+3,I⟩=J (ae af e.cnt)/\V.cell? ⟨eb,eo+bs.length*10+4,I⟩=J (ae af e.mn)/\V.cell? ⟨eb,eo+bs.length*10+5,I⟩=J (ae af e.mx)/\V.cell? ⟨eb,eo+bs.length*10+6,I⟩=J (aj E.ga e.aV.length E.gc)/\V.cell? ⟨eb,eo+bs.length*10+7,I⟩=J (aj E.ea e.aP.length E.ec)/\V.cell? ⟨eb,eo+bs.length*10+8,I⟩=J (aj E.fa e.first.length E.fc)/\V.cell? ⟨eb,eo+bs.length*10+9,I⟩=J (aj E.la e.last.length E.lc):=λV hr hb=>⟨uO hr rfl,uO hr rfl,aJ hb (hce 0 _ rfl),aJ hb (hce 1 _ rfl),aJ hb (hce 2 _ rfl),aJ hb (hce 3 _ rfl),aJ hb (hce 4 _ rfl),aJ hb (hce 5 _ rfl),aJ hb (hce 6 _ rfl),aJ hb (hce 7 _ rfl),aJ hb (hce 8 _ rfl),aJ hb (hce 9 _ rfl)⟩
   have Cv:U (∀V,(V=wr.drew\/V=A1\/V=A2\/∃g cap,V.ownsRow wc.heap.size 88 1 (aj (J (ai g 0 I)) (bs.length+1) cap) (bs.length+1) (bs.flatMap lM++[aq (J (ai wr.heap.size 0 I))])/\A2.grownBy V (Value.slice la bs.length lc).ownBlock)->V.cell? (ai kb 8 I)=J (aj la bs.length lc)/\V.cell? (ai kb 4 I)=J (aj (J (ai eb eo I)) c.az.length ec)/\V.cell? ⟨eb,eo+bs.length*10,I⟩=J (aA e.name)/\V.cell? ⟨eb,eo+bs.length*10+1,I⟩=J (ae af e.bh)/\V.cell? ⟨eb,eo+bs.length*10+2,I⟩=J (aj E.pa e.au.length E.pc)/\V.cell? ⟨eb,eo+bs.length*10+3,I⟩=J (ae af e.cnt)/\V.cell? ⟨eb,eo+bs.length*10+4,I⟩=J (ae af e.mn)/\V.cell? ⟨eb,eo+bs.length*10+5,I⟩=J (ae af e.mx)/\V.cell? ⟨eb,eo+bs.length*10+6,I⟩=J (aj E.ga e.aV.length E.gc)/\V.cell? ⟨eb,eo+bs.length*10+7,I⟩=J (aj E.ea e.aP.length E.ec)/\V.cell? ⟨eb,eo+bs.length*10+8,I⟩=J (aj E.fa e.first.length E.fc)/\V.cell? ⟨eb,eo+bs.length*10+9,I⟩=J (aj E.la e.last.length E.lc)):=λV hV=>by
    rcases hV with rfl|rfl|rfl|⟨g,cap,hq⟩
    ·exact hcw _ L.row (wT.trans ((br (aF _ _) 1:Below wr.heap.size wr wr.drew).mono wT.size))
    ·exact hcw _ (a8 FL L.row) (wT.trans (FL.mono wT.size))
    ·exact hcw _ (a8 wU L.row) (wT.trans (wU.mono wT.size))
    exact hcw _ (Jd V hq.2).1 (Jd V hq.2).2
   have Nb:U (∃g cap V3,(Builtin.append_ #[79,79] 79 #[aj la bs.length lc,aj (J ⟨wr.heap.size+1,0,I⟩) 1 1]).run prog A2=.ok (aj (J (ai g 0 I)) (bs.length+1) cap) V3/\V3.ownsRow wc.heap.size 88 1 (aj (J (ai g 0 I)) (bs.length+1) cap) (bs.length+1) (bs.flatMap lM++[aq (J (ai wr.heap.size 0 I))])/\A2.grownBy V3 (Value.slice la bs.length lc).ownBlock):=by
    have al6:A1.heap.size=wr.heap.size+1:=by rw[vX];simp
    obtain⟨g,cap,V3,hr,h2,h3,-,-⟩:=run_append_lies (P:=prog) A2 79 79 _ 88 j0 _ 1 8 underlying79 EW qE vI sP rfl (ar rfl) _ _ _ (xw.below L.own wU) ⟨wr.heap.size+1,0,_⟩ 1 1 _ rfl (by rw[yg,<- al6];exact mP A1 _ 88) (λu hu=>by rw[g_]at hu;subst hu;rfl) (ar rfl) (by unfold maxLen;omega) (by omega) (bp L.off.size wU.size) _ rfl;exact⟨g,cap,V3,hr,h2,h3⟩
   change U _ at yg
   have al7:U (A1.heap.size=wr.heap.size+1):=by show _=_;rw[vX];simp
   change U _ at L hP he
   clear hce FL wU EX Jd hcw;change U _ at vX;go_wp2_with fail
   refine Dt 20 rfl (jW wr.drew A1 A2 kb bs.length (alQ kb wr.heap.size bs.length c.az.length la lc eb eo ec e E) (λg cap V=>V.ownsRow wc.heap.size 88 1 (aj (J (ai g 0 I)) (bs.length+1) cap) (bs.length+1) (bs.flatMap lM++[aq (J (ai wr.heap.size 0 I))])/\A2.grownBy V (Value.slice la bs.length lc).ownBlock)) (by kernel_rfl) (by kernel_rfl) jW.start ?_ ?_
   ·refine mM ⟨?_,?_,?_,?_,?_,?_,?_,?_,?_,?_,?_,?_,?_,?_,?_,?_,?_,?_,?_,?_,trivial⟩
    all_goals
     refine xt.free rfl ?_;intro vals a V hC hn aB aQ
    ·have x0:a.tmps[0]?.getD _=aq _:=aW (aQ 0 (dS (by kernel_rfl)));exact bY.val (w:=V) (c:=aq _) (by clear aB aQ hC ;go_simp) (hC.const (ar rfl) rfl)
    ·have x0:a.tmps[0]?.getD _=aq _:=aW (aQ 0 (dS (by kernel_rfl)));exact bY.val (w:=V) (c:=aq _) (by clear aB aQ hC ;go_simp) (hC.const (ar rfl) rfl)
    ·obtain⟨v1,lS,sH⟩:=aB _ (bj (i:=0) rfl) rfl;have aaP:a.tmps[34]?.getD _=aq _:=(aW (sH 34 rfl)).trans (hC.cs 1 (ar rfl) (ar rfl) (ar rfl) v1 lS);exact bY.val (w:=V) (c:=aq _) (by clear aB aQ hC sH;go_simp) (hC.const (ar rfl) rfl)
    ·obtain⟨v2,hv2,sI⟩:=aB _ (bj (i:=0) rfl) rfl;have aaQ:a.tmps[35]?.getD _=aq _:=(aW (sI 35 rfl)).trans (hC.cs 2 (ar rfl) (ar rfl) (ar rfl) v2 hv2);exact bY.val (w:=V) (c:=aq _) (by clear aB aQ hC sI;go_simp) (hC.const (ar rfl) rfl)
    ·obtain⟨v3,hv3,sK⟩:=aB _ (bj (i:=0) rfl) rfl;have ao6:a.tmps[36]?.getD _=aq _:=(aW (sK 36 rfl)).trans (hC.cs 3 (ar rfl) (ar rfl) (ar rfl) v3 hv3);have hgd:=Cv V (hC.good (aT rfl) hn);have cc:=hgd.1;exact bY.val (w:=V) (c:=aj la _ lc) (by clear aB aQ hC sK hgd;go_simp) (hC.const (ar rfl) rfl)
    ·have x0:a.tmps[0]?.getD _=aq _:=aW (aQ 0 (dS (by kernel_rfl)));exact bY.val (w:=V) (c:=aq _) (by clear aB aQ hC ;go_simp) (hC.const (ar rfl) rfl)
    ·obtain⟨v5,xO,sM⟩:=aB _ (bj (i:=0) rfl) rfl;have ao7:a.tmps[38]?.getD _=aq _:=(aW (sM 38 rfl)).trans (hC.cs 5 (ar rfl) (ar rfl) (ar rfl) v5 xO);exact bY.val (w:=V) (c:=aq _) (by clear aB aQ hC sM;go_simp) (hC.const (ar rfl) rfl)
    ·obtain⟨v6,xN,sJ⟩:=aB _ (bj (i:=0) rfl) rfl;have ao8:a.tmps[39]?.getD _=aq _:=(aW (sJ 39 rfl)).trans (hC.cs 6 (ar rfl) (ar rfl) (ar rfl) v6 xN);exact bY.val (w:=V) (c:=aq _) (by clear aB aQ hC sJ;go_simp) (hC.const (ar rfl) rfl)
    ·obtain⟨v7,xP,uq⟩:=aB _ (bj (i:=0) rfl) rfl;have ao9:a.tmps[40]?.getD _=aq _:=(aW (uq 40 rfl)).trans (hC.cs 7 (ar rfl) (ar rfl) (ar rfl) v7 xP);exact bY.val (w:=V) (c:=aq _) (by clear aB aQ hC uq;go_simp) (hC.const (ar rfl) rfl)
    ·obtain⟨v8,qD,sN⟩:=aB _ (bj (i:=0) rfl) rfl;have ao_:a.tmps[41]?.getD _=aq _:=(aW (sN 41 rfl)).trans (hC.cs 8 (ar rfl) (ar rfl) (ar rfl) v8 qD);have hgd:=Cv V (hC.good (aN (aT rfl)) hn);have cc:=hgd.2.1;exact bY.val (w:=V) (c:=aj _ _ ec) (by clear aB aQ hC sN hgd;go_simp) (hC.const (ar rfl) rfl)
    ·have x2:a.tmps[2]?.getD _=ae af _:=aW (aQ 2 (dS (by kernel_rfl)));exact bY.val (w:=V) (c:=ae af _) (by clear aB aQ hC ;go_simp) (hC.const (ar rfl) rfl)
    ·obtain⟨v9,rC,pN⟩:=aB _ (bj (i:=0) rfl) rfl;have ao':a.tmps[42]?.getD _=aj _ _ ec:=(aW (pN 42 rfl)).trans (hC.cs 9 (ar rfl) (ar rfl) (ar rfl) v9 rC);obtain⟨v10,xS,sO⟩:=aB _ (bj (i:=1) rfl) rfl;have apa:a.tmps[43]?.getD _=ae af _:=(aW (sO 43 rfl)).trans (hC.cs 10 (ar rfl) (ar rfl) (ar rfl) v10 xS);exact bY.val (w:=V) (c:=aq _) (by clear aB aQ hC pN sO;go_simp) (hC.const (ar rfl) rfl)
    ·obtain⟨v11,BN,xT⟩:=aB _ (bj (i:=0) rfl) rfl;have apb:a.tmps[44]?.getD _=aq _:=(aW (xT 44 rfl)).trans (hC.cs 11 (ar rfl) (ar rfl) (ar rfl) v11 BN);have hgd:=Cv V (hC.good (aN (aN rfl)) hn);obtain⟨z0,z1,z2,z3,z4,z5,z6,z7,z8,z9⟩:=hgd.2.2;exact bY.val (w:=V) (c:=.agg _) (by clear aB aQ hC xT hgd;go_simp) (hC.const (ar rfl) rfl)
    ·obtain⟨v12,xQ,xR⟩:=aB _ (bj (i:=0) rfl) rfl;have ahM:a.tmps[45]?.getD _=.agg _:=(aW (xR 45 rfl)).trans (hC.cs 12 (ar rfl) (ar rfl) (ar rfl) v12 xQ);exact bY.val (w:=V) (c:=.agg _) (by clear aB aQ hC xR;go_simp) (hC.const (ar rfl) rfl)
    ·obtain⟨v13,FB,FC⟩:=aB _ (bj (i:=0) rfl) rfl;have ahE:a.tmps[46]?.getD _=.agg _:=(aW (FC 46 rfl)).trans (hC.cs 13 (ar rfl) (ar rfl) (ar rfl) v13 FB);obtain⟨rfl,hA⟩:=hC.box (u:=aq _) hn rfl;exact bY.val (w:=A1) (c:=aq _) (by clear aB aQ hC hA FC;rw[vX.o];go_simp) hA
    ·obtain⟨v14,CG,yx⟩:=aB _ (bj (i:=0) rfl) rfl;have ahF:a.tmps[47]?.getD _=aq _:=(aW (yx 47 rfl)).trans (hC.cs 14 (ar rfl) (ar rfl) (ar rfl) v14 CG);obtain⟨rfl,hA⟩:=hC.built (u:=aj _ 1 1) hn (by have e2:vals 14=J v14:=CG;rw[e2];simp) rfl;have hsz:=al7.o;exact bY.val (w:=A2) (c:=aj _ 1 1) (by clear aB aQ hC hA yx;rw[yg.o];go_simp) hA
    ·obtain⟨v4,hv4,sL⟩:=aB _ (bj (i:=0) rfl) rfl;have apc:a.tmps[37]?.getD _=aj la _ lc:=(aW (sL 37 rfl)).trans (hC.cs 4 (ar rfl) (ar rfl) (ar rfl) v4 hv4);obtain⟨v15,FE,FH⟩:=aB _ (bj (i:=1) rfl) rfl;have ahG:a.tmps[48]?.getD _=aj _ 1 1:=(aW (FH 48 rfl)).trans (hC.cs 15 (ar rfl) (ar rfl) (ar rfl) v15 FE);have al8:a.eval _=aj la _ lc:=(sL 37 rfl).trans (hC.cs 4 (ar rfl) (ar rfl) (ar rfl) v4 hv4);have al9:a.eval _=aj _ 1 1:=(FH 48 rfl).trans (hC.cs 15 (ar rfl) (ar rfl) (ar rfl) v15 FE);obtain⟨rfl,hA⟩:=hC.app hn (by have e2:vals 15=J v15:=FE;rw[e2];simp);obtain⟨g,cap,V3,hrun,hq⟩:=Nb.o;exact bY.val (w:=V3) (c:=aj _ _ cap) (alP (s:=.tmp 37) (x:=.tmp 48) (t:=79) (ty:=_) rfl rfl al8 al9 hrun) (hA g cap V3 hq)
    ·obtain⟨v0,hv0,sG⟩:=aB _ (bj (i:=0) rfl) rfl;have aaR:a.tmps[33]?.getD _=aq _:=(aW (sG 33 rfl)).trans (hC.cs 0 (ar rfl) (ar rfl) (ar rfl) v0 hv0);exact bY.val (w:=V) (c:=aq _) (by clear aB aQ hC sG;go_simp) (hC.const (ar rfl) rfl)
    ·obtain⟨v17,Ja,FD⟩:=aB _ (bj (i:=0) rfl) rfl;have ahH:a.tmps[50]?.getD _=aq _:=(aW (FD 50 rfl)).trans (hC.cs 17 (ar rfl) (ar rfl) (ar rfl) v17 Ja);exact bY.val (w:=V) (c:=aq _) (by clear aB aQ hC FD;go_simp) (hC.const (ar rfl) rfl)
    obtain⟨v18,al_,VQ⟩:=aB _ (bj (i:=0) rfl) rfl;have ahI:a.tmps[51]?.getD _=aq _:=(aW (VQ 51 rfl)).trans (hC.cs 18 (ar rfl) (ar rfl) (ar rfl) v18 al_);obtain⟨v16,Jb,FI⟩:=aB _ (bj (i:=1) rfl) rfl;obtain⟨v4,hv4,-⟩:=aB _ (bj (i:=7) rfl) rfl;obtain⟨v9,rC,-⟩:=aB _ (bj (i:=12) rfl) rfl;obtain⟨v12,xQ,-⟩:=aB _ (bj (i:=15) rfl) rfl;obtain⟨g,cap,qi,hq,EY⟩:=hC.put hn (by have e2:vals 16=J v16:=Jb;rw[e2];simp) ⟨by have e2:vals 4=J v4:=hv4;rw[e2];simp,by have e2:vals 9=J v9:=rC;rw[e2];simp,by have e2:vals 12=J v12:=xQ;rw[e2];simp⟩;have VR:vals 16=J v16:=Jb;rw[qi]at VR;have ahJ:a.tmps[49]?.getD _=aj _ _ cap:=(aW (FI 49 rfl)).trans (fg VR).symm;obtain⟨apd,ape⟩:=Nc g cap V hq;exact bY.skip (w:=V.setCell _ _) (by clear aB aQ hC EY hq FI VQ;go_simp) EY
   intro vals V hC hall;obtain⟨y0,EZ⟩:=cI.1 (hall 0 (ar rfl));obtain⟨y1,E1⟩:=cI.1 (hall 1 (ar rfl));obtain⟨y2,E2⟩:=cI.1 (hall 2 (ar rfl));obtain⟨y3,E3⟩:=cI.1 (hall 3 (ar rfl));obtain⟨y4,E5⟩:=cI.1 (hall 4 (ar rfl));obtain⟨y5,E6⟩:=cI.1 (hall 5 (ar rfl));obtain⟨y6,E7⟩:=cI.1 (hall 6 (ar rfl));obtain⟨y7,E8⟩:=cI.1 (hall 7 (ar rfl));obtain⟨y8,E9⟩:=cI.1 (hall 8 (ar rfl));obtain⟨y9,E_⟩:=cI.1 (hall 9 (ar rfl));obtain⟨Mb,Fa⟩:=cI.1 (hall 10 (ar rfl));obtain⟨Mc,Cq⟩:=cI.1 (hall 11 (ar rfl));obtain⟨SK,VS⟩:=cI.1 (hall 12 (ar rfl));obtain⟨Md,VT⟩:=cI.1 (hall 13 (ar rfl));obtain⟨Me,Ol⟩:=cI.1 (hall 14 (ar rfl));obtain⟨alf,Om⟩:=cI.1 (hall 15 (ar rfl));obtain⟨alg,Oo⟩:=cI.1 (hall 16 (ar rfl));obtain⟨alh,VU⟩:=cI.1 (hall 17 (ar rfl));obtain⟨ali,VW⟩:=cI.1 (hall 18 (ar rfl));obtain⟨Vw,Oq⟩:=cI.1 (hall 19 (ar rfl));obtain⟨g,cap,V3,qi,hq,hV⟩:∃g cap V3,vals 16=J (aj (J (ai g 0 I)) (bs.length+1) cap)/\(V3.ownsRow wc.heap.size 88 1 (aj (J (ai g 0 I)) (bs.length+1) cap) (bs.length+1) (bs.flatMap lM++[aq (J (ai wr.heap.size 0 I))])/\A2.grownBy V3 (Value.slice la bs.length lc).ownBlock)/\V=V3.setCell (ai kb 8 I) (aj (J (ai g 0 I)) (bs.length+1) cap):=by
    rcases hC.st with⟨x,_⟩|⟨_,x,_⟩|⟨_,_,x,_⟩|⟨_,_,g,cap,V3,a1,a2,⟨x,_⟩|⟨_,a3⟩⟩
    ·rw[Ol]at x;cases x
    ·rw[Om]at x;cases x
    ·rw[Oo]at x;cases x
    ·rw[Oq]at x;cases x
    exact⟨g,cap,V3,a1,a2,a3⟩
   have L2:=(L.below (br (aF _ _) 1:Below wr.heap.size wr wr.drew)).more (e:=e) (E:=E) (g:=g) (cap:=cap) he hP (by rw[yg.o,vX.o];rfl) hq.1 hq.2 hV;change U _ at L2
   clear hC hall hq hV qi;simp only[fill,dZ,EZ,E1,E2,E3,E5,E6,E7,E8,E9,E_,Fa,Cq,VS,VT,Ol,Om,Oo,VU,VW,Oq];clear EZ E1 E2 E3 E5 E6 E7 E8 E9 E_ Fa Cq VS VT Ol Om Oo VU VW Oq;go_simp
   go_wp2
   go_roundw
   case rel=>exact⟨_,_,by rw[cY,kW];omega,by rw[cY,kW];go_num,L2⟩
   case measure=>simp[intOf];omega
  have k1:¬(bs.length:Int)<(c.az.length:Int):=by omega
  have hle:bs.length=c.az.length:=by omega
  have e3:wr.cell? ⟨kb,3,_⟩=J (ae af _):=uO L.row rfl;have a9:∀o,(wr.alloc o).cell? ⟨kb,9,_⟩=J tv:=λo=>uO (a8 (aS wr o) L.row) rfl
  have apf:∀o,(wr.alloc o).frozen? ⟨kb,9,I⟩=false:=λo=>by have:=a8 (aS wr o) L.row;simp[bM,this]
  change U _ at L
  go_wp2;go_end0
  refine⟨rfl,wR kb lx bm w1.heap.size (aj va (iy m.B.data.toList).length vc) bd wr.heap.size bs,w1.heap.size,wr.heap.size,aj va (iy m.B.data.toList).length vc,lx,bs,?_⟩;exact alX uR.1 uR.2.1 uR.2.2.1 uR.2.2.2.1 ⟨al5,uR.2.2.2.2⟩ ⟨bL h.row,h.mod.lt,h.dog.lt⟩ h.aY.size L hle tS rfl
end
section
variable {F:Nat->Prop}{w0 w w':ak}{c:aX}{ev:aw}{kb bm:Nat}{K:aD}{k W:Nat}
def ama(c:aX)(s:aI)(d d' VX:bR)(L:List Rec)(sp:Bool)(ls:List aZ)(t:bG):aD.opened c ⟨s,VX,L,sp,ls,t⟩={ ({ aD.opened c ⟨s,d,[],false,[],bG.new 0⟩with d:=d' }:aD)with d:=VX }:=by
 unfold aD.opened;generalize iy (s.bytes.take s.size)=X;rfl
def amb(w0 w:ak)(c:aX)(ev:aw)(bm:Nat)(s:aI)(u:Ending)(w':ak):Prop:=∃kb F,u=ax (aq (J (ai kb 0 I)))/\dO F w0 w' c ev kb bm (aD.new c s)/\Below w.heap.size w w'/\(∀k,F k->(k=bm\/w.heap.size<=k)/\k<w'.heap.size)
def amc{m:cr}{s:aI}(hr:er c)(hm:cg w bm m)(hs:gy s m)(hb:153<=s.size)(dt:w0.heap.size<=bm)(he:eU w0 ev c.az)(kg:Below w0.heap.size w0 w):Calls prog 10 #[bK #[ae af c.closed,ae af c.opn,ae af c.cycle,ae af c.bE,ev],aq (J (ai bm 0 I))] w λe w'=>amb w0 w c ev bm s e w':=by
 obtain⟨ea,ec,rfl,-⟩:=id he;have b1:Below _ w (w.alloc (ay (cR c ea ec) 24)):=aS _ _;have b2:Below _ w ((w.alloc _).alloc (ay #[ae af c.closed,ae af c.opn,ae af 0,ae af 0,ae af 0,aL false] 77)):=b1.alloc b1.size _;have b3:Below _ w (((w.alloc _).alloc _).alloc (ay #[ae af c.closed,ae af c.opn,ae af c.cycle,ae af c.bE,aj ea c.az.length ec,aq (J (ai bm 0 I)),aq (J ⟨w.heap.size+1,0,I⟩),aq I,aj I 0 0,aq I] 82)):=b2.alloc b2.size _;have hdr:(((w.alloc (ay (cR c ea ec) 24)).alloc (ay #[ae af c.closed,ae af c.opn,ae af 0,ae af 0,ae af 0,aL false] 77)).alloc (ay #[ae af c.closed,ae af c.opn,ae af c.cycle,ae af c.bE,aj ea c.az.length ec,aq (J (ai bm 0 I)),aq (J ⟨w.heap.size+1,0,I⟩),aq I,aj I 0 0,aq I] 82)).heap[w.heap.size+1]?=J (ay (bR.new c.closed.toNat c.opn.toNat).row 77 (0,0)):=by
  have e:(bR.new c.closed.toNat c.opn.toNat).row=#[ae af c.closed,ae af c.opn,ae af 0,ae af 0,ae af 0,aL false]:=by
   show #[Value.int af ((c.closed.toNat:Nat):Int),Value.int af ((c.opn.toNat:Nat):Int),_,_,_,_]=_
   rw[show ((c.closed.toNat:Nat):Int)=c.closed by have:=hr.cl;omega,show ((c.opn.toNat:Nat):Int)=c.opn by have:=hr.op;omega];rfl
  rw[e]
  refine a8 (aS _ _) ?_;have:=cj (w.alloc (ay (cR c ea ec) 24)) (ay #[ae af c.closed,ae af c.opn,ae af 0,ae af 0,ae af 0,aL false] 77);simpa using this
 have amd:(((w.alloc (ay (cR c ea ec) 24)).alloc (ay #[ae af c.closed,ae af c.opn,ae af 0,ae af 0,ae af 0,aL false] 77)).alloc (ay #[ae af c.closed,ae af c.opn,ae af c.cycle,ae af c.bE,aj ea c.az.length ec,aq (J (ai bm 0 I)),aq (J ⟨w.heap.size+1,0,I⟩),aq I,aj I 0 0,aq I] 82)).heap[w.heap.size+1+1]?=J (ay (CH c (aj ea c.az.length ec) bm (w.heap.size+1) (aq I) (aj I 0 0) (aq I)) 82 (0,0)):=by
  have hs2:((w.alloc (ay (cR c ea ec) 24)).alloc (ay #[ae af c.closed,ae af c.opn,ae af 0,ae af 0,ae af 0,aL false] 77)).heap.size=w.heap.size+1+1:=by simp
  rw[<- hs2];exact cj _ _
 have hw0:=kg.size;have hd:wS w0 _ c _ _ bm _ _ _ _ m s _:=
  ⟨amd,hm.below b3,hs,hb,⟨hdr,by have:=hr.cl;show c.closed.toNat<=1000;omega,by have:=hr.op;show c.opn.toNat<=1000;omega,aR _,aR _,bA _⟩,⟨by omega,dt,by omega⟩,he,kg.trans (b3.mono hw0)⟩
 have HX:U _:=VM hd hr.nn hr.de.1;change U _ at b3
 have hs3:(((w.alloc (ay (cR c ea ec) 24)).alloc (ay #[ae af c.closed,ae af c.opn,ae af 0,ae af 0,ae af 0,aL false] 77)).alloc (ay #[ae af c.closed,ae af c.opn,ae af c.cycle,ae af c.bE,aj ea c.az.length ec,aq (J (ai bm 0 I)),aq (J ⟨w.heap.size+1,0,I⟩),aq I,aj I 0 0,aq I] 82)).heap.size=w.heap.size+3:=by simp
 change U _ at hs3
 have Aw:=hm.lt;change U _ at Aw
 go_enter func10,ntmps10
 go_wp2_with fail
 refine aO HX.o ?_;rintro u w4 ⟨rfl,(Ot:U _)⟩;go_wp2;go_ret;obtain⟨H,rm,bt,v,lx,bs,h1,h2,h3⟩:=Ot.o;have hlt:=h1.bO.lt;have hsz:=h3.size;have apg:=hs3.o
 refine⟨_,λk=>∃i,H i k,rfl,⟨H,_,rm,bt,v,lx,m,bs,h1,λi k hk=>⟨i,hk⟩⟩,?_,λk ⟨i,hk⟩=>⟨?_,hlt i k hk⟩⟩
 ·have hb3:=b3.o;exact aG.below hb3 h3 hb3.size (λk hk=>by omega)
 rcases h2 i k hk with e|e|e|e
 ·exact aN (by omega)
 ·exact aT e
 ·exact aN (by omega)
 exact aN (by omega)
def ame(h:dO F w0 w c ev kb bm K)(hr:er c)(hf:bF c K k W):Calls prog 30 #[aq (J (ai kb 0 I))] w λe w'=>e=ax (ae af ((K.fD c).2:Int))/\cu F w0 w c ev kb bm (K.fD c).1 w':=by
 have HS:U (cu F w0 w c ev kb bm K w):=cu.same h;obtain⟨H,bd,rm,bt,v,lv,m,bs,h1,hF⟩:=h;have HC:U (Calls _ 51 _ w λe w'=>e=ax _/\w'=w):=yw h1;have c5:w.cell? _=J (aq _):=h1.cell 5 _ rfl
 by_cases ho:K.on=0
 ·have HB:U (K.fD c=(K,10)):=by show _=_;unfold aD.fD;rw[aU ho]
  rw[ho]at HC;clear h1 hF hf hr;go_enter func30,ntmps30
  go_wp2_with fail
  refine HC.mono ?_;rintro e w' ⟨rfl,rfl⟩;go_wp2;go_ret;rw[HB.o];exact⟨rfl,HS⟩
 have HB:U (K.fD c=(aD.opened c { K with c:={ K.c with off:=false,cut:=false,left:=0 },d:=K.d.start },0)):=by show _=_;unfold aD.fD;rw[aK ho]
 have g0:¬(K.on:Int)=0:=by omega
 have Hv:U _:=aj8 bm m w h1.mod;change U _ at h1 hF
 have Mk:U _:=hf.big.size;change U _ at hr
 clear hf HS;go_enter func30,ntmps30
 go_wp2_with fail
 refine HC.mono ?_;rintro e w' ⟨rfl,rfl⟩;go_wp2_with fail
 refine aO Hv.o ?_;rintro e w2 ⟨rfl,oT,hg2,-⟩;have zI:aG (H 2) w' w2:=(aG.cG hg2).mono (λk _ e=>by rw[e];exact h1.hm);have K2:=h1.toRing zI oT h1.m_.on (h1.ring.off (aG.cG hg2) h1.ring.ne (λg hg e=>h1.ring.sep.2 (by rw[hg,e]))) (λk hk=>aT hk);have mz:wS w0 w2 c ev kb bm bd _ lv _ _ { K.c with off:=false,cut:=false,left:=0 } K.d:=⟨K2.row,K2.mod,K2.m_,Mk,K2.dog,⟨K2.bO.lo 0 kb K2.hk,K2.bO.lo 2 bm K2.hm,K2.bO.lo 3 bd K2.hd⟩,K2.az,K2.aY⟩;have HX:U _:=VM mz hr.nn hr.de.1;change U _ at K2 zI
 clear mz hg2 oT Hv HC c5 g0;go_wp2_with fail
 refine aO HX.o ?_;rintro u w4 ⟨rfl,Ot⟩;obtain⟨H',Vm,Hh,v',aph,Hi,h3,h4,h5⟩:=Ot;have c6:w4.cell? _=J (aq _):=h3.cell 6 _ rfl;have d5:w4.cell? _=J (aL K.d.reset):=h3.dog.c5;have q5:=h3.dog.frozen 5;have Hw:eE (w4.setCell _ (aL false)) bd ⟨K.d.closed,K.d.opn,K.d.now,K.d.begun,K.d.fu,false⟩:=h3.dog.set 5 _ rfl h3.dog.hc h3.dog.ho h3.dog.hk h3.dog.hb h3.dog.hn;have uw:aG (H' 3) w4 (w4.setCell ⟨bd,5,_⟩ (aL false)):=(aG.cG (bJ ..)).mono (λk _ e=>by rw[e];exact h3.hd);have K5:=h3.xL uw Hw;have zH:U _:=h3;change U _ at h4 h5 uw
 clear h3 Hw HX;go_upto_region 6 with fail
 obtain⟨W5,r9⟩:∃X,X=w4.setCell (ai bd 5 I) (aL false):=⟨_,rfl⟩;rw[<- r9]at K5 uw⊢;have e6:W5.cell? _=J (aq _):=K5.cell 6 _ rfl;have d2:W5.cell? _=J (ae af (K.d.now:Int)):=K5.dog.c2;have d3:W5.cell? _=J (ae af (K.d.begun:Int)):=K5.dog.c3;have q3:=K5.dog.frozen 3;change U _ at K5
 clear r9 c6 d5 q5;go_region
 go_wp2;go_ret;rw[HB.o]
 refine⟨rfl,?_⟩;have h3:=zH.o;have k5:=K5.o;have p1:=dC.post hF zI K2;have D9:∀i k,H' i k->gr F w' w4 k:=λi k hk=>by
  rcases h4.o i k hk with e|e|e|e
  ·rw[e];exact aT (hF 0 kb h1.hk)
  ·rw[e];exact aT (hF 2 bm h1.hm)
  ·rw[e];exact aT (hF 3 bd h1.hd)
  exact aN ⟨bp zI.size e,h3.bO.lt i k hk⟩
 have p2:cu F w0 w' c ev kb bm _ w4:=⟨⟨H',_,_,_,_,_,_,_,h3,D9⟩,p1.2.trans h5.o (λk _ e=>by rw[e];exact hF 0 kb h1.hk)⟩;have p3:=dC.post D9 uw k5;have amf:eE (W5.setCell _ (ae af (K.d.now:Int))) bd K.d.start:=k5.dog.set 3 _ rfl k5.dog.hc k5.dog.ho (bp k5.dog.hk k5.dog.hb) (aR _) k5.dog.hn;have CJ:aG (cO H' 3 w4 W5 3) W5 (W5.setCell (ai bd 3 I) (ae af (K.d.now:Int))):=(aG.cG (bJ ..)).mono (λk _ e=>by rw[e];exact k5.hd);have p4:=dC.post (F:=gr F w' W5) (λi k hk=>KO p2.2.size uw.size (xC D9 3 i k hk)) CJ (k5.xL CJ amf);have p5:=((p2.trans p3).trans p4).below (br (aF _ _) 1);rw[ama c { K.c with off:=false,cut:=false,left:=0 } K.d ⟨K.d.closed,K.d.opn,K.d.now,K.d.begun,K.d.fu,false⟩ _ K.L _ _ K.t];exact p5
end
section
variable {F F':Nat->Prop}{w0 w w':ak}{c:aX}{ev:aw}{kb bm:Nat}{K:aD}
def amg(n:Int)(h:dO F w0 w c ev kb bm K)(hn:n<=9223372036854775807):Calls prog 29 #[aq (J (ai bm 0 I)),ae af n] w λe w'=>e=ax (ae af ((K.cut n).2:Int))/\cu F w0 w c ev kb bm (K.cut n).1 w':=by
 have jF:=cu.same h;obtain⟨H,bd,rm,bt,v,lv,m,bs,h1,hF⟩:=h
 by_cases h0:n<0
 ·have hB:K.cut n=(K,2):=by unfold aD.cut;rw[aU h0]
  rw[hB]
  apply(aj_ bm n w h0).mono;rintro e w' ⟨rfl,rfl⟩;exact⟨rfl,jF⟩
 cases ho:K.c.off
 ·obtain⟨q,rfl⟩:=yH (show 0<=n by omega);have hB:K.cut (q:Int)=({ K with c:={ K.c with cut:=true,left:=q } },0):=by
   unfold aD.cut;rw[aK h0,aK (by rw[ho];decide)];rfl
  rw[hB]
  apply(aj9 bm m q w h1.mod (by rw[h1.m_.off];exact ho)).mono;rintro e w' ⟨rfl,h2,h3,-⟩;have bz:aG (H 2) w w':=(aG.cG h3).mono (λk _ e=>by rw[e];exact h1.hm);have h4:=h1.toRing (L:=K.L) (sp:=K.sp) (v':=v) bz h2 (h1.m_.cutAt q (by omega)) (h1.ring.off (aG.cG h3) (λe=>h1.ring.ne e) (λg hg e=>h1.ring.sep.2 (by rw[hg,e]))) (λk hk=>aT hk);exact⟨rfl,dC.post hF bz h4⟩
 have hB:K.cut n=(K,8):=by unfold aD.cut;rw[aK h0,aU ho]
 rw[hB]
 apply(aj' bm m n w h1.mod h0 (by rw[h1.m_.off];exact ho)).mono;rintro e w' ⟨rfl,rfl⟩;exact⟨rfl,jF⟩
def dO.mono(h:dO F w0 w c ev kb bm K)(hF:∀k,F k->F' k):dO F' w0 w c ev kb bm K:=by
 obtain⟨H,bd,rm,bt,v,lv,m,bs,h1,h2⟩:=h;exact⟨H,bd,rm,bt,v,lv,m,bs,h1,λi k hk=>hF k (h2 i k hk)⟩
def dO.below(h:dO F w0 w c ev kb bm K)(hb:Below w.heap.size w w'):dO F w0 w' c ev kb bm K:=by
 obtain⟨H,bd,rm,bt,v,lv,m,bs,h1,h2⟩:=h;exact⟨H,bd,rm,bt,v,lv,m,bs,h1.below hb,h2⟩
def dO.off{S:Nat->Prop}(h:dO F w0 w c ev kb bm K)(ho:aG S w w')(hS:∀k,F k->¬S k)(hB:∀k,S k->w0.heap.size<=k):dO F w0 w' c ev kb bm K:=by
 obtain⟨H,bd,rm,bt,v,lv,m,bs,h1,h2⟩:=h;exact⟨H,bd,rm,bt,v,lv,m,bs,h1.off ho (λi k hk=>hS k (h2 i k hk)) hB,h2⟩
def dO.aY(h:dO F w0 w c ev kb bm K):Below w0.heap.size w0 w:=by
 obtain⟨H,bd,rm,bt,v,lv,m,bs,h1,h2⟩:=h;exact h1.aY
end
def gA(n:Int):ByteArray:=⟨(num n).toArray⟩
def Je(n:Int):bl (gA n)=num n:=by simp[bl,gA]
def gV(n:Int):Prop:=0<=n/\n<=1099511627776
def ng{n:Int}(h:gV n):(gA n).size<=100:=by
 have h1:=mG h.2;show (num n).toArray.size<=100
 simp
 omega
def tu(a b:ByteArray):bl (a++b)=bl a++bl b:=by simp[bl]
def AE(a:ByteArray):(bl a).length=a.size:=by simp[bl]
def amh(a b:ByteArray)(h:a.size+b.size<=9223372036854775807):∀w,(Op.stringOp .add a b).run prog w=.ok (aA (a++b)) w:=λw=>run_string_add_sum (P:=prog) w a b h
def tA:List ByteArray->Nat
 |[]=>0
 |b::t=>b.size+tA t
def Ch(a:ByteArray):List ByteArray->Prop
 |[]=>True
 |b::t=>(∀w,(Op.stringOp .add a b).run prog w=.ok (aA (a++b)) w)/\Ch (a++b) t
def yA(a:ByteArray)(l:List ByteArray)(h:a.size+tA l<=9223372036854775807):Ch a l:=by
 induction l generalizing a with
 |nil=>trivial
 |cons b t ih=>
  simp only[tA]at h;exact⟨amh a b (by omega),ih _ (by rw[o_];omega)⟩
def Ou(W:ak)(n:Int)(V:ak)(hV:Below W.heap.size W V)(hn:gV n):Calls prog 23 #[ae af n] V λe w'=>e=ax (aA (gA n))/\Below W.heap.size W w':=by
 obtain⟨m,rfl⟩:=yH hn.1
 refine(Cy m V (by have:=hn.2;omega)).mono λe w' h=>⟨h.1,hV.trans (h.2.mono hV.size)⟩
def tl(ls:List Bs):Bs:=ls.flatMap (λx=>x++[10])
def wV(a b:List Bs):tl (a++b)=tl a++tl b:=by simp[tl]
def AG{au:List ByteArray}{p:ByteArray}(h:au[n]?=J p):pt au (n:Int)=bl p:=by simp[pt,fp,h]
def apj{pa:Option aC}{pc:Nat}{au:List ByteArray}(h:bw ct 1 w (aj pa au.length pc) au)(h0:0<=x)(h1:x<(au.length:Int)):∃(n:Nat) (p:ByteArray) (g o:Nat),x=(n:Int)/\au[n]?=J p/\pa=J ⟨g,o,I⟩/\w.cell? ⟨g,o+n,I⟩=J (aA p):=by
 obtain⟨n,rfl⟩:=yH h0;have hl:n<au.length:=by omega
 obtain⟨p,hp⟩:∃p,au[n]?=J p:=⟨_,bq hl⟩;obtain⟨g,o,rfl,hc⟩:=pI h hp;exact⟨n,p,g,o,rfl,hp,rfl,hc n p hp⟩
def AH{au:List ByteArray}(h0:0<=x)(h1:x<(au.length:Int)):∃(n:Nat) (p:ByteArray),x=(n:Int)/\au[n]?=J p/\(n:Int)<(au.length:Int):=by
 obtain⟨n,rfl⟩:=yH h0;exact⟨n,_,rfl,bq (by omega),h1⟩
def uS{s:ByteArray}(h:isName s=true):s.size<=100:=by have:=xb h;rw[AE]at this;omega
def rM(c:aX):List Bs:=[a6 0 [num c.closed,num c.opn],a6 1 [num c.cycle],a6 2 [num c.bE]]
def ami(c:aX):oJ c=rM c++c.az.flatMap dD:=by simp[oJ,rM]
def VY(c:aX):fK c=tl (rM c)++tl (c.az.flatMap dD):=by unfold fK;rw[ami,<- wV];rfl
def VZ(c:aX):bl (⟨#[119,105,110,100,111,119,32]⟩++gA c.closed++⟨#[32]⟩++gA c.opn++⟨#[10,99,121,99,108,101,32]⟩++gA c.cycle++⟨#[10,100,101,108,97,121,32]⟩++gA c.bE++⟨#[10]⟩)=tl (rM c):=by
 simp only[tu,Je];simp[bl,rM,tl,a6,kw]
def V6(c:aX)(sa:Option aC)(sc:Nat)(w:ak)(hE:eU w (aj sa c.az.length sc) c.az)(hS:kJ c)(h0:(cJ c).1=0):Calls prog 9 #[.agg (cR c sa sc)] w λv w'=>v=ax (aA ⟨(fK c).toArray⟩)/\Below w.heap.size w w':=by
 unfold cR;have fk:U (FO c):=w_ h0;have kR:U ((tl (c.az.flatMap dD)).length<=400000000):=FR h0;obtain⟨W,hW⟩:∃V,V=w.alloc (ay (cR c sa sc) 24):=⟨_,rfl⟩;have cx:U (Below w.heap.size w W):=by show Below _ _ _;rw[hW];exact aS _ _
 have HF:U (∀V,Below W.heap.size W V->Below w.heap.size w V):=λV hV=>cx.trans (hV.mono cx.size)
 have HX:U (∀V,Below W.heap.size W V->∀(j:Nat) u,((cR c sa sc):Array aw)[j]?=J u->V.cell? (ai w.heap.size j I)=J u):=λV hV j u hu=>by
  have:=a8 hV (show W.heap[w.heap.size]?=_ by rw[hW];exact cj w _);simp[aH,this,hu]
 have rG:U (∀V,Below W.heap.size W V->eU V (aj sa c.az.length sc) c.az):=λV hV=>hE.below (HF V hV)
 have eG:U (kJ c):=hS;have o7:U (∀e∈c.az,vd e):=FQ h0;have r0:gV c.closed:=by have:=fk.closed;unfold gV;omega
 have r1:gV c.opn:=by have:=fk.opn;unfold gV;omega
 have r2:gV c.cycle:=by have:=fk.cycle;unfold gV;omega
 have r3:gV c.bE:=by have:=fk.bE;unfold gV;omega
 have z0:=ng r0;have z1:=ng r1;have z2:=ng r2;have z3:=ng r3;obtain⟨p0,p1,p2,p3,p4,p5,p6,p7,-⟩:=yA ⟨#[119,105,110,100,111,119,32]⟩ [gA c.closed,⟨#[32]⟩,gA c.opn,⟨#[10,99,121,99,108,101,32]⟩,gA c.cycle,⟨#[10,100,101,108,97,121,32]⟩,gA c.bE,⟨#[10]⟩] (by simp[tA,nP];omega);clear z0 z1 z2 z3;clear hE hS h0;go_enter func9,ntmps9
 go_upto_region 1 with fail
 rw[<- hW];clear hW;have uN:U (∀(n:Int) V,Below W.heap.size W V->gV n->Calls prog 23 #[ae af n] V λe w'=>e=ax (aA (gA n))/\Below W.heap.size W w'):=λn V hV hn=>Ou W n V hV hn
 have HK:U (∀V,Below W.heap.size W V->V.cell? (ai w.heap.size 0 I)=J (ae af c.closed)/\V.cell? (ai w.heap.size 1 I)=J (ae af c.opn)/\V.cell? (ai w.heap.size 2 I)=J (ae af c.cycle)/\V.cell? (ai w.heap.size 3 I)=J (ae af c.bE)):=λV hV=>⟨HX V hV 0 _ rfl,HX V hV 1 _ rfl,HX V hV 2 _ rfl,HX V hV 3 _ rfl⟩
 obtain⟨s0,s1,s2,s3⟩:=HK W (aF _ _);go_region_held3 (λw'=>w'.cell? (ai w.heap.size 0 I)=J (ae af c.closed)/\w'.cell? (ai w.heap.size 1 I)=J (ae af c.opn)/\w'.cell? (ai w.heap.size 2 I)=J (ae af c.cycle)/\w'.cell? (ai w.heap.size 3 I)=J (ae af c.bE)) (first|exact⟨s0,s1,s2,s3⟩|exact HK _ gw|exact HK _ (br gw _)) (first|(go_at_call 23;refine aO (uN.o _ _ ?_ ?_) ?_;(first|exact gw|exact br gw _|exact br (aF _ _) _|exact aF _ _|exact cT.o|exact br cT _);(first|exact r0|exact r1|exact r2|exact r3);rintro v w2 ⟨rfl,gw⟩))
 all_goals
  have cB:U (Below W.heap.size W w2):=gw;obtain⟨Ov,Jf⟩:∃o:ByteArray,o=⟨#[119,105,110,100,111,119,32]⟩++gA c.closed++⟨#[32]⟩++gA c.opn++⟨#[10,99,121,99,108,101,32]⟩++gA c.cycle++⟨#[10,100,101,108,97,121,32]⟩++gA c.bE++⟨#[10]⟩:=⟨_,rfl⟩;rw[<- Jf];have mO:U (bl Ov=tl (rM c)):=by show _=_;rw[Jf];exact VZ c
  have Jg:U ((tl (rM c)).length<=1000):=by
   show _<=_
   have h1:bl Ov=tl (rM c):=mO.o;rw[<- h1,AE,Jf];have z0:=ng r0;have z1:=ng r1;have z2:=ng r2;have z3:=ng r3;simp[nP]
   omega
  clear gw Jf p0 p1 p2 p3 p4 p5 p6 p7 s0 s1 s2 s3 r0 r1 r2 r3 HK uN;go_upto_region 2 with fail
  go_cut [4] (λi wv=>i=ae af 0/\wv=w2)
  case first=>
   go_wp2
   go_meet
   case rel=>exact⟨rfl,rfl⟩
  obtain⟨rfl,rfl⟩:=hcut;rename ak=>w2
  go_wp2_with fail
  go_loopw [3,4,5,6,7,8,9,10,11] (λov iv _ _ _ _ _ _ _ wr=>∃(k:Nat) (out:ByteArray),k<=c.az.length/\iv=ae af k/\ov=aA out/\Below W.heap.size W wr/\bl out=tl (rM c)++tl ((c.az.take k).flatMap dD)) (λ_ iv _ _ _ _ _ _ _ _=>c.az.length-(intOf iv).toNat)
  case atStart=>exact⟨0,Ov,bA _,rfl,rfl,cB,by rw[mO.o];simp[tl]⟩
  case round=>
   clear cB mO;obtain⟨k,out,hk,rfl,rfl,hbr,ho⟩:=hrel;have HR:U (Below W.heap.size W wr):=hbr;have HO:U (bl out=tl (rM c)++tl ((c.az.take k).flatMap dD)):=ho;have V7:U (out.size<=400001000):=by
    show _<=_
    have h1:=kR.o;have h2:=Jg.o;have h3:tl (c.az.flatMap dD)=tl ((c.az.take k).flatMap dD)++tl ((c.az.drop k).flatMap dD):=by rw[<- wV,<- ji,rf]
    rw[h3,cY]at h1;rw[<- AE,ho,cY];omega
   clear hbr ho;have x4:=HX wr HR 4 _ rfl
   by_cases hlt:k<c.az.length
   ·have k1:(k:Int)<(c.az.length:Int):=by omega
    have k2:k<1000000:=by have:=eG.hn;omega
    as_aux_lemma=>
     obtain⟨e,he⟩:∃e,c.az[k]?=J e:=⟨_,bq hlt⟩;have lN:U (tl ((c.az.take (k+1)).flatMap dD)=tl ((c.az.take k).flatMap dD)++tl (dD e)):=by show _=_;rw[eI,he,ji,wV];simp
     have gB:U (tG e/\vd e):=⟨fk.az e (bP he),o7 e (bP he)⟩;obtain⟨bQ,cap',bH,hcc⟩:=rG wr HR
     cases bH
     obtain⟨g,o,rfl,hc0⟩:=hcc (λh=>by rw[h]at he;simp at he);obtain⟨pv,gv,ev,fv,lv,hP,hcell⟩:=hc0 k e he;obtain⟨pa,pc,rfl,-⟩:=id hP.hp;obtain⟨ga,gc,rfl,-⟩:=id hP.hg;obtain⟨ea,ec,rfl,-⟩:=id hP.he;obtain⟨fa,fc,rfl,-⟩:=id hP.hf;obtain⟨la,lc,rfl,-⟩:=id hP.hl;have z0:wr.cell? ⟨g,o+k*10,I⟩=J (aA e.name):=by have:=hcell 0 (aA e.name) rfl;simpa using this
     have z1:wr.cell? ⟨g,o+k*10+1,I⟩=J (ae af e.bh):=by have:=hcell 1 (ae af e.bh) rfl;simpa using this
     have z2:wr.cell? ⟨g,o+k*10+2,I⟩=J (aj pa e.au.length pc):=by have:=hcell 2 (aj pa e.au.length pc) rfl;simpa using this
     have z3:wr.cell? ⟨g,o+k*10+3,I⟩=J (ae af e.cnt):=by have:=hcell 3 (ae af e.cnt) rfl;simpa using this
     have z4:wr.cell? ⟨g,o+k*10+4,I⟩=J (ae af e.mn):=by have:=hcell 4 (ae af e.mn) rfl;simpa using this
     have z5:wr.cell? ⟨g,o+k*10+5,I⟩=J (ae af e.mx):=by have:=hcell 5 (ae af e.mx) rfl;simpa using this
     have z6:wr.cell? ⟨g,o+k*10+6,I⟩=J (aj ga e.aV.length gc):=by have:=hcell 6 (aj ga e.aV.length gc) rfl;simpa using this
     have z7:wr.cell? ⟨g,o+k*10+7,I⟩=J (aj ea e.aP.length ec):=by have:=hcell 7 (aj ea e.aP.length ec) rfl;simpa using this
     have z8:wr.cell? ⟨g,o+k*10+8,I⟩=J (aj fa e.first.length fc):=by have:=hcell 8 (aj fa e.first.length fc) rfl;simpa using this
     have z9:wr.cell? ⟨g,o+k*10+9,I⟩=J (aj la e.last.length lc):=by have:=hcell 9 (aj la e.last.length lc) rfl;simpa using this
     obtain⟨V,hV⟩:∃V,V=wr.alloc (ay (eR e pa pc ga gc ea ec fa fc la lc) 58):=⟨_,rfl⟩;have Jh:U (Below wr.heap.size wr V):=by show Below _ _ _;rw[hV];exact aS _ _
     have amj:U (∀X,Below V.heap.size V X->Below W.heap.size W X):=λX hX=>HR.trans ((Jh.trans (hX.mono Jh.size)).mono HR.size)
     have oI:U (∀X,Below V.heap.size V X->∀(j:Nat) u,((eR e pa pc ga gc ea ec fa fc la lc):Array aw)[j]?=J u->X.cell? (ai wr.heap.size j I)=J u):=λX hX j u hu=>by
      have:=a8 hX (show V.heap[wr.heap.size]?=_ by rw[hV];exact cj wr _);simp[aH,this,hu]
     have HP:U (∀X,Below V.heap.size V X->fh X e (aj pa e.au.length pc) (aj ga e.aV.length gc) (aj ea e.aP.length ec) (aj fa e.first.length fc) (aj la e.last.length lc)):=λX hX=>hP.below (Jh.trans (hX.mono Jh.size))
     have uN:U (∀(n:Int) X,Below V.heap.size V X->gV n->Calls prog 23 #[ae af n] X λe w'=>e=ax (aA (gA n))/\Below V.heap.size V w'):=λn X hX hn=>Ou V n X hX hn
     clear hP hcell hc0 hcc he;go_upto_region 6 with fail
     rw[<- hV];clear hV x4 z0 z1 z2 z3 z4 z5 z6 z7 z8 z9;have r0:gV e.bh:=by have:=gB.1.bh;unfold gV;omega
     have q0:=ng r0;have q1:=uS gB.1.name;have q2:=V7.o;obtain⟨p0,p1,p2,p3,p4,-⟩:=yA out [⟨#[101,110,116,105,116,121,32]⟩,e.name,⟨#[32]⟩,gA e.bh,⟨#[10]⟩] (by simp[tA,nP];omega);clear q0 q1 q2;have HK:U (∀X,Below V.heap.size V X->X.cell? (ai wr.heap.size 0 I)=J (aA e.name)/\X.cell? (ai wr.heap.size 1 I)=J (ae af e.bh)):=λX hX=>⟨oI X hX 0 _ rfl,oI X hX 1 _ rfl⟩
     obtain⟨s0,s1⟩:=HK V (aF _ _);go_region_held3 (λw'=>w'.cell? (ai wr.heap.size 0 I)=J (aA e.name)/\w'.cell? (ai wr.heap.size 1 I)=J (ae af e.bh)) (first|exact⟨s0,s1⟩|exact HK _ gw|exact HK _ (br gw _)) (first|(go_at_call 23;refine aO (uN.o _ _ ?_ ?_) ?_;(first|exact gw|exact br gw _|exact br (aF _ _) _|exact aF _ _|exact cT.o|exact br cT _);(first|exact r0);rintro v w2 ⟨rfl,gw⟩))
     all_goals
      as_aux_lemma=>
       have cT:U (Below V.heap.size V w2):=gw;obtain⟨o1,Af⟩:∃o1:ByteArray,o1=out++⟨#[101,110,116,105,116,121,32]⟩++e.name++⟨#[32]⟩++gA e.bh++⟨#[10]⟩:=⟨_,rfl⟩;rw[<- Af];have kr:U (bl o1=bl out++tl [a6 3 [bl e.name,num e.bh]]):=by
        show _=_
        rw[Af];simp only[tu,Je];simp[bl,tl,a6,kw]
       have amk:U (o1.size<=400002000):=by
        show _<=_
        rw[Af];have q0:=ng r0;have q1:=uS gB.1.name;have q2:=V7.o;simp[nP]
        omega
       clear gw Af p0 p1 p2 p3 p4 s0 s1 r0 HK;rename ak=>di
       go_upto_region 7 with fail
       go_cut [6] (λi wv=>i=ae af 0/\wv=di)
       case first=>
        go_wp2
        go_meet
        case rel=>exact⟨rfl,rfl⟩
       obtain⟨rfl,rfl⟩:=hcut;rename ak=>di
       go_wp2_with fail
       go_loopw [3,6] (λov iv  wx=>∃(j:Nat) (oP:ByteArray),j<=e.au.length/\iv=ae af j/\ov=aA oP/\Below V.heap.size V wx/\bl oP=bl o1++tl ((e.au.take j).map (λp=>a6 4 [bl p]))/\oP.size<=400002000+200*j) (λ_ iv  _=>e.au.length-(intOf iv).toNat)
       case atStart=>exact⟨0,o1,bA _,rfl,rfl,cT,by simp[tl],by have:=amk.o;omega⟩
       case round=>
        clear cT;obtain⟨j,oP,hj,rfl,rfl,cN,gJ,hs2⟩:=hrel;rename ak=>di
        have cT:U (Below V.heap.size V di):=cN;have eW:U (bl oP=bl o1++tl ((e.au.take j).map (λp=>a6 4 [bl p]))):=gJ;have fM:U (oP.size<=400002000+200*j):=hs2;clear cN gJ hs2;have pg:U (e.au.length<=64):=by show _<=_;have:=gB.2.au;omega
        have x2:=oI di cT 2 _ rfl
        by_cases nC:j<e.au.length
        ·have j1:(j:Int)<(e.au.length:Int):=by omega
         have j2:j<100:=by have:=pg.o;omega
         as_aux_lemma=>
          obtain⟨q,hq⟩:∃q,e.au[j]?=J q:=⟨_,bq nC⟩;have HQ:U (e.au[j]?=J q):=hq;obtain⟨g2,o3,rfl,hc⟩:=pI (HP di cT).hp hq;have c0:=hc j q hq;clear hc hq;have q1:=uS (gB.1.pn q (bP HQ.o));have q9:=fM.o;obtain⟨p0,p1,p2,-⟩:=yA oP [⟨#[112,111,105,110,116,32]⟩,q,⟨#[10]⟩] (by simp[tA,nP];omega);have HN:U (bl (oP++⟨#[112,111,105,110,116,32]⟩++q++⟨#[10]⟩)=bl o1++tl ((e.au.take (j+1)).map (λp=>a6 4 [bl p]))):=by
           show _=_
           rw[eI,HQ.o,lC,wV,<- gh,<- eW.o];simp only[tu];simp[bl,tl,a6,kw]
          have oq:U ((oP++⟨#[112,111,105,110,116,32]⟩++q++⟨#[10]⟩).size<=400002000+200*(j+1)):=by
           show _<=_
           simp[nP]
           omega
          clear q9;clear q1;go_wp2
          go_roundw
          case rel=>exact⟨j+1,_,by omega,by go_num,rfl,cT,HN,oq⟩
          case measure=>simp[intOf];omega
        have j1:¬(j:Int)<(e.au.length:Int):=by omega
        as_aux_lemma=>
         have MR:U (bl oP=bl o1++tl (e.au.map (λp=>a6 4 [bl p]))):=by show _=_;rw[eW.o,iM (by omega)]
         have V8:U (oP.size<=400020000):=by show _<=_;have:=fM.o;have:=pg.o;omega
         clear eW fM;have x3:=oI di cT 3 _ rfl;go_upto_if 73 with fail
         clear nC j1 hj pg x2
         go_cut [3] (λov wv=>∃oC:ByteArray,ov=aA oC/\Below V.heap.size V wv/\bl oC=bl oP++tl (if e.cnt=-1 then []else [a6 5 [pt e.au e.cnt,num e.mn,num e.mx]])/\oC.size<=400021000)
         case first=>
          as_aux_lemma=>
           rcases gB.1.cnt with⟨hc,-⟩|⟨hc0,hc1⟩
           ·have d0:¬0<=e.cnt:=by omega
            have HT:U (bl oP=bl oP++tl (if e.cnt=-1 then []else [a6 5 [pt e.au e.cnt,num e.mn,num e.mx]])):=by show _=_;rw[aU hc];simp[tl]
            clear hc;go_wp2
            go_meet
            case rel=>exact⟨oP,rfl,cT,HT,by have:=V8.o;omega⟩
           obtain⟨m,q,hm,hq,apk⟩:=AH hc0 hc1;obtain⟨g2,o3,rfl,hcs⟩:=pI (HP V (aF _ _)).hp hq;have HQ:U (e.au[m]?=J q):=hq;have HM:U (e.cnt=(m:Int)):=hm;have r0:gV e.mn:=by have:=gB.1.mm;unfold gV;omega
           have r1:gV e.mx:=by have:=gB.1.mm;unfold gV;omega
           have HK:U (∀X,Below V.heap.size V X->X.cell? (ai wr.heap.size 2 I)=J (aj (J (ai g2 o3 I)) e.au.length pc)/\X.cell? (ai wr.heap.size 3 I)=J (ae af (m:Int))/\X.cell? (ai wr.heap.size 4 I)=J (ae af e.mn)/\X.cell? (ai wr.heap.size 5 I)=J (ae af e.mx)/\X.cell? ⟨g2,o3+m,I⟩=J (aA q)):=λX hX=>⟨oI X hX 2 _ rfl,by rw[<- HM.o];exact oI X hX 3 _ rfl,oI X hX 4 _ rfl,oI X hX 5 _ rfl,aJ hX (hcs m q hq)⟩
           obtain⟨s0,s1,s2,s3,s4⟩:=HK di cT;have q1:=uS (gB.1.pn q (bP HQ.o));have q3:=ng r0;have q4:=ng r1;have q9:=V8.o;obtain⟨p0,p1,p2,p3,p4,p5,p6,-⟩:=yA oP [⟨#[99,111,117,110,116,32]⟩,q,⟨#[32]⟩,gA e.mn,⟨#[32]⟩,gA e.mx,⟨#[10]⟩] (by simp[tA,nP];omega);have HN:U (bl (oP++⟨#[99,111,117,110,116,32]⟩++q++⟨#[32]⟩++gA e.mn++⟨#[32]⟩++gA e.mx++⟨#[10]⟩)=bl oP++tl (if e.cnt=-1 then []else [a6 5 [pt e.au e.cnt,num e.mn,num e.mx]])):=by
            show _=_
            rw[aK (by omega),hm];simp only[tu,Je];simp[bl,tl,a6,kw,AG HQ.o]
           have oq:U ((oP++⟨#[99,111,117,110,116,32]⟩++q++⟨#[32]⟩++gA e.mn++⟨#[32]⟩++gA e.mx++⟨#[10]⟩).size<=400021000):=by
            show _<=_
            simp[nP]
            omega
           clear q1 q3 q4 q9 hcs hq hc0 hc1 x3 hm;have m0:¬(m:Int)<0:=by omega
           have d0:0<=e.cnt:=by have:=HM.o;omega
           go_wp2_with fail
           go_region_held3 (λw'=>w'.cell? (ai wr.heap.size 2 I)=J (aj (J (ai g2 o3 I)) e.au.length pc)/\w'.cell? (ai wr.heap.size 3 I)=J (ae af (m:Int))/\w'.cell? (ai wr.heap.size 4 I)=J (ae af e.mn)/\w'.cell? (ai wr.heap.size 5 I)=J (ae af e.mx)/\w'.cell? ⟨g2,o3+m,I⟩=J (aA q)) (first|exact⟨s0,s1,s2,s3,s4⟩|exact HK _ gw|exact HK _ (br gw _)) (first|(go_at_call 23;refine aO (uN.o _ _ ?_ ?_) ?_;(first|exact gw|exact br gw _|exact br (aF _ _) _|exact aF _ _|exact cT.o|exact br cT _);(first|exact r0|exact r1);rintro v w2 ⟨rfl,gw⟩))
           all_goals
            go_wp2
            go_meet
            case rel=>exact⟨_,rfl,gw,HN,oq⟩
         obtain⟨oC,rfl,nE,V9,hsc⟩:=hcut;rename ak=>di
         clear cT x3;have cT:U (Below V.heap.size V di):=nE;have aml:U (bl oC=bl oP++tl (if e.cnt=-1 then []else [a6 5 [pt e.au e.cnt,num e.mn,num e.mx]])):=V9;have amm:U (oC.size<=400021000):=hsc;clear nE V9 hsc;go_upto_region 13 with fail
         go_cut [7] (λi wv=>i=ae af 0/\wv=di)
         case first=>
          go_wp2
          go_meet
          case rel=>exact⟨rfl,rfl⟩
         obtain⟨rfl,rfl⟩:=hcut;rename ak=>di
         go_wp2_with fail
         go_loopw [3,7,8] (λov iv _ wx=>∃(j:Nat) (oG:ByteArray),j<=e.aV.length/\iv=ae af j/\ov=aA oG/\Below V.heap.size V wx/\bl oG=bl oC++tl ((e.aV.take j).map (λg=>a6 6 [pt e.au g.fr,pt e.au g.to,num g.mn,num g.mx]))/\oG.size<=400021000+600*j) (λ_ iv _ _=>e.aV.length-(intOf iv).toNat)
         case atStart=>exact⟨0,oC,bA _,rfl,rfl,cT,by simp[tl],by have:=amm.o;omega⟩
         case round=>
          clear cT;obtain⟨j,oG,hj,rfl,rfl,cN,gJ,hs2⟩:=hrel;rename ak=>di
          have cT:U (Below V.heap.size V di):=cN;have eW:U (bl oG=bl oC++tl ((e.aV.take j).map (λg=>a6 6 [pt e.au g.fr,pt e.au g.to,num g.mn,num g.mx]))):=gJ;have fM:U (oG.size<=400021000+600*j):=hs2;clear cN gJ hs2;have pg:U (e.aV.length<=64):=by show _<=_;have:=gB.2.aV;omega
          have x6:=oI di cT 6 _ rfl
          by_cases nC:j<e.aV.length
          ·have j1:(j:Int)<(e.aV.length:Int):=by omega
           have j2:j<100:=by have:=pg.o;omega
           as_aux_lemma=>
            obtain⟨q,hq⟩:∃q,e.aV[j]?=J q:=⟨_,bq nC⟩;have HQ:U (e.aV[j]?=J q):=hq;obtain⟨m1,u1,e1,kU,l1⟩:=AH (gB.1.aV q (bP hq)).1.1 (gB.1.aV q (bP hq)).1.2;obtain⟨m2,u2,e2,pO,l2⟩:=AH (gB.1.aV q (bP hq)).2.1.1 (gB.1.aV q (bP hq)).2.1.2;obtain⟨g2,o3,rfl,hcs⟩:=pI (HP V (aF _ _)).hp kU;have mU:U (e.au[m1]?=J u1/\e.au[m2]?=J u2):=⟨kU,pO⟩;have r2:gV q.mn:=by have:=(gB.1.aV q (bP hq)).2.2;unfold gV;omega
            have r3:gV q.mx:=by have:=(gB.1.aV q (bP hq)).2.2;unfold gV;omega
            obtain⟨q1,q2,q3,q4⟩:=q;simp only at e1 e2 r2 r3;subst e1 e2;obtain⟨bQ,cap',bH,-,hcc⟩:=(HP di cT).hg
            cases bH
            obtain⟨g3,o4,rfl,hc0⟩:=hcc (λh=>by rw[h]at hq;simp at hq);have c0:di.cell? ⟨g3,o4+j*4,I⟩=J (ae af (m1:Int)):=hc0 j _ hq 0 _ rfl;have c1:di.cell? ⟨g3,o4+j*4+1,I⟩=J (ae af (m2:Int)):=hc0 j _ hq 1 _ rfl;have c2:di.cell? ⟨g3,o4+j*4+2,I⟩=J (ae af q3):=hc0 j _ hq 2 _ rfl;have c3:di.cell? ⟨g3,o4+j*4+3,I⟩=J (ae af q4):=hc0 j _ hq 3 _ rfl;have amn:U (∀X,Below V.heap.size V X->X.cell? ⟨g2,o3+m1,I⟩=J (aA u1)/\X.cell? ⟨g2,o3+m2,I⟩=J (aA u2)):=λX hX=>⟨aJ hX (hcs m1 u1 kU),aJ hX (hcs m2 u2 pO)⟩
            clear hcc hc0 hq kU pO hcs;have s1:=uS (gB.1.pn u1 (bP mU.1));have s2:=uS (gB.1.pn u2 (bP mU.2));have s3:=ng r2;have s4:=ng r3;have q9:=fM.o;obtain⟨p0,p1,p2,p3,p4,p5,p6,p7,p8,-⟩:=yA oG [⟨#[103,97,112,32]⟩,u1,⟨#[32]⟩,u2,⟨#[32]⟩,gA q3,⟨#[32]⟩,gA q4,⟨#[10]⟩] (by simp[tA,nP];omega);have HN:U (bl (oG++⟨#[103,97,112,32]⟩++u1++⟨#[32]⟩++u2++⟨#[32]⟩++gA q3++⟨#[32]⟩++gA q4++⟨#[10]⟩)=bl oC++tl ((e.aV.take (j+1)).map (λg=>a6 6 [pt e.au g.fr,pt e.au g.to,num g.mn,num g.mx]))):=by
             show _=_
             rw[eI,HQ.o,lC,wV,<- gh,<- eW.o];simp only[tu];simp only[Je];simp[bl,tl,a6,kw,AG mU.1,AG mU.2]
            have oq:U ((oG++⟨#[103,97,112,32]⟩++u1++⟨#[32]⟩++u2++⟨#[32]⟩++gA q3++⟨#[32]⟩++gA q4++⟨#[10]⟩).size<=400021000+600*(j+1)):=by
             show _<=_
             simp[nP]
             omega
            clear q9;clear s1 s2 s3 s4;go_upto_region 17 with fail
            obtain⟨Y,hY⟩:∃Y,Y=di.alloc (ay #[ae af (m1:Int),ae af (m2:Int),ae af q3,ae af q4] 73):=⟨_,rfl⟩;rw[<- hY];have V_:U (Below di.heap.size di Y):=by show Below _ _ _;rw[hY];exact aS _ _
            have amo:U (Y.heap[di.heap.size]?=J (ay #[ae af (m1:Int),ae af (m2:Int),ae af q3,ae af q4] 73 (0,0))):=by show _=_;rw[hY];exact cj di _
            have Ow:U (∀X,Below Y.heap.size Y X->Below V.heap.size V X):=λX hX=>cT.trans ((V_.trans (hX.mono V_.size)).mono cT.size)
            clear hY c0 c1 c2 c3 x6;have uN:U (∀(n:Int) X,Below Y.heap.size Y X->gV n->Calls prog 23 #[ae af n] X λe w'=>e=ax (aA (gA n))/\Below Y.heap.size Y w'):=λn X hX hn=>Ou Y n X hX hn
            have HK:U (∀X,Below Y.heap.size Y X->X.cell? (ai wr.heap.size 2 I)=J (aj (J (ai g2 o3 I)) e.au.length pc)/\X.cell? (ai di.heap.size 0 I)=J (ae af (m1:Int))/\X.cell? (ai di.heap.size 1 I)=J (ae af (m2:Int))/\X.cell? (ai di.heap.size 2 I)=J (ae af q3)/\X.cell? (ai di.heap.size 3 I)=J (ae af q4)/\X.cell? ⟨g2,o3+m1,I⟩=J (aA u1)/\X.cell? ⟨g2,o3+m2,I⟩=J (aA u2)):=λX hX=>by
             have h1:=a8 hX amo;have h2:=amn X (Ow X hX);exact⟨oI X (Ow X hX) 2 _ rfl,by simp[aH,h1],by simp[aH,h1],by simp[aH,h1],by simp[aH,h1],h2.1,h2.2⟩
            obtain⟨s0,s1,s2,s3,s4,s5,s6⟩:=HK Y (aF _ _);have m0:¬(m1:Int)<0:=by omega
            have m3:¬(m2:Int)<0:=by omega
            go_region_held3 (λw'=>w'.cell? (ai wr.heap.size 2 I)=J (aj (J (ai g2 o3 I)) e.au.length pc)/\w'.cell? (ai di.heap.size 0 I)=J (ae af (m1:Int))/\w'.cell? (ai di.heap.size 1 I)=J (ae af (m2:Int))/\w'.cell? (ai di.heap.size 2 I)=J (ae af q3)/\w'.cell? (ai di.heap.size 3 I)=J (ae af q4)/\w'.cell? ⟨g2,o3+m1,I⟩=J (aA u1)/\w'.cell? ⟨g2,o3+m2,I⟩=J (aA u2)) (first|exact⟨s0,s1,s2,s3,s4,s5,s6⟩|exact HK _ gw|exact HK _ (br gw _)) (first|(go_at_call 23;refine aO (uN.o _ _ ?_ ?_) ?_;(first|exact gw|exact br gw _|exact br (aF _ _) _|exact aF _ _|exact cT.o|exact br cT _);(first|exact r2|exact r3);rintro v w2 ⟨rfl,gw⟩))
            all_goals
             have rz:U (Below V.heap.size V w2):=Ow _ gw;clear gw s0 s1 s2 s3 s4 s5 s6;go_wp2
             go_roundw
             case rel=>exact⟨j+1,_,by omega,by go_num,rfl,rz,HN,oq⟩
             case measure=>simp[intOf];omega
          have j1:¬(j:Int)<(e.aV.length:Int):=by omega
          as_aux_lemma=>
           have amp:U (bl oG=bl oC++tl (e.aV.map (λg=>a6 6 [pt e.au g.fr,pt e.au g.to,num g.mn,num g.mx]))):=by show _=_;rw[eW.o,iM (by omega)]
           have amq:U (oG.size<=400060000):=by show _<=_;have:=fM.o;have:=pg.o;omega
           clear eW fM;go_upto_region 18 with fail
           go_cut [9] (λi wv=>i=ae af 0/\wv=di)
           case first=>
            go_wp2
            go_meet
            case rel=>exact⟨rfl,rfl⟩
           obtain⟨rfl,rfl⟩:=hcut;rename ak=>di
           go_wp2_with fail
           go_loopw [3,9] (λov iv  wx=>∃(j:Nat) (oE:ByteArray),j<=e.aP.length/\iv=ae af j/\ov=aA oE/\Below V.heap.size V wx/\bl oE=bl oG++tl ((e.aP.take j).map (λd=>a6 7 [pt e.au d.1,pt e.au d.2]))/\oE.size<=400060000+400*j) (λ_ iv  _=>e.aP.length-(intOf iv).toNat)
           case atStart=>exact⟨0,oG,bA _,rfl,rfl,cT,by simp[tl],by have:=amq.o;omega⟩
           case round=>
            clear cT;obtain⟨j,oE,hj,rfl,rfl,cN,gJ,hs2⟩:=hrel;rename ak=>di
            have cT:U (Below V.heap.size V di):=cN;have eW:U (bl oE=bl oG++tl ((e.aP.take j).map (λd=>a6 7 [pt e.au d.1,pt e.au d.2]))):=gJ;have fM:U (oE.size<=400060000+400*j):=hs2;clear cN gJ hs2;have pg:U (e.aP.length<=64):=by show _<=_;have:=gB.2.aP;omega
            have x7:=oI di cT 7 _ rfl
            by_cases nC:j<e.aP.length
            ·have j1:(j:Int)<(e.aP.length:Int):=by omega
             have j2:j<100:=by have:=pg.o;omega
             as_aux_lemma=>
              obtain⟨q,hq⟩:∃q,e.aP[j]?=J q:=⟨_,bq nC⟩;have HQ:U (e.aP[j]?=J q):=hq;obtain⟨m1,u1,e1,kU,l1⟩:=AH (gB.1.aP q (bP hq)).1.1 (gB.1.aP q (bP hq)).1.2;obtain⟨m2,u2,e2,pO,l2⟩:=AH (gB.1.aP q (bP hq)).2.1 (gB.1.aP q (bP hq)).2.2;obtain⟨g2,o3,rfl,hcs⟩:=pI (HP V (aF _ _)).hp kU;have mU:U (e.au[m1]?=J u1/\e.au[m2]?=J u2):=⟨kU,pO⟩;obtain⟨q1,q2⟩:=q;simp only at e1 e2;subst e1 e2;obtain⟨bQ,cap',bH,-,hcc⟩:=(HP di cT).he
              cases bH
              obtain⟨g3,o4,rfl,hc0⟩:=hcc (λh=>by rw[h]at hq;simp at hq);have c0:di.cell? ⟨g3,o4+j*2,I⟩=J (ae af (m1:Int)):=hc0 j _ hq 0 _ rfl;have c1:di.cell? ⟨g3,o4+j*2+1,I⟩=J (ae af (m2:Int)):=hc0 j _ hq 1 _ rfl;have c2:=aJ cT (hcs m1 u1 kU);have c3:=aJ cT (hcs m2 u2 pO);have x2:=oI di cT 2 _ rfl;have m0:¬(m1:Int)<0:=by omega
              have m3:¬(m2:Int)<0:=by omega
              clear hcc hc0 hq kU pO hcs;have s1:=uS (gB.1.pn u1 (bP mU.1));have s2:=uS (gB.1.pn u2 (bP mU.2));have q9:=fM.o;obtain⟨p0,p1,p2,p3,p4,-⟩:=yA oE [⟨#[101,100,103,101,32]⟩,u1,⟨#[32]⟩,u2,⟨#[10]⟩] (by simp[tA,nP];omega);have HN:U (bl (oE++⟨#[101,100,103,101,32]⟩++u1++⟨#[32]⟩++u2++⟨#[10]⟩)=bl oG++tl ((e.aP.take (j+1)).map (λd=>a6 7 [pt e.au d.1,pt e.au d.2]))):=by
               show _=_
               rw[eI,HQ.o,lC,wV,<- gh,<- eW.o];simp only[tu];simp[bl,tl,a6,kw,AG mU.1,AG mU.2]
              have oq:U ((oE++⟨#[101,100,103,101,32]⟩++u1++⟨#[32]⟩++u2++⟨#[10]⟩).size<=400060000+400*(j+1)):=by
               show _<=_
               simp[nP]
               omega
              clear q9;clear s1 s2;go_wp2_with fail
              go_quiet (fail)
              go_wp2
              go_roundw
              case rel=>exact⟨j+1,_,by omega,by go_num,rfl,br cT _,HN,oq⟩
              case measure=>simp[intOf];omega
            have j1:¬(j:Int)<(e.aP.length:Int):=by omega
            as_aux_lemma=>
             have amr:U (bl oE=bl oG++tl (e.aP.map (λd=>a6 7 [pt e.au d.1,pt e.au d.2]))):=by show _=_;rw[eW.o,iM (by omega)]
             have Mu:U (oE.size<=400100000):=by show _<=_;have:=fM.o;have:=pg.o;omega
             clear eW fM;go_upto_region 22 with fail
             go_cut [10] (λi wv=>i=ae af 0/\wv=di)
             case first=>
              go_wp2
              go_meet
              case rel=>exact⟨rfl,rfl⟩
             obtain⟨rfl,rfl⟩:=hcut;rename ak=>di
             go_wp2_with fail
             go_loopw [3,10] (λov iv  wx=>∃(j:Nat) (oF:ByteArray),j<=e.first.length/\iv=ae af j/\ov=aA oF/\Below V.heap.size V wx/\bl oF=bl oE++tl ((e.first.take j).map (λx=>a6 8 [pt e.au x]))/\oF.size<=400100000+400*j) (λ_ iv  _=>e.first.length-(intOf iv).toNat)
             case atStart=>exact⟨0,oE,bA _,rfl,rfl,cT,by simp[tl],by have:=Mu.o;omega⟩
             case round=>
              clear cT;obtain⟨j,oF,hj,rfl,rfl,cN,gJ,hs2⟩:=hrel;rename ak=>di
              have cT:U (Below V.heap.size V di):=cN;have eW:U (bl oF=bl oE++tl ((e.first.take j).map (λx=>a6 8 [pt e.au x]))):=gJ;have fM:U (oF.size<=400100000+400*j):=hs2;clear cN gJ hs2;have pg:U (e.first.length<=64):=by show _<=_;have:=gB.2.first;omega
              have x8:=oI di cT 8 _ rfl
              by_cases nC:j<e.first.length
              ·have j1:(j:Int)<(e.first.length:Int):=by omega
               have j2:j<100:=by have:=pg.o;omega
               as_aux_lemma=>
                obtain⟨q,hq⟩:∃q,e.first[j]?=J q:=⟨_,bq nC⟩;have HQ:U (e.first[j]?=J q):=hq;obtain⟨m1,u1,e1,kU,l1⟩:=AH (gB.1.first q (bP hq)).1 (gB.1.first q (bP hq)).2;obtain⟨g2,o3,rfl,hcs⟩:=pI (HP V (aF _ _)).hp kU;have mU:U (e.au[m1]?=J u1):=kU;subst e1;obtain⟨g3,o4,rfl,hc0⟩:=sj (HP di cT).hf hq;have c0:=hc0 j _ hq;have c2:=aJ cT (hcs m1 u1 kU);have x2:=oI di cT 2 _ rfl;have m0:¬(m1:Int)<0:=by omega
                clear hc0 hq kU hcs;have s1:=uS (gB.1.pn u1 (bP mU.o));have q9:=fM.o;obtain⟨p0,p1,p2,-⟩:=yA oF [⟨#[102,105,114,115,116,32]⟩,u1,⟨#[10]⟩] (by simp[tA,nP];omega);have HN:U (bl (oF++⟨#[102,105,114,115,116,32]⟩++u1++⟨#[10]⟩)=bl oE++tl ((e.first.take (j+1)).map (λx=>a6 8 [pt e.au x]))):=by
                 show _=_
                 rw[eI,HQ.o,lC,wV,<- gh,<- eW.o];simp only[tu];simp[bl,tl,a6,kw,AG mU.o]
                have oq:U ((oF++⟨#[102,105,114,115,116,32]⟩++u1++⟨#[10]⟩).size<=400100000+400*(j+1)):=by
                 show _<=_
                 simp[nP]
                 omega
                clear q9;clear s1;go_wp2_with fail
                go_quiet (fail)
                go_wp2
                go_roundw
                case rel=>exact⟨j+1,_,by omega,by go_num,rfl,br cT _,HN,oq⟩
                case measure=>simp[intOf];omega
              have j1:¬(j:Int)<(e.first.length:Int):=by omega
              as_aux_lemma=>
               have ams:U (bl oF=bl oE++tl (e.first.map (λx=>a6 8 [pt e.au x]))):=by show _=_;rw[eW.o,iM (by omega)]
               have amt:U (oF.size<=400140000):=by show _<=_;have:=fM.o;have:=pg.o;omega
               clear eW fM;go_upto_region 26 with fail
               go_cut [11] (λi wv=>i=ae af 0/\wv=di)
               case first=>
                go_wp2
                go_meet
                case rel=>exact⟨rfl,rfl⟩
               obtain⟨rfl,rfl⟩:=hcut;rename ak=>di
               go_wp2_with fail
               go_loopw [3,11] (λov iv  wx=>∃(j:Nat) (oL:ByteArray),j<=e.last.length/\iv=ae af j/\ov=aA oL/\Below V.heap.size V wx/\bl oL=bl oF++tl ((e.last.take j).map (λx=>a6 9 [pt e.au x]))/\oL.size<=400140000+400*j) (λ_ iv  _=>e.last.length-(intOf iv).toNat)
               case atStart=>exact⟨0,oF,bA _,rfl,rfl,cT,by simp[tl],by have:=amt.o;omega⟩
               case round=>
                clear cT;obtain⟨j,oL,hj,rfl,rfl,cN,gJ,hs2⟩:=hrel;rename ak=>di
                have cT:U (Below V.heap.size V di):=cN;have eW:U (bl oL=bl oF++tl ((e.last.take j).map (λx=>a6 9 [pt e.au x]))):=gJ;have fM:U (oL.size<=400140000+400*j):=hs2;clear cN gJ hs2;have pg:U (e.last.length<=64):=by show _<=_;have:=gB.2.last;omega
                have x9:=oI di cT 9 _ rfl
                by_cases nC:j<e.last.length
                ·have j1:(j:Int)<(e.last.length:Int):=by omega
                 have j2:j<100:=by have:=pg.o;omega
                 as_aux_lemma=>
                  obtain⟨q,hq⟩:∃q,e.last[j]?=J q:=⟨_,bq nC⟩;have HQ:U (e.last[j]?=J q):=hq;obtain⟨m1,u1,e1,kU,l1⟩:=AH (gB.1.last q (bP hq)).1 (gB.1.last q (bP hq)).2;obtain⟨g2,o3,rfl,hcs⟩:=pI (HP V (aF _ _)).hp kU;have mU:U (e.au[m1]?=J u1):=kU;subst e1;obtain⟨g3,o4,rfl,hc0⟩:=sj (HP di cT).hl hq;have c0:=hc0 j _ hq;have c2:=aJ cT (hcs m1 u1 kU);have x2:=oI di cT 2 _ rfl;have m0:¬(m1:Int)<0:=by omega
                  clear hc0 hq kU hcs;have s1:=uS (gB.1.pn u1 (bP mU.o));have q9:=fM.o;obtain⟨p0,p1,p2,-⟩:=yA oL [⟨#[108,97,115,116,32]⟩,u1,⟨#[10]⟩] (by simp[tA,nP];omega);have HN:U (bl (oL++⟨#[108,97,115,116,32]⟩++u1++⟨#[10]⟩)=bl oF++tl ((e.last.take (j+1)).map (λx=>a6 9 [pt e.au x]))):=by
                   show _=_
                   rw[eI,HQ.o,lC,wV,<- gh,<- eW.o];simp only[tu];simp[bl,tl,a6,kw,AG mU.o]
                  have oq:U ((oL++⟨#[108,97,115,116,32]⟩++u1++⟨#[10]⟩).size<=400140000+400*(j+1)):=by
                   show _<=_
                   simp[nP]
                   omega
                  clear q9;clear s1;go_wp2_with fail
                  go_quiet (fail)
                  go_wp2
                  go_roundw
                  case rel=>exact⟨j+1,_,by omega,by go_num,rfl,br cT _,HN,oq⟩
                  case measure=>simp[intOf];omega
                have j1:¬(j:Int)<(e.last.length:Int):=by omega
                as_aux_lemma=>
                 have amu:U (bl oL=bl oF++tl (e.last.map (λx=>a6 9 [pt e.au x]))):=by show _=_;rw[eW.o,iM (by omega)]
                 have N0:U (oL.size<=400200000):=by show _<=_;have:=fM.o;have:=pg.o;omega
                 clear eW fM;have jS:U (bl oL=tl (rM c)++tl ((c.az.take (k+1)).flatMap dD)):=by
                  show _=_
                  rw[lN.o,<- gh,<- HO.o,amu.o,ams.o,amr.o,amp.o,aml.o,MR.o,kr.o];unfold dD;rw[show (a6 3 [bl e.name,num e.bh]::(e.au.map (λp=>a6 4 [bl p])++((if e.cnt=-1 then []else [a6 5 [pt e.au e.cnt,num e.mn,num e.mx]])++(e.aV.map (λg=>a6 6 [pt e.au g.fr,pt e.au g.to,num g.mn,num g.mx])++(e.aP.map (λd=>a6 7 [pt e.au d.1,pt e.au d.2])++(e.first.map (λx=>a6 8 [pt e.au x])++e.last.map (λx=>a6 9 [pt e.au x])))))))=[a6 3 [bl e.name,num e.bh]]++(e.au.map (λp=>a6 4 [bl p])++((if e.cnt=-1 then []else [a6 5 [pt e.au e.cnt,num e.mn,num e.mx]])++(e.aV.map (λg=>a6 6 [pt e.au g.fr,pt e.au g.to,num g.mn,num g.mx])++(e.aP.map (λd=>a6 7 [pt e.au d.1,pt e.au d.2])++(e.first.map (λx=>a6 8 [pt e.au x])++e.last.map (λx=>a6 9 [pt e.au x]))))))from rfl];simp only[wV,gh]
                 have rz:U (Below W.heap.size W di):=amj _ cT;go_wp2
                 go_roundw
                 case rel=>exact⟨k+1,oL,by omega,by go_num,rfl,rz,jS⟩
                 case measure=>simp[intOf];omega
   have k1:¬(k:Int)<(c.az.length:Int):=by omega
   have HE:U ((⟨(fK c).toArray⟩:ByteArray)=out):=by
    show _=_
    apply oK
    rw[rS,VY,HO.o,iM (by omega)]
   go_wp2;go_ret;exact⟨by rw[HE.o];rfl,HF _ HR⟩
def amv(h0:(cJ c).1=0):(tl (rM c)).length<=1000:=by
 have fk:=w_ h0;have r0:gV c.closed:=by have:=fk.closed;unfold gV;omega
 have r1:gV c.opn:=by have:=fk.opn;unfold gV;omega
 have r2:gV c.cycle:=by have:=fk.cycle;unfold gV;omega
 have r3:gV c.bE:=by have:=fk.bE;unfold gV;omega
 have z0:=ng r0;have z1:=ng r1;have z2:=ng r2;have z3:=ng r3;rw[<- VZ,AE];simp[nP]
 omega
def amw(h0:(cJ c).1=0):(fK c).length<=400001000:=by
 rw[VY,cY];have h1:=amv h0;have h2:=FR h0;have h3:(tl (c.az.flatMap dD)).length<=400000000:=h2;omega
section
variable {F:Nat->Prop}{w0 w W V V':ak}{c:aX}{ev:aw}{kb bm kk:Nat}{K K':aD}{na:Option aC}{nc:Nat}{N:List Int}{wd:ByteArray}
def cu.on{F':Nat->Prop}(h:cu F' w0 W c ev kb bm K V)(hF:∀k,F' k->F k)(hW:Below w.heap.size w W)(hV:Below V.heap.size V V'):cu F w0 w c ev kb bm K V':=by
 obtain⟨h1,h2⟩:=h.from hW
 exact⟨(h1.below hV).mono (λk hk=>hk.imp (hF k) (λ⟨a,b⟩=>⟨a,cK b hV.size⟩)),(h2.mono (λk _ hk=>hF k hk)).trans (aG.dm hV F) (λ_ _ e=>e)⟩
structure rN(F:Nat->Prop)(w0 w W:ak)(c:aX)(ev:aw)(kb bm:Nat)(K:aD)(wd:ByteArray)(na:Option aC)(nc:Nat)(N:List Int):Prop where
 at':dO F w0 W c ev kb bm K
 low:∀k,F k->w0.heap.size<=k/\k<w.heap.size
 row:W.heap[w.heap.size]?=J (ay #[aA wd,aj na N.length nc] 46 (0,0))
 ns:bw bT 1 w0 (aj na N.length nc) N
 aY:Below w.heap.size w W
def rN.box(h:dO F w0 w c ev kb bm K)(hn:bw bT 1 w0 (aj na N.length nc) N)(wd:ByteArray):∃W,W=w.alloc (ay #[aA wd,aj na N.length nc] 46)/\rN (λk=>F k/\w0.heap.size<=k/\k<w.heap.size) w0 w W c ev kb bm K wd na nc N:=by
 refine⟨_,rfl,dO.below ?_ (aS _ _),λk hk=>hk.2,cj w _,hn,aS _ _⟩;obtain⟨H,bd,rm,bt,v,lv,m,bs,h1,h2⟩:=h;exact⟨H,bd,rm,bt,v,lv,m,bs,h1,λi k hk=>⟨h2 i k hk,h1.bO.lo i k hk,h1.bO.lt i k hk⟩⟩
def rN.cc(h:rN F w0 w W c ev kb bm K wd na nc N)(hV:aG F W V):V.cell? (ai w.heap.size 0 I)=J (aA wd)/\V.cell? (ai w.heap.size 1 I)=J (aj na N.length nc):=by
 have:=(hV.block w.heap.size (bL h.row) (λhf=>Nat.lt_irrefl _ (h.low _ hf).2)).trans h.row;exact⟨by simp[aH,this],by simp[aH,this]⟩
def rN.nn(h:rN F w0 w W c ev kb bm K wd na nc N)(hx:N[0]?=J x):∃g o,na=J ⟨g,o,I⟩/\∀V,aG F W V->∀i x,N[i]?=J x->V.cell? ⟨g,o+i,I⟩=J (ae af x):=by
 obtain⟨g,o,rfl,hc⟩:=sj h.ns hx;exact⟨g,o,rfl,λV hV i x hi=>aJ (aG.below h.at'.aY hV h.at'.aY.size (λk hk=>(h.low k hk).1)) (hc i x hi)⟩
def dO.m5(h:dO F w0 w c ev kb bm K):w.cell? (ai kb 5 I)=J (aq (J (ai bm 0 I))):=by
 obtain⟨H,bd,rm,bt,v,lv,m,bs,h1,-⟩:=h;exact h1.cell 5 _ rfl
def amx(n:Int)(h:dO F w0 w c ev kb bm K)(hN:bw bT 1 w0 (aj na 1 nc) ([n]:List Int)):Calls prog 12 #[aq (J (ai kb 0 I)),bK #[aA ⟨#[98,101,103,105,110]⟩,aj na 1 nc]] w λe w'=>e=ax (aA (mX (K.begin n).2))/\cu F w0 w c ev kb bm (K.begin n).1 w':=by
 obtain⟨W,hW,hA⟩:=rN.box (N:=[n]) h hN ⟨#[98,101,103,105,110]⟩;replace hW:W=w.alloc (ay #[aA ⟨#[98,101,103,105,110]⟩,aj na 1 nc] 46):=hW
 obtain⟨g,o,rfl,hn⟩:=hA.nn (x:=n) rfl;have HK:U (∀V,aG (λk=>F k/\w0.heap.size<=k/\k<w.heap.size) W V->V.cell? (ai w.heap.size 0 I)=J (aA ⟨#[98,101,103,105,110]⟩)/\V.cell? (ai w.heap.size 1 I)=J (aj (J (ai g o I)) 1 nc)/\V.cell? (ai g o I)=J (ae af n)):=λV hV=>⟨(hA.cc hV).1,(hA.cc hV).2,hn V hV 0 n rfl⟩
 have HX:U (∀V,Below W.heap.size W V->Calls prog 27 #[aq (J (ai kb 0 I)),aA ⟨#[98,101,103,105,110]⟩,ae af n,ae af 0] V λe w'=>e=ax (ae af ((K.begin n).2:Int))/\cu (λk=>F k/\w0.heap.size<=k/\k<w.heap.size) w0 V c ev kb bm (K.begin n).1 w'):=λV hV=>ak3 n 0 (hA.at'.below hV)
 have HO:U (∀V,Calls prog 26 #[ae af ((K.begin n).2:Int)] V λe w'=>e=ax (aA (mX (K.begin n).2))/\Below V.heap.size V w'):=λV=>CB _ (Rb K n) V
 have HP:U (∀V V' kC,Below W.heap.size W V->cu (λk=>F k/\w0.heap.size<=k/\k<w.heap.size) w0 V c ev kb bm (K.begin n).1 V'->Below V'.heap.size V' kC->cu F w0 w c ev kb bm (K.begin n).1 kC):=λV V' kC h1 h2 h3=>(h2.from h1).on (λk hk=>hk.1) hA.aY h3
 obtain⟨s0,s1,s2⟩:=HK W (aG.refl _ _);generalize K.begin n=R at HX HO HP⊢;clear h hN hA hn;go_enter func12,ntmps12
 go_upto_region 1 with fail
 rw[<- hW];clear hW;go_upto_region 4 with fail
 go_region_held3 (λV=>V.cell? (ai w.heap.size 0 I)=J (aA ⟨#[98,101,103,105,110]⟩)/\V.cell? (ai w.heap.size 1 I)=J (aj (J (ai g o I)) 1 nc)/\V.cell? (ai g o I)=J (ae af n)) (first|exact⟨s0,s1,s2⟩|exact HK _ ((aG.dm (br (aF _ _) 1) _).trans hp.2 (λ_ _ e=>e))|exact HK _ (((aG.dm (br (aF _ _) 1) _).trans hp.2 (λ_ _ e=>e)).trans (aG.dm hb3 _) (λ_ _ e=>e))) (first|(go_at_call 27;refine aO (HX.o _ (br (aF _ _) 1)) ?_;rintro e w2 ⟨rfl,hp⟩)|(go_at_call 26;refine aO (HO.o _) ?_;rintro e w3 ⟨rfl,hb3⟩))
 all_goals
  go_wp2;go_ret;exact⟨rfl,HP _ _ _ (br (aF _ _) 1) hp hb3⟩
def amy(n:Int)(h:dO F w0 w c ev kb bm K)(hN:bw bT 1 w0 (aj na 1 nc) ([n]:List Int)):Calls prog 12 #[aq (J (ai kb 0 I)),bK #[aA ⟨#[115,116,111,112]⟩,aj na 1 nc]] w λe w'=>e=ax (aA (mX (K.stop n).2))/\cu F w0 w c ev kb bm (K.stop n).1 w':=by
 obtain⟨W,hW,hA⟩:=rN.box (N:=[n]) h hN ⟨#[115,116,111,112]⟩;replace hW:W=w.alloc (ay #[aA ⟨#[115,116,111,112]⟩,aj na 1 nc] 46):=hW
 obtain⟨g,o,rfl,hn⟩:=hA.nn (x:=n) rfl;have HK:U (∀V,aG (λk=>F k/\w0.heap.size<=k/\k<w.heap.size) W V->V.cell? (ai w.heap.size 0 I)=J (aA ⟨#[115,116,111,112]⟩)/\V.cell? (ai w.heap.size 1 I)=J (aj (J (ai g o I)) 1 nc)/\V.cell? (ai g o I)=J (ae af n)):=λV hV=>⟨(hA.cc hV).1,(hA.cc hV).2,hn V hV 0 n rfl⟩
 have HX:U (∀V,Below W.heap.size W V->Calls prog 27 #[aq (J (ai kb 0 I)),aA ⟨#[115,116,111,112]⟩,ae af n,ae af 0] V λe w'=>e=ax (ae af ((K.stop n).2:Int))/\cu (λk=>F k/\w0.heap.size<=k/\k<w.heap.size) w0 V c ev kb bm (K.stop n).1 w'):=λV hV=>ak4 n 0 (hA.at'.below hV)
 have HO:U (∀V,Calls prog 26 #[ae af ((K.stop n).2:Int)] V λe w'=>e=ax (aA (mX (K.stop n).2))/\Below V.heap.size V w'):=λV=>CB _ (Rc K n) V
 have HP:U (∀V V' kC,Below W.heap.size W V->cu (λk=>F k/\w0.heap.size<=k/\k<w.heap.size) w0 V c ev kb bm (K.stop n).1 V'->Below V'.heap.size V' kC->cu F w0 w c ev kb bm (K.stop n).1 kC):=λV V' kC h1 h2 h3=>(h2.from h1).on (λk hk=>hk.1) hA.aY h3
 obtain⟨s0,s1,s2⟩:=HK W (aG.refl _ _);generalize K.stop n=R at HX HO HP⊢;clear h hN hA hn;go_enter func12,ntmps12
 go_upto_region 1 with fail
 rw[<- hW];clear hW;go_upto_region 4 with fail
 go_region_held3 (λV=>V.cell? (ai w.heap.size 0 I)=J (aA ⟨#[115,116,111,112]⟩)/\V.cell? (ai w.heap.size 1 I)=J (aj (J (ai g o I)) 1 nc)/\V.cell? (ai g o I)=J (ae af n)) (first|exact⟨s0,s1,s2⟩|exact HK _ ((aG.dm (br (aF _ _) 1) _).trans hp.2 (λ_ _ e=>e))|exact HK _ (((aG.dm (br (aF _ _) 1) _).trans hp.2 (λ_ _ e=>e)).trans (aG.dm hb3 _) (λ_ _ e=>e))) (first|(go_at_call 27;refine aO (HX.o _ (br (aF _ _) 1)) ?_;rintro e w2 ⟨rfl,hp⟩)|(go_at_call 26;refine aO (HO.o _) ?_;rintro e w3 ⟨rfl,hb3⟩))
 all_goals
  go_wp2;go_ret;exact⟨rfl,HP _ _ _ (br (aF _ _) 1) hp hb3⟩
def amz(n p:Int)(h:dO F w0 w c ev kb bm K)(hf:bF c K kk (144*K.d.now))(hk:kk<1000)(hN:bw bT 1 w0 (aj na 2 nc) ([n,p]:List Int)):Calls prog 12 #[aq (J (ai kb 0 I)),bK #[aA ⟨#[114,101,112,111,114,116]⟩,aj na 2 nc]] w λe w'=>e=ax (aA (mX (K.report c n p).2))/\cu F w0 w c ev kb bm (K.report c n p).1 w':=by
 obtain⟨W,hW,hA⟩:=rN.box (N:=[n,p]) h hN ⟨#[114,101,112,111,114,116]⟩;replace hW:W=w.alloc (ay #[aA ⟨#[114,101,112,111,114,116]⟩,aj na 2 nc] 46):=hW
 obtain⟨g,o,rfl,hn⟩:=hA.nn (x:=n) rfl;have HK:U (∀V,aG (λk=>F k/\w0.heap.size<=k/\k<w.heap.size) W V->V.cell? (ai w.heap.size 0 I)=J (aA ⟨#[114,101,112,111,114,116]⟩)/\V.cell? (ai w.heap.size 1 I)=J (aj (J (ai g o I)) 2 nc)/\V.cell? (ai g o I)=J (ae af n)/\V.cell? ⟨g,o+1,I⟩=J (ae af p)):=λV hV=>⟨(hA.cc hV).1,(hA.cc hV).2,hn V hV 0 n rfl,hn V hV 1 p rfl⟩
 have HX:U (∀V,Below W.heap.size W V->Calls prog 27 #[aq (J (ai kb 0 I)),aA ⟨#[114,101,112,111,114,116]⟩,ae af n,ae af p] V λe w'=>e=ax (ae af ((K.report c n p).2:Int))/\cu (λk=>F k/\w0.heap.size<=k/\k<w.heap.size) w0 V c ev kb bm (K.report c n p).1 w'):=λV hV=>ak5 n p (hA.at'.below hV) hf hk
 have HO:U (∀V,Calls prog 26 #[ae af ((K.report c n p).2:Int)] V λe w'=>e=ax (aA (mX (K.report c n p).2))/\Below V.heap.size V w'):=λV=>CB _ (Ra K n p) V
 have HP:U (∀V V' kC,Below W.heap.size W V->cu (λk=>F k/\w0.heap.size<=k/\k<w.heap.size) w0 V c ev kb bm (K.report c n p).1 V'->Below V'.heap.size V' kC->cu F w0 w c ev kb bm (K.report c n p).1 kC):=λV V' kC h1 h2 h3=>(h2.from h1).on (λk hk=>hk.1) hA.aY h3
 obtain⟨s0,s1,s2,s3⟩:=HK W (aG.refl _ _);generalize K.report c n p=R at HX HO HP⊢;clear h hN hA hn hf hk;go_enter func12,ntmps12
 go_upto_region 1 with fail
 rw[<- hW];clear hW;go_upto_region 6 with fail
 go_region_held3 (λV=>V.cell? (ai w.heap.size 0 I)=J (aA ⟨#[114,101,112,111,114,116]⟩)/\V.cell? (ai w.heap.size 1 I)=J (aj (J (ai g o I)) 2 nc)/\V.cell? (ai g o I)=J (ae af n)/\V.cell? ⟨g,o+1,I⟩=J (ae af p)) (first|exact⟨s0,s1,s2,s3⟩|exact HK _ ((aG.dm (br (aF _ _) 1) _).trans hp.2 (λ_ _ e=>e))|exact HK _ (((aG.dm (br (aF _ _) 1) _).trans hp.2 (λ_ _ e=>e)).trans (aG.dm hb3 _) (λ_ _ e=>e))) (first|(go_at_call 27;refine aO (HX.o _ (br (aF _ _) 1)) ?_;rintro e w2 ⟨rfl,hp⟩)|(go_at_call 26;refine aO (HO.o _) ?_;rintro e w3 ⟨rfl,hb3⟩))
 all_goals
  go_wp2;go_ret;exact⟨rfl,HP _ _ _ (br (aF _ _) 1) hp hb3⟩
def amA(n:Int)(h:dO F w0 w c ev kb bm K)(hr:er c)(hf:bF c K kk (144*K.d.now))(hk:kk<=1000)(Bd:(kk:Int)+(K.d.now:Int)+1+n<=900000)(D_:kk+K.d.now+1<=900000)(Wa:K.d.now+n.toNat<=1099511627776)(hN:bw bT 1 w0 (aj na 1 nc) ([n]:List Int)):Calls prog 12 #[aq (J (ai kb 0 I)),bK #[aA ⟨#[116,105,99,107]⟩,aj na 1 nc]] w λe w'=>e=ax (aA (mX (K.dM c n.toNat).2))/\cu F w0 w c ev kb bm (K.dM c n.toNat).1 w':=by
 obtain⟨W,hW,hA⟩:=rN.box (N:=[n]) h hN ⟨#[116,105,99,107]⟩;replace hW:W=w.alloc (ay #[aA ⟨#[116,105,99,107]⟩,aj na 1 nc] 46):=hW
 obtain⟨g,o,rfl,hn⟩:=hA.nn (x:=n) rfl;have HK:U (∀V,aG (λk=>F k/\w0.heap.size<=k/\k<w.heap.size) W V->V.cell? (ai w.heap.size 0 I)=J (aA ⟨#[116,105,99,107]⟩)/\V.cell? (ai w.heap.size 1 I)=J (aj (J (ai g o I)) 1 nc)/\V.cell? (ai g o I)=J (ae af n)):=λV hV=>⟨(hA.cc hV).1,(hA.cc hV).2,hn V hV 0 n rfl⟩
 have HX:U (∀V,Below W.heap.size W V->Calls prog 28 #[aq (J (ai kb 0 I)),ae af n] V λe w'=>e=ax (ae af ((K.dM c n.toNat).2:Int))/\cu (λk=>F k/\w0.heap.size<=k/\k<w.heap.size) w0 V c ev kb bm (K.dM c n.toNat).1 w'):=λV hV=>aln n (hA.at'.below hV) hr hf hk Bd D_
 have HO:U (∀V,Calls prog 26 #[ae af ((K.dM c n.toNat).2:Int)] V λe w'=>e=ax (aA (mX (K.dM c n.toNat).2))/\Below V.heap.size V w'):=λV=>CB _ (KU hr _ K hf Wa) V
 have HP:U (∀V V' kC,Below W.heap.size W V->cu (λk=>F k/\w0.heap.size<=k/\k<w.heap.size) w0 V c ev kb bm (K.dM c n.toNat).1 V'->Below V'.heap.size V' kC->cu F w0 w c ev kb bm (K.dM c n.toNat).1 kC):=λV V' kC h1 h2 h3=>(h2.from h1).on (λk hk=>hk.1) hA.aY h3
 obtain⟨s0,s1,s2⟩:=HK W (aG.refl _ _);generalize K.dM c n.toNat=R at HX HO HP⊢;clear h hN hA hn hr hf hk Bd D_ Wa;go_enter func12,ntmps12
 go_upto_region 1 with fail
 rw[<- hW];clear hW;go_wp2_with fail
 refine aO (HX.o _ (aF _ _)) ?_;rintro e w2 ⟨rfl,hp⟩;go_wp2_with fail
 refine aO (HO.o _) ?_;rintro e w3 ⟨rfl,hb3⟩;go_wp2;go_ret;exact⟨rfl,HP _ _ _ (aF _ _) hp hb3⟩
def amB(n:Int)(h:dO F w0 w c ev kb bm K)(Bd:n<=9223372036854775807)(hN:bw bT 1 w0 (aj na 1 nc) ([n]:List Int)):Calls prog 12 #[aq (J (ai kb 0 I)),bK #[aA ⟨#[99,117,116]⟩,aj na 1 nc]] w λe w'=>e=ax (aA (mX (K.cut n).2))/\cu F w0 w c ev kb bm (K.cut n).1 w':=by
 obtain⟨W,hW,hA⟩:=rN.box (N:=[n]) h hN ⟨#[99,117,116]⟩;replace hW:W=w.alloc (ay #[aA ⟨#[99,117,116]⟩,aj na 1 nc] 46):=hW
 obtain⟨g,o,rfl,hn⟩:=hA.nn (x:=n) rfl;have HK:U (∀V G K2,aG (λk=>F k/\w0.heap.size<=k/\k<w.heap.size) W V->dO G w0 V c ev kb bm K2->V.cell? (ai w.heap.size 0 I)=J (aA ⟨#[99,117,116]⟩)/\V.cell? (ai w.heap.size 1 I)=J (aj (J (ai g o I)) 1 nc)/\V.cell? (ai g o I)=J (ae af n)/\V.cell? (ai kb 5 I)=J (aq (J (ai bm 0 I)))):=λV G K2 hV hm=>⟨(hA.cc hV).1,(hA.cc hV).2,hn V hV 0 n rfl,hm.m5⟩
 have HX:U (∀V,Below W.heap.size W V->Calls prog 29 #[aq (J (ai bm 0 I)),ae af n] V λe w'=>e=ax (ae af ((K.cut n).2:Int))/\cu (λk=>F k/\w0.heap.size<=k/\k<w.heap.size) w0 V c ev kb bm (K.cut n).1 w'):=λV hV=>amg n (hA.at'.below hV) Bd
 have HO:U (∀V,Calls prog 26 #[ae af ((K.cut n).2:Int)] V λe w'=>e=ax (aA (mX (K.cut n).2))/\Below V.heap.size V w'):=λV=>CB _ (Re K n) V
 have HP:U (∀V V' kC,Below W.heap.size W V->cu (λk=>F k/\w0.heap.size<=k/\k<w.heap.size) w0 V c ev kb bm (K.cut n).1 V'->Below V'.heap.size V' kC->cu F w0 w c ev kb bm (K.cut n).1 kC):=λV V' kC h1 h2 h3=>(h2.from h1).on (λk hk=>hk.1) hA.aY h3
 obtain⟨s0,s1,s2,s3⟩:=HK W _ _ (aG.refl _ _) hA.at';generalize K.cut n=R at HX HO HP⊢;clear h hN hA hn Bd;go_enter func12,ntmps12
 go_upto_region 1 with fail
 rw[<- hW];clear hW;go_upto_region 10 with fail
 go_region_held3 (λV=>V.cell? (ai w.heap.size 0 I)=J (aA ⟨#[99,117,116]⟩)/\V.cell? (ai w.heap.size 1 I)=J (aj (J (ai g o I)) 1 nc)/\V.cell? (ai g o I)=J (ae af n)/\V.cell? (ai kb 5 I)=J (aq (J (ai bm 0 I)))) (first|exact⟨s0,s1,s2,s3⟩|exact HK _ _ _ ((aG.dm (br (aF _ _) 1) _).trans hp.2 (λ_ _ e=>e)) hp.1|exact HK _ _ _ (((aG.dm (br (aF _ _) 1) _).trans hp.2 (λ_ _ e=>e)).trans (aG.dm hb3 _) (λ_ _ e=>e)) (dO.below hp.1 hb3)) (first|(go_at_call 29;refine aO (HX.o _ (br (aF _ _) 1)) ?_;rintro e w2 ⟨rfl,hp⟩)|(go_at_call 26;refine aO (HO.o _) ?_;rintro e w3 ⟨rfl,hb3⟩))
 all_goals
  go_wp2;go_ret;exact⟨rfl,HP _ _ _ (br (aF _ _) 1) hp hb3⟩
def amC(h:dO F w0 w c ev kb bm K)(hr:er c)(hf:bF c K kk (144*K.d.now))(hN:bw bT 1 w0 (aj na 0 nc) ([]:List Int)):Calls prog 12 #[aq (J (ai kb 0 I)),bK #[aA ⟨#[98,111,111,116]⟩,aj na 0 nc]] w λe w'=>e=ax (aA (mX (K.fD c).2))/\cu F w0 w c ev kb bm (K.fD c).1 w':=by
 obtain⟨W,hW,hA⟩:=rN.box (N:=[]) h hN ⟨#[98,111,111,116]⟩;replace hW:W=w.alloc (ay #[aA ⟨#[98,111,111,116]⟩,aj na 0 nc] 46):=hW
 have HK:U (∀V,aG (λk=>F k/\w0.heap.size<=k/\k<w.heap.size) W V->V.cell? (ai w.heap.size 0 I)=J (aA ⟨#[98,111,111,116]⟩)/\V.cell? (ai w.heap.size 1 I)=J (aj na 0 nc)):=λV hV=>⟨(hA.cc hV).1,(hA.cc hV).2⟩
 have HX:U (∀V,Below W.heap.size W V->Calls prog 30 #[aq (J (ai kb 0 I))] V λe w'=>e=ax (ae af ((K.fD c).2:Int))/\cu (λk=>F k/\w0.heap.size<=k/\k<w.heap.size) w0 V c ev kb bm (K.fD c).1 w'):=λV hV=>ame (hA.at'.below hV) hr hf
 have HO:U (∀V,Calls prog 26 #[ae af ((K.fD c).2:Int)] V λe w'=>e=ax (aA (mX (K.fD c).2))/\Below V.heap.size V w'):=λV=>CB _ (Rf c K) V
 have HP:U (∀V V' kC,Below W.heap.size W V->cu (λk=>F k/\w0.heap.size<=k/\k<w.heap.size) w0 V c ev kb bm (K.fD c).1 V'->Below V'.heap.size V' kC->cu F w0 w c ev kb bm (K.fD c).1 kC):=λV V' kC h1 h2 h3=>(h2.from h1).on (λk hk=>hk.1) hA.aY h3
 obtain⟨s0,s1⟩:=HK W (aG.refl _ _);generalize K.fD c=R at HX HO HP⊢;clear h hN hA hr hf;go_enter func12,ntmps12
 go_upto_region 1 with fail
 rw[<- hW];clear hW;go_wp2_with fail
 refine aO (HX.o _ (aF _ _)) ?_;rintro e w2 ⟨rfl,hp⟩;go_wp2_with fail
 refine aO (HO.o _) ?_;rintro e w3 ⟨rfl,hb3⟩;go_wp2;go_ret;exact⟨rfl,HP _ _ _ (aF _ _) hp hb3⟩
end
section
variable {F:Nat->Prop}{w0 w W V V':ak}{c:aX}{ev:aw}{kb bm kk:Nat}{K K':aD}{na:Option aC}{nc:Nat}{N:List Int}{wd:ByteArray}
def wX(w:ak)(wd:ByteArray)(na:Option aC)(n nc:Nat):∃W,W=w.alloc (ay #[aA wd,aj na n nc] 46)/\Below w.heap.size w W/\∀V,Below W.heap.size W V->V.cell? (ai w.heap.size 0 I)=J (aA wd)/\V.cell? (ai w.heap.size 1 I)=J (aj na n nc):=by
 refine⟨_,rfl,aS _ _,λV hV=>?_⟩;have:=a8 hV (cj w _);exact⟨by simp[aH,this],by simp[aH,this]⟩
def amD(h:dO F w0 w c ev kb bm K):Calls prog 12 #[aq (J (ai kb 0 I)),bK #[aA ⟨#[110,111,119]⟩,aj na 0 nc]] w λe w'=>e=ax (aA ⟨(num K.d.now).toArray⟩)/\Below w.heap.size w w':=by
 obtain⟨W,hW,hb,hc⟩:=wX w ⟨#[110,111,119]⟩ na 0 nc;obtain⟨H,bd,rm,bt,v,lv,m,bs,h1,-⟩:=h.below hb;have s0:=(hc W (aF _ _)).1;have c6:W.cell? (ai kb 6 I)=J (aq (J (ai bd 0 I))):=h1.cell 6 _ rfl;have d2:=h1.dog.c2;have HD:U _:=Cy K.d.now W (by have:=h1.dog.hn;omega);have HE:U ((⟨(fx K.d.now).toArray⟩:ByteArray)=⟨(num K.d.now).toArray⟩):=rfl;change U _ at hb
 generalize (⟨(fx K.d.now).toArray⟩:ByteArray)=t at HD HE;clear h h1 hc;go_enter func12,ntmps12
 go_upto_region 1 with fail
 rw[<- hW];clear hW;go_wp2_with fail
 refine aO HD.o ?_;rintro e w2 ⟨rfl,hb2⟩;go_wp2;go_ret;exact⟨by rw[HE.o];rfl,hb.trans (hb2.mono hb.size)⟩
def amE(h:dO F w0 w c ev kb bm K):Calls prog 12 #[aq (J (ai kb 0 I)),bK #[aA ⟨#[107,105,99,107,115]⟩,aj na 0 nc]] w λe w'=>e=ax (aA ⟨(num K.d.fu).toArray⟩)/\Below w.heap.size w w':=by
 obtain⟨W,hW,hb,hc⟩:=wX w ⟨#[107,105,99,107,115]⟩ na 0 nc;obtain⟨H,bd,rm,bt,v,lv,m,bs,h1,-⟩:=h.below hb;have s0:=(hc W (aF _ _)).1;have c6:W.cell? (ai kb 6 I)=J (aq (J (ai bd 0 I))):=h1.cell 6 _ rfl;have d4:W.cell? (ai bd 4 I)=J (ae af (K.d.fu:Int)):=h1.dog.cell 4;have HD:U _:=Cy K.d.fu W (by have:=h1.dog.hn;have:=h1.dog.hk;have:=h1.dog.hb;omega);have HE:U ((⟨(fx K.d.fu).toArray⟩:ByteArray)=⟨(num K.d.fu).toArray⟩):=rfl;change U _ at hb
 generalize (⟨(fx K.d.fu).toArray⟩:ByteArray)=t at HD HE;clear h h1 hc;go_enter func12,ntmps12
 go_upto_region 1 with fail
 rw[<- hW];clear hW;go_wp2_with fail
 refine aO HD.o ?_;rintro e w2 ⟨rfl,hb2⟩;go_wp2;go_ret;exact⟨by rw[HE.o];rfl,hb.trans (hb2.mono hb.size)⟩
def amF(h:dO F w0 w c ev kb bm K):Calls prog 12 #[aq (J (ai kb 0 I)),bK #[aA ⟨#[116,111,116,97,108]⟩,aj na 0 nc]] w λe w'=>e=ax (aA (dE K.t.st))/\Below w.heap.size w w':=by
 obtain⟨W,hW,hb,hc⟩:=wX w ⟨#[116,111,116,97,108]⟩ na 0 nc;obtain⟨H,bd,rm,bt,v,lv,m,bs,h1,-⟩:=h.below hb;have s0:=(hc W (aF _ _)).1;have c9:W.cell? (ai kb 9 I)=J (aq (J (ai bt 0 I))):=h1.cell 9 _ rfl;have t2:W.cell? (ai bt 2 I)=J (aA (dE K.t.st)):=by simp[aH,h1.ij,cZ]
 generalize dE K.t.st=t at t2⊢;change U _ at hb
 clear h h1 hc;go_enter func12,ntmps12
 go_upto_region 1 with fail
 rw[<- hW];clear hW;go_wp2;go_ret;exact⟨rfl,hb⟩
def amG(h:dO F w0 w c ev kb bm K):Calls prog 12 #[aq (J (ai kb 0 I)),bK #[aA ⟨#[115,116,97,116,101]⟩,aj na 0 nc]] w λe w'=>e=ax (aA (n_ K.on))/\Below w.heap.size w w':=by
 obtain⟨W,hW,hb,hc⟩:=wX w ⟨#[115,116,97,116,101]⟩ na 0 nc;obtain⟨H,bd,rm,bt,v,lv,m,bs,h1,-⟩:=h.below hb;have s0:=(hc W (aF _ _)).1;have HX:U _:=ak2 h1;generalize n_ K.on=t at HX⊢;change U _ at hb
 clear h h1 hc;go_enter func12,ntmps12
 go_upto_region 1 with fail
 rw[<- hW];clear hW;go_wp2_with fail
 refine aO HX.o ?_;rintro e w2 ⟨rfl,rfl⟩;go_wp2;go_ret;exact⟨rfl,hb⟩
def amH(h:dO F w0 w c (aj sa c.az.length sc) kb bm K)(hS:kJ c)(h0:(cJ c).1=0):Calls prog 12 #[aq (J (ai kb 0 I)),bK #[aA ⟨#[99,111,110,102,105,103]⟩,aj na 0 nc]] w λe w'=>e=ax (aA ⟨(pG c).toArray⟩)/\Below w.heap.size w w':=by
 obtain⟨W,hW,hb,hc⟩:=wX w ⟨#[99,111,110,102,105,103]⟩ na 0 nc;obtain⟨H,bd,rm,bt,v,lv,m,bs,h1,-⟩:=h.below hb;have s0:=(hc W (aF _ _)).1;have c0:W.cell? (ai kb 0 I)=J (ae af c.closed):=h1.cell 0 _ rfl;have c1:W.cell? (ai kb 1 I)=J (ae af c.opn):=h1.cell 1 _ rfl;have c2:W.cell? (ai kb 2 I)=J (ae af c.cycle):=h1.cell 2 _ rfl;have c3:W.cell? (ai kb 3 I)=J (ae af c.bE):=h1.cell 3 _ rfl;have c4:W.cell? (ai kb 4 I)=J (aj sa c.az.length sc):=h1.cell 4 _ rfl;obtain⟨t,ht⟩:∃t:ByteArray,t=⟨(fK c).toArray⟩:=⟨_,rfl⟩;have HX:U _:=V6 c sa sc W (h1.az.below h1.aY) hS h0;rw[<- ht]at HX;have qG:bl t=fK c:=by rw[ht];exact rS _
 have hlt:t.size=(fK c).length:=by rw[<- qG,AE]
 have h7:1<=t.size:=by rw[hlt];exact sq.2 (Tk c)
 have h8:t.size<=1000000000:=by rw[hlt];exact bp (amw h0) (ar rfl)
 have HL:U (∀V,Calls prog 34 #[aA t] V λe w'=>e=ax (aA ⟨(pG c).toArray⟩)/\w'=V):=λV=>by
  have:=ajT t V h7 h8;rw[qG,hlt,<- ajR]at this;exact this
 change U _ at hb
 generalize (⟨(pG c).toArray⟩:ByteArray)=u at HL⊢;clear h h1 hc ht qG hlt h7 h8 hS h0;go_enter func12,ntmps12
 go_upto_region 1 with fail
 rw[<- hW];clear hW;go_wp2_with fail
 refine aO HX.o ?_;rintro e w2 ⟨rfl,hb2⟩;go_wp2_with fail
 refine aO (HL.o _) ?_;rintro e w3 ⟨rfl,rfl⟩;go_wp2;go_ret;exact⟨rfl,hb.trans (hb2.mono hb.size)⟩
def AJ(K:aD)(n:Nat):ByteArray:=match K.ls[n]? with
 |some s=>iY s.status
 |none=>tr 5
def amI(n:Nat)(h:dO F w0 w c ev kb bm K)(hN:bw bT 1 w0 (aj na 1 nc) ([(n:Int)]:List Int)):Calls prog 12 #[aq (J (ai kb 0 I)),bK #[aA ⟨#[115,116,97,116,117,115]⟩,aj na 1 nc]] w λe w'=>e=ax (aA (AJ K n))/\Below w.heap.size w w':=by
 obtain⟨W,hW,hb,hc⟩:=wX w ⟨#[115,116,97,116,117,115]⟩ na 1 nc;obtain⟨H,bd,rm,bt,v,lv,m,bs,h1,-⟩:=h.below hb;obtain⟨g,o,rfl,mo⟩:=sj (l:=[(n:Int)]) (k:=0) (x:=n) (hN.below h1.aY) rfl;have n0:W.cell? (ai g o I)=J (ae af (n:Int)):=by simpa using mo 0 n rfl
 obtain⟨s0,s1⟩:=hc W (aF _ _);have c8:W.cell? (ai kb 8 I)=J lv:=h1.cell 8 _ rfl;obtain⟨la,lc,rfl⟩:=iB h1.own;rw[show bs.length=K.ls.length by rw[h1.dY,h1.dB]]at c8;have HB:U _:=hb
 cases hs:K.ls[n]? with
 |none=>
  have HT:U (AJ K n=tr 5):=by show _=_;unfold AJ;rw[hs]
  have g1:(K.ls.length:Int)<=(n:Int):=by have:=ET.1 hs;omega
  have HX:U (∀V,Calls prog 31 #[ae af 5] V λe w'=>e=ax (aA (tr 5))/\Below V.heap.size V w'):=λV=>U7 5 (ar rfl) (ar rfl) V
  generalize tr 5=t at HX HT;clear h h1 hb hc hN mo hs;go_enter func12,ntmps12
  go_upto_region 1 with fail
  rw[<- hW];clear hW;go_upto_region 14 with fail
  go_quiet (fail)
  go_wp2_with fail
  refine aO (HX.o _) ?_;rintro e w2 ⟨rfl,hb2⟩;go_wp2;go_ret;have Wd:Below W.heap.size W (W.drewN nq):=br (aF _ _) nq;exact⟨by rw[HT.o];rfl,HB.trans ((Wd.trans (hb2.mono Wd.size)).mono HB.size)⟩
 |some s=>
  have HT:U (AJ K n=iY s.status):=by show _=_;unfold AJ;rw[hs]
  obtain⟨b,e,E,g2,cap,ki,he,hlv,cp,h4,h5⟩:=h1.qB hs;simp only[mf]at hlv;obtain⟨rfl,-,rfl⟩:=hlv;have g1:¬(K.ls.length:Int)<=(n:Int):=by have:=(df.1 hs).1;omega
  have apl:(n:Int)<(K.ls.length:Int):=by omega
  have HX:U (∀V,Below W.heap.size W V->Calls prog 32 #[aq (J (ai b 0 I))] V λe w'=>e=ax (aA (iY s.status))/\w'=V):=λV hV=>Vl (h4.same (λk hk=>hV.block k (h1.bO.lt _ k hk))) (h1.aY.trans (hV.mono h1.aY.size))
  generalize iY s.status=t at HX HT;clear h h1 hb hc hN mo hs h4 h5 ki he;go_enter func12,ntmps12
  go_upto_region 1 with fail
  rw[<- hW];clear hW;go_upto_region 14 with fail
  go_quiet (fail)
  go_upto_region 16 with fail
  obtain⟨wz,AB⟩:∃V,V=W.drewN nq:=⟨_,rfl⟩;have HZ:U (Below W.heap.size W wz):=by show Below _ _ _;rw[AB];exact br (aF _ _) nq
  rw[<- AB];clear AB;have y0:=aJ HZ s0;have y1:=aJ HZ s1;have y2:=aJ HZ n0;have y3:=aJ HZ c8;have y4:=aJ HZ cp;clear s0 s1 n0 c8 cp;go_quiet (first|(go_at_call 32;exact xM (HX _ (br HZ _))))
  go_wp2;go_ret;exact⟨by rw[HT.o];rfl,HB.trans ((br HZ _).mono HB.size)⟩
end
section
variable {F:Nat->Prop}{w0 w W V V':ak}{c:aX}{ev:aw}{kb bm kk:Nat}{K K':aD}{na:Option aC}{nc:Nat}{N:List Int}{wd:ByteArray}
def Wf(h:dO F w0 w c ev kb bm K)(h0:K.L.length=0)(wd:ByteArray)(hw:wd=⟨#[99,97,117,115,101]⟩\/wd=⟨#[108,111,103]⟩):Calls prog 12 #[aq (J (ai kb 0 I)),bK #[aA wd,aj na 0 nc]] w λe w'=>e=ax (aA ⟨#[110,111,116,104,105,110,103]⟩)/\Below w.heap.size w w':=by
 obtain⟨W,hW,hb,hc⟩:=wX w wd na 0 nc;obtain⟨H,bd,rm,bt,v,lv,m,bs,h1,-⟩:=h.below hb;have s0:=(hc W (aF _ _)).1;have c7:W.cell? (ai kb 7 I)=J (aq (J (ai rm 0 I))):=h1.cell 7 _ rfl;have r1:=h1.ring.c1;obtain⟨ra,rc,rfl⟩:=h1.ring.sl.len;rw[h0]at r1;change U _ at hb
 clear h h1 hc h0
 rcases hw with rfl|rfl
 all_goals
  go_enter func12,ntmps12
  go_upto_region 1 with fail
  rw[<- hW];clear hW;go_wp2;go_ret;exact⟨rfl,hb⟩
def amJ(h:dO F w0 w c ev kb bm K)(h0:K.L.length≠0)(h8:K.L.length<=8)(hB:K.LB):Calls prog 12 #[aq (J (ai kb 0 I)),bK #[aA ⟨#[99,97,117,115,101]⟩,aj na 0 nc]] w λe w'=>e=ax (aA ⟨(gm (cU K.L)).toArray⟩)/\Below w.heap.size w w':=by
 obtain⟨W,hW,hb,hc⟩:=wX w ⟨#[99,97,117,115,101]⟩ na 0 nc;obtain⟨H,bd,rm,bt,v,lv,m,bs,h1,-⟩:=h.below hb;have s0:=(hc W (aF _ _)).1;have c7:W.cell? (ai kb 7 I)=J (aq (J (ai rm 0 I))):=h1.cell 7 _ rfl;have r1:=h1.ring.c1;obtain⟨ra,rc,rfl⟩:=h1.ring.sl.len;obtain⟨n,hn⟩:∃n,K.L.length=n+1:=⟨K.L.length-1,by omega⟩;obtain⟨g,o,rfl,hcc⟩:=h1.ring.sl.reads.2 (λe=>h0 (by rw[e];rfl));obtain⟨q0,q1,q2,q3⟩:=hcc n (by omega);rw[<- NT hn]at q0 q1 q2 q3;have HX:U (∀V,Calls prog 35 #[bK #[ae af ((cU K.L).seq:Int),ae af ((cU K.L).cf:Int),ae af ((cU K.L).kind:Int),ae af ((cU K.L).tick:Int)]] V λe w'=>e=ax (aA ⟨(gm (cU K.L)).toArray⟩)/\Below V.heap.size V w'):=λV=>U' _ V (LB.last hB)
 rw[hn]at r1;have n7:n<=7:=by omega
 generalize (⟨(gm (cU K.L)).toArray⟩:ByteArray)=t at HX⊢;generalize cU K.L=r at HX q0 q1 q2 q3;change U _ at hb
 have k0:(((n+1:Nat):Int)==0)=false:=by rw[gX];omega
 have k1:((n+1:Nat):Int)-1=(n:Int):=by omega
 have k2:(n:Int)<((n+1:Nat):Int):=by omega
 clear h h1 hc h0 h8 hB hcc hn;go_enter func12,ntmps12
 go_upto_region 1 with fail
 rw[<- hW];clear hW;go_wp2_with fail
 refine aO (HX.o _) ?_;rintro e w2 ⟨rfl,hb2⟩;go_wp2;go_ret;exact⟨rfl,hb.trans (hb2.mono hb.size)⟩
def amK(h:dO F w0 w c ev kb bm K)(h0:K.L.length≠0)(h8:K.L.length<=8)(hB:K.LB):Calls prog 12 #[aq (J (ai kb 0 I)),bK #[aA ⟨#[108,111,103]⟩,aj na 0 nc]] w λe w'=>e=ax (aA ⟨(wJ K.L).toArray⟩)/\Below w.heap.size w w':=by
 obtain⟨W,hW,hb,hc⟩:=wX w ⟨#[108,111,103]⟩ na 0 nc;obtain⟨H,bd,rm,bt,v,lv,m,bs,h1,-⟩:=h.below hb;have s0:=(hc W (aF _ _)).1;have c7:W.cell? (ai kb 7 I)=J (aq (J (ai rm 0 I))):=h1.cell 7 _ rfl;have r1:=h1.ring.c1;obtain⟨ra,rc,rfl⟩:=h1.ring.sl.len;obtain⟨g,o,rfl,hcc⟩:=h1.ring.sl.reads.2 (λe=>h0 (by rw[e];rfl));change U _ at hcc
 have HL:U (∀r∈K.L,ll r):=hB;generalize K.L=L at r1 hcc HL h0 h8⊢;have HB:U _:=hb;have k0:((L.length:Int)==0)=false:=by rw[gX];omega
 have apm:L.length<=8:=h8;clear h h1 hb hc h0 h8 hB;go_enter func12,ntmps12
 go_upto_region 1 with fail
 rw[<- hW];clear hW;go_upto_region 33 with fail
 go_cut [7] (λi wx=>i=ae af 0/\wx=W)
 case first=>
  go_wp2
  go_meet
  case rel=>exact⟨rfl,rfl⟩
 obtain⟨rfl,rfl⟩:=hcut;rename ak=>W
 go_wp2_with fail
 clear s0 c7 r1
 go_loopw [6,7] (λsv kv wv=>∃(j:Nat) (y:ByteArray),j<=L.length/\kv=ae af j/\sv=aA y/\U (bl y=wJ (L.take j))/\U (y.size<=2000*j)/\U (Below W.heap.size W wv)) (λ_ k _=>L.length-(intOf k).toNat)
 case atStart=>exact⟨0,⟨#[]⟩,bA _,rfl,rfl,rfl,aR _,aF _ _⟩
 case round=>
  obtain⟨j,y,hj,rfl,rfl,HY,HZ,HX⟩:=hrel
  by_cases hl2:j<L.length
  ·have k2:(j:Int)<(L.length:Int):=by omega
   obtain⟨q0,q1,q2,q3⟩:=hcc j hl2;have hr:L[j]?=J L[j]:=bq hl2;have HR:U _:=U' L[j] wr (HL _ (uZ hl2));have HS:U _:=ajO hr;have hz:(gm L[j]).length<=1000:=LS (HL _ (uZ hl2));replace q0:=aJ HX q0
   replace q1:=aJ HX q1
   replace q2:=aJ HX q2
   replace q3:=aJ HX q3
   generalize L[j]=r at q0 q1 q2 q3 HR HS hz;obtain⟨t,ht⟩:∃t:ByteArray,t=⟨(gm r).toArray⟩:=⟨_,rfl⟩;rw[<- ht]at HR;have HT:U (bl t=gm r):=by show _=_;rw[ht];exact rS _
   have Iq:t.size<=1000:=by rw[<- AE,HT.o];exact hz
   have Wh:=HZ.o;clear hr ht hz
   rcases vr j with rfl|EW
   ·simp only[Nat.zero_mul,kH]at q0 q1 q2 q3;have ha:=pT y t (by omega);have rE:U (bl (y++t)=wJ (L.take (0+1))):=by show _=_;rw[HS.o,tu,HY.o,HT.o];rfl
    have wL:U ((y++t:ByteArray).size<=2000*(0+1)):=by show _<=_;rw[o_];omega
    clear HS HT Iq Wh HY HZ;go_wp2_with fail
    refine aO HR.o ?_;rintro e w2 ⟨rfl,hb2⟩;have qp:U _:=HX.trans (hb2.mono HX.size);clear hb2 q0 q1 q2 q3 HR;go_wp2
    go_roundw
    case rel=>exact⟨0+1,(y++t:ByteArray),by omega,by go_num,rfl,rE,wL,qp⟩
    case measure=>simp[intOf];omega
   have k3:(0:Int)<(j:Int):=by omega
   have ha:=pT y ⟨#[44,32]⟩ (by show y.size+2<=_;omega);have hz2:(y++⟨#[44,32]⟩:ByteArray).size=y.size+2:=by rw[o_];rfl
   have hb:=pT (y++⟨#[44,32]⟩) t (by rw[hz2];omega);have rE:U (bl (y++⟨#[44,32]⟩++t)=wJ (L.take (j+1))):=by show _=_;rw[HS.o,aK (by omega),tu,tu,HY.o,HT.o];rfl
   have wL:U ((y++⟨#[44,32]⟩++t:ByteArray).size<=2000*(j+1)):=by show _<=_;rw[o_,hz2];omega
   generalize (y++⟨#[44,32]⟩:ByteArray)=y2 at ha hb rE wL;generalize (y2++t:ByteArray)=y3 at hb rE wL;clear HS HT Iq Wh HY HZ hz2;go_wp2_with fail
   refine aO HR.o ?_;rintro e w2 ⟨rfl,hb2⟩;have qp:U _:=HX.trans (hb2.mono HX.size);clear hb2 q0 q1 q2 q3 HR;go_wp2
   go_roundw
   case rel=>exact⟨j+1,y3,by omega,by go_num,rfl,rE,wL,qp⟩
   case measure=>simp[intOf];omega
  obtain rfl:j=L.length:=by omega
  have k2:¬(L.length:Int)<(L.length:Int):=by omega
  have HE:U (y=⟨(wJ L).toArray⟩):=oK (by rw[HY.o,mL,rS]);clear HY HZ;go_wp2;go_ret;exact⟨by rw[HE.o];rfl,HB.trans (HX.mono HB.size)⟩
end
section
variable {F:Nat->Prop}{w0 w w':ak}{c:aX}{sa:Option aC}{sc kb bm kk M:Nat}{K:aD}{na:Option aC}{nc:Nat}{N:List Int}
def Ox(x:ByteArray):(⟨(bl x).toArray⟩:ByteArray)=x:=oK (rS _)
def FM{N:List Int}(h:N.length=1):∃n,N=[n]:=by
 match N,h with
 |[n],_=>exact⟨n,rfl⟩
def amL{N:List Int}(h:N.length=2):∃n m,N=[n,m]:=by
 match N,h with
 |[n,m],_=>exact⟨n,m,rfl⟩
def Wi(q:Nat):(⟨(nI lW (K.cW c [(q:Int)] 8)).toArray⟩:ByteArray)=AJ K q/\(K.cW c [(q:Int)] 8).1=K:=by
 have e:K.cW c [(q:Int)] 8=match K.ls[q]? with
  |some s=>(K,bl (iY s.status),0)
  |none=>(K,[],5):=rfl
 rw[e];unfold AJ
 cases K.ls[q]? with
 |none=>exact⟨rfl,rfl⟩
 |some s=>exact⟨Ox _,rfl⟩
def uT{t:ByteArray}{N:List Int}(h:dO F w0 w c (aj sa c.az.length sc) kb bm K)(hc:Calls prog f args w λe w'=>e=ax (aA t)/\Below w.heap.size w w')(h1:t=⟨(nI lW (K.cW c N k)).toArray⟩)(h2:(K.cW c N k).1=K):Calls prog f args w λe w'=>e=ax (aA ⟨(nI lW (K.cW c N k)).toArray⟩)/\cu F w0 w c (aj sa c.az.length sc) kb bm (K.cW c N k).1 w':=by
 refine hc.mono ?_;rintro e w' ⟨rfl,hb⟩;rw[h1,h2];exact⟨rfl,(cu.same h).on (λ_ h=>h) (aF _ _) hb⟩
def CK{N:List Int}(R:aD×Nat)(hc:Calls prog f args w λe w'=>e=ax (aA (mX R.2))/\cu F w0 w c (aj sa c.az.length sc) kb bm R.1 w')(h1:K.cW c N k=oV R):Calls prog f args w λe w'=>e=ax (aA ⟨(nI lW (K.cW c N k)).toArray⟩)/\cu F w0 w c (aj sa c.az.length sc) kb bm (K.cW c N k).1 w':=by
 refine hc.mono ?_;rintro e w' ⟨rfl,hb⟩;rw[h1,<- ajH];exact⟨rfl,hb⟩
def amM(k:Nat)(sF:k<14)(hl:N.length=(eH k).length)(hb:∀n∈N,0<=n/\n<=99999)(hM:k=3->(N.getD 0 0).toNat<=M)(h:dO F w0 w c (aj sa c.az.length sc) kb bm K)(hN:bw bT 1 w0 (aj na N.length nc) N)(hr:er c)(hf:bF c K kk (144*K.d.now))(hk:kk<1000)(hn:kk+K.d.now+1+M<=900000)(hS:kJ c)(h0:(cJ c).1=0)(hB:K.LB):Calls prog 12 #[aq (J (ai kb 0 I)),bK #[aA (kO k),aj na N.length nc]] w λe w'=>e=ax (aA ⟨(nI lW (K.cW c N k)).toArray⟩)/\cu F w0 w c (aj sa c.az.length sc) kb bm (K.cW c N k).1 w':=by
 have h3:k=0\/k=1\/k=2\/k=3\/k=4\/k=5\/k=6\/k=7\/k=8\/k=9\/k=10\/k=11\/k=12\/k=13:=by omega
 rcases h3 with rfl|rfl|rfl|rfl|rfl|rfl|rfl|rfl|rfl|rfl|rfl|rfl|rfl|rfl
 ·obtain⟨n,rfl⟩:=FM hl;exact CK _ (amx n h hN) rfl
 ·obtain⟨n,rfl⟩:=FM hl;exact CK _ (amy n h hN) rfl
 ·obtain⟨n,p,rfl⟩:=amL hl;exact CK _ (amz n p h hf hk hN) rfl
 ·obtain⟨n,rfl⟩:=FM hl;have h1:=hM rfl;have h2:([n]:List Int).getD 0 0=n:=rfl;rw[h2]at h1;exact CK _ (amA n h hr hf (by omega) (by omega) (by omega) (by omega) hN) rfl
 ·obtain⟨n,rfl⟩:=FM hl;exact CK _ (amB n h (by have:=hb n (g_.2 rfl);omega) hN) rfl
 ·obtain rfl:=kV hl;exact CK _ (amC h hr hf hN) rfl
 ·obtain rfl:=kV hl;exact uT h (amD h) rfl rfl
 ·obtain rfl:=kV hl;exact uT h (amE h) rfl rfl
 ·obtain⟨n,rfl⟩:=FM hl;obtain⟨q,rfl⟩:=yH (hb n (g_.2 rfl)).1;exact uT h (amI q h hN) (Wi q).1.symm (Wi q).2
 ·obtain rfl:=kV hl;exact uT h (amF h) (Ox _).symm rfl
 ·obtain rfl:=kV hl;exact uT h (amG h) (Ox _).symm rfl
 ·obtain rfl:=kV hl
  by_cases hz:K.L.length=0
  ·exact uT h (Wf h hz _ (aT rfl)) (by show _=(⟨(sx K.L).toArray⟩:ByteArray);unfold sx;rw[aU hz];rfl) rfl
  exact uT h (amJ h hz hf.dB hB) (by show _=(⟨(sx K.L).toArray⟩:ByteArray);unfold sx;rw[aK hz]) rfl
 ·obtain rfl:=kV hl
  by_cases hz:K.L.length=0
  ·exact uT h (Wf h hz _ (aN rfl)) (by show _=(⟨(sy K.L).toArray⟩:ByteArray);unfold sy;rw[aU hz];rfl) rfl
  exact uT h (amK h hz hf.dB hB) (by show _=(⟨(sy K.L).toArray⟩:ByteArray);unfold sy wJ;rw[aK hz]) rfl
 obtain rfl:=kV hl;exact uT h (amH h hS h0) rfl rfl
end
def amN:(prog.info? 5).map (λi=>(i.zero,i.size,i.bytes))=J (J (ae .u8 0),1,1):=by kernel_rfl
def ZP(n:Nat):ByteArray:=⟨(zeros n).toArray⟩
def amO(W:ak)(b n c:Nat)(h:W.heap[b]?=J (ay (madeCells #[ae .u8 0] n) 5 (0,0))):(convert 41 9 (aj (J (ai b 0 I)) n c)).run prog W=.ok (aA (ZP n)) W:=by
 have:=AQ (P:=prog) W 41 9 5 ⟨b,0,I⟩ c (zeros n) underlying41 underlying5 underlying9 (λj hj=>by
  rw[A3]at hj;have ea:(⟨b,0,I⟩:aC).add j=⟨b,j,I⟩:=by unfold Addr.add;split<;>simp_all
  have e:(madeCells #[Value.int .u8 0] n)[j]?=J (ae .u8 0):=by
   rw[<- qR,toList_madeCells_one,List.getElem?_replicate,aU hj]
  rw[ea];simp only[aH,h];simp[e,zeros])
 rw[A3]at this;exact this
def Wj(w:ak)(a:Obj):(w.heap.push a)[w.heap.size]?=J a:=by simp
def amP:gy (aI.new 4096) ⟨ZP 4096,false,0,false,0⟩:=
 ⟨A3 4096,aR _,by show (zeros 4096).toArray.toList=(zeros 4096).take 4096;rw[YX _ _ (aR _)],rfl,rfl,λe=>(by cases e),rfl,bA _,bA _⟩
def uU(w0 w4:ak)(c:aX)(ev:aw)(v:aw)(V:ak):Prop:=∃mb bm G,v=aq (J (ai mb 0 I))/\dO G w0 V c ev mb bm (aD.new c (aI.new 4096))/\∀k,G k->w4.heap.size<=k/\k<V.heap.size
def uU.below{V':ak}(h:uU w0 w4 c ev v V)(hb:Below V.heap.size V V'):uU w0 w4 c ev v V':=by
 obtain⟨mb,bm,G,h1,h2,h3⟩:=h;exact⟨mb,bm,G,h1,h2.below hb,λk hk=>⟨(h3 k hk).1,cK (h3 k hk).2 hb.size⟩⟩
def Oy(w0 w4:ak)(c:aX)(ev:aw):Nat->aw->ak->Prop
 |0=>λv _=>v=bK #[ae af c.closed,ae af c.opn,ae af c.cycle,ae af c.bE,ev]
 |1=>λv w=>∃b,v=aj (J (ai b 0 I)) 4096 4096/\w.heap[b]?=J (ay (madeCells #[ae .u8 0] 4096) 5 (0,0))
 |2=>λv _=>v=aA (ZP 4096)
 |3=>λv _=>v=bK #[aA (ZP 4096),aL false,ae af 0,aL false,ae af 0]
 |4=>λv w=>∃b,v=aq (J (ai b 0 I))/\w4.heap.size<=b/\cg w b ⟨ZP 4096,false,0,false,0⟩
 |5=>λv w=>uU w0 w4 c ev v w
 |6=>λv w=>uU w0 w4 c ev v w
 |_=>λ_ _=>True
def Oz{w':ak}(hb:Below w.heap.size w w'):∀j v,Oy w0 w4 c ev j v w->Oy w0 w4 c ev j v w':=by
 intro j v h
 match j,h with
 |0,h=>exact h
 |1,h=>exact⟨h.choose,h.choose_spec.1,a8 hb h.choose_spec.2⟩
 |2,h=>exact h
 |3,h=>exact h
 |4,h=>exact⟨h.choose,h.choose_spec.1,h.choose_spec.2.1,h.choose_spec.2.2.below hb⟩
 |5,h=>exact uU.below h hb
 |6,h=>exact uU.below h hb
 |n+7,h=>exact h
def amQ{bm:Nat}(hr:er c)(hE:eU w0 (aj sa c.az.length sc) c.az)(h0:Below w0.heap.size w0 w4)(hV:Below w4.heap.size w4 V)(dt:w4.heap.size<=bm)(hm:cg V bm ⟨ZP 4096,false,0,false,0⟩):Calls prog 10 #[.agg (cR c sa sc),aq (J (ai bm 0 I))] V λu V'=>(∃v,u=ax v/\uU w0 w4 c (aj sa c.az.length sc) v V')/\Below V.heap.size V V':=by
 unfold cR
 apply(amc (w0:=w0) (s:=aI.new 4096) hr hm amP (ar rfl) (bp h0.size dt) hE (h0.trans (hV.mono h0.size))).mono;rintro u V' ⟨kb,F,rfl,hat,hb,hF⟩
 refine⟨⟨_,rfl,kb,bm,F,rfl,hat,λk hk=>⟨?_,(hF k hk).2⟩⟩,hb⟩
 rcases(hF k hk).1 with rfl|h
 ·exact dt
 exact bp hV.size h
def uV(c:aX):Bool:=decide (12<c.az.length)||c.az.any kB
def amR(h:uV c=false):kJ c:=by
 unfold uV at h;simp only[Bool.or_eq_false_iff,decide_eq_false_iff_not]at h;exact⟨by omega,λe he=>ah5 (by simpa using jY.1 h.2 e he)⟩
def amS(c:aX)(sa:Option aC)(sc:Nat)(w:ak)(hE:eU w (aj sa c.az.length sc) c.az):Calls prog 5 #[.agg (cR c sa sc)] w λv w'=>v=ax (ae af (Ct (uV c)))/\Below w.heap.size w w':=by
 unfold cR;have HE:U (eU w _ _):=hE;clear hE
 by_cases h0:12<c.az.length
 ·have HV:U (uV c=true):=by show _=_;unfold uV;simp[h0]
  have g0:(12:Int)<(c.az.length:Int):=by omega
  clear h0;go_enter func5,ntmps5
  go_wp2;go_ret;exact⟨by first|rfl|(rw[HV.o];rfl),aS _ _⟩
 have g0:¬(12:Int)<(c.az.length:Int):=by omega
 have Fe:U (uV c=c.az.any kB):=by show _=_;unfold uV;simp[h0]
 have kR:U (c.az.length<=12):=by show _<=_;omega
 clear h0;go_enter func5,ntmps5
 go_upto_region 3 with fail
 obtain⟨W0,hW0⟩:∃V,V=w.alloc (ay (cR c sa sc) 24):=⟨_,rfl⟩;rw[<- hW0];have HX:U (W0.heap[w.heap.size]?=J (ay (cR c sa sc) 24 (0,0))):=by show _=_;rw[hW0];exact cj w _
 have mN:U (Below w.heap.size w W0):=by show Below _ _ _;rw[hW0];exact aS _ _
 clear hW0 g0;go_wp2_with fail
 go_loopw [3] (λi wr=>∃k:Nat,k<=c.az.length/\i=ae af k/\Below W0.heap.size W0 wr/\U (∀(j:Nat) q,j<k->c.az[j]?=J q->kB q=false)) (λi _=>c.az.length-(intOf i).toNat)
 case atStart=>exact⟨0,bA _,rfl,aF _ _,λj q hj=>absurd hj (oo _)⟩
 case round=>
  obtain⟨k,hk,rfl,hb0,hall⟩:=hrel;have hbl:=mN.trans (hb0.mono mN.size);have s4:wr.cell? (ai w.heap.size 4 I)=J (aj sa c.az.length sc):=by have:=a8 hb0 HX;simp[aH,this]
  have HB:U _:=hb0
  by_cases hlt:k<c.az.length
  ·obtain⟨e,hq⟩:∃e,c.az[k]?=J e:=⟨_,bq hlt⟩;obtain⟨JB,xi,bH,hcc⟩:=HE.o
   cases bH
   obtain⟨b,o,rfl,hc0⟩:=hcc (λh=>by rw[h]at hq;simp at hq);obtain⟨pv,gv,ev,fv,lv,fO,hcell⟩:=hc0 k e hq;obtain⟨pa,pc,rfl,-,-⟩:=id fO.hp;obtain⟨ga,gc,rfl,-,-⟩:=id fO.hg;obtain⟨ea,ec,rfl,-,-⟩:=id fO.he;obtain⟨fa,fc,rfl,-,-⟩:=id fO.hf;obtain⟨la,lc,rfl,-,-⟩:=id fO.hl;have c0:wr.cell? ⟨b,o+k*10,_⟩=J (aA _):=aJ hbl (hcell 0 _ rfl);have c1:wr.cell? _=J (ae af _):=aJ hbl (hcell 1 _ rfl);have c2:wr.cell? _=J (aj pa _ pc):=aJ hbl (hcell 2 _ rfl);have c3:wr.cell? _=J (ae af _):=aJ hbl (hcell 3 _ rfl);have c4:wr.cell? _=J (ae af _):=aJ hbl (hcell 4 _ rfl);have c5:wr.cell? _=J (ae af _):=aJ hbl (hcell 5 _ rfl);have c6:wr.cell? _=J (aj ga _ gc):=aJ hbl (hcell 6 _ rfl);have c7:wr.cell? _=J (aj ea _ ec):=aJ hbl (hcell 7 _ rfl);have c8:wr.cell? _=J (aj fa _ fc):=aJ hbl (hcell 8 _ rfl);have c9:wr.cell? _=J (aj la _ lc):=aJ hbl (hcell 9 _ rfl);have HQ:U _:=hq;have ic:=ah6 e pa ga ea fa la pc gc ec fc lc wr (fO.hp.below hbl);have k1:(k:Int)<(c.az.length:Int):=by omega
   have k2:(0:Int)<=(k:Int):=by omega
   have k0:k<12:=by have:=kR.o;omega
   cases hh:kB e with
   |true=>
    rw[hh,show Ct _=1 from rfl]at ic;change U _ at ic
    have HM:U (uV c=true):=by show _=_;rw[Fe.o];exact kD.2 ⟨e,bP hq,hh⟩
    change U _ at hbl
    clear hh hq hcell fO hcc hc0 hb0;go_wp2_with fail
    refine aO ic.o ?_;rintro v W1 ⟨rfl,hb1⟩;go_wp2;go_ret;exact⟨by first|rfl|(rw[HM.o];rfl),hbl.trans (hb1.mono hbl.size)⟩
   |false=>
    rw[hh,show Ct _=0 from rfl]at ic;change U _ at ic hh
    clear hq hcell fO hcc hc0 hb0 hbl;go_wp2_with fail
    refine aO ic.o ?_;rintro v W1 ⟨rfl,hb1⟩;have bu:U _:=HB.trans (hb1.mono HB.size);clear hb1;go_wp2;go_roundw
    case rel=>
     refine⟨k+1,by omega,by go_num,bu,λj q' hj he=>?_⟩
     by_cases hjk:j=k
     ·subst hjk;have h2:=HQ.o;rw[h2]at he
      cases he
      exact hh
     exact hall j q' (by omega) he
    case measure=>simp[intOf];omega
  have k1:¬(k:Int)<(c.az.length:Int):=by omega
  have HN:U (uV c=false):=by
   show _=_
   rw[Fe.o,jY];intro q hq;obtain⟨j,hj,rfl⟩:=su hq;have:=hall j _ (by omega) (bq hj);simpa using this
  change U _ at hbl
  clear hb0;go_wp2;go_ret;exact⟨by first|rfl|(rw[HN.o];rfl),hbl⟩
open Go.Maps
structure pX(w3 wr:ak)(c:aX)(ev:aw)(mb bm:Nat)(K:aD)(lv wv:aw)(xs ys:List ByteArray):Prop where
 ex:∃G,dO G w3 wr c ev mb bm K/\(∀k,G k->w3.heap.size<=k/\k<wr.heap.size)/\(∀k,lv.ownBlock=J k->¬G k)/\∀k,wv.ownBlock=J k->¬G k
 l:ot w3 wr lv xs
 m:ot w3 wr wv ys
 ne:∀k,lv.ownBlock=J k->wv.ownBlock≠J k
section
variable {w3 wr wr':ak}{c:aX}{ev:aw}{mb bm:Nat}{K K':aD}{lv wv:aw}{xs ys:List ByteArray}
def pX.swap(h:pX w3 wr c ev mb bm K lv wv xs ys):pX w3 wr c ev mb bm K wv lv ys xs:=by
 obtain⟨G,h1,h2,h3,h4⟩:=h.ex;exact⟨⟨G,h1,h2,h4,h3⟩,h.m,h.l,λk h5 h6=>h.ne k h6 h5⟩
def pX.below(h:pX w3 wr c ev mb bm K lv wv xs ys)(hb:Below wr.heap.size wr wr'):pX w3 wr' c ev mb bm K lv wv xs ys:=by
 obtain⟨G,h1,h2,h3,h4⟩:=h.ex;exact⟨⟨G,h1.below hb,λk hk=>⟨(h2 k hk).1,cK (h2 k hk).2 hb.size⟩,h3,h4⟩,h.l.below hb,h.m.below hb,h.ne⟩
def pX.act(h:pX w3 wr c ev mb bm K lv wv xs ys)(hc:∀G,dO G w3 wr c ev mb bm K->Calls prog f args wr λe w'=>e=ax v/\cu G w3 wr c ev mb bm K' w'):Calls prog f args wr λe w'=>e=ax v/\pX w3 w' c ev mb bm K' lv wv xs ys:=by
 obtain⟨G,h1,h2,h3,h4⟩:=h.ex
 apply(hc G h1).mono;rintro e w' ⟨rfl,hp,ho⟩;have hz:=h1.aY.size;have keep:∀(v:aw) (n:Nat) (l:List aw),wr.ownsRow w3.heap.size 9 1 v n l->(∀k,v.ownBlock=J k->¬G k)->w'.ownsRow w3.heap.size 9 1 v n l/\∀k,v.ownBlock=J k->¬gr G wr w' k:=λv n l gJ hn=>by
  refine⟨zq gJ (λg hg=>ho.block g (gJ.lt g hg).2 (hn g hg)),λk hk hg=>?_⟩
  rcases hg with hg|⟨hg,_⟩
  ·exact hn k hk hg
  have:=(gJ.lt k hk).2;omega
 obtain⟨a1,a2⟩:=keep _ _ _ h.l.own h3;obtain⟨b1,b2⟩:=keep _ _ _ h.m.own h4
 refine⟨rfl,⟨_,hp,λk hk=>?_,a2,b2⟩,⟨hp.aY,a1⟩,⟨hp.aY,b1⟩,h.ne⟩
 rcases hk with hk|⟨hk,hk2⟩
 ·exact⟨(h2 k hk).1,cK (h2 k hk).2 ho.size⟩
 exact⟨bp hz hk,hk2⟩
def pX.put(h:pX w3 wr c ev mb bm K lv wv xs ys){o:Obj}{y:ByteArray}{g:Nat}(hn:xs.length+1=n)(hown:wr'.ownsRow w3.heap.size 9 1 (aj (J (ai g 0 I)) n cap) n (xs.flatMap ct++[aA y]))(hg:(wr.alloc o).grownBy wr' lv.ownBlock)(cH:lv.ownBlock=J g\/g=wr.heap.size+1):pX w3 wr' c ev mb bm K (aj (J (ai g 0 I)) n cap) wv (xs++[y]) ys:=by
 obtain⟨G,h1,h2,h3,h4⟩:=h.ex;have hz:wr.heap.size<=wr'.heap.size:=bp (by simp) hg.size;have same:∀k,k<wr.heap.size->lv.ownBlock≠J k->wr'.heap[k]?=wr.heap[k]?:=λk hk hne=>by
  rw[hg.block k (by simp;omega) (λe=>hne e.symm)];exact(aS wr o).block k hk
 have hl:=h.l.more hn hown hg;have fj:aG (λk=>lv.ownBlock=J k) wr wr':=⟨by rw[hg.os];rfl,by rw[hg.tape];rfl,by rw[hg.output];rfl,hz,λk hk hne=>same k hk hne⟩
 refine⟨⟨G,h1.off fj (λk hk e=>h3 k e hk) (λk e=>(h.l.own.lt k e).1),λk hk=>⟨(h2 k hk).1,cK (h2 k hk).2 hz⟩,λk hk hG=>?_,h4⟩,hl,⟨hl.aY,zq h.m.own (λk hk=>same k (h.m.own.lt k hk).2 (λe=>h.ne k e hk))⟩,λk hk hw=>?_⟩
 ·obtain rfl:g=k:=by simpa[dF]using hk
  rcases cH with e|e
  ·exact h3 _ e hG
  have:=(h2 _ hG).2;omega
 obtain rfl:g=k:=by simpa[dF]using hk
 rcases cH with e|e
 ·exact h.ne _ e hw
 have:=(h.m.own.lt _ hw).2;omega
end
def amT(A:Nat->aC)(c:aX)(sa:Option aC)(sc:Nat)(L:List (ByteArray×List Int))(la:Option aC)(lc:Nat)(w:ak)(h:wu A w)(hT:∀i,i<11->w.cell? (A i)=J (aA ⟨(lW (i+1)).toArray⟩))(hE:eU w (aj sa c.az.length sc) c.az)(hL:wI w (aj la L.length lc) L):Calls prog 3 #[.agg (cR c sa sc),aj la L.length lc] w λe w'=>e=ax (aL true)/\Below w.heap.size w w':=by
 unfold cR;obtain⟨i0,mr,hz0,hz1,hz2⟩:=iw Hm;obtain⟨W0,hW0⟩:∃X,X=w.alloc (ay (cR c sa sc) 24):=⟨_,rfl⟩;have b0:Below w.heap.size w W0:=by rw[hW0];exact aS _ _
 have r0:W0.heap[w.heap.size]?=J (ay (cR c sa sc) 24 (0,0)):=by rw[hW0];exact cj w _
 have y:∀V,Below W0.heap.size W0 V->(V.cell? (ai w.heap.size 0 I)=J (ae af c.closed)/\V.cell? (ai w.heap.size 1 I)=J (ae af c.opn)/\V.cell? (ai w.heap.size 2 I)=J (ae af c.cycle)/\V.cell? (ai w.heap.size 3 I)=J (ae af c.bE)/\V.cell? (ai w.heap.size 4 I)=J (aj sa c.az.length sc)):=λV hV=>by
  have:=a8 hV r0
  refine⟨?_,?_,?_,?_,?_⟩<;>simp[aH,this]
 have HY:U _:=y;have rq:U _:=ajA A lW W0 (h.below b0) (λi hi=>aJ b0 (hT i hi));have HE:U (∀V,Below w.heap.size w V->eU V (aj sa c.az.length sc) c.az):=λV hV=>hE.below hV
 have rG:U (∀V,Below w.heap.size w V->wu A V/\∀i,i<11->V.cell? (A i)=J (aA ⟨(lW (i+1)).toArray⟩)):=λV hV=>⟨h.below hV,λi hi=>aJ hV (hT i hi)⟩
 have kR:U (∀V,Below w.heap.size w V->wI V (aj la L.length lc) L):=λV hV=>hL.below hV
 clear h hT hE hL r0 y;change U _ at b0;go_enter func3,ntmps3
 go_upto_region 1 with fail
 rw[<- hW0];clear hW0;go_wp2_with fail
 refine aO rq.o ?_;rintro u w1 ⟨rfl,hb1⟩;have OA:U (Below W0.heap.size W0 w1):=hb1;have bu:U (Below w.heap.size w w1):=b0.trans (hb1.mono b0.size);clear hb1 rq;obtain⟨y0,y1,y2,y3,y4⟩:=HY w1 OA;go_wp2_with fail
 clear y0 y1 y2 y3 y4
 refine aO (amS c sa sc w1 (HE w1 bu)) ?_;rintro u w2 ⟨rfl,hb2⟩;have OB:U (Below W0.heap.size W0 w2):=OA.trans (hb2.mono OA.size);have cB:U (Below w.heap.size w w2):=bu.trans (hb2.mono bu.size);clear hb2
 cases hh:uV c
 ·rw[show Ct false=0 from rfl];have eG:U (kJ c):=amR hh;clear hh
  by_cases hl0:60<L.length
  ·have g1:(60:Int)<(L.length:Int):=by omega
   go_wp2;go_ret;exact⟨rfl,cB⟩
  have g1:¬(60:Int)<(L.length:Int):=by omega
  obtain⟨y0,y1,y2,y3,y4⟩:=HY w2 OB;go_wp2_with fail
  clear y0 y1 y2 y3 y4
  refine aO (aie c sa sc w2 (HE w2 cB) eG) ?_;rintro u w3 ⟨rfl,hb3⟩;have OC:U (Below W0.heap.size W0 w3):=OB.trans (hb3.mono OB.size);have fC:U (Below w.heap.size w w3):=cB.trans (hb3.mono cB.size);clear hb3;obtain⟨code,nO⟩:∃x,x=(cJ c).1:=⟨_,rfl⟩;rw[<- nO];have Ci:=ail (code:Int) (cJ c).2 w3;have amU:U (code=(cJ c).1):=nO;clear nO
  by_cases hc0:code=0
  ·subst hc0;simp only[vB]at Ci⊢;have h0:(cJ c).1=0:=amU.symm;have HR:U (er c):=Nf h0;have ic:U ((cJ c).1=0):=h0;obtain⟨t,ht⟩:∃t:ByteArray,t=⟨(fK c).toArray⟩:=⟨_,rfl⟩;have Wk:U (bl t=fK c):=by show _=_;rw[ht];exact rS _
   have xx:U _:=agG c sa sc w3 (HE w3 fC) eG;have Wl:U (∀sa sc V,Below w.heap.size w V->eU V (aj sa c.az.length sc) c.az->Calls prog 7 #[.agg (cR c sa sc)] V λv w'=>v=ax (bn #[aA t,.nilIface])/\Below V.heap.size V w'):=λsa sc V hV hE=>by rw[ht];exact Tq A c sa sc V (rG V hV).1.six (rG V hV).1.kw (rG V hV).1.tab (rG V hV).1.gb hE eG h0
   have Wm:U (∀V,Below w.heap.size w V->Calls prog 9 #[.agg (cR c sa sc)] V λv w'=>v=ax (aA t)/\Below V.heap.size V w'):=λV hV=>by rw[ht];exact V6 c sa sc V (HE V hV) eG h0
   clear h0 ht;obtain⟨y0,y1,y2,y3,y4⟩:=HY w3 OC;go_wp2_with fail
   clear y0 y1 y2 y3 y4;clear Ci
   refine aO xx.o ?_;rintro u w4 ⟨⟨OD,amV,rfl,hown⟩,hb4⟩;have Wn:U (Below W0.heap.size W0 w4):=OC.trans (hb4.mono OC.size);have nL:U (Below w.heap.size w w4):=fC.trans (hb4.mono fC.size);have zk:U _:=Wl OD amV w4 nL hown.az;clear hb4 hown xx Wl;go_wp2_with fail
   refine aO zk.o ?_;rintro u w5 ⟨rfl,iU⟩;have OE:U (Below W0.heap.size W0 w5):=Wn.trans (iU.mono Wn.size);have sX:U (Below w.heap.size w w5):=nL.trans (iU.mono nL.size);clear iU zk;obtain⟨y0,y1,y2,y3,y4⟩:=HY w5 OE;go_wp2_with fail
   clear y0 y1 y2 y3 y4
   refine aO (Wm.o w5 sX) ?_;rintro u w6 ⟨rfl,jr⟩;have Wo:U (Below W0.heap.size W0 w6):=OE.trans (jr.mono OE.size);have pS:U (Below w.heap.size w w6):=sX.trans (jr.mono sX.size);clear jr Wm
   by_cases amW:8000<(t.size:Int)
   ·go_wp2;go_ret;exact⟨rfl,pS⟩
   have Wp:U (t.size<=8000):=by show _<=_;omega
   have amX:∀V:ak,(Instr.makeSlice 41 (ae af 4096) (ae af 4096)).run prog V=.ok (aj (J (ai V.heap.size 0 I)) 4096 4096) (V.alloc (ay (madeCells #[ae .u8 0] 4096) 5)):=λV=>run_make_row' (P:=prog) 41 5 (ae .u8 0) 1 underlying41 amN rfl af af 4096 (by omega) (by omega) V
   go_upto_region 11 with fail
   go_cut [10] (λm wx=>uU w6 w6 c (aj sa c.az.length sc) m wx/\Below w6.heap.size w6 wx)
   case first=>
    refine tT 7 rfl (Oy w6 w6 c (aj sa c.az.length sc)) (λV=>Below w6.heap.size w6 V) (by kernel_rfl) (by kernel_rfl) (uy (aF _ _)) ?_ ?_
    ·refine mM ⟨?_,?_,?_,?_,?_,?_,?_,trivial⟩
     all_goals
      refine ql.free rfl ?_;intro a V hC aB aQ
     ·have x0:a.tmps[2]?.getD undef=aq (J (ai w.heap.size 0 I)):=aW (aQ 2 (dS (by kernel_rfl)));obtain⟨y0,y1,y2,y3,y4⟩:=HY V (Wo.trans (hC.mono Wo.size));exact eh (c:=.agg (cR c sa sc)) (by clear aB aQ;go_simp) hC rfl
     ·exact goodRun.made (c:=(aj (J (ai V.heap.size 0 I)) 4096 4096)) (w':=V.alloc (ay (madeCells #[ae .u8 0] 4096) 5)) (by clear aB aQ;go_simp) (hC.alloc hC.size _) (Oz ((aF _ _).alloc (aR _) _)) ⟨V.heap.size,rfl,Wj V _⟩
     ·obtain⟨b,hv,hrow⟩:=aB _ 55 (bj (i:=0) rfl) rfl rfl;have ahO:=aW hv;have cv:=amO _ _ _ 4096 hrow;clear hv hrow;exact eh (c:=aA (ZP 4096)) (by clear aB aQ;go_simp) hC rfl
     ·have amY:a.tmps[56]?.getD undef=aA (ZP 4096):=aW (aB _ 56 (bj (i:=0) rfl) rfl rfl);generalize hZ:ZP 4096=Z at amY;exact eh (c:=bK #[aA Z,aL false,ae af 0,aL false,ae af 0]) (by clear aB aQ;go_simp) hC (by show _=_;rw[hZ])
     ·have amZ:a.tmps[57]?.getD undef=bK #[aA (ZP 4096),aL false,ae af 0,aL false,ae af 0]:=aW (aB _ 57 (bj (i:=0) rfl) rfl rfl);generalize hZ:ZP 4096=Z at amZ;exact goodRun.made (c:=(aq (J (ai V.heap.size 0 I)))) (w':=V.alloc (ay #[aA Z,aL false,ae af 0,aL false,ae af 0] 43)) (by clear aB aQ;go_simp) (hC.alloc hC.size _) (Oz ((aF _ _).alloc (aR _) _)) ⟨V.heap.size,rfl,hC.size,by rw[hZ];exact⟨Wj V _⟩⟩
     ·have ahN:a.tmps[54]?.getD undef=.agg (cR c sa sc):=aW (aB _ 54 (bj (i:=0) rfl) rfl rfl);obtain⟨b,hv,dt,oH⟩:=aB _ 58 (bj (i:=1) rfl) rfl rfl;have apn:a.tmps[58]?.getD undef=aq (J (ai b 0 I)):=aW hv
      refine nZ (f:=10) (args:=#[.agg (cR c sa sc),aq (J (ai b 0 I))]) (by clear aB aQ hv oH;go_simp) ?_
      apply(amQ HR (HE w6 pS) (aF _ _) hC dt oH).mono;rintro u V' ⟨⟨v,rfl,hM⟩,hb⟩;exact⟨_,rfl,hC.trans (hb.mono hC.size),Oz hb,hM⟩
     have hM:=aB _ 59 (bj (i:=0) rfl) rfl rfl;obtain⟨mb,bm,G,hv,Ji⟩:=hM;have apo:a.tmps[59]?.getD undef=aq (J (ai mb 0 I)):=aW hv;exact eh (c:=aq (J (ai mb 0 I))) (by clear aB aQ hv Ji;go_simp) hC ⟨mb,bm,G,rfl,Ji⟩
    intro vals V hC hS;have hM:uU w6 w6 c (aj sa c.az.length sc) (vals 6) V:=hS 6 (ar rfl);obtain⟨mb,bm,G,hv,(Ji:U _)⟩:=hM;clear hS;simp only[fill,dZ];go_simp
    go_wp2
    go_meet
    case rel=>exact⟨⟨mb,bm,G,rfl,Ji⟩,hC⟩
   obtain⟨⟨mb,bm,G,rfl,hM,hG⟩,A7⟩:=hcut;rename ak=>w7
   have Jg:U (pX w6 w7 c (aj sa c.az.length sc) mb bm (aD.new c (aI.new 4096)) (aj I 0 0) (aj I 0 0) [] []):=⟨⟨G,hM,hG,(λk hk=>by cases hk),(λk hk=>by cases hk)⟩,⟨A7,gF _ _ _ _⟩,⟨A7,gF _ _ _ _⟩,(λk hk=>by cases hk)⟩;have am0:U _:=kR w6 pS;have apq:L.length<=60:=by omega
   have I0:U (∀ls:List Bs,ls.length<=60->jE ls<=1500->bF c (fS c (aD.new c (aI.new 4096)) ls) ls.length (144*(fS c (aD.new c (aI.new 4096)) ls).d.now)/\(fS c (aD.new c (aI.new 4096)) ls).d.now<=1500/\(fS c (aD.new c (aI.new 4096)) ls).LB):=λls h1 h2=>by
    have xm:(aD.new c (aI.new 4096)).d.now=0:=rfl;obtain⟨f1,f2⟩:=La HR ls _ 0 (IG HR) (by omega);rw[lD]at f1;exact⟨f1,by omega,LB.fS HR ls _ 0 (LB.new _ _) (IG HR) (by omega)⟩
   clear hM hG A7 amX g1 hl0 amW kR;go_upto_region 13 with fail
   go_cut [12] (λi wx=>i=ae af 0/\wx=w7)
   case first=>
    go_wp2
    go_meet
    case rel=>exact⟨rfl,rfl⟩
   obtain⟨rfl,rfl⟩:=hcut;rename ak=>w7
   go_wp2_with fail
   go_loopw [8,9,11,12,13,14,15] (λlv wv tv i _ _ _ wr=>∃(n tk:Nat) (xs:List ByteArray),n<=L.length/\i=ae af n/\tv=ae af tk/\xs.length<=n/\tk<=1500/\U (jE (xs.map bl)<=tk/\∀x∈xs,x.size<=10000)/\U (pX w6 wr c (aj sa c.az.length sc) mb bm (fS c (aD.new c (aI.new 4096)) (xs.map bl)) lv wv xs (lu (gS c lW (aD.new c (aI.new 4096)) (xs.map bl))))) (λ_ _ _ i _ _ _ _=>L.length-(intOf i).toNat)
   case atStart=>exact⟨0,0,[],bA _,rfl,rfl,aR _,bA _,⟨aR _,λx hx=>by cases hx⟩,Jg⟩
   case round=>
    clear Jg;obtain⟨n,tk,xs,hn,rfl,rfl,qV,yv,HX,HL⟩:=hrel;have wY:U ((lu (gS c lW (aD.new c (aI.new 4096)) (xs.map bl))).length=xs.length):=by show _=_;unfold lu;rw[iE,KY,iE]
    obtain⟨ka,kc,kA⟩:=iB HL.l.own;subst kA;obtain⟨wa,wc,Wq⟩:=iB HL.m.own;rw[wY.o]at Wq;subst Wq;have jo:U (Below w.heap.size w wr):=pS.trans (HL.l.aY.mono pS.size)
    by_cases hlt:n<L.length
    ·have k1:(n:Int)<(L.length:Int):=by omega
     obtain⟨x,hx⟩:∃x,L[n]?=J x:=⟨_,bq hlt⟩;obtain⟨wd,N⟩:=x;obtain⟨b,o,na,nc,rfl,FN,y0,y1⟩:=wI.at am0.o hx;simp only at FN y0 y1;have apr:U _:=And.intro y0 y1;replace y0:=aJ HL.l.aY y0
     replace y1:=aJ HL.l.aY y1
     have bH:=bw.below FN HL.l.aY;clear hx;change U _ at FN
     by_cases q1:5<(N.length:Int)
     ·clear bH;go_wp2;go_ret;exact⟨rfl,jo⟩
     by_cases q2:60<(wd.size:Int)
     ·clear bH;go_wp2;go_ret;exact⟨rfl,jo⟩
     have Eh:U _:=aji wd N na nc wr bH (by omega) (by omega);clear bH;go_wp2_with fail
     refine aO Eh.o ?_;rintro e wp ⟨hb3,hno,Ah⟩;have jl:U _:=HL.below hb3;have am1:U (Below w.heap.size w wp):=jo.trans (hb3.mono jo.size);have z0:=aJ hb3 y0;have z1:=aJ hb3 y1;clear y0 y1 hb3 HL jo Eh
     cases hv:lV (bl wd) N with
     |none=>
      obtain rfl:=hno hv;clear hno Ah hv z0 z1;go_wp2
      go_roundw
      case rel=>exact⟨n+1,tk,xs,by omega,by go_num,rfl,by omega,yv,HX,jl⟩
      case measure=>simp[intOf];omega
     |some s=>
      obtain rfl:=Ah s hv;obtain⟨t1,t2⟩:=ajn hv;obtain⟨k,sF,OG,hlk,dQ,fL⟩:=ajM hv;have Ws:=ajo hv (by rw[show (bl wd).length=wd.size by simp[bl]];omega) (by omega);have Wt:wd=kO k:=oK (by rw[OG];simp[bl,kO]);obtain⟨y,hy⟩:∃y:ByteArray,y=⟨s.toArray⟩:=⟨_,rfl⟩;have Jj:U (bl y=s/\y.size<=10000):=⟨by rw[hy];simp[bl],by rw[hy];show s.toArray.size<=10000;rw[rV];exact Ws⟩;have am2:U (k<14/\N.length=(eH k).length/\(∀n∈N,0<=n/\n<=99999)/\wd=kO k/\∀(c:aX) (K:aD),K.fR c s=K.cW c N k):=⟨sF,hlk,dQ,Wt,fL⟩;have hk3:k=3->bl wd=og 3:=λe=>by rw[OG,e]
      rw[<- hy];clear hno Ah hv hy Ws sF hlk dQ fL Wt OG;go_upto_if 97 with fail
      go_cut [11] (λtv wx=>∃CL:Nat,tv=ae af CL/\CL<=1500/\U (tk+ik s<=CL/\(k=3->(N.getD 0 0).toNat<=1500))/\wx=wp)
      case first=>
       by_cases hw:bl wd=og 3
       ·obtain⟨q,rfl,qz,q9,q3⟩:=t2 hw;obtain⟨g,o',rfl,hc⟩:=sj (bw.below FN jl.l.aY) (k:=0) (x:=q) rfl;rw[show ([q]:List Int).length=1 from rfl]at z1;have c0:wp.cell? ⟨g,o',I⟩=J (ae af q):=by simpa using hc 0 q rfl
        have hwd:(wd.toList==[116,105,99,107])=true:=by rw[gW,qw];exact hw
        rw[hwd];clear hwd;obtain⟨q',rfl⟩:∃q':Nat,q=(q':Int):=⟨q.toNat,by omega⟩;have HQ:U (ik s<=q'):=q3;clear hc t1 t2 hw q3 hk3
        by_cases lh:1500<(tk:Int)+(q':Int)
        ·go_wp2;go_ret;exact⟨rfl,am1⟩
        go_wp2
        go_meet
        case rel=>exact⟨_,by go_num,by omega,⟨by have:=HQ.o;omega,λ_=>by show (q':Int).toNat<=1500;omega⟩,rfl⟩
       have hwd:(wd.toList==[116,105,99,107])=false:=by rw[gW,gX];exact hw
       rw[hwd];have HQ:U (ik s=0/\k≠3):=⟨t1 hw,λe=>hw (hk3 e)⟩;clear t1 t2 hw hwd hk3;go_wp2
       go_meet
       case rel=>exact⟨tk,rfl,yv,⟨by have:=HQ.1;omega,λe=>absurd e HQ.2⟩,rfl⟩
      obtain⟨CL,rfl,am3,HQ,rfl⟩:=hcut;rename ak=>wp
      clear t1 t2 hk3;have hlx:(xs.map bl).length<=60:=by rw[iE];omega
      obtain⟨f1,f2,f3⟩:=I0 (xs.map bl) hlx (bp HX.1 yv);have Jk:U _:=jl.act (λG hG=>by
       obtain⟨d1,d2,d3,d4,d5⟩:=am2.o;have h9:=amM (M:=1500) k d1 d2 d3 HQ.2 hG FN HR f1 (by rw[iE];omega) (by rw[iE];omega) eG ic f3;rw[<- d4,<- d5]at h9;exact h9)
      have qp:U (jE ((xs++[y]).map bl)<=CL/\∀x∈xs++[y],x.size<=10000):=by
       refine⟨?_,λx hx=>?_⟩
       ·rw[lC,GQ];have h5:jE (List.map bl [y])=ik s:=by show ik _+0=_;rw[Jj.1];rfl
        have h6:=HX.1;have h7:=HQ.1;omega
       rcases qN.1 hx with hx|hx
       ·exact HX.2 x hx
       rw[g_.1 hx];exact Jj.2
      obtain⟨a,ha⟩:∃a:ByteArray,a=⟨(nI lW ((fS c (aD.new c (aI.new 4096)) (xs.map bl)).fR c s)).toArray⟩:=⟨_,rfl⟩;have HEq:U (fS c (aD.new c (aI.new 4096)) ((xs++[y]).map bl)=((fS c (aD.new c (aI.new 4096)) (xs.map bl)).fR c s).1/\lu (gS c lW (aD.new c (aI.new 4096)) ((xs++[y]).map bl))=lu (gS c lW (aD.new c (aI.new 4096)) (xs.map bl))++[a]):=by
       have e1:(xs++[y]).map bl=xs.map bl++[s]:=by rw[lC,List.map_singleton,Jj.1]
       rw[e1,KW,KX,ha];unfold lu;rw[lC];exact⟨rfl,rfl⟩
      rw[<- ha]at Jk;generalize ((fS c (aD.new c (aI.new 4096)) (xs.map bl)).fR c s).1=K1 at Jk HEq;clear HX HQ Jj f1 f2 f3 hlx ha jl;go_wp2_with fail
      refine aO Jk.o ?_;rintro e wq ⟨rfl,hq⟩;have jC:U (wq.ownsRow _ 9 1 _ _ _):=hq.l.own;have Co:=hq.l.aY.size;clear Jk z0 z1;change U _ at hq;go_upto_region 26 with(at_builtin;refine vA _ rfl _ _ 37 rfl _ 9 i0 _ 1 16 underlying37 mr hz0 hz1 hz2 rfl (ar rfl) (aj ka xs.length kc) xs.length (xs.flatMap ct) rfl (xH jC _) ⟨wq.heap.size,0,I⟩ 1 1 [aA y] rfl rfl (mP wq [aA y] 9) (λu hu=>by rw[g_]at hu;subst hu;rfl) (ar rfl) (by unfold maxLen;omega) (by omega) (by simp;omega) (wq.heap.size+1) (by simp) ?_;intro gg cc sB hown hg cH ru)
      have um:U _:=hq.put rfl hown hg cH;clear hown hg cH ru jC hq;have Bl:U (sB.ownsRow w6.heap.size 9 1 (aj wa xs.length wc) xs.length ((lu (gS c lW (aD.new c (aI.new 4096)) (xs.map bl))).flatMap ct)):=by
       have:=um.m.own;rw[wY.o]at this;exact this
      have aps:=um.l.aY.size;go_wp2_with (at_builtin;refine vA _ rfl _ _ 37 rfl _ 9 i0 _ 1 16 underlying37 mr hz0 hz1 hz2 rfl (ar rfl) (aj wa xs.length wc) xs.length ((lu (gS c lW (aD.new c (aI.new 4096)) (xs.map bl))).flatMap ct) rfl (xH Bl _) ⟨sB.heap.size,0,I⟩ 1 1 [aA a] rfl rfl (mP sB [aA a] 9) (λu hu=>by rw[g_]at hu;subst hu;rfl) (ar rfl) (by unfold maxLen;omega) (by omega) (by simp;omega) (sB.heap.size+1) (by simp) ?_;intro g2 c2 apt hown hg cH am4)
      have Wu:U _:=(um.swap.put (by rw[wY.o]) hown hg cH).swap;rw[<- HEq.1,<- HEq.2]at Wu;clear hown hg cH am4 Bl um HEq wY;go_roundw
      case rel=>exact⟨n+1,CL,_,by omega,by go_num,rfl,by simp;omega,am3,qp,Wu⟩
      case measure=>simp[intOf];omega
    obtain rfl:n=L.length:=by omega
    have k1:¬(L.length:Int)<(L.length:Int):=by omega
    have bH:=bI.jz (B:=w6.heap.size) (T:=9) HL.l.own (λ_=>rfl);have HW:U _:=HL.m;have yj:U _:=U0 A lW t xs ka kc wr (rG wr jo).1 (rG wr jo).2 (by have:=Wp.o;omega) bH (λx hx=>bp (HX.2 x hx) (ar rfl)) (by omega) (by have:=HX.1;omega);have sD:U (gD a_ (bl t)=((0,-1),c)):=by show _=_;rw[Wk.o];exact Ps TD ic (by rw[<- Wk.o,AE];exact Wp)
    clear bH HL HX;go_wp2_with fail
    refine aO yj.o ?_;rintro e w8 ⟨OH,av,ev,rfl,-,-,Wv⟩;obtain⟨rfl,how⟩:=Wv (by rw[iE];omega) (by rw[sD.o]);rw[sD.o]at how;obtain⟨oa,oc,qD⟩:=iB how;rw[wY.o]at qD;subst qD;have am5:U (Calls prog 14 #[aj oa xs.length oc,aj wa xs.length wc] w8 λe w'=>e=ax (aL true)/\Below w8.heap.size w8 w'):=by
     have h5:=how.jz (λ_=>rfl);have h6:=bI.jz (B:=w6.heap.size) (T:=9) (HW.below OH).own (λ_=>rfl);have h7:=U5 _ oa wa oc wc w8 (by rw[wY.o];exact h5) (by rw[wY.o];exact h6) (by rw[wY.o];omega);rw[wY.o]at h7;exact h7
    have Ww:U _:=jo.trans (OH.mono jo.size);clear how Wv OH yj HW;go_wp2_with fail
    refine aO am5.o ?_;rintro e w9 ⟨rfl,am6⟩;go_wp2;go_ret;exact⟨rfl,Ww.trans (am6.mono Ww.size)⟩
  have g0:0<(code:Int):=by omega
  go_wp2;go_ret;exact⟨rfl,fC⟩
 rw[show Ct true=1 from rfl];go_wp2;go_ret;exact⟨rfl,cB⟩
end Go.Proofs.YtgjlihibabmgcaaGreatDoor
