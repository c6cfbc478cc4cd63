/-
  Several texts as one: KeNew, KpRt, DcBase, DcStr, DcErrP, CfRName, CfHeavyE, DcErr, DcFault, KlBase, ScDo, ScPlay, CfRStep.
-/
import Derived.Test.YtgjlihibabmgcaaGreatDoorP07S
import Derived.OwnWalk
set_option linter.all false
set_option maxHeartbeats 40000000
set_option maxRecDepth 100000
abbrev ET.{u}:=@List.getElem?_eq_none_iff.{u}
open Go renaming Addr→aC,Value→aw,World→ak
open Go.Addr renaming mk→ai
open Go.Ending renaming returned→ax
open Go.IntKind renaming i64→af
open Go.Obj renaming cells→ay
open Go.RowKit renaming Hid→U
open Go.Value renaming agg→bK,bool→aL,int→ae,pointer→aq,slice→aj,string→aA,tuple→bn
open Go.World renaming cell?→aH,frozen?→bM,setCell→bN
open Option renaming none→I,some→J
open Go.Proofs.Tryz
namespace Go.Proofs.YtgjlihibabmgcaaGreatDoor
open Go.Extern Go.Extern.Stop Go.RowKit Go.Stop
variable{B b k n rb:Nat}{a:List ByteArray}{c:aX}{e:aM}{es t:List aM}{l:Bs}{p s:ByteArray}{st:RS}{w:ak}
def aht{a:Act}{o:Oper}{s x:Operand}{t ty:TypeId}{vs vx v':aw}{V V':ak}(ho:o.op=.call { callee:=.builtin .append,args:=#[s,x],argTypes:=#[t,t] })(vC:o.type=ty)(hs:a.eval s=vs)(hx:a.eval x=vx)
  (hr:(Builtin.append_ #[t,t] ty #[vs,vx]).run prog V=.ok v' V'):(execOp a.eval o).run prog V=.ok (.value v') V':=by
 subst vC hs hx;simp[execOp,ho,resolve,invoke,builtin,hr]
def ahu:(prog.info? 190).map (λi=>(i.zero,i.size,i.bytes))=J (J (aq I),1,8):=by kernel_rfl
def ahv(kb:Nat)(lx ag:aw):Nat->aw
 |0=>aq (J (ai kb 0 I))
 |1=>aq (J (ai kb 0 I))
 |2=>aq (J (ai kb 0 I))
 |3=>aq (J (ai kb 5 I))
 |4=>lx
 |5=>ag
 |9=>aq (J (ai kb 0 I))
 |10=>aq (J (ai kb 5 I))
 |_=>undef
structure il(V0:ak)(kb n:Nat)(K:Nat->aw)(P:Nat->ak->Prop)(Q:Nat->ak->Nat->Nat->ak->Prop)(vals:Nat->Option aw)(V:ak):Prop where
 cs:∀j,j<6\/j=9\/j=10->∀v,vals j=J v->v=K j
 st:(vals 6=.none/\vals 7=.none/\vals 8=.none/\vals 11=.none/\V=V0)\/(∃b,vals 6=J (aq (J ⟨b,0,.none⟩))/\vals 7=.none/\vals 8=.none/\vals 11=.none/\P b V)\/(∃b V1,vals 6=J (aq (J ⟨b,0,.none⟩))/\vals 7=J (aj (J ⟨V1.heap.size,0,.none⟩) 1 1)/\vals 8=.none/\vals 11=.none/\P b V1/\V=V1.alloc (ay #[aq (J ⟨b,0,.none⟩)] 190)) \/
  (∃b V1 g cap V3,vals 6≠.none/\vals 7≠.none/\vals 8=J (aj (J ⟨g,0,.none⟩) (n+1) cap)/\P b V1/\Q b V1 g cap V3/\((vals 11=.none/\V=V3)\/(vals 11≠.none/\V=V3.setCell ⟨kb,5,.none⟩ (aj (J ⟨g,0,.none⟩) (n+1) cap))))
 cl:(vals 6≠.none->vals 5≠.none)/\(vals 8≠.none->vals 4≠.none)
section
variable {V0 V V':ak}{kb n:Nat}{K:Nat->aw}{P:Nat->ak->Prop}{Q:Nat->ak->Nat->Nat->ak->Prop}{vals:Nat->Option aw}{i:Nat}{u:aw}
def il.start:il V0 kb n K P Q (λ_=>.none) V0:=⟨λ_ _ _ h=>(by cases h),aT ⟨rfl,rfl,rfl,rfl,rfl⟩,λh=>absurd rfl h,λh=>absurd rfl h⟩
def il.const(h:il V0 kb n K P Q vals V)(hi:i<6\/i=9\/i=10)(hu:u=K i):il V0 kb n K P Q (upd vals i u) V:=by
 have o:∀j,j=6\/j=7\/j=8\/j=11->upd _ i u j=vals j:=λj hj=>dU _ u (by omega)
 refine⟨λj hj v hv=>?_,?_,λh6=>qj (h.cl.1 (by rwa [o 6 (by omega)]at h6)),λh8=>qj (h.cl.2 (by rwa [o 8 (by omega)]at h8))⟩
 ·by_cases e:j=i
  ·subst e;rw[jH]at hv;exact(fg hv).symm.trans hu
  exact h.cs j hj v (by rwa [dU vals u e]at hv)
 rw[o 6 (by omega),o 7 (by omega),o 8 (by omega),o 11 (by omega)];exact h.st
def il.ahw(h:il V0 kb n K P Q vals V)(hn:vals 4=.none):V=V0\/(∃b,P b V)\/∃b V1,P b V1/\V=V1.alloc (ay #[aq (J ⟨b,0,.none⟩)] 190):=by
 rcases h.st with⟨_,_,_,_,e⟩|⟨b,_,_,_,_,e⟩|⟨b,V1,_,_,_,_,e,e2⟩|⟨_,_,_,_,_,_,_,h8,_⟩
 ·exact aT e
 ·exact aN (aT ⟨b,e⟩)
 ·exact aN (aN ⟨b,V1,e,e2⟩)
 exact absurd hn (h.cl.2 (by rw[h8];simp))
def il.M7(h:il V0 kb n K P Q vals V)(hn:vals 6=.none):V=V0/\vals 7=.none/\vals 8=.none/\vals 11=.none:=by
 rcases h.st with⟨_,a,b,c,e⟩|⟨b,h6,_⟩|⟨b,V1,h6,_⟩|⟨_,_,_,_,_,h6,_⟩
 ·exact⟨e,a,b,c⟩
 ·rw[hn]at h6;cases h6
 ·rw[hn]at h6;cases h6
 exact absurd hn h6
def il.ahx(h:il V0 kb n K P Q vals V)(hn:vals 5=.none):V=V0:=by
 refine(h.M7 ?_).1
 cases e:vals 6 with
 |none=>rfl
 |some u=>exact absurd hn (h.cl.1 (by rw[e];simp))
def il.mem(h:il V0 kb n K P Q vals V)(hi:i=6\/i=7\/i=8\/i=11)(h5:i=6->vals 5≠.none)(h4:i=8->vals 4≠.none)(hs:(upd vals i u 6=.none/\upd vals i u 7=.none/\upd vals i u 8=.none/\upd vals i u 11=.none/\V'=V0)\/(∃b,upd vals i u 6=J (aq (J ⟨b,0,.none⟩))/\upd vals i u 7=.none/\upd vals i u 8=.none/\upd vals i u 11=.none/\P b V')\/(∃b V1,upd vals i u 6=J (aq (J ⟨b,0,.none⟩))/\upd vals i u 7=J (aj (J ⟨V1.heap.size,0,.none⟩) 1 1)/\upd vals i u 8=.none/\upd vals i u 11=.none/\P b V1/\V'=V1.alloc (ay #[aq (J ⟨b,0,.none⟩)] 190)) \/
  (∃b V1 g cap V3,upd vals i u 6≠.none/\upd vals i u 7≠.none/\upd vals i u 8=J (aj (J ⟨g,0,.none⟩) (n+1) cap)/\P b V1/\Q b V1 g cap V3/\((upd vals i u 11=.none/\V'=V3)\/(upd vals i u 11≠.none/\V'=V3.setCell ⟨kb,5,.none⟩ (aj (J ⟨g,0,.none⟩) (n+1) cap))))):il V0 kb n K P Q (upd vals i u) V':=by
 refine⟨λj hj v hv=>h.cs j hj v (by rwa [dU vals u (by omega)]at hv),hs,λh6=>qj ?_,λh8=>qj ?_⟩
 ·by_cases e:i=6
  ·exact h5 e
  exact h.cl.1 (by rwa [dU vals u (λe2=>e e2.symm)]at h6)
 by_cases e:i=8
 ·exact h4 e
 exact h.cl.2 (by rwa [dU vals u (λe2=>e e2.symm)]at h8)
def il.call(h:il V0 kb n K P Q vals V)(hn:vals 6=.none)(h5:vals 5≠.none)(hp:P b V'):il V0 kb n K P Q (upd vals 6 (aq (J ⟨b,0,.none⟩))) V':=by
 obtain⟨-,h7,h8,h11⟩:=h.M7 hn
 refine h.mem (aT rfl) (λ_=>h5) (λe=>by cases e) (aN (aT ⟨b,jH _ _ _,?_,?_,?_,hp⟩))
 ·rw[dU _ _ (ar rfl)];exact h7
 ·rw[dU _ _ (ar rfl)];exact h8
 rw[dU _ _ (ar rfl)];exact h11
def il.built(h:il V0 kb n K P Q vals V)(hn:vals 7=.none)(h6:vals 6=J u):∃b,u=aq (J ⟨b,0,.none⟩)/\P b V/\il V0 kb n K P Q (upd vals 7 (aj (J ⟨V.heap.size,0,.none⟩) 1 1)) (V.alloc (ay #[aq (J ⟨b,0,.none⟩)] 190)):=by
 rcases h.st with⟨a,_⟩|⟨b,a,_,h8,h11,hp⟩|⟨b,V1,_,a,_⟩|⟨_,_,_,_,_,_,a,_⟩
 ·rw[h6]at a;cases a
 ·refine⟨b,fg (h6.symm.trans a),hp,h.mem (aN (aT rfl)) (λe=>by cases e) (λe=>by cases e) (aN (aN (aT ⟨b,V,?_,jH _ _ _,?_,?_,hp,rfl⟩)))⟩
  ·rw[dU _ _ (ar rfl)];exact a
  ·rw[dU _ _ (ar rfl)];exact h8
  rw[dU _ _ (ar rfl)];exact h11
 ·rw[hn]at a;cases a
 exact absurd hn a
def il.app(h:il V0 kb n K P Q vals V)(hn:vals 8=.none)(h7:vals 7=J u)(h4:vals 4≠.none):∃b V1,u=aj (J ⟨V1.heap.size,0,.none⟩) 1 1/\P b V1/\V=V1.alloc (ay #[aq (J ⟨b,0,.none⟩)] 190)/\∀g cap V3,Q b V1 g cap V3->il V0 kb n K P Q (upd vals 8 (aj (J ⟨g,0,.none⟩) (n+1) cap)) V3:=by
 rcases h.st with⟨_,a,_⟩|⟨b,_,a,_⟩|⟨b,V1,h6,a,_,h11,hp,e⟩|⟨_,_,_,_,_,_,_,a,_⟩
 ·rw[h7]at a;cases a
 ·rw[h7]at a;cases a
 ·refine⟨b,V1,fg (h7.symm.trans a),hp,e,λg cap V3 hq=>h.mem (aN (aN (aT rfl))) (λe=>by cases e) (λ_=>h4) (aN (aN (aN ⟨b,V1,g,cap,V3,?_,?_,jH _ _ _,hp,hq,aT ⟨?_,rfl⟩⟩)))⟩
  ·rw[dU _ _ (ar rfl),h6];simp
  ·rw[dU _ _ (ar rfl),a];simp
  rw[dU _ _ (ar rfl)];exact h11
 rw[hn]at a;cases a
def il.put(h:il V0 kb n K P Q vals V)(hn:vals 11=.none)(h8:vals 8=J u):∃b V1 g cap,u=aj (J ⟨g,0,.none⟩) (n+1) cap/\P b V1/\Q b V1 g cap V/\il V0 kb n K P Q (upd vals 11 undef) (V.setCell ⟨kb,5,.none⟩ (aj (J ⟨g,0,.none⟩) (n+1) cap)):=by
 rcases h.st with⟨_,_,a,_⟩|⟨b,_,_,a,_⟩|⟨b,V1,_,_,a,_⟩|⟨b,V1,g,cap,V3,h6,h7,a,hp,hq,⟨_,e⟩|⟨e,_⟩⟩
 ·rw[h8]at a;cases a
 ·rw[h8]at a;cases a
 ·rw[h8]at a;cases a
 ·refine⟨b,V1,g,cap,fg (h8.symm.trans a),hp,e▸hq,h.mem (aN (aN (aN rfl))) (λe=>by cases e) (λe=>by cases e) (aN (aN (aN ⟨b,V1,g,cap,V3,?_,?_,?_,hp,hq,aN ⟨by rw[jH];simp,by rw[e]⟩⟩)))⟩
  ·rw[dU _ _ (ar rfl)];exact h6
  ·rw[dU _ _ (ar rfl)];exact h7
  rw[dU _ _ (ar rfl)];exact a
 exact absurd hn e
def il.fin(h:il V0 kb n K P Q vals V)(h11:vals 11≠.none):∃b V1 g cap V3,P b V1/\Q b V1 g cap V3/\V=V3.setCell ⟨kb,5,.none⟩ (aj (J ⟨g,0,.none⟩) (n+1) cap):=by
 rcases h.st with⟨_,_,_,a,_⟩|⟨_,_,_,_,a,_⟩|⟨_,_,_,_,_,a,_⟩|⟨b,V1,g,cap,V3,_,_,_,hp,hq,⟨a,_⟩|⟨_,e⟩⟩
 ·exact absurd a h11
 ·exact absurd a h11
 ·exact absurd a h11
 ·exact absurd a h11
 exact⟨b,V1,g,cap,V3,hp,hq,e⟩
end
section
variable {A:Nat->aC}{H:Nat->Nat->Prop}{F:Nat->Prop}{w0 w w' V0 V1 V3 V4:ak}{c:aX}{kb bc bd rb bt:Nat}{rv tv lv:aw}{bs:List Nat}{s:aI}{d:bR}{ls:List aZ}{K:aD}
def nM.more(h:nM H w0 V0 c kb bc bd rv tv lv bs s d ls){g cap:Nat}{o:Obj}(he:c.az[bs.length]?=J e)(hb1:Below V0.heap.size V0 V1)(G5:dX (λk=>V0.heap.size<=k/\k<V1.heap.size) V1 b e aZ.new)
  (hown:V3.ownsRow w0.heap.size 190 1 (aj (J (ai g 0 I)) (bs.length+1) cap) (bs.length+1) (bs.flatMap lM++[aq (J (ai b 0 I))])) (hg:(V1.alloc o).grownBy V3 lv.ownBlock) (cH:lv.ownBlock=J g\/V1.heap.size<=g)
  (hW:V4=V3.setCell (ai kb 5 I) (aj (J (ai g 0 I)) (bs.length+1) cap)):nM (cO (cO H (5+bs.length) V0 V1) 1 V1 V3) w0 V4 c kb bc bd rv tv (aj (J (ai g 0 I)) (bs.length+1) cap) (bs++[b]) s d (ls++[aZ.new])/\aG (λk=>k=kb\/lv.ownBlock=J k) V0 V4:=by
 have h1:=h.below hb1;have hz0:=h.aY.size;have hz1:=hb1.size;have mA:=(aG.dm (aS V1 o) _).trans ⟨hg.os,hg.tape,hg.output,hg.size,λk hk hn=>hg.block k hk (λe=>hn e.symm)⟩ (λ_ _ e=>e);have hz3:=mA.size;have pL:aG (λk=>k=kb) V3 V4:=by rw[hW];exact aG.cG (bJ ..)
 have Co:V3.heap.size=V4.heap.size:=by rw[hW];simp[bN]
 have f1:mq (cO H (5+bs.length) V0 V1) _ V1:=h.bO.upd hz1 hz0 _;have f3:=f1.upd hz3 (by omega) 1;have f4:mq _ _ V4:=f3.grow (by omega);have Cp:∀i k,H i k->cO H (5+bs.length) V0 V1 i k:=λi k hk=>aT hk
 have up:∀i k,H i k->cO (cO H (5+bs.length) V0 V1) 1 V1 V3 i k:=λi k hk=>aT (aT hk)
 have ahy:=λk hk=>Cp 1 k (h.hl k hk)
 have s3:∀i k,i≠1->cO H _ V0 V1 i k->V3.heap[k]?=V1.heap[k]?:=λi k hi hk=>mA.block k (f1.lt i k hk) (λe=>hi (f1.xB i 1 k hk (ahy k e)))
 have s4:∀i k,i≠1->i≠0->cO H _ V0 V1 i k->V4.heap[k]?=V1.heap[k]?:=λi k hi h0 hk=>(pL.block k (cK (f1.lt i k hk) hz3) (λe=>by rw[e]at hk;exact h0 (f1.xB i 0 kb hk (Cp 0 kb h.hk)))).trans (s3 i k hi hk)
 have hrow3:=(s3 0 kb (ar rfl) (Cp 0 kb h.hk)).trans h1.row;have aog:∀i k,i≠1->cO (cO H (5+bs.length) V0 V1) 1 V1 V3 i k->cO H (5+bs.length) V0 V1 i k:=λi k hi hk=>by
  rcases hk with hk|⟨e,_⟩
  ·exact hk
  exact absurd e hi
 have Uf:=((aG.dm hb1 _).trans (mA.mono (λk _ e=>aN e)) (λ_ _ e=>e)).trans pL (λ_ _ e=>aT e)
 refine⟨⟨f4,?_,up 0 kb h.hk,?_,λk hk=>?_,?_,up 2 bc h.hc,?_,up 3 bd h.hd,λi b' e' s' hb' Ad hs'=>?_,?_,?_⟩,Uf⟩
 ·rw[hW];exact pF hrow3 _
 ·have e1:(bs++[b]).flatMap lM=bs.flatMap lM++[aq (J (ai b 0 I))]:=by rw[ji];rfl
  show V4.ownsRow _ _ _ _ _ _
  rw[e1,cY,kW];exact zq hown (λq hq=>pL.block q (hown.lt q hq).2 (λe=>by rw[e]at hq;exact qZ hown hrow3 (ar rfl) hq))
 ·cases hk
  rcases cH with e|e
  ·exact up 1 g (h.hl g e)
  exact aN ⟨rfl,e,(hown.lt g rfl).2⟩
 ·exact⟨(s4 2 bc (ar rfl) (ar rfl) (Cp 2 bc h.hc)).trans h1.cells.heap,h1.cells.len,h1.cells.size⟩
 ·exact⟨(s4 3 bd (ar rfl) (ar rfl) (Cp 3 bd h.hd)).trans h1.dog.heap,h1.dog.hc,h1.dog.ho,h1.dog.hk,h1.dog.hb,h1.dog.hn⟩
 ·have keep:∀{F1:Nat->Prop},dX F1 V1 b' e' s'->(∀k,F1 k->cO H _ V0 V1 _ k)->dX (cO _ 1 V1 V3 _) V4 b' e' s':=λhL hF=>
   ((hL.grow hF (λk hk=>f1.lt _ k hk)).same (λk hk=>s4 (5+i) k (by omega) (by omega) hk) (by omega)).grow (λk hk=>aT hk) (λk hk=>f4.lt _ k hk)
  rw[List.getElem?_append]at hb' hs'
  by_cases hi:i<bs.length
  ·rw[aU hi]at hb';rw[aU (by rw[<- h.dY];exact hi)]at hs';exact keep (h1.loc i b' e' s' hb' Ad hs') (λk hk=>Cp _ k hk)
  rw[aK hi]at hb';rw[aK (by rw[<- h.dY];exact hi)]at hs';have nG:i=bs.length:=by
   have:=(df.1 hb').1;simp at this
   omega
  subst nG;rw[h.dY,Nat.sub_self]at hs';rw[Nat.sub_self]at hb';rw[he]at Ad;simp at hb' hs'
  cases Ad
  subst hb' hs';exact keep G5 (λk hk=>aN ⟨rfl,hk⟩)
 ·rw[cY,cY,h.dY];rfl
 exact aG.below h.aY Uf hz0 (λk hk=>by
  rcases hk with hk|hk
  ·rw[hk];exact h.bO.lo 0 kb h.hk
  exact h.bO.lo 1 k (h.hl k hk))
def eU.ahz{w:ak}{sa:Option aC}{cap i:Nat}(h:eU w (aj sa es.length cap) es)(he:es[i]?=J e):∃(E:EA) (b o:Nat),sa=J ⟨b,o,I⟩/\sA w e E/\∀(j:Nat) (u:aw),(nU e (aj E.pa e.au.length E.pc) (aj E.ga e.aV.length E.gc) (aj E.ea e.aP.length E.ec) (aj E.fa e.first.length E.fc) (aj E.la e.last.length E.lc))[j]?=J u->w.cell? ⟨b,o+i*10+j,I⟩=J u:=by
 obtain⟨bQ,cap',h1,h2⟩:=h
 cases h1
 obtain⟨b,o,rfl,h3⟩:=h2 (λx=>by rw[x]at he;simp at he);obtain⟨pv,gv,dv,fv,lv,hP,hce⟩:=h3 i e he;obtain⟨pa,pc,rfl,-⟩:=id hP.hp;obtain⟨ga,gc,rfl,-⟩:=id hP.hg;obtain⟨da,dc,rfl,-⟩:=id hP.he;obtain⟨fa,fc,rfl,-⟩:=id hP.hf;obtain⟨ya,yc,rfl,-⟩:=id hP.hl;exact⟨⟨pa,ga,da,fa,ya,pc,gc,dc,fc,yc⟩,b,o,rfl,hP,hce⟩
def ahA{A:Nat->aC}{w:ak}{r:aw}{f:Nat×Int}(h:mI A w r f)(h0:f.1=0):r=.nilIface:=by
 obtain⟨-,⟨-,e⟩|⟨e,-⟩⟩:=h
 ·rw[e,h0];rfl
 omega
def fI.five{A:Nat->aC}{w:ak}(h:fI A w):l4 A w:=⟨h.c1,h.c2,h.c3,h.c4,h.c5⟩
def ahB(kb bc bd:Nat):Nat->Nat->Prop:=λi k=>(i=0/\k=kb)\/(i=2/\k=bc)\/(i=3/\k=bd)
def M9(w0 w:ak)(c:aX)(bc:Nat)(s:aI)(u:Ending)(w':ak):Prop:=∃kb F,u=ax (bn #[aq (J (ai kb 0 I)),.nilIface])/\eZ F w0 w' c kb bc (aD.new c s)/\Below w.heap.size w w'/\∀k,F k->(k=bc\/w.heap.size<=k)/\k<w'.heap.size
def Ir(A:Nat->aC)(w0 w:ak)(c:aX)(bc:Nat)(s:aI)(u:Ending)(w':ak):Prop:=if 153<=s.size then M9 w0 w c bc s u w' else (u=ax (bn #[aq I,errVal A 2])/\Below w.heap.size w w')
def ahC(sa:Option aC)(sc:Nat)(hs:fI A w0)(hr:er c)(h0:(cJ c).1=0)(hE:eU w (aj sa c.az.length sc) c.az)(hS:kJ c)(hc:bU w bc s)(dt:w0.heap.size<=bc)(kg:Below w0.heap.size w0 w)(fj:s.off=false):Calls prog 59 #[.agg (cR c sa sc),aq (J (ai bc 0 I))] w λu w'=>Ir A w0 w c bc s u w':=by
 unfold cR;obtain⟨W0,hW0⟩:∃X,X=w.alloc (ay (cR c sa sc) 24):=⟨_,rfl⟩;have b0:Below w.heap.size w W0:=by rw[hW0];exact aS _ _
 have r0:W0.heap[w.heap.size]?=J (ay (cR c sa sc) 24 (0,0)):=by rw[hW0];exact cj w _
 have C5:U _:=Ti A c sa sc W0 (hs.below (kg.trans (b0.mono kg.size))).five (hE.below b0) hS;change U _ at r0 b0
 have HG:U (fI A w0/\er c/\(cJ c).1=0/\eU w _ _/\bU w bc s/\w0.heap.size<=bc/\Below _ w0 w/\s.off=false):=⟨hs,hr,h0,hE,hc,dt,kg,fj⟩;obtain⟨cl,u_⟩:∃n:Nat,c.closed=(n:Int):=⟨c.closed.toNat,by have:=hr.cl;omega⟩;obtain⟨op,hop⟩:∃n:Nat,c.opn=(n:Int):=⟨c.opn.toNat,by have:=hr.op;omega⟩;have Iu:U (∀V,Calls prog 120 #[ae af c.closed,ae af c.opn] V λe w'=>e=ax (bn #[aq (J (ai V.heap.size 0 I)),.nilIface])/\Below V.heap.size V w'/\cS w' V.heap.size (bR.new c.closed.toNat c.opn.toNat)):=λV=>by
  have:=aaL cl op V (by have:=hr.cl;omega) (by have:=hr.op;omega) (by have:=hr.op;omega);rw[u_,hop];exact this
 clear hs hr h0 hE hS hc dt kg fj u_ hop;go_enter func59,ntmps59
 go_upto_region 1 with fail
 rw[<- hW0];clear hW0;have y0:W0.cell? (ai w.heap.size 0 I)=J (ae af c.closed):=by have:=r0.o;simp[aH,this]
 have y1:W0.cell? (ai w.heap.size 1 I)=J (ae af c.opn):=by have:=r0.o;simp[aH,this]
 have y2:W0.cell? (ai w.heap.size 2 I)=J (ae af c.cycle):=by have:=r0.o;simp[aH,this]
 have y3:W0.cell? (ai w.heap.size 3 I)=J (ae af c.bE):=by have:=r0.o;simp[aH,this]
 have y4:W0.cell? (ai w.heap.size 4 I)=J (aj sa c.az.length sc):=by have:=r0.o;simp[aH,this]
 go_wp2_with fail
 refine aO C5.o ?_;rintro u w1 ⟨r,rfl,EU,hb1⟩;have ud:=ahA EU HG.2.2.1;subst ud;have r1:=a8 hb1 r0;have z0:w1.cell? (ai w.heap.size 0 I)=J (ae af c.closed):=by simp[aH,r1]
 have z1:w1.cell? (ai w.heap.size 1 I)=J (ae af c.opn):=by simp[aH,r1]
 have bu:U _:=b0.trans (hb1.mono b0.size);change U _ at r1
 clear EU hb1 C5 r0 b0 y0 y1 y2 y3 y4;go_wp2_with fail
 refine aO (Iu.o w1) ?_;rintro u w2 ⟨rfl,hb2,mz⟩;have r2:=a8 hb2 r1;have z2:w2.cell? (ai w.heap.size 2 I)=J (ae af c.cycle):=by simp[aH,r2]
 have z3:w2.cell? (ai w.heap.size 3 I)=J (ae af c.bE):=by simp[aH,r2]
 have z4:∀o,(w2.alloc o).cell? ⟨w.heap.size,4,I⟩=J (aj sa c.az.length sc):=λo=>by
  have:=a8 (aS w2 o) r2;simp[aH,this]
 have Bj:=bu.trans (hb2.mono bu.size);have hz2:=mz.lt;have hz1:=bu.size;go_upto_region 8 with fail
 obtain⟨W3,hW3⟩:∃X,X=w2.alloc (ay #[aq (J (ai w1.heap.size 0 I)),ae af c.cycle,aq (J (ai bc 0 I)),ae af c.bE,aq I,aj I 0 0,aq I] 189):=⟨_,rfl⟩;have Ug:=z4 (ay #[aq (J (ai w1.heap.size 0 I)),ae af c.cycle,aq (J (ai bc 0 I)),ae af c.bE,aq I,aj I 0 0,aq I] 189);rw[<- hW3]at Ug⊢;have uI:Below w.heap.size w W3:=by rw[hW3];exact Bj.alloc Bj.size _
 have Uh:nM (ahB w2.heap.size bc w1.heap.size) w0 W3 c w2.heap.size bc w1.heap.size (aq I) (aq I) (aj I 0 0) [] s (bR.new c.closed.toNat c.opn.toNat) []:=by
  obtain⟨-,-,-,-,hc,dt,kg,-⟩:=HG.o;have cA:=hc.lt;have hz3:W3.heap.size=w2.heap.size+1:=by rw[hW3];simp
  have hw0:=kg.size
  refine⟨⟨λi k hk=>?_,λi k hk=>?_,λi j k hk nH=>?_⟩,by rw[hW3];exact cj w2 _,aT ⟨rfl,rfl⟩,gF _ _ _ _,λk hk=>(by cases hk),hc.below uI,aN (aT ⟨rfl,rfl⟩),by rw[hW3];exact mz.below (aS _ _),aN (aN ⟨rfl,rfl⟩),λi b e s hb=>(by simp at hb),rfl,kg.trans (uI.mono hw0)⟩
  ·rcases hk with⟨-,rfl⟩|⟨-,rfl⟩|⟨-,rfl⟩<;>omega
  ·rcases hk with⟨-,rfl⟩|⟨-,rfl⟩|⟨-,rfl⟩<;>omega
  rcases hk with⟨e1,e2⟩|⟨e1,e2⟩|⟨e1,e2⟩<;>rcases nH with⟨e3,e4⟩|⟨e3,e4⟩|⟨e3,e4⟩<;>omega
 have yi:U (∃H,nM H w0 W3 c _ bc _ _ _ _ [] s _ []/\(∀i k,H i k->k=bc\/w.heap.size<=k)/\Below _ w W3):=⟨_,Uh,λi k hk=>by
  rcases hk with⟨-,rfl⟩|⟨-,rfl⟩|⟨-,rfl⟩
  ·exact aN (by omega)
  ·exact aT rfl
  exact aN (by omega),uI⟩
 have rG:U (eU w _ _):=HG.2.2.2.1;have Ui:U (w.heap.size<=w2.heap.size):=by show _<=_;omega
 clear Uh uI Bj hW3 z0 z1 z2 z3 z4 r2 mz hb2 r1 bu hz1 hz2 Iu;generalize w1.heap.size=bd at yi;generalize w2.heap.size=kb at yi Ui;obtain⟨dg,M_⟩:∃x,x=bR.new c.closed.toNat c.opn.toNat:=⟨_,rfl⟩;rw[<- M_]at yi;change U _ at M_
 go_cut [39,40,41] (λl n i wx=>l=aj sa c.az.length sc/\n=ae af (c.az.length:Int)/\i=ae af 0/\wx=W3)
 case first=>
  go_wp2
  go_meet
  case rel=>exact⟨rfl,rfl,rfl,rfl⟩
 obtain⟨rfl,rfl,rfl,rfl⟩:=hcut;rename ak=>W3
 clear Ug;go_wp2_with fail
 obtain⟨j0,EW,qE,vI,sP⟩:=iw ahu
 go_loopw [11,41] (λ_ i wr=>∃(bs:List Nat) (lx:aw) (H:Nat->Nat->Prop),bs.length<=c.az.length/\i=ae af bs.length/\nM H w0 wr c kb bc bd (aq I) (aq I) lx bs s dg (List.replicate bs.length aZ.new)/\(∀i k,H i k->k=bc\/w.heap.size<=k)/\Below w.heap.size w wr) (λ_ i _=>c.az.length-(intOf i).toNat)
 case atStart=>obtain⟨H,a1,a2,a3⟩:=yi.o;exact⟨[],_,H,bA _,rfl,a1,a2,a3⟩
 case round=>
  clear yi;obtain⟨bs,lx,H,hbl,rfl,hd,hH,hB⟩:=hrel
  by_cases hlt:bs.length<c.az.length
  ·obtain⟨e,he⟩:∃e,c.az[bs.length]?=J e:=⟨_,bq hlt⟩;obtain⟨E,eb,eo,rfl,hP,hce⟩:=eU.ahz (rG.below hB) he;obtain⟨la,lc,hlx⟩:=iB hd.own;subst hlx;have k1:(bs.length:Int)<(c.az.length:Int):=by omega
   have k8:bs.length<8:=by have:=HG.2.1.nn;omega
   have x0:wr.cell? ⟨eb,eo+bs.length*10,_⟩=J (aA _):=hce 0 _ rfl;have x1:wr.cell? _=J (ae af _):=hce 1 _ rfl;have x2:wr.cell? _=J (aj _ _ _):=hce 2 _ rfl;have x3:wr.cell? _=J (ae af _):=hce 3 _ rfl;have x4:wr.cell? _=J (ae af _):=hce 4 _ rfl;have x5:wr.cell? _=J (ae af _):=hce 5 _ rfl;have x6:wr.cell? _=J (aj _ _ _):=hce 6 _ rfl;have x7:wr.cell? _=J (aj _ _ _):=hce 7 _ rfl;have x8:wr.cell? _=J (aj _ _ _):=hce 8 _ rfl;have x9:wr.cell? _=J (aj _ _ _):=hce 9 _ rfl;change U _ at hd hH hB hP he
   clear hce;go_upto_region 11 with fail
   obtain⟨V0,ia⟩:∃X,X=wr.alloc (ay (eR e E.pa E.pc E.ga E.gc E.ea E.ec E.fa E.fc E.la E.lc) 58):=⟨_,rfl⟩;rw[<- ia];have hb0:Below wr.heap.size wr V0.drew:=by rw[ia];exact(aS _ _).drew
   have cN:V0.drew.heap[wr.heap.size]?=J (ay (eR e E.pa E.pc E.ga E.gc E.ea E.ec E.fa E.fc E.la E.lc) 58 (0,0)):=by rw[ia];exact cj wr _
   have rX:=hd.below hb0;change U _ at cN
   have b0:U _:=hB.trans (hb0.mono hB.size);have LQ:U _:=adv _ e E (fh.below hP hb0) (HG.2.1.each e (bP he.o)).1;have Na:∀V,Below V0.drew.heap.size V0.drew V->V.heap[kb]?=J (ay (xK c bd bc (aq I) (aj la bs.length lc) (aq I)) 189 (0,0)):=λV hV=>a8 hV rX.row
   have Nb:U (∀b V1,(λb V=>dX (λk=>V0.drew.heap.size<=k/\k<V.heap.size) V b e aZ.new/\Below V0.drew.heap.size V0.drew V) b V1->∃g cap V3,(Builtin.append_ #[186,186] 186 #[aj la bs.length lc,aj (J (ai V1.heap.size 0 I)) 1 1]).run prog (V1.alloc (ay #[aq (J (ai b 0 I))] 190))=.ok (aj (J (ai g 0 I)) (bs.length+1) cap) V3/\(λb V1 g cap V3=>V3.ownsRow w0.heap.size 190 1 (aj (J (ai g 0 I)) (bs.length+1) cap) (bs.length+1) (bs.flatMap lM++[aq (J (ai b 0 I))])/\(V1.alloc (ay #[aq (J (ai b 0 I))] 190)).grownBy V3 (Value.slice la bs.length lc).ownBlock/\((Value.slice la bs.length lc).ownBlock=J g\/V1.heap.size<=g)) b V1 g cap V3):=λb V1 hp=>by
    have hz:=bp rX.aY.size hp.2.size;obtain⟨g,cap,V3,hr,h2,h3,h4,-⟩:=run_append_lies (P:=prog) _ 186 186 _ 190 j0 _ 1 8 underlying186 EW qE vI sP rfl (ar rfl) _ _ _ (xw.below (xw.below rX.own hp.2) (aS _ _)) _ 1 1 _ rfl (mP V1 [aq (J (ai b 0 I))] 190) (λu hu=>by rw[g_]at hu;subst hu;rfl) (ar rfl) (by unfold maxLen;omega) (by omega) (by simp;omega) _ rfl;exact⟨g,cap,V3,hr,h2,h3,h4.imp id (λe=>by rw[e];simp)⟩
   have EX:=qZ rX.own rX.row (ar rfl);have Nc:U (∀b V1 g cap V,(λb V=>dX (λk=>V0.drew.heap.size<=k/\k<V.heap.size) V b e aZ.new/\Below V0.drew.heap.size V0.drew V) b V1->(λb V1 g cap V3=>V3.ownsRow w0.heap.size 190 1 (aj (J (ai g 0 I)) (bs.length+1) cap) (bs.length+1) (bs.flatMap lM++[aq (J (ai b 0 I))])/\(V1.alloc (ay #[aq (J (ai b 0 I))] 190)).grownBy V3 (Value.slice la bs.length lc).ownBlock/\((Value.slice la bs.length lc).ownBlock=J g\/V1.heap.size<=g)) b V1 g cap V->V.cell? (ai kb 5 I)=J (aj la bs.length lc)/\V.frozen? (ai kb 5 I)=false):=λb V1 g cap V hp hq=>by
    have h1:=Na V1 hp.2;have h2:=a8 (aS V1 (ay #[aq (J (ai b 0 I))] 190)) h1;have h3:=(hq.2.1.block kb (bL h2) (λe=>EX e.symm)).trans h2;exact⟨by simp[aH,h3,xK],by simp[bM,h3]⟩
   have ahD:U (∀V,(V=V0.drew\/(∃b,(λb V=>dX (λk=>V0.drew.heap.size<=k/\k<V.heap.size) V b e aZ.new/\Below V0.drew.heap.size V0.drew V) b V)\/∃b V1,(λb V=>dX (λk=>V0.drew.heap.size<=k/\k<V.heap.size) V b e aZ.new/\Below V0.drew.heap.size V0.drew V) b V1/\V=V1.alloc (ay #[aq (J (ai b 0 I))] 190))->V.cell? (ai kb 5 I)=J (aj la bs.length lc)):=λV hV=>by
    have hb:Below V0.drew.heap.size V0.drew V:=by
     rcases hV with rfl|⟨b,hp⟩|⟨b,V1,hp,rfl⟩
     ·exact aF _ _
     ·exact hp.2
     exact hp.2.alloc hp.2.size _
    have:=Na V hb;simp[aH,this,xK]
   clear ia hb0 Na EX x0 x1 x2 x3 x4 x5 x6 x7 x8 x9;change U _ at rX
   refine Dt 12 rfl (il V0.drew kb bs.length (ahv kb (aj la bs.length lc) (.agg (eR e E.pa E.pc E.ga E.gc E.ea E.ec E.fa E.fc E.la E.lc))) (λb V=>dX (λk=>V0.drew.heap.size<=k/\k<V.heap.size) V b e aZ.new/\Below V0.drew.heap.size V0.drew V) (λb V1 g cap V3=>V3.ownsRow w0.heap.size 190 1 (aj (J (ai g 0 I)) (bs.length+1) cap) (bs.length+1) (bs.flatMap lM++[aq (J (ai b 0 I))])/\(V1.alloc (ay #[aq (J (ai b 0 I))] 190)).grownBy V3 (Value.slice la bs.length lc).ownBlock/\((Value.slice la bs.length lc).ownBlock=J g\/V1.heap.size<=g))) (by kernel_rfl) (by kernel_rfl) il.start ?_ ?_
   ·refine mM ⟨?_,?_,?_,?_,?_,?_,?_,?_,?_,?_,?_,?_,trivial⟩
    all_goals
     refine xt.free rfl ?_;intro vals a V hC hn aB aQ
    ·have x9:a.tmps[9]?.getD _=aq _:=aW (aQ 9 (dS (by kernel_rfl)));exact bY.val (w:=V) (c:=aq _) (by clear aB aQ hC;go_simp) (hC.const (ar rfl) rfl)
    ·have x9:a.tmps[9]?.getD _=aq _:=aW (aQ 9 (dS (by kernel_rfl)));exact bY.val (w:=V) (c:=aq _) (by clear aB aQ hC;go_simp) (hC.const (ar rfl) rfl)
    ·obtain⟨v1,lS,sH⟩:=aB _ (bj (i:=0) rfl) rfl;have ahE:a.tmps[46]?.getD _=aq _:=(aW (sH 46 rfl)).trans (hC.cs 1 (ar rfl) v1 lS);clear sH;exact bY.val (w:=V) (c:=aq _) (by clear aB aQ hC;go_simp) (hC.const (ar rfl) rfl)
    ·obtain⟨v2,hv2,sI⟩:=aB _ (bj (i:=0) rfl) rfl;have ahF:a.tmps[47]?.getD _=aq _:=(aW (sI 47 rfl)).trans (hC.cs 2 (ar rfl) v2 hv2);clear sI;exact bY.val (w:=V) (c:=aq _) (by clear aB aQ hC;go_simp) (hC.const (ar rfl) rfl)
    ·have cc:=ahD V (hC.ahw hn);obtain⟨v3,hv3,sK⟩:=aB _ (bj (i:=0) rfl) rfl;have ahG:a.tmps[48]?.getD _=aq _:=(aW (sK 48 rfl)).trans (hC.cs 3 (ar rfl) v3 hv3);clear sK;exact bY.val (w:=V) (c:=aj la _ lc) (by clear aB aQ hC;go_simp) (hC.const (ar rfl) rfl)
    ·obtain rfl:=hC.ahx hn;have z0:V0.drew.cell? (ai wr.heap.size 0 I)=J (aA e.name):=by have:=cN.o;simp[aH,this]
     have z1:V0.drew.cell? (ai wr.heap.size 1 I)=J (ae af e.bh):=by have:=cN.o;simp[aH,this]
     have z2:V0.drew.cell? (ai wr.heap.size 2 I)=J (aj E.pa e.au.length E.pc):=by have:=cN.o;simp[aH,this]
     have z3:V0.drew.cell? (ai wr.heap.size 3 I)=J (ae af e.cnt):=by have:=cN.o;simp[aH,this]
     have z4:V0.drew.cell? (ai wr.heap.size 4 I)=J (ae af e.mn):=by have:=cN.o;simp[aH,this]
     have z5:V0.drew.cell? (ai wr.heap.size 5 I)=J (ae af e.mx):=by have:=cN.o;simp[aH,this]
     have z6:V0.drew.cell? (ai wr.heap.size 6 I)=J (aj E.ga e.aV.length E.gc):=by have:=cN.o;simp[aH,this]
     have z7:V0.drew.cell? (ai wr.heap.size 7 I)=J (aj E.ea e.aP.length E.ec):=by have:=cN.o;simp[aH,this]
     have z8:V0.drew.cell? (ai wr.heap.size 8 I)=J (aj E.fa e.first.length E.fc):=by have:=cN.o;simp[aH,this]
     have z9:V0.drew.cell? (ai wr.heap.size 9 I)=J (aj E.la e.last.length E.lc):=by have:=cN.o;simp[aH,this]
     have GZ:a.tmps[11]?.getD _=aq _:=aW (aQ 11 (dS (by kernel_rfl)));exact bY.val (w:=V0.drew) (c:=.agg _) (by clear aB aQ hC;go_simp) (hC.const (ar rfl) rfl)
    ·obtain⟨v5,xO,sM⟩:=aB _ (bj (i:=0) rfl) rfl;have ahH:a.tmps[50]?.getD _=.agg _:=(aW (sM 50 rfl)).trans (hC.cs 5 (ar rfl) v5 xO);clear sM;obtain⟨rfl,-⟩:=hC.M7 hn
     refine bY.call (w:=V0.drew) (f:=121) (args:=#[.agg (eR e E.pa E.pc E.ga E.gc E.ea E.ec E.fa E.fc E.la E.lc)]) (by clear aB aQ hC;go_simp) ?_
     refine aO LQ.o ?_;rintro u w4 ⟨b,rfl,hl4,hb4⟩;exact⟨_,rfl,hC.call hn (by have e2:vals 5=J v5:=xO;rw[e2];simp) ⟨hl4,hb4⟩⟩
    ·obtain⟨v6,xN,sJ⟩:=aB _ (bj (i:=0) rfl) rfl;obtain⟨b,rfl,hp,hA⟩:=hC.built hn xN;have ahI:a.tmps[51]?.getD _=aq _:=aW (sJ 51 rfl);exact bY.val (w:=V.alloc _) (c:=aj _ 1 1) (by clear aB aQ hC hA sJ hp;go_simp) hA
    ·obtain⟨v4,hv4,sL⟩:=aB _ (bj (i:=0) rfl) rfl;have ahJ:a.tmps[49]?.getD _=aj la _ lc:=(aW (sL 49 rfl)).trans (hC.cs 4 (ar rfl) v4 hv4);obtain⟨v7,xP,uq⟩:=aB _ (bj (i:=1) rfl) rfl;obtain⟨b,V1,rfl,hp,rfl,hA⟩:=hC.app hn xP (by have e2:vals 4=J v4:=hv4;rw[e2];simp);have ahK:a.eval _=aj la _ lc:=(sL 49 rfl).trans (hC.cs 4 (ar rfl) v4 hv4);have ahL:=uq 52 rfl;obtain⟨g,cap,V3,hrun,hq⟩:=Nb b V1 hp;exact bY.val (w:=V3) (c:=aj _ _ cap) (aht (s:=.tmp 49) (x:=.tmp 52) (t:=186) (ty:=_) rfl rfl ahK ahL hrun) (hA g cap V3 hq)
    ·obtain⟨v0,hv0,sG⟩:=aB _ (bj (i:=0) rfl) rfl;have ahM:a.tmps[45]?.getD _=aq _:=(aW (sG 45 rfl)).trans (hC.cs 0 (ar rfl) v0 hv0);clear sG;exact bY.val (w:=V) (c:=aq _) (by clear aB aQ hC;go_simp) (hC.const (ar rfl) rfl)
    ·obtain⟨v9,rC,pN⟩:=aB _ (bj (i:=0) rfl) rfl;have ahN:a.tmps[54]?.getD _=aq _:=(aW (pN 54 rfl)).trans (hC.cs 9 (ar rfl) v9 rC);clear pN;exact bY.val (w:=V) (c:=aq _) (by clear aB aQ hC;go_simp) (hC.const (ar rfl) rfl)
    obtain⟨v10,xS,sO⟩:=aB _ (bj (i:=0) rfl) rfl;have ahO:a.tmps[55]?.getD _=aq _:=(aW (sO 55 rfl)).trans (hC.cs 10 (ar rfl) v10 xS);clear sO;obtain⟨v8,qD,sN⟩:=aB _ (bj (i:=1) rfl) rfl;obtain⟨b,V1,g,cap,rfl,hp,hq,EY⟩:=hC.put hn qD;have aoh:a.tmps[53]?.getD _=aj _ _ cap:=aW (sN 53 rfl);obtain⟨aoi,aoj⟩:=Nc b V1 g cap V hp hq;exact bY.skip (w:=V.setCell _ _) (by clear aB aQ hC EY hq hp sN;go_simp) EY
   intro vals V hC hall;obtain⟨y0,EZ⟩:=cI.1 (hall 0 (ar rfl));obtain⟨y1,E1⟩:=cI.1 (hall 1 (ar rfl));obtain⟨y2,E2⟩:=cI.1 (hall 2 (ar rfl));obtain⟨y3,E3⟩:=cI.1 (hall 3 (ar rfl));obtain⟨y4,E5⟩:=cI.1 (hall 4 (ar rfl));obtain⟨y5,E6⟩:=cI.1 (hall 5 (ar rfl));obtain⟨y6,E7⟩:=cI.1 (hall 6 (ar rfl));obtain⟨y7,E8⟩:=cI.1 (hall 7 (ar rfl));obtain⟨y8,E9⟩:=cI.1 (hall 8 (ar rfl));obtain⟨y9,E_⟩:=cI.1 (hall 9 (ar rfl));obtain⟨Mb,Fa⟩:=cI.1 (hall 10 (ar rfl));obtain⟨Mc,Cq⟩:=cI.1 (hall 11 (ar rfl));obtain⟨b,V1,g,cap,V3,hp,hq,hV⟩:=hC.fin (by rw[Cq];simp);obtain⟨hm,bz⟩:=rX.more he hp.2 hp.1 hq.1 hq.2.1 hq.2.2 hV;have HM:U (∃H,nM H w0 V c kb bc bd (aq I) (aq I) (aj (J (ai g 0 I)) (bs++[b]).length cap) (bs++[b]) s dg (List.replicate (bs++[b]).length aZ.new)/\(∀i k,H i k->k=bc\/w.heap.size<=k)/\Below w.heap.size w V):=by
    have hz0:=b0.size;have hz1:=hp.2.size;have e1:(bs++[b]).length=bs.length+1:=by rw[cY,kW]
    refine⟨cO (cO H (5+bs.length) V0.drew V1) 1 V1 V3,?_,λi k hk=>?_,?_⟩
    ·rw[e1,List.replicate_succ'];exact hm
    ·rcases hk with(hk|⟨_,x,_⟩)|⟨_,x,_⟩
     ·exact hH i k hk
     ·exact aN (by omega)
     exact aN (by omega)
    refine aG.below b0 bz hz0 (λk hk=>?_)
    rcases hk with hk|hk
    ·rw[hk];exact Ui
    rcases hH.o 1 k (hd.hl k hk)with e|e
    ·exfalso
     rw[e]at hk;have h2:=hd.hc;have:=hd.bO.xB 1 2 bc (hd.hl bc hk) h2;omega
    exact e
   clear hC hall hp hq hV hm bz;simp only[fill,dZ,EZ,E1,E2,E3,E5,E6,E7,E8,E9,E_,Fa,Cq];clear EZ E1 E2 E3 E5 E6 E7 E8 E9 E_ Fa Cq;go_simp
   go_wp2_with fail
   obtain⟨H2,(m1:U _),(m2:U _),(m3:U _)⟩:=HM.o;clear HM;go_roundw
   case rel=>exact⟨_,_,H2,by rw[cY,kW];omega,by rw[cY,kW];go_num,m1,m2,m3⟩
   case measure=>simp[intOf];omega
  have k1:¬(bs.length:Int)<(c.az.length:Int):=by omega
  have hle:bs.length=c.az.length:=by omega
  obtain⟨hs,hr,h0,hE,hc,dt,kg,fj⟩:=HG.o
  by_cases lh:153<=s.size
  ·have Nd:∀_:Unit,153<=s.size:=λ_=>lh
   have yj:U _:=SM (A:=A) hd hs hr (by rw[List.length_replicate];exact hle) lh fj;change U _ at hd hH
   have dV:U _:=hB;change U _ at hc
   have Iu:U (aD.opened c ⟨s,dg,[],false,[],bG.new 0⟩=aD.new c s):=by show _=_;rw[M_.o];rfl
   clear hB hs hr h0 hE dt kg lh fj;go_wp2_with fail
   refine aO yj.o ?_;rintro u w5 ⟨rfl,(Eu:U _)⟩;clear yj;go_wp2;go_ret2
   obtain⟨H5,rb,bt,k5,g5,o5⟩:=Eu.o;rw[Iu.o]at k5;unfold Ir;rw[aU (Nd ())]
   refine⟨kb,λk=>∃i,H5 i k,rfl,⟨H5,_,_,_,_,_,k5,λi k hk=>⟨i,hk⟩⟩,?_,λk ⟨i,hk⟩=>⟨?_,k5.bO.lt i k hk⟩⟩
   ·have hB:=dV.o
    refine⟨o5.os.trans hB.os,o5.tape.trans hB.tape,o5.output.trans hB.output,bp hB.size o5.size,λk hk=>?_⟩
    by_cases e:k=bc
    ·rw[e];exact k5.ring.cells.heap.trans hc.heap.symm
    refine(o5.block k (cK hk hB.size) (λ⟨i,hi⟩=>?_)).trans (hB.block k hk)
    rcases hH.o i k hi with e2|e2
    ·exact e e2
    omega
   rcases g5 i k hk with⟨j,hj⟩|⟨x,_⟩
   ·exact hH j k hj
   exact aN (bp dV.size x)
  have Nd:∀_:Unit,¬153<=s.size:=λ_=>lh
  have yj:U (Calls _ 122 _ wr λe w'=>e=ax (.iface 357 (aq (J (A 1))))/\Below _ wr w'):=ahs (A:=A) hd hs lh;change U _ at hB
  clear hd hH hs hr h0 hE hc dt kg lh fj;go_wp2_with fail
  refine aO yj.o ?_;rintro u w5 ⟨rfl,iU⟩;have sX:U _:=hB.trans (iU.mono hB.size);clear iU yj;go_wp2;go_ret2
  unfold Ir;rw[aK (Nd ())];exact⟨rfl,sX⟩
def ahP(sa:Option aC)(sc:Nat)(hs:fI A w0)(hr:er c)(h0:(cJ c).1=0)(hE:eU w (aj sa c.az.length sc) c.az)(hS:kJ c)(hc:bU w bc s)(dt:w0.heap.size<=bc)(kg:Below w0.heap.size w0 w)(lh:153<=s.size)(fj:s.off=false):Calls prog 59 #[.agg (cR c sa sc),aq (J (ai bc 0 I))] w λu w'=>M9 w0 w c bc s u w':=
 (ahC sa sc hs hr h0 hE hS hc dt kg fj).mono λu w' h=>by unfold Ir at h;rw[aU lh]at h;exact h
end
open Go
def Nf(h:(cJ c).1=0):er c:=by
 have ok:=w_ h;have sz:=FQ h
 refine⟨ok.closed,ok.opn,ok.cycle,ok.bE,?_,ok.many,λe he=>?_⟩
 ·unfold cJ at h
  split at h
  ·rename_i h0;unfold iO at h0;obtain⟨-,h0⟩:=jM (by simp) h0;obtain⟨-,h0⟩:=jM (by simp) h0;obtain⟨-,h0⟩:=jM (by simp) h0;obtain⟨-,h0⟩:=jM (by simp) h0;obtain⟨q5,-⟩:=jM (by simp) h0;simp at q5
   exact q5
  rename_i h0;exact absurd h h0
 have oe:=ok.az e he;have se:=sz e he;have nm:∀s:ByteArray,isName s=true->s.size<=12:=λs hs=>by
  unfold isName at hs;simp only[uY,uW]at hs;exact hs.1.1.2
 have n1:=nm _ oe.name;have n2:=se.au;have n3:=se.aV;have n4:=se.aP;have n5:=se.first;have n6:=se.last
 refine⟨⟨by omega,by omega,λp hp=>bp (nm p (oe.pn p hp)) (ar rfl),by omega,by omega,by omega,by omega⟩,?_,oe.bh.1,λp hp=>?_⟩
 ·rcases oe.cnt with hc|hc
  ·omega
  exact hc.2
 obtain⟨h1,h2⟩:=oe.aP p hp;exact⟨D1 (by omega) (by omega),D1 (by omega) (by omega)⟩
def Uj(l:List Int)(sa:Option aC)(cap:Nat)(w:ak)(h:bw bT 1 w (aj sa l.length cap) l)(hn:l.length<=1000000):Calls prog 42 #[aj sa l.length cap] w λe w'=>e=ax (aL (twice l))/\Below w.heap.size w w':=by
 have HL:U (∀V,Below _ w V->bw _ 1 V _ l):=λV hV=>h.below hV
 have HC:U (l.length<=cap):=by obtain⟨bQ,cap',bH,hle,-⟩:=h;cases bH;exact hle
 go_enter func42,ntmps42
 go_wp2_with fail
 go_loopw [3] (λi wr=>∃k:Nat,k<=l.length/\i=ae af k/\Below w.heap.size w wr/\∀j x,j<k->l[j]?=J x->((l.take j).any λy=>decide (x=y))=false) (λi _=>l.length-(intOf i).toNat)
 case atStart=>exact⟨0,bA _,rfl,aF _ _,λj x hj=>absurd hj (by omega)⟩
 case round=>
  obtain⟨k,hk,rfl,hb,hno⟩:=hrel;have HB:U _:=hb;change U _ at hno
  by_cases hlt:k<l.length
  ·have k1:(k:Int)<(l.length:Int):=by omega
   have k3:(k:Int)<=(cap:Int):=by have:=HC.o;omega
   have k4:(0:Int)<=(k:Int):=by omega
   have k5:¬(k:Int)<0:=by omega
   obtain⟨x,hx⟩:∃x,l[k]?=J x:=⟨_,bq hlt⟩;obtain⟨g,o,rfl,hc⟩:=sj (HL wr HB) hx;have c0:=hc k x hx;have HS:U (∀q,Calls prog 91 #[aj (J (ai g o I)) k cap,ae af x] (wr.drewN q) λe w'=>e=ax (aL ((l.take k).any λy=>decide (x=y)))/\w'=wr.drewN q):=λq=>by
    have hl:(l.take k).length=k:=by simp;omega
    have:=Gy (l.take k) x _ cap (wr.drewN q) ⟨_,cap,rfl,by have:=HC.o;omega,λ_=>⟨g,o,rfl,λi y hy j u hu=>by
     match j,hu with
     |0,hu=>
      simp[bT]at hu
      subst hu;have sP:l[i]?=J y:=by
       rw[np]at hy
       split at hy
       ·exact hy
       cases hy
      have:=hc i y sP;simpa using this
     |j+1,hu=>simp[bT]at hu⟩⟩ (by omega)
    rw[hl]at this;exact this
   clear hc;change U _ at hx
   cases hb:(l.take k).any λy=>decide (x=y)
   ·rw[hb]at HS;go_wp2_with fail
    go_region_held3 (λw'=>w'.cell? ⟨g,o+k,I⟩=J (ae af x)) (first|exact c0) (first|(go_at_call 91;refine aO (HS.o _) ?_;rintro e w2 ⟨rfl,rfl⟩))
    all_goals
     go_wp2
     go_roundw
     case rel=>
      refine⟨k+1,by omega,by go_num,br HB _,λj y hj hy=>?_⟩
      rcases fF j k with h1|h1
      ·exact hno j y h1 hy
      obtain rfl:j=k:=by omega
      rw[hx.o]at hy
      cases hy
      exact hb
     case measure=>simp[intOf];omega
   rw[hb]at HS;have HE:U (twice l=true):=by
    show _=_
    unfold twice;rw[kD];exact⟨k,by simpa using hlt,by rw[hx.o];exact hb⟩
   go_wp2_with fail
   go_region_held3 (λw'=>w'.cell? ⟨g,o+k,I⟩=J (ae af x)) (first|exact c0) (first|(go_at_call 91;refine aO (HS.o _) ?_;rintro e w2 ⟨rfl,rfl⟩))
   all_goals
    go_wp2;go_ret;exact⟨by rw[HE.o];rfl,br HB _⟩
  have k1:¬(k:Int)<(l.length:Int):=by omega
  have HE:U (twice l=false):=by
   show _=_
   unfold twice;rw[jY];intro i hi;simp only[pq]at hi;rw[bq hi];show ¬((l.take i).any λy=>decide _)=true
   rw[hno.o i _ (by omega) (bq hi)];simp
  go_wp2;go_ret;exact⟨by rw[HE.o];rfl,HB⟩
def ahQ{α:Type}{w:ak}{ops:Array Oper}{rest:List Oper}{o:Oper}{a:Act}{Q:Exit->Act->ak->Prop}(hgd:o.guard=I)(s x:Operand)(t:TypeId)
  (ho:o.op=.call { callee:=.builtin .append,args:=#[s,x],argTypes:=#[t,t] })
  (B:Nat) (e:TypeId) (i:TypeInfo) (z:aw) (size bytes:Nat) (ht:prog.underlying t=J (.slice e)) (hi:prog.info? e=J i) (hz:i.zero=J z) (hsize:i.size=size) (hby:i.bytes=bytes) (hzs:z.cells.size=size) (hsz:0<size)
  (enc:α->List aw) (ml:∀x,(enc x).length=size) (h1:∀x,∀u∈enc x,u.oneCell'=true) (va:Option aC) (vc:Nat) (ys:List α) (hs:a.eval s=.slice va ys.length vc) (hown:bI enc size e B w (.slice va ys.length vc) ys)
  (v:aw) (xs:List α) (hx:a.eval x=v) (hv:bw enc size w v xs) (hm:xs.length<=1000000) (hn:ys.length<=10000000) (ki:bytes<=1000) (hB:B<=w.heap.size)
  (h:∀bQ cap' w',bI enc size e B w' (.slice bQ (ys++xs).length cap') (ys++xs)->w.grownBy w' (Value.slice va ys.length vc).ownBlock->wpList prog ops Q rest (a.put o.dst (.slice bQ (ys++xs).length cap')) w'):wpList prog ops Q (o::rest) a w:=by
 obtain⟨sa,cap,rfl,hle,hcell⟩:=hv;have ahR:ys.length<=vc:=by
  rcases hown.2 with⟨h1,h2⟩|⟨g,xi,cur,h1,_,_,h2,_⟩
  ·omega
  simp only[mf]at h1;omega
 by_cases hne:xs=[]
 ·subst hne
  refine wpList_plain hgd λK hK=>?_
  have Bi:Src prog i.size t (.slice sa 0 cap) 0 [] w:=by
   cases sa with
   |none=>exact Src.ofNil w ht cap
   |some ad=>exact Src.ofSlice w ht ad 0 cap [] (by simp) (λj u hu=>by simp at hu) (λu hu=>by simp at hu)
  have hr:=run_append_nothing (P:=prog) w t t o.type e i ht hi va _ vc ahR _ Bi;unfold Oper.wp execOp;simp only[xp]at hx;simp only[ho,resolve,invoke,builtin,Sem.run_bind,Sem.run_pure,yJ,List.map_toArray,qO,List.map_nil,hs,hx,hr];have:=h va vc w (by rw[pk];exact hown) ⟨rfl,rfl,rfl,aR _,λ_ _ _=>rfl⟩;rw[pk]at this;exact hK _ _ this
 obtain⟨b,of,rfl,hc⟩:=hcell hne
 refine pz w hgd s x t ho B e i z _ _ ht hi hz hsize hby hzs hsz _ _ _ hs hown _ _ cap _ hx (zh ml xs) (λj u hu=>?_) (λu hu=>?_) (by unfold maxLen;omega) ?_ hB (λv' w' hown' hg Dv=>?_)
 ·obtain⟨i',j',y,e1,h2,h3⟩:=zi ml xs j u hu;have:=hc i' y h2 j' u h3;rw[e1,kM,<- qh];exact this
 ·simp only[tB]at hu;obtain⟨y,-,hy⟩:=hu;exact h1 y u hy
 ·have:(ys.length+xs.length)*bytes<=11000000*1000:=Nat.mul_le_mul (by omega) ki;omega
 have hl:(ys++xs).length=ys.length+xs.length:=by simp
 have hown2:w'.ownsRow B e size v' (ys++xs).length ((ys++xs).flatMap enc):=by rw[hl,ji];exact hown'
 rcases hown2.2 with⟨rfl,h0⟩|⟨g,xi,cur,rfl,Bj,r⟩
 ·exact absurd (kV h0) (by simp[hne])
 exact h _ _ w' hown2 hg
def sY(l:List eT):List Int:=l.flatMap λg=>[g.fr,g.to]
def yl(l:List (Int×Int)):List Int:=l.flatMap λd=>[d.1,d.2]
def vY(e:aM):List Int:=e.first++e.last++sY e.aV++yl e.aP
def ahS(e:aM)(f:Int->Bool):(vY e).any f=(e.first.any f||e.last.any f||(e.aV.any λg=>f g.fr||f g.to)||(e.aP.any λd=>f d.1||f d.2)):=by
 unfold vY sY yl;rw[AK,AK,AK,List.any_flatMap,List.any_flatMap];congr 1
 ·congr 1
  congr 1
  funext g
  simp
 congr 1
 funext d
 simp
def Uk(l:List eT):(sY l).length=2*l.length:=by
 induction l with
 |nil=>rfl
 |cons g t ih=>simp only[sY,mD,cY,lY,xp]at ih⊢;omega
def ahT(l:List (Int×Int)):(yl l).length=2*l.length:=by
 induction l with
 |nil=>rfl
 |cons g t ih=>simp only[yl,mD,cY,lY,xp]at ih⊢;omega
def Ul(w:ak)(cs:List aw)(T:TypeId):∀(j:Nat) u,cs[j]?=J u->(w.alloc (ay cs.toArray T)).cell? ((⟨w.heap.size,0,I⟩:aC).add j)=J u:=by
 intro j u hu;rw[kM,dr _ _ _ _ rfl];simpa using hu
def Um(a b:Int):∀u∈([ae af a,ae af b]:List aw),u.oneCell'=true:=by intro u hu;simp at hu;rcases hu with rfl|rfl<;>rfl
def ahU(e:aM)(pa ga ea fa la:Option aC)(pc gc ec fc lc:Nat)(w:ak)(hP:fh w e (aj pa e.au.length pc) (aj ga e.aV.length gc) (aj ea e.aP.length ec) (aj fa e.first.length fc) (aj la e.last.length lc))(hS:gG e):Calls prog 41 #[.agg (eR e pa pc ga gc ea ec fa fc la lc)] w λv w'=>v=ax (aL ((vY e).any λx=>lacks e.au.length x))/\Below w.heap.size w w':=by
 unfold eR;obtain⟨i0,hi,hz0,hz1,hz2⟩:=iw Dx;obtain⟨W,hW⟩:∃V,V=w.alloc (ay (eR e pa pc ga gc ea ec fa fc la lc) 58):=⟨_,rfl⟩;have cx:U (Below w.heap.size w W):=by show Below _ _ _;rw[hW];exact aS _ _
 have HX:U (∀V,Below W.heap.size W V->∀(j:Nat) u,((eR e pa pc ga gc ea ec fa fc la lc):Array _)[j]?=J u->V.cell? (ai w.heap.size j I)=J u):=λV hV j u hu=>by
  have:=a8 hV (show W.heap[w.heap.size]?=_ by rw[hW];exact cj w _);simp[aH,this,hu]
 have HP:U (∀V,Below _ W V->fh V e _ _ _ _ _):=λV hV=>hP.below (cx.trans (hV.mono cx.size))
 change U _ at hS
 clear hP;go_enter func41,ntmps41
 go_upto_region 2 with fail
 rw[<- hW];clear hW;have s8:=HX W (aF _ _) 8 _ rfl;go_upto_region 3 with(at_builtin;refine Bh (w:=W) rfl _ _ 44 rfl _ 3 i0 _ 1 8 underlying44 hi hz0 hz1 hz2 rfl (ar rfl) rfl _ (λ_=>rfl) zj _ _ rfl (HP W (aF _ _)).hf hS.hf (ar rfl) (aR _) ?_;intro ahV ahW W1 Af hb1)
 clear s8;have kr:U (bI _ 1 3 _ W1 _ _):=Af;have s9:=HX W1 hb1 9 _ rfl;clear Af;change U _ at hb1;go_upto_region 4 with(at_builtin;refine ahQ (w:=W1) rfl _ _ 44 rfl _ 3 i0 _ 1 8 underlying44 hi hz0 hz1 hz2 rfl (ar rfl) _ (λ_=>rfl) zj ahV ahW _ rfl kr _ _ rfl (HP W1 hb1).hl hS.hl (by have:=hS.hf;omega) (ar rfl) hb1.size ?_;intro ahX ahY W2 gJ hg2)
 have cB:U _:=hb1.grown hg2 hb1.size (λj hj=>(kr.lt j hj).1);change U _ at gJ
 clear s9 hg2 kr hb1
 go_cut [4] (λi wx=>i=ae af 0/\wx=W2)
 case first=>
  go_wp2
  go_meet
  case rel=>exact⟨rfl,rfl⟩
 obtain⟨rfl,rfl⟩:=hcut;rename ak=>W2
 go_wp2_with fail
 go_loopw [3,4] (λlv iv wx=>∃(k:Nat) (va:Option aC) (vc:Nat) (L:List Int),k<=e.aV.length/\iv=ae af k/\L=e.first++e.last++sY (e.aV.take k)/\lv=aj va L.length vc/\Below W.heap.size W wx/\wx.ownsRow W.heap.size 3 1 (aj va L.length vc) L.length (L.flatMap bT)) (λ_ i _=>e.aV.length-(intOf i).toNat)
 case atStart=>exact⟨0,ahX,ahY,_,bA _,rfl,by simp[sY],by simp,cB,gJ⟩
 case round=>
  clear cB gJ;obtain⟨k,va,vc,L,hk,rfl,hL,rfl,cN,Fb⟩:=hrel;rename ak=>wx
  have HB:U _:=cN;have HO:U (wx.ownsRow _ 3 1 _ _ _):=Fb;have HL:U _:=hL;have kR:U (L.length<=4000000):=by
   show _<=_
   rw[hL];have h1:=hS.hf;have h2:=hS.hl;have h3:=hS.hg;have h4:=Uk (e.aV.take k);simp at h4⊢
   omega
  clear cN Fb hL;have x6:=HX wx HB 6 _ rfl
  by_cases hlt:k<e.aV.length
  ·have k1:(k:Int)<(e.aV.length:Int):=by omega
   have k2:k<1000000:=by have:=hS.hg;omega
   obtain⟨q,hq⟩:∃q,e.aV[k]?=J q:=⟨_,bq hlt⟩;obtain⟨bQ,cap',bH,-,hcc⟩:=(HP wx HB).hg
   cases bH
   obtain⟨g,o,rfl,hc0⟩:=hcc (λh=>by rw[h]at hq;simp at hq);have c0:wx.cell? ⟨g,o+k*4,_⟩=J _:=hc0 k _ hq 0 _ rfl;have c1:=hc0 k _ hq 1 _ rfl;have HN:U (L++[q.fr,q.to]=e.first++e.last++sY (e.aV.take (k+1))):=by
    show _=_
    rw[HL.o,eI,hq];simp[sY]
   have hown:wx.drew.ownsRow _ 3 1 _ _ _:=HO.o;have vq:=HB.size;have ahZ:=kR.o;have KL:U (∀(ob:Obj) (w8:ak),(wx.drew.alloc ob).grownBy w8 (Value.slice va L.length vc).ownBlock->Below W.heap.size W w8):=λob w8 hg=>by
    have h1:Below _ W (wx.drew.alloc ob):=HB.drew.alloc (by simp;omega) _;exact h1.grown hg h1.size (λi hi=>(HO.lt i hi).1)
   clear hcc hc0 hq;go_wp2_with fail
   go_region_law (refine qX _ rfl _ _ 44 rfl _ 3 i0 _ 1 8 underlying44 hi hz0 hz1 hz2 rfl (ar rfl) (aj va L.length vc) L.length (L.flatMap bT) (by simp[Act.eval]) (hown.alloc _) ⟨wx.heap.size,0,.none⟩ 2 2 [ae af q.fr,ae af q.to] (by simp[Act.eval]) rfl (Ul wx.drew [ae af q.fr,ae af q.to] 3) (Um q.fr q.to) (ar rfl) (by unfold maxLen;omega) (by omega) (by simp;omega) (wx.heap.size+1) (by simp) ?_;intro g' cap' w8 eV cQ cH nA)
   all_goals
    have H8:U _:=KL _ _ cQ;have Ng:U (w8.ownsRow W.heap.size 3 1 (aj (J (ai g' 0 I)) (L++[q.fr,q.to]).length cap') (L++[q.fr,q.to]).length ((L++[q.fr,q.to]).flatMap bT)):=by
     show World.ownsRow _ _ _ _ _ _ _
     rw[cY,ji];exact eV
    clear cQ eV cH nA KL;go_wp2
    go_roundw
    case rel=>exact⟨_,_,_,_,by omega,by go_num,HN,by simp,H8,Ng⟩
    case measure=>simp[intOf];omega
  have k1:¬(k:Int)<(e.aV.length:Int):=by omega
  have vZ:U (L=e.first++e.last++sY e.aV):=by show _=_;rw[HL.o,iM (by omega)]
  clear HL;go_upto_region 8 with fail
  go_cut [5] (λi wv=>i=ae af 0/\wv=wx)
  case first=>
   go_wp2
   go_meet
   case rel=>exact⟨rfl,rfl⟩
  obtain⟨rfl,rfl⟩:=hcut;rename ak=>wx
  clear x6 hlt k1;go_wp2_with fail
  go_loopw [3,5] (λlv iv wy=>∃(k:Nat) (va:Option aC) (vc:Nat) (M:List Int),k<=e.aP.length/\iv=ae af k/\M=e.first++e.last++sY e.aV++yl (e.aP.take k)/\lv=aj va M.length vc/\Below W.heap.size W wy/\wy.ownsRow W.heap.size 3 1 (aj va M.length vc) M.length (M.flatMap bT)) (λ_ i _=>e.aP.length-(intOf i).toNat)
  case atStart=>exact⟨0,va,vc,L,bA _,rfl,by rw[vZ.o];simp[yl],rfl,HB,HO⟩
  case round=>
   clear HB HO kR vZ;clear hk;obtain⟨k,va,vc,L,hk,rfl,hL,rfl,cN,Fb⟩:=hrel;rename ak=>wx
   change U _ at cN
   have HO:U (wx.ownsRow _ 3 1 _ _ _):=Fb;have kR:U (L.length<=7000000):=by
    show _<=_
    rw[hL];have h1:=hS.hf;have h2:=hS.hl;have h3:=hS.hg;have h4:=Uk e.aV;have h5:=hS.he;have h6:=ahT (e.aP.take k);simp at h4 h6⊢
    omega
   clear Fb;change U _ at hL;have x7:=HX wx cN 7 _ rfl
   by_cases hlt:k<e.aP.length
   ·have k1:(k:Int)<(e.aP.length:Int):=by omega
    have k2:k<1000000:=by have:=hS.he;omega
    obtain⟨q,hq⟩:∃q,e.aP[k]?=J q:=⟨_,bq hlt⟩;obtain⟨bQ,cap',bH,-,hcc⟩:=(HP wx cN).he
    cases bH
    obtain⟨g,o,rfl,hc0⟩:=hcc (λh=>by rw[h]at hq;simp at hq);have c0:wx.cell? ⟨g,o+k*2,_⟩=J _:=hc0 k _ hq 0 _ rfl;have c1:=hc0 k _ hq 1 _ rfl;have HN:U (L++[q.1,q.2]=e.first++e.last++sY e.aV++yl (e.aP.take (k+1))):=by
     show _=_
     rw[hL.o,eI,hq];simp[yl]
    have hown:wx.drew.ownsRow _ 3 1 _ _ _:=HO.o;have vq:=cN.size;have ahZ:=kR.o;have KL:U (∀(ob:Obj) (w8:ak),(wx.drew.alloc ob).grownBy w8 (Value.slice va L.length vc).ownBlock->Below W.heap.size W w8):=λob w8 hg=>by
     have h1:Below W.heap.size W (wx.drew.alloc ob):=cN.drew.alloc (by simp;omega) _;exact h1.grown hg h1.size (λi hi=>(HO.lt i hi).1)
    clear hcc hc0 hq;go_wp2_with fail
    go_region_law (refine qX _ rfl _ _ 44 rfl _ 3 i0 _ 1 8 underlying44 hi hz0 hz1 hz2 rfl (ar rfl) (aj va L.length vc) L.length (L.flatMap bT) (by simp[Act.eval]) (hown.alloc _) ⟨wx.heap.size,0,.none⟩ 2 2 [ae af q.1,ae af q.2] (by simp[Act.eval]) rfl (Ul wx.drew [ae af q.1,ae af q.2] 3) (Um q.1 q.2) (ar rfl) (by unfold maxLen;omega) (by omega) (by simp;omega) (wx.heap.size+1) (by simp) ?_;intro g' cap' w8 eV cQ cH nA)
    all_goals
     have H8:U _:=KL _ _ cQ;have Ng:U (w8.ownsRow W.heap.size 3 1 (aj (J (ai g' 0 I)) (L++[q.1,q.2]).length cap') (L++[q.1,q.2]).length ((L++[q.1,q.2]).flatMap bT)):=by
      show World.ownsRow _ _ _ _ _ _ _
      rw[cY,ji];exact eV
     clear cQ eV cH nA KL;go_wp2
     go_roundw
     case rel=>exact⟨_,_,_,_,by omega,by go_num,HN,by simp,H8,Ng⟩
     case measure=>simp[intOf];omega
   have k1:¬(k:Int)<(e.aP.length:Int):=by omega
   have vZ:U (L=vY e):=by show _=_;rw[hL.o,iM (by omega)];rfl
   clear hL;go_upto_region 12 with fail
   go_cut [6] (λi wv=>i=ae af 0/\wv=wx)
   case first=>
    go_wp2
    go_meet
    case rel=>exact⟨rfl,rfl⟩
   obtain⟨rfl,rfl⟩:=hcut;rename ak=>wx
   clear x7 hlt k1 hk;go_wp2_with fail
   go_loopw [6] (λiv wy=>∃(k:Nat),k<=L.length/\iv=ae af k/\Below wx.heap.size wx wy/\∀j x,j<k->L[j]?=J x->lacks e.au.length x=false) (λi _=>L.length-(intOf i).toNat)
   case atStart=>exact⟨0,bA _,rfl,aF _ _,λj x hj=>absurd hj (by omega)⟩
   case round=>
    obtain⟨k,hk,rfl,hby,hno⟩:=hrel;rename ak=>wy
    change U _ at hno
    have f_:U _:=(cx.trans (cN.mono cx.size)).trans (hby.mono (bp cx.size cN.size));have x2:=HX wy (cN.trans (hby.mono cN.size)) 2 _ rfl;change U _ at hby
    by_cases hlt:k<L.length
    ·have k1:(k:Int)<(L.length:Int):=by omega
     have k2:k<7000000:=by have:=kR.o;omega
     obtain⟨x,hx⟩:∃x,L[k]?=J x:=⟨_,bq hlt⟩;obtain⟨g,o,rfl,hcc⟩:∃g o,va=J ⟨g,o,I⟩/\wy.cell? ⟨g,o+k,I⟩=J (ae af x):=by
      obtain⟨g,o,e1,e2⟩:=sj (bI.jz (enc:=bT) (show bI _ 1 3 _ wx _ L from HO.o) (λ_=>rfl)) hx;exact⟨g,o,e1,aJ hby (e2 k x hx)⟩
     change U _ at hx
     by_cases g1:x<0
     ·have HE:U (((vY e).any λx=>lacks e.au.length x)=true):=by
       show _=_
       rw[<- vZ.o,kD];exact⟨x,bP hx.o,by unfold lacks;rw[bD g1];rfl⟩
      go_wp2_with fail
      go_quiet (fail)
      go_wp2;go_ret;exact⟨by rw[HE.o];rfl,br f_ _⟩
     by_cases g2:(e.au.length:Int)<=x
     ·have HE:U (((vY e).any λx=>lacks e.au.length x)=true):=by
       show _=_
       rw[<- vZ.o,kD];exact⟨x,bP hx.o,by unfold lacks;rw[bD g2,Bool.or_true]⟩
      go_wp2_with fail
      go_quiet (fail)
      go_wp2;go_ret;exact⟨by rw[HE.o];rfl,br f_ _⟩
     go_wp2_with fail
     go_quiet (fail)
     go_wp2
     go_roundw
     case rel=>
      refine⟨k+1,by omega,by go_num,br hby _,λj y hj hy=>?_⟩
      rcases fF j k with h1|h1
      ·exact hno j y h1 hy
      obtain rfl:j=k:=by omega
      rw[hx.o]at hy
      cases hy
      unfold lacks;rw[bV (p:=x<0) (by omega),bV (p:=(e.au.length:Int)<=x) (by omega)];rfl
     case measure=>simp[intOf];omega
    have k1:¬(k:Int)<(L.length:Int):=by omega
    have HE:U (((vY e).any λx=>lacks e.au.length x)=false):=by
     show _=_
     rw[<- vZ.o,jY];intro y hy;obtain⟨j,hj⟩:=r7 hy;have nC:j<L.length:=by
      rcases fF j L.length with h'|h'
      ·exact h'
      rw[jb h']at hj;cases hj
     rw[hno.o j y (by omega) hj];simp
    go_wp2;go_ret;exact⟨by rw[HE.o];rfl,f_⟩
section
def Nh:∀(l1 a l2:List ByteArray),eM a (l1++l2)=if eM a l1=0 then eM (a++l1) l2 else eM a l1
 |[],a,l2=>by simp[eM]
 |p::t,a,l2=>by
  rw[pY,show eM a _=if dP a p=0 then eM _ _ else dP a p from rfl,show eM a _=if dP a p=0 then eM _ t else dP a p from rfl]
  by_cases h:dP a p=0
  ·rw[aU h,aU h,Nh t _ l2,gh];rfl
  rw[aK h,aK h,aK h]
def ah0{α:Type}{l:List α}{x:α}(h:l[k]?=J x):l=l.take k++x::l.drop (k+1):=by
 have hk:k<l.length:=by
  rcases fF k l.length with h'|h'
  ·exact h'
  rw[jb h']at h;cases h
 have e2:l.drop k=x::l.drop (k+1):=by
  rw[lX hk];rw[bq hk]at h
  cases h;rfl
 rw[<- e2,rf]
def Un{au:List ByteArray}(hk:au[k]?=J p)(h0:eM [] (au.take k)=0)(hb:dP (au.take k) p≠0):eM [] au=dP (au.take k) p:=by
 have e:=Nh (au.take k) [] (p::au.drop (k+1));rw[<- ah0 hk,aU h0,yB]at e;rw[e];unfold eM;rw[aK hb]
def ah1{au:List ByteArray}(hk:au[k]?=J p)(h0:eM [] (au.take k)=0)(hb:dP (au.take k) p=0):eM [] (au.take (k+1))=0:=by
 rw[eI,hk];show eM [] (au.take k++[p])=0
 rw[Nh,aU h0,yB];simp[eM,hb]
def Iw(h:isName s=false):dP a s=4:=by unfold dP;rw[aK (by rw[h];simp)]
def Uo(h:isName s=true)(h2:(a.any λx=>decide (x=s))=true):dP a s=6:=by unfold dP;rw[aU h,aU h2]
def Up(h:isName s=true)(h2:(a.any λx=>decide (x=s))=false):dP a s=0:=by unfold dP;rw[aU h,aK (by rw[h2];simp)]
def Uq{au:List ByteArray}(hk:au[k]?=J p):(idxOf au p<(k:Int))↔((au.take k).any λx=>decide (x=p))=true:=by
 have XS:k<au.length:=by
  rcases fF k au.length with h'|h'
  ·exact h'
  rw[jb h']at hk;cases hk
 rw[kD];unfold idxOf
 cases hf:au.findIdx? (λy=>decide (y=p))with
 |none=>
  rw[Ha]at hf;have:=hf p (bP hk);simp at this
 |some i=>
  rw[List.findIdx?_eq_some_iff_getElem]at hf;obtain⟨hi,h1,h2⟩:=hf
  constructor
  ·intro hlt;have Lr:i<k:=by simpa using hlt
   refine⟨_,?_,h1⟩;have:(au.take k)[i]?=J au[i]:=by rw[np,aU Lr,bq hi]
   exact bP this
  rintro⟨x,hx,e⟩;obtain⟨j,hj⟩:=r7 hx;rw[np]at hj
  split at hj
  ·rename_i hjk
   rcases fF i k with h'|h'
   ·simpa using h'
   exfalso
   have h3:=h2 j (by omega);obtain⟨nC,e2⟩:=df.1 hj;rw[e2]at h3;exact absurd e (by simpa using h3)
  cases hj
variable {na:List ByteArray}{e:aM}
def Ur(h:dP na e.name≠0):cD na e=dP na e.name:=by unfold cD;rw[aU h]
def ah2(h:dP na e.name=0)(h2:jZ e≠0):cD na e=jZ e:=by unfold cD;rw[aK (by simp[h]),aU h2]
def Us(h:dP na e.name=0)(h2:jZ e=0)(h3:eM [] e.au≠0):cD na e=eM [] e.au:=by unfold cD;rw[aK (by simp[h]),aK (by simp[h2]),aU h3]
def ah3(h:dP na e.name=0)(h2:jZ e=0)(h3:eM [] e.au=0):cD na e=pZ e:=by unfold cD;rw[aK (by simp[h]),aK (by simp[h2]),aK (by simp[h3])]
def Ut(h:(!within e.bh 0 20||decide (16<e.au.length)||decide (8<e.aV.length)||decide (64<e.aP.length)||decide (16<e.first.length)||decide (16<e.last.length))=true):jZ e=2:=by
 unfold jZ;simp only[dK]
 repeat' split
 all_goals first|rfl|simp_all
def ah4(h1:within e.bh 0 20=true)(h2:¬16<e.au.length)(h3:¬8<e.aV.length)(h4:¬64<e.aP.length)(h5:¬16<e.first.length)(h6:¬16<e.last.length):jZ e=0:=by
 unfold jZ;simp only[dK,h1,bV h2,bV h3,bV h4,bV h5,bV h6];rfl
def ym(e:aM):Bool:=decide (e.cnt≠-1)&&lacks e.au.length e.cnt
def Ix(e:aM):Bool:=(vY e).any λx=>lacks e.au.length x
def Cr(e:aM):Bool:=decide (e.cnt=-1)&&(decide (e.mn≠0)||decide (e.mx≠0))
def v_(e:aM):Bool:=!iq 0 e.mn e.mx 999
def Fc(e:aM):Bool:=e.aV.any λg=>!iq 0 g.mn g.mx 1099511627776
def uJ(e:aM):Bool:=decide (0<e.aP.length)&&decide (e.first.length=0)
def yn(e:aM):Bool:=decide (e.aP.length=0)&&decide (0<e.first.length+e.last.length)
def rH(e:aM):pZ e=dK [(ym e,5),(Ix e,5),(Cr e,3),(v_ e,2),(Fc e,2),(twice e.aP,6),(twice e.first,6),(twice e.last,6),(uJ e,3),(yn e,3)]:=by
 have hs:Ix e=(e.first.any _||e.last.any _||(e.aV.any λg=>lacks _ _||lacks _ _)||(e.aP.any λd=>lacks _ d.1||lacks _ d.2)):=ahS e _;unfold pZ;rw[hs];show dK ((ym e,5)::_)=dK _
 unfold dK
 split
 ·rfl
 show dK _=dK _
 generalize (e.aV.any λg=>lacks e.au.length g.fr||lacks e.au.length g.to)=a;generalize (e.aP.any λd=>lacks e.au.length d.1||lacks e.au.length d.2)=b;generalize (e.first.any λx=>lacks e.au.length x)=c;generalize (e.last.any λx=>lacks e.au.length x)=d
 cases a<;>cases b<;>cases c<;>cases d<;>rfl
end
def Uu(s:ByteArray)(w:ak)(hs:s.size<=1000000):Calls prog 39 #[aA s] w λe w'=>e=ax (aL (isName s))/\w'=w:=by
 by_cases h1:s.size<1
 ·have HY:U _:=LC (aT h1);have g1:(s.size:Int)<1:=by omega
  clear h1;go_enter func39,ntmps39
  go_wp2;go_ret;exact⟨by first|rfl|(rw[HY.o];rfl),rfl⟩
 have g1:¬(s.size:Int)<1:=by omega
 by_cases h2:12<s.size
 ·have HY:U _:=LC (aN h2);have g2:(12:Int)<(s.size:Int):=by omega
  clear h1 h2;go_enter func39,ntmps39
  go_wp2;go_ret;exact⟨by first|rfl|(rw[HY.o];rfl),rfl⟩
 have g2:¬(12:Int)<(s.size:Int):=by omega
 have HZ:U (1<=s.size/\s.size<=12):=⟨by omega,by omega⟩;clear h1 h2 hs;go_enter func39,ntmps39
 go_wp2_with fail
 clear g1 g2
 go_loopw [3,4,5] (λi _ _ wr=>∃k:Nat,k<=s.size/\i=ae af k/\wr=w/\U ((∀j,j<k->gL (s.data.toList.getD j 0)=true)/\(0<k->mE (s.data.toList.getD 0 0)=true))) (λi _ _ _=>s.size-(intOf i).toNat)
 case atStart=>exact⟨0,bA _,rfl,rfl,⟨λj hj=>absurd hj (oo _),λh=>absurd h (Nat.lt_irrefl _)⟩⟩
 case round=>
  obtain⟨k,hk,rfl,rfl,HA⟩:=hrel
  by_cases hlt:k<s.size
  ·have k1:(k:Int)<(s.size:Int):=by omega
   have k2:(0:Int)<=(k:Int):=by omega
   have Sq:k<12:=by have:=HZ.2;omega
   have HB:U _:=byte_at s k hlt;have HY:U _:=λh=>Sm hlt h
   have Cs:U (mE _=false->isName s=false):=λh=>Sl h
   have hstep:∀(hb:gL (s.data.toList.getD k 0)=true) (hl:k=0->mE (s.data.toList.getD 0 0)=true),(∀j,j<k+1->gL (s.data.toList.getD j 0)=true)/\(0<k+1->mE (s.data.toList.getD 0 0)=true):=λhb hl=>by
    refine⟨λj hj=>?_,λ_=>?_⟩
    ·by_cases e:j=k
     ·rw[e];exact hb
     exact HA.1 j (by omega)
    by_cases e:k=0
    ·exact hl e
    exact HA.2 (by omega)
   change U _ at hstep
   generalize hcc:s[k]=c at *;have HC:U _:=HB.o;have hv:=c.toNat_lt
   by_cases b1:97<=c.toNat/\c.toNat<=122
   ·have n1:(97:Int)<=(c.toNat:Int):=by omega
    have n2:(c.toNat:Int)<=122:=by omega
    have HL:U (mE c=true):=by show _=_;simp[mE];omega
    clear b1 hv;go_wp2;go_roundw
    case rel=>
     refine⟨_,by omega,by go_num,by first|trivial|rfl,hstep ?_ ?_⟩
     ·rw[<- HC.o];have:=HL.o;simp[gL,this]
     rintro rfl;rw[<- HC.o];exact HL
    case measure=>simp[intOf];omega
   have HL:U (mE c=false):=by show _=_;simp[mE];omega
   by_cases q0:c.toNat<45
   ·have n0:¬(97:Int)<=(c.toNat:Int):=by omega
    have n1:¬(48:Int)<=(c.toNat:Int):=by omega
    have n9:((c.toNat:Int)==45)=false:=by rw[gX];omega
    have HO:U (gL c=false):=by show _=_;have:=HL.o;simp[gL,this,iN];omega
    clear b1 hv q0
    by_cases eY:k=0
    ·have HF:U _:=Cs (by have h2:=HC.o;rw[eY]at h2;rw[<- h2];exact HL);have kz:((k:Int)==0)=true:=by rw[qw];omega
     clear eY;go_wp2;go_ret;exact⟨by first|rfl|(rw[HF.o];rfl),by first|trivial|rfl⟩
    have kz:((k:Int)==0)=false:=by rw[gX];omega
    have vM:U (¬k=0):=eY;clear eY;have HF:U _:=HY (by rw[<- HC.o];exact HO);go_wp2;go_ret;exact⟨by first|rfl|(rw[HF.o];rfl),by first|trivial|rfl⟩
   by_cases q1:c.toNat=45
   ·have n0:¬(97:Int)<=(c.toNat:Int):=by omega
    have n1:¬(48:Int)<=(c.toNat:Int):=by omega
    have n9:((c.toNat:Int)==45)=true:=by rw[qw];omega
    have HO:U (gL c=true):=by show _=_;have:=HL.o;simp[gL,this,iN];omega
    clear b1 hv q0 q1
    by_cases eY:k=0
    ·have HF:U _:=Cs (by have h2:=HC.o;rw[eY]at h2;rw[<- h2];exact HL);have kz:((k:Int)==0)=true:=by rw[qw];omega
     clear eY;go_wp2;go_ret;exact⟨by first|rfl|(rw[HF.o];rfl),by first|trivial|rfl⟩
    have kz:((k:Int)==0)=false:=by rw[gX];omega
    have vM:U (¬k=0):=eY;clear eY;go_wp2;go_roundw
    case rel=>exact⟨_,by omega,by go_num,by first|trivial|rfl,hstep (by rw[<- HC.o];exact HO) (λh=>absurd h vM)⟩
    case measure=>simp[intOf];omega
   by_cases q2:c.toNat<48
   ·have n0:¬(97:Int)<=(c.toNat:Int):=by omega
    have n1:¬(48:Int)<=(c.toNat:Int):=by omega
    have n9:((c.toNat:Int)==45)=false:=by rw[gX];omega
    have HO:U (gL c=false):=by show _=_;have:=HL.o;simp[gL,this,iN];omega
    clear b1 hv q0 q1 q2
    by_cases eY:k=0
    ·have HF:U _:=Cs (by have h2:=HC.o;rw[eY]at h2;rw[<- h2];exact HL);have kz:((k:Int)==0)=true:=by rw[qw];omega
     clear eY;go_wp2;go_ret;exact⟨by first|rfl|(rw[HF.o];rfl),by first|trivial|rfl⟩
    have kz:((k:Int)==0)=false:=by rw[gX];omega
    have vM:U (¬k=0):=eY;clear eY;have HF:U _:=HY (by rw[<- HC.o];exact HO);go_wp2;go_ret;exact⟨by first|rfl|(rw[HF.o];rfl),by first|trivial|rfl⟩
   by_cases q3:c.toNat<=57
   ·have n0:¬(97:Int)<=(c.toNat:Int):=by omega
    have n1:(48:Int)<=(c.toNat:Int):=by omega
    have n2:(c.toNat:Int)<=57:=by omega
    have HO:U (gL c=true):=by show _=_;have:=HL.o;simp[gL,this,iN];omega
    clear b1 hv q0 q1 q2 q3
    by_cases eY:k=0
    ·have HF:U _:=Cs (by have h2:=HC.o;rw[eY]at h2;rw[<- h2];exact HL);have kz:((k:Int)==0)=true:=by rw[qw];omega
     clear eY;go_wp2;go_ret;exact⟨by first|rfl|(rw[HF.o];rfl),by first|trivial|rfl⟩
    have kz:((k:Int)==0)=false:=by rw[gX];omega
    have vM:U (¬k=0):=eY;clear eY;go_wp2;go_roundw
    case rel=>exact⟨_,by omega,by go_num,by first|trivial|rfl,hstep (by rw[<- HC.o];exact HO) (λh=>absurd h vM)⟩
    case measure=>simp[intOf];omega
   by_cases q4:c.toNat<97
   ·have n0:¬(97:Int)<=(c.toNat:Int):=by omega
    have n1:(48:Int)<=(c.toNat:Int):=by omega
    have n2:¬(c.toNat:Int)<=57:=by omega
    have n9:((c.toNat:Int)==45)=false:=by rw[gX];omega
    have HO:U (gL c=false):=by show _=_;have:=HL.o;simp[gL,this,iN];omega
    clear b1 hv q0 q1 q2 q3 q4
    by_cases eY:k=0
    ·have HF:U _:=Cs (by have h2:=HC.o;rw[eY]at h2;rw[<- h2];exact HL);have kz:((k:Int)==0)=true:=by rw[qw];omega
     clear eY;go_wp2;go_ret;exact⟨by first|rfl|(rw[HF.o];rfl),by first|trivial|rfl⟩
    have kz:((k:Int)==0)=false:=by rw[gX];omega
    have vM:U (¬k=0):=eY;clear eY;have HF:U _:=HY (by rw[<- HC.o];exact HO);go_wp2;go_ret;exact⟨by first|rfl|(rw[HF.o];rfl),by first|trivial|rfl⟩
   have n0:(97:Int)<=(c.toNat:Int):=by omega
   have n1:¬(c.toNat:Int)<=122:=by omega
   have n2:(48:Int)<=(c.toNat:Int):=by omega
   have n3:¬(c.toNat:Int)<=57:=by omega
   have n9:((c.toNat:Int)==45)=false:=by rw[gX];omega
   have HO:U (gL c=false):=by show _=_;have:=HL.o;simp[gL,this,iN];omega
   clear b1 hv q0 q1 q2 q3 q4
   by_cases eY:k=0
   ·have HF:U _:=Cs (by have h2:=HC.o;rw[eY]at h2;rw[<- h2];exact HL);have kz:((k:Int)==0)=true:=by rw[qw];omega
    clear eY;go_wp2;go_ret;exact⟨by first|rfl|(rw[HF.o];rfl),by first|trivial|rfl⟩
   have kz:((k:Int)==0)=false:=by rw[gX];omega
   have vM:U (¬k=0):=eY;clear eY;have HF:U _:=HY (by rw[<- HC.o];exact HO);go_wp2;go_ret;exact⟨by first|rfl|(rw[HF.o];rfl),by first|trivial|rfl⟩
  have k1:¬(k:Int)<(s.size:Int):=by omega
  have HY:U _:=Sn HZ.1 HZ.2 (HA.2 (by have:=HZ.1;omega)) (λj hj=>HA.1 j (by omega));go_wp2;go_ret;exact⟨by first|rfl|(rw[HY.o];rfl),by first|trivial|rfl⟩
def kB(e:aM):Bool:=decide (60<e.name.size)||decide (30<e.au.length)||decide (30<e.aV.length)||decide (80<e.aP.length)||decide (30<e.first.length)||decide (30<e.last.length)||e.au.any (λp=>decide (60<p.size))
def Ct(b:Bool):Int:=if b then 1 else 0
def ah5(h:kB e=false):gG e:=by
 unfold kB at h;simp only[Bool.or_eq_false_iff,decide_eq_false_iff_not]at h;obtain⟨⟨⟨⟨⟨⟨h1,h2⟩,h3⟩,h4⟩,h5⟩,h6⟩,h7⟩:=h
 refine⟨by omega,by omega,λp hp=>?_,by omega,by omega,by omega,by omega⟩;have:=jY.1 h7 p hp;simp only[uW]at this;omega
def ah6(e:aM)(pa ga ea fa la:Option aC)(pc gc ec fc lc:Nat)(w:ak)(hp:bw ct 1 w (aj pa e.au.length pc) e.au):Calls prog 15 #[.agg (eR e pa pc ga gc ea ec fa fc la lc)] w λv w'=>v=ax (ae af (Ct (kB e)))/\Below w.heap.size w w':=by
 unfold eR;have uC:U (bw _ 1 w _ _):=hp;clear hp
 by_cases h0:60<e.name.size
 ·have HV:U (kB e=true):=by show _=_;unfold kB;simp[h0]
  have g0:(60:Int)<(e.name.size:Int):=by omega
  clear h0;go_enter func15,ntmps15
  go_wp2;go_ret;exact⟨by first|rfl|(rw[HV.o];rfl),aS _ _⟩
 have g0:¬(60:Int)<(e.name.size:Int):=by omega
 by_cases h1:30<e.au.length
 ·have HV:U (kB e=true):=by show _=_;unfold kB;simp[h1]
  have g1:(30:Int)<(e.au.length:Int):=by omega
  clear h0 h1;go_enter func15,ntmps15
  go_wp2;go_ret;exact⟨by first|rfl|(rw[HV.o];rfl),aS _ _⟩
 have g1:¬(30:Int)<(e.au.length:Int):=by omega
 by_cases h2:30<e.aV.length
 ·have HV:U (kB e=true):=by show _=_;unfold kB;simp[h2]
  have g2:(30:Int)<(e.aV.length:Int):=by omega
  clear h0 h1 h2;go_enter func15,ntmps15
  go_wp2;go_ret;exact⟨by first|rfl|(rw[HV.o];rfl),aS _ _⟩
 have g2:¬(30:Int)<(e.aV.length:Int):=by omega
 by_cases h3:80<e.aP.length
 ·have HV:U (kB e=true):=by show _=_;unfold kB;simp[h3]
  have g3:(80:Int)<(e.aP.length:Int):=by omega
  clear h0 h1 h2 h3;go_enter func15,ntmps15
  go_wp2;go_ret;exact⟨by first|rfl|(rw[HV.o];rfl),aS _ _⟩
 have g3:¬(80:Int)<(e.aP.length:Int):=by omega
 by_cases h4:30<e.first.length
 ·have HV:U (kB e=true):=by show _=_;unfold kB;simp[h4]
  have g4:(30:Int)<(e.first.length:Int):=by omega
  clear h0 h1 h2 h3 h4;go_enter func15,ntmps15
  go_wp2;go_ret;exact⟨by first|rfl|(rw[HV.o];rfl),aS _ _⟩
 have g4:¬(30:Int)<(e.first.length:Int):=by omega
 by_cases h5:30<e.last.length
 ·have HV:U (kB e=true):=by show _=_;unfold kB;simp[h5]
  have g5:(30:Int)<(e.last.length:Int):=by omega
  clear h0 h1 h2 h3 h4 h5;go_enter func15,ntmps15
  go_wp2;go_ret;exact⟨by first|rfl|(rw[HV.o];rfl),aS _ _⟩
 have g5:¬(30:Int)<(e.last.length:Int):=by omega
 have Fe:U (kB e=e.au.any (λp=>decide (60<p.size))):=by show _=_;unfold kB;simp[h0,h1,h2,h3,h4,h5]
 have kR:U (e.au.length<=30):=by show _<=_;omega
 clear h0 h1 h2 h3 h4 h5;go_enter func15,ntmps15
 go_upto_region 3 with fail
 obtain⟨W0,hW0⟩:∃V,V=w.alloc (ay (eR e pa pc ga gc ea ec fa fc la lc) 58):=⟨_,rfl⟩;rw[<- hW0];have p2:W0.cell? (ai w.heap.size 2 I)=J (aj pa e.au.length pc):=by rw[hW0,dr _ _ _ _ rfl];rfl
 have Ni:U (Below w.heap.size w W0):=by show Below _ _ _;rw[hW0];exact aS _ _
 clear hW0 g0 g1 g2 g3 g4 g5;go_wp2_with fail
 go_loopw [3] (λi wr=>∃k:Nat,k<=e.au.length/\i=ae af k/\wr=W0/\U (∀(j:Nat) q,j<k->e.au[j]?=J q->¬60<q.size)) (λi _=>e.au.length-(intOf i).toNat)
 case atStart=>exact⟨0,bA _,rfl,rfl,λj q hj=>absurd hj (oo _)⟩
 case round=>
  obtain⟨k,hk,rfl,rfl,hall⟩:=hrel
  by_cases hlt:k<e.au.length
  ·obtain⟨q,hq⟩:∃q,e.au[k]?=J q:=⟨_,bq hlt⟩;obtain⟨bQ,cap',bH,-,hcc⟩:=uC.below Ni
   cases bH
   obtain⟨b,o,rfl,hc0⟩:=hcc (λh=>by rw[h]at hq;simp at hq);have c0:=hc0 k q hq 0 _ rfl;simp only[qT,kH]at c0;have k1:(k:Int)<(e.au.length:Int):=by omega
   have k2:(0:Int)<=(k:Int):=by omega
   have k0:k<30:=by have:=kR.o;omega
   have HM:U (60<q.size->kB e=true):=λh=>by rw[Fe.o];exact kD.2 ⟨q,bP hq,by simpa using h⟩
   clear hc0 hcc;change U _ at hq
   by_cases hs:60<q.size
   ·have g:(60:Int)<(q.size:Int):=by omega
    change U _ at hs
    go_wp2;go_ret;exact⟨by first|rfl|(rw[HM.o hs.o];rfl),Ni⟩
   have g:¬(60:Int)<(q.size:Int):=by omega
   have HS:U (¬60<q.size):=hs;clear hs;go_wp2;go_roundw
   case rel=>
    refine⟨k+1,by omega,by go_num,by first|trivial|rfl,λj q' hj he=>?_⟩
    by_cases hjk:j=k
    ·subst hjk;have h2:=hq.o;rw[h2]at he
     cases he
     exact HS
    exact hall j q' (by omega) he
   case measure=>simp[intOf];omega
  have k1:¬(k:Int)<(e.au.length:Int):=by omega
  have HN:U (kB e=false):=by
   show _=_
   rw[Fe.o,jY];intro q hq;obtain⟨j,hj,rfl⟩:=su hq;have:=hall j _ (by omega) (bq hj);simpa using this
  go_wp2;go_ret;exact⟨by first|rfl|(rw[HN.o];rfl),Ni⟩
def Ag{na:List ByteArray}(h0:dP na e.name=0)(h:(!within e.bh 0 20||decide (16<e.au.length)||decide (8<e.aV.length)||decide (64<e.aP.length)||decide (16<e.first.length)||decide (16<e.last.length))=true):cD na e=2:=by
 rw[ah2 h0 (by rw[Ut h];decide),Ut h]
def ah7(es:List aM)(sa:Option aC)(sc i:Nat)(e:aM)(w:ak)(hE:eU w (aj sa es.length sc) es)(he:es[i]?=J e)(hS:∀e∈es,gG e)(hn:es.length<=1000000):Calls prog 17 #[aj sa es.length sc,ae af (i:Int)] w λv w'=>v=ax (ae af (cD ((es.take i).map (·.name)) e))/\Below w.heap.size w w':=by
 have Bt:i<es.length:=by
  rcases fF i es.length with h'|h'
  ·exact h'
  rw[jb h']at he;cases he
 obtain⟨na,Nj⟩:∃na,na=(es.take i).map (·.name):=⟨_,rfl⟩;obtain⟨bQ,cap',bH,hcc⟩:=id hE
 cases bH
 obtain⟨b,o,rfl,hc⟩:=hcc (λh=>by rw[h]at he;simp at he);obtain⟨pv,gv,ev,fv,lv,hP,hcell⟩:=hc i e he;obtain⟨pa,pc,rfl,-⟩:=id hP.hp;obtain⟨ga,gc,rfl,-⟩:=id hP.hg;obtain⟨ea,ec,rfl,-⟩:=id hP.he;obtain⟨fa,fc,rfl,-⟩:=id hP.hf;obtain⟨la,lc,rfl,-⟩:=id hP.hl;have eG:U (gG e/\∀e∈es,gG e):=⟨hS e (bP he),hS⟩;have Uv:U (na=(es.take i).map (·.name)):=Nj;have ah8:U (∀k e',es[k]?=J e'->w.cell? ⟨b,o+k*10,I⟩=J (aA e'.name)):=λk e' Ad=>by
  obtain⟨pv,gv,ev,fv,lv,-,hc2⟩:=hc k e' Ad;have:=hc2 0 (aA e'.name) rfl;simpa using this
 rw[<- Nj];have z0:=hcell 0 (aA e.name) rfl;have z1:=hcell 1 (ae af e.bh) rfl;have z2:=hcell 2 (aj pa e.au.length pc) rfl;have z3:=hcell 3 (ae af e.cnt) rfl;have z4:=hcell 4 (ae af e.mn) rfl;have z5:=hcell 5 (ae af e.mx) rfl;have z6:=hcell 6 (aj ga e.aV.length gc) rfl;have z7:=hcell 7 (aj ea e.aP.length ec) rfl;have z8:=hcell 8 (aj fa e.first.length fc) rfl;have z9:=hcell 9 (aj la e.last.length lc) rfl;simp only[kH]at z0;have i1:(i:Int)<(es.length:Int):=by omega
 obtain⟨W,hW⟩:∃V,V=w.alloc (ay #[aA e.name,ae af e.bh,aj pa e.au.length pc,ae af e.cnt,ae af e.mn,ae af e.mx,aj ga e.aV.length gc,aj ea e.aP.length ec,aj fa e.first.length fc,aj la e.last.length lc] 58):=⟨_,rfl⟩;have cx:U (Below w.heap.size w W):=by show Below _ _ _;rw[hW];exact aS _ _
 have f_:U (∀V,Below W.heap.size W V->Below w.heap.size w V):=λV hV=>cx.trans (hV.mono cx.size)
 have HX:U (∀V,Below W.heap.size W V->∀(j:Nat) u,(#[aA e.name,ae af e.bh,aj pa e.au.length pc,ae af e.cnt,ae af e.mn,ae af e.mx,aj ga e.aV.length gc,aj ea e.aP.length ec,aj fa e.first.length fc,aj la e.last.length lc]:Array aw)[j]?=J u->V.cell? (ai w.heap.size j I)=J u):=λV hV j u hu=>by
  have:=a8 hV (show W.heap[w.heap.size]?=_ by rw[hW];exact cj w _);simp[aH,this,hu]
 have kN:U (∀V,Below W.heap.size W V->V.heap[w.heap.size]?=J (ay #[aA e.name,ae af e.bh,aj pa e.au.length pc,ae af e.cnt,ae af e.mn,ae af e.mx,aj ga e.aV.length gc,aj ea e.aP.length ec,aj fa e.first.length fc,aj la e.last.length lc] 58 (0,0))):=λV hV=>a8 hV (by rw[hW];exact cj w _)
 have HP:U (∀V,Below W.heap.size W V->fh V e (aj pa e.au.length pc) (aj ga e.aV.length gc) (aj ea e.aP.length ec) (aj fa e.first.length fc) (aj la e.last.length lc)):=λV hV=>hP.below (f_ V hV)
 clear hP hS hcell hc hcc hE Nj;go_enter func17,ntmps17
 go_upto_region 2 with fail
 rw[<- hW];clear hW z0 z1 z2 z3 z4 z5 z6 z7 z8 z9;have y0:=HX W (aF _ _) 0 _ rfl;go_wp2_with fail
 apply(Uu e.name W eG.1.hn).mono;rintro v w1 ⟨rfl,iF⟩
 cases iF
 cases Iy:isName e.name
 ·have HE:U (cD na e=4):=by show _=_;rw[Ur (by rw[Iw Iy];decide),Iw Iy]
  go_wp2;go_ret;exact⟨by rw[HE.o];rfl,cx⟩
 have Cu:U (isName e.name=true):=Iy;clear Iy;go_upto_region 5 with fail
 go_cut [7] (λi wx=>i=ae af 0/\wx=W)
 case first=>
  go_wp2
  go_meet
  case rel=>exact⟨rfl,rfl⟩
 obtain⟨rfl,rfl⟩:=hcut;rename ak=>W
 clear y0;go_wp2_with fail
 go_loopw [7] (λiv wx=>∃(k:Nat),k<=i/\iv=ae af k/\Below W.heap.size W wx/\∀j e',j<k->es[j]?=J e'->e'.name≠e.name) (λiv _=>i-(intOf iv).toNat)
 case atStart=>exact⟨0,bA _,rfl,aF _ _,λj e' hj=>absurd hj (by omega)⟩
 case round=>
  obtain⟨k,hk,rfl,cN,hno⟩:=hrel;rename ak=>wx
  have HB:U (Below W.heap.size W wx):=cN;have eX:U (∀j e',j<k->es[j]?=J e'->e'.name≠e.name):=hno;clear cN hno
  by_cases hlt:k<i
  ·have k1:(k:Int)<(i:Int):=by omega
   have k2:(k:Int)<(es.length:Int):=by omega
   obtain⟨q,hq⟩:∃q,es[k]?=J q:=⟨_,bq (by omega)⟩;have HQ:U (es[k]?=J q):=hq;have c0:=aJ (f_ wx HB) (ah8 k q hq);have y0:=HX wx HB 0 _ rfl;clear hq
   by_cases nt:q.name=e.name
   ·have HE:U (cD na e=6):=by
     have h6:dP na e.name=6:=Uo Cu (by
      rw[Uv.o,kD]
      refine⟨q.name,nS.2 ⟨q,?_,rfl⟩,by simp[nt]⟩;have:(es.take i)[k]?=J q:=by rw[np,aU hlt];exact HQ
      exact bP this)
     show _=_
     rw[Ur (by rw[h6];decide),h6]
    rw[nt]at c0;clear nt;go_wp2_with fail
    go_quiet (fail)
    go_wp2;go_ret;exact⟨by rw[HE.o];rfl,f_ _ (br HB _)⟩
   have n1:=(xJ nt).1;have n2:=(xJ nt).2;go_wp2_with fail
   go_quiet (fail)
   go_wp2
   go_roundw
   case rel=>
    refine⟨k+1,by omega,by go_num,br HB _,λj y hj hy=>?_⟩
    rcases fF j k with h1|h1
    ·exact eX j y h1 hy
    obtain rfl:j=k:=by omega
    rw[HQ.o]at hy
    cases hy
    exact nt
   case measure=>simp[intOf];omega
  have k1:¬(k:Int)<(i:Int):=by omega
  obtain rfl:k=i:=by omega
  have sZ:U (dP na e.name=0):=Up Cu (by
   rw[Uv.o,jY];intro x hx;obtain⟨q,hq,rfl⟩:=nS.1 hx;obtain⟨j,hj⟩:=r7 hq;rw[np]at hj
   split at hj
   ·rename_i hjk;simpa using eX.o j q hjk hj
   cases hj)
  clear eX hlt hk;have y1:=HX wx HB 1 _ rfl;have y2:=HX wx HB 2 _ rfl;have y6:=HX wx HB 6 _ rfl;have y7:=HX wx HB 7 _ rfl;have y8:=HX wx HB 8 _ rfl;have y9:=HX wx HB 9 _ rfl;go_upto_region 10 with fail
  by_cases t1:e.bh<0
  ·have HE:U (cD na e=2):=Ag sZ (by unfold within;rw[bV (p:=0<=e.bh) (by omega)];simp);go_wp2;go_ret;exact⟨by rw[HE.o];rfl,f_ _ HB⟩
  by_cases t2:20<e.bh
  ·have HE:U (cD na e=2):=Ag sZ (by unfold within;rw[bV (p:=e.bh<=20) (by omega)];simp);go_wp2;go_ret;exact⟨by rw[HE.o];rfl,f_ _ HB⟩
  by_cases t3:16<(e.au.length:Int)
  ·have HE:U (cD na e=2):=Ag sZ (by rw[bD (p:=16<e.au.length) (by omega)];simp);go_wp2;go_ret;exact⟨by rw[HE.o];rfl,f_ _ HB⟩
  by_cases t4:8<(e.aV.length:Int)
  ·have HE:U (cD na e=2):=Ag sZ (by rw[bD (p:=8<e.aV.length) (by omega)];simp);go_wp2;go_ret;exact⟨by rw[HE.o];rfl,f_ _ HB⟩
  by_cases t5:64<(e.aP.length:Int)
  ·have HE:U (cD na e=2):=Ag sZ (by rw[bD (p:=64<e.aP.length) (by omega)];simp);go_wp2;go_ret;exact⟨by rw[HE.o];rfl,f_ _ HB⟩
  by_cases t6:16<(e.first.length:Int)
  ·have HE:U (cD na e=2):=Ag sZ (by rw[bD (p:=16<e.first.length) (by omega)];simp);go_wp2;go_ret;exact⟨by rw[HE.o];rfl,f_ _ HB⟩
  by_cases t7:16<(e.last.length:Int)
  ·have HE:U (cD na e=2):=Ag sZ (by rw[bD (p:=16<e.last.length) (by omega)];simp);go_wp2;go_ret;exact⟨by rw[HE.o];rfl,f_ _ HB⟩
  have HZ:U (jZ e=0):=ah4 (by unfold within;rw[bD (by omega),bD (by omega)];rfl) (by omega) (by omega) (by omega) (by omega) (by omega);go_upto_region 14 with fail
  clear y1 y6 y7 y8 y9
  go_cut [8] (λi wv=>i=ae af 0/\wv=wx)
  case first=>
   go_wp2
   go_meet
   case rel=>exact⟨rfl,rfl⟩
  obtain⟨rfl,rfl⟩:=hcut;rename ak=>wx
  clear y2 k1;go_wp2_with fail
  go_loopw [8,9] (λiv _ wy=>∃(k:Nat),k<=e.au.length/\iv=ae af k/\Below W.heap.size W wy/\eM [] (e.au.take k)=0) (λiv _ _=>e.au.length-(intOf iv).toNat)
  case atStart=>exact⟨0,bA _,rfl,HB,rfl⟩
  case round=>
   clear HB;obtain⟨k,hk,rfl,cN,hno⟩:=hrel;rename ak=>wx
   have HB:U (Below W.heap.size W wx):=cN;have eX:U (eM [] (e.au.take k)=0):=hno;clear cN hno;have y2:=HX wx HB 2 _ rfl
   by_cases hlt:k<e.au.length
   ·have k1:(k:Int)<(e.au.length:Int):=by omega
    as_aux_lemma=>
     obtain⟨q,hq⟩:∃q,e.au[k]?=J q:=⟨_,bq hlt⟩;have HQ:U (e.au[k]?=J q):=hq;obtain⟨g,o2,rfl,hcs⟩:=pI (HP wx HB).hp hq;have Uw:U (∀n,Calls prog 40 #[aj (J (ai g o2 I)) e.au.length pc,aA q] (wx.drewN n) _):=λn=>nJ e.au q (J (ai g o2 I)) pc (wx.drewN n) (HP _ (br HB n)).hp eG.1.hp
     have c0:=hcs k q hq;clear hcs hq;go_wp2_with fail
     apply(Uu q wx (eG.1.hs q (bP HQ.o))).mono;rintro v w2 ⟨rfl,hw2⟩
     cases hw2
     cases Iz:isName q
     ·have HE:U (cD na e=4):=by
       have h4:=Un HQ eX (by rw[Iw Iz];decide);rw[Iw Iz]at h4;show _=_
       rw[Us sZ.o HZ.o (by rw[h4];decide),h4]
      go_wp2;go_ret;exact⟨by rw[HE.o];rfl,f_ _ HB⟩
     by_cases Ux:idxOf e.au q<(k:Int)
     ·have HE:U (cD na e=6):=by
       have h6:=Uo Iz ((Uq HQ).1 Ux);have h4:=Un HQ eX (by rw[h6];decide);rw[h6]at h4;show _=_
       rw[Us sZ.o HZ.o (by rw[h4];decide),h4]
      go_upto_region 20 with fail
      go_region_held3 (λw'=>w'.cell? (ai w.heap.size 2 I)=J (aj (J (ai g o2 I)) e.au.length pc)/\w'.cell? ⟨g,o2+k,I⟩=J (aA q)) (first|exact⟨y2,c0⟩) (first|(go_at_call 40;refine aO (Uw.o _) ?_;rintro v w3 ⟨rfl,rfl⟩))
      all_goals
       go_wp2;go_ret;exact⟨by rw[HE.o];rfl,f_ _ (br HB _)⟩
     have Br:U (eM [] (e.au.take (k+1))=0):=ah1 HQ eX (Up Iz (by
      cases ha:(e.au.take k).any λx=>decide (x=q)
      ·rfl
      exact absurd ((Uq HQ).2 ha) Ux))
     go_upto_region 20 with fail
     go_region_held3 (λw'=>w'.cell? (ai w.heap.size 2 I)=J (aj (J (ai g o2 I)) e.au.length pc)/\w'.cell? ⟨g,o2+k,I⟩=J (aA q)) (first|exact⟨y2,c0⟩) (first|(go_at_call 40;refine aO (Uw.o _) ?_;rintro v w3 ⟨rfl,rfl⟩))
     all_goals
      go_wp2
      go_roundw
      case rel=>exact⟨k+1,by omega,by go_num,br HB _,Br⟩
      case measure=>simp[intOf];omega
   have k1:¬(k:Int)<(e.au.length:Int):=by omega
   have uC:U (eM [] e.au=0):=by show _=_;have:=eX.o;rwa [iM (by omega)]at this
   have kh:U (cD na e=pZ e):=ah3 sZ HZ uC;clear eX hlt hk sZ HZ uC;as_aux_lemma=>
    have y3:=HX wx HB 3 _ rfl;go_upto_region 22 with fail
    by_cases t1:e.cnt < -1
    ·have HE:U (cD na e=5):=by show _=_;rw[kh.o,rH];have:ym e=true:=(by unfold ym lacks;rw[bD (p:=e.cnt≠-1) (by omega),bD (p:=e.cnt<0) (by omega)];rfl);simp[dK,this]
     go_wp2;go_ret;exact⟨by rw[HE.o];rfl,f_ _ HB⟩
    by_cases t2:(e.au.length:Int)<=e.cnt
    ·have HE:U (cD na e=5):=by show _=_;rw[kh.o,rH];have:ym e=true:=(by unfold ym lacks;rw[bD (p:=e.cnt≠-1) (by omega),bD t2,Bool.or_true];rfl);simp[dK,this]
     go_wp2;go_ret;exact⟨by rw[HE.o];rfl,f_ _ HB⟩
    have dx:U (ym e=false):=by
     show _=_
     unfold ym lacks
     by_cases h:e.cnt=-1
     ·rw[bV (p:=e.cnt≠-1) (by omega)];rfl
     rw[bV (p:=e.cnt<0) (by omega),bV t2,wZ,zb]
    go_upto_region 24 with fail
    clear y3 y2;go_wp2_with (refine pB rfl 58 _ rfl w.heap.size rfl _ _ _ _ (kN wx HB) underlying58 rfl vk ?_)
    apply(ahU e pa ga ea fa la pc gc ec fc lc wx (HP wx HB) eG.1).mono;rintro v w4 ⟨rfl,hb4⟩;have nL:U (Below W.heap.size W w4):=HB.trans (hb4.mono HB.size);clear hb4 HB t1 t2
    cases hst:(vY e).any λx=>lacks e.au.length x
    case true=>
     have HE:U (cD na e=5):=by show _=_;rw[kh.o,rH];have h2:Ix e=true:=hst;simp[dK,dx.o,h2]
     go_wp2;go_ret;exact⟨by rw[HE.o];rfl,f_ _ nL⟩
    have wj:U (Ix e=false):=hst;clear hst;as_aux_lemma=>
     have y3:=HX w4 nL 3 _ rfl;have y4:=HX w4 nL 4 _ rfl;have y5:=HX w4 nL 5 _ rfl;go_upto_region 27 with fail
     by_cases jr:Cr e=true
     ·have HE:U (cD na e=3):=by show _=_;rw[kh.o,rH];simp[dK,dx.o,wj.o,jr]
      have mo:e.cnt=-1:=by unfold Cr at jr;simp at jr;exact jr.1
      rw[mo]at y3
      by_cases Nk:e.mn=0
      ·have hmx:¬e.mx=0:=by unfold Cr at jr;simp[Nk]at jr;exact jr.2
       rw[Nk]at y4;clear jr mo Nk;go_wp2;go_ret;exact⟨by rw[HE.o];rfl,f_ _ nL⟩
      clear jr mo;go_wp2;go_ret;exact⟨by rw[HE.o];rfl,f_ _ nL⟩
     have yo:U (Cr e=false):=by rw[uX]at jr;exact jr
     go_cut [112,113,114,115,116,117,118,119,120,121,122,123,124] (λ_ _ _ _ _ _ _ _ _ _ _ _ v wv=>v=aL false/\wv=w4)
     case first=>
      by_cases mo:e.cnt=-1
      ·have hz:e.mn=0/\e.mx=0:=by unfold Cr at jr;simp[mo]at jr;exact jr
       rw[mo]at y3;rw[hz.1]at y4;rw[hz.2]at y5;clear jr mo hz;go_wp2
       go_meet
       case rel=>exact⟨rfl,rfl⟩
      clear jr;go_wp2
      go_meet
      case rel=>exact⟨rfl,rfl⟩
     obtain⟨rfl,rfl⟩:=hcut;rename ak=>w4
     clear jr y3;go_upto_region 29 with fail
     by_cases t1:e.mn<0
     ·have HE:U (cD na e=2):=by show _=_;rw[kh.o,rH];have:v_ e=true:=(by unfold v_ iq;rw[bV (p:=0<=e.mn) (by omega)];rfl);simp[dK,dx.o,wj.o,yo.o,this]
      go_wp2;go_ret;exact⟨by rw[HE.o];rfl,f_ _ nL⟩
     by_cases t2:e.mx<e.mn
     ·have HE:U (cD na e=2):=by show _=_;rw[kh.o,rH];have:v_ e=true:=(by unfold v_ iq;rw[bV (p:=e.mn<=e.mx) (by omega)];simp);simp[dK,dx.o,wj.o,yo.o,this]
      go_wp2;go_ret;exact⟨by rw[HE.o];rfl,f_ _ nL⟩
     by_cases t3:1000<=e.mx
     ·have HE:U (cD na e=2):=by show _=_;rw[kh.o,rH];have:v_ e=true:=(by unfold v_ iq;rw[bV (p:=e.mx<=999) (by omega)];simp);simp[dK,dx.o,wj.o,yo.o,this]
      go_wp2;go_ret;exact⟨by rw[HE.o];rfl,f_ _ nL⟩
     have Ff:U (v_ e=false):=by show _=_;unfold v_ iq;rw[bD (p:=0<=e.mn) (by omega),bD (p:=e.mn<=e.mx) (by omega),bD (p:=e.mx<=999) (by omega)];rfl
     go_upto_region 31 with fail
     clear y4 y5 t1 t2 t3
     go_cut [11] (λi wv=>i=ae af 0/\wv=w4)
     case first=>
      go_wp2
      go_meet
      case rel=>exact⟨rfl,rfl⟩
     obtain⟨rfl,rfl⟩:=hcut;rename ak=>w4
     go_wp2_with fail
     go_loopw [11,12] (λiv _ wy=>∃(k:Nat),k<=e.aV.length/\iv=ae af k/\Below W.heap.size W wy/\∀j g,j<k->e.aV[j]?=J g->iq 0 g.mn g.mx 1099511627776=true) (λiv _ _=>e.aV.length-(intOf iv).toNat)
     case atStart=>exact⟨0,bA _,rfl,nL,λj g hj=>absurd hj (by omega)⟩
     case round=>
      clear nL;clear k1;obtain⟨k,hk,rfl,cN,hno⟩:=hrel;rename ak=>wx
      have HB:U (Below W.heap.size W wx):=cN;have eX:U (∀j g,j<k->e.aV[j]?=J g->iq 0 g.mn g.mx 1099511627776=true):=hno;clear cN hno;have y6:=HX wx HB 6 _ rfl
      by_cases hlt:k<e.aV.length
      ·have k1:(k:Int)<(e.aV.length:Int):=by omega
       have k2:k<1000000:=by have:=eG.1.hg;omega
       as_aux_lemma=>
        obtain⟨q,hq⟩:∃q,e.aV[k]?=J q:=⟨_,bq hlt⟩;have HQ:U (e.aV[k]?=J q):=hq;obtain⟨bQ,cap',bH,-,hcc⟩:=(HP wx HB).hg
        cases bH
        obtain⟨g,o2,rfl,hc0⟩:=hcc (λh=>by rw[h]at hq;simp at hq);have c0:wx.cell? ⟨g,o2+k*4,I⟩=J (ae af q.fr):=hc0 k _ hq 0 _ rfl;have c1:wx.cell? ⟨g,o2+k*4+1,I⟩=J (ae af q.to):=hc0 k _ hq 1 _ rfl;have c2:wx.cell? ⟨g,o2+k*4+2,I⟩=J (ae af q.mn):=hc0 k _ hq 2 _ rfl;have c3:wx.cell? ⟨g,o2+k*4+3,I⟩=J (ae af q.mx):=hc0 k _ hq 3 _ rfl;have Nl:U (iq 0 q.mn q.mx 1099511627776=false->cD na e=2):=λh=>by
         have h8:Fc e=true:=by unfold Fc;rw[kD];exact⟨q,bP HQ.o,by rw[h];rfl⟩
         rw[kh.o,rH];simp[dK,dx.o,wj.o,yo.o,Ff.o,h8]
        have IA:U (∀ob,Below W.heap.size W (wx.alloc ob)):=λob=>HB.alloc HB.size _
        clear hcc hc0 hq
        by_cases t1:q.mn<0
        ·have HE:U (cD na e=2):=Nl (by unfold iq;rw[bV (p:=0<=q.mn) (by omega)];rfl);go_wp2;go_ret;exact⟨by rw[HE.o];rfl,f_ _ (IA _)⟩
        by_cases t2:q.mx<q.mn
        ·have HE:U (cD na e=2):=Nl (by unfold iq;rw[bV (p:=q.mn<=q.mx) (by omega)];simp);go_wp2;go_ret;exact⟨by rw[HE.o];rfl,f_ _ (IA _)⟩
        by_cases t3:1099511627776<q.mx
        ·have HE:U (cD na e=2):=Nl (by unfold iq;rw[bV (p:=q.mx<=1099511627776) (by omega)];simp);go_wp2;go_ret;exact⟨by rw[HE.o];rfl,f_ _ (IA _)⟩
        have sg:U (iq 0 q.mn q.mx 1099511627776=true):=by show _=_;unfold iq;rw[bD (p:=0<=q.mn) (by omega),bD (p:=q.mn<=q.mx) (by omega),bD (p:=q.mx<=1099511627776) (by omega)];rfl
        go_wp2
        go_roundw
        case rel=>
         refine⟨k+1,by omega,by go_num,IA _,λj y hj hy=>?_⟩
         rcases fF j k with h1|h1
         ·exact eX j y h1 hy
         obtain rfl:j=k:=by omega
         rw[HQ.o]at hy
         cases hy
         exact sg
        case measure=>simp[intOf];omega
      have k1:¬(k:Int)<(e.aV.length:Int):=by omega
      have IB:U (Fc e=false):=by
       show _=_
       unfold Fc;rw[jY];intro g hg;obtain⟨j,hj⟩:=r7 hg;have nC:j<e.aV.length:=by
        rcases fF j e.aV.length with h'|h'
        ·exact h'
        rw[jb h']at hj;cases hj
       rw[eX.o j g (by omega) hj];simp
      clear eX hlt hk;go_upto_region 37 with fail
      clear y6 k1
      go_cut [13] (λi wv=>i=ae af 0/\wv=wx)
      case first=>
       go_wp2
       go_meet
       case rel=>exact⟨rfl,rfl⟩
      obtain⟨rfl,rfl⟩:=hcut;rename ak=>wx
      go_wp2_with fail
      go_loopw [13,14] (λiv _ wy=>∃(k:Nat),k<=e.aP.length/\iv=ae af k/\Below W.heap.size W wy/\∀j x,j<k->e.aP[j]?=J x->((e.aP.take j).any λy=>decide (x=y))=false) (λiv _ _=>e.aP.length-(intOf iv).toNat)
      case atStart=>exact⟨0,bA _,rfl,HB,λj g hj=>absurd hj (by omega)⟩
      case round=>
       clear HB;obtain⟨k,hk,rfl,cN,hno⟩:=hrel;rename ak=>wx
       have HB:U (Below W.heap.size W wx):=cN;have eX:U (∀j x,j<k->e.aP[j]?=J x->((e.aP.take j).any λy=>decide (x=y))=false):=hno;clear cN hno;have y7:=HX wx HB 7 _ rfl
       by_cases hlt:k<e.aP.length
       ·have k1:(k:Int)<(e.aP.length:Int):=by omega
        have k2:k<1000000:=by have:=eG.1.he;omega
        as_aux_lemma=>
         obtain⟨q,hq⟩:∃q,e.aP[k]?=J q:=⟨_,bq hlt⟩;have HQ:U (e.aP[k]?=J q):=hq;obtain⟨bQ,cap',bH,-,hcc⟩:=(HP wx HB).he
         cases bH
         obtain⟨g,o2,rfl,hc0⟩:=hcc (λh=>by rw[h]at hq;simp at hq);have Cv:U (∀V,Below wx.heap.size wx V->∀j x,e.aP[j]?=J x->V.cell? ⟨g,o2+j*2,I⟩=J (ae af x.1)/\V.cell? ⟨g,o2+j*2+1,I⟩=J (ae af x.2)):=λV hV j x hx=>⟨aJ hV (hc0 j x hx 0 _ rfl),aJ hV (hc0 j x hx 1 _ rfl)⟩
         clear hcc hc0 hq;go_upto_region 40 with fail
         clear y7
         go_cut [14] (λi wv=>i=ae af 0/\wv=wx)
         case first=>
          go_wp2
          go_meet
          case rel=>exact⟨rfl,rfl⟩
         obtain⟨rfl,rfl⟩:=hcut;rename ak=>wx
         go_wp2_with fail
         go_loopw [14] (λiv wy=>∃(j:Nat),j<=k/\iv=ae af j/\Below wx.heap.size wx wy/\∀m x,m<j->e.aP[m]?=J x->q≠x) (λiv _=>k-(intOf iv).toNat)
         case atStart=>exact⟨0,bA _,rfl,aF _ _,λj g hj=>absurd hj (by omega)⟩
         case round=>
          obtain⟨j,hj,rfl,hby,hno⟩:=hrel;rename ak=>wy
          have IC:U (Below wx.heap.size wx wy):=hby;have Nn:U (Below W.heap.size W wy):=HB.trans (hby.mono HB.size);have sQ:U (∀m x,m<j->e.aP[m]?=J x->q≠x):=hno;clear hby hno;have y7:=HX wy Nn 7 _ rfl
          by_cases hjk:j<k
          ·have j1:(j:Int)<(k:Int):=by omega
           have j2:(j:Int)<(e.aP.length:Int):=by omega
           have j3:j<1000000:=by omega
           obtain⟨x,hx⟩:∃x,e.aP[j]?=J x:=⟨_,bq (by omega)⟩;have Np:U (e.aP[j]?=J x):=hx;obtain⟨a0,a1⟩:=Cv wy IC j x hx;obtain⟨b0,b1⟩:=Cv wy IC k q HQ;clear hx;obtain⟨x1,x2⟩:=x;obtain⟨q1,q2⟩:=q;simp only at a0 a1 b0 b1
           by_cases e1:x1=q1
           ·by_cases e2:x2=q2
            ·subst e1 e2;have GC:∀w,(binOp .eql 74 (bK #[ae af x1,ae af x2]) (bK #[ae af x1,ae af x2])).run prog w=.ok (aL true) w:=λw=>by rw[Bp];simp
             have KC:=DV;have HE:U (cD na e=6):=by
              have h9:twice e.aP=true:=by
               unfold twice;rw[kD]
               refine⟨k,by simpa using hlt,?_⟩;rw[HQ.o];show ((e.aP.take k).any λy=>decide ((x1,x2)=y))=true
               rw[kD];have hm:(e.aP.take k)[j]?=J (x1,x2):=by rw[np,aU hjk];exact Np
               exact⟨(x1,x2),bP hm,by simp⟩
              show _=_
              rw[kh.o,rH];simp[dK,dx.o,wj.o,yo.o,Ff.o,IB.o,h9]
             go_wp2_with fail
             go_quiet (fail)
             go_wp2;go_ret;exact⟨by rw[HE.o];rfl,f_ _ (br Nn _)⟩
            subst e1;have EJ:U ((x1,q2)≠(x1,x2)):=λh=>e2 (sT h).2.symm
            have GC:∀w,(binOp .eql 74 (bK #[ae af x1,ae af x2]) (bK #[ae af x1,ae af q2])).run prog w=.ok (aL false) w:=λw=>by rw[Bp];simp[e2]
            have KC:=DV;go_wp2_with fail
            go_quiet (fail)
            go_wp2
            go_roundw
            case rel=>
             refine⟨j+1,by omega,by go_num,br IC _,λm y hm hy=>?_⟩
             rcases fF m j with h1|h1
             ·exact sQ m y h1 hy
             obtain rfl:m=j:=by omega
             rw[Np.o]at hy
             cases hy
             exact EJ
            case measure=>simp[intOf];omega
           have EJ:U ((q1,q2)≠(x1,x2)):=λh=>e1 (sT h).1.symm
           have GC:∀w,(binOp .eql 74 (bK #[ae af x1,ae af x2]) (bK #[ae af q1,ae af q2])).run prog w=.ok (aL false) w:=λw=>by rw[Bp];simp[e1]
           have KC:=DV;go_wp2_with fail
           go_quiet (fail)
           go_wp2
           go_roundw
           case rel=>
            refine⟨j+1,by omega,by go_num,br IC _,λm y hm hy=>?_⟩
            rcases fF m j with h1|h1
            ·exact sQ m y h1 hy
            obtain rfl:m=j:=by omega
            rw[Np.o]at hy
            cases hy
            exact EJ
           case measure=>simp[intOf];omega
          have j1:¬(j:Int)<(k:Int):=by omega
          obtain rfl:j=k:=by omega
          have ah9:U (((e.aP.take j).any λy=>decide (q=y))=false):=by
           show _=_
           rw[jY];intro y hy;obtain⟨m,hm⟩:=r7 hy;rw[np]at hm
           split at hm
           ·rename_i ah_;simpa using sQ.o m y ah_ hm
           cases hm
          go_wp2
          go_roundw
          case rel=>
           refine⟨j+1,by omega,by go_num,Nn,λm y hm hy=>?_⟩
           rcases fF m j with h1|h1
           ·exact eX m y h1 hy
           obtain rfl:m=j:=by omega
           rw[HQ.o]at hy
           cases hy
           exact ah9
          case measure=>simp[intOf];omega
       have k1:¬(k:Int)<(e.aP.length:Int):=by omega
       have wk:U (twice e.aP=false):=by
        show _=_
        unfold twice;rw[jY];intro i hi;simp only[pq]at hi;rw[bq hi];show ¬((e.aP.take i).any λy=>decide (e.aP[i]=y))=true
        rw[eX.o i _ (by omega) (bq hi)];simp
       clear eX hlt hk;go_upto_region 45 with fail
       clear y7 k1;as_aux_lemma=>
        have y8:=HX wx HB 8 _ rfl;go_wp2_with fail
        apply(Uj e.first fa fc wx (HP wx HB).hf eG.1.hf).mono;rintro v w5 ⟨rfl,iU⟩;have sX:U (Below W.heap.size W w5):=HB.trans (iU.mono HB.size);clear iU y8
        cases Nq:twice e.first
        case true=>
         have HE:U (cD na e=6):=by show _=_;rw[kh.o,rH];simp[dK,dx.o,wj.o,yo.o,Ff.o,IB.o,wk.o,Nq]
         go_wp2;go_ret;exact⟨by rw[HE.o];rfl,f_ _ sX⟩
        have Uy:U (twice e.first=false):=Nq;clear Nq;have y9:=HX w5 sX 9 _ rfl;go_wp2_with fail
        apply(Uj e.last la lc w5 (HP w5 sX).hl eG.1.hl).mono;rintro v w6 ⟨rfl,jr⟩;have pS:U (Below W.heap.size W w6):=sX.trans (jr.mono sX.size);clear jr y9
        cases sW:twice e.last
        case true=>
         have HE:U (cD na e=6):=by show _=_;rw[kh.o,rH];simp[dK,dx.o,wj.o,yo.o,Ff.o,IB.o,wk.o,Uy.o,sW]
         go_wp2;go_ret;exact⟨by rw[HE.o];rfl,f_ _ pS⟩
        have ah':U (twice e.last=false):=sW;clear sW;have IE:U (∀c,dK [(uJ e,3),(yn e,3)]=c->cD na e=c):=λc h=>by rw[kh.o,rH];simp only[dK,dx.o,wj.o,yo.o,Ff.o,IB.o,wk.o,Uy.o,ah'.o];exact h
        have y7:=HX w6 pS 7 _ rfl;have y8:=HX w6 pS 8 _ rfl;have y9:=HX w6 pS 9 _ rfl;have s1:=eG.1.hf;have s2:=eG.1.hl
        by_cases u1:e.aP.length=0
        ·have v1:(e.aP.length:Int)=0:=by omega
         by_cases u2:0<e.first.length+e.last.length
         ·have v2:(0:Int)<(e.first.length:Int)+(e.last.length:Int):=by omega
          have HE:U (cD na e=3):=IE 3 (by have a1:uJ e=false:=(by unfold uJ;rw[bV (p:=0<e.aP.length) (by omega)];rfl);have a2:yn e=true:=(by unfold yn;rw[bD u1,bD u2];rfl);simp[dK,a1,a2]);rw[u1]at y7;go_wp2;go_ret;exact⟨by rw[HE.o];rfl,f_ _ pS⟩
         have v2:¬(0:Int)<(e.first.length:Int)+(e.last.length:Int):=by omega
         have HE:U (cD na e=0):=IE 0 (by have a1:uJ e=false:=(by unfold uJ;rw[bV (p:=0<e.aP.length) (by omega)];rfl);have a2:yn e=false:=(by unfold yn;rw[bD u1,bV u2];rfl);simp[dK,a1,a2]);rw[u1]at y7;go_wp2;go_ret;exact⟨by rw[HE.o];rfl,f_ _ pS⟩
        have v1:(0:Int)<(e.aP.length:Int):=by omega
        have v0:¬(e.aP.length:Int)=0:=by omega
        by_cases u2:e.first.length=0
        ·have HE:U (cD na e=3):=IE 3 (by have a1:uJ e=true:=(by unfold uJ;rw[bD (p:=0<e.aP.length) (by omega),bD u2];rfl);simp[dK,a1]);rw[u2]at y8;go_wp2;go_ret;exact⟨by rw[HE.o];rfl,f_ _ pS⟩
        have v2:¬(e.first.length:Int)=0:=by omega
        have HE:U (cD na e=0):=IE 0 (by have a1:uJ e=false:=(by unfold uJ;rw[bV (p:=e.first.length=0) u2,zb]);have a2:yn e=false:=(by unfold yn;rw[bV u1];rfl);simp[dK,a1,a2]);go_wp2;go_ret;exact⟨by rw[HE.o];rfl,f_ _ pS⟩
def js:(prog.info? 29).map (·.size)=J 2:=by kernel_rfl
def uK(n:Int)(w:ak):Calls prog 16 #[ae af n] w λv w'=>v=ax (bK #[ae af n,ae af (-1)])/\Below w.heap.size w w':=by
 go_enter func16,ntmps16
 go_wp2_with fail
 refine dL (mK rfl _ _ _ _ _ _ _ rfl (cj w _) underlying29 rfl js) rfl ?_;exact⟨rfl,aS _ _⟩
def aia(w:ak):Calls prog 18 #[] w λv w'=>v=ax (bK #[ae af 0,ae af (-1)])/\Below w.heap.size w w':=by
 go_enter func18,ntmps18
 go_wp2_with fail
 refine dL (mK rfl _ _ _ _ _ _ _ rfl (cj w _) underlying29 rfl js) rfl ?_;exact⟨rfl,aS _ _⟩
def uL(hn:n≠0)(h:iO c=n):cJ c=(n,-1):=by unfold cJ;rw[aK (by rw[h];exact hn),h]
def aib(h:iO c=0):cJ c=kE [] 0 c.az:=by unfold cJ;rw[aU h]
def aic(h:cD a e≠0):kE a k (e::t)=(cD a e,(k:Int)):=by rw[kE,aK h]
def aid(h:cD a e=0):kE a k (e::t)=kE (a++[e.name]) (k+1) t:=by rw[kE,aU h]
def aie(c:aX)(sa:Option aC)(sc:Nat)(w:ak)(hE:eU w (aj sa c.az.length sc) c.az)(hS:kJ c):Calls prog 6 #[.agg (cR c sa sc)] w λv w'=>v=ax (bK #[ae af ((cJ c).1:Int),ae af (cJ c).2])/\Below w.heap.size w w':=by
 unfold cR;obtain⟨W,hW⟩:∃V,V=(w.alloc (ay (cR c sa sc) 24)).alloc (ay #[ae af 0,ae af 0] 29):=⟨_,rfl⟩;have cx:U (Below w.heap.size w W):=by show Below _ _ _;rw[hW];exact(aS _ _).alloc (by simp) _
 have HX:U (∀V,Below W.heap.size W V->∀(j:Nat) u,((cR c sa sc):Array _)[j]?=J u->V.cell? (ai w.heap.size j I)=J u):=λV hV j u hu=>by
  have:=a8 hV (show W.heap[w.heap.size]?=_ by rw[hW];exact a8 (aS _ _) (cj w _));simp[aH,this,hu]
 have iJ:U (∀V,Below _ W V->V.heap[w.heap.size+1]?=J (ay #[ae af 0,ae af 0] 29 (0,0))):=λV hV=>a8 hV (by rw[hW];have:=cj (w.alloc (ay (cR c sa sc) 24)) (ay #[ae af 0,ae af 0] 29);simpa using this)
 have jS:U (∀V cs,Below W.heap.size W V->Below w.heap.size w (V.setRow (w.heap.size+1) cs)):=λV cs hV=>by
  have b1:=cx.trans (hV.mono cx.size);exact b1.grown (qm ..) b1.size (λj hj=>by cases hj;omega)
 have rG:U (∀V,Below _ W V->eU V _ _):=λV hV=>hE.below (cx.trans (hV.mono cx.size))
 change U _ at hS
 have HB:U (Below W.heap.size W W):=aF _ _;have y0:=HX W (aF _ _) 0 _ rfl;have y1:=HX W (aF _ _) 1 _ rfl;have y2:=HX W (aF _ _) 2 _ rfl;have y3:=HX W (aF _ _) 3 _ rfl;have y4:=HX W (aF _ _) 4 _ rfl;clear hE;go_enter func6,ntmps6
 go_upto_region 1 with fail
 rw[<- hW];clear hW
 by_cases t1:c.closed<0
 ·have HE:U (cJ c=(2,-1)):=uL (ar rfl) (by unfold iO;have q0:(!(within _ 0 1000&&within c.opn 1 1000))=true:=(by unfold within;rw[bV (p:=0<=c.closed) (by omega)];rfl);simp only[dK,q0];rfl);go_wp2_with fail
  apply(uK 2 _).mono;rintro v w1 ⟨rfl,hb1⟩;have bu:U _:=HB.trans (hb1.mono HB.size);clear hb1;go_wp2_with (refine iQ rfl 29 _ _ rfl _ _ rfl rfl 29 _ (iJ _ bu) js rfl (by simp[Value.oneCell']) ?_)
  refine dL (mK rfl _ _ _ _ _ _ _ rfl (kj _ (iJ _ bu)) underlying29 rfl js) rfl ?_;exact⟨by rw[HE.o];rfl,jS _ _ bu⟩
 by_cases t2:1000<c.closed
 ·have HE:U (cJ c=(2,-1)):=uL (ar rfl) (by unfold iO;have q0:(!(within _ 0 1000&&within c.opn 1 1000))=true:=(by unfold within;rw[bV (p:=c.closed<=1000) (by omega)];simp);simp only[dK,q0];rfl);go_wp2_with fail
  apply(uK 2 _).mono;rintro v w1 ⟨rfl,hb1⟩;have bu:U _:=HB.trans (hb1.mono HB.size);clear hb1;go_wp2_with (refine iQ rfl 29 _ _ rfl _ _ rfl rfl 29 _ (iJ _ bu) js rfl (by simp[Value.oneCell']) ?_)
  refine dL (mK rfl _ _ _ _ _ _ _ rfl (kj _ (iJ _ bu)) underlying29 rfl js) rfl ?_;exact⟨by rw[HE.o];rfl,jS _ _ bu⟩
 by_cases t3:c.opn<1
 ·have HE:U (cJ c=(2,-1)):=uL (ar rfl) (by unfold iO;have q0:(!(within c.closed 0 1000&&within _ 1 1000))=true:=(by unfold within;rw[bV (p:=1<=c.opn) (by omega)];simp);simp only[dK,q0];rfl);go_wp2_with fail
  apply(uK 2 _).mono;rintro v w1 ⟨rfl,hb1⟩;have bu:U _:=HB.trans (hb1.mono HB.size);clear hb1;go_wp2_with (refine iQ rfl 29 _ _ rfl _ _ rfl rfl 29 _ (iJ _ bu) js rfl (by simp[Value.oneCell']) ?_)
  refine dL (mK rfl _ _ _ _ _ _ _ rfl (kj _ (iJ _ bu)) underlying29 rfl js) rfl ?_;exact⟨by rw[HE.o];rfl,jS _ _ bu⟩
 by_cases t4:1000<c.opn
 ·have HE:U (cJ c=(2,-1)):=uL (ar rfl) (by unfold iO;have q0:(!(within c.closed 0 1000&&within _ 1 1000))=true:=(by unfold within;rw[bV (p:=c.opn<=1000) (by omega)];simp);simp only[dK,q0];rfl);go_wp2_with fail
  apply(uK 2 _).mono;rintro v w1 ⟨rfl,hb1⟩;have bu:U _:=HB.trans (hb1.mono HB.size);clear hb1;go_wp2_with (refine iQ rfl 29 _ _ rfl _ _ rfl rfl 29 _ (iJ _ bu) js rfl (by simp[Value.oneCell']) ?_)
  refine dL (mK rfl _ _ _ _ _ _ _ rfl (kj _ (iJ _ bu)) underlying29 rfl js) rfl ?_;exact⟨by rw[HE.o];rfl,jS _ _ bu⟩
 by_cases t5:c.cycle<1
 ·have HE:U (cJ c=(2,-1)):=uL (ar rfl) (by unfold iO;have q0:(!(within c.closed 0 1000&&within c.opn 1 1000))=false:=(by unfold within;rw[bD (p:=0<=c.closed) (by omega),bD (p:=c.closed<=1000) (by omega),bD (p:=1<=c.opn) (by omega),bD (p:=c.opn<=1000) (by omega)];rfl);have q1:(!within c.cycle 1 100)=true:=(by unfold within;first|(rw[bV (p:=1<=c.cycle) (by omega)];rfl)|(rw[bV (p:=c.cycle<=100) (by omega)];simp));simp only[dK,q0,q1];rfl);go_wp2_with fail
  apply(uK 2 _).mono;rintro v w1 ⟨rfl,hb1⟩;have bu:U _:=HB.trans (hb1.mono HB.size);clear hb1;go_wp2_with (refine iQ rfl 29 _ _ rfl _ _ rfl rfl 29 _ (iJ _ bu) js rfl (by simp[Value.oneCell']) ?_)
  refine dL (mK rfl _ _ _ _ _ _ _ rfl (kj _ (iJ _ bu)) underlying29 rfl js) rfl ?_;exact⟨by rw[HE.o];rfl,jS _ _ bu⟩
 by_cases t6:100<c.cycle
 ·have HE:U (cJ c=(2,-1)):=uL (ar rfl) (by unfold iO;have q0:(!(within c.closed 0 1000&&within c.opn 1 1000))=false:=(by unfold within;rw[bD (p:=0<=c.closed) (by omega),bD (p:=c.closed<=1000) (by omega),bD (p:=1<=c.opn) (by omega),bD (p:=c.opn<=1000) (by omega)];rfl);have q1:(!within c.cycle 1 100)=true:=(by unfold within;first|(rw[bV (p:=1<=c.cycle) (by omega)];rfl)|(rw[bV (p:=c.cycle<=100) (by omega)];simp));simp only[dK,q0,q1];rfl);go_wp2_with fail
  apply(uK 2 _).mono;rintro v w1 ⟨rfl,hb1⟩;have bu:U _:=HB.trans (hb1.mono HB.size);clear hb1;go_wp2_with (refine iQ rfl 29 _ _ rfl _ _ rfl rfl 29 _ (iJ _ bu) js rfl (by simp[Value.oneCell']) ?_)
  refine dL (mK rfl _ _ _ _ _ _ _ rfl (kj _ (iJ _ bu)) underlying29 rfl js) rfl ?_;exact⟨by rw[HE.o];rfl,jS _ _ bu⟩
 by_cases t7:c.bE<0
 ·have HE:U (cJ c=(2,-1)):=uL (ar rfl) (by unfold iO;have q0:(!(within c.closed 0 1000&&within c.opn 1 1000))=false:=(by unfold within;rw[bD (p:=0<=c.closed) (by omega),bD (p:=c.closed<=1000) (by omega),bD (p:=1<=c.opn) (by omega),bD (p:=c.opn<=1000) (by omega)];rfl);have q1:(!within c.cycle 1 100)=false:=(by unfold within;rw[bD (p:=1<=c.cycle) (by omega),bD (p:=c.cycle<=100) (by omega)];rfl);have q2:(!within c.bE 0 20)=true:=(by unfold within;first|(rw[bV (p:=0<=c.bE) (by omega)];rfl)|(rw[bV (p:=c.bE<=20) (by omega)];simp));simp only[dK,q0,q1,q2];rfl);go_wp2_with fail
  apply(uK 2 _).mono;rintro v w1 ⟨rfl,hb1⟩;have bu:U _:=HB.trans (hb1.mono HB.size);clear hb1;go_wp2_with (refine iQ rfl 29 _ _ rfl _ _ rfl rfl 29 _ (iJ _ bu) js rfl (by simp[Value.oneCell']) ?_)
  refine dL (mK rfl _ _ _ _ _ _ _ rfl (kj _ (iJ _ bu)) underlying29 rfl js) rfl ?_;exact⟨by rw[HE.o];rfl,jS _ _ bu⟩
 by_cases t8:20<c.bE
 ·have HE:U (cJ c=(2,-1)):=uL (ar rfl) (by unfold iO;have q0:(!(within c.closed 0 1000&&within c.opn 1 1000))=false:=(by unfold within;rw[bD (p:=0<=c.closed) (by omega),bD (p:=c.closed<=1000) (by omega),bD (p:=1<=c.opn) (by omega),bD (p:=c.opn<=1000) (by omega)];rfl);have q1:(!within c.cycle 1 100)=false:=(by unfold within;rw[bD (p:=1<=c.cycle) (by omega),bD (p:=c.cycle<=100) (by omega)];rfl);have q2:(!within c.bE 0 20)=true:=(by unfold within;first|(rw[bV (p:=0<=c.bE) (by omega)];rfl)|(rw[bV (p:=c.bE<=20) (by omega)];simp));simp only[dK,q0,q1,q2];rfl);go_wp2_with fail
  apply(uK 2 _).mono;rintro v w1 ⟨rfl,hb1⟩;have bu:U _:=HB.trans (hb1.mono HB.size);clear hb1;go_wp2_with (refine iQ rfl 29 _ _ rfl _ _ rfl rfl 29 _ (iJ _ bu) js rfl (by simp[Value.oneCell']) ?_)
  refine dL (mK rfl _ _ _ _ _ _ _ rfl (kj _ (iJ _ bu)) underlying29 rfl js) rfl ?_;exact⟨by rw[HE.o];rfl,jS _ _ bu⟩
 by_cases t9:8<(c.az.length:Int)
 ·have HE:U (cJ c=(2,-1)):=uL (ar rfl) (by unfold iO;have q0:(!(within c.closed 0 1000&&within c.opn 1 1000))=false:=(by unfold within;rw[bD (p:=0<=c.closed) (by omega),bD (p:=c.closed<=1000) (by omega),bD (p:=1<=c.opn) (by omega),bD (p:=c.opn<=1000) (by omega)];rfl);have q1:(!within c.cycle 1 100)=false:=(by unfold within;rw[bD (p:=1<=c.cycle) (by omega),bD (p:=c.cycle<=100) (by omega)];rfl);have q2:(!within c.bE 0 20)=false:=(by unfold within;rw[bD (p:=0<=c.bE) (by omega),bD (p:=c.bE<=20) (by omega)];rfl);have q3:decide (8<c.az.length)=true:=bD (by omega);simp only[dK,q0,q1,q2,q3];rfl);go_wp2_with fail
  apply(uK 2 _).mono;rintro v w1 ⟨rfl,hb1⟩;have bu:U _:=HB.trans (hb1.mono HB.size);clear hb1;go_wp2_with (refine iQ rfl 29 _ _ rfl _ _ rfl rfl 29 _ (iJ _ bu) js rfl (by simp[Value.oneCell']) ?_)
  refine dL (mK rfl _ _ _ _ _ _ _ rfl (kj _ (iJ _ bu)) underlying29 rfl js) rfl ?_;exact⟨by rw[HE.o];rfl,jS _ _ bu⟩
 by_cases t10:c.opn<c.cycle
 ·have HE:U (cJ c=(3,-1)):=uL (ar rfl) (by unfold iO;have q0:(!(within c.closed 0 1000&&within c.opn 1 1000))=false:=(by unfold within;rw[bD (p:=0<=c.closed) (by omega),bD (p:=c.closed<=1000) (by omega),bD (p:=1<=c.opn) (by omega),bD (p:=c.opn<=1000) (by omega)];rfl);have q1:(!within c.cycle 1 100)=false:=(by unfold within;rw[bD (p:=1<=c.cycle) (by omega),bD (p:=c.cycle<=100) (by omega)];rfl);have q2:(!within c.bE 0 20)=false:=(by unfold within;rw[bD (p:=0<=c.bE) (by omega),bD (p:=c.bE<=20) (by omega)];rfl);have q3:decide (8<c.az.length)=false:=bV (by omega);have q4:decide (c.opn<c.cycle)=true:=bD (by omega);simp only[dK,q0,q1,q2,q3,q4];rfl);go_wp2_with fail
  apply(uK 3 _).mono;rintro v w1 ⟨rfl,hb1⟩;have bu:U _:=HB.trans (hb1.mono HB.size);clear hb1;go_wp2_with (refine iQ rfl 29 _ _ rfl _ _ rfl rfl 29 _ (iJ _ bu) js rfl (by simp[Value.oneCell']) ?_)
  refine dL (mK rfl _ _ _ _ _ _ _ rfl (kj _ (iJ _ bu)) underlying29 rfl js) rfl ?_;exact⟨by rw[HE.o];rfl,jS _ _ bu⟩
 have zG:U (cJ c=kE [] 0 _):=aib (by
  unfold iO;have q0:(!(within c.closed 0 1000&&within c.opn 1 1000))=false:=(by unfold within;rw[bD (p:=0<=c.closed) (by omega),bD (p:=c.closed<=1000) (by omega),bD (p:=1<=c.opn) (by omega),bD (p:=c.opn<=1000) (by omega)];rfl);have q1:(!within c.cycle 1 100)=false:=(by unfold within;rw[bD (p:=1<=c.cycle) (by omega),bD (p:=c.cycle<=100) (by omega)];rfl);have q2:(!within c.bE 0 20)=false:=(by unfold within;rw[bD (p:=0<=c.bE) (by omega),bD (p:=c.bE<=20) (by omega)];rfl);have q3:decide (8<c.az.length)=false:=bV (by omega);have q4:=bV (by omega);simp only[dK,q0,q1,q2,q3,q4];rfl)
 go_upto_region 7 with fail
 clear y0 y1 y2 y3 y4 t1 t2 t3 t4 t5 t6 t7 t8 t9 t10
 go_cut [3] (λi wv=>i=ae af 0/\wv=W)
 case first=>
  go_wp2
  go_meet
  case rel=>exact⟨rfl,rfl⟩
 obtain⟨rfl,rfl⟩:=hcut;rename ak=>W
 go_wp2_with fail
 go_loopw [3,4] (λiv _ wx=>∃(k:Nat),k<=c.az.length/\iv=ae af k/\Below W.heap.size W wx/\cJ c=kE ((c.az.take k).map (·.name)) k (c.az.drop k)) (λiv _ _=>c.az.length-(intOf iv).toNat)
 case atStart=>exact⟨0,bA _,rfl,HB,by rw[zG.o];rfl⟩
 case round=>
  clear HB zG;obtain⟨k,hk,rfl,cN,hno⟩:=hrel;rename ak=>wx
  change U _ at cN hno
  have y4:=HX wx cN 4 _ rfl
  by_cases hlt:k<c.az.length
  ·have k1:(k:Int)<(c.az.length:Int):=by omega
   have k2:k<1000000:=by have:=hS.hn;omega
   obtain⟨e,he⟩:∃e,c.az[k]?=J e:=⟨_,bq hlt⟩;have Fg:U (c.az.drop k=e::c.az.drop (k+1)):=by
    show _=_
    rw[lX hlt];rw[bq hlt]at he
    cases he;rfl
   have lN:U ((c.az.take (k+1)).map (·.name)=(c.az.take k).map (·.name)++[e.name]):=by show _=_;rw[eI,he];simp
   have HC:U _:=ah7 _ sa sc k e wx (rG wx cN) he hS.he hS.hn;clear he;go_wp2_with fail
   refine aO HC.o ?_;rintro v w2 ⟨rfl,hb2⟩;have cB:U _:=cN.trans (hb2.mono cN.size);clear hb2 HC y4;obtain⟨n,hn⟩:∃n,n=cD ((c.az.take k).map (·.name)) e:=⟨_,rfl⟩;rw[<- hn]
   by_cases n0:n=0
   ·have HE:U (cJ c=kE ((c.az.take (k+1)).map (·.name)) (k+1) (c.az.drop (k+1))):=by
     show _=_
     rw[hno.o,Fg.o,aid (by rw[<- hn];exact n0),lN.o]
    subst n0;clear hn;go_wp2
    go_roundw
    case rel=>exact⟨_,by omega,by go_num,cB,HE⟩
    case measure=>simp[intOf];omega
   have HE:U (cJ c=(n,(k:Int))):=by
    show _=_
    rw[hno.o,Fg.o,aic (by rw[<- hn];exact n0),<- hn]
   have n1:(0:Int)<(n:Int):=by omega
   clear hn n0;go_wp2_with (refine iQ rfl 29 _ _ rfl _ _ rfl rfl 29 _ (iJ _ cB) js rfl (by simp[Value.oneCell']) ?_)
   refine dL (mK rfl _ _ (w.heap.size+1) _ _ _ _ rfl (kj _ (iJ _ cB)) underlying29 rfl js) rfl ?_;exact⟨by rw[HE.o],jS _ _ cB⟩
  have k1:¬(k:Int)<(c.az.length:Int):=by omega
  have HE:U (cJ c=(0,-1)):=by show _=_;rw[hno.o,List.drop_of_length_le (by omega)];rfl
  go_wp2_with fail
  apply(aia _).mono;rintro v w1 ⟨rfl,hb1⟩;have bu:U _:=cN.trans (hb1.mono cN.size);clear hb1;go_wp2_with (refine iQ rfl 29 _ _ rfl _ _ rfl rfl 29 _ (iJ _ bu) js rfl (by simp[Value.oneCell']) ?_)
  refine dL (mK rfl _ _ _ _ _ _ _ rfl (kj _ (iJ _ bu)) underlying29 rfl js) rfl ?_;exact⟨by rw[HE.o];rfl,jS _ _ bu⟩
def aif(n:Nat)(h:n<=4096)(h2:153<=n):iy ((aI.new n).bytes.take (aI.new n).size)=[]:=by
 rw[Qx _ (aI.new n).size h2,(Inv.new n h2 h).opens];rfl
section
variable {A:Nat->aC}{F:Nat->Prop}{w0 w w':ak}{c:aX}{kb bc:Nat}{K:aD}{k W:Nat}
def aih(h:eZ F w0 w c kb bc K):Calls prog 83 #[aq (J (ai kb 0 I))] w λe w'=>e=ax (aA (n_ K.on))/\w'=w:=by
 obtain⟨H,bd,rb,bt,lv,bs,h1,-⟩:=h;exact LK h1
def aii(h:eZ F w0 w c kb bc K):Calls prog 75 #[aq (J (ai kb 0 I))] w λe w'=>e=ax (ae af (K.d.now:Int))/\w'=w:=by
 obtain⟨H,bd,rb,bt,lv,bs,h1,-⟩:=h;exact LO h1
def aij(h:eZ F w0 w c kb bc K):Calls prog 77 #[aq (J (ai kb 0 I))] w λe w'=>e=ax (ae af (K.d.fu:Int))/\w'=w:=by
 obtain⟨H,bd,rb,bt,lv,bs,h1,-⟩:=h;exact aec h1
def aik(h:eZ F w0 w c kb bc K):Calls prog 81 #[aq (J (ai kb 0 I))] w λe w'=>e=ax (aA (dE K.t.st))/\w'=w:=by
 obtain⟨H,bd,rb,bt,lv,bs,h1,-⟩:=h;exact aed h1
def IG(hr:er c):bF c (aD.new c (aI.new 4096)) 0 (144*(aD.new c (aI.new 4096)).d.now):=by
 show bF c _ 0 0
 exact bF.new hr (Inv.new 4096 (ar rfl) (ar rfl)).big (bA _) rfl
end
def ail(x y:Int)(W:ak):(Instr.field 29 (bK #[ae af x,ae af y]) 0).run prog W=.ok (ae af x) W:=by kernel_rfl
structure Fh(A:Nat->aC)(w0:ak)(c:aX)(sa:Option aC)(sc:Nat):Prop where
 sk:fI A w0
 six:dG A w0
 kw:jN w0
 tab:iR w0
 mx:pR w0
 IH:vF w0
 gb:(max 8 11+1)<=w0.heap.size
 az:eU w0 (aj sa c.az.length sc) c.az
 small:kJ c
 ok:(cJ c).1=0
 rt:er c
structure jt(A:Nat->aC)(F:Nat->Prop)(w0 w:ak)(c:aX)(kb bc:Nat)(sa:Option aC)(sc pb:Nat)(K:aD)(k:Nat)(nv:aw)(ns:List Int):Prop where
 ctx:Fh A w0 c sa sc
 at':eZ F w0 w c kb bc K
 fit:bF c K k (144*K.d.now)
 lb:K.LB
 box:w.heap[pb]?=J (ay (fN c kb bc (aj sa c.az.length sc)) 101 (0,0))
 nums:bw bT 1 w nv ns
 pos:∀n∈ns,0<=n/\n<1000000000000000000
 hk:k<1000
 fb:¬F pb
 fn:∀g,nv.ownBlock=J g->¬F g
def dI(A:Nat->aC)(F:Nat->Prop)(w0 w:ak)(c:aX)(kb bc:Nat)(p:aD×Bs×Nat)(e:Ending)(w':ak):Prop:=e=ax (bn #[aA ⟨p.2.1.toArray⟩,errVal A p.2.2])/\dh F w0 w c kb bc p.1 w'
section
variable {A:Nat->aC}{F:Nat->Prop}{w0 w w' V:ak}{c:aX}{kb bc:Nat}{sa:Option aC}{sc pb:Nat}{K:aD}{k:Nat}{nv:aw}{ns:List Int}
def dh.cell{K:aD}{a:aC}{u:aw}(h:dh F w0 w c kb bc K w')(hc:w.cell? a=J u)(hf:¬F a.block):w'.cell? a=J u:=by
 have h1:=h.2.block _ (jf hc) hf;simp only[aH,h1]at hc⊢;exact hc
def Nr(x:ByteArray):(⟨(bl x).toArray⟩:ByteArray)=x:=by unfold bl;rw[Array.toArray_toList]
def jt.cell(h:jt A F w0 w c kb bc sa sc pb K k nv ns)(j:Nat)(u:aw)(hu:(fN c kb bc (aj sa c.az.length sc))[j]?=J u):w.cell? (ai pb j I)=J u:=by simp[aH,h.box,hu]
def jt.to(h:jt A F w0 w c kb bc sa sc pb K k nv ns)(hb:Below w.heap.size w V):eZ F w0 V c kb bc K:=h.at'.below hb
def jt.tab(h:jt A F w0 w c kb bc sa sc pb K k nv ns)(hb:Below w.heap.size w V):iR V/\(max 8 11+1)<=V.heap.size:=by
 have h1:=h.at'.aY.trans (hb.mono h.at'.aY.size);exact⟨h.ctx.tab.below h1 h.ctx.gb,bp h.ctx.gb h1.size⟩
def dI.read{p:Bs}(h:jt A F w0 w c kb bc sa sc pb K k nv ns)(hb:Below w.heap.size w w'):dI A F w0 w c kb bc (K,p,0) (ax (bn #[aA ⟨p.toArray⟩,.nilIface])) w':=⟨rfl,(dh.same h.at').below hb⟩
def jt.one(h:jt A F w0 w c kb bc sa sc pb K k nv ns)(h1:ns.length=1):∃g o cap n,nv=aj (J (ai g o I)) 1 cap/\ns=[n]/\w.cell? (ai g o I)=J (ae af n)/\0<=n/\n<1000000000000000000/\¬F g:=by
 match ns,h1,h.nums,h.pos with
 |[n],_,hv,hp=>
  have hf:=h.fn;obtain⟨bQ,cap,rfl,h2,h3⟩:=hv;obtain⟨b,o,rfl,h4⟩:=h3 (by simp);exact⟨b,o,cap,n,rfl,rfl,by simpa using h4 0 n rfl 0 _ rfl,(hp n (by simp)).1,(hp n (by simp)).2,hf b rfl⟩
def jt.two(h:jt A F w0 w c kb bc sa sc pb K k nv ns)(h1:ns.length=2):∃g o cap n m,nv=aj (J (ai g o I)) 2 cap/\ns=[n,m]/\w.cell? (ai g o I)=J (ae af n)/\w.cell? ⟨g,o+1,I⟩=J (ae af m)/\¬F g:=by
 match ns,h1,h.nums with
 |[n,m],_,hv=>
  have hf:=h.fn;obtain⟨bQ,cap,rfl,h2,h3⟩:=hv;obtain⟨b,o,rfl,h4⟩:=h3 (by simp);exact⟨b,o,cap,n,m,rfl,rfl,by simpa using h4 0 n rfl 0 _ rfl,by simpa using h4 1 m rfl 0 _ rfl,hf b rfl⟩
def aim(h:jt A F w0 w c kb bc sa sc pb K k nv ns)(hl:ns.length=1):Calls prog 60 #[nv,aq (J (ai pb 0 I))] w λe w'=>dI A F w0 w c kb bc (K.cW c ns 0) e w':=by
 obtain⟨g,o,cap,n,rfl,rfl,n0,p0,p1,td⟩:=h.one hl;have x0:=h.cell 0 _ rfl;have lK:=h.fb;have HX:U (∀V,Below _ w V->Calls _ 62 _ V λe w'=>e=ax _/\dh F w0 w c kb bc _ w'):=λV hV=>aO (aef n (h.to hV) h.ctx.sk h.ctx.rt) (λe w' he=>⟨he.1,he.2.from hV⟩)
 have HD:U (∀V:ak,Calls _ 61 _ V λe w'=>e=ax (bn #[aA _,errVal A (K.begin n).2])/\w'=V):=λV=>BV A _ V
 have HE:U (K.cW c [n] 0=((K.begin n).1,ua (K.begin n).2,(K.begin n).2)):=rfl;generalize K.begin n=Kn at HX HD HE;obtain⟨K',j⟩:=Kn;go_enter func60,ntmps60
 go_upto_region 1 with fail
 go_region_held3 (λw'=>w'.cell? (ai pb 0 I)=J (aq (J (ai kb 0 I)))/\w'.cell? (ai g o I)=J (ae af n)) (first|exact⟨x0,n0⟩|exact⟨wm,tj⟩) (first|(go_at_call 62;refine aO (HX.o _ (br (aF _ _) _)) ?_;rintro e W1 ⟨rfl,hp⟩;have wm:=hp.cell x0 lK;have tj:=hp.cell n0 td)|(go_at_call 61;refine aO (HD.o _) ?_;rintro e W2 ⟨rfl,rfl⟩))
 all_goals go_wp2
 all_goals go_ret2
 all_goals (show dI _ _ _ _ _ _ _ _ _ _;rw[HE.o];exact⟨rfl,hp⟩)
def ain(h:jt A F w0 w c kb bc sa sc pb K k nv ns)(hl:ns.length=1):Calls prog 63 #[nv,aq (J (ai pb 0 I))] w λe w'=>dI A F w0 w c kb bc (K.cW c ns 1) e w':=by
 obtain⟨g,o,cap,n,rfl,rfl,n0,p0,p1,td⟩:=h.one hl;have x0:=h.cell 0 _ rfl;have lK:=h.fb;have HX:U (∀V,Below _ w V->Calls _ 64 _ V λe w'=>e=ax _/\dh F w0 w c kb bc _ w'):=λV hV=>aO (aeh n (h.to hV) h.ctx.sk h.ctx.rt) (λe w' he=>⟨he.1,he.2.from hV⟩)
 have HD:U (∀V:ak,Calls _ 61 _ V λe w'=>e=ax (bn #[aA _,errVal A (K.stop n).2])/\w'=V):=λV=>BV A _ V
 have HE:U (K.cW c [n] 1=((K.stop n).1,ua (K.stop n).2,(K.stop n).2)):=rfl;generalize K.stop n=Kn at HX HD HE;obtain⟨K',j⟩:=Kn;go_enter func63,ntmps63
 go_upto_region 1 with fail
 go_region_held3 (λw'=>w'.cell? (ai pb 0 I)=J (aq (J (ai kb 0 I)))/\w'.cell? (ai g o I)=J (ae af n)) (first|exact⟨x0,n0⟩|exact⟨wm,tj⟩) (first|(go_at_call 64;refine aO (HX.o _ (br (aF _ _) _)) ?_;rintro e W1 ⟨rfl,hp⟩;have wm:=hp.cell x0 lK;have tj:=hp.cell n0 td)|(go_at_call 61;refine aO (HD.o _) ?_;rintro e W2 ⟨rfl,rfl⟩))
 all_goals go_wp2
 all_goals go_ret2
 all_goals (show dI _ _ _ _ _ _ _ _ _ _;rw[HE.o];exact⟨rfl,hp⟩)
def aio(h:jt A F w0 w c kb bc sa sc pb K k nv ns)(hl:ns.length=2):Calls prog 65 #[nv,aq (J (ai pb 0 I))] w λe w'=>dI A F w0 w c kb bc (K.cW c ns 2) e w':=by
 obtain⟨g,o,cap,n,m,rfl,rfl,n0,n1,td⟩:=h.two hl;have x0:=h.cell 0 _ rfl;have lK:=h.fb;have HX:U (∀V,Below _ w V->Calls _ 66 _ V λe w'=>e=ax _/\dh F w0 w c kb bc _ w'):=λV hV=>aO (aej n m (h.to hV) h.ctx.sk h.ctx.rt h.fit h.hk) (λe w' he=>⟨he.1,he.2.from hV⟩)
 have HD:U (∀V:ak,Calls _ 61 _ V λe w'=>e=ax (bn #[aA _,errVal A (K.report c n m).2])/\w'=V):=λV=>BV A _ V
 have HE:U (K.cW c [n,m] 2=((K.report c n m).1,ua (K.report c n m).2,(K.report c n m).2)):=rfl;generalize K.report c n m=Kn at HX HD HE;obtain⟨K',j⟩:=Kn;go_enter func65,ntmps65
 go_upto_region 1 with fail
 go_region_held3 (λw'=>w'.cell? (ai pb 0 I)=J (aq (J (ai kb 0 I)))/\w'.cell? (ai g o I)=J (ae af n)/\w'.cell? ⟨g,o+1,I⟩=J (ae af m)) (first|exact⟨x0,n0,n1⟩|exact⟨wm,tj,aip⟩) (first|(go_at_call 66;refine aO (HX.o _ (br (aF _ _) _)) ?_;rintro e W1 ⟨rfl,hp⟩;have wm:=hp.cell x0 lK;have tj:=hp.cell n0 td;have aip:=hp.cell n1 td)|(go_at_call 61;refine aO (HD.o _) ?_;rintro e W2 ⟨rfl,rfl⟩))
 all_goals go_wp2
 all_goals go_ret2
 all_goals (show dI _ _ _ _ _ _ _ _ _ _;rw[HE.o];exact⟨rfl,hp⟩)
def aiq(h:jt A F w0 w c kb bc sa sc pb K k nv ns)(hl:ns.length=1)(hn:k+K.d.now+1+(ns.getD 0 0).toNat<=900000):Calls prog 67 #[nv,aq (J (ai pb 0 I))] w λe w'=>dI A F w0 w c kb bc (K.cW c ns 3) e w':=by
 obtain⟨g,o,cap,n,rfl,rfl,n0,p0,p1,td⟩:=h.one hl;obtain⟨N,rfl⟩:∃N:Nat,n=(N:Int):=⟨n.toNat,by omega⟩;have hN:N<=900000:=by have:=hn;simp at this;omega
 have x0:=h.cell 0 _ rfl;have x1:=h.cell 1 _ rfl;have x2:=h.cell 2 _ rfl;have x3:=h.cell 3 _ rfl;have x4:=h.cell 4 _ rfl;have x5:=h.cell 5 _ rfl;have x6:=h.cell 6 _ rfl;have lK:=h.fb;have HX:U (∀V,Below _ w V->Calls _ 68 #[.agg (fN c kb bc (aj sa c.az.length sc)),ae af _] V λe w'=>e=ax _/\dh F w0 w c kb bc _ w'):=λV hV=>aO (aeV N _ (h.to hV) h.ctx.sk h.ctx.rt h.fit (by have:=hn;simp at this;omega)) (λe w' he=>⟨he.1,he.2.from hV⟩)
 have HD:U (∀V:ak,Calls _ 61 _ V λe w'=>e=ax (bn #[aA _,errVal A (K.dM c N).2])/\w'=V):=λV=>BV A _ V
 have HE:U (K.cW c [(N:Int)] 3=((K.dM c N).1,ua (K.dM c N).2,(K.dM c N).2)):=rfl;generalize K.dM c N=Kn at HX HD HE;obtain⟨K',j⟩:=Kn;unfold fN at HX;go_enter func67,ntmps67
 go_upto_region 1 with fail
 go_region_held3 (λw'=>w'.cell? (ai pb 0 I)=J (aq (J (ai kb 0 I)))/\w'.cell? (ai pb 1 I)=J (aq (J (ai bc 0 I)))/\w'.cell? (ai pb 2 I)=J (ae af c.closed)/\w'.cell? (ai pb 3 I)=J (ae af c.opn)/\w'.cell? (ai pb 4 I)=J (ae af c.cycle)/\w'.cell? (ai pb 5 I)=J (ae af c.bE)/\w'.cell? (ai pb 6 I)=J (aj sa c.az.length sc)/\w'.cell? (ai g o I)=J (ae af (N:Int))) (first|exact⟨x0,x1,x2,x3,x4,x5,x6,n0⟩|exact⟨wm,Ns,air,ais,ait,aiu,aiv,tj⟩) (first|(go_at_call 68;refine aO (HX.o _ (br (aF _ _) _)) ?_;rintro e W1 ⟨rfl,hp⟩;have wm:=hp.cell x0 lK;have Ns:=hp.cell x1 lK;have air:=hp.cell x2 lK;have ais:=hp.cell x3 lK;have ait:=hp.cell x4 lK;have aiu:=hp.cell x5 lK;have aiv:=hp.cell x6 lK;have tj:=hp.cell n0 td)|(go_at_call 61;refine aO (HD.o _) ?_;rintro e W2 ⟨rfl,rfl⟩))
 all_goals go_wp2
 all_goals go_ret2
 all_goals (show dI _ _ _ _ _ _ _ _ _ _;rw[HE.o];exact⟨rfl,hp⟩)
def aiw(h:jt A F w0 w c kb bc sa sc pb K k nv ns)(hl:ns.length=1):Calls prog 69 #[nv,aq (J (ai pb 0 I))] w λe w'=>dI A F w0 w c kb bc (K.cW c ns 4) e w':=by
 obtain⟨g,o,cap,n,rfl,rfl,n0,p0,p1,td⟩:=h.one hl;have x1:=h.cell 1 _ rfl;have lK:=h.fb;have HX:U (∀V,Below _ w V->Calls _ 70 _ V λe w'=>e=ax _/\dh F w0 w c kb bc _ w'):=λV hV=>aO (aeL n (h.to hV) h.ctx.sk) (λe w' he=>⟨he.1,he.2.from hV⟩)
 have HD:U (∀V:ak,Calls _ 61 _ V λe w'=>e=ax (bn #[aA _,errVal A (K.cut n).2])/\w'=V):=λV=>BV A _ V
 have HE:U (K.cW c [n] 4=((K.cut n).1,ua (K.cut n).2,(K.cut n).2)):=rfl;generalize K.cut n=Kn at HX HD HE;obtain⟨K',j⟩:=Kn;go_enter func69,ntmps69
 go_upto_region 1 with fail
 go_region_held3 (λw'=>w'.cell? (ai pb 1 I)=J (aq (J (ai bc 0 I)))/\w'.cell? (ai g o I)=J (ae af n)) (first|exact⟨x1,n0⟩|exact⟨Ns,tj⟩) (first|(go_at_call 70;refine aO (HX.o _ (br (aF _ _) _)) ?_;rintro e W1 ⟨rfl,hp⟩;have Ns:=hp.cell x1 lK;have tj:=hp.cell n0 td)|(go_at_call 61;refine aO (HD.o _) ?_;rintro e W2 ⟨rfl,rfl⟩))
 all_goals go_wp2
 all_goals go_ret2
 all_goals (show dI _ _ _ _ _ _ _ _ _ _;rw[HE.o];exact⟨rfl,hp⟩)
def aix(h:jt A F w0 w c kb bc sa sc pb K k nv ns):Calls prog 71 #[nv,aq (J (ai pb 0 I))] w λe w'=>dI A F w0 w c kb bc (K.cW c ns 5) e w':=by
 have x0:=h.cell 0 _ rfl;have HX:U _:=aeS h.at' h.ctx.sk h.ctx.rt h.fit;have HD:U (∀V:ak,Calls _ 61 _ V λe w'=>e=ax (bn #[aA _,errVal A (K.fD c).2])/\w'=V):=λV=>BV A _ V
 have HE:U (K.cW c ns 5=((K.fD c).1,ua _,(K.fD c).2)):=rfl;generalize K.fD c=Kn at HX HD HE;obtain⟨K',j⟩:=Kn;go_enter func71,ntmps71
 go_wp2_with fail
 refine aO HX.o ?_;rintro e w1 ⟨rfl,hp⟩;have aiy:U _:=HD w1;change U _ at hp
 go_wp2_with fail
 refine aO aiy.o ?_;rintro e wr ⟨rfl,rfl⟩;go_wp2;go_ret2
 show dI _ _ _ _ _ _ _ _ _ _
 rw[HE.o];exact⟨rfl,hp⟩
def aiz(h:jt A F w0 w c kb bc sa sc pb K k nv ns):Calls prog 73 #[nv,aq (J (ai pb 0 I))] w λe w'=>dI A F w0 w c kb bc (K.cW c ns 6) e w':=by
 have x0:=h.cell 0 _ rfl;have HX:U _:=aii h.at';have HI:U _:=LR (K.d.now:Int) (by omega) (by have:=h.fit.now;omega) w (h.tab (aF _ _)).1;have HE:U (K.cW c ns 6=(K,num _,0)):=rfl;have HR:U (∀V,Below _ w V->dI A F w0 w c kb bc _ (ax (bn #[aA ⟨(num K.d.now).toArray⟩,.nilIface])) V):=λV hV=>dI.read h hV
 generalize num (K.d.now:Int)=tx at HI HE HR;go_enter func73,ntmps73
 go_wp2_with fail
 refine aO HX.o ?_;rintro e wr ⟨rfl,rfl⟩;go_wp2_with fail
 refine aO HI.o ?_;rintro e w1 ⟨rfl,hb⟩;go_wp2;go_ret2
 show dI _ _ _ _ _ _ _ _ _ _
 rw[HE.o];exact HR _ hb
def aiA(h:jt A F w0 w c kb bc sa sc pb K k nv ns):Calls prog 76 #[nv,aq (J (ai pb 0 I))] w λe w'=>dI A F w0 w c kb bc (K.cW c ns 7) e w':=by
 have x0:=h.cell 0 _ rfl;have HX:U _:=aij h.at';have HI:U _:=LR (K.d.fu:Int) (by omega) (by have:=h.fit.now;have:=h.fit.win;omega) w (h.tab (aF _ _)).1;have HE:U (K.cW c ns 7=(K,num _,0)):=rfl;have HR:U (∀V,Below _ w V->dI A F w0 w c kb bc _ (ax (bn #[aA ⟨(num K.d.fu).toArray⟩,.nilIface])) V):=λV hV=>dI.read h hV
 generalize num (K.d.fu:Int)=tx at HI HE HR;go_enter func76,ntmps76
 go_wp2_with fail
 refine aO HX.o ?_;rintro e wr ⟨rfl,rfl⟩;go_wp2_with fail
 refine aO HI.o ?_;rintro e w1 ⟨rfl,hb⟩;go_wp2;go_ret2
 show dI _ _ _ _ _ _ _ _ _ _
 rw[HE.o];exact HR _ hb
def aiB(h:jt A F w0 w c kb bc sa sc pb K k nv ns)(hl:ns.length=1):Calls prog 78 #[nv,aq (J (ai pb 0 I))] w λe w'=>dI A F w0 w c kb bc (K.cW c ns 8) e w':=by
 obtain⟨g,o,cap,n,rfl,rfl,n0,p0,p1,td⟩:=h.one hl;obtain⟨N,rfl⟩:∃N:Nat,n=(N:Int):=⟨n.toNat,by omega⟩;have x0:=h.cell 0 _ rfl;obtain⟨tx,j,HE,HX⟩:∃(tx:ByteArray) (j:Nat),U (K.cW c [(N:Int)] 8=(K,bl tx,j))/\U (∀V,Below w.heap.size w V->Calls prog 79 #[aq (J (ai kb 0 I)),ae af (N:Int)] V λe w'=>e=ax (bn #[aA tx,errVal A j])/\Below V.heap.size V w'):=by
  cases hs:K.ls[N]? with
  |none=>exact⟨_,5,by show aD.cW c K _ 8=_;unfold aD.cW;simp[hs,bl],λV hV=>aem _ (h.to hV) h.ctx.sk (aN (by have:=ET.1 hs;omega))⟩
  |some s=>exact⟨_,0,by show aD.cW c K _ 8=_;unfold aD.cW;simp[hs],λV hV=>aO (aen N (h.to hV) hs) (λe w' he=>⟨he.1,he.2▸aF _ _⟩)⟩
 have HR:U (∀V,Below _ w V->dI A F w0 w c kb bc (K,bl tx,j) (ax (bn #[aA tx,errVal A j])) V):=λV hV=>⟨by rw[Nr],(dh.same h.at').below hV⟩
 go_enter func78,ntmps78
 go_upto_region 1 with fail
 go_region_held3 (λw'=>w'.cell? (ai pb 0 I)=J (aq (J (ai kb 0 I)))/\w'.cell? (ai g o I)=J (ae af (N:Int))) (first|exact⟨x0,n0⟩|exact⟨wm,tj⟩) (first|(go_at_call 79;refine aO (HX.o _ (br (aF _ _) _)) ?_;rintro e W1 ⟨rfl,hb⟩;have wm:=aJ hb x0;have tj:=aJ hb n0))
 all_goals go_wp2
 all_goals go_ret2
 all_goals (show dI _ _ _ _ _ _ _ _ _ _;rw[HE.o];exact HR _ ((br (aF _ _) _).trans hb))
def aiC(h:jt A F w0 w c kb bc sa sc pb K k nv ns):Calls prog 80 #[nv,aq (J (ai pb 0 I))] w λe w'=>dI A F w0 w c kb bc (K.cW c ns 9) e w':=by
 have x0:=h.cell 0 _ rfl;have HX:U _:=aik h.at';have HE:U (K.cW c ns 9=(K,bl _,0)):=rfl;have HR:U (dI A F w0 w c kb bc (K,bl (dE K.t.st),0) (ax (bn #[aA (dE K.t.st),.nilIface])) w):=by
  have:=dI.read (p:=bl (dE K.t.st)) h (aF _ w);rw[Nr]at this;exact this
 generalize dE K.t.st=tx at HX HE HR;go_enter func80,ntmps80
 go_wp2_with fail
 refine aO HX.o ?_;rintro e wr ⟨rfl,rfl⟩;go_wp2;go_ret2
 show dI _ _ _ _ _ _ _ _ _ _
 rw[HE.o];exact HR
def aiD(h:jt A F w0 w c kb bc sa sc pb K k nv ns):Calls prog 82 #[nv,aq (J (ai pb 0 I))] w λe w'=>dI A F w0 w c kb bc (K.cW c ns 10) e w':=by
 have x0:=h.cell 0 _ rfl;have HX:U _:=aih h.at';have HE:U (K.cW c ns 10=(K,bl _,0)):=rfl;have HR:U (dI A F w0 w c kb bc (K,bl (n_ K.on),0) (ax (bn #[aA (n_ K.on),.nilIface])) w):=by
  have:=dI.read (p:=bl (n_ K.on)) h (aF _ w);rw[Nr]at this;exact this
 generalize n_ K.on=tx at HX HE HR;go_enter func82,ntmps82
 go_wp2_with fail
 refine aO HX.o ?_;rintro e wr ⟨rfl,rfl⟩;go_wp2;go_ret2
 show dI _ _ _ _ _ _ _ _ _ _
 rw[HE.o];exact HR
def aiE(h:jt A F w0 w c kb bc sa sc pb K k nv ns):Calls prog 84 #[nv,aq (J (ai pb 0 I))] w λe w'=>dI A F w0 w c kb bc (K.cW c ns 11) e w':=by
 have x0:=h.cell 0 _ rfl;have x1:=h.cell 1 _ rfl;have x2:=h.cell 2 _ rfl;have x3:=h.cell 3 _ rfl;have x4:=h.cell 4 _ rfl;have x5:=h.cell 5 _ rfl;have x6:=h.cell 6 _ rfl;have HX:U _:=aeq (aj sa c.az.length sc) h.at' h.fit.dB h.lb (h.tab (aF _ _)).1 (h.tab (aF _ _)).2;have HE:U (K.cW c ns 11=(K,sx K.L,0)):=rfl;have HR:U (∀V,Below _ w V->dI A F w0 w c kb bc _ (ax (bn #[aA ⟨(sx K.L).toArray⟩,.nilIface])) V):=λV hV=>dI.read h hV
 generalize sx K.L=tx at HX HE HR;unfold fN at HX;go_enter func84,ntmps84
 go_wp2_with fail
 refine aO HX.o ?_;rintro e w1 ⟨rfl,hb⟩;go_wp2;go_ret2
 show dI _ _ _ _ _ _ _ _ _ _
 rw[HE.o];exact HR _ hb
def aiF(h:jt A F w0 w c kb bc sa sc pb K k nv ns):Calls prog 86 #[nv,aq (J (ai pb 0 I))] w λe w'=>dI A F w0 w c kb bc (K.cW c ns 12) e w':=by
 have x0:=h.cell 0 _ rfl;have x1:=h.cell 1 _ rfl;have x2:=h.cell 2 _ rfl;have x3:=h.cell 3 _ rfl;have x4:=h.cell 4 _ rfl;have x5:=h.cell 5 _ rfl;have x6:=h.cell 6 _ rfl;have HX:U _:=aer (aj sa c.az.length sc) h.at' h.fit.dB h.lb (h.tab (aF _ _)).1 (h.tab (aF _ _)).2;have HE:U (K.cW c ns 12=(K,sy K.L,0)):=rfl;have HR:U (∀V,Below _ w V->dI A F w0 w c kb bc _ (ax (bn #[aA ⟨(sy K.L).toArray⟩,.nilIface])) V):=λV hV=>dI.read h hV
 generalize sy K.L=tx at HX HE HR;unfold fN at HX;go_enter func86,ntmps86
 go_wp2_with fail
 refine aO HX.o ?_;rintro e w1 ⟨rfl,hb⟩;go_wp2;go_ret2
 show dI _ _ _ _ _ _ _ _ _ _
 rw[HE.o];exact HR _ hb
def aiG(h:jt A F w0 w c kb bc sa sc pb K k nv ns):Calls prog 88 #[nv,aq (J (ai pb 0 I))] w λe w'=>dI A F w0 w c kb bc (K.cW c ns 13) e w':=by
 have x0:=h.cell 0 _ rfl;have x1:=h.cell 1 _ rfl;have x2:=h.cell 2 _ rfl;have x3:=h.cell 3 _ rfl;have x4:=h.cell 4 _ rfl;have x5:=h.cell 5 _ rfl;have x6:=h.cell 6 _ rfl;have hB:=h.at'.aY;have HX:U _:=ahp (A:=A) (kb:=kb) (bc:=bc) sa sc (h.ctx.six.below hB) (h.ctx.kw.below hB (jf (h.ctx.kw 0 (ar rfl)))) (h.tab (aF _ _)).1 (h.ctx.mx.below hB) (h.tab (aF _ _)).2 (h.ctx.az.below hB) h.ctx.small h.ctx.ok;have HE:U (K.cW c ns 13=(K,pG c,0)):=rfl;have HR:U (∀V,Below _ w V->dI A F w0 w c kb bc _ (ax (bn #[aA ⟨(pG c).toArray⟩,.nilIface])) V):=λV hV=>dI.read h hV
 generalize pG c=tx at HX HE HR;unfold fN at HX;go_enter func88,ntmps88
 go_wp2_with fail
 refine aO HX.o ?_;rintro e w1 ⟨rfl,hb⟩;go_wp2;go_ret2
 show dI _ _ _ _ _ _ _ _ _ _
 rw[HE.o];exact HR _ hb
def aiH(kd:Nat)(jm:kd<14)(h:jt A F w0 w c kb bc sa sc pb K k nv ns)(hl:ns.length=(eH kd).length)(hn:k+K.d.now+1+(if kd=3 then (ns.getD 0 0).toNat else 0)<=900000):Calls prog (uj kd) #[nv,aq (J (ai pb 0 I))] w λe w'=>dI A F w0 w c kb bc (K.cW c ns kd) e w':=by
 match kd,jm with
 |0,_=>exact aim h hl
 |1,_=>exact ain h hl
 |2,_=>exact aio h hl
 |3,_=>exact aiq h hl hn
 |4,_=>exact aiw h hl
 |5,_=>exact aix h
 |6,_=>exact aiz h
 |7,_=>exact aiA h
 |8,_=>exact aiB h hl
 |9,_=>exact aiC h
 |10,_=>exact aiD h
 |11,_=>exact aiE h
 |12,_=>exact aiF h
 |13,_=>exact aiG h
 |n+14,h=>exact absurd h (by omega)
end
def aiI:∀kd,kd<14->∀args w,(callFunc (uj kd) args).run prog w=.ok (.enter (uj kd) args) w:=by
 intro kd jm
 match kd,jm with
 |0,_=>exact enters_of func60 (by kernel_rfl) rfl
 |1,_=>exact enters_of func63 (by kernel_rfl) rfl
 |2,_=>exact enters_of func65 (by kernel_rfl) rfl
 |3,_=>exact enters_of func67 (by kernel_rfl) rfl
 |4,_=>exact enters_of func69 (by kernel_rfl) rfl
 |5,_=>exact enters_of func71 (by kernel_rfl) rfl
 |6,_=>exact enters_of func73 (by kernel_rfl) rfl
 |7,_=>exact enters_of func76 (by kernel_rfl) rfl
 |8,_=>exact enters_of func78 (by kernel_rfl) rfl
 |9,_=>exact enters_of func80 (by kernel_rfl) rfl
 |10,_=>exact enters_of func82 (by kernel_rfl) rfl
 |11,_=>exact enters_of func84 (by kernel_rfl) rfl
 |12,_=>exact enters_of func86 (by kernel_rfl) rfl
 |13,_=>exact enters_of func88 (by kernel_rfl) rfl
 |n+14,h=>exact absurd h (by omega)
def aiJ(w:ak)(b:Nat)(hd:ByteArray)(tl:List ByteArray)(hrow:w.heap[b]?=J (.cells ((hd::tl).map Value.string).toArray 9 (0,0))):∃wa,(∀W:ak,(Instr.slice 37 (.slice (J (ai b 0 I)) (tl.length+1) (tl.length+1)) (J (.int .i64 1)) I I).run prog W=.ok (.slice wa tl.length tl.length) W)/\bw ct 1 w (.slice wa tl.length tl.length) tl:=by
 have hu:prog.underlying 37=J (.slice (prog.elem 37)):=by kernel_rfl
 have hz:∀W,(sizeOf (prog.elem 37)).run prog W=.ok 1 W:=λW=>by kernel_rfl
 refine⟨if tl.length+1=1 then J (ai b 0 I)else J (ai b 1 I),λW=>?_,_,_,rfl,aR _,λhne=>?_⟩
 ·rw[run_slice_l W 37 _ _ _ hu .i64 1 (by omega) (by omega),hz];have ea:(⟨b,0,I⟩:aC).add (1*1)=⟨b,1,I⟩:=by unfold Addr.add;split<;>simp_all
  show Result.ok (Value.slice (if tl.length+1=1 then J _ else Option.map (λx:aC=>x.add (1*1)) _) (tl.length+1-1) (tl.length+1-1)) W=_
  rw[CX,Option.map_some,ea]
 have hl:=sq.2 hne
 refine⟨b,1,by rw[aK (by omega)],λi x hx j u hu=>?_⟩
 cases j with
 |zero=>
  cases hu
  simp only[aH,hrow];have:((hd::tl).map Value.string)[1+i*1+0]?=J (.string x):=by
   rw[show 1+i*1+0=i+1 by omega,qO,List.getElem?_cons_succ,gY,hx];rfl
  simpa using this
 |succ j=>simp[ct]at hu
structure Cw(A:Nat->aC)(F:Nat->Prop)(w0 w:ak)(c:aX)(kb bc:Nat)(sa:Option aC)(sc lo pb mb:Nat)(K:aD)(k:Nat):Prop where
 ctx:Fh A w0 c sa sc
 at':eZ F w0 w c kb bc K
 fit:bF c K k (144*K.d.now)
 lb:K.LB
 cm:vG lo w pb mb (fN c kb bc (aj sa c.az.length sc)) 14
 hk:k<1000
 fb:¬F pb
section
variable {A:Nat->aC}{F:Nat->Prop}{w0 w w' V:ak}{c:aX}{kb bc:Nat}{sa:Option aC}{sc lo pb mb:Nat}{K:aD}{k:Nat}
def Cw.below(h:Cw A F w0 w c kb bc sa sc lo pb mb K k)(hb:Below w.heap.size w V):Cw A (λk=>F k/\k<w.heap.size) w0 V c kb bc sa sc lo pb mb K k:=
 ⟨h.ctx,h.at'.trim.below hb,h.fit,h.lb,h.cm.kept (λk _ hk=>hb.block k hk),h.hk,λe=>h.fb e.1⟩
def aiK(l:ByteArray)(h:Cw A F w0 w c kb bc sa sc lo pb mb K k)(hl:l.size<=1000000)(hn:k+K.d.now+1+ik (bl l)<=900000):Calls prog 90 #[.map (J mb),aA l] w λe w'=>dI A F w0 w c kb bc (K.fR c (bl l)) e w':=by
 obtain⟨hd,tl,hsp,hcut,sW⟩:=Uc l ⟨#[32]⟩ rfl;have Uz:=h.at'.aY;have yh:U (Calls prog 118 #[aA l,aA ⟨#[32]⟩] w λe w'=>e=ax (aj (J (ai w.heap.size 0 I)) (tl.length+1) (tl.length+1))/\w'=w.alloc (ay ((hd::tl).map Value.string).toArray 9)):=by
  have:=M0 l ⟨#[32]⟩ w (h.ctx.mx.below Uz) (by omega) (ar rfl);rw[hsp,<- sW]at this;exact this
 have II:U (K.fR c _=K.oh c _/\ik _=zt _):=⟨by unfold aD.fR;rw[hcut],by unfold ik;rw[hcut]⟩;have hsz:∀s∈hd::tl,s.size<=1000000:=λs hs=>by
  have h1:bl s∈eJ 32 (bl l):=by rw[hcut];exact List.mem_map_of_mem (f:=bl) hs
  have h2:=Ip 32 _ _ h1;have h3:(bl s).length=s.size:=by simp[bl]
  have h4:(bl l).length=l.size:=by simp[bl]
  omega
 have aok:tl.length<=1000000:=by
  have h1:=(ER 32 (bl l)).2;rw[hcut]at h1;have h4:(bl l).length=l.size:=by simp[bl]
  simp at h1
  omega
 change U _ at h
 have HN:U (k+K.d.now+1+zt (bl hd::tl.map bl)<=900000):=by show _<=_;rw[<- II.2];exact hn
 have aiL:=hsz hd (nQ ..);clear hsp hcut sW hsz hn Uz hl;go_enter func90,ntmps90
 go_wp2_with fail
 refine aO yh.o ?_;rintro v w1 ⟨rfl,iF⟩;have hb1:Below w.heap.size w w1:=by rw[iF];exact aS _ _
 have hc1:w1.heap[w.heap.size]?=J (ay ((hd::tl).map Value.string).toArray 9 (0,0)):=by rw[iF];exact cj w _
 clear iF yh;have x0:w1.cell? (ai w.heap.size 0 I)=J (aA hd):=by simp[aH,hc1]
 have n1:(0:Int)<(tl.length:Int)+1:=by omega
 have H1:U _:=h.below hb1;change U _ at hb1 hc1
 obtain⟨Nt,Nu⟩:=H1.cm.look hd aiL
 cases hk:gR (bl hd)with
 |none=>
  have UA:=Nt hk;have HE:U (K.fR c (bl l)=(K,[],1)):=by show _=_;rw[II.1,K6 hk]
  have Cn:=λo=>aJ (aS w1 o) (H1.ctx.six.below H1.at'.aY).c0
  clear Nt Nu hk;go_wp2_with fail
  go_region
  all_goals go_wp2
  all_goals go_ret2
  all_goals (show dI _ _ _ _ _ _ _ _ _ _;rw[HE.o];exact⟨rfl,(dh.same h.at').below ((hb1.alloc hb1.size _).trans (br (aF _ _) _))⟩)
 |some kd=>
  obtain⟨v,⟨sv,rfl,ry,dt⟩,UA⟩:=Nu kd hk;obtain⟨da,dc,rfl,LA,-⟩:=id ry;obtain⟨jm,-⟩:=xD hk;obtain⟨wa,bH,BM⟩:=aiJ w1 _ hd tl hc1;obtain⟨w2,hw2⟩:∃X,X=w1.alloc (ay #[aj da (eH kd).length dc,.func (.func (uj kd)) #[] #[aq (J (ai pb 0 I))]] 140):=⟨_,rfl⟩;have hb2:Below w1.heap.size w1 w2:=by rw[hw2];exact aS _ _
  have hr2:w2.heap[w1.heap.size]?=J (ay #[aj da (eH kd).length dc,.func (.func (uj kd)) #[] #[aq (J (ai pb 0 I))]] 140 (0,0)):=by rw[hw2];exact cj w1 _
  have y0:w2.cell? (ai w1.heap.size 0 I)=J (aj da (eH kd).length dc):=by simp[aH,hr2]
  have y1:w2.cell? (ai w1.heap.size 1 I)=J (.func (.func (uj kd)) #[] #[aq (J (ai pb 0 I))]):=by simp[aH,hr2]
  have IJ:=hb1.trans (hb2.mono hb1.size);have Cu:U (∀V,Below w2.heap.size w2 V->Calls prog 143 #[aj wa tl.length tl.length,aj da (eH kd).length dc] V λe w'=>Si A (eH kd) tl V e w'):=λV hV=>by
   have h3:=hb2.trans (hV.mono hb2.size);have h4:=H1.at'.aY.trans (h3.mono H1.at'.aY.size);exact adM A _ tl wa _ da dc V (H1.ctx.tab.below h4 H1.ctx.gb) (H1.ctx.IH.below h4) (bp H1.ctx.gb h4.size) (H1.ctx.six.below h4).c0 (K4 kd) (BM.below h3) (ry.below h3) (by unfold eH;split<;>simp)
  change U _ at BM
  have HK:U _:=hk;change U _ at jm IJ
  clear Nt Nu hk ry dt LA hb2 hr2;go_upto_region 3 with fail
  rw[<- hw2];clear hw2 UA x0;go_upto_region 5 with fail
  go_region_held3 (λw'=>w'.cell? (ai w1.heap.size 0 I)=J (aj da (eH kd).length dc)) (first|exact y0|exact z0) (first|(go_at_call 143;refine aO (Cu.o _ (br (aF _ _) _)) ?_;rintro e w3 ⟨nv,ev,rfl,hb3,hno,Ah⟩;have z0:=aJ hb3 y0))
  have z1:=aJ hb3 y1;have uI:=IJ.trans (((br (aF _ _) _).trans hb3).mono IJ.size);have fC:U _:=uI
  cases hs:dp (eH kd) (tl.map bl)with
  |none=>
   obtain rfl:=hno hs;have HE:U (K.fR c (bl l)=(K,[],1)):=by show _=_;rw[II.1,K7 HK.o hs]
   rw[show errVal A 1=.iface 357 (aq (J (A 0)))from rfl];clear hs hno Ah hb3 uI y0 y1 z0 z1 Cu bH;go_wp2;go_ret2
   show dI _ _ _ _ _ _ _ _ _ _
   rw[HE.o];exact⟨rfl,(dh.same h.at').below fC⟩
  |some ns=>
   obtain⟨rfl,UB,J5⟩:=Ah ns hs;have HE:U (K.fR c (bl l)=K.cW c ns kd):=by show _=_;rw[II.1,xE HK.o hs]
   obtain⟨e1,e2,e3⟩:=KZ _ _ _ (K4 kd) hs;have h3:=h.below uI;have hz:=IJ.size;have HX:U (Calls _ _ _ w3 λe w'=>dI A _ w0 w3 c kb bc _ e w'):=aiH kd jm ⟨h3.ctx,h3.at',h3.fit,h3.lb,h3.cm.box,UB,e3,h3.hk,h3.fb,λg hg e=>by
     have h5:=e.2;have h6:w2.heap.size<=g:=J5 g hg;omega⟩ e1 (by
    have h7:=HN.o
    split
    ·rename_i h8;subst h8;have h9:zt (bl hd::tl.map bl)=(ns.getD 0 0).toNat:=by
      show (if gR _=J 3 then _ else _)=_
      rw[aU HK.o,show dp [5] _=J ns from hs];rfl
     rw[h9]at h7;exact h7
    omega)
   have ux:U (∀e V,dI A (λk=>F k/\k<w.heap.size) w0 w3 c kb bc _ e V->dI A F w0 w c kb bc (K.cW c ns kd) e V):=λe V he=>⟨he.1,(he.2.from uI).mono (λk hk=>hk.1)⟩
   have hen:=aiI kd jm;generalize K.cW c ns kd=p at HX HE ux;clear hs hno Ah hb3 uI y0 y1 z0 Cu bH UB J5 e1 e2 e3 h3 hz;obtain⟨K',tx,j⟩:=p;go_wp2_with fail
   refine aO HX.o ?_;intro e w4 he;have HR:U (dh F w0 w c kb bc K' w4):=(ux _ _ he).2;obtain⟨rfl,-⟩:=he;go_wp2;go_ret2
   show dI _ _ _ _ _ _ _ _ _ _
   rw[HE.o];exact⟨rfl,HR⟩
def aiM(T:Nat->Bs)(l:ByteArray)(h:Cw A F w0 w c kb bc sa sc lo pb mb K k)(hT:∀i,i<11->w0.cell? (A i)=J (aA ⟨(T (i+1)).toArray⟩))(hl:l.size<=1000000)(hn:k+K.d.now+1+ik (bl l)<=900000):Calls prog 38 #[.map (J mb),aA l] w λe w'=>e=ax (aA ⟨(nI T (K.fR c (bl l))).toArray⟩)/\dh F w0 w c kb bc (K.fR c (bl l)).1 w':=by
 have HX:U _:=aiK l h hl hn;have HC:U _:=(K_ h.ctx.rt h.fit (bl l) (by omega)).2.2;change U _ at hT
 generalize K.fR c (bl l)=p at HX HC⊢;obtain⟨K',tx,j⟩:=p
 cases j with
 |zero=>
  rw[show nI T _=tx from rfl];go_enter func38,ntmps38
  go_wp2_with fail
  refine aO HX.o ?_;rintro e w1 ⟨rfl,hp⟩;rw[show errVal A _=.nilIface from rfl];change U _ at hp
  go_wp2;go_ret;exact⟨rfl,hp⟩
 |succ i=>
  rw[show nI T _=T (i+1)from rfl];go_enter func38,ntmps38
  go_wp2_with fail
  refine aO HX.o ?_;rintro e w1 ⟨rfl,hp⟩;rw[show errVal A _=.iface 357 _ from rfl];have hx:=aJ hp.1.aY (hT i (by have h5:=HC.o;omega));obtain⟨Ai,UC⟩:∃a,a=A i:=⟨_,rfl⟩;rw[<- UC]at hx⊢
  have hm:∀W:ak, (method 482 357 _ "Error").run prog W=.ok (351, aq (J Ai)) W:=λW=>rfl
  have hx2:w1.cell? (Ai.add 0)=J (aA ⟨(T (i+1)).toArray⟩):=by rw[Lv];exact hx
  clear UC;change U _ at hp;go_wp2;go_ret;exact⟨rfl,hp⟩
end
open Go.Maps
def aiN{look:lB}(h:(jx look st l).1=0):∃(k:Nat) (hd:Bs) (ws:List Bs) (vs:List Int),k<10/\eJ 32 l=hd::ws/\may st.last k=true/\(jx look st l).2=⟨k,iP st.cfg k ws vs⟩:=by
 unfold jx at h⊢
 cases hc:eJ 32 l with
 |nil=>rw[hc]at h;simp at h
 |cons hd ws=>
  rw[hc]at h;simp only[rR]at h⊢
  cases hk:kindOf hd with
  |none=>rw[hk]at h;simp at h
  |some k=>
   rw[hk]at h;simp only at h⊢
   split at h
   ·simp at h
   rename_i hm;rw[aK hm]
   split at h
   ·rename_i hf;rw[aU hf];exact⟨k,hd,ws,_,(O1 hk).2,rfl,by simpa using hm,rfl⟩
   rename_i hf;exact absurd h hf
def Fi(e:aM):Prop:=e.name.size<=1000000/\∀p∈e.au,p.size<=1000000
def aiO{last:Int}(hk:4<=k)(h:may last k=true):3<=last:=by
 unfold may at h;rw[aK (by omega),aK (by omega)]at h
 split at h
 ·simp at h;omega
 simp at h;omega
def UD{c:UInt8}{hd:Bs}{ws:List Bs}(hc:eJ c l=hd::ws)(hl:l.length<=1000000)(i:Nat):(⟨(ws.getD i []).toArray⟩:ByteArray).size<=1000000:=by
 have:(ws.getD i []).length<=1000000:=by
  rw[fp]
  cases hw:ws[i]? with
  |none=>simp
  |some x=>
   have:=Ip c l x (by rw[hc];exact rO _ (bP hw));simp
   omega
 show (ws.getD i []).toArray.size<=1000000
 simpa using this
def aiP{look:lB}(qM:Ae n st.cfg st.last)(S:∀e∈st.cfg.az,Fi e)(hl:l.length<=1000000)(h:(jx look st l).1=0):Ae (n+1) (jx look st l).2.cfg (jx look st l).2.last/\∀e∈(jx look st l).2.cfg.az,Fi e:=by
 obtain⟨k,hd,ws,vs,ES,hc,hm,e⟩:=aiN h;rw[e];have same:Ae n st.cfg st.last->∀c:aX,c.az=st.cfg.az->(((k:Nat):Int)<=1->st.cfg.az=[])->(k:Int)<=2->Ae (n+1) c k:=λI c hce h0 h2=>
  ⟨λh=>by rw[hce];exact h0 h,λh=>by omega,by rw[hce];have:=qM.len;omega,λe he=>by rw[hce]at he;exact(qM.sz e he).mono (by omega)⟩
 match k,ES with
 |0,_=>exact⟨same qM _ rfl (λ_=>qM.e0 (by simp[may]at hm;omega)) (by simp),S⟩
 |1,_=>exact⟨same qM _ rfl (λ_=>qM.e0 (by simp[may]at hm;omega)) (by simp),S⟩
 |2,_=>exact⟨same qM _ rfl (λh=>by simp at h) (by simp),S⟩
 |3,_=>
  refine⟨⟨λh=>by simp at h,λ_=>by simp[iP],by have:=qM.len;simp[iP];omega,λe he=>?_⟩,λe he=>?_⟩
  ·simp only[iP,qN,g_]at he
   rcases he with he|rfl
   ·exact(qM.sz e he).mono (by omega)
   exact⟨by simp[tF],by simp[tF],by simp[tF],by simp[tF],by simp[tF]⟩
  simp only[iP,qN,g_]at he
  rcases he with he|rfl
  ·exact S e he
  exact⟨UD hc hl 0,λp hp=>by simp[tF]at hp⟩
 |k+4,_=>
  have h3:=aiO (by omega) hm;obtain⟨es,e1,he⟩:∃es e1,st.cfg.az=es++[e1]:=⟨_,_,(List.dropLast_concat_getLast (qM.e3 h3)).symm⟩;have hu:(iP st.cfg (k+4) ws vs).az=es++[px (k+4) ws vs e1]:=by
   show CP _ _=_
   rw[he,CQ]
  have hlen:=qM.len;rw[he]at hlen
  refine⟨⟨λh=>by simp at h;omega,λ_=>by show (iP _ _ ws vs).az≠[];rw[hu];simp,by show (iP _ _ ws vs).az.length<=_;rw[hu];simp at hlen⊢;omega,λe2 Cm=>?_⟩,λe2 Cm=>?_⟩
  ·have Fj:e2∈(iP _ _ ws vs).az:=Cm;rw[hu,qN,g_]at Fj
   rcases Fj with h'|rfl
   ·exact(qM.sz e2 (by rw[he];simp[h'])).mono (by omega)
   exact(qM.sz e1 (by rw[he];simp)).upd
  have Fj:e2∈(iP _ _ ws vs).az:=Cm;rw[hu,qN,g_]at Fj
  rcases Fj with h'|rfl
  ·exact S e2 (by rw[he];simp[h'])
  obtain⟨a,b⟩:=S e1 (by rw[he];simp);unfold px Fi
  split
  ·refine⟨a,λp hp=>?_⟩;simp only[qN,g_]at hp
   rcases hp with hp|rfl
   ·exact b p hp
   exact UD hc hl 0
  all_goals exact⟨a,b⟩
def UE{look:Bs->Option Nat}:∀(fs:List Nat) (ws:List Bs) (nn:Bool),(bB look nn fs ws).1<=5
 |[],[],nn=>by cases nn<;>simp[bB]
 |[],_::_,_=>by simp[bB]
 |_::_,[],_=>by simp[bB]
 |f::fs,w::ws,nn=>by
  unfold bB
  split
  ·simp
  exact UE fs ws _
def aiQ(look:lB)(st:RS)(l:Bs):(jx look st l).1<=5:=by
 unfold jx
 split
 ·simp
 unfold rR
 split
 ·simp
 split
 ·simp
 split
 ·simp
 exact UE ..
def o9.aiR{last:Int}{ev mv:aw}{cells:List aw}(h:o9 B rb w c last ev mv es cells):gp B w ev es:=
 ⟨cells,h.az,λi e he=>by
  obtain⟨x,a,-,d⟩:=h.olds i e he;exact⟨x.p,x.g,x.e,x.f,x.l,a,d⟩⟩
def jJ.toA{last:Int}(h:jJ B rb w c last):∃ev mv cells,o9 B rb w c last ev mv c.az cells:=by
 rcases h with h|⟨L,g,cap,mb,es,e,x,cells,he,h,hL⟩
 ·have h2:=h.toA;rw[<- h.nil]at h2;exact⟨_,_,_,h2⟩
 have h2:=h.toA hL;rw[<- he]at h2;exact⟨_,_,_,h2⟩
def Aj{fn:Func}{p u:Tmp}(h:fn.results=#[.cell p 24,.tmp u])(tmps:Array aw)(w:ak)(g:Nat)(a b c d e:aw)
  (hp:tmps.getD p undef=aq (J (ai g 0 I))) (hg:w.heap[g]?=J (ay #[a,b,c,d,e] 24 (0,0))):(results fn tmps).run prog w=.ok (bn #[bK #[a,b,c,d,e],tmps.getD u undef]) w:=by
 rw[results_cell_tmp h,hp];simp[asAddr,run_loadVar_row w g _ 24 #[a,b,c,d,e] _ _ hg underlying24 rfl qI]
end Go.Proofs.YtgjlihibabmgcaaGreatDoor
