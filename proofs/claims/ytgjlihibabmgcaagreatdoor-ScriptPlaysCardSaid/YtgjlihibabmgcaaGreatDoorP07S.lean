/-
  Several texts as one: CfRSt, CfRPart, CfRPart2, CfRCount, CfREnt, CfRPoint, CfRPoint2, CfRAny, CfRTake, CfRLine, ScConf, KeRnN.
-/
import Derived.Test.YtgjlihibabmgcaaGreatDoorP06S
import Derived.Lib.ReplaceLaws
set_option linter.all false
set_option maxHeartbeats 40000000
set_option maxRecDepth 100000
abbrev lT:=@Go.RowKit.frozen?_alloc_cells
abbrev oA:=@Go.Value.int.inj
abbrev sT.{u,v}:=@Prod.mk.inj.{u,v}
open Go renaming Addr→aC,Value→aw,World→ak
open Go.Addr renaming mk→ai
open Go.Ending renaming returned→ax
open Go.IntKind renaming i64→af
open Go.Obj renaming cells→ay
open Go.RowKit renaming Hid→U
open Go.Value renaming int→ae,ownBlock→dF,pointer→aq,slice→aj,string→aA,tuple→bn
open Go.World renaming cell?→aH,frozen?→bM,setCell→bN
open Option renaming none→I,some→J
open Go.Proofs.Tryz
namespace Go.Proofs.YtgjlihibabmgcaaGreatDoor
open Go.Extern Go.Extern.Stop Go.Maps Go.RowKit Go.Stop
variable{B B' L b cap cap' cl g g' i k mb n rb wb wo:Nat}{T T':TypeId}{c:aX}{e e':aM}{es:List aM}{ev mv v:aw}{l1 l2:Bs->Option Nat}{r:Option Nat}{sa:Option aC}{vs:List Int}{w w':ak}{ws:List ByteArray}{xs:List aw}
structure dN where
 p:aw
 g:aw
 e:aw
 f:aw
 l:aw
variable{x x':dN}
def dN.row(x:dN)(e:aM):Array aw:=nU e x.p x.g x.e x.f x.l
def fT(B:Nat)(w:ak)(e:aM)(x:dN):Prop:=lI B w e x.p x.g x.e x.f x.l
structure zW(L:Nat)(x:dN):Prop where
 p:∀b,x.p.ownBlock=J b->b<L
 g:∀b,x.g.ownBlock=J b->b<L
 e:∀b,x.e.ownBlock=J b->b<L
 f:∀b,x.f.ownBlock=J b->b<L
 l:∀b,x.l.ownBlock=J b->b<L
def zX(h:w.ownsRow B T k v n xs):∀b,v.ownBlock=J b->b<w.heap.size:=λb hb=>(h.lt b hb).2
def fT.agK(h:fT B w e x):zW w.heap.size x:=⟨zX h.hp,zX h.hg,zX h.he,zX h.hf,zX h.hl⟩
def fT.weak(h:fT L w e x)(hB:B<=L):fT B w e x:=by
 have k:∀{T:TypeId} {k n:Nat} {v:aw} {xs:List _},w.ownsRow L T k v n xs->w.ownsRow B T k v n xs:=λh=>by
  obtain⟨h1,h2|⟨g,cap,cur,a,b,c⟩⟩:=h
  ·exact⟨h1,aT h2⟩
  exact⟨h1,aN ⟨g,cap,cur,a,bp hB b,c⟩⟩
 exact⟨k h.hp,k h.hg,k h.he,k h.hf,k h.hl⟩
def ja(h:w.ownsRow B T k v n xs){c:Array aw}{fr:Nat×Nat}(hb:w.heap[b]?=J (ay c T' fr))(hT:T'≠T):v.ownBlock≠J b:=by
 rcases h.2 with⟨rfl,_⟩|⟨g,cap,cur,rfl,_,cM,_⟩
 ·simp[dF]
 intro e;simp only[dF,dJ]at e;subst e;rw[cM]at hb;simp only[dJ,kY]at hb;exact absurd hb.2.1.symm hT
def yb(h:w.ownsRow B T k v n xs){es:Array MapEntry}(hb:w.heap[b]?=J (.map es cl)):v.ownBlock≠J b:=by
 rcases h.2 with⟨rfl,_⟩|⟨g,cap,cur,rfl,_,cM,_⟩
 ·simp[dF]
 intro e;simp only[dF,dJ]at e;subst e;rw[cM]at hb
 cases hb
def mV{k' n':Nat}{v':aw}{xs':List aw}(h:w.ownsRow B T k v n xs)(h':w.ownsRow B' T' k' v' n' xs')(hT:T'≠T):v.ownBlock=I\/v.ownBlock≠v'.ownBlock:=by
 rcases h'.2 with⟨rfl,_⟩|⟨g,cap,cur,rfl,_,cM,_⟩
 ·by_cases e:v.ownBlock=I
  ·exact aT e
  exact aN e
 exact aN (ja h cM hT)
def TR(h:w.ownsRow B T k (aj (J (ai g 0 I)) n cap) n xs)(u:aw):(w.setCell (ai g i I) u).ownsRow B T k (aj (J (ai g 0 I)) n cap) n (xs.set i u):=by
 obtain⟨h1,h2|⟨g',cap',cur,a,b,c,d,e,f,q⟩⟩:=h
 ·cases h2.1
 simp only[mf,dJ,tQ,rh,true_and]at a;obtain⟨rfl,rfl⟩:=a
 refine⟨by rw[AX];exact h1,aN ⟨g,cap,cur.setIfInBounds i u,rfl,b,?_,d,e,by rw[Array.size_setIfInBounds];exact f,?_⟩⟩
 ·simp[bN,cL,c]
 rw[Array.toList_setIfInBounds,List.take_set,q]
def EK(w:ak)(g i:Nat)(u:aw):w.grownBy (w.setCell (ai g i I) u) (J g):=⟨rfl,rfl,rfl,by simp[bN],λk _ hk=>xg _ _ _ _ (λe=>hk (by simp[e]))⟩
def fT.kept(h:fT B w e x)(hg:w.grownBy w' r)(hp:x.p.ownBlock=I\/x.p.ownBlock≠r)(hG:x.g.ownBlock=I\/x.g.ownBlock≠r)(he:x.e.ownBlock=I\/x.e.ownBlock≠r)(hf:x.f.ownBlock=I\/x.f.ownBlock≠r)(hl:x.l.ownBlock=I\/x.l.ownBlock≠r):fT B w' e x:=
 ⟨iH h.hp hg hp,iH h.hg hg hG,iH h.he hg he,iH h.hf hg hf,iH h.hl hg hl⟩
def fT.other(h:fT B w e x)(hg:w.grownBy w' (J b)){c:Array aw}{fr:Nat×Nat}(hb:w.heap[b]?=J (ay c T fr))(h1:T≠9)(h2:T≠73)(h3:T≠74)(h4:T≠3):fT B w' e x:=
 h.kept hg (aN (ja h.hp hb h1)) (aN (ja h.hg hb h2)) (aN (ja h.he hb h3)) (aN (ja h.hf hb h4)) (aN (ja h.hl hb h4))
def fT.mapped(h:fT B w e x)(hg:w.grownBy w' (J b)){es:Array MapEntry}(hb:w.heap[b]?=J (.map es cl)):fT B w' e x:=
 h.kept hg (aN (yb h.hp hb)) (aN (yb h.hg hb)) (aN (yb h.he hb)) (aN (yb h.hf hb)) (aN (yb h.hl hb))
def fT.far(h:fT B w e x)(hL:zW L x)(hr:∀b,r=J b->L<=b)(hg:w.grownBy w' r):fT B w' e x:=by
 have k:∀v:aw,(∀b,v.ownBlock=J b->b<L)->v.ownBlock=I\/v.ownBlock≠r:=λv hv=>by
  cases e:v.ownBlock with
  |none=>exact aT rfl
  |some b=>exact aN (λe2=>by have:=hv b e;have:=hr b e2.symm;omega)
 exact h.kept hg (k _ hL.p) (k _ hL.g) (k _ hL.e) (k _ hL.f) (k _ hL.l)
def agL{a b:Option Nat}(h:a=I\/a≠b):b=I\/b≠a:=by
 rcases h with rfl|h
 ·cases b with
  |none=>exact aT rfl
  |some=>exact aN (by simp)
 exact aN h.symm
def gK(c:aX)(ev:aw)(last:Int)(mv:aw):Array aw:=#[ae af c.closed,ae af c.opn,ae af c.cycle,ae af c.bE,ev,ae af last,mv]
structure oB(B rb:Nat)(w:ak)(c:aX)(last:Int):Prop where
 lo:B<=rb
 nil:c.az=[]
 row:w.heap[rb]?=J (ay (gK c (aj I 0 0) last (.map I)) 218 (0,0))
structure jT(B rb L g cap mb:Nat)(w:ak)(c:aX)(last:Int)(es:List aM)(e:aM)(x:dN)(cells:List aw):Prop where
 lo:B<=rb
 uG:B<=L
 qC:B<=mb
 row:w.heap[rb]?=J (ay (gK c (aj (J (ai g 0 I)) (es.length+1) cap) last (.map (J mb))) 218 (0,0))
 az:w.ownsRow B 58 10 (aj (J (ai g 0 I)) (es.length+1) cap) (es.length+1) (cells++(x.row e).toList)
 o8:cells.length=es.length*10
 olds:∀(i:Nat) e',es[i]?=J e'->∃x',fT B w e' x'/\zW L x'/\∀(j:Nat) u,(x'.row e')[j]?=J u->cells[i*10+j]?=J u
 new:fT L w e x
 fl:x.f.ownBlock=I\/x.f.ownBlock≠x.l.ownBlock
structure dy(B rb L g cap mb:Nat)(w:ak)(c:aX)(last:Int)(es:List aM)(e:aM)(x:dN)(cells:List aw):Prop extends jT B rb L g cap mb w c last es e x cells where
 map:∃D:DataW Unit,w.ownsMap prog 9 (plainElem prog 3) mb e.au.length D/\vS D e.au
def jT.grow{last:Int}{cells:List aw}(h:jT B rb L g cap mb w c last es e x cells):∃cur,w.heap[g]?=J (ay cur 58 (0,0))/\B<=g:=by
 rcases h.az.2 with⟨h1,_⟩|⟨g',cap',cur,a,b,c',_⟩
 ·cases h1
 simp only[mf,dJ,tQ,rh,true_and]at a;obtain⟨rfl,rfl⟩:=a;exact⟨cur,c',b⟩
def jT.pQ{last:Int}{cells:List aw}(h:jT B rb L g cap mb w c last es e x cells){j:Nat}{u:aw}(hu:(x.row e)[j]?=J u):w.cell? ⟨g,es.length*10+j,I⟩=J u/\w.frozen? ⟨g,es.length*10+j,I⟩=false:=by
 obtain⟨cur,hc,-⟩:=h.grow
 refine⟨?_,by simp[bM,hc]⟩;have:=h.az.cells (g:=g) rfl (es.length*10+j) u (by rw[jX (by rw[h.o8];omega),h.o8,yG,qR];exact hu);rw[kM]at this;simpa using this
def jT.below{last:Int}{cells:List aw}(h:jT B rb L g cap mb w c last es e x cells)(hb:Below w.heap.size w w'):jT B rb L g cap mb w' c last es e x cells:=by
 have hg:w.grownBy w' I:=⟨hb.os,hb.tape,hb.output,hb.size,λk hk _=>hb.block k hk⟩;have k:∀v:aw,v.ownBlock=I\/v.ownBlock≠I:=λv=>by by_cases e:v.ownBlock=I;exact aT e;exact aN e
 have kx:∀{B:Nat} {e:aM} {x:dN},fT B w e x->fT B w' e x:=λhx=>hx.kept hg (k _) (k _) (k _) (k _) (k _)
 refine⟨h.lo,h.uG,h.qC,a8 hb h.row,h.az.kept hg (k _),h.o8,λi e' he=>?_,kx h.new,h.fl⟩;obtain⟨x',a,b,d⟩:=h.olds i e' he;exact⟨x',kx a,b,d⟩
def dy.below{last:Int}{cells:List aw}(h:dy B rb L g cap mb w c last es e x cells)(hb:Below w.heap.size w w'):dy B rb L g cap mb w' c last es e x cells:=by
 refine⟨h.tojT.below hb,?_⟩;obtain⟨D,a,b⟩:=h.map;exact⟨D,a.kept (row:=I) ⟨hb.os,hb.tape,hb.output,hb.size,λk hk _=>hb.block k hk⟩ (by simp),b⟩
def jT.mapped{last:Int}{cells:List aw}(h:jT B rb L g cap mb w c last es e x cells)(hg:w.grownBy w' (J b)){ms:Array MapEntry}(hb:w.heap[b]?=J (.map ms cl)):jT B rb L g cap mb w' c last es e x cells:=by
 have hne:rb≠b:=λe2=>by rw[<- e2,h.row]at hb;cases hb
 refine⟨h.lo,h.uG,h.qC,(hg.block rb (bL h.row) (by simpa using hne)).trans h.row,h.az.kept hg (aN (yb h.az hb)),h.o8,λi e' he=>?_,h.new.mapped hg hb,h.fl⟩;obtain⟨x',a,b',d⟩:=h.olds i e' he;exact⟨x',a.mapped hg hb,b',d⟩
def dy.MS{last:Int}{cells:List aw}(h:dy B rb L g cap mb w c last es e x cells)(j:Nat)(u:aw)(hr:(x.row e).toList.set j u=(x'.row e').toList)(hx:fT L w e' x')(Ci:x'.f.ownBlock=I\/x'.f.ownBlock≠x'.l.ownBlock)(agM:e'.au=e.au):dy B rb L g cap mb (w.setCell ⟨g,es.length*10+j,I⟩ u) c last es e' x' cells:=by
 obtain⟨cur,hc,hB⟩:=h.grow;have hg:=EK w g (es.length*10+j) u;have hne:rb≠g:=λe2=>by rw[<- e2,h.row]at hc;simp at hc
 refine⟨⟨h.lo,h.uG,h.qC,(hg.block rb (bL h.row) (by simpa using hne)).trans h.row,?_,h.o8,λi e2 he=>?_,?_,Ci⟩,?_⟩
 ·have:=TR (i:=es.length*10+j) h.az u;rw[CN _ _ (by rw[h.o8];omega),h.o8,yG,hr]at this;exact this
 ·obtain⟨y,a,b,d⟩:=h.olds i e2 he;exact⟨y,a.other hg hc (ar rfl) (ar rfl) (ar rfl) (ar rfl),b,d⟩
 ·exact hx.other hg hc (ar rfl) (ar rfl) (ar rfl) (ar rfl)
 obtain⟨D,⟨es',cl,a1,a2⟩,b⟩:=h.map;rw[<- agM]at a2 b
 refine⟨D,⟨es',cl,(hg.block mb (bL a1) (λe2=>?_)).trans a1,a2⟩,b⟩;simp only[dJ]at e2;rw[e2,hc]at a1
 cases a1
def jT.app{last:Int}{cells:List aw}(h:jT B rb L g cap mb w c last es e x cells)(hgr:w.grownBy w' r)(hL:∀b,r=J b->L<=b)(lH:r≠J rb)(hrg:r≠J g)(j:Nat)(u:aw)(hr:(x.row e).toList.set j u=(x'.row e').toList)(hx:fT L w' e' x')(Ci:x'.f.ownBlock=I\/x'.f.ownBlock≠x'.l.ownBlock)
  (hm:∃D:DataW Unit,w'.ownsMap prog 9 (plainElem prog 3) mb e'.au.length D/\vS D e'.au):dy B rb L g cap mb (w'.setCell ⟨g,es.length*10+j,I⟩ u) c last es e' x' cells:=by
 obtain⟨cur,hc,hB⟩:=h.grow;have hc':=(hgr.block g (bL hc) (λe2=>hrg e2.symm)).trans hc;have hrow:=(hgr.block rb (bL h.row) (λe2=>lH e2.symm)).trans h.row;have TS:=h.az.kept hgr (aN (λe2=>hrg e2.symm));have hg:=EK w' g (es.length*10+j) u;have hne:rb≠g:=λe2=>by rw[<- e2,h.row]at hc;simp at hc
 refine⟨⟨h.lo,h.uG,h.qC,(hg.block rb (bL hrow) (by simpa using hne)).trans hrow,?_,h.o8,λi e2 he=>?_,?_,Ci⟩,?_⟩
 ·have:=TR (i:=es.length*10+j) TS u;rw[CN _ _ (by rw[h.o8];omega),h.o8,yG,hr]at this;exact this
 ·obtain⟨y,a,b,d⟩:=h.olds i e2 he;exact⟨y,(a.far b hL hgr).other hg hc' (ar rfl) (ar rfl) (ar rfl) (ar rfl),b,d⟩
 ·exact hx.other hg hc' (ar rfl) (ar rfl) (ar rfl) (ar rfl)
 obtain⟨D,⟨es',cl,a1,a2⟩,b⟩:=hm
 refine⟨D,⟨es',cl,(hg.block mb (bL a1) (λe2=>?_)).trans a1,a2⟩,b⟩;simp only[dJ]at e2;rw[e2,hc']at a1
 cases a1
def dy.Ij{last:Int}{cells:List aw}(h:dy B rb L g cap mb w c last es e x cells)(hv:w.ownsRow B' T k v n xs)(hgr:w.grownBy w' v.ownBlock):∃D:DataW Unit,w'.ownsMap prog 9 (plainElem prog 3) mb e.au.length D/\vS D e.au:=by
 obtain⟨D,a,b⟩:=h.map;obtain⟨es',cl,a1,a2⟩:=id a;exact⟨D,a.kept hgr (λe2=>yb hv a1 e2.symm),b⟩
def jT.agN{last:Int}{cells:List aw}(h:jT B rb L g cap mb w c last es e x cells)(q:ByteArray)(hm:∃D:DataW Unit,w.ownsMap prog 9 (plainElem prog 3) mb (e.au.length+1) D/\vS D (e.au++[q]))(hgr:w.grownBy w' x.p.ownBlock)(hown:w'.ownsRow L 9 1 (.slice (J (ai g' 0 I)) (e.au.length+1) cap') (e.au.length+1) (e.au.flatMap ct++ct q)):dy B rb L g cap mb (w'.setCell ⟨g,es.length*10+2,I⟩ (.slice (J (ai g' 0 I)) (e.au.length+1) cap')) c last es { e with au:=e.au++[q] } { x with p:=.slice (J (ai g' 0 I)) (e.au.length+1) cap' } cells:=by
 obtain⟨cur,hc,-⟩:=h.grow
 refine h.app hgr (λb hb=>(h.new.hp.lt b hb).1) (ja h.new.hp h.row (ar rfl)) (ja h.new.hp hc (ar rfl)) 2 _ rfl ⟨(by show w'.ownsRow _ _ _ _ _ _;simpa[ji]using hown),iH h.new.hg hgr (mV h.new.hg h.new.hp (ar rfl)),iH h.new.he hgr (mV h.new.he h.new.hp (ar rfl)),iH h.new.hf hgr (mV h.new.hf h.new.hp (ar rfl)),iH h.new.hl hgr (mV h.new.hl h.new.hp (ar rfl))⟩ h.fl ?_;obtain⟨D,a,b⟩:=hm;obtain⟨es',cl,a1,a2⟩:=id a;exact⟨D,by simpa using a.kept hgr (λe2=>yb h.new.hp a1 e2.symm),b⟩
def dy.agO{last:Int}{cells:List aw}(h:dy B rb L g cap mb w c last es e x cells)(q:eT)(hgr:w.grownBy w' x.g.ownBlock)(hown:w'.ownsRow L 73 4 (aj (J (ai g' 0 I)) (e.aV.length+1) cap') (e.aV.length+1) (e.aV.flatMap lF++lF q)):dy B rb L g cap mb (w'.setCell ⟨g,es.length*10+6,I⟩ (aj (J (ai g' 0 I)) (e.aV.length+1) cap')) c last es { e with aV:=e.aV++[q] } { x with g:=(aj (J (ai g' 0 I)) (e.aV.length+1) cap') } cells:=by
 obtain⟨cur,hc,-⟩:=h.grow
 refine h.tojT.app hgr (λb hb=>(h.new.hg.lt b hb).1) (ja h.new.hg h.row (ar rfl)) (ja h.new.hg hc (ar rfl)) 6 _ rfl ⟨(iH h.new.hp hgr (mV h.new.hp h.new.hg (ar rfl))),(by show w'.ownsRow _ _ _ _ _ _;simpa[ji]using hown),(iH h.new.he hgr (mV h.new.he h.new.hg (ar rfl))),(iH h.new.hf hgr (mV h.new.hf h.new.hg (ar rfl))),(iH h.new.hl hgr (mV h.new.hl h.new.hg (ar rfl)))⟩ (h.fl) (h.Ij h.new.hg hgr)
def dy.agP{last:Int}{cells:List aw}(h:dy B rb L g cap mb w c last es e x cells)(q:(Int×Int))(hgr:w.grownBy w' x.e.ownBlock)(hown:w'.ownsRow L 74 2 (aj (J (ai g' 0 I)) (e.aP.length+1) cap') (e.aP.length+1) (e.aP.flatMap kI++kI q)):dy B rb L g cap mb (w'.setCell ⟨g,es.length*10+7,I⟩ (aj (J (ai g' 0 I)) (e.aP.length+1) cap')) c last es { e with aP:=e.aP++[q] } { x with e:=(aj (J (ai g' 0 I)) (e.aP.length+1) cap') } cells:=by
 obtain⟨cur,hc,-⟩:=h.grow
 refine h.tojT.app hgr (λb hb=>(h.new.he.lt b hb).1) (ja h.new.he h.row (ar rfl)) (ja h.new.he hc (ar rfl)) 7 _ rfl ⟨(iH h.new.hp hgr (mV h.new.hp h.new.he (ar rfl))),(iH h.new.hg hgr (mV h.new.hg h.new.he (ar rfl))),(by show w'.ownsRow _ _ _ _ _ _;simpa[ji]using hown),(iH h.new.hf hgr (mV h.new.hf h.new.he (ar rfl))),(iH h.new.hl hgr (mV h.new.hl h.new.he (ar rfl)))⟩ (h.fl) (h.Ij h.new.he hgr)
def dy.agQ{last:Int}{cells:List aw}(h:dy B rb L g cap mb w c last es e x cells)(q:Int)(hgr:w.grownBy w' x.f.ownBlock)(hown:w'.ownsRow L 3 1 (aj (J (ai g' 0 I)) (e.first.length+1) cap') (e.first.length+1) (e.first.flatMap bT++bT q))(hne:∀b,x.l.ownBlock=J b->b≠g'):dy B rb L g cap mb (w'.setCell ⟨g,es.length*10+8,I⟩ (aj (J (ai g' 0 I)) (e.first.length+1) cap')) c last es { e with first:=e.first++[q] } { x with f:=(aj (J (ai g' 0 I)) (e.first.length+1) cap') } cells:=by
 obtain⟨cur,hc,-⟩:=h.grow
 refine h.tojT.app hgr (λb hb=>(h.new.hf.lt b hb).1) (ja h.new.hf h.row (ar rfl)) (ja h.new.hf hc (ar rfl)) 8 _ rfl ⟨(iH h.new.hp hgr (mV h.new.hp h.new.hf (ar rfl))),(iH h.new.hg hgr (mV h.new.hg h.new.hf (ar rfl))),(iH h.new.he hgr (mV h.new.he h.new.hf (ar rfl))),(by show w'.ownsRow _ _ _ _ _ _;simpa[ji]using hown),(iH h.new.hl hgr (agL h.fl))⟩ (aN (λe1=>hne g' e1.symm rfl)) (h.Ij h.new.hf hgr)
def dy.agR{last:Int}{cells:List aw}(h:dy B rb L g cap mb w c last es e x cells)(q:Int)(hgr:w.grownBy w' x.l.ownBlock)(hown:w'.ownsRow L 3 1 (aj (J (ai g' 0 I)) (e.last.length+1) cap') (e.last.length+1) (e.last.flatMap bT++bT q))(hne:∀b,x.f.ownBlock=J b->b≠g'):dy B rb L g cap mb (w'.setCell ⟨g,es.length*10+9,I⟩ (aj (J (ai g' 0 I)) (e.last.length+1) cap')) c last es { e with last:=e.last++[q] } { x with l:=(aj (J (ai g' 0 I)) (e.last.length+1) cap') } cells:=by
 obtain⟨cur,hc,-⟩:=h.grow
 refine h.tojT.app hgr (λb hb=>(h.new.hl.lt b hb).1) (ja h.new.hl h.row (ar rfl)) (ja h.new.hl hc (ar rfl)) 9 _ rfl ⟨(iH h.new.hp hgr (mV h.new.hp h.new.hl (ar rfl))),(iH h.new.hg hgr (mV h.new.hg h.new.hl (ar rfl))),(iH h.new.he hgr (mV h.new.he h.new.hl (ar rfl))),(iH h.new.hf hgr h.fl),(by show w'.ownsRow _ _ _ _ _ _;simpa[ji]using hown)⟩ ((by cases e1:x.f.ownBlock with|none=>exact aT rfl|some b=>exact aN (λe2=>hne b e1 (fg e2)))) (h.Ij h.new.hl hgr)
abbrev Cj (w:World):Obj:=(.cells #[.iface 325 (.pointer (some ⟨w.heap.size,0,none⟩))] 20)
structure jU(w:ak)(sa:Option aC)(ws:List ByteArray)(wb wo:Nat):Prop where
 blk:∃c fr,w.heap[wb]?=J (ay c 9 fr)
 sa:ws≠[]->sa=J ⟨wb,wo,I⟩
 qH:∀(i:Nat) s,ws[i]?=J s->w.cell? ⟨wb,wo+i,I⟩=J (aA s)
 sz:∀s∈ws,s.size<=1000000
 few:ws.length<=1000000
def jU.below(h:jU w sa ws wb wo)(hb:Below w.heap.size w w'):jU w' sa ws wb wo:=by
 obtain⟨c,fr,e⟩:=h.blk;exact⟨⟨c,fr,a8 hb e⟩,h.sa,λi s hs=>aJ hb (h.qH i s hs),h.sz,h.few⟩
def jU.lt(h:jU w sa ws wb wo):wb<w.heap.size:=by
 obtain⟨c,fr,e⟩:=h.blk;exact bL e
def dy.Ck{last:Int}{cells:List aw}(h:dy B rb L g cap mb w c last es e x cells):Ic w rb mb e.au:=⟨by simp[aH,h.row,gK],h.map⟩
def Cl{W W':ak}{tg:List (Nat×Nat)}{us:List aw}(hb:Below w.heap.size w W)(ht:∀t∈tg,w.heap.size<=t.1)(hf:Below W.heap.size (dH W tg us) W'):Below w.heap.size w W':=
 hb.trans ((zU w.heap.size W tg us ht).trans (hf.mono hb.size))
def zY(w:ak)(T:TypeId)(u v:aw):((w.alloc (ay #[u] T)).alloc (ay #[v] T)).cell? ⟨w.heap.size,0,I⟩=J u/\((w.alloc (ay #[u] T)).alloc (ay #[v] T)).cell? ⟨w.heap.size+1,0,I⟩=J v:=by
 constructor
 ·rw[World.cell?_alloc_lt _ _ _ (by simp),dr _ _ _ _ rfl];rfl
 have e:w.heap.size+1=(w.alloc (ay #[u] T)).heap.size:=by simp
 rw[e,dr _ _ _ _ rfl];rfl
def vW(w:ak)(j o:Nat):w.frozen? ⟨w.heap.size+j,o,I⟩=false:=by
 unfold bM;simp only;rw[xe (by omega)]
def Ik{w0 w2 w8:ak}{last:Int}{cells:List aw}{ob:Obj}(h0:Below w0.heap.size w0 w)(h2:Below w.heap.size w w2)(hR:dy w0.heap.size rb L g cap mb w2 c last es e x cells)(aoa:L<=w2.heap.size)(hg:(w2.drew.alloc ob).grownBy w8 r)(hr:∀b,r=J b->L<=b)(i:Nat)(u:aw):Below w0.heap.size w0 (w8.setCell (ai g i I) u):=by
 have b2:=h0.trans (h2.mono h0.size);have b3:=b2.trans (((aF _ w2).drew.alloc (by simp) ob).mono b2.size);obtain⟨cur,-,hB⟩:=hR.grow;exact(b3.grown hg b3.size (λk hk=>bp hR.uG (hr k hk))).setCell (p:=⟨g,i,_⟩) hB u
def TT(w:ak)(z:Int)(T:TypeId):∀(j:Nat) u,([ae af z]:List aw)[j]?=J u->(w.alloc (ay #[ae af z] T)).cell? ((⟨w.heap.size,0,I⟩:aC).add j)=J u:=by
 intro j u hu
 match j,hu with
 |0,hu=>
  simp at hu
  subst hu;rw[kM,dr _ _ _ _ rfl];rfl
 |j+1,hu=>simp at hu
def zZ(h:w.ownsRow B T k v n xs):∃sa c,v=aj sa n c:=by
 rcases h.2 with⟨rfl,rfl⟩|⟨g,cap,cur,rfl,_⟩
 ·exact⟨_,_,rfl⟩
 exact⟨_,_,rfl⟩
def agS(A:Nat->aC)(w0 w:ak)(rb L g cap mb:Nat)(c:aX)(last:Int)(es:List aM)(e:aM)(x:dN)(cells:List aw)(sa:Option aC)(ws:List ByteArray)(wb wo wc:Nat)(hs:dG A w0)(hb0:Below w0.heap.size w0 w)(h:dy w0.heap.size rb L g cap mb w c last es e x cells)(jq:L<=w.heap.size)(hW:jU w sa ws wb wo)(hn:e.first.length<=1000000):Calls prog 250 #[aq (J (ai rb 0 I)),aq (J ⟨g,es.length*10,I⟩),ae af 8,aj sa ws.length wc] w λv w'=>v=ax (cP A (bB (a_ e.au) false [2] (ws.map bl)).1)/\Below w0.heap.size w0 w'/\∃(z:Int) (x':dN),((bB (a_ e.au) false [2] (ws.map bl)).1=0->∀s,ws[0]?=J s->z=(bW (a_ e.au) 2 (bl s)).2)/\dy w0.heap.size rb L g cap mb w' c last es { e with first:=e.first++[z] } x' cells/\L<=w'.heap.size:=by
 obtain⟨i0,hi,hz0,hz1,hz2⟩:=iw Dx;obtain⟨fa,fc,fJ⟩:=zZ h.new.hf;obtain⟨o,ho⟩:∃o,o=es.length*10:=⟨_,rfl⟩;have HS:U (dG A w0/\Below _ w0 w):=⟨hs,hb0⟩;change U _ at h hW fJ jq
 rw[<- ho];clear hs hb0;change U _ at ho;go_enter func250,ntmps250
 go_upto_region 2 with fail
 obtain⟨W1,hW1⟩:∃V,V=(w.alloc (ay #[ae af 0] 164)).alloc (ay #[ae af 0] 164):=⟨_,rfl⟩;rw[<- hW1];have bu:U (Below w.heap.size w W1):=by show Below _ _ _;rw[hW1];exact(aS _ _).alloc (by simp) _
 have iI:U (W1.heap.size=w.heap.size+2):=by show _=_;rw[hW1];simp
 have dx:U (W1.cell? (ai w.heap.size 0 I)=J (ae af 0)/\W1.frozen? (ai w.heap.size 0 I)=false):=by
  refine⟨by rw[hW1];exact(zY w ..).1,?_⟩;rw[hW1,lT,lT];exact vW w 0 0
 have lU:U (o6 w0 rb e.au [2] [(w.heap.size,0)] ws wb wo W1.heap.size (W1.alloc (Cj w))):=by
  have cw:=aS W1 (Cj w);have hlt:=hW.lt;have hz:=iI.o;have lH:=bL h.row;have hsz:=HS.2.size
  refine⟨HS.2.trans ((bu.trans (cw.mono bu.size)).mono hsz),rfl,by simp,by simp,?_,?_,by simp,?_,λi s hi=>aJ cw (aJ bu (hW.qH i s hi)),hW.sz,λ_=>⟨mb,((h.below bu).below cw).Ck⟩⟩
  ·intro i f t hf ht
   match i,hf,ht with
   |0,hf,ht=>
    simp at hf ht
    subst hf ht;exact⟨⟨_,aJ cw dx.1,⟨0,rfl⟩⟩,by rw[pP cw dx.1];exact dx.2⟩
   |i+1,hf,_=>simp at hf
  ·intro t ht;simp only[g_]at ht;subst ht;exact⟨by show w0.heap.size<=w.heap.size;exact hsz,λe2=>by have:=(sT e2).1;omega,by show w.heap.size≠_;omega,by show w.heap.size≠_;omega⟩
  intro i f t hf ht
  match i,hf,ht with
  |0,hf,ht=>
   simp at hf ht
   subst hf ht;rw[dr _ _ _ _ rfl];rfl
  |i+1,hf,_=>simp at hf
 clear hW1;go_wp2_with fail
 apply(uF A w0 _ rb _ [2] _ ws sa wb wo wc _ HS.1 lU hW.sa hW.few).mono;rintro v w2 ⟨rfl,us,jI,gq,gu,eP⟩;obtain⟨u,rfl⟩:∃u,us=[u]:=by
  match us,jI with
  |[u],_=>exact⟨u,rfl⟩
 obtain⟨z,rfl⟩:=gq 0 2 u rfl rfl;have HV:U ((bB (a_ e.au) false [2] (ws.map bl)).1=0->∀s,ws[0]?=J s->z=(bW (a_ e.au) 2 (bl s)).2):=λh0 s hs=>by
  have:=gu h0 0 2 s _ rfl hs rfl;unfold valOf at this;rw[aK (ar rfl)]at this;exact(oA this).2
 have cB:U _:=Cl (bu.trans ((aS _ _).mono bu.size)) (λt ht=>by simp only[g_]at ht;subst ht;exact aR _) eP;have cp:w2.cell? (ai w.heap.size 0 I)=J (ae af z):=by
  have h1:=zS (u:=ae af z) (aJ (aS W1 (Cj w)) dx.1);have h2:=eP.cell (p:=⟨w.heap.size,0,I⟩) (by show w.heap.size<_;have:=iI.o;simp;omega);exact h2.trans h1
 clear jI gq gu eP lU dx;have bZ:U _:=h.below cB;have c8:w2.cell? ⟨g,o+8,I⟩=J (aj fa e.first.length fc):=by rw[ho.o,<- fJ.o];exact(bZ.pQ (j:=8) rfl).1
 have hown:w2.drew.ownsRow L 3 1 (aj fa e.first.length fc) e.first.length (e.first.flatMap bT):=by rw[<- fJ.o];exact bZ.new.hf
 have jP:U _:=bp jq.o cB.size;have vq:=jP.o;have KB:U (∀(ob:Obj) (w8:ak),(w2.drew.alloc ob).grownBy w8 (Value.slice fa e.first.length fc).ownBlock->w8.cell? ⟨g,o+8,I⟩=J (aj fa e.first.length fc)/\w8.frozen? ⟨g,o+8,I⟩=false):=λob w8 hg=>by
  have lr:=bZ.below (w':=w2.drew.alloc ob) ((aF _ w2).drew.alloc (by simp) ob);obtain⟨cur,hc,-⟩:=lr.grow;rw[<- fJ.o]at hg⊢;rw[ho.o];have e1:=(hg.block g (bL hc) (λe2=>ja lr.new.hf hc (ar rfl) e2.symm));have h2:=lr.pQ (j:=8) (u:=x.f) rfl;exact⟨(mH e1).trans h2.1,by have:=h2.2;unfold bM at this⊢;simp only at this⊢;rw[e1];exact this⟩
 have DU:∀ob,(w2.alloc ob).cell? _=J _:=λob=>aJ (aS _ _) c8
 go_wp2_with fail
 go_region_law (refine qX _ rfl _ _ 44 rfl L 3 i0 _ 1 8 underlying44 hi hz0 hz1 hz2 rfl (ar rfl) _ _ _ (by simp[Act.eval]) (hown.alloc _) _ 1 1 _ (by simp[Act.eval]) rfl (TT w2.drew z 3) (zj z) (ar rfl) (by unfold maxLen;omega) (by omega) (by simp;omega) (w2.heap.size+1) (by simp) ?_;intro g' cap' w8 eV cQ cH nA;have r8:=KB _ _ cQ;have d1:=r8.1;have d2:=r8.2)
 all_goals
  go_wp2;go_ret
  refine⟨rfl,?_,z,{ x with f:=aj (J (ai g' 0 I)) (e.first.length+1) cap' },HV,?_,?_⟩
  ·exact Ik HS.2 cB bZ jP (by rw[fJ.o];exact cQ) (λb hb=>(bZ.new.hf.lt b hb).1) _ _
  ·rw[ho.o]
   refine(bZ.below (w':=w2.drew.alloc _) ((aF _ w2).drew.alloc (by simp) _)).agQ z (by rw[fJ.o];exact cQ) eV (λb hb e2=>?_);subst e2
   rcases cH with h1|h1
   ·rw[<- fJ.o]at h1
    rcases bZ.fl with h3|h3
    ·rw[h3]at h1;cases h1
    exact h3 (h1.trans hb.symm)
   have:=zX bZ.new.hl b hb;omega
  have h1:=cQ.size;have h2:=jP.o;simp[bN]at h1⊢
  omega
def agT(A:Nat->aC)(w0 w:ak)(rb L g cap mb:Nat)(c:aX)(last:Int)(es:List aM)(e:aM)(x:dN)(cells:List aw)(sa:Option aC)(ws:List ByteArray)(wb wo wc:Nat)(hs:dG A w0)(hb0:Below w0.heap.size w0 w)(h:dy w0.heap.size rb L g cap mb w c last es e x cells)(jq:L<=w.heap.size)(hW:jU w sa ws wb wo)(hn:e.last.length<=1000000):Calls prog 250 #[aq (J (ai rb 0 I)),aq (J ⟨g,es.length*10,I⟩),ae af 9,aj sa ws.length wc] w λv w'=>v=ax (cP A (bB (a_ e.au) false [2] (ws.map bl)).1)/\Below w0.heap.size w0 w'/\∃(z:Int) (x':dN),((bB (a_ e.au) false [2] (ws.map bl)).1=0->∀s,ws[0]?=J s->z=(bW (a_ e.au) 2 (bl s)).2)/\dy w0.heap.size rb L g cap mb w' c last es { e with last:=e.last++[z] } x' cells/\L<=w'.heap.size:=by
 obtain⟨i0,hi,hz0,hz1,hz2⟩:=iw Dx;obtain⟨fa,fc,fJ⟩:=zZ h.new.hl;obtain⟨o,ho⟩:∃o,o=es.length*10:=⟨_,rfl⟩;have HS:U (dG A w0/\Below _ w0 w):=⟨hs,hb0⟩;change U _ at h hW fJ jq
 rw[<- ho];clear hs hb0;change U _ at ho;go_enter func250,ntmps250
 go_upto_region 2 with fail
 obtain⟨W1,hW1⟩:∃V,V=(w.alloc (ay #[ae af 0] 164)).alloc (ay #[ae af 0] 164):=⟨_,rfl⟩;rw[<- hW1];have bu:U (Below w.heap.size w W1):=by show Below _ _ _;rw[hW1];exact(aS _ _).alloc (by simp) _
 have iI:U (W1.heap.size=w.heap.size+2):=by show _=_;rw[hW1];simp
 have dx:U (W1.cell? (ai w.heap.size 0 I)=J (ae af 0)/\W1.frozen? (ai w.heap.size 0 I)=false):=by
  refine⟨by rw[hW1];exact(zY w ..).1,?_⟩;rw[hW1,lT,lT];exact vW w 0 0
 have lU:U (o6 w0 rb e.au [2] [(w.heap.size,0)] ws wb wo W1.heap.size (W1.alloc (Cj w))):=by
  have cw:=aS W1 (Cj w);have hlt:=hW.lt;have hz:=iI.o;have lH:=bL h.row;have hsz:=HS.2.size
  refine⟨HS.2.trans ((bu.trans (cw.mono bu.size)).mono hsz),rfl,by simp,by simp,?_,?_,by simp,?_,λi s hi=>aJ cw (aJ bu (hW.qH i s hi)),hW.sz,λ_=>⟨mb,((h.below bu).below cw).Ck⟩⟩
  ·intro i f t hf ht
   match i,hf,ht with
   |0,hf,ht=>
    simp at hf ht
    subst hf ht;exact⟨⟨_,aJ cw dx.1,⟨0,rfl⟩⟩,by rw[pP cw dx.1];exact dx.2⟩
   |i+1,hf,_=>simp at hf
  ·intro t ht;simp only[g_]at ht;subst ht;exact⟨by show w0.heap.size<=w.heap.size;exact hsz,λe2=>by have:=(sT e2).1;omega,by show w.heap.size≠_;omega,by show w.heap.size≠_;omega⟩
  intro i f t hf ht
  match i,hf,ht with
  |0,hf,ht=>
   simp at hf ht
   subst hf ht;rw[dr _ _ _ _ rfl];rfl
  |i+1,hf,_=>simp at hf
 clear hW1;go_wp2_with fail
 apply(uF A w0 _ rb _ [2] _ ws sa wb wo wc _ HS.1 lU hW.sa hW.few).mono;rintro v w2 ⟨rfl,us,jI,gq,gu,eP⟩;obtain⟨u,rfl⟩:∃u,us=[u]:=by
  match us,jI with
  |[u],_=>exact⟨u,rfl⟩
 obtain⟨z,rfl⟩:=gq 0 2 u rfl rfl;have HV:U ((bB (a_ e.au) false [2] (ws.map bl)).1=0->∀s,ws[0]?=J s->z=(bW (a_ e.au) 2 (bl s)).2):=λh0 s hs=>by
  have:=gu h0 0 2 s _ rfl hs rfl;unfold valOf at this;rw[aK (ar rfl)]at this;exact(oA this).2
 have cB:U _:=Cl (bu.trans ((aS _ _).mono bu.size)) (λt ht=>by simp only[g_]at ht;subst ht;exact aR _) eP;have cp:w2.cell? (ai w.heap.size 0 I)=J (ae af z):=by
  have h1:=zS (u:=ae af z) (aJ (aS W1 (Cj w)) dx.1);have h2:=eP.cell (p:=⟨w.heap.size,0,I⟩) (by show w.heap.size<_;have:=iI.o;simp;omega);exact h2.trans h1
 clear jI gq gu eP lU dx;have bZ:U _:=h.below cB;have c8:w2.cell? ⟨g,o+9,I⟩=J (aj fa e.last.length fc):=by rw[ho.o,<- fJ.o];exact(bZ.pQ (j:=9) rfl).1
 have hown:w2.drew.ownsRow L 3 1 (aj fa e.last.length fc) e.last.length (e.last.flatMap bT):=by rw[<- fJ.o];exact bZ.new.hl
 have jP:U _:=bp jq.o cB.size;have vq:=jP.o;have KB:U (∀(ob:Obj) (w8:ak),(w2.drew.alloc ob).grownBy w8 (Value.slice fa e.last.length fc).ownBlock->w8.cell? ⟨g,o+9,I⟩=J (aj fa e.last.length fc)/\w8.frozen? ⟨g,o+9,I⟩=false):=λob w8 hg=>by
  have lr:=bZ.below (w':=w2.drew.alloc ob) ((aF _ w2).drew.alloc (by simp) ob);obtain⟨cur,hc,-⟩:=lr.grow;rw[<- fJ.o]at hg⊢;rw[ho.o];have e1:=(hg.block g (bL hc) (λe2=>ja lr.new.hl hc (ar rfl) e2.symm));have h2:=lr.pQ (j:=9) (u:=x.l) rfl;exact⟨(mH e1).trans h2.1,by have:=h2.2;unfold bM at this⊢;simp only at this⊢;rw[e1];exact this⟩
 have DU:∀ob,(w2.alloc ob).cell? _=J _:=λob=>aJ (aS _ _) c8
 go_wp2_with fail
 go_region_law (refine qX _ rfl _ _ 44 rfl L 3 i0 _ 1 8 underlying44 hi hz0 hz1 hz2 rfl (ar rfl) _ _ _ (by simp[Act.eval]) (hown.alloc _) _ 1 1 _ (by simp[Act.eval]) rfl (TT _ z 3) (zj z) (ar rfl) (by unfold maxLen;omega) (by omega) (by simp;omega) (w2.heap.size+1) (by simp) ?_;intro g' cap' w8 eV cQ cH nA;have r8:=KB _ _ cQ;have d1:=r8.1;have d2:=r8.2)
 all_goals
  go_wp2;go_ret
  refine⟨rfl,?_,z,{ x with l:=aj (J (ai g' 0 I)) (e.last.length+1) cap' },HV,?_,?_⟩
  ·exact Ik HS.2 cB bZ jP (by rw[fJ.o];exact cQ) (λb hb=>(bZ.new.hl.lt b hb).1) _ _
  ·rw[ho.o]
   refine(bZ.below (w':=w2.drew.alloc _) ((aF _ w2).drew.alloc (by simp) _)).agR z (by rw[fJ.o];exact cQ) eV (λb hb e2=>?_);subst e2
   rcases cH with h1|h1
   ·rw[<- fJ.o]at h1
    rcases bZ.fl with h3|h3
    ·rw[h3]at hb;cases hb
    exact h3 (hb.trans h1.symm)
   have:=zX bZ.new.hf b hb;omega
  have h1:=cQ.size;have h2:=jP.o;simp[bN]at h1⊢
  omega
abbrev sU (w:World):Obj:=(.cells #[.iface 325 (.pointer (some ⟨w.heap.size,0,none⟩)),.iface 325 (.pointer (some ⟨w.heap.size+1,0,none⟩)),.iface 295 (.pointer (some ⟨w.heap.size+2,2,none⟩)),.iface 295 (.pointer (some ⟨w.heap.size+2,3,none⟩))] 20)
abbrev Il (w:World):Obj:=(.cells #[.iface 325 (.pointer (some ⟨w.heap.size,0,none⟩)),.iface 325 (.pointer (some ⟨w.heap.size+1,0,none⟩))] 20)
def z_:∀(w:ak) (tg:List (Nat×Nat)) (us:List aw) (i:Nat) (t:Nat×Nat) (u:aw),tg.Nodup->tg[i]?=J t->us[i]?=J u->(∃o,w.cell? ⟨t.1,t.2,I⟩=J o)->(dH w tg us).cell? ⟨t.1,t.2,I⟩=J u
 |w,[],us,i,t,u,_,h,_,_=>by simp at h
 |w,a::as',[],i,t,u,_,_,h,_=>by simp at h
 |w,a::as',v::vs,0,t,u,hd,h1,h2,⟨o,ho⟩=>by
  simp at h1 h2
  subst h1 h2;rw[dH,zT _ _ _ _ _ (λx hx e=>by
   have:=(List.nodup_cons.1 hd).1;exact this (by rw[show a=x from e.symm];exact hx))]
  exact zS ho
 |w,a::as',v::vs,i+1,t,u,hd,h1,h2,⟨o,ho⟩=>by
  rw[dH];have hm:=bP (by simpa using h1);have hne:a≠t:=λe=>(List.nodup_cons.1 hd).1 (by rw[e];exact hm)
  refine z_ _ as' vs i t u (List.nodup_cons.1 hd).2 (by simpa using h1) (by simpa using h2) ⟨o,?_⟩;rw[sR (by
   by_cases e:a.1=t.1
   ·exact aN (λe2=>hne (Prod.ext e e2))
   exact aT e) rfl rfl]
  exact ho
def MT(w:ak)(cs:List aw)(T:TypeId):∀(j:Nat) u,cs[j]?=J u->(w.alloc (ay cs.toArray T)).cell? ((⟨w.heap.size,0,I⟩:aC).add j)=J u:=by
 intro j u hu;rw[kM,dr _ _ _ _ rfl];simpa using hu
def agU(A:Nat->aC)(w0 w:ak)(rb L g cap mb:Nat)(c:aX)(last:Int)(es:List aM)(e:aM)(x:dN)(cells:List aw)(sa:Option aC)(ws:List ByteArray)(wb wo wc:Nat)(hs:dG A w0)(hb0:Below w0.heap.size w0 w)(h:dy w0.heap.size rb L g cap mb w c last es e x cells)(jq:L<=w.heap.size)(hW:jU w sa ws wb wo)(hn:e.aP.length<=1000000):Calls prog 250 #[aq (J (ai rb 0 I)),aq (J ⟨g,es.length*10,I⟩),ae af 7,aj sa ws.length wc] w λv w'=>v=ax (cP A (bB (a_ e.au) false [2,2] (ws.map bl)).1)/\Below w0.heap.size w0 w'/\∃(z0 z1:Int) (x':dN),((bB (a_ e.au) false [2,2] (ws.map bl)).1=0->(∀s,ws[0]?=J s->z0=(bW (a_ e.au) 2 (bl s)).2)/\(∀s,ws[1]?=J s->z1=(bW (a_ e.au) 2 (bl s)).2))/\dy w0.heap.size rb L g cap mb w' c last es { e with aP:=e.aP++[(z0,z1)] } x' cells/\L<=w'.heap.size:=by
 obtain⟨i0,hi,hz0,hz1,hz2⟩:=iw Km;obtain⟨fa,fc,fJ⟩:=zZ h.new.he;obtain⟨o,ho⟩:∃o,o=es.length*10:=⟨_,rfl⟩;have HS:U (dG A w0/\Below _ w0 w):=⟨hs,hb0⟩;change U _ at h hW fJ jq
 rw[<- ho];clear hs hb0;change U _ at ho;go_enter func250,ntmps250
 go_upto_region 2 with fail
 obtain⟨W1,hW1⟩:∃V,V=(w.alloc (ay #[ae af 0] 164)).alloc (ay #[ae af 0] 164):=⟨_,rfl⟩;rw[<- hW1];have bu:U (Below w.heap.size w W1):=by show Below _ _ _;rw[hW1];exact(aS _ _).alloc (by simp) _
 have iI:U (W1.heap.size=w.heap.size+2):=by show _=_;rw[hW1];simp
 have ic:U (W1.cell? (ai w.heap.size 0 I)=J (ae af 0)/\W1.frozen? (ai w.heap.size 0 I)=false):=by
  refine⟨by rw[hW1];exact(zY w ..).1,?_⟩;rw[hW1,lT,lT];exact vW w 0 0
 have dx:U (W1.cell? ⟨w.heap.size+1,0,I⟩=J (ae af 0)/\W1.frozen? ⟨w.heap.size+1,0,I⟩=false):=by
  refine⟨by rw[hW1];exact(zY w ..).2,?_⟩;rw[hW1,lT,lT];exact vW w 1 0
 have lU:U (o6 w0 rb e.au [2,2] [(w.heap.size,0),(w.heap.size+1,0)] ws wb wo W1.heap.size (W1.alloc (Il w))):=by
  have cw:=aS W1 (Il w);have hlt:=hW.lt;have hz:=iI.o;have lH:=bL h.row;have hsz:=HS.2.size
  refine⟨HS.2.trans ((bu.trans (cw.mono bu.size)).mono hsz),rfl,by simp,by simp,?_,?_,by simp,?_,λi s hi=>aJ cw (aJ bu (hW.qH i s hi)),hW.sz,λ_=>⟨mb,((h.below bu).below cw).Ck⟩⟩
  ·intro i f t hf ht
   match i,hf,ht with
   |0,hf,ht=>
    simp at hf ht
    subst hf ht;exact⟨⟨_,aJ cw ic.1,⟨0,rfl⟩⟩,by rw[pP cw ic.1];exact ic.2⟩
   |1,hf,ht=>
    simp at hf ht
    subst hf ht;exact⟨⟨_,aJ cw dx.1,⟨0,rfl⟩⟩,by rw[pP cw dx.1];exact dx.2⟩
   |i+2,hf,_=>simp at hf
  ·intro t ht;simp only[fe,jL,j4]at ht
   rcases ht with rfl|rfl
   all_goals exact⟨by simp only[];omega,λe2=>by have:=(sT e2).1;omega,by simp only[];omega,by simp only[];omega⟩
  intro i f t hf ht
  match i,hf,ht with
  |0,hf,ht=>
   simp at hf ht
   subst hf ht;rw[dr _ _ _ _ rfl];rfl
  |1,hf,ht=>
   simp at hf ht
   subst hf ht;rw[dr _ _ _ _ rfl];rfl
  |i+2,hf,_=>simp at hf
 clear hW1;go_wp2_with fail
 apply(uF A w0 _ rb _ _ _ ws sa wb wo wc _ HS.1 lU hW.sa hW.few).mono;rintro v w2 ⟨rfl,us,jI,gq,gu,eP⟩;obtain⟨u0,u1,rfl⟩:∃u0 u1,us=[u0,u1]:=by
  match us,jI with
  |[u0,u1],_=>exact⟨u0,u1,rfl⟩
 obtain⟨z0,rfl⟩:=gq 0 2 u0 rfl rfl;obtain⟨z1,rfl⟩:=gq 1 2 u1 rfl rfl;have HV:U ((bB (a_ e.au) false [2,2] (ws.map bl)).1=0->(∀s,ws[0]?=J s->z0=(bW (a_ e.au) 2 (bl s)).2)/\(∀s,ws[1]?=J s->z1=(bW (a_ e.au) 2 (bl s)).2)):=λh0=>⟨(λs hs=>by have:=gu h0 0 2 s _ rfl hs rfl;unfold valOf at this;rw[aK (ar rfl)]at this;exact(oA this).2),(λs hs=>by have:=gu h0 1 2 s _ rfl hs rfl;unfold valOf at this;rw[aK (ar rfl)]at this;exact(oA this).2)⟩
 have cB:U _:=Cl (bu.trans ((aS _ _).mono bu.size)) (λt ht=>by
  simp only[fe,jL,j4]at ht
  rcases ht with rfl|rfl
  all_goals (simp only[];omega)) eP
 have TU:w2.cell? (ai w.heap.size 0 I)=J (ae af z0):=by
  have h1:=z_ (W1.alloc (Il w)) [(w.heap.size,0),(w.heap.size+1,0)] [ae af z0,ae af z1] 0 _ _ (by simp) rfl rfl ⟨_,aJ (aS _ _) ic.1⟩;exact(eP.cell (p:=⟨_,0,_⟩) (by have:=iI.o;simp;omega)).trans h1
 have TV:w2.cell? ⟨w.heap.size+1,0,I⟩=J (ae af z1):=by
  have h1:=z_ (W1.alloc (Il w)) [(w.heap.size,0),(w.heap.size+1,0)] [ae af z0,ae af z1] 1 _ _ (by simp) rfl rfl ⟨_,aJ (aS _ _) dx.1⟩;exact(eP.cell (p:=⟨_,0,_⟩) (by have:=iI.o;simp;omega)).trans h1
 clear jI gq gu eP lU ic dx;have bZ:U _:=h.below cB;have c8:w2.cell? ⟨g,o+7,I⟩=J (aj fa e.aP.length fc):=by rw[ho.o,<- fJ.o];exact(bZ.pQ (j:=7) rfl).1
 have hown:w2.drew.ownsRow L 74 2 (aj fa e.aP.length fc) e.aP.length (e.aP.flatMap kI):=by rw[<- fJ.o];exact bZ.new.he
 have jP:U _:=bp jq.o cB.size;have vq:=jP.o;have KB:U (∀(ob:Obj) (w8:ak),(w2.drew.alloc ob).grownBy w8 (Value.slice fa e.aP.length fc).ownBlock->w8.cell? ⟨g,o+7,I⟩=J (aj fa e.aP.length fc)/\w8.frozen? ⟨g,o+7,I⟩=false):=λob w8 hg=>by
  have lr:=bZ.below (w':=w2.drew.alloc ob) ((aF _ w2).drew.alloc (by simp) ob);obtain⟨cur,hc,-⟩:=lr.grow;rw[<- fJ.o]at hg⊢;rw[ho.o];have e1:=(hg.block g (bL hc) (λe2=>ja lr.new.he hc (ar rfl) e2.symm));have h2:=lr.pQ (j:=7) (u:=x.e) rfl;exact⟨(mH e1).trans h2.1,by have:=h2.2;unfold bM at this⊢;simp only at this⊢;rw[e1];exact this⟩
 have DU:∀ob,(w2.alloc ob).cell? _=J _:=λob=>aJ (aS _ _) c8
 go_wp2_with fail
 go_region_law (refine qX _ rfl _ _ 56 rfl L 74 i0 _ 2 16 underlying56 hi hz0 hz1 hz2 rfl (ar rfl) _ _ _ (by simp[Act.eval]) (hown.alloc _) _ 1 1 _ (by simp[Act.eval]) rfl (MT w2.drew [ae af z0,ae af z1] 74) (Kp (z0,z1)) (ar rfl) (by unfold maxLen;omega) (by omega) (by simp;omega) (w2.heap.size+1) (by simp) ?_;intro g' cap' w8 eV cQ cH nA;have r8:=KB _ _ cQ;have d8:=r8.1;have d9:=r8.2)
 all_goals
  go_wp2;go_ret
  refine⟨rfl,?_,z0,z1,{ x with e:=aj (J (ai g' 0 I)) (e.aP.length+1) cap' },HV,?_,?_⟩
  ·exact Ik HS.2 cB bZ jP (by rw[fJ.o];exact cQ) (λb hb=>(bZ.new.he.lt b hb).1) _ _
  ·rw[ho.o];exact(bZ.below (w':=w2.drew.alloc _) ((aF _ w2).drew.alloc (by simp) _)).agP _ (by rw[fJ.o];exact cQ) eV
  have h1:=cQ.size;have h2:=jP.o;simp[bN]at h1⊢
  omega
def agV(A:Nat->aC)(w0 w:ak)(rb L g cap mb:Nat)(c:aX)(last:Int)(es:List aM)(e:aM)(x:dN)(cells:List aw)(sa:Option aC)(ws:List ByteArray)(wb wo wc:Nat)(hs:dG A w0)(hb0:Below w0.heap.size w0 w)(h:dy w0.heap.size rb L g cap mb w c last es e x cells)(jq:L<=w.heap.size)(hW:jU w sa ws wb wo)(hn:e.aV.length<=1000000):Calls prog 250 #[aq (J (ai rb 0 I)),aq (J ⟨g,es.length*10,I⟩),ae af 6,aj sa ws.length wc] w λv w'=>v=ax (cP A (bB (a_ e.au) false [2,2,1,1] (ws.map bl)).1)/\Below w0.heap.size w0 w'/\∃(z0 z1 z2 z3:Int) (x':dN),((bB (a_ e.au) false [2,2,1,1] (ws.map bl)).1=0->(∀s,ws[0]?=J s->z0=(bW (a_ e.au) 2 (bl s)).2)/\(∀s,ws[1]?=J s->z1=(bW (a_ e.au) 2 (bl s)).2)/\(∀s,ws[2]?=J s->z2=(bW (a_ e.au) 1 (bl s)).2)/\(∀s,ws[3]?=J s->z3=(bW (a_ e.au) 1 (bl s)).2))/\dy w0.heap.size rb L g cap mb w' c last es { e with aV:=e.aV++[⟨z0,z1,z2,z3⟩] } x' cells/\L<=w'.heap.size:=by
 obtain⟨i0,hi,hz0,hz1,hz2⟩:=iw Kl;obtain⟨fa,fc,fJ⟩:=zZ h.new.hg;obtain⟨o,ho⟩:∃o,o=es.length*10:=⟨_,rfl⟩;have HS:U (dG A w0/\Below _ w0 w):=⟨hs,hb0⟩;change U _ at h hW fJ jq
 rw[<- ho];clear hs hb0;change U _ at ho;go_enter func250,ntmps250
 go_upto_region 11 with fail
 obtain⟨W1,hW1⟩:∃V,V=((w.alloc (ay #[ae af 0] 164)).alloc (ay #[ae af 0] 164)).alloc (ay #[ae af 0,ae af 0,ae af 0,ae af 0] 73):=⟨_,rfl⟩;rw[<- hW1];have bu:U (Below w.heap.size w W1):=by show Below _ _ _;rw[hW1];exact((aS _ _).alloc (by simp) _).alloc (by simp;omega) _
 have iI:U (W1.heap.size=w.heap.size+3):=by show _=_;rw[hW1];simp
 have ic:U (W1.cell? (ai w.heap.size 0 I)=J (ae af 0)/\W1.frozen? (ai w.heap.size 0 I)=false):=by
  refine⟨by rw[hW1];exact aJ (aS _ _) (zY w ..).1,?_⟩;rw[hW1,lT,lT,lT];exact vW w 0 0
 have dx:U (W1.cell? ⟨w.heap.size+1,0,I⟩=J (ae af 0)/\W1.frozen? ⟨w.heap.size+1,0,I⟩=false):=by
  refine⟨by rw[hW1];exact aJ (aS _ _) (zY w ..).2,?_⟩;rw[hW1,lT,lT,lT];exact vW w 1 0
 have HG:U (∀j,j<4->W1.cell? ⟨w.heap.size+2,j,I⟩=J (ae af 0)/\W1.frozen? ⟨w.heap.size+2,j,I⟩=false):=λj hj=>by
  have e1:w.heap.size+2=((w.alloc (ay #[ae af 0] 164)).alloc (ay #[ae af 0] 164)).heap.size:=by simp
  constructor
  ·rw[hW1,e1,dr _ _ _ _ rfl]
   match j,hj with
   |0,_=>rfl
   |1,_=>rfl
   |2,_=>rfl
   |3,_=>rfl
  rw[hW1,lT,lT,lT];exact vW w 2 j
 have qU:U _:=HG 2 (ar rfl);have EL:U _:=HG 3 (ar rfl);have lU:U (o6 w0 rb e.au [2,2,1,1] [(w.heap.size,0),(w.heap.size+1,0),(w.heap.size+2,2),(w.heap.size+2,3)] ws wb wo W1.heap.size (W1.alloc (sU w))):=by
  have cw:=aS W1 (sU w);have hlt:=hW.lt;have hz:=iI.o;have lH:=bL h.row;have hsz:=HS.2.size
  refine⟨HS.2.trans ((bu.trans (cw.mono bu.size)).mono hsz),rfl,by simp,by simp,?_,?_,by simp,?_,λi s hi=>aJ cw (aJ bu (hW.qH i s hi)),hW.sz,λ_=>⟨mb,((h.below bu).below cw).Ck⟩⟩
  ·intro i f t hf ht
   match i,hf,ht with
   |0,hf,ht=>
    simp at hf ht
    subst hf ht;exact⟨⟨_,aJ cw ic.1,⟨0,rfl⟩⟩,by rw[pP cw ic.1];exact ic.2⟩
   |1,hf,ht=>
    simp at hf ht
    subst hf ht;exact⟨⟨_,aJ cw dx.1,⟨0,rfl⟩⟩,by rw[pP cw dx.1];exact dx.2⟩
   |2,hf,ht=>
    simp at hf ht
    subst hf ht;exact⟨⟨_,aJ cw qU.1,⟨0,rfl⟩⟩,by rw[pP cw qU.1];exact qU.2⟩
   |3,hf,ht=>
    simp at hf ht
    subst hf ht;exact⟨⟨_,aJ cw EL.1,⟨0,rfl⟩⟩,by rw[pP cw EL.1];exact EL.2⟩
   |i+4,hf,_=>simp at hf
  ·intro t ht;simp only[fe,jL,j4]at ht
   rcases ht with rfl|rfl|rfl|rfl
   all_goals exact⟨by simp only[];omega,λe2=>by have:=(sT e2).1;omega,by simp only[];omega,by simp only[];omega⟩
  intro i f t hf ht
  match i,hf,ht with
  |0,hf,ht=>
   simp at hf ht
   subst hf ht;rw[dr _ _ _ _ rfl];rfl
  |1,hf,ht=>
   simp at hf ht
   subst hf ht;rw[dr _ _ _ _ rfl];rfl
  |2,hf,ht=>
   simp at hf ht
   subst hf ht;rw[dr _ _ _ _ rfl];rfl
  |3,hf,ht=>
   simp at hf ht
   subst hf ht;rw[dr _ _ _ _ rfl];rfl
  |i+4,hf,_=>simp at hf
 clear hW1;go_wp2_with fail
 apply(uF A w0 _ rb _ _ _ ws sa wb wo wc _ HS.1 lU hW.sa hW.few).mono;rintro v w2 ⟨rfl,us,jI,gq,gu,eP⟩;obtain⟨u0,u1,u2,u3,rfl⟩:∃u0 u1 u2 u3,us=[u0,u1,u2,u3]:=by
  match us,jI with
  |[u0,u1,u2,u3],_=>exact⟨u0,u1,u2,u3,rfl⟩
 obtain⟨z0,rfl⟩:=gq 0 2 u0 rfl rfl;obtain⟨z1,rfl⟩:=gq 1 2 u1 rfl rfl;obtain⟨z2,rfl⟩:=gq 2 1 u2 rfl rfl;obtain⟨z3,rfl⟩:=gq 3 1 u3 rfl rfl;have HV:U ((bB (a_ e.au) false [2,2,1,1] (ws.map bl)).1=0->(∀s,ws[0]?=J s->z0=(bW (a_ e.au) 2 (bl s)).2)/\(∀s,ws[1]?=J s->z1=(bW (a_ e.au) 2 (bl s)).2)/\(∀s,ws[2]?=J s->z2=(bW (a_ e.au) 1 (bl s)).2)/\(∀s,ws[3]?=J s->z3=(bW (a_ e.au) 1 (bl s)).2)):=λh0=>⟨(λs hs=>by have:=gu h0 0 2 s _ rfl hs rfl;unfold valOf at this;rw[aK (ar rfl)]at this;exact(oA this).2),(λs hs=>by have:=gu h0 1 2 s _ rfl hs rfl;unfold valOf at this;rw[aK (ar rfl)]at this;exact(oA this).2),(λs hs=>by have:=gu h0 2 1 s _ rfl hs rfl;unfold valOf at this;rw[aK (ar rfl)]at this;exact(oA this).2),(λs hs=>by have:=gu h0 3 1 s _ rfl hs rfl;unfold valOf at this;rw[aK (ar rfl)]at this;exact(oA this).2)⟩
 have cB:U _:=Cl (bu.trans ((aS _ _).mono bu.size)) (λt ht=>by
  simp only[fe,jL,j4]at ht
  rcases ht with rfl|rfl|rfl|rfl
  all_goals (simp only[];omega)) eP
 have TU:w2.cell? (ai w.heap.size 0 I)=J (ae af z0):=by
  have h1:=z_ (W1.alloc (sU w)) [(w.heap.size,0),(w.heap.size+1,0),(w.heap.size+2,2),(w.heap.size+2,3)] [ae af z0,ae af z1,ae af z2,ae af z3] 0 (w.heap.size,0) (ae af z0) (by simp) rfl rfl ⟨_,aJ (aS _ _) ic.1⟩;exact(eP.cell (p:=⟨_,0,_⟩) (by have:=iI.o;simp;omega)).trans h1
 have TV:w2.cell? ⟨w.heap.size+1,0,I⟩=J (ae af z1):=by
  have h1:=z_ (W1.alloc (sU w)) [(w.heap.size,0),(w.heap.size+1,0),(w.heap.size+2,2),(w.heap.size+2,3)] [ae af z0,ae af z1,ae af z2,ae af z3] 1 (w.heap.size+1,0) (ae af z1) (by simp) rfl rfl ⟨_,aJ (aS _ _) dx.1⟩;exact(eP.cell (p:=⟨_,0,_⟩) (by have:=iI.o;simp;omega)).trans h1
 have TW:w2.cell? ⟨w.heap.size+2,2,I⟩=J (ae af z2):=by
  have h1:=z_ (W1.alloc (sU w)) [(w.heap.size,0),(w.heap.size+1,0),(w.heap.size+2,2),(w.heap.size+2,3)] [ae af z0,ae af z1,ae af z2,ae af z3] 2 (w.heap.size+2,2) (ae af z2) (by simp) rfl rfl ⟨_,aJ (aS _ _) qU.1⟩;exact(eP.cell (p:=⟨_,2,_⟩) (by have:=iI.o;simp;omega)).trans h1
 have TX:w2.cell? ⟨w.heap.size+2,3,I⟩=J (ae af z3):=by
  have h1:=z_ (W1.alloc (sU w)) [(w.heap.size,0),(w.heap.size+1,0),(w.heap.size+2,2),(w.heap.size+2,3)] [ae af z0,ae af z1,ae af z2,ae af z3] 3 (w.heap.size+2,3) (ae af z3) (by simp) rfl rfl ⟨_,aJ (aS _ _) EL.1⟩;exact(eP.cell (p:=⟨_,3,_⟩) (by have:=iI.o;simp;omega)).trans h1
 have TY:w2.cell? ⟨w.heap.size+2,0,I⟩=J (ae af 0):=by
  have h1:=zT (W1.alloc (sU w)) [(w.heap.size,0),(w.heap.size+1,0),(w.heap.size+2,2),(w.heap.size+2,3)] [ae af z0,ae af z1,ae af z2,ae af z3] (w.heap.size+2) 0 (λt ht=>by
   simp only[fe,jL,j4]at ht
   rcases ht with rfl|rfl|rfl|rfl
   all_goals simp)
  exact(eP.cell (p:=⟨_,0,_⟩) (by have:=iI.o;simp;omega)).trans (h1.trans (aJ (aS _ _) (HG 0 (ar rfl)).1))
 have T1:w2.cell? ⟨w.heap.size+2,1,I⟩=J (ae af 0):=by
  have h1:=zT (W1.alloc (sU w)) [(w.heap.size,0),(w.heap.size+1,0),(w.heap.size+2,2),(w.heap.size+2,3)] [ae af z0,ae af z1,ae af z2,ae af z3] (w.heap.size+2) 1 (λt ht=>by
   simp only[fe,jL,j4]at ht
   rcases ht with rfl|rfl|rfl|rfl
   all_goals simp)
  exact(eP.cell (p:=⟨_,1,_⟩) (by have:=iI.o;simp;omega)).trans (h1.trans (aJ (aS _ _) (HG 1 (ar rfl)).1))
 have MU:∀j,j<4->w2.frozen? ⟨w.heap.size+2,j,I⟩=false:=λj hj=>by
  have h1:=HG j hj;have hsz:(W1.alloc (sU w)).heap.size=w.heap.size+4:=by have:=iI.o;simp;omega
  have e1:w2.heap[w.heap.size+2]?=(dH ..).heap[w.heap.size+2]?:=eP.block _ (by omega);have e2:=MH (W1.alloc (sU w)) [(w.heap.size,0),(w.heap.size+1,0),(w.heap.size+2,2),(w.heap.size+2,3)] [ae af z0,ae af z1,ae af z2,ae af z3] ⟨w.heap.size+2,j,I⟩;have e3:(W1.alloc (sU w)).frozen? ⟨w.heap.size+2,j,I⟩=false:=by rw[pP (aS _ _) h1.1];exact h1.2
  rw[e3]at e2;unfold bM at e2⊢;simp only at e2⊢;rw[e1];exact e2
 clear jI gq gu eP lU ic dx qU EL;have agW:=MU 0 (ar rfl);have agX:=MU 1 (ar rfl);clear MU;go_upto_region 13 with fail
 obtain⟨w3,hw3⟩:∃V,V=(w2.setCell ⟨w.heap.size+2,0,I⟩ (ae af z0)).setCell ⟨w.heap.size+2,1,I⟩ (ae af z1):=⟨_,rfl⟩;rw[<- hw3];have fC:U (Below w.heap.size w w3):=by show Below _ _ _;rw[hw3];exact(cB.setCell (p:=⟨_,0,_⟩) (by simp only[];omega) _).setCell (p:=⟨_,1,_⟩) (by simp only[];omega) _
 have d0:w3.cell? ⟨w.heap.size+2,0,I⟩=J (ae af z0):=by rw[hw3,sR (aN (by simp)) rfl rfl];exact zS TY
 have d1:w3.cell? ⟨w.heap.size+2,1,I⟩=J (ae af z1):=by rw[hw3];exact zS ((sR (aN (by simp)) rfl rfl).trans T1)
 have d2:w3.cell? ⟨w.heap.size+2,2,I⟩=J (ae af z2):=by rw[hw3,sR (aN (by simp)) rfl rfl,sR (aN (by simp)) rfl rfl];exact TW
 have d3:w3.cell? ⟨w.heap.size+2,3,I⟩=J (ae af z3):=by rw[hw3,sR (aN (by simp)) rfl rfl,sR (aN (by simp)) rfl rfl];exact TX
 clear hw3 TY T1 TU TV TW TX agW agX;have bZ:U _:=h.below fC;have c8:w3.cell? ⟨g,o+6,I⟩=J (aj fa e.aV.length fc):=by rw[ho.o,<- fJ.o];exact(bZ.pQ (j:=6) rfl).1
 have hown:w3.drew.ownsRow L 73 4 (aj fa e.aV.length fc) e.aV.length (e.aV.flatMap lF):=by rw[<- fJ.o];exact bZ.new.hg
 have jP:U _:=bp jq.o fC.size;have vq:=jP.o;have KB:U (∀(ob:Obj) (w8:ak),(w3.drew.alloc ob).grownBy w8 (Value.slice fa e.aV.length fc).ownBlock->w8.cell? ⟨g,o+6,I⟩=J (aj fa e.aV.length fc)/\w8.frozen? ⟨g,o+6,I⟩=false):=λob w8 hg=>by
  have lr:=bZ.below (w':=w3.drew.alloc ob) ((aF _ w3).drew.alloc (by simp) ob);obtain⟨cur,hc,-⟩:=lr.grow;rw[<- fJ.o]at hg⊢;rw[ho.o];have e1:=(hg.block g (bL hc) (λe2=>ja lr.new.hg hc (ar rfl) e2.symm));have h2:=lr.pQ (j:=6) (u:=x.g) rfl;exact⟨(mH e1).trans h2.1,by have:=h2.2;unfold bM at this⊢;simp only at this⊢;rw[e1];exact this⟩
 have DU:∀ob,(w3.alloc ob).cell? _=J _:=λob=>aJ (aS _ _) c8
 go_wp2_with fail
 go_region_law (refine qX _ rfl _ _ 55 rfl L 73 i0 _ 4 32 underlying55 hi hz0 hz1 hz2 rfl (ar rfl) _ _ _ (by simp[Act.eval]) (hown.alloc _) _ 1 1 _ (by simp[Act.eval]) rfl (MT w3.drew [ae af z0,ae af z1,ae af z2,ae af z3] 73) (Kq ⟨z0,z1,z2,z3⟩) (ar rfl) (by unfold maxLen;omega) (by omega) (by simp;omega) (w3.heap.size+1) (by simp) ?_;intro g' cap' w8 eV cQ cH nA;have r8:=KB _ _ cQ;have d8:=r8.1;have d9:=r8.2)
 all_goals
  go_wp2;go_ret
  refine⟨rfl,?_,z0,z1,z2,z3,{ x with g:=aj (J (ai g' 0 I)) (e.aV.length+1) cap' },HV,?_,?_⟩
  ·exact Ik HS.2 fC bZ jP (by rw[fJ.o];exact cQ) (λb hb=>(bZ.new.hg.lt b hb).1) _ _
  ·rw[ho.o];exact(bZ.below (w':=w3.drew.alloc _) ((aF _ w3).drew.alloc (by simp) _)).agO _ (by rw[fJ.o];exact cQ) eV
  have h1:=cQ.size;have h2:=jP.o;simp[bN]at h1⊢
  omega
def fT.nums(h:fT B w e x)(a b d:Int):fT B w { e with cnt:=a,mn:=b,mx:=d } x:=⟨h.hp,h.hg,h.he,h.hf,h.hl⟩
def agY(A:Nat->aC)(w0 w:ak)(rb L g cap mb:Nat)(c:aX)(last:Int)(es:List aM)(e:aM)(x:dN)(cells:List aw)(sa:Option aC)(ws:List ByteArray)(wb wo wc:Nat)(hs:dG A w0)(hb0:Below w0.heap.size w0 w)(h:dy w0.heap.size rb L g cap mb w c last es e x cells)(jq:L<=w.heap.size)(hW:jU w sa ws wb wo):Calls prog 250 #[aq (J (ai rb 0 I)),aq (J ⟨g,es.length*10,I⟩),ae af 5,aj sa ws.length wc] w λv w'=>v=ax (cP A (bB (a_ e.au) false [2,1,1] (ws.map bl)).1)/\Below w0.heap.size w0 w'/\∃(z0 z1 z2:Int),((bB (a_ e.au) false [2,1,1] (ws.map bl)).1=0->(∀s,ws[0]?=J s->z0=(bW (a_ e.au) 2 (bl s)).2)/\(∀s,ws[1]?=J s->z1=(bW (a_ e.au) 1 (bl s)).2)/\(∀s,ws[2]?=J s->z2=(bW (a_ e.au) 1 (bl s)).2))/\dy w0.heap.size rb L g cap mb w' c last es { e with cnt:=z0,mn:=z1,mx:=z2 } x cells/\L<=w'.heap.size:=by
 obtain⟨o,ho⟩:∃o,o=es.length*10:=⟨_,rfl⟩;have HS:U (dG A w0/\Below _ w0 w):=⟨hs,hb0⟩;change U _ at hW jq
 obtain⟨aob,hg0,T2⟩:=h.grow;have EM:U (w.heap[g]?=J _/\w0.heap.size<=g/\g<w.heap.size):=⟨hg0,T2,bL hg0⟩;rw[<- ho];clear hs hb0 hg0 T2;change U _ at h ho;go_enter func250,ntmps250
 go_upto_region 2 with fail
 obtain⟨W1,hW1⟩:∃V,V=(w.alloc (ay #[ae af 0] 164)).alloc (ay #[ae af 0] 164):=⟨_,rfl⟩;rw[<- hW1];have bu:U (Below w.heap.size w W1):=by show Below _ _ _;rw[hW1];exact(aS _ _).alloc (by simp) _
 have iI:U (W1.heap.size=w.heap.size+2):=by show _=_;rw[hW1];simp
 have dx:U (W1.cell? (ai w.heap.size 0 I)=J (ae af 0)/\W1.frozen? (ai w.heap.size 0 I)=false):=by
  refine⟨by rw[hW1];exact(zY w ..).1,?_⟩;rw[hW1,lT,lT];exact vW w 0 0
 clear hW1;have lU:U (∀q,o6 w0 rb e.au [2,1,1] [(w.heap.size,0),(g,o+4),(g,o+5)] ws wb wo W1.heap.size ((W1.drewN q).alloc (ay #[.iface 325 (aq (J (ai w.heap.size 0 I))),.iface 295 (aq (J ⟨g,o+4,I⟩)),.iface 295 (aq (J ⟨g,o+5,I⟩))] 20))):=λq=>by
  have cw:Below W1.heap.size W1 ((W1.drewN q).alloc (ay #[.iface 325 (aq (J (ai w.heap.size 0 I))),.iface 295 (aq (J ⟨g,o+4,I⟩)),.iface 295 (aq (J ⟨g,o+5,I⟩))] 20)):=(br (aF _ _) q).alloc (aR _) _;have hlt:=hW.lt;have hz:=iI.o;have lH:=bL h.row;have hsz:=HS.2.size;have hgr:=EM.o;have T3:g≠wb:=λe2=>by
   obtain⟨cc,fr,hh⟩:=hW.blk;have h1:=hgr.1;rw[e2,hh]at h1;simp only[dJ,kY]at h1;exact absurd h1.2.1 (ar rfl)
  have hrg:g≠rb:=λe2=>by
   have h1:=hgr.1;rw[e2,h.row]at h1;simp only[dJ,kY]at h1;exact absurd h1.2.1 (ar rfl)
  have k4:=(h.below bu).pQ (j:=4) (u:=ae af _) rfl;have k5:=(h.below bu).pQ (j:=5) (u:=ae af _) rfl;rw[<- ho.o]at k4 k5
  refine⟨HS.2.trans ((bu.trans (cw.mono bu.size)).mono hsz),rfl,by simp,by simp,?_,?_,?_,?_,λi s hi=>aJ cw (aJ bu (hW.qH i s hi)),hW.sz,λ_=>⟨mb,((h.below bu).below cw).Ck⟩⟩
  ·intro i f t hf ht
   match i,hf,ht with
   |0,hf,ht=>
    simp at hf ht
    subst hf ht;exact⟨⟨_,aJ cw dx.1,⟨0,rfl⟩⟩,by rw[pP cw dx.1];exact dx.2⟩
   |1,hf,ht=>
    simp at hf ht
    subst hf ht;exact⟨⟨_,aJ cw k4.1,⟨_,rfl⟩⟩,by rw[pP cw k4.1];exact k4.2⟩
   |2,hf,ht=>
    simp at hf ht
    subst hf ht;exact⟨⟨_,aJ cw k5.1,⟨_,rfl⟩⟩,by rw[pP cw k5.1];exact k5.2⟩
   |i+3,hf,_=>simp at hf
  ·intro t ht;simp only[fe,jL,j4]at ht
   rcases ht with rfl|rfl|rfl
   ·exact⟨by simp only[];omega,λe2=>by have:=(sT e2).1;omega,by simp only[];omega,by simp only[];omega⟩
   ·exact⟨hgr.2.1,λe2=>hrg (sT e2).1,by simp only[];omega,T3⟩
   exact⟨hgr.2.1,λe2=>hrg (sT e2).1,by simp only[];omega,T3⟩
  ·have:w.heap.size≠g:=by omega
   simp[this]
  intro i f t hf ht
  match i,hf,ht with
  |0,hf,ht=>
   simp at hf ht
   subst hf ht;show aH _ ⟨(W1.drewN q).heap.size,_,_⟩=_
   rw[dr _ _ _ _ rfl];rfl
  |1,hf,ht=>
   simp at hf ht
   subst hf ht;show aH _ ⟨(W1.drewN q).heap.size,_,_⟩=_
   rw[dr _ _ _ _ rfl];rfl
  |2,hf,ht=>
   simp at hf ht
   subst hf ht;show aH _ ⟨(W1.drewN q).heap.size,_,_⟩=_
   rw[dr _ _ _ _ rfl];rfl
  |i+3,hf,_=>simp at hf
 have T7:U (∀q,Calls prog 248 #[aq (J (ai rb 0 I)),aj sa ws.length wc,aj (J (ai W1.heap.size 0 I)) 3 3] ((W1.drewN q).alloc (ay #[.iface 325 (aq (J (ai w.heap.size 0 I))),.iface 295 (aq (J ⟨g,o+4,I⟩)),.iface 295 (aq (J ⟨g,o+5,I⟩))] 20)) λv w2=>v=ax (cP A (bB (a_ e.au) false [2,1,1] (ws.map bl)).1)/\∃z0 z1 z2:Int,((bB (a_ e.au) false [2,1,1] (ws.map bl)).1=0->(∀s,ws[0]?=J s->z0=(bW (a_ e.au) 2 (bl s)).2)/\(∀s,ws[1]?=J s->z1=(bW (a_ e.au) 1 (bl s)).2)/\(∀s,ws[2]?=J s->z2=(bW (a_ e.au) 1 (bl s)).2))/\w2.cell? (ai w.heap.size 0 I)=J (ae af z0)/\Below w0.heap.size w0 w2/\w.heap.size<=w2.heap.size/\dy w0.heap.size rb L g cap mb w2 c last es { e with cnt:=e.cnt,mn:=z1,mx:=z2 } x cells):=λq=>by
  apply(uF A w0 _ rb _ _ _ ws sa wb wo wc _ HS.1 (lU q) hW.sa hW.few).mono;rintro v w2 ⟨rfl,us,jI,gq,gu,eP⟩;obtain⟨u0,u1,u2,rfl⟩:∃u0 u1 u2,us=[u0,u1,u2]:=by
   match us,jI with
   |[u0,u1,u2],_=>exact⟨u0,u1,u2,rfl⟩
  obtain⟨z0,rfl⟩:=gq 0 2 u0 rfl rfl;obtain⟨z1,rfl⟩:=gq 1 1 u1 rfl rfl;obtain⟨z2,rfl⟩:=gq 2 1 u2 rfl rfl;obtain⟨V,hV⟩:∃V,V=(W1.drewN q).alloc (ay #[.iface 325 (aq (J (ai w.heap.size 0 I))),.iface 295 (aq (J ⟨g,o+4,I⟩)),.iface 295 (aq (J ⟨g,o+5,I⟩))] 20):=⟨_,rfl⟩;have ou:Below w.heap.size w V:=by rw[hV];exact(br bu q).alloc (by have:=iI.o;show w.heap.size<=W1.heap.size;omega) _
  have cV:V.cell? (ai w.heap.size 0 I)=J (ae af 0):=by
   rw[hV];exact aJ (w:=W1) ((br (aF _ _) q).alloc (aR _) _) dx.1
  rw[<- hV]at eP;have agZ:Below _ w (V.setCell _ (ae af z0)):=ou.setCell (p:=⟨w.heap.size,0,I⟩) (aR _) _;have r0:=h.below agZ;have r1:=r0.MS (e':={ e with mn:=z1 }) (x':=x) 4 (ae af z1) rfl (r0.new.nums _ z1 _) r0.fl rfl;have r2:=r1.MS (e':={ e with mn:=z1,mx:=z2 }) (x':=x) 5 (ae af z2) rfl (r1.new.nums _ z1 z2) r1.fl rfl;rw[<- ho.o]at r2;have hz2:(((V.setCell (ai w.heap.size 0 I) (ae af z0)).setCell ⟨g,o+4,I⟩ (ae af z1)).setCell ⟨g,o+5,I⟩ (ae af z2)).heap.size=V.heap.size:=by simp[bN]
  have qK:Below (((V.setCell (ai w.heap.size 0 I) (ae af z0)).setCell ⟨g,o+4,I⟩ (ae af z1)).setCell ⟨g,o+5,I⟩ (ae af z2)).heap.size (((V.setCell (ai w.heap.size 0 I) (ae af z0)).setCell ⟨g,o+4,I⟩ (ae af z1)).setCell ⟨g,o+5,I⟩ (ae af z2)) w2:=by rw[hz2];exact eP
  have MV:g≠w.heap.size:=by have:=EM.2.2;omega
  refine⟨rfl,z0,z1,z2,λh0=>⟨(λs hs=>by have:=gu h0 0 2 s _ rfl hs rfl;unfold valOf at this;rw[aK (ar rfl)]at this;exact(oA this).2),(λs hs=>by have:=gu h0 1 1 s _ rfl hs rfl;unfold valOf at this;rw[aK (ar rfl)]at this;exact(oA this).2),(λs hs=>by have:=gu h0 2 1 s _ rfl hs rfl;unfold valOf at this;rw[aK (ar rfl)]at this;exact(oA this).2)⟩,?_,?_,?_,?_⟩
  ·refine aJ qK ?_;rw[sR (aT MV) rfl rfl,sR (aT MV) rfl rfl];exact zS cV
  ·have h1:=HS.2.trans (ou.mono HS.2.size);have h2:=((h1.setCell (p:=⟨w.heap.size,0,I⟩) HS.2.size (ae af z0)).setCell (p:=⟨g,o+4,I⟩) EM.2.1 (ae af z1)).setCell (p:=⟨g,o+5,I⟩) EM.2.1 (ae af z2);exact h2.trans (qK.mono h2.size)
  ·have h1:=qK.size;have h2:=ou.size;omega
  exact r2.below qK
 clear lU dx;go_upto_region 7 with fail
 go_region_held3 (λ_=>True) (exact trivial) (first|(go_at_call 248;refine aO (T7.o _) ?_;rintro v w2 ⟨rfl,z0,z1,z2,hz,cz,hb2,hs2,hr2⟩))
 all_goals
  change U _ at hz hb2 hs2
  have k3:=hr2.pQ (j:=3) (u:=ae af e.cnt) rfl;rw[<- ho.o]at k3;obtain⟨aoc,aod⟩:=k3;clear T7;change U _ at hr2;go_wp2;go_ret
  refine⟨rfl,hb2.setCell (p:=⟨g,_,_⟩) EM.2.1 _,z0,z1,z2,hz,?_,?_⟩
  ·have:=hr2.MS (e':={ e with cnt:=z0,mn:=z1,mx:=z2 }) (x':=x) 3 (ae af z0) rfl (hr2.new.nums z0 z1 z2) hr2.fl rfl;rw[<- ho.o]at this;exact this
  have h1:=hs2.o;have h2:=jq.o;simp only[bN,Array.size_modify];omega
structure o9(B rb:Nat)(w:ak)(c:aX)(last:Int)(ev mv:aw)(es:List aM)(cells:List aw):Prop where
 lo:B<=rb
 row:w.heap[rb]?=J (ay (gK c ev last mv) 218 (0,0))
 az:w.ownsRow B 58 10 ev es.length cells
 olds:∀(i:Nat) e',es[i]?=J e'->∃x',fT B w e' x'/\zW w.heap.size x'/\∀(j:Nat) u,(x'.row e')[j]?=J u->cells[i*10+j]?=J u
def zW.mono{L':Nat}(h:zW L x)(hl:L<=L'):zW L' x:=⟨λb hb=>cK (h.p b hb) hl,λb hb=>cK (h.g b hb) hl,λb hb=>cK (h.e b hb) hl,λb hb=>cK (h.f b hb) hl,λb hb=>cK (h.l b hb) hl⟩
def oB.toA{last:Int}(h:oB B rb w c last):o9 B rb w c last (aj I 0 0) (.map I) [] []:=⟨h.lo,h.row,gF _ _ _ _,λi e' he=>by simp at he⟩
def dy.toA{last:Int}{cells:List aw}(h:dy B rb L g cap mb w c last es e x cells)(hL:L<=w.heap.size):o9 B rb w c last (aj (J (ai g 0 I)) (es.length+1) cap) (.map (J mb)) (es++[e]) (cells++(x.row e).toList):=by
 refine⟨h.lo,h.row,by rw[cY];exact h.az,λi e' he=>?_⟩
 rcases fF i es.length with hi|hi
 ·rw[ly hi]at he;obtain⟨x',a,b,d⟩:=h.olds i e' he
  refine⟨x',a,b.mono hL,λj u hu=>?_⟩;have:=d j u hu;have hlt:i*10+j<cells.length:=by
   rcases fF (i*10+j) cells.length with h'|h'
   ·exact h'
   rw[jb h']at this;cases this
  rw[ly hlt];exact this
 rw[jX hi]at he;have h0:i=es.length:=by
  rcases vr (i-es.length)with h'|h'
  ·omega
  rw[jb (by simp;omega)]at he;cases he
 subst h0;simp at he
 subst he
 refine⟨x,h.new.weak h.uG,h.new.agK,λj u hu=>?_⟩;rw[jX (by rw[h.o8];omega),h.o8,yG,qR];exact hu
def o9.below{last:Int}{cells:List aw}(h:o9 B rb w c last ev mv es cells)(hb:Below w.heap.size w w'):o9 B rb w' c last ev mv es cells:=
 ⟨h.lo,a8 hb h.row,h.az.kept (row:=I) ⟨hb.os,hb.tape,hb.output,hb.size,λk hk _=>hb.block k hk⟩ (by by_cases e:ev.ownBlock=I;exact aT e;exact aN e),λi e' he=>by
  obtain⟨x',a,b,d⟩:=h.olds i e' he;exact⟨x',lI.below a hb,b.mono hb.size,d⟩⟩
def fT.grown(h:fT B w e x)(ho:w.ownsRow B' 58 10 v n xs)(hg:w.grownBy w' v.ownBlock):fT B w' e x:=by
 rcases ho.2 with⟨rfl,_⟩|⟨g,cap,cur,rfl,_,cM,_⟩
 ·have em:∀o:Option Nat,o=I\/o≠(Value.slice I 0 0).ownBlock:=λo=>by by_cases e:o=I;exact aT e;exact aN e
  exact h.kept hg (em _) (em _) (em _) (em _) (em _)
 exact h.other hg cM (ar rfl) (ar rfl) (ar rfl) (ar rfl)
def ye:dN:=⟨aj I 0 0,aj I 0 0,aj I 0 0,aj I 0 0,aj I 0 0⟩
def yf(nm:ByteArray)(z:Int):aM:=⟨nm,z,[],-1,0,0,[],[],[],[]⟩
def ag0(B:Nat)(w:ak)(nm:ByteArray)(z:Int):fT B w (yf nm z) ye:=⟨gF _ _ _ _,gF _ _ _ _,gF _ _ _ _,gF _ _ _ _,gF _ _ _ _⟩
def ag1(nm:ByteArray)(z:Int):∀u∈(ye.row (yf nm z)).toList,u.oneCell'=true:=by
 intro u hu;simp[dN.row,nU,ye,yf]at hu
 rcases hu with rfl|rfl|rfl|rfl|rfl|rfl<;>rfl
def ag2{g cap H:Nat}{V w8:ak}{last:Int}{cells:List aw}{nm:ByteArray}{z:Int}(h:o9 B rb V c last ev mv es cells)(hw:o9 B rb w c last ev mv es cells)(hB:B<=w.heap.size)(zE:Below w.heap.size w V)
  (hg:V.grownBy w8 ev.ownBlock) (ho:w8.ownsRow B 58 10 (.slice (J (ai g 0 I)) (es.length+1) cap) (es.length+1) (cells++(ye.row (yf nm z)).toList)) (hH:H=w8.heap.size):dy B rb w.heap.size g cap H (((w8.setCell (ai rb 4 I) (.slice (J (ai g 0 I)) (es.length+1) cap)).alloc (.map #[] 0)).setCell ⟨rb,6,I⟩ (.map (J H))) c last es (yf nm z) ye cells:=by
 have Im:=(hg.block rb (bL h.row) (λe2=>ja h.az h.row (ar rfl) e2.symm)).trans h.row;have hsz:=hg.size;have aoe:=bL Im;have T8:(w8.setCell (ai rb 4 I) (.slice (J (ai g 0 I)) (es.length+1) cap)).heap[rb]?=J (.cells (gK c (.slice (J (ai g 0 I)) (es.length+1) cap) last mv) 218 (0,0)):=by
  simp only[bN,cL,Im];simp[gK]
 have g1:=EK w8 rb 4 (.slice (J (ai g 0 I)) (es.length+1) cap);obtain⟨A1,vX⟩:∃A1,A1=w8.setCell (ai rb 4 I) (.slice (J (ai g 0 I)) (es.length+1) cap):=⟨_,rfl⟩;rw[<- vX]at T8 g1⊢;have hs1:A1.heap.size=H:=by rw[vX,hH];simp[bN]
 have b2:Below _ A1 (A1.alloc (.map #[] 0)):=aS _ _;have g3:=EK (A1.alloc (.map #[] 0)) rb 6 (.map (J H));have Io:=a8 b2 T8;obtain⟨A2,yg⟩:∃A2,A2=A1.alloc (.map #[] 0):=⟨_,rfl⟩;have hmap:A2.ownsMap prog 9 (plainElem prog 3) H 0 (.map []:DataW Unit):=by rw[yg,<- hs1];exact World.ownsMap_made A1 ..
 rw[<- yg]at b2 g3 Io⊢;have ag3:rb≠H:=by omega
 have ag4:∀{e:aM} {x:dN},fT B w8 e x->fT B _ e x:=λhx=>
  fT.other (lI.below (hx.other g1 Im (ar rfl) (ar rfl) (ar rfl) (ar rfl)) b2) g3 Io (ar rfl) (ar rfl) (ar rfl) (ar rfl)
 refine⟨⟨h.lo,hB,by have:=zE.size;omega,?_,?_,?_,λi e' he=>?_,ag0 _ _ _ _,aT rfl⟩,?_⟩
 ·simp only[bN,cL,Io];simp[gK]
 ·have o1:=ho.kept g1 (aN (ja ho Im (ar rfl)));have o2:=o1.kept (row:=I) ⟨b2.os,b2.tape,b2.output,b2.size,λk hk _=>b2.block k hk⟩ (aN (by simp[dF]));exact o2.kept g3 (aN (ja o2 Io (ar rfl)))
 ·exact h.az.1
 ·obtain⟨x',a,b,d⟩:=hw.olds i e' he;exact⟨x',ag4 (fT.grown (lI.below a zE) h.az hg),b,d⟩
 refine⟨_,?_,af'⟩;exact hmap.kept g3 (by simp;exact λe2=>ag3 e2.symm)
def ag5(A:Nat->aC)(w0 w:ak)(rb:Nat)(c:aX)(last:Int)(ev mv:aw)(es:List aM)(cells:List aw)(sa:Option aC)(ws:List ByteArray)(wb wo wc:Nat)(hs:dG A w0)(hb0:Below w0.heap.size w0 w)(h:o9 w0.heap.size rb w c last ev mv es cells)(hW:jU w sa ws wb wo)(hn:es.length<=1000000):Calls prog 249 #[aq (J (ai rb 0 I)),aj sa ws.length wc] w λv w'=>v=ax (cP A (bB (a_ []) false [0,1] (ws.map bl)).1)/\Below w0.heap.size w0 w'/\∃(nm:ByteArray) (z:Int) (L g cap mb:Nat),((bB (a_ []) false [0,1] (ws.map bl)).1=0->(∀s,ws[0]?=J s->nm=s)/\(∀s,ws[1]?=J s->z=(bW (a_ []) 1 (bl s)).2))/\dy w0.heap.size rb L g cap mb w' c last es (yf nm z) ye cells/\L<=w'.heap.size:=by
 obtain⟨i0,hi,hz0,hz1,hz2⟩:=iw TQ;obtain⟨va,vc,rfl⟩:=zZ h.az;have HS:U (dG A w0/\Below _ w0 w):=⟨hs,hb0⟩;change U _ at h hW
 have FP:=@run_makeMap prog;clear hs hb0;go_enter func249,ntmps249
 go_upto_region 2 with fail
 obtain⟨W1,hW1⟩:∃V,V=w.alloc (ay #[aA ⟨#[]⟩,ae af 0,aj I 0 0,ae af (-1),ae af 0,ae af 0,aj I 0 0,aj I 0 0,aj I 0 0,aj I 0 0] 58):=⟨_,rfl⟩;rw[<- hW1];have bu:U (Below w.heap.size w W1):=by show Below _ _ _;rw[hW1];exact aS _ _
 have iI:U (W1.heap.size=w.heap.size+1):=by show _=_;rw[hW1];simp
 have uB:U (W1.heap[w.heap.size]?=J (ay #[aA ⟨#[]⟩,ae af 0,aj I 0 0,ae af (-1),ae af 0,ae af 0,aj I 0 0,aj I 0 0,aj I 0 0,aj I 0 0] 58 (0,0))):=by show _=_;rw[hW1];exact cj w _
 clear hW1;have lU:U (o6 w0 rb [] [0,1] [(w.heap.size,0),(w.heap.size,1)] ws wb wo W1.heap.size (W1.alloc (ay #[.iface 323 (aq (J (ai w.heap.size 0 I))),.iface 295 (aq (J (ai w.heap.size 1 I)))] 20))):=by
  have cw:=aS W1 (ay #[.iface 323 (aq (J (ai w.heap.size 0 I))),.iface 295 (aq (J (ai w.heap.size 1 I)))] 20);have hlt:=hW.lt;have hz:=iI.o;have lH:=bL h.row;have hsz:=HS.2.size;have k:=a8 cw uB
  refine⟨HS.2.trans ((bu.trans (cw.mono bu.size)).mono hsz),rfl,by simp,by simp,?_,?_,by simp,?_,λi s hi=>aJ cw (aJ bu (hW.qH i s hi)),hW.sz,λh2=>by simp at h2⟩
  ·intro i f t hf ht
   match i,hf,ht with
   |0,hf,ht=>
    simp at hf ht
    subst hf ht;exact⟨⟨_,by simp[aH,k],⟨⟨#[]⟩,rfl,by decide⟩⟩,by simp[bM,k]⟩
   |1,hf,ht=>
    simp at hf ht
    subst hf ht;exact⟨⟨_,by simp[aH,k],⟨0,rfl⟩⟩,by simp[bM,k]⟩
   |i+2,hf,_=>simp at hf
  ·intro t ht;simp only[fe,jL,j4]at ht
   rcases ht with rfl|rfl
   all_goals exact⟨by simp only[];omega,λe2=>by have:=(sT e2).1;omega,by simp only[];omega,by simp only[];omega⟩
  intro i f t hf ht
  match i,hf,ht with
  |0,hf,ht=>
   simp at hf ht
   subst hf ht;rw[dr _ _ _ _ rfl];rfl
  |1,hf,ht=>
   simp at hf ht
   subst hf ht;rw[dr _ _ _ _ rfl];rfl
  |i+2,hf,_=>simp at hf
 go_wp2_with fail
 apply(uF A w0 _ rb [] _ _ ws sa wb wo wc _ HS.1 lU hW.sa hW.few).mono;rintro v w2 ⟨rfl,us,jI,gq,gu,eP⟩;obtain⟨u0,u1,rfl⟩:∃u0 u1,us=[u0,u1]:=by
  match us,jI with
  |[u0,u1],_=>exact⟨u0,u1,rfl⟩
 obtain⟨nm,rfl,-⟩:=gq 0 0 u0 rfl rfl;obtain⟨z,rfl⟩:=gq 1 1 u1 rfl rfl;have HV:U ((bB (a_ []) false [0,1] (ws.map bl)).1=0->(∀s,ws[0]?=J s->nm=s)/\(∀s,ws[1]?=J s->z=(bW (a_ []) 1 (bl s)).2)):=λh0=>⟨(λs hs=>by have:=gu h0 0 0 s _ rfl hs rfl;unfold valOf at this;rw[aU rfl]at this;exact Value.string.inj this),(λs hs=>by have:=gu h0 1 1 s _ rfl hs rfl;unfold valOf at this;rw[aK (ar rfl)]at this;exact(oA this).2)⟩
 have cB:U _:=Cl (bu.trans ((aS _ _).mono bu.size)) (λt ht=>by
  simp only[fe,jL,j4]at ht
  rcases ht with rfl|rfl
  all_goals exact aR _) eP
 have jD:U (w2.heap[w.heap.size]?=J (ay #[aA nm,ae af z,aj I 0 0,ae af (-1),ae af 0,ae af 0,aj I 0 0,aj I 0 0,aj I 0 0,aj I 0 0] 58 (0,0))):=by
  show _=_
  have k:=a8 (aS W1 (ay #[.iface 323 (aq (J (ai w.heap.size 0 I))),.iface 295 (aq (J (ai w.heap.size 1 I)))] 20)) uB;have k2:(dH (W1.alloc (ay #[.iface 323 (aq (J (ai w.heap.size 0 I))),.iface 295 (aq (J (ai w.heap.size 1 I)))] 20)) [(w.heap.size,0),(w.heap.size,1)] [aA nm,ae af z]).heap[w.heap.size]?=J (ay #[aA nm,ae af z,aj I 0 0,ae af (-1),ae af 0,ae af 0,aj I 0 0,aj I 0 0,aj I 0 0,aj I 0 0] 58 (0,0)):=by
   simp only[dH,bN,cL,k];simp
  refine(eP.block _ ?_).trans k2;have:=iI.o;simp
  omega
 clear jI gq gu eP lU uB bu iI;have yy:∀(j:Nat) u,(#[aA nm,ae af z,aj I 0 0,ae af (-1),ae af 0,ae af 0,aj I 0 0,aj I 0 0,aj I 0 0,aj I 0 0]:Array _)[j]?=J u->w2.cell? (ai w.heap.size j I)=J u:=λj u hu=>by simp[aH,jD.o,hu]
 have y0:=yy 0 _ rfl;have y1:=yy 1 _ rfl;have y2:=yy 2 _ rfl;have y3:=yy 3 _ rfl;have y4:=yy 4 _ rfl;have y5:=yy 5 _ rfl;have y6:=yy 6 _ rfl;have y7:=yy 7 _ rfl;have y8:=yy 8 _ rfl;have y9:=yy 9 _ rfl;clear yy jD;have bZ:U _:=h.below cB;have c4:w2.cell? (ai rb 4 I)=J (aj va es.length vc):=by have:=bZ.row;simp[aH,this,gK]
 have ag6:∀ob,(w2.alloc ob).cell? _=J _:=λob=>aJ (aS _ _) c4
 have hown:w2.drew.ownsRow _ 58 10 _ _ _:=bZ.az;have vq:=bp HS.2.size cB.size;have KB:U (∀(ob:Obj) (w8:ak),(w2.drew.alloc ob).grownBy w8 (Value.slice va es.length vc).ownBlock->w8.heap[rb]?=J (ay (gK c (aj va es.length vc) last mv) 218 (0,0))/\Below w0.heap.size w0 w8):=λob w8 hg=>by
  have lr:=bZ.below (w':=w2.drew.alloc ob) ((aF _ w2).drew.alloc (by simp) ob);have b2:=HS.2.trans (cB.mono HS.2.size);have b3:=b2.trans (((aF _ w2).drew.alloc (by simp) ob).mono b2.size);exact⟨(hg.block rb (bL lr.row) (λe2=>ja lr.az lr.row (ar rfl) e2.symm)).trans lr.row,b3.grown hg b3.size (λk hk=>(lr.az.lt k hk).1)⟩
 go_wp2_with fail
 go_region_law (refine qX _ rfl _ _ 22 rfl _ 58 i0 _ 10 168 underlying22 hi hz0 hz1 hz2 rfl (ar rfl) _ _ _ (by simp[Act.eval]) (hown.alloc _) _ 1 1 _ (by simp[Act.eval]) rfl (MT _ (ye.row _).toList 58) (ag1 nm z) (ar rfl) (by unfold maxLen;omega) (by omega) (by simp;omega) (w2.heap.size+1) (by simp) ?_;intro g' cap' w8 eV cQ cH nA;have r8:=KB _ _ cQ;have d8:w8.cell? (ai rb 4 I)=J (aj va es.length vc):=(by simp[aH,r8.1,gK]);have d9:w8.frozen? (ai rb 4 I)=false:=(by simp[bM,r8.1]))
 all_goals
  have HA:U (∀u,(w8.setCell (ai rb 4 I) u).heap[rb]?=J (ay (gK c u last mv) 218 (0,0))):=λu=>by
   simp only[bN,cL,r8.1];simp[gK]
  have T9:U (∀u,((w8.setCell _ u).alloc (.map #[] 0)).heap[rb]?=J _):=λu=>a8 (aS _ _) (HA u)
  have e6:∀u,((w8.setCell (ai rb 4 I) u).alloc (.map #[] 0)).cell? ⟨rb,6,I⟩=J mv:=λu=>by simp[aH,T9.o u,gK]
  have f6:∀u,((w8.setCell (ai rb 4 I) u).alloc (.map #[] 0)).frozen? ⟨rb,6,I⟩=false:=λu=>by simp[bM,T9.o u]
  have H8:U _:=r8.2;change U _ at cQ eV
  clear r8 cH y0 y1 y2 y3 y4 y5 y6 y7 y8 y9 ag6 c4;go_wp2;go_ret
  refine⟨rfl,?_,nm,z,w.heap.size,g',cap',w8.heap.size,HV,?_,?_⟩
  ·exact((H8.setCell (p:=⟨rb,4,_⟩) h.lo _).alloc (by have:=H8.size;simp[bN];omega) _).setCell (p:=⟨rb,6,_⟩) h.lo _
  ·exact ag2 (bZ.below ((aF _ w2).drew.alloc (by simp) _)) h HS.2.size (cB.trans (((aF _ w2).drew.alloc (by simp) _).mono cB.size)) cQ eV rfl
  have h1:=cQ.size;have h2:=cB.size;simp[bN]at h1⊢
  omega
def ag7(w:ak)(q:ByteArray)(T:TypeId):∀(j:Nat) u,([aA q]:List aw)[j]?=J u->(w.alloc (ay #[aA q] T)).cell? ((⟨w.heap.size,0,I⟩:aC).add j)=J u:=by
 intro j u hu
 match j,hu with
 |0,hu=>
  simp at hu
  subst hu;rw[kM,dr _ _ _ _ rfl];rfl
 |j+1,hu=>simp at hu
def ag8(A:Nat->aC)(w0 w:ak)(rb L g cap mb:Nat)(c:aX)(last:Int)(es:List aM)(e:aM)(x:dN)(cells:List aw)(sa:Option aC)(ws:List ByteArray)(wb wo wc:Nat)(hs:dG A w0)(hb0:Below w0.heap.size w0 w)(h:dy w0.heap.size rb L g cap mb w c last es e x cells)(jq:L<=w.heap.size)(hW:jU w sa ws wb wo)(hn:e.au.length<=1000000):Calls prog 278 #[.pointer (J (ai rb 0 I)),.pointer (J ⟨g,es.length*10,I⟩),.slice sa ws.length wc] w λv w'=>v=.returned (cP A (bB (a_ e.au) false [0] (ws.map bl)).1)/\Below w0.heap.size w0 w'/\∃(q:ByteArray) (x':dN),((bB (a_ e.au) false [0] (ws.map bl)).1=0->∀s,ws[0]?=J s->q=s)/\dy w0.heap.size rb L g cap mb w' c last es { e with au:=e.au++[q] } x' cells/\L<=w'.heap.size:=by
 obtain⟨i0,hi,hz0,hz1,hz2⟩:=iw Kk;obtain⟨fa,fc,fJ⟩:=zZ h.new.hp;obtain⟨o,ho⟩:∃o,o=es.length*10:=⟨_,rfl⟩;have HS:U (dG A w0/\Below _ w0 w):=⟨hs,hb0⟩;change U _ at h hW fJ jq
 rw[<- ho];clear hs hb0;change U _ at ho;go_enter func278,ntmps278
 go_upto_region 2 with fail
 obtain⟨W1,hW1⟩:∃V,V=w.alloc (.cells #[.string ⟨#[]⟩] 9):=⟨_,rfl⟩;rw[<- hW1];have bu:U (Below w.heap.size w W1):=by show Below _ _ _;rw[hW1];exact aS _ _
 have iI:U (W1.heap.size=w.heap.size+1):=by show _=_;rw[hW1];simp
 have dx:U (W1.cell? (ai w.heap.size 0 I)=J (.string ⟨#[]⟩)/\W1.frozen? (ai w.heap.size 0 I)=false):=by
  refine⟨by rw[hW1,dr _ _ _ _ rfl];rfl,?_⟩;rw[hW1,lT];exact vW w 0 0
 have lU:U (o6 w0 rb e.au [0] [(w.heap.size,0)] ws wb wo W1.heap.size (W1.alloc (.cells #[.iface 323 (.pointer (J (ai w.heap.size 0 I)))] 20))):=by
  have cw:=aS W1 (.cells #[.iface 323 (.pointer (J (ai w.heap.size 0 I)))] 20);have hlt:=hW.lt;have hz:=iI.o;have lH:=bL h.row;have hsz:=HS.2.size
  refine⟨HS.2.trans ((bu.trans (cw.mono bu.size)).mono hsz),rfl,by simp,by simp,?_,?_,by simp,?_,λi s hi=>aJ cw (aJ bu (hW.qH i s hi)),hW.sz,λh2=>by simp at h2⟩
  ·intro i f t hf ht
   match i,hf,ht with
   |0,hf,ht=>
    simp at hf ht
    subst hf ht;exact⟨⟨_,aJ cw dx.1,⟨_,rfl,by decide⟩⟩,by rw[pP cw dx.1];exact dx.2⟩
   |i+1,hf,_=>simp at hf
  ·intro t ht;simp only[g_]at ht;subst ht;exact⟨by show w0.heap.size<=w.heap.size;exact hsz,λe2=>by have:=(sT e2).1;omega,by show w.heap.size≠_;omega,by show w.heap.size≠_;omega⟩
  intro i f t hf ht
  match i,hf,ht with
  |0,hf,ht=>
   simp at hf ht
   subst hf ht;rw[dr _ _ _ _ rfl];rfl
  |i+1,hf,_=>simp at hf
 clear hW1;go_wp2_with fail
 apply(uF A w0 _ rb _ [0] _ ws sa wb wo wc _ HS.1 lU hW.sa hW.few).mono;rintro v w2 ⟨rfl,us,jI,gq,gu,eP⟩;obtain⟨u,rfl⟩:∃u,us=[u]:=by
  match us,jI with
  |[u],_=>exact⟨u,rfl⟩
 obtain⟨q,rfl,hq⟩:=gq 0 0 u rfl rfl;have HV:U ((bB (a_ e.au) false [0] (ws.map bl)).1=0->∀s,ws[0]?=J s->q=s):=λh0 s hs=>by
  have:=gu h0 0 0 s _ rfl hs rfl;unfold valOf at this;rw[aU rfl]at this;exact Value.string.inj this
 have cB:U _:=Cl (bu.trans ((aS _ _).mono bu.size)) (λt ht=>by simp only[g_]at ht;subst ht;exact aR _) eP;have cp:w2.cell? (ai w.heap.size 0 I)=J (.string q):=by
  have h1:=zS (u:=.string q) (aJ (aS W1 (.cells #[.iface 323 (.pointer (J (ai w.heap.size 0 I)))] 20)) dx.1);have h2:=eP.cell (p:=⟨w.heap.size,0,I⟩) (by show w.heap.size<_;have:=iI.o;simp;omega);exact h2.trans h1
 clear jI gq gu eP lU dx;have bZ:U _:=h.below cB;have jP:U _:=bp jq.o cB.size;have c2:w2.cell? ⟨g,o+2,I⟩=J (.slice fa e.au.length fc):=by rw[ho.o,<- fJ.o];exact(bZ.pQ (j:=2) rfl).1
 have c6:=bZ.Ck.c6;obtain⟨D,hD,T_⟩:=bZ.map;have hkey:keyOf _ 9 _=J (pJ q):=G' underlying9 (by unfold maxLen;omega);obtain⟨w3,hrun,F5,hturn⟩:=World.ownsMap.store (w:=w2.drew) (hD:w2.drew.ownsMap _ _ _ _ _ _) ui underlying216 (by unfold maxLen;omega) hkey (plainElem_int underlying3 (a:=(e.au.length:Int)) (by go_wf));have HM:U (∃D:DataW _,w3.ownsMap _ 9 _ mb _ D/\vS D _):=⟨_,F5,aga T_ hD.isMap q⟩;have HT:U _:=hturn.grown;have nX:U (jT w0.heap.size rb L g cap mb w3 c last es e x cells):=by
  obtain⟨ms,cl,h1,h2⟩:=id hD;exact(bZ.tojT.below (w':=w2.drew) (aF _ w2).drew).mapped HT h1
 clear F5 hturn hD T_ hkey;go_wp2_with fail
 have fC:U _:=((HS.2.trans (cB.mono HS.2.size)).drew).grown HT (by have:=HS.2.size;have:=cB.size;show _<=w2.heap.size;omega) (λk hk=>by cases hk;exact nX.qC);have aof:=HT.cell cp (λe2=>by
  obtain⟨D',⟨ms,cl,h1,-⟩,-⟩:=bZ.map;simp only[dJ]at e2;have h3:w2.heap[w.heap.size]?=J (.map ms cl):=by rw[e2];exact h1
  unfold aH at cp;simp only[h3]at cp
  cases cp)
 have Ua:U _:=bp jP.o HT.size;have vq:=Ua.o;have c8:w3.cell? ⟨g,o+2,I⟩=J (.slice fa e.au.length fc):=by rw[ho.o,<- fJ.o];exact(nX.pQ (j:=2) rfl).1
 have hown:w3.drew.ownsRow L 9 1 (.slice fa e.au.length fc) e.au.length (e.au.flatMap ct):=by rw[<- fJ.o];exact nX.new.hp
 have KB:U (∀(ob:Obj) (w8:ak),(w3.drew.alloc ob).grownBy w8 (Value.slice fa e.au.length fc).ownBlock->w8.cell? ⟨g,o+2,I⟩=J (.slice fa e.au.length fc)/\w8.frozen? ⟨g,o+2,I⟩=false):=λob w8 hg=>by
  have MX:=nX.below (w':=w3.drew.alloc ob) ((aF _ w3).drew.alloc (by simp) ob);obtain⟨cur,hc,-⟩:=MX.grow;rw[<- fJ.o]at hg⊢;rw[ho.o];have e1:=(hg.block g (bL hc) (λe2=>ja MX.new.hp hc (ar rfl) e2.symm));have h2:=MX.pQ (j:=2) (u:=x.p) rfl;exact⟨(mH e1).trans h2.1,by have:=h2.2;unfold bM at this⊢;simp only at this⊢;rw[e1];exact this⟩
 have DU:∀ob,(w3.alloc ob).cell? _=J _:=λob=>aJ (aS _ _) c8
 go_region
 all_goals
  clear hrun c2 c6 cp;go_wp2_with fail
  go_region_law (refine qX _ rfl _ _ 37 rfl L 9 i0 _ 1 16 underlying37 hi hz0 hz1 hz2 rfl (ar rfl) _ _ _ (by simp[Act.eval]) (hown.alloc _) _ 1 1 _ (by simp[Act.eval]) rfl (ag7 _ q 9) (Ko q) (ar rfl) (by unfold maxLen;omega) (by omega) (by simp;omega) (w3.heap.size+1) (by simp) ?_;intro g' cap' w8 eV cQ cH nA;have r8:=KB _ _ cQ;have d1:=r8.1;have d2:=r8.2)
 all_goals
  go_wp2;go_ret
  refine⟨rfl,?_,q,{ x with p:=.slice (J (ai g' 0 I)) (e.au.length+1) cap' },HV,?_,?_⟩
  ·obtain⟨cur,-,hB⟩:=nX.grow;have b4:Below _ w0 (w3.drew.alloc (.cells #[.string q] 9)):=fC.trans (((aF _ w3).drew.alloc (by simp) _).mono fC.size);rw[<- fJ.o]at cQ;exact(b4.grown cQ b4.size (λk hk=>bp nX.uG (nX.new.hp.lt k hk).1)).setCell (p:=⟨g,_,_⟩) hB _
  ·rw[ho.o];obtain⟨D',m1,m2⟩:=HM.o;exact(nX.below (w':=w3.drew.alloc _) ((aF _ w3).drew.alloc (by simp) _)).agN q ⟨D',m1.drew.alloc _,m2⟩ (by rw[fJ.o];exact cQ) eV
  have h1:=cQ.size;have h2:=Ua.o;simp[bN]at h1⊢
  omega
def ag9(A:Nat->aC)(w0 w:ak)(rb L g cap mb:Nat)(c:aX)(last:Int)(es:List aM)(e:aM)(x:dN)(cells:List aw)(sa:Option aC)(ws:List ByteArray)(wb wo wc:Nat)(hs:dG A w0)(hb0:Below w0.heap.size w0 w)(h:dy w0.heap.size rb L g cap mb w c last es e x cells)(jq:L<=w.heap.size)(hW:jU w sa ws wb wo)(hn:e.au.length<=1000000):Calls prog 250 #[aq (J (ai rb 0 I)),aq (J ⟨g,es.length*10,I⟩),ae af 4,aj sa ws.length wc] w λv w'=>v=ax (cP A (bB (a_ e.au) false [0] (ws.map bl)).1)/\Below w0.heap.size w0 w'/\∃(q:ByteArray) (x':dN),((bB (a_ e.au) false [0] (ws.map bl)).1=0->∀s,ws[0]?=J s->q=s)/\dy w0.heap.size rb L g cap mb w' c last es { e with au:=e.au++[q] } x' cells/\L<=w'.heap.size:=by
 have hb1:Below _ w ((w.alloc (ay #[ae af 0] 164)).alloc (ay #[ae af 0] 164)):=(aS _ _).alloc (by simp) _;have HC:U _:=ag8 A w0 _ rb L g cap mb c _ es e x _ sa ws wb wo wc hs (hb0.trans (hb1.mono hb0.size)) (h.below hb1) (bp jq hb1.size) (hW.below hb1) hn;generalize es.length*10=o at HC⊢;go_enter func250,ntmps250
 go_wp2_with fail
 refine aO HC.o ?_;rintro v w2 ⟨rfl,(h1:U _),(h2:U _)⟩;go_wp2;go_ret;exact⟨rfl,h1,h2⟩
def sV{look:Bs->Option Nat}:∀(fs:List Nat) (ws:List Bs),(bB look false fs ws).1=0->ws.length=fs.length/\(bB look false fs ws).2.length=fs.length/\∀(i:Nat) f w,fs[i]?=J f->ws[i]?=J w->(bB look false fs ws).2[i]?=J (bW look f w).2
 |[],ws,h=>by
  have:=Xa h;subst this;exact⟨rfl,rfl,λi f w hf=>by simp at hf⟩
 |f::fs,ws,h=>by
  obtain⟨w,CR,rfl,h1,h2,h3⟩:=W7 h;obtain⟨a,b,d⟩:=sV fs CR h2;rw[h3]
  refine⟨by simp[a],by simp[b],λi f' w' hf hw=>?_⟩
  cases i with
  |zero=>
   simp at hf hw
   subst hf hw;rfl
  |succ i=>
   simp at hf hw⊢
   exact d i f' w' hf hw
structure uH(n:Nat)(e:aM):Prop where
 p:e.au.length<=n
 g:e.aV.length<=n
 d:e.aP.length<=n
 f:e.first.length<=n
 l:e.last.length<=n
def uH.mono{m:Nat}(h:uH n e)(hm:n<=m):uH m e:=⟨bp h.p hm,bp h.g hm,bp h.d hm,bp h.f hm,bp h.l hm⟩
def uH.upd{ws:List Bs}(h:uH n e):uH (n+1) (px k ws vs e):=by
 obtain⟨p,g,ee,f,l⟩:=h;unfold px
 split
 all_goals exact⟨by simp;omega,by simp;omega,by simp;omega,by simp;omega,by simp;omega⟩
def oD{z:Int}(h:vs[i]?=J z):vs.getD i 0=z:=by rw[fp,h];rfl
def mW(h:ws.length=n)(hi:i<n):∃s,ws[i]?=J s:=⟨ws[i]'(by omega),bq _⟩
def jT.c4{last:Int}{cells:List aw}(h:jT B rb L g cap mb w c last es e x cells):w.cell? (ai rb 4 I)=J (aj (J (ai g 0 I)) (es.length+1) cap):=by have:=h.row;simp[aH,this,gK]
def ag_(A:Nat->aC)(w0 w:ak)(rb L g cap mb k:Nat)(c:aX)(last:Int)(es:List aM)(e:aM)(x:dN)(cells:List aw)(sa:Option aC)(ws:List ByteArray)(wb wo wc:Nat)(hs:dG A w0)(hb0:Below w0.heap.size w0 w)(h:dy w0.heap.size rb L g cap mb w c last es e x cells)(jq:L<=w.heap.size)(hW:jU w sa ws wb wo)(hn:uH 1000000 e)(hk:4<=k)(hk2:k<10):Calls prog 250 #[aq (J (ai rb 0 I)),aq (J ⟨g,es.length*10,I⟩),ae af (k:Int),aj sa ws.length wc] w λv w'=>v=ax (cP A (bB (a_ e.au) false (form k) (ws.map bl)).1)/\Below w0.heap.size w0 w'/\w'.cell? (ai rb 4 I)=J (aj (J (ai g 0 I)) (es.length+1) cap)/\((bB (a_ e.au) false (form k) (ws.map bl)).1=0->∃x',dy w0.heap.size rb L g cap mb w' c last es (px k (ws.map bl) (bB (a_ e.au) false (form k) (ws.map bl)).2 e) x' cells/\L<=w'.heap.size):=by
 match k,hk,hk2 with
 |4,_,_=>
  apply(ag9 A w0 w rb L g cap mb c _ es e x _ sa ws wb wo wc hs hb0 h jq hW hn.p).mono;rintro v w' ⟨rfl,hb,q,x',hv,hr,hL⟩
  refine⟨rfl,hb,hr.c4,λh0=>⟨x',?_,hL⟩⟩;obtain⟨hl,-,hd⟩:=sV _ _ h0;obtain⟨s,hs0⟩:=mW (i:=0) (by simpa[form]using hl) (ar rfl);have hq:=hv h0 s hs0;subst hq;have e1:(ws.map bl).getD 0 []=bl q:=by rw[fp,gY,hs0];rfl
  show dy _ _ _ _ _ _ _ _ _ _ (aM.mk ..) _ _
  rw[e1,show (⟨_⟩:ByteArray)=q from oK (rS _)];exact hr
 |5,_,_=>
  apply(agY A w0 w rb L g cap mb c _ es e x _ sa ws wb wo wc hs hb0 h jq hW).mono;rintro v w' ⟨rfl,hb,z0,z1,z2,hv,hr,hL⟩
  refine⟨rfl,hb,hr.c4,λh0=>⟨x,?_,hL⟩⟩;obtain⟨hl,-,hd⟩:=sV _ _ h0;obtain⟨s0,q0⟩:=mW (i:=0) (by simpa[form]using hl) (ar rfl);obtain⟨s1,q1⟩:=mW (i:=1) (by simpa[form]using hl) (ar rfl);obtain⟨s2,q2⟩:=mW (i:=2) (by simpa[form]using hl) (ar rfl);obtain⟨v0,v1,v2⟩:=hv h0;show dy _ _ _ _ _ _ _ _ _ _ (aM.mk ..) _ _
  rw[oD (hd 0 2 _ rfl (by rw[gY,q0];rfl)),oD (hd 1 1 _ rfl (by rw[gY,q1];rfl)),oD (hd 2 1 _ rfl (by rw[gY,q2];rfl)),<- v0 s0 q0,<- v1 s1 q1,<- v2 s2 q2];exact hr
 |6,_,_=>
  apply(agV A w0 w rb L g cap mb c _ es e x _ sa ws wb wo wc hs hb0 h jq hW hn.g).mono;rintro v w' ⟨rfl,hb,z0,z1,z2,z3,x',hv,hr,hL⟩
  refine⟨rfl,hb,hr.c4,λh0=>⟨x',?_,hL⟩⟩;obtain⟨hl,-,hd⟩:=sV _ _ h0;obtain⟨s0,q0⟩:=mW (i:=0) (by simpa[form]using hl) (ar rfl);obtain⟨s1,q1⟩:=mW (i:=1) (by simpa[form]using hl) (ar rfl);obtain⟨s2,q2⟩:=mW (i:=2) (by simpa[form]using hl) (ar rfl);obtain⟨s3,q3⟩:=mW (i:=3) (by simpa[form]using hl) (ar rfl);obtain⟨v0,v1,v2,v3⟩:=hv h0;show dy _ _ _ _ _ _ _ _ _ _ (aM.mk ..) _ _
  rw[oD (hd 0 2 _ rfl (by rw[gY,q0];rfl)),oD (hd 1 2 _ rfl (by rw[gY,q1];rfl)),oD (hd 2 1 _ rfl (by rw[gY,q2];rfl)),oD (hd 3 1 _ rfl (by rw[gY,q3];rfl)),<- v0 s0 q0,<- v1 s1 q1,<- v2 s2 q2,<- v3 s3 q3];exact hr
 |7,_,_=>
  apply(agU A w0 w rb L g cap mb c _ es e x _ sa ws wb wo wc hs hb0 h jq hW hn.d).mono;rintro v w' ⟨rfl,hb,z0,z1,x',hv,hr,hL⟩
  refine⟨rfl,hb,hr.c4,λh0=>⟨x',?_,hL⟩⟩;obtain⟨hl,-,hd⟩:=sV _ _ h0;obtain⟨s0,q0⟩:=mW (i:=0) (by simpa[form]using hl) (ar rfl);obtain⟨s1,q1⟩:=mW (i:=1) (by simpa[form]using hl) (ar rfl);obtain⟨v0,v1⟩:=hv h0;show dy _ _ _ _ _ _ _ _ _ _ (aM.mk ..) _ _
  rw[oD (hd 0 2 _ rfl (by rw[gY,q0];rfl)),oD (hd 1 2 _ rfl (by rw[gY,q1];rfl)),<- v0 s0 q0,<- v1 s1 q1];exact hr
 |8,_,_=>
  apply(agS A w0 w rb L g cap mb c _ es e x _ sa ws wb wo wc hs hb0 h jq hW hn.f).mono;rintro v w' ⟨rfl,hb,z0,x',hv,hr,hL⟩
  refine⟨rfl,hb,hr.c4,λh0=>⟨x',?_,hL⟩⟩;obtain⟨hl,-,hd⟩:=sV _ _ h0;obtain⟨s0,q0⟩:=mW (i:=0) (by simpa[form]using hl) (ar rfl);show dy _ _ _ _ _ _ _ _ _ _ (aM.mk ..) _ _
  rw[oD (hd 0 2 _ rfl (by rw[gY,q0];rfl)),<- hv h0 s0 q0];exact hr
 |9,_,_=>
  apply(agT A w0 w rb L g cap mb c _ es e x _ sa ws wb wo wc hs hb0 h jq hW hn.l).mono;rintro v w' ⟨rfl,hb,z0,x',hv,hr,hL⟩
  refine⟨rfl,hb,hr.c4,λh0=>⟨x',?_,hL⟩⟩;obtain⟨hl,-,hd⟩:=sV _ _ h0;obtain⟨s0,q0⟩:=mW (i:=0) (by simpa[form]using hl) (ar rfl);show dy _ _ _ _ _ _ _ _ _ _ (aM.mk ..) _ _
  rw[oD (hd 0 2 _ rfl (by rw[gY,q0];rfl)),<- hv h0 s0 q0];exact hr
 |k+10,_,h10=>exact absurd h10 (by omega)
def jJ(B rb:Nat)(w:ak)(c:aX)(last:Int):Prop:=oB B rb w c last\/∃L g cap mb es e x cells,c.az=es++[e]/\dy B rb L g cap mb w c last es e x cells/\L<=w.heap.size
abbrev Aa (rb:Nat):Obj:=(.cells #[.iface 295 (.pointer (some ⟨rb,0,none⟩)),.iface 295 (.pointer (some ⟨rb,1,none⟩))] 20)
abbrev Ab (rb:Nat):Obj:=(.cells #[.iface 295 (.pointer (some ⟨rb,2,none⟩))] 20)
abbrev Ac (rb:Nat):Obj:=(.cells #[.iface 295 (.pointer (some ⟨rb,3,none⟩))] 20)
def ag'(es:List aM)(e:aM):fy (es++[e])=e.au:=by simp[fy]
def aha{f:Nat}(hf:f<2)(w:Bs):bW l1 f w=bW l2 f w:=by
 unfold bW
 match f,hf with
 |0,_=>rfl
 |1,_=>rfl
def Ub:∀(fs:List Nat) (ws:List Bs) (nn:Bool),(∀f∈fs,f<2)->bB l1 nn fs ws=bB l2 nn fs ws
 |[],[],_,_=>rfl
 |[],_::_,_,_=>rfl
 |_::_,[],_,_=>rfl
 |f::fs,w::ws,nn,h=>by
  have e:=aha (l1:=l1) (l2:=l2) (h f (by simp)) w;unfold bB;rw[e]
  split
  ·rfl
  rw[Ub fs ws _ (λf hf=>h f (by simp[hf]))]
def ahb(A:Nat->aC)(w0 w:ak)(rb:Nat)(c:aX)(last:Int)(sa:Option aC)(ws:List ByteArray)(wb wo wc:Nat)(hs:dG A w0)(hb0:Below w0.heap.size w0 w)(h:oB w0.heap.size rb w c last)(hW:jU w sa ws wb wo)(q:Nat):Calls prog 248 #[aq (J (ai rb 0 I)),aj sa ws.length wc,aj (J (ai w.heap.size 0 I)) 2 2] ((w.drewN q).alloc (Aa rb)) λv w2=>v=ax (cP A (bB (a_ []) false [1,1] (ws.map bl)).1)/\Below w0.heap.size w0 w2/\∃z0 z1:Int,((bB (a_ []) false [1,1] (ws.map bl)).1=0->(∀s,ws[0]?=J s->z0=(bW (a_ []) 1 (bl s)).2)/\(∀s,ws[1]?=J s->z1=(bW (a_ []) 1 (bl s)).2))/\oB w0.heap.size rb w2 ⟨z0,z1,c.cycle,c.bE,c.az⟩ last:=by
 have cw:Below w.heap.size w ((w.drewN q).alloc (Aa rb)):=(br (aF _ _) q).alloc (aR _) _;have hrow:=a8 cw h.row;have lH:=bL h.row;have hlt:=hW.lt;have hne:rb≠wb:=λe2=>by
  obtain⟨cc,fr,hh⟩:=hW.blk;have h1:=h.row;rw[e2,hh]at h1;simp only[dJ,kY]at h1;exact absurd h1.2.1 (ar rfl)
 have EN:o6 w0 rb [] [1,1] [(rb,0),(rb,1)] ws wb wo w.heap.size ((w.drewN q).alloc (Aa rb)):=by
  refine⟨hb0.trans (cw.mono hb0.size),rfl,by simp,by simp,?_,?_,by simp,?_,λi s hi=>aJ cw (hW.qH i s hi),hW.sz,λh2=>by simp at h2⟩
  ·intro i f t hf ht
   match i,hf,ht with
   |0,hf,ht=>
    simp at hf ht
    subst hf ht;exact⟨⟨ae af c.closed,by simp[aH,hrow,gK],⟨_,rfl⟩⟩,by simp[bM,hrow]⟩
   |1,hf,ht=>
    simp at hf ht
    subst hf ht;exact⟨⟨ae af c.opn,by simp[aH,hrow,gK],⟨_,rfl⟩⟩,by simp[bM,hrow]⟩
   |i+2,hf,_=>simp at hf
  ·intro t ht;simp only[fe,jL,j4]at ht
   rcases ht with rfl|rfl
   all_goals exact⟨h.lo,λe2=>by simp at e2,by simp only[];omega,hne⟩
  intro i f t hf ht
  match i,hf,ht with
  |0,hf,ht=>
   simp at hf ht
   subst hf ht;show aH _ ⟨(w.drewN q).heap.size,_,_⟩=_
   rw[dr _ _ _ _ rfl];rfl
  |1,hf,ht=>
   simp at hf ht
   subst hf ht;show aH _ ⟨(w.drewN q).heap.size,_,_⟩=_
   rw[dr _ _ _ _ rfl];rfl
  |i+2,hf,_=>simp at hf
 apply(uF A w0 _ rb [] _ _ ws sa wb wo wc _ hs EN hW.sa hW.few).mono;rintro v w2 ⟨rfl,us,jI,gq,gu,eP⟩;obtain⟨u0,u1,rfl⟩:∃u0 u1,us=[u0,u1]:=by
  match us,jI with
  |[u0,u1],_=>exact⟨u0,u1,rfl⟩
 obtain⟨z0,rfl⟩:=gq 0 1 u0 rfl rfl;obtain⟨z1,rfl⟩:=gq 1 1 u1 rfl rfl;have hsz:(dH ((w.drewN q).alloc (Aa rb)) [(rb,0),(rb,1)] [ae af z0,ae af z1]).heap.size=((w.drewN q).alloc (Aa rb)).heap.size:=by simp[dH]
 have qK:Below (dH ((w.drewN q).alloc (Aa rb)) [(rb,0),(rb,1)] [ae af z0,ae af z1]).heap.size (dH ((w.drewN q).alloc (Aa rb)) [(rb,0),(rb,1)] [ae af z0,ae af z1]) w2:=by rw[hsz];exact eP
 have b1:Below _ w0 (dH _ [(rb,0),(rb,1)] [ae af z0,ae af z1]):=(hb0.trans (cw.mono hb0.size)).trans (zU _ _ _ _ (λt ht=>by simp at ht;first|(subst ht;exact h.lo)|(rcases ht with rfl|rfl<;>exact h.lo)))
 refine⟨rfl,b1.trans (qK.mono b1.size),z0,z1,λh0=>⟨(λs hs=>by have:=gu h0 0 1 s _ rfl hs rfl;unfold valOf at this;rw[aK (ar rfl)]at this;exact(oA this).2),(λs hs=>by have:=gu h0 1 1 s _ rfl hs rfl;unfold valOf at this;rw[aK (ar rfl)]at this;exact(oA this).2)⟩,h.lo,h.nil,a8 qK ?_⟩;simp only[dH,bN,cL,hrow];simp[gK]
def ahc(A:Nat->aC)(w0 w:ak)(rb:Nat)(c:aX)(last:Int)(sa:Option aC)(ws:List ByteArray)(wb wo wc:Nat)(hs:dG A w0)(hb0:Below w0.heap.size w0 w)(h:oB w0.heap.size rb w c last)(hW:jU w sa ws wb wo)(q:Nat):Calls prog 248 #[aq (J (ai rb 0 I)),aj sa ws.length wc,aj (J (ai w.heap.size 0 I)) 1 1] ((w.drewN q).alloc (Ab rb)) λv w2=>v=ax (cP A (bB (a_ []) false [1] (ws.map bl)).1)/\Below w0.heap.size w0 w2/\∃z0:Int,((bB (a_ []) false [1] (ws.map bl)).1=0->(∀s,ws[0]?=J s->z0=(bW (a_ []) 1 (bl s)).2))/\oB w0.heap.size rb w2 ⟨c.closed,c.opn,z0,c.bE,c.az⟩ last:=by
 have cw:Below w.heap.size w ((w.drewN q).alloc (Ab rb)):=(br (aF _ _) q).alloc (aR _) _;have hrow:=a8 cw h.row;have lH:=bL h.row;have hlt:=hW.lt;have hne:rb≠wb:=λe2=>by
  obtain⟨cc,fr,hh⟩:=hW.blk;have h1:=h.row;rw[e2,hh]at h1;simp only[dJ,kY]at h1;exact absurd h1.2.1 (ar rfl)
 have EN:o6 w0 rb [] [1] [(rb,2)] ws wb wo w.heap.size ((w.drewN q).alloc (Ab rb)):=by
  refine⟨hb0.trans (cw.mono hb0.size),rfl,by simp,by simp,?_,?_,by simp,?_,λi s hi=>aJ cw (hW.qH i s hi),hW.sz,λh2=>by simp at h2⟩
  ·intro i f t hf ht
   match i,hf,ht with
   |0,hf,ht=>
    simp at hf ht
    subst hf ht;exact⟨⟨ae af c.cycle,by simp[aH,hrow,gK],⟨_,rfl⟩⟩,by simp[bM,hrow]⟩
   |i+1,hf,_=>simp at hf
  ·intro t ht;simp only[fe,jL,j4]at ht;subst ht;exact⟨h.lo,λe2=>by simp at e2,by simp only[];omega,hne⟩
  intro i f t hf ht
  match i,hf,ht with
  |0,hf,ht=>
   simp at hf ht
   subst hf ht;show aH _ ⟨(w.drewN q).heap.size,_,_⟩=_
   rw[dr _ _ _ _ rfl];rfl
  |i+1,hf,_=>simp at hf
 apply(uF A w0 _ rb [] [1] _ ws sa wb wo wc _ hs EN hW.sa hW.few).mono;rintro v w2 ⟨rfl,us,jI,gq,gu,eP⟩;obtain⟨u0,rfl⟩:∃u0,us=[u0]:=by
  match us,jI with
  |[u0],_=>exact⟨u0,rfl⟩
 obtain⟨z0,rfl⟩:=gq 0 1 u0 rfl rfl;have hsz:(dH ((w.drewN q).alloc (Ab rb)) [(rb,2)] [ae af z0]).heap.size=((w.drewN q).alloc (Ab rb)).heap.size:=by simp[dH]
 have qK:Below (dH ((w.drewN q).alloc (Ab rb)) [(rb,2)] [ae af z0]).heap.size (dH ((w.drewN q).alloc (Ab rb)) [(rb,2)] [ae af z0]) w2:=by rw[hsz];exact eP
 have b1:Below _ w0 (dH _ [(rb,2)] [ae af z0]):=(hb0.trans (cw.mono hb0.size)).trans (zU _ _ _ _ (λt ht=>by simp at ht;first|(subst ht;exact h.lo)|(rcases ht with rfl|rfl<;>exact h.lo)))
 refine⟨rfl,b1.trans (qK.mono b1.size),z0,λh0=>(λs hs=>by have:=gu h0 0 1 s _ rfl hs rfl;unfold valOf at this;rw[aK (ar rfl)]at this;exact(oA this).2),h.lo,h.nil,a8 qK ?_⟩;simp only[dH,bN,cL,hrow];simp[gK]
def ahd(A:Nat->aC)(w0 w:ak)(rb:Nat)(c:aX)(last:Int)(sa:Option aC)(ws:List ByteArray)(wb wo wc:Nat)(hs:dG A w0)(hb0:Below w0.heap.size w0 w)(h:oB w0.heap.size rb w c last)(hW:jU w sa ws wb wo)(q:Nat):Calls prog 248 #[aq (J (ai rb 0 I)),aj sa ws.length wc,aj (J (ai w.heap.size 0 I)) 1 1] ((w.drewN q).alloc (Ac rb)) λv w2=>v=ax (cP A (bB (a_ []) false [1] (ws.map bl)).1)/\Below w0.heap.size w0 w2/\∃z0:Int,((bB (a_ []) false [1] (ws.map bl)).1=0->(∀s,ws[0]?=J s->z0=(bW (a_ []) 1 (bl s)).2))/\oB w0.heap.size rb w2 ⟨c.closed,c.opn,c.cycle,z0,c.az⟩ last:=by
 have cw:Below w.heap.size w ((w.drewN q).alloc (Ac rb)):=(br (aF _ _) q).alloc (aR _) _;have hrow:=a8 cw h.row;have lH:=bL h.row;have hlt:=hW.lt;have hne:rb≠wb:=λe2=>by
  obtain⟨cc,fr,hh⟩:=hW.blk;have h1:=h.row;rw[e2,hh]at h1;simp only[dJ,kY]at h1;exact absurd h1.2.1 (ar rfl)
 have EN:o6 w0 rb [] [1] [(rb,3)] ws wb wo w.heap.size ((w.drewN q).alloc (Ac rb)):=by
  refine⟨hb0.trans (cw.mono hb0.size),rfl,by simp,by simp,?_,?_,by simp,?_,λi s hi=>aJ cw (hW.qH i s hi),hW.sz,λh2=>by simp at h2⟩
  ·intro i f t hf ht
   match i,hf,ht with
   |0,hf,ht=>
    simp at hf ht
    subst hf ht;exact⟨⟨ae af c.bE,by simp[aH,hrow,gK],⟨_,rfl⟩⟩,by simp[bM,hrow]⟩
   |i+1,hf,_=>simp at hf
  ·intro t ht;simp only[fe,jL,j4]at ht;subst ht;exact⟨h.lo,λe2=>by simp at e2,by simp only[];omega,hne⟩
  intro i f t hf ht
  match i,hf,ht with
  |0,hf,ht=>
   simp at hf ht
   subst hf ht;show aH _ ⟨(w.drewN q).heap.size,_,_⟩=_
   rw[dr _ _ _ _ rfl];rfl
  |i+1,hf,_=>simp at hf
 apply(uF A w0 _ rb [] [1] _ ws sa wb wo wc _ hs EN hW.sa hW.few).mono;rintro v w2 ⟨rfl,us,jI,gq,gu,eP⟩;obtain⟨u0,rfl⟩:∃u0,us=[u0]:=by
  match us,jI with
  |[u0],_=>exact⟨u0,rfl⟩
 obtain⟨z0,rfl⟩:=gq 0 1 u0 rfl rfl;have hsz:(dH ((w.drewN q).alloc (Ac rb)) [(rb,3)] [ae af z0]).heap.size=((w.drewN q).alloc (Ac rb)).heap.size:=by simp[dH]
 have qK:Below (dH ((w.drewN q).alloc (Ac rb)) [(rb,3)] [ae af z0]).heap.size (dH ((w.drewN q).alloc (Ac rb)) [(rb,3)] [ae af z0]) w2:=by rw[hsz];exact eP
 have b1:Below _ w0 (dH _ [(rb,3)] [ae af z0]):=(hb0.trans (cw.mono hb0.size)).trans (zU _ _ _ _ (λt ht=>by simp at ht;first|(subst ht;exact h.lo)|(rcases ht with rfl|rfl<;>exact h.lo)))
 refine⟨rfl,b1.trans (qK.mono b1.size),z0,λh0=>(λs hs=>by have:=gu h0 0 1 s _ rfl hs rfl;unfold valOf at this;rw[aK (ar rfl)]at this;exact(oA this).2),h.lo,h.nil,a8 qK ?_⟩;simp only[dH,bN,cL,hrow];simp[gK]
def ahe(A:Nat->aC)(w0 w:ak)(rb:Nat)(c:aX)(last:Int)(sa:Option aC)(ws:List ByteArray)(wb wo wc:Nat)(hs:dG A w0)(hb0:Below w0.heap.size w0 w)(h:oB w0.heap.size rb w c last)(hW:jU w sa ws wb wo):Calls prog 212 #[aq (J (ai rb 0 I)),ae af 0,aj sa ws.length wc] w λv w'=>v=ax (cP A (bB (a_ (fy c.az)) false (form 0) (ws.map bl)).1)/\Below w0.heap.size w0 w'/\((bB (a_ (fy c.az)) false (form 0) (ws.map bl)).1=0->jJ w0.heap.size rb w' (iP c 0 (ws.map bl) (bB (a_ (fy c.az)) false (form 0) (ws.map bl)).2) last):=by
 have HP:U (∀(zs:List Int),zs=(bB (a_ []) _ [1,1] _).2->(bB (a_ (fy c.az)) false (form 0) (ws.map bl)).2=zs):=λzs hz=>by rw[hz,h.nil];rfl
 have HF:U ((bB (a_ (fy c.az)) false (form 0) (ws.map bl)).1=(bB (a_ []) false [1,1] (ws.map bl)).1):=by show _=_;rw[h.nil];rfl
 have H:U _:=ahb A w0 w rb c _ sa ws wb wo wc hs hb0 h hW;go_enter func212,ntmps212
 go_upto_region 3 with fail
 go_region_held3 (λ_=>True) (exact trivial) (first|(go_at_call 248;refine aO (H.o _) ?_;rintro v w2 ⟨rfl,hb2,z0,z1,hv,hr⟩))
 all_goals
  change U _ at hv hb2 hr
  go_wp2;go_ret
  refine⟨by rw[HF.o];rfl,hb2,λh0=>aT ?_⟩;rw[HF.o]at h0;obtain⟨hl,-,hd⟩:=sV _ _ h0;obtain⟨s0,q0⟩:=mW (i:=0) (by simpa using hl) (ar rfl);obtain⟨s1,q1⟩:=mW (i:=1) (by simpa using hl) (ar rfl);show oB _ _ _ (aX.mk ..) _
  rw[HP.o _ rfl,oD (hd 0 1 _ rfl (by rw[gY,q0];rfl)),oD (hd 1 1 _ rfl (by rw[gY,q1];rfl)),<- (hv.o h0).1 s0 q0,<- (hv.o h0).2 s1 q1];exact hr
def ahf(A:Nat->aC)(w0 w:ak)(rb:Nat)(c:aX)(last:Int)(sa:Option aC)(ws:List ByteArray)(wb wo wc:Nat)(hs:dG A w0)(hb0:Below w0.heap.size w0 w)(h:oB w0.heap.size rb w c last)(hW:jU w sa ws wb wo):Calls prog 212 #[aq (J (ai rb 0 I)),ae af 1,aj sa ws.length wc] w λv w'=>v=ax (cP A (bB (a_ (fy c.az)) false (form 1) (ws.map bl)).1)/\Below w0.heap.size w0 w'/\((bB (a_ (fy c.az)) false (form 1) (ws.map bl)).1=0->jJ w0.heap.size rb w' (iP c 1 (ws.map bl) (bB (a_ (fy c.az)) false (form 1) (ws.map bl)).2) last):=by
 have HP:U (∀(zs:List Int),zs=(bB (a_ []) _ [1] _).2->(bB (a_ (fy c.az)) false (form 1) (ws.map bl)).2=zs):=λzs hz=>by rw[hz,h.nil];rfl
 have HF:U ((bB (a_ (fy c.az)) false (form 1) (ws.map bl)).1=(bB (a_ []) false [1] (ws.map bl)).1):=by show _=_;rw[h.nil];rfl
 have H:U _:=ahc A w0 w rb c _ sa ws wb wo wc hs hb0 h hW;go_enter func212,ntmps212
 go_wp2_with fail
 refine aO (H.o 0) ?_;rintro v w2 ⟨rfl,(hb2:U _),z0,(hv:U _),(hr:U _)⟩;go_wp2;go_ret
 refine⟨by rw[HF.o];rfl,hb2,λh0=>aT ?_⟩;rw[HF.o]at h0;obtain⟨hl,-,hd⟩:=sV _ _ h0;obtain⟨s0,q0⟩:=mW (i:=0) (by simpa using hl) (ar rfl);show oB _ _ _ (aX.mk ..) _
 rw[HP.o _ rfl,oD (hd 0 1 _ rfl (by rw[gY,q0];rfl)),<- hv.o h0 s0 q0];exact hr
def ahg(A:Nat->aC)(w0 w:ak)(rb:Nat)(c:aX)(last:Int)(sa:Option aC)(ws:List ByteArray)(wb wo wc:Nat)(hs:dG A w0)(hb0:Below w0.heap.size w0 w)(h:oB w0.heap.size rb w c last)(hW:jU w sa ws wb wo):Calls prog 212 #[aq (J (ai rb 0 I)),ae af 2,aj sa ws.length wc] w λv w'=>v=ax (cP A (bB (a_ (fy c.az)) false (form 2) (ws.map bl)).1)/\Below w0.heap.size w0 w'/\((bB (a_ (fy c.az)) false (form 2) (ws.map bl)).1=0->jJ w0.heap.size rb w' (iP c 2 (ws.map bl) (bB (a_ (fy c.az)) false (form 2) (ws.map bl)).2) last):=by
 have HP:U (∀(zs:List Int),zs=(bB (a_ []) _ [1] _).2->(bB (a_ (fy c.az)) false (form 2) (ws.map bl)).2=zs):=λzs hz=>by rw[hz,h.nil];rfl
 have HF:U ((bB (a_ (fy c.az)) false (form 2) (ws.map bl)).1=(bB (a_ []) false [1] (ws.map bl)).1):=by show _=_;rw[h.nil];rfl
 have H:U _:=ahd A w0 w rb c _ sa ws wb wo wc hs hb0 h hW;go_enter func212,ntmps212
 go_wp2_with fail
 refine aO (H.o 0) ?_;rintro v w2 ⟨rfl,(hb2:U _),z0,(hv:U _),(hr:U _)⟩;go_wp2;go_ret
 refine⟨by rw[HF.o];rfl,hb2,λh0=>aT ?_⟩;rw[HF.o]at h0;obtain⟨hl,-,hd⟩:=sV _ _ h0;obtain⟨s0,q0⟩:=mW (i:=0) (by simpa using hl) (ar rfl);show oB _ _ _ (aX.mk ..) _
 rw[HP.o _ rfl,oD (hd 0 1 _ rfl (by rw[gY,q0];rfl)),<- hv.o h0 s0 q0];exact hr
def ahh(A:Nat->aC)(w0 w:ak)(rb:Nat)(c:aX)(last:Int)(sa:Option aC)(ws:List ByteArray)(wb wo wc:Nat)(hs:dG A w0)(hb0:Below w0.heap.size w0 w)(h:jJ w0.heap.size rb w c last)(hW:jU w sa ws wb wo)(hn:c.az.length<=1000000):Calls prog 212 #[aq (J (ai rb 0 I)),ae af 3,aj sa ws.length wc] w λv w'=>v=ax (cP A (bB (a_ (fy c.az)) false (form 3) (ws.map bl)).1)/\Below w0.heap.size w0 w'/\((bB (a_ (fy c.az)) false (form 3) (ws.map bl)).1=0->jJ w0.heap.size rb w' (iP c 3 (ws.map bl) (bB (a_ (fy c.az)) false (form 3) (ws.map bl)).2) last):=by
 have HF:U (bB (a_ (fy c.az)) _ (form 3) _=bB (a_ []) false [0,1] (ws.map bl)):=Ub _ _ _ (by simp[form]);obtain⟨ev,mv,cells,hA⟩:∃ev mv cells,o9 w0.heap.size rb w c last ev mv c.az cells:=by
  rcases h with h|⟨L,g,cap,mb,es,e,x,cells,he,h,hL⟩
  ·have h2:=h.toA;rw[<- h.nil]at h2;exact⟨_,_,_,h2⟩
  have h2:=h.toA hL;rw[<- he]at h2;exact⟨_,_,_,h2⟩
 have H:U _:=ag5 A w0 w rb c _ ev mv _ _ sa ws wb wo wc hs hb0 hA hW hn;go_enter func212,ntmps212
 go_wp2_with fail
 refine aO H.o ?_;rintro v w2 ⟨rfl,(hb2:U _),nm,z,L,g,cap,mb,(hv:U _),hr,hL⟩;have bZ:U (dy _ rb L g cap mb w2 c _ _ _ _ _/\L<=w2.heap.size):=⟨hr,hL⟩;go_wp2;go_ret
 refine⟨by rw[HF.o];rfl,hb2,λh0=>aN ⟨L,g,cap,mb,c.az,yf nm z,ye,cells,?_,?_,bZ.2⟩⟩
 ·rw[HF.o]at h0⊢;obtain⟨hl,-,hd⟩:=sV _ _ h0;obtain⟨s0,q0⟩:=mW (i:=0) (by simpa using hl) (ar rfl);obtain⟨s1,q1⟩:=mW (i:=1) (by simpa using hl) (ar rfl);obtain⟨v0,v1⟩:=hv h0;have e1:(ws.map bl).getD 0 []=bl s0:=by rw[fp,gY,q0];rfl
  show c.az++[tF _ _]=_
  rw[oD (hd 1 1 _ rfl (by rw[gY,q1];rfl)),e1,<- v1 s1 q1,v0 s0 q0];unfold tF yf;rw[show (⟨_⟩:ByteArray)=s0 from oK (rS _)]
 exact⟨⟨bZ.1.lo,bZ.1.uG,bZ.1.qC,bZ.1.row,bZ.1.az,bZ.1.o8,bZ.1.olds,bZ.1.new,bZ.1.fl⟩,bZ.1.map⟩
def ahi(k:Nat)(A:Nat->aC)(w0 w:ak)(rb:Nat)(c:aX)(last:Int)(sa:Option aC)(ws:List ByteArray)(wb wo wc:Nat)(hs:dG A w0)(hb0:Below w0.heap.size w0 w)(hk:4<=k)(hk2:k<10)(L g cap mb:Nat)(es:List aM)(e:aM)(x:dN)(cells:List aw)(he:c.az=es++[e])(h:dy w0.heap.size rb L g cap mb w c last es e x cells)(hL:L<=w.heap.size)(hW:jU w sa ws wb wo)(hn:es.length<=1000000)(hsz:uH 1000000 e):Calls prog 212 #[aq (J (ai rb 0 I)),ae af (k:Int),aj sa ws.length wc] w λv w'=>v=ax (cP A (bB (a_ (fy c.az)) false (form k) (ws.map bl)).1)/\Below w0.heap.size w0 w'/\((bB (a_ (fy c.az)) false (form k) (ws.map bl)).1=0->jJ w0.heap.size rb w' (iP c k (ws.map bl) (bB (a_ (fy c.az)) false (form k) (ws.map bl)).2) last):=by
 have HF:U (fy c.az=e.au):=by show _=_;rw[he,ag']
 have H:U _:=λq=>ag_ A w0 _ rb L g cap mb k c _ es e x _ sa ws wb wo wc hs (br hb0 q) (h.below (br (aF _ _) q)) hL (hW.below (br (aF _ _) q)) hsz hk hk2
 have c4:w.cell? (ai rb 4 I)=J (aj (J (ai g 0 I)) (es.length+1) cap):=by have:=h.row;simp[aH,this,gK]
 obtain⟨m,hm⟩:∃m,m=es.length:=⟨_,rfl⟩;have HM:U _:=hm.symm;rw[<- hm]at c4 hn;have q0:(0:Int)<=(m:Int):=by omega
 have q1:(m:Int)<(m:Int)+1:=by omega
 have q2:IntKind.i64.wrap ((m:Int)+1-1)=m:=by rw[qg];omega
 have q3:IntKind.i64.wrap (m:Int)=m:=by rw[qg];omega
 have q5:¬(m:Int)<0:=by omega
 rw[<- hm]at H;clear hm;have k0:¬(k:Int)=0:=by omega
 have k1:¬(k:Int)=1:=by omega
 have k2:¬(k:Int)=2:=by omega
 have k3:¬(k:Int)=3:=by omega
 clear h hW hs hb0 hL hsz hk2;change U _ at hk he;go_enter func212,ntmps212
 go_upto_region 10 with fail
 go_region_held3 (λw'=>w'.cell? (ai rb 4 I)=J (aj (J (ai g 0 I)) (m+1) cap)) (first|exact c4|exact ahj) (first|(go_at_call 250;refine aO (H.o _) ?_;rintro v w2 ⟨rfl,hb2,ahj,hr⟩))
 all_goals
  change U _ at hb2 hr
  clear H c4;go_wp2;go_ret
  refine⟨by rw[HF.o];rfl,hb2,λh0=>?_⟩;rw[HF.o]at h0⊢;obtain⟨x',h1,h2⟩:=hr h0;have hu:iP c k (ws.map bl) (bB (a_ e.au) false (form k) (ws.map bl)).2=⟨c.closed,c.opn,c.cycle,c.bE,es++[px k (ws.map bl) (bB (a_ e.au) false (form k) (ws.map bl)).2 e]⟩:=by
   rw[<- CQ,<- he.o]
   match k,hk.o with
   |k+4,_=>rfl
  rw[hu];exact aN ⟨L,g,cap,mb,es,_,x',_,rfl,⟨⟨h1.lo,h1.uG,h1.qC,h1.row,h1.az,h1.o8,h1.olds,h1.new,h1.fl⟩,h1.map⟩,h2⟩
def ahk(A:Nat->aC)(w0 w:ak)(rb k:Nat)(c:aX)(last:Int)(sa:Option aC)(ws:List ByteArray)(wb wo wc:Nat)(hs:dG A w0)(hb0:Below w0.heap.size w0 w)(h:jJ w0.heap.size rb w c last)(hW:jU w sa ws wb wo)(hk:k<10)(hA:k<=2->c.az=[])(hB:4<=k->c.az≠[])(hn:c.az.length<=1000000)(hz:∀e∈c.az,uH 1000000 e):Calls prog 212 #[aq (J (ai rb 0 I)),ae af (k:Int),aj sa ws.length wc] w λv w'=>v=ax (cP A (bB (a_ (fy c.az)) false (form k) (ws.map bl)).1)/\Below w0.heap.size w0 w'/\((bB (a_ (fy c.az)) false (form k) (ws.map bl)).1=0->jJ w0.heap.size rb w' (iP c k (ws.map bl) (bB (a_ (fy c.az)) false (form k) (ws.map bl)).2) last):=by
 have MZ:c.az=[]->oB w0.heap.size rb w c last:=λhe=>by
  rcases h with h|⟨L,g,cap,mb,es,e,x,cells,Cm,-⟩
  ·exact h
  rw[he]at Cm;simp at Cm
 match k,hk with
 |0,_=>exact ahe A w0 w rb c _ sa ws wb wo wc hs hb0 (MZ (hA (ar rfl))) hW
 |1,_=>exact ahf A w0 w rb c _ sa ws wb wo wc hs hb0 (MZ (hA (ar rfl))) hW
 |2,_=>exact ahg A w0 w rb c _ sa ws wb wo wc hs hb0 (MZ (hA (ar rfl))) hW
 |3,_=>exact ahh A w0 w rb c _ sa ws wb wo wc hs hb0 h hW hn
 |k+4,hk=>
  rcases h with h|⟨L,g,cap,mb,es,e,x,cells,he,h,hL⟩
  ·exact absurd h.nil (hB (by omega))
  exact ahi _ A w0 w rb c _ sa ws wb wo wc hs hb0 (by omega) hk L g cap mb es e x _ he h hL hW (by rw[he]at hn;simp at hn;omega) (hz e (by rw[he];simp))
def jJ.setLast{last:Int}(h:jJ B rb w c last)(k:Int):jJ B rb (w.setCell (ai rb 5 I) (ae af k)) c k:=by
 have hg:=EK w rb 5 (ae af k)
 rcases h with h|⟨L,g,cap,mb,es,e,x,cells,he,h,hL⟩
 ·refine aT ⟨h.lo,h.nil,?_⟩;simp only[bN,cL,h.row];simp[gK]
 refine aN ⟨L,g,cap,mb,es,e,x,_,he,⟨⟨h.lo,h.uG,h.qC,?_,h.az.kept hg (aN (ja h.az h.row (ar rfl))),h.o8,λi e' Ad=>?_,h.new.other hg h.row (ar rfl) (ar rfl) (ar rfl) (ar rfl),h.fl⟩,?_⟩,by simpa[bN]using hL⟩
 ·simp only[bN,cL,h.row];simp[gK]
 ·obtain⟨x',a,b,d⟩:=h.olds i e' Ad;exact⟨x',a.other hg h.row (ar rfl) (ar rfl) (ar rfl) (ar rfl),b,d⟩
 obtain⟨D,a,b⟩:=h.map
 refine⟨D,a.kept hg ?_,b⟩;intro e2;obtain⟨es',cl,a1,-⟩:=a;simp only[dJ]at e2;rw[e2,h.row]at a1
 cases a1
def jJ.c5{last:Int}(h:jJ B rb w c last):w.cell? (ai rb 5 I)=J (ae af last)/\w.frozen? (ai rb 5 I)=false/\B<=rb:=by
 rcases h with h|⟨L,g,cap,mb,es,e,x,cells,he,h,hL⟩
 ·exact⟨by simp[aH,h.row,gK],by simp[bM,h.row],h.lo⟩
 exact⟨by simp[aH,h.row,gK],by simp[bM,h.row],h.lo⟩
def jJ.below{last:Int}(h:jJ B rb w c last)(hb:Below w.heap.size w w'):jJ B rb w' c last:=by
 rcases h with h|⟨L,g,cap,mb,es,e,x,cells,he,h,hL⟩
 ·exact aT ⟨h.lo,h.nil,a8 hb h.row⟩
 exact aN ⟨L,g,cap,mb,es,e,x,_,he,h.below hb,bp hL hb.size⟩
def pR(w:ak):Prop:=∃m:Int,w.cell? (ai 12 0 I)=J (ae af m)
def pR.below(h:pR w)(hb:Below w.heap.size w w'):pR w':=h.elim λm hm=>⟨m,aJ hb hm⟩
def M0(s sep:ByteArray)(w:ak)(h:pR w)(hs:s.size<4294967281)(h1:1<=sep.size):Calls prog 118 #[aA s,aA sep] w λe w'=>e=ax (aj (J (ai w.heap.size 0 I)) (Lib.countB s sep+1) (Lib.countB s sep+1))/\w'=w.alloc (ay ((Lib.splitB sep 0 (Lib.countB s sep) s).map Value.string).toArray 9):=by
 obtain⟨m,hm⟩:=h;exact Any.strings_Split { Jy with } Jy.i9 s sep m w hs hm h1
def Uc(s sep:ByteArray)(EO:sep.data.toList=[32]):∃(h:ByteArray) (t:List ByteArray),Lib.splitB sep 0 (Lib.countB s sep) s=h::t/\eJ 32 (bl s)=bl h::t.map bl/\t.length=Lib.countB s sep:=by
 have e:=Rg 32 s sep EO;have hl:=Lib.splitB_all sep (by rw[<- ByteArray.size_data,<- pj,EO];decide) 0 _ s rfl
 cases hc:Lib.splitB sep 0 (Lib.countB s sep) s with
 |nil=>rw[hc]at hl;simp at hl
 |cons h t=>
  rw[hc]at e hl;exact⟨h,t,rfl,by show eJ 32 s.data.toList=_;rw[<- e];rfl,by simpa using hl⟩
def ER(c:UInt8):∀(l:List UInt8),(∀x∈eJ c l,x.length<=l.length)/\(eJ c l).length<=l.length+1
 |[]=>by simp[eJ]
 |b::t=>by
  obtain⟨h1,h2⟩:=ER c t;unfold eJ
  split
  ·refine⟨λx hx=>?_,by simp;omega⟩;simp only[fe]at hx
   rcases hx with rfl|hx
   ·simp
   have:=h1 x hx;simp;omega
  split
  ·exact⟨λx hx=>by simp at hx;subst hx;simp,by simp⟩
  rename_i hh rr hc;rw[hc]at h1 h2
  refine⟨λx hx=>?_,by simp at h2⊢;omega⟩;simp only[fe]at hx
  rcases hx with rfl|hx
  ·have:=h1 hh (by simp);simp;omega
  have:=h1 x (by simp[hx]);simp;omega
def Ip(c:UInt8)(l x:List UInt8)(h:x∈eJ c l):x.length<=l.length:=(ER c l).1 x h
structure Ae(n:Nat)(c:aX)(last:Int):Prop where
 e0:last<=1->c.az=[]
 e3:3<=last->c.az≠[]
 len:c.az.length<=n
 sz:∀e∈c.az,uH n e
def ahl(A:Nat->aC)(w0 w:ak)(rb:Nat)(c:aX)(last:Int)(l:ByteArray)(hs:dG A w0)(hK:jN w0)(hM:pR w0)(hb0:Below w0.heap.size w0 w)(h:jJ w0.heap.size rb w c last)(hl:l.size<=1000000)(hO:Ae 1000000 c last):Calls prog 180 #[aq (J (ai rb 0 I)),aA l] w λv w'=>v=ax (cP A (jx a_ ⟨last,c⟩ (bl l)).1)/\Below w0.heap.size w0 w'/\((jx a_ ⟨last,c⟩ (bl l)).1=0->jJ w0.heap.size rb w' (jx a_ ⟨last,c⟩ (bl l)).2.cfg (jx a_ ⟨last,c⟩ (bl l)).2.last):=by
 obtain⟨hd,tl,hsp,hcut,sW⟩:=Uc l ⟨#[32]⟩ rfl;have HS:U (dG A w0/\jN w0/\Below _ w0 w):=⟨hs,hK,hb0⟩;have HR:U (jJ _ rb w c _):=h;change U _ at hO
 have yh:U (Calls prog 118 #[aA l,aA ⟨#[32]⟩] w λe w'=>e=ax (aj (J (ai w.heap.size 0 I)) (tl.length+1) (tl.length+1))/\w'=w.alloc (ay ((hd::tl).map Value.string).toArray 9)):=by
  have:=M0 l ⟨#[32]⟩ w (hM.below hb0) (by omega) (ar rfl);rw[hsp,<- sW]at this;exact this
 have ahm:U (jx a_ ⟨last,c⟩ (bl l)=rR a_ ⟨last,c⟩ (bl hd) (tl.map bl)):=by show _=_;unfold jx;rw[hcut]
 have o7:U (∀s∈hd::tl,s.size<=1000000):=λs hs=>by
  have h1:bl s∈eJ 32 (bl l):=by rw[hcut];exact List.mem_map_of_mem (f:=bl) hs
  have h2:=Ip 32 _ _ h1;have h3:(bl s).length=s.size:=by simp[bl]
  have h4:(bl l).length=l.size:=by simp[bl]
  omega
 have ahn:U (tl.length<=1000000):=by
  show _<=_
  have h1:=(ER 32 (bl l)).2;rw[hcut]at h1;have h4:(bl l).length=l.size:=by simp[bl]
  simp at h1
  omega
 clear hs hK hM hb0 h hsp hcut sW;rw[ahm.o];go_enter func180,ntmps180
 go_wp2_with fail
 refine aO yh.o ?_;rintro v w1 ⟨rfl,iF⟩;have bu:U (Below w.heap.size w w1):=by show Below _ _ _;rw[iF];exact aS _ _
 have dx:U (w1.heap[w.heap.size]?=J (ay ((hd::tl).map Value.string).toArray 9 (0,0))):=by show _=_;rw[iF];exact cj w _
 clear iF yh;have x0:w1.cell? (ai w.heap.size 0 I)=J (aA hd):=by simp[aH,dx.o]
 have r_:U (jJ _ rb w1 c _):=HR.below bu;have dV:U _:=HS.2.2.trans (bu.mono HS.2.2.size);have Cn:=(HS.1.below dV).c0;have n1:(0:Int)<(tl.length:Int)+1:=by omega
 have n2:(1:Int)<=(tl.length:Int)+1:=by omega
 go_wp2_with fail
 refine(agu hd w1 (HS.2.1.below dV (jf (HS.2.1 0 (ar rfl))))).mono ?_;rintro v w2 ⟨rfl,rfl⟩;rename ak=>w1
 cases hk:kindOf (bl hd)with
 |none=>
  have kA:nN (bl hd)=-1:=by unfold nN;rw[hk]
  have HL:U (rR a_ ⟨last,c⟩ (bl hd) (tl.map bl)=(1,⟨last,c⟩)):=by show _=_;unfold rR;rw[hk]
  rw[kA];clear kA hk;go_wp2;go_ret;exact⟨by rw[HL.o];rfl,dV,λh0=>by rw[HL.o]at h0;simp at h0⟩
 |some k=>
  have kA:nN (bl hd)=k:=by unfold nN;rw[hk]
  have ES:=(O1 hk).2;have c5:=r_.c5;obtain⟨c5,f5,-⟩:=c5;rw[kA];have kn:¬(k:Int)=-1:=by omega
  cases hm:may last k
  ·have HL:U (rR a_ ⟨last,c⟩ (bl hd) (tl.map bl)=(1,⟨last,c⟩)):=by show _=_;unfold rR;rw[hk];simp only;rw[aU hm]
   clear kA hk;go_wp2_with fail
   apply(TG rb _ k w1 ES c5).mono;rintro v w2 ⟨rfl,rfl⟩;rename ak=>w1
   rw[hm];go_wp2;go_ret;exact⟨by rw[HL.o];rfl,dV,λh0=>by rw[HL.o]at h0;simp at h0⟩
  have HL:U (rR a_ ⟨last,c⟩ (bl hd) (tl.map bl)=if (bB (a_ (fy c.az)) false (form k) (tl.map bl)).1=0 then (0,⟨k,iP c k (tl.map bl) (bB (a_ (fy c.az)) false (form k) (tl.map bl)).2⟩)else ((bB (a_ (fy c.az)) false (form k) (tl.map bl)).1,⟨last,c⟩)):=by show _=_;unfold rR;rw[hk];simp only;rw[aK (by rw[hm];simp)]
  have HM:U _:=hm;have HK:U _:=ES;clear kA hk;go_wp2_with fail
  apply(TG rb _ k w1 ES c5).mono;rintro v w2 ⟨rfl,rfl⟩;rename ak=>w1
  rw[hm];have M3:U (∀sa,(tl≠[]->sa=J ⟨w.heap.size,1,I⟩)->jU (w1.setCell (ai rb 5 I) (ae af (k:Int))) sa tl w.heap.size 1):=λsa qy=>by
   have hne:rb≠w.heap.size:=by
    have:rb<w.heap.size:=by
     rcases HR.o with h|⟨L,g,cap,mb,es,e,x,cells,he,h,hL⟩
     ·exact bL h.row
     exact bL h.row
    omega
   have hrow:(w1.setCell (ai rb 5 I) (ae af (k:Int))).heap[w.heap.size]?=J (ay ((hd::tl).map Value.string).toArray 9 (0,0)):=by
    simp only[bN,cL];rw[aK hne];exact dx
   refine⟨⟨_,_,hrow⟩,qy,λi s hi=>?_,λs hs=>o7 s (by simp[hs]),ahn⟩;simp[aH,hrow,hi,Nat.add_comm 1 i]
  have lN:U _:=λsa wc qy=>ahk A w0 _ rb k c k sa tl _ 1 wc HS.1 (dV.setCell (p:=⟨rb,5,_⟩) r_.c5.2.2 _) (r_.setLast k) (M3 sa qy) HK (λhk=>hO.e0 (by have:=HM.o;unfold may at this;rw[aU hk]at this;simp at this;omega)) (λhk=>hO.e3 (by
   have:=HM.o;unfold may at this;rw[aK (by omega),aK (by omega)]at this
   split at this
   ·simp at this;omega
   simp at this;omega)) hO.len hO.sz
  by_cases ht:tl=[]
  ·subst ht;clear M3;go_wp2_with fail
   refine aO (lN.o _ _ (λh=>absurd rfl h)) ?_;rintro v w3 ⟨rfl,(hb3:U _),(hr3:U _)⟩;clear lN;go_wp2;go_ret
   refine⟨?_,hb3,λh0=>?_⟩
   ·rw[HL.o]
    split
    ·rename_i h0;rw[List.map_nil]at h0;show Ending.returned (cP A _)=_;rw[h0]
    rfl
   rw[HL.o]at h0⊢
   split at h0
   ·rename_i h1;rw[aU h1];exact hr3 h1
   rename_i h1;exact absurd h0 h1
  have t0:0<tl.length:=by
   rcases vr tl.length with h|h
   ·exact absurd (kV h) ht
   exact h
  have t1:(0:Int)<(tl.length:Int):=by omega
  have t2:¬tl.length=0:=by omega
  clear M3;go_wp2_with fail
  refine aO (lN.o _ _ (λ_=>rfl)) ?_;rintro v w3 ⟨rfl,(hb3:U _),(hr3:U _)⟩;clear lN;go_wp2;go_ret
  refine⟨?_,hb3,λh0=>?_⟩
  ·rw[HL.o]
   split
   ·rename_i h0;show Ending.returned (cP A _)=_;rw[h0]
   rfl
  rw[HL.o]at h0⊢
  split at h0
  ·rename_i h1;rw[aU h1];exact hr3 h1
  rename_i h1;exact absurd h0 h1
def aho(h0:(cJ c).1=0):(fK c).length<=400001000:=by
 have h1:=FR h0;have gj:=w_ h0;have a1:=mG (n:=c.closed) (by have:=gj.closed.2;omega);have a2:=mG (n:=c.opn) (by have:=gj.opn.2;omega);have a3:=mG (n:=c.cycle) (by have:=gj.cycle.2;omega);have a4:=mG (n:=c.bE) (by have:=gj.bE.2;omega);unfold fK oJ;rw[mD,mD,mD];generalize List.flatMap (λl=>l++[10]) (List.flatMap dD c.az)=E at h1⊢;simp[a6,kw]
 omega
section
variable {A:Nat->aC}{F:Nat->Prop}{w0 w w':ak}{c:aX}{kb bc:Nat}{K:aD}
def ahp(sa:Option aC)(sc:Nat)(hs:dG A w)(hK:jN w)(hT:iR w)(hM:pR w)(hG:(max 8 11+1)<=w.heap.size)(hE:eU w (aj sa c.az.length sc) c.az)(hS:kJ c)(h0:(cJ c).1=0):Calls prog 89 #[.agg (fN c kb bc (aj sa c.az.length sc))] w λe w'=>e=ax (bn #[aA ⟨(pG c).toArray⟩,.nilIface])/\Below w.heap.size w w':=by
 obtain⟨W,hW,hb,-⟩:=Ho w c kb bc (aj sa c.az.length sc);have hrow:W.heap[w.heap.size]?=J (ay (fN c kb bc (aj sa c.az.length sc)) 101 (0,0)):=by rw[hW];exact cj _ _
 unfold fN at hrow;have x2:W.cell? (ai w.heap.size 2 I)=J (ae af c.closed):=by simp[aH,hrow]
 have x3:W.cell? (ai w.heap.size 3 I)=J (ae af c.opn):=by simp[aH,hrow]
 have x4:W.cell? (ai w.heap.size 4 I)=J (ae af c.cycle):=by simp[aH,hrow]
 have x5:W.cell? (ai w.heap.size 5 I)=J (ae af c.bE):=by simp[aH,hrow]
 have x6:W.cell? (ai w.heap.size 6 I)=J (aj sa c.az.length sc):=by simp[aH,hrow]
 have HX:U _:=Tq A c sa sc W (hs.below hb) (hK.below hb (jf (hK 0 (ar rfl)))) (hT.below hb hG) (bp hG hb.size) (hE.below hb) hS h0;have hlen:=aho h0;obtain⟨s,M4⟩:∃s:ByteArray,s=⟨(fK c).toArray⟩:=⟨_,rfl⟩;have M5:s.data.toList=fK c:=by rw[M4]
 rw[<- M4]at HX;have Ii:s.size<=400001000:=by rw[show s.size=s.data.toList.length from by simp,M5];exact hlen
 obtain⟨t,ht⟩:∃t:ByteArray,t=⟨(Lib.trimSuffix s.data.toList [10]).toArray⟩:=⟨_,rfl⟩;have M6:t.data.toList=Lib.trimSuffix (fK c) [10]:=by rw[ht,M5]
 have Iq:t.size<=400001000:=by
  rw[show t.size=t.data.toList.length from by simp,M6];unfold Lib.trimSuffix
  split
  ·rw[eQ];omega
  exact hlen
 have Ud:U (∀V:ak,Calls prog 119 #[aA s,aA ⟨#[10]⟩] V λe w'=>e=ax (aA t)/\w'=V):=λV=>by
  rw[ht];exact strings_TrimSuffix s _ V (by omega)
 have Ue:U (∀V:ak,Below w.heap.size w V->Calls prog 142 #[aA t,aA ⟨#[10]⟩,aA ⟨#[59,32]⟩] V λe w'=>e=ax (aA ⟨(pG c).toArray⟩)/\Below V.heap.size V w'):=λV hV=>by
  obtain⟨m,hm⟩:=hM.below hV;have h5:=Lib.countB_mul_le ⟨#[10]⟩ (ar rfl) _ t (aR _);have:=strings_ReplaceAll t ⟨#[10]⟩ ⟨#[59,32]⟩ m V (by omega) hm (ar rfl) (by
   rw[show (⟨_⟩:ByteArray).size=1 from rfl,qT]at h5;rw[show (⟨#[59,32]⟩:ByteArray).size=2 from rfl];omega)
  rw[M6]at this;exact this
 change U _ at hb
 clear hs hK hT hM hG hE hS h0 M4 M5 ht M6 Ii Iq hlen hrow;unfold fN at hW⊢;go_enter func89,ntmps89
 go_upto_region 1 with fail
 rw[<- hW];clear hW;go_wp2_with fail
 refine aO HX.o ?_;rintro e w1 ⟨rfl,hb1⟩;have bu:U _:=hb.trans (hb1.mono hb.size);have ahq:U _:=Ue w1 bu;have ahr:U _:=Ud w1;clear hb1 HX Ue Ud x2 x3 x4 x5 x6;go_wp2_with fail
 refine aO ahr.o ?_;rintro e wr ⟨rfl,rfl⟩;go_wp2_with fail
 refine aO ahq.o ?_;rintro e w2 ⟨rfl,hb2⟩;go_wp2;go_ret2
 exact⟨rfl,bu.trans (hb2.mono bu.size)⟩
end
section
variable {A:Nat->aC}{H:Nat->Nat->Prop}{w0 w w':ak}{c:aX}{kb bc bd:Nat}{rv tv lv:aw}{bs:List Nat}{s:aI}{d:bR}{ls:List aZ}
def ahs(h:nM H w0 w c kb bc bd rv tv lv bs s d ls)(hs:fI A w0)(hsm:¬153<=s.size):Calls prog 122 #[aq (J (ai kb 0 I))] w λe w'=>e=ax (errVal A 2)/\Below w.heap.size w w':=by
 have c2:w.cell? _=J (aq _):=h.cell 2 _ rfl;have HX:U (Calls _ 184 _ w λe w'=>e=ax (bn #[aq .none,.iface 357 (aq (J (A 1)))])/\Below _ w w'):=
  ZQ A bc s 1 w h.cells (hs.below h.aY).four (by unfold aI.err;rw[aU (by omega)])
 go_enter func122,ntmps122
 go_wp2_with fail
 refine aO HX.o ?_;rintro u w1 ⟨rfl,(hb1:U _)⟩;go_wp2;go_ret;exact⟨rfl,hb1⟩
end
end Go.Proofs.YtgjlihibabmgcaaGreatDoor
