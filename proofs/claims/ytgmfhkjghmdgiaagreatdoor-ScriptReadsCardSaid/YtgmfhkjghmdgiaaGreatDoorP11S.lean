/-
  Several texts as one: CfRSt, CfRPart, CfRPart2, CfRCount, CfREnt, CfRPoint, CfRPoint2.
-/
import Derived.Test.YtgmfhkjghmdgiaaGreatDoorP10S
set_option linter.all false
set_option maxHeartbeats 40000000
set_option maxRecDepth 100000
abbrev eE:=@Go.World.ownsRow.kept
abbrev lz:=@Go.RowKit.frozen?_alloc_cells
abbrev nK:=@Go.Value.int.inj
abbrev rB.{u,v}:=@Prod.mk.inj.{u,v}
open Go renaming Addr→az,Value→ar,World→ai
open Go.Ending renaming returned→ax
open Go.IntKind renaming i64→R
open Go.Obj renaming cells→au
open Go.RowKit renaming Hid→aa
open Go.Value renaming int→U,pointer→aj,slice→af,string→aq
open Option renaming none→I,some→J
open Go.Proofs.Tryz
namespace Go.Proofs.YtgmfhkjghmdgiaaGreatDoor
open Go.Extern Go.Extern.Stop Go.Maps Go.RowKit Go.Stop
structure cn where
 p:ar
 g:ar
 e:ar
 f:ar
 l:ar
def cn.row(x:cn)(e:aF):Array ar:=r9 e x.p x.g x.e x.f x.l
def eF(B:Nat)(w:ai)(e:aF)(x:cn):Prop:=qZ B w e x.p x.g x.e x.f x.l
structure uJ(L:Nat)(x:cn):Prop where
 p:∀b,x.p.ownBlock=J b->b<L
 g:∀b,x.g.ownBlock=J b->b<L
 e:∀b,x.e.ownBlock=J b->b<L
 f:∀b,x.f.ownBlock=J b->b<L
 l:∀b,x.l.ownBlock=J b->b<L
theorem uK{w:ai}{B k n:Nat}{T:TypeId}{v:ar}{xs:List ar}(h:w.ownsRow B T k v n xs):∀b,v.ownBlock=J b->b<w.heap.size:=λb hb=>(h.lt b hb).2
theorem eF.Rb{B:Nat}{w:ai}{e:aF}{x:cn}(h:eF B w e x):uJ w.heap.size x:=⟨uK h.hp,uK h.hg,uK h.he,uK h.hf,uK h.hl⟩
theorem eF.weak{B L:Nat}{w:ai}{e:aF}{x:cn}(h:eF L w e x)(hB:B<=L):eF B w e x:=by
 have k:∀{T:TypeId} {k n:Nat} {v:ar} {xs:List _},w.ownsRow L T k v n xs->w.ownsRow B T k v n xs:=λh=>by
  obtain⟨h1,h2|⟨g,cap,cur,a,b,c⟩⟩:=h
  ·exact⟨h1,a_ h2⟩
  exact⟨h1,aP ⟨g,cap,cur,a,bw hB b,c⟩⟩
 exact⟨k h.hp,k h.hg,k h.he,k h.hf,k h.hl⟩
theorem dZ{w:ai}{B k n:Nat}{T T':TypeId}{v:ar}{xs:List ar}(h:w.ownsRow B T k v n xs){b:Nat}{c:Array ar}{fr:Nat×Nat}(hb:w.heap[b]?=J (au c T' fr))(hT:T'≠T):v.ownBlock≠J b:=by
 rcases h.2 with⟨rfl,_⟩|⟨g,cap,cur,rfl,_,eA,_⟩
 ·simp[Value.ownBlock]
 intro e;simp only[Value.ownBlock,eR]at e;subst e;rw[eA]at hb;simp only[eR,l_]at hb;exact absurd hb.2.1.symm hT
theorem wN{w:ai}{B k n:Nat}{T:TypeId}{v:ar}{xs:List ar}(h:w.ownsRow B T k v n xs){b:Nat}{es:Array MapEntry}{cl:Nat}(hb:w.heap[b]?=J (.map es cl)):v.ownBlock≠J b:=by
 rcases h.2 with⟨rfl,_⟩|⟨g,cap,cur,rfl,_,eA,_⟩
 ·simp[Value.ownBlock]
 intro e;simp only[Value.ownBlock,eR]at e;subst e;rw[eA]at hb
 cases hb
theorem fJ{w:ai}{B B' k n k' n':Nat}{T T':TypeId}{v v':ar}{xs xs':List ar}(h:w.ownsRow B T k v n xs)(h':w.ownsRow B' T' k' v' n' xs')(hT:T'≠T):v.ownBlock=I\/v.ownBlock≠v'.ownBlock:=by
 rcases h'.2 with⟨rfl,_⟩|⟨g,cap,cur,rfl,_,eA,_⟩
 ·by_cases e:v.ownBlock=I
  ·exact a_ e
  exact aP e
 exact aP (dZ h eA hT)
theorem J7{w:ai}{B k n g cap i:Nat}{T:TypeId}{xs:List ar}(h:w.ownsRow B T k (af (J ⟨g,0,I⟩) n cap) n xs)(u:ar):(w.setCell ⟨g,i,I⟩ u).ownsRow B T k (af (J ⟨g,0,I⟩) n cap) n (xs.set i u):=by
 obtain⟨h1,h2|⟨g',cap',cur,a,b,c,d,e,f,q⟩⟩:=h
 ·cases h2.1
 simp only[tU,eR,tW,and_true,true_and]at a;obtain⟨rfl,rfl⟩:=a
 refine⟨by rw[ze];exact h1,aP ⟨g,cap,cur.setIfInBounds i u,rfl,b,?_,d,e,by rw[Array.size_setIfInBounds];exact f,?_⟩⟩
 ·simp[World.setCell,dr,c]
 rw[Array.toList_setIfInBounds,List.take_set,q]
theorem pd(w:ai)(g i:Nat)(u:ar):w.grownBy (w.setCell ⟨g,i,I⟩ u) (J g):=⟨rfl,rfl,rfl,by simp[World.setCell],λk _ hk=>tM _ _ _ _ (λe=>hk (by simp[e]))⟩
theorem eF.kept{B:Nat}{w w':ai}{e:aF}{x:cn}{r:Option Nat}(h:eF B w e x)(hg:w.grownBy w' r)(hp:x.p.ownBlock=I\/x.p.ownBlock≠r)(hG:x.g.ownBlock=I\/x.g.ownBlock≠r)(he:x.e.ownBlock=I\/x.e.ownBlock≠r)(hf:x.f.ownBlock=I\/x.f.ownBlock≠r)(hl:x.l.ownBlock=I\/x.l.ownBlock≠r):eF B w' e x:=
 ⟨eE h.hp hg hp,eE h.hg hg hG,eE h.he hg he,eE h.hf hg hf,eE h.hl hg hl⟩
theorem eF.other{B b:Nat}{w w':ai}{e:aF}{x:cn}(h:eF B w e x)(hg:w.grownBy w' (J b)){c:Array ar}{T:TypeId}{fr:Nat×Nat}(hb:w.heap[b]?=J (au c T fr))(h1:T≠9)(h2:T≠86)(h3:T≠87)(h4:T≠3):eF B w' e x:=
 h.kept hg (aP (dZ h.hp hb h1)) (aP (dZ h.hg hb h2)) (aP (dZ h.he hb h3)) (aP (dZ h.hf hb h4)) (aP (dZ h.hl hb h4))
theorem eF.mapped{B b:Nat}{w w':ai}{e:aF}{x:cn}(h:eF B w e x)(hg:w.grownBy w' (J b)){es:Array MapEntry}{cl:Nat}(hb:w.heap[b]?=J (.map es cl)):eF B w' e x:=
 h.kept hg (aP (wN h.hp hb)) (aP (wN h.hg hb)) (aP (wN h.he hb)) (aP (wN h.hf hb)) (aP (wN h.hl hb))
theorem eF.far{B L:Nat}{w w':ai}{e:aF}{x:cn}(h:eF B w e x)(hL:uJ L x){r:Option Nat}(hr:∀b,r=J b->L<=b)(hg:w.grownBy w' r):eF B w' e x:=by
 have k:∀v:ar,(∀b,v.ownBlock=J b->b<L)->v.ownBlock=I\/v.ownBlock≠r:=λv hv=>by
  cases e:v.ownBlock with
  |none=>exact a_ rfl
  |some b=>exact aP (λe2=>by have:=hv b e;have:=hr b e2.symm;omega)
 exact h.kept hg (k _ hL.p) (k _ hL.g) (k _ hL.e) (k _ hL.f) (k _ hL.l)
theorem Rc{a b:Option Nat}(h:a=I\/a≠b):b=I\/b≠a:=by
 rcases h with rfl|h
 ·cases b with
  |none=>exact a_ rfl
  |some=>exact aP (by simp)
 exact aP h.symm
def gA(c:aS)(ev:ar)(last:Int)(mv:ar):Array ar:=#[U R c.closed,U R c.opn,U R c.cycle,U R c.bC,ev,U R last,mv]
structure nL(B rb:Nat)(w:ai)(c:aS)(last:Int):Prop where
 lo:B<=rb
 nil:c.aw=[]
 row:w.heap[rb]?=J (au (gA c (af I 0 0) last (.map I)) 151 (0,0))
structure jK(B rb L g cap mb:Nat)(w:ai)(c:aS)(last:Int)(es:List aF)(e:aF)(x:cn)(cells:List ar):Prop where
 lo:B<=rb
 jL:B<=L
 pO:B<=mb
 row:w.heap[rb]?=J (au (gA c (af (J ⟨g,0,I⟩) (es.length+1) cap) last (.map (J mb))) 151 (0,0))
 aw:w.ownsRow B 84 10 (af (J ⟨g,0,I⟩) (es.length+1) cap) (es.length+1) (cells++(x.row e).toList)
 iz:cells.length=es.length*10
 olds:∀(i:Nat) e',es[i]?=J e'->∃x',eF B w e' x'/\uJ L x'/\∀(j:Nat) u,(x'.row e')[j]?=J u->cells[i*10+j]?=J u
 new:eF L w e x
 fl:x.f.ownBlock=I\/x.f.ownBlock≠x.l.ownBlock
structure dx(B rb L g cap mb:Nat)(w:ai)(c:aS)(last:Int)(es:List aF)(e:aF)(x:cn)(cells:List ar):Prop extends jK B rb L g cap mb w c last es e x cells where
 map:∃D:DataW Unit,w.ownsMap prog 9 (plainElem prog 3) mb e.ak.length D/\uH D e.ak
theorem jK.grow{B rb L g cap mb:Nat}{w:ai}{c:aS}{last:Int}{es:List aF}{e:aF}{x:cn}{cells:List ar}(h:jK B rb L g cap mb w c last es e x cells):∃cur,w.heap[g]?=J (au cur 84 (0,0))/\B<=g:=by
 rcases h.aw.2 with⟨h1,_⟩|⟨g',cap',cur,a,b,c',_⟩
 ·cases h1
 simp only[tU,eR,tW,and_true,true_and]at a;obtain⟨rfl,rfl⟩:=a;exact⟨cur,c',b⟩
theorem jK.aZ{B rb L g cap mb:Nat}{w:ai}{c:aS}{last:Int}{es:List aF}{e:aF}{x:cn}{cells:List ar}(h:jK B rb L g cap mb w c last es e x cells){j:Nat}{u:ar}(hu:(x.row e)[j]?=J u):w.cell? ⟨g,es.length*10+j,I⟩=J u/\w.frozen? ⟨g,es.length*10+j,I⟩=false:=by
 obtain⟨cur,hc,-⟩:=h.grow
 refine⟨?_,by simp[World.frozen?,hc]⟩;have:=h.aw.cells (g:=g) rfl (es.length*10+j) u (by rw[ko (by rw[h.iz];omega),h.iz,vG,tL];exact hu);rw[kP]at this;simpa using this
theorem jK.below{B rb L g cap mb:Nat}{w w':ai}{c:aS}{last:Int}{es:List aF}{e:aF}{x:cn}{cells:List ar}(h:jK B rb L g cap mb w c last es e x cells)(hb:Below w.heap.size w w'):jK B rb L g cap mb w' c last es e x cells:=by
 have hg:w.grownBy w' I:=⟨hb.os,hb.tape,hb.output,hb.size,λk hk _=>hb.block k hk⟩;have k:∀v:ar,v.ownBlock=I\/v.ownBlock≠I:=λv=>by by_cases e:v.ownBlock=I;exact a_ e;exact aP e
 have kx:∀{B:Nat} {e:aF} {x:cn},eF B w e x->eF B w' e x:=λhx=>hx.kept hg (k _) (k _) (k _) (k _) (k _)
 refine⟨h.lo,h.jL,h.pO,bG hb h.row,h.aw.kept hg (k _),h.iz,λi e' he=>?_,kx h.new,h.fl⟩;obtain⟨x',a,b,d⟩:=h.olds i e' he;exact⟨x',kx a,b,d⟩
theorem dx.below{B rb L g cap mb:Nat}{w w':ai}{c:aS}{last:Int}{es:List aF}{e:aF}{x:cn}{cells:List ar}(h:dx B rb L g cap mb w c last es e x cells)(hb:Below w.heap.size w w'):dx B rb L g cap mb w' c last es e x cells:=by
 refine⟨h.tojK.below hb,?_⟩;obtain⟨D,a,b⟩:=h.map;exact⟨D,a.kept (row:=I) ⟨hb.os,hb.tape,hb.output,hb.size,λk hk _=>hb.block k hk⟩ (by simp),b⟩
theorem jK.mapped{B rb L g cap mb b:Nat}{w w':ai}{c:aS}{last:Int}{es:List aF}{e:aF}{x:cn}{cells:List ar}(h:jK B rb L g cap mb w c last es e x cells)(hg:w.grownBy w' (J b)){ms:Array MapEntry}{cl:Nat}(hb:w.heap[b]?=J (.map ms cl)):jK B rb L g cap mb w' c last es e x cells:=by
 have hne:rb≠b:=λe2=>by rw[<- e2,h.row]at hb;cases hb
 refine⟨h.lo,h.jL,h.pO,(hg.block rb (bJ h.row) (by simpa using hne)).trans h.row,h.aw.kept hg (aP (wN h.aw hb)),h.iz,λi e' he=>?_,h.new.mapped hg hb,h.fl⟩;obtain⟨x',a,b',d⟩:=h.olds i e' he;exact⟨x',a.mapped hg hb,b',d⟩
theorem dx.J8{B rb L g cap mb:Nat}{w:ai}{c:aS}{last:Int}{es:List aF}{e e':aF}{x x':cn}{cells:List ar}(h:dx B rb L g cap mb w c last es e x cells)(j:Nat)(u:ar)(hr:(x.row e).toList.set j u=(x'.row e').toList)(hx:eF L w e' x')(uL:x'.f.ownBlock=I\/x'.f.ownBlock≠x'.l.ownBlock)(aev:e'.ak=e.ak):dx B rb L g cap mb (w.setCell ⟨g,es.length*10+j,I⟩ u) c last es e' x' cells:=by
 obtain⟨cur,hc,hB⟩:=h.grow;have hg:=pd w g (es.length*10+j) u;have hne:rb≠g:=λe2=>by rw[<- e2,h.row]at hc;simp at hc
 refine⟨⟨h.lo,h.jL,h.pO,(hg.block rb (bJ h.row) (by simpa using hne)).trans h.row,?_,h.iz,λi e2 he=>?_,?_,uL⟩,?_⟩
 ·have:=J7 (i:=es.length*10+j) h.aw u;rw[yQ _ _ (by rw[h.iz];omega),h.iz,vG,hr]at this;exact this
 ·obtain⟨y,a,b,d⟩:=h.olds i e2 he;exact⟨y,a.other hg hc (by decide) (by decide) (by decide) (by decide),b,d⟩
 ·exact hx.other hg hc (by decide) (by decide) (by decide) (by decide)
 obtain⟨D,⟨es',cl,a1,a2⟩,b⟩:=h.map;rw[<- aev]at a2 b
 refine⟨D,⟨es',cl,(hg.block mb (bJ a1) (λe2=>?_)).trans a1,a2⟩,b⟩;simp only[eR]at e2;rw[e2,hc]at a1
 cases a1
theorem jK.app{B rb L g cap mb:Nat}{w w':ai}{c:aS}{last:Int}{es:List aF}{e e':aF}{x x':cn}{cells:List ar}{r:Option Nat}(h:jK B rb L g cap mb w c last es e x cells)(hgr:w.grownBy w' r)(hL:∀b,r=J b->L<=b)(jb:r≠J rb)(hrg:r≠J g)(j:Nat)(u:ar)(hr:(x.row e).toList.set j u=(x'.row e').toList)(hx:eF L w' e' x')(uL:x'.f.ownBlock=I\/x'.f.ownBlock≠x'.l.ownBlock)
  (hm:∃D:DataW Unit,w'.ownsMap prog 9 (plainElem prog 3) mb e'.ak.length D/\uH D e'.ak):dx B rb L g cap mb (w'.setCell ⟨g,es.length*10+j,I⟩ u) c last es e' x' cells:=by
 obtain⟨cur,hc,hB⟩:=h.grow;have hc':=(hgr.block g (bJ hc) (λe2=>hrg e2.symm)).trans hc;have hrow:=(hgr.block rb (bJ h.row) (λe2=>jb e2.symm)).trans h.row;have aew:=h.aw.kept hgr (aP (λe2=>hrg e2.symm));have hg:=pd w' g (es.length*10+j) u;have hne:rb≠g:=λe2=>by rw[<- e2,h.row]at hc;simp at hc
 refine⟨⟨h.lo,h.jL,h.pO,(hg.block rb (bJ hrow) (by simpa using hne)).trans hrow,?_,h.iz,λi e2 he=>?_,?_,uL⟩,?_⟩
 ·have:=J7 (i:=es.length*10+j) aew u;rw[yQ _ _ (by rw[h.iz];omega),h.iz,vG,hr]at this;exact this
 ·obtain⟨y,a,b,d⟩:=h.olds i e2 he;exact⟨y,(a.far b hL hgr).other hg hc' (by decide) (by decide) (by decide) (by decide),b,d⟩
 ·exact hx.other hg hc' (by decide) (by decide) (by decide) (by decide)
 obtain⟨D,⟨es',cl,a1,a2⟩,b⟩:=hm
 refine⟨D,⟨es',cl,(hg.block mb (bJ a1) (λe2=>?_)).trans a1,a2⟩,b⟩;simp only[eR]at e2;rw[e2,hc']at a1
 cases a1
theorem dx.Fs{B rb L g cap mb:Nat}{w w':ai}{c:aS}{last:Int}{es:List aF}{e:aF}{x:cn}{cells:List ar}{T:TypeId}{k n:Nat}{v:ar}{xs:List ar}{B':Nat}(h:dx B rb L g cap mb w c last es e x cells)(hv:w.ownsRow B' T k v n xs)(hgr:w.grownBy w' v.ownBlock):∃D:DataW Unit,w'.ownsMap prog 9 (plainElem prog 3) mb e.ak.length D/\uH D e.ak:=by
 obtain⟨D,a,b⟩:=h.map;obtain⟨es',cl,a1,a2⟩:=id a;exact⟨D,a.kept hgr (λe2=>wN hv a1 e2.symm),b⟩
theorem jK.J9{B rb L g cap mb:Nat}{w w':ai}{c:aS}{last:Int}{es:List aF}{e:aF}{x:cn}{cells:List ar}{g' cap':Nat}(h:jK B rb L g cap mb w c last es e x cells)(q:ByteArray)(hm:∃D:DataW Unit,w.ownsMap prog 9 (plainElem prog 3) mb (e.ak.length+1) D/\uH D (e.ak++[q]))(hgr:w.grownBy w' x.p.ownBlock)(hown:w'.ownsRow L 9 1 (.slice (J ⟨g',0,I⟩) (e.ak.length+1) cap') (e.ak.length+1) (e.ak.flatMap bS++bS q)):dx B rb L g cap mb (w'.setCell ⟨g,es.length*10+2,I⟩ (.slice (J ⟨g',0,I⟩) (e.ak.length+1) cap')) c last es { e with ak:=e.ak++[q] } { x with p:=.slice (J ⟨g',0,I⟩) (e.ak.length+1) cap' } cells:=by
 obtain⟨cur,hc,-⟩:=h.grow
 refine h.app hgr (λb hb=>(h.new.hp.lt b hb).1) (dZ h.new.hp h.row (by decide)) (dZ h.new.hp hc (by decide)) 2 _ rfl ⟨(by show w'.ownsRow _ _ _ _ _ _;simpa[dP]using hown),eE h.new.hg hgr (fJ h.new.hg h.new.hp (by decide)),eE h.new.he hgr (fJ h.new.he h.new.hp (by decide)),eE h.new.hf hgr (fJ h.new.hf h.new.hp (by decide)),eE h.new.hl hgr (fJ h.new.hl h.new.hp (by decide))⟩ h.fl ?_;obtain⟨D,a,b⟩:=hm;obtain⟨es',cl,a1,a2⟩:=id a;exact⟨D,by simpa using a.kept hgr (λe2=>wN h.new.hp a1 e2.symm),b⟩
theorem dx.J_{B rb L g cap mb:Nat}{w w':ai}{c:aS}{last:Int}{es:List aF}{e:aF}{x:cn}{cells:List ar}{g' cap':Nat}(h:dx B rb L g cap mb w c last es e x cells)(q:fM)(hgr:w.grownBy w' x.g.ownBlock)(hown:w'.ownsRow L 86 4 (af (J ⟨g',0,I⟩) (e.aB.length+1) cap') (e.aB.length+1) (e.aB.flatMap iD++iD q)):dx B rb L g cap mb (w'.setCell ⟨g,es.length*10+6,I⟩ (af (J ⟨g',0,I⟩) (e.aB.length+1) cap')) c last es { e with aB:=e.aB++[q] } { x with g:=(af (J ⟨g',0,I⟩) (e.aB.length+1) cap') } cells:=by
 obtain⟨cur,hc,-⟩:=h.grow
 refine h.tojK.app hgr (λb hb=>(h.new.hg.lt b hb).1) (dZ h.new.hg h.row (by decide)) (dZ h.new.hg hc (by decide)) 6 _ rfl ⟨(eE h.new.hp hgr (fJ h.new.hp h.new.hg (by decide))),(by show w'.ownsRow _ _ _ _ _ _;simpa[dP]using hown),(eE h.new.he hgr (fJ h.new.he h.new.hg (by decide))),(eE h.new.hf hgr (fJ h.new.hf h.new.hg (by decide))),(eE h.new.hl hgr (fJ h.new.hl h.new.hg (by decide)))⟩ (h.fl) (h.Fs h.new.hg hgr)
theorem dx.Ka{B rb L g cap mb:Nat}{w w':ai}{c:aS}{last:Int}{es:List aF}{e:aF}{x:cn}{cells:List ar}{g' cap':Nat}(h:dx B rb L g cap mb w c last es e x cells)(q:(Int×Int))(hgr:w.grownBy w' x.e.ownBlock)(hown:w'.ownsRow L 87 2 (af (J ⟨g',0,I⟩) (e.aA.length+1) cap') (e.aA.length+1) (e.aA.flatMap jq++jq q)):dx B rb L g cap mb (w'.setCell ⟨g,es.length*10+7,I⟩ (af (J ⟨g',0,I⟩) (e.aA.length+1) cap')) c last es { e with aA:=e.aA++[q] } { x with e:=(af (J ⟨g',0,I⟩) (e.aA.length+1) cap') } cells:=by
 obtain⟨cur,hc,-⟩:=h.grow
 refine h.tojK.app hgr (λb hb=>(h.new.he.lt b hb).1) (dZ h.new.he h.row (by decide)) (dZ h.new.he hc (by decide)) 7 _ rfl ⟨(eE h.new.hp hgr (fJ h.new.hp h.new.he (by decide))),(eE h.new.hg hgr (fJ h.new.hg h.new.he (by decide))),(by show w'.ownsRow _ _ _ _ _ _;simpa[dP]using hown),(eE h.new.hf hgr (fJ h.new.hf h.new.he (by decide))),(eE h.new.hl hgr (fJ h.new.hl h.new.he (by decide)))⟩ (h.fl) (h.Fs h.new.he hgr)
theorem dx.Kb{B rb L g cap mb:Nat}{w w':ai}{c:aS}{last:Int}{es:List aF}{e:aF}{x:cn}{cells:List ar}{g' cap':Nat}(h:dx B rb L g cap mb w c last es e x cells)(q:Int)(hgr:w.grownBy w' x.f.ownBlock)(hown:w'.ownsRow L 3 1 (af (J ⟨g',0,I⟩) (e.first.length+1) cap') (e.first.length+1) (e.first.flatMap bm++bm q))(hne:∀b,x.l.ownBlock=J b->b≠g'):dx B rb L g cap mb (w'.setCell ⟨g,es.length*10+8,I⟩ (af (J ⟨g',0,I⟩) (e.first.length+1) cap')) c last es { e with first:=e.first++[q] } { x with f:=(af (J ⟨g',0,I⟩) (e.first.length+1) cap') } cells:=by
 obtain⟨cur,hc,-⟩:=h.grow
 refine h.tojK.app hgr (λb hb=>(h.new.hf.lt b hb).1) (dZ h.new.hf h.row (by decide)) (dZ h.new.hf hc (by decide)) 8 _ rfl ⟨(eE h.new.hp hgr (fJ h.new.hp h.new.hf (by decide))),(eE h.new.hg hgr (fJ h.new.hg h.new.hf (by decide))),(eE h.new.he hgr (fJ h.new.he h.new.hf (by decide))),(by show w'.ownsRow _ _ _ _ _ _;simpa[dP]using hown),(eE h.new.hl hgr (Rc h.fl))⟩ (aP (λe1=>hne g' e1.symm rfl)) (h.Fs h.new.hf hgr)
theorem dx.Kc{B rb L g cap mb:Nat}{w w':ai}{c:aS}{last:Int}{es:List aF}{e:aF}{x:cn}{cells:List ar}{g' cap':Nat}(h:dx B rb L g cap mb w c last es e x cells)(q:Int)(hgr:w.grownBy w' x.l.ownBlock)(hown:w'.ownsRow L 3 1 (af (J ⟨g',0,I⟩) (e.last.length+1) cap') (e.last.length+1) (e.last.flatMap bm++bm q))(hne:∀b,x.f.ownBlock=J b->b≠g'):dx B rb L g cap mb (w'.setCell ⟨g,es.length*10+9,I⟩ (af (J ⟨g',0,I⟩) (e.last.length+1) cap')) c last es { e with last:=e.last++[q] } { x with l:=(af (J ⟨g',0,I⟩) (e.last.length+1) cap') } cells:=by
 obtain⟨cur,hc,-⟩:=h.grow
 refine h.tojK.app hgr (λb hb=>(h.new.hl.lt b hb).1) (dZ h.new.hl h.row (by decide)) (dZ h.new.hl hc (by decide)) 9 _ rfl ⟨(eE h.new.hp hgr (fJ h.new.hp h.new.hl (by decide))),(eE h.new.hg hgr (fJ h.new.hg h.new.hl (by decide))),(eE h.new.he hgr (fJ h.new.he h.new.hl (by decide))),(eE h.new.hf hgr h.fl),(by show w'.ownsRow _ _ _ _ _ _;simpa[dP]using hown)⟩ ((by cases e1:x.f.ownBlock with|none=>exact a_ rfl|some b=>exact aP (λe2=>hne b e1 (bj e2)))) (h.Fs h.new.hl hgr)
structure jM(w:ai)(sa:Option az)(ws:List ByteArray)(wb wo:Nat):Prop where
 blk:∃c fr,w.heap[wb]?=J (au c 9 fr)
 sa:ws≠[]->sa=J ⟨wb,wo,I⟩
 pS:∀(i:Nat) s,ws[i]?=J s->w.cell? ⟨wb,wo+i,I⟩=J (aq s)
 sz:∀s∈ws,s.size<=1000000
 few:ws.length<=1000000
theorem jM.below{w w':ai}{sa:Option az}{ws:List ByteArray}{wb wo:Nat}(h:jM w sa ws wb wo)(hb:Below w.heap.size w w'):jM w' sa ws wb wo:=by
 obtain⟨c,fr,e⟩:=h.blk;exact⟨⟨c,fr,bG hb e⟩,h.sa,λi s hs=>aG hb (h.pS i s hs),h.sz,h.few⟩
theorem jM.lt{w:ai}{sa:Option az}{ws:List ByteArray}{wb wo:Nat}(h:jM w sa ws wb wo):wb<w.heap.size:=by
 obtain⟨c,fr,e⟩:=h.blk;exact bJ e
theorem dx.Ar{B rb L g cap mb:Nat}{w:ai}{c:aS}{last:Int}{es:List aF}{e:aF}{x:cn}{cells:List ar}(h:dx B rb L g cap mb w c last es e x cells):Fp w rb mb e.ak:=⟨by simp[World.cell?,h.row,gA],h.map⟩
theorem Au{w W W':ai}{tg:List (Nat×Nat)}{us:List ar}(hb:Below w.heap.size w W)(ht:∀t∈tg,w.heap.size<=t.1)(hf:Below W.heap.size (dD W tg us) W'):Below w.heap.size w W':=
 hb.trans ((yr w.heap.size W tg us ht).trans (hf.mono hb.size))
theorem yu(w:ai)(T:TypeId)(u v:ar):((w.alloc (au #[u] T)).alloc (au #[v] T)).cell? ⟨w.heap.size,0,I⟩=J u/\((w.alloc (au #[u] T)).alloc (au #[v] T)).cell? ⟨w.heap.size+1,0,I⟩=J v:=by
 constructor
 ·rw[my _ _ _ (by simp),dK _ _ _ _ rfl];rfl
 have e:w.heap.size+1=(w.alloc (au #[u] T)).heap.size:=by simp
 rw[e,dK _ _ _ _ rfl];rfl
theorem uM(w:ai)(j o:Nat):w.frozen? ⟨w.heap.size+j,o,I⟩=false:=by
 unfold World.frozen?;simp only;rw[vy (by omega)]
theorem Fu{w0 w w2 w8:ai}{rb L g cap mb:Nat}{c:aS}{last:Int}{es:List aF}{e:aF}{x:cn}{cells:List ar}{ob:Obj}{r:Option Nat}(h0:Below w0.heap.size w0 w)(h2:Below w.heap.size w w2)(hR:dx w0.heap.size rb L g cap mb w2 c last es e x cells)(ajg:L<=w2.heap.size)(hg:(w2.drew.alloc ob).grownBy w8 r)(hr:∀b,r=J b->L<=b)(i:Nat)(u:ar):Below w0.heap.size w0 (w8.setCell ⟨g,i,I⟩ u):=by
 have b2:=h0.trans (h2.mono h0.size);have b3:=b2.trans (((aC _ w2).drew.alloc (by simp) ob).mono b2.size);obtain⟨cur,-,hB⟩:=hR.grow;exact(b3.grown hg b3.size (λk hk=>bw hR.jL (hr k hk))).setCell (p:=⟨g,i,_⟩) hB u
theorem Re(w:ai)(z:Int)(T:TypeId):∀(j:Nat) u,([U R z]:List ar)[j]?=J u->(w.alloc (au #[U R z] T)).cell? ((⟨w.heap.size,0,I⟩:az).add j)=J u:=by
 intro j u hu
 match j,hu with
 |0,hu=>
  simp at hu
  subst hu;rw[kP,dK _ _ _ _ rfl];rfl
 |j+1,hu=>simp at hu
theorem cJ{w:ai}{B k n:Nat}{T:TypeId}{v:ar}{xs:List ar}(h:w.ownsRow B T k v n xs):∃sa c,v=af sa n c:=by
 rcases h.2 with⟨rfl,rfl⟩|⟨g,cap,cur,rfl,_⟩
 ·exact⟨_,_,rfl⟩
 exact⟨_,_,rfl⟩
theorem aex(A:Nat->az)(w0 w:ai)(rb L g cap mb:Nat)(c:aS)(last:Int)(es:List aF)(e:aF)(x:cn)(cells:List ar)(sa:Option az)(ws:List ByteArray)(wb wo wc:Nat)(hs:dA A w0)(hb0:Below w0.heap.size w0 w)(h:dx w0.heap.size rb L g cap mb w c last es e x cells)(eG:L<=w.heap.size)(hW:jM w sa ws wb wo)(hn:e.first.length<=1000000):Calls prog 177 #[aj (J ⟨rb,0,I⟩),aj (J ⟨g,es.length*10,I⟩),U R 8,af sa ws.length wc] w λv w'=>v=ax (cN A (aY (aV e.ak) false [2] (ws.map bl)).1)/\Below w0.heap.size w0 w'/\∃(z:Int) (x':cn),((aY (aV e.ak) false [2] (ws.map bl)).1=0->∀s,ws[0]?=J s->z=(bF (aV e.ak) 2 (bl s)).2)/\dx w0.heap.size rb L g cap mb w' c last es { e with first:=e.first++[z] } x' cells/\L<=w'.heap.size:=by
 obtain⟨i0,hi,hz0,hz1,hz2⟩:=fj ny;obtain⟨fa,fc,fx⟩:=cJ h.new.hf;obtain⟨o,ho⟩:∃o,o=es.length*10:=⟨_,rfl⟩;have HO:aa _:=ho;have HS:aa (dA A w0/\Below _ w0 w):=⟨hs,hb0⟩;have HR:aa _:=h;have HW:aa _:=hW;have gB:aa _:=fx;have HL:aa _:=eG;rw[<- ho];clear ho hs hb0 h hW fx eG;go_enter func177,ntmps177
 go_upto_region 2 with fail
 obtain⟨W1,hW1⟩:∃V,V=(w.alloc (au #[U R 0] 307)).alloc (au #[U R 0] 307):=⟨_,rfl⟩;rw[<- hW1];have aO:aa (Below w.heap.size w W1):=by show Below _ _ _;rw[hW1];exact(aN _ _).alloc (by simp) _
 have fP:aa (W1.heap.size=w.heap.size+2):=by show _=_;rw[hW1];simp
 have dp:aa (W1.cell? ⟨w.heap.size,0,I⟩=J (U R 0)/\W1.frozen? ⟨w.heap.size,0,I⟩=false):=by
  refine⟨by rw[hW1];exact(yu w _ _ _).1,?_⟩;rw[hW1,lz,lz];exact uM w 0 0
 have lA:aa (ot w0 rb e.ak [2] [(w.heap.size,0)] ws wb wo W1.heap.size (W1.alloc (au #[.iface 312 (aj (J ⟨w.heap.size,0,I⟩))] 20))):=by
  have cK:=aN W1 (au #[.iface 312 (aj (J ⟨w.heap.size,0,I⟩))] 20);have hlt:=HW.o.lt;have hz:=fP.o;have jb:=bJ HR.o.row;have hsz:=HS.o.2.size
  refine⟨HS.o.2.trans ((aO.o.trans (cK.mono aO.o.size)).mono hsz),rfl,by simp,by simp,?_,?_,by simp,?_,λi s hi=>aG cK (aG aO.o (HW.o.pS i s hi)),HW.o.sz,λ_=>⟨mb,((HR.o.below aO.o).below cK).Ar⟩⟩
  ·intro i f t hf ht
   match i,hf,ht with
   |0,hf,ht=>
    simp at hf ht
    subst hf ht;exact⟨⟨_,aG cK dp.o.1,⟨0,rfl⟩⟩,by rw[o_ cK dp.o.1];exact dp.o.2⟩
   |i+1,hf,_=>simp at hf
  ·intro t ht;simp only[iF]at ht;subst ht;exact⟨by show w0.heap.size<=w.heap.size;exact hsz,λe2=>by have:=(rB e2).1;omega,by show w.heap.size≠_;omega,by show w.heap.size≠_;omega⟩
  intro i f t hf ht
  match i,hf,ht with
  |0,hf,ht=>
   simp at hf ht
   subst hf ht;rw[dK _ _ _ _ rfl];rfl
  |i+1,hf,_=>simp at hf
 clear hW1;go_wp2_with fail
 refine(sW A w0 _ rb _ [2] _ ws sa wb wo wc _ HS.o.1 lA.o HW.o.sa HW.o.few).mono ?_;rintro v w2 ⟨rfl,us,jx,gp,gq,eQ⟩;obtain⟨u,rfl⟩:∃u,us=[u]:=by
  match us,jx with
  |[u],_=>exact⟨u,rfl⟩
 obtain⟨z,rfl⟩:=gp 0 2 u rfl rfl;have HV:aa ((aY (aV e.ak) false [2] (ws.map bl)).1=0->∀s,ws[0]?=J s->z=(bF (aV e.ak) 2 (bl s)).2):=λh0 s hs=>by
  have:=gq h0 0 2 s _ rfl hs rfl;unfold valOf at this;rw[aK (by decide)]at this;exact(nK this).2
 have aW:aa _:=Au (aO.o.trans ((aN _ _).mono aO.o.size)) (λt ht=>by simp only[iF]at ht;subst ht;exact aQ _) eQ;have cp:w2.cell? ⟨w.heap.size,0,I⟩=J (U R z):=by
  have h1:=yo (u:=U R z) (aG (aN W1 (au #[.iface 312 (aj (J ⟨w.heap.size,0,I⟩))] 20)) dp.o.1);have h2:=eQ.cell (p:=⟨w.heap.size,0,I⟩) (by show w.heap.size<_;have:=fP.o;simp;omega);exact h2.trans h1
 clear jx gp gq eQ lA dp;have b_:aa _:=HR.o.below aW.o;have c8:w2.cell? ⟨g,o+8,I⟩=J (af fa e.first.length fc):=by rw[HO.o,<- gB.o];exact(b_.o.aZ (j:=8) rfl).1
 have hown:w2.drew.ownsRow L 3 1 (af fa e.first.length fc) e.first.length (e.first.flatMap bm):=by rw[<- gB.o];exact b_.o.new.hf
 have iN:aa _:=bw HL.o aW.o.size;have lH:=iN.o;have KB:aa (∀(ob:Obj) (w8:ai),(w2.drew.alloc ob).grownBy w8 (Value.slice fa e.first.length fc).ownBlock->w8.cell? ⟨g,o+8,I⟩=J (af fa e.first.length fc)/\w8.frozen? ⟨g,o+8,I⟩=false):=λob w8 hg=>by
  have iT:=b_.o.below (w':=w2.drew.alloc ob) ((aC _ w2).drew.alloc (by simp) ob);obtain⟨cur,hc,-⟩:=iT.grow;rw[<- gB.o]at hg⊢;rw[HO.o];have e1:=(hg.block g (bJ hc) (λe2=>dZ iT.new.hf hc (by decide) e2.symm));have h2:=iT.aZ (j:=8) (u:=x.f) rfl;exact⟨(qj e1).trans h2.1,by have:=h2.2;unfold World.frozen? at this⊢;simp only at this⊢;rw[e1];exact this⟩
 have BV:∀ob,(w2.alloc ob).cell? _=J _:=λob=>aG (aN _ _) c8
 go_wp2_with fail
 go_region_law (refine ni _ rfl _ _ 65 rfl L 3 i0 _ 1 8 underlying65 hi hz0 hz1 hz2 rfl (by decide) _ _ _ (by simp[Act.eval]) (hown.alloc _) _ 1 1 _ (by simp[Act.eval]) rfl (Re w2.drew z 3) (xB z) (by decide) (by unfold maxLen;omega) (by omega) (by simp;omega) (w2.heap.size+1) (by simp) ?_;intro g' cap' w8 dy bZ cH ld;have r8:=KB.o _ _ bZ;have d1:=r8.1;have d2:=r8.2)
 all_goals
  go_wp2;go_ret
  refine⟨rfl,?_,z,{ x with f:=af (J ⟨g',0,I⟩) (e.first.length+1) cap' },HV.o,?_,?_⟩
  ·exact Fu HS.o.2 aW.o b_.o iN.o (by rw[gB.o];exact bZ) (λb hb=>(b_.o.new.hf.lt b hb).1) _ _
  ·rw[HO.o]
   refine(b_.o.below (w':=w2.drew.alloc _) ((aC _ w2).drew.alloc (by simp) _)).Kb z (by rw[gB.o];exact bZ) dy (λb hb e2=>?_);subst e2
   rcases cH with h1|h1
   ·rw[<- gB.o]at h1
    rcases b_.o.fl with h3|h3
    ·rw[h3]at h1;cases h1
    exact h3 (h1.trans hb.symm)
   have:=uK b_.o.new.hl b hb;omega
  have h1:=bZ.size;have h2:=iN.o;simp[World.setCell]at h1⊢
  omega
theorem aey(A:Nat->az)(w0 w:ai)(rb L g cap mb:Nat)(c:aS)(last:Int)(es:List aF)(e:aF)(x:cn)(cells:List ar)(sa:Option az)(ws:List ByteArray)(wb wo wc:Nat)(hs:dA A w0)(hb0:Below w0.heap.size w0 w)(h:dx w0.heap.size rb L g cap mb w c last es e x cells)(eG:L<=w.heap.size)(hW:jM w sa ws wb wo)(hn:e.last.length<=1000000):Calls prog 177 #[aj (J ⟨rb,0,I⟩),aj (J ⟨g,es.length*10,I⟩),U R 9,af sa ws.length wc] w λv w'=>v=ax (cN A (aY (aV e.ak) false [2] (ws.map bl)).1)/\Below w0.heap.size w0 w'/\∃(z:Int) (x':cn),((aY (aV e.ak) false [2] (ws.map bl)).1=0->∀s,ws[0]?=J s->z=(bF (aV e.ak) 2 (bl s)).2)/\dx w0.heap.size rb L g cap mb w' c last es { e with last:=e.last++[z] } x' cells/\L<=w'.heap.size:=by
 obtain⟨i0,hi,hz0,hz1,hz2⟩:=fj ny;obtain⟨fa,fc,fx⟩:=cJ h.new.hl;obtain⟨o,ho⟩:∃o,o=es.length*10:=⟨_,rfl⟩;have HO:aa _:=ho;have HS:aa (dA A w0/\Below _ w0 w):=⟨hs,hb0⟩;have HR:aa _:=h;have HW:aa _:=hW;have gB:aa _:=fx;have HL:aa _:=eG;rw[<- ho];clear ho hs hb0 h hW fx eG;go_enter func177,ntmps177
 go_upto_region 2 with fail
 obtain⟨W1,hW1⟩:∃V,V=(w.alloc (au #[U R 0] 307)).alloc (au #[U R 0] 307):=⟨_,rfl⟩;rw[<- hW1];have aO:aa (Below w.heap.size w W1):=by show Below _ _ _;rw[hW1];exact(aN _ _).alloc (by simp) _
 have fP:aa (W1.heap.size=w.heap.size+2):=by show _=_;rw[hW1];simp
 have dp:aa (W1.cell? ⟨w.heap.size,0,I⟩=J (U R 0)/\W1.frozen? ⟨w.heap.size,0,I⟩=false):=by
  refine⟨by rw[hW1];exact(yu w _ _ _).1,?_⟩;rw[hW1,lz,lz];exact uM w 0 0
 have lA:aa (ot w0 rb e.ak [2] [(w.heap.size,0)] ws wb wo W1.heap.size (W1.alloc (au #[.iface 312 (aj (J ⟨w.heap.size,0,I⟩))] 20))):=by
  have cK:=aN W1 (au #[.iface 312 (aj (J ⟨w.heap.size,0,I⟩))] 20);have hlt:=HW.o.lt;have hz:=fP.o;have jb:=bJ HR.o.row;have hsz:=HS.o.2.size
  refine⟨HS.o.2.trans ((aO.o.trans (cK.mono aO.o.size)).mono hsz),rfl,by simp,by simp,?_,?_,by simp,?_,λi s hi=>aG cK (aG aO.o (HW.o.pS i s hi)),HW.o.sz,λ_=>⟨mb,((HR.o.below aO.o).below cK).Ar⟩⟩
  ·intro i f t hf ht
   match i,hf,ht with
   |0,hf,ht=>
    simp at hf ht
    subst hf ht;exact⟨⟨_,aG cK dp.o.1,⟨0,rfl⟩⟩,by rw[o_ cK dp.o.1];exact dp.o.2⟩
   |i+1,hf,_=>simp at hf
  ·intro t ht;simp only[iF]at ht;subst ht;exact⟨by show w0.heap.size<=w.heap.size;exact hsz,λe2=>by have:=(rB e2).1;omega,by show w.heap.size≠_;omega,by show w.heap.size≠_;omega⟩
  intro i f t hf ht
  match i,hf,ht with
  |0,hf,ht=>
   simp at hf ht
   subst hf ht;rw[dK _ _ _ _ rfl];rfl
  |i+1,hf,_=>simp at hf
 clear hW1;go_wp2_with fail
 refine(sW A w0 _ rb _ [2] _ ws sa wb wo wc _ HS.o.1 lA.o HW.o.sa HW.o.few).mono ?_;rintro v w2 ⟨rfl,us,jx,gp,gq,eQ⟩;obtain⟨u,rfl⟩:∃u,us=[u]:=by
  match us,jx with
  |[u],_=>exact⟨u,rfl⟩
 obtain⟨z,rfl⟩:=gp 0 2 u rfl rfl;have HV:aa ((aY (aV e.ak) false [2] (ws.map bl)).1=0->∀s,ws[0]?=J s->z=(bF (aV e.ak) 2 (bl s)).2):=λh0 s hs=>by
  have:=gq h0 0 2 s _ rfl hs rfl;unfold valOf at this;rw[aK (by decide)]at this;exact(nK this).2
 have aW:aa _:=Au (aO.o.trans ((aN _ _).mono aO.o.size)) (λt ht=>by simp only[iF]at ht;subst ht;exact aQ _) eQ;have cp:w2.cell? ⟨w.heap.size,0,I⟩=J (U R z):=by
  have h1:=yo (u:=U R z) (aG (aN W1 (au #[.iface 312 (aj (J ⟨w.heap.size,0,I⟩))] 20)) dp.o.1);have h2:=eQ.cell (p:=⟨w.heap.size,0,I⟩) (by show w.heap.size<_;have:=fP.o;simp;omega);exact h2.trans h1
 clear jx gp gq eQ lA dp;have b_:aa _:=HR.o.below aW.o;have c8:w2.cell? ⟨g,o+9,I⟩=J (af fa e.last.length fc):=by rw[HO.o,<- gB.o];exact(b_.o.aZ (j:=9) rfl).1
 have hown:w2.drew.ownsRow L 3 1 (af fa e.last.length fc) e.last.length (e.last.flatMap bm):=by rw[<- gB.o];exact b_.o.new.hl
 have iN:aa _:=bw HL.o aW.o.size;have lH:=iN.o;have KB:aa (∀(ob:Obj) (w8:ai),(w2.drew.alloc ob).grownBy w8 (Value.slice fa e.last.length fc).ownBlock->w8.cell? ⟨g,o+9,I⟩=J (af fa e.last.length fc)/\w8.frozen? ⟨g,o+9,I⟩=false):=λob w8 hg=>by
  have iT:=b_.o.below (w':=w2.drew.alloc ob) ((aC _ w2).drew.alloc (by simp) ob);obtain⟨cur,hc,-⟩:=iT.grow;rw[<- gB.o]at hg⊢;rw[HO.o];have e1:=(hg.block g (bJ hc) (λe2=>dZ iT.new.hl hc (by decide) e2.symm));have h2:=iT.aZ (j:=9) (u:=x.l) rfl;exact⟨(qj e1).trans h2.1,by have:=h2.2;unfold World.frozen? at this⊢;simp only at this⊢;rw[e1];exact this⟩
 have BV:∀ob,(w2.alloc ob).cell? _=J _:=λob=>aG (aN _ _) c8
 go_wp2_with fail
 go_region_law (refine ni _ rfl _ _ 65 rfl L 3 i0 _ 1 8 underlying65 hi hz0 hz1 hz2 rfl (by decide) _ _ _ (by simp[Act.eval]) (hown.alloc _) _ 1 1 _ (by simp[Act.eval]) rfl (Re _ z 3) (xB z) (by decide) (by unfold maxLen;omega) (by omega) (by simp;omega) (w2.heap.size+1) (by simp) ?_;intro g' cap' w8 dy bZ cH ld;have r8:=KB.o _ _ bZ;have d1:=r8.1;have d2:=r8.2)
 all_goals
  go_wp2;go_ret
  refine⟨rfl,?_,z,{ x with l:=af (J ⟨g',0,I⟩) (e.last.length+1) cap' },HV.o,?_,?_⟩
  ·exact Fu HS.o.2 aW.o b_.o iN.o (by rw[gB.o];exact bZ) (λb hb=>(b_.o.new.hl.lt b hb).1) _ _
  ·rw[HO.o]
   refine(b_.o.below (w':=w2.drew.alloc _) ((aC _ w2).drew.alloc (by simp) _)).Kc z (by rw[gB.o];exact bZ) dy (λb hb e2=>?_);subst e2
   rcases cH with h1|h1
   ·rw[<- gB.o]at h1
    rcases b_.o.fl with h3|h3
    ·rw[h3]at hb;cases hb
    exact h3 (hb.trans h1.symm)
   have:=uK b_.o.new.hf b hb;omega
  have h1:=bZ.size;have h2:=iN.o;simp[World.setCell]at h1⊢
  omega
theorem yv:∀(w:ai) (tg:List (Nat×Nat)) (us:List ar) (i:Nat) (t:Nat×Nat) (u:ar),tg.Nodup->tg[i]?=J t->us[i]?=J u->(∃o,w.cell? ⟨t.1,t.2,I⟩=J o)->(dD w tg us).cell? ⟨t.1,t.2,I⟩=J u
 |w,[],us,i,t,u,_,h,_,_=>by simp at h
 |w,a::as',[],i,t,u,_,_,h,_=>by simp at h
 |w,a::as',v::vs,0,t,u,hd,h1,h2,⟨o,ho⟩=>by
  simp at h1 h2
  subst h1 h2;rw[dD,yq _ _ _ _ _ (λx hx e=>by
   have:=(List.nodup_cons.1 hd).1;exact this (by rw[show a=x from e.symm];exact hx))]
  exact yo ho
 |w,a::as',v::vs,i+1,t,u,hd,h1,h2,⟨o,ho⟩=>by
  rw[dD];have hm:=cM (by simpa using h1);have hne:a≠t:=λe=>(List.nodup_cons.1 hd).1 (by rw[e];exact hm)
  refine yv _ as' vs i t u (List.nodup_cons.1 hd).2 (by simpa using h1) (by simpa using h2) ⟨o,?_⟩;rw[eD (by
   by_cases e:a.1=t.1
   ·exact aP (λe2=>hne (Prod.ext e e2))
   exact a_ e) rfl rfl]
  exact ho
theorem Av(w:ai)(cs:List ar)(T:TypeId):∀(j:Nat) u,cs[j]?=J u->(w.alloc (au cs.toArray T)).cell? ((⟨w.heap.size,0,I⟩:az).add j)=J u:=by
 intro j u hu;rw[kP,dK _ _ _ _ rfl];simpa using hu
theorem aez(A:Nat->az)(w0 w:ai)(rb L g cap mb:Nat)(c:aS)(last:Int)(es:List aF)(e:aF)(x:cn)(cells:List ar)(sa:Option az)(ws:List ByteArray)(wb wo wc:Nat)(hs:dA A w0)(hb0:Below w0.heap.size w0 w)(h:dx w0.heap.size rb L g cap mb w c last es e x cells)(eG:L<=w.heap.size)(hW:jM w sa ws wb wo)(hn:e.aA.length<=1000000):Calls prog 177 #[aj (J ⟨rb,0,I⟩),aj (J ⟨g,es.length*10,I⟩),U R 7,af sa ws.length wc] w λv w'=>v=ax (cN A (aY (aV e.ak) false [2,2] (ws.map bl)).1)/\Below w0.heap.size w0 w'/\∃(z0 z1:Int) (x':cn),((aY (aV e.ak) false [2,2] (ws.map bl)).1=0->(∀s,ws[0]?=J s->z0=(bF (aV e.ak) 2 (bl s)).2)/\(∀s,ws[1]?=J s->z1=(bF (aV e.ak) 2 (bl s)).2))/\dx w0.heap.size rb L g cap mb w' c last es { e with aA:=e.aA++[(z0,z1)] } x' cells/\L<=w'.heap.size:=by
 obtain⟨i0,hi,hz0,hz1,hz2⟩:=fj Ic;obtain⟨fa,fc,fx⟩:=cJ h.new.he;obtain⟨o,ho⟩:∃o,o=es.length*10:=⟨_,rfl⟩;have HO:aa _:=ho;have HS:aa (dA A w0/\Below _ w0 w):=⟨hs,hb0⟩;have HR:aa _:=h;have HW:aa _:=hW;have gB:aa _:=fx;have HL:aa _:=eG;rw[<- ho];clear ho hs hb0 h hW fx eG;go_enter func177,ntmps177
 go_upto_region 2 with fail
 obtain⟨W1,hW1⟩:∃V,V=(w.alloc (au #[U R 0] 307)).alloc (au #[U R 0] 307):=⟨_,rfl⟩;rw[<- hW1];have aO:aa (Below w.heap.size w W1):=by show Below _ _ _;rw[hW1];exact(aN _ _).alloc (by simp) _
 have fP:aa (W1.heap.size=w.heap.size+2):=by show _=_;rw[hW1];simp
 have ft:aa (W1.cell? ⟨w.heap.size,0,I⟩=J (U R 0)/\W1.frozen? ⟨w.heap.size,0,I⟩=false):=by
  refine⟨by rw[hW1];exact(yu w _ _ _).1,?_⟩;rw[hW1,lz,lz];exact uM w 0 0
 have dp:aa (W1.cell? ⟨w.heap.size+1,0,I⟩=J (U R 0)/\W1.frozen? ⟨w.heap.size+1,0,I⟩=false):=by
  refine⟨by rw[hW1];exact(yu w _ _ _).2,?_⟩;rw[hW1,lz,lz];exact uM w 1 0
 have lA:aa (ot w0 rb e.ak [2,2] [(w.heap.size,0),(w.heap.size+1,0)] ws wb wo W1.heap.size (W1.alloc (au #[.iface 312 (aj (J ⟨w.heap.size,0,I⟩)),.iface 312 (aj (J ⟨w.heap.size+1,0,I⟩))] 20))):=by
  have cK:=aN W1 (au #[.iface 312 (aj (J ⟨w.heap.size,0,I⟩)),.iface 312 (aj (J ⟨w.heap.size+1,0,I⟩))] 20);have hlt:=HW.o.lt;have hz:=fP.o;have jb:=bJ HR.o.row;have hsz:=HS.o.2.size
  refine⟨HS.o.2.trans ((aO.o.trans (cK.mono aO.o.size)).mono hsz),rfl,by simp,by simp,?_,?_,by simp,?_,λi s hi=>aG cK (aG aO.o (HW.o.pS i s hi)),HW.o.sz,λ_=>⟨mb,((HR.o.below aO.o).below cK).Ar⟩⟩
  ·intro i f t hf ht
   match i,hf,ht with
   |0,hf,ht=>
    simp at hf ht
    subst hf ht;exact⟨⟨_,aG cK ft.o.1,⟨0,rfl⟩⟩,by rw[o_ cK ft.o.1];exact ft.o.2⟩
   |1,hf,ht=>
    simp at hf ht
    subst hf ht;exact⟨⟨_,aG cK dp.o.1,⟨0,rfl⟩⟩,by rw[o_ cK dp.o.1];exact dp.o.2⟩
   |i+2,hf,_=>simp at hf
  ·intro t ht;simp only[fg,jB,jU]at ht
   rcases ht with rfl|rfl
   all_goals exact⟨by simp only[];omega,λe2=>by have:=(rB e2).1;omega,by simp only[];omega,by simp only[];omega⟩
  intro i f t hf ht
  match i,hf,ht with
  |0,hf,ht=>
   simp at hf ht
   subst hf ht;rw[dK _ _ _ _ rfl];rfl
  |1,hf,ht=>
   simp at hf ht
   subst hf ht;rw[dK _ _ _ _ rfl];rfl
  |i+2,hf,_=>simp at hf
 clear hW1;go_wp2_with fail
 refine(sW A w0 _ rb _ _ _ ws sa wb wo wc _ HS.o.1 lA.o HW.o.sa HW.o.few).mono ?_;rintro v w2 ⟨rfl,us,jx,gp,gq,eQ⟩;obtain⟨u0,u1,rfl⟩:∃u0 u1,us=[u0,u1]:=by
  match us,jx with
  |[u0,u1],_=>exact⟨u0,u1,rfl⟩
 obtain⟨z0,rfl⟩:=gp 0 2 u0 rfl rfl;obtain⟨z1,rfl⟩:=gp 1 2 u1 rfl rfl;have HV:aa ((aY (aV e.ak) false [2,2] (ws.map bl)).1=0->(∀s,ws[0]?=J s->z0=(bF (aV e.ak) 2 (bl s)).2)/\(∀s,ws[1]?=J s->z1=(bF (aV e.ak) 2 (bl s)).2)):=λh0=>⟨(λs hs=>by have:=gq h0 0 2 s _ rfl hs rfl;unfold valOf at this;rw[aK (by decide)]at this;exact(nK this).2),(λs hs=>by have:=gq h0 1 2 s _ rfl hs rfl;unfold valOf at this;rw[aK (by decide)]at this;exact(nK this).2)⟩
 have aW:aa _:=Au (aO.o.trans ((aN _ _).mono aO.o.size)) (λt ht=>by
  simp only[fg,jB,jU]at ht
  rcases ht with rfl|rfl
  all_goals (simp only[];omega)) eQ
 have Rf:w2.cell? ⟨w.heap.size,0,I⟩=J (U R z0):=by
  have h1:=yv (W1.alloc (au #[.iface 312 (aj (J ⟨w.heap.size,0,I⟩)),.iface 312 (aj (J ⟨w.heap.size+1,0,I⟩))] 20)) [(w.heap.size,0),(w.heap.size+1,0)] [U R z0,U R z1] 0 _ _ (by simp) rfl rfl ⟨_,aG (aN _ _) ft.o.1⟩;exact(eQ.cell (p:=⟨_,0,_⟩) (by have:=fP.o;simp;omega)).trans h1
 have Rg:w2.cell? ⟨w.heap.size+1,0,I⟩=J (U R z1):=by
  have h1:=yv (W1.alloc (au #[.iface 312 (aj (J ⟨w.heap.size,0,I⟩)),.iface 312 (aj (J ⟨w.heap.size+1,0,I⟩))] 20)) [(w.heap.size,0),(w.heap.size+1,0)] [U R z0,U R z1] 1 _ _ (by simp) rfl rfl ⟨_,aG (aN _ _) dp.o.1⟩;exact(eQ.cell (p:=⟨_,0,_⟩) (by have:=fP.o;simp;omega)).trans h1
 clear jx gp gq eQ lA ft dp;have b_:aa _:=HR.o.below aW.o;have c8:w2.cell? ⟨g,o+7,I⟩=J (af fa e.aA.length fc):=by rw[HO.o,<- gB.o];exact(b_.o.aZ (j:=7) rfl).1
 have hown:w2.drew.ownsRow L 87 2 (af fa e.aA.length fc) e.aA.length (e.aA.flatMap jq):=by rw[<- gB.o];exact b_.o.new.he
 have iN:aa _:=bw HL.o aW.o.size;have lH:=iN.o;have KB:aa (∀(ob:Obj) (w8:ai),(w2.drew.alloc ob).grownBy w8 (Value.slice fa e.aA.length fc).ownBlock->w8.cell? ⟨g,o+7,I⟩=J (af fa e.aA.length fc)/\w8.frozen? ⟨g,o+7,I⟩=false):=λob w8 hg=>by
  have iT:=b_.o.below (w':=w2.drew.alloc ob) ((aC _ w2).drew.alloc (by simp) ob);obtain⟨cur,hc,-⟩:=iT.grow;rw[<- gB.o]at hg⊢;rw[HO.o];have e1:=(hg.block g (bJ hc) (λe2=>dZ iT.new.he hc (by decide) e2.symm));have h2:=iT.aZ (j:=7) (u:=x.e) rfl;exact⟨(qj e1).trans h2.1,by have:=h2.2;unfold World.frozen? at this⊢;simp only at this⊢;rw[e1];exact this⟩
 have BV:∀ob,(w2.alloc ob).cell? _=J _:=λob=>aG (aN _ _) c8
 go_wp2_with fail
 go_region_law (refine ni _ rfl _ _ 82 rfl L 87 i0 _ 2 16 underlying82 hi hz0 hz1 hz2 rfl (by decide) _ _ _ (by simp[Act.eval]) (hown.alloc _) _ 1 1 _ (by simp[Act.eval]) rfl (Av w2.drew [U R z0,U R z1] 87) (Ie (z0,z1)) (by decide) (by unfold maxLen;omega) (by omega) (by simp;omega) (w2.heap.size+1) (by simp) ?_;intro g' cap' w8 dy bZ cH ld;have r8:=KB.o _ _ bZ;have d8:=r8.1;have d9:=r8.2)
 all_goals
  go_wp2;go_ret
  refine⟨rfl,?_,z0,z1,{ x with e:=af (J ⟨g',0,I⟩) (e.aA.length+1) cap' },HV.o,?_,?_⟩
  ·exact Fu HS.o.2 aW.o b_.o iN.o (by rw[gB.o];exact bZ) (λb hb=>(b_.o.new.he.lt b hb).1) _ _
  ·rw[HO.o];exact(b_.o.below (w':=w2.drew.alloc _) ((aC _ w2).drew.alloc (by simp) _)).Ka _ (by rw[gB.o];exact bZ) dy
  have h1:=bZ.size;have h2:=iN.o;simp[World.setCell]at h1⊢
  omega
theorem aeA(A:Nat->az)(w0 w:ai)(rb L g cap mb:Nat)(c:aS)(last:Int)(es:List aF)(e:aF)(x:cn)(cells:List ar)(sa:Option az)(ws:List ByteArray)(wb wo wc:Nat)(hs:dA A w0)(hb0:Below w0.heap.size w0 w)(h:dx w0.heap.size rb L g cap mb w c last es e x cells)(eG:L<=w.heap.size)(hW:jM w sa ws wb wo)(hn:e.aB.length<=1000000):Calls prog 177 #[aj (J ⟨rb,0,I⟩),aj (J ⟨g,es.length*10,I⟩),U R 6,af sa ws.length wc] w λv w'=>v=ax (cN A (aY (aV e.ak) false [2,2,1,1] (ws.map bl)).1)/\Below w0.heap.size w0 w'/\∃(z0 z1 z2 z3:Int) (x':cn),((aY (aV e.ak) false [2,2,1,1] (ws.map bl)).1=0->(∀s,ws[0]?=J s->z0=(bF (aV e.ak) 2 (bl s)).2)/\(∀s,ws[1]?=J s->z1=(bF (aV e.ak) 2 (bl s)).2)/\(∀s,ws[2]?=J s->z2=(bF (aV e.ak) 1 (bl s)).2)/\(∀s,ws[3]?=J s->z3=(bF (aV e.ak) 1 (bl s)).2))/\dx w0.heap.size rb L g cap mb w' c last es { e with aB:=e.aB++[⟨z0,z1,z2,z3⟩] } x' cells/\L<=w'.heap.size:=by
 obtain⟨i0,hi,hz0,hz1,hz2⟩:=fj Ek;obtain⟨fa,fc,fx⟩:=cJ h.new.hg;obtain⟨o,ho⟩:∃o,o=es.length*10:=⟨_,rfl⟩;have HO:aa _:=ho;have HS:aa (dA A w0/\Below _ w0 w):=⟨hs,hb0⟩;have HR:aa _:=h;have HW:aa _:=hW;have gB:aa _:=fx;have HL:aa _:=eG;rw[<- ho];clear ho hs hb0 h hW fx eG;go_enter func177,ntmps177
 go_upto_region 11 with fail
 obtain⟨W1,hW1⟩:∃V,V=((w.alloc (au #[U R 0] 307)).alloc (au #[U R 0] 307)).alloc (au #[U R 0,U R 0,U R 0,U R 0] 86):=⟨_,rfl⟩;rw[<- hW1];have aO:aa (Below w.heap.size w W1):=by show Below _ _ _;rw[hW1];exact((aN _ _).alloc (by simp) _).alloc (by simp;omega) _
 have fP:aa (W1.heap.size=w.heap.size+3):=by show _=_;rw[hW1];simp
 have ft:aa (W1.cell? ⟨w.heap.size,0,I⟩=J (U R 0)/\W1.frozen? ⟨w.heap.size,0,I⟩=false):=by
  refine⟨by rw[hW1];exact aG (aN _ _) (yu w _ _ _).1,?_⟩;rw[hW1,lz,lz,lz];exact uM w 0 0
 have dp:aa (W1.cell? ⟨w.heap.size+1,0,I⟩=J (U R 0)/\W1.frozen? ⟨w.heap.size+1,0,I⟩=false):=by
  refine⟨by rw[hW1];exact aG (aN _ _) (yu w _ _ _).2,?_⟩;rw[hW1,lz,lz,lz];exact uM w 1 0
 have HG:aa (∀j,j<4->W1.cell? ⟨w.heap.size+2,j,I⟩=J (U R 0)/\W1.frozen? ⟨w.heap.size+2,j,I⟩=false):=λj hj=>by
  have e1:w.heap.size+2=((w.alloc (au #[U R 0] 307)).alloc (au #[U R 0] 307)).heap.size:=by simp
  constructor
  ·rw[hW1,e1,dK _ _ _ _ rfl]
   match j,hj with
   |0,_=>rfl
   |1,_=>rfl
   |2,_=>rfl
   |3,_=>rfl
  rw[hW1,lz,lz,lz];exact uM w 2 j
 have r_:aa _:=HG.o 2 (by decide);have C5:aa _:=HG.o 3 (by decide);have lA:aa (ot w0 rb e.ak [2,2,1,1] [(w.heap.size,0),(w.heap.size+1,0),(w.heap.size+2,2),(w.heap.size+2,3)] ws wb wo W1.heap.size (W1.alloc (au #[.iface 312 (aj (J ⟨w.heap.size,0,I⟩)),.iface 312 (aj (J ⟨w.heap.size+1,0,I⟩)),.iface 263 (aj (J ⟨w.heap.size+2,2,I⟩)),.iface 263 (aj (J ⟨w.heap.size+2,3,I⟩))] 20))):=by
  have cK:=aN W1 (au #[.iface 312 (aj (J ⟨w.heap.size,0,I⟩)),.iface 312 (aj (J ⟨w.heap.size+1,0,I⟩)),.iface 263 (aj (J ⟨w.heap.size+2,2,I⟩)),.iface 263 (aj (J ⟨w.heap.size+2,3,I⟩))] 20);have hlt:=HW.o.lt;have hz:=fP.o;have jb:=bJ HR.o.row;have hsz:=HS.o.2.size
  refine⟨HS.o.2.trans ((aO.o.trans (cK.mono aO.o.size)).mono hsz),rfl,by simp,by simp,?_,?_,by simp,?_,λi s hi=>aG cK (aG aO.o (HW.o.pS i s hi)),HW.o.sz,λ_=>⟨mb,((HR.o.below aO.o).below cK).Ar⟩⟩
  ·intro i f t hf ht
   match i,hf,ht with
   |0,hf,ht=>
    simp at hf ht
    subst hf ht;exact⟨⟨_,aG cK ft.o.1,⟨0,rfl⟩⟩,by rw[o_ cK ft.o.1];exact ft.o.2⟩
   |1,hf,ht=>
    simp at hf ht
    subst hf ht;exact⟨⟨_,aG cK dp.o.1,⟨0,rfl⟩⟩,by rw[o_ cK dp.o.1];exact dp.o.2⟩
   |2,hf,ht=>
    simp at hf ht
    subst hf ht;exact⟨⟨_,aG cK r_.o.1,⟨0,rfl⟩⟩,by rw[o_ cK r_.o.1];exact r_.o.2⟩
   |3,hf,ht=>
    simp at hf ht
    subst hf ht;exact⟨⟨_,aG cK C5.o.1,⟨0,rfl⟩⟩,by rw[o_ cK C5.o.1];exact C5.o.2⟩
   |i+4,hf,_=>simp at hf
  ·intro t ht;simp only[fg,jB,jU]at ht
   rcases ht with rfl|rfl|rfl|rfl
   all_goals exact⟨by simp only[];omega,λe2=>by have:=(rB e2).1;omega,by simp only[];omega,by simp only[];omega⟩
  intro i f t hf ht
  match i,hf,ht with
  |0,hf,ht=>
   simp at hf ht
   subst hf ht;rw[dK _ _ _ _ rfl];rfl
  |1,hf,ht=>
   simp at hf ht
   subst hf ht;rw[dK _ _ _ _ rfl];rfl
  |2,hf,ht=>
   simp at hf ht
   subst hf ht;rw[dK _ _ _ _ rfl];rfl
  |3,hf,ht=>
   simp at hf ht
   subst hf ht;rw[dK _ _ _ _ rfl];rfl
  |i+4,hf,_=>simp at hf
 clear hW1;go_wp2_with fail
 refine(sW A w0 _ rb _ _ _ ws sa wb wo wc _ HS.o.1 lA.o HW.o.sa HW.o.few).mono ?_;rintro v w2 ⟨rfl,us,jx,gp,gq,eQ⟩;obtain⟨u0,u1,u2,u3,rfl⟩:∃u0 u1 u2 u3,us=[u0,u1,u2,u3]:=by
  match us,jx with
  |[u0,u1,u2,u3],_=>exact⟨u0,u1,u2,u3,rfl⟩
 obtain⟨z0,rfl⟩:=gp 0 2 u0 rfl rfl;obtain⟨z1,rfl⟩:=gp 1 2 u1 rfl rfl;obtain⟨z2,rfl⟩:=gp 2 1 u2 rfl rfl;obtain⟨z3,rfl⟩:=gp 3 1 u3 rfl rfl;have HV:aa ((aY (aV e.ak) false [2,2,1,1] (ws.map bl)).1=0->(∀s,ws[0]?=J s->z0=(bF (aV e.ak) 2 (bl s)).2)/\(∀s,ws[1]?=J s->z1=(bF (aV e.ak) 2 (bl s)).2)/\(∀s,ws[2]?=J s->z2=(bF (aV e.ak) 1 (bl s)).2)/\(∀s,ws[3]?=J s->z3=(bF (aV e.ak) 1 (bl s)).2)):=λh0=>⟨(λs hs=>by have:=gq h0 0 2 s _ rfl hs rfl;unfold valOf at this;rw[aK (by decide)]at this;exact(nK this).2),(λs hs=>by have:=gq h0 1 2 s _ rfl hs rfl;unfold valOf at this;rw[aK (by decide)]at this;exact(nK this).2),(λs hs=>by have:=gq h0 2 1 s _ rfl hs rfl;unfold valOf at this;rw[aK (by decide)]at this;exact(nK this).2),(λs hs=>by have:=gq h0 3 1 s _ rfl hs rfl;unfold valOf at this;rw[aK (by decide)]at this;exact(nK this).2)⟩
 have aW:aa _:=Au (aO.o.trans ((aN _ _).mono aO.o.size)) (λt ht=>by
  simp only[fg,jB,jU]at ht
  rcases ht with rfl|rfl|rfl|rfl
  all_goals (simp only[];omega)) eQ
 have Rf:w2.cell? ⟨w.heap.size,0,I⟩=J (U R z0):=by
  have h1:=yv (W1.alloc (au #[.iface 312 (aj (J ⟨w.heap.size,0,I⟩)),.iface 312 (aj (J ⟨w.heap.size+1,0,I⟩)),.iface 263 (aj (J ⟨w.heap.size+2,2,I⟩)),.iface 263 (aj (J ⟨w.heap.size+2,3,I⟩))] 20)) [(w.heap.size,0),(w.heap.size+1,0),(w.heap.size+2,2),(w.heap.size+2,3)] [U R z0,U R z1,U R z2,U R z3] 0 (w.heap.size,0) (U R z0) (by simp) rfl rfl ⟨_,aG (aN _ _) ft.o.1⟩;exact(eQ.cell (p:=⟨_,0,_⟩) (by have:=fP.o;simp;omega)).trans h1
 have Rg:w2.cell? ⟨w.heap.size+1,0,I⟩=J (U R z1):=by
  have h1:=yv (W1.alloc (au #[.iface 312 (aj (J ⟨w.heap.size,0,I⟩)),.iface 312 (aj (J ⟨w.heap.size+1,0,I⟩)),.iface 263 (aj (J ⟨w.heap.size+2,2,I⟩)),.iface 263 (aj (J ⟨w.heap.size+2,3,I⟩))] 20)) [(w.heap.size,0),(w.heap.size+1,0),(w.heap.size+2,2),(w.heap.size+2,3)] [U R z0,U R z1,U R z2,U R z3] 1 (w.heap.size+1,0) (U R z1) (by simp) rfl rfl ⟨_,aG (aN _ _) dp.o.1⟩;exact(eQ.cell (p:=⟨_,0,_⟩) (by have:=fP.o;simp;omega)).trans h1
 have Rh:w2.cell? ⟨w.heap.size+2,2,I⟩=J (U R z2):=by
  have h1:=yv (W1.alloc (au #[.iface 312 (aj (J ⟨w.heap.size,0,I⟩)),.iface 312 (aj (J ⟨w.heap.size+1,0,I⟩)),.iface 263 (aj (J ⟨w.heap.size+2,2,I⟩)),.iface 263 (aj (J ⟨w.heap.size+2,3,I⟩))] 20)) [(w.heap.size,0),(w.heap.size+1,0),(w.heap.size+2,2),(w.heap.size+2,3)] [U R z0,U R z1,U R z2,U R z3] 2 (w.heap.size+2,2) (U R z2) (by simp) rfl rfl ⟨_,aG (aN _ _) r_.o.1⟩;exact(eQ.cell (p:=⟨_,2,_⟩) (by have:=fP.o;simp;omega)).trans h1
 have Ri:w2.cell? ⟨w.heap.size+2,3,I⟩=J (U R z3):=by
  have h1:=yv (W1.alloc (au #[.iface 312 (aj (J ⟨w.heap.size,0,I⟩)),.iface 312 (aj (J ⟨w.heap.size+1,0,I⟩)),.iface 263 (aj (J ⟨w.heap.size+2,2,I⟩)),.iface 263 (aj (J ⟨w.heap.size+2,3,I⟩))] 20)) [(w.heap.size,0),(w.heap.size+1,0),(w.heap.size+2,2),(w.heap.size+2,3)] [U R z0,U R z1,U R z2,U R z3] 3 (w.heap.size+2,3) (U R z3) (by simp) rfl rfl ⟨_,aG (aN _ _) C5.o.1⟩;exact(eQ.cell (p:=⟨_,3,_⟩) (by have:=fP.o;simp;omega)).trans h1
 have Rj:w2.cell? ⟨w.heap.size+2,0,I⟩=J (U R 0):=by
  have h1:=yq (W1.alloc (au #[.iface 312 (aj (J ⟨w.heap.size,0,I⟩)),.iface 312 (aj (J ⟨w.heap.size+1,0,I⟩)),.iface 263 (aj (J ⟨w.heap.size+2,2,I⟩)),.iface 263 (aj (J ⟨w.heap.size+2,3,I⟩))] 20)) [(w.heap.size,0),(w.heap.size+1,0),(w.heap.size+2,2),(w.heap.size+2,3)] [U R z0,U R z1,U R z2,U R z3] (w.heap.size+2) 0 (λt ht=>by
   simp only[fg,jB,jU]at ht
   rcases ht with rfl|rfl|rfl|rfl
   all_goals simp)
  exact(eQ.cell (p:=⟨_,0,_⟩) (by have:=fP.o;simp;omega)).trans (h1.trans (aG (aN _ _) (HG.o 0 (by decide)).1))
 have Rk:w2.cell? ⟨w.heap.size+2,1,I⟩=J (U R 0):=by
  have h1:=yq (W1.alloc (au #[.iface 312 (aj (J ⟨w.heap.size,0,I⟩)),.iface 312 (aj (J ⟨w.heap.size+1,0,I⟩)),.iface 263 (aj (J ⟨w.heap.size+2,2,I⟩)),.iface 263 (aj (J ⟨w.heap.size+2,3,I⟩))] 20)) [(w.heap.size,0),(w.heap.size+1,0),(w.heap.size+2,2),(w.heap.size+2,3)] [U R z0,U R z1,U R z2,U R z3] (w.heap.size+2) 1 (λt ht=>by
   simp only[fg,jB,jU]at ht
   rcases ht with rfl|rfl|rfl|rfl
   all_goals simp)
  exact(eQ.cell (p:=⟨_,1,_⟩) (by have:=fP.o;simp;omega)).trans (h1.trans (aG (aN _ _) (HG.o 1 (by decide)).1))
 have Kd:∀j,j<4->w2.frozen? ⟨w.heap.size+2,j,I⟩=false:=λj hj=>by
  have h1:=HG.o j hj;have hsz:(W1.alloc (au #[.iface 312 (aj (J ⟨w.heap.size,0,I⟩)),.iface 312 (aj (J ⟨w.heap.size+1,0,I⟩)),.iface 263 (aj (J ⟨w.heap.size+2,2,I⟩)),.iface 263 (aj (J ⟨w.heap.size+2,3,I⟩))] 20)).heap.size=w.heap.size+4:=by have:=fP.o;simp;omega
  have e1:w2.heap[w.heap.size+2]?=(dD _ _ _).heap[w.heap.size+2]?:=eQ.block _ (by omega);have e2:=JX (W1.alloc (au #[.iface 312 (aj (J ⟨w.heap.size,0,I⟩)),.iface 312 (aj (J ⟨w.heap.size+1,0,I⟩)),.iface 263 (aj (J ⟨w.heap.size+2,2,I⟩)),.iface 263 (aj (J ⟨w.heap.size+2,3,I⟩))] 20)) [(w.heap.size,0),(w.heap.size+1,0),(w.heap.size+2,2),(w.heap.size+2,3)] [U R z0,U R z1,U R z2,U R z3] ⟨w.heap.size+2,j,I⟩;have e3:(W1.alloc (au #[.iface 312 (aj (J ⟨w.heap.size,0,I⟩)),.iface 312 (aj (J ⟨w.heap.size+1,0,I⟩)),.iface 263 (aj (J ⟨w.heap.size+2,2,I⟩)),.iface 263 (aj (J ⟨w.heap.size+2,3,I⟩))] 20)).frozen? ⟨w.heap.size+2,j,I⟩=false:=by rw[o_ (aN _ _) h1.1];exact h1.2
  rw[e3]at e2;unfold World.frozen? at e2⊢;simp only at e2⊢;rw[e1];exact e2
 clear jx gp gq eQ lA ft dp r_ C5;have Ke:=Kd 0 (by decide);have Kf:=Kd 1 (by decide);clear Kd;go_upto_region 13 with fail
 obtain⟨w3,hw3⟩:∃V,V=(w2.setCell ⟨w.heap.size+2,0,I⟩ (U R z0)).setCell ⟨w.heap.size+2,1,I⟩ (U R z1):=⟨_,rfl⟩;rw[<- hw3];have fG:aa (Below w.heap.size w w3):=by show Below _ _ _;rw[hw3];exact(aW.o.setCell (p:=⟨_,0,_⟩) (by simp only[];omega) _).setCell (p:=⟨_,1,_⟩) (by simp only[];omega) _
 have d0:w3.cell? ⟨w.heap.size+2,0,I⟩=J (U R z0):=by rw[hw3,eD (aP (by simp)) rfl rfl];exact yo Rj
 have d1:w3.cell? ⟨w.heap.size+2,1,I⟩=J (U R z1):=by rw[hw3];exact yo ((eD (aP (by simp)) rfl rfl).trans Rk)
 have d2:w3.cell? ⟨w.heap.size+2,2,I⟩=J (U R z2):=by rw[hw3,eD (aP (by simp)) rfl rfl,eD (aP (by simp)) rfl rfl];exact Rh
 have d3:w3.cell? ⟨w.heap.size+2,3,I⟩=J (U R z3):=by rw[hw3,eD (aP (by simp)) rfl rfl,eD (aP (by simp)) rfl rfl];exact Ri
 clear hw3 Rj Rk Rf Rg Rh Ri Ke Kf;have b_:aa _:=HR.o.below fG.o;have c8:w3.cell? ⟨g,o+6,I⟩=J (af fa e.aB.length fc):=by rw[HO.o,<- gB.o];exact(b_.o.aZ (j:=6) rfl).1
 have hown:w3.drew.ownsRow L 86 4 (af fa e.aB.length fc) e.aB.length (e.aB.flatMap iD):=by rw[<- gB.o];exact b_.o.new.hg
 have iN:aa _:=bw HL.o fG.o.size;have lH:=iN.o;have KB:aa (∀(ob:Obj) (w8:ai),(w3.drew.alloc ob).grownBy w8 (Value.slice fa e.aB.length fc).ownBlock->w8.cell? ⟨g,o+6,I⟩=J (af fa e.aB.length fc)/\w8.frozen? ⟨g,o+6,I⟩=false):=λob w8 hg=>by
  have iT:=b_.o.below (w':=w3.drew.alloc ob) ((aC _ w3).drew.alloc (by simp) ob);obtain⟨cur,hc,-⟩:=iT.grow;rw[<- gB.o]at hg⊢;rw[HO.o];have e1:=(hg.block g (bJ hc) (λe2=>dZ iT.new.hg hc (by decide) e2.symm));have h2:=iT.aZ (j:=6) (u:=x.g) rfl;exact⟨(qj e1).trans h2.1,by have:=h2.2;unfold World.frozen? at this⊢;simp only at this⊢;rw[e1];exact this⟩
 have BV:∀ob,(w3.alloc ob).cell? _=J _:=λob=>aG (aN _ _) c8
 go_wp2_with fail
 go_region_law (refine ni _ rfl _ _ 81 rfl L 86 i0 _ 4 32 underlying81 hi hz0 hz1 hz2 rfl (by decide) _ _ _ (by simp[Act.eval]) (hown.alloc _) _ 1 1 _ (by simp[Act.eval]) rfl (Av w3.drew [U R z0,U R z1,U R z2,U R z3] 86) (Ig ⟨z0,z1,z2,z3⟩) (by decide) (by unfold maxLen;omega) (by omega) (by simp;omega) (w3.heap.size+1) (by simp) ?_;intro g' cap' w8 dy bZ cH ld;have r8:=KB.o _ _ bZ;have d8:=r8.1;have d9:=r8.2)
 all_goals
  go_wp2;go_ret
  refine⟨rfl,?_,z0,z1,z2,z3,{ x with g:=af (J ⟨g',0,I⟩) (e.aB.length+1) cap' },HV.o,?_,?_⟩
  ·exact Fu HS.o.2 fG.o b_.o iN.o (by rw[gB.o];exact bZ) (λb hb=>(b_.o.new.hg.lt b hb).1) _ _
  ·rw[HO.o];exact(b_.o.below (w':=w3.drew.alloc _) ((aC _ w3).drew.alloc (by simp) _)).J_ _ (by rw[gB.o];exact bZ) dy
  have h1:=bZ.size;have h2:=iN.o;simp[World.setCell]at h1⊢
  omega
theorem eF.nums{B:Nat}{w:ai}{e:aF}{x:cn}(h:eF B w e x)(a b d:Int):eF B w { e with cnt:=a,mn:=b,mx:=d } x:=⟨h.hp,h.hg,h.he,h.hf,h.hl⟩
theorem aeB(A:Nat->az)(w0 w:ai)(rb L g cap mb:Nat)(c:aS)(last:Int)(es:List aF)(e:aF)(x:cn)(cells:List ar)(sa:Option az)(ws:List ByteArray)(wb wo wc:Nat)(hs:dA A w0)(hb0:Below w0.heap.size w0 w)(h:dx w0.heap.size rb L g cap mb w c last es e x cells)(eG:L<=w.heap.size)(hW:jM w sa ws wb wo):Calls prog 177 #[aj (J ⟨rb,0,I⟩),aj (J ⟨g,es.length*10,I⟩),U R 5,af sa ws.length wc] w λv w'=>v=ax (cN A (aY (aV e.ak) false [2,1,1] (ws.map bl)).1)/\Below w0.heap.size w0 w'/\∃(z0 z1 z2:Int),((aY (aV e.ak) false [2,1,1] (ws.map bl)).1=0->(∀s,ws[0]?=J s->z0=(bF (aV e.ak) 2 (bl s)).2)/\(∀s,ws[1]?=J s->z1=(bF (aV e.ak) 1 (bl s)).2)/\(∀s,ws[2]?=J s->z2=(bF (aV e.ak) 1 (bl s)).2))/\dx w0.heap.size rb L g cap mb w' c last es { e with cnt:=z0,mn:=z1,mx:=z2 } x cells/\L<=w'.heap.size:=by
 obtain⟨o,ho⟩:∃o,o=es.length*10:=⟨_,rfl⟩;have HO:aa _:=ho;have HS:aa (dA A w0/\Below _ w0 w):=⟨hs,hb0⟩;have HR:aa _:=h;have HW:aa _:=hW;have HL:aa _:=eG;obtain⟨ajh,hg0,Rl⟩:=h.grow;have C9:aa (w.heap[g]?=J _/\w0.heap.size<=g/\g<w.heap.size):=⟨hg0,Rl,bJ hg0⟩;rw[<- ho];clear ho hs hb0 h hW eG hg0 Rl;go_enter func177,ntmps177
 go_upto_region 2 with fail
 obtain⟨W1,hW1⟩:∃V,V=(w.alloc (au #[U R 0] 307)).alloc (au #[U R 0] 307):=⟨_,rfl⟩;rw[<- hW1];have aO:aa (Below w.heap.size w W1):=by show Below _ _ _;rw[hW1];exact(aN _ _).alloc (by simp) _
 have fP:aa (W1.heap.size=w.heap.size+2):=by show _=_;rw[hW1];simp
 have dp:aa (W1.cell? ⟨w.heap.size,0,I⟩=J (U R 0)/\W1.frozen? ⟨w.heap.size,0,I⟩=false):=by
  refine⟨by rw[hW1];exact(yu w _ _ _).1,?_⟩;rw[hW1,lz,lz];exact uM w 0 0
 clear hW1;have lA:aa (∀q,ot w0 rb e.ak [2,1,1] [(w.heap.size,0),(g,o+4),(g,o+5)] ws wb wo W1.heap.size ((W1.drewN q).alloc (au #[.iface 312 (aj (J ⟨w.heap.size,0,I⟩)),.iface 263 (aj (J ⟨g,o+4,I⟩)),.iface 263 (aj (J ⟨g,o+5,I⟩))] 20))):=λq=>by
  have cK:Below W1.heap.size W1 ((W1.drewN q).alloc (au #[.iface 312 (aj (J ⟨w.heap.size,0,I⟩)),.iface 263 (aj (J ⟨g,o+4,I⟩)),.iface 263 (aj (J ⟨g,o+5,I⟩))] 20)):=(cg (aC _ _) q).alloc (aQ _) _;have hlt:=HW.o.lt;have hz:=fP.o;have jb:=bJ HR.o.row;have hsz:=HS.o.2.size;have hgr:=C9.o;have wO:g≠wb:=λe2=>by
   obtain⟨cc,fr,hh⟩:=HW.o.blk;have h1:=hgr.1;rw[e2,hh]at h1;simp only[eR,l_]at h1;exact absurd h1.2.1 (by decide)
  have hrg:g≠rb:=λe2=>by
   have h1:=hgr.1;rw[e2,HR.o.row]at h1;simp only[eR,l_]at h1;exact absurd h1.2.1 (by decide)
  have k4:=(HR.o.below aO.o).aZ (j:=4) (u:=U R _) rfl;have k5:=(HR.o.below aO.o).aZ (j:=5) (u:=U R _) rfl;rw[<- HO.o]at k4 k5
  refine⟨HS.o.2.trans ((aO.o.trans (cK.mono aO.o.size)).mono hsz),rfl,by simp,by simp,?_,?_,?_,?_,λi s hi=>aG cK (aG aO.o (HW.o.pS i s hi)),HW.o.sz,λ_=>⟨mb,((HR.o.below aO.o).below cK).Ar⟩⟩
  ·intro i f t hf ht
   match i,hf,ht with
   |0,hf,ht=>
    simp at hf ht
    subst hf ht;exact⟨⟨_,aG cK dp.o.1,⟨0,rfl⟩⟩,by rw[o_ cK dp.o.1];exact dp.o.2⟩
   |1,hf,ht=>
    simp at hf ht
    subst hf ht;exact⟨⟨_,aG cK k4.1,⟨_,rfl⟩⟩,by rw[o_ cK k4.1];exact k4.2⟩
   |2,hf,ht=>
    simp at hf ht
    subst hf ht;exact⟨⟨_,aG cK k5.1,⟨_,rfl⟩⟩,by rw[o_ cK k5.1];exact k5.2⟩
   |i+3,hf,_=>simp at hf
  ·intro t ht;simp only[fg,jB,jU]at ht
   rcases ht with rfl|rfl|rfl
   ·exact⟨by simp only[];omega,λe2=>by have:=(rB e2).1;omega,by simp only[];omega,by simp only[];omega⟩
   ·exact⟨hgr.2.1,λe2=>hrg (rB e2).1,by simp only[];omega,wO⟩
   exact⟨hgr.2.1,λe2=>hrg (rB e2).1,by simp only[];omega,wO⟩
  ·have:w.heap.size≠g:=by omega
   simp[this]
  intro i f t hf ht
  match i,hf,ht with
  |0,hf,ht=>
   simp at hf ht
   subst hf ht;show World.cell? _ ⟨(W1.drewN q).heap.size,_,_⟩=_
   rw[dK _ _ _ _ rfl];rfl
  |1,hf,ht=>
   simp at hf ht
   subst hf ht;show World.cell? _ ⟨(W1.drewN q).heap.size,_,_⟩=_
   rw[dK _ _ _ _ rfl];rfl
  |2,hf,ht=>
   simp at hf ht
   subst hf ht;show World.cell? _ ⟨(W1.drewN q).heap.size,_,_⟩=_
   rw[dK _ _ _ _ rfl];rfl
  |i+3,hf,_=>simp at hf
 have Rm:aa (∀q,Calls prog 175 #[aj (J ⟨rb,0,I⟩),af sa ws.length wc,af (J ⟨W1.heap.size,0,I⟩) 3 3] ((W1.drewN q).alloc (au #[.iface 312 (aj (J ⟨w.heap.size,0,I⟩)),.iface 263 (aj (J ⟨g,o+4,I⟩)),.iface 263 (aj (J ⟨g,o+5,I⟩))] 20)) λv w2=>v=ax (cN A (aY (aV e.ak) false [2,1,1] (ws.map bl)).1)/\∃z0 z1 z2:Int,((aY (aV e.ak) false [2,1,1] (ws.map bl)).1=0->(∀s,ws[0]?=J s->z0=(bF (aV e.ak) 2 (bl s)).2)/\(∀s,ws[1]?=J s->z1=(bF (aV e.ak) 1 (bl s)).2)/\(∀s,ws[2]?=J s->z2=(bF (aV e.ak) 1 (bl s)).2))/\w2.cell? ⟨w.heap.size,0,I⟩=J (U R z0)/\Below w0.heap.size w0 w2/\w.heap.size<=w2.heap.size/\dx w0.heap.size rb L g cap mb w2 c last es { e with cnt:=e.cnt,mn:=z1,mx:=z2 } x cells):=λq=>by
  refine(sW A w0 _ rb _ _ _ ws sa wb wo wc _ HS.o.1 (lA.o q) HW.o.sa HW.o.few).mono ?_;rintro v w2 ⟨rfl,us,jx,gp,gq,eQ⟩;obtain⟨u0,u1,u2,rfl⟩:∃u0 u1 u2,us=[u0,u1,u2]:=by
   match us,jx with
   |[u0,u1,u2],_=>exact⟨u0,u1,u2,rfl⟩
  obtain⟨z0,rfl⟩:=gp 0 2 u0 rfl rfl;obtain⟨z1,rfl⟩:=gp 1 1 u1 rfl rfl;obtain⟨z2,rfl⟩:=gp 2 1 u2 rfl rfl;obtain⟨V,hV⟩:∃V,V=(W1.drewN q).alloc (au #[.iface 312 (aj (J ⟨w.heap.size,0,I⟩)),.iface 263 (aj (J ⟨g,o+4,I⟩)),.iface 263 (aj (J ⟨g,o+5,I⟩))] 20):=⟨_,rfl⟩;have mL:Below w.heap.size w V:=by rw[hV];exact(cg aO.o q).alloc (by have:=fP.o;show w.heap.size<=W1.heap.size;omega) _
  have cV:V.cell? ⟨w.heap.size,0,I⟩=J (U R 0):=by
   rw[hV];exact aG (w:=W1) ((cg (aC _ _) q).alloc (aQ _) _) dp.o.1
  rw[<- hV]at eQ;have rC:Below _ w (V.setCell _ (U R z0)):=mL.setCell (p:=⟨w.heap.size,0,I⟩) (aQ _) _;have r0:=HR.o.below rC;have r1:=r0.J8 (e':={ e with mn:=z1 }) (x':=x) 4 (U R z1) rfl (r0.new.nums _ z1 _) r0.fl rfl;have r2:=r1.J8 (e':={ e with mn:=z1,mx:=z2 }) (x':=x) 5 (U R z2) rfl (r1.new.nums _ z1 z2) r1.fl rfl;rw[<- HO.o]at r2;have hz2:(((V.setCell ⟨w.heap.size,0,I⟩ (U R z0)).setCell ⟨g,o+4,I⟩ (U R z1)).setCell ⟨g,o+5,I⟩ (U R z2)).heap.size=V.heap.size:=by simp[World.setCell]
  have pT:Below (((V.setCell ⟨w.heap.size,0,I⟩ (U R z0)).setCell ⟨g,o+4,I⟩ (U R z1)).setCell ⟨g,o+5,I⟩ (U R z2)).heap.size (((V.setCell ⟨w.heap.size,0,I⟩ (U R z0)).setCell ⟨g,o+4,I⟩ (U R z1)).setCell ⟨g,o+5,I⟩ (U R z2)) w2:=by rw[hz2];exact eQ
  have Rn:g≠w.heap.size:=by have:=C9.o.2.2;omega
  refine⟨rfl,z0,z1,z2,λh0=>⟨(λs hs=>by have:=gq h0 0 2 s _ rfl hs rfl;unfold valOf at this;rw[aK (by decide)]at this;exact(nK this).2),(λs hs=>by have:=gq h0 1 1 s _ rfl hs rfl;unfold valOf at this;rw[aK (by decide)]at this;exact(nK this).2),(λs hs=>by have:=gq h0 2 1 s _ rfl hs rfl;unfold valOf at this;rw[aK (by decide)]at this;exact(nK this).2)⟩,?_,?_,?_,?_⟩
  ·refine aG pT ?_;rw[eD (a_ Rn) rfl rfl,eD (a_ Rn) rfl rfl];exact yo cV
  ·have h1:=HS.o.2.trans (mL.mono HS.o.2.size);have h2:=((h1.setCell (p:=⟨w.heap.size,0,I⟩) HS.o.2.size (U R z0)).setCell (p:=⟨g,o+4,I⟩) C9.o.2.1 (U R z1)).setCell (p:=⟨g,o+5,I⟩) C9.o.2.1 (U R z2);exact h2.trans (pT.mono h2.size)
  ·have h1:=pT.size;have h2:=mL.size;omega
  exact r2.below pT
 clear lA dp;go_upto_region 7 with fail
 go_region_held3 (λ_=>True) (exact trivial) (first|(go_at_call 175;refine aL (Rm.o _) ?_;rintro v w2 ⟨rfl,z0,z1,z2,hz,cz,hb2,hs2,hr2⟩))
 all_goals
  have HV:aa _:=hz;have aW:aa _:=hb2;have b_:aa _:=hr2;have wC:aa _:=hs2;have k3:=hr2.aZ (j:=3) (u:=U R e.cnt) rfl;rw[<- HO.o]at k3;obtain⟨aji,ajj⟩:=k3;clear hz hb2 hr2 hs2 Rm;go_wp2;go_ret
  refine⟨rfl,aW.o.setCell (p:=⟨g,_,_⟩) C9.o.2.1 _,z0,z1,z2,HV.o,?_,?_⟩
  ·have:=b_.o.J8 (e':={ e with cnt:=z0,mn:=z1,mx:=z2 }) (x':=x) 3 (U R z0) rfl (b_.o.new.nums z0 z1 z2) b_.o.fl rfl;rw[<- HO.o]at this;exact this
  have h1:=wC.o;have h2:=HL.o;simp only[World.setCell,Array.size_modify];omega
structure ow(B rb:Nat)(w:ai)(c:aS)(last:Int)(ev mv:ar)(es:List aF)(cells:List ar):Prop where
 lo:B<=rb
 row:w.heap[rb]?=J (au (gA c ev last mv) 151 (0,0))
 aw:w.ownsRow B 84 10 ev es.length cells
 olds:∀(i:Nat) e',es[i]?=J e'->∃x',eF B w e' x'/\uJ w.heap.size x'/\∀(j:Nat) u,(x'.row e')[j]?=J u->cells[i*10+j]?=J u
theorem uJ.mono{L L':Nat}{x:cn}(h:uJ L x)(hl:L<=L'):uJ L' x:=⟨λb hb=>eh (h.p b hb) hl,λb hb=>eh (h.g b hb) hl,λb hb=>eh (h.e b hb) hl,λb hb=>eh (h.f b hb) hl,λb hb=>eh (h.l b hb) hl⟩
theorem nL.toA{B rb:Nat}{w:ai}{c:aS}{last:Int}(h:nL B rb w c last):ow B rb w c last (af I 0 0) (.map I) [] []:=⟨h.lo,h.row,fC _ _ _ _,λi e' he=>by simp at he⟩
theorem dx.toA{B rb L g cap mb:Nat}{w:ai}{c:aS}{last:Int}{es:List aF}{e:aF}{x:cn}{cells:List ar}(h:dx B rb L g cap mb w c last es e x cells)(hL:L<=w.heap.size):ow B rb w c last (af (J ⟨g,0,I⟩) (es.length+1) cap) (.map (J mb)) (es++[e]) (cells++(x.row e).toList):=by
 refine⟨h.lo,h.row,by rw[dm];exact h.aw,λi e' he=>?_⟩
 rcases fR i es.length with hi|hi
 ·rw[mX hi]at he;obtain⟨x',a,b,d⟩:=h.olds i e' he
  refine⟨x',a,b.mono hL,λj u hu=>?_⟩;have:=d j u hu;have hlt:i*10+j<cells.length:=by
   rcases fR (i*10+j) cells.length with h'|h'
   ·exact h'
   rw[iI h']at this;cases this
  rw[mX hlt];exact this
 rw[ko hi]at he;have h0:i=es.length:=by
  rcases Nat.eq_zero_or_pos (i-es.length)with h'|h'
  ·omega
  rw[iI (by simp;omega)]at he;cases he
 subst h0;simp at he
 subst he
 refine⟨x,h.new.weak h.jL,h.new.Rb,λj u hu=>?_⟩;rw[ko (by rw[h.iz];omega),h.iz,vG,tL];exact hu
theorem ow.below{B rb:Nat}{w w':ai}{c:aS}{last:Int}{ev mv:ar}{es:List aF}{cells:List ar}(h:ow B rb w c last ev mv es cells)(hb:Below w.heap.size w w'):ow B rb w' c last ev mv es cells:=
 ⟨h.lo,bG hb h.row,h.aw.kept (row:=I) ⟨hb.os,hb.tape,hb.output,hb.size,λk hk _=>hb.block k hk⟩ (by by_cases e:ev.ownBlock=I;exact a_ e;exact aP e),λi e' he=>by
  obtain⟨x',a,b,d⟩:=h.olds i e' he;exact⟨x',qZ.below a hb,b.mono hb.size,d⟩⟩
theorem eF.grown{B B' n:Nat}{w w':ai}{e:aF}{x:cn}{v:ar}{xs:List ar}(h:eF B w e x)(ho:w.ownsRow B' 84 10 v n xs)(hg:w.grownBy w' v.ownBlock):eF B w' e x:=by
 rcases ho.2 with⟨rfl,_⟩|⟨g,cap,cur,rfl,_,eA,_⟩
 ·have em:∀o:Option Nat,o=I\/o≠(Value.slice I 0 0).ownBlock:=λo=>by by_cases e:o=I;exact a_ e;exact aP e
  exact h.kept hg (em _) (em _) (em _) (em _) (em _)
 exact h.other hg eA (by decide) (by decide) (by decide) (by decide)
def pU:cn:=⟨af I 0 0,af I 0 0,af I 0 0,af I 0 0,af I 0 0⟩
def pg(nm:ByteArray)(z:Int):aF:=⟨nm,z,[],-1,0,0,[],[],[],[]⟩
theorem Ro(B:Nat)(w:ai)(nm:ByteArray)(z:Int):eF B w (pg nm z) pU:=⟨fC _ _ _ _,fC _ _ _ _,fC _ _ _ _,fC _ _ _ _,fC _ _ _ _⟩
theorem Rp(nm:ByteArray)(z:Int):∀u∈(pU.row (pg nm z)).toList,u.oneCell'=true:=by
 intro u hu;simp[cn.row,r9,pU,pg]at hu
 rcases hu with rfl|rfl|rfl|rfl|rfl|rfl<;>rfl
theorem aeC{B rb g cap H:Nat}{w V w8:ai}{c:aS}{last:Int}{ev mv:ar}{es:List aF}{cells:List ar}{nm:ByteArray}{z:Int}(h:ow B rb V c last ev mv es cells)(hw:ow B rb w c last ev mv es cells)(hB:B<=w.heap.size)(zW:Below w.heap.size w V)
  (hg:V.grownBy w8 ev.ownBlock) (ho:w8.ownsRow B 84 10 (.slice (J ⟨g,0,I⟩) (es.length+1) cap) (es.length+1) (cells++(pU.row (pg nm z)).toList)) (hH:H=w8.heap.size):dx B rb w.heap.size g cap H (((w8.setCell ⟨rb,4,I⟩ (.slice (J ⟨g,0,I⟩) (es.length+1) cap)).alloc (.map #[] 0)).setCell ⟨rb,6,I⟩ (.map (J H))) c last es (pg nm z) pU cells:=by
 have wP:=(hg.block rb (bJ h.row) (λe2=>dZ h.aw h.row (by decide) e2.symm)).trans h.row;have hsz:=hg.size;have ajk:=bJ wP;have Rq:(w8.setCell ⟨rb,4,I⟩ (.slice (J ⟨g,0,I⟩) (es.length+1) cap)).heap[rb]?=J (.cells (gA c (.slice (J ⟨g,0,I⟩) (es.length+1) cap) last mv) 151 (0,0)):=by
  simp only[World.setCell,dr,wP];simp[gA]
 have g1:=pd w8 rb 4 (.slice (J ⟨g,0,I⟩) (es.length+1) cap);obtain⟨A1,Rs⟩:∃A1,A1=w8.setCell ⟨rb,4,I⟩ (.slice (J ⟨g,0,I⟩) (es.length+1) cap):=⟨_,rfl⟩;rw[<- Rs]at Rq g1⊢;have hs1:A1.heap.size=H:=by rw[Rs,hH];simp[World.setCell]
 have b2:Below _ A1 (A1.alloc (.map #[] 0)):=aN _ _;have g3:=pd (A1.alloc (.map #[] 0)) rb 6 (.map (J H));have Fv:=bG b2 Rq;obtain⟨A2,Rt⟩:∃A2,A2=A1.alloc (.map #[] 0):=⟨_,rfl⟩;have hmap:A2.ownsMap prog 9 (plainElem prog 3) H 0 (.map []:DataW Unit):=by rw[Rt,<- hs1];exact World.ownsMap_made A1 _ _ _
 rw[<- Rt]at b2 g3 Fv⊢;have aeD:rb≠H:=by omega
 have aeE:∀{e:aF} {x:cn},eF B w8 e x->eF B _ e x:=λhx=>
  eF.other (qZ.below (hx.other g1 wP (by decide) (by decide) (by decide) (by decide)) b2) g3 Fv (by decide) (by decide) (by decide) (by decide)
 refine⟨⟨h.lo,hB,by have:=zW.size;omega,?_,?_,?_,λi e' he=>?_,Ro _ _ _ _,a_ rfl⟩,?_⟩
 ·simp only[World.setCell,dr,Fv];simp[gA]
 ·have o1:=ho.kept g1 (aP (dZ ho wP (by decide)));have o2:=o1.kept (row:=I) ⟨b2.os,b2.tape,b2.output,b2.size,λk hk _=>b2.block k hk⟩ (aP (by simp[Value.ownBlock]));exact o2.kept g3 (aP (dZ o2 Fv (by decide)))
 ·exact h.aw.1
 ·obtain⟨x',a,b,d⟩:=hw.olds i e' he;exact⟨x',aeE (eF.grown (qZ.below a zW) h.aw hg),b,d⟩
 refine⟨_,?_,ad3⟩;exact hmap.kept g3 (by simp;exact λe2=>aeD e2.symm)
theorem aeF(A:Nat->az)(w0 w:ai)(rb:Nat)(c:aS)(last:Int)(ev mv:ar)(es:List aF)(cells:List ar)(sa:Option az)(ws:List ByteArray)(wb wo wc:Nat)(hs:dA A w0)(hb0:Below w0.heap.size w0 w)(h:ow w0.heap.size rb w c last ev mv es cells)(hW:jM w sa ws wb wo)(hn:es.length<=1000000):Calls prog 176 #[aj (J ⟨rb,0,I⟩),af sa ws.length wc] w λv w'=>v=ax (cN A (aY (aV []) false [0,1] (ws.map bl)).1)/\Below w0.heap.size w0 w'/\∃(nm:ByteArray) (z:Int) (L g cap mb:Nat),((aY (aV []) false [0,1] (ws.map bl)).1=0->(∀s,ws[0]?=J s->nm=s)/\(∀s,ws[1]?=J s->z=(bF (aV []) 1 (bl s)).2))/\dx w0.heap.size rb L g cap mb w' c last es (pg nm z) pU cells/\L<=w'.heap.size:=by
 obtain⟨i0,hi,hz0,hz1,hz2⟩:=fj Ra;obtain⟨va,vc,rfl⟩:=cJ h.aw;have HS:aa (dA A w0/\Below _ w0 w):=⟨hs,hb0⟩;have HR:aa _:=h;have HW:aa _:=hW;have DJ:=@run_makeMap prog;clear hs hb0 h hW;go_enter func176,ntmps176
 go_upto_region 2 with fail
 obtain⟨W1,hW1⟩:∃V,V=w.alloc (au #[aq ⟨#[]⟩,U R 0,af I 0 0,U R (-1),U R 0,U R 0,af I 0 0,af I 0 0,af I 0 0,af I 0 0] 84):=⟨_,rfl⟩;rw[<- hW1];have aO:aa (Below w.heap.size w W1):=by show Below _ _ _;rw[hW1];exact aN _ _
 have fP:aa (W1.heap.size=w.heap.size+1):=by show _=_;rw[hW1];simp
 have sS:aa (W1.heap[w.heap.size]?=J (au #[aq ⟨#[]⟩,U R 0,af I 0 0,U R (-1),U R 0,U R 0,af I 0 0,af I 0 0,af I 0 0,af I 0 0] 84 (0,0))):=by show _=_;rw[hW1];exact cR w _
 clear hW1;have lA:aa (ot w0 rb [] [0,1] [(w.heap.size,0),(w.heap.size,1)] ws wb wo W1.heap.size (W1.alloc (au #[.iface 310 (aj (J ⟨w.heap.size,0,I⟩)),.iface 263 (aj (J ⟨w.heap.size,1,I⟩))] 20))):=by
  have cK:=aN W1 (au #[.iface 310 (aj (J ⟨w.heap.size,0,I⟩)),.iface 263 (aj (J ⟨w.heap.size,1,I⟩))] 20);have hlt:=HW.o.lt;have hz:=fP.o;have jb:=bJ HR.o.row;have hsz:=HS.o.2.size;have k:=bG cK sS.o
  refine⟨HS.o.2.trans ((aO.o.trans (cK.mono aO.o.size)).mono hsz),rfl,by simp,by simp,?_,?_,by simp,?_,λi s hi=>aG cK (aG aO.o (HW.o.pS i s hi)),HW.o.sz,λh2=>by simp at h2⟩
  ·intro i f t hf ht
   match i,hf,ht with
   |0,hf,ht=>
    simp at hf ht
    subst hf ht;exact⟨⟨_,by simp[World.cell?,k],⟨⟨#[]⟩,rfl,by decide⟩⟩,by simp[World.frozen?,k]⟩
   |1,hf,ht=>
    simp at hf ht
    subst hf ht;exact⟨⟨_,by simp[World.cell?,k],⟨0,rfl⟩⟩,by simp[World.frozen?,k]⟩
   |i+2,hf,_=>simp at hf
  ·intro t ht;simp only[fg,jB,jU]at ht
   rcases ht with rfl|rfl
   all_goals exact⟨by simp only[];omega,λe2=>by have:=(rB e2).1;omega,by simp only[];omega,by simp only[];omega⟩
  intro i f t hf ht
  match i,hf,ht with
  |0,hf,ht=>
   simp at hf ht
   subst hf ht;rw[dK _ _ _ _ rfl];rfl
  |1,hf,ht=>
   simp at hf ht
   subst hf ht;rw[dK _ _ _ _ rfl];rfl
  |i+2,hf,_=>simp at hf
 go_wp2_with fail
 refine(sW A w0 _ rb [] _ _ ws sa wb wo wc _ HS.o.1 lA.o HW.o.sa HW.o.few).mono ?_;rintro v w2 ⟨rfl,us,jx,gp,gq,eQ⟩;obtain⟨u0,u1,rfl⟩:∃u0 u1,us=[u0,u1]:=by
  match us,jx with
  |[u0,u1],_=>exact⟨u0,u1,rfl⟩
 obtain⟨nm,rfl,-⟩:=gp 0 0 u0 rfl rfl;obtain⟨z,rfl⟩:=gp 1 1 u1 rfl rfl;have HV:aa ((aY (aV []) false [0,1] (ws.map bl)).1=0->(∀s,ws[0]?=J s->nm=s)/\(∀s,ws[1]?=J s->z=(bF (aV []) 1 (bl s)).2)):=λh0=>⟨(λs hs=>by have:=gq h0 0 0 s _ rfl hs rfl;unfold valOf at this;rw[aR rfl]at this;exact Value.string.inj this),(λs hs=>by have:=gq h0 1 1 s _ rfl hs rfl;unfold valOf at this;rw[aK (by decide)]at this;exact(nK this).2)⟩
 have aW:aa _:=Au (aO.o.trans ((aN _ _).mono aO.o.size)) (λt ht=>by
  simp only[fg,jB,jU]at ht
  rcases ht with rfl|rfl
  all_goals exact aQ _) eQ
 have iy:aa (w2.heap[w.heap.size]?=J (au #[aq nm,U R z,af I 0 0,U R (-1),U R 0,U R 0,af I 0 0,af I 0 0,af I 0 0,af I 0 0] 84 (0,0))):=by
  show _=_
  have k:=bG (aN W1 (au #[.iface 310 (aj (J ⟨w.heap.size,0,I⟩)),.iface 263 (aj (J ⟨w.heap.size,1,I⟩))] 20)) sS.o;have k2:(dD (W1.alloc (au #[.iface 310 (aj (J ⟨w.heap.size,0,I⟩)),.iface 263 (aj (J ⟨w.heap.size,1,I⟩))] 20)) [(w.heap.size,0),(w.heap.size,1)] [aq nm,U R z]).heap[w.heap.size]?=J (au #[aq nm,U R z,af I 0 0,U R (-1),U R 0,U R 0,af I 0 0,af I 0 0,af I 0 0,af I 0 0] 84 (0,0)):=by
   simp only[dD,World.setCell,dr,k];simp
  refine(eQ.block _ ?_).trans k2;have:=fP.o;simp
  omega
 clear jx gp gq eQ lA sS aO fP;have yy:∀(j:Nat) u,(#[aq nm,U R z,af I 0 0,U R (-1),U R 0,U R 0,af I 0 0,af I 0 0,af I 0 0,af I 0 0]:Array _)[j]?=J u->w2.cell? ⟨w.heap.size,j,I⟩=J u:=λj u hu=>by simp[World.cell?,iy.o,hu]
 have y0:=yy 0 _ rfl;have y1:=yy 1 _ rfl;have y2:=yy 2 _ rfl;have y3:=yy 3 _ rfl;have y4:=yy 4 _ rfl;have y5:=yy 5 _ rfl;have y6:=yy 6 _ rfl;have y7:=yy 7 _ rfl;have y8:=yy 8 _ rfl;have y9:=yy 9 _ rfl;clear yy iy;have b_:aa _:=HR.o.below aW.o;have c4:w2.cell? ⟨rb,4,I⟩=J (af va es.length vc):=by have:=b_.o.row;simp[World.cell?,this,gA]
 have Kg:∀ob,(w2.alloc ob).cell? _=J _:=λob=>aG (aN _ _) c4
 have hown:w2.drew.ownsRow _ 84 10 _ _ _:=b_.o.aw;have lH:=bw HS.o.2.size aW.o.size;have KB:aa (∀(ob:Obj) (w8:ai),(w2.drew.alloc ob).grownBy w8 (Value.slice va es.length vc).ownBlock->w8.heap[rb]?=J (au (gA c (af va es.length vc) last mv) 151 (0,0))/\Below w0.heap.size w0 w8):=λob w8 hg=>by
  have iT:=b_.o.below (w':=w2.drew.alloc ob) ((aC _ w2).drew.alloc (by simp) ob);have b2:=HS.o.2.trans (aW.o.mono HS.o.2.size);have b3:=b2.trans (((aC _ w2).drew.alloc (by simp) ob).mono b2.size);exact⟨(hg.block rb (bJ iT.row) (λe2=>dZ iT.aw iT.row (by decide) e2.symm)).trans iT.row,b3.grown hg b3.size (λk hk=>(iT.aw.lt k hk).1)⟩
 go_wp2_with fail
 go_region_law (refine ni _ rfl _ _ 28 rfl _ 84 i0 _ 10 168 underlying28 hi hz0 hz1 hz2 rfl (by decide) _ _ _ (by simp[Act.eval]) (hown.alloc _) _ 1 1 _ (by simp[Act.eval]) rfl (Av _ (pU.row _).toList 84) (Rp nm z) (by decide) (by unfold maxLen;omega) (by omega) (by simp;omega) (w2.heap.size+1) (by simp) ?_;intro g' cap' w8 dy bZ cH ld;have r8:=KB.o _ _ bZ;have d8:w8.cell? ⟨rb,4,I⟩=J (af va es.length vc):=(by simp[World.cell?,r8.1,gA]);have d9:w8.frozen? ⟨rb,4,I⟩=false:=(by simp[World.frozen?,r8.1]))
 all_goals
  have HA:aa (∀u,(w8.setCell ⟨rb,4,I⟩ u).heap[rb]?=J (au (gA c u last mv) 151 (0,0))):=λu=>by
   simp only[World.setCell,dr,r8.1];simp[gA]
  have Ru:aa (∀u,((w8.setCell _ u).alloc (.map #[] 0)).heap[rb]?=J _):=λu=>bG (aN _ _) (HA.o u)
  have e6:∀u,((w8.setCell ⟨rb,4,I⟩ u).alloc (.map #[] 0)).cell? ⟨rb,6,I⟩=J mv:=λu=>by simp[World.cell?,Ru.o u,gA]
  have f6:∀u,((w8.setCell ⟨rb,4,I⟩ u).alloc (.map #[] 0)).frozen? ⟨rb,6,I⟩=false:=λu=>by simp[World.frozen?,Ru.o u]
  have H8:aa _:=r8.2;have C_:aa _:=bZ;have yw:aa _:=dy;clear bZ dy r8 cH y0 y1 y2 y3 y4 y5 y6 y7 y8 y9 Kg c4;go_wp2;go_ret
  refine⟨rfl,?_,nm,z,w.heap.size,g',cap',w8.heap.size,HV.o,?_,?_⟩
  ·exact((H8.o.setCell (p:=⟨rb,4,_⟩) HR.o.lo _).alloc (by have:=H8.o.size;simp[World.setCell];omega) _).setCell (p:=⟨rb,6,_⟩) HR.o.lo _
  ·exact aeC (b_.o.below ((aC _ w2).drew.alloc (by simp) _)) HR.o HS.o.2.size (aW.o.trans (((aC _ w2).drew.alloc (by simp) _).mono aW.o.size)) C_.o yw.o rfl
  have h1:=C_.o.size;have h2:=aW.o.size;simp[World.setCell]at h1⊢
  omega
theorem aeG(w:ai)(q:ByteArray)(T:TypeId):∀(j:Nat) u,([aq q]:List ar)[j]?=J u->(w.alloc (au #[aq q] T)).cell? ((⟨w.heap.size,0,I⟩:az).add j)=J u:=by
 intro j u hu
 match j,hu with
 |0,hu=>
  simp at hu
  subst hu;rw[kP,dK _ _ _ _ rfl];rfl
 |j+1,hu=>simp at hu
theorem aeH(A:Nat->az)(w0 w:ai)(rb L g cap mb:Nat)(c:aS)(last:Int)(es:List aF)(e:aF)(x:cn)(cells:List ar)(sa:Option az)(ws:List ByteArray)(wb wo wc:Nat)(hs:dA A w0)(hb0:Below w0.heap.size w0 w)(h:dx w0.heap.size rb L g cap mb w c last es e x cells)(eG:L<=w.heap.size)(hW:jM w sa ws wb wo)(hn:e.ak.length<=1000000):Calls prog 237 #[.pointer (J ⟨rb,0,I⟩),.pointer (J ⟨g,es.length*10,I⟩),.slice sa ws.length wc] w λv w'=>v=.returned (cN A (aY (aV e.ak) false [0] (ws.map bl)).1)/\Below w0.heap.size w0 w'/\∃(q:ByteArray) (x':cn),((aY (aV e.ak) false [0] (ws.map bl)).1=0->∀s,ws[0]?=J s->q=s)/\dx w0.heap.size rb L g cap mb w' c last es { e with ak:=e.ak++[q] } x' cells/\L<=w'.heap.size:=by
 obtain⟨i0,hi,hz0,hz1,hz2⟩:=fj Ej;obtain⟨fa,fc,fx⟩:=cJ h.new.hp;obtain⟨o,ho⟩:∃o,o=es.length*10:=⟨_,rfl⟩;have HO:aa _:=ho;have HS:aa (dA A w0/\Below _ w0 w):=⟨hs,hb0⟩;have HR:aa _:=h;have HW:aa _:=hW;have gB:aa _:=fx;have HL:aa _:=eG;rw[<- ho];clear ho hs hb0 h hW fx eG;go_enter func237,ntmps237
 go_upto_region 2 with fail
 obtain⟨W1,hW1⟩:∃V,V=w.alloc (.cells #[.string ⟨#[]⟩] 9):=⟨_,rfl⟩;rw[<- hW1];have aO:aa (Below w.heap.size w W1):=by show Below _ _ _;rw[hW1];exact aN _ _
 have fP:aa (W1.heap.size=w.heap.size+1):=by show _=_;rw[hW1];simp
 have dp:aa (W1.cell? ⟨w.heap.size,0,I⟩=J (.string ⟨#[]⟩)/\W1.frozen? ⟨w.heap.size,0,I⟩=false):=by
  refine⟨by rw[hW1,dK _ _ _ _ rfl];rfl,?_⟩;rw[hW1,lz];exact uM w 0 0
 have lA:aa (ot w0 rb e.ak [0] [(w.heap.size,0)] ws wb wo W1.heap.size (W1.alloc (.cells #[.iface 310 (.pointer (J ⟨w.heap.size,0,I⟩))] 20))):=by
  have cK:=aN W1 (.cells #[.iface 310 (.pointer (J ⟨w.heap.size,0,I⟩))] 20);have hlt:=HW.o.lt;have hz:=fP.o;have jb:=bJ HR.o.row;have hsz:=HS.o.2.size
  refine⟨HS.o.2.trans ((aO.o.trans (cK.mono aO.o.size)).mono hsz),rfl,by simp,by simp,?_,?_,by simp,?_,λi s hi=>aG cK (aG aO.o (HW.o.pS i s hi)),HW.o.sz,λh2=>by simp at h2⟩
  ·intro i f t hf ht
   match i,hf,ht with
   |0,hf,ht=>
    simp at hf ht
    subst hf ht;exact⟨⟨_,aG cK dp.o.1,⟨_,rfl,by decide⟩⟩,by rw[o_ cK dp.o.1];exact dp.o.2⟩
   |i+1,hf,_=>simp at hf
  ·intro t ht;simp only[iF]at ht;subst ht;exact⟨by show w0.heap.size<=w.heap.size;exact hsz,λe2=>by have:=(rB e2).1;omega,by show w.heap.size≠_;omega,by show w.heap.size≠_;omega⟩
  intro i f t hf ht
  match i,hf,ht with
  |0,hf,ht=>
   simp at hf ht
   subst hf ht;rw[dK _ _ _ _ rfl];rfl
  |i+1,hf,_=>simp at hf
 clear hW1;go_wp2_with fail
 refine(sW A w0 _ rb _ [0] _ ws sa wb wo wc _ HS.o.1 lA.o HW.o.sa HW.o.few).mono ?_;rintro v w2 ⟨rfl,us,jx,gp,gq,eQ⟩;obtain⟨u,rfl⟩:∃u,us=[u]:=by
  match us,jx with
  |[u],_=>exact⟨u,rfl⟩
 obtain⟨q,rfl,hq⟩:=gp 0 0 u rfl rfl;have HV:aa ((aY (aV e.ak) false [0] (ws.map bl)).1=0->∀s,ws[0]?=J s->q=s):=λh0 s hs=>by
  have:=gq h0 0 0 s _ rfl hs rfl;unfold valOf at this;rw[aR rfl]at this;exact Value.string.inj this
 have aW:aa _:=Au (aO.o.trans ((aN _ _).mono aO.o.size)) (λt ht=>by simp only[iF]at ht;subst ht;exact aQ _) eQ;have cp:w2.cell? ⟨w.heap.size,0,I⟩=J (.string q):=by
  have h1:=yo (u:=.string q) (aG (aN W1 (.cells #[.iface 310 (.pointer (J ⟨w.heap.size,0,I⟩))] 20)) dp.o.1);have h2:=eQ.cell (p:=⟨w.heap.size,0,I⟩) (by show w.heap.size<_;have:=fP.o;simp;omega);exact h2.trans h1
 clear jx gp gq eQ lA dp;have b_:aa _:=HR.o.below aW.o;have iN:aa _:=bw HL.o aW.o.size;have c2:w2.cell? ⟨g,o+2,I⟩=J (.slice fa e.ak.length fc):=by rw[HO.o,<- gB.o];exact(b_.o.aZ (j:=2) rfl).1
 have c6:=b_.o.Ar.c6;obtain⟨D,hD,Rv⟩:=b_.o.map;have hkey:keyOf _ 9 _=J (o6 q):=EW underlying9 (by unfold maxLen;omega);obtain⟨w3,hrun,D5,hturn⟩:=World.ownsMap.store (w:=w2.drew) (hD:w2.drew.ownsMap _ _ _ _ _ _) sL underlying149 (by unfold maxLen;omega) hkey (plainElem_int underlying3 (a:=(e.ak.length:Int)) (by go_wf));have HM:aa (∃D:DataW _,w3.ownsMap _ 9 _ mb _ D/\uH D _):=⟨_,D5,ad4 Rv hD.isMap q⟩;have HT:aa _:=hturn.grown;have lu:aa (jK w0.heap.size rb L g cap mb w3 c last es e x cells):=by
  obtain⟨ms,cl,h1,h2⟩:=id hD;exact(b_.o.tojK.below (w':=w2.drew) (aC _ w2).drew).mapped HT.o h1
 clear D5 hturn hD Rv hkey;go_wp2_with fail
 have fG:aa _:=((HS.o.2.trans (aW.o.mono HS.o.2.size)).drew).grown HT.o (by have:=HS.o.2.size;have:=aW.o.size;show _<=w2.heap.size;omega) (λk hk=>by cases hk;exact lu.o.pO);have ajl:=HT.o.cell cp (λe2=>by
  obtain⟨D',⟨ms,cl,h1,-⟩,-⟩:=b_.o.map;simp only[eR]at e2;have h3:w2.heap[w.heap.size]?=J (.map ms cl):=by rw[e2];exact h1
  unfold World.cell? at cp;simp only[h3]at cp
  cases cp)
 have Rx:aa _:=bw iN.o HT.o.size;have lH:=Rx.o;have c8:w3.cell? ⟨g,o+2,I⟩=J (.slice fa e.ak.length fc):=by rw[HO.o,<- gB.o];exact(lu.o.aZ (j:=2) rfl).1
 have hown:w3.drew.ownsRow L 9 1 (.slice fa e.ak.length fc) e.ak.length (e.ak.flatMap bS):=by rw[<- gB.o];exact lu.o.new.hp
 have KB:aa (∀(ob:Obj) (w8:ai),(w3.drew.alloc ob).grownBy w8 (Value.slice fa e.ak.length fc).ownBlock->w8.cell? ⟨g,o+2,I⟩=J (.slice fa e.ak.length fc)/\w8.frozen? ⟨g,o+2,I⟩=false):=λob w8 hg=>by
  have Kh:=lu.o.below (w':=w3.drew.alloc ob) ((aC _ w3).drew.alloc (by simp) ob);obtain⟨cur,hc,-⟩:=Kh.grow;rw[<- gB.o]at hg⊢;rw[HO.o];have e1:=(hg.block g (bJ hc) (λe2=>dZ Kh.new.hp hc (by decide) e2.symm));have h2:=Kh.aZ (j:=2) (u:=x.p) rfl;exact⟨(qj e1).trans h2.1,by have:=h2.2;unfold World.frozen? at this⊢;simp only at this⊢;rw[e1];exact this⟩
 have BV:∀ob,(w3.alloc ob).cell? _=J _:=λob=>aG (aN _ _) c8
 go_region
 all_goals
  clear hrun c2 c6 cp;go_wp2_with fail
  go_region_law (refine ni _ rfl _ _ 22 rfl L 9 i0 _ 1 16 underlying22 hi hz0 hz1 hz2 rfl (by decide) _ _ _ (by simp[Act.eval]) (hown.alloc _) _ 1 1 _ (by simp[Act.eval]) rfl (aeG _ q 9) (NQ q) (by decide) (by unfold maxLen;omega) (by omega) (by simp;omega) (w3.heap.size+1) (by simp) ?_;intro g' cap' w8 dy bZ cH ld;have r8:=KB.o _ _ bZ;have d1:=r8.1;have d2:=r8.2)
 all_goals
  go_wp2;go_ret
  refine⟨rfl,?_,q,{ x with p:=.slice (J ⟨g',0,I⟩) (e.ak.length+1) cap' },HV.o,?_,?_⟩
  ·obtain⟨cur,-,hB⟩:=lu.o.grow;have b4:Below _ w0 (w3.drew.alloc (.cells #[.string q] 9)):=fG.o.trans (((aC _ w3).drew.alloc (by simp) _).mono fG.o.size);rw[<- gB.o]at bZ;exact(b4.grown bZ b4.size (λk hk=>bw lu.o.jL (lu.o.new.hp.lt k hk).1)).setCell (p:=⟨g,_,_⟩) hB _
  ·rw[HO.o];obtain⟨D',m1,m2⟩:=HM.o;exact(lu.o.below (w':=w3.drew.alloc _) ((aC _ w3).drew.alloc (by simp) _)).J9 q ⟨D',m1.drew.alloc _,m2⟩ (by rw[gB.o];exact bZ) dy
  have h1:=bZ.size;have h2:=Rx.o;simp[World.setCell]at h1⊢
  omega
theorem aeI(A:Nat->az)(w0 w:ai)(rb L g cap mb:Nat)(c:aS)(last:Int)(es:List aF)(e:aF)(x:cn)(cells:List ar)(sa:Option az)(ws:List ByteArray)(wb wo wc:Nat)(hs:dA A w0)(hb0:Below w0.heap.size w0 w)(h:dx w0.heap.size rb L g cap mb w c last es e x cells)(eG:L<=w.heap.size)(hW:jM w sa ws wb wo)(hn:e.ak.length<=1000000):Calls prog 177 #[aj (J ⟨rb,0,I⟩),aj (J ⟨g,es.length*10,I⟩),U R 4,af sa ws.length wc] w λv w'=>v=ax (cN A (aY (aV e.ak) false [0] (ws.map bl)).1)/\Below w0.heap.size w0 w'/\∃(q:ByteArray) (x':cn),((aY (aV e.ak) false [0] (ws.map bl)).1=0->∀s,ws[0]?=J s->q=s)/\dx w0.heap.size rb L g cap mb w' c last es { e with ak:=e.ak++[q] } x' cells/\L<=w'.heap.size:=by
 have hb1:Below _ w ((w.alloc (au #[U R 0] 307)).alloc (au #[U R 0] 307)):=(aN _ _).alloc (by simp) _;have HC:aa _:=aeH A w0 _ rb L g cap mb c _ es e x _ sa ws wb wo wc hs (hb0.trans (hb1.mono hb0.size)) (h.below hb1) (bw eG hb1.size) (hW.below hb1) hn;generalize es.length*10=o at HC⊢;clear hs hb0 h eG hW hn hb1;go_enter func177,ntmps177
 go_wp2_with fail
 refine aL HC.o ?_;rintro v w2 ⟨rfl,h1,h2⟩;have H1:aa _:=h1;have H2:aa _:=h2;clear h1 h2;go_wp2;go_ret;exact⟨rfl,H1.o,H2.o⟩
end Go.Proofs.YtgmfhkjghmdgiaaGreatDoor
