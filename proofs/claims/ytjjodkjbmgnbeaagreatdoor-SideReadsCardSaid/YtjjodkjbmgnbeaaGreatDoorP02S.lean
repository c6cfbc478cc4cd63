/-
  Several texts as one: LfC, LfD, LfE, LfF, LfG, LfH, LfI, LfJ, LfK, LfL, LfM, LfN, LxA, LfO, LfP, LfQ, LfR, LfS, LfT, LfU, LfV, LfW, LmC, LnA, LwA, LwB.
-/
import Derived.Test.YtjjodkjbmgnbeaaGreatDoorP01S
import Derived.Conc.Own
import Derived.Conc.CrowdSel
import Derived.Conc.WgGenN3
import Derived.Conc.MuWords
set_option linter.all false
set_option maxHeartbeats 40000000
set_option maxRecDepth 100000
abbrev dS.{u}:=@Array.getElem?_setIfInBounds_ne.{u}
abbrev dK:=@Nat.lt_of_lt_of_le
abbrev kG:=@Nat.eq_zero_or_pos
abbrev mL.{u}:=@Array.mem_append.{u}
abbrev rK.{u}:=@Array.size_push.{u}
abbrev rL:=@Nat.lt_irrefl
abbrev rM.{u,v}:=@Option.map_some.{u,v}
abbrev x_.{u}:=@List.contains_iff_mem.{u}
abbrev ya:=@Bool.false_ne_true
abbrev BV:=@Classical.byContradiction
abbrev og.{u}:=@beq_iff_eq.{u}
abbrev BW:=@Nat.lt_succ_iff_lt_or_eq
abbrev yc:=@Bool.eq_iff_iff
abbrev z_:=@Go.IntKind.wrap_u64
abbrev BX.{u,v,x}:=@Array.mapM_eq_mapM_toList.{u,v,x}
abbrev BZ.{u}:=@Array.ext_getElem?.{u}
abbrev Aa.{u,v}:=@Option.bind_some.{u,v}
abbrev Ej.{u,v}:=@Option.bind_eq_some_iff.{u,v}
open Go renaming Addr→av,Value→aj,World→ah
open Go.Addr renaming mk→ar
open Go.Ending renaming returned→aH
open Go.IntKind renaming i64→I
open Go.Obj renaming cells→ay
open Go.Value renaming bool→aJ,int→af,pointer→ax,slice→ak,string→aB,tuple→aX
open Go.World renaming cell?→aL,frozen?→bE,setCell→cZ
open Option renaming none→J,some→U
open Go.Proofs.Tryz
namespace Go.Proofs.YtjjodkjbmgnbeaaGreatDoor
variable{K:Bool->ah->Prop}{Wg b b' i n:Nat}{a a':av}{c oU ts xs ys:Array aj}{c' fr:Frame}{cs iw:List Frame}{e s t ty:TypeId}{es:Array Event}{es':Array MapEntry}{f:FuncId}{fn:Func}{h h' l l' m m':Option aj}{k k' x x' y y':aj}{o':Obj}{okL:List FuncId}{ops:Array Oper}{ps qs:Array (Nat×aj)}{w w':ah}
def jD(β:aK)(es es':Array MapEntry):Prop:=
 es.size=es'.size/\∀(i:Nat) (e e':MapEntry),es[i]?=U e->es'[i]?=U e'->RV β e.key e'.key/\RV β e.val e'.val/\e.born=e'.born
def jD.mono{β γ:aK}(h:β.le γ){es:Array MapEntry}(k:jD β es es'):jD γ es es':=
 ⟨k.1,λi e e' a b=>let ⟨x,y,z⟩:=k.2 i e e' a b;⟨x.mono h,y.mono h,z⟩⟩
def RO(β:aK):Obj->Obj->Prop
 |ay c e fz,o=>∃c',o=ay c' e fz/\RL β c c'
 |.map es k,o=>∃es',o=.map es' k/\jD β es es'
 |.stringIter s p,o=>o=.stringIter s p
 |.number a l,o=>∃a',o=.number a' l/\RA β a a'
 |.mapIter m since seen st,o=>∃m',o=.mapIter m' since seen st/\lz β m m'
 |_,_=>False
def RO.mono{β γ:aK}(h:β.le γ):∀{o o':Obj},RO β o o'->RO γ o o'
 |ay ..,_,⟨c',e,k⟩=>⟨c',e,RL.mono h k⟩
 |.map ..,_,⟨c',e,k⟩=>⟨c',e,k.mono h⟩
 |.stringIter ..,_,e=>e
 |.number ..,_,⟨c',e,k⟩=>⟨c',e,k.mono h⟩
 |.mapIter ..,_,⟨c',e,k⟩=>⟨c',e,k.mono h⟩
structure RW(β:aK)(v w:ah):Prop where
 own:∀b b',β.own b b'->∃o o',v.heap[b]?=U o/\w.heap[b']?=U o'/\RO β o o'
 ro:∀b b',β.ro b b'->∃c c' e fz,v.heap[b]?=U (ay c e fz)/\w.heap[b']?=U (ay c' e (0,0))/\RL β c c'/\∀i,i<c.size->fz.1<=i/\i<fz.2
 tok:∀b b',β.tok b b'->∃e c',v.heap[b]?=U (ay #[] e (0,0))/\w.heap[b']?=U (ay c' e (0,0))
 inj:∀a b c,β.any a c->β.any b c->a=b
 oP:∀a b c,β.any a b->β.any a c->b=c
 uQ:∀a b c,β.own a b->β.ro a c->False
 qG:∀a b c,β.own a b->β.tok a c->False
 nI:∀b b',β.any b b'->(b<β.g↔b'<β.g)
 gv:β.g<=v.heap.size
 gw:β.g<=w.heap.size
structure Fx(β β':aK)(w w1:ah):Prop where
 le:β.le β'
 new:∀b b',β'.own b b'->β.own b b'\/w.heap.size<=b'
 size:w.heap.size<=w1.heap.size
 frame:∀k,k<w.heap.size->(∀b,¬β.own b k)->w1.heap[k]?=w.heap[k]?
 os:w1.os=w.os
 output:w1.output=w.output
 tape:w1.tape=w.tape
def Fx.refl(β:aK)(w:ah):Fx β β w w:=⟨β.le_refl,λ_ _ h=>.inl h,aR _,λ_ _ _=>rfl,rfl,rfl,rfl⟩
def Fx.trans{α β γ:aK}{a b c:ah}(h:Fx α β a b)(k:Fx β γ b c):Fx α γ a c:=by
 refine⟨h.le.trans k.le,λx y z=>?_,bH h.size k.size,λi hi hn=>?_,k.os.trans h.os,k.output.trans h.output,k.tape.trans h.tape⟩
 ·rcases k.new x y z with z|z
  ·exact h.new x y z
  exact .inr (bH h.size z)
 rw[k.frame i (dK hi h.size) λx hx=>?_,h.frame i hi hn]
 rcases h.new x i hx with z|z
 ·exact hn x z
 omega
def Ht:Mark->Bool
 |.acquire _=>false
 |.release _=>false
 |.releaseMerge _=>false
 |.disable=>false
 |.enable=>false
 |.read _=>false
 |.write _=>false
 |_=>true
def oQ(β:aK)(e:Event):Prop:=
 (∃a wr b,e=⟨.cell a,wr,false⟩/\β.own b a.block)\/(∃a b,e=⟨.cell a,false,false⟩/\β.ro b a.block)\/(∃r wr b,e=⟨.obj r,wr,false⟩/\β.own b r) \/
  ∃m,Ht m=true/\e=⟨.mark m,false,true⟩
def oQ.mono{β γ:aK}(h:β.le γ){e:Event}(k:oQ β e):oQ γ e:=by
 rcases k with⟨a,wr,b,x,y⟩|⟨a,b,x,y⟩|⟨a,wr,b,x,y⟩|k
 ·exact .inl ⟨a,wr,b,x,h.own _ _ y⟩
 ·exact .inr (.inl ⟨a,b,x,h.ro▸y⟩)
 ·exact .inr (.inr (.inl ⟨a,wr,b,x,h.own _ _ y⟩))
 exact .inr (.inr (.inr k))
def ai(P:Program)(β:aK){α α':Type}(s:Sem α)(s':Sem α')(Q:aK->α->α'->Prop):Prop:=
 ∀v w,RW β v w->Mw P (λa v1=>∃a' w1 es β',(∀bW,s'.runT P w bW=(.ok a' w1,bW++es))/\RW β' v1 w1/\Fx β β' w w1/\(∀e∈es,oQ β' e)/\Q β' a a') s v
section
variable {P:Program}{β:aK}{α α' γ γ':Type}{Q:aK->α->α'->Prop}{S:aK->γ->γ'->Prop}
def ai.pure{a:α}{a':α'}(h:Q β a a'):ai P β (.pure a) (.pure a') Q:=
 λv w r=>⟨a',w,#[],β,λbW=>by simp[Sem.runT],r,.refl β w,by simp,h⟩
def ai.pure'{a:α}{a':α'}(h:Q β a a'):ai P β (Pure.pure a) (Pure.pure a') Q:=ai.pure h
def ai.halt{x:Halt}{s':Sem α'}(h:mJ x):ai P β (.halt x) s' Q:=λ_ _ _=>h
def ai.stuck{x:String}{s':Sem α'}:ai P β (Go.stuck x) s' Q:=λ_ _ _=>trivial
def ai.unsupported{x:Unsupported}{s':Sem α'}(h:mJ (.unsupported x):=by exact trivial):ai P β (Go.unsupported x) s' Q:=λ_ _ _=>h
def ai.bind{s:Sem α}{s':Sem α'}{f:α->Sem γ}{f':α'->Sem γ'}(h:ai P β s s' Q)(k:∀β' a a',β.le β'->Q β' a a'->ai P β' (f a) (f' a') S):ai P β (s.bind f) (s'.bind f') S:=by
 intro v w r
 refine Mw.bind f s v (Mw.mono ?_ _ _ (h v w r));rintro a v1 ⟨a',w1,es,β',x1,x2,x3,x4,x5⟩
 refine Mw.mono ?_ _ _ (k β' a a' x3.le x5 v1 w1 x2);rintro c v2 ⟨c',w2,Wa,β2,y1,y2,y3,y4,y5⟩
 refine⟨c',w2,es++Wa,β2,λbW=>?_,y2,x3.trans y3,λe he=>?_,y5⟩
 ·rw[Sem.runT_bind',x1 bW];simp only[y1,Array.append_assoc]
 rcases mL.1 he with z|z
 ·exact(x4 e z).mono y3.le
 exact y4 e z
def ai.bind'{s:Sem α}{s':Sem α'}{f:α->Sem γ}{f':α'->Sem γ'}(h:ai P β s s' Q)(k:∀β' a a',β.le β'->Q β' a a'->ai P β' (f a) (f' a') S):ai P β (s >>= f) (s' >>= f') S:=ai.bind h k
def ai.choose{q:Question}{k:Nat->Sem α}{k':Nat->Sem α'}(h:∀n,ai P β (k n) (k' n) Q):ai P β (.choose q k) (.choose q k') Q:=by
 intro v w r;simp only[Mw,Sem.runT]
 split
 ·exact h 0 v w r
 refine⟨w.tape w.drawn q,Mw.mono ?_ _ _ (h (q.cut (w.tape w.drawn q)) { v with drawn:=v.drawn+1 } { w with drawn:=w.drawn+1 } ⟨r.own,r.ro,r.tok,r.inj,r.oP,r.uQ,r.qG,r.nI,r.gv,r.gw⟩)⟩;rintro a v1 ⟨a',w1,es,β',x1,x2,x3,x4,x5⟩;exact⟨a',w1,es,β',x1,x2,⟨x3.le,x3.new,x3.size,x3.frame,x3.os,x3.output,x3.tape⟩,x4,x5⟩
def ai.Wb{q:Question}{k:Nat->Sem α}{s':Sem α'}(n:Nat)(hf:q.forced=false)(hn:∃t,q.cut t=n)(h:ai P β (k n) s' Q):ai P β (.choose q k) s' Q:=by
 obtain⟨t,rfl⟩:=hn;intro v w r;simp only[Mw,hf];exact⟨t,h { v with drawn:=v.drawn+1 } w ⟨r.own,r.ro,r.tok,r.inj,r.oP,r.uQ,r.qG,r.nI,r.gv,r.gw⟩⟩
def ai.program{k:Program->Sem α}{k':Program->Sem α'}(h:ai P β (k P) (k' P) Q):ai P β (.program k) (.program k') Q:=λv w r=>h v w r
def ai.prog{k:Program->Sem α}{k':Program->Sem α'}(h:ai P β (k P) (k' P) Q):ai P β (Go.program >>= k) (Go.program >>= k') Q:=λv w r=>h v w r
def ai.mark{m:Mark}{k:Sem α}{k':Sem α'}(hm:Ht m=true)(h:ai P β k k' Q):ai P β (.mark m k) (.mark m k') Q:=by
 intro v w r
 refine Mw.mono ?_ _ _ (h v w r);rintro a v1 ⟨a',w1,es,β',x1,x2,x3,x4,x5⟩
 refine⟨a',w1,#[⟨.mark m,false,true⟩]++es,β',λbW=>?_,x2,x3,λe he=>?_,x5⟩
 ·simp only[Sem.runT,x1];simp
 rcases mL.1 he with z|z
 ·have z:e=⟨.mark m,false,true⟩:=by simpa using z
  subst z;exact .inr (.inr (.inr ⟨m,hm,rfl⟩))
 exact x4 e z
def RW.lt{v:ah}(r:RW β v w)(h:β.any b b'):b<v.heap.size/\b'<w.heap.size:=by
 have key:∀{x:ah} {k:Nat} {o:Obj},x.heap[k]?=U o->k<x.heap.size:=λ{x k o} h=>(bD.1 h).1
 rcases h with h|h|h
 ·obtain⟨_,_,x,y,_⟩:=r.own _ _ h;exact⟨key x,key y⟩
 ·obtain⟨_,_,_,_,x,y,_⟩:=r.ro _ _ h;exact⟨key x,key y⟩
 obtain⟨_,_,x,y⟩:=r.tok _ _ h;exact⟨key x,key y⟩
def RW.MO{v:ah}(r:RW β v w)(h:RA β a a'):wH v a:=by
 unfold wH
 constructor
 ·intro x t e
  rcases h.blk with h|h|h
  ·obtain⟨o,o',x1,y,z⟩:=r.own _ _ h;rw[e]at x1;cases x1;exact z
  ·obtain⟨_,_,_,_,x1,_⟩:=r.ro _ _ h;rw[e]at x1;cases x1
  obtain⟨_,_,x1,_⟩:=r.tok _ _ h;rw[e]at x1;cases x1
 intro x t e
 rcases h.blk with h|h|h
 ·obtain⟨o,o',x1,y,z⟩:=r.own _ _ h;rw[e]at x1;cases x1;exact z
 ·obtain⟨_,_,_,_,x1,_⟩:=r.ro _ _ h;rw[e]at x1;cases x1
 obtain⟨_,_,x1,_⟩:=r.tok _ _ h;rw[e]at x1;cases x1
def cell_of{v:ah}{fz:Nat×Nat}(h:v.heap[a.block]?=U (ay c e fz)):v.cell? a=if a.spot.isSome then J else c[a.off]?:=by simp[aL,h]
def RW.cell{v:ah}(r:RW β v w)(h:RA β a a')(hx:v.cell? a=U x):∃y,w.cell? a'=U y/\RV β x y/\(β.own a.block a'.block\/β.ro a.block a'.block):=by
 have key:∀{c c':Array aj} {e e':TypeId} {f f':Nat×Nat},v.heap[a.block]?=U (ay c e f)->w.heap[a'.block]?=U (ay c' e' f')->RL β c c'->∃y,w.cell? a'=U y/\RV β x y:=by
  intro c c' e e' f f' h1 h2 hl;rw[cell_of h1]at hx;rw[cell_of h2,<- h.spot,<- h.off]
  split at hx
  ·cases hx
  rename_i hs;rw[aF hs]
  rcases hl.get a.off with⟨z,_⟩|⟨p,q,z1,z2,z3⟩
  ·rw[hx]at z;cases z
  rw[hx]at z1;cases z1;exact⟨q,z2,z3⟩
 rcases h.blk with k|k|k
 ·obtain⟨o,o',x1,y1,z⟩:=r.own _ _ k
  cases o with
  |cells c e f=>
   obtain⟨c',rfl,hl⟩:=z;obtain⟨y,p,q⟩:=key x1 y1 hl;exact⟨y,p,q,.inl k⟩
  |_=>simp[aL,x1]at hx
 ·obtain⟨c,c',e,fz,x1,y1,hl,_⟩:=r.ro _ _ k;obtain⟨y,p,q⟩:=key x1 y1 hl;exact⟨y,p,q,.inr k⟩
 obtain⟨e,c',x1,y1⟩:=r.tok _ _ k;rw[cell_of x1]at hx;simp at hx
def ai.load{k:aj->Sem α}{k':aj->Sem α'}(h:RA β a a')(hk:∀x y,RV β x y->ai P β (k x) (k' y) Q):ai P β (.load .plain a k) (.load .plain a' k') Q:=by
 intro v w r
 refine⟨r.MO h,λx hx=>?_⟩;obtain⟨y,hy,hr,ho⟩:=r.cell h hx
 refine Mw.mono ?_ _ _ (hk x y hr v w r);rintro b v1 ⟨b',w1,es,β',x1,x2,x3,x4,x5⟩
 refine⟨b',w1,#[⟨.cell a',false,false⟩]++es,β',λbW=>?_,x2,x3,λe he=>?_,x5⟩
 ·simp only[Sem.runT,hy];rw[show (Mode.plain==Mode.atomic)=false from rfl,x1];simp
 rcases mL.1 he with z|z
 ·have z:e=⟨.cell a',false,false⟩:=by simpa using z
  subst z
  rcases ho with ho|ho
  ·exact .inl ⟨a',false,_,rfl,x3.le.own _ _ ho⟩
  exact .inr (.inl ⟨a',_,rfl,x3.le.ro▸ho⟩)
 exact x4 e z
def RW.upd{v:ah}(r:RW β v w)(h:β.own b b'){o:Obj}(ho:RO β o o'):RW β { v with heap:=v.heap.setIfInBounds b o } { w with heap:=w.heap.setIfInBounds b' o' }:=by
 obtain⟨l1,l2⟩:=r.lt (.inl h);have ne:∀c c',β.any c c'->c≠b->c'≠b':=λc c' hc hn e=>hn (r.inj c b c' hc (e▸.inl h))
 have g1:∀c,c≠b->(v.heap.setIfInBounds b o)[c]?=v.heap[c]?:=λc hc=>dS (ey hc)
 have g2:∀c,c≠b'->(w.heap.setIfInBounds b' o')[c]?=w.heap[c]?:=λc hc=>dS (ey hc)
 refine⟨λc c' hc=>?_,λc c' hc=>?_,λc c' hc=>?_,r.inj,r.oP,r.uQ,r.qG,r.nI,by simpa using r.gv,by simpa using r.gw⟩
 ·by_cases e:c=b
  ·subst e;obtain rfl:=r.oP _ _ _ (.inl hc) (.inl h);exact⟨o,o',by simp[l1],by simp[l2],ho⟩
  simp only[g1 c e,g2 c' (ne c c' (.inl hc) e)];exact r.own c c' hc
 ·have e:c≠b:=λe=>r.uQ b b' c' h (e▸hc)
  simp only[g1 c e,g2 c' (ne c c' (.inr (.inl hc)) e)];exact r.ro c c' hc
 have e:c≠b:=λe=>r.qG b b' c' h (e▸hc)
 simp only[g1 c e,g2 c' (ne c c' (.inr (.inr hc)) e)];exact r.tok c c' hc
def Hu(h:β.own b b')(o':Obj):Fx β β w { w with heap:=w.heap.setIfInBounds b' o' }:=
 ⟨β.le_refl,λ_ _ x=>.inl x,by simp,λk _ hn=>dS (show b'≠k from λe=>hn b (by rw[<- e];exact h)),rfl,rfl,rfl⟩
def MP{α:Type}(a:Array α)(j:Nat)(f:α->α)(x:α)(h:a[j]?=U x):a.modify j f=a.setIfInBounds j (f x):=by
 apply BZ
 intro k;rw[fR,Array.getElem?_setIfInBounds]
 by_cases e:j=k
 ·subst e;obtain⟨h1,h2⟩:=bD.1 h;simp[h1,h2]
 simp[e]
def setCell_eq{v:ah}{fz:Nat×Nat}(h:v.heap[a.block]?=U (ay c e fz))(hs:a.spot=J)(x:aj):v.setCell a x={ v with heap:=v.heap.setIfInBounds a.block (ay (c.setIfInBounds a.off x) e fz) }:=by
 unfold cZ;rw[MP _ _ _ _ h];simp[hs]
def ai.store{k:Sem α}{k':Sem α'}(h:RA β a a')(hx:RV β x y)(hk:ai P β k k' Q):ai P β (.store .plain a x k) (.store .plain a' y k') Q:=by
 intro v w r
 refine⟨r.MO h,λv1 bK=>?_⟩;have hn:(∀cs,x≠.agg cs)/\(∀cs,x≠aX cs):=⟨(by rintro cs rfl;cases bK),(by rintro cs rfl;cases bK)⟩;have sX:(∀cs,y≠.agg cs)/\(∀cs,y≠aX cs):=by
  cases x<;>first|exact absurd rfl (hn.1 _)|exact absurd rfl (hn.2 _)|skip
  ·obtain rfl:=fM.1 hx;exact⟨λ_ h=>(by cases h),λ_ h=>(by cases h)⟩
  ·obtain rfl:=cO.1 hx;exact⟨λ_ h=>(by cases h),λ_ h=>(by cases h)⟩
  ·exact(tj.1 hx).elim
  ·exact(tq.1 hx).elim
  ·obtain rfl:=jg.1 hx;exact⟨λ_ h=>(by cases h),λ_ h=>(by cases h)⟩
  ·obtain⟨_,rfl,_⟩:=gW.1 hx;exact⟨λ_ h=>(by cases h),λ_ h=>(by cases h)⟩
  ·obtain⟨_,rfl,_⟩:=gX.1 hx;exact⟨λ_ h=>(by cases h),λ_ h=>(by cases h)⟩
  ·obtain⟨_,rfl,_⟩:=oc.1 hx;exact⟨λ_ h=>(by cases h),λ_ h=>(by cases h)⟩
  ·obtain⟨_,rfl⟩:=rH.1 hx;exact⟨λ_ h=>(by cases h),λ_ h=>(by cases h)⟩
  ·obtain⟨_,_,_,rfl,_⟩:=pR.1 hx;exact⟨λ_ h=>(by cases h),λ_ h=>(by cases h)⟩
  ·obtain rfl:=pQ.1 hx;exact⟨λ_ h=>(by cases h),λ_ h=>(by cases h)⟩
  ·obtain⟨_,rfl,_⟩:=jh.1 hx;exact⟨λ_ h=>(by cases h),λ_ h=>(by cases h)⟩
  obtain rfl:=lA.1 hx;exact⟨λ_ h=>(by cases h),λ_ h=>(by cases h)⟩
 have e1:rI v a x=(match v.cell? a with
  |some _=>if v.frozen? a then J else U (v.setCell a x)
  |none=>J):=by cases x<;>first|rfl|exact absurd rfl (hn.1 _)|exact absurd rfl (hn.2 _)
 have e2:∀bW,(Sem.store .plain a' y k').runT P w bW=(match w.cell? a' with
  |some _=>if w.frozen? a' then (.halt (.unsupported (.unsafePointer "a write to bytes that a string shares")) w, bW)else k'.runT P (w.setCell a' y) (bW.push ⟨.cell a', true, false⟩)
  |none=>match w.farStore P a' y (Mode.plain==.atomic)with
   |.ok (w,Wd)=>k'.runT P w (bW++Wd.toArray.map (⟨.cell ·,true,Mode.plain==.atomic⟩))
   |.error h=>(.halt h w,bW)):=by intro bW;cases y<;>first|rfl|exact absurd rfl (sX.1 _)|exact absurd rfl (sX.2 _)
 rw[e1]at bK
 cases hc:v.cell? a with
 |none=>rw[hc]at bK;cases bK
 |some u=>
  rw[hc]at bK;simp only at bK
  split at bK
  ·cases bK
  rename_i hf;obtain rfl:=b_ bK;obtain⟨u',Wh,_,ho⟩:=r.cell h hc;have ho:β.own a.block a'.block:=by
   rcases ho with ho|ho
   ·exact ho
   exfalso
   obtain⟨c,c',e,fz,x1,y1,_,hz⟩:=r.ro _ _ ho;rw[cell_of x1]at hc
   split at hc
   ·cases hc
   obtain⟨q1,q2⟩:=hz a.off (bD.1 hc).1;exact hf (by simp[bE,x1,q1,q2])
  obtain⟨o,o',x1,y1,z⟩:=r.own _ _ ho
  cases o with
  |cells c e f=>
   obtain⟨c',rfl,hl⟩:=z;have hs:a.spot=J:=by
    rw[cell_of x1]at hc
    cases hs:a.spot with
    |none=>rfl
    |some _=>simp[hs]at hc
   have hf':¬w.frozen? a'=true:=by
    simp only[bE,x1,y1]at hf⊢;rw[<- h.off];exact hf
   have hs':a'.spot=J:=h.spot▸hs;have r2:=r.upd ho (o:=ay (c.setIfInBounds a.off x) e f) (o':=ay (c'.setIfInBounds a'.off y) e f) ⟨_,rfl,h.off▸bh.set hl _ hx⟩;rw[<- setCell_eq x1 hs,<- setCell_eq y1 hs']at r2
   refine Mw.mono ?_ _ _ (hk _ _ r2);rintro b v2 ⟨b',w2,es,β',Wi,x2,x3,x4,x5⟩
   refine⟨b',w2,#[⟨.cell a',true,false⟩]++es,β',λbW=>?_,x2,?_,λe he=>?_,x5⟩
   ·rw[e2,Wh];simp only;rw[aF hf',Wi];simp
   ·have f1:=Hu (w:=w) ho (ay (c'.setIfInBounds a'.off y) e f);rw[<- setCell_eq y1 hs']at f1;exact f1.trans x3
   rcases mL.1 he with z|z
   ·have z:e=⟨.cell a',true,false⟩:=by simpa using z
    subst z;exact .inl ⟨a',true,_,rfl,x3.le.own _ _ ho⟩
   exact x4 e z
  |_=>simp[aL,x1]at hc
end
section
variable {P:Program}{β:aK}{α α' γ γ':Type}{Q:aK->α->α'->Prop}{S:aK->γ->γ'->Prop}
def aK.put(β:aK)(b b':Nat):aK:={ β with own:=λx y=>β.own x y\/(x=b/\y=b') }
def aK.Hv(β:aK)(b b':Nat):β.le (β.put b b'):=⟨λ_ _ h=>.inl h,rfl,rfl,rfl,rfl⟩
def RW.push{v:ah}(r:RW β v w){o:Obj}(ho:RO β o o'):RW (β.put v.heap.size w.heap.size) { v with heap:=v.heap.push o } { w with heap:=w.heap.push o' }:=by
 have hle:=β.Hv v.heap.size w.heap.size;have g1:∀c,c<v.heap.size->(v.heap.push o)[c]?=v.heap[c]?:=λc hc=>by rw[wa,aF (by omega)]
 have g2:∀c,c<w.heap.size->(w.heap.push o')[c]?=w.heap[c]?:=λc hc=>by rw[wa,aF (by omega)]
 have any:∀{c c'},(β.put v.heap.size w.heap.size).any c c'->β.any c c'\/(c=v.heap.size/\c'=w.heap.size):=by
  rintro c c' ((h|h)|h|h)
  ·exact .inl (.inl h)
  ·exact .inr h
  ·exact .inl (.inr (.inl h))
  exact .inl (.inr (.inr h))
 refine⟨λc c' hc=>?_,λc c' hc=>?_,λc c' hc=>?_,λa b c h1 h2=>?_,λa b c h1 h2=>?_,λa b c h1 h2=>?_,λa b c h1 h2=>?_,λb b' h=>?_,by have:=r.gv;simp only[rK];exact Nat.le_succ_of_le this,by have:=r.gw;simp only[rK];exact Nat.le_succ_of_le this⟩
 ·rcases hc with hc|⟨rfl,rfl⟩
  ·obtain⟨l1,l2⟩:=r.lt (.inl hc);obtain⟨p,q,x,y,z⟩:=r.own c c' hc;exact⟨p,q,by simp only[g1 c l1,x],by simp only[g2 c' l2,y],z.mono hle⟩
  exact⟨o,o',by simp,by simp,ho.mono hle⟩
 ·obtain⟨l1,l2⟩:=r.lt (.inr (.inl hc));obtain⟨p,q,e,fz,x,y,z,u⟩:=r.ro c c' hc;exact⟨p,q,e,fz,by simp only[g1 c l1,x],by simp only[g2 c' l2,y],RL.mono hle z,u⟩
 ·obtain⟨l1,l2⟩:=r.lt (.inr (.inr hc));obtain⟨p,q,x,y⟩:=r.tok c c' hc;exact⟨p,q,by simp only[g1 c l1,x],by simp only[g2 c' l2,y]⟩
 ·rcases any h1 with h1|⟨rfl,h1⟩<;>rcases any h2 with h2|⟨rfl,h2⟩
  ·exact r.inj a b c h1 h2
  ·have:=(r.lt h1).2;omega
  ·have:=(r.lt h2).2;omega
  rfl
 ·rcases any h1 with h1|⟨h1,rfl⟩<;>rcases any h2 with h2|⟨h2,rfl⟩
  ·exact r.oP a b c h1 h2
  ·have:=(r.lt h1).1;omega
  ·have:=(r.lt h2).1;omega
  rfl
 ·rcases h1 with h1|⟨rfl,_⟩
  ·exact r.uQ a b c h1 h2
  have:=(r.lt (.inr (.inl h2))).1;omega
 ·rcases h1 with h1|⟨rfl,_⟩
  ·exact r.qG a b c h1 h2
  have:=(r.lt (.inr (.inr h2))).1;omega
 rcases any h with h|⟨rfl,rfl⟩
 ·exact r.nI b b' h
 have h1:=r.gv;have h2:=r.gw;show (v.heap.size<β.g↔w.heap.size<β.g)
 omega
def Wj(w:ah)(b:Nat)(o':Obj):Fx β (β.put b w.heap.size) w { w with heap:=w.heap.push o' }:=
 ⟨β.Hv _ _,λx y h=>h.imp id (λh=>by rw[h.2];exact aR _),by simp,λk hk _=>by simp only[wa];rw[aF (by omega)],rfl,rfl,rfl⟩
def ai.new{o:Obj}{k:Nat->Sem α}{k':Nat->Sem α'}(ho:RO β o o')(hk:∀β' b b',β.le β'->β'.own b b'->ai P β' (k b) (k' b') Q):ai P β (.new o k) (.new o' k') Q:=by
 intro v w r;have:=hk (β.put v.heap.size w.heap.size) v.heap.size w.heap.size (β.Hv _ _) (.inr ⟨rfl,rfl⟩) _ _ (r.push ho)
 refine Mw.mono ?_ _ _ this;rintro a v1 ⟨a',w1,es,β',x1,x2,x3,x4,x5⟩;exact⟨a',w1,es,β',λbW=>by simp only[Sem.runT,x1],x2,(Wj w _ o').trans x3,x4,x5⟩
def ai.newObj{o:Obj}(ho:RO β o o'):ai P β (Go.newObj o) (Go.newObj o') (λβ' b b'=>β'.own b b'):=
 ai.new ho λ_ _ _ _ h=>ai.pure h
def B0(s s':Option (TypeId×Nat)):Prop:=s=s'\/∃e n,s=U (e,0)/\s'=U (e,n)
def RW.shape{v:ah}(r:RW β v w)(h:β.any b b'):B0 (v.shape? b) (w.shape? b')/\((¬β.tok b b')->v.shape? b=w.shape? b'):=by
 rcases h with h|h|h
 ·obtain⟨o,o',x,y,z⟩:=r.own _ _ h;have e:v.shape? b=w.shape? b':=by
   cases o with
   |cells c e f=>obtain⟨c',rfl,hl⟩:=z;simp[World.shape?,x,y,hl.1]
   |map=>obtain⟨_,rfl,_⟩:=z;simp[World.shape?,x,y]
   |stringIter=>obtain rfl:=z;simp[World.shape?,x,y]
   |mapIter=>obtain⟨_,rfl,_⟩:=z;simp[World.shape?,x,y]
   |number=>obtain⟨_,rfl,_⟩:=z;simp[World.shape?,x,y]
   |_=>exact z.elim
  exact⟨.inl e,λ_=>e⟩
 ·obtain⟨c,c',e,fz,x,y,hl,_⟩:=r.ro _ _ h;have e:v.shape? b=w.shape? b':=by simp[World.shape?,x,y,hl.1]
  exact⟨.inl e,λ_=>e⟩
 obtain⟨e,c',x,y⟩:=r.tok _ _ h;exact⟨.inr ⟨e,c'.size,by simp[World.shape?,x],by simp[World.shape?,y]⟩,λn=>absurd h n⟩
def ai.shape{k:Option (TypeId×Nat)->Sem α}{k':Option (TypeId×Nat)->Sem α'}(h:β.any b b')(hk:∀s s',B0 s s'->(¬β.tok b b'->s=s')->ai P β (k s) (k' s') Q):ai P β (.shape b k) (.shape b' k') Q:=
 λv w r=>hk _ _ (r.shape h).1 (r.shape h).2 v w r
def RW.obj{v:ah}(r:RW β v w)(h:β.any b b'){o:Obj}(ho:uP v b=U o):β.own b b'/\∃o',w.heap[b']?=U o'/\RO β o o'/\(∀c e f,o'≠ay c e f)/\o'.isChan=false:=by
 unfold uP at ho
 rcases h with h|h|h
 ·obtain⟨p,p',x,y,z⟩:=r.own _ _ h;rw[x]at ho
  refine⟨h,p',y,?_⟩
  cases p with
  |cells=>cases ho
  |map=>cases ho;refine⟨z,?_⟩;obtain⟨_,rfl,_⟩:=z;exact⟨λ_ _ _ h=>(by cases h),rfl⟩
  |stringIter=>cases ho;refine⟨z,?_⟩;obtain rfl:=z;exact⟨λ_ _ _ h=>(by cases h),rfl⟩
  |mapIter=>cases ho;refine⟨z,?_⟩;obtain⟨_,rfl,_⟩:=z;exact⟨λ_ _ _ h=>(by cases h),rfl⟩
  |number=>cases ho;refine⟨z,?_⟩;obtain⟨_,rfl,_⟩:=z;exact⟨λ_ _ _ h=>(by cases h),rfl⟩
  |_=>exact z.elim
 ·obtain⟨c,c',e,fz,x,_⟩:=r.ro _ _ h;rw[x]at ho;cases ho
 obtain⟨e,c',x,_⟩:=r.tok _ _ h;rw[x]at ho;cases ho
def ai.getObj{k:Obj->Sem α}{k':Obj->Sem α'}(h:β.any b b')(hk:∀o o',RO β o o'->β.own b b'->ai P β (k o) (k' o') Q):ai P β (.getObj b k) (.getObj b' k') Q:=by
 intro v w r o ho;obtain⟨hw,o',y,z,nc,ch⟩:=r.obj h ho
 refine Mw.mono ?_ _ _ (hk o o' z hw v w r);rintro a v1 ⟨a',w1,es,β',x1,x2,x3,x4,x5⟩
 refine⟨a',w1,#[⟨.obj b',false,false⟩]++es,β',λbW=>?_,x2,x3,λe he=>?_,x5⟩
 ·simp only[Sem.runT,y]
  cases o' with
  |cells=>exact absurd rfl (nc _ _ _)
  |_=>simp only[ch,x1];simp
 rcases mL.1 he with q|q
 ·have q:e=⟨.obj b',false,false⟩:=by simpa using q
  subst q;exact .inr (.inr (.inl ⟨b',false,_,rfl,x3.le.own _ _ hw⟩))
 exact x4 e q
def ai.setObj{o:Obj}{k:Sem α}{k':Sem α'}(h:β.any b b')(ho:RO β o o')(hc:o'.isChan=false)(hk:ai P β k k' Q):ai P β (.setObj b o k) (.setObj b' o' k') Q:=by
 intro v w r v1 bK;have:∃p,uP v b=U p/\v1={ v with heap:=v.heap.setIfInBounds b o }:=by
  unfold rJ at bK;unfold uP
  cases e:v.heap[b]? with
  |none=>rw[e]at bK;cases bK
  |some p=>rw[e]at bK;cases p<;>first|cases bK;exact⟨_,rfl,rfl⟩|cases bK
 obtain⟨p,hp,rfl⟩:=this;obtain⟨hw,p',y,z,nc,_⟩:=r.obj h hp
 refine Mw.mono ?_ _ _ (hk _ _ (r.upd hw ho));rintro a v1 ⟨a',w1,es,β',x1,x2,x3,x4,x5⟩
 refine⟨a',w1,#[⟨.obj b',true,false⟩]++es,β',λbW=>?_,x2,(Hu hw o').trans x3,λe he=>?_,x5⟩
 ·simp only[Sem.runT,y]
  cases p' with
  |cells=>exact absurd rfl (nc _ _ _)
  |_=>simp only[hc,x1];simp
 rcases mL.1 he with q|q
 ·have q:e=⟨.obj b',true,false⟩:=by simpa using q
  subst q;exact .inr (.inr (.inl ⟨b',true,_,rfl,x3.le.own _ _ hw⟩))
 exact x4 e q
def B1(β:aK)(a a':av)(x y:Bool):Prop:=(y=true->x=true)/\(β.own a.block a'.block->x=y)/\(β.ro a.block a'.block->y=false)/\(β.tok a.block a'.block->x=false/\y=false)
def RW.fz{v:ah}(r:RW β v w)(h:RA β a a'):B1 β a a' (v.frozen? a) (w.frozen? a'):=by
 have ko:β.own a.block a'.block->v.frozen? a=w.frozen? a':=by
  intro k;obtain⟨o,o',x,y,z⟩:=r.own _ _ k
  cases o with
  |cells c e f=>obtain⟨c',rfl,_⟩:=z;simp[bE,x,y,h.off]
  |map=>obtain⟨_,rfl,_⟩:=z;simp[bE,x,y]
  |stringIter=>obtain rfl:=z;simp[bE,x,y]
  |mapIter=>obtain⟨_,rfl,_⟩:=z;simp[bE,x,y]
  |number=>obtain⟨_,rfl,_⟩:=z;simp[bE,x,y]
  |_=>exact z.elim
 have kr:β.ro a.block a'.block->w.frozen? a'=false:=by
  intro k;obtain⟨c,c',e,fz,x,y,_⟩:=r.ro _ _ k;simp[bE,y]
 have kt:β.tok a.block a'.block->v.frozen? a=false/\w.frozen? a'=false:=by
  intro k;obtain⟨e,c',x,y⟩:=r.tok _ _ k;simp[bE,x,y]
 refine⟨λhy=>?_,ko,kr,kt⟩
 rcases h.blk with k|k|k
 ·rw[ko k];exact hy
 ·rw[kr k]at hy;cases hy
 rw[(kt k).2]at hy;cases hy
def ai.frozen{k:Bool->Sem α}{k':Bool->Sem α'}(h:RA β a a')(hk:∀x y,B1 β a a' x y->ai P β (k x) (k' y) Q):ai P β (.frozen a k) (.frozen a' k') Q:=
 λv w r=>hk _ _ (r.fz h) v w r
def Hw(off n:Nat):Obj->Obj
 |ay c e (lo,hi)=>ay c e (if lo==hi then (off,off+n)else (min lo off,max hi (off+n)))
 |o=>o
def Wk{off:Nat}{o:Obj}(h:RO β o o'):RO β (Hw off n o) (Hw off n o'):=by
 cases o with
 |cells c e f=>obtain⟨c',rfl,hl⟩:=h;exact⟨c',rfl,hl⟩
 |map=>obtain⟨x,rfl,hl⟩:=h;exact⟨x,rfl,hl⟩
 |stringIter=>obtain rfl:=h;exact rfl
 |mapIter=>obtain⟨x,rfl,hl⟩:=h;exact⟨x,rfl,hl⟩
 |number=>obtain⟨x,rfl,hl⟩:=h;exact⟨x,rfl,hl⟩
 |_=>exact h.elim
def MQ{v:ah}{o:Obj}(hn:n≠0)(h:v.heap[a.block]?=U o):v.freeze a n={ v with heap:=v.heap.setIfInBounds a.block (Hw a.off n o) }:=by
 unfold World.freeze;rw[aF hn,MP _ _ _ _ h]
 cases o<;>rfl
def ai.freeze{k:Sem α}{k':Sem α'}(h:β.own a.block a'.block)(ho:a.off=a'.off)(hk:ai P β k k' Q):ai P β (.freeze a n k) (.freeze a' n k') Q:=by
 intro v w r
 by_cases hn:n=0
 ·have:=hk v w r;simpa only [Mw,Sem.runT,World.freeze,aU hn]using this
 obtain⟨o,o',x,y,z⟩:=r.own _ _ h;have e1:=MQ hn x;have e2:=MQ hn y;have:=hk _ _ (r.upd h (Wk (off:=a.off) (n:=n) z));simp only[Mw,Sem.runT,e1,e2,<- ho]
 refine Mw.mono ?_ _ _ this;rintro a v1 ⟨a',w1,es,β',x1,x2,x3,x4,x5⟩;exact⟨a',w1,es,β',x1,x2,(Hu h _).trans x3,x4,x5⟩
def aQ(P:Program)(s:Sem α):Prop:=∀K v,Mw P K s v
def ai.hlt{s:Sem α}{s':Sem α'}(h:aQ P s):ai P β s s' Q:=λv _ _=>h _ v
def aQ.halt(x:Halt)(h:mJ x:=by exact trivial):aQ P (.halt x:Sem α):=λ_ _=>h
def aQ.bind{s:Sem γ}{f:γ->Sem α}(h:aQ P s):aQ P (s >>= f):=λ_ v=>Mw.bind f s v (h _ v)
def aQ.prog{f:Program->Sem α}(h:aQ P (f P)):aQ P (Go.program >>= f):=λK v=>h K v
def aQ.choose{q:Question}{f:Nat->Sem α}(h:∀n,aQ P (f n)):aQ P (Go.choose q >>= f):=by
 intro K v;show Mw P K (.choose q λn=>f n) v
 simp only[Mw]
 split
 ·exact h 0 K v
 exact⟨0,h _ K _⟩
def pS(t:TypeId):ai P β (typeInfo t) (typeInfo t) (λ_ i i'=>i=i'/\P.info? t=U i):=by
 unfold typeInfo
 refine ai.prog ?_
 cases h:P.info? t with
 |none=>exact ai.stuck
 |some i=>exact ai.pure' ⟨rfl,rfl⟩
def fU(t:TypeId):ai P β (underlying t) (underlying t) (λ_ i i'=>i=i'/\P.underlying t=U i):=by
 unfold underlying
 refine ai.prog ?_
 cases h:P.underlying t with
 |none=>exact ai.stuck
 |some i=>exact ai.pure' ⟨rfl,rfl⟩
def lS(t:TypeId):ai P β (sizeOf t) (sizeOf t) (λ_ i i'=>i=i'):=by
 unfold sizeOf
 refine ai.bind' (pS t) λ_ i _ _ ⟨e,_⟩=>?_
 subst e;exact ai.pure' rfl
def MR(t:TypeId):ai P β (isAgg t) (isAgg t) (λ_ i i'=>i=i'):=by
 unfold isAgg
 refine ai.bind' (fU t) λ_ i _ _ ⟨e,_⟩=>?_
 subst e
 cases i<;>exact ai.pure' rfl
def tu(P:Program)(t:TypeId):Bool:=match P.info? t with
 |some i=>match i.zero with
  |some z=>Value.plain z
  |none=>true
 |none=>true
def ye(h:tu P t=true):ai P β (zeroValue t) (zeroValue t) RV:=by
 unfold zeroValue
 refine ai.bind' (pS t) λβ' i _ _ ⟨e,hi⟩=>?_
 subst e;unfold tu at h;rw[hi]at h
 cases hz:i.zero with
 |none=>exact ai.unsupported
 |some z=>simp only[hz]at h;exact ai.pure' (xY h)
def Em(h:RA β a a'):ai P β (load a) (load a') RV:=ai.load h λ_ _ k=>ai.pure k
def Wl(h:RA β a a')(k:RV β x y):ai P β (store a x) (store a' y) (λ_ _ _=>True):=ai.store h k (ai.pure trivial)
def MS:∀(n i:Nat) {β:aK} (_:RA β a a') {xs ys:Array aj},RL β xs ys->ai P β (loadCellsFrom a i n xs) (loadCellsFrom a' i n ys) RL
 |0,_,_,_,_,_,k=>ai.pure' k
 |n+1,i,_,h,_,_,k=>ai.bind' (Em (h.add i)) λ_ _ _ le q=>MS n (i+1) (h.mono le) (bh.push (RL.mono le k) q)
def MU(h:RA β a a')(n:Nat):ai P β (loadCells a n) (loadCells a' n) RL:=MS n 0 h bh.empty
def mM(β:aK):List aj->List aj->Prop
 |[],ys=>ys=[]
 |x::xs,ys=>∃y zs,ys=y::zs/\RV β x y/\mM β xs zs
def mM.mono{γ:aK}(h:β.le γ):∀{xs ys:List aj},mM β xs ys->mM γ xs ys
 |[],_,k=>k
 |_::_,_,⟨y,zs,e,a,b⟩=>⟨y,zs,e,a.mono h,b.mono h⟩
def mM.B2:∀{xs ys:List aj},xs.length=ys.length->(∀(i:Nat) (x y:aj),xs[i]?=U x->ys[i]?=U y->RV β x y)->mM β xs ys
 |[],ys,e,_=>sN e.symm
 |x::xs,[],e,_=>by simp at e
 |x::xs,y::ys,e,h=>⟨y,ys,rfl,h 0 x y rfl rfl,mM.B2 (by simpa using e) λi a b p q=>h (i+1) a b (by simpa using p) (by simpa using q)⟩
def RL.toList(h:RL β xs ys):mM β xs.toList ys.toList:=
 mM.B2 (by simpa using h.1) λi x y p q=>h.2 i x y (by simpa using p) (by simpa using q)
def Hx:∀{xs ys:List aj} {i:Nat} {β:aK},RA β a a'->mM β xs ys->ai P β (storeCells a xs i) (storeCells a' ys i) (λ_ _ _=>True)
 |[],_,_,_,_,e=>by cases e;exact ai.pure' trivial
 |x::xs,_,i,_,h,⟨y,zs,e,k,l⟩=>by
  cases e
  unfold storeCells;exact ai.bind' (Wl (h.add i) k) λ_ _ _ le _=>Hx (h.mono le) (l.mono le)
def wI(h:RA β a a')(t:TypeId):ai P β (loadVar t a) (loadVar t a') RV:=by
 unfold loadVar
 refine ai.bind' (MR t) λ_ b _ le e=>?_
 subst e
 cases b
 ·exact Em (h.mono le)
 refine ai.bind' (lS t) λ_ n _ uR e=>?_
 subst e
 refine ai.bind' (MU ((h.mono le).mono uR) n) λ_ xs ys _ k=>ai.pure' (gH.2 ⟨ys,rfl,k⟩)
def En(h:RA β a a')(k:RV β x y)(t:TypeId):ai P β (storeVar t a x) (storeVar t a' y) (λ_ _ _=>True):=by
 unfold storeVar
 refine ai.bind' (lS t) λ_ n _ le e=>?_
 subst e;have hc:=xZ (k.mono le);rw[<- hc.1]
 split
 ·exact ai.hlt (aQ.bind (aQ.halt _))
 exact Hx (h.mono le) hc.toList
def Ab(h:RL β xs ys)(e:TypeId):ai P β (newRow e xs) (newRow e ys) (λβ' a a'=>RA β' a a'/\β'.own a.block a'.block):=by
 unfold newRow;exact ai.bind' (ai.newObj (o:=ay xs e) (o':=ay ys e) ⟨ys,rfl,h⟩) λ_ _ _ _ k=>ai.pure' ⟨⟨.inl k,rfl,rfl⟩,k⟩
def Hy(h:RV β x y)(t:TypeId):ai P β (newVar t x) (newVar t y) (λβ' a a'=>RA β' a a'/\β'.own a.block a'.block):=Ab (xZ h) t
def uS(h:RL β xs ys)(t:TypeId)(off:Nat):ai P β (part t xs off) (part t ys off) RV:=by
 unfold part
 refine ai.bind' (MR t) λ_ b _ le e=>?_
 subst e
 cases b
 ·rcases(RL.mono le h).get off with⟨p,q⟩|⟨x,y,p,q,k⟩
  ·simp only[p,q];exact ai.stuck
  simp only[p,q];exact ai.pure' k
 refine ai.bind' (lS t) λ_ n _ uR e=>?_
 subst e;exact ai.pure' (gH.2 ⟨_,rfl,(RL.mono uR (RL.mono le h)).extract _ _⟩)
def Eo(h:RV β x y):ai P β (asIntOf x) (asIntOf y) (λ_ p p'=>p=p'/\x=.int p.1 p.2):=by
 cases x<;>try exact ai.stuck
 case int=>obtain rfl:=cO.1 h;exact ai.pure' ⟨rfl,rfl⟩
 case pointer a=>cases a<;>first|exact ai.stuck|exact ai.unsupported
def Ep(h:RV β x y):ai P β (asInt x) (asInt y) (λ_ p p'=>p=p'):=by
 unfold asInt;exact ai.bind' (Eo h) λ_ p _ _ ⟨e,_⟩=>by subst e;exact ai.pure' rfl
def Wm(h:RV β x y):ai P β (asBool x) (asBool y) (λ_ p p'=>p=p'):=by
 cases x<;>try exact ai.stuck
 case bool=>obtain rfl:=fM.1 h;exact ai.pure' rfl
def Wn(h:RV β x y):ai P β (asAgg x) (asAgg y) RL:=by
 cases x<;>try exact ai.stuck
 case agg=>obtain⟨_,rfl,k⟩:=gH.1 h;exact ai.pure' k
def aQ.panic(v:aj):aQ P (goPanic v:Sem α):=λ_ _=>trivial
def aQ.runtimePanic(e:RuntimeError):aQ P (runtimePanic e:Sem α):=by
 unfold Go.runtimePanic
 refine aQ.prog ?_;have hu:∀(t:TypeId) (f:TypeId->Sem α),(∀e,aQ P (f e))->aQ P (elemOf t >>= f):=by
  intro t f h K v
  refine Mw.bind f _ v ?_;unfold elemOf underlying
  refine Mw.bind _ _ v (Mw.bind _ _ v ?_)
  show Mw P _ (match P.underlying t with|some d=>pure d|none=>stuck "no such type") v
  cases P.underlying t with
  |none=>trivial
  |some d=>cases d<;>first|trivial|exact h _ K v
 cases e<;>try exact aQ.panic _
 ·exact hu _ _ λe K v=>trivial
 exact hu _ _ λe K v=>trivial
def Er(h:RV β x y):ai P β (asAddr x) (asAddr y) (λβ' a a'=>RA β' a a'):=by
 cases x<;>try exact ai.stuck
 case pointer a=>
  obtain⟨b,rfl,k⟩:=gW.1 h
  cases a with
  |none=>exact ai.hlt (show aQ P (runtimePanic .nilDeref)from aQ.runtimePanic _)
  |some a=>obtain⟨a',rfl,k⟩:=k;exact ai.pure' k
def B3(h:RV β x y):ai P β (Instr.sureAddr x) (Instr.sureAddr y) (λβ' a a'=>RA β' a a'):=by
 cases x<;>try exact ai.stuck
 case pointer a=>
  obtain⟨b,rfl,k⟩:=gW.1 h
  cases a with
  |none=>exact ai.stuck
  |some a=>obtain⟨a',rfl,k⟩:=k;exact ai.pure' k
end
section
variable {P:Program}{β:aK}{α α' γ γ':Type}{Q:aK->α->α'->Prop}{S:aK->γ->γ'->Prop}
def Ac(h:β.any b b'):ai P β (Go.shape b) (Go.shape b') (λ_ s s'=>B0 s s'/\(¬β.tok b b'->s=s')):=
 ai.shape h λ_ _ k l=>ai.pure ⟨k,l⟩
def B0.isSome{s s':Option (TypeId×Nat)}(h:B0 s s'):s.isSome=s'.isSome:=by
 rcases h with rfl|⟨e,n,rfl,rfl⟩<;>rfl
def Ad(h:β.any b b'):ai P β (Go.getObj b) (Go.getObj b') (λβ' o o'=>RO β' o o'/\β.own b b'):=
 ai.getObj h λ_ _ k l=>ai.pure ⟨k,l⟩
def MV(h:β.any b b'):ai P β (viewAt b) (viewAt b') (λ_ x y=>x=J/\y=J):=by
 unfold viewAt
 refine ai.bind' (Ac h) λβ1 s s' le ⟨k,_⟩=>?_
 rw[<- k.isSome]
 cases s with
 |some p=>exact ai.pure' ⟨rfl,rfl⟩
 |none=>
  refine ai.bind' (Ad (le.any h)) λβ2 o o' _ ⟨k,_⟩=>?_
  cases o with
  |cells=>obtain⟨_,rfl,_⟩:=k;exact ai.pure' ⟨rfl,rfl⟩
  |map=>obtain⟨_,rfl,_⟩:=k;exact ai.pure' ⟨rfl,rfl⟩
  |mapIter=>obtain⟨_,rfl,_⟩:=k;exact ai.pure' ⟨rfl,rfl⟩
  |number=>obtain⟨_,rfl,_⟩:=k;exact ai.pure' ⟨rfl,rfl⟩
  |stringIter=>obtain rfl:=k;exact ai.pure' ⟨rfl,rfl⟩
  |_=>exact k.elim
def Hz(h:RA β a a'):ai P β (noView a) (noView a') (λ_ _ _=>True):=by
 unfold noView
 refine ai.bind' (MV h.blk) λ_ x y _ ⟨e,f⟩=>?_
 subst e;subst f;exact ai.pure' trivial
def Wo(β:aK):Option (av×Bool)->Option (av×Bool)->Prop
 |none,y=>y=J
 |some (a,l),y=>∃a',y=U (a',l)/\RA β a a'
def MW(h:β.any b b'):ai P β (numberAt b) (numberAt b') (λβ' x y=>Wo β' x y):=by
 unfold numberAt
 refine ai.bind' (Ac h) λβ1 s s' le ⟨k,_⟩=>?_
 rw[<- k.isSome]
 cases s with
 |some p=>exact ai.pure' rfl
 |none=>
  refine ai.bind' (Ad (le.any h)) λβ2 o o' _ ⟨k,_⟩=>?_
  cases o with
  |cells=>obtain⟨_,rfl,_⟩:=k;exact ai.pure' rfl
  |map=>obtain⟨_,rfl,_⟩:=k;exact ai.pure' rfl
  |mapIter=>obtain⟨_,rfl,_⟩:=k;exact ai.pure' rfl
  |number=>obtain⟨a',rfl,q⟩:=k;exact ai.pure' ⟨a',rfl,q⟩
  |stringIter=>obtain rfl:=k;exact ai.pure' rfl
  |_=>exact k.elim
def wJ(h:RA β a a'):ai P β (behindNumber a) (behindNumber a') (λβ' x y=>RA β' x.1 y.1/\x.2=y.2):=by
 unfold behindNumber
 refine ai.bind' (MW h.blk) λβ1 x y le k=>?_
 cases x with
 |none=>cases k;exact ai.pure' ⟨h.mono le,rfl⟩
 |some p=>obtain⟨a1,rfl,q⟩:=k;exact ai.pure' ⟨q,rfl⟩
def Wp(h:RA β a a')(l:Bool):ai P β (asNumber a l) (asNumber a' l) RV:=by
 unfold asNumber
 refine ai.bind' (ai.newObj (o:=.number a l) (o':=.number a' l) ⟨a',rfl,h⟩) λβ1 b b' _ k=>ai.pure' (gW.2 ⟨_,rfl,_,rfl,.inl k,rfl,rfl⟩)
def B4(h:RA β a a'):ai P β (byteOf a) (byteOf a') (λ_ x y=>x=y):=by
 unfold byteOf;rw[<- h.spot]
 cases a.spot with
 |some s=>exact ai.pure' rfl
 |none=>
  refine ai.prog ?_
  refine ai.bind' (Hz h) λβ1 _ _ le _=>?_
  refine ai.bind' (Ac (h.mono le).blk) λβ2 s s' uR ⟨k,_⟩=>?_
  have key:∀(e:TypeId) (n m:Nat),ai P β2 (match (U (e,n):Option (TypeId×Nat))with
    |some (e,_)=>(do
     let s:=P.cellsOf e
     if s=0 then return 0
     let U b:=byteOfCell P P.depth e (a.off%s)|stuck "byteOf: no such cell"
     pure (a.off / s*P.bytesOf e+b):Sem Nat)
    |x=>stuck "byteOf: no such block") (match (U (e, m):Option (TypeId×Nat))with
    |some (e,_)=>(do
     let s:=P.cellsOf e
     if s=0 then return 0
     let U b:=byteOfCell P P.depth e (a'.off%s)|stuck "byteOf: no such cell"
     pure (a'.off / s*P.bytesOf e+b):Sem Nat)
    |x=>stuck "byteOf: no such block") (λ_ x y=>x=y):=by
   intro e n m;simp only[<- h.off]
   split
   ·exact ai.pure' rfl
   split
   ·exact ai.pure' rfl
   exact ai.stuck
  rcases k with rfl|⟨e,n,rfl,rfl⟩
  ·cases s with
   |none=>exact ai.stuck
   |some p=>exact key p.1 p.2 p.2
  exact key e 0 n
def ai.facts{s:Sem α}{s':Sem α'}(h:(∀a b c,β.any a c->β.any b c->a=b)->(∀a b c,β.any a b->β.any a c->b=c)->(∀b b',β.any b b'->(b<β.g↔b'<β.g))->ai P β s s' Q):ai P β s s' Q:=
 λv w r=>h r.inj r.oP r.nI v w r
def MX(h:RA β a a'):ai P β (Go.frozen a) (Go.frozen a') (λ_ x y=>B1 β a a' x y):=ai.frozen h λ_ _ k=>ai.pure k
def fs(v:ah)(a:av):Bool:=v.frozen? a||match v.shape? a.block with
 |some (_,n)=>v.frozen? { block:=a.block,off:=n }
 |none=>false
def nn(v:ah)(a:av):Bool:=(v.shape? a.block) matches U (_,0)
def mb(v:ah)(a b:av):Bool:=(fs v a&&fs v b)||(fs v a&&nn v a)||(fs v b&&nn v b)
def MZ{K:α->ah->Prop}{k:Bool->Sem α}{v:ah}(h:Mw P K (k (fs v a)) v):Mw P K (stringish a >>= k) v:=by
 unfold fs at h;show Mw P K ((if v.frozen? a=true then pure true else _) >>= k) v
 cases hf:v.frozen? a with
 |true=>rw[hf]at h;simpa using h
 |false=>
  rw[hf]at h;simp only[Bool.false_or]at h;show Mw P K ((match v.shape? a.block with|some (_,n)=>Go.frozen { block:=a.block,off:=n }|none=>pure false) >>= k) v
  cases hs:v.shape? a.block with
  |none=>rw[hs]at h;exact h
  |some p=>rw[hs]at h;exact h
def M0{k:Bool->Sem α}{v:ah}:(stringish a >>= k).runT P v es=(k (fs v a)).runT P v es:=by
 unfold fs;show ((if v.frozen? a=true then pure true else _) >>= k).runT P v es=_
 cases hf:v.frozen? a with
 |true=>rfl
 |false=>
  simp only[Bool.false_or];show ((match v.shape? a.block with|some (_,n)=>Go.frozen { block:=a.block,off:=n }|none=>pure false) >>= k).runT P v es=_
  cases hs:v.shape? a.block with
  |none=>rfl
  |some p=>rfl
def M7{v:ah}(r:RW β v w)(h:RA β a a'):B1 β a a' (fs v a) (fs w a'):=by
 obtain⟨k1,k2,k3,k4⟩:=r.fz h;have hs:=r.shape h.blk;have ko:β.own a.block a'.block->fs v a=fs w a':=by
  intro o;have nt:¬β.tok a.block a'.block:=λt=>r.qG _ _ _ o t
  unfold fs;rw[k2 o,hs.2 nt]
  cases w.shape? a'.block with
  |none=>rfl
  |some p=>simp only;rw[(r.fz (a:={ block:=a.block,off:=p.2 }) (a':={ block:=a'.block,off:=p.2 }) ⟨h.blk,rfl,rfl⟩).2.1 o]
 have kr:β.ro a.block a'.block->fs w a'=false:=by
  intro o;obtain⟨c,c',e,fz,x,y,_⟩:=r.ro _ _ o;simp[fs,World.shape?,bE,y]
 have kt:β.tok a.block a'.block->fs v a=false/\fs w a'=false:=by
  intro o;obtain⟨e,c',x,y⟩:=r.tok _ _ o;simp[fs,World.shape?,bE,x,y]
 refine⟨λhy=>?_,ko,kr,kt⟩
 rcases h.blk with o|o|o
 ·rw[ko o];exact hy
 ·rw[kr o]at hy;cases hy
 rw[(kt o).2]at hy;cases hy
def Wq{v:ah}(r:RW β v w){b b':av}(h:RA β a a')(k:RA β b b'):mb w a' b'=true->mb v a b=true:=by
 have fa:=M7 r h;have fb:=M7 r k;have na:∀{a a':av},RA β a a'->B1 β a a' (fs v a) (fs w a')->fs w a'=true->nn v a=nn w a':=by
  intro a a' h f t;have o:β.own a.block a'.block:=by
   rcases h.blk with o|o|o
   ·exact o
   ·rw[f.2.2.1 o]at t;cases t
   rw[(f.2.2.2 o).2]at t;cases t
  unfold nn;rw[(r.shape h.blk).2 λt=>r.qG _ _ _ o t]
 unfold mb;simp only[Bool.or_eq_true,kS];rintro((⟨p,q⟩|⟨p,q⟩)|⟨p,q⟩)
 ·exact .inl (.inl ⟨fa.1 p,fb.1 q⟩)
 ·exact .inl (.inr ⟨fa.1 p,by rw[na h fa p];exact q⟩)
 exact .inr ⟨fb.1 p,by rw[na k fb p];exact q⟩
def Ws{K:α->ah->Prop}{k:Bool->Sem α}{b:av}{v:ah}(h:Mw P K (k (mb v a b)) v):Mw P K (mayBeOne a b >>= k) v:=by
 refine Mw.bind k _ v ?_;unfold mayBeOne
 refine MZ ?_
 refine MZ ?_;exact h
def Wt{k:Bool->Sem α}{b:av}{v:ah}:(mayBeOne a b >>= k).runT P v es=(k (mb v a b)).runT P v es:=by
 have e:∀es,(mayBeOne a b).runT P v es=(.ok (mb v a b) v,es):=by
  intro es;unfold mayBeOne;rw[M0,M0];rfl
 show ((mayBeOne a b).bind k).runT P v es=_
 rw[Sem.runT_bind',e]
def M8{b b':av}(h:RA β a a')(k:RA β b b'):ai P β (sameAddr a b) (sameAddr a' b') (λ_ x y=>x=y):=by
 refine ai.facts λinj f1 _=>?_
 unfold sameAddr;have hb:(a.block==b.block)=(a'.block==b'.block):=by
  rw[yc];simp only[og];exact⟨λe=>f1 _ _ _ h.blk (e▸k.blk),λe=>inj _ _ _ h.blk (e▸k.blk)⟩
 rw[<- hb]
 by_cases e:(a.block==b.block)=true
 ·simp only[e,kC]
  refine ai.pure' ?_;have e1:a.block=b.block:=by simpa using e
  have e2:a'.block=b'.block:=f1 _ _ _ h.blk (e1▸k.blk);rw[yc];simp only[og];obtain⟨_,o1,s1⟩:=h;obtain⟨_,o2,s2⟩:=k
  cases a;cases b;cases a';cases b'
  simp only at e1 e2 o1 o2 s1 s2;subst e1;subst e2;subst o1;subst o2;subst s1;subst s2;simp
 simp only[e]
 refine ai.bind' (MX h) λβ1 x x' le fx=>?_
 refine ai.bind' (MX (k.mono le)) λβ2 y y' uR fy=>?_
 have h2:=(h.mono le).mono uR;have k2:=(k.mono le).mono uR;have rest:∀q0:Question,q0.forced=false->(q0.cut 0==1)=false->ai P β2 (noView a >>= λ_=>noView b >>= λ_=>mayBeOne a b >>= λx=>if x=true then (choose q0 >>= λn=>pure (n==1))else pure false)
   (noView a' >>= λ_=>noView b' >>= λ_=>mayBeOne a' b' >>= λx=>if x=true then (choose q0 >>= λn=>pure (n==1))else pure false) (λ_ x y=>x=y):=by
  refine λq0 Wu Wv=>ai.bind' (Hz h2) λβ3 _ _ yf _=>?_
  refine ai.bind' (Hz (k2.mono yf)) λβ4 _ _ M9 _=>?_
  have h4:=(h2.mono yf).mono M9;have k4:=(k2.mono yf).mono M9;intro v w r
  refine Ws ?_;simp only[Wt];have hm:=Wq r h4 k4
  cases p:mb v a b with
  |false=>
   have q:mb w a' b'=false:=by cases q:mb w a' b';rfl;rw[p]at hm;exact absurd (hm q) (by simp)
   rw[q];exact ai.pure' (Q:=λ_ x y=>x=y) rfl v w r
  |true=>
   cases q:mb w a' b' with
   |false=>
    exact ai.Wb (Q:=λ_ x y=>x=y) (q0.cut 0) Wu ⟨0,rfl⟩ (ai.pure (a:=(q0.cut 0==1)) Wv) v w r
   |true=>
    exact ai.choose (Q:=λ_ x y=>x=y) (λn=>ai.pure rfl) v w r
 cases x' with
 |true=>
  obtain rfl:x=true:=fx.1 rfl
  cases y' with
  |true=>obtain rfl:y=true:=fy.1 rfl;exact ai.hlt (aQ.bind (aQ.halt _))
  |false=>cases y with
   |true=>exact ai.hlt (aQ.bind (aQ.halt _))
   |false=>exact rest _ rfl rfl
 |false=>cases x with
  |true=>cases y with
   |true=>exact ai.hlt (aQ.bind (aQ.halt _))
   |false=>exact rest _ rfl rfl
  |false=>exact rest _ rfl rfl
end
section
variable {P:Program}{β:aK}{α α' γ γ':Type}{Q:aK->α->α'->Prop}{S:aK->γ->γ'->Prop}
def B5(R:aK->γ->γ'->Prop)(β:aK):ForInStep γ->ForInStep γ'->Prop
 |.done b,y=>∃b',y=.done b'/\R β b b'
 |.yield b,y=>∃b',y=.yield b'/\R β b b'
def H3{ι:Type}{R:aK->γ->γ'->Prop}{f:ι->γ->Sem (ForInStep γ)}{f':ι->γ'->Sem (ForInStep γ')}:∀(xs:List ι) {β:aK} {b:γ} {b':γ'},(∀β' x b b',β.le β'->R β' b b'->ai P β' (f x b) (f' x b') (B5 R))->R β b b'->ai P β (forIn xs b f) (forIn xs b' f') R
 |[],β,b,b',_,h=>by rw[List.forIn_nil,List.forIn_nil];exact ai.pure' h
 |x::xs,β,b,b',hf,h=>by
  rw[List.forIn_cons,List.forIn_cons]
  refine ai.bind' (hf β x b b' β.le_refl h) λβ1 s s' le k=>?_
  cases s with
  |done c=>obtain⟨c',rfl,k⟩:=k;exact ai.pure' k
  |yield c=>obtain⟨c',rfl,k⟩:=k;exact H3 xs (λβ2 x b b' uR=>hf β2 x b b' (le.trans uR)) k
def H4{ι:Type}{R:aK->γ->γ'->Prop}{f:ι->γ->Sem (ForInStep γ)}{f':ι->γ'->Sem (ForInStep γ')}{xs:Array ι}{b:γ}{b':γ'}
  (hf:∀β' x b b',β.le β'->R β' b b'->ai P β' (f x b) (f' x b') (B5 R)) (h:R β b b'):ai P β (forIn xs b f) (forIn xs b' f') R:=by
 rw[<- Array.forIn_toList,<- Array.forIn_toList];exact H3 _ hf h
def H5{R:aK->γ->γ'->Prop}{f:Nat->γ->Sem (ForInStep γ)}{f':Nat->γ'->Sem (ForInStep γ')}{n:Nat}{b:γ}{b':γ'}
  (hf:∀β' x b b',β.le β'->R β' b b'->ai P β' (f x b) (f' x b') (B5 R)) (h:R β b b'):ai P β (forIn [:n] b f) (forIn [:n] b' f') R:=by
 rw[GL,GL];exact H3 _ hf h
def aQ.typeStr{f:String->Sem α}(h:∀s,aQ P (f s)):aQ P (typeStr t >>= f):=by
 intro K v
 refine Mw.bind f _ v ?_;unfold Go.typeStr Go.typeInfo
 refine Mw.bind _ _ v (Mw.bind _ _ v ?_)
 show Mw P _ (match P.info? t with|some d=>pure d|none=>stuck "no such type") v
 cases P.info? t with
 |none=>trivial
 |some d=>
  show Mw P _ (if d.str.isEmpty=true then _ else _) v
  split
  ·trivial
  exact h _ K v
def H6{b b':av}(f1:∀a b c,β.any a b->β.any a c->b=c)(inj:∀a b c,β.any a c->β.any b c->a=b)(h:RA β a a')(k:RA β b b'):(a==b)=(a'==b'):=by
 rw[yc];simp only[og]
 constructor
 ·rintro rfl;have:=f1 _ _ _ h.blk k.blk
  cases a';cases b';simp only at this;have:=h.off;have:=k.off;have:=h.spot;have:=k.spot;simp_all
 rintro rfl;have:=inj _ _ _ h.blk k.blk
 cases a;cases b;simp only at this;have:=h.off;have:=k.off;have:=h.spot;have:=k.spot;simp_all
def fT.isNone{a a':Option av}(h:fT β a a'):a.isNone=a'.isNone:=by
 cases a with
 |none=>cases h;rfl
 |some a=>obtain⟨_,rfl,_⟩:=h;rfl
def lz.isNone{a a':Option Nat}(h:lz β a a'):a.isNone=a'.isNone:=by
 cases a with
 |none=>cases h;rfl
 |some a=>obtain⟨_,rfl,_⟩:=h;rfl
def Es:∀(d:Nat) {β:aK} (t:TypeId) {x y x' y':aj},β.g=P.globals.size->RV β x x'->RV β y y'->ai P β (Op.equalIn d t x y) (Op.equalIn d t x' y') (λ_ a b=>a=b)
 |0,_,_,_,_,_,_,_,_,_=>ai.unsupported
 |d+1,β,t,x,y,x',y',hg,hx,hy=>by
  rw[Op.equalIn.eq_2,Op.equalIn.eq_2]
  refine ai.bind' (fU t) λβ1 dd dd' le ⟨e,_⟩=>?_
  subst e;replace hx:=hx.mono le
  replace hy:=hy.mono le
  replace hg:β1.g=P.globals.size:=le.g▸hg
  clear le;have loop:∀{β1 β2:aK} (_:β1.le β2) (tt:TypeId) (off:Nat) {xs ys xs' ys':Array aj} (_:RL β1 xs xs') (_:RL β1 ys ys') (_:β1.g=P.globals.size),
    ai P β2 (do
     let u <- part tt xs off
     let w <- part tt ys off
     let r <- Op.equalIn d tt u w
     if (!r)=true then pure (ForInStep.done (U false,()))else pure (ForInStep.yield (J,())))
    (do
     let u <- part tt xs' off
     let w <- part tt ys' off
     let r <- Op.equalIn d tt u w
     if (!r)=true then pure (ForInStep.done (U false,()))else pure (ForInStep.yield (J,()))) (B5 (γ:=Option Bool×Unit) (γ':=Option Bool×Unit) λ_ a b=>a=b):=by
   intro β1 β2 le tt off xs ys xs' ys' h1 h2 hg
   refine ai.bind' (uS (RL.mono le h1) tt off) λβ3 u u' l3 ku=>?_
   refine ai.bind' (uS (RL.mono l3 (RL.mono le h2)) tt off) λβ4 z z' l4 kz=>?_
   refine ai.bind' (Es d tt (by rw[<- l4.g,<- l3.g,<- le.g];exact hg) (ku.mono l4) kz) λβ5 r r' _ e=>?_
   subst e
   cases r
   ·exact ai.pure' ⟨_,rfl,rfl⟩
   exact ai.pure' ⟨_,rfl,rfl⟩
  cases dd with
  |bool=>
   cases x<;>try exact ai.stuck
   cases y<;>try exact ai.stuck
   obtain rfl:=fM.1 hx;obtain rfl:=fM.1 hy;exact ai.pure' rfl
  |string=>
   cases x<;>try exact ai.stuck
   cases y<;>try exact ai.stuck
   obtain rfl:=jg.1 hx;obtain rfl:=jg.1 hy;exact ai.pure' rfl
  |float=>
   cases x<;>try exact ai.stuck
   exact(tj.1 hx).elim
  |complex=>
   cases x<;>try exact ai.stuck
   exact(tq.1 hx).elim
  |chan=>
   cases x<;>try exact ai.stuck
   cases y<;>try exact ai.stuck
   obtain⟨rfl,rfl⟩:=rH.1 hx;obtain⟨rfl,rfl⟩:=rH.1 hy;exact ai.pure' rfl
  |unsafePointer=>
   cases x<;>try exact ai.stuck
   cases y<;>try exact ai.stuck
   obtain⟨a',rfl,ha⟩:=gW.1 hx;obtain⟨b',rfl,hb⟩:=gW.1 hy;rename_i a b;show ai P β1 (samePointer a b) (samePointer a' b') _
   cases a with
   |none=>
    cases ha
    cases b with
    |none=>cases hb;exact ai.pure' rfl
    |some b=>obtain⟨b',rfl,_⟩:=hb;exact ai.pure' rfl
   |some a=>
    obtain⟨a',rfl,ha⟩:=ha
    cases b with
    |none=>cases hb;exact ai.pure' rfl
    |some b=>obtain⟨b',rfl,hb⟩:=hb;exact M8 ha hb
  |pointer el=>
   cases x<;>try exact ai.stuck
   rename_i a
   cases y<;>try (cases a<;>exact ai.stuck)
   obtain⟨a',rfl,ha⟩:=gW.1 hx;obtain⟨b',rfl,hb⟩:=gW.1 hy;rename_i b
   cases a with
   |none=>
    cases ha
    refine ai.pure' ?_;exact hb.isNone
   |some a=>
    obtain⟨a',rfl,ha⟩:=ha
    cases b with
    |none=>cases hb;exact ai.pure' rfl
    |some b=>
     obtain⟨b',rfl,hb⟩:=hb
     refine ai.bind' (lS el) λβ2 n _ le e=>?_
     subst e
     split
     ·exact M8 (ha.mono le) (hb.mono le)
     refine ai.facts λinj f1 _=>?_
     rw[H6 f1 inj (ha.mono le) (hb.mono le)]
     split
     ·exact ai.pure' rfl
     exact ai.bind' (ai.choose λn=>ai.pure rfl:ai P β2 (choose _) (choose _) (λ_ a b=>a=b)) λ_ a b _ e=>by subst e;exact ai.pure' rfl
  |interface ms=>
   cases x<;>try exact ai.stuck
   ·cases y<;>try exact ai.stuck
    ·obtain⟨v',rfl,hv⟩:=jh.1 hx;obtain⟨u',rfl,hu⟩:=jh.1 hy;rename_i tx vx ty vy;simp only
     split
     ·exact ai.pure' rfl
     refine ai.bind' (pS tx) λβ2 i _ le ⟨e,_⟩=>?_
     subst e
     split
     ·refine ai.hlt ?_
      refine aQ.prog (aQ.prog ?_)
      split
      ·exact aQ.bind (aQ.halt _)
      exact aQ.typeStr λs=>aQ.runtimePanic _
     exact Es d tx (le.g▸hg) (hv.mono le) (hu.mono le)
    obtain⟨v',rfl,hv⟩:=jh.1 hx;obtain rfl:=lA.1 hy;exact ai.pure' rfl
   cases y<;>try exact ai.stuck
   ·obtain rfl:=lA.1 hx;obtain⟨u',rfl,hu⟩:=jh.1 hy;exact ai.pure' rfl
   obtain rfl:=lA.1 hx;obtain rfl:=lA.1 hy;exact ai.pure' rfl
  |struct fs=>
   cases x<;>try exact ai.stuck
   cases y<;>try exact ai.stuck
   obtain⟨xs',rfl,h1⟩:=gH.1 hx;obtain⟨ys',rfl,h2⟩:=gH.1 hy
   refine ai.prog ?_;simp only
   split
   ·exact ai.hlt (aQ.bind (aQ.halt _))
   refine ai.bind' (H4 (R:=λ_ a b=>a=b) (λβ2 f b b' le e=>?_) rfl) λβ2 s s' _ e=>?_
   ·split
    ·exact loop le f.type f.offset h1 h2 hg
    exact ai.pure' ⟨_,rfl,rfl⟩
   subst e;obtain⟨s1,s2⟩:=s;cases s1<;>exact ai.pure' rfl
  |array len el=>
   cases x<;>try exact ai.stuck
   cases y<;>try exact ai.stuck
   obtain⟨xs',rfl,h1⟩:=gH.1 hx;obtain⟨ys',rfl,h2⟩:=gH.1 hy
   refine ai.bind' (lS el) λβ2 n _ le e=>?_
   subst e
   refine ai.bind' (H5 (R:=λ_ a b=>a=b) (λβ3 i b b' yf e=>loop (le.trans yf) el (i*n) h1 h2 hg) rfl) λβ2 s s' _ e=>?_
   subst e;obtain⟨s1,s2⟩:=s;cases s1<;>exact ai.pure' rfl
  |slice el=>
   cases x<;>try exact ai.stuck
   rename_i a _ _
   cases y<;>try (cases a<;>exact ai.stuck)
   obtain⟨a',rfl,ha⟩:=gX.1 hx;obtain⟨b',rfl,hb⟩:=gX.1 hy;rename_i b _ _
   cases a with
   |none=>cases ha;exact ai.pure' hb.isNone
   |some a=>
    obtain⟨a',rfl,ha⟩:=ha
    cases b with
    |none=>cases hb;exact ai.pure' rfl
    |some b=>exact ai.stuck
  |map k el=>
   cases x<;>try exact ai.stuck
   rename_i a
   cases y<;>try (cases a<;>exact ai.stuck)
   obtain⟨a',rfl,ha⟩:=oc.1 hx;obtain⟨b',rfl,hb⟩:=oc.1 hy;rename_i b
   cases a with
   |none=>cases ha;exact ai.pure' hb.isNone
   |some a=>
    obtain⟨a',rfl,ha⟩:=ha
    cases b with
    |none=>cases hb;exact ai.pure' rfl
    |some b=>exact ai.stuck
  |func=>
   cases x<;>try exact ai.stuck
   ·cases y<;>try exact ai.stuck
    obtain⟨_,_,_,rfl,_⟩:=pR.1 hx;obtain rfl:=pQ.1 hy;exact ai.pure' rfl
   cases y<;>try exact ai.stuck
   ·obtain rfl:=pQ.1 hx;obtain⟨_,_,_,rfl,_⟩:=pR.1 hy;exact ai.pure' rfl
   obtain rfl:=pQ.1 hx;obtain rfl:=pQ.1 hy;exact ai.pure' rfl
  |int k=>
   cases x<;>try (cases y<;>first|exact ai.stuck|exact ai.unsupported)
   ·rename_i k1 n1;obtain rfl:=cO.1 hx
    cases y<;>try exact ai.stuck
    ·obtain rfl:=cO.1 hy;simp only
     split
     ·exact ai.pure' rfl
     exact ai.stuck
    rename_i b;obtain⟨b',rfl,hb⟩:=gW.1 hy
    cases b with
    |none=>cases hb;exact ai.unsupported
    |some b=>
     obtain⟨b',rfl,hb⟩:=hb
     by_cases hz:n1=0
     ·subst hz;exact ai.pure' rfl
     refine ai.hlt ?_
     split<;>first|exact aQ.halt _|(exfalso;simp_all;done)
   rename_i a;obtain⟨a',rfl,ha⟩:=gW.1 hx
   cases a with
   |none=>cases ha;cases y<;>first|exact ai.unsupported|exact ai.stuck
   |some a=>
    obtain⟨a',rfl,ha⟩:=ha
    cases y<;>try exact ai.unsupported
    ·rename_i k2 n2;obtain rfl:=cO.1 hy
     by_cases hz:n2=0
     ·subst hz;exact ai.pure' rfl
     refine ai.hlt ?_
     split<;>first|exact aQ.halt _|(exfalso;simp_all;done)
    rename_i b;obtain⟨b',rfl,hb⟩:=gW.1 hy
    cases b with
    |none=>cases hb;exact ai.unsupported
    |some b=>
     obtain⟨b',rfl,hb⟩:=hb
     refine ai.bind' (wJ ha) λβ2 p p' l2 ⟨kp,_⟩=>?_
     refine ai.bind' (wJ (hb.mono l2)) λβ3 q q' l3 ⟨kq,_⟩=>?_
     replace kp:=kp.mono l3
     have hg3:β3.g=P.globals.size:=by rw[<- l3.g,<- l2.g];exact hg
     refine ai.prog ?_
     refine ai.facts λinj f1 nI=>?_
     have hb1:(p.1.block==q.1.block)=(p'.1.block==q'.1.block):=by
      rw[yc];simp only[og];exact⟨λe=>f1 _ _ _ kp.blk (e▸kq.blk),λe=>inj _ _ _ kp.blk (e▸kq.blk)⟩
     have hb2:decide (p.1.block<P.globals.size)=decide (p'.1.block<P.globals.size):=by
      rw[<- hg3];exact jd.2 (nI _ _ kp.blk)
     rw[<- hb1,<- hb2]
     split
     ·refine ai.bind' (B4 kp) λβ4 m _ l4 e=>?_
      subst e
      refine ai.bind' (B4 (kq.mono l4)) λβ5 m2 _ l5 e=>?_
      subst e;exact ai.pure' rfl
     refine ai.bind' (pS t) λβ4 i _ l4 ⟨e,_⟩=>?_
     subst e
     split
     ·rw[H6 f1 inj kp kq]
      split
      ·exact ai.pure' rfl
      exact ai.unsupported
     exact ai.unsupported
  |_=>exact ai.stuck
end
section
variable {P:Program}{β:aK}{α α' γ γ':Type}{Q:aK->α->α'->Prop}{S:aK->γ->γ'->Prop}
def Still(P:Program)(s:Sem aj):Prop:=∀β:aK,ai P β s s RV
def Et(k:IntKind)(n:Int):Still P (pure (.int k n)):=λ_=>ai.pure' (cO.2 rfl)
def M_(b:Bool):Still P (pure (aJ b)):=λ_=>ai.pure' (fM.2 rfl)
def Ww(b:ByteArray):Still P (pure (aB b)):=λ_=>ai.pure' (jg.2 rfl)
def tv{s:Sem aj}(h:aQ P s):Still P s:=λ_=>ai.hlt h
def Na(op:BinOp)(k:IntKind)(a b:Int):Still P (Op.intArith op k a b):=by
 cases op<;>first|exact Et _ _|exact tv (aQ.halt _)
def Nb(op:BinOp)(k:IntKind)(a b:Int):Still P (Op.intBits op k a b):=by
 cases op<;>first|exact Et _ _|exact tv (aQ.halt _)
def Wx(op:BinOp)(a b:Int):Still P (Op.intCmp op a b):=by
 cases op<;>first|exact M_ _|exact tv (aQ.halt _)
def Wy(op:BinOp)(k:IntKind)(a b:Int):Still P (Op.intDiv op k a b):=by
 unfold Op.intDiv
 split
 ·exact tv (aQ.runtimePanic _)
 cases op<;>first|exact Et _ _|exact tv (aQ.halt _)
def Nc(op:BinOp)(k yk:IntKind)(a b:Int):Still P (Op.shift op k a yk b):=by
 unfold Op.shift
 split
 ·exact tv (aQ.runtimePanic _)
 cases op<;>first|exact Et _ _|exact tv (aQ.halt _)
def WA(op:BinOp)(a b:ByteArray):Still P (Op.stringOp op a b):=by
 unfold Op.stringOp
 cases op<;>first|exact M_ _|exact tv (aQ.halt _)|skip
 simp only
 split
 ·exact tv (aQ.halt _)
 exact Ww _
def WB(op:BinOp)(t:TypeId)(k k':IntKind)(a b:Int):Still P (binOp op t (.int k a) (.int k' b)):=by
 by_cases h:k=k'
 ·subst h
  cases op<;>simp only[binOp,ne_eq,not_true_eq_false,j5]<;>first|exact Na _ _ _ _|exact Nb _ _ _ _|exact Wx _ _ _|exact Wy _ _ _ _|exact Nc _ _ _ _ _
 cases op<;>simp only[binOp,ne_eq,h,not_false_eq_true,kC]<;>first|exact tv (aQ.halt _)|exact Nc _ _ _ _ _
def ua(p:Option av)(y:aj):Sem aj:=asInt y >>= λn=>match p with
 |none=>.halt (if n=0 then .unsupported (.unsafePointer "Add: from nil")else if n<0 then .unsupported (.unsafePointer "Add: a move by a count below zero")else .unsupported (.unsafePointer "Add"))
 |some a=>
  if n=0 then viewAt a.block >>= λx=>if x.isSome=true then unsupported (.unsafePointer "Add: at a place where no cell lies")else pure (ax (U a))
  else if n<0 then unsupported (.unsafePointer "Add: a move by a count below zero")
  else Go.shape a.block >>= λs=>match s with
   |some (e,cells)=>program >>= λp=>match cellAtBytes p p.depth e (cells / p.cellsOf e) a.off n with
    |some off=>pure (ax (U { a with off }))
    |none=>unsupported (.unsafePointer "Add")
   |none=>unsupported (.unsafePointer "Add")
def Eu(ats:Array TypeId)(t:TypeId)(p:Option av)(y:aj):Builtin.unsafeAdd_ ats t #[ax p,y]=ua p y:=by
 unfold Builtin.unsafeAdd_ ua;show (asInt y >>= λn=>_)=(asInt y >>= λn=>_)
 congr 1
 funext n
 cases p with
 |none=>
  simp only
  by_cases h0:n=0
  ·simp only[h0,kC];rfl
  by_cases h1:n<0
  ·simp only[h0,h1,kC,j5];rfl
  simp only[h0,h1,j5];rfl
 |some a=>
  simp only
  by_cases h0:n=0
  ·simp only[h0,kC];rfl
  by_cases h1:n<0
  ·simp only[h0,h1,kC,j5];rfl
  simp only[h0,h1,j5];congr 1
  funext s
  cases s<;>rfl
def Nd(y:aj){s':Sem α'}{Q:aK->aj->α'->Prop}(hy:RV β y y'):ai P β (ua J y) s' Q:=by
 unfold ua
 refine ai.hlt λK v=>?_
 refine Mw.bind _ _ v ?_
 have key:∀n:Int, mJ (if n=0 then .unsupported (.unsafePointer "Add: from nil")else if n<0 then .unsupported (.unsafePointer "Add: a move by a count below zero")else .unsupported (.unsafePointer "Add")):=by
  intro n
  split
  ·exact trivial
  split<;>exact trivial
 cases y<;>first|exact trivial|exact key _|skip
 rename_i a
 cases a<;>exact trivial
def Nf(h:RA β a a')(hy:RV β y y'):ai P β (ua (U a) y) (ua (U a') y') RV:=by
 unfold ua
 refine ai.bind' (Ep hy) λβ1 n _ l1 e=>?_
 subst e;replace h:=h.mono l1
 simp only
 split
 ·refine ai.bind' (MV h.blk) λβ2 x y l2 ⟨e1,e2⟩=>?_
  subst e1;subst e2;exact ai.pure' (gW.2 ⟨_,rfl,_,rfl,h.mono l2⟩)
 ·split
  ·exact ai.unsupported
  ·refine ai.bind' (Ac h.blk) λβ2 s s' l2 ⟨k,_⟩=>?_
   have key:∀(e:TypeId) (n1 n2:Nat),(n1=n2\/n1=0)->ai P β2 (program >>= λp=>match cellAtBytes p p.depth e (n1 / p.cellsOf e) a.off n with
     |some off=>pure (ax (U { a with off }))
     |none=>unsupported (.unsafePointer "Add")) (program >>= λp=>match cellAtBytes p p.depth e (n2 / p.cellsOf e) a'.off n with
     |some off=>pure (ax (U { a' with off }))
     |none=>unsupported (.unsafePointer "Add")) RV:=by
    intro e n1 n2 hn
    refine ai.prog ?_;rw[<- h.off]
    rcases hn with rfl|rfl
    ·cases cellAtBytes P P.depth e (n1 / P.cellsOf e) a.off n with
     |none=>exact ai.unsupported
     |some off=>exact ai.pure' (gW.2 ⟨_,rfl,_,rfl,(h.mono l2).blk,rfl,h.spot⟩)
    have:cellAtBytes P P.depth e (0 / P.cellsOf e) a.off n=J:=by
     unfold cellAtBytes;simp only[Nat.zero_div,Nat.zero_mul]
     split
     ·rfl
     cases byteOfCell P P.depth e (a.off%P.cellsOf e)with
     |none=>rfl
     |some m=>
      simp only[Option.bind_eq_bind,Aa];rw[aU (by simp;omega)];rfl
    rw[this];exact ai.unsupported
   rcases k with rfl|⟨e,m,rfl,rfl⟩
   ·cases s with
    |none=>exact ai.unsupported
    |some p=>exact key p.1 p.2 p.2 (.inl rfl)
   exact key e 0 m (.inr rfl)
def mv(x:Option av)(y:aj):Sem aj:=match x with
 |some n=>behindNumber n >>= λp=>ua (U p.1) y >>= λv=>match v with
  |ax (U b)=>asNumber b p.2
  |v=>pure v
 |none=>ua J y
def Ng(t:TypeId) (x:Option av) (y:aj):movedNumber t (ax x) y=underlying t >>= λd=>if (d matches .unsafePointer)=true then unsupported (.unsafePointer "arithmetic at a pointer's type")else mv x y:=by
 unfold movedNumber mv;congr 1
 funext d
 have e:∀p y,Builtin.unsafeAdd_ #[] t #[ax p,y]=ua p y:=Eu #[] t
 cases x with
 |none=>
  simp only[e]
  cases d<;>rfl
 |some n=>
  simp only[e]
  cases d<;>rfl
def WC{x x':Option av}(hx:fT β x x')(hy:RV β y y'):ai P β (mv x y) (mv x' y') RV:=by
 unfold mv
 cases x with
 |none=>exact Nd y hy
 |some a=>
  obtain⟨a',rfl,ha⟩:=hx;simp only
  refine ai.bind' (wJ ha) λβ2 p p' l2 ⟨k1,k2⟩=>?_
  refine ai.bind' (Nf k1 (hy.mono l2)) λβ3 u u' l3 k=>?_
  rw[<- k2]
  cases u<;>first|exact(tj.1 k).elim|exact(tq.1 k).elim|skip
  case pointer b=>
   obtain⟨b',rfl,kb⟩:=gW.1 k
   cases b with
   |none=>cases kb;exact ai.pure' k
   |some b=>obtain⟨b',rfl,kb⟩:=kb;exact Wp kb _
  case bool=>obtain rfl:=fM.1 k;exact ai.pure' k
  case int=>obtain rfl:=cO.1 k;exact ai.pure' k
  case string=>obtain rfl:=jg.1 k;exact ai.pure' k
  case slice=>obtain⟨_,rfl,_⟩:=gX.1 k;exact ai.pure' k
  case map=>obtain⟨_,rfl,_⟩:=oc.1 k;exact ai.pure' k
  case chan=>obtain⟨_,rfl⟩:=rH.1 k;exact ai.pure' k
  case func=>obtain⟨_,_,_,rfl,_⟩:=pR.1 k;exact ai.pure' k
  case nilFunc=>obtain rfl:=pQ.1 k;exact ai.pure' k
  case iface=>obtain⟨_,rfl,_⟩:=jh.1 k;exact ai.pure' k
  case nilIface=>obtain rfl:=lA.1 k;exact ai.pure' k
  case agg=>obtain⟨_,rfl,_⟩:=gH.1 k;exact ai.pure' k
  case tuple=>obtain⟨_,rfl,_⟩:=iW.1 k;exact ai.pure' k
def H7(t:TypeId){x x':Option av}(hx:fT β x x')(hy:RV β y y'):ai P β (movedNumber t (ax x) y) (movedNumber t (ax x') y') RV:=by
 rw[Ng,Ng]
 refine ai.bind' (fU t) λβ1 d _ l1 ⟨e,_⟩=>?_
 subst e
 split
 ·exact ai.unsupported
 exact WC (hx.mono l1) (hy.mono l1)
def WE(t:TypeId)(ha:RA β a a')(hy:RV β y y'):ai P β (movedPointer t (ax (U a)) y) (movedPointer t (ax (U a')) y') RV:=by
 unfold movedPointer;simp only
 refine ai.bind' (MW ha.blk) λβ1 x x' l1 k=>?_
 rw[Eu,Eu]
 cases x with
 |none=>cases k;exact Nf (ha.mono l1) (hy.mono l1)
 |some p=>exact ai.hlt (aQ.bind (aQ.halt _))
def Nh{b b':av}(hg:β.g=P.globals.size)(h:RA β a a')(k:RA β b b'):ai P β (Op.twoPlaces a b) (Op.twoPlaces a' b') (λ_ x y=>x=y):=by
 unfold Op.twoPlaces
 refine ai.facts λinj f1 nI=>?_
 refine ai.prog ?_;have hb1:(a.block != b.block)=(a'.block != b'.block):=by
  rw[yc];simp only[bne_iff_ne,ne_eq];exact not_congr ⟨λe=>f1 _ _ _ h.blk (e▸k.blk),λe=>inj _ _ _ h.blk (e▸k.blk)⟩
 have hb2:decide (a.block≥P.globals.size)=decide (a'.block≥P.globals.size):=by
  rw[<- hg];have:=nI _ _ h.blk;exact jd.2 (by omega)
 rw[<- hb1,<- hb2]
 split
 ·exact ai.hlt (aQ.bind (aQ.halt _))
 refine ai.bind' (B4 h) λβ1 x _ l1 e=>?_
 subst e
 refine ai.bind' (B4 (k.mono l1)) λβ2 y _ l2 e=>?_
 subst e;exact ai.pure' rfl
def WG(h:RA β a a')(k:IntKind)(n:Int):ai P β (Op.addrMod k a n) (Op.addrMod k a' n) RV:=by
 unfold Op.addrMod
 refine ai.bind' (Ac h.blk) λβ1 s s' l1 ⟨q,_⟩=>?_
 have key:∀(e:TypeId),ai P β1 (do
   let align:=(<- typeInfo e).align
   if n<1||n.toNat>align||align%n.toNat != 0 then unsupported .addressObserved
   pure (.int k ((<- byteOf a)%n.toNat:Nat))) (do
   let align:=(<- typeInfo e).align
   if n<1||n.toNat>align||align%n.toNat != 0 then unsupported .addressObserved
   pure (.int k ((<- byteOf a')%n.toNat:Nat))) RV:=by
  intro e
  refine ai.bind' (pS e) λβ2 i _ l2 ⟨e,_⟩=>?_
  subst e;simp only
  split
  ·exact ai.hlt (aQ.bind (aQ.halt _))
  refine ai.bind' (B4 ((h.mono l1).mono l2)) λβ3 x _ _ e=>?_
  subst e;exact ai.pure' (cO.2 rfl)
 rcases q with rfl|⟨e,m,rfl,rfl⟩
 ·cases s with
  |none=>exact ai.unsupported
  |some p=>exact key p.1
 exact key e
def WH{b b':av}(hg:β.g=P.globals.size)(h:RA β a a')(k:RA β b b'):ai P β (behindNumber a >>= λp=>behindNumber b >>= λq=>Op.addrSub .u64 p.1 q.1) (behindNumber a' >>= λp=>behindNumber b' >>= λq=>Op.addrSub .u64 p.1 q.1) RV:=by
 refine ai.bind' (wJ h) λβ2 p p' l2 ⟨kp,_⟩=>?_
 refine ai.bind' (wJ (k.mono l2)) λβ3 q q' l3 ⟨kq,_⟩=>?_
 unfold Op.addrSub
 refine ai.bind' (Nh (by rw[<- l3.g,<- l2.g];exact hg) (kp.mono l3) kq) λβ4 x _ _ e=>?_
 subst e;exact ai.pure' (cO.2 rfl)
def WI(op:BinOp){b b':av}(hg:β.g=P.globals.size)(h:RA β a a')(k:RA β b b'):ai P β (behindNumber a >>= λp=>behindNumber b >>= λq=>Op.addrCmp op p.1 q.1) (behindNumber a' >>= λp=>behindNumber b' >>= λq=>Op.addrCmp op p.1 q.1) RV:=by
 refine ai.bind' (wJ h) λβ2 p p' l2 ⟨kp,_⟩=>?_
 refine ai.bind' (wJ (k.mono l2)) λβ3 q q' l3 ⟨kq,_⟩=>?_
 unfold Op.addrCmp
 refine ai.bind' (Nh (by rw[<- l3.g,<- l2.g];exact hg) (kp.mono l3) kq) λβ4 x _ _ e=>?_
 subst e
 cases op<;>first|exact ai.unsupported|exact ai.pure' (fM.2 rfl)
def H9(h:RA β a a')(k:IntKind)(n:Int):ai P β (behindNumber a >>= λp=>Op.addrMod k p.1 n) (behindNumber a' >>= λp=>Op.addrMod k p.1 n) RV:=
 ai.bind' (wJ h) λ_ _ _ _ ⟨kp,_⟩=>WG kp k n
def Ni(t:TypeId)(hg:β.g=P.globals.size)(hx:RV β x x')(hy:RV β y y')(f:Bool->Bool):ai P β (Op.equal t x y >>= λb=>pure (aJ (f b))) (Op.equal t x' y' >>= λb=>pure (aJ (f b))) RV:=
 ai.bind' (Es _ t hg hx hy) λ_ b _ _ e=>by subst e;exact ai.pure' (fM.2 rfl)
def H_(x y:aj):Prop:=(∃k a,x=.int k a)/\(∃k a,y=.int k a)
def H'(x y:aj):Prop:=(∃a,x=aB a)/\(∃a,y=aB a)
def Nj{k:IntKind}{n:Int}(h:RV β x (.int k n)):x=.int k n:=by
 cases x
 case int=>obtain e:=cO.1 h;exact e.symm
 case bool=>have:=fM.1 h;cases this
 case float=>exact(tj.1 h).elim
 case complex=>exact(tq.1 h).elim
 case string=>have:=jg.1 h;cases this
 case pointer=>obtain⟨_,e,_⟩:=gW.1 h;cases e
 case slice=>obtain⟨_,e,_⟩:=gX.1 h;cases e
 case map=>obtain⟨_,e,_⟩:=oc.1 h;cases e
 case chan=>obtain⟨_,e⟩:=rH.1 h;cases e
 case func=>obtain⟨_,_,_,e,_⟩:=pR.1 h;cases e
 case nilFunc=>have:=pQ.1 h;cases this
 case iface=>obtain⟨_,e,_⟩:=jh.1 h;cases e
 case nilIface=>have:=lA.1 h;cases this
 case agg=>obtain⟨_,e,_⟩:=gH.1 h;cases e
 case tuple=>obtain⟨_,e,_⟩:=iW.1 h;cases e
def Nk{n:ByteArray}(h:RV β x (aB n)):x=aB n:=by
 cases x
 case int=>have:=cO.1 h;cases this
 case bool=>have:=fM.1 h;cases this
 case float=>exact(tj.1 h).elim
 case complex=>exact(tq.1 h).elim
 case string=>obtain e:=jg.1 h;exact e.symm
 case pointer=>obtain⟨_,e,_⟩:=gW.1 h;cases e
 case slice=>obtain⟨_,e,_⟩:=gX.1 h;cases e
 case map=>obtain⟨_,e,_⟩:=oc.1 h;cases e
 case chan=>obtain⟨_,e⟩:=rH.1 h;cases e
 case func=>obtain⟨_,_,_,e,_⟩:=pR.1 h;cases e
 case nilFunc=>have:=pQ.1 h;cases this
 case iface=>obtain⟨_,e,_⟩:=jh.1 h;cases e
 case nilIface=>have:=lA.1 h;cases this
 case agg=>obtain⟨_,e,_⟩:=gH.1 h;cases e
 case tuple=>obtain⟨_,e,_⟩:=iW.1 h;cases e
def Ia:aj->Prop
 |.float ..=>False
 |.complex ..=>False
 |_=>True
def Nl(h:RV β x y):Ia x/\Ia y:=by
 cases x
 case int=>obtain rfl:=cO.1 h;exact⟨trivial,trivial⟩
 case bool=>obtain rfl:=fM.1 h;exact⟨trivial,trivial⟩
 case float=>exact(tj.1 h).elim
 case complex=>exact(tq.1 h).elim
 case string=>obtain rfl:=jg.1 h;exact⟨trivial,trivial⟩
 case pointer=>obtain⟨_,rfl,_⟩:=gW.1 h;exact⟨trivial,trivial⟩
 case slice=>obtain⟨_,rfl,_⟩:=gX.1 h;exact⟨trivial,trivial⟩
 case map=>obtain⟨_,rfl,_⟩:=oc.1 h;exact⟨trivial,trivial⟩
 case chan=>obtain⟨_,rfl⟩:=rH.1 h;exact⟨trivial,trivial⟩
 case func=>obtain⟨_,_,_,rfl,_⟩:=pR.1 h;exact⟨trivial,trivial⟩
 case nilFunc=>obtain rfl:=pQ.1 h;exact⟨trivial,trivial⟩
 case iface=>obtain⟨_,rfl,_⟩:=jh.1 h;exact⟨trivial,trivial⟩
 case nilIface=>obtain rfl:=lA.1 h;exact⟨trivial,trivial⟩
 case agg=>obtain⟨_,rfl,_⟩:=gH.1 h;exact⟨trivial,trivial⟩
 case tuple=>obtain⟨_,rfl,_⟩:=iW.1 h;exact⟨trivial,trivial⟩
def binOp_eql(t:TypeId)(hf:Ia x)(h1:¬H_ x y)(h2:¬H' x y):binOp .eql t x y=(Op.equal t x y >>= λb=>pure (aJ b))/\binOp .neq t x y=(Op.equal t x y >>= λb=>pure (aJ (!b))):=by
 cases x<;>first|exact hf.elim|skip
 case int=>cases y<;>first|exact⟨rfl,rfl⟩|exact absurd ⟨⟨_,_,rfl⟩,_,_,rfl⟩ h1
 case string=>cases y<;>first|exact⟨rfl,rfl⟩|exact absurd ⟨⟨_,rfl⟩,_,rfl⟩ h2
 all_goals exact⟨rfl,rfl⟩
def WJ(op:BinOp)(t:TypeId)(hg:β.g=P.globals.size)(hx:RV β x x')(hy:RV β y y'):ai P β (binOp op t x y) (binOp op t x' y') RV:=by
 by_cases hi:H_ x y
 ·obtain⟨⟨k,a,rfl⟩,k',b,rfl⟩:=hi;obtain rfl:=cO.1 hx;obtain rfl:=cO.1 hy;exact WB op t k k' a b β
 by_cases hs:H' x y
 ·obtain⟨⟨a,rfl⟩,b,rfl⟩:=hs;obtain rfl:=jg.1 hx;obtain rfl:=jg.1 hy;have e:binOp op t (aB a) (aB b)=Op.stringOp op a b:=by cases op<;>rfl
  rw[e];exact WA op a b β
 have hi':¬H_ x' y':=by
  rintro⟨⟨k,a,rfl⟩,k',b,rfl⟩;exact hi ⟨⟨k,a,Nj hx⟩,k',b,Nj hy⟩
 have hs':¬H' x' y':=by
  rintro⟨⟨a,rfl⟩,b,rfl⟩;exact hs ⟨⟨a,Nk hx⟩,b,Nk hy⟩
 have e1:=binOp_eql t (Nl hx).1 hi hs;have e2:=binOp_eql t (Nl hx).2 hi' hs'
 by_cases hq:op=.eql
 ·subst hq;rw[e1.1,e2.1];exact Ni t hg hx hy id
 by_cases qH:op=.neq
 ·subst qH;rw[e1.2,e2.2];exact Ni t hg hx hy not
 clear e1 e2 hi' hs';have pI:∀{a a':Option av} {k:IntKind} {n:Int},fT β a a'->ai P β (binOp op t (ax a) (.int k n)) (binOp op t (ax a') (.int k n)) RV:=by
  intro a a' k n ha;have hk:RV β (.int k n) (.int k n):=cO.2 rfl
  cases op<;>first|exact ai.hlt (aQ.halt _)|exact absurd rfl hq|exact absurd rfl qH|(cases a<;>exact ai.hlt (aQ.halt _))|skip
  case add=>
   refine ai.bind' (fU t) λβ1 d _ l1 ⟨e,_⟩=>?_
   subst e;have A:=H7 (P:=P) t (ha.mono l1) (hk.mono l1);have B:ai P β1 (movedPointer t (ax a) (.int k n)) (movedPointer t (ax a') (.int k n)) RV:=by
    cases a with
    |none=>cases ha;unfold movedPointer;simp only;rw[Eu];exact Nd _ (hk.mono l1)
    |some a=>obtain⟨a',rfl,ha⟩:=ha;exact WE t (ha.mono l1) (hk.mono l1)
   cases d<;>first|exact A|exact B
  case sub=>exact H7 t ha (cO.2 rfl)
  case rem=>cases a with
   |none=>exact ai.hlt (aQ.halt _)
   |some a=>obtain⟨a',rfl,ha⟩:=ha;exact H9 ha k n
  case and=>cases a with
   |none=>exact ai.hlt (aQ.halt _)
   |some a=>obtain⟨a',rfl,ha⟩:=ha;exact H9 ha k (n+1)
 have iP:∀{a a':Option av} {k:IntKind} {n:Int},fT β a a'->ai P β (binOp op t (.int k n) (ax a)) (binOp op t (.int k n) (ax a')) RV:=by
  intro a a' k n ha;have hk:RV β (.int k n) (.int k n):=cO.2 rfl
  cases op<;>first|exact ai.hlt (aQ.halt _)|exact absurd rfl hq|exact absurd rfl qH|(cases a<;>exact ai.hlt (aQ.halt _))|skip
  case add=>exact H7 t ha hk
  case and=>cases a with
   |none=>exact ai.hlt (aQ.halt _)
   |some a=>obtain⟨a',rfl,ha⟩:=ha;exact H9 ha k (n+1)
 have pP:∀{a a' b b':Option av},fT β a a'->fT β b b'->ai P β (binOp op t (ax a) (ax b)) (binOp op t (ax a') (ax b')) RV:=by
  intro a a' b b' ha hb
  cases a with
  |none=>cases op<;>first|exact ai.hlt (aQ.halt _)|exact absurd rfl hq|exact absurd rfl qH|(cases b<;>exact ai.hlt (aQ.halt _))
  |some a=>
   obtain⟨a',rfl,ha⟩:=ha
   cases b with
   |none=>cases op<;>first|exact ai.hlt (aQ.halt _)|exact absurd rfl hq|exact absurd rfl qH
   |some b=>
    obtain⟨b',rfl,hb⟩:=hb
    cases op<;>first|exact ai.hlt (aQ.halt _)|exact absurd rfl hq|exact absurd rfl qH|exact WH hg ha hb|exact WI _ hg ha hb
 cases x<;>first|exact(tj.1 hx).elim|exact(tq.1 hx).elim|skip
 case int k n=>
  obtain rfl:=cO.1 hx
  cases y<;>first|exact absurd ⟨⟨_,_,rfl⟩,_,_,rfl⟩ hi|skip
  case pointer=>obtain⟨b',rfl,hb⟩:=gW.1 hy;exact iP hb
  all_goals (cases op<;>first|exact ai.hlt (aQ.halt _)|exact absurd rfl hq|exact absurd rfl qH)
 case pointer a=>
  obtain⟨a',rfl,ha⟩:=gW.1 hx
  cases y
  case int=>obtain rfl:=cO.1 hy;exact pI ha
  case pointer=>obtain⟨b',rfl,hb⟩:=gW.1 hy;exact pP ha hb
  all_goals (cases op<;>first|exact ai.hlt (aQ.halt _)|exact absurd rfl hq|exact absurd rfl qH|(cases a<;>exact ai.hlt (aQ.halt _)))
 case string=>
  cases y<;>first|exact absurd ⟨⟨_,rfl⟩,_,rfl⟩ hs|skip
  all_goals (cases op<;>first|exact ai.hlt (aQ.halt _)|exact absurd rfl hq|exact absurd rfl qH)
 all_goals (cases op<;>first|exact absurd rfl hq|exact absurd rfl qH|(cases y<;>first|exact ai.hlt (aQ.halt _)|(rename_i b;cases b<;>exact ai.hlt (aQ.halt _))))
end
section
variable {P:Program}{β:aK}{α α' γ γ':Type}{Q:aK->α->α'->Prop}{S:aK->γ->γ'->Prop}
def RV.ways(h:RV β x y):(∃b,x=aJ b/\y=aJ b)\/(∃k n,x=.int k n/\y=.int k n)\/(∃s,x=aB s/\y=aB s) \/
  (∃a a',x=ax a/\y=ax a'/\fT β a a')\/(∃a a' l c,x=ak a l c/\y=ak a' l c/\fT β a a')\/(∃r r',x=.map r/\y=.map r'/\lz β r r') \/
  (x=.chan J/\y=.chan J)\/(∃f xs ys us vs,x=.func f xs us/\y=.func f ys vs/\zZ β f/\RL β xs ys/\RL β us vs)\/(x=.nilFunc/\y=.nilFunc) \/
  (∃t v v',x=.iface t v/\y=.iface t v'/\RV β v v')\/(x=.nilIface/\y=.nilIface)\/(∃xs ys,x=.agg xs/\y=.agg ys/\RL β xs ys)\/(∃xs ys,x=aX xs/\y=aX ys/\RL β xs ys):=by
 cases x
 case bool b=>exact .inl ⟨b,rfl,fM.1 h⟩
 case int k n=>exact .inr (.inl ⟨k,n,rfl,cO.1 h⟩)
 case float=>exact(tj.1 h).elim
 case complex=>exact(tq.1 h).elim
 case string s=>exact .inr (.inr (.inl ⟨s,rfl,jg.1 h⟩))
 case pointer a=>obtain⟨a',e,k⟩:=gW.1 h;exact .inr (.inr (.inr (.inl ⟨a,a',rfl,e,k⟩)))
 case slice a l c=>obtain⟨a',e,k⟩:=gX.1 h;exact .inr (.inr (.inr (.inr (.inl ⟨a,a',l,c,rfl,e,k⟩))))
 case map r=>obtain⟨a',e,k⟩:=oc.1 h;exact .inr (.inr (.inr (.inr (.inr (.inl ⟨r,a',rfl,e,k⟩)))))
 case chan r=>obtain⟨rfl,e⟩:=rH.1 h;exact .inr (.inr (.inr (.inr (.inr (.inr (.inl ⟨rfl,e⟩))))))
 case func f xs us=>obtain⟨o,ys,vs,e,k,l⟩:=pR.1 h;exact .inr (.inr (.inr (.inr (.inr (.inr (.inr (.inl ⟨f,xs,ys,us,vs,rfl,e,o,k,l⟩)))))))
 case nilFunc=>exact .inr (.inr (.inr (.inr (.inr (.inr (.inr (.inr (.inl ⟨rfl,pQ.1 h⟩))))))))
 case iface t v=>obtain⟨v',e,k⟩:=jh.1 h;exact .inr (.inr (.inr (.inr (.inr (.inr (.inr (.inr (.inr (.inl ⟨t,v,v',rfl,e,k⟩)))))))))
 case nilIface=>exact .inr (.inr (.inr (.inr (.inr (.inr (.inr (.inr (.inr (.inr (.inl ⟨rfl,lA.1 h⟩))))))))))
 case agg xs=>obtain⟨ys,e,k⟩:=gH.1 h;exact .inr (.inr (.inr (.inr (.inr (.inr (.inr (.inr (.inr (.inr (.inr (.inl ⟨xs,ys,rfl,e,k⟩)))))))))))
 case tuple xs=>obtain⟨ys,e,k⟩:=iW.1 h;exact .inr (.inr (.inr (.inr (.inr (.inr (.inr (.inr (.inr (.inr (.inr (.inr ⟨xs,ys,rfl,e,k⟩)))))))))))
def Nn:∀(d:Nat) {β:aK} (t:TypeId) {x y x' y':aj},RV β x x'->RV β y y'->ai P β (Op.eqGuardIn d t x y) (Op.eqGuardIn d t x' y') (λ_ a b=>a=b)
 |0,_,_,_,_,_,_,_,_=>ai.unsupported
 |d+1,β,t,x,y,x',y',hx,hy=>by
  rw[Op.eqGuardIn.eq_2,Op.eqGuardIn.eq_2]
  refine ai.bind' (fU t) λβ1 dd dd' le ⟨e,_⟩=>?_
  subst e;replace hx:=hx.mono le
  replace hy:=hy.mono le
  clear le;have loop:∀{β1 β2:aK} (_:β1.le β2) (tt:TypeId) (off:Nat) {xs ys xs' ys':Array aj} (_:RL β1 xs xs') (_:RL β1 ys ys'),
    ai P β2 (do
     let u <- part tt xs off
     let w <- part tt ys off
     let r <- Op.eqGuardIn d tt u w
     if r=true then pure (ForInStep.done (U true,()))else pure (ForInStep.yield (J,())))
    (do
     let u <- part tt xs' off
     let w <- part tt ys' off
     let r <- Op.eqGuardIn d tt u w
     if r=true then pure (ForInStep.done (U true,()))else pure (ForInStep.yield (J,()))) (B5 (γ:=Option Bool×Unit) (γ':=Option Bool×Unit) λ_ a b=>a=b):=by
   intro β1 β2 le tt off xs ys xs' ys' h1 h2
   refine ai.bind' (uS (RL.mono le h1) tt off) λβ3 u u' l3 ku=>?_
   refine ai.bind' (uS (RL.mono l3 (RL.mono le h2)) tt off) λβ4 z z' l4 kz=>?_
   refine ai.bind' (Nn d tt (ku.mono l4) kz) λβ5 r r' _ e=>?_
   subst e
   cases r
   ·exact ai.pure' ⟨_,rfl,rfl⟩
   exact ai.pure' ⟨_,rfl,rfl⟩
  cases dd with
  |interface ms=>
   rcases hx.ways with⟨b,rfl,rfl⟩|⟨k,n,rfl,rfl⟩|⟨s,rfl,rfl⟩|⟨a,a',rfl,rfl,ha⟩|⟨a,a',l,c,rfl,rfl,ha⟩|⟨r,r',rfl,rfl,hr⟩|⟨rfl,rfl⟩|⟨f,xs,ys,us,vs,rfl,rfl,_⟩|⟨rfl,rfl⟩|⟨t,v,v',rfl,rfl,hv⟩|⟨rfl,rfl⟩|⟨xs,ys,rfl,rfl,hl⟩|⟨xs,ys,rfl,rfl,hl⟩<;>first|exact ai.pure' rfl|skip
   rcases hy.ways with⟨b,rfl,rfl⟩|⟨k,n,rfl,rfl⟩|⟨s,rfl,rfl⟩|⟨a,a',rfl,rfl,ha⟩|⟨a,a',l,c,rfl,rfl,ha⟩|⟨r,r',rfl,rfl,hr⟩|⟨rfl,rfl⟩|⟨f,xs,ys,us,vs,rfl,rfl,_⟩|⟨rfl,rfl⟩|⟨t,v,v',rfl,rfl,hv⟩|⟨rfl,rfl⟩|⟨xs,ys,rfl,rfl,hl⟩|⟨xs,ys,rfl,rfl,hl⟩<;>exact ai.pure' rfl
  |struct fs=>
   rcases hx.ways with⟨b,rfl,rfl⟩|⟨k,n,rfl,rfl⟩|⟨s,rfl,rfl⟩|⟨a,a',rfl,rfl,ha⟩|⟨a,a',l,c,rfl,rfl,ha⟩|⟨r,r',rfl,rfl,hr⟩|⟨rfl,rfl⟩|⟨f,xs,ys,us,vs,rfl,rfl,_⟩|⟨rfl,rfl⟩|⟨t,v,v',rfl,rfl,hv⟩|⟨rfl,rfl⟩|⟨xs,ys,rfl,rfl,h1⟩|⟨xs,ys,rfl,rfl,h1⟩<;>first|exact ai.pure' rfl|skip
   rcases hy.ways with⟨b,rfl,rfl⟩|⟨k,n,rfl,rfl⟩|⟨s,rfl,rfl⟩|⟨a,a',rfl,rfl,ha⟩|⟨a,a',l,c,rfl,rfl,ha⟩|⟨r,r',rfl,rfl,hr⟩|⟨rfl,rfl⟩|⟨f,xs,ys,us,vs,rfl,rfl,_⟩|⟨rfl,rfl⟩|⟨t,v,v',rfl,rfl,hv⟩|⟨rfl,rfl⟩|⟨us,vs,rfl,rfl,h2⟩|⟨us,vs,rfl,rfl,h2⟩<;>first|exact ai.pure' rfl|skip
   refine ai.bind' (H4 (R:=λ_ a b=>a=b) (λβ2 f b b' le e=>?_) rfl) λβ2 s s' _ e=>?_
   ·split
    ·exact loop le f.type f.offset h1 h2
    exact ai.pure' ⟨_,rfl,rfl⟩
   subst e;obtain⟨s1,s2⟩:=s;cases s1<;>exact ai.pure' rfl
  |array len el=>
   rcases hx.ways with⟨b,rfl,rfl⟩|⟨k,n,rfl,rfl⟩|⟨s,rfl,rfl⟩|⟨a,a',rfl,rfl,ha⟩|⟨a,a',l,c,rfl,rfl,ha⟩|⟨r,r',rfl,rfl,hr⟩|⟨rfl,rfl⟩|⟨f,xs,ys,us,vs,rfl,rfl,_⟩|⟨rfl,rfl⟩|⟨t,v,v',rfl,rfl,hv⟩|⟨rfl,rfl⟩|⟨xs,ys,rfl,rfl,h1⟩|⟨xs,ys,rfl,rfl,h1⟩<;>first|exact ai.pure' rfl|skip
   rcases hy.ways with⟨b,rfl,rfl⟩|⟨k,n,rfl,rfl⟩|⟨s,rfl,rfl⟩|⟨a,a',rfl,rfl,ha⟩|⟨a,a',l,c,rfl,rfl,ha⟩|⟨r,r',rfl,rfl,hr⟩|⟨rfl,rfl⟩|⟨f,xs,ys,us,vs,rfl,rfl,_⟩|⟨rfl,rfl⟩|⟨t,v,v',rfl,rfl,hv⟩|⟨rfl,rfl⟩|⟨us,vs,rfl,rfl,h2⟩|⟨us,vs,rfl,rfl,h2⟩<;>first|exact ai.pure' rfl|skip
   refine ai.bind' (lS el) λβ2 n _ le e=>?_
   subst e
   refine ai.bind' (H5 (R:=λ_ a b=>a=b) (λβ3 i b b' yf e=>loop (le.trans yf) el (i*n) h1 h2) rfl) λβ2 s s' _ e=>?_
   subst e;obtain⟨s1,s2⟩:=s;cases s1<;>exact ai.pure' rfl
  |_=>exact ai.pure' rfl
def WK(op:BinOp)(t:TypeId)(p q:Operand)(hx:RV β x x')(hy:RV β y y'):ai P β (eqGuard op t p q x y) (eqGuard op t p q x' y') (λ_ _ _=>True):=by
 have inner:∀{β:aK} {x y x' y':aj} (u:Unsupported),mJ (.unsupported u)->RV β x x'->RV β y y'->ai P β (Op.eqGuardIn Op.maxDepth t x y >>= λb=>if b=true then unsupported u else pure ()) (Op.eqGuardIn Op.maxDepth t x' y' >>= λb=>if b=true then unsupported u else pure ()) (λ_ _ _=>True):=by
  intro β x y x' y' u hu hx hy
  refine ai.bind' (Nn _ t hx hy) λβ2 b _ _ e=>?_
  subst e
  cases b
  ·exact ai.pure' trivial
  exact ai.unsupported hu
 unfold eqGuard
 rcases hx.ways with⟨b,rfl,rfl⟩|⟨k,n,rfl,rfl⟩|⟨s,rfl,rfl⟩|⟨a,a',rfl,rfl,ha⟩|⟨a,a',l,c,rfl,rfl,ha⟩|⟨r,r',rfl,rfl,hr⟩|⟨rfl,rfl⟩|⟨f,xs,ys,us,vs,rfl,rfl,_⟩|⟨rfl,rfl⟩|⟨t,v,v',rfl,rfl,hv⟩|⟨rfl,rfl⟩|⟨xs,ys,rfl,rfl,h1⟩|⟨xs,ys,rfl,rfl,h1⟩<;>first|(cases op<;>exact ai.pure' trivial)|skip
 ·rcases hy.ways with⟨b,rfl,rfl⟩|⟨k,n,rfl,rfl⟩|⟨s,rfl,rfl⟩|⟨a,a',rfl,rfl,ha⟩|⟨a,a',l,c,rfl,rfl,ha⟩|⟨r,r',rfl,rfl,hr⟩|⟨rfl,rfl⟩|⟨f,xs,ys,us,vs,rfl,rfl,_⟩|⟨rfl,rfl⟩|⟨t,v,v',rfl,rfl,hv⟩|⟨rfl,rfl⟩|⟨xs,ys,rfl,rfl,h1⟩|⟨xs,ys,rfl,rfl,h1⟩<;>first|(cases op<;>exact ai.pure' trivial)|skip
  have e:∀(c:Bool), ai P β (if c=true then pure ()else Op.eqGuardIn Op.maxDepth t .nilIface .nilIface >>= λb=>if b=true then unsupported (.noEntry "binop/eql: two nil values of an interface type with methods, neither of them the literal nil")else pure ()) (if c=true then pure ()else Op.eqGuardIn Op.maxDepth t .nilIface .nilIface >>= λb=>if b=true then unsupported (.noEntry "binop/eql: two nil values of an interface type with methods, neither of them the literal nil")else pure ()) (λ_ _ _=>True):=by
   intro c
   cases c
   ·exact inner _ trivial hx hy
   exact ai.pure' trivial
  cases op<;>first|exact ai.pure' trivial|exact e _
 ·rcases hy.ways with⟨b,rfl,rfl⟩|⟨k,n,rfl,rfl⟩|⟨s,rfl,rfl⟩|⟨a,a',rfl,rfl,ha⟩|⟨a,a',l,c,rfl,rfl,ha⟩|⟨r,r',rfl,rfl,hr⟩|⟨rfl,rfl⟩|⟨f,xs,ys,us,vs,rfl,rfl,_⟩|⟨rfl,rfl⟩|⟨t,v,v',rfl,rfl,hv⟩|⟨rfl,rfl⟩|⟨Np,Nq,rfl,rfl,h2⟩|⟨Np,Nq,rfl,rfl,h2⟩<;>first|(cases op<;>exact ai.pure' trivial)|skip
  have e:ai P β (program >>= λp=>program >>= λq=>if (!p.eqGuardType q.depth t)=true then pure ()else Op.eqGuardIn Op.maxDepth t (.agg xs) (.agg Np) >>= λb=>if b=true then unsupported (.noEntry "binop/eql: two nil values of an interface type with methods, in a part of a struct or an array")else pure ()) (program >>= λp=>program >>= λq=>if (!p.eqGuardType q.depth t)=true then pure ()else Op.eqGuardIn Op.maxDepth t (.agg ys) (.agg Nq) >>= λb=>if b=true then unsupported (.noEntry "binop/eql: two nil values of an interface type with methods, in a part of a struct or an array")else pure ()) (λ_ _ _=>True):=by
   refine ai.prog (ai.prog ?_)
   split
   ·exact ai.pure' trivial
   exact inner _ trivial hx hy
  cases op<;>first|exact ai.pure' trivial|exact e
def WL(op:UnOp)(hx:RV β x x'):ai P β (Op.unary op x) (Op.unary op x') RV:=by
 rcases hx.ways with⟨b,rfl,rfl⟩|⟨k,n,rfl,rfl⟩|⟨s,rfl,rfl⟩|⟨a,a',rfl,rfl,ha⟩|⟨a,a',l,c,rfl,rfl,ha⟩|⟨r,r',rfl,rfl,hr⟩|⟨rfl,rfl⟩|⟨f,xs,ys,us,vs,rfl,rfl,_⟩|⟨rfl,rfl⟩|⟨t,v,v',rfl,rfl,hv⟩|⟨rfl,rfl⟩|⟨xs,ys,rfl,rfl,h1⟩|⟨xs,ys,rfl,rfl,h1⟩<;>cases op<;>first|exact ai.hlt (aQ.halt _)|exact ai.pure' (fM.2 rfl)|exact Na .sub k 0 n β|exact Nb .xor k (if k.signed then -1 else k.max) n β|(cases a<;>exact ai.hlt (aQ.halt _))
end
section
variable {P:Program}{β:aK}{α α' γ γ':Type}{Q:aK->α->α'->Prop}{S:aK->γ->γ'->Prop}
def ai.wK{a:α}{a':α'}{f:α->Sem γ}{f':α'->Sem γ'}(h:ai P β (f a) (f' a') S):ai P β (Pure.pure a >>= f) (Pure.pure a' >>= f') S:=h
def rN(h:RA β a a'):RV β (ax (U a)) (ax (U a')):=gW.2 ⟨_,rfl,_,rfl,h⟩
def wL{l c:Nat}(h:RA β a a'):RV β (ak (U a) l c) (ak (U a') l c):=gX.2 ⟨_,rfl,_,rfl,h⟩
def WM(h:tu P t=true):ai P β (Instr.alloc t true (aX #[])) (Instr.alloc t true (aX #[])) RV:=by
 unfold Instr.alloc
 refine ai.bind' (ye h) λβ1 z z' _ k=>?_
 exact ai.bind' (Hy k t) λβ2 a a' _ k=>ai.pure' (rN k.1)
def WN(h:RV β x x'):ai P β (Instr.box t x) (Instr.box t x') RV:=by
 unfold Instr.box;exact ai.bind' (Hy h t) λβ2 a a' _ k=>ai.pure' (rN k.1)
def WO(h:RV β x x'):ai P β (Instr.loadAt t x) (Instr.loadAt t x') RV:=by
 unfold Instr.loadAt;exact ai.bind' (B3 h) λβ2 a a' _ k=>wI k t
def WQ(h:RV β x x')(k:RV β y y'):ai P β (Instr.storeAt t x y) (Instr.storeAt t x' y') (λ_ _ _=>True):=by
 unfold Instr.storeAt;exact ai.bind' (B3 h) λβ2 a a' le q=>En q (k.mono le) t
def Ib(P:Program)(s:TypeId)(i:Nat):Bool:=match P.underlying s with
 |some (.struct fs)=>match fs[i]? with
  |some f=>match P.info? f.type with
   |some ti=>ti.size != 0
   |none=>true
  |none=>true
 |_=>true
def WR(hf:Ib P s i=true)(h:RV β x x'):ai P β (Instr.fieldAt s x i) (Instr.fieldAt s x' i) RV:=by
 unfold Instr.fieldAt
 refine ai.bind' (fU s) λβ1 d _ l1 ⟨e,hu⟩=>?_
 subst e;obtain⟨fs,rfl⟩|hd:(∃fs,d=.struct fs)\/∀fs,d≠.struct fs:=by
  cases d<;>first|exact .inl ⟨_,rfl⟩|exact .inr λ_ h=>(by cases h)
 case inr=>cases d<;>first|exact ai.stuck|exact absurd rfl (hd _)
 simp only;unfold Ib at hf;rw[hu]at hf;simp only at hf
 cases hi:fs[i]? with
 |none=>exact ai.stuck
 |some f=>
  rw[hi]at hf;simp only at hf⊢
  refine ai.bind' (B3 (h.mono l1)) λβ2 a a' l2 k=>?_
  have key:ai P β2 (fieldPlace a f) (fieldPlace a' f) (λβ' a a'=>RA β' a a'):=by
   unfold fieldPlace sizeOf
   refine ai.bind' (ai.bind' (pS f.type) λβ3 ti _ l3 ⟨e,ht⟩=>ai.pure' (Q:=λ_ n m=>n=m/\n≠0) ?_) λβ3 n m l3 ⟨e,hn⟩=>?_
   ·subst e;rw[ht]at hf;exact⟨rfl,by simpa using hf⟩
   subst e;rw[aF hn,aF hn];exact ai.pure' ((k.mono l3).add _)
  exact ai.bind' key λβ3 a a' _ k=>ai.pure' (rN k)
def WT(h:RV β x x'):ai P β (Instr.field s x i) (Instr.field s x' i) RV:=by
 unfold Instr.field
 refine ai.bind' (fU s) λβ1 d _ l1 ⟨e,hu⟩=>?_
 subst e;obtain⟨fs,rfl⟩|hd:(∃fs,d=.struct fs)\/∀fs,d≠.struct fs:=by
  cases d<;>first|exact .inl ⟨_,rfl⟩|exact .inr λ_ h=>(by cases h)
 case inr=>cases d<;>first|exact ai.stuck|exact absurd rfl (hd _)
 simp only
 cases hi:fs[i]? with
 |none=>exact ai.stuck
 |some f=>exact ai.bind' (Wn (h.mono l1)) λβ2 a a' l2 k=>uS k _ _
def aQ.bounds(k:IntKind)(x y:Int)(c:BoundsCode):aQ P (boundsPanic k x y c:Sem α):=by
 have h:∀b:Bool,aQ P (Go.runtimePanic (.bounds (IntKind.i64.wrap x) y b c):Sem α):=λb=>aQ.runtimePanic _
 unfold Go.boundsPanic
 split
 ·intro K v
  refine Mw.bind _ _ v ?_;show Mw P _ (.choose _ _) v
  simp only[Mw]
  split
  ·exact h ((0:Nat)==1) K v
  exact⟨0,h _ K { v with drawn:=v.drawn+1 }⟩
 exact λK v=>h (k != .u64) K v
def WU(h:RV β x x')(k:RV β y y'):ai P β (Instr.index t x y) (Instr.index t x' y') RV:=by
 unfold Instr.index
 refine ai.bind' (Eo k) λβ1 p _ l1 ⟨e,_⟩=>?_
 subst e;obtain⟨kk,i⟩:=p
 refine ai.bind' (fU t) λβ2 d _ l2 ⟨e,hu⟩=>?_
 subst e;replace h:=(h.mono l1).mono l2
 cases d<;>try exact ai.stuck
 case string=>
  cases x<;>try exact ai.stuck
  obtain rfl:=jg.1 h;simp only
  split
  ·exact ai.pure' (cO.2 rfl)
  exact ai.hlt (aQ.bounds _ _ _ _)
 case array=>
  rename_i len el _
  cases x<;>try exact ai.stuck
  obtain⟨ys,rfl,hl⟩:=gH.1 h;simp only
  split
  ·refine ai.bind' (lS el) λβ3 n _ l3 e=>?_
   subst e;exact uS (RL.mono l3 hl) _ _
  exact ai.hlt (aQ.bounds _ _ _ _)
def WV(h:RV β x x')(k:RV β y y'):ai P β (Instr.indexAt t x y) (Instr.indexAt t x' y') RV:=by
 unfold Instr.indexAt
 refine ai.bind' (Eo k) λβ1 p _ l1 ⟨e,_⟩=>?_
 subst e;obtain⟨kk,i⟩:=p;simp only
 refine ai.bind' (fU t) λβ2 d _ l2 ⟨e,hu⟩=>?_
 subst e;replace h:=(h.mono l1).mono l2
 cases d<;>try exact ai.stuck
 case array=>
  refine ai.bind' (B3 h) λβ3 a a' l3 q=>?_
  refine ai.wK ?_
  refine ai.bind' (fU t) λβ4 d4 _ l4 ⟨e,hu⟩=>?_
  subst e;have h1:=q.mono l4;simp only
  split
  ·refine ai.bind' (lS _) λβ5 n _ l5 e=>?_
   subst e;exact ai.pure' (rN ((h1.mono l5).add _))
  ·refine ai.hlt ?_
   have hb:∀(c:Bool) (m:Int), aQ P (if c=true then unsupported (.noEntry "op/indexAddr.an index out of range at an array of length 0 or 1 (ledger 616)")else boundsPanic kk i m .index:Sem aj):=λc m=>by
    cases c
    ·exact aQ.bounds _ _ _ _
    exact aQ.halt _
   exact hb _ _
 case slice=>
  cases x<;>try exact ai.stuck
  rename_i b _ _;obtain⟨b',rfl,ha⟩:=gX.1 h
  refine ai.wK ?_
  refine ai.bind' (fU t) λβ4 d4 _ l4 ⟨e,hu⟩=>?_
  subst e
  cases b with
  |none=>cases ha;exact ai.hlt (aQ.bounds _ _ _ _)
  |some a=>
  obtain⟨a',rfl,ha⟩:=ha;have h1:=ha.mono l4;simp only
  split
  ·refine ai.bind' (lS _) λβ5 n _ l5 e=>?_
   subst e;exact ai.pure' (rN ((h1.mono l5).add _))
  ·refine ai.hlt ?_
   have hb:∀(c:Bool) (m:Int), aQ P (if c=true then unsupported (.noEntry "op/indexAddr.an index out of range at an array of length 0 or 1 (ledger 616)")else boundsPanic kk i m .index:Sem aj):=λc m=>by
    cases c
    ·exact aQ.bounds _ _ _ _
    exact aQ.halt _
   exact hb _ _
def WW(h:RV β x x')(i:Nat):ai P β (Instr.extract x i) (Instr.extract x' i) RV:=by
 unfold Instr.extract
 cases x<;>try exact ai.stuck
 obtain⟨ys,rfl,hl⟩:=iW.1 h;simp only
 rcases hl.get i with⟨p,q⟩|⟨u,w,p,q,k⟩
 ·rw[p,q];exact ai.stuck
 rw[p,q];exact ai.pure' k
def WX(h:RV β x x'):ai P β (Instr.makeInterface t x) (Instr.makeInterface t x') RV:=by
 unfold Instr.makeInterface
 refine ai.bind' (fU t) λβ1 d _ l1 ⟨e,hu⟩=>?_
 subst e
 cases d<;>first|exact ai.stuck|exact ai.pure' (jh.2 ⟨_,rfl,h.mono l1⟩)
def WY:ai P β (Instr.makeMap t J) (Instr.makeMap t J) RV:=by
 unfold Instr.makeMap;exact ai.bind' (ai.newObj (o:=.map #[] 0) (o':=.map #[] 0) ⟨_,rfl,rfl,λi e e' h=>by simp at h⟩) λβ2 a a' _ k=>ai.pure' (oc.2 ⟨_,rfl,_,rfl,.inl k⟩)
def wM(P:Program)(t:TypeId):Bool:=match P.underlying t with
 |some (.slice e)=>tu P e
 |_=>true
def WZ:RV β default default:=fM.2 rfl
def RL.getElem!(h:RL β xs ys)(i:Nat):RV β (xs[i]!) (ys[i]!):=by
 rcases h.get i with⟨p,q⟩|⟨u,w,p,q,k⟩
 ·simp[Array.getElem!_eq_getD,pD,p,q,WZ]
 simp[Array.getElem!_eq_getD,pD,p,q,k]
def W7(hz:wM P t=true)(h:RV β x x')(k:RV β y y'):ai P β (Instr.makeSlice t x y) (Instr.makeSlice t x' y') RV:=by
 unfold Instr.makeSlice
 refine ai.bind' (fU t) λβ1 d _ l1 ⟨e,hu⟩=>?_
 subst e;obtain⟨el,rfl⟩|hd:(∃el,d=TypeDesc.slice el)\/∀el,d≠TypeDesc.slice el:=by
  cases d<;>first|exact .inl ⟨_,rfl⟩|exact .inr λ_ h=>(by cases h)
 case inr=>cases d<;>first|exact ai.stuck|exact absurd rfl (hd _)
 unfold wM at hz;rw[hu]at hz;simp only at hz;simp only
 refine ai.bind' (Ep (h.mono l1)) λβ2 n _ l2 e=>?_
 subst e
 refine ai.bind' (Ep ((k.mono l1).mono l2)) λβ3 m _ l3 e=>?_
 subst e
 refine ai.bind' (pS el) λβ4 i _ l4 ⟨e,_⟩=>?_
 subst e
 split
 ·refine ai.hlt ?_
  split
  ·exact aQ.bind (aQ.runtimePanic _)
  split
  ·exact aQ.bind (aQ.runtimePanic _)
  exact aQ.choose λn=>aQ.bind (aQ.runtimePanic _)
 refine ai.bind' (S:=RV) (Q:=λ_ _ _=>True) ?_ λβ5 _ _ l5 _=>?_
 ·unfold askRoom
  split
  ·exact ai.mark rfl (ai.pure trivial)
  exact ai.pure' trivial
 refine ai.bind' (lS el) λβ6 sz _ l6 e=>?_
 subst e;have fin:∀{β:aK} {zs zs':Array aj},RL β zs zs'->ai P β (newRow el ((Array.range ((IntKind.i64.wrap m).toNat*sz)).map (zs[·%zs.size]!)) >>= λa=>Pure.pure (Value.slice (U a) (IntKind.i64.wrap n).toNat (IntKind.i64.wrap m).toNat)) (newRow el ((Array.range ((IntKind.i64.wrap m).toNat*sz)).map (zs'[·%zs'.size]!)) >>= λa=>Pure.pure (Value.slice (U a) (IntKind.i64.wrap n).toNat (IntKind.i64.wrap m).toNat)) RV:=by
  intro β zs zs' hl
  refine ai.bind' (Ab (bh.Hr _ λi _=>?_) el) λβ7 a a' _ q=>ai.pure' (wL q.1)
  rw[<- hl.1];exact RL.getElem! hl _
 split
 ·exact fin bh.empty
 refine ai.bind' (ye hz) λβ7 z z' l7 q=>?_
 exact fin (xZ q)
end
section
variable {P:Program}{β:aK}{α α' γ γ':Type}{Q:aK->α->α'->Prop}{S:aK->γ->γ'->Prop}
def wN(β:aK):List (Nat×aj)->List (Nat×aj)->Prop
 |[],ys=>ys=[]
 |(i,x)::xs,ys=>∃y zs,ys=(i,y)::zs/\RV β x y/\wN β xs zs
def wN.mono{γ:aK}(h:β.le γ):∀{xs ys:List (Nat×aj)},wN β xs ys->wN γ xs ys
 |[],_,k=>k
 |(_,_)::_,_,⟨y,zs,e,a,b⟩=>⟨y,zs,e,a.mono h,b.mono h⟩
def Nr(f:Array aj->aj×Nat->Array aj)(xs:Array aj)(init:Array aj):xs.zipIdx.foldl f init=xs.toList.zipIdx.foldl f init:=by
 rw[<- Array.foldl_toList,Array.toList_zipIdx]
def Ns:∀(xs ys:List aj) (off k:Nat) {cs cs':Array aj},mM β xs ys->RL β cs cs' ->
  RL β ((xs.zipIdx k).foldl (λcs (p:aj×Nat)=>cs.setIfInBounds (off+p.2) p.1) cs) ((ys.zipIdx k).foldl (λcs (p:aj×Nat)=>cs.setIfInBounds (off+p.2) p.1) cs')
 |[],ys,off,k,cs,cs',h,hc=>by cases h;exact hc
 |x::xs,_,off,k,cs,cs',⟨y,zs,e,a,b⟩,hc=>by
  cases e
  simp only[List.zipIdx_cons,List.foldl_cons];exact Ns xs zs off (k+1) b (hc.set _ a)
def Ev(place:Nat->Option (Nat×Nat)):∀(ps qs:List (Nat×aj)) {cs cs':Array aj},wN β ps qs->RL β cs cs' ->
  (Instr.fill place cs ps=J/\Instr.fill place cs' qs=J)\/∃r r',Instr.fill place cs ps=U r/\Instr.fill place cs' qs=U r'/\RL β r r'
 |[],qs,cs,cs',h,hc=>by cases h;exact .inr ⟨cs,cs',rfl,rfl,hc⟩
 |(i,x)::ps,_,cs,cs',⟨y,zs,e,a,b⟩,hc=>by
  cases e
  have hl:=xZ a;simp only[Instr.fill]
  cases place i with
  |none=>exact .inl ⟨rfl,rfl⟩
  |some p=>
   simp only[<- hl.1,<- hc.1]
   split
   ·exact .inl ⟨rfl,rfl⟩
   rw[Nr,Nr];exact Ev place ps zs b (Ns _ _ _ 0 hl.toList hc)
def W8(fs:List Field):ai P β (fs.mapM λf=>do pure (f.offset,<- sizeOf f.type):Sem (List (Nat×Nat))) (fs.mapM λf=>do pure (f.offset,<- sizeOf f.type):Sem (List (Nat×Nat))) (λ_ x y=>x=y):=by
 induction fs generalizing β with
 |nil=>rw[List.mapM_nil];exact ai.pure' rfl
 |cons f fs ih=>
  rw[List.mapM_cons]
  refine ai.bind' (ai.bind' (lS f.type) λβ1 n _ _ e=>ai.pure' (Q:=λ_ x y=>x=y) (by rw[e])) λβ2 x _ _ e=>?_
  subst e
  refine ai.bind' ih λβ3 y _ _ e=>?_
  subst e;exact ai.pure' rfl
def W9(hz:tu P t=true)(h:wN β ps.toList qs.toList):ai P β (Instr.build t ps) (Instr.build t qs) RV:=by
 unfold Instr.build
 refine ai.bind' (ye hz) λβ1 z z' l1 kz=>?_
 refine ai.bind' (fU t) λβ2 d _ l2 ⟨e,_⟩=>?_
 subst e;have hc:=RL.mono l2 (xZ kz);replace h:=(h.mono l1).mono l2
 cases d<;>try exact ai.stuck
 case struct=>
  rename_i fs _ _;have hm:∀{β:aK},ai P β (fs.mapM λf=>do pure (f.offset,<- sizeOf f.type):Sem (Array (Nat×Nat))) (fs.mapM λf=>do pure (f.offset,<- sizeOf f.type):Sem (Array (Nat×Nat))) (λ_ x y=>x=y):=by
   intro β;rw[BX];exact ai.bind' (W8 fs.toList) λβ1 x _ _ e=>ai.pure' (by rw[e])
  refine ai.bind' hm λβ3 pl _ l3 e=>?_
  subst e
  rcases Ev (λi=>pl[i]?) _ _ (h.mono l3) (RL.mono l3 hc)with⟨p,q⟩|⟨r,r',p,q,k⟩
  ·simp only[p,q];exact ai.stuck
  simp only[p,q];exact ai.pure' (gH.2 ⟨_,rfl,k⟩)
 case array=>
  refine ai.bind' (lS _) λβ3 n _ l3 e=>?_
  subst e
  rcases Ev (λi=>U (i*n,n)) _ _ (h.mono l3) (RL.mono l3 hc)with⟨p,q⟩|⟨r,r',p,q,k⟩
  ·simp only[p,q];exact ai.stuck
  simp only[p,q];exact ai.pure' (gH.2 ⟨_,rfl,k⟩)
def W_(hz:wM P t=true)(len:Nat)(h:wN β ps.toList qs.toList):ai P β (Instr.buildSlice t len ps) (Instr.buildSlice t len qs) RV:=by
 unfold Instr.buildSlice
 refine ai.bind' (fU t) λβ1 d _ l1 ⟨e,hu⟩=>?_
 subst e;obtain⟨el,rfl⟩|hd:(∃el,d=TypeDesc.slice el)\/∀el,d≠TypeDesc.slice el:=by
  cases d<;>first|exact .inl ⟨_,rfl⟩|exact .inr λ_ h=>(by cases h)
 case inr=>cases d<;>first|exact ai.stuck|exact absurd rfl (hd _)
 unfold wM at hz;rw[hu]at hz;simp only at hz;simp only
 refine ai.bind' (lS el) λβ2 n _ l2 e=>?_
 subst e;replace h:=(h.mono l1).mono l2
 split
 ·exact ai.hlt (aQ.bind (aQ.halt _))
 have fin:∀{β3:aK} {zs zs':Array aj},β2.le β3->RL β3 zs zs'->(Instr.fill (λi=>U (i*n,n)) ((Array.range (len*n)).map (zs[·%zs.size]!)) ps.toList=J/\Instr.fill (λi=>U (i*n,n)) ((Array.range (len*n)).map (zs'[·%zs'.size]!)) qs.toList=J) \/
   ∃r r',Instr.fill (λi=>U (i*n,n)) ((Array.range (len*n)).map (zs[·%zs.size]!)) ps.toList=U r/\Instr.fill (λi=>U (i*n,n)) ((Array.range (len*n)).map (zs'[·%zs'.size]!)) qs.toList=U r'/\RL β3 r r':=by
  intro β3 zs zs' l3 hl;have hm:RL β3 ((Array.range (len*n)).map (zs[·%zs.size]!)) ((Array.range (len*n)).map (zs'[·%zs'.size]!)):=bh.Hr _ λi _=>by rw[<- hl.1];exact RL.getElem! hl _
  exact Ev (λi=>U (i*n,n)) _ _ (h.mono l3) hm
 split
 ·refine ai.wK ?_
  rcases fin β2.le_refl bh.empty with⟨p,q⟩|⟨r,r',p,q,k⟩
  ·simp only[p,q];exact ai.stuck
  simp only[p,q];exact ai.bind' (Ab k el) λβ7 a a' _ q=>ai.pure' (wL q.1)
 refine ai.bind' (ye hz) λβ3 z z' l3 q=>?_
 refine ai.wK ?_
 rcases fin l3 (xZ q)with⟨p,q⟩|⟨r,r',p,q,k⟩
 ·simp only[p,q];exact ai.stuck
 simp only[p,q];exact ai.bind' (Ab k el) λβ7 a a' _ q=>ai.pure' (wL q.1)
end
section
variable {P:Program}{β:aK}{α α' γ γ':Type}{Q:aK->α->α'->Prop}{S:aK->γ->γ'->Prop}
def oT(β:aK):Option aj->Option aj->Prop
 |none,y=>y=J
 |some a,y=>∃a',y=U a'/\RV β a a'
def oT.mono{γ:aK}(h:β.le γ):∀{a a':Option aj},oT β a a'->oT γ a a'
 |none,_,x=>x
 |some _,_,⟨a',e,x⟩=>⟨a',e,x.mono h⟩
def Ae(h:RV β x x')(y:Nat)(c:BoundsCode):ai P β (Instr.sliceBound x y c) (Instr.sliceBound x' y c) (λ_ a b=>a=b):=by
 unfold Instr.sliceBound
 refine ai.bind' (Eo h) λβ1 p _ l1 ⟨e,_⟩=>?_
 subst e;simp only
 split
 ·exact ai.pure' rfl
 exact ai.hlt (aQ.bounds _ _ _ _)
def Ew(b:Bool)(len cap:Nat)(hl:oT β l l')(hh:oT β h h')(hm:oT β m m'):ai P β (Instr.sliceBounds b len cap l h m) (Instr.sliceBounds b len cap l' h' m') (λ_ x y=>x=y):=by
 unfold Instr.sliceBounds
 cases m with
 |none=>
  cases hm
  refine ai.wK ?_
  cases h with
  |none=>
   cases hh
   refine ai.wK ?_
   cases l with
   |none=>cases hl;exact ai.pure' rfl
   |some l=>obtain⟨l',rfl,hl⟩:=hl;exact ai.bind' (Ae hl _ _) λ_ _ _ _ e=>by subst e;exact ai.pure' rfl
  |some h=>
   obtain⟨h',rfl,hh⟩:=hh
   refine ai.bind' (Ae hh _ _) λβ1 n _ l1 e=>?_
   subst e;replace hl:=hl.mono l1
   cases l with
   |none=>cases hl;exact ai.pure' rfl
   |some l=>obtain⟨l',rfl,hl⟩:=hl;exact ai.bind' (Ae hl _ _) λ_ _ _ _ e=>by subst e;exact ai.pure' rfl
 |some m=>
  obtain⟨m',rfl,hm⟩:=hm
  refine ai.bind' (Ae hm _ _) λβ1 n _ l1 e=>?_
  subst e;replace hl:=hl.mono l1
  replace hh:=hh.mono l1
  cases h with
  |none=>exact ai.hlt (aQ.bind (aQ.halt _))
  |some h=>
   obtain⟨h',rfl,hh⟩:=hh
   refine ai.bind' (Ae hh _ _) λβ1 n _ l1 e=>?_
   subst e;replace hl:=hl.mono l1
   cases l with
   |none=>cases hl;exact ai.pure' rfl
   |some l=>obtain⟨l',rfl,hl⟩:=hl;exact ai.bind' (Ae hl _ _) λ_ _ _ _ e=>by subst e;exact ai.pure' rfl
def Xa{a a':Option av}(h:fT β a a')(n:Nat)(c:Prop) [Decidable c]:fT β (if c then a else a.map (·.add n)) (if c then a' else a'.map (·.add n)):=by
 split
 ·exact h
 cases a with
 |none=>cases h;exact rfl
 |some a=>obtain⟨a',rfl,h⟩:=h;exact⟨_,rfl,h.add n⟩
def Nu(h:RA β a a')(n:Nat)(c:Prop) [Decidable c]:RA β (if c then a else a.add n) (if c then a' else a'.add n):=by
 split
 ·exact h
 exact h.add n
def Xb(hx:RV β x x')(hl:oT β l l')(hh:oT β h h')(hm:oT β m m'):ai P β (Instr.slice t x l h m) (Instr.slice t x' l' h' m') RV:=by
 unfold Instr.slice
 refine ai.bind' (fU t) λβ1 d _ l1 ⟨e,_⟩=>?_
 subst e;replace hl:=hl.mono l1
 replace hh:=hh.mono l1
 replace hm:=hm.mono l1
 replace hx:=hx.mono l1
 cases d<;>try exact ai.stuck
 case string=>
  cases x<;>try exact ai.stuck
  obtain rfl:=jg.1 hx;simp only
  cases m with
  |some m=>exact ai.hlt (aQ.bind (aQ.halt _))
  |none=>
   cases hm
   refine ai.bind' (Ew _ _ _ hl hh (show oT β1 J J from rfl)) λβ2 p _ l2 e=>?_
   subst e;exact ai.pure' (jg.2 rfl)
 case slice=>
  cases x<;>try exact ai.stuck
  obtain⟨a',rfl,ha⟩:=gX.1 hx
  refine ai.bind' (Ew _ _ _ hl hh hm) λβ2 p _ l2 e=>?_
  subst e
  refine ai.bind' (lS _) λβ3 n _ l3 e=>?_
  subst e;exact ai.pure' (gX.2 ⟨_,rfl,Xa ((ha.mono l2).mono l3) _ _⟩)
 case pointer=>
  refine ai.bind' (Er hx) λβ2 a a' l2 ha=>?_
  refine ai.bind' (fU _) λβ3 d _ l3 ⟨e,_⟩=>?_
  subst e
  cases d<;>try exact ai.stuck
  refine ai.bind' (Ew _ _ _ ((hl.mono l2).mono l3) ((hh.mono l2).mono l3) ((hm.mono l2).mono l3)) λβ4 p _ l4 e=>?_
  subst e
  refine ai.bind' (lS _) λβ5 n _ l5 e=>?_
  subst e;exact ai.pure' (wL (Nu (((ha.mono l3).mono l4).mono l5) _ _))
def Xc(hx:RV β x x')(hl:oT β l l')(hh:oT β h h')(hm:oT β m m'):ai P β (Instr.sliceAt t x l h m) (Instr.sliceAt t x' l' h' m') RV:=by
 unfold Instr.sliceAt
 refine ai.bind' (fU t) λβ1 d _ l1 ⟨e,_⟩=>?_
 subst e
 cases d<;>try exact Xb (hx.mono l1) (hl.mono l1) (hh.mono l1) (hm.mono l1)
 refine ai.bind' (B3 (hx.mono l1)) λβ2 a a' l2 ha=>?_
 refine ai.bind' (Ew _ _ _ ((hl.mono l1).mono l2) ((hh.mono l1).mono l2) ((hm.mono l1).mono l2)) λβ4 p _ l4 e=>?_
 subst e
 refine ai.bind' (lS _) λβ5 n _ l5 e=>?_
 subst e;exact ai.pure' (wL (Nu ((ha.mono l4).mono l5) _ _))
def Xd(h:RV β x x')(xt t:TypeId)(ok:Bool)(hz:tu P t=true):ai P β (Instr.typeAssert x xt t ok) (Instr.typeAssert x' xt t ok) RV:=by
 unfold Instr.typeAssert
 refine ai.bind' (fU t) λβ1 d _ l1 ⟨e,_⟩=>?_
 subst e;replace h:=h.mono l1
 have fails:∀{β:aK} (a b:Option TypeId) (m:String),ai P β (do
   if ok then pure (aX #[<- zeroValue t,aJ false])else runtimePanic (.typeAssertion a b t m):Sem aj) (do
   if ok then pure (aX #[<- zeroValue t,aJ false])else runtimePanic (.typeAssertion a b t m):Sem aj) RV:=by
  intro β a b m
  cases ok
  ·exact ai.hlt (show aQ P (runtimePanic (.typeAssertion a b t m):Sem aj)from aQ.runtimePanic _)
  exact ai.bind' (ye hz) λβ2 z z' _ k=>ai.pure' (iW.2 ⟨_,rfl,(bh.one k).push (fM.2 rfl)⟩)
 have holds:∀{β:aK} {v v':aj},RV β v v'->ai P β (pure (if ok then aX #[v,aJ true]else v):Sem aj) (pure (if ok then aX #[v',aJ true]else v'):Sem aj) RV:=by
  intro β v v' k
  cases ok
  ·exact ai.pure' k
  exact ai.pure' (iW.2 ⟨_,rfl,(bh.one k).push (fM.2 rfl)⟩)
 obtain⟨ms,rfl⟩|hd:(∃ms,d=.interface ms)\/∀ms,d≠.interface ms:=by
  cases d<;>first|exact .inl ⟨_,rfl⟩|exact .inr λ_ h=>(by cases h)
 ·cases x<;>try exact ai.stuck
  ·rename_i tx _;obtain⟨v',rfl,k⟩:=jh.1 h
   refine ai.bind' (pS tx) λβ2 i _ l2 ⟨e,_⟩=>?_
   subst e
   cases Instr.missingMethod ms i.methods with
   |none=>exact holds (h.mono l2)
   |some m=>exact fails _ _ _
  obtain rfl:=lA.1 h;exact fails _ _ _
 ·cases x<;>first|(cases d<;>first|exact ai.stuck|exact absurd rfl (hd _))|skip
  ·rename_i tx vx;obtain⟨v',rfl,k⟩:=jh.1 h
   have:∀u:TypeId, ai P β1 (if u=t then pure (if ok then aX #[vx, aJ true]else vx)else (do if ok then pure (aX #[← zeroValue t, aJ false])else runtimePanic (.typeAssertion (U xt) (U u) t ""):Sem aj)) (if u=t then pure (if ok then aX #[v', aJ true]else v')else (do if ok then pure (aX #[← zeroValue t, aJ false])else runtimePanic (.typeAssertion (U xt) (U u) t ""):Sem aj)) RV:=by
    intro u
    split
    ·exact holds k
    exact fails _ _ _
   cases d<;>first|exact this _|exact absurd rfl (hd _)
  obtain rfl:=lA.1 h
  cases d<;>first|exact fails _ _ _|exact absurd rfl (hd _)
def Ic(P:Program)(s d:TypeId):Bool:=match P.underlying s,P.underlying d with
 |some (.int _),U (.int _)=>true
 |some .string,U (.slice e)=>match P.underlying e with
  |some (.int .u8)=>true
  |_=>false
 |_,_=>false
def Xe(h:β.own a.block a'.block):ai P β (markStringish a) (markStringish a') (λ_ _ _=>True):=by
 unfold markStringish;intro v w r
 refine ai.bind' (Ac (.inl h)) (λβ1 s s' le ⟨_,k⟩=>?_) v w r;have e:=k λt=>r.qG _ _ _ h t
 subst e
 cases s with
 |none=>exact ai.pure' trivial
 |some p=>exact ai.freeze (le.own _ _ h) rfl (ai.pure trivial)
def Nv(b:Array UInt8):RL β (b.map λx=>Value.int .u8 x.toNat) (b.map λx=>Value.int .u8 x.toNat):=bh.BU λx hx=>by
 obtain⟨y,_,rfl⟩:=Array.mem_map.1 hx;exact cO.2 rfl
def Xf{d:TypeId}(hc:Ic P s d=true)(h:RV β x x'):ai P β (convert s d x) (convert s d x') RV:=by
 unfold Go.convert
 refine ai.bind' (fU s) λβ1 ds _ l1 ⟨e,hs⟩=>?_
 subst e
 refine ai.bind' (fU d) λβ2 dd _ l2 ⟨e,hd⟩=>?_
 subst e;replace h:=(h.mono l1).mono l2
 unfold Ic at hc;rw[hs,hd]at hc
 cases ds<;>first|(simp at hc;done)|skip
 case int=>
  cases dd<;>first|(simp at hc;done)|skip
  rcases h.ways with⟨b,rfl,rfl⟩|⟨k,n,rfl,rfl⟩|⟨s,rfl,rfl⟩|⟨a,a',rfl,rfl,ha⟩|⟨a,a',l,c,rfl,rfl,ha⟩|⟨r,r',rfl,rfl,hr⟩|⟨rfl,rfl⟩|⟨f,xs,ys,us,vs,rfl,rfl,_⟩|⟨rfl,rfl⟩|⟨t,v,v',rfl,rfl,hv⟩|⟨rfl,rfl⟩|⟨xs,ys,rfl,rfl,h1⟩|⟨xs,ys,rfl,rfl,h1⟩<;>first|exact ai.unsupported|exact ai.pure' (cO.2 rfl)|(cases a<;>exact ai.unsupported)
 case string=>
  cases dd<;>first|(simp at hc;done)|skip
  rename_i el _;simp only at hc
  cases x<;>first|exact ai.unsupported|(rename_i b _ _;cases b<;>exact ai.unsupported)|skip
  obtain rfl:=jg.1 h
  refine ai.bind' (fU el) λβ3 de _ l3 ⟨e,he⟩=>?_
  subst e;rw[he]at hc
  cases de<;>first|(simp at hc;done)|skip
  rename_i k _
  cases k<;>first|(simp at hc;done)|skip
  show ai P β3 (Conv.stringToBytes el _) (Conv.stringToBytes el _) RV
  unfold Conv.stringToBytes
  refine ai.bind' (ai.choose λn=>ai.pure rfl:ai P β3 (choose _) (choose _) (λ_ a b=>a=b)) λβ4 n _ _ e=>?_
  subst e
  refine ai.bind' (Ab (bh.append (Nv _) (bh.replicate _ (cO.2 rfl))) el) λβ5 a a' l5 ⟨ka,ko⟩=>?_
  refine ai.bind' (Xe ko) λβ6 _ _ l6 _=>?_
  exact ai.pure' (wL (ka.mono l6))
end
section
variable {P:Program}{β:aK}{α α' γ γ':Type}{Q:aK->α->α'->Prop}{S:aK->γ->γ'->Prop}
def B6(em:Bool):∀(n:Nat) {β:aK} (t:TypeId) {x x':aj},RV β x x'->ai P β (Instr.checkKey em n t x) (Instr.checkKey em n t x') (λ_ _ _=>True)
 |0,_,_,_,_,_=>ai.unsupported
 |n+1,β,t,x,x',hx=>by
  rw[Instr.checkKey.eq_2,Instr.checkKey.eq_2]
  refine ai.bind' (fU t) λβ1 d _ l1 ⟨e,_⟩=>?_
  subst e;replace hx:=hx.mono l1
  cases d with
  |interface ms=>
   cases x<;>try exact ai.stuck
   ·rename_i dt v;obtain⟨v',rfl,k⟩:=jh.1 hx
    refine ai.bind' (pS dt) λβ2 i _ l2 ⟨e,_⟩=>?_
    subst e;simp only
    split
    ·refine ai.hlt ?_
     split
     ·exact aQ.bind (aQ.runtimePanic _)
     exact aQ.typeStr λs=>aQ.bind (aQ.runtimePanic _)
    exact B6 em n dt (k.mono l2)
   obtain rfl:=lA.1 hx;exact ai.pure' trivial
  |array len el=>
   cases x<;>try exact ai.stuck
   obtain⟨ys,rfl,hl⟩:=gH.1 hx
   refine ai.bind' (H5 (R:=λ_ _ _=>True) (λβ2 i _ _ le _=>?_) trivial) λ_ _ _ _ _=>ai.pure' trivial
   refine ai.bind' (lS el) λβ3 m _ l3 e=>?_
   subst e
   refine ai.bind' (uS (RL.mono l3 (RL.mono le hl)) el _) λβ4 u u' l4 k=>?_
   exact ai.bind' (B6 em n el k) λ_ _ _ _ _=>ai.pure' ⟨_,rfl,trivial⟩
  |struct fs=>
   cases x<;>try exact ai.stuck
   obtain⟨ys,rfl,hl⟩:=gH.1 hx
   refine ai.bind' (H4 (R:=λ_ _ _=>True) (λβ2 f _ _ le _=>?_) trivial) λ_ _ _ _ _=>ai.pure' trivial
   split
   ·refine ai.bind' (uS (RL.mono le hl) _ _) λβ4 u u' l4 k=>?_
    exact ai.bind' (B6 em n _ k) λ_ _ _ _ _=>ai.pure' ⟨_,rfl,trivial⟩
   exact ai.pure' ⟨_,rfl,trivial⟩
  |_=>exact ai.pure' trivial
def qI(β:aK):List MapEntry->List MapEntry->Prop
 |[],ys=>ys=[]
 |x::xs,ys=>∃y zs,ys=y::zs/\(RV β x.key y.key/\RV β x.val y.val/\x.born=y.born)/\qI β xs zs
def qI.B2:∀{xs ys:List MapEntry},xs.length=ys.length->(∀(i:Nat) (x y:MapEntry),xs[i]?=U x->ys[i]?=U y->RV β x.key y.key/\RV β x.val y.val/\x.born=y.born)->qI β xs ys
 |[],ys,e,_=>sN e.symm
 |x::xs,[],e,_=>by simp at e
 |x::xs,y::ys,e,h=>⟨y,ys,rfl,h 0 x y rfl rfl,qI.B2 (by simpa using e) λi a b p q=>h (i+1) a b (by simpa using p) (by simpa using q)⟩
def jD.toList{xs ys:Array MapEntry}(h:jD β xs ys):qI β xs.toList ys.toList:=
 qI.B2 (by simpa using h.1) λi x y p q=>h.2 i x y (by simpa using p) (by simpa using q)
def qI.mono{γ:aK}(h:β.le γ):∀{xs ys:List MapEntry},qI β xs ys->qI γ xs ys
 |[],_,k=>k
 |_::_,_,⟨y,zs,e,⟨a,b,c⟩,d⟩=>⟨y,zs,e,⟨a.mono h,b.mono h,c⟩,d.mono h⟩
def Ie(β:aK):Option (Nat×aj)->Option (Nat×aj)->Prop
 |none,y=>y=J
 |some (i,v),y=>∃v',y=U (i,v')/\RV β v v'
def Xg(d:TypeDesc)(hx:RV β x x')(hy:RV β y y'):Instr.sameNow d x y=Instr.sameNow d x' y':=by
 rcases hx.ways with⟨b,rfl,rfl⟩|⟨k,n,rfl,rfl⟩|⟨s,rfl,rfl⟩|⟨a,a',rfl,rfl,ha⟩|⟨a,a',l,c,rfl,rfl,ha⟩|⟨r,r',rfl,rfl,hr⟩|⟨rfl,rfl⟩|⟨f,xs,ys,us,vs,rfl,rfl,_⟩|⟨rfl,rfl⟩|⟨t,v,v',rfl,rfl,hv⟩|⟨rfl,rfl⟩|⟨xs,ys,rfl,rfl,h1⟩|⟨xs,ys,rfl,rfl,h1⟩<;>first|(cases d<;>rfl)|skip
 all_goals
  rcases hy.ways with⟨b,rfl,rfl⟩|⟨k,n,rfl,rfl⟩|⟨s,rfl,rfl⟩|⟨a,a',rfl,rfl,ha⟩|⟨a,a',l,c,rfl,rfl,ha⟩|⟨r,r',rfl,rfl,hr⟩|⟨rfl,rfl⟩|⟨f,xs,ys,us,vs,rfl,rfl,_⟩|⟨rfl,rfl⟩|⟨t,v,v',rfl,rfl,hv⟩|⟨rfl,rfl⟩|⟨xs,ys,rfl,rfl,h1⟩|⟨xs,ys,rfl,rfl,h1⟩<;>(cases d<;>rfl)
def Nw(d:TypeDesc)(hk:RV β k k'):∀(es es':List MapEntry) (i:Nat),qI β es es' ->
  (Instr.findNow d k es i=J/\Instr.findNow d k' es' i=J)\/∃r r',Instr.findNow d k es i=U r/\Instr.findNow d k' es' i=U r'/\Ie β r r'
 |[],es',i,h=>by cases h;exact .inr ⟨J,J,rfl,rfl,rfl⟩
 |e::es,_,i,⟨y,zs,q,⟨a,b,c⟩,d2⟩=>by
  cases q
  simp only[Instr.findNow,<- Xg d hk a]
  cases Instr.sameNow d k e.key with
  |none=>exact .inl ⟨rfl,rfl⟩
  |some t=>cases t with
   |true=>exact .inr ⟨_,_,rfl,rfl,_,rfl,b⟩
   |false=>exact Nw d hk es zs (i+1) d2
def Ny(t:TypeId):∀(es es':List MapEntry) (i:Nat) {β:aK},β.g=P.globals.size->RV β k k'->qI β es es'->ai P β (Instr.findAsking t k es i) (Instr.findAsking t k' es' i) Ie
 |[],es',i,_,_,_,h=>by cases h;exact ai.pure' rfl
 |e::es,_,i,β,hg,hk,⟨y,zs,q,⟨a,b,c⟩,d2⟩=>by
  cases q
  rw[Instr.findAsking.eq_2,Instr.findAsking.eq_2]
  refine ai.bind' (Es _ t hg hk a) λβ1 r _ l1 e=>?_
  subst e
  cases r
  ·exact Ny t es zs (i+1) (l1.g▸hg) (hk.mono l1) (d2.mono l1)
  exact ai.pure' ⟨_,rfl,b.mono l1⟩
def Nz(t:TypeId)(hg:β.g=P.globals.size)(hk:RV β k k'){es es':List MapEntry}(h:qI β es es'):ai P β (Instr.findKey t k es) (Instr.findKey t k' es') Ie:=by
 unfold Instr.findKey
 refine ai.bind' (fU t) λβ1 d _ l1 ⟨e,_⟩=>?_
 subst e
 rcases Nw d (hk.mono l1) es es' 0 (h.mono l1)with⟨p,q⟩|⟨r,r',p,q,k⟩
 ·simp only[p,q];exact Ny t _ _ _ (l1.g▸hg) (hk.mono l1) (h.mono l1)
 simp only[p,q];exact ai.pure' k
def Ig(P:Program)(t:TypeId):Bool:=match P.underlying t with
 |some (.map _ e)=>tu P e
 |_=>true
def yg(key el:TypeId)(y:aj)(ok:Bool)(es:Array MapEntry):Sem aj:=Instr.checkKey es.isEmpty 10000 key y >>= λ_=>Instr.findKey key y es.toList >>= λr=>match r with
 |some (_,v)=>Pure.pure (if ok then aX #[v,aJ true]else v)
 |none=>zeroValue el >>= λv=>Pure.pure (if ok then aX #[v,aJ false]else v)
def Xh(hz:Ig P t=true)(hg:β.g=P.globals.size)(hx:RV β x x')(hy:RV β y y')(ok:Bool):ai P β (Instr.lookup t x y ok) (Instr.lookup t x' y' ok) RV:=by
 unfold Instr.lookup
 refine ai.bind' (fU t) λβ1 d _ l1 ⟨e,hu⟩=>?_
 subst e;obtain⟨key,el,rfl⟩|hd:(∃k e,d=.map k e)\/∀k e,d≠.map k e:=by
  cases d<;>first|exact .inl ⟨_,_,rfl⟩|exact .inr λ_ _ h=>(by cases h)
 case inr=>cases d<;>first|exact ai.stuck|exact absurd rfl (hd _ _)
 unfold Ig at hz;rw[hu]at hz;simp only at hz;replace hx:=hx.mono l1
 replace hy:=hy.mono l1
 have hg1:β1.g=P.globals.size:=l1.g▸hg;have fin:∀{β2:aK} {es es':Array MapEntry},β1.le β2->jD β2 es es'->ai P β2 (yg key el y ok es) (yg key el y' ok es') RV:=by
  intro β2 es es' l2 he;have:es.isEmpty=es'.isEmpty:=by simp only[Array.isEmpty,he.1]
  unfold yg;rw[<- this]
  refine ai.bind' (B6 _ _ key (hy.mono l2)) λβ3 _ _ l3 _=>?_
  refine ai.bind' (Nz key (by rw[<- l3.g,<- l2.g];exact hg1) ((hy.mono l2).mono l3) (he.toList.mono l3)) λβ4 r r' l4 k=>?_
  have last:∀{β:aK} {v v':aj} (b:Bool),RV β v v'->ai P β (Pure.pure (if ok then aX #[v,aJ b]else v)) (Pure.pure (if ok then aX #[v',aJ b]else v')) RV:=by
   intro β v v' b k
   cases ok
   ·exact ai.pure' k
   exact ai.pure' (iW.2 ⟨_,rfl,(bh.one k).push (fM.2 rfl)⟩)
  cases r with
  |none=>cases k;exact ai.bind' (ye hz) λ_ z z' _ k=>last _ k
  |some p=>obtain⟨v',rfl,k⟩:=k;exact last _ k
 cases x<;>try exact ai.hlt (aQ.bind (aQ.halt _))
 rename_i r;obtain⟨r',rfl,hr⟩:=oc.1 hx
 cases r with
 |none=>
  cases hr
  show ai P β1 (yg key el y ok #[]) (yg key el y' ok #[]) RV
  exact fin β1.le_refl ⟨rfl,λi e e' h=>by simp at h⟩
 |some r=>
  obtain⟨r',rfl,hr⟩:=hr
  refine ai.bind' (Ad hr) λβ2 o o' l2 ⟨k,_⟩=>?_
  cases o with
  |map es c=>
   obtain⟨es',rfl,he⟩:=k;show ai P β2 (yg key el y ok es) (yg key el y' ok es') RV
   exact fin l2 he
  |cells=>exact ai.hlt (aQ.bind (aQ.halt _))
  |mapIter=>exact ai.hlt (aQ.bind (aQ.halt _))
  |number=>exact ai.hlt (aQ.bind (aQ.halt _))
  |stringIter=>exact ai.hlt (aQ.bind (aQ.halt _))
  |_=>exact k.elim
end
section
variable {P:Program}{β:aK}{α α' γ γ':Type}{Q:aK->α->α'->Prop}{S:aK->γ->γ'->Prop}
def NA{a a' b b':Option av}(f1:∀a b c,β.any a b->β.any a c->b=c)(inj:∀a b c,β.any a c->β.any b c->a=b)(h:fT β a a')(k:fT β b b'):(a==b)=(a'==b'):=by
 cases a with
 |none=>cases h;cases b with
  |none=>cases k;rfl
  |some b=>obtain⟨b',rfl,_⟩:=k;rfl
 |some a=>
  obtain⟨a',rfl,h⟩:=h
  cases b with
  |none=>cases k;rfl
  |some b=>
   obtain⟨b',rfl,k⟩:=k;have:=H6 f1 inj h k;rw[yc]at this⊢;simpa using this
def NB(f1 f2:aj->aj->Bool):∀{xs xs' ys ys':List aj},(∀x x' y y',RV β x x'->RV β y y'->f1 x y=f2 x' y')->mM β xs xs'->mM β ys ys'->(xs.zip ys).all (λp=>f1 p.1 p.2)=(xs'.zip ys').all (λp=>f2 p.1 p.2)
 |[],_,_,_,_,h,_=>by cases h;simp
 |x::xs,_,[],_,hf,⟨y,zs,e,a,b⟩,k=>by cases e;cases k;simp
 |x::xs,_,u::us,_,hf,⟨y,zs,e,a,b⟩,⟨v,ws,e2,c,d⟩=>by
  cases e;cases e2
  simp only[List.zip_cons_cons,List.all_cons];rw[hf x y u v a c,NB f1 f2 hf b d]
def Xi(f1:∀a b c,β.any a b->β.any a c->b=c)(inj:∀a b c,β.any a c->β.any b c->a=b):∀(n:Nat) {x x' y y':aj},RV β x x'->RV β y y'->Instr.sameBits n x y=Instr.sameBits n x' y':=by
 intro n
 induction n with
 |zero=>
  intro x x' y y' hx hy
  rcases hx.ways with⟨b,rfl,rfl⟩|⟨k,n,rfl,rfl⟩|⟨s,rfl,rfl⟩|⟨a,a',rfl,rfl,ha⟩|⟨a,a',l,c,rfl,rfl,ha⟩|⟨r,r',rfl,rfl,hr⟩|⟨rfl,rfl⟩|⟨f,xs,ys,us,vs,rfl,rfl,_⟩|⟨rfl,rfl⟩|⟨t,v,v',rfl,rfl,hv⟩|⟨rfl,rfl⟩|⟨xs,ys,rfl,rfl,h1⟩|⟨xs,ys,rfl,rfl,h1⟩<;>first|rfl|skip
  all_goals
   rcases hy.ways with⟨b,rfl,rfl⟩|⟨k,n,rfl,rfl⟩|⟨s,rfl,rfl⟩|⟨b,b',rfl,rfl,hb⟩|⟨b,b',l,c,rfl,rfl,hb⟩|⟨r,r',rfl,rfl,hr⟩|⟨rfl,rfl⟩|⟨f,xs,ys,us,vs,rfl,rfl,_⟩|⟨rfl,rfl⟩|⟨t,v,v',rfl,rfl,hv⟩|⟨rfl,rfl⟩|⟨xs,ys,rfl,rfl,h1⟩|⟨xs,ys,rfl,rfl,h1⟩<;>first|rfl|exact NA f1 inj ha hb
 |succ n ih=>
  intro x x' y y' hx hy
  rcases hx.ways with⟨b,rfl,rfl⟩|⟨k,n,rfl,rfl⟩|⟨s,rfl,rfl⟩|⟨a,a',rfl,rfl,ha⟩|⟨a,a',l,c,rfl,rfl,ha⟩|⟨r,r',rfl,rfl,hr⟩|⟨rfl,rfl⟩|⟨f,xs,ys,us,vs,rfl,rfl,_⟩|⟨rfl,rfl⟩|⟨t,v,v',rfl,rfl,hv⟩|⟨rfl,rfl⟩|⟨xs,ys,rfl,rfl,h1⟩|⟨xs,ys,rfl,rfl,h1⟩<;>first|rfl|skip
  all_goals
   rcases hy.ways with⟨b,rfl,rfl⟩|⟨k,n,rfl,rfl⟩|⟨s,rfl,rfl⟩|⟨b,b',rfl,rfl,hb⟩|⟨b,b',l,c,rfl,rfl,hb⟩|⟨r,r',rfl,rfl,hr⟩|⟨rfl,rfl⟩|⟨f,us,vs,us,vs,rfl,rfl,_⟩|⟨rfl,rfl⟩|⟨u,z,z',rfl,rfl,hz⟩|⟨rfl,rfl⟩|⟨us,vs,rfl,rfl,h2⟩|⟨us,vs,rfl,rfl,h2⟩<;>first|rfl|exact NA f1 inj ha hb|skip
  ·rw[Instr.sameBits.eq_9,Instr.sameBits.eq_9,ih hv hz]
  rw[Instr.sameBits.eq_10,Instr.sameBits.eq_10,h1.1,h2.1];congr 1
  exact NB _ _ (λx x' y y' a b=>ih a b) h1.toList h2.toList
def Xj(hx:RV β x x')(hy:RV β y y'):ai P β (Instr.keyThatStays x y) (Instr.keyThatStays x' y') RV:=by
 unfold Instr.keyThatStays
 refine ai.facts λinj f1 _=>?_
 rw[<- Xi f1 inj 10000 hx hy]
 split
 ·exact ai.pure' hy
 refine ai.bind' (ai.choose λn=>ai.pure rfl:ai P β (choose _) (choose _) (λ_ a b=>a=b)) λβ4 n _ l e=>?_
 subst e
 split
 ·exact ai.pure' (hy.mono l)
 exact ai.pure' (hx.mono l)
def jD.push{es:Array MapEntry}(h:jD β es es'){e e':MapEntry}(k:RV β e.key e'.key/\RV β e.val e'.val/\e.born=e'.born):jD β (es.push e) (es'.push e'):=by
 refine⟨by simp[h.1],λi a b ha hb=>?_⟩;rw[wa]at ha hb;rw[<- h.1]at hb
 split at ha
 ·rename_i q;rw[aU q]at hb;cases ha;cases hb;exact k
 rename_i q;rw[aF q]at hb;exact h.2 i a b ha hb
def jD.modify{es:Array MapEntry}(h:jD β es es')(j:Nat)(f f':MapEntry->MapEntry)(k:∀e e',(RV β e.key e'.key/\RV β e.val e'.val/\e.born=e'.born)->RV β (f e).key (f' e').key/\RV β (f e).val (f' e').val/\(f e).born=(f' e').born):jD β (es.modify j f) (es'.modify j f'):=by
 refine⟨by simp[h.1],λi a b ha hb=>?_⟩;rw[fR]at ha hb
 split at ha
 ·rename_i q;rw[aU q]at hb;obtain⟨x,hx,rfl⟩:=jz.1 ha;obtain⟨y,hy,rfl⟩:=jz.1 hb;exact k _ _ (h.2 i x y hx hy)
 rename_i q;rw[aF q]at hb;exact h.2 i a b ha hb
def Ih(h:β.any b b'){o:Obj}(ho:RO β o o')(hc:o'.isChan=false):ai P β (Go.setObj b o) (Go.setObj b' o') (λ_ _ _=>True):=ai.setObj h ho hc (ai.pure trivial)
def NC(hg:β.g=P.globals.size){z z':aj}(hx:RV β x x')(hy:RV β y y')(hz:RV β z z'):ai P β (Instr.mapUpdate t x y z) (Instr.mapUpdate t x' y' z') (λ_ _ _=>True):=by
 unfold Instr.mapUpdate
 refine ai.bind' (fU t) λβ1 d _ l1 ⟨e,hu⟩=>?_
 subst e;obtain⟨key,el,rfl⟩|hd:(∃k e,d=.map k e)\/∀k e,d≠.map k e:=by
  cases d<;>first|exact .inl ⟨_,_,rfl⟩|exact .inr λ_ _ h=>(by cases h)
 case inr=>cases d<;>first|exact ai.stuck|exact absurd rfl (hd _ _)
 replace hx:=hx.mono l1
 replace hy:=hy.mono l1
 replace hz:=hz.mono l1
 have hg1:β1.g=P.globals.size:=l1.g▸hg
 cases x<;>try exact ai.stuck
 rename_i r;obtain⟨r',rfl,hr⟩:=oc.1 hx
 cases r with
 |none=>exact ai.hlt (show aQ P (runtimePanic (.plain "assignment to entry in nil map"):Sem Unit)from aQ.runtimePanic _)
 |some r=>
  obtain⟨r',rfl,hr⟩:=hr
  refine ai.bind' (Ad hr) λβ2 o o' l2 ⟨k,_⟩=>?_
  cases o with
  |map es c=>
   obtain⟨es',rfl,he⟩:=k
   refine ai.bind' (B6 _ _ key (hy.mono l2)) λβ3 _ _ l3 _=>?_
   refine ai.bind' (Nz key (by rw[<- l3.g,<- l2.g];exact hg1) ((hy.mono l2).mono l3) (he.toList.mono l3)) λβ4 q q' l4 k=>?_
   have Ex:=l3.trans l4;have yh:=l2.trans Ex
   cases q with
   |none=>
    cases k
    exact Ih (yh.any hr) ⟨_,rfl,jD.push (he.mono Ex) ⟨hy.mono yh,hz.mono yh,rfl⟩⟩ rfl
   |some p=>
    obtain⟨i,pv⟩:=p;obtain⟨v',rfl,k⟩:=k;have ko:RV β4 (((es[i]?).map (·.key)).getD y) (((es'[i]?).map (·.key)).getD y'):=by
     have Xk:=he.mono Ex
     rcases eC i es.size with hi|hi
     ·have hj:i<es'.size:=he.1▸hi;rw[eB hi,eB hj];exact(Xk.2 i _ _ (eB hi) (eB hj)).1
     rw[sO hi,sO (he.1▸hi)];exact hy.mono yh
    refine ai.bind' (Xj ko (hy.mono yh)) λβ5 u u' l5 ku=>?_
    exact Ih ((yh.trans l5).any hr) ⟨_,rfl,jD.modify (he.mono (Ex.trans l5)) _ _ _ λa b ⟨_,_,q⟩=>⟨ku,hz.mono (yh.trans l5),q⟩⟩ rfl
  |cells=>exact ai.stuck
  |mapIter=>exact ai.stuck
  |number=>exact ai.stuck
  |stringIter=>exact ai.stuck
  |_=>exact k.elim
def Ii(P:Program)(t:TypeId):Bool:=match P.underlying t with
 |some .string=>true
 |_=>false
def Xl(hr:Ii P t=true)(hx:RV β x x'):ai P β (Instr.range t x) (Instr.range t x') RV:=by
 unfold Instr.range
 refine ai.bind' (fU t) λβ1 d _ l1 ⟨e,hu⟩=>?_
 subst e;unfold Ii at hr;rw[hu]at hr
 cases d<;>first|(simp at hr;done)|skip
 cases x<;>try exact ai.hlt (aQ.bind (aQ.halt _))
 obtain rfl:=jg.1 hx
 refine ai.wK ?_;exact ai.bind' (ai.newObj (o:=.stringIter _ 0) (o':=.stringIter _ 0) rfl) λβ2 b b' _ k=>ai.pure' (rN ⟨.inl k,rfl,rfl⟩)
def Xm(hx:RV β x x'):ai P β (Instr.next x true t) (Instr.next x' true t) RV:=by
 unfold Instr.next;simp only
 cases x<;>try exact ai.stuck
 rename_i a;obtain⟨a',rfl,ha⟩:=gW.1 hx
 cases a with
 |none=>exact ai.stuck
 |some a=>
  obtain⟨a',rfl,ha⟩:=ha;obtain⟨b,o,s⟩:=a;obtain⟨b',o',s'⟩:=a';have e1:o=o':=ha.off;have e2:s=s':=ha.spot;subst e1;subst e2
  cases o with
  |succ o=>exact ai.stuck
  |zero=>
   have hb:β.any b b':=ha.blk
   refine ai.bind' (Ad hb) λβ2 o o' l2 ⟨k,_⟩=>?_
   cases o with
   |map=>obtain⟨_,rfl,_⟩:=k;exact ai.stuck
   |cells=>obtain⟨_,rfl,_⟩:=k;exact ai.stuck
   |mapIter m=>obtain⟨_,rfl,_⟩:=k;cases m<;>exact ai.stuck
   |number=>obtain⟨_,rfl,_⟩:=k;exact ai.stuck
   |stringIter s pos=>
    obtain rfl:=k;simp only
    split
    ·refine ai.bind' (Ih (o:=.stringIter s _) (o':=.stringIter s _) (l2.any hb) rfl rfl) λβ3 _ _ _ _=>?_
     exact ai.pure' (iW.2 ⟨_,rfl,((bh.one (fM.2 rfl)).push (cO.2 rfl)).push (cO.2 rfl)⟩)
    exact ai.pure' (iW.2 ⟨_,rfl,bh.one (fM.2 rfl)⟩)
   |_=>exact k.elim
def Xn(hx:RV β x x'):ai P β (Builtin.lenOf x) (Builtin.lenOf x') (λ_ a b=>a=b):=by
 rcases hx.ways with⟨b,rfl,rfl⟩|⟨k,n,rfl,rfl⟩|⟨s,rfl,rfl⟩|⟨a,a',rfl,rfl,ha⟩|⟨a,a',l,c,rfl,rfl,ha⟩|⟨r,r',rfl,rfl,hr⟩|⟨rfl,rfl⟩|⟨f,xs,ys,us,vs,rfl,rfl,hf,_⟩|⟨rfl,rfl⟩|⟨t,v,v',rfl,rfl,hv⟩|⟨rfl,rfl⟩|⟨xs,ys,rfl,rfl,h1⟩|⟨xs,ys,rfl,rfl,h1⟩<;>first|exact ai.stuck|exact ai.pure' rfl
def Ij(sz n:Nat)(hx:RV β x x'):ai P β (Builtin.firstCells sz n x) (Builtin.firstCells sz n x') RL:=by
 rcases hx.ways with⟨b,rfl,rfl⟩|⟨k,n,rfl,rfl⟩|⟨s,rfl,rfl⟩|⟨a,a',rfl,rfl,ha⟩|⟨a,a',l,c,rfl,rfl,ha⟩|⟨r,r',rfl,rfl,hr⟩|⟨rfl,rfl⟩|⟨f,xs,ys,us,vs,rfl,rfl,hf,_⟩|⟨rfl,rfl⟩|⟨t,v,v',rfl,rfl,hv⟩|⟨rfl,rfl⟩|⟨xs,ys,rfl,rfl,h1⟩|⟨xs,ys,rfl,rfl,h1⟩<;>first|exact ai.stuck|skip
 ·exact ai.pure' (Nv _)
 cases a with
 |none=>cases ha;exact ai.pure' bh.empty
 |some a=>obtain⟨a',rfl,ha⟩:=ha;exact MU ha _
def Xo{zs zs':Array aj}(h:RL β zs zs')(n:Nat):RL β (Builtin.zeroCells zs n) (Builtin.zeroCells zs' n):=by
 unfold Builtin.zeroCells;rw[<- h.1];exact bh.Hr _ λi _=>RL.getElem! h _
def Xp(n:Nat):ai P β (askRoom n) (askRoom n) (λ_ _ _=>True):=by
 unfold askRoom
 split
 ·exact ai.mark rfl (ai.pure trivial)
 exact ai.pure' trivial
def Xq(hx:RV β x x')(hy:RV β y y'):ai P β (Builtin.min2 x y) (Builtin.min2 x' y') RV:=by
 rcases hx.ways with⟨b,rfl,rfl⟩|⟨k,n,rfl,rfl⟩|⟨s,rfl,rfl⟩|⟨a,a',rfl,rfl,ha⟩|⟨a,a',l,c,rfl,rfl,ha⟩|⟨r,r',rfl,rfl,hr⟩|⟨rfl,rfl⟩|⟨f,xs,ys,us,vs,rfl,rfl,hf,_⟩|⟨rfl,rfl⟩|⟨t,v,v',rfl,rfl,hv⟩|⟨rfl,rfl⟩|⟨xs,ys,rfl,rfl,h1⟩|⟨xs,ys,rfl,rfl,h1⟩ <;>
 rcases hy.ways with⟨b2,rfl,rfl⟩|⟨k2,n2,rfl,rfl⟩|⟨s2,rfl,rfl⟩|⟨a2,Xr,rfl,rfl,ha2⟩|⟨a2,Xr,l,c,rfl,rfl,ha⟩|⟨r,r',rfl,rfl,hr⟩|⟨rfl,rfl⟩|⟨f,xs,ys,us,vs,rfl,rfl,hf,_⟩|⟨rfl,rfl⟩|⟨t,v,v',rfl,rfl,hv⟩|⟨rfl,rfl⟩|⟨xs,ys,rfl,rfl,h1⟩|⟨xs,ys,rfl,rfl,h1⟩<;>first|exact ai.hlt (aQ.halt _)|exact ai.pure' (cO.2 rfl)|exact ai.pure' (jg.2 rfl)|(cases a2<;>exact ai.hlt (aQ.halt _))|(cases a<;>exact ai.hlt (aQ.halt _))|(cases a<;>cases a2<;>exact ai.hlt (aQ.halt _))
def Xs(ats:Array TypeId)(t:TypeId)(h:RL β xs ys):ai P β (Builtin.min_ ats t xs) (Builtin.min_ ats t ys) RV:=by
 unfold Builtin.min_;have hl:=h.toList;revert hl
 generalize xs.toList=l;generalize ys.toList=l';intro hl
 cases l with
 |nil=>cases hl;exact ai.stuck
 |cons x l=>
  obtain⟨y,zs,rfl,k,hl⟩:=hl;simp only;clear h
  induction l generalizing β x y zs with
  |nil=>cases hl;exact ai.pure' k
  |cons u l ih=>
   obtain⟨w,ws,rfl,k2,hl⟩:=hl;simp only[List.foldlM_cons];exact ai.bind' (Xq k k2) λβ1 m m' l1 km=>ih m m' ws km (hl.mono l1)
end
section
variable {P:Program}{β:aK}{α α' γ γ':Type}{Q:aK->α->α'->Prop}{S:aK->γ->γ'->Prop}
def Ik(P:Program)(ats:Array TypeId):Bool:=match ats[0]?,ats[1]? with
 |some s,U x=>wM P s&&(match P.underlying x with|some (.int _)=>false|_=>true)
 |_,_=>false
def ND{v:ah}(a:av)(n:Nat)(h:∀b,K b v):Mw P K (Builtin.holdsCells a n) v:=by
 unfold Builtin.holdsCells;show Mw P K (match v.shape? a.block with|some (_,m)=>pure (a.spot.isNone&&decide (a.off+n<=m))|none=>pure false) v
 cases v.shape? a.block with
 |none=>exact h _
 |some p=>exact h _
def Xt{v:ah}(size pT n:Nat)(base:Option av)(x:aj)(h:∀b,K b v):Mw P K (Builtin.mayShare size pT n base x) v:=by
 have rest:∀t:Bool,Mw P K (if (!t)=true then pure true else match x with
   |ak (U b) _ _=>do pure (!(<- Builtin.holdsCells b (n*size))||base.any (·.block==b.block))
   |_=>pure false) v:=by
  intro t
  cases t with
  |false=>exact h _
  |true=>
   cases x<;>first|exact h _|skip
   rename_i b _ _
   cases b with
   |none=>exact h _
   |some b=>exact Mw.bind _ _ v (ND b _ λc=>h _)
 unfold Builtin.mayShare
 cases base with
 |none=>exact rest true
 |some a=>exact Mw.bind _ _ v (ND a _ λc=>rest _)
def Xu{ats:Array TypeId}(t:TypeId)(hk:Ik P ats=true)(h:RL β xs ys):ai P β (Builtin.append_ ats t xs) (Builtin.append_ ats t ys) RV:=by
 unfold Builtin.append_;unfold Ik at hk
 cases h0:ats[0]? with
 |none=>rw[h0]at hk;simp at hk
 |some sT=>
 cases h1:ats[1]? with
 |none=>rw[h0,h1]at hk;simp at hk
 |some xT=>
 rw[h0,h1]at hk;simp only[kS]at hk;obtain⟨hz,hn⟩:=hk
 rcases h.get 0 with⟨p,q⟩|⟨s,s',p,q,hs⟩
 ·simp only[p,q];exact ai.stuck
 rcases h.get 1 with⟨p1,q1⟩|⟨x,x',p1,q1,hx⟩
 ·simp only[p,q,p1,q1];exact ai.stuck
 simp only[p,q,p1,q1]
 refine ai.bind' (fU sT) λβ1 d _ l1 ⟨e,hu⟩=>?_
 subst e;obtain⟨el,rfl⟩|hd:(∃el,d=TypeDesc.slice el)\/∀el,d≠TypeDesc.slice el:=by
  cases d<;>first|exact .inl ⟨_,rfl⟩|exact .inr λ_ h=>(by cases h)
 case inr=>cases d<;>first|exact ai.stuck|exact absurd rfl (hd _)
 unfold wM at hz;rw[hu]at hz;simp only at hz;replace hs:=hs.mono l1
 replace hx:=hx.mono l1
 simp only
 cases s<;>try exact ai.stuck
 rename_i base pT Ey;have hs0:=hs;obtain⟨base',rfl,hb⟩:=gX.1 hs;simp only
 refine ai.bind' (lS el) λβ2 size _ l2 e=>?_
 subst e
 refine ai.bind' (fU xT) λβ3 dx _ l3 ⟨e,Xv⟩=>?_
 subst e;rw[Xv]at hn
 refine ai.bind' (ai.pure' (Q:=λ_ a b=>a=b/\a=false) ⟨rfl,by cases dx<;>first|rfl|(simp at hn)⟩) λXw zz _ Il ⟨e,ez⟩=>?_
 subst e;subst ez;have hx3:=(hx.mono l2).mono (l3.trans Il);have hb3:=(hb.mono l2).mono (l3.trans Il);have hs3:=(hs0.mono l2).mono (l3.trans Il)
 refine ai.bind' (Xn hx3) λβ4 n _ l4 e=>?_
 subst e;simp only[Bool.not_false,kC,uC,j5,false_or]
 split
 ·refine ai.bind' (Ij size n (hx3.mono l4)) λβ5 u u' l5 ku=>?_
  replace hb3:=(hb3.mono l4).mono l5
  cases base with
  |none=>cases hb3;exact ai.pure' (gX.2 ⟨_,rfl,rfl⟩)
  |some a=>
   obtain⟨a',rfl,hb3⟩:=hb3
   refine ai.bind' (Hx (hb3.add _) ku.toList) λβ6 _ _ l6 _=>?_
   exact ai.pure' (wL (hb3.mono l6))
 have tail:∀{β5:aK},Xw.le β5->ai P β5 (choose (Question.appendCap (pT+n) Ey el) >>= λyi=>typeInfo el >>= λi=>askRoom (yi*i.bytes) >>= λ_=>Builtin.firstCells size pT (Value.slice base pT Ey) >>= λold=>Builtin.firstCells size n x >>= λnew=>zeroValue el >>= λz=>newRow el (old++new++Builtin.zeroCells z.cells (yi-(pT+n))) >>= λa=>Pure.pure (Value.slice (U a) (pT+n) yi))
   (choose (Question.appendCap (pT+n) Ey el) >>= λyi=>typeInfo el >>= λi=>askRoom (yi*i.bytes) >>= λ_=>Builtin.firstCells size pT (Value.slice base' pT Ey) >>= λold=>Builtin.firstCells size n x' >>= λnew=>zeroValue el >>= λz=>newRow el (old++new++Builtin.zeroCells z.cells (yi-(pT+n))) >>= λa=>Pure.pure (Value.slice (U a) (pT+n) yi)) RV:=by
  intro β5 l5
  refine ai.bind' (ai.choose λn=>ai.pure rfl:ai P β5 (choose _) (choose _) (λ_ a b=>a=b)) λβ6 m _ l6 e=>?_
  subst e
  refine ai.bind' (pS el) λβ7 i _ l7 ⟨e,_⟩=>?_
  subst e
  refine ai.bind' (Xp _) λβ8 _ _ l8 _=>?_
  have L:=((l5.trans l6).trans l7).trans l8
  refine ai.bind' (Ij size pT (hs3.mono L)) λβ9 o o' l9 ko=>?_
  refine ai.bind' (Ij size n (hx3.mono (L.trans l9))) λag0 u u' l10 ku=>?_
  refine ai.bind' (ye hz) λag1 z z' NF kz=>?_
  exact ai.bind' (Ab (bh.append (bh.append (RL.mono NF (RL.mono l10 ko)) (RL.mono NF ku)) (Xo (xZ kz) _)) el) λag2 a a' _ q=>ai.pure' (wL q.1)
 refine ai.bind' (pS el) λβ5 i _ l5 ⟨e,_⟩=>?_
 subst e
 split
 ·exact ai.hlt (aQ.bind (aQ.runtimePanic _))
 refine ai.bind' (pS el) λβ6 i _ l6 ⟨e,_⟩=>?_
 subst e
 split
 ·refine ai.hlt (aQ.bind ?_);intro K v
  refine Mw.bind _ _ v (Xt _ _ _ _ _ λb=>?_)
  cases b
  ·exact trivial
  exact trivial
 exact tail (l4.trans (l5.trans l6))
end
section
variable {P:Program}{β:aK}{α α' γ γ':Type}{Q:aK->α->α'->Prop}{S:aK->γ->γ'->Prop}
def qJ{α γ:Type}{x:Option α}{f:α->Option γ}{i:γ}(h:(x >>= f)=U i):∃a,x=U a/\f a=U i:=Ej.1 h
def Xx{f:TypeId->Option TypeInfo}{d:TypeDesc}{i:TypeInfo}(h:Made.reckon f d=U i):i.methods=#[]:=by
 have fin:∀{u:TypeInfo},u.methods=#[]->(pure u:Option TypeInfo)=U i->i.methods=#[]:=λhu h=>by cases h;exact hu
 have sp:∀{j:TypeInfo} {d:TypeDesc} {g:String->String} {v:aj} {c:Bool} {n:Nat},((Made.spell j >>= λs=>pure (Made.word d (g s) v c n)):Option TypeInfo)=U i->i.methods=#[]:=λh=>by
  obtain⟨s,_,h⟩:=qJ h;exact fin rfl h
 cases d<;>simp only[Made.reckon,reduceCtorEq]at h
 case pointer e=>
  obtain⟨j,_,h⟩:=qJ h
  split at h
  ·cases h
  ·split at h
   ·cases h
   exact sp h
  exact sp h
 case slice e=>obtain⟨_,_,h⟩:=qJ h;exact sp h
 case map=>obtain⟨_,_,h⟩:=qJ h;obtain⟨_,_,h⟩:=qJ h;obtain⟨_,_,h⟩:=qJ h;exact sp h
 case chan=>obtain⟨_,_,h⟩:=qJ h;obtain⟨_,_,h⟩:=qJ h;exact fin rfl h
 case func=>obtain⟨_,_,h⟩:=qJ h;exact fin rfl h
 case array=>obtain⟨_,_,h⟩:=qJ h;obtain⟨_,_,h⟩:=qJ h;exact fin rfl h
 case struct fs=>
  unfold Made.reckonStruct at h;obtain⟨⟨a,b,c,d,e⟩,_,h⟩:=qJ h;dsimp only at h
  split at h<;>exact fin rfl h
def Xy{i:TypeInfo}(h:P.info? t=U i):i.methods=#[]\/i∈P.types:=by
 unfold Tables.info? at h
 split at h
 ·exact .inr (bU h)
 have:∀n,Made.infoAt P.toTables n t=U i->i.methods=#[]\/i∈P.types:=by
  intro n hn
  cases n with
  |zero=>cases hn
  |succ n=>
   unfold Made.infoAt at hn
   split at hn
   ·exact .inr (bU hn)
   obtain⟨d,_,hd⟩:=Ej.1 hn;exact .inl (Xx hd)
 exact this _ h
def Ez(P:Program)(okL:List FuncId)(name:String):Bool:=P.types.all λi=>i.methods.all λm=>!(m.name==name)||(m.path.toList.all (λs=>!s.deref)&&match m.func with
 |some (f,_)=>okL.contains f
 |none=>false)
def NG:∀(l:List FieldStep) (_:l.all (λs=>!s.deref)=true) (t:TypeId) {β:aK} {x x':aj},RV β x x'->ai P β (follow l t (.val x)) (follow l t (.val x')) (λβ' p q=>p.1=q.1/\∃y y',p.2=.val y/\q.2=.val y'/\RV β' y y')
 |[],_,t,β,x,x',h=>ai.pure' ⟨rfl,x,x',rfl,rfl,h⟩
 |s::l,hl,t,β,x,x',h=>by
  simp only[List.all_cons,kS,Bool.not_eq_true']at hl;unfold follow
  refine ai.bind' (fU _) λβ1 d _ l1 ⟨e,_⟩=>?_
  subst e;obtain⟨fs,rfl⟩|hd:(∃fs,d=.struct fs)\/∀fs,d≠.struct fs:=by
   cases d<;>first|exact .inl ⟨_,rfl⟩|exact .inr λ_ h=>(by cases h)
  case inr=>cases d<;>first|exact ai.stuck|exact absurd rfl (hd _)
  dsimp only
  cases fs[s.index]? with
  |none=>exact ai.stuck
  |some f=>
   simp only[hl.1];replace h:=h.mono l1
   rcases h.ways with⟨b,rfl,rfl⟩|⟨k,n,rfl,rfl⟩|⟨s,rfl,rfl⟩|⟨a,a',rfl,rfl,ha⟩|⟨a,a',l,c,rfl,rfl,ha⟩|⟨r,r',rfl,rfl,hr⟩|⟨rfl,rfl⟩|⟨f,xs,ys,us,vs,rfl,rfl,hf,_⟩|⟨rfl,rfl⟩|⟨t,v,v',rfl,rfl,hv⟩|⟨rfl,rfl⟩|⟨xs,ys,rfl,rfl,h1⟩|⟨xs,ys,rfl,rfl,h1⟩<;>first|exact ai.stuck|skip
   exact ai.bind' (uS h1 _ _) λβ2 y y' l2 k=>NG l hl.2 _ k
def Xz(ats:Array TypeId)(t:TypeId)(h:RV β x x')(a b:aj):ai P β (Builtin.ssaWrapNilChk_ ats t #[x,a,b]) (Builtin.ssaWrapNilChk_ ats t #[x',a,b]) RV:=by
 unfold Builtin.ssaWrapNilChk_
 cases a<;>first|exact ai.stuck|skip
 cases b<;>first|exact ai.stuck|skip
 dsimp only
 rcases h.ways with⟨b,rfl,rfl⟩|⟨k,n,rfl,rfl⟩|⟨s,rfl,rfl⟩|⟨a,a',rfl,rfl,ha⟩|⟨a,a',l,c,rfl,rfl,ha⟩|⟨r,r',rfl,rfl,hr⟩|⟨rfl,rfl⟩|⟨f,xs,ys,us,vs,rfl,rfl,hf,_⟩|⟨rfl,rfl⟩|⟨t,v,v',rfl,rfl,hv⟩|⟨rfl,rfl⟩|⟨xs,ys,rfl,rfl,h1⟩|⟨xs,ys,rfl,rfl,h1⟩<;>first|exact ai.stuck|skip
 cases a with
 |some a=>obtain⟨a',rfl,_⟩:=ha;exact ai.pure' h
 |none=>
  refine ai.hlt ?_
  refine aQ.choose λn=>?_
  have hh:∀{α:Type} (e:RuntimeError),aQ P (runtimePanic e:Sem α):=λe=>aQ.runtimePanic e
  have hst:∀{α:Type} (s:String),aQ P (stuck s:Sem α):=λs _ _=>trivial
  have hi:∀{α:Type} (t:TypeId) (f:TypeDesc->Sem α),(∀d,aQ P (f d))->aQ P (underlying t >>= f):=by
   intro α t f k K v;unfold underlying
   refine Mw.bind _ _ v (Mw.bind _ _ v ?_)
   show Mw P _ (match P.underlying t with|some d=>pure d|none=>stuck "no such type") v
   cases P.underlying t with
   |none=>trivial
   |some d=>exact k d K v
  have hj:∀{α:Type} (t:TypeId) (f:TypeInfo->Sem α),(∀d,aQ P (f d))->aQ P (typeInfo t >>= f):=by
   intro α t f k K v;unfold typeInfo
   refine Mw.bind _ _ v (Mw.bind _ _ v ?_)
   show Mw P _ (match P.info? t with|some d=>pure d|none=>stuck "no such type") v
   cases P.info? t with
   |none=>trivial
   |some d=>exact k d K v
  split
  ·exact aQ.bind (hh _)
  cases ats[0]? with
  |none=>exact hst _
  |some pt=>
   refine hi _ _ λd=>?_
   cases d<;>first|exact hst _|skip
   refine hj _ _ λi=>?_
   cases i.desc<;>first|exact hst _|skip
   dsimp only
   cases String.fromUTF8? ‹ByteArray› with
   |none=>exact hst _
   |some m=>
    dsimp only
    split
    ·exact hh _
    exact λ_ _=>trivial
def XA(xt:TypeId)(h:RV β x x')(pr:Bool)(w:Option String):ai P β (receiverAt xt (.val x) pr w) (receiverAt xt (.val x') pr w) RV:=by
 unfold receiverAt
 refine ai.bind' (fU _) λβ1 d _ l1 ⟨e,_⟩=>?_
 subst e;replace h:=h.mono l1
 have plain:ai P β1 (Place.get xt (.val x)) (Place.get xt (.val x')) RV:=ai.pure' h;have wr:∀el,ai P β1 (do
   let ptr <- Place.get xt (.val x)
   let ptr <- match w with
    |some name=>Builtin.ssaWrapNilChk_ #[xt] xt #[ptr, strVal "", strVal name]
    |none=>pure ptr
   loadVar el (<- asAddr ptr):Sem aj) (do
   let ptr <- Place.get xt (.val x')
   let ptr <- match w with
    |some name=>Builtin.ssaWrapNilChk_ #[xt] xt #[ptr, strVal "", strVal name]
    |none=>pure ptr
   loadVar el (<- asAddr ptr):Sem aj) RV:=by
  intro el
  refine ai.bind' plain λβ2 y y' l2 k=>?_
  cases w with
  |none=>exact ai.bind' (ai.pure' (Q:=RV) k) λβ3 z z' l3 k=>ai.bind' (Er k) λβ4 a a' l4 k=>wI k el
  |some name=>exact ai.bind' (Xz _ _ k _ _) λβ3 z z' l3 k=>ai.bind' (Er k) λβ4 a a' l4 k=>wI k el
 cases pr<;>cases d<;>first|exact ai.stuck|exact plain|exact wr _
def XB(t:TypeId){v v':aj}(name:String)(hk:Ez P okL name=true)(h:RV β v v'):∀n,ai P β (method n t v name) (method n t v' name) (λβ' p q=>p.1=q.1/\okL.contains p.1=true/\RV β' p.2 q.2)
 |0=>ai.unsupported
 |n+1=>by
  unfold method
  refine ai.bind' (pS t) λβ1 i _ l1 ⟨e,hi⟩=>?_
  subst e
  cases hf:i.methods.find? (·.name==name)with
  |none=>exact ai.stuck
  |some m=>
   have hm:=Array.mem_of_find?_eq_some hf;have hn:(m.name==name)=true:=by simpa using Array.find?_some hf
   have BA:i∈P.types:=by
    rcases Xy hi with e|e
    ·rw[e]at hm;simp at hm
    exact e
   unfold Ez at hk;have B7:=Array.all_eq_true_iff_forall_mem.1 hk i BA;have hk2:=Array.all_eq_true_iff_forall_mem.1 B7 m hm;rw[hn]at hk2;simp only[Bool.not_true,Bool.false_or,kS]at hk2;obtain⟨hp,hfn⟩:=hk2;dsimp only
   refine ai.bind' (NG _ hp t (h.mono l1)) λβ2 p q l2 ⟨e,y,y',e1,e2,k⟩=>?_
   obtain⟨p1,p2⟩:=p;obtain⟨q1,q2⟩:=q;simp only at e e1 e2;subst e e1 e2;dsimp only
   cases EA:m.func with
   |none=>rw[EA]at hfn;cases hfn
   |some fp=>
    obtain⟨f,pr⟩:=fp;rw[EA]at hfn;exact ai.bind' (XA _ k pr _) λβ3 z z' l3 k=>ai.pure' ⟨rfl,hfn,k⟩
end
section
variable {P:Program}{β:aK}{α α' γ γ':Type}{Q:aK->α->α'->Prop}{S:aK->γ->γ'->Prop}
def XC(ats:Array TypeId)(t:TypeId)(h:RL β xs ys):ai P β (Builtin.len_ ats t xs) (Builtin.len_ ats t ys) RV:=by
 unfold Builtin.len_
 cases ats[0]? with
 |none=>exact ai.stuck
 |some a=>
 rcases h.get 0 with⟨p,q⟩|⟨x,x',p,q,hx⟩
 ·simp only[p,q];exact ai.stuck
 simp only[p,q]
 refine ai.bind' (fU a) λβ1 d _ l1 ⟨e,hu⟩=>?_
 subst e;replace hx:=hx.mono l1
 have gi:∀(β:aK) (n:Int),RV β (goInt n) (goInt n):=λβ n=>cO.2 rfl
 rcases hx.ways with⟨b,rfl,rfl⟩|⟨k,n,rfl,rfl⟩|⟨s,rfl,rfl⟩|⟨a,a',rfl,rfl,ha⟩|⟨a,a',l,c,rfl,rfl,ha⟩|⟨r,r',rfl,rfl,hr⟩|⟨rfl,rfl⟩|⟨f,xs,ys,us,vs,rfl,rfl,hf,_⟩|⟨rfl,rfl⟩|⟨t,v,v',rfl,rfl,hv⟩|⟨rfl,rfl⟩|⟨xs,ys,rfl,rfl,h1⟩|⟨xs,ys,rfl,rfl,h1⟩
 all_goals
  cases d<;>first|exact ai.stuck|exact ai.pure' (gi _ _)|(refine ai.bind' (fU _) (λβ2 d _ _ ⟨e,_⟩=>?_);subst e;cases d<;>first|exact ai.stuck|exact ai.pure' (gi _ _))|(cases r<;>exact ai.stuck)|skip
 all_goals
  cases r with
  |none=>cases hr;exact ai.pure' (gi _ _)
  |some r=>
   obtain⟨r',rfl,hr⟩:=hr
   refine ai.bind' (Ad hr) λβ2 o o' l2 ⟨k,_⟩=>?_
   cases o with
   |map es c=>obtain⟨es',rfl,he⟩:=k;simp only[he.1];exact ai.pure' (gi _ _)
   |cells=>exact ai.stuck
   |mapIter=>exact ai.stuck
   |number=>exact ai.stuck
   |stringIter=>exact ai.stuck
   |_=>exact k.elim
def RN(P:Program)(β:aK):Next->Next->Prop
 |.value x,n=>∃y,n=.value y/\RV β x y
 |.skip,n=>n=.skip
 |.enter f xs,n=>∃ys,n=.enter f ys/\RL β xs ys/\β.fn f/\∃fn c,P.funcs[f]?=U fn/\fn.body=U c
 |_,_=>False
def iX{s s':Sem aj}(h:ai P β s s' RV):ai P β (s >>= λv=>Pure.pure (Next.value v)) (s' >>= λv=>Pure.pure (Next.value v)) (RN P):=
 ai.bind' h λ_ _ _ _ k=>ai.pure' ⟨_,rfl,k⟩
def Im{s s':Sem Unit}(h:ai P β s s' λ_ _ _=>True):ai P β (s >>= λ_=>Pure.pure Next.skip) (s' >>= λ_=>Pure.pure Next.skip) (RN P):=
 ai.bind' h λ_ _ _ _ _=>ai.pure' rfl
structure Gl where
 l:List Nat
 X:List FuncId
def Gl.contains(g:Gl)(x:Nat):Bool:=g.l.contains x
def B8(P:Program) (ok:FuncId→Prop) (gl:Gl):Prop:=∀f, ok f→∃fn, P.funcs[f]?=U fn ∧ (fn.name == "runtime.NumGoroutine")=false ∧
 (fn.body.isNone=false\/∀(β:aK) (xs ys:Array aj),β.fn=ok->β.g=P.globals.size->(∀x,gl.contains x=true->β.any x x)->RL β xs ys->ai P β (callFunc f xs) (callFunc f ys) (RN P))
def NH{gl:Gl}(hg:β.g=P.globals.size)(iu:∀x,gl.contains x=true->β.any x x)(hF:B8 P β.fn gl)(hf:β.fn f)(h:RL β xs ys):ai P β (callFunc f xs) (callFunc f ys) (RN P):=by
 obtain⟨fn,h1,h2,h3⟩:=hF f hf
 rcases h3 with h3|h3
 ·unfold callFunc
  refine ai.prog ?_;simp only[h1,h2,h3]
  cases hb:fn.body with
  |none=>rw[hb]at h3;cases h3
  |some c=>exact ai.pure' ⟨ys,rfl,h,hf,fn,c,h1,hb⟩
 exact h3 β xs ys rfl hg iu h
def XD{gl:Gl}(hg:β.g=P.globals.size)(iu:∀x,gl.contains x=true->β.any x x)(hF:B8 P β.fn gl)(hx:RV β x x')(h:RL β xs ys):ai P β (Deferred.ofValue x xs >>= λd=>invoke d.target d.args) (Deferred.ofValue x' ys >>= λd=>invoke d.target d.args) (RN P):=by
 unfold Deferred.ofValue
 rcases hx.ways with⟨b,rfl,rfl⟩|⟨k,n,rfl,rfl⟩|⟨s,rfl,rfl⟩|⟨a,a',rfl,rfl,ha⟩|⟨a,a',l,c,rfl,rfl,ha⟩|⟨r,r',rfl,rfl,hr⟩|⟨rfl,rfl⟩|⟨f,us,vs,ws,zs,rfl,rfl,hf,h1,h2⟩|⟨rfl,rfl⟩|⟨t,v,v',rfl,rfl,hv⟩|⟨rfl,rfl⟩|⟨us,vs,rfl,rfl,h1⟩|⟨us,vs,rfl,rfl,h1⟩<;>first|exact ai.hlt (aQ.bind (aQ.halt _))|skip
 ·cases f<;>first|exact hf.elim|skip
  exact NH hg iu hF hf (bh.append (bh.append h1 h) h2)
 exact ai.hlt (show aQ P (runtimePanic .nilDeref:Sem Next)from aQ.runtimePanic _)
def XE(x:aj)(xs:Array aj):(#[x]++xs)[0]?=U x:=by rw[Array.getElem?_append_left (by simp)];rfl
def XF(x:aj)(xs:Array aj):(#[x]++xs).extract 1 (#[x]++xs).size=xs:=by
 apply Array.ext'
 simp
def XG{gl:Gl}{name:String}(hg:β.g=P.globals.size)(iu:∀x,gl.contains x=true->β.any x x)(hF:B8 P β.fn gl)(hL:∀f,okL.contains f=true->β.fn f)(hk:Ez P okL name=true)(hx:RV β x x')(h:RL β xs ys):ai P β (pure { target:=.fn (.method name) #[],args:=#[x]++xs } >>= λd:Deferred=>invoke d.target d.args) (pure { target:=.fn (.method name) #[],args:=#[x']++ys } >>= λd:Deferred=>invoke d.target d.args) (RN P):=by
 refine ai.wK ?_;unfold invoke;simp only[XE,XF];unfold callMethod
 rcases hx.ways with⟨b,rfl,rfl⟩|⟨k,n,rfl,rfl⟩|⟨s,rfl,rfl⟩|⟨a,a',rfl,rfl,ha⟩|⟨a,a',l,c,rfl,rfl,ha⟩|⟨r,r',rfl,rfl,hr⟩|⟨rfl,rfl⟩|⟨f,us,vs,ws,zs,rfl,rfl,hf,h1,h2⟩|⟨rfl,rfl⟩|⟨t,v,v',rfl,rfl,hv⟩|⟨rfl,rfl⟩|⟨us,vs,rfl,rfl,h1⟩|⟨us,vs,rfl,rfl,h1⟩<;>first|exact ai.stuck|exact ai.hlt (aQ.runtimePanic _)|skip
 refine ai.prog ?_
 refine ai.bind' (XB t name hk hv _) λβ1 p q l1 ⟨e,hf,k⟩=>?_
 obtain⟨p1,p2⟩:=p;obtain⟨q1,q2⟩:=q;simp only at e hf k;subst e;exact NH (l1.g▸hg) (λx hx=>l1.any (iu x hx)) (l1.fn▸hF) (l1.fn▸hL _ hf) (bh.append (bh.one k) (RL.mono l1 h))
def dN(okL:List FuncId)(gl:Gl):Operand->Bool
 |.tmp _=>true
 |.const v=>Value.plain v
 |.global g=>gl.contains g
 |.func f=>okL.contains f
def EB(okL:List FuncId)(gl:Gl):Option Operand->Bool
 |none=>true
 |some x=>dN okL gl x
def Op.fine(P:Program)(okL:List FuncId)(gl:Gl):Op->Bool
 |.move x|.assign x=>dN okL gl x
 |.pick c a b=>dN okL gl c&&dN okL gl a&&dN okL gl b
 |.alloc t=>tu P t
 |.box _ x=>dN okL gl x
 |.build t ps=>tu P t&&ps.toList.all λp=>dN okL gl p.2
 |.buildSlice t _ ps=>wM P t&&ps.toList.all λp=>dN okL gl p.2
 |.load _ a=>dN okL gl a
 |.store _ a x=>dN okL gl a&&dN okL gl x
 |.nilCheck x=>dN okL gl x
 |.binOp _ _ x y _=>dN okL gl x&&dN okL gl y
 |.unOp _ _ x=>dN okL gl x
 |.convert s d x=>Ic P s d&&dN okL gl x
 |.makeInterface _ x=>dN okL gl x
 |.makeFunc (.func f) first cap=>okL.contains f&&first.toList.all (dN okL gl)&&cap.toList.all (dN okL gl)
 |.makeMap _ J=>true
 |.makeSlice t l c=>wM P t&&dN okL gl l&&dN okL gl c
 |Op.slice _ x l h m=>dN okL gl x&&EB okL gl l&&EB okL gl h&&EB okL gl m
 |.fieldAddr s x i=>Ib P s i&&dN okL gl x
 |.field _ x _=>dN okL gl x
 |.indexAddr _ x y=>dN okL gl x&&dN okL gl y
 |.index _ x y=>dN okL gl x&&dN okL gl y
 |.lookup t x y _=>Ig P t&&dN okL gl x&&dN okL gl y
 |.mapUpdate _ x y z|.insert _ x y z=>dN okL gl x&&dN okL gl y&&dN okL gl z
 |.range t x=>Ii P t&&dN okL gl x
 |.next x b=>b&&dN okL gl x
 |.typeAssert x _ t _=>tu P t&&dN okL gl x
 |.extract x _=>dN okL gl x
 |.panic _=>true
 |.call c=>c.args.toList.all (dN okL gl)&&match c.callee with
  |.value f=>dN okL gl f
  |.invoke r m=>dN okL gl r&&Ez P okL m
  |.builtin .append=>Ik P c.argTypes
  |.builtin .len=>true
  |.builtin .min=>true
  |_=>false
 |_=>false
def Io{ρ ρ':Operand->aj}{gl:Gl}(hρ:∀x,dN okL gl x=true->RV β (ρ x) (ρ' x)){xs:Array Operand}(h:xs.toList.all (dN okL gl)=true):RL β (xs.map ρ) (xs.map ρ'):=by
 refine⟨by simp,λi x y hx hy=>?_⟩;rw[oJ]at hx hy;obtain⟨u,hu,rfl⟩:=jz.1 hx;rw[hu]at hy
 cases hy
 exact hρ u (mB.1 h u (by simpa using bU hu))
def Ip{ρ ρ':Operand->aj}{gl:Gl}(hρ:∀x,dN okL gl x=true->RV β (ρ x) (ρ' x)):∀{xs:List (Nat×Operand)},xs.all (λp=>dN okL gl p.2)=true->wN β (xs.map λ(i,x)=>(i,ρ x)) (xs.map λ(i,x)=>(i,ρ' x))
 |[],_=>rfl
 |(i,x)::xs,h=>by
  simp only[List.all_cons,kS]at h;exact⟨_,_,rfl,hρ x h.1,Ip hρ h.2⟩
def Iq{ρ ρ':Operand->aj}{gl:Gl}(hρ:∀x,dN okL gl x=true->RV β (ρ x) (ρ' x)){x:Option Operand}(h:EB okL gl x=true):oT β (x.map ρ) (x.map ρ'):=by
 cases x with
 |none=>rfl
 |some x=>exact⟨_,rfl,hρ x h⟩
def XH{ρ ρ':Operand->aj}{gl:Gl}(hg:β.g=P.globals.size)(iu:∀x,gl.contains x=true->β.any x x)(hF:B8 P β.fn gl)(hL:∀f,okL.contains f=true->β.fn f)(hρ:∀x,dN okL gl x=true->RV β (ρ x) (ρ' x))(o:Oper)(ho:Op.fine P okL gl o.op=true)(XI:∀x,o.op≠.panic x):ai P β (execOp ρ o) (execOp ρ' o) (RN P):=by
 unfold execOp
 cases h:o.op<;>rw[h]at ho<;>simp only[Op.fine,kS]at ho⊢<;>first|exact(ya ho).elim|skip
 case panic x=>exact absurd h (XI x)
 case move x=>exact ai.pure' ⟨_,rfl,hρ x ho⟩
 case assign x=>exact ai.pure' ⟨_,rfl,hρ x ho⟩
 case pick c a b=>
  refine ai.bind' (Wm (hρ c ho.1.1)) λβ1 t _ l1 e=>?_
  subst e
  cases t
  ·exact ai.pure' ⟨_,rfl,(hρ b ho.2).mono l1⟩
  exact ai.pure' ⟨_,rfl,(hρ a ho.1.2).mono l1⟩
 case alloc t=>exact iX (WM ho)
 case box t x=>exact iX (WN (hρ x ho))
 case build t ps=>exact iX (W9 ho.1 (by simpa using Ip hρ ho.2))
 case buildSlice t n ps=>exact iX (W_ ho.1 n (by simpa using Ip hρ ho.2))
 case load t a=>exact iX (WO (hρ a ho))
 case store t a x=>exact Im (WQ (hρ a ho.1) (hρ x ho.2))
 case nilCheck x=>
  have hx:=hρ x ho;revert hx
  generalize ρ x=u;generalize ρ' x=u';intro hx
  rcases hx.ways with⟨b,rfl,rfl⟩|⟨k,n,rfl,rfl⟩|⟨s,rfl,rfl⟩|⟨a,a',rfl,rfl,ha⟩|⟨a,a',l,c,rfl,rfl,ha⟩|⟨r,r',rfl,rfl,hr⟩|⟨rfl,rfl⟩|⟨f,xs,ys,us,vs,rfl,rfl,hf,_⟩|⟨rfl,rfl⟩|⟨t,v,v',rfl,rfl,hv⟩|⟨rfl,rfl⟩|⟨xs,ys,rfl,rfl,h1⟩|⟨xs,ys,rfl,rfl,h1⟩<;>first|exact ai.pure' ⟨_,rfl,hx⟩|exact ai.hlt (show aQ P (runtimePanic .nilDeref:Sem Next)from aQ.runtimePanic _)|skip
  ·cases a with
   |none=>exact ai.hlt (show aQ P (runtimePanic .nilDeref:Sem Next)from aQ.runtimePanic _)
   |some a=>obtain⟨a',rfl,ha⟩:=ha;exact ai.pure' ⟨_,rfl,hx⟩
  cases f<;>first|exact hf.elim|exact ai.pure' ⟨_,rfl,hx⟩
 case binOp op t x y yt=>
  refine iX (ai.bind' (WK op t x y (hρ x ho.1) (hρ y ho.2)) λβ1 _ _ l1 _=>?_);exact WJ op t (l1.g▸hg) ((hρ x ho.1).mono l1) ((hρ y ho.2).mono l1)
 case unOp op t x=>exact iX (WL op (hρ x ho))
 case convert s d x=>exact iX (Xf ho.1 (hρ x ho.2))
 case makeInterface t x=>exact iX (WX (hρ x ho))
 case makeFunc fn first cap=>
  cases fn<;>first|exact(ya ho).elim|skip
  rename_i f;simp only[kS]at ho;exact iX (ai.pure' (pR.2 ⟨hL f ho.1.1,_,_,rfl,Io hρ ho.1.2,Io hρ ho.2⟩))
 case makeMap t r=>
  cases r with
  |some r=>exact(ya ho).elim
  |none=>exact iX WY
 case makeSlice t l c=>exact iX (W7 ho.1.1 (hρ l ho.1.2) (hρ c ho.2))
 case slice t x l hh m=>exact iX (Xc (hρ x ho.1.1.1) (Iq hρ ho.1.1.2) (Iq hρ ho.1.2) (Iq hρ ho.2))
 case fieldAddr s x i=>exact iX (WR ho.1 (hρ x ho.2))
 case field s x i=>exact iX (WT (hρ x ho))
 case indexAddr t x y=>exact iX (WV (hρ x ho.1) (hρ y ho.2))
 case index t x y=>exact iX (WU (hρ x ho.1) (hρ y ho.2))
 case lookup t x y ok=>exact iX (Xh ho.1.1 hg (hρ x ho.1.2) (hρ y ho.2) ok)
 case mapUpdate t x y z=>exact Im (NC hg (hρ x ho.1.1) (hρ y ho.1.2) (hρ z ho.2))
 case insert t x y z=>exact Im (NC hg (hρ x ho.1.1) (hρ y ho.1.2) (hρ z ho.2))
 case range t x=>exact iX (Xl ho.1 (hρ x ho.2))
 case next x b=>
  obtain rfl:=ho.1;exact iX (Xm (hρ x ho.2))
 case typeAssert x xt t ok=>exact iX (Xd (hρ x ho.2) xt t ok ho.1)
 case extract x i=>exact iX (WW (hρ x ho) i)
 case call c=>
  have ha:=Io hρ ho.1;have hc:=ho.2;unfold resolve
  cases hh:c.callee with
  |value f=>rw[hh]at hc;exact XD hg iu hF (hρ f hc) ha
  |invoke r m=>
   rw[hh]at hc;simp only[kS]at hc;exact XG hg iu hF hL hc.2 (hρ r hc.1) ha
  |builtin b=>
   rw[hh]at hc
   cases b<;>first|exact(ya hc).elim|skip
   case append=>exact iX (Xu _ hc ha)
   case len=>exact iX (XC _ _ ha)
   case min=>exact iX (Xs _ _ ha)
end
open Go.Conc
section
variable {P:Program}{β:aK}{okL:List FuncId}{gl:Gl}
def NI(P:Program)(okL:List FuncId)(gl:Gl)(ops:Array Oper):Bool:=ops.toList.all λo=>Op.fine P okL gl o.op
def Code.fine(P:Program)(okL:List FuncId)(gl:Gl):Code->Bool
 |.skip|.ret|.exit _=>true
 |.region _ ops _=>NI P okL gl ops
 |.seq a b=>Code.fine P okL gl a&&Code.fine P okL gl b
 |.cond c a b=>dN okL gl c&&(Code.fine P okL gl a&&Code.fine P okL gl b)
 |.block _ c|.loop c=>Code.fine P okL gl c
 |_=>false
def Item.fine(P:Program)(okL:List FuncId)(gl:Gl):Item->Bool
 |.code c|.inLoop c=>Code.fine P okL gl c
 |.inBlock _=>true
 |.inRegion ops _=>NI P okL gl ops
 |_=>false
structure Cx(P:Program)(okL:List FuncId)(gl:Gl)(β:aK):Prop where
 g:β.g=P.globals.size
 F:B8 P β.fn gl
 L:∀f,okL.contains f=true->β.fn f
 nI:∀x,gl.contains x=true->β.any x x
 body:∀f fn c,β.fn f->gl.X.contains f=false->P.funcs[f]?=U fn->fn.body=U c->Code.fine P okL gl c=true
 NJ:∀f,β.fn f->P.inits.idxOf? f=J
def NK(P:Program)(f:FuncId):Prop:=(∃fn,P.funcs[f]?=U fn)/\P.inits.idxOf? f=J
def Cx.mono{γ:aK}(h:β.le γ)(k:Cx P okL gl β):Cx P okL gl γ:=
 ⟨h.g▸k.g,h.fn▸k.F,h.fn▸k.L,λx hx=>h.any (k.nI x hx),h.fn▸k.body,h.fn▸k.NJ⟩
def NL(hc:Cx P okL gl β){a a':Act}(h:RL β a.tmps a'.tmps)(x:Operand)(hx:dN okL gl x=true):RV β (a.eval x) (a'.eval x):=by
 cases x with
 |tmp t=>exact bh.getD h t (iW.2 ⟨_,rfl,bh.empty⟩)
 |const v=>exact xY hx
 |global g=>exact rN ⟨hc.nI g hx,rfl,rfl⟩
 |func f=>exact pR.2 ⟨hc.L f hx,_,_,rfl,bh.empty,bh.empty⟩
def qK(P:Program)(okL:List FuncId)(gl:Gl)(β:aK)(fr mO:Frame):Prop:=
 ∃b a a' k,fr=Frame.at b a k/\mO=Frame.at b a' k/\RL β a.tmps a'.tmps/\a.defers=[]/\a'.defers=[]/\b.kind=.normal/\(∀it∈k,Item.fine P okL gl it=true)/\NK P b.fn
def qK.mono{γ:aK}(h:β.le γ){x y:Frame}:qK P okL gl β x y->qK P okL gl γ x y
 |⟨b,a,a',k,e,e',l,d,d',kk,it,f⟩=>⟨b,a,a',k,e,e',RL.mono h l,d,d',kk,it,f⟩
def uT(P:Program)(okL:List FuncId)(gl:Gl)(β:aK):List Frame->List Frame->Prop
 |[],ys=>ys=[]
 |x::xs,ys=>∃y zs,ys=y::zs/\qK P okL gl β x y/\uT P okL gl β xs zs
def uT.mono{γ:aK}(h:β.le γ):∀{xs ys:List Frame},uT P okL gl β xs ys->uT P okL gl γ xs ys
 |[],_,k=>k
 |_::_,_,⟨y,zs,e,a,b⟩=>⟨y,zs,e,a.mono h,b.mono h⟩
def RG(P:Program)(okL:List FuncId)(gl:Gl)(β:aK)(base rest:List Frame)(g g':Goroutine):Prop:=
 ∃fr mO fs iw,g=G fr (fs++base)/\g'=G mO (iw++rest)/\uT P okL gl β fs iw/\(qK P okL gl β fr mO\/(∃f f',qK P okL gl β f f'/\fr={ f with mode:=.returning }/\mO={ f' with mode:=.returning })\/∃f xs ys,gl.X.contains f=true/\RL β xs ys/\fr=Frame.enter P f xs .normal/\mO=Frame.enter P f ys .normal)
def Bad(cs:List Frame)(s:GStep):Prop:=(∃o w,s.bare=.ended o w)\/∃(fr:Frame) (chain:List PanicEntry) (w:ah),s.bare=.go (G { fr with mode:=.panicking chain } cs) w/\fr.defers=[]
def Af(P:Program)(okL:List FuncId)(gl:Gl)(main:Bool)(β:aK)(base rest:List Frame)(v w:ah)(g g':Goroutine):Prop:=
 (∃hi τ,∀τ',oO v.drawn hi τ τ'->Bad g.callers (stepG P true g (cd v τ'))) \/
 ∃g1 v1 wO w1 es β',(v.drawn<=v1.drawn/\∃τ,∀τ',oO v.drawn v1.drawn τ τ'->(stepG P true g (cd v τ')).bare=.go g1 (cd v1 τ'))/\stepG P main g' w=.go wO w1 es/\RG P okL gl β' base rest g1 wO/\RW β' v1 w1/\Fx β β' w w1/\∀e∈es,oQ β' e
variable {main:Bool}{base rest:List Frame}{v w:ah}{g g':Goroutine}
def pU{g1 wO:Goroutine}(r:RW β v w)(h:∀v,stepG P true g v=.go g1 v)(h':stepG P main g' w=.go wO w)(hg:RG P okL gl β base rest g1 wO):Af P okL gl main β base rest v w g g':=
 .inr ⟨g1,v,wO,w,#[],β,⟨aR _,v.tape,λτ _=>by rw[h];rfl⟩,h',hg,r,.refl _ _,by simp⟩
def NM(h:∀v,∃o w,(stepG P true g v).bare=.ended o w):Af P okL gl main β base rest v w g g':=
 .inl ⟨0,v.tape,λ_ _=>.inl (h _)⟩
def nJ{P:Program}{okL:List FuncId}{gl:Gl}{x:Item}{k:List Item}(hx:Item.fine P okL gl x=true)(hk:∀it∈k,Item.fine P okL gl it=true):∀it∈x::k,Item.fine P okL gl it=true:=by
 intro it h
 rcases fu.1 h with rfl|h
 ·exact hx
 exact hk it h
def NN{id:Nat}:∀{k k':List Item},exitTo id k=U k'->∀it∈k',it∈k
 |[],_,h=>by simp[exitTo]at h
 |x::k,k',h=>by
  have NP:exitTo id k=U k'->∀it∈k',it∈x::k:=λh it hi=>v_ _ (NN h it hi)
  cases x<;>simp only[exitTo]at h<;>first|exact NP h|skip
  split at h
  ·cases h;exact λit hi=>v_ _ hi
  exact NP h
def XJ(h:RL β ts oU)(ops:Array Oper)(j:Nat):yielded ops ts j=yielded ops oU j:=by
 unfold yielded
 cases (ops[j]?).bind (·.dst)with
 |none=>rfl
 |some d=>
  simp only[Aa]
  rcases h.get d with⟨p,q⟩|⟨x,y,p,q,k⟩
  ·rw[p,q]
  rw[p,q]
  rcases k.ways with⟨b,rfl,rfl⟩|⟨k,n,rfl,rfl⟩|⟨s,rfl,rfl⟩|⟨a,a',rfl,rfl,ha⟩|⟨a,a',l,c,rfl,rfl,ha⟩|⟨r,r',rfl,rfl,hr⟩|⟨rfl,rfl⟩|⟨f,xs,ys,us,vs,rfl,rfl,hf,_⟩|⟨rfl,rfl⟩|⟨t,v,v',rfl,rfl,hv⟩|⟨rfl,rfl⟩|⟨xs,ys,rfl,rfl,h1⟩|⟨xs,ys,rfl,rfl,h1⟩<;>rfl
def XK(h:RL β ts oU)(ops:Array Oper)(o:Oper):Region.wanted o (yielded ops ts)=Region.wanted o (yielded ops oU):=by
 rw[show yielded ops ts=yielded ops oU from funext (XJ h ops)]
def EC{a a':Act}(h:RL β a.tmps a'.tmps)(d:Option Tmp)(k:RV β x y):RL β (a.put d x).tmps (a'.put d y).tmps:=by
 cases d with
 |none=>exact h
 |some d=>exact bh.set h d k
def put_defers(a:Act)(d:Option Tmp)(x:aj):(a.put d x).defers=a.defers:=by cases d<;>rfl
def NQ{e:Event}(f:Bool×Array Event->Event->Bool×Array Event)(hf:∀x y,e∈(f x y).2->e∈x.2\/e=y):∀(l:List Event) (x:Bool×Array Event),e∈(l.foldl f x).2->e∈x.2\/e∈l
 |[],_,h=>.inl h
 |y::l,x,h=>by
  rw[List.foldl_cons]at h
  rcases NQ f hf l _ h with h|h
  ·rcases hf x y h with h|rfl
   ·exact .inl h
   exact .inr (.head _)
  exact .inr (.tail _ h)
def mem_seen{fn:FuncId}{e:Event}(h:e∈seen P fn es):e∈es:=by
 dsimp only [seen]at h
 rw[<- Array.foldl_toList]at h;have:=NQ (e:=e) _ (by
  rintro⟨q,kept⟩ y h;dsimp only at h⊢
  split at h
  ·exact .inl h
  dsimp only at h
  split at h
  ·exact .inl h
  exact Array.mem_push.1 h) es.toList _ h
 rcases this with h|h
 ·simp at h
 exact Array.mem_toList_iff.1 h
def stepG_enter{b:Frame}{a:Act}{k:List Item}{cs:List Frame}{w w':ah}{todo:List Nat}{o:Oper}{f:FuncId}{args:Array aj}(ho:ops[i]?=U o)(hw:Region.wanted o (yielded ops a.tmps)=true)
  (hk:b.kind≠.early) (hr:(execOp a.eval o).run P w=.ok (.enter f args) w'):stepG P main (G (b.at a (.inRegion ops (i::todo)::k)) cs) w=.go (G (Frame.enter P f args .normal) (b.at a (.inRegion ops (i::todo)::k)::cs)) w' (listed P b.fn a o w):=by
 have iq:(b.kind==CallKind.early)=false:=by simpa using hk
 rw[stepG_oper ho hw];simp[stepG.apply,hr,G,Frame.at,iq,GStep.after,listed]
def NR{b:Frame}{a:Act}{k:List Item}{cs:List Frame}{w w':ah}{todo:List Nat}{o:Oper}{h:Halt}(ho:ops[i]?=U o)(hw:Region.wanted o (yielded ops a.tmps)=true)(hd:a.defers=[])
  (hh:mJ h) (hr:(execOp a.eval o).run P w=.halt h w'):Bad cs (stepG P true (G (b.at a (.inRegion ops (i::todo)::k)) cs) w):=by
 rw[stepG_oper ho hw]
 cases h with
 |panic x=>exact .inr ⟨b.at a (.inRegion ops (i::todo)::k),[{ v:=x,recovered:=false }],w',by simp[stepG.apply,hr,G,Frame.raise_at],hd⟩
 |stuck s=>exact .inl ⟨_,_,by simp[stepG.apply,hr];exact⟨rfl,rfl⟩⟩
 |unsupported u=>cases u<;>first|exact hh.elim|exact .inl ⟨_,_,by simp[stepG.apply,hr];exact⟨rfl,rfl⟩⟩
 |_=>exact hh.elim
def NS(hc:Cx P okL gl β)(hf:β.fn f)(hX:gl.X.contains f=false)(h:RL β xs ys)(hb:∃fn c,P.funcs[f]?=U fn/\fn.body=U c):qK P okL gl β (Frame.enter P f xs .normal) (Frame.enter P f ys .normal):=by
 obtain⟨fn,c,h1,h2⟩:=hb
 refine⟨Frame.enter P f #[] .normal,⟨_,[]⟩,⟨_,[]⟩,_,rfl,rfl,?_,rfl,rfl,rfl,?_,⟨fn,h1⟩,hc.NJ f hf⟩
 ·rw[h.1];exact bh.append h (bh.replicate _ (iW.2 ⟨_,rfl,bh.empty⟩))
 ·intro it hi
  have hi:it=.code ((((P.funcs[f]?).bind (·.body)).getD (.refuse "unsupported: a function without a Go body is entered"))):=by simpa using hi
  rw[hi,h1];simp only[Aa,h2,bC];exact hc.body f fn c hf hX h1 h2
def XL(x:aj)(w:ah):∃h w',(Instr.panic x).run P w=.halt h w'/\mJ h:=by
 unfold Instr.panic
 cases x<;>try exact⟨_,_,rfl,trivial⟩
 unfold Instr.panicnil;simp only[kT];have:∀w,(Go.sys Sys.env).run P w=.ok (w.sys Sys.env).1 (w.sys Sys.env).2:=λw=>rfl
 rw[this];simp only[Result.andThen];generalize (w.sys Sys.env).2=w2
 cases (w.sys Sys.env).1<;>try exact⟨_,_,rfl,trivial⟩
 simp only[kT];have hp:∀w,(Go.program).run P w=.ok P w:=λw=>rfl
 simp only[hp,Result.andThen,uF]
 split
 ·exact⟨_,_,rfl,trivial⟩
 ·show ∃h w',((elemOf P.rt.panicNilError >>= λe=>newVar e (.agg #[]) >>= λr=>goPanic (.iface P.rt.panicNilError (.pointer (U r))):Sem aj)).run P w2=.halt h w'/\mJ h
  simp only[kT]
  have hu:(underlying P.rt.panicNilError).run P w2=match P.underlying P.rt.panicNilError with|some d=>.ok d w2|none=>.halt (.stuck "no such type") w2:=by
   unfold underlying;simp only[kT,hp,Result.andThen]
   cases P.underlying P.rt.panicNilError<;>rfl
  unfold elemOf;simp only[kT,hu]
  cases P.underlying P.rt.panicNilError with
  |none=>exact⟨_,_,rfl,trivial⟩
  |some d=>cases d<;>exact⟨_,_,rfl,trivial⟩
def XM(hc:Cx P okL gl β)(r:RW β v w){b:Frame}{a a':Act}{k:List Item}{fs:List Frame}(hl:RL β a.tmps a'.tmps)(hd:a.defers=[])(lT:a'.defers=[])(hk:b.kind=.normal)(hi:∀it∈k,Item.fine P okL gl it=true)(hf:NK P b.fn)(jN:uT P okL gl β fs iw):Af P okL gl main β base rest v w (G (Frame.at b a k) (fs++base)) (G (Frame.at b a' k) (iw++rest)):=by
 have tW:∀{k':List Item},(∀it∈k',Item.fine P okL gl it=true)->RG P okL gl β base rest (G (Frame.at b a k') (fs++base)) (G (Frame.at b a' k') (iw++rest)):=
  λ{k'} h=>⟨_,_,fs,iw,rfl,rfl,jN,.inl ⟨b,a,a',k',rfl,rfl,hl,hd,lT,hk,h,hf⟩⟩
 have ret:∀{k':List Item},(∀it∈k',Item.fine P okL gl it=true)->RG P okL gl β base rest (G { Frame.at b a k' with mode:=.returning } (fs++base)) (G { Frame.at b a' k' with mode:=.returning } (iw++rest)):=
  λ{k'} h=>⟨_,_,fs,iw,rfl,rfl,jN,.inr (.inl ⟨_,_,⟨b,a,a',k',rfl,rfl,hl,hd,lT,hk,h,hf⟩,rfl,rfl⟩)⟩
 cases k with
 |nil=>exact pU r (λ_=>stepG_end) stepG_end (ret hi)
 |cons x k=>
  have hx:=hi x (.head _);have iq:∀it∈k,Item.fine P okL gl it=true:=λit h=>hi it (.tail _ h)
  cases x with
  |inBlock id=>exact pU r (λ_=>stepG_inBlock) stepG_inBlock (tW iq)
  |inLoop c=>exact pU r (λ_=>stepG_inLoop) stepG_inLoop (tW (nJ hx (nJ hx iq)))
  |code c=>
   cases c with
   |skip=>exact pU r (λ_=>stepG_skip) stepG_skip (tW iq)
   |ret=>exact pU r (λ_=>by simp[G,stepG,stepG.exec,Frame.at]) (by simp[G,stepG,stepG.exec,Frame.at]) (ret hi)
   |seq x y=>
    simp only[Item.fine,Code.fine,kS]at hx;exact pU r (λ_=>stepG_seq) stepG_seq (tW (nJ hx.1 (nJ hx.2 iq)))
   |block id c=>exact pU r (λ_=>stepG_block) stepG_block (tW (nJ hx (nJ rfl iq)))
   |loop c=>exact pU r (λ_=>stepG_loop) stepG_loop (tW (nJ hx (nJ hx iq)))
   |exit id=>
    cases he:exitTo id k with
    |none=>exact NM λv=>by simp[G,stepG,stepG.exec,Frame.at,he]
    |some k2=>exact pU r (λ_=>stepG_exit he) (stepG_exit he) (tW λit h=>iq it (NN he it h))
   |cond c x y=>
    simp only[Item.fine,Code.fine,kS]at hx;have hv:=NL hc hl c hx.1
    cases hb:a.eval c with
    |bool t=>
     rw[hb]at hv;have hb':=fM.1 hv
     refine pU r (λ_=>stepG_cond hb) (stepG_cond hb') (tW (nJ ?_ iq))
     cases t
     ·exact hx.2.2
     exact hx.2.1
    |_=>
     refine NM λv=>?_
     have hb2:(Frame.at b a (.code (.cond c x y)::k)).eval c=a.eval c:=Frame.eval_at _ _ _ _;rw[hb]at hb2;simp only[Frame.at]at hb2;simp[G,stepG,stepG.exec,Frame.at,hb2]
   |region id ops draw=>
    cases draw with
    |false=>exact pU r (λ_=>stepG_region) stepG_region (tW (nJ hx iq))
    |true=>
     have s1:∀{m:Bool} {a:Act} {cs:List Frame} (v:ah),stepG P m (G (Frame.at b a (.code (.region id ops true)::k)) cs) v =
       .go (G (Frame.at b a (.inRegion ops (Region.schedule (P.follows .mixedOrders) ops (v.tape v.drawn (.order b.fn id)))::k)) cs) { v with drawn:=v.drawn+1 }:=by
      intro m a cs v;simp[G,stepG,stepG.exec,Frame.at,choose,Sem.run,Question.forced,Question.cut]
     refine .inr ⟨_,{ v with drawn:=v.drawn+1 },_,_,#[],β,⟨Nat.le_succ _,λ_ _=>w.tape w.drawn (.order b.fn id),λτ hA=>?_⟩,s1 w,tW (nJ hx iq),⟨r.own,r.ro,r.tok,r.inj,r.oP,r.uQ,r.qG,r.nI,r.gv,r.gw⟩,⟨β.le_refl,λ_ _ h=>.inl h,aR _,λ_ _ _=>rfl,rfl,rfl,rfl⟩,by simp⟩;rw[s1];have:=hA v.drawn (aR _) (wh _);simp only[GStep.bare_go];rw[show (cd v τ).tape (cd v τ).drawn (.order b.fn id)=w.tape w.drawn (.order b.fn id)from congrFun this _];rfl
   |_=>exact(ya hx).elim
  |inRegion ops todo=>
   cases todo with
   |nil=>exact pU r (λ_=>stepG_region_end) stepG_region_end (tW iq)
   |cons i todo=>
    have hw:∀o,ops[i]?=U o->Region.wanted o (yielded ops a.tmps)=Region.wanted o (yielded ops a'.tmps):=λo _=>XK hl ops o
    have NT:∀{m:Bool} {a:Act} {cs:List Frame} (v:ah),((ops[i]?).map (Region.wanted · (yielded ops a.tmps))).getD false=false->stepG P m (G (Frame.at b a (.inRegion ops (i::todo)::k)) cs) v=.go (G (Frame.at b (a.put ((ops[i]?).bind (·.dst)) undef) (.inRegion ops todo::k)) cs) v:=by
     intro m a cs v h;rw[<- Frame.finish_at];have h':=h;simp only[Frame.at]at h'⊢;simp[G,stepG,stepG.exec,h']
    have NU:∀(h:((ops[i]?).map (Region.wanted · (yielded ops a.tmps))).getD false=false) (h':((ops[i]?).map (Region.wanted · (yielded ops a'.tmps))).getD false=false),Af P okL gl main β base rest v w (G (Frame.at b a (.inRegion ops (i::todo)::k)) (fs++base)) (G (Frame.at b a' (.inRegion ops (i::todo)::k)) (iw++rest)):=λh h'=>
     pU r (λv=>NT v h) (NT w h') ⟨_,_,fs,iw,rfl,rfl,jN,.inl ⟨b,_,_,_,rfl,rfl,EC hl _ (iW.2 ⟨_,rfl,bh.empty⟩),(put_defers _ _ _).trans hd,(put_defers _ _ _).trans lT,hk,nJ hx iq,hf⟩⟩
    cases ho:ops[i]? with
    |none=>exact NU (by rw[ho];rfl) (by rw[ho];rfl)
    |some o=>
     cases hwt:Region.wanted o (yielded ops a.tmps)with
     |false=>exact NU (by rw[ho];simpa using hwt) (by rw[ho];simpa using(hw o ho)▸hwt)
     |true=>
      have Ir:Region.wanted o (yielded ops a'.tmps)=true:=(hw o ho)▸hwt;have G3:Op.fine P okL gl o.op=true:=mB.1 hx o (by simpa using bU ho);have Ag:b.kind≠.early:=by rw[hk];decide
      by_cases NV:∃x,o.op=.panic x
      ·obtain⟨x,dR⟩:=NV
       refine .inl ⟨0,v.tape,λτ' _=>?_⟩;obtain⟨h,v2,hh,hk2⟩:=XL (P:=P) (a.eval x) (cd v τ')
       refine NR ho hwt hd hk2 (w':=v2) ?_;unfold execOp;rw[dR];simp only[kT,hh,Result.andThen]
      have hs:=XH hc.g hc.nI hc.F hc.L (NL hc hl) o G3 (λx e=>NV ⟨x,e⟩) v w r
      rcases Mw.run _ _ hs with⟨nK,τ,hb⟩|⟨n,v1,⟨n',w1,es,β',x1,x2,x3,x4,x5⟩,hle,τ,hr⟩
      ·refine .inl ⟨nK,τ,λτ' hA=>?_⟩;obtain⟨h,v2,hh,hk2⟩:=hb τ' hA;exact NR ho hwt hd hk2 hh
      have hrun:(execOp a'.eval o).run P w=.ok n' w1:=by
       have:=Sem.runT_fst P (execOp a'.eval o) w #[];rw[x1]at this;exact this.symm
      have cP:(execOp a'.eval o).events P w #[]=es:=by unfold Sem.events;rw[x1];simp
      have Iu:∀e∈listed P b.fn a' o w,oQ β' e:=λe he=>x4 e (by
       have:=mem_seen he;rwa [cP]at this)
      cases n with
      |value x=>
       obtain⟨y,rfl,ky⟩:=x5;exact .inr ⟨_,v1,_,w1,_,β',⟨hle,τ,λτ' hA=>by rw[stepG_value ho hwt Ag (hr τ' hA)];rfl⟩,stepG_value ho Ir Ag hrun,
        ⟨_,_,fs,iw,rfl,rfl,jN.mono x3.le,.inl ⟨b,_,_,_,rfl,rfl,EC (RL.mono x3.le hl) _ ky,(put_defers _ _ _).trans hd,(put_defers _ _ _).trans lT,hk,nJ hx iq,hf⟩⟩,x2,x3,Iu⟩
      |skip=>
       cases x5
       exact .inr ⟨_,v1,_,w1,_,β',⟨hle,τ,λτ' hA=>by rw[stepG_none ho hwt Ag (hr τ' hA)];rfl⟩,stepG_none ho Ir Ag hrun,
        ⟨_,_,fs,iw,rfl,rfl,jN.mono x3.le,.inl ⟨b,_,_,_,rfl,rfl,EC (RL.mono x3.le hl) _ (iW.2 ⟨_,rfl,bh.empty⟩),(put_defers _ _ _).trans hd,(put_defers _ _ _).trans lT,hk,nJ hx iq,hf⟩⟩,x2,x3,Iu⟩
      |enter f xs=>
       obtain⟨ys,rfl,kl,kf,kb⟩:=x5
       refine .inr ⟨_,v1,_,w1,_,β',⟨hle,τ,λτ' hA=>by rw[stepG_enter ho hwt Ag (hr τ' hA)];rfl⟩,stepG_enter ho Ir Ag hrun,?_,x2,x3,Iu⟩
       refine⟨_,_,Frame.at b a (.inRegion ops (i::todo)::k)::fs,Frame.at b a' (.inRegion ops (i::todo)::k)::iw,rfl,rfl,⟨_,_,rfl,⟨b,a,a',_,rfl,rfl,RL.mono x3.le hl,hd,lT,hk,nJ hx iq,hf⟩,jN.mono x3.le⟩,?_⟩
       cases hX:gl.X.contains f with
       |false=>exact .inl (NS (hc.mono x3.le) kf hX kl kb)
       |true=>exact .inr (.inr ⟨f,xs,ys,hX,kl,rfl,rfl⟩)
      |_=>exact x5.elim
  |_=>exact(ya hx).elim
end
section
variable {P:Program}{β:aK}{okL:List FuncId}{gl:Gl}
variable {main:Bool}{base rest:List Frame}{v w:ah}{g g':Goroutine}
def XO(h:RL β ts oU)(x:ResultVar):ai P β (match x with
  |.tmp t=>pure (ts.getD t undef)
  |.cell a t=>do loadVar t (<- asAddr (ts.getD a undef))) (match x with
  |.tmp t=>pure (oU.getD t undef)
  |.cell a t=>do loadVar t (<- asAddr (oU.getD a undef))) RV:=by
 have hd:∀t,RV β (ts.getD t undef) (oU.getD t undef):=λt=>bh.getD h t (iW.2 ⟨_,rfl,bh.empty⟩)
 cases x with
 |tmp t=>exact ai.pure' (hd t)
 |cell a t=>exact ai.bind' (Er (hd a)) λβ1 a a' _ k=>wI k t
def NW{f f':ResultVar->Sem aj}:∀(xs:List ResultVar) {β:aK},(∀β' x,β.le β'->ai P β' (f x) (f' x) RV)->ai P β (xs.mapM f) (xs.mapM f') mM
 |[],β,_=>by rw[List.mapM_nil,List.mapM_nil];exact ai.pure' rfl
 |x::xs,β,h=>by
  rw[List.mapM_cons,List.mapM_cons]
  refine ai.bind' (h β x β.le_refl) λβ1 y y' l1 ky=>?_
  refine ai.bind' (NW xs λβ' x le=>h β' x (l1.trans le)) λβ2 z z' l2 kz=>?_
  exact ai.pure' ⟨_,_,rfl,ky.mono l2,kz⟩
def mM.arr:∀{xs ys:List aj},mM β xs ys->RL β xs.toArray ys.toArray:=by
 have key:∀{xs ys:List aj},mM β xs ys->xs.length=ys.length/\∀(i:Nat) (x y:aj),xs[i]?=U x->ys[i]?=U y->RV β x y:=by
  intro xs
  induction xs with
  |nil=>intro ys h;cases h;exact⟨rfl,λi x y h=>by simp at h⟩
  |cons x xs ih=>
   rintro ys ⟨y,zs,rfl,a,b⟩;obtain⟨h1,h2⟩:=ih b
   refine⟨by simp[h1],λi u z hu hz=>?_⟩
   cases i with
   |zero=>simp at hu hz;subst hu;subst hz;exact a
   |succ i=>exact h2 i u z (by simpa using hu) (by simpa using hz)
 intro xs ys h;obtain⟨h1,h2⟩:=key h;exact⟨by simpa using h1,λi x y hx hy=>h2 i x y (by simpa using hx) (by simpa using hy)⟩
def NX(fn:Func)(h:RL β ts oU):ai P β (results fn ts) (results fn oU) RV:=by
 unfold results;rw[BX,BX]
 refine ai.bind' (ai.bind' (NW fn.results.toList λβ' x le=>XO (RL.mono le h) x) λβ1 xs ys _ k=>ai.pure' (Q:=RL) k.arr) λβ2 xs ys _ k=>?_
 refine ai.pure' ?_
 by_cases hs:xs.size=1
 ·have hs':ys.size=1:=k.1▸hs;rw[dif_pos hs,dif_pos hs'];exact k.2 0 _ _ (eB (by omega)) (eB (by omega))
 have hs':¬ys.size=1:=k.1▸hs;rw[dif_neg hs,dif_neg hs'];exact iW.2 ⟨_,rfl,k⟩
def Iw{b:Frame}{a:Act}{k:List Item}{c:Frame}{cs:List Frame}{w:ah}(hd:a.defers=[])(hk:b.kind=.normal)(hf:P.funcs[b.fn]?=U fn)(hr:(results fn a.tmps).runT P w #[]=(.ok x w',es)):stepG P main (G { Frame.at b a k with mode:=.returning } (c::cs)) w=.go (G (c.finish x) cs) w' (seen P b.fn es):=by
 have e1:(results fn a.tmps).run P w=.ok x w':=by have:=Sem.runT_fst P (results fn a.tmps) w #[];rw[hr]at this;exact this.symm
 have e2:(results fn a.tmps).events P w #[]=es:=by unfold Sem.events;rw[hr]
 simp[stepG,unwind,doReturn,G,Frame.at,hd,hk,hf,e1,e2,GStep.after]
def XP{b:Frame}{a:Act}{k:List Item}{cs:List Frame}{w:ah}{h:Halt}(hd:a.defers=[])(hf:P.funcs[b.fn]?=U fn)(hr:(results fn a.tmps).run P w=.halt h w'):∃o w',(stepG P true (G { Frame.at b a k with mode:=.returning } cs) w).bare=.ended o w':=by
 cases h<;>exact⟨_,_,by simp[stepG,unwind,G,Frame.at,hd,hf,hr];exact⟨rfl,rfl⟩⟩
def XQ{c:Frame}(h:qK P okL gl β c c')(k:RV β x y):qK P okL gl β (c.finish x) (c'.finish y):=by
 obtain⟨b,a,a',ks,rfl,rfl,hl,hd,lT,hk,hi,hf⟩:=h
 cases ks with
 |nil=>exact⟨b,a,a',_,rfl,rfl,hl,hd,lT,hk,hi,hf⟩
 |cons it ks=>
  have hit:=hi it (.head _)
  cases it<;>first|exact(ya hit).elim|exact⟨b,a,a',_,rfl,rfl,hl,hd,lT,hk,hi,hf⟩|skip
  rename_i ops todo
  cases todo with
  |nil=>exact⟨b,a,a',_,rfl,rfl,hl,hd,lT,hk,hi,hf⟩
  |cons i todo=>
   rw[Frame.finish_at,Frame.finish_at];exact⟨b,_,_,_,rfl,rfl,EC hl _ k,(put_defers _ _ _).trans hd,(put_defers _ _ _).trans lT,hk,nJ hit λit h=>hi it (.tail _ h),hf⟩
def XR(hc:Cx P okL gl β)(r:RW β v w){f f' c:Frame}{fs:List Frame}(h:qK P okL gl β f f')(hcc:qK P okL gl β c c')(jN:uT P okL gl β fs iw):Af P okL gl main β base rest v w (G { f with mode:=.returning } (c::fs++base)) (G { f' with mode:=.returning } (c'::iw++rest)):=by
 obtain⟨b,a,a',k,rfl,rfl,hl,hd,lT,hk,hi,hf⟩:=h;obtain⟨fn,hfn⟩:=hf.1;have hs:=NX (P:=P) fn hl v w r
 rcases Mw.run _ _ hs with⟨nK,τ,hb⟩|⟨x,v1,⟨y,w1,es,β',x1,x2,x3,x4,x5⟩,hle,τ,hr⟩
 ·refine .inl ⟨nK,τ,λτ' hA=>.inl ?_⟩;obtain⟨h,v2,hh,_⟩:=hb τ' hA;exact XP hd hfn hh
 have x0:=x1 #[];rw[Array.empty_append]at x0
 refine .inr ⟨_,v1,_,w1,_,β',⟨hle,τ,λτ' hA=>?_⟩,Iw lT hk hfn x0,⟨_,_,fs,iw,rfl,rfl,jN.mono x3.le,.inl (XQ (hcc.mono x3.le) x5)⟩,x2,x3,λe he=>x4 e (mem_seen he)⟩;have:(results fn a.tmps).runT P (cd v τ') #[]=(.ok x (cd v1 τ'),(results fn a.tmps).events P (cd v τ') #[]):=by rw[Sem.runT_eq,hr τ' hA]
 rw[rp,Iw hd hk hfn this];rfl
end
section
variable {P:Program}{β:aK}{okL:List FuncId}{gl:Gl}
variable {main:Bool}{rest:List Frame}{v w:ah}{g g':Goroutine}
def cst(P:Program):Frame:={ fn:=P.funcs.size, tmps:=#[], todo:=[.call { target:=.nil, args:=#[] } false "fmt's door" #[]], defers:=[], mode:=.run, kind:=.normal }
def lU(g:Goroutine)(w:ah):Machine:={ world:=w,gs:=#[g],rest:={ timers:=#[],alone:=J,slice:=J } }
def B9(P:Program)(g:Goroutine):Prop:=∃fr:Frame,fr.mode=.returning/\g=G fr [cst P]
def ED(P:Program)(fr:Frame)(cs:List Frame):Prop:=(∃ch,fr.mode=.panicking ch)/\fr.defers=[]/\((∃fs,cs=fs++[cst P]/\∀f∈fs,f.defers=[]/\f.mode=.run)\/(cs=[]/\fr.fn=P.funcs.size/\fr.todo=(cst P).todo))
def XS(h:ED P fr cs)(w:ah):(∃o w',step P (lone fr cs w)=.ended o w')\/∃mO cs',step P (lone fr cs w)=.next (lone mO cs' w)/\ED P mO cs':=by
 obtain⟨⟨ch,hm⟩,hd,hc⟩:=h;have hend:fr.catches P=true->∃o w',step P (lone fr cs w)=.ended o w':=λB_=>⟨_,_,step_lone_ended (by simp[stepG,unwind,hm,hd,B_];exact⟨rfl,rfl⟩)⟩
 by_cases B_:fr.catches P=true
 ·exact .inl (hend B_)
 have XT:fr.catches P=false:=by simpa using B_
 rcases hc with⟨fs,rfl,jN⟩|⟨rfl,hf,ht⟩
 ·have pop:∀(c:Frame) (r:List Frame),step P (lone fr (c::r) w)=.next (lone (c.raise ch) r w):=λc r=>step_lone_go (by simp[stepG,unwind,hm,hd,XT])
  cases fs with
  |nil=>
   refine .inr ⟨_,_,pop _ _,⟨_,rfl⟩,rfl,.inr ⟨rfl,rfl,rfl⟩⟩
  |cons c fs=>
   obtain⟨h1,h2⟩:=jN c (.head _);have hr:c.raise ch={ c with mode:=.panicking ch }:=by unfold Frame.raise;rw[h2]
   refine .inr ⟨_,_,pop c (fs++[cst P]),?_⟩;rw[hr];exact⟨⟨ch,rfl⟩,h1,.inl ⟨fs,rfl,λf hf=>jN f (.tail _ hf)⟩⟩
 exfalso
 apply B_
 unfold Frame.catches;rw[hf,ht,sO (aR _)];simp only[cst];decide +kernel
def XU(h:ED P fr cs){w:ah}:∀(n:Nat) {m:Machine},runN P n (lone fr cs w)=.next m->∃mO cs',m=lone mO cs' w/\ED P mO cs':=by
 intro n
 induction n generalizing fr cs with
 |zero=>intro m hm;simp only[runN,Stepped.next.injEq]at hm;exact⟨fr,cs,hm.symm,h⟩
 |succ n ih=>
  intro m hm;simp only[runN]at hm
  rcases XS h w with⟨o,w',e⟩|⟨mO,cs',e,h'⟩
  ·rw[e]at hm;cases hm
  rw[e]at hm;exact ih h' hm
def XV{mO:Frame}{v v':ah}(hm:fr.mode=.returning)(hd:fr.defers=[])(hk:fr.kind=.normal)(hf:∃fn,P.funcs[fr.fn]?=U fn)(h:runN P (n+1) (lone fr [cst P] v)=.next (lone mO [cst P] v')):False:=by
 obtain⟨fn,hfn⟩:=hf;simp only[runN]at h
 cases hr:(results fn fr.tmps).run P v with
 |halt x v2=>
  have:∃o w',step P (lone fr [cst P] v)=.ended o w':=by
   cases x<;>exact⟨_,_,step_lone_ended (by simp[stepG,unwind,hm,hd,hfn,hr];exact⟨rfl,rfl⟩)⟩
  obtain⟨o,w',e⟩:=this;rw[e]at h;cases h
 |ok x v2=>
  have e:step P (lone fr [cst P] v)=.next (lone ((cst P).finish x) [] v2):=step_lone_go (by simp[stepG,unwind,doReturn,hm,hd,hk,hfn,hr]);rw[e]at h;have e2:∃o w',step P (lone ((cst P).finish x) [] v2)=.ended o w':=by
   have hx:Extern.next "fmt's door" = J:=rfl
   exact⟨_,_,step_lone_ended (by simp[stepG,stepG.exec,cst,Frame.finish,hx];exact⟨rfl,rfl⟩)⟩
  obtain⟨o,w',e2⟩:=e2
  cases n with
  |zero=>
   simp only[runN,Stepped.next.injEq]at h;have:=iU (λm:Machine=>(m.gs[0]?).map (·.callers)) h;simp[lone]at this
  |succ n=>simp only[runN]at h;rw[e2]at h;cases h
abbrev ji:=Goroutine×World
def Stp(P:Program)(y x:ji):Prop:=¬B9 P x.1/\x.2.drawn<=y.2.drawn/\∃τ,∀τ',oO x.2.drawn y.2.drawn τ τ'->step P (lU x.1 (cd x.2 τ'))=.next (lU y.1 (cd y.2 τ'))
def Good(P:Program)(R:aj->ah->Prop)(x:ji):Prop:=∀τ,∃n fr y v',runN P n (lU x.1 (cd x.2 τ))=.next (lone fr [cst P] v')/\fr.leaving P v' (aH y)/\R y v'
def wP(P:Program)(x y:ji):Prop:=x.2.drawn<=y.2.drawn/\∃τ,∀τ',oO x.2.drawn y.2.drawn τ τ'->∃k,runN P k (lU x.1 (cd x.2 τ'))=.next (lU y.1 (cd y.2 τ'))/\∀j,j<k->∀m,runN P j (lU x.1 (cd x.2 τ'))=.next m->∃g w,m=lU g w/\¬B9 P g
def wP.refl(x:ji):wP P x x:=⟨aR _,x.2.tape,λ_ _=>⟨0,rfl,λ_ h=>absurd h (im _)⟩⟩
def NY(τ τ2:Nat->Question->Nat)(a b c:Nat):∀τ',oO a c (λi=>if i<b then τ i else τ2 i) τ'->a<=b->b<=c->oO a b τ τ'/\oO b c τ2 τ':=by
 intro τ' h h1 h2
 refine⟨λi p q=>?_,λi p q=>?_⟩
 ·have:=h i p (by omega);rw[this];simp only[aU q]
 have:=h i (by omega) q;rw[this];simp only[aF (show ¬i<b by omega)]
def wP.step{x y z:ji}(h:wP P x y)(k:Stp P z y):wP P x z:=by
 obtain⟨h1,τ,h2⟩:=h;obtain⟨k0,k1,τ2,k2⟩:=k
 refine⟨bH h1 k1,λi=>if i<y.2.drawn then τ i else τ2 i,λτ' hA=>?_⟩;obtain⟨a1,a2⟩:=NY τ τ2 _ _ _ τ' hA h1 k1;obtain⟨n,hn,hb⟩:=h2 τ' a1
 refine⟨n+1,by rw[runN_add,hn];simp[runN,k2 τ' a2],λj hj m hm=>?_⟩
 rcases BW.1 hj with hj|rfl
 ·exact hb j hj m hm
 rw[hn]at hm;cases hm;exact⟨_,_,rfl,k0⟩
def XW{m:Machine}{o:Outcome}{w:ah}(h:Go.step P m=.ended o w)(n:Nat):runN P (n+1) m=.ended o w:=by simp[runN,h]
def XX{R:aj->ah->Prop}{x:ji}{fs:List Frame}{v:ah}(hg:Good P R x)(hr:wP P x (G fr (fs++[cst P]),v))(hn:¬B9 P (G fr (fs++[cst P])))(jN:∀f∈fs,f.defers=[]/\f.mode=.run)
  (hb:∃hi τ,∀τ',oO v.drawn hi τ τ'->Bad (fs++[cst P]) (stepG P true (G fr (fs++[cst P])) (cd v τ'))):False:=by
 obtain⟨h1,τ,h2⟩:=hr;obtain⟨hi,τ2,hb⟩:=hb;obtain⟨a1,a2⟩:=NY τ τ2 x.2.drawn v.drawn (max hi v.drawn) (λi=>if i<v.drawn then τ i else τ2 i) (λ_ _ _=>rfl) h1 (by omega);obtain⟨k,hk,Ix⟩:=h2 _ a1;obtain⟨n,wQ,y,v',hrun,hl,_⟩:=hg (λi=>if i<v.drawn then τ i else τ2 i);have hT:∀{m:Machine},m=lone wQ [cst P] v'->∀{g w},m=lU g w->B9 P g:=by
  rintro m rfl g w e;have e1:=iU (λm:Machine=>m.gs[0]?) e;simp only[lone,lU]at e1;have e2:({ frame:=wQ,callers:=[cst P],status:=.running,dying:=J }:Goroutine)=g:=by simpa using e1
  exact⟨wQ,hl.1,e2.symm⟩
 rcases eC n k with hlt|yj
 ·obtain⟨g,w,e,g_⟩:=Ix n hlt _ hrun;exact g_ (hT rfl e)
 obtain⟨j,rfl⟩:=Nat.exists_eq_add_of_le yj;rw[runN_add,hk]at hrun;simp only at hrun
 cases j with
 |zero=>
  simp only[runN,Stepped.next.injEq]at hrun;exact hn (hT hrun rfl)
 |succ j=>
  rcases hb _ (λi p q=>a2 i p (by omega))with⟨o,w2,e⟩|⟨f2,ch,w2,e,hd⟩
  ·have:Go.step P (lU (G fr (fs++[cst P])) (cd v (λi=>if i<v.drawn then τ i else τ2 i)))=.ended o w2:=step_lone_ended e;rw[XW this]at hrun;cases hrun
  have:Go.step P (lU (G fr (fs++[cst P])) (cd v (λi=>if i<v.drawn then τ i else τ2 i)))=.next (lone { f2 with mode:=.panicking ch } (fs++[cst P]) w2):=step_lone_go e;simp only[runN,this]at hrun;obtain⟨f3,XY,e3,XZ⟩:=XU (P:=P) (fr:={ f2 with mode:=.panicking ch }) ⟨⟨ch,rfl⟩,hd,.inl ⟨fs,rfl,jN⟩⟩ j hrun;have e4:=iU (λm:Machine=>(m.gs[0]?).map (·.frame)) e3;simp only[lone]at e4;have e5:wQ=f3:=by simpa using e4
  obtain⟨c3,hc3⟩:=XZ.1;rw[<- e5,hl.1]at hc3
  cases hc3
def at_end{R:aj->ah->Prop}{x:ji}{v:ah}(hg:Good P R x)(hr:wP P x (G fr [cst P],v))(hm:fr.mode=.returning)(hd:fr.defers=[])(hk:fr.kind=.normal)(hf:∃fn,P.funcs[fr.fn]?=U fn):∀τf:Nat->Question->Nat,∃τ,(∀i,v.drawn<=i->τ i=τf i)/\∃y,fr.leaving P (cd v τ) (aH y)/\R y (cd v τ):=by
 intro τf;obtain⟨h1,τ0,h2⟩:=hr;obtain⟨τ,hτ⟩:∃τ:Nat->Question->Nat,τ=λi=>if i<v.drawn then τ0 i else τf i:=⟨_,rfl⟩
 refine⟨τ,λi hi=>by rw[hτ];simp only[aF (show ¬i<v.drawn by omega)],?_⟩;obtain⟨k,hk2,Ix⟩:=h2 τ λi _ hi=>by rw[hτ];simp only[aU (show i<v.drawn from hi)]
 obtain⟨n,wQ,y,v',hrun,hl,hR⟩:=hg τ
 rcases eC n k with hlt|yj
 ·obtain⟨g,w,e,g_⟩:=Ix n hlt _ hrun;have e1:=iU (λm:Machine=>m.gs[0]?) e;simp only[lone,lU]at e1;have e2:({ frame:=wQ,callers:=[cst P],status:=.running,dying:=J }:Goroutine)=g:=by simpa using e1
  exact absurd ⟨wQ,hl.1,e2.symm⟩ g_
 obtain⟨j,rfl⟩:=Nat.exists_eq_add_of_le yj;rw[runN_add,hk2]at hrun;simp only at hrun
 cases j with
 |zero=>
  simp only[runN,Stepped.next.injEq]at hrun;have e1:=iU (λm:Machine=>(m.gs[0]?).map (·.frame)) hrun;have e2:=iU (λm:Machine=>m.world) hrun;simp only[lone,lU,G]at e1 e2;have e3:fr=wQ:=by simpa using e1
  subst e3;rw[<- e2]at hl hR;exact⟨y,hl,hR⟩
 |succ j=>exact(XV hm hd hk hf hrun).elim
def NZ{R:aj->ah->Prop}{x:ji}(hg:Good P R x):Acc (Stp P) x:=by
 classical
 apply BV
 intro g_;have N3:∀z:{ z:ji // ¬Acc (Stp P) z },∃y:{ z:ji // ¬Acc (Stp P) z },Stp P y.1 z.1:=by
  rintro⟨z,hz⟩;apply BV
  intro h;exact hz (Acc.intro z λy hy=>BV λIy=>h ⟨⟨y,Iy⟩,hy⟩)
 let f:Nat->{ z:ji // ¬Acc (Stp P) z }:=λn=>Nat.rec ⟨x,g_⟩ (λ_ z=>Classical.choose (N3 z)) n
 have hf:∀n,Stp P (f (n+1)).1 (f n).1:=λn=>Classical.choose_spec (N3 (f n))
 have f0:(f 0).1=x:=rfl;have mono:∀{a b:Nat},a<=b->(f a).1.2.drawn<=(f b).1.2.drawn:=by
  intro a b h
  induction h with
  |refl=>exact aR _
  |step _ ih=>exact bH ih (hf _).2.1
 let tp:Nat->(Nat->Question->Nat):=λn=>Classical.choose (hf n).2.2
 have X0:∀n τ',oO (f n).1.2.drawn (f (n+1)).1.2.drawn (tp n) τ'->Go.step P (lU (f n).1.1 (cd (f n).1.2 τ'))=.next (lU (f (n+1)).1.1 (cd (f (n+1)).1.2 τ')):=λn=>Classical.choose_spec (hf n).2.2
 let T:Nat->Question->Nat:=λi=>if h:∃n,(f n).1.2.drawn<=i/\i<(f (n+1)).1.2.drawn then tp (Classical.choose h) i else λ_=>0
 have hT:∀n,oO (f n).1.2.drawn (f (n+1)).1.2.drawn (tp n) T:=by
  intro n i h1 h2;have hex:∃n,(f n).1.2.drawn<=i/\i<(f (n+1)).1.2.drawn:=⟨n,h1,h2⟩;have hc:=Classical.choose_spec hex;have e:Classical.choose hex=n:=by
   rcases Nat.lt_trichotomy (Classical.choose hex) n with h|h|h
   ·have:=mono (show Classical.choose hex+1<=n by omega);omega
   ·exact h
   have:=mono (show n+1<=Classical.choose hex by omega);omega
  show (if h:∃n,(f n).1.2.drawn<=i/\i<(f (n+1)).1.2.drawn then tp (Classical.choose h) i else λ_=>0)=tp n i
  rw[dif_pos hex,e]
 have run:∀n,runN P n (lU x.1 (cd x.2 T))=.next (lU (f n).1.1 (cd (f n).1.2 T)):=by
  intro n
  induction n with
  |zero=>rfl
  |succ n ih=>rw[runN_add,ih];simp[runN,X0 n T (hT n)]
 obtain⟨n,fr,y,v',hrun,hl,_⟩:=hg T;rw[run n]at hrun;have e1:=iU (λm:Machine=>m.gs[0]?) (Stepped.next.inj hrun);simp only[lone,lU]at e1;have e2:(f n).1.1=({ frame:=fr,callers:=[cst P],status:=.running,dying:=J }:Goroutine):=by simpa using e1
 exact(hf n).1 ⟨fr,hl.1,e2⟩
end
variable{x0:ji}
section
variable {P:Program}{β:aK}{okL:List FuncId}{gl:Gl}{R:aj->ah->Prop}
variable {main:Bool}{rest:List Frame}{v w:ah}{g g':Goroutine}
def RW.tp{τ:Nat->Question->Nat}(r:RW β v w):RW β (cd v τ) w:=⟨r.own,r.ro,r.tok,r.inj,r.oP,r.uQ,r.qG,r.nI,r.gv,r.gw⟩
def RW.rely(r:RW β v w)(h:∀b b',β.any b b'->w'.heap[b']?=w.heap[b']?)(hs:w.heap.size<=w'.heap.size):RW β v w':=by
 refine⟨λb b' hb=>?_,λb b' hb=>?_,λb b' hb=>?_,r.inj,r.oP,r.uQ,r.qG,r.nI,r.gv,bH r.gw hs⟩
 ·rw[h b b' (.inl hb)];exact r.own b b' hb
 ·rw[h b b' (.inr (.inl hb))];exact r.ro b b' hb
 rw[h b b' (.inr (.inr hb))];exact r.tok b b' hb
structure lV(P:Program)(okL:List FuncId)(gl:Gl)(R:aj->ah->Prop)(rest:List Frame)(β:aK)(x0 x:ji)(g:Goroutine)(w:ah):Prop where
 cx:Cx P okL gl β
 nx:gl.X=[]
 good:Good P R x0
 EE:wP P x0 x
 rg:RG P okL gl β [cst P] rest x.1 g
 rw:RW β x.2 w
def lV.rely{x:ji}(j:lV P okL gl R rest β x0 x g w)(h:∀b b',β.any b b'->w'.heap[b']?=w.heap[b']?)(hs:w.heap.size<=w'.heap.size):lV P okL gl R rest β x0 x g w':=⟨j.cx,j.nx,j.good,j.EE,j.rg,j.rw.rely h hs⟩
def lV.running{x:ji}(j:lV P okL gl R rest β x0 x g w):g.status=.running:=by
 obtain⟨fr,mO,fs,iw,_,rfl,_⟩:=j.rg;rfl
def lV.begin(cx:Cx P okL gl β)(nx:gl.X=[])(hf:β.fn f)(hb:∃fn c,P.funcs[f]?=U fn/\fn.body=U c)(hl:RL β xs ys)(r:RW β v w)
  (hC:∀τ,Calls P f xs (cd v τ) λe v'=>∃y,e=aH y/\R y v'):lV P okL gl R rest β (G (Frame.enter P f xs .normal) [cst P],v) (G (Frame.enter P f xs .normal) [cst P],v) (G (Frame.enter P f ys .normal) rest) w:=by
 refine⟨cx,nx,λτ=>?_,.refl _,⟨_,_,[],[],rfl,rfl,rfl,.inl (NS cx hf (by rw[nx];rfl) hl hb)⟩,r⟩;obtain⟨e,w',fr,⟨y,rfl,hy⟩,⟨n,hn⟩,_,hlv⟩:=hC τ [cst P];exact⟨n,fr,y,w',hn,hlv,hy⟩
def lV.step'{x:ji}(j:lV P okL gl R rest β x0 x g w):(∃β' y g1 w1 es,Stp P y x/\stepG P main g w=.go g1 w1 es/\lV P okL gl R rest β' x0 y g1 w1/\Fx β β' w w1/\∀e∈es,oQ β' e) \/
  (∃β' y y' V w1 es b a' k fn,g=G { Frame.at b a' k with mode:=.returning } rest/\a'.defers=[]/\b.kind=.normal/\P.funcs[b.fn]?=U fn/\P.inits.idxOf? b.fn=J/\(results fn a'.tmps).runT P w #[]=(.ok y' w1,es)/\R y V/\RV β' y y'/\RW β' V w1/\Fx β β' w w1/\(∀e∈seen P b.fn es,oQ β' e)):=by
 obtain⟨xg,xv⟩:=x;have N4:∀{f f':Frame},qK P okL gl β f f'->f.defers=[]/\f.mode=.run:=by
  rintro f f' ⟨b,a,a',k,rfl,rfl,hl,hd,lT,hk,hi,hf⟩;exact⟨hd,rfl⟩
 have hall:∀{fs iw:List Frame},uT P okL gl β fs iw->∀f∈fs,f.defers=[]/\f.mode=.run:=by
  intro fs
  induction fs with
  |nil=>intro iw _ f hf;cases hf
  |cons c fs ih=>
   rintro iw ⟨y,zs,rfl,a,b⟩ f hf
   rcases fu.1 hf with rfl|hf
   ·exact N4 a
   exact ih b f hf
 have key:∀{fr:Frame} {fs iw:List Frame} (_:xg=G fr (fs++[cst P])),uT P okL gl β fs iw->¬B9 P xg->Af P okL gl main β [cst P] rest xv w xg g ->
   ∃β' y g1 w1 es,Stp P y (xg,xv)/\stepG P main g w=.go g1 w1 es/\lV P okL gl R rest β' x0 y g1 w1/\Fx β β' w w1/\∀e∈es,oQ β' e:=by
  intro fr fs iw hx jN hn ha;subst hx
  rcases ha with hb|⟨g1,v1,wO,w1,es,β',⟨hle,τ,hs⟩,hst,hrg,eI,cH,cP⟩
  ·exact(XX j.good j.EE hn (hall jN) hb).elim
  have Ah:Stp P (g1,v1) (G fr (fs++[cst P]),xv):=by
   refine⟨hn,hle,τ,λτ' hA=>?_⟩;obtain⟨f1,ag3,ag4,ag5,rfl,_⟩:=hrg;exact step_lone_go (hs τ' hA)
  exact⟨β',(g1,v1),wO,w1,es,Ah,hst,⟨j.cx.mono cH.le,j.nx,j.good,j.EE.step Ah,hrg,eI⟩,cH,cP⟩
 obtain⟨fr,mO,fs,iw,hx,rfl,jN,h|⟨f,f',h,rfl,rfl⟩|⟨f,_,_,hX,_⟩⟩:=j.rg
 ·left
  refine key hx jN ?_ ?_
  ·rintro⟨f2,hm,e⟩;simp only at hx;rw[hx]at e;have:fr=f2:=iU Goroutine.frame e;rw[<- this,(N4 h).2]at hm;cases hm
  simp only at hx;subst hx;obtain⟨b,a,a',k,rfl,rfl,hl,hd,lT,hk,hi,hf⟩:=h;exact XM j.cx j.rw hl hd lT hk hi hf jN
 ·cases fs with
  |cons c fs=>
   left
   refine key hx jN ?_ ?_
   ·rintro⟨f2,hm,e⟩;simp only at hx;rw[hx]at e;have:=iU (λg:Goroutine=>g.callers.length) e;simp[G]at this
   simp only at hx;subst hx;obtain⟨c',iw,rfl,hcc,jN⟩:=jN;exact XR j.cx j.rw h hcc jN
  |nil=>
   right
   cases jN
   simp only at hx;subst hx;obtain⟨b,a,a',k,rfl,rfl,hl,hd,lT,hk,hi,hf⟩:=h;obtain⟨fn,hfn⟩:=hf.1;have hend:=at_end j.good j.EE rfl hd hk ⟨fn,hfn⟩;have hres:∀{τ:Nat->Question->Nat} {y:aj},Frame.leaving P { Frame.at b a k with mode:=.returning } (cd xv τ) (aH y)->(results fn a.tmps).run P (cd xv τ)=.ok y (cd xv τ):=by
    rintro τ y ⟨_,_,_,X1,hf2,hr⟩;have:fn=X1:=b_ (hfn.symm.trans hf2);rw[this];exact hr
   rcases Mw.run _ _ (NX (P:=P) fn hl xv w j.rw)with⟨nK,τh,hb⟩|⟨y2,v1,⟨y',w1,es,β',x1,x2,x3,x4,x5⟩,hle,τ2,hr⟩
   ·exfalso
    obtain⟨τ,hτ,y,hlv,_⟩:=hend τh;obtain⟨hh,v2,e,_⟩:=hb τ λi p q=>hτ i p
    rw[hres hlv]at e;cases e
   obtain⟨τ,hτ,y,hlv,hR⟩:=hend τ2;have e:=hr τ λi p q=>hτ i p
   rw[hres hlv]at e;injection e with e1 e2
   subst e1;have x0:=x1 #[];rw[Array.empty_append]at x0
   refine⟨β',y,y',cd xv τ,w1,_,b,a',k,fn,rfl,lT,hk,hfn,hf.2,x0,hR,x5,?_,x3,λe he=>x4 e (mem_seen he)⟩;rw[e2];exact x2.tp
 rw[j.nx]at hX;cases hX
def lV.step{x:ji}(j:lV P okL gl R rest β x0 x g w):(∃β' y g1 w1 es,Stp P y x/\stepG P main g w=.go g1 w1 es/\lV P okL gl R rest β' x0 y g1 w1/\Fx β β' w w1/\∀e∈es,oQ β' e) \/
  (∀c r,rest=c::r->∃β' y y' V w1 es,stepG P main g w=.go (G (c.finish y') r) w1 es/\R y V/\RV β' y y'/\RW β' V w1/\Fx β β' w w1/\(∀e∈es,oQ β' e)):=by
 rcases j.step' (main:=main)with h|⟨β',y,y',V,w1,es,b,a',k,fn,rfl,hd,hk,hfn,-,hr,h⟩
 ·exact .inl h
 refine .inr ?_;rintro c r rfl;exact⟨β',y,y',V,w1,_,Iw hd hk hfn hr,h⟩
def X3{b:Frame}{a:Act}{k:List Item}{w:ah}(hd:a.defers=[])(hk:b.kind=.normal)(hf:P.funcs[b.fn]?=U fn)(hi:P.inits.idxOf? b.fn=J)(hr:(results fn a.tmps).runT P w #[]=(.ok x w',es)):stepG P true (G { Frame.at b a k with mode:=.returning } []) w=.ended (.done x) w' (seen P b.fn es):=by
 have e1:(results fn a.tmps).run P w=.ok x w':=by have:=Sem.runT_fst P (results fn a.tmps) w #[];rw[hr]at this;exact this.symm
 have e2:(results fn a.tmps).events P w #[]=es:=by unfold Sem.events;rw[hr]
 simp[stepG,unwind,doReturn,G,Frame.at,hd,hk,hf,hi,e1,e2,GStep.after]
end
section
variable {P:Program}{β:aK}
def oh  {e:Array aj→Sem aj} {xs ys:Array aj} (h1:P.funcs[f]?=U fn) (h2:(fn.name == "runtime.NumGoroutine")=false) (h3:fn.body.isNone=true)
  (h4:Extern.findNext fn=J) (h5:Extern.find fn=U e) (h:ai P β (e xs) (e ys) RV):ai P β (callFunc f xs) (callFunc f ys) (RN P):=by
 unfold callFunc
 refine ai.prog ?_;simp only[h1,h2,h3,h4,h5];exact ai.mark rfl (iX h)
def N5:∀(n:Nat) {β:aK} {a a':av} (acc:ByteArray),RA β a a'->ai P β (Extern.Bytes.loadBytes a n acc) (Extern.Bytes.loadBytes a' n acc) (λ_ x y=>x=y)
 |0,_,_,_,acc,_=>ai.pure' rfl
 |n+1,β,a,a',acc,h=>by
  unfold Extern.Bytes.loadBytes
  refine ai.bind' (Em h) λβ1 x y le hv=>?_
  rcases hv.ways with⟨b,rfl,rfl⟩|⟨k,m,rfl,rfl⟩|⟨s,rfl,rfl⟩|⟨a,a',rfl,rfl,ha⟩|⟨a,a',l,c,rfl,rfl,ha⟩|⟨r,r',rfl,rfl,hr⟩|⟨rfl,rfl⟩|⟨f,us,vs,ws,zs,rfl,rfl,hf,h1,h2⟩|⟨rfl,rfl⟩|⟨t,v,v',rfl,rfl,hv⟩|⟨rfl,rfl⟩|⟨us,vs,rfl,rfl,h1⟩|⟨us,vs,rfl,rfl,h1⟩<;>first|exact ai.stuck|skip
  cases k<;>first|exact ai.stuck|skip
  exact N5 _ _ ((h.mono le).add 1)
def EF(h:RV β x y):ai P β (Extern.Bytes.bytesOf x) (Extern.Bytes.bytesOf y) (λ_ x y=>x=y):=by
 rcases h.ways with⟨b,rfl,rfl⟩|⟨k,n,rfl,rfl⟩|⟨s,rfl,rfl⟩|⟨a,a',rfl,rfl,ha⟩|⟨a,a',l,c,rfl,rfl,ha⟩|⟨r,r',rfl,rfl,hr⟩|⟨rfl,rfl⟩|⟨f,us,vs,ws,zs,rfl,rfl,hf,h1,h2⟩|⟨rfl,rfl⟩|⟨t,v,v',rfl,rfl,hv⟩|⟨rfl,rfl⟩|⟨us,vs,rfl,rfl,h1⟩|⟨us,vs,rfl,rfl,h1⟩<;>first|exact ai.stuck|exact ai.pure' rfl|skip
 cases a with
 |none=>cases ha;exact ai.pure' rfl
 |some a=>obtain⟨a',rfl,ha⟩:=ha;exact N5 l _ ha
def N6(h:RV β x y):ai P β (Extern.Bytes.asByte x) (Extern.Bytes.asByte y) (λ_ x y=>x=y):=by
 rcases h.ways with⟨b,rfl,rfl⟩|⟨k,n,rfl,rfl⟩|⟨s,rfl,rfl⟩|⟨a,a',rfl,rfl,ha⟩|⟨a,a',l,c,rfl,rfl,ha⟩|⟨r,r',rfl,rfl,hr⟩|⟨rfl,rfl⟩|⟨f,us,vs,ws,zs,rfl,rfl,hf,h1,h2⟩|⟨rfl,rfl⟩|⟨t,v,v',rfl,rfl,hv⟩|⟨rfl,rfl⟩|⟨us,vs,rfl,rfl,h1⟩|⟨us,vs,rfl,rfl,h1⟩<;>first|exact ai.stuck|skip
 cases k<;>first|exact ai.stuck|exact ai.pure' rfl
def uU(h:RL β xs ys):(∃a b c d,xs=#[a,b]/\ys=#[c,d]/\RV β a c/\RV β b d)\/xs.size≠2:=by
 rcases Nat.lt_trichotomy xs.size 2 with hs|hs|hs
 ·exact .inr (by omega)
 ·have hs':ys.size=2:=h.1▸hs;obtain⟨xs⟩:=xs;obtain⟨ys⟩:=ys
  match xs,ys,hs,hs' with
  |[a,b],[c,d],_,_=>exact .inl ⟨a,b,c,d,rfl,rfl,h.2 0 a c rfl rfl,h.2 1 b d rfl rfl⟩
 exact .inr (by omega)
def X4(h:RL β xs ys):ai P β (Extern.BytealgCount.count xs) (Extern.BytealgCount.count ys) RV:=by
 rcases uU h with⟨a,b,c,d,rfl,rfl,Ca,Cb⟩|hs
 ·refine ai.bind' (EF Ca) λβ1 s _ l1 e=>?_
  subst e
  refine ai.bind' (N6 (Cb.mono l1)) λβ2 t _ l2 e=>?_
  subst e;exact ai.pure' (xY rfl)
 ·have:Extern.BytealgCount.count xs=stuck "bytealg.Count: two arguments expected" := by
   obtain⟨xs⟩:=xs
   match xs,hs with
   |[],_|[_],_=>rfl
   |[_,_],hs=>exact absurd rfl hs
   |_::_::_::_,_=>rfl
  rw[this];exact ai.stuck
def X5(h:RL β xs ys):ai P β (Extern.BytealgIndexByte.indexByte xs) (Extern.BytealgIndexByte.indexByte ys) RV:=by
 rcases uU h with⟨a,b,c,d,rfl,rfl,Ca,Cb⟩|hs
 ·refine ai.bind' (EF Ca) λβ1 s _ l1 e=>?_
  subst e
  refine ai.bind' (N6 (Cb.mono l1)) λβ2 t _ l2 e=>?_
  subst e
  split<;>exact ai.pure' (xY rfl)
 ·have:Extern.BytealgIndexByte.indexByte xs=stuck "bytealg.IndexByte: two arguments expected" := by
   obtain⟨xs⟩:=xs
   match xs,hs with
   |[],_|[_],_=>rfl
   |[_,_],hs=>exact absurd rfl hs
   |_::_::_::_,_=>rfl
  rw[this];exact ai.stuck
def X6{m:Nat} (hm:P.globals.findIdx? (·.name == "internal/bytealg.MaxLen")=U m) (hA:β.any m m)  (h:RL β xs ys):ai P β (Extern.BytealgIndex.index xs) (Extern.BytealgIndex.index ys) RV:=by
 rcases uU h with⟨a,b,c,d,rfl,rfl,Ca,Cb⟩|hs
 ·refine ai.bind' (EF Ca) λβ1 s _ l1 e=>?_
  subst e
  refine ai.bind' (EF (Cb.mono l1)) λβ2 t _ l2 e=>?_
  subst e;have hM:ai P β2 Extern.BytealgIndex.maxLen Extern.BytealgIndex.maxLen (λ_ x y=>x=y):=by
   unfold Extern.BytealgIndex.maxLen globalAddr
   refine ai.bind' (Q:=λβ' (x y:av)=>RA β' x y) ?_ λβ3 x y l3 k=>ai.bind' (Em k) λβ4 u v l4 k2=>Ep k2
   refine ai.prog ?_;simp only[hm];exact ai.pure' ⟨l2.any (l1.any hA),rfl,rfl⟩
  refine ai.bind' hM λβ3 k _ l3 e=>?_
  subst e;dsimp only
  split
  ·exact ai.unsupported
  split
  ·exact ai.unsupported
  split<;>exact ai.pure' (xY rfl)
 ·have:Extern.BytealgIndex.index xs=stuck "bytealg.Index: two arguments expected" := by
   obtain⟨xs⟩:=xs
   match xs,hs with
   |[],_|[_],_=>rfl
   |[_,_],hs=>exact absurd rfl hs
   |_::_::_::_,_=>rfl
  rw[this];exact ai.stuck
end
section
variable {P:Program}{β:aK}{okL ext:List FuncId}{gl:Gl}
def Cc(P:Program)(okL ext:List FuncId)(gl:Gl)(f:FuncId):Bool:=
 match P.funcs[f]? with
 |none=>false
 |some fn=>(!(fn.name == "runtime.NumGoroutine")&&(P.inits.idxOf? f).isNone)&&match fn.body with
  |some c=>gl.X.contains f||Code.fine P okL gl c
  |none=>ext.contains f
def Cx.X7(hfn:β.fn=λf=>okL.contains f=true)(hg:β.g=P.globals.size)(Iz:∀x,gl.contains x=true->β.any x x)(hc:okL.all (Cc P okL ext gl)=true)
  (hx:∀f,ext.contains f=true->∀(γ:aK) (xs ys:Array aj),γ.g=P.globals.size->(∀x,gl.contains x=true->γ.any x x)->RL γ xs ys->ai P γ (callFunc f xs) (callFunc f ys) (RN P)):Cx P okL gl β:=by
 have key:∀f,okL.contains f=true->Cc P okL ext gl f=true:=λf hf=>mB.1 hc f (x_.1 hf)
 refine⟨hg,λf hf=>?_,λf hf=>by rw[hfn];exact hf,Iz,λf fn c hf hX h1 h2=>?_,λf hf=>?_⟩
 ·rw[hfn]at hf;have k:=key f hf;unfold Cc at k
  split at k
  ·cases k
  rename_i fn h1;simp only[kS,Bool.not_eq_true']at k
  refine⟨fn,h1,k.1.1,?_⟩
  cases hb:fn.body with
  |some c=>exact .inl rfl
  |none=>
   have k2:=k.2;rw[hb]at k2;exact .inr λγ xs ys _ h3 h4 h5=>hx f k2 γ xs ys h3 h4 h5
 ·rw[hfn]at hf;have k:=key f hf;unfold Cc at k;rw[h1]at k;simp only[h2,hX,Bool.false_or,kS]at k;exact k.2
 rw[hfn]at hf;have k:=key f hf;unfold Cc at k
 split at k
 ·cases k
 simp only[kS]at k;exact Option.isNone_iff_eq_none.1 k.1.2
end
def IA(r t:Bool):Obj->Obj
 |ay c e fz=>if r then ay c e (0,c.size)else if t then ay #[] e (0,0)else ay c e fz
 |o=>o
def jO(w:ah)(gs ts:Nat->Bool):ah:={ w with heap:=w.heap.mapIdx λb o=>IA (gs b) (ts b) o }
section
variable {w:ah}{os:Nat->Prop}{gs ts:Nat->Bool}{fn:FuncId->Prop}{g:Nat}
def h_(os:Nat->Prop)(gs ts:Nat->Bool)(fn:FuncId->Prop)(g:Nat):aK:=⟨λb b'=>b=b'/\os b,λb b'=>b=b'/\gs b=true,λb b'=>b=b'/\ts b=true,fn,g⟩
def N7:(jO w gs ts).heap.size=w.heap.size:=by simp[jO]
def EG(b:Nat):(jO w gs ts).heap[b]?=(w.heap[b]?).map (IA (gs b) (ts b)):=by simp[jO]
def N8(h1:gs b=false)(h2:ts b=false):(jO w gs ts).heap[b]?=w.heap[b]?:=by
 rw[EG,h1,h2]
 cases w.heap[b]? with
 |none=>rfl
 |some o=>cases o<;>rfl
def X8{fz:Nat×Nat}(h:w.heap[b]?=U (ay c e fz))(h1:gs b=true):(jO w gs ts).heap[b]?=U (ay c e (0,c.size)):=by
 rw[EG,h,h1];rfl
def Ce{fz:Nat×Nat}(h:w.heap[b]?=U (ay c e fz))(h1:gs b=false)(h2:ts b=true):(jO w gs ts).heap[b]?=U (ay #[] e (0,0)):=by
 rw[EG,h,h1,h2];rfl
def Cf(h:gs a.block=true\/ts a.block=false):(jO w gs ts).cell? a=w.cell? a:=by
 unfold aL;rw[EG]
 cases ho:w.heap[a.block]? with
 |none=>rfl
 |some o=>
  cases o<;>simp only[rM,IA]
  rcases h with h|h
  ·simp[h]
  by_cases hg:gs a.block=true<;>simp[hg,h]
def RW.ghost(hown:∀b,os b->gs b=false/\ts b=false/\∃o,w.heap[b]?=U o/\RO (h_ os gs ts fn g) o o)
  (hro:∀b,gs b=true->∃c e,w.heap[b]?=U (ay c e (0,0))/\RL (h_ os gs ts fn g) c c)
  (IB:∀b,ts b=true->gs b=false/\∃c e,w.heap[b]?=U (ay c e (0,0))) (hg:g<=w.heap.size):RW (h_ os gs ts fn g) (jO w gs ts) w:=by
 have yl:∀a b,(h_ os gs ts fn g).any a b->a=b:=by
  rintro a b (⟨h,_⟩|⟨h,_⟩|⟨h,_⟩)<;>exact h
 refine⟨?_,?_,?_,λa b c h k=>(yl _ _ h).trans (yl _ _ k).symm,λa b c h k=>(yl _ _ h).symm.trans (yl _ _ k),?_,?_,λb b' h=>by rw[yl _ _ h],by rw[N7];exact hg,hg⟩
 ·rintro b _ ⟨rfl,h⟩;obtain⟨h1,h2,o,h3,h4⟩:=hown b h;exact⟨o,o,(N8 h1 h2).trans h3,h3,h4⟩
 ·rintro b _ ⟨rfl,h⟩;obtain⟨c,e,h3,h4⟩:=hro b h;exact⟨c,c,e,(0,c.size),X8 h3 h,h3,h4,λi hi=>⟨cG _,hi⟩⟩
 ·rintro b _ ⟨rfl,h⟩;obtain⟨h1,c,e,h3⟩:=IB b h;exact⟨e,c,Ce h3 h1 h,h3⟩
 ·rintro a b c ⟨_,h⟩ ⟨_,k⟩;rw[(hown a h).1]at k;cases k
 rintro a b c ⟨_,h⟩ ⟨_,k⟩;rw[(hown a h).2.1]at k;cases k
end
section
variable {β γ:aK}{V W:ah}
structure rO(β:aK)(V W:ah):Prop where
 cell:∀(a a':av) (x:aj),RA β a a'->V.cell? a=U x->∃y,W.cell? a'=U y/\RV β x y
 oP:∀a b c,β.any a b->β.any a c->b=c
def RW.N9(r:RW β V W):rO β V W:=⟨λ_ _ _ h hx=>(r.cell h hx).imp λ_ z=>⟨z.1,z.2.1⟩,r.oP⟩
def RW.IC{W':ah}(r:RW β V W)(k:∀(b:Nat) (a:av),β.own b a.block\/β.ro b a.block->W'.cell? a=W.cell? a):rO β V W':=
 ⟨λa a' _ h hx=>by
  obtain⟨y,h1,h2,h3⟩:=r.cell h hx;exact⟨y,(k a.block a' h3).trans h1,h2⟩,r.oP⟩
def X9(r:rO β V W)(h:β.any a.block a.block)(ha:RA β a a'):a'=a:=by
 have h1:=r.oP _ _ _ h ha.blk;have h2:=ha.off;have h3:=ha.spot;obtain⟨b,o,s⟩:=a;obtain⟨b',o',s'⟩:=a';simp only at h1 h2 h3;rw[h1,h2,h3]
def N_(r:rO β V W)(h:β.any a.block a.block)(hy:RV β (.iface t (ax (U a))) y):y=.iface t (ax (U a)):=by
 obtain⟨v,rfl,hv⟩:=jh.1 hy;obtain⟨p,rfl,hp⟩:=gW.1 hv;obtain⟨a',rfl,ha⟩:=hp;rw[X9 r h ha]
def Oa(r:rO β V W){x:Int}{e:aj}(hy:RV β (.iface t (ax (U (ar b 0 J)))) y)(h0:V.cell? (ar b 0 J)=U (af I x))(h1:V.cell? (ar b 1 J)=U e):∃b' e',y=.iface t (ax (U (ar b' 0 J)))/\W.cell? (ar b' 0 J)=U (af I x)/\W.cell? (ar b' 1 J)=U e'/\RV β e e':=by
 obtain⟨v,rfl,hv⟩:=jh.1 hy;obtain⟨p,rfl,hp⟩:=gW.1 hv;obtain⟨⟨b',o',s'⟩,rfl,ha⟩:=hp;have e1:0=o':=ha.off;have e2:J=s':=ha.spot;subst e1 e2;obtain⟨y0,p0,q0⟩:=r.cell ⟨b,0,J⟩ ⟨b',0,J⟩ _ ⟨ha.blk,rfl,rfl⟩ h0;obtain⟨y1,p1,q1⟩:=r.cell ⟨b,1,J⟩ ⟨b',1,J⟩ _ ⟨ha.blk,rfl,rfl⟩ h1;exact⟨b',y1,rfl,by rw[p0,cO.1 q0],p1,q1⟩
def fT.into(h:∀b b',β.any b b'->γ.any b' b'):∀{x y:Option av},fT β x y->fT γ y y
 |none,_,e=>by cases e;rfl
 |some _,_,⟨a',e,k⟩=>by cases e;exact⟨a',rfl,h _ _ k.blk,rfl,rfl⟩
def lz.into(h:∀b b',β.any b b'->γ.any b' b'):∀{x y:Option Nat},lz β x y->lz γ y y
 |none,_,e=>by cases e;rfl
 |some _,_,⟨a',e,k⟩=>by cases e;exact⟨a',rfl,h _ _ k⟩
def bh.into{R S:aj->aj->Prop}(h:∀x y,R x y->S y y)(k:bh R xs ys):bh S ys ys:=
 ⟨rfl,λi x y hx hy=>by
  have hi:i<xs.size:=by rw[k.1];exact(bD.1 hx).1
  cases hx.symm.trans hy
  exact h _ _ (k.2 i _ x (eB hi) hx)⟩
def eD.into(h:∀b b',β.any b b'->γ.any b' b')(hf:∀f,β.fn f->γ.fn f):∀(n:Nat) {x y:aj},eD β n x y->eD γ n y y
 |0,_,_,_=>trivial
 |n+1,x,y,k=>by
  cases x<;>simp only[eD]at k<;>first|exact k.elim|(subst k;simp only[eD])|skip
  ·obtain⟨a',rfl,k⟩:=k;exact⟨a',rfl,k.into h⟩
  ·obtain⟨a',rfl,k⟩:=k;exact⟨a',rfl,k.into h⟩
  ·obtain⟨a',rfl,k⟩:=k;exact⟨a',rfl,k.into h⟩
  ·obtain⟨_,rfl⟩:=k;exact⟨rfl,rfl⟩
  ·obtain⟨f,us,vs,rfl,p,q⟩:=k
   refine⟨?_,us,vs,rfl,p.into λ_ _=>eD.into h hf n,q.into λ_ _=>eD.into h hf n⟩;rename_i fn _ _
   cases fn<;>simp only[zZ]at f⊢
   exact hf _ f
  ·obtain⟨v',rfl,p⟩:=k;exact⟨v',rfl,eD.into h hf n p⟩
  ·obtain⟨v',rfl,p⟩:=k;exact⟨v',rfl,p.into λ_ _=>eD.into h hf n⟩
  obtain⟨v',rfl,p⟩:=k;exact⟨v',rfl,p.into λ_ _=>eD.into h hf n⟩
def RV.into(h:∀b b',β.any b b'->γ.any b' b')(hf:∀f,β.fn f->γ.fn f)(k:RV β x y):RV γ y y:=λn=>(k n).into h hf
def fT.sub(h:∀b b',β.any b b'->γ.any b b'):∀{x y:Option av},fT β x y->fT γ x y
 |none,_,e=>e
 |some _,_,⟨a',e,k⟩=>⟨a',e,h _ _ k.blk,k.off,k.spot⟩
def lz.sub(h:∀b b',β.any b b'->γ.any b b'):∀{x y:Option Nat},lz β x y->lz γ x y
 |none,_,e=>e
 |some _,_,⟨a',e,k⟩=>⟨a',e,h _ _ k⟩
def eD.sub(h:∀b b',β.any b b'->γ.any b b')(hf:∀f,β.fn f->γ.fn f):∀(n:Nat) {x y:aj},eD β n x y->eD γ n x y
 |0,_,_,_=>trivial
 |n+1,x,y,k=>by
  cases x<;>simp only[eD]at k⊢<;>try exact k
  ·obtain⟨a',e,x⟩:=k;exact⟨a',e,x.sub h⟩
  ·obtain⟨a',e,x⟩:=k;exact⟨a',e,x.sub h⟩
  ·obtain⟨a',e,x⟩:=k;exact⟨a',e,x.sub h⟩
  ·obtain⟨f,us,vs,e,p,q⟩:=k
   refine⟨?_,us,vs,e,p.mono λ_ _=>eD.sub h hf n,q.mono λ_ _=>eD.sub h hf n⟩;rename_i fn _ _
   cases fn<;>simp only[zZ]at f⊢<;>try exact f
   exact hf _ f
  ·obtain⟨v',e,p⟩:=k;exact⟨v',e,eD.sub h hf n p⟩
  ·obtain⟨v',e,p⟩:=k;exact⟨v',e,p.mono λ_ _=>eD.sub h hf n⟩
  obtain⟨v',e,p⟩:=k;exact⟨v',e,p.mono λ_ _=>eD.sub h hf n⟩
def RV.sub(h:∀b b',β.any b b'->γ.any b b')(hf:∀f,β.fn f->γ.fn f)(k:RV β x y):RV γ x y:=λn=>(k n).sub h hf
def jD.into(h:∀b b',β.any b b'->γ.any b' b')(hf:∀f,β.fn f->γ.fn f){es:Array MapEntry}(k:jD β es es'):jD γ es' es':=
 ⟨rfl,λi e e' hx hy=>by
  have hi:i<es.size:=by rw[k.1];exact(bD.1 hx).1
  cases hx.symm.trans hy
  obtain⟨x,y,z⟩:=k.2 i _ e (eB hi) hx;exact⟨x.into h hf,y.into h hf,rfl⟩⟩
def jD.sub(h:∀b b',β.any b b'->γ.any b b')(hf:∀f,β.fn f->γ.fn f){es:Array MapEntry}(k:jD β es es'):jD γ es es':=
 ⟨k.1,λi e e' a b=>let ⟨x,y,z⟩:=k.2 i e e' a b;⟨x.sub h hf,y.sub h hf,z⟩⟩
def RO.into(h:∀b b',β.any b b'->γ.any b' b')(hf:∀f,β.fn f->γ.fn f):∀{o o':Obj},RO β o o'->RO γ o' o'
 |ay ..,_,⟨c',e,k⟩=>by cases e;exact⟨c',rfl,bh.into (λ_ _=>RV.into h hf) k⟩
 |.map ..,_,⟨c',e,k⟩=>by cases e;exact⟨c',rfl,k.into h hf⟩
 |.stringIter ..,_,e=>by cases e;rfl
 |.number ..,_,⟨c',e,k⟩=>by cases e;exact⟨c',rfl,h _ _ k.blk,rfl,rfl⟩
 |.mapIter ..,_,⟨c',e,k⟩=>by cases e;exact⟨c',rfl,k.into h⟩
def RO.sub(h:∀b b',β.any b b'->γ.any b b')(hf:∀f,β.fn f->γ.fn f):∀{o o':Obj},RO β o o'->RO γ o o'
 |ay ..,_,⟨c',e,k⟩=>⟨c',e,bh.mono (λ_ _=>RV.sub h hf) k⟩
 |.map ..,_,⟨c',e,k⟩=>⟨c',e,k.sub h hf⟩
 |.stringIter ..,_,e=>e
 |.number ..,_,⟨c',e,k⟩=>⟨c',e,h _ _ k.blk,k.off,k.spot⟩
 |.mapIter ..,_,⟨c',e,k⟩=>⟨c',e,k.sub h⟩
def RA.eq(hf:∀a b c,γ.any a b->γ.any a c->b=c)(hi:∀b,β.any b b->γ.any b b)(h:RA β a a)(k:RA γ a a'):a'=a:=by
 have h1:=hf _ _ _ (hi _ h.blk) k.blk;have h2:=k.off;have h3:=k.spot;obtain⟨b,o,s⟩:=a;obtain⟨b',o',s'⟩:=a';simp only at h1 h2 h3;rw[h1,h2,h3]
def fT.eq(hf:∀a b c,γ.any a b->γ.any a c->b=c)(hi:∀b,β.any b b->γ.any b b):∀{a a':Option av},fT β a a->fT γ a a'->a'=a
 |none,_,_,k=>k
 |some _,_,⟨_,e,h⟩,⟨_,e',k⟩=>by cases e;rw[e',RA.eq hf hi h k]
def lz.eq(hf:∀a b c,γ.any a b->γ.any a c->b=c)(hi:∀b,β.any b b->γ.any b b):∀{a a':Option Nat},lz β a a->lz γ a a'->a'=a
 |none,_,_,k=>k
 |some _,_,⟨_,e,h⟩,⟨_,e',k⟩=>by cases e;rw[e',hf _ _ _ (hi _ h) k]
def RL.eqs{P:aj->Prop}(ih:∀x y,P x->RV β x x->RV γ x y->y=x)(hp:∀(i:Nat) (h:i<xs.size),P xs[i])(h:RL β xs xs)(k:RL γ xs ys):ys=xs:=
 Array.ext k.1.symm λi h1 h2=>ih _ _ (hp i h2) (h.2 i _ _ (eB h2) (eB h2)) (k.2 i _ _ (eB h2) (eB h1))
def RV.X_(hf:∀a b c,γ.any a b->γ.any a c->b=c)(hi:∀b,β.any b b->γ.any b b):∀(n:Nat) (x y:aj),SizeOf.sizeOf x<n->RV β x x->RV γ x y->y=x:=by
 intro n
 induction n with
 |zero=>intro x y h;exact absurd h (im _)
 |succ n ih=>
  intro x y hn h k;have row:∀{xs ys:Array aj},SizeOf.sizeOf xs<n->RL β xs xs->RL γ xs ys->ys=xs:=λ{xs ys} hs=>RL.eqs (P:=λx=>SizeOf.sizeOf x<n) (λx y=>ih x y) λi h=>Nat.lt_trans (Array.sizeOf_getElem xs i h) hs
  cases x with
  |bool=>exact fM.1 k
  |int=>exact cO.1 k
  |string=>exact jg.1 k
  |nilFunc=>exact pQ.1 k
  |nilIface=>exact lA.1 k
  |float=>exact(tj.1 k).elim
  |complex=>exact(tq.1 k).elim
  |chan r=>
   obtain⟨rfl,rfl⟩:=rH.1 k;rfl
  |pointer a=>
   obtain⟨a',rfl,k2⟩:=gW.1 k;obtain⟨_,e,h2⟩:=gW.1 h
   cases e
   rw[fT.eq hf hi h2 k2]
  |slice a l c=>
   obtain⟨a',rfl,k2⟩:=gX.1 k;obtain⟨_,e,h2⟩:=gX.1 h
   cases e
   rw[fT.eq hf hi h2 k2]
  |map a=>
   obtain⟨a',rfl,k2⟩:=oc.1 k;obtain⟨_,e,h2⟩:=oc.1 h
   cases e
   rw[lz.eq hf hi h2 k2]
  |iface t v=>
   obtain⟨v',rfl,k2⟩:=jh.1 k;obtain⟨_,e,h2⟩:=jh.1 h
   cases e
   rw[ih v v' (by simp at hn;omega) h2 k2]
  |agg xs=>
   obtain⟨ys,rfl,k2⟩:=gH.1 k;obtain⟨_,e,h2⟩:=gH.1 h
   cases e
   rw[row (by simp at hn;omega) h2 k2]
  |tuple xs=>
   obtain⟨ys,rfl,k2⟩:=iW.1 k;obtain⟨_,e,h2⟩:=iW.1 h
   cases e
   rw[row (by simp at hn;omega) h2 k2]
  |func f xs us=>
   obtain⟨_,ys,vs,rfl,k1,k2⟩:=pR.1 k;obtain⟨_,_,_,e,h1,h2⟩:=pR.1 h
   cases e
   rw[row (by simp at hn;omega) h1 k1,row (by simp at hn;omega) h2 k2]
def RV.eq(hf:∀a b c,γ.any a b->γ.any a c->b=c)(hi:∀b,β.any b b->γ.any b b)(h:RV β x x)(k:RV γ x y):y=x:=RV.X_ hf hi _ x y (wh _) h k
def RL.eq(hf:∀a b c,γ.any a b->γ.any a c->b=c)(hi:∀b,β.any b b->γ.any b b){x y:Array aj}(h:RL β x x)(k:RL γ x y):y=x:=RL.eqs (P:=λ_=>True) (λ_ _ _=>RV.eq hf hi) (λ_ _=>trivial) h k
def jD.eq(hf:∀a b c,γ.any a b->γ.any a c->b=c)(hi:∀b,β.any b b->γ.any b b){x y:Array MapEntry}(h:jD β x x)(k:jD γ x y):y=x:=
 Array.ext k.1.symm λi h1 h2=>by
  obtain⟨p1,p2,_⟩:=h.2 i _ _ (eB h2) (eB h2);obtain⟨q1,q2,q3⟩:=k.2 i _ _ (eB h2) (eB h1);have e1:=RV.eq hf hi p1 q1;have e2:=RV.eq hf hi p2 q2;generalize x[i]=e at *;generalize y[i]=e' at *;obtain⟨a,b,c⟩:=e;obtain⟨a',b',c'⟩:=e';simp only at e1 e2 q3;rw[e1,e2,q3]
def RO.eq(hf:∀a b c,γ.any a b->γ.any a c->b=c)(hi:∀b,β.any b b->γ.any b b):∀{o o':Obj},RO β o o->RO γ o o'->o'=o
 |ay ..,_,⟨_,e,h⟩,⟨_,e',k⟩=>by cases e;rw[e',h.eq hf hi k]
 |.map ..,_,⟨_,e,h⟩,⟨_,e',k⟩=>by cases e;rw[e',h.eq hf hi k]
 |.stringIter ..,_,_,k=>k
 |.number ..,_,⟨_,e,h⟩,⟨_,e',k⟩=>by cases e;rw[e',h.eq hf hi k]
 |.mapIter ..,_,⟨_,e,h⟩,⟨_,e',k⟩=>by cases e;rw[e',h.eq hf hi k]
end
section
variable {O O':Nat->Prop}{gs ts:Nat->Bool}{fn rP:FuncId->Prop}{g:Nat}{w w' V:ah}{β:aK}
def jP(O:Nat->Prop)(gs ts:Nat->Bool)(fn:FuncId->Prop)(g:Nat)(w:ah):Prop:=∀b,O b->∃o,w.heap[b]?=U o/\RO (h_ O gs ts fn g) o o
def IE(h:(h_ O gs ts fn g).any b b'):b=b'/\(O b\/gs b=true\/ts b=true):=by
 rcases h with⟨h,k⟩|⟨h,k⟩|⟨h,k⟩
 ·exact⟨h,.inl k⟩
 ·exact⟨h,.inr (.inl k)⟩
 exact⟨h,.inr (.inr k)⟩
def Ya(h:O b\/gs b=true\/ts b=true):(h_ O gs ts fn g).any b b:=by
 rcases h with k|k|k
 ·exact .inl ⟨rfl,k⟩
 ·exact .inr (.inl ⟨rfl,k⟩)
 exact .inr (.inr ⟨rfl,k⟩)
def Ob(h:∀b,O b->O' b)(b b':Nat)(k:(h_ O gs ts fn g).any b b'):(h_ O' gs ts rP g).any b b':=by
 obtain⟨rfl,k2⟩:=IE k;exact Ya (k2.imp (h _) id)
def RV.wide(k:RV (h_ O gs ts fn g) x y)(h:∀b,O b->O' b)(hf:∀f,fn f->rP f):RV (h_ O' gs ts rP g) x y:=
 RV.sub (β:=h_ O gs ts fn g) (γ:=h_ O' gs ts rP g) (λb b' z=>Ob h b b' z) hf k
def RO.wide{x y:Obj}(k:RO (h_ O gs ts fn g) x y)(h:∀b,O b->O' b)(hf:∀f,fn f->rP f):RO (h_ O' gs ts rP g) x y:=
 RO.sub (β:=h_ O gs ts fn g) (γ:=h_ O' gs ts rP g) (λb b' z=>Ob h b b' z) hf k
def jP.on(h:jP O gs ts fn g w)(k:∀b,O b->w'.heap[b]?=w.heap[b]?):jP O gs ts fn g w':=λb hb=>by
 rw[k b hb];exact h b hb
def jP.sub(h:jP O gs ts fn g w)(k:∀b,O b->O' b)(hf:∀f,fn f->rP f)(hb:O b):∃o,w.heap[b]?=U o/\RO (h_ O' gs ts rP g) o o:=by
 obtain⟨o,h1,h2⟩:=h b hb;exact⟨o,h1,h2.wide k hf⟩
def jP.lt(h:jP O gs ts fn g w)(hb:O b):b<w.heap.size:=by
 obtain⟨_,e,_⟩:=h b hb;exact(bD.1 e).1
def jP.add(h:jP O gs ts fn g w){x:Nat}{fz:Nat×Nat}(hx:w.heap[x]?=U (ay c e fz))(hc:∀(i:Nat) (v:aj),c[i]?=U v->RV (h_ O gs ts fn g) v v):jP (λb=>O b\/b=x) gs ts fn g w:=λb hb=>by
 rcases hb with hb|rfl
 ·exact h.sub (λ_ k=>.inl k) (λ_ h=>h) hb
 refine⟨_,hx,c,rfl,rfl,λi v v' h1 h2=>?_⟩
 cases h1.symm.trans h2
 exact(hc i v h1).wide (λ_ k=>.inl k) λ_ h=>h
def EH(hr:∀b b',β.ro b b'->b=b'/\gs b=true)(ht:∀b b',β.tok b b'->b=b'/\ts b=true)(b b':Nat)(h:β.any b b'):(h_ (λb'=>∃a,β.own a b') gs ts fn g).any b' b':=by
 rcases h with h|h|h
 ·exact .inl ⟨rfl,b,h⟩
 ·obtain⟨rfl,k⟩:=hr _ _ h;exact .inr (.inl ⟨rfl,k⟩)
 obtain⟨rfl,k⟩:=ht _ _ h;exact .inr (.inr ⟨rfl,k⟩)
def RW.kH(r:RW β V w)(hr:∀b b',β.ro b b'->b=b'/\gs b=true)(ht:∀b b',β.tok b b'->b=b'/\ts b=true)(hf:∀f,β.fn f->fn f):jP (λb'=>∃a,β.own a b') gs ts fn g w:=by
 rintro b' ⟨a,h⟩;obtain⟨o,o',_,h2,h3⟩:=r.own a b' h;exact⟨o',h2,h3.into (EH hr ht) hf⟩
def RW.apart(r:RW β V w)(hr:∀b b',β.ro b b'↔b=b'/\gs b=true)(ht:∀b b',β.tok b b'↔b=b'/\ts b=true){a:Nat}(h:β.own a b):gs b=false/\ts b=false:=by
 refine⟨?_,?_⟩
 ·cases e:gs b with
  |false=>rfl
  |true=>
   have k:=(hr b b).2 ⟨rfl,e⟩;have:=r.inj a b b (.inl h) (.inr (.inl k));subst this;exact(r.uQ _ _ _ h k).elim
 cases e:ts b with
 |false=>rfl
 |true=>
  have k:=(ht b b).2 ⟨rfl,e⟩;have:=r.inj a b b (.inl h) (.inr (.inr k));subst this;exact(r.qG _ _ _ h k).elim
end
section
variable {β:aK}{g:Nat}{who:Nat->Option Nat}{sh wg:Nat->Prop}
def ym{P:MemOp->Prop}{fn:FuncId}{pos:String}(h:∀e∈es,P { g,fn,pos,act:=.ofEvent e }):∀op∈MemOp.ofEvents g fn pos es,P op:=by
 intro op hop;rw[ofEvents_eq]at hop;obtain⟨e,he,rfl⟩:=Array.mem_map.1 hop;exact h e he
end
def run_choose(P:Program)(w:ah){q:Question}(hq:∀k,q.cut k<n)(hn:0<n):∃a d,a<n/\(choose q).run P w=.ok a (w.at d):=by
 by_cases hf:q.forced=true
 ·exact⟨0,w.drawn,hn,by simp[choose,Sem.run,hf,World.at]⟩
 refine⟨q.cut (w.tape w.drawn q),w.drawn+1,?_,by simp[choose,Sem.run,hf,World.at]⟩;exact hq _
def Yb{x:Goroutine}{r k:Nat}{send:Bool}(h:k∈offersAt x r send):x.status=.blocked/\∃cs sh c,x.offers=U (cs,sh)/\cs[k]?=U c/\c.chan=.chan (U r)/\c.send.isSome=send:=by
 unfold offersAt at h
 split at h
 ·rename_i cs sh hs ho
  refine⟨hs,cs,sh,?_⟩;simp only[pJ,List.mem_filter,kS,og,Prod.exists]at h;obtain⟨c,k',⟨hm,h1,h2⟩,rfl⟩:=h
  refine⟨c,ho,mem_of_zipIdx hm,?_,h1⟩
  split at h2
  ·rename_i r' e;rw[e];simp at h2;rw[h2]
  cases h2
 cases h
def mo(i:Nat)(g:Goroutine)(a:MemAct):MemOp:={ g:=i,fn:=g.frame.fn,pos:=g.frame.place,act:=a }
section
variable {P:Program}{gs:Array Goroutine}{w w₁:ah}{sl:Option (Nat×Nat)}{i:Nat}{g g₂:Goroutine}{es:Array Event}{shape:CommShape}{cases:Array CommCase}
def Yc{gs:Array Goroutine}{cc:CommCase}{wy:Way}(IG:∀c,cc.chan=.chan (U c)->∃s r tm,w₁.heap[c]?=U (.chan 0 #[] false s r tm))(h:wy∈ways w₁ gs cc):∃c s r tm j kj,cc.chan=.chan (U c)/\w₁.heap[c]?=U (.chan 0 #[] false s r tm)/\wy=.partner j kj/\(j,kj)∈partners gs c cc.send.isNone:=by
 obtain⟨ch,sd,z⟩:=cc
 cases ch with
 |chan o=>
  cases o with
  |none=>simp[ways]at h
  |some c=>
   obtain⟨s,r,tm,hc⟩:=IG c rfl
   refine⟨c,s,r,tm,?_⟩
   cases sd with
   |none=>
    simp only[ways,hc]at h
    cases hp:partners gs c true with
    |nil=>simp[hp]at h
    |cons p ps=>
     rw[hp]at h;simp only[Array.size_empty,gt_iff_lt,rL,j5,pJ]at h;obtain⟨⟨j,k⟩,hm,rfl⟩:=h;exact⟨j,k,rfl,hc,rfl,by simpa[hp]using hm⟩
   |some v=>
    simp only[ways,hc]at h
    cases hp:partners gs c false with
    |nil=>simp[hp]at h
    |cons p ps=>
     rw[hp]at h;simp only[uC,j5,pJ]at h;obtain⟨⟨j,k⟩,hm,rfl⟩:=h;exact⟨j,k,rfl,hc,rfl,by simpa[hp]using hm⟩
 |_=>simp[ways]at h
def Yd{rd:List (Nat×CommCase×List Way)}{pre:Array MemOp}(IH:cases.any (illMade w₁)=false)
  (rQ:((cases.zipIdx.toList.map λ(c,k)=>(k,c,ways w₁ (gs.setIfInBounds i ph) c)).filter λ(_,_,ws)=>!ws.isEmpty)=rd) (hne:rd≠[]):∃Q:Nat->Question,(∀(k:Nat) (cc:CommCase) (c s r:Nat) (tm:Bool) (j kj:Nat) (x:Goroutine) (om:Array CommCase) (pV:CommShape) (cj:CommCase) (d2:Nat),cc.chan=.chan (U c)->w₁.heap[c]?=U (.chan 0 #[] false s r tm) ->
   (gs.setIfInBounds i ph)[j]?=U x->x.offers=U (om,pV)->om[kj]?=U cj->cj.send.isSome=cc.send.isNone ->
   (do
    let a <- choose (.select rd.length)
    let b <- choose (Q a)
    pure ((rd.getD a (0,default,[])).1,(rd.getD a (0,default,[])).2.1,(rd.getD a (0,default,[])).2.2.getD b .closed):Sem (Nat×CommCase×Way)).run P w₁=.ok (k,cc,.partner j kj) (w₁.at d2) ->
   ((communicate P (crowd gs w sl).rest (gs.setIfInBounds i ph) i g₂ cases true shape w₁).1,pre++(communicate P (crowd gs w sl).rest (gs.setIfInBounds i ph) i g₂ cases true shape w₁).2) =
    (.next (crowd ((gs.setIfInBounds j (x.finishComm P om pV kj (cc.send.getD undef) cj.send.isNone)).setIfInBounds i (g₂.finishComm P cases shape k (cj.send.getD undef) cc.send.isNone)) ((w₁.at d2).setChan c 0 #[] false (s+1) (r+1) tm) sl),
    pre++(if cc.send.isSome then #[mo i g₂ (.send c s),mo j x (.recv c r 0),mo i g₂ (.sendDone c s),mo j x (.recvDone c r)]else #[mo j x (.send c s),mo i g₂ (.recv c r 0),mo j x (.sendDone c s),mo i g₂ (.recvDone c r)]))) /\
   ∀a,0<(rd.getD a (0,default,[])).2.2.length->∀k,(Q a).cut k<(rd.getD a (0,default,[])).2.2.length:=by
 apply Exists.intro
 constructor
 ·intro k cc c s r tm j kj x om pV cj d2 hch hc hx yn dO hcs yo;have Oc:∀v,finishPartner P (gs.setIfInBounds i ph) j kj v=(gs.setIfInBounds i ph).setIfInBounds j (x.finishComm P om pV kj v cj.send.isNone):=λv=>by
   rw[finishPartner_at P _ hx yn kj v,dO];rfl
  have iy:offeredValue (gs.setIfInBounds i ph) j kj=cj.send.getD undef:=by simp[offeredValue,hx,yn,dO]
  have hgd:(gs.setIfInBounds i ph).getD j default=x:=by rw[pD,hx];rfl
  have Od:(w₁.at d2).heap[c]?=U (.chan 0 #[] false s r tm):=hc;have Ye:(((cases.zipIdx.toList.map λ(c,k)=>(k,c,ways w₁ (gs.setIfInBounds i ph) c)).filter λ(_,_,ws)=>!ws.isEmpty).isEmpty)=false:=by
   rw[rQ];cases rd with
   |nil=>exact absurd rfl hne
   |cons _ _=>rfl
  unfold communicate;simp only[uC,j5,Ye];rw[rQ,yo];have Oe:∀q,q=cases.any (illMade w₁)->¬q=true:=λq e=>by rw[e,IH];simp
  obtain⟨ch,sd,z⟩:=cc;simp only at hch;subst hch
  cases sd with
  |none=>
   simp only[Od,Oc,iy,hgd,set_stand2,crowd,World.setChan,Option.isSome_none,Option.isNone_none,uC,j5,Option.getD_none,mo]
   split
   ·rename_i hh;exact absurd hh (Oe _ rfl)
   rfl
  |some v=>
   have e:cj.send=J:=by
    cases hq:cj.send with
    |none=>rfl
    |some _=>rw[hq]at hcs;simp at hcs
   simp only[Od,Oc,hgd,set_stand2,crowd,World.setChan,Option.isSome_some,Option.isNone_some,kC,bC,mo,e,Option.getD_none]
   split
   ·rename_i hh;exact absurd hh (Oe _ rfl)
   rfl
 intro a h k;simp only[Question.cut];rw[aF (Nat.ne_of_gt h)];exact Nat.mod_lt _ h
def II(hi:gs[i]?=U g)(h:stepG P (i==0) g w=.comm g₂ cases true shape w₁ es)(Og:∀cc∈cases,illMade w₁ cc=false)
  (IG:∀cc∈cases,∀c,cc.chan=.chan (U c)->∃s r tm,w₁.heap[c]?=U (.chan 0 #[] false s r tm)):((∀cc∈cases,ways w₁ (gs.setIfInBounds i ph) cc=[]) /\
   runT P (crowd gs w sl) i=(.next (crowd (gs.setIfInBounds i (parked g₂ cases shape)) w₁ sl),MemOp.ofEvents i g.frame.fn g.frame.place es)) \/
  ∃(k:Nat) (cc:CommCase) (c s r:Nat) (tm:Bool) (j kj:Nat) (x:Goroutine) (om:Array CommCase) (pV:CommShape) (cj:CommCase) (d:Nat),
   cases[k]?=U cc/\cc.chan=.chan (U c)/\w₁.heap[c]?=U (.chan 0 #[] false s r tm)/\j≠i/\gs[j]?=U x/\x.status=.blocked/\x.offers=U (om,pV)/\om[kj]?=U cj/\cj.chan=.chan (U c)/\cj.send.isSome=cc.send.isNone /\
   runT P (crowd gs w sl) i=(.next (crowd ((gs.setIfInBounds j (x.finishComm P om pV kj (cc.send.getD undef) cj.send.isNone)).setIfInBounds i (g₂.finishComm P cases shape k (cj.send.getD undef) cc.send.isNone)) ((w₁.at d).setChan c 0 #[] false (s+1) (r+1) tm) sl),
    MemOp.ofEvents i g.frame.fn g.frame.place es++(if cc.send.isSome then #[mo i g₂ (.send c s),mo j x (.recv c r 0),mo i g₂ (.sendDone c s),mo j x (.recvDone c r)]else #[mo j x (.send c s),mo i g₂ (.recv c r 0),mo j x (.sendDone c s),mo i g₂ (.recvDone c r)])):=by
 by_cases hall:∀cc∈cases,ways w₁ (gs.setIfInBounds i ph) cc=[]
 ·exact .inl ⟨hall,crowd_waits hi h λcc hcc=>⟨Og cc hcc,hall cc hcc⟩⟩
 right
 rw[runT_crowd_comm hi h];generalize rQ:((cases.zipIdx.toList.map λ(c,k)=>(k,c,ways w₁ (gs.setIfInBounds i ph) c)).filter λ(_,_,ws)=>!ws.isEmpty)=rd;have tB:∀k c ws,(k,c,ws)∈rd->cases[k]?=U c/\ws=ways w₁ (gs.setIfInBounds i ph) c/\ws≠[]:=by
  intro k c ws hm;rw[<- rQ]at hm;simp only[List.mem_filter,pJ,Prod.mk.injEq,Prod.exists]at hm;obtain⟨⟨c',k',hz,rfl,rfl,rfl⟩,hne⟩:=hm;exact⟨mem_of_zipIdx hz,rfl,by simpa using hne⟩
 have hne:rd≠[]:=by
  intro e;apply hall
  intro cc hcc;obtain⟨k,hlt,rfl⟩:=xH.1 hcc
  by_cases hw:ways w₁ (gs.setIfInBounds i ph) cases[k]=[]
  ·exact hw
  exfalso
  have:(k,cases[k],ways w₁ (gs.setIfInBounds i ph) cases[k])∈rd:=by
   rw[<- rQ];simp only[List.mem_filter,pJ,Prod.mk.injEq,Prod.exists]
   refine⟨⟨cases[k],k,?_,rfl,rfl,rfl⟩,by simpa using hw⟩;have:cases.zipIdx.toList[k]?=U (cases[k],k):=by simp[hlt]
   exact fQ this
  rw[e]at this;cases this
 obtain⟨a,d1,ha,hr1⟩:=run_choose P w₁ (q:=.select rd.length) (λ_=>Nat.mod_lt _ (List.length_pos_iff.2 hne)) (List.length_pos_iff.2 hne);obtain⟨⟨k,cc,ws⟩,hka⟩:∃p,rd[a]?=U p:=⟨rd[a],bL ha⟩;obtain⟨hk,fV,Oh⟩:=tB k cc ws (fQ hka);have IH:cases.any (illMade w₁)=false:=any_ill Og;have Cg:rd.getD a (0,default,[])=(k,cc,ws):=by rw[nu,hka];rfl
 obtain⟨Q,Yf,hcut⟩:=Yd (P:=P) (gs:=gs) (w:=w) (sl:=sl) (i:=i) (g₂:=g₂) (shape:=shape) (pre:=MemOp.ofEvents i g.frame.fn g.frame.place es) IH rQ hne;obtain⟨b,d2,hb,hr2⟩:=run_choose P (w₁.at d1) (q:=Q a) (n:=ws.length) (by have:=hcut a;rw[Cg]at this;exact this (List.length_pos_iff.2 Oh)) (List.length_pos_iff.2 Oh);obtain⟨wy,Oi⟩:∃p,ws[b]?=U p:=⟨ws[b],bL hb⟩;have Yg:cc∈cases:=bU hk;obtain⟨c,s,r,tm,j,kj,hch,hc,rfl,hp⟩:=Yc (IG cc Yg) (fV▸fQ Oi);obtain⟨x,hx,hkj⟩:=mem_partners.1 hp;obtain⟨hst,om,pV,cj,yn,dO,Yh,hcs⟩:=Yb hkj;have lX:j≠i:=by
  rintro rfl
  rcases getElem?_stand gs j j x hx with⟨_,rfl⟩|⟨e,_⟩
  ·simp[ph]at hst
  exact e rfl
 have EI:gs[j]?=U x:=by
  rcases getElem?_stand gs i j x hx with⟨e,_⟩|⟨_,e⟩
  ·exact absurd e lX
  exact e
 refine⟨k,cc,c,s,r,tm,j,kj,x,om,pV,cj,d2,hk,hch,hc,lX,EI,hst,yn,dO,Yh,hcs,Yf k cc c s r tm j kj x om pV cj d2 hch hc hx yn dO hcs ?_⟩;simp only[kT,hr1,sQ,List.getD,hka,bC,hr2,Oi];rfl
end
open Go.Conc.Lib Go.ConcN Go.ConcN.Gen Go.ConcR.Gen Go.RowKit
open Go.ConcR (KK wgBlock WgAt stA smA rd wr mk Payload DC0)
section
variable {L:WgLink}
def fA(ty:TypeId)(Wg:Nat)(w w₁:ah):Prop:=WgLive ty Wg w->WgLive ty Wg w₁
def bm{w₁:ah}(h:WgLive ty Wg w)(r:fA ty Wg w w₁):WgLive ty Wg w₁:=r h
def fA.trans(a b c:ah)(h:fA ty Wg a b)(h':fA ty Wg b c):fA ty Wg a c:=h' ∘ h
section
variable (P:Program)(ty:TypeId)(Wg:Nat)(main:Bool)(g0:Goroutine)
def uV(g:Goroutine)(_:ah):Prop:=g=g0
def Gw(S:Goroutine->ah->Prop)(g:Goroutine)(w:ah):Prop:=∃m,Goes P main (fA ty Wg) DC0 S m g w
def Says(m:Mark)(S:Goroutine->ah->Prop)(g:Goroutine)(w:ah):Prop:=
 g.status=.running/\∃g',stepG P main g w=.go g' w #[mk m]/\Gw P ty Wg main S g' w
end
variable {L:WgLink}
section
variable (P:Program)(ty:TypeId)(Wg:Nat)
def IJ(g:Goroutine)(w:ah):Prop:=
 g.status=.running/\mayWake P g=true/\(WgAt ty Wg w 0 0->∃g',stepG P false g w=.go g' (w.setCell (smA Wg) (.int .u32 1)) (semEvents (smA Wg))/\∃q,QuitsD P q 1 g')
def IK(g:Goroutine)(w:ah):Prop:=
 g.status=.running/\(WgAt ty Wg w 1 0->∃g',stepG P false g w=.go g' (w.setCell (stA Wg) (.int .u64 0)) #[wr (stA Wg)]/\Gw P ty Wg false (IJ P ty Wg) g' (w.setCell (stA Wg) (.int .u64 0)))
def IL(g:Goroutine)(w:ah):Prop:=
 g.status=.running/\(WgAt ty Wg w 1 0->∃g',stepG P false g w=.go g' w #[rd (stA Wg)]/\Gw P ty Wg false (IK P ty Wg) g' w)
def Ch(g:Goroutine)(w:ah):Prop:=
 g.status=.running/\∀v wt:Nat,wt<=1->v<2147483647->WgAt ty Wg w ((v+1)*KK+wt) 0 ->
  ∃g',stepG P false g w=.go g' (w.setCell (stA Wg) (.int .u64 (v*KK+wt))) #[rd (stA Wg),wr (stA Wg)] /\
   (v=0/\wt=1->Gw P ty Wg false (IL P ty Wg) g' (w.setCell (stA Wg) (.int .u64 (v*KK+wt))))/\(¬(v=0/\wt=1)->∃q,QuitsD P q 1 g')
def wR:Goroutine->ah->Prop:=Says P ty Wg false (.releaseMerge (stA Wg)) (Says P ty Wg false .disable (Ch P ty Wg))
end
def Ci{P:Program}:∀{n m d:Nat} {g:Goroutine},n<=m->QuitsD P n d g->QuitsD P m d g
 |0,0,_,_,_,h=>h
 |0,_+1,_,_,_,h=>.inl h
 |_+1,0,_,_,hl,_=>absurd hl (by omega)
 |_+1,_+1,_,_,hl,h=>h.elim .inl λ⟨hs,g',es,a,b,c⟩=>.inr ⟨hs,g',es,a,b,Ci (Nat.le_of_succ_le_succ hl) c⟩
section
variable {Wg:Nat}{b₀:Frame}{a₀:Act}{ops₀:Array Oper}{i₀:Nat}{rest₀:List Nat}{k₀:List Item}{cs:List Frame}{qt:Nat}
def sub_one{P:Program}(H:WgLib P L)(hT:QuitsD P qt 0 (G (b₀.at (a₀.put ((ops₀[i₀]?).bind (·.dst)) (aX #[])) (.inRegion ops₀ rest₀::k₀)) cs))(w:ah)(hF:WgLive L.tWg Wg w):Goes P false (fA L.tWg Wg) DC0 (wR P L.tWg Wg) 200
   (G ((base L.add).at ⟨(ax (U (ar Wg 0 J))::af I (-1)::List.replicate 115 undef).toArray,[]⟩ [.code (body_add L)]) (b₀.at a₀ (.inRegion ops₀ (i₀::rest₀)::k₀)::cs)) w:=by
 lib_facts
 simp only[body_add,addFn,bC,List.replicate]
 repeat w_go bm
 u_conv H.underlying_tWgP H.room_tWg (WgLive.cell0 hF).choose_spec bm hF
 refine Goes.stop (λw₁ h₁=>?_);replace hF:=bm hF h₁
 clear h₁
 refine⟨rfl,_,stepG_markAt .releaseMerge (by simp) rfl rfl (by k_ne) rfl H.f_relMerge (x_relMerge_n L) (x_relMerge_b L) (x_relMerge_x L) (x_relMerge_f L) (by simp[Act.eval,stA]),200,?_⟩;walk_nrm
 repeat w_go bm
 refine Goes.stop (λw₁ h₁=>?_);replace hF:=bm hF h₁
 clear h₁
 refine⟨rfl,_,stepG_mark0 .disable (by simp) rfl rfl (by k_ne) rfl H.f_disable (x_disable_n L) (x_disable_b L) (x_disable_x L) (x_disable_f L),200,?_⟩;walk_nrm
 repeat (first|w_go bm|u_defer bm hF|u_bub bm hF|u_call H.f_uAdd (nm_uAdd L) uAddFn bm hF)
 refine Goes.stop (λw₂ h₂=>?_);clear h₂ hF
 refine⟨rfl,λv wt hwt hv hw=>?_⟩;have e0:IntKind.u64.wrap (KK+18446744069414584320)=0:=by decide
 have e1:IntKind.u64.wrap (KK+1+18446744069414584320)=1:=by decide
 rcases kG v with rfl|hvp<;>(obtain rfl|rfl:wt=0\/wt=1:=by omega)
 ·replace hw:WgAt L.tWg Wg w₂ KK 0:=by simpa using hw
  have z:((0:Nat):Int)*KK+((0:Nat):Int)=0:=by simp
  rw[z]
  refine⟨_,(stepG_add_atomic rfl rfl (by k_ne) rfl H.f_addU64 (x_addU64_n L) (x_addU64_b L) (x_addU64_x L) .u64 (x_addU64_f L) rfl rfl hw.cellSt (hw.thaw 0)).trans (by rw[e0];rfl),λhl=>absurd hl.2 (by decide),λ_=>⟨qt+200,?_⟩⟩;clear hw;walk_nrm
  repeat (first|(q_go;(try w_num);(try q_fix))|q_leave1 H.f_uAdd)
  q_enable
  q_leave0 H.f_add
  exact Ci (by omega) hT
 ·replace hw:WgAt L.tWg Wg w₂ (KK+1) 0:=by simpa using hw
  have z:((0:Nat):Int)*KK+((1:Nat):Int)=1:=by simp
  rw[z]
  refine⟨_,(stepG_add_atomic rfl rfl (by k_ne) rfl H.f_addU64 (x_addU64_n L) (x_addU64_b L) (x_addU64_x L) .u64 (x_addU64_f L) rfl rfl hw.cellSt (hw.thaw 0)).trans (by rw[e1];rfl),λ_=>⟨200,?_⟩,λhl=>absurd ⟨rfl,rfl⟩ hl⟩;have hF:WgLive L.tWg Wg (w₂.setCell (stA Wg) (.int .u64 1)):=⟨_,_,hw.setSt 1⟩;clear hw;walk_nrm
  repeat (first|w_go bm|u_leave1 H.f_uAdd bm hF|u_call H.f_uLoad (nm_uLoad L) uLoadFn bm hF)
  refine Goes.stop (λw₂ h₂=>?_);clear h₂ hF
  refine⟨rfl,λhw=>⟨_,stepG_load_atomic rfl rfl (by k_ne) rfl H.f_loadU64 (x_loadU64_n L) (x_loadU64_b L) (x_loadU64_x L) .u64 (x_loadU64_f L) rfl hw.cellSt,200,?_⟩⟩;have hF:WgLive L.tWg Wg w₂:=⟨_,_,hw⟩;clear hw;walk_nrm
  repeat (first|w_go bm|u_leave1 H.f_uLoad bm hF|u_call H.f_uStore (nm_uStore L) uStoreFn bm hF)
  refine Goes.stop (λw₃ h₃=>?_);clear h₃ hF
  refine⟨rfl,λhw=>⟨_,stepG_store_atomic rfl rfl (by k_ne) rfl H.f_storeU64 (x_storeU64_n L) (x_storeU64_b L) (x_storeU64_x L) (x_storeU64_f L) rfl rfl hw.cellSt (hw.thaw 0),200,?_⟩⟩;have hF:WgLive L.tWg Wg (w₃.setCell (stA Wg) (.int .u64 0)):=⟨_,_,hw.setSt 0⟩;clear hw;walk_nrm
  repeat (first|w_go bm|u_leave0 H.f_uStore bm hF)
  refine Goes.stop (λw₄ h₄=>?_);clear h₄ hF
  refine⟨rfl,mayWake_entry rfl rfl H.f_semrelease (x_semrelease_b L),λhw=>⟨_,(stepG_semrelease rfl rfl (by k_ne) rfl H.f_semrelease (x_semrelease_n L) (x_semrelease_b L) (x_semrelease_x L) (x_semrelease_f L) (by simp[Act.eval,smA]) hw.cellSm (hw.thaw 1)).trans (by rfl),qt+200,?_⟩⟩;clear hw;walk_nrm
  repeat q_go
  q_enable
  q_leave0 H.f_add
  exact Ci (by omega) hT
 ·replace hw:WgAt L.tWg Wg w₂ (((v:Nat)+1)*KK+0) 0:=by simpa using hw
  have z:((v:Nat):Int)*KK+((0:Nat):Int)=(v:Int)*KK+0:=by simp
  rw[z];have eS:IntKind.u64.wrap (((v:Nat)+1)*KK+0+18446744069414584320)=(v:Int)*KK+0:=by rw[z_];simp only[KK];omega
  obtain⟨S,hS⟩:∃S:Int,S=(v:Int)*KK+0:=⟨_,rfl⟩;rw[<- hS]at eS⊢;have a1:S / 4294967296=(v:Int):=by rw[hS];simp only[KK];omega
  have b1:bits .and .u64 S 2147483648=0:=by rw[hS];have:=st_flag v 0 (by omega) (by omega);simpa[KK]using this
  have b2:bits .and .u64 S 2147483647=0:=by rw[hS];have:=st_waiters v 0 (by omega) (by omega);simpa[KK]using this
  have c1:IntKind.i32.wrap (v:Int)=(v:Int):=by rw[IntKind.wrap_i32];omega
  have c2:IntKind.u64.wrap (v:Int)=(v:Int):=by rw[z_];omega
  have q3:decide ((v:Int)<0)=false:=bX (by omega);have q4:decide (0<(v:Int))=true:=bz (by omega);have q5:((v:Int)==0)=false:=by simp;omega
  have q6:decide ((v:Int)=0)=false:=bX (by omega);clear hS z
  refine⟨_,(stepG_add_atomic rfl rfl (by k_ne) rfl H.f_addU64 (x_addU64_n L) (x_addU64_b L) (x_addU64_x L) .u64 (x_addU64_f L) rfl rfl hw.cellSt (hw.thaw 0)).trans (by rw[eS];rfl),λhl=>absurd hl.1 (by omega),λ_=>⟨qt+200,?_⟩⟩;clear hw eS;walk_nrm
  repeat (first|(q_go;(try w_num);(try q_fix))|q_leave1 H.f_uAdd)
  q_enable
  q_leave0 H.f_add
  exact Ci (by omega) hT
 replace hw:WgAt L.tWg Wg w₂ (((v:Nat)+1)*KK+1) 0:=by simpa using hw
 have z:((v:Nat):Int)*KK+((1:Nat):Int)=(v:Int)*KK+1:=by simp
 rw[z];have eS:IntKind.u64.wrap (((v:Nat)+1)*KK+1+18446744069414584320)=(v:Int)*KK+1:=by rw[z_];simp only[KK];omega
 obtain⟨S,hS⟩:∃S:Int,S=(v:Int)*KK+1:=⟨_,rfl⟩;rw[<- hS]at eS⊢;have a1:S / 4294967296=(v:Int):=by rw[hS];simp only[KK];omega
 have b1:bits .and .u64 S 2147483648=0:=by rw[hS];have:=st_flag v 1 (by omega) (by omega);simpa[KK]using this
 have b2:bits .and .u64 S 2147483647=1:=by rw[hS];have:=st_waiters v 1 (by omega) (by omega);simpa[KK]using this
 have c1:IntKind.i32.wrap (v:Int)=(v:Int):=by rw[IntKind.wrap_i32];omega
 have c2:IntKind.u64.wrap (v:Int)=(v:Int):=by rw[z_];omega
 have q3:decide ((v:Int)<0)=false:=bX (by omega);have q4:decide (0<(v:Int))=true:=bz (by omega);have q5:((v:Int)==0)=false:=by simp;omega
 have q6:decide ((v:Int)=0)=false:=bX (by omega);clear hS z
 refine⟨_,(stepG_add_atomic rfl rfl (by k_ne) rfl H.f_addU64 (x_addU64_n L) (x_addU64_b L) (x_addU64_x L) .u64 (x_addU64_f L) rfl rfl hw.cellSt (hw.thaw 0)).trans (by rw[eS];rfl),λhl=>absurd hl.1 (by omega),λ_=>⟨qt+200,?_⟩⟩;clear hw eS;walk_nrm
 repeat (first|(q_go;(try w_num);(try q_fix))|q_leave1 H.f_uAdd)
 q_enable
 q_leave0 H.f_add
 exact Ci (by omega) hT
def Yi{P:Program}(H:WgLib P L){c:Frame}(hcm:c.mode=.returning)(hT:QuitsD P qt 0 (G c cs))(w:ah)(hF:WgLive L.tWg Wg w):Goes P false (fA L.tWg Wg) DC0 (wR P L.tWg Wg) 203 (G ((baseD L.done).at ⟨#[ax (U (ar Wg 0 J)),undef,undef,undef],[]⟩ [.code (body_done L)]) (c::cs)) w:=by
 lib_facts
 have hA:=@sub_one L Wg;simp only[body_done,body_add,doneFn,addFn,bC,List.replicate]at hA⊢;w_go bm
 w_go bm
 u_in bm hF
 refine goes_call rfl rfl (by k_ne) rfl H.f_add (nm_add L) rfl ⟨by u_nil,?_⟩;walk_nrmf addFn
 refine hA (qt:=qt+3) H ?_ _ hF;q_c stepG_region_end
 q_c stepG_end
 exact QuitsD.leaveD rfl rfl H.f_done rfl hcm hT
end
end
end Go.Proofs.YtjjodkjbmgnbeaaGreatDoor
