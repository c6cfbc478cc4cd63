/-
  Several texts as one: CfRAny, CfRTake, CfRLine, ScConf, KeRnN, KeNew, KpRt, DcBase.
-/
import Derived.Test.YtgmfhkjghmdgiaaGreatDoorP11S
import Derived.Lib.ReplaceLaws
set_option linter.all false
set_option maxHeartbeats 40000000
set_option maxRecDepth 100000
abbrev Da.{u,v}:=@List.mem_map_of_mem.{u,v}
open Go renaming Addr→az,Value→ar,World→ai
open Go.Ending renaming returned→ax
open Go.IntKind renaming i64→R
open Go.Obj renaming cells→au
open Go.RowKit renaming Hid→aa
open Go.Value renaming agg→aU,bool→aI,int→U,pointer→aj,slice→af,string→aq,tuple→bn
open Option renaming none→I,some→J
open Go.Proofs.Tryz
namespace Go.Proofs.YtgmfhkjghmdgiaaGreatDoor
open Go.Extern Go.Extern.Stop Go.Maps Go.RowKit Go.Stop
theorem rD{look:Bs->Option Nat}:∀(fs:List Nat) (ws:List Bs),(aY look false fs ws).1=0->ws.length=fs.length/\(aY look false fs ws).2.length=fs.length/\∀(i:Nat) f w,fs[i]?=J f->ws[i]?=J w->(aY look false fs ws).2[i]?=J (bF look f w).2
 |[],ws,h=>by
  have:=Ue h;subst this;exact⟨rfl,rfl,λi f w hf=>by simp at hf⟩
 |f::fs,ws,h=>by
  obtain⟨w,A3,rfl,h1,h2,h3⟩:=Uc h;obtain⟨a,b,d⟩:=rD fs A3 h2;rw[h3]
  refine⟨by simp[a],by simp[b],λi f' w' hf hw=>?_⟩
  cases i with
  |zero=>
   simp at hf hw
   subst hf hw;rfl
  |succ i=>
   simp at hf hw⊢
   exact d i f' w' hf hw
structure nM(n:Nat)(e:aF):Prop where
 p:e.ak.length<=n
 g:e.aB.length<=n
 d:e.aA.length<=n
 f:e.first.length<=n
 l:e.last.length<=n
theorem nM.mono{n m:Nat}{e:aF}(h:nM n e)(hm:n<=m):nM m e:=⟨bw h.p hm,bw h.g hm,bw h.d hm,bw h.f hm,bw h.l hm⟩
theorem nM.upd{n k:Nat}{e:aF}{ws:List Bs}{vs:List Int}(h:nM n e):nM (n+1) (jQ k ws vs e):=by
 obtain⟨p,g,ee,f,l⟩:=h;unfold jQ
 split
 all_goals exact⟨by simp;omega,by simp;omega,by simp;omega,by simp;omega,by simp;omega⟩
theorem nN{vs:List Int}{i:Nat}{z:Int}(h:vs[i]?=J z):vs.getD i 0=z:=by rw[fQ,h];rfl
theorem mo{ws:List ByteArray}{n i:Nat}(h:ws.length=n)(hi:i<n):∃s,ws[i]?=J s:=⟨ws[i]'(by omega),bH _⟩
theorem jK.c4{B rb L g cap mb:Nat}{w:ai}{c:aS}{last:Int}{es:List aF}{e:aF}{x:cn}{cells:List ar}(h:jK B rb L g cap mb w c last es e x cells):w.cell? ⟨rb,4,I⟩=J (af (J ⟨g,0,I⟩) (es.length+1) cap):=by have:=h.row;simp[World.cell?,this,gA]
theorem aeJ(A:Nat->az)(w0 w:ai)(rb L g cap mb k:Nat)(c:aS)(last:Int)(es:List aF)(e:aF)(x:cn)(cells:List ar)(sa:Option az)(ws:List ByteArray)(wb wo wc:Nat)(hs:dA A w0)(hb0:Below w0.heap.size w0 w)(h:dx w0.heap.size rb L g cap mb w c last es e x cells)(eG:L<=w.heap.size)(hW:jM w sa ws wb wo)(hn:nM 1000000 e)(hk:4<=k)(hk2:k<10):Calls prog 177 #[aj (J ⟨rb,0,I⟩),aj (J ⟨g,es.length*10,I⟩),U R (k:Int),af sa ws.length wc] w λv w'=>v=ax (cN A (aY (aV e.ak) false (form k) (ws.map bl)).1)/\Below w0.heap.size w0 w'/\w'.cell? ⟨rb,4,I⟩=J (af (J ⟨g,0,I⟩) (es.length+1) cap)/\((aY (aV e.ak) false (form k) (ws.map bl)).1=0->∃x',dx w0.heap.size rb L g cap mb w' c last es (jQ k (ws.map bl) (aY (aV e.ak) false (form k) (ws.map bl)).2 e) x' cells/\L<=w'.heap.size):=by
 match k,hk,hk2 with
 |4,_,_=>
  refine(aeI A w0 w rb L g cap mb c _ es e x _ sa ws wb wo wc hs hb0 h eG hW hn.p).mono ?_;rintro v w' ⟨rfl,hb,q,x',hv,hr,hL⟩
  refine⟨rfl,hb,hr.c4,λh0=>⟨x',?_,hL⟩⟩;obtain⟨hl,-,hd⟩:=rD _ _ h0;obtain⟨s,hs0⟩:=mo (i:=0) (by simpa[form]using hl) (by decide);have hq:=hv h0 s hs0;subst hq;have e1:(ws.map bl).getD 0 []=bl q:=by rw[fQ,gR,hs0];rfl
  show dx _ _ _ _ _ _ _ _ _ _ (aF.mk _ _ _ _ _ _ _ _ _ _) _ _
  rw[e1,show (⟨_⟩:ByteArray)=q from lC (qh _)];exact hr
 |5,_,_=>
  refine(aeB A w0 w rb L g cap mb c _ es e x _ sa ws wb wo wc hs hb0 h eG hW).mono ?_;rintro v w' ⟨rfl,hb,z0,z1,z2,hv,hr,hL⟩
  refine⟨rfl,hb,hr.c4,λh0=>⟨x,?_,hL⟩⟩;obtain⟨hl,-,hd⟩:=rD _ _ h0;obtain⟨s0,q0⟩:=mo (i:=0) (by simpa[form]using hl) (by decide);obtain⟨s1,q1⟩:=mo (i:=1) (by simpa[form]using hl) (by decide);obtain⟨s2,q2⟩:=mo (i:=2) (by simpa[form]using hl) (by decide);obtain⟨v0,v1,v2⟩:=hv h0;show dx _ _ _ _ _ _ _ _ _ _ (aF.mk _ _ _ _ _ _ _ _ _ _) _ _
  rw[nN (hd 0 2 _ rfl (by rw[gR,q0];rfl)),nN (hd 1 1 _ rfl (by rw[gR,q1];rfl)),nN (hd 2 1 _ rfl (by rw[gR,q2];rfl)),<- v0 s0 q0,<- v1 s1 q1,<- v2 s2 q2];exact hr
 |6,_,_=>
  refine(aeA A w0 w rb L g cap mb c _ es e x _ sa ws wb wo wc hs hb0 h eG hW hn.g).mono ?_;rintro v w' ⟨rfl,hb,z0,z1,z2,z3,x',hv,hr,hL⟩
  refine⟨rfl,hb,hr.c4,λh0=>⟨x',?_,hL⟩⟩;obtain⟨hl,-,hd⟩:=rD _ _ h0;obtain⟨s0,q0⟩:=mo (i:=0) (by simpa[form]using hl) (by decide);obtain⟨s1,q1⟩:=mo (i:=1) (by simpa[form]using hl) (by decide);obtain⟨s2,q2⟩:=mo (i:=2) (by simpa[form]using hl) (by decide);obtain⟨s3,q3⟩:=mo (i:=3) (by simpa[form]using hl) (by decide);obtain⟨v0,v1,v2,v3⟩:=hv h0;show dx _ _ _ _ _ _ _ _ _ _ (aF.mk _ _ _ _ _ _ _ _ _ _) _ _
  rw[nN (hd 0 2 _ rfl (by rw[gR,q0];rfl)),nN (hd 1 2 _ rfl (by rw[gR,q1];rfl)),nN (hd 2 1 _ rfl (by rw[gR,q2];rfl)),nN (hd 3 1 _ rfl (by rw[gR,q3];rfl)),<- v0 s0 q0,<- v1 s1 q1,<- v2 s2 q2,<- v3 s3 q3];exact hr
 |7,_,_=>
  refine(aez A w0 w rb L g cap mb c _ es e x _ sa ws wb wo wc hs hb0 h eG hW hn.d).mono ?_;rintro v w' ⟨rfl,hb,z0,z1,x',hv,hr,hL⟩
  refine⟨rfl,hb,hr.c4,λh0=>⟨x',?_,hL⟩⟩;obtain⟨hl,-,hd⟩:=rD _ _ h0;obtain⟨s0,q0⟩:=mo (i:=0) (by simpa[form]using hl) (by decide);obtain⟨s1,q1⟩:=mo (i:=1) (by simpa[form]using hl) (by decide);obtain⟨v0,v1⟩:=hv h0;show dx _ _ _ _ _ _ _ _ _ _ (aF.mk _ _ _ _ _ _ _ _ _ _) _ _
  rw[nN (hd 0 2 _ rfl (by rw[gR,q0];rfl)),nN (hd 1 2 _ rfl (by rw[gR,q1];rfl)),<- v0 s0 q0,<- v1 s1 q1];exact hr
 |8,_,_=>
  refine(aex A w0 w rb L g cap mb c _ es e x _ sa ws wb wo wc hs hb0 h eG hW hn.f).mono ?_;rintro v w' ⟨rfl,hb,z0,x',hv,hr,hL⟩
  refine⟨rfl,hb,hr.c4,λh0=>⟨x',?_,hL⟩⟩;obtain⟨hl,-,hd⟩:=rD _ _ h0;obtain⟨s0,q0⟩:=mo (i:=0) (by simpa[form]using hl) (by decide);show dx _ _ _ _ _ _ _ _ _ _ (aF.mk _ _ _ _ _ _ _ _ _ _) _ _
  rw[nN (hd 0 2 _ rfl (by rw[gR,q0];rfl)),<- hv h0 s0 q0];exact hr
 |9,_,_=>
  refine(aey A w0 w rb L g cap mb c _ es e x _ sa ws wb wo wc hs hb0 h eG hW hn.l).mono ?_;rintro v w' ⟨rfl,hb,z0,x',hv,hr,hL⟩
  refine⟨rfl,hb,hr.c4,λh0=>⟨x',?_,hL⟩⟩;obtain⟨hl,-,hd⟩:=rD _ _ h0;obtain⟨s0,q0⟩:=mo (i:=0) (by simpa[form]using hl) (by decide);show dx _ _ _ _ _ _ _ _ _ _ (aF.mk _ _ _ _ _ _ _ _ _ _) _ _
  rw[nN (hd 0 2 _ rfl (by rw[gR,q0];rfl)),<- hv h0 s0 q0];exact hr
 |k+10,_,h10=>exact absurd h10 (by omega)
def jy(B rb:Nat)(w:ai)(c:aS)(last:Int):Prop:=nL B rb w c last\/∃L g cap mb es e x cells,c.aw=es++[e]/\dx B rb L g cap mb w c last es e x cells/\L<=w.heap.size
theorem yx(es:List aF)(e:aF):bO (es++[e])=e.ak:=by simp[bO]
theorem aeK{l1 l2:Bs->Option Nat}{f:Nat}(hf:f<2)(w:Bs):bF l1 f w=bF l2 f w:=by
 unfold bF
 match f,hf with
 |0,_=>rfl
 |1,_=>rfl
theorem Ry{l1 l2:Bs->Option Nat}:∀(fs:List Nat) (ws:List Bs) (nn:Bool),(∀f∈fs,f<2)->aY l1 nn fs ws=aY l2 nn fs ws
 |[],[],_,_=>rfl
 |[],_::_,_,_=>rfl
 |_::_,[],_,_=>rfl
 |f::fs,w::ws,nn,h=>by
  have e:=aeK (l1:=l1) (l2:=l2) (h f (by simp)) w;unfold aY;rw[e]
  split
  ·rfl
  rw[Ry fs ws _ (λf hf=>h f (by simp[hf]))]
theorem aeL(A:Nat->az)(w0 w:ai)(rb:Nat)(c:aS)(last:Int)(sa:Option az)(ws:List ByteArray)(wb wo wc:Nat)(hs:dA A w0)(hb0:Below w0.heap.size w0 w)(h:nL w0.heap.size rb w c last)(hW:jM w sa ws wb wo)(q:Nat):Calls prog 175 #[aj (J ⟨rb,0,I⟩),af sa ws.length wc,af (J ⟨w.heap.size,0,I⟩) 2 2] ((w.drewN q).alloc (au #[.iface 263 (aj (J ⟨rb,0,I⟩)),.iface 263 (aj (J ⟨rb,1,I⟩))] 20)) λv w2=>v=ax (cN A (aY (aV []) false [1,1] (ws.map bl)).1)/\Below w0.heap.size w0 w2/\∃z0 z1:Int,((aY (aV []) false [1,1] (ws.map bl)).1=0->(∀s,ws[0]?=J s->z0=(bF (aV []) 1 (bl s)).2)/\(∀s,ws[1]?=J s->z1=(bF (aV []) 1 (bl s)).2))/\nL w0.heap.size rb w2 ⟨z0,z1,c.cycle,c.bC,c.aw⟩ last:=by
 have cK:Below w.heap.size w ((w.drewN q).alloc (au #[.iface 263 (aj (J ⟨rb,0,I⟩)),.iface 263 (aj (J ⟨rb,1,I⟩))] 20)):=(cg (aC _ _) q).alloc (aQ _) _;have hrow:=bG cK h.row;have jb:=bJ h.row;have hlt:=hW.lt;have hne:rb≠wb:=λe2=>by
  obtain⟨cc,fr,hh⟩:=hW.blk;have h1:=h.row;rw[e2,hh]at h1;simp only[eR,l_]at h1;exact absurd h1.2.1 (by decide)
 have Db:ot w0 rb [] [1,1] [(rb,0),(rb,1)] ws wb wo w.heap.size ((w.drewN q).alloc (au #[.iface 263 (aj (J ⟨rb,0,I⟩)),.iface 263 (aj (J ⟨rb,1,I⟩))] 20)):=by
  refine⟨hb0.trans (cK.mono hb0.size),rfl,by simp,by simp,?_,?_,by simp,?_,λi s hi=>aG cK (hW.pS i s hi),hW.sz,λh2=>by simp at h2⟩
  ·intro i f t hf ht
   match i,hf,ht with
   |0,hf,ht=>
    simp at hf ht
    subst hf ht;exact⟨⟨U R c.closed,by simp[World.cell?,hrow,gA],⟨_,rfl⟩⟩,by simp[World.frozen?,hrow]⟩
   |1,hf,ht=>
    simp at hf ht
    subst hf ht;exact⟨⟨U R c.opn,by simp[World.cell?,hrow,gA],⟨_,rfl⟩⟩,by simp[World.frozen?,hrow]⟩
   |i+2,hf,_=>simp at hf
  ·intro t ht;simp only[fg,jB,jU]at ht
   rcases ht with rfl|rfl
   all_goals exact⟨h.lo,λe2=>by simp at e2,by simp only[];omega,hne⟩
  intro i f t hf ht
  match i,hf,ht with
  |0,hf,ht=>
   simp at hf ht
   subst hf ht;show World.cell? _ ⟨(w.drewN q).heap.size,_,_⟩=_
   rw[dK _ _ _ _ rfl];rfl
  |1,hf,ht=>
   simp at hf ht
   subst hf ht;show World.cell? _ ⟨(w.drewN q).heap.size,_,_⟩=_
   rw[dK _ _ _ _ rfl];rfl
  |i+2,hf,_=>simp at hf
 refine(sW A w0 _ rb [] _ _ ws sa wb wo wc _ hs Db hW.sa hW.few).mono ?_;rintro v w2 ⟨rfl,us,jx,gp,gq,eQ⟩;obtain⟨u0,u1,rfl⟩:∃u0 u1,us=[u0,u1]:=by
  match us,jx with
  |[u0,u1],_=>exact⟨u0,u1,rfl⟩
 obtain⟨z0,rfl⟩:=gp 0 1 u0 rfl rfl;obtain⟨z1,rfl⟩:=gp 1 1 u1 rfl rfl;have hsz:(dD ((w.drewN q).alloc (au #[.iface 263 (aj (J ⟨rb,0,I⟩)),.iface 263 (aj (J ⟨rb,1,I⟩))] 20)) [(rb,0),(rb,1)] [U R z0,U R z1]).heap.size=((w.drewN q).alloc (au #[.iface 263 (aj (J ⟨rb,0,I⟩)),.iface 263 (aj (J ⟨rb,1,I⟩))] 20)).heap.size:=by simp[dD]
 have pT:Below (dD ((w.drewN q).alloc (au #[.iface 263 (aj (J ⟨rb,0,I⟩)),.iface 263 (aj (J ⟨rb,1,I⟩))] 20)) [(rb,0),(rb,1)] [U R z0,U R z1]).heap.size (dD ((w.drewN q).alloc (au #[.iface 263 (aj (J ⟨rb,0,I⟩)),.iface 263 (aj (J ⟨rb,1,I⟩))] 20)) [(rb,0),(rb,1)] [U R z0,U R z1]) w2:=by rw[hsz];exact eQ
 have b1:Below _ w0 (dD _ [(rb,0),(rb,1)] [U R z0,U R z1]):=(hb0.trans (cK.mono hb0.size)).trans (yr _ _ _ _ (λt ht=>by simp at ht;first|(subst ht;exact h.lo)|(rcases ht with rfl|rfl<;>exact h.lo)))
 refine⟨rfl,b1.trans (pT.mono b1.size),z0,z1,λh0=>⟨(λs hs=>by have:=gq h0 0 1 s _ rfl hs rfl;unfold valOf at this;rw[aK (by decide)]at this;exact(nK this).2),(λs hs=>by have:=gq h0 1 1 s _ rfl hs rfl;unfold valOf at this;rw[aK (by decide)]at this;exact(nK this).2)⟩,h.lo,h.nil,bG pT ?_⟩;simp only[dD,World.setCell,dr,hrow];simp[gA]
theorem aeM(A:Nat->az)(w0 w:ai)(rb:Nat)(c:aS)(last:Int)(sa:Option az)(ws:List ByteArray)(wb wo wc:Nat)(hs:dA A w0)(hb0:Below w0.heap.size w0 w)(h:nL w0.heap.size rb w c last)(hW:jM w sa ws wb wo)(q:Nat):Calls prog 175 #[aj (J ⟨rb,0,I⟩),af sa ws.length wc,af (J ⟨w.heap.size,0,I⟩) 1 1] ((w.drewN q).alloc (au #[.iface 263 (aj (J ⟨rb,2,I⟩))] 20)) λv w2=>v=ax (cN A (aY (aV []) false [1] (ws.map bl)).1)/\Below w0.heap.size w0 w2/\∃z0:Int,((aY (aV []) false [1] (ws.map bl)).1=0->(∀s,ws[0]?=J s->z0=(bF (aV []) 1 (bl s)).2))/\nL w0.heap.size rb w2 ⟨c.closed,c.opn,z0,c.bC,c.aw⟩ last:=by
 have cK:Below w.heap.size w ((w.drewN q).alloc (au #[.iface 263 (aj (J ⟨rb,2,I⟩))] 20)):=(cg (aC _ _) q).alloc (aQ _) _;have hrow:=bG cK h.row;have jb:=bJ h.row;have hlt:=hW.lt;have hne:rb≠wb:=λe2=>by
  obtain⟨cc,fr,hh⟩:=hW.blk;have h1:=h.row;rw[e2,hh]at h1;simp only[eR,l_]at h1;exact absurd h1.2.1 (by decide)
 have Db:ot w0 rb [] [1] [(rb,2)] ws wb wo w.heap.size ((w.drewN q).alloc (au #[.iface 263 (aj (J ⟨rb,2,I⟩))] 20)):=by
  refine⟨hb0.trans (cK.mono hb0.size),rfl,by simp,by simp,?_,?_,by simp,?_,λi s hi=>aG cK (hW.pS i s hi),hW.sz,λh2=>by simp at h2⟩
  ·intro i f t hf ht
   match i,hf,ht with
   |0,hf,ht=>
    simp at hf ht
    subst hf ht;exact⟨⟨U R c.cycle,by simp[World.cell?,hrow,gA],⟨_,rfl⟩⟩,by simp[World.frozen?,hrow]⟩
   |i+1,hf,_=>simp at hf
  ·intro t ht;simp only[fg,jB,jU]at ht;subst ht;exact⟨h.lo,λe2=>by simp at e2,by simp only[];omega,hne⟩
  intro i f t hf ht
  match i,hf,ht with
  |0,hf,ht=>
   simp at hf ht
   subst hf ht;show World.cell? _ ⟨(w.drewN q).heap.size,_,_⟩=_
   rw[dK _ _ _ _ rfl];rfl
  |i+1,hf,_=>simp at hf
 refine(sW A w0 _ rb [] [1] _ ws sa wb wo wc _ hs Db hW.sa hW.few).mono ?_;rintro v w2 ⟨rfl,us,jx,gp,gq,eQ⟩;obtain⟨u0,rfl⟩:∃u0,us=[u0]:=by
  match us,jx with
  |[u0],_=>exact⟨u0,rfl⟩
 obtain⟨z0,rfl⟩:=gp 0 1 u0 rfl rfl;have hsz:(dD ((w.drewN q).alloc (au #[.iface 263 (aj (J ⟨rb,2,I⟩))] 20)) [(rb,2)] [U R z0]).heap.size=((w.drewN q).alloc (au #[.iface 263 (aj (J ⟨rb,2,I⟩))] 20)).heap.size:=by simp[dD]
 have pT:Below (dD ((w.drewN q).alloc (au #[.iface 263 (aj (J ⟨rb,2,I⟩))] 20)) [(rb,2)] [U R z0]).heap.size (dD ((w.drewN q).alloc (au #[.iface 263 (aj (J ⟨rb,2,I⟩))] 20)) [(rb,2)] [U R z0]) w2:=by rw[hsz];exact eQ
 have b1:Below _ w0 (dD _ [(rb,2)] [U R z0]):=(hb0.trans (cK.mono hb0.size)).trans (yr _ _ _ _ (λt ht=>by simp at ht;first|(subst ht;exact h.lo)|(rcases ht with rfl|rfl<;>exact h.lo)))
 refine⟨rfl,b1.trans (pT.mono b1.size),z0,λh0=>(λs hs=>by have:=gq h0 0 1 s _ rfl hs rfl;unfold valOf at this;rw[aK (by decide)]at this;exact(nK this).2),h.lo,h.nil,bG pT ?_⟩;simp only[dD,World.setCell,dr,hrow];simp[gA]
theorem aeN(A:Nat->az)(w0 w:ai)(rb:Nat)(c:aS)(last:Int)(sa:Option az)(ws:List ByteArray)(wb wo wc:Nat)(hs:dA A w0)(hb0:Below w0.heap.size w0 w)(h:nL w0.heap.size rb w c last)(hW:jM w sa ws wb wo)(q:Nat):Calls prog 175 #[aj (J ⟨rb,0,I⟩),af sa ws.length wc,af (J ⟨w.heap.size,0,I⟩) 1 1] ((w.drewN q).alloc (au #[.iface 263 (aj (J ⟨rb,3,I⟩))] 20)) λv w2=>v=ax (cN A (aY (aV []) false [1] (ws.map bl)).1)/\Below w0.heap.size w0 w2/\∃z0:Int,((aY (aV []) false [1] (ws.map bl)).1=0->(∀s,ws[0]?=J s->z0=(bF (aV []) 1 (bl s)).2))/\nL w0.heap.size rb w2 ⟨c.closed,c.opn,c.cycle,z0,c.aw⟩ last:=by
 have cK:Below w.heap.size w ((w.drewN q).alloc (au #[.iface 263 (aj (J ⟨rb,3,I⟩))] 20)):=(cg (aC _ _) q).alloc (aQ _) _;have hrow:=bG cK h.row;have jb:=bJ h.row;have hlt:=hW.lt;have hne:rb≠wb:=λe2=>by
  obtain⟨cc,fr,hh⟩:=hW.blk;have h1:=h.row;rw[e2,hh]at h1;simp only[eR,l_]at h1;exact absurd h1.2.1 (by decide)
 have Db:ot w0 rb [] [1] [(rb,3)] ws wb wo w.heap.size ((w.drewN q).alloc (au #[.iface 263 (aj (J ⟨rb,3,I⟩))] 20)):=by
  refine⟨hb0.trans (cK.mono hb0.size),rfl,by simp,by simp,?_,?_,by simp,?_,λi s hi=>aG cK (hW.pS i s hi),hW.sz,λh2=>by simp at h2⟩
  ·intro i f t hf ht
   match i,hf,ht with
   |0,hf,ht=>
    simp at hf ht
    subst hf ht;exact⟨⟨U R c.bC,by simp[World.cell?,hrow,gA],⟨_,rfl⟩⟩,by simp[World.frozen?,hrow]⟩
   |i+1,hf,_=>simp at hf
  ·intro t ht;simp only[fg,jB,jU]at ht;subst ht;exact⟨h.lo,λe2=>by simp at e2,by simp only[];omega,hne⟩
  intro i f t hf ht
  match i,hf,ht with
  |0,hf,ht=>
   simp at hf ht
   subst hf ht;show World.cell? _ ⟨(w.drewN q).heap.size,_,_⟩=_
   rw[dK _ _ _ _ rfl];rfl
  |i+1,hf,_=>simp at hf
 refine(sW A w0 _ rb [] [1] _ ws sa wb wo wc _ hs Db hW.sa hW.few).mono ?_;rintro v w2 ⟨rfl,us,jx,gp,gq,eQ⟩;obtain⟨u0,rfl⟩:∃u0,us=[u0]:=by
  match us,jx with
  |[u0],_=>exact⟨u0,rfl⟩
 obtain⟨z0,rfl⟩:=gp 0 1 u0 rfl rfl;have hsz:(dD ((w.drewN q).alloc (au #[.iface 263 (aj (J ⟨rb,3,I⟩))] 20)) [(rb,3)] [U R z0]).heap.size=((w.drewN q).alloc (au #[.iface 263 (aj (J ⟨rb,3,I⟩))] 20)).heap.size:=by simp[dD]
 have pT:Below (dD ((w.drewN q).alloc (au #[.iface 263 (aj (J ⟨rb,3,I⟩))] 20)) [(rb,3)] [U R z0]).heap.size (dD ((w.drewN q).alloc (au #[.iface 263 (aj (J ⟨rb,3,I⟩))] 20)) [(rb,3)] [U R z0]) w2:=by rw[hsz];exact eQ
 have b1:Below _ w0 (dD _ [(rb,3)] [U R z0]):=(hb0.trans (cK.mono hb0.size)).trans (yr _ _ _ _ (λt ht=>by simp at ht;first|(subst ht;exact h.lo)|(rcases ht with rfl|rfl<;>exact h.lo)))
 refine⟨rfl,b1.trans (pT.mono b1.size),z0,λh0=>(λs hs=>by have:=gq h0 0 1 s _ rfl hs rfl;unfold valOf at this;rw[aK (by decide)]at this;exact(nK this).2),h.lo,h.nil,bG pT ?_⟩;simp only[dD,World.setCell,dr,hrow];simp[gA]
theorem aeO(A:Nat->az)(w0 w:ai)(rb:Nat)(c:aS)(last:Int)(sa:Option az)(ws:List ByteArray)(wb wo wc:Nat)(hs:dA A w0)(hb0:Below w0.heap.size w0 w)(h:nL w0.heap.size rb w c last)(hW:jM w sa ws wb wo):Calls prog 128 #[aj (J ⟨rb,0,I⟩),U R 0,af sa ws.length wc] w λv w'=>v=ax (cN A (aY (aV (bO c.aw)) false (form 0) (ws.map bl)).1)/\Below w0.heap.size w0 w'/\((aY (aV (bO c.aw)) false (form 0) (ws.map bl)).1=0->jy w0.heap.size rb w' (ed c 0 (ws.map bl) (aY (aV (bO c.aw)) false (form 0) (ws.map bl)).2) last):=by
 have HP:aa (∀(zs:List Int),zs=(aY (aV []) _ [1,1] _).2->(aY (aV (bO c.aw)) false (form 0) (ws.map bl)).2=zs):=λzs hz=>by rw[hz,h.nil];rfl
 have HF:aa ((aY (aV (bO c.aw)) false (form 0) (ws.map bl)).1=(aY (aV []) false [1,1] (ws.map bl)).1):=by show _=_;rw[h.nil];rfl
 have H:aa _:=aeL A w0 w rb c _ sa ws wb wo wc hs hb0 h hW;clear h hW hs hb0;go_enter func128,ntmps128
 go_upto_region 3 with fail
 go_region_held3 (λ_=>True) (exact trivial) (first|(go_at_call 175;refine aL (H.o _) ?_;rintro v w2 ⟨rfl,hb2,z0,z1,hv,hr⟩))
 all_goals
  have HV:aa _:=hv;have aW:aa _:=hb2;have b_:aa _:=hr;clear hv hb2 hr;go_wp2;go_ret
  refine⟨by rw[HF.o];rfl,aW.o,λh0=>a_ ?_⟩;rw[HF.o]at h0;obtain⟨hl,-,hd⟩:=rD _ _ h0;obtain⟨s0,q0⟩:=mo (i:=0) (by simpa using hl) (by decide);obtain⟨s1,q1⟩:=mo (i:=1) (by simpa using hl) (by decide);show nL _ _ _ (aS.mk _ _ _ _ _) _
  rw[HP.o _ rfl,nN (hd 0 1 _ rfl (by rw[gR,q0];rfl)),nN (hd 1 1 _ rfl (by rw[gR,q1];rfl)),<- (HV.o h0).1 s0 q0,<- (HV.o h0).2 s1 q1];exact b_.o
theorem aeP(A:Nat->az)(w0 w:ai)(rb:Nat)(c:aS)(last:Int)(sa:Option az)(ws:List ByteArray)(wb wo wc:Nat)(hs:dA A w0)(hb0:Below w0.heap.size w0 w)(h:nL w0.heap.size rb w c last)(hW:jM w sa ws wb wo):Calls prog 128 #[aj (J ⟨rb,0,I⟩),U R 1,af sa ws.length wc] w λv w'=>v=ax (cN A (aY (aV (bO c.aw)) false (form 1) (ws.map bl)).1)/\Below w0.heap.size w0 w'/\((aY (aV (bO c.aw)) false (form 1) (ws.map bl)).1=0->jy w0.heap.size rb w' (ed c 1 (ws.map bl) (aY (aV (bO c.aw)) false (form 1) (ws.map bl)).2) last):=by
 have HP:aa (∀(zs:List Int),zs=(aY (aV []) _ [1] _).2->(aY (aV (bO c.aw)) false (form 1) (ws.map bl)).2=zs):=λzs hz=>by rw[hz,h.nil];rfl
 have HF:aa ((aY (aV (bO c.aw)) false (form 1) (ws.map bl)).1=(aY (aV []) false [1] (ws.map bl)).1):=by show _=_;rw[h.nil];rfl
 have H:aa _:=aeM A w0 w rb c _ sa ws wb wo wc hs hb0 h hW;clear h hW hs hb0;go_enter func128,ntmps128
 go_wp2_with fail
 refine aL (H.o 0) ?_;rintro v w2 ⟨rfl,hb2,z0,hv,hr⟩;have HV:aa _:=hv;have aW:aa _:=hb2;have b_:aa _:=hr;clear hv hb2 hr;go_wp2;go_ret
 refine⟨by rw[HF.o];rfl,aW.o,λh0=>a_ ?_⟩;rw[HF.o]at h0;obtain⟨hl,-,hd⟩:=rD _ _ h0;obtain⟨s0,q0⟩:=mo (i:=0) (by simpa using hl) (by decide);show nL _ _ _ (aS.mk _ _ _ _ _) _
 rw[HP.o _ rfl,nN (hd 0 1 _ rfl (by rw[gR,q0];rfl)),<- HV.o h0 s0 q0];exact b_.o
theorem aeQ(A:Nat->az)(w0 w:ai)(rb:Nat)(c:aS)(last:Int)(sa:Option az)(ws:List ByteArray)(wb wo wc:Nat)(hs:dA A w0)(hb0:Below w0.heap.size w0 w)(h:nL w0.heap.size rb w c last)(hW:jM w sa ws wb wo):Calls prog 128 #[aj (J ⟨rb,0,I⟩),U R 2,af sa ws.length wc] w λv w'=>v=ax (cN A (aY (aV (bO c.aw)) false (form 2) (ws.map bl)).1)/\Below w0.heap.size w0 w'/\((aY (aV (bO c.aw)) false (form 2) (ws.map bl)).1=0->jy w0.heap.size rb w' (ed c 2 (ws.map bl) (aY (aV (bO c.aw)) false (form 2) (ws.map bl)).2) last):=by
 have HP:aa (∀(zs:List Int),zs=(aY (aV []) _ [1] _).2->(aY (aV (bO c.aw)) false (form 2) (ws.map bl)).2=zs):=λzs hz=>by rw[hz,h.nil];rfl
 have HF:aa ((aY (aV (bO c.aw)) false (form 2) (ws.map bl)).1=(aY (aV []) false [1] (ws.map bl)).1):=by show _=_;rw[h.nil];rfl
 have H:aa _:=aeN A w0 w rb c _ sa ws wb wo wc hs hb0 h hW;clear h hW hs hb0;go_enter func128,ntmps128
 go_wp2_with fail
 refine aL (H.o 0) ?_;rintro v w2 ⟨rfl,hb2,z0,hv,hr⟩;have HV:aa _:=hv;have aW:aa _:=hb2;have b_:aa _:=hr;clear hv hb2 hr;go_wp2;go_ret
 refine⟨by rw[HF.o];rfl,aW.o,λh0=>a_ ?_⟩;rw[HF.o]at h0;obtain⟨hl,-,hd⟩:=rD _ _ h0;obtain⟨s0,q0⟩:=mo (i:=0) (by simpa using hl) (by decide);show nL _ _ _ (aS.mk _ _ _ _ _) _
 rw[HP.o _ rfl,nN (hd 0 1 _ rfl (by rw[gR,q0];rfl)),<- HV.o h0 s0 q0];exact b_.o
theorem aeR(A:Nat->az)(w0 w:ai)(rb:Nat)(c:aS)(last:Int)(sa:Option az)(ws:List ByteArray)(wb wo wc:Nat)(hs:dA A w0)(hb0:Below w0.heap.size w0 w)(h:jy w0.heap.size rb w c last)(hW:jM w sa ws wb wo)(hn:c.aw.length<=1000000):Calls prog 128 #[aj (J ⟨rb,0,I⟩),U R 3,af sa ws.length wc] w λv w'=>v=ax (cN A (aY (aV (bO c.aw)) false (form 3) (ws.map bl)).1)/\Below w0.heap.size w0 w'/\((aY (aV (bO c.aw)) false (form 3) (ws.map bl)).1=0->jy w0.heap.size rb w' (ed c 3 (ws.map bl) (aY (aV (bO c.aw)) false (form 3) (ws.map bl)).2) last):=by
 have HF:aa (aY (aV (bO c.aw)) _ (form 3) _=aY (aV []) false [0,1] (ws.map bl)):=Ry _ _ _ (by simp[form]);obtain⟨ev,mv,cells,hA⟩:∃ev mv cells,ow w0.heap.size rb w c last ev mv c.aw cells:=by
  rcases h with h|⟨L,g,cap,mb,es,e,x,cells,he,h,hL⟩
  ·have h2:=h.toA;rw[<- h.nil]at h2;exact⟨_,_,_,h2⟩
  have h2:=h.toA hL;rw[<- he]at h2;exact⟨_,_,_,h2⟩
 have H:aa _:=aeF A w0 w rb c _ ev mv _ _ sa ws wb wo wc hs hb0 hA hW hn;clear h hA hW hs hb0;go_enter func128,ntmps128
 go_wp2_with fail
 refine aL H.o ?_;rintro v w2 ⟨rfl,hb2,nm,z,L,g,cap,mb,hv,hr,hL⟩;have HV:aa _:=hv;have aW:aa _:=hb2;have b_:aa (dx _ rb L g cap mb w2 c _ _ _ _ _/\L<=w2.heap.size):=⟨hr,hL⟩;clear hv hb2 hr hL;go_wp2;go_ret
 refine⟨by rw[HF.o];rfl,aW.o,λh0=>aP ⟨L,g,cap,mb,c.aw,pg nm z,pU,cells,?_,?_,b_.o.2⟩⟩
 ·rw[HF.o]at h0⊢;obtain⟨hl,-,hd⟩:=rD _ _ h0;obtain⟨s0,q0⟩:=mo (i:=0) (by simpa using hl) (by decide);obtain⟨s1,q1⟩:=mo (i:=1) (by simpa using hl) (by decide);obtain⟨v0,v1⟩:=HV.o h0;have e1:(ws.map bl).getD 0 []=bl s0:=by rw[fQ,gR,q0];rfl
  show c.aw++[qL _ _]=_
  rw[nN (hd 1 1 _ rfl (by rw[gR,q1];rfl)),e1,<- v1 s1 q1,v0 s0 q0];unfold qL pg;rw[show (⟨_⟩:ByteArray)=s0 from lC (qh _)]
 exact⟨⟨b_.o.1.lo,b_.o.1.jL,b_.o.1.pO,b_.o.1.row,b_.o.1.aw,b_.o.1.iz,b_.o.1.olds,b_.o.1.new,b_.o.1.fl⟩,b_.o.1.map⟩
theorem aeS(k:Nat)(A:Nat->az)(w0 w:ai)(rb:Nat)(c:aS)(last:Int)(sa:Option az)(ws:List ByteArray)(wb wo wc:Nat)(hs:dA A w0)(hb0:Below w0.heap.size w0 w)(hk:4<=k)(hk2:k<10)(L g cap mb:Nat)(es:List aF)(e:aF)(x:cn)(cells:List ar)(he:c.aw=es++[e])(h:dx w0.heap.size rb L g cap mb w c last es e x cells)(hL:L<=w.heap.size)(hW:jM w sa ws wb wo)(hn:es.length<=1000000)(hsz:nM 1000000 e):Calls prog 128 #[aj (J ⟨rb,0,I⟩),U R (k:Int),af sa ws.length wc] w λv w'=>v=ax (cN A (aY (aV (bO c.aw)) false (form k) (ws.map bl)).1)/\Below w0.heap.size w0 w'/\((aY (aV (bO c.aw)) false (form k) (ws.map bl)).1=0->jy w0.heap.size rb w' (ed c k (ws.map bl) (aY (aV (bO c.aw)) false (form k) (ws.map bl)).2) last):=by
 have HE:aa _:=he;have HK:aa _:=hk;have HF:aa (bO c.aw=e.ak):=by show _=_;rw[he,yx]
 have H:aa _:=λq=>aeJ A w0 _ rb L g cap mb k c _ es e x _ sa ws wb wo wc hs (cg hb0 q) (h.below (cg (aC _ _) q)) hL (hW.below (cg (aC _ _) q)) hsz hk hk2
 have c4:w.cell? ⟨rb,4,I⟩=J (af (J ⟨g,0,I⟩) (es.length+1) cap):=by have:=h.row;simp[World.cell?,this,gA]
 obtain⟨m,hm⟩:∃m,m=es.length:=⟨_,rfl⟩;have HM:aa _:=hm.symm;rw[<- hm]at c4 hn;have q0:(0:Int)<=(m:Int):=by omega
 have q1:(m:Int)<(m:Int)+1:=by omega
 have q2:IntKind.i64.wrap ((m:Int)+1-1)=m:=by rw[zm];omega
 have q3:IntKind.i64.wrap (m:Int)=m:=by rw[zm];omega
 have q5:¬(m:Int)<0:=by omega
 rw[<- hm]at H;clear hm;have k0:¬(k:Int)=0:=by omega
 have k1:¬(k:Int)=1:=by omega
 have k2:¬(k:Int)=2:=by omega
 have k3:¬(k:Int)=3:=by omega
 clear h hW hs hb0 he hL hsz hk hk2;go_enter func128,ntmps128
 go_upto_region 10 with fail
 go_region_held3 (λw'=>w'.cell? ⟨rb,4,I⟩=J (af (J ⟨g,0,I⟩) (m+1) cap)) (first|exact c4|exact aeT) (first|(go_at_call 177;refine aL (H.o _) ?_;rintro v w2 ⟨rfl,hb2,aeT,hr⟩))
 all_goals
  have aW:aa _:=hb2;have b_:aa _:=hr;clear hb2 hr H c4;go_wp2;go_ret
  refine⟨by rw[HF.o];rfl,aW.o,λh0=>?_⟩;rw[HF.o]at h0⊢;obtain⟨x',h1,h2⟩:=b_.o h0;have hu:ed c k (ws.map bl) (aY (aV e.ak) false (form k) (ws.map bl)).2=⟨c.closed,c.opn,c.cycle,c.bC,es++[jQ k (ws.map bl) (aY (aV e.ak) false (form k) (ws.map bl)).2 e]⟩:=by
   rw[<- pD,<- HE.o]
   match k,HK.o with
   |k+4,_=>rfl
  rw[hu];exact aP ⟨L,g,cap,mb,es,_,x',_,rfl,⟨⟨h1.lo,h1.jL,h1.pO,h1.row,h1.aw,h1.iz,h1.olds,h1.new,h1.fl⟩,h1.map⟩,h2⟩
theorem aeU(A:Nat->az)(w0 w:ai)(rb k:Nat)(c:aS)(last:Int)(sa:Option az)(ws:List ByteArray)(wb wo wc:Nat)(hs:dA A w0)(hb0:Below w0.heap.size w0 w)(h:jy w0.heap.size rb w c last)(hW:jM w sa ws wb wo)(hk:k<10)(hA:k<=2->c.aw=[])(hB:4<=k->c.aw≠[])(hn:c.aw.length<=1000000)(hz:∀e∈c.aw,nM 1000000 e):Calls prog 128 #[aj (J ⟨rb,0,I⟩),U R (k:Int),af sa ws.length wc] w λv w'=>v=ax (cN A (aY (aV (bO c.aw)) false (form k) (ws.map bl)).1)/\Below w0.heap.size w0 w'/\((aY (aV (bO c.aw)) false (form k) (ws.map bl)).1=0->jy w0.heap.size rb w' (ed c k (ws.map bl) (aY (aV (bO c.aw)) false (form k) (ws.map bl)).2) last):=by
 have Ki:c.aw=[]->nL w0.heap.size rb w c last:=λhe=>by
  rcases h with h|⟨L,g,cap,mb,es,e,x,cells,tR,-⟩
  ·exact h
  rw[he]at tR;simp at tR
 match k,hk with
 |0,_=>exact aeO A w0 w rb c _ sa ws wb wo wc hs hb0 (Ki (hA (by decide))) hW
 |1,_=>exact aeP A w0 w rb c _ sa ws wb wo wc hs hb0 (Ki (hA (by decide))) hW
 |2,_=>exact aeQ A w0 w rb c _ sa ws wb wo wc hs hb0 (Ki (hA (by decide))) hW
 |3,_=>exact aeR A w0 w rb c _ sa ws wb wo wc hs hb0 h hW hn
 |k+4,hk=>
  rcases h with h|⟨L,g,cap,mb,es,e,x,cells,he,h,hL⟩
  ·exact absurd h.nil (hB (by omega))
  exact aeS _ A w0 w rb c _ sa ws wb wo wc hs hb0 (by omega) hk L g cap mb es e x _ he h hL hW (by rw[he]at hn;simp at hn;omega) (hz e (by rw[he];simp))
theorem jy.setLast{B rb:Nat}{w:ai}{c:aS}{last:Int}(h:jy B rb w c last)(k:Int):jy B rb (w.setCell ⟨rb,5,I⟩ (U R k)) c k:=by
 have hg:=pd w rb 5 (U R k)
 rcases h with h|⟨L,g,cap,mb,es,e,x,cells,he,h,hL⟩
 ·refine a_ ⟨h.lo,h.nil,?_⟩;simp only[World.setCell,dr,h.row];simp[gA]
 refine aP ⟨L,g,cap,mb,es,e,x,_,he,⟨⟨h.lo,h.jL,h.pO,?_,h.aw.kept hg (aP (dZ h.aw h.row (by decide))),h.iz,λi e' yz=>?_,h.new.other hg h.row (by decide) (by decide) (by decide) (by decide),h.fl⟩,?_⟩,by simpa[World.setCell]using hL⟩
 ·simp only[World.setCell,dr,h.row];simp[gA]
 ·obtain⟨x',a,b,d⟩:=h.olds i e' yz;exact⟨x',a.other hg h.row (by decide) (by decide) (by decide) (by decide),b,d⟩
 obtain⟨D,a,b⟩:=h.map
 refine⟨D,a.kept hg ?_,b⟩;intro e2;obtain⟨es',cl,a1,-⟩:=a;simp only[eR]at e2;rw[e2,h.row]at a1
 cases a1
theorem jy.c5{B rb:Nat}{w:ai}{c:aS}{last:Int}(h:jy B rb w c last):w.cell? ⟨rb,5,I⟩=J (U R last)/\w.frozen? ⟨rb,5,I⟩=false/\B<=rb:=by
 rcases h with h|⟨L,g,cap,mb,es,e,x,cells,he,h,hL⟩
 ·exact⟨by simp[World.cell?,h.row,gA],by simp[World.frozen?,h.row],h.lo⟩
 exact⟨by simp[World.cell?,h.row,gA],by simp[World.frozen?,h.row],h.lo⟩
theorem jy.below{B rb:Nat}{w w':ai}{c:aS}{last:Int}(h:jy B rb w c last)(hb:Below w.heap.size w w'):jy B rb w' c last:=by
 rcases h with h|⟨L,g,cap,mb,es,e,x,cells,he,h,hL⟩
 ·exact a_ ⟨h.lo,h.nil,bG hb h.row⟩
 exact aP ⟨L,g,cap,mb,es,e,x,_,he,h.below hb,bw hL hb.size⟩
def ox(w:ai):Prop:=∃m:Int,w.cell? ⟨14,0,I⟩=J (U R m)
theorem ox.below{w w':ai}(h:ox w)(hb:Below w.heap.size w w'):ox w':=h.elim λm hm=>⟨m,aG hb hm⟩
theorem Kk(s sep:ByteArray)(w:ai)(h:ox w)(hs:s.size<4294967281)(h1:1<=sep.size):Calls prog 61 #[aq s,aq sep] w λe w'=>e=ax (af (J ⟨w.heap.size,0,I⟩) (Lib.countB s sep+1) (Lib.countB s sep+1))/\w'=w.alloc (au ((Lib.splitB sep 0 (Lib.countB s sep) s).map Value.string).toArray 9):=by
 obtain⟨m,hm⟩:=h;exact Any.strings_Split { GH with } GH.i9 s sep m w hs hm h1
theorem Kl(s sep:ByteArray)(Dc:sep.data.toList=[32]):∃(h:ByteArray) (t:List ByteArray),Lib.splitB sep 0 (Lib.countB s sep) s=h::t/\bW 32 (bl s)=bl h::t.map bl/\t.length=Lib.countB s sep:=by
 have e:=N6 32 s sep Dc;have hl:=Lib.splitB_all sep (by rw[<- ByteArray.size_data,<- lU,Dc];decide) 0 _ s rfl
 cases hc:Lib.splitB sep 0 (Lib.countB s sep) s with
 |nil=>rw[hc]at hl;simp at hl
 |cons h t=>
  rw[hc]at e hl;exact⟨h,t,rfl,by show bW 32 s.data.toList=_;rw[<- e];rfl,by simpa using hl⟩
theorem Aw(c:UInt8):∀(l:List UInt8),(∀x∈bW c l,x.length<=l.length)/\(bW c l).length<=l.length+1
 |[]=>by simp[bW]
 |b::t=>by
  obtain⟨h1,h2⟩:=Aw c t;unfold bW
  split
  ·refine⟨λx hx=>?_,by simp;omega⟩;simp only[fg]at hx
   rcases hx with rfl|hx
   ·simp
   have:=h1 x hx;simp;omega
  split
  ·exact⟨λx hx=>by simp at hx;subst hx;simp,by simp⟩
  rename_i hh rr hc;rw[hc]at h1 h2
  refine⟨λx hx=>?_,by simp at h2⊢;omega⟩;simp only[fg]at hx
  rcases hx with rfl|hx
  ·have:=h1 hh (by simp);simp;omega
  have:=h1 x (by simp[hx]);simp;omega
theorem Fw(c:UInt8)(l x:List UInt8)(h:x∈bW c l):x.length<=l.length:=(Aw c l).1 x h
structure gZ(n:Nat)(c:aS)(last:Int):Prop where
 e0:last<=1->c.aw=[]
 e3:3<=last->c.aw≠[]
 len:c.aw.length<=n
 sz:∀e∈c.aw,nM n e
theorem aeV(A:Nat->az)(w0 w:ai)(rb:Nat)(c:aS)(last:Int)(l:ByteArray)(hs:dA A w0)(hK:jF w0)(hM:ox w0)(hb0:Below w0.heap.size w0 w)(h:jy w0.heap.size rb w c last)(hl:l.size<=1000000)(hO:gZ 1000000 c last):Calls prog 99 #[aj (J ⟨rb,0,I⟩),aq l] w λv w'=>v=ax (cN A (ez aV ⟨last,c⟩ (bl l)).1)/\Below w0.heap.size w0 w'/\((ez aV ⟨last,c⟩ (bl l)).1=0->jy w0.heap.size rb w' (ez aV ⟨last,c⟩ (bl l)).2.cfg (ez aV ⟨last,c⟩ (bl l)).2.last):=by
 obtain⟨hd,tl,hsp,hcut,oF⟩:=Kl l ⟨#[32]⟩ rfl;have HS:aa (dA A w0/\jF w0/\Below _ w0 w):=⟨hs,hK,hb0⟩;have HR:aa (jy _ rb w c _):=h;have HO:aa _:=hO;have wQ:aa (Calls prog 61 #[aq l,aq ⟨#[32]⟩] w λe w'=>e=ax (af (J ⟨w.heap.size,0,I⟩) (tl.length+1) (tl.length+1))/\w'=w.alloc (au ((hd::tl).map Value.string).toArray 9)):=by
  have:=Kk l ⟨#[32]⟩ w (hM.below hb0) (by omega) (by decide);rw[hsp,<- oF]at this;exact this
 have aeW:aa (ez aV ⟨last,c⟩ (bl l)=jo aV ⟨last,c⟩ (bl hd) (tl.map bl)):=by show _=_;unfold ez;rw[hcut]
 have fK:aa (∀s∈hd::tl,s.size<=1000000):=λs hs=>by
  have h1:bl s∈bW 32 (bl l):=by rw[hcut];exact Da (f:=bl) hs
  have h2:=Fw 32 _ _ h1;have h3:(bl s).length=s.size:=by simp[bl]
  have h4:(bl l).length=l.size:=by simp[bl]
  omega
 have zZ:aa (tl.length<=1000000):=by
  show _<=_
  have h1:=(Aw 32 (bl l)).2;rw[hcut]at h1;have h4:(bl l).length=l.size:=by simp[bl]
  simp at h1
  omega
 clear hs hK hM hb0 h hO hsp hcut oF;rw[aeW.o];go_enter func99,ntmps99
 go_wp2_with fail
 refine aL wQ.o ?_;rintro v w1 ⟨rfl,js⟩;have aO:aa (Below w.heap.size w w1):=by show Below _ _ _;rw[js];exact aN _ _
 have dp:aa (w1.heap[w.heap.size]?=J (au ((hd::tl).map Value.string).toArray 9 (0,0))):=by show _=_;rw[js];exact cR w _
 clear js wQ;have x0:w1.cell? ⟨w.heap.size,0,I⟩=J (aq hd):=by simp[World.cell?,dp.o]
 have nD:aa (jy _ rb w1 c _):=HR.o.below aO.o;have bK:aa _:=HS.o.2.2.trans (aO.o.mono HS.o.2.2.size);have Ax:=(HS.o.1.below bK.o).c0;have n1:(0:Int)<(tl.length:Int)+1:=by omega
 have n2:(1:Int)<=(tl.length:Int)+1:=by omega
 go_wp2_with fail
 refine(aej hd w1 (HS.o.2.1.below bK.o (fY (HS.o.2.1 0 (by decide))))).mono ?_;rintro v w2 ⟨rfl,rfl⟩;rename ai=>w1
 cases hk:kindOf (bl hd)with
 |none=>
  have ly:mQ (bl hd)=-1:=by unfold mQ;rw[hk]
  have HL:aa (jo aV ⟨last,c⟩ (bl hd) (tl.map bl)=(1,⟨last,c⟩)):=by show _=_;unfold jo;rw[hk]
  rw[ly];clear ly hk;go_wp2;go_ret;exact⟨by rw[HL.o];rfl,bK.o,λh0=>by rw[HL.o]at h0;simp at h0⟩
 |some k=>
  have ly:mQ (bl hd)=k:=by unfold mQ;rw[hk]
  have kY:=(A0 hk).2;have c5:=nD.o.c5;obtain⟨c5,f5,-⟩:=c5;rw[ly];have kn:¬(k:Int)=-1:=by omega
  cases hm:may last k
  ·have HL:aa (jo aV ⟨last,c⟩ (bl hd) (tl.map bl)=(1,⟨last,c⟩)):=by show _=_;unfold jo;rw[hk];simp only;rw[aR hm]
   clear ly hk;go_wp2_with fail
   refine(Q2 rb _ k w1 kY c5).mono ?_;rintro v w2 ⟨rfl,rfl⟩;rename ai=>w1
   rw[hm];go_wp2;go_ret;exact⟨by rw[HL.o];rfl,bK.o,λh0=>by rw[HL.o]at h0;simp at h0⟩
  have HL:aa (jo aV ⟨last,c⟩ (bl hd) (tl.map bl)=if (aY (aV (bO c.aw)) false (form k) (tl.map bl)).1=0 then (0,⟨k,ed c k (tl.map bl) (aY (aV (bO c.aw)) false (form k) (tl.map bl)).2⟩)else ((aY (aV (bO c.aw)) false (form k) (tl.map bl)).1,⟨last,c⟩)):=by show _=_;unfold jo;rw[hk];simp only;rw[aK (by rw[hm];simp)]
  have HM:aa _:=hm;have HK:aa _:=kY;clear ly hk;go_wp2_with fail
  refine(Q2 rb _ k w1 kY c5).mono ?_;rintro v w2 ⟨rfl,rfl⟩;rename ai=>w1
  rw[hm];have Km:aa (∀sa,(tl≠[]->sa=J ⟨w.heap.size,1,I⟩)->jM (w1.setCell ⟨rb,5,I⟩ (U R (k:Int))) sa tl w.heap.size 1):=λsa uj=>by
   have hne:rb≠w.heap.size:=by
    have:rb<w.heap.size:=by
     rcases HR.o with h|⟨L,g,cap,mb,es,e,x,cells,he,h,hL⟩
     ·exact bJ h.row
     exact bJ h.row
    omega
   have hrow:(w1.setCell ⟨rb,5,I⟩ (U R (k:Int))).heap[w.heap.size]?=J (au ((hd::tl).map Value.string).toArray 9 (0,0)):=by
    simp only[World.setCell,dr];rw[aK hne];exact dp.o
   refine⟨⟨_,_,hrow⟩,uj,λi s hi=>?_,λs hs=>fK.o s (by simp[hs]),zZ.o⟩;simp[World.cell?,hrow,hi,Nat.add_comm 1 i]
  have ma:aa _:=λsa wc uj=>aeU A w0 _ rb k c k sa tl _ 1 wc HS.o.1 (bK.o.setCell (p:=⟨rb,5,_⟩) nD.o.c5.2.2 _) (nD.o.setLast k) (Km.o sa uj) HK.o (λhk=>HO.o.e0 (by have:=HM.o;unfold may at this;rw[aR hk]at this;simp at this;omega)) (λhk=>HO.o.e3 (by
   have:=HM.o;unfold may at this;rw[aK (by omega),aK (by omega)]at this
   split at this
   ·simp at this;omega
   simp at this;omega)) HO.o.len HO.o.sz
  by_cases ht:tl=[]
  ·subst ht;clear Km;go_wp2_with fail
   refine aL (ma.o _ _ (λh=>absurd rfl h)) ?_;rintro v w3 ⟨rfl,hb3,hr3⟩;have fG:aa _:=hb3;have lu:aa _:=hr3;clear hb3 hr3 ma;go_wp2;go_ret
   refine⟨?_,fG.o,λh0=>?_⟩
   ·rw[HL.o]
    split
    ·rename_i h0;rw[List.map_nil]at h0;show Ending.returned (cN A _)=_;rw[h0]
    rfl
   rw[HL.o]at h0⊢
   split at h0
   ·rename_i h1;rw[aR h1];exact lu.o h1
   rename_i h1;exact absurd h0 h1
  have t0:0<tl.length:=by
   rcases Nat.eq_zero_or_pos tl.length with h|h
   ·exact absurd (qI h) ht
   exact h
  have t1:(0:Int)<(tl.length:Int):=by omega
  have t2:¬tl.length=0:=by omega
  clear Km;go_wp2_with fail
  refine aL (ma.o _ _ (λ_=>rfl)) ?_;rintro v w3 ⟨rfl,hb3,hr3⟩;have fG:aa _:=hb3;have lu:aa _:=hr3;clear hb3 hr3 ma;go_wp2;go_ret
  refine⟨?_,fG.o,λh0=>?_⟩
  ·rw[HL.o]
   split
   ·rename_i h0;show Ending.returned (cN A _)=_;rw[h0]
   rfl
  rw[HL.o]at h0⊢
  split at h0
  ·rename_i h1;rw[aR h1];exact lu.o h1
  rename_i h1;exact absurd h0 h1
theorem aeX{c:aS}(h0:(cG c).1=0):(jn c).length<=400001000:=by
 have h1:=LP h0;have im:=yS h0;have a1:=oC (n:=c.closed) (by have:=im.closed.2;omega);have a2:=oC (n:=c.opn) (by have:=im.opn.2;omega);have a3:=oC (n:=c.cycle) (by have:=im.cycle.2;omega);have a4:=oC (n:=c.bC) (by have:=im.bC.2;omega);unfold jn pC;rw[lV,lV,lV];generalize List.flatMap (λl=>l++[10]) (List.flatMap fh c.aw)=E at h1⊢;simp[bu,kw]
 omega
section
variable {A:Nat->az}{F:Nat->Prop}{w0 w w':ai}{c:aS}{kb bc:Nat}{K:aH}
theorem aeY(sa:Option az)(sc:Nat)(hs:dA A w)(hK:jF w)(hT:iK w)(hM:ox w)(hG:(max 12 13+1)<=w.heap.size)(hE:jR w (af sa c.aw.length sc) c.aw)(hS:nh c)(h0:(cG c).1=0):Calls prog 51 #[.agg (fH c kb bc (af sa c.aw.length sc))] w λe w'=>e=ax (bn #[aq ⟨(ri c).toArray⟩,.nilIface])/\Below w.heap.size w w':=by
 obtain⟨W,hW,hb,-⟩:=E0 w c kb bc (af sa c.aw.length sc);have hrow:W.heap[w.heap.size]?=J (au (fH c kb bc (af sa c.aw.length sc)) 45 (0,0)):=by rw[hW];exact cR _ _
 unfold fH at hrow;have x2:W.cell? ⟨w.heap.size,2,I⟩=J (U R c.closed):=by simp[World.cell?,hrow]
 have x3:W.cell? ⟨w.heap.size,3,I⟩=J (U R c.opn):=by simp[World.cell?,hrow]
 have x4:W.cell? ⟨w.heap.size,4,I⟩=J (U R c.cycle):=by simp[World.cell?,hrow]
 have x5:W.cell? ⟨w.heap.size,5,I⟩=J (U R c.bC):=by simp[World.cell?,hrow]
 have x6:W.cell? ⟨w.heap.size,6,I⟩=J (af sa c.aw.length sc):=by simp[World.cell?,hrow]
 have HX:aa _:=ad1 A c sa sc W (hs.below hb) (hK.below hb (fY (hK 0 (by decide)))) (hT.below hb hG) (bw hG hb.size) (hE.below hb) hS h0;have hlen:=aeX h0;obtain⟨s,Ko⟩:∃s:ByteArray,s=⟨(jn c).toArray⟩:=⟨_,rfl⟩;have Kp:s.data.toList=jn c:=by rw[Ko]
 rw[<- Ko]at HX;have C3:s.size<=400001000:=by rw[show s.size=s.data.toList.length from by simp,Kp];exact hlen
 obtain⟨t,ht⟩:∃t:ByteArray,t=⟨(Lib.trimSuffix s.data.toList [10]).toArray⟩:=⟨_,rfl⟩;have Kq:t.data.toList=Lib.trimSuffix (jn c) [10]:=by rw[ht,Kp]
 have aeZ:t.size<=400001000:=by
  rw[show t.size=t.data.toList.length from by simp,Kq];unfold Lib.trimSuffix
  split
  ·rw[gy];omega
  exact hlen
 have uN:aa (∀V:ai,Calls prog 62 #[aq s,aq ⟨#[10]⟩] V λe w'=>e=ax (aq t)/\w'=V):=λV=>by
  rw[ht];exact strings_TrimSuffix s _ V (by omega)
 have Rz:aa (∀V:ai,Below w.heap.size w V->Calls prog 87 #[aq t,aq ⟨#[10]⟩,aq ⟨#[59,32]⟩] V λe w'=>e=ax (aq ⟨(ri c).toArray⟩)/\Below V.heap.size V w'):=λV hV=>by
  obtain⟨m,hm⟩:=hM.below hV;have h5:=Lib.countB_mul_le ⟨#[10]⟩ (by decide) _ t (aQ _);have:=strings_ReplaceAll t ⟨#[10]⟩ ⟨#[59,32]⟩ m V (by omega) hm (by decide) (by
   rw[show (⟨_⟩:ByteArray).size=1 from rfl,tN]at h5;rw[show (⟨#[59,32]⟩:ByteArray).size=2 from rfl];omega)
  rw[Kq]at this;exact this
 have HB:aa _:=hb;clear hs hK hT hM hG hE hS h0 Ko Kp ht Kq C3 aeZ hlen hb hrow;unfold fH at hW⊢;go_enter func51,ntmps51
 go_upto_region 1 with fail
 rw[<- hW];clear hW;go_wp2_with fail
 refine aL HX.o ?_;rintro e w1 ⟨rfl,hb1⟩;have aO:aa _:=HB.o.trans (hb1.mono HB.o.size);have ae0:aa _:=Rz.o w1 aO.o;have ae1:aa _:=uN.o w1;clear hb1 HX Rz uN x2 x3 x4 x5 x6;go_wp2_with fail
 refine aL ae1.o ?_;rintro e wr ⟨rfl,rfl⟩;go_wp2_with fail
 refine aL ae0.o ?_;rintro e w2 ⟨rfl,hb2⟩;go_wp2;go_ret2
 exact⟨rfl,aO.o.trans (hb2.mono aO.o.size)⟩
end
section
variable {A:Nat->az}{H:Nat->Nat->Prop}{w0 w w':ai}{c:aS}{kb bc bd:Nat}{rv tv lv:ar}{bs:List Nat}{s:aM}{d:cS}{ls:List bB}
theorem ae2(h:mO H w0 w c kb bc bd rv tv lv bs s d ls)(hs:fA A w0)(hsm:¬153<=s.size):Calls prog 66 #[aj (J ⟨kb,0,I⟩)] w λe w'=>e=ax (errVal A 2)/\Below w.heap.size w w':=by
 have c2:w.cell? _=J (aj _):=h.cell 2 _ rfl;have HX:aa (Calls _ 107 _ w λe w'=>e=ax (bn #[aj .none,.iface 352 (aj (J (A 1)))])/\Below _ w w'):=
  XQ A bc s 1 w h.cells (hs.below h.br).four (by unfold aM.err;rw[aR (by omega)])
 clear h hs hsm;go_enter func66,ntmps66
 go_wp2_with fail
 refine aL HX.o ?_;rintro u w1 ⟨rfl,hb1⟩;have aO:aa _:=hb1;clear hb1 HX c2;go_wp2;go_ret;exact⟨rfl,aO.o⟩
end
theorem ae3{a:Act}{o:Oper}{s x:Operand}{t ty:TypeId}{vs vx v':ar}{V V':ai}(ho:o.op=.call { callee:=.builtin .append,args:=#[s,x],argTypes:=#[t,t] })(qP:o.type=ty)(hs:a.eval s=vs)(hx:a.eval x=vx)
  (hr:(Builtin.append_ #[t,t] ty #[vs,vx]).run prog V=.ok v' V'):(execOp a.eval o).run prog V=.ok (.value v') V':=by
 subst qP hs hx;simp[execOp,ho,resolve,invoke,builtin,hr]
theorem ae4:(prog.info? 114).map (λi=>(i.zero,i.size,i.bytes))=J (J (aj I),1,8):=by kernel_rfl
def ae5(kb:Nat)(lx ag:ar):Nat->ar
 |0=>aj (J ⟨kb,0,I⟩)
 |1=>aj (J ⟨kb,0,I⟩)
 |2=>aj (J ⟨kb,0,I⟩)
 |3=>aj (J ⟨kb,5,I⟩)
 |4=>lx
 |5=>ag
 |9=>aj (J ⟨kb,0,I⟩)
 |10=>aj (J ⟨kb,5,I⟩)
 |_=>undef
structure g_(V0:ai)(kb n:Nat)(K:Nat->ar)(P:Nat->ai->Prop)(Q:Nat->ai->Nat->Nat->ai->Prop)(vals:Nat->Option ar)(V:ai):Prop where
 cs:∀j,j<6\/j=9\/j=10->∀v,vals j=J v->v=K j
 st:(vals 6=.none/\vals 7=.none/\vals 8=.none/\vals 11=.none/\V=V0)\/(∃b,vals 6=J (aj (J ⟨b,0,.none⟩))/\vals 7=.none/\vals 8=.none/\vals 11=.none/\P b V)\/(∃b V1,vals 6=J (aj (J ⟨b,0,.none⟩))/\vals 7=J (af (J ⟨V1.heap.size,0,.none⟩) 1 1)/\vals 8=.none/\vals 11=.none/\P b V1/\V=V1.alloc (au #[aj (J ⟨b,0,.none⟩)] 114)) \/
  (∃b V1 g cap V3,vals 6≠.none/\vals 7≠.none/\vals 8=J (af (J ⟨g,0,.none⟩) (n+1) cap)/\P b V1/\Q b V1 g cap V3/\((vals 11=.none/\V=V3)\/(vals 11≠.none/\V=V3.setCell ⟨kb,5,.none⟩ (af (J ⟨g,0,.none⟩) (n+1) cap))))
 cl:(vals 6≠.none->vals 5≠.none)/\(vals 8≠.none->vals 4≠.none)
section
variable {V0 V V':ai}{kb n:Nat}{K:Nat->ar}{P:Nat->ai->Prop}{Q:Nat->ai->Nat->Nat->ai->Prop}{vals:Nat->Option ar}{i:Nat}{u:ar}
theorem g_.start:g_ V0 kb n K P Q (λ_=>.none) V0:=⟨λ_ _ _ h=>(by cases h),a_ ⟨rfl,rfl,rfl,rfl,rfl⟩,λh=>absurd rfl h,λh=>absurd rfl h⟩
theorem g_.const(h:g_ V0 kb n K P Q vals V)(hi:i<6\/i=9\/i=10)(hu:u=K i):g_ V0 kb n K P Q (upd vals i u) V:=by
 have o:∀j,j=6\/j=7\/j=8\/j=11->upd _ i u j=vals j:=λj hj=>jJ _ u (by omega)
 refine⟨λj hj v hv=>?_,?_,λh6=>E3 (h.cl.1 (by rwa [o 6 (by omega)]at h6)),λh8=>E3 (h.cl.2 (by rwa [o 8 (by omega)]at h8))⟩
 ·by_cases e:j=i
  ·subst e;rw[upd_same]at hv;exact(bj hv).symm.trans hu
  exact h.cs j hj v (by rwa [jJ vals u e]at hv)
 rw[o 6 (by omega),o 7 (by omega),o 8 (by omega),o 11 (by omega)];exact h.st
theorem g_.ae6(h:g_ V0 kb n K P Q vals V)(hn:vals 4=.none):V=V0\/(∃b,P b V)\/∃b V1,P b V1/\V=V1.alloc (au #[aj (J ⟨b,0,.none⟩)] 114):=by
 rcases h.st with⟨_,_,_,_,e⟩|⟨b,_,_,_,_,e⟩|⟨b,V1,_,_,_,_,e,e2⟩|⟨_,_,_,_,_,_,_,h8,_⟩
 ·exact a_ e
 ·exact aP (a_ ⟨b,e⟩)
 ·exact aP (aP ⟨b,V1,e,e2⟩)
 exact absurd hn (h.cl.2 (by rw[h8];simp))
theorem g_.Kr(h:g_ V0 kb n K P Q vals V)(hn:vals 6=.none):V=V0/\vals 7=.none/\vals 8=.none/\vals 11=.none:=by
 rcases h.st with⟨_,a,b,c,e⟩|⟨b,h6,_⟩|⟨b,V1,h6,_⟩|⟨_,_,_,_,_,h6,_⟩
 ·exact⟨e,a,b,c⟩
 ·rw[hn]at h6;cases h6
 ·rw[hn]at h6;cases h6
 exact absurd hn h6
theorem g_.ae7(h:g_ V0 kb n K P Q vals V)(hn:vals 5=.none):V=V0:=by
 refine(h.Kr ?_).1
 cases e:vals 6 with
 |none=>rfl
 |some u=>exact absurd hn (h.cl.1 (by rw[e];simp))
theorem g_.mem(h:g_ V0 kb n K P Q vals V)(hi:i=6\/i=7\/i=8\/i=11)(h5:i=6->vals 5≠.none)(h4:i=8->vals 4≠.none)(hs:(upd vals i u 6=.none/\upd vals i u 7=.none/\upd vals i u 8=.none/\upd vals i u 11=.none/\V'=V0)\/(∃b,upd vals i u 6=J (aj (J ⟨b,0,.none⟩))/\upd vals i u 7=.none/\upd vals i u 8=.none/\upd vals i u 11=.none/\P b V')\/(∃b V1,upd vals i u 6=J (aj (J ⟨b,0,.none⟩))/\upd vals i u 7=J (af (J ⟨V1.heap.size,0,.none⟩) 1 1)/\upd vals i u 8=.none/\upd vals i u 11=.none/\P b V1/\V'=V1.alloc (au #[aj (J ⟨b,0,.none⟩)] 114)) \/
  (∃b V1 g cap V3,upd vals i u 6≠.none/\upd vals i u 7≠.none/\upd vals i u 8=J (af (J ⟨g,0,.none⟩) (n+1) cap)/\P b V1/\Q b V1 g cap V3/\((upd vals i u 11=.none/\V'=V3)\/(upd vals i u 11≠.none/\V'=V3.setCell ⟨kb,5,.none⟩ (af (J ⟨g,0,.none⟩) (n+1) cap))))):g_ V0 kb n K P Q (upd vals i u) V':=by
 refine⟨λj hj v hv=>h.cs j hj v (by rwa [jJ vals u (by omega)]at hv),hs,λh6=>E3 ?_,λh8=>E3 ?_⟩
 ·by_cases e:i=6
  ·exact h5 e
  exact h.cl.1 (by rwa [jJ vals u (λe2=>e e2.symm)]at h6)
 by_cases e:i=8
 ·exact h4 e
 exact h.cl.2 (by rwa [jJ vals u (λe2=>e e2.symm)]at h8)
theorem g_.call(h:g_ V0 kb n K P Q vals V)(hn:vals 6=.none)(h5:vals 5≠.none){b:Nat}(hp:P b V'):g_ V0 kb n K P Q (upd vals 6 (aj (J ⟨b,0,.none⟩))) V':=by
 obtain⟨-,h7,h8,h11⟩:=h.Kr hn
 refine h.mem (a_ rfl) (λ_=>h5) (λe=>by cases e) (aP (a_ ⟨b,upd_same _ _ _,?_,?_,?_,hp⟩))
 ·rw[jJ _ _ (by decide)];exact h7
 ·rw[jJ _ _ (by decide)];exact h8
 rw[jJ _ _ (by decide)];exact h11
theorem g_.built(h:g_ V0 kb n K P Q vals V)(hn:vals 7=.none)(h6:vals 6=J u):∃b,u=aj (J ⟨b,0,.none⟩)/\P b V/\g_ V0 kb n K P Q (upd vals 7 (af (J ⟨V.heap.size,0,.none⟩) 1 1)) (V.alloc (au #[aj (J ⟨b,0,.none⟩)] 114)):=by
 rcases h.st with⟨a,_⟩|⟨b,a,_,h8,h11,hp⟩|⟨b,V1,_,a,_⟩|⟨_,_,_,_,_,_,a,_⟩
 ·rw[h6]at a;cases a
 ·refine⟨b,bj (h6.symm.trans a),hp,h.mem (aP (a_ rfl)) (λe=>by cases e) (λe=>by cases e) (aP (aP (a_ ⟨b,V,?_,upd_same _ _ _,?_,?_,hp,rfl⟩)))⟩
  ·rw[jJ _ _ (by decide)];exact a
  ·rw[jJ _ _ (by decide)];exact h8
  rw[jJ _ _ (by decide)];exact h11
 ·rw[hn]at a;cases a
 exact absurd hn a
theorem g_.app(h:g_ V0 kb n K P Q vals V)(hn:vals 8=.none)(h7:vals 7=J u)(h4:vals 4≠.none):∃b V1,u=af (J ⟨V1.heap.size,0,.none⟩) 1 1/\P b V1/\V=V1.alloc (au #[aj (J ⟨b,0,.none⟩)] 114)/\∀g cap V3,Q b V1 g cap V3->g_ V0 kb n K P Q (upd vals 8 (af (J ⟨g,0,.none⟩) (n+1) cap)) V3:=by
 rcases h.st with⟨_,a,_⟩|⟨b,_,a,_⟩|⟨b,V1,h6,a,_,h11,hp,e⟩|⟨_,_,_,_,_,_,_,a,_⟩
 ·rw[h7]at a;cases a
 ·rw[h7]at a;cases a
 ·refine⟨b,V1,bj (h7.symm.trans a),hp,e,λg cap V3 hq=>h.mem (aP (aP (a_ rfl))) (λe=>by cases e) (λ_=>h4) (aP (aP (aP ⟨b,V1,g,cap,V3,?_,?_,upd_same _ _ _,hp,hq,a_ ⟨?_,rfl⟩⟩)))⟩
  ·rw[jJ _ _ (by decide),h6];simp
  ·rw[jJ _ _ (by decide),a];simp
  rw[jJ _ _ (by decide)];exact h11
 rw[hn]at a;cases a
theorem g_.put(h:g_ V0 kb n K P Q vals V)(hn:vals 11=.none)(h8:vals 8=J u):∃b V1 g cap,u=af (J ⟨g,0,.none⟩) (n+1) cap/\P b V1/\Q b V1 g cap V/\g_ V0 kb n K P Q (upd vals 11 undef) (V.setCell ⟨kb,5,.none⟩ (af (J ⟨g,0,.none⟩) (n+1) cap)):=by
 rcases h.st with⟨_,_,a,_⟩|⟨b,_,_,a,_⟩|⟨b,V1,_,_,a,_⟩|⟨b,V1,g,cap,V3,h6,h7,a,hp,hq,⟨_,e⟩|⟨e,_⟩⟩
 ·rw[h8]at a;cases a
 ·rw[h8]at a;cases a
 ·rw[h8]at a;cases a
 ·refine⟨b,V1,g,cap,bj (h8.symm.trans a),hp,e▸hq,h.mem (aP (aP (aP rfl))) (λe=>by cases e) (λe=>by cases e) (aP (aP (aP ⟨b,V1,g,cap,V3,?_,?_,?_,hp,hq,aP ⟨by rw[upd_same];simp,by rw[e]⟩⟩)))⟩
  ·rw[jJ _ _ (by decide)];exact h6
  ·rw[jJ _ _ (by decide)];exact h7
  rw[jJ _ _ (by decide)];exact a
 exact absurd hn e
theorem g_.fin(h:g_ V0 kb n K P Q vals V)(h11:vals 11≠.none):∃b V1 g cap V3,P b V1/\Q b V1 g cap V3/\V=V3.setCell ⟨kb,5,.none⟩ (af (J ⟨g,0,.none⟩) (n+1) cap):=by
 rcases h.st with⟨_,_,_,a,_⟩|⟨_,_,_,_,a,_⟩|⟨_,_,_,_,_,a,_⟩|⟨b,V1,g,cap,V3,_,_,_,hp,hq,⟨a,_⟩|⟨_,e⟩⟩
 ·exact absurd a h11
 ·exact absurd a h11
 ·exact absurd a h11
 ·exact absurd a h11
 exact⟨b,V1,g,cap,V3,hp,hq,e⟩
end
section
variable {A:Nat->az}{H:Nat->Nat->Prop}{F:Nat->Prop}{w0 w w' V0 V1 V3 V4:ai}{c:aS}{kb bc bd rb bt:Nat}{rv tv lv:ar}{bs:List Nat}{s:aM}{d:cS}{ls:List bB}{K:aH}
theorem mO.more(h:mO H w0 V0 c kb bc bd rv tv lv bs s d ls){e:aF}{b g cap:Nat}{o:Obj}(he:c.aw[bs.length]?=J e)(hb1:Below V0.heap.size V0 V1)(sH:dY (λk=>V0.heap.size<=k/\k<V1.heap.size) V1 b e bB.new)
  (hown:V3.ownsRow w0.heap.size 114 1 (af (J ⟨g,0,I⟩) (bs.length+1) cap) (bs.length+1) (bs.flatMap ue++[aj (J ⟨b,0,I⟩)])) (hg:(V1.alloc o).grownBy V3 lv.ownBlock) (cH:lv.ownBlock=J g\/V1.heap.size<=g)
  (hW:V4=V3.setCell ⟨kb,5,I⟩ (af (J ⟨g,0,I⟩) (bs.length+1) cap)):mO (dV (dV H (5+bs.length) V0 V1) 1 V1 V3) w0 V4 c kb bc bd rv tv (af (J ⟨g,0,I⟩) (bs.length+1) cap) (bs++[b]) s d (ls++[bB.new])/\bh (λk=>k=kb\/lv.ownBlock=J k) V0 V4:=by
 have h1:=h.below hb1;have hz0:=h.br.size;have hz1:=hb1.size;have mM:=(bh.ig (aN V1 o) _).trans ⟨hg.os,hg.tape,hg.output,hg.size,λk hk hn=>hg.block k hk (λe=>hn e.symm)⟩ (λ_ _ e=>e);have hz3:=mM.size;have sP:bh (λk=>k=kb) V3 V4:=by rw[hW];exact bh.iO (fp _ _ _ _)
 have Ks:V3.heap.size=V4.heap.size:=by rw[hW];simp[World.setCell]
 have f1:nB (dV H (5+bs.length) V0 V1) _ V1:=h.eJ.upd hz1 hz0 _;have f3:=f1.upd hz3 (by omega) 1;have f4:nB _ _ V4:=f3.grow (by omega);have Ay:∀i k,H i k->dV H (5+bs.length) V0 V1 i k:=λi k hk=>a_ hk
 have up:∀i k,H i k->dV (dV H (5+bs.length) V0 V1) 1 V1 V3 i k:=λi k hk=>a_ (a_ hk)
 have ae8:=λk hk=>Ay 1 k (h.hl k hk)
 have s3:∀i k,i≠1->dV H _ V0 V1 i k->V3.heap[k]?=V1.heap[k]?:=λi k hi hk=>mM.block k (f1.lt i k hk) (λe=>hi (f1.vU i 1 k hk (ae8 k e)))
 have s4:∀i k,i≠1->i≠0->dV H _ V0 V1 i k->V4.heap[k]?=V1.heap[k]?:=λi k hi h0 hk=>(sP.block k (eh (f1.lt i k hk) hz3) (λe=>by rw[e]at hk;exact h0 (f1.vU i 0 kb hk (Ay 0 kb h.hk)))).trans (s3 i k hi hk)
 have hrow3:=(s3 0 kb (by decide) (Ay 0 kb h.hk)).trans h1.row;have ajm:∀i k,i≠1->dV (dV H (5+bs.length) V0 V1) 1 V1 V3 i k->dV H (5+bs.length) V0 V1 i k:=λi k hi hk=>by
  rcases hk with hk|⟨e,_⟩
  ·exact hk
  exact absurd e hi
 have RA:=((bh.ig hb1 _).trans (mM.mono (λk _ e=>aP e)) (λ_ _ e=>e)).trans sP (λ_ _ e=>a_ e)
 refine⟨⟨f4,?_,up 0 kb h.hk,?_,λk hk=>?_,?_,up 2 bc h.hc,?_,up 3 bd h.hd,λi b' e' s' hb' yz hs'=>?_,?_,?_⟩,RA⟩
 ·rw[hW];exact BX hrow3 _
 ·have e1:(bs++[b]).flatMap ue=bs.flatMap ue++[aj (J ⟨b,0,I⟩)]:=by rw[dP];rfl
  show V4.ownsRow _ _ _ _ _ _
  rw[e1,dm,qb];exact N0 hown (λq hq=>sP.block q (hown.lt q hq).2 (λe=>by rw[e]at hq;exact Em hown hrow3 (by decide) hq))
 ·cases hk
  rcases cH with e|e
  ·exact up 1 g (h.hl g e)
  exact aP ⟨rfl,e,(hown.lt g rfl).2⟩
 ·exact⟨(s4 2 bc (by decide) (by decide) (Ay 2 bc h.hc)).trans h1.cells.heap,h1.cells.len,h1.cells.size⟩
 ·exact⟨(s4 3 bd (by decide) (by decide) (Ay 3 bd h.hd)).trans h1.kE.heap,h1.kE.hc,h1.kE.ho,h1.kE.hk,h1.kE.hb,h1.kE.hn⟩
 ·have keep:∀{F1:Nat->Prop},dY F1 V1 b' e' s'->(∀k,F1 k->dV H _ V0 V1 _ k)->dY (dV _ 1 V1 V3 _) V4 b' e' s':=λhL hF=>
   ((hL.grow hF (λk hk=>f1.lt _ k hk)).same (λk hk=>s4 (5+i) k (by omega) (by omega) hk) (by omega)).grow (λk hk=>a_ hk) (λk hk=>f4.lt _ k hk)
  rw[List.getElem?_append]at hb' hs'
  by_cases hi:i<bs.length
  ·rw[aR hi]at hb';rw[aR (by rw[<- h.eB];exact hi)]at hs';exact keep (h1.loc i b' e' s' hb' yz hs') (λk hk=>Ay _ k hk)
  rw[aK hi]at hb';rw[aK (by rw[<- h.eB];exact hi)]at hs';have oP:i=bs.length:=by
   have:=(dT.1 hb').1;simp at this
   omega
  subst oP;rw[h.eB,Nat.sub_self]at hs';rw[Nat.sub_self]at hb';rw[he]at yz;simp at hb' hs'
  cases yz
  subst hb' hs';exact keep sH (λk hk=>aP ⟨rfl,hk⟩)
 ·rw[dm,dm,h.eB];rfl
 exact bh.below h.br RA hz0 (λk hk=>by
  rcases hk with hk|hk
  ·rw[hk];exact h.eJ.lo 0 kb h.hk
  exact h.eJ.lo 1 k (h.hl k hk))
theorem jR.ae9{w:ai}{sa:Option az}{cap i:Nat}{es:List aF}{e:aF}(h:jR w (af sa es.length cap) es)(he:es[i]?=J e):∃(E:EA) (b o:Nat),sa=J ⟨b,o,I⟩/\rk w e E/\∀(j:Nat) (u:ar),(r9 e (af E.pa e.ak.length E.pc) (af E.ga e.aB.length E.gc) (af E.ea e.aA.length E.ec) (af E.fa e.first.length E.fc) (af E.la e.last.length E.lc))[j]?=J u->w.cell? ⟨b,o+i*10+j,I⟩=J u:=by
 obtain⟨dI,cap',h1,h2⟩:=h
 cases h1
 obtain⟨b,o,rfl,h3⟩:=h2 (λx=>by rw[x]at he;simp at he);obtain⟨pv,gv,dv,fv,lv,hP,hce⟩:=h3 i e he;obtain⟨pa,pc,rfl,-⟩:=id hP.hp;obtain⟨ga,gc,rfl,-⟩:=id hP.hg;obtain⟨da,dc,rfl,-⟩:=id hP.he;obtain⟨fa,fc,rfl,-⟩:=id hP.hf;obtain⟨ya,yc,rfl,-⟩:=id hP.hl;exact⟨⟨pa,ga,da,fa,ya,pc,gc,dc,fc,yc⟩,b,o,rfl,hP,hce⟩
theorem ae_{A:Nat->az}{w:ai}{r:ar}{f:Nat×Int}(h:kJ A w r f)(h0:f.1=0):r=.nilIface:=by
 obtain⟨-,⟨-,e⟩|⟨e,-⟩⟩:=h
 ·rw[e,h0];rfl
 omega
theorem fA.five{A:Nat->az}{w:ai}(h:fA A w):lF A w:=⟨h.c1,h.c2,h.c3,h.c4,h.c5⟩
def ae'(kb bc bd:Nat):Nat->Nat->Prop:=λi k=>(i=0/\k=kb)\/(i=2/\k=bc)\/(i=3/\k=bd)
def Kt(w0 w:ai)(c:aS)(bc:Nat)(s:aM)(u:Ending)(w':ai):Prop:=∃kb F,u=ax (bn #[aj (J ⟨kb,0,I⟩),.nilIface])/\eV F w0 w' c kb bc (aH.new c s)/\Below w.heap.size w w'/\∀k,F k->(k=bc\/w.heap.size<=k)/\k<w'.heap.size
def Fx(A:Nat->az)(w0 w:ai)(c:aS)(bc:Nat)(s:aM)(u:Ending)(w':ai):Prop:=if 153<=s.size then Kt w0 w c bc s u w' else (u=ax (bn #[aj I,errVal A 2])/\Below w.heap.size w w')
theorem afa(sa:Option az)(sc:Nat)(hs:fA A w0)(hr:gi c)(h0:(cG c).1=0)(hE:jR w (af sa c.aw.length sc) c.aw)(hS:nh c)(hc:bY w bc s)(fE:w0.heap.size<=bc)(k9:Below w0.heap.size w0 w)(jr:s.off=false):Calls prog 21 #[aU #[U R c.closed,U R c.opn,U R c.cycle,U R c.bC,af sa c.aw.length sc],aj (J ⟨bc,0,I⟩)] w λu w'=>Fx A w0 w c bc s u w':=by
 obtain⟨W0,hW0⟩:∃X,X=w.alloc (au #[U R c.closed,U R c.opn,U R c.cycle,U R c.bC,af sa c.aw.length sc] 30):=⟨_,rfl⟩;have b0:Below w.heap.size w W0:=by rw[hW0];exact aN _ _
 have r0:W0.heap[w.heap.size]?=J (au #[U R c.closed,U R c.opn,U R c.cycle,U R c.bC,af sa c.aw.length sc] 30 (0,0)):=by rw[hW0];exact cR w _
 have Bh:aa _:=QL A c sa sc W0 (hs.below (k9.trans (b0.mono k9.size))).five (hE.below b0) hS;have oW:aa _:=r0;have dX:aa _:=b0;have HG:aa (fA A w0/\gi c/\(cG c).1=0/\jR w _ _/\bY w bc s/\w0.heap.size<=bc/\Below _ w0 w/\s.off=false):=⟨hs,hr,h0,hE,hc,fE,k9,jr⟩;obtain⟨cl,lD⟩:∃n:Nat,c.closed=(n:Int):=⟨c.closed.toNat,by have:=hr.cl;omega⟩;obtain⟨op,hop⟩:∃n:Nat,c.opn=(n:Int):=⟨c.opn.toNat,by have:=hr.op;omega⟩;have Fy:aa (∀V,Calls prog 64 #[U R c.closed,U R c.opn] V λe w'=>e=ax (bn #[aj (J ⟨V.heap.size,0,I⟩),.nilIface])/\Below V.heap.size V w'/\cP w' V.heap.size (cS.new c.closed.toNat c.opn.toNat)):=λV=>by
  have:=Yv cl op V (by have:=hr.cl;omega) (by have:=hr.op;omega) (by have:=hr.op;omega);rw[lD,hop];exact this
 clear hs hr h0 hE hS hc fE k9 jr b0 r0 lD hop;go_enter func21,ntmps21
 go_upto_region 1 with fail
 rw[<- hW0];clear hW0;have y0:W0.cell? ⟨w.heap.size,0,I⟩=J (U R c.closed):=by have:=oW.o;simp[World.cell?,this]
 have y1:W0.cell? ⟨w.heap.size,1,I⟩=J (U R c.opn):=by have:=oW.o;simp[World.cell?,this]
 have y2:W0.cell? ⟨w.heap.size,2,I⟩=J (U R c.cycle):=by have:=oW.o;simp[World.cell?,this]
 have y3:W0.cell? ⟨w.heap.size,3,I⟩=J (U R c.bC):=by have:=oW.o;simp[World.cell?,this]
 have y4:W0.cell? ⟨w.heap.size,4,I⟩=J (af sa c.aw.length sc):=by have:=oW.o;simp[World.cell?,this]
 go_wp2_with fail
 refine aL Bh.o ?_;rintro u w1 ⟨r,rfl,Dd,hb1⟩;have sG:=ae_ Dd HG.o.2.2.1;subst sG;have r1:=bG hb1 oW.o;have z0:w1.cell? ⟨w.heap.size,0,I⟩=J (U R c.closed):=by simp[World.cell?,r1]
 have z1:w1.cell? ⟨w.heap.size,1,I⟩=J (U R c.opn):=by simp[World.cell?,r1]
 have aO:aa _:=dX.o.trans (hb1.mono dX.o.size);have nD:aa _:=r1;clear Dd hb1 r1 Bh oW dX y0 y1 y2 y3 y4;go_wp2_with fail
 refine aL (Fy.o w1) ?_;rintro u w2 ⟨rfl,hb2,wE⟩;have r2:=bG hb2 nD.o;have z2:w2.cell? ⟨w.heap.size,2,I⟩=J (U R c.cycle):=by simp[World.cell?,r2]
 have z3:w2.cell? ⟨w.heap.size,3,I⟩=J (U R c.bC):=by simp[World.cell?,r2]
 have z4:∀o,(w2.alloc o).cell? ⟨w.heap.size,4,I⟩=J (af sa c.aw.length sc):=λo=>by
  have:=bG (aN w2 o) r2;simp[World.cell?,this]
 have zt:=aO.o.trans (hb2.mono aO.o.size);have hz2:=wE.lt;have hz1:=aO.o.size;go_upto_region 8 with fail
 obtain⟨W3,hW3⟩:∃X,X=w2.alloc (au #[aj (J ⟨w1.heap.size,0,I⟩),U R c.cycle,aj (J ⟨bc,0,I⟩),U R c.bC,aj I,af I 0 0,aj I] 113):=⟨_,rfl⟩;have RB:=z4 (au #[aj (J ⟨w1.heap.size,0,I⟩),U R c.cycle,aj (J ⟨bc,0,I⟩),U R c.bC,aj I,af I 0 0,aj I] 113);rw[<- hW3]at RB⊢;have sX:Below w.heap.size w W3:=by rw[hW3];exact zt.alloc zt.size _
 have RF:mO (ae' w2.heap.size bc w1.heap.size) w0 W3 c w2.heap.size bc w1.heap.size (aj I) (aj I) (af I 0 0) [] s (cS.new c.closed.toNat c.opn.toNat) []:=by
  obtain⟨-,-,-,-,hc,fE,k9,-⟩:=HG.o;have dC:=hc.lt;have hz3:W3.heap.size=w2.heap.size+1:=by rw[hW3];simp
  have hw0:=k9.size
  refine⟨⟨λi k hk=>?_,λi k hk=>?_,λi j k hk lJ=>?_⟩,by rw[hW3];exact cR w2 _,a_ ⟨rfl,rfl⟩,fC _ _ _ _,λk hk=>(by cases hk),hc.below sX,aP (a_ ⟨rfl,rfl⟩),by rw[hW3];exact wE.below (aN _ _),aP (aP ⟨rfl,rfl⟩),λi b e s hb=>(by simp at hb),rfl,k9.trans (sX.mono hw0)⟩
  ·rcases hk with⟨-,rfl⟩|⟨-,rfl⟩|⟨-,rfl⟩<;>omega
  ·rcases hk with⟨-,rfl⟩|⟨-,rfl⟩|⟨-,rfl⟩<;>omega
  rcases hk with⟨e1,e2⟩|⟨e1,e2⟩|⟨e1,e2⟩<;>rcases lJ with⟨e3,e4⟩|⟨e3,e4⟩|⟨e3,e4⟩<;>omega
 have De:aa (∃H,mO H w0 W3 c _ bc _ _ _ _ [] s _ []/\(∀i k,H i k->k=bc\/w.heap.size<=k)/\Below _ w W3):=⟨_,RF,λi k hk=>by
  rcases hk with⟨-,rfl⟩|⟨-,rfl⟩|⟨-,rfl⟩
  ·exact aP (by omega)
  ·exact a_ rfl
  exact aP (by omega),sX⟩
 have Ku:aa (jR w _ _):=HG.o.2.2.2.1;have RG:aa (w.heap.size<=w2.heap.size):=by show _<=_;omega
 clear RF sX zt hW3 z0 z1 z2 z3 z4 r2 wE hb2 nD aO hz1 hz2 Fy;generalize w1.heap.size=bd at De;generalize w2.heap.size=kb at De RG;obtain⟨dg,BO⟩:∃x,x=cS.new c.closed.toNat c.opn.toNat:=⟨_,rfl⟩;have afb:aa _:=BO;rw[<- BO]at De;clear BO
 go_cut [39,40,41] (λl n i wx=>l=af sa c.aw.length sc/\n=U R (c.aw.length:Int)/\i=U R 0/\wx=W3)
 case first=>
  go_wp2_with fail
  go_meet
  case rel=>exact⟨rfl,rfl,rfl,rfl⟩
 obtain⟨rfl,rfl,rfl,rfl⟩:=hcut;rename ai=>W3
 clear RB;go_wp2_with fail
 obtain⟨j0,qB,E9,E_,zX⟩:=fj ae4
 go_loopw [11,41] (λ_ i wr=>∃(bs:List Nat) (lx:ar) (H:Nat->Nat->Prop),bs.length<=c.aw.length/\i=U R bs.length/\mO H w0 wr c kb bc bd (aj I) (aj I) lx bs s dg (List.replicate bs.length bB.new)/\(∀i k,H i k->k=bc\/w.heap.size<=k)/\Below w.heap.size w wr) (λ_ i _=>c.aw.length-(intOf i).toNat)
 case atStart=>obtain⟨H,a1,a2,a3⟩:=De.o;exact⟨[],_,H,bI _,rfl,a1,a2,a3⟩
 case round=>
  clear De;obtain⟨bs,lx,H,hbl,rfl,hd,hH,hB⟩:=hrel
  by_cases hlt:bs.length<c.aw.length
  ·obtain⟨e,he⟩:∃e,c.aw[bs.length]?=J e:=⟨_,bH hlt⟩;obtain⟨E,eb,eo,rfl,hP,hce⟩:=jR.ae9 (Ku.o.below hB) he;obtain⟨la,lc,hlx⟩:=mD hd.own;subst hlx;have k1:(bs.length:Int)<(c.aw.length:Int):=by omega
   have k8:bs.length<8:=by have:=HG.o.2.1.nn;omega
   have x0:wr.cell? ⟨eb,eo+bs.length*10,_⟩=J (aq _):=hce 0 _ rfl;have x1:wr.cell? _=J (U R _):=hce 1 _ rfl;have x2:wr.cell? _=J (af _ _ _):=hce 2 _ rfl;have x3:wr.cell? _=J (U R _):=hce 3 _ rfl;have x4:wr.cell? _=J (U R _):=hce 4 _ rfl;have x5:wr.cell? _=J (U R _):=hce 5 _ rfl;have x6:wr.cell? _=J (af _ _ _):=hce 6 _ rfl;have x7:wr.cell? _=J (af _ _ _):=hce 7 _ rfl;have x8:wr.cell? _=J (af _ _ _):=hce 8 _ rfl;have x9:wr.cell? _=J (af _ _ _):=hce 9 _ rfl;have uO:aa _:=hd;have Df:aa _:=hH;have bK:aa _:=hB;have HP:aa _:=hP;have RH:aa _:=he;clear hd hH hB hP he hce;go_upto_region 11 with fail
   obtain⟨V0,kg⟩:∃X,X=wr.alloc (au #[aq e.name,U R e.aJ,af E.pa e.ak.length E.pc,U R e.cnt,U R e.mn,U R e.mx,af E.ga e.aB.length E.gc,af E.ea e.aA.length E.ec,af E.fa e.first.length E.fc,af E.la e.last.length E.lc] 84):=⟨_,rfl⟩;rw[<- kg];have hb0:Below wr.heap.size wr V0.drew:=by rw[kg];exact(aN _ _).drew
   have kh:V0.drew.heap[wr.heap.size]?=J (au #[aq e.name,U R e.aJ,af E.pa e.ak.length E.pc,U R e.cnt,U R e.mn,U R e.mx,af E.ga e.aB.length E.gc,af E.ea e.aA.length E.ec,af E.fa e.first.length E.fc,af E.la e.last.length E.lc] 84 (0,0)):=by rw[kg];exact cR wr _
   have qQ:=uO.o.below hb0;have afc:aa _:=qQ;have cY:aa _:=kh;have dX:aa _:=bK.o.trans (hb0.mono bK.o.size);have zV:aa _:=aaW _ e E (mB.below HP.o hb0) (HG.o.2.1.each e (cM RH.o)).1;have Kv:∀V,Below V0.drew.heap.size V0.drew V->V.heap[kb]?=J (au (wm c bd bc (aj I) (af la bs.length lc) (aj I)) 113 (0,0)):=λV hV=>bG hV qQ.row
   have afd:aa (∀b V1,(λb V=>dY (λk=>V0.drew.heap.size<=k/\k<V.heap.size) V b e bB.new/\Below V0.drew.heap.size V0.drew V) b V1->∃g cap V3,(Builtin.append_ #[110,110] 110 #[af la bs.length lc,af (J ⟨V1.heap.size,0,I⟩) 1 1]).run prog (V1.alloc (au #[aj (J ⟨b,0,I⟩)] 114))=.ok (af (J ⟨g,0,I⟩) (bs.length+1) cap) V3/\(λb V1 g cap V3=>V3.ownsRow w0.heap.size 114 1 (af (J ⟨g,0,I⟩) (bs.length+1) cap) (bs.length+1) (bs.flatMap ue++[aj (J ⟨b,0,I⟩)])/\(V1.alloc (au #[aj (J ⟨b,0,I⟩)] 114)).grownBy V3 (Value.slice la bs.length lc).ownBlock/\((Value.slice la bs.length lc).ownBlock=J g\/V1.heap.size<=g)) b V1 g cap V3):=λb V1 hp=>by
    have hz:=bw qQ.br.size hp.2.size;obtain⟨g,cap,V3,hr,h2,h3,h4,-⟩:=run_append_lies (P:=prog) _ 110 110 _ 114 j0 _ 1 8 underlying110 qB E9 E_ zX rfl (by decide) _ _ _ (BR.below (BR.below qQ.own hp.2) (aN _ _)) _ 1 1 _ rfl (sB V1 [aj (J ⟨b,0,I⟩)] 114) (λu hu=>by rw[iF]at hu;subst hu;rfl) (by decide) (by unfold maxLen;omega) (by omega) (by simp;omega) _ rfl;exact⟨g,cap,V3,hr,h2,h3,h4.imp id (λe=>by rw[e];simp)⟩
   have RI:=Em qQ.own qQ.row (by decide);have afe:aa (∀b V1 g cap V,(λb V=>dY (λk=>V0.drew.heap.size<=k/\k<V.heap.size) V b e bB.new/\Below V0.drew.heap.size V0.drew V) b V1->(λb V1 g cap V3=>V3.ownsRow w0.heap.size 114 1 (af (J ⟨g,0,I⟩) (bs.length+1) cap) (bs.length+1) (bs.flatMap ue++[aj (J ⟨b,0,I⟩)])/\(V1.alloc (au #[aj (J ⟨b,0,I⟩)] 114)).grownBy V3 (Value.slice la bs.length lc).ownBlock/\((Value.slice la bs.length lc).ownBlock=J g\/V1.heap.size<=g)) b V1 g cap V->V.cell? ⟨kb,5,I⟩=J (af la bs.length lc)/\V.frozen? ⟨kb,5,I⟩=false):=λb V1 g cap V hp hq=>by
    have h1:=Kv V1 hp.2;have h2:=bG (aN V1 (au #[aj (J ⟨b,0,I⟩)] 114)) h1;have h3:=(hq.2.1.block kb (bJ h2) (λe=>RI e.symm)).trans h2;exact⟨by simp[World.cell?,h3,wm],by simp[World.frozen?,h3]⟩
   have aff:aa (∀V,(V=V0.drew\/(∃b,(λb V=>dY (λk=>V0.drew.heap.size<=k/\k<V.heap.size) V b e bB.new/\Below V0.drew.heap.size V0.drew V) b V)\/∃b V1,(λb V=>dY (λk=>V0.drew.heap.size<=k/\k<V.heap.size) V b e bB.new/\Below V0.drew.heap.size V0.drew V) b V1/\V=V1.alloc (au #[aj (J ⟨b,0,I⟩)] 114))->V.cell? ⟨kb,5,I⟩=J (af la bs.length lc)):=λV hV=>by
    have hb:Below V0.drew.heap.size V0.drew V:=by
     rcases hV with rfl|⟨b,hp⟩|⟨b,V1,hp,rfl⟩
     ·exact aC _ _
     ·exact hp.2
     exact hp.2.alloc hp.2.size _
    have:=Kv V hb;simp[World.cell?,this,wm]
   clear kg hb0 kh qQ Kv RI x0 x1 x2 x3 x4 x5 x6 x7 x8 x9
   refine PU 12 rfl (g_ V0.drew kb bs.length (ae5 kb (af la bs.length lc) (aU #[aq e.name,U R e.aJ,af E.pa e.ak.length E.pc,U R e.cnt,U R e.mn,U R e.mx,af E.ga e.aB.length E.gc,af E.ea e.aA.length E.ec,af E.fa e.first.length E.fc,af E.la e.last.length E.lc])) (λb V=>dY (λk=>V0.drew.heap.size<=k/\k<V.heap.size) V b e bB.new/\Below V0.drew.heap.size V0.drew V) (λb V1 g cap V3=>V3.ownsRow w0.heap.size 114 1 (af (J ⟨g,0,I⟩) (bs.length+1) cap) (bs.length+1) (bs.flatMap ue++[aj (J ⟨b,0,I⟩)])/\(V1.alloc (au #[aj (J ⟨b,0,I⟩)] 114)).grownBy V3 (Value.slice la bs.length lc).ownBlock/\((Value.slice la bs.length lc).ownBlock=J g\/V1.heap.size<=g))) (by kernel_rfl) (by kernel_rfl) g_.start ?_ ?_
   ·intro i o ho
    match i,ho with
    |0,ho=>
     obtain rfl:=bj ho
     refine gM.free rfl ?_;intro vals a V hC hn ay aD;have x9:a.tmps[9]?.getD _=aj _:=bp (aD 9 (eX (by kernel_rfl)));exact fB.val (w:=V) (c:=aj _) (by clear ay aD hC;go_simp) (hC.const (by decide) rfl)
    |1,ho=>
     obtain rfl:=bj ho
     refine gM.free rfl ?_;intro vals a V hC hn ay aD;have x9:a.tmps[9]?.getD _=aj _:=bp (aD 9 (eX (by kernel_rfl)));exact fB.val (w:=V) (c:=aj _) (by clear ay aD hC;go_simp) (hC.const (by decide) rfl)
    |2,ho=>
     obtain rfl:=bj ho
     refine gM.free rfl ?_;intro vals a V hC hn ay aD;obtain⟨v1,cC,Cx⟩:=ay _ (bA (i:=0) rfl) rfl;have ajn:a.tmps[46]?.getD _=aj _:=(bp (Cx 46 rfl)).trans (hC.cs 1 (by decide) v1 cC);clear Cx;exact fB.val (w:=V) (c:=aj _) (by clear ay aD hC;go_simp) (hC.const (by decide) rfl)
    |3,ho=>
     obtain rfl:=bj ho
     refine gM.free rfl ?_;intro vals a V hC hn ay aD;obtain⟨v2,hv2,Cz⟩:=ay _ (bA (i:=0) rfl) rfl;have ajo:a.tmps[47]?.getD _=aj _:=(bp (Cz 47 rfl)).trans (hC.cs 2 (by decide) v2 hv2);clear Cz;exact fB.val (w:=V) (c:=aj _) (by clear ay aD hC;go_simp) (hC.const (by decide) rfl)
    |4,ho=>
     obtain rfl:=bj ho
     refine gM.free rfl ?_;intro vals a V hC hn ay aD;have cc:=aff.o V (hC.ae6 hn);obtain⟨v3,hv3,CB⟩:=ay _ (bA (i:=0) rfl) rfl;have ajp:a.tmps[48]?.getD _=aj _:=(bp (CB 48 rfl)).trans (hC.cs 3 (by decide) v3 hv3);clear CB;exact fB.val (w:=V) (c:=af la _ lc) (by clear ay aD hC;go_simp) (hC.const (by decide) rfl)
    |5,ho=>
     obtain rfl:=bj ho
     refine gM.free rfl ?_;intro vals a V hC hn ay aD;obtain rfl:=hC.ae7 hn;have z0:V0.drew.cell? ⟨wr.heap.size,0,I⟩=J (aq e.name):=by have:=cY.o;simp[World.cell?,this]
     have z1:V0.drew.cell? ⟨wr.heap.size,1,I⟩=J (U R e.aJ):=by have:=cY.o;simp[World.cell?,this]
     have z2:V0.drew.cell? ⟨wr.heap.size,2,I⟩=J (af E.pa e.ak.length E.pc):=by have:=cY.o;simp[World.cell?,this]
     have z3:V0.drew.cell? ⟨wr.heap.size,3,I⟩=J (U R e.cnt):=by have:=cY.o;simp[World.cell?,this]
     have z4:V0.drew.cell? ⟨wr.heap.size,4,I⟩=J (U R e.mn):=by have:=cY.o;simp[World.cell?,this]
     have z5:V0.drew.cell? ⟨wr.heap.size,5,I⟩=J (U R e.mx):=by have:=cY.o;simp[World.cell?,this]
     have z6:V0.drew.cell? ⟨wr.heap.size,6,I⟩=J (af E.ga e.aB.length E.gc):=by have:=cY.o;simp[World.cell?,this]
     have z7:V0.drew.cell? ⟨wr.heap.size,7,I⟩=J (af E.ea e.aA.length E.ec):=by have:=cY.o;simp[World.cell?,this]
     have z8:V0.drew.cell? ⟨wr.heap.size,8,I⟩=J (af E.fa e.first.length E.fc):=by have:=cY.o;simp[World.cell?,this]
     have z9:V0.drew.cell? ⟨wr.heap.size,9,I⟩=J (af E.la e.last.length E.lc):=by have:=cY.o;simp[World.cell?,this]
     have IG:a.tmps[11]?.getD _=aj _:=bp (aD 11 (eX (by kernel_rfl)));exact fB.val (w:=V0.drew) (c:=.agg _) (by clear ay aD hC;go_simp) (hC.const (by decide) rfl)
    |6,ho=>
     obtain rfl:=bj ho
     refine gM.free rfl ?_;intro vals a V hC hn ay aD;obtain⟨v5,E7,CD⟩:=ay _ (bA (i:=0) rfl) rfl;have ajq:a.tmps[50]?.getD _=.agg _:=(bp (CD 50 rfl)).trans (hC.cs 5 (by decide) v5 E7);clear CD;obtain⟨rfl,-⟩:=hC.Kr hn
     refine fB.call (w:=V0.drew) (f:=65) (args:=#[aU #[aq e.name,U R e.aJ,af E.pa e.ak.length E.pc,U R e.cnt,U R e.mn,U R e.mx,af E.ga e.aB.length E.gc,af E.ea e.aA.length E.ec,af E.fa e.first.length E.fc,af E.la e.last.length E.lc]]) (by clear ay aD hC;go_simp) ?_
     refine aL zV.o ?_;rintro u w4 ⟨b,rfl,hl4,hb4⟩;exact⟨_,rfl,hC.call hn (by have e2:vals 5=J v5:=E7;rw[e2];simp) ⟨hl4,hb4⟩⟩
    |7,ho=>
     obtain rfl:=bj ho
     refine gM.free rfl ?_;intro vals a V hC hn ay aD;obtain⟨v6,Jm,CA⟩:=ay _ (bA (i:=0) rfl) rfl;obtain⟨b,rfl,hp,hA⟩:=hC.built hn Jm;have ajr:a.tmps[51]?.getD _=aj _:=bp (CA 51 rfl);exact fB.val (w:=V.alloc _) (c:=af _ 1 1) (by clear ay aD hC hA CA hp;go_simp) hA
    |8,ho=>
     obtain rfl:=bj ho
     refine gM.free rfl ?_;intro vals a V hC hn ay aD;obtain⟨v4,hv4,CC⟩:=ay _ (bA (i:=0) rfl) rfl;have ajs:a.tmps[49]?.getD _=af la _ lc:=(bp (CC 49 rfl)).trans (hC.cs 4 (by decide) v4 hv4);obtain⟨v7,Jn,E8⟩:=ay _ (bA (i:=1) rfl) rfl;obtain⟨b,V1,rfl,hp,rfl,hA⟩:=hC.app hn Jn (by have e2:vals 4=J v4:=hv4;rw[e2];simp);have afg:a.eval _=af la _ lc:=(CC 49 rfl).trans (hC.cs 4 (by decide) v4 hv4);have afh:=E8 52 rfl;obtain⟨g,cap,V3,hrun,hq⟩:=afd.o b V1 hp;exact fB.val (w:=V3) (c:=af _ _ cap) (ae3 (s:=.tmp 49) (x:=.tmp 52) (t:=110) (ty:=_) rfl rfl afg afh hrun) (hA g cap V3 hq)
    |9,ho=>
     obtain rfl:=bj ho
     refine gM.free rfl ?_;intro vals a V hC hn ay aD;obtain⟨v0,hv0,Cw⟩:=ay _ (bA (i:=0) rfl) rfl;have ajt:a.tmps[45]?.getD _=aj _:=(bp (Cw 45 rfl)).trans (hC.cs 0 (by decide) v0 hv0);clear Cw;exact fB.val (w:=V) (c:=aj _) (by clear ay aD hC;go_simp) (hC.const (by decide) rfl)
    |10,ho=>
     obtain rfl:=bj ho
     refine gM.free rfl ?_;intro vals a V hC hn ay aD;obtain⟨v9,CH,wD⟩:=ay _ (bA (i:=0) rfl) rfl;have aju:a.tmps[54]?.getD _=aj _:=(bp (wD 54 rfl)).trans (hC.cs 9 (by decide) v9 CH);clear wD;exact fB.val (w:=V) (c:=aj _) (by clear ay aD hC;go_simp) (hC.const (by decide) rfl)
    |11,ho=>
     obtain rfl:=bj ho
     refine gM.free rfl ?_;intro vals a V hC hn ay aD;obtain⟨v10,Jo,CI⟩:=ay _ (bA (i:=0) rfl) rfl;have ajv:a.tmps[55]?.getD _=aj _:=(bp (CI 55 rfl)).trans (hC.cs 10 (by decide) v10 Jo);clear CI;obtain⟨v8,CF,CG⟩:=ay _ (bA (i:=1) rfl) rfl;obtain⟨b,V1,g,cap,rfl,hp,hq,RJ⟩:=hC.put hn CF;have ajw:a.tmps[53]?.getD _=af _ _ cap:=bp (CG 53 rfl);obtain⟨ajx,ajy⟩:=afe.o b V1 g cap V hp hq;exact fB.skip (w:=V.setCell _ _) (by clear ay aD hC RJ hq hp CG;go_simp) RJ
    |n+12,ho=>simp at ho
   intro vals V hC hall;obtain⟨y0,RL⟩:=iQ.1 (hall 0 (by decide));obtain⟨y1,RM⟩:=iQ.1 (hall 1 (by decide));obtain⟨y2,RN⟩:=iQ.1 (hall 2 (by decide));obtain⟨y3,RO⟩:=iQ.1 (hall 3 (by decide));obtain⟨y4,RP⟩:=iQ.1 (hall 4 (by decide));obtain⟨y5,RQ⟩:=iQ.1 (hall 5 (by decide));obtain⟨y6,RR⟩:=iQ.1 (hall 6 (by decide));obtain⟨y7,RT⟩:=iQ.1 (hall 7 (by decide));obtain⟨y8,RU⟩:=iQ.1 (hall 8 (by decide));obtain⟨y9,RV⟩:=iQ.1 (hall 9 (by decide));obtain⟨acg,RX⟩:=iQ.1 (hall 10 (by decide));obtain⟨ach,Kw⟩:=iQ.1 (hall 11 (by decide));obtain⟨b,V1,g,cap,V3,hp,hq,hV⟩:=hC.fin (by rw[Kw];simp);obtain⟨hm,dB⟩:=afc.o.more RH.o hp.2 hp.1 hq.1 hq.2.1 hq.2.2 hV;have HM:aa (∃H,mO H w0 V c kb bc bd (aj I) (aj I) (af (J ⟨g,0,I⟩) (bs++[b]).length cap) (bs++[b]) s dg (List.replicate (bs++[b]).length bB.new)/\(∀i k,H i k->k=bc\/w.heap.size<=k)/\Below w.heap.size w V):=by
    have hz0:=dX.o.size;have hz1:=hp.2.size;have e1:(bs++[b]).length=bs.length+1:=by rw[dm,qb]
    refine⟨dV (dV H (5+bs.length) V0.drew V1) 1 V1 V3,?_,λi k hk=>?_,?_⟩
    ·rw[e1,List.replicate_succ'];exact hm
    ·rcases hk with(hk|⟨_,x,_⟩)|⟨_,x,_⟩
     ·exact Df.o i k hk
     ·exact aP (by omega)
     exact aP (by omega)
    refine bh.below dX.o dB hz0 (λk hk=>?_)
    rcases hk with hk|hk
    ·rw[hk];exact RG.o
    rcases Df.o 1 k (uO.o.hl k hk)with e|e
    ·exfalso
     rw[e]at hk;have h2:=uO.o.hc;have:=uO.o.eJ.vU 1 2 bc (uO.o.hl bc hk) h2;omega
    exact e
   clear hC hall hp hq hV hm dB;simp only[fill,dz,RL,RM,RN,RO,RP,RQ,RR,RT,RU,RV,RX,Kw];clear RL RM RN RO RP RQ RR RT RU RV RX Kw;go_simp
   go_wp2_with fail
   obtain⟨H2,m1,m2,m3⟩:=HM.o;have afi:aa _:=m1;have uD:aa _:=m2;have CQ:aa _:=m3;clear m1 m2 m3 HM;go_roundw
   case rel=>exact⟨_,_,H2,by rw[dm,qb];omega,by rw[dm,qb];go_num,afi.o,uD.o,CQ.o⟩
   case measure=>simp[intOf];omega
  have k1:¬(bs.length:Int)<(c.aw.length:Int):=by omega
  have hle:bs.length=c.aw.length:=by omega
  obtain⟨hs,hr,h0,hE,hc,fE,k9,jr⟩:=HG.o
  by_cases pN:153<=s.size
  ·have Ky:∀_:Unit,153<=s.size:=λ_=>pN
   have wR:aa _:=Qi (A:=A) hd hs hr (by rw[List.length_replicate];exact hle) pN jr;have uO:aa _:=hd;have Df:aa _:=hH;have bK:aa _:=hB;have afj:aa _:=hc;have Fy:aa (aH.opened c ⟨s,dg,[],false,[],cD.new 0⟩=aH.new c s):=by show _=_;rw[afb.o];rfl
   clear hd hH hB hs hr h0 hE hc fE k9 pN jr;go_wp2_with fail
   refine aL wR.o ?_;rintro u w5 ⟨rfl,CN⟩;have gu:aa _:=CN;clear CN wR;go_wp2;go_ret2
   obtain⟨H5,rb,bt,k5,g5,o5⟩:=gu.o;rw[Fy.o]at k5;unfold Fx;rw[aR (Ky ())]
   refine⟨kb,λk=>∃i,H5 i k,rfl,⟨H5,_,_,_,_,_,k5,λi k hk=>⟨i,hk⟩⟩,?_,λk ⟨i,hk⟩=>⟨?_,k5.eJ.lt i k hk⟩⟩
   ·have hB:=bK.o
    refine⟨o5.os.trans hB.os,o5.tape.trans hB.tape,o5.output.trans hB.output,bw hB.size o5.size,λk hk=>?_⟩
    by_cases e:k=bc
    ·rw[e];exact k5.ring.cells.heap.trans afj.o.heap.symm
    refine(o5.block k (eh hk hB.size) (λ⟨i,hi⟩=>?_)).trans (hB.block k hk)
    rcases Df.o i k hi with e2|e2
    ·exact e e2
    omega
   rcases g5 i k hk with⟨j,hj⟩|⟨x,_⟩
   ·exact Df.o j k hj
   exact aP (bw bK.o.size x)
  have Ky:∀_:Unit,¬153<=s.size:=λ_=>pN
  have wR:aa (Calls _ 66 _ wr λe w'=>e=ax (.iface 352 (aj (J (A 1))))/\Below _ wr w'):=ae2 (A:=A) hd hs pN;have bK:aa _:=hB;clear hd hH hB hs hr h0 hE hc fE k9 pN jr;go_wp2_with fail
  refine aL wR.o ?_;rintro u w5 ⟨rfl,jG⟩;have kU:aa _:=bK.o.trans (jG.mono bK.o.size);clear jG wR;go_wp2;go_ret2
  unfold Fx;rw[aK (Ky ())];exact⟨rfl,kU.o⟩
theorem afk(sa:Option az)(sc:Nat)(hs:fA A w0)(hr:gi c)(h0:(cG c).1=0)(hE:jR w (af sa c.aw.length sc) c.aw)(hS:nh c)(hc:bY w bc s)(fE:w0.heap.size<=bc)(k9:Below w0.heap.size w0 w)(pN:153<=s.size)(jr:s.off=false):Calls prog 21 #[aU #[U R c.closed,U R c.opn,U R c.cycle,U R c.bC,af sa c.aw.length sc],aj (J ⟨bc,0,I⟩)] w λu w'=>Kt w0 w c bc s u w':=
 (afa sa sc hs hr h0 hE hS hc fE k9 jr).mono λu w' h=>by unfold Fx at h;rw[aR pN]at h;exact h
end
open Go
theorem RY{c:aS}(h:(cG c).1=0):gi c:=by
 have ok:=yS h;have sz:=Gn h
 refine⟨ok.closed,ok.opn,ok.cycle,ok.bC,?_,ok.many,λe he=>?_⟩
 ·unfold cG at h
  split at h
  ·rename_i h0;unfold gQ at h0;obtain⟨-,h0⟩:=jD (by simp) h0;obtain⟨-,h0⟩:=jD (by simp) h0;obtain⟨-,h0⟩:=jD (by simp) h0;obtain⟨-,h0⟩:=jD (by simp) h0;obtain⟨q5,-⟩:=jD (by simp) h0;simp at q5
   exact q5
  rename_i h0;exact absurd h h0
 have oe:=ok.aw e he;have se:=sz e he;have nm:∀s:ByteArray,isName s=true->s.size<=12:=λs hs=>by
  unfold isName at hs;simp only[rS,xa]at hs;exact hs.1.1.2
 have n1:=nm _ oe.name;have n2:=se.ak;have n3:=se.aB;have n4:=se.aA;have n5:=se.first;have n6:=se.last
 refine⟨⟨by omega,by omega,λp hp=>bw (nm p (oe.pn p hp)) (by decide),by omega,by omega,by omega,by omega⟩,?_,oe.aJ.1,λp hp=>?_⟩
 ·rcases oe.cnt with hc|hc
  ·omega
  exact hc.2
 obtain⟨h1,h2⟩:=oe.aA p hp;exact⟨BZ (by omega) (by omega),BZ (by omega) (by omega)⟩
theorem RZ(l:List Int)(sa:Option az)(cap:Nat)(w:ai)(h:bN bm 1 w (af sa l.length cap) l)(hn:l.length<=1000000):Calls prog 92 #[af sa l.length cap] w λe w'=>e=ax (aI (twice l))/\Below w.heap.size w w':=by
 have HL:aa (∀V,Below _ w V->bN _ 1 V _ l):=λV hV=>h.below hV
 have HC:aa (l.length<=cap):=by obtain⟨dI,cap',ck,hle,-⟩:=h;cases ck;exact hle
 clear h;go_enter func92,ntmps92
 go_wp2_with fail
 go_loopw [3] (λi wr=>∃k:Nat,k<=l.length/\i=U R k/\Below w.heap.size w wr/\∀j x,j<k->l[j]?=J x->((l.take j).any λy=>decide (x=y))=false) (λi _=>l.length-(intOf i).toNat)
 case atStart=>exact⟨0,bI _,rfl,aC _ _,λj x hj=>absurd hj (by omega)⟩
 case round=>
  obtain⟨k,hk,rfl,hb,hno⟩:=hrel;have HB:aa _:=hb;have HN:aa _:=hno;clear hno hb
  by_cases hlt:k<l.length
  ·have k1:(k:Int)<(l.length:Int):=by omega
   have k3:(k:Int)<=(cap:Int):=by have:=HC.o;omega
   have k4:(0:Int)<=(k:Int):=by omega
   have k5:¬(k:Int)<0:=by omega
   obtain⟨x,hx⟩:∃x,l[k]?=J x:=⟨_,bH hlt⟩;have HX:aa _:=hx;obtain⟨g,o,rfl,hc⟩:=BW (HL.o wr HB.o) hx;have c0:=hc k x hx;have HS:aa (∀q,Calls prog 123 #[af (J ⟨g,o,I⟩) k cap,U R x] (wr.drewN q) λe w'=>e=ax (aI ((l.take k).any λy=>decide (x=y)))/\w'=wr.drewN q):=λq=>by
    have hl:(l.take k).length=k:=by simp;omega
    have:=YX (l.take k) x _ cap (wr.drewN q) ⟨_,cap,rfl,by have:=HC.o;omega,λ_=>⟨g,o,rfl,λi y hy j u hu=>by
     match j,hu with
     |0,hu=>
      simp[bm]at hu
      subst hu;have zX:l[i]?=J y:=by
       rw[oG]at hy
       split at hy
       ·exact hy
       cases hy
      have:=hc i y zX;simpa using this
     |j+1,hu=>simp[bm]at hu⟩⟩ (by omega)
    rw[hl]at this;exact this
   clear hc hx
   cases hb:(l.take k).any λy=>decide (x=y)
   ·rw[hb]at HS;go_wp2_with fail
    go_region_held3 (λw'=>w'.cell? ⟨g,o+k,I⟩=J (U R x)) (first|exact c0) (first|(go_at_call 123;refine aL (HS.o _) ?_;rintro e w2 ⟨rfl,rfl⟩))
    all_goals
     go_wp2_with fail
     go_roundw
     case rel=>
      refine⟨k+1,by omega,by go_num,cg HB.o _,λj y hj hy=>?_⟩
      rcases fR j k with h1|h1
      ·exact HN.o j y h1 hy
      obtain rfl:j=k:=by omega
      rw[HX.o]at hy
      cases hy
      exact hb
     case measure=>simp[intOf];omega
   rw[hb]at HS;have HE:aa (twice l=true):=by
    show _=_
    unfold twice;rw[nR];exact⟨k,by simpa using hlt,by rw[HX.o];exact hb⟩
   go_wp2_with fail
   go_region_held3 (λw'=>w'.cell? ⟨g,o+k,I⟩=J (U R x)) (first|exact c0) (first|(go_at_call 123;refine aL (HS.o _) ?_;rintro e w2 ⟨rfl,rfl⟩))
   all_goals
    go_wp2;go_ret;exact⟨by rw[HE.o];rfl,cg HB.o _⟩
  have k1:¬(k:Int)<(l.length:Int):=by omega
  have HE:aa (twice l=false):=by
   show _=_
   unfold twice;rw[lW];intro i hi;simp only[mr]at hi;rw[bH hi];show ¬((l.take i).any λy=>decide _)=true
   rw[HN.o i _ (by omega) (bH hi)];simp
  go_wp2;go_ret;exact⟨by rw[HE.o];rfl,HB.o⟩
end Go.Proofs.YtgmfhkjghmdgiaaGreatDoor
