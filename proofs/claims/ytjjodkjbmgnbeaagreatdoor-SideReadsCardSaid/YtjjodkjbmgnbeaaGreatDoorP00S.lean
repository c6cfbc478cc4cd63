/-
  Several texts as one: CfPure, CfText, ERow, CfRead, CfBack, CfSame.
-/
import Derived.Test.YtjjodkjbmgnbeaaGreatDoorProg
set_option linter.all false
abbrev eK.{u}:=@List.getElem?_eq_some_iff.{u}
abbrev aF.{u}:=@if_neg.{u}
abbrev fQ.{u}:=@List.mem_of_getElem?.{u}
abbrev aU.{u}:=@if_pos.{u}
abbrev ik.{u}:=@List.not_mem_nil.{u}
abbrev fu.{u}:=@List.mem_cons.{u}
abbrev bk:=@Or.inr
abbrev cF:=@Or.inl
abbrev ey.{u}:=@Ne.symm.{u}
abbrev pC.{u}:=@List.any_eq_true.{u}
abbrev rp.{u}:=@List.cons_append.{u}
abbrev kC.{u}:=@if_true.{u}
open Option renaming none→J,some→U
open Go.Proofs.Tryz
namespace Go.Proofs.YtjjodkjbmgnbeaaGreatDoor
variable{a b:ByteArray}
structure lx where
 fr:Int
 to:Int
 mn:Int
 mx:Int
structure aG where
 name:ByteArray
 aW:Int
 au:List ByteArray
 cnt:Int
 mn:Int
 mx:Int
 aP:List lx
 aN:List (Int×Int)
 first:List Int
 last:List Int
variable{e f:aG}
structure aV where
 closed:Int
 opn:Int
 cycle:Int
 bO:Int
 az:List aG
def lL(b:UInt8):Bool:=decide (97<=b.toNat)&&decide (b.toNat<=122)
def gO(b:UInt8):Bool:=decide (48<=b.toNat)&&decide (b.toNat<=57)
def gP(b:UInt8):Bool:=lL b||gO b||decide (b.toNat=45)
def isName(s:ByteArray):Bool:=decide (1<=s.size)&&decide (s.size<=12)&&lL (s.data.getD 0 0)&&s.data.toList.all gP
def dH:List (Bool×Nat)->Nat
 |[]=>0
 |(b,c)::t=>if b then c else dH t
def within(n a b:Int):Bool:=decide (a<=n)&&decide (n<=b)
def lacks(n:Nat)(x:Int):Bool:=decide (x<0)||decide ((n:Int)<=x)
def iH(a b c d:Int):Bool:=decide (a<=b)&&decide (b<=c)&&decide (c<=d)
def twice{α:Type} [DecidableEq α] (l:List α):Bool:=(List.range l.length).any λi=>match l[i]? with
 |some x=>(l.take i).any λy=>decide (x=y)
 |none=>false
def dC(ahead:List ByteArray)(s:ByteArray):Nat:=if isName s then (if ahead.any (λx=>decide (x=s))then 6 else 0)else 4
def jK(e:aG):Nat:=dH [(!within e.aW 0 20,2),(decide (16<e.au.length),2),(decide (8<e.aP.length),2),(decide (64<e.aN.length),2),(decide (16<e.first.length),2),(decide (16<e.last.length),2)]
def qB(e:aG):Nat:=dH [
 (decide (e.cnt≠-1)&&lacks e.au.length e.cnt,5),
 (e.aP.any λg=>lacks e.au.length g.fr||lacks e.au.length g.to,5),
 (e.aN.any λd=>lacks e.au.length d.1||lacks e.au.length d.2,5),
 (e.first.any λx=>lacks e.au.length x,5),
 (e.last.any λx=>lacks e.au.length x,5),
 (decide (e.cnt=-1)&&(decide (e.mn≠0)||decide (e.mx≠0)),3),
 (!iH 0 e.mn e.mx 999,2),
 (e.aP.any λg=>!iH 0 g.mn g.mx 1099511627776,2),
 (twice e.aN,6),(twice e.first,6),(twice e.last,6),
 (decide (0<e.aN.length)&&decide (e.first.length=0),3),
 (decide (e.aN.length=0)&&decide (0<e.first.length+e.last.length),3)]
def dI:List ByteArray->List ByteArray->Nat
 |_,[]=>0
 |a,p::t=>if dC a p=0 then dI (a++[p]) t else dC a p
def bR(ahead:List ByteArray)(e:aG):Nat:=
 if dC ahead e.name≠0 then dC ahead e.name else if jK e≠0 then jK e else if dI [] e.au≠0 then dI [] e.au else qB e
def il(c:aV):Nat:=dH [(!(within c.closed 0 1000&&within c.opn 1 1000),2),(!within c.cycle 1 100,2),(!within c.bO 0 20,2),(decide (8<c.az.length),2),(decide (c.opn<c.cycle),3)]
def jZ:List ByteArray->Nat->List aG->Nat×Int
 |_,_,[]=>(0,-1)
 |a,i,e::t=>if bR a e=0 then jZ (a++[e.name]) (i+1) t else (bR a e,(i:Int))
def dJ(c:aV):Nat×Int:=if il c=0 then jZ [] 0 c.az else (il c,-1)
abbrev Bs:=List UInt8
variable{look:Bs->Option Nat}{w:Bs}{ws:List Bs}
def bl(b:ByteArray):Bs:=b.data.toList
def kw:Nat->Bs
 |0=>[119,105,110,100,111,119]
 |1=>[99,121,99,108,101]
 |2=>[100,101,108,97,121]
 |3=>[101,110,116,105,116,121]
 |4=>[112,111,105,110,116]
 |5=>[99,111,117,110,116]
 |6=>[103,97,112]
 |7=>[101,100,103,101]
 |8=>[102,105,114,115,116]
 |_=>[108,97,115,116]
def Lx(u:Nat):Bs:=if h:u<10 then [UInt8.ofNat (48+u)]else Lx (u / 10)++[UInt8.ofNat (48+u%10)]
def num(n:Int):Bs:=Lx n.toNat
def pt(au:List ByteArray)(x:Int):Bs:=bl (au.getD x.toNat ByteArray.empty)
def bS(c:UInt8):Bs->List Bs
 |[]=>[[]]
 |b::t=>if b=c then []::bS c t else match bS c t with
  |[]=>[[b]]
  |h::r=>(b::h)::r
def Tn(c:UInt8)(l:Bs):bS c l≠[]:=by
 cases l with
 |nil=>simp[bS]
 |cons b t=>
  unfold bS
  split
  ·simp
  split<;>simp
def Lz(c:UInt8)(t:Bs)(h:Bs)(r:List Bs)(e:bS c t=h::r):∀w:Bs,c∉w->bS c (w++t)=(w++h)::r:=by
 intro w
 induction w with
 |nil=>intro _;exact e
 |cons b w ih=>
  intro hw;simp only[fu,not_or]at hw;have:=ih hw.2;rw[rp,bS,aF (ey hw.1),this];rfl
def Tp(c:UInt8)(w:Bs)(hw:c∉w):bS c w=[w]:=by
 have:=Lz c [] [] [] rfl w hw;simpa using this
def j4(w:Bs):Nat:=w.foldl (λn b=>n*10+(b.toNat-48)) 0
def numOf(w:Bs):Option Nat:=if w.length=0\/13<w.length\/(1<w.length/\w.head?=U 48)\/w.all gO=false then J else U (j4 w)
def Tq(w:Bs)(b:UInt8):j4 (w++[b])=j4 w*10+(b.toNat-48):=by simp[j4]
def Ts{n:Nat}(h:numOf w=U n):w≠[]:=by
 intro e;subst e;simp[numOf]at h
open Go
abbrev eR (e:aG) (pa:Option Addr) (pc:Nat) (ga:Option Addr) (gc:Nat) (ea:Option Addr) (ec:Nat) (fa:Option Addr) (fc:Nat) (la:Option Addr) (lc:Nat):Array Value:=#[.string e.name,.int .i64 e.aW,.slice pa e.au.length pc,.int .i64 e.cnt,.int .i64 e.mn,.int .i64 e.mx,.slice ga e.aP.length gc,.slice ea e.aN.length ec,.slice fa e.first.length fc,.slice la e.last.length lc]
abbrev cR (c:aV) (sa:Option Addr) (sc:Nat):Array Value:=#[.int .i64 c.closed,.int .i64 c.opn,.int .i64 c.cycle,.int .i64 c.bO,.slice sa c.az.length sc]
abbrev nR (nm:ByteArray) (aW:Int) (pa:Option Addr) (pn pc:Nat) (cnt mn mx:Int) (ga:Option Addr) (gn gc:Nat) (ea:Option Addr) (en ec:Nat) (fa:Option Addr) (fn fc:Nat) (la:Option Addr) (ln lc:Nat):Array Value:=#[.string nm,.int .i64 aW,.slice pa pn pc,.int .i64 cnt,.int .i64 mn,.int .i64 mx,.slice ga gn gc,.slice ea en ec,.slice fa fn fc,.slice la ln lc]
def form:Nat->List Nat
 |0=>[1,1]
 |1=>[1]
 |2=>[1]
 |3=>[0,1]
 |4=>[0]
 |5=>[2,1,1]
 |6=>[2,2,1,1]
 |7=>[2,2]
 |_=>[2]
def kindOf(w:Bs):Option Nat:=(List.range 10).find? (λk=>decide (kw k=w))
def may(last:Int)(k:Nat):Bool:=
 if k<=2 then decide (last=(k:Int)-1)else if k=3 then decide (2<=last)else if k=5 then decide (3<=last)&&decide (last<5)else decide (3<=last)&&decide (last<=(k:Int))
def bg(look:Bs->Option Nat)(f:Nat)(w:Bs):Nat×Int:=
 if w=[]then (1,0)else match f with
 |0=>(0,0)
 |1=>match numOf w with
  |some n=>(0,(n:Int))
  |none=>(1,0)
 |_=>match look w with
  |some n=>(0,(n:Int))
  |none=>(5,0)
def aI(look:Bs->Option Nat):Bool->List Nat->List Bs->Nat×List Int
 |nn,[],[]=>(if nn then 5 else 0,[])
 |nn,f::fs,w::ws=>if (bg look f w).1=1 then (1,[])else ((aI look (nn||decide ((bg look f w).1=5)) fs ws).1,(bg look f w).2::(aI look (nn||decide ((bg look f w).1=5)) fs ws).2)
 |_,[],_::_=>(1,[])
 |_,_::_,[]=>(1,[])
def sM(name:Bs)(aW:Int):aG:=⟨⟨name.toArray⟩,aW,[],-1,0,0,[],[],[],[]⟩
def Bn(f:aG->aG):List aG->List aG
 |[]=>[]
 |[e]=>[f e]
 |x::y::t=>x::Bn f (y::t)
def rq(f:aG->aG):∀(es:List aG) (e:aG),Bn f (es++[e])=es++[f e]
 |[],e=>rfl
 |[x],e=>rfl
 |x::y::t,e=>by
  have:=rq f (y::t) e;simp only[rp]at this⊢;rw[Bn,this]
def np(k:Nat)(ws:List Bs)(vs:List Int)(e:aG):aG:=match k with
 |4=>⟨e.name,e.aW,e.au++[⟨(ws.getD 0 []).toArray⟩],e.cnt,e.mn,e.mx,e.aP,e.aN,e.first,e.last⟩
 |5=>⟨e.name,e.aW,e.au,vs.getD 0 0,vs.getD 1 0,vs.getD 2 0,e.aP,e.aN,e.first,e.last⟩
 |6=>⟨e.name,e.aW,e.au,e.cnt,e.mn,e.mx,e.aP++[⟨vs.getD 0 0,vs.getD 1 0,vs.getD 2 0,vs.getD 3 0⟩],e.aN,e.first,e.last⟩
 |7=>⟨e.name,e.aW,e.au,e.cnt,e.mn,e.mx,e.aP,e.aN++[(vs.getD 0 0,vs.getD 1 0)],e.first,e.last⟩
 |8=>⟨e.name,e.aW,e.au,e.cnt,e.mn,e.mx,e.aP,e.aN,e.first++[vs.getD 0 0],e.last⟩
 |_=>⟨e.name,e.aW,e.au,e.cnt,e.mn,e.mx,e.aP,e.aN,e.first,e.last++[vs.getD 0 0]⟩
def eV(c:aV)(k:Nat)(ws:List Bs)(vs:List Int):aV:=match k with
 |0=>⟨vs.getD 0 0,vs.getD 1 0,c.cycle,c.bO,c.az⟩
 |1=>⟨c.closed,c.opn,vs.getD 0 0,c.bO,c.az⟩
 |2=>⟨c.closed,c.opn,c.cycle,vs.getD 0 0,c.az⟩
 |3=>⟨c.closed,c.opn,c.cycle,c.bO,c.az++[sM (ws.getD 0 []) (vs.getD 1 0)]⟩
 |k=>⟨c.closed,c.opn,c.cycle,c.bO,Bn (np k ws vs) c.az⟩
def bu(l:List aG):List ByteArray:=match l.getLast? with
 |some e=>e.au
 |none=>[]
structure RS where
 last:Int
 cfg:aV
abbrev kQ:=List ByteArray->Bs->Option Nat
variable{l1 l2:kQ}
def jy(look:kQ)(st:RS)(h:Bs)(ws:List Bs):Nat×RS:=match kindOf h with
 |none=>(1,st)
 |some k=>if may st.last k=false then (1,st)else if (aI (look (bu st.cfg.az)) false (form k) ws).1=0 then (0,⟨k,eV st.cfg k ws (aI (look (bu st.cfg.az)) false (form k) ws).2⟩)else ((aI (look (bu st.cfg.az)) false (form k) ws).1,st)
def eA(look:kQ)(st:RS)(l:Bs):Nat×RS:=match bS 32 l with
 |[]=>(1,st)
 |h::ws=>jy look st h ws
def cy(look:kQ):Nat->RS->List Bs->(Nat×Int)×RS
 |i,st,[]=>if st.last<2 then ((1,(i:Int)),st)else ((0,-1),st)
 |i,st,l::ls=>if (eA look st l).1=0 then cy look (i+1) (eA look st l).2 ls else (((eA look st l).1,(i:Int)),st)
def trim(s:Bs):Bs:=if s.getLast?=U 10 then s.dropLast else s
def bT:aV:=⟨0,0,0,0,[]⟩
def gf(look:kQ)(s:Bs):(Nat×Int)×aV:=
 if 8000<s.length then ((2,-1),bT)else
 if (cy look 0 ⟨-1,bT⟩ (bS 10 (trim s))).1.1=0 then
  (if (dJ (cy look 0 ⟨-1,bT⟩ (bS 10 (trim s))).2.cfg).1=0 then ((0,-1),(cy look 0 ⟨-1,bT⟩ (bS 10 (trim s))).2.cfg)else (dJ (cy look 0 ⟨-1,bT⟩ (bS 10 (trim s))).2.cfg,bT))
 else ((cy look 0 ⟨-1,bT⟩ (bS 10 (trim s))).1,bT)
structure oF(look:kQ):Prop where
 hit:∀au w i,look au w=U i->∃p,au[i]?=U p/\bl p=w
 LA:∀au w,look au w=J->∀p∈au,bl p≠w
def Bo{k:Nat}(h:kindOf w=U k):w=kw k/\k<10:=by
 have h1:=List.find?_some h;have h2:=List.mem_of_find?_eq_some h;simp at h1 h2
 exact⟨h1.symm,h2⟩
def GJ:∀k,k<10->kindOf (kw k)=U k:=by decide
def Tt{f:Nat}{fs:List Nat}(h:(aI look false (f::fs) ws).1=0):∃w Bp,ws=w::Bp/\(bg look f w).1=0/\(aI look false fs Bp).1=0/\(aI look false (f::fs) ws).2=(bg look f w).2::(aI look false fs Bp).2:=by
 have Tv:∀(fs:List Nat) (ws:List Bs),(aI look true fs ws).1≠0:=by
  intro fs
  induction fs with
  |nil=>intro ws;cases ws<;>simp[aI]
  |cons f fs ih=>
   intro ws
   cases ws with
   |nil=>simp[aI]
   |cons w ws=>
    unfold aI
    split
    ·simp
    simpa using ih ws
 cases ws with
 |nil=>simp[aI]at h
 |cons w ws=>
  refine⟨w,ws,rfl,?_⟩;rw[show aI _ _ _ (w::ws)=if (bg _ f w).1=1 then (1,[])else ((aI _ _ fs ws).1,(bg _ f w).2::(aI _ _ fs ws).2) by rw[aI]]at h⊢
  split at h
  ·simp at h
  rename_i h1;rw[aF h1]
  by_cases h5:(bg look f w).1=5
  ·simp only[h5,decide_true,Bool.or_true]at h;exact absurd h (Tv _ _)
  simp only[h5,decide_false,Bool.or_false]at h⊢
  refine⟨?_,h,trivial⟩;unfold bg at h1 h5⊢
  by_cases hw:w=[]
  ·rw[aU hw]at h1;simp at h1
  rw[aF hw]at h1 h5⊢
  split
  ·rfl
  ·split<;>simp_all
  split<;>simp_all
def Tw(h:(aI look false [] ws).1=0):ws=[]:=by
 cases ws with
 |nil=>rfl
 |cons=>simp[aI]at h
def uA(w:Bs):bl ⟨w.toArray⟩=w:=by simp[bl]
def oG(h:bl a=bl b):a=b:=by
 obtain⟨⟨a⟩⟩:=a;obtain⟨⟨b⟩⟩:=b;simp[bl]at h
 subst h;rfl
def Tx{a:List ByteArray}{s:ByteArray}(h:dC a s=0):isName s=true/\s∉a:=by
 unfold dC at h
 split at h
 ·rename_i hn
  split at h
  ·simp at h
  rename_i ha
  refine⟨hn,λhm=>ha ?_⟩;exact pC.2 ⟨s,hm,by simp⟩
 simp at h
def LB:∀(l a:List ByteArray),dI a l=0->(∀p∈l,isName p=true/\p∉a)/\l.Nodup
 |[],_,_=>⟨λp hp=>(ik hp).elim,List.Pairwise.nil⟩
 |p::t,a,h=>by
  unfold dI at h
  split at h
  ·rename_i h0;obtain⟨h1,h2⟩:=Tx h0;obtain⟨h3,h4⟩:=LB t _ h
   refine⟨λq hq=>?_,List.nodup_cons.2 ⟨λhm=>(h3 p hm).2 (by simp),h4⟩⟩
   rcases fu.1 hq with rfl|hq
   ·exact⟨h1,h2⟩
   exact⟨(h3 q hq).1,λhm=>(h3 q hq).2 (by simp[hm])⟩
  rename_i h0;exact absurd h h0
def Ty{a:List ByteArray}(h:bR a e=0):dC a e.name=0/\jK e=0/\dI [] e.au=0/\qB e=0:=by
 unfold bR at h
 split at h
 ·rename_i h0;exact absurd h h0
 rename_i h0
 split at h
 ·rename_i h1;exact absurd h h1
 rename_i h1
 split at h
 ·rename_i h2;exact absurd h h2
 rename_i h2;exact⟨by simpa using h0,by simpa using h1,by simpa using h2,h⟩
def Tz{l:List ByteArray}(h:l.Nodup){i j:Nat}(hi:l[i]?=U a)(hj:l[j]?=U b)(e:a=b):i=j:=by
 subst e;obtain⟨li,ei⟩:=eK.1 hi;obtain⟨lj,ej⟩:=eK.1 hj;have hp:=List.pairwise_iff_getElem.1 h
 rcases Nat.lt_trichotomy i j with hlt|rfl|hlt
 ·exact absurd (ei.trans ej.symm) (hp i j li lj hlt)
 ·rfl
 exact absurd (ej.trans ei.symm) (hp j i lj li hlt)
def GK(es:List aG)(e:aG):bu (es++[e])=e.au:=by simp[bu]
def LC(G1:oF l1)(G2:oF l2)(au:List ByteArray)(w:Bs):(l1 au w).isSome=(l2 au w).isSome:=by
 cases h1:l1 au w with
 |none=>
  cases h2:l2 au w with
  |none=>rfl
  |some j=>obtain⟨p,e,hb⟩:=G2.hit _ _ _ h2;exact absurd hb (G1.LA _ _ h1 p (fQ e))
 |some i=>
  cases h2:l2 au w with
  |none=>obtain⟨p,e,hb⟩:=G1.hit _ _ _ h1;exact absurd hb (G2.LA _ _ h2 p (fQ e))
  |some j=>rfl
def TA(G1:oF l1)(G2:oF l2){au:List ByteArray}(hn:au.Nodup):l1 au=l2 au:=by
 funext w
 have hc:=LC G1 G2 au w
 cases h1:l1 au w with
 |none=>rw[h1]at hc;cases h2:l2 au w with
  |none=>rfl
  |some j=>rw[h2]at hc;cases hc
 |some i=>
  cases h2:l2 au w with
  |none=>rw[h1,h2]at hc;cases hc
  |some j=>
   obtain⟨p,e,hb⟩:=G1.hit _ _ _ h1;obtain⟨q,f,hb2⟩:=G2.hit _ _ _ h2;rw[Tz hn e f (oG (hb.trans hb2.symm))]
def TB{a b:Bs->Option Nat}(h:∀w,(a w).isSome=(b w).isSome)(f:Nat)(w:Bs):(bg a f w).1=(bg b f w).1:=by
 unfold bg
 split
 ·rfl
 split
 ·rfl
 ·rfl
 have:=h w
 cases h1:a w<;>cases h2:b w<;>simp_all
def LD{a b:Bs->Option Nat}(h:∀w,(a w).isSome=(b w).isSome):∀(fs:List Nat) (ws:List Bs) (nn:Bool),(aI a nn fs ws).1=(aI b nn fs ws).1
 |[],[],nn=>by simp[aI]
 |[],_::_,nn=>by simp[aI]
 |_::_,[],nn=>by simp[aI]
 |f::fs,w::ws,nn=>by
  rw[aI,aI,TB h f w]
  split
  ·rfl
  exact LD h fs ws _
def Bq{a b:Bs->Option Nat}:∀(fs:List Nat) (ws:List Bs) (nn:Bool),(∀f∈fs,f≠2)->(∀f∈fs,f<3)->aI a nn fs ws=aI b nn fs ws
 |[],[],nn,_,_=>by simp[aI]
 |[],_::_,nn,_,_=>by simp[aI]
 |_::_,[],nn,_,_=>by simp[aI]
 |f::fs,w::ws,nn,h2,h3=>by
  have hw:bg a f w=bg b f w:=by
   have e2:=h2 f (by simp);have e3:=h3 f (by simp)
   match f with
   |0=>rfl
   |1=>rfl
   |2=>exact absurd rfl e2
   |f+3=>omega
  rw[aI,aI,hw];rw[@Bq a b fs ws _ (λf hf=>h2 f (by simp[hf])) (λf hf=>h3 f (by simp[hf]))]
structure uB(e f:aG):Prop where
 name:e.name=f.name
 aW:e.aW=f.aW
 au:e.au=f.au
 aP:e.aP.length=f.aP.length
 aN:e.aN.length=f.aN.length
 first:e.first.length=f.first.length
 last:e.last.length=f.last.length
 same:dI [] e.au=0->e=f
def uB.refl(e:aG):uB e e:=⟨rfl,rfl,rfl,rfl,rfl,rfl,rfl,λ_=>rfl⟩
def oH:List aG->List aG->Prop
 |[],[]=>True
 |a::s,b::t=>uB a b/\oH s t
 |[],_::_=>False
 |_::_,[]=>False
def oH.snoc:∀{s t:List aG} {a b:aG},oH s t->uB a b->oH (s++[a]) (t++[b])
 |[],[],_,_,_,h=>⟨h,trivial⟩
 |_::_,_::_,_,_,h,h2=>⟨h.1,oH.snoc h.2 h2⟩
 |[],_::_,_,_,h,_=>h.elim
 |_::_,[],_,_,h,_=>h.elim
def oH.cases:∀{s t:List aG},oH s t->(s=[]/\t=[])\/∃s' a t' b,s=s'++[a]/\t=t'++[b]/\oH s' t'/\uB a b
 |[],[],_=>cF ⟨rfl,rfl⟩
 |a::s,b::t,h=>by
  rcases oH.cases h.2 with⟨rfl,rfl⟩|⟨s',a',t',b',rfl,rfl,h1,h2⟩
  ·exact bk ⟨[],a,[],b,rfl,rfl,trivial,h.1⟩
  exact bk ⟨a::s',a',b::t',b',rfl,rfl,⟨h.1,h1⟩,h2⟩
 |[],_::_,h=>h.elim
 |_::_,[],h=>h.elim
def oH.length:∀{s t:List aG},oH s t->s.length=t.length
 |[],[],_=>rfl
 |_::_,_::_,h=>by simp[oH.length h.2]
 |[],_::_,h=>h.elim
 |_::_,[],h=>h.elim
structure Br(c d:aV):Prop where
 closed:c.closed=d.closed
 opn:c.opn=d.opn
 cycle:c.cycle=d.cycle
 bO:c.bO=d.bO
 az:oH c.az d.az
def LF:∀(l a:List ByteArray) (p:ByteArray),dI a (l++[p])=0->dI a l=0
 |[],_,_,_=>rfl
 |x::l,a,p,h=>by
  rw[rp,dI]at h;rw[dI]
  split at h
  ·rename_i h0;rw[aU h0];exact LF l _ p h
  rename_i h0;exact absurd h h0
def TC(G1:oF l1)(G2:oF l2)(h:uB e f)(k:Nat)(h4:4<=k)(h10:k<10)(ws:List Bs):uB (np k ws (aI (l1 e.au) false (form k) ws).2 e) (np k ws (aI (l2 f.au) false (form k) ws).2 f):=by
 have hs:dI [] e.au=0->e=f/\l1 e.au=l2 f.au:=λh0=>by
  refine⟨h.same h0,?_⟩;rw[<- h.au];exact TA G1 G2 (LB _ _ h0).2
 match k,h4,h10 with
 |4,_,_=>
  refine⟨h.name,h.aW,by simp only[np];rw[h.au],h.aP,h.aN,h.first,h.last,λh0=>?_⟩;obtain⟨e1,e2⟩:=hs (LF _ _ _ h0);rw[e2,e1]
 |5,_,_=>exact⟨h.name,h.aW,h.au,h.aP,h.aN,h.first,h.last,λh0=>by obtain⟨e1,e2⟩:=hs h0;rw[e2,e1]⟩
 |6,_,_=>exact⟨h.name,h.aW,h.au,by simp[np,h.aP],h.aN,h.first,h.last,λh0=>by obtain⟨e1,e2⟩:=hs h0;rw[e2,e1]⟩
 |7,_,_=>exact⟨h.name,h.aW,h.au,h.aP,by simp[np,h.aN],h.first,h.last,λh0=>by obtain⟨e1,e2⟩:=hs h0;rw[e2,e1]⟩
 |8,_,_=>exact⟨h.name,h.aW,h.au,h.aP,h.aN,by simp[np,h.first],h.last,λh0=>by obtain⟨e1,e2⟩:=hs h0;rw[e2,e1]⟩
 |9,_,_=>exact⟨h.name,h.aW,h.au,h.aP,h.aN,h.first,by simp[np,h.last],λh0=>by obtain⟨e1,e2⟩:=hs h0;rw[e2,e1]⟩
def TD(G1:oF l1)(G2:oF l2){a b:RS}(hl:a.last=b.last)(hc:Br a.cfg b.cfg)(l:Bs):(eA l1 a l).1=(eA l2 b l).1/\((eA l1 a l).1=0->(eA l1 a l).2.last=(eA l2 b l).2.last/\Br (eA l1 a l).2.cfg (eA l2 b l).2.cfg):=by
 unfold eA
 cases bS 32 l with
 |nil=>exact⟨rfl,λh=>by simp at h⟩
 |cons h ws=>
  simp only[jy]
  cases hk:kindOf h with
  |none=>exact⟨rfl,λh=>by simp at h⟩
  |some k=>
   obtain⟨-,kR⟩:=Bo hk;simp only;rw[hl]
   split
   ·exact⟨rfl,λh=>by simp at h⟩
   have hp:bu a.cfg.az=bu b.cfg.az:=by
    rcases hc.az.cases with⟨e1,e2⟩|⟨s,x,t,y,e1,e2,-,hr⟩
    ·rw[e1,e2]
    rw[e1,e2,GK,GK,hr.au]
   have bM:=LD (λw=>LC G1 G2 (bu a.cfg.az) w) (form k) ws false;rw[hp]at bM⊢;rw[bM]
   split
   ·refine⟨rfl,λ_=>⟨rfl,?_⟩⟩;simp only
    match k,kR with
    |0,_=>rw[Bq (a:=l1 _) (b:=l2 (bu b.cfg.az)) _ ws _ (by decide) (by decide)];exact⟨rfl,rfl,hc.cycle,hc.bO,hc.az⟩
    |1,_=>rw[Bq (a:=l1 _) (b:=l2 (bu b.cfg.az)) _ ws _ (by decide) (by decide)];exact⟨hc.closed,hc.opn,rfl,hc.bO,hc.az⟩
    |2,_=>rw[Bq (a:=l1 _) (b:=l2 (bu b.cfg.az)) _ ws _ (by decide) (by decide)];exact⟨hc.closed,hc.opn,hc.cycle,rfl,hc.az⟩
    |3,_=>rw[Bq (a:=l1 _) (b:=l2 (bu b.cfg.az)) _ ws _ (by decide) (by decide)];exact⟨hc.closed,hc.opn,hc.cycle,hc.bO,hc.az.snoc (uB.refl _)⟩
    |k+4,kR=>
     refine⟨hc.closed,hc.opn,hc.cycle,hc.bO,?_⟩;simp only[eV]
     rcases hc.az.cases with⟨e1,e2⟩|⟨s,x,t,y,e1,e2,hst,hr⟩
     ·rw[e1,e2];exact trivial
     rw[e1,e2,rq,rq,GK,<- hr.au];have:=TC G1 G2 hr _ (by omega) kR ws;rw[<- hr.au]at this;exact hst.snoc this
   rename_i hne;exact⟨rfl,λh=>absurd h hne⟩
def LG(G1:oF l1)(G2:oF l2):∀(ls:List Bs) (i:Nat) (a b:RS),a.last=b.last->Br a.cfg b.cfg ->
  (cy l1 i a ls).1=(cy l2 i b ls).1/\((cy l1 i a ls).1.1=0->Br (cy l1 i a ls).2.cfg (cy l2 i b ls).2.cfg)
 |[],i,a,b,hl,hc=>by
  unfold cy;rw[hl]
  split
  ·exact⟨rfl,λh=>by simp at h⟩
  exact⟨rfl,λ_=>hc⟩
 |l::ls,i,a,b,hl,hc=>by
  obtain⟨h1,h2⟩:=TD G1 G2 hl hc l;unfold cy;rw[<- h1]
  split
  ·rename_i h0;obtain⟨h3,h4⟩:=h2 h0;exact LG G1 G2 ls _ _ _ h3 h4
  rename_i h0;exact⟨rfl,λh=>absurd h h0⟩
def TE(h:uB e f)(a:List ByteArray):bR a e=bR a f/\(bR a e=0->e=f):=by
 have hs:jK e=jK f:=by unfold jK;rw[h.aW,h.au,h.aP,h.aN,h.first,h.last]
 refine⟨?_,λh0=>h.same (Ty h0).2.2.1⟩
 by_cases h0:dI [] e.au=0
 ·rw[h.same h0]
 unfold bR;rw[<- h.name,<- hs,<- h.au];simp only[ne_eq,h0,not_false_eq_true,kC]
def LH:∀{s t:List aG},oH s t->∀(a:List ByteArray) (i:Nat),jZ a i s=jZ a i t/\((jZ a i s).1=0->s=t)
 |[],[],_,_,_=>⟨rfl,λ_=>rfl⟩
 |x::s,y::t,h,a,i=>by
  obtain⟨h1,h2⟩:=TE h.1 a;obtain⟨h3,h4⟩:=LH h.2 (a++[x.name]) (i+1);unfold jZ;rw[<- h1,<- h.1.name,<- h3]
  split
  ·rename_i h0;exact⟨rfl,λhz=>by rw[h2 h0,h4 hz]⟩
  rename_i h0;exact⟨rfl,λhz=>absurd hz h0⟩
 |[],_::_,h,_,_=>h.elim
 |_::_,[],h,_,_=>h.elim
def TF{c d:aV}(h:Br c d):dJ c=dJ d/\((dJ c).1=0->c=d):=by
 have hw:il c=il d:=by unfold il;rw[h.closed,h.opn,h.cycle,h.bO,h.az.length]
 obtain⟨h1,h2⟩:=LH h.az [] 0;unfold dJ;rw[<- hw,<- h1]
 split
 ·refine⟨rfl,λhz=>?_⟩;have he:=h2 hz;obtain⟨_,_,_,_,_⟩:=c;obtain⟨_,_,_,_,_⟩:=d;obtain⟨e1,e2,e3,e4,-⟩:=h;simp only at e1 e2 e3 e4 he;subst e1 e2 e3 e4 he;rfl
 rename_i h0;exact⟨rfl,λhz=>absurd hz h0⟩
def TG(G1:oF l1)(G2:oF l2)(s:Bs):gf l1 s=gf l2 s:=by
 obtain⟨h1,h2⟩:=LG G1 G2 (bS 10 (trim s)) 0 _ ⟨-1,bT⟩ rfl ⟨rfl,rfl,rfl,rfl,trivial⟩;unfold gf
 split
 ·rfl
 rw[<- h1]
 split
 ·rename_i h0;obtain⟨h3,h4⟩:=TF (h2 h0);rw[<- h3]
  split
  ·rename_i hz;rw[h4 hz]
  rfl
 rfl
end Go.Proofs.YtjjodkjbmgnbeaaGreatDoor
