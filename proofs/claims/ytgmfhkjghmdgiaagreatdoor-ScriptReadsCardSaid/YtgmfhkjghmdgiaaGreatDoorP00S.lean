/-
  Several texts as one: CfPure, CfText, GaPure, FlPure, TotPure, CfRead, CfBack, CfLen, CfSame.
-/
import Derived.Test.YtgmfhkjghmdgiaaGreatDoorProg
set_option linter.all false
abbrev bH.{u}:=@List.getElem?_eq_getElem.{u}
abbrev aQ:=@Nat.le_refl
abbrev bw:=@Nat.le_trans
abbrev cM.{u}:=@List.mem_of_getElem?.{u}
abbrev dT.{u}:=@List.getElem?_eq_some_iff.{u}
abbrev bI:=@Nat.zero_le
abbrev cw:=@decide_eq_false
abbrev aK.{u}:=@if_neg.{u}
abbrev dm.{u}:=@List.length_append.{u}
abbrev fQ.{u}:=@List.getD_eq_getElem?_getD.{u}
abbrev aP:=@Or.inr
abbrev aR.{u}:=@if_pos.{u}
abbrev a_:=@Or.inl
abbrev eR.{u}:=@Option.some.injEq.{u}
abbrev ko.{u}:=@List.getElem?_append_right.{u}
abbrev iI.{u}:=@List.getElem?_eq_none.{u}
abbrev kq.{u}:=@List.drop_eq_getElem_cons.{u}
abbrev fW.{u}:=@List.take_add_one.{u}
abbrev gy.{u}:=@List.length_take.{u}
abbrev fL.{u,v}:=@List.length_map.{u,v}
abbrev fg.{u}:=@List.mem_cons.{u}
abbrev iV.{u}:=@List.append_assoc.{u}
abbrev mX.{u}:=@List.getElem?_append_left.{u}
abbrev fR:=@Nat.lt_or_ge
abbrev jB.{u}:=@List.not_mem_nil.{u}
abbrev kr.{u}:=@List.length_cons.{u}
abbrev lU.{u}:=@Array.length_toList.{u}
abbrev nQ.{u}:=@List.take_of_length_le.{u}
abbrev qI.{u}:=@List.eq_nil_of_length_eq_zero.{u}
abbrev lV.{u,v}:=@List.flatMap_cons.{u,v}
abbrev lW.{u}:=@List.any_eq_false.{u}
abbrev qb.{u}:=@List.length_singleton.{u}
abbrev mr:=@List.mem_range
abbrev nR.{u}:=@List.any_eq_true.{u}
abbrev qc.{u}:=@List.mem_cons_self.{u}
abbrev px.{u}:=@List.cons_append.{u}
abbrev py.{u}:=@List.all_eq_true.{u}
abbrev lX.{u,v}:=@List.mem_map.{u,v}
abbrev pz.{u}:=@List.mem_append.{u}
abbrev tE.{u}:=@List.mem_cons_of_mem.{u}
abbrev qd.{u}:=@List.append_nil.{u}
abbrev rR:=@Bool.not_eq_true
abbrev rS:=@Bool.and_eq_true
abbrev pA.{u,v}:=@List.map_cons.{u,v}
abbrev rT.{u,v}:=@List.mem_flatMap.{u,v}
abbrev tF.{u}:=@List.nil_append.{u}
abbrev xa:=@decide_eq_true_eq
abbrev qJ:=@Int.le_refl
abbrev yQ.{u}:=@List.set_append_right.{u}
abbrev vp:=@Bool.or_false
abbrev AV:=@Nat.mul_le_mul_right
abbrev xb.{u}:=@List.getElem_mem.{u}
abbrev mY.{u,v}:=@congrArg.{u,v}
abbrev xc.{u}:=@List.any_cons.{u}
abbrev yR.{u}:=@List.any_append.{u}
open Option renaming none→I,some→J
open Go.Proofs.Tryz
namespace Go.Proofs.YtgmfhkjghmdgiaaGreatDoor
structure fM where
 fr:Int
 to:Int
 mn:Int
 mx:Int
structure aF where
 name:ByteArray
 aJ:Int
 ak:List ByteArray
 cnt:Int
 mn:Int
 mx:Int
 aB:List fM
 aA:List (Int×Int)
 first:List Int
 last:List Int
structure aS where
 closed:Int
 opn:Int
 cycle:Int
 bC:Int
 aw:List aF
def lY(b:UInt8):Bool:=decide (97<=b.toNat)&&decide (b.toNat<=122)
def fX(b:UInt8):Bool:=decide (48<=b.toNat)&&decide (b.toNat<=57)
def gG(b:UInt8):Bool:=lY b||fX b||decide (b.toNat=45)
def isName(s:ByteArray):Bool:=decide (1<=s.size)&&decide (s.size<=12)&&lY (s.data.getD 0 0)&&s.data.toList.all gG
def dH:List (Bool×Nat)->Nat
 |[]=>0
 |(b,c)::t=>if b then c else dH t
def within(n a b:Int):Bool:=decide (a<=n)&&decide (n<=b)
def lacks(n:Nat)(x:Int):Bool:=decide (x<0)||decide ((n:Int)<=x)
def ia(a b c d:Int):Bool:=decide (a<=b)&&decide (b<=c)&&decide (c<=d)
def twice{α:Type} [DecidableEq α] (l:List α):Bool:=(List.range l.length).any λi=>match l[i]? with
 |some x=>(l.take i).any λy=>decide (x=y)
 |none=>false
def dM(ahead:List ByteArray)(s:ByteArray):Nat:=if isName s then (if ahead.any (λx=>decide (x=s))then 6 else 0)else 4
def iW(e:aF):Nat:=dH [(!within e.aJ 0 20,2),(decide (16<e.ak.length),2),(decide (8<e.aB.length),2),(decide (64<e.aA.length),2),(decide (16<e.first.length),2),(decide (16<e.last.length),2)]
def pB(e:aF):Nat:=dH [
 (decide (e.cnt≠-1)&&lacks e.ak.length e.cnt,5),
 (e.aB.any λg=>lacks e.ak.length g.fr||lacks e.ak.length g.to,5),
 (e.aA.any λd=>lacks e.ak.length d.1||lacks e.ak.length d.2,5),
 (e.first.any λx=>lacks e.ak.length x,5),
 (e.last.any λx=>lacks e.ak.length x,5),
 (decide (e.cnt=-1)&&(decide (e.mn≠0)||decide (e.mx≠0)),3),
 (!ia 0 e.mn e.mx 999,2),
 (e.aB.any λg=>!ia 0 g.mn g.mx 1099511627776,2),
 (twice e.aA,6),(twice e.first,6),(twice e.last,6),
 (decide (0<e.aA.length)&&decide (e.first.length=0),3),
 (decide (e.aA.length=0)&&decide (0<e.first.length+e.last.length),3)]
def dO:List ByteArray->List ByteArray->Nat
 |_,[]=>0
 |a,p::t=>if dM a p=0 then dO (a++[p]) t else dM a p
def cx(ahead:List ByteArray)(e:aF):Nat:=
 if dM ahead e.name≠0 then dM ahead e.name else if iW e≠0 then iW e else if dO [] e.ak≠0 then dO [] e.ak else pB e
def gQ(c:aS):Nat:=dH [(!(within c.closed 0 1000&&within c.opn 1 1000),2),(!within c.cycle 1 100,2),(!within c.bC 0 20,2),(decide (8<c.aw.length),2),(decide (c.opn<c.cycle),3)]
def iX:List ByteArray->Nat->List aF->Nat×Int
 |_,_,[]=>(0,-1)
 |a,i,e::t=>if cx a e=0 then iX (a++[e.name]) (i+1) t else (cx a e,(i:Int))
def cG(c:aS):Nat×Int:=if gQ c=0 then iX [] 0 c.aw else (gQ c,-1)
abbrev Bs:=List UInt8
def bl(b:ByteArray):Bs:=b.data.toList
def kw:Nat->Bs
 |0=>[119,105,110,100,111,119]
 |1=>[99,121,99,108,101]
 |2=>[100,101,108,97,121]
 |3=>[101,110,116,105,116,121]
 |4=>[112,111,105,110,116]
 |5=>[99,111,117,110,116]
 |6=>[103,97,112]
 |7=>[101,100,103,101]
 |8=>[102,105,114,115,116]
 |_=>[108,97,115,116]
def ku(u:Nat):Bs:=if h:u<10 then [UInt8.ofNat (48+u)]else ku (u / 10)++[UInt8.ofNat (48+u%10)]
def num(n:Int):Bs:=ku n.toNat
def bu(k:Nat)(ws:List Bs):Bs:=kw k++ws.flatMap (λw=>32::w)
def pt(ak:List ByteArray)(x:Int):Bs:=bl (ak.getD x.toNat ByteArray.empty)
def fh(e:aF):List Bs:=
 bu 3 [bl e.name,num e.aJ]::(e.ak.map (λp=>bu 4 [bl p])++((if e.cnt=-1 then []else [bu 5 [pt e.ak e.cnt,num e.mn,num e.mx]]) ++
  (e.aB.map (λg=>bu 6 [pt e.ak g.fr,pt e.ak g.to,num g.mn,num g.mx])++(e.aA.map (λd=>bu 7 [pt e.ak d.1,pt e.ak d.2]) ++
   (e.first.map (λx=>bu 8 [pt e.ak x])++e.last.map (λx=>bu 9 [pt e.ak x]))))))
def pC(c:aS):List Bs:=bu 0 [num c.closed,num c.opn]::bu 1 [num c.cycle]::bu 2 [num c.bC]::c.aw.flatMap fh
def jn(c:aS):Bs:=(pC c).flatMap (λl=>l++[10])
def bW(c:UInt8):Bs->List Bs
 |[]=>[[]]
 |b::t=>if b=c then []::bW c t else match bW c t with
  |[]=>[[b]]
  |h::r=>(b::h)::r
def kX(c:UInt8)(h:Bs)(ws:List Bs):Bs:=h++ws.flatMap (λw=>c::w)
theorem F9(c:UInt8)(l:Bs):bW c l≠[]:=by
 cases l with
 |nil=>simp[bW]
 |cons b t=>
  unfold bW
  split
  ·simp
  split<;>simp
theorem F_(c:UInt8)(t:Bs)(h:Bs)(r:List Bs)(e:bW c t=h::r):∀w:Bs,c∉w->bW c (w++t)=(w++h)::r:=by
 intro w
 induction w with
 |nil=>intro _;exact e
 |cons b w ih=>
  intro hw;simp only[fg,not_or]at hw;have:=ih hw.2;rw[px,bW,aK (Ne.symm hw.1),this];rfl
theorem Ln(c:UInt8)(w:Bs)(hw:c∉w):bW c w=[w]:=by
 have:=F_ c [] [] [] rfl w hw;simpa using this
theorem Lp(c:UInt8):∀(ws:List Bs) (h:Bs),c∉h->(∀w∈ws,c∉w)->bW c (kX c h ws)=h::ws:=by
 intro ws
 induction ws with
 |nil=>intro h hh _;simpa[kX]using Ln c h hh
 |cons x ws ih=>
  intro h hh hw;have e:=ih x (hw x (by simp)) (λw h=>hw w (by simp[h]));have e2:bW c (c::kX c x ws)=[]::x::ws:=by rw[bW,aR rfl,e]
  have:=F_ c _ _ _ e2 h hh;simpa[kX]using this
theorem TN(c:UInt8):∀(l:Bs) (h:Bs) (ws:List Bs),bW c l=h::ws->l=kX c h ws:=by
 intro l
 induction l with
 |nil=>intro h ws e;simp[bW]at e;obtain⟨rfl,rfl⟩:=e;rfl
 |cons b t ih=>
  intro h ws e;unfold bW at e
  split at e
  ·rename_i hb;simp at e
   obtain⟨rfl,e⟩:=e
   cases hc:bW c t with
   |nil=>exact absurd hc (F9 c t)
   |cons x r=>
    rw[hc]at e;subst e;have:=ih _ _ hc;rw[this,hb];simp[kX]
  split at e
  ·rename_i hc;exact absurd hc (F9 c t)
  rename_i x r hc;simp at e
  obtain⟨rfl,rfl⟩:=e;have:=ih _ _ hc;rw[this];simp[kX]
theorem TP(h:Bs)(t:List Bs):(h::t).flatMap (λl=>l++[10])=kX 10 h t++[10]:=by
 induction t generalizing h with
 |nil=>simp[kX]
 |cons x t ih=>
  rw[lV,ih x];simp[kX]
def jC(w:Bs):Nat:=w.foldl (λn b=>n*10+(b.toNat-48)) 0
def numOf(w:Bs):Option Nat:=if w.length=0\/13<w.length\/(1<w.length/\w.head?=J 48)\/w.all fX=false then I else J (jC w)
theorem Lq(w:Bs)(b:UInt8):jC (w++[b])=jC w*10+(b.toNat-48):=by simp[jC]
theorem DF(u:Nat)(h:u<10):(UInt8.ofNat (48+u)).toNat=48+u:=by simp;omega
theorem xd{u:Nat}(h:u<10):ku u=[UInt8.ofNat (48+u)]:=by rw[ku,dif_pos h]
theorem TQ{u:Nat}(h:¬u<10):ku u=ku (u / 10)++[UInt8.ofNat (48+u%10)]:=by rw[ku,dif_neg h]
theorem AW(u:Nat):jC (ku u)=u/\(ku u).all fX=true/\ku u≠[]/\(0<u->(ku u).head?≠J 48)/\∀k,u<10^(k+1)->(ku u).length<=k+1:=by
 induction u using Nat.strongRecOn with
 |ind u ih=>
  by_cases h:u<10
  ·rw[xd h]
   refine⟨by simp only[jC,List.foldl_cons,List.foldl_nil,DF u h];omega,by simp only[List.all_cons,List.all_nil,fX,DF u h];simp;omega,by simp,λhu e=>?_,λk _=>by simp⟩;simp only[List.head?_cons,eR]at e;have:=mY UInt8.toNat e;rw[DF u h]at this;have ait:(48:UInt8).toNat=48:=rfl;omega
  obtain⟨a,b,c,d,l⟩:=ih (u / 10) (by omega);have hd:=DF (u%10) (by omega);rw[TQ h]
  refine⟨by rw[Lq,a,hd];omega,?_,by simp,λ_ e=>?_,λk hk=>?_⟩
  ·rw[List.all_append,b];simp only[List.all_cons,List.all_nil,fX,hd];simp;omega
  ·rw[List.head?_append]at e;have hne:=d (by omega)
   cases hh:(ku (u / 10)).head? with
   |none=>simp at hh;exact c hh
   |some x=>rw[hh]at e hne;exact hne (by simpa using e)
  cases k with
  |zero=>simp at hk;omega
  |succ k=>
   have:=l k (by rw[Nat.pow_succ]at hk;omega);simp;omega
theorem TR(u:Nat)(h:u<10000000000000):numOf (ku u)=J u:=by
 obtain⟨a,b,c,d,l⟩:=AW u;have l2:=l 12 (by simpa using h);unfold numOf;rw[aK,a];rintro(h1|h1|⟨h1,h2⟩|h1)
 ·exact c (qI h1)
 ·omega
 ·by_cases hu:u<10
  ·rw[xd hu]at h1;simp at h1
  exact d (by omega) h2
 rw[b]at h1;cases h1
theorem TS{w:Bs}{n:Nat}(h:numOf w=J n):w≠[]:=by
 intro e;subst e;simp[numOf]at h
structure WG where
 g:fM
 t:Int
def WG.bears(x:WG)(tick:Int):Bool:=decide (x.t≠-1)&&(decide (x.g.mn<=tick-x.t)&&decide (tick-x.t<=x.g.mx))
def WG.bad(x:WG)(p tick:Int):Bool:=decide (p=x.g.to) && !x.bears tick
def WG.rep(x:WG)(p tick:Int):WG:=if p=x.g.fr then ⟨x.g,tick⟩else x
structure cj where
 xs:List WG
 bad:Bool
def qK(tick:Int):Bool:=decide (0<=tick)&&decide (tick<=1099511627776)
def cj.rep(s:cj)(p tick:Int):cj:=if qK tick=true then ⟨s.xs.map (·.rep p tick),s.xs.any (·.bad p tick)||s.bad⟩else s
def cj.zero(s:cj):cj:=⟨s.xs,false⟩
def WG.new(g:fM):WG:=⟨g,-1⟩
def cj.new(l:List fM):cj:=⟨l.map WG.new,false⟩
def cj.upto(s:cj)(p tick:Int)(k:Nat):cj:=⟨(s.xs.take k).map (·.rep p tick)++s.xs.drop k,(s.xs.take k).any (·.bad p tick)||s.bad⟩
theorem cj.TT(s:cj)(p tick:Int):s.upto p tick 0=s:=by simp[cj.upto]
theorem cj.TU{s:cj}{p tick:Int}{k:Nat}(h:¬k<s.xs.length)(ht:qK tick=true):s.upto p tick k=s.rep p tick:=by
 unfold cj.upto cj.rep;rw[nQ (by omega),List.drop_of_length_le (by omega),qd,aR ht]
theorem cj.TV(s:cj)(p tick:Int)(k:Nat):(s.upto p tick k).xs.length=s.xs.length:=by simp[cj.upto];omega
theorem cj.Lr{s:cj}{p tick:Int}{k:Nat}{x:WG}(h:s.xs[k]?=J x):(s.upto p tick k).xs[k]?=J x:=by
 have hk:k<s.xs.length:=by
  rcases fR k s.xs.length with h'|h'
  ·exact h'
  rw[iI h']at h;cases h
 show ((s.xs.take k).map _++s.xs.drop k)[k]?=_
 rw[ko (by simp[gy];omega)];simp[Nat.min_eq_left (Nat.le_of_lt hk),h]
theorem cj.TW{s:cj}{p tick:Int}{k:Nat}{x:WG}(h:s.xs[k]?=J x):s.upto p tick (k+1)=⟨(s.upto p tick k).xs.set k (x.rep p tick),x.bad p tick||(s.upto p tick k).bad⟩:=by
 have hk:k<s.xs.length:=by
  rcases fR k s.xs.length with h'|h'
  ·exact h'
  rw[iI h']at h;cases h
 have e1:s.xs.take (k+1)=s.xs.take k++[x]:=by
  rw[fW,h];rfl
 have e2:s.xs.drop k=x::s.xs.drop (k+1):=by
  rw[kq hk];rw[bH hk]at h
  cases h;rfl
 unfold cj.upto;simp only[cj.mk.injEq]
 constructor
 ·rw[e1,e2,yQ _ _ (by simp[gy];omega)];simp[Nat.min_eq_left (Nat.le_of_lt hk)]
 rw[e1,yR];simp only[xc,List.any_nil,vp]
 cases x.bad p tick<;>cases (s.xs.take k).any (·.bad p tick)<;>cases s.bad<;>rfl
structure eW where
 pt:Int
 tick:Int
 cyc:Int
def AX(fr:Int)(l:List eW):Int:=l.foldl (λa m=>if m.pt=fr then m.tick else a) (-1)
theorem TX(fr:Int)(l:List eW)(m:eW):AX fr (l++[m])=if m.pt=fr then m.tick else AX fr l:=by
 unfold AX;rw[List.foldl_append];rfl
def DG(g:fM)(l:List eW)(m:eW):Bool:=(WG.mk g (AX g.fr l)).bad m.pt m.tick
def vq(g:fM)(l:List eW)(cyc:Int)(i:Nat):Bool:=match l[i]? with
 |some m=>decide (m.cyc=cyc)&&DG g (l.take i) m
 |none=>false
def tG(g:fM)(l:List eW)(cyc:Int):Bool:=(List.range l.length).any (vq g l cyc)
theorem TY{g:fM}{l:List eW}{cyc:Int}(h:∀k,k<l.length->vq g l cyc k=false):tG g l cyc=false:=by
 unfold tG;rw[lW];intro k hk;rw[h k (by simpa using hk)];simp
theorem Ga(g:fM)(l:List eW)(m:eW)(cyc:Int)(hm:m.cyc=cyc):tG g (l++[m]) cyc=(DG g l m||tG g l cyc):=by
 have e:vq g (l++[m]) cyc l.length=DG g l m:=by
  unfold vq;simp[hm]
 have e2:∀k,k<l.length->vq g (l++[m]) cyc k=vq g l cyc k:=λk hk=>by
  unfold vq;rw[mX hk,List.take_append_of_le_length (by omega)]
 unfold tG;rw[dm,show [m].length=1 from rfl,List.range_succ,yR];simp only[xc,List.any_nil,vp,e];rw[Bool.or_comm];congr 1
 rw[Bool.eq_iff_iff];simp only[nR,mr]
 constructor
 ·rintro⟨k,hk,h⟩;exact⟨k,hk,by rwa [e2 k hk]at h⟩
 rintro⟨k,hk,h⟩;exact⟨k,hk,by rwa [e2 k hk]⟩
theorem TZ{g:fM}{l:List eW}{cyc:Int}(h:∀m∈l,m.cyc<cyc):tG g l cyc=false:=by
 refine TY λk hk=>?_
 unfold vq;rw[bH hk];have:=h _ (xb hk);simp only;rw[cw (by omega)];rfl
def rU(gs:List fM)(l:List eW)(cyc:Int):cj:=⟨gs.map (λg=>⟨g,AX g.fr l⟩),gs.any (λg=>tG g l cyc)⟩
theorem T1(gs:List fM):cj.new gs=rU gs [] 0:=by
 unfold cj.new rU;simp only[cj.mk.injEq]
 refine⟨rfl,?_⟩;symm;rw[lW];intro g _;simp[tG]
theorem T2(gs:List fM)(l:List eW)(cyc p tick:Int)(ht:qK tick=true):(rU gs l cyc).rep p tick=rU gs (l++[⟨p,tick,cyc⟩]) cyc:=by
 unfold cj.rep rU;rw[aR ht];simp only[cj.mk.injEq,List.map_map]
 refine⟨List.map_congr_left λg _=>?_,?_⟩
 ·simp only[Function.comp,WG.rep,TX]
  split<;>rfl
 rw[List.any_map,Bool.eq_iff_iff];simp only[Bool.or_eq_true,nR,Function.comp]
 constructor
 ·rintro(⟨g,hg,h⟩|⟨g,hg,h⟩)
  ·exact⟨g,hg,by rw[Ga _ _ _ _ rfl];simp[DG,h]⟩
  exact⟨g,hg,by rw[Ga _ _ _ _ rfl,h];simp⟩
 rintro⟨g,hg,h⟩;rw[Ga _ _ _ _ rfl,Bool.or_eq_true]at h
 rcases h with h|h
 ·exact a_ ⟨g,hg,h⟩
 exact aP ⟨g,hg,h⟩
theorem Ls{s:cj}{p tick:Int}(ht:qK tick=false):s.rep p tick=s:=by
 unfold cj.rep;rw[aK (by rw[ht];simp)]
theorem T3{gs:List fM}{l:List eW}{cyc:Int}(h:∀m∈l,m.cyc<=cyc):(rU gs l cyc).zero=rU gs l (cyc+1):=by
 unfold cj.zero rU;simp only[cj.mk.injEq,true_and];symm;rw[lW];intro g _
 rw[TZ (λm hm=>by have:=h m hm;omega)];simp
def cj.fit(s:cj):Prop:=∀x∈s.xs,-1<=x.t/\x.t<=1099511627776
theorem cj.aiu{s:cj}(h:s.fit)(p tick:Int):(s.rep p tick).fit:=by
 unfold cj.rep
 split
 ·rename_i ht;intro x hx;simp only[lX]at hx;obtain⟨y,hy,rfl⟩:=hx;unfold WG.rep
  split
  ·simp[qK]at ht
   exact⟨by show -1<=tick;omega,by show tick<=_;omega⟩
  exact h y hy
 exact h
theorem cj.T4(l:List fM):(cj.new l).fit:=by
 intro x hx;simp only[cj.new,lX]at hx;obtain⟨y,_,rfl⟩:=hx;exact⟨by show (-1:Int)<=-1;decide,by show (-1:Int)<=_;decide⟩
def jP(e:aF)(p:Int):Bool:=decide (0<=p)&&decide (p<(e.ak.length:Int))
def qf(e:aF)(ah p:Int):Bool:=decide (e.aA=[])||(jP e p&&(if ah=-1 then decide (p∈e.first)else decide ((ah,p)∈e.aA)))
def mZ(e:aF)(p:Int):Int:=if jP e p=true/\p∉e.last then p else -1
structure iY where
 ah:Int
 bad:Bool
def iY.rep(e:aF)(s:iY)(p:Int):iY:=⟨mZ e p,s.bad || !qf e s.ah p⟩
def iY.zero(s:iY):iY:=⟨s.ah,false⟩
theorem T5(e:aF)(p:Int):mZ e p=-1\/(0<=mZ e p/\mZ e p<(e.ak.length:Int)):=by
 unfold mZ
 split
 ·rename_i h;right
  have:=h.1;unfold jP at this;simp at this
  exact this
 exact a_ rfl
def AY(e:aF)(l:List eW):Int:=match l.getLast? with
 |some m=>mZ e m.pt
 |none=>-1
theorem T6(e:aF)(l:List eW)(m:eW):AY e (l++[m])=mZ e m.pt:=by unfold AY;simp
def Gb(e:aF)(l:List eW)(m:eW):Bool:=!qf e (AY e l) m.pt
def vr(e:aF)(l:List eW)(cyc:Int)(i:Nat):Bool:=match l[i]? with
 |some m=>decide (m.cyc=cyc)&&Gb e (l.take i) m
 |none=>false
def tH(e:aF)(l:List eW)(cyc:Int):Bool:=(List.range l.length).any (vr e l cyc)
theorem T7{e:aF}{l:List eW}{cyc:Int}(h:∀k,k<l.length->vr e l cyc k=false):tH e l cyc=false:=by
 unfold tH;rw[lW];intro k hk;rw[h k (by simpa using hk)];simp
theorem T8(e:aF)(l:List eW)(m:eW)(cyc:Int)(hm:m.cyc=cyc):tH e (l++[m]) cyc=(tH e l cyc||Gb e l m):=by
 have e1:vr e (l++[m]) cyc l.length=Gb e l m:=by
  unfold vr;simp[hm]
 have e2:∀k,k<l.length->vr e (l++[m]) cyc k=vr e l cyc k:=λk hk=>by
  unfold vr;rw[mX hk,List.take_append_of_le_length (by omega)]
 unfold tH;rw[dm,show [m].length=1 from rfl,List.range_succ,yR];simp only[xc,List.any_nil,vp,e1];congr 1
 rw[Bool.eq_iff_iff];simp only[nR,mr]
 constructor
 ·rintro⟨k,hk,h⟩;exact⟨k,hk,by rwa [e2 k hk]at h⟩
 rintro⟨k,hk,h⟩;exact⟨k,hk,by rwa [e2 k hk]⟩
theorem T9{e:aF}{l:List eW}{cyc:Int}(h:∀m∈l,m.cyc<cyc):tH e l cyc=false:=by
 refine T7 λk hk=>?_
 unfold vr;rw[bH hk];have:=h _ (xb hk);simp only;rw[cw (by omega)];rfl
def rV(e:aF)(l:List eW)(cyc:Int):iY:=⟨AY e l,tH e l cyc⟩
theorem T_(e:aF):rV e [] 0=⟨-1,false⟩:=by simp[rV,AY,tH]
theorem Ua(e:aF)(l:List eW)(cyc p t:Int):(rV e l cyc).rep e p=rV e (l++[⟨p,t,cyc⟩]) cyc:=by
 unfold iY.rep rV;rw[T6,T8 _ _ _ _ rfl];rfl
theorem Ub{e:aF}{l:List eW}{cyc:Int}(h:∀m∈l,m.cyc<=cyc):(rV e l cyc).zero=rV e l (cyc+1):=by
 unfold iY.zero rV;rw[T9 (cyc:=cyc+1) (λm hm=>by have:=h m hm;omega)]
open Go
structure cD where
 bC:Nat
 since:Nat
 st:Nat
def Gc:ByteArray:=⟨#[102,97,105,108,101,100]⟩
def Gd:ByteArray:=⟨#[101,120,112,105,114,101,100]⟩
def kI:Nat->ByteArray
 |0=>⟨#[111,107]⟩
 |1=>Gc
 |2=>Gd
 |_=>⟨#[115,116,111,112,112,101,100]⟩
def hasB(l:List ByteArray)(x:ByteArray):Bool:=l.any λy=>decide (y=x)
def nS(l:List ByteArray):Nat:=if hasB l Gd=true then 2 else if hasB l Gc=true then 1 else 0
def cD.new(d:Nat):cD:=⟨d,0,0⟩
def cD.cut(s:cD):cD:=if s.st=2/\s.since=s.bC then { s with st:=3 }else s
def cD.fin(s:cD)(l:List ByteArray):cD:=
 if s.st=3 then s else if s.st=2 then cD.cut ⟨s.bC,s.since+1,2⟩else cD.cut ⟨s.bC,0,nS l⟩
structure qg(s:cD)(k:Nat):Prop where
 d:s.bC<=20
 s0:s.since<=k
 lt:s.st=2->s.since<s.bC
 st:s.st<=3
 z:s.st<2->s.since=0
theorem Lt(l:List ByteArray):nS l<=2:=by unfold nS;split;omega;split<;>omega
theorem qg.new{d:Nat}(h:d<=20):qg (cD.new d) 0:=⟨h,aQ _,λe=>absurd e (show ¬(0:Nat)=2 by decide),bI _,λ_=>rfl⟩
theorem qg.fin{s:cD}{k:Nat}(h:qg s k)(l:List ByteArray):qg (s.fin l) (k+1):=by
 unfold cD.fin
 split
 ·exact⟨h.d,bw h.s0 (by omega),h.lt,h.st,h.z⟩
 split
 ·rename_i h2;have h3:=h.lt h2;have h4:=h.s0;unfold cD.cut
  split
  ·exact⟨h.d,by show s.since+1<=_;omega,λe=>absurd e (show ¬(3:Nat)=2 by decide),aQ 3,λe=>by have:(3:Nat)<2:=e;omega⟩
  rename_i h5;exact⟨h.d,by show s.since+1<=_;omega,λ_=>by show s.since+1<s.bC;simp only[true_and]at h5;omega,by show 2<=3;omega,λe=>by have:(2:Nat)<2:=e;omega⟩
 have hw:=Lt l;unfold cD.cut
 split
 ·exact⟨h.d,bI _,λe=>absurd e (show ¬(3:Nat)=2 by decide),aQ 3,λe=>by have:(3:Nat)<2:=e;omega⟩
 rename_i h5;exact⟨h.d,bI _,λe=>by show 0<s.bC;have e':nS l=2:=e;simp only[e',true_and]at h5;omega,by show nS l<=3;omega,λ_=>rfl⟩
def behind(d i:Nat):cD:=if i<d then ⟨d,i,2⟩else ⟨d,d,3⟩
def form:Nat->List Nat
 |0=>[1,1]
 |1=>[1]
 |2=>[1]
 |3=>[0,1]
 |4=>[0]
 |5=>[2,1,1]
 |6=>[2,2,1,1]
 |7=>[2,2]
 |_=>[2]
def kindOf(w:Bs):Option Nat:=(List.range 10).find? (λk=>decide (kw k=w))
def may(last:Int)(k:Nat):Bool:=
 if k<=2 then decide (last=(k:Int)-1)else if k=3 then decide (2<=last)else if k=5 then decide (3<=last)&&decide (last<5)else decide (3<=last)&&decide (last<=(k:Int))
def bF(look:Bs->Option Nat)(f:Nat)(w:Bs):Nat×Int:=
 if w=[]then (1,0)else match f with
 |0=>(0,0)
 |1=>match numOf w with
  |some n=>(0,(n:Int))
  |none=>(1,0)
 |_=>match look w with
  |some n=>(0,(n:Int))
  |none=>(5,0)
def aY(look:Bs->Option Nat):Bool->List Nat->List Bs->Nat×List Int
 |nn,[],[]=>(if nn then 5 else 0,[])
 |nn,f::fs,w::ws=>if (bF look f w).1=1 then (1,[])else ((aY look (nn||decide ((bF look f w).1=5)) fs ws).1,(bF look f w).2::(aY look (nn||decide ((bF look f w).1=5)) fs ws).2)
 |_,[],_::_=>(1,[])
 |_,_::_,[]=>(1,[])
def qL(name:Bs)(aJ:Int):aF:=⟨⟨name.toArray⟩,aJ,[],-1,0,0,[],[],[],[]⟩
def AZ(f:aF->aF):List aF->List aF
 |[]=>[]
 |[e]=>[f e]
 |x::y::t=>x::AZ f (y::t)
theorem pD(f:aF->aF):∀(es:List aF) (e:aF),AZ f (es++[e])=es++[f e]
 |[],e=>rfl
 |[x],e=>rfl
 |x::y::t,e=>by
  have:=pD f (y::t) e;simp only[px]at this⊢;rw[AZ,this]
def jQ(k:Nat)(ws:List Bs)(vs:List Int)(e:aF):aF:=match k with
 |4=>⟨e.name,e.aJ,e.ak++[⟨(ws.getD 0 []).toArray⟩],e.cnt,e.mn,e.mx,e.aB,e.aA,e.first,e.last⟩
 |5=>⟨e.name,e.aJ,e.ak,vs.getD 0 0,vs.getD 1 0,vs.getD 2 0,e.aB,e.aA,e.first,e.last⟩
 |6=>⟨e.name,e.aJ,e.ak,e.cnt,e.mn,e.mx,e.aB++[⟨vs.getD 0 0,vs.getD 1 0,vs.getD 2 0,vs.getD 3 0⟩],e.aA,e.first,e.last⟩
 |7=>⟨e.name,e.aJ,e.ak,e.cnt,e.mn,e.mx,e.aB,e.aA++[(vs.getD 0 0,vs.getD 1 0)],e.first,e.last⟩
 |8=>⟨e.name,e.aJ,e.ak,e.cnt,e.mn,e.mx,e.aB,e.aA,e.first++[vs.getD 0 0],e.last⟩
 |_=>⟨e.name,e.aJ,e.ak,e.cnt,e.mn,e.mx,e.aB,e.aA,e.first,e.last++[vs.getD 0 0]⟩
def ed(c:aS)(k:Nat)(ws:List Bs)(vs:List Int):aS:=match k with
 |0=>⟨vs.getD 0 0,vs.getD 1 0,c.cycle,c.bC,c.aw⟩
 |1=>⟨c.closed,c.opn,vs.getD 0 0,c.bC,c.aw⟩
 |2=>⟨c.closed,c.opn,c.cycle,vs.getD 0 0,c.aw⟩
 |3=>⟨c.closed,c.opn,c.cycle,c.bC,c.aw++[qL (ws.getD 0 []) (vs.getD 1 0)]⟩
 |k=>⟨c.closed,c.opn,c.cycle,c.bC,AZ (jQ k ws vs) c.aw⟩
def bO(l:List aF):List ByteArray:=match l.getLast? with
 |some e=>e.ak
 |none=>[]
structure RS where
 last:Int
 cfg:aS
abbrev ic:=List ByteArray->Bs->Option Nat
def jo(look:ic)(st:RS)(h:Bs)(ws:List Bs):Nat×RS:=match kindOf h with
 |none=>(1,st)
 |some k=>if may st.last k=false then (1,st)else if (aY (look (bO st.cfg.aw)) false (form k) ws).1=0 then (0,⟨k,ed st.cfg k ws (aY (look (bO st.cfg.aw)) false (form k) ws).2⟩)else ((aY (look (bO st.cfg.aw)) false (form k) ws).1,st)
def ez(look:ic)(st:RS)(l:Bs):Nat×RS:=match bW 32 l with
 |[]=>(1,st)
 |h::ws=>jo look st h ws
def ct(look:ic):Nat->RS->List Bs->(Nat×Int)×RS
 |i,st,[]=>if st.last<2 then ((1,(i:Int)),st)else ((0,-1),st)
 |i,st,l::ls=>if (ez look st l).1=0 then ct look (i+1) (ez look st l).2 ls else (((ez look st l).1,(i:Int)),st)
def trim(s:Bs):Bs:=if s.getLast?=J 10 then s.dropLast else s
def cE:aS:=⟨0,0,0,0,[]⟩
def cW(look:ic)(s:Bs):(Nat×Int)×aS:=
 if 8000<s.length then ((2,-1),cE)else
 if (ct look 0 ⟨-1,cE⟩ (bW 10 (trim s))).1.1=0 then
  (if (cG (ct look 0 ⟨-1,cE⟩ (bW 10 (trim s))).2.cfg).1=0 then ((0,-1),(ct look 0 ⟨-1,cE⟩ (bW 10 (trim s))).2.cfg)else (cG (ct look 0 ⟨-1,cE⟩ (bW 10 (trim s))).2.cfg,cE))
 else ((ct look 0 ⟨-1,cE⟩ (bW 10 (trim s))).1,cE)
structure lB(look:ic):Prop where
 hit:∀ak w i,look ak w=J i->∃p,ak[i]?=J p/\bl p=w
 Ge:∀ak w,look ak w=I->∀p∈ak,bl p≠w
theorem A0{w:Bs}{k:Nat}(h:kindOf w=J k):w=kw k/\k<10:=by
 have h1:=List.find?_some h;have h2:=List.mem_of_find?_eq_some h;simp at h1 h2
 exact⟨h1.symm,h2⟩
theorem DI:∀k,k<10->kindOf (kw k)=J k:=by decide
theorem Lu:∀k,k<10->(32:UInt8)∉kw k/\(10:UInt8)∉kw k:=by decide
theorem Uc{look:Bs->Option Nat}{f:Nat}{fs:List Nat}{ws:List Bs}(h:(aY look false (f::fs) ws).1=0):∃w A3,ws=w::A3/\(bF look f w).1=0/\(aY look false fs A3).1=0/\(aY look false (f::fs) ws).2=(bF look f w).2::(aY look false fs A3).2:=by
 have Ud:∀(fs:List Nat) (ws:List Bs),(aY look true fs ws).1≠0:=by
  intro fs
  induction fs with
  |nil=>intro ws;cases ws<;>simp[aY]
  |cons f fs ih=>
   intro ws
   cases ws with
   |nil=>simp[aY]
   |cons w ws=>
    unfold aY
    split
    ·simp
    simpa using ih ws
 cases ws with
 |nil=>simp[aY]at h
 |cons w ws=>
  refine⟨w,ws,rfl,?_⟩;rw[show aY _ _ _ (w::ws)=if (bF _ f w).1=1 then (1,[])else ((aY _ _ fs ws).1,(bF _ f w).2::(aY _ _ fs ws).2) by rw[aY]]at h⊢
  split at h
  ·simp at h
  rename_i h1;rw[aK h1]
  by_cases h5:(bF look f w).1=5
  ·simp only[h5,decide_true,Bool.or_true]at h;exact absurd h (Ud _ _)
  simp only[h5,decide_false,vp]at h⊢
  refine⟨?_,h,trivial⟩;unfold bF at h1 h5⊢
  by_cases hw:w=[]
  ·rw[aR hw]at h1;simp at h1
  rw[aK hw]at h1 h5⊢
  split
  ·rfl
  ·split<;>simp_all
  split<;>simp_all
theorem Ue{look:Bs->Option Nat}{ws:List Bs}(h:(aY look false [] ws).1=0):ws=[]:=by
 cases ws with
 |nil=>rfl
 |cons=>simp[aY]at h
theorem qh(w:Bs):bl ⟨w.toArray⟩=w:=by simp[bl]
theorem lC{a b:ByteArray}(h:bl a=bl b):a=b:=by
 obtain⟨⟨a⟩⟩:=a;obtain⟨⟨b⟩⟩:=b;simp[bl]at h
 subst h;rfl
theorem Lv(k:Nat)(ws:List Bs):bu k ws=kX 32 (kw k) ws:=rfl
theorem jD{b:Bool}{c:Nat}{t:List (Bool×Nat)}(hc:c≠0)(h:dH ((b,c)::t)=0):b=false/\dH t=0:=by
 unfold dH at h
 cases b with
 |false=>exact⟨rfl,by simpa using h⟩
 |true=>simp at h;exact absurd h hc
structure tI(e:aF):Prop where
 name:isName e.name=true
 aJ:0<=e.aJ/\e.aJ<=20
 pn:∀p∈e.ak,isName p=true
 nd:e.ak.Nodup
 cnt:(e.cnt=-1/\e.mn=0/\e.mx=0)\/(0<=e.cnt/\e.cnt<(e.ak.length:Int))
 mm:0<=e.mn/\e.mn<=e.mx/\e.mx<=999
 aB:∀g∈e.aB,(0<=g.fr/\g.fr<(e.ak.length:Int))/\(0<=g.to/\g.to<(e.ak.length:Int))/\0<=g.mn/\g.mn<=g.mx/\g.mx<=1099511627776
 aA:∀d∈e.aA,(0<=d.1/\d.1<(e.ak.length:Int))/\(0<=d.2/\d.2<(e.ak.length:Int))
 first:∀x∈e.first,0<=x/\x<(e.ak.length:Int)
 last:∀x∈e.last,0<=x/\x<(e.ak.length:Int)
theorem Lx{a:List ByteArray}{s:ByteArray}(h:dM a s=0):isName s=true/\s∉a:=by
 unfold dM at h
 split at h
 ·rename_i hn
  split at h
  ·simp at h
  rename_i ha
  refine⟨hn,λhm=>ha ?_⟩;exact nR.2 ⟨s,hm,by simp⟩
 simp at h
theorem Gf:∀(l a:List ByteArray),dO a l=0->(∀p∈l,isName p=true/\p∉a)/\l.Nodup
 |[],_,_=>⟨λp hp=>(jB hp).elim,List.Pairwise.nil⟩
 |p::t,a,h=>by
  unfold dO at h
  split at h
  ·rename_i h0;obtain⟨h1,h2⟩:=Lx h0;obtain⟨h3,h4⟩:=Gf t _ h
   refine⟨λq hq=>?_,List.nodup_cons.2 ⟨λhm=>(h3 p hm).2 (by simp),h4⟩⟩
   rcases fg.1 hq with rfl|hq
   ·exact⟨h1,h2⟩
   exact⟨(h3 q hq).1,λhm=>(h3 q hq).2 (by simp[hm])⟩
  rename_i h0;exact absurd h h0
theorem xh{n:Nat}{x:Int}(h:lacks n x=false):0<=x/\x<(n:Int):=by
 unfold lacks at h;simp at h;omega
theorem LA{a b c d:Int}(h:ia a b c d=true):a<=b/\b<=c/\c<=d:=by
 unfold ia at h;simp at h;omega
theorem Gg{a:List ByteArray}{e:aF}(h:cx a e=0):dM a e.name=0/\iW e=0/\dO [] e.ak=0/\pB e=0:=by
 unfold cx at h
 split at h
 ·rename_i h0;exact absurd h h0
 rename_i h0
 split at h
 ·rename_i h1;exact absurd h h1
 rename_i h1
 split at h
 ·rename_i h2;exact absurd h h2
 rename_i h2;exact⟨by simpa using h0,by simpa using h1,by simpa using h2,h⟩
theorem Uf{a:List ByteArray}{e:aF}(h:cx a e=0):tI e:=by
 obtain⟨h1,h2,h3,h4⟩:=Gg h;obtain⟨n1,-⟩:=Lx h1;obtain⟨p1,p2⟩:=Gf _ _ h3;unfold iW at h2;obtain⟨s1,-⟩:=jD (by simp) h2;unfold pB at h4;obtain⟨q1,h4⟩:=jD (by simp) h4;obtain⟨q2,h4⟩:=jD (by simp) h4;obtain⟨q3,h4⟩:=jD (by simp) h4;obtain⟨q4,h4⟩:=jD (by simp) h4;obtain⟨q5,h4⟩:=jD (by simp) h4;obtain⟨q6,h4⟩:=jD (by simp) h4;obtain⟨q7,h4⟩:=jD (by simp) h4;obtain⟨q8,-⟩:=jD (by simp) h4;simp only[Bool.not_eq_false']at q7;have m7:=LA q7
 refine⟨n1,?_,λp hp=>(p1 p hp).1,p2,?_,m7,λg hg=>?_,λd hd=>?_,λx hx=>?_,λx hx=>?_⟩
 ·simp[within]at s1;omega
 ·by_cases hc:e.cnt=-1
  ·left
   simp[hc]at q6
   exact⟨hc,q6⟩
  right
  simp[hc]at q1
  exact xh q1
 ·have a1:=lW.1 q2 g hg;have a2:=lW.1 q8 g hg;simp only[Bool.or_eq_true,not_or,rR]at a1;simp only[rR,Bool.not_eq_false']at a2;exact⟨xh a1.1,xh a1.2,LA a2⟩
 ·have a1:=lW.1 q3 d hd;simp only[Bool.or_eq_true,not_or,rR]at a1;exact⟨xh a1.1,xh a1.2⟩
 ·exact xh (by simpa using lW.1 q4 x hx)
 exact xh (by simpa using lW.1 q5 x hx)
theorem LC:∀(l:List aF) (a:List ByteArray) (i:Nat),(iX a i l).1=0->∀e∈l,tI e
 |[],_,_,_,e,he=>by cases he
 |x::t,a,i,h,e,he=>by
  unfold iX at h
  split at h
  ·rename_i h0
   rcases fg.1 he with rfl|he
   ·exact Uf h0
   exact LC t _ _ h e he
  rename_i h0;exact absurd h h0
structure Gh(c:aS):Prop where
 closed:0<=c.closed/\c.closed<=1000
 opn:1<=c.opn/\c.opn<=1000
 cycle:1<=c.cycle/\c.cycle<=100
 bC:0<=c.bC/\c.bC<=20
 many:c.aw.length<=8
 aw:∀e∈c.aw,tI e
theorem yS{c:aS}(h:(cG c).1=0):Gh c:=by
 unfold cG at h
 split at h
 ·rename_i h0;unfold gQ at h0;obtain⟨q1,h0⟩:=jD (by simp) h0;obtain⟨q2,h0⟩:=jD (by simp) h0;obtain⟨q3,h0⟩:=jD (by simp) h0;obtain⟨q4,-⟩:=jD (by simp) h0;simp[within]at q1 q2 q3 q4
  exact⟨q1.1,q1.2,q2,q3,q4,LC _ _ _ h⟩
 rename_i h0;exact absurd h h0
theorem LD{b:UInt8}(h:gG b=true):b≠32/\b≠10:=by
 constructor<;>(rintro rfl;revert h;decide)
theorem xi{s:ByteArray}(h:isName s=true):bl s≠[]/\(32:UInt8)∉bl s/\(10:UInt8)∉bl s:=by
 unfold isName at h;simp only[rS,xa]at h;obtain⟨⟨⟨h1,-⟩,-⟩,h4⟩:=h
 refine⟨λe=>?_,λhm=>?_,λhm=>?_⟩
 ·have:(bl s).length=s.size:=by unfold bl ByteArray.size;rw[lU]
  rw[e]at this;have h0:([]:Bs).length=0:=rfl;omega
 ·exact(LD (py.1 h4 _ hm)).1 rfl
 exact(LD (py.1 h4 _ hm)).2 rfl
theorem pE(n:Int):num n≠[]/\(32:UInt8)∉num n/\(10:UInt8)∉num n:=by
 obtain⟨-,b,c,-,-⟩:=AW n.toNat
 refine⟨c,λhm=>?_,λhm=>?_⟩<;>(have:=py.1 b _ hm;revert this;decide)
theorem LF(look:Bs->Option Nat){w:Bs}(h:w≠[]):bF look 0 w=(0,0):=by unfold bF;rw[aK h];rfl
theorem tJ(look:Bs->Option Nat){n:Int}(h0:0<=n)(h1:n<10000000000000):bF look 1 (num n)=(0,n):=by
 unfold bF;rw[aK (pE n).1];have:numOf (num n)=J _:=TR _ (by omega);simp only[this];congr 1
 omega
theorem LG{l:List ByteArray}(h:l.Nodup){i j:Nat}{a b:ByteArray}(hi:l[i]?=J a)(hj:l[j]?=J b)(e:a=b):i=j:=by
 subst e;obtain⟨li,ei⟩:=dT.1 hi;obtain⟨lj,ej⟩:=dT.1 hj;have hp:=List.pairwise_iff_getElem.1 h
 rcases Nat.lt_trichotomy i j with hlt|rfl|hlt
 ·exact absurd (ei.trans ej.symm) (hp i j li lj hlt)
 ·rfl
 exact absurd (ej.trans ei.symm) (hp j i lj li hlt)
theorem LH{ak:List ByteArray}{x:Int}(h0:0<=x)(h1:x<(ak.length:Int)):∃p,ak[x.toNat]?=J p/\pt ak x=bl p/\p∈ak:=by
 have hl:x.toNat<ak.length:=by omega
 exact⟨_,bH hl,by simp[pt,bH hl],xb hl⟩
theorem Ug{look:ic}(G:lB look){ak:List ByteArray}(hn:ak.Nodup)(hp:∀p∈ak,isName p=true){x:Int}(h0:0<=x)(h1:x<(ak.length:Int)):bF (look ak) 2 (pt ak x)=(0,x):=by
 obtain⟨p,e,e2,hm⟩:=LH h0 h1;rw[e2];unfold bF;rw[aK (xi (hp p hm)).1];simp only
 cases hl:look ak (bl p)with
 |none=>exact absurd rfl (G.Ge _ _ hl p hm)
 |some i=>
  obtain⟨q,hq,hb⟩:=G.hit _ _ _ hl;have:=LG hn hq e (lC hb);simp only;congr 1
  omega
theorem oA{ak:List ByteArray}(hp:∀p∈ak,isName p=true){x:Int}(h0:0<=x)(h1:x<(ak.length:Int)):(32:UInt8)∉pt ak x/\(10:UInt8)∉pt ak x:=by
 obtain⟨p,-,e2,hm⟩:=LH h0 h1;rw[e2];exact(xi (hp p hm)).2
theorem lZ{look:Bs->Option Nat}{f:Nat}{fs:List Nat}{w:Bs}{ws:List Bs}{v:Int}{vs:List Int}(h1:bF look f w=(0,v))(h2:aY look false fs ws=(0,vs)):aY look false (f::fs) (w::ws)=(0,v::vs):=by
 rw[aY,h1];simp[h2]
theorem rW(look:Bs->Option Nat):aY look false [] []=(0,[]):=by simp[aY]
theorem Uh{look:ic}{st:RS}{k:Nat}{ws:List Bs}{vs:List Int}(hk:k<10)(hm:may st.last k=true)(hw:∀w∈ws,(32:UInt8)∉w)(hf:aY (look (bO st.cfg.aw)) false (form k) ws=(0,vs)):ez look st (bu k ws)=(0,⟨k,ed st.cfg k ws vs⟩):=by
 unfold ez;rw[Lv,Lp 32 ws _ (Lu k hk).1 hw];simp only[jo];rw[DI k hk];simp[hm,hf]
theorem yT{look:ic}{st:RS}{k i:Nat}{ws:List Bs}{vs:List Int}(ls:List Bs)(hk:k<10)(hm:may st.last k=true)(hw:∀w∈ws,(32:UInt8)∉w)(hf:aY (look (bO st.cfg.aw)) false (form k) ws=(0,vs)):ct look i st (bu k ws::ls)=ct look (i+1) ⟨k,ed st.cfg k ws vs⟩ ls:=by
 rw[ct,Uh hk hm hw hf];simp
theorem A4(es:List aF)(e:aF):bO (es++[e])=e.ak:=by simp[bO]
theorem A5{look:ic}{α:Type}(k:Nat)(h4:4<=k)(h10:k<10)(h5:k≠5)(f:α->List Bs)(g:aF->α->aF)(Gs:aF->List α->aF)(P:aF->Prop)(g0:∀e,Gs e []=e)(g1:∀e x xs,Gs e (x::xs)=Gs (g e x) xs)(a b c d:Int)(es:List aF)(rest:List Bs):∀(xs:List α) (i:Nat) (last:Int) (e:aF),3<=last->last<=(k:Int)->P e ->
   (∀x∈xs,(∀w∈f x,(32:UInt8)∉w)/\∀e,P e->∃vs,aY (look e.ak) false (form k) (f x)=(0,vs)/\jQ k (f x) vs e=g e x/\P (g e x)) ->
   ∃j vt,ct look i ⟨last,⟨a,b,c,d,es++[e]⟩⟩ (xs.map (λx=>bu k (f x))++rest)=ct look j ⟨vt,⟨a,b,c,d,es++[Gs e xs]⟩⟩ rest/\3<=vt/\vt<=(k:Int):=by
 intro xs
 induction xs with
 |nil=>intro i last e h3 hl _ _;exact⟨i,_,by rw[g0];rfl,h3,hl⟩
 |cons x xs ih=>
  intro i last e h3 hl hP hx;obtain⟨hw,hx0⟩:=hx x (by simp);obtain⟨vs,hf,hu,Ui⟩:=hx0 e hP;have hm:may last k=true:=by
   unfold may;rw[aK (by omega),aK (by omega),aK h5];simp;omega
  rw[pA,px,yT _ h10 hm hw (by rw[A4];exact hf)];have Gi:ed ⟨a,b,c,d,es++[e]⟩ k (f x) vs=⟨a,b,c,d,es++[g e x]⟩:=by
   match k,h4 with
   |k+4,_=>simp only[ed];rw[pD,hu]
  rw[Gi,g1];exact ih _ k _ (by omega) (qJ _) Ui (λy hy=>hx y (by simp[hy]))
theorem Uj{look:ic}(G:lB look)(a b c d:Int)(es:List aF)(e:aF)(hE:tI e)(rest:List Bs)(i:Nat)(last:Int)(hl:2<=last):∃j vt,ct look i ⟨last,⟨a,b,c,d,es⟩⟩ (fh e++rest)=ct look j ⟨vt,⟨a,b,c,d,es++[e]⟩⟩ rest/\2<=vt:=by
 obtain⟨name,aJ,ak,cnt,mn,mx,aB,aA,first,xj⟩:=e;obtain⟨hn,ht,qM,oB,LI,DJ,hg,LJ,LK,LL⟩:=hE;simp only at hn ht qM oB LI DJ hg LJ LK LL;obtain⟨n1,n2,-⟩:=xi hn;have W2:∀{x:Int},0<=x->x<(ak.length:Int)->bF (look ak) 2 (pt ak x)=(0,x):=λh0 h1=>Ug G oB qM h0 h1
 unfold fh;simp only[px,iV];rw[yT (vs:=[0,aJ]) _ (by decide) (by simp[may];exact hl) (by intro w hw;simp at hw;rcases hw with rfl|rfl;exact n2;exact(pE aJ).2.1) (lZ (LF _ n1) (lZ (tJ _ (by omega) (by omega)) (rW _)))];have Gi:ed ⟨a,b,c,d,es⟩ 3 [bl name,num aJ] [0,aJ]=⟨a,b,c,d,es++[⟨name,aJ,[],-1,0,0,[],[],[],[]⟩]⟩:=by
  have:(⟨(bl name).toArray⟩:ByteArray)=name:=lC (qh _);simp[ed,qL,this]
 rw[Gi];obtain⟨j,l1,e1,h3,h4⟩:=A5 (look:=look) 4 (by decide) (by decide) (by decide) (λp:ByteArray=>[bl p]) (λe p=>⟨e.name,e.aJ,e.ak++[p],e.cnt,e.mn,e.mx,e.aB,e.aA,e.first,e.last⟩) (λe ps=>⟨e.name,e.aJ,e.ak++ps,e.cnt,e.mn,e.mx,e.aB,e.aA,e.first,e.last⟩) (λ_=>True) (λe=>by simp) (λe x xs=>by simp) a b c d es
  ((if cnt=-1 then []else [bu 5 [pt ak cnt,num mn,num mx]])++(aB.map (λg=>bu 6 [pt ak g.fr,pt ak g.to,num g.mn,num g.mx])++(aA.map (λd=>bu 7 [pt ak d.1,pt ak d.2])++(first.map (λx=>bu 8 [pt ak x])++(xj.map (λx=>bu 9 [pt ak x])++rest)))))
  ak (i+1) 3 ⟨name,aJ,[],-1,0,0,[],[],[],[]⟩ (by omega) (by omega) trivial
  (λp hp=>⟨by intro w hw;simp at hw;subst hw;exact(xi (qM p hp)).2.1,λe _=>⟨[0],lZ (LF _ (xi (qM p hp)).1) (rW _),by
   have:(⟨(bl p).toArray⟩:ByteArray)=p:=lC (qh _);simp[jQ,this],trivial⟩⟩)
 have LM:=e1;simp only[tF]at LM;have c5:∃j5 l5,ct look j ⟨l1,⟨a,b,c,d,es++[⟨name,aJ,ak,-1,0,0,[],[],[],[]⟩]⟩⟩ ((if cnt=-1 then []else [bu 5 [pt ak cnt,num mn,num mx]])++(aB.map (λg=>bu 6 [pt ak g.fr,pt ak g.to,num g.mn,num g.mx])++(aA.map (λd=>bu 7 [pt ak d.1,pt ak d.2])++(first.map (λx=>bu 8 [pt ak x])++(xj.map (λx=>bu 9 [pt ak x])++rest))))) =
   ct look j5 ⟨l5,⟨a,b,c,d,es++[⟨name,aJ,ak,cnt,mn,mx,[],[],[],[]⟩]⟩⟩ (aB.map (λg=>bu 6 [pt ak g.fr,pt ak g.to,num g.mn,num g.mx])++(aA.map (λd=>bu 7 [pt ak d.1,pt ak d.2])++(first.map (λx=>bu 8 [pt ak x])++(xj.map (λx=>bu 9 [pt ak x])++rest))))/\3<=l5/\l5<=6:=by
  rcases LI with⟨rfl,rfl,rfl⟩|⟨k0,k1⟩
  ·exact⟨j,l1,by simp,h3,by omega⟩
  refine⟨j+1,5,?_,by omega,by omega⟩;rw[aK (by omega),List.singleton_append,yT (vs:=[cnt,mn,mx]) _ (by decide) (by simp[may];omega) (by intro w hw;simp at hw;rcases hw with rfl|rfl|rfl;exact(oA qM k0 k1).1;exact(pE mn).2.1;exact(pE mx).2.1)
   (by rw[A4];exact lZ (W2 k0 k1) (lZ (tJ _ (by omega) (by omega)) (lZ (tJ _ (by omega) (by omega)) (rW _))))]
  simp only[ed];rw[pD];simp[jQ]
 obtain⟨j5,l5,e5,Gj,Uk⟩:=c5;obtain⟨j6,l6,e6,Ul,aiv⟩:=A5 (look:=look) 6 (by decide) (by decide) (by decide) (λg:fM=>[pt ak g.fr,pt ak g.to,num g.mn,num g.mx]) (λe g=>⟨e.name,e.aJ,e.ak,e.cnt,e.mn,e.mx,e.aB++[g],e.aA,e.first,e.last⟩) (λe gs=>⟨e.name,e.aJ,e.ak,e.cnt,e.mn,e.mx,e.aB++gs,e.aA,e.first,e.last⟩) (λe=>e.ak=ak) (λe=>by simp) (λe x xs=>by simp) a b c d es
  (aA.map (λd=>bu 7 [pt ak d.1,pt ak d.2])++(first.map (λx=>bu 8 [pt ak x])++(xj.map (λx=>bu 9 [pt ak x])++rest)))
  aB j5 l5 ⟨name,aJ,ak,cnt,mn,mx,[],[],[],[]⟩ Gj Uk rfl
  (λg qi=>by
   obtain⟨⟨f0,f1⟩,⟨t0,t1⟩,m0,m1,m2⟩:=hg g qi
   refine⟨by intro w hw;simp at hw;rcases hw with rfl|rfl|rfl|rfl;exact(oA qM f0 f1).1;exact(oA qM t0 t1).1;exact(pE g.mn).2.1;exact(pE g.mx).2.1,λe he=>⟨[g.fr,g.to,g.mn,g.mx],?_,by simp[jQ],he⟩⟩;rw[he];exact lZ (W2 f0 f1) (lZ (W2 t0 t1) (lZ (tJ _ (by omega) (by omega)) (lZ (tJ _ (by omega) (by omega)) (rW _)))))
 obtain⟨j7,l7,e7,Gk,aiw⟩:=A5 (look:=look) 7 (by decide) (by decide) (by decide) (λg:Int×Int=>[pt ak g.1,pt ak g.2]) (λe g=>⟨e.name,e.aJ,e.ak,e.cnt,e.mn,e.mx,e.aB,e.aA++[g],e.first,e.last⟩) (λe gs=>⟨e.name,e.aJ,e.ak,e.cnt,e.mn,e.mx,e.aB,e.aA++gs,e.first,e.last⟩) (λe=>e.ak=ak) (λe=>by simp) (λe x xs=>by simp) a b c d es
  (first.map (λx=>bu 8 [pt ak x])++(xj.map (λx=>bu 9 [pt ak x])++rest))
  aA j6 l6 ⟨name,aJ,ak,cnt,mn,mx,[]++aB,[],[],[]⟩ Ul (by omega) rfl
  (λg qi=>by
   obtain⟨⟨f0,f1⟩,t0,t1⟩:=LJ g qi
   refine⟨by intro w hw;simp at hw;rcases hw with rfl|rfl;exact(oA qM f0 f1).1;exact(oA qM t0 t1).1,λe he=>⟨[g.1,g.2],?_,by simp[jQ],he⟩⟩;rw[he];exact lZ (W2 f0 f1) (lZ (W2 t0 t1) (rW _)))
 obtain⟨j8,l8,e8,Gl,aix⟩:=A5 (look:=look) 8 (by decide) (by decide) (by decide) (λg:Int=>[pt ak g]) (λe g=>⟨e.name,e.aJ,e.ak,e.cnt,e.mn,e.mx,e.aB,e.aA,e.first++[g],e.last⟩) (λe gs=>⟨e.name,e.aJ,e.ak,e.cnt,e.mn,e.mx,e.aB,e.aA,e.first++gs,e.last⟩) (λe=>e.ak=ak) (λe=>by simp) (λe x xs=>by simp) a b c d es
  (xj.map (λx=>bu 9 [pt ak x])++rest)
  first j7 l7 ⟨name,aJ,ak,cnt,mn,mx,[]++aB,[]++aA,[],[]⟩ Gk (by omega) rfl
  (λg qi=>by
   obtain⟨f0,f1⟩:=LK g qi
   refine⟨by intro w hw;simp at hw;subst hw;exact(oA qM f0 f1).1,λe he=>⟨[g],?_,by simp[jQ],he⟩⟩;rw[he];exact lZ (W2 f0 f1) (rW _))
 obtain⟨j9,l9,e9,aiy,aiz⟩:=A5 (look:=look) 9 (by decide) (by decide) (by decide) (λg:Int=>[pt ak g]) (λe g=>⟨e.name,e.aJ,e.ak,e.cnt,e.mn,e.mx,e.aB,e.aA,e.first,e.last++[g]⟩) (λe gs=>⟨e.name,e.aJ,e.ak,e.cnt,e.mn,e.mx,e.aB,e.aA,e.first,e.last++gs⟩) (λe=>e.ak=ak) (λe=>by simp) (λe x xs=>by simp) a b c d es
  rest
  xj j8 l8 ⟨name,aJ,ak,cnt,mn,mx,[]++aB,[]++aA,[]++first,[]⟩ Gl (by omega) rfl
  (λg qi=>by
   obtain⟨f0,f1⟩:=LL g qi
   refine⟨by intro w hw;simp at hw;subst hw;exact(oA qM f0 f1).1,λe he=>⟨[g],?_,by simp[jQ],he⟩⟩;rw[he];exact lZ (W2 f0 f1) (rW _))
 exact⟨j9,l9,(((((LM.trans e5).trans e6).trans e7).trans e8).trans e9),by omega⟩
theorem LN{look:ic}(G:lB look)(a b c d:Int):∀(l:List aF) (es:List aF) (i:Nat) (last:Int),(∀e∈l,tI e)->2<=last->∃st,ct look i ⟨last,⟨a,b,c,d,es⟩⟩ (l.flatMap fh)=((0,-1),⟨st,⟨a,b,c,d,es++l⟩⟩)
 |[],es,i,last,_,hl=>⟨last,by simp[ct];omega⟩
 |e::l,es,i,last,hE,hl=>by
  rw[lV];obtain⟨j,l',h1,h2⟩:=Uj G a b c d es e (hE e (by simp)) (l.flatMap fh) i _ hl;obtain⟨st,h3⟩:=LN G a b c d l (es++[e]) j l' (λx hx=>hE x (by simp[hx])) h2;exact⟨st,by rw[h1,h3];simp⟩
theorem Um{look:ic}(G:lB look){c:aS}(hc:Gh c):∃st,ct look 0 ⟨-1,cE⟩ (pC c)=((0,-1),⟨st,c⟩):=by
 obtain⟨a,b,cy,d,aw⟩:=c;obtain⟨h1,h2,h3,h4,-,h5⟩:=hc;simp only at h1 h2 h3 h4 h5;obtain⟨st,h⟩:=LN G a b cy d _ [] 3 2 h5 (by omega)
 refine⟨st,?_⟩;unfold pC;simp only[];rw[yT (vs:=[a,b]) _ (by decide) (by simp[may]) (by intro w hw;simp at hw;rcases hw with rfl|rfl<;>exact(pE _).2.1) (lZ (tJ _ (by omega) (by omega)) (lZ (tJ _ (by omega) (by omega)) (rW _)))];rw[yT (vs:=[cy]) _ (by decide) (by simp[may]) (by intro w hw;simp at hw;subst hw;exact(pE _).2.1) (lZ (tJ _ (by omega) (by omega)) (rW _))];rw[yT (vs:=[d]) _ (by decide) (by simp[may]) (by intro w hw;simp at hw;subst hw;exact(pE _).2.1) (lZ (tJ _ (by omega) (by omega)) (rW _))];simpa[ed,cE]using h
theorem rX{k:Nat}(hk:k<10){ws:List Bs}(h:∀w∈ws,(10:UInt8)∉w):(10:UInt8)∉bu k ws:=by
 unfold bu;simp only[pz,rT,fg,not_or,not_exists,not_and];exact⟨(Lu k hk).2,λw hw=>⟨by decide,h w hw⟩⟩
theorem Un{c:aS}(hc:Gh c):∀l∈pC c,(10:UInt8)∉l:=by
 intro l hl;unfold pC at hl;simp only[fg,rT]at hl;have N:=λn=>(pE n).2.2
 rcases hl with rfl|rfl|rfl|⟨e,he,hl⟩
 ·exact rX (by decide) (by intro w hw;simp at hw;rcases hw with rfl|rfl<;>exact N _)
 ·exact rX (by decide) (by intro w hw;simp at hw;subst hw;exact N _)
 ·exact rX (by decide) (by intro w hw;simp at hw;subst hw;exact N _)
 have E:=hc.aw e he;unfold fh at hl;simp only[fg,pz,lX]at hl
 rcases hl with rfl|⟨p,hp,rfl⟩|hl|⟨g,hg,rfl⟩|⟨g,hg,rfl⟩|⟨g,hg,rfl⟩|⟨g,hg,rfl⟩
 ·exact rX (by decide) (by intro w hw;simp at hw;rcases hw with rfl|rfl;exact(xi E.name).2.2;exact N _)
 ·exact rX (by decide) (by intro w hw;simp at hw;subst hw;exact(xi (E.pn p hp)).2.2)
 ·split at hl
  ·simp at hl
  rename_i hn;simp at hl
  subst hl
  rcases E.cnt with h|⟨k0,k1⟩
  ·exact absurd h.1 hn
  exact rX (by decide) (by intro w hw;simp at hw;rcases hw with rfl|rfl|rfl;exact(oA E.pn k0 k1).2;exact N _;exact N _)
 ·obtain⟨⟨f0,f1⟩,⟨t0,t1⟩,-⟩:=E.aB g hg;exact rX (by decide) (by intro w hw;simp at hw;rcases hw with rfl|rfl|rfl|rfl;exact(oA E.pn f0 f1).2;exact(oA E.pn t0 t1).2;exact N _;exact N _)
 ·obtain⟨⟨f0,f1⟩,t0,t1⟩:=E.aA g hg;exact rX (by decide) (by intro w hw;simp at hw;rcases hw with rfl|rfl;exact(oA E.pn f0 f1).2;exact(oA E.pn t0 t1).2)
 ·obtain⟨f0,f1⟩:=E.first g hg;exact rX (by decide) (by intro w hw;simp at hw;subst hw;exact(oA E.pn f0 f1).2)
 obtain⟨f0,f1⟩:=E.last g hg;exact rX (by decide) (by intro w hw;simp at hw;subst hw;exact(oA E.pn f0 f1).2)
theorem Uo{look:ic}(G:lB look){c:aS}(h:(cG c).1=0)(hl:(jn c).length<=8000):cW look (jn c)=((0,-1),c):=by
 have hc:=yS h;obtain⟨st,hr⟩:=Um G hc;have lD:=Un hc;have hcut:bW 10 (trim (jn c))=pC c:=by
  cases hL:pC c with
  |nil=>simp[pC]at hL
  |cons x r=>
   have:jn c=kX 10 x r++[10]:=by unfold jn;rw[hL,TP]
   rw[this];have ht:trim (kX 10 x r++[10])=kX 10 x r:=by simp[trim]
   rw[ht];rw[hL]at lD;exact Lp 10 r x (lD x (by simp)) (λw hw=>lD w (by simp[hw]))
 unfold cW;rw[aK (by omega),hcut,hr];simp[h]
theorem A6{α β:Type}(f:α->List β)(K:Nat):∀l:List α,(∀x∈l,(f x).length<=K)->(l.flatMap f).length<=l.length*K
 |[],_=>by simp
 |x::l,h=>by
  have h1:=A6 f K l (λy hy=>h y (tE _ hy));have h2:=h x (qc ..);rw[lV,dm,kr,Nat.succ_mul];omega
theorem Gm:∀(k u:Nat),u<10^(k+1)->(ku u).length<=k+1
 |0,u,h=>by
  unfold ku;rw[dif_pos (by omega)];simp
 |k+1,u,h=>by
  unfold ku
  split
  ·simp
  have:=Gm k (u / 10) (by rw[Nat.pow_succ]at h;omega);rw[dm,qb];omega
theorem oC{n:Int}(h:n<=1099511627776):(num n).length<=13:=Gm 12 n.toNat (by
 have e:(10:Nat)^(12+1)=10000000000000:=by decide
 rw[e];omega)
theorem Up(k:Nat):(kw k).length<=6:=by
 unfold kw
 split<;>decide
theorem xk{s:ByteArray}(h:isName s=true):(bl s).length<=13:=by
 unfold isName at h;simp only[rS,xa]at h;have h2:=h.1.1.2;have e:(bl s).length=s.size:=by unfold bl;rw[lU];rfl
 omega
theorem vu{ak:List ByteArray}(h:∀p∈ak,isName p=true)(x:Int):(pt ak x).length<=13:=by
 unfold pt;rw[fQ]
 cases hq:ak[x.toNat]? with
 |none=>decide
 |some p=>exact xk (h p (cM hq))
theorem vw(k:Nat)(ws:List Bs)(h:∀w∈ws,w.length<=13)(hn:ws.length<=4):(bu k ws).length<=62:=by
 have h1:=Up k;have h2:(ws.flatMap (λw=>(32:UInt8)::w)).length<=ws.length*14:=A6 _ 14 ws (λw hw=>by have:=h w hw;simp;omega);have e:(bu k ws).length=(kw k).length+(ws.flatMap (λw=>(32:UInt8)::w)).length:=by unfold bu;exact dm
 have h3:ws.length*14<=4*14:=AV _ hn;rw[e];exact bw (Nat.add_le_add h1 (bw h2 h3)) (by decide)
structure xm(e:aF):Prop where
 ak:e.ak.length<=16
 aB:e.aB.length<=8
 aA:e.aA.length<=64
 first:e.first.length<=16
 last:e.last.length<=16
theorem Uq{e:aF}(h:iW e=0):xm e:=by
 unfold iW at h;obtain⟨-,h⟩:=jD (by simp) h;obtain⟨q1,h⟩:=jD (by simp) h;obtain⟨q2,h⟩:=jD (by simp) h;obtain⟨q3,h⟩:=jD (by simp) h;obtain⟨q4,h⟩:=jD (by simp) h;obtain⟨q5,-⟩:=jD (by simp) h;simp at q1 q2 q3 q4 q5
 exact⟨q1,q2,q3,q4,q5⟩
theorem LO:∀(l:List aF) (a:List ByteArray) (i:Nat),(iX a i l).1=0->∀e∈l,xm e
 |[],_,_,_,e,he=>by cases he
 |x::t,a,i,h,e,he=>by
  unfold iX at h
  split at h
  ·rename_i h0
   rcases fg.1 he with rfl|he
   ·exact Uq (Gg h0).2.1
   exact LO t _ _ h e he
  rename_i h0;exact absurd h h0
theorem Gn{c:aS}(h:(cG c).1=0):∀e∈c.aw,xm e:=by
 unfold cG at h
 split at h
 ·exact LO _ _ _ h
 rename_i h0;exact absurd h h0
theorem Gp{e:aF}(h:tI e)(hs:xm e):(fh e).length<=122/\∀l∈fh e,l.length<=62:=by
 have h1:=hs.ak;have h2:=hs.aB;have h3:=hs.aA;have h4:=hs.first;have h5:=hs.last;have hp:=λx=>vu h.pn x
 have hm:=h.mm
 constructor
 ·unfold fh;have:(if e.cnt=-1 then ([]:List Bs)else [bu 5 [pt e.ak e.cnt,num e.mn,num e.mx]]).length<=1:=by split<;>simp
  simp only[kr,dm,fL];omega
 intro l hl;unfold fh at hl;simp only[fg,pz,lX]at hl
 rcases hl with rfl|⟨p,hq,rfl⟩|hl|⟨g,hq,rfl⟩|⟨d,hq,rfl⟩|⟨x,hq,rfl⟩|⟨x,hq,rfl⟩
 ·refine vw _ _ (λw hw=>?_) (by simp);simp at hw
  rcases hw with rfl|rfl
  ·exact xk h.name
  exact oC (by have:=h.aJ;omega)
 ·refine vw _ _ (λw hw=>?_) (by simp);simp at hw
  subst hw;exact xk (h.pn p hq)
 ·split at hl
  ·cases hl
  simp at hl
  subst hl
  refine vw _ _ (λw hw=>?_) (by simp);simp at hw
  rcases hw with rfl|rfl|rfl
  ·exact hp _
  ·exact oC (by omega)
  exact oC (by omega)
 ·refine vw _ _ (λw hw=>?_) (by simp);have hg:=h.aB g hq;simp at hw
  rcases hw with rfl|rfl|rfl|rfl
  ·exact hp _
  ·exact hp _
  ·exact oC (by omega)
  exact oC (by omega)
 ·refine vw _ _ (λw hw=>?_) (by simp);simp at hw
  rcases hw with rfl|rfl
  ·exact hp _
  exact hp _
 ·refine vw _ _ (λw hw=>?_) (by simp);simp at hw
  subst hw;exact hp _
 refine vw _ _ (λw hw=>?_) (by simp);simp at hw
 subst hw;exact hp _
theorem LP{c:aS}(h:(cG c).1=0):((c.aw.flatMap fh).flatMap (λx=>x++[10])).length<=400000000:=by
 have hc:=yS h;have hs:=Gn h;have h1:=A6 _ 122 _ (λe he=>(Gp (hc.aw e he) (hs e he)).1);have h2:=A6 (λx:Bs=>x++[10]) 63 (c.aw.flatMap fh) (λl hl=>by
  obtain⟨e,he,hl⟩:=rT.1 hl;have:=(Gp (hc.aw e he) (hs e he)).2 l hl;simp
  omega)
 have h3:=hc.many;have h4:c.aw.length*122<=8*122:=AV _ h3;have h5:(c.aw.flatMap _).length*63<=8*122*63:=AV _ (bw h1 h4);omega
theorem LQ{l1 l2:ic}(G1:lB l1)(G2:lB l2)(ak:List ByteArray)(w:Bs):(l1 ak w).isSome=(l2 ak w).isSome:=by
 cases h1:l1 ak w with
 |none=>
  cases h2:l2 ak w with
  |none=>rfl
  |some j=>obtain⟨p,e,hb⟩:=G2.hit _ _ _ h2;exact absurd hb (G1.Ge _ _ h1 p (cM e))
 |some i=>
  cases h2:l2 ak w with
  |none=>obtain⟨p,e,hb⟩:=G1.hit _ _ _ h1;exact absurd hb (G2.Ge _ _ h2 p (cM e))
  |some j=>rfl
theorem Ur{l1 l2:ic}(G1:lB l1)(G2:lB l2){ak:List ByteArray}(hn:ak.Nodup):l1 ak=l2 ak:=by
 funext w
 have hc:=LQ G1 G2 ak w
 cases h1:l1 ak w with
 |none=>rw[h1]at hc;cases h2:l2 ak w with
  |none=>rfl
  |some j=>rw[h2]at hc;cases hc
 |some i=>
  cases h2:l2 ak w with
  |none=>rw[h1,h2]at hc;cases hc
  |some j=>
   obtain⟨p,e,hb⟩:=G1.hit _ _ _ h1;obtain⟨q,f,hb2⟩:=G2.hit _ _ _ h2;rw[LG hn e f (lC (hb.trans hb2.symm))]
theorem Us{a b:Bs->Option Nat}(h:∀w,(a w).isSome=(b w).isSome)(f:Nat)(w:Bs):(bF a f w).1=(bF b f w).1:=by
 unfold bF
 split
 ·rfl
 split
 ·rfl
 ·rfl
 have:=h w
 cases h1:a w<;>cases h2:b w<;>simp_all
theorem LR{a b:Bs->Option Nat}(h:∀w,(a w).isSome=(b w).isSome):∀(fs:List Nat) (ws:List Bs) (nn:Bool),(aY a nn fs ws).1=(aY b nn fs ws).1
 |[],[],nn=>by simp[aY]
 |[],_::_,nn=>by simp[aY]
 |_::_,[],nn=>by simp[aY]
 |f::fs,w::ws,nn=>by
  rw[aY,aY,Us h f w]
  split
  ·rfl
  exact LR h fs ws _
theorem A7{a b:Bs->Option Nat}:∀(fs:List Nat) (ws:List Bs) (nn:Bool),(∀f∈fs,f≠2)->(∀f∈fs,f<3)->aY a nn fs ws=aY b nn fs ws
 |[],[],nn,_,_=>by simp[aY]
 |[],_::_,nn,_,_=>by simp[aY]
 |_::_,[],nn,_,_=>by simp[aY]
 |f::fs,w::ws,nn,h2,h3=>by
  have hw:bF a f w=bF b f w:=by
   have e2:=h2 f (by simp);have e3:=h3 f (by simp)
   match f with
   |0=>rfl
   |1=>rfl
   |2=>exact absurd rfl e2
   |f+3=>omega
  rw[aY,aY,hw];rw[A7 (a:=a) (b:=b) fs ws _ (λf hf=>h2 f (by simp[hf])) (λf hf=>h3 f (by simp[hf]))]
structure tK(e f:aF):Prop where
 name:e.name=f.name
 aJ:e.aJ=f.aJ
 ak:e.ak=f.ak
 aB:e.aB.length=f.aB.length
 aA:e.aA.length=f.aA.length
 first:e.first.length=f.first.length
 last:e.last.length=f.last.length
 same:dO [] e.ak=0->e=f
theorem tK.refl(e:aF):tK e e:=⟨rfl,rfl,rfl,rfl,rfl,rfl,rfl,λ_=>rfl⟩
def oD:List aF->List aF->Prop
 |[],[]=>True
 |a::s,b::t=>tK a b/\oD s t
 |[],_::_=>False
 |_::_,[]=>False
theorem oD.snoc:∀{s t:List aF} {a b:aF},oD s t->tK a b->oD (s++[a]) (t++[b])
 |[],[],_,_,_,h=>⟨h,trivial⟩
 |_::_,_::_,_,_,h,h2=>⟨h.1,oD.snoc h.2 h2⟩
 |[],_::_,_,_,h,_=>h.elim
 |_::_,[],_,_,h,_=>h.elim
theorem oD.cases:∀{s t:List aF},oD s t->(s=[]/\t=[])\/∃s' a t' b,s=s'++[a]/\t=t'++[b]/\oD s' t'/\tK a b
 |[],[],_=>a_ ⟨rfl,rfl⟩
 |a::s,b::t,h=>by
  rcases oD.cases h.2 with⟨rfl,rfl⟩|⟨s',a',t',b',rfl,rfl,h1,h2⟩
  ·exact aP ⟨[],a,[],b,rfl,rfl,trivial,h.1⟩
  exact aP ⟨a::s',a',b::t',b',rfl,rfl,⟨h.1,h1⟩,h2⟩
 |[],_::_,h=>h.elim
 |_::_,[],h=>h.elim
theorem oD.length:∀{s t:List aF},oD s t->s.length=t.length
 |[],[],_=>rfl
 |_::_,_::_,h=>by simp[oD.length h.2]
 |[],_::_,h=>h.elim
 |_::_,[],h=>h.elim
structure A8(c d:aS):Prop where
 closed:c.closed=d.closed
 opn:c.opn=d.opn
 cycle:c.cycle=d.cycle
 bC:c.bC=d.bC
 aw:oD c.aw d.aw
theorem LS:∀(l a:List ByteArray) (p:ByteArray),dO a (l++[p])=0->dO a l=0
 |[],_,_,_=>rfl
 |x::l,a,p,h=>by
  rw[px,dO]at h;rw[dO]
  split at h
  ·rename_i h0;rw[aR h0];exact LS l _ p h
  rename_i h0;exact absurd h h0
theorem Ut{l1 l2:ic}(G1:lB l1)(G2:lB l2){e f:aF}(h:tK e f)(k:Nat)(h4:4<=k)(h10:k<10)(ws:List Bs):tK (jQ k ws (aY (l1 e.ak) false (form k) ws).2 e) (jQ k ws (aY (l2 f.ak) false (form k) ws).2 f):=by
 have hs:dO [] e.ak=0->e=f/\l1 e.ak=l2 f.ak:=λh0=>by
  refine⟨h.same h0,?_⟩;rw[<- h.ak];exact Ur G1 G2 (Gf _ _ h0).2
 match k,h4,h10 with
 |4,_,_=>
  refine⟨h.name,h.aJ,by simp only[jQ];rw[h.ak],h.aB,h.aA,h.first,h.last,λh0=>?_⟩;obtain⟨e1,e2⟩:=hs (LS _ _ _ h0);rw[e2,e1]
 |5,_,_=>exact⟨h.name,h.aJ,h.ak,h.aB,h.aA,h.first,h.last,λh0=>by obtain⟨e1,e2⟩:=hs h0;rw[e2,e1]⟩
 |6,_,_=>exact⟨h.name,h.aJ,h.ak,by simp[jQ,h.aB],h.aA,h.first,h.last,λh0=>by obtain⟨e1,e2⟩:=hs h0;rw[e2,e1]⟩
 |7,_,_=>exact⟨h.name,h.aJ,h.ak,h.aB,by simp[jQ,h.aA],h.first,h.last,λh0=>by obtain⟨e1,e2⟩:=hs h0;rw[e2,e1]⟩
 |8,_,_=>exact⟨h.name,h.aJ,h.ak,h.aB,h.aA,by simp[jQ,h.first],h.last,λh0=>by obtain⟨e1,e2⟩:=hs h0;rw[e2,e1]⟩
 |9,_,_=>exact⟨h.name,h.aJ,h.ak,h.aB,h.aA,h.first,by simp[jQ,h.last],λh0=>by obtain⟨e1,e2⟩:=hs h0;rw[e2,e1]⟩
theorem Uu{l1 l2:ic}(G1:lB l1)(G2:lB l2){a b:RS}(hl:a.last=b.last)(hc:A8 a.cfg b.cfg)(l:Bs):(ez l1 a l).1=(ez l2 b l).1/\((ez l1 a l).1=0->(ez l1 a l).2.last=(ez l2 b l).2.last/\A8 (ez l1 a l).2.cfg (ez l2 b l).2.cfg):=by
 unfold ez
 cases bW 32 l with
 |nil=>exact⟨rfl,λh=>by simp at h⟩
 |cons h ws=>
  simp only[jo]
  cases hk:kindOf h with
  |none=>exact⟨rfl,λh=>by simp at h⟩
  |some k=>
   obtain⟨-,kY⟩:=A0 hk;simp only;rw[hl]
   split
   ·exact⟨rfl,λh=>by simp at h⟩
   have hp:bO a.cfg.aw=bO b.cfg.aw:=by
    rcases hc.aw.cases with⟨e1,e2⟩|⟨s,x,t,y,e1,e2,-,hr⟩
    ·rw[e1,e2]
    rw[e1,e2,A4,A4,hr.ak]
   have cA:=LR (λw=>LQ G1 G2 (bO a.cfg.aw) w) (form k) ws false;rw[hp]at cA⊢;rw[cA]
   split
   ·refine⟨rfl,λ_=>⟨rfl,?_⟩⟩;simp only
    match k,kY with
    |0,_=>rw[A7 (a:=l1 _) (b:=l2 (bO b.cfg.aw)) _ ws _ (by decide) (by decide)];exact⟨rfl,rfl,hc.cycle,hc.bC,hc.aw⟩
    |1,_=>rw[A7 (a:=l1 _) (b:=l2 (bO b.cfg.aw)) _ ws _ (by decide) (by decide)];exact⟨hc.closed,hc.opn,rfl,hc.bC,hc.aw⟩
    |2,_=>rw[A7 (a:=l1 _) (b:=l2 (bO b.cfg.aw)) _ ws _ (by decide) (by decide)];exact⟨hc.closed,hc.opn,hc.cycle,rfl,hc.aw⟩
    |3,_=>rw[A7 (a:=l1 _) (b:=l2 (bO b.cfg.aw)) _ ws _ (by decide) (by decide)];exact⟨hc.closed,hc.opn,hc.cycle,hc.bC,hc.aw.snoc (tK.refl _)⟩
    |k+4,kY=>
     refine⟨hc.closed,hc.opn,hc.cycle,hc.bC,?_⟩;simp only[ed]
     rcases hc.aw.cases with⟨e1,e2⟩|⟨s,x,t,y,e1,e2,hst,hr⟩
     ·rw[e1,e2];exact trivial
     rw[e1,e2,pD,pD,A4,<- hr.ak];have:=Ut G1 G2 hr _ (by omega) kY ws;rw[<- hr.ak]at this;exact hst.snoc this
   rename_i hne;exact⟨rfl,λh=>absurd h hne⟩
theorem LU{l1 l2:ic}(G1:lB l1)(G2:lB l2):∀(ls:List Bs) (i:Nat) (a b:RS),a.last=b.last->A8 a.cfg b.cfg ->
  (ct l1 i a ls).1=(ct l2 i b ls).1/\((ct l1 i a ls).1.1=0->A8 (ct l1 i a ls).2.cfg (ct l2 i b ls).2.cfg)
 |[],i,a,b,hl,hc=>by
  unfold ct;rw[hl]
  split
  ·exact⟨rfl,λh=>by simp at h⟩
  exact⟨rfl,λ_=>hc⟩
 |l::ls,i,a,b,hl,hc=>by
  obtain⟨h1,h2⟩:=Uu G1 G2 hl hc l;unfold ct;rw[<- h1]
  split
  ·rename_i h0;obtain⟨h3,h4⟩:=h2 h0;exact LU G1 G2 ls _ _ _ h3 h4
  rename_i h0;exact⟨rfl,λh=>absurd h h0⟩
theorem Uv{e f:aF}(h:tK e f)(a:List ByteArray):cx a e=cx a f/\(cx a e=0->e=f):=by
 have hs:iW e=iW f:=by unfold iW;rw[h.aJ,h.ak,h.aB,h.aA,h.first,h.last]
 refine⟨?_,λh0=>h.same (Gg h0).2.2.1⟩
 by_cases h0:dO [] e.ak=0
 ·rw[h.same h0]
 unfold cx;rw[<- h.name,<- hs,<- h.ak];simp only[ne_eq,h0,not_false_eq_true,if_true]
theorem LV:∀{s t:List aF},oD s t->∀(a:List ByteArray) (i:Nat),iX a i s=iX a i t/\((iX a i s).1=0->s=t)
 |[],[],_,_,_=>⟨rfl,λ_=>rfl⟩
 |x::s,y::t,h,a,i=>by
  obtain⟨h1,h2⟩:=Uv h.1 a;obtain⟨h3,h4⟩:=LV h.2 (a++[x.name]) (i+1);unfold iX;rw[<- h1,<- h.1.name,<- h3]
  split
  ·rename_i h0;exact⟨rfl,λhz=>by rw[h2 h0,h4 hz]⟩
  rename_i h0;exact⟨rfl,λhz=>absurd hz h0⟩
 |[],_::_,h,_,_=>h.elim
 |_::_,[],h,_,_=>h.elim
theorem Uw{c d:aS}(h:A8 c d):cG c=cG d/\((cG c).1=0->c=d):=by
 have hw:gQ c=gQ d:=by unfold gQ;rw[h.closed,h.opn,h.cycle,h.bC,h.aw.length]
 obtain⟨h1,h2⟩:=LV h.aw [] 0;unfold cG;rw[<- hw,<- h1]
 split
 ·refine⟨rfl,λhz=>?_⟩;have he:=h2 hz;obtain⟨_,_,_,_,_⟩:=c;obtain⟨_,_,_,_,_⟩:=d;obtain⟨e1,e2,e3,e4,-⟩:=h;simp only at e1 e2 e3 e4 he;subst e1 e2 e3 e4 he;rfl
 rename_i h0;exact⟨rfl,λhz=>absurd hz h0⟩
theorem Ux{l1 l2:ic}(G1:lB l1)(G2:lB l2)(s:Bs):cW l1 s=cW l2 s:=by
 obtain⟨h1,h2⟩:=LU G1 G2 (bW 10 (trim s)) 0 _ ⟨-1,cE⟩ rfl ⟨rfl,rfl,rfl,rfl,trivial⟩;unfold cW
 split
 ·rfl
 rw[<- h1]
 split
 ·rename_i h0;obtain⟨h3,h4⟩:=Uw (h2 h0);rw[<- h3]
  split
  ·rename_i hz;rw[h4 hz]
  rfl
 rfl
end Go.Proofs.YtgmfhkjghmdgiaaGreatDoor
