/-
  Several texts as one: CfPure, CfText, ERow, GaPure, FlPure, TotPure, CfRead, CfBack, CfLen.
-/
import Derived.Test.YtgjlihibabmgcaaGreatDoorProg
set_option linter.all false
abbrev ar:=@of_decide_eq_true
abbrev bq.{u}:=@List.getElem?_eq_getElem.{u}
abbrev aR:=@Nat.le_refl
abbrev bP.{u}:=@List.mem_of_getElem?.{u}
abbrev bp:=@Nat.le_trans
abbrev df.{u}:=@List.getElem?_eq_some_iff.{u}
abbrev bA:=@Nat.zero_le
abbrev aK.{u}:=@if_neg.{u}
abbrev bV:=@decide_eq_false
abbrev cY.{u}:=@List.length_append.{u}
abbrev aN:=@Or.inr
abbrev fp.{u}:=@List.getD_eq_getElem?_getD.{u}
abbrev aT:=@Or.inl
abbrev aU.{u}:=@if_pos.{u}
abbrev dJ.{u}:=@Option.some.injEq.{u}
abbrev eI.{u}:=@List.take_add_one.{u}
abbrev eQ.{u}:=@List.length_take.{u}
abbrev kV.{u}:=@List.eq_nil_of_length_eq_zero.{u}
abbrev jX.{u}:=@List.getElem?_append_right.{u}
abbrev iM.{u}:=@List.take_of_length_le.{u}
abbrev gh.{u}:=@List.append_assoc.{u}
abbrev jb.{u}:=@List.getElem?_eq_none.{u}
abbrev ly.{u}:=@List.getElem?_append_left.{u}
abbrev lX.{u}:=@List.drop_eq_getElem_cons.{u}
abbrev fe.{u}:=@List.mem_cons.{u}
abbrev kW.{u}:=@List.length_singleton.{u}
abbrev fF:=@Nat.lt_or_ge
abbrev iE.{u,v}:=@List.length_map.{u,v}
abbrev jY.{u}:=@List.any_eq_false.{u}
abbrev jL.{u}:=@List.not_mem_nil.{u}
abbrev kD.{u}:=@List.any_eq_true.{u}
abbrev lY.{u}:=@List.length_cons.{u}
abbrev mD.{u,v}:=@List.flatMap_cons.{u,v}
abbrev nQ.{u}:=@List.mem_cons_self.{u}
abbrev pj.{u}:=@Array.length_toList.{u}
abbrev rO.{u}:=@List.mem_cons_of_mem.{u}
abbrev pY.{u}:=@List.cons_append.{u}
abbrev pk.{u}:=@List.append_nil.{u}
abbrev pq:=@List.mem_range
abbrev qN.{u}:=@List.mem_append.{u}
abbrev nS.{u,v}:=@List.mem_map.{u,v}
abbrev uW:=@decide_eq_true_eq
abbrev uX:=@Bool.not_eq_true
abbrev uY:=@Bool.and_eq_true
abbrev qO.{u,v}:=@List.map_cons.{u,v}
abbrev tB.{u,v}:=@List.mem_flatMap.{u,v}
abbrev uZ.{u}:=@List.getElem_mem.{u}
abbrev u5.{u}:=@List.all_eq_true.{u}
abbrev rP:=@Int.le_refl
abbrev wZ:=@Bool.or_false
abbrev CM:=@Nat.mul_le_mul_right
abbrev nh.{u,v}:=@congrArg.{u,v}
abbrev yB.{u}:=@List.nil_append.{u}
abbrev CN.{u}:=@List.set_append_right.{u}
abbrev yC.{u}:=@List.any_cons.{u}
abbrev AK.{u}:=@List.any_append.{u}
open Option renaming none→I,some→J
open Go.Proofs.Tryz
namespace Go.Proofs.YtgjlihibabmgcaaGreatDoor
variable{a:List ByteArray}{b:ByteArray}{cyc n p x:Int}{f i k u:Nat}{fs:List Nat}{vs:List Int}
structure eT where
 fr:Int
 to:Int
 mn:Int
 mx:Int
variable{g:eT}
structure aM where
 name:ByteArray
 bh:Int
 au:List ByteArray
 cnt:Int
 mn:Int
 mx:Int
 aV:List eT
 aP:List (Int×Int)
 first:List Int
 last:List Int
variable{e:aM}
structure aX where
 closed:Int
 opn:Int
 cycle:Int
 bE:Int
 az:List aM
variable{c:aX}
def mE(b:UInt8):Bool:=decide (97<=b.toNat)&&decide (b.toNat<=122)
def iN(b:UInt8):Bool:=decide (48<=b.toNat)&&decide (b.toNat<=57)
def gL(b:UInt8):Bool:=mE b||iN b||decide (b.toNat=45)
def isName(s:ByteArray):Bool:=decide (1<=s.size)&&decide (s.size<=12)&&mE (s.data.getD 0 0)&&s.data.toList.all gL
def dK:List (Bool×Nat)->Nat
 |[]=>0
 |(b,c)::t=>if b then c else dK t
def within(n a b:Int):Bool:=decide (a<=n)&&decide (n<=b)
def lacks(n:Nat)(x:Int):Bool:=decide (x<0)||decide ((n:Int)<=x)
def iq(a b c d:Int):Bool:=decide (a<=b)&&decide (b<=c)&&decide (c<=d)
def twice{α:Type} [DecidableEq α] (l:List α):Bool:=(List.range l.length).any λi=>match l[i]? with
 |some x=>(l.take i).any λy=>decide (x=y)
 |none=>false
def dP(ahead:List ByteArray)(s:ByteArray):Nat:=if isName s then (if ahead.any (λx=>decide (x=s))then 6 else 0)else 4
def jZ(e:aM):Nat:=dK [(!within e.bh 0 20,2),(decide (16<e.au.length),2),(decide (8<e.aV.length),2),(decide (64<e.aP.length),2),(decide (16<e.first.length),2),(decide (16<e.last.length),2)]
def pZ(e:aM):Nat:=dK [
 (decide (e.cnt≠-1)&&lacks e.au.length e.cnt,5),
 (e.aV.any λg=>lacks e.au.length g.fr||lacks e.au.length g.to,5),
 (e.aP.any λd=>lacks e.au.length d.1||lacks e.au.length d.2,5),
 (e.first.any λx=>lacks e.au.length x,5),
 (e.last.any λx=>lacks e.au.length x,5),
 (decide (e.cnt=-1)&&(decide (e.mn≠0)||decide (e.mx≠0)),3),
 (!iq 0 e.mn e.mx 999,2),
 (e.aV.any λg=>!iq 0 g.mn g.mx 1099511627776,2),
 (twice e.aP,6),(twice e.first,6),(twice e.last,6),
 (decide (0<e.aP.length)&&decide (e.first.length=0),3),
 (decide (e.aP.length=0)&&decide (0<e.first.length+e.last.length),3)]
def eM:List ByteArray->List ByteArray->Nat
 |_,[]=>0
 |a,p::t=>if dP a p=0 then eM (a++[p]) t else dP a p
def cD(ahead:List ByteArray)(e:aM):Nat:=
 if dP ahead e.name≠0 then dP ahead e.name else if jZ e≠0 then jZ e else if eM [] e.au≠0 then eM [] e.au else pZ e
def iO(c:aX):Nat:=dK [(!(within c.closed 0 1000&&within c.opn 1 1000),2),(!within c.cycle 1 100,2),(!within c.bE 0 20,2),(decide (8<c.az.length),2),(decide (c.opn<c.cycle),3)]
def kE:List ByteArray->Nat->List aM->Nat×Int
 |_,_,[]=>(0,-1)
 |a,i,e::t=>if cD a e=0 then kE (a++[e.name]) (i+1) t else (cD a e,(i:Int))
def cJ(c:aX):Nat×Int:=if iO c=0 then kE [] 0 c.az else (iO c,-1)
abbrev Bs:=List UInt8
variable{w:Bs}{ws:List Bs}
def bl(b:ByteArray):Bs:=b.data.toList
def kw:Nat->Bs
 |0=>[119,105,110,100,111,119]
 |1=>[99,121,99,108,101]
 |2=>[100,101,108,97,121]
 |3=>[101,110,116,105,116,121]
 |4=>[112,111,105,110,116]
 |5=>[99,111,117,110,116]
 |6=>[103,97,112]
 |7=>[101,100,103,101]
 |8=>[102,105,114,115,116]
 |_=>[108,97,115,116]
def fx(u:Nat):Bs:=if h:u<10 then [UInt8.ofNat (48+u)]else fx (u / 10)++[UInt8.ofNat (48+u%10)]
def num(n:Int):Bs:=fx n.toNat
def a6(k:Nat)(ws:List Bs):Bs:=kw k++ws.flatMap (λw=>32::w)
def pt(au:List ByteArray)(x:Int):Bs:=bl (au.getD x.toNat ByteArray.empty)
def dD(e:aM):List Bs:=
 a6 3 [bl e.name,num e.bh]::(e.au.map (λp=>a6 4 [bl p])++((if e.cnt=-1 then []else [a6 5 [pt e.au e.cnt,num e.mn,num e.mx]]) ++
  (e.aV.map (λg=>a6 6 [pt e.au g.fr,pt e.au g.to,num g.mn,num g.mx])++(e.aP.map (λd=>a6 7 [pt e.au d.1,pt e.au d.2]) ++
   (e.first.map (λx=>a6 8 [pt e.au x])++e.last.map (λx=>a6 9 [pt e.au x]))))))
def oJ(c:aX):List Bs:=a6 0 [num c.closed,num c.opn]::a6 1 [num c.cycle]::a6 2 [num c.bE]::c.az.flatMap dD
def fK(c:aX):Bs:=(oJ c).flatMap (λl=>l++[10])
def eJ(c:UInt8):Bs->List Bs
 |[]=>[[]]
 |b::t=>if b=c then []::eJ c t else match eJ c t with
  |[]=>[[b]]
  |h::r=>(b::h)::r
def nT(c:UInt8)(h:Bs)(ws:List Bs):Bs:=h++ws.flatMap (λw=>c::w)
def Jm(c:UInt8)(t:Bs)(h:Bs)(r:List Bs)(e:eJ c t=h::r):∀w:Bs,c∉w->eJ c (w++t)=(w++h)::r:=by
 intro w
 induction w with
 |nil=>intro _;exact e
 |cons b w ih=>
  intro hw;simp only[fe,not_or]at hw;have:=ih hw.2;rw[pY,eJ,aK (Ne.symm hw.1),this];rfl
def OQ(c:UInt8)(w:Bs)(hw:c∉w):eJ c w=[w]:=by
 have:=Jm c [] [] [] rfl w hw;simpa using this
def Jn(c:UInt8):∀(ws:List Bs) (h:Bs),c∉h->(∀w∈ws,c∉w)->eJ c (nT c h ws)=h::ws:=by
 intro ws
 induction ws with
 |nil=>intro h hh _;simpa[nT]using OQ c h hh
 |cons x ws ih=>
  intro h hh hw;have e:=ih x (hw x (by simp)) (λw h=>hw w (by simp[h]));have e2:eJ c (c::nT c x ws)=[]::x::ws:=by rw[eJ,aU rfl,e]
  have:=Jm c _ _ _ e2 h hh;simpa[nT]using this
def Wz(h:Bs)(t:List Bs):(h::t).flatMap (λl=>l++[10])=nT 10 h t++[10]:=by
 induction t generalizing h with
 |nil=>simp[nT]
 |cons x t ih=>
  rw[mD,ih x];simp[nT]
def ni(w:Bs):Nat:=w.foldl (λn b=>n*10+(b.toNat-48)) 0
def numOf(w:Bs):Option Nat:=if w.length=0\/13<w.length\/(1<w.length/\w.head?=J 48)\/w.all iN=false then I else J (ni w)
def OS(w:Bs)(b:UInt8):ni (w++[b])=ni w*10+(b.toNat-48):=by simp[ni]
def CO(u:Nat)(h:u<10):(UInt8.ofNat (48+u)).toNat=48+u:=by simp;omega
def u6(h:u<10):fx u=[UInt8.ofNat (48+u)]:=by rw[fx,dif_pos h]
def Jo(h:¬u<10):fx u=fx (u / 10)++[UInt8.ofNat (48+u%10)]:=by rw[fx,dif_neg h]
def tC(u:Nat):ni (fx u)=u/\(fx u).all iN=true/\fx u≠[]/\(0<u->(fx u).head?≠J 48)/\∀k,u<10^(k+1)->(fx u).length<=k+1:=by
 induction u using Nat.strongRecOn with
 |ind u ih=>
  by_cases h:u<10
  ·rw[u6 h]
   refine⟨by simp only[ni,List.foldl_cons,List.foldl_nil,CO u h];omega,by simp only[List.all_cons,List.all_nil,iN,CO u h];simp;omega,by simp,λhu e=>?_,λk _=>by simp⟩;simp only[List.head?_cons,dJ]at e;have:=nh UInt8.toNat e;rw[CO u h]at this;have ann:(48:UInt8).toNat=48:=rfl;omega
  obtain⟨a,b,c,d,l⟩:=ih (u / 10) (by omega);have hd:=CO (u%10) (by omega);rw[Jo h]
  refine⟨by rw[OS,a,hd];omega,?_,by simp,λ_ e=>?_,λk hk=>?_⟩
  ·rw[List.all_append,b];simp only[List.all_cons,List.all_nil,iN,hd];simp;omega
  ·rw[List.head?_append]at e;have hne:=d (by omega)
   cases hh:(fx (u / 10)).head? with
   |none=>simp at hh;exact c hh
   |some x=>rw[hh]at e hne;exact hne (by simpa using e)
  cases k with
  |zero=>simp at hk;omega
  |succ k=>
   have:=l k (by rw[Nat.pow_succ]at hk;omega);simp;omega
def WA(u:Nat)(h:u<10000000000000):numOf (fx u)=J u:=by
 obtain⟨a,b,c,d,l⟩:=tC u;have l2:=l 12 (by simpa using h);unfold numOf;rw[aK,a];rintro(h1|h1|⟨h1,h2⟩|h1)
 ·exact c (kV h1)
 ·omega
 ·by_cases hu:u<10
  ·rw[u6 hu]at h1;simp at h1
  exact d (by omega) h2
 rw[b]at h1;cases h1
open Go
abbrev eR (e:aM) (pa:Option Addr) (pc:Nat) (ga:Option Addr) (gc:Nat) (ea:Option Addr) (ec:Nat) (fa:Option Addr) (fc:Nat) (la:Option Addr) (lc:Nat):Array Value:=#[.string e.name,.int .i64 e.bh,.slice pa e.au.length pc,.int .i64 e.cnt,.int .i64 e.mn,.int .i64 e.mx,.slice ga e.aV.length gc,.slice ea e.aP.length ec,.slice fa e.first.length fc,.slice la e.last.length lc]
abbrev cR (c:aX) (sa:Option Addr) (sc:Nat):Array Value:=#[.int .i64 c.closed,.int .i64 c.opn,.int .i64 c.cycle,.int .i64 c.bE,.slice sa c.az.length sc]
abbrev nR (nm:ByteArray) (bh:Int) (pa:Option Addr) (pn pc:Nat) (cnt mn mx:Int) (ga:Option Addr) (gn gc:Nat) (ea:Option Addr) (en ec:Nat) (fa:Option Addr) (fn fc:Nat) (la:Option Addr) (ln lc:Nat):Array Value:=#[.string nm,.int .i64 bh,.slice pa pn pc,.int .i64 cnt,.int .i64 mn,.int .i64 mx,.slice ga gn gc,.slice ea en ec,.slice fa fn fc,.slice la ln lc]
structure WG where
 g:eT
 t:Int
def WG.bears(x:WG)(tick:Int):Bool:=decide (x.t≠-1)&&(decide (x.g.mn<=tick-x.t)&&decide (tick-x.t<=x.g.mx))
def WG.bad(x:WG)(p tick:Int):Bool:=decide (p=x.g.to) && !x.bears tick
def WG.rep(x:WG)(p tick:Int):WG:=if p=x.g.fr then ⟨x.g,tick⟩else x
structure bX where
 xs:List WG
 bad:Bool
variable{s:bX}
def rQ(tick:Int):Bool:=decide (0<=tick)&&decide (tick<=1099511627776)
def bX.rep(s:bX)(p tick:Int):bX:=if rQ tick=true then ⟨s.xs.map (·.rep p tick),s.xs.any (·.bad p tick)||s.bad⟩else s
def bX.zero(s:bX):bX:=⟨s.xs,false⟩
def WG.new(g:eT):WG:=⟨g,-1⟩
def bX.new(l:List eT):bX:=⟨l.map WG.new,false⟩
def bX.upto(s:bX)(p tick:Int)(k:Nat):bX:=⟨(s.xs.take k).map (·.rep p tick)++s.xs.drop k,(s.xs.take k).any (·.bad p tick)||s.bad⟩
def bX.WB(s:bX)(p tick:Int):s.upto p tick 0=s:=by simp[bX.upto]
def bX.WC{tick:Int}(h:¬k<s.xs.length)(ht:rQ tick=true):s.upto p tick k=s.rep p tick:=by
 unfold bX.upto bX.rep;rw[iM (by omega),List.drop_of_length_le (by omega),pk,aU ht]
def bX.WD(s:bX)(p tick:Int)(k:Nat):(s.upto p tick k).xs.length=s.xs.length:=by simp[bX.upto];omega
def bX.OT{tick:Int}{x:WG}(h:s.xs[k]?=J x):(s.upto p tick k).xs[k]?=J x:=by
 have hk:k<s.xs.length:=by
  rcases fF k s.xs.length with h'|h'
  ·exact h'
  rw[jb h']at h;cases h
 show ((s.xs.take k).map _++s.xs.drop k)[k]?=_
 rw[jX (by simp[eQ];omega)];simp[Nat.min_eq_left (Nat.le_of_lt hk),h]
def bX.WE{p tick:Int}{x:WG}(h:s.xs[k]?=J x):s.upto p tick (k+1)=⟨(s.upto p tick k).xs.set k (x.rep p tick),x.bad p tick||(s.upto p tick k).bad⟩:=by
 have hk:k<s.xs.length:=by
  rcases fF k s.xs.length with h'|h'
  ·exact h'
  rw[jb h']at h;cases h
 have e1:s.xs.take (k+1)=s.xs.take k++[x]:=by
  rw[eI,h];rfl
 have e2:s.xs.drop k=x::s.xs.drop (k+1):=by
  rw[lX hk];rw[bq hk]at h
  cases h;rfl
 unfold bX.upto;simp only[bX.mk.injEq]
 constructor
 ·rw[e1,e2,CN _ _ (by simp[eQ];omega)];simp[Nat.min_eq_left (Nat.le_of_lt hk)]
 rw[e1,AK];simp only[yC,List.any_nil,wZ]
 cases x.bad p tick<;>cases (s.xs.take k).any (·.bad p tick)<;>cases s.bad<;>rfl
structure b_ where
 pt:Int
 tick:Int
 cyc:Int
variable{l:List b_}{m:b_}
def p_(fr:Int)(l:List b_):Int:=l.foldl (λa m=>if m.pt=fr then m.tick else a) (-1)
def Jp(fr:Int)(l:List b_)(m:b_):p_ fr (l++[m])=if m.pt=fr then m.tick else p_ fr l:=by
 unfold p_;rw[List.foldl_append];rfl
def AL(g:eT)(l:List b_)(m:b_):Bool:=(WG.mk g (p_ g.fr l)).bad m.pt m.tick
def kF(g:eT)(l:List b_)(cyc:Int)(i:Nat):Bool:=match l[i]? with
 |some m=>decide (m.cyc=cyc)&&AL g (l.take i) m
 |none=>false
def kG(g:eT)(l:List b_)(cyc:Int):Bool:=(List.range l.length).any (kF g l cyc)
def Jq(hk:k<l.length)(h:kF g l cyc k=true):kG g l cyc=true:=by
 unfold kG;rw[kD];exact⟨k,by simpa using hk,h⟩
def OU(h:∀k,k<l.length->kF g l cyc k=false):kG g l cyc=false:=by
 unfold kG;rw[jY];intro k hk;rw[h k (by simpa using hk)];simp
def Jr(g:eT)(l:List b_)(m:b_)(cyc:Int)(hm:m.cyc=cyc):kG g (l++[m]) cyc=(AL g l m||kG g l cyc):=by
 have e:kF g (l++[m]) cyc l.length=AL g l m:=by
  unfold kF;simp[hm]
 have e2:∀k,k<l.length->kF g (l++[m]) cyc k=kF g l cyc k:=λk hk=>by
  unfold kF;rw[ly hk,List.take_append_of_le_length (by omega)]
 unfold kG;rw[cY,show [m].length=1 from rfl,List.range_succ,AK];simp only[yC,List.any_nil,wZ,e];rw[Bool.or_comm];congr 1
 rw[Bool.eq_iff_iff];simp only[kD,pq]
 constructor
 ·rintro⟨k,hk,h⟩;exact⟨k,hk,by rwa [e2 k hk]at h⟩
 rintro⟨k,hk,h⟩;exact⟨k,hk,by rwa [e2 k hk]⟩
def WH(h:∀m∈l,m.cyc<cyc):kG g l cyc=false:=by
 refine OU λk hk=>?_
 unfold kF;rw[bq hk];have:=h _ (uZ hk);simp only;rw[bV (by omega)];rfl
def tD(gs:List eT)(l:List b_)(cyc:Int):bX:=⟨gs.map (λg=>⟨g,p_ g.fr l⟩),gs.any (λg=>kG g l cyc)⟩
def WI(gs:List eT):bX.new gs=tD gs [] 0:=by
 unfold bX.new tD;simp only[bX.mk.injEq]
 refine⟨rfl,?_⟩;symm;rw[jY];intro g _;simp[kG]
def WJ(gs:List eT)(l:List b_)(cyc p tick:Int)(ht:rQ tick=true):(tD gs l cyc).rep p tick=tD gs (l++[⟨p,tick,cyc⟩]) cyc:=by
 unfold bX.rep tD;rw[aU ht];simp only[bX.mk.injEq,List.map_map]
 refine⟨List.map_congr_left λg _=>?_,?_⟩
 ·simp only[Function.comp,WG.rep,Jp]
  split<;>rfl
 rw[List.any_map,Bool.eq_iff_iff];simp only[Bool.or_eq_true,kD,Function.comp]
 constructor
 ·rintro(⟨g,hg,h⟩|⟨g,hg,h⟩)
  ·exact⟨g,hg,by rw[Jr _ _ _ _ rfl];simp[AL,h]⟩
  exact⟨g,hg,by rw[Jr _ _ _ _ rfl,h];simp⟩
 rintro⟨g,hg,h⟩;rw[Jr _ _ _ _ rfl,Bool.or_eq_true]at h
 rcases h with h|h
 ·exact aT ⟨g,hg,h⟩
 exact aN ⟨g,hg,h⟩
def OV{tick:Int}(ht:rQ tick=false):s.rep p tick=s:=by
 unfold bX.rep;rw[aK (by rw[ht];simp)]
def WK{gs:List eT}(h:∀m∈l,m.cyc<=cyc):(tD gs l cyc).zero=tD gs l (cyc+1):=by
 unfold bX.zero tD;simp only[bX.mk.injEq,true_and];symm;rw[jY];intro g _
 rw[WH (λm hm=>by have:=h m hm;omega)];simp
def OW{fr:Int}(WL:k<=i)(hi:i<=l.length)(h:∀j m,k<=j->j<i->l[j]?=J m->m.pt≠fr):p_ fr (l.take i)=p_ fr (l.take k):=by
 induction i with
 |zero=>rw[show k=0 by omega]
 |succ n ih=>
  rcases fF n k with h1|h1
  ·rw[show k=n+1 by omega]
  have hn:n<l.length:=by omega
  rw[eI,bq hn];show p_ fr (l.take n++[l[n]])=_
  rw[Jp,aK (h n _ h1 (by omega) (bq hn))];exact ih h1 (by omega) (λj m a b c=>h j m a (by omega) c)
def WM{fr:Int}(hi:i<=l.length)(h:∀j m,0<=j->j<i->l[j]?=J m->m.pt≠fr):p_ fr (l.take i)=-1:=by
 rw[OW (bA i) hi h];rfl
def WN{fr:Int}(WL:k<i)(hi:i<=l.length)(h:∀j m,k+1<=j->j<i->l[j]?=J m->m.pt≠fr)(hk:l[k]?=J m)(hm:m.pt=fr):p_ fr (l.take i)=m.tick:=by
 rw[OW (k:=k+1) (by omega) hi h,eI,hk];show p_ fr (l.take k++[m])=_
 rw[Jp,aU hm]
def bX.fit(s:bX):Prop:=∀x∈s.xs,-1<=x.t/\x.t<=1099511627776
def bX.ano(h:s.fit)(p tick:Int):(s.rep p tick).fit:=by
 unfold bX.rep
 split
 ·rename_i ht;intro x hx;simp only[nS]at hx;obtain⟨y,hy,rfl⟩:=hx;unfold WG.rep
  split
  ·simp[rQ]at ht
   exact⟨by show -1<=tick;omega,by show tick<=_;omega⟩
  exact h y hy
 exact h
def bX.WO(l:List eT):(bX.new l).fit:=by
 intro x hx;simp only[bX.new,nS]at hx;obtain⟨y,_,rfl⟩:=hx;exact⟨by show (-1:Int)<=-1;decide,by show (-1:Int)<=_;decide⟩
def fq(e:aM)(p:Int):Bool:=decide (0<=p)&&decide (p<(e.au.length:Int))
def iu(e:aM)(ah p:Int):Bool:=decide (e.aP=[])||(fq e p&&(if ah=-1 then decide (p∈e.first)else decide ((ah,p)∈e.aP)))
def jc(e:aM)(p:Int):Int:=if fq e p=true/\p∉e.last then p else -1
structure jd where
 ah:Int
 bad:Bool
def jd.rep(e:aM)(s:jd)(p:Int):jd:=⟨jc e p,s.bad || !iu e s.ah p⟩
def jd.zero(s:jd):jd:=⟨s.ah,false⟩
def OX(e:aM)(p:Int):jc e p=-1\/(0<=jc e p/\jc e p<(e.au.length:Int)):=by
 unfold jc
 split
 ·rename_i h;right
  have:=h.1;unfold fq at this;simp at this
  exact this
 exact aT rfl
def jw(e:aM)(l:List b_):Int:=match l.getLast? with
 |some m=>jc e m.pt
 |none=>-1
def OY(e:aM)(l:List b_)(m:b_):jw e (l++[m])=jc e m.pt:=by unfold jw;simp
def WQ(h:l[k]?=J m):jw e (l.take (k+1))=jc e m.pt:=by
 rw[eI,h];exact OY e _ m
def WR(e:aM)(l:List b_):jw e l=-1\/(0<=jw e l/\jw e l<(e.au.length:Int)):=by
 unfold jw
 split
 ·exact OX e _
 exact aT rfl
def Js(e:aM)(l:List b_)(m:b_):Bool:=!iu e (jw e l) m.pt
def nj(e:aM)(l:List b_)(cyc:Int)(i:Nat):Bool:=match l[i]? with
 |some m=>decide (m.cyc=cyc)&&Js e (l.take i) m
 |none=>false
def nk(e:aM)(l:List b_)(cyc:Int):Bool:=(List.range l.length).any (nj e l cyc)
def WS(hk:k<l.length)(h:nj e l cyc k=true):nk e l cyc=true:=by
 unfold nk;rw[kD];exact⟨k,by simpa using hk,h⟩
def OZ(h:∀k,k<l.length->nj e l cyc k=false):nk e l cyc=false:=by
 unfold nk;rw[jY];intro k hk;rw[h k (by simpa using hk)];simp
def WT(e:aM)(l:List b_)(m:b_)(cyc:Int)(hm:m.cyc=cyc):nk e (l++[m]) cyc=(nk e l cyc||Js e l m):=by
 have e1:nj e (l++[m]) cyc l.length=Js e l m:=by
  unfold nj;simp[hm]
 have e2:∀k,k<l.length->nj e (l++[m]) cyc k=nj e l cyc k:=λk hk=>by
  unfold nj;rw[ly hk,List.take_append_of_le_length (by omega)]
 unfold nk;rw[cY,show [m].length=1 from rfl,List.range_succ,AK];simp only[yC,List.any_nil,wZ,e1];congr 1
 rw[Bool.eq_iff_iff];simp only[kD,pq]
 constructor
 ·rintro⟨k,hk,h⟩;exact⟨k,hk,by rwa [e2 k hk]at h⟩
 rintro⟨k,hk,h⟩;exact⟨k,hk,by rwa [e2 k hk]⟩
def WU(h:∀m∈l,m.cyc<cyc):nk e l cyc=false:=by
 refine OZ λk hk=>?_
 unfold nj;rw[bq hk];have:=h _ (uZ hk);simp only;rw[bV (by omega)];rfl
def tE(e:aM)(l:List b_)(cyc:Int):jd:=⟨jw e l,nk e l cyc⟩
def WV(e:aM):tE e [] 0=⟨-1,false⟩:=by simp[tE,jw,nk]
def WW(e:aM)(l:List b_)(cyc p t:Int):(tE e l cyc).rep e p=tE e (l++[⟨p,t,cyc⟩]) cyc:=by
 unfold jd.rep tE;rw[OY,WT _ _ _ _ rfl];rfl
def WX(h:∀m∈l,m.cyc<=cyc):(tE e l cyc).zero=tE e l (cyc+1):=by
 unfold jd.zero tE;rw[WU (cyc:=cyc+1) (λm hm=>by have:=h m hm;omega)]
structure bG where
 bE:Nat
 since:Nat
 st:Nat
def qa:ByteArray:=⟨#[102,97,105,108,101,100]⟩
def lA:ByteArray:=⟨#[101,120,112,105,114,101,100]⟩
def dE:Nat->ByteArray
 |0=>⟨#[111,107]⟩
 |1=>qa
 |2=>lA
 |_=>⟨#[115,116,111,112,112,101,100]⟩
def hasB(l:List ByteArray)(x:ByteArray):Bool:=l.any λy=>decide (y=x)
def gC(l:List ByteArray):Nat:=if hasB l lA=true then 2 else if hasB l qa=true then 1 else 0
def bG.new(d:Nat):bG:=⟨d,0,0⟩
def bG.cut(s:bG):bG:=if s.st=2/\s.since=s.bE then { s with st:=3 }else s
def bG.fin(s:bG)(l:List ByteArray):bG:=
 if s.st=3 then s else if s.st=2 then bG.cut ⟨s.bE,s.since+1,2⟩else bG.cut ⟨s.bE,0,gC l⟩
structure pw(s:bG)(k:Nat):Prop where
 d:s.bE<=20
 s0:s.since<=k
 lt:s.st=2->s.since<s.bE
 st:s.st<=3
 z:s.st<2->s.since=0
def O0(l:List ByteArray):gC l<=2:=by unfold gC;split;omega;split<;>omega
def pw.new{d:Nat}(h:d<=20):pw (bG.new d) 0:=⟨h,aR _,λe=>absurd e (show ¬(0:Nat)=2 by decide),bA _,λ_=>rfl⟩
def pw.fin{s:bG}(h:pw s k)(l:List ByteArray):pw (s.fin l) (k+1):=by
 unfold bG.fin
 split
 ·exact⟨h.d,bp h.s0 (by omega),h.lt,h.st,h.z⟩
 split
 ·rename_i h2;have h3:=h.lt h2;have h4:=h.s0;unfold bG.cut
  split
  ·exact⟨h.d,by show s.since+1<=_;omega,λe=>absurd e (show ¬(3:Nat)=2 by decide),aR 3,λe=>by have:(3:Nat)<2:=e;omega⟩
  rename_i h5;exact⟨h.d,by show s.since+1<=_;omega,λ_=>by show s.since+1<s.bE;simp only[true_and]at h5;omega,by show 2<=3;omega,λe=>by have:(2:Nat)<2:=e;omega⟩
 have hw:=O0 l;unfold bG.cut
 split
 ·exact⟨h.d,bA _,λe=>absurd e (show ¬(3:Nat)=2 by decide),aR 3,λe=>by have:(3:Nat)<2:=e;omega⟩
 rename_i h5;exact⟨h.d,bA _,λe=>by show 0<s.bE;have e':gC l=2:=e;simp only[e',true_and]at h5;omega,by show gC l<=3;omega,λ_=>rfl⟩
def behind(d i:Nat):bG:=if i<d then ⟨d,i,2⟩else ⟨d,d,3⟩
def form:Nat->List Nat
 |0=>[1,1]
 |1=>[1]
 |2=>[1]
 |3=>[0,1]
 |4=>[0]
 |5=>[2,1,1]
 |6=>[2,2,1,1]
 |7=>[2,2]
 |_=>[2]
def kindOf(w:Bs):Option Nat:=(List.range 10).find? (λk=>decide (kw k=w))
def may(last:Int)(k:Nat):Bool:=
 if k<=2 then decide (last=(k:Int)-1)else if k=3 then decide (2<=last)else if k=5 then decide (3<=last)&&decide (last<5)else decide (3<=last)&&decide (last<=(k:Int))
def bW(look:Bs->Option Nat)(f:Nat)(w:Bs):Nat×Int:=
 if w=[]then (1,0)else match f with
 |0=>(0,0)
 |1=>match numOf w with
  |some n=>(0,(n:Int))
  |none=>(1,0)
 |_=>match look w with
  |some n=>(0,(n:Int))
  |none=>(5,0)
def bB(look:Bs->Option Nat):Bool->List Nat->List Bs->Nat×List Int
 |nn,[],[]=>(if nn then 5 else 0,[])
 |nn,f::fs,w::ws=>if (bW look f w).1=1 then (1,[])else ((bB look (nn||decide ((bW look f w).1=5)) fs ws).1,(bW look f w).2::(bB look (nn||decide ((bW look f w).1=5)) fs ws).2)
 |_,[],_::_=>(1,[])
 |_,_::_,[]=>(1,[])
def tF(name:Bs)(bh:Int):aM:=⟨⟨name.toArray⟩,bh,[],-1,0,0,[],[],[],[]⟩
def CP(f:aM->aM):List aM->List aM
 |[]=>[]
 |[e]=>[f e]
 |x::y::t=>x::CP f (y::t)
def CQ(f:aM->aM):∀(es:List aM) (e:aM),CP f (es++[e])=es++[f e]
 |[],e=>rfl
 |[x],e=>rfl
 |x::y::t,e=>by
  have:=CQ f (y::t) e;simp only[pY]at this⊢;rw[CP,this]
def px(k:Nat)(ws:List Bs)(vs:List Int)(e:aM):aM:=match k with
 |4=>⟨e.name,e.bh,e.au++[⟨(ws.getD 0 []).toArray⟩],e.cnt,e.mn,e.mx,e.aV,e.aP,e.first,e.last⟩
 |5=>⟨e.name,e.bh,e.au,vs.getD 0 0,vs.getD 1 0,vs.getD 2 0,e.aV,e.aP,e.first,e.last⟩
 |6=>⟨e.name,e.bh,e.au,e.cnt,e.mn,e.mx,e.aV++[⟨vs.getD 0 0,vs.getD 1 0,vs.getD 2 0,vs.getD 3 0⟩],e.aP,e.first,e.last⟩
 |7=>⟨e.name,e.bh,e.au,e.cnt,e.mn,e.mx,e.aV,e.aP++[(vs.getD 0 0,vs.getD 1 0)],e.first,e.last⟩
 |8=>⟨e.name,e.bh,e.au,e.cnt,e.mn,e.mx,e.aV,e.aP,e.first++[vs.getD 0 0],e.last⟩
 |_=>⟨e.name,e.bh,e.au,e.cnt,e.mn,e.mx,e.aV,e.aP,e.first,e.last++[vs.getD 0 0]⟩
def iP(c:aX)(k:Nat)(ws:List Bs)(vs:List Int):aX:=match k with
 |0=>⟨vs.getD 0 0,vs.getD 1 0,c.cycle,c.bE,c.az⟩
 |1=>⟨c.closed,c.opn,vs.getD 0 0,c.bE,c.az⟩
 |2=>⟨c.closed,c.opn,c.cycle,vs.getD 0 0,c.az⟩
 |3=>⟨c.closed,c.opn,c.cycle,c.bE,c.az++[tF (ws.getD 0 []) (vs.getD 1 0)]⟩
 |k=>⟨c.closed,c.opn,c.cycle,c.bE,CP (px k ws vs) c.az⟩
def fy(l:List aM):List ByteArray:=match l.getLast? with
 |some e=>e.au
 |none=>[]
structure RS where
 last:Int
 cfg:aX
variable{st:RS}
abbrev lB:=List ByteArray->Bs->Option Nat
def rR(look:lB)(st:RS)(h:Bs)(ws:List Bs):Nat×RS:=match kindOf h with
 |none=>(1,st)
 |some k=>if may st.last k=false then (1,st)else if (bB (look (fy st.cfg.az)) false (form k) ws).1=0 then (0,⟨k,iP st.cfg k ws (bB (look (fy st.cfg.az)) false (form k) ws).2⟩)else ((bB (look (fy st.cfg.az)) false (form k) ws).1,st)
def jx(look:lB)(st:RS)(l:Bs):Nat×RS:=match eJ 32 l with
 |[]=>(1,st)
 |h::ws=>rR look st h ws
def eN(look:lB):Nat->RS->List Bs->(Nat×Int)×RS
 |i,st,[]=>if st.last<2 then ((1,(i:Int)),st)else ((0,-1),st)
 |i,st,l::ls=>if (jx look st l).1=0 then eN look (i+1) (jx look st l).2 ls else (((jx look st l).1,(i:Int)),st)
def trim(s:Bs):Bs:=if s.getLast?=J 10 then s.dropLast else s
def fA:aX:=⟨0,0,0,0,[]⟩
def gD(look:lB)(s:Bs):(Nat×Int)×aX:=
 if 8000<s.length then ((2,-1),fA)else
 if (eN look 0 ⟨-1,fA⟩ (eJ 10 (trim s))).1.1=0 then
  (if (cJ (eN look 0 ⟨-1,fA⟩ (eJ 10 (trim s))).2.cfg).1=0 then ((0,-1),(eN look 0 ⟨-1,fA⟩ (eJ 10 (trim s))).2.cfg)else (cJ (eN look 0 ⟨-1,fA⟩ (eJ 10 (trim s))).2.cfg,fA))
 else ((eN look 0 ⟨-1,fA⟩ (eJ 10 (trim s))).1,fA)
structure AO(look:lB):Prop where
 hit:∀au w i,look au w=J i->∃p,au[i]?=J p/\bl p=w
 WY:∀au w,look au w=I->∀p∈au,bl p≠w
def O1(h:kindOf w=J k):w=kw k/\k<10:=by
 have h1:=List.find?_some h;have h2:=List.mem_of_find?_eq_some h;simp at h1 h2
 exact⟨h1.symm,h2⟩
def WZ:∀k,k<10->kindOf (kw k)=J k:=by decide
def O4:∀k,k<10->(32:UInt8)∉kw k/\(10:UInt8)∉kw k:=by decide
def W7{look:Bs->Option Nat}(h:(bB look false (f::fs) ws).1=0):∃w CR,ws=w::CR/\(bW look f w).1=0/\(bB look false fs CR).1=0/\(bB look false (f::fs) ws).2=(bW look f w).2::(bB look false fs CR).2:=by
 have W_:∀(fs:List Nat) (ws:List Bs),(bB look true fs ws).1≠0:=by
  intro fs
  induction fs with
  |nil=>intro ws;cases ws<;>simp[bB]
  |cons f fs ih=>
   intro ws
   cases ws with
   |nil=>simp[bB]
   |cons w ws=>
    unfold bB
    split
    ·simp
    simpa using ih ws
 cases ws with
 |nil=>simp[bB]at h
 |cons w ws=>
  refine⟨w,ws,rfl,?_⟩;rw[show bB _ _ _ (w::ws)=if (bW _ f w).1=1 then (1,[])else ((bB _ _ fs ws).1,(bW _ f w).2::(bB _ _ fs ws).2) by rw[bB]]at h⊢
  split at h
  ·simp at h
  rename_i h1;rw[aK h1]
  by_cases h5:(bW look f w).1=5
  ·simp only[h5,decide_true,Bool.or_true]at h;exact absurd h (W_ _ _)
  simp only[h5,decide_false,wZ]at h⊢
  refine⟨?_,h,trivial⟩;unfold bW at h1 h5⊢
  by_cases hw:w=[]
  ·rw[aU hw]at h1;simp at h1
  rw[aK hw]at h1 h5⊢
  split
  ·rfl
  ·split<;>simp_all
  split<;>simp_all
def Xa{look:Bs->Option Nat}(h:(bB look false [] ws).1=0):ws=[]:=by
 cases ws with
 |nil=>rfl
 |cons=>simp[bB]at h
def rS(w:Bs):bl ⟨w.toArray⟩=w:=by simp[bl]
def oK{a:ByteArray}(h:bl a=bl b):a=b:=by
 obtain⟨⟨a⟩⟩:=a;obtain⟨⟨b⟩⟩:=b;simp[bl]at h
 subst h;rfl
def O5(k:Nat)(ws:List Bs):a6 k ws=nT 32 (kw k) ws:=rfl
def jM{b:Bool}{c:Nat}{t:List (Bool×Nat)}(hc:c≠0)(h:dK ((b,c)::t)=0):b=false/\dK t=0:=by
 unfold dK at h
 cases b with
 |false=>exact⟨rfl,by simpa using h⟩
 |true=>simp at h;exact absurd h hc
structure tG(e:aM):Prop where
 name:isName e.name=true
 bh:0<=e.bh/\e.bh<=20
 pn:∀p∈e.au,isName p=true
 nd:e.au.Nodup
 cnt:(e.cnt=-1/\e.mn=0/\e.mx=0)\/(0<=e.cnt/\e.cnt<(e.au.length:Int))
 mm:0<=e.mn/\e.mn<=e.mx/\e.mx<=999
 aV:∀g∈e.aV,(0<=g.fr/\g.fr<(e.au.length:Int))/\(0<=g.to/\g.to<(e.au.length:Int))/\0<=g.mn/\g.mn<=g.mx/\g.mx<=1099511627776
 aP:∀d∈e.aP,(0<=d.1/\d.1<(e.au.length:Int))/\(0<=d.2/\d.2<(e.au.length:Int))
 first:∀x∈e.first,0<=x/\x<(e.au.length:Int)
 last:∀x∈e.last,0<=x/\x<(e.au.length:Int)
def O6{s:ByteArray}(h:dP a s=0):isName s=true/\s∉a:=by
 unfold dP at h
 split at h
 ·rename_i hn
  split at h
  ·simp at h
  rename_i ha
  refine⟨hn,λhm=>ha ?_⟩;exact kD.2 ⟨s,hm,by simp⟩
 simp at h
def O9:∀(l a:List ByteArray),eM a l=0->(∀p∈l,isName p=true/\p∉a)/\l.Nodup
 |[],_,_=>⟨λp hp=>(jL hp).elim,List.Pairwise.nil⟩
 |p::t,a,h=>by
  unfold eM at h
  split at h
  ·rename_i h0;obtain⟨h1,h2⟩:=O6 h0;obtain⟨h3,h4⟩:=O9 t _ h
   refine⟨λq hq=>?_,List.nodup_cons.2 ⟨λhm=>(h3 p hm).2 (by simp),h4⟩⟩
   rcases fe.1 hq with rfl|hq
   ·exact⟨h1,h2⟩
   exact⟨(h3 q hq).1,λhm=>(h3 q hq).2 (by simp[hm])⟩
  rename_i h0;exact absurd h h0
def yD{n:Nat}(h:lacks n x=false):0<=x/\x<(n:Int):=by
 unfold lacks at h;simp at h;omega
def O_{a b c d:Int}(h:iq a b c d=true):a<=b/\b<=c/\c<=d:=by
 unfold iq at h;simp at h;omega
def Pb(h:cD a e=0):dP a e.name=0/\jZ e=0/\eM [] e.au=0/\pZ e=0:=by
 unfold cD at h
 split at h
 ·rename_i h0;exact absurd h h0
 rename_i h0
 split at h
 ·rename_i h1;exact absurd h h1
 rename_i h1
 split at h
 ·rename_i h2;exact absurd h h2
 rename_i h2;exact⟨by simpa using h0,by simpa using h1,by simpa using h2,h⟩
def Xb(h:cD a e=0):tG e:=by
 obtain⟨h1,h2,h3,h4⟩:=Pb h;obtain⟨n1,-⟩:=O6 h1;obtain⟨p1,p2⟩:=O9 _ _ h3;unfold jZ at h2;obtain⟨s1,-⟩:=jM (by simp) h2;unfold pZ at h4;obtain⟨q1,h4⟩:=jM (by simp) h4;obtain⟨q2,h4⟩:=jM (by simp) h4;obtain⟨q3,h4⟩:=jM (by simp) h4;obtain⟨q4,h4⟩:=jM (by simp) h4;obtain⟨q5,h4⟩:=jM (by simp) h4;obtain⟨q6,h4⟩:=jM (by simp) h4;obtain⟨q7,h4⟩:=jM (by simp) h4;obtain⟨q8,-⟩:=jM (by simp) h4;simp only[Bool.not_eq_false']at q7;have m7:=O_ q7
 refine⟨n1,?_,λp hp=>(p1 p hp).1,p2,?_,m7,λg hg=>?_,λd hd=>?_,λx hx=>?_,λx hx=>?_⟩
 ·simp[within]at s1;omega
 ·by_cases hc:e.cnt=-1
  ·left
   simp[hc]at q6
   exact⟨hc,q6⟩
  right
  simp[hc]at q1
  exact yD q1
 ·have a1:=jY.1 q2 g hg;have a2:=jY.1 q8 g hg;simp only[Bool.or_eq_true,not_or,uX]at a1;simp only[uX,Bool.not_eq_false']at a2;exact⟨yD a1.1,yD a1.2,O_ a2⟩
 ·have a1:=jY.1 q3 d hd;simp only[Bool.or_eq_true,not_or,uX]at a1;exact⟨yD a1.1,yD a1.2⟩
 ·exact yD (by simpa using jY.1 q4 x hx)
 exact yD (by simpa using jY.1 q5 x hx)
def Pc:∀(l:List aM) (a:List ByteArray) (i:Nat),(kE a i l).1=0->∀e∈l,tG e
 |[],_,_,_,e,he=>by cases he
 |x::t,a,i,h,e,he=>by
  unfold kE at h
  split at h
  ·rename_i h0
   rcases fe.1 he with rfl|he
   ·exact Xb h0
   exact Pc t _ _ h e he
  rename_i h0;exact absurd h h0
structure FO(c:aX):Prop where
 closed:0<=c.closed/\c.closed<=1000
 opn:1<=c.opn/\c.opn<=1000
 cycle:1<=c.cycle/\c.cycle<=100
 bE:0<=c.bE/\c.bE<=20
 many:c.az.length<=8
 az:∀e∈c.az,tG e
def w_(h:(cJ c).1=0):FO c:=by
 unfold cJ at h
 split at h
 ·rename_i h0;unfold iO at h0;obtain⟨q1,h0⟩:=jM (by simp) h0;obtain⟨q2,h0⟩:=jM (by simp) h0;obtain⟨q3,h0⟩:=jM (by simp) h0;obtain⟨q4,-⟩:=jM (by simp) h0;simp[within]at q1 q2 q3 q4
  exact⟨q1.1,q1.2,q2,q3,q4,Pc _ _ _ h⟩
 rename_i h0;exact absurd h h0
def Pf{b:UInt8}(h:gL b=true):b≠32/\b≠10:=by
 constructor<;>(rintro rfl;revert h;decide)
def yE{s:ByteArray}(h:isName s=true):bl s≠[]/\(32:UInt8)∉bl s/\(10:UInt8)∉bl s:=by
 unfold isName at h;simp only[uY,uW]at h;obtain⟨⟨⟨h1,-⟩,-⟩,h4⟩:=h
 refine⟨λe=>?_,λhm=>?_,λhm=>?_⟩
 ·have:(bl s).length=s.size:=by unfold bl ByteArray.size;rw[pj]
  rw[e]at this;have h0:([]:Bs).length=0:=rfl;omega
 ·exact(Pf (u5.1 h4 _ hm)).1 rfl
 exact(Pf (u5.1 h4 _ hm)).2 rfl
def rT(n:Int):num n≠[]/\(32:UInt8)∉num n/\(10:UInt8)∉num n:=by
 obtain⟨-,b,c,-,-⟩:=tC n.toNat
 refine⟨c,λhm=>?_,λhm=>?_⟩<;>(have:=u5.1 b _ hm;revert this;decide)
def Pg(look:Bs->Option Nat)(h:w≠[]):bW look 0 w=(0,0):=by unfold bW;rw[aK h];rfl
def u9(look:Bs->Option Nat)(h0:0<=n)(h1:n<10000000000000):bW look 1 (num n)=(0,n):=by
 unfold bW;rw[aK (rT n).1];have:numOf (num n)=J _:=WA _ (by omega);simp only[this];congr 1
 omega
def Xc{l:List ByteArray}(h:l.Nodup){j:Nat}{a:ByteArray}(hi:l[i]?=J a)(hj:l[j]?=J b)(e:a=b):i=j:=by
 subst e;obtain⟨li,ei⟩:=df.1 hi;obtain⟨lj,ej⟩:=df.1 hj;have hp:=List.pairwise_iff_getElem.1 h
 rcases Nat.lt_trichotomy i j with hlt|rfl|hlt
 ·exact absurd (ei.trans ej.symm) (hp i j li lj hlt)
 ·rfl
 exact absurd (ej.trans ei.symm) (hp j i lj li hlt)
def Ph{au:List ByteArray}(h0:0<=x)(h1:x<(au.length:Int)):∃p,au[x.toNat]?=J p/\pt au x=bl p/\p∈au:=by
 have hl:x.toNat<au.length:=by omega
 exact⟨_,bq hl,by simp[pt,bq hl],uZ hl⟩
def Xd{look:lB}(G:AO look){au:List ByteArray}(hn:au.Nodup)(hp:∀p∈au,isName p=true)(h0:0<=x)(h1:x<(au.length:Int)):bW (look au) 2 (pt au x)=(0,x):=by
 obtain⟨p,e,e2,hm⟩:=Ph h0 h1;rw[e2];unfold bW;rw[aK (yE (hp p hm)).1];simp only
 cases hl:look au (bl p)with
 |none=>exact absurd rfl (G.WY _ _ hl p hm)
 |some i=>
  obtain⟨q,hq,hb⟩:=G.hit _ _ _ hl;have:=Xc hn hq e (oK hb);simp only;congr 1
  omega
def py{au:List ByteArray}(hp:∀p∈au,isName p=true)(h0:0<=x)(h1:x<(au.length:Int)):(32:UInt8)∉pt au x/\(10:UInt8)∉pt au x:=by
 obtain⟨p,-,e2,hm⟩:=Ph h0 h1;rw[e2];exact(yE (hp p hm)).2
def mF{look:Bs->Option Nat}{v:Int}(h1:bW look f w=(0,v))(h2:bB look false fs ws=(0,vs)):bB look false (f::fs) (w::ws)=(0,v::vs):=by
 rw[bB,h1];simp[h2]
def tH(look:Bs->Option Nat):bB look false [] []=(0,[]):=by simp[bB]
def Xe{look:lB}(hk:k<10)(hm:may st.last k=true)(hw:∀w∈ws,(32:UInt8)∉w)(hf:bB (look (fy st.cfg.az)) false (form k) ws=(0,vs)):jx look st (a6 k ws)=(0,⟨k,iP st.cfg k ws vs⟩):=by
 unfold jx;rw[O5,Jn 32 ws _ (O4 k hk).1 hw];simp only[rR];rw[WZ k hk];simp[hm,hf]
def AP{look:lB}{i:Nat}(ls:List Bs)(hk:k<10)(hm:may st.last k=true)(hw:∀w∈ws,(32:UInt8)∉w)(hf:bB (look (fy st.cfg.az)) false (form k) ws=(0,vs)):eN look i st (a6 k ws::ls)=eN look (i+1) ⟨k,iP st.cfg k ws vs⟩ ls:=by
 rw[eN,Xe hk hm hw hf];simp
def Pj(es:List aM)(e:aM):fy (es++[e])=e.au:=by simp[fy]
def CS{look:lB}{α:Type}(k:Nat)(h4:4<=k)(h10:k<10)(h5:k≠5)(f:α->List Bs)(g:aM->α->aM)(Gs:aM->List α->aM)(P:aM->Prop)(g0:∀e,Gs e []=e)(g1:∀e x xs,Gs e (x::xs)=Gs (g e x) xs)(a b c d:Int)(es:List aM)(rest:List Bs):∀(xs:List α) (i:Nat) (last:Int) (e:aM),3<=last->last<=(k:Int)->P e ->
   (∀x∈xs,(∀w∈f x,(32:UInt8)∉w)/\∀e,P e->∃vs,bB (look e.au) false (form k) (f x)=(0,vs)/\px k (f x) vs e=g e x/\P (g e x)) ->
   ∃j xa,eN look i ⟨last,⟨a,b,c,d,es++[e]⟩⟩ (xs.map (λx=>a6 k (f x))++rest)=eN look j ⟨xa,⟨a,b,c,d,es++[Gs e xs]⟩⟩ rest/\3<=xa/\xa<=(k:Int):=by
 intro xs
 induction xs with
 |nil=>intro i last e h3 hl _ _;exact⟨i,_,by rw[g0];rfl,h3,hl⟩
 |cons x xs ih=>
  intro i last e h3 hl hP hx;obtain⟨hw,hx0⟩:=hx x (by simp);obtain⟨vs,hf,hu,Pk⟩:=hx0 e hP;have hm:may last k=true:=by
   unfold may;rw[aK (by omega),aK (by omega),aK h5];simp;omega
  rw[qO,pY,AP _ h10 hm hw (by rw[Pj];exact hf)];have Jt:iP ⟨a,b,c,d,es++[e]⟩ k (f x) vs=⟨a,b,c,d,es++[g e x]⟩:=by
   match k,h4 with
   |k+4,_=>simp only[iP];rw[CQ,hu]
  rw[Jt,g1];exact ih _ k _ (by omega) (rP _) Pk (λy hy=>hx y (by simp[hy]))
def Xf{look:lB}(G:AO look)(a b c d:Int)(es:List aM)(e:aM)(hE:tG e)(rest:List Bs)(i:Nat)(last:Int)(hl:2<=last):∃j xa,eN look i ⟨last,⟨a,b,c,d,es⟩⟩ (dD e++rest)=eN look j ⟨xa,⟨a,b,c,d,es++[e]⟩⟩ rest/\2<=xa:=by
 obtain⟨name,bh,au,cnt,mn,mx,aV,aP,first,yF⟩:=e;obtain⟨hn,ht,rU,qP,Pm,FP,hg,Pn,Po,Pp⟩:=hE;simp only at hn ht rU qP Pm FP hg Pn Po Pp;obtain⟨n1,n2,-⟩:=yE hn;have W2:∀{x:Int},0<=x->x<(au.length:Int)->bW (look au) 2 (pt au x)=(0,x):=λh0 h1=>Xd G qP rU h0 h1
 unfold dD;simp only[pY,gh];rw[AP (vs:=[0,bh]) _ (ar rfl) (by simp[may];exact hl) (by intro w hw;simp at hw;rcases hw with rfl|rfl;exact n2;exact(rT bh).2.1) (mF (Pg _ n1) (mF (u9 _ (by omega) (by omega)) (tH _)))];have Jt:iP ⟨a,b,c,d,es⟩ 3 [bl name,num bh] [0,bh]=⟨a,b,c,d,es++[⟨name,bh,[],-1,0,0,[],[],[],[]⟩]⟩:=by
  have:(⟨(bl name).toArray⟩:ByteArray)=name:=oK (rS _);simp[iP,tF,this]
 rw[Jt];obtain⟨j,l1,e1,h3,h4⟩:=CS (look:=look) 4 (ar rfl) (ar rfl) (ar rfl) (λp:ByteArray=>[bl p]) (λe p=>⟨e.name,e.bh,e.au++[p],e.cnt,e.mn,e.mx,e.aV,e.aP,e.first,e.last⟩) (λe ps=>⟨e.name,e.bh,e.au++ps,e.cnt,e.mn,e.mx,e.aV,e.aP,e.first,e.last⟩) (λ_=>True) (λe=>by simp) (λe x xs=>by simp) a b c d es
  ((if cnt=-1 then []else [a6 5 [pt au cnt,num mn,num mx]])++(aV.map (λg=>a6 6 [pt au g.fr,pt au g.to,num g.mn,num g.mx])++(aP.map (λd=>a6 7 [pt au d.1,pt au d.2])++(first.map (λx=>a6 8 [pt au x])++(yF.map (λx=>a6 9 [pt au x])++rest)))))
  au (i+1) 3 ⟨name,bh,[],-1,0,0,[],[],[],[]⟩ (by omega) (by omega) trivial
  (λp hp=>⟨by intro w hw;simp at hw;subst hw;exact(yE (rU p hp)).2.1,λe _=>⟨[0],mF (Pg _ (yE (rU p hp)).1) (tH _),by
   have:(⟨(bl p).toArray⟩:ByteArray)=p:=oK (rS _);simp[px,this],trivial⟩⟩)
 have Pq:=e1;simp only[yB]at Pq;have c5:∃j5 l5,eN look j ⟨l1,⟨a,b,c,d,es++[⟨name,bh,au,-1,0,0,[],[],[],[]⟩]⟩⟩ ((if cnt=-1 then []else [a6 5 [pt au cnt,num mn,num mx]])++(aV.map (λg=>a6 6 [pt au g.fr,pt au g.to,num g.mn,num g.mx])++(aP.map (λd=>a6 7 [pt au d.1,pt au d.2])++(first.map (λx=>a6 8 [pt au x])++(yF.map (λx=>a6 9 [pt au x])++rest))))) =
   eN look j5 ⟨l5,⟨a,b,c,d,es++[⟨name,bh,au,cnt,mn,mx,[],[],[],[]⟩]⟩⟩ (aV.map (λg=>a6 6 [pt au g.fr,pt au g.to,num g.mn,num g.mx])++(aP.map (λd=>a6 7 [pt au d.1,pt au d.2])++(first.map (λx=>a6 8 [pt au x])++(yF.map (λx=>a6 9 [pt au x])++rest))))/\3<=l5/\l5<=6:=by
  rcases Pm with⟨rfl,rfl,rfl⟩|⟨k0,k1⟩
  ·exact⟨j,l1,by simp,h3,by omega⟩
  refine⟨j+1,5,?_,by omega,by omega⟩;rw[aK (by omega),List.singleton_append,AP (vs:=[cnt,mn,mx]) _ (ar rfl) (by simp[may];omega) (by intro w hw;simp at hw;rcases hw with rfl|rfl|rfl;exact(py rU k0 k1).1;exact(rT mn).2.1;exact(rT mx).2.1)
   (by rw[Pj];exact mF (W2 k0 k1) (mF (u9 _ (by omega) (by omega)) (mF (u9 _ (by omega) (by omega)) (tH _))))]
  simp only[iP];rw[CQ];simp[px]
 obtain⟨j5,l5,e5,Xg,Xh⟩:=c5;obtain⟨j6,l6,e6,Xi,anp⟩:=CS (look:=look) 6 (ar rfl) (ar rfl) (ar rfl) (λg:eT=>[pt au g.fr,pt au g.to,num g.mn,num g.mx]) (λe g=>⟨e.name,e.bh,e.au,e.cnt,e.mn,e.mx,e.aV++[g],e.aP,e.first,e.last⟩) (λe gs=>⟨e.name,e.bh,e.au,e.cnt,e.mn,e.mx,e.aV++gs,e.aP,e.first,e.last⟩) (λe=>e.au=au) (λe=>by simp) (λe x xs=>by simp) a b c d es
  (aP.map (λd=>a6 7 [pt au d.1,pt au d.2])++(first.map (λx=>a6 8 [pt au x])++(yF.map (λx=>a6 9 [pt au x])++rest)))
  aV j5 l5 ⟨name,bh,au,cnt,mn,mx,[],[],[],[]⟩ Xg Xh rfl
  (λg qQ=>by
   obtain⟨⟨f0,f1⟩,⟨t0,t1⟩,m0,m1,m2⟩:=hg g qQ
   refine⟨by intro w hw;simp at hw;rcases hw with rfl|rfl|rfl|rfl;exact(py rU f0 f1).1;exact(py rU t0 t1).1;exact(rT g.mn).2.1;exact(rT g.mx).2.1,λe he=>⟨[g.fr,g.to,g.mn,g.mx],?_,by simp[px],he⟩⟩;rw[he];exact mF (W2 f0 f1) (mF (W2 t0 t1) (mF (u9 _ (by omega) (by omega)) (mF (u9 _ (by omega) (by omega)) (tH _)))))
 obtain⟨j7,l7,e7,Xj,anq⟩:=CS (look:=look) 7 (ar rfl) (ar rfl) (ar rfl) (λg:Int×Int=>[pt au g.1,pt au g.2]) (λe g=>⟨e.name,e.bh,e.au,e.cnt,e.mn,e.mx,e.aV,e.aP++[g],e.first,e.last⟩) (λe gs=>⟨e.name,e.bh,e.au,e.cnt,e.mn,e.mx,e.aV,e.aP++gs,e.first,e.last⟩) (λe=>e.au=au) (λe=>by simp) (λe x xs=>by simp) a b c d es
  (first.map (λx=>a6 8 [pt au x])++(yF.map (λx=>a6 9 [pt au x])++rest))
  aP j6 l6 ⟨name,bh,au,cnt,mn,mx,[]++aV,[],[],[]⟩ Xi (by omega) rfl
  (λg qQ=>by
   obtain⟨⟨f0,f1⟩,t0,t1⟩:=Pn g qQ
   refine⟨by intro w hw;simp at hw;rcases hw with rfl|rfl;exact(py rU f0 f1).1;exact(py rU t0 t1).1,λe he=>⟨[g.1,g.2],?_,by simp[px],he⟩⟩;rw[he];exact mF (W2 f0 f1) (mF (W2 t0 t1) (tH _)))
 obtain⟨j8,l8,e8,Xk,anr⟩:=CS (look:=look) 8 (ar rfl) (ar rfl) (ar rfl) (λg:Int=>[pt au g]) (λe g=>⟨e.name,e.bh,e.au,e.cnt,e.mn,e.mx,e.aV,e.aP,e.first++[g],e.last⟩) (λe gs=>⟨e.name,e.bh,e.au,e.cnt,e.mn,e.mx,e.aV,e.aP,e.first++gs,e.last⟩) (λe=>e.au=au) (λe=>by simp) (λe x xs=>by simp) a b c d es
  (yF.map (λx=>a6 9 [pt au x])++rest)
  first j7 l7 ⟨name,bh,au,cnt,mn,mx,[]++aV,[]++aP,[],[]⟩ Xj (by omega) rfl
  (λg qQ=>by
   obtain⟨f0,f1⟩:=Po g qQ
   refine⟨by intro w hw;simp at hw;subst hw;exact(py rU f0 f1).1,λe he=>⟨[g],?_,by simp[px],he⟩⟩;rw[he];exact mF (W2 f0 f1) (tH _))
 obtain⟨j9,l9,e9,ans,ant⟩:=CS (look:=look) 9 (ar rfl) (ar rfl) (ar rfl) (λg:Int=>[pt au g]) (λe g=>⟨e.name,e.bh,e.au,e.cnt,e.mn,e.mx,e.aV,e.aP,e.first,e.last++[g]⟩) (λe gs=>⟨e.name,e.bh,e.au,e.cnt,e.mn,e.mx,e.aV,e.aP,e.first,e.last++gs⟩) (λe=>e.au=au) (λe=>by simp) (λe x xs=>by simp) a b c d es
  rest
  yF j8 l8 ⟨name,bh,au,cnt,mn,mx,[]++aV,[]++aP,[]++first,[]⟩ Xk (by omega) rfl
  (λg qQ=>by
   obtain⟨f0,f1⟩:=Pp g qQ
   refine⟨by intro w hw;simp at hw;subst hw;exact(py rU f0 f1).1,λe he=>⟨[g],?_,by simp[px],he⟩⟩;rw[he];exact mF (W2 f0 f1) (tH _))
 exact⟨j9,l9,(((((Pq.trans e5).trans e6).trans e7).trans e8).trans e9),by omega⟩
def Pr{look:lB}(G:AO look)(a b c d:Int):∀(l:List aM) (es:List aM) (i:Nat) (last:Int),(∀e∈l,tG e)->2<=last->∃st,eN look i ⟨last,⟨a,b,c,d,es⟩⟩ (l.flatMap dD)=((0,-1),⟨st,⟨a,b,c,d,es++l⟩⟩)
 |[],es,i,last,_,hl=>⟨last,by simp[eN];omega⟩
 |e::l,es,i,last,hE,hl=>by
  rw[mD];obtain⟨j,l',h1,h2⟩:=Xf G a b c d es e (hE e (by simp)) (l.flatMap dD) i _ hl;obtain⟨st,h3⟩:=Pr G a b c d l (es++[e]) j l' (λx hx=>hE x (by simp[hx])) h2;exact⟨st,by rw[h1,h3];simp⟩
def Xl{look:lB}(G:AO look)(hc:FO c):∃st,eN look 0 ⟨-1,fA⟩ (oJ c)=((0,-1),⟨st,c⟩):=by
 obtain⟨a,b,cy,d,az⟩:=c;obtain⟨h1,h2,h3,h4,-,h5⟩:=hc;simp only at h1 h2 h3 h4 h5;obtain⟨st,h⟩:=Pr G a b cy d _ [] 3 2 h5 (by omega)
 refine⟨st,?_⟩;unfold oJ;simp only[];rw[AP (vs:=[a,b]) _ (ar rfl) (by simp[may]) (by intro w hw;simp at hw;rcases hw with rfl|rfl<;>exact(rT _).2.1) (mF (u9 _ (by omega) (by omega)) (mF (u9 _ (by omega) (by omega)) (tH _)))];rw[AP (vs:=[cy]) _ (ar rfl) (by simp[may]) (by intro w hw;simp at hw;subst hw;exact(rT _).2.1) (mF (u9 _ (by omega) (by omega)) (tH _))];rw[AP (vs:=[d]) _ (ar rfl) (by simp[may]) (by intro w hw;simp at hw;subst hw;exact(rT _).2.1) (mF (u9 _ (by omega) (by omega)) (tH _))];simpa[iP,fA]using h
def tI(hk:k<10)(h:∀w∈ws,(10:UInt8)∉w):(10:UInt8)∉a6 k ws:=by
 unfold a6;simp only[qN,tB,fe,not_or,not_exists,not_and];exact⟨(O4 k hk).2,λw hw=>⟨by decide,h w hw⟩⟩
def Xm(hc:FO c):∀l∈oJ c,(10:UInt8)∉l:=by
 intro l hl;unfold oJ at hl;simp only[fe,tB]at hl;have N:=λn=>(rT n).2.2
 rcases hl with rfl|rfl|rfl|⟨e,he,hl⟩
 ·exact tI (ar rfl) (by intro w hw;simp at hw;rcases hw with rfl|rfl<;>exact N _)
 ·exact tI (ar rfl) (by intro w hw;simp at hw;subst hw;exact N _)
 ·exact tI (ar rfl) (by intro w hw;simp at hw;subst hw;exact N _)
 have E:=hc.az e he;unfold dD at hl;simp only[fe,qN,nS]at hl
 rcases hl with rfl|⟨p,hp,rfl⟩|hl|⟨g,hg,rfl⟩|⟨g,hg,rfl⟩|⟨g,hg,rfl⟩|⟨g,hg,rfl⟩
 ·exact tI (ar rfl) (by intro w hw;simp at hw;rcases hw with rfl|rfl;exact(yE E.name).2.2;exact N _)
 ·exact tI (ar rfl) (by intro w hw;simp at hw;subst hw;exact(yE (E.pn p hp)).2.2)
 ·split at hl
  ·simp at hl
  rename_i hn;simp at hl
  subst hl
  rcases E.cnt with h|⟨k0,k1⟩
  ·exact absurd h.1 hn
  exact tI (ar rfl) (by intro w hw;simp at hw;rcases hw with rfl|rfl|rfl;exact(py E.pn k0 k1).2;exact N _;exact N _)
 ·obtain⟨⟨f0,f1⟩,⟨t0,t1⟩,-⟩:=E.aV g hg;exact tI (ar rfl) (by intro w hw;simp at hw;rcases hw with rfl|rfl|rfl|rfl;exact(py E.pn f0 f1).2;exact(py E.pn t0 t1).2;exact N _;exact N _)
 ·obtain⟨⟨f0,f1⟩,t0,t1⟩:=E.aP g hg;exact tI (ar rfl) (by intro w hw;simp at hw;rcases hw with rfl|rfl;exact(py E.pn f0 f1).2;exact(py E.pn t0 t1).2)
 ·obtain⟨f0,f1⟩:=E.first g hg;exact tI (ar rfl) (by intro w hw;simp at hw;subst hw;exact(py E.pn f0 f1).2)
 obtain⟨f0,f1⟩:=E.last g hg;exact tI (ar rfl) (by intro w hw;simp at hw;subst hw;exact(py E.pn f0 f1).2)
def Ps{look:lB}(G:AO look)(h:(cJ c).1=0)(hl:(fK c).length<=8000):gD look (fK c)=((0,-1),c):=by
 have hc:=w_ h;obtain⟨st,hr⟩:=Xl G hc;have u_:=Xm hc;have hcut:eJ 10 (trim (fK c))=oJ c:=by
  cases hL:oJ c with
  |nil=>simp[oJ]at hL
  |cons x r=>
   have:fK c=nT 10 x r++[10]:=by unfold fK;rw[hL,Wz]
   rw[this];have ht:trim (nT 10 x r++[10])=nT 10 x r:=by simp[trim]
   rw[ht];rw[hL]at u_;exact Jn 10 r x (u_ x (by simp)) (λw hw=>u_ w (by simp[hw]))
 unfold gD;rw[aK (by omega),hcut,hr];simp[h]
def CT{α β:Type}(f:α->List β)(K:Nat):∀l:List α,(∀x∈l,(f x).length<=K)->(l.flatMap f).length<=l.length*K
 |[],_=>by simp
 |x::l,h=>by
  have h1:=CT f K l (λy hy=>h y (rO _ hy));have h2:=h x (nQ ..);rw[mD,cY,lY,Nat.succ_mul];omega
def Ju:∀(k u:Nat),u<10^(k+1)->(fx u).length<=k+1
 |0,u,h=>by
  unfold fx;rw[dif_pos (by omega)];simp
 |k+1,u,h=>by
  unfold fx
  split
  ·simp
  have:=Ju k (u / 10) (by rw[Nat.pow_succ]at h;omega);rw[cY,kW];omega
def mG(h:n<=1099511627776):(num n).length<=13:=Ju 12 n.toNat (by
 have e:(10:Nat)^(12+1)=10000000000000:=by decide
 rw[e];omega)
def Xn(k:Nat):(kw k).length<=6:=by
 unfold kw
 split<;>decide
def xb{s:ByteArray}(h:isName s=true):(bl s).length<=13:=by
 unfold isName at h;simp only[uY,uW]at h;have h2:=h.1.1.2;have e:(bl s).length=s.size:=by unfold bl;rw[pj];rfl
 omega
def xc{au:List ByteArray}(h:∀p∈au,isName p=true)(x:Int):(pt au x).length<=13:=by
 unfold pt;rw[fp]
 cases hq:au[x.toNat]? with
 |none=>decide
 |some p=>exact xb (h p (bP hq))
def xd(k:Nat)(ws:List Bs)(h:∀w∈ws,w.length<=13)(hn:ws.length<=4):(a6 k ws).length<=62:=by
 have h1:=Xn k;have h2:(ws.flatMap (λw=>(32:UInt8)::w)).length<=ws.length*14:=CT _ 14 ws (λw hw=>by have:=h w hw;simp;omega);have e:(a6 k ws).length=(kw k).length+(ws.flatMap (λw=>(32:UInt8)::w)).length:=by unfold a6;exact cY
 have h3:ws.length*14<=4*14:=CM _ hn;rw[e];exact bp (Nat.add_le_add h1 (bp h2 h3)) (ar rfl)
structure vd(e:aM):Prop where
 au:e.au.length<=16
 aV:e.aV.length<=8
 aP:e.aP.length<=64
 first:e.first.length<=16
 last:e.last.length<=16
def Xo(h:jZ e=0):vd e:=by
 unfold jZ at h;obtain⟨-,h⟩:=jM (by simp) h;obtain⟨q1,h⟩:=jM (by simp) h;obtain⟨q2,h⟩:=jM (by simp) h;obtain⟨q3,h⟩:=jM (by simp) h;obtain⟨q4,h⟩:=jM (by simp) h;obtain⟨q5,-⟩:=jM (by simp) h;simp at q1 q2 q3 q4 q5
 exact⟨q1,q2,q3,q4,q5⟩
def Pt:∀(l:List aM) (a:List ByteArray) (i:Nat),(kE a i l).1=0->∀e∈l,vd e
 |[],_,_,_,e,he=>by cases he
 |x::t,a,i,h,e,he=>by
  unfold kE at h
  split at h
  ·rename_i h0
   rcases fe.1 he with rfl|he
   ·exact Xo (Pb h0).2.1
   exact Pt t _ _ h e he
  rename_i h0;exact absurd h h0
def FQ(h:(cJ c).1=0):∀e∈c.az,vd e:=by
 unfold cJ at h
 split at h
 ·exact Pt _ _ _ h
 rename_i h0;exact absurd h h0
def Jv(h:tG e)(hs:vd e):(dD e).length<=122/\∀l∈dD e,l.length<=62:=by
 have h1:=hs.au;have h2:=hs.aV;have h3:=hs.aP;have h4:=hs.first;have h5:=hs.last;have hp:=λx=>xc h.pn x
 have hm:=h.mm
 constructor
 ·unfold dD;have:(if e.cnt=-1 then ([]:List Bs)else [a6 5 [pt e.au e.cnt,num e.mn,num e.mx]]).length<=1:=by split<;>simp
  simp only[lY,cY,iE];omega
 intro l hl;unfold dD at hl;simp only[fe,qN,nS]at hl
 rcases hl with rfl|⟨p,hq,rfl⟩|hl|⟨g,hq,rfl⟩|⟨d,hq,rfl⟩|⟨x,hq,rfl⟩|⟨x,hq,rfl⟩
 ·refine xd _ _ (λw hw=>?_) (by simp);simp at hw
  rcases hw with rfl|rfl
  ·exact xb h.name
  exact mG (by have:=h.bh;omega)
 ·refine xd _ _ (λw hw=>?_) (by simp);simp at hw
  subst hw;exact xb (h.pn p hq)
 ·split at hl
  ·cases hl
  simp at hl
  subst hl
  refine xd _ _ (λw hw=>?_) (by simp);simp at hw
  rcases hw with rfl|rfl|rfl
  ·exact hp _
  ·exact mG (by omega)
  exact mG (by omega)
 ·refine xd _ _ (λw hw=>?_) (by simp);have hg:=h.aV g hq;simp at hw
  rcases hw with rfl|rfl|rfl|rfl
  ·exact hp _
  ·exact hp _
  ·exact mG (by omega)
  exact mG (by omega)
 ·refine xd _ _ (λw hw=>?_) (by simp);simp at hw
  rcases hw with rfl|rfl
  ·exact hp _
  exact hp _
 ·refine xd _ _ (λw hw=>?_) (by simp);simp at hw
  subst hw;exact hp _
 refine xd _ _ (λw hw=>?_) (by simp);simp at hw
 subst hw;exact hp _
def FR(h:(cJ c).1=0):((c.az.flatMap dD).flatMap (λx=>x++[10])).length<=400000000:=by
 have hc:=w_ h;have hs:=FQ h;have h1:=CT _ 122 _ (λe he=>(Jv (hc.az e he) (hs e he)).1);have h2:=CT (λx:Bs=>x++[10]) 63 (c.az.flatMap dD) (λl hl=>by
  obtain⟨e,he,hl⟩:=tB.1 hl;have:=(Jv (hc.az e he) (hs e he)).2 l hl;simp
  omega)
 have h3:=hc.many;have h4:c.az.length*122<=8*122:=CM _ h3;have h5:(c.az.flatMap _).length*63<=8*122*63:=CM _ (bp h1 h4);omega
end Go.Proofs.YtgjlihibabmgcaaGreatDoor
