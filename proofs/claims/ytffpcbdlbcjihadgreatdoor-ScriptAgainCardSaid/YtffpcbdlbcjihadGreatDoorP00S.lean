/-
  Several texts as one: CfPure, CfText, GaPure, FlPure, TotPure, CfRead.
-/
import Derived.Test.YtffpcbdlbcjihadGreatDoorProg
namespace Go.Proofs.YtffpcbdlbcjihadGreatDoor
structure GapD where
 fr:Int
 to:Int
 mn:Int
 mx:Int
structure EntD where
 name:ByteArray
 tol:Int
 pts:List ByteArray
 cnt:Int
 mn:Int
 mx:Int
 gaps:List GapD
 edges:List (Int × Int)
 first:List Int
 last:List Int
structure CfgD where
 closed:Int
 opn:Int
 cycle:Int
 delay:Int
 ents:List EntD
def isLetter (b:UInt8):Bool:=decide (97<=b.toNat) && decide (b.toNat<=122)
def isDig (b:UInt8):Bool:=decide (48<=b.toNat) && decide (b.toNat<=57)
def nameByte (b:UInt8):Bool:=isLetter b || isDig b || decide (b.toNat=45)
def isName (s:ByteArray):Bool:=decide (1<=s.size) && decide (s.size<=12) && isLetter (s.data.getD 0 0) && s.data.toList.all nameByte
def firstOf:List (Bool × Nat)->Nat
 | []=>0
 | (b,c) :: t=>if b then c else firstOf t
def within (n a b:Int):Bool:=decide (a<=n) && decide (n<=b)
def lacks (n:Nat)(x:Int):Bool:=decide (x < 0) || decide ((n:Int)<=x)
def rise (a b c d:Int):Bool:=decide (a<=b) && decide (b<=c) && decide (c<=d)
def twice {α:Type} [DecidableEq α] (l:List α):Bool:=(List.range l.length).any fun i=>match l[i]? with
 | some x=>(l.take i).any fun y=>decide (x=y)
 | none=>false
def nameErr (ahead:List ByteArray)(s:ByteArray):Nat:=if isName s then (if ahead.any (fun x=>decide (x=s)) then 6 else 0) else 4
def sizeErr (e:EntD):Nat:=firstOf [(!within e.tol 0 20,2),(decide (16 < e.pts.length),2),(decide (8 < e.gaps.length),2),(decide (64 < e.edges.length),2),(decide (16 < e.first.length),2),(decide (16 < e.last.length),2)]
def partErr (e:EntD):Nat:=firstOf [
 (decide (e.cnt≠-1) && lacks e.pts.length e.cnt,5),
 (e.gaps.any fun g=>lacks e.pts.length g.fr || lacks e.pts.length g.to,5),
 (e.edges.any fun d=>lacks e.pts.length d.1 || lacks e.pts.length d.2,5),
 (e.first.any fun x=>lacks e.pts.length x,5),
 (e.last.any fun x=>lacks e.pts.length x,5),
 (decide (e.cnt=-1) && (decide (e.mn≠0) || decide (e.mx≠0)),3),
 (!rise 0 e.mn e.mx 999,2),
 (e.gaps.any fun g=>!rise 0 g.mn g.mx 1099511627776,2),
 (twice e.edges,6),(twice e.first,6),(twice e.last,6),
 (decide (0 < e.edges.length) && decide (e.first.length=0),3),
 (decide (e.edges.length=0) && decide (0 < e.first.length+e.last.length),3)]
def ptsErr:List ByteArray->List ByteArray->Nat
 | _,[]=>0
 | a,p :: t=>if nameErr a p=0 then ptsErr (a++[p]) t else nameErr a p
def entErr (ahead:List ByteArray)(e:EntD):Nat:=
 if nameErr ahead e.name≠0 then nameErr ahead e.name else if sizeErr e≠0 then sizeErr e else if ptsErr [] e.pts≠0 then ptsErr [] e.pts else partErr e
def wholeErr (c:CfgD):Nat:=firstOf [(!(within c.closed 0 1000 && within c.opn 1 1000),2),(!within c.cycle 1 100,2),(!within c.delay 0 20,2),(decide (8 < c.ents.length),2),(decide (c.opn < c.cycle),3)]
def entsErr:List ByteArray->Nat->List EntD->Nat × Int
 | _,_,[]=>(0,-1)
 | a,i,e :: t=>if entErr a e=0 then entsErr (a++[e.name]) (i+1) t else (entErr a e,(i:Int))
def cfgErr (c:CfgD):Nat × Int:=if wholeErr c=0 then entsErr [] 0 c.ents else (wholeErr c,-1)
abbrev Bs:=List UInt8
def bl (b:ByteArray):Bs:=b.data.toList
def kw:Nat->Bs
 | 0=>[119,105,110,100,111,119]
 | 1=>[99,121,99,108,101]
 | 2=>[100,101,108,97,121]
 | 3=>[101,110,116,105,116,121]
 | 4=>[112,111,105,110,116]
 | 5=>[99,111,117,110,116]
 | 6=>[103,97,112]
 | 7=>[101,100,103,101]
 | 8=>[102,105,114,115,116]
 | _=>[108,97,115,116]
def decN (u:Nat):Bs:=if h:u < 10 then [UInt8.ofNat (48+u)] else decN (u / 10)++[UInt8.ofNat (48+u % 10)]
def num (n:Int):Bs:=decN n.toNat
def kwLine (k:Nat)(ws:List Bs):Bs:=kw k++ws.flatMap (fun w=>32 :: w)
def pt (pts:List ByteArray)(x:Int):Bs:=bl (pts.getD x.toNat ByteArray.empty)
def entLines (e:EntD):List Bs:=
 kwLine 3 [bl e.name,num e.tol] :: (e.pts.map (fun p=>kwLine 4 [bl p])++((if e.cnt=-1 then [] else [kwLine 5 [pt e.pts e.cnt,num e.mn,num e.mx]]) ++
  (e.gaps.map (fun g=>kwLine 6 [pt e.pts g.fr,pt e.pts g.to,num g.mn,num g.mx])++(e.edges.map (fun d=>kwLine 7 [pt e.pts d.1,pt e.pts d.2]) ++
   (e.first.map (fun x=>kwLine 8 [pt e.pts x])++e.last.map (fun x=>kwLine 9 [pt e.pts x]))))))
def confLines (c:CfgD):List Bs:=kwLine 0 [num c.closed,num c.opn] :: kwLine 1 [num c.cycle] :: kwLine 2 [num c.delay] :: c.ents.flatMap entLines
def confText (c:CfgD):Bs:=(confLines c).flatMap (fun l=>l++[10])
def cutBy (c:UInt8):Bs->List Bs
 | []=>[[]]
 | b :: t=>if b=c then [] :: cutBy c t else match cutBy c t with
  | []=>[[b]]
  | h :: r=>(b :: h) :: r
def joinBy (c:UInt8)(h:Bs)(ws:List Bs):Bs:=h++ws.flatMap (fun w=>c :: w)
theorem cut_pre (c:UInt8)(t:Bs)(h:Bs)(r:List Bs)(e:cutBy c t=h :: r):∀ w:Bs,c ∉ w->cutBy c (w++t)=(w++h) :: r:=by
 intro w
 induction w with
 | nil=>intro _;exact e
 | cons b w ih=>
  intro hw;simp only[List.mem_cons,not_or] at hw;have:=ih hw.2;rw[List.cons_append,cutBy,if_neg (Ne.symm hw.1),this];rfl
theorem cut_nil (c:UInt8)(w:Bs)(hw:c ∉ w):cutBy c w=[w]:=by
 have:=cut_pre c [] [] [] rfl w hw;simpa using this
theorem cut_join (c:UInt8):∀ (ws:List Bs) (h:Bs),c ∉ h->(∀ w∈ws,c ∉ w)->cutBy c (joinBy c h ws)=h :: ws:=by
 intro ws
 induction ws with
 | nil=>intro h hh _;simpa[joinBy] using cut_nil c h hh
 | cons x ws ih=>
  intro h hh hw;have e:=ih x (hw x (by simp)) (fun w h=>hw w (by simp[h]));have e2:cutBy c (c :: joinBy c x ws)=[] :: x :: ws:=by rw[cutBy,if_pos rfl,e]
  have:=cut_pre c _ _ _ e2 h hh;simpa[joinBy] using this
theorem text_join (h:Bs)(t:List Bs):(h :: t).flatMap (fun l=>l++[10])=joinBy 10 h t++[10]:=by
 induction t generalizing h with
 | nil=>simp[joinBy]
 | cons x t ih=>
  rw[List.flatMap_cons,ih x];simp[joinBy]
def valD (w:Bs):Nat:=w.foldl (fun n b=>n*10+(b.toNat - 48)) 0
def numOf (w:Bs):Option Nat:=if w.length=0\/13 < w.length\/(1 < w.length/\w.head?=some 48)\/w.all isDig=false then none else some (valD w)
theorem valD_snoc (w:Bs)(b:UInt8):valD (w++[b])=valD w*10+(b.toNat - 48):=by simp[valD]
theorem dig_of (u:Nat)(h:u < 10):(UInt8.ofNat (48+u)).toNat=48+u:=by simp;omega
theorem decN_small {u:Nat}(h:u < 10):decN u=[UInt8.ofNat (48+u)]:=by rw[decN,dif_pos h]
theorem decN_big {u:Nat}(h:¬u < 10):decN u=decN (u / 10)++[UInt8.ofNat (48+u % 10)]:=by rw[decN,dif_neg h]
theorem decN_all (u:Nat):valD (decN u)=u/\(decN u).all isDig=true/\decN u≠[]/\(0 < u->(decN u).head?≠some 48)/\∀ k,u < 10 ^ (k+1)->(decN u).length<=k+1:=by
 induction u using Nat.strongRecOn with
 | ind u ih=>
  by_cases h:u < 10
  ·rw[decN_small h]
   refine⟨by simp only[valD,List.foldl_cons,List.foldl_nil,dig_of u h];omega,by simp only[List.all_cons,List.all_nil,isDig,dig_of u h];simp;omega,by simp,fun hu e=>?_,fun k _=>by simp⟩;simp only[List.head?_cons,Option.some.injEq] at e;have:=congrArg UInt8.toNat e;rw[dig_of u h] at this;have h48:(48:UInt8).toNat=48:=rfl;omega
  ·obtain⟨a,b,c,d,l⟩:=ih (u / 10) (by omega);have hd:=dig_of (u % 10) (by omega);rw[decN_big h]
   refine⟨by rw[valD_snoc,a,hd];omega,?_,by simp,fun _ e=>?_,fun k hk=>?_⟩
   ·rw[List.all_append,b];simp only[List.all_cons,List.all_nil,isDig,hd];simp;omega
   ·rw[List.head?_append] at e;have hne:=d (by omega)
    cases hh:(decN (u / 10)).head? with
    | none=>simp at hh;exact c hh
    | some x=>rw[hh] at e hne;exact hne (by simpa using e)
   ·cases k with
    | zero=>simp at hk;omega
    | succ k=>
     have:=l k (by rw[Nat.pow_succ] at hk;omega);simp;omega
theorem numOf_dec (u:Nat)(h:u < 10000000000000):numOf (decN u)=some u:=by
 obtain⟨a,b,c,d,l⟩:=decN_all u;have l2:=l 12 (by simpa using h);unfold numOf;rw[if_neg,a];rintro(h1 | h1 | ⟨h1,h2⟩ | h1)
 ·exact c (List.eq_nil_of_length_eq_zero h1)
 ·omega
 ·by_cases hu:u < 10
  ·rw[decN_small hu] at h1;simp at h1
  ·exact d (by omega) h2
 ·rw[b] at h1;cases h1
structure WG where
 g:GapD
 t:Int
def WG.bears (x:WG)(tick:Int):Bool:=decide (x.t≠-1) && (decide (x.g.mn<=tick - x.t) && decide (tick - x.t<=x.g.mx))
def WG.bad (x:WG)(p tick:Int):Bool:=decide (p=x.g.to) && !x.bears tick
def WG.rep (x:WG)(p tick:Int):WG:=if p=x.g.fr then ⟨x.g,tick⟩ else x
structure GSt where
 xs:List WG
 bad:Bool
def tickOk (tick:Int):Bool:=decide (0<=tick) && decide (tick<=1099511627776)
def GSt.rep (s:GSt)(p tick:Int):GSt:=if tickOk tick=true then ⟨s.xs.map (·.rep p tick),s.xs.any (·.bad p tick) || s.bad⟩ else s
def GSt.zero (s:GSt):GSt:=⟨s.xs,false⟩
def WG.new (g:GapD):WG:=⟨g,-1⟩
def GSt.new (l:List GapD):GSt:=⟨l.map WG.new,false⟩
def GSt.upto (s:GSt)(p tick:Int)(k:Nat):GSt:=⟨(s.xs.take k).map (·.rep p tick)++s.xs.drop k,(s.xs.take k).any (·.bad p tick) || s.bad⟩
theorem GSt.upto_zero (s:GSt)(p tick:Int):s.upto p tick 0=s:=by simp[GSt.upto]
theorem GSt.upto_all {s:GSt}{p tick:Int}{k:Nat}(h:¬k < s.xs.length)(ht:tickOk tick=true):s.upto p tick k=s.rep p tick:=by
 unfold GSt.upto GSt.rep;rw[List.take_of_length_le (by omega),List.drop_of_length_le (by omega),List.append_nil,if_pos ht]
theorem GSt.upto_len (s:GSt)(p tick:Int)(k:Nat):(s.upto p tick k).xs.length=s.xs.length:=by simp[GSt.upto];omega
theorem GSt.upto_at {s:GSt}{p tick:Int}{k:Nat}{x:WG}(h:s.xs[k]?=some x):(s.upto p tick k).xs[k]?=some x:=by
 have hk:k < s.xs.length:=by
  rcases Nat.lt_or_ge k s.xs.length with h' | h'
  ·exact h'
  ·rw[List.getElem?_eq_none h'] at h;cases h
 show ((s.xs.take k).map _++s.xs.drop k)[k]?=_
 rw[List.getElem?_append_right (by simp[List.length_take];omega)];simp[List.length_take,List.getElem?_drop,Nat.min_eq_left (Nat.le_of_lt hk),h]
theorem GSt.upto_succ {s:GSt}{p tick:Int}{k:Nat}{x:WG}(h:s.xs[k]?=some x) :
  s.upto p tick (k+1)=⟨(s.upto p tick k).xs.set k (x.rep p tick),x.bad p tick || (s.upto p tick k).bad⟩:=by
 have hk:k < s.xs.length:=by
  rcases Nat.lt_or_ge k s.xs.length with h' | h'
  ·exact h'
  ·rw[List.getElem?_eq_none h'] at h;cases h
 have e1:s.xs.take (k+1)=s.xs.take k++[x]:=by
  rw[List.take_add_one,h];rfl
 have e2:s.xs.drop k=x :: s.xs.drop (k+1):=by
  rw[List.drop_eq_getElem_cons hk];rw[List.getElem?_eq_getElem hk] at h
  cases h;rfl
 unfold GSt.upto;simp only[GSt.mk.injEq]
 constructor
 ·rw[e1,e2,List.set_append_right _ _ (by simp[List.length_take];omega)];simp[List.length_take,Nat.min_eq_left (Nat.le_of_lt hk)]
 ·rw[e1,List.any_append];simp only[List.any_cons,List.any_nil,Bool.or_false]
  cases x.bad p tick <;> cases (s.xs.take k).any (·.bad p tick) <;> cases s.bad <;> rfl
structure MkD where
 pt:Int
 tick:Int
 cyc:Int
def lat (fr:Int)(l:List MkD):Int:=l.foldl (fun a m=>if m.pt=fr then m.tick else a) (-1)
theorem lat_snoc (fr:Int)(l:List MkD)(m:MkD):lat fr (l++[m])=if m.pt=fr then m.tick else lat fr l:=by
 unfold lat;rw[List.foldl_append];rfl
def badM (g:GapD)(l:List MkD)(m:MkD):Bool:=(WG.mk g (lat g.fr l)).bad m.pt m.tick
def badI (g:GapD)(l:List MkD)(cyc:Int)(i:Nat):Bool:=match l[i]? with
 | some m=>decide (m.cyc=cyc) && badM g (l.take i) m
 | none=>false
def gapBad (g:GapD)(l:List MkD)(cyc:Int):Bool:=(List.range l.length).any (badI g l cyc)
theorem gapBad_no {g:GapD}{l:List MkD}{cyc:Int}(h:∀ k,k < l.length->badI g l cyc k=false):gapBad g l cyc=false:=by
 unfold gapBad;rw[List.any_eq_false];intro k hk;rw[h k (by simpa using hk)];simp
theorem gapBad_snoc (g:GapD)(l:List MkD)(m:MkD)(cyc:Int)(hm:m.cyc=cyc):gapBad g (l++[m]) cyc=(badM g l m || gapBad g l cyc):=by
 have e:badI g (l++[m]) cyc l.length=badM g l m:=by
  unfold badI;simp[hm]
 have e2:∀ k,k < l.length->badI g (l++[m]) cyc k=badI g l cyc k:=fun k hk=>by
  unfold badI;rw[List.getElem?_append_left hk,List.take_append_of_le_length (by omega)]
 unfold gapBad;rw[List.length_append,show [m].length=1 from rfl,List.range_succ,List.any_append];simp only[List.any_cons,List.any_nil,Bool.or_false,e];rw[Bool.or_comm];congr 1
 rw[Bool.eq_iff_iff];simp only[List.any_eq_true,List.mem_range]
 constructor
 ·rintro⟨k,hk,h⟩;exact⟨k,hk,by rwa [e2 k hk] at h⟩
 ·rintro⟨k,hk,h⟩;exact⟨k,hk,by rwa [e2 k hk]⟩
theorem gapBad_next {g:GapD}{l:List MkD}{cyc:Int}(h:∀ m∈l,m.cyc < cyc):gapBad g l cyc=false:=by
 refine gapBad_no fun k hk=>?_
 unfold badI;rw[List.getElem?_eq_getElem hk];have:=h _ (List.getElem_mem hk);simp only;rw[decide_eq_false (by omega)];rfl
def simG (gs:List GapD)(l:List MkD)(cyc:Int):GSt:=⟨gs.map (fun g=>⟨g,lat g.fr l⟩),gs.any (fun g=>gapBad g l cyc)⟩
theorem sim_new (gs:List GapD):GSt.new gs=simG gs [] 0:=by
 unfold GSt.new simG;simp only[GSt.mk.injEq]
 refine⟨rfl,?_⟩;symm;rw[List.any_eq_false];intro g _;simp[gapBad]
theorem sim_rep (gs:List GapD)(l:List MkD)(cyc p tick:Int)(ht:tickOk tick=true):(simG gs l cyc).rep p tick=simG gs (l++[⟨p,tick,cyc⟩]) cyc:=by
 unfold GSt.rep simG;rw[if_pos ht];simp only[GSt.mk.injEq,List.map_map]
 refine⟨List.map_congr_left fun g _=>?_,?_⟩
 ·simp only[Function.comp,WG.rep,lat_snoc]
  split <;> rfl
 ·rw[List.any_map,Bool.eq_iff_iff];simp only[Bool.or_eq_true,List.any_eq_true,Function.comp]
  constructor
  ·rintro(⟨g,hg,h⟩ | ⟨g,hg,h⟩)
   ·exact⟨g,hg,by rw[gapBad_snoc _ _ _ _ rfl];simp[badM,h]⟩
   ·exact⟨g,hg,by rw[gapBad_snoc _ _ _ _ rfl,h];simp⟩
  ·rintro⟨g,hg,h⟩;rw[gapBad_snoc _ _ _ _ rfl,Bool.or_eq_true] at h
   rcases h with h | h
   ·exact Or.inl ⟨g,hg,h⟩
   ·exact Or.inr ⟨g,hg,h⟩
theorem rep_off {s:GSt}{p tick:Int}(ht:tickOk tick=false):s.rep p tick=s:=by
 unfold GSt.rep;rw[if_neg (by rw[ht];simp)]
theorem sim_end {gs:List GapD}{l:List MkD}{cyc:Int}(h:∀ m∈l,m.cyc<=cyc):(simG gs l cyc).zero=simG gs l (cyc+1):=by
 unfold GSt.zero simG;simp only[GSt.mk.injEq,true_and];symm;rw[List.any_eq_false];intro g _
 rw[gapBad_next (fun m hm=>by have:=h m hm;omega)];simp
def GSt.fit (s:GSt):Prop:=∀ x∈s.xs,-1<=x.t/\x.t<=1099511627776
theorem GSt.fit_rep {s:GSt}(h:s.fit)(p tick:Int):(s.rep p tick).fit:=by
 unfold GSt.rep
 split
 ·rename_i ht;intro x hx;simp only[List.mem_map] at hx;obtain⟨y,hy,rfl⟩:=hx;unfold WG.rep
  split
  ·simp[tickOk] at ht
   exact⟨by show -1<=tick;omega,by show tick<=_;omega⟩
  ·exact h y hy
 ·exact h
theorem GSt.fit_new (l:List GapD):(GSt.new l).fit:=by
 intro x hx;simp only[GSt.new,List.mem_map] at hx;obtain⟨y,_,rfl⟩:=hx;exact⟨by show (-1:Int)<=-1;decide,by show (-1:Int)<=_;decide⟩
def hasP (e:EntD)(p:Int):Bool:=decide (0<=p) && decide (p < (e.pts.length:Int))
def bearsE (e:EntD)(ah p:Int):Bool:=decide (e.edges=[]) || (hasP e p && (if ah=-1 then decide (p∈e.first) else decide ((ah,p)∈e.edges)))
def behindE (e:EntD)(p:Int):Int:=if hasP e p=true/\p ∉ e.last then p else -1
structure FSt where
 ah:Int
 bad:Bool
def FSt.rep (e:EntD)(s:FSt)(p:Int):FSt:=⟨behindE e p,s.bad || !bearsE e s.ah p⟩
def FSt.zero (s:FSt):FSt:=⟨s.ah,false⟩
theorem behind_fit (e:EntD)(p:Int):behindE e p=-1\/(0<=behindE e p/\behindE e p < (e.pts.length:Int)):=by
 unfold behindE
 split
 ·rename_i h;right
  have:=h.1;unfold hasP at this;simp at this
  exact this
 ·exact Or.inl rfl
def aheadOf (e:EntD)(l:List MkD):Int:=match l.getLast? with
 | some m=>behindE e m.pt
 | none=>-1
theorem aheadOf_snoc (e:EntD)(l:List MkD)(m:MkD):aheadOf e (l++[m])=behindE e m.pt:=by unfold aheadOf;simp
def fbadM (e:EntD)(l:List MkD)(m:MkD):Bool:=!bearsE e (aheadOf e l) m.pt
def fbadI (e:EntD)(l:List MkD)(cyc:Int)(i:Nat):Bool:=match l[i]? with
 | some m=>decide (m.cyc=cyc) && fbadM e (l.take i) m
 | none=>false
def flowBad (e:EntD)(l:List MkD)(cyc:Int):Bool:=(List.range l.length).any (fbadI e l cyc)
theorem flowBad_no {e:EntD}{l:List MkD}{cyc:Int}(h:∀ k,k < l.length->fbadI e l cyc k=false):flowBad e l cyc=false:=by
 unfold flowBad;rw[List.any_eq_false];intro k hk;rw[h k (by simpa using hk)];simp
theorem flowBad_snoc (e:EntD)(l:List MkD)(m:MkD)(cyc:Int)(hm:m.cyc=cyc):flowBad e (l++[m]) cyc=(flowBad e l cyc || fbadM e l m):=by
 have e1:fbadI e (l++[m]) cyc l.length=fbadM e l m:=by
  unfold fbadI;simp[hm]
 have e2:∀ k,k < l.length->fbadI e (l++[m]) cyc k=fbadI e l cyc k:=fun k hk=>by
  unfold fbadI;rw[List.getElem?_append_left hk,List.take_append_of_le_length (by omega)]
 unfold flowBad;rw[List.length_append,show [m].length=1 from rfl,List.range_succ,List.any_append];simp only[List.any_cons,List.any_nil,Bool.or_false,e1];congr 1
 rw[Bool.eq_iff_iff];simp only[List.any_eq_true,List.mem_range]
 constructor
 ·rintro⟨k,hk,h⟩;exact⟨k,hk,by rwa [e2 k hk] at h⟩
 ·rintro⟨k,hk,h⟩;exact⟨k,hk,by rwa [e2 k hk]⟩
theorem flowBad_next {e:EntD}{l:List MkD}{cyc:Int}(h:∀ m∈l,m.cyc < cyc):flowBad e l cyc=false:=by
 refine flowBad_no fun k hk=>?_
 unfold fbadI;rw[List.getElem?_eq_getElem hk];have:=h _ (List.getElem_mem hk);simp only;rw[decide_eq_false (by omega)];rfl
def simF (e:EntD)(l:List MkD)(cyc:Int):FSt:=⟨aheadOf e l,flowBad e l cyc⟩
theorem simF_new (e:EntD):simF e [] 0=⟨-1,false⟩:=by simp[simF,aheadOf,flowBad]
theorem simF_rep (e:EntD)(l:List MkD)(cyc p t:Int):(simF e l cyc).rep e p=simF e (l++[⟨p,t,cyc⟩]) cyc:=by
 unfold FSt.rep simF;rw[aheadOf_snoc,flowBad_snoc _ _ _ _ rfl];rfl
theorem simF_end {e:EntD}{l:List MkD}{cyc:Int}(h:∀ m∈l,m.cyc<=cyc):(simF e l cyc).zero=simF e l (cyc+1):=by
 unfold FSt.zero simF;rw[flowBad_next (cyc:=cyc+1) (fun m hm=>by have:=h m hm;omega)]
end Go.Proofs.YtffpcbdlbcjihadGreatDoor
namespace Go.Proofs.YtffpcbdlbcjihadGreatDoor
open Go
structure TSt where
 delay:Nat
 since:Nat
 st:Nat
def failedB:ByteArray:=⟨#[102,97,105,108,101,100]⟩
def expiredB:ByteArray:=⟨#[101,120,112,105,114,101,100]⟩
def totB:Nat->ByteArray
 | 0=>⟨#[111,107]⟩
 | 1=>failedB
 | 2=>expiredB
 | _=>⟨#[115,116,111,112,112,101,100]⟩
def hasB (l:List ByteArray)(x:ByteArray):Bool:=l.any fun y=>decide (y=x)
def worstOf (l:List ByteArray):Nat:=if hasB l expiredB=true then 2 else if hasB l failedB=true then 1 else 0
def TSt.new (d:Nat):TSt:=⟨d,0,0⟩
def TSt.cut (s:TSt):TSt:=if s.st=2/\s.since=s.delay then { s with st:=3 } else s
def TSt.fin (s:TSt)(l:List ByteArray):TSt:=
 if s.st=3 then s else if s.st=2 then TSt.cut ⟨s.delay,s.since+1,2⟩ else TSt.cut ⟨s.delay,0,worstOf l⟩
structure TFit (s:TSt)(k:Nat):Prop where
 d:s.delay<=20
 s0:s.since<=k
 lt:s.st=2->s.since < s.delay
 st:s.st<=3
 z:s.st < 2->s.since=0
theorem worst_le (l:List ByteArray):worstOf l<=2:=by unfold worstOf;split;omega;split <;> omega
theorem TFit.new {d:Nat}(h:d<=20):TFit (TSt.new d) 0:=⟨h,Nat.le_refl _,fun e=>absurd e (show ¬(0:Nat)=2 by decide),Nat.zero_le _,fun _=>rfl⟩
theorem TFit.fin {s:TSt}{k:Nat}(h:TFit s k)(l:List ByteArray):TFit (s.fin l) (k+1):=by
 unfold TSt.fin
 split
 ·exact⟨h.d,Nat.le_trans h.s0 (by omega),h.lt,h.st,h.z⟩
 ·split
  ·rename_i h2;have h3:=h.lt h2;have h4:=h.s0;unfold TSt.cut
   split
   ·exact⟨h.d,by show s.since+1<=_;omega,fun e=>absurd e (show ¬(3:Nat)=2 by decide),Nat.le_refl 3,fun e=>by have:(3:Nat) < 2:=e;omega⟩
   ·rename_i h5;exact⟨h.d,by show s.since+1<=_;omega,fun _=>by show s.since+1 < s.delay;simp only[true_and] at h5;omega,by show 2<=3;omega,fun e=>by have:(2:Nat) < 2:=e;omega⟩
  ·have hw:=worst_le l;unfold TSt.cut
   split
   ·exact⟨h.d,Nat.zero_le _,fun e=>absurd e (show ¬(3:Nat)=2 by decide),Nat.le_refl 3,fun e=>by have:(3:Nat) < 2:=e;omega⟩
   ·rename_i h5;exact⟨h.d,Nat.zero_le _,fun e=>by show 0 < s.delay;have e':worstOf l=2:=e;simp only[e',true_and] at h5;omega,by show worstOf l<=3;omega,fun _=>rfl⟩
def behind (d i:Nat):TSt:=if i < d then ⟨d,i,2⟩ else ⟨d,d,3⟩
end Go.Proofs.YtffpcbdlbcjihadGreatDoor
namespace Go.Proofs.YtffpcbdlbcjihadGreatDoor
def form:Nat->List Nat
 | 0=>[1,1]
 | 1=>[1]
 | 2=>[1]
 | 3=>[0,1]
 | 4=>[0]
 | 5=>[2,1,1]
 | 6=>[2,2,1,1]
 | 7=>[2,2]
 | _=>[2]
def kindOf (w:Bs):Option Nat:=(List.range 10).find? (fun k=>decide (kw k=w))
def may (last:Int)(k:Nat):Bool:=
 if k<=2 then decide (last=(k:Int) - 1) else if k=3 then decide (2<=last) else if k=5 then decide (3<=last) && decide (last < 5) else decide (3<=last) && decide (last<=(k:Int))
def wordV (look:Bs->Option Nat)(f:Nat)(w:Bs):Nat × Int:=
 if w=[] then (1,0) else match f with
 | 0=>(0,0)
 | 1=>match numOf w with
  | some n=>(0,(n:Int))
  | none=>(1,0)
 | _=>match look w with
  | some n=>(0,(n:Int))
  | none=>(5,0)
def fillV (look:Bs->Option Nat):Bool->List Nat->List Bs->Nat × List Int
 | nn,[],[]=>(if nn then 5 else 0,[])
 | nn,f :: fs,w :: ws=>if (wordV look f w).1=1 then (1,[]) else ((fillV look (nn || decide ((wordV look f w).1=5)) fs ws).1,(wordV look f w).2 :: (fillV look (nn || decide ((wordV look f w).1=5)) fs ws).2)
 | _,[],_ :: _=>(1,[])
 | _,_ :: _,[]=>(1,[])
def newEnt (name:Bs)(tol:Int):EntD:=⟨⟨name.toArray⟩,tol,[],-1,0,0,[],[],[],[]⟩
def updLast (f:EntD->EntD):List EntD->List EntD
 | []=>[]
 | [e]=>[f e]
 | x :: y :: t=>x :: updLast f (y :: t)
theorem updLast_snoc (f:EntD->EntD):∀ (es:List EntD) (e:EntD),updLast f (es++[e])=es++[f e]
 | [],e=>rfl
 | [x],e=>rfl
 | x :: y :: t,e=>by
  have:=updLast_snoc f (y :: t) e;simp only[List.cons_append] at this ⊢;rw[updLast,this]
def updE (k:Nat)(ws:List Bs)(vs:List Int)(e:EntD):EntD:=match k with
 | 4=>⟨e.name,e.tol,e.pts++[⟨(ws.getD 0 []).toArray⟩],e.cnt,e.mn,e.mx,e.gaps,e.edges,e.first,e.last⟩
 | 5=>⟨e.name,e.tol,e.pts,vs.getD 0 0,vs.getD 1 0,vs.getD 2 0,e.gaps,e.edges,e.first,e.last⟩
 | 6=>⟨e.name,e.tol,e.pts,e.cnt,e.mn,e.mx,e.gaps++[⟨vs.getD 0 0,vs.getD 1 0,vs.getD 2 0,vs.getD 3 0⟩],e.edges,e.first,e.last⟩
 | 7=>⟨e.name,e.tol,e.pts,e.cnt,e.mn,e.mx,e.gaps,e.edges++[(vs.getD 0 0,vs.getD 1 0)],e.first,e.last⟩
 | 8=>⟨e.name,e.tol,e.pts,e.cnt,e.mn,e.mx,e.gaps,e.edges,e.first++[vs.getD 0 0],e.last⟩
 | _=>⟨e.name,e.tol,e.pts,e.cnt,e.mn,e.mx,e.gaps,e.edges,e.first,e.last++[vs.getD 0 0]⟩
def updC (c:CfgD)(k:Nat)(ws:List Bs)(vs:List Int):CfgD:=match k with
 | 0=>⟨vs.getD 0 0,vs.getD 1 0,c.cycle,c.delay,c.ents⟩
 | 1=>⟨c.closed,c.opn,vs.getD 0 0,c.delay,c.ents⟩
 | 2=>⟨c.closed,c.opn,c.cycle,vs.getD 0 0,c.ents⟩
 | 3=>⟨c.closed,c.opn,c.cycle,c.delay,c.ents++[newEnt (ws.getD 0 []) (vs.getD 1 0)]⟩
 | k=>⟨c.closed,c.opn,c.cycle,c.delay,updLast (updE k ws vs) c.ents⟩
def lastPts (l:List EntD):List ByteArray:=match l.getLast? with
 | some e=>e.pts
 | none=>[]
structure RS where
 last:Int
 cfg:CfgD
abbrev Look:=List ByteArray->Bs->Option Nat
def lineW (look:Look)(st:RS)(h:Bs)(ws:List Bs):Nat × RS:=match kindOf h with
 | none=>(1,st)
 | some k=>if may st.last k=false then (1,st) else if (fillV (look (lastPts st.cfg.ents)) false (form k) ws).1=0 then (0,⟨k,updC st.cfg k ws (fillV (look (lastPts st.cfg.ents)) false (form k) ws).2⟩) else ((fillV (look (lastPts st.cfg.ents)) false (form k) ws).1,st)
def lineR (look:Look)(st:RS)(l:Bs):Nat × RS:=match cutBy 32 l with
 | []=>(1,st)
 | h :: ws=>lineW look st h ws
def linesR (look:Look):Nat->RS->List Bs->(Nat × Int) × RS
 | i,st,[]=>if st.last < 2 then ((1,(i:Int)),st) else ((0,-1),st)
 | i,st,l :: ls=>if (lineR look st l).1=0 then linesR look (i+1) (lineR look st l).2 ls else (((lineR look st l).1,(i:Int)),st)
def trim (s:Bs):Bs:=if s.getLast?=some 10 then s.dropLast else s
def cfg0:CfgD:=⟨0,0,0,0,[]⟩
def readR (look:Look)(s:Bs):(Nat × Int) × CfgD:=
 if 8000 < s.length then ((2,-1),cfg0) else
 if (linesR look 0 ⟨-1,cfg0⟩ (cutBy 10 (trim s))).1.1=0 then
  (if (cfgErr (linesR look 0 ⟨-1,cfg0⟩ (cutBy 10 (trim s))).2.cfg).1=0 then ((0,-1),(linesR look 0 ⟨-1,cfg0⟩ (cutBy 10 (trim s))).2.cfg) else (cfgErr (linesR look 0 ⟨-1,cfg0⟩ (cutBy 10 (trim s))).2.cfg,cfg0))
 else ((linesR look 0 ⟨-1,cfg0⟩ (cutBy 10 (trim s))).1,cfg0)
structure GoodLook (look:Look):Prop where
 hit:∀ pts w i,look pts w=some i->∃ p,pts[i]?=some p/\bl p=w
 miss:∀ pts w,look pts w=none->∀ p∈pts,bl p≠w
theorem kindOf_some {w:Bs}{k:Nat}(h:kindOf w=some k):w=kw k/\k < 10:=by
 have h1:=List.find?_some h;have h2:=List.mem_of_find?_eq_some h;simp at h1 h2
 exact⟨h1.symm,h2⟩
theorem kindOf_kw:∀ k,k < 10->kindOf (kw k)=some k:=by decide
theorem kw_clean:∀ k,k < 10->(32:UInt8) ∉ kw k/\(10:UInt8) ∉ kw k:=by decide
theorem fill_inv {look:Bs->Option Nat}{f:Nat}{fs:List Nat}{ws:List Bs}(h:(fillV look false (f :: fs) ws).1=0) :
  ∃ w ws',ws=w :: ws'/\(wordV look f w).1=0/\(fillV look false fs ws').1=0/\(fillV look false (f :: fs) ws).2=(wordV look f w).2 :: (fillV look false fs ws').2:=by
 have nn5:∀ (fs:List Nat) (ws:List Bs),(fillV look true fs ws).1≠0:=by
  intro fs
  induction fs with
  | nil=>intro ws;cases ws <;> simp[fillV]
  | cons f fs ih=>
   intro ws
   cases ws with
   | nil=>simp[fillV]
   | cons w ws=>
    unfold fillV
    split
    ·simp
    ·simpa using ih ws
 cases ws with
 | nil=>simp[fillV] at h
 | cons w ws=>
  refine⟨w,ws,rfl,?_⟩;rw[show fillV look false (f :: fs) (w :: ws)=if (wordV look f w).1=1 then (1,[]) else ((fillV look (false || decide ((wordV look f w).1=5)) fs ws).1,(wordV look f w).2 :: (fillV look (false || decide ((wordV look f w).1=5)) fs ws).2) by rw[fillV]] at h ⊢
  split at h
  ·simp at h
  ·rename_i h1;rw[if_neg h1]
   by_cases h5:(wordV look f w).1=5
   ·simp only[h5,decide_true,Bool.or_true] at h;exact absurd h (nn5 _ _)
   ·simp only[h5,decide_false,Bool.or_false] at h ⊢
    refine⟨?_,h,trivial⟩;unfold wordV at h1 h5 ⊢
    by_cases hw:w=[]
    ·rw[if_pos hw] at h1;simp at h1
    ·rw[if_neg hw] at h1 h5 ⊢
     split
     ·rfl
     ·split <;> simp_all
     ·split <;> simp_all
theorem fill_end {look:Bs->Option Nat}{ws:List Bs}(h:(fillV look false [] ws).1=0):ws=[]:=by
 cases ws with
 | nil=>rfl
 | cons=>simp[fillV] at h
theorem bl_mk (w:Bs):bl ⟨w.toArray⟩=w:=by simp[bl]
theorem bl_inj {a b:ByteArray}(h:bl a=bl b):a=b:=by
 obtain⟨⟨a⟩⟩:=a;obtain⟨⟨b⟩⟩:=b;simp[bl] at h
 subst h;rfl
theorem kwLine_join (k:Nat)(ws:List Bs):kwLine k ws=joinBy 32 (kw k) ws:=rfl
end Go.Proofs.YtffpcbdlbcjihadGreatDoor
