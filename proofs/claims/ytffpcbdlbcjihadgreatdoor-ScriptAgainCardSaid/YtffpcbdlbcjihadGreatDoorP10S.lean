/-
  Several texts as one: KpMore, PlPure, CfSplit, ScPure, Shelf2.
-/
import Derived.Test.YtffpcbdlbcjihadGreatDoorP09S
import Derived.Lib.Split
import Derived.Lib.Atoi
import Derived.Lib.AtoiBound
import Derived.Lib.Join
import Derived.Lib.Replace
import Derived.Lib.Strings
import Derived.Shelf.LaysM
import Derived.Shelf.LaysC
import Derived.Shelf.Strconv.Atoi
import Derived.Shelf.Strconv.AtoiErr
import Derived.Shelf.Strings.OnBuilder
import Derived.Shelf.Strings.Replace
import Derived.Test.YtffpcbdlbcjihadGreatDoorProg
namespace Go.Proofs.YtffpcbdlbcjihadGreatDoor
open Go.RowKit Go.Extern.Stop Go.Stop Go.Extern
def encB (b:Nat):List Value:=[.pointer (some ⟨b,0,none⟩)]
theorem KSt.on_cases (K:KSt):K.on=0\/K.on=8\/K.on=11:=by unfold KSt.on;split;exact Or.inr (Or.inl rfl);split;exact Or.inr (Or.inr rfl);exact Or.inl rfl
def stateB (n:Nat):ByteArray:=if n=8 then ⟨#[111,102,102]⟩ else if n=11 then ⟨#[114,101,115,101,116]⟩ else ⟨#[111,110]⟩
theorem app_d (K:KSt)(e k t:Nat):(K.app e k t).1.d=K.d:=by
 unfold KSt.app
 split
 ·rfl
 ·split
  ·rfl
  ·split <;> rfl
def statsL (K:KSt)(n:Nat):List ByteArray:=(K.ls.take n).map fun s=>statB s.status
theorem ends_step (c:CfgD)(K:KSt)(n:Nat){s:LSt}{e:EntD}(h0:(K.ends c n).2=0)(hs:(K.ends c n).1.ls[n]?=some s)(he:c.ents[n]?=some e):K.ends c (n+1)=if s.turns e=true then ((K.ends c n).1.setL n (s.fin e)).app n (s.kind e).toNat (K.ends c n).1.d.now else ((K.ends c n).1.setL n (s.fin e),0):=by
 have hge:c.ents.getD n noEnt=e:=by rw[List.getD_eq_getElem?_getD,he];rfl
 show (if (K.ends c n).2=0 then (K.ends c n).1.endOne c n else K.ends c n)=_
 rw[if_pos h0];unfold KSt.endOne;rw[hs];simp only[hge]
theorem ends_stop (c:CfgD)(K:KSt){m:Nat}(h:(K.ends c m).2≠0):∀ {n:Nat},m<=n->K.ends c n=K.ends c m
 | 0,hn=>by rw[show m=0 by omega]
 | n+1,hn=>by
  by_cases e:m=n+1
  ·rw[e]
  ·have ih:=ends_stop c K h (n:=n) (by omega);show (if (K.ends c n).2=0 then (K.ends c n).1.endOne c n else K.ends c n)=_
   rw[ih,if_neg h]
theorem stats_set {K:KSt}{n:Nat}{s:LSt}(hn:n < K.ls.length):statsL (K.setL n s) (n+1)=statsL K n++[statB s.status]:=by
 unfold statsL KSt.setL;simp only[];rw[List.take_add_one,List.getElem?_set_self hn,List.take_set_of_le (Nat.le_refl _),List.map_append];rfl
theorem app_ls (K:KSt)(e k t:Nat):(K.app e k t).1.ls=K.ls:=by
 unfold KSt.app
 split
 ·rfl
 ·split
  ·rfl
  ·split <;> rfl
section
variable {c:CfgD}{K:KSt}{k:Nat}
theorem ends_d (c:CfgD)(K:KSt):∀ n,(K.ends c n).1.d=K.d
 | 0=>rfl
 | n+1=>by
  have ih:=ends_d c K n;show (if (K.ends c n).2=0 then (K.ends c n).1.endOne c n else K.ends c n).1.d=_
  split
  ·unfold KSt.endOne
   split
   ·exact ih
   ·split
    ·rw[app_d];exact ih
    ·exact ih
  ·exact ih
theorem tick_now (c:CfgD)(K:KSt):(K.tick c).1.d.now<=K.d.now+1:=by
 unfold KSt.tick
 split
 ·show K.d.now<=_;omega
 ·split
  ·exact Nat.le_refl _
  ·split
   ·exact Nat.le_refl _
   ·split
    ·show (K.ticked.ends c c.ents.length).1.last.d.now<=_
     rw[last_now,ends_d];exact Nat.le_refl _
    ·rw[ends_d];exact Nat.le_refl _
theorem KFit.ticks (hr:KRt c):∀ (n:Nat) (K:KSt),KFit c K k (144*K.d.now)->K.d.now+n<=1099511627776->KFit c (K.ticks c n).1 k (144*(K.ticks c n).1.d.now)/\(K.ticks c n).1.d.now<=K.d.now+n
 | 0,K,h,_=>⟨h,Nat.le_refl _⟩
 | n+1,K,h,hn=>by
  have h1:=h.tick hr (by omega);have h2:=tick_now c K;show KFit c (if (K.tick c).2=0 then (K.tick c).1.ticks c n else K.tick c).1 k _/\(if (K.tick c).2=0 then (K.tick c).1.ticks c n else K.tick c).1.d.now<=_
  show KFit c (if (K.tick c).2=0 then (K.tick c).1.ticks c n else K.tick c).1 k (144*(if (K.tick c).2=0 then (K.tick c).1.ticks c n else K.tick c).1.d.now)/\_
  split
  ·obtain⟨a,b⟩:=KFit.ticks hr n (K.tick c).1 h1 (by omega);exact⟨a,by omega⟩
  ·exact⟨h1,by omega⟩
end
end Go.Proofs.YtffpcbdlbcjihadGreatDoor
namespace Go.Proofs.YtffpcbdlbcjihadGreatDoor
open Go
section
variable {c:CfgD}{K:KSt}{k:Nat}
theorem on_le (K:KSt):K.on<=11:=by unfold KSt.on;split;omega;split <;> omega
theorem app_le {K:KSt}(hb:Big K.c)(ho:K.c.off=false)(e kd t:Nat):(K.app e kd t).2<=11:=by
 unfold KSt.app
 split
 ·show 8<=11;omega
 ·split
  ·show 7<=11;omega
  ·split
   ·show 0<=11;omega
   ·exact putRec_err hb ho _
theorem endOne_le {K:KSt}(hb:Big K.c)(ho:K.c.off=false)(i:Nat):(K.endOne c i).2<=11:=by
 unfold KSt.endOne
 split
 ·show 0<=11;omega
 ·split
  ·exact app_le (K:=K.setL i _) hb ho _ _ _
  ·show 0<=11;omega
theorem ends_le {K:KSt}{W:Nat}(h:KFit c K k W)(ho:K.c.off=false)(hi:∀ s∈K.ls,LFit s (k+K.d.now - 1))(h1:1<=K.d.now):∀ n,(K.ends c n).2<=11
 | 0=>by show 0<=11;omega
 | n+1=>by
  show (if (K.ends c n).2=0 then (K.ends c n).1.endOne c n else K.ends c n).2<=11
  obtain⟨a,b,-⟩:=h.ends ho hi h1 n
  split
  ·rename_i h0;exact endOne_le a.big (b h0).1 n
  ·exact ends_le h ho hi h1 n
theorem tick_le {W:Nat}(h:KFit c K k W)(hn:K.d.now < 1099511627776):(K.tick c).2<=11:=by
 unfold KSt.tick
 split
 ·exact on_le K
 ·rename_i hon
  split
  ·show 11<=11;omega
  ·split
   ·show 0<=11;omega
   ·split
    ·show 0<=11;omega
    ·obtain⟨a,b,d⟩:=h.ticked hn;have hz:K.on=0:=by omega
     exact ends_le a (KSt.on_zero.1 hz).1 b d _
theorem ticks_le (hr:KRt c):∀ (n:Nat) (K:KSt),KFit c K k (144*K.d.now)->K.d.now+n<=1099511627776->(K.ticks c n).2<=11
 | 0,K,_,_=>by show 0<=11;omega
 | n+1,K,h,hn=>by
  have h2:=tick_now c K;show (if (K.tick c).2=0 then (K.tick c).1.ticks c n else K.tick c).2<=11
  split
  ·exact ticks_le hr n _ (h.tick hr (by omega)) (by omega)
  ·exact tick_le h (by omega)
theorem report_le (K:KSt)(i p:Int):(K.report c i p).2<=11:=by
 unfold KSt.report
 split
 ·exact on_le K
 ·split
  ·show 5<=11;omega
  ·split
   ·show 5<=11;omega
   ·show LSt.repN _ _ _<=11;unfold LSt.repN;split;split <;> omega;omega
theorem begin_le (K:KSt)(i:Int):(K.begin i).2<=11:=by
 unfold KSt.begin
 split
 ·exact on_le K
 ·split
  ·show 5<=11;omega
  ·split
   ·show 5<=11;omega
   ·show LSt.begN _<=11;unfold LSt.begN;split <;> omega
theorem stop_le (K:KSt)(i:Int):(K.stop i).2<=11:=by
 unfold KSt.stop
 split
 ·exact on_le K
 ·split
  ·show 5<=11;omega
  ·split
   ·show 5<=11;omega
   ·show LSt.stopN _<=11;unfold LSt.stopN;split <;> omega
theorem cut_le (K:KSt)(n:Int):(K.cut n).2<=11:=by unfold KSt.cut;split;(show 2<=11;omega);split;(show 8<=11;omega);(show 0<=11;omega)
theorem boot_le (c:CfgD)(K:KSt):(K.boot c).2<=11:=by unfold KSt.boot;split;(show 10<=11;omega);(show 0<=11;omega)
end
end Go.Proofs.YtffpcbdlbcjihadGreatDoor
namespace Go.Proofs.YtffpcbdlbcjihadGreatDoor
theorem occ_one (s:List UInt8)(c:UInt8)(i:Nat):Lib.occAt s [c] i=true ↔ s[i]?=some c:=by
 unfold Lib.occAt
 constructor
 ·intro h
  cases hd:s.drop i with
  | nil=>rw[hd] at h;simp[List.isPrefixOf] at h
  | cons x t=>
   rw[hd] at h;simp[List.isPrefixOf] at h
   have e:s[i]?=(s.drop i)[0]?:=by simp
   rw[e,hd,<- h];rfl
 ·intro h;have e:s.drop i=c :: s.drop (i+1):=by
   obtain⟨hi,hc⟩:=List.getElem?_eq_some_iff.1 h;rw[List.drop_eq_getElem_cons hi,hc]
  rw[e];simp[List.isPrefixOf]
theorem split_one (c:UInt8):∀ (n:Nat) (s:List UInt8),s.length<=n->Lib.split s [c]=cutBy c s:=by
 intro n
 induction n with
 | zero=>
  intro s hs;obtain rfl:s=[]:=List.eq_nil_of_length_eq_zero (by omega);have:Lib.index [] [c]=-1:=by rcases Lib.index_spec [] [c] with ⟨h,-⟩ | ⟨i,-,-,h,-⟩;exact h;exact absurd ((occ_one _ _ _).1 h) (by simp)
  unfold Lib.split;rw[Lib.count_miss this];rfl
 | succ n ih=>
  intro s hs
  rcases Lib.index_spec s [c] with ⟨h,hno⟩ | ⟨i,h,hi,ho,hno⟩
  ·have hc:c ∉ s:=fun hm=>by
    obtain⟨j,hj,e⟩:=List.getElem_of_mem hm;have:=hno j (by omega);have h2:=(occ_one s c j).2 (by rw[List.getElem?_eq_getElem hj,e]);rw[this] at h2
    cases h2
   unfold Lib.split;rw[Lib.count_miss h,cut_nil c s hc];rfl
  ·have hic:=(occ_one s c i).1 ho;obtain⟨hil,hcv⟩:=List.getElem?_eq_some_iff.1 hic;have e1:s=s.take i++c :: s.drop (i+1):=by
    have:s.drop i=c :: s.drop (i+1):=by rw[List.drop_eq_getElem_cons hil,hcv]
    rw[<- this,List.take_append_drop]
   have hc:c ∉ s.take i:=fun hm=>by
    obtain⟨j,hj,e⟩:=List.getElem_of_mem hm;have hji:j < i:=by rw[List.length_take] at hj;omega
    have h2:=(occ_one s c j).2 (by rw[List.getElem_take] at e;rw[List.getElem?_eq_getElem (by omega),e]);have:=hno j hji;rw[this] at h2
    cases h2
   have e2:Lib.split s [c]=s.take i :: Lib.split (s.drop (i+1)) [c]:=by
    unfold Lib.split;rw[Lib.count_hit (by simp) h,Nat.add_comm 1,Lib.splitK];have hm:¬(Lib.index s [c] == -1)=true:=fun e=>by have:=beq_iff_eq.1 e;omega
    have et:(Lib.index s [c]).toNat=i:=by omega
    rw[if_neg hm,et];rfl
   rw[e2,ih (s.drop (i+1)) (by rw[List.length_drop];omega)];have e3:cutBy c (c :: s.drop (i+1))=[] :: cutBy c (s.drop (i+1)):=by rw[cutBy,if_pos rfl]
   have e4:=cut_pre c _ _ _ e3 (s.take i) hc;rw[<- e1] at e4;rw[e4];simp
theorem splitB_one (c:UInt8)(s sep:ByteArray)(hs:sep.data.toList=[c]):(Lib.splitB sep 0 (Lib.countB s sep) s).map (·.data.toList)=cutBy c s.data.toList:=by
 rw[Lib.splitB_data,hs];have e:Lib.countB s sep=Lib.count s.data.toList [c]:=by unfold Lib.countB;rw[hs]
 rw[e];exact split_one c _ _ (Nat.le_refl _)
end Go.Proofs.YtffpcbdlbcjihadGreatDoor
namespace Go.Proofs.YtffpcbdlbcjihadGreatDoor
open Go
def scWord:Nat->Bs
 | 0=>[98,101,103,105,110]
 | 1=>[115,116,111,112]
 | 2=>[114,101,112,111,114,116]
 | 3=>[116,105,99,107]
 | 4=>[99,117,116]
 | 5=>[98,111,111,116]
 | 6=>[110,111,119]
 | 7=>[107,105,99,107,115]
 | 8=>[115,116,97,116,117,115]
 | 9=>[116,111,116,97,108]
 | 10=>[115,116,97,116,101]
 | 11=>[99,97,117,115,101]
 | 12=>[108,111,103]
 | _=>[99,111,110,102,105,103]
def scKind (w:Bs):Option Nat:=(List.range 14).find? (fun k=>decide (scWord k=w))
def scDigs:Nat->List Int
 | 0=>[1]
 | 1=>[1]
 | 2=>[1,5]
 | 3=>[5]
 | 4=>[5]
 | 8=>[1]
 | _=>[]
def scNum (w:Bs)(d:Int):Option Int:=if d < (w.length:Int) then none else match Lib.atoi w with
 | some n=>if n < 0\/num n≠w then none else some n
 | none=>none
def scNums:List Int->List Bs->Option (List Int)
 | [],[]=>some []
 | d :: ds,w :: ws=>match scNum w d with
  | none=>none
  | some n=>(scNums ds ws).map (fun t=>n :: t)
 | _,_=>none
def recT (r:Rec):Bs:=Lib.join [num r.seq,num r.ent,num r.kind,num r.tick] [32]
def nothT:Bs:=[110,111,116,104,105,110,103]
def okT:Bs:=[111,107]
def causeT (L:List Rec):Bs:=if L.length=0 then nothT else recT (lastR L)
def logT (L:List Rec):Bs:=if L.length=0 then nothT else Lib.join (L.map recT) [44,32]
def cfgT (c:CfgD):Bs:=Lib.replaceAll (Lib.trimSuffix (confText c) [10]) [10] [59,32]
def doneT (j:Nat):Bs:=if j=0 then okT else []
def scAct (p:KSt × Nat):KSt × Bs × Nat:=(p.1,doneT p.2,p.2)
def KSt.scDo (c:CfgD)(K:KSt)(ns:List Int):Nat->KSt × Bs × Nat
 | 0=>scAct (K.begin (ns.getD 0 0))
 | 1=>scAct (K.stop (ns.getD 0 0))
 | 2=>scAct (K.report c (ns.getD 0 0) (ns.getD 1 0))
 | 3=>scAct (K.ticks c (ns.getD 0 0).toNat)
 | 4=>scAct (K.cut (ns.getD 0 0))
 | 5=>scAct (K.boot c)
 | 6=>(K,num K.d.now,0)
 | 7=>(K,num K.d.kicks,0)
 | 8=>match K.ls[(ns.getD 0 0).toNat]? with
  | some s=>(K,bl (statB s.status),0)
  | none=>(K,[],5)
 | 9=>(K,bl (totB K.t.st),0)
 | 10=>(K,bl (stateB K.on),0)
 | 11=>(K,causeT K.L,0)
 | 12=>(K,logT K.L,0)
 | _=>(K,cfgT c,0)
def KSt.scWords (c:CfgD)(K:KSt):List Bs->KSt × Bs × Nat
 | []=>(K,[],1)
 | h :: ws=>match scKind h with
  | none=>(K,[],1)
  | some k=>match scNums (scDigs k) ws with
   | none=>(K,[],1)
   | some ns=>K.scDo c ns k
def KSt.scPlay (c:CfgD)(K:KSt)(l:Bs):KSt × Bs × Nat:=K.scWords c (cutBy 32 l)
def scOut (T:Nat->Bs)(p:KSt × Bs × Nat):Bs:=if p.2.2=0 then p.2.1 else T p.2.2
def scRun (c:CfgD):KSt->List Bs->KSt
 | K,[]=>K
 | K,l :: t=>scRun c (K.scPlay c l).1 t
def scAns (c:CfgD)(T:Nat->Bs):KSt->List Bs->List Bs
 | _,[]=>[]
 | K,l :: t=>scOut T (K.scPlay c l) :: scAns c T (K.scPlay c l).1 t
def scTickW:List Bs->Nat
 | []=>0
 | h :: ws=>if scKind h=some 3 then (((scNums [5] ws).getD []).getD 0 0).toNat else 0
def scTick (l:Bs):Nat:=scTickW (cutBy 32 l)
def scTicks:List Bs->Nat
 | []=>0
 | l :: t=>scTick l+scTicks t
section
variable {c:CfgD}{T:Nat->Bs}{K:KSt}{k:Nat}
theorem scRun_append (c:CfgD):∀ (l t:List Bs) (K:KSt),scRun c K (l++t)=scRun c (scRun c K l) t
 | [],_,_=>rfl
 | v :: l,t,K=>scRun_append c l t (K.scPlay c v).1
theorem scAns_append (c:CfgD)(T:Nat->Bs):∀ (l t:List Bs) (K:KSt),scAns c T K (l++t)=scAns c T K l++scAns c T (scRun c K l) t
 | [],_,_=>rfl
 | v :: l,t,K=>by
  show _ :: scAns c T _ (l++t)=_ :: (_++_)
  rw[scAns_append c T l t (K.scPlay c v).1];rfl
theorem scAns_length (c:CfgD)(T:Nat->Bs):∀ (l:List Bs) (K:KSt),(scAns c T K l).length=l.length
 | [],_=>rfl
 | v :: l,K=>by show (scAns c T _ l).length+1=l.length+1;rw[scAns_length c T l]
theorem scRun_take {l:List Bs}{i:Nat}{v:Bs}(h:l[i]?=some v):scRun c K (l.take (i+1))=((scRun c K (l.take i)).scPlay c v).1:=by
 rw[List.take_add_one,h,scRun_append];rfl
theorem scAns_take {l:List Bs}{i:Nat}{v:Bs}(h:l[i]?=some v):scAns c T K (l.take (i+1))=scAns c T K (l.take i)++[scOut T ((scRun c K (l.take i)).scPlay c v)]:=by
 rw[List.take_add_one,h,scAns_append];rfl
theorem scTicks_append:∀ (l t:List Bs),scTicks (l++t)=scTicks l+scTicks t
 | [],t=>(Nat.zero_add _).symm
 | v :: l,t=>by show scTick v+scTicks (l++t)=scTick v+scTicks l+scTicks t;rw[scTicks_append l t,Nat.add_assoc]
theorem scTicks_take (l:List Bs)(i:Nat):scTicks (l.take i)<=scTicks l:=by
 have:=scTicks_append (l.take i) (l.drop i);rw[List.take_append_drop] at this;omega
theorem scNum_some {w:Bs}{d n:Int}(h:scNum w d=some n):0<=n/\num n=w/\(w.length:Int)<=d/\Lib.atoi w=some n:=by
 unfold scNum at h
 split at h
 ·cases h
 ·rename_i hd
  split at h
  ·rename_i m hm
   split at h
   ·cases h
   ·rename_i hc
    cases h
    refine⟨by omega,Classical.byContradiction fun e=>hc (Or.inr e),by omega,hm⟩
  ·cases h
theorem scNums_len:∀ (ds:List Int) (ws:List Bs) (ns:List Int),(∀ d∈ds,d<=18)->scNums ds ws=some ns->ns.length=ds.length/\ws.length=ds.length/\∀ n∈ns,0<=n/\n < 1000000000000000000
 | [],[],ns,_,h=>by cases h;exact⟨rfl,rfl,fun n hn=>by cases hn⟩
 | [],_ :: _,_,_,h=>by cases h
 | _ :: _,[],_,_,h=>by cases h
 | d :: ds,w :: ws,ns,hd,h=>by
  rw[scNums] at h
  split at h
  ·cases h
  ·rename_i n hn
   cases ht:scNums ds ws with
   | none=>rw[ht] at h;cases h
   | some t=>
    rw[ht] at h
    cases h
    obtain⟨a,b,e⟩:=scNums_len ds ws t (fun x hx=>hd x (List.mem_cons_of_mem _ hx)) ht
    refine⟨by simp[a],by simp[b],fun m hm=>?_⟩
    rcases List.mem_cons.1 hm with rfl | hm
    ·obtain⟨s1,-,s3,s4⟩:=scNum_some hn;have:=hd d (List.mem_cons_self ..);exact⟨s1,(Lib.atoi_bound s4 (by omega)).2⟩
    ·exact e m hm
theorem scDigs_le (k:Nat):∀ d∈scDigs k,d<=18:=by
 unfold scDigs
 split <;> intro d hd <;> simp at hd <;> omega
theorem getD_bnd {ns:List Int}(h:∀ n∈ns,0<=n/\n < 1000000000000000000)(i:Nat):0<=ns.getD i 0/\ns.getD i 0 < 1000000000000000000:=by
 rw[List.getD_eq_getElem?_getD]
 cases e:ns[i]? with
 | none=>exact⟨Int.le_refl _,by decide⟩
 | some n=>exact h n (List.mem_of_getElem? e)
theorem scKind_some {w:Bs}(h:scKind w=some k):k < 14/\scWord k=w:=by
 unfold scKind at h;have h1:=List.find?_some h;have h2:=List.mem_of_find?_eq_some h;exact⟨List.mem_range.1 h2,of_decide_eq_true h1⟩
theorem scKind_none {w:Bs}(h:scKind w=none):∀ k,k < 14->scWord k≠w:=by
 unfold scKind at h;intro k hk e;have:=List.find?_eq_none.1 h k (List.mem_range.2 hk);exact this (decide_eq_true e)
theorem act_fit {p:KSt × Nat}(n:Nat)(h:KFit c p.1 (k+1) (144*p.1.d.now)/\p.1.d.now<=K.d.now+n)(h2:p.2<=11):KFit c (scAct p).1 (k+1) (144*(scAct p).1.d.now)/\(scAct p).1.d.now<=K.d.now+n/\(scAct p).2.2<=11:=⟨h.1,h.2,h2⟩
theorem scDo_fit (hr:KRt c)(h:KFit c K k (144*K.d.now))(ns:List Int)(hb:∀ n∈ns,0<=n/\n < 1000000000000000000)(kd N:Nat)(hN:kd=3->(ns.getD 0 0).toNat<=N)(hn:K.d.now+N<=1099511627776) :
  KFit c (K.scDo c ns kd).1 (k+1) (144*(K.scDo c ns kd).1.d.now)/\(K.scDo c ns kd).1.d.now<=K.d.now+N/\(K.scDo c ns kd).2.2<=11:=by
 have hsame:KFit c K (k+1) (144*K.d.now)/\K.d.now<=K.d.now+N:=⟨h.mono (by omega) (Nat.le_refl _),by omega⟩;unfold KSt.scDo
 split
 ·exact act_fit N (by rw[begin_now];exact⟨h.begin _,by omega⟩) (begin_le K _)
 ·exact act_fit N (by rw[stop_now];exact⟨h.stop _,by omega⟩) (stop_le K _)
 ·exact act_fit N (by rw[report_now];exact⟨h.report _ _,by omega⟩) (report_le K _ _)
 ·have:=hN rfl;obtain⟨a,b⟩:=KFit.ticks hr (ns.getD 0 0).toNat K h (by omega);exact act_fit N ⟨a.mono (by omega) (Nat.le_refl _),by omega⟩ (ticks_le hr _ K h (by omega))
 ·exact act_fit N (by rw[cut_now];exact⟨(h.cut _ (by have:=getD_bnd hb 0;omega)).mono (by omega) (Nat.le_refl _),by omega⟩) (cut_le K _)
 ·exact act_fit N (by rw[boot_now];exact⟨(h.boot hr).mono (by omega) (Nat.le_refl _),by omega⟩) (boot_le c K)
 ·exact⟨hsame.1,hsame.2,Nat.zero_le _⟩
 ·exact⟨hsame.1,hsame.2,Nat.zero_le _⟩
 ·split
  ·exact⟨hsame.1,hsame.2,Nat.zero_le _⟩
  ·exact⟨hsame.1,hsame.2,by show 5<=11;omega⟩
 ·exact⟨hsame.1,hsame.2,Nat.zero_le _⟩
 ·exact⟨hsame.1,hsame.2,Nat.zero_le _⟩
 ·exact⟨hsame.1,hsame.2,Nat.zero_le _⟩
 ·exact⟨hsame.1,hsame.2,Nat.zero_le _⟩
 ·exact⟨hsame.1,hsame.2,Nat.zero_le _⟩
theorem scWords_none {w:Bs}{ws:List Bs}(h:scKind w=none):K.scWords c (w :: ws)=(K,[],1):=by rw[KSt.scWords,h]
theorem scWords_bad {w:Bs}{ws:List Bs}{kd:Nat}(h:scKind w=some kd)(h2:scNums (scDigs kd) ws=none):K.scWords c (w :: ws)=(K,[],1):=by rw[KSt.scWords,h];show (match scNums (scDigs kd) ws with | none=>_ | some ns=>_)=_;rw[h2]
theorem scWords_ok {w:Bs}{ws:List Bs}{kd:Nat}{ns:List Int}(h:scKind w=some kd)(h2:scNums (scDigs kd) ws=some ns):K.scWords c (w :: ws)=K.scDo c ns kd:=by rw[KSt.scWords,h];show (match scNums (scDigs kd) ws with | none=>_ | some ns=>_)=_;rw[h2]
theorem scWords_fit (hr:KRt c)(h:KFit c K k (144*K.d.now))(ws:List Bs)(hn:K.d.now+scTickW ws<=1099511627776) :
  KFit c (K.scWords c ws).1 (k+1) (144*(K.scWords c ws).1.d.now)/\(K.scWords c ws).1.d.now<=K.d.now+scTickW ws/\(K.scWords c ws).2.2<=11:=by
 have hsame:KFit c K (k+1) (144*K.d.now)/\K.d.now<=K.d.now+scTickW ws/\1<=11:=⟨h.mono (by omega) (Nat.le_refl _),by omega,by omega⟩
 cases ws with
 | nil=>exact hsame
 | cons w ws=>
  cases hk:scKind w with
  | none=>rw[scWords_none hk];exact hsame
  | some kd=>
   cases hs:scNums (scDigs kd) ws with
   | none=>rw[scWords_bad hk hs];exact hsame
   | some ns=>
    rw[scWords_ok hk hs]
    refine scDo_fit hr h ns (scNums_len _ _ _ (scDigs_le kd) hs).2.2 kd _ (fun e=>?_) hn;subst e;show _<=(if scKind w=some 3 then _ else _)
    rw[if_pos hk,show scNums [5] ws=some ns from hs];exact Nat.le_refl _
theorem scPlay_fit (hr:KRt c)(h:KFit c K k (144*K.d.now))(l:Bs)(hn:K.d.now+scTick l<=1099511627776) :
  KFit c (K.scPlay c l).1 (k+1) (144*(K.scPlay c l).1.d.now)/\(K.scPlay c l).1.d.now<=K.d.now+scTick l/\(K.scPlay c l).2.2<=11:=scWords_fit hr h _ hn
theorem scRun_fit (hr:KRt c):∀ (l:List Bs) (K:KSt) (k:Nat),KFit c K k (144*K.d.now)->K.d.now+scTicks l<=900000->KFit c (scRun c K l) (k+l.length) (144*(scRun c K l).d.now)/\(scRun c K l).d.now<=K.d.now+scTicks l
 | [],K,k,h,_=>⟨h,Nat.le_refl _⟩
 | v :: l,K,k,h,hn=>by
  have hl:scTicks (v :: l)=scTick v+scTicks l:=rfl;obtain⟨a,b,-⟩:=scPlay_fit hr h v (by omega);obtain⟨a2,b2⟩:=scRun_fit hr l _ _ a (by omega);have e:k+(v :: l).length=k+1+l.length:=by simp;omega
  rw[e];exact⟨a2,by show (scRun c (K.scPlay c v).1 l).d.now<=_;omega⟩
end
end Go.Proofs.YtffpcbdlbcjihadGreatDoor
namespace Go.Proofs
open Go.Shelf
def Tryz.lays156_ren:Go.Shelf.Ren:=⟨fun | 156=>126 | 165=>176 | 166=>177 | 169=>34 | 240=>212 | 241=>246 | 276=>256 | 277=>286 | n=>n,fun | 31=>22 | 9=>9 | 3=>3 | 4=>4 | 0=>0 | 20=>20 | 72=>89 | 76=>258 | 70=>87 | 37=>58 | 75=>25 | 127=>156 | 164=>191 | 5=>5 | 80=>93 | n=>n,fun | n=>n⟩
theorem Tryz.lays156:Go.Proofs.Lays.n156 Tryz.prog Tryz.lays156_ren:={
 mixed:=by kernel_rfl
 f156:=Tryz.func126.trans (congrArg some (by kernel_rfl))
 f165:=Tryz.func176.trans (congrArg some (by kernel_rfl))
 f166:=Tryz.func177.trans (congrArg some (by kernel_rfl))
 f169:=Tryz.func34.trans (congrArg some (by kernel_rfl))
 f240:=Tryz.func212.trans (congrArg some (by kernel_rfl))
 f241:=Tryz.func246.trans (congrArg some (by kernel_rfl))
 f276:=Tryz.func256.trans (congrArg some (by kernel_rfl))
 f277:=Tryz.func286.trans (congrArg some (by kernel_rfl))
 t0:=Tryz.underlying0
 a0:=Tryz.isAgg0
 z0:=Tryz.sizeOf0
 v0:=Tryz.zeroValue0
 t3:=Tryz.underlying3
 a3:=Tryz.isAgg3
 z3:=Tryz.sizeOf3
 v3:=Tryz.zeroValue3
 t4:=Tryz.underlying4
 a4:=Tryz.isAgg4
 z4:=Tryz.sizeOf4
 v4:=Tryz.zeroValue4
 t9:=Tryz.underlying9
 a9:=Tryz.isAgg9
 z9:=Tryz.sizeOf9
 v9:=Tryz.zeroValue9
 t20:=Tryz.underlying20
 a20:=Tryz.isAgg20
 z20:=Tryz.sizeOf20
 v20:=Tryz.zeroValue20
 t31:=Tryz.underlying22
 a31:=Tryz.isAgg22
 z31:=Tryz.sizeOf22
 v31:=Tryz.zeroValue22
 t37:=Tryz.underlying58
 a37:=Tryz.isAgg58
 z37:=Tryz.sizeOf58
 v37:=Tryz.zeroValue58
 t70:=Tryz.underlying87
 a70:=Tryz.isAgg87
 z70:=Tryz.sizeOf87
 v70:=Tryz.zeroValue87
 t72:=Tryz.underlying89
 a72:=Tryz.isAgg89
 z72:=Tryz.sizeOf89
 v72:=Tryz.zeroValue89
 t75:=Tryz.underlying25
 a75:=Tryz.isAgg25
 z75:=Tryz.sizeOf25
 v75:=Tryz.zeroValue25
 t76:=Tryz.underlying258
 a76:=Tryz.isAgg258
 z76:=Tryz.sizeOf258
 v76:=Tryz.zeroValue258
 t127:=Tryz.underlying156
 a127:=Tryz.isAgg156
 z127:=Tryz.sizeOf156
 v127:=Tryz.zeroValue156
 t164:=Tryz.underlying191
 a164:=Tryz.isAgg191
 z164:=Tryz.sizeOf191
 v164:=Tryz.zeroValue191 }
theorem Tryz.Builder_Extra_156:Builder.Extra Tryz.prog Tryz.lays156_ren:={
 sizeBuilder:=by kernel_rfl
 liesBuilder:=by kernel_rfl
 t5:=Tryz.underlying5
 a5:=Tryz.isAgg5
 z5:=Tryz.sizeOf5
 v5:=Tryz.zeroValue5
 infoByte:=by kernel_rfl
 cellsByte:=by kernel_rfl
 sizeByte:=by kernel_rfl
 neB5:=by decide }
open Go.RowKit in
theorem Tryz.strings_Join (bk o c:Nat)(xs:List ByteArray)(sep:ByteArray)(w:World)(hcells:∀ (j:Nat) x,xs[j]?=some x->w.cell? ⟨bk,o+j,none⟩=some (.string x))(hbk:bk < w.heap.size)(hN:xs.length<=140737488355328)(hcap:xs.length<=c)(hlen:(Lib.join (xs.map (·.data.toList)) sep.data.toList).length<=140737488355328) :
  Calls Tryz.prog 126 #[.slice (some ⟨bk,o,none⟩) xs.length c,.string sep] w fun e w'=>e=.returned (.string ⟨(Lib.join (xs.map (·.data.toList)) sep.data.toList).toArray⟩)/\Below w.heap.size w w':=Any.strings_Join Tryz.lays156 Tryz.Builder_Extra_156 bk o c xs sep w hcells hbk hN hcap hlen
def Tryz.lays172_ren:Go.Shelf.Ren:=⟨fun | 172=>248 | 244=>288 | 245=>289 | 247=>314 | 279=>315 | 280=>316 | 281=>317 | 282=>318 | 287=>332 | 316=>333 | 171=>63 | 205=>334 | 321=>336 | 322=>337 | 243=>115 | 246=>173 | 283=>241 | 284=>242 | 285=>243 | 286=>244 | 129=>282 | 317=>281 | 318=>283 | 319=>284 | 320=>285 | 337=>312 | 338=>313 | n=>n,fun | 9=>9 | 3=>3 | 75=>25 | 76=>258 | 4=>4 | 5=>5 | 167=>378 | 37=>58 | 0=>0 | 85=>379 | 2=>2 | 168=>381 | 53=>315 | 175=>394 | 46=>357 | 210=>397 | 127=>156 | 145=>402 | 143=>400 | 21=>21 | 171=>314 | 173=>318 | 212=>354 | 51=>355 | 20=>20 | 213=>356 | 232=>392 | 233=>393 | 80=>93 | n=>n,fun | 15=>19 | 16=>20 | 17=>13 | 18=>17 | 19=>18 | n=>n⟩
theorem Tryz.lays172:Go.Proofs.Lays.n172 Tryz.prog Tryz.lays172_ren:={
 mixed:=by kernel_rfl
 f129:=Tryz.func282.trans (congrArg some (by kernel_rfl))
 f171:=Tryz.func63.trans (congrArg some (by kernel_rfl))
 f172:=Tryz.func248.trans (congrArg some (by kernel_rfl))
 f205:=Tryz.func334.trans (congrArg some (by kernel_rfl))
 f243:=Tryz.func115.trans (congrArg some (by kernel_rfl))
 f244:=Tryz.func288.trans (congrArg some (by kernel_rfl))
 f245:=Tryz.func289.trans (congrArg some (by kernel_rfl))
 f246:=Tryz.func173.trans (congrArg some (by kernel_rfl))
 f247:=Tryz.func314.trans (congrArg some (by kernel_rfl))
 f279:=Tryz.func315.trans (congrArg some (by kernel_rfl))
 f280:=Tryz.func316.trans (congrArg some (by kernel_rfl))
 f281:=Tryz.func317.trans (congrArg some (by kernel_rfl))
 f282:=Tryz.func318.trans (congrArg some (by kernel_rfl))
 f283:=Tryz.func241.trans (congrArg some (by kernel_rfl))
 f284:=Tryz.func242.trans (congrArg some (by kernel_rfl))
 f285:=Tryz.func243.trans (congrArg some (by kernel_rfl))
 f286:=Tryz.func244.trans (congrArg some (by kernel_rfl))
 f287:=Tryz.func332.trans (congrArg some (by kernel_rfl))
 f316:=Tryz.func333.trans (congrArg some (by kernel_rfl))
 f317:=Tryz.func281.trans (congrArg some (by kernel_rfl))
 f318:=Tryz.func283.trans (congrArg some (by kernel_rfl))
 f319:=Tryz.func284.trans (congrArg some (by kernel_rfl))
 f320:=Tryz.func285.trans (congrArg some (by kernel_rfl))
 f321:=Tryz.func336.trans (congrArg some (by kernel_rfl))
 f322:=Tryz.func337.trans (congrArg some (by kernel_rfl))
 f337:=Tryz.func312.trans (congrArg some (by kernel_rfl))
 f338:=Tryz.func313.trans (congrArg some (by kernel_rfl))
 t0:=Tryz.underlying0
 a0:=Tryz.isAgg0
 z0:=Tryz.sizeOf0
 v0:=Tryz.zeroValue0
 t2:=Tryz.underlying2
 a2:=Tryz.isAgg2
 z2:=Tryz.sizeOf2
 v2:=Tryz.zeroValue2
 t3:=Tryz.underlying3
 a3:=Tryz.isAgg3
 z3:=Tryz.sizeOf3
 v3:=Tryz.zeroValue3
 t4:=Tryz.underlying4
 a4:=Tryz.isAgg4
 z4:=Tryz.sizeOf4
 v4:=Tryz.zeroValue4
 t5:=Tryz.underlying5
 a5:=Tryz.isAgg5
 z5:=Tryz.sizeOf5
 v5:=Tryz.zeroValue5
 t9:=Tryz.underlying9
 a9:=Tryz.isAgg9
 z9:=Tryz.sizeOf9
 v9:=Tryz.zeroValue9
 t20:=Tryz.underlying20
 a20:=Tryz.isAgg20
 z20:=Tryz.sizeOf20
 v20:=Tryz.zeroValue20
 t21:=Tryz.underlying21
 a21:=Tryz.isAgg21
 z21:=Tryz.sizeOf21
 v21:=Tryz.zeroValue21
 t37:=Tryz.underlying58
 a37:=Tryz.isAgg58
 z37:=Tryz.sizeOf58
 v37:=Tryz.zeroValue58
 t46:=Tryz.underlying357
 a46:=Tryz.isAgg357
 z46:=Tryz.sizeOf357
 v46:=Tryz.zeroValue357
 t51:=Tryz.underlying355
 a51:=Tryz.isAgg355
 z51:=Tryz.sizeOf355
 v51:=Tryz.zeroValue355
 t53:=Tryz.underlying315
 a53:=Tryz.isAgg315
 z53:=Tryz.sizeOf315
 v53:=Tryz.zeroValue315
 t75:=Tryz.underlying25
 a75:=Tryz.isAgg25
 z75:=Tryz.sizeOf25
 v75:=Tryz.zeroValue25
 t76:=Tryz.underlying258
 a76:=Tryz.isAgg258
 z76:=Tryz.sizeOf258
 v76:=Tryz.zeroValue258
 t85:=Tryz.underlying379
 a85:=Tryz.isAgg379
 z85:=Tryz.sizeOf379
 v85:=Tryz.zeroValue379
 t127:=Tryz.underlying156
 a127:=Tryz.isAgg156
 z127:=Tryz.sizeOf156
 v127:=Tryz.zeroValue156
 t143:=Tryz.underlying400
 a143:=Tryz.isAgg400
 z143:=Tryz.sizeOf400
 v143:=Tryz.zeroValue400
 t145:=Tryz.underlying402
 a145:=Tryz.isAgg402
 z145:=Tryz.sizeOf402
 v145:=Tryz.zeroValue402
 t167:=Tryz.underlying378
 a167:=Tryz.isAgg378
 z167:=Tryz.sizeOf378
 v167:=Tryz.zeroValue378
 t168:=Tryz.underlying381
 a168:=Tryz.isAgg381
 z168:=Tryz.sizeOf381
 v168:=Tryz.zeroValue381
 t171:=Tryz.underlying314
 a171:=Tryz.isAgg314
 z171:=Tryz.sizeOf314
 v171:=Tryz.zeroValue314
 t173:=Tryz.underlying318
 a173:=Tryz.isAgg318
 z173:=Tryz.sizeOf318
 v173:=Tryz.zeroValue318
 t175:=Tryz.underlying394
 a175:=Tryz.isAgg394
 z175:=Tryz.sizeOf394
 v175:=Tryz.zeroValue394
 t210:=Tryz.underlying397
 a210:=Tryz.isAgg397
 z210:=Tryz.sizeOf397
 v210:=Tryz.zeroValue397
 t212:=Tryz.underlying354
 a212:=Tryz.isAgg354
 z212:=Tryz.sizeOf354
 v212:=Tryz.zeroValue354
 t213:=Tryz.underlying356
 a213:=Tryz.isAgg356
 z213:=Tryz.sizeOf356
 t232:=Tryz.underlying392
 a232:=Tryz.isAgg392
 z232:=Tryz.sizeOf392
 v232:=Tryz.zeroValue392
 t233:=Tryz.underlying393
 a233:=Tryz.isAgg393
 z233:=Tryz.sizeOf393
 v233:=Tryz.zeroValue393
 g15:=by kernel_rfl
 g16:=by kernel_rfl
 g17:=by kernel_rfl
 g18:=by kernel_rfl
 g19:=by kernel_rfl }
open Go.RowKit in
theorem Tryz.strconv_Atoi (s:ByteArray)(n:Int)(hl:s.size<=18)(h:Lib.atoi s.data.toList=some n)(w:World) :
  Calls Tryz.prog 248 #[.string s] w fun e w'=>e=.returned (.tuple #[.int .i64 n,.nilIface])/\∃ t,w'=Lib.bytesWorld w 5 t:=Any.strconv_Atoi Tryz.lays172 s n hl h w
def Tryz.laysC172_ren:Go.Shelf.Ren:=⟨fun | 172=>248 | 244=>288 | 245=>289 | 247=>314 | 279=>315 | 280=>316 | 281=>317 | 282=>318 | 287=>332 | 316=>333 | 171=>63 | 205=>334 | 321=>336 | 322=>337 | 243=>115 | 246=>173 | 283=>241 | 284=>242 | 285=>243 | 286=>244 | 129=>282 | 317=>281 | 318=>283 | 319=>284 | 320=>285 | 337=>312 | 338=>313 | n=>n,fun | 9=>9 | 3=>3 | 75=>25 | 76=>258 | 4=>4 | 5=>5 | 167=>378 | 37=>58 | 0=>0 | 85=>379 | 2=>2 | 168=>381 | 53=>315 | 175=>394 | 46=>357 | 210=>397 | 127=>156 | 145=>402 | 143=>400 | 21=>21 | 171=>314 | 173=>318 | 212=>354 | 51=>355 | 20=>20 | 213=>356 | 232=>392 | 233=>393 | 80=>93 | n=>n,fun | 15=>19 | 16=>20 | 17=>13 | 18=>17 | 19=>18 | n=>n⟩
theorem Tryz.laysC172:Go.Proofs.LaysC.n172 Tryz.prog Tryz.laysC172_ren:={
 mixed:=by kernel_rfl
 f129:=Tryz.func282.trans (congrArg some (by kernel_rfl))
 f171:=Tryz.func63.trans (congrArg some (by kernel_rfl))
 f172:=Tryz.func248.trans (congrArg some (by kernel_rfl))
 f205:=Tryz.func334.trans (congrArg some (by kernel_rfl))
 f243:=Tryz.func115.trans (congrArg some (by kernel_rfl))
 f244:=Tryz.func288.trans (congrArg some (by kernel_rfl))
 f245:=Tryz.func289.trans (congrArg some (by kernel_rfl))
 f246:=Tryz.func173.trans (congrArg some (by kernel_rfl))
 f247:=Tryz.func314.trans (congrArg some (by kernel_rfl))
 f279:=Tryz.func315.trans (congrArg some (by kernel_rfl))
 f280:=Tryz.func316.trans (congrArg some (by kernel_rfl))
 f281:=Tryz.func317.trans (congrArg some (by kernel_rfl))
 f282:=Tryz.func318.trans (congrArg some (by kernel_rfl))
 f283:=Tryz.func241.trans (congrArg some (by kernel_rfl))
 f284:=Tryz.func242.trans (congrArg some (by kernel_rfl))
 f285:=Tryz.func243.trans (congrArg some (by kernel_rfl))
 f286:=Tryz.func244.trans (congrArg some (by kernel_rfl))
 f287:=Tryz.func332.trans (congrArg some (by kernel_rfl))
 f316:=Tryz.func333.trans (congrArg some (by kernel_rfl))
 f317:=Tryz.func281.trans (congrArg some (by kernel_rfl))
 f318:=Tryz.func283.trans (congrArg some (by kernel_rfl))
 f319:=Tryz.func284.trans (congrArg some (by kernel_rfl))
 f320:=Tryz.func285.trans (congrArg some (by kernel_rfl))
 f321:=Tryz.func336.trans (congrArg some (by kernel_rfl))
 f322:=Tryz.func337.trans (congrArg some (by kernel_rfl))
 f337:=Tryz.func312.trans (congrArg some (by kernel_rfl))
 f338:=Tryz.func313.trans (congrArg some (by kernel_rfl))
 t0:=Tryz.underlying0
 a0:=Tryz.isAgg0
 z0:=Tryz.sizeOf0
 v0:=Tryz.zeroValue0
 t2:=Tryz.underlying2
 a2:=Tryz.isAgg2
 z2:=Tryz.sizeOf2
 v2:=Tryz.zeroValue2
 t3:=Tryz.underlying3
 a3:=Tryz.isAgg3
 z3:=Tryz.sizeOf3
 v3:=Tryz.zeroValue3
 t4:=Tryz.underlying4
 a4:=Tryz.isAgg4
 z4:=Tryz.sizeOf4
 v4:=Tryz.zeroValue4
 t5:=Tryz.underlying5
 a5:=Tryz.isAgg5
 z5:=Tryz.sizeOf5
 v5:=Tryz.zeroValue5
 t9:=Tryz.underlying9
 a9:=Tryz.isAgg9
 z9:=Tryz.sizeOf9
 v9:=Tryz.zeroValue9
 t20:=Tryz.underlying20
 a20:=Tryz.isAgg20
 z20:=Tryz.sizeOf20
 v20:=Tryz.zeroValue20
 t21:=Tryz.underlying21
 a21:=Tryz.isAgg21
 z21:=Tryz.sizeOf21
 v21:=Tryz.zeroValue21
 t37:=Tryz.underlying58
 a37:=Tryz.isAgg58
 z37:=Tryz.sizeOf58
 v37:=Tryz.zeroValue58
 t46:=Tryz.underlying357
 a46:=Tryz.isAgg357
 z46:=Tryz.sizeOf357
 v46:=Tryz.zeroValue357
 t51:=Tryz.underlying355
 a51:=Tryz.isAgg355
 z51:=Tryz.sizeOf355
 v51:=Tryz.zeroValue355
 t53:=Tryz.underlying315
 a53:=Tryz.isAgg315
 z53:=Tryz.sizeOf315
 v53:=Tryz.zeroValue315
 t75:=Tryz.underlying25
 a75:=Tryz.isAgg25
 z75:=Tryz.sizeOf25
 v75:=Tryz.zeroValue25
 t76:=Tryz.underlying258
 a76:=Tryz.isAgg258
 z76:=Tryz.sizeOf258
 v76:=Tryz.zeroValue258
 t85:=Tryz.underlying379
 a85:=Tryz.isAgg379
 z85:=Tryz.sizeOf379
 v85:=Tryz.zeroValue379
 t127:=Tryz.underlying156
 a127:=Tryz.isAgg156
 z127:=Tryz.sizeOf156
 v127:=Tryz.zeroValue156
 t143:=Tryz.underlying400
 a143:=Tryz.isAgg400
 z143:=Tryz.sizeOf400
 v143:=Tryz.zeroValue400
 t145:=Tryz.underlying402
 a145:=Tryz.isAgg402
 z145:=Tryz.sizeOf402
 v145:=Tryz.zeroValue402
 t167:=Tryz.underlying378
 a167:=Tryz.isAgg378
 z167:=Tryz.sizeOf378
 v167:=Tryz.zeroValue378
 t168:=Tryz.underlying381
 a168:=Tryz.isAgg381
 z168:=Tryz.sizeOf381
 v168:=Tryz.zeroValue381
 t171:=Tryz.underlying314
 a171:=Tryz.isAgg314
 z171:=Tryz.sizeOf314
 v171:=Tryz.zeroValue314
 t173:=Tryz.underlying318
 a173:=Tryz.isAgg318
 z173:=Tryz.sizeOf318
 v173:=Tryz.zeroValue318
 t175:=Tryz.underlying394
 a175:=Tryz.isAgg394
 z175:=Tryz.sizeOf394
 v175:=Tryz.zeroValue394
 t210:=Tryz.underlying397
 a210:=Tryz.isAgg397
 z210:=Tryz.sizeOf397
 v210:=Tryz.zeroValue397
 t212:=Tryz.underlying354
 a212:=Tryz.isAgg354
 z212:=Tryz.sizeOf354
 v212:=Tryz.zeroValue354
 t213:=Tryz.underlying356
 a213:=Tryz.isAgg356
 z213:=Tryz.sizeOf356
 t232:=Tryz.underlying392
 a232:=Tryz.isAgg392
 z232:=Tryz.sizeOf392
 v232:=Tryz.zeroValue392
 t233:=Tryz.underlying393
 a233:=Tryz.isAgg393
 z233:=Tryz.sizeOf393
 v233:=Tryz.zeroValue393
 g15:=by kernel_rfl
 g16:=by kernel_rfl
 g17:=by kernel_rfl
 g18:=by kernel_rfl
 g19:=by kernel_rfl
 t80:=Tryz.underlying93
 a80:=Tryz.isAgg93
 z80:=Tryz.sizeOf93
 v80:=Tryz.zeroValue93
 i0:=by kernel_rfl
 i2:=by kernel_rfl
 i3:=by kernel_rfl
 i4:=by kernel_rfl
 i5:=by kernel_rfl
 i9:=by kernel_rfl
 i20:=by kernel_rfl
 i21:=by kernel_rfl
 i37:=by kernel_rfl
 i46:=by kernel_rfl
 i51:=by kernel_rfl
 i53:=by kernel_rfl
 i75:=by kernel_rfl
 i76:=by kernel_rfl
 i80:=by kernel_rfl
 i85:=by kernel_rfl
 i127:=by kernel_rfl
 i143:=by kernel_rfl
 i145:=by kernel_rfl
 i167:=by kernel_rfl
 i168:=by kernel_rfl
 i171:=by kernel_rfl
 i173:=by kernel_rfl
 i175:=by kernel_rfl
 i210:=by kernel_rfl
 i212:=by kernel_rfl
 i232:=by kernel_rfl
 i233:=by kernel_rfl
 m15:=by kernel_rfl
 m16:=by kernel_rfl
 m17:=by kernel_rfl
 m18:=by kernel_rfl
 m19:=by kernel_rfl
 c0:=by kernel_rfl
 c2:=by kernel_rfl
 c3:=by kernel_rfl
 c4:=by kernel_rfl
 c5:=by kernel_rfl
 c9:=by kernel_rfl
 c20:=by kernel_rfl
 c21:=by kernel_rfl
 c37:=by kernel_rfl
 c46:=by kernel_rfl
 c51:=by kernel_rfl
 c53:=by kernel_rfl
 c75:=by kernel_rfl
 c76:=by kernel_rfl
 c80:=by kernel_rfl
 c85:=by kernel_rfl
 c127:=by kernel_rfl
 c143:=by kernel_rfl
 c145:=by kernel_rfl
 c167:=by kernel_rfl
 c168:=by kernel_rfl
 c171:=by kernel_rfl
 c173:=by kernel_rfl
 c175:=by kernel_rfl
 c210:=by kernel_rfl
 c212:=by kernel_rfl
 c213:=by kernel_rfl
 c232:=by kernel_rfl
 c233:=by kernel_rfl }
open Go.RowKit in
theorem Tryz.strconv_Atoi_err (s:ByteArray)(hl:s.size<=18)(h:Lib.atoi s.data.toList=none)(ev:Value)(w:World)(hv:w.cell? ⟨19,0,none⟩=some ev)(hev:ev=.nilIface\/∃ te pe,ev=.iface te pe) :
  Calls Tryz.prog 248 #[.string s] w fun e w'=>∃ N,e=.returned (.tuple #[.int .i64 0,.iface 381 (.pointer (some ⟨N,0,none⟩))])/\w.heap.size<=N/\w'.heap[N]?=some (.cells #[.string ⟨#[65,116,111,105]⟩,.string s,ev] 397 (0,0))/\Below w.heap.size w w':=Any.strconv_Atoi_err Tryz.laysC172 s hl h ev w hv hev
def Tryz.lays155_ren:Go.Shelf.Ren:=⟨fun | 155=>127 | 154=>178 | 138=>221 | 165=>176 | 143=>222 | 166=>177 | 197=>247 | 169=>34 | 195=>265 | 218=>266 | 240=>212 | 241=>246 | 219=>267 | 260=>287 | 276=>256 | 277=>286 | 217=>298 | 225=>299 | 224=>300 | 267=>301 | 266=>321 | 314=>322 | n=>n,fun | 9=>9 | 3=>3 | 4=>4 | 72=>89 | 0=>0 | 76=>258 | 105=>321 | 21=>21 | 5=>5 | 70=>87 | 20=>20 | 37=>58 | 75=>25 | 127=>156 | 164=>191 | 46=>357 | 119=>374 | 139=>377 | 138=>376 | 146=>385 | 51=>355 | 80=>93 | n=>n,fun | 1=>14 | 3=>15 | 4=>16 | n=>n⟩
theorem Tryz.lays155:Go.Proofs.Lays.n155 Tryz.prog Tryz.lays155_ren:={
 mixed:=by kernel_rfl
 f138:=Tryz.func221.trans (congrArg some (by kernel_rfl))
 f143:=Tryz.func222.trans (congrArg some (by kernel_rfl))
 f154:=Tryz.func178.trans (congrArg some (by kernel_rfl))
 f155:=Tryz.func127.trans (congrArg some (by kernel_rfl))
 f165:=Tryz.func176.trans (congrArg some (by kernel_rfl))
 f166:=Tryz.func177.trans (congrArg some (by kernel_rfl))
 f169:=Tryz.func34.trans (congrArg some (by kernel_rfl))
 f195:=Tryz.func265.trans (congrArg some (by kernel_rfl))
 f197:=Tryz.func247.trans (congrArg some (by kernel_rfl))
 f217:=Tryz.func298.trans (congrArg some (by kernel_rfl))
 f218:=Tryz.func266.trans (congrArg some (by kernel_rfl))
 f219:=Tryz.func267.trans (congrArg some (by kernel_rfl))
 f224:=Tryz.func300.trans (congrArg some (by kernel_rfl))
 f225:=Tryz.func299.trans (congrArg some (by kernel_rfl))
 f240:=Tryz.func212.trans (congrArg some (by kernel_rfl))
 f241:=Tryz.func246.trans (congrArg some (by kernel_rfl))
 f260:=Tryz.func287.trans (congrArg some (by kernel_rfl))
 f266:=Tryz.func321.trans (congrArg some (by kernel_rfl))
 f267:=Tryz.func301.trans (congrArg some (by kernel_rfl))
 f276:=Tryz.func256.trans (congrArg some (by kernel_rfl))
 f277:=Tryz.func286.trans (congrArg some (by kernel_rfl))
 f314:=Tryz.func322.trans (congrArg some (by kernel_rfl))
 t0:=Tryz.underlying0
 a0:=Tryz.isAgg0
 z0:=Tryz.sizeOf0
 v0:=Tryz.zeroValue0
 t3:=Tryz.underlying3
 a3:=Tryz.isAgg3
 z3:=Tryz.sizeOf3
 v3:=Tryz.zeroValue3
 t4:=Tryz.underlying4
 a4:=Tryz.isAgg4
 z4:=Tryz.sizeOf4
 v4:=Tryz.zeroValue4
 t5:=Tryz.underlying5
 a5:=Tryz.isAgg5
 z5:=Tryz.sizeOf5
 v5:=Tryz.zeroValue5
 t9:=Tryz.underlying9
 a9:=Tryz.isAgg9
 z9:=Tryz.sizeOf9
 v9:=Tryz.zeroValue9
 t20:=Tryz.underlying20
 a20:=Tryz.isAgg20
 z20:=Tryz.sizeOf20
 v20:=Tryz.zeroValue20
 t21:=Tryz.underlying21
 a21:=Tryz.isAgg21
 z21:=Tryz.sizeOf21
 v21:=Tryz.zeroValue21
 t37:=Tryz.underlying58
 a37:=Tryz.isAgg58
 z37:=Tryz.sizeOf58
 v37:=Tryz.zeroValue58
 t46:=Tryz.underlying357
 a46:=Tryz.isAgg357
 z46:=Tryz.sizeOf357
 v46:=Tryz.zeroValue357
 t51:=Tryz.underlying355
 a51:=Tryz.isAgg355
 z51:=Tryz.sizeOf355
 v51:=Tryz.zeroValue355
 t70:=Tryz.underlying87
 a70:=Tryz.isAgg87
 z70:=Tryz.sizeOf87
 v70:=Tryz.zeroValue87
 t72:=Tryz.underlying89
 a72:=Tryz.isAgg89
 z72:=Tryz.sizeOf89
 v72:=Tryz.zeroValue89
 t75:=Tryz.underlying25
 a75:=Tryz.isAgg25
 z75:=Tryz.sizeOf25
 v75:=Tryz.zeroValue25
 t76:=Tryz.underlying258
 a76:=Tryz.isAgg258
 z76:=Tryz.sizeOf258
 v76:=Tryz.zeroValue258
 t105:=Tryz.underlying321
 a105:=Tryz.isAgg321
 z105:=Tryz.sizeOf321
 v105:=Tryz.zeroValue321
 t119:=Tryz.underlying374
 a119:=Tryz.isAgg374
 z119:=Tryz.sizeOf374
 t127:=Tryz.underlying156
 a127:=Tryz.isAgg156
 z127:=Tryz.sizeOf156
 v127:=Tryz.zeroValue156
 t138:=Tryz.underlying376
 a138:=Tryz.isAgg376
 z138:=Tryz.sizeOf376
 v138:=Tryz.zeroValue376
 t139:=Tryz.underlying377
 a139:=Tryz.isAgg377
 z139:=Tryz.sizeOf377
 v139:=Tryz.zeroValue377
 t146:=Tryz.underlying385
 a146:=Tryz.isAgg385
 z146:=Tryz.sizeOf385
 v146:=Tryz.zeroValue385
 t164:=Tryz.underlying191
 a164:=Tryz.isAgg191
 z164:=Tryz.sizeOf191
 v164:=Tryz.zeroValue191
 g1:=by kernel_rfl
 g3:=by kernel_rfl
 g4:=by kernel_rfl }
theorem Tryz.Builder_Extra_155:Builder.Extra Tryz.prog Tryz.lays155_ren:={
 sizeBuilder:=by kernel_rfl
 liesBuilder:=by kernel_rfl
 t5:=Tryz.underlying5
 a5:=Tryz.isAgg5
 z5:=Tryz.sizeOf5
 v5:=Tryz.zeroValue5
 infoByte:=by kernel_rfl
 cellsByte:=by kernel_rfl
 sizeByte:=by kernel_rfl
 neB5:=by decide }
open Go.RowKit Go.Lib in
theorem Tryz.strings_ReplaceAll (s old new:ByteArray)(m:Int)(w:World)(hs:s.size < 4294967281)(hm:w.cell? ⟨14,0,none⟩=some (.int .i64 m))(h1:1<=old.size)(hlen:s.size+Lib.countB s old*new.size<=140737488355328) :
  Calls Tryz.prog 127 #[.string s,.string old,.string new] w fun e w'=>
   e=.returned (.string ⟨(Lib.replaceAll s.data.toList old.data.toList new.data.toList).toArray⟩)/\Below w.heap.size w w':=Any.strings_ReplaceAll Tryz.lays155 Tryz.Builder_Extra_155 s old new m w hs hm h1 hlen
end Go.Proofs
