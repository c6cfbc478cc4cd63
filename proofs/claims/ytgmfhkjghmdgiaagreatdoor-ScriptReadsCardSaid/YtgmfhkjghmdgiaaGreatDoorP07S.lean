/-
  Several texts as one: ScBnd, CfNamP, CfName, CfFirst, CfCfg, CfNames, ScMap, ScCmd, KeOps, KeActs, KeSee, RingSm, ScTell, ScTell2, Orders3.
-/
import Derived.Test.YtgmfhkjghmdgiaaGreatDoorP06S
import Derived.Lib.ConvBytes
import Derived.Laws.EntriesVeiled
import Derived.Shelf.Abstract
import Derived.StringKeys
set_option linter.all false
set_option maxHeartbeats 40000000
set_option maxRecDepth 100000
abbrev om:=@Nat.not_lt_zero
abbrev EW:=@Go.WideMaps.keyOf_string_mk
open Go renaming Addr→az,Value→ar,World→ai
open Go.Ending renaming returned→ax
open Go.IntKind renaming i64→R
open Go.Obj renaming cells→au
open Go.RowKit renaming Hid→aa
open Go.Value renaming agg→aU,bool→aI,int→U,pointer→aj,slice→af,string→aq,tuple→bn
open Option renaming none→I,some→J
open Go.Proofs.Tryz
namespace Go.Proofs.YtgmfhkjghmdgiaaGreatDoor
open Go
def lK(r:Rec):Prop:=r.seq<4294967296/\r.dU<256/\r.kind<256/\r.tick<281474976710656
theorem lK.none:lK .none:=by unfold lK Rec.none;decide
theorem abh(l:List UInt8):lK (nV l):=by
 have h:∀(l:List _) (n:Nat),kA (l.take n)<256^n:=λl n=>eh (GR _) (Bo (by decide) (by rw[gy];exact Nat.min_le_left _ _))
 exact⟨h l 4,h _ 1,h _ 1,h _ 6⟩
theorem abj(l:List UInt8):lK (ik l):=by
 unfold ik dec
 split
 ·exact lK.none
 exact abh l
theorem abk(l:List UInt8):∀r∈gh l 9,lK r:=by
 intro r hr;simp only[gh,lX,mr]at hr;obtain⟨i,-,rfl⟩:=hr
 split
 ·unfold tY
  split
  ·exact abj _
  exact lK.none
 exact lK.none
theorem abl(L:List Rec)(h:∀r∈L,lK r):∀(m n:Nat),∀r∈chain L m n,lK r:=by
 intro m
 induction m with
 |zero=>intro n r hr;cases hr
 |succ m ih=>
  intro n r hr
  by_cases hc:0<n/\(L.getD ((n-1)%9) .none).seq=n
  ·rw[D_ L m n hc.1 hc.2]at hr
   rcases fg.1 hr with rfl|hr
   ·rw[fQ]
    cases hg:L[(n-1)%9]? with
    |none=>exact lK.none
    |some x=>exact h x (cM hg)
   exact ih _ r hr
  rw[BA L _ n hc]at hr;cases hr
def aH.LB(K:aH):Prop:=∀r∈K.L,lK r
theorem abm(l:List UInt8):∀r∈kK l,lK r:=λr hr=>by
 unfold kK vK at hr;exact abl _ (abk _) _ _ r (List.mem_reverse.1 hr)
section
variable {c:aS}{K:aH}{k W:Nat}
theorem LB.last(h:K.LB):lK (fT K.L):=by
 unfold fT
 cases e:K.L.getLast? with
 |none=>exact lK.none
 |some x=>exact h x (List.mem_of_getLast? e)
theorem LB.app(h:K.LB)(hl:(fT K.L).seq<=4294967295)(e kd t:Nat)(h1:e<=255)(h2:kd<=255)(h3:t<=281474976710655):(K.app e kd t).1.LB:=by
 unfold aH.app
 split
 ·exact h
 split
 ·exact h
 rename_i hq
 split
 ·intro r hr
  rcases pz.1 (show r∈qW K.L _ from hr)with hr|hr
  ·refine h r ?_
   split at hr
   ·exact List.mem_of_mem_tail hr
   exact hr
  rw[iF.1 hr];exact⟨by show (fT K.L).seq+1<_;omega,by show e<256;omega,by show kd<256;omega,by show t<_;omega⟩
 exact h
theorem LB.ends(h:K.LB)(hf:bQ c K k W)(ho:K.c.off=false)(hi:∀s∈K.ls,gJ s (k+K.d.now-1))(h1:1<=K.d.now)(hn:K.d.now<=281474976710655):∀n,n<=8->(K.ends c n).1.LB
 |0,_=>h
 |n+1,abn=>by
  have a1:=LB.ends h hf ho hi h1 hn n (by omega);obtain⟨f1,f2,f3,-,-⟩:=hf.ends ho hi h1 n;show aH.LB (if (K.ends c n).2=0 then (K.ends c n).1.gW c n else K.ends c n).1
  split
  ·unfold aH.gW
   split
   ·exact a1
   rename_i s hs
   split
   ·have hk:=Il (c.aw.getD n nZ) s;exact LB.app (K:=(K.ends c n).1.fN n _) a1 f1.last n _ _ (by omega) (by omega) (by rw[f3];exact hn)
   exact a1
  exact a1
theorem LB.fin(h:K.LB):K.last.LB:=by unfold aH.last;simp only[];split<;>exact h
theorem LB.tick(h:K.LB)(hf:bQ c K k W)(hr:gi c)(hn:K.d.now<1099511627776):(K.tick c).1.LB:=by
 unfold aH.tick
 split
 ·exact h
 rename_i Hc;obtain⟨ho,-⟩:=aH.Et.1 (show K.on=0 by omega);obtain⟨t1,t2,t3⟩:=hf.fF hn;have Eu:=hr.nn
 split
 ·exact h
 split
 ·exact h
 have a1:=LB.ends (K:=K.fF) h t1 ho t2 t3 (by show K.d.now+1<=_;omega) _ Eu
 split
 ·exact LB.fin a1
 exact a1
theorem LB.fO(hr:gi c):∀(n:Nat) (K:aH),K.LB->bQ c K k (144*K.d.now)->K.d.now+n<=1099511627776->(K.fO c n).1.LB
 |0,K,h,_,_=>h
 |n+1,K,h,hf,hn=>by
  have a1:=LB.tick h hf hr (by omega);show aH.LB (if (K.tick c).2=0 then (K.tick c).1.fO c n else K.tick c).1
  split
  ·have h2:=Ev c K;exact LB.fO hr n _ a1 (hf.tick hr (by omega)) (by omega)
  exact a1
theorem LB.opened(c:aS)(K:aH):(aH.opened c K).LB:=by
 have h:=abm (K.c.bytes.take K.c.size);unfold aH.LB aH.opened;generalize kK (K.c.bytes.take K.c.size)=L at h⊢;exact h
theorem LB.j4(h:K.LB):(K.j4 c).1.LB:=by
 unfold aH.j4
 split
 ·exact h
 exact LB.opened _ _
theorem LB.cut(h:K.LB)(n:Int):(K.cut n).1.LB:=by unfold aH.cut;split;exact h;split<;>exact h
theorem LB.begin(h:K.LB)(i:Int):(K.begin i).1.LB:=by unfold aH.begin;split;exact h;split;exact h;split<;>exact h
theorem LB.stop(h:K.LB)(i:Int):(K.stop i).1.LB:=by unfold aH.stop;split;exact h;split;exact h;split<;>exact h
theorem LB.report(h:K.LB)(i p:Int):(K.report c i p).1.LB:=by unfold aH.report;split;exact h;split;exact h;split<;>exact h
theorem LB.new(c:aS)(s:aM):(aH.new c s).LB:=by unfold aH.new;exact LB.opened _ _
theorem LB.dN(h:K.LB)(hr:gi c)(hf:bQ c K k (144*K.d.now))(ns:List Int)(kd N:Nat)(hN:kd=3->(ns.getD 0 0).toNat<=N)(hn:K.d.now+N<=1099511627776):(K.dN c ns kd).1.LB:=by
 unfold aH.dN
 split
 ·exact LB.begin h _
 ·exact LB.stop h _
 ·exact LB.report h _ _
 ·have:=hN rfl;exact LB.fO hr _ K h hf (by omega)
 ·exact LB.cut h _
 ·exact LB.j4 h
 ·exact h
 ·exact h
 ·split<;>exact h
 ·exact h
 ·exact h
 ·exact h
 ·exact h
 exact h
theorem LB.fU(h:K.LB)(hr:gi c)(hf:bQ c K k (144*K.d.now))(l:Bs)(hn:K.d.now+jv l<=1099511627776):(K.fU c l).1.LB:=by
 unfold aH.fU jv at *;generalize bW 32 l=ws at *
 cases ws with
 |nil=>exact h
 |cons w ws=>
  cases hk:ir w with
  |none=>rw[Iw hk];exact h
  |some kd=>
   cases hs:dt (iG kd) ws with
   |none=>rw[Ix hk hs];exact h
   |some ns=>
    rw[xF hk hs]
    refine LB.dN h hr hf ns kd _ (λe=>?_) hn;subst e;show _<=(if ir w=J 3 then _ else _)
    rw[aR hk,show dt [5] ws=J ns from hs];exact aQ _
theorem LB.iu(hr:gi c):∀(l:List Bs) (K:aH) (k:Nat),K.LB->bQ c K k (144*K.d.now)->K.d.now+j_ l<=900000->(iu c K l).LB
 |[],K,k,h,_,_=>h
 |v::l,K,k,h,hf,hn=>by
  have hl:j_ (v::l)=jv v+j_ l:=rfl;obtain⟨a,b,-⟩:=Iy hr hf v (by omega);exact LB.iu hr l _ _ (LB.fU h hr hf v (by omega)) a (by omega)
end
open Go.Extern Go.Extern.Stop Go.RowKit Go.Stop
theorem byte_at(s:ByteArray)(k:Nat)(h:k<s.size):s[k]=s.data.toList.getD k 0:=by
 have:k<s.data.toList.length:=by rw[lU];exact h
 rw[fQ,bH this];rfl
theorem I3{s:ByteArray}(h:s.size<1\/12<s.size):isName s=false:=by
 unfold isName
 rcases h with h|h
 ·have:decide (1<=s.size)=false:=cw (by omega);rw[this];rfl
 have:decide (s.size<=12)=false:=cw (by omega);rw[this];simp
theorem PA{s:ByteArray}(h:lY (s.data.toList.getD 0 0)=false):isName s=false:=by
 have e:s.data.getD 0 0=s.data.toList.getD 0 0:=by simp
 unfold isName;rw[e,h];simp
theorem PB{s:ByteArray}{k:Nat}(h1:k<s.size)(h:gG (s.data.toList.getD k 0)=false):isName s=false:=by
 have hk:k<s.data.toList.length:=by rw[lU];exact h1
 have:s.data.toList.all gG=false:=by
  rw[List.all_eq_false]
  refine⟨s.data.toList.getD k 0,?_,by simpa using h⟩;rw[fQ,bH hk];exact xb hk
 unfold isName;rw[this];simp
theorem PC{s:ByteArray}(h1:1<=s.size)(h2:s.size<=12)(h3:lY (s.data.toList.getD 0 0)=true)(h:∀j,j<s.size->gG (s.data.toList.getD j 0)=true):isName s=true:=by
 have e:s.data.getD 0 0=s.data.toList.getD 0 0:=by simp
 have ha:s.data.toList.all gG=true:=by
  rw[py];intro b hb;obtain⟨j,hj,rfl⟩:=xC hb;have:=h j (by rw[lU]at hj;exact hj);rw[fQ,bH hj]at this;exact this
 unfold isName;rw[e,h3,ha];simp[h1,h2]
theorem PD(w:ai)(t:ByteArray):∃cap W,(convert 9 182 (aq t)).run prog w=.ok (af (J ⟨w.heap.size,0,.none⟩) t.size cap) W/\Below w.heap.size w W /\
  (∀j,j<t.size->W.cell? ⟨w.heap.size,j,.none⟩=J (U .u8 ((t.data.toList.getD j 0).toNat:Int))):=by
 exact⟨_,_,Lib.run_convert_string_bytes w 9 182 5 t underlying9 underlying182 underlying5,⟨rfl,rfl,rfl,by rw[Lib.bytesWorld_size];omega,λi hi=>Lib.bytesWorld_at_old w _ t i hi⟩,λj hj=>Lib.bytesWorld_cell w _ t j hj⟩
theorem abo(s:ByteArray)(w:ai)(hs:s.size<=1000000):Calls prog 141 #[aq s] w λe w'=>e=ax (aI (isName s))/\Below w.heap.size w w':=by
 by_cases hsz:1<=s.size/\s.size<=12
 ·obtain⟨z1,z2⟩:=hsz;have hw:=Bd (s.size:Int) 1 12 w;rw[show within _ 1 12=true by simp[within];omega]at hw;have k0:(0:Int)<(s.size:Int):=by omega
  have hb0:aa _:=λh=>byte_at s 0 h
  have hl:=Mi (s.data.toList.getD 0 0) w
  by_cases hL:lY (s.data.toList.getD 0 0)=true
  ·rw[hL]at hl;have HZ:aa (1<=s.size/\s.size<=12/\lY _=true):=⟨z1,z2,hL⟩;clear z1 z2 hL hs;go_enter func141,ntmps141
   go_wp2_with fail
   refine hw.mono ?_;rintro e w' ⟨rfl,rfl⟩;go_wp2_with fail
   rw[hb0.o]
   refine hl.mono ?_;rintro e w ⟨rfl,rfl⟩;clear hl hw hb0 k0;obtain⟨cap,W,hcv,qs,hcell⟩:=PD w s;have I4:aa _:=hcell;have Cr:aa _:=qs;clear hcell qs;go_wp2_with fail
   go_loopw [4,18] (λ_ i wr=>∃k:Nat,k<=s.size/\i=U R k/\wr=W/\∀j,j<k->gG (s.data.toList.getD j 0)=true) (λ_ i _=>s.size-(intOf i).toNat)
   case atStart=>exact⟨0,bI _,rfl,rfl,λj hj=>absurd hj (om _)⟩
   case round=>
    obtain⟨k,hk,rfl,rfl,hall⟩:=hrel
    by_cases hlt:k<s.size
    ·have hc:=I4.o k hlt;have HB:aa _:=hall;have HY:aa _:=λh=>PB hlt h
     have k1:(k:Int)<(s.size:Int):=by omega
     have I5:k<12:=by have:=HZ.o.2.1;omega
     have HX:aa (∀b:Bool,gG _=b->gG (s.data.toList.getD k 0)=b):=λb h=>h
     have HK:aa (∃c,c=s.data.toList.getD k 0):=⟨_,rfl⟩;clear hall hcv;obtain⟨c,hcc⟩:=HK.o;rw[<- hcc]at hc;have HC:aa _:=hcc;clear hcc HK HX;have hd:=GF c;have hl2:=Mi c
     by_cases b1:lY c=true
     ·rw[b1]at hl2;go_wp2_with fail
      refine(hl2 _).mono ?_;rintro e w' ⟨rfl,rfl⟩;go_wp2;go_roundw
      case rel=>
       refine⟨k+1,by omega,by go_num,by first|trivial|rfl,λj hj=>?_⟩
       by_cases e:j=k
       ·rw[e,<- HC.o];simp[gG,b1]
       exact HB.o j (by omega)
      case measure=>simp[intOf];omega
     simp only[rR]at b1;rw[b1]at hl2
     by_cases b2:fX c=true
     ·rw[b2]at hd;go_wp2_with fail
      refine(hl2 _).mono ?_;rintro e w' ⟨rfl,rfl⟩;go_wp2_with fail
      refine(hd _).mono ?_;rintro e w' ⟨rfl,rfl⟩;go_wp2;go_roundw
      case rel=>
       refine⟨k+1,by omega,by go_num,by first|trivial|rfl,λj hj=>?_⟩
       by_cases e:j=k
       ·rw[e,<- HC.o];simp[gG,b2]
       exact HB.o j (by omega)
      case measure=>simp[intOf];omega
     simp only[rR]at b2;rw[b2]at hd
     by_cases b3:(c.toNat:Int)=45
     ·have b4:((c.toNat:Int)==45)=true:=by simpa using b3
      have HN:aa (gG c=true):=by show _=_;simp[gG];right;omega
      clear b3;go_wp2_with fail
      refine(hl2 _).mono ?_;rintro e w' ⟨rfl,rfl⟩;go_wp2_with fail
      refine(hd _).mono ?_;rintro e w' ⟨rfl,rfl⟩;go_wp2;go_roundw
      case rel=>
       refine⟨k+1,by omega,by go_num,by first|trivial|rfl,λj hj=>?_⟩
       by_cases e:j=k
       ·rw[e,<- HC.o];exact HN.o
       exact HB.o j (by omega)
      case measure=>simp[intOf];omega
     have HN:aa (gG c=false):=by show _=_;simp[gG,b1,b2];omega
     go_wp2_with fail
     refine(hl2 _).mono ?_;rintro e w' ⟨rfl,rfl⟩;go_wp2_with fail
     refine(hd _).mono ?_;rintro e w' ⟨rfl,rfl⟩;go_wp2;go_ret;exact⟨by rw[HY.o (by rw[<- HC.o];exact HN.o)];rfl,Cr.o⟩
    have HY:aa _:=PC HZ.o.1 HZ.o.2.1 HZ.o.2.2 (λj hj=>hall j (by omega));have k1:¬(k:Int)<(s.size:Int):=by omega
    clear hall hcv;go_wp2;go_ret;exact⟨by rw[HY.o];rfl,Cr.o⟩
  simp only[rR]at hL;rw[hL]at hl;have HY:aa _:=PA hL;go_enter func141,ntmps141
  go_wp2_with fail
  refine hw.mono ?_;rintro e w' ⟨rfl,rfl⟩;go_wp2_with fail
  rw[hb0.o]
  refine hl.mono ?_;rintro e w' ⟨rfl,rfl⟩;go_wp2;go_ret;exact⟨by rw[HY.o];rfl,aC _ _⟩
 have hw:=Bd (s.size:Int) 1 12 w;rw[show within _ 1 12=false by simp[within];omega]at hw;have HY:aa (isName s=false):=I3 (by omega);clear hsz;go_enter func141,ntmps141
 go_wp2_with fail
 refine hw.mono ?_;rintro e w' ⟨rfl,rfl⟩;go_wp2;go_ret;exact⟨by rw[HY.o];rfl,aC _ _⟩
structure Cs(A:Nat->az)(w:ai)(rb:Nat)(v:ar)(l:List (Bool×Nat))(g:Nat->Nat):Prop where
 cell:∀i b c,l[i]?=J (b,c)->w.cell? ⟨rb,i*2,I⟩=J (cN A c)/\w.cell? ⟨rb,i*2+1,I⟩=J (.func (.func (g i)) #[] #[])
 eg:∀i b c,l[i]?=J (b,c)->∀args w,(callFunc (g i) args).run prog w=.ok (.enter (g i) args) w
 call:∀i b c,l[i]?=J (b,c)->∀W,Below w.heap.size w W->Calls prog (g i) #[v] W λe W'=>e=ax (aI b)/\Below W.heap.size W W'
 few:l.length<=100
 pos:∀(i:Nat) (b:Bool) (c:Nat),l[i]?=J (b,c)->0<c
theorem I6:∀(l:List (Bool×Nat)) (k:Nat) (c:Nat),(∀(i:Nat) (b:Bool) (d:Nat),i<k->l[i]?=J (b,d)->b=false)->l[k]?=J (true,c)->dH l=c
 |[],k,c,_,h=>by simp at h
 |(b,d)::t,0,c,_,h=>by simp at h;obtain⟨rfl,rfl⟩:=h;simp[dH]
 |(b,d)::t,k+1,c,h,h2=>by
  have:=h 0 b d (by omega) rfl;subst this;simp[dH]
  exact I6 t k c (λi b d hi e=>h (i+1) b d (by omega) (by simpa using e)) (by simpa using h2)
theorem I7:∀(l:List (Bool×Nat)),(∀(i:Nat) (b:Bool) (d:Nat),l[i]?=J (b,d)->b=false)->dH l=0
 |[],_=>rfl
 |(b,d)::t,h=>by
  have:=h 0 b d rfl;subst this;simp[dH]
  exact I7 t (λi b d e=>h (i+1) b d (by simpa using e))
theorem abp(A:Nat->az)(x0 x1 x2 x3:Int)(sa:Option az)(sn sc:Nat)(rb:Nat)(l:List (Bool×Nat))(g:Nat->Nat)(w:ai)(h:Cs A w rb (aU #[U R x0,U R x1,U R x2,U R x3,af sa sn sc]) l g):Calls prog 102 #[aU #[U R x0,U R x1,U R x2,U R x3,af sa sn sc],af (J ⟨rb,0,I⟩) l.length l.length] w λe w'=>e=ax (cN A (dH l))/\Below w.heap.size w w':=by
 have I8:aa _:=h.few;have H:aa _:=h;clear h;go_enter func102,ntmps102
 go_wp2_with fail
 have HS:aa (∀W,Below (w.heap.size+1) (w.alloc (au #[U R x0,U R x1,U R x2,U R x3,af sa sn sc] 30)) W->Below w.heap.size w W/\w.heap.size+1<=W.heap.size/\W.cell? ⟨w.heap.size,0,I⟩=J (U R x0)/\W.cell? ⟨w.heap.size,1,I⟩=J (U R x1)/\W.cell? ⟨w.heap.size,2,I⟩=J (U R x2)/\W.cell? ⟨w.heap.size,3,I⟩=J (U R x3)/\W.cell? ⟨w.heap.size,4,I⟩=J (af sa sn sc)):=λW hb=>by
  have hc:∀j v,(w.alloc _).cell? _=J v->W.cell? _=J v:=λj v e=>(hb.cell (p:=⟨w.heap.size,j,I⟩) (tV _)).trans e
  exact⟨((aC _ _).alloc (aQ _) _).trans (hb.mono (Nat.le_succ _)),by simpa using hb.size,hc 0 _ (by simp),hc 1 _ (by simp),hc 2 _ (by simp),hc 3 _ (by simp),hc 4 _ (by simp)⟩
 go_loopw [6,9] (λ_ i wr=>∃k:Nat,k<=l.length/\i=U R k/\Below (w.heap.size+1) (w.alloc (au #[U R x0,U R x1,U R x2,U R x3,af sa sn sc] 30)) wr/\aa (∀(i:Nat) (b:Bool) (d:Nat),i<k->l[i]?=J (b,d)->b=false)) (λ_ i _=>l.length-(intOf i).toNat)
 case atStart=>exact⟨0,bI _,rfl,aC _ _,λi b d hi=>absurd hi (om _)⟩
 case round=>
  obtain⟨k,hk,rfl,dC,hall⟩:=hrel;obtain⟨ry,hsz,p0,p1,p2,p3,p4⟩:=HS.o _ dC
  by_cases hlt:k<l.length
  ·obtain⟨⟨b,c⟩,lh⟩:∃x,l[k]?=J x:=⟨_,bH hlt⟩;have c0:=aG ry (H.o.cell k b c lh).1;have c1:=aG ry (H.o.cell k b c lh).2;have abq:=H.o.eg k b c lh;have HC:aa _:=H.o.call k b c lh;have HK:aa _:=lh;have abr:k<100:=by have:=I8.o;omega
   have k1:(k:Int)<(l.length:Int):=by omega
   have HB:aa _:=dC;have aO:aa _:=ry;have y_:=H.o.pos k b c lh;clear lh dC ry HS H;have ha:∀(j:Nat) (v:ar),wr.cell? _=J v->∀o,(wr.alloc o).cell? _=J v:=λj v e o=>(my wr o ⟨w.heap.size,j,I⟩ (fY e)).trans e
   have q0:=ha _ _ p0;have q1:=ha _ _ p1;have q2:=ha _ _ p2;have q3:=ha _ _ p3;have q4:=ha _ _ p4;clear ha p0 p1 p2 p3 p4;generalize g k=gk at *;obtain⟨c,rfl⟩:∃d,c=d+1:=⟨c-1,by omega⟩;unfold cN at c0;clear y_
   cases b with
   |true=>
    go_wp2_with fail
    refine(HC.o _ (aO.o.trans (((aC _ _).alloc (aQ _) _).mono aO.o.size))).mono ?_;rintro e W' ⟨rfl,hb'⟩;have d0:W'.cell? ⟨wr.heap.size,0,I⟩=J (.iface 352 (aj (J (A c)))):=aG hb' (by simp);have HW:aa _:=aO.o.trans ((((aC _ _).alloc (aQ _) _).mono aO.o.size).trans (hb'.mono (by simp;have:=aO.o.size;omega)));clear hb';go_wp2;go_ret;exact⟨by rw[I6 l k _ hall.o HK.o];rfl,HW.o⟩
   |false=>
    go_wp2_with fail
    refine(HC.o _ (aO.o.trans (((aC _ _).alloc (aQ _) _).mono aO.o.size))).mono ?_;rintro e W' ⟨rfl,hb'⟩;have HW:aa _:=HB.o.trans ((((aC _ _).alloc (aQ _) _).mono hsz).trans (hb'.mono (by simp;omega)));clear hb';go_wp2;go_roundw
    case rel=>
     refine⟨k+1,by omega,by go_num,HW.o,λi b d hi e=>?_⟩
     by_cases hik:i=k
     ·subst hik;have:=HK.o;rw[this]at e
      cases e
      rfl
     exact hall.o i b d (by omega) e
    case measure=>simp[intOf];omega
  have HN:aa _:=I7 l (λi b d e=>hall.o i b d (by have:=(dT.1 e).1;omega) e);have k1:¬(k:Int)<(l.length:Int):=by omega
  clear HS H;go_wp2;go_ret;exact⟨by rw[HN.o];rfl,ry⟩
theorem PE(A:Nat->az)(nm:ByteArray)(aJ cnt mn mx:Int)(pa ga ea fa la:Option az)(pn pc gn gc en ec fn fc ln lc:Nat)(rb:Nat)(l:List (Bool×Nat))(g:Nat->Nat)(w:ai)(h:Cs A w rb (aU #[aq nm,U R aJ,af pa pn pc,U R cnt,U R mn,U R mx,af ga gn gc,af ea en ec,af fa fn fc,af la ln lc]) l g):Calls prog 144 #[aU #[aq nm,U R aJ,af pa pn pc,U R cnt,U R mn,U R mx,af ga gn gc,af ea en ec,af fa fn fc,af la ln lc],af (J ⟨rb,0,I⟩) l.length l.length] w λe w'=>e=ax (cN A (dH l))/\Below w.heap.size w w':=by
 have I8:aa _:=h.few;have H:aa _:=h;clear h;go_enter func144,ntmps144
 go_wp2_with fail
 have HS:aa (∀W,Below (w.heap.size+1) (w.alloc (au #[aq nm,U R aJ,af pa pn pc,U R cnt,U R mn,U R mx,af ga gn gc,af ea en ec,af fa fn fc,af la ln lc] 84)) W->Below w.heap.size w W/\w.heap.size+1<=W.heap.size/\W.cell? ⟨w.heap.size,0,I⟩=J (aq nm)/\W.cell? ⟨w.heap.size,1,I⟩=J (U R aJ)/\W.cell? ⟨w.heap.size,2,I⟩=J (af pa pn pc)/\W.cell? ⟨w.heap.size,3,I⟩=J (U R cnt)/\W.cell? ⟨w.heap.size,4,I⟩=J (U R mn)/\W.cell? ⟨w.heap.size,5,I⟩=J (U R mx)/\W.cell? ⟨w.heap.size,6,I⟩=J (af ga gn gc)/\W.cell? ⟨w.heap.size,7,I⟩=J (af ea en ec)/\W.cell? ⟨w.heap.size,8,I⟩=J (af fa fn fc)/\W.cell? ⟨w.heap.size,9,I⟩=J (af la ln lc)):=λW hb=>by
  have hc:∀j v,(w.alloc _).cell? _=J v->W.cell? _=J v:=λj v e=>(hb.cell (p:=⟨w.heap.size,j,I⟩) (tV _)).trans e
  exact⟨((aC _ _).alloc (aQ _) _).trans (hb.mono (Nat.le_succ _)),by simpa using hb.size,hc 0 _ (by simp),hc 1 _ (by simp),hc 2 _ (by simp),hc 3 _ (by simp),hc 4 _ (by simp),hc 5 _ (by simp),hc 6 _ (by simp),hc 7 _ (by simp),hc 8 _ (by simp),hc 9 _ (by simp)⟩
 go_loopw [6,9] (λ_ i wr=>∃k:Nat,k<=l.length/\i=U R k/\Below (w.heap.size+1) (w.alloc (au #[aq nm,U R aJ,af pa pn pc,U R cnt,U R mn,U R mx,af ga gn gc,af ea en ec,af fa fn fc,af la ln lc] 84)) wr/\aa (∀(i:Nat) (b:Bool) (d:Nat),i<k->l[i]?=J (b,d)->b=false)) (λ_ i _=>l.length-(intOf i).toNat)
 case atStart=>exact⟨0,bI _,rfl,aC _ _,λi b d hi=>absurd hi (om _)⟩
 case round=>
  obtain⟨k,hk,rfl,dC,hall⟩:=hrel;obtain⟨ry,hsz,p0,p1,p2,p3,p4,p5,p6,p7,p8,p9⟩:=HS.o _ dC
  by_cases hlt:k<l.length
  ·obtain⟨⟨b,c⟩,lh⟩:∃x,l[k]?=J x:=⟨_,bH hlt⟩;have c0:=aG ry (H.o.cell k b c lh).1;have c1:=aG ry (H.o.cell k b c lh).2;have abq:=H.o.eg k b c lh;have HC:aa _:=H.o.call k b c lh;have HK:aa _:=lh;have abr:k<100:=by have:=I8.o;omega
   have k1:(k:Int)<(l.length:Int):=by omega
   have HB:aa _:=dC;have aO:aa _:=ry;have y_:=H.o.pos k b c lh;clear lh dC ry HS H;have ha:∀(j:Nat) (v:ar),wr.cell? _=J v->∀o,(wr.alloc o).cell? _=J v:=λj v e o=>(my wr o ⟨w.heap.size,j,I⟩ (fY e)).trans e
   have q0:=ha _ _ p0;have q1:=ha _ _ p1;have q2:=ha _ _ p2;have q3:=ha _ _ p3;have q4:=ha _ _ p4;have q5:=ha _ _ p5;have q6:=ha _ _ p6;have q7:=ha _ _ p7;have q8:=ha _ _ p8;have q9:=ha _ _ p9;clear ha p0 p1 p2 p3 p4 p5 p6 p7 p8 p9;generalize g k=gk at *;obtain⟨c,rfl⟩:∃d,c=d+1:=⟨c-1,by omega⟩;unfold cN at c0;clear y_
   cases b with
   |true=>
    go_wp2_with fail
    refine(HC.o _ (aO.o.trans (((aC _ _).alloc (aQ _) _).mono aO.o.size))).mono ?_;rintro e W' ⟨rfl,hb'⟩;have d0:W'.cell? ⟨wr.heap.size,0,I⟩=J (.iface 352 (aj (J (A c)))):=aG hb' (by simp);have HW:aa _:=aO.o.trans ((((aC _ _).alloc (aQ _) _).mono aO.o.size).trans (hb'.mono (by simp;have:=aO.o.size;omega)));clear hb';go_wp2;go_ret;exact⟨by rw[I6 l k _ hall.o HK.o];rfl,HW.o⟩
   |false=>
    go_wp2_with fail
    refine(HC.o _ (aO.o.trans (((aC _ _).alloc (aQ _) _).mono aO.o.size))).mono ?_;rintro e W' ⟨rfl,hb'⟩;have HW:aa _:=HB.o.trans ((((aC _ _).alloc (aQ _) _).mono hsz).trans (hb'.mono (by simp;omega)));clear hb';go_wp2;go_roundw
    case rel=>
     refine⟨k+1,by omega,by go_num,HW.o,λi b d hi e=>?_⟩
     by_cases hik:i=k
     ·subst hik;have:=HK.o;rw[this]at e
      cases e
      rfl
     exact hall.o i b d (by omega) e
    case measure=>simp[intOf];omega
  have HN:aa _:=I7 l (λi b d e=>hall.o i b d (by have:=(dT.1 e).1;omega) e);have k1:¬(k:Int)<(l.length:Int):=by omega
  clear HS H;go_wp2;go_ret;exact⟨by rw[HN.o];rfl,ry⟩
theorem abt(A:Nat->az)(x0 x1 x2 x3:Int)(sa:Option az)(sn sc:Nat)(w:ai)(hs:lF A w):Calls prog 133 #[aU #[U R x0,U R x1,U R x2,U R x3,af sa sn sc]] w λe w'=>e=ax (aI (!(within x0 0 1000&&within x1 1 1000)))/\Below w.heap.size w w':=by
 have H:=U8 A x0 x1 _ (hs.alloc (au #[U R x0,U R x1,U R x2,U R x3,af sa sn sc] 30));go_enter func133,ntmps133
 go_wp2_with fail
 refine H.mono ?_;rintro e w' ⟨rfl,hb⟩;go_wp2;go_ret;exact⟨by rw[Bool.not_and];rfl,((aC _ _).alloc (aQ _) _).trans (hb.mono (by simp))⟩
theorem abu(x0 x1 x2 x3:Int)(sa:Option az)(sn sc:Nat)(w:ai):Calls prog 135 #[aU #[U R x0,U R x1,U R x2,U R x3,af sa sn sc]] w λe w'=>e=ax (aI (!within x2 1 100))/\Below w.heap.size w w':=by
 go_enter func135,ntmps135
 go_wp2_with fail
 refine(Bd x2 1 100 _).mono ?_;rintro e w' ⟨rfl,rfl⟩;go_wp2;go_ret;exact⟨rfl,(aC _ _).alloc (aQ _) _⟩
theorem abv(x0 x1 x2 x3:Int)(sa:Option az)(sn sc:Nat)(w:ai):Calls prog 137 #[aU #[U R x0,U R x1,U R x2,U R x3,af sa sn sc]] w λe w'=>e=ax (aI (!within x3 0 20))/\Below w.heap.size w w':=by
 go_enter func137,ntmps137
 go_wp2_with fail
 refine(Bd x3 0 20 _).mono ?_;rintro e w' ⟨rfl,rfl⟩;go_wp2;go_ret;exact⟨rfl,(aC _ _).alloc (aQ _) _⟩
theorem abw(x0 x1 x2 x3:Int)(sa:Option az)(sn sc:Nat)(w:ai):Calls prog 138 #[aU #[U R x0,U R x1,U R x2,U R x3,af sa sn sc]] w λe w'=>e=ax (aI (decide (8<sn)))/\Below w.heap.size w w':=by
 have hd:decide (8<sn)=decide ((8:Int)<(sn:Int)):=jE.2 (by omega);rw[hd];go_enter func138,ntmps138
 go_wp2;go_ret;exact⟨rfl,(aC _ _).alloc (aQ _) _⟩
theorem abx(x0 x1 x2 x3:Int)(sa:Option az)(sn sc:Nat)(w:ai):Calls prog 139 #[aU #[U R x0,U R x1,U R x2,U R x3,af sa sn sc]] w λe w'=>e=ax (aI (decide (x1<x2)))/\Below w.heap.size w w':=by
 go_enter func139,ntmps139
 go_wp2;go_ret;exact⟨rfl,(aC _ _).alloc (aQ _) _⟩
def xP(A:Nat->az):Array ar:=#[.iface 352 (aj (J (A 1))),.func (.func 133) #[] #[],.iface 352 (aj (J (A 1))),.func (.func 135) #[] #[],.iface 352 (aj (J (A 1))),.func (.func 137) #[] #[],
 .iface 352 (aj (J (A 1))),.func (.func 138) #[] #[],.iface 352 (aj (J (A 2))),.func (.func 139) #[] #[]]
theorem PF(A:Nat->az)(w:ai)(hs:lF A w):Calls prog 103 #[] w λe w'=>e=ax (af (J ⟨w.heap.size,0,I⟩) 5 5)/\w'=w.alloc (au (xP A) 218):=by
 have c1:=hs.c1;have c2:=hs.c2;unfold xP;go_enter func103,ntmps103
 go_wp2;go_ret;exact⟨rfl,rfl⟩
def PG(i:Nat):Nat:=[133,135,137,138,139].getD i 0
theorem aby(A:Nat->az)(c:aS)(sa:Option az)(sc:Nat)(r:Nat)(W:ai)(hs:lF A W)(hr:W.heap[r]?=J (au (xP A) 218 (0,0))):Cs A W r (aU #[U R c.closed,U R c.opn,U R c.cycle,U R c.bC,af sa c.aw.length sc])
   [(!(within c.closed 0 1000&&within c.opn 1 1000),2),(!within c.cycle 1 100,2),(!within c.bC 0 20,2),(decide (8<c.aw.length),2),(decide (c.opn<c.cycle),3)] PG:=by
 have hcell:∀j v,(xP A)[j]?=J v->W.cell? ⟨r,j,I⟩=J v:=λj v e=>by simp[World.cell?,hr,e]
 refine⟨λi b d e=>?_,λi b d e=>?_,λi b d e V hV=>?_,by simp,λi b d e=>?_⟩
 ·match i,e with
  |0,e=>cases e;exact⟨hcell 0 _ rfl,hcell 1 _ rfl⟩
  |1,e=>cases e;exact⟨hcell 2 _ rfl,hcell 3 _ rfl⟩
  |2,e=>cases e;exact⟨hcell 4 _ rfl,hcell 5 _ rfl⟩
  |3,e=>cases e;exact⟨hcell 6 _ rfl,hcell 7 _ rfl⟩
  |4,e=>cases e;exact⟨hcell 8 _ rfl,hcell 9 _ rfl⟩
  |i+5,e=>cases e
 ·match i,e with
  |0,_=>exact enters_of func133 (by kernel_rfl) rfl
  |1,_=>exact enters_of func135 (by kernel_rfl) rfl
  |2,_=>exact enters_of func137 (by kernel_rfl) rfl
  |3,_=>exact enters_of func138 (by kernel_rfl) rfl
  |4,_=>exact enters_of func139 (by kernel_rfl) rfl
  |i+5,e=>cases e
 ·match i,e with
  |0,e=>cases e;exact abt A _ _ _ _ _ _ _ _ (hs.below hV)
  |1,e=>cases e;exact abu _ _ _ _ _ _ _ _
  |2,e=>cases e;exact abv _ _ _ _ _ _ _ _
  |3,e=>cases e;exact abw _ _ _ _ _ _ _ _
  |4,e=>cases e;exact abx _ _ _ _ _ _ _ _
  |i+5,e=>cases e
 match i,e with
 |0,e=>cases e;decide
 |1,e=>cases e;decide
 |2,e=>cases e;decide
 |3,e=>cases e;decide
 |4,e=>cases e;decide
 |i+5,e=>cases e
open Go.Maps
def o6(s:ByteArray):Lit:=.string s.data.toList
def xQ(a:List ByteArray):DataW Unit:=setOf (.agg []) (a.map o6)
theorem abz(a:List ByteArray)(s:ByteArray):Maps.has (xQ a) (o6 s)=a.any (λx=>decide (x=s)):=by
 unfold xQ;rw[has_setOf _ _ _ (by intro x hx;simp only[lX]at hx;obtain⟨y,-,rfl⟩:=hx;trivial),List.any_map];congr 1
 funext x
 show (x.data.toList==s.data.toList)=decide _
 by_cases h:x=s
 ·subst h;simp
 rw[cw h,iZ];exact λe=>h (lC e)
theorem abA(a:List ByteArray)(s:ByteArray):xQ (a++[s])=(xQ a).put (o6 s) (.agg []):=by
 unfold xQ;rw[pH];exact setOf_snoc _ _ _
theorem sL:Keyed prog 9:=string_keyed underlying9
theorem abB(w:ai):(zeroValue 224).run prog w=.ok (aU #[]) w:=by kernel_rfl
structure mh(A:Nat->az)(w0 w:ai)(rb bx mb:Nat)(a:List ByteArray):Prop where
 br:Below w0.heap.size w0 w
 lo:w0.heap.size<=mb
 nr:rb≠mb
 nb:bx≠mb
 r0:w.cell? ⟨rb,0,I⟩=J (.iface 352 (aj (J (A 3))))
 r1:w.cell? ⟨rb,1,I⟩=J (.func (.func 140) #[] #[])
 r2:w.cell? ⟨rb,2,I⟩=J (.iface 352 (aj (J (A 5))))
 r3:w.cell? ⟨rb,3,I⟩=J (.func (.func 142) #[] #[aj (J ⟨bx,0,I⟩)])
 b0:w.cell? ⟨bx,0,I⟩=J (.map (J mb))
 own:w.ownsMap prog 9 unitElem mb a.length (xQ a)
theorem abC{w w':ai}{mb n:Nat}{D:DataW Unit}(h:w.ownsMap prog 9 unitElem mb n D)(hb:Below w.heap.size w w'):w'.ownsMap prog 9 unitElem mb n D:=by
 have hlt:=h.lt;obtain⟨es,clock,h1,h2⟩:=h;exact⟨es,_,(hb.block mb hlt).trans h1,h2⟩
theorem mh.below{A:Nat->az}{w0 w w':ai}{rb bx mb:Nat}{a:List ByteArray}(h:mh A w0 w rb bx mb a)(hb:Below w.heap.size w w'):mh A w0 w' rb bx mb a:=
 ⟨h.br.trans (hb.mono h.br.size),h.lo,h.nr,h.nb,aG hb h.r0,aG hb h.r1,aG hb h.r2,aG hb h.r3,aG hb h.b0,abC h.own hb⟩
theorem cell_grown{w w':ai}{mb:Nat}{a:az}{v:ar}(hg:w.grownBy w' (J mb))(hne:a.block≠mb)(h:w.cell? a=J v):w'.cell? a=J v:=
 (qj (hg.block a.block (fY h) (by simpa using hne))).trans h
theorem mh.grown{A:Nat->az}{w0 w w':ai}{rb bx mb:Nat}{a a':List ByteArray}(h:mh A w0 w rb bx mb a)(hg:w.grownBy w' (J mb))(ho:w'.ownsMap prog 9 unitElem mb a'.length (xQ a')):mh A w0 w' rb bx mb a':=
 ⟨h.br.grown hg h.br.size (λj hj=>by cases hj;exact h.lo),h.lo,h.nr,h.nb,cell_grown hg h.nr h.r0,cell_grown hg h.nr h.r1,cell_grown hg h.nr h.r2,cell_grown hg h.nr h.r3,cell_grown hg h.nb h.b0,ho⟩
theorem PH(A:Nat->az)(w:ai)(hs:lF A w):Calls prog 104 #[] w λe w'=>e=ax (af (J ⟨w.heap.size+2,0,I⟩) 2 2)/\mh A w w' (w.heap.size+2) (w.heap.size+1) w.heap.size []:=by
 have DJ:=@run_makeMap prog;have c3:=hs.c3;have c5:=hs.c5;have ha:∀(g:Nat) (v:ar),w.cell? _=J v->∀o1 o2,((w.alloc o1).alloc o2).cell? ⟨g,0,I⟩=J v:=λg v e o1 o2=>aG (((aC _ _).alloc (aQ _) _).alloc (by simp) _) e
 have d3:=ha _ _ c3;have d5:=ha _ _ c5;clear c3 c5 ha;go_enter func104,ntmps104
 go_wp2;go_ret
 refine⟨rfl,⟨(((aC _ _).alloc (aQ _) _).alloc (by simp) _).alloc (by simp;omega) _,aQ _,by omega,by omega,?_,?_,?_,?_,?_,?_⟩⟩;iterate 4
  ·rw[show w.heap.size+2=((w.alloc _).alloc _).heap.size by simp,dK _ _ _ _ rfl];rfl
 ·rw[my _ _ _ (by simp)];have e:w.heap.size+1=(w.alloc (.map #[] 0)).heap.size:=by simp
  rw[e,dK _ _ _ _ rfl];rfl
 exact((World.ownsMap_made w _ 9 _).alloc _).alloc _
theorem abD(A:Nat->az)(w0 w:ai)(rb bx mb:Nat)(a:List ByteArray)(s:ByteArray)(h:mh A w0 w rb bx mb a)(hs:s.size<=1000000)(hn:a.length<=1000000):Calls prog 142 #[aq s,aj (J ⟨bx,0,I⟩)] w λe w'=>e=ax (aI (a.any (λx=>decide (x=s))))/\mh A w0 w' rb bx mb (a++[s])/\∀(p:az) (v:ar),p.block≠mb->w.cell? p=J v->w'.cell? p=J v:=by
 have b0:=h.b0;have b1:∀o,(w.alloc o).cell? _=J _:=λo=>aG ((aC _ _).alloc (aQ _) _) b0
 have hown:=h.own;have hkey:keyOf _ 9 _=J (o6 s):=EW underlying9 (by unfold maxLen;omega);have HA:=abz a s;have H:aa _:=h;clear h;go_enter func142,ntmps142
 go_wp2_with (first
  |(at_lookup;refine wpList_lookup_own_unit _ rfl _ _ 221 rfl 9 224 sL underlying221 (abB _) mb _ _ rfl hown _ _ rfl hkey ?_)
  |(at_mapUpdate;refine wpList_mapUpdate_own _ rfl _ _ _ 221 rfl 9 224 sL underlying221 _ mb _ _ rfl (hown.alloc _) (by unfold maxLen;omega) _ _ _ rfl rfl hkey _ [] unitElem_mk ?_;intro w1 hown1 dh)
  |go_in)
 go_ret;exact⟨rfl,(H.o.below ((aC _ _).alloc (aQ _) _)).grown dh (by rw[abA];simpa using hown1),λp v hne e=>cell_grown dh hne (aG ((aC _ _).alloc (aQ _) _) e)⟩
open Go.ChangeMaps (setBlock heap_setBlock_same)
def ml(k:Nat):ByteArray:=⟨(oT k).toArray⟩
def sM:Nat->Nat
 |0=>22
 |1=>25
 |2=>27
 |3=>29
 |4=>31
 |5=>33
 |6=>35
 |7=>38
 |8=>40
 |9=>42
 |10=>44
 |11=>46
 |12=>48
 |_=>50
def sN(lo:Nat)(w:ai)(pb k:Nat)(v:ar):Prop:=∃sv,v=aU #[sv,.func (.func (sM k)) #[] #[aj (J ⟨pb,0,I⟩)]]/\bN bm 1 w sv (iG k)/\∀b,sv.ownBlock=J b->lo<=b
structure uv(lo:Nat)(w:ai)(pb mb:Nat)(bx:Array ar)(n:Nat):Prop where
 box:w.heap[pb]?=J (au bx 45 (0,0))
 I9:lo<=pb
 pO:lo<=mb
 ex:∃es:Array MapEntry,w.heap[mb]?=J (.map es n)/\es.size=n/\∀k,k<n->∃v,es[k]?=J ⟨aq (ml k),v,k⟩/\sN lo w pb k v
structure kS(w0 w:ai)(pb mb:Nat)(bx:Array ar)(n:Nat):Prop extends uv w0.heap.size w pb mb bx n where
 br:Below w0.heap.size w0 w
section
variable {w0 w w':ai}{lo pb mb n k:Nat}{bx:Array ar}{v:ar}
theorem sN.cells(h:sN lo w pb k v)(hc:∀a u,w.cell? a=J u->lo<=a.block->w'.cell? a=J u):sN lo w' pb k v:=by
 obtain⟨sv,h1,⟨sa,cap,rfl,h0,h2⟩,h3⟩:=h
 refine⟨_,h1,⟨sa,cap,rfl,h0,λhne=>?_⟩,h3⟩;obtain⟨b,o,rfl,h4⟩:=h2 hne;exact⟨b,o,rfl,λi x hx j u hu=>hc _ _ (h4 i x hx j u hu) (h3 b rfl)⟩
theorem uv.kept(h:uv lo w pb mb bx n)(hk:∀k,lo<=k->k<w.heap.size->w'.heap[k]?=w.heap[k]?):uv lo w' pb mb bx n:=by
 obtain⟨es,h1,h2,h3⟩:=h.ex
 refine⟨(hk pb h.I9 (bJ h.box)).trans h.box,h.I9,h.pO,es,(hk mb h.pO (by rcases fR mb w.heap.size with a|a;exact a;rw[vy a]at h1;cases h1)).trans h1,h2,λk lJ=>?_⟩;obtain⟨v,h4,h5⟩:=h3 k lJ
 refine⟨v,h4,h5.cells (λa u hu hl=>?_)⟩;have:=hk _ hl (fY hu);simp only[World.cell?,this]at hu⊢;exact hu
theorem kS.below(h:kS w0 w pb mb bx n)(hb:Below w.heap.size w w'):kS w0 w' pb mb bx n:=⟨h.touv.kept (λk _ hk=>hb.block k hk),h.br.trans (hb.mono h.br.size)⟩
theorem kS.alloc(h:kS w0 w pb mb bx n)(o:Obj):kS w0 (w.alloc o) pb mb bx n:=h.below (aN w o)
theorem abE:∀a:Fin 14,∀b:Fin 14,oT a.1=oT b.1->a=b:=by decide
theorem PI{j:Nat}(hj:j<14)(hk:k<14)(h:Value.string (ml j)=aq (ml k)):j=k:=by
 have h1:=Value.string.inj h;unfold ml at h1;have h2:=mY (λb:ByteArray=>b.data.toList) h1;have h3:=abE ⟨j,hj⟩ ⟨k,hk⟩ (by simpa using h2);exact mY Fin.val h3
theorem I_(s:ByteArray)(hs:s.size<=1000000):keyOf prog 9 (aq s)=J (o6 s):=EW underlying9 (by unfold maxLen;omega)
theorem PJ(k:Nat):(ml k).size<=1000000:=by
 unfold ml oT
 split<;>decide
theorem kS.keys{es:Array MapEntry}(h3:∀k,k<n->∃v,es[k]?=J (⟨aq (ml k),v,k⟩:MapEntry)/\sN lo w pb k v)(h2:es.size=n):∀e∈es.toList,∃l,keyOf prog 9 e.key=J l:=by
 intro e he;obtain⟨i,hi,rfl⟩:=xC he;have hi':i<n:=by rw[<- h2];simpa using hi
 obtain⟨v,h4,-⟩:=h3 i hi';have:=bH hi;rw[tL,h4]at this;rw[<- bj this];exact⟨_,I_ _ (PJ _)⟩
theorem kS.put(h:kS w0 w pb mb bx n)(hn:n<14)(hv:sN w0.heap.size w pb n v):∃w',(Instr.mapUpdate 48 (.map (J mb)) (aq (ml n)) v).run prog w=.ok () w'/\kS w0 w' pb mb bx (n+1):=by
 obtain⟨es,hb,h2,h3⟩:=h.ex;have hkey:=I_ _ (PJ n);have hk:=kS.keys h3 h2
 rcases sL.find w hkey _ hk with⟨f1,f2⟩|⟨j,e,f1,f2,f3⟩
 ·refine⟨setBlock w mb (.map (es.push ⟨aq (ml n),v,n⟩) (n+1)),?_,?_⟩
  ·simp[Instr.mapUpdate,MapKept.run_getObj_map hb,sL.check w false hkey,f1,MapKept.run_setObj_map _ hb,setBlock]
  have hne:pb≠mb:=λe=>by have:=h.box;rw[e,hb]at this;cases this
  have I':∀k,k≠mb->(setBlock w mb (.map (es.push ⟨aq (ml n),v,n⟩) (n+1))).heap[k]?=w.heap[k]?:=λk hk=>by
   show (w.heap.setIfInBounds mb _)[k]?=_
   rw[Array.getElem?_setIfInBounds_ne (λe=>hk e.symm)]
  have hcell:∀a u,w.cell? a=J u->(setBlock w mb (.map (es.push ⟨aq (ml n),v,n⟩) (n+1))).cell? a=J u:=λa u hu=>by
   by_cases ha:a.block=mb
   ·simp[World.cell?,ha,hb]at hu
   simp only[World.cell?,I' _ ha]at hu⊢;exact hu
  refine⟨⟨(I' pb hne).trans h.box,h.I9,h.pO,_,heap_setBlock_same hb _,by rw[Array.size_push,h2],λk lJ=>?_⟩,?_⟩;rotate_left
  ·exact⟨h.br.os,h.br.tape,h.br.output,bw h.br.size (by simp[setBlock]),λk hk=>(I' k (by have:=h.pO;omega)).trans (h.br.block k hk)⟩
  by_cases abF:k=n
  ·subst abF;exact⟨v,by rw[<- h2,Array.getElem?_push_size],hv.cells (λa u hu _=>hcell a u hu)⟩
  obtain⟨u,h4,h5⟩:=h3 k (by omega);exact⟨u,by rw[Array.getElem?_push_lt (by omega)];rw[oM (by omega)]at h4;exact h4,h5.cells (λa u hu _=>hcell a u hu)⟩
 have hj:j<n:=by have:=(dT.1 f2).1;rw[<- h2];simpa using this
 obtain⟨u,h4,-⟩:=h3 j hj;rw[tL,h4]at f2
 cases f2
 exact absurd (PI (by omega) hn f3) (by omega)
theorem PK{ops:Array Oper}{rest:List Oper}{o:Oper}{a:Act}{Q:Exit->Act->ai->Prop}(w:ai)(h:kS w0 w pb mb bx n)(hn:n<14)(hg:o.guard=I)(m x u:Operand)(hop:o.op=Op.insert 48 m x u)(hm:a.eval m=.map (J mb))(hx:a.eval x=aq (ml n))(hu:a.eval u=v)(hv:sN w0.heap.size w pb n v)
  (hK:∀w',kS w0 w' pb mb bx (n+1)->wpList prog ops Q rest (a.put o.dst undef) w'):wpList prog ops Q (o::rest) a w:=by
 refine wpList_plain hg λK' hK'=>?_
 obtain⟨w',hrun,h1⟩:=h.put hn hv;unfold Oper.wp;simp[execOp,hop,hm,hx,hu,hrun]
 exact hK' _ _ (hK w' h1)
theorem abG(hk:iG k=[]):sN lo w pb k (aU #[af I 0 0,.func (.func (sM k)) #[] #[aj (J ⟨pb,0,I⟩)]]):=⟨_,rfl,by rw[hk];exact⟨_,0,rfl,aQ _,λh=>absurd rfl h⟩,λb hb=>by cases hb⟩
theorem PL(w:ai)(xs:List Int):bN bm 1 (w.alloc (au (xs.map (Value.int R)).toArray 3)) (af (J ⟨w.heap.size,0,I⟩) xs.length xs.length) xs:=by
 refine⟨_,_,rfl,aQ _,λ_=>⟨_,_,rfl,λi x hx j u hu=>?_⟩⟩;have hj:j=0/\u=U R x:=by
  cases j with
  |zero=>exact⟨rfl,(bj hu).symm⟩
  |succ j=>simp[bm]at hu
 obtain⟨rfl,rfl⟩:=hj;have h1:=cR w (au (xs.map (Value.int R)).toArray 3);simp only[World.cell?,h1];simp[hx]
theorem abH{g:Nat}(hg:w.heap.size=g)(hl:lo<=w.heap.size):sN lo (w.alloc (au ((iG k).map (Value.int R)).toArray 3)) pb k (aU #[af (J ⟨g,0,I⟩) (iG k).length (iG k).length,.func (.func (sM k)) #[] #[aj (J ⟨pb,0,I⟩)]]):=hg▸⟨_,rfl,PL w _,λb hb=>by cases hb;exact hl⟩
theorem abI{ops:Array Oper}{rest:List Oper}{o:Oper}{a:Act}{Q:Exit->Act->ai->Prop}{W:ai}{g:Nat}(h:kS w0 w pb mb bx n)(hW:W=w.alloc (au ((iG n).map (Value.int R)).toArray 3))(eA:w.heap.size=g)(hn:n<14)(hg:o.guard=I)(m x u:Operand)(hop:o.op=Op.insert 48 m x u)(hm:a.eval m=.map (J mb))(hx:a.eval x=aq (ml n))(hu:a.eval u=aU #[af (J ⟨g,0,I⟩) (iG n).length (iG n).length,.func (.func (sM n)) #[] #[aj (J ⟨pb,0,I⟩)]])
  (hK:∀w',kS w0 w' pb mb bx (n+1)->wpList prog ops Q rest (a.put o.dst undef) w'):wpList prog ops Q (o::rest) a W:=by
 subst hW;exact PK _ (h.alloc _) hn hg m x u hop hm hx hu (abH eA h.br.size) hK
theorem kS.new(w:ai)(bx:Array ar):kS w ((w.alloc (au bx 45)).alloc (.map #[] 0)) w.heap.size (w.heap.size+1) bx 0:=by
 have h1:=cR w (au bx 45);have h2:=cR (w.alloc (au bx 45)) (.map #[] 0);have hb:=aN (w.alloc (au bx 45)) (.map #[] 0)
 refine⟨⟨bG hb h1,aQ _,Nat.le_succ _,#[],?_,rfl,λk hk=>absurd hk (om _)⟩,(aN w _).trans (hb.mono (aN w _).size)⟩;simpa using h2
end
def fH(c:aS)(kb bc:Nat)(sv:ar):Array ar:=#[aj (J ⟨kb,0,I⟩),aj (J ⟨bc,0,I⟩),U R c.closed,U R c.opn,U R c.cycle,U R c.bC,sv]
section
variable {w0 w w':ai}{lo pb mb n k:Nat}{bx:Array ar}{v:ar}
theorem uv.look(h:uv lo w pb mb bx 14)(s:ByteArray)(hs:s.size<=1000000):(ir (bl s)=I->(Instr.lookup 48 (.map (J mb)) (aq s) true).run prog w=.ok (bn #[aU #[af I 0 0,.nilFunc],aI false]) w) /\
  ∀k,ir (bl s)=J k->∃v,sN lo w pb k v/\(Instr.lookup 48 (.map (J mb)) (aq s) true).run prog w=.ok (bn #[v,aI true]) w:=by
 obtain⟨es,hb,h2,h3⟩:=h.ex;have hkey:=I_ s hs;have hw:∀k,Value.string (ml k)=aq s↔oT k=bl s:=λk=>by
  constructor
  ·intro e;have:=mY (λb:ByteArray=>b.data.toList) (Value.string.inj e);simp only[ml]at this;exact this
  intro e;show Value.string ⟨_⟩=_
  rw[e];show Value.string ⟨s.data.toList.toArray⟩=_
  rw[Array.toArray_toList]
 rcases sL.find w hkey _ (kS.keys h3 h2)with⟨f1,f2⟩|⟨j,e,f1,f2,f3⟩
 ·refine⟨λ_=>by
   simp[Instr.lookup,MapKept.run_getObj_map hb,sL.check w _ hkey,f1],λk hk=>?_⟩
  obtain⟨h5,h6⟩:=Ca hk;obtain⟨v,h4,-⟩:=h3 k h5;exact absurd ((hw k).2 h6) (f2 _ (cM (by rw[tL];exact h4)))
 have hj:j<14:=by have:=(dT.1 f2).1;rw[<- h2];simpa using this
 obtain⟨u,h4,h5⟩:=h3 j hj;rw[tL,h4]at f2
 cases f2
 have qO:=(hw j).1 f3
 refine⟨λhk=>absurd qO (Oa hk j hj),λk hk=>?_⟩;obtain⟨h7,h8⟩:=Ca hk;obtain rfl:=PI h7 hj (((hw k).2 h8).trans (show Value.string _=aq s from f3).symm);exact⟨u,h5,by simp[Instr.lookup,MapKept.run_getObj_map hb,sL.check w _ hkey,f1]⟩
end
theorem abJ(c:aS)(kb bc:Nat)(sv:ar)(w:ai):Calls prog 13 #[.agg (fH c kb bc sv)] w λe w'=>e=ax (.map (J (w.heap.size+1)))/\kS w w' w.heap.size (w.heap.size+1) (fH c kb bc sv) 14:=by
 have HM:=kS.new w (fH c kb bc sv);have DJ:=@run_makeMap prog;unfold fH at HM⊢;go_enter func13,ntmps13
 go_wp2_with (first
  |(refine abI HM rfl ?_ (by decide) rfl _ _ _ rfl rfl rfl rfl ?_;(first|rfl|simp);clear HM;intro W HM)
  |(refine PK _ HM (by decide) rfl _ _ _ rfl rfl rfl rfl (abG rfl) ?_;clear HM;intro W HM))
 go_ret;exact⟨rfl,HM⟩
section
variable {A:Nat->az}{H:Nat->Nat->Prop}{F:Nat->Prop}{w0 w w':ai}{c:aS}{kb bc bd rb bt:Nat}{lv:ar}{bs:List Nat}{K:aH}{k W:Nat}
theorem bT.o7(h:bT H w0 w c kb bc bd rb bt lv bs K)(hs:fA A w0):fA A w:=hs.below h.br
theorem Ja(h:bT H w0 w c kb bc bd rb bt lv bs K):Calls prog 45 #[aj (J ⟨kb,0,I⟩)] w λe w'=>e=ax (aq (oQ K.on))/\w'=w:=by
 have c2:w.cell? _=J (aj _):=h.cell 2 _ rfl;have c0:w.cell? _=J (aj _):=h.cell 0 _ rfl;have HP:aa _:=VV bc K.c w h.ring.cells;have HD:aa _:=Ny bd K.d w h.kE;clear h
 cases ho:K.c.off
 ·cases hr:K.d.reset
  ·have HO:aa (K.on=0):=by show _=_;unfold aH.on;rw[ho,hr];rfl
   rw[ho]at HP;rw[hr]at HD;go_enter func45,ntmps45
   go_wp2_with fail
   refine aL HP.o ?_;rintro e w' ⟨rfl,rfl⟩;go_wp2_with fail
   refine aL HD.o ?_;rintro e w' ⟨rfl,rfl⟩;go_wp2;go_ret;exact⟨by rw[HO.o];rfl,rfl⟩
  have HO:aa (K.on=11):=by show _=_;unfold aH.on;rw[ho,hr];rfl
  rw[ho]at HP;rw[hr]at HD;go_enter func45,ntmps45
  go_wp2_with fail
  refine aL HP.o ?_;rintro e w' ⟨rfl,rfl⟩;go_wp2_with fail
  refine aL HD.o ?_;rintro e w' ⟨rfl,rfl⟩;go_wp2;go_ret;exact⟨by rw[HO.o];rfl,rfl⟩
 have HO:aa (K.on=8):=by show _=_;unfold aH.on;rw[ho];rfl
 rw[ho]at HP;go_enter func45,ntmps45
 go_wp2_with fail
 refine aL HP.o ?_;rintro e w' ⟨rfl,rfl⟩;go_wp2;go_ret;exact⟨by rw[HO.o];rfl,rfl⟩
theorem EX(h:bT H w0 w c kb bc bd rb bt lv bs K)(hs:fA A w0):Calls prog 109 #[aj (J ⟨kb,0,I⟩)] w λe w'=>e=ax (errVal A K.on)/\w'=w:=by
 have HC:aa _:=Ja h;have g7:=(h.o7 hs).c7;have g10:=(h.o7 hs).c10;clear h hs
 rcases K.N1 with ho|ho|ho
 all_goals
  rw[ho]at HC⊢;go_enter func109,ntmps109
  go_wp2_with fail
  refine aL HC.o ?_;rintro e w' ⟨rfl,rfl⟩
  first|rw[show oQ 0=⟨_⟩from rfl]|rw[show oQ 8=⟨_⟩from rfl]|rw[show oQ 11=⟨_⟩from rfl]
  go_wp2;go_ret;exact⟨rfl,rfl⟩
theorem PM(i:Int)(h:bT H w0 w c kb bc bd rb bt lv bs K)(hs:fA A w0)(hi:i<0\/(K.ls.length:Int)<=i):Calls prog 77 #[aj (J ⟨kb,0,I⟩),U R i] w λe w'=>e=ax (bn #[aj I,errVal A 5])/\Below w.heap.size w w':=by
 have c5:w.cell? _=J lv:=h.cell 5 _ rfl;have g4:=(h.o7 hs).c4;obtain⟨la,lc,rfl⟩:=mD h.own;rw[show bs.length=K.ls.length by rw[h.eB,h.gX]]at c5;clear h hs
 by_cases h0:i<0
 ·clear hi;go_enter func77,ntmps77
  go_wp2_with fail
  go_quiet (fail)
  go_wp2;go_ret2
  exact⟨rfl,cg (aC _ _) _⟩
 have h1:(K.ls.length:Int)<=i:=by omega
 clear hi;go_enter func77,ntmps77
 go_wp2_with fail
 go_quiet (fail)
 go_wp2;go_ret2
 exact⟨rfl,cg (aC _ _) _⟩
theorem PN(n:Nat){b g cap:Nat}(h:bT H w0 w c kb bc bd rb bt lv bs K)(hn:n<K.ls.length)(hlv:lv=af (J ⟨g,0,I⟩) K.ls.length cap)(hc:w.cell? ⟨g,n,I⟩=J (aj (J ⟨b,0,I⟩))):Calls prog 77 #[aj (J ⟨kb,0,I⟩),U R (n:Int)] w λe w'=>e=ax (bn #[aj (J ⟨b,0,I⟩),.nilIface])/\w'=w:=by
 have c5:w.cell? _=J lv:=h.cell 5 _ rfl;subst hlv;clear h;have g0:¬(n:Int)<0:=by omega
 have g1:¬(K.ls.length:Int)<=(n:Int):=by omega
 have g2:(n:Int)<(K.ls.length:Int):=by omega
 go_enter func77,ntmps77
 go_wp2;go_ret2
 exact⟨rfl,rfl⟩
theorem xR{j:Nat}(h:j≠0):∃i,errVal A j=.iface 352 (aj (J (A i))):=by
 cases j with
 |zero=>exact absurd rfl h
 |succ i=>exact⟨i,rfl⟩
theorem Jb(i:Int)(h:bT H w0 w c kb bc bd rb bt lv bs K)(hs:fA A w0)(ho:K.on≠0):Calls prog 67 #[aj (J ⟨kb,0,I⟩),U R i] w λe w'=>e=ax (bn #[aj I,errVal A K.on])/\w'=w:=by
 have HC:aa _:=EX h hs;clear h;obtain⟨j,hj⟩:=xR (A:=A) ho;rw[hj]at HC⊢;go_enter func67,ntmps67
 go_wp2_with fail
 refine aL HC.o ?_;rintro e w' ⟨rfl,rfl⟩;go_wp2;go_ret2
 exact⟨rfl,rfl⟩
theorem Jc(i:Int)(h:bT H w0 w c kb bc bd rb bt lv bs K)(hs:fA A w0)(ho:K.on=0)(hi:i<0\/(K.ls.length:Int)<=i):Calls prog 67 #[aj (J ⟨kb,0,I⟩),U R i] w λe w'=>e=ax (bn #[aj I,errVal A 5])/\Below w.heap.size w w':=by
 have HC:aa _:=EX h hs;have HX:aa _:=PM i h hs hi;clear h hi;rw[ho,show errVal A 0=.nilIface from rfl]at HC;go_enter func67,ntmps67
 go_wp2_with fail
 refine aL HC.o ?_;rintro e w' ⟨rfl,rfl⟩;go_wp2_with fail
 refine aL HX.o ?_;rintro e w2 ⟨rfl,hb⟩;go_wp2;go_ret2
 exact⟨rfl,hb⟩
theorem Jd(n:Nat){b g cap:Nat}(h:bT H w0 w c kb bc bd rb bt lv bs K)(hs:fA A w0)(ho:K.on=0)(hn:n<K.ls.length)(hlv:lv=af (J ⟨g,0,I⟩) K.ls.length cap)(hc:w.cell? ⟨g,n,I⟩=J (aj (J ⟨b,0,I⟩))):Calls prog 67 #[aj (J ⟨kb,0,I⟩),U R (n:Int)] w λe w'=>e=ax (bn #[aj (J ⟨b,0,I⟩),.nilIface])/\w'=w:=by
 have HC:aa _:=EX h hs;have HX:aa _:=PN n h hn hlv hc;clear h hlv hc hn;rw[ho,show errVal A 0=.nilIface from rfl]at HC;go_enter func67,ntmps67
 go_wp2_with fail
 refine aL HC.o ?_;rintro e w' ⟨rfl,rfl⟩;go_wp2_with fail
 refine aL HX.o ?_;rintro e w2 ⟨rfl,rfl⟩;go_wp2;go_ret2
 exact⟨rfl,rfl⟩
theorem Je(h:bT H w0 w c kb bc bd rb bt lv bs K):Calls prog 37 #[aj (J ⟨kb,0,I⟩)] w λe w'=>e=ax (U R (K.d.now:Int))/\w'=w:=by
 have c0:w.cell? _=J (aj _):=h.cell 0 _ rfl;have HX:aa _:=Nz bd K.d w h.kE;clear h;go_enter func37,ntmps37
 go_wp2_with fail
 refine aL HX.o ?_;rintro e w' ⟨rfl,rfl⟩;go_wp2;go_ret;exact⟨rfl,rfl⟩
theorem abK(h:bT H w0 w c kb bc bd rb bt lv bs K):Calls prog 39 #[aj (J ⟨kb,0,I⟩)] w λe w'=>e=ax (U R (K.d.jX:Int))/\w'=w:=by
 have c0:w.cell? _=J (aj _):=h.cell 0 _ rfl;have HX:aa _:=Yw bd K.d w h.kE;clear h;go_enter func39,ntmps39
 go_wp2_with fail
 refine aL HX.o ?_;rintro e w' ⟨rfl,rfl⟩;go_wp2;go_ret;exact⟨rfl,rfl⟩
theorem abL(h:bT H w0 w c kb bc bd rb bt lv bs K):Calls prog 43 #[aj (J ⟨kb,0,I⟩)] w λe w'=>e=ax (aq (kI K.t.st))/\w'=w:=by
 have c6:w.cell? _=J (aj _):=h.cell 6 _ rfl;have HX:aa _:=aa2 h.to;clear h;go_enter func43,ntmps43
 go_wp2_with fail
 refine aL HX.o ?_;rintro e w' ⟨rfl,rfl⟩;go_wp2;go_ret;exact⟨rfl,rfl⟩
end
section
variable {A:Nat->az}{H:Nat->Nat->Prop}{F:Nat->Prop}{w0 w w':ai}{c:aS}{kb bc bd rb bt:Nat}{lv:ar}{bs:List Nat}{K:aH}{k W:Nat}
theorem Jf(K:aH)(i:Int):(i<0\/(K.ls.length:Int)<=i)\/∃(n:Nat) (s:bB),i=(n:Int)/\K.ls[n]?=J s/\n<K.ls.length:=by
 by_cases h:i<0\/(K.ls.length:Int)<=i
 ·exact a_ h
 exact aP ⟨i.toNat,_,by omega,bH (by omega),by omega⟩
theorem abM{i:Int}(ho:K.on=0)(hi:i<0\/(K.ls.length:Int)<=i):K.begin i=(K,5):=by
 unfold aH.begin;rw[aK (by omega)]
 by_cases h0:i<0
 ·rw[aR h0]
 rw[aK h0,iI (by omega)]
theorem abN(i:Int)(h:eV F w0 w c kb bc K)(hs:fA A w0)(hr:gi c):Calls prog 24 #[aj (J ⟨kb,0,I⟩),U R i] w λe w'=>e=ax (errVal A (K.begin i).2)/\di F w0 w c kb bc (K.begin i).1 w':=by
 have HS:aa (di F w0 w c kb bc K w):=di.same h;obtain⟨H,bd,rb,bt,lv,bs,h1,hF⟩:=h
 by_cases ho:K.on=0
 ·rcases Jf K i with hi|⟨n,s,rfl,ja,hn⟩
  ·have HB:aa _:=abM ho hi;have HX:aa _:=Jc i h1 hs ho hi;rw[show errVal A 5=.iface 352 (aj (J (A 4)))from rfl]at HX;clear h1 hF hi ho hs hr;go_enter func24,ntmps24
   go_wp2_with fail
   refine aL HX.o ?_;rintro e w2 ⟨rfl,hb⟩;go_wp2;go_ret;rw[HB.o];exact⟨rfl,HS.o.below hb⟩
  obtain⟨b,e,g,cap,hb,he,hlv,cp,h4⟩:=h1.zT ja;have rh:c.aw.getD n nZ=e:=by rw[fQ,he];rfl
  have HB:aa (K.begin (n:Int)=(K.fN n (s.begin),s.xD)):=by
   show _=_
   unfold aH.begin;rw[aK (by omega),aK (by omega),show ((n:Int)).toNat=n by omega,ja]
  have HX:aa _:=Jd n h1 hs ho hn hlv cp;have HR:aa _:=hr;have HE:aa _:=cM he;have pP:=h1.o7 hs;have HL:aa _:=aaS (A:=A) h4 pP.c9 (hr.each e HE.o).1 (hr.each e HE.o).2.2.2;have H1:aa _:=h1;have HF:aa _:=hF;have Hb:aa (bs[n]?=J b/\c.aw[n]?=J e):=⟨hb,he⟩;clear h1 hF hs ho ja hn hb he hlv cp h4 rh pP hr HS;go_enter func24,ntmps24
  go_wp2_with fail
  refine aL HX.o ?_;rintro e w2 ⟨rfl,rfl⟩;go_wp2_with fail
  refine aL HL.o ?_;rintro u w3 ⟨rfl,hl,dB⟩;go_wp2;go_ret;rw[HB.o];exact⟨rfl,bT.post HF.o dB (H1.o.Cp dB Hb.o.1 Hb.o.2 hl)⟩
 have HB:aa (K.begin i=(K,K.on)):=by show _=_;unfold aH.begin;rw[aR ho]
 have HX:aa _:=Jb i h1 hs ho;obtain⟨j,hj⟩:=xR (A:=A) ho;have HJ:aa _:=hj;rw[hj]at HX;clear h1 hF ho hs hj hr;go_enter func24,ntmps24
 go_wp2_with fail
 refine aL HX.o ?_;rintro e w2 ⟨rfl,rfl⟩;go_wp2;go_ret;rw[HB.o,HJ.o];exact⟨rfl,HS.o⟩
theorem abO{i:Int}(ho:K.on=0)(hi:i<0\/(K.ls.length:Int)<=i):K.stop i=(K,5):=by
 unfold aH.stop;rw[aK (by omega)]
 by_cases h0:i<0
 ·rw[aR h0]
 rw[aK h0,iI (by omega)]
theorem abP(i:Int)(h:eV F w0 w c kb bc K)(hs:fA A w0)(hr:gi c):Calls prog 26 #[aj (J ⟨kb,0,I⟩),U R i] w λe w'=>e=ax (errVal A (K.stop i).2)/\di F w0 w c kb bc (K.stop i).1 w':=by
 have HS:aa (di F w0 w c kb bc K w):=di.same h;obtain⟨H,bd,rb,bt,lv,bs,h1,hF⟩:=h
 by_cases ho:K.on=0
 ·rcases Jf K i with hi|⟨n,s,rfl,ja,hn⟩
  ·have HB:aa _:=abO ho hi;have HX:aa _:=Jc i h1 hs ho hi;rw[show errVal A 5=.iface 352 (aj (J (A 4)))from rfl]at HX;clear h1 hF hi ho hs hr;go_enter func26,ntmps26
   go_wp2_with fail
   refine aL HX.o ?_;rintro e w2 ⟨rfl,hb⟩;go_wp2;go_ret;rw[HB.o];exact⟨rfl,HS.o.below hb⟩
  obtain⟨b,e,g,cap,hb,he,hlv,cp,h4⟩:=h1.zT ja;have rh:c.aw.getD n nZ=e:=by rw[fQ,he];rfl
  have HB:aa (K.stop (n:Int)=(K.fN n (s.stop),s.kQ)):=by
   show _=_
   unfold aH.stop;rw[aK (by omega),aK (by omega),show ((n:Int)).toNat=n by omega,ja]
  have HX:aa _:=Jd n h1 hs ho hn hlv cp;have HR:aa _:=hr;have HE:aa _:=cM he;have pP:=h1.o7 hs;have HL:aa _:=Pq (A:=A) h4 pP.c8;have H1:aa _:=h1;have HF:aa _:=hF;have Hb:aa (bs[n]?=J b/\c.aw[n]?=J e):=⟨hb,he⟩;clear h1 hF hs ho ja hn hb he hlv cp h4 rh pP hr HS;go_enter func26,ntmps26
  go_wp2_with fail
  refine aL HX.o ?_;rintro e w2 ⟨rfl,rfl⟩;go_wp2_with fail
  refine aL HL.o ?_;rintro u w3 ⟨rfl,hl,dB⟩;go_wp2;go_ret;rw[HB.o];exact⟨rfl,bT.post HF.o dB (H1.o.Cp dB Hb.o.1 Hb.o.2 hl)⟩
 have HB:aa (K.stop i=(K,K.on)):=by show _=_;unfold aH.stop;rw[aR ho]
 have HX:aa _:=Jb i h1 hs ho;obtain⟨j,hj⟩:=xR (A:=A) ho;have HJ:aa _:=hj;rw[hj]at HX;clear h1 hF ho hs hj hr;go_enter func26,ntmps26
 go_wp2_with fail
 refine aL HX.o ?_;rintro e w2 ⟨rfl,rfl⟩;go_wp2;go_ret;rw[HB.o,HJ.o];exact⟨rfl,HS.o⟩
theorem abQ{i:Int}{p:Int}(ho:K.on=0)(hi:i<0\/(K.ls.length:Int)<=i):K.report c i p=(K,5):=by
 unfold aH.report;rw[aK (by omega)]
 by_cases h0:i<0
 ·rw[aR h0]
 rw[aK h0,iI (by omega)]
theorem abR(i p:Int)(h:eV F w0 w c kb bc K)(hs:fA A w0)(hr:gi c)(hf:bQ c K k W)(hk:k<1000):Calls prog 28 #[aj (J ⟨kb,0,I⟩),U R i,U R p] w λe w'=>e=ax (errVal A (K.report c i p).2)/\di F w0 w c kb bc (K.report c i p).1 w':=by
 have HS:aa (di F w0 w c kb bc K w):=di.same h;obtain⟨H,bd,rb,bt,lv,bs,h1,hF⟩:=h
 by_cases ho:K.on=0
 ·rcases Jf K i with hi|⟨n,s,rfl,ja,hn⟩
  ·have HB:aa (K.report c i p=(K,5)):=abQ ho hi;have HX:aa _:=Jc i h1 hs ho hi;rw[show errVal A 5=.iface 352 (aj (J (A 4)))from rfl]at HX;clear h1 hF hi ho hs hr hf hk;go_enter func28,ntmps28
   go_wp2_with fail
   refine aL HX.o ?_;rintro e w2 ⟨rfl,hb⟩;go_wp2;go_ret;rw[HB.o];exact⟨rfl,HS.o.below hb⟩
  obtain⟨b,e,g,cap,hb,he,hlv,cp,h4⟩:=h1.zT ja;have rh:c.aw.getD n nZ=e:=by rw[fQ,he];rfl
  have HB:aa (K.report c (n:Int) p=(K.fN n (s.rep e p (K.d.now:Int)),s.vT e p)):=by
   show _=_
   unfold aH.report;rw[aK (by omega),aK (by omega),show ((n:Int)).toNat=n by omega,ja];simp only[rh]
  have HX:aa _:=Jd n h1 hs ho hn hlv cp;have HR:aa _:=hr;have HE:aa _:=cM he;have pP:=h1.o7 hs;have HL:aa _:=aaT (A:=A) p (K.d.now:Int) h4 pP.c8 pP.c4 (hr.each e HE.o).1 (by have:=(hf.each s (cM ja)).2.1;omega) (by have:=hf.now;omega);have H1:aa _:=h1;have HF:aa _:=hF;have Hb:aa (bs[n]?=J b/\c.aw[n]?=J e):=⟨hb,he⟩;have zV:aa _:=Je h1;clear h1 hF hs ho ja hn hb he hlv cp h4 rh pP hr HS hf hk;go_enter func28,ntmps28
  go_wp2_with fail
  refine aL HX.o ?_;rintro e w2 ⟨rfl,rfl⟩;go_wp2_with fail
  refine aL zV.o ?_;rintro e w2 ⟨rfl,rfl⟩;go_wp2_with fail
  refine aL HL.o ?_;rintro u w3 ⟨rfl,hl,dB⟩;go_wp2;go_ret;rw[HB.o];exact⟨rfl,bT.post HF.o dB (H1.o.Cp dB Hb.o.1 Hb.o.2 hl)⟩
 have HB:aa (K.report c i p=(K,K.on)):=by show _=_;unfold aH.report;rw[aR ho]
 have HX:aa _:=Jb i h1 hs ho;obtain⟨j,hj⟩:=xR (A:=A) ho;have HJ:aa _:=hj;rw[hj]at HX;clear h1 hF ho hs hj hr hf hk;go_enter func28,ntmps28
 go_wp2_with fail
 refine aL HX.o ?_;rintro e w2 ⟨rfl,rfl⟩;go_wp2;go_ret;rw[HB.o,HJ.o];exact⟨rfl,HS.o⟩
end
section
variable {A:Nat->az}{H:Nat->Nat->Prop}{F:Nat->Prop}{w0 w w':ai}{c:aS}{kb bc bd rb bt:Nat}{lv:ar}{bs:List Nat}{K:aH}{k W:Nat}
theorem abS(h:eV F w0 w c kb bc K)(hl:K.L.length<=8):Calls prog 84 #[aj (J ⟨kb,0,I⟩)] w λe w'=>∃v',e=ax v'/\fD w' w.heap.size v' K.L/\Below w.heap.size w w':=by
 obtain⟨H,bd,rb,bt,lv,bs,h1,-⟩:=h;have c4:w.cell? _=J (aj _):=h1.cell 4 _ rfl;obtain⟨v,hv,-⟩:=h1.ring.ring;have HX:aa _:=XR _ rb bc v K.L _ w hv (by omega);clear h1 hv;go_enter func84,ntmps84
 go_wp2_with fail
 refine aL HX.o ?_;rintro e w1 ⟨v1,rfl,hr,hb⟩;go_wp2;go_ret;exact⟨_,rfl,hr,hb⟩
theorem abT(h:eV F w0 w c kb bc K)(hl:K.L.length<=8):Calls prog 82 #[aj (J ⟨kb,0,I⟩)] w λe w'=>e=ax (bn #[(fT K.L).val,aI (decide (0<K.L.length))])/\Below w.heap.size w w':=by
 obtain⟨H,bd,rb,bt,lv,bs,h1,-⟩:=h;have B1:=aN w (au #[U R ((Rec.none.seq:Nat):Int),U R ((Rec.none.dU:Nat):Int),U R ((Rec.none.kind:Nat):Int),U R ((Rec.none.tick:Nat):Int)] 119);have Z1:=fS.new w .none;have h2:=h1.below B1;obtain⟨W,hW⟩:∃W,w.alloc (au #[U R ((Rec.none.seq:Nat):Int),U R ((Rec.none.dU:Nat):Int),U R ((Rec.none.kind:Nat):Int),U R ((Rec.none.tick:Nat):Int)] 119)=W:=⟨_,rfl⟩;rw[hW]at B1 Z1 h2;have HW:aa (w.alloc (au #[U R 0,U R 0,U R 0,U R 0] 119)=W):=hW;clear hW;have c4:W.cell? _=J (aj _):=h2.cell 4 _ rfl;obtain⟨v,hv,-⟩:=h2.ring.ring;have HX:aa _:=Hl _ rb bc v K.L _ W hv (by omega);have aO:aa _:=B1;have fP:aa _:=Z1;generalize fT K.L=x at HX⊢;clear h1 hv h2 B1 Z1;go_enter func82,ntmps82
 go_upto_region 1 with fail
 rw[HW.o];go_wp2_with fail
 refine aL HX.o ?_;rintro e w1 ⟨rfl,hb⟩;have Z2:=fP.o.below hb fP.o.lt;obtain⟨z0,z1,z2,z3⟩:=Z2.at;have f0:=Z2.frozen 0;have f1:=Z2.frozen 1;have f2:=Z2.frozen 2;have f3:=Z2.frozen 3;have aW:aa _:=aO.o.trans (hb.mono aO.o.size);have abU:aa _:=Z2;clear hb Z2 HX c4;unfold Rec.val;go_wp2_with fail
 refine er (sq rfl _ _ _ x rfl (abU.o.nU x).at) rfl ?_;exact⟨rfl,r7 aW.o (qU _ _ _ _ _ _) aW.o.size (aQ _)⟩
theorem abV(i:Int)(h:eV F w0 w c kb bc K)(hs:fA A w0)(hi:i<0\/(K.ls.length:Int)<=i):Calls prog 41 #[aj (J ⟨kb,0,I⟩),U R i] w λe w'=>e=ax (bn #[aq ⟨#[]⟩,errVal A 5])/\Below w.heap.size w w':=by
 obtain⟨H,bd,rb,bt,lv,bs,h1,-⟩:=h;have HX:aa _:=PM i h1 hs hi;rw[show errVal A 5=.iface 352 (aj (J (A 4)))from rfl]at HX;clear h1 hs hi;go_enter func41,ntmps41
 go_wp2_with fail
 refine aL HX.o ?_;rintro e w1 ⟨rfl,hb⟩;go_wp2;go_ret2
 exact⟨rfl,hb⟩
theorem abW(n:Nat){s:bB}(h:eV F w0 w c kb bc K)(ja:K.ls[n]?=J s):Calls prog 41 #[aj (J ⟨kb,0,I⟩),U R (n:Int)] w λe w'=>e=ax (bn #[aq (pJ s.status),.nilIface])/\w'=w:=by
 obtain⟨H,bd,rb,bt,lv,bs,h1,-⟩:=h;obtain⟨b,e,g,cap,hb,he,hlv,cp,h4⟩:=h1.zT ja;have HX:aa _:=PN n h1 (dT.1 ja).1 hlv cp;have HL:aa _:=Pr h4;clear h1 hb he hlv cp h4;generalize pJ s.status=y at HL⊢;go_enter func41,ntmps41
 go_wp2_with fail
 refine aL HX.o ?_;rintro e w1 ⟨rfl,rfl⟩;go_wp2_with fail
 refine aL HL.o ?_;rintro e w1 ⟨rfl,rfl⟩;go_wp2;go_ret2
 exact⟨rfl,rfl⟩
end
structure Reads(w:ai)(sa:Option az)(L:List Rec):Prop where
 at':L≠[]->∃g o,sa=J ⟨g,o,.none⟩/\∀i (h:i<L.length),w.cell? ⟨g,o+i*4,.none⟩=J (U R (L[i].seq:Int))/\w.cell? ⟨g,o+i*4+1,.none⟩=J (U R (L[i].dU:Int))/\w.cell? ⟨g,o+i*4+2,.none⟩=J (U R (L[i].kind:Int))/\w.cell? ⟨g,o+i*4+3,.none⟩=J (U R (L[i].tick:Int))
theorem fD.reads{w:ai}{B:Nat}{sa:Option az}{n c:Nat}{L:List Rec}(h:fD w B (af sa n c) L):Reads w sa L/\n=L.length:=by
 rcases h.qV with⟨e,rfl⟩|⟨g,cap,e,-,hrow,-,-⟩
 ·cases e;exact⟨⟨λh=>absurd rfl h⟩,rfl⟩
 simp only[tU]at e;obtain⟨rfl,rfl,rfl⟩:=e
 refine⟨⟨λ_=>⟨g,0,rfl,λi hi=>?_⟩⟩,rfl⟩;simp only[nj];exact(hrow.cells i hi).1
theorem Jg(n:Int)(h0:0<=n)(h1:n<=9223372036854775807)(W:ai)(hT:iK W):Calls prog 36 #[U R n] W λe w'=>e=ax (aq ⟨(num n).toArray⟩)/\Below W.heap.size W w':=by
 refine aL (strconv_Itoa n (by omega) (by omega) W hT) ?_;rintro e w' ⟨rfl,k,os,rfl⟩
 refine⟨?_,?_⟩
 ·unfold Lib.itoa num;rw[aK (by omega),GI]
 refine⟨rfl,rfl,rfl,(by show W.heap.size<=((W.drewN k).heap++os).size;rw[Array.size_append];exact Nat.le_add_right _ _),λi hi=>?_⟩;show ((W.drewN k).heap++os)[i]?=_
 rw[Array.getElem?_append_left (by show i<W.heap.size;omega)];rfl
theorem EY:(prog.info? 9).map (λi=>(i.zero,i.size,i.bytes))=J (J (aq ⟨#[]⟩),1,16):=by kernel_rfl
structure mJ(w0 wr:ai)(av:ar)(xs:List ByteArray):Prop where
 br:Below w0.heap.size w0 wr
 own:wr.ownsRow w0.heap.size 9 1 av xs.length (xs.flatMap bS)
section
variable {w0 wr wr':ai}{av:ar}{xs:List ByteArray}
theorem mJ.below(h:mJ w0 wr av xs)(hb:Below wr.heap.size wr wr'):mJ w0 wr' av xs:=⟨h.br.trans (hb.mono h.br.size),BR.below h.own hb⟩
theorem mJ.more(h:mJ w0 wr av xs){o:Obj}{y:ByteArray}{g cap n:Nat}(hn:xs.length+1=n)(hown:wr'.ownsRow w0.heap.size 9 1 (af (J ⟨g,0,I⟩) n cap) n (xs.flatMap bS++[aq y]))(hg:(wr.alloc o).grownBy wr' av.ownBlock):mJ w0 wr' (af (J ⟨g,0,I⟩) n cap) (xs++[y]):=by
 refine⟨(h.br.alloc h.br.size _).grown hg (bw h.br.size (by simp)) (λk hk=>(h.own.lt k hk).1),?_⟩;have e:(xs++[y]).flatMap bS=xs.flatMap bS++[aq y]:=by rw[dP];rfl
 rw[e,dm,qb,hn];exact hown
theorem mJ.join(h:mJ w0 wr av xs)(sep:ByteArray)(hne:xs≠[])(hl:xs.length<=1000)(hlen:(Lib.join (xs.map (·.data.toList)) sep.data.toList).length<=140737488355328):Calls prog 85 #[av,aq sep] wr λe w'=>e=ax (aq ⟨(Lib.join (xs.map (·.data.toList)) sep.data.toList).toArray⟩)/\Below wr.heap.size wr w':=by
 have h1:=bU.jc (B:=w0.heap.size) (T:=9) h.own (λ_=>rfl);obtain⟨sa,c,rfl,hc,h2⟩:=h1;obtain⟨b,o,rfl,h3⟩:=h2 hne;have h4:=λj x hx=>by have:=h3 j x hx 0 _ rfl;simpa using this
 obtain⟨x,hx⟩:∃x,xs[0]?=J x:=⟨_,bH (zD.2 hne)⟩;exact strings_Join b o c xs sep wr h4 (fY (h4 0 x hx)) (by omega) hc hlen
end
theorem EZ{n:Int}(h1:n<=9223372036854775807):(num n).length<=19:=Gm 18 n.toNat (by
 have:n.toNat<=9223372036854775807:=by omega
 exact Nat.lt_of_le_of_lt this (by decide))
theorem PO{r:Rec}(h:lK r):(kC r).length<=1000:=by
 obtain⟨a,b,c,d⟩:=h;have h1:=EZ (n:=(r.seq:Int)) (by omega);have h2:=EZ (n:=(r.dU:Int)) (by omega);have h3:=EZ (n:=(r.kind:Int)) (by omega);have h4:=EZ (n:=(r.tick:Int)) (by omega);unfold kC Lib.join;simp[List.intercalate]
 omega
theorem PQ(r:Rec)(w:ai)(hT:iK w)(hG:(max 12 13+1)<=w.heap.size)(hr:lK r):Calls prog 83 #[r.val] w λe w'=>e=ax (aq ⟨(kC r).toArray⟩)/\Below w.heap.size w w':=by
 obtain⟨i0,oZ,hz0,hz1,hz2⟩:=fj EY;obtain⟨W1,hW1⟩:∃X,X=w.alloc (au #[U R (r.seq:Int),U R (r.dU:Int),U R (r.kind:Int),U R (r.tick:Int)] 119):=⟨_,rfl⟩;have hrow:fS W1 w.heap.size r:=by rw[hW1];exact fS.new w r
 obtain⟨c0,c1,c2,c3⟩:=hrow.at;obtain⟨W2,hW2⟩:∃X,X=W1.alloc (au #[U R (r.seq:Int),U R (r.dU:Int),U R (r.kind:Int),U R (r.tick:Int)] 3):=⟨_,rfl⟩;have hb1:Below w.heap.size w W1:=by rw[hW1];exact aN _ _
 have hb2:Below W1.heap.size W1 W2:=by rw[hW2];exact aN _ _
 obtain⟨xs,vC⟩:∃xs:List Int,xs=[(r.seq:Int),(r.dU:Int),(r.kind:Int),(r.tick:Int)]:=⟨_,rfl⟩;have ck:bN bm 1 W2 (af (J ⟨W1.heap.size,0,I⟩) xs.length 4) xs:=by rw[hW2,vC];exact PL W1 _
 have abX:xs.length=4:=by rw[vC];rfl
 have HX:aa (∀x∈xs,0<=x/\x<=9223372036854775807):=by
  obtain⟨a,b,c,d⟩:=hr;rw[vC];intro x hx;simp only[fg,jB,jU]at hx
  rcases hx with rfl|rfl|rfl|rfl<;>omega
 have qY:=hb1.trans (hb2.mono hb1.size);have HS:aa (mJ W2 W2 _ []):=⟨aC _ _,fC _ _ _ _⟩;have HT:aa (∀V,Below _ W2 V->iK V/\bN _ 1 V _ xs):=λV hV=>⟨hT.below (qY.trans (hV.mono qY.size)) hG,ck.below hV⟩
 have HB:aa _:=qY;have HJ:aa (kC r=Lib.join (xs.map num) _/\(kC r).length<=1000):=⟨by rw[vC];rfl,PO hr⟩;have eL:aa _:=hrow;unfold Rec.val;clear hT hG hr ck vC hb1 hb2 qY hrow;go_enter func83,ntmps83
 go_upto_region 2 with fail
 rw[<- hW1]
 go_cut [14,15,16] (λl n i wx=>l=af (J ⟨W1.heap.size,0,I⟩) 4 4/\n=U R 4/\i=U R 0/\wx=W2)
 case first=>
  clear hW1;go_wp2_with fail
  go_meet
  case rel=>exact⟨rfl,rfl,rfl,hW2.symm⟩
 obtain⟨rfl,rfl,rfl,rfl⟩:=hcut;clear hW1 hW2 c0 c1 c2 c3 eL;rename ai=>W2
 go_wp2_with fail
 go_loopw [3,5,16] (λav _ i wr=>∃(n:Nat),n<=4/\i=U R n/\aa (mJ W2 wr av ((xs.take n).map λx=>⟨(num x).toArray⟩))) (λ_ _ i _=>4-(intOf i).toNat)
 case atStart=>exact⟨0,bI _,rfl,HS.o⟩
 case round=>
  clear HS;obtain⟨n,hn,rfl,HL⟩:=hrel;have hlen:((xs.take n).map λx=>(⟨(num x).toArray⟩:ByteArray)).length=n:=by rw[fL,gy];omega
  obtain⟨ka,kc,ly⟩:=mD HL.o.own;rw[hlen]at ly;subst ly
  by_cases hlt:n<4
  ·have k1:(n:Int)<4:=by omega
   obtain⟨x,hx⟩:∃x,xs[n]?=J x:=⟨_,bH (by omega)⟩;obtain⟨t1,t2⟩:=HT.o wr HL.o.br;obtain⟨g,o,hgo,hc⟩:=BW t2 hx;have c0:=hc n x hx
   cases hgo
   rw[nj]at c0;have Jh:=HX.o x (cM hx);have HI:aa _:=Jg x Jh.1 Jh.2 wr t1;have HE:aa ((xs.take (n+1)).map (λx=>(⟨(num x).toArray⟩:ByteArray))=(xs.take n).map (λx=>(⟨(num x).toArray⟩:ByteArray))++[⟨(num x).toArray⟩]):=by show _=_;rw[fW,hx,pH];rfl
   have fe:aa _:=hlen;clear hc t1 t2 hx hlen;go_wp2_with fail
   refine aL HI.o ?_;rintro e w3 ⟨rfl,hb3⟩;have nG:aa _:=HL.o.below hb3;have gY:aa (w3.ownsRow W2.heap.size 9 1 (af ka n kc) n (((xs.take n).map λx=>(⟨(num x).toArray⟩:ByteArray)).flatMap bS)):=by
    have:=nG.o.own;rw[fe.o]at this;exact this
   have hz3:=nG.o.br.size;generalize hy:(⟨(num x).toArray⟩:ByteArray)=y at HE⊢;clear hy hb3 HI c0 Jh HL;go_wp2_with (at_builtin;refine zI _ rfl _ _ 22 rfl _ 9 i0 _ 1 16 underlying22 oZ hz0 hz1 hz2 rfl (by decide) (af ka n kc) n _ rfl (zH gY.o _) _ 1 1 _ rfl rfl (sB w3 _ 9) (λu hu=>by rw[iF]at hu;subst hu;rfl) (by decide) (by unfold maxLen;omega) (by omega) (by simp;omega) (w3.heap.size+1) (by simp) ?_;intro gg cc xO hown hg cH ru)
   have uw:aa _:=nG.o.more (by rw[fe.o]) hown hg;clear hown hg cH ru gY nG;go_roundw
   case rel=>exact⟨n+1,by omega,by go_num,by show mJ _ _ _ _;rw[HE.o];exact uw.o⟩
   case measure=>simp[intOf];omega
  obtain rfl:n=4:=by omega
  have k1:¬(4:Int)<4:=by omega
  have abY:xs.take 4=xs:=by rw[<- abX,l4]
  rw[abY]at HL hlen;have Ct:aa _:=HL.o.join ⟨#[32]⟩ (λe=>by rw[e]at hlen;cases hlen) (by omega) (by
   have h5:=HJ.o;rw[h5.1]at h5;rw[List.map_map];exact bw h5.2 (by decide))
  have HE:aa ((⟨(Lib.join ((xs.map λx=>(⟨(num x).toArray⟩:ByteArray)).map (·.data.toList)) (⟨#[32]⟩:ByteArray).data.toList).toArray⟩:ByteArray)=⟨(kC r).toArray⟩):=by
   show _=_
   rw[HJ.o.1,List.map_map];rfl
  rw[HE.o]at Ct;have wB:aa _:=HL.o.br;clear hlen HL HX HT;go_wp2_with fail
  refine aL Ct.o ?_;rintro e w3 ⟨rfl,hb3⟩;go_wp2;go_ret;have h6:=HB.o.trans (wB.o.mono HB.o.size);exact⟨rfl,h6.trans (hb3.mono h6.size)⟩
section
variable {F:Nat->Prop}{w0 w w':ai}{c:aS}{kb bc:Nat}{K:aH}
theorem E0(w:ai)(c:aS)(kb bc:Nat)(sv:ar):∃W,W=w.alloc (au (fH c kb bc sv) 45)/\Below w.heap.size w W/\W.cell? ⟨w.heap.size,0,I⟩=J (aj (J ⟨kb,0,I⟩)):=by
 refine⟨_,rfl,aN _ _,?_⟩;have h1:=cR w (au (fH c kb bc sv) 45);simp only[World.cell?,h1];rfl
theorem Ji(w:ai)(x:Rec):∃V,V=w.alloc (au #[U R (x.seq:Int),U R (x.dU:Int),U R (x.kind:Int),U R (x.tick:Int)] 119)/\Below w.heap.size w V/\fS V w.heap.size x:=⟨_,rfl,aN _ _,fS.new w x⟩
theorem abZ(sv:ar)(h:eV F w0 w c kb bc K)(hl:K.L.length<=8)(hB:K.LB)(hT:iK w)(hG:(max 12 13+1)<=w.heap.size):Calls prog 47 #[.agg (fH c kb bc sv)] w λe w'=>e=ax (aq ⟨(uf K.L).toArray⟩)/\Below w.heap.size w w':=by
 obtain⟨W,hW,hb,x0⟩:=E0 w c kb bc sv;have HX:aa _:=abT (h.below hb) hl;have HB:aa _:=hb;have HR:aa _:=λV hV=>PQ _ V (hT.below hV hG) (bw hG hV.size) (LB.last hB)
 have hc:uf K.L=if K.L.length=0 then B_ else kC _:=rfl
 rw[hc];clear hc;generalize fT K.L=x at *;clear h hl hB hT hG hb;unfold Rec.val at HX HR;unfold fH at hW⊢
 by_cases h0:K.L.length=0
 ·rw[aR h0];have d0:decide (0<K.L.length)=false:=cw (by omega);rw[d0]at HX;clear h0 d0 HR;go_enter func47,ntmps47
  go_upto_region 1 with fail
  rw[<- hW];clear hW;go_wp2_with fail
  refine aL HX.o ?_;rintro e w1 ⟨rfl,hb1⟩;obtain⟨V,hV,mL,-⟩:=Ji w1 x;have jZ:aa (Below w.heap.size w V):=by
   have h6:=HB.o.trans (hb1.mono HB.o.size);exact h6.trans (mL.mono h6.size)
  clear hb1 mL HX;go_upto_region 2 with fail
  rw[<- hV];clear hV;go_wp2_with fail
  go_ret;exact⟨rfl,jZ.o⟩
 rw[aK h0];have d0:decide (0<K.L.length)=true:=bM (by omega);rw[d0]at HX;clear h0 d0;go_enter func47,ntmps47
 go_upto_region 1 with fail
 rw[<- hW];clear hW;go_wp2_with fail
 refine aL HX.o ?_;rintro e w1 ⟨rfl,hb1⟩;obtain⟨V,hV,mL,qz⟩:=Ji w1 x;have zW:Below w.heap.size w V:=by
  have h6:=HB.o.trans (hb1.mono HB.o.size);exact h6.trans (mL.mono h6.size)
 have jZ:aa _:=zW;have b_:aa _:=HR.o V zW;obtain⟨c0,c1,c2,c3⟩:=qz.at;clear hb1 mL HX HR zW qz;go_upto_region 2 with fail
 rw[<- hV];clear hV;go_wp2_with fail
 refine aL b_.o ?_;rintro e w2 ⟨rfl,hb2⟩;go_wp2;go_ret;exact⟨rfl,jZ.o.trans (hb2.mono jZ.o.size)⟩
theorem ab0(sv:ar)(h:eV F w0 w c kb bc K)(hl:K.L.length<=8)(hB:K.LB)(hT:iK w)(hG:(max 12 13+1)<=w.heap.size):Calls prog 49 #[.agg (fH c kb bc sv)] w λe w'=>e=ax (aq ⟨(ug K.L).toArray⟩)/\Below w.heap.size w w':=by
 obtain⟨i0,oZ,hz0,hz1,hz2⟩:=fj EY;obtain⟨W,hW,hb,x0⟩:=E0 w c kb bc sv;have HX:aa _:=abS (h.below hb) hl;have HB:aa _:=hb;have HR:aa _:=λV hV x hx=>PQ _ V (hT.below hV hG) (bw hG hV.size) (hB x hx)
 have Jj:aa ((Lib.join (K.L.map kC) [44,32]).length<=140737488355328):=by
  have h1:∀L:List Rec,(∀x∈L,lK x)->(Lib.join (L.map kC) [44,32]).length<=1100*L.length:=by
   intro L
   induction L with
   |nil=>intro _;exact aQ _
   |cons x L ih=>
    intro hx;have h2:=PO (hx x (qc ..));have h3:=ih (λy hy=>hx y (tE _ hy))
    cases L with
    |nil=>simp[Lib.join];omega
    |cons y L=>
     unfold Lib.join at h3⊢;rw[pA,pA,List.intercalate_cons_cons];rw[pA]at h3;simp only[dm,kr,qo]at h3⊢;omega
  have h2:=h1 K.L hB;show _<=_
  omega
 generalize K.L=L at *;clear h hB hT hG hb;unfold fH at hW⊢;go_enter func49,ntmps49
 go_upto_region 2 with fail
 rw[<- hW];clear hW;go_wp2_with fail
 refine aL HX.o ?_;rintro e w1 ⟨v1,rfl,hr,hb1⟩;obtain⟨sb,cb,rfl⟩:=hr.len;have aO:aa _:=HB.o.trans (hb1.mono HB.o.size);have pQ:aa (∀V,Below _ w1 V->Reads V sb L):=λV hV=>(hr.below hV (aQ _)).reads.1
 have HS:aa (mJ w1 w1 _ []):=⟨aC _ _,fC _ _ _ _⟩;clear hr hb1 HX x0;go_wp2_with fail
 go_loopw [3,5,10] (λav _ i wr=>∃(n:Nat),n<=L.length/\i=U R n/\aa (mJ w1 wr av ((L.take n).map λx=>⟨(kC x).toArray⟩))) (λ_ _ i _=>L.length-(intOf i).toNat)
 case atStart=>exact⟨0,bI _,rfl,HS.o⟩
 case round=>
  clear HS;obtain⟨n,hn,rfl,HL⟩:=hrel;have hlen:((L.take n).map λx=>(⟨(kC x).toArray⟩:ByteArray)).length=n:=by rw[fL,gy];omega
  obtain⟨ka,kc,ly⟩:=mD HL.o.own;rw[hlen]at ly;subst ly;have fe:aa _:=hlen;clear hlen
  by_cases hlt:n<L.length
  ·have k1:(n:Int)<(L.length:Int):=by omega
   obtain⟨g,o,rfl,hc⟩:=(pQ.o wr HL.o.br).at' (by intro e;rw[e]at hlt;simp at hlt);obtain⟨c0,c1,c2,c3⟩:=hc n hlt;have hx:=bH hlt;have PS:=xb hlt;obtain⟨V,hV,mL,qz⟩:=Ji wr L[n];obtain⟨d0,d1,d2,d3⟩:=qz.at;have h6:=aO.o.trans (HL.o.br.mono aO.o.size);have b_:aa _:=HR.o V (h6.trans (mL.mono h6.size)) _ PS;have HE:aa ((L.take (n+1)).map (λx=>(⟨(kC x).toArray⟩:ByteArray))=(L.take n).map (λx=>(⟨(kC x).toArray⟩:ByteArray))++[⟨(kC L[n]).toArray⟩]):=by show _=_;rw[fW,hx,pH];rfl
   have PT:aa _:=HL.o.below mL;generalize L[n]=x at *;unfold Rec.val at b_;clear hc hx PS mL qz HL h6;go_upto_region 5 with fail
   rw[<- hV];clear hV c0 c1 c2 c3;go_wp2_with fail
   refine aL b_.o ?_;rintro e w3 ⟨rfl,hb3⟩;have nG:aa _:=PT.o.below hb3;have gY:aa (w3.ownsRow w1.heap.size 9 1 (af ka n kc) n (((L.take n).map λx=>(⟨(kC x).toArray⟩:ByteArray)).flatMap bS)):=by
    have:=nG.o.own;rw[fe.o]at this;exact this
   have hz3:=nG.o.br.size;generalize hy:(⟨(kC x).toArray⟩:ByteArray)=y at HE⊢;clear hy hb3 b_ PT d0 d1 d2 d3;go_wp2_with (at_builtin;refine zI _ rfl _ _ 22 rfl _ 9 i0 _ 1 16 underlying22 oZ hz0 hz1 hz2 rfl (by decide) (af ka n kc) n _ rfl (zH gY.o _) _ 1 1 _ rfl rfl (sB w3 _ 9) (λu hu=>by rw[iF]at hu;subst hu;rfl) (by decide) (by unfold maxLen;omega) (by omega) (by simp;omega) (w3.heap.size+1) (by simp) ?_;intro gg cc xO hown hg cH ru)
   have uw:aa _:=nG.o.more (by rw[fe.o]) hown hg;clear hown hg cH ru gY nG;go_roundw
   case rel=>exact⟨n+1,by omega,by go_num,by show mJ _ _ _ _;rw[HE.o];exact uw.o⟩
   case measure=>simp[intOf];omega
  obtain rfl:n=L.length:=by omega
  have k1:¬(L.length:Int)<(L.length:Int):=by omega
  rw[l4]at HL;have wB:aa _:=HL.o.br
  by_cases h0:L.length=0
  ·have k2:((L.length:Int)==0)=true:=by rw[sD];omega
   have Jk:aa (ug L=B_):=aR h0;clear HL fe HR Jj pQ h0;go_wp2_with fail
   go_ret;rw[Jk.o];exact⟨rfl,aO.o.trans (wB.o.mono aO.o.size)⟩
  have k2:((L.length:Int)==0)=false:=by rw[iZ];omega
  have Jk:aa (ug L=Lib.join _ _):=aK h0;have hm:(L.map λx=>(⟨(kC x).toArray⟩:ByteArray)).map (·.data.toList)=L.map kC:=by rw[List.map_map];rfl
  have Ct:aa _:=HL.o.join ⟨#[44,32]⟩ (λe=>h0 (by rw[List.map_eq_nil_iff]at e;rw[e];rfl)) (by rw[fL];omega) (by rw[hm];exact Jj.o);rw[hm]at Ct;clear HL fe HR Jj pQ h0 hm;go_wp2_with fail
  refine aL Ct.o ?_;rintro e w3 ⟨rfl,hb3⟩;go_wp2;go_ret;rw[Jk.o];have h6:=aO.o.trans (wB.o.mono aO.o.size);exact⟨rfl,h6.trans (hb3.mono h6.size)⟩
end
def fB(P:Program)(C:(Nat->Option ar)->ai->Prop)(vals:Nat->Option ar)(i:Nat):Result Next->Prop
 |.ok (.value u) w'=>C (upd vals i u) w'
 |.ok .skip w'=>C (upd vals i undef) w'
 |.ok (.enter f args) w'=>Calls P f args w' λe w''=>∃v,e=ax v/\C (upd vals i v) w''
 |_=>False
section
variable {P:Program}{ops:Array Oper}{Q:Exit->Act->ai->Prop}{md:Region.Mode}{C:(Nat->Option ar)->ai->Prop}{a0:Act}
def gM(P:Program)(md:Region.Mode)(ops:Array Oper)(C:(Nat->Option ar)->ai->Prop)(a0:Act)(i:Nat)(o:Oper):Prop:=
 ∀(vals:Nat->Option ar) (a:Act) (w:ai),C vals w->vals i=I->(∀e,e∈o.after->Region.binds md e=true->∃v,vals e.on=J v/\∀d,dz ops e.on=J d->a.eval (.tmp d)=v) ->
  (∀d,(∀j,dz ops j≠J d)->a.eval (.tmp d)=a0.eval (.tmp d)) ->
  if Region.wanted o (yielded ops a.tmps)=true then fB P C vals i ((execOp a.eval o).run P w)else C (upd vals i undef) w
theorem ab1(hd:BJ ops)(BK:∀j d,dz ops j=J d->d<a0.tmps.size)
  (hback:∀i o,ops[i]?=J o->∀e,e∈o.after->Region.binds md e=true->e.on<i)
  (step:∀i o,ops[i]?=J o->gM P md ops C a0 i o)
  (fin:∀(vals:Nat->Option ar) (w:ai),C vals w->(∀j,j<ops.size->(vals j).isSome=true)->Q .normal (fill ops a0 vals ops.size) w):∀(fuel:Nat) (listed:Array Bool) (vals:Nat->Option ar) (w:ai),listed.size=ops.size->(∀j,j<ops.size->listed.getD j true=(vals j).isSome)->C vals w ->
   cnt vals ops.size<=fuel->wpAny P md ops Q fuel listed (fill ops a0 vals ops.size) w:=by
 have BM:∀(listed:Array _) (vals:Nat->Option ar),listed.size=ops.size->(∀j,j<ops.size->listed.getD j true=(vals j).isSome)->Region.ready md ops listed=[]->∀j,j<ops.size->(vals j).isSome=true:=by
  intro listed vals hsz hl hr j
  induction j using Nat.strongRecOn with
  |ind j ih=>
   intro hj
   cases hv:(vals j).isSome with
   |true=>rfl
   |false=>
    exfalso
    have hm:j∈Region.ready md ops listed:=by
     rw[mem_ready]
     refine⟨by rw[hl j hj,hv],_,oM hj,λe he hb=>?_⟩;have hlt:=hback j _ (oM hj) e he hb;have h1:=ih _ hlt (by omega);have h2:=hl e.on (by omega);rw[h1]at h2;have h3:e.on<listed.size:=by omega
     simp only[ua,oM h3,sx]at h2⊢;exact h2
    rw[hr]at hm
    cases hm
 intro fuel
 induction fuel with
 |zero=>
  intro listed vals w hsz hl hC hc;have hall:=H6 vals ops.size (by omega)
  refine⟨?_,fin _ w hC hall⟩
  cases hr:Region.ready md ops listed with
  |nil=>rfl
  |cons i r=>
   have hm:i∈Region.ready md ops listed:=by rw[hr];exact qc ..
   rw[mem_ready]at hm;obtain⟨h0,o,ho,-⟩:=hm;have hi:=(sw.1 ho).1;rw[hl i hi,hall i hi]at h0
   cases h0
 |succ fuel ih=>
  intro listed vals w hsz hl hC hc
  refine⟨λhr=>fin _ w hC (BM _ _ hsz hl hr),λi hm=>?_⟩;rw[mem_ready]at hm;obtain⟨h0,o,ho,zq⟩:=hm;have hi:=(sw.1 ho).1;have hnone:vals i=I:=by
   rw[hl i hi]at h0
   cases hv:vals i with
   |none=>rfl
   |some v=>rw[hv]at h0;cases h0
  have cO:dz ops i=o.dst:=by simp[dz,ho]
  have hst:=step i o ho _ _ w hC hnone (λe he hb=>by
    have h1:=zq e he hb;have hlt:=hback i o ho e he hb;have h2:=hl e.on (by omega);have h3:e.on<listed.size:=by omega
    have h4:(vals e.on).isSome=true:=by
     rw[<- h2];simp only[ua,oM h3,sx]at h1⊢;exact h1
    cases hv:vals e.on with
    |none=>rw[hv]at h4;cases h4
    |some v=>exact⟨v,rfl,λd qp=>Hw ops a0 _ hd _ d v hv qp (BK _ _ qp) _ (by omega)⟩)
   (λd oB=>Hv ops a0 vals d ops.size (λj _=>oB j))
  have oN:∀(v:ar) (w':ai),C (upd vals i v) w'->wpAny P md ops Q fuel (listed.setIfInBounds i true) ((fill ops a0 vals ops.size).put o.dst v) w':=by
   intro v w' BN;rw[<- cO,<- Hy ops a0 _ hd i v hnone _ hi]
   refine ih _ _ w' (by simp[hsz]) (λj hj=>?_) BN (by have:=Hz _ i v hnone _ hi;omega)
   by_cases e:j=i
   ·subst e;simp[upd]
   rw[getD_set_ne _ (Ne.symm e),hl j hj];simp[upd,e]
  unfold wpOp;simp only[ho]
  split
  ·rename_i hw;rw[aR hw]at hst
   refine .inl ?_;unfold Oper.wp;generalize (execOp (fill ops a0 vals ops.size).eval o).run P w=r at hst
   cases r with
   |ok n w'=>
    cases n<;>simp only[fB]at hst<;>simp only[Oper.upon]
    case value u=>exact oN _ _ hst
    case skip=>exact oN _ _ hst
    case enter f args=>exact hst.mono λe w'' ⟨v,he,h1⟩=>by subst he;exact oN _ _ h1
   |halt x w'=>simp only[fB]at hst
  rename_i hw;rw[aK hw]at hst;exact oN _ _ hst
theorem PU{id:Nat}{w:ai}(n:Nat)(hn:ops.size=n)(C:(Nat->Option ar)->ai->Prop)(hm:P.follows .mixedOrders=true)(hB:zr ops a0.tmps.size=true)(hC:C (λ_=>I) w.drew)
  (step:∀i o,ops[i]?=J o->gM P .any ops C a0 i o)
  (fin:∀(vals:Nat->Option ar) (w:ai),C vals w->(∀j,j<n->(vals j).isSome=true)->Q .normal (fill ops a0 vals n) w):(Code.region id ops true).wp P Q a0 w:=by
 subst hn;unfold zr at hB;simp only[rS,py,mr]at hB;obtain⟨⟨h1,h2⟩,h3⟩:=hB
 refine wp_region_any hm ?_;have hnone:fill ops a0 (λ_=>I) ops.size=a0:=by
  have:∀k,fill ops a0 (λ_=>I) k=a0:=by
   intro k
   induction k with
   |zero=>rfl
   |succ k ih=>simp only[fill,ih]
  exact this _
 have key:=ab1 (P:=P) (ops:=ops) (Q:=Q) (md:=.any) (C:=C) (a0:=a0)
  (λi j d hne hi hj=>by
   have h:=h1 i (sA hi) j (sA hj);simp[hne,hi,hj]at h)
  (λj d hj=>by
   have h:=h2 j (sA hj);rw[hj]at h;simpa using h)
  (λi o ho e he hb=>by
   have h:=h3 i (sw.1 ho).1;rw[ho]at h;have:=py.1 h e (by simpa using he);simpa[hb]using this)
  step fin ops.size (Array.replicate ops.size false) _ _ (by simp) (λj hj=>by simp[hj]) hC (by
   have:∀k,cnt (λ_=>I) k<=k:=by
    intro k
    induction k with
    |zero=>exact aQ _
    |succ k ih=>simp only[cnt];split<;>omega
   exact this _)
 rw[hnone]at key;exact key
theorem gM.free{i:Nat}{o:Oper}(hg:o.guard=I)
  (hrun:∀(vals:Nat->Option ar) (a:Act) (w:ai),C vals w->vals i=I->(∀e,e∈o.after->Region.binds md e=true->∃v,vals e.on=J v/\∀d,dz ops e.on=J d->a.eval (.tmp d)=v)->(∀d,(∀j,dz ops j≠J d)->a.eval (.tmp d)=a0.eval (.tmp d))->fB P C vals i ((execOp a.eval o).run P w)):gM P md ops C a0 i o:=by
 intro vals a w hC hi ay aD;rw[aR (by unfold Region.wanted;rw[hg])];exact hrun _ a w hC hi ay aD
theorem fB.val{i:Nat}{vals:Nat->Option ar}{w:ai}{c:ar}{r:Result Next}(hr:r=.ok (.value c) w)(hC:C (upd vals i c) w):fB P C vals i r:=by
 subst hr;exact hC
theorem fB.call{i:Nat}{vals:Nat->Option ar}{w:ai}{f:FuncId}{args:Array ar}{r:Result Next}(hr:r=.ok (.enter f args) w)
  (hc:Calls P f args w λe w''=>∃v,e=ax v/\C (upd vals i v) w''):fB P C vals i r:=by
 subst hr;exact hc
theorem upd_same(vals:Nat->Option ar)(i:Nat)(v:ar):upd vals i v i=J v:=by simp[upd]
theorem jJ(vals:Nat->Option ar){i j:Nat}(v:ar)(h:j≠i):upd vals i v j=vals j:=by simp[upd,h]
theorem fB.skip{P:Program}{C:(Nat->Option ar)->ai->Prop}{i:Nat}{vals:Nat->Option ar}{w:ai}{r:Result Next}(hr:r=.ok .skip w)(hC:C (upd vals i undef) w):fB P C vals i r:=by
 subst hr;exact hC
theorem E3{vals:Nat->Option ar}{i:Nat}{u:ar}{j:Nat}(h:vals j≠I):upd vals i u j≠I:=by
 by_cases e:j=i
 ·subst e;rw[upd_same];simp
 rw[jJ _ u e];exact h
end
end Go.Proofs.YtgmfhkjghmdgiaaGreatDoor
