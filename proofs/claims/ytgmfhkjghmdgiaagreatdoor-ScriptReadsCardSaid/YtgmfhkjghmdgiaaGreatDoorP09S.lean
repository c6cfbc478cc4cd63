/-
  Several texts as one: CfAny, CfLacks, CfTwice, CfTwo, CfSize, CfPart1, CfPart2, CfRuled, CfEnt, CfCheck, CfTextGo.
-/
import Derived.Test.YtgmfhkjghmdgiaaGreatDoorP08S
set_option linter.all false
set_option maxHeartbeats 40000000
set_option maxRecDepth 100000
open Go renaming Addr→az,Value→ar,World→ai
open Go.Ending renaming returned→ax
open Go.IntKind renaming i64→R
open Go.Obj renaming cells→au
open Go.RowKit renaming Hid→aa
open Go.Value renaming agg→aU,bool→aI,int→U,pointer→aj,slice→af,string→aq,tuple→bn
open Option renaming none→I,some→J
open Go.Proofs.Tryz
namespace Go.Proofs.YtgmfhkjghmdgiaaGreatDoor
open Go.Extern Go.Extern.Stop Go.RowKit Go.Stop
def oo{α:Type}(p:α->Bool):List α->Int
 |[]=>-1
 |x::t=>if p x then 0 else if oo p t<0 then -1 else oo p t+1
theorem Af{α:Type}(p:α->Bool):∀(xs:List α),(∀(i:Nat) (x:α),xs[i]?=J x->p x=false)->oo p xs=-1
 |[],_=>rfl
 |x::t,h=>by
  have h0:=h 0 x rfl;have:=Af p t (λi y e=>h (i+1) y (by simpa using e));simp[oo,h0,this]
theorem Ag{α:Type}(p:α->Bool):∀(xs:List α) (k:Nat) (x:α),(∀(i:Nat) (y:α),i<k->xs[i]?=J y->p y=false)->xs[k]?=J x->p x=true->oo p xs=(k:Int)
 |[],k,x,_,h,_=>by simp at h
 |y::t,0,x,_,h,hp=>by simp at h;subst h;simp[oo,hp]
 |y::t,k+1,x,h,h2,hp=>by
  have h0:=h 0 y (by omega) rfl;have:=Ag p t k x (λi z hi e=>h (i+1) z (by omega) (by simpa using e)) (by simpa using h2) hp;simp only[oo,h0,this];rw[aK (by simp),aK (by omega)];omega
theorem Ah{α:Type}(p:α->Bool):∀(xs:List α),decide (0<=oo p xs)=xs.any p
 |[]=>rfl
 |x::t=>by
  have:=Ah p t;unfold oo
  by_cases h:p x=true
  ·simp[h]
  simp only[rR]at h;rw[xc,h,Bool.false_or,<- this];simp only[Bool.false_eq_true,if_false]
  by_cases h2:oo p t<0
  ·rw[aR h2];exact jE.2 (by omega)
  rw[aK h2];exact jE.2 (by omega)
theorem acY(v:ar)(xs:List Int)(p:Int->Bool)(g:Nat)(lb:Array ar)(w:ai)(hv:bN bm 1 w v xs)(hn:xs.length<=1000000)(eg:∀args w,(callFunc g args).run prog w=.ok (.enter g args) w)
  (hp:∀W,Below w.heap.size w W->∀x,x∈xs->Calls prog g (#[U R x]++lb) W λe W'=>e=ax (aI (p x))/\Below W.heap.size W W'):Calls prog 269 #[v,.func (.func g) #[] lb] w λe w'=>e=ax (U R (oo p xs))/\Below w.heap.size w w':=by
 obtain⟨sa,cap,rfl,-,hcell⟩:=hv;have HC:aa _:=hcell;have HP:aa _:=hp;have HL:aa _:=hn;clear hcell hp hn;go_enter func269,ntmps269
 go_wp2_with fail
 go_loopw [5,8] (λ_ i wr=>∃k:Nat,k<=xs.length/\i=U R k/\Below w.heap.size w wr/\aa (∀(i:Nat) (y:Int),i<k->xs[i]?=J y->p y=false)) (λ_ i _=>xs.length-(intOf i).toNat)
 case atStart=>exact⟨0,bI _,rfl,aC _ _,λi b hi=>absurd hi (om _)⟩
 case round=>
  obtain⟨k,hk,rfl,dC,hall⟩:=hrel
  by_cases hlt:k<xs.length
  ·obtain⟨x,hx⟩:∃x,xs[k]?=J x:=⟨_,bH hlt⟩;obtain⟨b,o,rfl,hc0⟩:=HC.o (λe=>by subst e;simp at hx);have hc:=λi x h j u hu=>aG dC (hc0 i x h j u hu)
   have c0:=hc k x hx 0 _ rfl;simp only[tN,oH]at c0;have HX:aa _:=hx;have hm:=HP.o _ dC x (cM hx);have k1:(k:Int)<(xs.length:Int):=by omega
   have k0:k<1000000:=by have:=HL.o;omega
   have HB:aa _:=dC;clear hx hc0 hc HC HP dC
   cases dQ:p x with
   |true=>
    rw[dQ]at hm;have HM:aa _:=hm;have gI:aa _:=dQ;clear hm dQ;go_wp2_with fail
    refine aL HM.o ?_;rintro e W' ⟨rfl,hb'⟩;go_wp2;go_ret;exact⟨by rw[Ag p xs k x hall.o HX.o gI.o];rfl,HB.o.trans (hb'.mono HB.o.size)⟩
   |false=>
    rw[dQ]at hm;have HM:aa _:=hm;have gI:aa _:=dQ;clear hm dQ;go_wp2_with fail
    refine aL HM.o ?_;rintro e W' ⟨rfl,hb'⟩;have HW:aa _:=HB.o.trans (hb'.mono HB.o.size);clear hb';go_wp2;go_roundw
    case rel=>
     refine⟨k+1,by omega,by go_num,HW.o,λi y hi e=>?_⟩
     by_cases hik:i=k
     ·subst hik;have h2:=HX.o;rw[h2]at e
      cases e
      exact gI.o
     exact hall.o i y (by omega) e
    case measure=>simp[intOf];omega
  have k1:¬(k:Int)<(xs.length:Int):=by omega
  have HN:aa _:=Af p xs (λi x e=>hall.o i x (by have:=(dT.1 e).1;omega) e);clear HC HP;go_wp2;go_ret;exact⟨by rw[HN.o];rfl,dC⟩
theorem acZ(v:ar)(xs:List Int)(p:Int->Bool)(g:Nat)(lb:Array ar)(w:ai)(hv:bN bm 1 w v xs)(hn:xs.length<=1000000)(eg:∀args w,(callFunc g args).run prog w=.ok (.enter g args) w)
  (hp:∀W,Below w.heap.size w W->∀x,x∈xs->Calls prog g (#[U R x]++lb) W λe W'=>e=ax (aI (p x))/\Below W.heap.size W W'):Calls prog 242 #[v,.func (.func g) #[] lb] w λe w'=>e=ax (aI (xs.any p))/\Below w.heap.size w w':=by
 have H:=acY v xs p g lb w hv hn eg hp;rw[<- Ah];obtain⟨sa,cap,rfl,-⟩:=hv;clear hp hn;go_enter func242,ntmps242
 go_wp2_with fail
 refine H.mono ?_;rintro e w' ⟨rfl,hb⟩;go_wp2;go_ret;exact⟨rfl,hb⟩
theorem ac0(v:ar)(xs:List (Int×Int))(p:(Int×Int)->Bool)(g:Nat)(lb:Array ar)(w:ai)(hv:bN jq 2 w v xs)(hn:xs.length<=1000000)(eg:∀args w,(callFunc g args).run prog w=.ok (.enter g args) w)
  (hp:∀W,Below w.heap.size w W->∀x,x∈xs->Calls prog g (#[aU #[U R x.1,U R x.2]]++lb) W λe W'=>e=ax (aI (p x))/\Below W.heap.size W W'):Calls prog 245 #[v,.func (.func g) #[] lb] w λe w'=>e=ax (U R (oo p xs))/\Below w.heap.size w w':=by
 obtain⟨sa,cap,rfl,-,hcell⟩:=hv;have HC:aa _:=hcell;have HP:aa _:=hp;have HL:aa _:=hn;clear hcell hp hn;go_enter func245,ntmps245
 go_wp2_with fail
 go_loopw [5,8] (λ_ i wr=>∃k:Nat,k<=xs.length/\i=U R k/\Below w.heap.size w wr/\aa (∀(i:Nat) (y:(Int×Int)),i<k->xs[i]?=J y->p y=false)) (λ_ i _=>xs.length-(intOf i).toNat)
 case atStart=>exact⟨0,bI _,rfl,aC _ _,λi b hi=>absurd hi (om _)⟩
 case round=>
  obtain⟨k,hk,rfl,dC,hall⟩:=hrel
  by_cases hlt:k<xs.length
  ·obtain⟨x,hx⟩:∃x,xs[k]?=J x:=⟨_,bH hlt⟩;obtain⟨b,o,rfl,hc0⟩:=HC.o (λe=>by subst e;simp at hx);have hc:=λi x h j u hu=>aG dC (hc0 i x h j u hu)
   have c0:=hc k x hx 0 _ rfl;have c1:=hc k x hx 1 _ rfl;simp only[oH]at c0;have HX:aa _:=hx;have hm:=HP.o _ dC x (cM hx);have k1:(k:Int)<(xs.length:Int):=by omega
   have k0:k<1000000:=by have:=HL.o;omega
   have HB:aa _:=dC;clear hx hc0 hc HC HP dC
   cases dQ:p x with
   |true=>
    rw[dQ]at hm;have HM:aa _:=hm;have gI:aa _:=dQ;clear hm dQ;go_wp2_with fail
    refine aL HM.o ?_;rintro e W' ⟨rfl,hb'⟩;go_wp2;go_ret;exact⟨by rw[Ag p xs k x hall.o HX.o gI.o];rfl,HB.o.trans (hb'.mono HB.o.size)⟩
   |false=>
    rw[dQ]at hm;have HM:aa _:=hm;have gI:aa _:=dQ;clear hm dQ;go_wp2_with fail
    refine aL HM.o ?_;rintro e W' ⟨rfl,hb'⟩;have HW:aa _:=HB.o.trans (hb'.mono HB.o.size);clear hb';go_wp2;go_roundw
    case rel=>
     refine⟨k+1,by omega,by go_num,HW.o,λi y hi e=>?_⟩
     by_cases hik:i=k
     ·subst hik;have h2:=HX.o;rw[h2]at e
      cases e
      exact gI.o
     exact hall.o i y (by omega) e
    case measure=>simp[intOf];omega
  have k1:¬(k:Int)<(xs.length:Int):=by omega
  have HN:aa _:=Af p xs (λi x e=>hall.o i x (by have:=(dT.1 e).1;omega) e);clear HC HP;go_wp2;go_ret;exact⟨by rw[HN.o];rfl,dC⟩
theorem ac1(v:ar)(xs:List (Int×Int))(p:(Int×Int)->Bool)(g:Nat)(lb:Array ar)(w:ai)(hv:bN jq 2 w v xs)(hn:xs.length<=1000000)(eg:∀args w,(callFunc g args).run prog w=.ok (.enter g args) w)
  (hp:∀W,Below w.heap.size w W->∀x,x∈xs->Calls prog g (#[aU #[U R x.1,U R x.2]]++lb) W λe W'=>e=ax (aI (p x))/\Below W.heap.size W W'):Calls prog 195 #[v,.func (.func g) #[] lb] w λe w'=>e=ax (aI (xs.any p))/\Below w.heap.size w w':=by
 have H:=ac0 v xs p g lb w hv hn eg hp;rw[<- Ah];obtain⟨sa,cap,rfl,-⟩:=hv;clear hp hn;go_enter func195,ntmps195
 go_wp2_with fail
 refine H.mono ?_;rintro e w' ⟨rfl,hb⟩;go_wp2;go_ret;exact⟨rfl,hb⟩
theorem ac2(v:ar)(xs:List fM)(p:fM->Bool)(g:Nat)(lb:Array ar)(w:ai)(hv:bN iD 4 w v xs)(hn:xs.length<=1000000)(eg:∀args w,(callFunc g args).run prog w=.ok (.enter g args) w)
  (hp:∀W,Below w.heap.size w W->∀x,x∈xs->Calls prog g (#[aU #[U R x.fr,U R x.to,U R x.mn,U R x.mx]]++lb) W λe W'=>e=ax (aI (p x))/\Below W.heap.size W W'):Calls prog 244 #[v,.func (.func g) #[] lb] w λe w'=>e=ax (U R (oo p xs))/\Below w.heap.size w w':=by
 obtain⟨sa,cap,rfl,-,hcell⟩:=hv;have HC:aa _:=hcell;have HP:aa _:=hp;have HL:aa _:=hn;clear hcell hp hn;go_enter func244,ntmps244
 go_wp2_with fail
 go_loopw [5,8] (λ_ i wr=>∃k:Nat,k<=xs.length/\i=U R k/\Below w.heap.size w wr/\aa (∀(i:Nat) (y:fM),i<k->xs[i]?=J y->p y=false)) (λ_ i _=>xs.length-(intOf i).toNat)
 case atStart=>exact⟨0,bI _,rfl,aC _ _,λi b hi=>absurd hi (om _)⟩
 case round=>
  obtain⟨k,hk,rfl,dC,hall⟩:=hrel
  by_cases hlt:k<xs.length
  ·obtain⟨x,hx⟩:∃x,xs[k]?=J x:=⟨_,bH hlt⟩;obtain⟨b,o,rfl,hc0⟩:=HC.o (λe=>by subst e;simp at hx);have hc:=λi x h j u hu=>aG dC (hc0 i x h j u hu)
   have c0:=hc k x hx 0 _ rfl;have c1:=hc k x hx 1 _ rfl;have c2:=hc k x hx 2 _ rfl;have c3:=hc k x hx 3 _ rfl;simp only[oH]at c0;have HX:aa _:=hx;have hm:=HP.o _ dC x (cM hx);have k1:(k:Int)<(xs.length:Int):=by omega
   have k0:k<1000000:=by have:=HL.o;omega
   have HB:aa _:=dC;clear hx hc0 hc HC HP dC
   cases dQ:p x with
   |true=>
    rw[dQ]at hm;have HM:aa _:=hm;have gI:aa _:=dQ;clear hm dQ;go_wp2_with fail
    refine aL HM.o ?_;rintro e W' ⟨rfl,hb'⟩;go_wp2;go_ret;exact⟨by rw[Ag p xs k x hall.o HX.o gI.o];rfl,HB.o.trans (hb'.mono HB.o.size)⟩
   |false=>
    rw[dQ]at hm;have HM:aa _:=hm;have gI:aa _:=dQ;clear hm dQ;go_wp2_with fail
    refine aL HM.o ?_;rintro e W' ⟨rfl,hb'⟩;have HW:aa _:=HB.o.trans (hb'.mono HB.o.size);clear hb';go_wp2;go_roundw
    case rel=>
     refine⟨k+1,by omega,by go_num,HW.o,λi y hi e=>?_⟩
     by_cases hik:i=k
     ·subst hik;have h2:=HX.o;rw[h2]at e
      cases e
      exact gI.o
     exact hall.o i y (by omega) e
    case measure=>simp[intOf];omega
  have k1:¬(k:Int)<(xs.length:Int):=by omega
  have HN:aa _:=Af p xs (λi x e=>hall.o i x (by have:=(dT.1 e).1;omega) e);clear HC HP;go_wp2;go_ret;exact⟨by rw[HN.o];rfl,dC⟩
theorem Qv(v:ar)(xs:List fM)(p:fM->Bool)(g:Nat)(lb:Array ar)(w:ai)(hv:bN iD 4 w v xs)(hn:xs.length<=1000000)(eg:∀args w,(callFunc g args).run prog w=.ok (.enter g args) w)
  (hp:∀W,Below w.heap.size w W->∀x,x∈xs->Calls prog g (#[aU #[U R x.fr,U R x.to,U R x.mn,U R x.mx]]++lb) W λe W'=>e=ax (aI (p x))/\Below W.heap.size W W'):Calls prog 192 #[v,.func (.func g) #[] lb] w λe w'=>e=ax (aI (xs.any p))/\Below w.heap.size w w':=by
 have H:=ac2 v xs p g lb w hv hn eg hp;rw[<- Ah];obtain⟨sa,cap,rfl,-⟩:=hv;clear hp hn;go_enter func192,ntmps192
 go_wp2_with fail
 refine H.mono ?_;rintro e w' ⟨rfl,hb⟩;go_wp2;go_ret;exact⟨rfl,hb⟩
theorem ac3(x:Int)(B:Nat)(pa:Option az)(pn pc:Nat)(w:ai)(hc:w.cell? ⟨B,2,I⟩=J (af pa pn pc)):Calls prog 243 #[U R x,aj (J ⟨B,0,I⟩)] w λe w'=>e=ax (aI (lacks pn x))/\Below w.heap.size w w':=by
 by_cases h1:x<0
 ·go_enter func243,ntmps243
  go_wp2;go_ret;exact⟨by simp[lacks,h1],aC _ _⟩
 go_enter func243,ntmps243
 go_wp2;go_ret;exact⟨by simp[lacks];omega,aC _ _⟩
theorem CR(nm:ByteArray)(aJ cnt mn mx:Int)(pa ga ea fa la:Option az)(pn pc gn gc en ec fn fc ln lc:Nat)(v:ar)(xs:List Int)(w:ai)(hv:bN bm 1 w v xs)(hn:xs.length<=1000000):Calls prog 190 #[aU #[aq nm,U R aJ,af pa pn pc,U R cnt,U R mn,U R mx,af ga gn gc,af ea en ec,af fa fn fc,af la ln lc],v] w λe w'=>e=ax (aI (xs.any (lacks pn)))/\Below w.heap.size w w':=by
 have H:=acZ v xs _ 243 #[aj _] _ (hv.below (aN w (au #[aq nm,U R aJ,af pa pn pc,U R cnt,U R mn,U R mx,af ga gn gc,af ea en ec,af fa fn fc,af la ln lc] 84))) hn
  (enters_of func243 (by kernel_rfl) rfl) (λW hb x _=>ac3 x w.heap.size pa pn pc W (aG hb (by simp)))
 have HH:aa _:=H;obtain⟨sa,cap,rfl,-⟩:=hv;clear H hn;go_enter func190,ntmps190
 go_wp2_with fail
 refine aL HH.o ?_;rintro e w' ⟨rfl,hb⟩;go_wp2;go_ret;exact⟨rfl,(aN _ _).trans (hb.mono (by simp))⟩
theorem ac4(x:Int)(w:ai):Calls prog 285 #[U R x] w λe w'=>e=ax (aI false)/\w'=w:=by
 go_enter func285,ntmps285
 go_wp2;go_ret;exact⟨rfl,rfl⟩
theorem Aj(x y:Int)(w:ai):Calls prog 270 #[U R x,U R y] w λe w'=>e=ax (aI (decide (x<y)))/\w'=w:=by
 go_enter func270,ntmps270
 go_wp2_with fail
 refine(ac4 x _).mono ?_;rintro e w' ⟨rfl,rfl⟩;go_wp2;go_ret;exact⟨rfl,rfl⟩
theorem ac5(a b c d:Int)(B cap:Nat)(w:ai)(c0:w.cell? ⟨B,0,I⟩=J (U R a))(c1:w.cell? ⟨B,1,I⟩=J (U R b))(c2:w.cell? ⟨B,2,I⟩=J (U R c))(c3:w.cell? ⟨B,3,I⟩=J (U R d)):Calls prog 246 #[af (J ⟨B,0,I⟩) 4 cap] w λe w'=>e=ax (aI (ia a b c d))/\Below w.heap.size w w':=by
 go_enter func246,ntmps246
 go_wp2_with fail
 go_loopw [2,3] (λr i wr=>r=aI false/\Below w.heap.size w wr/\(i=U R 3\/(i=U R 2/\c<=d)\/(i=U R 1/\b<=c/\c<=d)\/(i=U R 0/\a<=b/\b<=c/\c<=d))) (λ_ i _=>(intOf i).toNat)
 case atStart=>exact⟨rfl,aC _ _,a_ rfl⟩
 case round=>
  obtain⟨rfl,hb,hrel⟩:=hrel;have c0:=aG hb c0;have c1:=aG hb c1;have c2:=aG hb c2;have c3:=aG hb c3;have HB:aa _:=hb;clear hb
  rcases hrel with rfl|⟨rfl,h1⟩|⟨rfl,h1⟩|⟨rfl,h1⟩
  ·have k0:IntKind.i64.wrap 2=2:=by decide
   by_cases hx:d<c
   ·have hd:=bM hx;go_wp2_with fail
    go_quiet (first|(go_at_call 270;exact o8 (Aj _ _ _)))
    go_wp2;go_ret;exact⟨by simp[ia];omega,cg HB.o _⟩
   have hd:=cw hx;go_wp2_with fail
   go_quiet (first|(go_at_call 270;exact o8 (Aj _ _ _)))
   go_wp2;go_roundw
   case rel=>exact⟨rfl,cg HB.o _,aP (a_ ⟨by go_num,by omega⟩)⟩
   case measure=>simp[intOf]
  ·have k0:IntKind.i64.wrap 1=1:=by decide
   by_cases hx:c<b
   ·have hd:=bM hx;go_wp2_with fail
    go_quiet (first|(go_at_call 270;exact o8 (Aj _ _ _)))
    go_wp2;go_ret;exact⟨by simp[ia];omega,cg HB.o _⟩
   have hd:=cw hx;go_wp2_with fail
   go_quiet (first|(go_at_call 270;exact o8 (Aj _ _ _)))
   go_wp2;go_roundw
   case rel=>exact⟨rfl,cg HB.o _,aP (aP (a_ ⟨by go_num,by omega,by omega⟩))⟩
   case measure=>simp[intOf]
  ·have k0:IntKind.i64.wrap 0=0:=by decide
   by_cases hx:b<a
   ·have hd:=bM hx;go_wp2_with fail
    go_quiet (first|(go_at_call 270;exact o8 (Aj _ _ _)))
    go_wp2;go_ret;exact⟨by simp[ia];omega,cg HB.o _⟩
   have hd:=cw hx;go_wp2_with fail
   go_quiet (first|(go_at_call 270;exact o8 (Aj _ _ _)))
   go_wp2;go_roundw
   case rel=>exact⟨rfl,cg HB.o _,aP (aP (aP ⟨by go_num,by omega,by omega,by omega⟩))⟩
   case measure=>simp[intOf]
  go_wp2;go_ret;exact⟨by simp[ia];omega,HB.o⟩
theorem Qw(a b c d:Int)(B cap:Nat)(w:ai)(c0:w.cell? ⟨B,0,I⟩=J (U R a))(c1:w.cell? ⟨B,1,I⟩=J (U R b))(c2:w.cell? ⟨B,2,I⟩=J (U R c))(c3:w.cell? ⟨B,3,I⟩=J (U R d)):Calls prog 201 #[af (J ⟨B,0,I⟩) 4 cap] w λe w'=>e=ax (aI (ia a b c d))/\Below w.heap.size w w':=by
 have H:=ac5 a b c d B cap w c0 c1 c2 c3;clear c0 c1 c2 c3;go_enter func201,ntmps201
 go_wp2_with fail
 refine H.mono ?_;rintro e w' ⟨rfl,hb⟩;go_wp2;go_ret;exact⟨rfl,hb⟩
theorem bN.take{α:Type}{enc:α->List ar}{k:Nat}{w:ai}{sa:Option az}{n cap:Nat}{xs:List α}(h:bN enc k w (af sa n cap) xs)(i:Nat)(hi:i<=xs.length)(cap':Nat)(hc:i<=cap'):bN enc k w (af sa i cap') (xs.take i):=by
 obtain⟨dI,c',e,-,h2⟩:=h
 cases e
 have hl:(xs.take i).length=i:=by simp;omega
 refine⟨sa,_,by rw[hl],by omega,λhne=>?_⟩;obtain⟨b,o,h3,h4⟩:=h2 (λe=>hne (by simp[e]))
 refine⟨b,o,h3,λj x hx=>h4 j x ?_⟩;rw[oG]at hx
 split at hx
 ·exact hx
 cases hx
theorem Qx{α:Type} [DecidableEq α] (xs:List α)(k:Nat)(x:α)(hx:xs[k]?=J x)(h:(xs.take k).any (λy=>decide (x=y))=true):twice xs=true:=by
 unfold twice;rw[nR];exact⟨k,by simp;exact(dT.1 hx).1,by rw[hx];exact h⟩
theorem Qy{α:Type} [DecidableEq α] (xs:List α)(h:∀(k:Nat) (x:α),xs[k]?=J x->(xs.take k).any (λy=>decide (x=y))=false):twice xs=false:=by
 unfold twice;rw[lW];intro k hk;simp only[mr]at hk;have:=h k _ (bH hk);rw[bH hk];simp only[this];simp
theorem ac6(v:ar)(xs:List Int)(z:Int)(w:ai)(hv:bN bm 1 w v xs)(hn:xs.length<=1000000):Calls prog 272 #[v,U R z] w λe w'=>e=ax (U R (oo (λy=>decide (z=y)) xs))/\Below w.heap.size w w':=by
 obtain⟨sa,cap,rfl,-,hcell⟩:=hv;have HC:aa _:=hcell;have HL:aa _:=hn;clear hcell hn;go_enter func272,ntmps272
 go_wp2_with fail
 go_loopw [5,8] (λ_ i wr=>∃k:Nat,k<=xs.length/\i=U R k/\Below w.heap.size w wr/\aa (∀(i:Nat) (y:Int),i<k->xs[i]?=J y->(λy=>decide (z=y)) y=false)) (λ_ i _=>xs.length-(intOf i).toNat)
 case atStart=>exact⟨0,bI _,rfl,aC _ _,λi b hi=>absurd hi (om _)⟩
 case round=>
  obtain⟨k,hk,rfl,dC,hall⟩:=hrel
  by_cases hlt:k<xs.length
  ·obtain⟨x,hx⟩:∃x,xs[k]?=J x:=⟨_,bH hlt⟩;obtain⟨b,o,rfl,hc0⟩:=HC.o (λe=>by subst e;simp at hx);have hc:=λi x h j u hu=>aG dC (hc0 i x h j u hu)
   have c0:=hc k x hx 0 _ rfl;simp only[tN,oH]at c0;have HX:aa _:=hx;have k1:(k:Int)<(xs.length:Int):=by omega
   have k0:k<1000000:=by have:=HL.o;omega
   have HB:aa _:=dC;clear hx hc0 hc HC dC
   by_cases dQ:z=x
   ·have gI:aa ((λy=>decide _) x=true):=bM dQ;have e1:(z==x)=true:=by simp[dQ]
    clear dQ;go_wp2_with fail
    go_ret;exact⟨by rw[Ag _ xs k x hall.o HX.o gI.o];rfl,HB.o⟩
   have gI:aa ((λy=>decide _) x=false):=cw dQ;have e1:(z==x)=false:=by simpa using dQ
   clear dQ;go_wp2_with fail
   go_roundw
   case rel=>
    refine⟨k+1,by omega,by go_num,HB.o,λi y hi e=>?_⟩
    by_cases hik:i=k
    ·subst hik;have h2:=HX.o;rw[h2]at e
     cases e
     exact gI.o
    exact hall.o i y (by omega) e
   case measure=>simp[intOf];omega
  have k1:¬(k:Int)<(xs.length:Int):=by omega
  have HN:aa _:=Af _ xs (λi x e=>hall.o i x (by have:=(dT.1 e).1;omega) e);clear HC;go_wp2;go_ret;exact⟨by rw[HN.o];rfl,dC⟩
theorem ac7(v:ar)(xs:List Int)(z:Int)(w:ai)(hv:bN bm 1 w v xs)(hn:xs.length<=1000000):Calls prog 248 #[v,U R z] w λe w'=>e=ax (aI (xs.any (λy=>decide (z=y))))/\Below w.heap.size w w':=by
 have H:=ac6 v xs z w hv hn;rw[<- Ah];obtain⟨sa,cap,rfl,-⟩:=hv;clear hn;go_enter func248,ntmps248
 go_wp2_with fail
 refine H.mono ?_;rintro e w' ⟨rfl,hb⟩;go_wp2;go_ret;exact⟨rfl,hb⟩
theorem ac8(v:ar)(xs:List (Int×Int))(z:(Int×Int))(w:ai)(hv:bN jq 2 w v xs)(hn:xs.length<=1000000):Calls prog 271 #[v,aU #[U R z.1,U R z.2]] w λe w'=>e=ax (U R (oo (λy=>decide (z=y)) xs))/\Below w.heap.size w w':=by
 obtain⟨sa,cap,rfl,-,hcell⟩:=hv;have HC:aa _:=hcell;have HL:aa _:=hn;clear hcell hn;have hg:=Ep;have heq:=Eo;go_enter func271,ntmps271
 go_wp2_with fail
 have HS:aa (∀W,Below (w.heap.size+1) (w.alloc (au #[U R z.1,U R z.2] 87)) W->Below w.heap.size w W/\w.heap.size+1<=W.heap.size/\W.cell? ⟨w.heap.size,0,I⟩=J (U R z.1)/\W.cell? ⟨w.heap.size,1,I⟩=J (U R z.2)):=λW hb=>by
  have hc:∀j v,(w.alloc _).cell? _=J v->W.cell? _=J v:=λj v e=>(hb.cell (p:=⟨w.heap.size,j,I⟩) (tV _)).trans e
  exact⟨((aC _ _).alloc (aQ _) _).trans (hb.mono (Nat.le_succ _)),by simpa using hb.size,hc 0 _ (by simp),hc 1 _ (by simp)⟩
 go_loopw [5,8] (λ_ i wr=>∃k:Nat,k<=xs.length/\i=U R k/\Below (w.heap.size+1) (w.alloc (au #[U R z.1,U R z.2] 87)) wr/\aa (∀(i:Nat) (y:(Int×Int)),i<k->xs[i]?=J y->(λy=>decide (z=y)) y=false)) (λ_ i _=>xs.length-(intOf i).toNat)
 case atStart=>exact⟨0,bI _,rfl,aC _ _,λi b hi=>absurd hi (om _)⟩
 case round=>
  obtain⟨k,hk,rfl,dC,hall⟩:=hrel;have JD:=dC;obtain⟨dC,hsz,p0,p1⟩:=HS.o _ JD;clear hsz HS;have ac9:aa _:=JD;clear JD
  by_cases hlt:k<xs.length
  ·obtain⟨x,hx⟩:∃x,xs[k]?=J x:=⟨_,bH hlt⟩;obtain⟨b,o,rfl,hc0⟩:=HC.o (λe=>by subst e;simp at hx);have hc:=λi x h j u hu=>aG dC (hc0 i x h j u hu)
   have c0:=hc k x hx 0 _ rfl;have c1:=hc k x hx 1 _ rfl;simp only[oH]at c0;have HX:aa _:=hx;have k1:(k:Int)<(xs.length:Int):=by omega
   have k0:k<1000000:=by have:=HL.o;omega
   have HB:aa _:=dC;clear hx hc0 hc HC dC
   by_cases dQ:z=x
   ·have gI:aa ((λy=>decide _) x=true):=bM dQ;have e1:(z.1==x.1)=true:=by simp[dQ]
    have e2:(z.2==x.2)=true:=by simp[dQ]
    clear dQ;go_wp2_with fail
    go_quiet (fail)
    go_wp2;go_ret;exact⟨by rw[Ag _ xs k x hall.o HX.o gI.o];rfl,cg HB.o _⟩
   have gI:aa ((λy=>decide _) x=false):=cw dQ;have ac_:(z.1==x.1)=false\/(z.1==x.1)=true/\(z.2==x.2)=false:=by
    by_cases h1:z.1=x.1
    ·right
     refine⟨by simpa using h1,?_⟩;simp only[iZ];exact λh2=>dQ (Prod.ext h1 h2)
    left;simpa using h1
   clear dQ
   rcases ac_ with e1|⟨e1,e2⟩
   all_goals
    go_wp2_with fail
    go_quiet (fail)
    go_wp2;go_roundw
    case rel=>
     refine⟨k+1,by omega,by go_num,cg ac9.o _,λi y hi e=>?_⟩
     by_cases hik:i=k
     ·subst hik;have h2:=HX.o;rw[h2]at e
      cases e
      exact gI.o
     exact hall.o i y (by omega) e
    case measure=>simp[intOf];omega
  have k1:¬(k:Int)<(xs.length:Int):=by omega
  have HN:aa _:=Af _ xs (λi x e=>hall.o i x (by have:=(dT.1 e).1;omega) e);clear HC;go_wp2;go_ret;exact⟨by rw[HN.o];rfl,dC⟩
theorem ac'(v:ar)(xs:List (Int×Int))(z:(Int×Int))(w:ai)(hv:bN jq 2 w v xs)(hn:xs.length<=1000000):Calls prog 247 #[v,aU #[U R z.1,U R z.2]] w λe w'=>e=ax (aI (xs.any (λy=>decide (z=y))))/\Below w.heap.size w w':=by
 have H:=ac8 v xs z _ (hv.below (aN w (au #[U R z.1,U R z.2] 87))) hn;rw[<- Ah];obtain⟨sa,cap,rfl,-⟩:=hv;clear hn;go_enter func247,ntmps247
 go_wp2_with fail
 refine H.mono ?_;rintro e w' ⟨rfl,hb⟩;go_wp2;go_ret;exact⟨rfl,(aN _ _).trans (hb.mono (by simp))⟩
theorem uF{B:Nat}{w w':ai}(h:Below B w w'):Below B w w'.drew:=cg h 1
theorem Qz(v:ar)(xs:List Int)(w:ai)(hv:bN bm 1 w v xs)(hn:xs.length<=1000000):Calls prog 207 #[v] w λe w'=>e=ax (aI (twice xs))/\Below w.heap.size w w':=by
 have HV:aa (bN _ 1 w v xs):=hv;obtain⟨sa,cap,rfl,CS,hcell⟩:=hv;have HC:aa _:=hcell;have HL:aa _:=hn;have CT:aa _:=CS;clear hcell hn CS;go_enter func207,ntmps207
 go_wp2_with fail
 go_loopw [3,4,7] (λ_ _ i wr=>∃k:Nat,k<=xs.length/\i=U R k/\Below w.heap.size w wr/\aa (∀(i:Nat) (y:Int),i<k->xs[i]?=J y->(xs.take i).any (λz=>decide (y=z))=false)) (λ_ _ i _=>xs.length-(intOf i).toNat)
 case atStart=>exact⟨0,bI _,rfl,aC _ _,λi b hi=>absurd hi (om _)⟩
 case round=>
  obtain⟨k,hk,rfl,dC,hall⟩:=hrel
  by_cases hlt:k<xs.length
  ·obtain⟨x,hx⟩:∃x,xs[k]?=J x:=⟨_,bH hlt⟩;obtain⟨b,o,rfl,hc0⟩:=HC.o (λe=>by subst e;simp at hx);have hc:=λi x h j u hu=>aG dC (hc0 i x h j u hu)
   have c0:=hc k x hx 0 _ rfl;simp only[tN,oH]at c0;have HX:aa _:=hx;have HT:aa _:=λW hW=>
    ac7 _ _ x W (((HV.o.below dC).below hW).take k (by omega) cap (by have:=CT.o;omega)) (by have:=HL.o;simp;omega)
   have k1:(k:Int)<(xs.length:Int):=by omega
   have k2:(0:Int)<=(k:Int):=by omega
   have k3:aa _:=HL.o;have k0:k<1000000:=by have:=HL.o;omega
   have HB:aa _:=dC;have Iz:k<=cap:=by have:=CT.o;omega
   clear hx hc0 hc HC dC HV
   cases dQ:(xs.take k).any (λz=>decide (x=z))with
   |true=>
    have jT:=HT.o;rw[dQ]at jT;have yf:aa _:=jT;have gI:aa _:=Qx xs k x HX.o dQ;clear jT dQ HT;go_wp2_with fail
    refine aL (yf.o _ (aC _ _)) ?_;rintro e W' ⟨rfl,hb'⟩;go_wp2;go_ret;exact⟨by rw[gI.o];rfl,HB.o.trans (hb'.mono HB.o.size)⟩
   |false=>
    have jT:=HT.o;rw[dQ]at jT;have yf:aa _:=jT;have gI:aa _:=dQ;clear jT dQ HT;go_wp2_with fail
    refine aL (yf.o _ (aC _ _)) ?_;rintro e W' ⟨rfl,hb'⟩;have HW:aa _:=HB.o.trans (hb'.mono HB.o.size);clear hb';go_wp2;go_roundw
    case rel=>
     refine⟨k+1,by omega,by go_num,HW.o,λi y hi e=>?_⟩
     by_cases hik:i=k
     ·subst hik;have h2:=HX.o;rw[h2]at e
      cases e
      exact gI.o
     exact hall.o i y (by omega) e
    case measure=>simp[intOf];omega
  have k1:¬(k:Int)<(xs.length:Int):=by omega
  have HN:aa _:=Qy xs (λi x e=>hall.o i x (by have:=(dT.1 e).1;omega) e);clear HC HV;go_wp2;go_ret;exact⟨by rw[HN.o];rfl,dC⟩
theorem ada(v:ar)(xs:List (Int×Int))(w:ai)(hv:bN jq 2 w v xs)(hn:xs.length<=1000000):Calls prog 205 #[v] w λe w'=>e=ax (aI (twice xs))/\Below w.heap.size w w':=by
 have HV:aa (bN _ 2 w v xs):=hv;obtain⟨sa,cap,rfl,CS,hcell⟩:=hv;have HC:aa _:=hcell;have HL:aa _:=hn;have CT:aa _:=CS;clear hcell hn CS;go_enter func205,ntmps205
 go_wp2_with fail
 go_loopw [3,4,7] (λ_ _ i wr=>∃k:Nat,k<=xs.length/\i=U R k/\Below w.heap.size w wr/\aa (∀(i:Nat) (y:(Int×Int)),i<k->xs[i]?=J y->(xs.take i).any (λz=>decide (y=z))=false)) (λ_ _ i _=>xs.length-(intOf i).toNat)
 case atStart=>exact⟨0,bI _,rfl,aC _ _,λi b hi=>absurd hi (om _)⟩
 case round=>
  obtain⟨k,hk,rfl,dC,hall⟩:=hrel
  by_cases hlt:k<xs.length
  ·obtain⟨x,hx⟩:∃x,xs[k]?=J x:=⟨_,bH hlt⟩;obtain⟨b,o,rfl,hc0⟩:=HC.o (λe=>by subst e;simp at hx);have hc:=λi x h j u hu=>aG dC (hc0 i x h j u hu)
   have c0:=hc k x hx 0 _ rfl;have c1:=hc k x hx 1 _ rfl;simp only[oH]at c0;have HX:aa _:=hx;have HT:aa _:=λW hW=>
    ac' _ _ x W (((HV.o.below dC).below hW).take k (by omega) cap (by have:=CT.o;omega)) (by have:=HL.o;simp;omega)
   have k1:(k:Int)<(xs.length:Int):=by omega
   have k2:(0:Int)<=(k:Int):=by omega
   have k3:aa _:=HL.o;have k0:k<1000000:=by have:=HL.o;omega
   have HB:aa _:=dC;have Iz:k<=cap:=by have:=CT.o;omega
   clear hx hc0 hc HC dC HV
   cases dQ:(xs.take k).any (λz=>decide (x=z))with
   |true=>
    have jT:=HT.o;rw[dQ]at jT;have yf:aa _:=jT;have gI:aa _:=Qx xs k x HX.o dQ;clear jT dQ HT;go_wp2_with fail
    have z0:(wr.alloc (au #[U R x.1,U R x.2] 87)).drew.cell? ⟨wr.heap.size,0,I⟩=J (U R x.1):=by simp
    have z1:(wr.alloc (au #[U R x.1,U R x.2] 87)).drew.cell? ⟨wr.heap.size,1,I⟩=J (U R x.2):=by simp
    go_region_held3 (λw'=>w'.cell? ⟨wr.heap.size,0,I⟩=J (U R x.1)/\w'.cell? ⟨wr.heap.size,1,I⟩=J (U R x.2)) (first|exact⟨z0,z1⟩|exact⟨y0,y1⟩) (first|(go_at_call 247;refine aL (yf.o _ (uF (aN _ _))) ?_;rintro e W' ⟨rfl,hb'⟩;have y0:=aG hb' z0;have y1:=aG hb' z1))
    go_wp2;go_ret;exact⟨by rw[gI.o];rfl,HB.o.trans (((uF (aN _ _)).mono HB.o.size).trans (hb'.mono (by simp;have:=HB.o.size;omega)))⟩
   |false=>
    have jT:=HT.o;rw[dQ]at jT;have yf:aa _:=jT;have gI:aa _:=dQ;clear jT dQ HT;go_wp2_with fail
    have z0:(wr.alloc (au #[U R x.1,U R x.2] 87)).drew.cell? ⟨wr.heap.size,0,I⟩=J (U R x.1):=by simp
    have z1:(wr.alloc (au #[U R x.1,U R x.2] 87)).drew.cell? ⟨wr.heap.size,1,I⟩=J (U R x.2):=by simp
    go_region_held3 (λw'=>w'.cell? ⟨wr.heap.size,0,I⟩=J (U R x.1)/\w'.cell? ⟨wr.heap.size,1,I⟩=J (U R x.2)) (first|exact⟨z0,z1⟩|exact⟨y0,y1⟩) (first|(go_at_call 247;refine aL (yf.o _ (uF (aN _ _))) ?_;rintro e W' ⟨rfl,hb'⟩;have y0:=aG hb' z0;have y1:=aG hb' z1))
    have HW:aa _:=HB.o.trans (((uF (aN _ _)).mono HB.o.size).trans (hb'.mono (by simp;have:=HB.o.size;omega)));clear hb';go_wp2;go_roundw
    case rel=>
     refine⟨k+1,by omega,by go_num,HW.o,λi y hi e=>?_⟩
     by_cases hik:i=k
     ·subst hik;have h2:=HX.o;rw[h2]at e
      cases e
      exact gI.o
     exact hall.o i y (by omega) e
    case measure=>simp[intOf];omega
  have k1:¬(k:Int)<(xs.length:Int):=by omega
  have HN:aa _:=Qy xs (λi x e=>hall.o i x (by have:=(dT.1 e).1;omega) e);clear HC HV;go_wp2;go_ret;exact⟨by rw[HN.o];rfl,dC⟩
theorem adb(nm:ByteArray)(aJ cnt mn mx:Int)(pa ga ea fa la:Option az)(pn pc gn gc en ec fn fc ln lc:Nat)  (w:ai):Calls prog 183 #[aU #[aq nm,U R aJ,af pa pn pc,U R cnt,U R mn,U R mx,af ga gn gc,af ea en ec,af fa fn fc,af la ln lc]] w λe w'=>e=ax (aI (!within aJ 0 20))/\Below w.heap.size w w':=by
 go_enter func183,ntmps183
 go_wp2_with fail
 refine(Bd aJ 0 20 _).mono ?_;rintro e w' ⟨rfl,rfl⟩;go_wp2;go_ret;exact⟨rfl,aN _ _⟩
theorem ade(nm:ByteArray)(aJ cnt mn mx:Int)(pa ga ea fa la:Option az)(pn pc gn gc en ec fn fc ln lc:Nat)  (w:ai):Calls prog 184 #[aU #[aq nm,U R aJ,af pa pn pc,U R cnt,U R mn,U R mx,af ga gn gc,af ea en ec,af fa fn fc,af la ln lc]] w λe w'=>e=ax (aI (decide (16<pn)))/\Below w.heap.size w w':=by
 have hd:decide (16<pn)=decide ((16:Int)<(pn:Int)):=jE.2 (by omega);rw[hd];go_enter func184,ntmps184
 go_wp2;go_ret;exact⟨rfl,aN _ _⟩
theorem adf(nm:ByteArray)(aJ cnt mn mx:Int)(pa ga ea fa la:Option az)(pn pc gn gc en ec fn fc ln lc:Nat)  (w:ai):Calls prog 185 #[aU #[aq nm,U R aJ,af pa pn pc,U R cnt,U R mn,U R mx,af ga gn gc,af ea en ec,af fa fn fc,af la ln lc]] w λe w'=>e=ax (aI (decide (8<gn)))/\Below w.heap.size w w':=by
 have hd:decide (8<gn)=decide ((8:Int)<(gn:Int)):=jE.2 (by omega);rw[hd];go_enter func185,ntmps185
 go_wp2;go_ret;exact⟨rfl,aN _ _⟩
theorem adg(nm:ByteArray)(aJ cnt mn mx:Int)(pa ga ea fa la:Option az)(pn pc gn gc en ec fn fc ln lc:Nat)  (w:ai):Calls prog 186 #[aU #[aq nm,U R aJ,af pa pn pc,U R cnt,U R mn,U R mx,af ga gn gc,af ea en ec,af fa fn fc,af la ln lc]] w λe w'=>e=ax (aI (decide (64<en)))/\Below w.heap.size w w':=by
 have hd:decide (64<en)=decide ((64:Int)<(en:Int)):=jE.2 (by omega);rw[hd];go_enter func186,ntmps186
 go_wp2;go_ret;exact⟨rfl,aN _ _⟩
theorem adh(nm:ByteArray)(aJ cnt mn mx:Int)(pa ga ea fa la:Option az)(pn pc gn gc en ec fn fc ln lc:Nat)  (w:ai):Calls prog 187 #[aU #[aq nm,U R aJ,af pa pn pc,U R cnt,U R mn,U R mx,af ga gn gc,af ea en ec,af fa fn fc,af la ln lc]] w λe w'=>e=ax (aI (decide (16<fn)))/\Below w.heap.size w w':=by
 have hd:decide (16<fn)=decide ((16:Int)<(fn:Int)):=jE.2 (by omega);rw[hd];go_enter func187,ntmps187
 go_wp2;go_ret;exact⟨rfl,aN _ _⟩
theorem adi(nm:ByteArray)(aJ cnt mn mx:Int)(pa ga ea fa la:Option az)(pn pc gn gc en ec fn fc ln lc:Nat)  (w:ai):Calls prog 188 #[aU #[aq nm,U R aJ,af pa pn pc,U R cnt,U R mn,U R mx,af ga gn gc,af ea en ec,af fa fn fc,af la ln lc]] w λe w'=>e=ax (aI (decide (16<ln)))/\Below w.heap.size w w':=by
 have hd:decide (16<ln)=decide ((16:Int)<(ln:Int)):=jE.2 (by omega);rw[hd];go_enter func188,ntmps188
 go_wp2;go_ret;exact⟨rfl,aN _ _⟩
def yg(A:Nat->az):Array ar:=#[.iface 352 (aj (J (A 1))),.func (.func 183) #[] #[],.iface 352 (aj (J (A 1))),.func (.func 184) #[] #[],.iface 352 (aj (J (A 1))),.func (.func 185) #[] #[],.iface 352 (aj (J (A 1))),.func (.func 186) #[] #[],.iface 352 (aj (J (A 1))),.func (.func 187) #[] #[],.iface 352 (aj (J (A 1))),.func (.func 188) #[] #[]]
theorem QA(A:Nat->az)(w:ai)(hs:lF A w):Calls prog 145 #[] w λe w'=>e=ax (af (J ⟨w.heap.size,0,I⟩) 6 6)/\w'=w.alloc (au (yg A) 270):=by
 have c1:=hs.c1;unfold yg;go_enter func145,ntmps145
 go_wp2;go_ret;exact⟨rfl,rfl⟩
def QB(i:Nat):Nat:=[183,184,185,186,187,188].getD i 0
theorem adj(A:Nat->az)(e:aF)(pa ga ea fa la:Option az)(pc gc ec fc lc:Nat)(r:Nat)(W:ai)(hr:W.heap[r]?=J (au (yg A) 270 (0,0))):Cs A W r (.agg (r9 e (af pa e.ak.length pc) (af ga e.aB.length gc) (af ea e.aA.length ec) (af fa e.first.length fc) (af la e.last.length lc))) [(!within e.aJ 0 20,2),(decide (16<e.ak.length),2),(decide (8<e.aB.length),2),(decide (64<e.aA.length),2),(decide (16<e.first.length),2),(decide (16<e.last.length),2)] QB:=by
 have hcell:∀j v,(yg A)[j]?=J v->W.cell? ⟨r,j,I⟩=J v:=λj v e=>by simp[World.cell?,hr,e]
 refine⟨λi b d e=>?_,λi b d e=>?_,λi b d e' V hV=>?_,by simp,λi b d e=>?_⟩
 ·match i,e with
  |0,e=>cases e;exact⟨hcell 0 _ rfl,hcell 1 _ rfl⟩
  |1,e=>cases e;exact⟨hcell 2 _ rfl,hcell 3 _ rfl⟩
  |2,e=>cases e;exact⟨hcell 4 _ rfl,hcell 5 _ rfl⟩
  |3,e=>cases e;exact⟨hcell 6 _ rfl,hcell 7 _ rfl⟩
  |4,e=>cases e;exact⟨hcell 8 _ rfl,hcell 9 _ rfl⟩
  |5,e=>cases e;exact⟨hcell 10 _ rfl,hcell 11 _ rfl⟩
  |i+6,e=>cases e
 ·match i,e with
  |0,_=>exact enters_of func183 (by kernel_rfl) rfl
  |1,_=>exact enters_of func184 (by kernel_rfl) rfl
  |2,_=>exact enters_of func185 (by kernel_rfl) rfl
  |3,_=>exact enters_of func186 (by kernel_rfl) rfl
  |4,_=>exact enters_of func187 (by kernel_rfl) rfl
  |5,_=>exact enters_of func188 (by kernel_rfl) rfl
  |i+6,e=>cases e
 ·match i,e' with
  |0,e'=>cases e';exact adb _ _ _ _ _ _ _ _ _ _ _ _ _ _ _ _ _ _ _ _ _
  |1,e'=>cases e';exact ade _ _ _ _ _ _ _ _ _ _ _ _ _ _ _ _ _ _ _ _ _
  |2,e'=>cases e';exact adf _ _ _ _ _ _ _ _ _ _ _ _ _ _ _ _ _ _ _ _ _
  |3,e'=>cases e';exact adg _ _ _ _ _ _ _ _ _ _ _ _ _ _ _ _ _ _ _ _ _
  |4,e'=>cases e';exact adh _ _ _ _ _ _ _ _ _ _ _ _ _ _ _ _ _ _ _ _ _
  |5,e'=>cases e';exact adi _ _ _ _ _ _ _ _ _ _ _ _ _ _ _ _ _ _ _ _ _
  |i+6,e'=>cases e'
 match i,e with
 |0,e=>cases e;decide
 |1,e=>cases e;decide
 |2,e=>cases e;decide
 |3,e=>cases e;decide
 |4,e=>cases e;decide
 |5,e=>cases e;decide
 |i+6,e=>cases e
theorem adk(w:ai)(a:Int)(t:TypeId):bN bm 1 (w.alloc (au #[U R a] t)) (af (J ⟨w.heap.size,0,I⟩) 1 1) [a]:=by
 refine⟨_,_,rfl,aQ _,λ_=>⟨_,_,rfl,λi x hx j u hu=>?_⟩⟩
 match i,hx with
 |0,hx=>
  cases hx
  match j,hu with
  |0,hu=>cases hu;simp
  |j+1,hu=>cases hu
 |i+1,hx=>cases hx
theorem adl(w:ai)(a b:Int)(t:TypeId):bN bm 1 (w.alloc (au #[U R a,U R b] t)) (af (J ⟨w.heap.size,0,I⟩) 2 2) [a,b]:=by
 refine⟨_,_,rfl,aQ _,λ_=>⟨_,_,rfl,λi x hx j u hu=>?_⟩⟩
 match i,hx with
 |0,hx=>
  cases hx
  match j,hu with
  |0,hu=>cases hu;simp
  |j+1,hu=>cases hu
 |1,hx=>
  cases hx
  match j,hu with
  |0,hu=>cases hu;simp
  |j+1,hu=>cases hu
 |i+2,hx=>cases hx
theorem adm(w:ai)(o:Obj)(a:Int)(t:TypeId):bN bm 1 ((w.alloc o).alloc (au #[U R a] t)) (af (J ⟨w.heap.size+1,0,I⟩) 1 1) [a]:=by
 rw[show w.heap.size+1=(w.alloc o).heap.size by simp];exact adk _ a t
theorem QC(w:ai)(o:Obj)(a b:Int)(t:TypeId):bN bm 1 ((w.alloc o).alloc (au #[U R a,U R b] t)) (af (J ⟨w.heap.size+1,0,I⟩) 2 2) [a,b]:=by
 rw[show w.heap.size+1=(w.alloc o).heap.size by simp];exact adl _ a b t
def oq(W:ai)(B:Nat)(row:Array ar):Prop:=∀j v,row[j]?=J v->W.cell? ⟨B,j,I⟩=J v
theorem oq.below{W W':ai}{B:Nat}{row:Array ar}(h:oq W B row)(hb:Below W.heap.size W W'):oq W' B row:=λj v e=>aG hb (h j v e)
theorem oq.new(w:ai)(row:Array ar)(t:TypeId):oq (w.alloc (au row t)) w.heap.size row:=λj v e=>by rw[dK _ _ _ _ rfl];exact e
theorem adn(nm:ByteArray)(aJ cnt mn mx:Int)(pa ga ea fa la:Option az)(pn pc gn gc en ec fn fc ln lc:Nat)  (w:ai):Calls prog 189 #[aU #[aq nm,U R aJ,af pa pn pc,U R cnt,U R mn,U R mx,af ga gn gc,af ea en ec,af fa fn fc,af la ln lc]] w λe w'=>e=ax (aI (decide (cnt≠-1)&&lacks pn cnt))/\Below w.heap.size w w':=by
 by_cases h:cnt=-1
 ·subst h;go_enter func189,ntmps189
  go_wp2;go_ret;exact⟨rfl,aN _ _⟩
 have hd:(cnt == -1)=false:=by simpa using h
 have wE:(cnt != -1)=true:=by simpa using h
 have H:=CR nm aJ cnt mn mx pa ga ea fa la pn pc gn gc en ec fn fc ln lc _ _ _ (adm w (au #[aq nm,U R aJ,af pa pn pc,U R cnt,U R mn,U R mx,af ga gn gc,af ea en ec,af fa fn fc,af la ln lc] 84) cnt 3) (by simp);simp only[xc,List.any_nil,vp]at H;have HH:aa _:=H;have hr:(decide (cnt≠-1)&&lacks pn cnt)=lacks pn cnt:=by simp[h]
 rw[hr];have HD:aa (cnt≠-1):=h;clear H h hr;go_enter func189,ntmps189
 go_wp2_with fail
 refine aL HH.o ?_;rintro e w' ⟨rfl,hb⟩;go_wp2;go_ret;exact⟨rfl,((aN _ _).alloc (by simp) _).trans (hb.mono (by simp;omega))⟩
theorem ado(nm:ByteArray)(aJ cnt mn mx:Int)(pa ga ea fa la:Option az)(pn pc gn gc en ec fn fc ln lc:Nat)(x:fM)(B:Nat)(W:ai)(hB:oq W B #[aq nm,U R aJ,af pa pn pc,U R cnt,U R mn,U R mx,af ga gn gc,af ea en ec,af fa fn fc,af la ln lc]):Calls prog 193 #[aU #[U R x.fr,U R x.to,U R x.mn,U R x.mx],aj (J ⟨B,0,I⟩)] W λe w'=>e=ax (aI (lacks pn x.fr||lacks pn x.to))/\Below W.heap.size W w':=by
 have b0:∀o,(W.alloc o).cell? _=J (aq nm):=λo=>aG (aN _ _) (hB 0 _ rfl)
 have b1:∀o,(W.alloc o).cell? _=J (U R aJ):=λo=>aG (aN _ _) (hB 1 _ rfl)
 have b2:∀o,(W.alloc o).cell? _=J (af pa pn pc):=λo=>aG (aN _ _) (hB 2 _ rfl)
 have b3:∀o,(W.alloc o).cell? _=J (U R cnt):=λo=>aG (aN _ _) (hB 3 _ rfl)
 have b4:∀o,(W.alloc o).cell? _=J (U R mn):=λo=>aG (aN _ _) (hB 4 _ rfl)
 have b5:∀o,(W.alloc o).cell? _=J (U R mx):=λo=>aG (aN _ _) (hB 5 _ rfl)
 have b6:∀o,(W.alloc o).cell? _=J (af ga gn gc):=λo=>aG (aN _ _) (hB 6 _ rfl)
 have b7:∀o,(W.alloc o).cell? _=J (af ea en ec):=λo=>aG (aN _ _) (hB 7 _ rfl)
 have b8:∀o,(W.alloc o).cell? _=J (af fa fn fc):=λo=>aG (aN _ _) (hB 8 _ rfl)
 have b9:∀o,(W.alloc o).cell? _=J (af la ln lc):=λo=>aG (aN _ _) (hB 9 _ rfl)
 have H:=CR nm aJ cnt mn mx pa ga ea fa la pn pc gn gc en ec fn fc ln lc _ _ _ (QC W (au #[U R x.fr,U R x.to,U R x.mn,U R x.mx] 86) (x.fr) (x.to) 3) (by simp);simp only[xc,List.any_nil,vp]at H;have HH:aa _:=H;clear H hB;go_enter func193,ntmps193
 go_wp2_with fail
 refine aL HH.o ?_;rintro e w' ⟨rfl,hb⟩;go_wp2;go_ret;exact⟨rfl,((aN _ _).alloc (by simp) _).trans (hb.mono (by simp;omega))⟩
theorem adp(nm:ByteArray)(aJ cnt mn mx:Int)(pa ga ea fa la:Option az)(pn pc gn gc en ec fn fc ln lc:Nat)(x:(Int×Int))(B:Nat)(W:ai)(hB:oq W B #[aq nm,U R aJ,af pa pn pc,U R cnt,U R mn,U R mx,af ga gn gc,af ea en ec,af fa fn fc,af la ln lc]):Calls prog 196 #[aU #[U R x.1,U R x.2],aj (J ⟨B,0,I⟩)] W λe w'=>e=ax (aI (lacks pn x.1||lacks pn x.2))/\Below W.heap.size W w':=by
 have b0:∀o,(W.alloc o).cell? _=J (aq nm):=λo=>aG (aN _ _) (hB 0 _ rfl)
 have b1:∀o,(W.alloc o).cell? _=J (U R aJ):=λo=>aG (aN _ _) (hB 1 _ rfl)
 have b2:∀o,(W.alloc o).cell? _=J (af pa pn pc):=λo=>aG (aN _ _) (hB 2 _ rfl)
 have b3:∀o,(W.alloc o).cell? _=J (U R cnt):=λo=>aG (aN _ _) (hB 3 _ rfl)
 have b4:∀o,(W.alloc o).cell? _=J (U R mn):=λo=>aG (aN _ _) (hB 4 _ rfl)
 have b5:∀o,(W.alloc o).cell? _=J (U R mx):=λo=>aG (aN _ _) (hB 5 _ rfl)
 have b6:∀o,(W.alloc o).cell? _=J (af ga gn gc):=λo=>aG (aN _ _) (hB 6 _ rfl)
 have b7:∀o,(W.alloc o).cell? _=J (af ea en ec):=λo=>aG (aN _ _) (hB 7 _ rfl)
 have b8:∀o,(W.alloc o).cell? _=J (af fa fn fc):=λo=>aG (aN _ _) (hB 8 _ rfl)
 have b9:∀o,(W.alloc o).cell? _=J (af la ln lc):=λo=>aG (aN _ _) (hB 9 _ rfl)
 have H:=CR nm aJ cnt mn mx pa ga ea fa la pn pc gn gc en ec fn fc ln lc _ _ _ (QC W (au #[U R x.1,U R x.2] 87) (x.1) (x.2) 3) (by simp);simp only[xc,List.any_nil,vp]at H;have HH:aa _:=H;clear H hB;go_enter func196,ntmps196
 go_wp2_with fail
 refine aL HH.o ?_;rintro e w' ⟨rfl,hb⟩;go_wp2;go_ret;exact⟨rfl,((aN _ _).alloc (by simp) _).trans (hb.mono (by simp;omega))⟩
theorem adq(nm:ByteArray)(aJ cnt mn mx:Int)(pa ga ea fa la:Option az)(pn pc gn gc en ec fn fc ln lc:Nat)(xs:List fM)(w:ai)(hv:bN iD 4 w (af ga gn gc) xs)(hn:xs.length<=1000000):Calls prog 191 #[aU #[aq nm,U R aJ,af pa pn pc,U R cnt,U R mn,U R mx,af ga gn gc,af ea en ec,af fa fn fc,af la ln lc]] w λe w'=>e=ax (aI (xs.any λx=>lacks pn x.fr||lacks pn x.to))/\Below w.heap.size w w':=by
 have H:=Qv _ xs _ 193 #[aj _] _ (hv.below (aN w (au _ 84))) hn (enters_of func193 (by kernel_rfl) rfl) (λW hb x _=>ado nm aJ cnt mn mx pa ga ea fa la pn pc gn gc en ec fn fc ln lc x _ W ((oq.new w _ _).below hb));have HH:aa _:=H;clear H hv hn;go_enter func191,ntmps191
 go_wp2_with fail
 refine aL HH.o ?_;rintro e w' ⟨rfl,hb⟩;go_wp2;go_ret;exact⟨rfl,(aN _ _).trans (hb.mono (by simp))⟩
theorem adr(nm:ByteArray)(aJ cnt mn mx:Int)(pa ga ea fa la:Option az)(pn pc gn gc en ec fn fc ln lc:Nat)(xs:List (Int×Int))(w:ai)(hv:bN jq 2 w (af ea en ec) xs)(hn:xs.length<=1000000):Calls prog 194 #[aU #[aq nm,U R aJ,af pa pn pc,U R cnt,U R mn,U R mx,af ga gn gc,af ea en ec,af fa fn fc,af la ln lc]] w λe w'=>e=ax (aI (xs.any λx=>lacks pn x.1||lacks pn x.2))/\Below w.heap.size w w':=by
 have H:=ac1 _ xs _ 196 #[aj _] _ (hv.below (aN w (au _ 84))) hn (enters_of func196 (by kernel_rfl) rfl) (λW hb x _=>adp nm aJ cnt mn mx pa ga ea fa la pn pc gn gc en ec fn fc ln lc x _ W ((oq.new w _ _).below hb));have HH:aa _:=H;clear H hv hn;go_enter func194,ntmps194
 go_wp2_with fail
 refine aL HH.o ?_;rintro e w' ⟨rfl,hb⟩;go_wp2;go_ret;exact⟨rfl,(aN _ _).trans (hb.mono (by simp))⟩
theorem ads(nm:ByteArray)(aJ cnt mn mx:Int)(pa ga ea fa la:Option az)(pn pc gn gc en ec fn fc ln lc:Nat)(xs:List Int)(w:ai)(hv:bN bm 1 w (af fa fn fc) xs)(hn:xs.length<=1000000):Calls prog 197 #[aU #[aq nm,U R aJ,af pa pn pc,U R cnt,U R mn,U R mx,af ga gn gc,af ea en ec,af fa fn fc,af la ln lc]] w λe w'=>e=ax (aI (xs.any λx=>lacks pn x))/\Below w.heap.size w w':=by
 have H:=CR nm aJ cnt mn mx pa ga ea fa la pn pc gn gc en ec fn fc ln lc _ xs _ (hv.below (aN w (au #[aq nm,U R aJ,af pa pn pc,U R cnt,U R mn,U R mx,af ga gn gc,af ea en ec,af fa fn fc,af la ln lc] 84))) hn;have HH:aa _:=H;clear H hv hn;go_enter func197,ntmps197
 go_wp2_with fail
 refine aL HH.o ?_;rintro e w' ⟨rfl,hb⟩;go_wp2;go_ret;exact⟨rfl,(aN _ _).trans (hb.mono (by simp))⟩
theorem adt(nm:ByteArray)(aJ cnt mn mx:Int)(pa ga ea fa la:Option az)(pn pc gn gc en ec fn fc ln lc:Nat)(xs:List Int)(w:ai)(hv:bN bm 1 w (af la ln lc) xs)(hn:xs.length<=1000000):Calls prog 198 #[aU #[aq nm,U R aJ,af pa pn pc,U R cnt,U R mn,U R mx,af ga gn gc,af ea en ec,af fa fn fc,af la ln lc]] w λe w'=>e=ax (aI (xs.any λx=>lacks pn x))/\Below w.heap.size w w':=by
 have H:=CR nm aJ cnt mn mx pa ga ea fa la pn pc gn gc en ec fn fc ln lc _ xs _ (hv.below (aN w (au #[aq nm,U R aJ,af pa pn pc,U R cnt,U R mn,U R mx,af ga gn gc,af ea en ec,af fa fn fc,af la ln lc] 84))) hn;have HH:aa _:=H;clear H hv hn;go_enter func198,ntmps198
 go_wp2_with fail
 refine aL HH.o ?_;rintro e w' ⟨rfl,hb⟩;go_wp2;go_ret;exact⟨rfl,(aN _ _).trans (hb.mono (by simp))⟩
theorem adu(nm:ByteArray)(aJ cnt mn mx:Int)(pa ga ea fa la:Option az)(pn pc gn gc en ec fn fc ln lc:Nat)  (w:ai):Calls prog 199 #[aU #[aq nm,U R aJ,af pa pn pc,U R cnt,U R mn,U R mx,af ga gn gc,af ea en ec,af fa fn fc,af la ln lc]] w λe w'=>e=ax (aI (decide (cnt=-1)&&(decide (mn≠0)||decide (mx≠0))))/\Below w.heap.size w w':=by
 by_cases h:cnt=-1
 ·subst h
  by_cases h1:mn=0
  ·subst h1
   by_cases h2:mx=0
   ·subst h2;go_enter func199,ntmps199
    go_wp2;go_ret;exact⟨rfl,aN _ _⟩
   have hd:(mx != 0)=true:=by simpa using h2
   rw[show (decide _&&(decide _||decide _))=true by simp[h2]];clear h2;go_enter func199,ntmps199
   go_wp2;go_ret;exact⟨rfl,aN _ _⟩
  have hd:(mn != 0)=true:=by simpa using h1
  rw[show (decide _&&(decide _||decide _))=true by simp[h1]];clear h1;go_enter func199,ntmps199
  go_wp2;go_ret;exact⟨rfl,aN _ _⟩
 have hd:(cnt == -1)=false:=by simpa using h
 rw[show (decide _&&(decide _||decide _))=false by simp[h]];clear h;go_enter func199,ntmps199
 go_wp2;go_ret;exact⟨rfl,aN _ _⟩
theorem wH(w:ai)(o:Obj)(row:Array ar)(t:TypeId)(j:Nat)(v:ar)(h:row[j]?=J v):((w.alloc o).alloc (au row t)).cell? ⟨w.heap.size+1,j,I⟩=J v:=by
 rw[show w.heap.size+1=(w.alloc o).heap.size by simp,dK _ _ _ _ rfl];exact h
theorem adv(nm:ByteArray)(aJ cnt mn mx:Int)(pa ga ea fa la:Option az)(pn pc gn gc en ec fn fc ln lc:Nat)(w:ai):Calls prog 200 #[aU #[aq nm,U R aJ,af pa pn pc,U R cnt,U R mn,U R mx,af ga gn gc,af ea en ec,af fa fn fc,af la ln lc]] w λe w'=>e=ax (aI (!ia 0 mn mx 999))/\Below w.heap.size w w':=by
 have H:=Qw 0 mn mx 999 _ 4 ((w.alloc (au #[aq nm,U R aJ,af pa pn pc,U R cnt,U R mn,U R mx,af ga gn gc,af ea en ec,af fa fn fc,af la ln lc] 84)).alloc (au #[U R 0,U R mn,U R mx,U R 999] 3)) (wH w _ _ _ 0 _ rfl) (wH w _ _ _ 1 _ rfl) (wH w _ _ _ 2 _ rfl) (wH w _ _ _ 3 _ rfl);have HH:aa _:=H;clear H;go_enter func200,ntmps200
 go_wp2_with fail
 refine aL HH.o ?_;rintro e w' ⟨rfl,hb⟩;go_wp2;go_ret;exact⟨rfl,((aN _ _).alloc (by simp) _).trans (hb.mono (by simp;omega))⟩
theorem adw(x:fM)(w:ai):Calls prog 203 #[aU #[U R x.fr,U R x.to,U R x.mn,U R x.mx]] w λe w'=>e=ax (aI (!ia 0 x.mn x.mx 1099511627776))/\Below w.heap.size w w':=by
 have H:=Qw 0 _ _ 1099511627776 _ 4 ((w.alloc (au #[U R x.fr,U R x.to,U R x.mn,U R x.mx] 86)).alloc (au #[U R 0,U R x.mn,U R x.mx,U R 1099511627776] 3)) (wH w _ _ _ 0 _ rfl) (wH w _ _ _ 1 _ rfl) (wH w _ _ _ 2 _ rfl) (wH w _ _ _ 3 _ rfl);have HH:aa _:=H;clear H;go_enter func203,ntmps203
 go_wp2_with fail
 refine aL HH.o ?_;rintro e w' ⟨rfl,hb⟩;go_wp2;go_ret;exact⟨rfl,((aN _ _).alloc (by simp) _).trans (hb.mono (by simp;omega))⟩
theorem adx(nm:ByteArray)(aJ cnt mn mx:Int)(pa ga ea fa la:Option az)(pn pc gn gc en ec fn fc ln lc:Nat)(xs:List fM)(w:ai)(hv:bN iD 4 w (af ga gn gc) xs)(hn:xs.length<=1000000):Calls prog 202 #[aU #[aq nm,U R aJ,af pa pn pc,U R cnt,U R mn,U R mx,af ga gn gc,af ea en ec,af fa fn fc,af la ln lc]] w λe w'=>e=ax (aI (xs.any λx=>!ia 0 x.mn x.mx 1099511627776))/\Below w.heap.size w w':=by
 have H:=Qv _ xs _ 203 #[] _ (hv.below (aN w (au #[aq nm,U R aJ,af pa pn pc,U R cnt,U R mn,U R mx,af ga gn gc,af ea en ec,af fa fn fc,af la ln lc] 84))) hn (enters_of func203 (by kernel_rfl) rfl) (λW _ x _=>adw x W);have HH:aa _:=H;clear H hv hn;go_enter func202,ntmps202
 go_wp2_with fail
 refine aL HH.o ?_;rintro e w' ⟨rfl,hb⟩;go_wp2;go_ret;exact⟨rfl,(aN _ _).trans (hb.mono (by simp))⟩
theorem ady(nm:ByteArray)(aJ cnt mn mx:Int)(pa ga ea fa la:Option az)(pn pc gn gc en ec fn fc ln lc:Nat)(xs:List (Int×Int))(w:ai)(hv:bN jq 2 w (af ea en ec) xs)(hn:xs.length<=1000000):Calls prog 204 #[aU #[aq nm,U R aJ,af pa pn pc,U R cnt,U R mn,U R mx,af ga gn gc,af ea en ec,af fa fn fc,af la ln lc]] w λe w'=>e=ax (aI (twice xs))/\Below w.heap.size w w':=by
 have H:=ada _ xs _ (hv.below (aN w (au #[aq nm,U R aJ,af pa pn pc,U R cnt,U R mn,U R mx,af ga gn gc,af ea en ec,af fa fn fc,af la ln lc] 84))) hn;have HH:aa _:=H;clear H hv hn;go_enter func204,ntmps204
 go_wp2_with fail
 refine aL HH.o ?_;rintro e w' ⟨rfl,hb⟩;go_wp2;go_ret;exact⟨rfl,(aN _ _).trans (hb.mono (by simp))⟩
theorem adz(nm:ByteArray)(aJ cnt mn mx:Int)(pa ga ea fa la:Option az)(pn pc gn gc en ec fn fc ln lc:Nat)(xs:List Int)(w:ai)(hv:bN bm 1 w (af fa fn fc) xs)(hn:xs.length<=1000000):Calls prog 206 #[aU #[aq nm,U R aJ,af pa pn pc,U R cnt,U R mn,U R mx,af ga gn gc,af ea en ec,af fa fn fc,af la ln lc]] w λe w'=>e=ax (aI (twice xs))/\Below w.heap.size w w':=by
 have H:=Qz _ xs _ (hv.below (aN w (au #[aq nm,U R aJ,af pa pn pc,U R cnt,U R mn,U R mx,af ga gn gc,af ea en ec,af fa fn fc,af la ln lc] 84))) hn;have HH:aa _:=H;clear H hv hn;go_enter func206,ntmps206
 go_wp2_with fail
 refine aL HH.o ?_;rintro e w' ⟨rfl,hb⟩;go_wp2;go_ret;exact⟨rfl,(aN _ _).trans (hb.mono (by simp))⟩
theorem adA(nm:ByteArray)(aJ cnt mn mx:Int)(pa ga ea fa la:Option az)(pn pc gn gc en ec fn fc ln lc:Nat)(xs:List Int)(w:ai)(hv:bN bm 1 w (af la ln lc) xs)(hn:xs.length<=1000000):Calls prog 208 #[aU #[aq nm,U R aJ,af pa pn pc,U R cnt,U R mn,U R mx,af ga gn gc,af ea en ec,af fa fn fc,af la ln lc]] w λe w'=>e=ax (aI (twice xs))/\Below w.heap.size w w':=by
 have H:=Qz _ xs _ (hv.below (aN w (au #[aq nm,U R aJ,af pa pn pc,U R cnt,U R mn,U R mx,af ga gn gc,af ea en ec,af fa fn fc,af la ln lc] 84))) hn;have HH:aa _:=H;clear H hv hn;go_enter func208,ntmps208
 go_wp2_with fail
 refine aL HH.o ?_;rintro e w' ⟨rfl,hb⟩;go_wp2;go_ret;exact⟨rfl,(aN _ _).trans (hb.mono (by simp))⟩
theorem adB(nm:ByteArray)(aJ cnt mn mx:Int)(pa ga ea fa la:Option az)(pn pc gn gc en ec fn fc ln lc:Nat)  (w:ai):Calls prog 209 #[aU #[aq nm,U R aJ,af pa pn pc,U R cnt,U R mn,U R mx,af ga gn gc,af ea en ec,af fa fn fc,af la ln lc]] w λe w'=>e=ax (aI (decide (0<en)&&decide (fn=0)))/\Below w.heap.size w w':=by
 by_cases h:0<en
 ·have g:(0:Int)<(en:Int):=by omega
  by_cases h2:fn=0
  ·subst h2;rw[show (decide _&&decide _)=true by simp[h]];clear h;go_enter func209,ntmps209
   go_wp2;go_ret;exact⟨rfl,aN _ _⟩
  have g2:((fn:Int)==0)=false:=by rw[iZ];omega
  rw[show (decide _&&decide _)=false by simp[h2]];clear h h2;go_enter func209,ntmps209
  go_wp2;go_ret;exact⟨rfl,aN _ _⟩
 obtain rfl:en=0:=by omega
 rw[show (decide _&&decide _)=false by simp];go_enter func209,ntmps209
 go_wp2;go_ret;exact⟨rfl,aN _ _⟩
theorem adC(nm:ByteArray)(aJ cnt mn mx:Int)(pa ga ea fa la:Option az)(pn pc gn gc en ec fn fc ln lc:Nat)(hf:fn<=1000000)(hl:ln<=1000000)(w:ai):Calls prog 210 #[aU #[aq nm,U R aJ,af pa pn pc,U R cnt,U R mn,U R mx,af ga gn gc,af ea en ec,af fa fn fc,af la ln lc]] w λe w'=>e=ax (aI (decide (en=0)&&decide (0<fn+ln)))/\Below w.heap.size w w':=by
 by_cases h:en=0
 ·subst h;have hw:IntKind.i64.wrap ((fn:Int)+(ln:Int))=((fn+ln:Nat):Int):=by rw[zm];omega
  rw[show (decide _&&decide _)=decide ((0:Int)<((fn+ln:Nat):Int)) by simp only[decide_true,Bool.true_and];exact jE.2 (by omega)];generalize ((fn+ln:Nat):Int)=q at *;clear hf hl;go_enter func210,ntmps210
  go_wp2;go_ret;exact⟨rfl,aN _ _⟩
 have g:((en:Int)==0)=false:=by rw[iZ];omega
 rw[show (decide _&&decide _)=false by simp[h]];clear h hf hl;go_enter func210,ntmps210
 go_wp2;go_ret;exact⟨rfl,aN _ _⟩
def Ak(A:Nat->az):Array ar:=#[.iface 352 (aj (J (A 4))),.func (.func 189) #[] #[],.iface 352 (aj (J (A 4))),.func (.func 191) #[] #[],.iface 352 (aj (J (A 4))),.func (.func 194) #[] #[],.iface 352 (aj (J (A 4))),.func (.func 197) #[] #[],.iface 352 (aj (J (A 4))),.func (.func 198) #[] #[],.iface 352 (aj (J (A 2))),.func (.func 199) #[] #[],.iface 352 (aj (J (A 1))),.func (.func 200) #[] #[],.iface 352 (aj (J (A 1))),.func (.func 202) #[] #[],.iface 352 (aj (J (A 5))),.func (.func 204) #[] #[],.iface 352 (aj (J (A 5))),.func (.func 206) #[] #[],.iface 352 (aj (J (A 5))),.func (.func 208) #[] #[],.iface 352 (aj (J (A 2))),.func (.func 209) #[] #[],.iface 352 (aj (J (A 2))),.func (.func 210) #[] #[]]
theorem adD(A:Nat->az)(w:ai)(hs:lF A w):Calls prog 146 #[] w λe w'=>e=ax (af (J ⟨w.heap.size,0,I⟩) 13 13)/\w'=w.alloc (au (Ak A) 270):=by
 have c1:=hs.c1;have c2:=hs.c2;have c4:=hs.c4;have c5:=hs.c5;unfold Ak;go_enter func146,ntmps146
 go_wp2;go_ret;exact⟨rfl,rfl⟩
def QD(i:Nat):Nat:=[189,191,194,197,198,199,200,202,204,206,208,209,210].getD i 0
theorem adE(A:Nat->az)(e:aF)(pa ga ea fa la:Option az)(pc gc ec fc lc:Nat)(r:Nat)(W:ai)(hP:mB W e (af pa e.ak.length pc) (af ga e.aB.length gc) (af ea e.aA.length ec) (af fa e.first.length fc) (af la e.last.length lc))(hS:k7 e)(hr:W.heap[r]?=J (au (Ak A) 270 (0,0))):Cs A W r (.agg (r9 e (af pa e.ak.length pc) (af ga e.aB.length gc) (af ea e.aA.length ec) (af fa e.first.length fc) (af la e.last.length lc))) [
 (decide (e.cnt≠-1)&&lacks e.ak.length e.cnt,5),
 (e.aB.any λg=>lacks e.ak.length g.fr||lacks e.ak.length g.to,5),
 (e.aA.any λd=>lacks e.ak.length d.1||lacks e.ak.length d.2,5),
 (e.first.any λx=>lacks e.ak.length x,5),
 (e.last.any λx=>lacks e.ak.length x,5),
 (decide (e.cnt=-1)&&(decide (e.mn≠0)||decide (e.mx≠0)),3),
 (!ia 0 e.mn e.mx 999,2),
 (e.aB.any λg=>!ia 0 g.mn g.mx 1099511627776,2),
 (twice e.aA,6),(twice e.first,6),(twice e.last,6),
 (decide (0<e.aA.length)&&decide (e.first.length=0),3),
 (decide (e.aA.length=0)&&decide (0<e.first.length+e.last.length),3)] QD:=by
 have hcell:∀j v,(Ak A)[j]?=J v->W.cell? ⟨r,j,I⟩=J v:=λj v e=>by simp[World.cell?,hr,e]
 refine⟨λi b d e=>?_,λi b d e=>?_,λi b d e' V hV=>?_,by simp,λi b d e=>?_⟩
 ·match i,e with
  |0,e=>cases e;exact⟨hcell 0 _ rfl,hcell 1 _ rfl⟩
  |1,e=>cases e;exact⟨hcell 2 _ rfl,hcell 3 _ rfl⟩
  |2,e=>cases e;exact⟨hcell 4 _ rfl,hcell 5 _ rfl⟩
  |3,e=>cases e;exact⟨hcell 6 _ rfl,hcell 7 _ rfl⟩
  |4,e=>cases e;exact⟨hcell 8 _ rfl,hcell 9 _ rfl⟩
  |5,e=>cases e;exact⟨hcell 10 _ rfl,hcell 11 _ rfl⟩
  |6,e=>cases e;exact⟨hcell 12 _ rfl,hcell 13 _ rfl⟩
  |7,e=>cases e;exact⟨hcell 14 _ rfl,hcell 15 _ rfl⟩
  |8,e=>cases e;exact⟨hcell 16 _ rfl,hcell 17 _ rfl⟩
  |9,e=>cases e;exact⟨hcell 18 _ rfl,hcell 19 _ rfl⟩
  |10,e=>cases e;exact⟨hcell 20 _ rfl,hcell 21 _ rfl⟩
  |11,e=>cases e;exact⟨hcell 22 _ rfl,hcell 23 _ rfl⟩
  |12,e=>cases e;exact⟨hcell 24 _ rfl,hcell 25 _ rfl⟩
  |i+13,e=>cases e
 ·match i,e with
  |0,_=>exact enters_of func189 (by kernel_rfl) rfl
  |1,_=>exact enters_of func191 (by kernel_rfl) rfl
  |2,_=>exact enters_of func194 (by kernel_rfl) rfl
  |3,_=>exact enters_of func197 (by kernel_rfl) rfl
  |4,_=>exact enters_of func198 (by kernel_rfl) rfl
  |5,_=>exact enters_of func199 (by kernel_rfl) rfl
  |6,_=>exact enters_of func200 (by kernel_rfl) rfl
  |7,_=>exact enters_of func202 (by kernel_rfl) rfl
  |8,_=>exact enters_of func204 (by kernel_rfl) rfl
  |9,_=>exact enters_of func206 (by kernel_rfl) rfl
  |10,_=>exact enters_of func208 (by kernel_rfl) rfl
  |11,_=>exact enters_of func209 (by kernel_rfl) rfl
  |12,_=>exact enters_of func210 (by kernel_rfl) rfl
  |i+13,e=>cases e
 ·match i,e' with
  |0,e'=>cases e';exact adn _ _ _ _ _ _ _ _ _ _ _ _ _ _ _ _ _ _ _ _ _
  |1,e'=>cases e';exact adq _ _ _ _ _ _ _ _ _ _ _ _ _ _ _ _ _ _ _ _ _ _ (hP.hg.below hV) hS.hg
  |2,e'=>cases e';exact adr _ _ _ _ _ _ _ _ _ _ _ _ _ _ _ _ _ _ _ _ _ _ (hP.he.below hV) hS.he
  |3,e'=>cases e';exact ads _ _ _ _ _ _ _ _ _ _ _ _ _ _ _ _ _ _ _ _ _ _ (hP.hf.below hV) hS.hf
  |4,e'=>cases e';exact adt _ _ _ _ _ _ _ _ _ _ _ _ _ _ _ _ _ _ _ _ _ _ (hP.hl.below hV) hS.hl
  |5,e'=>cases e';exact adu _ _ _ _ _ _ _ _ _ _ _ _ _ _ _ _ _ _ _ _ _
  |6,e'=>cases e';exact adv _ _ _ _ _ _ _ _ _ _ _ _ _ _ _ _ _ _ _ _ _
  |7,e'=>cases e';exact adx _ _ _ _ _ _ _ _ _ _ _ _ _ _ _ _ _ _ _ _ _ _ (hP.hg.below hV) hS.hg
  |8,e'=>cases e';exact ady _ _ _ _ _ _ _ _ _ _ _ _ _ _ _ _ _ _ _ _ _ _ (hP.he.below hV) hS.he
  |9,e'=>cases e';exact adz _ _ _ _ _ _ _ _ _ _ _ _ _ _ _ _ _ _ _ _ _ _ (hP.hf.below hV) hS.hf
  |10,e'=>cases e';exact adA _ _ _ _ _ _ _ _ _ _ _ _ _ _ _ _ _ _ _ _ _ _ (hP.hl.below hV) hS.hl
  |11,e'=>cases e';exact adB _ _ _ _ _ _ _ _ _ _ _ _ _ _ _ _ _ _ _ _ _
  |12,e'=>cases e';exact adC _ _ _ _ _ _ _ _ _ _ _ _ _ _ _ _ _ _ _ _ hS.hf hS.hl _
  |i+13,e'=>cases e'
 match i,e with
 |0,e=>cases e;decide
 |1,e=>cases e;decide
 |2,e=>cases e;decide
 |3,e=>cases e;decide
 |4,e=>cases e;decide
 |5,e=>cases e;decide
 |6,e=>cases e;decide
 |7,e=>cases e;decide
 |8,e=>cases e;decide
 |9,e=>cases e;decide
 |10,e=>cases e;decide
 |11,e=>cases e;decide
 |12,e=>cases e;decide
 |i+13,e=>cases e
theorem QE(A:Nat->az)(e:aF)(pa ga ea fa la:Option az)(pc gc ec fc lc:Nat)(r:Nat)(W:ai)(hr:W.heap[r]?=J (au (yg A) 270 (0,0))):Calls prog 144 #[aU #[aq e.name,U R e.aJ,af pa e.ak.length pc,U R e.cnt,U R e.mn,U R e.mx,af ga e.aB.length gc,af ea e.aA.length ec,af fa e.first.length fc,af la e.last.length lc],af (J ⟨r,0,I⟩) 6 6] W λv w'=>v=ax (cN A (iW e))/\Below W.heap.size W w':=
 PE A _ _ _ _ _ _ _ _ _ _ _ _ _ _ _ _ _ _ _ _ r _ QB W (adj A e pa ga ea fa la pc gc ec fc lc r W hr)
theorem adF(A:Nat->az)(e:aF)(pa ga ea fa la:Option az)(pc gc ec fc lc:Nat)(r:Nat)(W:ai)(hP:mB W e (af pa e.ak.length pc) (af ga e.aB.length gc) (af ea e.aA.length ec) (af fa e.first.length fc) (af la e.last.length lc))(hS:k7 e)(hr:W.heap[r]?=J (au (Ak A) 270 (0,0))):Calls prog 144 #[aU #[aq e.name,U R e.aJ,af pa e.ak.length pc,U R e.cnt,U R e.mn,U R e.mx,af ga e.aB.length gc,af ea e.aA.length ec,af fa e.first.length fc,af la e.last.length lc],af (J ⟨r,0,I⟩) 13 13] W λv w'=>v=ax (cN A (pB e))/\Below W.heap.size W w':=
 PE A _ _ _ _ _ _ _ _ _ _ _ _ _ _ _ _ _ _ _ _ r _ QD W (adE A e pa ga ea fa la pc gc ec fc lc r W hP hS hr)
theorem QF(A:Nat->az)(c:aS)(sa:Option az)(sc:Nat)(r:Nat)(W:ai)(hs:lF A W)(hr:W.heap[r]?=J (au (xP A) 218 (0,0))):Calls prog 102 #[aU #[U R c.closed,U R c.opn,U R c.cycle,U R c.bC,af sa c.aw.length sc],af (J ⟨r,0,I⟩) 5 5] W λv w'=>v=ax (cN A (gQ c))/\Below W.heap.size W w':=
 abp A _ _ _ _ _ _ _ r _ PG W (aby A c sa sc r W hs hr)
theorem CU(V:ai)(c:Array ar)(t:TypeId):(V.alloc (au c t)).heap[V.heap.size]?=J (au c t (0,0)):=by
 show (V.heap.push _)[V.heap.size]?=_
 simp
def yh(row:ar)(n:Nat)(rules:Array ar)(t:TypeId)(err:ar)(i:Nat)(v:ar)(W:ai):Prop:=match i with
 |0=>v=row
 |1=>∃r,v=af (J ⟨r,0,I⟩) n n/\W.heap[r]?=J (au rules t (0,0))
 |2=>v=err
 |_=>v=err
theorem sR{row:ar}{n:Nat}{rules:Array ar}{t:TypeId}{err:ar}{w w':ai}(hb:Below w.heap.size w w'):∀j v,yh row n rules t err j v w->yh row n rules t err j v w':=by
 intro j v h
 match j with
 |0=>exact h
 |1=>obtain⟨r,h1,h2⟩:=h;exact⟨r,h1,bG hb h2⟩
 |2=>exact h
 |j+3=>exact h
theorem uG{A:Nat->az}{n:Nat}(h:n≠0):cN A n=.iface 352 (aj (J (A (n-1)))):=by
 obtain⟨k,rfl⟩:∃k,n=k+1:=⟨n-1,by omega⟩;rfl
theorem adG{a:List ByteArray}{l:List ByteArray}{k:Nat}{p:ByteArray}(hk:l[k]?=J p)(h:dM (a++l.take k) p=0):dO (a++l.take k) (l.drop k)=dO (a++l.take (k+1)) (l.drop (k+1)):=by
 obtain⟨hl,e⟩:=dT.1 hk;rw[kq hl,dO,e,aR h,fW,hk];simp
theorem adH{a:List ByteArray}{l:List ByteArray}{k:Nat}{p:ByteArray}(hk:l[k]?=J p)(h:dM (a++l.take k) p≠0):dO (a++l.take k) (l.drop k)=dM (a++l.take k) p:=by
 obtain⟨hl,e⟩:=dT.1 hk;rw[kq hl,dO,e,aK h]
theorem adI(A:Nat->az)(e:aF)(pa ga ea fa la:Option az)(pc gc ec fc lc:Nat)(w0 w:ai)(rb bx mb:Nat)(a:List ByteArray)(hs0:lF A w0)(hP:mB w0 e (af pa e.ak.length pc) (af ga e.aB.length gc) (af ea e.aA.length ec) (af fa e.first.length fc) (af la e.last.length lc))(hS:k7 e)(h:mh A w0 w rb bx mb a)(hn:a.length<=1000000):Calls prog 105 #[aU #[aq e.name,U R e.aJ,af pa e.ak.length pc,U R e.cnt,U R e.mn,U R e.mx,af ga e.aB.length gc,af ea e.aA.length ec,af fa e.first.length fc,af la e.last.length lc],af (J ⟨rb,0,I⟩) 2 2] w
   λv w'=>v=ax (cN A (cx a e))/\Below w0.heap.size w0 w'/\(cx a e=0->mh A w0 w' rb bx mb (a++[e.name])):=by
 have HF:=λW hW=>Qt A w0 W rb bx mb a _ hW hS.hn hn
 have QG:aa _:=HF;have H:aa _:=h;have QH:aa _:=hP;have wI:aa _:=hS;have adJ:aa _:=hs0;clear HF h hP hS hs0 hn;go_enter func105,ntmps105
 go_wp2_with fail
 refine aL (QG.o _ (H.o.below (aN _ _))) ?_;rintro v W1 ⟨rfl,hb1,JE,JF⟩;clear QG
 by_cases hE:dM a e.name=0
 ·have yi:aa _:=JE hE;have sS:aa _:=hE;have eC:aa (oq W1 _ _):=λj v ev=>JF _ v (λh=>by have:=H.o.own.lt;simp at h;omega) (oq.new w _ _ j v ev)
  have jw:aa _:=adJ.o.below hb1;have JG:aa _:=QH.o.below hb1;rw[hE,show cN A 0=.nilIface from rfl];clear JE hE hb1 H JF;go_upto_region 4 with fail
  have hsz:iW e=0\/iW e≠0:=by omega
  rcases hsz with hz|hz
  ·have HE:aa (cN A (iW e)=.nilIface):=by show _=_;rw[hz];rfl
   have HZ:aa _:=hz;clear hz
   go_cut [6] (λr wx=>r=.nilIface/\Below W1.heap.size W1 wx)
   case first=>
    refine vP 4 rfl (yh (aU #[aq e.name,U R e.aJ,af pa e.ak.length pc,U R e.cnt,U R e.mn,U R e.mx,af ga e.aB.length gc,af ea e.aA.length ec,af fa e.first.length fc,af la e.last.length lc]) 6 (yg A) 270 (.nilIface)) (λV=>Below W1.heap.size W1 V) (by kernel_rfl) (by kernel_rfl) (uF (aC _ _)) ?_ ?_
    ·intro i o ho
     match i,ho with
     |0,ho=>
       obtain rfl:=bj ho
       refine cX.free rfl ?_;intro a V hC ay aD;have x0:a.tmps[2]?.getD _=aj _:=bp (aD 2 (eX (by kernel_rfl)));have b0:=aG hC (eC.o 0 _ rfl);have b1:=aG hC (eC.o 1 _ rfl);have b2:=aG hC (eC.o 2 _ rfl);have b3:=aG hC (eC.o 3 _ rfl);have b4:=aG hC (eC.o 4 _ rfl);have b5:=aG hC (eC.o 5 _ rfl);have b6:=aG hC (eC.o 6 _ rfl);have b7:=aG hC (eC.o 7 _ rfl);have b8:=aG hC (eC.o 8 _ rfl);have b9:=aG hC (eC.o 9 _ rfl);exact lq (c:=.agg _) (by clear ay aD;go_simp) hC rfl
     |1,ho=>
       obtain rfl:=bj ho
       refine cX.free rfl ?_;intro a V hC ay aD
       refine pK (f:=145) (args:=#[]) (by clear ay aD;go_simp) ?_
       refine(QA A _ (jw.o.below hC)).mono ?_;rintro v V' ⟨rfl,rfl⟩;exact⟨_,rfl,hC.alloc hC.size _,sR (aN _ _),⟨_,rfl,CU _ _ _⟩⟩
     |2,ho=>
       obtain rfl:=bj ho
       refine cX.free rfl ?_;intro a V hC ay aD;have x1:a.tmps[18]?.getD _=.agg _:=bp (ay _ 18 (bA (i:=0) rfl) rfl rfl);obtain⟨r,hr1,hr2⟩:=ay _ 19 (bA (i:=1) rfl) rfl rfl;have x2:a.tmps[19]?.getD _=af _ 6 6:=bp hr1
       refine pK (f:=144) (args:=#[aU #[aq e.name,U R e.aJ,af pa e.ak.length pc,U R e.cnt,U R e.mn,U R e.mx,af ga e.aB.length gc,af ea e.aA.length ec,af fa e.first.length fc,af la e.last.length lc],af (J ⟨r,0,I⟩) 6 6]) (by clear ay aD hr1;go_simp) ?_
       refine(QE A e pa ga ea fa la pc gc ec fc lc r _ hr2).mono ?_;rintro v V' ⟨rfl,hb⟩;exact⟨_,rfl,hC.trans (hb.mono hC.size),sR hb,HE.o⟩
     |3,ho=>
       obtain rfl:=bj ho
       refine cX.free rfl ?_;intro a V hC ay aD;have x3:a.tmps[20]?.getD _=.nilIface:=bp (ay _ 20 (bA (i:=0) rfl) rfl rfl);exact lq (c:=.nilIface) (by clear ay aD;go_simp) hC rfl
     |n+4,ho=>simp at ho
    intro vals V hC hS;have v3:vals 3=.nilIface:=hS 3 (by decide);have mG:aa _:=hC;clear hS hC;simp only[fill,dz];go_simp
    go_wp2_with fail
    go_meet
    case rel=>exact⟨rfl,mG.o⟩
   obtain⟨rfl,hb2⟩:=hcut;rename ai=>W2
   have aW:aa _:=hb2;clear hb2;go_wp2_with fail
   refine(PH A _ (jw.o.below aW.o)).mono ?_;rintro v W3 ⟨rfl,yj⟩;have p2:W3.cell? _=J (af pa _ pc):=aG (aW.o.trans (yj.br.mono aW.o.size)) (eC.o 2 _ rfl);have H3:aa _:=yj;clear yj;go_wp2_with fail
   clear p2
   go_loopw [9,10,28] (λ_ _ i wr=>∃k:Nat,k<=e.ak.length/\i=U R k/\mh A W2 wr (W2.heap.size+2) (W2.heap.size+1) W2.heap.size (e.ak.take k)/\aa (dO [] e.ak=dO ([]++e.ak.take k) (e.ak.drop k))) (λ_ _ i _=>e.ak.length-(intOf i).toNat)
   case atStart=>exact⟨0,bI _,rfl,by simpa using H3.o,(show _=_ by simp)⟩
   case round=>
    clear H3;obtain⟨k,hk,rfl,hN,jt⟩:=hrel;have HN:aa _:=hN;have hbr:=aW.o.trans (hN.br.mono aW.o.size);have jg:aa _:=hbr;clear hN
    by_cases hlt:k<e.ak.length
    ·obtain⟨q,hq⟩:∃q,e.ak[k]?=J q:=⟨_,bH hlt⟩;obtain⟨dI,cap',ck,-,hcc⟩:=JG.o.hp
     cases ck
     obtain⟨b,o,rfl,hc0⟩:=hcc (λh=>by rw[h]at hq;simp at hq);have c0:=aG hbr (hc0 k q hq 0 _ rfl);simp only[tN,oH]at c0;have HQ:aa _:=hq;have Bg:=cM hq;have HC:aa _:=Qt A W2 wr _ _ _ _ q HN.o (wI.o.hs q Bg) (by have:=wI.o.hp;simp;omega);have k1:(k:Int)<(e.ak.length:Int):=by omega
     have k0:k<1000000:=by have:=wI.o.hp;omega
     clear hq hc0 hcc hbr Bg
     by_cases hE:dM (e.ak.take k) q=0
     ·go_wp2_with fail
      refine aL HC.o ?_;rintro v W' ⟨rfl,-,CV,-⟩;have JH:aa _:=CV hE;have wJ:aa _:=hE;rw[hE,show cN A 0=.nilIface from rfl];clear CV hE HC;go_wp2;go_roundw
      case rel=>
       refine⟨k+1,by omega,by go_num,?_,?_⟩
       ·rw[fW,HQ.o];exact JH.o
       show _=_
       rw[jt.o,adG HQ.o (by simpa using wJ.o)]
      case measure=>simp[intOf];omega
     go_wp2_with fail
     refine aL HC.o ?_;rintro v W' ⟨rfl,hb',-,-⟩;have jh:aa _:=(yi.o.br.trans (aW.o.mono yi.o.br.size)).trans (hb'.mono (bw yi.o.br.size aW.o.size));have wJ:aa (cx a e=dM (e.ak.take k) q):=by
      show _=_
      have h1:dO [] e.ak=dM (e.ak.take k) q:=by rw[jt.o,adH HQ.o (by simpa using hE)];simp
      unfold cx;rw[aK (by rw[sS.o];simp),aK (by rw[HZ.o];simp),aR (by rw[h1];exact hE),h1]
     have CW:aa (dM _ q≠0):=hE;rw[uG hE];clear hb' hE HC;go_wp2;go_ret;exact⟨by rw[wJ.o,uG CW.o];rfl,jh.o,λh=>absurd h (by rw[wJ.o];exact CW.o)⟩
    have k1:¬(k:Int)<(e.ak.length:Int):=by omega
    obtain rfl:k=e.ak.length:=by omega
    have iy:aa (cx a e=pB e):=by
     show _=_
     have h1:dO [] e.ak=0:=by rw[jt.o];simp[dO]
     unfold cx;rw[aK (by rw[sS.o];simp),aK (by rw[HZ.o];simp),aK (by rw[h1];simp)]
    have eC:aa (oq wr _ _):=eC.o.below jg.o;have jw:aa _:=jw.o.below jg.o;have adK:aa _:=JG.o.below jg.o;have JI:aa _:=yi.o.below jg.o;have HE:aa (cN A (pB e)=cN A (pB e)):=rfl;clear hbr yi aW JG jt QH;go_upto_region 15 with fail
    refine vP 4 rfl (yh (aU #[aq e.name,U R e.aJ,af pa e.ak.length pc,U R e.cnt,U R e.mn,U R e.mx,af ga e.aB.length gc,af ea e.aA.length ec,af fa e.first.length fc,af la e.last.length lc]) 13 (Ak A) 270 (cN A (pB e))) (λV=>Below wr.heap.size wr V) (by kernel_rfl) (by kernel_rfl) (uF (aC _ _)) ?_ ?_
    ·intro i o ho
     match i,ho with
     |0,ho=>
       obtain rfl:=bj ho
       refine cX.free rfl ?_;intro a V hC ay aD;have x0:a.tmps[2]?.getD _=aj _:=bp (aD 2 (eX (by kernel_rfl)));have b0:=aG hC (eC.o 0 _ rfl);have b1:=aG hC (eC.o 1 _ rfl);have b2:=aG hC (eC.o 2 _ rfl);have b3:=aG hC (eC.o 3 _ rfl);have b4:=aG hC (eC.o 4 _ rfl);have b5:=aG hC (eC.o 5 _ rfl);have b6:=aG hC (eC.o 6 _ rfl);have b7:=aG hC (eC.o 7 _ rfl);have b8:=aG hC (eC.o 8 _ rfl);have b9:=aG hC (eC.o 9 _ rfl);exact lq (c:=.agg _) (by clear ay aD;go_simp) hC rfl
     |1,ho=>
       obtain rfl:=bj ho
       refine cX.free rfl ?_;intro a V hC ay aD
       refine pK (f:=146) (args:=#[]) (by clear ay aD;go_simp) ?_
       refine(adD A _ (jw.o.below hC)).mono ?_;rintro v V' ⟨rfl,rfl⟩;exact⟨_,rfl,hC.alloc hC.size _,sR (aN _ _),⟨_,rfl,CU _ _ _⟩⟩
     |2,ho=>
       obtain rfl:=bj ho
       refine cX.free rfl ?_;intro a V hC ay aD;have x1:a.tmps[39]?.getD _=.agg _:=bp (ay _ 39 (bA (i:=0) rfl) rfl rfl);obtain⟨r,hr1,hr2⟩:=ay _ 40 (bA (i:=1) rfl) rfl rfl;have x2:a.tmps[40]?.getD _=af _ 13 13:=bp hr1
       refine pK (f:=144) (args:=#[aU #[aq e.name,U R e.aJ,af pa e.ak.length pc,U R e.cnt,U R e.mn,U R e.mx,af ga e.aB.length gc,af ea e.aA.length ec,af fa e.first.length fc,af la e.last.length lc],af (J ⟨r,0,I⟩) 13 13]) (by clear ay aD hr1;go_simp) ?_
       refine(adF A e pa ga ea fa la pc gc ec fc lc r _ (adK.o.below hC) wI.o hr2).mono ?_;rintro v V' ⟨rfl,hb⟩;exact⟨_,rfl,hC.trans (hb.mono hC.size),sR hb,HE.o⟩
     |3,ho=>
       obtain rfl:=bj ho
       refine cX.free rfl ?_;intro a V hC ay aD;have x3:a.tmps[41]?.getD _=cN A _:=bp (ay _ 41 (bA (i:=0) rfl) rfl rfl);exact lq (c:=cN A _) (by clear ay aD;go_simp) hC rfl
     |n+4,ho=>simp at ho
    intro vals V hC hS;have v3:vals 3=cN A _:=hS 3 (by decide);have mG:aa _:=hC;clear hS hC;simp only[fill,dz];go_simp
    go_wp2;go_ret;exact⟨by rw[iy.o];rfl,JI.o.br.trans (mG.o.mono JI.o.br.size),λ_=>JI.o.below mG.o⟩
  have HE:aa (cN A _=.iface 352 _):=uG hz;have iy:aa (cx a e=iW e):=by show _=_;unfold cx;rw[aK (by rw[sS.o];simp),aR hz]
  have HZ:aa (iW e≠0):=hz;clear hz;generalize A (iW e-1)=ad at *
  refine vP 4 rfl (yh (aU #[aq e.name,U R e.aJ,af pa e.ak.length pc,U R e.cnt,U R e.mn,U R e.mx,af ga e.aB.length gc,af ea e.aA.length ec,af fa e.first.length fc,af la e.last.length lc]) 6 (yg A) 270 (.iface 352 (aj (J ad)))) (λV=>Below W1.heap.size W1 V) (by kernel_rfl) (by kernel_rfl) (uF (aC _ _)) ?_ ?_
  ·intro i o ho
   match i,ho with
   |0,ho=>
     obtain rfl:=bj ho
     refine cX.free rfl ?_;intro a V hC ay aD;have x0:a.tmps[2]?.getD _=aj _:=bp (aD 2 (eX (by kernel_rfl)));have b0:=aG hC (eC.o 0 _ rfl);have b1:=aG hC (eC.o 1 _ rfl);have b2:=aG hC (eC.o 2 _ rfl);have b3:=aG hC (eC.o 3 _ rfl);have b4:=aG hC (eC.o 4 _ rfl);have b5:=aG hC (eC.o 5 _ rfl);have b6:=aG hC (eC.o 6 _ rfl);have b7:=aG hC (eC.o 7 _ rfl);have b8:=aG hC (eC.o 8 _ rfl);have b9:=aG hC (eC.o 9 _ rfl);exact lq (c:=.agg _) (by clear ay aD;go_simp) hC rfl
   |1,ho=>
     obtain rfl:=bj ho
     refine cX.free rfl ?_;intro a V hC ay aD
     refine pK (f:=145) (args:=#[]) (by clear ay aD;go_simp) ?_
     refine(QA A _ (jw.o.below hC)).mono ?_;rintro v V' ⟨rfl,rfl⟩;exact⟨_,rfl,hC.alloc hC.size _,sR (aN _ _),⟨_,rfl,CU _ _ _⟩⟩
   |2,ho=>
     obtain rfl:=bj ho
     refine cX.free rfl ?_;intro a V hC ay aD;have x1:a.tmps[18]?.getD _=.agg _:=bp (ay _ 18 (bA (i:=0) rfl) rfl rfl);obtain⟨r,hr1,hr2⟩:=ay _ 19 (bA (i:=1) rfl) rfl rfl;have x2:a.tmps[19]?.getD _=af _ 6 6:=bp hr1
     refine pK (f:=144) (args:=#[aU #[aq e.name,U R e.aJ,af pa e.ak.length pc,U R e.cnt,U R e.mn,U R e.mx,af ga e.aB.length gc,af ea e.aA.length ec,af fa e.first.length fc,af la e.last.length lc],af (J ⟨r,0,I⟩) 6 6]) (by clear ay aD hr1;go_simp) ?_
     refine(QE A e pa ga ea fa la pc gc ec fc lc r _ hr2).mono ?_;rintro v V' ⟨rfl,hb⟩;exact⟨_,rfl,hC.trans (hb.mono hC.size),sR hb,HE.o⟩
   |3,ho=>
     obtain rfl:=bj ho
     refine cX.free rfl ?_;intro a V hC ay aD;have x3:a.tmps[20]?.getD _=.iface 352 _:=bp (ay _ 20 (bA (i:=0) rfl) rfl rfl);exact lq (c:=.iface 352 _) (by clear ay aD;go_simp) hC rfl
   |n+4,ho=>simp at ho
  intro vals V hC hS;have v3:vals 3=.iface 352 _:=hS 3 (by decide);have mG:aa _:=hC;clear hS hC;simp only[fill,dz];go_simp
  go_wp2;go_ret;exact⟨by rw[iy.o,HE.o];rfl,yi.o.br.trans (mG.o.mono yi.o.br.size),λh=>absurd h (by rw[iy.o];exact HZ.o)⟩
 have sS:aa (cx a e=dM a e.name):=by show _=_;unfold cx;rw[aR hE]
 have aO:aa _:=hb1;have QI:aa (dM a _≠0):=hE;rw[uG hE];clear JE hE hb1 H JF;go_wp2;go_ret;exact⟨by rw[sS.o,uG QI.o];rfl,aO.o,λh=>absurd h (by rw[sS.o];exact QI.o)⟩
theorem Fi{n:Nat}:∀(l:List (Bool×Nat)),(∀p∈l,p.2<=n)->dH l<=n
 |[],_=>bI _
 |(b,c)::t,h=>by
  unfold dH
  split
  ·exact h (b,c) (by simp)
  exact Fi t (λp hp=>h p (by simp[hp]))
theorem QJ(a:List ByteArray)(s:ByteArray):dM a s<=6:=by unfold dM;split<;>(try split)<;>omega
theorem QK:∀(l a:List ByteArray),dO a l<=6
 |[],_=>by simp[dO]
 |p::t,a=>by unfold dO;split;exact QK t _;exact QJ _ _
theorem adL(a:List ByteArray)(e:aF):cx a e<=6:=by
 unfold cx
 split
 ·exact QJ _ _
 split
 ·unfold iW;exact Fi _ (by simp)
 split
 ·exact QK _ _
 unfold pB;exact Fi _ (by simp)
theorem adM(c:aS):gQ c<=6:=by unfold gQ;exact Fi _ (by simp)
theorem adN{es:List aF}{k:Nat}{e:aF}(hk:es[k]?=J e)(h:cx ((es.take k).map (·.name)) e=0):iX ((es.take k).map (·.name)) k (es.drop k)=iX ((es.take (k+1)).map (·.name)) (k+1) (es.drop (k+1)):=by
 obtain⟨hl,e'⟩:=dT.1 hk;rw[kq hl,iX,e',aR h,fW,hk];simp
theorem adO{es:List aF}{k:Nat}{e:aF}(hk:es[k]?=J e)(h:cx ((es.take k).map (·.name)) e≠0):iX ((es.take k).map (·.name)) k (es.drop k)=(cx ((es.take k).map (·.name)) e,(k:Int)):=by
 obtain⟨hl,e'⟩:=dT.1 hk;rw[kq hl,iX,e',aK h]
theorem QL(A:Nat->az)(c:aS)(sa:Option az)(sc:Nat)(w:ai)(hs:lF A w)(hE:jR w (af sa c.aw.length sc) c.aw)(hS:nh c):Calls prog 63 #[aU #[U R c.closed,U R c.opn,U R c.cycle,U R c.bC,af sa c.aw.length sc]] w λv w'=>∃r,v=ax r/\kJ A w' r (cG c)/\Below w.heap.size w w':=by
 have wI:aa _:=hS;have adP:aa (jR w _ _):=hE;have adQ:aa _:=hs;clear hS hE hs;go_enter func63,ntmps63
 go_upto_region 1 with fail
 obtain⟨W0,hW0⟩:∃W0,W0=w.alloc (au #[U R c.closed,U R c.opn,U R c.cycle,U R c.bC,af sa c.aw.length sc] 30):=⟨_,rfl⟩;rw[<- hW0];have dX:aa (Below w.heap.size w W0):=by show Below _ _ _;rw[hW0];exact aN _ _
 have eC:aa (oq W0 w.heap.size #[U R c.closed,U R c.opn,U R c.cycle,U R c.bC,af sa c.aw.length sc]):=by show oq _ _ _;rw[hW0];exact oq.new _ _ _
 have jw:aa _:=adQ.o.below dX.o;clear hW0;have hz:gQ c=0\/gQ c≠0:=by omega
 rcases hz with hz|hz
 ·have HE:aa (cN A (gQ c)=.nilIface):=by show _=_;rw[hz];rfl
  have HZ:aa _:=hz;clear hz
  go_cut [3] (λr wx=>r=.nilIface/\Below W0.heap.size W0 wx)
  case first=>
   refine vP 4 rfl (yh (aU #[U R c.closed,U R c.opn,U R c.cycle,U R c.bC,af sa c.aw.length sc]) 5 (xP A) 218 (.nilIface)) (λV=>Below W0.heap.size W0 V) (by kernel_rfl) (by kernel_rfl) (uF (aC _ _)) ?_ ?_
   ·intro i o ho
    match i,ho with
    |0,ho=>
      obtain rfl:=bj ho
      refine cX.free rfl ?_;intro a V hC ay aD;have x0:a.tmps[1]?.getD _=aj _:=bp (aD 1 (eX (by kernel_rfl)));have b0:=aG hC (eC.o 0 _ rfl);have b1:=aG hC (eC.o 1 _ rfl);have b2:=aG hC (eC.o 2 _ rfl);have b3:=aG hC (eC.o 3 _ rfl);have b4:=aG hC (eC.o 4 _ rfl);exact lq (c:=.agg _) (by clear ay aD;go_simp) hC rfl
    |1,ho=>
      obtain rfl:=bj ho
      refine cX.free rfl ?_;intro a V hC ay aD
      refine pK (f:=103) (args:=#[]) (by clear ay aD;go_simp) ?_
      refine(PF A _ (jw.o.below hC)).mono ?_;rintro v V' ⟨rfl,rfl⟩;exact⟨_,rfl,hC.alloc hC.size _,sR (aN _ _),⟨_,rfl,CU _ _ _⟩⟩
    |2,ho=>
      obtain rfl:=bj ho
      refine cX.free rfl ?_;intro a V hC ay aD;have x1:a.tmps[8]?.getD _=.agg _:=bp (ay _ 8 (bA (i:=0) rfl) rfl rfl);obtain⟨r,hr1,hr2⟩:=ay _ 9 (bA (i:=1) rfl) rfl rfl;have x2:a.tmps[9]?.getD _=af _ 5 5:=bp hr1
      refine pK (f:=102) (args:=#[aU #[U R c.closed,U R c.opn,U R c.cycle,U R c.bC,af sa c.aw.length sc],af (J ⟨r,0,I⟩) 5 5]) (by clear ay aD hr1;go_simp) ?_
      refine(QF A c sa sc r _ (jw.o.below hC) hr2).mono ?_;rintro v V' ⟨rfl,hb⟩;exact⟨_,rfl,hC.trans (hb.mono hC.size),sR hb,HE.o⟩
    |3,ho=>
      obtain rfl:=bj ho
      refine cX.free rfl ?_;intro a V hC ay aD;have x3:a.tmps[10]?.getD _=.nilIface:=bp (ay _ 10 (bA (i:=0) rfl) rfl rfl);exact lq (c:=.nilIface) (by clear ay aD;go_simp) hC rfl
    |n+4,ho=>simp at ho
   intro vals V hC hS;have v3:vals 3=.nilIface:=hS 3 (by decide);have mG:aa _:=hC;clear hS hC;simp only[fill,dz];go_simp
   go_wp2_with fail
   go_meet
   case rel=>exact⟨rfl,mG.o⟩
  obtain⟨rfl,hb2⟩:=hcut;rename ai=>W1
  have aW:aa _:=hb2;clear hb2;go_wp2_with fail
  refine(PH A _ (jw.o.below aW.o)).mono ?_;rintro v W3 ⟨rfl,yj⟩;have p2:W3.cell? _=J (af sa _ sc):=aG (aW.o.trans (yj.br.mono aW.o.size)) (eC.o 4 _ rfl);have H3:aa _:=yj;clear yj;go_wp2_with fail
  clear p2
  go_loopw [5,6,7,18] (λ_ _ _ i wr=>∃k:Nat,k<=c.aw.length/\i=U R k/\mh A W1 wr (W1.heap.size+2) (W1.heap.size+1) W1.heap.size ((c.aw.take k).map (·.name))/\aa (cG c=iX ((c.aw.take k).map (·.name)) k (c.aw.drop k))) (λ_ _ _ i _=>c.aw.length-(intOf i).toNat)
  case atStart=>exact⟨0,bI _,rfl,by simpa using H3.o,(show _=_ by unfold cG;rw[aR HZ.o];simp)⟩
  case round=>
   clear H3;obtain⟨k,hk,rfl,hN,jt⟩:=hrel;have HN:aa _:=hN;have aO:aa _:=dX.o.trans (aW.o.mono dX.o.size);have jg:aa _:=aO.o.trans (hN.br.mono aO.o.size);clear hN
   by_cases hlt:k<c.aw.length
   ·obtain⟨e,hq⟩:∃e,c.aw[k]?=J e:=⟨_,bH hlt⟩;obtain⟨dI,cap',ck,hcc⟩:=adP.o
    cases ck
    obtain⟨b,o,rfl,hc0⟩:=hcc (λh=>by rw[h]at hq;simp at hq);obtain⟨pv,gv,ev,fv,lv,lM,hcell⟩:=hc0 k e hq;obtain⟨pa,pc,rfl,-,-⟩:=id lM.hp;obtain⟨ga,gc,rfl,-,-⟩:=id lM.hg;obtain⟨ea,ec,rfl,-,-⟩:=id lM.he;obtain⟨fa,fc,rfl,-,-⟩:=id lM.hf;obtain⟨la,lc,rfl,-,-⟩:=id lM.hl;have c0:wr.cell? ⟨b,o+k*10,_⟩=J (aq _):=aG jg.o (hcell 0 _ rfl);have c1:wr.cell? _=J (U R _):=aG jg.o (hcell 1 _ rfl);have c2:wr.cell? _=J (af pa _ pc):=aG jg.o (hcell 2 _ rfl);have c3:wr.cell? _=J (U R _):=aG jg.o (hcell 3 _ rfl);have c4:wr.cell? _=J (U R _):=aG jg.o (hcell 4 _ rfl);have c5:wr.cell? _=J (U R _):=aG jg.o (hcell 5 _ rfl);have c6:wr.cell? _=J (af ga _ gc):=aG jg.o (hcell 6 _ rfl);have c7:wr.cell? _=J (af ea _ ec):=aG jg.o (hcell 7 _ rfl);have c8:wr.cell? _=J (af fa _ fc):=aG jg.o (hcell 8 _ rfl);have c9:wr.cell? _=J (af la _ lc):=aG jg.o (hcell 9 _ rfl);have HQ:aa _:=hq;have HP:aa _:=lM.below aO.o;have adR:aa _:=wI.o.he e (cM hq);have k1:(k:Int)<(c.aw.length:Int):=by omega
    have k0:k<1000000:=by have:=wI.o.hn;omega
    have HC:aa _:=λW hW=>adI A e pa ga ea fa la pc gc ec fc lc W1 W (W1.heap.size+2) (W1.heap.size+1) W1.heap.size ((c.aw.take k).map (·.name)) (jw.o.below aW.o) HP.o adR.o hW (by have:=wI.o.hn;simp;omega)
    clear hq hcell lM hcc hc0
    by_cases hE:cx ((c.aw.take k).map (·.name)) e=0
    ·go_wp2_with fail
     refine aL (HC.o _ (HN.o.below (aN _ _))) ?_;rintro v W' ⟨rfl,-,CV⟩;have JH:aa _:=CV hE;have wJ:aa _:=hE;rw[hE,show cN A 0=.nilIface from rfl];clear CV hE HC;go_wp2;go_roundw
     case rel=>
      refine⟨k+1,by omega,by go_num,?_,?_⟩
      ·rw[fW,HQ.o];simpa using JH.o
      show _=_
      rw[jt.o,adN HQ.o wJ.o]
     case measure=>simp[intOf];omega
    go_wp2_with fail
    refine aL (HC.o _ (HN.o.below (aN _ _))) ?_;rintro v W' ⟨rfl,hb',-⟩;have jh:aa _:=aO.o.trans (hb'.mono aO.o.size);have wJ:aa (cG c=(cx ((c.aw.take k).map (·.name)) e,(k:Int))):=by
     show _=_
     rw[jt.o,adO HQ.o hE]
    have CW:aa (cx _ e≠0):=hE;rw[uG hE];clear hb' hE HC;go_wp2;go_ret
    refine⟨_,rfl,?_,jh.o.alloc jh.o.size _⟩;rw[wJ.o]
    refine⟨bw (adL _ _) (by decide),aP ⟨Nat.pos_of_ne_zero CW.o,_,rfl,by simp,by rw[uG CW.o];simp⟩⟩
   have k1:¬(k:Int)<(c.aw.length:Int):=by omega
   obtain rfl:k=c.aw.length:=by omega
   have iy:aa (cG c=(0,-1)):=by show _=_;rw[jt.o];simp[iX]
   clear jt HN aO aW;go_wp2;go_ret
   refine⟨_,rfl,?_,jg.o⟩;rw[iy.o];exact⟨bI _,a_ ⟨rfl,rfl⟩⟩
 have HE:aa (cN A (gQ c)=.iface 352 (aj (J (A (gQ c-1))))):=uG hz;have iy:aa (cG c=(gQ c,-1)):=by show _=_;unfold cG;rw[aK hz]
 clear hz;generalize A (gQ c-1)=ad at *
 refine vP 4 rfl (yh (aU #[U R c.closed,U R c.opn,U R c.cycle,U R c.bC,af sa c.aw.length sc]) 5 (xP A) 218 (.iface 352 (aj (J ad)))) (λV=>Below W0.heap.size W0 V) (by kernel_rfl) (by kernel_rfl) (uF (aC _ _)) ?_ ?_
 ·intro i o ho
  match i,ho with
  |0,ho=>
    obtain rfl:=bj ho
    refine cX.free rfl ?_;intro a V hC ay aD;have x0:a.tmps[1]?.getD _=aj _:=bp (aD 1 (eX (by kernel_rfl)));have b0:=aG hC (eC.o 0 _ rfl);have b1:=aG hC (eC.o 1 _ rfl);have b2:=aG hC (eC.o 2 _ rfl);have b3:=aG hC (eC.o 3 _ rfl);have b4:=aG hC (eC.o 4 _ rfl);exact lq (c:=.agg _) (by clear ay aD;go_simp) hC rfl
  |1,ho=>
    obtain rfl:=bj ho
    refine cX.free rfl ?_;intro a V hC ay aD
    refine pK (f:=103) (args:=#[]) (by clear ay aD;go_simp) ?_
    refine(PF A _ (jw.o.below hC)).mono ?_;rintro v V' ⟨rfl,rfl⟩;exact⟨_,rfl,hC.alloc hC.size _,sR (aN _ _),⟨_,rfl,CU _ _ _⟩⟩
  |2,ho=>
    obtain rfl:=bj ho
    refine cX.free rfl ?_;intro a V hC ay aD;have x1:a.tmps[8]?.getD _=.agg _:=bp (ay _ 8 (bA (i:=0) rfl) rfl rfl);obtain⟨r,hr1,hr2⟩:=ay _ 9 (bA (i:=1) rfl) rfl rfl;have x2:a.tmps[9]?.getD _=af _ 5 5:=bp hr1
    refine pK (f:=102) (args:=#[aU #[U R c.closed,U R c.opn,U R c.cycle,U R c.bC,af sa c.aw.length sc],af (J ⟨r,0,I⟩) 5 5]) (by clear ay aD hr1;go_simp) ?_
    refine(QF A c sa sc r _ (jw.o.below hC) hr2).mono ?_;rintro v V' ⟨rfl,hb⟩;exact⟨_,rfl,hC.trans (hb.mono hC.size),sR hb,HE.o⟩
  |3,ho=>
    obtain rfl:=bj ho
    refine cX.free rfl ?_;intro a V hC ay aD;have x3:a.tmps[10]?.getD _=.iface 352 _:=bp (ay _ 10 (bA (i:=0) rfl) rfl rfl);exact lq (c:=.iface 352 _) (by clear ay aD;go_simp) hC rfl
  |n+4,ho=>simp at ho
 intro vals V hC hS;have v3:vals 3=.iface 352 _:=hS 3 (by decide);have mG:aa _:=hC;clear hS hC;simp only[fill,dz];go_simp
 go_wp2;go_ret
 refine⟨_,rfl,?_,dX.o.trans (mG.o.mono dX.o.size)⟩;rw[iy.o];exact⟨bw (adM _) (by decide),a_ ⟨rfl,HE.o.symm⟩⟩
theorem QM(A:Nat->az)(c:aS)(sa:Option az)(sc:Nat)(w:ai)(hs:dA A w)(hE:jR w (af sa c.aw.length sc) c.aw)(hS:nh c):Calls prog 63 #[aU #[U R c.closed,U R c.opn,U R c.cycle,U R c.bC,af sa c.aw.length sc]] w λv w'=>∃r,v=ax r/\kJ A w' r (cG c)/\Below w.heap.size w w':=QL A c sa sc w hs.five hE hS
theorem kJ.nil{A:Nat->az}{w:ai}{r:ar}{f:Nat×Int}(h:kJ A w r f)(h0:f.1=0):r=.nilIface:=by
 obtain⟨-,h1|⟨h1,-⟩⟩:=h
 ·rw[h1.2,h0];rfl
 omega
theorem kJ.some{A:Nat->az}{w:ai}{r:ar}{f:Nat×Int}(h:kJ A w r f)(h0:f.1≠0):∃t x,r=.iface t x:=by
 obtain⟨-,h1|⟨-,b,h1,-⟩⟩:=h
 ·rw[h1.2,uG h0];exact⟨_,_,rfl⟩
 exact⟨_,_,h1⟩
theorem adS(c:aS):jn c≠[]:=by unfold jn pC;simp[bu,kw]
theorem adT(A:Nat->az)(c:aS)(sa:Option az)(sc:Nat)(w:ai)(hs:dA A w)(hK:jF w)(hT:iK w)(hG:(max 12 13+1)<=w.heap.size)(hE:jR w (af sa c.aw.length sc) c.aw)(hS:nh c)(h0:(cG c).1=0)
  (hO:∀(B pb:Nat) (w':ai),Below w.heap.size w w'->w.heap.size<=B->∀e∈c.aw,Jy B pb w w' e) (hl:((c.aw.flatMap fh).flatMap (λx=>x++[10])).length<=400000000):Calls prog 86 #[aU #[U R c.closed,U R c.opn,U R c.cycle,U R c.bC,af sa c.aw.length sc]] w λe w'=>e=ax (bn #[aq ⟨(jn c).toArray⟩,.nilIface])/\Below w.heap.size w w':=by
 have im:=yS h0;have HC:aa _:=QM A c sa sc _ (hs.alloc (au #[U R c.closed,U R c.opn,U R c.cycle,U R c.bC,af sa c.aw.length sc] 30)) (hE.below (aN _ _)) hS;have H0:aa _:=h0;have HP:aa (∀W,Below w.heap.size w W->Calls prog 120 #[aj (J ⟨W.heap.size,0,I⟩),aU #[U R c.closed,U R c.opn,U R c.cycle,U R c.bC,af sa c.aw.length sc]] (W.alloc (au #[aj I,af I 0 0,af I 0 0] 189)) λe w'=>e=ax (bn #[])/\(∃jS,cF W.heap.size W.heap.size jS (jn c) w')/\cq W.heap.size W.heap.size (W.alloc (au #[aj I,af I 0 0,af I 0 0] 189)) w'):=λW hW=>by
  have wK:Below _ w (W.alloc (au #[aj I,af I 0 0,af I 0 0] 189)):=hW.alloc hW.size _;exact acU _ _ _ c sa sc w _ wK hW.size (cF.new W) (hK.below wK (eh (show 12<(max 12 13+1) by decide) hG)) (hT.below wK hG) (bw hG hW.size) ⟨im.closed.1,by have:=im.closed.2;omega⟩ ⟨by have:=im.opn.1;omega,by have:=im.opn.2;omega⟩ ⟨by have:=im.cycle.1;omega,by have:=im.cycle.2;omega⟩ ⟨im.bC.1,by have:=im.bC.2;omega⟩ hE (hO _ _ _ wK hW.size) hS.hn hl
 have HS:aa (∀W jS,cF W.heap.size W.heap.size jS (jn c) W->True):=λ_ _ _=>trivial
 clear hs hK hT hG hE hS h0 hO hl im HS;go_enter func86,ntmps86
 go_wp2_with fail
 refine aL HC.o ?_;rintro v W1 ⟨r,rfl,he,hb⟩;obtain rfl:=he.nil H0.o;have aO:aa _:=(aN _ _).trans (hb.mono (by simp));have q:∀j v,(#[U R _,U R _,U R _,U R _,af sa _ sc]:Array ar)[j]?=J v->∀o,(W1.alloc o).cell? _=J v:=λj v e o=>aG ((aC _ _).alloc (aQ _) _) (aG hb (by rw[dK _ _ _ _ rfl];exact e))
 have q0:=q 0 _ rfl;have q1:=q 1 _ rfl;have q2:=q 2 _ rfl;have q3:=q 3 _ rfl;have q4:=q 4 _ rfl;clear q hb he HC;go_wp2_with fail
 refine aL (HP.o W1 aO.o) ?_;rintro v W2 ⟨rfl,⟨jS,Fh⟩,hf2⟩;have aW:aa _:=((aC _ _).alloc (aQ _) _).trans hf2.br;have o0:aa _:=Vb _ _ jS _ W2 Fh (adS c);clear Fh hf2 q0 q1 q2 q3 q4 HP;go_wp2_with fail
 refine aL o0.o ?_;rintro v W3 ⟨rfl,hb3⟩;go_wp2;go_ret2
 exact⟨rfl,aO.o.trans ((aW.o.trans hb3).mono aO.o.size)⟩
end Go.Proofs.YtgmfhkjghmdgiaaGreatDoor
