/-
  Several texts as one: CfLacks, CfTwice, CfTwo, CfSize.
-/
import Derived.Test.YtffpcbdlbcjihadGreatDoorP22S
import Derived.Laws.StructEq
import Derived.Deep.RegionHeld3
namespace Go.Proofs.YtffpcbdlbcjihadGreatDoor
open Go.RowKit Go.Extern.Stop Go.Stop Go.Extern
theorem lacks1_at (x:Int)(B:Nat)(pa:Option Addr)(pn pc:Nat)(w:World)(hc:w.cell? ⟨B,2,none⟩=some (.slice pa pn pc)) :
  Calls Tryz.prog 250 #[.int .i64 x,.pointer (some ⟨B,0,none⟩)] w fun e w'=>e=.returned (.bool (lacks pn x))/\Below w.heap.size w w':=by
 by_cases h1:x < 0
 ·go_enter Tryz.func250,Tryz.ntmps250
  go_wp2;go_ret;exact⟨by simp[lacks,h1],Below.refl _ _⟩
 ·go_enter Tryz.func250,Tryz.ntmps250
  go_wp2;go_ret;exact⟨by simp[lacks];omega,Below.refl _ _⟩
set_option maxHeartbeats 400000 in
theorem lacks_at (nm:ByteArray)(tol cnt mn mx:Int)(pa ga ea fa la:Option Addr)(pn pc gn gc en ec fn fc ln lc:Nat)(v:Value)(xs:List Int)(w:World)(hv:SlAt encI 1 w v xs)(hn:xs.length<=1000000) :
  Calls Tryz.prog 191 #[.agg #[.string nm,.int .i64 tol,.slice pa pn pc,.int .i64 cnt,.int .i64 mn,.int .i64 mx,.slice ga gn gc,.slice ea en ec,.slice fa fn fc,.slice la ln lc],v] w fun e w'=>e=.returned (.bool (xs.any (lacks pn)))/\Below w.heap.size w w':=by
 have H:=any_int v xs (lacks pn) 250 #[.pointer (some ⟨w.heap.size,0,none⟩)] _ (hv.below (Below.one w (.cells #[.string nm,.int .i64 tol,.slice pa pn pc,.int .i64 cnt,.int .i64 mn,.int .i64 mx,.slice ga gn gc,.slice ea en ec,.slice fa fn fc,.slice la ln lc] 83))) hn
  (enters_of Tryz.func250 (by kernel_rfl) rfl) (fun W hb x _=>lacks1_at x w.heap.size pa pn pc W (cell_below hb (by simp)))
 have HH:Hid _:=H;obtain⟨sa,cap,rfl,-⟩:=hv;clear H hn;go_enter Tryz.func191,Tryz.ntmps191
 go_wp2_with fail
 refine Calls.mono HH.out ?_;rintro e w' ⟨rfl,hb⟩;go_wp2;go_ret;exact⟨rfl,(Below.one _ _).trans (hb.mono (by simp))⟩
theorem nan_at (x:Int)(w:World):Calls Tryz.prog 319 #[.int .i64 x] w fun e w'=>e=.returned (.bool false)/\w'=w:=by
 go_enter Tryz.func319,Tryz.ntmps319
 go_wp2;go_ret;exact⟨rfl,rfl⟩
theorem less_at (x y:Int)(w:World):Calls Tryz.prog 291 #[.int .i64 x,.int .i64 y] w fun e w'=>e=.returned (.bool (decide (x < y)))/\w'=w:=by
 go_enter Tryz.func291,Tryz.ntmps291
 go_wp2_with fail
 refine(nan_at x _).mono ?_;rintro e w' ⟨rfl,rfl⟩;go_wp2;go_ret;exact⟨rfl,rfl⟩
set_option maxHeartbeats 1000000 in
theorem sorted4_at (a b c d:Int)(B cap:Nat)(w:World)(c0:w.cell? ⟨B,0,none⟩=some (.int .i64 a))(c1:w.cell? ⟨B,1,none⟩=some (.int .i64 b))(c2:w.cell? ⟨B,2,none⟩=some (.int .i64 c))(c3:w.cell? ⟨B,3,none⟩=some (.int .i64 d)) :
  Calls Tryz.prog 253 #[.slice (some ⟨B,0,none⟩) 4 cap] w fun e w'=>e=.returned (.bool (rise a b c d))/\Below w.heap.size w w':=by
 go_enter Tryz.func253,Tryz.ntmps253
 go_wp2_with fail
 go_loopw [2,3] (fun r i wr=>r=.bool false/\Below w.heap.size w wr/\(i=.int .i64 3\/(i=.int .i64 2/\c<=d)\/(i=.int .i64 1/\b<=c/\c<=d)\/(i=.int .i64 0/\a<=b/\b<=c/\c<=d))) (fun _ i _=>(intOf i).toNat)
 case atStart=>exact⟨rfl,Below.refl _ _,Or.inl rfl⟩
 case round=>
  obtain⟨rfl,hb,hrel⟩:=hrel;have c0:=cell_below hb c0;have c1:=cell_below hb c1;have c2:=cell_below hb c2;have c3:=cell_below hb c3;have HB:Hid (Below w.heap.size w wr):=hb;clear hb
  rcases hrel with rfl | ⟨rfl,h1⟩ | ⟨rfl,h1⟩ | ⟨rfl,h1⟩
  ·have k0:IntKind.i64.wrap 2=2:=by decide
   by_cases hx:d < c
   ·have hd:decide (d < c)=true:=decide_eq_true hx;go_wp2_with fail
    go_quiet (first | (go_at_call 291;exact Calls.quiet_of_same (less_at _ _ _)))
    go_wp2;go_ret;exact⟨by simp[rise];omega,below_drewN HB.out _⟩
   ·have hd:decide (d < c)=false:=decide_eq_false hx;go_wp2_with fail
    go_quiet (first | (go_at_call 291;exact Calls.quiet_of_same (less_at _ _ _)))
    go_wp2;go_roundw
    case rel=>exact⟨rfl,below_drewN HB.out _,Or.inr (Or.inl ⟨by go_num,by omega⟩)⟩
    case measure=>simp[intOf]
  ·have k0:IntKind.i64.wrap 1=1:=by decide
   by_cases hx:c < b
   ·have hd:decide (c < b)=true:=decide_eq_true hx;go_wp2_with fail
    go_quiet (first | (go_at_call 291;exact Calls.quiet_of_same (less_at _ _ _)))
    go_wp2;go_ret;exact⟨by simp[rise];omega,below_drewN HB.out _⟩
   ·have hd:decide (c < b)=false:=decide_eq_false hx;go_wp2_with fail
    go_quiet (first | (go_at_call 291;exact Calls.quiet_of_same (less_at _ _ _)))
    go_wp2;go_roundw
    case rel=>exact⟨rfl,below_drewN HB.out _,Or.inr (Or.inr (Or.inl ⟨by go_num,by omega,by omega⟩))⟩
    case measure=>simp[intOf]
  ·have k0:IntKind.i64.wrap 0=0:=by decide
   by_cases hx:b < a
   ·have hd:decide (b < a)=true:=decide_eq_true hx;go_wp2_with fail
    go_quiet (first | (go_at_call 291;exact Calls.quiet_of_same (less_at _ _ _)))
    go_wp2;go_ret;exact⟨by simp[rise];omega,below_drewN HB.out _⟩
   ·have hd:decide (b < a)=false:=decide_eq_false hx;go_wp2_with fail
    go_quiet (first | (go_at_call 291;exact Calls.quiet_of_same (less_at _ _ _)))
    go_wp2;go_roundw
    case rel=>exact⟨rfl,below_drewN HB.out _,Or.inr (Or.inr (Or.inr ⟨by go_num,by omega,by omega,by omega⟩))⟩
    case measure=>simp[intOf]
  ·go_wp2;go_ret;exact⟨by simp[rise];omega,HB.out⟩
theorem rise_at (a b c d:Int)(B cap:Nat)(w:World)(c0:w.cell? ⟨B,0,none⟩=some (.int .i64 a))(c1:w.cell? ⟨B,1,none⟩=some (.int .i64 b))(c2:w.cell? ⟨B,2,none⟩=some (.int .i64 c))(c3:w.cell? ⟨B,3,none⟩=some (.int .i64 d)) :
  Calls Tryz.prog 202 #[.slice (some ⟨B,0,none⟩) 4 cap] w fun e w'=>e=.returned (.bool (rise a b c d))/\Below w.heap.size w w':=by
 have H:=sorted4_at a b c d B cap w c0 c1 c2 c3;clear c0 c1 c2 c3;go_enter Tryz.func202,Tryz.ntmps202
 go_wp2_with fail
 refine H.mono ?_;rintro e w' ⟨rfl,hb⟩;go_wp2;go_ret;exact⟨rfl,hb⟩
theorem SlAt.take {α:Type}{enc:α->List Value}{k:Nat}{w:World}{sa:Option Addr}{n cap:Nat}{xs:List α}(h:SlAt enc k w (.slice sa n cap) xs)(i:Nat)(hi:i<=xs.length)(cap':Nat)(hc:i<=cap'):SlAt enc k w (.slice sa i cap') (xs.take i):=by
 obtain⟨sa',c',e,-,h2⟩:=h
 cases e
 have hl:(xs.take i).length=i:=by simp;omega
 refine⟨sa,cap',by rw[hl],by omega,fun hne=>?_⟩;obtain⟨b,o,h3,h4⟩:=h2 (fun e=>hne (by simp[e]))
 refine⟨b,o,h3,fun j x hx=>h4 j x ?_⟩;rw[List.getElem?_take] at hx
 split at hx
 ·exact hx
 ·cases hx
theorem twice_hit {α:Type} [DecidableEq α] (xs:List α)(k:Nat)(x:α)(hx:xs[k]?=some x)(h:(xs.take k).any (fun y=>decide (x=y))=true):twice xs=true:=by
 unfold twice;rw[List.any_eq_true];exact⟨k,by simp;exact(List.getElem?_eq_some_iff.1 hx).1,by rw[hx];exact h⟩
theorem twice_none {α:Type} [DecidableEq α] (xs:List α)(h:∀ (k:Nat) (x:α),xs[k]?=some x->(xs.take k).any (fun y=>decide (x=y))=false):twice xs=false:=by
 unfold twice;rw[List.any_eq_false];intro k hk;simp only[List.mem_range] at hk;have:=h k _ (List.getElem?_eq_getElem hk);rw[List.getElem?_eq_getElem hk];simp only[this];simp
set_option maxHeartbeats 1000000 in
theorem index_int (v:Value)(xs:List Int)(z:Int)(w:World)(hv:SlAt encI 1 w v xs)(hn:xs.length<=1000000) :
  Calls Tryz.prog 293 #[v,.int .i64 z] w fun e w'=>e=.returned (.int .i64 (idxP (fun y=>decide (z=y)) xs))/\Below w.heap.size w w':=by
 obtain⟨sa,cap,rfl,-,hcell⟩:=hv;have HC:Hid (xs≠[]->∃ b o,sa=some ⟨b,o,none⟩/\∀ (i:Nat) x,xs[i]?=some x->∀ (j:Nat) u,(encI x)[j]?=some u->w.cell? ⟨b,o+i*1+j,none⟩=some u):=hcell;have HL:Hid (xs.length<=1000000):=hn;clear hcell hn;go_enter Tryz.func293,Tryz.ntmps293
 go_wp2_with fail
 go_loopw [5,8] (fun _ i wr=>∃ k:Nat,k<=xs.length/\i=.int .i64 k/\Below w.heap.size w wr/\Hid (∀ (i:Nat) (y:Int),i < k->xs[i]?=some y->(fun y=>decide (z=y)) y=false)) (fun _ i _=>xs.length - (intOf i).toNat)
 case atStart=>exact⟨0,Nat.zero_le _,rfl,Below.refl _ _,fun i b hi=>absurd hi (Nat.not_lt_zero _)⟩
 case round=>
  obtain⟨k,hk,rfl,hbw,hall⟩:=hrel
  by_cases hlt:k < xs.length
  ·obtain⟨x,hx⟩:∃ x,xs[k]?=some x:=⟨_,List.getElem?_eq_getElem hlt⟩;obtain⟨b,o,rfl,hc0⟩:=HC.out (fun e=>by subst e;simp at hx);have hc:∀ (i:Nat) x,xs[i]?=some x->∀ (j:Nat) u,(encI x)[j]?=some u->wr.cell? ⟨b,o+i*1+j,none⟩=some u:=fun i x h j u hu=>cell_below hbw (hc0 i x h j u hu)
   have c0:=hc k x hx 0 _ rfl;simp only[Nat.mul_one,Nat.add_zero] at c0;have HX:Hid (xs[k]?=some x):=hx;have k1:(k:Int) < (xs.length:Int):=by omega
   have k0:k < 1000000:=by have:=HL.out;omega
   have HB:Hid (Below w.heap.size w wr):=hbw;clear hx hc0 hc HC hbw
   by_cases hpx:z=x
   ·have HPX:Hid ((fun y=>decide (z=y)) x=true):=decide_eq_true hpx;have e1:(z == x)=true:=by simp[hpx]
    clear hpx;go_wp2_with fail
    go_ret;exact⟨by rw[idxP_hit _ xs k x hall.out HX.out HPX.out];rfl,HB.out⟩
   ·have HPX:Hid ((fun y=>decide (z=y)) x=false):=decide_eq_false hpx;have e1:(z == x)=false:=by simpa using hpx
    clear hpx;go_wp2_with fail
    go_roundw
    case rel=>
     refine⟨k+1,by omega,by go_num,HB.out,fun i y hi e=>?_⟩
     by_cases hik:i=k
     ·subst hik;have h2:=HX.out;rw[h2] at e
      cases e
      exact HPX.out
     ·exact hall.out i y (by omega) e
    case measure=>simp[intOf];omega
  ·have k1:¬(k:Int) < (xs.length:Int):=by omega
   have HN:Hid (idxP (fun y=>decide (z=y)) xs=-1):=idxP_none _ xs (fun i x e=>hall.out i x (by have:=(List.getElem?_eq_some_iff.1 e).1;omega) e);clear HC;go_wp2;go_ret;exact⟨by rw[HN.out];rfl,hbw⟩
theorem contains_int (v:Value)(xs:List Int)(z:Int)(w:World)(hv:SlAt encI 1 w v xs)(hn:xs.length<=1000000) :
  Calls Tryz.prog 255 #[v,.int .i64 z] w fun e w'=>e=.returned (.bool (xs.any (fun y=>decide (z=y))))/\Below w.heap.size w w':=by
 have H:=index_int v xs z w hv hn;rw[<- idxP_any];obtain⟨sa,cap,rfl,-⟩:=hv;clear hn;go_enter Tryz.func255,Tryz.ntmps255
 go_wp2_with fail
 refine H.mono ?_;rintro e w' ⟨rfl,hb⟩;go_wp2;go_ret;exact⟨rfl,hb⟩
set_option maxHeartbeats 1000000 in
theorem index_pair (v:Value)(xs:List (Int × Int))(z:(Int × Int))(w:World)(hv:SlAt encP 2 w v xs)(hn:xs.length<=1000000) :
  Calls Tryz.prog 292 #[v,.agg #[.int .i64 z.1,.int .i64 z.2]] w fun e w'=>e=.returned (.int .i64 (idxP (fun y=>decide (z=y)) xs))/\Below w.heap.size w w':=by
 obtain⟨sa,cap,rfl,-,hcell⟩:=hv;have HC:Hid (xs≠[]->∃ b o,sa=some ⟨b,o,none⟩/\∀ (i:Nat) x,xs[i]?=some x->∀ (j:Nat) u,(encP x)[j]?=some u->w.cell? ⟨b,o+i*2+j,none⟩=some u):=hcell;have HL:Hid (xs.length<=1000000):=hn;clear hcell hn;have hg:=Tryz.guardPair;have heq:=eql_pair;go_enter Tryz.func292,Tryz.ntmps292
 go_wp2_with fail
 have HS:Hid (∀ W,Below (w.heap.size+1) (w.alloc (.cells #[.int .i64 z.1,.int .i64 z.2] 97)) W->Below w.heap.size w W/\w.heap.size+1<=W.heap.size/\W.cell? ⟨w.heap.size,0,none⟩=some (.int .i64 z.1)/\W.cell? ⟨w.heap.size,1,none⟩=some (.int .i64 z.2)):=fun W hb=>by
  have hc:∀ j v,(w.alloc (.cells #[.int .i64 z.1,.int .i64 z.2] 97)).cell? ⟨w.heap.size,j,none⟩=some v->W.cell? ⟨w.heap.size,j,none⟩=some v:=fun j v e=>(hb.cell (p:=⟨w.heap.size,j,none⟩) (Nat.lt_succ_self _)).trans e
  exact⟨((Below.refl _ _).alloc (Nat.le_refl _) _).trans (hb.mono (Nat.le_succ _)),by simpa using hb.size,hc 0 _ (by simp),hc 1 _ (by simp)⟩
 go_loopw [5,8] (fun _ i wr=>∃ k:Nat,k<=xs.length/\i=.int .i64 k/\Below (w.heap.size+1) (w.alloc (.cells #[.int .i64 z.1,.int .i64 z.2] 97)) wr/\Hid (∀ (i:Nat) (y:(Int × Int)),i < k->xs[i]?=some y->(fun y=>decide (z=y)) y=false)) (fun _ i _=>xs.length - (intOf i).toNat)
 case atStart=>exact⟨0,Nat.zero_le _,rfl,Below.refl _ _,fun i b hi=>absurd hi (Nat.not_lt_zero _)⟩
 case round=>
  obtain⟨k,hk,rfl,hbw,hall⟩:=hrel;have hbw':=hbw;obtain⟨hbw,hsz,p0,p1⟩:=HS.out _ hbw';clear hsz HS;have HB':Hid (Below (w.heap.size+1) (w.alloc (.cells #[.int .i64 z.1,.int .i64 z.2] 97)) wr):=hbw';clear hbw'
  by_cases hlt:k < xs.length
  ·obtain⟨x,hx⟩:∃ x,xs[k]?=some x:=⟨_,List.getElem?_eq_getElem hlt⟩;obtain⟨b,o,rfl,hc0⟩:=HC.out (fun e=>by subst e;simp at hx);have hc:∀ (i:Nat) x,xs[i]?=some x->∀ (j:Nat) u,(encP x)[j]?=some u->wr.cell? ⟨b,o+i*2+j,none⟩=some u:=fun i x h j u hu=>cell_below hbw (hc0 i x h j u hu)
   have c0:=hc k x hx 0 _ rfl;have c1:=hc k x hx 1 _ rfl;simp only[Nat.add_zero] at c0;have HX:Hid (xs[k]?=some x):=hx;have k1:(k:Int) < (xs.length:Int):=by omega
   have k0:k < 1000000:=by have:=HL.out;omega
   have HB:Hid (Below w.heap.size w wr):=hbw;clear hx hc0 hc HC hbw
   by_cases hpx:z=x
   ·have HPX:Hid ((fun y=>decide (z=y)) x=true):=decide_eq_true hpx;have e1:(z.1 == x.1)=true:=by simp[hpx]
    have e2:(z.2 == x.2)=true:=by simp[hpx]
    clear hpx;go_wp2_with fail
    go_quiet (fail)
    go_wp2;go_ret;exact⟨by rw[idxP_hit _ xs k x hall.out HX.out HPX.out];rfl,below_drewN HB.out _⟩
   ·have HPX:Hid ((fun y=>decide (z=y)) x=false):=decide_eq_false hpx;have e12:(z.1 == x.1)=false\/(z.1 == x.1)=true/\(z.2 == x.2)=false:=by
     by_cases h1:z.1=x.1
     ·right
      refine⟨by simpa using h1,?_⟩;simp only[beq_eq_false_iff_ne];exact fun h2=>hpx (Prod.ext h1 h2)
     ·left;simpa using h1
    clear hpx
    rcases e12 with e1 | ⟨e1,e2⟩
    all_goals
     go_wp2_with fail
     go_quiet (fail)
     go_wp2;go_roundw
     case rel=>
      refine⟨k+1,by omega,by go_num,below_drewN HB'.out _,fun i y hi e=>?_⟩
      by_cases hik:i=k
      ·subst hik;have h2:=HX.out;rw[h2] at e
       cases e
       exact HPX.out
      ·exact hall.out i y (by omega) e
     case measure=>simp[intOf];omega
  ·have k1:¬(k:Int) < (xs.length:Int):=by omega
   have HN:Hid (idxP (fun y=>decide (z=y)) xs=-1):=idxP_none _ xs (fun i x e=>hall.out i x (by have:=(List.getElem?_eq_some_iff.1 e).1;omega) e);clear HC;go_wp2;go_ret;exact⟨by rw[HN.out];rfl,hbw⟩
theorem contains_pair (v:Value)(xs:List (Int × Int))(z:(Int × Int))(w:World)(hv:SlAt encP 2 w v xs)(hn:xs.length<=1000000) :
  Calls Tryz.prog 254 #[v,.agg #[.int .i64 z.1,.int .i64 z.2]] w fun e w'=>e=.returned (.bool (xs.any (fun y=>decide (z=y))))/\Below w.heap.size w w':=by
 have H:=index_pair v xs z _ (hv.below (Below.one w (.cells #[.int .i64 z.1,.int .i64 z.2] 97))) hn;rw[<- idxP_any];obtain⟨sa,cap,rfl,-⟩:=hv;clear hn;go_enter Tryz.func254,Tryz.ntmps254
 go_wp2_with fail
 refine H.mono ?_;rintro e w' ⟨rfl,hb⟩;go_wp2;go_ret;exact⟨rfl,(Below.one _ _).trans (hb.mono (by simp))⟩
theorem below_drew {B:Nat}{w w':World}(h:Below B w w'):Below B w w'.drew:=below_drewN h 1
set_option maxHeartbeats 2000000 in
theorem twice_int (v:Value)(xs:List Int)(w:World)(hv:SlAt encI 1 w v xs)(hn:xs.length<=1000000) :
  Calls Tryz.prog 208 #[v] w fun e w'=>e=.returned (.bool (twice xs))/\Below w.heap.size w w':=by
 have HV:Hid (SlAt encI 1 w v xs):=hv;obtain⟨sa,cap,rfl,hcap0,hcell⟩:=hv;have HC:Hid (xs≠[]->∃ b o,sa=some ⟨b,o,none⟩/\∀ (i:Nat) x,xs[i]?=some x->∀ (j:Nat) u,(encI x)[j]?=some u->w.cell? ⟨b,o+i*1+j,none⟩=some u):=hcell;have HL:Hid (xs.length<=1000000):=hn;have HCap:Hid (xs.length<=cap):=hcap0;clear hcell hn hcap0;go_enter Tryz.func208,Tryz.ntmps208
 go_wp2_with fail
 go_loopw [3,4,7] (fun _ _ i wr=>∃ k:Nat,k<=xs.length/\i=.int .i64 k/\Below w.heap.size w wr/\Hid (∀ (i:Nat) (y:Int),i < k->xs[i]?=some y->(xs.take i).any (fun z=>decide (y=z))=false)) (fun _ _ i _=>xs.length - (intOf i).toNat)
 case atStart=>exact⟨0,Nat.zero_le _,rfl,Below.refl _ _,fun i b hi=>absurd hi (Nat.not_lt_zero _)⟩
 case round=>
  obtain⟨k,hk,rfl,hbw,hall⟩:=hrel
  by_cases hlt:k < xs.length
  ·obtain⟨x,hx⟩:∃ x,xs[k]?=some x:=⟨_,List.getElem?_eq_getElem hlt⟩;obtain⟨b,o,rfl,hc0⟩:=HC.out (fun e=>by subst e;simp at hx);have hc:∀ (i:Nat) x,xs[i]?=some x->∀ (j:Nat) u,(encI x)[j]?=some u->wr.cell? ⟨b,o+i*1+j,none⟩=some u:=fun i x h j u hu=>cell_below hbw (hc0 i x h j u hu)
   have c0:=hc k x hx 0 _ rfl;simp only[Nat.mul_one,Nat.add_zero] at c0;have HX:Hid (xs[k]?=some x):=hx;have HT:Hid (∀ W,Below wr.heap.size wr W->Calls Tryz.prog 255 #[.slice (some ⟨b,o,none⟩) k cap,.int .i64 x] W fun e W'=>e=.returned (.bool ((xs.take k).any (fun z=>decide (x=z))))/\Below W.heap.size W W'):=fun W hW=>
    contains_int _ (xs.take k) x W (((HV.out.below hbw).below hW).take k (by omega) cap (by have:=HCap.out;omega)) (by have:=HL.out;simp;omega)
   have k1:(k:Int) < (xs.length:Int):=by omega
   have k2:(0:Int)<=(k:Int):=by omega
   have k3:Hid (xs.length<=1000000):=HL.out;have k0:k < 1000000:=by have:=HL.out;omega
   have HB:Hid (Below w.heap.size w wr):=hbw;have hcap:k<=cap:=by have:=HCap.out;omega
   clear hx hc0 hc HC hbw HV
   cases hpx:(xs.take k).any (fun z=>decide (x=z)) with
   | true=>
    have hct:=HT.out;rw[hpx] at hct;have HCt:Hid _:=hct;have HPX:Hid (twice xs=true):=twice_hit xs k x HX.out hpx;clear hct hpx HT;go_wp2_with fail
    refine Calls.mono (HCt.out _ (Below.refl _ _)) ?_;rintro e W' ⟨rfl,hb'⟩;go_wp2;go_ret;exact⟨by rw[HPX.out];rfl,HB.out.trans (hb'.mono HB.out.size)⟩
   | false=>
    have hct:=HT.out;rw[hpx] at hct;have HCt:Hid _:=hct;have HPX:Hid ((xs.take k).any (fun z=>decide (x=z))=false):=hpx;clear hct hpx HT;go_wp2_with fail
    refine Calls.mono (HCt.out _ (Below.refl _ _)) ?_;rintro e W' ⟨rfl,hb'⟩;have HW:Hid (Below w.heap.size w W'):=HB.out.trans (hb'.mono HB.out.size);clear hb';go_wp2;go_roundw
    case rel=>
     refine⟨k+1,by omega,by go_num,HW.out,fun i y hi e=>?_⟩
     by_cases hik:i=k
     ·subst hik;have h2:=HX.out;rw[h2] at e
      cases e
      exact HPX.out
     ·exact hall.out i y (by omega) e
    case measure=>simp[intOf];omega
  ·have k1:¬(k:Int) < (xs.length:Int):=by omega
   have HN:Hid (twice xs=false):=twice_none xs (fun i x e=>hall.out i x (by have:=(List.getElem?_eq_some_iff.1 e).1;omega) e);clear HC HV;go_wp2;go_ret;exact⟨by rw[HN.out];rfl,hbw⟩
set_option maxHeartbeats 2000000 in
theorem twice_pair (v:Value)(xs:List (Int × Int))(w:World)(hv:SlAt encP 2 w v xs)(hn:xs.length<=1000000) :
  Calls Tryz.prog 206 #[v] w fun e w'=>e=.returned (.bool (twice xs))/\Below w.heap.size w w':=by
 have HV:Hid (SlAt encP 2 w v xs):=hv;obtain⟨sa,cap,rfl,hcap0,hcell⟩:=hv;have HC:Hid (xs≠[]->∃ b o,sa=some ⟨b,o,none⟩/\∀ (i:Nat) x,xs[i]?=some x->∀ (j:Nat) u,(encP x)[j]?=some u->w.cell? ⟨b,o+i*2+j,none⟩=some u):=hcell;have HL:Hid (xs.length<=1000000):=hn;have HCap:Hid (xs.length<=cap):=hcap0;clear hcell hn hcap0;go_enter Tryz.func206,Tryz.ntmps206
 go_wp2_with fail
 go_loopw [3,4,7] (fun _ _ i wr=>∃ k:Nat,k<=xs.length/\i=.int .i64 k/\Below w.heap.size w wr/\Hid (∀ (i:Nat) (y:(Int × Int)),i < k->xs[i]?=some y->(xs.take i).any (fun z=>decide (y=z))=false)) (fun _ _ i _=>xs.length - (intOf i).toNat)
 case atStart=>exact⟨0,Nat.zero_le _,rfl,Below.refl _ _,fun i b hi=>absurd hi (Nat.not_lt_zero _)⟩
 case round=>
  obtain⟨k,hk,rfl,hbw,hall⟩:=hrel
  by_cases hlt:k < xs.length
  ·obtain⟨x,hx⟩:∃ x,xs[k]?=some x:=⟨_,List.getElem?_eq_getElem hlt⟩;obtain⟨b,o,rfl,hc0⟩:=HC.out (fun e=>by subst e;simp at hx);have hc:∀ (i:Nat) x,xs[i]?=some x->∀ (j:Nat) u,(encP x)[j]?=some u->wr.cell? ⟨b,o+i*2+j,none⟩=some u:=fun i x h j u hu=>cell_below hbw (hc0 i x h j u hu)
   have c0:=hc k x hx 0 _ rfl;have c1:=hc k x hx 1 _ rfl;simp only[Nat.add_zero] at c0;have HX:Hid (xs[k]?=some x):=hx;have HT:Hid (∀ W,Below wr.heap.size wr W->Calls Tryz.prog 254 #[.slice (some ⟨b,o,none⟩) k cap,.agg #[.int .i64 x.1,.int .i64 x.2]] W fun e W'=>e=.returned (.bool ((xs.take k).any (fun z=>decide (x=z))))/\Below W.heap.size W W'):=fun W hW=>
    contains_pair _ (xs.take k) x W (((HV.out.below hbw).below hW).take k (by omega) cap (by have:=HCap.out;omega)) (by have:=HL.out;simp;omega)
   have k1:(k:Int) < (xs.length:Int):=by omega
   have k2:(0:Int)<=(k:Int):=by omega
   have k3:Hid (xs.length<=1000000):=HL.out;have k0:k < 1000000:=by have:=HL.out;omega
   have HB:Hid (Below w.heap.size w wr):=hbw;have hcap:k<=cap:=by have:=HCap.out;omega
   clear hx hc0 hc HC hbw HV
   cases hpx:(xs.take k).any (fun z=>decide (x=z)) with
   | true=>
    have hct:=HT.out;rw[hpx] at hct;have HCt:Hid _:=hct;have HPX:Hid (twice xs=true):=twice_hit xs k x HX.out hpx;clear hct hpx HT;go_wp2_with fail
    have z0:(wr.alloc (.cells #[.int .i64 x.1,.int .i64 x.2] 97)).drew.cell? ⟨wr.heap.size,0,none⟩=some (.int .i64 x.1):=by simp
    have z1:(wr.alloc (.cells #[.int .i64 x.1,.int .i64 x.2] 97)).drew.cell? ⟨wr.heap.size,1,none⟩=some (.int .i64 x.2):=by simp
    go_region_held3 (fun w'=>w'.cell? ⟨wr.heap.size,0,none⟩=some (.int .i64 x.1)/\w'.cell? ⟨wr.heap.size,1,none⟩=some (.int .i64 x.2)) (first | exact⟨z0,z1⟩ | exact⟨y0,y1⟩) (first | (go_at_call 254;refine Calls.mono (HCt.out _ (below_drew (Below.one _ _))) ?_;rintro e W' ⟨rfl,hb'⟩;have y0:=cell_below hb' z0;have y1:=cell_below hb' z1))
    go_wp2;go_ret;exact⟨by rw[HPX.out];rfl,HB.out.trans (((below_drew (Below.one _ _)).mono HB.out.size).trans (hb'.mono (by simp;have:=HB.out.size;omega)))⟩
   | false=>
    have hct:=HT.out;rw[hpx] at hct;have HCt:Hid _:=hct;have HPX:Hid ((xs.take k).any (fun z=>decide (x=z))=false):=hpx;clear hct hpx HT;go_wp2_with fail
    have z0:(wr.alloc (.cells #[.int .i64 x.1,.int .i64 x.2] 97)).drew.cell? ⟨wr.heap.size,0,none⟩=some (.int .i64 x.1):=by simp
    have z1:(wr.alloc (.cells #[.int .i64 x.1,.int .i64 x.2] 97)).drew.cell? ⟨wr.heap.size,1,none⟩=some (.int .i64 x.2):=by simp
    go_region_held3 (fun w'=>w'.cell? ⟨wr.heap.size,0,none⟩=some (.int .i64 x.1)/\w'.cell? ⟨wr.heap.size,1,none⟩=some (.int .i64 x.2)) (first | exact⟨z0,z1⟩ | exact⟨y0,y1⟩) (first | (go_at_call 254;refine Calls.mono (HCt.out _ (below_drew (Below.one _ _))) ?_;rintro e W' ⟨rfl,hb'⟩;have y0:=cell_below hb' z0;have y1:=cell_below hb' z1))
    have HW:Hid (Below w.heap.size w W'):=HB.out.trans (((below_drew (Below.one _ _)).mono HB.out.size).trans (hb'.mono (by simp;have:=HB.out.size;omega)));clear hb';go_wp2;go_roundw
    case rel=>
     refine⟨k+1,by omega,by go_num,HW.out,fun i y hi e=>?_⟩
     by_cases hik:i=k
     ·subst hik;have h2:=HX.out;rw[h2] at e
      cases e
      exact HPX.out
     ·exact hall.out i y (by omega) e
    case measure=>simp[intOf];omega
  ·have k1:¬(k:Int) < (xs.length:Int):=by omega
   have HN:Hid (twice xs=false):=twice_none xs (fun i x e=>hall.out i x (by have:=(List.getElem?_eq_some_iff.1 e).1;omega) e);clear HC HV;go_wp2;go_ret;exact⟨by rw[HN.out];rfl,hbw⟩
set_option maxHeartbeats 400000 in
theorem size1_at (nm:ByteArray)(tol cnt mn mx:Int)(pa ga ea fa la:Option Addr)(pn pc gn gc en ec fn fc ln lc:Nat)  (w:World):Calls Tryz.prog 184 #[.agg #[.string nm,.int .i64 tol,.slice pa pn pc,.int .i64 cnt,.int .i64 mn,.int .i64 mx,.slice ga gn gc,.slice ea en ec,.slice fa fn fc,.slice la ln lc]] w fun e w'=>e=.returned (.bool (!within tol 0 20))/\Below w.heap.size w w':=by
 go_enter Tryz.func184,Tryz.ntmps184
 go_wp2_with fail
 refine(within_at tol 0 20 _).mono ?_;rintro e w' ⟨rfl,rfl⟩;go_wp2;go_ret;exact⟨rfl,Below.one _ _⟩
set_option maxHeartbeats 400000 in
theorem size2_at (nm:ByteArray)(tol cnt mn mx:Int)(pa ga ea fa la:Option Addr)(pn pc gn gc en ec fn fc ln lc:Nat)  (w:World):Calls Tryz.prog 185 #[.agg #[.string nm,.int .i64 tol,.slice pa pn pc,.int .i64 cnt,.int .i64 mn,.int .i64 mx,.slice ga gn gc,.slice ea en ec,.slice fa fn fc,.slice la ln lc]] w fun e w'=>e=.returned (.bool (decide (16 < pn)))/\Below w.heap.size w w':=by
 have hd:decide (16 < pn)=decide ((16:Int) < (pn:Int)):=decide_eq_decide.2 (by omega);rw[hd];go_enter Tryz.func185,Tryz.ntmps185
 go_wp2;go_ret;exact⟨rfl,Below.one _ _⟩
set_option maxHeartbeats 400000 in
theorem size3_at (nm:ByteArray)(tol cnt mn mx:Int)(pa ga ea fa la:Option Addr)(pn pc gn gc en ec fn fc ln lc:Nat)  (w:World):Calls Tryz.prog 186 #[.agg #[.string nm,.int .i64 tol,.slice pa pn pc,.int .i64 cnt,.int .i64 mn,.int .i64 mx,.slice ga gn gc,.slice ea en ec,.slice fa fn fc,.slice la ln lc]] w fun e w'=>e=.returned (.bool (decide (8 < gn)))/\Below w.heap.size w w':=by
 have hd:decide (8 < gn)=decide ((8:Int) < (gn:Int)):=decide_eq_decide.2 (by omega);rw[hd];go_enter Tryz.func186,Tryz.ntmps186
 go_wp2;go_ret;exact⟨rfl,Below.one _ _⟩
set_option maxHeartbeats 400000 in
theorem size4_at (nm:ByteArray)(tol cnt mn mx:Int)(pa ga ea fa la:Option Addr)(pn pc gn gc en ec fn fc ln lc:Nat)  (w:World):Calls Tryz.prog 187 #[.agg #[.string nm,.int .i64 tol,.slice pa pn pc,.int .i64 cnt,.int .i64 mn,.int .i64 mx,.slice ga gn gc,.slice ea en ec,.slice fa fn fc,.slice la ln lc]] w fun e w'=>e=.returned (.bool (decide (64 < en)))/\Below w.heap.size w w':=by
 have hd:decide (64 < en)=decide ((64:Int) < (en:Int)):=decide_eq_decide.2 (by omega);rw[hd];go_enter Tryz.func187,Tryz.ntmps187
 go_wp2;go_ret;exact⟨rfl,Below.one _ _⟩
set_option maxHeartbeats 400000 in
theorem size5_at (nm:ByteArray)(tol cnt mn mx:Int)(pa ga ea fa la:Option Addr)(pn pc gn gc en ec fn fc ln lc:Nat)  (w:World):Calls Tryz.prog 188 #[.agg #[.string nm,.int .i64 tol,.slice pa pn pc,.int .i64 cnt,.int .i64 mn,.int .i64 mx,.slice ga gn gc,.slice ea en ec,.slice fa fn fc,.slice la ln lc]] w fun e w'=>e=.returned (.bool (decide (16 < fn)))/\Below w.heap.size w w':=by
 have hd:decide (16 < fn)=decide ((16:Int) < (fn:Int)):=decide_eq_decide.2 (by omega);rw[hd];go_enter Tryz.func188,Tryz.ntmps188
 go_wp2;go_ret;exact⟨rfl,Below.one _ _⟩
set_option maxHeartbeats 400000 in
theorem size6_at (nm:ByteArray)(tol cnt mn mx:Int)(pa ga ea fa la:Option Addr)(pn pc gn gc en ec fn fc ln lc:Nat)  (w:World):Calls Tryz.prog 189 #[.agg #[.string nm,.int .i64 tol,.slice pa pn pc,.int .i64 cnt,.int .i64 mn,.int .i64 mx,.slice ga gn gc,.slice ea en ec,.slice fa fn fc,.slice la ln lc]] w fun e w'=>e=.returned (.bool (decide (16 < ln)))/\Below w.heap.size w w':=by
 have hd:decide (16 < ln)=decide ((16:Int) < (ln:Int)):=decide_eq_decide.2 (by omega);rw[hd];go_enter Tryz.func189,Tryz.ntmps189
 go_wp2;go_ret;exact⟨rfl,Below.one _ _⟩
def sizeRow (A:Nat->Addr):Array Value:=#[.iface 400 (.pointer (some (A 1))),.func (.func 184) #[] #[],.iface 400 (.pointer (some (A 1))),.func (.func 185) #[] #[],.iface 400 (.pointer (some (A 1))),.func (.func 186) #[] #[],.iface 400 (.pointer (some (A 1))),.func (.func 187) #[] #[],.iface 400 (.pointer (some (A 1))),.func (.func 188) #[] #[],.iface 400 (.pointer (some (A 1))),.func (.func 189) #[] #[]]
set_option maxHeartbeats 1000000 in
theorem sizeRules_at (A:Nat->Addr)(w:World)(hs:Sen5 A w):Calls Tryz.prog 150 #[] w fun e w'=>e=.returned (.slice (some ⟨w.heap.size,0,none⟩) 6 6)/\w'=w.alloc (.cells (sizeRow A) 278):=by
 have c1:=hs.c1;unfold sizeRow;go_enter Tryz.func150,Tryz.ntmps150
 go_wp2;go_ret;exact⟨rfl,rfl⟩
def sizeFns (i:Nat):Nat:=[184,185,186,187,188,189].getD i 0
theorem size_rules (A:Nat->Addr)(e:EntD)(pa ga ea fa la:Option Addr)(pc gc ec fc lc:Nat)(r:Nat)(W:World)(hr:W.heap[r]?=some (.cells (sizeRow A) 278 (0,0))) :
  RulesAt A W r (.agg (entRow e (.slice pa e.pts.length pc) (.slice ga e.gaps.length gc) (.slice ea e.edges.length ec) (.slice fa e.first.length fc) (.slice la e.last.length lc))) [(!within e.tol 0 20,2),(decide (16 < e.pts.length),2),(decide (8 < e.gaps.length),2),(decide (64 < e.edges.length),2),(decide (16 < e.first.length),2),(decide (16 < e.last.length),2)] sizeFns:=by
 have hcell:∀ j v,(sizeRow A)[j]?=some v->W.cell? ⟨r,j,none⟩=some v:=fun j v e=>by simp[World.cell?,hr,e]
 refine⟨fun i b d e=>?_,fun i b d e=>?_,fun i b d e' V hV=>?_,by simp,fun i b d e=>?_⟩
 ·match i,e with
  | 0,e=>cases e;exact⟨hcell 0 _ rfl,hcell 1 _ rfl⟩
  | 1,e=>cases e;exact⟨hcell 2 _ rfl,hcell 3 _ rfl⟩
  | 2,e=>cases e;exact⟨hcell 4 _ rfl,hcell 5 _ rfl⟩
  | 3,e=>cases e;exact⟨hcell 6 _ rfl,hcell 7 _ rfl⟩
  | 4,e=>cases e;exact⟨hcell 8 _ rfl,hcell 9 _ rfl⟩
  | 5,e=>cases e;exact⟨hcell 10 _ rfl,hcell 11 _ rfl⟩
  | i+6,e=>cases e
 ·match i,e with
  | 0,_=>exact enters_of Tryz.func184 (by kernel_rfl) rfl
  | 1,_=>exact enters_of Tryz.func185 (by kernel_rfl) rfl
  | 2,_=>exact enters_of Tryz.func186 (by kernel_rfl) rfl
  | 3,_=>exact enters_of Tryz.func187 (by kernel_rfl) rfl
  | 4,_=>exact enters_of Tryz.func188 (by kernel_rfl) rfl
  | 5,_=>exact enters_of Tryz.func189 (by kernel_rfl) rfl
  | i+6,e=>cases e
 ·match i,e' with
  | 0,e'=>cases e';exact size1_at _ _ _ _ _ _ _ _ _ _ _ _ _ _ _ _ _ _ _ _ _
  | 1,e'=>cases e';exact size2_at _ _ _ _ _ _ _ _ _ _ _ _ _ _ _ _ _ _ _ _ _
  | 2,e'=>cases e';exact size3_at _ _ _ _ _ _ _ _ _ _ _ _ _ _ _ _ _ _ _ _ _
  | 3,e'=>cases e';exact size4_at _ _ _ _ _ _ _ _ _ _ _ _ _ _ _ _ _ _ _ _ _
  | 4,e'=>cases e';exact size5_at _ _ _ _ _ _ _ _ _ _ _ _ _ _ _ _ _ _ _ _ _
  | 5,e'=>cases e';exact size6_at _ _ _ _ _ _ _ _ _ _ _ _ _ _ _ _ _ _ _ _ _
  | i+6,e'=>cases e'
 ·match i,e with
  | 0,e=>cases e;decide
  | 1,e=>cases e;decide
  | 2,e=>cases e;decide
  | 3,e=>cases e;decide
  | 4,e=>cases e;decide
  | 5,e=>cases e;decide
  | i+6,e=>cases e
end Go.Proofs.YtffpcbdlbcjihadGreatDoor
