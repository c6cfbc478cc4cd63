/-
  Several texts as one: CfFirst, CfCfg, CfNames, CfFirstS, CfAny.
-/
import Derived.Test.YtdpdbfhbojgigacGreatDoorC19S
import Derived.Laws.EntriesVeiled
import Derived.Shelf.Abstract
import Derived.Maps.OwnSet
import Derived.StringKeys
namespace Go.Proofs.YtdpdbfhbojgigacGreatDoor
open Go.RowKit Go.Extern.Stop Go.Stop Go.Extern
structure RulesAt (A:Nat->Addr)(w:World)(rb:Nat)(v:Value)(l:List (Bool × Nat))(g:Nat->Nat):Prop where
 cell:∀ i b c,l[i]?=some (b,c)->w.cell? ⟨rb,i*2,none⟩=some (errV A c)/\w.cell? ⟨rb,i*2+1,none⟩=some (.func (.func (g i)) #[] #[])
 eg:∀ i b c,l[i]?=some (b,c)->∀ args w,(callFunc (g i) args).run Tryz.prog w=.ok (.enter (g i) args) w
 call:∀ i b c,l[i]?=some (b,c)->∀ W,Below w.heap.size w W->Calls Tryz.prog (g i) #[v] W fun e W'=>e=.returned (.bool b)/\Below W.heap.size W W'
 few:l.length<=100
 pos:∀ (i:Nat) (b:Bool) (c:Nat),l[i]?=some (b,c)->0 < c
theorem firstOf_at:∀ (l:List (Bool × Nat)) (k:Nat) (c:Nat),(∀ (i:Nat) (b:Bool) (d:Nat),i < k->l[i]?=some (b,d)->b=false)->l[k]?=some (true,c)->firstOf l=c
 | [],k,c,_,h=>by simp at h
 | (b,d) :: t,0,c,_,h=>by simp at h;obtain⟨rfl,rfl⟩:=h;simp[firstOf]
 | (b,d) :: t,k+1,c,h,h2=>by
  have:=h 0 b d (by omega) rfl;subst this;simp[firstOf]
  exact firstOf_at t k c (fun i b d hi e=>h (i+1) b d (by omega) (by simpa using e)) (by simpa using h2)
theorem firstOf_none:∀ (l:List (Bool × Nat)),(∀ (i:Nat) (b:Bool) (d:Nat),l[i]?=some (b,d)->b=false)->firstOf l=0
 | [],_=>rfl
 | (b,d) :: t,h=>by
  have:=h 0 b d rfl;subst this;simp[firstOf]
  exact firstOf_none t (fun i b d e=>h (i+1) b d (by simpa using e))
set_option maxHeartbeats 1000000 in
theorem first_cfg (A:Nat->Addr)(x0 x1 x2 x3:Int)(sa:Option Addr)(sn sc:Nat)(rb:Nat)(l:List (Bool × Nat))(g:Nat->Nat)(w:World)(h:RulesAt A w rb (.agg #[.int .i64 x0,.int .i64 x1,.int .i64 x2,.int .i64 x3,.slice sa sn sc]) l g) :
  Calls Tryz.prog 105 #[.agg #[.int .i64 x0,.int .i64 x1,.int .i64 x2,.int .i64 x3,.slice sa sn sc],.slice (some ⟨rb,0,none⟩) l.length l.length] w fun e w'=>e=.returned (errV A (firstOf l))/\Below w.heap.size w w':=by
 have hfew:Hid (l.length<=100):=h.few;have H:Hid (RulesAt A w rb (.agg #[.int .i64 x0,.int .i64 x1,.int .i64 x2,.int .i64 x3,.slice sa sn sc]) l g):=h;clear h;go_enter Tryz.func105,Tryz.ntmps105
 go_wp2_with fail
 have HS:Hid (∀ W,Below (w.heap.size+1) (w.alloc (.cells #[.int .i64 x0,.int .i64 x1,.int .i64 x2,.int .i64 x3,.slice sa sn sc] 24)) W->Below w.heap.size w W/\w.heap.size+1<=W.heap.size/\W.cell? ⟨w.heap.size,0,none⟩=some (.int .i64 x0)/\W.cell? ⟨w.heap.size,1,none⟩=some (.int .i64 x1)/\W.cell? ⟨w.heap.size,2,none⟩=some (.int .i64 x2)/\W.cell? ⟨w.heap.size,3,none⟩=some (.int .i64 x3)/\W.cell? ⟨w.heap.size,4,none⟩=some (.slice sa sn sc)):=fun W hb=>by
  have hc:∀ j v,(w.alloc (.cells #[.int .i64 x0,.int .i64 x1,.int .i64 x2,.int .i64 x3,.slice sa sn sc] 24)).cell? ⟨w.heap.size,j,none⟩=some v->W.cell? ⟨w.heap.size,j,none⟩=some v:=fun j v e=>(hb.cell (p:=⟨w.heap.size,j,none⟩) (Nat.lt_succ_self _)).trans e
  exact⟨((Below.refl _ _).alloc (Nat.le_refl _) _).trans (hb.mono (Nat.le_succ _)),by simpa using hb.size,hc 0 (.int .i64 x0) (by simp),hc 1 (.int .i64 x1) (by simp),hc 2 (.int .i64 x2) (by simp),hc 3 (.int .i64 x3) (by simp),hc 4 (.slice sa sn sc) (by simp)⟩
 go_loopw [6,9] (fun _ i wr=>∃ k:Nat,k<=l.length/\i=.int .i64 k/\Below (w.heap.size+1) (w.alloc (.cells #[.int .i64 x0,.int .i64 x1,.int .i64 x2,.int .i64 x3,.slice sa sn sc] 24)) wr/\Hid (∀ (i:Nat) (b:Bool) (d:Nat),i < k->l[i]?=some (b,d)->b=false)) (fun _ i _=>l.length - (intOf i).toNat)
 case atStart=>exact⟨0,Nat.zero_le _,rfl,Below.refl _ _,fun i b d hi=>absurd hi (Nat.not_lt_zero _)⟩
 case round=>
  obtain⟨k,hk,rfl,hbw,hall⟩:=hrel;obtain⟨hbw1,hsz,p0,p1,p2,p3,p4⟩:=HS.out _ hbw
  by_cases hlt:k < l.length
  ·obtain⟨⟨b,c⟩,hkk⟩:∃ x,l[k]?=some x:=⟨_,List.getElem?_eq_getElem hlt⟩;have c0:=cell_below hbw1 (H.out.cell k b c hkk).1;have c1:=cell_below hbw1 (H.out.cell k b c hkk).2;have egk:=H.out.eg k b c hkk;have HC:Hid (∀ W,Below w.heap.size w W->Calls Tryz.prog (g k) #[.agg #[.int .i64 x0,.int .i64 x1,.int .i64 x2,.int .i64 x3,.slice sa sn sc]] W fun e W'=>e=.returned (.bool b)/\Below W.heap.size W W'):=H.out.call k b c hkk;have HK:Hid (l[k]?=some (b,c)):=hkk;have hk100:k < 100:=by have:=hfew.out;omega
   have k1:(k:Int) < (l.length:Int):=by omega
   have HB:Hid (Below (w.heap.size+1) (w.alloc (.cells #[.int .i64 x0,.int .i64 x1,.int .i64 x2,.int .i64 x3,.slice sa sn sc] 24)) wr):=hbw;have HB1:Hid (Below w.heap.size w wr):=hbw1;have hpos:=H.out.pos k b c hkk;clear hkk hbw hbw1 HS H;have ha:∀ (j:Nat) (v:Value),wr.cell? ⟨w.heap.size,j,none⟩=some v->∀ o,(wr.alloc o).cell? ⟨w.heap.size,j,none⟩=some v:=fun j v e o=>(World.cell?_alloc_lt wr o ⟨w.heap.size,j,none⟩ (block_lt e)).trans e
   have q0:=ha _ _ p0;have q1:=ha _ _ p1;have q2:=ha _ _ p2;have q3:=ha _ _ p3;have q4:=ha _ _ p4;clear ha p0 p1 p2 p3 p4;generalize g k=gk at *;obtain⟨c,rfl⟩:∃ d,c=d+1:=⟨c - 1,by omega⟩;unfold errV at c0;clear hpos
   cases b with
   | true=>
    go_wp2_with fail
    refine(HC.out _ (HB1.out.trans (((Below.refl _ _).alloc (Nat.le_refl _) _).mono HB1.out.size))).mono ?_;rintro e W' ⟨rfl,hb'⟩;have d0:W'.cell? ⟨wr.heap.size,0,none⟩=some (.iface 298 (.pointer (some (A c)))):=cell_below hb' (by simp);have HW:Hid (Below w.heap.size w W'):=HB1.out.trans ((((Below.refl _ _).alloc (Nat.le_refl _) _).mono HB1.out.size).trans (hb'.mono (by simp;have:=HB1.out.size;omega)));clear hb';go_wp2;go_ret;exact⟨by rw[firstOf_at l k (c+1) hall.out HK.out];rfl,HW.out⟩
   | false=>
    go_wp2_with fail
    refine(HC.out _ (HB1.out.trans (((Below.refl _ _).alloc (Nat.le_refl _) _).mono HB1.out.size))).mono ?_;rintro e W' ⟨rfl,hb'⟩;have HW:Hid (Below (w.heap.size+1) (w.alloc (.cells #[.int .i64 x0,.int .i64 x1,.int .i64 x2,.int .i64 x3,.slice sa sn sc] 24)) W'):=HB.out.trans ((((Below.refl _ _).alloc (Nat.le_refl _) _).mono hsz).trans (hb'.mono (by simp;omega)));clear hb';go_wp2;go_roundw
    case rel=>
     refine⟨k+1,by omega,by go_num,HW.out,fun i b d hi e=>?_⟩
     by_cases hik:i=k
     ·subst hik;have:=HK.out;rw[this] at e
      cases e
      rfl
     ·exact hall.out i b d (by omega) e
    case measure=>simp[intOf];omega
  ·have HN:Hid (firstOf l=0):=firstOf_none l (fun i b d e=>hall.out i b d (by have:=(List.getElem?_eq_some_iff.1 e).1;omega) e);have k1:¬(k:Int) < (l.length:Int):=by omega
   clear HS H;go_wp2;go_ret;exact⟨by rw[HN.out];rfl,hbw1⟩
set_option maxHeartbeats 1000000 in
theorem first_ent (A:Nat->Addr)(nm:ByteArray)(tol cnt mn mx:Int)(pa ga ea fa la:Option Addr)(pn pc gn gc en ec fn fc ln lc:Nat)(rb:Nat)(l:List (Bool × Nat))(g:Nat->Nat)(w:World)(h:RulesAt A w rb (.agg #[.string nm,.int .i64 tol,.slice pa pn pc,.int .i64 cnt,.int .i64 mn,.int .i64 mx,.slice ga gn gc,.slice ea en ec,.slice fa fn fc,.slice la ln lc]) l g) :
  Calls Tryz.prog 151 #[.agg #[.string nm,.int .i64 tol,.slice pa pn pc,.int .i64 cnt,.int .i64 mn,.int .i64 mx,.slice ga gn gc,.slice ea en ec,.slice fa fn fc,.slice la ln lc],.slice (some ⟨rb,0,none⟩) l.length l.length] w fun e w'=>e=.returned (errV A (firstOf l))/\Below w.heap.size w w':=by
 have hfew:Hid (l.length<=100):=h.few;have H:Hid (RulesAt A w rb (.agg #[.string nm,.int .i64 tol,.slice pa pn pc,.int .i64 cnt,.int .i64 mn,.int .i64 mx,.slice ga gn gc,.slice ea en ec,.slice fa fn fc,.slice la ln lc]) l g):=h;clear h;go_enter Tryz.func151,Tryz.ntmps151
 go_wp2_with fail
 have HS:Hid (∀ W,Below (w.heap.size+1) (w.alloc (.cells #[.string nm,.int .i64 tol,.slice pa pn pc,.int .i64 cnt,.int .i64 mn,.int .i64 mx,.slice ga gn gc,.slice ea en ec,.slice fa fn fc,.slice la ln lc] 38)) W->Below w.heap.size w W/\w.heap.size+1<=W.heap.size/\W.cell? ⟨w.heap.size,0,none⟩=some (.string nm)/\W.cell? ⟨w.heap.size,1,none⟩=some (.int .i64 tol)/\W.cell? ⟨w.heap.size,2,none⟩=some (.slice pa pn pc)/\W.cell? ⟨w.heap.size,3,none⟩=some (.int .i64 cnt)/\W.cell? ⟨w.heap.size,4,none⟩=some (.int .i64 mn)/\W.cell? ⟨w.heap.size,5,none⟩=some (.int .i64 mx)/\W.cell? ⟨w.heap.size,6,none⟩=some (.slice ga gn gc)/\W.cell? ⟨w.heap.size,7,none⟩=some (.slice ea en ec)/\W.cell? ⟨w.heap.size,8,none⟩=some (.slice fa fn fc)/\W.cell? ⟨w.heap.size,9,none⟩=some (.slice la ln lc)):=fun W hb=>by
  have hc:∀ j v,(w.alloc (.cells #[.string nm,.int .i64 tol,.slice pa pn pc,.int .i64 cnt,.int .i64 mn,.int .i64 mx,.slice ga gn gc,.slice ea en ec,.slice fa fn fc,.slice la ln lc] 38)).cell? ⟨w.heap.size,j,none⟩=some v->W.cell? ⟨w.heap.size,j,none⟩=some v:=fun j v e=>(hb.cell (p:=⟨w.heap.size,j,none⟩) (Nat.lt_succ_self _)).trans e
  exact⟨((Below.refl _ _).alloc (Nat.le_refl _) _).trans (hb.mono (Nat.le_succ _)),by simpa using hb.size,hc 0 (.string nm) (by simp),hc 1 (.int .i64 tol) (by simp),hc 2 (.slice pa pn pc) (by simp),hc 3 (.int .i64 cnt) (by simp),hc 4 (.int .i64 mn) (by simp),hc 5 (.int .i64 mx) (by simp),hc 6 (.slice ga gn gc) (by simp),hc 7 (.slice ea en ec) (by simp),hc 8 (.slice fa fn fc) (by simp),hc 9 (.slice la ln lc) (by simp)⟩
 go_loopw [6,9] (fun _ i wr=>∃ k:Nat,k<=l.length/\i=.int .i64 k/\Below (w.heap.size+1) (w.alloc (.cells #[.string nm,.int .i64 tol,.slice pa pn pc,.int .i64 cnt,.int .i64 mn,.int .i64 mx,.slice ga gn gc,.slice ea en ec,.slice fa fn fc,.slice la ln lc] 38)) wr/\Hid (∀ (i:Nat) (b:Bool) (d:Nat),i < k->l[i]?=some (b,d)->b=false)) (fun _ i _=>l.length - (intOf i).toNat)
 case atStart=>exact⟨0,Nat.zero_le _,rfl,Below.refl _ _,fun i b d hi=>absurd hi (Nat.not_lt_zero _)⟩
 case round=>
  obtain⟨k,hk,rfl,hbw,hall⟩:=hrel;obtain⟨hbw1,hsz,p0,p1,p2,p3,p4,p5,p6,p7,p8,p9⟩:=HS.out _ hbw
  by_cases hlt:k < l.length
  ·obtain⟨⟨b,c⟩,hkk⟩:∃ x,l[k]?=some x:=⟨_,List.getElem?_eq_getElem hlt⟩;have c0:=cell_below hbw1 (H.out.cell k b c hkk).1;have c1:=cell_below hbw1 (H.out.cell k b c hkk).2;have egk:=H.out.eg k b c hkk;have HC:Hid (∀ W,Below w.heap.size w W->Calls Tryz.prog (g k) #[.agg #[.string nm,.int .i64 tol,.slice pa pn pc,.int .i64 cnt,.int .i64 mn,.int .i64 mx,.slice ga gn gc,.slice ea en ec,.slice fa fn fc,.slice la ln lc]] W fun e W'=>e=.returned (.bool b)/\Below W.heap.size W W'):=H.out.call k b c hkk;have HK:Hid (l[k]?=some (b,c)):=hkk;have hk100:k < 100:=by have:=hfew.out;omega
   have k1:(k:Int) < (l.length:Int):=by omega
   have HB:Hid (Below (w.heap.size+1) (w.alloc (.cells #[.string nm,.int .i64 tol,.slice pa pn pc,.int .i64 cnt,.int .i64 mn,.int .i64 mx,.slice ga gn gc,.slice ea en ec,.slice fa fn fc,.slice la ln lc] 38)) wr):=hbw;have HB1:Hid (Below w.heap.size w wr):=hbw1;have hpos:=H.out.pos k b c hkk;clear hkk hbw hbw1 HS H;have ha:∀ (j:Nat) (v:Value),wr.cell? ⟨w.heap.size,j,none⟩=some v->∀ o,(wr.alloc o).cell? ⟨w.heap.size,j,none⟩=some v:=fun j v e o=>(World.cell?_alloc_lt wr o ⟨w.heap.size,j,none⟩ (block_lt e)).trans e
   have q0:=ha _ _ p0;have q1:=ha _ _ p1;have q2:=ha _ _ p2;have q3:=ha _ _ p3;have q4:=ha _ _ p4;have q5:=ha _ _ p5;have q6:=ha _ _ p6;have q7:=ha _ _ p7;have q8:=ha _ _ p8;have q9:=ha _ _ p9;clear ha p0 p1 p2 p3 p4 p5 p6 p7 p8 p9;generalize g k=gk at *;obtain⟨c,rfl⟩:∃ d,c=d+1:=⟨c - 1,by omega⟩;unfold errV at c0;clear hpos
   cases b with
   | true=>
    go_wp2_with fail
    refine(HC.out _ (HB1.out.trans (((Below.refl _ _).alloc (Nat.le_refl _) _).mono HB1.out.size))).mono ?_;rintro e W' ⟨rfl,hb'⟩;have d0:W'.cell? ⟨wr.heap.size,0,none⟩=some (.iface 298 (.pointer (some (A c)))):=cell_below hb' (by simp);have HW:Hid (Below w.heap.size w W'):=HB1.out.trans ((((Below.refl _ _).alloc (Nat.le_refl _) _).mono HB1.out.size).trans (hb'.mono (by simp;have:=HB1.out.size;omega)));clear hb';go_wp2;go_ret;exact⟨by rw[firstOf_at l k (c+1) hall.out HK.out];rfl,HW.out⟩
   | false=>
    go_wp2_with fail
    refine(HC.out _ (HB1.out.trans (((Below.refl _ _).alloc (Nat.le_refl _) _).mono HB1.out.size))).mono ?_;rintro e W' ⟨rfl,hb'⟩;have HW:Hid (Below (w.heap.size+1) (w.alloc (.cells #[.string nm,.int .i64 tol,.slice pa pn pc,.int .i64 cnt,.int .i64 mn,.int .i64 mx,.slice ga gn gc,.slice ea en ec,.slice fa fn fc,.slice la ln lc] 38)) W'):=HB.out.trans ((((Below.refl _ _).alloc (Nat.le_refl _) _).mono hsz).trans (hb'.mono (by simp;omega)));clear hb';go_wp2;go_roundw
    case rel=>
     refine⟨k+1,by omega,by go_num,HW.out,fun i b d hi e=>?_⟩
     by_cases hik:i=k
     ·subst hik;have:=HK.out;rw[this] at e
      cases e
      rfl
     ·exact hall.out i b d (by omega) e
    case measure=>simp[intOf];omega
  ·have HN:Hid (firstOf l=0):=firstOf_none l (fun i b d e=>hall.out i b d (by have:=(List.getElem?_eq_some_iff.1 e).1;omega) e);have k1:¬(k:Int) < (l.length:Int):=by omega
   clear HS H;go_wp2;go_ret;exact⟨by rw[HN.out];rfl,hbw1⟩
theorem cfg1_at (A:Nat->Addr)(x0 x1 x2 x3:Int)(sa:Option Addr)(sn sc:Nat)(w:World)(hs:Sen5 A w):Calls Tryz.prog 140 #[.agg #[.int .i64 x0,.int .i64 x1,.int .i64 x2,.int .i64 x3,.slice sa sn sc]] w fun e w'=>e=.returned (.bool (!(within x0 0 1000 && within x1 1 1000)))/\Below w.heap.size w w':=by
 have H:=isWindow_at A x0 x1 _ (hs.alloc (.cells #[.int .i64 x0,.int .i64 x1,.int .i64 x2,.int .i64 x3,.slice sa sn sc] 24));go_enter Tryz.func140,Tryz.ntmps140
 go_wp2_with fail
 refine H.mono ?_;rintro e w' ⟨rfl,hb⟩;go_wp2;go_ret;exact⟨by rw[Bool.not_and];rfl,((Below.refl _ _).alloc (Nat.le_refl _) _).trans (hb.mono (by simp))⟩
theorem cfg2_at (x0 x1 x2 x3:Int)(sa:Option Addr)(sn sc:Nat)(w:World):Calls Tryz.prog 142 #[.agg #[.int .i64 x0,.int .i64 x1,.int .i64 x2,.int .i64 x3,.slice sa sn sc]] w fun e w'=>e=.returned (.bool (!within x2 1 100))/\Below w.heap.size w w':=by
 go_enter Tryz.func142,Tryz.ntmps142
 go_wp2_with fail
 refine(within_at x2 1 100 _).mono ?_;rintro e w' ⟨rfl,rfl⟩;go_wp2;go_ret;exact⟨rfl,(Below.refl _ _).alloc (Nat.le_refl _) _⟩
theorem cfg3_at (x0 x1 x2 x3:Int)(sa:Option Addr)(sn sc:Nat)(w:World):Calls Tryz.prog 144 #[.agg #[.int .i64 x0,.int .i64 x1,.int .i64 x2,.int .i64 x3,.slice sa sn sc]] w fun e w'=>e=.returned (.bool (!within x3 0 20))/\Below w.heap.size w w':=by
 go_enter Tryz.func144,Tryz.ntmps144
 go_wp2_with fail
 refine(within_at x3 0 20 _).mono ?_;rintro e w' ⟨rfl,rfl⟩;go_wp2;go_ret;exact⟨rfl,(Below.refl _ _).alloc (Nat.le_refl _) _⟩
theorem cfg4_at (x0 x1 x2 x3:Int)(sa:Option Addr)(sn sc:Nat)(w:World):Calls Tryz.prog 145 #[.agg #[.int .i64 x0,.int .i64 x1,.int .i64 x2,.int .i64 x3,.slice sa sn sc]] w fun e w'=>e=.returned (.bool (decide (8 < sn)))/\Below w.heap.size w w':=by
 have hd:decide (8 < sn)=decide ((8:Int) < (sn:Int)):=decide_eq_decide.2 (by omega);rw[hd];go_enter Tryz.func145,Tryz.ntmps145
 go_wp2;go_ret;exact⟨rfl,(Below.refl _ _).alloc (Nat.le_refl _) _⟩
theorem cfg5_at (x0 x1 x2 x3:Int)(sa:Option Addr)(sn sc:Nat)(w:World):Calls Tryz.prog 146 #[.agg #[.int .i64 x0,.int .i64 x1,.int .i64 x2,.int .i64 x3,.slice sa sn sc]] w fun e w'=>e=.returned (.bool (decide (x1 < x2)))/\Below w.heap.size w w':=by
 go_enter Tryz.func146,Tryz.ntmps146
 go_wp2;go_ret;exact⟨rfl,(Below.refl _ _).alloc (Nat.le_refl _) _⟩
def cfgRow (A:Nat->Addr):Array Value:=#[.iface 298 (.pointer (some (A 1))),.func (.func 140) #[] #[],.iface 298 (.pointer (some (A 1))),.func (.func 142) #[] #[],.iface 298 (.pointer (some (A 1))),.func (.func 144) #[] #[],
 .iface 298 (.pointer (some (A 1))),.func (.func 145) #[] #[],.iface 298 (.pointer (some (A 2))),.func (.func 146) #[] #[]]
theorem configRules_at (A:Nat->Addr)(w:World)(hs:Sen5 A w):Calls Tryz.prog 106 #[] w fun e w'=>e=.returned (.slice (some ⟨w.heap.size,0,none⟩) 5 5)/\w'=w.alloc (.cells (cfgRow A) 215):=by
 have c1:=hs.c1;have c2:=hs.c2;unfold cfgRow;go_enter Tryz.func106,Tryz.ntmps106
 go_wp2;go_ret;exact⟨rfl,rfl⟩
def cfgFns (i:Nat):Nat:=[140,142,144,145,146].getD i 0
theorem cfg_rules (A:Nat->Addr)(c:CfgD)(sa:Option Addr)(sc:Nat)(r:Nat)(W:World)(hs:Sen5 A W)(hr:W.heap[r]?=some (.cells (cfgRow A) 215 (0,0))) :
  RulesAt A W r (.agg #[.int .i64 c.closed,.int .i64 c.opn,.int .i64 c.cycle,.int .i64 c.delay,.slice sa c.ents.length sc])
   [(!(within c.closed 0 1000 && within c.opn 1 1000),2),(!within c.cycle 1 100,2),(!within c.delay 0 20,2),(decide (8 < c.ents.length),2),(decide (c.opn < c.cycle),3)] cfgFns:=by
 have hcell:∀ j v,(cfgRow A)[j]?=some v->W.cell? ⟨r,j,none⟩=some v:=fun j v e=>by simp[World.cell?,hr,e]
 refine⟨fun i b d e=>?_,fun i b d e=>?_,fun i b d e V hV=>?_,by simp,fun i b d e=>?_⟩
 ·match i,e with
  | 0,e=>cases e;exact⟨hcell 0 _ rfl,hcell 1 _ rfl⟩
  | 1,e=>cases e;exact⟨hcell 2 _ rfl,hcell 3 _ rfl⟩
  | 2,e=>cases e;exact⟨hcell 4 _ rfl,hcell 5 _ rfl⟩
  | 3,e=>cases e;exact⟨hcell 6 _ rfl,hcell 7 _ rfl⟩
  | 4,e=>cases e;exact⟨hcell 8 _ rfl,hcell 9 _ rfl⟩
  | i+5,e=>cases e
 ·match i,e with
  | 0,_=>exact enters_of Tryz.func140 (by kernel_rfl) rfl
  | 1,_=>exact enters_of Tryz.func142 (by kernel_rfl) rfl
  | 2,_=>exact enters_of Tryz.func144 (by kernel_rfl) rfl
  | 3,_=>exact enters_of Tryz.func145 (by kernel_rfl) rfl
  | 4,_=>exact enters_of Tryz.func146 (by kernel_rfl) rfl
  | i+5,e=>cases e
 ·match i,e with
  | 0,e=>cases e;exact cfg1_at A _ _ _ _ _ _ _ _ (hs.below hV)
  | 1,e=>cases e;exact cfg2_at _ _ _ _ _ _ _ _
  | 2,e=>cases e;exact cfg3_at _ _ _ _ _ _ _ _
  | 3,e=>cases e;exact cfg4_at _ _ _ _ _ _ _ _
  | 4,e=>cases e;exact cfg5_at _ _ _ _ _ _ _ _
  | i+5,e=>cases e
 ·match i,e with
  | 0,e=>cases e;decide
  | 1,e=>cases e;decide
  | 2,e=>cases e;decide
  | 3,e=>cases e;decide
  | 4,e=>cases e;decide
  | i+5,e=>cases e
end Go.Proofs.YtdpdbfhbojgigacGreatDoor
namespace Go.Proofs.YtdpdbfhbojgigacGreatDoor
open Go.RowKit Go.Extern.Stop Go.Stop Go.Extern Go.Maps
def keyL (s:ByteArray):Lit:=.string s.data.toList
def setN (a:List ByteArray):DataW Unit:=setOf (.agg []) (a.map keyL)
theorem has_setN (a:List ByteArray)(s:ByteArray):Maps.has (setN a) (keyL s)=a.any (fun x=>decide (x=s)):=by
 unfold setN;rw[has_setOf _ _ _ (by intro x hx;simp only[List.mem_map] at hx;obtain⟨y,-,rfl⟩:=hx;trivial),List.any_map];congr 1
 funext x
 show (x.data.toList == s.data.toList)=decide (x=s)
 by_cases h:x=s
 ·subst h;simp
 ·rw[decide_eq_false h,beq_eq_false_iff_ne];exact fun e=>h (bl_inj e)
theorem setN_snoc (a:List ByteArray)(s:ByteArray):setN (a++[s])=(setN a).put (keyL s) (.agg []):=by
 unfold setN;rw[List.map_append];exact setOf_snoc _ _ _
theorem Tryz.lawStr:Keyed Tryz.prog 9:=string_keyed Tryz.underlying9
theorem Tryz.zeroUnit (w:World):(zeroValue 221).run Tryz.prog w=.ok (.agg #[]) w:=by kernel_rfl
structure NamesIn (A:Nat->Addr)(w0 w:World)(rb bx mb:Nat)(a:List ByteArray):Prop where
 bel:Below w0.heap.size w0 w
 lo:w0.heap.size<=mb
 nr:rb≠mb
 nb:bx≠mb
 r0:w.cell? ⟨rb,0,none⟩=some (.iface 298 (.pointer (some (A 3))))
 r1:w.cell? ⟨rb,1,none⟩=some (.func (.func 147) #[] #[])
 r2:w.cell? ⟨rb,2,none⟩=some (.iface 298 (.pointer (some (A 5))))
 r3:w.cell? ⟨rb,3,none⟩=some (.func (.func 149) #[] #[.pointer (some ⟨bx,0,none⟩)])
 b0:w.cell? ⟨bx,0,none⟩=some (.map (some mb))
 own:w.ownsMap Tryz.prog 9 unitElem mb a.length (setN a)
theorem owns_below {w w':World}{mb n:Nat}{D:DataW Unit}(h:w.ownsMap Tryz.prog 9 unitElem mb n D)(hb:Below w.heap.size w w'):w'.ownsMap Tryz.prog 9 unitElem mb n D:=by
 have hlt:=h.lt;obtain⟨es,clock,h1,h2⟩:=h;exact⟨es,clock,(hb.block mb hlt).trans h1,h2⟩
theorem NamesIn.below {A:Nat->Addr}{w0 w w':World}{rb bx mb:Nat}{a:List ByteArray}(h:NamesIn A w0 w rb bx mb a)(hb:Below w.heap.size w w'):NamesIn A w0 w' rb bx mb a:=
 ⟨h.bel.trans (hb.mono h.bel.size),h.lo,h.nr,h.nb,cell_below hb h.r0,cell_below hb h.r1,cell_below hb h.r2,cell_below hb h.r3,cell_below hb h.b0,owns_below h.own hb⟩
theorem cell_grown {w w':World}{mb:Nat}{a:Addr}{v:Value}(hg:w.grownBy w' (some mb))(hne:a.block≠mb)(h:w.cell? a=some v):w'.cell? a=some v:=
 (World.cell?_of_block (hg.block a.block (block_lt h) (by simpa using hne))).trans h
theorem NamesIn.grown {A:Nat->Addr}{w0 w w':World}{rb bx mb:Nat}{a a':List ByteArray}(h:NamesIn A w0 w rb bx mb a)(hg:w.grownBy w' (some mb))(ho:w'.ownsMap Tryz.prog 9 unitElem mb a'.length (setN a')):NamesIn A w0 w' rb bx mb a':=
 ⟨h.bel.grown hg h.bel.size (fun j hj=>by cases hj;exact h.lo),h.lo,h.nr,h.nb,cell_grown hg h.nr h.r0,cell_grown hg h.nr h.r1,cell_grown hg h.nr h.r2,cell_grown hg h.nr h.r3,cell_grown hg h.nb h.b0,ho⟩
set_option maxHeartbeats 400000 in
theorem nameRules_at (A:Nat->Addr)(w:World)(hs:Sen5 A w):Calls Tryz.prog 107 #[] w fun e w'=>e=.returned (.slice (some ⟨w.heap.size+2,0,none⟩) 2 2)/\NamesIn A w w' (w.heap.size+2) (w.heap.size+1) w.heap.size []:=by
 have hmm:=@run_makeMap Tryz.prog;have c3:=hs.c3;have c5:=hs.c5;have ha:∀ (g:Nat) (v:Value),w.cell? ⟨g,0,none⟩=some v->∀ o1 o2,((w.alloc o1).alloc o2).cell? ⟨g,0,none⟩=some v:=fun g v e o1 o2=>cell_below (((Below.refl _ _).alloc (Nat.le_refl _) _).alloc (by simp) _) e
 have d3:=ha _ _ c3;have d5:=ha _ _ c5;clear c3 c5 ha;go_enter Tryz.func107,Tryz.ntmps107
 go_wp2;go_ret
 refine⟨rfl,⟨(((Below.refl _ _).alloc (Nat.le_refl _) _).alloc (by simp) _).alloc (by simp;omega) _,Nat.le_refl _,by omega,by omega,?_,?_,?_,?_,?_,?_⟩⟩;iterate 4
  ·rw[show w.heap.size+2=((w.alloc (.map #[] 0)).alloc (.cells #[.map (some w.heap.size)] 218)).heap.size by simp,World.cell?_alloc_at _ _ _ _ rfl];rfl
 ·rw[World.cell?_alloc_lt _ _ ⟨w.heap.size+1,0,none⟩ (by simp)];have e:w.heap.size+1=(w.alloc (.map #[] 0)).heap.size:=by simp
  rw[e,World.cell?_alloc_at _ _ _ _ rfl];rfl
 ·exact((World.ownsMap_made w Tryz.prog 9 unitElem).alloc _).alloc _
set_option maxHeartbeats 400000 in
theorem names2_at (A:Nat->Addr)(w0 w:World)(rb bx mb:Nat)(a:List ByteArray)(s:ByteArray)(h:NamesIn A w0 w rb bx mb a)(hs:s.size<=1000000)(hn:a.length<=1000000) :
  Calls Tryz.prog 149 #[.string s,.pointer (some ⟨bx,0,none⟩)] w fun e w'=>e=.returned (.bool (a.any (fun x=>decide (x=s))))/\NamesIn A w0 w' rb bx mb (a++[s])/\∀ (p:Addr) (v:Value),p.block≠mb->w.cell? p=some v->w'.cell? p=some v:=by
 have b0:=h.b0;have b1:∀ o,(w.alloc o).cell? ⟨bx,0,none⟩=some (.map (some mb)):=fun o=>cell_below ((Below.refl _ _).alloc (Nat.le_refl _) _) b0
 have hown:=h.own;have hkey:keyOf Tryz.prog 9 (.string s)=some (keyL s):=Go.WideMaps.keyOf_string_mk Tryz.underlying9 (by unfold maxLen;omega);have HA:=has_setN a s;have H:Hid (NamesIn A w0 w rb bx mb a):=h;clear h;go_enter Tryz.func149,Tryz.ntmps149
 go_wp2_with (first
  | (at_lookup;refine wpList_lookup_own_unit _ rfl _ _ 218 rfl 9 221 Tryz.lawStr Tryz.underlying218 (Tryz.zeroUnit _) mb a.length _ rfl hown _ _ rfl hkey ?_)
  | (at_mapUpdate;refine wpList_mapUpdate_own _ rfl _ _ _ 218 rfl 9 221 Tryz.lawStr Tryz.underlying218 (unitElem (H:=Unit)) mb a.length _ rfl (hown.alloc _) (by unfold maxLen;omega) _ _ _ rfl rfl hkey _ [] unitElem_mk ?_;intro w1 hown1 hgrow1)
  | go_in)
 go_ret;exact⟨rfl,(H.out.below ((Below.refl _ _).alloc (Nat.le_refl _) _)).grown hgrow1 (by rw[setN_snoc];simpa using hown1),fun p v hne e=>cell_grown hgrow1 hne (cell_below ((Below.refl _ _).alloc (Nat.le_refl _) _) e)⟩
end Go.Proofs.YtdpdbfhbojgigacGreatDoor
namespace Go.Proofs.YtdpdbfhbojgigacGreatDoor
open Go.RowKit Go.Extern.Stop Go.Stop Go.Extern
theorem names1_at (s:ByteArray)(w:World)(hs:s.size<=1000000):Calls Tryz.prog 147 #[.string s] w fun e w'=>e=.returned (.bool (!isName s))/\Below w.heap.size w w':=by
 go_enter Tryz.func147,Tryz.ntmps147
 go_wp2_with fail
 refine(isName_at s _ hs).mono ?_;rintro e w' ⟨rfl,hb⟩;go_wp2;go_ret;exact⟨rfl,hb⟩
def KeptBut (mb:Nat)(w w':World):Prop:=∀ (p:Addr) (v:Value),p.block≠mb->w.cell? p=some v->w'.cell? p=some v
theorem KeptBut.refl (mb:Nat)(w:World):KeptBut mb w w:=fun _ _ _ h=>h
theorem KeptBut.trans {mb:Nat}{w w' w'':World}(h:KeptBut mb w w')(h2:KeptBut mb w' w''):KeptBut mb w w'':=fun p v hn e=>h2 p v hn (h p v hn e)
theorem KeptBut.of {mb:Nat}{w w':World}(h:Below w.heap.size w w'):KeptBut mb w w':=fun _ _ _ e=>cell_below h e
set_option maxHeartbeats 2000000 in
theorem first_str (A:Nat->Addr)(w0 w:World)(rb bx mb:Nat)(a:List ByteArray)(s:ByteArray)(h:NamesIn A w0 w rb bx mb a)(hs:s.size<=1000000)(hn:a.length<=1000000) :
  Calls Tryz.prog 150 #[.string s,.slice (some ⟨rb,0,none⟩) 2 2] w fun e w'=>e=.returned (errV A (nameErr a s))/\Below w0.heap.size w0 w'/\(nameErr a s=0->NamesIn A w0 w' rb bx mb (a++[s]))/\KeptBut mb w w':=by
 have eg1:=enters_of Tryz.func147 (by kernel_rfl) rfl;have eg2:=enters_of Tryz.func149 (by kernel_rfl) rfl;have HN:Hid (∀ W,Calls Tryz.prog 147 #[.string s] W fun e w'=>e=.returned (.bool (!isName s))/\Below W.heap.size W w'):=fun W=>names1_at s W hs
 have HM:Hid (∀ W,NamesIn A w0 W rb bx mb a->Calls Tryz.prog 149 #[.string s,.pointer (some ⟨bx,0,none⟩)] W fun e w'=>e=.returned (.bool (a.any (fun x=>decide (x=s))))/\NamesIn A w0 w' rb bx mb (a++[s])/\∀ (p:Addr) (v:Value),p.block≠mb->W.cell? p=some v->w'.cell? p=some v):=fun W hW=>names2_at A w0 W rb bx mb a s hW hs hn
 go_enter Tryz.func150,Tryz.ntmps150
 go_wp2_with fail
 clear hs hn
 go_loopw [6,9] (fun _ i wr=>KeptBut mb w wr/\((i=.int .i64 0/\NamesIn A w0 wr rb bx mb a)\/(i=.int .i64 1/\isName s=true/\NamesIn A w0 wr rb bx mb a)\/(i=.int .i64 2/\nameErr a s=0/\NamesIn A w0 wr rb bx mb (a++[s])))) (fun _ i _=>2 - (intOf i).toNat)
 case atStart=>exact⟨KeptBut.refl _ _,Or.inl ⟨rfl,h⟩⟩
 case round=>
  clear h;obtain⟨hkp,hrel⟩:=hrel;have HKP:Hid (KeptBut mb w wr):=hkp;clear hkp
  rcases hrel with ⟨rfl,h⟩ | ⟨rfl,hN,h⟩ | ⟨rfl,hE,h⟩
  ·have r0:=h.r0;have r1:=h.r1;have H:Hid (NamesIn A w0 wr rb bx mb a):=h;clear h
   cases hN:isName s with
   | true=>
    have HN2:=HN.out;rw[hN] at HN2;have HN3:Hid _:=HN2;clear HN2;have HNN:Hid (isName s=true):=hN;clear hN HM HN;go_wp2_with fail
    refine(HN3.out _).mono ?_;rintro e W' ⟨rfl,hb'⟩;have H2:Hid (NamesIn A w0 W' rb bx mb a):=(H.out.below (Below.one _ _)).below hb';have HK2:Hid (KeptBut mb w W'):=(HKP.out.trans (KeptBut.of (Below.one _ _))).trans (KeptBut.of hb');clear hb';go_wp2;go_roundw
    case rel=>exact⟨HK2.out,Or.inr (Or.inl ⟨by go_num,by first | trivial | exact HNN.out,H2.out⟩)⟩
    case measure=>simp[intOf]
   | false=>
    have HN2:=HN.out;rw[hN] at HN2;have HN3:Hid _:=HN2;clear HN2;have HNN:Hid (nameErr a s=4):=by show _=_;simp[nameErr,hN]
    clear hN HM HN;go_wp2_with fail
    refine(HN3.out _).mono ?_;rintro e W' ⟨rfl,hb'⟩;have d0:W'.cell? ⟨wr.heap.size,0,none⟩=some (.iface 298 (.pointer (some (A 3)))):=cell_below hb' (by simp);have H2:Hid (NamesIn A w0 W' rb bx mb a):=(H.out.below (Below.one _ _)).below hb';have HK2:Hid (KeptBut mb w W'):=(HKP.out.trans (KeptBut.of (Below.one _ _))).trans (KeptBut.of hb');clear hb';go_wp2;go_ret;exact⟨by rw[HNN.out];rfl,H2.out.bel,fun e=>by (rw[HNN.out] at e;cases e),HK2.out⟩
  ·have r2:=h.r2;have r3:=h.r3;have H:Hid (NamesIn A w0 wr rb bx mb a):=h;clear h
   cases hA:a.any (fun x=>decide (x=s)) with
   | false=>
    have HM2:=HM.out;rw[hA] at HM2;have HM3:Hid _:=HM2;have HNN:Hid (nameErr a s=0):=by show _=_;simp only[nameErr,hN,hA];rfl
    clear hA hN HM HN HM2;go_wp2_with fail
    refine(HM3.out _ (H.out.below (Below.one _ _))).mono ?_;rintro e W' ⟨rfl,h',hk'⟩;have H2:Hid (NamesIn A w0 W' rb bx mb (a++[s])):=h';have HK2:Hid (KeptBut mb w W'):=(HKP.out.trans (KeptBut.of (Below.one _ _))).trans hk';clear h' hk';go_wp2;go_roundw
    case rel=>exact⟨HK2.out,Or.inr (Or.inr ⟨by go_num,HNN.out,H2.out⟩)⟩
    case measure=>simp[intOf]
   | true=>
    have HM2:=HM.out;rw[hA] at HM2;have HM3:Hid _:=HM2;have HNN:Hid (nameErr a s=6):=by show _=_;simp only[nameErr,hN,hA];rfl
    clear hA hN HM HN HM2;go_wp2_with fail
    refine(HM3.out _ (H.out.below (Below.one _ _))).mono ?_;rintro e W' ⟨rfl,h',hk'⟩;have H2:Hid (NamesIn A w0 W' rb bx mb (a++[s])):=h';have HK2:Hid (KeptBut mb w W'):=(HKP.out.trans (KeptBut.of (Below.one _ _))).trans hk';have d0:W'.cell? ⟨wr.heap.size,0,none⟩=some (.iface 298 (.pointer (some (A 5)))):=hk' ⟨wr.heap.size,0,none⟩ _ (fun e=>by have:=H.out.own.lt;simp at e;omega) (by simp);clear h' hk';go_wp2;go_ret;exact⟨by rw[HNN.out];rfl,H2.out.bel,fun e=>by (rw[HNN.out] at e;cases e),HK2.out⟩
  ·have HNN:Hid (nameErr a s=0):=hE;have H2:Hid (NamesIn A w0 wr rb bx mb (a++[s])):=h;clear hE h HM HN;go_wp2;go_ret;exact⟨by rw[HNN.out];rfl,H2.out.bel,fun _=>H2.out,HKP.out⟩
def idxP {α:Type}(p:α->Bool):List α->Int
 | []=>-1
 | x :: t=>if p x then 0 else if idxP p t < 0 then -1 else idxP p t+1
theorem idxP_none {α:Type}(p:α->Bool):∀ (xs:List α),(∀ (i:Nat) (x:α),xs[i]?=some x->p x=false)->idxP p xs=-1
 | [],_=>rfl
 | x :: t,h=>by
  have h0:=h 0 x rfl;have:=idxP_none p t (fun i y e=>h (i+1) y (by simpa using e));simp[idxP,h0,this]
theorem idxP_hit {α:Type}(p:α->Bool):∀ (xs:List α) (k:Nat) (x:α),(∀ (i:Nat) (y:α),i < k->xs[i]?=some y->p y=false)->xs[k]?=some x->p x=true->idxP p xs=(k:Int)
 | [],k,x,_,h,_=>by simp at h
 | y :: t,0,x,_,h,hp=>by simp at h;subst h;simp[idxP,hp]
 | y :: t,k+1,x,h,h2,hp=>by
  have h0:=h 0 y (by omega) rfl;have:=idxP_hit p t k x (fun i z hi e=>h (i+1) z (by omega) (by simpa using e)) (by simpa using h2) hp;simp only[idxP,h0,this];rw[if_neg (by simp),if_neg (by omega)];omega
theorem idxP_any {α:Type}(p:α->Bool):∀ (xs:List α),decide (0<=idxP p xs)=xs.any p
 | []=>rfl
 | x :: t=>by
  have:=idxP_any p t;unfold idxP
  by_cases h:p x=true
  ·simp[h]
  ·simp only[Bool.not_eq_true] at h;rw[List.any_cons,h,Bool.false_or,<- this];simp only[Bool.false_eq_true,if_false]
   by_cases h2:idxP p t < 0
   ·rw[if_pos h2];exact decide_eq_decide.2 (by omega)
   ·rw[if_neg h2];exact decide_eq_decide.2 (by omega)
set_option maxHeartbeats 1000000 in
theorem idx_int (v:Value)(xs:List Int)(p:Int->Bool)(g:Nat)(lb:Array Value)(w:World)(hv:SlAt encI 1 w v xs)(hn:xs.length<=1000000)(eg:∀ args w,(callFunc g args).run Tryz.prog w=.ok (.enter g args) w)
  (hp:∀ W,Below w.heap.size w W->∀ x,x∈xs->Calls Tryz.prog g (#[.int .i64 x]++lb) W fun e W'=>e=.returned (.bool (p x))/\Below W.heap.size W W') :
  Calls Tryz.prog 237 #[v,.func (.func g) #[] lb] w fun e w'=>e=.returned (.int .i64 (idxP p xs))/\Below w.heap.size w w':=by
 obtain⟨sa,cap,rfl,-,hcell⟩:=hv;have HC:Hid (xs≠[]->∃ b o,sa=some ⟨b,o,none⟩/\∀ (i:Nat) x,xs[i]?=some x->∀ (j:Nat) u,(encI x)[j]?=some u->w.cell? ⟨b,o+i*1+j,none⟩=some u):=hcell;have HP:Hid (∀ W,Below w.heap.size w W->∀ x,x∈xs->Calls Tryz.prog g (#[.int .i64 x]++lb) W fun e W'=>e=.returned (.bool (p x))/\Below W.heap.size W W'):=hp;have HL:Hid (xs.length<=1000000):=hn;clear hcell hp hn;go_enter Tryz.func237,Tryz.ntmps237
 go_wp2_with fail
 go_loopw [5,8] (fun _ i wr=>∃ k:Nat,k<=xs.length/\i=.int .i64 k/\Below w.heap.size w wr/\Hid (∀ (i:Nat) (y:Int),i < k->xs[i]?=some y->p y=false)) (fun _ i _=>xs.length - (intOf i).toNat)
 case atStart=>exact⟨0,Nat.zero_le _,rfl,Below.refl _ _,fun i b hi=>absurd hi (Nat.not_lt_zero _)⟩
 case round=>
  obtain⟨k,hk,rfl,hbw,hall⟩:=hrel
  by_cases hlt:k < xs.length
  ·obtain⟨x,hx⟩:∃ x,xs[k]?=some x:=⟨_,List.getElem?_eq_getElem hlt⟩;obtain⟨b,o,rfl,hc0⟩:=HC.out (fun e=>by subst e;simp at hx);have hc:∀ (i:Nat) x,xs[i]?=some x->∀ (j:Nat) u,(encI x)[j]?=some u->wr.cell? ⟨b,o+i*1+j,none⟩=some u:=fun i x h j u hu=>cell_below hbw (hc0 i x h j u hu)
   have c0:=hc k x hx 0 _ rfl;simp only[Nat.mul_one,Nat.add_zero] at c0;have HX:Hid (xs[k]?=some x):=hx;have hm:=HP.out _ hbw x (List.mem_of_getElem? hx);have k1:(k:Int) < (xs.length:Int):=by omega
   have k0:k < 1000000:=by have:=HL.out;omega
   have HB:Hid (Below w.heap.size w wr):=hbw;clear hx hc0 hc HC HP hbw
   cases hpx:p x with
   | true=>
    rw[hpx] at hm;have HM:Hid _:=hm;have HPX:Hid (p x=true):=hpx;clear hm hpx;go_wp2_with fail
    refine Calls.mono HM.out ?_;rintro e W' ⟨rfl,hb'⟩;go_wp2;go_ret;exact⟨by rw[idxP_hit p xs k x hall.out HX.out HPX.out];rfl,HB.out.trans (hb'.mono HB.out.size)⟩
   | false=>
    rw[hpx] at hm;have HM:Hid _:=hm;have HPX:Hid (p x=false):=hpx;clear hm hpx;go_wp2_with fail
    refine Calls.mono HM.out ?_;rintro e W' ⟨rfl,hb'⟩;have HW:Hid (Below w.heap.size w W'):=HB.out.trans (hb'.mono HB.out.size);clear hb';go_wp2;go_roundw
    case rel=>
     refine⟨k+1,by omega,by go_num,HW.out,fun i y hi e=>?_⟩
     by_cases hik:i=k
     ·subst hik;have h2:=HX.out;rw[h2] at e
      cases e
      exact HPX.out
     ·exact hall.out i y (by omega) e
    case measure=>simp[intOf];omega
  ·have k1:¬(k:Int) < (xs.length:Int):=by omega
   have HN:Hid (idxP p xs=-1):=idxP_none p xs (fun i x e=>hall.out i x (by have:=(List.getElem?_eq_some_iff.1 e).1;omega) e);clear HC HP;go_wp2;go_ret;exact⟨by rw[HN.out];rfl,hbw⟩
theorem any_int (v:Value)(xs:List Int)(p:Int->Bool)(g:Nat)(lb:Array Value)(w:World)(hv:SlAt encI 1 w v xs)(hn:xs.length<=1000000)(eg:∀ args w,(callFunc g args).run Tryz.prog w=.ok (.enter g args) w)
  (hp:∀ W,Below w.heap.size w W->∀ x,x∈xs->Calls Tryz.prog g (#[.int .i64 x]++lb) W fun e W'=>e=.returned (.bool (p x))/\Below W.heap.size W W') :
  Calls Tryz.prog 224 #[v,.func (.func g) #[] lb] w fun e w'=>e=.returned (.bool (xs.any p))/\Below w.heap.size w w':=by
 have H:=idx_int v xs p g lb w hv hn eg hp;rw[<- idxP_any];obtain⟨sa,cap,rfl,-⟩:=hv;clear hp hn;go_enter Tryz.func224,Tryz.ntmps224
 go_wp2_with fail
 refine H.mono ?_;rintro e w' ⟨rfl,hb⟩;go_wp2;go_ret;exact⟨rfl,hb⟩
set_option maxHeartbeats 1000000 in
theorem idx_pair (v:Value)(xs:List (Int × Int))(p:(Int × Int)->Bool)(g:Nat)(lb:Array Value)(w:World)(hv:SlAt encP 2 w v xs)(hn:xs.length<=1000000)(eg:∀ args w,(callFunc g args).run Tryz.prog w=.ok (.enter g args) w)
  (hp:∀ W,Below w.heap.size w W->∀ x,x∈xs->Calls Tryz.prog g (#[.agg #[.int .i64 x.1,.int .i64 x.2]]++lb) W fun e W'=>e=.returned (.bool (p x))/\Below W.heap.size W W') :
  Calls Tryz.prog 227 #[v,.func (.func g) #[] lb] w fun e w'=>e=.returned (.int .i64 (idxP p xs))/\Below w.heap.size w w':=by
 obtain⟨sa,cap,rfl,-,hcell⟩:=hv;have HC:Hid (xs≠[]->∃ b o,sa=some ⟨b,o,none⟩/\∀ (i:Nat) x,xs[i]?=some x->∀ (j:Nat) u,(encP x)[j]?=some u->w.cell? ⟨b,o+i*2+j,none⟩=some u):=hcell;have HP:Hid (∀ W,Below w.heap.size w W->∀ x,x∈xs->Calls Tryz.prog g (#[.agg #[.int .i64 x.1,.int .i64 x.2]]++lb) W fun e W'=>e=.returned (.bool (p x))/\Below W.heap.size W W'):=hp;have HL:Hid (xs.length<=1000000):=hn;clear hcell hp hn;go_enter Tryz.func227,Tryz.ntmps227
 go_wp2_with fail
 go_loopw [5,8] (fun _ i wr=>∃ k:Nat,k<=xs.length/\i=.int .i64 k/\Below w.heap.size w wr/\Hid (∀ (i:Nat) (y:(Int × Int)),i < k->xs[i]?=some y->p y=false)) (fun _ i _=>xs.length - (intOf i).toNat)
 case atStart=>exact⟨0,Nat.zero_le _,rfl,Below.refl _ _,fun i b hi=>absurd hi (Nat.not_lt_zero _)⟩
 case round=>
  obtain⟨k,hk,rfl,hbw,hall⟩:=hrel
  by_cases hlt:k < xs.length
  ·obtain⟨x,hx⟩:∃ x,xs[k]?=some x:=⟨_,List.getElem?_eq_getElem hlt⟩;obtain⟨b,o,rfl,hc0⟩:=HC.out (fun e=>by subst e;simp at hx);have hc:∀ (i:Nat) x,xs[i]?=some x->∀ (j:Nat) u,(encP x)[j]?=some u->wr.cell? ⟨b,o+i*2+j,none⟩=some u:=fun i x h j u hu=>cell_below hbw (hc0 i x h j u hu)
   have c0:=hc k x hx 0 _ rfl;have c1:=hc k x hx 1 _ rfl;simp only[Nat.add_zero] at c0;have HX:Hid (xs[k]?=some x):=hx;have hm:=HP.out _ hbw x (List.mem_of_getElem? hx);have k1:(k:Int) < (xs.length:Int):=by omega
   have k0:k < 1000000:=by have:=HL.out;omega
   have HB:Hid (Below w.heap.size w wr):=hbw;clear hx hc0 hc HC HP hbw
   cases hpx:p x with
   | true=>
    rw[hpx] at hm;have HM:Hid _:=hm;have HPX:Hid (p x=true):=hpx;clear hm hpx;go_wp2_with fail
    refine Calls.mono HM.out ?_;rintro e W' ⟨rfl,hb'⟩;go_wp2;go_ret;exact⟨by rw[idxP_hit p xs k x hall.out HX.out HPX.out];rfl,HB.out.trans (hb'.mono HB.out.size)⟩
   | false=>
    rw[hpx] at hm;have HM:Hid _:=hm;have HPX:Hid (p x=false):=hpx;clear hm hpx;go_wp2_with fail
    refine Calls.mono HM.out ?_;rintro e W' ⟨rfl,hb'⟩;have HW:Hid (Below w.heap.size w W'):=HB.out.trans (hb'.mono HB.out.size);clear hb';go_wp2;go_roundw
    case rel=>
     refine⟨k+1,by omega,by go_num,HW.out,fun i y hi e=>?_⟩
     by_cases hik:i=k
     ·subst hik;have h2:=HX.out;rw[h2] at e
      cases e
      exact HPX.out
     ·exact hall.out i y (by omega) e
    case measure=>simp[intOf];omega
  ·have k1:¬(k:Int) < (xs.length:Int):=by omega
   have HN:Hid (idxP p xs=-1):=idxP_none p xs (fun i x e=>hall.out i x (by have:=(List.getElem?_eq_some_iff.1 e).1;omega) e);clear HC HP;go_wp2;go_ret;exact⟨by rw[HN.out];rfl,hbw⟩
theorem any_pair (v:Value)(xs:List (Int × Int))(p:(Int × Int)->Bool)(g:Nat)(lb:Array Value)(w:World)(hv:SlAt encP 2 w v xs)(hn:xs.length<=1000000)(eg:∀ args w,(callFunc g args).run Tryz.prog w=.ok (.enter g args) w)
  (hp:∀ W,Below w.heap.size w W->∀ x,x∈xs->Calls Tryz.prog g (#[.agg #[.int .i64 x.1,.int .i64 x.2]]++lb) W fun e W'=>e=.returned (.bool (p x))/\Below W.heap.size W W') :
  Calls Tryz.prog 193 #[v,.func (.func g) #[] lb] w fun e w'=>e=.returned (.bool (xs.any p))/\Below w.heap.size w w':=by
 have H:=idx_pair v xs p g lb w hv hn eg hp;rw[<- idxP_any];obtain⟨sa,cap,rfl,-⟩:=hv;clear hp hn;go_enter Tryz.func193,Tryz.ntmps193
 go_wp2_with fail
 refine H.mono ?_;rintro e w' ⟨rfl,hb⟩;go_wp2;go_ret;exact⟨rfl,hb⟩
set_option maxHeartbeats 1000000 in
theorem idx_gap (v:Value)(xs:List GapD)(p:GapD->Bool)(g:Nat)(lb:Array Value)(w:World)(hv:SlAt encG 4 w v xs)(hn:xs.length<=1000000)(eg:∀ args w,(callFunc g args).run Tryz.prog w=.ok (.enter g args) w)
  (hp:∀ W,Below w.heap.size w W->∀ x,x∈xs->Calls Tryz.prog g (#[.agg #[.int .i64 x.fr,.int .i64 x.to,.int .i64 x.mn,.int .i64 x.mx]]++lb) W fun e W'=>e=.returned (.bool (p x))/\Below W.heap.size W W') :
  Calls Tryz.prog 226 #[v,.func (.func g) #[] lb] w fun e w'=>e=.returned (.int .i64 (idxP p xs))/\Below w.heap.size w w':=by
 obtain⟨sa,cap,rfl,-,hcell⟩:=hv;have HC:Hid (xs≠[]->∃ b o,sa=some ⟨b,o,none⟩/\∀ (i:Nat) x,xs[i]?=some x->∀ (j:Nat) u,(encG x)[j]?=some u->w.cell? ⟨b,o+i*4+j,none⟩=some u):=hcell;have HP:Hid (∀ W,Below w.heap.size w W->∀ x,x∈xs->Calls Tryz.prog g (#[.agg #[.int .i64 x.fr,.int .i64 x.to,.int .i64 x.mn,.int .i64 x.mx]]++lb) W fun e W'=>e=.returned (.bool (p x))/\Below W.heap.size W W'):=hp;have HL:Hid (xs.length<=1000000):=hn;clear hcell hp hn;go_enter Tryz.func226,Tryz.ntmps226
 go_wp2_with fail
 go_loopw [5,8] (fun _ i wr=>∃ k:Nat,k<=xs.length/\i=.int .i64 k/\Below w.heap.size w wr/\Hid (∀ (i:Nat) (y:GapD),i < k->xs[i]?=some y->p y=false)) (fun _ i _=>xs.length - (intOf i).toNat)
 case atStart=>exact⟨0,Nat.zero_le _,rfl,Below.refl _ _,fun i b hi=>absurd hi (Nat.not_lt_zero _)⟩
 case round=>
  obtain⟨k,hk,rfl,hbw,hall⟩:=hrel
  by_cases hlt:k < xs.length
  ·obtain⟨x,hx⟩:∃ x,xs[k]?=some x:=⟨_,List.getElem?_eq_getElem hlt⟩;obtain⟨b,o,rfl,hc0⟩:=HC.out (fun e=>by subst e;simp at hx);have hc:∀ (i:Nat) x,xs[i]?=some x->∀ (j:Nat) u,(encG x)[j]?=some u->wr.cell? ⟨b,o+i*4+j,none⟩=some u:=fun i x h j u hu=>cell_below hbw (hc0 i x h j u hu)
   have c0:=hc k x hx 0 _ rfl;have c1:=hc k x hx 1 _ rfl;have c2:=hc k x hx 2 _ rfl;have c3:=hc k x hx 3 _ rfl;simp only[Nat.add_zero] at c0;have HX:Hid (xs[k]?=some x):=hx;have hm:=HP.out _ hbw x (List.mem_of_getElem? hx);have k1:(k:Int) < (xs.length:Int):=by omega
   have k0:k < 1000000:=by have:=HL.out;omega
   have HB:Hid (Below w.heap.size w wr):=hbw;clear hx hc0 hc HC HP hbw
   cases hpx:p x with
   | true=>
    rw[hpx] at hm;have HM:Hid _:=hm;have HPX:Hid (p x=true):=hpx;clear hm hpx;go_wp2_with fail
    refine Calls.mono HM.out ?_;rintro e W' ⟨rfl,hb'⟩;go_wp2;go_ret;exact⟨by rw[idxP_hit p xs k x hall.out HX.out HPX.out];rfl,HB.out.trans (hb'.mono HB.out.size)⟩
   | false=>
    rw[hpx] at hm;have HM:Hid _:=hm;have HPX:Hid (p x=false):=hpx;clear hm hpx;go_wp2_with fail
    refine Calls.mono HM.out ?_;rintro e W' ⟨rfl,hb'⟩;have HW:Hid (Below w.heap.size w W'):=HB.out.trans (hb'.mono HB.out.size);clear hb';go_wp2;go_roundw
    case rel=>
     refine⟨k+1,by omega,by go_num,HW.out,fun i y hi e=>?_⟩
     by_cases hik:i=k
     ·subst hik;have h2:=HX.out;rw[h2] at e
      cases e
      exact HPX.out
     ·exact hall.out i y (by omega) e
    case measure=>simp[intOf];omega
  ·have k1:¬(k:Int) < (xs.length:Int):=by omega
   have HN:Hid (idxP p xs=-1):=idxP_none p xs (fun i x e=>hall.out i x (by have:=(List.getElem?_eq_some_iff.1 e).1;omega) e);clear HC HP;go_wp2;go_ret;exact⟨by rw[HN.out];rfl,hbw⟩
theorem any_gap (v:Value)(xs:List GapD)(p:GapD->Bool)(g:Nat)(lb:Array Value)(w:World)(hv:SlAt encG 4 w v xs)(hn:xs.length<=1000000)(eg:∀ args w,(callFunc g args).run Tryz.prog w=.ok (.enter g args) w)
  (hp:∀ W,Below w.heap.size w W->∀ x,x∈xs->Calls Tryz.prog g (#[.agg #[.int .i64 x.fr,.int .i64 x.to,.int .i64 x.mn,.int .i64 x.mx]]++lb) W fun e W'=>e=.returned (.bool (p x))/\Below W.heap.size W W') :
  Calls Tryz.prog 190 #[v,.func (.func g) #[] lb] w fun e w'=>e=.returned (.bool (xs.any p))/\Below w.heap.size w w':=by
 have H:=idx_gap v xs p g lb w hv hn eg hp;rw[<- idxP_any];obtain⟨sa,cap,rfl,-⟩:=hv;clear hp hn;go_enter Tryz.func190,Tryz.ntmps190
 go_wp2_with fail
 refine H.mono ?_;rintro e w' ⟨rfl,hb⟩;go_wp2;go_ret;exact⟨rfl,hb⟩
end Go.Proofs.YtdpdbfhbojgigacGreatDoor
