/-
  Several texts as one: DogOps, AlSt, LcPure, CfCopy, CfOwn, Rw, GaSt, GaOps.
-/
import Derived.Test.YtffpcbdlbcjihadGreatDoorP07S
import Derived.BigQuiet
import Derived.Deep.QuietTactic
import Derived.Deep.DeepCutAuto
import Derived.WalkSmall
import Derived.Deep.Upon
import Derived.Lib.Builder
import Derived.Laws.Tables
import Derived.Laws.Rows
import Derived.Laws.MakeOwn
import Derived.Deep.AppendLies
import Derived.Deep.RegionLaw
namespace Go.Proofs.YtffpcbdlbcjihadGreatDoor
open Go.RowKit Go.Extern.Stop Go.Stop Go.Extern
theorem dog_open (b:Nat)(d:DSt)(w:World)(h:DogAt w b d) :
  Calls Tryz.prog 279 #[.pointer (some ⟨b,0,none⟩)] w fun e w'=>e=.returned (.bool d.isOpen)/\∃ q,w'=w.drewN q:=by
 have c0:=h.c0;have c5:=h.c5
 cases hr:d.reset
 ·rw[hr] at c5;have E:Hid (d.isOpen=decide (d.closed < d.now - d.begun)):=by
   show _=_
   unfold DSt.isOpen;rw[hr];simp only[Bool.not_false,Bool.true_and]
  go_enter Tryz.func279,Tryz.ntmps279
  go_wp2_with fail
  go_quiet (first | (go_at_call 275;exact Calls.quiet_of (dog_behind _ _ _ (h.drewN _))))
  go_wp2;go_ret;rw[E.out];exact⟨rfl,_,rfl⟩
 ·rw[hr] at c5;have E:Hid (d.isOpen=false):=by
   show _=_
   unfold DSt.isOpen;rw[hr];rfl
  go_enter Tryz.func279,Tryz.ntmps279
  go_wp2_with fail
  go_quiet (fail)
  go_wp2;go_ret;rw[E.out];exact⟨rfl,_,rfl⟩
theorem goodRun.skipped {P:Program}{S:Nat->Value->World->Prop}{C:World->Prop}{i:Nat}{w w':World}{r:Result Next}(hr:r=.ok .skip w')(hC:C w')(hK:∀ j v,S j v w->S j v w')(hS:S i undef w'):goodRun P S C i w r:=by
 subst hr;exact⟨hC,hK,hS⟩
def DSt.tickR (d:DSt)(r:Bool):DSt:=⟨d.closed,d.opn,d.now+1,d.begun,d.kicks,r⟩
def tickS (b:Nat)(d:DSt):Nat->Value->World->Prop
 | 0=>fun v _=>v=.pointer (some ⟨b,0,none⟩)
 | 1=>fun v _=>v=.pointer (some ⟨b,0,none⟩)
 | 2=>fun v _=>v=.int .i64 ((d.now+1 - d.begun:Nat):Int)
 | 3=>fun v _=>v=.pointer (some ⟨b,0,none⟩)
 | 4=>fun v _=>v=.pointer (some ⟨b,0,none⟩)
 | 5=>fun v _=>v=.pointer (some ⟨b,0,none⟩)
 | 6=>fun v _=>v=.int .i64 (d.closed:Int)
 | 7=>fun v _=>v=.pointer (some ⟨b,0,none⟩)
 | 8=>fun v _=>v=.pointer (some ⟨b,0,none⟩)
 | 9=>fun v _=>v=.pointer (some ⟨b,1,none⟩)
 | 10=>fun v _=>v=.int .i64 (d.opn:Int)
 | 11=>fun v _=>v=.int .i64 ((d.closed+d.opn:Nat):Int)
 | 12=>fun v _=>v=.bool (decide (d.closed+d.opn < d.now+1 - d.begun))
 | 13=>fun v _=>v=.pointer (some ⟨b,0,none⟩)
 | 14=>fun v _=>v=.pointer (some ⟨b,5,none⟩)
 | 15=>fun _ w=>DogAt w b d.tick
 | _=>fun _ _=>True
theorem tickS_keeps {b:Nat}{d:DSt}{w w':World}(hb:DogAt w b d.tick->DogAt w' b d.tick):∀ j v,tickS b d j v w->tickS b d j v w':=by
 intro j v h
 match j,h with
 | 0,h=>exact h
 | 1,h=>exact h
 | 2,h=>exact h
 | 3,h=>exact h
 | 4,h=>exact h
 | 5,h=>exact h
 | 6,h=>exact h
 | 7,h=>exact h
 | 8,h=>exact h
 | 9,h=>exact h
 | 10,h=>exact h
 | 11,h=>exact h
 | 12,h=>exact h
 | 13,h=>exact h
 | 14,h=>exact h
 | 15,h=>exact hb h
 | n+16,h=>exact h
set_option maxHeartbeats 1000000 in
set_option maxRecDepth 20000 in
theorem dog_tick (b:Nat)(d:DSt)(w:World)(h:DogAt w b d)(hr:d.reset=false)(hlt:d.now < 1099511627776) :
  Calls Tryz.prog 236 #[.pointer (some ⟨b,0,none⟩)] w fun e w'=>e=.returned .nilIface/\DogAt w' b d.tick/\w.grownBy w' (some b):=by
 have c5:=h.c5;have c2:=h.c2;have f2:=h.frozen 2;have hc:=h.hc;have ho:=h.ho;rw[hr] at c5;have g1:¬1099511627776<=(d.now:Int):=by omega
 have wr:IntKind.i64.wrap ((d.closed:Int)+(d.opn:Int))=((d.closed+d.opn:Nat):Int):=by rw[IntKind.wrap_i64];omega
 have e1:((d.now+1:Nat):Int)=(d.now:Int)+1:=by omega
 have hT:DogAt (w.setCell ⟨b,2,none⟩ (.int .i64 ((d.now:Int)+1))) b (d.tickR d.reset):=by
  rw[<- e1];exact h.set 2 _ rfl h.hc h.ho h.hk (Nat.le_succ_of_le h.hb) hlt
 have HT:Hid _:=hT;clear hT h hlt e1;go_enter Tryz.func236,Tryz.ntmps236
 go_upto_region 6 with fail
 refine region_spec 16 rfl (tickS b d) (fun w'=>w.grownBy w' (some b)/\∃ r,DogAt w' b (d.tickR r)) (by kernel_rfl) (by kernel_rfl) ⟨grown_drewN (grown_set (grown_refl _ _) _ _) 1,_,HT.out.drew⟩ ?_ ?_
 ·intro i o ho
  match i,ho with
  | 0,ho=>
   obtain rfl:=Option.some.inj ho
   refine StepOk.free rfl ?_;intro a w hC hdep hoth;have x0:a.tmps[0]?.getD undef=.pointer (some ⟨b,0,none⟩):=slot_of (hoth 0 (notDst (by kernel_rfl)));exact goodRun.val (c:=.pointer (some ⟨b,0,none⟩)) (by clear hdep hoth;go_simp) hC rfl
  | 1,ho=>
   obtain rfl:=Option.some.inj ho
   refine StepOk.free rfl ?_;intro a w hC hdep hoth;have x0:a.tmps[0]?.getD undef=.pointer (some ⟨b,0,none⟩):=slot_of (hoth 0 (notDst (by kernel_rfl)));exact goodRun.val (c:=.pointer (some ⟨b,0,none⟩)) (by clear hdep hoth;go_simp) hC rfl
  | 2,ho=>
   obtain rfl:=Option.some.inj ho
   refine StepOk.free rfl ?_;intro a w hC hdep hoth;have x22:a.tmps[22]?.getD undef=.pointer (some ⟨b,0,none⟩):=slot_of (hdep _ 22 (Array.mem_of_getElem? (i:=0) rfl) rfl rfl);obtain⟨r,hr⟩:=hC.2
   refine goodRun.call (f:=275) (args:=#[.pointer (some ⟨b,0,none⟩)]) (by clear hdep hoth;go_simp) ?_
   refine(dog_behind _ _ _ hr).mono ?_;rintro e w' ⟨rfl,q,rfl⟩;exact⟨_,rfl,⟨grown_drewN hC.1 _,r,hr.drewN _⟩,tickS_keeps (fun h=>h.drewN _),rfl⟩
  | 3,ho=>
   obtain rfl:=Option.some.inj ho
   refine StepOk.free rfl ?_;intro a w hC hdep hoth;have x0:a.tmps[0]?.getD undef=.pointer (some ⟨b,0,none⟩):=slot_of (hoth 0 (notDst (by kernel_rfl)));exact goodRun.val (c:=.pointer (some ⟨b,0,none⟩)) (by clear hdep hoth;go_simp) hC rfl
  | 4,ho=>
   obtain rfl:=Option.some.inj ho
   refine StepOk.free rfl ?_;intro a w hC hdep hoth;have x24:a.tmps[24]?.getD undef=.pointer (some ⟨b,0,none⟩):=slot_of (hdep _ 24 (Array.mem_of_getElem? (i:=0) rfl) rfl rfl);exact goodRun.val (c:=.pointer (some ⟨b,0,none⟩)) (by clear hdep hoth;go_simp) hC rfl
  | 5,ho=>
   obtain rfl:=Option.some.inj ho
   refine StepOk.free rfl ?_;intro a w hC hdep hoth;have x25:a.tmps[25]?.getD undef=.pointer (some ⟨b,0,none⟩):=slot_of (hdep _ 25 (Array.mem_of_getElem? (i:=0) rfl) rfl rfl);exact goodRun.val (c:=.pointer (some ⟨b,0,none⟩)) (by clear hdep hoth;go_simp) hC rfl
  | 6,ho=>
   obtain rfl:=Option.some.inj ho
   refine StepOk.free rfl ?_;intro a w hC hdep hoth;have x26:a.tmps[26]?.getD undef=.pointer (some ⟨b,0,none⟩):=slot_of (hdep _ 26 (Array.mem_of_getElem? (i:=0) rfl) rfl rfl);obtain⟨r,hr⟩:=hC.2;have c:w.cell? ⟨b,0,none⟩=some (.int .i64 (d.closed:Int)):=hr.c0;exact goodRun.val (c:=.int .i64 (d.closed:Int)) (by clear hdep hoth;go_simp) hC rfl
  | 7,ho=>
   obtain rfl:=Option.some.inj ho
   refine StepOk.free rfl ?_;intro a w hC hdep hoth;have x0:a.tmps[0]?.getD undef=.pointer (some ⟨b,0,none⟩):=slot_of (hoth 0 (notDst (by kernel_rfl)));exact goodRun.val (c:=.pointer (some ⟨b,0,none⟩)) (by clear hdep hoth;go_simp) hC rfl
  | 8,ho=>
   obtain rfl:=Option.some.inj ho
   refine StepOk.free rfl ?_;intro a w hC hdep hoth;have x28:a.tmps[28]?.getD undef=.pointer (some ⟨b,0,none⟩):=slot_of (hdep _ 28 (Array.mem_of_getElem? (i:=0) rfl) rfl rfl);exact goodRun.val (c:=.pointer (some ⟨b,0,none⟩)) (by clear hdep hoth;go_simp) hC rfl
  | 9,ho=>
   obtain rfl:=Option.some.inj ho
   refine StepOk.free rfl ?_;intro a w hC hdep hoth;have x29:a.tmps[29]?.getD undef=.pointer (some ⟨b,0,none⟩):=slot_of (hdep _ 29 (Array.mem_of_getElem? (i:=0) rfl) rfl rfl);exact goodRun.val (c:=.pointer (some ⟨b,1,none⟩)) (by clear hdep hoth;go_simp) hC rfl
  | 10,ho=>
   obtain rfl:=Option.some.inj ho
   refine StepOk.free rfl ?_;intro a w hC hdep hoth;have x30:a.tmps[30]?.getD undef=.pointer (some ⟨b,1,none⟩):=slot_of (hdep _ 30 (Array.mem_of_getElem? (i:=0) rfl) rfl rfl);obtain⟨r,hr⟩:=hC.2;have c:w.cell? ⟨b,1,none⟩=some (.int .i64 (d.opn:Int)):=hr.c1;exact goodRun.val (c:=.int .i64 (d.opn:Int)) (by clear hdep hoth;go_simp) hC rfl
  | 11,ho=>
   obtain rfl:=Option.some.inj ho
   refine StepOk.free rfl ?_;intro a w hC hdep hoth;have x27:a.tmps[27]?.getD undef=.int .i64 (d.closed:Int):=slot_of (hdep _ 27 (Array.mem_of_getElem? (i:=0) rfl) rfl rfl);have x31:a.tmps[31]?.getD undef=.int .i64 (d.opn:Int):=slot_of (hdep _ 31 (Array.mem_of_getElem? (i:=1) rfl) rfl rfl);exact goodRun.val (c:=.int .i64 ((d.closed+d.opn:Nat):Int)) (by clear hdep hoth;go_simp) hC rfl
  | 12,ho=>
   obtain rfl:=Option.some.inj ho
   refine StepOk.free rfl ?_;intro a w hC hdep hoth;have x23:a.tmps[23]?.getD undef=.int .i64 ((d.now+1 - d.begun:Nat):Int):=slot_of (hdep _ 23 (Array.mem_of_getElem? (i:=0) rfl) rfl rfl);have x32:a.tmps[32]?.getD undef=.int .i64 ((d.closed+d.opn:Nat):Int):=slot_of (hdep _ 32 (Array.mem_of_getElem? (i:=1) rfl) rfl rfl);exact goodRun.val (c:=.bool (decide (d.closed+d.opn < d.now+1 - d.begun))) (by clear hdep hoth;go_simp;omega) hC rfl
  | 13,ho=>
   obtain rfl:=Option.some.inj ho
   refine StepOk.free rfl ?_;intro a w hC hdep hoth;have x21:a.tmps[21]?.getD undef=.pointer (some ⟨b,0,none⟩):=slot_of (hdep _ 21 (Array.mem_of_getElem? (i:=0) rfl) rfl rfl);exact goodRun.val (c:=.pointer (some ⟨b,0,none⟩)) (by clear hdep hoth;go_simp) hC rfl
  | 14,ho=>
   obtain rfl:=Option.some.inj ho
   refine StepOk.free rfl ?_;intro a w hC hdep hoth;have x34:a.tmps[34]?.getD undef=.pointer (some ⟨b,0,none⟩):=slot_of (hdep _ 34 (Array.mem_of_getElem? (i:=0) rfl) rfl rfl);exact goodRun.val (c:=.pointer (some ⟨b,5,none⟩)) (by clear hdep hoth;go_simp) hC rfl
  | 15,ho=>
   obtain rfl:=Option.some.inj ho
   refine StepOk.free rfl ?_;intro a w hC hdep hoth;have x35:a.tmps[35]?.getD undef=.pointer (some ⟨b,5,none⟩):=slot_of (hdep _ 35 (Array.mem_of_getElem? (i:=0) rfl) rfl rfl);have x33:a.tmps[33]?.getD undef=.bool (decide (d.closed+d.opn < d.now+1 - d.begun)):=slot_of (hdep _ 33 (Array.mem_of_getElem? (i:=1) rfl) rfl rfl);obtain⟨r,hr⟩:=hC.2;have c5:w.cell? ⟨b,5,none⟩=some (.bool r):=hr.c5;have f5:=hr.frozen 5;have hT:DogAt (w.setCell ⟨b,5,none⟩ (.bool (decide (d.closed+d.opn < d.now+1 - d.begun)))) b d.tick:=hr.set 5 _ rfl hr.hc hr.ho hr.hk hr.hb hr.hn;exact goodRun.skipped (w':=w.setCell ⟨b,5,none⟩ (.bool (decide (d.closed+d.opn < d.now+1 - d.begun)))) (by clear hdep hoth hT;go_simp) ⟨grown_set hC.1 _ _,_,hT⟩ (tickS_keeps (fun _=>hT)) hT
  | n+16,ho=>simp at ho
 ·intro vals w5 hC hS;have hT:DogAt w5 b d.tick:=hS 15 (by decide);have hg:=hC.1;clear hS hC HT;simp only[fill,dstOf];go_simp
  go_wp2;go_ret;exact⟨rfl,hT,hg⟩
theorem dog_kick (b:Nat)(d:DSt)(w:World)(h:DogAt w b d)(ho:d.isOpen=true) :
  Calls Tryz.prog 280 #[.pointer (some ⟨b,0,none⟩)] w fun e w'=>e=.returned .nilIface/\DogAt w' b d.kick/\w.grownBy w' (some b):=by
 have hk:=h.hk;have hb:=h.hb;have hn:=h.hn;have hlt:d.kicks < d.now:=by
  unfold DSt.isOpen at ho;simp only[Bool.and_eq_true,decide_eq_true_eq] at ho;omega
 have HO:Hid (d.isOpen=true):=ho;have h1:∀ q,DogAt ((w.drewN q).setCell ⟨b,3,none⟩ (.int .i64 (d.now:Int))) b { d with begun:=d.now }:=fun q=>(h.drewN q).set 3 _ rfl h.hc h.ho (Nat.le_trans h.hk h.hb) (Nat.le_refl _) h.hn
 have h2:∀ q,DogAt (((w.drewN q).setCell ⟨b,3,none⟩ (.int .i64 (d.now:Int))).setCell ⟨b,4,none⟩ (.int .i64 ((d.kicks:Int)+1))) b d.kick:=fun q=>by
  have e:((d.kicks+1:Nat):Int)=(d.kicks:Int)+1:=by omega
  rw[<- e];exact(h1 q).set 4 _ rfl h.hc h.ho (show d.kicks+1<=d.now by omega) (Nat.le_refl _) h.hn
 have c2:=h.c2;have c3:=h.c3;have c4:=h.c4;have f3:=h.frozen 3;have f4:=h.frozen 4;have H1:Hid _:=h1;have H2:Hid _:=h2;clear h1 h2 ho;go_enter Tryz.func280,Tryz.ntmps280
 go_wp2_with fail
 refine(dog_open _ _ _ h).mono ?_;rintro e w1 ⟨rfl,q,rfl⟩;rw[HO.out];clear h;go_wp2;go_ret;exact⟨rfl,H2.out q,grown_set (grown_set (grown_drewN (grown_refl _ _) _) _ _) _ _⟩
theorem dog_start (b:Nat)(d:DSt)(w:World)(h:DogAt w b d) :
  Calls Tryz.prog 114 #[.pointer (some ⟨b,0,none⟩)] w fun e w'=>e=.returned (.tuple #[])/\DogAt w' b d.start/\w.grownBy w' (some b):=by
 have c2:=h.c2;have c3:=h.c3;have c5:=h.c5;have f3:=h.frozen 3;have f5:=h.frozen 5;have hk:=Nat.le_trans h.hk h.hb;have R1:DogAt ((w.setCell ⟨b,3,none⟩ (.int .i64 (d.now:Int))).setCell ⟨b,5,none⟩ (.bool false)) b d.start:=(h.set (d':={ d with begun:=d.now }) 3 _ rfl h.hc h.ho hk (Nat.le_refl _) h.hn).set 5 _ rfl h.hc h.ho hk (Nat.le_refl _) h.hn;have H1:Hid _:=R1;clear R1 h hk;go_enter Tryz.func114,Tryz.ntmps114
 go_wp2;go_end0
 exact⟨rfl,H1.out,grown_set (grown_set (grown_refl _ _) _ _) _ _⟩
end Go.Proofs.YtffpcbdlbcjihadGreatDoor
namespace Go.Proofs.YtffpcbdlbcjihadGreatDoor
open Go.RowKit Go.Extern.Stop Go.Stop Go.Extern
structure ASt where
 pt:Int
 mn:Int
 mx:Int
 n:Nat
def ASt.row (a:ASt):Array Value:=#[.int .i64 a.pt,.int .i64 a.mn,.int .i64 a.mx,.int .i64 (a.n:Int)]
def ptOf (cnt:Int)(len:Nat):Int:=if cnt < 0\/(len:Int)<=cnt then -1 else cnt
def ASt.rep (a:ASt)(p:Int):ASt:=if a.pt≠-1/\p=a.pt/\a.n < 1000 then { a with n:=a.n+1 } else a
def ASt.well (a:ASt)(whole:Bool):Bool:=(decide (a.mn<=(a.n:Int)) && decide ((a.n:Int)<=a.mx)) || !whole || decide (a.pt=-1)
def ASt.zero (a:ASt):ASt:={ a with n:=0 }
structure AlAt (w:World)(b:Nat)(a:ASt):Prop where
 heap:w.heap[b]?=some (.cells a.row 342 (0,0))
 hn:a.n<=1000
structure AlIn (w0 w:World)(b:Nat)(a:ASt):Prop where
 at':AlAt w b a
 bel:Below w0.heap.size w0 w
 lo:w0.heap.size<=b
theorem AlAt.cell {w:World}{b:Nat}{a:ASt}(h:AlAt w b a)(i:Nat):w.cell? ⟨b,i,none⟩=a.row[i]?:=by simp[World.cell?,h.heap]
theorem AlAt.frozen {w:World}{b:Nat}{a:ASt}(h:AlAt w b a)(i:Nat):w.frozen? ⟨b,i,none⟩=false:=by simp[World.frozen?,h.heap]
theorem AlAt.c0 {w:World}{b:Nat}{a:ASt}(h:AlAt w b a):w.cell? ⟨b,0,none⟩=some (.int .i64 a.pt):=h.cell 0
theorem AlAt.c1 {w:World}{b:Nat}{a:ASt}(h:AlAt w b a):w.cell? ⟨b,1,none⟩=some (.int .i64 a.mn):=h.cell 1
theorem AlAt.c2 {w:World}{b:Nat}{a:ASt}(h:AlAt w b a):w.cell? ⟨b,2,none⟩=some (.int .i64 a.mx):=h.cell 2
theorem AlAt.c3 {w:World}{b:Nat}{a:ASt}(h:AlAt w b a):w.cell? ⟨b,3,none⟩=some (.int .i64 (a.n:Int)):=h.cell 3
theorem AlAt.set {w:World}{b:Nat}{a:ASt}(h:AlAt w b a)(n:Nat)(hn:n<=1000):AlAt (w.setCell ⟨b,3,none⟩ (.int .i64 (n:Int))) b { a with n:=n }:=by
 refine⟨?_,hn⟩;simp only[World.setCell,Array.getElem?_modify,h.heap];simp[ASt.row]
theorem AlAt.drewN {w:World}{b:Nat}{a:ASt}(h:AlAt w b a)(q:Nat):AlAt (w.drewN q) b a:=⟨h.heap,h.hn⟩
set_option maxHeartbeats 1000000 in
theorem al_new (name:ByteArray)(tol cnt mn mx:Int)(pa:Option Addr)(pl pc:Nat)(gv ev fv lv:Value)(w:World) :
  Calls Tryz.prog 230 #[.agg #[.string name,.int .i64 tol,.slice pa pl pc,.int .i64 cnt,.int .i64 mn,.int .i64 mx,gv,ev,fv,lv]] w fun v w'=>∃ b,v=.returned (.pointer (some ⟨b,0,none⟩))/\AlIn w w' b ⟨ptOf cnt pl,mn,mx,0⟩:=by
 have fin:∀ (z:Int) (o:Obj),z=ptOf cnt pl->AlIn w ((w.alloc o).alloc (.cells #[.int .i64 z,.int .i64 mn,.int .i64 mx,.int .i64 0] 342)) (w.heap.size+1) ⟨ptOf cnt pl,mn,mx,0⟩:=by
  rintro z o rfl
  refine⟨⟨?_,Nat.zero_le _⟩,(Below.one _ _).alloc (by simp) _,by omega⟩;show ((w.alloc o).heap.push _)[w.heap.size+1]?=_
  rw[Array.getElem?_push,if_pos (by simp)];rfl
 have HFin:Hid _:=fin;clear fin
 by_cases h0:cnt < 0
 ·have HZ:Hid ((-1:Int)=ptOf cnt pl):=by show _=_;unfold ptOf;rw[if_pos (Or.inl h0)]
  go_enter Tryz.func230,Tryz.ntmps230
  go_wp2;go_ret;exact⟨_,rfl,HFin.out _ _ HZ.out⟩
 by_cases h1:(pl:Int)<=cnt
 ·have HZ:Hid ((-1:Int)=ptOf cnt pl):=by show _=_;unfold ptOf;rw[if_pos (Or.inr h1)]
  go_enter Tryz.func230,Tryz.ntmps230
  go_wp2;go_ret;exact⟨_,rfl,HFin.out _ _ HZ.out⟩
 ·have HZ:Hid (cnt=ptOf cnt pl):=by show _=_;unfold ptOf;rw[if_neg (by omega)]
  go_enter Tryz.func230,Tryz.ntmps230
  go_wp2;go_ret;exact⟨_,rfl,HFin.out _ _ HZ.out⟩
variable {w0 w:World}{b:Nat}{a:ASt}
end Go.Proofs.YtffpcbdlbcjihadGreatDoor
namespace Go.Proofs.YtffpcbdlbcjihadGreatDoor
open Go
def countIn (cnt:Int)(l:List MkD)(cyc:Int):Nat:=l.countP (fun m=>decide (m.cyc=cyc) && decide (m.pt=cnt))
theorem countIn_snoc (cnt:Int)(l:List MkD)(m:MkD)(cyc:Int):countIn cnt (l++[m]) cyc=countIn cnt l cyc+(if m.cyc=cyc/\m.pt=cnt then 1 else 0):=by
 unfold countIn;rw[List.countP_append];simp only[List.countP_cons,List.countP_nil,Nat.zero_add]
 by_cases h:m.cyc=cyc <;> by_cases h2:m.pt=cnt <;> simp[h,h2]
theorem countIn_next {cnt:Int}{l:List MkD}{cyc:Int}(h:∀ m∈l,m.cyc < cyc):countIn cnt l cyc=0:=by
 unfold countIn;rw[List.countP_eq_zero];intro m hm;have:=h m hm;simp only[Bool.and_eq_true,decide_eq_true_eq,not_and];intro e;omega
theorem countIn_le (cnt:Int)(l:List MkD)(cyc:Int):countIn cnt l cyc<=l.length:=List.countP_le_length
def kindL (e:EntD)(l:List MkD)(cyc:Int):Int:=
 if 0<=e.cnt/\0 < cyc/\((countIn e.cnt l cyc:Int) < e.mn\/e.mx < (countIn e.cnt l cyc:Int)) then 1
 else if e.gaps.any (fun g=>gapBad g l cyc)=true then 2
 else if flowBad e l cyc=true then 3 else 0
def simA (e:EntD)(l:List MkD)(cyc:Int):ASt:=⟨ptOf e.cnt e.pts.length,e.mn,e.mx,if ptOf e.cnt e.pts.length=-1 then 0 else countIn e.cnt l cyc⟩
theorem simA_new (e:EntD):simA e [] 0=⟨ptOf e.cnt e.pts.length,e.mn,e.mx,0⟩:=by
 unfold simA countIn;simp
theorem ptOf_is {cnt:Int}{n:Nat}(h:ptOf cnt n≠-1):ptOf cnt n=cnt:=by
 unfold ptOf at h ⊢
 split
 ·rename_i h2;rw[if_pos h2] at h;exact absurd rfl h
 ·rfl
theorem simA_rep (e:EntD)(l:List MkD)(cyc p t:Int)(hl:l.length < 1000):(simA e l cyc).rep p=simA e (l++[⟨p,t,cyc⟩]) cyc:=by
 unfold ASt.rep
 by_cases h:ptOf e.cnt e.pts.length=-1
 ·rw[if_neg (by simp[simA,h])];simp[simA,h]
 ·have hp:=ptOf_is h;have hc:=countIn_le e.cnt l cyc
  by_cases hpp:p=e.cnt
  ·have e1:(simA e l cyc).pt≠-1/\p=(simA e l cyc).pt/\(simA e l cyc).n < 1000:=by
    refine⟨h,?_,?_⟩
    ·simp[simA,hp,hpp]
    ·simp only[simA,if_neg h];omega
   rw[if_pos e1];simp only[simA,if_neg h,countIn_snoc,hpp,and_self,if_true]
  ·rw[if_neg (by simp only[simA];rw[hp];exact fun x=>hpp x.2.1)];simp only[simA,if_neg h,countIn_snoc];rw[if_neg (fun x=>hpp x.2)];rfl
theorem simA_end {e:EntD}{l:List MkD}{cyc:Int}(h:∀ m∈l,m.cyc<=cyc):(simA e l cyc).zero=simA e l (cyc+1):=by
 unfold ASt.zero simA;rw[countIn_next (cyc:=cyc+1) (fun m hm=>by have:=h m hm;omega)];simp
def kindW (a:ASt)(g:GSt)(f:FSt)(whole:Bool):Int:=if a.well whole=false then 1 else if g.bad=true then 2 else if f.bad=true then 3 else 0
theorem kind_sim {e:EntD}{l:List MkD}{cyc:Int}(hc:e.cnt < (e.pts.length:Int)):kindW (simA e l cyc) (simG e.gaps l cyc) (simF e l cyc) (decide (0 < cyc))=kindL e l cyc:=by
 unfold kindW kindL;have e1:((simA e l cyc).well (decide (0 < cyc))=false) ↔ (0<=e.cnt/\0 < cyc/\((countIn e.cnt l cyc:Int) < e.mn\/e.mx < (countIn e.cnt l cyc:Int))):=by
  unfold ASt.well
  by_cases h:0<=e.cnt
  ·have hp:ptOf e.cnt e.pts.length=e.cnt:=by unfold ptOf;rw[if_neg (by omega)]
   have hn:¬e.cnt=-1:=by omega
   simp only[simA,hp,if_neg hn];generalize ((countIn e.cnt l cyc:Nat):Int)=n
   by_cases a1:e.mn<=n <;> by_cases a2:n<=e.mx <;> by_cases a3:0 < cyc <;> simp[a1,a2,a3,hn,h] <;> omega
  ·have hp:ptOf e.cnt e.pts.length=-1:=by unfold ptOf;rw[if_pos (by omega)]
   simp[simA,hp]
   omega
 by_cases h1:(0<=e.cnt/\0 < cyc/\((countIn e.cnt l cyc:Int) < e.mn\/e.mx < (countIn e.cnt l cyc:Int)))
 ·rw[if_pos h1,if_pos (e1.2 h1)]
 ·rw[if_neg h1,if_neg (fun x=>h1 (e1.1 x))];rfl
structure LSt where
 act:Bool
 since:Int
 ms:List MkD
 run:Int
 ex:Bool
def LSt.new:LSt:=⟨false,0,[],0,false⟩
def LSt.begin (s:LSt):LSt:=if s.act then s else ⟨true,0,[],0,false⟩
def LSt.stop (s:LSt):LSt:={ s with act:=false }
def LSt.rep (e:EntD)(s:LSt)(p t:Int):LSt:=if s.act/\hasP e p=true then { s with ms:=s.ms++[⟨p,t,s.since⟩] } else s
def LSt.run1 (e:EntD)(s:LSt):Int:=if kindL e s.ms s.since=0 then 0 else s.run+1
def LSt.turns (e:EntD)(s:LSt):Bool:=s.act && (!s.ex && decide (e.tol < s.run1 e))
def LSt.fin (e:EntD)(s:LSt):LSt:=if s.act then ⟨true,s.since+1,s.ms,s.run1 e,s.ex || decide (e.tol < s.run1 e)⟩ else s
def LSt.kind (e:EntD)(s:LSt):Int:=if s.act then kindL e s.ms s.since else 0
def LSt.status (s:LSt):Nat:=if s.act then (if s.ex then 3 else if 0 < s.run then 2 else 1) else 0
structure LFit (s:LSt)(k:Nat):Prop where
 len:s.ms.length<=k
 each:∀ m∈s.ms,m.cyc<=s.since
 s0:0<=s.since
 s1:s.since<=(k:Int)
 r0:0<=s.run
 r1:s.run<=s.since
theorem LFit.new:LFit LSt.new 0:=⟨Nat.le_refl _,fun m hm=>(by cases hm),Int.le_refl _,Int.le_refl _,Int.le_refl _,Int.le_refl _⟩
theorem LFit.mono {s:LSt}{k n:Nat}(h:LFit s k)(hn:k<=n):LFit s n:=⟨Nat.le_trans h.len hn,h.each,h.s0,by have:=h.s1;omega,h.r0,h.r1⟩
theorem LFit.begin {s:LSt}{k:Nat}(h:LFit s k):LFit s.begin (k+1):=by
 unfold LSt.begin
 split
 ·exact h.mono (by omega)
 ·exact⟨Nat.zero_le _,fun m hm=>(by cases hm),Int.le_refl _,by simp;omega,Int.le_refl _,Int.le_refl _⟩
theorem LFit.stop {s:LSt}{k:Nat}(h:LFit s k):LFit s.stop (k+1):=⟨Nat.le_trans h.len (by omega),h.each,h.s0,by have:=h.s1;show s.since<=_;push_cast;omega,h.r0,h.r1⟩
theorem LFit.rep {e:EntD}{s:LSt}{k:Nat}(h:LFit s k)(p t:Int):LFit (s.rep e p t) (k+1):=by
 unfold LSt.rep
 split
 ·refine⟨by have:=h.len;simp;omega,fun m hm=>?_,h.s0,by have:=h.s1;show s.since<=_;push_cast;omega,h.r0,h.r1⟩;rw[List.mem_append] at hm
  rcases hm with hm | hm
  ·exact h.each m hm
  ·rw[List.mem_singleton] at hm;subst hm;exact Int.le_refl _
 ·exact h.mono (by omega)
theorem LFit.fin {e:EntD}{s:LSt}{k:Nat}(h:LFit s k):LFit (s.fin e) (k+1):=by
 unfold LSt.fin
 split
 ·have h1:=h.r0;have h2:=h.r1;have h3:=h.s0;have hr:0<=s.run1 e/\s.run1 e<=s.since+1:=by unfold LSt.run1;split <;> omega
  refine⟨Nat.le_trans h.len (by omega),fun m hm=>by have:=h.each m hm;show m.cyc<=s.since+1;omega,by show 0<=s.since+1;omega,by have:=h.s1;show s.since+1<=_;push_cast;omega,hr.1,hr.2⟩
 ·exact h.mono (by omega)
end Go.Proofs.YtffpcbdlbcjihadGreatDoor
namespace Go.Proofs.YtffpcbdlbcjihadGreatDoor
open Go.RowKit Go.Extern.Stop Go.Stop Go.Extern
theorem addC_plain (b o j:Nat):(⟨b,o,none⟩:Addr).add j=⟨b,o+j,none⟩:=by unfold Addr.add;split <;> simp_all
def SlOwn {α:Type}(enc:α->List Value)(k:Nat)(T:TypeId)(B:Nat)(w:World)(v:Value)(xs:List α):Prop:=w.ownsRow B T k v xs.length (xs.flatMap enc)
theorem flat_at {α:Type}{enc:α->List Value}{k:Nat}(henc:∀ x,(enc x).length=k):∀ (xs:List α) (i j:Nat) (x:α) (u:Value),xs[i]?=some x->(enc x)[j]?=some u->(xs.flatMap enc)[i*k+j]?=some u
 | [],i,j,x,u,h,_=>by simp at h
 | y :: t,0,j,x,u,h,hu=>by
  simp at h
  subst h;have hj:j < (enc y).length:=(List.getElem?_eq_some_iff.1 hu).1;rw[List.flatMap_cons,Nat.zero_mul,Nat.zero_add,List.getElem?_append_left hj];exact hu
 | y :: t,i+1,j,x,u,h,hu=>by
  have ih:=flat_at henc t i j x u (by simpa using h) hu;rw[List.flatMap_cons,List.getElem?_append_right (by rw[henc];rw[Nat.succ_mul];omega),henc];have e:(i+1)*k+j - k=i*k+j:=by rw[Nat.succ_mul];omega
  rw[e];exact ih
theorem flat_len {α:Type}{enc:α->List Value}{k:Nat}(henc:∀ x,(enc x).length=k):∀ (xs:List α),(xs.flatMap enc).length=xs.length*k
 | []=>by simp
 | y :: t=>by rw[List.flatMap_cons,List.length_append,henc,flat_len henc t,List.length_cons,Nat.succ_mul];omega
theorem flat_of {α:Type}{enc:α->List Value}{k:Nat}(henc:∀ x,(enc x).length=k):∀ (xs:List α) (n:Nat) (u:Value),(xs.flatMap enc)[n]?=some u->∃ i j x,n=i*k+j/\xs[i]?=some x/\(enc x)[j]?=some u
 | [],n,u,h=>by simp at h
 | y :: t,n,u,h=>by
  rw[List.flatMap_cons] at h
  by_cases hn:n < k
  ·rw[List.getElem?_append_left (by rw[henc];exact hn)] at h;exact⟨0,n,y,by simp,rfl,h⟩
  ·rw[List.getElem?_append_right (by rw[henc];omega),henc] at h;obtain⟨i,j,x,e,h1,h2⟩:=flat_of henc t (n - k) u h;exact⟨i+1,j,x,by rw[Nat.succ_mul];omega,by simpa using h1,h2⟩
theorem SlOwn.slat {α:Type}{enc:α->List Value}{k:Nat}{T:TypeId}{B:Nat}{w:World}{v:Value}{xs:List α}(h:SlOwn enc k T B w v xs)(henc:∀ x,(enc x).length=k):SlAt enc k w v xs:=by
 rcases h.2 with ⟨rfl,h0⟩ | ⟨g,cap,cur,rfl,hB,hg,hle,-⟩
 ·have:xs=[]:=List.eq_nil_of_length_eq_zero h0;subst this;exact⟨none,0,rfl,Nat.le_refl _,fun e=>absurd rfl e⟩
 ·refine⟨_,cap,rfl,hle,fun _=>⟨g,0,rfl,fun i x hx j u hu=>?_⟩⟩;have:=h.cells (g:=g) rfl (i*k+j) u (flat_at henc xs i j x u hx hu);rw[addC_plain] at this;rw[Nat.add_assoc];exact this
theorem SlOwn.below {α:Type}{enc:α->List Value}{k:Nat}{T:TypeId}{B:Nat}{w w':World}{v:Value}{xs:List α}(h:SlOwn enc k T B w v xs)(hb:Below w.heap.size w w'):SlOwn enc k T B w' v xs:=
 h.kept (row:=none) ⟨hb.os,hb.tape,hb.output,hb.size,fun k hk _=>hb.block k hk⟩ (by by_cases e:v.ownBlock=none;exact Or.inl e;exact Or.inr e)
theorem SlOwn.other {α:Type}{enc:α->List Value}{T T':TypeId}{B b:Nat}{w w':World}{v:Value}{xs:List α}{k:Nat}(h:SlOwn enc k T B w v xs)(hg:w.grownBy w' (some b)){c:Array Value}{fr:Nat × Nat}(hb:w.heap[b]?=some (.cells c T' fr))(hT:T'≠T):SlOwn enc k T B w' v xs:=by
 refine h.kept hg (Or.inr ?_)
 rcases h.2 with ⟨rfl,_⟩ | ⟨g,cap,cur,rfl,_,hg',_⟩
 ·simp[Value.ownBlock]
 ·intro e;simp only[Value.ownBlock,Option.some.injEq] at e;subst e;rw[hg'] at hb;simp only[Option.some.injEq,Obj.cells.injEq] at hb;exact hT hb.2.1.symm
theorem grown_setCell (w:World)(b j:Nat)(v:Value):w.grownBy (w.setCell ⟨b,j,none⟩ v) (some b):=
 ⟨rfl,rfl,rfl,by simp[World.setCell],fun k _ hk=>Below.heap_setCell _ _ _ _ (fun e=>hk (by simp[e]))⟩
set_option maxHeartbeats 1000000 in
theorem wpList_copy {α:Type}{w:World}{ops:Array Oper}{rest:List Oper}{o:Oper}{a:Act}{Q:Exit->Act->World->Prop}(hgd:o.guard=none)(s x:Operand)(t:TypeId)
  (ho:o.op=.call { callee:=.builtin .append,args:=#[s,x],argTypes:=#[t,t] })
  (B:Nat) (e:TypeId) (i:TypeInfo) (z:Value) (size bytes:Nat) (ht:Tryz.prog.underlying t=some (.slice e)) (hi:Tryz.prog.info? e=some i) (hz:i.zero=some z) (hsize:i.size=size) (hby:i.bytes=bytes) (hzs:z.cells.size=size) (hsz:0 < size)
  (hs:a.eval s=.slice none 0 0) (enc:α->List Value) (henc:∀ x,(enc x).length=size) (h1:∀ x,∀ u∈enc x,u.oneCell'=true) (v:Value) (xs:List α) (hx:a.eval x=v) (hv:SlAt enc size w v xs) (hm:xs.length<=1000000) (hbb:bytes<=1000) (hB:B<=w.heap.size)
  (h:∀ sa' cap' w',SlOwn enc size e B w' (.slice sa' xs.length cap') xs->Below w.heap.size w w'->wpList Tryz.prog ops Q rest (a.put o.dst (.slice sa' xs.length cap')) w'):wpList Tryz.prog ops Q (o :: rest) a w:=by
 obtain⟨sa,cap,rfl,hle,hcell⟩:=hv
 by_cases hne:xs=[]
 ·subst hne
  refine wpList_plain hgd fun K hK=>?_
  have hsrc:Src Tryz.prog i.size t (.slice sa 0 cap) 0 [] w:=by
   cases sa with
   | none=>exact Src.ofNil w ht cap
   | some ad=>exact Src.ofSlice w ht ad 0 cap [] (by simp) (fun j u hu=>by simp at hu) (fun u hu=>by simp at hu)
  have hr:=run_append_nothing (P:=Tryz.prog) w t t o.type e i ht hi none 0 0 (Nat.le_refl _) (.slice sa 0 cap) hsrc;unfold Oper.wp execOp;simp only[List.length_nil] at hx;simp only[ho,resolve,invoke,builtin,Sem.run_bind,Sem.run_pure,Result.andThen_ok,List.map_toArray,List.map_cons,List.map_nil,hs,hx,hr];exact hK _ _ (h none 0 w (World.ownsRow_nil _ _ _ _) (Below.refl _ _))
 ·obtain⟨b,of,rfl,hc⟩:=hcell hne
  refine wpList_append_own w hgd s x t ho w.heap.size e i z size bytes ht hi hz hsize hby hzs hsz (.slice none 0 0) 0 [] hs (World.ownsRow_nil _ _ _ _) ⟨b,of,none⟩ xs.length cap (xs.flatMap enc) hx (flat_len henc xs) (fun j u hu=>?_) (fun u hu=>?_) (by unfold maxLen;omega) ?_ (Nat.le_refl _) (fun v' w' hown hg hn=>?_)
  ·obtain⟨i',j',y,e1,h2,h3⟩:=flat_of henc xs j u hu;have:=hc i' y h2 j' u h3;rw[e1,addC_plain,<- Nat.add_assoc];exact this
  ·simp only[List.mem_flatMap] at hu;obtain⟨y,-,hy⟩:=hu;exact h1 y u hy
  ·have:(0+xs.length)*bytes<=1000000*1000:=Nat.mul_le_mul (by omega) hbb;omega
  ·have hown':w'.ownsRow w.heap.size e size v' xs.length (xs.flatMap enc):=by simpa using hown
   have hb:Below w.heap.size w w':=(Below.refl _ _).grown hg (Nat.le_refl _) (fun k hk=>by simp[Value.ownBlock] at hk)
   rcases hown'.2 with ⟨rfl,h0⟩ | ⟨g,cap2,cur,rfl,hB2,r⟩
   ·exact absurd (List.eq_nil_of_length_eq_zero h0) hne
   ·exact h _ _ w' ⟨hown'.1,Or.inr ⟨g,cap2,cur,rfl,Nat.le_trans hB hB2,r⟩⟩ hb
theorem Tryz.infoOwnp:(Tryz.prog.info? 9).map (fun i=>(i.zero,i.size,i.bytes))=some (some (.string ⟨#[]⟩),1,16):=by kernel_rfl
theorem Tryz.infoOwng:(Tryz.prog.info? 96).map (fun i=>(i.zero,i.size,i.bytes))=some (some (.agg #[.int .i64 0,.int .i64 0,.int .i64 0,.int .i64 0]),4,32):=by kernel_rfl
theorem Tryz.infoOwne:(Tryz.prog.info? 97).map (fun i=>(i.zero,i.size,i.bytes))=some (some (.agg #[.int .i64 0,.int .i64 0]),2,16):=by kernel_rfl
theorem Tryz.infoOwnf:(Tryz.prog.info? 3).map (fun i=>(i.zero,i.size,i.bytes))=some (some (.int .i64 0),1,8):=by kernel_rfl
theorem encS_one:∀ (x:ByteArray),∀ u∈encS x,u.oneCell'=true:=by intro x u hu;simp[encS] at hu;subst hu;rfl
theorem encI_one:∀ (x:Int),∀ u∈encI x,u.oneCell'=true:=by intro x u hu;simp[encI] at hu;subst hu;rfl
theorem encP_one:∀ (x:Int × Int),∀ u∈encP x,u.oneCell'=true:=by intro x u hu;simp[encP] at hu;rcases hu with rfl | rfl <;> rfl
theorem encG_one:∀ (x:GapD),∀ u∈encG x,u.oneCell'=true:=by intro x u hu;simp[encG] at hu;rcases hu with rfl | rfl | rfl | rfl <;> rfl
structure OwnParts (B:Nat)(w:World)(e:EntD)(pv gv ev fv lv:Value):Prop where
 hp:SlOwn encS 1 9 B w pv e.pts
 hg:SlOwn encG 4 96 B w gv e.gaps
 he:SlOwn encP 2 97 B w ev e.edges
 hf:SlOwn encI 1 3 B w fv e.first
 hl:SlOwn encI 1 3 B w lv e.last
theorem OwnParts.parts {B:Nat}{w:World}{e:EntD}{pv gv ev fv lv:Value}(h:OwnParts B w e pv gv ev fv lv):EntParts w e pv gv ev fv lv:=
 ⟨h.hp.slat (fun _=>rfl),h.hg.slat (fun _=>rfl),h.he.slat (fun _=>rfl),h.hf.slat (fun _=>rfl),h.hl.slat (fun _=>rfl)⟩
theorem OwnParts.below {B:Nat}{w w':World}{e:EntD}{pv gv ev fv lv:Value}(h:OwnParts B w e pv gv ev fv lv)(hb:Below w.heap.size w w'):OwnParts B w' e pv gv ev fv lv:=
 ⟨h.hp.below hb,h.hg.below hb,h.he.below hb,h.hf.below hb,h.hl.below hb⟩
theorem grown_setRow (w:World)(g:Nat)(cs:Array Value):w.grownBy (w.setRow g cs) (some g):=
 ⟨rfl,rfl,rfl,by simp[World.setRow],fun k _ hk=>by
  have hne:¬g=k:=fun e=>hk (by rw[e])
  simp[World.setRow,Array.getElem?_modify,hne]⟩
theorem heap_setRow {w:World}{g:Nat}{old:Array Value}{t:TypeId}{fr:Nat × Nat}(cs:Array Value)(h:w.heap[g]?=some (.cells old t fr)):(w.setRow g cs).heap[g]?=some (.cells cs t fr):=by simp[World.setRow,Array.getElem?_modify,h]
theorem Tryz.sizeEnt:(Tryz.prog.info? 83).map (·.size)=some 10:=by kernel_rfl
theorem ce_at (w:World)(cs:List Value)(T:TypeId):∀ (j:Nat) u,cs[j]?=some u->(w.alloc (.cells cs.toArray T)).cell? ((⟨w.heap.size,0,none⟩:Addr).add j)=some u:=by
 intro j u hu;rw[addC_plain,World.cell?_alloc_at _ _ _ _ rfl];simpa using hu
theorem ow_ne {w:World}{B k n:Nat}{T T':TypeId}{v:Value}{xs:List Value}(h:w.ownsRow B T k v n xs){b:Nat}{c:Array Value}{fr:Nat × Nat}(hb:w.heap[b]?=some (.cells c T' fr))(hT:T'≠T):v.ownBlock≠some b:=by
 rcases h.2 with ⟨rfl,_⟩ | ⟨g,cap,cur,rfl,_,hg',_⟩
 ·simp[Value.ownBlock]
 ·intro e;simp only[Value.ownBlock,Option.some.injEq] at e;subst e;rw[hg'] at hb;simp only[Option.some.injEq,Obj.cells.injEq] at hb;exact absurd hb.2.1.symm hT
theorem SlOwnR.below {w w':World}{B k n:Nat}{T:TypeId}{v:Value}{xs:List Value}(h:w.ownsRow B T k v n xs)(hb:Below w.heap.size w w'):w'.ownsRow B T k v n xs:=
 h.kept (row:=none) ⟨hb.os,hb.tape,hb.output,hb.size,fun k hk _=>hb.block k hk⟩ (by by_cases e:v.ownBlock=none;exact Or.inl e;exact Or.inr e)
theorem ow_form {w:World}{B k n:Nat}{T:TypeId}{v:Value}{xs:List Value}(h:w.ownsRow B T k v n xs):∃ sa c,v=.slice sa n c:=by
 rcases h.2 with ⟨rfl,rfl⟩ | ⟨g,cap,cur,rfl,_⟩
 ·exact⟨_,_,rfl⟩
 ·exact⟨_,_,rfl⟩
end Go.Proofs.YtffpcbdlbcjihadGreatDoor
namespace Go.Proofs.YtffpcbdlbcjihadGreatDoor
open Go.RowKit Go.Extern.Stop Go.Stop Go.Extern
def encW (x:WG):List Value:=[.int .i64 x.g.fr,.int .i64 x.g.to,.int .i64 x.g.mn,.int .i64 x.g.mx,.int .i64 x.t]
theorem encW_len (x:WG):(encW x).length=5:=rfl
theorem encW_one:∀ (x:WG),∀ u∈encW x,u.oneCell'=true:=by intro x u hu;simp[encW] at hu;rcases hu with rfl | rfl | rfl | rfl | rfl <;> rfl
def WgAt (B b:Nat)(w:World)(sa:Option Addr)(xs:List WG):Prop:=
 xs≠[]->∃ g o,sa=some ⟨g,o,none⟩/\g≠b/\B<=g/\(∀ i x,xs[i]?=some x->∀ j u,(encW x)[j]?=some u->w.cell? ⟨g,o+i*5+j,none⟩=some u)/\∃ cur,w.heap[g]?=some (.cells cur 347 (0,0))
structure GpAt (B:Nat)(w:World)(b:Nat)(sa:Option Addr)(cap:Nat)(s:GSt):Prop where
 heap:w.heap[b]?=some (.cells #[.slice sa s.xs.length cap,.bool s.bad] 345 (0,0))
 sl:WgAt B b w sa s.xs
 lo:B<=b
 fit:s.fit
def GpIn (w0 w:World)(b:Nat)(s:GSt):Prop:=Below w0.heap.size w0 w/\∃ sa cap,GpAt w0.heap.size w b sa cap s
variable {B b cap:Nat}{w0 w w':World}{sa:Option Addr}{s:GSt}{xs:List WG}
theorem GpAt.setBad (h:GpAt B w b sa cap s)(v:Bool):GpAt B (w.setCell ⟨b,1,none⟩ (.bool v)) b sa cap ⟨s.xs,v⟩:=by
 refine⟨?_,fun hne=>?_,h.lo,h.fit⟩
 ·simp only[World.setCell,Array.getElem?_modify,h.heap];simp
 ·obtain⟨g,o,e,h1,h2,hc,cur,hf⟩:=h.sl hne
  refine⟨g,o,e,h1,h2,fun i x hx j u hu=>(World.cell?_setCell_other _ _ _ _ (fun e=>h1 (congrArg Addr.block e).symm)).trans (hc i x hx j u hu),cur,?_⟩;simp only[World.setCell,Array.getElem?_modify];rw[if_neg (fun e=>h1 e.symm)];exact hf
theorem GpAt.setTick {g o k:Nat}{x:WG}{t:Int}(h:GpAt B w b (some ⟨g,o,none⟩) cap s)(hx:s.xs[k]?=some x)(ht:-1<=t/\t<=1099511627776):GpAt B (w.setCell ⟨g,o+k*5+4,none⟩ (.int .i64 t)) b (some ⟨g,o,none⟩) cap ⟨s.xs.set k ⟨x.g,t⟩,s.bad⟩:=by
 have hne:s.xs≠[]:=fun e=>by rw[e] at hx;simp at hx
 obtain⟨g',o',e,h1,h2,hc,cur,hf⟩:=h.sl hne;obtain⟨rfl,rfl⟩:g=g'/\o=o':=by simpa using e
 refine⟨?_,fun _=>⟨g,o,rfl,h1,h2,fun i y hy j u hu=>?_,cur.setIfInBounds (o+k*5+4) (.int .i64 t),?_⟩,h.lo,fun y hy=>?_⟩
 ·simp only[World.setCell,Array.getElem?_modify];rw[if_neg h1,List.length_set];exact h.heap
 ·simp only[List.getElem?_set] at hy
  split at hy
  ·rename_i e1;subst e1
   split at hy
   ·cases hy
    have hj:j < 5:=by
     rcases Nat.lt_or_ge j 5 with h' | h'
     ·exact h'
     ·rw[List.getElem?_eq_none (by rw[encW_len];exact h')] at hu;cases hu
    by_cases e4:j=4
    ·subst e4;have:u=.int .i64 t:=by simpa[encW] using hu.symm
     subst this;exact World.cell?_setCell_same _ _ _ (hc k x hx 4 _ rfl)
    ·rw[World.cell?_setCell_other _ _ _ _ (by intro e;simp only[Addr.mk.injEq] at e;omega)]
     refine hc k x hx j u ?_
     match j,hj,e4 with
     | 0,_,_=>exact hu
     | 1,_,_=>exact hu
     | 2,_,_=>exact hu
     | 3,_,_=>exact hu
     | 4,_,h4=>exact absurd rfl h4
   ·cases hy
  ·rename_i e1;have hj:j < 5:=by
    rcases Nat.lt_or_ge j 5 with h' | h'
    ·exact h'
    ·rw[List.getElem?_eq_none (by rw[encW_len];exact h')] at hu;cases hu
   rw[World.cell?_setCell_other _ _ _ _ (by intro e;simp only[Addr.mk.injEq] at e;omega)];exact hc i y hy j u hu
 ·simp[World.setCell,Array.getElem?_modify,hf]
 ·rcases List.mem_or_eq_of_mem_set hy with h' | rfl
  ·exact h.fit y h'
  ·exact ht
theorem GpAt.c0 (h:GpAt B w b sa cap s):w.cell? ⟨b,0,none⟩=some (.slice sa s.xs.length cap):=by simp[World.cell?,h.heap]
theorem GpAt.c1 (h:GpAt B w b sa cap s):w.cell? ⟨b,1,none⟩=some (.bool s.bad):=by simp[World.cell?,h.heap]
theorem GpAt.f1 (h:GpAt B w b sa cap s):w.frozen? ⟨b,1,none⟩=false:=by simp[World.frozen?,h.heap]
def OneW (w:World)(g o:Nat)(x:WG):Prop:=∀ j u,(encW x)[j]?=some u->w.cell? ⟨g,o+j,none⟩=some u
set_option maxHeartbeats 1000000 in
set_option maxRecDepth 100000 in
theorem bears_at {g o:Nat}{x:WG}{tick:Int}(h:OneW w g o x)(hx:-1<=x.t/\x.t<=1099511627776)(ht:0<=tick/\tick<=1099511627776) :
  Calls Tryz.prog 305 #[.pointer (some ⟨g,o,none⟩),.int .i64 tick] w fun e w'=>e=.returned (.bool (x.bears tick))/\w'=w:=by
 have c2:=h 2 _ rfl;have c3:=h 3 _ rfl;have c4:=h 4 _ rfl;obtain⟨hx0,hx1⟩:=hx;obtain⟨ht0,ht1⟩:=ht;clear h
 by_cases g0:x.t=-1
 ·have HR:Hid (x.bears tick=false):=by show _=_;unfold WG.bears;rw[g0];rfl
  rw[g0] at c4;clear hx0 hx1 c2 c3;go_enter Tryz.func305,Tryz.ntmps305
  go_wp2;go_ret;exact⟨by rw[HR.out];first | rfl | (show Ending.returned (Value.bool (x.t != -1))=_;simp[g0]),rfl⟩
 by_cases g1:x.g.mn<=tick - x.t
 ·by_cases g2:tick - x.t<=x.g.mx
  ·have HR:Hid (x.bears tick=true):=by show _=_;unfold WG.bears;simp[g0,g1,g2]
   go_enter Tryz.func305,Tryz.ntmps305
   go_wp2;go_ret;exact⟨by rw[HR.out];first | rfl | (show Ending.returned (Value.bool (x.t != -1))=_;simp[g0]),rfl⟩
  ·have HR:Hid (x.bears tick=false):=by show _=_;unfold WG.bears;simp[g0,g1,g2]
   go_enter Tryz.func305,Tryz.ntmps305
   go_wp2;go_ret;exact⟨by rw[HR.out];first | rfl | (show Ending.returned (Value.bool (x.t != -1))=_;simp[g0]),rfl⟩
 ·have HR:Hid (x.bears tick=false):=by show _=_;unfold WG.bears;simp[g0,g1]
  go_enter Tryz.func305,Tryz.ntmps305
  go_wp2;go_ret;exact⟨by rw[HR.out];first | rfl | (show Ending.returned (Value.bool (x.t != -1))=_;simp[g0]),rfl⟩
end Go.Proofs.YtffpcbdlbcjihadGreatDoor
namespace Go.Proofs.YtffpcbdlbcjihadGreatDoor
open Go.RowKit Go.Extern.Stop Go.Stop Go.Extern
variable {B b cap:Nat}{w0 w w':World}{sa:Option Addr}{s:GSt}{xs:List WG}
set_option maxHeartbeats 1000000 in
set_option maxRecDepth 100000 in
theorem gap_report {g o:Nat}{x:WG}{p tick:Int}(h:OneW w g o x)(hf:w.frozen? ⟨g,o+4,none⟩=false)(hx:-1<=x.t/\x.t<=1099511627776)(ht:0<=tick/\tick<=1099511627776) :
  Calls Tryz.prog 272 #[.pointer (some ⟨g,o,none⟩),.int .i64 p,.int .i64 tick] w fun e w'=>e=.returned (.bool (x.bad p tick))/\w'=if p=x.g.fr then w.setCell ⟨g,o+4,none⟩ (.int .i64 tick) else w:=by
 have HO:Hid (OneW w g o x):=h;have HX:Hid (-1<=x.t/\x.t<=1099511627776):=hx;have HT:Hid (0<=tick/\tick<=1099511627776):=ht;have c0:=h 0 _ rfl;have c1:=h 1 _ rfl;have c4:=h 4 _ rfl;simp only[Nat.add_zero] at c0;clear h hx ht
 by_cases g1:p=x.g.to
 ·by_cases g0:p=x.g.fr
  ·rw[if_pos g0];have HR:Hid (x.bad p tick=!x.bears tick):=by show _=_;unfold WG.bad;rw[decide_eq_true g1];rfl
   rw[<- g1] at c1;rw[<- g0] at c0;clear g0 g1;go_enter Tryz.func272,Tryz.ntmps272
   go_wp2_with fail
   refine(bears_at HO.out HX.out HT.out).mono ?_;rintro v w1 ⟨rfl,rfl⟩;go_wp2;go_ret;exact⟨by rw[HR.out];rfl,rfl⟩
  ·rw[if_neg g0];have HR:Hid (x.bad p tick=!x.bears tick):=by show _=_;unfold WG.bad;rw[decide_eq_true g1];rfl
   rw[<- g1] at c1;clear g1;go_enter Tryz.func272,Tryz.ntmps272
   go_wp2_with fail
   refine(bears_at HO.out HX.out HT.out).mono ?_;rintro v w1 ⟨rfl,rfl⟩;go_wp2;go_ret;exact⟨by rw[HR.out];rfl,rfl⟩
 ·have HR:Hid (x.bad p tick=false):=by show _=_;unfold WG.bad;rw[decide_eq_false g1];rfl
  by_cases g0:p=x.g.fr
  ·rw[if_pos g0];rw[<- g0] at c0;clear g0;go_enter Tryz.func272,Tryz.ntmps272
   go_wp2;go_ret;exact⟨by rw[HR.out];rfl,rfl⟩
  ·rw[if_neg g0];go_enter Tryz.func272,Tryz.ntmps272
   go_wp2;go_ret;exact⟨by rw[HR.out];rfl,rfl⟩
theorem set_same {α:Type}{l:List α}{k:Nat}{x:α}(h:l[k]?=some x):l.set k x=l:=by
 apply List.ext_getElem?
 intro i;rw[List.getElem?_set]
 split
 ·rename_i e;subst e
  split
  ·exact h.symm
  ·rename_i hk;rw[List.getElem?_eq_none (by omega)] at h
   cases h
 ·rfl
theorem GpAt.round {g o k:Nat}{x:WG}{p tick:Int}(h:GpAt B w b (some ⟨g,o,none⟩) cap s)(hx:s.xs[k]?=some x)(ht:0<=tick/\tick<=1099511627776) :
  GpAt B (if p=x.g.fr then w.setCell ⟨g,o+k*5+4,none⟩ (.int .i64 tick) else w) b (some ⟨g,o,none⟩) cap ⟨s.xs.set k (x.rep p tick),s.bad⟩:=by
 unfold WG.rep
 split
 ·exact h.setTick hx ⟨by omega,ht.2⟩
 ·rw[set_same hx];exact h
end Go.Proofs.YtffpcbdlbcjihadGreatDoor
