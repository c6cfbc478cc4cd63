/-
  Several texts as one: DcFault, KlBase, PlPure, KeCut, LcRep2.
-/
import Derived.Test.YtdpdbfhbojgigacGreatDoorC29S
import Derived.Test.YtdpdbfhbojgigacGreatDoorC24S
import Derived.Test.YtdpdbfhbojgigacGreatDoorC26S
import Derived.OwnWalk
namespace Go.Proofs.YtdpdbfhbojgigacGreatDoor
open Go.RowKit Go.Extern.Stop Go.Stop Go.Extern
theorem Tryz.sizeFlt:(Tryz.prog.info? 29).map (·.size)=some 2:=by kernel_rfl
theorem bare_at (n:Int)(w:World):Calls Tryz.prog 38 #[.int .i64 n] w fun v w'=>v=.returned (.agg #[.int .i64 n,.int .i64 (-1)])/\Below w.heap.size w w':=by
 go_enter Tryz.func38,Tryz.ntmps38
 go_wp2_with fail
 refine bodyPost_ret (results_cell_row rfl _ _ w.heap.size _ _ _ _ rfl (heap_alloc_new w _) Tryz.underlying29 rfl Tryz.sizeFlt) rfl ?_;exact⟨rfl,Below.one _ _⟩
theorem fine_at (w:World):Calls Tryz.prog 52 #[] w fun v w'=>v=.returned (.agg #[.int .i64 0,.int .i64 (-1)])/\Below w.heap.size w w':=by
 go_enter Tryz.func52,Tryz.ntmps52
 go_wp2_with fail
 refine bodyPost_ret (results_cell_row rfl _ _ w.heap.size _ _ _ _ rfl (heap_alloc_new w _) Tryz.underlying29 rfl Tryz.sizeFlt) rfl ?_;exact⟨rfl,Below.one _ _⟩
theorem whole_bad {c:CfgD}{n:Nat}(hn:n≠0)(h:wholeErr c=n):cfgErr c=(n,-1):=by unfold cfgErr;rw[if_neg (by rw[h];exact hn),h]
theorem whole_ok {c:CfgD}(h:wholeErr c=0):cfgErr c=entsErr [] 0 c.ents:=by unfold cfgErr;rw[if_pos h]
theorem ents_stop {a:List ByteArray}{k:Nat}{e:EntD}{t:List EntD}(h:entErr a e≠0):entsErr a k (e :: t)=(entErr a e,(k:Int)):=by rw[entsErr,if_neg h]
theorem ents_go {a:List ByteArray}{k:Nat}{e:EntD}{t:List EntD}(h:entErr a e=0):entsErr a k (e :: t)=entsErr (a++[e.name]) (k+1) t:=by rw[entsErr,if_pos h]
set_option maxHeartbeats 8000000 in
set_option maxRecDepth 100000 in
theorem cfault_at (c:CfgD)(sa:Option Addr)(sc:Nat)(w:World)(hE:EntsAt w (.slice sa c.ents.length sc) c.ents)(hS:SmallC c) :
  Calls Tryz.prog 12 #[.agg #[.int .i64 c.closed,.int .i64 c.opn,.int .i64 c.cycle,.int .i64 c.delay,.slice sa c.ents.length sc]] w fun v w'=>v=.returned (.agg #[.int .i64 ((cfgErr c).1:Int),.int .i64 (cfgErr c).2])/\Below w.heap.size w w':=by
 obtain⟨W,hW⟩:∃ V,V=(w.alloc (.cells #[.int .i64 c.closed,.int .i64 c.opn,.int .i64 c.cycle,.int .i64 c.delay,.slice sa c.ents.length sc] 24)).alloc (.cells #[.int .i64 0,.int .i64 0] 29):=⟨_,rfl⟩;have HBW:Hid (Below w.heap.size w W):=by show Below _ _ _;rw[hW];exact(Below.one _ _).alloc (by simp) _
 have HX:Hid (∀ V,Below W.heap.size W V->∀ (j:Nat) u,(#[.int .i64 c.closed,.int .i64 c.opn,.int .i64 c.cycle,.int .i64 c.delay,.slice sa c.ents.length sc]:Array Value)[j]?=some u->V.cell? ⟨w.heap.size,j,none⟩=some u):=fun V hV j u hu=>by
  have:=row_below hV (show W.heap[w.heap.size]?=_ by rw[hW];exact row_below (Below.one _ _) (heap_alloc_new w _));simp[World.cell?,this,hu]
 have HRr:Hid (∀ V,Below W.heap.size W V->V.heap[w.heap.size+1]?=some (.cells #[.int .i64 0,.int .i64 0] 29 (0,0))):=fun V hV=>row_below hV (by rw[hW];have:=heap_alloc_new (w.alloc (.cells #[.int .i64 c.closed,.int .i64 c.opn,.int .i64 c.cycle,.int .i64 c.delay,.slice sa c.ents.length sc] 24)) (.cells #[.int .i64 0,.int .i64 0] 29);simpa using this)
 have HFin:Hid (∀ V cs,Below W.heap.size W V->Below w.heap.size w (V.setRow (w.heap.size+1) cs)):=fun V cs hV=>by
  have b1:=HBW.out.trans (hV.mono HBW.out.size);exact b1.grown (grown_setRow _ _ _) b1.size (fun j hj=>by cases hj;omega)
 have HEn:Hid (∀ V,Below W.heap.size W V->EntsAt V (.slice sa c.ents.length sc) c.ents):=fun V hV=>hE.below (HBW.out.trans (hV.mono HBW.out.size))
 have HSm:Hid (SmallC c):=hS;have HB:Hid (Below W.heap.size W W):=Below.refl _ _;have y0:=HX.out W (Below.refl _ _) 0 _ rfl;have y1:=HX.out W (Below.refl _ _) 1 _ rfl;have y2:=HX.out W (Below.refl _ _) 2 _ rfl;have y3:=HX.out W (Below.refl _ _) 3 _ rfl;have y4:=HX.out W (Below.refl _ _) 4 _ rfl;clear hE hS;go_enter Tryz.func12,Tryz.ntmps12
 go_upto_region 1 with fail
 rw[<- hW];clear hW
 by_cases t1:c.closed < 0
 ·have HE:Hid (cfgErr c=(2,-1)):=whole_bad (by decide) (by unfold wholeErr;have q0:(!(within c.closed 0 1000 && within c.opn 1 1000))=true:=(by unfold within;rw[decide_eq_false (p:=0<=c.closed) (by omega)];rfl);simp only[firstOf,q0];rfl);go_wp2_with fail
  refine(bare_at 2 _).mono ?_;rintro v w1 ⟨rfl,hb1⟩;have HB1:Hid (Below W.heap.size W w1):=HB.out.trans (hb1.mono HB.out.size);clear hb1;go_wp2_with (refine wpList_store_row rfl 29 _ _ rfl (w.heap.size+1) #[.int .i64 2,.int .i64 (-1)] rfl rfl 29 #[.int .i64 0,.int .i64 0] (HRr.out _ HB1.out) Tryz.sizeFlt rfl (by simp[Value.oneCell']) ?_)
  refine bodyPost_ret (results_cell_row rfl _ _ (w.heap.size+1) _ _ _ _ rfl (heap_setRow _ (HRr.out _ HB1.out)) Tryz.underlying29 rfl Tryz.sizeFlt) rfl ?_;exact⟨by rw[HE.out];rfl,HFin.out _ _ HB1.out⟩
 by_cases t2:1000 < c.closed
 ·have HE:Hid (cfgErr c=(2,-1)):=whole_bad (by decide) (by unfold wholeErr;have q0:(!(within c.closed 0 1000 && within c.opn 1 1000))=true:=(by unfold within;rw[decide_eq_false (p:=c.closed<=1000) (by omega)];simp);simp only[firstOf,q0];rfl);go_wp2_with fail
  refine(bare_at 2 _).mono ?_;rintro v w1 ⟨rfl,hb1⟩;have HB1:Hid (Below W.heap.size W w1):=HB.out.trans (hb1.mono HB.out.size);clear hb1;go_wp2_with (refine wpList_store_row rfl 29 _ _ rfl (w.heap.size+1) #[.int .i64 2,.int .i64 (-1)] rfl rfl 29 #[.int .i64 0,.int .i64 0] (HRr.out _ HB1.out) Tryz.sizeFlt rfl (by simp[Value.oneCell']) ?_)
  refine bodyPost_ret (results_cell_row rfl _ _ (w.heap.size+1) _ _ _ _ rfl (heap_setRow _ (HRr.out _ HB1.out)) Tryz.underlying29 rfl Tryz.sizeFlt) rfl ?_;exact⟨by rw[HE.out];rfl,HFin.out _ _ HB1.out⟩
 by_cases t3:c.opn < 1
 ·have HE:Hid (cfgErr c=(2,-1)):=whole_bad (by decide) (by unfold wholeErr;have q0:(!(within c.closed 0 1000 && within c.opn 1 1000))=true:=(by unfold within;rw[decide_eq_false (p:=1<=c.opn) (by omega)];simp);simp only[firstOf,q0];rfl);go_wp2_with fail
  refine(bare_at 2 _).mono ?_;rintro v w1 ⟨rfl,hb1⟩;have HB1:Hid (Below W.heap.size W w1):=HB.out.trans (hb1.mono HB.out.size);clear hb1;go_wp2_with (refine wpList_store_row rfl 29 _ _ rfl (w.heap.size+1) #[.int .i64 2,.int .i64 (-1)] rfl rfl 29 #[.int .i64 0,.int .i64 0] (HRr.out _ HB1.out) Tryz.sizeFlt rfl (by simp[Value.oneCell']) ?_)
  refine bodyPost_ret (results_cell_row rfl _ _ (w.heap.size+1) _ _ _ _ rfl (heap_setRow _ (HRr.out _ HB1.out)) Tryz.underlying29 rfl Tryz.sizeFlt) rfl ?_;exact⟨by rw[HE.out];rfl,HFin.out _ _ HB1.out⟩
 by_cases t4:1000 < c.opn
 ·have HE:Hid (cfgErr c=(2,-1)):=whole_bad (by decide) (by unfold wholeErr;have q0:(!(within c.closed 0 1000 && within c.opn 1 1000))=true:=(by unfold within;rw[decide_eq_false (p:=c.opn<=1000) (by omega)];simp);simp only[firstOf,q0];rfl);go_wp2_with fail
  refine(bare_at 2 _).mono ?_;rintro v w1 ⟨rfl,hb1⟩;have HB1:Hid (Below W.heap.size W w1):=HB.out.trans (hb1.mono HB.out.size);clear hb1;go_wp2_with (refine wpList_store_row rfl 29 _ _ rfl (w.heap.size+1) #[.int .i64 2,.int .i64 (-1)] rfl rfl 29 #[.int .i64 0,.int .i64 0] (HRr.out _ HB1.out) Tryz.sizeFlt rfl (by simp[Value.oneCell']) ?_)
  refine bodyPost_ret (results_cell_row rfl _ _ (w.heap.size+1) _ _ _ _ rfl (heap_setRow _ (HRr.out _ HB1.out)) Tryz.underlying29 rfl Tryz.sizeFlt) rfl ?_;exact⟨by rw[HE.out];rfl,HFin.out _ _ HB1.out⟩
 by_cases t5:c.cycle < 1
 ·have HE:Hid (cfgErr c=(2,-1)):=whole_bad (by decide) (by unfold wholeErr;have q0:(!(within c.closed 0 1000 && within c.opn 1 1000))=false:=(by unfold within;rw[decide_eq_true (p:=0<=c.closed) (by omega),decide_eq_true (p:=c.closed<=1000) (by omega),decide_eq_true (p:=1<=c.opn) (by omega),decide_eq_true (p:=c.opn<=1000) (by omega)];rfl);have q1:(!within c.cycle 1 100)=true:=(by unfold within;first | (rw[decide_eq_false (p:=1<=c.cycle) (by omega)];rfl) | (rw[decide_eq_false (p:=c.cycle<=100) (by omega)];simp));simp only[firstOf,q0,q1];rfl);go_wp2_with fail
  refine(bare_at 2 _).mono ?_;rintro v w1 ⟨rfl,hb1⟩;have HB1:Hid (Below W.heap.size W w1):=HB.out.trans (hb1.mono HB.out.size);clear hb1;go_wp2_with (refine wpList_store_row rfl 29 _ _ rfl (w.heap.size+1) #[.int .i64 2,.int .i64 (-1)] rfl rfl 29 #[.int .i64 0,.int .i64 0] (HRr.out _ HB1.out) Tryz.sizeFlt rfl (by simp[Value.oneCell']) ?_)
  refine bodyPost_ret (results_cell_row rfl _ _ (w.heap.size+1) _ _ _ _ rfl (heap_setRow _ (HRr.out _ HB1.out)) Tryz.underlying29 rfl Tryz.sizeFlt) rfl ?_;exact⟨by rw[HE.out];rfl,HFin.out _ _ HB1.out⟩
 by_cases t6:100 < c.cycle
 ·have HE:Hid (cfgErr c=(2,-1)):=whole_bad (by decide) (by unfold wholeErr;have q0:(!(within c.closed 0 1000 && within c.opn 1 1000))=false:=(by unfold within;rw[decide_eq_true (p:=0<=c.closed) (by omega),decide_eq_true (p:=c.closed<=1000) (by omega),decide_eq_true (p:=1<=c.opn) (by omega),decide_eq_true (p:=c.opn<=1000) (by omega)];rfl);have q1:(!within c.cycle 1 100)=true:=(by unfold within;first | (rw[decide_eq_false (p:=1<=c.cycle) (by omega)];rfl) | (rw[decide_eq_false (p:=c.cycle<=100) (by omega)];simp));simp only[firstOf,q0,q1];rfl);go_wp2_with fail
  refine(bare_at 2 _).mono ?_;rintro v w1 ⟨rfl,hb1⟩;have HB1:Hid (Below W.heap.size W w1):=HB.out.trans (hb1.mono HB.out.size);clear hb1;go_wp2_with (refine wpList_store_row rfl 29 _ _ rfl (w.heap.size+1) #[.int .i64 2,.int .i64 (-1)] rfl rfl 29 #[.int .i64 0,.int .i64 0] (HRr.out _ HB1.out) Tryz.sizeFlt rfl (by simp[Value.oneCell']) ?_)
  refine bodyPost_ret (results_cell_row rfl _ _ (w.heap.size+1) _ _ _ _ rfl (heap_setRow _ (HRr.out _ HB1.out)) Tryz.underlying29 rfl Tryz.sizeFlt) rfl ?_;exact⟨by rw[HE.out];rfl,HFin.out _ _ HB1.out⟩
 by_cases t7:c.delay < 0
 ·have HE:Hid (cfgErr c=(2,-1)):=whole_bad (by decide) (by unfold wholeErr;have q0:(!(within c.closed 0 1000 && within c.opn 1 1000))=false:=(by unfold within;rw[decide_eq_true (p:=0<=c.closed) (by omega),decide_eq_true (p:=c.closed<=1000) (by omega),decide_eq_true (p:=1<=c.opn) (by omega),decide_eq_true (p:=c.opn<=1000) (by omega)];rfl);have q1:(!within c.cycle 1 100)=false:=(by unfold within;rw[decide_eq_true (p:=1<=c.cycle) (by omega),decide_eq_true (p:=c.cycle<=100) (by omega)];rfl);have q2:(!within c.delay 0 20)=true:=(by unfold within;first | (rw[decide_eq_false (p:=0<=c.delay) (by omega)];rfl) | (rw[decide_eq_false (p:=c.delay<=20) (by omega)];simp));simp only[firstOf,q0,q1,q2];rfl);go_wp2_with fail
  refine(bare_at 2 _).mono ?_;rintro v w1 ⟨rfl,hb1⟩;have HB1:Hid (Below W.heap.size W w1):=HB.out.trans (hb1.mono HB.out.size);clear hb1;go_wp2_with (refine wpList_store_row rfl 29 _ _ rfl (w.heap.size+1) #[.int .i64 2,.int .i64 (-1)] rfl rfl 29 #[.int .i64 0,.int .i64 0] (HRr.out _ HB1.out) Tryz.sizeFlt rfl (by simp[Value.oneCell']) ?_)
  refine bodyPost_ret (results_cell_row rfl _ _ (w.heap.size+1) _ _ _ _ rfl (heap_setRow _ (HRr.out _ HB1.out)) Tryz.underlying29 rfl Tryz.sizeFlt) rfl ?_;exact⟨by rw[HE.out];rfl,HFin.out _ _ HB1.out⟩
 by_cases t8:20 < c.delay
 ·have HE:Hid (cfgErr c=(2,-1)):=whole_bad (by decide) (by unfold wholeErr;have q0:(!(within c.closed 0 1000 && within c.opn 1 1000))=false:=(by unfold within;rw[decide_eq_true (p:=0<=c.closed) (by omega),decide_eq_true (p:=c.closed<=1000) (by omega),decide_eq_true (p:=1<=c.opn) (by omega),decide_eq_true (p:=c.opn<=1000) (by omega)];rfl);have q1:(!within c.cycle 1 100)=false:=(by unfold within;rw[decide_eq_true (p:=1<=c.cycle) (by omega),decide_eq_true (p:=c.cycle<=100) (by omega)];rfl);have q2:(!within c.delay 0 20)=true:=(by unfold within;first | (rw[decide_eq_false (p:=0<=c.delay) (by omega)];rfl) | (rw[decide_eq_false (p:=c.delay<=20) (by omega)];simp));simp only[firstOf,q0,q1,q2];rfl);go_wp2_with fail
  refine(bare_at 2 _).mono ?_;rintro v w1 ⟨rfl,hb1⟩;have HB1:Hid (Below W.heap.size W w1):=HB.out.trans (hb1.mono HB.out.size);clear hb1;go_wp2_with (refine wpList_store_row rfl 29 _ _ rfl (w.heap.size+1) #[.int .i64 2,.int .i64 (-1)] rfl rfl 29 #[.int .i64 0,.int .i64 0] (HRr.out _ HB1.out) Tryz.sizeFlt rfl (by simp[Value.oneCell']) ?_)
  refine bodyPost_ret (results_cell_row rfl _ _ (w.heap.size+1) _ _ _ _ rfl (heap_setRow _ (HRr.out _ HB1.out)) Tryz.underlying29 rfl Tryz.sizeFlt) rfl ?_;exact⟨by rw[HE.out];rfl,HFin.out _ _ HB1.out⟩
 by_cases t9:8 < (c.ents.length:Int)
 ·have HE:Hid (cfgErr c=(2,-1)):=whole_bad (by decide) (by unfold wholeErr;have q0:(!(within c.closed 0 1000 && within c.opn 1 1000))=false:=(by unfold within;rw[decide_eq_true (p:=0<=c.closed) (by omega),decide_eq_true (p:=c.closed<=1000) (by omega),decide_eq_true (p:=1<=c.opn) (by omega),decide_eq_true (p:=c.opn<=1000) (by omega)];rfl);have q1:(!within c.cycle 1 100)=false:=(by unfold within;rw[decide_eq_true (p:=1<=c.cycle) (by omega),decide_eq_true (p:=c.cycle<=100) (by omega)];rfl);have q2:(!within c.delay 0 20)=false:=(by unfold within;rw[decide_eq_true (p:=0<=c.delay) (by omega),decide_eq_true (p:=c.delay<=20) (by omega)];rfl);have q3:decide (8 < c.ents.length)=true:=decide_eq_true (by omega);simp only[firstOf,q0,q1,q2,q3];rfl);go_wp2_with fail
  refine(bare_at 2 _).mono ?_;rintro v w1 ⟨rfl,hb1⟩;have HB1:Hid (Below W.heap.size W w1):=HB.out.trans (hb1.mono HB.out.size);clear hb1;go_wp2_with (refine wpList_store_row rfl 29 _ _ rfl (w.heap.size+1) #[.int .i64 2,.int .i64 (-1)] rfl rfl 29 #[.int .i64 0,.int .i64 0] (HRr.out _ HB1.out) Tryz.sizeFlt rfl (by simp[Value.oneCell']) ?_)
  refine bodyPost_ret (results_cell_row rfl _ _ (w.heap.size+1) _ _ _ _ rfl (heap_setRow _ (HRr.out _ HB1.out)) Tryz.underlying29 rfl Tryz.sizeFlt) rfl ?_;exact⟨by rw[HE.out];rfl,HFin.out _ _ HB1.out⟩
 by_cases t10:c.opn < c.cycle
 ·have HE:Hid (cfgErr c=(3,-1)):=whole_bad (by decide) (by unfold wholeErr;have q0:(!(within c.closed 0 1000 && within c.opn 1 1000))=false:=(by unfold within;rw[decide_eq_true (p:=0<=c.closed) (by omega),decide_eq_true (p:=c.closed<=1000) (by omega),decide_eq_true (p:=1<=c.opn) (by omega),decide_eq_true (p:=c.opn<=1000) (by omega)];rfl);have q1:(!within c.cycle 1 100)=false:=(by unfold within;rw[decide_eq_true (p:=1<=c.cycle) (by omega),decide_eq_true (p:=c.cycle<=100) (by omega)];rfl);have q2:(!within c.delay 0 20)=false:=(by unfold within;rw[decide_eq_true (p:=0<=c.delay) (by omega),decide_eq_true (p:=c.delay<=20) (by omega)];rfl);have q3:decide (8 < c.ents.length)=false:=decide_eq_false (by omega);have q4:decide (c.opn < c.cycle)=true:=decide_eq_true (by omega);simp only[firstOf,q0,q1,q2,q3,q4];rfl);go_wp2_with fail
  refine(bare_at 3 _).mono ?_;rintro v w1 ⟨rfl,hb1⟩;have HB1:Hid (Below W.heap.size W w1):=HB.out.trans (hb1.mono HB.out.size);clear hb1;go_wp2_with (refine wpList_store_row rfl 29 _ _ rfl (w.heap.size+1) #[.int .i64 3,.int .i64 (-1)] rfl rfl 29 #[.int .i64 0,.int .i64 0] (HRr.out _ HB1.out) Tryz.sizeFlt rfl (by simp[Value.oneCell']) ?_)
  refine bodyPost_ret (results_cell_row rfl _ _ (w.heap.size+1) _ _ _ _ rfl (heap_setRow _ (HRr.out _ HB1.out)) Tryz.underlying29 rfl Tryz.sizeFlt) rfl ?_;exact⟨by rw[HE.out];rfl,HFin.out _ _ HB1.out⟩
 have HW0:Hid (cfgErr c=entsErr [] 0 c.ents):=whole_ok (by
  unfold wholeErr;have q0:(!(within c.closed 0 1000 && within c.opn 1 1000))=false:=(by unfold within;rw[decide_eq_true (p:=0<=c.closed) (by omega),decide_eq_true (p:=c.closed<=1000) (by omega),decide_eq_true (p:=1<=c.opn) (by omega),decide_eq_true (p:=c.opn<=1000) (by omega)];rfl);have q1:(!within c.cycle 1 100)=false:=(by unfold within;rw[decide_eq_true (p:=1<=c.cycle) (by omega),decide_eq_true (p:=c.cycle<=100) (by omega)];rfl);have q2:(!within c.delay 0 20)=false:=(by unfold within;rw[decide_eq_true (p:=0<=c.delay) (by omega),decide_eq_true (p:=c.delay<=20) (by omega)];rfl);have q3:decide (8 < c.ents.length)=false:=decide_eq_false (by omega);have q4:decide (c.opn < c.cycle)=false:=decide_eq_false (by omega);simp only[firstOf,q0,q1,q2,q3,q4];rfl)
 go_upto_region 7 with fail
 clear y0 y1 y2 y3 y4 t1 t2 t3 t4 t5 t6 t7 t8 t9 t10
 go_cut [3] (fun i wv=>i=.int .i64 0/\wv=W)
 case first=>
  go_wp2_with fail
  go_meet
  case rel=>exact⟨rfl,rfl⟩
 obtain⟨rfl,rfl⟩:=hcut;rename World=>W
 go_wp2_with fail
 go_loopw [3,4] (fun iv _ wx=>∃ (k:Nat),k<=c.ents.length/\iv=.int .i64 k/\Below W.heap.size W wx/\cfgErr c=entsErr ((c.ents.take k).map (·.name)) k (c.ents.drop k)) (fun iv _ _=>c.ents.length - (intOf iv).toNat)
 case atStart=>exact⟨0,Nat.zero_le _,rfl,HB.out,by rw[HW0.out];rfl⟩
 case round=>
  clear HB HW0;obtain⟨k,hk,rfl,hbx,hno⟩:=hrel;rename World=>wx
  have HB:Hid (Below W.heap.size W wx):=hbx;have HNo:Hid (cfgErr c=entsErr ((c.ents.take k).map (·.name)) k (c.ents.drop k)):=hno;clear hbx hno;have y4:=HX.out wx HB.out 4 _ rfl
  by_cases hlt:k < c.ents.length
  ·have k1:(k:Int) < (c.ents.length:Int):=by omega
   have k2:k < 1000000:=by have:=HSm.out.hn;omega
   obtain⟨e,he⟩:∃ e,c.ents[k]?=some e:=⟨_,List.getElem?_eq_getElem hlt⟩;have HDr:Hid (c.ents.drop k=e :: c.ents.drop (k+1)):=by
    show _=_
    rw[List.drop_eq_getElem_cons hlt];rw[List.getElem?_eq_getElem hlt] at he
    cases he;rfl
   have HTk:Hid ((c.ents.take (k+1)).map (·.name)=(c.ents.take k).map (·.name)++[e.name]):=by show _=_;rw[List.take_add_one,he];simp
   have HC:Hid _:=entErr_at c.ents sa sc k e wx (HEn.out wx HB.out) he HSm.out.he HSm.out.hn;clear he;go_wp2_with fail
   refine Calls.mono HC.out ?_;rintro v w2 ⟨rfl,hb2⟩;have HB2:Hid (Below W.heap.size W w2):=HB.out.trans (hb2.mono HB.out.size);clear hb2 HC y4;obtain⟨n,hn⟩:∃ n,n=entErr ((c.ents.take k).map (·.name)) e:=⟨_,rfl⟩;rw[<- hn]
   by_cases n0:n=0
   ·have HE:Hid (cfgErr c=entsErr ((c.ents.take (k+1)).map (·.name)) (k+1) (c.ents.drop (k+1))):=by
     show _=_
     rw[HNo.out,HDr.out,ents_go (by rw[<- hn];exact n0),HTk.out]
    subst n0;clear hn;go_wp2_with fail
    go_roundw
    case rel=>exact⟨k+1,by omega,by go_num,HB2.out,HE.out⟩
    case measure=>simp[intOf];omega
   ·have HE:Hid (cfgErr c=(n,(k:Int))):=by
     show _=_
     rw[HNo.out,HDr.out,ents_stop (by rw[<- hn];exact n0),<- hn]
    have n1:(0:Int) < (n:Int):=by omega
    clear hn n0;go_wp2_with (refine wpList_store_row rfl 29 _ _ rfl (w.heap.size+1) #[.int .i64 (n:Int),.int .i64 (k:Int)] rfl rfl 29 #[.int .i64 0,.int .i64 0] (HRr.out _ HB2.out) Tryz.sizeFlt rfl (by simp[Value.oneCell']) ?_)
    refine bodyPost_ret (results_cell_row rfl _ _ (w.heap.size+1) _ _ _ _ rfl (heap_setRow _ (HRr.out _ HB2.out)) Tryz.underlying29 rfl Tryz.sizeFlt) rfl ?_;exact⟨by rw[HE.out],HFin.out _ _ HB2.out⟩
  ·have k1:¬(k:Int) < (c.ents.length:Int):=by omega
   have HE:Hid (cfgErr c=(0,-1)):=by show _=_;rw[HNo.out,List.drop_of_length_le (by omega)];rfl
   go_wp2_with fail
   refine(fine_at _).mono ?_;rintro v w1 ⟨rfl,hb1⟩;have HB1:Hid (Below W.heap.size W w1):=HB.out.trans (hb1.mono HB.out.size);clear hb1;go_wp2_with (refine wpList_store_row rfl 29 _ _ rfl (w.heap.size+1) #[.int .i64 0,.int .i64 (-1)] rfl rfl 29 #[.int .i64 0,.int .i64 0] (HRr.out _ HB1.out) Tryz.sizeFlt rfl (by simp[Value.oneCell']) ?_)
   refine bodyPost_ret (results_cell_row rfl _ _ (w.heap.size+1) _ _ _ _ rfl (heap_setRow _ (HRr.out _ HB1.out)) Tryz.underlying29 rfl Tryz.sizeFlt) rfl ?_;exact⟨by rw[HE.out];rfl,HFin.out _ _ HB1.out⟩
theorem open_new (n:Nat)(h:n<=4096)(h2:153<=n):openL ((CSt.new n).bytes.take (CSt.new n).size)=[]:=by
 rw[openL_take _ (CSt.new n).size h2,(Inv.new n h2 h).opens];rfl
section
variable {A:Nat->Addr}{F:Nat->Prop}{w0 w w':World}{c:CfgD}{kb bc:Nat}{K:KSt}{k W:Nat}
theorem kat_state (h:KeAt F w0 w c kb bc K):Calls Tryz.prog 20 #[.pointer (some ⟨kb,0,none⟩)] w fun e w'=>e=.returned (.string (stateB K.on))/\w'=w:=by
 obtain⟨H,bd,rb,bt,lv,bs,h1,-⟩:=h;exact ke_state h1
theorem kat_now (h:KeAt F w0 w c kb bc K):Calls Tryz.prog 22 #[.pointer (some ⟨kb,0,none⟩)] w fun e w'=>e=.returned (.int .i64 (K.d.now:Int))/\w'=w:=by
 obtain⟨H,bd,rb,bt,lv,bs,h1,-⟩:=h;exact ke_now h1
theorem kat_kicks (h:KeAt F w0 w c kb bc K):Calls Tryz.prog 23 #[.pointer (some ⟨kb,0,none⟩)] w fun e w'=>e=.returned (.int .i64 (K.d.kicks:Int))/\w'=w:=by
 obtain⟨H,bd,rb,bt,lv,bs,h1,-⟩:=h;exact ke_kicks h1
theorem kat_total (h:KeAt F w0 w c kb bc K):Calls Tryz.prog 21 #[.pointer (some ⟨kb,0,none⟩)] w fun e w'=>e=.returned (.string (totB K.t.st))/\w'=w:=by
 obtain⟨H,bd,rb,bt,lv,bs,h1,-⟩:=h;exact ke_total h1
theorem kfit_new (hr:KRt c):KFit c (KSt.new c (CSt.new 4096)) 0 (144*(KSt.new c (CSt.new 4096)).d.now):=by
 show KFit c _ 0 0
 exact KFit.new hr (Inv.new 4096 (by decide) (by decide)).big (Nat.zero_le _) rfl
theorem Quiet.new:Quiet c (KSt.new c (CSt.new 4096)):=by
 refine⟨rfl,fun s hs=>?_,open_new 4096 (by decide) (by decide),rfl,rfl,rfl,?_⟩
 ·have hs':s∈c.ents.map fun _=>LSt.new:=hs
  simp only[List.mem_map] at hs';obtain⟨_,_,rfl⟩:=hs';exact⟨rfl,rfl⟩
 ·show (0,0)=qk _ _ (0 / _)
  rw[Nat.zero_div];rfl
end
end Go.Proofs.YtdpdbfhbojgigacGreatDoor
namespace Go.Proofs.YtdpdbfhbojgigacGreatDoor
open Go
section
variable {c:CfgD}{K:KSt}{k:Nat}
theorem on_le (K:KSt):K.on<=11:=by unfold KSt.on;split;omega;split <;> omega
theorem app_le {K:KSt}(hb:Big K.c)(ho:K.c.off=false)(e kd t:Nat):(K.app e kd t).2<=11:=by
 unfold KSt.app
 split
 ·show 8<=11;omega
 ·split
  ·show 7<=11;omega
  ·split
   ·show 0<=11;omega
   ·exact putRec_err hb ho _
theorem endOne_le {K:KSt}(hb:Big K.c)(ho:K.c.off=false)(i:Nat):(K.endOne c i).2<=11:=by
 unfold KSt.endOne
 split
 ·show 0<=11;omega
 ·split
  ·exact app_le (K:=K.setL i _) hb ho _ _ _
  ·show 0<=11;omega
theorem ends_le {K:KSt}{W:Nat}(h:KFit c K k W)(ho:K.c.off=false)(hi:∀ s∈K.ls,LFit s (k+K.d.now - 1))(h1:1<=K.d.now):∀ n,(K.ends c n).2<=11
 | 0=>by show 0<=11;omega
 | n+1=>by
  show (if (K.ends c n).2=0 then (K.ends c n).1.endOne c n else K.ends c n).2<=11
  obtain⟨a,b,-⟩:=h.ends ho hi h1 n
  split
  ·rename_i h0;exact endOne_le a.big (b h0).1 n
  ·exact ends_le h ho hi h1 n
theorem tick_le {W:Nat}(h:KFit c K k W)(hn:K.d.now < 1099511627776):(K.tick c).2<=11:=by
 unfold KSt.tick
 split
 ·exact on_le K
 ·rename_i hon
  split
  ·show 11<=11;omega
  ·split
   ·show 0<=11;omega
   ·split
    ·show 0<=11;omega
    ·obtain⟨a,b,d⟩:=h.ticked hn;have hz:K.on=0:=by omega
     exact ends_le a (KSt.on_zero.1 hz).1 b d _
theorem ticks_le (hr:KRt c):∀ (n:Nat) (K:KSt),KFit c K k (144*K.d.now)->K.d.now+n<=1099511627776->(K.ticks c n).2<=11
 | 0,K,_,_=>by show 0<=11;omega
 | n+1,K,h,hn=>by
  have h2:=tick_now c K;show (if (K.tick c).2=0 then (K.tick c).1.ticks c n else K.tick c).2<=11
  split
  ·exact ticks_le hr n _ (h.tick hr (by omega)) (by omega)
  ·exact tick_le h (by omega)
theorem report_le (K:KSt)(i p:Int):(K.report c i p).2<=11:=by
 unfold KSt.report
 split
 ·exact on_le K
 ·split
  ·show 5<=11;omega
  ·split
   ·show 5<=11;omega
   ·show LSt.repN _ _ _<=11;unfold LSt.repN;split;split <;> omega;omega
theorem begin_le (K:KSt)(i:Int):(K.begin i).2<=11:=by
 unfold KSt.begin
 split
 ·exact on_le K
 ·split
  ·show 5<=11;omega
  ·split
   ·show 5<=11;omega
   ·show LSt.begN _<=11;unfold LSt.begN;split <;> omega
theorem stop_le (K:KSt)(i:Int):(K.stop i).2<=11:=by
 unfold KSt.stop
 split
 ·exact on_le K
 ·split
  ·show 5<=11;omega
  ·split
   ·show 5<=11;omega
   ·show LSt.stopN _<=11;unfold LSt.stopN;split <;> omega
theorem cut_le (K:KSt)(n:Int):(K.cut n).2<=11:=by unfold KSt.cut;split;(show 2<=11;omega);split;(show 8<=11;omega);(show 0<=11;omega)
theorem boot_le (c:CfgD)(K:KSt):(K.boot c).2<=11:=by unfold KSt.boot;split;(show 10<=11;omega);(show 0<=11;omega)
end
end Go.Proofs.YtdpdbfhbojgigacGreatDoor
namespace Go.Proofs.YtdpdbfhbojgigacGreatDoor
open Go.RowKit Go.Extern.Stop Go.Stop Go.Extern
section
variable {A:Nat->Addr}{F:Nat->Prop}{w0 w w':World}{c:CfgD}{kb bc:Nat}{K:KSt}
theorem ke_cut (n:Int)(h:KeAt F w0 w c kb bc K)(hs:SenK A w0) :
  Calls Tryz.prog 30 #[.pointer (some ⟨bc,0,none⟩),.int .i64 n] w fun e w'=>e=.returned (errVal A (K.cut n).2)/\KePost F w0 w c kb bc (K.cut n).1 w':=by
 obtain⟨H,bd,rb,bt,lv,bs,h1,hF⟩:=h
 refine(rgs_cut (A:=A) h1.ring (h1.senv hs).four n).mono ?_;rintro e w' ⟨rfl,h2,h3⟩;have h4:=h1.toRing h3 h2;have e1:(K.cut n).1={ K with c:=(K.cut n).1.c,L:=(K.cut n).1.L,sp:=(K.cut n).1.sp }:=by
  unfold KSt.cut
  split
  ·rfl
  ·split <;> rfl
 rw[<- e1] at h4;exact⟨rfl,KeIn.post hF h3 h4⟩
theorem KeAt.cellsAt (h:KeAt F w0 w c kb bc K):CellsAt w bc K.c:=by
 obtain⟨H,bd,rb,bt,lv,bs,h1,-⟩:=h;exact h1.ring.cells
end
theorem off_row {w w':World}{r:Option Nat}(hg:w.grownBy w' r):Off (fun k=>r=some k) w w':=⟨hg.os,hg.tape,hg.output,hg.size,fun k hk hn=>hg.block k hk (fun e=>hn e.symm)⟩
section
variable {w0 w w':World}{b:Nat}{e:EntD}{pa ga ea fa la:Option Addr}{pc gc ec fc lc:Nat}{s s':LSt}{sv sv':Value}
set_option maxHeartbeats 4000000 in
set_option maxRecDepth 100000 in
theorem lm_report2 (p t:Int)(h:LmIn w0 w b e pa ga ea fa la pc gc ec fc lc s sv)(hn:s.ms.length < 1000) :
  Calls Tryz.prog 114 #[.pointer (some ⟨b,0,none⟩),.int .i64 p,.int .i64 t] w fun v w'=>v=.returned (.int .i64 (s.repE e p))/\(∃ sv',LmIn w0 w' b e pa ga ea fa la pc gc ec fc lc (s.rep e p t) sv'/\∀ k,sv'.ownBlock=some k->sv.ownBlock=some k\/w.heap.size<=k)/\Off (fun k=>k=b\/sv.ownBlock=some k) w w':=by
 obtain⟨act,since,ms,run,ex⟩:=s;have c10:w.cell? ⟨b,10,none⟩=some (.bool act):=h.cell 10 _ rfl;have c2:w.cell? ⟨b,2,none⟩=some (.slice pa e.pts.length pc):=h.cell 2 _ rfl;have H:Hid (LmIn w0 w b e pa ga ea fa la pc gc ec fc lc ⟨act,since,ms,run,ex⟩ sv):=h
 cases act with
 | false=>
  clear h hn;go_enter Tryz.func114,Tryz.ntmps114
  go_wp2;go_ret;exact⟨rfl,⟨sv,H.out,fun _ h=>Or.inl h⟩,Off.refl _ _⟩
 | true=>
  by_cases g0:p < 0
  ·have HP:Hid (hasP e p=false):=by show _=_;unfold hasP;rw[decide_eq_false (by omega)];rfl
   clear h hn;go_enter Tryz.func114,Tryz.ntmps114
   go_wp2;go_ret;exact⟨by unfold LSt.repE;rw[HP.out];rfl,⟨sv,by unfold LSt.rep;rw[HP.out];exact H.out,fun _ h=>Or.inl h⟩,Off.refl _ _⟩
  ·by_cases g1:(e.pts.length:Int)<=p
   ·have HP:Hid (hasP e p=false):=by show _=_;unfold hasP;rw[decide_eq_false (p:=p < (e.pts.length:Int)) (by omega),Bool.and_false]
    clear h hn;go_enter Tryz.func114,Tryz.ntmps114
    go_wp2;go_ret;exact⟨by unfold LSt.repE;rw[HP.out];rfl,⟨sv,by unfold LSt.rep;rw[HP.out];exact H.out,fun _ h=>Or.inl h⟩,Off.refl _ _⟩
   ·have HP:Hid (hasP e p=true):=by show _=_;unfold hasP;rw[decide_eq_true (by omega),decide_eq_true (by omega)];rfl
    obtain⟨va,vc,rfl⟩:=ow_form h.own;obtain⟨i0,hi,hz0,hz1,hz2⟩:=info_parts Tryz.infoMark;have c11:w.cell? ⟨b,11,none⟩=some (.int .i64 since):=h.cell 11 _ rfl;have c12:w.cell? ⟨b,12,none⟩=some (.slice va ms.length vc):=h.cell 12 _ rfl;have q11:∀ ob,(w.alloc ob).cell? ⟨b,11,none⟩=some (.int .i64 since):=fun ob=>cell_below (Below.one _ _) c11
    have q12:∀ ob,(w.alloc ob).cell? ⟨b,12,none⟩=some (.slice va ms.length vc):=fun ob=>cell_below (Below.one _ _) c12
    have hown:w.drew.ownsRow w0.heap.size 232 3 (.slice va ms.length vc) ms.length (ms.flatMap encM):=h.own;have hLz:w0.heap.size<=w.heap.size:=h.bel.size;have hcl:ms.length < 1000:=hn;have KB:Hid (∀ (ob:Obj) (w8:World),(w.drew.alloc ob).grownBy w8 (Value.slice va ms.length vc).ownBlock->w8.heap[b]?=some (.cells (lmRow e pa ga ea fa la pc gc ec fc lc ⟨true,since,ms,run,ex⟩ (.slice va ms.length vc)) 185 (0,0))/\Below w0.heap.size w0 w8/\Off (fun k=>(Value.slice va ms.length vc).ownBlock=some k) w w8):=fun ob w8 hg=>by
     have bb:Below w.heap.size w (w.drew.alloc ob):=(Below.refl w.heap.size w).drew.alloc (by simp) ob;have hm:=H.out.below bb;exact⟨(hg.block b (lt_of_row hm.heap) (fun e2=>ow_ne hm.own hm.heap (by decide) e2.symm)).trans hm.heap,hm.bel.grown hg hm.bel.size (fun k hk=>(hm.own.lt k hk).1),(Off.of_below bb _).trans (off_row hg) (fun _ _ x=>x)⟩
    clear h hn;go_enter Tryz.func114,Tryz.ntmps114
    go_upto_region 5 with fail
    go_cut [7] (fun v wx=>MkOwn w0.heap.size wx v (ms++[⟨p,t,since⟩])/\wx.heap[b]?=some (.cells (lmRow e pa ga ea fa la pc gc ec fc lc ⟨true,since,ms,run,ex⟩ (.slice va ms.length vc)) 185 (0,0))/\Below w0.heap.size w0 wx/\Off (fun k=>(Value.slice va ms.length vc).ownBlock=some k) w wx/\∀ k,v.ownBlock=some k->(Value.slice va ms.length vc).ownBlock=some k\/w.heap.size<=k)
    case first=>
     go_region_law (refine step_append_lies _ rfl (.tmp 28) (.tmp 36) 183 rfl w0.heap.size 232 i0 (.agg #[.int .i64 0,.int .i64 0,.int .i64 0]) 3 24 Tryz.underlying183 hi hz0 hz1 hz2 rfl (by decide) (.slice va ms.length vc) ms.length (ms.flatMap encM) (by simp[Act.eval]) (hown.alloc _) ⟨w.heap.size,0,.none⟩ 1 1 [.int .i64 p,.int .i64 t,.int .i64 since] (by simp[Act.eval]) rfl (ce_at w.drew [.int .i64 p,.int .i64 t,.int .i64 since] 232) (encM_one ⟨p,t,since⟩) (by decide) (by unfold maxLen;omega) (by omega) (by simp;omega) (w.heap.size+1) (by simp) ?_;intro g' cap' w8 hown8 hgrow8 hor hlt8;have r8:=KB.out _ _ hgrow8)
     all_goals
      have H8:Hid (_/\_/\_):=r8;have HOr:Hid (∀ k,(Value.slice (some ⟨g',0,none⟩) (ms.length+1) cap').ownBlock=some k->(Value.slice va ms.length vc).ownBlock=some k\/w.heap.size<=k):=fun k hk=>by
       simp only[Value.ownBlock,Option.some.injEq] at hk;subst hk
       rcases hor with h1 | h1
       ·exact Or.inl h1
       ·exact Or.inr (by omega)
      have HO8:Hid (MkOwn w0.heap.size w8 (.slice (some ⟨g',0,none⟩) (ms.length+1) cap') (ms++[⟨p,t,since⟩])):=by
       show w8.ownsRow _ _ _ _ _ _
       rw[List.length_append,List.flatMap_append];simpa[encM] using hown8
      clear hgrow8 hown8 r8 hor q11 q12 hown;go_wp2_with fail
      go_meet
      case rel=>exact⟨HO8.out,H8.out.1,H8.out.2.1,H8.out.2.2,HOr.out⟩
    obtain⟨hO,hR,hB,hF,hOr⟩:=hcut;rename World=>w8
    rename_i v8;obtain⟨va8,vc8,rfl⟩:=ow_form hO;have c12:w8.cell? ⟨b,12,none⟩=some (.slice va ms.length vc):=by simp[World.cell?,hR,lmRow]
    have f12:w8.frozen? ⟨b,12,none⟩=false:=by simp[World.frozen?,hR]
    have HL:Hid (LmIn w0 (w8.setCell ⟨b,12,none⟩ (.slice va8 (ms++[⟨p,t,since⟩]:List MkD).length vc8)) b e pa ga ea fa la pc gc ec fc lc ⟨true,since,ms++[⟨p,t,since⟩],run,ex⟩ (.slice va8 (ms++[⟨p,t,since⟩]:List MkD).length vc8)):=⟨row_put hR _,World.ownsRow.kept hO (grown_setCell _ _ _ _) (Or.inr (ow_ne hO hR (by decide))),hB.setCell (p:=⟨b,12,none⟩) H.out.lo _,H.out.lo⟩;have HF:Hid (Off (fun k=>k=b\/(Value.slice va ms.length vc).ownBlock=some k) w (w8.setCell ⟨b,12,none⟩ (.slice va8 (ms++[⟨p,t,since⟩]:List MkD).length vc8))):=(hF.mono (fun _ _ x=>Or.inr x)).trans (Off.of_grown (grown_setCell _ _ _ _)) (fun _ _ x=>Or.inl x);have HOr:Hid (∀ k,(Value.slice va8 (ms++[⟨p,t,since⟩]:List MkD).length vc8).ownBlock=some k->(Value.slice va ms.length vc).ownBlock=some k\/w.heap.size<=k):=hOr;rw[show (ms++[⟨p,t,since⟩]:List MkD).length=ms.length+1 by simp] at HL HF HOr;clear hO hR hB hF hOr q11 q12 hown KB c10 c2 c11;go_wp2;go_ret;exact⟨by unfold LSt.repE;rw[HP.out];rfl,⟨_,by unfold LSt.rep;rw[HP.out,if_pos ⟨rfl,rfl⟩];exact HL.out,HOr.out⟩,HF.out⟩
end
end Go.Proofs.YtdpdbfhbojgigacGreatDoor
