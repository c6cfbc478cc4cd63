/-
  Several texts as one: DcErr.
-/
import Derived.Test.YtdpdbfhbojgigacGreatDoorC28S
namespace Go.Proofs.YtdpdbfhbojgigacGreatDoor
open Go.RowKit Go.Extern.Stop Go.Stop Go.Extern
theorem size_two {na:List ByteArray}{e:EntD}(h0:nameErr na e.name=0)(h:(!within e.tol 0 20 || decide (16 < e.pts.length) || decide (8 < e.gaps.length) || decide (64 < e.edges.length) || decide (16 < e.first.length) || decide (16 < e.last.length))=true):entErr na e=2:=by
 rw[ent_size h0 (by rw[size_bad h];decide),size_bad h]
set_option maxHeartbeats 16000000 in
set_option maxRecDepth 100000 in
theorem entErr_at (es:List EntD)(sa:Option Addr)(sc i:Nat)(e:EntD)(w:World)(hE:EntsAt w (.slice sa es.length sc) es)(he:es[i]?=some e)(hS:∀ e∈es,SmallE e)(hn:es.length<=1000000) :
  Calls Tryz.prog 51 #[.slice sa es.length sc,.int .i64 (i:Int)] w fun v w'=>v=.returned (.int .i64 (entErr ((es.take i).map (·.name)) e))/\Below w.heap.size w w':=by
 have hil:i < es.length:=by
  rcases Nat.lt_or_ge i es.length with h' | h'
  ·exact h'
  ·rw[List.getElem?_eq_none h'] at he;cases he
 obtain⟨na,hna⟩:∃ na,na=(es.take i).map (·.name):=⟨_,rfl⟩;obtain⟨sa',cap',hsl,hcc⟩:=id hE
 cases hsl
 obtain⟨b,o,rfl,hc⟩:=hcc (fun h=>by rw[h] at he;simp at he);obtain⟨pv,gv,ev,fv,lv,hP,hcell⟩:=hc i e he;obtain⟨pa,pc,rfl,-⟩:=id hP.hp;obtain⟨ga,gc,rfl,-⟩:=id hP.hg;obtain⟨ea,ec,rfl,-⟩:=id hP.he;obtain⟨fa,fc,rfl,-⟩:=id hP.hf;obtain⟨la,lc,rfl,-⟩:=id hP.hl;have HSm:Hid (SmallE e/\∀ e∈es,SmallE e):=⟨hS e (List.mem_of_getElem? he),hS⟩;have HNa:Hid (na=(es.take i).map (·.name)):=hna;have HEs:Hid (∀ k e',es[k]?=some e'->w.cell? ⟨b,o+k*10,none⟩=some (.string e'.name)):=fun k e' he'=>by
  obtain⟨pv,gv,ev,fv,lv,-,hc2⟩:=hc k e' he';have:=hc2 0 (.string e'.name) rfl;simpa using this
 rw[<- hna];have z0:=hcell 0 (.string e.name) rfl;have z1:=hcell 1 (.int .i64 e.tol) rfl;have z2:=hcell 2 (.slice pa e.pts.length pc) rfl;have z3:=hcell 3 (.int .i64 e.cnt) rfl;have z4:=hcell 4 (.int .i64 e.mn) rfl;have z5:=hcell 5 (.int .i64 e.mx) rfl;have z6:=hcell 6 (.slice ga e.gaps.length gc) rfl;have z7:=hcell 7 (.slice ea e.edges.length ec) rfl;have z8:=hcell 8 (.slice fa e.first.length fc) rfl;have z9:=hcell 9 (.slice la e.last.length lc) rfl;simp only[Nat.add_zero] at z0;have i1:(i:Int) < (es.length:Int):=by omega
 obtain⟨W,hW⟩:∃ V,V=w.alloc (.cells #[.string e.name,.int .i64 e.tol,.slice pa e.pts.length pc,.int .i64 e.cnt,.int .i64 e.mn,.int .i64 e.mx,.slice ga e.gaps.length gc,.slice ea e.edges.length ec,.slice fa e.first.length fc,.slice la e.last.length lc] 38):=⟨_,rfl⟩;have HBW:Hid (Below w.heap.size w W):=by show Below _ _ _;rw[hW];exact Below.one _ _
 have HBf:Hid (∀ V,Below W.heap.size W V->Below w.heap.size w V):=fun V hV=>HBW.out.trans (hV.mono HBW.out.size)
 have HX:Hid (∀ V,Below W.heap.size W V->∀ (j:Nat) u,(#[.string e.name,.int .i64 e.tol,.slice pa e.pts.length pc,.int .i64 e.cnt,.int .i64 e.mn,.int .i64 e.mx,.slice ga e.gaps.length gc,.slice ea e.edges.length ec,.slice fa e.first.length fc,.slice la e.last.length lc]:Array Value)[j]?=some u->V.cell? ⟨w.heap.size,j,none⟩=some u):=fun V hV j u hu=>by
  have:=row_below hV (show W.heap[w.heap.size]?=_ by rw[hW];exact heap_alloc_new w _);simp[World.cell?,this,hu]
 have HXr:Hid (∀ V,Below W.heap.size W V->V.heap[w.heap.size]?=some (.cells #[.string e.name,.int .i64 e.tol,.slice pa e.pts.length pc,.int .i64 e.cnt,.int .i64 e.mn,.int .i64 e.mx,.slice ga e.gaps.length gc,.slice ea e.edges.length ec,.slice fa e.first.length fc,.slice la e.last.length lc] 38 (0,0))):=fun V hV=>row_below hV (by rw[hW];exact heap_alloc_new w _)
 have HP:Hid (∀ V,Below W.heap.size W V->EntParts V e (.slice pa e.pts.length pc) (.slice ga e.gaps.length gc) (.slice ea e.edges.length ec) (.slice fa e.first.length fc) (.slice la e.last.length lc)):=fun V hV=>hP.below (HBf.out V hV)
 clear hP hS hcell hc hcc hE hna;go_enter Tryz.func51,Tryz.ntmps51
 go_upto_region 2 with fail
 rw[<- hW];clear hW z0 z1 z2 z3 z4 z5 z6 z7 z8 z9;have y0:=HX.out W (Below.refl _ _) 0 _ rfl;go_wp2_with fail
 refine(rName_at e.name W HSm.out.1.hn).mono ?_;rintro v w1 ⟨rfl,hw1⟩
 cases hw1
 cases hnm:isName e.name
 ·have HE:Hid (entErr na e=4):=by show _=_;rw[ent_name (by rw[nameErr_4 hnm];decide),nameErr_4 hnm]
  go_wp2;go_ret;exact⟨by rw[HE.out];rfl,HBW.out⟩
 have HNm:Hid (isName e.name=true):=hnm;clear hnm;go_upto_region 5 with fail
 go_cut [7] (fun i wx=>i=.int .i64 0/\wx=W)
 case first=>
  go_wp2_with fail
  go_meet
  case rel=>exact⟨rfl,rfl⟩
 obtain⟨rfl,rfl⟩:=hcut;rename World=>W
 clear y0;go_wp2_with fail
 go_loopw [7] (fun iv wx=>∃ (k:Nat),k<=i/\iv=.int .i64 k/\Below W.heap.size W wx/\∀ j e',j < k->es[j]?=some e'->e'.name≠e.name) (fun iv _=>i - (intOf iv).toNat)
 case atStart=>exact⟨0,Nat.zero_le _,rfl,Below.refl _ _,fun j e' hj=>absurd hj (by omega)⟩
 case round=>
  obtain⟨k,hk,rfl,hbx,hno⟩:=hrel;rename World=>wx
  have HB:Hid (Below W.heap.size W wx):=hbx;have HNo:Hid (∀ j e',j < k->es[j]?=some e'->e'.name≠e.name):=hno;clear hbx hno
  by_cases hlt:k < i
  ·have k1:(k:Int) < (i:Int):=by omega
   have k2:(k:Int) < (es.length:Int):=by omega
   obtain⟨q,hq⟩:∃ q,es[k]?=some q:=⟨_,List.getElem?_eq_getElem (by omega)⟩;have HQ:Hid (es[k]?=some q):=hq;have c0:=cell_below (HBf.out wx HB.out) (HEs.out k q hq);have y0:=HX.out wx HB.out 0 _ rfl;clear hq
   by_cases hqe:q.name=e.name
   ·have HE:Hid (entErr na e=6):=by
     have h6:nameErr na e.name=6:=nameErr_6 HNm.out (by
      rw[HNa.out,List.any_eq_true]
      refine⟨q.name,List.mem_map.2 ⟨q,?_,rfl⟩,by simp[hqe]⟩;have:(es.take i)[k]?=some q:=by rw[List.getElem?_take,if_pos hlt];exact HQ.out
      exact List.mem_of_getElem? this)
     show _=_
     rw[ent_name (by rw[h6];decide),h6]
    rw[hqe] at c0;clear hqe;go_wp2_with fail
    go_quiet (fail)
    go_wp2;go_ret;exact⟨by rw[HE.out];rfl,HBf.out _ (below_drewN HB.out _)⟩
   ·have n1:=(bytesN hqe).1;have n2:=(bytesN hqe).2;go_wp2_with fail
    go_quiet (fail)
    go_wp2_with fail
    go_roundw
    case rel=>
     refine⟨k+1,by omega,by go_num,below_drewN HB.out _,fun j y hj hy=>?_⟩
     rcases Nat.lt_or_ge j k with h1 | h1
     ·exact HNo.out j y h1 hy
     ·obtain rfl:j=k:=by omega
      rw[HQ.out] at hy
      cases hy
      exact hqe
    case measure=>simp[intOf];omega
  ·have k1:¬(k:Int) < (i:Int):=by omega
   obtain rfl:k=i:=by omega
   have HN0:Hid (nameErr na e.name=0):=nameErr_0 HNm.out (by
    rw[HNa.out,List.any_eq_false];intro x hx;obtain⟨q,hq,rfl⟩:=List.mem_map.1 hx;obtain⟨j,hj⟩:=List.getElem?_of_mem hq;rw[List.getElem?_take] at hj
    split at hj
    ·rename_i hjk;simpa using HNo.out j q hjk hj
    ·cases hj)
   clear HNo hlt hk;have y1:=HX.out wx HB.out 1 _ rfl;have y2:=HX.out wx HB.out 2 _ rfl;have y6:=HX.out wx HB.out 6 _ rfl;have y7:=HX.out wx HB.out 7 _ rfl;have y8:=HX.out wx HB.out 8 _ rfl;have y9:=HX.out wx HB.out 9 _ rfl;go_upto_region 10 with fail
   by_cases t1:e.tol < 0
   ·have HE:Hid (entErr na e=2):=size_two HN0.out (by unfold within;rw[decide_eq_false (p:=0<=e.tol) (by omega)];simp);go_wp2;go_ret;exact⟨by rw[HE.out];rfl,HBf.out _ HB.out⟩
   by_cases t2:20 < e.tol
   ·have HE:Hid (entErr na e=2):=size_two HN0.out (by unfold within;rw[decide_eq_false (p:=e.tol<=20) (by omega)];simp);go_wp2;go_ret;exact⟨by rw[HE.out];rfl,HBf.out _ HB.out⟩
   by_cases t3:16 < (e.pts.length:Int)
   ·have HE:Hid (entErr na e=2):=size_two HN0.out (by rw[decide_eq_true (p:=16 < e.pts.length) (by omega)];simp);go_wp2;go_ret;exact⟨by rw[HE.out];rfl,HBf.out _ HB.out⟩
   by_cases t4:8 < (e.gaps.length:Int)
   ·have HE:Hid (entErr na e=2):=size_two HN0.out (by rw[decide_eq_true (p:=8 < e.gaps.length) (by omega)];simp);go_wp2;go_ret;exact⟨by rw[HE.out];rfl,HBf.out _ HB.out⟩
   by_cases t5:64 < (e.edges.length:Int)
   ·have HE:Hid (entErr na e=2):=size_two HN0.out (by rw[decide_eq_true (p:=64 < e.edges.length) (by omega)];simp);go_wp2;go_ret;exact⟨by rw[HE.out];rfl,HBf.out _ HB.out⟩
   by_cases t6:16 < (e.first.length:Int)
   ·have HE:Hid (entErr na e=2):=size_two HN0.out (by rw[decide_eq_true (p:=16 < e.first.length) (by omega)];simp);go_wp2;go_ret;exact⟨by rw[HE.out];rfl,HBf.out _ HB.out⟩
   by_cases t7:16 < (e.last.length:Int)
   ·have HE:Hid (entErr na e=2):=size_two HN0.out (by rw[decide_eq_true (p:=16 < e.last.length) (by omega)];simp);go_wp2;go_ret;exact⟨by rw[HE.out];rfl,HBf.out _ HB.out⟩
   have HZ:Hid (sizeErr e=0):=size_ok (by unfold within;rw[decide_eq_true (by omega),decide_eq_true (by omega)];rfl) (by omega) (by omega) (by omega) (by omega) (by omega);go_upto_region 14 with fail
   clear y1 y6 y7 y8 y9
   go_cut [8] (fun i wv=>i=.int .i64 0/\wv=wx)
   case first=>
    go_wp2_with fail
    go_meet
    case rel=>exact⟨rfl,rfl⟩
   obtain⟨rfl,rfl⟩:=hcut;rename World=>wx
   clear y2 k1;go_wp2_with fail
   go_loopw [8,9] (fun iv _ wy=>∃ (k:Nat),k<=e.pts.length/\iv=.int .i64 k/\Below W.heap.size W wy/\ptsErr [] (e.pts.take k)=0) (fun iv _ _=>e.pts.length - (intOf iv).toNat)
   case atStart=>exact⟨0,Nat.zero_le _,rfl,HB.out,rfl⟩
   case round=>
    clear HB;obtain⟨k,hk,rfl,hbx,hno⟩:=hrel;rename World=>wx
    have HB:Hid (Below W.heap.size W wx):=hbx;have HNo:Hid (ptsErr [] (e.pts.take k)=0):=hno;clear hbx hno;have y2:=HX.out wx HB.out 2 _ rfl
    by_cases hlt:k < e.pts.length
    ·have k1:(k:Int) < (e.pts.length:Int):=by omega
     as_aux_lemma=>
      obtain⟨q,hq⟩:∃ q,e.pts[k]?=some q:=⟨_,List.getElem?_eq_getElem hlt⟩;have HQ:Hid (e.pts[k]?=some q):=hq;obtain⟨g,o2,rfl,hcs⟩:=slatS_cell (HP.out wx HB.out).hp hq;have HIxd:Hid (∀ n,Calls Tryz.prog 85 #[.slice (some ⟨g,o2,none⟩) e.pts.length pc,.string q] (wx.drewN n) _):=fun n=>index_at e.pts q (some ⟨g,o2,none⟩) pc (wx.drewN n) (HP.out _ (below_drewN HB.out n)).hp HSm.out.1.hp
      have c0:=hcs k q hq;clear hcs hq;go_wp2_with fail
      refine(rName_at q wx (HSm.out.1.hs q (List.mem_of_getElem? HQ.out))).mono ?_;rintro v w2 ⟨rfl,hw2⟩
      cases hw2
      cases hqn:isName q
      ·have HE:Hid (entErr na e=4):=by
        have h4:=pts_bad HQ.out HNo.out (by rw[nameErr_4 hqn];decide);rw[nameErr_4 hqn] at h4;show _=_
        rw[ent_pts HN0.out HZ.out (by rw[h4];decide),h4]
       go_wp2;go_ret;exact⟨by rw[HE.out];rfl,HBf.out _ HB.out⟩
      ·by_cases hix:idxOf e.pts q < (k:Int)
       ·have HE:Hid (entErr na e=6):=by
         have h6:=nameErr_6 hqn ((idx_lt HQ.out).1 hix);have h4:=pts_bad HQ.out HNo.out (by rw[h6];decide);rw[h6] at h4;show _=_
         rw[ent_pts HN0.out HZ.out (by rw[h4];decide),h4]
        go_upto_region 20 with fail
        go_region_held3 (fun w'=>w'.cell? ⟨w.heap.size,2,none⟩=some (.slice (some ⟨g,o2,none⟩) e.pts.length pc)/\w'.cell? ⟨g,o2+k,none⟩=some (.string q)) (first | exact⟨y2,c0⟩) (first | (go_at_call 85;refine Calls.mono (HIxd.out _) ?_;rintro v w3 ⟨rfl,rfl⟩))
        all_goals
         go_wp2;go_ret;exact⟨by rw[HE.out];rfl,HBf.out _ (below_drewN HB.out _)⟩
       ·have HNx:Hid (ptsErr [] (e.pts.take (k+1))=0):=pts_next HQ.out HNo.out (nameErr_0 hqn (by
         cases ha:(e.pts.take k).any fun x=>decide (x=q)
         ·rfl
         ·exact absurd ((idx_lt HQ.out).2 ha) hix))
        go_upto_region 20 with fail
        go_region_held3 (fun w'=>w'.cell? ⟨w.heap.size,2,none⟩=some (.slice (some ⟨g,o2,none⟩) e.pts.length pc)/\w'.cell? ⟨g,o2+k,none⟩=some (.string q)) (first | exact⟨y2,c0⟩) (first | (go_at_call 85;refine Calls.mono (HIxd.out _) ?_;rintro v w3 ⟨rfl,rfl⟩))
        all_goals
         go_wp2_with fail
         go_roundw
         case rel=>exact⟨k+1,by omega,by go_num,below_drewN HB.out _,HNx.out⟩
         case measure=>simp[intOf];omega
    ·have k1:¬(k:Int) < (e.pts.length:Int):=by omega
     have HPt:Hid (ptsErr [] e.pts=0):=by show _=_;have:=HNo.out;rwa [List.take_of_length_le (by omega)] at this
     have HPE:Hid (entErr na e=partErr e):=ent_part HN0.out HZ.out HPt.out;clear HNo hlt hk HN0 HZ HPt;as_aux_lemma=>
      have y3:=HX.out wx HB.out 3 _ rfl;go_upto_region 22 with fail
      by_cases t1:e.cnt < -1
      ·have HE:Hid (entErr na e=5):=by show _=_;rw[HPE.out,part_is];have:pc1 e=true:=(by unfold pc1 lacks;rw[decide_eq_true (p:=e.cnt≠-1) (by omega),decide_eq_true (p:=e.cnt < 0) (by omega)];rfl);simp[firstOf,this]
       go_wp2;go_ret;exact⟨by rw[HE.out];rfl,HBf.out _ HB.out⟩
      by_cases t2:(e.pts.length:Int)<=e.cnt
      ·have HE:Hid (entErr na e=5):=by show _=_;rw[HPE.out,part_is];have:pc1 e=true:=(by unfold pc1 lacks;rw[decide_eq_true (p:=e.cnt≠-1) (by omega),decide_eq_true t2,Bool.or_true];rfl);simp[firstOf,this]
       go_wp2;go_ret;exact⟨by rw[HE.out];rfl,HBf.out _ HB.out⟩
      have HC1:Hid (pc1 e=false):=by
       show _=_
       unfold pc1 lacks
       by_cases h:e.cnt=-1
       ·rw[decide_eq_false (p:=e.cnt≠-1) (by omega)];rfl
       ·rw[decide_eq_false (p:=e.cnt < 0) (by omega),decide_eq_false t2,Bool.or_false,Bool.and_false]
      go_upto_region 24 with fail
      clear y3 y2;go_wp2_with (refine wpList_load_row rfl 38 _ rfl w.heap.size rfl _ _ _ _ (HXr.out wx HB.out) Tryz.underlying38 rfl Tryz.sizeEnt ?_)
      refine(strang_at e pa ga ea fa la pc gc ec fc lc wx (HP.out wx HB.out) HSm.out.1).mono ?_;rintro v w4 ⟨rfl,hb4⟩;have HB4:Hid (Below W.heap.size W w4):=HB.out.trans (hb4.mono HB.out.size);clear hb4 HB t1 t2
      cases hst:(strL e).any fun x=>lacks e.pts.length x
      case true=>
       have HE:Hid (entErr na e=5):=by show _=_;rw[HPE.out,part_is];have h2:pcS e=true:=hst;simp[firstOf,HC1.out,h2]
       go_wp2;go_ret;exact⟨by rw[HE.out];rfl,HBf.out _ HB4.out⟩
      have HCS:Hid (pcS e=false):=hst;clear hst;as_aux_lemma=>
       have y3:=HX.out w4 HB4.out 3 _ rfl;have y4:=HX.out w4 HB4.out 4 _ rfl;have y5:=HX.out w4 HB4.out 5 _ rfl;go_upto_region 27 with fail
       by_cases hb6:pc6 e=true
       ·have HE:Hid (entErr na e=3):=by show _=_;rw[HPE.out,part_is];simp[firstOf,HC1.out,HCS.out,hb6]
        have hcn:e.cnt=-1:=by unfold pc6 at hb6;simp at hb6;exact hb6.1
        rw[hcn] at y3
        by_cases hmn:e.mn=0
        ·have hmx:¬e.mx=0:=by unfold pc6 at hb6;simp[hmn] at hb6;exact hb6.2
         rw[hmn] at y4;clear hb6 hcn hmn;go_wp2;go_ret;exact⟨by rw[HE.out];rfl,HBf.out _ HB4.out⟩
        ·clear hb6 hcn;go_wp2;go_ret;exact⟨by rw[HE.out];rfl,HBf.out _ HB4.out⟩
       have HC6:Hid (pc6 e=false):=by rw[Bool.not_eq_true] at hb6;exact hb6
       go_cut [112,113,114,115,116,117,118,119,120,121,122,123,124] (fun _ _ _ _ _ _ _ _ _ _ _ _ v wv=>v=.bool false/\wv=w4)
       case first=>
        by_cases hcn:e.cnt=-1
        ·have hz:e.mn=0/\e.mx=0:=by unfold pc6 at hb6;simp[hcn] at hb6;exact hb6
         rw[hcn] at y3;rw[hz.1] at y4;rw[hz.2] at y5;clear hb6 hcn hz;go_wp2_with fail
         go_meet
         case rel=>exact⟨rfl,rfl⟩
        ·clear hb6;go_wp2_with fail
         go_meet
         case rel=>exact⟨rfl,rfl⟩
       obtain⟨rfl,rfl⟩:=hcut;rename World=>w4
       clear hb6 y3;go_upto_region 29 with fail
       by_cases t1:e.mn < 0
       ·have HE:Hid (entErr na e=2):=by show _=_;rw[HPE.out,part_is];have:pc7 e=true:=(by unfold pc7 rise;rw[decide_eq_false (p:=0<=e.mn) (by omega)];rfl);simp[firstOf,HC1.out,HCS.out,HC6.out,this]
        go_wp2;go_ret;exact⟨by rw[HE.out];rfl,HBf.out _ HB4.out⟩
       by_cases t2:e.mx < e.mn
       ·have HE:Hid (entErr na e=2):=by show _=_;rw[HPE.out,part_is];have:pc7 e=true:=(by unfold pc7 rise;rw[decide_eq_false (p:=e.mn<=e.mx) (by omega)];simp);simp[firstOf,HC1.out,HCS.out,HC6.out,this]
        go_wp2;go_ret;exact⟨by rw[HE.out];rfl,HBf.out _ HB4.out⟩
       by_cases t3:1000<=e.mx
       ·have HE:Hid (entErr na e=2):=by show _=_;rw[HPE.out,part_is];have:pc7 e=true:=(by unfold pc7 rise;rw[decide_eq_false (p:=e.mx<=999) (by omega)];simp);simp[firstOf,HC1.out,HCS.out,HC6.out,this]
        go_wp2;go_ret;exact⟨by rw[HE.out];rfl,HBf.out _ HB4.out⟩
       have HC7:Hid (pc7 e=false):=by show _=_;unfold pc7 rise;rw[decide_eq_true (p:=0<=e.mn) (by omega),decide_eq_true (p:=e.mn<=e.mx) (by omega),decide_eq_true (p:=e.mx<=999) (by omega)];rfl
       go_upto_region 31 with fail
       clear y4 y5 t1 t2 t3
       go_cut [11] (fun i wv=>i=.int .i64 0/\wv=w4)
       case first=>
        go_wp2_with fail
        go_meet
        case rel=>exact⟨rfl,rfl⟩
       obtain⟨rfl,rfl⟩:=hcut;rename World=>w4
       go_wp2_with fail
       go_loopw [11,12] (fun iv _ wy=>∃ (k:Nat),k<=e.gaps.length/\iv=.int .i64 k/\Below W.heap.size W wy/\∀ j g,j < k->e.gaps[j]?=some g->rise 0 g.mn g.mx 1099511627776=true) (fun iv _ _=>e.gaps.length - (intOf iv).toNat)
       case atStart=>exact⟨0,Nat.zero_le _,rfl,HB4.out,fun j g hj=>absurd hj (by omega)⟩
       case round=>
        clear HB4;clear k1;obtain⟨k,hk,rfl,hbx,hno⟩:=hrel;rename World=>wx
        have HB:Hid (Below W.heap.size W wx):=hbx;have HNo:Hid (∀ j g,j < k->e.gaps[j]?=some g->rise 0 g.mn g.mx 1099511627776=true):=hno;clear hbx hno;have y6:=HX.out wx HB.out 6 _ rfl
        by_cases hlt:k < e.gaps.length
        ·have k1:(k:Int) < (e.gaps.length:Int):=by omega
         have k2:k < 1000000:=by have:=HSm.out.1.hg;omega
         as_aux_lemma=>
          obtain⟨q,hq⟩:∃ q,e.gaps[k]?=some q:=⟨_,List.getElem?_eq_getElem hlt⟩;have HQ:Hid (e.gaps[k]?=some q):=hq;obtain⟨sa',cap',hsl,-,hcc⟩:=(HP.out wx HB.out).hg
          cases hsl
          obtain⟨g,o2,rfl,hc0⟩:=hcc (fun h=>by rw[h] at hq;simp at hq);have c0:wx.cell? ⟨g,o2+k*4,none⟩=some (.int .i64 q.fr):=hc0 k _ hq 0 _ rfl;have c1:wx.cell? ⟨g,o2+k*4+1,none⟩=some (.int .i64 q.to):=hc0 k _ hq 1 _ rfl;have c2:wx.cell? ⟨g,o2+k*4+2,none⟩=some (.int .i64 q.mn):=hc0 k _ hq 2 _ rfl;have c3:wx.cell? ⟨g,o2+k*4+3,none⟩=some (.int .i64 q.mx):=hc0 k _ hq 3 _ rfl;have HG8:Hid (rise 0 q.mn q.mx 1099511627776=false->entErr na e=2):=fun h=>by
           have h8:pc8 e=true:=by unfold pc8;rw[List.any_eq_true];exact⟨q,List.mem_of_getElem? HQ.out,by rw[h];rfl⟩
           rw[HPE.out,part_is];simp[firstOf,HC1.out,HCS.out,HC6.out,HC7.out,h8]
          have HBa:Hid (∀ ob,Below W.heap.size W (wx.alloc ob)):=fun ob=>HB.out.alloc HB.out.size _
          clear hcc hc0 hq
          by_cases t1:q.mn < 0
          ·have HE:Hid (entErr na e=2):=HG8.out (by unfold rise;rw[decide_eq_false (p:=0<=q.mn) (by omega)];rfl);go_wp2;go_ret;exact⟨by rw[HE.out];rfl,HBf.out _ (HBa.out _)⟩
          by_cases t2:q.mx < q.mn
          ·have HE:Hid (entErr na e=2):=HG8.out (by unfold rise;rw[decide_eq_false (p:=q.mn<=q.mx) (by omega)];simp);go_wp2;go_ret;exact⟨by rw[HE.out];rfl,HBf.out _ (HBa.out _)⟩
          by_cases t3:1099511627776 < q.mx
          ·have HE:Hid (entErr na e=2):=HG8.out (by unfold rise;rw[decide_eq_false (p:=q.mx<=1099511627776) (by omega)];simp);go_wp2;go_ret;exact⟨by rw[HE.out];rfl,HBf.out _ (HBa.out _)⟩
          have HG0:Hid (rise 0 q.mn q.mx 1099511627776=true):=by show _=_;unfold rise;rw[decide_eq_true (p:=0<=q.mn) (by omega),decide_eq_true (p:=q.mn<=q.mx) (by omega),decide_eq_true (p:=q.mx<=1099511627776) (by omega)];rfl
          go_wp2_with fail
          go_roundw
          case rel=>
           refine⟨k+1,by omega,by go_num,HBa.out _,fun j y hj hy=>?_⟩
           rcases Nat.lt_or_ge j k with h1 | h1
           ·exact HNo.out j y h1 hy
           ·obtain rfl:j=k:=by omega
            rw[HQ.out] at hy
            cases hy
            exact HG0.out
          case measure=>simp[intOf];omega
        ·have k1:¬(k:Int) < (e.gaps.length:Int):=by omega
         have HC8:Hid (pc8 e=false):=by
          show _=_
          unfold pc8;rw[List.any_eq_false];intro g hg;obtain⟨j,hj⟩:=List.getElem?_of_mem hg;have hjl:j < e.gaps.length:=by
           rcases Nat.lt_or_ge j e.gaps.length with h' | h'
           ·exact h'
           ·rw[List.getElem?_eq_none h'] at hj;cases hj
          rw[HNo.out j g (by omega) hj];simp
         clear HNo hlt hk;go_upto_region 37 with fail
         clear y6 k1
         go_cut [13] (fun i wv=>i=.int .i64 0/\wv=wx)
         case first=>
          go_wp2_with fail
          go_meet
          case rel=>exact⟨rfl,rfl⟩
         obtain⟨rfl,rfl⟩:=hcut;rename World=>wx
         go_wp2_with fail
         go_loopw [13,14] (fun iv _ wy=>∃ (k:Nat),k<=e.edges.length/\iv=.int .i64 k/\Below W.heap.size W wy/\∀ j x,j < k->e.edges[j]?=some x->((e.edges.take j).any fun y=>decide (x=y))=false) (fun iv _ _=>e.edges.length - (intOf iv).toNat)
         case atStart=>exact⟨0,Nat.zero_le _,rfl,HB.out,fun j g hj=>absurd hj (by omega)⟩
         case round=>
          clear HB;obtain⟨k,hk,rfl,hbx,hno⟩:=hrel;rename World=>wx
          have HB:Hid (Below W.heap.size W wx):=hbx;have HNo:Hid (∀ j x,j < k->e.edges[j]?=some x->((e.edges.take j).any fun y=>decide (x=y))=false):=hno;clear hbx hno;have y7:=HX.out wx HB.out 7 _ rfl
          by_cases hlt:k < e.edges.length
          ·have k1:(k:Int) < (e.edges.length:Int):=by omega
           have k2:k < 1000000:=by have:=HSm.out.1.he;omega
           as_aux_lemma=>
            obtain⟨q,hq⟩:∃ q,e.edges[k]?=some q:=⟨_,List.getElem?_eq_getElem hlt⟩;have HQ:Hid (e.edges[k]?=some q):=hq;obtain⟨sa',cap',hsl,-,hcc⟩:=(HP.out wx HB.out).he
            cases hsl
            obtain⟨g,o2,rfl,hc0⟩:=hcc (fun h=>by rw[h] at hq;simp at hq);have HCe:Hid (∀ V,Below wx.heap.size wx V->∀ j x,e.edges[j]?=some x->V.cell? ⟨g,o2+j*2,none⟩=some (.int .i64 x.1)/\V.cell? ⟨g,o2+j*2+1,none⟩=some (.int .i64 x.2)):=fun V hV j x hx=>⟨cell_below hV (hc0 j x hx 0 _ rfl),cell_below hV (hc0 j x hx 1 _ rfl)⟩
            clear hcc hc0 hq;go_upto_region 40 with fail
            clear y7
            go_cut [14] (fun i wv=>i=.int .i64 0/\wv=wx)
            case first=>
             go_wp2_with fail
             go_meet
             case rel=>exact⟨rfl,rfl⟩
            obtain⟨rfl,rfl⟩:=hcut;rename World=>wx
            go_wp2_with fail
            go_loopw [14] (fun iv wy=>∃ (j:Nat),j<=k/\iv=.int .i64 j/\Below wx.heap.size wx wy/\∀ m x,m < j->e.edges[m]?=some x->q≠x) (fun iv _=>k - (intOf iv).toNat)
            case atStart=>exact⟨0,Nat.zero_le _,rfl,Below.refl _ _,fun j g hj=>absurd hj (by omega)⟩
            case round=>
             obtain⟨j,hj,rfl,hby,hno⟩:=hrel;rename World=>wy
             have HBy:Hid (Below wx.heap.size wx wy):=hby;have HByW:Hid (Below W.heap.size W wy):=HB.out.trans (hby.mono HB.out.size);have HNj:Hid (∀ m x,m < j->e.edges[m]?=some x->q≠x):=hno;clear hby hno;have y7:=HX.out wy HByW.out 7 _ rfl
             by_cases hjk:j < k
             ·have j1:(j:Int) < (k:Int):=by omega
              have j2:(j:Int) < (e.edges.length:Int):=by omega
              have j3:j < 1000000:=by omega
              obtain⟨x,hx⟩:∃ x,e.edges[j]?=some x:=⟨_,List.getElem?_eq_getElem (by omega)⟩;have HXj:Hid (e.edges[j]?=some x):=hx;obtain⟨a0,a1⟩:=HCe.out wy HBy.out j x hx;obtain⟨b0,b1⟩:=HCe.out wy HBy.out k q HQ.out;clear hx;obtain⟨x1,x2⟩:=x;obtain⟨q1,q2⟩:=q;simp only at a0 a1 b0 b1
              by_cases e1:x1=q1
              ·by_cases e2:x2=q2
               ·subst e1 e2;have eqf:∀ w,(binOp .eql 146 (.agg #[.int .i64 x1,.int .i64 x2]) (.agg #[.int .i64 x1,.int .i64 x2])).run Tryz.prog w=.ok (.bool true) w:=fun w=>by rw[eql_pair];simp
                have gpf:=Tryz.guardPair;have HE:Hid (entErr na e=6):=by
                 have h9:twice e.edges=true:=by
                  unfold twice;rw[List.any_eq_true]
                  refine⟨k,by simpa using hlt,?_⟩;rw[HQ.out];show ((e.edges.take k).any fun y=>decide ((x1,x2)=y))=true
                  rw[List.any_eq_true];have hm:(e.edges.take k)[j]?=some (x1,x2):=by rw[List.getElem?_take,if_pos hjk];exact HXj.out
                  exact⟨(x1,x2),List.mem_of_getElem? hm,by simp⟩
                 show _=_
                 rw[HPE.out,part_is];simp[firstOf,HC1.out,HCS.out,HC6.out,HC7.out,HC8.out,h9]
                go_wp2_with fail
                go_quiet (fail)
                go_wp2;go_ret;exact⟨by rw[HE.out];rfl,HBf.out _ (below_drewN HByW.out _)⟩
               ·subst e1;have HNe:Hid ((x1,q2)≠(x1,x2)):=fun h=>e2 (Prod.mk.inj h).2.symm
                have eqf:∀ w,(binOp .eql 146 (.agg #[.int .i64 x1,.int .i64 x2]) (.agg #[.int .i64 x1,.int .i64 q2])).run Tryz.prog w=.ok (.bool false) w:=fun w=>by rw[eql_pair];simp[e2]
                have gpf:=Tryz.guardPair;go_wp2_with fail
                go_quiet (fail)
                go_wp2_with fail
                go_roundw
                case rel=>
                 refine⟨j+1,by omega,by go_num,below_drewN HBy.out _,fun m y hm hy=>?_⟩
                 rcases Nat.lt_or_ge m j with h1 | h1
                 ·exact HNj.out m y h1 hy
                 ·obtain rfl:m=j:=by omega
                  rw[HXj.out] at hy
                  cases hy
                  exact HNe.out
                case measure=>simp[intOf];omega
              ·have HNe:Hid ((q1,q2)≠(x1,x2)):=fun h=>e1 (Prod.mk.inj h).1.symm
               have eqf:∀ w,(binOp .eql 146 (.agg #[.int .i64 x1,.int .i64 x2]) (.agg #[.int .i64 q1,.int .i64 q2])).run Tryz.prog w=.ok (.bool false) w:=fun w=>by rw[eql_pair];simp[e1]
               have gpf:=Tryz.guardPair;go_wp2_with fail
               go_quiet (fail)
               go_wp2_with fail
               go_roundw
               case rel=>
                refine⟨j+1,by omega,by go_num,below_drewN HBy.out _,fun m y hm hy=>?_⟩
                rcases Nat.lt_or_ge m j with h1 | h1
                ·exact HNj.out m y h1 hy
                ·obtain rfl:m=j:=by omega
                 rw[HXj.out] at hy
                 cases hy
                 exact HNe.out
               case measure=>simp[intOf];omega
             ·have j1:¬(j:Int) < (k:Int):=by omega
              obtain rfl:j=k:=by omega
              have HNk:Hid (((e.edges.take j).any fun y=>decide (q=y))=false):=by
               show _=_
               rw[List.any_eq_false];intro y hy;obtain⟨m,hm⟩:=List.getElem?_of_mem hy;rw[List.getElem?_take] at hm
               split at hm
               ·rename_i hmj;simpa using HNj.out m y hmj hm
               ·cases hm
              go_wp2_with fail
              go_roundw
              case rel=>
               refine⟨j+1,by omega,by go_num,HByW.out,fun m y hm hy=>?_⟩
               rcases Nat.lt_or_ge m j with h1 | h1
               ·exact HNo.out m y h1 hy
               ·obtain rfl:m=j:=by omega
                rw[HQ.out] at hy
                cases hy
                exact HNk.out
              case measure=>simp[intOf];omega
          ·have k1:¬(k:Int) < (e.edges.length:Int):=by omega
           have HC9:Hid (twice e.edges=false):=by
            show _=_
            unfold twice;rw[List.any_eq_false];intro i hi;simp only[List.mem_range] at hi;rw[List.getElem?_eq_getElem hi];show ¬((e.edges.take i).any fun y=>decide (e.edges[i]=y))=true
            rw[HNo.out i _ (by omega) (List.getElem?_eq_getElem hi)];simp
           clear HNo hlt hk;go_upto_region 45 with fail
           clear y7 k1;as_aux_lemma=>
            have y8:=HX.out wx HB.out 8 _ rfl;go_wp2_with fail
            refine(twiceI_at e.first fa fc wx (HP.out wx HB.out).hf HSm.out.1.hf).mono ?_;rintro v w5 ⟨rfl,hb5⟩;have HB5:Hid (Below W.heap.size W w5):=HB.out.trans (hb5.mono HB.out.size);clear hb5 y8
            cases htf:twice e.first
            case true=>
             have HE:Hid (entErr na e=6):=by show _=_;rw[HPE.out,part_is];simp[firstOf,HC1.out,HCS.out,HC6.out,HC7.out,HC8.out,HC9.out,htf]
             go_wp2;go_ret;exact⟨by rw[HE.out];rfl,HBf.out _ HB5.out⟩
            have HC10:Hid (twice e.first=false):=htf;clear htf;have y9:=HX.out w5 HB5.out 9 _ rfl;go_wp2_with fail
            refine(twiceI_at e.last la lc w5 (HP.out w5 HB5.out).hl HSm.out.1.hl).mono ?_;rintro v w6 ⟨rfl,hb6⟩;have HB6:Hid (Below W.heap.size W w6):=HB5.out.trans (hb6.mono HB5.out.size);clear hb6 y9
            cases htl:twice e.last
            case true=>
             have HE:Hid (entErr na e=6):=by show _=_;rw[HPE.out,part_is];simp[firstOf,HC1.out,HCS.out,HC6.out,HC7.out,HC8.out,HC9.out,HC10.out,htl]
             go_wp2;go_ret;exact⟨by rw[HE.out];rfl,HBf.out _ HB6.out⟩
            have HC11:Hid (twice e.last=false):=htl;clear htl;have HPF:Hid (∀ c,firstOf [(pc12 e,3),(pc13 e,3)]=c->entErr na e=c):=fun c h=>by rw[HPE.out,part_is];simp only[firstOf,HC1.out,HCS.out,HC6.out,HC7.out,HC8.out,HC9.out,HC10.out,HC11.out];exact h
            have y7:=HX.out w6 HB6.out 7 _ rfl;have y8:=HX.out w6 HB6.out 8 _ rfl;have y9:=HX.out w6 HB6.out 9 _ rfl;have s1:=HSm.out.1.hf;have s2:=HSm.out.1.hl
            by_cases u1:e.edges.length=0
            ·have v1:(e.edges.length:Int)=0:=by omega
             by_cases u2:0 < e.first.length+e.last.length
             ·have v2:(0:Int) < (e.first.length:Int)+(e.last.length:Int):=by omega
              have HE:Hid (entErr na e=3):=HPF.out 3 (by have a1:pc12 e=false:=(by unfold pc12;rw[decide_eq_false (p:=0 < e.edges.length) (by omega)];rfl);have a2:pc13 e=true:=(by unfold pc13;rw[decide_eq_true u1,decide_eq_true u2];rfl);simp[firstOf,a1,a2]);rw[u1] at y7;go_wp2;go_ret;exact⟨by rw[HE.out];rfl,HBf.out _ HB6.out⟩
             ·have v2:¬(0:Int) < (e.first.length:Int)+(e.last.length:Int):=by omega
              have HE:Hid (entErr na e=0):=HPF.out 0 (by have a1:pc12 e=false:=(by unfold pc12;rw[decide_eq_false (p:=0 < e.edges.length) (by omega)];rfl);have a2:pc13 e=false:=(by unfold pc13;rw[decide_eq_true u1,decide_eq_false u2];rfl);simp[firstOf,a1,a2]);rw[u1] at y7;go_wp2;go_ret;exact⟨by rw[HE.out];rfl,HBf.out _ HB6.out⟩
            ·have v1:(0:Int) < (e.edges.length:Int):=by omega
             have v0:¬(e.edges.length:Int)=0:=by omega
             by_cases u2:e.first.length=0
             ·have HE:Hid (entErr na e=3):=HPF.out 3 (by have a1:pc12 e=true:=(by unfold pc12;rw[decide_eq_true (p:=0 < e.edges.length) (by omega),decide_eq_true u2];rfl);simp[firstOf,a1]);rw[u2] at y8;go_wp2;go_ret;exact⟨by rw[HE.out];rfl,HBf.out _ HB6.out⟩
             ·have v2:¬(e.first.length:Int)=0:=by omega
              have HE:Hid (entErr na e=0):=HPF.out 0 (by have a1:pc12 e=false:=(by unfold pc12;rw[decide_eq_false (p:=e.first.length=0) u2,Bool.and_false]);have a2:pc13 e=false:=(by unfold pc13;rw[decide_eq_false u1];rfl);simp[firstOf,a1,a2]);go_wp2;go_ret;exact⟨by rw[HE.out];rfl,HBf.out _ HB6.out⟩
end Go.Proofs.YtdpdbfhbojgigacGreatDoor
