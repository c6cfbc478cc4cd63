/-
  Several texts as one: CfEnt, CfCheck, CfTextGo, CfPLine.
-/
import Derived.Test.YtffpcbdlbcjihadGreatDoorP24S
import Derived.Test.YtffpcbdlbcjihadGreatDoorP01S
namespace Go.Proofs.YtffpcbdlbcjihadGreatDoor
open Go.RowKit Go.Extern.Stop Go.Stop Go.Extern
theorem errV_pos {A:Nat->Addr}{n:Nat}(h:n≠0):errV A n=.iface 400 (.pointer (some (A (n - 1)))):=by
 obtain⟨k,rfl⟩:∃ k,n=k+1:=⟨n - 1,by omega⟩;rfl
theorem ptsErr_step {a:List ByteArray}{l:List ByteArray}{k:Nat}{p:ByteArray}(hk:l[k]?=some p)(h:nameErr (a++l.take k) p=0):ptsErr (a++l.take k) (l.drop k)=ptsErr (a++l.take (k+1)) (l.drop (k+1)):=by
 obtain⟨hl,e⟩:=List.getElem?_eq_some_iff.1 hk;rw[List.drop_eq_getElem_cons hl,ptsErr,e,if_pos h,List.take_add_one,hk];simp
theorem ptsErr_stop {a:List ByteArray}{l:List ByteArray}{k:Nat}{p:ByteArray}(hk:l[k]?=some p)(h:nameErr (a++l.take k) p≠0):ptsErr (a++l.take k) (l.drop k)=nameErr (a++l.take k) p:=by
 obtain⟨hl,e⟩:=List.getElem?_eq_some_iff.1 hk;rw[List.drop_eq_getElem_cons hl,ptsErr,e,if_neg h]
set_option maxRecDepth 100000 in
set_option maxHeartbeats 4000000 in
theorem checkEntity_at (A:Nat->Addr)(e:EntD)(pa ga ea fa la:Option Addr)(pc gc ec fc lc:Nat)(w0 w:World)(rb bx mb:Nat)(a:List ByteArray)(hs0:Sen5 A w0)(hP:EntParts w0 e (.slice pa e.pts.length pc) (.slice ga e.gaps.length gc) (.slice ea e.edges.length ec) (.slice fa e.first.length fc) (.slice la e.last.length lc))(hS:SmallE e)(h:NamesIn A w0 w rb bx mb a)(hn:a.length<=1000000) :
  Calls Tryz.prog 92 #[.agg #[.string e.name,.int .i64 e.tol,.slice pa e.pts.length pc,.int .i64 e.cnt,.int .i64 e.mn,.int .i64 e.mx,.slice ga e.gaps.length gc,.slice ea e.edges.length ec,.slice fa e.first.length fc,.slice la e.last.length lc],.slice (some ⟨rb,0,none⟩) 2 2] w
   fun v w'=>v=.returned (errV A (entErr a e))/\Below w0.heap.size w0 w'/\(entErr a e=0->NamesIn A w0 w' rb bx mb (a++[e.name])):=by
 have HF:=fun W hW=>first_str A w0 W rb bx mb a e.name hW hS.hn hn
 have HFH:Hid _:=HF;have H:Hid (NamesIn A w0 w rb bx mb a):=h;have HPH:Hid (EntParts w0 e (.slice pa e.pts.length pc) (.slice ga e.gaps.length gc) (.slice ea e.edges.length ec) (.slice fa e.first.length fc) (.slice la e.last.length lc)):=hP;have HSH:Hid (SmallE e):=hS;have Hs0:Hid (Sen5 A w0):=hs0;clear HF h hP hS hs0 hn;go_enter Tryz.func92,Tryz.ntmps92
 go_wp2_with fail
 refine Calls.mono (HFH.out _ (H.out.below (Below.one _ _))) ?_;rintro v W1 ⟨rfl,hb1,hN1,hkp1⟩;clear HFH
 by_cases hE:nameErr a e.name=0
 ·have HN1:Hid (NamesIn A w0 W1 rb bx mb (a++[e.name])):=hN1 hE;have HE1:Hid (nameErr a e.name=0):=hE;have HBX:Hid (BoxAt W1 w.heap.size #[.string e.name,.int .i64 e.tol,.slice pa e.pts.length pc,.int .i64 e.cnt,.int .i64 e.mn,.int .i64 e.mx,.slice ga e.gaps.length gc,.slice ea e.edges.length ec,.slice fa e.first.length fc,.slice la e.last.length lc]):=fun j v ev=>hkp1 ⟨w.heap.size,j,none⟩ v (fun h=>by have:=H.out.own.lt;simp at h;omega) (BoxAt.new w _ _ j v ev)
  have HSv:Hid (Sen5 A W1):=Hs0.out.below hb1;have HPW1:Hid (EntParts W1 e (.slice pa e.pts.length pc) (.slice ga e.gaps.length gc) (.slice ea e.edges.length ec) (.slice fa e.first.length fc) (.slice la e.last.length lc)):=HPH.out.below hb1;rw[hE,show errV A 0=.nilIface from rfl];clear hN1 hE hb1 H hkp1;go_upto_region 4 with fail
  have hsz:sizeErr e=0\/sizeErr e≠0:=by omega
  rcases hsz with hz | hz
  ·have HE:Hid (errV A (sizeErr e)=.nilIface):=by show _=_;rw[hz];rfl
   have HZ:Hid (sizeErr e=0):=hz;clear hz
   go_cut [6] (fun r wx=>r=.nilIface/\Below W1.heap.size W1 wx)
   case first=>
    refine region_spec 4 rfl (ruleS (.agg #[.string e.name,.int .i64 e.tol,.slice pa e.pts.length pc,.int .i64 e.cnt,.int .i64 e.mn,.int .i64 e.mx,.slice ga e.gaps.length gc,.slice ea e.edges.length ec,.slice fa e.first.length fc,.slice la e.last.length lc]) 6 (sizeRow A) 278 (.nilIface)) (fun V=>Below W1.heap.size W1 V) (by kernel_rfl) (by kernel_rfl) (below_drew (Below.refl _ _)) ?_ ?_
    ·intro i o ho
     match i,ho with
     | 0,ho=>
       obtain rfl:=Option.some.inj ho
       refine StepOk.free rfl ?_;intro a V hC hdep hoth;have x0:a.tmps[2]?.getD undef=.pointer (some ⟨w.heap.size,0,none⟩):=slot_of (hoth 2 (notDst (by kernel_rfl)));have b0:V.cell? ⟨w.heap.size,0,none⟩=some (_):=cell_below hC (HBX.out 0 _ rfl);have b1:V.cell? ⟨w.heap.size,1,none⟩=some (_):=cell_below hC (HBX.out 1 _ rfl);have b2:V.cell? ⟨w.heap.size,2,none⟩=some (_):=cell_below hC (HBX.out 2 _ rfl);have b3:V.cell? ⟨w.heap.size,3,none⟩=some (_):=cell_below hC (HBX.out 3 _ rfl);have b4:V.cell? ⟨w.heap.size,4,none⟩=some (_):=cell_below hC (HBX.out 4 _ rfl);have b5:V.cell? ⟨w.heap.size,5,none⟩=some (_):=cell_below hC (HBX.out 5 _ rfl);have b6:V.cell? ⟨w.heap.size,6,none⟩=some (_):=cell_below hC (HBX.out 6 _ rfl);have b7:V.cell? ⟨w.heap.size,7,none⟩=some (_):=cell_below hC (HBX.out 7 _ rfl);have b8:V.cell? ⟨w.heap.size,8,none⟩=some (_):=cell_below hC (HBX.out 8 _ rfl);have b9:V.cell? ⟨w.heap.size,9,none⟩=some (_):=cell_below hC (HBX.out 9 _ rfl);exact goodRun.val (c:=.agg #[.string e.name,.int .i64 e.tol,.slice pa e.pts.length pc,.int .i64 e.cnt,.int .i64 e.mn,.int .i64 e.mx,.slice ga e.gaps.length gc,.slice ea e.edges.length ec,.slice fa e.first.length fc,.slice la e.last.length lc]) (by clear hdep hoth;go_simp) hC rfl
     | 1,ho=>
       obtain rfl:=Option.some.inj ho
       refine StepOk.free rfl ?_;intro a V hC hdep hoth
       refine goodRun.call (f:=150) (args:=#[]) (by clear hdep hoth;go_simp) ?_
       refine(sizeRules_at A _ (HSv.out.below hC)).mono ?_;rintro v V' ⟨rfl,rfl⟩;exact⟨_,rfl,hC.alloc hC.size _,ruleS_keeps (Below.one _ _),⟨_,rfl,heap_new _ _ _⟩⟩
     | 2,ho=>
       obtain rfl:=Option.some.inj ho
       refine StepOk.free rfl ?_;intro a V hC hdep hoth;have x1:a.tmps[18]?.getD undef=.agg #[.string e.name,.int .i64 e.tol,.slice pa e.pts.length pc,.int .i64 e.cnt,.int .i64 e.mn,.int .i64 e.mx,.slice ga e.gaps.length gc,.slice ea e.edges.length ec,.slice fa e.first.length fc,.slice la e.last.length lc]:=slot_of (hdep _ 18 (Array.mem_of_getElem? (i:=0) rfl) rfl rfl);obtain⟨r,hr1,hr2⟩:=hdep _ 19 (Array.mem_of_getElem? (i:=1) rfl) rfl rfl;have x2:a.tmps[19]?.getD undef=.slice (some ⟨r,0,none⟩) 6 6:=slot_of hr1
       refine goodRun.call (f:=149) (args:=#[.agg #[.string e.name,.int .i64 e.tol,.slice pa e.pts.length pc,.int .i64 e.cnt,.int .i64 e.mn,.int .i64 e.mx,.slice ga e.gaps.length gc,.slice ea e.edges.length ec,.slice fa e.first.length fc,.slice la e.last.length lc],.slice (some ⟨r,0,none⟩) 6 6]) (by clear hdep hoth hr1;go_simp) ?_
       refine(first_size A e pa ga ea fa la pc gc ec fc lc r _ hr2).mono ?_;rintro v V' ⟨rfl,hb⟩;exact⟨_,rfl,hC.trans (hb.mono hC.size),ruleS_keeps hb,HE.out⟩
     | 3,ho=>
       obtain rfl:=Option.some.inj ho
       refine StepOk.free rfl ?_;intro a V hC hdep hoth;have x3:a.tmps[20]?.getD undef=.nilIface:=slot_of (hdep _ 20 (Array.mem_of_getElem? (i:=0) rfl) rfl rfl);exact goodRun.val (c:=.nilIface) (by clear hdep hoth;go_simp) hC rfl
     | n+4,ho=>simp at ho
    ·intro vals V hC hS;have v3:vals 3=.nilIface:=hS 3 (by decide);have HCC:Hid (Below W1.heap.size W1 V):=hC;clear hS hC;simp only[fill,dstOf];go_simp
     go_wp2_with fail
     go_meet
     case rel=>exact⟨rfl,HCC.out⟩
   obtain⟨rfl,hb2⟩:=hcut;rename World=>W2
   have HB2:Hid (Below W1.heap.size W1 W2):=hb2;clear hb2;go_wp2_with fail
   refine(nameRules_at A _ (HSv.out.below HB2.out)).mono ?_;rintro v W3 ⟨rfl,hN3⟩;have p2:W3.cell? ⟨w.heap.size,2,none⟩=some (.slice pa e.pts.length pc):=cell_below (HB2.out.trans (hN3.bel.mono HB2.out.size)) (HBX.out 2 _ rfl);have H3:Hid (NamesIn A W2 W3 (W2.heap.size+2) (W2.heap.size+1) W2.heap.size []):=hN3;clear hN3;go_wp2_with fail
   clear p2
   go_loopw [9,10,28] (fun _ _ i wr=>∃ k:Nat,k<=e.pts.length/\i=.int .i64 k/\NamesIn A W2 wr (W2.heap.size+2) (W2.heap.size+1) W2.heap.size (e.pts.take k)/\Hid (ptsErr [] e.pts=ptsErr ([]++e.pts.take k) (e.pts.drop k))) (fun _ _ i _=>e.pts.length - (intOf i).toNat)
   case atStart=>exact⟨0,Nat.zero_le _,rfl,by simpa using H3.out,(show _=_ by simp)⟩
   case round=>
    clear H3;obtain⟨k,hk,rfl,hN,HPE⟩:=hrel;have HN:Hid (NamesIn A W2 wr (W2.heap.size+2) (W2.heap.size+1) W2.heap.size (e.pts.take k)):=hN;have hbr:Below W1.heap.size W1 wr:=HB2.out.trans (hN.bel.mono HB2.out.size);have HBr:Hid (Below W1.heap.size W1 wr):=hbr;clear hN
    by_cases hlt:k < e.pts.length
    ·obtain⟨q,hq⟩:∃ q,e.pts[k]?=some q:=⟨_,List.getElem?_eq_getElem hlt⟩;obtain⟨sa',cap',hsl,-,hcc⟩:=HPW1.out.hp
     cases hsl
     obtain⟨b,o,rfl,hc0⟩:=hcc (fun h=>by rw[h] at hq;simp at hq);have c0:=cell_below hbr (hc0 k q hq 0 _ rfl);simp only[Nat.mul_one,Nat.add_zero] at c0;have HQ:Hid (e.pts[k]?=some q):=hq;have hqm:q∈e.pts:=List.mem_of_getElem? hq;have HC:Hid _:=first_str A W2 wr (W2.heap.size+2) (W2.heap.size+1) W2.heap.size (e.pts.take k) q HN.out (HSH.out.hs q hqm) (by have:=HSH.out.hp;simp;omega);have k1:(k:Int) < (e.pts.length:Int):=by omega
     have k0:k < 1000000:=by have:=HSH.out.hp;omega
     clear hq hc0 hcc hbr hqm
     by_cases hE:nameErr (e.pts.take k) q=0
     ·go_wp2_with fail
      refine Calls.mono HC.out ?_;rintro v W' ⟨rfl,-,hN',-⟩;have HN':Hid (NamesIn A W2 W' (W2.heap.size+2) (W2.heap.size+1) W2.heap.size (e.pts.take k++[q])):=hN' hE;have HEE:Hid (nameErr (e.pts.take k) q=0):=hE;rw[hE,show errV A 0=.nilIface from rfl];clear hN' hE HC;go_wp2;go_roundw
      case rel=>
       refine⟨k+1,by omega,by go_num,?_,?_⟩
       ·rw[List.take_add_one,HQ.out];exact HN'.out
       ·show _=_
        rw[HPE.out,ptsErr_step HQ.out (by simpa using HEE.out)]
      case measure=>simp[intOf];omega
     ·go_wp2_with fail
      refine Calls.mono HC.out ?_;rintro v W' ⟨rfl,hb',-,-⟩;have HBz:Hid (Below w0.heap.size w0 W'):=(HN1.out.bel.trans (HB2.out.mono HN1.out.bel.size)).trans (hb'.mono (Nat.le_trans HN1.out.bel.size HB2.out.size));have HEE:Hid (entErr a e=nameErr (e.pts.take k) q):=by
       show _=_
       have h1:ptsErr [] e.pts=nameErr (e.pts.take k) q:=by rw[HPE.out,ptsErr_stop HQ.out (by simpa using hE)];simp
       unfold entErr;rw[if_neg (by rw[HE1.out];simp),if_neg (by rw[HZ.out];simp),if_pos (by rw[h1];exact hE),h1]
      have HNZ:Hid (nameErr (e.pts.take k) q≠0):=hE;rw[errV_pos hE];clear hb' hE HC;go_wp2;go_ret;exact⟨by rw[HEE.out,errV_pos HNZ.out];rfl,HBz.out,fun h=>absurd h (by rw[HEE.out];exact HNZ.out)⟩
    ·have k1:¬(k:Int) < (e.pts.length:Int):=by omega
     obtain rfl:k=e.pts.length:=by omega
     have HE2:Hid (entErr a e=partErr e):=by
      show _=_
      have h1:ptsErr [] e.pts=0:=by rw[HPE.out];simp[ptsErr]
      unfold entErr;rw[if_neg (by rw[HE1.out];simp),if_neg (by rw[HZ.out];simp),if_neg (by rw[h1];simp)]
     have HBX:Hid (BoxAt wr w.heap.size #[.string e.name,.int .i64 e.tol,.slice pa e.pts.length pc,.int .i64 e.cnt,.int .i64 e.mn,.int .i64 e.mx,.slice ga e.gaps.length gc,.slice ea e.edges.length ec,.slice fa e.first.length fc,.slice la e.last.length lc]):=HBX.out.below HBr.out;have HSv:Hid (Sen5 A wr):=HSv.out.below HBr.out;have HPW:Hid (EntParts wr e (.slice pa e.pts.length pc) (.slice ga e.gaps.length gc) (.slice ea e.edges.length ec) (.slice fa e.first.length fc) (.slice la e.last.length lc)):=HPW1.out.below HBr.out;have HNr:Hid (NamesIn A w0 wr rb bx mb (a++[e.name])):=HN1.out.below HBr.out;have HE:Hid (errV A (partErr e)=errV A (partErr e)):=rfl;clear hbr HN1 HB2 HPW1 HPE HPH;go_upto_region 15 with fail
     refine region_spec 4 rfl (ruleS (.agg #[.string e.name,.int .i64 e.tol,.slice pa e.pts.length pc,.int .i64 e.cnt,.int .i64 e.mn,.int .i64 e.mx,.slice ga e.gaps.length gc,.slice ea e.edges.length ec,.slice fa e.first.length fc,.slice la e.last.length lc]) 13 (partRow A) 278 (errV A (partErr e))) (fun V=>Below wr.heap.size wr V) (by kernel_rfl) (by kernel_rfl) (below_drew (Below.refl _ _)) ?_ ?_
     ·intro i o ho
      match i,ho with
      | 0,ho=>
        obtain rfl:=Option.some.inj ho
        refine StepOk.free rfl ?_;intro a V hC hdep hoth;have x0:a.tmps[2]?.getD undef=.pointer (some ⟨w.heap.size,0,none⟩):=slot_of (hoth 2 (notDst (by kernel_rfl)));have b0:V.cell? ⟨w.heap.size,0,none⟩=some (_):=cell_below hC (HBX.out 0 _ rfl);have b1:V.cell? ⟨w.heap.size,1,none⟩=some (_):=cell_below hC (HBX.out 1 _ rfl);have b2:V.cell? ⟨w.heap.size,2,none⟩=some (_):=cell_below hC (HBX.out 2 _ rfl);have b3:V.cell? ⟨w.heap.size,3,none⟩=some (_):=cell_below hC (HBX.out 3 _ rfl);have b4:V.cell? ⟨w.heap.size,4,none⟩=some (_):=cell_below hC (HBX.out 4 _ rfl);have b5:V.cell? ⟨w.heap.size,5,none⟩=some (_):=cell_below hC (HBX.out 5 _ rfl);have b6:V.cell? ⟨w.heap.size,6,none⟩=some (_):=cell_below hC (HBX.out 6 _ rfl);have b7:V.cell? ⟨w.heap.size,7,none⟩=some (_):=cell_below hC (HBX.out 7 _ rfl);have b8:V.cell? ⟨w.heap.size,8,none⟩=some (_):=cell_below hC (HBX.out 8 _ rfl);have b9:V.cell? ⟨w.heap.size,9,none⟩=some (_):=cell_below hC (HBX.out 9 _ rfl);exact goodRun.val (c:=.agg #[.string e.name,.int .i64 e.tol,.slice pa e.pts.length pc,.int .i64 e.cnt,.int .i64 e.mn,.int .i64 e.mx,.slice ga e.gaps.length gc,.slice ea e.edges.length ec,.slice fa e.first.length fc,.slice la e.last.length lc]) (by clear hdep hoth;go_simp) hC rfl
      | 1,ho=>
        obtain rfl:=Option.some.inj ho
        refine StepOk.free rfl ?_;intro a V hC hdep hoth
        refine goodRun.call (f:=151) (args:=#[]) (by clear hdep hoth;go_simp) ?_
        refine(partRules_at A _ (HSv.out.below hC)).mono ?_;rintro v V' ⟨rfl,rfl⟩;exact⟨_,rfl,hC.alloc hC.size _,ruleS_keeps (Below.one _ _),⟨_,rfl,heap_new _ _ _⟩⟩
      | 2,ho=>
        obtain rfl:=Option.some.inj ho
        refine StepOk.free rfl ?_;intro a V hC hdep hoth;have x1:a.tmps[39]?.getD undef=.agg #[.string e.name,.int .i64 e.tol,.slice pa e.pts.length pc,.int .i64 e.cnt,.int .i64 e.mn,.int .i64 e.mx,.slice ga e.gaps.length gc,.slice ea e.edges.length ec,.slice fa e.first.length fc,.slice la e.last.length lc]:=slot_of (hdep _ 39 (Array.mem_of_getElem? (i:=0) rfl) rfl rfl);obtain⟨r,hr1,hr2⟩:=hdep _ 40 (Array.mem_of_getElem? (i:=1) rfl) rfl rfl;have x2:a.tmps[40]?.getD undef=.slice (some ⟨r,0,none⟩) 13 13:=slot_of hr1
        refine goodRun.call (f:=149) (args:=#[.agg #[.string e.name,.int .i64 e.tol,.slice pa e.pts.length pc,.int .i64 e.cnt,.int .i64 e.mn,.int .i64 e.mx,.slice ga e.gaps.length gc,.slice ea e.edges.length ec,.slice fa e.first.length fc,.slice la e.last.length lc],.slice (some ⟨r,0,none⟩) 13 13]) (by clear hdep hoth hr1;go_simp) ?_
        refine(first_part A e pa ga ea fa la pc gc ec fc lc r _ (HPW.out.below hC) HSH.out hr2).mono ?_;rintro v V' ⟨rfl,hb⟩;exact⟨_,rfl,hC.trans (hb.mono hC.size),ruleS_keeps hb,HE.out⟩
      | 3,ho=>
        obtain rfl:=Option.some.inj ho
        refine StepOk.free rfl ?_;intro a V hC hdep hoth;have x3:a.tmps[41]?.getD undef=errV A (partErr e):=slot_of (hdep _ 41 (Array.mem_of_getElem? (i:=0) rfl) rfl rfl);exact goodRun.val (c:=errV A (partErr e)) (by clear hdep hoth;go_simp) hC rfl
      | n+4,ho=>simp at ho
     ·intro vals V hC hS;have v3:vals 3=errV A (partErr e):=hS 3 (by decide);have HCC:Hid (Below wr.heap.size wr V):=hC;clear hS hC;simp only[fill,dstOf];go_simp
      go_wp2;go_ret;exact⟨by rw[HE2.out];rfl,HNr.out.bel.trans (HCC.out.mono HNr.out.bel.size),fun _=>HNr.out.below HCC.out⟩
  ·have HE:Hid (errV A (sizeErr e)=.iface 400 (.pointer (some (A (sizeErr e - 1))))):=errV_pos hz;have HE2:Hid (entErr a e=sizeErr e):=by show _=_;unfold entErr;rw[if_neg (by rw[HE1.out];simp),if_pos hz]
   have HZ:Hid (sizeErr e≠0):=hz;clear hz;generalize A (sizeErr e - 1)=ad at *
   refine region_spec 4 rfl (ruleS (.agg #[.string e.name,.int .i64 e.tol,.slice pa e.pts.length pc,.int .i64 e.cnt,.int .i64 e.mn,.int .i64 e.mx,.slice ga e.gaps.length gc,.slice ea e.edges.length ec,.slice fa e.first.length fc,.slice la e.last.length lc]) 6 (sizeRow A) 278 (.iface 400 (.pointer (some ad)))) (fun V=>Below W1.heap.size W1 V) (by kernel_rfl) (by kernel_rfl) (below_drew (Below.refl _ _)) ?_ ?_
   ·intro i o ho
    match i,ho with
    | 0,ho=>
      obtain rfl:=Option.some.inj ho
      refine StepOk.free rfl ?_;intro a V hC hdep hoth;have x0:a.tmps[2]?.getD undef=.pointer (some ⟨w.heap.size,0,none⟩):=slot_of (hoth 2 (notDst (by kernel_rfl)));have b0:V.cell? ⟨w.heap.size,0,none⟩=some (_):=cell_below hC (HBX.out 0 _ rfl);have b1:V.cell? ⟨w.heap.size,1,none⟩=some (_):=cell_below hC (HBX.out 1 _ rfl);have b2:V.cell? ⟨w.heap.size,2,none⟩=some (_):=cell_below hC (HBX.out 2 _ rfl);have b3:V.cell? ⟨w.heap.size,3,none⟩=some (_):=cell_below hC (HBX.out 3 _ rfl);have b4:V.cell? ⟨w.heap.size,4,none⟩=some (_):=cell_below hC (HBX.out 4 _ rfl);have b5:V.cell? ⟨w.heap.size,5,none⟩=some (_):=cell_below hC (HBX.out 5 _ rfl);have b6:V.cell? ⟨w.heap.size,6,none⟩=some (_):=cell_below hC (HBX.out 6 _ rfl);have b7:V.cell? ⟨w.heap.size,7,none⟩=some (_):=cell_below hC (HBX.out 7 _ rfl);have b8:V.cell? ⟨w.heap.size,8,none⟩=some (_):=cell_below hC (HBX.out 8 _ rfl);have b9:V.cell? ⟨w.heap.size,9,none⟩=some (_):=cell_below hC (HBX.out 9 _ rfl);exact goodRun.val (c:=.agg #[.string e.name,.int .i64 e.tol,.slice pa e.pts.length pc,.int .i64 e.cnt,.int .i64 e.mn,.int .i64 e.mx,.slice ga e.gaps.length gc,.slice ea e.edges.length ec,.slice fa e.first.length fc,.slice la e.last.length lc]) (by clear hdep hoth;go_simp) hC rfl
    | 1,ho=>
      obtain rfl:=Option.some.inj ho
      refine StepOk.free rfl ?_;intro a V hC hdep hoth
      refine goodRun.call (f:=150) (args:=#[]) (by clear hdep hoth;go_simp) ?_
      refine(sizeRules_at A _ (HSv.out.below hC)).mono ?_;rintro v V' ⟨rfl,rfl⟩;exact⟨_,rfl,hC.alloc hC.size _,ruleS_keeps (Below.one _ _),⟨_,rfl,heap_new _ _ _⟩⟩
    | 2,ho=>
      obtain rfl:=Option.some.inj ho
      refine StepOk.free rfl ?_;intro a V hC hdep hoth;have x1:a.tmps[18]?.getD undef=.agg #[.string e.name,.int .i64 e.tol,.slice pa e.pts.length pc,.int .i64 e.cnt,.int .i64 e.mn,.int .i64 e.mx,.slice ga e.gaps.length gc,.slice ea e.edges.length ec,.slice fa e.first.length fc,.slice la e.last.length lc]:=slot_of (hdep _ 18 (Array.mem_of_getElem? (i:=0) rfl) rfl rfl);obtain⟨r,hr1,hr2⟩:=hdep _ 19 (Array.mem_of_getElem? (i:=1) rfl) rfl rfl;have x2:a.tmps[19]?.getD undef=.slice (some ⟨r,0,none⟩) 6 6:=slot_of hr1
      refine goodRun.call (f:=149) (args:=#[.agg #[.string e.name,.int .i64 e.tol,.slice pa e.pts.length pc,.int .i64 e.cnt,.int .i64 e.mn,.int .i64 e.mx,.slice ga e.gaps.length gc,.slice ea e.edges.length ec,.slice fa e.first.length fc,.slice la e.last.length lc],.slice (some ⟨r,0,none⟩) 6 6]) (by clear hdep hoth hr1;go_simp) ?_
      refine(first_size A e pa ga ea fa la pc gc ec fc lc r _ hr2).mono ?_;rintro v V' ⟨rfl,hb⟩;exact⟨_,rfl,hC.trans (hb.mono hC.size),ruleS_keeps hb,HE.out⟩
    | 3,ho=>
      obtain rfl:=Option.some.inj ho
      refine StepOk.free rfl ?_;intro a V hC hdep hoth;have x3:a.tmps[20]?.getD undef=.iface 400 (.pointer (some ad)):=slot_of (hdep _ 20 (Array.mem_of_getElem? (i:=0) rfl) rfl rfl);exact goodRun.val (c:=.iface 400 (.pointer (some ad))) (by clear hdep hoth;go_simp) hC rfl
    | n+4,ho=>simp at ho
   ·intro vals V hC hS;have v3:vals 3=.iface 400 (.pointer (some ad)):=hS 3 (by decide);have HCC:Hid (Below W1.heap.size W1 V):=hC;clear hS hC;simp only[fill,dstOf];go_simp
    go_wp2;go_ret;exact⟨by rw[HE2.out,HE.out];rfl,HN1.out.bel.trans (HCC.out.mono HN1.out.bel.size),fun h=>absurd h (by rw[HE2.out];exact HZ.out)⟩
 ·have HE1:Hid (entErr a e=nameErr a e.name):=by show _=_;unfold entErr;rw[if_pos hE]
  have HB1:Hid (Below w0.heap.size w0 W1):=hb1;have HNE:Hid (nameErr a e.name≠0):=hE;rw[errV_pos hE];clear hN1 hE hb1 H hkp1;go_wp2;go_ret;exact⟨by rw[HE1.out,errV_pos HNE.out];rfl,HB1.out,fun h=>absurd h (by rw[HE1.out];exact HNE.out)⟩
theorem firstOf_le {n:Nat}:∀ (l:List (Bool × Nat)),(∀ p∈l,p.2<=n)->firstOf l<=n
 | [],_=>Nat.zero_le _
 | (b,c) :: t,h=>by
  unfold firstOf
  split
  ·exact h (b,c) (by simp)
  ·exact firstOf_le t (fun p hp=>h p (by simp[hp]))
theorem nameErr_le (a:List ByteArray)(s:ByteArray):nameErr a s<=6:=by unfold nameErr;split <;> (try split) <;> omega
theorem ptsErr_le:∀ (l a:List ByteArray),ptsErr a l<=6
 | [],_=>by simp[ptsErr]
 | p :: t,a=>by unfold ptsErr;split;exact ptsErr_le t _;exact nameErr_le _ _
theorem entErr_le (a:List ByteArray)(e:EntD):entErr a e<=6:=by
 unfold entErr
 split
 ·exact nameErr_le _ _
 ·split
  ·unfold sizeErr;exact firstOf_le _ (by simp)
  ·split
   ·exact ptsErr_le _ _
   ·unfold partErr;exact firstOf_le _ (by simp)
theorem wholeErr_le (c:CfgD):wholeErr c<=6:=by unfold wholeErr;exact firstOf_le _ (by simp)
theorem entsErr_step {es:List EntD}{k:Nat}{e:EntD}(hk:es[k]?=some e)(h:entErr ((es.take k).map (·.name)) e=0):entsErr ((es.take k).map (·.name)) k (es.drop k)=entsErr ((es.take (k+1)).map (·.name)) (k+1) (es.drop (k+1)):=by
 obtain⟨hl,e'⟩:=List.getElem?_eq_some_iff.1 hk;rw[List.drop_eq_getElem_cons hl,entsErr,e',if_pos h,List.take_add_one,hk];simp
theorem entsErr_stop {es:List EntD}{k:Nat}{e:EntD}(hk:es[k]?=some e)(h:entErr ((es.take k).map (·.name)) e≠0):entsErr ((es.take k).map (·.name)) k (es.drop k)=(entErr ((es.take k).map (·.name)) e,(k:Int)):=by
 obtain⟨hl,e'⟩:=List.getElem?_eq_some_iff.1 hk;rw[List.drop_eq_getElem_cons hl,entsErr,e',if_neg h]
set_option maxRecDepth 100000 in
set_option maxHeartbeats 4000000 in
theorem check_at5 (A:Nat->Addr)(c:CfgD)(sa:Option Addr)(sc:Nat)(w:World)(hs:Sen5 A w)(hE:EntsAt w (.slice sa c.ents.length sc) c.ents)(hS:SmallC c) :
  Calls Tryz.prog 32 #[.agg #[.int .i64 c.closed,.int .i64 c.opn,.int .i64 c.cycle,.int .i64 c.delay,.slice sa c.ents.length sc]] w fun v w'=>∃ r,v=.returned r/\ErrAt A w' r (cfgErr c)/\Below w.heap.size w w':=by
 have HSH:Hid (SmallC c):=hS;have HEH:Hid (EntsAt w (.slice sa c.ents.length sc) c.ents):=hE;have HSv0:Hid (Sen5 A w):=hs;clear hS hE hs;go_enter Tryz.func32,Tryz.ntmps32
 go_upto_region 1 with fail
 obtain⟨W0,hW0⟩:∃ W0,W0=w.alloc (.cells #[.int .i64 c.closed,.int .i64 c.opn,.int .i64 c.cycle,.int .i64 c.delay,.slice sa c.ents.length sc] 30):=⟨_,rfl⟩;rw[<- hW0];have HB0:Hid (Below w.heap.size w W0):=by show Below _ _ _;rw[hW0];exact Below.one _ _
 have HBX:Hid (BoxAt W0 w.heap.size #[.int .i64 c.closed,.int .i64 c.opn,.int .i64 c.cycle,.int .i64 c.delay,.slice sa c.ents.length sc]):=by show BoxAt _ _ _;rw[hW0];exact BoxAt.new _ _ _
 have HSv:Hid (Sen5 A W0):=HSv0.out.below HB0.out;clear hW0;have hz:wholeErr c=0\/wholeErr c≠0:=by omega
 rcases hz with hz | hz
 ·have HE:Hid (errV A (wholeErr c)=.nilIface):=by show _=_;rw[hz];rfl
  have HZ:Hid (wholeErr c=0):=hz;clear hz
  go_cut [3] (fun r wx=>r=.nilIface/\Below W0.heap.size W0 wx)
  case first=>
   refine region_spec 4 rfl (ruleS (.agg #[.int .i64 c.closed,.int .i64 c.opn,.int .i64 c.cycle,.int .i64 c.delay,.slice sa c.ents.length sc]) 5 (cfgRow A) 208 (.nilIface)) (fun V=>Below W0.heap.size W0 V) (by kernel_rfl) (by kernel_rfl) (below_drew (Below.refl _ _)) ?_ ?_
   ·intro i o ho
    match i,ho with
    | 0,ho=>
      obtain rfl:=Option.some.inj ho
      refine StepOk.free rfl ?_;intro a V hC hdep hoth;have x0:a.tmps[1]?.getD undef=.pointer (some ⟨w.heap.size,0,none⟩):=slot_of (hoth 1 (notDst (by kernel_rfl)));have b0:V.cell? ⟨w.heap.size,0,none⟩=some (_):=cell_below hC (HBX.out 0 _ rfl);have b1:V.cell? ⟨w.heap.size,1,none⟩=some (_):=cell_below hC (HBX.out 1 _ rfl);have b2:V.cell? ⟨w.heap.size,2,none⟩=some (_):=cell_below hC (HBX.out 2 _ rfl);have b3:V.cell? ⟨w.heap.size,3,none⟩=some (_):=cell_below hC (HBX.out 3 _ rfl);have b4:V.cell? ⟨w.heap.size,4,none⟩=some (_):=cell_below hC (HBX.out 4 _ rfl);exact goodRun.val (c:=.agg #[.int .i64 c.closed,.int .i64 c.opn,.int .i64 c.cycle,.int .i64 c.delay,.slice sa c.ents.length sc]) (by clear hdep hoth;go_simp) hC rfl
    | 1,ho=>
      obtain rfl:=Option.some.inj ho
      refine StepOk.free rfl ?_;intro a V hC hdep hoth
      refine goodRun.call (f:=90) (args:=#[]) (by clear hdep hoth;go_simp) ?_
      refine(configRules_at A _ (HSv.out.below hC)).mono ?_;rintro v V' ⟨rfl,rfl⟩;exact⟨_,rfl,hC.alloc hC.size _,ruleS_keeps (Below.one _ _),⟨_,rfl,heap_new _ _ _⟩⟩
    | 2,ho=>
      obtain rfl:=Option.some.inj ho
      refine StepOk.free rfl ?_;intro a V hC hdep hoth;have x1:a.tmps[8]?.getD undef=.agg #[.int .i64 c.closed,.int .i64 c.opn,.int .i64 c.cycle,.int .i64 c.delay,.slice sa c.ents.length sc]:=slot_of (hdep _ 8 (Array.mem_of_getElem? (i:=0) rfl) rfl rfl);obtain⟨r,hr1,hr2⟩:=hdep _ 9 (Array.mem_of_getElem? (i:=1) rfl) rfl rfl;have x2:a.tmps[9]?.getD undef=.slice (some ⟨r,0,none⟩) 5 5:=slot_of hr1
      refine goodRun.call (f:=89) (args:=#[.agg #[.int .i64 c.closed,.int .i64 c.opn,.int .i64 c.cycle,.int .i64 c.delay,.slice sa c.ents.length sc],.slice (some ⟨r,0,none⟩) 5 5]) (by clear hdep hoth hr1;go_simp) ?_
      refine(first_whole A c sa sc r _ (HSv.out.below hC) hr2).mono ?_;rintro v V' ⟨rfl,hb⟩;exact⟨_,rfl,hC.trans (hb.mono hC.size),ruleS_keeps hb,HE.out⟩
    | 3,ho=>
      obtain rfl:=Option.some.inj ho
      refine StepOk.free rfl ?_;intro a V hC hdep hoth;have x3:a.tmps[10]?.getD undef=.nilIface:=slot_of (hdep _ 10 (Array.mem_of_getElem? (i:=0) rfl) rfl rfl);exact goodRun.val (c:=.nilIface) (by clear hdep hoth;go_simp) hC rfl
    | n+4,ho=>simp at ho
   ·intro vals V hC hS;have v3:vals 3=.nilIface:=hS 3 (by decide);have HCC:Hid (Below W0.heap.size W0 V):=hC;clear hS hC;simp only[fill,dstOf];go_simp
    go_wp2_with fail
    go_meet
    case rel=>exact⟨rfl,HCC.out⟩
  obtain⟨rfl,hb2⟩:=hcut;rename World=>W1
  have HB2:Hid (Below W0.heap.size W0 W1):=hb2;clear hb2;go_wp2_with fail
  refine(nameRules_at A _ (HSv.out.below HB2.out)).mono ?_;rintro v W3 ⟨rfl,hN3⟩;have p2:W3.cell? ⟨w.heap.size,4,none⟩=some (.slice sa c.ents.length sc):=cell_below (HB2.out.trans (hN3.bel.mono HB2.out.size)) (HBX.out 4 _ rfl);have H3:Hid (NamesIn A W1 W3 (W1.heap.size+2) (W1.heap.size+1) W1.heap.size []):=hN3;clear hN3;go_wp2_with fail
  clear p2
  go_loopw [5,6,7,18] (fun _ _ _ i wr=>∃ k:Nat,k<=c.ents.length/\i=.int .i64 k/\NamesIn A W1 wr (W1.heap.size+2) (W1.heap.size+1) W1.heap.size ((c.ents.take k).map (·.name))/\Hid (cfgErr c=entsErr ((c.ents.take k).map (·.name)) k (c.ents.drop k))) (fun _ _ _ i _=>c.ents.length - (intOf i).toNat)
  case atStart=>exact⟨0,Nat.zero_le _,rfl,by simpa using H3.out,(show _=_ by unfold cfgErr;rw[if_pos HZ.out];simp)⟩
  case round=>
   clear H3;obtain⟨k,hk,rfl,hN,HPE⟩:=hrel;have HN:Hid (NamesIn A W1 wr (W1.heap.size+2) (W1.heap.size+1) W1.heap.size ((c.ents.take k).map (·.name))):=hN;have HB1:Hid (Below w.heap.size w W1):=HB0.out.trans (HB2.out.mono HB0.out.size);have HBr:Hid (Below w.heap.size w wr):=HB1.out.trans (hN.bel.mono HB1.out.size);clear hN
   by_cases hlt:k < c.ents.length
   ·obtain⟨e,hq⟩:∃ e,c.ents[k]?=some e:=⟨_,List.getElem?_eq_getElem hlt⟩;obtain⟨sa',cap',hsl,hcc⟩:=HEH.out
    cases hsl
    obtain⟨b,o,rfl,hc0⟩:=hcc (fun h=>by rw[h] at hq;simp at hq);obtain⟨pv,gv,ev,fv,lv,hparts,hcell⟩:=hc0 k e hq;obtain⟨pa,pc,rfl,-,-⟩:=id hparts.hp;obtain⟨ga,gc,rfl,-,-⟩:=id hparts.hg;obtain⟨ea,ec,rfl,-,-⟩:=id hparts.he;obtain⟨fa,fc,rfl,-,-⟩:=id hparts.hf;obtain⟨la,lc,rfl,-,-⟩:=id hparts.hl;have c0:wr.cell? ⟨b,o+k*10,none⟩=some (.string e.name):=cell_below HBr.out (hcell 0 _ rfl);have c1:wr.cell? ⟨b,o+k*10+1,none⟩=some (.int .i64 e.tol):=cell_below HBr.out (hcell 1 _ rfl);have c2:wr.cell? ⟨b,o+k*10+2,none⟩=some (.slice pa e.pts.length pc):=cell_below HBr.out (hcell 2 _ rfl);have c3:wr.cell? ⟨b,o+k*10+3,none⟩=some (.int .i64 e.cnt):=cell_below HBr.out (hcell 3 _ rfl);have c4:wr.cell? ⟨b,o+k*10+4,none⟩=some (.int .i64 e.mn):=cell_below HBr.out (hcell 4 _ rfl);have c5:wr.cell? ⟨b,o+k*10+5,none⟩=some (.int .i64 e.mx):=cell_below HBr.out (hcell 5 _ rfl);have c6:wr.cell? ⟨b,o+k*10+6,none⟩=some (.slice ga e.gaps.length gc):=cell_below HBr.out (hcell 6 _ rfl);have c7:wr.cell? ⟨b,o+k*10+7,none⟩=some (.slice ea e.edges.length ec):=cell_below HBr.out (hcell 7 _ rfl);have c8:wr.cell? ⟨b,o+k*10+8,none⟩=some (.slice fa e.first.length fc):=cell_below HBr.out (hcell 8 _ rfl);have c9:wr.cell? ⟨b,o+k*10+9,none⟩=some (.slice la e.last.length lc):=cell_below HBr.out (hcell 9 _ rfl);have HQ:Hid (c.ents[k]?=some e):=hq;have HP:Hid _:=hparts.below HB1.out;have HSE:Hid (SmallE e):=HSH.out.he e (List.mem_of_getElem? hq);have k1:(k:Int) < (c.ents.length:Int):=by omega
    have k0:k < 1000000:=by have:=HSH.out.hn;omega
    have HC:Hid (∀ W,NamesIn A W1 W (W1.heap.size+2) (W1.heap.size+1) W1.heap.size ((c.ents.take k).map (·.name))->_):=fun W hW=>checkEntity_at A e pa ga ea fa la pc gc ec fc lc W1 W (W1.heap.size+2) (W1.heap.size+1) W1.heap.size ((c.ents.take k).map (·.name)) (HSv.out.below HB2.out) HP.out HSE.out hW (by have:=HSH.out.hn;simp;omega)
    clear hq hcell hparts hcc hc0
    by_cases hE:entErr ((c.ents.take k).map (·.name)) e=0
    ·go_wp2_with fail
     refine Calls.mono (HC.out _ (HN.out.below (Below.one _ _))) ?_;rintro v W' ⟨rfl,-,hN'⟩;have HN':Hid (NamesIn A W1 W' (W1.heap.size+2) (W1.heap.size+1) W1.heap.size ((c.ents.take k).map (·.name)++[e.name])):=hN' hE;have HEE:Hid (entErr ((c.ents.take k).map (·.name)) e=0):=hE;rw[hE,show errV A 0=.nilIface from rfl];clear hN' hE HC;go_wp2;go_roundw
     case rel=>
      refine⟨k+1,by omega,by go_num,?_,?_⟩
      ·rw[List.take_add_one,HQ.out];simpa using HN'.out
      ·show _=_
       rw[HPE.out,entsErr_step HQ.out HEE.out]
     case measure=>simp[intOf];omega
    ·go_wp2_with fail
     refine Calls.mono (HC.out _ (HN.out.below (Below.one _ _))) ?_;rintro v W' ⟨rfl,hb',-⟩;have HBz:Hid (Below w.heap.size w W'):=HB1.out.trans (hb'.mono HB1.out.size);have HEE:Hid (cfgErr c=(entErr ((c.ents.take k).map (·.name)) e,(k:Int))):=by
      show _=_
      rw[HPE.out,entsErr_stop HQ.out hE]
     have HNZ:Hid (entErr ((c.ents.take k).map (·.name)) e≠0):=hE;rw[errV_pos hE];clear hb' hE HC;go_wp2;go_ret
     refine⟨_,rfl,?_,HBz.out.alloc HBz.out.size _⟩;rw[HEE.out]
     refine⟨Nat.le_trans (entErr_le _ _) (by decide),Or.inr ⟨Nat.pos_of_ne_zero HNZ.out,_,rfl,by simp,by rw[errV_pos HNZ.out];simp⟩⟩
   ·have k1:¬(k:Int) < (c.ents.length:Int):=by omega
    obtain rfl:k=c.ents.length:=by omega
    have HE2:Hid (cfgErr c=(0,-1)):=by show _=_;rw[HPE.out];simp[entsErr]
    clear HPE HN HB1 HB2;go_wp2;go_ret
    refine⟨_,rfl,?_,HBr.out⟩;rw[HE2.out];exact⟨Nat.zero_le _,Or.inl ⟨rfl,rfl⟩⟩
 ·have HE:Hid (errV A (wholeErr c)=.iface 400 (.pointer (some (A (wholeErr c - 1))))):=errV_pos hz;have HE2:Hid (cfgErr c=(wholeErr c,-1)):=by show _=_;unfold cfgErr;rw[if_neg hz]
  clear hz;generalize A (wholeErr c - 1)=ad at *
  refine region_spec 4 rfl (ruleS (.agg #[.int .i64 c.closed,.int .i64 c.opn,.int .i64 c.cycle,.int .i64 c.delay,.slice sa c.ents.length sc]) 5 (cfgRow A) 208 (.iface 400 (.pointer (some ad)))) (fun V=>Below W0.heap.size W0 V) (by kernel_rfl) (by kernel_rfl) (below_drew (Below.refl _ _)) ?_ ?_
  ·intro i o ho
   match i,ho with
   | 0,ho=>
     obtain rfl:=Option.some.inj ho
     refine StepOk.free rfl ?_;intro a V hC hdep hoth;have x0:a.tmps[1]?.getD undef=.pointer (some ⟨w.heap.size,0,none⟩):=slot_of (hoth 1 (notDst (by kernel_rfl)));have b0:V.cell? ⟨w.heap.size,0,none⟩=some (_):=cell_below hC (HBX.out 0 _ rfl);have b1:V.cell? ⟨w.heap.size,1,none⟩=some (_):=cell_below hC (HBX.out 1 _ rfl);have b2:V.cell? ⟨w.heap.size,2,none⟩=some (_):=cell_below hC (HBX.out 2 _ rfl);have b3:V.cell? ⟨w.heap.size,3,none⟩=some (_):=cell_below hC (HBX.out 3 _ rfl);have b4:V.cell? ⟨w.heap.size,4,none⟩=some (_):=cell_below hC (HBX.out 4 _ rfl);exact goodRun.val (c:=.agg #[.int .i64 c.closed,.int .i64 c.opn,.int .i64 c.cycle,.int .i64 c.delay,.slice sa c.ents.length sc]) (by clear hdep hoth;go_simp) hC rfl
   | 1,ho=>
     obtain rfl:=Option.some.inj ho
     refine StepOk.free rfl ?_;intro a V hC hdep hoth
     refine goodRun.call (f:=90) (args:=#[]) (by clear hdep hoth;go_simp) ?_
     refine(configRules_at A _ (HSv.out.below hC)).mono ?_;rintro v V' ⟨rfl,rfl⟩;exact⟨_,rfl,hC.alloc hC.size _,ruleS_keeps (Below.one _ _),⟨_,rfl,heap_new _ _ _⟩⟩
   | 2,ho=>
     obtain rfl:=Option.some.inj ho
     refine StepOk.free rfl ?_;intro a V hC hdep hoth;have x1:a.tmps[8]?.getD undef=.agg #[.int .i64 c.closed,.int .i64 c.opn,.int .i64 c.cycle,.int .i64 c.delay,.slice sa c.ents.length sc]:=slot_of (hdep _ 8 (Array.mem_of_getElem? (i:=0) rfl) rfl rfl);obtain⟨r,hr1,hr2⟩:=hdep _ 9 (Array.mem_of_getElem? (i:=1) rfl) rfl rfl;have x2:a.tmps[9]?.getD undef=.slice (some ⟨r,0,none⟩) 5 5:=slot_of hr1
     refine goodRun.call (f:=89) (args:=#[.agg #[.int .i64 c.closed,.int .i64 c.opn,.int .i64 c.cycle,.int .i64 c.delay,.slice sa c.ents.length sc],.slice (some ⟨r,0,none⟩) 5 5]) (by clear hdep hoth hr1;go_simp) ?_
     refine(first_whole A c sa sc r _ (HSv.out.below hC) hr2).mono ?_;rintro v V' ⟨rfl,hb⟩;exact⟨_,rfl,hC.trans (hb.mono hC.size),ruleS_keeps hb,HE.out⟩
   | 3,ho=>
     obtain rfl:=Option.some.inj ho
     refine StepOk.free rfl ?_;intro a V hC hdep hoth;have x3:a.tmps[10]?.getD undef=.iface 400 (.pointer (some ad)):=slot_of (hdep _ 10 (Array.mem_of_getElem? (i:=0) rfl) rfl rfl);exact goodRun.val (c:=.iface 400 (.pointer (some ad))) (by clear hdep hoth;go_simp) hC rfl
   | n+4,ho=>simp at ho
  ·intro vals V hC hS;have v3:vals 3=.iface 400 (.pointer (some ad)):=hS 3 (by decide);have HCC:Hid (Below W0.heap.size W0 V):=hC;clear hS hC;simp only[fill,dstOf];go_simp
   go_wp2;go_ret
   refine⟨_,rfl,?_,HB0.out.trans (HCC.out.mono HB0.out.size)⟩;rw[HE2.out];exact⟨Nat.le_trans (wholeErr_le _) (by decide),Or.inl ⟨rfl,HE.out.symm⟩⟩
theorem check_at (A:Nat->Addr)(c:CfgD)(sa:Option Addr)(sc:Nat)(w:World)(hs:Sen6 A w)(hE:EntsAt w (.slice sa c.ents.length sc) c.ents)(hS:SmallC c) :
  Calls Tryz.prog 32 #[.agg #[.int .i64 c.closed,.int .i64 c.opn,.int .i64 c.cycle,.int .i64 c.delay,.slice sa c.ents.length sc]] w fun v w'=>∃ r,v=.returned r/\ErrAt A w' r (cfgErr c)/\Below w.heap.size w w':=check_at5 A c sa sc w hs.five hE hS
theorem ErrAt.nil {A:Nat->Addr}{w:World}{r:Value}{f:Nat × Int}(h:ErrAt A w r f)(h0:f.1=0):r=.nilIface:=by
 obtain⟨-,h1 | ⟨h1,-⟩⟩:=h
 ·rw[h1.2,h0];rfl
 ·omega
theorem ErrAt.some {A:Nat->Addr}{w:World}{r:Value}{f:Nat × Int}(h:ErrAt A w r f)(h0:f.1≠0):∃ t x,r=.iface t x:=by
 obtain⟨-,h1 | ⟨-,b,h1,-⟩⟩:=h
 ·rw[h1.2,errV_pos h0];exact⟨_,_,rfl⟩
 ·exact⟨_,_,h1⟩
theorem confText_ne (c:CfgD):confText c≠[]:=by unfold confText confLines;simp[kwLine,kw]
set_option maxHeartbeats 2000000 in
set_option maxRecDepth 100000 in
theorem text_ok (A:Nat->Addr)(c:CfgD)(sa:Option Addr)(sc:Nat)(w:World)(hs:Sen6 A w)(hK:KwAt w)(hT:TabAt w)(hG:(max 12 13+1)<=w.heap.size)(hE:EntsAt w (.slice sa c.ents.length sc) c.ents)(hS:SmallC c)(h0:(cfgErr c).1=0)
  (hO:∀ (B pb:Nat) (w':World),Below w.heap.size w w'->w.heap.size<=B->∀ e∈c.ents,EntOk B pb w w' e) (hl:((c.ents.flatMap entLines).flatMap (fun x=>x++[10])).length<=400000000) :
  Calls Tryz.prog 17 #[.agg #[.int .i64 c.closed,.int .i64 c.opn,.int .i64 c.cycle,.int .i64 c.delay,.slice sa c.ents.length sc]] w fun e w'=>e=.returned (.tuple #[.string ⟨(confText c).toArray⟩,.nilIface])/\Below w.heap.size w w':=by
 have hok:=okC_of h0;have HC:Hid _:=check_at A c sa sc _ (hs.alloc (.cells #[.int .i64 c.closed,.int .i64 c.opn,.int .i64 c.cycle,.int .i64 c.delay,.slice sa c.ents.length sc] 30)) (hE.below (Below.one _ _)) hS;have H0:Hid ((cfgErr c).1=0):=h0;have HP:Hid (∀ W,Below w.heap.size w W->Calls Tryz.prog 33 #[.pointer (some ⟨W.heap.size,0,none⟩),.agg #[.int .i64 c.closed,.int .i64 c.opn,.int .i64 c.cycle,.int .i64 c.delay,.slice sa c.ents.length sc]] (W.alloc (.cells #[.pointer none,.slice none 0 0,.slice none 0 0] 91)) fun e w'=>e=.returned (.tuple #[])/\(∃ pv',PageAt W.heap.size W.heap.size pv' (confText c) w')/\PFr W.heap.size W.heap.size (W.alloc (.cells #[.pointer none,.slice none 0 0,.slice none 0 0] 91)) w'):=fun W hW=>by
  have hW':Below w.heap.size w (W.alloc (.cells #[.pointer none,.slice none 0 0,.slice none 0 0] 91)):=hW.alloc hW.size _;exact config_at W.heap.size W.heap.size _ c sa sc w _ hW' hW.size (PageAt.new W) (hK.below hW' (Nat.lt_of_lt_of_le (show 12 < (max 12 13+1) by decide) hG)) (hT.below hW' hG) (Nat.le_trans hG hW.size) ⟨hok.closed.1,by have:=hok.closed.2;omega⟩ ⟨by have:=hok.opn.1;omega,by have:=hok.opn.2;omega⟩ ⟨by have:=hok.cycle.1;omega,by have:=hok.cycle.2;omega⟩ ⟨hok.delay.1,by have:=hok.delay.2;omega⟩ hE (hO _ _ _ hW' hW.size) hS.hn hl
 have HS:Hid (∀ W pv',PageAt W.heap.size W.heap.size pv' (confText c) W->True):=fun _ _ _=>trivial
 clear hs hK hT hG hE hS h0 hO hl hok HS;go_enter Tryz.func17,Tryz.ntmps17
 go_wp2_with fail
 refine Calls.mono HC.out ?_;rintro v W1 ⟨r,rfl,he,hb⟩;obtain rfl:=he.nil H0.out;have HB1:Hid (Below w.heap.size w W1):=(Below.one _ _).trans (hb.mono (by simp));have q:∀ j v,(#[.int .i64 c.closed,.int .i64 c.opn,.int .i64 c.cycle,.int .i64 c.delay,.slice sa c.ents.length sc]:Array Value)[j]?=some v->∀ o,(W1.alloc o).cell? ⟨w.heap.size,j,none⟩=some v:=fun j v e o=>cell_below ((Below.refl _ _).alloc (Nat.le_refl _) _) (cell_below hb (by rw[World.cell?_alloc_at _ _ _ _ rfl];exact e))
 have q0:=q 0 _ rfl;have q1:=q 1 _ rfl;have q2:=q 2 _ rfl;have q3:=q 3 _ rfl;have q4:=q 4 _ rfl;clear q hb he HC;go_wp2_with fail
 refine Calls.mono (HP.out W1 HB1.out) ?_;rintro v W2 ⟨rfl,⟨pv',hp2⟩,hf2⟩;have HB2:Hid (Below W1.heap.size W1 W2):=((Below.refl _ _).alloc (Nat.le_refl _) _).trans hf2.bel;have HSt:Hid _:=bld_string W1.heap.size W1.heap.size pv' (confText c) W2 hp2 (confText_ne c);clear hp2 hf2 q0 q1 q2 q3 q4 HP;go_wp2_with fail
 refine Calls.mono HSt.out ?_;rintro v W3 ⟨rfl,hb3⟩;go_wp2;go_ret2
 exact⟨rfl,HB1.out.trans ((HB2.out.trans hb3).mono HB1.out.size)⟩
theorem WordOk.later {B pb:Nat}{pv:Value}{w V:World}{x:Value × Bs}(h:WordOk B pb pv w x)(hf:PFr B pb w V):WordOk B pb pv V x:=
 fun W l hfr hp hle=>h W l (hf.trans hfr) hp hle
structure PgIn (B pb:Nat)(pv:Value)(W:World)(l:List UInt8)(pre:List Bs)(V:World):Prop where
 page:PageAt B pb pv (l++pre.flatMap (fun x=>x++[10])) V
 fr:PFr B pb W V
theorem line_pre {B pb:Nat}{pv:Value}{W V:World}{l:List UInt8}{pre:List Bs}(h:PgIn B pb pv W l pre V)(k:Nat)(ws:List (Value × Bs))(hk:k < 10)(hK:KwAt W)(hG:(max 12 13+1)<=B)(hw:∀ x∈ws,WordOk B pb pv W x)(hb:∀ x∈ws,x.2.length<=13)(hn:ws.length<=4)(hl:l.length<=500000000)(hp:(pre.flatMap (fun x=>x++[10])).length<=1000000) :
  Calls Tryz.prog 93 #[.pointer (some ⟨pb,0,none⟩),.slice (some ⟨V.heap.size,0,none⟩) (ws.length+1) (ws.length+1)] (V.alloc (.cells (.iface 154 (.int .i64 (k:Int)) :: ws.map (·.1)).toArray 20)) fun v V'=>v=.returned (.tuple #[])/\PgIn B pb pv W l (pre++[kwLine k (ws.map (·.2))]) V':=by
 have hf:PFr B pb W (V.alloc (.cells (.iface 154 (.int .i64 (k:Int)) :: ws.map (·.1)).toArray 20)):=h.fr.alloc h.page.2.1 _;have hlen:=kwLine_len k (ws.map (·.2)) (fun x hx=>by obtain⟨y,hy,rfl⟩:=List.mem_map.1 hx;exact hb y hy) (by simpa using hn)
 refine(line_kw B pb pv (l++pre.flatMap (fun x=>x++[10])) V.heap.size k ws _ (h.page.below (Below.oneC _ _)) (heap_newC _ _ _) (by have:=h.page.lt;omega) hk (hK.below hf.bel (Nat.lt_of_lt_of_le (show 12 < (max 12 13+1) by decide) hG)) hG (fun x hx=>(hw x hx).later hf) (by omega) (by rw[List.length_append];omega)).mono ?_;rintro v V' ⟨rfl,h1,h2⟩
 refine⟨rfl,?_,hf.trans h2⟩;have e:l++(pre++[kwLine k (ws.map (·.2))]).flatMap (fun x=>x++[10])=l++pre.flatMap (fun x=>x++[10])++(kwLine k (ws.map (·.2))++[10]):=by
  rw[List.flatMap_append,List.append_assoc];simp
 rw[e];exact h1
end Go.Proofs.YtffpcbdlbcjihadGreatDoor
