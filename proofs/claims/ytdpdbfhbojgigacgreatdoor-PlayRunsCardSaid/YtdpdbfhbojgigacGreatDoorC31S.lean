/-
  Several texts as one: LcEnd, TmEnd.
-/
import Derived.Test.YtdpdbfhbojgigacGreatDoorC17S
import Derived.Maps.AppendAt
namespace Go.Proofs.YtdpdbfhbojgigacGreatDoor
open Go.RowKit Go.Extern.Stop Go.Stop Go.Extern
def endS (e:EntD)(pa ga ea fa la:Option Addr)(pc gc ec fc lc:Nat)(b:Nat)(sv:Value)(since kd:Int):Nat->Value->World->Prop
 | 0=>fun v _=>v=.pointer (some ⟨b,0,none⟩)
 | 1=>fun v _=>v=.pointer (some ⟨b,0,none⟩)
 | 2=>fun v _=>v=.pointer (some ⟨b,0,none⟩)
 | 3=>fun v _=>v=.agg #[.string e.name,.int .i64 e.tol,.slice pa e.pts.length pc,.int .i64 e.cnt,.int .i64 e.mn,.int .i64 e.mx,.slice ga e.gaps.length gc,.slice ea e.edges.length ec,.slice fa e.first.length fc,.slice la e.last.length lc]
 | 4=>fun v _=>v=.pointer (some ⟨b,0,none⟩)
 | 5=>fun v _=>v=.pointer (some ⟨b,0,none⟩)
 | 6=>fun v _=>v=.pointer (some ⟨b,12,none⟩)
 | 7=>fun v _=>v=sv
 | 8=>fun v _=>v=.pointer (some ⟨b,0,none⟩)
 | 9=>fun v _=>v=.pointer (some ⟨b,0,none⟩)
 | 10=>fun v _=>v=.pointer (some ⟨b,11,none⟩)
 | 11=>fun v _=>v=.int .i64 since
 | 12=>fun v _=>v=.int .i64 kd
 | 13=>fun v _=>v=.int .i64 kd
 | _=>fun _ _=>True
theorem endS_keep {e:EntD}{pa ga ea fa la:Option Addr}{pc gc ec fc lc:Nat}{b:Nat}{sv:Value}{since kd:Int}{V V':World}{j:Nat}{v:Value}(h:endS e pa ga ea fa la pc gc ec fc lc b sv since kd j v V):endS e pa ga ea fa la pc gc ec fc lc b sv since kd j v V':=by
 match j,h with
 | 0,h=>exact h
 | 1,h=>exact h
 | 2,h=>exact h
 | 3,h=>exact h
 | 4,h=>exact h
 | 5,h=>exact h
 | 6,h=>exact h
 | 7,h=>exact h
 | 8,h=>exact h
 | 9,h=>exact h
 | 10,h=>exact h
 | 11,h=>exact h
 | 12,h=>exact h
 | 13,h=>exact h
 | n+14,h=>exact h
theorem gr_below {w w':World}{r:Option Nat}(hb:Below w.heap.size w w'):w.grownBy w' r:=⟨hb.os,hb.tape,hb.output,hb.size,fun k hk _=>hb.block k hk⟩
section
variable {w0 w w':World}{b:Nat}{e:EntD}{pa ga ea fa la:Option Addr}{pc gc ec fc lc:Nat}{s s':LSt}{sv sv':Value}
theorem LmIn.drewN (h:LmIn w0 w b e pa ga ea fa la pc gc ec fc lc s sv)(q:Nat):LmIn w0 (w.drewN q) b e pa ga ea fa la pc gc ec fc lc s sv:=h.below (below_drewN (Below.refl _ _) q)
set_option maxHeartbeats 4000000 in
set_option maxRecDepth 100000 in
theorem lm_end2 (h:LmIn w0 w b e pa ga ea fa la pc gc ec fc lc s sv)(hP:EntParts w e (.slice pa e.pts.length pc) (.slice ga e.gaps.length gc) (.slice ea e.edges.length ec) (.slice fa e.first.length fc) (.slice la e.last.length lc))(hSm:SmallE e)(hF:LFit s 900000)(hlen:s.ms.length<=1000)(ht:∀ m∈s.ms,0<=m.tick/\m.tick<=1099511627776) :
  Calls Tryz.prog 161 #[.pointer (some ⟨b,0,none⟩)] w fun v w'=>v=.returned (.tuple #[.int .i64 (s.kind e),.bool (s.turns e)])/\LmIn w0 w' b e pa ga ea fa la pc gc ec fc lc (s.fin e) sv/\w.grownBy w' (some b):=by
 obtain⟨act,since,ms,run,ex⟩:=s;have c10:w.cell? ⟨b,10,none⟩=some (.bool act):=h.cell 10 _ rfl
 cases act with
 | false=>
  have H:Hid (LmIn w0 w b e pa ga ea fa la pc gc ec fc lc ⟨false,since,ms,run,ex⟩ sv):=h;clear h hP hSm hF hlen ht;go_enter Tryz.func161,Tryz.ntmps161
  go_wp2;go_ret2
  exact⟨rfl,H.out,World.grownBy.refl _ _⟩
 | true=>
  obtain⟨kd,hkd⟩:∃ k,k=kindL e ms since:=⟨_,rfl⟩;have HKd:Hid (kd=kindL e ms since):=hkd;have HM:Hid (∀ V,Below w.heap.size w V->LmIn w0 V b e pa ga ea fa la pc gc ec fc lc ⟨true,since,ms,run,ex⟩ sv):=fun V hV=>h.below hV
  have HK:Hid (∀ V,Below w.heap.size w V->Calls Tryz.prog 211 #[.agg #[.string e.name,.int .i64 e.tol,.slice pa e.pts.length pc,.int .i64 e.cnt,.int .i64 e.mn,.int .i64 e.mx,.slice ga e.gaps.length gc,.slice ea e.edges.length ec,.slice fa e.first.length fc,.slice la e.last.length lc],sv,.int .i64 since] V fun v w'=>v=.returned (.int .i64 kd)/\Below V.heap.size V w'):=fun V hV=>by
   obtain⟨va,vc,rfl⟩:=ow_form h.own;rw[hkd];exact kindL_at e pa ga ea fa la pc gc ec fc lc ms since va vc V (hP.below hV) hSm ((h.below hV).own.slat) hlen ht
  have HB:Hid (0<=since/\since<=900000/\0<=run/\run<=900000):=⟨hF.s0,hF.s1,hF.r0,Int.le_trans hF.r1 hF.s1⟩;clear h hP hSm hF hlen ht hkd;go_enter Tryz.func161,Tryz.ntmps161
  go_upto_region 3 with fail
  go_cut [4,10,11,12,13,14,15,16,17,18,19,20,21,22] (fun v _ _ _ _ _ _ _ _ _ _ _ _ _ wx=>v=.int .i64 kd/\Below w.heap.size w wx)
  case first=>
    refine region_spec 14 rfl (endS e pa ga ea fa la pc gc ec fc lc b sv since kd) (fun V=>Below w.heap.size w V) (by kernel_rfl) (by kernel_rfl) (Below.refl _ _).drew ?_ ?_
    ·intro i o ho
     match i,ho with
     | 0,ho=>
      obtain rfl:=Option.some.inj ho
      refine StepOk.free rfl ?_;intro a V hC hdep hoth;have x0:a.tmps[0]?.getD undef=.pointer (some ⟨b,0,none⟩):=slot_of (hoth 0 (notDst (by kernel_rfl)));exact goodRun.val (c:=.pointer (some ⟨b,0,none⟩)) (by clear hdep hoth;go_simp) hC rfl
     | 1,ho=>
      obtain rfl:=Option.some.inj ho
      refine StepOk.free rfl ?_;intro a V hC hdep hoth;have x10:a.tmps[10]?.getD undef=.pointer (some ⟨b,0,none⟩):=slot_of (hdep _ 10 (Array.mem_of_getElem? (i:=0) rfl) rfl rfl);exact goodRun.val (c:=.pointer (some ⟨b,0,none⟩)) (by clear hdep hoth;go_simp) hC rfl
     | 2,ho=>
      obtain rfl:=Option.some.inj ho
      refine StepOk.free rfl ?_;intro a V hC hdep hoth;have x11:a.tmps[11]?.getD undef=.pointer (some ⟨b,0,none⟩):=slot_of (hdep _ 11 (Array.mem_of_getElem? (i:=0) rfl) rfl rfl);exact goodRun.val (c:=.pointer (some ⟨b,0,none⟩)) (by clear hdep hoth;go_simp) hC rfl
     | 3,ho=>
      obtain rfl:=Option.some.inj ho
      refine StepOk.free rfl ?_;intro a V hC hdep hoth;have x12:a.tmps[12]?.getD undef=.pointer (some ⟨b,0,none⟩):=slot_of (hdep _ 12 (Array.mem_of_getElem? (i:=0) rfl) rfl rfl);have b0:V.cell? ⟨b,0,none⟩=some (.string e.name):=(HM.out V hC).cell 0 _ rfl;have b1:V.cell? ⟨b,1,none⟩=some (.int .i64 e.tol):=(HM.out V hC).cell 1 _ rfl;have b2:V.cell? ⟨b,2,none⟩=some (.slice pa e.pts.length pc):=(HM.out V hC).cell 2 _ rfl;have b3:V.cell? ⟨b,3,none⟩=some (.int .i64 e.cnt):=(HM.out V hC).cell 3 _ rfl;have b4:V.cell? ⟨b,4,none⟩=some (.int .i64 e.mn):=(HM.out V hC).cell 4 _ rfl;have b5:V.cell? ⟨b,5,none⟩=some (.int .i64 e.mx):=(HM.out V hC).cell 5 _ rfl;have b6:V.cell? ⟨b,6,none⟩=some (.slice ga e.gaps.length gc):=(HM.out V hC).cell 6 _ rfl;have b7:V.cell? ⟨b,7,none⟩=some (.slice ea e.edges.length ec):=(HM.out V hC).cell 7 _ rfl;have b8:V.cell? ⟨b,8,none⟩=some (.slice fa e.first.length fc):=(HM.out V hC).cell 8 _ rfl;have b9:V.cell? ⟨b,9,none⟩=some (.slice la e.last.length lc):=(HM.out V hC).cell 9 _ rfl;exact goodRun.val (c:=.agg #[.string e.name,.int .i64 e.tol,.slice pa e.pts.length pc,.int .i64 e.cnt,.int .i64 e.mn,.int .i64 e.mx,.slice ga e.gaps.length gc,.slice ea e.edges.length ec,.slice fa e.first.length fc,.slice la e.last.length lc]) (by clear hdep hoth;go_simp) hC rfl
     | 4,ho=>
      obtain rfl:=Option.some.inj ho
      refine StepOk.free rfl ?_;intro a V hC hdep hoth;have x0:a.tmps[0]?.getD undef=.pointer (some ⟨b,0,none⟩):=slot_of (hoth 0 (notDst (by kernel_rfl)));exact goodRun.val (c:=.pointer (some ⟨b,0,none⟩)) (by clear hdep hoth;go_simp) hC rfl
     | 5,ho=>
      obtain rfl:=Option.some.inj ho
      refine StepOk.free rfl ?_;intro a V hC hdep hoth;have x14:a.tmps[14]?.getD undef=.pointer (some ⟨b,0,none⟩):=slot_of (hdep _ 14 (Array.mem_of_getElem? (i:=0) rfl) rfl rfl);exact goodRun.val (c:=.pointer (some ⟨b,0,none⟩)) (by clear hdep hoth;go_simp) hC rfl
     | 6,ho=>
      obtain rfl:=Option.some.inj ho
      refine StepOk.free rfl ?_;intro a V hC hdep hoth;have x15:a.tmps[15]?.getD undef=.pointer (some ⟨b,0,none⟩):=slot_of (hdep _ 15 (Array.mem_of_getElem? (i:=0) rfl) rfl rfl);exact goodRun.val (c:=.pointer (some ⟨b,12,none⟩)) (by clear hdep hoth;go_simp) hC rfl
     | 7,ho=>
      obtain rfl:=Option.some.inj ho
      refine StepOk.free rfl ?_;intro a V hC hdep hoth;have x16:a.tmps[16]?.getD undef=.pointer (some ⟨b,12,none⟩):=slot_of (hdep _ 16 (Array.mem_of_getElem? (i:=0) rfl) rfl rfl);have b12:V.cell? ⟨b,12,none⟩=some sv:=(HM.out V hC).cell 12 _ rfl;exact goodRun.val (c:=sv) (by clear hdep hoth;go_simp) hC rfl
     | 8,ho=>
      obtain rfl:=Option.some.inj ho
      refine StepOk.free rfl ?_;intro a V hC hdep hoth;have x0:a.tmps[0]?.getD undef=.pointer (some ⟨b,0,none⟩):=slot_of (hoth 0 (notDst (by kernel_rfl)));exact goodRun.val (c:=.pointer (some ⟨b,0,none⟩)) (by clear hdep hoth;go_simp) hC rfl
     | 9,ho=>
      obtain rfl:=Option.some.inj ho
      refine StepOk.free rfl ?_;intro a V hC hdep hoth;have x18:a.tmps[18]?.getD undef=.pointer (some ⟨b,0,none⟩):=slot_of (hdep _ 18 (Array.mem_of_getElem? (i:=0) rfl) rfl rfl);exact goodRun.val (c:=.pointer (some ⟨b,0,none⟩)) (by clear hdep hoth;go_simp) hC rfl
     | 10,ho=>
      obtain rfl:=Option.some.inj ho
      refine StepOk.free rfl ?_;intro a V hC hdep hoth;have x19:a.tmps[19]?.getD undef=.pointer (some ⟨b,0,none⟩):=slot_of (hdep _ 19 (Array.mem_of_getElem? (i:=0) rfl) rfl rfl);exact goodRun.val (c:=.pointer (some ⟨b,11,none⟩)) (by clear hdep hoth;go_simp) hC rfl
     | 11,ho=>
      obtain rfl:=Option.some.inj ho
      refine StepOk.free rfl ?_;intro a V hC hdep hoth;have x20:a.tmps[20]?.getD undef=.pointer (some ⟨b,11,none⟩):=slot_of (hdep _ 20 (Array.mem_of_getElem? (i:=0) rfl) rfl rfl);have b11:V.cell? ⟨b,11,none⟩=some (.int .i64 since):=(HM.out V hC).cell 11 _ rfl;exact goodRun.val (c:=.int .i64 since) (by clear hdep hoth;go_simp) hC rfl
     | 12,ho=>
      obtain rfl:=Option.some.inj ho
      refine StepOk.free rfl ?_;intro a V hC hdep hoth;have x13:a.tmps[13]?.getD undef=.agg #[.string e.name,.int .i64 e.tol,.slice pa e.pts.length pc,.int .i64 e.cnt,.int .i64 e.mn,.int .i64 e.mx,.slice ga e.gaps.length gc,.slice ea e.edges.length ec,.slice fa e.first.length fc,.slice la e.last.length lc]:=slot_of (hdep _ 13 (Array.mem_of_getElem? (i:=0) rfl) rfl rfl);have x17:a.tmps[17]?.getD undef=sv:=slot_of (hdep _ 17 (Array.mem_of_getElem? (i:=1) rfl) rfl rfl);have x21:a.tmps[21]?.getD undef=.int .i64 since:=slot_of (hdep _ 21 (Array.mem_of_getElem? (i:=2) rfl) rfl rfl)
      refine goodRun.call (f:=211) (args:=#[.agg #[.string e.name,.int .i64 e.tol,.slice pa e.pts.length pc,.int .i64 e.cnt,.int .i64 e.mn,.int .i64 e.mx,.slice ga e.gaps.length gc,.slice ea e.edges.length ec,.slice fa e.first.length fc,.slice la e.last.length lc],sv,.int .i64 since]) (by clear hdep hoth;go_simp) ?_
      refine(HK.out V hC).mono ?_;rintro v V' ⟨rfl,hb⟩;exact⟨_,rfl,hC.trans (hb.mono hC.size),(fun j v h=>endS_keep h),rfl⟩
     | 13,ho=>
      obtain rfl:=Option.some.inj ho
      refine StepOk.free rfl ?_;intro a V hC hdep hoth;have x22:a.tmps[22]?.getD undef=.int .i64 kd:=slot_of (hdep _ 22 (Array.mem_of_getElem? (i:=0) rfl) rfl rfl);exact goodRun.val (c:=.int .i64 kd) (by clear hdep hoth;go_simp) hC rfl
     | n+14,ho=>simp at ho
    ·intro vals V hC hS;have v13:vals 13=.int .i64 kd:=hS 13 (by decide);have HCC:Hid (Below w.heap.size w V):=hC;clear hS hC;simp only[fill,dstOf];go_simp
     go_wp2_with fail
     go_meet
     case rel=>exact⟨by first | rfl | exact v13,HCC.out⟩
  obtain⟨rfl,hb1⟩:=hcut;rename World=>w1
  have hm:=HM.out w1 hb1;have HB1:Hid (Below w.heap.size w w1):=hb1;have f11:=hm.frozen 11;have f13:=hm.frozen 13;have f14:=hm.frozen 14;have c11:w1.cell? ⟨b,11,none⟩=some (.int .i64 since):=hm.cell 11 _ rfl;have c13:w1.cell? ⟨b,13,none⟩=some (.int .i64 run):=hm.cell 13 _ rfl;have c14:w1.cell? ⟨b,14,none⟩=some (.bool ex):=hm.cell 14 _ rfl;have c1:w1.cell? ⟨b,1,none⟩=some (.int .i64 e.tol):=hm.cell 1 _ rfl;have HG1:Hid (w.grownBy w1 (some b)):=⟨hb1.os,hb1.tape,hb1.output,hb1.size,fun k hk _=>hb1.block k hk⟩;obtain⟨s0,s1,r0,r1⟩:=HB.out;clear hb1 HM HK c10
  by_cases hk:kd=0
  ·have HR:Hid (LSt.run1 e ⟨true,since,ms,run,ex⟩=0):=by show _=_;unfold LSt.run1;rw[if_pos (by rw[<- HKd.out];exact hk)]
   have h2:=(hm.put 11 (.int .i64 (since+1)) (s':=⟨true,since+1,ms,run,ex⟩) (sv':=sv) rfl hm.own);have h3:=h2.put 13 (.int .i64 0) (s':=⟨true,since+1,ms,0,ex⟩) (sv':=sv) rfl h2.own;have H3:Hid _:=h3;have HG:Hid _:=(HG1.out.trans (grown_setCell w1 b 11 (.int .i64 (since+1)))).trans (grown_setCell _ b 13 (.int .i64 0));clear h2 h3 hm
   cases ex with
   | true=>
    have HE:Hid (LSt.fin e ⟨true,since,ms,run,true⟩=⟨true,since+1,ms,0,true⟩/\LSt.turns e ⟨true,since,ms,run,true⟩=false):=by
     unfold LSt.fin LSt.turns;rw[HR.out];exact⟨by simp,by simp⟩
    go_wp2_with fail
    go_quiet (fail)
    go_wp2;go_ret2
    exact⟨by rw[HE.out.2];show _=Ending.returned (.tuple #[.int .i64 (LSt.kind e ⟨true,since,ms,run,true⟩),_]);rw[show LSt.kind e ⟨true,since,ms,run,true⟩=kd from HKd.out.symm];first | rfl | (rw[hk];rfl),by rw[HE.out.1];exact LmIn.drewN H3.out _,HG.out.trans (gr_below (below_drewN (Below.refl _ _) _))⟩
   | false=>
    by_cases ht:e.tol < 0
    ·have HE:Hid (LSt.fin e ⟨true,since,ms,run,false⟩=⟨true,since+1,ms,0,true⟩/\LSt.turns e ⟨true,since,ms,run,false⟩=true):=by
      unfold LSt.fin LSt.turns;rw[HR.out];exact⟨by simp[ht],by simp[ht]⟩
     go_wp2_with fail
     go_quiet (fail)
     go_wp2;go_ret2
     have h4:=fun q=>(LmIn.drewN H3.out q).put 14 (.bool true) (s':=⟨true,since+1,ms,0,true⟩) (sv':=sv) rfl (LmIn.drewN H3.out q).own
     exact⟨by rw[HE.out.2];show _=Ending.returned (.tuple #[.int .i64 (LSt.kind e ⟨true,since,ms,run,false⟩),_]);rw[show LSt.kind e ⟨true,since,ms,run,false⟩=kd from HKd.out.symm];first | rfl | (rw[hk];rfl),by rw[HE.out.1];exact h4 _,(HG.out.trans (gr_below (below_drewN (Below.refl _ _) _))).trans (grown_setCell _ b 14 (.bool true))⟩
    ·have HE:Hid (LSt.fin e ⟨true,since,ms,run,false⟩=⟨true,since+1,ms,0,false⟩/\LSt.turns e ⟨true,since,ms,run,false⟩=false):=by
      unfold LSt.fin LSt.turns;rw[HR.out];exact⟨by simp[ht],by simp[ht]⟩
     go_wp2_with fail
     go_quiet (fail)
     go_wp2;go_ret2
     exact⟨by rw[HE.out.2];show _=Ending.returned (.tuple #[.int .i64 (LSt.kind e ⟨true,since,ms,run,false⟩),_]);rw[show LSt.kind e ⟨true,since,ms,run,false⟩=kd from HKd.out.symm];first | rfl | (rw[hk];rfl),by rw[HE.out.1];exact LmIn.drewN H3.out _,HG.out.trans (gr_below (below_drewN (Below.refl _ _) _))⟩
  ·have hk2:(kd == 0)=false:=by simp[hk]
   have HR:Hid (LSt.run1 e ⟨true,since,ms,run,ex⟩=(run+1)):=by show _=_;unfold LSt.run1;rw[if_neg (by rw[<- HKd.out];exact hk)]
   have h2:=(hm.put 11 (.int .i64 (since+1)) (s':=⟨true,since+1,ms,run,ex⟩) (sv':=sv) rfl hm.own);have h3:=h2.put 13 (.int .i64 (run+1)) (s':=⟨true,since+1,ms,(run+1),ex⟩) (sv':=sv) rfl h2.own;have H3:Hid _:=h3;have HG:Hid _:=(HG1.out.trans (grown_setCell w1 b 11 (.int .i64 (since+1)))).trans (grown_setCell _ b 13 (.int .i64 (run+1)));clear h2 h3 hm
   cases ex with
   | true=>
    have HE:Hid (LSt.fin e ⟨true,since,ms,run,true⟩=⟨true,since+1,ms,(run+1),true⟩/\LSt.turns e ⟨true,since,ms,run,true⟩=false):=by
     unfold LSt.fin LSt.turns;rw[HR.out];exact⟨by simp,by simp⟩
    go_wp2_with fail
    go_quiet (fail)
    go_wp2;go_ret2
    exact⟨by rw[HE.out.2];show _=Ending.returned (.tuple #[.int .i64 (LSt.kind e ⟨true,since,ms,run,true⟩),_]);rw[show LSt.kind e ⟨true,since,ms,run,true⟩=kd from HKd.out.symm];first | rfl | (rw[hk];rfl),by rw[HE.out.1];exact LmIn.drewN H3.out _,HG.out.trans (gr_below (below_drewN (Below.refl _ _) _))⟩
   | false=>
    by_cases ht:e.tol < (run+1)
    ·have HE:Hid (LSt.fin e ⟨true,since,ms,run,false⟩=⟨true,since+1,ms,(run+1),true⟩/\LSt.turns e ⟨true,since,ms,run,false⟩=true):=by
      unfold LSt.fin LSt.turns;rw[HR.out];exact⟨by simp[ht],by simp[ht]⟩
     go_wp2_with fail
     go_quiet (fail)
     go_wp2;go_ret2
     have h4:=fun q=>(LmIn.drewN H3.out q).put 14 (.bool true) (s':=⟨true,since+1,ms,(run+1),true⟩) (sv':=sv) rfl (LmIn.drewN H3.out q).own
     exact⟨by rw[HE.out.2];show _=Ending.returned (.tuple #[.int .i64 (LSt.kind e ⟨true,since,ms,run,false⟩),_]);rw[show LSt.kind e ⟨true,since,ms,run,false⟩=kd from HKd.out.symm];first | rfl | (rw[hk];rfl),by rw[HE.out.1];exact h4 _,(HG.out.trans (gr_below (below_drewN (Below.refl _ _) _))).trans (grown_setCell _ b 14 (.bool true))⟩
    ·have HE:Hid (LSt.fin e ⟨true,since,ms,run,false⟩=⟨true,since+1,ms,(run+1),false⟩/\LSt.turns e ⟨true,since,ms,run,false⟩=false):=by
      unfold LSt.fin LSt.turns;rw[HR.out];exact⟨by simp[ht],by simp[ht]⟩
     go_wp2_with fail
     go_quiet (fail)
     go_wp2;go_ret2
     exact⟨by rw[HE.out.2];show _=Ending.returned (.tuple #[.int .i64 (LSt.kind e ⟨true,since,ms,run,false⟩),_]);rw[show LSt.kind e ⟨true,since,ms,run,false⟩=kd from HKd.out.symm];first | rfl | (rw[hk];rfl),by rw[HE.out.1];exact LmIn.drewN H3.out _,HG.out.trans (gr_below (below_drewN (Below.refl _ _) _))⟩
end
section
variable {w0 w w':World}{b:Nat}{s s':TSt}
def tmRow (s:TSt):Array Value:=#[.int .i64 (s.delay:Int),.int .i64 (s.since:Int),.string (totB s.st)]
structure TmIn (w0 w:World)(b:Nat)(s:TSt):Prop where
 heap:w.heap[b]?=some (.cells (tmRow s) 134 (0,0))
 bel:Below w0.heap.size w0 w
 lo:w0.heap.size<=b
theorem TmIn.below (h:TmIn w0 w b s)(hb:Below w.heap.size w w'):TmIn w0 w' b s:=⟨row_below hb h.heap,h.bel.trans (hb.mono h.bel.size),h.lo⟩
theorem idx_has (l:List ByteArray)(x:ByteArray):(0<=idxOf l x) ↔ hasB l x=true:=by
 constructor
 ·intro h
  cases hb:hasB l x with
  | true=>rfl
  | false=>
   have:idxOf l x=-1:=idxOf_no (fun j y _ hy e=>by
    have:=List.any_eq_false.1 hb y (List.mem_of_getElem? hy);simp[e] at this)
   omega
 ·intro h;unfold hasB at h;obtain⟨y,hy,he⟩:=List.any_eq_true.1 h;unfold idxOf
  split
  ·omega
  ·rename_i hn;have:=List.findIdx?_eq_none_iff.1 hn y hy;rw[he] at this
   cases this
theorem gr_drewQ (w:World)(q:Nat)(r:Option Nat):w.grownBy (w.drewN q) r:=by
 have h:=below_drewN (Below.refl w.heap.size w) q;exact⟨h.os,h.tape,h.output,h.size,fun k hk _=>h.block k hk⟩
theorem TmIn.put (h:TmIn w0 w b s)(j:Nat)(u:Value)(hr:(tmRow s).setIfInBounds j u=tmRow s'):TmIn w0 (w.setCell ⟨b,j,none⟩ u) b s':=by
 refine⟨?_,h.bel.setCell (p:=⟨b,j,none⟩) h.lo _,h.lo⟩;simp only[World.setCell,Array.getElem?_modify,h.heap];simp[<- hr]
set_option maxHeartbeats 4000000 in
set_option maxRecDepth 100000 in
theorem tm_end {k:Nat}(l:List ByteArray)(sa:Option Addr)(cap:Nat)(h:TmIn w0 w b s)(hf:TFit s k)(hk:k<=100000)(hl:∀ V,w.grownBy V (some b)->SlAt encS 1 V (.slice sa l.length cap) l)(hn:l.length<=1000000) :
  Calls Tryz.prog 163 #[.pointer (some ⟨b,0,none⟩),.slice sa l.length cap] w fun v w'=>v=.returned (.tuple #[])/\TmIn w0 w' b (s.fin l)/\w.grownBy w' (some b):=by
 have HLs:Hid (∀ V,w.grownBy V (some b)->SlAt encS 1 V (.slice sa l.length cap) l):=hl;have HN:Hid (l.length<=1000000):=hn;obtain⟨d,si,st⟩:=s;have hr:=h.heap;have c0:w.cell? ⟨b,0,none⟩=some (.int .i64 (d:Int)):=by simp[World.cell?,hr,tmRow]
 have c1:w.cell? ⟨b,1,none⟩=some (.int .i64 (si:Int)):=by simp[World.cell?,hr,tmRow]
 have c2':w.cell? ⟨b,2,none⟩=some (.string (totB st)):=by simp[World.cell?,hr,tmRow]
 have q:∀ i,w.frozen? ⟨b,i,none⟩=false:=fun i=>by simp[World.frozen?,hr]
 have hst:st<=3:=hf.st;have hsi:si<=100000:=Nat.le_trans hf.s0 hk;have hz:st < 2->si=0:=hf.z;have H:Hid (TmIn w0 w b ⟨d,si,st⟩):=h;clear hr h hf hl hn hk;have go:∀ x,totB st=x->w.cell? ⟨b,2,none⟩=some (.string x):=fun x hx=>by rw[<- hx];exact c2'
 clear c2'
 by_cases h3:st=3
 ·subst h3;have c2:=go ⟨#[115,116,111,112,112,101,100]⟩ rfl;clear go;go_enter Tryz.func163,Tryz.ntmps163
  go_wp2;(try simp only[Exit.inBlock,Exit.then]);refine bodyPost_ret (results_none rfl _ _ _) rfl ?_
  exact⟨rfl,H.out,World.grownBy.refl _ _⟩
 by_cases h2:st=2
 ·subst h2;have c2:=go ⟨#[101,120,112,105,114,101,100]⟩ rfl;clear go;go_enter Tryz.func163,Tryz.ntmps163
  go_upto_region 10 with fail
  obtain⟨V,hV⟩:∃ V,V=w.setCell ⟨b,1,none⟩ (.int .i64 ((si:Int)+1)):=⟨_,rfl⟩;rw[<- hV];have HV:Hid (TmIn w0 V b ⟨d,si+1,2⟩):=by show TmIn _ _ _ _;rw[hV];exact H.out.put 1 _ (by simp[tmRow])
  have HG:Hid (w.grownBy V (some b)):=by show World.grownBy _ _ _;rw[hV];exact grown_setCell _ _ _ _
  clear hV;have e0:V.cell? ⟨b,0,none⟩=some (.int .i64 (d:Int)):=by have:=HV.out.heap;simp[World.cell?,this,tmRow]
  have e1:V.cell? ⟨b,1,none⟩=some (.int .i64 ((si:Int)+1)):=by have:=HV.out.heap;simp[World.cell?,this,tmRow]
  have e2:V.cell? ⟨b,2,none⟩=some (.string ⟨#[101,120,112,105,114,101,100]⟩):=by have:=HV.out.heap;simp[World.cell?,this,tmRow,totB,expiredB]
  have q2:∀ i,V.frozen? ⟨b,i,none⟩=false:=fun i=>by have:=HV.out.heap;simp[World.frozen?,this]
  clear c0 c1 c2 q
  by_cases hd:si+1=d
  ·have hd':((si:Int)+1)=(d:Int):=by omega
   have HE:Hid (TSt.fin ⟨d,si,2⟩ l=⟨d,si+1,3⟩):=by show _=_;rw[show TSt.fin ⟨d,si,2⟩ l=TSt.cut ⟨d,si+1,2⟩ from rfl];unfold TSt.cut;rw[if_pos ⟨rfl,hd⟩]
   go_quiet (fail)
   go_wp2;go_end0
   exact⟨rfl,by rw[HE.out];exact(HV.out.below (below_drewN (Below.refl _ _) _)).put 2 _ rfl,(HG.out.trans (gr_drewQ _ _ _)).trans (grown_setCell _ _ _ _)⟩
  ·have hd':¬((si:Int)+1)=(d:Int):=by omega
   have HE:Hid (TSt.fin ⟨d,si,2⟩ l=⟨d,si+1,2⟩):=by show _=_;rw[show TSt.fin ⟨d,si,2⟩ l=TSt.cut ⟨d,si+1,2⟩ from rfl];unfold TSt.cut;rw[if_neg (fun x=>hd x.2)]
   go_quiet (fail)
   go_wp2;go_end0
   exact⟨rfl,by rw[HE.out];exact HV.out.below (below_drewN (Below.refl _ _) _),HG.out.trans (gr_drewQ _ _ _)⟩
 obtain rfl:si=0:=hz (by omega);have HW:Hid (TSt.fin ⟨d,0,st⟩ l=TSt.cut ⟨d,0,worstOf l⟩):=by show _=_;unfold TSt.fin;rw[if_neg h3,if_neg h2]
 have h01:st=0\/st=1:=by omega
 clear hst h2 h3 hz
 rcases h01 with rfl | rfl
 ·have c2:=go ⟨#[111,107]⟩ rfl;clear go
  cases hf:hasB l failedB
  ·have g1:¬0<=idxOf l ⟨#[102,97,105,108,101,100]⟩:=fun x=>by have:=(idx_has l failedB).1 x;rw[hf] at this;cases this
   cases hx:hasB l expiredB
   ·have g2:¬0<=idxOf l ⟨#[101,120,112,105,114,101,100]⟩:=fun x=>by have:=(idx_has l expiredB).1 x;rw[hx] at this;cases this
    have HWo:Hid (worstOf l=0):=by show _=_;unfold worstOf;rw[if_neg (by rw[hx];simp),if_neg (by rw[hf];simp)]
    clear hf hx;go_enter Tryz.func163,Tryz.ntmps163
    go_wp2_with fail
    refine(index_at l ⟨#[102,97,105,108,101,100]⟩ sa cap _ (HLs.out _ (grown_setCell _ _ _ _)) HN.out).mono ?_;rintro v w1 ⟨rfl,rfl⟩;go_wp2_with fail
    refine(index_at l ⟨#[101,120,112,105,114,101,100]⟩ sa cap _ (HLs.out _ (grown_setCell _ _ _ _)) HN.out).mono ?_;rintro v w2 ⟨rfl,rfl⟩;go_upto_region 10 with fail
    obtain⟨V,hV⟩:∃ V,V=w.setCell ⟨b,2,none⟩ (.string ⟨#[111,107]⟩):=⟨_,rfl⟩;rw[<- hV];have HV:Hid (TmIn w0 V b ⟨d,0,0⟩):=by show TmIn _ _ _ _;rw[hV];exact H.out.put (s':=⟨d,0,0⟩) 2 _ (by simp[tmRow,totB])
    have HG:Hid (w.grownBy V (some b)):=by show World.grownBy _ _ _;rw[hV];exact grown_setCell _ _ _ _
    clear hV;have e0:V.cell? ⟨b,0,none⟩=some (.int .i64 (d:Int)):=by have:=HV.out.heap;simp[World.cell?,this,tmRow]
    have e1:V.cell? ⟨b,1,none⟩=some (.int .i64 (0)):=by have:=HV.out.heap;simp[World.cell?,this,tmRow]
    have e2:V.cell? ⟨b,2,none⟩=some (.string ⟨#[111,107]⟩):=by have:=HV.out.heap;simp[World.cell?,this,tmRow,totB]
    have q2:∀ i,V.frozen? ⟨b,i,none⟩=false:=fun i=>by have:=HV.out.heap;simp[World.frozen?,this]
    clear c0 c1 c2 q;have HE:Hid (TSt.fin ⟨d,0,0⟩ l=⟨d,0,0⟩):=by show _=_;rw[HW.out,HWo.out];unfold TSt.cut;rw[if_neg (fun x=>by have:(0:Nat)=2:=x.1;omega)]
    go_quiet (fail)
    go_wp2;go_end0
    exact⟨rfl,by rw[HE.out];exact HV.out.below (below_drewN (Below.refl _ _) _),HG.out.trans (gr_drewQ _ _ _)⟩
   ·have g2:0<=idxOf l ⟨#[101,120,112,105,114,101,100]⟩:=(idx_has l expiredB).2 hx;have HWo:Hid (worstOf l=2):=by show _=_;unfold worstOf;rw[if_pos hx]
    clear hf hx;go_enter Tryz.func163,Tryz.ntmps163
    go_wp2_with fail
    refine(index_at l ⟨#[102,97,105,108,101,100]⟩ sa cap _ (HLs.out _ (grown_setCell _ _ _ _)) HN.out).mono ?_;rintro v w1 ⟨rfl,rfl⟩;go_wp2_with fail
    refine(index_at l ⟨#[101,120,112,105,114,101,100]⟩ sa cap _ (HLs.out _ (grown_setCell _ _ _ _)) HN.out).mono ?_;rintro v w2 ⟨rfl,rfl⟩;go_upto_region 10 with fail
    obtain⟨V,hV⟩:∃ V,V=((w.setCell ⟨b,2,none⟩ (.string ⟨#[111,107]⟩)).setCell ⟨b,2,none⟩ (.string ⟨#[101,120,112,105,114,101,100]⟩)).setCell ⟨b,1,none⟩ (.int .i64 0):=⟨_,rfl⟩;rw[<- hV];have HV:Hid (TmIn w0 V b ⟨d,0,2⟩):=by show TmIn _ _ _ _;rw[hV];exact((H.out.put (s':=⟨d,0,0⟩) 2 _ (by simp[tmRow,totB])).put (s':=⟨d,0,2⟩) 2 _ (by simp[tmRow,totB,expiredB])).put (s':=⟨d,0,2⟩) 1 _ (by simp[tmRow])
    have HG:Hid (w.grownBy V (some b)):=by show World.grownBy _ _ _;rw[hV];exact((grown_setCell _ _ _ _).trans (grown_setCell _ _ _ _)).trans (grown_setCell _ _ _ _)
    clear hV;have e0:V.cell? ⟨b,0,none⟩=some (.int .i64 (d:Int)):=by have:=HV.out.heap;simp[World.cell?,this,tmRow]
    have e1:V.cell? ⟨b,1,none⟩=some (.int .i64 (0)):=by have:=HV.out.heap;simp[World.cell?,this,tmRow]
    have e2:V.cell? ⟨b,2,none⟩=some (.string ⟨#[101,120,112,105,114,101,100]⟩):=by have:=HV.out.heap;simp[World.cell?,this,tmRow,totB,expiredB]
    have q2:∀ i,V.frozen? ⟨b,i,none⟩=false:=fun i=>by have:=HV.out.heap;simp[World.frozen?,this]
    clear c0 c1 c2 q
    by_cases hd:d=0
    ·subst hd;have HE:Hid (TSt.fin ⟨0,0,0⟩ l=⟨0,0,3⟩):=by show _=_;rw[HW.out,HWo.out];unfold TSt.cut;rw[if_pos ⟨rfl,rfl⟩]
     simp only[Int.ofNat_zero] at e0;go_quiet (fail)
     go_wp2;go_end0
     exact⟨rfl,by rw[HE.out];exact(HV.out.below (below_drewN (Below.refl _ _) _)).put 2 _ rfl,(HG.out.trans (gr_drewQ _ _ _)).trans (grown_setCell _ _ _ _)⟩
    ·have hd':¬(0:Int)=(d:Int):=by omega
     have hd2:¬(d:Int)=0:=by omega
     have HE:Hid (TSt.fin ⟨d,0,0⟩ l=⟨d,0,2⟩):=by show _=_;rw[HW.out,HWo.out];unfold TSt.cut;rw[if_neg (fun x=>hd x.2.symm)]
     go_quiet (fail)
     go_wp2;go_end0
     exact⟨rfl,by rw[HE.out];exact HV.out.below (below_drewN (Below.refl _ _) _),HG.out.trans (gr_drewQ _ _ _)⟩
  ·have g1:0<=idxOf l ⟨#[102,97,105,108,101,100]⟩:=(idx_has l failedB).2 hf
   cases hx:hasB l expiredB
   ·have g2:¬0<=idxOf l ⟨#[101,120,112,105,114,101,100]⟩:=fun x=>by have:=(idx_has l expiredB).1 x;rw[hx] at this;cases this
    have HWo:Hid (worstOf l=1):=by show _=_;unfold worstOf;rw[if_neg (by rw[hx];simp),if_pos hf]
    clear hf hx;go_enter Tryz.func163,Tryz.ntmps163
    go_wp2_with fail
    refine(index_at l ⟨#[102,97,105,108,101,100]⟩ sa cap _ (HLs.out _ (grown_setCell _ _ _ _)) HN.out).mono ?_;rintro v w1 ⟨rfl,rfl⟩;go_wp2_with fail
    refine(index_at l ⟨#[101,120,112,105,114,101,100]⟩ sa cap _ (HLs.out _ ((grown_setCell _ _ _ _).trans (grown_setCell _ _ _ _))) HN.out).mono ?_;rintro v w2 ⟨rfl,rfl⟩;go_upto_region 10 with fail
    obtain⟨V,hV⟩:∃ V,V=(w.setCell ⟨b,2,none⟩ (.string ⟨#[111,107]⟩)).setCell ⟨b,2,none⟩ (.string ⟨#[102,97,105,108,101,100]⟩):=⟨_,rfl⟩;rw[<- hV];have HV:Hid (TmIn w0 V b ⟨d,0,1⟩):=by show TmIn _ _ _ _;rw[hV];exact(H.out.put (s':=⟨d,0,0⟩) 2 _ (by simp[tmRow,totB])).put (s':=⟨d,0,1⟩) 2 _ (by simp[tmRow,totB,failedB])
    have HG:Hid (w.grownBy V (some b)):=by show World.grownBy _ _ _;rw[hV];exact(grown_setCell _ _ _ _).trans (grown_setCell _ _ _ _)
    clear hV;have e0:V.cell? ⟨b,0,none⟩=some (.int .i64 (d:Int)):=by have:=HV.out.heap;simp[World.cell?,this,tmRow]
    have e1:V.cell? ⟨b,1,none⟩=some (.int .i64 (0)):=by have:=HV.out.heap;simp[World.cell?,this,tmRow]
    have e2:V.cell? ⟨b,2,none⟩=some (.string ⟨#[102,97,105,108,101,100]⟩):=by have:=HV.out.heap;simp[World.cell?,this,tmRow,totB,failedB]
    have q2:∀ i,V.frozen? ⟨b,i,none⟩=false:=fun i=>by have:=HV.out.heap;simp[World.frozen?,this]
    clear c0 c1 c2 q;have HE:Hid (TSt.fin ⟨d,0,0⟩ l=⟨d,0,1⟩):=by show _=_;rw[HW.out,HWo.out];unfold TSt.cut;rw[if_neg (fun x=>by have:(1:Nat)=2:=x.1;omega)]
    go_quiet (fail)
    go_wp2;go_end0
    exact⟨rfl,by rw[HE.out];exact HV.out.below (below_drewN (Below.refl _ _) _),HG.out.trans (gr_drewQ _ _ _)⟩
   ·have g2:0<=idxOf l ⟨#[101,120,112,105,114,101,100]⟩:=(idx_has l expiredB).2 hx;have HWo:Hid (worstOf l=2):=by show _=_;unfold worstOf;rw[if_pos hx]
    clear hf hx;go_enter Tryz.func163,Tryz.ntmps163
    go_wp2_with fail
    refine(index_at l ⟨#[102,97,105,108,101,100]⟩ sa cap _ (HLs.out _ (grown_setCell _ _ _ _)) HN.out).mono ?_;rintro v w1 ⟨rfl,rfl⟩;go_wp2_with fail
    refine(index_at l ⟨#[101,120,112,105,114,101,100]⟩ sa cap _ (HLs.out _ ((grown_setCell _ _ _ _).trans (grown_setCell _ _ _ _))) HN.out).mono ?_;rintro v w2 ⟨rfl,rfl⟩;go_upto_region 10 with fail
    obtain⟨V,hV⟩:∃ V,V=(((w.setCell ⟨b,2,none⟩ (.string ⟨#[111,107]⟩)).setCell ⟨b,2,none⟩ (.string ⟨#[102,97,105,108,101,100]⟩)).setCell ⟨b,2,none⟩ (.string ⟨#[101,120,112,105,114,101,100]⟩)).setCell ⟨b,1,none⟩ (.int .i64 0):=⟨_,rfl⟩;rw[<- hV];have HV:Hid (TmIn w0 V b ⟨d,0,2⟩):=by show TmIn _ _ _ _;rw[hV];exact(((H.out.put (s':=⟨d,0,0⟩) 2 _ (by simp[tmRow,totB])).put (s':=⟨d,0,1⟩) 2 _ (by simp[tmRow,totB,failedB])).put (s':=⟨d,0,2⟩) 2 _ (by simp[tmRow,totB,expiredB])).put (s':=⟨d,0,2⟩) 1 _ (by simp[tmRow])
    have HG:Hid (w.grownBy V (some b)):=by show World.grownBy _ _ _;rw[hV];exact(((grown_setCell _ _ _ _).trans (grown_setCell _ _ _ _)).trans (grown_setCell _ _ _ _)).trans (grown_setCell _ _ _ _)
    clear hV;have e0:V.cell? ⟨b,0,none⟩=some (.int .i64 (d:Int)):=by have:=HV.out.heap;simp[World.cell?,this,tmRow]
    have e1:V.cell? ⟨b,1,none⟩=some (.int .i64 (0)):=by have:=HV.out.heap;simp[World.cell?,this,tmRow]
    have e2:V.cell? ⟨b,2,none⟩=some (.string ⟨#[101,120,112,105,114,101,100]⟩):=by have:=HV.out.heap;simp[World.cell?,this,tmRow,totB,expiredB]
    have q2:∀ i,V.frozen? ⟨b,i,none⟩=false:=fun i=>by have:=HV.out.heap;simp[World.frozen?,this]
    clear c0 c1 c2 q
    by_cases hd:d=0
    ·subst hd;have HE:Hid (TSt.fin ⟨0,0,0⟩ l=⟨0,0,3⟩):=by show _=_;rw[HW.out,HWo.out];unfold TSt.cut;rw[if_pos ⟨rfl,rfl⟩]
     simp only[Int.ofNat_zero] at e0;go_quiet (fail)
     go_wp2;go_end0
     exact⟨rfl,by rw[HE.out];exact(HV.out.below (below_drewN (Below.refl _ _) _)).put 2 _ rfl,(HG.out.trans (gr_drewQ _ _ _)).trans (grown_setCell _ _ _ _)⟩
    ·have hd':¬(0:Int)=(d:Int):=by omega
     have hd2:¬(d:Int)=0:=by omega
     have HE:Hid (TSt.fin ⟨d,0,0⟩ l=⟨d,0,2⟩):=by show _=_;rw[HW.out,HWo.out];unfold TSt.cut;rw[if_neg (fun x=>hd x.2.symm)]
     go_quiet (fail)
     go_wp2;go_end0
     exact⟨rfl,by rw[HE.out];exact HV.out.below (below_drewN (Below.refl _ _) _),HG.out.trans (gr_drewQ _ _ _)⟩
 ·have c2:=go ⟨#[102,97,105,108,101,100]⟩ rfl;clear go
  cases hf:hasB l failedB
  ·have g1:¬0<=idxOf l ⟨#[102,97,105,108,101,100]⟩:=fun x=>by have:=(idx_has l failedB).1 x;rw[hf] at this;cases this
   cases hx:hasB l expiredB
   ·have g2:¬0<=idxOf l ⟨#[101,120,112,105,114,101,100]⟩:=fun x=>by have:=(idx_has l expiredB).1 x;rw[hx] at this;cases this
    have HWo:Hid (worstOf l=0):=by show _=_;unfold worstOf;rw[if_neg (by rw[hx];simp),if_neg (by rw[hf];simp)]
    clear hf hx;go_enter Tryz.func163,Tryz.ntmps163
    go_wp2_with fail
    refine(index_at l ⟨#[102,97,105,108,101,100]⟩ sa cap _ (HLs.out _ (grown_setCell _ _ _ _)) HN.out).mono ?_;rintro v w1 ⟨rfl,rfl⟩;go_wp2_with fail
    refine(index_at l ⟨#[101,120,112,105,114,101,100]⟩ sa cap _ (HLs.out _ (grown_setCell _ _ _ _)) HN.out).mono ?_;rintro v w2 ⟨rfl,rfl⟩;go_upto_region 10 with fail
    obtain⟨V,hV⟩:∃ V,V=w.setCell ⟨b,2,none⟩ (.string ⟨#[111,107]⟩):=⟨_,rfl⟩;rw[<- hV];have HV:Hid (TmIn w0 V b ⟨d,0,0⟩):=by show TmIn _ _ _ _;rw[hV];exact H.out.put (s':=⟨d,0,0⟩) 2 _ (by simp[tmRow,totB])
    have HG:Hid (w.grownBy V (some b)):=by show World.grownBy _ _ _;rw[hV];exact grown_setCell _ _ _ _
    clear hV;have e0:V.cell? ⟨b,0,none⟩=some (.int .i64 (d:Int)):=by have:=HV.out.heap;simp[World.cell?,this,tmRow]
    have e1:V.cell? ⟨b,1,none⟩=some (.int .i64 (0)):=by have:=HV.out.heap;simp[World.cell?,this,tmRow]
    have e2:V.cell? ⟨b,2,none⟩=some (.string ⟨#[111,107]⟩):=by have:=HV.out.heap;simp[World.cell?,this,tmRow,totB]
    have q2:∀ i,V.frozen? ⟨b,i,none⟩=false:=fun i=>by have:=HV.out.heap;simp[World.frozen?,this]
    clear c0 c1 c2 q;have HE:Hid (TSt.fin ⟨d,0,1⟩ l=⟨d,0,0⟩):=by show _=_;rw[HW.out,HWo.out];unfold TSt.cut;rw[if_neg (fun x=>by have:(0:Nat)=2:=x.1;omega)]
    go_quiet (fail)
    go_wp2;go_end0
    exact⟨rfl,by rw[HE.out];exact HV.out.below (below_drewN (Below.refl _ _) _),HG.out.trans (gr_drewQ _ _ _)⟩
   ·have g2:0<=idxOf l ⟨#[101,120,112,105,114,101,100]⟩:=(idx_has l expiredB).2 hx;have HWo:Hid (worstOf l=2):=by show _=_;unfold worstOf;rw[if_pos hx]
    clear hf hx;go_enter Tryz.func163,Tryz.ntmps163
    go_wp2_with fail
    refine(index_at l ⟨#[102,97,105,108,101,100]⟩ sa cap _ (HLs.out _ (grown_setCell _ _ _ _)) HN.out).mono ?_;rintro v w1 ⟨rfl,rfl⟩;go_wp2_with fail
    refine(index_at l ⟨#[101,120,112,105,114,101,100]⟩ sa cap _ (HLs.out _ (grown_setCell _ _ _ _)) HN.out).mono ?_;rintro v w2 ⟨rfl,rfl⟩;go_upto_region 10 with fail
    obtain⟨V,hV⟩:∃ V,V=((w.setCell ⟨b,2,none⟩ (.string ⟨#[111,107]⟩)).setCell ⟨b,2,none⟩ (.string ⟨#[101,120,112,105,114,101,100]⟩)).setCell ⟨b,1,none⟩ (.int .i64 0):=⟨_,rfl⟩;rw[<- hV];have HV:Hid (TmIn w0 V b ⟨d,0,2⟩):=by show TmIn _ _ _ _;rw[hV];exact((H.out.put (s':=⟨d,0,0⟩) 2 _ (by simp[tmRow,totB])).put (s':=⟨d,0,2⟩) 2 _ (by simp[tmRow,totB,expiredB])).put (s':=⟨d,0,2⟩) 1 _ (by simp[tmRow])
    have HG:Hid (w.grownBy V (some b)):=by show World.grownBy _ _ _;rw[hV];exact((grown_setCell _ _ _ _).trans (grown_setCell _ _ _ _)).trans (grown_setCell _ _ _ _)
    clear hV;have e0:V.cell? ⟨b,0,none⟩=some (.int .i64 (d:Int)):=by have:=HV.out.heap;simp[World.cell?,this,tmRow]
    have e1:V.cell? ⟨b,1,none⟩=some (.int .i64 (0)):=by have:=HV.out.heap;simp[World.cell?,this,tmRow]
    have e2:V.cell? ⟨b,2,none⟩=some (.string ⟨#[101,120,112,105,114,101,100]⟩):=by have:=HV.out.heap;simp[World.cell?,this,tmRow,totB,expiredB]
    have q2:∀ i,V.frozen? ⟨b,i,none⟩=false:=fun i=>by have:=HV.out.heap;simp[World.frozen?,this]
    clear c0 c1 c2 q
    by_cases hd:d=0
    ·subst hd;have HE:Hid (TSt.fin ⟨0,0,1⟩ l=⟨0,0,3⟩):=by show _=_;rw[HW.out,HWo.out];unfold TSt.cut;rw[if_pos ⟨rfl,rfl⟩]
     simp only[Int.ofNat_zero] at e0;go_quiet (fail)
     go_wp2;go_end0
     exact⟨rfl,by rw[HE.out];exact(HV.out.below (below_drewN (Below.refl _ _) _)).put 2 _ rfl,(HG.out.trans (gr_drewQ _ _ _)).trans (grown_setCell _ _ _ _)⟩
    ·have hd':¬(0:Int)=(d:Int):=by omega
     have hd2:¬(d:Int)=0:=by omega
     have HE:Hid (TSt.fin ⟨d,0,1⟩ l=⟨d,0,2⟩):=by show _=_;rw[HW.out,HWo.out];unfold TSt.cut;rw[if_neg (fun x=>hd x.2.symm)]
     go_quiet (fail)
     go_wp2;go_end0
     exact⟨rfl,by rw[HE.out];exact HV.out.below (below_drewN (Below.refl _ _) _),HG.out.trans (gr_drewQ _ _ _)⟩
  ·have g1:0<=idxOf l ⟨#[102,97,105,108,101,100]⟩:=(idx_has l failedB).2 hf
   cases hx:hasB l expiredB
   ·have g2:¬0<=idxOf l ⟨#[101,120,112,105,114,101,100]⟩:=fun x=>by have:=(idx_has l expiredB).1 x;rw[hx] at this;cases this
    have HWo:Hid (worstOf l=1):=by show _=_;unfold worstOf;rw[if_neg (by rw[hx];simp),if_pos hf]
    clear hf hx;go_enter Tryz.func163,Tryz.ntmps163
    go_wp2_with fail
    refine(index_at l ⟨#[102,97,105,108,101,100]⟩ sa cap _ (HLs.out _ (grown_setCell _ _ _ _)) HN.out).mono ?_;rintro v w1 ⟨rfl,rfl⟩;go_wp2_with fail
    refine(index_at l ⟨#[101,120,112,105,114,101,100]⟩ sa cap _ (HLs.out _ ((grown_setCell _ _ _ _).trans (grown_setCell _ _ _ _))) HN.out).mono ?_;rintro v w2 ⟨rfl,rfl⟩;go_upto_region 10 with fail
    obtain⟨V,hV⟩:∃ V,V=(w.setCell ⟨b,2,none⟩ (.string ⟨#[111,107]⟩)).setCell ⟨b,2,none⟩ (.string ⟨#[102,97,105,108,101,100]⟩):=⟨_,rfl⟩;rw[<- hV];have HV:Hid (TmIn w0 V b ⟨d,0,1⟩):=by show TmIn _ _ _ _;rw[hV];exact(H.out.put (s':=⟨d,0,0⟩) 2 _ (by simp[tmRow,totB])).put (s':=⟨d,0,1⟩) 2 _ (by simp[tmRow,totB,failedB])
    have HG:Hid (w.grownBy V (some b)):=by show World.grownBy _ _ _;rw[hV];exact(grown_setCell _ _ _ _).trans (grown_setCell _ _ _ _)
    clear hV;have e0:V.cell? ⟨b,0,none⟩=some (.int .i64 (d:Int)):=by have:=HV.out.heap;simp[World.cell?,this,tmRow]
    have e1:V.cell? ⟨b,1,none⟩=some (.int .i64 (0)):=by have:=HV.out.heap;simp[World.cell?,this,tmRow]
    have e2:V.cell? ⟨b,2,none⟩=some (.string ⟨#[102,97,105,108,101,100]⟩):=by have:=HV.out.heap;simp[World.cell?,this,tmRow,totB,failedB]
    have q2:∀ i,V.frozen? ⟨b,i,none⟩=false:=fun i=>by have:=HV.out.heap;simp[World.frozen?,this]
    clear c0 c1 c2 q;have HE:Hid (TSt.fin ⟨d,0,1⟩ l=⟨d,0,1⟩):=by show _=_;rw[HW.out,HWo.out];unfold TSt.cut;rw[if_neg (fun x=>by have:(1:Nat)=2:=x.1;omega)]
    go_quiet (fail)
    go_wp2;go_end0
    exact⟨rfl,by rw[HE.out];exact HV.out.below (below_drewN (Below.refl _ _) _),HG.out.trans (gr_drewQ _ _ _)⟩
   ·have g2:0<=idxOf l ⟨#[101,120,112,105,114,101,100]⟩:=(idx_has l expiredB).2 hx;have HWo:Hid (worstOf l=2):=by show _=_;unfold worstOf;rw[if_pos hx]
    clear hf hx;go_enter Tryz.func163,Tryz.ntmps163
    go_wp2_with fail
    refine(index_at l ⟨#[102,97,105,108,101,100]⟩ sa cap _ (HLs.out _ (grown_setCell _ _ _ _)) HN.out).mono ?_;rintro v w1 ⟨rfl,rfl⟩;go_wp2_with fail
    refine(index_at l ⟨#[101,120,112,105,114,101,100]⟩ sa cap _ (HLs.out _ ((grown_setCell _ _ _ _).trans (grown_setCell _ _ _ _))) HN.out).mono ?_;rintro v w2 ⟨rfl,rfl⟩;go_upto_region 10 with fail
    obtain⟨V,hV⟩:∃ V,V=(((w.setCell ⟨b,2,none⟩ (.string ⟨#[111,107]⟩)).setCell ⟨b,2,none⟩ (.string ⟨#[102,97,105,108,101,100]⟩)).setCell ⟨b,2,none⟩ (.string ⟨#[101,120,112,105,114,101,100]⟩)).setCell ⟨b,1,none⟩ (.int .i64 0):=⟨_,rfl⟩;rw[<- hV];have HV:Hid (TmIn w0 V b ⟨d,0,2⟩):=by show TmIn _ _ _ _;rw[hV];exact(((H.out.put (s':=⟨d,0,0⟩) 2 _ (by simp[tmRow,totB])).put (s':=⟨d,0,1⟩) 2 _ (by simp[tmRow,totB,failedB])).put (s':=⟨d,0,2⟩) 2 _ (by simp[tmRow,totB,expiredB])).put (s':=⟨d,0,2⟩) 1 _ (by simp[tmRow])
    have HG:Hid (w.grownBy V (some b)):=by show World.grownBy _ _ _;rw[hV];exact(((grown_setCell _ _ _ _).trans (grown_setCell _ _ _ _)).trans (grown_setCell _ _ _ _)).trans (grown_setCell _ _ _ _)
    clear hV;have e0:V.cell? ⟨b,0,none⟩=some (.int .i64 (d:Int)):=by have:=HV.out.heap;simp[World.cell?,this,tmRow]
    have e1:V.cell? ⟨b,1,none⟩=some (.int .i64 (0)):=by have:=HV.out.heap;simp[World.cell?,this,tmRow]
    have e2:V.cell? ⟨b,2,none⟩=some (.string ⟨#[101,120,112,105,114,101,100]⟩):=by have:=HV.out.heap;simp[World.cell?,this,tmRow,totB,expiredB]
    have q2:∀ i,V.frozen? ⟨b,i,none⟩=false:=fun i=>by have:=HV.out.heap;simp[World.frozen?,this]
    clear c0 c1 c2 q
    by_cases hd:d=0
    ·subst hd;have HE:Hid (TSt.fin ⟨0,0,1⟩ l=⟨0,0,3⟩):=by show _=_;rw[HW.out,HWo.out];unfold TSt.cut;rw[if_pos ⟨rfl,rfl⟩]
     simp only[Int.ofNat_zero] at e0;go_quiet (fail)
     go_wp2;go_end0
     exact⟨rfl,by rw[HE.out];exact(HV.out.below (below_drewN (Below.refl _ _) _)).put 2 _ rfl,(HG.out.trans (gr_drewQ _ _ _)).trans (grown_setCell _ _ _ _)⟩
    ·have hd':¬(0:Int)=(d:Int):=by omega
     have hd2:¬(d:Int)=0:=by omega
     have HE:Hid (TSt.fin ⟨d,0,1⟩ l=⟨d,0,2⟩):=by show _=_;rw[HW.out,HWo.out];unfold TSt.cut;rw[if_neg (fun x=>hd x.2.symm)]
     go_quiet (fail)
     go_wp2;go_end0
     exact⟨rfl,by rw[HE.out];exact HV.out.below (below_drewN (Below.refl _ _) _),HG.out.trans (gr_drewQ _ _ _)⟩
end
end Go.Proofs.YtdpdbfhbojgigacGreatDoor
