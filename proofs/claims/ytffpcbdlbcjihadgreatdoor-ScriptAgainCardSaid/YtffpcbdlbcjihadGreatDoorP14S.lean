/-
  Several texts as one: LoEnd, LoNew.
-/
import Derived.Test.YtffpcbdlbcjihadGreatDoorP13S
namespace Go.Proofs.YtffpcbdlbcjihadGreatDoor
open Go.RowKit Go.Extern.Stop Go.Stop Go.Extern
section
variable {F F':Nat->Prop}{w w' w'':World}{b ba bg bf:Nat}{e:EntD}{E:EA}{s:WSt}
def stE (s:WSt)(x y z:Bool):WSt:=⟨if x then s.a.zero else s.a,if y then s.g.zero else s.g,if z then s.f.zero else s.f⟩
theorem stE0 (s:WSt):stE s false false false=s:=rfl
theorem stE1 (s:WSt):stE s true true true=s.zero:=rfl
def wendK (s:WSt)(wh:Bool)(b ba bg bf:Nat):Nat->Value->Prop
 | 0=>fun v=>v=.pointer (some ⟨b,0,none⟩)
 | 1=>fun v=>v=.pointer (some ⟨b,0,none⟩)
 | 2=>fun v=>v=.pointer (some ⟨b,0,none⟩)
 | 3=>fun v=>v=.pointer (some ⟨ba,0,none⟩)
 | 4=>fun v=>v=.bool wh
 | 5=>fun v=>v=.bool (s.a.well wh)
 | 6=>fun v=>v=.pointer (some ⟨b,0,none⟩)
 | 7=>fun v=>v=.pointer (some ⟨b,0,none⟩)
 | 8=>fun v=>v=.pointer (some ⟨b,1,none⟩)
 | 9=>fun v=>v=.pointer (some ⟨bg,0,none⟩)
 | 10=>fun v=>v=.bool (!s.g.bad)
 | 11=>fun v=>v=.pointer (some ⟨b,0,none⟩)
 | 12=>fun v=>v=.pointer (some ⟨b,0,none⟩)
 | 13=>fun v=>v=.pointer (some ⟨b,2,none⟩)
 | 14=>fun v=>v=.pointer (some ⟨bf,0,none⟩)
 | 15=>fun v=>v=.bool (!s.f.bad)
 | 16=>fun v=>v=.bool (s.a.well wh)
 | 17=>fun v=>v=.bool (!s.g.bad)
 | 18=>fun v=>v=.bool (!s.f.bad)
 | _=>fun _=>True
set_option maxHeartbeats 4000000 in
set_option maxRecDepth 100000 in
theorem watch_end (wh:Bool)(c:Array Value)(h:WatAt F w ba bg bf e s)(hb:w.heap[b]?=some (.cells c 245 (0,0)))(h0:c[0]?=some (.pointer (some ⟨ba,0,none⟩)))(h1:c[1]?=some (.pointer (some ⟨bg,0,none⟩)))(h2:c[2]?=some (.pointer (some ⟨bf,0,none⟩))) :
  Calls Tryz.prog 307 #[.pointer (some ⟨b,0,none⟩),.bool wh] w fun v w'=>v=.returned (.int .i64 (s.kind wh))/\WatTo F w w' b ba bg bf e s.zero c:=by
 have HW:Hid (WatTo F w w b ba bg bf e s c):=⟨h,hb,FrL.refl _ _⟩;have H0:Hid (c[0]?=some (.pointer (some ⟨ba,0,none⟩))):=h0;have H1:Hid (c[1]?=some (.pointer (some ⟨bg,0,none⟩))):=h1;have H2:Hid (c[2]?=some (.pointer (some ⟨bf,0,none⟩))):=h2;clear h hb h0 h1 h2;go_enter Tryz.func307,Tryz.ntmps307
 go_wp2_with fail
 refine region_spec2 19 rfl (fun j v _=>wendK s wh b ba bg bf j v) (fun done V=>WatTo F w V b ba bg bf e (stE s (done 5) (done 10) (done 15)) c) (by kernel_rfl) (by kernel_rfl) ⟨by show WatAt _ _ _ _ _ _ (stE s false false false);rw[stE0];exact HW.out.wat.same (fun _ _=>rfl),HW.out.row,FrL.below (Below.refl _ _).drew⟩ ?_ ?_
 ·intro i o ho
  match i,ho with
  | 0,ho=>
   obtain rfl:=Option.some.inj ho
   refine StepOk2.free rfl ?_;intro done a V hC hdn hdo hdep hoth;have x0:a.tmps[0]?.getD undef=.pointer (some ⟨b,0,none⟩):=slot_of (hoth 0 (notDst (by kernel_rfl)));exact goodRun2.val (c:=.pointer (some ⟨b,0,none⟩)) (by clear hdep hoth hdo hC;go_simp) (by rw[mark_other done (show 5≠0 by decide),mark_other done (show 10≠0 by decide),mark_other done (show 15≠0 by decide)];exact hC) rfl
  | 1,ho=>
   obtain rfl:=Option.some.inj ho
   refine StepOk2.free rfl ?_;intro done a V hC hdn hdo hdep hoth;have x8:a.tmps[8]?.getD undef=.pointer (some ⟨b,0,none⟩):=slot_of (hdep _ 8 (Array.mem_of_getElem? (i:=0) rfl) rfl rfl);exact goodRun2.val (c:=.pointer (some ⟨b,0,none⟩)) (by clear hdep hoth hdo hC;go_simp) (by rw[mark_other done (show 5≠1 by decide),mark_other done (show 10≠1 by decide),mark_other done (show 15≠1 by decide)];exact hC) rfl
  | 2,ho=>
   obtain rfl:=Option.some.inj ho
   refine StepOk2.free rfl ?_;intro done a V hC hdn hdo hdep hoth;have x9:a.tmps[9]?.getD undef=.pointer (some ⟨b,0,none⟩):=slot_of (hdep _ 9 (Array.mem_of_getElem? (i:=0) rfl) rfl rfl);exact goodRun2.val (c:=.pointer (some ⟨b,0,none⟩)) (by clear hdep hoth hdo hC;go_simp) (by rw[mark_other done (show 5≠2 by decide),mark_other done (show 10≠2 by decide),mark_other done (show 15≠2 by decide)];exact hC) rfl
  | 3,ho=>
   obtain rfl:=Option.some.inj ho
   refine StepOk2.free rfl ?_;intro done a V hC hdn hdo hdep hoth;have x10:a.tmps[10]?.getD undef=.pointer (some ⟨b,0,none⟩):=slot_of (hdep _ 10 (Array.mem_of_getElem? (i:=0) rfl) rfl rfl);have c0:V.cell? ⟨b,0,none⟩=some (.pointer (some ⟨ba,0,none⟩)):=by simp[World.cell?,hC.row,H0.out]
   exact goodRun2.val (c:=.pointer (some ⟨ba,0,none⟩)) (by clear hdep hoth hdo hC;go_simp) (by rw[mark_other done (show 5≠3 by decide),mark_other done (show 10≠3 by decide),mark_other done (show 15≠3 by decide)];exact hC) rfl
  | 4,ho=>
   obtain rfl:=Option.some.inj ho
   refine StepOk2.free rfl ?_;intro done a V hC hdn hdo hdep hoth;have x1:a.tmps[1]?.getD undef=.bool wh:=slot_of (hoth 1 (notDst (by kernel_rfl)));exact goodRun2.val (c:=.bool wh) (by clear hdep hoth hdo hC;go_simp) (by rw[mark_other done (show 5≠4 by decide),mark_other done (show 10≠4 by decide),mark_other done (show 15≠4 by decide)];exact hC) rfl
  | 5,ho=>
   obtain rfl:=Option.some.inj ho
   refine StepOk2.free rfl ?_;intro done a V hC hdn hdo hdep hoth;have x11:a.tmps[11]?.getD undef=.pointer (some ⟨ba,0,none⟩):=slot_of (hdep _ 11 (Array.mem_of_getElem? (i:=0) rfl) rfl rfl);have x12:a.tmps[12]?.getD undef=.bool wh:=slot_of (hdep _ 12 (Array.mem_of_getElem? (i:=1) rfl) rfl rfl)
   refine goodRun2.call (f:=325) (args:=#[.pointer (some ⟨ba,0,none⟩),.bool wh]) (by clear hdep hoth hdo hC;go_simp) ?_;rw[hdn] at hC
   refine(al_end2 wh hC.wat.al).mono ?_;rintro v w1 ⟨rfl,hA,hg⟩
   refine⟨_,rfl,?_,fun _ _ _ h=>h,rfl⟩;rw[mark_same,mark_other done (show 10≠5 by decide),mark_other done (show 15≠5 by decide)];exact⟨hC.wat.setA hg hA,hC.wat.rowA hC.row hg,hC.fr.trans (hC.wat.frA hg) (fun _ _ x=>x)⟩
  | 6,ho=>
   obtain rfl:=Option.some.inj ho
   refine StepOk2.free rfl ?_;intro done a V hC hdn hdo hdep hoth;have x0:a.tmps[0]?.getD undef=.pointer (some ⟨b,0,none⟩):=slot_of (hoth 0 (notDst (by kernel_rfl)));exact goodRun2.val (c:=.pointer (some ⟨b,0,none⟩)) (by clear hdep hoth hdo hC;go_simp) (by rw[mark_other done (show 5≠6 by decide),mark_other done (show 10≠6 by decide),mark_other done (show 15≠6 by decide)];exact hC) rfl
  | 7,ho=>
   obtain rfl:=Option.some.inj ho
   refine StepOk2.free rfl ?_;intro done a V hC hdn hdo hdep hoth;have x14:a.tmps[14]?.getD undef=.pointer (some ⟨b,0,none⟩):=slot_of (hdep _ 14 (Array.mem_of_getElem? (i:=0) rfl) rfl rfl);exact goodRun2.val (c:=.pointer (some ⟨b,0,none⟩)) (by clear hdep hoth hdo hC;go_simp) (by rw[mark_other done (show 5≠7 by decide),mark_other done (show 10≠7 by decide),mark_other done (show 15≠7 by decide)];exact hC) rfl
  | 8,ho=>
   obtain rfl:=Option.some.inj ho
   refine StepOk2.free rfl ?_;intro done a V hC hdn hdo hdep hoth;have x15:a.tmps[15]?.getD undef=.pointer (some ⟨b,0,none⟩):=slot_of (hdep _ 15 (Array.mem_of_getElem? (i:=0) rfl) rfl rfl);exact goodRun2.val (c:=.pointer (some ⟨b,1,none⟩)) (by clear hdep hoth hdo hC;go_simp) (by rw[mark_other done (show 5≠8 by decide),mark_other done (show 10≠8 by decide),mark_other done (show 15≠8 by decide)];exact hC) rfl
  | 9,ho=>
   obtain rfl:=Option.some.inj ho
   refine StepOk2.free rfl ?_;intro done a V hC hdn hdo hdep hoth;have x16:a.tmps[16]?.getD undef=.pointer (some ⟨b,1,none⟩):=slot_of (hdep _ 16 (Array.mem_of_getElem? (i:=0) rfl) rfl rfl);have c1:V.cell? ⟨b,1,none⟩=some (.pointer (some ⟨bg,0,none⟩)):=by simp[World.cell?,hC.row,H1.out]
   exact goodRun2.val (c:=.pointer (some ⟨bg,0,none⟩)) (by clear hdep hoth hdo hC;go_simp) (by rw[mark_other done (show 5≠9 by decide),mark_other done (show 10≠9 by decide),mark_other done (show 15≠9 by decide)];exact hC) rfl
  | 10,ho=>
   obtain rfl:=Option.some.inj ho
   refine StepOk2.free rfl ?_;intro done a V hC hdn hdo hdep hoth;have x17:a.tmps[17]?.getD undef=.pointer (some ⟨bg,0,none⟩):=slot_of (hdep _ 17 (Array.mem_of_getElem? (i:=0) rfl) rfl rfl)
   refine goodRun2.call (f:=326) (args:=#[.pointer (some ⟨bg,0,none⟩)]) (by clear hdep hoth hdo hC;go_simp) ?_;rw[hdn] at hC;obtain⟨sa,cap,hG,hGF⟩:=hC.wat.ga
   refine(gp_end2 hG).mono ?_;rintro v w1 ⟨rfl,hA,hg⟩
   refine⟨_,rfl,?_,fun _ _ _ h=>h,rfl⟩;rw[mark_same,mark_other done (show 5≠10 by decide),mark_other done (show 15≠10 by decide)];exact⟨hC.wat.setG hG hGF hg hA rfl,rowG hG hC.row hg,hC.fr.trans (frG hG hGF hg) (fun _ _ x=>x)⟩
  | 11,ho=>
   obtain rfl:=Option.some.inj ho
   refine StepOk2.free rfl ?_;intro done a V hC hdn hdo hdep hoth;have x0:a.tmps[0]?.getD undef=.pointer (some ⟨b,0,none⟩):=slot_of (hoth 0 (notDst (by kernel_rfl)));exact goodRun2.val (c:=.pointer (some ⟨b,0,none⟩)) (by clear hdep hoth hdo hC;go_simp) (by rw[mark_other done (show 5≠11 by decide),mark_other done (show 10≠11 by decide),mark_other done (show 15≠11 by decide)];exact hC) rfl
  | 12,ho=>
   obtain rfl:=Option.some.inj ho
   refine StepOk2.free rfl ?_;intro done a V hC hdn hdo hdep hoth;have x19:a.tmps[19]?.getD undef=.pointer (some ⟨b,0,none⟩):=slot_of (hdep _ 19 (Array.mem_of_getElem? (i:=0) rfl) rfl rfl);exact goodRun2.val (c:=.pointer (some ⟨b,0,none⟩)) (by clear hdep hoth hdo hC;go_simp) (by rw[mark_other done (show 5≠12 by decide),mark_other done (show 10≠12 by decide),mark_other done (show 15≠12 by decide)];exact hC) rfl
  | 13,ho=>
   obtain rfl:=Option.some.inj ho
   refine StepOk2.free rfl ?_;intro done a V hC hdn hdo hdep hoth;have x20:a.tmps[20]?.getD undef=.pointer (some ⟨b,0,none⟩):=slot_of (hdep _ 20 (Array.mem_of_getElem? (i:=0) rfl) rfl rfl);exact goodRun2.val (c:=.pointer (some ⟨b,2,none⟩)) (by clear hdep hoth hdo hC;go_simp) (by rw[mark_other done (show 5≠13 by decide),mark_other done (show 10≠13 by decide),mark_other done (show 15≠13 by decide)];exact hC) rfl
  | 14,ho=>
   obtain rfl:=Option.some.inj ho
   refine StepOk2.free rfl ?_;intro done a V hC hdn hdo hdep hoth;have x21:a.tmps[21]?.getD undef=.pointer (some ⟨b,2,none⟩):=slot_of (hdep _ 21 (Array.mem_of_getElem? (i:=0) rfl) rfl rfl);have c2:V.cell? ⟨b,2,none⟩=some (.pointer (some ⟨bf,0,none⟩)):=by simp[World.cell?,hC.row,H2.out]
   exact goodRun2.val (c:=.pointer (some ⟨bf,0,none⟩)) (by clear hdep hoth hdo hC;go_simp) (by rw[mark_other done (show 5≠14 by decide),mark_other done (show 10≠14 by decide),mark_other done (show 15≠14 by decide)];exact hC) rfl
  | 15,ho=>
   obtain rfl:=Option.some.inj ho
   refine StepOk2.free rfl ?_;intro done a V hC hdn hdo hdep hoth;have x22:a.tmps[22]?.getD undef=.pointer (some ⟨bf,0,none⟩):=slot_of (hdep _ 22 (Array.mem_of_getElem? (i:=0) rfl) rfl rfl)
   refine goodRun2.call (f:=327) (args:=#[.pointer (some ⟨bf,0,none⟩)]) (by clear hdep hoth hdo hC;go_simp) ?_;rw[hdn] at hC;obtain⟨m,n,D,fv,lv,h3,h4,h5,h6,h7⟩:=hC.wat.fl
   refine(fl_end2 h3).mono ?_;rintro v w1 ⟨rfl,hA,hg⟩
   refine⟨_,rfl,?_,fun _ _ _ h=>h,rfl⟩;rw[mark_same,mark_other done (show 5≠15 by decide),mark_other done (show 10≠15 by decide)];exact⟨hC.wat.setF h3 h4 h5 h6 h7 hg hA,rowF h3 hC.row hg,hC.fr.trans (frF h3 h4 hg) (fun _ _ x=>x)⟩
  | 16,ho=>
   obtain rfl:=Option.some.inj ho
   refine StepOk2.free rfl ?_;intro done a V hC hdn hdo hdep hoth;have x13:a.tmps[13]?.getD undef=.bool (s.a.well wh):=slot_of (hdep _ 13 (Array.mem_of_getElem? (i:=0) rfl) rfl rfl);exact goodRun2.val (c:=.bool (s.a.well wh)) (by clear hdep hoth hdo hC;go_simp) (by rw[mark_other done (show 5≠16 by decide),mark_other done (show 10≠16 by decide),mark_other done (show 15≠16 by decide)];exact hC) rfl
  | 17,ho=>
   obtain rfl:=Option.some.inj ho
   refine StepOk2.free rfl ?_;intro done a V hC hdn hdo hdep hoth;have x18:a.tmps[18]?.getD undef=.bool (!s.g.bad):=slot_of (hdep _ 18 (Array.mem_of_getElem? (i:=0) rfl) rfl rfl);exact goodRun2.val (c:=.bool (!s.g.bad)) (by clear hdep hoth hdo hC;go_simp) (by rw[mark_other done (show 5≠17 by decide),mark_other done (show 10≠17 by decide),mark_other done (show 15≠17 by decide)];exact hC) rfl
  | 18,ho=>
   obtain rfl:=Option.some.inj ho
   refine StepOk2.free rfl ?_;intro done a V hC hdn hdo hdep hoth;have x23:a.tmps[23]?.getD undef=.bool (!s.f.bad):=slot_of (hdep _ 23 (Array.mem_of_getElem? (i:=0) rfl) rfl rfl);exact goodRun2.val (c:=.bool (!s.f.bad)) (by clear hdep hoth hdo hC;go_simp) (by rw[mark_other done (show 5≠18 by decide),mark_other done (show 10≠18 by decide),mark_other done (show 15≠18 by decide)];exact hC) rfl
  | n+19,ho=>simp at ho
 ·intro vals V hC hS;have HC:Hid (WatTo F w V b ba bg bf e s.zero c):=by rw[<- stE1];exact hC
  have v5:vals 16=.bool (s.a.well wh):=hS 16 (by decide);have v10:vals 17=.bool (!s.g.bad):=hS 17 (by decide);have v15:vals 18=.bool (!s.f.bad):=hS 18 (by decide);clear hC hS HW H0 H1 H2;simp only[fill,dstOf];go_simp
  have hk:∀ x y z,s.a.well wh=x->s.g.bad=y->s.f.bad=z->s.kind wh=if x=false then 1 else if y=true then 2 else if z=true then 3 else 0:=fun x y z h1 h2 h3=>by unfold WSt.kind kindW;rw[h1,h2,h3]
  have HK:Hid _:=hk;clear hk v5 v10 v15
  cases q1:s.a.well wh
  ·have HR:Hid (s.kind wh=1):=by show _=_;have:=HK.out false _ _ q1 rfl rfl;simpa using this
   clear HK;go_wp2;go_ret;exact⟨by rw[HR.out];rfl,HC.out⟩
  ·cases q2:s.g.bad
   ·cases q3:s.f.bad
    ·have HR:Hid (s.kind wh=0):=by show _=_;have:=HK.out _ _ _ q1 q2 q3;simpa using this
     clear HK;go_wp2;go_ret;exact⟨by rw[HR.out];rfl,HC.out⟩
    ·have HR:Hid (s.kind wh=3):=by show _=_;have:=HK.out _ _ _ q1 q2 q3;simpa using this
     clear HK;go_wp2;go_ret;exact⟨by rw[HR.out];rfl,HC.out⟩
   ·have HR:Hid (s.kind wh=2):=by show _=_;have:=HK.out _ _ _ q1 q2 rfl;simpa using this
    clear HK;go_wp2;go_ret;exact⟨by rw[HR.out];rfl,HC.out⟩
end
section
variable {F F':Nat->Prop}{w w' w'':World}{b ba bg bf:Nat}{e:EntD}{E:EA}{s:Option NSt}
def loRow (x y z:Value)(e:EntD)(E:EA)(act wh:Bool)(run:Int)(ex:Bool):Array Value:=#[x,y,z,.string e.name,.int .i64 e.tol,.slice E.pa e.pts.length E.pc,.int .i64 e.cnt,.int .i64 e.mn,.int .i64 e.mx,.slice E.ga e.gaps.length E.gc,.slice E.ea e.edges.length E.ec,.slice E.fa e.first.length E.fc,.slice E.la e.last.length E.lc,.bool act,.bool wh,.int .i64 run,.bool ex]
def LoRowAt (F:Nat->Prop)(w:World)(b:Nat)(e:EntD)(E:EA):Option NSt->Prop
 | none=>w.heap[b]?=some (.cells (loRow (.pointer none) (.pointer none) (.pointer none) e E false false 0 false) 245 (0,0))
 | some n=>∃ ba bg bf,w.heap[b]?=some (.cells (loRow (.pointer (some ⟨ba,0,none⟩)) (.pointer (some ⟨bg,0,none⟩)) (.pointer (some ⟨bf,0,none⟩)) e E true n.whole (n.run:Int) n.ex) 245 (0,0))/\WatAt F w ba bg bf e n.w
structure LoAt (F:Nat->Prop)(w:World)(b:Nat)(e:EntD)(E:EA)(s:Option NSt):Prop where
 parts:PartsF F w e E
 fb:F b
 row:LoRowAt F w b e E s
theorem LoAt.same (h:LoAt F w b e E s)(hs:∀ k,F k->w'.heap[k]?=w.heap[k]?):LoAt F w' b e E s:=by
 refine⟨h.parts.same hs,h.fb,?_⟩;have hr:=h.row
 cases s with
 | none=>exact(hs b h.fb).trans hr
 | some n=>obtain⟨ba,bg,bf,h1,h2⟩:=hr;exact⟨ba,bg,bf,(hs b h.fb).trans h1,h2.same hs⟩
theorem WatAt.mono {s:WSt}(h:WatAt F w ba bg bf e s)(hF:∀ k,k < w.heap.size->F k->F' k):WatAt F' w ba bg bf e s:=by
 obtain⟨sa,cap,h1,h2⟩:=h.ga;obtain⟨m,n,D,fv,lv,h3,h4,h5,h6,h7⟩:=h.fl;exact⟨h.al,hF _ (lt_of_row h.al.heap) h.fa,⟨sa,cap,h1,fun k hk=>hF k (gs_lt h1 hk) (h2 k hk)⟩,⟨m,n,D,fv,lv,h3,hF _ (lt_of_row h3.heap) h4,hF _ (map_lt h3) h5,fun g hg=>hF g (h3.hf.lt g hg).2 (h6 g hg),fun g hg=>hF g (h3.hl.lt g hg).2 (h7 g hg)⟩,h.gl⟩
theorem LoAt.lt (h:LoAt F w b e E s):b < w.heap.size:=by
 have hr:=h.row
 cases s with
 | none=>exact lt_of_row hr
 | some n=>obtain⟨ba,bg,bf,h1,-⟩:=hr;exact lt_of_row h1
theorem LoAt.mono (h:LoAt F w b e E s)(hF:∀ k,k < w.heap.size->F k->F' k):LoAt F' w b e E s:=by
 refine⟨h.parts.mono hF,hF _ h.lt h.fb,?_⟩;have hr:=h.row
 cases s with
 | none=>exact hr
 | some n=>obtain⟨ba,bg,bf,h1,h2⟩:=hr;exact⟨ba,bg,bf,h1,h2.mono hF⟩
set_option maxHeartbeats 8000000 in
set_option maxRecDepth 100000 in
theorem copyOf_at (w:World)(e:EntD)(E:EA)(hP:PartsE w e E)(hS:SmallE e) :
  Calls Tryz.prog 165 #[.agg #[.string e.name,.int .i64 e.tol,.slice E.pa e.pts.length E.pc,.int .i64 e.cnt,.int .i64 e.mn,.int .i64 e.mx,.slice E.ga e.gaps.length E.gc,.slice E.ea e.edges.length E.ec,.slice E.fa e.first.length E.fc,.slice E.la e.last.length E.lc]] w fun v w'=>(∃ E':EA,v=.returned (entV e E')/\PartsF (fun k=>w.heap.size<=k) w' e E')/\Below w.heap.size w w':=by
 have HP:Hid (PartsE w e E):=hP;have HS:Hid (SmallE e):=hS;clear hP hS;go_enter Tryz.func165,Tryz.ntmps165
 go_upto_region 1 with fail
 obtain⟨V0,hV0⟩:∃ V,V=(w.alloc (.cells #[.string e.name,.int .i64 e.tol,.slice E.pa e.pts.length E.pc,.int .i64 e.cnt,.int .i64 e.mn,.int .i64 e.mx,.slice E.ga e.gaps.length E.gc,.slice E.ea e.edges.length E.ec,.slice E.fa e.first.length E.fc,.slice E.la e.last.length E.lc] 83)).alloc (.cells #[.string ⟨#[]⟩,.int .i64 0,.slice none 0 0,.int .i64 0,.int .i64 0,.int .i64 0,.slice none 0 0,.slice none 0 0,.slice none 0 0,.slice none 0 0] 83):=⟨_,rfl⟩;rw[<- hV0];have hs0:V0.heap.size=w.heap.size+2:=by rw[hV0];simp
 have HBl0:Hid (Below w.heap.size w V0):=by show Below _ _ _;rw[hV0];exact(Below.one _ _).alloc (by simp) _
 have HO0:Hid (V0.heap[w.heap.size]?=some (.cells #[.string e.name,.int .i64 e.tol,.slice E.pa e.pts.length E.pc,.int .i64 e.cnt,.int .i64 e.mn,.int .i64 e.mx,.slice E.ga e.gaps.length E.gc,.slice E.ea e.edges.length E.ec,.slice E.fa e.first.length E.fc,.slice E.la e.last.length E.lc] 83 (0,0))):=by
  show _=_
  rw[hV0];exact row_below (Below.one _ _) (heap_alloc_new w _)
 have HR0:Hid (V0.heap[w.heap.size+1]?=some (.cells #[.string ⟨#[]⟩,.int .i64 0,.slice none 0 0,.int .i64 0,.int .i64 0,.int .i64 0,.slice none 0 0,.slice none 0 0,.slice none 0 0,.slice none 0 0] 83 (0,0))):=by
  show _=_
  rw[hV0];have:=heap_alloc_new (w.alloc (.cells #[.string e.name,.int .i64 e.tol,.slice E.pa e.pts.length E.pc,.int .i64 e.cnt,.int .i64 e.mn,.int .i64 e.mx,.slice E.ga e.gaps.length E.gc,.slice E.ea e.edges.length E.ec,.slice E.fa e.first.length E.fc,.slice E.la e.last.length E.lc] 83)) (.cells #[.string ⟨#[]⟩,.int .i64 0,.slice none 0 0,.int .i64 0,.int .i64 0,.int .i64 0,.slice none 0 0,.slice none 0 0,.slice none 0 0,.slice none 0 0] 83);simpa using this
 clear hV0 hs0;have s0:V0.cell? ⟨w.heap.size,2,none⟩=some (.slice E.pa e.pts.length E.pc):=by have:=HO0.out;simp[World.cell?,this]
 go_wp2_with fail
 refine(cloneS_at w.heap.size e.pts _ _ V0 (HP.out.below HBl0.out).hp HS.out.hp HBl0.out.size).mono ?_;rintro v W0 ⟨⟨pa',pc',rfl,hop⟩,hb0⟩;have d0:W0.cell? ⟨w.heap.size,2,none⟩=some (.slice E.pa e.pts.length E.pc):=by have:=row_below hb0 HO0.out;simp[World.cell?,this]
 have q0:W0.frozen? ⟨w.heap.size,2,none⟩=false:=by have:=row_below hb0 HO0.out;simp[World.frozen?,this]
 have HHo0:Hid (SlOwn encS 1 9 w.heap.size W0 (.slice pa' e.pts.length pc') e.pts):=hop;have HHb0:Hid (Below V0.heap.size V0 W0):=hb0;clear hop hb0 s0;go_upto_region 2 with fail
 obtain⟨V1,hV1⟩:∃ V,V=W0.setCell ⟨w.heap.size,2,none⟩ (.slice pa' e.pts.length pc'):=⟨_,rfl⟩;rw[<- hV1];have hg1:W0.grownBy V1 (some w.heap.size):=by rw[hV1];exact grown_setCell _ _ _ _
 have HO1:Hid (V1.heap[w.heap.size]?=some (.cells #[.string e.name,.int .i64 e.tol,.slice pa' e.pts.length pc',.int .i64 e.cnt,.int .i64 e.mn,.int .i64 e.mx,.slice E.ga e.gaps.length E.gc,.slice E.ea e.edges.length E.ec,.slice E.fa e.first.length E.fc,.slice E.la e.last.length E.lc] 83 (0,0))):=by
  show _=_
  have:=row_below HHb0.out HO0.out;rw[hV1];simp[World.setCell,Array.getElem?_modify,this]
 have HR1:Hid (V1.heap[w.heap.size+1]?=some (.cells #[.string ⟨#[]⟩,.int .i64 0,.slice none 0 0,.int .i64 0,.int .i64 0,.int .i64 0,.slice none 0 0,.slice none 0 0,.slice none 0 0,.slice none 0 0] 83 (0,0))):=(hg1.block _ (lt_of_row (row_below HHb0.out HR0.out)) (by simp)).trans (row_below HHb0.out HR0.out);have HBl1:Hid (Below w.heap.size w V1):=(HBl0.out.trans (HHb0.out.mono HBl0.out.size)).grown hg1 (Nat.le_trans HBl0.out.size HHb0.out.size) (fun k hk=>by cases hk;exact Nat.le_refl _);have HSp1:Hid (SlOwn encS 1 9 w.heap.size V1 (.slice pa' e.pts.length pc') e.pts):=HHo0.out.other hg1 (row_below HHb0.out HO0.out) (by decide);clear d0 q0 hV1 hg1 HHo0 HHb0 HO0 HR0 HBl0;have s1:V1.cell? ⟨w.heap.size,6,none⟩=some (.slice E.ga e.gaps.length E.gc):=by have:=HO1.out;simp[World.cell?,this]
 go_wp2_with fail
 refine(cloneG_at w.heap.size e.gaps _ _ V1 (HP.out.below HBl1.out).hg HS.out.hg HBl1.out.size).mono ?_;rintro v W1 ⟨⟨ga',gc',rfl,hog⟩,hb1⟩;have d1:W1.cell? ⟨w.heap.size,6,none⟩=some (.slice E.ga e.gaps.length E.gc):=by have:=row_below hb1 HO1.out;simp[World.cell?,this]
 have q1:W1.frozen? ⟨w.heap.size,6,none⟩=false:=by have:=row_below hb1 HO1.out;simp[World.frozen?,this]
 have HHo1:Hid (SlOwn encG 4 96 w.heap.size W1 (.slice ga' e.gaps.length gc') e.gaps):=hog;have HHb1:Hid (Below V1.heap.size V1 W1):=hb1;clear hog hb1 s1;go_upto_region 3 with fail
 obtain⟨V2,hV2⟩:∃ V,V=W1.setCell ⟨w.heap.size,6,none⟩ (.slice ga' e.gaps.length gc'):=⟨_,rfl⟩;rw[<- hV2];have hg2:W1.grownBy V2 (some w.heap.size):=by rw[hV2];exact grown_setCell _ _ _ _
 have HO2:Hid (V2.heap[w.heap.size]?=some (.cells #[.string e.name,.int .i64 e.tol,.slice pa' e.pts.length pc',.int .i64 e.cnt,.int .i64 e.mn,.int .i64 e.mx,.slice ga' e.gaps.length gc',.slice E.ea e.edges.length E.ec,.slice E.fa e.first.length E.fc,.slice E.la e.last.length E.lc] 83 (0,0))):=by
  show _=_
  have:=row_below HHb1.out HO1.out;rw[hV2];simp[World.setCell,Array.getElem?_modify,this]
 have HR2:Hid (V2.heap[w.heap.size+1]?=some (.cells #[.string ⟨#[]⟩,.int .i64 0,.slice none 0 0,.int .i64 0,.int .i64 0,.int .i64 0,.slice none 0 0,.slice none 0 0,.slice none 0 0,.slice none 0 0] 83 (0,0))):=(hg2.block _ (lt_of_row (row_below HHb1.out HR1.out)) (by simp)).trans (row_below HHb1.out HR1.out);have HBl2:Hid (Below w.heap.size w V2):=(HBl1.out.trans (HHb1.out.mono HBl1.out.size)).grown hg2 (Nat.le_trans HBl1.out.size HHb1.out.size) (fun k hk=>by cases hk;exact Nat.le_refl _);have HSp2:Hid (SlOwn encS 1 9 w.heap.size V2 (.slice pa' e.pts.length pc') e.pts):=(HSp1.out.below HHb1.out).other hg2 (row_below HHb1.out HO1.out) (by decide);have HSg2:Hid (SlOwn encG 4 96 w.heap.size V2 (.slice ga' e.gaps.length gc') e.gaps):=HHo1.out.other hg2 (row_below HHb1.out HO1.out) (by decide);clear d1 q1 hV2 hg2 HHo1 HHb1 HO1 HR1 HBl1 HSp1;have s2:V2.cell? ⟨w.heap.size,7,none⟩=some (.slice E.ea e.edges.length E.ec):=by have:=HO2.out;simp[World.cell?,this]
 go_wp2_with fail
 refine(cloneP_at w.heap.size e.edges _ _ V2 (HP.out.below HBl2.out).he HS.out.he HBl2.out.size).mono ?_;rintro v W2 ⟨⟨ea',ec',rfl,hoe⟩,hb2⟩;have d2:W2.cell? ⟨w.heap.size,7,none⟩=some (.slice E.ea e.edges.length E.ec):=by have:=row_below hb2 HO2.out;simp[World.cell?,this]
 have q2:W2.frozen? ⟨w.heap.size,7,none⟩=false:=by have:=row_below hb2 HO2.out;simp[World.frozen?,this]
 have HHo2:Hid (SlOwn encP 2 97 w.heap.size W2 (.slice ea' e.edges.length ec') e.edges):=hoe;have HHb2:Hid (Below V2.heap.size V2 W2):=hb2;clear hoe hb2 s2;go_upto_region 4 with fail
 obtain⟨V3,hV3⟩:∃ V,V=W2.setCell ⟨w.heap.size,7,none⟩ (.slice ea' e.edges.length ec'):=⟨_,rfl⟩;rw[<- hV3];have hg3:W2.grownBy V3 (some w.heap.size):=by rw[hV3];exact grown_setCell _ _ _ _
 have HO3:Hid (V3.heap[w.heap.size]?=some (.cells #[.string e.name,.int .i64 e.tol,.slice pa' e.pts.length pc',.int .i64 e.cnt,.int .i64 e.mn,.int .i64 e.mx,.slice ga' e.gaps.length gc',.slice ea' e.edges.length ec',.slice E.fa e.first.length E.fc,.slice E.la e.last.length E.lc] 83 (0,0))):=by
  show _=_
  have:=row_below HHb2.out HO2.out;rw[hV3];simp[World.setCell,Array.getElem?_modify,this]
 have HR3:Hid (V3.heap[w.heap.size+1]?=some (.cells #[.string ⟨#[]⟩,.int .i64 0,.slice none 0 0,.int .i64 0,.int .i64 0,.int .i64 0,.slice none 0 0,.slice none 0 0,.slice none 0 0,.slice none 0 0] 83 (0,0))):=(hg3.block _ (lt_of_row (row_below HHb2.out HR2.out)) (by simp)).trans (row_below HHb2.out HR2.out);have HBl3:Hid (Below w.heap.size w V3):=(HBl2.out.trans (HHb2.out.mono HBl2.out.size)).grown hg3 (Nat.le_trans HBl2.out.size HHb2.out.size) (fun k hk=>by cases hk;exact Nat.le_refl _);have HSp3:Hid (SlOwn encS 1 9 w.heap.size V3 (.slice pa' e.pts.length pc') e.pts):=(HSp2.out.below HHb2.out).other hg3 (row_below HHb2.out HO2.out) (by decide);have HSg3:Hid (SlOwn encG 4 96 w.heap.size V3 (.slice ga' e.gaps.length gc') e.gaps):=(HSg2.out.below HHb2.out).other hg3 (row_below HHb2.out HO2.out) (by decide);have HSe3:Hid (SlOwn encP 2 97 w.heap.size V3 (.slice ea' e.edges.length ec') e.edges):=HHo2.out.other hg3 (row_below HHb2.out HO2.out) (by decide);clear d2 q2 hV3 hg3 HHo2 HHb2 HO2 HR2 HBl2 HSp2 HSg2;have s3:V3.cell? ⟨w.heap.size,8,none⟩=some (.slice E.fa e.first.length E.fc):=by have:=HO3.out;simp[World.cell?,this]
 go_wp2_with fail
 refine(clone_at w.heap.size e.first _ _ V3 (HP.out.below HBl3.out).hf HS.out.hf HBl3.out.size).mono ?_;rintro v W3 ⟨⟨fa',fc',rfl,hof⟩,hb3⟩;have d3:W3.cell? ⟨w.heap.size,8,none⟩=some (.slice E.fa e.first.length E.fc):=by have:=row_below hb3 HO3.out;simp[World.cell?,this]
 have q3:W3.frozen? ⟨w.heap.size,8,none⟩=false:=by have:=row_below hb3 HO3.out;simp[World.frozen?,this]
 have HHo3:Hid (SlOwn encI 1 3 w.heap.size W3 (.slice fa' e.first.length fc') e.first):=hof;have HHb3:Hid (Below V3.heap.size V3 W3):=hb3;clear hof hb3 s3;go_upto_region 5 with fail
 obtain⟨V4,hV4⟩:∃ V,V=W3.setCell ⟨w.heap.size,8,none⟩ (.slice fa' e.first.length fc'):=⟨_,rfl⟩;rw[<- hV4];have hg4:W3.grownBy V4 (some w.heap.size):=by rw[hV4];exact grown_setCell _ _ _ _
 have HO4:Hid (V4.heap[w.heap.size]?=some (.cells #[.string e.name,.int .i64 e.tol,.slice pa' e.pts.length pc',.int .i64 e.cnt,.int .i64 e.mn,.int .i64 e.mx,.slice ga' e.gaps.length gc',.slice ea' e.edges.length ec',.slice fa' e.first.length fc',.slice E.la e.last.length E.lc] 83 (0,0))):=by
  show _=_
  have:=row_below HHb3.out HO3.out;rw[hV4];simp[World.setCell,Array.getElem?_modify,this]
 have HR4:Hid (V4.heap[w.heap.size+1]?=some (.cells #[.string ⟨#[]⟩,.int .i64 0,.slice none 0 0,.int .i64 0,.int .i64 0,.int .i64 0,.slice none 0 0,.slice none 0 0,.slice none 0 0,.slice none 0 0] 83 (0,0))):=(hg4.block _ (lt_of_row (row_below HHb3.out HR3.out)) (by simp)).trans (row_below HHb3.out HR3.out);have HBl4:Hid (Below w.heap.size w V4):=(HBl3.out.trans (HHb3.out.mono HBl3.out.size)).grown hg4 (Nat.le_trans HBl3.out.size HHb3.out.size) (fun k hk=>by cases hk;exact Nat.le_refl _);have HSp4:Hid (SlOwn encS 1 9 w.heap.size V4 (.slice pa' e.pts.length pc') e.pts):=(HSp3.out.below HHb3.out).other hg4 (row_below HHb3.out HO3.out) (by decide);have HSg4:Hid (SlOwn encG 4 96 w.heap.size V4 (.slice ga' e.gaps.length gc') e.gaps):=(HSg3.out.below HHb3.out).other hg4 (row_below HHb3.out HO3.out) (by decide);have HSe4:Hid (SlOwn encP 2 97 w.heap.size V4 (.slice ea' e.edges.length ec') e.edges):=(HSe3.out.below HHb3.out).other hg4 (row_below HHb3.out HO3.out) (by decide);have HSf4:Hid (SlOwn encI 1 3 w.heap.size V4 (.slice fa' e.first.length fc') e.first):=HHo3.out.other hg4 (row_below HHb3.out HO3.out) (by decide);clear d3 q3 hV4 hg4 HHo3 HHb3 HO3 HR3 HBl3 HSp3 HSg3 HSe3;have s4:V4.cell? ⟨w.heap.size,9,none⟩=some (.slice E.la e.last.length E.lc):=by have:=HO4.out;simp[World.cell?,this]
 go_wp2_with fail
 refine(clone_at w.heap.size e.last _ _ V4 (HP.out.below HBl4.out).hl HS.out.hl HBl4.out.size).mono ?_;rintro v W4 ⟨⟨la',lc',rfl,hol⟩,hb4⟩;have d4:W4.cell? ⟨w.heap.size,9,none⟩=some (.slice E.la e.last.length E.lc):=by have:=row_below hb4 HO4.out;simp[World.cell?,this]
 have q4:W4.frozen? ⟨w.heap.size,9,none⟩=false:=by have:=row_below hb4 HO4.out;simp[World.frozen?,this]
 have HHo4:Hid (SlOwn encI 1 3 w.heap.size W4 (.slice la' e.last.length lc') e.last):=hol;have HHb4:Hid (Below V4.heap.size V4 W4):=hb4;clear hol hb4 s4;go_upto_region 6 with fail
 obtain⟨V5,hV5⟩:∃ V,V=W4.setCell ⟨w.heap.size,9,none⟩ (.slice la' e.last.length lc'):=⟨_,rfl⟩;rw[<- hV5];have hg5:W4.grownBy V5 (some w.heap.size):=by rw[hV5];exact grown_setCell _ _ _ _
 have HO5:Hid (V5.heap[w.heap.size]?=some (.cells #[.string e.name,.int .i64 e.tol,.slice pa' e.pts.length pc',.int .i64 e.cnt,.int .i64 e.mn,.int .i64 e.mx,.slice ga' e.gaps.length gc',.slice ea' e.edges.length ec',.slice fa' e.first.length fc',.slice la' e.last.length lc'] 83 (0,0))):=by
  show _=_
  have:=row_below HHb4.out HO4.out;rw[hV5];simp[World.setCell,Array.getElem?_modify,this]
 have HR5:Hid (V5.heap[w.heap.size+1]?=some (.cells #[.string ⟨#[]⟩,.int .i64 0,.slice none 0 0,.int .i64 0,.int .i64 0,.int .i64 0,.slice none 0 0,.slice none 0 0,.slice none 0 0,.slice none 0 0] 83 (0,0))):=(hg5.block _ (lt_of_row (row_below HHb4.out HR4.out)) (by simp)).trans (row_below HHb4.out HR4.out);have HBl5:Hid (Below w.heap.size w V5):=(HBl4.out.trans (HHb4.out.mono HBl4.out.size)).grown hg5 (Nat.le_trans HBl4.out.size HHb4.out.size) (fun k hk=>by cases hk;exact Nat.le_refl _);have HSp5:Hid (SlOwn encS 1 9 w.heap.size V5 (.slice pa' e.pts.length pc') e.pts):=(HSp4.out.below HHb4.out).other hg5 (row_below HHb4.out HO4.out) (by decide);have HSg5:Hid (SlOwn encG 4 96 w.heap.size V5 (.slice ga' e.gaps.length gc') e.gaps):=(HSg4.out.below HHb4.out).other hg5 (row_below HHb4.out HO4.out) (by decide);have HSe5:Hid (SlOwn encP 2 97 w.heap.size V5 (.slice ea' e.edges.length ec') e.edges):=(HSe4.out.below HHb4.out).other hg5 (row_below HHb4.out HO4.out) (by decide);have HSf5:Hid (SlOwn encI 1 3 w.heap.size V5 (.slice fa' e.first.length fc') e.first):=(HSf4.out.below HHb4.out).other hg5 (row_below HHb4.out HO4.out) (by decide);have HSl5:Hid (SlOwn encI 1 3 w.heap.size V5 (.slice la' e.last.length lc') e.last):=HHo4.out.other hg5 (row_below HHb4.out HO4.out) (by decide);clear d4 q4 hV5 hg5 HHo4 HHb4 HO4 HR4 HBl4 HSp4 HSg4 HSe4 HSf4;go_wp2_with (first | (refine wpList_load_row rfl 83 _ rfl w.heap.size rfl _ _ _ _ HO5.out Tryz.underlying83 rfl Tryz.sizeEnt ?_) | (refine wpList_store_row rfl 83 _ _ rfl (w.heap.size+1) #[.string e.name,.int .i64 e.tol,.slice pa' e.pts.length pc',.int .i64 e.cnt,.int .i64 e.mn,.int .i64 e.mx,.slice ga' e.gaps.length gc',.slice ea' e.edges.length ec',.slice fa' e.first.length fc',.slice la' e.last.length lc'] rfl rfl 83 #[.string ⟨#[]⟩,.int .i64 0,.slice none 0 0,.int .i64 0,.int .i64 0,.int .i64 0,.slice none 0 0,.slice none 0 0,.slice none 0 0,.slice none 0 0] HR5.out Tryz.sizeEnt rfl (by simp[Value.oneCell']) ?_))
 have hgr:V5.grownBy (V5.setRow (w.heap.size+1) #[.string e.name,.int .i64 e.tol,.slice pa' e.pts.length pc',.int .i64 e.cnt,.int .i64 e.mn,.int .i64 e.mx,.slice ga' e.gaps.length gc',.slice ea' e.edges.length ec',.slice fa' e.first.length fc',.slice la' e.last.length lc']) (some (w.heap.size+1)):=grown_setRow _ _ _;have hres:(V5.setRow (w.heap.size+1) #[.string e.name,.int .i64 e.tol,.slice pa' e.pts.length pc',.int .i64 e.cnt,.int .i64 e.mn,.int .i64 e.mx,.slice ga' e.gaps.length gc',.slice ea' e.edges.length ec',.slice fa' e.first.length fc',.slice la' e.last.length lc']).heap[w.heap.size+1]?=some (.cells #[.string e.name,.int .i64 e.tol,.slice pa' e.pts.length pc',.int .i64 e.cnt,.int .i64 e.mn,.int .i64 e.mx,.slice ga' e.gaps.length gc',.slice ea' e.edges.length ec',.slice fa' e.first.length fc',.slice la' e.last.length lc'] 83 (0,0)):=heap_setRow _ HR5.out
 refine bodyPost_ret (results_cell_row rfl _ _ (w.heap.size+1) _ _ _ _ rfl hres Tryz.underlying83 rfl Tryz.sizeEnt) rfl ?_;exact⟨⟨⟨pa',ga',ea',fa',la',pc',gc',ec',fc',lc'⟩,rfl,⟨OwnF.of (HSp5.out.other hgr HR5.out (by decide)) (fun _ h=>h),OwnF.of (HSg5.out.other hgr HR5.out (by decide)) (fun _ h=>h),OwnF.of (HSe5.out.other hgr HR5.out (by decide)) (fun _ h=>h),OwnF.of (HSf5.out.other hgr HR5.out (by decide)) (fun _ h=>h),OwnF.of (HSl5.out.other hgr HR5.out (by decide)) (fun _ h=>h)⟩⟩,HBl5.out.grown hgr HBl5.out.size (fun k hk=>by cases hk;omega)⟩
set_option maxHeartbeats 4000000 in
set_option maxRecDepth 100000 in
theorem lo_new (w:World)(e:EntD)(E:EA)(hP:PartsE w e E)(hS:SmallE e) :
  Calls Tryz.prog 106 #[.agg #[.string e.name,.int .i64 e.tol,.slice E.pa e.pts.length E.pc,.int .i64 e.cnt,.int .i64 e.mn,.int .i64 e.mx,.slice E.ga e.gaps.length E.gc,.slice E.ea e.edges.length E.ec,.slice E.fa e.first.length E.fc,.slice E.la e.last.length E.lc]] w fun v w'=>(∃ (b:Nat) (E':EA),v=.returned (.pointer (some ⟨b,0,none⟩))/\LoAt (fun k=>w.heap.size<=k) w' b e E' none)/\Below w.heap.size w w':=by
 have HP:Hid (PartsE w e E):=hP;have HS:Hid (SmallE e):=hS;clear hP hS;go_enter Tryz.func106,Tryz.ntmps106
 go_wp2_with fail
 have HB0:Hid (Below w.heap.size w (w.alloc (.cells #[.string e.name,.int .i64 e.tol,.slice E.pa e.pts.length E.pc,.int .i64 e.cnt,.int .i64 e.mn,.int .i64 e.mx,.slice E.ga e.gaps.length E.gc,.slice E.ea e.edges.length E.ec,.slice E.fa e.first.length E.fc,.slice E.la e.last.length E.lc] 83))):=Below.one _ _
 refine(copyOf_at _ e E (HP.out.below HB0.out) HS.out).mono ?_;rintro v W ⟨⟨E',rfl,hp⟩,hb⟩;have HW:Hid (PartsF (fun k=>w.heap.size<=k) W e E'/\Below w.heap.size w W):=⟨hp.mono (fun k _ h=>by simp at h;show w.heap.size<=k;omega),HB0.out.trans (hb.mono (by simp))⟩;clear hp hb HB0 HP;unfold entV;go_wp2;go_ret;have hb1:Below W.heap.size W (W.alloc (.cells (loRow (.pointer none) (.pointer none) (.pointer none) e E' false false 0 false) 245)):=Below.one _ _
 refine⟨⟨W.heap.size,E',rfl,(PartsF.fr HW.out.1 (F':=fun _=>False) (FrL.below hb1)),HW.out.2.size,?_⟩,HW.out.2.trans (hb1.mono HW.out.2.size)⟩;exact heap_alloc_new W _
end
end Go.Proofs.YtffpcbdlbcjihadGreatDoor
