/-
  Several texts as one: LoWat, LoSteps.
-/
import Derived.Test.YtdpdbfhbojgigacGreatDoorC06S
namespace Go.Proofs.YtdpdbfhbojgigacGreatDoor
open Go.RowKit Go.Extern.Stop Go.Stop Go.Extern
section
variable {F F':Nat->Prop}{w w' w'':World}{b ba bg bf:Nat}{e:EntD}{E:EA}{s:WSt}
def entV (e:EntD)(E:EA):Value:=.agg #[.string e.name,.int .i64 e.tol,.slice E.pa e.pts.length E.pc,.int .i64 e.cnt,.int .i64 e.mn,.int .i64 e.mx,.slice E.ga e.gaps.length E.gc,.slice E.ea e.edges.length E.ec,.slice E.fa e.first.length E.fc,.slice E.la e.last.length E.lc]
def PartsE (w:World)(e:EntD)(E:EA):Prop:=EntParts w e (.slice E.pa e.pts.length E.pc) (.slice E.ga e.gaps.length E.gc) (.slice E.ea e.edges.length E.ec) (.slice E.fa e.first.length E.fc) (.slice E.la e.last.length E.lc)
theorem PartsE.below (h:PartsE w e E)(hb:Below w.heap.size w w'):PartsE w' e E:=EntParts.below h hb
def GaF (B:Nat)(w:World)(bg:Nat)(s:GSt):Prop:=∃ sa cap,GpAt 0 w bg sa cap s/\∀ k,GS bg sa s.xs.length k->B<=k
def FlF (B:Nat)(w:World)(bf:Nat)(e:EntD)(s:FSt):Prop:=∃ m n D fv lv,FlAt 0 w bf e s m n D fv lv/\B<=bf/\B<=m/\(∀ g,fv.ownBlock=some g->B<=g)/\∀ g,lv.ownBlock=some g->B<=g
theorem gs_lt {B cap:Nat}{sa:Option Addr}{s:GSt}(h:GpAt B w b sa cap s){k:Nat}(hk:GS b sa s.xs.length k):k < w.heap.size:=by
 rcases hk with rfl | ⟨h0,o,e1⟩
 ·exact lt_of_row h.heap
 ·obtain⟨g,o',e2,-,-,-,cur,hf⟩:=h.sl (List.length_pos_iff.1 h0);rw[e1] at e2;simp only[Option.some.injEq,Addr.mk.injEq,and_true] at e2;obtain⟨rfl,-⟩:=e2;exact lt_of_row hf
theorem map_lt {B m n:Nat}{s:FSt}{D:DataW Unit}{fv lv:Value}(h:FlAt B w b e s m n D fv lv):m < w.heap.size:=by
 obtain⟨es,c,hm0,rest⟩:=h.own;exact lt_of_row hm0
theorem GaF.keep {B:Nat}{s:GSt}(h:GaF B w bg s)(hs:∀ k,B<=k->k < w.heap.size->w'.heap[k]?=w.heap[k]?):GaF B w' bg s:=by
 obtain⟨sa,cap,h1,h2⟩:=h;exact⟨sa,cap,h1.same (fun k hk=>hs k (h2 k hk) (gs_lt h1 hk)),h2⟩
theorem FlF.keep {B:Nat}{s:FSt}(h:FlF B w bf e s)(hs:∀ k,B<=k->k < w.heap.size->w'.heap[k]?=w.heap[k]?):FlF B w' bf e s:=by
 obtain⟨m,n,D,fv,lv,h3,h4,h5,h6,h7⟩:=h;exact⟨m,n,D,fv,lv,h3.same (hs _ h4 (lt_of_row h3.heap)) (hs _ h5 (map_lt h3)) (fun g hg=>hs g (h6 g hg) (h3.hf.lt g hg).2) (fun g hg=>hs g (h7 g hg) (h3.hl.lt g hg).2),h4,h5,h6,h7⟩
def AlF (B:Nat)(w:World)(ba:Nat)(a:ASt):Prop:=AlAt w ba a/\B<=ba
theorem AlF.keep {B:Nat}{a:ASt}(h:AlF B w ba a)(hs:∀ k,B<=k->k < w.heap.size->w'.heap[k]?=w.heap[k]?):AlF B w' ba a:=⟨h.1.same (hs _ h.2 (lt_of_row h.1.heap)),h.2⟩
def nwS (B r:Nat)(e:EntD)(E:EA):Nat->Value->World->Prop
 | 0=>fun v _=>v=.agg #[.string e.name,.int .i64 e.tol,.slice E.pa e.pts.length E.pc,.int .i64 e.cnt,.int .i64 e.mn,.int .i64 e.mx,.slice E.ga e.gaps.length E.gc,.slice E.ea e.edges.length E.ec,.slice E.fa e.first.length E.fc,.slice E.la e.last.length E.lc]
 | 1=>fun v w=>∃ ba,v=.pointer (some ⟨ba,0,none⟩)/\AlF B w ba (WSt.new e).a
 | 2=>fun v _=>v=.agg #[.string e.name,.int .i64 e.tol,.slice E.pa e.pts.length E.pc,.int .i64 e.cnt,.int .i64 e.mn,.int .i64 e.mx,.slice E.ga e.gaps.length E.gc,.slice E.ea e.edges.length E.ec,.slice E.fa e.first.length E.fc,.slice E.la e.last.length E.lc]
 | 3=>fun v w=>∃ bg,v=.pointer (some ⟨bg,0,none⟩)/\GaF B w bg (WSt.new e).g
 | 4=>fun v _=>v=.agg #[.string e.name,.int .i64 e.tol,.slice E.pa e.pts.length E.pc,.int .i64 e.cnt,.int .i64 e.mn,.int .i64 e.mx,.slice E.ga e.gaps.length E.gc,.slice E.ea e.edges.length E.ec,.slice E.fa e.first.length E.fc,.slice E.la e.last.length E.lc]
 | 5=>fun v w=>∃ bf,v=.pointer (some ⟨bf,0,none⟩)/\FlF B w bf e (WSt.new e).f
 | 6=>fun v w=>∃ ba bg bf,v=.agg #[.pointer (some ⟨ba,0,none⟩),.pointer (some ⟨bg,0,none⟩),.pointer (some ⟨bf,0,none⟩)]/\AlF B w ba (WSt.new e).a/\GaF B w bg (WSt.new e).g/\FlF B w bf e (WSt.new e).f
 | 7=>fun _ w=>∃ ba bg bf,w.heap[r]?=some (.cells #[.pointer (some ⟨ba,0,none⟩),.pointer (some ⟨bg,0,none⟩),.pointer (some ⟨bf,0,none⟩)] 152 (0,0))/\AlF B w ba (WSt.new e).a/\GaF B w bg (WSt.new e).g/\FlF B w bf e (WSt.new e).f
 | _=>fun _ _=>True
theorem nwS_keeps {B r:Nat}(hs:∀ k,B<=k->k < w.heap.size->w'.heap[k]?=w.heap[k]?):∀ j v,(j=7->w'.heap[r]?=w.heap[r]?)->nwS B r e E j v w->nwS B r e E j v w':=by
 intro j v h7 h
 match j,h7,h with
 | 0,_,h=>exact h
 | 1,_,h=>obtain⟨ba,h1,h2⟩:=h;exact⟨ba,h1,h2.keep hs⟩
 | 2,_,h=>exact h
 | 3,_,h=>obtain⟨ba,h1,h2⟩:=h;exact⟨ba,h1,h2.keep hs⟩
 | 4,_,h=>exact h
 | 5,_,h=>obtain⟨ba,h1,h2⟩:=h;exact⟨ba,h1,h2.keep hs⟩
 | 6,_,h=>obtain⟨ba,bg,bf,h1,h2,h3,h4⟩:=h;exact⟨ba,bg,bf,h1,h2.keep hs,h3.keep hs,h4.keep hs⟩
 | 7,h7,h=>obtain⟨ba,bg,bf,h1,h2,h3,h4⟩:=h;exact⟨ba,bg,bf,(h7 rfl).trans h1,h2.keep hs,h3.keep hs,h4.keep hs⟩
 | n+8,_,h=>exact h
theorem GpAt.zero {B cap:Nat}{sa:Option Addr}{s:GSt}(h:GpAt B w b sa cap s):GpAt 0 w b sa cap s:=by
 refine⟨h.heap,fun hne=>?_,Nat.zero_le _,h.fit⟩;obtain⟨g,o,e1,h1,h2,r⟩:=h.sl hne;exact⟨g,o,e1,h1,Nat.zero_le _,r⟩
theorem GpAt.gs_lo {B cap:Nat}{sa:Option Addr}{s:GSt}(h:GpAt B w b sa cap s){k:Nat}(hk:GS b sa s.xs.length k):B<=k:=by
 rcases hk with rfl | ⟨h0,o,e1⟩
 ·exact h.lo
 ·obtain⟨g,o',e2,-,hB,-⟩:=h.sl (List.length_pos_iff.1 h0);rw[e1] at e2;simp only[Option.some.injEq,Addr.mk.injEq,and_true] at e2;obtain⟨rfl,-⟩:=e2;exact hB
theorem own0 {α:Type}{enc:α->List Value}{k B:Nat}{T:TypeId}{v:Value}{xs:List α}(h:SlOwn enc k T B w v xs):SlOwn enc k T 0 w v xs:=⟨h.1,h.2.imp id fun ⟨g,cap,cur,h1,_,h3⟩=>⟨g,cap,cur,h1,Nat.zero_le _,h3⟩⟩
theorem FlAt.zero {B m n:Nat}{s:FSt}{D:DataW Unit}{fv lv:Value}(h:FlAt B w b e s m n D fv lv):FlAt 0 w b e s m n D fv lv:=⟨h.heap,Nat.zero_le _,h.own,h.edg,own0 h.hf,own0 h.hl,h.fit,h.sm,h.wf⟩
theorem row_put3 {r:Nat}{T:TypeId}{a b c x y z:Value}(hr:w.heap[r]?=some (.cells #[x,y,z] T (0,0))):(((w.setCell ⟨r,0,none⟩ a).setCell ⟨r,1,none⟩ b).setCell ⟨r,2,none⟩ c).heap[r]?=some (.cells #[a,b,c] T (0,0)):=by
 simp[World.setCell,Array.getElem?_modify,hr]
theorem Tryz.sizeWatch:(Tryz.prog.info? 152).map (·.size)=some 3:=by kernel_rfl
set_option maxHeartbeats 4000000 in
set_option maxRecDepth 100000 in
theorem newWatch_at (w:World)(e:EntD)(E:EA)(hP:PartsE w e E)(hS:SmallE e)(hW:WfE e.edges) :
  Calls Tryz.prog 89 #[.agg #[.string e.name,.int .i64 e.tol,.slice E.pa e.pts.length E.pc,.int .i64 e.cnt,.int .i64 e.mn,.int .i64 e.mx,.slice E.ga e.gaps.length E.gc,.slice E.ea e.edges.length E.ec,.slice E.fa e.first.length E.fc,.slice E.la e.last.length E.lc]] w fun v w'=>(∃ ba bg bf,v=.returned (.agg #[.pointer (some ⟨ba,0,none⟩),.pointer (some ⟨bg,0,none⟩),.pointer (some ⟨bf,0,none⟩)])/\WatAt (fun k=>w.heap.size<=k) w' ba bg bf e (WSt.new e))/\Below w.heap.size w w':=by
 have HP:Hid (PartsE w e E):=hP;have HS:Hid (SmallE e):=hS;have HW:Hid (WfE e.edges):=hW;clear hP hS hW;go_enter Tryz.func89,Tryz.ntmps89
 go_wp2_with fail
 obtain⟨W,hW⟩:∃ V,V=(w.alloc (.cells #[.string e.name,.int .i64 e.tol,.slice E.pa e.pts.length E.pc,.int .i64 e.cnt,.int .i64 e.mn,.int .i64 e.mx,.slice E.ga e.gaps.length E.gc,.slice E.ea e.edges.length E.ec,.slice E.fa e.first.length E.fc,.slice E.la e.last.length E.lc] 38)).alloc (.cells #[.pointer none,.pointer none,.pointer none] 152):=⟨_,rfl⟩;rw[<- hW];have HBW:Hid (Below w.heap.size w W):=by show Below _ _ _;rw[hW];exact(Below.one _ _).alloc (by simp) _
 have hsz:W.heap.size=w.heap.size+2:=by rw[hW];simp
 have HX:Hid (W.heap[w.heap.size]?=some (.cells #[.string e.name,.int .i64 e.tol,.slice E.pa e.pts.length E.pc,.int .i64 e.cnt,.int .i64 e.mn,.int .i64 e.mx,.slice E.ga e.gaps.length E.gc,.slice E.ea e.edges.length E.ec,.slice E.fa e.first.length E.fc,.slice E.la e.last.length E.lc] 38 (0,0))):=by
  show _=_
  rw[hW];exact row_below (Below.one _ _) (heap_alloc_new w _)
 have HR:Hid (W.heap[w.heap.size+1]?=some (.cells #[.pointer none,.pointer none,.pointer none] 152 (0,0))):=by
  show _=_
  rw[hW];have:=heap_alloc_new (w.alloc (.cells #[.string e.name,.int .i64 e.tol,.slice E.pa e.pts.length E.pc,.int .i64 e.cnt,.int .i64 e.mn,.int .i64 e.mx,.slice E.ga e.gaps.length E.gc,.slice E.ea e.edges.length E.ec,.slice E.fa e.first.length E.fc,.slice E.la e.last.length E.lc] 38)) (.cells #[.pointer none,.pointer none,.pointer none] 152);simpa using this
 have HZ:Hid (W.heap.size=w.heap.size+2):=hsz;clear hW hsz
 refine region_spec2 8 rfl (nwS (w.heap.size+2) (w.heap.size+1) e E) (fun done V=>Below w.heap.size w V/\V.heap[w.heap.size]?=some (.cells #[.string e.name,.int .i64 e.tol,.slice E.pa e.pts.length E.pc,.int .i64 e.cnt,.int .i64 e.mn,.int .i64 e.mx,.slice E.ga e.gaps.length E.gc,.slice E.ea e.edges.length E.ec,.slice E.fa e.first.length E.fc,.slice E.la e.last.length E.lc] 38 (0,0))/\w.heap.size+2<=V.heap.size/\(done 7=false->V.heap[w.heap.size+1]?=some (.cells #[.pointer none,.pointer none,.pointer none] 152 (0,0)))) (by kernel_rfl) (by kernel_rfl) ⟨HBW.out.drew,HX.out,by have:=HZ.out;show _<=W.heap.size;omega,fun _=>HR.out⟩ ?_ ?_
 ·intro i o ho
  match i,ho with
  | 0,ho=>
   obtain rfl:=Option.some.inj ho
   refine StepOk2.free rfl ?_;intro done a V hC hdn _ hdep hoth;have x1:a.tmps[1]?.getD undef=.pointer (some ⟨w.heap.size,0,none⟩):=slot_of (hoth 1 (notDst (by kernel_rfl)));have hrow:=hC.2.1;have c0:V.cell? ⟨w.heap.size,0,none⟩=some (.string e.name):=by simp[World.cell?,hrow]
   have c1:V.cell? ⟨w.heap.size,1,none⟩=some (.int .i64 e.tol):=by simp[World.cell?,hrow]
   have c2:V.cell? ⟨w.heap.size,2,none⟩=some (.slice E.pa e.pts.length E.pc):=by simp[World.cell?,hrow]
   have c3:V.cell? ⟨w.heap.size,3,none⟩=some (.int .i64 e.cnt):=by simp[World.cell?,hrow]
   have c4:V.cell? ⟨w.heap.size,4,none⟩=some (.int .i64 e.mn):=by simp[World.cell?,hrow]
   have c5:V.cell? ⟨w.heap.size,5,none⟩=some (.int .i64 e.mx):=by simp[World.cell?,hrow]
   have c6:V.cell? ⟨w.heap.size,6,none⟩=some (.slice E.ga e.gaps.length E.gc):=by simp[World.cell?,hrow]
   have c7:V.cell? ⟨w.heap.size,7,none⟩=some (.slice E.ea e.edges.length E.ec):=by simp[World.cell?,hrow]
   have c8:V.cell? ⟨w.heap.size,8,none⟩=some (.slice E.fa e.first.length E.fc):=by simp[World.cell?,hrow]
   have c9:V.cell? ⟨w.heap.size,9,none⟩=some (.slice E.la e.last.length E.lc):=by simp[World.cell?,hrow]
   exact goodRun2.val (c:=.agg #[.string e.name,.int .i64 e.tol,.slice E.pa e.pts.length E.pc,.int .i64 e.cnt,.int .i64 e.mn,.int .i64 e.mx,.slice E.ga e.gaps.length E.gc,.slice E.ea e.edges.length E.ec,.slice E.fa e.first.length E.fc,.slice E.la e.last.length E.lc]) (by clear hdep hoth hC hrow;go_simp) ⟨hC.1,hC.2.1,hC.2.2.1,by rw[mark_other done (by decide)];exact hC.2.2.2⟩ rfl
  | 1,ho=>
   obtain rfl:=Option.some.inj ho
   refine StepOk2.free rfl ?_;intro done a V hC hdn _ hdep hoth;have x3:a.tmps[3]?.getD undef=.agg #[.string e.name,.int .i64 e.tol,.slice E.pa e.pts.length E.pc,.int .i64 e.cnt,.int .i64 e.mn,.int .i64 e.mx,.slice E.ga e.gaps.length E.gc,.slice E.ea e.edges.length E.ec,.slice E.fa e.first.length E.fc,.slice E.la e.last.length E.lc]:=slot_of (hdep _ 3 (Array.mem_of_getElem? (i:=0) rfl) rfl rfl)
   refine goodRun2.call (f:=119) (args:=#[.agg #[.string e.name,.int .i64 e.tol,.slice E.pa e.pts.length E.pc,.int .i64 e.cnt,.int .i64 e.mn,.int .i64 e.mx,.slice E.ga e.gaps.length E.gc,.slice E.ea e.edges.length E.ec,.slice E.fa e.first.length E.fc,.slice E.la e.last.length E.lc]]) (by clear hdep hoth hC;go_simp) ?_
   refine(al_new e.name e.tol e.cnt e.mn e.mx _ _ _ _ _ _ _ V).mono ?_;rintro v V' ⟨b,rfl,hA⟩;have hb':=hA.bel;have hk:∀ k,w.heap.size+2<=k->k < V.heap.size->V'.heap[k]?=V.heap[k]?:=fun k _ h=>hb'.block k h
   refine⟨_,rfl,⟨hC.1.trans (hb'.mono hC.1.size),row_below hb' hC.2.1,Nat.le_trans hC.2.2.1 hb'.size,fun hd=>row_below hb' (hC.2.2.2 (by rwa [mark_other done (by decide)] at hd))⟩,fun j v hj h=>nwS_keeps hk j v (fun _=>hb'.block _ (by have:=hC.2.2.1;omega)) h,?_⟩;exact⟨b,rfl,hA.at',Nat.le_trans hC.2.2.1 hA.lo⟩
  | 2,ho=>
   obtain rfl:=Option.some.inj ho
   refine StepOk2.free rfl ?_;intro done a V hC hdn _ hdep hoth;have x1:a.tmps[1]?.getD undef=.pointer (some ⟨w.heap.size,0,none⟩):=slot_of (hoth 1 (notDst (by kernel_rfl)));have hrow:=hC.2.1;have c0:V.cell? ⟨w.heap.size,0,none⟩=some (.string e.name):=by simp[World.cell?,hrow]
   have c1:V.cell? ⟨w.heap.size,1,none⟩=some (.int .i64 e.tol):=by simp[World.cell?,hrow]
   have c2:V.cell? ⟨w.heap.size,2,none⟩=some (.slice E.pa e.pts.length E.pc):=by simp[World.cell?,hrow]
   have c3:V.cell? ⟨w.heap.size,3,none⟩=some (.int .i64 e.cnt):=by simp[World.cell?,hrow]
   have c4:V.cell? ⟨w.heap.size,4,none⟩=some (.int .i64 e.mn):=by simp[World.cell?,hrow]
   have c5:V.cell? ⟨w.heap.size,5,none⟩=some (.int .i64 e.mx):=by simp[World.cell?,hrow]
   have c6:V.cell? ⟨w.heap.size,6,none⟩=some (.slice E.ga e.gaps.length E.gc):=by simp[World.cell?,hrow]
   have c7:V.cell? ⟨w.heap.size,7,none⟩=some (.slice E.ea e.edges.length E.ec):=by simp[World.cell?,hrow]
   have c8:V.cell? ⟨w.heap.size,8,none⟩=some (.slice E.fa e.first.length E.fc):=by simp[World.cell?,hrow]
   have c9:V.cell? ⟨w.heap.size,9,none⟩=some (.slice E.la e.last.length E.lc):=by simp[World.cell?,hrow]
   exact goodRun2.val (c:=.agg #[.string e.name,.int .i64 e.tol,.slice E.pa e.pts.length E.pc,.int .i64 e.cnt,.int .i64 e.mn,.int .i64 e.mx,.slice E.ga e.gaps.length E.gc,.slice E.ea e.edges.length E.ec,.slice E.fa e.first.length E.fc,.slice E.la e.last.length E.lc]) (by clear hdep hoth hC hrow;go_simp) ⟨hC.1,hC.2.1,hC.2.2.1,by rw[mark_other done (by decide)];exact hC.2.2.2⟩ rfl
  | 3,ho=>
   obtain rfl:=Option.some.inj ho
   refine StepOk2.free rfl ?_;intro done a V hC hdn _ hdep hoth;have x5:a.tmps[5]?.getD undef=.agg #[.string e.name,.int .i64 e.tol,.slice E.pa e.pts.length E.pc,.int .i64 e.cnt,.int .i64 e.mn,.int .i64 e.mx,.slice E.ga e.gaps.length E.gc,.slice E.ea e.edges.length E.ec,.slice E.fa e.first.length E.fc,.slice E.la e.last.length E.lc]:=slot_of (hdep _ 5 (Array.mem_of_getElem? (i:=0) rfl) rfl rfl)
   refine goodRun2.call (f:=120) (args:=#[.agg #[.string e.name,.int .i64 e.tol,.slice E.pa e.pts.length E.pc,.int .i64 e.cnt,.int .i64 e.mn,.int .i64 e.mx,.slice E.ga e.gaps.length E.gc,.slice E.ea e.edges.length E.ec,.slice E.fa e.first.length E.fc,.slice E.la e.last.length E.lc]]) (by clear hdep hoth hC;go_simp) ?_
   refine(gp_new e.name e.tol e.cnt e.mn e.mx _ _ _ _ _ _ e.gaps V (HP.out.below hC.1).hg HS.out.hg).mono ?_;rintro v V' ⟨b,rfl,hb',sa,cap,hG⟩;have hk:∀ k,w.heap.size+2<=k->k < V.heap.size->V'.heap[k]?=V.heap[k]?:=fun k _ h=>hb'.block k h
   refine⟨_,rfl,⟨hC.1.trans (hb'.mono hC.1.size),row_below hb' hC.2.1,Nat.le_trans hC.2.2.1 hb'.size,fun hd=>row_below hb' (hC.2.2.2 (by rwa [mark_other done (by decide)] at hd))⟩,fun j v hj h=>nwS_keeps hk j v (fun _=>hb'.block _ (by have:=hC.2.2.1;omega)) h,?_⟩
   refine⟨b,rfl,sa,cap,hG.zero,fun k hk=>?_⟩;exact Nat.le_trans hC.2.2.1 (hG.gs_lo hk)
  | 4,ho=>
   obtain rfl:=Option.some.inj ho
   refine StepOk2.free rfl ?_;intro done a V hC hdn _ hdep hoth;have x1:a.tmps[1]?.getD undef=.pointer (some ⟨w.heap.size,0,none⟩):=slot_of (hoth 1 (notDst (by kernel_rfl)));have hrow:=hC.2.1;have c0:V.cell? ⟨w.heap.size,0,none⟩=some (.string e.name):=by simp[World.cell?,hrow]
   have c1:V.cell? ⟨w.heap.size,1,none⟩=some (.int .i64 e.tol):=by simp[World.cell?,hrow]
   have c2:V.cell? ⟨w.heap.size,2,none⟩=some (.slice E.pa e.pts.length E.pc):=by simp[World.cell?,hrow]
   have c3:V.cell? ⟨w.heap.size,3,none⟩=some (.int .i64 e.cnt):=by simp[World.cell?,hrow]
   have c4:V.cell? ⟨w.heap.size,4,none⟩=some (.int .i64 e.mn):=by simp[World.cell?,hrow]
   have c5:V.cell? ⟨w.heap.size,5,none⟩=some (.int .i64 e.mx):=by simp[World.cell?,hrow]
   have c6:V.cell? ⟨w.heap.size,6,none⟩=some (.slice E.ga e.gaps.length E.gc):=by simp[World.cell?,hrow]
   have c7:V.cell? ⟨w.heap.size,7,none⟩=some (.slice E.ea e.edges.length E.ec):=by simp[World.cell?,hrow]
   have c8:V.cell? ⟨w.heap.size,8,none⟩=some (.slice E.fa e.first.length E.fc):=by simp[World.cell?,hrow]
   have c9:V.cell? ⟨w.heap.size,9,none⟩=some (.slice E.la e.last.length E.lc):=by simp[World.cell?,hrow]
   exact goodRun2.val (c:=.agg #[.string e.name,.int .i64 e.tol,.slice E.pa e.pts.length E.pc,.int .i64 e.cnt,.int .i64 e.mn,.int .i64 e.mx,.slice E.ga e.gaps.length E.gc,.slice E.ea e.edges.length E.ec,.slice E.fa e.first.length E.fc,.slice E.la e.last.length E.lc]) (by clear hdep hoth hC hrow;go_simp) ⟨hC.1,hC.2.1,hC.2.2.1,by rw[mark_other done (by decide)];exact hC.2.2.2⟩ rfl
  | 5,ho=>
   obtain rfl:=Option.some.inj ho
   refine StepOk2.free rfl ?_;intro done a V hC hdn _ hdep hoth;have x7:a.tmps[7]?.getD undef=.agg #[.string e.name,.int .i64 e.tol,.slice E.pa e.pts.length E.pc,.int .i64 e.cnt,.int .i64 e.mn,.int .i64 e.mx,.slice E.ga e.gaps.length E.gc,.slice E.ea e.edges.length E.ec,.slice E.fa e.first.length E.fc,.slice E.la e.last.length E.lc]:=slot_of (hdep _ 7 (Array.mem_of_getElem? (i:=0) rfl) rfl rfl)
   refine goodRun2.call (f:=121) (args:=#[.agg #[.string e.name,.int .i64 e.tol,.slice E.pa e.pts.length E.pc,.int .i64 e.cnt,.int .i64 e.mn,.int .i64 e.mx,.slice E.ga e.gaps.length E.gc,.slice E.ea e.edges.length E.ec,.slice E.fa e.first.length E.fc,.slice E.la e.last.length E.lc]]) (by clear hdep hoth hC;go_simp) ?_
   refine(fl_new2 e _ _ _ _ _ _ _ _ _ _ V (HP.out.below hC.1) HS.out HW.out).mono ?_;rintro v V' ⟨b,rfl,hb',m,n,D,fv,lv,hG,hm⟩;have hk:∀ k,w.heap.size+2<=k->k < V.heap.size->V'.heap[k]?=V.heap[k]?:=fun k _ h=>hb'.block k h
   refine⟨_,rfl,⟨hC.1.trans (hb'.mono hC.1.size),row_below hb' hC.2.1,Nat.le_trans hC.2.2.1 hb'.size,fun hd=>row_below hb' (hC.2.2.2 (by rwa [mark_other done (by decide)] at hd))⟩,fun j v hj h=>nwS_keeps hk j v (fun _=>hb'.block _ (by have:=hC.2.2.1;omega)) h,?_⟩;have hl:=hC.2.2.1;exact⟨b,rfl,m,n,D,fv,lv,hG.zero,Nat.le_trans hl hG.lo,Nat.le_trans hl hm,fun g hg=>Nat.le_trans hl (hG.hf.lt g hg).1,fun g hg=>Nat.le_trans hl (hG.hl.lt g hg).1⟩
  | 6,ho=>
   obtain rfl:=Option.some.inj ho
   refine StepOk2.free rfl ?_;intro done a V hC hdn _ hdep hoth;obtain⟨ba,ha1,ha2⟩:=hdep _ 4 (Array.mem_of_getElem? (i:=0) rfl) rfl rfl;obtain⟨bg,hg1,hg2⟩:=hdep _ 6 (Array.mem_of_getElem? (i:=1) rfl) rfl rfl;obtain⟨bf,hf1,hf2⟩:=hdep _ 8 (Array.mem_of_getElem? (i:=2) rfl) rfl rfl;have x4:=slot_of ha1;have x6:=slot_of hg1;have x8:=slot_of hf1;exact goodRun2.val (c:=.agg #[.pointer (some ⟨ba,0,none⟩),.pointer (some ⟨bg,0,none⟩),.pointer (some ⟨bf,0,none⟩)]) (by clear hdep hoth hC ha1 ha2 hg1 hg2 hf1 hf2;go_simp) ⟨hC.1,hC.2.1,hC.2.2.1,by rw[mark_other done (by decide)];exact hC.2.2.2⟩ ⟨ba,bg,bf,rfl,ha2,hg2,hf2⟩
  | 7,ho=>
   obtain rfl:=Option.some.inj ho
   refine StepOk2.free rfl ?_;intro done a V hC hdn _ hdep hoth;have x2:a.tmps[2]?.getD undef=.pointer (some ⟨w.heap.size+1,0,none⟩):=slot_of (hoth 2 (notDst (by kernel_rfl)));obtain⟨ba,bg,bf,hv,h1,h2,h3⟩:=hdep _ 9 (Array.mem_of_getElem? (i:=0) rfl) rfl rfl;have x9:=slot_of hv;have hr:=hC.2.2.2 hdn;have c0:V.cell? ⟨w.heap.size+1,0,none⟩=some (.pointer none):=by simp[World.cell?,hr]
   have c1:V.cell? ⟨w.heap.size+1,1,none⟩=some (.pointer none):=by simp[World.cell?,hr]
   have c2:V.cell? ⟨w.heap.size+1,2,none⟩=some (.pointer none):=by simp[World.cell?,hr]
   have f0:∀ i,V.frozen? ⟨w.heap.size+1,i,none⟩=false:=fun i=>by simp[World.frozen?,hr]
   have hg:V.grownBy (((V.setCell ⟨w.heap.size+1,0,none⟩ (.pointer (some ⟨ba,0,none⟩))).setCell ⟨w.heap.size+1,1,none⟩ (.pointer (some ⟨bg,0,none⟩))).setCell ⟨w.heap.size+1,2,none⟩ (.pointer (some ⟨bf,0,none⟩))) (some (w.heap.size+1)):=((grown_setCell _ _ _ _).trans (grown_setCell _ _ _ _)).trans (grown_setCell _ _ _ _);have hk:∀ k,w.heap.size+2<=k->k < V.heap.size->(((V.setCell ⟨w.heap.size+1,0,none⟩ (.pointer (some ⟨ba,0,none⟩))).setCell ⟨w.heap.size+1,1,none⟩ (.pointer (some ⟨bg,0,none⟩))).setCell ⟨w.heap.size+1,2,none⟩ (.pointer (some ⟨bf,0,none⟩))).heap[k]?=V.heap[k]?:=fun k h1 h=>hg.block k h (by simp;omega)
   have hz:=hC.2.2.1
   refine goodRun2.skipped (w':=((V.setCell ⟨w.heap.size+1,0,none⟩ (.pointer (some ⟨ba,0,none⟩))).setCell ⟨w.heap.size+1,1,none⟩ (.pointer (some ⟨bg,0,none⟩))).setCell ⟨w.heap.size+1,2,none⟩ (.pointer (some ⟨bf,0,none⟩))) (by clear hdep hoth hC hv h1 h2 h3 hg hk hr hz;go_simp) ⟨?_,?_,Nat.le_trans hz hg.size,fun hd=>by rw[mark_same] at hd;cases hd⟩ (fun j v hj h=>nwS_keeps hk j v (fun e7=>by rw[e7,hdn] at hj;cases hj) h) ⟨ba,bg,bf,?_,h1.keep hk,h2.keep hk,h3.keep hk⟩
   ·exact hC.1.grown hg hC.1.size (fun i hi=>by cases hi;omega)
   ·exact(hg.block _ (by omega) (by simp)).trans hC.2.1
   ·rw[row_put3 hr]
  | n+8,ho=>simp at ho
 ·intro vals V hC hS;obtain⟨ba,bg,bf,hr,h1,h2,h3⟩:=hS 7 (by decide);have HB:Hid (Below w.heap.size w V):=hC.1;have HRR:Hid (V.heap[w.heap.size+1]?=some (.cells #[.pointer (some ⟨ba,0,none⟩),.pointer (some ⟨bg,0,none⟩),.pointer (some ⟨bf,0,none⟩)] 152 (0,0))):=hr;have HWt:Hid (WatAt (fun k=>w.heap.size<=k) V ba bg bf e (WSt.new e)):=by
   obtain⟨sa,cap,g1,g2⟩:=h2;obtain⟨m,n,D,fv,lv,f3,f4,f5,f6,f7⟩:=h3
   refine⟨h1.1,by have:=h1.2;show w.heap.size<=ba;omega,⟨sa,cap,g1,fun k hk=>by have:=g2 k hk;show w.heap.size<=k;omega⟩,⟨m,n,D,fv,lv,f3,by show w.heap.size<=bf;omega,by show w.heap.size<=m;omega,fun g hg=>by have:=f6 g hg;show w.heap.size<=g;omega,fun g hg=>by have:=f7 g hg;show w.heap.size<=g;omega⟩,by simp[WSt.new,GSt.new]⟩
  clear hS hC hr h1 h2 h3 HP HX HR HBW HZ;simp only[fill,dstOf];go_simp
  go_wp2_with fail
  refine bodyPost_ret (results_cell_row rfl _ _ (w.heap.size+1) _ _ _ _ rfl HRR.out Tryz.underlying152 rfl Tryz.sizeWatch) rfl ?_;exact⟨⟨ba,bg,bf,rfl,HWt.out⟩,HB.out⟩
end
section
variable {F F':Nat->Prop}{w w' w'':World}{b ba bg bf:Nat}{e:EntD}{E:EA}{s:WSt}
theorem ne_ty {i j:Nat}{c c':Array Value}{T T':TypeId}{fr fr':Nat × Nat}(h1:w.heap[i]?=some (.cells c T fr))(h2:w.heap[j]?=some (.cells c' T' fr'))(hT:T≠T'):i≠j:=by
 rintro rfl;rw[h1] at h2;simp only[Option.some.injEq,Obj.cells.injEq] at h2;exact hT h2.2.1
theorem own_ty {α:Type}{enc:α->List Value}{k B:Nat}{T:TypeId}{v:Value}{xs:List α}(h:SlOwn enc k T B w v xs){g:Nat}(hg:v.ownBlock=some g):∃ c fr,w.heap[g]?=some (.cells c T fr):=by
 rcases h.2 with ⟨rfl,_⟩ | ⟨g',cap,cur,rfl,_,hg',_⟩
 ·simp[Value.ownBlock] at hg
 ·simp only[Value.ownBlock,Option.some.injEq] at hg;subst hg;exact⟨_,_,hg'⟩
theorem gs_ty {B cap:Nat}{sa:Option Addr}{s:GSt}(h:GpAt B w b sa cap s){k:Nat}(hk:GS b sa s.xs.length k):∃ c T fr,w.heap[k]?=some (.cells c T fr)/\(T=240\/T=242):=by
 rcases hk with rfl | ⟨h0,o,e1⟩
 ·exact⟨_,_,_,h.heap,Or.inl rfl⟩
 ·obtain⟨g,o',e2,-,-,-,cur,hf⟩:=h.sl (List.length_pos_iff.1 h0);rw[e1] at e2;simp only[Option.some.injEq,Addr.mk.injEq,and_true] at e2;obtain⟨rfl,-⟩:=e2;exact⟨_,_,_,hf,Or.inr rfl⟩
theorem FlAt.offT {B m n:Nat}{f:FSt}{D:DataW Unit}{fv lv:Value}{S:Nat->Prop}(h:FlAt B w b e f m n D fv lv)(ho:Off S w w')(hS:∀ k,S k->∃ c T fr,w.heap[k]?=some (.cells c T fr)/\T≠245/\T≠3):FlAt B w' b e f m n D fv lv:=by
 have g:∀ k,k < w.heap.size->(∀ c T fr,w.heap[k]?=some (.cells c T fr)->T=245\/T=3)->w'.heap[k]?=w.heap[k]?:=fun k hk hT=>by
  refine ho.block k hk (fun hs=>?_);obtain⟨c,T,fr,h1,h2,h3⟩:=hS k hs
  rcases hT c T fr h1 with rfl | rfl
  ·exact h2 rfl
  ·exact h3 rfl
 refine h.same (g b (lt_of_row h.heap) (fun c T fr hc=>?_)) (g m (map_lt h) (fun c T fr hc=>?_)) (fun k hk=>g k (h.hf.lt k hk).2 (fun c T fr hc=>?_)) (fun k hk=>g k (h.hl.lt k hk).2 (fun c T fr hc=>?_))
 ·rw[h.heap] at hc;simp only[Option.some.injEq,Obj.cells.injEq] at hc;exact Or.inl hc.2.1.symm
 ·obtain⟨es,c',hm0,rest⟩:=h.own;rw[hm0] at hc
  cases hc
 ·obtain⟨c',fr',h1⟩:=own_ty h.hf hk;rw[h1] at hc;simp only[Option.some.injEq,Obj.cells.injEq] at hc;exact Or.inr hc.2.1.symm
 ·obtain⟨c',fr',h1⟩:=own_ty h.hl hk;rw[h1] at hc;simp only[Option.some.injEq,Obj.cells.injEq] at hc;exact Or.inr hc.2.1.symm
theorem WatAt.setA {a:ASt}(h:WatAt F w ba bg bf e s)(hg:w.grownBy w' (some ba))(ha:AlAt w' ba a):WatAt F w' ba bg bf e ⟨a,s.g,s.f⟩:=by
 obtain⟨sa,cap,h1,h2⟩:=h.ga;obtain⟨m,n,D,fv,lv,h3,h4,h5,h6,h7⟩:=h.fl
 refine⟨ha,h.fa,⟨sa,cap,h1.same (fun k hk=>?_),h2⟩,⟨m,n,D,fv,lv,h3.offT (Off.of_grown hg) (fun k hk=>?_),h4,h5,h6,h7⟩,h.gl⟩
 ·obtain⟨c,T,fr,h8,h9⟩:=gs_ty h1 hk
  refine hg.block k (lt_of_row h8) (fun e1=>?_)
  refine ne_ty h8 h.al.heap ?_ (Option.some.inj e1)
  rcases h9 with rfl | rfl <;> decide
 ·subst hk;exact⟨_,_,_,h.al.heap,by decide,by decide⟩
theorem WatAt.frA (h:WatAt F w ba bg bf e s)(hg:w.grownBy w' (some ba)):FrL F w w':=FrL.put hg h.al.heap (Or.inr (Or.inl rfl)) h.fa
theorem WatAt.setG {sa:Option Addr}{cap:Nat}{g:GSt}(h:WatAt F w ba bg bf e s)(h1:GpAt 0 w bg sa cap s.g)(h2:∀ k,GS bg sa s.g.xs.length k->F k)(ho:Off (GS bg sa s.g.xs.length) w w')(hg:GpAt 0 w' bg sa cap g)(hl:g.xs.length=s.g.xs.length):WatAt F w' ba bg bf e ⟨s.a,g,s.f⟩:=by
 obtain⟨m,n,D,fv,lv,h3,h4,h5,h6,h7⟩:=h.fl
 refine⟨h.al.same (ho.block ba (lt_of_row h.al.heap) (fun hs=>?_)),h.fa,⟨sa,cap,hg,fun k hk=>h2 k (by rw[<- hl];exact hk)⟩,⟨m,n,D,fv,lv,h3.offT ho (fun k hk=>?_),h4,h5,h6,h7⟩,hl.trans h.gl⟩
 ·obtain⟨c,T,fr,h8,h9⟩:=gs_ty h1 hs
  refine ne_ty h8 h.al.heap ?_ rfl
  rcases h9 with rfl | rfl <;> decide
 ·obtain⟨c,T,fr,h8,h9⟩:=gs_ty h1 hk
  refine⟨c,T,fr,h8,?_,?_⟩
  ·rcases h9 with rfl | rfl <;> decide
  ·rcases h9 with rfl | rfl <;> decide
theorem frG {sa:Option Addr}{cap:Nat}{g:GSt}(h1:GpAt 0 w bg sa cap g)(h2:∀ k,GS bg sa g.xs.length k->F k)(ho:Off (GS bg sa g.xs.length) w w'):FrL F w w':=by
 refine FrL.of _ ho (fun k _ hk=>⟨h2 k hk,?_⟩);obtain⟨c,T,fr,h8,h9⟩:=gs_ty h1 hk
 refine⟨c,T,fr,h8,?_⟩
 rcases h9 with rfl | rfl
 ·exact Or.inr (Or.inr (Or.inl rfl))
 ·exact Or.inr (Or.inr (Or.inr (Or.inl rfl)))
theorem WatAt.setF {m n:Nat}{D:DataW Unit}{fv lv:Value}{f:FSt}(h:WatAt F w ba bg bf e s)(h3:FlAt 0 w bf e s.f m n D fv lv)(h4:F bf)(h5:F m)(h6:∀ g,fv.ownBlock=some g->F g)(h7:∀ g,lv.ownBlock=some g->F g)(hg:w.grownBy w' (some bf))(hf:FlAt 0 w' bf e f m n D fv lv):WatAt F w' ba bg bf e ⟨s.a,s.g,f⟩:=by
 obtain⟨sa,cap,h1,h2⟩:=h.ga
 refine⟨h.al.same (hg.block ba (lt_of_row h.al.heap) (fun e1=>?_)),h.fa,⟨sa,cap,h1.same (fun k hk=>?_),h2⟩,⟨m,n,D,fv,lv,hf,h4,h5,h6,h7⟩,h.gl⟩
 ·exact ne_ty h.al.heap h3.heap (by decide) (Option.some.inj e1)
 ·obtain⟨c,T,fr,h8,h9⟩:=gs_ty h1 hk
  refine hg.block k (lt_of_row h8) (fun e1=>?_)
  refine ne_ty h8 h3.heap ?_ (Option.some.inj e1)
  rcases h9 with rfl | rfl <;> decide
theorem frF {m n:Nat}{D:DataW Unit}{fv lv:Value}{f:FSt}(h3:FlAt 0 w bf e f m n D fv lv)(h4:F bf)(hg:w.grownBy w' (some bf)):FrL F w w':=FrL.put hg h3.heap (Or.inr (Or.inr (Or.inr (Or.inr rfl)))) h4
theorem row_offL {c:Array Value}{fr:Nat × Nat}(hb:w.heap[b]?=some (.cells c 154 fr)){S:Nat->Prop}(ho:Off S w w')(hS:∀ k,S k->∃ c T fr,w.heap[k]?=some (.cells c T fr)/\T≠154):w'.heap[b]?=some (.cells c 154 fr):=by
 refine(ho.block b (lt_of_row hb) (fun hs=>?_)).trans hb;obtain⟨c',T,fr',h1,h2⟩:=hS b hs;exact ne_ty h1 hb h2 rfl
theorem WatAt.rowA (h:WatAt F w ba bg bf e s){c:Array Value}{fr:Nat × Nat}(hb:w.heap[b]?=some (.cells c 154 fr))(hg:w.grownBy w' (some ba)):w'.heap[b]?=some (.cells c 154 fr):=
 row_offL hb (Off.of_grown hg) (fun k hk=>by subst hk;exact⟨_,_,_,h.al.heap,by decide⟩)
theorem rowG {sa:Option Addr}{cap:Nat}{g:GSt}(h1:GpAt 0 w bg sa cap g){c:Array Value}{fr:Nat × Nat}(hb:w.heap[b]?=some (.cells c 154 fr))(ho:Off (GS bg sa g.xs.length) w w'):w'.heap[b]?=some (.cells c 154 fr):=
 row_offL hb ho (fun k hk=>by
  obtain⟨c,T,fr,h8,h9⟩:=gs_ty h1 hk
  refine⟨c,T,fr,h8,?_⟩
  rcases h9 with rfl | rfl <;> decide)
theorem rowF {m n:Nat}{D:DataW Unit}{fv lv:Value}{f:FSt}(h3:FlAt 0 w bf e f m n D fv lv){c:Array Value}{fr:Nat × Nat}(hb:w.heap[b]?=some (.cells c 154 fr))(hg:w.grownBy w' (some bf)):w'.heap[b]?=some (.cells c 154 fr):=
 row_offL hb (Off.of_grown hg) (fun k hk=>by subst hk;exact⟨_,_,_,h3.heap,by decide⟩)
structure WatTo (F:Nat->Prop)(w w':World)(b ba bg bf:Nat)(e:EntD)(s:WSt)(c:Array Value):Prop where
 wat:WatAt F w' ba bg bf e s
 row:w'.heap[b]?=some (.cells c 154 (0,0))
 fr:FrL F w w'
set_option maxHeartbeats 2000000 in
set_option maxRecDepth 100000 in
theorem watch_report (p t:Int)(c:Array Value)(h:WatAt F w ba bg bf e s)(hb:w.heap[b]?=some (.cells c 154 (0,0)))(h0:c[0]?=some (.pointer (some ⟨ba,0,none⟩)))(h1:c[1]?=some (.pointer (some ⟨bg,0,none⟩)))(h2:c[2]?=some (.pointer (some ⟨bf,0,none⟩)))(hS:SmallE e) :
  Calls Tryz.prog 90 #[.pointer (some ⟨b,0,none⟩),.int .i64 p,.int .i64 t] w fun v w'=>v=.returned (.tuple #[])/\WatTo F w w' b ba bg bf e (s.rep e p t) c:=by
 have H:Hid (WatAt F w ba bg bf e s):=h;have HB:Hid (w.heap[b]?=some (.cells c 154 (0,0))):=hb;have H1:Hid (c[1]?=some (.pointer (some ⟨bg,0,none⟩))):=h1;have H2:Hid (c[2]?=some (.pointer (some ⟨bf,0,none⟩))):=h2;have HS:Hid (SmallE e):=hS;have c0:w.cell? ⟨b,0,none⟩=some (.pointer (some ⟨ba,0,none⟩)):=by simp[World.cell?,hb,h0]
 clear h hb h0 h1 h2 hS;go_enter Tryz.func90,Tryz.ntmps90
 go_wp2_with fail
 refine(al_report2 p H.out.al).mono ?_;rintro v w1 ⟨rfl,hA,hg⟩;have H':Hid (WatTo F w w1 b ba bg bf e ⟨s.a.rep p,s.g,s.f⟩ c):=⟨H.out.setA hg hA,H.out.rowA HB.out hg,H.out.frA hg⟩;have c1:w1.cell? ⟨b,1,none⟩=some (.pointer (some ⟨bg,0,none⟩)):=by simp[World.cell?,H'.out.row,H1.out]
 clear c0 hA hg;go_wp2_with fail
 obtain⟨sa,cap,hG,hGF⟩:=H'.out.wat.ga;have HG:Hid (GpAt 0 w1 bg sa cap s.g/\∀ k,GS bg sa s.g.xs.length k->F k):=⟨hG,hGF⟩;clear hG hGF
 refine(gp_report2 p t HG.out.1 (by have h5:s.g.xs.length=e.gaps.length:=H'.out.wat.gl;have:=HS.out.hg;omega)).mono ?_;rintro v w2 ⟨rfl,hA,hg⟩;have H3:Hid (WatTo F w w2 b ba bg bf e ⟨s.a.rep p,s.g.rep p t,s.f⟩ c):=⟨H'.out.wat.setG HG.out.1 HG.out.2 hg hA (rep_len _ _ _),rowG HG.out.1 H'.out.row hg,H'.out.fr.trans (frG HG.out.1 HG.out.2 hg) (fun _ _ x=>x)⟩;have c2:w2.cell? ⟨b,2,none⟩=some (.pointer (some ⟨bf,0,none⟩)):=by simp[World.cell?,H3.out.row,H2.out]
 clear c1 hA hg HG H';go_wp2_with fail
 obtain⟨m,n,D,fv,lv,hF3,hF4,hF5,hF6,hF7⟩:=H3.out.wat.fl;have HF:Hid (FlAt 0 w2 bf e s.f m n D fv lv/\F bf/\F m/\(∀ g,fv.ownBlock=some g->F g)/\∀ g,lv.ownBlock=some g->F g):=⟨hF3,hF4,hF5,hF6,hF7⟩;clear hF3 hF4 hF5 hF6 hF7
 refine(fl_report2 p HF.out.1).mono ?_;rintro v w3 ⟨rfl,hA,hg⟩;have H4:Hid (WatTo F w w3 b ba bg bf e (s.rep e p t) c):=⟨H3.out.wat.setF HF.out.1 HF.out.2.1 HF.out.2.2.1 HF.out.2.2.2.1 HF.out.2.2.2.2 hg hA,rowF HF.out.1 H3.out.row hg,H3.out.fr.trans (frF HF.out.1 HF.out.2.1 hg) (fun _ _ x=>x)⟩;clear hA hg HF H3 c2;go_wp2;go_end0
 exact⟨rfl,H4.out⟩
end
end Go.Proofs.YtdpdbfhbojgigacGreatDoor
