/-
  Several texts as one: FlNew, LoClone, AlOff, GaOff.
-/
import Derived.Test.YtffpcbdlbcjihadGreatDoorP11S
import Derived.Lib.LazyBuf
import Derived.Maps.AppendAt
namespace Go.Proofs.YtffpcbdlbcjihadGreatDoor
open Go.RowKit Go.Extern.Stop Go.Stop Go.Extern
set_option maxHeartbeats 1000000 in
set_option maxRecDepth 100000 in
theorem clone_at (B:Nat)(l:List Int)(sa:Option Addr)(cap:Nat)(w:World)(hl:SlAt encI 1 w (.slice sa l.length cap) l)(hn:l.length<=1000000)(hB:B<=w.heap.size) :
  Calls Tryz.prog 227 #[.slice sa l.length cap] w fun v w'=>(∃ sa' cap',v=.returned (.slice sa' l.length cap')/\SlOwn encI 1 3 B w' (.slice sa' l.length cap') l)/\Below w.heap.size w w':=by
 obtain⟨i0,hi,hz0,hz1,hz2⟩:=info_parts Tryz.infoOwnf;have HL:Hid (SlAt encI 1 w (.slice sa l.length cap) l):=hl;have HN:Hid (l.length<=1000000):=hn;have HB:Hid (B<=w.heap.size):=hB;clear hl hn hB
 cases sa with
 | none=>
  have h0:l=[]:=by
   obtain⟨sa',cap',hsl,-,hcc⟩:=HL.out
   cases hsl
   by_cases e:l=[]
   ·exact e
   ·obtain⟨b,o,h,-⟩:=hcc e
    cases h
  subst h0;clear HL HN;have he:∀ w:World,(binOp .eql 42 (.slice none 0 cap) (.slice none 0 0)).run Tryz.prog w=.ok (.bool true) w:=fun w=>run_eql_slice_nil w _ _ none 0 cap Tryz.underlying42
  go_enter Tryz.func227,Tryz.ntmps227
  go_wp2;go_ret;exact⟨⟨none,0,rfl,World.ownsRow_nil _ _ _ _⟩,Below.refl _ _⟩
 | some a=>
  have he:∀ w:World,(binOp .eql 42 (.slice (some a) l.length cap) (.slice none 0 0)).run Tryz.prog w=.ok (.bool false) w:=fun w=>run_eql_slice_nil w _ _ (some a) _ cap Tryz.underlying42
  have HC:Hid (∀ V,Below w.heap.size w V->∀ j u,(l.flatMap encI)[j]?=some u->V.cell? (a.add j)=some u):=fun V hV j u hu=>by
   obtain⟨sa',cap',hsl,-,hcc⟩:=HL.out
   cases hsl
   have hne:l≠[]:=fun h=>by rw[h] at hu;simp at hu
   obtain⟨b,o,hbo,hc⟩:=hcc hne
   cases hbo
   obtain⟨i',j',y,e1,h2,h3⟩:=flat_of (enc:=encI) (k:=1) (fun _=>rfl) l j u hu;have:=hc i' y h2 j' u h3;rw[e1,addC_plain,<- Nat.add_assoc];exact cell_below hV this
  go_enter Tryz.func227,Tryz.ntmps227
  go_wp2_with (at_builtin;refine wpList_append_own _ rfl _ _ 42 rfl B 3 i0 (.int .i64 0) 1 8 Tryz.underlying42 hi hz0 hz1 hz2 rfl (by decide) (.slice (some ⟨w.heap.size,0,none⟩) 0 0) 0 [] rfl (World.ownsRow_made w #[] 0 HB.out (by unfold maxLen;omega) rfl) a l.length cap (l.flatMap encI) rfl (flat_len (enc:=encI) (k:=1) (fun _=>rfl) l) (HC.out _ (Below.one _ _)) (fun u hu=>by simp only[List.mem_flatMap] at hu;obtain⟨y,-,hy⟩:=hu;exact encI_one y u hy) (by have:=HN.out;unfold maxLen;omega) (by have:=HN.out;omega) (by have:=HB.out;simp;omega) ?_;intro v' w1 hown hg hn;obtain⟨va,vc,rfl⟩:=ow_form hown)
  go_ret;simp only[Nat.zero_add] at hown
  refine⟨⟨va,vc,by simp,by simpa[SlOwn] using hown⟩,?_⟩;have h1:Below w.heap.size w (w.alloc (.cells #[] 3)):=Below.one _ _;exact h1.grown hg h1.size (fun i hi=>by simp[Value.ownBlock] at hi;omega)
structure FlPre (B:Nat)(w:World)(b:Nat)(e:EntD)(m:Nat)(f1:Option Addr)(f2:Nat)(l1:Option Addr)(l2:Nat)(j:Nat):Prop where
 heap:w.heap[b]?=some (.cells #[.int .i64 (e.pts.length:Int),.map (some m),.slice f1 e.first.length f2,.slice l1 e.last.length l2,.int .i64 (-1),.bool false] 350 (0,0))
 lo:B<=b
 own:∃ D,w.ownsMap Tryz.prog 97 (unitElem (H:=Unit)) m j D/\EdgeMap D (e.edges.take j)
 mlo:B<=m
 hf:SlOwn encI 1 3 B w (.slice f1 e.first.length f2) e.first
 hl:SlOwn encI 1 3 B w (.slice l1 e.last.length l2) e.last
section
variable {B b m:Nat}{w w':World}{e:EntD}{f1 l1:Option Addr}{f2 l2 j:Nat}
theorem FlPre.below (h:FlPre B w b e m f1 f2 l1 l2 j)(hb:Below w.heap.size w w'):FlPre B w' b e m f1 f2 l1 l2 j:=by
 obtain⟨D,h1,h2⟩:=h.own;exact⟨row_below hb h.heap,h.lo,⟨D,ownsMap_below h1 hb,h2⟩,h.mlo,h.hf.below hb,h.hl.below hb⟩
theorem own_map {T:TypeId}{v:Value}{l:List Int}(h:SlOwn encI 1 T B w v l){D:DataW Unit}{k:TypeId}{R:Value->Option (DataW Unit × List MemPlace)}{n:Nat}(ho:w.ownsMap Tryz.prog k R m n D)(hg:w.grownBy w' (some m)):SlOwn encI 1 T B w' v l:=by
 refine h.kept hg (Or.inr ?_)
 rcases h.2 with ⟨rfl,_⟩ | ⟨g,cap,cur,rfl,_,hg',_⟩
 ·simp[Value.ownBlock]
 ·intro e;simp only[Value.ownBlock,Option.some.injEq] at e;subst e;obtain⟨es,c,hm,-⟩:=ho;rw[hg'] at hm
  cases hm
theorem FlPre.put {x:Int × Int}(h:FlPre B w b e m f1 f2 l1 l2 j)(hx:e.edges[j]?=some x)(hw:wf64 x.1/\wf64 x.2)(hj:j < maxLen) :
  ∃ w',(Instr.mapUpdate 348 (.map (some m)) (.agg #[.int .i64 x.1,.int .i64 x.2]) (.agg #[])).run Tryz.prog w=.ok () w'/\FlPre B w' b e m f1 f2 l1 l2 (j+1)/\w.grownBy w' (some m):=by
 obtain⟨D,h1,h2⟩:=h.own;obtain⟨w',hrun,ho,hg⟩:=h1.update Tryz.lawTwo Tryz.underlying348 hj (keyOf_two hw.1 hw.2) unitElem_mk
 refine⟨w',hrun,⟨(hg.block b (lt_of_row h.heap) ?_).trans h.heap,h.lo,⟨_,ho,?_⟩,h.mlo,own_map h.hf h1 hg,own_map h.hl h1 hg⟩,hg⟩
 ·intro e2
  cases e2
  obtain⟨es,c,hm,-⟩:=h1;rw[h.heap] at hm
  cases hm
 ·have:=edgeMap_put h2 x hw;rw[List.take_add_one,hx];exact this
end
def newS (e:EntD)(x B:Nat)(pa fa la:Option Addr)(pc fc lc:Nat):Nat->Value->World->Prop
 | 0=>fun v _=>v=.pointer (some ⟨x,2,none⟩)
 | 1=>fun v _=>v=.slice pa e.pts.length pc
 | 2=>fun v _=>v=.int .i64 (e.pts.length:Int)
 | 3=>fun v w=>∃ m,v=.map (some m)/\B<=m/\w.ownsMap Tryz.prog 97 (unitElem (H:=Unit)) m 0 (.map [])
 | 4=>fun v _=>v=.pointer (some ⟨x,8,none⟩)
 | 5=>fun v _=>v=.slice fa e.first.length fc
 | 6=>fun v w=>∃ f1 f2,v=.slice f1 e.first.length f2/\SlOwn encI 1 3 B w (.slice f1 e.first.length f2) e.first
 | 7=>fun v _=>v=.pointer (some ⟨x,9,none⟩)
 | 8=>fun v _=>v=.slice la e.last.length lc
 | 9=>fun v w=>∃ l1 l2,v=.slice l1 e.last.length l2/\SlOwn encI 1 3 B w (.slice l1 e.last.length l2) e.last
 | 10=>fun v w=>∃ m f1 f2 l1 l2,v=.agg #[.int .i64 (e.pts.length:Int),.map (some m),.slice f1 e.first.length f2,.slice l1 e.last.length l2,.int .i64 (-1),.bool false]/\B<=m/\w.ownsMap Tryz.prog 97 (unitElem (H:=Unit)) m 0 (.map [])/\SlOwn encI 1 3 B w (.slice f1 e.first.length f2) e.first/\SlOwn encI 1 3 B w (.slice l1 e.last.length l2) e.last
 | 11=>fun v w=>∃ b m f1 f2 l1 l2,v=.pointer (some ⟨b,0,none⟩)/\FlPre B w b e m f1 f2 l1 l2 0
 | 12=>fun v w=>∃ b m f1 f2 l1 l2,v=.pointer (some ⟨b,0,none⟩)/\FlPre B w b e m f1 f2 l1 l2 0
 | _=>fun _ _=>True
theorem newS_keeps {e:EntD}{x B:Nat}{pa fa la:Option Addr}{pc fc lc:Nat}{w w':World}(hb:Below w.heap.size w w'):∀ j v,newS e x B pa fa la pc fc lc j v w->newS e x B pa fa la pc fc lc j v w':=by
 intro j v h
 match j,h with
 | 0,h=>exact h
 | 1,h=>exact h
 | 2,h=>exact h
 | 3,h=>obtain⟨m,h1,h2,h3⟩:=h;exact⟨m,h1,h2,ownsMap_below h3 hb⟩
 | 4,h=>exact h
 | 5,h=>exact h
 | 6,h=>obtain⟨a,c,h1,h2⟩:=h;exact⟨a,c,h1,h2.below hb⟩
 | 7,h=>exact h
 | 8,h=>exact h
 | 9,h=>obtain⟨a,c,h1,h2⟩:=h;exact⟨a,c,h1,h2.below hb⟩
 | 10,h=>obtain⟨m,f1,f2,l1,l2,h1,h2,h3,h4,h5⟩:=h;exact⟨m,f1,f2,l1,l2,h1,h2,ownsMap_below h3 hb,h4.below hb,h5.below hb⟩
 | 11,h=>obtain⟨b,m,f1,f2,l1,l2,h1,h2⟩:=h;exact⟨b,m,f1,f2,l1,l2,h1,h2.below hb⟩
 | 12,h=>obtain⟨b,m,f1,f2,l1,l2,h1,h2⟩:=h;exact⟨b,m,f1,f2,l1,l2,h1,h2.below hb⟩
 | n+13,h=>exact h
def edgeS (b m:Nat)(x:Int × Int):Nat->Value->World->Prop
 | 0=>fun v _=>v=.pointer (some ⟨b,0,none⟩)
 | 1=>fun v _=>v=.pointer (some ⟨b,0,none⟩)
 | 2=>fun v _=>v=.pointer (some ⟨b,1,none⟩)
 | 3=>fun v _=>v=.map (some m)
 | 4=>fun v _=>v=.agg #[.int .i64 x.1,.int .i64 x.2]
 | 5=>fun v _=>v=.agg #[]
 | _=>fun _ _=>True
theorem edgeS_keeps {b m:Nat}{x:Int × Int}{done:Nat->Bool}{w w':World}:∀ j v,done j=true->edgeS b m x j v w->edgeS b m x j v w':=by
 intro j v _ h
 match j,h with
 | 0,h=>exact h
 | 1,h=>exact h
 | 2,h=>exact h
 | 3,h=>exact h
 | 4,h=>exact h
 | 5,h=>exact h
 | n+6,h=>exact h
def upTo (k:Nat)(d:Bool):Nat:=if d then k+1 else k
def FlMade (w w':World)(b:Nat)(e:EntD):Prop:=Below w.heap.size w w'/\∃ m n D fv lv,FlAt w.heap.size w' b e ⟨-1,false⟩ m n D fv lv/\w.heap.size<=m
set_option maxHeartbeats 4000000 in
set_option maxRecDepth 100000 in
theorem fl_new2 (e:EntD)(pa ga ea fa la:Option Addr)(pc gc ec fc lc:Nat)(w:World)(hP:EntParts w e (.slice pa e.pts.length pc) (.slice ga e.gaps.length gc) (.slice ea e.edges.length ec) (.slice fa e.first.length fc) (.slice la e.last.length lc))(hS:SmallE e)(hW:WfE e.edges) :
  Calls Tryz.prog 232 #[.agg #[.string e.name,.int .i64 e.tol,.slice pa e.pts.length pc,.int .i64 e.cnt,.int .i64 e.mn,.int .i64 e.mx,.slice ga e.gaps.length gc,.slice ea e.edges.length ec,.slice fa e.first.length fc,.slice la e.last.length lc]] w fun v w'=>∃ b,v=.returned (.pointer (some ⟨b,0,none⟩))/\FlMade w w' b e:=by
 have HP:Hid (EntParts w e (.slice pa e.pts.length pc) (.slice ga e.gaps.length gc) (.slice ea e.edges.length ec) (.slice fa e.first.length fc) (.slice la e.last.length lc)):=hP;have HSm:Hid (SmallE e):=hS;have HWE:Hid (WfE e.edges):=hW;clear hP hS hW;go_enter Tryz.func232,Tryz.ntmps232
 go_upto_region 1 with fail
 obtain⟨W,hW⟩:∃ V,V=w.alloc (.cells #[.string e.name,.int .i64 e.tol,.slice pa e.pts.length pc,.int .i64 e.cnt,.int .i64 e.mn,.int .i64 e.mx,.slice ga e.gaps.length gc,.slice ea e.edges.length ec,.slice fa e.first.length fc,.slice la e.last.length lc] 83):=⟨_,rfl⟩;rw[<- hW];have HBW:Hid (Below w.heap.size w W):=by show Below _ _ _;rw[hW];exact Below.one _ _
 have HX:Hid (∀ (j:Nat) u,(#[.string e.name,.int .i64 e.tol,.slice pa e.pts.length pc,.int .i64 e.cnt,.int .i64 e.mn,.int .i64 e.mx,.slice ga e.gaps.length gc,.slice ea e.edges.length ec,.slice fa e.first.length fc,.slice la e.last.length lc]:Array Value)[j]?=some u->W.cell? ⟨w.heap.size,j,none⟩=some u):=fun j u hu=>by
  rw[hW];have:=ce_at w [.string e.name,.int .i64 e.tol,.slice pa e.pts.length pc,.int .i64 e.cnt,.int .i64 e.mn,.int .i64 e.mx,.slice ga e.gaps.length gc,.slice ea e.edges.length ec,.slice fa e.first.length fc,.slice la e.last.length lc] 83 j u (by simpa using hu);rw[addC_plain] at this;simpa using this
 clear hW
 go_cut [3,6,7,8,9,10,11,12,13,14,15,16,17] (fun v _ _ _ _ _ _ _ _ _ _ _ _ wx=>∃ b m f1 f2 l1 l2,v=.pointer (some ⟨b,0,none⟩)/\Below W.heap.size W wx/\FlPre w.heap.size wx b e m f1 f2 l1 l2 0)
 case first=>
  refine region_spec 13 rfl (newS e w.heap.size w.heap.size pa fa la pc fc lc) (fun V=>Below W.heap.size W V) (by kernel_rfl) (by kernel_rfl) (Below.refl _ _).drew ?_ ?_
  ·intro i o ho
   match i,ho with
   | 0,ho=>
    obtain rfl:=Option.some.inj ho
    refine StepOk.free rfl ?_;intro a V hC hdep hoth;have x1:a.tmps[1]?.getD undef=.pointer (some ⟨w.heap.size,0,none⟩):=slot_of (hoth 1 (notDst (by kernel_rfl)));exact goodRun.val (c:=.pointer (some ⟨w.heap.size,2,none⟩)) (by clear hdep hoth;go_simp) hC rfl
   | 1,ho=>
    obtain rfl:=Option.some.inj ho
    refine StepOk.free rfl ?_;intro a V hC hdep hoth;have x6:a.tmps[6]?.getD undef=.pointer (some ⟨w.heap.size,2,none⟩):=slot_of (hdep _ 6 (Array.mem_of_getElem? (i:=0) rfl) rfl rfl);have c2:V.cell? ⟨w.heap.size,2,none⟩=some (.slice pa e.pts.length pc):=cell_below hC (HX.out 2 _ rfl);exact goodRun.val (c:=.slice pa e.pts.length pc) (by clear hdep hoth;go_simp) hC rfl
   | 2,ho=>
    obtain rfl:=Option.some.inj ho
    refine StepOk.free rfl ?_;intro a V hC hdep hoth;have x7:a.tmps[7]?.getD undef=.slice pa e.pts.length pc:=slot_of (hdep _ 7 (Array.mem_of_getElem? (i:=0) rfl) rfl rfl);exact goodRun.val (c:=.int .i64 (e.pts.length:Int)) (by clear hdep hoth;go_simp) hC rfl
   | 3,ho=>
    obtain rfl:=Option.some.inj ho
    refine StepOk.free rfl ?_;intro a V hC hdep hoth;have hrun:=run_makeMap (P:=Tryz.prog) 348 V;exact goodRun.made (c:=.map (some V.heap.size)) (w':=V.alloc (.map #[] 0)) (by clear hdep hoth;go_simp) (hC.alloc hC.size _) (newS_keeps (Below.one _ _)) ⟨_,rfl,Nat.le_trans HBW.out.size hC.size,World.ownsMap_made V _ _ _⟩
   | 4,ho=>
    obtain rfl:=Option.some.inj ho
    refine StepOk.free rfl ?_;intro a V hC hdep hoth;have x1:a.tmps[1]?.getD undef=.pointer (some ⟨w.heap.size,0,none⟩):=slot_of (hoth 1 (notDst (by kernel_rfl)));exact goodRun.val (c:=.pointer (some ⟨w.heap.size,8,none⟩)) (by clear hdep hoth;go_simp) hC rfl
   | 5,ho=>
    obtain rfl:=Option.some.inj ho
    refine StepOk.free rfl ?_;intro a V hC hdep hoth;have x10:a.tmps[10]?.getD undef=.pointer (some ⟨w.heap.size,8,none⟩):=slot_of (hdep _ 10 (Array.mem_of_getElem? (i:=0) rfl) rfl rfl);have c8:V.cell? ⟨w.heap.size,8,none⟩=some (.slice fa e.first.length fc):=cell_below hC (HX.out 8 _ rfl);exact goodRun.val (c:=.slice fa e.first.length fc) (by clear hdep hoth;go_simp) hC rfl
   | 6,ho=>
    obtain rfl:=Option.some.inj ho
    refine StepOk.free rfl ?_;intro a V hC hdep hoth;have x11:a.tmps[11]?.getD undef=.slice fa e.first.length fc:=slot_of (hdep _ 11 (Array.mem_of_getElem? (i:=0) rfl) rfl rfl)
    refine goodRun.call (f:=227) (args:=#[.slice fa e.first.length fc]) (by clear hdep hoth;go_simp) ?_
    refine(clone_at w.heap.size e.first _ _ V ((HP.out.hf).below (HBW.out.trans (hC.mono HBW.out.size))) HSm.out.hf (Nat.le_trans HBW.out.size hC.size)).mono ?_;rintro v V' ⟨⟨sa',cap',rfl,ho'⟩,hb'⟩;exact⟨_,rfl,hC.trans (hb'.mono hC.size),newS_keeps hb',⟨_,_,rfl,ho'⟩⟩
   | 7,ho=>
    obtain rfl:=Option.some.inj ho
    refine StepOk.free rfl ?_;intro a V hC hdep hoth;have x1:a.tmps[1]?.getD undef=.pointer (some ⟨w.heap.size,0,none⟩):=slot_of (hoth 1 (notDst (by kernel_rfl)));exact goodRun.val (c:=.pointer (some ⟨w.heap.size,9,none⟩)) (by clear hdep hoth;go_simp) hC rfl
   | 8,ho=>
    obtain rfl:=Option.some.inj ho
    refine StepOk.free rfl ?_;intro a V hC hdep hoth;have x13:a.tmps[13]?.getD undef=.pointer (some ⟨w.heap.size,9,none⟩):=slot_of (hdep _ 13 (Array.mem_of_getElem? (i:=0) rfl) rfl rfl);have c9:V.cell? ⟨w.heap.size,9,none⟩=some (.slice la e.last.length lc):=cell_below hC (HX.out 9 _ rfl);exact goodRun.val (c:=.slice la e.last.length lc) (by clear hdep hoth;go_simp) hC rfl
   | 9,ho=>
    obtain rfl:=Option.some.inj ho
    refine StepOk.free rfl ?_;intro a V hC hdep hoth;have x14:a.tmps[14]?.getD undef=.slice la e.last.length lc:=slot_of (hdep _ 14 (Array.mem_of_getElem? (i:=0) rfl) rfl rfl)
    refine goodRun.call (f:=227) (args:=#[.slice la e.last.length lc]) (by clear hdep hoth;go_simp) ?_
    refine(clone_at w.heap.size e.last _ _ V ((HP.out.hl).below (HBW.out.trans (hC.mono HBW.out.size))) HSm.out.hl (Nat.le_trans HBW.out.size hC.size)).mono ?_;rintro v V' ⟨⟨sa',cap',rfl,ho'⟩,hb'⟩;exact⟨_,rfl,hC.trans (hb'.mono hC.size),newS_keeps hb',⟨_,_,rfl,ho'⟩⟩
   | 10,ho=>
    obtain rfl:=Option.some.inj ho
    refine StepOk.free rfl ?_;intro a V hC hdep hoth;have x8:a.tmps[8]?.getD undef=.int .i64 (e.pts.length:Int):=slot_of (hdep _ 8 (Array.mem_of_getElem? (i:=0) rfl) rfl rfl);obtain⟨m,hm1,hm2,hm3⟩:=hdep _ 9 (Array.mem_of_getElem? (i:=1) rfl) rfl rfl;obtain⟨f1,f2,hf1,hf2⟩:=hdep _ 12 (Array.mem_of_getElem? (i:=2) rfl) rfl rfl;obtain⟨l1,l2,hl1,hl2⟩:=hdep _ 15 (Array.mem_of_getElem? (i:=3) rfl) rfl rfl;have x9:a.tmps[9]?.getD undef=.map (some m):=slot_of hm1;have x12:a.tmps[12]?.getD undef=.slice f1 e.first.length f2:=slot_of hf1;have x15:a.tmps[15]?.getD undef=.slice l1 e.last.length l2:=slot_of hl1;exact goodRun.val (c:=.agg #[.int .i64 (e.pts.length:Int),.map (some m),.slice f1 e.first.length f2,.slice l1 e.last.length l2,.int .i64 (-1),.bool false]) (by clear hdep hoth hm1 hm2 hm3 hf1 hf2 hl1 hl2;go_simp) hC ⟨m,f1,f2,l1,l2,rfl,hm2,hm3,hf2,hl2⟩
   | 11,ho=>
    obtain rfl:=Option.some.inj ho
    refine StepOk.free rfl ?_;intro a V hC hdep hoth;obtain⟨m,f1,f2,l1,l2,hv,hm2,hm3,hf2,hl2⟩:=hdep _ 16 (Array.mem_of_getElem? (i:=0) rfl) rfl rfl;have x16:=slot_of hv;exact goodRun.made (c:=.pointer (some ⟨V.heap.size,0,none⟩)) (w':=V.alloc (.cells #[.int .i64 (e.pts.length:Int),.map (some m),.slice f1 e.first.length f2,.slice l1 e.last.length l2,.int .i64 (-1),.bool false] 350)) (by clear hdep hoth hv hm2 hm3 hf2 hl2;go_simp) (hC.alloc hC.size _) (newS_keeps (Below.one _ _)) ⟨_,m,f1,f2,l1,l2,rfl,⟨(MapKept.heap_alloc V _).1,Nat.le_trans HBW.out.size hC.size,⟨_,hm3.alloc _,edgeMap_nil⟩,hm2,hf2.below (Below.one _ _),hl2.below (Below.one _ _)⟩⟩
   | 12,ho=>
    obtain rfl:=Option.some.inj ho
    refine StepOk.free rfl ?_;intro a V hC hdep hoth;obtain⟨b,m,f1,f2,l1,l2,hv,hp⟩:=hdep _ 17 (Array.mem_of_getElem? (i:=0) rfl) rfl rfl;have x17:=slot_of hv;exact goodRun.val (c:=.pointer (some ⟨b,0,none⟩)) (by clear hdep hoth hv hp;go_simp) hC ⟨b,m,f1,f2,l1,l2,rfl,hp⟩
   | n+13,ho=>simp at ho
  ·intro vals V hC hS;obtain⟨b,m,f1,f2,l1,l2,hv,hp⟩:=hS 12 (by decide);have HCC:Hid (Below W.heap.size W V):=hC;have HPP:Hid (FlPre w.heap.size V b e m f1 f2 l1 l2 0):=hp;clear hS hC hp;simp only[fill,dstOf];go_simp
   go_wp2_with fail
   go_meet
   case rel=>exact⟨b,m,f1,f2,l1,l2,rfl,HCC.out,HPP.out⟩
 obtain⟨b,m,f1,f2,l1,l2,rfl,hbW,hp0⟩:=hcut;rename World=>W1
 have HB1:Hid (Below W.heap.size W W1):=hbW;have HPre:Hid (FlPre w.heap.size W1 b e m f1 f2 l1 l2 0):=hp0;have c7:W1.cell? ⟨w.heap.size,7,none⟩=some (.slice ea e.edges.length ec):=cell_below hbW (HX.out 7 _ rfl);have HBw:Hid (Below w.heap.size w W1):=HBW.out.trans (hbW.mono HBW.out.size);clear hbW hp0 HX HB1;go_wp2_with fail
 clear c7
 go_loopw [5,21] (fun _ i wr=>∃ k:Nat,k<=e.edges.length/\i=.int .i64 k/\Below w.heap.size w wr/\FlPre w.heap.size wr b e m f1 f2 l1 l2 k) (fun _ i _=>e.edges.length - (intOf i).toNat)
 case atStart=>exact⟨0,Nat.zero_le _,rfl,HBw.out,HPre.out⟩
 case round=>
  clear HPre HBw;obtain⟨k,hk,rfl,hbk,hpk⟩:=hrel;have HB:Hid (Below w.heap.size w wr):=hbk;have HPk:Hid (FlPre w.heap.size wr b e m f1 f2 l1 l2 k):=hpk;clear hbk hpk
  by_cases hlt:k < e.edges.length
  ·have k1:(k:Int) < (e.edges.length:Int):=by omega
   have k2:k < 1000000:=by have:=HSm.out.he;omega
   have HK:Hid (k < 1000000):=k2;obtain⟨x,hx⟩:∃ x,e.edges[k]?=some x:=⟨_,List.getElem?_eq_getElem hlt⟩;have HXk:Hid (e.edges[k]?=some x):=hx;have HWf:Hid (wf64 x.1/\wf64 x.2):=HWE.out x (List.mem_of_getElem? hx);obtain⟨sa',cap',hsl,-,hcc⟩:=HP.out.he
   cases hsl
   obtain⟨g,o,rfl,hc0⟩:=hcc (fun h=>by rw[h] at hx;simp at hx);have c0:=cell_below HB.out (hc0 k _ hx 0 _ rfl);have c1:=cell_below HB.out (hc0 k _ hx 1 _ rfl);simp only[Nat.add_zero] at c0;clear hcc hc0 hx;go_upto_region 5 with fail
   obtain⟨V0,hV0⟩:∃ V,V=wr.alloc (.cells #[.int .i64 x.1,.int .i64 x.2] 97):=⟨_,rfl⟩;rw[<- hV0];have HBV:Hid (Below wr.heap.size wr V0):=by show Below _ _ _;rw[hV0];exact Below.one _ _
   have HKb:Hid (V0.heap[wr.heap.size]?=some (.cells #[.int .i64 x.1,.int .i64 x.2] 97 (0,0))):=by show _=_;rw[hV0];exact(MapKept.heap_alloc wr _).1
   obtain⟨kb,hkb⟩:∃ kb,kb=wr.heap.size:=⟨_,rfl⟩;have HBB:Hid (Below w.heap.size w V0/\FlPre w.heap.size V0 b e m f1 f2 l1 l2 k):=⟨HB.out.trans (HBV.out.mono HB.out.size),HPk.out.below HBV.out⟩;rw[<- hkb] at HKb;rw[<- hkb];clear hV0 c0 c1 HBV hkb HB HPk
   refine region_spec2 7 rfl (edgeS b m x) (fun done V=>Below w.heap.size w V/\FlPre w.heap.size V b e m f1 f2 l1 l2 (upTo k (done 6))/\V.heap[kb]?=some (.cells #[.int .i64 x.1,.int .i64 x.2] 97 (0,0))) (by kernel_rfl) (by kernel_rfl) ⟨HBB.out.1.drew,HBB.out.2.below (Below.refl _ _).drew,HKb.out⟩ ?_ ?_
   ·intro i o ho
    match i,ho with
    | 0,ho=>
     obtain rfl:=Option.some.inj ho
     refine StepOk2.free rfl ?_;intro done a V hC hdn _ hdep hoth;have x3:a.tmps[3]?.getD undef=.pointer (some ⟨b,0,none⟩):=slot_of (hoth 3 (notDst (by kernel_rfl)));exact goodRun2.val (c:=.pointer (some ⟨b,0,none⟩)) (by clear hdep hoth;go_simp) ⟨hC.1,by rw[mark_other done (by decide)];exact hC.2.1,hC.2.2⟩ rfl
    | 1,ho=>
     obtain rfl:=Option.some.inj ho
     refine StepOk2.free rfl ?_;intro done a V hC hdn _ hdep hoth;have x25:a.tmps[25]?.getD undef=.pointer (some ⟨b,0,none⟩):=slot_of (hdep _ 25 (Array.mem_of_getElem? (i:=0) rfl) rfl rfl);exact goodRun2.val (c:=.pointer (some ⟨b,0,none⟩)) (by clear hdep hoth;go_simp) ⟨hC.1,by rw[mark_other done (by decide)];exact hC.2.1,hC.2.2⟩ rfl
    | 2,ho=>
     obtain rfl:=Option.some.inj ho
     refine StepOk2.free rfl ?_;intro done a V hC hdn _ hdep hoth;have x26:a.tmps[26]?.getD undef=.pointer (some ⟨b,0,none⟩):=slot_of (hdep _ 26 (Array.mem_of_getElem? (i:=0) rfl) rfl rfl);exact goodRun2.val (c:=.pointer (some ⟨b,1,none⟩)) (by clear hdep hoth;go_simp) ⟨hC.1,by rw[mark_other done (by decide)];exact hC.2.1,hC.2.2⟩ rfl
    | 3,ho=>
     obtain rfl:=Option.some.inj ho
     refine StepOk2.free rfl ?_;intro done a V hC hdn _ hdep hoth;have x27:a.tmps[27]?.getD undef=.pointer (some ⟨b,1,none⟩):=slot_of (hdep _ 27 (Array.mem_of_getElem? (i:=0) rfl) rfl rfl);have c1:V.cell? ⟨b,1,none⟩=some (.map (some m)):=by have:=hC.2.1.heap;simp[World.cell?,this]
     exact goodRun2.val (c:=.map (some m)) (by clear hdep hoth;go_simp) ⟨hC.1,by rw[mark_other done (by decide)];exact hC.2.1,hC.2.2⟩ rfl
    | 4,ho=>
     obtain rfl:=Option.some.inj ho
     refine StepOk2.free rfl ?_;intro done a V hC hdn _ hdep hoth;have x5:a.tmps[5]?.getD undef=.pointer (some ⟨kb,0,none⟩):=slot_of (hoth 5 (notDst (by kernel_rfl)));have c0:V.cell? ⟨kb,0,none⟩=some (.int .i64 x.1):=by have:=hC.2.2;simp[World.cell?,this]
     have c1:V.cell? ⟨kb,1,none⟩=some (.int .i64 x.2):=by have:=hC.2.2;simp[World.cell?,this]
     exact goodRun2.val (c:=.agg #[.int .i64 x.1,.int .i64 x.2]) (by clear hdep hoth;go_simp) ⟨hC.1,by rw[mark_other done (by decide)];exact hC.2.1,hC.2.2⟩ rfl
    | 5,ho=>
     obtain rfl:=Option.some.inj ho
     refine StepOk2.free rfl ?_;intro done a V hC hdn _ hdep hoth;exact goodRun2.val (c:=.agg #[]) (by clear hdep hoth;go_simp) ⟨hC.1,by rw[mark_other done (by decide)];exact hC.2.1,hC.2.2⟩ rfl
    | 6,ho=>
     obtain rfl:=Option.some.inj ho
     refine StepOk2.free rfl ?_;intro done a V hC hdn _ hdep hoth;have x28:a.tmps[28]?.getD undef=.map (some m):=slot_of (hdep _ 28 (Array.mem_of_getElem? (i:=0) rfl) rfl rfl);have x29:a.tmps[29]?.getD undef=.agg #[.int .i64 x.1,.int .i64 x.2]:=slot_of (hdep _ 29 (Array.mem_of_getElem? (i:=1) rfl) rfl rfl);have x30:a.tmps[30]?.getD undef=.agg #[]:=slot_of (hdep _ 30 (Array.mem_of_getElem? (i:=2) rfl) rfl rfl);have hp:FlPre w.heap.size V b e m f1 f2 l1 l2 k:=by have:=hC.2.1;rw[hdn] at this;exact this
     obtain⟨V',hrun,hp',hg'⟩:=hp.put HXk.out HWf.out (by have:=HK.out;unfold maxLen;omega)
     refine goodRun2.skipped (w':=V') (by clear hdep hoth hC hp hp' hg';go_simp) ⟨?_,?_,?_⟩ (edgeS_keeps) trivial
     ·exact hC.1.grown hg' hC.1.size (fun i hi=>by cases hi;exact hp.mlo)
     ·rw[mark_same];exact hp'
     ·exact(hg'.block _ (lt_of_row hC.2.2) (by intro e2;cases e2;obtain⟨D,⟨es,c,hm,-⟩,-⟩:=hp.own;rw[hC.2.2] at hm;cases hm)).trans hC.2.2
    | n+7,ho=>simp at ho
   ·intro vals V hC hS;have HCC:Hid (Below w.heap.size w V/\FlPre w.heap.size V b e m f1 f2 l1 l2 (k+1)):=⟨hC.1,hC.2.1⟩;clear hS hC HBB HKb;simp only[fill,dstOf];go_simp
    go_wp2_with fail
    go_roundw
    case rel=>exact⟨k+1,by omega,by go_num,HCC.out.1,HCC.out.2⟩
    case measure=>simp[intOf];omega
  ·have k1:¬(k:Int) < (e.edges.length:Int):=by omega
   have hkk:k=e.edges.length:=by omega
   have HF:Hid (FlMade w wr b e):=by
    obtain⟨D,h1,h2⟩:=HPk.out.own
    refine⟨HB.out,m,k,D,_,_,⟨HPk.out.heap,HPk.out.lo,h1,?_,HPk.out.hf,HPk.out.hl,Or.inl rfl,HSm.out,HWE.out⟩,HPk.out.mlo⟩;rw[hkk,List.take_length] at h2;exact h2
   go_wp2;go_ret;exact⟨b,rfl,HF.out⟩
set_option maxHeartbeats 1000000 in
set_option maxRecDepth 100000 in
theorem cloneS_at (B:Nat)(l:List (ByteArray))(sa:Option Addr)(cap:Nat)(w:World)(hl:SlAt encS 1 w (.slice sa l.length cap) l)(hn:l.length<=1000000)(hB:B<=w.heap.size) :
  Calls Tryz.prog 224 #[.slice sa l.length cap] w fun v w'=>(∃ sa' cap',v=.returned (.slice sa' l.length cap')/\SlOwn encS 1 9 B w' (.slice sa' l.length cap') l)/\Below w.heap.size w w':=by
 obtain⟨i0,hi,hz0,hz1,hz2⟩:=info_parts Tryz.infoOwnp;have HL:Hid (SlAt encS 1 w (.slice sa l.length cap) l):=hl;have HN:Hid (l.length<=1000000):=hn;have HB:Hid (B<=w.heap.size):=hB;clear hl hn hB
 cases sa with
 | none=>
  have h0:l=[]:=by
   obtain⟨sa',cap',hsl,-,hcc⟩:=HL.out
   cases hsl
   by_cases e:l=[]
   ·exact e
   ·obtain⟨b,o,h,-⟩:=hcc e
    cases h
  subst h0;clear HL HN;have he:∀ w:World,(binOp .eql 22 (.slice none 0 cap) (.slice none 0 0)).run Tryz.prog w=.ok (.bool true) w:=fun w=>run_eql_slice_nil w _ _ none 0 cap Tryz.underlying22
  go_enter Tryz.func224,Tryz.ntmps224
  go_wp2;go_ret;exact⟨⟨none,0,rfl,World.ownsRow_nil _ _ _ _⟩,Below.refl _ _⟩
 | some a=>
  have he:∀ w:World,(binOp .eql 22 (.slice (some a) l.length cap) (.slice none 0 0)).run Tryz.prog w=.ok (.bool false) w:=fun w=>run_eql_slice_nil w _ _ (some a) _ cap Tryz.underlying22
  have HC:Hid (∀ V,Below w.heap.size w V->∀ j u,(l.flatMap encS)[j]?=some u->V.cell? (a.add j)=some u):=fun V hV j u hu=>by
   obtain⟨sa',cap',hsl,-,hcc⟩:=HL.out
   cases hsl
   have hne:l≠[]:=fun h=>by rw[h] at hu;simp at hu
   obtain⟨b,o,hbo,hc⟩:=hcc hne
   cases hbo
   obtain⟨i',j',y,e1,h2,h3⟩:=flat_of (enc:=encS) (k:=1) (fun _=>rfl) l j u hu;have:=hc i' y h2 j' u h3;rw[e1,addC_plain,<- Nat.add_assoc];exact cell_below hV this
  go_enter Tryz.func224,Tryz.ntmps224
  go_wp2_with (at_builtin;refine wpList_append_own _ rfl _ _ 22 rfl B 9 i0 (.string ⟨#[]⟩) 1 16 Tryz.underlying22 hi hz0 hz1 hz2 rfl (by decide) (.slice (some ⟨w.heap.size,0,none⟩) 0 0) 0 [] rfl (World.ownsRow_made w #[] 0 HB.out (by unfold maxLen;omega) rfl) a l.length cap (l.flatMap encS) rfl (flat_len (enc:=encS) (k:=1) (fun _=>rfl) l) (HC.out _ (Below.one _ _)) (fun u hu=>by simp only[List.mem_flatMap] at hu;obtain⟨y,-,hy⟩:=hu;exact encS_one y u hy) (by have:=HN.out;unfold maxLen;omega) (by have:=HN.out;omega) (by have:=HB.out;simp;omega) ?_;intro v' w1 hown hg hn;obtain⟨va,vc,rfl⟩:=ow_form hown)
  go_ret;simp only[Nat.zero_add] at hown
  refine⟨⟨va,vc,by simp,by simpa[SlOwn] using hown⟩,?_⟩;have h1:Below w.heap.size w (w.alloc (.cells #[] 9)):=Below.one _ _;exact h1.grown hg h1.size (fun i hi=>by simp[Value.ownBlock] at hi;omega)
set_option maxHeartbeats 1000000 in
set_option maxRecDepth 100000 in
theorem cloneG_at (B:Nat)(l:List (GapD))(sa:Option Addr)(cap:Nat)(w:World)(hl:SlAt encG 4 w (.slice sa l.length cap) l)(hn:l.length<=1000000)(hB:B<=w.heap.size) :
  Calls Tryz.prog 225 #[.slice sa l.length cap] w fun v w'=>(∃ sa' cap',v=.returned (.slice sa' l.length cap')/\SlOwn encG 4 96 B w' (.slice sa' l.length cap') l)/\Below w.heap.size w w':=by
 obtain⟨i0,hi,hz0,hz1,hz2⟩:=info_parts Tryz.infoOwng;have HL:Hid (SlAt encG 4 w (.slice sa l.length cap) l):=hl;have HN:Hid (l.length<=1000000):=hn;have HB:Hid (B<=w.heap.size):=hB;clear hl hn hB
 cases sa with
 | none=>
  have h0:l=[]:=by
   obtain⟨sa',cap',hsl,-,hcc⟩:=HL.out
   cases hsl
   by_cases e:l=[]
   ·exact e
   ·obtain⟨b,o,h,-⟩:=hcc e
    cases h
  subst h0;clear HL HN;have he:∀ w:World,(binOp .eql 80 (.slice none 0 cap) (.slice none 0 0)).run Tryz.prog w=.ok (.bool true) w:=fun w=>run_eql_slice_nil w _ _ none 0 cap Tryz.underlying80
  go_enter Tryz.func225,Tryz.ntmps225
  go_wp2;go_ret;exact⟨⟨none,0,rfl,World.ownsRow_nil _ _ _ _⟩,Below.refl _ _⟩
 | some a=>
  have he:∀ w:World,(binOp .eql 80 (.slice (some a) l.length cap) (.slice none 0 0)).run Tryz.prog w=.ok (.bool false) w:=fun w=>run_eql_slice_nil w _ _ (some a) _ cap Tryz.underlying80
  have HC:Hid (∀ V,Below w.heap.size w V->∀ j u,(l.flatMap encG)[j]?=some u->V.cell? (a.add j)=some u):=fun V hV j u hu=>by
   obtain⟨sa',cap',hsl,-,hcc⟩:=HL.out
   cases hsl
   have hne:l≠[]:=fun h=>by rw[h] at hu;simp at hu
   obtain⟨b,o,hbo,hc⟩:=hcc hne
   cases hbo
   obtain⟨i',j',y,e1,h2,h3⟩:=flat_of (enc:=encG) (k:=4) (fun _=>rfl) l j u hu;have:=hc i' y h2 j' u h3;rw[e1,addC_plain,<- Nat.add_assoc];exact cell_below hV this
  go_enter Tryz.func225,Tryz.ntmps225
  go_wp2_with (at_builtin;refine wpList_append_own _ rfl _ _ 80 rfl B 96 i0 (.agg #[.int .i64 0,.int .i64 0,.int .i64 0,.int .i64 0]) 4 32 Tryz.underlying80 hi hz0 hz1 hz2 rfl (by decide) (.slice (some ⟨w.heap.size,0,none⟩) 0 0) 0 [] rfl (World.ownsRow_made w #[] 0 HB.out (by unfold maxLen;omega) rfl) a l.length cap (l.flatMap encG) rfl (flat_len (enc:=encG) (k:=4) (fun _=>rfl) l) (HC.out _ (Below.one _ _)) (fun u hu=>by simp only[List.mem_flatMap] at hu;obtain⟨y,-,hy⟩:=hu;exact encG_one y u hy) (by have:=HN.out;unfold maxLen;omega) (by have:=HN.out;omega) (by have:=HB.out;simp;omega) ?_;intro v' w1 hown hg hn;obtain⟨va,vc,rfl⟩:=ow_form hown)
  go_ret;simp only[Nat.zero_add] at hown
  refine⟨⟨va,vc,by simp,by simpa[SlOwn] using hown⟩,?_⟩;have h1:Below w.heap.size w (w.alloc (.cells #[] 96)):=Below.one _ _;exact h1.grown hg h1.size (fun i hi=>by simp[Value.ownBlock] at hi;omega)
set_option maxHeartbeats 1000000 in
set_option maxRecDepth 100000 in
theorem cloneP_at (B:Nat)(l:List (Int × Int))(sa:Option Addr)(cap:Nat)(w:World)(hl:SlAt encP 2 w (.slice sa l.length cap) l)(hn:l.length<=1000000)(hB:B<=w.heap.size) :
  Calls Tryz.prog 226 #[.slice sa l.length cap] w fun v w'=>(∃ sa' cap',v=.returned (.slice sa' l.length cap')/\SlOwn encP 2 97 B w' (.slice sa' l.length cap') l)/\Below w.heap.size w w':=by
 obtain⟨i0,hi,hz0,hz1,hz2⟩:=info_parts Tryz.infoOwne;have HL:Hid (SlAt encP 2 w (.slice sa l.length cap) l):=hl;have HN:Hid (l.length<=1000000):=hn;have HB:Hid (B<=w.heap.size):=hB;clear hl hn hB
 cases sa with
 | none=>
  have h0:l=[]:=by
   obtain⟨sa',cap',hsl,-,hcc⟩:=HL.out
   cases hsl
   by_cases e:l=[]
   ·exact e
   ·obtain⟨b,o,h,-⟩:=hcc e
    cases h
  subst h0;clear HL HN;have he:∀ w:World,(binOp .eql 81 (.slice none 0 cap) (.slice none 0 0)).run Tryz.prog w=.ok (.bool true) w:=fun w=>run_eql_slice_nil w _ _ none 0 cap Tryz.underlying81
  go_enter Tryz.func226,Tryz.ntmps226
  go_wp2;go_ret;exact⟨⟨none,0,rfl,World.ownsRow_nil _ _ _ _⟩,Below.refl _ _⟩
 | some a=>
  have he:∀ w:World,(binOp .eql 81 (.slice (some a) l.length cap) (.slice none 0 0)).run Tryz.prog w=.ok (.bool false) w:=fun w=>run_eql_slice_nil w _ _ (some a) _ cap Tryz.underlying81
  have HC:Hid (∀ V,Below w.heap.size w V->∀ j u,(l.flatMap encP)[j]?=some u->V.cell? (a.add j)=some u):=fun V hV j u hu=>by
   obtain⟨sa',cap',hsl,-,hcc⟩:=HL.out
   cases hsl
   have hne:l≠[]:=fun h=>by rw[h] at hu;simp at hu
   obtain⟨b,o,hbo,hc⟩:=hcc hne
   cases hbo
   obtain⟨i',j',y,e1,h2,h3⟩:=flat_of (enc:=encP) (k:=2) (fun _=>rfl) l j u hu;have:=hc i' y h2 j' u h3;rw[e1,addC_plain,<- Nat.add_assoc];exact cell_below hV this
  go_enter Tryz.func226,Tryz.ntmps226
  go_wp2_with (at_builtin;refine wpList_append_own _ rfl _ _ 81 rfl B 97 i0 (.agg #[.int .i64 0,.int .i64 0]) 2 16 Tryz.underlying81 hi hz0 hz1 hz2 rfl (by decide) (.slice (some ⟨w.heap.size,0,none⟩) 0 0) 0 [] rfl (World.ownsRow_made w #[] 0 HB.out (by unfold maxLen;omega) rfl) a l.length cap (l.flatMap encP) rfl (flat_len (enc:=encP) (k:=2) (fun _=>rfl) l) (HC.out _ (Below.one _ _)) (fun u hu=>by simp only[List.mem_flatMap] at hu;obtain⟨y,-,hy⟩:=hu;exact encP_one y u hy) (by have:=HN.out;unfold maxLen;omega) (by have:=HN.out;omega) (by have:=HB.out;simp;omega) ?_;intro v' w1 hown hg hn;obtain⟨va,vc,rfl⟩:=ow_form hown)
  go_ret;simp only[Nat.zero_add] at hown
  refine⟨⟨va,vc,by simp,by simpa[SlOwn] using hown⟩,?_⟩;have h1:Below w.heap.size w (w.alloc (.cells #[] 97)):=Below.one _ _;exact h1.grown hg h1.size (fun i hi=>by simp[Value.ownBlock] at hi;omega)
end Go.Proofs.YtffpcbdlbcjihadGreatDoor
namespace Go.Proofs.YtffpcbdlbcjihadGreatDoor
open Go.RowKit Go.Extern.Stop Go.Stop Go.Extern
theorem gr_drewN (w:World)(q:Nat)(r:Option Nat):w.grownBy (w.drewN q) r:=by
 have h:=below_drewN (Below.refl w.heap.size w) q;exact⟨h.os,h.tape,h.output,h.size,fun k hk _=>h.block k hk⟩
variable {w:World}{b:Nat}{a:ASt}
set_option maxHeartbeats 1000000 in
set_option maxRecDepth 100000 in
theorem al_report2 (p:Int)(h:AlAt w b a) :
  Calls Tryz.prog 233 #[.pointer (some ⟨b,0,none⟩),.int .i64 p] w fun e w'=>e=.returned (.tuple #[])/\AlAt w' b (a.rep p)/\w.grownBy w' (some b):=by
 have c0:=h.c0;have c3:=h.c3;have f3:=h.frozen 3;have hn:=h.hn
 by_cases h0:a.pt=-1
 ·have HR:Hid (a.rep p=a):=by show _=_;unfold ASt.rep;rw[if_neg (fun e=>e.1 h0)]
  rw[h0] at c0;have H:Hid (AlAt w b a):=h;clear h;go_enter Tryz.func233,Tryz.ntmps233
  go_wp2;go_end0
  exact⟨rfl,by rw[HR.out];exact H.out,World.grownBy.refl _ _⟩
 by_cases h1:p=a.pt
 ·subst h1
  by_cases h2:a.n < 1000
  ·have HR:Hid (a.rep a.pt={ a with n:=a.n+1 }):=by show _=_;unfold ASt.rep;rw[if_pos ⟨h0,rfl,h2⟩]
   have H:Hid (AlAt w b a):=h;clear h;have h3:(a.n:Int) < 1000:=by omega
   go_enter Tryz.func233,Tryz.ntmps233
   go_wp2;go_end0
   refine⟨rfl,?_,grown_setCell _ _ _ _⟩;rw[HR.out];have:=H.out.set (a.n+1) (by omega);simpa using this
  ·have HR:Hid (a.rep a.pt=a):=by show _=_;unfold ASt.rep;rw[if_neg (fun e=>h2 e.2.2)]
   have H:Hid (AlAt w b a):=h;clear h;have h3:¬(a.n:Int) < 1000:=by omega
   go_enter Tryz.func233,Tryz.ntmps233
   go_wp2;go_end0
   exact⟨rfl,by rw[HR.out];exact H.out,World.grownBy.refl _ _⟩
 ·have HR:Hid (a.rep p=a):=by show _=_;unfold ASt.rep;rw[if_neg (fun e=>h1 e.2.1)]
  have H:Hid (AlAt w b a):=h;clear h;go_enter Tryz.func233,Tryz.ntmps233
  go_wp2;go_end0
  exact⟨rfl,by rw[HR.out];exact H.out,World.grownBy.refl _ _⟩
set_option maxHeartbeats 2000000 in
set_option maxRecDepth 100000 in
theorem al_end2 (whole:Bool)(h:AlAt w b a) :
  Calls Tryz.prog 325 #[.pointer (some ⟨b,0,none⟩),.bool whole] w fun e w'=>e=.returned (.bool (a.well whole))/\AlAt w' b a.zero/\w.grownBy w' (some b):=by
 have c0:=h.c0;have c1:=h.c1;have c2:=h.c2;have c3:=h.c3;have f3:=h.frozen 3;have H:Hid (∀ q,AlAt ((w.drewN q).setCell ⟨b,3,none⟩ (.int .i64 0)) b a.zero/\w.grownBy ((w.drewN q).setCell ⟨b,3,none⟩ (.int .i64 0)) (some b)):=fun q=>⟨(h.drewN q).set 0 (by omega),(gr_drewN w q (some b)).trans (grown_setCell _ _ _ _)⟩
 have d0:∀ q,((w.drewN q).setCell ⟨b,3,none⟩ (.int .i64 0)).cell? ⟨b,0,none⟩=some (.int .i64 a.pt):=fun q=>((h.drewN q).set 0 (by omega)).c0
 clear h
 cases g1:decide (a.mn<=(a.n:Int))
 all_goals cases g2:decide ((a.n:Int)<=a.mx)
 all_goals cases whole
 all_goals cases g3:decide (a.pt=-1)
 all_goals
  go_enter Tryz.func325,Tryz.ntmps325
  go_wp2_with fail
  go_quiet (fail)
  go_wp2;go_ret;exact⟨by first | (unfold ASt.well;rw[g1,g2,g3];rfl) | (unfold ASt.well;rw[g1,g2];rfl),H.out _⟩
end Go.Proofs.YtffpcbdlbcjihadGreatDoor
namespace Go.Proofs.YtffpcbdlbcjihadGreatDoor
open Go.RowKit Go.Extern.Stop Go.Stop Go.Extern
def GS (b:Nat)(sa:Option Addr)(n k:Nat):Prop:=k=b\/(0 < n/\∃ o,sa=some ⟨k,o,none⟩)
theorem offG_set {w:World}{b:Nat}{sa:Option Addr}{n k:Nat}(hk:GS b sa n k)(j:Nat)(v:Value):Off (GS b sa n) w (w.setCell ⟨k,j,none⟩ v):=
 (Off.of_grown (grown_setCell w k j v)).mono (fun i _ e=>by subst e;exact hk)
variable {B b cap:Nat}{w0 w w':World}{sa:Option Addr}{s:GSt}{xs:List WG}
set_option maxHeartbeats 1000000 in
set_option maxRecDepth 100000 in
theorem gp_end2 (h:GpAt B w b sa cap s) :
  Calls Tryz.prog 326 #[.pointer (some ⟨b,0,none⟩)] w fun e w'=>e=.returned (.bool (!s.bad))/\GpAt B w' b sa cap s.zero/\Off (GS b sa s.xs.length) w w':=by
 have c1:=h.c1;have f1:=h.f1;have H:Hid (GpAt B (w.setCell ⟨b,1,none⟩ (.bool false)) b sa cap s.zero):=h.setBad false;have HF:Hid (Off (GS b sa s.xs.length) w (w.setCell ⟨b,1,none⟩ (.bool false))):=offG_set (Or.inl rfl) _ _;clear h;go_enter Tryz.func326,Tryz.ntmps326
 go_wp2;go_ret;exact⟨rfl,H.out,HF.out⟩
set_option maxHeartbeats 2000000 in
set_option maxRecDepth 100000 in
theorem gp_report2 (p tick:Int)(h:GpAt B w b sa cap s)(hlen:s.xs.length<=1000000) :
  Calls Tryz.prog 234 #[.pointer (some ⟨b,0,none⟩),.int .i64 p,.int .i64 tick] w fun e w'=>e=.returned (.tuple #[])/\GpAt B w' b sa cap (s.rep p tick)/\Off (GS b sa s.xs.length) w w':=by
 have HH:Hid (GpAt B w b sa cap s):=h;have HL:Hid (s.xs.length<=1000000):=hlen
 by_cases t0:tick < 0
 ·have HR:Hid (s.rep p tick=s):=rep_off (by unfold tickOk;rw[decide_eq_false (by omega)];rfl);clear h;go_enter Tryz.func234,Tryz.ntmps234
  go_wp2;(try simp only[Exit.inBlock,Exit.then]);refine bodyPost_ret (results_none rfl _ _ _) rfl ?_
  exact⟨rfl,by rw[HR.out];exact HH.out,Off.refl _ _⟩
 by_cases t1:1099511627776 < tick
 ·have HR:Hid (s.rep p tick=s):=rep_off (by unfold tickOk;rw[decide_eq_false (p:=tick<=1099511627776) (by omega),Bool.and_false]);clear h;go_enter Tryz.func234,Tryz.ntmps234
  go_wp2;(try simp only[Exit.inBlock,Exit.then]);refine bodyPost_ret (results_none rfl _ _ _) rfl ?_
  exact⟨rfl,by rw[HR.out];exact HH.out,Off.refl _ _⟩
 have HT:Hid (0<=tick/\tick<=1099511627776):=⟨by omega,by omega⟩;have HTk:Hid (tickOk tick=true):=by show _=_;unfold tickOk;rw[decide_eq_true (by omega),decide_eq_true (by omega)];rfl
 have HG:Hid (GpAt B w b sa cap s):=h;have c0:=h.c0;clear h hlen HH;go_enter Tryz.func234,Tryz.ntmps234
 go_wp2_with fail
 go_loopw [18] (fun i wr=>∃ k:Nat,k<=s.xs.length/\i=.int .i64 k/\Off (GS b sa s.xs.length) w wr/\GpAt B wr b sa cap (s.upto p tick k)) (fun i _=>s.xs.length - (intOf i).toNat)
 case atStart=>exact⟨0,Nat.zero_le _,rfl,Off.refl _ _,by rw[GSt.upto_zero];exact HG.out⟩
 case round=>
  clear c0 HG;obtain⟨k,hk,rfl,hfk,hgk⟩:=hrel;have HFr:Hid (Off (GS b sa s.xs.length) w wr):=hfk;have HG:Hid (GpAt B wr b sa cap (s.upto p tick k)):=hgk;have c0:=hgk.c0;rw[GSt.upto_len] at c0;clear hgk hfk
  by_cases hlt:k < s.xs.length
  ·have k1:(k:Int) < (s.xs.length:Int):=by omega
   have k2:k < 1000000:=by have:=HL.out;omega
   obtain⟨x,hx⟩:∃ x,s.xs[k]?=some x:=⟨_,List.getElem?_eq_getElem hlt⟩;have HX:Hid (s.xs[k]?=some x):=hx;have hxu:=GSt.upto_at (p:=p) (tick:=tick) hx;obtain⟨g,o,hsa,hgb,hlo,hcc,cur,hff⟩:=HG.out.sl (fun e=>by rw[e] at hxu;simp at hxu);subst hsa;have HOne:Hid (OneW wr g (o+k*5) x):=fun j u hu=>hcc k x hxu j u hu
   have HF:Hid (wr.frozen? ⟨g,o+k*5+4,none⟩=false):=by show _=_;simp[World.frozen?,hff]
   have HFw:Hid (∀ v,Off (GS b (some ⟨g,o,none⟩) s.xs.length) w (wr.setCell ⟨g,o+k*5+4,none⟩ v)):=fun v=>HFr.out.trans (offG_set (Or.inr ⟨by omega,o,rfl⟩) _ v) (fun _ _ x=>x)
   have HXt:Hid (-1<=x.t/\x.t<=1099511627776):=HG.out.fit x (List.mem_of_getElem? hxu);have HN:Hid (∀ v,(s.upto p tick k).xs.set k (x.rep p tick)=(s.upto p tick (k+1)).xs/\(v=(x.bad p tick || (s.upto p tick k).bad)->v=(s.upto p tick (k+1)).bad)):=fun v=>by rw[GSt.upto_succ HX.out];exact⟨rfl,fun h=>h⟩
   clear hx hxu hgb hlo hcc hff;go_wp2_with fail
   refine(gap_report HOne.out HF.out HXt.out HT.out).mono ?_;rintro v w1 ⟨rfl,hw1⟩;have HG1:Hid (GpAt B w1 b (some ⟨g,o,none⟩) cap ⟨(s.upto p tick k).xs.set k (x.rep p tick),(s.upto p tick k).bad⟩):=by show GpAt _ _ _ _ _ _;rw[hw1];exact HG.out.round (GSt.upto_at HX.out) HT.out
   have HF1:Hid (Off (GS b (some ⟨g,o,none⟩) s.xs.length) w w1):=by
    show Off _ _ _
    rw[hw1]
    split
    ·exact HFw.out _
    ·exact HFr.out
   clear hw1 HG c0 HOne HF HFw HFr;have d1:w1.cell? ⟨b,1,none⟩=some (.bool (s.upto p tick k).bad):=HG1.out.c1;have f1:=HG1.out.f1;have HZ:Hid (∀ v:Bool,v=(x.bad p tick || (s.upto p tick k).bad)->Off (GS b (some ⟨g,o,none⟩) s.xs.length) w (w1.setCell ⟨b,1,none⟩ (.bool v))/\GpAt B (w1.setCell ⟨b,1,none⟩ (.bool v)) b (some ⟨g,o,none⟩) cap (s.upto p tick (k+1))):=fun v hv=>by
    refine⟨HF1.out.trans (offG_set (Or.inl rfl) _ _) (fun _ _ x=>x),?_⟩;have h1:=HG1.out.setBad v;have h2:=HN.out v;have:(⟨(s.upto p tick k).xs.set k (x.rep p tick),v⟩:GSt)=s.upto p tick (k+1):=by rw[h2.1,h2.2 hv]
    rw[<- this];exact h1
   clear HG1 HN HF1;obtain⟨ub,hub⟩:∃ ub,ub=(s.upto p tick k).bad:=⟨_,rfl⟩;rw[<- hub] at HZ d1;clear hub
   cases hb:x.bad p tick
   all_goals
    rw[hb] at HZ;go_wp2_with fail
    go_roundw
    case rel=>exact⟨k+1,by omega,by go_num,HZ.out _ rfl⟩
    case measure=>simp[intOf];omega
  ·have k1:¬(k:Int) < (s.xs.length:Int):=by omega
   have HE:Hid (s.upto p tick k=s.rep p tick):=GSt.upto_all hlt HTk.out;go_wp2;go_end0
   refine⟨rfl,?_,HFr.out⟩;rw[<- HE.out];exact HG.out
end Go.Proofs.YtffpcbdlbcjihadGreatDoor
