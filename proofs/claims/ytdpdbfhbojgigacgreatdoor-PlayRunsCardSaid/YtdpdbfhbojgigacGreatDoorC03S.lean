/-
  Several texts as one: CfCopy, CfOwn, Rw, FlSt, FlOps.
-/
import Derived.Test.YtdpdbfhbojgigacGreatDoorC02S
import Derived.Deep.Upon
import Derived.Lib.Builder
import Derived.Laws.Tables
import Derived.Laws.Rows
import Derived.BigQuiet
import Derived.Deep.QuietTactic
import Derived.Deep.DeepCutAuto
import Derived.Maps.RangeWalk
import Derived.WalkSmall
import Derived.Maps.AppendAt
namespace Go.Proofs.YtdpdbfhbojgigacGreatDoor
open Go.RowKit Go.Extern.Stop Go.Stop Go.Extern
theorem addC_plain (b o j:Nat):(⟨b,o,none⟩:Addr).add j=⟨b,o+j,none⟩:=by unfold Addr.add;split <;> simp_all
def SlOwn {α:Type}(enc:α->List Value)(k:Nat)(T:TypeId)(B:Nat)(w:World)(v:Value)(xs:List α):Prop:=w.ownsRow B T k v xs.length (xs.flatMap enc)
theorem flat_at {α:Type}{enc:α->List Value}{k:Nat}(henc:∀ x,(enc x).length=k):∀ (xs:List α) (i j:Nat) (x:α) (u:Value),xs[i]?=some x->(enc x)[j]?=some u->(xs.flatMap enc)[i*k+j]?=some u
 | [],i,j,x,u,h,_=>by simp at h
 | y :: t,0,j,x,u,h,hu=>by
  simp at h
  subst h;have hj:j < (enc y).length:=(List.getElem?_eq_some_iff.1 hu).1;rw[List.flatMap_cons,Nat.zero_mul,Nat.zero_add,List.getElem?_append_left hj];exact hu
 | y :: t,i+1,j,x,u,h,hu=>by
  have ih:=flat_at henc t i j x u (by simpa using h) hu;rw[List.flatMap_cons,List.getElem?_append_right (by rw[henc];rw[Nat.succ_mul];omega),henc];have e:(i+1)*k+j - k=i*k+j:=by rw[Nat.succ_mul];omega
  rw[e];exact ih
theorem flat_len {α:Type}{enc:α->List Value}{k:Nat}(henc:∀ x,(enc x).length=k):∀ (xs:List α),(xs.flatMap enc).length=xs.length*k
 | []=>by simp
 | y :: t=>by rw[List.flatMap_cons,List.length_append,henc,flat_len henc t,List.length_cons,Nat.succ_mul];omega
theorem flat_of {α:Type}{enc:α->List Value}{k:Nat}(henc:∀ x,(enc x).length=k):∀ (xs:List α) (n:Nat) (u:Value),(xs.flatMap enc)[n]?=some u->∃ i j x,n=i*k+j/\xs[i]?=some x/\(enc x)[j]?=some u
 | [],n,u,h=>by simp at h
 | y :: t,n,u,h=>by
  rw[List.flatMap_cons] at h
  by_cases hn:n < k
  ·rw[List.getElem?_append_left (by rw[henc];exact hn)] at h;exact⟨0,n,y,by simp,rfl,h⟩
  ·rw[List.getElem?_append_right (by rw[henc];omega),henc] at h;obtain⟨i,j,x,e,h1,h2⟩:=flat_of henc t (n - k) u h;exact⟨i+1,j,x,by rw[Nat.succ_mul];omega,by simpa using h1,h2⟩
theorem SlOwn.slat {α:Type}{enc:α->List Value}{k:Nat}{T:TypeId}{B:Nat}{w:World}{v:Value}{xs:List α}(h:SlOwn enc k T B w v xs)(henc:∀ x,(enc x).length=k):SlAt enc k w v xs:=by
 rcases h.2 with ⟨rfl,h0⟩ | ⟨g,cap,cur,rfl,hB,hg,hle,-⟩
 ·have:xs=[]:=List.eq_nil_of_length_eq_zero h0;subst this;exact⟨none,0,rfl,Nat.le_refl _,fun e=>absurd rfl e⟩
 ·refine⟨_,cap,rfl,hle,fun _=>⟨g,0,rfl,fun i x hx j u hu=>?_⟩⟩;have:=h.cells (g:=g) rfl (i*k+j) u (flat_at henc xs i j x u hx hu);rw[addC_plain] at this;rw[Nat.add_assoc];exact this
theorem SlOwn.below {α:Type}{enc:α->List Value}{k:Nat}{T:TypeId}{B:Nat}{w w':World}{v:Value}{xs:List α}(h:SlOwn enc k T B w v xs)(hb:Below w.heap.size w w'):SlOwn enc k T B w' v xs:=
 h.kept (row:=none) ⟨hb.os,hb.tape,hb.output,hb.size,fun k hk _=>hb.block k hk⟩ (by by_cases e:v.ownBlock=none;exact Or.inl e;exact Or.inr e)
theorem SlOwn.other {α:Type}{enc:α->List Value}{T T':TypeId}{B b:Nat}{w w':World}{v:Value}{xs:List α}{k:Nat}(h:SlOwn enc k T B w v xs)(hg:w.grownBy w' (some b)){c:Array Value}{fr:Nat × Nat}(hb:w.heap[b]?=some (.cells c T' fr))(hT:T'≠T):SlOwn enc k T B w' v xs:=by
 refine h.kept hg (Or.inr ?_)
 rcases h.2 with ⟨rfl,_⟩ | ⟨g,cap,cur,rfl,_,hg',_⟩
 ·simp[Value.ownBlock]
 ·intro e;simp only[Value.ownBlock,Option.some.injEq] at e;subst e;rw[hg'] at hb;simp only[Option.some.injEq,Obj.cells.injEq] at hb;exact hT hb.2.1.symm
theorem grown_setCell (w:World)(b j:Nat)(v:Value):w.grownBy (w.setCell ⟨b,j,none⟩ v) (some b):=
 ⟨rfl,rfl,rfl,by simp[World.setCell],fun k _ hk=>Below.heap_setCell _ _ _ _ (fun e=>hk (by simp[e]))⟩
set_option maxHeartbeats 1000000 in
theorem wpList_copy {α:Type}{w:World}{ops:Array Oper}{rest:List Oper}{o:Oper}{a:Act}{Q:Exit->Act->World->Prop}(hgd:o.guard=none)(s x:Operand)(t:TypeId)
  (ho:o.op=.call { callee:=.builtin .append,args:=#[s,x],argTypes:=#[t,t] })
  (B:Nat) (e:TypeId) (i:TypeInfo) (z:Value) (size bytes:Nat) (ht:Tryz.prog.underlying t=some (.slice e)) (hi:Tryz.prog.info? e=some i) (hz:i.zero=some z) (hsize:i.size=size) (hby:i.bytes=bytes) (hzs:z.cells.size=size) (hsz:0 < size)
  (hs:a.eval s=.slice none 0 0) (enc:α->List Value) (henc:∀ x,(enc x).length=size) (h1:∀ x,∀ u∈enc x,u.oneCell'=true) (v:Value) (xs:List α) (hx:a.eval x=v) (hv:SlAt enc size w v xs) (hm:xs.length<=1000000) (hbb:bytes<=1000) (hB:B<=w.heap.size)
  (h:∀ sa' cap' w',SlOwn enc size e B w' (.slice sa' xs.length cap') xs->Below w.heap.size w w'->wpList Tryz.prog ops Q rest (a.put o.dst (.slice sa' xs.length cap')) w'):wpList Tryz.prog ops Q (o :: rest) a w:=by
 obtain⟨sa,cap,rfl,hle,hcell⟩:=hv
 by_cases hne:xs=[]
 ·subst hne
  refine wpList_plain hgd fun K hK=>?_
  have hsrc:Src Tryz.prog i.size t (.slice sa 0 cap) 0 [] w:=by
   cases sa with
   | none=>exact Src.ofNil w ht cap
   | some ad=>exact Src.ofSlice w ht ad 0 cap [] (by simp) (fun j u hu=>by simp at hu) (fun u hu=>by simp at hu)
  have hr:=run_append_nothing (P:=Tryz.prog) w t t o.type e i ht hi none 0 0 (Nat.le_refl _) (.slice sa 0 cap) hsrc;unfold Oper.wp execOp;simp only[List.length_nil] at hx;simp only[ho,resolve,invoke,builtin,Sem.run_bind,Sem.run_pure,Result.andThen_ok,List.map_toArray,List.map_cons,List.map_nil,hs,hx,hr];exact hK _ _ (h none 0 w (World.ownsRow_nil _ _ _ _) (Below.refl _ _))
 ·obtain⟨b,of,rfl,hc⟩:=hcell hne
  refine wpList_append_own w hgd s x t ho w.heap.size e i z size bytes ht hi hz hsize hby hzs hsz (.slice none 0 0) 0 [] hs (World.ownsRow_nil _ _ _ _) ⟨b,of,none⟩ xs.length cap (xs.flatMap enc) hx (flat_len henc xs) (fun j u hu=>?_) (fun u hu=>?_) (by unfold maxLen;omega) ?_ (Nat.le_refl _) (fun v' w' hown hg hn=>?_)
  ·obtain⟨i',j',y,e1,h2,h3⟩:=flat_of henc xs j u hu;have:=hc i' y h2 j' u h3;rw[e1,addC_plain,<- Nat.add_assoc];exact this
  ·simp only[List.mem_flatMap] at hu;obtain⟨y,-,hy⟩:=hu;exact h1 y u hy
  ·have:(0+xs.length)*bytes<=1000000*1000:=Nat.mul_le_mul (by omega) hbb;omega
  ·have hown':w'.ownsRow w.heap.size e size v' xs.length (xs.flatMap enc):=by simpa using hown
   have hb:Below w.heap.size w w':=(Below.refl _ _).grown hg (Nat.le_refl _) (fun k hk=>by simp[Value.ownBlock] at hk)
   rcases hown'.2 with ⟨rfl,h0⟩ | ⟨g,cap2,cur,rfl,hB2,r⟩
   ·exact absurd (List.eq_nil_of_length_eq_zero h0) hne
   ·exact h _ _ w' ⟨hown'.1,Or.inr ⟨g,cap2,cur,rfl,Nat.le_trans hB hB2,r⟩⟩ hb
theorem Tryz.infoOwnp:(Tryz.prog.info? 9).map (fun i=>(i.zero,i.size,i.bytes))=some (some (.string ⟨#[]⟩),1,16):=by kernel_rfl
theorem Tryz.infoOwng:(Tryz.prog.info? 145).map (fun i=>(i.zero,i.size,i.bytes))=some (some (.agg #[.int .i64 0,.int .i64 0,.int .i64 0,.int .i64 0]),4,32):=by kernel_rfl
theorem Tryz.infoOwne:(Tryz.prog.info? 146).map (fun i=>(i.zero,i.size,i.bytes))=some (some (.agg #[.int .i64 0,.int .i64 0]),2,16):=by kernel_rfl
theorem Tryz.infoOwnf:(Tryz.prog.info? 3).map (fun i=>(i.zero,i.size,i.bytes))=some (some (.int .i64 0),1,8):=by kernel_rfl
theorem encS_one:∀ (x:ByteArray),∀ u∈encS x,u.oneCell'=true:=by intro x u hu;simp[encS] at hu;subst hu;rfl
theorem encI_one:∀ (x:Int),∀ u∈encI x,u.oneCell'=true:=by intro x u hu;simp[encI] at hu;subst hu;rfl
theorem encP_one:∀ (x:Int × Int),∀ u∈encP x,u.oneCell'=true:=by intro x u hu;simp[encP] at hu;rcases hu with rfl | rfl <;> rfl
theorem encG_one:∀ (x:GapD),∀ u∈encG x,u.oneCell'=true:=by intro x u hu;simp[encG] at hu;rcases hu with rfl | rfl | rfl | rfl <;> rfl
structure OwnParts (B:Nat)(w:World)(e:EntD)(pv gv ev fv lv:Value):Prop where
 hp:SlOwn encS 1 9 B w pv e.pts
 hg:SlOwn encG 4 145 B w gv e.gaps
 he:SlOwn encP 2 146 B w ev e.edges
 hf:SlOwn encI 1 3 B w fv e.first
 hl:SlOwn encI 1 3 B w lv e.last
theorem OwnParts.parts {B:Nat}{w:World}{e:EntD}{pv gv ev fv lv:Value}(h:OwnParts B w e pv gv ev fv lv):EntParts w e pv gv ev fv lv:=
 ⟨h.hp.slat (fun _=>rfl),h.hg.slat (fun _=>rfl),h.he.slat (fun _=>rfl),h.hf.slat (fun _=>rfl),h.hl.slat (fun _=>rfl)⟩
theorem OwnParts.below {B:Nat}{w w':World}{e:EntD}{pv gv ev fv lv:Value}(h:OwnParts B w e pv gv ev fv lv)(hb:Below w.heap.size w w'):OwnParts B w' e pv gv ev fv lv:=
 ⟨h.hp.below hb,h.hg.below hb,h.he.below hb,h.hf.below hb,h.hl.below hb⟩
theorem OwnParts.other {B b:Nat}{w w':World}{e:EntD}{pv gv ev fv lv:Value}(h:OwnParts B w e pv gv ev fv lv)(hg:w.grownBy w' (some b)){c:Array Value}{fr:Nat × Nat}(hb:w.heap[b]?=some (.cells c 38 fr)):OwnParts B w' e pv gv ev fv lv:=
 ⟨h.hp.other hg hb (by decide),h.hg.other hg hb (by decide),h.he.other hg hb (by decide),h.hf.other hg hb (by decide),h.hl.other hg hb (by decide)⟩
theorem grown_setRow (w:World)(g:Nat)(cs:Array Value):w.grownBy (w.setRow g cs) (some g):=
 ⟨rfl,rfl,rfl,by simp[World.setRow],fun k _ hk=>by
  have hne:¬g=k:=fun e=>hk (by rw[e])
  simp[World.setRow,Array.getElem?_modify,hne]⟩
theorem heap_setRow {w:World}{g:Nat}{old:Array Value}{t:TypeId}{fr:Nat × Nat}(cs:Array Value)(h:w.heap[g]?=some (.cells old t fr)):(w.setRow g cs).heap[g]?=some (.cells cs t fr):=by simp[World.setRow,Array.getElem?_modify,h]
theorem Tryz.sizeEnt:(Tryz.prog.info? 38).map (·.size)=some 10:=by kernel_rfl
set_option maxHeartbeats 8000000 in
set_option maxRecDepth 100000 in
theorem ownEntity_at (B:Nat)(e:EntD)(pa ga ea fa la:Option Addr)(pc gc ec fc lc:Nat)(w:World)(hP:EntParts w e (.slice pa e.pts.length pc) (.slice ga e.gaps.length gc) (.slice ea e.edges.length ec) (.slice fa e.first.length fc) (.slice la e.last.length lc))(hS:SmallE e)(hB:B<=w.heap.size) :
  Calls Tryz.prog 73 #[.agg #[.string e.name,.int .i64 e.tol,.slice pa e.pts.length pc,.int .i64 e.cnt,.int .i64 e.mn,.int .i64 e.mx,.slice ga e.gaps.length gc,.slice ea e.edges.length ec,.slice fa e.first.length fc,.slice la e.last.length lc]] w fun v w'=>(∃ pa' pc' ga' gc' ea' ec' fa' fc' la' lc',v=.returned (.agg #[.string e.name,.int .i64 e.tol,.slice pa' e.pts.length pc',.int .i64 e.cnt,.int .i64 e.mn,.int .i64 e.mx,.slice ga' e.gaps.length gc',.slice ea' e.edges.length ec',.slice fa' e.first.length fc',.slice la' e.last.length lc'])/\OwnParts B w' e (.slice pa' e.pts.length pc') (.slice ga' e.gaps.length gc') (.slice ea' e.edges.length ec') (.slice fa' e.first.length fc') (.slice la' e.last.length lc'))/\Below w.heap.size w w':=by
 obtain⟨infp,hip,hzp0,hzp1,hzp2⟩:=info_parts Tryz.infoOwnp;obtain⟨infg,hig,hzg0,hzg1,hzg2⟩:=info_parts Tryz.infoOwng;obtain⟨infe,hie,hze0,hze1,hze2⟩:=info_parts Tryz.infoOwne;obtain⟨inff,hif,hzf0,hzf1,hzf2⟩:=info_parts Tryz.infoOwnf;have HP:Hid (EntParts w e (.slice pa e.pts.length pc) (.slice ga e.gaps.length gc) (.slice ea e.edges.length ec) (.slice fa e.first.length fc) (.slice la e.last.length lc)):=hP;have HS:Hid (SmallE e):=hS;have HB:Hid (B<=w.heap.size):=hB;clear hP hS hB;go_enter Tryz.func73,Tryz.ntmps73
 go_upto_region 3 with fail
 obtain⟨V0,hV0⟩:∃ V,V=((w.alloc (.cells #[.string e.name,.int .i64 e.tol,.slice pa e.pts.length pc,.int .i64 e.cnt,.int .i64 e.mn,.int .i64 e.mx,.slice ga e.gaps.length gc,.slice ea e.edges.length ec,.slice fa e.first.length fc,.slice la e.last.length lc] 38)).alloc (.cells #[.string ⟨#[]⟩,.int .i64 0,.slice none 0 0,.int .i64 0,.int .i64 0,.int .i64 0,.slice none 0 0,.slice none 0 0,.slice none 0 0,.slice none 0 0] 38)).alloc (.cells #[.string e.name,.int .i64 e.tol,.slice pa e.pts.length pc,.int .i64 e.cnt,.int .i64 e.mn,.int .i64 e.mx,.slice ga e.gaps.length gc,.slice ea e.edges.length ec,.slice fa e.first.length fc,.slice la e.last.length lc] 38):=⟨_,rfl⟩;rw[<- hV0];have hs0:V0.heap.size=w.heap.size+3:=by rw[hV0];simp
 have HBl0:Hid (Below w.heap.size w V0):=by show Below _ _ _;rw[hV0];exact((Below.refl _ _).alloc (Nat.le_refl _) _ |>.alloc (by simp) _).alloc (by simp;omega) _
 have HX0:Hid (V0.heap[w.heap.size]?=some (.cells #[.string e.name,.int .i64 e.tol,.slice pa e.pts.length pc,.int .i64 e.cnt,.int .i64 e.mn,.int .i64 e.mx,.slice ga e.gaps.length gc,.slice ea e.edges.length ec,.slice fa e.first.length fc,.slice la e.last.length lc] 38 (0,0))):=by
  show _=_
  rw[hV0];exact row_below (((Below.refl _ _).alloc (Nat.le_refl _) _).alloc (by simp) _) (heap_alloc_new w _)
 have HR0:Hid (V0.heap[w.heap.size+1]?=some (.cells #[.string ⟨#[]⟩,.int .i64 0,.slice none 0 0,.int .i64 0,.int .i64 0,.int .i64 0,.slice none 0 0,.slice none 0 0,.slice none 0 0,.slice none 0 0] 38 (0,0))):=by
  show _=_
  rw[hV0];exact row_below ((Below.refl _ _).alloc (Nat.le_refl _) _) (by have:=heap_alloc_new (w.alloc (.cells #[.string e.name,.int .i64 e.tol,.slice pa e.pts.length pc,.int .i64 e.cnt,.int .i64 e.mn,.int .i64 e.mx,.slice ga e.gaps.length gc,.slice ea e.edges.length ec,.slice fa e.first.length fc,.slice la e.last.length lc] 38)) (.cells #[.string ⟨#[]⟩,.int .i64 0,.slice none 0 0,.int .i64 0,.int .i64 0,.int .i64 0,.slice none 0 0,.slice none 0 0,.slice none 0 0,.slice none 0 0] 38);simpa using this)
 have HO0:Hid (V0.heap[w.heap.size+2]?=some (.cells #[.string e.name,.int .i64 e.tol,.slice pa e.pts.length pc,.int .i64 e.cnt,.int .i64 e.mn,.int .i64 e.mx,.slice ga e.gaps.length gc,.slice ea e.edges.length ec,.slice fa e.first.length fc,.slice la e.last.length lc] 38 (0,0))):=by
  show _=_
  rw[hV0];have:=heap_alloc_new ((w.alloc (.cells #[.string e.name,.int .i64 e.tol,.slice pa e.pts.length pc,.int .i64 e.cnt,.int .i64 e.mn,.int .i64 e.mx,.slice ga e.gaps.length gc,.slice ea e.edges.length ec,.slice fa e.first.length fc,.slice la e.last.length lc] 38)).alloc (.cells #[.string ⟨#[]⟩,.int .i64 0,.slice none 0 0,.int .i64 0,.int .i64 0,.int .i64 0,.slice none 0 0,.slice none 0 0,.slice none 0 0,.slice none 0 0] 38)) (.cells #[.string e.name,.int .i64 e.tol,.slice pa e.pts.length pc,.int .i64 e.cnt,.int .i64 e.mn,.int .i64 e.mx,.slice ga e.gaps.length gc,.slice ea e.edges.length ec,.slice fa e.first.length fc,.slice la e.last.length lc] 38);simpa using this
 clear hV0;have s0:V0.cell? ⟨w.heap.size,2,none⟩=some (.slice pa e.pts.length pc):=by have:=HX0.out;simp[World.cell?,this]
 go_upto_region 5 with (at_builtin;refine wpList_copy (w:=V0) rfl _ _ 33 rfl B 9 infp (.string ⟨#[]⟩) 1 16 Tryz.underlying33 hip hzp0 hzp1 hzp2 rfl (by decide) rfl encS (fun _=>rfl) encS_one _ e.pts rfl ((HP.out.below HBl0.out).hp) HS.out.hp (by decide) (Nat.le_trans HB.out HBl0.out.size) ?_;intro pa' pc' W0 hop hb0;have d0:W0.cell? ⟨w.heap.size+2,2,none⟩=some (.slice pa e.pts.length pc):=(by have:=row_below hb0 HO0.out;simp[World.cell?,this]);have q0:W0.frozen? ⟨w.heap.size+2,2,none⟩=false:=(by have:=row_below hb0 HO0.out;simp[World.frozen?,this]))
 obtain⟨V1,hV1⟩:∃ V,V=W0.setCell ⟨w.heap.size+2,2,none⟩ (.slice pa' e.pts.length pc'):=⟨_,rfl⟩;rw[<- hV1];have hg1:W0.grownBy V1 (some (w.heap.size+2)):=by rw[hV1];exact grown_setCell _ _ _ _
 have HO1:Hid (V1.heap[w.heap.size+2]?=some (.cells #[.string e.name,.int .i64 e.tol,.slice pa' e.pts.length pc',.int .i64 e.cnt,.int .i64 e.mn,.int .i64 e.mx,.slice ga e.gaps.length gc,.slice ea e.edges.length ec,.slice fa e.first.length fc,.slice la e.last.length lc] 38 (0,0))):=by
  show _=_
  have:=row_below hb0 HO0.out;rw[hV1];simp[World.setCell,Array.getElem?_modify,this]
 have HX1:Hid (V1.heap[w.heap.size]?=some (.cells #[.string e.name,.int .i64 e.tol,.slice pa e.pts.length pc,.int .i64 e.cnt,.int .i64 e.mn,.int .i64 e.mx,.slice ga e.gaps.length gc,.slice ea e.edges.length ec,.slice fa e.first.length fc,.slice la e.last.length lc] 38 (0,0))):=(hg1.block _ (lt_of_row (row_below hb0 HX0.out)) (by simp)).trans (row_below hb0 HX0.out);have HR1:Hid (V1.heap[w.heap.size+1]?=some (.cells #[.string ⟨#[]⟩,.int .i64 0,.slice none 0 0,.int .i64 0,.int .i64 0,.int .i64 0,.slice none 0 0,.slice none 0 0,.slice none 0 0,.slice none 0 0] 38 (0,0))):=(hg1.block _ (lt_of_row (row_below hb0 HR0.out)) (by simp)).trans (row_below hb0 HR0.out);have HBl1:Hid (Below w.heap.size w V1):=(HBl0.out.trans (hb0.mono HBl0.out.size)).grown hg1 (Nat.le_trans HBl0.out.size hb0.size) (fun k hk=>by cases hk;omega);have HSp1:Hid (SlOwn encS 1 9 B V1 (.slice pa' e.pts.length pc') e.pts):=hop.other hg1 (row_below hb0 HO0.out) (by decide);clear s0 d0 q0 hV1 hg1 hop hb0 HX0 HR0 HO0 HBl0;have s1:V1.cell? ⟨w.heap.size,6,none⟩=some (.slice ga e.gaps.length gc):=by have:=HX1.out;simp[World.cell?,this]
 go_upto_region 7 with (at_builtin;refine wpList_copy (w:=V1) rfl _ _ 34 rfl B 145 infg (.agg #[.int .i64 0,.int .i64 0,.int .i64 0,.int .i64 0]) 4 32 Tryz.underlying34 hig hzg0 hzg1 hzg2 rfl (by decide) rfl encG (fun _=>rfl) encG_one _ e.gaps rfl ((HP.out.below HBl1.out).hg) HS.out.hg (by decide) (Nat.le_trans HB.out HBl1.out.size) ?_;intro ga' gc' W1 hog hb1;have d1:W1.cell? ⟨w.heap.size+2,6,none⟩=some (.slice ga e.gaps.length gc):=(by have:=row_below hb1 HO1.out;simp[World.cell?,this]);have q1:W1.frozen? ⟨w.heap.size+2,6,none⟩=false:=(by have:=row_below hb1 HO1.out;simp[World.frozen?,this]))
 obtain⟨V2,hV2⟩:∃ V,V=W1.setCell ⟨w.heap.size+2,6,none⟩ (.slice ga' e.gaps.length gc'):=⟨_,rfl⟩;rw[<- hV2];have hg2:W1.grownBy V2 (some (w.heap.size+2)):=by rw[hV2];exact grown_setCell _ _ _ _
 have HO2:Hid (V2.heap[w.heap.size+2]?=some (.cells #[.string e.name,.int .i64 e.tol,.slice pa' e.pts.length pc',.int .i64 e.cnt,.int .i64 e.mn,.int .i64 e.mx,.slice ga' e.gaps.length gc',.slice ea e.edges.length ec,.slice fa e.first.length fc,.slice la e.last.length lc] 38 (0,0))):=by
  show _=_
  have:=row_below hb1 HO1.out;rw[hV2];simp[World.setCell,Array.getElem?_modify,this]
 have HX2:Hid (V2.heap[w.heap.size]?=some (.cells #[.string e.name,.int .i64 e.tol,.slice pa e.pts.length pc,.int .i64 e.cnt,.int .i64 e.mn,.int .i64 e.mx,.slice ga e.gaps.length gc,.slice ea e.edges.length ec,.slice fa e.first.length fc,.slice la e.last.length lc] 38 (0,0))):=(hg2.block _ (lt_of_row (row_below hb1 HX1.out)) (by simp)).trans (row_below hb1 HX1.out);have HR2:Hid (V2.heap[w.heap.size+1]?=some (.cells #[.string ⟨#[]⟩,.int .i64 0,.slice none 0 0,.int .i64 0,.int .i64 0,.int .i64 0,.slice none 0 0,.slice none 0 0,.slice none 0 0,.slice none 0 0] 38 (0,0))):=(hg2.block _ (lt_of_row (row_below hb1 HR1.out)) (by simp)).trans (row_below hb1 HR1.out);have HBl2:Hid (Below w.heap.size w V2):=(HBl1.out.trans (hb1.mono HBl1.out.size)).grown hg2 (Nat.le_trans HBl1.out.size hb1.size) (fun k hk=>by cases hk;omega);have HSp2:Hid (SlOwn encS 1 9 B V2 (.slice pa' e.pts.length pc') e.pts):=(HSp1.out.below hb1).other hg2 (row_below hb1 HO1.out) (by decide);have HSg2:Hid (SlOwn encG 4 145 B V2 (.slice ga' e.gaps.length gc') e.gaps):=hog.other hg2 (row_below hb1 HO1.out) (by decide);clear s1 d1 q1 hV2 hg2 hog hb1 HX1 HR1 HO1 HBl1 HSp1;have s2:V2.cell? ⟨w.heap.size,7,none⟩=some (.slice ea e.edges.length ec):=by have:=HX2.out;simp[World.cell?,this]
 go_upto_region 9 with (at_builtin;refine wpList_copy (w:=V2) rfl _ _ 35 rfl B 146 infe (.agg #[.int .i64 0,.int .i64 0]) 2 16 Tryz.underlying35 hie hze0 hze1 hze2 rfl (by decide) rfl encP (fun _=>rfl) encP_one _ e.edges rfl ((HP.out.below HBl2.out).he) HS.out.he (by decide) (Nat.le_trans HB.out HBl2.out.size) ?_;intro ea' ec' W2 hoe hb2;have d2:W2.cell? ⟨w.heap.size+2,7,none⟩=some (.slice ea e.edges.length ec):=(by have:=row_below hb2 HO2.out;simp[World.cell?,this]);have q2:W2.frozen? ⟨w.heap.size+2,7,none⟩=false:=(by have:=row_below hb2 HO2.out;simp[World.frozen?,this]))
 obtain⟨V3,hV3⟩:∃ V,V=W2.setCell ⟨w.heap.size+2,7,none⟩ (.slice ea' e.edges.length ec'):=⟨_,rfl⟩;rw[<- hV3];have hg3:W2.grownBy V3 (some (w.heap.size+2)):=by rw[hV3];exact grown_setCell _ _ _ _
 have HO3:Hid (V3.heap[w.heap.size+2]?=some (.cells #[.string e.name,.int .i64 e.tol,.slice pa' e.pts.length pc',.int .i64 e.cnt,.int .i64 e.mn,.int .i64 e.mx,.slice ga' e.gaps.length gc',.slice ea' e.edges.length ec',.slice fa e.first.length fc,.slice la e.last.length lc] 38 (0,0))):=by
  show _=_
  have:=row_below hb2 HO2.out;rw[hV3];simp[World.setCell,Array.getElem?_modify,this]
 have HX3:Hid (V3.heap[w.heap.size]?=some (.cells #[.string e.name,.int .i64 e.tol,.slice pa e.pts.length pc,.int .i64 e.cnt,.int .i64 e.mn,.int .i64 e.mx,.slice ga e.gaps.length gc,.slice ea e.edges.length ec,.slice fa e.first.length fc,.slice la e.last.length lc] 38 (0,0))):=(hg3.block _ (lt_of_row (row_below hb2 HX2.out)) (by simp)).trans (row_below hb2 HX2.out);have HR3:Hid (V3.heap[w.heap.size+1]?=some (.cells #[.string ⟨#[]⟩,.int .i64 0,.slice none 0 0,.int .i64 0,.int .i64 0,.int .i64 0,.slice none 0 0,.slice none 0 0,.slice none 0 0,.slice none 0 0] 38 (0,0))):=(hg3.block _ (lt_of_row (row_below hb2 HR2.out)) (by simp)).trans (row_below hb2 HR2.out);have HBl3:Hid (Below w.heap.size w V3):=(HBl2.out.trans (hb2.mono HBl2.out.size)).grown hg3 (Nat.le_trans HBl2.out.size hb2.size) (fun k hk=>by cases hk;omega);have HSp3:Hid (SlOwn encS 1 9 B V3 (.slice pa' e.pts.length pc') e.pts):=(HSp2.out.below hb2).other hg3 (row_below hb2 HO2.out) (by decide);have HSg3:Hid (SlOwn encG 4 145 B V3 (.slice ga' e.gaps.length gc') e.gaps):=(HSg2.out.below hb2).other hg3 (row_below hb2 HO2.out) (by decide);have HSe3:Hid (SlOwn encP 2 146 B V3 (.slice ea' e.edges.length ec') e.edges):=hoe.other hg3 (row_below hb2 HO2.out) (by decide);clear s2 d2 q2 hV3 hg3 hoe hb2 HX2 HR2 HO2 HBl2 HSp2 HSg2;have s3:V3.cell? ⟨w.heap.size,8,none⟩=some (.slice fa e.first.length fc):=by have:=HX3.out;simp[World.cell?,this]
 go_upto_region 11 with (at_builtin;refine wpList_copy (w:=V3) rfl _ _ 36 rfl B 3 inff (.int .i64 0) 1 8 Tryz.underlying36 hif hzf0 hzf1 hzf2 rfl (by decide) rfl encI (fun _=>rfl) encI_one _ e.first rfl ((HP.out.below HBl3.out).hf) HS.out.hf (by decide) (Nat.le_trans HB.out HBl3.out.size) ?_;intro fa' fc' W3 hof hb3;have d3:W3.cell? ⟨w.heap.size+2,8,none⟩=some (.slice fa e.first.length fc):=(by have:=row_below hb3 HO3.out;simp[World.cell?,this]);have q3:W3.frozen? ⟨w.heap.size+2,8,none⟩=false:=(by have:=row_below hb3 HO3.out;simp[World.frozen?,this]))
 obtain⟨V4,hV4⟩:∃ V,V=W3.setCell ⟨w.heap.size+2,8,none⟩ (.slice fa' e.first.length fc'):=⟨_,rfl⟩;rw[<- hV4];have hg4:W3.grownBy V4 (some (w.heap.size+2)):=by rw[hV4];exact grown_setCell _ _ _ _
 have HO4:Hid (V4.heap[w.heap.size+2]?=some (.cells #[.string e.name,.int .i64 e.tol,.slice pa' e.pts.length pc',.int .i64 e.cnt,.int .i64 e.mn,.int .i64 e.mx,.slice ga' e.gaps.length gc',.slice ea' e.edges.length ec',.slice fa' e.first.length fc',.slice la e.last.length lc] 38 (0,0))):=by
  show _=_
  have:=row_below hb3 HO3.out;rw[hV4];simp[World.setCell,Array.getElem?_modify,this]
 have HX4:Hid (V4.heap[w.heap.size]?=some (.cells #[.string e.name,.int .i64 e.tol,.slice pa e.pts.length pc,.int .i64 e.cnt,.int .i64 e.mn,.int .i64 e.mx,.slice ga e.gaps.length gc,.slice ea e.edges.length ec,.slice fa e.first.length fc,.slice la e.last.length lc] 38 (0,0))):=(hg4.block _ (lt_of_row (row_below hb3 HX3.out)) (by simp)).trans (row_below hb3 HX3.out);have HR4:Hid (V4.heap[w.heap.size+1]?=some (.cells #[.string ⟨#[]⟩,.int .i64 0,.slice none 0 0,.int .i64 0,.int .i64 0,.int .i64 0,.slice none 0 0,.slice none 0 0,.slice none 0 0,.slice none 0 0] 38 (0,0))):=(hg4.block _ (lt_of_row (row_below hb3 HR3.out)) (by simp)).trans (row_below hb3 HR3.out);have HBl4:Hid (Below w.heap.size w V4):=(HBl3.out.trans (hb3.mono HBl3.out.size)).grown hg4 (Nat.le_trans HBl3.out.size hb3.size) (fun k hk=>by cases hk;omega);have HSp4:Hid (SlOwn encS 1 9 B V4 (.slice pa' e.pts.length pc') e.pts):=(HSp3.out.below hb3).other hg4 (row_below hb3 HO3.out) (by decide);have HSg4:Hid (SlOwn encG 4 145 B V4 (.slice ga' e.gaps.length gc') e.gaps):=(HSg3.out.below hb3).other hg4 (row_below hb3 HO3.out) (by decide);have HSe4:Hid (SlOwn encP 2 146 B V4 (.slice ea' e.edges.length ec') e.edges):=(HSe3.out.below hb3).other hg4 (row_below hb3 HO3.out) (by decide);have HSf4:Hid (SlOwn encI 1 3 B V4 (.slice fa' e.first.length fc') e.first):=hof.other hg4 (row_below hb3 HO3.out) (by decide);clear s3 d3 q3 hV4 hg4 hof hb3 HX3 HR3 HO3 HBl3 HSp3 HSg3 HSe3;have s4:V4.cell? ⟨w.heap.size,9,none⟩=some (.slice la e.last.length lc):=by have:=HX4.out;simp[World.cell?,this]
 go_upto_region 12 with (at_builtin;refine wpList_copy (w:=V4) rfl _ _ 36 rfl B 3 inff (.int .i64 0) 1 8 Tryz.underlying36 hif hzf0 hzf1 hzf2 rfl (by decide) rfl encI (fun _=>rfl) encI_one _ e.last rfl ((HP.out.below HBl4.out).hl) HS.out.hl (by decide) (Nat.le_trans HB.out HBl4.out.size) ?_;intro la' lc' W4 hol hb4;have d4:W4.cell? ⟨w.heap.size+2,9,none⟩=some (.slice la e.last.length lc):=(by have:=row_below hb4 HO4.out;simp[World.cell?,this]);have q4:W4.frozen? ⟨w.heap.size+2,9,none⟩=false:=(by have:=row_below hb4 HO4.out;simp[World.frozen?,this]))
 obtain⟨V5,hV5⟩:∃ V,V=W4.setCell ⟨w.heap.size+2,9,none⟩ (.slice la' e.last.length lc'):=⟨_,rfl⟩;rw[<- hV5];have hg5:W4.grownBy V5 (some (w.heap.size+2)):=by rw[hV5];exact grown_setCell _ _ _ _
 have HO5:Hid (V5.heap[w.heap.size+2]?=some (.cells #[.string e.name,.int .i64 e.tol,.slice pa' e.pts.length pc',.int .i64 e.cnt,.int .i64 e.mn,.int .i64 e.mx,.slice ga' e.gaps.length gc',.slice ea' e.edges.length ec',.slice fa' e.first.length fc',.slice la' e.last.length lc'] 38 (0,0))):=by
  show _=_
  have:=row_below hb4 HO4.out;rw[hV5];simp[World.setCell,Array.getElem?_modify,this]
 have HX5:Hid (V5.heap[w.heap.size]?=some (.cells #[.string e.name,.int .i64 e.tol,.slice pa e.pts.length pc,.int .i64 e.cnt,.int .i64 e.mn,.int .i64 e.mx,.slice ga e.gaps.length gc,.slice ea e.edges.length ec,.slice fa e.first.length fc,.slice la e.last.length lc] 38 (0,0))):=(hg5.block _ (lt_of_row (row_below hb4 HX4.out)) (by simp)).trans (row_below hb4 HX4.out);have HR5:Hid (V5.heap[w.heap.size+1]?=some (.cells #[.string ⟨#[]⟩,.int .i64 0,.slice none 0 0,.int .i64 0,.int .i64 0,.int .i64 0,.slice none 0 0,.slice none 0 0,.slice none 0 0,.slice none 0 0] 38 (0,0))):=(hg5.block _ (lt_of_row (row_below hb4 HR4.out)) (by simp)).trans (row_below hb4 HR4.out);have HBl5:Hid (Below w.heap.size w V5):=(HBl4.out.trans (hb4.mono HBl4.out.size)).grown hg5 (Nat.le_trans HBl4.out.size hb4.size) (fun k hk=>by cases hk;omega);have HSp5:Hid (SlOwn encS 1 9 B V5 (.slice pa' e.pts.length pc') e.pts):=(HSp4.out.below hb4).other hg5 (row_below hb4 HO4.out) (by decide);have HSg5:Hid (SlOwn encG 4 145 B V5 (.slice ga' e.gaps.length gc') e.gaps):=(HSg4.out.below hb4).other hg5 (row_below hb4 HO4.out) (by decide);have HSe5:Hid (SlOwn encP 2 146 B V5 (.slice ea' e.edges.length ec') e.edges):=(HSe4.out.below hb4).other hg5 (row_below hb4 HO4.out) (by decide);have HSf5:Hid (SlOwn encI 1 3 B V5 (.slice fa' e.first.length fc') e.first):=(HSf4.out.below hb4).other hg5 (row_below hb4 HO4.out) (by decide);have HSl5:Hid (SlOwn encI 1 3 B V5 (.slice la' e.last.length lc') e.last):=hol.other hg5 (row_below hb4 HO4.out) (by decide);clear s4 d4 q4 hV5 hg5 hol hb4 HX4 HR4 HO4 HBl4 HSp4 HSg4 HSe4 HSf4;go_wp2_with (first | (refine wpList_load_row rfl 38 _ rfl (w.heap.size+2) rfl _ _ _ _ HO5.out Tryz.underlying38 rfl Tryz.sizeEnt ?_) | (refine wpList_store_row rfl 38 _ _ rfl (w.heap.size+1) #[.string e.name,.int .i64 e.tol,.slice pa' e.pts.length pc',.int .i64 e.cnt,.int .i64 e.mn,.int .i64 e.mx,.slice ga' e.gaps.length gc',.slice ea' e.edges.length ec',.slice fa' e.first.length fc',.slice la' e.last.length lc'] rfl rfl 38 #[.string ⟨#[]⟩,.int .i64 0,.slice none 0 0,.int .i64 0,.int .i64 0,.int .i64 0,.slice none 0 0,.slice none 0 0,.slice none 0 0,.slice none 0 0] HR5.out Tryz.sizeEnt rfl (by simp[Value.oneCell']) ?_))
 have hgr:V5.grownBy (V5.setRow (w.heap.size+1) #[.string e.name,.int .i64 e.tol,.slice pa' e.pts.length pc',.int .i64 e.cnt,.int .i64 e.mn,.int .i64 e.mx,.slice ga' e.gaps.length gc',.slice ea' e.edges.length ec',.slice fa' e.first.length fc',.slice la' e.last.length lc']) (some (w.heap.size+1)):=grown_setRow _ _ _;have hres:(V5.setRow (w.heap.size+1) #[.string e.name,.int .i64 e.tol,.slice pa' e.pts.length pc',.int .i64 e.cnt,.int .i64 e.mn,.int .i64 e.mx,.slice ga' e.gaps.length gc',.slice ea' e.edges.length ec',.slice fa' e.first.length fc',.slice la' e.last.length lc']).heap[w.heap.size+1]?=some (.cells #[.string e.name,.int .i64 e.tol,.slice pa' e.pts.length pc',.int .i64 e.cnt,.int .i64 e.mn,.int .i64 e.mx,.slice ga' e.gaps.length gc',.slice ea' e.edges.length ec',.slice fa' e.first.length fc',.slice la' e.last.length lc'] 38 (0,0)):=heap_setRow _ HR5.out
 refine bodyPost_ret (results_cell_row rfl _ _ (w.heap.size+1) _ _ _ _ rfl hres Tryz.underlying38 rfl Tryz.sizeEnt) rfl ?_
 refine⟨⟨pa',pc',ga',gc',ea',ec',fa',fc',la',lc',rfl,⟨HSp5.out.other hgr HR5.out (by decide),HSg5.out.other hgr HR5.out (by decide),HSe5.out.other hgr HR5.out (by decide),HSf5.out.other hgr HR5.out (by decide),HSl5.out.other hgr HR5.out (by decide)⟩⟩,HBl5.out.grown hgr HBl5.out.size (fun k hk=>by cases hk;omega)⟩
theorem ce_at (w:World)(cs:List Value)(T:TypeId):∀ (j:Nat) u,cs[j]?=some u->(w.alloc (.cells cs.toArray T)).cell? ((⟨w.heap.size,0,none⟩:Addr).add j)=some u:=by
 intro j u hu;rw[addC_plain,World.cell?_alloc_at _ _ _ _ rfl];simpa using hu
theorem ow_ne {w:World}{B k n:Nat}{T T':TypeId}{v:Value}{xs:List Value}(h:w.ownsRow B T k v n xs){b:Nat}{c:Array Value}{fr:Nat × Nat}(hb:w.heap[b]?=some (.cells c T' fr))(hT:T'≠T):v.ownBlock≠some b:=by
 rcases h.2 with ⟨rfl,_⟩ | ⟨g,cap,cur,rfl,_,hg',_⟩
 ·simp[Value.ownBlock]
 ·intro e;simp only[Value.ownBlock,Option.some.injEq] at e;subst e;rw[hg'] at hb;simp only[Option.some.injEq,Obj.cells.injEq] at hb;exact absurd hb.2.1.symm hT
theorem SlOwnR.below {w w':World}{B k n:Nat}{T:TypeId}{v:Value}{xs:List Value}(h:w.ownsRow B T k v n xs)(hb:Below w.heap.size w w'):w'.ownsRow B T k v n xs:=
 h.kept (row:=none) ⟨hb.os,hb.tape,hb.output,hb.size,fun k hk _=>hb.block k hk⟩ (by by_cases e:v.ownBlock=none;exact Or.inl e;exact Or.inr e)
theorem ow_form {w:World}{B k n:Nat}{T:TypeId}{v:Value}{xs:List Value}(h:w.ownsRow B T k v n xs):∃ sa c,v=.slice sa n c:=by
 rcases h.2 with ⟨rfl,rfl⟩ | ⟨g,cap,cur,rfl,_⟩
 ·exact⟨_,_,rfl⟩
 ·exact⟨_,_,rfl⟩
end Go.Proofs.YtdpdbfhbojgigacGreatDoor
namespace Go.Proofs.YtdpdbfhbojgigacGreatDoor
open Go.RowKit Go.Extern.Stop Go.Stop Go.Extern
structure FlAt (B:Nat)(w:World)(b:Nat)(e:EntD)(s:FSt)(m n:Nat)(D:DataW Unit)(fv lv:Value):Prop where
 heap:w.heap[b]?=some (.cells #[.int .i64 (e.pts.length:Int),.map (some m),fv,lv,.int .i64 s.ah,.bool s.bad] 245 (0,0))
 lo:B<=b
 own:w.ownsMap Tryz.prog 146 unitElem m n D
 edg:EdgeMap D e.edges
 hf:SlOwn encI 1 3 B w fv e.first
 hl:SlOwn encI 1 3 B w lv e.last
 fit:s.ah=-1\/(0<=s.ah/\s.ah < (e.pts.length:Int))
 sm:SmallE e
 wf:WfE e.edges
variable {B b m n:Nat}{w0 w w':World}{e:EntD}{s:FSt}{D:DataW Unit}{fv lv:Value}
theorem FlAt.mne (h:FlAt B w b e s m n D fv lv):m≠b:=by
 obtain⟨es,c,hm,-⟩:=h.own;intro e;subst e;rw[h.heap] at hm
 cases hm
theorem ownsMap_below {k:TypeId}{R:Value->Option (DataW Unit × List MemPlace)}(h:w.ownsMap Tryz.prog k R m n D)(hb:Below w.heap.size w w'):w'.ownsMap Tryz.prog k R m n D:=
 h.kept (row:=none) ⟨hb.os,hb.tape,hb.output,hb.size,fun k hk _=>hb.block k hk⟩ (by simp)
theorem FlAt.below (h:FlAt B w b e s m n D fv lv)(hb:Below w.heap.size w w'):FlAt B w' b e s m n D fv lv:=
 ⟨row_below hb h.heap,h.lo,ownsMap_below h.own hb,h.edg,h.hf.below hb,h.hl.below hb,h.fit,h.sm,h.wf⟩
theorem FlAt.setCell (h:FlAt B w b e s m n D fv lv)(i:Nat)(u:Value){s':FSt}(hr:(#[.int .i64 (e.pts.length:Int),.map (some m),fv,lv,.int .i64 s.ah,.bool s.bad]:Array Value).setIfInBounds i u=#[.int .i64 (e.pts.length:Int),.map (some m),fv,lv,.int .i64 s'.ah,.bool s'.bad])(hf:s'.ah=-1\/(0<=s'.ah/\s'.ah < (e.pts.length:Int))):FlAt B (w.setCell ⟨b,i,none⟩ u) b e s' m n D fv lv:=by
 refine⟨?_,h.lo,h.own.setCell (a:=⟨b,i,none⟩) h.mne u,h.edg,h.hf.other (grown_setCell w b i u) h.heap (by decide),h.hl.other (grown_setCell w b i u) h.heap (by decide),hf,h.sm,h.wf⟩;simp only[World.setCell,Array.getElem?_modify,h.heap];simp[<- hr]
theorem FlAt.setAh (h:FlAt B w b e s m n D fv lv){a:Int}(hf:a=-1\/(0<=a/\a < (e.pts.length:Int))):FlAt B (w.setCell ⟨b,4,none⟩ (.int .i64 a)) b e ⟨a,s.bad⟩ m n D fv lv:=h.setCell 4 _ (by simp) hf
theorem FlAt.setBad (h:FlAt B w b e s m n D fv lv)(v:Bool):FlAt B (w.setCell ⟨b,5,none⟩ (.bool v)) b e ⟨s.ah,v⟩ m n D fv lv:=h.setCell 5 _ (by simp) h.fit
theorem FlAt.cell (h:FlAt B w b e s m n D fv lv)(i:Nat)(u:Value)(hu:(#[.int .i64 (e.pts.length:Int),.map (some m),fv,lv,.int .i64 s.ah,.bool s.bad]:Array Value)[i]?=some u):w.cell? ⟨b,i,none⟩=some u:=by simp[World.cell?,h.heap,hu]
theorem FlAt.frozen (h:FlAt B w b e s m n D fv lv)(i:Nat):w.frozen? ⟨b,i,none⟩=false:=by simp[World.frozen?,h.heap]
set_option maxHeartbeats 1000000 in
theorem sidx_at (l:List Int)(x:Int)(sa:Option Addr)(cap:Nat)(w:World)(hl:SlAt encI 1 w (.slice sa l.length cap) l)(hn:l.length<=1000000) :
  Calls Tryz.prog 235 #[.slice sa l.length cap,.int .i64 x] w fun v w'=>(∃ i:Int,v=.returned (.int .i64 i)/\(0<=i ↔ x∈l))/\w'=w:=by
 have HL:Hid (SlAt encI 1 w (.slice sa l.length cap) l):=hl;have HN:Hid (l.length<=1000000):=hn;clear hl hn;go_enter Tryz.func235,Tryz.ntmps235
 go_wp2;go_loop [5,8] (fun _ i=>∃ k:Nat,k<=l.length/\i=.int .i64 k/\∀ j,j < k->l[j]?≠some x) (fun _ i=>l.length - (intOf i).toNat)
 case atStart=>exact⟨0,Nat.zero_le _,rfl,fun j hj=>absurd hj (by omega)⟩
 case round=>
  obtain⟨k,hk,rfl,hno⟩:=hrel;have HNo:Hid (∀ j,j < k->l[j]?≠some x):=hno;clear hno
  by_cases hlt:k < l.length
  ·have k1:(k:Int) < (l.length:Int):=by omega
   have k2:k < 1000000:=by have:=HN.out;omega
   obtain⟨y,hy⟩:∃ y,l[k]?=some y:=⟨_,List.getElem?_eq_getElem hlt⟩;have HY:Hid (l[k]?=some y):=hy;obtain⟨sa',cap',hsl,-,hcc⟩:=id HL.out
   cases hsl
   obtain⟨g,o,rfl,hc0⟩:=hcc (fun h=>by rw[h] at hy;simp at hy);have c0:=hc0 k _ hy 0 _ rfl;simp only[Nat.mul_one,Nat.add_zero] at c0;clear hcc hc0 hy
   by_cases hxy:x=y
   ·have HX:Hid (x∈l):=by show _∈_;rw[hxy];exact List.mem_of_getElem? HY.out
    subst hxy;go_wp2;go_ret;exact⟨⟨_,rfl,⟨fun _=>HX.out,fun _=>by omega⟩⟩,rfl⟩
   ·have HX:Hid (∀ j,j < k+1->l[j]?≠some x):=fun j hj=>by
     rcases Nat.lt_or_ge j k with h1 | h1
     ·exact HNo.out j h1
     ·rw[show j=k by omega,HY.out];intro h;exact hxy (by simpa using h.symm)
    go_wp2;go_round
    case rel=>exact⟨k+1,by omega,by go_num,HX.out⟩
    case measure=>simp[intOf];omega
  ·have k1:¬(k:Int) < (l.length:Int):=by omega
   have HX:Hid (x ∉ l):=by
    show _ ∉ _
    intro h;obtain⟨i,hi⟩:=List.getElem?_of_mem h;have:i < l.length:=(List.getElem?_eq_some_iff.1 hi).1;exact HNo.out i (by omega) hi
   go_wp2;go_ret;exact⟨⟨_,rfl,⟨fun h=>absurd h (by omega),fun h=>absurd h HX.out⟩⟩,rfl⟩
set_option maxHeartbeats 1000000 in
theorem scontains_at (l:List Int)(x:Int)(sa:Option Addr)(cap:Nat)(w:World)(hl:SlAt encI 1 w (.slice sa l.length cap) l)(hn:l.length<=1000000) :
  Calls Tryz.prog 216 #[.slice sa l.length cap,.int .i64 x] w fun v w'=>v=.returned (.bool (decide (x∈l)))/\w'=w:=by
 have HC:Hid _:=sidx_at l x sa cap w hl hn;clear hl hn;go_enter Tryz.func216,Tryz.ntmps216
 go_wp2_with fail
 refine Calls.mono HC.out ?_;rintro v w' ⟨⟨i,rfl,hi⟩,rfl⟩;have HI:Hid (decide (0<=i)=decide (x∈l)):=decide_eq_decide.2 hi;clear hi HC;go_wp2;go_ret;exact⟨by rw[<- HI.out];first | rfl | simp,rfl⟩
set_option maxHeartbeats 1000000 in
theorem fl_has (p:Int)(h:FlAt B w b e s m n D fv lv) :
  Calls Tryz.prog 215 #[.pointer (some ⟨b,0,none⟩),.int .i64 p] w fun v w'=>v=.returned (.bool (hasP e p))/\w'=w:=by
 have c0:=h.cell 0 _ rfl;clear h
 by_cases g0:0<=p
 ·have HR:Hid (hasP e p=decide (p < (e.pts.length:Int))):=by show _=_;unfold hasP;rw[decide_eq_true g0];rfl
  go_enter Tryz.func215,Tryz.ntmps215
  go_wp2;go_ret;exact⟨by rw[HR.out];first | rfl | simp,rfl⟩
 ·have HR:Hid (hasP e p=false):=by show _=_;unfold hasP;rw[decide_eq_false g0];rfl
  go_enter Tryz.func215,Tryz.ntmps215
  go_wp2;go_ret;exact⟨by rw[HR.out];first | rfl | simp,rfl⟩
end Go.Proofs.YtdpdbfhbojgigacGreatDoor
namespace Go.Proofs.YtdpdbfhbojgigacGreatDoor
open Go.RowKit Go.Extern.Stop Go.Stop Go.Extern
variable {B b m n:Nat}{w0 w w':World}{e:EntD}{s:FSt}{D:DataW Unit}{fv lv:Value}
theorem gr_refl (w:World)(r:Option Nat):w.grownBy w r:=⟨rfl,rfl,rfl,Nat.le_refl _,fun _ _ _=>rfl⟩
theorem Tryz.zeroUnitF (w:World):(zeroValue 221).run Tryz.prog w=.ok (.agg #[]) w:=by kernel_rfl
theorem FlAt.pts (h:FlAt B w b e s m n D fv lv):e.pts.length<=1000000:=h.sm.hp
theorem hasP_wf {p:Int}(h:hasP e p=true)(hp:e.pts.length<=1000000):wf64 p:=by
 unfold hasP at h;simp at h
 exact wf64_of (by omega) (by omega)
theorem ah_wf {a:Int}(h:a=-1\/(0<=a/\a < (e.pts.length:Int)))(hp:e.pts.length<=1000000):wf64 a:=by
 rcases h with rfl | h
 ·exact wf64_of (by omega) (by omega)
 ·exact wf64_of (by omega) (by omega)
set_option maxHeartbeats 2000000 in
set_option maxRecDepth 100000 in
theorem fl_bears (ah p:Int)(h:FlAt B w b e s m n D fv lv)(hah:ah=-1\/(0<=ah/\ah < (e.pts.length:Int))) :
  Calls Tryz.prog 168 #[.pointer (some ⟨b,0,none⟩),.int .i64 ah,.int .i64 p] w fun v w'=>v=.returned (.bool (bearsE e ah p))/\w.grownBy w' none:=by
 have H:Hid (FlAt B w b e s m n D fv lv):=h;have c1:=h.cell 1 _ rfl;have HS:=edgeMap_size h.edg h.wf;have HAw:Hid (wf64 ah):=ah_wf hah h.pts;clear h hah
 by_cases h0:e.edges=[]
 ·have hz:Maps.size D=0:=HS.2 h0;have HR:Hid (bearsE e ah p=true):=by show _=_;unfold bearsE;rw[decide_eq_true h0];rfl
  clear HS h0;go_enter Tryz.func168,Tryz.ntmps168
  go_wp2_with (at_len;refine wpList_len_own _ rfl _ 243 rfl 146 221 Tryz.underlying243 unitElem m n D rfl H.out.own ?_)
  go_ret;exact⟨by rw[HR.out];rfl,gr_refl _ _⟩
 have hz:¬((Maps.size D:Nat):Int)=0:=fun h=>h0 (HS.1 (by omega))
 have HD:Hid (bearsE e ah p=(hasP e p && (if ah=-1 then decide (p∈e.first) else decide ((ah,p)∈e.edges)))):=by show _=_;unfold bearsE;rw[decide_eq_false h0];rfl
 clear HS h0
 cases hp:hasP e p
 ·have HR:Hid (bearsE e ah p=false):=by show _=_;rw[HD.out,hp];rfl
  go_enter Tryz.func168,Tryz.ntmps168
  go_wp2_with (first | (at_len;refine wpList_len_own _ rfl _ 243 rfl 146 221 Tryz.underlying243 unitElem m n D rfl H.out.own ?_) | (go_at_call 215;refine(fl_has p H.out).mono ?_;rw[hp];rintro v w' ⟨rfl,rfl⟩))
  go_ret;exact⟨by rw[HR.out];rfl,gr_refl _ _⟩
 have HPw:Hid (wf64 p):=hasP_wf hp H.out.pts
 by_cases ha:ah=-1
 ·have HR:Hid (bearsE e ah p=decide (p∈e.first)):=by show _=_;rw[HD.out,hp,if_pos ha];rfl
  have c2:=H.out.cell 2 _ rfl;obtain⟨sa,c,rfl⟩:=ow_form H.out.hf;subst ha;go_enter Tryz.func168,Tryz.ntmps168
  go_wp2_with (first | (at_len;refine wpList_len_own _ rfl _ 243 rfl 146 221 Tryz.underlying243 unitElem m n D rfl H.out.own ?_) | (go_at_call 215;refine(fl_has p H.out).mono ?_;rw[hp];rintro v w' ⟨rfl,rfl⟩) | (go_at_call 216;refine(scontains_at e.first p _ _ _ (H.out.hf.slat (fun _=>rfl)) H.out.sm.hf).mono ?_;rintro v w' ⟨rfl,rfl⟩))
  go_ret;exact⟨by rw[HR.out];rfl,gr_refl _ _⟩
 ·have HR:Hid (bearsE e ah p=decide ((ah,p)∈e.edges)):=by show _=_;rw[HD.out,hp,if_neg ha];rfl
  have HM:Hid (Maps.has D (ekey (ah,p))=decide ((ah,p)∈e.edges)):=H.out.edg.2.2 (ah,p) HAw.out HPw.out;go_enter Tryz.func168,Tryz.ntmps168
  go_wp2_with (first | (at_len;refine wpList_len_own _ rfl _ 243 rfl 146 221 Tryz.underlying243 unitElem m n D rfl H.out.own ?_) | (go_at_call 215;refine(fl_has p H.out).mono ?_;rw[hp];rintro v w' ⟨rfl,rfl⟩) | (at_lookup;refine wpList_lookup_own_unit _ rfl _ _ 243 rfl 146 221 Tryz.lawTwo Tryz.underlying243 (Tryz.zeroUnitF _) m n D rfl H.out.own _ _ rfl (keyOf_two HAw.out HPw.out) ?_))
  go_ret;exact⟨by rw[HR.out,<- HM.out];rfl,World.grownBy_alloc _ _ _⟩
set_option maxHeartbeats 1000000 in
set_option maxRecDepth 100000 in
theorem fl_behind (p:Int)(h:FlAt B w b e s m n D fv lv) :
  Calls Tryz.prog 169 #[.pointer (some ⟨b,0,none⟩),.int .i64 p] w fun v w'=>v=.returned (.int .i64 (behindE e p))/\w'=w:=by
 have H:Hid (FlAt B w b e s m n D fv lv):=h;clear h
 cases hp:hasP e p
 ·have HR:Hid (behindE e p=-1):=by show _=_;unfold behindE;rw[if_neg (by rw[hp];simp)]
  go_enter Tryz.func169,Tryz.ntmps169
  go_wp2_with (go_at_call 215;refine(fl_has p H.out).mono ?_;rw[hp];rintro v w' ⟨rfl,rfl⟩)
  go_ret;exact⟨by rw[HR.out];rfl,rfl⟩
 have c3:=H.out.cell 3 _ rfl;obtain⟨sa,c,rfl⟩:=ow_form H.out.hl
 by_cases hl:p∈e.last
 ·have HR:Hid (behindE e p=-1):=by show _=_;unfold behindE;rw[if_neg (fun h=>h.2 hl)]
  have hd:decide (p∈e.last)=true:=decide_eq_true hl;clear hl;go_enter Tryz.func169,Tryz.ntmps169
  go_wp2_with (first | (go_at_call 215;refine(fl_has p H.out).mono ?_;rw[hp];rintro v w' ⟨rfl,rfl⟩) | (go_at_call 216;refine(scontains_at e.last p _ _ _ (H.out.hl.slat (fun _=>rfl)) H.out.sm.hl).mono ?_;rw[hd];rintro v w' ⟨rfl,rfl⟩))
  go_ret;exact⟨by rw[HR.out];rfl,rfl⟩
 ·have HR:Hid (behindE e p=p):=by show _=_;unfold behindE;rw[if_pos ⟨hp,hl⟩]
  have hd:decide (p∈e.last)=false:=decide_eq_false hl;clear hl;go_enter Tryz.func169,Tryz.ntmps169
  go_wp2_with (first | (go_at_call 215;refine(fl_has p H.out).mono ?_;rw[hp];rintro v w' ⟨rfl,rfl⟩) | (go_at_call 216;refine(scontains_at e.last p _ _ _ (H.out.hl.slat (fun _=>rfl)) H.out.sm.hl).mono ?_;rw[hd];rintro v w' ⟨rfl,rfl⟩))
  go_ret;exact⟨by rw[HR.out];rfl,rfl⟩
theorem below_of_grown (h:w.grownBy w' none):Below w.heap.size w w':=⟨h.os,h.tape,h.output,h.size,fun k hk=>h.block k hk (by simp)⟩
end Go.Proofs.YtdpdbfhbojgigacGreatDoor
