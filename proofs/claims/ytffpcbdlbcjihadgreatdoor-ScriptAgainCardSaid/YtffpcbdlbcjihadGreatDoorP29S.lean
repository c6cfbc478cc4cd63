/-
  Several texts as one: CfRPart.
-/
import Derived.Test.YtffpcbdlbcjihadGreatDoorP28S
import Derived.Deep.AppendLies
import Derived.Deep.RegionLaw
namespace Go.Proofs.YtffpcbdlbcjihadGreatDoor
open Go.RowKit Go.Extern.Stop Go.Stop Go.Extern Go.Maps
structure WordsAt (w:World)(sa:Option Addr)(ws:List ByteArray)(wb wo:Nat):Prop where
 blk:∃ c fr,w.heap[wb]?=some (.cells c 9 fr)
 sa:ws≠[]->sa=some ⟨wb,wo,none⟩
 wrd:∀ (i:Nat) s,ws[i]?=some s->w.cell? ⟨wb,wo+i,none⟩=some (.string s)
 sz:∀ s∈ws,s.size<=1000000
 few:ws.length<=1000000
theorem WordsAt.below {w w':World}{sa:Option Addr}{ws:List ByteArray}{wb wo:Nat}(h:WordsAt w sa ws wb wo)(hb:Below w.heap.size w w'):WordsAt w' sa ws wb wo:=by
 obtain⟨c,fr,e⟩:=h.blk;exact⟨⟨c,fr,row_below hb e⟩,h.sa,fun i s hs=>cell_below hb (h.wrd i s hs),h.sz,h.few⟩
theorem WordsAt.lt {w:World}{sa:Option Addr}{ws:List ByteArray}{wb wo:Nat}(h:WordsAt w sa ws wb wo):wb < w.heap.size:=by
 obtain⟨c,fr,e⟩:=h.blk;exact lt_of_row e
theorem RdE.mapAt {B rb L g cap mb:Nat}{w:World}{c:CfgD}{last:Int}{es:List EntD}{e:EntD}{x:PV5}{cells:List Value}(h:RdE B rb L g cap mb w c last es e x cells):MapAt w rb mb e.pts:=⟨by simp[World.cell?,h.row,rdRow],h.map⟩
theorem sets_new {w W W':World}{tg:List (Nat × Nat)}{us:List Value}(hb:Below w.heap.size w W)(ht:∀ t∈tg,w.heap.size<=t.1)(hf:Below W.heap.size (sets W tg us) W'):Below w.heap.size w W':=
 hb.trans ((sets_below w.heap.size W tg us ht).trans (hf.mono hb.size))
theorem boxes_two (w:World)(T:TypeId)(u v:Value):((w.alloc (.cells #[u] T)).alloc (.cells #[v] T)).cell? ⟨w.heap.size,0,none⟩=some u/\((w.alloc (.cells #[u] T)).alloc (.cells #[v] T)).cell? ⟨w.heap.size+1,0,none⟩=some v:=by
 constructor
 ·rw[World.cell?_alloc_lt _ _ ⟨w.heap.size,0,none⟩ (by simp),World.cell?_alloc_at _ _ _ _ rfl];rfl
 ·have e:w.heap.size+1=(w.alloc (.cells #[u] T)).heap.size:=by simp
  rw[e,World.cell?_alloc_at _ _ _ _ rfl];rfl
theorem frozen_out (w:World)(j o:Nat):w.frozen? ⟨w.heap.size+j,o,none⟩=false:=by
 unfold World.frozen?;simp only;rw[Array.getElem?_eq_none (by omega)]
theorem app_bel {w0 w w2 w8:World}{rb L g cap mb:Nat}{c:CfgD}{last:Int}{es:List EntD}{e:EntD}{x:PV5}{cells:List Value}{ob:Obj}{r:Option Nat}(h0:Below w0.heap.size w0 w)(h2:Below w.heap.size w w2)(hR:RdE w0.heap.size rb L g cap mb w2 c last es e x cells)(_hL:L<=w2.heap.size)(hg:(w2.drew.alloc ob).grownBy w8 r)(hr:∀ b,r=some b->L<=b)(i:Nat)(u:Value):Below w0.heap.size w0 (w8.setCell ⟨g,i,none⟩ u):=by
 have b2:=h0.trans (h2.mono h0.size);have b3:Below w0.heap.size w0 (w2.drew.alloc ob):=b2.trans (((Below.refl w2.heap.size w2).drew.alloc (by simp) ob).mono b2.size);obtain⟨cur,-,hB⟩:=hR.grow;exact(b3.grown hg b3.size (fun k hk=>Nat.le_trans hR.loL (hr k hk))).setCell (p:=⟨g,i,none⟩) hB u
theorem cell_oneR (w:World)(z:Int)(T:TypeId):∀ (j:Nat) u,([.int .i64 z]:List Value)[j]?=some u->(w.alloc (.cells #[.int .i64 z] T)).cell? ((⟨w.heap.size,0,none⟩:Addr).add j)=some u:=by
 intro j u hu
 match j,hu with
 | 0,hu=>
  simp at hu
  subst hu;rw[addC_plain,World.cell?_alloc_at _ _ _ _ rfl];rfl
 | j+1,hu=>simp at hu
theorem own_formR {w:World}{B k n:Nat}{T:TypeId}{v:Value}{xs:List Value}(h:w.ownsRow B T k v n xs):∃ sa c,v=.slice sa n c:=by
 rcases h.2 with ⟨rfl,rfl⟩ | ⟨g,cap,cur,rfl,_⟩
 ·exact⟨_,_,rfl⟩
 ·exact⟨_,_,rfl⟩
set_option maxHeartbeats 4000000 in
set_option maxRecDepth 100000 in
theorem part_first (A:Nat->Addr)(w0 w:World)(rb L g cap mb:Nat)(c:CfgD)(last:Int)(es:List EntD)(e:EntD)(x:PV5)(cells:List Value)(sa:Option Addr)(ws:List ByteArray)(wb wo wc:Nat)(hs:Sen6 A w0)(hb0:Below w0.heap.size w0 w)(h:RdE w0.heap.size rb L g cap mb w c last es e x cells)(hLw:L<=w.heap.size)(hW:WordsAt w sa ws wb wo)(hn:e.first.length<=1000000) :
  Calls Tryz.prog 264 #[.pointer (some ⟨rb,0,none⟩),.pointer (some ⟨g,es.length*10,none⟩),.int .i64 8,.slice sa ws.length wc] w fun v w'=>v=.returned (errV A (fillV (lookL e.pts) false [2] (ws.map bl)).1)/\Below w0.heap.size w0 w'/\∃ (z:Int) (x':PV5),((fillV (lookL e.pts) false [2] (ws.map bl)).1=0->∀ s,ws[0]?=some s->z=(wordV (lookL e.pts) 2 (bl s)).2)/\RdE w0.heap.size rb L g cap mb w' c last es { e with first:=e.first++[z] } x' cells/\L<=w'.heap.size:=by
 obtain⟨i0,hi,hz0,hz1,hz2⟩:=info_parts Tryz.infoOwnf;obtain⟨fa,fc,hxf⟩:=own_formR h.new.hf;obtain⟨o,ho⟩:∃ o,o=es.length*10:=⟨_,rfl⟩;have HO:Hid (o=es.length*10):=ho;have HS:Hid (Sen6 A w0/\Below w0.heap.size w0 w):=⟨hs,hb0⟩;have HR:Hid (RdE w0.heap.size rb L g cap mb w c last es e x cells):=h;have HW:Hid (WordsAt w sa ws wb wo):=hW;have HXf:Hid (x.f=.slice fa e.first.length fc):=hxf;have HL:Hid (L<=w.heap.size):=hLw;rw[<- ho];clear ho hs hb0 h hW hxf hLw;go_enter Tryz.func264,Tryz.ntmps264
 go_upto_region 2 with fail
 obtain⟨W1,hW1⟩:∃ V,V=(w.alloc (.cells #[.int .i64 0] 223)).alloc (.cells #[.int .i64 0] 223):=⟨_,rfl⟩;rw[<- hW1];have HB1:Hid (Below w.heap.size w W1):=by show Below _ _ _;rw[hW1];exact(Below.one _ _).alloc (by simp) _
 have HZ1:Hid (W1.heap.size=w.heap.size+2):=by show _=_;rw[hW1];simp
 have HC1:Hid (W1.cell? ⟨w.heap.size,0,none⟩=some (.int .i64 0)/\W1.frozen? ⟨w.heap.size,0,none⟩=false):=by
  refine⟨by rw[hW1];exact(boxes_two w _ _ _).1,?_⟩;rw[hW1,frozen?_alloc_cells,frozen?_alloc_cells];exact frozen_out w 0 0
 have HFI:Hid (FillIn w0 rb e.pts [2] [(w.heap.size,0)] ws wb wo W1.heap.size (W1.alloc (.cells #[.iface 368 (.pointer (some ⟨w.heap.size,0,none⟩))] 20))):=by
  have hbB:=Below.one W1 (.cells #[.iface 368 (.pointer (some ⟨w.heap.size,0,none⟩))] 20);have hlt:=HW.out.lt;have hz:=HZ1.out;have hrb:=lt_of_row HR.out.row;have hsz:=HS.out.2.size
  refine⟨HS.out.2.trans ((HB1.out.trans (hbB.mono HB1.out.size)).mono hsz),rfl,by simp,by simp,?_,?_,by simp,?_,fun i s hi=>cell_below hbB (cell_below HB1.out (HW.out.wrd i s hi)),HW.out.sz,fun _=>⟨mb,((HR.out.below HB1.out).below hbB).mapAt⟩⟩
  ·intro i f t hf ht
   match i,hf,ht with
   | 0,hf,ht=>
    simp at hf ht
    subst hf ht;exact⟨⟨_,cell_below hbB HC1.out.1,⟨0,rfl⟩⟩,by rw[frozen_below hbB HC1.out.1];exact HC1.out.2⟩
   | i+1,hf,_=>simp at hf
  ·intro t ht;simp only[List.mem_singleton] at ht;subst ht;exact⟨by show w0.heap.size<=w.heap.size;exact hsz,fun e2=>by have:=(Prod.mk.inj e2).1;omega,by show w.heap.size≠_;omega,by show w.heap.size≠_;omega⟩
  ·intro i f t hf ht
   match i,hf,ht with
   | 0,hf,ht=>
    simp at hf ht
    subst hf ht;rw[World.cell?_alloc_at _ _ _ _ rfl];rfl
   | i+1,hf,_=>simp at hf
 clear hW1;go_wp2_with fail
 refine(fillR_at A w0 _ rb e.pts [2] [(w.heap.size,0)] ws sa wb wo wc W1.heap.size HS.out.1 HFI.out HW.out.sa HW.out.few).mono ?_;rintro v w2 ⟨rfl,us,hul,hut,huv,hub⟩;obtain⟨u,rfl⟩:∃ u,us=[u]:=by
  match us,hul with
  | [u],_=>exact⟨u,rfl⟩
 obtain⟨z,rfl⟩:∃ z:Int,u=.int .i64 z:=hut 0 2 u rfl rfl;have HV:Hid ((fillV (lookL e.pts) false [2] (ws.map bl)).1=0->∀ s,ws[0]?=some s->z=(wordV (lookL e.pts) 2 (bl s)).2):=fun h0 s hs=>by
  have:=huv h0 0 2 s _ rfl hs rfl;unfold valOf at this;rw[if_neg (by decide)] at this;exact(Value.int.inj this).2
 have HB2:Hid (Below w.heap.size w w2):=sets_new (HB1.out.trans ((Below.one _ _).mono HB1.out.size)) (fun t ht=>by simp only[List.mem_singleton] at ht;subst ht;exact Nat.le_refl _) hub;have cp:w2.cell? ⟨w.heap.size,0,none⟩=some (.int .i64 z):=by
  have h1:=cell_setSame (u:=.int .i64 z) (cell_below (Below.one W1 (.cells #[.iface 368 (.pointer (some ⟨w.heap.size,0,none⟩))] 20)) HC1.out.1);have h2:=hub.cell (p:=⟨w.heap.size,0,none⟩) (by show w.heap.size < _;have:=HZ1.out;simp;omega);exact h2.trans h1
 clear hul hut huv hub HFI HC1;have HR2:Hid (RdE w0.heap.size rb L g cap mb w2 c last es e x cells):=HR.out.below HB2.out;have c8:w2.cell? ⟨g,o+8,none⟩=some (.slice fa e.first.length fc):=by rw[HO.out,<- HXf.out];exact(HR2.out.ewcell (j:=8) rfl).1
 have hown:w2.drew.ownsRow L 3 1 (.slice fa e.first.length fc) e.first.length (e.first.flatMap encI):=by rw[<- HXf.out];exact HR2.out.new.hf
 have HLz:Hid (L<=w2.heap.size):=Nat.le_trans HL.out HB2.out.size;have hLz:=HLz.out;have KB:Hid (∀ (ob:Obj) (w8:World),(w2.drew.alloc ob).grownBy w8 (Value.slice fa e.first.length fc).ownBlock->w8.cell? ⟨g,o+8,none⟩=some (.slice fa e.first.length fc)/\w8.frozen? ⟨g,o+8,none⟩=false):=fun ob w8 hg=>by
  have hR3:=HR2.out.below (w':=w2.drew.alloc ob) ((Below.refl w2.heap.size w2).drew.alloc (by simp) ob);obtain⟨cur,hc,-⟩:=hR3.grow;rw[<- HXf.out] at hg ⊢;rw[HO.out];have e1:=(hg.block g (lt_of_row hc) (fun e2=>own_ne hR3.new.hf hc (by decide) e2.symm));have h2:=hR3.ewcell (j:=8) (u:=x.f) rfl;exact⟨(World.cell?_of_block e1).trans h2.1,by have:=h2.2;unfold World.frozen? at this ⊢;simp only at this ⊢;rw[e1];exact this⟩
 have c8':∀ ob,(w2.alloc ob).cell? ⟨g,o+8,none⟩=some (.slice fa e.first.length fc):=fun ob=>cell_below (Below.one _ _) c8
 go_wp2_with fail
 go_region_law (refine step_append_lies _ rfl (.tmp 96) (.tmp 98) 42 rfl L 3 i0 (.int .i64 0) 1 8 Tryz.underlying42 hi hz0 hz1 hz2 rfl (by decide) (.slice fa e.first.length fc) e.first.length (e.first.flatMap encI) (by simp[Act.eval]) (hown.alloc _) ⟨w2.heap.size,0,.none⟩ 1 1 [.int .i64 z] (by simp[Act.eval]) rfl (cell_oneR w2.drew z 3) (encI_one z) (by decide) (by unfold maxLen;omega) (by omega) (by simp;omega) (w2.heap.size+1) (by simp) ?_;intro g' cap' w8 hown8 hgrow8 hor hlt8;have r8:=KB.out _ _ hgrow8;have d1:=r8.1;have d2:=r8.2)
 all_goals
  go_wp2;go_ret
  refine⟨rfl,?_,z,{ x with f:=.slice (some ⟨g',0,none⟩) (e.first.length+1) cap' },HV.out,?_,?_⟩
  ·exact app_bel HS.out.2 HB2.out HR2.out HLz.out (by rw[HXf.out];exact hgrow8) (fun b hb=>(HR2.out.new.hf.lt b hb).1) _ _
  ·rw[HO.out]
   refine(HR2.out.below (w':=w2.drew.alloc _) ((Below.refl w2.heap.size w2).drew.alloc (by simp) _)).appFirst z (by rw[HXf.out];exact hgrow8) hown8 (fun b hb e2=>?_);subst e2
   rcases hor with h1 | h1
   ·rw[<- HXf.out] at h1
    rcases HR2.out.fl with h3 | h3
    ·rw[h3] at h1;cases h1
    ·exact h3 (h1.trans hb.symm)
   ·have:=own_lt HR2.out.new.hl b hb;omega
  ·have h1:=hgrow8.size;have h2:=HLz.out;simp[World.setCell] at h1 ⊢
   omega
set_option maxHeartbeats 4000000 in
set_option maxRecDepth 100000 in
theorem part_last (A:Nat->Addr)(w0 w:World)(rb L g cap mb:Nat)(c:CfgD)(last:Int)(es:List EntD)(e:EntD)(x:PV5)(cells:List Value)(sa:Option Addr)(ws:List ByteArray)(wb wo wc:Nat)(hs:Sen6 A w0)(hb0:Below w0.heap.size w0 w)(h:RdE w0.heap.size rb L g cap mb w c last es e x cells)(hLw:L<=w.heap.size)(hW:WordsAt w sa ws wb wo)(hn:e.last.length<=1000000) :
  Calls Tryz.prog 264 #[.pointer (some ⟨rb,0,none⟩),.pointer (some ⟨g,es.length*10,none⟩),.int .i64 9,.slice sa ws.length wc] w fun v w'=>v=.returned (errV A (fillV (lookL e.pts) false [2] (ws.map bl)).1)/\Below w0.heap.size w0 w'/\∃ (z:Int) (x':PV5),((fillV (lookL e.pts) false [2] (ws.map bl)).1=0->∀ s,ws[0]?=some s->z=(wordV (lookL e.pts) 2 (bl s)).2)/\RdE w0.heap.size rb L g cap mb w' c last es { e with last:=e.last++[z] } x' cells/\L<=w'.heap.size:=by
 obtain⟨i0,hi,hz0,hz1,hz2⟩:=info_parts Tryz.infoOwnf;obtain⟨fa,fc,hxf⟩:=own_formR h.new.hl;obtain⟨o,ho⟩:∃ o,o=es.length*10:=⟨_,rfl⟩;have HO:Hid (o=es.length*10):=ho;have HS:Hid (Sen6 A w0/\Below w0.heap.size w0 w):=⟨hs,hb0⟩;have HR:Hid (RdE w0.heap.size rb L g cap mb w c last es e x cells):=h;have HW:Hid (WordsAt w sa ws wb wo):=hW;have HXf:Hid (x.l=.slice fa e.last.length fc):=hxf;have HL:Hid (L<=w.heap.size):=hLw;rw[<- ho];clear ho hs hb0 h hW hxf hLw;go_enter Tryz.func264,Tryz.ntmps264
 go_upto_region 2 with fail
 obtain⟨W1,hW1⟩:∃ V,V=(w.alloc (.cells #[.int .i64 0] 223)).alloc (.cells #[.int .i64 0] 223):=⟨_,rfl⟩;rw[<- hW1];have HB1:Hid (Below w.heap.size w W1):=by show Below _ _ _;rw[hW1];exact(Below.one _ _).alloc (by simp) _
 have HZ1:Hid (W1.heap.size=w.heap.size+2):=by show _=_;rw[hW1];simp
 have HC1:Hid (W1.cell? ⟨w.heap.size,0,none⟩=some (.int .i64 0)/\W1.frozen? ⟨w.heap.size,0,none⟩=false):=by
  refine⟨by rw[hW1];exact(boxes_two w _ _ _).1,?_⟩;rw[hW1,frozen?_alloc_cells,frozen?_alloc_cells];exact frozen_out w 0 0
 have HFI:Hid (FillIn w0 rb e.pts [2] [(w.heap.size,0)] ws wb wo W1.heap.size (W1.alloc (.cells #[.iface 368 (.pointer (some ⟨w.heap.size,0,none⟩))] 20))):=by
  have hbB:=Below.one W1 (.cells #[.iface 368 (.pointer (some ⟨w.heap.size,0,none⟩))] 20);have hlt:=HW.out.lt;have hz:=HZ1.out;have hrb:=lt_of_row HR.out.row;have hsz:=HS.out.2.size
  refine⟨HS.out.2.trans ((HB1.out.trans (hbB.mono HB1.out.size)).mono hsz),rfl,by simp,by simp,?_,?_,by simp,?_,fun i s hi=>cell_below hbB (cell_below HB1.out (HW.out.wrd i s hi)),HW.out.sz,fun _=>⟨mb,((HR.out.below HB1.out).below hbB).mapAt⟩⟩
  ·intro i f t hf ht
   match i,hf,ht with
   | 0,hf,ht=>
    simp at hf ht
    subst hf ht;exact⟨⟨_,cell_below hbB HC1.out.1,⟨0,rfl⟩⟩,by rw[frozen_below hbB HC1.out.1];exact HC1.out.2⟩
   | i+1,hf,_=>simp at hf
  ·intro t ht;simp only[List.mem_singleton] at ht;subst ht;exact⟨by show w0.heap.size<=w.heap.size;exact hsz,fun e2=>by have:=(Prod.mk.inj e2).1;omega,by show w.heap.size≠_;omega,by show w.heap.size≠_;omega⟩
  ·intro i f t hf ht
   match i,hf,ht with
   | 0,hf,ht=>
    simp at hf ht
    subst hf ht;rw[World.cell?_alloc_at _ _ _ _ rfl];rfl
   | i+1,hf,_=>simp at hf
 clear hW1;go_wp2_with fail
 refine(fillR_at A w0 _ rb e.pts [2] [(w.heap.size,0)] ws sa wb wo wc W1.heap.size HS.out.1 HFI.out HW.out.sa HW.out.few).mono ?_;rintro v w2 ⟨rfl,us,hul,hut,huv,hub⟩;obtain⟨u,rfl⟩:∃ u,us=[u]:=by
  match us,hul with
  | [u],_=>exact⟨u,rfl⟩
 obtain⟨z,rfl⟩:∃ z:Int,u=.int .i64 z:=hut 0 2 u rfl rfl;have HV:Hid ((fillV (lookL e.pts) false [2] (ws.map bl)).1=0->∀ s,ws[0]?=some s->z=(wordV (lookL e.pts) 2 (bl s)).2):=fun h0 s hs=>by
  have:=huv h0 0 2 s _ rfl hs rfl;unfold valOf at this;rw[if_neg (by decide)] at this;exact(Value.int.inj this).2
 have HB2:Hid (Below w.heap.size w w2):=sets_new (HB1.out.trans ((Below.one _ _).mono HB1.out.size)) (fun t ht=>by simp only[List.mem_singleton] at ht;subst ht;exact Nat.le_refl _) hub;have cp:w2.cell? ⟨w.heap.size,0,none⟩=some (.int .i64 z):=by
  have h1:=cell_setSame (u:=.int .i64 z) (cell_below (Below.one W1 (.cells #[.iface 368 (.pointer (some ⟨w.heap.size,0,none⟩))] 20)) HC1.out.1);have h2:=hub.cell (p:=⟨w.heap.size,0,none⟩) (by show w.heap.size < _;have:=HZ1.out;simp;omega);exact h2.trans h1
 clear hul hut huv hub HFI HC1;have HR2:Hid (RdE w0.heap.size rb L g cap mb w2 c last es e x cells):=HR.out.below HB2.out;have c8:w2.cell? ⟨g,o+9,none⟩=some (.slice fa e.last.length fc):=by rw[HO.out,<- HXf.out];exact(HR2.out.ewcell (j:=9) rfl).1
 have hown:w2.drew.ownsRow L 3 1 (.slice fa e.last.length fc) e.last.length (e.last.flatMap encI):=by rw[<- HXf.out];exact HR2.out.new.hl
 have HLz:Hid (L<=w2.heap.size):=Nat.le_trans HL.out HB2.out.size;have hLz:=HLz.out;have KB:Hid (∀ (ob:Obj) (w8:World),(w2.drew.alloc ob).grownBy w8 (Value.slice fa e.last.length fc).ownBlock->w8.cell? ⟨g,o+9,none⟩=some (.slice fa e.last.length fc)/\w8.frozen? ⟨g,o+9,none⟩=false):=fun ob w8 hg=>by
  have hR3:=HR2.out.below (w':=w2.drew.alloc ob) ((Below.refl w2.heap.size w2).drew.alloc (by simp) ob);obtain⟨cur,hc,-⟩:=hR3.grow;rw[<- HXf.out] at hg ⊢;rw[HO.out];have e1:=(hg.block g (lt_of_row hc) (fun e2=>own_ne hR3.new.hl hc (by decide) e2.symm));have h2:=hR3.ewcell (j:=9) (u:=x.l) rfl;exact⟨(World.cell?_of_block e1).trans h2.1,by have:=h2.2;unfold World.frozen? at this ⊢;simp only at this ⊢;rw[e1];exact this⟩
 have c8':∀ ob,(w2.alloc ob).cell? ⟨g,o+9,none⟩=some (.slice fa e.last.length fc):=fun ob=>cell_below (Below.one _ _) c8
 go_wp2_with fail
 go_region_law (refine step_append_lies _ rfl (.tmp 113) (.tmp 115) 42 rfl L 3 i0 (.int .i64 0) 1 8 Tryz.underlying42 hi hz0 hz1 hz2 rfl (by decide) (.slice fa e.last.length fc) e.last.length (e.last.flatMap encI) (by simp[Act.eval]) (hown.alloc _) ⟨w2.heap.size,0,.none⟩ 1 1 [.int .i64 z] (by simp[Act.eval]) rfl (cell_oneR w2.drew z 3) (encI_one z) (by decide) (by unfold maxLen;omega) (by omega) (by simp;omega) (w2.heap.size+1) (by simp) ?_;intro g' cap' w8 hown8 hgrow8 hor hlt8;have r8:=KB.out _ _ hgrow8;have d1:=r8.1;have d2:=r8.2)
 all_goals
  go_wp2;go_ret
  refine⟨rfl,?_,z,{ x with l:=.slice (some ⟨g',0,none⟩) (e.last.length+1) cap' },HV.out,?_,?_⟩
  ·exact app_bel HS.out.2 HB2.out HR2.out HLz.out (by rw[HXf.out];exact hgrow8) (fun b hb=>(HR2.out.new.hl.lt b hb).1) _ _
  ·rw[HO.out]
   refine(HR2.out.below (w':=w2.drew.alloc _) ((Below.refl w2.heap.size w2).drew.alloc (by simp) _)).appLast z (by rw[HXf.out];exact hgrow8) hown8 (fun b hb e2=>?_);subst e2
   rcases hor with h1 | h1
   ·rw[<- HXf.out] at h1
    rcases HR2.out.fl with h3 | h3
    ·rw[h3] at hb;cases hb
    ·exact h3 (hb.trans h1.symm)
   ·have:=own_lt HR2.out.new.hf b hb;omega
  ·have h1:=hgrow8.size;have h2:=HLz.out;simp[World.setCell] at h1 ⊢
   omega
end Go.Proofs.YtffpcbdlbcjihadGreatDoor
