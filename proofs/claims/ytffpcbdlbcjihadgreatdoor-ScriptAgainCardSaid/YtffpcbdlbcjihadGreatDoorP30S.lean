/-
  Several texts as one: CfRPart2, CfRCount.
-/
import Derived.Test.YtffpcbdlbcjihadGreatDoorP29S
import Derived.Deep.RegionHeld3
namespace Go.Proofs.YtffpcbdlbcjihadGreatDoor
open Go.RowKit Go.Extern.Stop Go.Stop Go.Extern Go.Maps
theorem sets_get:∀ (w:World) (tg:List (Nat × Nat)) (us:List Value) (i:Nat) (t:Nat × Nat) (u:Value),tg.Nodup->tg[i]?=some t->us[i]?=some u->(∃ o,w.cell? ⟨t.1,t.2,none⟩=some o)->(sets w tg us).cell? ⟨t.1,t.2,none⟩=some u
 | w,[],us,i,t,u,_,h,_,_=>by simp at h
 | w,a :: as',[],i,t,u,_,_,h,_=>by simp at h
 | w,a :: as',v :: vs,0,t,u,hd,h1,h2,⟨o,ho⟩=>by
  simp at h1 h2
  subst h1 h2;rw[sets,sets_cell _ _ _ _ _ (fun x hx e=>by
   have:=(List.nodup_cons.1 hd).1;exact this (by rw[show a=x from e.symm];exact hx))]
  exact cell_setSame ho
 | w,a :: as',v :: vs,i+1,t,u,hd,h1,h2,⟨o,ho⟩=>by
  rw[sets];have hm:t∈as':=List.mem_of_getElem? (by simpa using h1);have hne:a≠t:=fun e=>(List.nodup_cons.1 hd).1 (by rw[e];exact hm)
  refine sets_get _ as' vs i t u (List.nodup_cons.1 hd).2 (by simpa using h1) (by simpa using h2) ⟨o,?_⟩;rw[cell_setOther (by
   by_cases e:a.1=t.1
   ·exact Or.inr (fun e2=>hne (Prod.ext e e2))
   ·exact Or.inl e) rfl rfl]
  exact ho
theorem cells_at (w:World)(cs:List Value)(T:TypeId):∀ (j:Nat) u,cs[j]?=some u->(w.alloc (.cells cs.toArray T)).cell? ((⟨w.heap.size,0,none⟩:Addr).add j)=some u:=by
 intro j u hu;rw[addC_plain,World.cell?_alloc_at _ _ _ _ rfl];simpa using hu
set_option maxHeartbeats 8000000 in
set_option maxRecDepth 100000 in
theorem part_edges (A:Nat->Addr)(w0 w:World)(rb L g cap mb:Nat)(c:CfgD)(last:Int)(es:List EntD)(e:EntD)(x:PV5)(cells:List Value)(sa:Option Addr)(ws:List ByteArray)(wb wo wc:Nat)(hs:Sen6 A w0)(hb0:Below w0.heap.size w0 w)(h:RdE w0.heap.size rb L g cap mb w c last es e x cells)(hLw:L<=w.heap.size)(hW:WordsAt w sa ws wb wo)(hn:e.edges.length<=1000000) :
  Calls Tryz.prog 264 #[.pointer (some ⟨rb,0,none⟩),.pointer (some ⟨g,es.length*10,none⟩),.int .i64 7,.slice sa ws.length wc] w fun v w'=>v=.returned (errV A (fillV (lookL e.pts) false [2,2] (ws.map bl)).1)/\Below w0.heap.size w0 w'/\∃ (z0 z1:Int) (x':PV5),((fillV (lookL e.pts) false [2,2] (ws.map bl)).1=0->(∀ s,ws[0]?=some s->z0=(wordV (lookL e.pts) 2 (bl s)).2)/\(∀ s,ws[1]?=some s->z1=(wordV (lookL e.pts) 2 (bl s)).2))/\RdE w0.heap.size rb L g cap mb w' c last es { e with edges:=e.edges++[(z0,z1)] } x' cells/\L<=w'.heap.size:=by
 obtain⟨i0,hi,hz0,hz1,hz2⟩:=info_parts Tryz.infoOwne;obtain⟨fa,fc,hxf⟩:=own_formR h.new.he;obtain⟨o,ho⟩:∃ o,o=es.length*10:=⟨_,rfl⟩;have HO:Hid (o=es.length*10):=ho;have HS:Hid (Sen6 A w0/\Below w0.heap.size w0 w):=⟨hs,hb0⟩;have HR:Hid (RdE w0.heap.size rb L g cap mb w c last es e x cells):=h;have HW:Hid (WordsAt w sa ws wb wo):=hW;have HXf:Hid (x.e=.slice fa e.edges.length fc):=hxf;have HL:Hid (L<=w.heap.size):=hLw;rw[<- ho];clear ho hs hb0 h hW hxf hLw;go_enter Tryz.func264,Tryz.ntmps264
 go_upto_region 2 with fail
 obtain⟨W1,hW1⟩:∃ V,V=(w.alloc (.cells #[.int .i64 0] 223)).alloc (.cells #[.int .i64 0] 223):=⟨_,rfl⟩;rw[<- hW1];have HB1:Hid (Below w.heap.size w W1):=by show Below _ _ _;rw[hW1];exact(Below.one _ _).alloc (by simp) _
 have HZ1:Hid (W1.heap.size=w.heap.size+2):=by show _=_;rw[hW1];simp
 have HC0:Hid (W1.cell? ⟨w.heap.size,0,none⟩=some (.int .i64 0)/\W1.frozen? ⟨w.heap.size,0,none⟩=false):=by
  refine⟨by rw[hW1];exact(boxes_two w _ _ _).1,?_⟩;rw[hW1,frozen?_alloc_cells,frozen?_alloc_cells];exact frozen_out w 0 0
 have HC1:Hid (W1.cell? ⟨w.heap.size+1,0,none⟩=some (.int .i64 0)/\W1.frozen? ⟨w.heap.size+1,0,none⟩=false):=by
  refine⟨by rw[hW1];exact(boxes_two w _ _ _).2,?_⟩;rw[hW1,frozen?_alloc_cells,frozen?_alloc_cells];exact frozen_out w 1 0
 have HFI:Hid (FillIn w0 rb e.pts [2,2] [(w.heap.size,0),(w.heap.size+1,0)] ws wb wo W1.heap.size (W1.alloc (.cells #[.iface 368 (.pointer (some ⟨w.heap.size,0,none⟩)),.iface 368 (.pointer (some ⟨w.heap.size+1,0,none⟩))] 20))):=by
  have hbB:=Below.one W1 (.cells #[.iface 368 (.pointer (some ⟨w.heap.size,0,none⟩)),.iface 368 (.pointer (some ⟨w.heap.size+1,0,none⟩))] 20);have hlt:=HW.out.lt;have hz:=HZ1.out;have hrb:=lt_of_row HR.out.row;have hsz:=HS.out.2.size
  refine⟨HS.out.2.trans ((HB1.out.trans (hbB.mono HB1.out.size)).mono hsz),rfl,by simp,by simp,?_,?_,by simp,?_,fun i s hi=>cell_below hbB (cell_below HB1.out (HW.out.wrd i s hi)),HW.out.sz,fun _=>⟨mb,((HR.out.below HB1.out).below hbB).mapAt⟩⟩
  ·intro i f t hf ht
   match i,hf,ht with
   | 0,hf,ht=>
    simp at hf ht
    subst hf ht;exact⟨⟨_,cell_below hbB HC0.out.1,⟨0,rfl⟩⟩,by rw[frozen_below hbB HC0.out.1];exact HC0.out.2⟩
   | 1,hf,ht=>
    simp at hf ht
    subst hf ht;exact⟨⟨_,cell_below hbB HC1.out.1,⟨0,rfl⟩⟩,by rw[frozen_below hbB HC1.out.1];exact HC1.out.2⟩
   | i+2,hf,_=>simp at hf
  ·intro t ht;simp only[List.mem_cons,List.not_mem_nil,or_false] at ht
   rcases ht with rfl | rfl
   all_goals exact⟨by simp only[];omega,fun e2=>by have:=(Prod.mk.inj e2).1;omega,by simp only[];omega,by simp only[];omega⟩
  ·intro i f t hf ht
   match i,hf,ht with
   | 0,hf,ht=>
    simp at hf ht
    subst hf ht;rw[World.cell?_alloc_at _ _ _ _ rfl];rfl
   | 1,hf,ht=>
    simp at hf ht
    subst hf ht;rw[World.cell?_alloc_at _ _ _ _ rfl];rfl
   | i+2,hf,_=>simp at hf
 clear hW1;go_wp2_with fail
 refine(fillR_at A w0 _ rb e.pts [2,2] [(w.heap.size,0),(w.heap.size+1,0)] ws sa wb wo wc W1.heap.size HS.out.1 HFI.out HW.out.sa HW.out.few).mono ?_;rintro v w2 ⟨rfl,us,hul,hut,huv,hub⟩;obtain⟨u0,u1,rfl⟩:∃ u0 u1,us=[u0,u1]:=by
  match us,hul with
  | [u0,u1],_=>exact⟨u0,u1,rfl⟩
 obtain⟨z0,rfl⟩:∃ z:Int,u0=.int .i64 z:=hut 0 2 u0 rfl rfl;obtain⟨z1,rfl⟩:∃ z:Int,u1=.int .i64 z:=hut 1 2 u1 rfl rfl;have HV:Hid ((fillV (lookL e.pts) false [2,2] (ws.map bl)).1=0->(∀ s,ws[0]?=some s->z0=(wordV (lookL e.pts) 2 (bl s)).2)/\(∀ s,ws[1]?=some s->z1=(wordV (lookL e.pts) 2 (bl s)).2)):=fun h0=>⟨(fun s hs=>by have:=huv h0 0 2 s _ rfl hs rfl;unfold valOf at this;rw[if_neg (by decide)] at this;exact(Value.int.inj this).2),(fun s hs=>by have:=huv h0 1 2 s _ rfl hs rfl;unfold valOf at this;rw[if_neg (by decide)] at this;exact(Value.int.inj this).2)⟩
 have HB2:Hid (Below w.heap.size w w2):=sets_new (HB1.out.trans ((Below.one _ _).mono HB1.out.size)) (fun t ht=>by
  simp only[List.mem_cons,List.not_mem_nil,or_false] at ht
  rcases ht with rfl | rfl
  all_goals (simp only[];omega)) hub
 have cp0:w2.cell? ⟨w.heap.size,0,none⟩=some (.int .i64 z0):=by
  have h1:=sets_get (W1.alloc (.cells #[.iface 368 (.pointer (some ⟨w.heap.size,0,none⟩)),.iface 368 (.pointer (some ⟨w.heap.size+1,0,none⟩))] 20)) [(w.heap.size,0),(w.heap.size+1,0)] [.int .i64 z0,.int .i64 z1] 0 (w.heap.size,0) (.int .i64 z0) (by simp) rfl rfl ⟨_,cell_below (Below.one _ _) HC0.out.1⟩;exact(hub.cell (p:=⟨w.heap.size,0,none⟩) (by have:=HZ1.out;simp;omega)).trans h1
 have cp1:w2.cell? ⟨w.heap.size+1,0,none⟩=some (.int .i64 z1):=by
  have h1:=sets_get (W1.alloc (.cells #[.iface 368 (.pointer (some ⟨w.heap.size,0,none⟩)),.iface 368 (.pointer (some ⟨w.heap.size+1,0,none⟩))] 20)) [(w.heap.size,0),(w.heap.size+1,0)] [.int .i64 z0,.int .i64 z1] 1 (w.heap.size+1,0) (.int .i64 z1) (by simp) rfl rfl ⟨_,cell_below (Below.one _ _) HC1.out.1⟩;exact(hub.cell (p:=⟨w.heap.size+1,0,none⟩) (by have:=HZ1.out;simp;omega)).trans h1
 clear hul hut huv hub HFI HC0 HC1;have HR2:Hid (RdE w0.heap.size rb L g cap mb w2 c last es e x cells):=HR.out.below HB2.out;have c8:w2.cell? ⟨g,o+7,none⟩=some (.slice fa e.edges.length fc):=by rw[HO.out,<- HXf.out];exact(HR2.out.ewcell (j:=7) rfl).1
 have hown:w2.drew.ownsRow L 97 2 (.slice fa e.edges.length fc) e.edges.length (e.edges.flatMap encP):=by rw[<- HXf.out];exact HR2.out.new.he
 have HLz:Hid (L<=w2.heap.size):=Nat.le_trans HL.out HB2.out.size;have hLz:=HLz.out;have KB:Hid (∀ (ob:Obj) (w8:World),(w2.drew.alloc ob).grownBy w8 (Value.slice fa e.edges.length fc).ownBlock->w8.cell? ⟨g,o+7,none⟩=some (.slice fa e.edges.length fc)/\w8.frozen? ⟨g,o+7,none⟩=false):=fun ob w8 hg=>by
  have hR3:=HR2.out.below (w':=w2.drew.alloc ob) ((Below.refl w2.heap.size w2).drew.alloc (by simp) ob);obtain⟨cur,hc,-⟩:=hR3.grow;rw[<- HXf.out] at hg ⊢;rw[HO.out];have e1:=(hg.block g (lt_of_row hc) (fun e2=>own_ne hR3.new.he hc (by decide) e2.symm));have h2:=hR3.ewcell (j:=7) (u:=x.e) rfl;exact⟨(World.cell?_of_block e1).trans h2.1,by have:=h2.2;unfold World.frozen? at this ⊢;simp only at this ⊢;rw[e1];exact this⟩
 have c8':∀ ob,(w2.alloc ob).cell? ⟨g,o+7,none⟩=some (.slice fa e.edges.length fc):=fun ob=>cell_below (Below.one _ _) c8
 go_wp2_with fail
 go_region_law (refine step_append_lies _ rfl (.tmp 77) (.tmp 81) 81 rfl L 97 i0 (.agg #[.int .i64 0,.int .i64 0]) 2 16 Tryz.underlying81 hi hz0 hz1 hz2 rfl (by decide) (.slice fa e.edges.length fc) e.edges.length (e.edges.flatMap encP) (by simp[Act.eval]) (hown.alloc _) ⟨w2.heap.size,0,.none⟩ 1 1 [.int .i64 z0,.int .i64 z1] (by simp[Act.eval]) rfl (cells_at w2.drew [.int .i64 z0,.int .i64 z1] 97) (encP_one (z0,z1)) (by decide) (by unfold maxLen;omega) (by omega) (by simp;omega) (w2.heap.size+1) (by simp) ?_;intro g' cap' w8 hown8 hgrow8 hor hlt8;have r8:=KB.out _ _ hgrow8;have d8:=r8.1;have d9:=r8.2)
 all_goals
  go_wp2;go_ret
  refine⟨rfl,?_,z0,z1,{ x with e:=.slice (some ⟨g',0,none⟩) (e.edges.length+1) cap' },HV.out,?_,?_⟩
  ·exact app_bel HS.out.2 HB2.out HR2.out HLz.out (by rw[HXf.out];exact hgrow8) (fun b hb=>(HR2.out.new.he.lt b hb).1) _ _
  ·rw[HO.out];exact(HR2.out.below (w':=w2.drew.alloc _) ((Below.refl w2.heap.size w2).drew.alloc (by simp) _)).appEdge (z0,z1) (by rw[HXf.out];exact hgrow8) hown8
  ·have h1:=hgrow8.size;have h2:=HLz.out;simp[World.setCell] at h1 ⊢
   omega
set_option maxHeartbeats 8000000 in
set_option maxRecDepth 100000 in
theorem part_gaps (A:Nat->Addr)(w0 w:World)(rb L g cap mb:Nat)(c:CfgD)(last:Int)(es:List EntD)(e:EntD)(x:PV5)(cells:List Value)(sa:Option Addr)(ws:List ByteArray)(wb wo wc:Nat)(hs:Sen6 A w0)(hb0:Below w0.heap.size w0 w)(h:RdE w0.heap.size rb L g cap mb w c last es e x cells)(hLw:L<=w.heap.size)(hW:WordsAt w sa ws wb wo)(hn:e.gaps.length<=1000000) :
  Calls Tryz.prog 264 #[.pointer (some ⟨rb,0,none⟩),.pointer (some ⟨g,es.length*10,none⟩),.int .i64 6,.slice sa ws.length wc] w fun v w'=>v=.returned (errV A (fillV (lookL e.pts) false [2,2,1,1] (ws.map bl)).1)/\Below w0.heap.size w0 w'/\∃ (z0 z1 z2 z3:Int) (x':PV5),((fillV (lookL e.pts) false [2,2,1,1] (ws.map bl)).1=0->(∀ s,ws[0]?=some s->z0=(wordV (lookL e.pts) 2 (bl s)).2)/\(∀ s,ws[1]?=some s->z1=(wordV (lookL e.pts) 2 (bl s)).2)/\(∀ s,ws[2]?=some s->z2=(wordV (lookL e.pts) 1 (bl s)).2)/\(∀ s,ws[3]?=some s->z3=(wordV (lookL e.pts) 1 (bl s)).2))/\RdE w0.heap.size rb L g cap mb w' c last es { e with gaps:=e.gaps++[⟨z0,z1,z2,z3⟩] } x' cells/\L<=w'.heap.size:=by
 obtain⟨i0,hi,hz0,hz1,hz2⟩:=info_parts Tryz.infoOwng;obtain⟨fa,fc,hxf⟩:=own_formR h.new.hg;obtain⟨o,ho⟩:∃ o,o=es.length*10:=⟨_,rfl⟩;have HO:Hid (o=es.length*10):=ho;have HS:Hid (Sen6 A w0/\Below w0.heap.size w0 w):=⟨hs,hb0⟩;have HR:Hid (RdE w0.heap.size rb L g cap mb w c last es e x cells):=h;have HW:Hid (WordsAt w sa ws wb wo):=hW;have HXf:Hid (x.g=.slice fa e.gaps.length fc):=hxf;have HL:Hid (L<=w.heap.size):=hLw;rw[<- ho];clear ho hs hb0 h hW hxf hLw;go_enter Tryz.func264,Tryz.ntmps264
 go_upto_region 11 with fail
 obtain⟨W1,hW1⟩:∃ V,V=((w.alloc (.cells #[.int .i64 0] 223)).alloc (.cells #[.int .i64 0] 223)).alloc (.cells #[.int .i64 0,.int .i64 0,.int .i64 0,.int .i64 0] 96):=⟨_,rfl⟩;rw[<- hW1];have HB1:Hid (Below w.heap.size w W1):=by show Below _ _ _;rw[hW1];exact((Below.one _ _).alloc (by simp) _).alloc (by simp;omega) _
 have HZ1:Hid (W1.heap.size=w.heap.size+3):=by show _=_;rw[hW1];simp
 have HC0:Hid (W1.cell? ⟨w.heap.size,0,none⟩=some (.int .i64 0)/\W1.frozen? ⟨w.heap.size,0,none⟩=false):=by
  refine⟨by rw[hW1];exact cell_below (Below.one _ _) (boxes_two w _ _ _).1,?_⟩;rw[hW1,frozen?_alloc_cells,frozen?_alloc_cells,frozen?_alloc_cells];exact frozen_out w 0 0
 have HC1:Hid (W1.cell? ⟨w.heap.size+1,0,none⟩=some (.int .i64 0)/\W1.frozen? ⟨w.heap.size+1,0,none⟩=false):=by
  refine⟨by rw[hW1];exact cell_below (Below.one _ _) (boxes_two w _ _ _).2,?_⟩;rw[hW1,frozen?_alloc_cells,frozen?_alloc_cells,frozen?_alloc_cells];exact frozen_out w 1 0
 have HG:Hid (∀ j,j < 4->W1.cell? ⟨w.heap.size+2,j,none⟩=some (.int .i64 0)/\W1.frozen? ⟨w.heap.size+2,j,none⟩=false):=fun j hj=>by
  have e1:w.heap.size+2=((w.alloc (.cells #[.int .i64 0] 223)).alloc (.cells #[.int .i64 0] 223)).heap.size:=by simp
  constructor
  ·rw[hW1,e1,World.cell?_alloc_at _ _ _ _ rfl]
   match j,hj with
   | 0,_=>rfl
   | 1,_=>rfl
   | 2,_=>rfl
   | 3,_=>rfl
  ·rw[hW1,frozen?_alloc_cells,frozen?_alloc_cells,frozen?_alloc_cells];exact frozen_out w 2 j
 have HC2:Hid (W1.cell? ⟨w.heap.size+2,2,none⟩=some (.int .i64 0)/\W1.frozen? ⟨w.heap.size+2,2,none⟩=false):=HG.out 2 (by decide);have HC3:Hid (W1.cell? ⟨w.heap.size+2,3,none⟩=some (.int .i64 0)/\W1.frozen? ⟨w.heap.size+2,3,none⟩=false):=HG.out 3 (by decide);have HFI:Hid (FillIn w0 rb e.pts [2,2,1,1] [(w.heap.size,0),(w.heap.size+1,0),(w.heap.size+2,2),(w.heap.size+2,3)] ws wb wo W1.heap.size (W1.alloc (.cells #[.iface 368 (.pointer (some ⟨w.heap.size,0,none⟩)),.iface 368 (.pointer (some ⟨w.heap.size+1,0,none⟩)),.iface 333 (.pointer (some ⟨w.heap.size+2,2,none⟩)),.iface 333 (.pointer (some ⟨w.heap.size+2,3,none⟩))] 20))):=by
  have hbB:=Below.one W1 (.cells #[.iface 368 (.pointer (some ⟨w.heap.size,0,none⟩)),.iface 368 (.pointer (some ⟨w.heap.size+1,0,none⟩)),.iface 333 (.pointer (some ⟨w.heap.size+2,2,none⟩)),.iface 333 (.pointer (some ⟨w.heap.size+2,3,none⟩))] 20);have hlt:=HW.out.lt;have hz:=HZ1.out;have hrb:=lt_of_row HR.out.row;have hsz:=HS.out.2.size
  refine⟨HS.out.2.trans ((HB1.out.trans (hbB.mono HB1.out.size)).mono hsz),rfl,by simp,by simp,?_,?_,by simp,?_,fun i s hi=>cell_below hbB (cell_below HB1.out (HW.out.wrd i s hi)),HW.out.sz,fun _=>⟨mb,((HR.out.below HB1.out).below hbB).mapAt⟩⟩
  ·intro i f t hf ht
   match i,hf,ht with
   | 0,hf,ht=>
    simp at hf ht
    subst hf ht;exact⟨⟨_,cell_below hbB HC0.out.1,⟨0,rfl⟩⟩,by rw[frozen_below hbB HC0.out.1];exact HC0.out.2⟩
   | 1,hf,ht=>
    simp at hf ht
    subst hf ht;exact⟨⟨_,cell_below hbB HC1.out.1,⟨0,rfl⟩⟩,by rw[frozen_below hbB HC1.out.1];exact HC1.out.2⟩
   | 2,hf,ht=>
    simp at hf ht
    subst hf ht;exact⟨⟨_,cell_below hbB HC2.out.1,⟨0,rfl⟩⟩,by rw[frozen_below hbB HC2.out.1];exact HC2.out.2⟩
   | 3,hf,ht=>
    simp at hf ht
    subst hf ht;exact⟨⟨_,cell_below hbB HC3.out.1,⟨0,rfl⟩⟩,by rw[frozen_below hbB HC3.out.1];exact HC3.out.2⟩
   | i+4,hf,_=>simp at hf
  ·intro t ht;simp only[List.mem_cons,List.not_mem_nil,or_false] at ht
   rcases ht with rfl | rfl | rfl | rfl
   all_goals exact⟨by simp only[];omega,fun e2=>by have:=(Prod.mk.inj e2).1;omega,by simp only[];omega,by simp only[];omega⟩
  ·intro i f t hf ht
   match i,hf,ht with
   | 0,hf,ht=>
    simp at hf ht
    subst hf ht;rw[World.cell?_alloc_at _ _ _ _ rfl];rfl
   | 1,hf,ht=>
    simp at hf ht
    subst hf ht;rw[World.cell?_alloc_at _ _ _ _ rfl];rfl
   | 2,hf,ht=>
    simp at hf ht
    subst hf ht;rw[World.cell?_alloc_at _ _ _ _ rfl];rfl
   | 3,hf,ht=>
    simp at hf ht
    subst hf ht;rw[World.cell?_alloc_at _ _ _ _ rfl];rfl
   | i+4,hf,_=>simp at hf
 clear hW1;go_wp2_with fail
 refine(fillR_at A w0 _ rb e.pts [2,2,1,1] [(w.heap.size,0),(w.heap.size+1,0),(w.heap.size+2,2),(w.heap.size+2,3)] ws sa wb wo wc W1.heap.size HS.out.1 HFI.out HW.out.sa HW.out.few).mono ?_;rintro v w2 ⟨rfl,us,hul,hut,huv,hub⟩;obtain⟨u0,u1,u2,u3,rfl⟩:∃ u0 u1 u2 u3,us=[u0,u1,u2,u3]:=by
  match us,hul with
  | [u0,u1,u2,u3],_=>exact⟨u0,u1,u2,u3,rfl⟩
 obtain⟨z0,rfl⟩:∃ z:Int,u0=.int .i64 z:=hut 0 2 u0 rfl rfl;obtain⟨z1,rfl⟩:∃ z:Int,u1=.int .i64 z:=hut 1 2 u1 rfl rfl;obtain⟨z2,rfl⟩:∃ z:Int,u2=.int .i64 z:=hut 2 1 u2 rfl rfl;obtain⟨z3,rfl⟩:∃ z:Int,u3=.int .i64 z:=hut 3 1 u3 rfl rfl;have HV:Hid ((fillV (lookL e.pts) false [2,2,1,1] (ws.map bl)).1=0->(∀ s,ws[0]?=some s->z0=(wordV (lookL e.pts) 2 (bl s)).2)/\(∀ s,ws[1]?=some s->z1=(wordV (lookL e.pts) 2 (bl s)).2)/\(∀ s,ws[2]?=some s->z2=(wordV (lookL e.pts) 1 (bl s)).2)/\(∀ s,ws[3]?=some s->z3=(wordV (lookL e.pts) 1 (bl s)).2)):=fun h0=>⟨(fun s hs=>by have:=huv h0 0 2 s _ rfl hs rfl;unfold valOf at this;rw[if_neg (by decide)] at this;exact(Value.int.inj this).2),(fun s hs=>by have:=huv h0 1 2 s _ rfl hs rfl;unfold valOf at this;rw[if_neg (by decide)] at this;exact(Value.int.inj this).2),(fun s hs=>by have:=huv h0 2 1 s _ rfl hs rfl;unfold valOf at this;rw[if_neg (by decide)] at this;exact(Value.int.inj this).2),(fun s hs=>by have:=huv h0 3 1 s _ rfl hs rfl;unfold valOf at this;rw[if_neg (by decide)] at this;exact(Value.int.inj this).2)⟩
 have HB2:Hid (Below w.heap.size w w2):=sets_new (HB1.out.trans ((Below.one _ _).mono HB1.out.size)) (fun t ht=>by
  simp only[List.mem_cons,List.not_mem_nil,or_false] at ht
  rcases ht with rfl | rfl | rfl | rfl
  all_goals (simp only[];omega)) hub
 have cp0:w2.cell? ⟨w.heap.size,0,none⟩=some (.int .i64 z0):=by
  have h1:=sets_get (W1.alloc (.cells #[.iface 368 (.pointer (some ⟨w.heap.size,0,none⟩)),.iface 368 (.pointer (some ⟨w.heap.size+1,0,none⟩)),.iface 333 (.pointer (some ⟨w.heap.size+2,2,none⟩)),.iface 333 (.pointer (some ⟨w.heap.size+2,3,none⟩))] 20)) [(w.heap.size,0),(w.heap.size+1,0),(w.heap.size+2,2),(w.heap.size+2,3)] [.int .i64 z0,.int .i64 z1,.int .i64 z2,.int .i64 z3] 0 (w.heap.size,0) (.int .i64 z0) (by simp) rfl rfl ⟨_,cell_below (Below.one _ _) HC0.out.1⟩;exact(hub.cell (p:=⟨w.heap.size,0,none⟩) (by have:=HZ1.out;simp;omega)).trans h1
 have cp1:w2.cell? ⟨w.heap.size+1,0,none⟩=some (.int .i64 z1):=by
  have h1:=sets_get (W1.alloc (.cells #[.iface 368 (.pointer (some ⟨w.heap.size,0,none⟩)),.iface 368 (.pointer (some ⟨w.heap.size+1,0,none⟩)),.iface 333 (.pointer (some ⟨w.heap.size+2,2,none⟩)),.iface 333 (.pointer (some ⟨w.heap.size+2,3,none⟩))] 20)) [(w.heap.size,0),(w.heap.size+1,0),(w.heap.size+2,2),(w.heap.size+2,3)] [.int .i64 z0,.int .i64 z1,.int .i64 z2,.int .i64 z3] 1 (w.heap.size+1,0) (.int .i64 z1) (by simp) rfl rfl ⟨_,cell_below (Below.one _ _) HC1.out.1⟩;exact(hub.cell (p:=⟨w.heap.size+1,0,none⟩) (by have:=HZ1.out;simp;omega)).trans h1
 have cp2:w2.cell? ⟨w.heap.size+2,2,none⟩=some (.int .i64 z2):=by
  have h1:=sets_get (W1.alloc (.cells #[.iface 368 (.pointer (some ⟨w.heap.size,0,none⟩)),.iface 368 (.pointer (some ⟨w.heap.size+1,0,none⟩)),.iface 333 (.pointer (some ⟨w.heap.size+2,2,none⟩)),.iface 333 (.pointer (some ⟨w.heap.size+2,3,none⟩))] 20)) [(w.heap.size,0),(w.heap.size+1,0),(w.heap.size+2,2),(w.heap.size+2,3)] [.int .i64 z0,.int .i64 z1,.int .i64 z2,.int .i64 z3] 2 (w.heap.size+2,2) (.int .i64 z2) (by simp) rfl rfl ⟨_,cell_below (Below.one _ _) HC2.out.1⟩;exact(hub.cell (p:=⟨w.heap.size+2,2,none⟩) (by have:=HZ1.out;simp;omega)).trans h1
 have cp3:w2.cell? ⟨w.heap.size+2,3,none⟩=some (.int .i64 z3):=by
  have h1:=sets_get (W1.alloc (.cells #[.iface 368 (.pointer (some ⟨w.heap.size,0,none⟩)),.iface 368 (.pointer (some ⟨w.heap.size+1,0,none⟩)),.iface 333 (.pointer (some ⟨w.heap.size+2,2,none⟩)),.iface 333 (.pointer (some ⟨w.heap.size+2,3,none⟩))] 20)) [(w.heap.size,0),(w.heap.size+1,0),(w.heap.size+2,2),(w.heap.size+2,3)] [.int .i64 z0,.int .i64 z1,.int .i64 z2,.int .i64 z3] 3 (w.heap.size+2,3) (.int .i64 z3) (by simp) rfl rfl ⟨_,cell_below (Below.one _ _) HC3.out.1⟩;exact(hub.cell (p:=⟨w.heap.size+2,3,none⟩) (by have:=HZ1.out;simp;omega)).trans h1
 have cg0:w2.cell? ⟨w.heap.size+2,0,none⟩=some (.int .i64 0):=by
  have h1:=sets_cell (W1.alloc (.cells #[.iface 368 (.pointer (some ⟨w.heap.size,0,none⟩)),.iface 368 (.pointer (some ⟨w.heap.size+1,0,none⟩)),.iface 333 (.pointer (some ⟨w.heap.size+2,2,none⟩)),.iface 333 (.pointer (some ⟨w.heap.size+2,3,none⟩))] 20)) [(w.heap.size,0),(w.heap.size+1,0),(w.heap.size+2,2),(w.heap.size+2,3)] [.int .i64 z0,.int .i64 z1,.int .i64 z2,.int .i64 z3] (w.heap.size+2) 0 (fun t ht=>by
   simp only[List.mem_cons,List.not_mem_nil,or_false] at ht
   rcases ht with rfl | rfl | rfl | rfl
   all_goals simp)
  exact(hub.cell (p:=⟨w.heap.size+2,0,none⟩) (by have:=HZ1.out;simp;omega)).trans (h1.trans (cell_below (Below.one _ _) (HG.out 0 (by decide)).1))
 have cg1:w2.cell? ⟨w.heap.size+2,1,none⟩=some (.int .i64 0):=by
  have h1:=sets_cell (W1.alloc (.cells #[.iface 368 (.pointer (some ⟨w.heap.size,0,none⟩)),.iface 368 (.pointer (some ⟨w.heap.size+1,0,none⟩)),.iface 333 (.pointer (some ⟨w.heap.size+2,2,none⟩)),.iface 333 (.pointer (some ⟨w.heap.size+2,3,none⟩))] 20)) [(w.heap.size,0),(w.heap.size+1,0),(w.heap.size+2,2),(w.heap.size+2,3)] [.int .i64 z0,.int .i64 z1,.int .i64 z2,.int .i64 z3] (w.heap.size+2) 1 (fun t ht=>by
   simp only[List.mem_cons,List.not_mem_nil,or_false] at ht
   rcases ht with rfl | rfl | rfl | rfl
   all_goals simp)
  exact(hub.cell (p:=⟨w.heap.size+2,1,none⟩) (by have:=HZ1.out;simp;omega)).trans (h1.trans (cell_below (Below.one _ _) (HG.out 1 (by decide)).1))
 have fgz:∀ j,j < 4->w2.frozen? ⟨w.heap.size+2,j,none⟩=false:=fun j hj=>by
  have h1:=HG.out j hj;have hsz:(W1.alloc (.cells #[.iface 368 (.pointer (some ⟨w.heap.size,0,none⟩)),.iface 368 (.pointer (some ⟨w.heap.size+1,0,none⟩)),.iface 333 (.pointer (some ⟨w.heap.size+2,2,none⟩)),.iface 333 (.pointer (some ⟨w.heap.size+2,3,none⟩))] 20)).heap.size=w.heap.size+4:=by have:=HZ1.out;simp;omega
  have e1:w2.heap[w.heap.size+2]?=(sets (W1.alloc (.cells #[.iface 368 (.pointer (some ⟨w.heap.size,0,none⟩)),.iface 368 (.pointer (some ⟨w.heap.size+1,0,none⟩)),.iface 333 (.pointer (some ⟨w.heap.size+2,2,none⟩)),.iface 333 (.pointer (some ⟨w.heap.size+2,3,none⟩))] 20)) [(w.heap.size,0),(w.heap.size+1,0),(w.heap.size+2,2),(w.heap.size+2,3)] [.int .i64 z0,.int .i64 z1,.int .i64 z2,.int .i64 z3]).heap[w.heap.size+2]?:=hub.block _ (by omega);have e2:=sets_frozen (W1.alloc (.cells #[.iface 368 (.pointer (some ⟨w.heap.size,0,none⟩)),.iface 368 (.pointer (some ⟨w.heap.size+1,0,none⟩)),.iface 333 (.pointer (some ⟨w.heap.size+2,2,none⟩)),.iface 333 (.pointer (some ⟨w.heap.size+2,3,none⟩))] 20)) [(w.heap.size,0),(w.heap.size+1,0),(w.heap.size+2,2),(w.heap.size+2,3)] [.int .i64 z0,.int .i64 z1,.int .i64 z2,.int .i64 z3] ⟨w.heap.size+2,j,none⟩;have e3:(W1.alloc (.cells #[.iface 368 (.pointer (some ⟨w.heap.size,0,none⟩)),.iface 368 (.pointer (some ⟨w.heap.size+1,0,none⟩)),.iface 333 (.pointer (some ⟨w.heap.size+2,2,none⟩)),.iface 333 (.pointer (some ⟨w.heap.size+2,3,none⟩))] 20)).frozen? ⟨w.heap.size+2,j,none⟩=false:=by rw[frozen_below (Below.one _ _) h1.1];exact h1.2
  rw[e3] at e2;unfold World.frozen? at e2 ⊢;simp only at e2 ⊢;rw[e1];exact e2
 clear hul hut huv hub HFI HC0 HC1 HC2 HC3;have fz0:=fgz 0 (by decide);have fz1:=fgz 1 (by decide);clear fgz;go_upto_region 13 with fail
 obtain⟨w3,hw3⟩:∃ V,V=(w2.setCell ⟨w.heap.size+2,0,none⟩ (.int .i64 z0)).setCell ⟨w.heap.size+2,1,none⟩ (.int .i64 z1):=⟨_,rfl⟩;rw[<- hw3];have HB3:Hid (Below w.heap.size w w3):=by show Below _ _ _;rw[hw3];exact(HB2.out.setCell (p:=⟨w.heap.size+2,0,none⟩) (by simp only[];omega) _).setCell (p:=⟨w.heap.size+2,1,none⟩) (by simp only[];omega) _
 have d0:w3.cell? ⟨w.heap.size+2,0,none⟩=some (.int .i64 z0):=by rw[hw3,cell_setOther (Or.inr (by simp)) rfl rfl];exact cell_setSame cg0
 have d1:w3.cell? ⟨w.heap.size+2,1,none⟩=some (.int .i64 z1):=by rw[hw3];exact cell_setSame ((cell_setOther (Or.inr (by simp)) rfl rfl).trans cg1)
 have d2:w3.cell? ⟨w.heap.size+2,2,none⟩=some (.int .i64 z2):=by rw[hw3,cell_setOther (Or.inr (by simp)) rfl rfl,cell_setOther (Or.inr (by simp)) rfl rfl];exact cp2
 have d3:w3.cell? ⟨w.heap.size+2,3,none⟩=some (.int .i64 z3):=by rw[hw3,cell_setOther (Or.inr (by simp)) rfl rfl,cell_setOther (Or.inr (by simp)) rfl rfl];exact cp3
 clear hw3 cg0 cg1 cp0 cp1 cp2 cp3 fz0 fz1;have HR2:Hid (RdE w0.heap.size rb L g cap mb w3 c last es e x cells):=HR.out.below HB3.out;have c8:w3.cell? ⟨g,o+6,none⟩=some (.slice fa e.gaps.length fc):=by rw[HO.out,<- HXf.out];exact(HR2.out.ewcell (j:=6) rfl).1
 have hown:w3.drew.ownsRow L 96 4 (.slice fa e.gaps.length fc) e.gaps.length (e.gaps.flatMap encG):=by rw[<- HXf.out];exact HR2.out.new.hg
 have HLz:Hid (L<=w3.heap.size):=Nat.le_trans HL.out HB3.out.size;have hLz:=HLz.out;have KB:Hid (∀ (ob:Obj) (w8:World),(w3.drew.alloc ob).grownBy w8 (Value.slice fa e.gaps.length fc).ownBlock->w8.cell? ⟨g,o+6,none⟩=some (.slice fa e.gaps.length fc)/\w8.frozen? ⟨g,o+6,none⟩=false):=fun ob w8 hg=>by
  have hR3:=HR2.out.below (w':=w3.drew.alloc ob) ((Below.refl w3.heap.size w3).drew.alloc (by simp) ob);obtain⟨cur,hc,-⟩:=hR3.grow;rw[<- HXf.out] at hg ⊢;rw[HO.out];have e1:=(hg.block g (lt_of_row hc) (fun e2=>own_ne hR3.new.hg hc (by decide) e2.symm));have h2:=hR3.ewcell (j:=6) (u:=x.g) rfl;exact⟨(World.cell?_of_block e1).trans h2.1,by have:=h2.2;unfold World.frozen? at this ⊢;simp only at this ⊢;rw[e1];exact this⟩
 have c8':∀ ob,(w3.alloc ob).cell? ⟨g,o+6,none⟩=some (.slice fa e.gaps.length fc):=fun ob=>cell_below (Below.one _ _) c8
 go_wp2_with fail
 go_region_law (refine step_append_lies _ rfl (.tmp 59) (.tmp 61) 80 rfl L 96 i0 (.agg #[.int .i64 0,.int .i64 0,.int .i64 0,.int .i64 0]) 4 32 Tryz.underlying80 hi hz0 hz1 hz2 rfl (by decide) (.slice fa e.gaps.length fc) e.gaps.length (e.gaps.flatMap encG) (by simp[Act.eval]) (hown.alloc _) ⟨w3.heap.size,0,.none⟩ 1 1 [.int .i64 z0,.int .i64 z1,.int .i64 z2,.int .i64 z3] (by simp[Act.eval]) rfl (cells_at w3.drew [.int .i64 z0,.int .i64 z1,.int .i64 z2,.int .i64 z3] 96) (encG_one ⟨z0,z1,z2,z3⟩) (by decide) (by unfold maxLen;omega) (by omega) (by simp;omega) (w3.heap.size+1) (by simp) ?_;intro g' cap' w8 hown8 hgrow8 hor hlt8;have r8:=KB.out _ _ hgrow8;have d8:=r8.1;have d9:=r8.2)
 all_goals
  go_wp2;go_ret
  refine⟨rfl,?_,z0,z1,z2,z3,{ x with g:=.slice (some ⟨g',0,none⟩) (e.gaps.length+1) cap' },HV.out,?_,?_⟩
  ·exact app_bel HS.out.2 HB3.out HR2.out HLz.out (by rw[HXf.out];exact hgrow8) (fun b hb=>(HR2.out.new.hg.lt b hb).1) _ _
  ·rw[HO.out];exact(HR2.out.below (w':=w3.drew.alloc _) ((Below.refl w3.heap.size w3).drew.alloc (by simp) _)).appGap ⟨z0,z1,z2,z3⟩ (by rw[HXf.out];exact hgrow8) hown8
  ·have h1:=hgrow8.size;have h2:=HLz.out;simp[World.setCell] at h1 ⊢
   omega
theorem OwnX.nums {B:Nat}{w:World}{e:EntD}{x:PV5}(h:OwnX B w e x)(a b d:Int):OwnX B w { e with cnt:=a,mn:=b,mx:=d } x:=⟨h.hp,h.hg,h.he,h.hf,h.hl⟩
set_option maxHeartbeats 4000000 in
set_option maxRecDepth 100000 in
theorem part_count (A:Nat->Addr)(w0 w:World)(rb L g cap mb:Nat)(c:CfgD)(last:Int)(es:List EntD)(e:EntD)(x:PV5)(cells:List Value)(sa:Option Addr)(ws:List ByteArray)(wb wo wc:Nat)(hs:Sen6 A w0)(hb0:Below w0.heap.size w0 w)(h:RdE w0.heap.size rb L g cap mb w c last es e x cells)(hLw:L<=w.heap.size)(hW:WordsAt w sa ws wb wo) :
  Calls Tryz.prog 264 #[.pointer (some ⟨rb,0,none⟩),.pointer (some ⟨g,es.length*10,none⟩),.int .i64 5,.slice sa ws.length wc] w fun v w'=>v=.returned (errV A (fillV (lookL e.pts) false [2,1,1] (ws.map bl)).1)/\Below w0.heap.size w0 w'/\∃ (z0 z1 z2:Int),((fillV (lookL e.pts) false [2,1,1] (ws.map bl)).1=0->(∀ s,ws[0]?=some s->z0=(wordV (lookL e.pts) 2 (bl s)).2)/\(∀ s,ws[1]?=some s->z1=(wordV (lookL e.pts) 1 (bl s)).2)/\(∀ s,ws[2]?=some s->z2=(wordV (lookL e.pts) 1 (bl s)).2))/\RdE w0.heap.size rb L g cap mb w' c last es { e with cnt:=z0,mn:=z1,mx:=z2 } x cells/\L<=w'.heap.size:=by
 obtain⟨o,ho⟩:∃ o,o=es.length*10:=⟨_,rfl⟩;have HO:Hid (o=es.length*10):=ho;have HS:Hid (Sen6 A w0/\Below w0.heap.size w0 w):=⟨hs,hb0⟩;have HR:Hid (RdE w0.heap.size rb L g cap mb w c last es e x cells):=h;have HW:Hid (WordsAt w sa ws wb wo):=hW;have HL:Hid (L<=w.heap.size):=hLw;obtain⟨cur0,hg0,hgB⟩:=h.grow;have HGr:Hid (w.heap[g]?=some (.cells cur0 83 (0,0))/\w0.heap.size<=g/\g < w.heap.size):=⟨hg0,hgB,lt_of_row hg0⟩;rw[<- ho];clear ho hs hb0 h hW hLw hg0 hgB;go_enter Tryz.func264,Tryz.ntmps264
 go_upto_region 2 with fail
 obtain⟨W1,hW1⟩:∃ V,V=(w.alloc (.cells #[.int .i64 0] 223)).alloc (.cells #[.int .i64 0] 223):=⟨_,rfl⟩;rw[<- hW1];have HB1:Hid (Below w.heap.size w W1):=by show Below _ _ _;rw[hW1];exact(Below.one _ _).alloc (by simp) _
 have HZ1:Hid (W1.heap.size=w.heap.size+2):=by show _=_;rw[hW1];simp
 have HC1:Hid (W1.cell? ⟨w.heap.size,0,none⟩=some (.int .i64 0)/\W1.frozen? ⟨w.heap.size,0,none⟩=false):=by
  refine⟨by rw[hW1];exact(boxes_two w _ _ _).1,?_⟩;rw[hW1,frozen?_alloc_cells,frozen?_alloc_cells];exact frozen_out w 0 0
 clear hW1;have HFI:Hid (∀ q,FillIn w0 rb e.pts [2,1,1] [(w.heap.size,0),(g,o+4),(g,o+5)] ws wb wo W1.heap.size ((W1.drewN q).alloc (.cells #[.iface 368 (.pointer (some ⟨w.heap.size,0,none⟩)),.iface 333 (.pointer (some ⟨g,o+4,none⟩)),.iface 333 (.pointer (some ⟨g,o+5,none⟩))] 20))):=fun q=>by
  have hbB:Below W1.heap.size W1 ((W1.drewN q).alloc (.cells #[.iface 368 (.pointer (some ⟨w.heap.size,0,none⟩)),.iface 333 (.pointer (some ⟨g,o+4,none⟩)),.iface 333 (.pointer (some ⟨g,o+5,none⟩))] 20)):=(below_drewN (Below.refl _ _) q).alloc (Nat.le_refl _) _;have hlt:=HW.out.lt;have hz:=HZ1.out;have hrb:=lt_of_row HR.out.row;have hsz:=HS.out.2.size;have hgr:=HGr.out;have hgw:g≠wb:=fun e2=>by
   obtain⟨cc,fr,hh⟩:=HW.out.blk;have h1:=hgr.1;rw[e2,hh] at h1;simp only[Option.some.injEq,Obj.cells.injEq] at h1;exact absurd h1.2.1 (by decide)
  have hrg:g≠rb:=fun e2=>by
   have h1:=hgr.1;rw[e2,HR.out.row] at h1;simp only[Option.some.injEq,Obj.cells.injEq] at h1;exact absurd h1.2.1 (by decide)
  have k4:=(HR.out.below HB1.out).ewcell (j:=4) (u:=.int .i64 e.mn) rfl;have k5:=(HR.out.below HB1.out).ewcell (j:=5) (u:=.int .i64 e.mx) rfl;rw[<- HO.out] at k4 k5
  refine⟨HS.out.2.trans ((HB1.out.trans (hbB.mono HB1.out.size)).mono hsz),rfl,by simp,by simp,?_,?_,?_,?_,fun i s hi=>cell_below hbB (cell_below HB1.out (HW.out.wrd i s hi)),HW.out.sz,fun _=>⟨mb,((HR.out.below HB1.out).below hbB).mapAt⟩⟩
  ·intro i f t hf ht
   match i,hf,ht with
   | 0,hf,ht=>
    simp at hf ht
    subst hf ht;exact⟨⟨_,cell_below hbB HC1.out.1,⟨0,rfl⟩⟩,by rw[frozen_below hbB HC1.out.1];exact HC1.out.2⟩
   | 1,hf,ht=>
    simp at hf ht
    subst hf ht;exact⟨⟨_,cell_below hbB k4.1,⟨_,rfl⟩⟩,by rw[frozen_below hbB k4.1];exact k4.2⟩
   | 2,hf,ht=>
    simp at hf ht
    subst hf ht;exact⟨⟨_,cell_below hbB k5.1,⟨_,rfl⟩⟩,by rw[frozen_below hbB k5.1];exact k5.2⟩
   | i+3,hf,_=>simp at hf
  ·intro t ht;simp only[List.mem_cons,List.not_mem_nil,or_false] at ht
   rcases ht with rfl | rfl | rfl
   ·exact⟨by simp only[];omega,fun e2=>by have:=(Prod.mk.inj e2).1;omega,by simp only[];omega,by simp only[];omega⟩
   ·exact⟨hgr.2.1,fun e2=>hrg (Prod.mk.inj e2).1,by simp only[];omega,hgw⟩
   ·exact⟨hgr.2.1,fun e2=>hrg (Prod.mk.inj e2).1,by simp only[];omega,hgw⟩
  ·have:w.heap.size≠g:=by omega
   simp[this]
  ·intro i f t hf ht
   match i,hf,ht with
   | 0,hf,ht=>
    simp at hf ht
    subst hf ht;show World.cell? (World.alloc (W1.drewN q) _) ⟨(W1.drewN q).heap.size,_,none⟩=_
    rw[World.cell?_alloc_at _ _ _ _ rfl];rfl
   | 1,hf,ht=>
    simp at hf ht
    subst hf ht;show World.cell? (World.alloc (W1.drewN q) _) ⟨(W1.drewN q).heap.size,_,none⟩=_
    rw[World.cell?_alloc_at _ _ _ _ rfl];rfl
   | 2,hf,ht=>
    simp at hf ht
    subst hf ht;show World.cell? (World.alloc (W1.drewN q) _) ⟨(W1.drewN q).heap.size,_,none⟩=_
    rw[World.cell?_alloc_at _ _ _ _ rfl];rfl
   | i+3,hf,_=>simp at hf
 have HFill:Hid (∀ q,Calls Tryz.prog 262 #[.pointer (some ⟨rb,0,none⟩),.slice sa ws.length wc,.slice (some ⟨W1.heap.size,0,none⟩) 3 3] ((W1.drewN q).alloc (.cells #[.iface 368 (.pointer (some ⟨w.heap.size,0,none⟩)),.iface 333 (.pointer (some ⟨g,o+4,none⟩)),.iface 333 (.pointer (some ⟨g,o+5,none⟩))] 20)) fun v w2=>v=.returned (errV A (fillV (lookL e.pts) false [2,1,1] (ws.map bl)).1)/\∃ z0 z1 z2:Int,((fillV (lookL e.pts) false [2,1,1] (ws.map bl)).1=0->(∀ s,ws[0]?=some s->z0=(wordV (lookL e.pts) 2 (bl s)).2)/\(∀ s,ws[1]?=some s->z1=(wordV (lookL e.pts) 1 (bl s)).2)/\(∀ s,ws[2]?=some s->z2=(wordV (lookL e.pts) 1 (bl s)).2))/\w2.cell? ⟨w.heap.size,0,none⟩=some (.int .i64 z0)/\Below w0.heap.size w0 w2/\w.heap.size<=w2.heap.size/\RdE w0.heap.size rb L g cap mb w2 c last es { e with cnt:=e.cnt,mn:=z1,mx:=z2 } x cells):=fun q=>by
  refine(fillR_at A w0 _ rb e.pts [2,1,1] [(w.heap.size,0),(g,o+4),(g,o+5)] ws sa wb wo wc W1.heap.size HS.out.1 (HFI.out q) HW.out.sa HW.out.few).mono ?_;rintro v w2 ⟨rfl,us,hul,hut,huv,hub⟩;obtain⟨u0,u1,u2,rfl⟩:∃ u0 u1 u2,us=[u0,u1,u2]:=by
   match us,hul with
   | [u0,u1,u2],_=>exact⟨u0,u1,u2,rfl⟩
  obtain⟨z0,rfl⟩:∃ z:Int,u0=.int .i64 z:=hut 0 2 u0 rfl rfl;obtain⟨z1,rfl⟩:∃ z:Int,u1=.int .i64 z:=hut 1 1 u1 rfl rfl;obtain⟨z2,rfl⟩:∃ z:Int,u2=.int .i64 z:=hut 2 1 u2 rfl rfl;obtain⟨V,hV⟩:∃ V,V=(W1.drewN q).alloc (.cells #[.iface 368 (.pointer (some ⟨w.heap.size,0,none⟩)),.iface 333 (.pointer (some ⟨g,o+4,none⟩)),.iface 333 (.pointer (some ⟨g,o+5,none⟩))] 20):=⟨_,rfl⟩;have hbV:Below w.heap.size w V:=by rw[hV];exact(below_drewN HB1.out q).alloc (by have:=HZ1.out;show w.heap.size<=W1.heap.size;omega) _
  have cV:V.cell? ⟨w.heap.size,0,none⟩=some (.int .i64 0):=by
   rw[hV];exact cell_below (w:=W1) ((below_drewN (Below.refl _ _) q).alloc (Nat.le_refl _) _) HC1.out.1
  rw[<- hV] at hub;have hbU:Below w.heap.size w (V.setCell ⟨w.heap.size,0,none⟩ (.int .i64 z0)):=hbV.setCell (p:=⟨w.heap.size,0,none⟩) (Nat.le_refl _) _;have r0:=HR.out.below hbU;have r1:=r0.setE (e':={ e with mn:=z1 }) (x':=x) 4 (.int .i64 z1) rfl (r0.new.nums e.cnt z1 e.mx) r0.fl rfl;have r2:=r1.setE (e':={ e with mn:=z1,mx:=z2 }) (x':=x) 5 (.int .i64 z2) rfl (r1.new.nums e.cnt z1 z2) r1.fl rfl;rw[<- HO.out] at r2;have hz2:(((V.setCell ⟨w.heap.size,0,none⟩ (.int .i64 z0)).setCell ⟨g,o+4,none⟩ (.int .i64 z1)).setCell ⟨g,o+5,none⟩ (.int .i64 z2)).heap.size=V.heap.size:=by simp[World.setCell]
  have hub2:Below (((V.setCell ⟨w.heap.size,0,none⟩ (.int .i64 z0)).setCell ⟨g,o+4,none⟩ (.int .i64 z1)).setCell ⟨g,o+5,none⟩ (.int .i64 z2)).heap.size (((V.setCell ⟨w.heap.size,0,none⟩ (.int .i64 z0)).setCell ⟨g,o+4,none⟩ (.int .i64 z1)).setCell ⟨g,o+5,none⟩ (.int .i64 z2)) w2:=by rw[hz2];exact hub
  have hgne:g≠w.heap.size:=by have:=HGr.out.2.2;omega
  refine⟨rfl,z0,z1,z2,fun h0=>⟨(fun s hs=>by have:=huv h0 0 2 s _ rfl hs rfl;unfold valOf at this;rw[if_neg (by decide)] at this;exact(Value.int.inj this).2),(fun s hs=>by have:=huv h0 1 1 s _ rfl hs rfl;unfold valOf at this;rw[if_neg (by decide)] at this;exact(Value.int.inj this).2),(fun s hs=>by have:=huv h0 2 1 s _ rfl hs rfl;unfold valOf at this;rw[if_neg (by decide)] at this;exact(Value.int.inj this).2)⟩,?_,?_,?_,?_⟩
  ·refine cell_below hub2 ?_;rw[cell_setOther (Or.inl hgne) rfl rfl,cell_setOther (Or.inl hgne) rfl rfl];exact cell_setSame cV
  ·have h1:Below w0.heap.size w0 V:=HS.out.2.trans (hbV.mono HS.out.2.size);have h2:=((h1.setCell (p:=⟨w.heap.size,0,none⟩) HS.out.2.size (.int .i64 z0)).setCell (p:=⟨g,o+4,none⟩) HGr.out.2.1 (.int .i64 z1)).setCell (p:=⟨g,o+5,none⟩) HGr.out.2.1 (.int .i64 z2);exact h2.trans (hub2.mono h2.size)
  ·have h1:=hub2.size;have h2:=hbV.size;omega
  ·exact r2.below hub2
 clear HFI HC1;go_upto_region 7 with fail
 go_region_held3 (fun _=>True) (exact trivial) (first | (go_at_call 262;refine Calls.mono (HFill.out _) ?_;rintro v w2 ⟨rfl,z0,z1,z2,hz,cz,hb2,hs2,hr2⟩))
 all_goals
  have HV:Hid _:=hz;have HB2:Hid (Below w0.heap.size w0 w2):=hb2;have HR2:Hid (RdE w0.heap.size rb L g cap mb w2 c last es { e with cnt:=e.cnt,mn:=z1,mx:=z2 } x cells):=hr2;have HS2:Hid (w.heap.size<=w2.heap.size):=hs2;have k3:=hr2.ewcell (j:=3) (u:=.int .i64 e.cnt) rfl;rw[<- HO.out] at k3;obtain⟨k3c,k3f⟩:=k3;clear hz hb2 hr2 hs2 HFill;go_wp2;go_ret
  refine⟨rfl,HB2.out.setCell (p:=⟨g,o+3,none⟩) HGr.out.2.1 _,z0,z1,z2,HV.out,?_,?_⟩
  ·have:=HR2.out.setE (e':={ e with cnt:=z0,mn:=z1,mx:=z2 }) (x':=x) 3 (.int .i64 z0) rfl (HR2.out.new.nums z0 z1 z2) HR2.out.fl rfl;rw[<- HO.out] at this;exact this
  ·have h1:=HS2.out;have h2:=HL.out;simp only[World.setCell,Array.size_modify];omega
end Go.Proofs.YtffpcbdlbcjihadGreatDoor
