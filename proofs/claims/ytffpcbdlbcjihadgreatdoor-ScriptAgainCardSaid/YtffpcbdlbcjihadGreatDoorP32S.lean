/-
  Several texts as one: CfRTake, CfRLine, ScConf, KeRnN.
-/
import Derived.Test.YtffpcbdlbcjihadGreatDoorP31S
import Derived.Test.YtffpcbdlbcjihadGreatDoorP21S
import Derived.Lib.ReplaceLaws
namespace Go.Proofs.YtffpcbdlbcjihadGreatDoor
open Go.RowKit Go.Extern.Stop Go.Stop Go.Extern Go.Maps
theorem lastPts_snocR (es:List EntD)(e:EntD):lastPts (es++[e])=e.pts:=by simp[lastPts]
theorem wordV_any {l1 l2:Bs->Option Nat}{f:Nat}(hf:f < 2)(w:Bs):wordV l1 f w=wordV l2 f w:=by
 unfold wordV
 match f,hf with
 | 0,_=>rfl
 | 1,_=>rfl
theorem fillV_any {l1 l2:Bs->Option Nat}:∀ (fs:List Nat) (ws:List Bs) (nn:Bool),(∀ f∈fs,f < 2)->fillV l1 nn fs ws=fillV l2 nn fs ws
 | [],[],_,_=>rfl
 | [],_ :: _,_,_=>rfl
 | _ :: _,[],_,_=>rfl
 | f :: fs,w :: ws,nn,h=>by
  have e:=wordV_any (l1:=l1) (l2:=l2) (h f (by simp)) w;unfold fillV;rw[e]
  split
  ·rfl
  ·rw[fillV_any fs ws _ (fun f hf=>h f (by simp[hf]))]
set_option maxHeartbeats 1000000 in
theorem fill_k0 (A:Nat->Addr)(w0 w:World)(rb:Nat)(c:CfgD)(last:Int)(sa:Option Addr)(ws:List ByteArray)(wb wo wc:Nat)(hs:Sen6 A w0)(hb0:Below w0.heap.size w0 w)(h:RdN w0.heap.size rb w c last)(hW:WordsAt w sa ws wb wo)(q:Nat) :
  Calls Tryz.prog 262 #[.pointer (some ⟨rb,0,none⟩),.slice sa ws.length wc,.slice (some ⟨w.heap.size,0,none⟩) 2 2] ((w.drewN q).alloc (.cells #[.iface 333 (.pointer (some ⟨rb,0,none⟩)),.iface 333 (.pointer (some ⟨rb,1,none⟩))] 20)) fun v w2=>v=.returned (errV A (fillV (lookL []) false [1,1] (ws.map bl)).1)/\Below w0.heap.size w0 w2/\∃ z0 z1:Int,((fillV (lookL []) false [1,1] (ws.map bl)).1=0->(∀ s,ws[0]?=some s->z0=(wordV (lookL []) 1 (bl s)).2)/\(∀ s,ws[1]?=some s->z1=(wordV (lookL []) 1 (bl s)).2))/\RdN w0.heap.size rb w2 ⟨z0,z1,c.cycle,c.delay,c.ents⟩ last:=by
 have hbB:Below w.heap.size w ((w.drewN q).alloc (.cells #[.iface 333 (.pointer (some ⟨rb,0,none⟩)),.iface 333 (.pointer (some ⟨rb,1,none⟩))] 20)):=(below_drewN (Below.refl _ _) q).alloc (Nat.le_refl _) _;have hrow:=row_below hbB h.row;have hrb:=lt_of_row h.row;have hlt:=hW.lt;have hne:rb≠wb:=fun e2=>by
  obtain⟨cc,fr,hh⟩:=hW.blk;have h1:=h.row;rw[e2,hh] at h1;simp only[Option.some.injEq,Obj.cells.injEq] at h1;exact absurd h1.2.1 (by decide)
 have hFI:FillIn w0 rb [] [1,1] [(rb,0),(rb,1)] ws wb wo w.heap.size ((w.drewN q).alloc (.cells #[.iface 333 (.pointer (some ⟨rb,0,none⟩)),.iface 333 (.pointer (some ⟨rb,1,none⟩))] 20)):=by
  refine⟨hb0.trans (hbB.mono hb0.size),rfl,by simp,by simp,?_,?_,by simp,?_,fun i s hi=>cell_below hbB (hW.wrd i s hi),hW.sz,fun h2=>by simp at h2⟩
  ·intro i f t hf ht
   match i,hf,ht with
   | 0,hf,ht=>
    simp at hf ht
    subst hf ht;exact⟨⟨.int .i64 c.closed,by simp[World.cell?,hrow,rdRow],⟨_,rfl⟩⟩,by simp[World.frozen?,hrow]⟩
   | 1,hf,ht=>
    simp at hf ht
    subst hf ht;exact⟨⟨.int .i64 c.opn,by simp[World.cell?,hrow,rdRow],⟨_,rfl⟩⟩,by simp[World.frozen?,hrow]⟩
   | i+2,hf,_=>simp at hf
  ·intro t ht;simp only[List.mem_cons,List.not_mem_nil,or_false] at ht
   rcases ht with rfl | rfl
   all_goals exact⟨h.lo,fun e2=>by simp at e2,by simp only[];omega,hne⟩
  ·intro i f t hf ht
   match i,hf,ht with
   | 0,hf,ht=>
    simp at hf ht
    subst hf ht;show World.cell? (World.alloc (w.drewN q) _) ⟨(w.drewN q).heap.size,_,none⟩=_
    rw[World.cell?_alloc_at _ _ _ _ rfl];rfl
   | 1,hf,ht=>
    simp at hf ht
    subst hf ht;show World.cell? (World.alloc (w.drewN q) _) ⟨(w.drewN q).heap.size,_,none⟩=_
    rw[World.cell?_alloc_at _ _ _ _ rfl];rfl
   | i+2,hf,_=>simp at hf
 refine(fillR_at A w0 _ rb [] [1,1] [(rb,0),(rb,1)] ws sa wb wo wc w.heap.size hs hFI hW.sa hW.few).mono ?_;rintro v w2 ⟨rfl,us,hul,hut,huv,hub⟩;obtain⟨u0,u1,rfl⟩:∃ u0 u1,us=[u0,u1]:=by
  match us,hul with
  | [u0,u1],_=>exact⟨u0,u1,rfl⟩
 obtain⟨z0,rfl⟩:∃ z:Int,u0=.int .i64 z:=hut 0 1 u0 rfl rfl;obtain⟨z1,rfl⟩:∃ z:Int,u1=.int .i64 z:=hut 1 1 u1 rfl rfl;have hsz:(sets ((w.drewN q).alloc (.cells #[.iface 333 (.pointer (some ⟨rb,0,none⟩)),.iface 333 (.pointer (some ⟨rb,1,none⟩))] 20)) [(rb,0),(rb,1)] [.int .i64 z0,.int .i64 z1]).heap.size=((w.drewN q).alloc (.cells #[.iface 333 (.pointer (some ⟨rb,0,none⟩)),.iface 333 (.pointer (some ⟨rb,1,none⟩))] 20)).heap.size:=by simp[sets,World.setCell]
 have hub2:Below (sets ((w.drewN q).alloc (.cells #[.iface 333 (.pointer (some ⟨rb,0,none⟩)),.iface 333 (.pointer (some ⟨rb,1,none⟩))] 20)) [(rb,0),(rb,1)] [.int .i64 z0,.int .i64 z1]).heap.size (sets ((w.drewN q).alloc (.cells #[.iface 333 (.pointer (some ⟨rb,0,none⟩)),.iface 333 (.pointer (some ⟨rb,1,none⟩))] 20)) [(rb,0),(rb,1)] [.int .i64 z0,.int .i64 z1]) w2:=by rw[hsz];exact hub
 have b1:Below w0.heap.size w0 (sets ((w.drewN q).alloc (.cells #[.iface 333 (.pointer (some ⟨rb,0,none⟩)),.iface 333 (.pointer (some ⟨rb,1,none⟩))] 20)) [(rb,0),(rb,1)] [.int .i64 z0,.int .i64 z1]):=(hb0.trans (hbB.mono hb0.size)).trans (sets_below _ _ _ _ (fun t ht=>by simp at ht;first | (subst ht;exact h.lo) | (rcases ht with rfl | rfl <;> exact h.lo)))
 refine⟨rfl,b1.trans (hub2.mono b1.size),z0,z1,fun h0=>⟨(fun s hs=>by have:=huv h0 0 1 s _ rfl hs rfl;unfold valOf at this;rw[if_neg (by decide)] at this;exact(Value.int.inj this).2),(fun s hs=>by have:=huv h0 1 1 s _ rfl hs rfl;unfold valOf at this;rw[if_neg (by decide)] at this;exact(Value.int.inj this).2)⟩,h.lo,h.nil,row_below hub2 ?_⟩;simp only[sets,World.setCell,Array.getElem?_modify,hrow];simp[rdRow]
set_option maxHeartbeats 1000000 in
theorem fill_k1 (A:Nat->Addr)(w0 w:World)(rb:Nat)(c:CfgD)(last:Int)(sa:Option Addr)(ws:List ByteArray)(wb wo wc:Nat)(hs:Sen6 A w0)(hb0:Below w0.heap.size w0 w)(h:RdN w0.heap.size rb w c last)(hW:WordsAt w sa ws wb wo)(q:Nat) :
  Calls Tryz.prog 262 #[.pointer (some ⟨rb,0,none⟩),.slice sa ws.length wc,.slice (some ⟨w.heap.size,0,none⟩) 1 1] ((w.drewN q).alloc (.cells #[.iface 333 (.pointer (some ⟨rb,2,none⟩))] 20)) fun v w2=>v=.returned (errV A (fillV (lookL []) false [1] (ws.map bl)).1)/\Below w0.heap.size w0 w2/\∃ z0:Int,((fillV (lookL []) false [1] (ws.map bl)).1=0->(∀ s,ws[0]?=some s->z0=(wordV (lookL []) 1 (bl s)).2))/\RdN w0.heap.size rb w2 ⟨c.closed,c.opn,z0,c.delay,c.ents⟩ last:=by
 have hbB:Below w.heap.size w ((w.drewN q).alloc (.cells #[.iface 333 (.pointer (some ⟨rb,2,none⟩))] 20)):=(below_drewN (Below.refl _ _) q).alloc (Nat.le_refl _) _;have hrow:=row_below hbB h.row;have hrb:=lt_of_row h.row;have hlt:=hW.lt;have hne:rb≠wb:=fun e2=>by
  obtain⟨cc,fr,hh⟩:=hW.blk;have h1:=h.row;rw[e2,hh] at h1;simp only[Option.some.injEq,Obj.cells.injEq] at h1;exact absurd h1.2.1 (by decide)
 have hFI:FillIn w0 rb [] [1] [(rb,2)] ws wb wo w.heap.size ((w.drewN q).alloc (.cells #[.iface 333 (.pointer (some ⟨rb,2,none⟩))] 20)):=by
  refine⟨hb0.trans (hbB.mono hb0.size),rfl,by simp,by simp,?_,?_,by simp,?_,fun i s hi=>cell_below hbB (hW.wrd i s hi),hW.sz,fun h2=>by simp at h2⟩
  ·intro i f t hf ht
   match i,hf,ht with
   | 0,hf,ht=>
    simp at hf ht
    subst hf ht;exact⟨⟨.int .i64 c.cycle,by simp[World.cell?,hrow,rdRow],⟨_,rfl⟩⟩,by simp[World.frozen?,hrow]⟩
   | i+1,hf,_=>simp at hf
  ·intro t ht;simp only[List.mem_cons,List.not_mem_nil,or_false] at ht;subst ht;exact⟨h.lo,fun e2=>by simp at e2,by simp only[];omega,hne⟩
  ·intro i f t hf ht
   match i,hf,ht with
   | 0,hf,ht=>
    simp at hf ht
    subst hf ht;show World.cell? (World.alloc (w.drewN q) _) ⟨(w.drewN q).heap.size,_,none⟩=_
    rw[World.cell?_alloc_at _ _ _ _ rfl];rfl
   | i+1,hf,_=>simp at hf
 refine(fillR_at A w0 _ rb [] [1] [(rb,2)] ws sa wb wo wc w.heap.size hs hFI hW.sa hW.few).mono ?_;rintro v w2 ⟨rfl,us,hul,hut,huv,hub⟩;obtain⟨u0,rfl⟩:∃ u0,us=[u0]:=by
  match us,hul with
  | [u0],_=>exact⟨u0,rfl⟩
 obtain⟨z0,rfl⟩:∃ z:Int,u0=.int .i64 z:=hut 0 1 u0 rfl rfl;have hsz:(sets ((w.drewN q).alloc (.cells #[.iface 333 (.pointer (some ⟨rb,2,none⟩))] 20)) [(rb,2)] [.int .i64 z0]).heap.size=((w.drewN q).alloc (.cells #[.iface 333 (.pointer (some ⟨rb,2,none⟩))] 20)).heap.size:=by simp[sets,World.setCell]
 have hub2:Below (sets ((w.drewN q).alloc (.cells #[.iface 333 (.pointer (some ⟨rb,2,none⟩))] 20)) [(rb,2)] [.int .i64 z0]).heap.size (sets ((w.drewN q).alloc (.cells #[.iface 333 (.pointer (some ⟨rb,2,none⟩))] 20)) [(rb,2)] [.int .i64 z0]) w2:=by rw[hsz];exact hub
 have b1:Below w0.heap.size w0 (sets ((w.drewN q).alloc (.cells #[.iface 333 (.pointer (some ⟨rb,2,none⟩))] 20)) [(rb,2)] [.int .i64 z0]):=(hb0.trans (hbB.mono hb0.size)).trans (sets_below _ _ _ _ (fun t ht=>by simp at ht;first | (subst ht;exact h.lo) | (rcases ht with rfl | rfl <;> exact h.lo)))
 refine⟨rfl,b1.trans (hub2.mono b1.size),z0,fun h0=>(fun s hs=>by have:=huv h0 0 1 s _ rfl hs rfl;unfold valOf at this;rw[if_neg (by decide)] at this;exact(Value.int.inj this).2),h.lo,h.nil,row_below hub2 ?_⟩;simp only[sets,World.setCell,Array.getElem?_modify,hrow];simp[rdRow]
set_option maxHeartbeats 1000000 in
theorem fill_k2 (A:Nat->Addr)(w0 w:World)(rb:Nat)(c:CfgD)(last:Int)(sa:Option Addr)(ws:List ByteArray)(wb wo wc:Nat)(hs:Sen6 A w0)(hb0:Below w0.heap.size w0 w)(h:RdN w0.heap.size rb w c last)(hW:WordsAt w sa ws wb wo)(q:Nat) :
  Calls Tryz.prog 262 #[.pointer (some ⟨rb,0,none⟩),.slice sa ws.length wc,.slice (some ⟨w.heap.size,0,none⟩) 1 1] ((w.drewN q).alloc (.cells #[.iface 333 (.pointer (some ⟨rb,3,none⟩))] 20)) fun v w2=>v=.returned (errV A (fillV (lookL []) false [1] (ws.map bl)).1)/\Below w0.heap.size w0 w2/\∃ z0:Int,((fillV (lookL []) false [1] (ws.map bl)).1=0->(∀ s,ws[0]?=some s->z0=(wordV (lookL []) 1 (bl s)).2))/\RdN w0.heap.size rb w2 ⟨c.closed,c.opn,c.cycle,z0,c.ents⟩ last:=by
 have hbB:Below w.heap.size w ((w.drewN q).alloc (.cells #[.iface 333 (.pointer (some ⟨rb,3,none⟩))] 20)):=(below_drewN (Below.refl _ _) q).alloc (Nat.le_refl _) _;have hrow:=row_below hbB h.row;have hrb:=lt_of_row h.row;have hlt:=hW.lt;have hne:rb≠wb:=fun e2=>by
  obtain⟨cc,fr,hh⟩:=hW.blk;have h1:=h.row;rw[e2,hh] at h1;simp only[Option.some.injEq,Obj.cells.injEq] at h1;exact absurd h1.2.1 (by decide)
 have hFI:FillIn w0 rb [] [1] [(rb,3)] ws wb wo w.heap.size ((w.drewN q).alloc (.cells #[.iface 333 (.pointer (some ⟨rb,3,none⟩))] 20)):=by
  refine⟨hb0.trans (hbB.mono hb0.size),rfl,by simp,by simp,?_,?_,by simp,?_,fun i s hi=>cell_below hbB (hW.wrd i s hi),hW.sz,fun h2=>by simp at h2⟩
  ·intro i f t hf ht
   match i,hf,ht with
   | 0,hf,ht=>
    simp at hf ht
    subst hf ht;exact⟨⟨.int .i64 c.delay,by simp[World.cell?,hrow,rdRow],⟨_,rfl⟩⟩,by simp[World.frozen?,hrow]⟩
   | i+1,hf,_=>simp at hf
  ·intro t ht;simp only[List.mem_cons,List.not_mem_nil,or_false] at ht;subst ht;exact⟨h.lo,fun e2=>by simp at e2,by simp only[];omega,hne⟩
  ·intro i f t hf ht
   match i,hf,ht with
   | 0,hf,ht=>
    simp at hf ht
    subst hf ht;show World.cell? (World.alloc (w.drewN q) _) ⟨(w.drewN q).heap.size,_,none⟩=_
    rw[World.cell?_alloc_at _ _ _ _ rfl];rfl
   | i+1,hf,_=>simp at hf
 refine(fillR_at A w0 _ rb [] [1] [(rb,3)] ws sa wb wo wc w.heap.size hs hFI hW.sa hW.few).mono ?_;rintro v w2 ⟨rfl,us,hul,hut,huv,hub⟩;obtain⟨u0,rfl⟩:∃ u0,us=[u0]:=by
  match us,hul with
  | [u0],_=>exact⟨u0,rfl⟩
 obtain⟨z0,rfl⟩:∃ z:Int,u0=.int .i64 z:=hut 0 1 u0 rfl rfl;have hsz:(sets ((w.drewN q).alloc (.cells #[.iface 333 (.pointer (some ⟨rb,3,none⟩))] 20)) [(rb,3)] [.int .i64 z0]).heap.size=((w.drewN q).alloc (.cells #[.iface 333 (.pointer (some ⟨rb,3,none⟩))] 20)).heap.size:=by simp[sets,World.setCell]
 have hub2:Below (sets ((w.drewN q).alloc (.cells #[.iface 333 (.pointer (some ⟨rb,3,none⟩))] 20)) [(rb,3)] [.int .i64 z0]).heap.size (sets ((w.drewN q).alloc (.cells #[.iface 333 (.pointer (some ⟨rb,3,none⟩))] 20)) [(rb,3)] [.int .i64 z0]) w2:=by rw[hsz];exact hub
 have b1:Below w0.heap.size w0 (sets ((w.drewN q).alloc (.cells #[.iface 333 (.pointer (some ⟨rb,3,none⟩))] 20)) [(rb,3)] [.int .i64 z0]):=(hb0.trans (hbB.mono hb0.size)).trans (sets_below _ _ _ _ (fun t ht=>by simp at ht;first | (subst ht;exact h.lo) | (rcases ht with rfl | rfl <;> exact h.lo)))
 refine⟨rfl,b1.trans (hub2.mono b1.size),z0,fun h0=>(fun s hs=>by have:=huv h0 0 1 s _ rfl hs rfl;unfold valOf at this;rw[if_neg (by decide)] at this;exact(Value.int.inj this).2),h.lo,h.nil,row_below hub2 ?_⟩;simp only[sets,World.setCell,Array.getElem?_modify,hrow];simp[rdRow]
set_option maxHeartbeats 2000000 in
set_option maxRecDepth 100000 in
theorem take_k0 (A:Nat->Addr)(w0 w:World)(rb:Nat)(c:CfgD)(last:Int)(sa:Option Addr)(ws:List ByteArray)(wb wo wc:Nat)(hs:Sen6 A w0)(hb0:Below w0.heap.size w0 w)(h:RdN w0.heap.size rb w c last)(hW:WordsAt w sa ws wb wo) :
  Calls Tryz.prog 219 #[.pointer (some ⟨rb,0,none⟩),.int .i64 0,.slice sa ws.length wc] w fun v w'=>v=.returned (errV A (fillV (lookL (lastPts c.ents)) false (form 0) (ws.map bl)).1)/\Below w0.heap.size w0 w'/\((fillV (lookL (lastPts c.ents)) false (form 0) (ws.map bl)).1=0->RdS w0.heap.size rb w' (updC c 0 (ws.map bl) (fillV (lookL (lastPts c.ents)) false (form 0) (ws.map bl)).2) last):=by
 have HP:Hid (∀ (zs:List Int),zs=(fillV (lookL []) false [1,1] (ws.map bl)).2->(fillV (lookL (lastPts c.ents)) false (form 0) (ws.map bl)).2=zs):=fun zs hz=>by rw[hz,h.nil];rfl
 have HF:Hid ((fillV (lookL (lastPts c.ents)) false (form 0) (ws.map bl)).1=(fillV (lookL []) false [1,1] (ws.map bl)).1):=by show _=_;rw[h.nil];rfl
 have H:Hid _:=fill_k0 A w0 w rb c last sa ws wb wo wc hs hb0 h hW;clear h hW hs hb0;go_enter Tryz.func219,Tryz.ntmps219
 go_upto_region 3 with fail
 go_region_held3 (fun _=>True) (exact trivial) (first | (go_at_call 262;refine Calls.mono (H.out _) ?_;rintro v w2 ⟨rfl,hb2,z0,z1,hv,hr⟩))
 all_goals
  have HV:Hid _:=hv;have HB2:Hid (Below w0.heap.size w0 w2):=hb2;have HR2:Hid (RdN w0.heap.size rb w2 ⟨z0,z1,c.cycle,c.delay,c.ents⟩ last):=hr;clear hv hb2 hr;go_wp2;go_ret
  refine⟨by rw[HF.out];rfl,HB2.out,fun h0=>Or.inl ?_⟩;rw[HF.out] at h0;obtain⟨hl,-,hd⟩:=fillR_vals _ _ h0;obtain⟨s0,q0⟩:=word_get (i:=0) (by simpa using hl) (by decide);obtain⟨s1,q1⟩:=word_get (i:=1) (by simpa using hl) (by decide);show RdN _ _ _ (CfgD.mk _ _ _ _ _) _
  rw[HP.out _ rfl,getD_of (hd 0 1 (bl s0) rfl (by rw[List.getElem?_map,q0];rfl)),getD_of (hd 1 1 (bl s1) rfl (by rw[List.getElem?_map,q1];rfl)),<- (HV.out h0).1 s0 q0,<- (HV.out h0).2 s1 q1];exact HR2.out
set_option maxHeartbeats 2000000 in
set_option maxRecDepth 100000 in
theorem take_k1 (A:Nat->Addr)(w0 w:World)(rb:Nat)(c:CfgD)(last:Int)(sa:Option Addr)(ws:List ByteArray)(wb wo wc:Nat)(hs:Sen6 A w0)(hb0:Below w0.heap.size w0 w)(h:RdN w0.heap.size rb w c last)(hW:WordsAt w sa ws wb wo) :
  Calls Tryz.prog 219 #[.pointer (some ⟨rb,0,none⟩),.int .i64 1,.slice sa ws.length wc] w fun v w'=>v=.returned (errV A (fillV (lookL (lastPts c.ents)) false (form 1) (ws.map bl)).1)/\Below w0.heap.size w0 w'/\((fillV (lookL (lastPts c.ents)) false (form 1) (ws.map bl)).1=0->RdS w0.heap.size rb w' (updC c 1 (ws.map bl) (fillV (lookL (lastPts c.ents)) false (form 1) (ws.map bl)).2) last):=by
 have HP:Hid (∀ (zs:List Int),zs=(fillV (lookL []) false [1] (ws.map bl)).2->(fillV (lookL (lastPts c.ents)) false (form 1) (ws.map bl)).2=zs):=fun zs hz=>by rw[hz,h.nil];rfl
 have HF:Hid ((fillV (lookL (lastPts c.ents)) false (form 1) (ws.map bl)).1=(fillV (lookL []) false [1] (ws.map bl)).1):=by show _=_;rw[h.nil];rfl
 have H:Hid _:=fill_k1 A w0 w rb c last sa ws wb wo wc hs hb0 h hW;clear h hW hs hb0;go_enter Tryz.func219,Tryz.ntmps219
 go_wp2_with fail
 refine Calls.mono (H.out 0) ?_;rintro v w2 ⟨rfl,hb2,z0,hv,hr⟩;have HV:Hid _:=hv;have HB2:Hid (Below w0.heap.size w0 w2):=hb2;have HR2:Hid (RdN w0.heap.size rb w2 ⟨c.closed,c.opn,z0,c.delay,c.ents⟩ last):=hr;clear hv hb2 hr;go_wp2;go_ret
 refine⟨by rw[HF.out];rfl,HB2.out,fun h0=>Or.inl ?_⟩;rw[HF.out] at h0;obtain⟨hl,-,hd⟩:=fillR_vals _ _ h0;obtain⟨s0,q0⟩:=word_get (i:=0) (by simpa using hl) (by decide);show RdN _ _ _ (CfgD.mk _ _ _ _ _) _
 rw[HP.out _ rfl,getD_of (hd 0 1 (bl s0) rfl (by rw[List.getElem?_map,q0];rfl)),<- HV.out h0 s0 q0];exact HR2.out
set_option maxHeartbeats 2000000 in
set_option maxRecDepth 100000 in
theorem take_k2 (A:Nat->Addr)(w0 w:World)(rb:Nat)(c:CfgD)(last:Int)(sa:Option Addr)(ws:List ByteArray)(wb wo wc:Nat)(hs:Sen6 A w0)(hb0:Below w0.heap.size w0 w)(h:RdN w0.heap.size rb w c last)(hW:WordsAt w sa ws wb wo) :
  Calls Tryz.prog 219 #[.pointer (some ⟨rb,0,none⟩),.int .i64 2,.slice sa ws.length wc] w fun v w'=>v=.returned (errV A (fillV (lookL (lastPts c.ents)) false (form 2) (ws.map bl)).1)/\Below w0.heap.size w0 w'/\((fillV (lookL (lastPts c.ents)) false (form 2) (ws.map bl)).1=0->RdS w0.heap.size rb w' (updC c 2 (ws.map bl) (fillV (lookL (lastPts c.ents)) false (form 2) (ws.map bl)).2) last):=by
 have HP:Hid (∀ (zs:List Int),zs=(fillV (lookL []) false [1] (ws.map bl)).2->(fillV (lookL (lastPts c.ents)) false (form 2) (ws.map bl)).2=zs):=fun zs hz=>by rw[hz,h.nil];rfl
 have HF:Hid ((fillV (lookL (lastPts c.ents)) false (form 2) (ws.map bl)).1=(fillV (lookL []) false [1] (ws.map bl)).1):=by show _=_;rw[h.nil];rfl
 have H:Hid _:=fill_k2 A w0 w rb c last sa ws wb wo wc hs hb0 h hW;clear h hW hs hb0;go_enter Tryz.func219,Tryz.ntmps219
 go_wp2_with fail
 refine Calls.mono (H.out 0) ?_;rintro v w2 ⟨rfl,hb2,z0,hv,hr⟩;have HV:Hid _:=hv;have HB2:Hid (Below w0.heap.size w0 w2):=hb2;have HR2:Hid (RdN w0.heap.size rb w2 ⟨c.closed,c.opn,c.cycle,z0,c.ents⟩ last):=hr;clear hv hb2 hr;go_wp2;go_ret
 refine⟨by rw[HF.out];rfl,HB2.out,fun h0=>Or.inl ?_⟩;rw[HF.out] at h0;obtain⟨hl,-,hd⟩:=fillR_vals _ _ h0;obtain⟨s0,q0⟩:=word_get (i:=0) (by simpa using hl) (by decide);show RdN _ _ _ (CfgD.mk _ _ _ _ _) _
 rw[HP.out _ rfl,getD_of (hd 0 1 (bl s0) rfl (by rw[List.getElem?_map,q0];rfl)),<- HV.out h0 s0 q0];exact HR2.out
set_option maxHeartbeats 2000000 in
set_option maxRecDepth 100000 in
theorem take_k3 (A:Nat->Addr)(w0 w:World)(rb:Nat)(c:CfgD)(last:Int)(sa:Option Addr)(ws:List ByteArray)(wb wo wc:Nat)(hs:Sen6 A w0)(hb0:Below w0.heap.size w0 w)(h:RdS w0.heap.size rb w c last)(hW:WordsAt w sa ws wb wo)(hn:c.ents.length<=1000000) :
  Calls Tryz.prog 219 #[.pointer (some ⟨rb,0,none⟩),.int .i64 3,.slice sa ws.length wc] w fun v w'=>v=.returned (errV A (fillV (lookL (lastPts c.ents)) false (form 3) (ws.map bl)).1)/\Below w0.heap.size w0 w'/\((fillV (lookL (lastPts c.ents)) false (form 3) (ws.map bl)).1=0->RdS w0.heap.size rb w' (updC c 3 (ws.map bl) (fillV (lookL (lastPts c.ents)) false (form 3) (ws.map bl)).2) last):=by
 have HF:Hid (fillV (lookL (lastPts c.ents)) false (form 3) (ws.map bl)=fillV (lookL []) false [0,1] (ws.map bl)):=fillV_any _ _ _ (by simp[form]);obtain⟨ev,mv,cells,hA⟩:∃ ev mv cells,RdA w0.heap.size rb w c last ev mv c.ents cells:=by
  rcases h with h | ⟨L,g,cap,mb,es,e,x,cells,he,h,hL⟩
  ·have h2:=h.toA;rw[<- h.nil] at h2;exact⟨_,_,_,h2⟩
  ·have h2:=h.toA hL;rw[<- he] at h2;exact⟨_,_,_,h2⟩
 have H:Hid _:=entityR_at A w0 w rb c last ev mv c.ents cells sa ws wb wo wc hs hb0 hA hW hn;clear h hA hW hs hb0;go_enter Tryz.func219,Tryz.ntmps219
 go_wp2_with fail
 refine Calls.mono H.out ?_;rintro v w2 ⟨rfl,hb2,nm,z,L,g,cap,mb,hv,hr,hL⟩;have HV:Hid _:=hv;have HB2:Hid (Below w0.heap.size w0 w2):=hb2;have HR2:Hid (RdE w0.heap.size rb L g cap mb w2 c last c.ents (newR nm z) nilX cells/\L<=w2.heap.size):=⟨hr,hL⟩;clear hv hb2 hr hL;go_wp2;go_ret
 refine⟨by rw[HF.out];rfl,HB2.out,fun h0=>Or.inr ⟨L,g,cap,mb,c.ents,newR nm z,nilX,cells,?_,?_,HR2.out.2⟩⟩
 ·rw[HF.out] at h0 ⊢;obtain⟨hl,-,hd⟩:=fillR_vals _ _ h0;obtain⟨s0,q0⟩:=word_get (i:=0) (by simpa using hl) (by decide);obtain⟨s1,q1⟩:=word_get (i:=1) (by simpa using hl) (by decide);obtain⟨v0,v1⟩:=HV.out h0;have e1:(ws.map bl).getD 0 []=bl s0:=by rw[List.getD_eq_getElem?_getD,List.getElem?_map,q0];rfl
  show c.ents++[newEnt _ _]=_
  rw[getD_of (hd 1 1 (bl s1) rfl (by rw[List.getElem?_map,q1];rfl)),e1,<- v1 s1 q1,v0 s0 q0];unfold newEnt newR;rw[show (⟨(bl s0).toArray⟩:ByteArray)=s0 from bl_inj (bl_mk _)]
 ·exact⟨⟨HR2.out.1.lo,HR2.out.1.loL,HR2.out.1.lom,HR2.out.1.row,HR2.out.1.ents,HR2.out.1.clen,HR2.out.1.olds,HR2.out.1.new,HR2.out.1.fl⟩,HR2.out.1.map⟩
set_option maxHeartbeats 4000000 in
set_option maxRecDepth 100000 in
theorem take_part (k:Nat)(A:Nat->Addr)(w0 w:World)(rb:Nat)(c:CfgD)(last:Int)(sa:Option Addr)(ws:List ByteArray)(wb wo wc:Nat)(hs:Sen6 A w0)(hb0:Below w0.heap.size w0 w)(hk:4<=k)(hk2:k < 10)(L g cap mb:Nat)(es:List EntD)(e:EntD)(x:PV5)(cells:List Value)(he:c.ents=es++[e])(h:RdE w0.heap.size rb L g cap mb w c last es e x cells)(hL:L<=w.heap.size)(hW:WordsAt w sa ws wb wo)(hn:es.length<=1000000)(hsz:SzE 1000000 e) :
  Calls Tryz.prog 219 #[.pointer (some ⟨rb,0,none⟩),.int .i64 (k:Int),.slice sa ws.length wc] w fun v w'=>v=.returned (errV A (fillV (lookL (lastPts c.ents)) false (form k) (ws.map bl)).1)/\Below w0.heap.size w0 w'/\((fillV (lookL (lastPts c.ents)) false (form k) (ws.map bl)).1=0->RdS w0.heap.size rb w' (updC c k (ws.map bl) (fillV (lookL (lastPts c.ents)) false (form k) (ws.map bl)).2) last):=by
 have HE:Hid (c.ents=es++[e]):=he;have HK:Hid (4<=k):=hk;have HF:Hid (lastPts c.ents=e.pts):=by show _=_;rw[he,lastPts_snocR]
 have H:Hid (∀ q,Calls Tryz.prog 264 #[.pointer (some ⟨rb,0,none⟩),.pointer (some ⟨g,es.length*10,none⟩),.int .i64 (k:Int),.slice sa ws.length wc] (w.drewN q) _):=fun q=>part_any A w0 (w.drewN q) rb L g cap mb k c last es e x cells sa ws wb wo wc hs (below_drewN hb0 q) (h.below (below_drewN (Below.refl _ _) q)) hL (hW.below (below_drewN (Below.refl _ _) q)) hsz hk hk2
 have c4:w.cell? ⟨rb,4,none⟩=some (.slice (some ⟨g,0,none⟩) (es.length+1) cap):=by have:=h.row;simp[World.cell?,this,rdRow]
 obtain⟨m,hm⟩:∃ m,m=es.length:=⟨_,rfl⟩;have HM:Hid (es.length=m):=hm.symm;rw[<- hm] at c4 hn;have q0:(0:Int)<=(m:Int):=by omega
 have q1:(m:Int) < (m:Int)+1:=by omega
 have q2:IntKind.i64.wrap ((m:Int)+1 - 1)=m:=by rw[IntKind.wrap_i64];omega
 have q3:IntKind.i64.wrap (m:Int)=m:=by rw[IntKind.wrap_i64];omega
 have q5:¬(m:Int) < 0:=by omega
 rw[<- hm] at H;clear hm;have k0:¬(k:Int)=0:=by omega
 have k1:¬(k:Int)=1:=by omega
 have k2:¬(k:Int)=2:=by omega
 have k3:¬(k:Int)=3:=by omega
 clear h hW hs hb0 he hL hsz hk hk2;go_enter Tryz.func219,Tryz.ntmps219
 go_upto_region 10 with fail
 go_region_held3 (fun w'=>w'.cell? ⟨rb,4,none⟩=some (.slice (some ⟨g,0,none⟩) (m+1) cap)) (first | exact c4 | exact hc4) (first | (go_at_call 264;refine Calls.mono (H.out _) ?_;rintro v w2 ⟨rfl,hb2,hc4,hr⟩))
 all_goals
  have HB2:Hid (Below w0.heap.size w0 w2):=hb2;have HR2:Hid _:=hr;clear hb2 hr H c4;go_wp2;go_ret
  refine⟨by rw[HF.out];rfl,HB2.out,fun h0=>?_⟩;rw[HF.out] at h0 ⊢;obtain⟨x',h1,h2⟩:=HR2.out h0;have hu:updC c k (ws.map bl) (fillV (lookL e.pts) false (form k) (ws.map bl)).2=⟨c.closed,c.opn,c.cycle,c.delay,es++[updE k (ws.map bl) (fillV (lookL e.pts) false (form k) (ws.map bl)).2 e]⟩:=by
   rw[<- updLast_snoc,<- HE.out]
   match k,HK.out with
   | k+4,_=>rfl
  rw[hu];exact Or.inr ⟨L,g,cap,mb,es,_,x',cells,rfl,⟨⟨h1.lo,h1.loL,h1.lom,h1.row,h1.ents,h1.clen,h1.olds,h1.new,h1.fl⟩,h1.map⟩,h2⟩
theorem take_any (A:Nat->Addr)(w0 w:World)(rb k:Nat)(c:CfgD)(last:Int)(sa:Option Addr)(ws:List ByteArray)(wb wo wc:Nat)(hs:Sen6 A w0)(hb0:Below w0.heap.size w0 w)(h:RdS w0.heap.size rb w c last)(hW:WordsAt w sa ws wb wo)(hk:k < 10)(hA:k<=2->c.ents=[])(hB:4<=k->c.ents≠[])(hn:c.ents.length<=1000000)(hz:∀ e∈c.ents,SzE 1000000 e) :
  Calls Tryz.prog 219 #[.pointer (some ⟨rb,0,none⟩),.int .i64 (k:Int),.slice sa ws.length wc] w fun v w'=>v=.returned (errV A (fillV (lookL (lastPts c.ents)) false (form k) (ws.map bl)).1)/\Below w0.heap.size w0 w'/\((fillV (lookL (lastPts c.ents)) false (form k) (ws.map bl)).1=0->RdS w0.heap.size rb w' (updC c k (ws.map bl) (fillV (lookL (lastPts c.ents)) false (form k) (ws.map bl)).2) last):=by
 have none_of:c.ents=[]->RdN w0.heap.size rb w c last:=fun he=>by
  rcases h with h | ⟨L,g,cap,mb,es,e,x,cells,he2,-⟩
  ·exact h
  ·rw[he] at he2;simp at he2
 match k,hk with
 | 0,_=>exact take_k0 A w0 w rb c last sa ws wb wo wc hs hb0 (none_of (hA (by decide))) hW
 | 1,_=>exact take_k1 A w0 w rb c last sa ws wb wo wc hs hb0 (none_of (hA (by decide))) hW
 | 2,_=>exact take_k2 A w0 w rb c last sa ws wb wo wc hs hb0 (none_of (hA (by decide))) hW
 | 3,_=>exact take_k3 A w0 w rb c last sa ws wb wo wc hs hb0 h hW hn
 | k+4,hk=>
  rcases h with h | ⟨L,g,cap,mb,es,e,x,cells,he,h,hL⟩
  ·exact absurd h.nil (hB (by omega))
  ·exact take_part (k+4) A w0 w rb c last sa ws wb wo wc hs hb0 (by omega) hk L g cap mb es e x cells he h hL hW (by rw[he] at hn;simp at hn;omega) (hz e (by rw[he];simp))
theorem RdS.setLast {B rb:Nat}{w:World}{c:CfgD}{last:Int}(h:RdS B rb w c last)(k:Int):RdS B rb (w.setCell ⟨rb,5,none⟩ (.int .i64 k)) c k:=by
 have hg:=grown_cell w rb 5 (.int .i64 k)
 rcases h with h | ⟨L,g,cap,mb,es,e,x,cells,he,h,hL⟩
 ·refine Or.inl ⟨h.lo,h.nil,?_⟩;simp only[World.setCell,Array.getElem?_modify,h.row];simp[rdRow]
 ·refine Or.inr ⟨L,g,cap,mb,es,e,x,cells,he,⟨⟨h.lo,h.loL,h.lom,?_,h.ents.kept hg (Or.inr (own_ne h.ents h.row (by decide))),h.clen,fun i e' he'=>?_,h.new.other hg h.row (by decide) (by decide) (by decide) (by decide),h.fl⟩,?_⟩,by simpa[World.setCell] using hL⟩
  ·simp only[World.setCell,Array.getElem?_modify,h.row];simp[rdRow]
  ·obtain⟨x',a,b,d⟩:=h.olds i e' he';exact⟨x',a.other hg h.row (by decide) (by decide) (by decide) (by decide),b,d⟩
  ·obtain⟨D,a,b⟩:=h.map
   refine⟨D,a.kept hg ?_,b⟩;intro e2;obtain⟨es',cl,a1,-⟩:=a;simp only[Option.some.injEq] at e2;rw[e2,h.row] at a1
   cases a1
theorem RdS.c5 {B rb:Nat}{w:World}{c:CfgD}{last:Int}(h:RdS B rb w c last):w.cell? ⟨rb,5,none⟩=some (.int .i64 last)/\w.frozen? ⟨rb,5,none⟩=false/\B<=rb:=by
 rcases h with h | ⟨L,g,cap,mb,es,e,x,cells,he,h,hL⟩
 ·exact⟨by simp[World.cell?,h.row,rdRow],by simp[World.frozen?,h.row],h.lo⟩
 ·exact⟨by simp[World.cell?,h.row,rdRow],by simp[World.frozen?,h.row],h.lo⟩
theorem RdS.below {B rb:Nat}{w w':World}{c:CfgD}{last:Int}(h:RdS B rb w c last)(hb:Below w.heap.size w w'):RdS B rb w' c last:=by
 rcases h with h | ⟨L,g,cap,mb,es,e,x,cells,he,h,hL⟩
 ·exact Or.inl ⟨h.lo,h.nil,row_below hb h.row⟩
 ·exact Or.inr ⟨L,g,cap,mb,es,e,x,cells,he,h.below hb,Nat.le_trans hL hb.size⟩
def MxAt (w:World):Prop:=∃ m:Int,w.cell? ⟨14,0,none⟩=some (.int .i64 m)
theorem MxAt.below {w w':World}(h:MxAt w)(hb:Below w.heap.size w w'):MxAt w':=h.elim fun m hm=>⟨m,cell_below hb hm⟩
theorem split_at (s sep:ByteArray)(w:World)(h:MxAt w)(hs:s.size < 4294967281)(h1:1<=sep.size) :
  Calls Tryz.prog 103 #[.string s,.string sep] w fun e w'=>e=.returned (.slice (some ⟨w.heap.size,0,none⟩) (Lib.countB s sep+1) (Lib.countB s sep+1))/\w'=w.alloc (.cells ((Lib.splitB sep 0 (Lib.countB s sep) s).map Value.string).toArray 9):=by
 obtain⟨m,hm⟩:=h;exact Any.strings_Split { Tryz.laysM146 with } Tryz.laysM146.i9 s sep m w hs hm h1
theorem words_of (s sep:ByteArray)(hsep:sep.data.toList=[32]):∃ (h:ByteArray) (t:List ByteArray),Lib.splitB sep 0 (Lib.countB s sep) s=h :: t/\cutBy 32 (bl s)=bl h :: t.map bl/\t.length=Lib.countB s sep:=by
 have e:=splitB_one 32 s sep hsep;have hl:=Lib.splitB_all sep (by rw[<- ByteArray.size_data,<- Array.length_toList,hsep];decide) 0 _ s rfl
 cases hc:Lib.splitB sep 0 (Lib.countB s sep) s with
 | nil=>rw[hc] at hl;simp at hl
 | cons h t=>
  rw[hc] at e hl;exact⟨h,t,rfl,by show cutBy 32 s.data.toList=_;rw[<- e];rfl,by simpa using hl⟩
theorem cut_sizes (c:UInt8):∀ (l:List UInt8),(∀ x∈cutBy c l,x.length<=l.length)/\(cutBy c l).length<=l.length+1
 | []=>by simp[cutBy]
 | b :: t=>by
  obtain⟨h1,h2⟩:=cut_sizes c t;unfold cutBy
  split
  ·refine⟨fun x hx=>?_,by simp;omega⟩;simp only[List.mem_cons] at hx
   rcases hx with rfl | hx
   ·simp
   ·have:=h1 x hx;simp;omega
  ·split
   ·exact⟨fun x hx=>by simp at hx;subst hx;simp,by simp⟩
   ·rename_i hh rr hc;rw[hc] at h1 h2
    refine⟨fun x hx=>?_,by simp at h2 ⊢;omega⟩;simp only[List.mem_cons] at hx
    rcases hx with rfl | hx
    ·have:=h1 hh (by simp);simp;omega
    ·have:=h1 x (by simp[hx]);simp;omega
theorem cut_size (c:UInt8)(l x:List UInt8)(h:x∈cutBy c l):x.length<=l.length:=(cut_sizes c l).1 x h
structure StOk (n:Nat)(c:CfgD)(last:Int):Prop where
 e0:last<=1->c.ents=[]
 e3:3<=last->c.ents≠[]
 len:c.ents.length<=n
 sz:∀ e∈c.ents,SzE n e
set_option maxHeartbeats 4000000 in
set_option maxRecDepth 100000 in
theorem lineR_at (A:Nat->Addr)(w0 w:World)(rb:Nat)(c:CfgD)(last:Int)(l:ByteArray)(hs:Sen6 A w0)(hK:KwAt w0)(hM:MxAt w0)(hb0:Below w0.heap.size w0 w)(h:RdS w0.heap.size rb w c last)(hl:l.size<=1000000)(hO:StOk 1000000 c last) :
  Calls Tryz.prog 162 #[.pointer (some ⟨rb,0,none⟩),.string l] w fun v w'=>v=.returned (errV A (lineR lookL ⟨last,c⟩ (bl l)).1)/\Below w0.heap.size w0 w'/\((lineR lookL ⟨last,c⟩ (bl l)).1=0->RdS w0.heap.size rb w' (lineR lookL ⟨last,c⟩ (bl l)).2.cfg (lineR lookL ⟨last,c⟩ (bl l)).2.last):=by
 obtain⟨hd,tl,hsp,hcut,htl⟩:=words_of l ⟨#[32]⟩ rfl;have HS:Hid (Sen6 A w0/\KwAt w0/\Below w0.heap.size w0 w):=⟨hs,hK,hb0⟩;have HR:Hid (RdS w0.heap.size rb w c last):=h;have HO:Hid (StOk 1000000 c last):=hO;have HSp:Hid (Calls Tryz.prog 103 #[.string l,.string ⟨#[32]⟩] w fun e w'=>e=.returned (.slice (some ⟨w.heap.size,0,none⟩) (tl.length+1) (tl.length+1))/\w'=w.alloc (.cells ((hd :: tl).map Value.string).toArray 9)):=by
  have:=split_at l ⟨#[32]⟩ w (hM.below hb0) (by omega) (by decide);rw[hsp,<- htl] at this;exact this
 have HLine:Hid (lineR lookL ⟨last,c⟩ (bl l)=lineW lookL ⟨last,c⟩ (bl hd) (tl.map bl)):=by show _=_;unfold lineR;rw[hcut]
 have HSz:Hid (∀ s∈hd :: tl,s.size<=1000000):=fun s hs=>by
  have h1:bl s∈cutBy 32 (bl l):=by rw[hcut];exact List.mem_map_of_mem (f:=bl) hs
  have h2:=cut_size 32 _ _ h1;have h3:(bl s).length=s.size:=by simp[bl]
  have h4:(bl l).length=l.size:=by simp[bl]
  omega
 have HTl:Hid (tl.length<=1000000):=by
  show _<=_
  have h1:=(cut_sizes 32 (bl l)).2;rw[hcut] at h1;have h4:(bl l).length=l.size:=by simp[bl]
  simp at h1
  omega
 clear hs hK hM hb0 h hO hsp hcut htl;rw[HLine.out];go_enter Tryz.func162,Tryz.ntmps162
 go_wp2_with fail
 refine Calls.mono HSp.out ?_;rintro v w1 ⟨rfl,hw1⟩;have HB1:Hid (Below w.heap.size w w1):=by show Below _ _ _;rw[hw1];exact Below.one _ _
 have HC1:Hid (w1.heap[w.heap.size]?=some (.cells ((hd :: tl).map Value.string).toArray 9 (0,0))):=by show _=_;rw[hw1];exact heap_alloc_new w _
 clear hw1 HSp;have x0:w1.cell? ⟨w.heap.size,0,none⟩=some (.string hd):=by simp[World.cell?,HC1.out]
 have HR1:Hid (RdS w0.heap.size rb w1 c last):=HR.out.below HB1.out;have HBw:Hid (Below w0.heap.size w0 w1):=HS.out.2.2.trans (HB1.out.mono HS.out.2.2.size);have sen:=(HS.out.1.below HBw.out).c0;have n1:(0:Int) < (tl.length:Int)+1:=by omega
 have n2:(1:Int)<=(tl.length:Int)+1:=by omega
 go_wp2_with fail
 refine(kindOf_at hd w1 (HS.out.2.1.below HBw.out (block_lt (HS.out.2.1 0 (by decide))))).mono ?_;rintro v w2 ⟨rfl,rfl⟩;rename World=>w1
 cases hk:kindOf (bl hd) with
 | none=>
  have hkv:kindV (bl hd)=-1:=by unfold kindV;rw[hk]
  have HL:Hid (lineW lookL ⟨last,c⟩ (bl hd) (tl.map bl)=(1,⟨last,c⟩)):=by show _=_;unfold lineW;rw[hk]
  rw[hkv];clear hkv hk;go_wp2;go_ret;exact⟨by rw[HL.out];rfl,HBw.out,fun h0=>by rw[HL.out] at h0;simp at h0⟩
 | some k=>
  have hkv:kindV (bl hd)=k:=by unfold kindV;rw[hk]
  have k10:=(kindOf_some hk).2;have c5:=HR1.out.c5;obtain⟨c5,f5,-⟩:=c5;rw[hkv];have kn:¬(k:Int)=-1:=by omega
  cases hm:may last k
  ·have HL:Hid (lineW lookL ⟨last,c⟩ (bl hd) (tl.map bl)=(1,⟨last,c⟩)):=by show _=_;unfold lineW;rw[hk];simp only;rw[if_pos hm]
   clear hkv hk;go_wp2_with fail
   refine(mayStand_at rb last k w1 k10 c5).mono ?_;rintro v w2 ⟨rfl,rfl⟩;rename World=>w1
   rw[hm];go_wp2;go_ret;exact⟨by rw[HL.out];rfl,HBw.out,fun h0=>by rw[HL.out] at h0;simp at h0⟩
  ·have HL:Hid (lineW lookL ⟨last,c⟩ (bl hd) (tl.map bl)=if (fillV (lookL (lastPts c.ents)) false (form k) (tl.map bl)).1=0 then (0,⟨k,updC c k (tl.map bl) (fillV (lookL (lastPts c.ents)) false (form k) (tl.map bl)).2⟩) else ((fillV (lookL (lastPts c.ents)) false (form k) (tl.map bl)).1,⟨last,c⟩)):=by show _=_;unfold lineW;rw[hk];simp only;rw[if_neg (by rw[hm];simp)]
   have HM:Hid (may last k=true):=hm;have HK:Hid (k < 10):=k10;clear hkv hk;go_wp2_with fail
   refine(mayStand_at rb last k w1 k10 c5).mono ?_;rintro v w2 ⟨rfl,rfl⟩;rename World=>w1
   rw[hm];have HWd:Hid (∀ sa,(tl≠[]->sa=some ⟨w.heap.size,1,none⟩)->WordsAt (w1.setCell ⟨rb,5,none⟩ (.int .i64 (k:Int))) sa tl w.heap.size 1):=fun sa hsa=>by
    have hne:rb≠w.heap.size:=by
     have:rb < w.heap.size:=by
      rcases HR.out with h | ⟨L,g,cap,mb,es,e,x,cells,he,h,hL⟩
      ·exact lt_of_row h.row
      ·exact lt_of_row h.row
     omega
    have hrow:(w1.setCell ⟨rb,5,none⟩ (.int .i64 (k:Int))).heap[w.heap.size]?=some (.cells ((hd :: tl).map Value.string).toArray 9 (0,0)):=by
     simp only[World.setCell,Array.getElem?_modify];rw[if_neg hne];exact HC1.out
    refine⟨⟨_,_,hrow⟩,hsa,fun i s hi=>?_,fun s hs=>HSz.out s (by simp[hs]),HTl.out⟩;simp[World.cell?,hrow,hi,Nat.add_comm 1 i]
   have HTk:Hid (∀ sa wc,(tl≠[]->sa=some ⟨w.heap.size,1,none⟩)->Calls Tryz.prog 219 #[.pointer (some ⟨rb,0,none⟩),.int .i64 (k:Int),.slice sa tl.length wc] (w1.setCell ⟨rb,5,none⟩ (.int .i64 (k:Int))) _):=fun sa wc hsa=>take_any A w0 (w1.setCell ⟨rb,5,none⟩ (.int .i64 (k:Int))) rb k c k sa tl w.heap.size 1 wc HS.out.1 (HBw.out.setCell (p:=⟨rb,5,none⟩) HR1.out.c5.2.2 _) (HR1.out.setLast k) (HWd.out sa hsa) HK.out (fun hk=>HO.out.e0 (by have:=HM.out;unfold may at this;rw[if_pos hk] at this;simp at this;omega)) (fun hk=>HO.out.e3 (by
    have:=HM.out;unfold may at this;rw[if_neg (by omega),if_neg (by omega)] at this
    split at this
    ·simp at this;omega
    ·simp at this;omega)) HO.out.len HO.out.sz
   by_cases ht:tl=[]
   ·subst ht;clear HWd;go_wp2_with fail
    refine Calls.mono (HTk.out _ _ (fun h=>absurd rfl h)) ?_;rintro v w3 ⟨rfl,hb3,hr3⟩;have HB3:Hid (Below w0.heap.size w0 w3):=hb3;have HR3:Hid _:=hr3;clear hb3 hr3 HTk;go_wp2;go_ret
    refine⟨?_,HB3.out,fun h0=>?_⟩
    ·rw[HL.out]
     split
     ·rename_i h0;rw[List.map_nil] at h0;show Ending.returned (errV A _)=_;rw[h0]
     ·rfl
    ·rw[HL.out] at h0 ⊢
     split at h0
     ·rename_i h1;rw[if_pos h1];exact HR3.out h1
     ·rename_i h1;exact absurd h0 h1
   ·have t0:0 < tl.length:=by
     rcases Nat.eq_zero_or_pos tl.length with h | h
     ·exact absurd (List.eq_nil_of_length_eq_zero h) ht
     ·exact h
    have t1:(0:Int) < (tl.length:Int):=by omega
    have t2:¬tl.length=0:=by omega
    clear HWd;go_wp2_with fail
    refine Calls.mono (HTk.out _ _ (fun _=>rfl)) ?_;rintro v w3 ⟨rfl,hb3,hr3⟩;have HB3:Hid (Below w0.heap.size w0 w3):=hb3;have HR3:Hid _:=hr3;clear hb3 hr3 HTk;go_wp2;go_ret
    refine⟨?_,HB3.out,fun h0=>?_⟩
    ·rw[HL.out]
     split
     ·rename_i h0;show Ending.returned (errV A _)=_;rw[h0]
     ·rfl
    ·rw[HL.out] at h0 ⊢
     split at h0
     ·rename_i h1;rw[if_pos h1];exact HR3.out h1
     ·rename_i h1;exact absurd h0 h1
end Go.Proofs.YtffpcbdlbcjihadGreatDoor
namespace Go.Proofs.YtffpcbdlbcjihadGreatDoor
open Go.RowKit Go.Extern.Stop Go.Stop Go.Extern
theorem conf_len {c:CfgD}(h0:(cfgErr c).1=0):(confText c).length<=400001000:=by
 have h1:=ents_len h0;have hok:=okC_of h0;have a1:=num_len (n:=c.closed) (by have:=hok.closed.2;omega);have a2:=num_len (n:=c.opn) (by have:=hok.opn.2;omega);have a3:=num_len (n:=c.cycle) (by have:=hok.cycle.2;omega);have a4:=num_len (n:=c.delay) (by have:=hok.delay.2;omega);unfold confText confLines;rw[List.flatMap_cons,List.flatMap_cons,List.flatMap_cons];generalize List.flatMap (fun l=>l++[10]) (List.flatMap entLines c.ents)=E at h1 ⊢;simp[kwLine,kw]
 omega
section
variable {A:Nat->Addr}{F:Nat->Prop}{w0 w w':World}{c:CfgD}{kb bc:Nat}{K:KSt}
set_option maxHeartbeats 2000000 in
set_option maxRecDepth 100000 in
theorem configT_at (sa:Option Addr)(sc:Nat)(hs:Sen6 A w)(hK:KwAt w)(hT:TabAt w)(hM:MxAt w)(hG:(max 12 13+1)<=w.heap.size)(hE:EntsAt w (.slice sa c.ents.length sc) c.ents)(hS:SmallC c)(h0:(cfgErr c).1=0) :
  Calls Tryz.prog 78 #[.agg (plRow c kb bc (.slice sa c.ents.length sc))] w fun e w'=>e=.returned (.tuple #[.string ⟨(cfgT c).toArray⟩,.nilIface])/\Below w.heap.size w w':=by
 obtain⟨W,hW,hb,-⟩:=pl_box w c kb bc (.slice sa c.ents.length sc);have hrow:W.heap[w.heap.size]?=some (.cells (plRow c kb bc (.slice sa c.ents.length sc)) 66 (0,0)):=by rw[hW];exact heap_alloc_new _ _
 unfold plRow at hrow;have x2:W.cell? ⟨w.heap.size,2,none⟩=some (.int .i64 c.closed):=by simp[World.cell?,hrow]
 have x3:W.cell? ⟨w.heap.size,3,none⟩=some (.int .i64 c.opn):=by simp[World.cell?,hrow]
 have x4:W.cell? ⟨w.heap.size,4,none⟩=some (.int .i64 c.cycle):=by simp[World.cell?,hrow]
 have x5:W.cell? ⟨w.heap.size,5,none⟩=some (.int .i64 c.delay):=by simp[World.cell?,hrow]
 have x6:W.cell? ⟨w.heap.size,6,none⟩=some (.slice sa c.ents.length sc):=by simp[World.cell?,hrow]
 have HX:Hid _:=text_right A c sa sc W (hs.below hb) (hK.below hb (block_lt (hK 0 (by decide)))) (hT.below hb hG) (Nat.le_trans hG hb.size) (hE.below hb) hS h0;have hlen:=conf_len h0;obtain⟨s,hsd⟩:∃ s:ByteArray,s=⟨(confText c).toArray⟩:=⟨_,rfl⟩;have hsb:s.data.toList=confText c:=by rw[hsd]
 rw[<- hsd] at HX;have hss:s.size<=400001000:=by rw[show s.size=s.data.toList.length from by simp,hsb];exact hlen
 obtain⟨t,ht⟩:∃ t:ByteArray,t=⟨(Lib.trimSuffix s.data.toList [10]).toArray⟩:=⟨_,rfl⟩;have htb:t.data.toList=Lib.trimSuffix (confText c) [10]:=by rw[ht,hsb]
 have hts:t.size<=400001000:=by
  rw[show t.size=t.data.toList.length from by simp,htb];unfold Lib.trimSuffix
  split
  ·rw[List.length_take];omega
  ·exact hlen
 have HTr:Hid (∀ V:World,Calls Tryz.prog 104 #[.string s,.string ⟨#[10]⟩] V fun e w'=>e=.returned (.string t)/\w'=V):=fun V=>by
  rw[ht];exact Tryz.strings_TrimSuffix s ⟨#[10]⟩ V (by omega)
 have HRp:Hid (∀ V:World,Below w.heap.size w V->Calls Tryz.prog 127 #[.string t,.string ⟨#[10]⟩,.string ⟨#[59,32]⟩] V fun e w'=>e=.returned (.string ⟨(cfgT c).toArray⟩)/\Below V.heap.size V w'):=fun V hV=>by
  obtain⟨m,hm⟩:=hM.below hV;have h5:=Lib.countB_mul_le ⟨#[10]⟩ (by decide) t.size t (Nat.le_refl _);have:=Tryz.strings_ReplaceAll t ⟨#[10]⟩ ⟨#[59,32]⟩ m V (by omega) hm (by decide) (by
   rw[show (⟨#[10]⟩:ByteArray).size=1 from rfl,Nat.mul_one] at h5;rw[show (⟨#[59,32]⟩:ByteArray).size=2 from rfl];omega)
  rw[htb] at this;exact this
 have HB:Hid _:=hb;clear hs hK hT hM hG hE hS h0 hsd hsb ht htb hss hts hlen hb hrow;unfold plRow at hW ⊢;go_enter Tryz.func78,Tryz.ntmps78
 go_upto_region 1 with fail
 rw[<- hW];clear hW;go_wp2_with fail
 refine Calls.mono HX.out ?_;rintro e w1 ⟨rfl,hb1⟩;have HB1:Hid (Below w.heap.size w w1):=HB.out.trans (hb1.mono HB.out.size);have HRp1:Hid _:=HRp.out w1 HB1.out;have HTr1:Hid _:=HTr.out w1;clear hb1 HX HRp HTr x2 x3 x4 x5 x6;go_wp2_with fail
 refine Calls.mono HTr1.out ?_;rintro e wr ⟨rfl,rfl⟩;go_wp2_with fail
 refine Calls.mono HRp1.out ?_;rintro e w2 ⟨rfl,hb2⟩;go_wp2;go_ret2
 exact⟨rfl,HB1.out.trans (hb2.mono HB1.out.size)⟩
end
section
variable {A:Nat->Addr}{H:Nat->Nat->Prop}{w0 w w':World}{c:CfgD}{kb bc bd:Nat}{rv tv lv:Value}{bs:List Nat}{s:CSt}{d:DSt}{ls:List LSt}
set_option maxHeartbeats 1000000 in
theorem ke_renew_no (h:KeHd H w0 w c kb bc bd rv tv lv bs s d ls)(hs:SenK A w0)(hsm:¬153<=s.size) :
  Calls Tryz.prog 107 #[.pointer (some ⟨kb,0,none⟩)] w fun e w'=>e=.returned (errVal A 2)/\Below w.heap.size w w':=by
 have c2:w.cell? ⟨kb,2,none⟩=some (.pointer (some ⟨bc,0,none⟩)):=h.cell 2 _ rfl;have HX:Hid (Calls Tryz.prog 166 #[.pointer (some ⟨bc,0,.none⟩)] w fun e w'=>e=.returned (.tuple #[.pointer .none,.iface 400 (.pointer (some (A 1)))])/\Below w.heap.size w w'):=
  open_no A bc s 1 w h.cells (hs.below h.bel).four (by unfold CSt.err;rw[if_pos (by omega)])
 clear h hs hsm;go_enter Tryz.func107,Tryz.ntmps107
 go_wp2_with fail
 refine Calls.mono HX.out ?_;rintro u w1 ⟨rfl,hb1⟩;have HB1:Hid _:=hb1;clear hb1 HX c2;go_wp2;go_ret;exact⟨rfl,HB1.out⟩
end
end Go.Proofs.YtffpcbdlbcjihadGreatDoor
