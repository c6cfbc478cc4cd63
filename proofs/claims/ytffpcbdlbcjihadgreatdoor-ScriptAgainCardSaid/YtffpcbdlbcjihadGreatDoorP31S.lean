/-
  Several texts as one: CfREnt, CfRPoint, CfRPoint2, CfRAny.
-/
import Derived.Test.YtffpcbdlbcjihadGreatDoorP30S
namespace Go.Proofs.YtffpcbdlbcjihadGreatDoor
open Go.RowKit Go.Extern.Stop Go.Stop Go.Extern Go.Maps
structure RdA (B rb:Nat)(w:World)(c:CfgD)(last:Int)(ev mv:Value)(es:List EntD)(cells:List Value):Prop where
 lo:B<=rb
 row:w.heap[rb]?=some (.cells (rdRow c ev last mv) 234 (0,0))
 ents:w.ownsRow B 83 10 ev es.length cells
 olds:∀ (i:Nat) e',es[i]?=some e'->∃ x',OwnX B w e' x'/\LtX w.heap.size x'/\∀ (j:Nat) u,(x'.row e')[j]?=some u->cells[i*10+j]?=some u
theorem LtX.mono {L L':Nat}{x:PV5}(h:LtX L x)(hl:L<=L'):LtX L' x:=⟨fun b hb=>Nat.lt_of_lt_of_le (h.p b hb) hl,fun b hb=>Nat.lt_of_lt_of_le (h.g b hb) hl,fun b hb=>Nat.lt_of_lt_of_le (h.e b hb) hl,fun b hb=>Nat.lt_of_lt_of_le (h.f b hb) hl,fun b hb=>Nat.lt_of_lt_of_le (h.l b hb) hl⟩
theorem RdN.toA {B rb:Nat}{w:World}{c:CfgD}{last:Int}(h:RdN B rb w c last):RdA B rb w c last (.slice none 0 0) (.map none) [] []:=⟨h.lo,h.row,World.ownsRow_nil _ _ _ _,fun i e' he=>by simp at he⟩
theorem RdE.toA {B rb L g cap mb:Nat}{w:World}{c:CfgD}{last:Int}{es:List EntD}{e:EntD}{x:PV5}{cells:List Value}(h:RdE B rb L g cap mb w c last es e x cells)(hL:L<=w.heap.size):RdA B rb w c last (.slice (some ⟨g,0,none⟩) (es.length+1) cap) (.map (some mb)) (es++[e]) (cells++(x.row e).toList):=by
 refine⟨h.lo,h.row,by rw[List.length_append];exact h.ents,fun i e' he=>?_⟩
 rcases Nat.lt_or_ge i es.length with hi | hi
 ·rw[List.getElem?_append_left hi] at he;obtain⟨x',a,b,d⟩:=h.olds i e' he
  refine⟨x',a,b.mono hL,fun j u hu=>?_⟩;have:=d j u hu;have hlt:i*10+j < cells.length:=by
   rcases Nat.lt_or_ge (i*10+j) cells.length with h' | h'
   ·exact h'
   ·rw[List.getElem?_eq_none h'] at this;cases this
  rw[List.getElem?_append_left hlt];exact this
 ·rw[List.getElem?_append_right hi] at he;have h0:i=es.length:=by
   rcases Nat.eq_zero_or_pos (i - es.length) with h' | h'
   ·omega
   ·rw[List.getElem?_eq_none (by simp;omega)] at he;cases he
  subst h0;simp at he
  subst he
  refine⟨x,h.new.weak h.loL,h.new.ltx,fun j u hu=>?_⟩;rw[List.getElem?_append_right (by rw[h.clen];omega),h.clen,Nat.add_sub_cancel_left,Array.getElem?_toList];exact hu
theorem RdA.below {B rb:Nat}{w w':World}{c:CfgD}{last:Int}{ev mv:Value}{es:List EntD}{cells:List Value}(h:RdA B rb w c last ev mv es cells)(hb:Below w.heap.size w w'):RdA B rb w' c last ev mv es cells:=
 ⟨h.lo,row_below hb h.row,h.ents.kept (row:=none) ⟨hb.os,hb.tape,hb.output,hb.size,fun k hk _=>hb.block k hk⟩ (by by_cases e:ev.ownBlock=none;exact Or.inl e;exact Or.inr e),fun i e' he=>by
  obtain⟨x',a,b,d⟩:=h.olds i e' he;exact⟨x',OwnParts.below a hb,b.mono hb.size,d⟩⟩
theorem OwnX.grown {B B' n:Nat}{w w':World}{e:EntD}{x:PV5}{v:Value}{xs:List Value}(h:OwnX B w e x)(ho:w.ownsRow B' 83 10 v n xs)(hg:w.grownBy w' v.ownBlock):OwnX B w' e x:=by
 rcases ho.2 with ⟨rfl,_⟩ | ⟨g,cap,cur,rfl,_,hg',_⟩
 ·have em:∀ o:Option Nat,o=none\/o≠(Value.slice none 0 0).ownBlock:=fun o=>by by_cases e:o=none;exact Or.inl e;exact Or.inr e
  exact h.kept hg (em _) (em _) (em _) (em _) (em _)
 ·exact h.other hg hg' (by decide) (by decide) (by decide) (by decide)
def nilX:PV5:=⟨.slice none 0 0,.slice none 0 0,.slice none 0 0,.slice none 0 0,.slice none 0 0⟩
def newR (nm:ByteArray)(z:Int):EntD:=⟨nm,z,[],-1,0,0,[],[],[],[]⟩
theorem newR_own (B:Nat)(w:World)(nm:ByteArray)(z:Int):OwnX B w (newR nm z) nilX:=⟨World.ownsRow_nil _ _ _ _,World.ownsRow_nil _ _ _ _,World.ownsRow_nil _ _ _ _,World.ownsRow_nil _ _ _ _,World.ownsRow_nil _ _ _ _⟩
theorem newE_one (nm:ByteArray)(z:Int):∀ u∈(nilX.row (newR nm z)).toList,u.oneCell'=true:=by
 intro u hu;simp[PV5.row,entRow,nilX,newR] at hu
 rcases hu with rfl | rfl | rfl | rfl | rfl | rfl <;> rfl
theorem rdE_new {B rb g cap H:Nat}{w V w8:World}{c:CfgD}{last:Int}{ev mv:Value}{es:List EntD}{cells:List Value}{nm:ByteArray}{z:Int}(h:RdA B rb V c last ev mv es cells)(hw:RdA B rb w c last ev mv es cells)(hB:B<=w.heap.size)(hBV:Below w.heap.size w V)
  (hg:V.grownBy w8 ev.ownBlock) (ho:w8.ownsRow B 83 10 (.slice (some ⟨g,0,none⟩) (es.length+1) cap) (es.length+1) (cells++(nilX.row (newR nm z)).toList)) (hH:H=w8.heap.size) :
  RdE B rb w.heap.size g cap H (((w8.setCell ⟨rb,4,none⟩ (.slice (some ⟨g,0,none⟩) (es.length+1) cap)).alloc (.map #[] 0)).setCell ⟨rb,6,none⟩ (.map (some H))) c last es (newR nm z) nilX cells:=by
 have hrow8:w8.heap[rb]?=some (.cells (rdRow c ev last mv) 234 (0,0)):=(hg.block rb (lt_of_row h.row) (fun e2=>own_ne h.ents h.row (by decide) e2.symm)).trans h.row;have hsz:V.heap.size<=w8.heap.size:=hg.size;have hrlt:=lt_of_row hrow8;have hrowA:(w8.setCell ⟨rb,4,none⟩ (.slice (some ⟨g,0,none⟩) (es.length+1) cap)).heap[rb]?=some (.cells (rdRow c (.slice (some ⟨g,0,none⟩) (es.length+1) cap) last mv) 234 (0,0)):=by
  simp only[World.setCell,Array.getElem?_modify,hrow8];simp[rdRow]
 have g1:=grown_cell w8 rb 4 (.slice (some ⟨g,0,none⟩) (es.length+1) cap);obtain⟨A1,hA1⟩:∃ A1,A1=w8.setCell ⟨rb,4,none⟩ (.slice (some ⟨g,0,none⟩) (es.length+1) cap):=⟨_,rfl⟩;rw[<- hA1] at hrowA g1 ⊢;have hs1:A1.heap.size=H:=by rw[hA1,hH];simp[World.setCell]
 have b2:Below A1.heap.size A1 (A1.alloc (.map #[] 0)):=Below.one _ _;have g3:=grown_cell (A1.alloc (.map #[] 0)) rb 6 (.map (some H));have hrowB:=row_below b2 hrowA;obtain⟨A2,hA2⟩:∃ A2,A2=A1.alloc (.map #[] 0):=⟨_,rfl⟩;have hmap:A2.ownsMap Tryz.prog 9 (plainElem Tryz.prog 3) H 0 (.map []:DataW Unit):=by rw[hA2,<- hs1];exact World.ownsMap_made A1 _ _ _
 rw[<- hA2] at b2 g3 hrowB ⊢;have hHrb:rb≠H:=by omega
 have keepX:∀ {e:EntD} {x:PV5},OwnX B w8 e x->OwnX B (A2.setCell ⟨rb,6,none⟩ (.map (some H))) e x:=fun hx=>
  OwnX.other (OwnParts.below (hx.other g1 hrow8 (by decide) (by decide) (by decide) (by decide)) b2) g3 hrowB (by decide) (by decide) (by decide) (by decide)
 refine⟨⟨h.lo,hB,by have:=hBV.size;omega,?_,?_,?_,fun i e' he=>?_,newR_own _ _ _ _,Or.inl rfl⟩,?_⟩
 ·simp only[World.setCell,Array.getElem?_modify,hrowB];simp[rdRow]
 ·have o1:=ho.kept g1 (Or.inr (own_ne ho hrow8 (by decide)));have o2:A2.ownsRow B 83 10 (.slice (some ⟨g,0,none⟩) (es.length+1) cap) (es.length+1) (cells++(nilX.row (newR nm z)).toList):=o1.kept (row:=none) ⟨b2.os,b2.tape,b2.output,b2.size,fun k hk _=>b2.block k hk⟩ (Or.inr (by simp[Value.ownBlock]));exact o2.kept g3 (Or.inr (own_ne o2 hrowB (by decide)))
 ·exact h.ents.1
 ·obtain⟨x',a,b,d⟩:=hw.olds i e' he;exact⟨x',keepX (OwnX.grown (OwnParts.below a hBV) h.ents hg),b,d⟩
 ·refine⟨.map [],?_,ptsMap_nil⟩;exact hmap.kept g3 (by simp;exact fun e2=>hHrb e2.symm)
set_option maxHeartbeats 4000000 in
set_option maxRecDepth 100000 in
theorem entityR_at (A:Nat->Addr)(w0 w:World)(rb:Nat)(c:CfgD)(last:Int)(ev mv:Value)(es:List EntD)(cells:List Value)(sa:Option Addr)(ws:List ByteArray)(wb wo wc:Nat)(hs:Sen6 A w0)(hb0:Below w0.heap.size w0 w)(h:RdA w0.heap.size rb w c last ev mv es cells)(hW:WordsAt w sa ws wb wo)(hn:es.length<=1000000) :
  Calls Tryz.prog 263 #[.pointer (some ⟨rb,0,none⟩),.slice sa ws.length wc] w fun v w'=>v=.returned (errV A (fillV (lookL []) false [0,1] (ws.map bl)).1)/\Below w0.heap.size w0 w'/\∃ (nm:ByteArray) (z:Int) (L g cap mb:Nat),((fillV (lookL []) false [0,1] (ws.map bl)).1=0->(∀ s,ws[0]?=some s->nm=s)/\(∀ s,ws[1]?=some s->z=(wordV (lookL []) 1 (bl s)).2))/\RdE w0.heap.size rb L g cap mb w' c last es (newR nm z) nilX cells/\L<=w'.heap.size:=by
 obtain⟨i0,hi,hz0,hz1,hz2⟩:=info_parts Tryz.infoEnt;obtain⟨va,vc,rfl⟩:=own_formR h.ents;have HS:Hid (Sen6 A w0/\Below w0.heap.size w0 w):=⟨hs,hb0⟩;have HR:Hid (RdA w0.heap.size rb w c last (.slice va es.length vc) mv es cells):=h;have HW:Hid (WordsAt w sa ws wb wo):=hW;have hmm:=@run_makeMap Tryz.prog;clear hs hb0 h hW;go_enter Tryz.func263,Tryz.ntmps263
 go_upto_region 2 with fail
 obtain⟨W1,hW1⟩:∃ V,V=w.alloc (.cells #[.string ⟨#[]⟩,.int .i64 0,.slice none 0 0,.int .i64 (-1),.int .i64 0,.int .i64 0,.slice none 0 0,.slice none 0 0,.slice none 0 0,.slice none 0 0] 83):=⟨_,rfl⟩;rw[<- hW1];have HB1:Hid (Below w.heap.size w W1):=by show Below _ _ _;rw[hW1];exact Below.one _ _
 have HZ1:Hid (W1.heap.size=w.heap.size+1):=by show _=_;rw[hW1];simp
 have HE1:Hid (W1.heap[w.heap.size]?=some (.cells #[.string ⟨#[]⟩,.int .i64 0,.slice none 0 0,.int .i64 (-1),.int .i64 0,.int .i64 0,.slice none 0 0,.slice none 0 0,.slice none 0 0,.slice none 0 0] 83 (0,0))):=by show _=_;rw[hW1];exact heap_alloc_new w _
 clear hW1;have HFI:Hid (FillIn w0 rb [] [0,1] [(w.heap.size,0),(w.heap.size,1)] ws wb wo W1.heap.size (W1.alloc (.cells #[.iface 366 (.pointer (some ⟨w.heap.size,0,none⟩)),.iface 333 (.pointer (some ⟨w.heap.size,1,none⟩))] 20))):=by
  have hbB:=Below.one W1 (.cells #[.iface 366 (.pointer (some ⟨w.heap.size,0,none⟩)),.iface 333 (.pointer (some ⟨w.heap.size,1,none⟩))] 20);have hlt:=HW.out.lt;have hz:=HZ1.out;have hrb:=lt_of_row HR.out.row;have hsz:=HS.out.2.size;have k:=row_below hbB HE1.out
  refine⟨HS.out.2.trans ((HB1.out.trans (hbB.mono HB1.out.size)).mono hsz),rfl,by simp,by simp,?_,?_,by simp,?_,fun i s hi=>cell_below hbB (cell_below HB1.out (HW.out.wrd i s hi)),HW.out.sz,fun h2=>by simp at h2⟩
  ·intro i f t hf ht
   match i,hf,ht with
   | 0,hf,ht=>
    simp at hf ht
    subst hf ht;exact⟨⟨.string ⟨#[]⟩,by simp[World.cell?,k],⟨⟨#[]⟩,rfl,by decide⟩⟩,by simp[World.frozen?,k]⟩
   | 1,hf,ht=>
    simp at hf ht
    subst hf ht;exact⟨⟨.int .i64 0,by simp[World.cell?,k],⟨0,rfl⟩⟩,by simp[World.frozen?,k]⟩
   | i+2,hf,_=>simp at hf
  ·intro t ht;simp only[List.mem_cons,List.not_mem_nil,or_false] at ht
   rcases ht with rfl | rfl
   all_goals exact⟨by simp only[];omega,fun e2=>by have:=(Prod.mk.inj e2).1;omega,by simp only[];omega,by simp only[];omega⟩
  ·intro i f t hf ht
   match i,hf,ht with
   | 0,hf,ht=>
    simp at hf ht
    subst hf ht;rw[World.cell?_alloc_at _ _ _ _ rfl];rfl
   | 1,hf,ht=>
    simp at hf ht
    subst hf ht;rw[World.cell?_alloc_at _ _ _ _ rfl];rfl
   | i+2,hf,_=>simp at hf
 go_wp2_with fail
 refine(fillR_at A w0 _ rb [] [0,1] [(w.heap.size,0),(w.heap.size,1)] ws sa wb wo wc W1.heap.size HS.out.1 HFI.out HW.out.sa HW.out.few).mono ?_;rintro v w2 ⟨rfl,us,hul,hut,huv,hub⟩;obtain⟨u0,u1,rfl⟩:∃ u0 u1,us=[u0,u1]:=by
  match us,hul with
  | [u0,u1],_=>exact⟨u0,u1,rfl⟩
 obtain⟨nm,rfl,-⟩:∃ s:ByteArray,u0=.string s/\s.size<=1000000:=hut 0 0 u0 rfl rfl;obtain⟨z,rfl⟩:∃ z:Int,u1=.int .i64 z:=hut 1 1 u1 rfl rfl;have HV:Hid ((fillV (lookL []) false [0,1] (ws.map bl)).1=0->(∀ s,ws[0]?=some s->nm=s)/\(∀ s,ws[1]?=some s->z=(wordV (lookL []) 1 (bl s)).2)):=fun h0=>⟨(fun s hs=>by have:=huv h0 0 0 s _ rfl hs rfl;unfold valOf at this;rw[if_pos rfl] at this;exact Value.string.inj this),(fun s hs=>by have:=huv h0 1 1 s _ rfl hs rfl;unfold valOf at this;rw[if_neg (by decide)] at this;exact(Value.int.inj this).2)⟩
 have HB2:Hid (Below w.heap.size w w2):=sets_new (HB1.out.trans ((Below.one _ _).mono HB1.out.size)) (fun t ht=>by
  simp only[List.mem_cons,List.not_mem_nil,or_false] at ht
  rcases ht with rfl | rfl
  all_goals exact Nat.le_refl _) hub
 have HE2:Hid (w2.heap[w.heap.size]?=some (.cells #[.string nm,.int .i64 z,.slice none 0 0,.int .i64 (-1),.int .i64 0,.int .i64 0,.slice none 0 0,.slice none 0 0,.slice none 0 0,.slice none 0 0] 83 (0,0))):=by
  show _=_
  have k:=row_below (Below.one W1 (.cells #[.iface 366 (.pointer (some ⟨w.heap.size,0,none⟩)),.iface 333 (.pointer (some ⟨w.heap.size,1,none⟩))] 20)) HE1.out;have k2:(sets (W1.alloc (.cells #[.iface 366 (.pointer (some ⟨w.heap.size,0,none⟩)),.iface 333 (.pointer (some ⟨w.heap.size,1,none⟩))] 20)) [(w.heap.size,0),(w.heap.size,1)] [.string nm,.int .i64 z]).heap[w.heap.size]?=some (.cells #[.string nm,.int .i64 z,.slice none 0 0,.int .i64 (-1),.int .i64 0,.int .i64 0,.slice none 0 0,.slice none 0 0,.slice none 0 0,.slice none 0 0] 83 (0,0)):=by
   simp only[sets,World.setCell,Array.getElem?_modify,k];simp
  refine(hub.block w.heap.size ?_).trans k2;have:=HZ1.out;simp
  omega
 clear hul hut huv hub HFI HE1 HB1 HZ1;have yy:∀ (j:Nat) u,(#[.string nm,.int .i64 z,.slice none 0 0,.int .i64 (-1),.int .i64 0,.int .i64 0,.slice none 0 0,.slice none 0 0,.slice none 0 0,.slice none 0 0]:Array Value)[j]?=some u->w2.cell? ⟨w.heap.size,j,none⟩=some u:=fun j u hu=>by simp[World.cell?,HE2.out,hu]
 have y0:=yy 0 _ rfl;have y1:=yy 1 _ rfl;have y2:=yy 2 _ rfl;have y3:=yy 3 _ rfl;have y4:=yy 4 _ rfl;have y5:=yy 5 _ rfl;have y6:=yy 6 _ rfl;have y7:=yy 7 _ rfl;have y8:=yy 8 _ rfl;have y9:=yy 9 _ rfl;clear yy HE2;have HR2:Hid (RdA w0.heap.size rb w2 c last (.slice va es.length vc) mv es cells):=HR.out.below HB2.out;have c4:w2.cell? ⟨rb,4,none⟩=some (.slice va es.length vc):=by have:=HR2.out.row;simp[World.cell?,this,rdRow]
 have c4':∀ ob,(w2.alloc ob).cell? ⟨rb,4,none⟩=some (.slice va es.length vc):=fun ob=>cell_below (Below.one _ _) c4
 have hown:w2.drew.ownsRow w0.heap.size 83 10 (.slice va es.length vc) es.length cells:=HR2.out.ents;have hLz:w0.heap.size<=w2.heap.size:=Nat.le_trans HS.out.2.size HB2.out.size;have KB:Hid (∀ (ob:Obj) (w8:World),(w2.drew.alloc ob).grownBy w8 (Value.slice va es.length vc).ownBlock->w8.heap[rb]?=some (.cells (rdRow c (.slice va es.length vc) last mv) 234 (0,0))/\Below w0.heap.size w0 w8):=fun ob w8 hg=>by
  have hR3:=HR2.out.below (w':=w2.drew.alloc ob) ((Below.refl w2.heap.size w2).drew.alloc (by simp) ob);have b2:=HS.out.2.trans (HB2.out.mono HS.out.2.size);have b3:Below w0.heap.size w0 (w2.drew.alloc ob):=b2.trans (((Below.refl w2.heap.size w2).drew.alloc (by simp) ob).mono b2.size);exact⟨(hg.block rb (lt_of_row hR3.row) (fun e2=>own_ne hR3.ents hR3.row (by decide) e2.symm)).trans hR3.row,b3.grown hg b3.size (fun k hk=>(hR3.ents.lt k hk).1)⟩
 go_wp2_with fail
 go_region_law (refine step_append_lies _ rfl (.tmp 21) (.tmp 23) 28 rfl w0.heap.size 83 i0 (.agg #[.string ⟨#[]⟩,.int .i64 0,.slice none 0 0,.int .i64 0,.int .i64 0,.int .i64 0,.slice none 0 0,.slice none 0 0,.slice none 0 0,.slice none 0 0]) 10 168 Tryz.underlying28 hi hz0 hz1 hz2 rfl (by decide) (.slice va es.length vc) es.length cells (by simp[Act.eval]) (hown.alloc _) ⟨w2.heap.size,0,.none⟩ 1 1 (nilX.row (newR nm z)).toList (by simp[Act.eval]) rfl (cells_at w2.drew (nilX.row (newR nm z)).toList 83) (newE_one nm z) (by decide) (by unfold maxLen;omega) (by omega) (by simp;omega) (w2.heap.size+1) (by simp) ?_;intro g' cap' w8 hown8 hgrow8 hor hlt8;have r8:=KB.out _ _ hgrow8;have d8:w8.cell? ⟨rb,4,none⟩=some (.slice va es.length vc):=(by simp[World.cell?,r8.1,rdRow]);have d9:w8.frozen? ⟨rb,4,none⟩=false:=(by simp[World.frozen?,r8.1]))
 all_goals
  have HA:Hid (∀ u,(w8.setCell ⟨rb,4,none⟩ u).heap[rb]?=some (.cells (rdRow c u last mv) 234 (0,0))):=fun u=>by
   simp only[World.setCell,Array.getElem?_modify,r8.1];simp[rdRow]
  have HA2:Hid (∀ u,((w8.setCell ⟨rb,4,none⟩ u).alloc (.map #[] 0)).heap[rb]?=some (.cells (rdRow c u last mv) 234 (0,0))):=fun u=>row_below (Below.one _ _) (HA.out u)
  have e6:∀ u,((w8.setCell ⟨rb,4,none⟩ u).alloc (.map #[] 0)).cell? ⟨rb,6,none⟩=some mv:=fun u=>by simp[World.cell?,HA2.out u,rdRow]
  have f6:∀ u,((w8.setCell ⟨rb,4,none⟩ u).alloc (.map #[] 0)).frozen? ⟨rb,6,none⟩=false:=fun u=>by simp[World.frozen?,HA2.out u]
  have H8:Hid (Below w0.heap.size w0 w8):=r8.2;have Hg8:Hid _:=hgrow8;have Ho8:Hid _:=hown8;clear hgrow8 hown8 r8 hor y0 y1 y2 y3 y4 y5 y6 y7 y8 y9 c4' c4;go_wp2;go_ret
  refine⟨rfl,?_,nm,z,w.heap.size,g',cap',w8.heap.size,HV.out,?_,?_⟩
  ·exact((H8.out.setCell (p:=⟨rb,4,none⟩) HR.out.lo _).alloc (by have:=H8.out.size;simp[World.setCell];omega) _).setCell (p:=⟨rb,6,none⟩) HR.out.lo _
  ·exact rdE_new (HR2.out.below ((Below.refl w2.heap.size w2).drew.alloc (by simp) _)) HR.out HS.out.2.size (HB2.out.trans (((Below.refl w2.heap.size w2).drew.alloc (by simp) _).mono HB2.out.size)) Hg8.out Ho8.out rfl
  ·have h1:=Hg8.out.size;have h2:=HB2.out.size;simp[World.setCell] at h1 ⊢
   omega
theorem cell_str (w:World)(q:ByteArray)(T:TypeId):∀ (j:Nat) u,([.string q]:List Value)[j]?=some u->(w.alloc (.cells #[.string q] T)).cell? ((⟨w.heap.size,0,none⟩:Addr).add j)=some u:=by
 intro j u hu
 match j,hu with
 | 0,hu=>
  simp at hu
  subst hu;rw[addC_plain,World.cell?_alloc_at _ _ _ _ rfl];rfl
 | j+1,hu=>simp at hu
set_option maxHeartbeats 8000000 in
set_option maxRecDepth 100000 in
theorem takePoint_at (A:Nat->Addr)(w0 w:World)(rb L g cap mb:Nat)(c:CfgD)(last:Int)(es:List EntD)(e:EntD)(x:PV5)(cells:List Value)(sa:Option Addr)(ws:List ByteArray)(wb wo wc:Nat)(hs:Sen6 A w0)(hb0:Below w0.heap.size w0 w)(h:RdE w0.heap.size rb L g cap mb w c last es e x cells)(hLw:L<=w.heap.size)(hW:WordsAt w sa ws wb wo)(hn:e.pts.length<=1000000) :
  Calls Tryz.prog 297 #[.pointer (some ⟨rb,0,none⟩),.pointer (some ⟨g,es.length*10,none⟩),.slice sa ws.length wc] w fun v w'=>v=.returned (errV A (fillV (lookL e.pts) false [0] (ws.map bl)).1)/\Below w0.heap.size w0 w'/\∃ (q:ByteArray) (x':PV5),((fillV (lookL e.pts) false [0] (ws.map bl)).1=0->∀ s,ws[0]?=some s->q=s)/\RdE w0.heap.size rb L g cap mb w' c last es { e with pts:=e.pts++[q] } x' cells/\L<=w'.heap.size:=by
 obtain⟨i0,hi,hz0,hz1,hz2⟩:=info_parts Tryz.infoOwnp;obtain⟨fa,fc,hxf⟩:=own_formR h.new.hp;obtain⟨o,ho⟩:∃ o,o=es.length*10:=⟨_,rfl⟩;have HO:Hid (o=es.length*10):=ho;have HS:Hid (Sen6 A w0/\Below w0.heap.size w0 w):=⟨hs,hb0⟩;have HR:Hid (RdE w0.heap.size rb L g cap mb w c last es e x cells):=h;have HW:Hid (WordsAt w sa ws wb wo):=hW;have HXf:Hid (x.p=.slice fa e.pts.length fc):=hxf;have HL:Hid (L<=w.heap.size):=hLw;rw[<- ho];clear ho hs hb0 h hW hxf hLw;go_enter Tryz.func297,Tryz.ntmps297
 go_upto_region 2 with fail
 obtain⟨W1,hW1⟩:∃ V,V=w.alloc (.cells #[.string ⟨#[]⟩] 9):=⟨_,rfl⟩;rw[<- hW1];have HB1:Hid (Below w.heap.size w W1):=by show Below _ _ _;rw[hW1];exact Below.one _ _
 have HZ1:Hid (W1.heap.size=w.heap.size+1):=by show _=_;rw[hW1];simp
 have HC1:Hid (W1.cell? ⟨w.heap.size,0,none⟩=some (.string ⟨#[]⟩)/\W1.frozen? ⟨w.heap.size,0,none⟩=false):=by
  refine⟨by rw[hW1,World.cell?_alloc_at _ _ _ _ rfl];rfl,?_⟩;rw[hW1,frozen?_alloc_cells];exact frozen_out w 0 0
 have HFI:Hid (FillIn w0 rb e.pts [0] [(w.heap.size,0)] ws wb wo W1.heap.size (W1.alloc (.cells #[.iface 366 (.pointer (some ⟨w.heap.size,0,none⟩))] 20))):=by
  have hbB:=Below.one W1 (.cells #[.iface 366 (.pointer (some ⟨w.heap.size,0,none⟩))] 20);have hlt:=HW.out.lt;have hz:=HZ1.out;have hrb:=lt_of_row HR.out.row;have hsz:=HS.out.2.size
  refine⟨HS.out.2.trans ((HB1.out.trans (hbB.mono HB1.out.size)).mono hsz),rfl,by simp,by simp,?_,?_,by simp,?_,fun i s hi=>cell_below hbB (cell_below HB1.out (HW.out.wrd i s hi)),HW.out.sz,fun h2=>by simp at h2⟩
  ·intro i f t hf ht
   match i,hf,ht with
   | 0,hf,ht=>
    simp at hf ht
    subst hf ht;exact⟨⟨_,cell_below hbB HC1.out.1,⟨_,rfl,by decide⟩⟩,by rw[frozen_below hbB HC1.out.1];exact HC1.out.2⟩
   | i+1,hf,_=>simp at hf
  ·intro t ht;simp only[List.mem_singleton] at ht;subst ht;exact⟨by show w0.heap.size<=w.heap.size;exact hsz,fun e2=>by have:=(Prod.mk.inj e2).1;omega,by show w.heap.size≠_;omega,by show w.heap.size≠_;omega⟩
  ·intro i f t hf ht
   match i,hf,ht with
   | 0,hf,ht=>
    simp at hf ht
    subst hf ht;rw[World.cell?_alloc_at _ _ _ _ rfl];rfl
   | i+1,hf,_=>simp at hf
 clear hW1;go_wp2_with fail
 refine(fillR_at A w0 _ rb e.pts [0] [(w.heap.size,0)] ws sa wb wo wc W1.heap.size HS.out.1 HFI.out HW.out.sa HW.out.few).mono ?_;rintro v w2 ⟨rfl,us,hul,hut,huv,hub⟩;obtain⟨u,rfl⟩:∃ u,us=[u]:=by
  match us,hul with
  | [u],_=>exact⟨u,rfl⟩
 obtain⟨q,rfl,hq⟩:∃ q:ByteArray,u=.string q/\q.size<=1000000:=hut 0 0 u rfl rfl;have HV:Hid ((fillV (lookL e.pts) false [0] (ws.map bl)).1=0->∀ s,ws[0]?=some s->q=s):=fun h0 s hs=>by
  have:=huv h0 0 0 s _ rfl hs rfl;unfold valOf at this;rw[if_pos rfl] at this;exact Value.string.inj this
 have HB2:Hid (Below w.heap.size w w2):=sets_new (HB1.out.trans ((Below.one _ _).mono HB1.out.size)) (fun t ht=>by simp only[List.mem_singleton] at ht;subst ht;exact Nat.le_refl _) hub;have cp:w2.cell? ⟨w.heap.size,0,none⟩=some (.string q):=by
  have h1:=cell_setSame (u:=.string q) (cell_below (Below.one W1 (.cells #[.iface 366 (.pointer (some ⟨w.heap.size,0,none⟩))] 20)) HC1.out.1);have h2:=hub.cell (p:=⟨w.heap.size,0,none⟩) (by show w.heap.size < _;have:=HZ1.out;simp;omega);exact h2.trans h1
 clear hul hut huv hub HFI HC1;have HR2:Hid (RdE w0.heap.size rb L g cap mb w2 c last es e x cells):=HR.out.below HB2.out;have HLz:Hid (L<=w2.heap.size):=Nat.le_trans HL.out HB2.out.size;have c2:w2.cell? ⟨g,o+2,none⟩=some (.slice fa e.pts.length fc):=by rw[HO.out,<- HXf.out];exact(HR2.out.ewcell (j:=2) rfl).1
 have c6:w2.cell? ⟨rb,6,none⟩=some (.map (some mb)):=HR2.out.mapAt.c6;obtain⟨D,hD,hDp⟩:=HR2.out.map;have hkey:keyOf Tryz.prog 9 (.string q)=some (keyL q):=Go.WideMaps.keyOf_string_mk Tryz.underlying9 (by unfold maxLen;omega);obtain⟨w3,hrun,hown3,hturn⟩:=World.ownsMap.store (w:=w2.drew) (hD:w2.drew.ownsMap _ _ _ _ _ _) Tryz.lawStr Tryz.underlying232 (by unfold maxLen;omega) hkey (plainElem_int Tryz.underlying3 (a:=(e.pts.length:Int)) (by go_wf));have HM:Hid (∃ D:DataW Unit,w3.ownsMap Tryz.prog 9 (plainElem Tryz.prog 3) mb (e.pts.length+1) D/\PtsMap D (e.pts++[q])):=⟨_,hown3,ptsMap_put hDp hD.isMap q⟩;have HT:Hid (w2.drew.grownBy w3 (some mb)):=hturn.grown;have HR3:Hid (RdB w0.heap.size rb L g cap mb w3 c last es e x cells):=by
  obtain⟨ms,cl,h1,h2⟩:=id hD;exact(HR2.out.toRdB.below (w':=w2.drew) (Below.refl w2.heap.size w2).drew).mapped HT.out h1
 clear hown3 hturn hD hDp hkey;go_wp2_with fail
 have HB3:Hid (Below w0.heap.size w0 w3):=((HS.out.2.trans (HB2.out.mono HS.out.2.size)).drew).grown HT.out (by have:=HS.out.2.size;have:=HB2.out.size;show _<=w2.heap.size;omega) (fun k hk=>by cases hk;exact HR3.out.lom);have cs3:w3.cell? ⟨w.heap.size,0,none⟩=some (.string q):=HT.out.cell cp (fun e2=>by
  obtain⟨D',⟨ms,cl,h1,-⟩,-⟩:=HR2.out.map;simp only[Option.some.injEq] at e2;have h3:w2.heap[w.heap.size]?=some (.map ms cl):=by rw[e2];exact h1
  unfold World.cell? at cp;simp only[h3] at cp
  cases cp)
 have HLz3:Hid (L<=w3.heap.size):=Nat.le_trans HLz.out HT.out.size;have hLz:=HLz3.out;have c8:w3.cell? ⟨g,o+2,none⟩=some (.slice fa e.pts.length fc):=by rw[HO.out,<- HXf.out];exact(HR3.out.ewcell (j:=2) rfl).1
 have hown:w3.drew.ownsRow L 9 1 (.slice fa e.pts.length fc) e.pts.length (e.pts.flatMap encS):=by rw[<- HXf.out];exact HR3.out.new.hp
 have KB:Hid (∀ (ob:Obj) (w8:World),(w3.drew.alloc ob).grownBy w8 (Value.slice fa e.pts.length fc).ownBlock->w8.cell? ⟨g,o+2,none⟩=some (.slice fa e.pts.length fc)/\w8.frozen? ⟨g,o+2,none⟩=false):=fun ob w8 hg=>by
  have hR4:=HR3.out.below (w':=w3.drew.alloc ob) ((Below.refl w3.heap.size w3).drew.alloc (by simp) ob);obtain⟨cur,hc,-⟩:=hR4.grow;rw[<- HXf.out] at hg ⊢;rw[HO.out];have e1:=(hg.block g (lt_of_row hc) (fun e2=>own_ne hR4.new.hp hc (by decide) e2.symm));have h2:=hR4.ewcell (j:=2) (u:=x.p) rfl;exact⟨(World.cell?_of_block e1).trans h2.1,by have:=h2.2;unfold World.frozen? at this ⊢;simp only at this ⊢;rw[e1];exact this⟩
 have c8':∀ ob,(w3.alloc ob).cell? ⟨g,o+2,none⟩=some (.slice fa e.pts.length fc):=fun ob=>cell_below (Below.one _ _) c8
 go_region
 all_goals
  clear hrun c2 c6 cp;go_wp2_with fail
  go_region_law (refine step_append_lies _ rfl (.tmp 28) (.tmp 30) 22 rfl L 9 i0 (.string ⟨#[]⟩) 1 16 Tryz.underlying22 hi hz0 hz1 hz2 rfl (by decide) (.slice fa e.pts.length fc) e.pts.length (e.pts.flatMap encS) (by simp[Act.eval]) (hown.alloc _) ⟨w3.heap.size,0,.none⟩ 1 1 [.string q] (by simp[Act.eval]) rfl (cell_str w3.drew q 9) (encS_one q) (by decide) (by unfold maxLen;omega) (by omega) (by simp;omega) (w3.heap.size+1) (by simp) ?_;intro g' cap' w8 hown8 hgrow8 hor hlt8;have r8:=KB.out _ _ hgrow8;have d1:=r8.1;have d2:=r8.2)
 all_goals
  go_wp2;go_ret
  refine⟨rfl,?_,q,{ x with p:=.slice (some ⟨g',0,none⟩) (e.pts.length+1) cap' },HV.out,?_,?_⟩
  ·obtain⟨cur,-,hB⟩:=HR3.out.grow;have b4:Below w0.heap.size w0 (w3.drew.alloc (.cells #[.string q] 9)):=HB3.out.trans (((Below.refl w3.heap.size w3).drew.alloc (by simp) _).mono HB3.out.size);rw[<- HXf.out] at hgrow8;exact(b4.grown hgrow8 b4.size (fun k hk=>Nat.le_trans HR3.out.loL (HR3.out.new.hp.lt k hk).1)).setCell (p:=⟨g,_,none⟩) hB _
  ·rw[HO.out];obtain⟨D',m1,m2⟩:=HM.out;exact(HR3.out.below (w':=w3.drew.alloc _) ((Below.refl w3.heap.size w3).drew.alloc (by simp) _)).appPts q ⟨D',m1.drew.alloc _,m2⟩ (by rw[HXf.out];exact hgrow8) hown8
  ·have h1:=hgrow8.size;have h2:=HLz3.out;simp[World.setCell] at h1 ⊢
   omega
set_option maxHeartbeats 4000000 in
set_option maxRecDepth 100000 in
theorem part_pts (A:Nat->Addr)(w0 w:World)(rb L g cap mb:Nat)(c:CfgD)(last:Int)(es:List EntD)(e:EntD)(x:PV5)(cells:List Value)(sa:Option Addr)(ws:List ByteArray)(wb wo wc:Nat)(hs:Sen6 A w0)(hb0:Below w0.heap.size w0 w)(h:RdE w0.heap.size rb L g cap mb w c last es e x cells)(hLw:L<=w.heap.size)(hW:WordsAt w sa ws wb wo)(hn:e.pts.length<=1000000) :
  Calls Tryz.prog 264 #[.pointer (some ⟨rb,0,none⟩),.pointer (some ⟨g,es.length*10,none⟩),.int .i64 4,.slice sa ws.length wc] w fun v w'=>v=.returned (errV A (fillV (lookL e.pts) false [0] (ws.map bl)).1)/\Below w0.heap.size w0 w'/\∃ (q:ByteArray) (x':PV5),((fillV (lookL e.pts) false [0] (ws.map bl)).1=0->∀ s,ws[0]?=some s->q=s)/\RdE w0.heap.size rb L g cap mb w' c last es { e with pts:=e.pts++[q] } x' cells/\L<=w'.heap.size:=by
 have hb1:Below w.heap.size w ((w.alloc (.cells #[.int .i64 0] 223)).alloc (.cells #[.int .i64 0] 223)):=(Below.one _ _).alloc (by simp) _;have HC:Hid _:=takePoint_at A w0 _ rb L g cap mb c last es e x cells sa ws wb wo wc hs (hb0.trans (hb1.mono hb0.size)) (h.below hb1) (Nat.le_trans hLw hb1.size) (hW.below hb1) hn;generalize es.length*10=o at HC ⊢;clear hs hb0 h hLw hW hn hb1;go_enter Tryz.func264,Tryz.ntmps264
 go_wp2_with fail
 refine Calls.mono HC.out ?_;rintro v w2 ⟨rfl,h1,h2⟩;have H1:Hid (Below w0.heap.size w0 w2):=h1;have H2:Hid _:=h2;clear h1 h2;go_wp2;go_ret;exact⟨rfl,H1.out,H2.out⟩
theorem fillR_vals {look:Bs->Option Nat}:∀ (fs:List Nat) (ws:List Bs),(fillV look false fs ws).1=0->ws.length=fs.length/\(fillV look false fs ws).2.length=fs.length/\∀ (i:Nat) f w,fs[i]?=some f->ws[i]?=some w->(fillV look false fs ws).2[i]?=some (wordV look f w).2
 | [],ws,h=>by
  have:=fill_end h;subst this;exact⟨rfl,rfl,fun i f w hf=>by simp at hf⟩
 | f :: fs,ws,h=>by
  obtain⟨w,ws',rfl,h1,h2,h3⟩:=fill_inv h;obtain⟨a,b,d⟩:=fillR_vals fs ws' h2;rw[h3]
  refine⟨by simp[a],by simp[b],fun i f' w' hf hw=>?_⟩
  cases i with
  | zero=>
   simp at hf hw
   subst hf hw;rfl
  | succ i=>
   simp at hf hw ⊢
   exact d i f' w' hf hw
structure SzE (n:Nat)(e:EntD):Prop where
 p:e.pts.length<=n
 g:e.gaps.length<=n
 d:e.edges.length<=n
 f:e.first.length<=n
 l:e.last.length<=n
theorem SzE.mono {n m:Nat}{e:EntD}(h:SzE n e)(hm:n<=m):SzE m e:=⟨Nat.le_trans h.p hm,Nat.le_trans h.g hm,Nat.le_trans h.d hm,Nat.le_trans h.f hm,Nat.le_trans h.l hm⟩
theorem SzE.upd {n k:Nat}{e:EntD}{ws:List Bs}{vs:List Int}(h:SzE n e):SzE (n+1) (updE k ws vs e):=by
 obtain⟨p,g,ee,f,l⟩:=h;unfold updE
 split
 all_goals exact⟨by simp;omega,by simp;omega,by simp;omega,by simp;omega,by simp;omega⟩
theorem getD_of {vs:List Int}{i:Nat}{z:Int}(h:vs[i]?=some z):vs.getD i 0=z:=by rw[List.getD_eq_getElem?_getD,h];rfl
theorem word_get {ws:List ByteArray}{n i:Nat}(h:ws.length=n)(hi:i < n):∃ s,ws[i]?=some s:=⟨ws[i]'(by omega),List.getElem?_eq_getElem _⟩
theorem RdB.c4 {B rb L g cap mb:Nat}{w:World}{c:CfgD}{last:Int}{es:List EntD}{e:EntD}{x:PV5}{cells:List Value}(h:RdB B rb L g cap mb w c last es e x cells):w.cell? ⟨rb,4,none⟩=some (.slice (some ⟨g,0,none⟩) (es.length+1) cap):=by have:=h.row;simp[World.cell?,this,rdRow]
set_option maxRecDepth 100000 in
theorem part_any (A:Nat->Addr)(w0 w:World)(rb L g cap mb k:Nat)(c:CfgD)(last:Int)(es:List EntD)(e:EntD)(x:PV5)(cells:List Value)(sa:Option Addr)(ws:List ByteArray)(wb wo wc:Nat)(hs:Sen6 A w0)(hb0:Below w0.heap.size w0 w)(h:RdE w0.heap.size rb L g cap mb w c last es e x cells)(hLw:L<=w.heap.size)(hW:WordsAt w sa ws wb wo)(hn:SzE 1000000 e)(hk:4<=k)(hk2:k < 10) :
  Calls Tryz.prog 264 #[.pointer (some ⟨rb,0,none⟩),.pointer (some ⟨g,es.length*10,none⟩),.int .i64 (k:Int),.slice sa ws.length wc] w fun v w'=>v=.returned (errV A (fillV (lookL e.pts) false (form k) (ws.map bl)).1)/\Below w0.heap.size w0 w'/\w'.cell? ⟨rb,4,none⟩=some (.slice (some ⟨g,0,none⟩) (es.length+1) cap)/\((fillV (lookL e.pts) false (form k) (ws.map bl)).1=0->∃ x',RdE w0.heap.size rb L g cap mb w' c last es (updE k (ws.map bl) (fillV (lookL e.pts) false (form k) (ws.map bl)).2 e) x' cells/\L<=w'.heap.size):=by
 match k,hk,hk2 with
 | 4,_,_=>
  refine(part_pts A w0 w rb L g cap mb c last es e x cells sa ws wb wo wc hs hb0 h hLw hW hn.p).mono ?_;rintro v w' ⟨rfl,hb,q,x',hv,hr,hL⟩
  refine⟨rfl,hb,hr.c4,fun h0=>⟨x',?_,hL⟩⟩;obtain⟨hl,-,hd⟩:=fillR_vals _ _ h0;obtain⟨s,hs0⟩:=word_get (i:=0) (by simpa[form] using hl) (by decide);have hq:=hv h0 s hs0;subst hq;have e1:(ws.map bl).getD 0 []=bl q:=by rw[List.getD_eq_getElem?_getD,List.getElem?_map,hs0];rfl
  show RdE _ _ _ _ _ _ _ _ _ _ (EntD.mk _ _ _ _ _ _ _ _ _ _) _ _
  rw[e1,show (⟨(bl q).toArray⟩:ByteArray)=q from bl_inj (bl_mk _)];exact hr
 | 5,_,_=>
  refine(part_count A w0 w rb L g cap mb c last es e x cells sa ws wb wo wc hs hb0 h hLw hW).mono ?_;rintro v w' ⟨rfl,hb,z0,z1,z2,hv,hr,hL⟩
  refine⟨rfl,hb,hr.c4,fun h0=>⟨x,?_,hL⟩⟩;obtain⟨hl,-,hd⟩:=fillR_vals _ _ h0;obtain⟨s0,q0⟩:=word_get (i:=0) (by simpa[form] using hl) (by decide);obtain⟨s1,q1⟩:=word_get (i:=1) (by simpa[form] using hl) (by decide);obtain⟨s2,q2⟩:=word_get (i:=2) (by simpa[form] using hl) (by decide);obtain⟨v0,v1,v2⟩:=hv h0;show RdE _ _ _ _ _ _ _ _ _ _ (EntD.mk _ _ _ _ _ _ _ _ _ _) _ _
  rw[getD_of (hd 0 2 (bl s0) rfl (by rw[List.getElem?_map,q0];rfl)),getD_of (hd 1 1 (bl s1) rfl (by rw[List.getElem?_map,q1];rfl)),getD_of (hd 2 1 (bl s2) rfl (by rw[List.getElem?_map,q2];rfl)),<- v0 s0 q0,<- v1 s1 q1,<- v2 s2 q2];exact hr
 | 6,_,_=>
  refine(part_gaps A w0 w rb L g cap mb c last es e x cells sa ws wb wo wc hs hb0 h hLw hW hn.g).mono ?_;rintro v w' ⟨rfl,hb,z0,z1,z2,z3,x',hv,hr,hL⟩
  refine⟨rfl,hb,hr.c4,fun h0=>⟨x',?_,hL⟩⟩;obtain⟨hl,-,hd⟩:=fillR_vals _ _ h0;obtain⟨s0,q0⟩:=word_get (i:=0) (by simpa[form] using hl) (by decide);obtain⟨s1,q1⟩:=word_get (i:=1) (by simpa[form] using hl) (by decide);obtain⟨s2,q2⟩:=word_get (i:=2) (by simpa[form] using hl) (by decide);obtain⟨s3,q3⟩:=word_get (i:=3) (by simpa[form] using hl) (by decide);obtain⟨v0,v1,v2,v3⟩:=hv h0;show RdE _ _ _ _ _ _ _ _ _ _ (EntD.mk _ _ _ _ _ _ _ _ _ _) _ _
  rw[getD_of (hd 0 2 (bl s0) rfl (by rw[List.getElem?_map,q0];rfl)),getD_of (hd 1 2 (bl s1) rfl (by rw[List.getElem?_map,q1];rfl)),getD_of (hd 2 1 (bl s2) rfl (by rw[List.getElem?_map,q2];rfl)),getD_of (hd 3 1 (bl s3) rfl (by rw[List.getElem?_map,q3];rfl)),<- v0 s0 q0,<- v1 s1 q1,<- v2 s2 q2,<- v3 s3 q3];exact hr
 | 7,_,_=>
  refine(part_edges A w0 w rb L g cap mb c last es e x cells sa ws wb wo wc hs hb0 h hLw hW hn.d).mono ?_;rintro v w' ⟨rfl,hb,z0,z1,x',hv,hr,hL⟩
  refine⟨rfl,hb,hr.c4,fun h0=>⟨x',?_,hL⟩⟩;obtain⟨hl,-,hd⟩:=fillR_vals _ _ h0;obtain⟨s0,q0⟩:=word_get (i:=0) (by simpa[form] using hl) (by decide);obtain⟨s1,q1⟩:=word_get (i:=1) (by simpa[form] using hl) (by decide);obtain⟨v0,v1⟩:=hv h0;show RdE _ _ _ _ _ _ _ _ _ _ (EntD.mk _ _ _ _ _ _ _ _ _ _) _ _
  rw[getD_of (hd 0 2 (bl s0) rfl (by rw[List.getElem?_map,q0];rfl)),getD_of (hd 1 2 (bl s1) rfl (by rw[List.getElem?_map,q1];rfl)),<- v0 s0 q0,<- v1 s1 q1];exact hr
 | 8,_,_=>
  refine(part_first A w0 w rb L g cap mb c last es e x cells sa ws wb wo wc hs hb0 h hLw hW hn.f).mono ?_;rintro v w' ⟨rfl,hb,z0,x',hv,hr,hL⟩
  refine⟨rfl,hb,hr.c4,fun h0=>⟨x',?_,hL⟩⟩;obtain⟨hl,-,hd⟩:=fillR_vals _ _ h0;obtain⟨s0,q0⟩:=word_get (i:=0) (by simpa[form] using hl) (by decide);show RdE _ _ _ _ _ _ _ _ _ _ (EntD.mk _ _ _ _ _ _ _ _ _ _) _ _
  rw[getD_of (hd 0 2 (bl s0) rfl (by rw[List.getElem?_map,q0];rfl)),<- hv h0 s0 q0];exact hr
 | 9,_,_=>
  refine(part_last A w0 w rb L g cap mb c last es e x cells sa ws wb wo wc hs hb0 h hLw hW hn.l).mono ?_;rintro v w' ⟨rfl,hb,z0,x',hv,hr,hL⟩
  refine⟨rfl,hb,hr.c4,fun h0=>⟨x',?_,hL⟩⟩;obtain⟨hl,-,hd⟩:=fillR_vals _ _ h0;obtain⟨s0,q0⟩:=word_get (i:=0) (by simpa[form] using hl) (by decide);show RdE _ _ _ _ _ _ _ _ _ _ (EntD.mk _ _ _ _ _ _ _ _ _ _) _ _
  rw[getD_of (hd 0 2 (bl s0) rfl (by rw[List.getElem?_map,q0];rfl)),<- hv h0 s0 q0];exact hr
 | k+10,_,h10=>exact absurd h10 (by omega)
def RdS (B rb:Nat)(w:World)(c:CfgD)(last:Int):Prop:=RdN B rb w c last\/∃ L g cap mb es e x cells,c.ents=es++[e]/\RdE B rb L g cap mb w c last es e x cells/\L<=w.heap.size
end Go.Proofs.YtffpcbdlbcjihadGreatDoor
