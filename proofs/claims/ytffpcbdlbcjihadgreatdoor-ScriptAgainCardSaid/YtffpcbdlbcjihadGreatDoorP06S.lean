/-
  Several texts as one: RingDel, Offs, RingKeep, RingOps, RingApp, RingAppGo.
-/
import Derived.Test.YtffpcbdlbcjihadGreatDoorP05S
import Derived.Deep.RegionLaw
import Derived.Deep.AppendLies
namespace Go.Proofs.YtffpcbdlbcjihadGreatDoor
open Go.RowKit Go.Extern.Stop Go.Stop Go.Extern
def setFrom (cur:Array Value):Nat->List Value->Array Value
 | _,[]=>cur
 | o,v :: r=>setFrom (cur.setIfInBounds o v) (o+1) r
theorem setFrom_size (vs:List Value):∀ (cur:Array Value) (o:Nat),(setFrom cur o vs).size=cur.size:=by
 induction vs with
 | nil=>intro cur o;rfl
 | cons v r ih=>intro cur o;simp only[setFrom,ih];simp
theorem setFrom_list (vs:List Value):∀ (cur:Array Value) (o:Nat),o+vs.length<=cur.size->(setFrom cur o vs).toList=cur.toList.take o++vs++cur.toList.drop (o+vs.length):=by
 induction vs with
 | nil=>intro cur o h;simp[setFrom]
 | cons y r ih=>
  intro cur o h;simp only[List.length_cons] at h;have e:=ih (cur.setIfInBounds o y) (o+1) (by simp;omega);simp only[setFrom,e,List.length_cons];have hl:o < cur.toList.length:=by simp;omega
  have hset:(cur.setIfInBounds o y).toList=cur.toList.take o++y :: cur.toList.drop (o+1):=by
   rw[Array.toList_setIfInBounds,List.set_eq_take_append_cons_drop,if_pos hl]
  have hlp:(cur.toList.take o).length=o:=by rw[List.length_take];omega
  have e1:o+1 - o=1:=by omega
  have e2:o+1+r.length - o=r.length+1:=by omega
  have e3:o+1+r.length=o+(r.length+1):=by omega
  have t1:(cur.toList.take o++y :: cur.toList.drop (o+1)).take (o+1)=cur.toList.take o++[y]:=by
   rw[List.take_append,hlp,e1,List.take_of_length_le (l:=cur.toList.take o) (by rw[hlp];omega)];rfl
  have t0:(cur.toList.take o).drop (o+1+r.length)=[]:=List.drop_eq_nil_of_le (by rw[hlp];omega);have t2:(cur.toList.take o++y :: cur.toList.drop (o+1)).drop (o+1+r.length)=cur.toList.drop (o+1+r.length):=by
   rw[List.drop_append,hlp,e2,t0,List.drop_succ_cons,List.drop_drop];rfl
  rw[hset,t1,t2,e3];simp
theorem setCells_row {b:Nat}{t:TypeId}:∀ (vs:List Value) (o:Nat) (w:World) (cur:Array Value),w.heap[b]?=some (.cells cur t (0,0))->(w.setCells b o vs).heap[b]?=some (.cells (setFrom cur o vs) t (0,0)):=by
 intro vs
 induction vs with
 | nil=>intro o w cur h;exact h
 | cons v r ih=>
  intro o w cur h;exact ih (o+1) _ _ (by simp only[World.setCell,Array.getElem?_modify,h];simp)
theorem setCells_grown (b:Nat):∀ (vs:List Value) (o:Nat) (w:World),w.grownBy (w.setCells b o vs) (some b):=by
 intro vs
 induction vs with
 | nil=>intro o w;exact grown_refl _ _
 | cons v r ih=>intro o w;exact grown_trans (grown_set (grown_refl _ _) _ _) (ih (o+1) _)
theorem clear_rec (w:World)(g o c:Nat)(hc:∀ j,j < 4->(w.cell? ⟨g,o+j,.none⟩).isSome=true)(hf:∀ j,j < 4->w.frozen? ⟨g,o+j,.none⟩=false) :
  (Builtin.clear_ #[113] 0 #[.slice (some ⟨g,o,.none⟩) 1 c]).run Tryz.prog w=.ok (.tuple #[]) (w.setCells g o Rec.none.list):=by
 have hv:(zeroValue 118).run Tryz.prog w=.ok (.agg #[.int .i64 0,.int .i64 0,.int .i64 0,.int .i64 0]) w:=by kernel_rfl
 have hzc:(Builtin.zeroCells (Value.agg #[.int .i64 0,.int .i64 0,.int .i64 0,.int .i64 0]).cells 1).toList=Rec.none.list:=by kernel_rfl
 have hst:=run_storeCells_cells (P:=Tryz.prog) g o Rec.none.list 0 w (by intro j hj;exact hc j hj) (by intro j hj;exact hf j hj) (list_one _);simp only[Nat.add_zero] at hst;simp[Builtin.clear_,run_underlying Tryz.underlying113,hv,hzc,hst]
set_option maxRecDepth 100000 in
set_option maxHeartbeats 1000000 in
theorem delete_row (g cap:Nat)(x:Rec)(L:List Rec)(w:World)(h:SlRow w g cap (x :: L))(hl:L.length=7)(hc:8<=cap)(hm:cap<=maxLen) :
  Calls Tryz.prog 330 #[.slice (some ⟨g,0,.none⟩) 8 cap,.int .i64 0,.int .i64 1] w fun e w'=>e=.returned (.slice (some ⟨g,0,.none⟩) 7 cap)/\SlRow w' g cap L/\w.grownBy w' (some g):=by
 obtain⟨i0,hi,hz0,hz1,hz2⟩:=Tryz.infoRec;unfold maxLen at hm;have hc1:¬cap=1:=by omega
 have hc2:¬cap=7:=by omega
 have hc3:(8:Int)<=(cap:Int):=by omega
 have s1:Hid ((recCells L).length=7*4):=by show _=_;rw[recCells_length,hl]
 have s2:Hid (∀ u∈recCells L,u.oneCell'=true):=fun u hu=>Array.all_eq_true_iff_forall_mem.1 (recs_one L) u (by simpa using hu)
 have s3:Hid (∀ j u,(recCells L)[j]?=some u->w.drew.cell? ((⟨g,4,.none⟩:Addr).add j)=some u):=fun j u hu=>by
  have e:=h.raw (4+j) u (by rw[recCells_cons,List.getElem?_append_right (by simp[Rec.list])];simpa[Rec.list] using hu);have e1:(⟨g,0,.none⟩:Addr).add (4+j)=(⟨g,4,.none⟩:Addr).add j:=by unfold Addr.add;simp
  rw[e1] at e;exact e
 have s4:Hid (∀ j,j < (recCells L).length->(w.drew.cell? ⟨g,0+0*4+j,.none⟩).isSome=true/\w.drew.frozen? ⟨g,0+0*4+j,.none⟩=false):=fun j hj=>by
  obtain⟨cur,hg,h2,-⟩:=h.row;rw[s1.out] at hj;rw[Nat.zero_mul,Nat.zero_add]
  refine⟨?_,by show w.frozen? _=false;simp[World.frozen?,hg]⟩;show (w.cell? _).isSome=true
  simp only[World.cell?,hg];simp
  omega
 obtain⟨cur,hg,hcs,-⟩:=h.row;have hW1:(w.drew.setCells g 0 (recCells L)).heap[g]?=some (.cells (setFrom cur 0 (recCells L)) 118 (0,0)):=setCells_row _ _ _ _ hg;have hz1':=setFrom_size (recCells L) cur 0;have hcl:=clear_rec (w.drew.setCells g 0 (recCells L)) g 28 (cap - 7) (fun j hj=>by simp only[World.cell?,hW1];simp;omega) (fun j hj=>by simp[World.frozen?,hW1]);have HF:Hid (SlRow ((w.drew.setCells g 0 (recCells L)).setCells g 28 Rec.none.list) g cap L/\w.grownBy ((w.drew.setCells g 0 (recCells L)).setCells g 28 Rec.none.list) (some g)):=by
  refine⟨⟨⟨_,setCells_row _ _ _ _ hW1,by rw[setFrom_size,hz1',hcs],?_⟩⟩,grown_trans (grown_below (grown_refl _ _) ((Below.refl _ _).drew)) (grown_trans (setCells_grown _ _ _ _) (setCells_grown _ _ _ _))⟩;have l28:=s1.out;rw[setFrom_list _ _ _ (by rw[hz1',hcs];simp[Rec.list,Rec.none];omega),setFrom_list _ _ _ (by rw[hcs,l28];omega),hl,List.append_assoc,List.take_append,List.take_zero,List.nil_append];have e:((recCells L++cur.toList.drop (0+(recCells L).length)).take 28)=recCells L:=by
   rw[List.take_append,l28,List.take_of_length_le (by rw[l28];decide)];simp
  rw[e,List.take_of_length_le (by rw[l28];decide),l28];simp
 clear hW1 hz1' hg hcs;go_enter Tryz.func330,Tryz.ntmps330
 go_wp2_with fail
 go_region_law (refine step_append_room rfl (.tmp 22) (.tmp 25) 113 rfl 118 i0 4 Tryz.underlying113 hi hz1 g 0 0 cap (by simp[Act.eval,Act.put]) ⟨g,4,.none⟩ 7 (cap - 1) (recCells L) (by simp[Act.eval,Act.put]) s1.out s3.out s2.out (by omega) s4.out ?_)
 go_wp2;go_ret;exact⟨rfl,HF.out⟩
structure Off (S:Nat->Prop)(w w':World):Prop where
 os:w'.os=w.os
 tape:w'.tape=w.tape
 output:w'.output=w.output
 size:w.heap.size<=w'.heap.size
 block:∀ k,k < w.heap.size->¬S k->w'.heap[k]?=w.heap[k]?
theorem Off.refl (S:Nat->Prop)(w:World):Off S w w:=⟨rfl,rfl,rfl,Nat.le_refl _,fun _ _ _=>rfl⟩
theorem Off.trans {S T:Nat->Prop}{a b c:World}(h:Off S a b)(k:Off T b c)(hT:∀ i,i < a.heap.size->T i->S i):Off S a c:=
 ⟨k.os.trans h.os,k.tape.trans h.tape,k.output.trans h.output,Nat.le_trans h.size k.size,fun i hi hn=>(k.block i (Nat.lt_of_lt_of_le hi h.size) (fun ht=>hn (hT i hi ht))).trans (h.block i hi hn)⟩
theorem Off.of_grown {w w':World}{b:Nat}(h:w.grownBy w' (some b)):Off (fun k=>k=b) w w':=
 ⟨h.os,h.tape,h.output,h.size,fun k hk hn=>h.block k hk (by simpa using hn)⟩
theorem Off.of_below {w w':World}(h:Below w.heap.size w w')(S:Nat->Prop):Off S w w':=⟨h.os,h.tape,h.output,h.size,fun k hk _=>h.block k hk⟩
theorem Off.mono {S T:Nat->Prop}{w w':World}(h:Off S w w')(hT:∀ i,i < w.heap.size->S i->T i):Off T w w':=⟨h.os,h.tape,h.output,h.size,fun k hk hn=>h.block k hk (fun hs=>hn (hT k hk hs))⟩
theorem Off.below {S:Nat->Prop}{B:Nat}{a w w':World}(h:Below B a w)(k:Off S w w')(hB:B<=w.heap.size)(hS:∀ i,S i->B<=i):Below B a w':=
 ⟨k.os.trans h.os,k.tape.trans h.tape,k.output.trans h.output,Nat.le_trans h.size k.size,fun i hi=>(k.block i (by omega) (fun hs=>by have:=hS i hs;omega)).trans (h.block i hi)⟩
def keepL (L:List Rec)(x:Rec):List Rec:=(if L.length=8 then L.tail else L)++[x]
theorem ring_c1 {w:World}{rb:Nat}{a v s:Value}(h:w.heap[rb]?=some (.cells #[a,v,s] 307 (0,0))):w.cell? ⟨rb,1,.none⟩=some v:=by simp[World.cell?,h]
theorem ring_f {w:World}{rb:Nat}{a v s:Value}(h:w.heap[rb]?=some (.cells #[a,v,s] 307 (0,0)))(i:Nat):w.frozen? ⟨rb,i,.none⟩=false:=by simp[World.frozen?,h]
theorem ring_set {w:World}{rb:Nat}{a v s:Value}(h:w.heap[rb]?=some (.cells #[a,v,s] 307 (0,0)))(v':Value):(w.setCell ⟨rb,1,.none⟩ v').heap[rb]?=some (.cells #[a,v',s] 307 (0,0)):=by
 simp[World.setCell,Array.getElem?_modify,h]
theorem SlRow.grown {w w':World}{g cap b:Nat}{L:List Rec}(h:SlRow w g cap L)(hg:w.grownBy w' (some b))(hne:g≠b):SlRow w' g cap L:=by
 obtain⟨cur,h1,h2,h3⟩:=h.row;exact⟨⟨cur,(hg.block g h.lt (by simpa using hne)).trans h1,h2,h3⟩⟩
theorem keep_endB {W W1 w8:World}{B rb bc g cap:Nat}{L:List Rec}{x:Rec}{sp:Bool}{sa:Option Addr}{c:Nat}(h:RingAt W B rb bc (.slice sa L.length c) L sp)(hbc:bc < W.heap.size)
  (B2:Below W.heap.size W W1) (s2:W1.heap.size=W.heap.size+1) (hown8:w8.ownsRow B 118 4 (.slice (some ⟨g,0,.none⟩) (L.length+1) cap) (L.length+1) (recCells L++x.list)) (hgrow8:W1.grownBy w8 (Value.slice sa L.length c).ownBlock) (hor:(Value.slice sa L.length c).ownBlock=some g\/g=W.heap.size+1)
  (r8:w8.heap[rb]?=some (.cells #[.pointer (some ⟨bc,0,.none⟩),.slice sa L.length c,.bool sp] 307 (0,0))) :
  RingAt (w8.setCell ⟨rb,1,.none⟩ (.slice (some ⟨g,0,.none⟩) (L.length+1) cap)) B rb bc (.slice (some ⟨g,0,.none⟩) (L.length+1) cap) (L++[x]) sp/\Off (fun k=>k=rb\/(Value.slice sa L.length c).ownBlock=some k) W (w8.setCell ⟨rb,1,.none⟩ (.slice (some ⟨g,0,.none⟩) (L.length+1) cap))/\∀ k,(Value.slice (some ⟨g,0,.none⟩) (L.length+1) cap).ownBlock=some k->(Value.slice sa L.length c).ownBlock=some k\/W.heap.size<=k:=by
 have hlt:=h.lt;have hg1:g≠rb:=by
  rcases hor with e | e
  ·intro e2;rw[e2] at e;exact h.sep.1 e
  ·omega
 have hg2:g≠bc:=by
  rcases hor with e | e
  ·intro e2;rw[e2] at e;exact h.sep.2 e
  ·omega
 have hre:Recs w8 B (.slice (some ⟨g,0,.none⟩) (L++[x]).length cap) (L++[x]):=by
  show w8.ownsRow _ _ _ _ _ _
  rw[recCells_append,List.length_append];exact hown8
 have hgs:w8.grownBy (w8.setCell ⟨rb,1,.none⟩ (.slice (some ⟨g,0,.none⟩) (L.length+1) cap)) (some rb):=grown_set (grown_refl _ _) _ _
 refine⟨⟨ring_set r8 _,?_,⟨by simpa[Value.ownBlock] using hg1,by simpa[Value.ownBlock] using hg2⟩,h.lo⟩,?_,fun k e=>by
  have e2:g=k:=by simpa[Value.ownBlock] using e
  subst e2
  rcases hor with e | e
  ·exact Or.inl e
  ·right;omega⟩
 ·rcases hre.row_form with ⟨e,-⟩ | ⟨g',cap',e,hb',hrow,hlc,hm⟩
  ·cases e
  ·have e1:=e;simp only[Value.slice.injEq,Option.some.injEq,Addr.mk.injEq] at e1;obtain⟨⟨rfl,-⟩,-,rfl⟩:=e1;have:=Recs.of_row (base:=B) (hrow.grown hgs hg1) hb' hlc hm;rw[List.length_append] at this;exact this
 ·have o1:Off (fun k=>k=rb\/(Value.slice sa L.length c).ownBlock=some k) W W1:=Off.of_below B2 _;have o2:Off (fun k=>(Value.slice sa L.length c).ownBlock=some k) W1 w8:=⟨hgrow8.os,hgrow8.tape,hgrow8.output,hgrow8.size,fun k hk hn=>hgrow8.block k hk (fun e=>hn e.symm)⟩;exact(o1.trans o2 (fun _ _ hs=>Or.inr hs)).trans (Off.of_grown hgs) (fun _ _ hs=>Or.inl hs)
theorem keep_end {w W W1 w8:World}{B rb bc g cap:Nat}{L:List Rec}{x:Rec}{sp:Bool}{sa:Option Addr}{c:Nat}(h:RingAt w B rb bc (.slice sa L.length c) L sp)(hbc:bc < w.heap.size)(B1:Below w.heap.size w W)(hsz:W.heap.size=w.heap.size+1)
  (B2:Below W.heap.size W W1) (s2:W1.heap.size=W.heap.size+1) (hown8:w8.ownsRow B 118 4 (.slice (some ⟨g,0,.none⟩) (L.length+1) cap) (L.length+1) (recCells L++x.list)) (hgrow8:W1.grownBy w8 (Value.slice sa L.length c).ownBlock) (hor:(Value.slice sa L.length c).ownBlock=some g\/g=W.heap.size+1)
  (r8:w8.heap[rb]?=some (.cells #[.pointer (some ⟨bc,0,.none⟩),.slice sa L.length c,.bool sp] 307 (0,0))) :
  RingAt (w8.setCell ⟨rb,1,.none⟩ (.slice (some ⟨g,0,.none⟩) (L.length+1) cap)) B rb bc (.slice (some ⟨g,0,.none⟩) (L.length+1) cap) (L++[x]) sp/\Off (fun k=>k=rb\/(Value.slice sa L.length c).ownBlock=some k) w (w8.setCell ⟨rb,1,.none⟩ (.slice (some ⟨g,0,.none⟩) (L.length+1) cap))/\∀ k,(Value.slice (some ⟨g,0,.none⟩) (L.length+1) cap).ownBlock=some k->(Value.slice sa L.length c).ownBlock=some k\/w.heap.size<=k:=by
 obtain⟨a,b,d⟩:=keep_endB (h.below B1) (by omega) B2 s2 hown8 hgrow8 hor r8;exact⟨a,(Off.of_below B1 _).trans b (fun _ _ hs=>hs),fun k e=>(d k e).imp id (fun x=>by omega)⟩
set_option maxRecDepth 100000 in
set_option maxHeartbeats 1000000 in
theorem keep_short (B rb bc:Nat)(v:Value)(L:List Rec)(sp:Bool)(x:Rec)(w:World)(h:RingAt w B rb bc v L sp)(hbc:bc < w.heap.size)(hl:L.length < 8) :
  Calls Tryz.prog 310 #[.pointer (some ⟨rb,0,.none⟩),x.val] w fun e w'=>e=.returned (.tuple #[])/\∃ v',RingAt w' B rb bc v' (L++[x]) sp/\Off (fun k=>k=rb\/v.ownBlock=some k) w w'/\∀ k,v'.ownBlock=some k->v.ownBlock=some k\/w.heap.size<=k:=by
 obtain⟨i0,hi,hz0,hz1,hz2⟩:=Tryz.infoRec;obtain⟨sa,c,rfl⟩:=h.recs.len;have hne:¬L.length=8:=by omega
 have hne':¬(L.length:Int)=8:=by omega
 have B1:=(Below.refl w.heap.size w).alloc (Nat.le_refl _) (.cells #[.int .i64 (x.seq:Int),.int .i64 (x.ent:Int),.int .i64 (x.kind:Int),.int .i64 (x.tick:Int)] 118);have R1:=h.below B1;have hlt:=h.lt;have hlo:=h.lo;have X1:=RecAt.new w x 118;obtain⟨W,hW⟩:∃ W,w.alloc (.cells #[.int .i64 (x.seq:Int),.int .i64 (x.ent:Int),.int .i64 (x.kind:Int),.int .i64 (x.tick:Int)] 118)=W:=⟨_,rfl⟩;have hsz:W.heap.size=w.heap.size+1:=by rw[<- hW];simp
 rw[hW] at B1 R1 X1;have HW:Hid _:=hW;clear hW;obtain⟨x0,x1,x2,x3⟩:=X1;have c1:=R1.c1;have f1:=R1.frozen 1;have hown:W.ownsRow B 118 4 (.slice sa L.length c) L.length (recCells L):=R1.recs;unfold Rec.val;go_enter Tryz.func310,Tryz.ntmps310
 go_upto_region 1 with fail
 rw[HW.out];go_wp2_with fail
 have KB:Hid (∀ (o:Obj) (w8:World),(W.drew.alloc o).grownBy w8 (Value.slice sa L.length c).ownBlock->w8.heap[rb]?=some (.cells #[.pointer (some ⟨bc,0,.none⟩),.slice sa L.length c,.bool sp] 307 (0,0))):=fun o w8 hg=>
  ((hg.block rb (by simp;omega) (fun e=>h.sep.1 e.symm)).trans (((Below.refl W.heap.size W.drew).alloc (Nat.le_refl _) o).block rb (by omega))).trans R1.heap
 have hownd:W.drew.ownsRow B 118 4 (.slice sa L.length c) L.length (recCells L):=hown;go_region_law (refine step_append_lies _ rfl (.tmp 22) (.tmp 24) 113 rfl B 118 i0 (.agg #[.int .i64 0,.int .i64 0,.int .i64 0,.int .i64 0]) 4 32 Tryz.underlying113 hi hz0 hz1 hz2 rfl (by decide) (.slice sa L.length c) L.length (recCells L) (by simp[Act.eval]) (hownd.alloc _) ⟨W.heap.size,0,.none⟩ 1 1 x.list (by simp[Act.eval]) rfl (cell_four W.drew x 118) (list_one x) (by decide) (by unfold maxLen;omega) (by omega) (by simp;omega) (W.heap.size+1) (by simp) ?_;intro g cap w8 hown8 hgrow8 hor hlt8;have r8:=KB.out _ _ hgrow8;have d1:=ring_c1 r8;have d2:=ring_f r8 1)
 all_goals
  go_wp2;go_end0
  exact⟨rfl,_,keep_end h hbc B1 hsz (((Below.refl _ _).alloc (Nat.le_refl _) _).drew) (by simp) hown8 hgrow8 hor r8⟩
theorem RingAt.swap {w w' w'':World}{B rb bc:Nat}{v v':Value}{L M:List Rec}{sp:Bool}{g cap:Nat}(h:RingAt w B rb bc v L sp)(hv:v.ownBlock=some g)(hv':v'=.slice (some ⟨g,0,.none⟩) M.length cap)(hg:w.grownBy w' (some g))(hrow:SlRow w' g cap M)(hl:M.length<=cap)(hm:cap<=maxLen)(hw:w''=w'.setCell ⟨rb,1,.none⟩ v') :
  RingAt w'' B rb bc v' M sp/\Off (fun k=>k=rb\/v.ownBlock=some k) w w'':=by
 have hgb:g≠rb:=fun e=>h.sep.1 (by rw[hv,e])
 have hgc:g≠bc:=fun e=>h.sep.2 (by rw[hv,e])
 have r1:=(hg.block rb h.lt (by simpa using fun e:rb=g=>hgb e.symm)).trans h.heap;have hgs:w'.grownBy (w'.setCell ⟨rb,1,.none⟩ v') (some rb):=grown_set (grown_refl _ _) _ _;subst hw
 refine⟨⟨ring_set r1 _,?_,?_,h.lo⟩,?_⟩
 ·subst hv';exact Recs.of_row (hrow.grown hgs hgb) (h.recs.lt g hv).1 hl hm
 ·subst hv';exact⟨by simpa[Value.ownBlock] using hgb,by simpa[Value.ownBlock] using hgc⟩
 ·exact((Off.of_grown hg).mono (fun k _ e=>Or.inr (by rw[hv,e]))).trans (Off.of_grown hgs) (fun _ _ e=>Or.inl e)
set_option maxRecDepth 100000 in
set_option maxHeartbeats 1000000 in
theorem keep_full (B rb bc:Nat)(v:Value)(y:Rec)(M:List Rec)(sp:Bool)(x:Rec)(w:World)(h:RingAt w B rb bc v (y :: M) sp)(hbc:bc < w.heap.size)(hl:M.length=7) :
  Calls Tryz.prog 310 #[.pointer (some ⟨rb,0,.none⟩),x.val] w fun e w'=>e=.returned (.tuple #[])/\∃ v',RingAt w' B rb bc v' (M++[x]) sp/\Off (fun k=>k=rb\/v.ownBlock=some k) w w'/\∀ k,v'.ownBlock=some k->v.ownBlock=some k\/w.heap.size<=k:=by
 obtain⟨i0,hi,hz0,hz1,hz2⟩:=Tryz.infoRec;have B1:=(Below.refl w.heap.size w).alloc (Nat.le_refl _) (.cells #[.int .i64 (x.seq:Int),.int .i64 (x.ent:Int),.int .i64 (x.kind:Int),.int .i64 (x.tick:Int)] 118);have R1:=h.below B1;have hlt:=h.lt;have hlo:=h.lo;have X1:=RecAt.new w x 118;obtain⟨W,hW⟩:∃ W,w.alloc (.cells #[.int .i64 (x.seq:Int),.int .i64 (x.ent:Int),.int .i64 (x.kind:Int),.int .i64 (x.tick:Int)] 118)=W:=⟨_,rfl⟩;have hsz:W.heap.size=w.heap.size+1:=by rw[<- hW];simp
 rw[hW] at B1 R1 X1;have HW:Hid _:=hW;clear hW
 rcases R1.recs.row_form with ⟨-,e0⟩ | ⟨g,cap,hv,hbg,hrow,hlc,hm⟩
 ·cases e0
 rw[List.length_cons,hl] at hv hlc;have hgh:=h.recs.lt g (by rw[hv];rfl);have DR:=delete_row g cap y M W hrow hl hlc hm;have hv2:v.ownBlock=some g:=by rw[hv];rfl
 have c1:=R1.c1;have f1:=R1.frozen 1;rw[hv] at c1;have HDR:Hid _:=DR;clear DR;unfold Rec.val;go_enter Tryz.func310,Tryz.ntmps310
 go_upto_region 1 with fail
 rw[HW.out];go_wp2_with fail
 refine Calls.mono HDR.out ?_;rintro e w2 ⟨rfl,hrow2,hg2⟩;have r2:=(hg2.block rb R1.lt (fun e=>R1.sep.1 (by rw[hv2,e]))).trans R1.heap;have d1:=ring_c1 r2;have d2:=ring_f r2 1;go_upto_region 3 with fail
 obtain⟨W2,hW2⟩:∃ W2,w2.setCell ⟨rb,1,.none⟩ (.slice (some ⟨g,0,.none⟩) 7 cap)=W2:=⟨_,rfl⟩;obtain⟨R2,O2⟩:=R1.swap (w'':=W2) (M:=M) (cap:=cap) (v':=.slice (some ⟨g,0,.none⟩) M.length cap) hv2 rfl hg2 hrow2 (by omega) hm (by rw[hl];exact hW2.symm);have hs2:W.heap.size<=W2.heap.size:=O2.size;have nx:¬(w.heap.size=rb\/v.ownBlock=some w.heap.size):=by
  rintro(e | e)
  ·omega
  ·rw[hv2] at e;have:=Option.some.inj e;omega
 have X2:RecAt W2 w.heap.size x:=by
  have e:=O2.block w.heap.size (by omega) nx;exact⟨(World.cell?_of_block e).trans X1.c0,(World.cell?_of_block e).trans X1.c1,(World.cell?_of_block e).trans X1.c2,(World.cell?_of_block e).trans X1.c3⟩
 rw[hW2];have O3:=(Off.of_below B1 (fun k=>k=rb\/v.ownBlock=some k)).trans O2 (fun _ _ hs=>hs);clear c1 f1 d1 d2 r2 hW2 HDR HW hrow hrow2 hg2 R1 B1 O2 X1;rw[hl] at R2;obtain⟨x0,x1,x2,x3⟩:=X2;have c1:=R2.c1;have f1:=R2.frozen 1;have KB:Hid (∀ (o:Obj) (w8:World),(W2.drew.alloc o).grownBy w8 (Value.slice (some ⟨g,0,.none⟩) 7 cap).ownBlock->w8.heap[rb]?=some (.cells #[.pointer (some ⟨bc,0,.none⟩),.slice (some ⟨g,0,.none⟩) 7 cap,.bool sp] 307 (0,0))):=fun o w8 hg=>
  ((hg.block rb (by simp;omega) (fun e=>R2.sep.1 e.symm)).trans (((Below.refl W2.heap.size W2.drew).alloc (Nat.le_refl _) o).block rb (by omega))).trans R2.heap
 have hownd:W2.drew.ownsRow B 118 4 (.slice (some ⟨g,0,.none⟩) 7 cap) 7 (recCells M):=by
  have:=R2.recs;unfold Recs at this;rw[hl] at this;exact this
 have hrl2:rb < W2.heap.size:=by omega
 have hrn2:¬rb=W2.heap.size:=by omega
 have KE:Hid (∀ (W1 w8:World) (g' cap':Nat),Below W2.heap.size W2 W1->W1.heap.size=W2.heap.size+1->w8.ownsRow B 118 4 (.slice (some ⟨g',0,.none⟩) (7+1) cap') (7+1) (recCells M++x.list)->W1.grownBy w8 (Value.slice (some ⟨g,0,.none⟩) 7 cap).ownBlock->((Value.slice (some ⟨g,0,.none⟩) 7 cap).ownBlock=some g'\/g'=W2.heap.size+1)->w8.heap[rb]?=some (.cells #[.pointer (some ⟨bc,0,.none⟩),.slice (some ⟨g,0,.none⟩) 7 cap,.bool sp] 307 (0,0)) ->
   ∃ v',v'=Value.slice (some ⟨g',0,.none⟩) (7+1) cap'/\RingAt (w8.setCell ⟨rb,1,.none⟩ v') B rb bc v' (M++[x]) sp/\Off (fun k=>k=rb\/v.ownBlock=some k) w (w8.setCell ⟨rb,1,.none⟩ v')/\∀ k,v'.ownBlock=some k->v.ownBlock=some k\/w.heap.size<=k):=by
  intro W1 w8 g' cap' b2 s2 ho hg hor r8;have R2':RingAt W2 B rb bc (.slice (some ⟨g,0,.none⟩) M.length cap) M sp:=by rw[hl];exact R2
  have:=keep_endB (W:=W2) (W1:=W1) (w8:=w8) (g:=g') (cap:=cap') (x:=x) R2' (by omega) b2 s2 (by rw[hl];exact ho) (by rw[hl];exact hg) (by rw[hl];exact hor) (by rw[hl];exact r8);rw[hl] at this
  refine⟨_,rfl,this.1,O3.trans this.2.1 (fun k _ hs=>?_),fun k e=>(this.2.2 k e).imp (fun e=>by rw[hv2];exact e) (fun x=>by omega)⟩
  rcases hs with e | e
  ·exact Or.inl e
  ·right;rw[hv2];exact e
 go_region_law (refine step_append_lies _ rfl (.tmp 22) (.tmp 24) 113 rfl B 118 i0 (.agg #[.int .i64 0,.int .i64 0,.int .i64 0,.int .i64 0]) 4 32 Tryz.underlying113 hi hz0 hz1 hz2 rfl (by decide) (.slice (some ⟨g,0,.none⟩) 7 cap) 7 (recCells M) (by simp[Act.eval]) (hownd.alloc _) ⟨W2.heap.size,0,.none⟩ 1 1 x.list (by simp[Act.eval]) rfl (cell_four W2.drew x 118) (list_one x) (by decide) (by unfold maxLen;omega) (by omega) (by simp;omega) (W2.heap.size+1) (by simp) ?_;intro g' cap' w8 hown8 hgrow8 hor hlt8;have r8:=KB.out _ _ hgrow8;have d1:=ring_c1 r8;have d2:=ring_f r8 1)
 all_goals
  go_wp2;go_end0
  obtain⟨v',rfl,K1,K2,K3⟩:=KE.out _ _ _ _ (((Below.refl _ _).alloc (Nat.le_refl _) _).drew) (by simp) hown8 hgrow8 hor r8;exact⟨rfl,_,K1,K2,K3⟩
set_option maxRecDepth 100000 in
set_option maxHeartbeats 1000000 in
theorem open_no (A:Nat->Addr)(bc:Nat)(s:CSt)(j:Nat)(w:World)(h:CellsAt w bc s)(hs:Sen4 A w)(he:s.err 0 153=j+1) :
  Calls Tryz.prog 166 #[.pointer (some ⟨bc,0,.none⟩)] w fun e w'=>e=.returned (.tuple #[.pointer .none,errVal A (j+1)])/\Below w.heap.size w w':=by
 have B1:=(Below.refl w.heap.size w).alloc (Nat.le_refl _) (.cells #[.pointer (some ⟨bc,0,.none⟩)] 301);have HH:Hid _:=held_no A bc s j _ (h.below B1) (hs.below B1) he;go_enter Tryz.func166,Tryz.ntmps166
 go_wp2_with fail
 refine Calls.mono HH.out ?_;rintro e w1 ⟨rfl,hb1⟩;have B2:=B1.trans (hb1.mono (by simp));unfold errVal;have s1:=hb1.size;simp only[World.size_alloc] at s1;go_wp2_with (refine wpList_store_row rfl 302 _ _ rfl w1.heap.size _ rfl rfl 302 _ (heap_alloc_new w1 _) (info_recs _ (by simp)) rfl (recs_one _) ?_)
 go_ret2
 exact⟨rfl,below_setRow (B2.alloc (by omega) _) (by omega) _⟩
def fitsB (n m:Int):Bool:=decide (0<=n/\n<=m)
theorem fits_any (n m:Int)(w:World) :
  Calls Tryz.prog 308 #[.int .i64 n,.int .i64 m] w fun e w'=>e=.returned (.bool (fitsB n m))/\w'=w:=by
 by_cases h0:0<=n
 ·by_cases h1:n<=m
  ·have HD:Hid (fitsB n m=true):=decide_eq_true ⟨h0,h1⟩;go_enter Tryz.func308,Tryz.ntmps308
   go_wp2;go_ret;rw[HD.out];exact⟨rfl,rfl⟩
  ·have HD:Hid (fitsB n m=false):=decide_eq_false (fun h=>h1 h.2);go_enter Tryz.func308,Tryz.ntmps308
   go_wp2;go_ret;rw[HD.out];exact⟨rfl,rfl⟩
 ·have HD:Hid (fitsB n m=false):=decide_eq_false (fun h=>h0 h.1);go_enter Tryz.func308,Tryz.ntmps308
  go_wp2;go_ret;rw[HD.out];exact⟨rfl,rfl⟩
theorem records_any (B rb bc:Nat)(v:Value)(L:List Rec)(sp:Bool)(w:World)(h:RingAt w B rb bc v L sp)(hl:L.length<=100) :
  Calls Tryz.prog 175 #[.pointer (some ⟨rb,0,.none⟩)] w fun e w'=>∃ v',e=.returned v'/\Recs w' w.heap.size v' L/\Below w.heap.size w w':=by
 have c1:=h.c1;go_enter Tryz.func175,Tryz.ntmps175
 go_wp2_with fail
 refine(clone_any B v L _ h.recs hl).mono ?_;rintro e w1 ⟨v1,rfl,hr,hb⟩;go_wp2;go_ret;exact⟨_,rfl,hr,hb⟩
theorem RecRow.drew {w:World}{b:Nat}{r:Rec}(h:RecRow w b r):RecRow w.drew b r:=⟨h.heap⟩
def lastR (L:List Rec):Rec:=L.getLast?.getD .none
set_option maxRecDepth 100000 in
set_option maxHeartbeats 1000000 in
theorem last_any (B rb bc:Nat)(v:Value)(L:List Rec)(sp:Bool)(w:World)(h:RingAt w B rb bc v L sp)(hl:L.length<=100) :
  Calls Tryz.prog 174 #[.pointer (some ⟨rb,0,.none⟩)] w fun e w'=>e=.returned (.tuple #[(lastR L).val,.bool (decide (0 < L.length))])/\Below w.heap.size w w':=by
 have B1:=(Below.refl w.heap.size w).alloc (Nat.le_refl _) (.cells #[.int .i64 ((Rec.none.seq:Nat):Int),.int .i64 ((Rec.none.ent:Nat):Int),.int .i64 ((Rec.none.kind:Nat):Int),.int .i64 ((Rec.none.tick:Nat):Int)] 118);have R1:=h.below B1;have Z1:=RecRow.new w .none;have hlt:=h.lt;obtain⟨W,hW⟩:∃ W,w.alloc (.cells #[.int .i64 ((Rec.none.seq:Nat):Int),.int .i64 ((Rec.none.ent:Nat):Int),.int .i64 ((Rec.none.kind:Nat):Int),.int .i64 ((Rec.none.tick:Nat):Int)] 118)=W:=⟨_,rfl⟩;rw[hW] at B1 R1 Z1;have HW:Hid (w.alloc (.cells #[.int .i64 0,.int .i64 0,.int .i64 0,.int .i64 0] 118)=W):=hW;clear hW;have c1:=R1.c1;obtain⟨z0,z1,z2,z3⟩:=Z1.at;have f0:=Z1.frozen 0;have f1:=Z1.frozen 1;have f2:=Z1.frozen 2;have f3:=Z1.frozen 3;have zl:=Z1.lt
 rcases R1.recs.row_form with ⟨rfl,rfl⟩ | ⟨g,cap,rfl,hbg,hrow,hlc,hm⟩
 ·go_enter Tryz.func174,Tryz.ntmps174
  go_upto_region 1 with fail
  rw[HW.out];go_wp2_with fail
  refine bodyPost_ret (res_rec rfl _ _ w.heap.size .none rfl (Z1.set4 .none).at) rfl ?_;exact⟨rfl,below_grown B1 (grown_set4 _ _ _ _ _ _) (by omega) (Nat.le_refl _)⟩
 ·by_cases h0:L.length=0
  ·have hnil:L=[]:=List.length_eq_zero_iff.1 h0;subst hnil;go_enter Tryz.func174,Tryz.ntmps174
   go_upto_region 1 with fail
   rw[HW.out];go_wp2_with fail
   refine bodyPost_ret (res_rec rfl _ _ w.heap.size .none rfl (Z1.set4 .none).at) rfl ?_;exact⟨rfl,below_grown B1 (grown_set4 _ _ _ _ _ _) (by omega) (Nat.le_refl _)⟩
  ·obtain⟨n,hn⟩:∃ n,L.length=n+1:=⟨L.length - 1,by omega⟩;obtain⟨⟨a0,a1,a2,a3⟩,-⟩:=hrow.cells n (by omega);have hx:L[n]'(by omega)=lastR L:=by
    unfold lastR;rw[List.getLast?_eq_getElem?,show L.length - 1=n by omega,List.getElem?_eq_getElem (by omega)];rfl
   rw[hx] at a0 a1 a2 a3;have HD:Hid (decide (0 < L.length)=true):=decide_eq_true (by omega);rw[hn] at c1;have hgn:g≠w.heap.size:=by
    have:=h.recs.lt g rfl;omega
   have hn1:¬((n:Int)+1=0):=by omega
   clear hx;generalize lastR L=x at *;go_enter Tryz.func174,Tryz.ntmps174
   go_upto_region 1 with fail
   rw[HW.out];go_wp2_with fail
   go_region
   go_wp2_with fail
   refine bodyPost_ret (res_rec rfl _ _ w.heap.size x rfl (Z1.set4 x).drew.at) rfl ?_;rw[HD.out];exact⟨rfl,(below_grown B1 (grown_set4 _ _ _ _ _ _) (by omega) (Nat.le_refl _)).drew⟩
theorem keep_any (B rb bc:Nat)(v:Value)(L:List Rec)(sp:Bool)(x:Rec)(w:World)(h:RingAt w B rb bc v L sp)(hbc:bc < w.heap.size)(hl:L.length<=8) :
  Calls Tryz.prog 310 #[.pointer (some ⟨rb,0,.none⟩),x.val] w fun e w'=>e=.returned (.tuple #[])/\∃ v',RingAt w' B rb bc v' (keepL L x) sp/\Off (fun k=>k=rb\/v.ownBlock=some k) w w'/\∀ k,v'.ownBlock=some k->v.ownBlock=some k\/w.heap.size<=k:=by
 unfold keepL
 by_cases h8:L.length=8
 ·rw[if_pos h8]
  cases L with
  | nil=>cases h8
  | cons y M=>exact keep_full B rb bc v y M sp x w h hbc (by simpa using h8)
 ·rw[if_neg h8];exact keep_short B rb bc v L sp x w h hbc (by omega)
theorem app_zero (w:World):∃ W,w.alloc (.cells #[.int .i64 0,.int .i64 0,.int .i64 0,.int .i64 0] 118)=W/\RecRow W w.heap.size .none/\Below w.heap.size w W/\W.heap.size=w.heap.size+1:=
 ⟨_,rfl,RecRow.new w .none,(Below.refl _ _).alloc (Nat.le_refl _) _,by simp⟩
set_option maxRecDepth 100000 in
set_option maxHeartbeats 2000000 in
theorem append_full (A:Nat->Addr)(B rb bc:Nat)(v:Value)(L:List Rec)(n1 n2 n3:Int)(w:World)(h:RingAt w B rb bc v L false)(hs:Sen4 A w)(hl:L.length<=8)(hf1:fitsB n1 255=true)(hf2:fitsB n2 255=true)(hf3:fitsB n3 281474976710655=true)(hq:(lastR L).seq=4294967295) :
  Calls Tryz.prog 277 #[.pointer (some ⟨rb,0,.none⟩),.int .i64 n1,.int .i64 n2,.int .i64 n3] w fun e w'=>e=.returned (.tuple #[Rec.none.val,errVal A 7])/\Below w.heap.size w w':=by
 obtain⟨W,hW,Z1,B1,s1⟩:=app_zero w;have R1:=h.below B1;have S1:=hs.below B1;have HW:Hid _:=hW;clear hW;have c2:=R1.c2;have n7:¬w.heap.size=6:=by have:=block_lt hs.c6;simp at this;omega
 have n7':¬6=w.heap.size:=by omega
 go_enter Tryz.func277,Tryz.ntmps277
 go_upto_region 1 with fail
 rw[HW.out];go_wp2_with fail
 refine(fits_any n1 255 W).mono ?_;rintro e w1 ⟨rfl,rfl⟩;rw[hf1];go_wp2_with fail
 refine(fits_any n2 255 w1).mono ?_;rintro e w2 ⟨rfl,rfl⟩;rw[hf2];go_wp2_with fail
 refine(fits_any n3 281474976710655 w2).mono ?_;rintro e w3 ⟨rfl,rfl⟩;rw[hf3];go_wp2_with fail
 refine(last_any B rb bc v L false w3 R1 (by omega)).mono ?_;rintro e w4 ⟨rfl,hb4⟩;have hq':((lastR L).seq:Int)=4294967295:=by omega
 unfold Rec.val;rw[hq'];have B4:=B1.trans (hb4.mono (by omega));have Z4:=Z1.below hb4 Z1.lt;have S4:=S1.below hb4;have s4:=hb4.size;have z4:=Z4.lt;go_upto_region 6 with fail
 obtain⟨W5,hW5⟩:∃ W5,w4.alloc (.cells #[.int .i64 4294967295,.int .i64 ((lastR L).ent:Int),.int .i64 ((lastR L).kind:Int),.int .i64 ((lastR L).tick:Int)] 118)=W5:=⟨_,rfl⟩;have B5:Below w4.heap.size w4 W5:=by rw[<- hW5];exact(Below.refl _ _).alloc (Nat.le_refl _) _
 have c5:W5.cell? ⟨w4.heap.size,0,.none⟩=some (.int .i64 4294967295):=by rw[<- hW5];exact World.cell?_alloc_at _ _ _ _ rfl
 rw[hW5];have Z5:=Z4.below B5 z4;have g6:=(S4.below B5).c6;obtain⟨z0,z1,z2,z3⟩:=Z5.at;have f0:=Z5.frozen 0;have f1:=Z5.frozen 1;have f2:=Z5.frozen 2;have f3:=Z5.frozen 3;have s5:=B5.size;go_wp2_with fail
 go_region
 all_goals
  go_wp2_with fail
  refine bodyPost_ret (res_rec rfl _ _ w.heap.size .none rfl (Z5.set4 .none).drew.at) rfl ?_;exact⟨rfl,(below_grown (B4.trans (B5.mono (by omega))) (grown_set4 _ _ _ _ _ _) (by omega) (Nat.le_refl _)).drew⟩
theorem RingAt.off {w w':World}{B rb bc:Nat}{v:Value}{L:List Rec}{sp:Bool}{S:Nat->Prop}(h:RingAt w B rb bc v L sp)(ho:Off S w w')(h1:¬S rb)(h2:∀ g,v.ownBlock=some g->¬S g):RingAt w' B rb bc v L sp:=by
 refine⟨(ho.block rb h.lt h1).trans h.heap,?_,h.sep,h.lo⟩
 rcases h.recs.row_form with ⟨rfl,rfl⟩ | ⟨g,cap,rfl,hbg,hrow,hlc,hm⟩
 ·exact World.ownsRow_nil _ _ _ _
 ·obtain⟨cur,hg,k2,k3⟩:=hrow.row;exact Recs.of_row ⟨⟨cur,(ho.block g hrow.lt (h2 g rfl)).trans hg,k2,k3⟩⟩ hbg hlc hm
theorem RingAt.spent {w:World}{B rb bc:Nat}{v:Value}{L:List Rec}{sp:Bool}(h:RingAt w B rb bc v L sp):RingAt (w.setCell ⟨rb,2,.none⟩ (.bool true)) B rb bc v L true:=by
 have hgs:w.grownBy (w.setCell ⟨rb,2,.none⟩ (.bool true)) (some rb):=grown_set (grown_refl _ _) _ _
 refine⟨by simp[World.setCell,Array.getElem?_modify,h.heap],?_,h.sep,h.lo⟩
 rcases h.recs.row_form with ⟨rfl,rfl⟩ | ⟨g,cap,rfl,hbg,hrow,hlc,hm⟩
 ·exact World.ownsRow_nil _ _ _ _
 ·exact Recs.of_row (hrow.grown hgs (fun e=>h.sep.1 (by rw[<- e];rfl))) hbg hlc hm
theorem RecRow.off {w w':World}{b:Nat}{r:Rec}{S:Nat->Prop}(h:RecRow w b r)(ho:Off S w w')(h1:¬S b):RecRow w' b r:=⟨(ho.block b h.lt h1).trans h.heap⟩
theorem CellsAt.off {w w':World}{b:Nat}{s:CSt}{S:Nat->Prop}(h:CellsAt w b s)(ho:Off S w w')(h1:¬S b):CellsAt w' b s:=⟨(ho.block b h.lt h1).trans h.heap,h.len,h.size⟩
def nextR (L:List Rec)(e k t:Nat):Rec:=⟨(lastR L).seq+1,e,k,t⟩
set_option maxRecDepth 100000 in
set_option maxHeartbeats 4000000 in
theorem append_go (A:Nat->Addr)(B rb bc:Nat)(v:Value)(L:List Rec)(s:CSt)(n1 n2 n3:Nat)(w:World)(h:RingAt w B rb bc v L false)(hc:CellsAt w bc s)(hs:Sen4 A w)(hgm:8<=bc)(hrb:rb≠bc)(hlow:s.Low 18)(hl:L.length<=8)(hf1:n1<=255)(hf2:n2<=255)(hf3:n3<=281474976710655)(hq:(lastR L).seq < 4294967295) :
  Calls Tryz.prog 277 #[.pointer (some ⟨rb,0,.none⟩),.int .i64 (n1:Int),.int .i64 (n2:Int),.int .i64 (n3:Int)] w fun e w'=>
   (∃ j,(s.putRec (nextR L n1 n2 n3)).2=j+1/\e=.returned (.tuple #[Rec.none.val,errVal A (j+1)])/\RingAt w' B rb bc v L true/\CellsAt w' bc (s.putRec (nextR L n1 n2 n3)).1/\Off (fun k=>k=bc\/k=rb\/v.ownBlock=some k) w w') \/
   ((s.putRec (nextR L n1 n2 n3)).2=0/\e=.returned (.tuple #[(nextR L n1 n2 n3).val,.nilIface])/\(∃ v',RingAt w' B rb bc v' (keepL L (nextR L n1 n2 n3)) false/\∀ k,v'.ownBlock=some k->v.ownBlock=some k\/w.heap.size<=k)/\CellsAt w' bc (s.putRec (nextR L n1 n2 n3)).1/\Off (fun k=>k=bc\/k=rb\/v.ownBlock=some k) w w'):=by
 have q1:fitsB (n1:Int) 255=true:=decide_eq_true (by omega);have q2:fitsB (n2:Int) 255=true:=decide_eq_true (by omega);have q3:fitsB (n3:Int) 281474976710655=true:=decide_eq_true (by omega);obtain⟨W,hW,Z1,B1,s1⟩:=app_zero w;have hlt:=h.lt;have hclt:=hc.lt;have HRL:Hid _:=h.recs.lt;have R1:=h.below B1;have S1:=hs.below B1;have C1:=hc.below B1;have HW:Hid _:=hW;clear hW;have c2:=R1.c2;have HPUT:Hid _:=fun w' ha hs'=>put_any A bc s (nextR L n1 n2 n3) w' ha hs' hgm hlow (by simp[nextR]) (by simp[nextR];omega)
 have HPX:=HPUT.out;have HNX:Hid ((nextR L n1 n2 n3).val=.agg #[.int .i64 (((lastR L).seq:Int)+1),.int .i64 (n1:Int),.int .i64 (n2:Int),.int .i64 (n3:Int)]):=by
  show _=_
  simp[nextR,Rec.val]
 rw[HNX.out] at HPX;have HPY:Hid _:=HPX;clear HPX HPUT;generalize hxg:nextR L n1 n2 n3=x at *;have hx0:(x.seq:Int)=((lastR L).seq:Int)+1:=by rw[<- hxg];simp[nextR]
 have hx1:x.ent=n1:=by rw[<- hxg];rfl
 have hx2:x.kind=n2:=by rw[<- hxg];rfl
 have hx3:x.tick=n3:=by rw[<- hxg];rfl
 clear hxg;subst hx1 hx2 hx3;have HX0:Hid _:=hx0;clear hx0;go_enter Tryz.func277,Tryz.ntmps277
 go_upto_region 1 with fail
 rw[HW.out];go_wp2_with fail
 refine(fits_any _ 255 W).mono ?_;rintro e w1 ⟨rfl,rfl⟩;rw[q1];go_wp2_with fail
 refine(fits_any _ 255 w1).mono ?_;rintro e w2 ⟨rfl,rfl⟩;rw[q2];go_wp2_with fail
 refine(fits_any _ 281474976710655 w2).mono ?_;rintro e w3 ⟨rfl,rfl⟩;rw[q3];go_wp2_with fail
 refine(last_any B rb bc v L false w3 R1 (by omega)).mono ?_;rintro e w4 ⟨rfl,hb4⟩;have hq':(((lastR L).seq:Int) == 4294967295)=false:=by rw[beq_eq_false_iff_ne];omega
 have HQ:Hid _:=hq;have hqw:IntKind.i64.wrap (((lastR L).seq:Int)+1)=((lastR L).seq:Int)+1:=by rw[IntKind.wrap_i64];omega
 clear hq hlow;unfold Rec.val;have B4:=B1.trans (hb4.mono (by omega));have Z4:=Z1.below hb4 Z1.lt;have S4:=S1.below hb4;have C4:=C1.below hb4;have R4:=R1.below hb4;have s4:=hb4.size;clear c2 hb4 B1 Z1 S1 C1 R1;generalize lastR L=y at *;go_upto_region 6 with fail
 obtain⟨W5,hW5⟩:∃ W5,w4.alloc (.cells #[.int .i64 (y.seq:Int),.int .i64 (y.ent:Int),.int .i64 (y.kind:Int),.int .i64 (y.tick:Int)] 118)=W5:=⟨_,rfl⟩;have B5:Below w4.heap.size w4 W5:=by rw[<- hW5];exact(Below.refl _ _).alloc (Nat.le_refl _) _
 have c5:W5.cell? ⟨w4.heap.size,0,.none⟩=some (.int .i64 (y.seq:Int)):=by rw[<- hW5];exact World.cell?_alloc_at _ _ _ _ rfl
 rw[hW5];clear hW5;have s5:=B5.size;go_upto_region 9 with fail
 obtain⟨W6,hW6⟩:∃ W6,W5.alloc (.cells #[.int .i64 ((y.seq:Int)+1),.int .i64 (x.ent:Int),.int .i64 (x.kind:Int),.int .i64 (x.tick:Int)] 118)=W6:=⟨_,rfl⟩;have B6:Below W5.heap.size W5 W6:=by rw[<- hW6];exact(Below.refl _ _).alloc (Nat.le_refl _) _
 have X6:RecRow W6 W5.heap.size x:=by
  refine⟨?_⟩;rw[<- hW6,HX0.out];exact heap_alloc_new _ _
 rw[hW6];have s6:W6.heap.size=W5.heap.size+1:=by rw[<- hW6];simp
 clear hW6;have B46:=B5.trans (B6.mono s5);have b6':=B4.trans (B46.mono (by omega));have R6:=R4.below B46;have C6:=C4.below B46;have S6:=S4.below B46;have Z6:=Z4.below B46 Z4.lt;have z4:=Z4.lt;clear R4 C4 S4 Z4 c5;obtain⟨e0,e1,e2,e3⟩:=X6.at;rw[HX0.out] at e0;have r0:=R6.c0;have C6d:CellsAt W6.drew bc s:=⟨C6.heap,C6.len,C6.size⟩;have S6d:Sen4 A W6.drew:=⟨S6.c1,S6.c2,S6.c6,S6.c7⟩;have nb1:W5.heap.size≠bc:=by omega
 go_region_held3 (fun w'=>w'.cell? ⟨rb,0,.none⟩=some (.pointer (some ⟨bc,0,.none⟩))/\w'.cell? ⟨W5.heap.size,0,.none⟩=some (.int .i64 ((y.seq:Int)+1))/\w'.cell? ⟨W5.heap.size,1,.none⟩=some (.int .i64 (x.ent:Int))/\w'.cell? ⟨W5.heap.size,2,.none⟩=some (.int .i64 (x.kind:Int))/\w'.cell? ⟨W5.heap.size,3,.none⟩=some (.int .i64 (x.tick:Int))) (first | exact⟨r0,e0,e1,e2,e3⟩ | exact⟨k0,k1,k2,k3,k4⟩) (first | (go_at_call 309;refine Calls.mono (HPY.out _ C6d S6d) ?_;rintro e w7 ⟨rfl,C7,G7⟩;have k0:=grown_cell' G7 (show W6.drew.cell? _=_ from r0) hrb;have k1:=grown_cell' G7 (show W6.drew.cell? _=_ from e0) nb1;have k2:=grown_cell' G7 (show W6.drew.cell? _=_ from e1) nb1;have k3:=grown_cell' G7 (show W6.drew.cell? _=_ from e2) nb1;have k4:=grown_cell' G7 (show W6.drew.cell? _=_ from e3) nb1))
 have O7:Off (fun k=>k=bc) W6 w7:=(Off.of_below ((Below.refl _ _).drew) _).trans (Off.of_grown G7) (fun _ _ hs=>hs);have R7:=R6.off O7 hrb (fun g e1 e2=>R6.sep.2 (by rw[e1,e2]));have Z7:=Z6.off O7 (by omega);have X7:=X6.off O7 nb1;have O7w:=(Off.of_below b6' (fun k=>k=bc\/k=rb\/v.ownBlock=some k)).trans O7 (fun _ _ hs=>Or.inl hs);have nrb:¬w.heap.size=rb:=by omega
 have nrb':¬rb=w.heap.size:=by omega
 have s7:=O7.size;clear k0 k1 k2 k3 k4 e0 e1 e2 e3 r0 R6 Z6 X6 C6 C6d S6d G7 HPY;generalize hpe:s.putRec x=p at *;have HPE:Hid _:=hpe;clear hpe
 cases hp:p.2 with
 | succ j=>
  have c2:=R7.c2;have f2:=R7.frozen 2;have G8:w7.grownBy (w7.setCell ⟨rb,2,.none⟩ (.bool true)) (some rb):=grown_set (grown_refl _ _) _ _;have R8:=R7.spent;have Z8:=Z7.off (Off.of_grown G8) nrb;have C8:=C7.off (Off.of_grown G8) (fun e=>hrb e.symm);have z0:=Z8.at.c0;have z1:=Z8.at.c1;have z2:=Z8.at.c2;have z3:=Z8.at.c3;have g0:=Z8.frozen 0;have g1:=Z8.frozen 1;have g2:=Z8.frozen 2;have g3:=Z8.frozen 3;unfold errVal;go_upto_region 12 with fail
  obtain⟨W8,hW8⟩:∃ W8,w7.setCell ⟨rb,2,.none⟩ (.bool true)=W8:=⟨_,rfl⟩;rw[hW8] at R8 Z8 C8 z0 z1 z2 z3 g0 g1 g2 g3 G8;rw[hW8];clear hW8 c2 f2;go_wp2_with fail
  have G9:=grown_set4 W8 w.heap.size (.int .i64 0) (.int .i64 0) (.int .i64 0) (.int .i64 0)
  refine bodyPost_ret (res_rec rfl _ _ w.heap.size .none rfl (Z8.set4 .none).at) rfl ?_;rw[HPE.out]
  refine Or.inl ⟨j,hp,rfl,R8.off (Off.of_grown G9) nrb' (fun g e1 e2=>by have:=(HRL.out g e1).2;omega),C8.off (Off.of_grown G9) (by omega),?_⟩;exact(O7w.trans (Off.of_grown G8) (fun k _ hs=>Or.inr (Or.inl hs))).trans (Off.of_grown G9) (fun k hk hs=>by omega)
 | zero=>
  have KP:=keep_any B rb bc v L false x w7 R7 (by omega) hl;rw[HNX.out] at KP;have HKP:Hid _:=KP;clear KP;have e0:=X7.at.c0;rw[HX0.out] at e0;have e1:=X7.at.c1;have e2:=X7.at.c2;have e3:=X7.at.c3;unfold errVal;go_wp2_with fail
  refine Calls.mono HKP.out ?_;rintro e w8 ⟨rfl,v',R8,O8,K8⟩;have nz:¬(w.heap.size=rb\/v.ownBlock=some w.heap.size):=by
   rintro(e | e)
   ·exact nrb e
   ·have:=(HRL.out _ e).2;omega
  have nx:¬(W5.heap.size=rb\/v.ownBlock=some W5.heap.size):=by
   rintro(e | e)
   ·omega
   ·have:=(HRL.out _ e).2;omega
  have nc:¬(bc=rb\/v.ownBlock=some bc):=by
   rintro(e | e)
   ·exact hrb e.symm
   ·exact R7.sep.2 e
  have Z8:=Z7.off O8 nz;have X8:=X7.off O8 nx;have C8:=C7.off O8 nc;clear e0 e1 e2 e3 HKP;have e0:=X8.at.c0;rw[HX0.out] at e0;have e1:=X8.at.c1;have e2:=X8.at.c2;have e3:=X8.at.c3;have z0:=Z8.at.c0;have z1:=Z8.at.c1;have z2:=Z8.at.c2;have z3:=Z8.at.c3;have g0:=Z8.frozen 0;have g1:=Z8.frozen 1;have g2:=Z8.frozen 2;have g3:=Z8.frozen 3;go_wp2_with fail
  have Z9:=Z8.set4 x;rw[HX0.out] at Z9;have G9:=grown_set4 w8 w.heap.size (.int .i64 ((y.seq:Int)+1)) (.int .i64 (x.ent:Int)) (.int .i64 (x.kind:Int)) (.int .i64 (x.tick:Int))
  refine bodyPost_ret (res_rec rfl _ _ w.heap.size x rfl Z9.at) rfl ?_;have nv:∀ g,v'.ownBlock=some g->¬g=w.heap.size:=fun g e e2=>by
   rcases K8 g e with e3 | e3
   ·have:=(HRL.out g e3).2;omega
   ·omega
  rw[HPE.out]
  refine Or.inr ⟨hp,HNX.out ▸ rfl,⟨v',R8.off (Off.of_grown G9) nrb' nv,fun k e=>(K8 k e).imp id (fun h=>by omega)⟩,C8.off (Off.of_grown G9) (by omega),?_⟩;exact(O7w.trans O8 (fun k _ hs=>Or.inr hs)).trans (Off.of_grown G9) (fun k hk hs=>by omega)
end Go.Proofs.YtffpcbdlbcjihadGreatDoor
