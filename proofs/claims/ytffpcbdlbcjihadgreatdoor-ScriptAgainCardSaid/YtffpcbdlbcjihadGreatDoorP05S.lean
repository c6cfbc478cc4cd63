/-
  Several texts as one: RingRev, RingNewest, RingSt, RingPut.
-/
import Derived.Test.YtffpcbdlbcjihadGreatDoorP04S
import Derived.Lib.SliceRun
namespace Go.Proofs.YtffpcbdlbcjihadGreatDoor
open Go.RowKit Go.Extern.Stop Go.Stop Go.Extern
theorem turned_mid (L:List Rec)(i k:Nat)(hk:k < (turned L i).length)(h:¬(k < i\/L.length - 1 - i < k)):(turned L i)[k]=L.getD k .none:=by rw[turned_get,if_neg h]
theorem SlRow.drew {w:World}{g cap:Nat}{L:List Rec}(h:SlRow w g cap L):SlRow w.drew g cap L:=⟨h.row⟩
theorem SlRow.below {w w':World}{g cap B:Nat}{L:List Rec}(h:SlRow w g cap L)(hb:Below B w w')(hlt:g < B):SlRow w' g cap L:=by
 obtain⟨cur,hg,h2,h3⟩:=h.row;exact⟨⟨cur,(hb.block g hlt).trans hg,h2,h3⟩⟩
theorem SlRow.raw {w:World}{g cap:Nat}{L:List Rec}(h:SlRow w g cap L)(j:Nat)(u:Value)(hu:(recCells L)[j]?=some u):w.cell? ((⟨g,0,.none⟩:Addr).add j)=some u:=by
 obtain⟨cur,hg,h2,h3⟩:=h.row;have hj:=(List.getElem?_eq_some_iff.1 hu).1;rw[recCells_length] at hj;rw[<- h3,List.getElem?_take,if_pos (by omega)] at hu;have ea:(⟨g,0,.none⟩:Addr).add j=⟨g,j,.none⟩:=by unfold Addr.add;split <;> simp_all
 rw[ea];simp only[World.cell?,hg];simpa using hu
theorem swap_grown {w wr:World}{g:Nat}(hg:w.grownBy wr (some g))(o p:Nat)(v0 v1 v2 v3 v4 v5 v6 v7:Value) :
  w.grownBy ((((((((wr.setCell ⟨g,o,.none⟩ v0).setCell ⟨g,o+1,.none⟩ v1).setCell ⟨g,o+2,.none⟩ v2).setCell ⟨g,o+3,.none⟩ v3).setCell ⟨g,p,.none⟩ v4).setCell ⟨g,p+1,.none⟩ v5).setCell ⟨g,p+2,.none⟩ v6).setCell ⟨g,p+3,.none⟩ v7).drew (some g):=
 grown_below (grown_trans hg (grown_trans (recs_grown _ _ _ _ _ _ _) (recs_grown _ _ _ _ _ _ _))) ((Below.refl _ _).drew)
set_option maxRecDepth 100000 in
set_option maxHeartbeats 4000000 in
theorem reverse_row (g cap:Nat)(L:List Rec)(w:World)(h:SlRow w g cap L)(hl:L.length<=100) :
  Calls Tryz.prog 271 #[.slice (some ⟨g,0,.none⟩) L.length cap] w fun e w'=>e=.returned (.tuple #[])/\SlRow w' g cap L.reverse/\w.grownBy w' (some g)/\w'.heap.size=w.heap.size:=by
 go_enter Tryz.func271,Tryz.ntmps271
 go_wp2_with fail
 go_loopw [2,3] (fun a b wr=>∃ i:Nat,i<=L.length/\a=.int .i64 i/\b=.int .i64 ((L.length:Int) - 1 - i)/\SlRow wr g cap (turned L i)/\w.grownBy wr (some g)/\wr.heap.size=w.heap.size) (fun a _ _=>L.length+1 - (intOf a).toNat)
 case atStart=>exact⟨0,Nat.zero_le _,rfl,by simp,by rw[turned_zero];exact h,grown_refl _ _,rfl⟩
 case round=>
  obtain⟨i,hi,rfl,rfl,hrow,hg,hsz⟩:=hrel
  by_cases hij:(i:Int) < (L.length:Int) - 1 - i
  ·obtain⟨j,hj⟩:∃ j:Nat,(L.length:Int) - 1 - i=j:=⟨L.length - 1 - i,by omega⟩;rw[hj] at hij ⊢;have hlen:=turned_length L i;have mi:=turned_mid L i i (by omega) (by omega);have mj:=turned_mid L i j (by omega) (by omega);obtain⟨⟨a0,a1,a2,a3⟩,p0,p1,p2,p3⟩:=hrow.cells i (by omega);obtain⟨⟨b0,b1,b2,b3⟩,q0,q1,q2,q3⟩:=hrow.cells j (by omega);have R:=(hrow.set i (L.getD j .none) (by omega)).set j (L.getD i .none) (by simp;omega);rw[turned_succ L i j (by omega) (by omega) (by omega)] at R;have HR:Hid _:=R;rw[mi] at a0 a1 a2 a3;rw[mj] at b0 b1 b2 b3;have i0:(0:Int)<=(i:Int):=by omega
   have i1:(i:Int) < (L.length:Int):=by omega
   have j0:(0:Int)<=(j:Int):=by omega
   have j1:(j:Int) < (L.length:Int):=by omega
   have hne:¬i=j:=by omega
   clear R mi mj hrow;generalize L.getD i .none=x at *;generalize L.getD j .none=y at *;go_wp2_with fail
   go_region
   go_wp2_with fail
   exact⟨⟨i+1,by omega,by go_num,by rw[show (j:Int) - 1=(L.length:Int) - 1 - ((i+1:Nat):Int) by omega],HR.out.drew,swap_grown hg _ _ _ _ _ _ _ _ _ _,by simp;exact hsz⟩,by simp[intOf];omega⟩
  ·have e:=turned_end L i hij;rw[e] at hrow;clear e;go_wp2;go_end0
   exact⟨rfl,hrow,hg,hsz⟩
theorem reverse_any (base:Nat)(v:Value)(L:List Rec)(w:World)(h:Recs w base v L)(hl:L.length<=100)(hb:base<=w.heap.size) :
  Calls Tryz.prog 271 #[v] w fun e w'=>e=.returned (.tuple #[])/\Recs w' base v L.reverse/\Below base w w':=by
 rcases h.row_form with ⟨rfl,rfl⟩ | ⟨g,cap,rfl,hbg,hrow,hlc,hm⟩
 ·go_enter Tryz.func271,Tryz.ntmps271
  go_wp2_with fail
  go_loopw [2,3] (fun a b wr=>a=.int .i64 0/\b=.int .i64 (-1)/\wr=w) (fun _ _ _=>0)
  case atStart=>exact⟨rfl,rfl,rfl⟩
  case round=>
   obtain⟨rfl,rfl,rfl⟩:=hrel;go_wp2;go_end0
   exact⟨rfl,h,Below.refl _ _⟩
 ·refine(reverse_row g cap L w hrow hl).mono ?_;rintro e w' ⟨rfl,hr,hg,-⟩;have:=Recs.of_row hr hbg (by simpa using hlc) hm;rw[List.length_reverse] at this;exact⟨rfl,this,below_grown (Below.refl _ _) hg hb hbg⟩
theorem Tryz.infoRec:∃ i:TypeInfo,Tryz.prog.info? 118=some i/\i.zero=some (.agg #[.int .i64 0,.int .i64 0,.int .i64 0,.int .i64 0])/\i.size=4/\i.bytes=32:=by
 have h:(Tryz.prog.info? 118).map (fun i=>(i.zero,i.size,i.bytes))=some (some (.agg #[.int .i64 0,.int .i64 0,.int .i64 0,.int .i64 0]),4,32):=by kernel_rfl
 obtain⟨i,hi,he⟩:=Option.map_eq_some_iff.1 h;simp only[Prod.mk.injEq] at he;exact⟨i,hi,he.1,he.2.1,he.2.2⟩
set_option maxRecDepth 100000 in
set_option maxHeartbeats 4000000 in
theorem clone_any (base:Nat)(v:Value)(L:List Rec)(w:World)(h:Recs w base v L)(hl:L.length<=100) :
  Calls Tryz.prog 245 #[v] w fun e w'=>∃ v',e=.returned v'/\Recs w' w.heap.size v' L/\Below w.heap.size w w':=by
 rcases h.row_form with ⟨rfl,rfl⟩ | ⟨g,cap,rfl,hbg,hrow,hlc,hm⟩
 ·go_enter Tryz.func245,Tryz.ntmps245
  have hq:=Lib.run_eql_slice_nil (P:=Tryz.prog) w 113 118 .none 0 0 0 0 Tryz.underlying113;go_wp2;go_ret;exact⟨_,rfl,World.ownsRow_nil _ _ _ _,Below.refl _ _⟩
 ·go_enter Tryz.func245,Tryz.ntmps245
  have hq:=Lib.run_eql_slice_nil (P:=Tryz.prog) w 113 118 (some ⟨g,0,.none⟩) L.length cap 0 0 Tryz.underlying113;obtain⟨i0,hi,hz0,hz1,hz2⟩:=Tryz.infoRec;have hown:=World.ownsRow_made (base:=w.heap.size) (e:=118) (size:=4) w #[] 0 (Nat.le_refl _) (by decide) rfl;have hcs:Hid (∀ j u,(recCells L)[j]?=some u->(w.alloc (.cells #[] 118)).cell? ((⟨g,0,.none⟩:Addr).add j)=some u):=fun j u hu=>
   (hrow.below ((Below.refl w.heap.size w).alloc (Nat.le_refl _) _) hrow.lt).raw j u hu
  have hones:Hid (∀ u∈recCells L,u.oneCell'=true):=fun u hu=>Array.all_eq_true_iff_forall_mem.1 (recs_one L) u (by simpa using hu)
  have hll:Hid ((recCells L).length=L.length*4):=by show _=_;rw[recCells_length];omega
  clear h hrow;go_wp2_with (at_builtin;refine wpList_append_own _ rfl (.tmp 5) (.tmp 6) 113 rfl w.heap.size 118 i0 (.agg #[.int .i64 0,.int .i64 0,.int .i64 0,.int .i64 0]) 4 32 Tryz.underlying113 hi hz0 hz1 hz2 rfl (by decide) _ _ _ rfl hown ⟨g,0,.none⟩ L.length cap (recCells L) rfl hll.out hcs.out hones.out (by unfold maxLen;omega) (by omega) (by simp) ?_;intro v8 w8 hown8 hgrow8 hlt8)
  go_ret;rw[List.nil_append,Nat.zero_add] at hown8;exact⟨_,rfl,hown8,((Below.refl _ _).alloc (Nat.le_refl _) _).grown hgrow8 (by simp) (fun k hk=>by cases hk;exact Nat.le_refl _)⟩
set_option maxRecDepth 100000 in
set_option maxHeartbeats 2000000 in
theorem held_no (A:Nat->Addr)(b:Nat)(s:CSt)(j:Nat)(w:World)(h:CellsAt w b s)(hs:Sen4 A w)(he:s.err 0 153=j+1) :
  Calls Tryz.prog 228 #[.agg #[.pointer (some ⟨b,0,.none⟩)]] w fun e w'=>e=.returned (.tuple #[.agg zero9,errVal A (j+1)])/\Below w.heap.size w w':=by
 obtain⟨st1,st2,st3,st4⟩:=held_start w (.cells #[.pointer (some ⟨b,0,.none⟩)] 301);have HRD:Hid _:=read_no4 A b s 0 153 j _ (h.below st3) (hs.below st3) (by decide) he;go_enter Tryz.func228,Tryz.ntmps228
 go_wp2_with fail
 refine Calls.mono HRD.out ?_;rintro e w1 ⟨rfl,hw1⟩;rw[<- hw1] at st1 st2 st3 st4;clear hw1 HRD;unfold errVal;go_wp2_with (first | refine wpList_load_row rfl 302 _ rfl (w.heap.size+1+1) rfl _ _ _ _ st1.heap Tryz.underlying302 rfl (info_recs _ (by simp)) ?_ | refine wpList_store_row rfl 302 _ _ rfl (w.heap.size+1) _ rfl rfl 302 _ st2.heap (info_recs _ (by simp)) rfl (recs_one _) ?_)
 refine bodyPost_ret (res_recs rfl _ _ (w.heap.size+1) (List.replicate 9 .none) (by simp) rfl ⟨setRow_heap _ _ _ _ _ _ st2.heap⟩) rfl ?_;exact⟨rfl,below_setRow st3 (by omega) _⟩
theorem box_recs (w:World)(L:List Rec):RecsRow (w.alloc (.cells (recCells L).toArray 302)) w.heap.size L:=⟨heap_alloc_new _ _⟩
theorem recCells_part (L:List Rec):∀ (k:Nat) (hk:k < L.length),((recCells L).drop (k*4)).take 4=L[k].list:=by
 induction L with
 | nil=>intro k hk;simp at hk
 | cons x r ih=>
  intro k hk;rw[recCells_cons]
  cases k with
  | zero=>simp[Rec.list]
  | succ k=>
   rw[List.drop_append,List.drop_eq_nil_of_le (by simp[Rec.list];omega),show (k+1)*4 - x.list.length=k*4 by simp[Rec.list];omega];exact ih k (by simpa using hk)
theorem index_recs (L:List Rec)(k:Nat)(hL:L.length=9)(hk:k < 9)(W:World) :
  (Instr.index 302 (.agg (recCells L).toArray) (.int .i64 (k:Int))).run Tryz.prog W=.ok (L[k]'(by omega)).val W:=by
 have hu:=Tryz.underlying302;have hn:(0:Int)<=(k:Int)/\(k:Int) < 9:=by omega
 simp[Instr.index,run_underlying hu,asIntOf,hn,go_sem]
 rw[if_pos hk,recCells_part L k (by omega)];rfl
def maxSeq (L:List Rec):Nat:=L.foldl (fun m r=>max m r.seq) 0
theorem maxSeq_snoc (L:List Rec)(r:Rec):maxSeq (L++[r])=max (maxSeq L) r.seq:=by simp[maxSeq,List.foldl_append]
theorem maxSeq_lt_from (L:List Rec):∀ m,m < 4294967296->(∀ r∈L,r.seq < 4294967296)->L.foldl (fun m r=>max m r.seq) m < 4294967296:=by
 induction L with
 | nil=>intro m h _;exact h
 | cons r t ih=>intro m h h2;exact ih _ (Nat.max_lt.2 ⟨h,h2 r (by simp)⟩) (fun x hx=>h2 x (by simp[hx]))
theorem maxSeq_lt (L:List Rec)(h:∀ r∈L,r.seq < 4294967296):maxSeq L < 4294967296:=maxSeq_lt_from L 0 (by decide) h
def chain (L:List Rec):Nat->Nat->List Rec
 | 0,_=>[]
 | m+1,n=>if 0 < n/\(L.getD ((n - 1) % 9) .none).seq=n then L.getD ((n - 1) % 9) .none :: chain L m (n - 1) else []
def newestL (L:List Rec):List Rec:=(chain L 8 (maxSeq L)).reverse
theorem cell_four (w:World)(r:Rec)(ty:TypeId):∀ j x,r.list[j]?=some x->(w.alloc (.cells #[.int .i64 (r.seq:Int),.int .i64 (r.ent:Int),.int .i64 (r.kind:Int),.int .i64 (r.tick:Int)] ty)).cell? ((⟨w.heap.size,0,.none⟩:Addr).add j)=some x:=by
 intro j x hj;obtain⟨c0,c1,c2,c3⟩:=RecAt.new w r ty
 match j,hj with
 | 0,hj=>exact c0.trans hj
 | 1,hj=>exact c1.trans hj
 | 2,hj=>exact c2.trans hj
 | 3,hj=>exact c3.trans hj
theorem cell_four' (w:World)(o:Obj)(r:Rec)(ty:TypeId):∀ j x,r.list[j]?=some x->((w.alloc o).alloc (.cells #[.int .i64 (r.seq:Int),.int .i64 (r.ent:Int),.int .i64 (r.kind:Int),.int .i64 (r.tick:Int)] ty)).cell? ((⟨w.heap.size+1,0,.none⟩:Addr).add j)=some x:=by
 have:=cell_four (w.alloc o) r ty;rw[World.size_alloc] at this;exact this
theorem list_one (r:Rec):∀ u∈r.list,u.oneCell'=true:=by
 intro u hu;simp only[Rec.list,List.mem_cons,List.not_mem_nil,or_false] at hu
 rcases hu with rfl | rfl | rfl | rfl <;> rfl
theorem Recs.len {w:World}{base:Nat}{v:Value}{L:List Rec}(h:Recs w base v L):∃ sa c,v=.slice sa L.length c:=by
 rcases h.row_form with ⟨rfl,rfl⟩ | ⟨g,cap,rfl,-⟩
 ·exact⟨_,_,rfl⟩
 ·exact⟨_,_,rfl⟩
theorem Recs.below {w w':World}{base B:Nat}{v:Value}{L:List Rec}(h:Recs w base v L)(hb:Below B w w')(hB:w.heap.size<=B):Recs w' base v L:=by
 rcases h.row_form with ⟨rfl,rfl⟩ | ⟨g,cap,rfl,hbg,hrow,hlc,hm⟩
 ·exact World.ownsRow_nil _ _ _ _
 ·exact Recs.of_row (hrow.below hb (Nat.lt_of_lt_of_le hrow.lt hB)) hbg hlc hm
theorem chain_step (L:List Rec)(m n:Nat)(h:0 < n)(h2:(L.getD ((n - 1) % 9) .none).seq=n):chain L (m+1) n=L.getD ((n - 1) % 9) .none :: chain L m (n - 1):=by
 show (if _ then _ else _)=_
 rw[if_pos ⟨h,h2⟩]
theorem chain_stop (L:List Rec)(m n:Nat)(h:¬(0 < n/\(L.getD ((n - 1) % 9) .none).seq=n)):chain L m n=[]:=by
 cases m with
 | zero=>rfl
 | succ m=>show (if _ then _ else _)=_;rw[if_neg h]
theorem chain_len (L:List Rec):∀ m n,(chain L m n).length<=m:=by
 intro m
 induction m with
 | zero=>intro n;exact Nat.le_refl _
 | succ m ih=>
  intro n;simp only[chain];split;· simp;exact ih _
  ·simp
set_option maxRecDepth 100000 in
set_option maxHeartbeats 2000000 in
theorem newest_any (L:List Rec)(w:World)(hL:L.length=9)(hlt:∀ r∈L,r.seq < 4294967296) :
  Calls Tryz.prog 229 #[.agg (recCells L).toArray] w fun e w'=>∃ v,e=.returned v/\Recs w' (w.heap.size+1) v (newestL L)/\Below w.heap.size w w':=by
 obtain⟨i0,hi,hz0,hz1,hz2⟩:=Tryz.infoRec;have R0:=box_recs w L;have B0:=(Below.refl w.heap.size w).alloc (Nat.le_refl _) (.cells (recCells L).toArray 302);have HML:Hid _:=maxSeq_lt L hlt;go_enter Tryz.func229,Tryz.ntmps229
 go_wp2_with (refine wpList_load_row rfl 302 _ rfl w.heap.size rfl _ _ _ _ R0.heap Tryz.underlying302 rfl (info_recs _ hL) ?_)
 go_loopw [3,10] (fun g i wr=>∃ k:Nat,k<=9/\i=.int .i64 k/\g=.int .i64 (maxSeq (L.take k):Nat)/\RecsRow wr w.heap.size L/\Below w.heap.size w wr) (fun _ i _=>9 - (intOf i).toNat)
 case atStart=>exact⟨0,Nat.zero_le _,rfl,rfl,R0,B0⟩
 case round=>
  obtain⟨k,hk,rfl,rfl,hrow,hb⟩:=hrel
  by_cases h9:k < 9
  ·have ix:=index_recs L k hL h9;unfold Rec.val at ix;have hsz:=hrow.lt;have HT:Hid (maxSeq (L.take (k+1))=max (maxSeq (L.take k)) (L[k]'(by omega)).seq):=by
    show _=_
    rw[List.take_succ_eq_append_getElem (by omega),maxSeq_snoc]
   go_wp2_with fail
   refine⟨⟨k+1,by omega,by go_num,?_,hrow.below ((Below.refl wr.heap.size wr).alloc (Nat.le_refl _) _) hrow.lt,hb.alloc (by omega) _⟩,by simp[intOf];omega⟩;rw[HT.out];congr 1
   first | omega | (split <;> omega)
  ·have ek:L.take k=L:=List.take_of_length_le (by omega);rw[ek];clear ek;have HM:=HML.out;generalize hbest:maxSeq L=best at *;have HNL:Hid (newestL L=(chain L 8 best).reverse):=by show _=_;unfold newestL;rw[hbest]
   have hrl:=hrow.lt;clear hbest HML;go_wp2_with fail
   go_loopw [6,7] (fun v i wx=>∃ (n:Nat) (acc:List Rec),n<=best/\i=.int .i64 n/\acc.length<=8/\acc++chain L (8 - acc.length) n=chain L 8 best/\Recs wx (w.heap.size+1) v acc/\RecsRow wx w.heap.size L/\Below w.heap.size w wx) (fun _ i _=>(intOf i).toNat)
   case atStart=>exact⟨best,[],Nat.le_refl _,rfl,by simp,rfl,World.ownsRow_nil _ _ _ _,hrow,hb⟩
   case round=>
    obtain⟨n,acc,hn,rfl,hacc,hch,hown,hrow2,hb2⟩:=hrel;obtain⟨sa,c,rfl⟩:=hown.len;have hrl2:=hrow2.lt
    by_cases hn0:0 < n
    ·have hn0':(0:Int) < (n:Int):=by omega
     by_cases ha8:acc.length < 8
     ·have ha8':(acc.length:Int) < 8:=by omega
      have hq:(n - 1) % 9 < 9:=Nat.mod_lt _ (by decide);obtain⟨q,hqe⟩:∃ q,(n - 1) % 9=q:=⟨_,rfl⟩;rw[hqe] at hq;have hq0:(0:Int)<=(q:Int):=by omega
      have hq9:(q:Int) < 9:=by omega
      have hgd:L.getD q .none=L[q]'(by omega):=by rw[List.getD_eq_getElem?_getD,List.getElem?_eq_getElem (by omega)];rfl
      obtain⟨c0,c1,c2,c3⟩:=hrow2.cells q (by omega);rw[<- hgd] at c0 c1 c2 c3;clear hgd;have HSTOP:=chain_stop L (8 - acc.length) n;have HSTEP:=chain_step L (8 - (acc.length+1)) n hn0;rw[hqe] at HSTOP HSTEP;generalize L.getD q .none=x at *;go_wp2_with fail
      refine(slotOf_any n _ hn0 (by omega)).mono ?_;rintro e w3 ⟨rfl,rfl⟩;rw[hqe]
      by_cases hseq:x.seq=n
      ·have HS:Hid _:=HSTEP hseq;have B3:=(Below.refl w3.heap.size w3).alloc (Nat.le_refl _) (.cells #[.int .i64 (x.seq:Int),.int .i64 (x.ent:Int),.int .i64 (x.kind:Int),.int .i64 (x.tick:Int)] 118);obtain⟨x0,x1,x2,x3⟩:=RecAt.new w3 x 118;have hown':w3.ownsRow (w.heap.size+1) 118 4 (.slice sa acc.length c) acc.length (recCells acc):=hown;clear HSTOP HSTEP;subst hseq;go_wp2_with (at_builtin;refine wpList_append_own _ rfl (.tmp 36) (.tmp 38) 113 rfl (w.heap.size+1) 118 i0 (.agg #[.int .i64 0,.int .i64 0,.int .i64 0,.int .i64 0]) 4 32 Tryz.underlying113 hi hz0 hz1 hz2 rfl (by decide) _ _ _ rfl ((hown'.alloc _).alloc _) ⟨w3.heap.size+1,0,.none⟩ 1 1 x.list rfl rfl (cell_four' _ _ _ _) (list_one x) (by unfold maxLen;omega) (by omega) (by simp;omega) ?_;intro v8 w8 hown8 hgrow8 hlt8)
       go_roundw
       case rel=>
        have hsz3:w.heap.size+1<=((w3.alloc (.cells #[.int .i64 (x.seq:Int),.int .i64 (x.ent:Int),.int .i64 (x.kind:Int),.int .i64 (x.tick:Int)] 118)).alloc (.cells #[.int .i64 (x.seq:Int),.int .i64 (x.ent:Int),.int .i64 (x.kind:Int),.int .i64 (x.tick:Int)] 118)).heap.size:=by simp;omega
        have BB:Below (w.heap.size+1) w3 w8:=((((Below.refl _ _).alloc (by omega) _).alloc (by simp;omega) _)).grown hgrow8 hsz3 (fun k hk=>(hown'.lt k hk).1)
        refine⟨x.seq - 1,acc++[x],by omega,by go_num,by simp;omega,?_,?_,hrow2.below BB (by omega),hb2.trans (BB.mono (by omega))⟩
        ·rw[List.append_assoc,List.length_append,List.length_singleton,<- hch,show 8 - acc.length=8 - (acc.length+1)+1 by omega,HS.out];rfl
        ·show w8.ownsRow _ _ _ _ (acc++[x]).length _
         rw[recCells_append,List.length_append];exact hown8
       case measure=>simp[intOf];omega
      ·have HS:Hid (chain L 8 best=acc):=by
        show _=_
        rw[<- hch,HSTOP (fun h=>hseq h.2),List.append_nil]
       have hseq':¬(x.seq:Int)=(n:Int):=by omega
       have B3:=(Below.refl w3.heap.size w3).alloc (Nat.le_refl _) (.cells #[.int .i64 (x.seq:Int),.int .i64 (x.ent:Int),.int .i64 (x.kind:Int),.int .i64 (x.tick:Int)] 118);clear HSTOP HSTEP hch hseq;go_wp2_with fail
       refine(reverse_any (w.heap.size+1) _ acc _ (hown.below B3 (by omega)) (by omega) (by simp;omega)).mono ?_;rintro e w5 ⟨rfl,hr5,hb5⟩;go_wp2_with fail
       go_ret
       refine⟨_,rfl,?_,(hb2.trans (B3.mono (by omega))).trans (hb5.mono (by omega))⟩;rw[HNL.out,HS.out];exact hr5
     ·have HS:Hid (chain L 8 best=acc):=by
       show _=_
       rw[<- hch,show 8 - acc.length=0 by omega];simp[chain]
      have ha8':¬(acc.length:Int) < 8:=by omega
      clear hch;go_wp2_with fail
      refine(reverse_any (w.heap.size+1) _ acc _ hown (by omega) (by omega)).mono ?_;rintro e w5 ⟨rfl,hr5,hb5⟩;go_wp2_with fail
      go_ret
      refine⟨_,rfl,?_,hb2.trans (hb5.mono (by omega))⟩;rw[HNL.out,HS.out];exact hr5
    ·have HS:Hid (chain L 8 best=acc):=by
      show _=_
      rw[<- hch,chain_stop L _ n (fun h=>hn0 h.1),List.append_nil]
     have hn0':¬(0:Int) < (n:Int):=by omega
     clear hch;go_wp2_with fail
     refine(reverse_any (w.heap.size+1) _ acc _ hown (by omega) (by omega)).mono ?_;rintro e w5 ⟨rfl,hr5,hb5⟩;go_wp2_with fail
     go_ret
     refine⟨_,rfl,?_,hb2.trans (hb5.mono (by omega))⟩;rw[HNL.out,HS.out];exact hr5
structure RingAt (w:World)(B rb bc:Nat)(v:Value)(L:List Rec)(sp:Bool):Prop where
 heap:w.heap[rb]?=some (.cells #[.pointer (some ⟨bc,0,.none⟩),v,.bool sp] 307 (0,0))
 recs:Recs w B v L
 sep:v.ownBlock≠some rb/\v.ownBlock≠some bc
 lo:B<=rb
theorem RingAt.lt {w:World}{B rb bc:Nat}{v:Value}{L:List Rec}{sp:Bool}(h:RingAt w B rb bc v L sp):rb < w.heap.size:=lt_of_row h.heap
theorem RingAt.c0 {w:World}{B rb bc:Nat}{v:Value}{L:List Rec}{sp:Bool}(h:RingAt w B rb bc v L sp):w.cell? ⟨rb,0,.none⟩=some (.pointer (some ⟨bc,0,.none⟩)):=by simp[World.cell?,h.heap]
theorem RingAt.c1 {w:World}{B rb bc:Nat}{v:Value}{L:List Rec}{sp:Bool}(h:RingAt w B rb bc v L sp):w.cell? ⟨rb,1,.none⟩=some v:=by simp[World.cell?,h.heap]
theorem RingAt.c2 {w:World}{B rb bc:Nat}{v:Value}{L:List Rec}{sp:Bool}(h:RingAt w B rb bc v L sp):w.cell? ⟨rb,2,.none⟩=some (.bool sp):=by simp[World.cell?,h.heap]
theorem RingAt.frozen {w:World}{B rb bc:Nat}{v:Value}{L:List Rec}{sp:Bool}(h:RingAt w B rb bc v L sp)(i:Nat):w.frozen? ⟨rb,i,.none⟩=false:=by simp[World.frozen?,h.heap]
theorem RingAt.below {w w':World}{B rb bc:Nat}{v:Value}{L:List Rec}{sp:Bool}(h:RingAt w B rb bc v L sp)(hb:Below w.heap.size w w'):RingAt w' B rb bc v L sp:=
 ⟨(hb.block rb h.lt).trans h.heap,h.recs.below hb (Nat.le_refl _),h.sep,h.lo⟩
theorem RecsRow.range {w:World}{b:Nat}{L:List Rec}(h:RecsRow w b L):w.rangeAt b 0 (recCells L):=fun j v hv=>by
 rw[Nat.zero_add];simp only[World.cell?,h.heap];simpa using hv
theorem Recs.mono {w:World}{base base':Nat}{v:Value}{L:List Rec}(h:Recs w base v L)(hb:base'<=base):Recs w base' v L:=by
 rcases h.row_form with ⟨rfl,rfl⟩ | ⟨g,cap,rfl,hbg,hrow,hlc,hm⟩
 ·exact World.ownsRow_nil _ _ _ _
 ·exact Recs.of_row hrow (Nat.le_trans hb hbg) hlc hm
theorem Recs.lt {w:World}{base:Nat}{v:Value}{L:List Rec}(h:Recs w base v L):∀ k,v.ownBlock=some k->base<=k/\k < w.heap.size:=World.ownsRow.lt h
theorem RecsRow.drew {w:World}{b:Nat}{L:List Rec}(h:RecsRow w b L):RecsRow w.drew b L:=⟨h.heap⟩
def openL (l:List UInt8):List Rec:=newestL (helds (l.take 153) 9)
theorem helds_lt (l:List UInt8):∀ r∈helds l 9,r.seq < 4294967296:=by
 intro r hr;simp only[helds,List.mem_map,List.mem_range] at hr;obtain⟨i,-,rfl⟩:=hr
 split
 ·unfold slotR
  split
  ·rename_i h;exact(dec_seq h.1).2.1
  ·decide
 ·decide
set_option maxRecDepth 100000 in
set_option maxHeartbeats 2000000 in
theorem open_on (A:Nat->Addr)(bc:Nat)(s:CSt)(w:World)(h:CellsAt w bc s)(hs:Sen4 A w)(he:s.err 0 153=0) :
  Calls Tryz.prog 166 #[.pointer (some ⟨bc,0,.none⟩)] w fun e w'=>∃ rb v,e=.returned (.tuple #[.pointer (some ⟨rb,0,.none⟩),.nilIface])/\RingAt w' w.heap.size rb bc v (openL s.bytes) false/\Below w.heap.size w w':=by
 have B1:=(Below.refl w.heap.size w).alloc (Nat.le_refl _) (.cells #[.pointer (some ⟨bc,0,.none⟩)] 301);have hc1:(w.alloc (.cells #[.pointer (some ⟨bc,0,.none⟩)] 301)).cell? ⟨w.heap.size,0,.none⟩=some (.pointer (some ⟨bc,0,.none⟩)):=World.cell?_alloc_at _ _ _ _ rfl;have HH:Hid _:=held_on A bc s _ (h.below B1) (hs.below B1) he;have hlen:(helds (s.bytes.take 153) 9).length=9:=helds_length _ _;have HN:Hid _:=newest_any (helds (s.bytes.take 153) 9);have HL:Hid _:=helds_lt (s.bytes.take 153);unfold openL;generalize helds (s.bytes.take 153) 9=L at *;go_enter Tryz.func166,Tryz.ntmps166
 go_wp2_with fail
 refine Calls.mono HH.out ?_;rintro e w1 ⟨rfl,hb1⟩;have s1:=hb1.size;simp only[World.size_alloc] at s1;have B2:=B1.trans (hb1.mono (by simp));have c1:=cell_below hb1 hc1;clear hc1 B1 hb1;go_upto_region 5 with (refine wpList_store_row rfl 302 _ _ rfl w1.heap.size _ rfl rfl 302 _ (heap_alloc_new w1 _) (info_recs _ hlen) (by simp[recCells_length,hlen]) (recs_one _) ?_)
 generalize hW:World.setRow (w1.alloc _) w1.heap.size (recCells L).toArray=W;have R5:RecsRow W w1.heap.size L:=by rw[<- hW];exact⟨setRow_heap _ _ _ _ _ _ (heap_alloc_new w1 _)⟩
 have B5:Below w1.heap.size w1 W:=by rw[<- hW];exact below_setRow ((Below.refl _ _).alloc (Nat.le_refl _) _) (Nat.le_refl _) _
 clear hW;have c5:=cell_below B5 c1;have b5:=B2.trans (B5.mono (by omega));have s5:=B5.size;have s6:=R5.lt;have r5:W.rangeAt w1.heap.size 0 (recCells L):=R5.range;have hu:=Tryz.underlying302;have hi:(Tryz.prog.info? 302).map (·.size)=some (recCells L).length:=by rw[recCells_length,hlen];kernel_rfl
 have hl36:(recCells L).length=36:=by rw[recCells_length,hlen]
 have hon:∀ v∈recCells L,v.oneCell'=true:=fun u hu=>Array.all_eq_true_iff_forall_mem.1 (recs_one L) u (by simpa using hu)
 go_upto_region 7 with fail
 go_region_held3 (fun w'=>w'.cell? ⟨w.heap.size,0,.none⟩=some (.pointer (some ⟨bc,0,.none⟩))/\w'.rangeAt w1.heap.size 0 (recCells L)) (first | exact⟨c5,r5⟩ | exact⟨d5,q5⟩ | exact⟨e5 _,f5 _⟩) (first | (go_at_call 229;refine Calls.mono (HN.out _ hlen HL.out) ?_;rintro e w' ⟨v,rfl,hrv,hbv⟩;obtain⟨sa,c,rfl⟩:=hrv.len;have d5:=cell_below hbv c5;have q5:w'.rangeAt w1.heap.size 0 (recCells L):=(R5.drew.below hbv s6).range;have e5:=fun o=>cell_below ((Below.refl w'.heap.size w').alloc (Nat.le_refl _) o) d5;have f5:=fun o=>((R5.drew.below hbv s6).below ((Below.refl w'.heap.size w').alloc (Nat.le_refl _) o) (R5.drew.below hbv s6).lt).range))
 go_wp2_with fail
 go_ret2
 have sv:W.heap.size<=w'.heap.size:=hbv.size;have b6:=b5.drew.trans (hbv.mono (show w.heap.size<=W.heap.size by omega))
 refine⟨_,_,rfl,⟨heap_alloc_new _ _,?_,?_,by omega⟩,b6.alloc (by omega) _⟩
 ·exact(hrv.mono (by show _<=W.heap.size+1;omega)).below ((Below.refl w'.heap.size w').alloc (Nat.le_refl _) _) (Nat.le_refl _)
 ·have hlt:=hrv.lt;have hbc:=h.lt
  constructor
  ·intro e2;have:=(hlt _ e2).2;omega
  ·intro e2;have:=(hlt _ e2).1;have:W.drew.heap.size=W.heap.size:=rfl;omega
theorem CSt.err_fit {s:CSt}{p n:Nat}(h:s.err (p:Int) (n:Int)=0):p+n<=s.size/\s.off=false:=by
 unfold CSt.err at h
 split at h
 ·cases h
 ·split at h
  ·cases h
  ·rename_i h1 h2;exact⟨by omega,by simpa using h2⟩
def CSt.writeE (s:CSt)(p:Nat)(l:List UInt8):CSt × Nat:=if s.err p l.length=0 then s.write p l else (s,s.err p l.length)
def CSt.Low (s:CSt)(n:Nat):Prop:=s.written+n<=1099511627776/\s.left<=9223372036854775807
theorem CSt.err_le (s:CSt)(p n:Int):s.err p n=0\/∃ j,s.err p n=j+1/\j < 11:=by
 unfold CSt.err
 split
 ·exact Or.inr ⟨1,rfl,by decide⟩
 ·split
  ·exact Or.inr ⟨7,rfl,by decide⟩
  ·exact Or.inl rfl
theorem write_any4 (A:Nat->Addr)(b:Nat)(s:CSt)(p:Nat)(t:ByteArray)(w:World)(h:CellsAt w b s)(hs:Sen4 A w)(hb:8<=b)(hl:s.Low t.size)(hp:p<=9223372036854775807) :
  Calls Tryz.prog 329 #[.pointer (some ⟨b,0,.none⟩),.int .i64 (p:Int),.string t] w fun e w'=>e=.returned (errVal A (s.writeE p t.data.toList).2)/\CellsAt w' b (s.writeE p t.data.toList).1/\w.grownBy w' (some b):=by
 have hlen:((t.data.toList.length:Nat):Int)=(t.size:Int):=by simp
 unfold CSt.writeE;rw[hlen]
 rcases s.err_le p t.size with he | ⟨j,he,-⟩
 ·rw[if_pos he];exact(write_on4 A b s p t w h hs hb hl.1 hl.2 he).mono fun e w' ⟨h1,h2,h3,_⟩=>⟨h1,h2,h3⟩
 ·rw[if_neg (by omega),he];exact(write_no4 A b s p t j w h hs (by omega) he).mono fun e w' ⟨h1,h2⟩=>by subst h2;exact⟨h1,h,grown_refl _ _⟩
theorem grown_cell' {w w':World}{b g o:Nat}{v:Value}(h:w.grownBy w' (some b))(hc:w.cell? ⟨g,o,.none⟩=some v)(hne:g≠b):w'.cell? ⟨g,o,.none⟩=some v:=
 World.grownBy.cell h hc (by simpa using hne)
def CSt.zeroAt (s:CSt)(p:Nat):CSt × Nat:=if s.err p 1=0 then (if s.bytes.getD p 0=0 then (s,0) else s.writeE p [0]) else (s,s.err p 1)
theorem box_log (w:World)(b:Nat):(w.alloc (.cells #[.pointer (some ⟨b,0,.none⟩)] 301)).cell? ⟨w.heap.size,0,.none⟩=some (.pointer (some ⟨b,0,.none⟩)):=World.cell?_alloc_at _ _ _ _ rfl
theorem one_text (l:List UInt8)(p:Nat)(hp:p < l.length):((l.drop p).take 1)=[l.getD p 0]:=by
 rw[List.drop_eq_getElem_cons hp,List.getD_eq_getElem?_getD,List.getElem?_eq_getElem hp];rfl
set_option maxRecDepth 100000 in
set_option maxHeartbeats 1000000 in
theorem zero_any (A:Nat->Addr)(b:Nat)(s:CSt)(p:Nat)(w:World)(h:CellsAt w b s)(hs:Sen4 A w)(hb:8<=b)(hl:s.Low 1)(hp:p<=9223372036854775807) :
  Calls Tryz.prog 328 #[.agg #[.pointer (some ⟨b,0,.none⟩)],.int .i64 (p:Int)] w fun e w'=>e=.returned (errVal A (s.zeroAt p).2)/\CellsAt w' b (s.zeroAt p).1/\w.grownBy w' (some b):=by
 have B1:=(Below.refl w.heap.size w).alloc (Nat.le_refl _) (.cells #[.pointer (some ⟨b,0,.none⟩)] 301);have c1:=box_log w b;have h1:=h.below B1;have s1:=hs.below B1;have G1:w.grownBy (w.alloc (.cells #[.pointer (some ⟨b,0,.none⟩)] 301)) (some b):=grown_below (grown_refl _ _) B1;generalize hW:w.alloc (.cells #[.pointer (some ⟨b,0,.none⟩)] 301)=W at *;have HW:Hid _:=hW;clear hW
 rcases s.err_le p 1 with he | ⟨j,he,hj⟩
 ·have hz:=CSt.err_fit (n:=1) he;have hlen:=h.len;have hsz:=h.size;have RD:=read_on4 A b s p 1 W h1 s1 he;rw[one_text s.bytes p (by omega)] at RD;have HRD:Hid _:=RD;clear RD
  by_cases hbz:s.bytes.getD p 0=0
  ·have HZ:Hid (s.zeroAt p=(s,0)):=by show _=_;unfold CSt.zeroAt;rw[if_pos he,if_pos hbz]
   rw[hbz] at HRD;go_enter Tryz.func328,Tryz.ntmps328
   go_wp2_with fail
   rw[HW.out]
   refine Calls.mono HRD.out ?_;rintro e w1 ⟨rfl,rfl⟩;go_wp2;go_ret;rw[HZ.out];exact⟨rfl,h1,G1⟩
  ·have HZ:Hid (s.zeroAt p=s.writeE p [0]):=by show _=_;unfold CSt.zeroAt;rw[if_pos he,if_neg hbz]
   have HWR:Hid _:=write_any4 A b s p ⟨#[0]⟩ W h1 s1 hb hl hp;obtain⟨x,hx⟩:∃ x,s.bytes.getD p 0=x:=⟨_,rfl⟩;rw[hx] at hbz HRD;have hxt:(x == 0)=false:=by rw[beq_eq_false_iff_ne];exact hbz
   go_enter Tryz.func328,Tryz.ntmps328
   go_wp2_with fail
   rw[HW.out]
   refine Calls.mono HRD.out ?_;rintro e w1 ⟨rfl,rfl⟩;go_wp2_with fail
   refine Calls.mono HWR.out ?_;rintro e w2 ⟨rfl,hat2,hg2⟩;go_wp2;go_ret;rw[HZ.out];exact⟨rfl,hat2,grown_trans G1 hg2⟩
 ·have HRD:Hid _:=read_no4 A b s p 1 j W h1 s1 (by omega) he;have HZ:Hid (s.zeroAt p=(s,j+1)):=by show _=_;unfold CSt.zeroAt;rw[if_neg (by omega),he]
  go_enter Tryz.func328,Tryz.ntmps328
  go_wp2_with fail
  rw[HW.out]
  refine Calls.mono HRD.out ?_;rintro e w1 ⟨rfl,rfl⟩;unfold errVal;go_wp2;go_ret;rw[HZ.out];exact⟨rfl,h1,G1⟩
def CSt.putRec (s:CSt)(r:Rec):CSt × Nat:=
 let at':=(r.seq - 1) % 9*17
 let a:=s.zeroAt (at'+16)
 if a.2=0 then
  let b:=a.1.writeE at' (enc16 r)
  if b.2=0 then b.1.writeE (at'+16) [165] else b
 else a
theorem CSt.writeE_low {s:CSt}{n:Nat}(p:Nat)(l:List UInt8)(h:s.Low (l.length+n)):(s.writeE p l).1.Low n:=by
 unfold CSt.writeE
 split
 ·unfold CSt.write
  split
  ·rename_i hc
   refine⟨?_,?_⟩
   ·show (s.puts p (l.take s.left)).written+n<=_
    rw[CSt.puts_written];have:=h.1;have:(l.take s.left).length<=l.length:=by rw[List.length_take];omega
    omega
   ·show (s.puts p (l.take s.left)).left<=_
    rw[CSt.puts_left];have:=h.2
    split <;> omega
  ·refine⟨?_,?_⟩
   ·show (s.puts p l).written+n<=_
    rw[CSt.puts_written];have:=h.1;omega
   ·show (s.puts p l).left<=_
    rw[CSt.puts_left];have:=h.2
    split <;> omega
 ·exact⟨by show s.written+n<=_;have:=h.1;omega,h.2⟩
theorem CSt.zeroAt_low {s:CSt}{n:Nat}(p:Nat)(h:s.Low (1+n)):(s.zeroAt p).1.Low n:=by
 unfold CSt.zeroAt
 split
 ·split
  ·exact⟨by show s.written+n<=_;have:=h.1;omega,h.2⟩
  ·exact CSt.writeE_low p [0] h
 ·exact⟨by show s.written+n<=_;have:=h.1;omega,h.2⟩
theorem enc_parts (r:Rec):∃ E P1 P2:ByteArray,E=⟨(enc r).toArray⟩/\P1.data.toList=enc16 r/\P1.size=16/\P2.data.toList=[165]/\P2.size=1 /\
  (∀ W,(Instr.slice 9 (.string E) Option.none (some (.int .i64 16)) Option.none).run Tryz.prog W=.ok (.string P1) W) /\
  (∀ W,(Instr.slice 9 (.string E) (some (.int .i64 16)) Option.none Option.none).run Tryz.prog W=.ok (.string P2) W):=by
 have hs:(⟨(enc r).toArray⟩:ByteArray).size=17:=by show (enc r).toArray.size=17;rw[List.size_toArray,enc_length]
 refine⟨_,(⟨(enc r).toArray⟩:ByteArray).extract 0 16,(⟨(enc r).toArray⟩:ByteArray).extract 16 17,rfl,?_,by simp[hs],?_,by simp[hs],fun W=>?_,fun W=>?_⟩
 ·rw[Lib.extract_data];show ((enc r).drop 0).take 16=_
  unfold enc;rw[List.drop_zero,List.take_append,enc16_length,List.take_of_length_le (Nat.le_of_eq (enc16_length r))];simp
 ·rw[Lib.extract_data];show ((enc r).drop 16).take 1=_
  unfold enc;rw[List.drop_append,enc16_length,List.drop_eq_nil_of_le (by rw[enc16_length];omega)];rfl
 ·simp[Instr.slice,run_underlying Tryz.underlying9,go_sem,hs]
 ·simp[Instr.slice,run_underlying Tryz.underlying9,go_sem,hs]
theorem put_start (w:World)(b:Nat)(r:Rec):∃ W,((w.alloc (.cells #[.pointer (some ⟨b,0,.none⟩)] 301)).alloc (.cells #[.int .i64 (r.seq:Int),.int .i64 (r.ent:Int),.int .i64 (r.kind:Int),.int .i64 (r.tick:Int)] 118))=W/\W.heap.size=w.heap.size+2/\Below w.heap.size w W/\W.cell? ⟨w.heap.size,0,.none⟩=some (.pointer (some ⟨b,0,.none⟩))/\RecAt W (w.heap.size+1) r:=by
 refine⟨_,rfl,by simp,((Below.refl _ _).alloc (Nat.le_refl _) _).alloc (by simp) _,?_,?_⟩
 ·exact cell_below ((Below.refl _ _).alloc (Nat.le_refl _) _) (box_log w b)
 ·have:=RecAt.new (w.alloc (.cells #[.pointer (some ⟨b,0,.none⟩)] 301)) r 118;rw[World.size_alloc] at this;exact this
set_option maxRecDepth 100000 in
set_option maxHeartbeats 1000000 in
theorem put_any (A:Nat->Addr)(b:Nat)(s:CSt)(r:Rec)(w:World)(h:CellsAt w b s)(hs:Sen4 A w)(hb:8<=b)(hl:s.Low 18)(h1:1<=r.seq)(h2:r.seq < 4294967296) :
  Calls Tryz.prog 309 #[.agg #[.pointer (some ⟨b,0,.none⟩)],r.val] w fun e w'=>e=.returned (errVal A (s.putRec r).2)/\CellsAt w' b (s.putRec r).1/\w.grownBy w' (some b):=by
 obtain⟨W,hW,hsz,B1,c1,R1⟩:=put_start w b r;obtain⟨E,P1,P2,hE,hP1,hP1s,hP2,hP2s,sl1,sl2⟩:=enc_parts r;have hat:=h.below B1;have hsn:=hs.below B1;have hblt:=h.lt;obtain⟨q,hq⟩:∃ q,(r.seq - 1) % 9=q:=⟨_,rfl⟩;have hq9:q < 9:=by rw[<- hq];exact Nat.mod_lt _ (by decide)
 have PR:Hid (s.putRec r=if (s.zeroAt (q*17+16)).2=0 then (if ((s.zeroAt (q*17+16)).1.writeE (q*17) (enc16 r)).2=0 then ((s.zeroAt (q*17+16)).1.writeE (q*17) (enc16 r)).1.writeE (q*17+16) [165] else (s.zeroAt (q*17+16)).1.writeE (q*17) (enc16 r)) else s.zeroAt (q*17+16)):=by
  show _=_
  unfold CSt.putRec;rw[hq]
 have G1:w.grownBy W (some b):=grown_below (grown_refl _ _) B1;have HE:Hid _:=hE;have HW:Hid _:=hW;have EP:Hid ((q:Int)*17+17 - 1=((q*17+16:Nat):Int)):=by show _=_;omega
 have EQ:Hid ((q:Int)*17=((q*17:Nat):Int)):=by show _=_;omega
 have HL:Hid _:=hl;have HLz:Hid _:=CSt.zeroAt_low (n:=17) (q*17+16) hl;have x0:=R1.c0;have x1:=R1.c1;have x2:=R1.c2;have x3:=R1.c3;unfold Rec.val;clear hW h hs hE;go_enter Tryz.func309,Tryz.ntmps309
 go_wp2_with fail
 rw[HW.out]
 refine(slotOf_any r.seq W h1 (by omega)).mono ?_;rintro e w1 ⟨rfl,rfl⟩;rw[hq];go_wp2_with fail
 refine(encode_any r _).mono ?_;rintro e w2 ⟨rfl,hb2⟩;rw[<- HE.out];have c2:=cell_below hb2 c1;have hat2:=hat.below hb2;have hsn2:=hsn.below hb2;have G2:=grown_below G1 hb2;have s2:=hb2.size;clear c1 x0 x1 x2 x3 hat hsn G1 R1;go_wp2_with fail
 rw[EP.out]
 refine(zero_any A b s _ _ hat2 hsn2 hb ⟨by have:=HL.out.1;omega,HL.out.2⟩ (by omega)).mono ?_;rintro e w3 ⟨rfl,hat3,hg3⟩;have c3:=grown_cell' hg3 c2 (by omega);have hsn3:=hsn2.grown hg3 hb;have G3:=grown_trans G2 hg3;clear c2 hat2 hsn2 G2 hg3;generalize hz:s.zeroAt (q*17+16)=z at *;clear hz
 cases hz2:z.2 with
 | succ j=>
  have PR1:Hid (s.putRec r=z):=by show _=_;rw[PR.out,if_neg (by omega)]
  unfold errVal;go_wp2;go_ret;rw[PR1.out,hz2];exact⟨rfl,hat3,G3⟩
 | zero=>
  have HLw:Hid _:=CSt.writeE_low (n:=1) (q*17) (enc16 r) (s:=z.1) (by rw[enc16_length];exact HLz.out);have W1:=fun w' ha hs'=>write_any4 A b z.1 (q*17) P1 w' ha hs' hb (by rw[hP1s];exact⟨by have:=HLz.out.1;omega,HLz.out.2⟩) (by omega)
  rw[hP1] at W1;have HW1:Hid _:=W1;clear W1;have hat3d:CellsAt w3.drew b z.1:=⟨hat3.heap,hat3.len,hat3.size⟩;have hsn3d:Sen4 A w3.drew:=⟨hsn3.c1,hsn3.c2,hsn3.c6,hsn3.c7⟩;have G3d:w.grownBy w3.drew (some b):=grown_below G3 ((Below.refl _ _).drew);unfold errVal;go_upto_region 7 with fail
  rw[EQ.out];go_region_held3 (fun w'=>w'.cell? ⟨w.heap.size,0,.none⟩=some (.pointer (some ⟨b,0,.none⟩))) (first | exact c3 | exact c4) (first | (go_at_call 329;refine Calls.mono (HW1.out _ hat3d hsn3d) ?_;rintro e w4 ⟨rfl,hat4,hg4⟩;have c4:=grown_cell' hg4 (show w3.drew.cell? _=_ from c3) (by omega)))
  have hsn4:=hsn3d.grown hg4 hb;have G4:=grown_trans G3d hg4;have PR2:Hid (s.putRec r=if (z.1.writeE (q*17) (enc16 r)).2=0 then (z.1.writeE (q*17) (enc16 r)).1.writeE (q*17+16) [165] else z.1.writeE (q*17) (enc16 r)):=by show _=_;rw[PR.out,if_pos hz2]
  clear PR c3 hat3 hat3d hsn3d hsn3 G3 G3d hg4 HW1;generalize z.1.writeE (q*17) (enc16 r)=y at *
  cases hy:y.2 with
  | succ j=>
   have PR3:Hid (s.putRec r=y):=by show _=_;rw[PR2.out,if_neg (by omega)]
   unfold errVal;go_wp2;go_ret;rw[PR3.out,hy];exact⟨rfl,hat4,G4⟩
  | zero=>
   have PR3:Hid (s.putRec r=y.1.writeE (q*17+16) [165]):=by show _=_;rw[PR2.out,if_pos hy]
   have W2:=fun w' ha hs'=>write_any4 A b y.1 (q*17+16) P2 w' ha hs' hb (by rw[hP2s];exact HLw.out) (by omega)
   rw[hP2] at W2;have HW2:Hid _:=W2;clear W2;have hat4d:CellsAt w4.drew b y.1:=⟨hat4.heap,hat4.len,hat4.size⟩;have hsn4d:Sen4 A w4.drew:=⟨hsn4.c1,hsn4.c2,hsn4.c6,hsn4.c7⟩;have G4d:w.grownBy w4.drew (some b):=grown_below G4 ((Below.refl _ _).drew);have EP2:Hid ((q:Int)*17+16=((q*17+16:Nat):Int)):=by show _=_;omega
   unfold errVal;go_upto_region 10 with fail
   rw[EP2.out];go_region_held3 (fun w'=>w'.cell? ⟨w.heap.size,0,.none⟩=some (.pointer (some ⟨b,0,.none⟩))) (first | exact c4 | exact c5) (first | (go_at_call 329;refine Calls.mono (HW2.out _ hat4d hsn4d) ?_;rintro e w5 ⟨rfl,hat5,hg5⟩;have c5:=grown_cell' hg5 (show w4.drew.cell? _=_ from c4) (by omega)))
   go_wp2;go_ret;rw[PR3.out];exact⟨rfl,hat5,grown_trans G4d hg5⟩
end Go.Proofs.YtffpcbdlbcjihadGreatDoor
