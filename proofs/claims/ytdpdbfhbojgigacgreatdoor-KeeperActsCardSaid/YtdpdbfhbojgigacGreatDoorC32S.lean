/-
  Several texts as one: RefSl, Ref, RefW, Sim, RefSim, RefApp, RefSum.
-/
import Derived.Test.YtdpdbfhbojgigacGreatDoorC14S
import Derived.Deep.Upon
import Derived.Deep.MidRow
import Derived.BigRegion
import Derived.Lib.Strings
import Derived.Outline
import Derived.Laws.Concat
import Derived.Deep.DeepCutAuto
import Derived.RegionTactic
import Derived.Deep.RegionLaw
namespace Go.Proofs.YtdpdbfhbojgigacGreatDoor
open Go.RowKit Go.Extern.Stop Go.Stop Go.Extern
def MSl (w:World)(B:Nat)(v:Value)(L:List Rec):Prop:=
 (∀ k,v.ownBlock=some k->B<=k/\k < w.heap.size)/\∃ ao g off cap,v=.slice ao L.length cap/\Came w 4 ao g off L.length cap (recCells L)/\cap<=maxLen
theorem MSl.lt {w:World}{B:Nat}{v:Value}{L:List Rec}(h:MSl w B v L):∀ k,v.ownBlock=some k->B<=k/\k < w.heap.size:=h.1
theorem MSl.len {w:World}{B:Nat}{v:Value}{L:List Rec}(h:MSl w B v L):∃ sa c,v=.slice sa L.length c:=by
 obtain⟨-,ao,g,off,cap,rfl,-⟩:=h;exact⟨_,_,rfl⟩
theorem came_block {w w':World}{size:Nat}{ao:Option Addr}{b off len cap:Nat}{olds:List Value}(h:Came w size ao b off len cap olds)(hsz:w.heap.size<=w'.heap.size)(hb:0 < cap->w'.heap[b]?=w.heap[b]?):Came w' size ao b off len cap olds:=by
 refine⟨h.le,h.addr,fun hc=>Nat.lt_of_lt_of_le (h.lt hc) hsz,h.oldsLen,fun j u hu=>?_,fun j hj=>?_⟩
 ·have hj:=(List.getElem?_eq_some_iff.1 hu).1;rw[h.oldsLen] at hj;have hcap:0 < cap:=by
   rcases Nat.eq_zero_or_pos cap with e | e
   ·have:=h.le;rw[e] at this;rw[show len=0 by omega] at hj;simp at hj
   ·exact e
  exact(World.cell?_of_block (a:=⟨b,off+j,.none⟩) (hb hcap)).trans (h.olds j u hu)
 ·have hcap:0 < cap:=by
   rcases Nat.eq_zero_or_pos cap with e | e
   ·rw[e] at hj;simp at hj
   ·exact e
  have hs:=h.spare j hj;exact⟨by rw[World.cell?_of_block (a:=⟨b,off+len*size+j,.none⟩) (hb hcap)];exact hs.1,by rw[World.frozen?_of_block (a:=⟨b,off+len*size+j,.none⟩) (hb hcap)];exact hs.2⟩
theorem MSl.off {w w':World}{B:Nat}{v:Value}{L:List Rec}{S:Nat->Prop}(h:MSl w B v L)(ho:Off S w w')(h2:∀ g,v.ownBlock=some g->¬S g):MSl w' B v L:=by
 obtain⟨hl,ao,g,off,cap,rfl,hc,hm⟩:=h;exact⟨fun k hk=>⟨(hl k hk).1,Nat.lt_of_lt_of_le (hl k hk).2 ho.size⟩,ao,g,off,cap,rfl,came_block hc ho.size (fun hp=>ho.block g (hc.lt hp) (h2 g (by rw[hc.addr hp];rfl))),hm⟩
theorem MSl.below {w w':World}{B:Nat}{v:Value}{L:List Rec}(h:MSl w B v L)(hb:Below w.heap.size w w'):MSl w' B v L:=h.off (Off.of_below hb (fun _=>False)) (fun _ _ e=>e)
theorem MSl.mono {w:World}{B B':Nat}{v:Value}{L:List Rec}(h:MSl w B v L)(hb:B'<=B):MSl w B' v L:=⟨fun k hk=>⟨Nat.le_trans hb (h.1 k hk).1,(h.1 k hk).2⟩,h.2⟩
theorem Recs.msl {w:World}{B:Nat}{v:Value}{L:List Rec}(h:Recs w B v L):MSl w B v L:=by
 refine⟨h.lt,?_⟩
 rcases h.row_form with ⟨rfl,rfl⟩ | ⟨g,cap,rfl,-,hrow,hlc,hm⟩
 ·exact⟨.none,0,0,0,rfl,⟨Nat.le_refl _,fun h=>absurd h (by omega),fun h=>absurd h (by omega),rfl,fun j u hu=>by simp[recCells] at hu,fun j hj=>absurd hj (by simp)⟩,Nat.zero_le _⟩
 ·obtain⟨cur,hg,hcs,hx⟩:=hrow.row
  refine⟨some ⟨g,0,.none⟩,g,0,cap,rfl,⟨hlc,fun _=>rfl,fun _=>hrow.lt,by rw[recCells_length];omega,fun j u hu=>?_,fun j hj=>?_⟩,hm⟩
  ·rw[<- hx] at hu;rw[List.getElem?_take] at hu
   split at hu
   ·simp only[World.cell?,hg];simpa using hu
   ·cases hu
  ·constructor
   ·simp only[World.cell?,hg];have h1:0+L.length*4+j < cur.size:=by rw[hcs];omega
    rw[if_neg (by simp),Array.getElem?_eq_getElem h1];rfl
   ·simp[World.frozen?,hg]
theorem MSl.reads {w:World}{B:Nat}{sa:Option Addr}{n c:Nat}{L:List Rec}(h:MSl w B (.slice sa n c) L):n=L.length/\(L≠[]->∃ g o,sa=some ⟨g,o,.none⟩/\∀ i (h:i < L.length),w.cell? ⟨g,o+i*4,.none⟩=some (.int .i64 (L[i].seq:Int))/\w.cell? ⟨g,o+i*4+1,.none⟩=some (.int .i64 (L[i].ent:Int))/\w.cell? ⟨g,o+i*4+2,.none⟩=some (.int .i64 (L[i].kind:Int))/\w.cell? ⟨g,o+i*4+3,.none⟩=some (.int .i64 (L[i].tick:Int))):=by
 obtain⟨-,ao,g,off,cap,e,hc,-⟩:=h;simp only[Value.slice.injEq] at e;obtain⟨rfl,rfl,rfl⟩:=e
 refine⟨rfl,fun hne=>?_⟩;have hlen:0 < L.length:=List.length_pos_iff.2 hne;have hcap:0 < c:=Nat.lt_of_lt_of_le hlen hc.le
 refine⟨g,off,hc.addr hcap,fun i hi=>?_⟩;have key:∀ j,j < 4->∀ u,L[i].list[j]?=some u->w.cell? ⟨g,off+i*4+j,.none⟩=some u:=fun j hj u hu=>by
  rw[show off+i*4+j=off+(i*4+j) by omega];exact hc.olds (i*4+j) u (by rw[recCells_get L i j hi hj];exact hu)
 exact⟨key 0 (by decide) _ rfl,key 1 (by decide) _ rfl,key 2 (by decide) _ rfl,key 3 (by decide) _ rfl⟩
theorem MSl.tail {w:World}{B g o n c:Nat}{L:List Rec}(h:MSl w B (.slice (some ⟨g,o,.none⟩) n c) L)(hne:L≠[]):MSl w B (.slice (some ⟨g,o+4,.none⟩) (n - 1) (c - 1)) L.tail:=by
 obtain⟨hl,ao,g',off,cap,e,hc,hm⟩:=h;simp only[Value.slice.injEq] at e;obtain⟨rfl,rfl,rfl⟩:=e;have hlen:0 < L.length:=List.length_pos_iff.2 hne;have hle:=hc.le;have hcap:0 < c:=Nat.lt_of_lt_of_le hlen hle;have ha:=hc.addr hcap;simp only[Option.some.injEq,Addr.mk.injEq,and_true] at ha;obtain⟨rfl,rfl⟩:=ha
 refine⟨hl,some ⟨g,o+4,.none⟩,g,o+4,c - 1,by rw[List.length_tail],⟨by rw[List.length_tail];omega,fun _=>rfl,fun _=>hc.lt hcap,by rw[recCells_length];omega,fun j u hu=>?_,fun j hj=>?_⟩,by omega⟩
 ·have hr:recCells L=(L.head hne).list++recCells L.tail:=by
   cases L with
   | nil=>exact absurd rfl hne
   | cons x t=>rfl
  have:=hc.olds (4+j) u (by rw[hr,List.getElem?_append_right (by show (L.head hne).list.length<=_;simp[Rec.list])];simpa[Rec.list] using hu);rw[show o+4+j=o+(4+j) by omega];exact this
 ·rw[List.length_tail] at hj ⊢;have:=hc.spare j (by omega);rw[show o+4+(L.length - 1)*4+j=o+L.length*4+j by omega];exact this
theorem tape_setCells (b:Nat):∀ (vs:List Value) (o:Nat) (w:World),(w.setCells b o vs).tape=w.tape/\(w.setCells b o vs).heap.size=w.heap.size:=by
 intro vs
 induction vs with
 | nil=>intro o w;exact⟨rfl,rfl⟩
 | cons v vs ih=>
  intro o w;have h:=ih (o+1) (w.setCell ⟨b,o,.none⟩ v);exact⟨h.1,h.2.trans (by simp[World.setCell])⟩
theorem recCells_snoc (L:List Rec)(x:Rec):recCells (L++[x])=recCells L++x.list:=by simp[recCells]
theorem MSl.append {B:Nat}{v:Value}{L:List Rec}{w:World}(h:MSl w B v L)(x:Rec)(ty:TypeId)(a:Addr)(c:Nat)(hx:∀ j u,x.list[j]?=some u->w.cell? (a.add j)=some u)(hl:L.length<=100)(hB:B<=w.heap.size) :
  ∃ v' w',(Builtin.append_ #[52,52] ty #[v,.slice (some a) 1 c]).run Tryz.prog w=.ok v' w'/\MSl w' B v' (L++[x])/\Off (fun k=>v.ownBlock=some k) w w'/\(∀ k,v'.ownBlock=some k->v.ownBlock=some k\/k=w.heap.size):=by
 obtain⟨i0,hi,hz0,hz1,hz2⟩:=Tryz.infoRec;obtain⟨hlt,ao,g,off,cap,rfl,hc,hm⟩:=h;have hone:∀ u∈x.list,u.oneCell'=true:=list_one x;have hsrc:Src Tryz.prog 4 52 (.slice (some a) 1 c) 1 x.list w:=Src.ofSlice w Tryz.underlying52 a 1 c x.list rfl hx hone;have hle:=hc.le;have hol:=hc.oldsLen;have hll:(L++[x]).length=L.length+1:=by simp
 have hxl:x.list.length=4:=rfl
 by_cases hroom:L.length+1<=cap
 ·have hcap:0 < cap:=by omega
  obtain rfl:=hc.addr hcap;have hsome:∀ j,j < x.list.length->(w.cell? ⟨g,off+L.length*4+j,.none⟩).isSome=true:=fun j hj=>(hc.spare j (by omega)).1
  have hrun:=run_append_room_src (P:=Tryz.prog) w 52 52 ty 57 i0 Tryz.underlying52 hi g off L.length cap (.slice (some a) 1 c) 1 x.list (by rw[hz1];exact hsrc) hroom (by rw[hz1];exact hsome) (by rw[hz1];exact fun j hj=>(hc.spare j (by omega)).2);rw[hz1] at hrun;obtain⟨ht1,ht2⟩:=tape_setCells g x.list (off+L.length*4) w
  refine⟨_,_,hrun,⟨fun k hk=>by rw[ht2];exact hlt k hk,some ⟨g,off,.none⟩,g,off,cap,by rw[hll],⟨by rw[hll];exact hroom,fun _=>rfl,fun _=>by rw[ht2];exact hc.lt hcap,by rw[recCells_length];omega,fun j u hu=>?_,fun j hj=>?_⟩,hm⟩,⟨World.os_setCells _ _ _ _,ht1,World.output_setCells _ _ _ _,by rw[ht2];exact Nat.le_refl _,fun k hk hn=>World.heap_setCells_other w g _ _ hk (fun e=>hn (by rw[e];rfl))⟩,fun k hk=>Or.inl hk⟩
  ·rw[recCells_snoc] at hu
   by_cases hj:j < (recCells L).length
   ·rw[List.getElem?_append_left hj] at hu;rw[World.cell?_setCells_out g _ _ _ _ (fun _ _=>Or.inl (by show off+j < off+L.length*4;omega))];exact hc.olds j u hu
   ·rw[List.getElem?_append_right (by omega)] at hu;have hj2:=(List.getElem?_eq_some_iff.1 hu).1;have:=World.cell?_setCells_in g x.list (off+L.length*4) w hsome (j - (recCells L).length) hj2;rw[show off+L.length*4+(j - (recCells L).length)=off+j by omega] at this;rw[this,<- hu,List.getElem?_eq_getElem hj2]
  ·rw[hll] at hj ⊢;have hs:=hc.spare (j+4) (by omega);rw[show off+(L.length+1)*4+j=off+L.length*4+(j+4) by omega];exact⟨World.isSome_setCells g _ _ _ _ hs.1,(World.frozen?_setCells g _ _ _ _).trans hs.2⟩
 ·have hold:(Builtin.firstCells i0.size L.length (.slice ao L.length cap)).run Tryz.prog w.drew=.ok (recCells L).toArray w.drew:=by
   rw[hz1]
   rcases Nat.eq_zero_or_pos cap with h0 | hcap
   ·subst h0;have hl0:L.length=0:=by omega
    obtain rfl:L=[]:=List.length_eq_zero_iff.1 hl0
    cases ao with
    | none=>exact run_firstCells_none w.drew 4 0 0 0
    | some a'=>exact run_firstCells_some w.drew 4 0 a' 0 0 [] (by simp) (by intro _ _ h';simp at h')
   ·rw[hc.addr hcap]
    refine run_firstCells_some w.drew 4 L.length ⟨g,off,.none⟩ L.length cap (recCells L) hol (fun j u hu=>?_);rw[Addr.add_lit];exact hc.olds j u hu
  have hrun:=run_append_grow_src (P:=Tryz.prog) w 52 52 ty 57 i0 (.agg #[.int .i64 0,.int .i64 0,.int .i64 0,.int .i64 0]) Tryz.underlying52 hi hz0 ao L.length cap (recCells L) hold (.slice (some a) 1 c) 1 x.list (by rw[hz1];exact hsrc) (by omega) (by omega) (by rw[hz2];exact growslice_fits (by omega) (by omega));have hge:=grownCap_ge w (L.length+1) cap 57;have hcm:=grownCap_le_maxLen w (L.length+1) cap 57 (by unfold maxLen;omega);have hzc:(Value.agg #[.int .i64 0,.int .i64 0,.int .i64 0,.int .i64 0]).cells.size=4:=rfl;have hL4:(recCells L++x.list).length=(L.length+1)*4:=by rw[List.length_append,hol,hxl];omega
  generalize hC:((recCells L++x.list).toArray++Builtin.zeroCells (Value.agg #[.int .i64 0,.int .i64 0,.int .i64 0,.int .i64 0]).cells (grownCap w (L.length+1) cap 57 - (L.length+1)))=C at hrun;have hCs:C.size=grownCap w (L.length+1) cap 57*4:=by
   rw[<- hC,Array.size_append,List.size_toArray,hL4,size_zeroCells,hzc];omega
  refine⟨_,_,hrun,⟨fun k hk=>?_,some ⟨w.heap.size,0,.none⟩,w.heap.size,0,_,by rw[hll],⟨by rw[hll];exact hge,fun _=>rfl,fun _=>by simp,by rw[recCells_length];omega,fun j u hu=>?_,fun j hj=>?_⟩,hcm⟩,⟨rfl,rfl,rfl,by simp,fun k hk _=>Below.heap_alloc w.drew _ k hk⟩,fun k hk=>Or.inr ?_⟩
  ·simp only[Value.ownBlock,Option.some.injEq] at hk;subst hk;exact⟨hB,by simp⟩
  ·rw[recCells_snoc] at hu;have e1:(w.drew.alloc (.cells C 57)).cell? ⟨w.heap.size,0+j,.none⟩=C[0+j]?:=World.cell?_alloc_new w.drew _ _ _;have hj:=(List.getElem?_eq_some_iff.1 hu).1;rw[e1,Nat.zero_add,<- hC,Array.getElem?_append_left (by simpa using hj),List.getElem?_toArray,hu]
  ·rw[hll] at hj ⊢;have e1:(w.drew.alloc (.cells C 57)).cell? ⟨w.heap.size,0+(L.length+1)*4+j,.none⟩=C[0+(L.length+1)*4+j]?:=World.cell?_alloc_new w.drew _ _ _
   refine⟨?_,World.frozen?_alloc_new w.drew _ _ _⟩;rw[e1,Array.getElem?_eq_getElem (by rw[hCs];omega)];rfl
  ·simp only[Value.ownBlock,Option.some.injEq] at hk;exact hk.symm
structure MSt where
 B:ByteArray
 off:Bool
 left:Nat
 cuts:Bool
 written:Nat
def MSt.row (m:MSt):Array Value:=#[.string m.B,.bool m.off,.int .i64 (m.left:Int),.bool m.cuts,.int .i64 (m.written:Int)]
structure ModAt (w:World)(b:Nat)(m:MSt):Prop where
 heap:w.heap[b]?=some (.cells m.row 78 (0,0))
theorem ModAt.cell {w:World}{b:Nat}{m:MSt}(h:ModAt w b m)(i:Nat):w.cell? ⟨b,i,none⟩=m.row[i]?:=by simp[World.cell?,h.heap]
theorem ModAt.frozen {w:World}{b:Nat}{m:MSt}(h:ModAt w b m)(i:Nat):w.frozen? ⟨b,i,none⟩=false:=by simp[World.frozen?,h.heap]
theorem ModAt.c0 {w:World}{b:Nat}{m:MSt}(h:ModAt w b m):w.cell? ⟨b,0,none⟩=some (.string m.B):=h.cell 0
theorem ModAt.c1 {w:World}{b:Nat}{m:MSt}(h:ModAt w b m):w.cell? ⟨b,1,none⟩=some (.bool m.off):=h.cell 1
theorem ModAt.c2 {w:World}{b:Nat}{m:MSt}(h:ModAt w b m):w.cell? ⟨b,2,none⟩=some (.int .i64 (m.left:Int)):=h.cell 2
theorem ModAt.c3 {w:World}{b:Nat}{m:MSt}(h:ModAt w b m):w.cell? ⟨b,3,none⟩=some (.bool m.cuts):=h.cell 3
theorem ModAt.c4 {w:World}{b:Nat}{m:MSt}(h:ModAt w b m):w.cell? ⟨b,4,none⟩=some (.int .i64 (m.written:Int)):=h.cell 4
theorem ModAt.lt {w:World}{b:Nat}{m:MSt}(h:ModAt w b m):b < w.heap.size:=lt_of_row h.heap
theorem ModAt.set {w:World}{b:Nat}{m m':MSt}(h:ModAt w b m)(i:Nat)(v:Value)(hr:m.row.setIfInBounds i v=m'.row):ModAt (w.setCell ⟨b,i,none⟩ v) b m':=by
 refine⟨?_⟩;simp only[World.setCell,Array.getElem?_modify,h.heap];simp[hr]
theorem ModAt.set0 {w:World}{b:Nat}{m:MSt}(h:ModAt w b m)(x:ByteArray):ModAt (w.setCell ⟨b,0,none⟩ (.string x)) b { m with B:=x }:=h.set _ _ rfl
theorem ModAt.set1 {w:World}{b:Nat}{m:MSt}(h:ModAt w b m)(x:Bool):ModAt (w.setCell ⟨b,1,none⟩ (.bool x)) b { m with off:=x }:=h.set _ _ rfl
theorem ModAt.set2 {w:World}{b:Nat}{m:MSt}(h:ModAt w b m)(x:Nat):ModAt (w.setCell ⟨b,2,none⟩ (.int .i64 (x:Int))) b { m with left:=x }:=h.set _ _ rfl
theorem ModAt.set3 {w:World}{b:Nat}{m:MSt}(h:ModAt w b m)(x:Bool):ModAt (w.setCell ⟨b,3,none⟩ (.bool x)) b { m with cuts:=x }:=h.set _ _ rfl
theorem ModAt.set4 {w:World}{b:Nat}{m:MSt}(h:ModAt w b m)(x:Nat):ModAt (w.setCell ⟨b,4,none⟩ (.int .i64 (x:Int))) b { m with written:=x }:=h.set _ _ rfl
theorem ModAt.below {w w':World}{b:Nat}{m:MSt}(h:ModAt w b m)(hb:Below w.heap.size w w'):ModAt w' b m:=⟨row_below hb h.heap⟩
theorem ModAt.other {w w':World}{b c:Nat}{m:MSt}(h:ModAt w b m)(hg:w.grownBy w' (some c))(hne:b≠c):ModAt w' b m:=
 ⟨(hg.block b h.lt (by simpa using hne)).trans h.heap⟩
theorem mon_any (b:Nat)(m:MSt)(w:World)(h:ModAt w b m) :
  Calls Tryz.prog 115 #[.pointer (some ⟨b,0,none⟩)] w fun e w'=>e=.returned (.tuple #[])/\ModAt w' b { m with off:=false,cuts:=false }/\w.grownBy w' (some b)/\w'.heap.size=w.heap.size:=by
 have c1:=h.c1;have c3:=h.c3;have f1:=h.frozen 1;have f3:=h.frozen 3;go_enter Tryz.func115,Tryz.ntmps115
 go_wp2;go_end0
 exact⟨rfl,(h.set1 false).set3 false,grown_set (grown_set (grown_refl _ _) _ _) _ _,by simp⟩
theorem mcut_on (b:Nat)(m:MSt)(n:Nat)(w:World)(h:ModAt w b m)(ho:m.off=false) :
  Calls Tryz.prog 76 #[.pointer (some ⟨b,0,none⟩),.int .i64 (n:Int)] w fun e w'=>e=.returned (.int .i64 0)/\ModAt w' b { m with cuts:=true,left:=n }/\w.grownBy w' (some b)/\w'.heap.size=w.heap.size:=by
 have c1:=h.c1;have c2:=h.c2;have c3:=h.c3;have f2:=h.frozen 2;have f3:=h.frozen 3;have g0:¬(n:Int) < 0:=by omega
 rw[ho] at c1;have R:=(h.set3 true).set2 n;clear h ho;go_enter Tryz.func76,Tryz.ntmps76
 go_wp2;go_ret;exact⟨rfl,R,grown_set (grown_set (grown_refl _ _) _ _) _ _,by simp⟩
theorem mcut_low (b:Nat)(n:Int)(w:World)(hn:n < 0) :
  Calls Tryz.prog 76 #[.pointer (some ⟨b,0,none⟩),.int .i64 n] w fun e w'=>e=.returned (.int .i64 2)/\w'=w:=by
 go_enter Tryz.func76,Tryz.ntmps76
 go_wp2;go_ret;exact⟨rfl,rfl⟩
theorem mcut_off (b:Nat)(m:MSt)(n:Int)(w:World)(h:ModAt w b m)(hn:¬n < 0)(ho:m.off=true) :
  Calls Tryz.prog 76 #[.pointer (some ⟨b,0,none⟩),.int .i64 n] w fun e w'=>e=.returned (.int .i64 8)/\w'=w:=by
 have c1:=h.c1;rw[ho] at c1;go_enter Tryz.func76,Tryz.ntmps76
 go_wp2;go_ret;exact⟨rfl,rfl⟩
def MSt.err (m:MSt)(p n:Int):Nat:=if p < 0\/n < 0\/(m.B.size:Int) - p < n then 2 else if m.off=true then 8 else 0
set_option maxHeartbeats 1000000 in
theorem merr_any (b:Nat)(m:MSt)(p n:Int)(w:World)(h:ModAt w b m)(hz:m.B.size<=4096)(hp:p<=9223372036854775807) :
  Calls Tryz.prog 212 #[.pointer (some ⟨b,0,none⟩),.int .i64 p,.int .i64 n] w fun e w'=>e=.returned (.int .i64 (m.err p n:Nat))/\w'=w:=by
 have c0:=h.c0;have c1:=h.c1;clear h
 by_cases h1:p < 0
 ·have E:Hid (m.err p n=2):=if_pos (Or.inl h1);go_enter Tryz.func212,Tryz.ntmps212
  go_wp2;go_ret;rw[E.out];exact⟨rfl,rfl⟩
 by_cases h2:n < 0
 ·have E:Hid (m.err p n=2):=if_pos (Or.inr (Or.inl h2));go_enter Tryz.func212,Tryz.ntmps212
  go_wp2;go_ret;rw[E.out];exact⟨rfl,rfl⟩
 by_cases h3:(m.B.size:Int) < p
 ·have E:Hid (m.err p n=2):=if_pos (Or.inr (Or.inr (by omega)));go_enter Tryz.func212,Tryz.ntmps212
  go_wp2;go_ret;rw[E.out];exact⟨rfl,rfl⟩
 by_cases h4:(m.B.size:Int) - p < n
 ·have E:Hid (m.err p n=2):=if_pos (Or.inr (Or.inr h4));go_enter Tryz.func212,Tryz.ntmps212
  go_wp2;go_ret;rw[E.out];exact⟨rfl,rfl⟩
 have hno:¬(p < 0\/n < 0\/(m.B.size:Int) - p < n):=by omega
 cases ho:m.off
 ·have E:Hid (m.err p n=0):=by show _=_;unfold MSt.err;rw[if_neg hno,ho];rfl
  clear hno;go_enter Tryz.func212,Tryz.ntmps212
  go_wp2;go_ret;rw[E.out];exact⟨rfl,rfl⟩
 ·have E:Hid (m.err p n=8):=by show _=_;unfold MSt.err;rw[if_neg hno,ho];rfl
  clear hno;go_enter Tryz.func212,Tryz.ntmps212
  go_wp2;go_ret;rw[E.out];exact⟨rfl,rfl⟩
theorem ModAt.drew {w:World}{b:Nat}{m:MSt}(h:ModAt w b m):ModAt w.drew b m:=⟨h.heap⟩
def MSt.splice (m:MSt)(p k:Nat)(t:ByteArray):ByteArray:=m.B.extract 0 p++t.extract 0 k++m.B.extract (p+k) m.B.size
set_option maxHeartbeats 1000000 in
theorem mwrite_no (b:Nat)(m:MSt)(p:Int)(t:ByteArray)(j:Nat)(w:World)(h:ModAt w b m)(hz:m.B.size<=4096)(hp:p<=9223372036854775807)(he:m.err p t.size=j+1) :
  Calls Tryz.prog 213 #[.pointer (some ⟨b,0,none⟩),.int .i64 p,.string t] w fun e w'=>e=.returned (.int .i64 ((j+1:Nat):Int))/\w'=w:=by
 have HE:Hid _:=he;have hpos:(0:Int) < ((j+1:Nat):Int):=by omega
 clear he;go_enter Tryz.func213,Tryz.ntmps213
 go_wp2_with fail
 refine(merr_any b m p t.size _ h hz hp).mono ?_;rintro e w1 ⟨rfl,rfl⟩;rw[HE.out];go_wp2;go_ret;exact⟨rfl,rfl⟩
set_option maxRecDepth 100000 in
set_option maxHeartbeats 4000000 in
theorem mwrite_cut (b:Nat)(m:MSt)(p:Nat)(t:ByteArray)(w:World)(h:ModAt w b m)(hz:m.B.size<=4096)(he:m.err p t.size=0)(hc:m.cuts=true)(hl:m.left < t.size)(hw:m.written+t.size<=1099511627776) :
  Calls Tryz.prog 213 #[.pointer (some ⟨b,0,none⟩),.int .i64 (p:Int),.string t] w fun e w'=>e=.returned (.int .i64 8)/\ModAt w' b { B:=m.splice p m.left t,off:=true,left:=0,cuts:=true,written:=m.written+m.left }/\w.grownBy w' (some b)/\w'.heap.size=w.heap.size:=by
 have hfit:p+t.size<=m.B.size:=by
  unfold MSt.err at he
  split at he
  ·cases he
  ·omega
 have HE:Hid _:=he;clear he;have hl':(m.left:Int) < (t.size:Int):=by omega
 have c0:=h.c0;have c1:=h.c1;have c2:=h.c2;have c3:=h.c3;have c4:=h.c4;rw[hc] at c3;have f0:=h.frozen 0;have f1:=h.frozen 1;have f2:=h.frozen 2;have f4:=h.frozen 4;have hp1:(0:Int)<=(p:Int):=by omega
 have hp2:(p:Int)<=(m.B.size:Int):=by omega
 have hp3:(p:Int)+(m.left:Int)<=(m.B.size:Int):=by omega
 go_enter Tryz.func213,Tryz.ntmps213
 go_wp2_with fail
 refine(merr_any b m p t.size _ h hz (by omega)).mono ?_;rintro e w1 ⟨rfl,rfl⟩;rw[HE.out];go_upto_region 8 with fail
 go_region
 go_wp2;go_ret;have R:=((((h.set1 true).set0 (m.splice p m.left t)).set4 (m.written+m.left)).set2 0).drew;have ew:((m.written+m.left:Nat):Int)=(m.written:Int)+(m.left:Int):=by omega
 have ez:((0:Nat):Int)=0:=rfl;rw[ew,ez] at R;rw[hc] at R;exact⟨rfl,R,grown_below (grown_set (grown_set (grown_set (grown_set (grown_refl _ _) _ _) _ _) _ _) _ _) ((Below.refl _ _).drew),by simp⟩
def MSt.spliceAll (m:MSt)(p:Nat)(t:ByteArray):ByteArray:=m.B.extract 0 p++t++m.B.extract (p+t.size) m.B.size
set_option maxRecDepth 100000 in
set_option maxHeartbeats 4000000 in
theorem mwrite_nocut (b:Nat)(m:MSt)(p:Nat)(t:ByteArray)(w:World)(h:ModAt w b m)(hz:m.B.size<=4096)(he:m.err p t.size=0)(hc:m.cuts=false)(hw:m.written+t.size<=1099511627776) :
  Calls Tryz.prog 213 #[.pointer (some ⟨b,0,none⟩),.int .i64 (p:Int),.string t] w fun e w'=>e=.returned (.int .i64 0)/\ModAt w' b { m with B:=m.spliceAll p t,written:=m.written+t.size }/\w.grownBy w' (some b)/\w'.heap.size=w.heap.size:=by
 have hfit:p+t.size<=m.B.size/\m.off=false:=by
  unfold MSt.err at he
  split at he
  ·cases he
  ·split at he
   ·cases he
   ·rename_i h1 h2;exact⟨by omega,by simpa using h2⟩
 obtain⟨hfit,hoff⟩:=hfit;have HE:Hid _:=he;clear he;have c0:=h.c0;have c1:=h.c1;have c2:=h.c2;have c3:=h.c3;have c4:=h.c4;rw[hoff] at c1;rw[hc] at c3;have f0:=h.frozen 0;have f2:=h.frozen 2;have f4:=h.frozen 4;have hp1:(0:Int)<=(p:Int):=by omega
 have hp2:(p:Int)<=(m.B.size:Int):=by omega
 have hp3:(p:Int)+(t.size:Int)<=(m.B.size:Int):=by omega
 have ew:((m.written+t.size:Nat):Int)=(m.written:Int)+(t.size:Int):=by omega
 have R:=((h.set0 (m.spliceAll p t)).set4 (m.written+t.size)).drew;rw[ew] at R;have HR:Hid _:=R;clear hc ew R hoff;go_enter Tryz.func213,Tryz.ntmps213
 go_wp2_with fail
 refine(merr_any b m p t.size _ h hz (by omega)).mono ?_;rintro e w1 ⟨rfl,rfl⟩;rw[HE.out];go_upto_region 8 with fail
 go_region
 go_wp2;go_ret;exact⟨rfl,HR,grown_below (grown_set (grown_set (grown_refl _ _) _ _) _ _) ((Below.refl _ _).drew),by simp⟩
set_option maxRecDepth 100000 in
set_option maxHeartbeats 4000000 in
theorem mwrite_room (b:Nat)(m:MSt)(p:Nat)(t:ByteArray)(w:World)(h:ModAt w b m)(hz:m.B.size<=4096)(he:m.err p t.size=0)(hc:m.cuts=true)(hl:t.size<=m.left)(hl3:m.left<=9223372036854775807)(hw:m.written+t.size<=1099511627776) :
  Calls Tryz.prog 213 #[.pointer (some ⟨b,0,none⟩),.int .i64 (p:Int),.string t] w fun e w'=>e=.returned (.int .i64 0)/\ModAt w' b { m with B:=m.spliceAll p t,written:=m.written+t.size,left:=m.left - t.size }/\w.grownBy w' (some b)/\w'.heap.size=w.heap.size:=by
 have hfit:p+t.size<=m.B.size/\m.off=false:=by
  unfold MSt.err at he
  split at he
  ·cases he
  ·split at he
   ·cases he
   ·rename_i h1 h2;exact⟨by omega,by simpa using h2⟩
 obtain⟨hfit,hoff⟩:=hfit;have HE:Hid _:=he;clear he;have c0:=h.c0;have c1:=h.c1;have c2:=h.c2;have c3:=h.c3;have c4:=h.c4;rw[hoff] at c1;rw[hc] at c3;have f0:=h.frozen 0;have f2:=h.frozen 2;have f4:=h.frozen 4;have hp1:(0:Int)<=(p:Int):=by omega
 have hp2:(p:Int)<=(m.B.size:Int):=by omega
 have hp3:(p:Int)+(t.size:Int)<=(m.B.size:Int):=by omega
 have ew:((m.written+t.size:Nat):Int)=(m.written:Int)+(t.size:Int):=by omega
 have el:((m.left - t.size:Nat):Int)=(m.left:Int) - (t.size:Int):=by omega
 have hl':¬(m.left:Int) < (t.size:Int):=by omega
 have R:=(((h.set0 (m.spliceAll p t)).set4 (m.written+t.size)).set2 (m.left - t.size)).drew;rw[ew,el] at R;have HR:Hid _:=R;clear hc ew el R hoff;go_enter Tryz.func213,Tryz.ntmps213
 go_wp2_with fail
 refine(merr_any b m p t.size _ h hz (by omega)).mono ?_;rintro e w1 ⟨rfl,rfl⟩;rw[HE.out];go_upto_region 8 with fail
 go_region
 go_wp2;go_ret;exact⟨rfl,HR,grown_below (grown_set (grown_set (grown_set (grown_refl _ _) _ _) _ _) _ _) ((Below.refl _ _).drew),by simp⟩
end Go.Proofs.YtdpdbfhbojgigacGreatDoor
namespace Go.Proofs.YtdpdbfhbojgigacGreatDoor
open Go.RowKit
structure Sim (s:CSt)(m:MSt):Prop where
 len:s.bytes.length=4096
 size:s.size<=4096
 b:m.B.data.toList=s.bytes.take s.size
 off:m.off=s.off
 cut:m.cuts=s.cut
 left:s.cut=true->m.left=s.left
 written:m.written=s.written
 bl:s.left<=9223372036854775807
 bm:m.left<=9223372036854775807
theorem Sim.bsize {s:CSt}{m:MSt}(h:Sim s m):m.B.size=s.size:=by
 have:=congrArg List.length h.b;rw[List.length_take,h.len] at this;have e:m.B.data.toList.length=m.B.size:=by simp
 have:=h.size;omega
theorem Sim.err {s:CSt}{m:MSt}(h:Sim s m)(p n:Int):m.err p n=s.err p n:=by
 unfold MSt.err CSt.err;rw[h.bsize,h.off]
theorem Sim.bytes {s:CSt}{m:MSt}(h:Sim s m):(s.bytes.take s.size).toArray=m.B.data:=by rw[<- h.b]
theorem take_part (l x:List UInt8)(p k z:Nat)(hk:x.length=k)(h:p+k<=z)(hz:z<=l.length):(l.take p++x++l.drop (p+k)).take z=(l.take z).take p++x++(l.take z).drop (p+k):=by
 have h1:(l.take p++x).length=p+k:=by simp[hk];omega
 rw[List.take_append,h1,List.take_of_length_le (by rw[h1];exact h),List.take_take,List.drop_take];congr 2
 ·congr 2;omega
theorem Sim.spliced {s:CSt}{m:MSt}(h:Sim s m)(p k:Nat)(t x:ByteArray)(hk:k<=t.size)(hf:p+t.size<=s.size)(hx:x.data.toList=t.data.toList.take k) :
  (m.B.extract 0 p++x++m.B.extract (p+k) m.B.size).data.toList=(s.puts p (t.data.toList.take k)).bytes.take (s.puts p (t.data.toList.take k)).size:=by
 have hz:=h.size;have hl:(t.data.toList.take k).length=k:=by rw[List.length_take];simp;omega
 rw[CSt.puts_size,CSt.puts_bytes _ s p (by rw[hl,h.len];omega),hl,take_part _ _ p k s.size hl (by omega) (by rw[h.len];exact hz)];simp only[ByteArray.data_append,Array.toList_append,Lib.extract_data,hx,h.b,h.bsize,List.drop_zero,Nat.sub_zero];congr 1
 rw[List.take_of_length_le];simp[h.len]
 omega
theorem puts_len (l:List UInt8):∀ (s:CSt) (p:Nat),(s.puts p l).bytes.length=s.bytes.length:=by
 induction l with
 | nil=>intro s p;rfl
 | cons y r ih=>intro s p;simp only[CSt.puts,ih];simp[CSt.put]
theorem Sim.puts {s:CSt}{m:MSt}(h:Sim s m)(p k:Nat)(t x:ByteArray)(l':Nat)(hk:k<=t.size)(hf:p+t.size<=s.size)(hx:x.data.toList=t.data.toList.take k)(hl:s.cut=true->l'=s.left - k)(hl2:l'<=9223372036854775807) :
  Sim (s.puts p (t.data.toList.take k)) { B:=m.B.extract 0 p++x++m.B.extract (p+k) m.B.size,off:=m.off,left:=l',cuts:=m.cuts,written:=m.written+k }:=by
 have hlen:(t.data.toList.take k).length=k:=by rw[List.length_take];simp;omega
 refine⟨by rw[puts_len];exact h.len,by rw[CSt.puts_size];exact h.size,h.spliced p k t x hk hf hx,by rw[CSt.puts_off];exact h.off,by rw[CSt.puts_cut];exact h.cut,?_,?_,?_,hl2⟩
 ·intro hc;rw[CSt.puts_cut] at hc;rw[CSt.puts_left,if_pos hc,hlen];exact hl hc
 ·rw[CSt.puts_written,hlen,<- h.written]
 ·have:=h.bl;rw[CSt.puts_left,hlen]
  split <;> omega
theorem Sim.mono_off {s:CSt}{m:MSt}(h:Sim s m)(x:Bool):Sim { s with off:=x } { m with off:=x }:=⟨h.len,h.size,h.b,rfl,h.cut,h.left,h.written,h.bl,h.bm⟩
theorem Sim.on {s:CSt}{m:MSt}(h:Sim s m):Sim { s with off:=false,cut:=false,left:=0 } { m with off:=false,cuts:=false }:=⟨h.len,h.size,h.b,rfl,rfl,fun e=>(by cases e),h.written,Nat.zero_le _,h.bm⟩
theorem Sim.cutAt {s:CSt}{m:MSt}(h:Sim s m)(n:Nat)(hn:n<=9223372036854775807):Sim { s with cut:=true,left:=n } { m with cuts:=true,left:=n }:=⟨h.len,h.size,h.b,h.off,rfl,fun _=>rfl,h.written,hn,hn⟩
theorem CSt.err_cases (s:CSt)(p n:Int):s.err p n=0\/s.err p n=1+1\/s.err p n=7+1:=by
 unfold CSt.err
 split
 ·exact Or.inr (Or.inl rfl)
 ·split
  ·exact Or.inr (Or.inr rfl)
  ·exact Or.inl rfl
theorem CSt.err_zero {s:CSt}{p n:Int}(h:s.err p n=0):0<=p/\0<=n/\p+n<=s.size/\s.off=false:=by
 unfold CSt.err at h
 split at h
 ·cases h
 ·split at h
  ·cases h
  ·rename_i h1 h2;exact⟨by omega,by omega,by omega,by simpa using h2⟩
end Go.Proofs.YtdpdbfhbojgigacGreatDoor
namespace Go.Proofs.YtdpdbfhbojgigacGreatDoor
open Go.RowKit Go.Extern.Stop Go.Stop Go.Extern
theorem writeE_zero {s:CSt}{p:Nat}{l:List UInt8}(h:s.err p l.length=0):s.writeE p l=s.write p l:=by unfold CSt.writeE;rw[if_pos h]
theorem writeE_no {s:CSt}{p j:Nat}{l:List UInt8}(h:s.err p l.length=j+1):s.writeE p l=(s,j+1):=by
 unfold CSt.writeE;rw[if_neg (by omega),h]
theorem mwrite_sim (bm:Nat)(s:CSt)(m:MSt)(p:Nat)(t:ByteArray)(hsim:Sim s m)(hw:s.written+t.size<=1099511627776)(hp:(p:Int)<=9223372036854775807) :
  ∃ m':MSt,Sim (s.writeE p t.data.toList).1 m' /\
   (∀ wb,ModAt wb bm m->Calls Tryz.prog 213 #[.pointer (some ⟨bm,0,none⟩),.int .i64 (p:Int),.string t] wb fun e w'=>e=.returned (.int .i64 ((s.writeE p t.data.toList).2:Nat))/\ModAt w' bm m'/\wb.grownBy w' (some bm)):=by
 have hbz:m.B.size<=4096:=by rw[hsim.bsize];exact hsim.size
 have hlen:t.data.toList.length=t.size:=by simp
 have hno:∀ i,s.err p t.size=i+1->∃ m':MSt,Sim (s.writeE p t.data.toList).1 m' /\
   (∀ wb,ModAt wb bm m->Calls Tryz.prog 213 #[.pointer (some ⟨bm,0,none⟩),.int .i64 (p:Int),.string t] wb fun e w'=>e=.returned (.int .i64 ((s.writeE p t.data.toList).2:Nat))/\ModAt w' bm m'/\wb.grownBy w' (some bm)):=fun i he=>by
  rw[writeE_no (by rw[hlen];exact he)];exact⟨m,hsim,fun wb h=>(mwrite_no bm m p t i wb h hbz hp (by rw[hsim.err];exact he)).mono fun e w' ⟨h1,h2⟩=>by subst h2;exact⟨h1,h,grown_refl _ _⟩⟩
 rcases s.err_cases p t.size with he | he | he
 ·obtain⟨-,-,hfit,hoff⟩:=CSt.err_zero he;have hme:m.err p t.size=0:=by rw[hsim.err];exact he
  have hmw:m.written+t.size<=1099511627776:=by rw[hsim.written];exact hw
  have hfit':p+t.size<=s.size:=by omega
  rw[writeE_zero (by rw[hlen];exact he)]
  by_cases hc:s.cut=true/\s.left < t.size
  ·have hl:=hsim.left hc.1;have hmc:m.cuts=true:=by rw[hsim.cut];exact hc.1
   have hwr:s.write p t.data.toList=({ s.puts p (t.data.toList.take s.left) with off:=true },8):=by unfold CSt.write;rw[if_pos ⟨hc.1,by simpa using hc.2⟩]
   rw[hwr]
   refine⟨{ B:=m.splice p m.left t,off:=true,left:=0,cuts:=true,written:=m.written+m.left },?_,fun wb h=>?_⟩
   ·have:=(hsim.puts p s.left t (t.extract 0 s.left) 0 (by omega) hfit' (by rw[Lib.extract_data];simp) (fun _=>by omega) (by omega)).mono_off true;unfold MSt.splice;rw[hl];rw[hmc] at this;exact this
   ·exact(mwrite_cut bm m p t wb h hbz hme hmc (by omega) hmw).mono fun e w' ⟨h1,h2,h3,_⟩=>⟨h1,h2,h3⟩
  ·have ht:t.data.toList.take t.size=t.data.toList:=List.take_of_length_le (by simp);have hwr:s.write p t.data.toList=(s.puts p t.data.toList,0):=by unfold CSt.write;rw[if_neg (by intro h;exact hc ⟨h.1,by simpa using h.2⟩)]
   rw[hwr]
   cases hcut:s.cut
   ·have hmc:m.cuts=false:=by rw[hsim.cut];exact hcut
    have hS:=hsim.puts p t.size t t m.left (Nat.le_refl _) hfit' ht.symm (fun e=>by rw[hcut] at e;cases e) hsim.bm;rw[ht] at hS;exact⟨_,hS,fun wb h=>(mwrite_nocut bm m p t wb h hbz hme hmc hmw).mono fun e w' ⟨h1,h2,h3,_⟩=>⟨h1,h2,h3⟩⟩
   ·have hmc:m.cuts=true:=by rw[hsim.cut];exact hcut
    have hl:=hsim.left hcut;have hlt:t.size<=s.left:=by
     rcases Nat.lt_or_ge s.left t.size with h | h
     ·exact absurd ⟨hcut,h⟩ hc
     ·exact h
    have hS:=hsim.puts p t.size t t (m.left - t.size) (Nat.le_refl _) hfit' ht.symm (fun _=>by rw[hl]) (by have:=hsim.bm;omega);rw[ht] at hS;exact⟨_,hS,fun wb h=>(mwrite_room bm m p t wb h hbz hme hmc (by omega) hsim.bm hmw).mono fun e w' ⟨h1,h2,h3,_⟩=>⟨h1,h2,h3⟩⟩
 ·exact hno 1 he
 ·exact hno 7 he
theorem Sim.byte {s:CSt}{m:MSt}(h:Sim s m)(p:Nat)(hp:p < s.size):∃ hp':p < m.B.size,m.B[p]=s.bytes.getD p 0:=by
 have hz:=h.bsize
 refine⟨by omega,?_⟩;have hl:p < m.B.data.toList.length:=by simp;omega
 have e:m.B.data.toList[p]?=(s.bytes.take s.size)[p]?:=by rw[h.b]
 rw[List.getElem?_take_of_lt hp,List.getElem?_eq_getElem hl,List.getElem?_eq_getElem (by rw[h.len];have:=h.size;omega)] at e;rw[List.getD_eq_getElem?_getD,List.getElem?_eq_getElem (by rw[h.len];have:=h.size;omega)];exact Option.some.inj e
structure MRingAt (w:World)(B rm bm:Nat)(v:Value)(L:List Rec)(dead:Bool):Prop where
 heap:w.heap[rm]?=some (.cells #[.pointer (some ⟨bm,0,.none⟩),v,.bool dead] 139 (0,0))
 sl:MSl w B v L
 sep:v.ownBlock≠some rm/\v.ownBlock≠some bm
 lo:B<=rm
 ne:rm≠bm
theorem MRingAt.lt {w:World}{B rm bm:Nat}{v:Value}{L:List Rec}{dead:Bool}(h:MRingAt w B rm bm v L dead):rm < w.heap.size:=lt_of_row h.heap
theorem MRingAt.c0 {w:World}{B rm bm:Nat}{v:Value}{L:List Rec}{dead:Bool}(h:MRingAt w B rm bm v L dead):w.cell? ⟨rm,0,.none⟩=some (.pointer (some ⟨bm,0,.none⟩)):=by simp[World.cell?,h.heap]
theorem MRingAt.c1 {w:World}{B rm bm:Nat}{v:Value}{L:List Rec}{dead:Bool}(h:MRingAt w B rm bm v L dead):w.cell? ⟨rm,1,.none⟩=some v:=by simp[World.cell?,h.heap]
theorem MRingAt.c2 {w:World}{B rm bm:Nat}{v:Value}{L:List Rec}{dead:Bool}(h:MRingAt w B rm bm v L dead):w.cell? ⟨rm,2,.none⟩=some (.bool dead):=by simp[World.cell?,h.heap]
theorem MRingAt.frozen {w:World}{B rm bm:Nat}{v:Value}{L:List Rec}{dead:Bool}(h:MRingAt w B rm bm v L dead)(i:Nat):w.frozen? ⟨rm,i,.none⟩=false:=by simp[World.frozen?,h.heap]
theorem MRingAt.off {w w':World}{B rm bm:Nat}{v:Value}{L:List Rec}{dead:Bool}{S:Nat->Prop}(h:MRingAt w B rm bm v L dead)(ho:Off S w w')(h1:¬S rm)(h2:∀ g,v.ownBlock=some g->¬S g):MRingAt w' B rm bm v L dead:=
 ⟨(ho.block rm h.lt h1).trans h.heap,h.sl.off ho h2,h.sep,h.lo,h.ne⟩
theorem MRingAt.below {w w':World}{B rm bm:Nat}{v:Value}{L:List Rec}{dead:Bool}(h:MRingAt w B rm bm v L dead)(hb:Below w.heap.size w w'):MRingAt w' B rm bm v L dead:=
 h.off (Off.of_below hb (fun _=>False)) (fun e=>e) (fun _ _ e=>e)
theorem MRingAt.spent {w:World}{B rm bm:Nat}{v:Value}{L:List Rec}{dead:Bool}(h:MRingAt w B rm bm v L dead):MRingAt (w.setCell ⟨rm,2,.none⟩ (.bool true)) B rm bm v L true:=by
 refine⟨?_,h.sl.off (Off.of_grown (grown_set (grown_refl w (some rm)) _ _)) (fun g e e2=>h.sep.1 (by rw[e,e2])),h.sep,h.lo,h.ne⟩;simp[World.setCell,Array.getElem?_modify,h.heap]
set_option maxRecDepth 100000 in
theorem byte_any (n:Nat)(w:World) :
  Calls Tryz.prog 210 #[.int .i64 (n:Int)] w fun e w'=>e=.returned (.string ⟨#[UInt8.ofNat n]⟩)/\Below w.heap.size w w':=by
 have e:Hid ((n:Int) % 256=((UInt8.ofNat n).toNat:Int)):=by show _=_;rw[UInt8.toNat_ofNat'];omega
 have cv:=run_convert_bytes_back (P:=Tryz.prog) (w.alloc (.cells #[.int .u8 ((n:Int) % 256)] 5)) 86 9 5 ⟨w.heap.size,0,.none⟩ 1 [UInt8.ofNat n] Tryz.underlying86 Tryz.underlying5 Tryz.underlying9 (fun j hj=>by
  have:j=0:=by simpa using hj
  subst this;rw[e.out];exact World.cell?_alloc_at _ _ _ _ rfl)
 simp only[List.length_singleton] at cv;go_enter Tryz.func210,Tryz.ntmps210
 go_wp2_with fail
 go_ret;exact⟨rfl,(Below.refl _ _).alloc (Nat.le_refl _) _⟩
theorem be_cat (i x:Nat):(⟨#[UInt8.ofNat (x / 256 ^ i % 256)]⟩:ByteArray)++⟨(be i x).toArray⟩=⟨(be (i+1) x).toArray⟩:=by
 apply ByteArray.ext
 rw[ByteArray.data_append];have e:UInt8.ofNat (x / 256 ^ i % 256)=UInt8.ofNat (x / 256 ^ i):=by
  apply UInt8.toNat_inj.1
  simp only[UInt8.toNat_ofNat'];omega
 rw[e];simp[be]
theorem div_next (x i:Nat):((x / 256 ^ i:Nat):Int) / 256=((x / 256 ^ (i+1):Nat):Int):=by
 rw[Nat.pow_succ,<- Nat.div_div_eq_div_mul];omega
set_option maxRecDepth 100000 in
set_option maxHeartbeats 1000000 in
theorem wide_any (x many:Nat)(w:World)(hx:x<=9223372036854775807)(hm:many<=16) :
  Calls Tryz.prog 230 #[.int .i64 (x:Int),.int .i64 (many:Int)] w fun e w'=>e=.returned (.string ⟨(be many x).toArray⟩)/\Below w.heap.size w w':=by
 go_enter Tryz.func230,Tryz.ntmps230
 go_wp2_with fail
 go_loopw [0,5,6] (fun n s i wr=>∃ k:Nat,k<=many/\i=.int .i64 k/\n=.int .i64 ((x / 256 ^ k:Nat):Int)/\s=.string ⟨(be k x).toArray⟩/\Below w.heap.size w wr) (fun _ _ i _=>many - (intOf i).toNat)
 case atStart=>exact⟨0,Nat.zero_le _,rfl,by simp,rfl,Below.refl _ _⟩
 case round=>
  obtain⟨k,hk,rfl,rfl,rfl,hb⟩:=hrel;have hd:x / 256 ^ k<=x:=Nat.div_le_self _ _;have HC:Hid _:=be_cat k x;have HD:Hid _:=div_next x k;have hTs:(⟨(be k x).toArray⟩:ByteArray).size=k:=by show (be k x).toArray.size=k;rw[List.size_toArray,be_length]
  generalize hy:x / 256 ^ k=y at *;generalize hT:(⟨(be k x).toArray⟩:ByteArray)=T at *;have HT:Hid _:=hT;have HY:Hid _:=hy;clear hT hy;have hT16:(T.size:Int)<=16:=by omega
  have hT16':T.size<=16:=by omega
  clear hTs
  by_cases hlt:k < many
  ·have HM:Hid ((y:Int) % 256=((y % 256:Nat):Int)):=by show _=_;omega
   go_wp2_with fail
   rw[HM.out]
   refine(byte_any (y % 256) wr).mono ?_;rintro e w2 ⟨rfl,hb2⟩;go_wp2_with fail
   rw[HC.out,HD.out];exact⟨⟨k+1,by omega,by go_num,rfl,rfl,hb.trans (hb2.mono hb.size)⟩,by simp[intOf];omega⟩
  ·have ek:k=many:=by omega
   subst ek;go_wp2;go_ret;rw[HT.out];exact⟨rfl,hb⟩
theorem crcSteps_snoc (k:Nat):∀ s,crcStep (crcSteps k s)=crcSteps (k+1) s:=by
 induction k with
 | zero=>intro s;rfl
 | succ k ih=>intro s;exact ih (crcStep s)
theorem xor_half (a b:Nat):(a ^^^ b) / 2=a / 2 ^^^ b / 2:=by
 apply Nat.eq_of_testBit_eq
 intro i;simp only[Nat.testBit_div_two,Nat.testBit_xor]
def refStep (c u:Nat):Nat:=if (c ^^^ u) % 2=1 then (c / 2) ^^^ 3988292384 else c / 2
theorem refStep_eq (c u:Nat):refStep c u ^^^ (u / 2)=crcStep (c ^^^ u):=by
 unfold refStep crcStep;rw[xor_half]
 rcases Nat.mod_two_eq_zero_or_one (c ^^^ u) with h | h
 ·rw[h,if_neg (by decide),Nat.mul_zero,Nat.xor_zero]
 ·rw[h,if_pos rfl,Nat.mul_one,Nat.xor_assoc,Nat.xor_comm 3988292384,<- Nat.xor_assoc]
theorem refStep_lt {c u:Nat}(h:c < 4294967296):refStep c u < 4294967296:=by
 unfold refStep
 split
 ·exact Nat.xor_lt_two_pow (n:=32) (by omega) (by decide)
 ·omega
theorem i64_xor (a b:Nat)(ha:a < 4294967296)(hb:b < 4294967296):bits BinOp.xor IntKind.i64 (a:Int) (b:Int)=((a ^^^ b:Nat):Int):=by
 have hx:a ^^^ b < 2 ^ 32:=Nat.xor_lt_two_pow (by omega) (by omega);have ha':a % 2 ^ IntKind.i64.bits=a:=Nat.mod_eq_of_lt (Nat.lt_of_lt_of_le ha (by decide));have hb':b % 2 ^ IntKind.i64.bits=b:=Nat.mod_eq_of_lt (Nat.lt_of_lt_of_le hb (by decide));simp only[bits,BitVec.ofInt_natCast,BitVec.toNat_xor,BitVec.toNat_ofNat,ha',hb'];exact wraps_i64 _ (Int.natCast_nonneg _) (by omega)
theorem shift_nat (v j:Nat):((v:Int) / 2 ^ j)=((v / 2 ^ j:Nat):Int):=by
 rw[Int.natCast_ediv,Int.natCast_pow];rfl
theorem sum_round (m u v j s:Nat)(hu:u=v / 2 ^ j)(h:m ^^^ u=crcSteps j s):refStep m u ^^^ (v / 2 ^ (j+1))=crcSteps (j+1) s:=by
 rw[<- crcSteps_snoc,<- h,<- refStep_eq,hu,Nat.pow_succ,Nat.div_div_eq_div_mul]
set_option maxRecDepth 100000 in
set_option maxHeartbeats 1000000 in
theorem rsum_any (T:ByteArray)(w:World)(hl:T.size<=4096) :
  Calls Tryz.prog 231 #[.string T] w fun e w'=>e=.returned (.int .i64 (crc T.data.toList:Nat))/\w'=w:=by
 go_enter Tryz.func231,Tryz.ntmps231
 go_wp2_with fail
 go_loopw [3,4] (fun c i wr=>∃ (k n:Nat),k<=T.size/\n < 4294967296/\i=.int .i64 k/\c=.int .i64 (n:Int)/\crcFrom n (T.data.toList.drop k)=crcFrom 4294967295 T.data.toList/\wr=w) (fun _ i _=>T.size - (intOf i).toNat)
 case atStart=>exact⟨0,4294967295,Nat.zero_le _,by decide,rfl,rfl,by simp,rfl⟩
 case round=>
  obtain⟨k,n,hk,hn,rfl,rfl,hcr,rfl⟩:=hrel
  by_cases hlt:k < T.size
  ·have hv:=(T[k]).toNat_lt;have HN:Hid (crcFrom (crcSteps 8 (n ^^^ T[k].toNat)) (T.data.toList.drop (k+1))=crcFrom 4294967295 T.data.toList):=by
    show _=_
    rw[<- hcr,List.drop_eq_getElem_cons (i:=k) (l:=T.data.toList) (by simpa using hlt)];rfl
   clear hcr;have k0:(0:Int)<=(k:Int):=by omega
   have k1:(k:Int) < (T.size:Int):=by omega
   go_wp2_with fail
   go_loopw [3,5] (fun c i wx=>∃ (j m:Nat),j<=8/\m < 4294967296/\i=.int .i64 j/\c=.int .i64 (m:Int)/\m ^^^ (T[k].toNat / 2 ^ j)=crcSteps j (n ^^^ T[k].toNat)/\wx=wr) (fun _ i _=>8 - (intOf i).toNat)
   case atStart=>exact⟨0,n,Nat.zero_le _,hn,rfl,rfl,by simp[crcSteps],rfl⟩
   case round=>
    obtain⟨j,m,hj,hm,rfl,rfl,hst,rfl⟩:=hrel
    by_cases hj8:j < 8
    ·have hu:T[k].toNat / 2 ^ j < 4294967296:=by
      have:=Nat.div_le_self T[k].toNat (2 ^ j);omega
     have SH:Hid _:=shift_nat T[k].toNat j;have HX:Hid _:=i64_xor m (T[k].toNat / 2 ^ j) hm hu;have HR:Hid _:=sum_round m _ T[k].toNat j _ rfl hst;have HL:Hid _:=refStep_lt (u:=T[k].toNat / 2 ^ j) hm;have HP:Hid _:=i64_xor (m / 2) 3988292384 (by omega) (by decide)
     rcases Nat.mod_two_eq_zero_or_one (m ^^^ (T[k].toNat / 2 ^ j)) with h01 | h01
     ·have HV:Hid (refStep m (T[k].toNat / 2 ^ j)=m / 2):=if_neg (by rw[h01];decide);have hbit:((bits BinOp.xor IntKind.i64 (m:Int) ((T[k].toNat:Int) / 2 ^ j)).tmod 2 == 1)=false:=by
       rw[SH.out,HX.out,Int.tmod_eq_emod_of_nonneg (by omega),beq_eq_false_iff_ne];omega
      clear hst;go_wp2_with fail
      rw[HV.out] at HR HL;exact⟨⟨j+1,m / 2,by omega,HL.out,by go_num,by congr 1,HR.out,trivial⟩,by simp[intOf];omega⟩
     ·have HV:Hid (refStep m (T[k].toNat / 2 ^ j)=m / 2 ^^^ 3988292384):=if_pos h01;have hbit:((bits BinOp.xor IntKind.i64 (m:Int) ((T[k].toNat:Int) / 2 ^ j)).tmod 2 == 1)=true:=by
       rw[SH.out,HX.out,Int.tmod_eq_emod_of_nonneg (by omega),beq_iff_eq];omega
      have HP2:Hid (bits BinOp.xor IntKind.i64 ((m:Int) / 2) 3988292384=((m / 2 ^^^ 3988292384:Nat):Int)):=by
       show _=_
       rw[show (m:Int) / 2=((m / 2:Nat):Int) by omega];exact HP.out
      clear hst;go_wp2_with fail
      rw[HV.out] at HR HL;exact⟨⟨j+1,m / 2 ^^^ 3988292384,by omega,HL.out,by go_num,congrArg (Value.int .i64) HP2.out,HR.out,trivial⟩,by simp[intOf];omega⟩
    ·have ej:j=8:=by omega
     subst ej;have HT:Hid (m=crcSteps 8 (n ^^^ T[k].toNat)):=by
      show _=_
      rw[<- hst,Nat.div_eq_of_lt (by omega),Nat.xor_zero]
     clear hst;go_wp2_with fail
     go_roundw
     case rel=>exact⟨k+1,m,by omega,hm,by go_num,rfl,by rw[HT.out];exact HN.out,trivial⟩
     case measure=>simp[intOf];omega
  ·have HX:Hid (bits BinOp.xor IntKind.i64 (n:Int) 4294967295=((crc T.data.toList:Nat):Int)):=by
    show _=_
    have e:T.data.toList.drop k=[]:=List.drop_eq_nil_of_le (by simp;omega);rw[e] at hcr;have:=i64_xor n 4294967295 hn (by decide);rw[show ((4294967295:Nat):Int)=4294967295 from rfl] at this;rw[this,Nat.xor_comm];unfold crc;rw[<- hcr];rfl
   clear hcr;go_wp2;go_ret;rw[HX.out];exact⟨rfl,rfl⟩
end Go.Proofs.YtdpdbfhbojgigacGreatDoor
