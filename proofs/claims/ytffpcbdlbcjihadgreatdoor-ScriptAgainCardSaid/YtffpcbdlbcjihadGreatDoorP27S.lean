/-
  Several texts as one: CfRSet, CfRWord, CfRWordB, CfRKind, CfRFill.
-/
import Derived.Test.YtffpcbdlbcjihadGreatDoorP26S
namespace Go.Proofs.YtffpcbdlbcjihadGreatDoor
open Go.RowKit Go.Extern.Stop Go.Stop Go.Extern
theorem setCell_same {w:World}{b o:Nat}{v:Value}(h:w.cell? ⟨b,o,none⟩=some v):w.setCell ⟨b,o,none⟩ v=w:=by
 have hh:(w.setCell ⟨b,o,none⟩ v).heap=w.heap:=by
  apply Array.ext_getElem?
  intro i;simp only[World.setCell,Array.getElem?_modify]
  split
  ·rename_i e;subst e;unfold World.cell? at h
   cases hb:w.heap[b]? with
   | none=>rfl
   | some ob=>
    rw[hb] at h
    cases ob with
    | cells c t fr=>
     simp only[Option.map_some,Option.some.injEq,Obj.cells.injEq,and_true];simp at h ⊢
     apply Array.ext_getElem?
     intro j;rw[Array.getElem?_setIfInBounds]
     split
     ·rename_i e;subst e
      split
      ·exact h.symm
      ·rename_i hx;rw[Array.getElem?_eq_none (by omega)] at h
       cases h
     ·rfl
    | _=>rfl
  ·rfl
 cases w
 simp only[World.setCell] at hh ⊢;rw[hh]
theorem Below.setBoth {B:Nat}{w w':World}(h:Below B w w')(a:Addr)(v:Value):Below B (w.setCell a v) (w'.setCell a v):=by
 refine⟨h.os,h.tape,h.output,?_,fun k hk=>?_⟩
 ·simpa[World.setCell] using h.size
 ·simp only[World.setCell,Array.getElem?_modify];rw[h.block k hk]
theorem cell_setOther {w:World}{a p:Addr}{u:Value}(hne:a.block≠p.block\/a.off≠p.off)(hp:p.spot=none)(ha:a.spot=none):(w.setCell a u).cell? p=w.cell? p:=by
 obtain⟨ab,ao,as'⟩:=a;obtain⟨pb,po,ps⟩:=p;simp only at hne hp ha;subst hp ha;unfold World.cell?;simp only[World.setCell,Array.getElem?_modify]
 by_cases e:ab=pb
 ·subst e;have ho:ao≠po:=by rcases hne with h | h;exact absurd rfl h;exact h
  simp only[if_true]
  cases w.heap[ab]? with
  | none=>rfl
  | some ob=>
   cases ob with
   | cells c t fr=>
    simp only[Option.map_some];simp[ho]
   | _=>rfl
 ·rw[if_neg e]
theorem cell_setSame {w:World}{b o:Nat}{u v:Value}(h:w.cell? ⟨b,o,none⟩=some v):(w.setCell ⟨b,o,none⟩ u).cell? ⟨b,o,none⟩=some u:=by
 unfold World.cell? at h ⊢;simp only[World.setCell,Array.getElem?_modify];simp only[if_true]
 cases hb:w.heap[b]? with
 | none=>rw[hb] at h;cases h
 | some ob=>
  rw[hb] at h
  cases ob with
  | cells c t fr=>
   simp only[Option.map_some] at h ⊢;simp at h ⊢
   have:=(Array.getElem?_eq_some_iff.1 h).1;simp[this]
  | _=>cases h
theorem frozen_set (w:World)(a p:Addr)(u:Value):(w.setCell a u).frozen? p=w.frozen? p:=by
 unfold World.frozen?;simp only[World.setCell,Array.getElem?_modify]
 by_cases e:a.block=p.block
 ·simp only[e,if_true]
  cases w.heap[p.block]? with
  | none=>rfl
  | some ob=>cases ob <;> rfl
 ·simp only[e,if_false]
def sets:World->List (Nat × Nat)->List Value->World
 | w,a :: as',u :: us=>sets (w.setCell ⟨a.1,a.2,none⟩ u) as' us
 | w,_,_=>w
theorem sets_nil (w:World)(us:List Value):sets w [] us=w:=by cases us <;> rfl
theorem sets_nil' (w:World)(as':List (Nat × Nat)):sets w as' []=w:=by cases as' <;> rfl
theorem sets_snoc:∀ (w:World) (as':List (Nat × Nat)) (us:List Value) (a:Nat × Nat) (u:Value),as'.length=us.length->sets w (as'++[a]) (us++[u])=(sets w as' us).setCell ⟨a.1,a.2,none⟩ u
 | w,[],[],a,u,_=>rfl
 | w,b :: as',v :: us,a,u,h=>by
  simp only[List.cons_append,sets];exact sets_snoc _ as' us a u (by simpa using h)
theorem sets_size:∀ (w:World) (as':List (Nat × Nat)) (us:List Value),(sets w as' us).heap.size=w.heap.size
 | w,[],us=>by rw[sets_nil]
 | w,_ :: _,[]=>by rw[sets_nil']
 | w,a :: as',u :: us=>by
  rw[sets,sets_size];simp[World.setCell]
theorem sets_frozen:∀ (w:World) (as':List (Nat × Nat)) (us:List Value) (p:Addr),(sets w as' us).frozen? p=w.frozen? p
 | w,[],us,p=>by rw[sets_nil]
 | w,_ :: _,[],p=>by rw[sets_nil']
 | w,a :: as',u :: us,p=>by rw[sets,sets_frozen,frozen_set]
theorem sets_cell:∀ (w:World) (as':List (Nat × Nat)) (us:List Value) (b o:Nat),(∀ a∈as',a≠(b,o))->(sets w as' us).cell? ⟨b,o,none⟩=w.cell? ⟨b,o,none⟩
 | w,[],us,b,o,_=>by rw[sets_nil]
 | w,_ :: _,[],b,o,_=>by rw[sets_nil']
 | w,a :: as',u :: us,b,o,h=>by
  rw[sets,sets_cell _ as' us b o (fun x hx=>h x (List.mem_cons_of_mem _ hx))]
  refine cell_setOther ?_ rfl rfl;have:=h a (List.mem_cons_self ..)
  by_cases e:a.1=b
  ·exact Or.inr (fun e2=>this (Prod.ext e e2))
  ·exact Or.inl e
theorem sets_heap:∀ (w:World) (as':List (Nat × Nat)) (us:List Value) (b:Nat),(∀ a∈as',a.1≠b)->(sets w as' us).heap[b]?=w.heap[b]?
 | w,[],us,b,_=>by rw[sets_nil]
 | w,_ :: _,[],b,_=>by rw[sets_nil']
 | w,a :: as',u :: us,b,h=>by
  rw[sets,sets_heap _ as' us b (fun x hx=>h x (List.mem_cons_of_mem _ hx))];exact Below.heap_setCell _ _ _ _ (Ne.symm (h a (List.mem_cons_self ..)))
theorem sets_below:∀ (B:Nat) (w:World) (as':List (Nat × Nat)) (us:List Value),(∀ a∈as',B<=a.1)->Below B w (sets w as' us)
 | B,w,[],us,_=>by rw[sets_nil];exact Below.refl _ _
 | B,w,_ :: _,[],_=>by rw[sets_nil'];exact Below.refl _ _
 | B,w,a :: as',u :: us,h=>by
  rw[sets];exact((Below.refl B w).setCell (p:=⟨a.1,a.2,none⟩) (h a (List.mem_cons_self ..)) _).trans (sets_below B _ as' us (fun x hx=>h x (List.mem_cons_of_mem _ hx)))
end Go.Proofs.YtffpcbdlbcjihadGreatDoor
namespace Go.Proofs.YtffpcbdlbcjihadGreatDoor
open Go.RowKit Go.Extern.Stop Go.Stop Go.Extern Go.Maps
def tgtTy:Nat->TypeId
 | 0=>366
 | 1=>333
 | _=>368
def Typed (f:Nat)(u:Value):Prop:=if f=0 then ∃ s:ByteArray,u=.string s/\s.size<=1000000 else ∃ z:Int,u=.int .i64 z
def valOf (f:Nat)(s:ByteArray)(v:Int):Value:=if f=0 then .string s else .int .i64 v
structure MapAt (w:World)(rb mb:Nat)(pts:List ByteArray):Prop where
 c6:w.cell? ⟨rb,6,none⟩=some (.map (some mb))
 own:∃ D:DataW Unit,w.ownsMap Tryz.prog 9 (plainElem Tryz.prog 3) mb pts.length D/\PtsMap D pts
def WordPost (A:Nat->Addr)(pts:List ByteArray)(f:Nat)(s:ByteArray)(tb tk:Nat)(w:World)(v:Ending)(w':World):Prop:=
 v=.returned (errV A (wordV (lookL pts) f (bl s)).1)/\∃ u,Typed f u/\((wordV (lookL pts) f (bl s)).1=0->u=valOf f s (wordV (lookL pts) f (bl s)).2)/\Below w.heap.size (w.setCell ⟨tb,tk,none⟩ u) w'
theorem word_err {A:Nat->Addr}{pts:List ByteArray}{f:Nat}{s:ByteArray}{tb tk:Nat}{old:Value}{w w':World}{c:Nat}(ht:w.cell? ⟨tb,tk,none⟩=some old)(hT:Typed f old)(hc:(wordV (lookL pts) f (bl s)).1=c)(h0:c≠0)(hb:Below w.heap.size w w'):WordPost A pts f s tb tk w (.returned (errV A c)) w':=by
 refine⟨by rw[hc],old,hT,fun e=>absurd (hc.symm.trans e) h0,?_⟩;rw[setCell_same ht];exact hb
theorem Tryz.assertRSS (x:Value)(w:World):(Instr.typeAssert (.iface 366 x) 20 366 true).run Tryz.prog w=.ok (.tuple #[x,.bool true]) w:=by kernel_rfl
theorem Tryz.assertRIS (x:Value)(w:World):(Instr.typeAssert (.iface 333 x) 20 366 true).run Tryz.prog w=.ok (.tuple #[.pointer none,.bool false]) w:=by kernel_rfl
theorem Tryz.assertRII (x:Value)(w:World):(Instr.typeAssert (.iface 333 x) 20 333 true).run Tryz.prog w=.ok (.tuple #[x,.bool true]) w:=by kernel_rfl
theorem Tryz.assertRPS (x:Value)(w:World):(Instr.typeAssert (.iface 368 x) 20 366 true).run Tryz.prog w=.ok (.tuple #[.pointer none,.bool false]) w:=by kernel_rfl
theorem Tryz.assertRPI (x:Value)(w:World):(Instr.typeAssert (.iface 368 x) 20 333 true).run Tryz.prog w=.ok (.tuple #[.pointer none,.bool false]) w:=by kernel_rfl
theorem Tryz.assertRPP (x:Value)(w:World):(Instr.typeAssert (.iface 368 x) 20 368 true).run Tryz.prog w=.ok (.tuple #[x,.bool true]) w:=by kernel_rfl
theorem Tryz.zeroIntE (w:World):(zeroValue 3).run Tryz.prog w=.ok (.int .i64 0) w:=by kernel_rfl
theorem wordV_empty (look:Bs->Option Nat)(f:Nat):wordV look f []=(1,0):=by unfold wordV;rw[if_pos rfl]
theorem bl_nil {s:ByteArray}(h:s.size=0):bl s=[]:=List.eq_nil_of_length_eq_zero (by rw[blen];exact h)
theorem bl_cons {s:ByteArray}(h:1<=s.size):bl s≠[]:=fun e=>by have:=blen s;rw[e] at this;simp at this;omega
theorem ba_nil {s:ByteArray}(h:s.size=0):s=⟨#[]⟩:=bl_inj (by rw[bl_nil h];rfl)
set_option maxHeartbeats 2000000 in
set_option maxRecDepth 100000 in
theorem rword_nil (A:Nat->Addr)(pts:List ByteArray)(rb f:Nat)(v:Value)(tb tk:Nat)(old:Value)(w:World)(hs:Sen6 A w)(ht:w.cell? ⟨tb,tk,none⟩=some old)(hT:Typed f old) :
  Calls Tryz.prog 296 #[.pointer (some ⟨rb,0,none⟩),.string ⟨#[]⟩,v] w (WordPost A pts f ⟨#[]⟩ tb tk w):=by
 have HW:Hid (∀ w',Below w.heap.size w w'->WordPost A pts f ⟨#[]⟩ tb tk w (.returned (errV A 1)) w'):=fun w' hb=>word_err (c:=1) ht hT (by rw[show bl ⟨#[]⟩=[] from rfl,wordV_empty]) (by decide) hb
 have c0:=hs.c0;clear hs ht hT;go_enter Tryz.func296,Tryz.ntmps296
 go_wp2;go_ret;exact HW.out _ (Below.refl _ _)
set_option maxHeartbeats 2000000 in
set_option maxRecDepth 100000 in
theorem rword_str (A:Nat->Addr)(pts:List ByteArray)(rb:Nat)(s:ByteArray)(tb tk:Nat)(old:Value)(w:World)(h1:1<=s.size)(hsz:s.size<=1000000)(ht:w.cell? ⟨tb,tk,none⟩=some old)(hf:w.frozen? ⟨tb,tk,none⟩=false) :
  Calls Tryz.prog 296 #[.pointer (some ⟨rb,0,none⟩),.string s,.iface 366 (.pointer (some ⟨tb,tk,none⟩))] w (WordPost A pts 0 s tb tk w):=by
 have HV:Hid (wordV (lookL pts) 0 (bl s)=(0,0)):=by show _=_;unfold wordV;rw[if_neg (bl_cons h1)];rfl
 have y2:¬s.toList=[]:=by rw[ByteArray.toList_eq];exact bl_cons h1
 have y1:(s.toList == [])=false:=by simpa using y2
 clear h1;have a0:=Tryz.assertRSS;go_enter Tryz.func296,Tryz.ntmps296
 go_wp2;go_ret
 refine⟨by rw[HV.out];rfl,.string s,⟨s,rfl,hsz⟩,fun _=>rfl,Below.refl _ _⟩
set_option maxHeartbeats 2000000 in
set_option maxRecDepth 100000 in
theorem rword_num (A:Nat->Addr)(pts:List ByteArray)(rb:Nat)(s:ByteArray)(tb tk:Nat)(old:Value)(w:World)(hs:Sen6 A w)(h1:1<=s.size)(hsz:s.size<=1000000)(ht:w.cell? ⟨tb,tk,none⟩=some old)(hT:Typed 1 old)(hf:w.frozen? ⟨tb,tk,none⟩=false) :
  Calls Tryz.prog 296 #[.pointer (some ⟨rb,0,none⟩),.string s,.iface 333 (.pointer (some ⟨tb,tk,none⟩))] w (WordPost A pts 1 s tb tk w):=by
 have HV:Hid (wordV (lookL pts) 1 (bl s)=match numOf (bl s) with | some n=>(0,(n:Int)) | none=>(1,0)):=by show _=_;unfold wordV;rw[if_neg (bl_cons h1)];rfl
 have y2:¬s.toList=[]:=by rw[ByteArray.toList_eq];exact bl_cons h1
 have y1:(s.toList == [])=false:=by simpa using y2
 have hN:=number_at s w h1 hsz;have HW:Hid (numOf (bl s)=none->∀ w',Below w.heap.size w w'->WordPost A pts 1 s tb tk w (.returned (errV A 1)) w'):=fun hn w' hb=>word_err (c:=1) ht hT (by rw[HV.out,hn]) (by decide) hb
 have HS:Hid (Sen6 A w):=hs;have HT:Hid (w.cell? ⟨tb,tk,none⟩=some old/\w.frozen? ⟨tb,tk,none⟩=false):=⟨ht,hf⟩;clear h1 hs ht hf hT;have a0:=Tryz.assertRIS;have a1:=Tryz.assertRII
 cases hn:numOf (bl s) with
 | none=>
  rw[hn] at hN;go_enter Tryz.func296,Tryz.ntmps296
  go_wp2_with fail
  refine hN.mono ?_;rintro e w1 ⟨rfl,hb⟩;have c0:=(HS.out.below hb).c0;have HB:Hid (Below w.heap.size w w1):=hb;clear hb;go_wp2;go_ret;exact HW.out hn _ HB.out
 | some n=>
  rw[hn] at hN;go_enter Tryz.func296,Tryz.ntmps296
  go_wp2_with fail
  refine hN.mono ?_;rintro e w1 ⟨rfl,hb⟩;have t0:w1.cell? ⟨tb,tk,none⟩=some old:=cell_below hb HT.out.1;have t1:w1.frozen? ⟨tb,tk,none⟩=false:=by
   have:=hb.block tb (block_lt HT.out.1);have h2:=HT.out.2;unfold World.frozen? at h2 ⊢;rw[this];exact h2
  have HB:Hid (Below w.heap.size w w1):=hb;clear hb;go_wp2;go_ret
  refine⟨by rw[HV.out,hn];rfl,.int .i64 (n:Int),⟨_,rfl⟩,fun _=>by rw[HV.out,hn];rfl,Below.setBoth HB.out _ _⟩
set_option maxHeartbeats 2000000 in
set_option maxRecDepth 100000 in
theorem rword_place (A:Nat->Addr)(pts:List ByteArray)(rb mb:Nat)(s:ByteArray)(tb tk:Nat)(old:Value)(w:World)(hs:Sen6 A w)(h1:1<=s.size)(hsz:s.size<=1000000)(hm:MapAt w rb mb pts)(ht:w.cell? ⟨tb,tk,none⟩=some old)(hT:Typed 2 old)(hf:w.frozen? ⟨tb,tk,none⟩=false) :
  Calls Tryz.prog 296 #[.pointer (some ⟨rb,0,none⟩),.string s,.iface 368 (.pointer (some ⟨tb,tk,none⟩))] w (WordPost A pts 2 s tb tk w):=by
 have HV:Hid (wordV (lookL pts) 2 (bl s)=match lookL pts (bl s) with | some n=>(0,(n:Int)) | none=>(5,0)):=by show _=_;unfold wordV;rw[if_neg (bl_cons h1)];rfl
 have y2:¬s.toList=[]:=by rw[ByteArray.toList_eq];exact bl_cons h1
 have y1:(s.toList == [])=false:=by simpa using y2
 have HW:Hid (lookL pts (bl s)=none->WordPost A pts 2 s tb tk w (.returned (errV A 5)) w):=fun hn=>word_err (c:=5) ht hT (by rw[HV.out,hn]) (by decide) (Below.refl _ _)
 have c4:=hs.c4;have c6:=hm.c6;obtain⟨D,hown,hD⟩:=hm.own;have hkey:keyOf Tryz.prog 9 (.string s)=some (keyL s):=Go.WideMaps.keyOf_string_mk Tryz.underlying9 (by unfold maxLen;omega);obtain⟨hD1,hD2⟩:=hD s;have HD2:Hid (D.atKey (keyL s) (.lit (.int .i64 0))=.lit (.int .i64 (((lookL pts (bl s)).getD 0:Nat):Int))):=hD2;clear h1 hs hT hm hD hD2;have a0:=Tryz.assertRPS;have a1:=Tryz.assertRPI;have a2:=Tryz.assertRPP
 cases hn:lookL pts (bl s) with
 | none=>
  rw[hn] at hD1;have hD1':Maps.has D (keyL s)=false:=hD1;clear hD1;go_enter Tryz.func296,Tryz.ntmps296
  go_wp2_with (first
   | (at_lookup;refine wpList_lookup_own_ok_int _ rfl _ _ 232 rfl 9 3 .i64 Tryz.lawStr Tryz.underlying232 Tryz.underlying3 (Tryz.zeroIntE _) mb pts.length _ rfl hown _ _ rfl hkey ?_;intro c hat hwc)
   | go_in)
  go_ret;exact HW.out hn
 | some n=>
  rw[hn] at hD1;have hD1':Maps.has D (keyL s)=true:=hD1;have HAt:Hid (∀ c,D.atKey (keyL s) (.lit (.int .i64 0))=.lit (.int .i64 c)->c=(n:Int)):=fun c hc=>by
   have:=hc.symm.trans HD2.out;rw[hn] at this;injection this with h2
   injection h2
  clear hD1;go_enter Tryz.func296,Tryz.ntmps296
  go_wp2_with (first
   | (at_lookup;refine wpList_lookup_own_ok_int _ rfl _ _ 232 rfl 9 3 .i64 Tryz.lawStr Tryz.underlying232 Tryz.underlying3 (Tryz.zeroIntE _) mb pts.length _ rfl hown _ _ rfl hkey ?_;intro c hat hwc)
   | go_in)
  go_ret;have hc:=HAt.out _ hat;subst hc
  refine⟨by rw[HV.out,hn];rfl,.int .i64 (n:Int),⟨_,rfl⟩,fun _=>by rw[HV.out,hn];rfl,Below.refl _ _⟩
end Go.Proofs.YtffpcbdlbcjihadGreatDoor
namespace Go.Proofs.YtffpcbdlbcjihadGreatDoor
open Go.RowKit Go.Extern.Stop Go.Stop Go.Extern
set_option maxHeartbeats 4000000 in
set_option maxRecDepth 100000 in
theorem mayStand_at (rb:Nat)(last:Int)(k:Nat)(w:World)(hk:k < 10)(hc:w.cell? ⟨rb,5,none⟩=some (.int .i64 last)) :
  Calls Tryz.prog 218 #[.pointer (some ⟨rb,0,none⟩),.int .i64 (k:Int)] w fun e w'=>e=.returned (.bool (may last k))/\w'=w:=by
 match k,hk with
 | 0,_=>
  go_enter Tryz.func218,Tryz.ntmps218
  go_wp2;go_ret;exact⟨by first | rfl | simp[may],rfl⟩
 | 1,_=>
  go_enter Tryz.func218,Tryz.ntmps218
  go_wp2;go_ret;exact⟨by first | rfl | simp[may],rfl⟩
 | 2,_=>
  go_enter Tryz.func218,Tryz.ntmps218
  go_wp2;go_ret;exact⟨by first | rfl | simp[may],rfl⟩
 | 3,_=>
  go_enter Tryz.func218,Tryz.ntmps218
  go_wp2;go_ret;exact⟨by first | rfl | simp[may],rfl⟩
 | 4,_=>
  by_cases l1:3<=last
  all_goals
   go_enter Tryz.func218,Tryz.ntmps218
   go_wp2;go_ret;exact⟨by first | rfl | (simp[may,l1];done) | (simp[may];omega),rfl⟩
 | 5,_=>
  by_cases l1:3<=last
  all_goals
   go_enter Tryz.func218,Tryz.ntmps218
   go_wp2;go_ret;exact⟨by first | rfl | (simp[may,l1];done) | (simp[may];omega),rfl⟩
 | 6,_=>
  by_cases l1:3<=last
  all_goals
   go_enter Tryz.func218,Tryz.ntmps218
   go_wp2;go_ret;exact⟨by first | rfl | (simp[may,l1];done) | (simp[may];omega),rfl⟩
 | 7,_=>
  by_cases l1:3<=last
  all_goals
   go_enter Tryz.func218,Tryz.ntmps218
   go_wp2;go_ret;exact⟨by first | rfl | (simp[may,l1];done) | (simp[may];omega),rfl⟩
 | 8,_=>
  by_cases l1:3<=last
  all_goals
   go_enter Tryz.func218,Tryz.ntmps218
   go_wp2;go_ret;exact⟨by first | rfl | (simp[may,l1];done) | (simp[may];omega),rfl⟩
 | 9,_=>
  by_cases l1:3<=last
  all_goals
   go_enter Tryz.func218,Tryz.ntmps218
   go_wp2;go_ret;exact⟨by first | rfl | (simp[may,l1];done) | (simp[may];omega),rfl⟩
def kindV (w:Bs):Int:=match kindOf w with
 | some k=>(k:Int)
 | none=>-1
theorem kindV_none {w:Bs}(h:∀ j,j < 10->kw j≠w):kindV w=-1:=by
 have:kindOf w=none:=by
  unfold kindOf;rw[List.find?_eq_none];intro j hj;simp only[List.mem_range] at hj;simpa using h j hj
 unfold kindV;rw[this]
set_option maxHeartbeats 4000000 in
set_option maxRecDepth 100000 in
theorem kindOf_at (s:ByteArray)(w:World)(hK:KwAt w) :
  Calls Tryz.prog 217 #[.string s] w fun e w'=>e=.returned (.int .i64 (kindV (bl s)))/\w'=w:=by
 have c0:=hK 0 (by decide);have c1:=hK 1 (by decide);have c2:=hK 2 (by decide);have c3:=hK 3 (by decide);have c4:=hK 4 (by decide);have c5:=hK 5 (by decide);have c6:=hK 6 (by decide);have c7:=hK 7 (by decide);have c8:=hK 8 (by decide);have c9:=hK 9 (by decide);clear hK;go_enter Tryz.func217,Tryz.ntmps217
 go_wp2_with fail
 clear c0 c1 c2 c3 c4 c5 c6 c7 c8 c9
 go_loopw [3,4,6] (fun _ _ i wr=>∃ k:Nat,k<=10/\i=.int .i64 k/\wr=w/\∀ j,j < k->kw j≠bl s) (fun _ _ i _=>10 - (intOf i).toNat)
 case atStart=>exact⟨0,Nat.zero_le _,rfl,rfl,fun j hj=>absurd hj (Nat.not_lt_zero _)⟩
 case round=>
  obtain⟨k,hk,rfl,rfl,hn⟩:=hrel;have HN:Hid (∀ j,j < k->kw j≠bl s):=hn;clear hn
  by_cases hlt:k < 10
  ·match k,hlt with
   | 0,_=>
    have ix:∀ W,(Instr.index 286 (.agg #[.string ⟨(kw 0).toArray⟩,.string ⟨(kw 1).toArray⟩,.string ⟨(kw 2).toArray⟩,.string ⟨(kw 3).toArray⟩,.string ⟨(kw 4).toArray⟩,.string ⟨(kw 5).toArray⟩,.string ⟨(kw 6).toArray⟩,.string ⟨(kw 7).toArray⟩,.string ⟨(kw 8).toArray⟩,.string ⟨(kw 9).toArray⟩]) (.int .i64 0)).run Tryz.prog W=.ok (.string ⟨(kw 0).toArray⟩) W:=fun _=>by kernel_rfl
    by_cases h:kw 0=bl s
    ·have HV:Hid (kindV (bl s)=0):=by show _=_;rw[<- h];decide
     have y2:kw 0=s.toList:=by rw[ByteArray.toList_eq];exact h
     have y1:(kw 0 == s.toList)=true:=by rw[y2];exact beq_self_eq_true _
     clear y2 h;go_wp2;go_ret;exact⟨by rw[HV.out];rfl,rfl⟩
    ·have y2:¬kw 0=s.toList:=by rw[ByteArray.toList_eq];exact h
     have y1:(kw 0 == s.toList)=false:=by simpa using y2
     have HN2:Hid (∀ j,j < 1->kw j≠bl s):=fun j hj=>by
      by_cases e:j=0
      ·rw[e];exact h
      ·exact HN.out j (by omega)
     go_wp2;go_roundw
     case rel=>exact⟨1,by decide,by first | trivial | rfl,by first | trivial | rfl,HN2.out⟩
     case measure=>simp[intOf]
   | 1,_=>
    have ix:∀ W,(Instr.index 286 (.agg #[.string ⟨(kw 0).toArray⟩,.string ⟨(kw 1).toArray⟩,.string ⟨(kw 2).toArray⟩,.string ⟨(kw 3).toArray⟩,.string ⟨(kw 4).toArray⟩,.string ⟨(kw 5).toArray⟩,.string ⟨(kw 6).toArray⟩,.string ⟨(kw 7).toArray⟩,.string ⟨(kw 8).toArray⟩,.string ⟨(kw 9).toArray⟩]) (.int .i64 1)).run Tryz.prog W=.ok (.string ⟨(kw 1).toArray⟩) W:=fun _=>by kernel_rfl
    by_cases h:kw 1=bl s
    ·have HV:Hid (kindV (bl s)=1):=by show _=_;rw[<- h];decide
     have y2:kw 1=s.toList:=by rw[ByteArray.toList_eq];exact h
     have y1:(kw 1 == s.toList)=true:=by rw[y2];exact beq_self_eq_true _
     clear y2 h;go_wp2;go_ret;exact⟨by rw[HV.out];rfl,rfl⟩
    ·have y2:¬kw 1=s.toList:=by rw[ByteArray.toList_eq];exact h
     have y1:(kw 1 == s.toList)=false:=by simpa using y2
     have HN2:Hid (∀ j,j < 2->kw j≠bl s):=fun j hj=>by
      by_cases e:j=1
      ·rw[e];exact h
      ·exact HN.out j (by omega)
     go_wp2;go_roundw
     case rel=>exact⟨2,by decide,by first | trivial | rfl,by first | trivial | rfl,HN2.out⟩
     case measure=>simp[intOf]
   | 2,_=>
    have ix:∀ W,(Instr.index 286 (.agg #[.string ⟨(kw 0).toArray⟩,.string ⟨(kw 1).toArray⟩,.string ⟨(kw 2).toArray⟩,.string ⟨(kw 3).toArray⟩,.string ⟨(kw 4).toArray⟩,.string ⟨(kw 5).toArray⟩,.string ⟨(kw 6).toArray⟩,.string ⟨(kw 7).toArray⟩,.string ⟨(kw 8).toArray⟩,.string ⟨(kw 9).toArray⟩]) (.int .i64 2)).run Tryz.prog W=.ok (.string ⟨(kw 2).toArray⟩) W:=fun _=>by kernel_rfl
    by_cases h:kw 2=bl s
    ·have HV:Hid (kindV (bl s)=2):=by show _=_;rw[<- h];decide
     have y2:kw 2=s.toList:=by rw[ByteArray.toList_eq];exact h
     have y1:(kw 2 == s.toList)=true:=by rw[y2];exact beq_self_eq_true _
     clear y2 h;go_wp2;go_ret;exact⟨by rw[HV.out];rfl,rfl⟩
    ·have y2:¬kw 2=s.toList:=by rw[ByteArray.toList_eq];exact h
     have y1:(kw 2 == s.toList)=false:=by simpa using y2
     have HN2:Hid (∀ j,j < 3->kw j≠bl s):=fun j hj=>by
      by_cases e:j=2
      ·rw[e];exact h
      ·exact HN.out j (by omega)
     go_wp2;go_roundw
     case rel=>exact⟨3,by decide,by first | trivial | rfl,by first | trivial | rfl,HN2.out⟩
     case measure=>simp[intOf]
   | 3,_=>
    have ix:∀ W,(Instr.index 286 (.agg #[.string ⟨(kw 0).toArray⟩,.string ⟨(kw 1).toArray⟩,.string ⟨(kw 2).toArray⟩,.string ⟨(kw 3).toArray⟩,.string ⟨(kw 4).toArray⟩,.string ⟨(kw 5).toArray⟩,.string ⟨(kw 6).toArray⟩,.string ⟨(kw 7).toArray⟩,.string ⟨(kw 8).toArray⟩,.string ⟨(kw 9).toArray⟩]) (.int .i64 3)).run Tryz.prog W=.ok (.string ⟨(kw 3).toArray⟩) W:=fun _=>by kernel_rfl
    by_cases h:kw 3=bl s
    ·have HV:Hid (kindV (bl s)=3):=by show _=_;rw[<- h];decide
     have y2:kw 3=s.toList:=by rw[ByteArray.toList_eq];exact h
     have y1:(kw 3 == s.toList)=true:=by rw[y2];exact beq_self_eq_true _
     clear y2 h;go_wp2;go_ret;exact⟨by rw[HV.out];rfl,rfl⟩
    ·have y2:¬kw 3=s.toList:=by rw[ByteArray.toList_eq];exact h
     have y1:(kw 3 == s.toList)=false:=by simpa using y2
     have HN2:Hid (∀ j,j < 4->kw j≠bl s):=fun j hj=>by
      by_cases e:j=3
      ·rw[e];exact h
      ·exact HN.out j (by omega)
     go_wp2;go_roundw
     case rel=>exact⟨4,by decide,by first | trivial | rfl,by first | trivial | rfl,HN2.out⟩
     case measure=>simp[intOf]
   | 4,_=>
    have ix:∀ W,(Instr.index 286 (.agg #[.string ⟨(kw 0).toArray⟩,.string ⟨(kw 1).toArray⟩,.string ⟨(kw 2).toArray⟩,.string ⟨(kw 3).toArray⟩,.string ⟨(kw 4).toArray⟩,.string ⟨(kw 5).toArray⟩,.string ⟨(kw 6).toArray⟩,.string ⟨(kw 7).toArray⟩,.string ⟨(kw 8).toArray⟩,.string ⟨(kw 9).toArray⟩]) (.int .i64 4)).run Tryz.prog W=.ok (.string ⟨(kw 4).toArray⟩) W:=fun _=>by kernel_rfl
    by_cases h:kw 4=bl s
    ·have HV:Hid (kindV (bl s)=4):=by show _=_;rw[<- h];decide
     have y2:kw 4=s.toList:=by rw[ByteArray.toList_eq];exact h
     have y1:(kw 4 == s.toList)=true:=by rw[y2];exact beq_self_eq_true _
     clear y2 h;go_wp2;go_ret;exact⟨by rw[HV.out];rfl,rfl⟩
    ·have y2:¬kw 4=s.toList:=by rw[ByteArray.toList_eq];exact h
     have y1:(kw 4 == s.toList)=false:=by simpa using y2
     have HN2:Hid (∀ j,j < 5->kw j≠bl s):=fun j hj=>by
      by_cases e:j=4
      ·rw[e];exact h
      ·exact HN.out j (by omega)
     go_wp2;go_roundw
     case rel=>exact⟨5,by decide,by first | trivial | rfl,by first | trivial | rfl,HN2.out⟩
     case measure=>simp[intOf]
   | 5,_=>
    have ix:∀ W,(Instr.index 286 (.agg #[.string ⟨(kw 0).toArray⟩,.string ⟨(kw 1).toArray⟩,.string ⟨(kw 2).toArray⟩,.string ⟨(kw 3).toArray⟩,.string ⟨(kw 4).toArray⟩,.string ⟨(kw 5).toArray⟩,.string ⟨(kw 6).toArray⟩,.string ⟨(kw 7).toArray⟩,.string ⟨(kw 8).toArray⟩,.string ⟨(kw 9).toArray⟩]) (.int .i64 5)).run Tryz.prog W=.ok (.string ⟨(kw 5).toArray⟩) W:=fun _=>by kernel_rfl
    by_cases h:kw 5=bl s
    ·have HV:Hid (kindV (bl s)=5):=by show _=_;rw[<- h];decide
     have y2:kw 5=s.toList:=by rw[ByteArray.toList_eq];exact h
     have y1:(kw 5 == s.toList)=true:=by rw[y2];exact beq_self_eq_true _
     clear y2 h;go_wp2;go_ret;exact⟨by rw[HV.out];rfl,rfl⟩
    ·have y2:¬kw 5=s.toList:=by rw[ByteArray.toList_eq];exact h
     have y1:(kw 5 == s.toList)=false:=by simpa using y2
     have HN2:Hid (∀ j,j < 6->kw j≠bl s):=fun j hj=>by
      by_cases e:j=5
      ·rw[e];exact h
      ·exact HN.out j (by omega)
     go_wp2;go_roundw
     case rel=>exact⟨6,by decide,by first | trivial | rfl,by first | trivial | rfl,HN2.out⟩
     case measure=>simp[intOf]
   | 6,_=>
    have ix:∀ W,(Instr.index 286 (.agg #[.string ⟨(kw 0).toArray⟩,.string ⟨(kw 1).toArray⟩,.string ⟨(kw 2).toArray⟩,.string ⟨(kw 3).toArray⟩,.string ⟨(kw 4).toArray⟩,.string ⟨(kw 5).toArray⟩,.string ⟨(kw 6).toArray⟩,.string ⟨(kw 7).toArray⟩,.string ⟨(kw 8).toArray⟩,.string ⟨(kw 9).toArray⟩]) (.int .i64 6)).run Tryz.prog W=.ok (.string ⟨(kw 6).toArray⟩) W:=fun _=>by kernel_rfl
    by_cases h:kw 6=bl s
    ·have HV:Hid (kindV (bl s)=6):=by show _=_;rw[<- h];decide
     have y2:kw 6=s.toList:=by rw[ByteArray.toList_eq];exact h
     have y1:(kw 6 == s.toList)=true:=by rw[y2];exact beq_self_eq_true _
     clear y2 h;go_wp2;go_ret;exact⟨by rw[HV.out];rfl,rfl⟩
    ·have y2:¬kw 6=s.toList:=by rw[ByteArray.toList_eq];exact h
     have y1:(kw 6 == s.toList)=false:=by simpa using y2
     have HN2:Hid (∀ j,j < 7->kw j≠bl s):=fun j hj=>by
      by_cases e:j=6
      ·rw[e];exact h
      ·exact HN.out j (by omega)
     go_wp2;go_roundw
     case rel=>exact⟨7,by decide,by first | trivial | rfl,by first | trivial | rfl,HN2.out⟩
     case measure=>simp[intOf]
   | 7,_=>
    have ix:∀ W,(Instr.index 286 (.agg #[.string ⟨(kw 0).toArray⟩,.string ⟨(kw 1).toArray⟩,.string ⟨(kw 2).toArray⟩,.string ⟨(kw 3).toArray⟩,.string ⟨(kw 4).toArray⟩,.string ⟨(kw 5).toArray⟩,.string ⟨(kw 6).toArray⟩,.string ⟨(kw 7).toArray⟩,.string ⟨(kw 8).toArray⟩,.string ⟨(kw 9).toArray⟩]) (.int .i64 7)).run Tryz.prog W=.ok (.string ⟨(kw 7).toArray⟩) W:=fun _=>by kernel_rfl
    by_cases h:kw 7=bl s
    ·have HV:Hid (kindV (bl s)=7):=by show _=_;rw[<- h];decide
     have y2:kw 7=s.toList:=by rw[ByteArray.toList_eq];exact h
     have y1:(kw 7 == s.toList)=true:=by rw[y2];exact beq_self_eq_true _
     clear y2 h;go_wp2;go_ret;exact⟨by rw[HV.out];rfl,rfl⟩
    ·have y2:¬kw 7=s.toList:=by rw[ByteArray.toList_eq];exact h
     have y1:(kw 7 == s.toList)=false:=by simpa using y2
     have HN2:Hid (∀ j,j < 8->kw j≠bl s):=fun j hj=>by
      by_cases e:j=7
      ·rw[e];exact h
      ·exact HN.out j (by omega)
     go_wp2;go_roundw
     case rel=>exact⟨8,by decide,by first | trivial | rfl,by first | trivial | rfl,HN2.out⟩
     case measure=>simp[intOf]
   | 8,_=>
    have ix:∀ W,(Instr.index 286 (.agg #[.string ⟨(kw 0).toArray⟩,.string ⟨(kw 1).toArray⟩,.string ⟨(kw 2).toArray⟩,.string ⟨(kw 3).toArray⟩,.string ⟨(kw 4).toArray⟩,.string ⟨(kw 5).toArray⟩,.string ⟨(kw 6).toArray⟩,.string ⟨(kw 7).toArray⟩,.string ⟨(kw 8).toArray⟩,.string ⟨(kw 9).toArray⟩]) (.int .i64 8)).run Tryz.prog W=.ok (.string ⟨(kw 8).toArray⟩) W:=fun _=>by kernel_rfl
    by_cases h:kw 8=bl s
    ·have HV:Hid (kindV (bl s)=8):=by show _=_;rw[<- h];decide
     have y2:kw 8=s.toList:=by rw[ByteArray.toList_eq];exact h
     have y1:(kw 8 == s.toList)=true:=by rw[y2];exact beq_self_eq_true _
     clear y2 h;go_wp2;go_ret;exact⟨by rw[HV.out];rfl,rfl⟩
    ·have y2:¬kw 8=s.toList:=by rw[ByteArray.toList_eq];exact h
     have y1:(kw 8 == s.toList)=false:=by simpa using y2
     have HN2:Hid (∀ j,j < 9->kw j≠bl s):=fun j hj=>by
      by_cases e:j=8
      ·rw[e];exact h
      ·exact HN.out j (by omega)
     go_wp2;go_roundw
     case rel=>exact⟨9,by decide,by first | trivial | rfl,by first | trivial | rfl,HN2.out⟩
     case measure=>simp[intOf]
   | 9,_=>
    have ix:∀ W,(Instr.index 286 (.agg #[.string ⟨(kw 0).toArray⟩,.string ⟨(kw 1).toArray⟩,.string ⟨(kw 2).toArray⟩,.string ⟨(kw 3).toArray⟩,.string ⟨(kw 4).toArray⟩,.string ⟨(kw 5).toArray⟩,.string ⟨(kw 6).toArray⟩,.string ⟨(kw 7).toArray⟩,.string ⟨(kw 8).toArray⟩,.string ⟨(kw 9).toArray⟩]) (.int .i64 9)).run Tryz.prog W=.ok (.string ⟨(kw 9).toArray⟩) W:=fun _=>by kernel_rfl
    by_cases h:kw 9=bl s
    ·have HV:Hid (kindV (bl s)=9):=by show _=_;rw[<- h];decide
     have y2:kw 9=s.toList:=by rw[ByteArray.toList_eq];exact h
     have y1:(kw 9 == s.toList)=true:=by rw[y2];exact beq_self_eq_true _
     clear y2 h;go_wp2;go_ret;exact⟨by rw[HV.out];rfl,rfl⟩
    ·have y2:¬kw 9=s.toList:=by rw[ByteArray.toList_eq];exact h
     have y1:(kw 9 == s.toList)=false:=by simpa using y2
     have HN2:Hid (∀ j,j < 10->kw j≠bl s):=fun j hj=>by
      by_cases e:j=9
      ·rw[e];exact h
      ·exact HN.out j (by omega)
     go_wp2;go_roundw
     case rel=>exact⟨10,by decide,by first | trivial | rfl,by first | trivial | rfl,HN2.out⟩
     case measure=>simp[intOf]
  ·obtain rfl:k=10:=by omega
   have HV:Hid (kindV (bl s)=-1):=kindV_none HN.out;go_wp2;go_ret;exact⟨by rw[HV.out];rfl,rfl⟩
end Go.Proofs.YtffpcbdlbcjihadGreatDoor
namespace Go.Proofs.YtffpcbdlbcjihadGreatDoor
open Go.RowKit Go.Extern.Stop Go.Stop Go.Extern Go.Maps
theorem wordV_cases (look:Bs->Option Nat)(f:Nat)(w:Bs):(wordV look f w).1=0\/(wordV look f w).1=1\/(wordV look f w).1=5:=by
 unfold wordV
 split
 ·exact Or.inr (Or.inl rfl)
 ·split
  ·exact Or.inl rfl
  ·split
   ·exact Or.inl rfl
   ·exact Or.inr (Or.inl rfl)
  ·split
   ·exact Or.inl rfl
   ·exact Or.inr (Or.inr rfl)
theorem fillV_len {look:Bs->Option Nat}:∀ (fs:List Nat) (ws:List Bs) (nn:Bool),fs.length≠ws.length->(fillV look nn fs ws).1=1
 | [],[],_,h=>absurd rfl h
 | [],_ :: _,_,_=>by simp[fillV]
 | _ :: _,[],_,_=>by simp[fillV]
 | f :: fs,w :: ws,nn,h=>by
  unfold fillV
  split
  ·rfl
  ·exact fillV_len fs ws _ (by simpa using h)
theorem fillV_step {look:Bs->Option Nat}{fs:List Nat}{ws:List Bs}{k f:Nat}{w:Bs}{nn:Bool}(h1:fs[k]?=some f)(h2:ws[k]?=some w):(fillV look nn (fs.drop k) (ws.drop k)).1=if (wordV look f w).1=1 then 1 else (fillV look (nn || decide ((wordV look f w).1=5)) (fs.drop (k+1)) (ws.drop (k+1))).1:=by
 obtain⟨a1,a2⟩:=List.getElem?_eq_some_iff.1 h1;obtain⟨b1,b2⟩:=List.getElem?_eq_some_iff.1 h2;rw[List.drop_eq_getElem_cons a1,List.drop_eq_getElem_cons b1,a2,b2];rw[fillV]
 split <;> rfl
theorem fillV_end {look:Bs->Option Nat}{fs:List Nat}{ws:List Bs}{k:Nat}{nn:Bool}(h1:fs.length=k)(h2:ws.length=k):(fillV look nn (fs.drop k) (ws.drop k)).1=if nn then 5 else 0:=by
 rw[<- h1,List.drop_length,h1,<- h2,List.drop_length];rfl
theorem frozen_below {w w':World}{b o:Nat}{v:Value}(hb:Below w.heap.size w w')(hc:w.cell? ⟨b,o,none⟩=some v):w'.frozen? ⟨b,o,none⟩=w.frozen? ⟨b,o,none⟩:=by
 have:=hb.block b (block_lt hc);unfold World.frozen?;simp only;rw[this]
theorem sets_append:∀ (w:World) (as' bs:List (Nat × Nat)) (us vs:List Value),as'.length=us.length->sets w (as'++bs) (us++vs)=sets (sets w as' us) bs vs
 | w,[],bs,[],vs,_=>rfl
 | w,a :: as',bs,u :: us,vs,h=>by
  simp only[List.cons_append,sets];exact sets_append _ as' bs us vs (by simpa using h)
theorem sets_same:∀ (w:World) (bs:List (Nat × Nat)) (vs:List Value),(∀ (i:Nat) b v,bs[i]?=some b->vs[i]?=some v->w.cell? ⟨b.1,b.2,none⟩=some v)->sets w bs vs=w
 | w,[],vs,_=>sets_nil _ _
 | w,_ :: _,[],_=>sets_nil' _ _
 | w,b :: bs,v :: vs,h=>by
  rw[sets,setCell_same (h 0 b v rfl rfl)];exact sets_same w bs vs (fun i b' v' h1 h2=>h (i+1) b' v' (by simpa using h1) (by simpa using h2))
def FillPost (A:Nat->Addr)(pts:List ByteArray)(fs:List Nat)(tg:List (Nat × Nat))(ws:List ByteArray)(w:World)(v:Ending)(w':World):Prop:=
 v=.returned (errV A (fillV (lookL pts) false fs (ws.map bl)).1)/\∃ us:List Value,us.length=tg.length/\(∀ (i:Nat) f u,fs[i]?=some f->us[i]?=some u->Typed f u)/\((fillV (lookL pts) false fs (ws.map bl)).1=0->∀ (i:Nat) f s u,fs[i]?=some f->ws[i]?=some s->us[i]?=some u->u=valOf f s (wordV (lookL pts) f (bl s)).2)/\Below w.heap.size (sets w tg us) w'
structure FillIn (w0:World)(rb:Nat)(pts:List ByteArray)(fs:List Nat)(tg:List (Nat × Nat))(ws:List ByteArray)(wb wo ib:Nat)(w:World):Prop where
 bel:Below w0.heap.size w0 w
 len:fs.length=tg.length
 f3:∀ f∈fs,f < 3
 few:fs.length<=4
 tgt:∀ (i:Nat) f t,fs[i]?=some f->tg[i]?=some t->(∃ old,w.cell? ⟨t.1,t.2,none⟩=some old/\Typed f old)/\w.frozen? ⟨t.1,t.2,none⟩=false
 lo:∀ t∈tg,w0.heap.size<=t.1/\t≠(rb,6)/\t.1≠ib/\t.1≠wb
 nd:tg.Nodup
 into:∀ (i:Nat) f t,fs[i]?=some f->tg[i]?=some t->w.cell? ⟨ib,i,none⟩=some (.iface (tgtTy f) (.pointer (some ⟨t.1,t.2,none⟩)))
 wrd:∀ (i:Nat) s,ws[i]?=some s->w.cell? ⟨wb,wo+i,none⟩=some (.string s)
 wsz:∀ s∈ws,s.size<=1000000
 map:2∈fs->∃ mb,MapAt w rb mb pts
structure FillAt (A:Nat->Addr)(rb:Nat)(pts:List ByteArray)(f:Nat)(s:ByteArray)(t:Nat × Nat)(V:World):Prop where
 senv:Sen6 A V
 tgt:∃ old,V.cell? ⟨t.1,t.2,none⟩=some old/\Typed f old
 fz:V.frozen? ⟨t.1,t.2,none⟩=false
 map:f=2->∃ mb,MapAt V rb mb pts
 f3:f < 3
 ssz:s.size<=1000000
theorem cell_sets {w V:World}{tg:List (Nat × Nat)}{k:Nat}{us:List Value}(hV:Below w.heap.size (sets w (tg.take k) us) V){b o:Nat}{v:Value}(hc:w.cell? ⟨b,o,none⟩=some v)(hn:∀ t∈tg.take k,t≠(b,o)):V.cell? ⟨b,o,none⟩=some v:=by
 have h1:=sets_cell w (tg.take k) us b o hn;exact(hV.cell (p:=⟨b,o,none⟩) (block_lt hc)).trans (h1.trans hc)
theorem take_ne {tg:List (Nat × Nat)}(hd:tg.Nodup){k:Nat}{t:Nat × Nat}(ht:tg[k]?=some t):∀ x∈tg.take k,x≠t:=by
 intro x hx e;subst e;obtain⟨j,hj,e⟩:=List.getElem_of_mem hx;have hj2:j < k:=by simp at hj;omega
 obtain⟨k1,k2⟩:=List.getElem?_eq_some_iff.1 ht;have e2:tg[j]'(by omega)=tg[k]:=by rw[k2,<- e];simp
 have:=(List.getElem_inj hd).1 e2;omega
theorem FillIn.at' {A:Nat->Addr}{w0 w V:World}{rb:Nat}{pts:List ByteArray}{fs:List Nat}{tg:List (Nat × Nat)}{ws:List ByteArray}{wb wo ib:Nat}(h:FillIn w0 rb pts fs tg ws wb wo ib w)(hs:Sen6 A w0){k f:Nat}{s:ByteArray}{t:Nat × Nat}{us:List Value}(hV:Below w.heap.size (sets w (tg.take k) us) V)(h1:fs[k]?=some f)(h2:tg[k]?=some t)(h3:ws[k]?=some s) :
  FillAt A rb pts f s t V/\V.cell? ⟨wb,wo+k,none⟩=some (.string s)/\V.cell? ⟨ib,k,none⟩=some (.iface (tgtTy f) (.pointer (some ⟨t.1,t.2,none⟩))):=by
 have hlo:∀ x∈tg.take k,w0.heap.size<=x.1/\x≠(rb,6)/\x.1≠ib/\x.1≠wb:=fun x hx=>h.lo x (List.mem_of_mem_take hx)
 have hbW:Below w0.heap.size w0 V:=h.bel.trans ((sets_below w0.heap.size w (tg.take k) us (fun x hx=>(hlo x hx).1)).trans (hV.mono h.bel.size));obtain⟨⟨old,ho,hT⟩,hf⟩:=h.tgt k f t h1 h2;have ht:=cell_sets hV ho (take_ne h.nd h2)
 refine⟨⟨hs.below hbW,⟨old,ht,hT⟩,?_,?_,h.f3 f (List.mem_of_getElem? h1),h.wsz s (List.mem_of_getElem? h3)⟩,?_,?_⟩
 ·have e1:=sets_frozen w (tg.take k) us ⟨t.1,t.2,none⟩;have e2:(sets w (tg.take k) us).cell? ⟨t.1,t.2,none⟩=some old:=(sets_cell w (tg.take k) us t.1 t.2 (take_ne h.nd h2)).trans ho;rw[frozen_below (by rw[sets_size];exact hV) e2,e1];exact hf
 ·rintro rfl;obtain⟨mb,hm⟩:=h.map (List.mem_of_getElem? h1);obtain⟨D,⟨es,clock,g1,g2⟩,hD⟩:=hm.own
  refine⟨mb,cell_sets hV hm.c6 (fun x hx=>(hlo x hx).2.1),D,⟨es,clock,?_,g2⟩,hD⟩;have hmb:mb < w.heap.size:=lt_of_row g1;rw[hV.block mb hmb,sets_heap w (tg.take k) us mb,g1];intro x hx e;obtain⟨j,hj,e2⟩:=List.getElem_of_mem hx;have hj2:tg[j]?=some x:=by
   have:j < tg.length:=by simp at hj;omega
   rw[List.getElem?_eq_getElem this,<- e2];simp
  have hjf:j < fs.length:=by rw[h.len];exact(List.getElem?_eq_some_iff.1 hj2).1
  obtain⟨⟨o2,ho2,-⟩,-⟩:=h.tgt j fs[j] x (List.getElem?_eq_getElem hjf) hj2;unfold World.cell? at ho2;simp only[e,g1] at ho2
  cases ho2
 ·exact cell_sets hV (h.wrd k s h3) (fun x hx e=>(hlo x hx).2.2.2 (by rw[e]))
 ·exact cell_sets hV (h.into k f t h1 h2) (fun x hx e=>(hlo x hx).2.2.1 (by rw[e]))
theorem rword_at {A:Nat->Addr}{rb:Nat}{pts:List ByteArray}{f:Nat}{s:ByteArray}{t:Nat × Nat}{V:World}(h:FillAt A rb pts f s t V) :
  Calls Tryz.prog 296 #[.pointer (some ⟨rb,0,none⟩),.string s,.iface (tgtTy f) (.pointer (some ⟨t.1,t.2,none⟩))] V (WordPost A pts f s t.1 t.2 V):=by
 obtain⟨old,ht,hT⟩:=h.tgt
 by_cases h0:s.size=0
 ·have:=ba_nil h0;subst this;exact rword_nil A pts rb f _ t.1 t.2 old V h.senv ht hT
 ·have h1:1<=s.size:=by omega
  match f,h.f3,hT,h with
  | 0,_,_,h=>exact rword_str A pts rb s t.1 t.2 old V h1 h.ssz ht h.fz
  | 1,_,hT,h=>exact rword_num A pts rb s t.1 t.2 old V h.senv h1 h.ssz ht hT h.fz
  | 2,_,hT,h=>
   obtain⟨mb,hm⟩:=h.map rfl;exact rword_place A pts rb mb s t.1 t.2 old V h.senv h1 h.ssz hm ht hT h.fz
end Go.Proofs.YtffpcbdlbcjihadGreatDoor
