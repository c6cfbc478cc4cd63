/-
  Several texts as one: CfArgB, CfArgE, CfMem, CfArg, AlSt, LcPure, LoPure, FlKey.
-/
import Derived.Test.YtdpdbfhbojgigacGreatDoorC01S
import Derived.BigQuiet
import Derived.Deep.QuietTactic
import Derived.Deep.DeepCutAuto
import Derived.WalkSmall
import Derived.Lib.LaidTab
import Derived.ProofKit
import Derived.OpenShut
import Derived.Deep.Slices
import Derived.Carry
import Derived.DeepKeys4
import Derived.Maps.OwnSet
import Derived.Maps.Own
namespace Go.Proofs.YtdpdbfhbojgigacGreatDoor
open Go.ChangeShapes Go.WideShapes Go.ChangeAt Go.RowKit Go.Deep
theorem Tryz.laidOut:laidOutB Tryz.prog=true:=by kernel_rfl
theorem spot_none {W:World}{a:Addr}{v:Value}(h:W.cell? a=some v):a=⟨a.block,a.off,none⟩:=by
 obtain⟨b,o,s⟩:=a
 cases s with
 | none=>rfl
 | some x=>
  exfalso
  unfold World.cell? at h
  split at h
  ·simp at h
  ·cases h
theorem add_plain (b o j:Nat):(⟨b,o,none⟩:Addr).add j=⟨b,o+j,none⟩:=by unfold Addr.add;split <;> simp_all
theorem cells_of {W:World}{a:Addr}{k:Nat}{cs:List Value}(h:W.cells? 0 a k=some cs):cs.length=k/\∀ j u,cs[j]?=some u->W.cell? (a.add j)=some u:=by
 unfold World.cells? at h;rw[if_pos (Nat.zero_le _)] at h;have hl:cs.length=k:=by simpa using Lib.mapM_length h
 refine⟨hl,fun j u hu=>?_⟩;have hj:j < k:=by have:=(List.getElem?_eq_some_iff.1 hu).1;omega
 obtain⟨b,h1,h2⟩:=Lib.mapM_at h j j (by simp[hj]);rw[hu] at h1
 cases h1
 exact h2
theorem choose_any {α:Type}(d:α){n:Nat}{p:Nat->α->Prop}(h:∀ i,i < n->∃ x,p i x):∃ f:Nat->α,∀ i,i < n->p i (f i):=by
 classical
 refine⟨fun i=>if hi:i < n then Classical.choose (h i hi) else d,fun i hi=>?_⟩;simp only[dif_pos hi];exact Classical.choose_spec (h i hi)
theorem sl_gen {α:Type}(d:α){Q:List Value->α->Prop}{H:Type}{enc:TypeId × Value->H}{W:World}{T Ts:TypeId}{k fuel:Nat}{cs:List Value}{x:DataW H × List MemPlace}(hs:Tryz.prog.underlying Ts=some (.slice T))(hk:Tryz.prog.cellsOf T=k)(hk0:0 < k)
  (hel:∀ n cs x,DataW.trod enc Tryz.prog W 0 (fun _=>true) true n T cs=some x->∃ a,Q cs a) (h:DataW.trod enc Tryz.prog W 0 (fun _=>true) true fuel Ts cs=some x) :
  ∃ (sa:Option Addr) (cap:Nat) (xs:List α),cs=[.slice sa xs.length cap]/\xs.length<=cap/\(xs≠[]->∃ b o,sa=some ⟨b,o,none⟩/\∀ i a,xs[i]?=some a->∃ cs',Q cs' a/\∀ j u,cs'[j]?=some u->W.cell? ⟨b,o+i*k+j,none⟩=some u):=by
 rcases open_slice hs h with ⟨hcs,-⟩ | ⟨a,len,cap,m,n,D,Pl,hcs,-,hlc,hcm,hm,-,hall⟩
 ·exact⟨none,0,[],by simpa using hcs,Nat.le_refl _,fun e=>absurd rfl e⟩
 ·simp only[if_true] at hm;subst hm;rw[hk] at hall;obtain⟨f,hf⟩:=choose_any d (n:=len) (p:=fun i y=>∃ cs',Q cs' y/\W.cells? 0 (a.add (i*k)) k=some cs') (fun i hi=>by
   obtain⟨cs',h1,h2⟩:=hall i (by omega);obtain⟨y,hy⟩:=hel _ _ _ h2;exact⟨y,cs',hy,h1⟩)
  have hxl:((List.range len).map f).length=len:=by simp
  refine⟨some a,m,(List.range len).map f,by rw[hxl];exact hcs,by rw[hxl];exact hlc,fun hne=>?_⟩;have hpos:0 < len:=by
   rcases Nat.eq_zero_or_pos len with h0 | h0
   ·subst h0;exact absurd rfl hne
   ·exact h0
  have ha:a=⟨a.block,a.off,none⟩:=by
   obtain⟨cs',-,h1⟩:=hf 0 hpos;obtain⟨hl,hc⟩:=cells_of h1;have e:(a.add (0*k)).add 0=a:=by simp[Addr.add]
   have:=hc 0 (cs'[0]'(by omega)) (List.getElem?_eq_getElem _);rw[e] at this;exact spot_none this
  refine⟨a.block,a.off,congrArg some ha,fun i y hy=>?_⟩;rw[List.getElem?_map,Option.map_eq_some_iff] at hy;obtain⟨i',hi',rfl⟩:=hy;obtain⟨hil0,hi2⟩:=List.getElem?_eq_some_iff.1 hi';have hil:i < len:=by simpa using hil0
  obtain rfl:i=i':=by simpa using hi2
  obtain⟨cs',h1,h2⟩:=hf i hil
  refine⟨cs',h1,fun j u hu=>?_⟩;have:=(cells_of h2).2 j u hu;rw[ha,add_plain,add_plain] at this;exact this
theorem sl_of_trod {α:Type}(d:α){ec:α->List Value}{H:Type}{enc:TypeId × Value->H}{W:World}{T Ts:TypeId}{k fuel:Nat}{v:Value}{x:DataW H × List MemPlace}(hs:Tryz.prog.underlying Ts=some (.slice T))(hk:Tryz.prog.cellsOf T=k)(hk0:0 < k)
  (hel:∀ n cs x,DataW.trod enc Tryz.prog W 0 (fun _=>true) true n T cs=some x->∃ a,cs=ec a) (h:DataW.trod enc Tryz.prog W 0 (fun _=>true) true fuel Ts [v]=some x):∃ xs:List α,SlAt ec k W v xs:=by
 obtain⟨sa,cap,xs,hcs,hl,hx⟩:=sl_gen d (Q:=fun cs a=>cs=ec a) hs hk hk0 hel h;simp only[List.cons.injEq,and_true] at hcs
 refine⟨xs,sa,cap,hcs,hl,fun hne=>?_⟩;obtain⟨b,o,h1,h2⟩:=hx hne
 refine⟨b,o,h1,fun i y hy j u hu=>?_⟩;obtain⟨cs',rfl,h3⟩:=h2 i y hy;exact h3 j u hu
theorem sl_of_trod2 {α:Type}(d:α){ec:α->List Value}{R:α->Prop}{H:Type}{enc:TypeId × Value->H}{W:World}{T Ts:TypeId}{k fuel:Nat}{v:Value}{x:DataW H × List MemPlace}(hs:Tryz.prog.underlying Ts=some (.slice T))(hk:Tryz.prog.cellsOf T=k)(hk0:0 < k)
  (hel:∀ n cs x,DataW.trod enc Tryz.prog W 0 (fun _=>true) true n T cs=some x->∃ a,cs=ec a/\R a) (h:DataW.trod enc Tryz.prog W 0 (fun _=>true) true fuel Ts [v]=some x):∃ xs:List α,SlAt ec k W v xs/\∀ a∈xs,R a:=by
 obtain⟨sa,cap,xs,hcs,hl,hx⟩:=sl_gen d (Q:=fun cs a=>cs=ec a/\R a) hs hk hk0 hel h;simp only[List.cons.injEq,and_true] at hcs
 refine⟨xs,⟨sa,cap,hcs,hl,fun hne=>?_⟩,fun a ha=>?_⟩
 ·obtain⟨b,o,h1,h2⟩:=hx hne
  refine⟨b,o,h1,fun i y hy j u hu=>?_⟩;obtain⟨cs',⟨rfl,-⟩,h3⟩:=h2 i y hy;exact h3 j u hu
 ·obtain⟨i,hi⟩:=List.getElem?_of_mem ha;obtain⟨b,o,h1,h2⟩:=hx (fun e=>by rw[e] at ha;cases ha);obtain⟨cs',⟨-,hr⟩,-⟩:=h2 i a hi;exact hr
theorem int_of_trod {H:Type}{enc:TypeId × Value->H}{W:World}(n:Nat)(cs:List Value)(x:DataW H × List MemPlace)(h:DataW.trod enc Tryz.prog W 0 (fun _=>true) true n 3 cs=some x):∃ z:Int,cs=encI z:=by
 obtain⟨z,h1,-,-⟩:=DataW.trod_int Tryz.underlying3 h;exact⟨z,h1⟩
theorem str_of_trod {H:Type}{enc:TypeId × Value->H}{W:World}(n:Nat)(cs:List Value)(x:DataW H × List MemPlace)(h:DataW.trod enc Tryz.prog W 0 (fun _=>true) true n 9 cs=some x):∃ z:ByteArray,cs=encS z:=by
 obtain⟨z,h1,-,-⟩:=DataW.trod_string Tryz.underlying9 h;exact⟨z,h1⟩
theorem Tryz.cellsEnt:Tryz.prog.cellsOf 38=10:=by kernel_rfl
theorem Tryz.cellsGap:Tryz.prog.cellsOf 145=4:=by kernel_rfl
theorem Tryz.cellsTwo:Tryz.prog.cellsOf 146=2:=by kernel_rfl
theorem Tryz.cellsOne:Tryz.prog.cellsOf 3=1/\Tryz.prog.cellsOf 9=1/\Tryz.prog.cellsOf 33=1/\Tryz.prog.cellsOf 34=1/\Tryz.prog.cellsOf 35=1/\Tryz.prog.cellsOf 36=1:=⟨by kernel_rfl,by kernel_rfl,by kernel_rfl,by kernel_rfl,by kernel_rfl,by kernel_rfl⟩
set_option maxRecDepth 100000 in
theorem two_of_trod2 {H:Type}{enc:TypeId × Value->H}{W:World}(n:Nat)(cs:List Value)(x:DataW H × List MemPlace)(h:DataW.trod enc Tryz.prog W 0 (fun _=>true) true n 146 cs=some x):∃ z:Int × Int,cs=encP z/\((Lit.int .i64 z.1).wf=true/\(Lit.int .i64 z.2).wf=true):=by
 obtain⟨xs,m,-,-,hl,hxs,hf⟩:=DataW.trod_array Tryz.underlying146 h;rw[Tryz.cellsTwo] at hl
 match cs,hl with
 | [c0,c1],_=>
  have g:∀ i,i < 2->∃ y,xs[i]?=some y:=fun i hi=>⟨xs[i]'(by rw[hxs];exact hi),List.getElem?_eq_getElem _⟩
  obtain⟨y0,k0⟩:=g 0 (by decide);obtain⟨y1,k1⟩:=g 1 (by decide);have e0:=hf 0 (by decide);have e1:=hf 1 (by decide);rw[k0] at e0;rw[k1] at e1;simp only[Tryz.cellsOne] at e0 e1;obtain⟨n0,q0,-,w0⟩:=DataW.trod_int Tryz.underlying3 e0;obtain⟨n1,q1,-,w1⟩:=DataW.trod_int Tryz.underlying3 e1;simp at q0 q1
  subst q0 q1;exact⟨(n0,n1),rfl,w0,w1⟩
set_option maxRecDepth 100000 in
theorem gap_of_trod {H:Type}{enc:TypeId × Value->H}{W:World}(n:Nat)(cs:List Value)(x:DataW H × List MemPlace)(h:DataW.trod enc Tryz.prog W 0 (fun _=>true) true n 145 cs=some x):∃ z:GapD,cs=encG z:=by
 obtain⟨xs,m,-,-,hl,hxs,hf⟩:=DataW.trod_struct Tryz.underlying145 h;rw[Tryz.cellsGap] at hl
 match cs,hl with
 | [c0,c1,c2,c3],_=>
  have g:∀ i,i < 4->∃ y,xs[i]?=some y:=fun i hi=>⟨xs[i]'(by rw[hxs];exact hi),List.getElem?_eq_getElem _⟩
  obtain⟨y0,k0⟩:=g 0 (by decide);obtain⟨y1,k1⟩:=g 1 (by decide);obtain⟨y2,k2⟩:=g 2 (by decide);obtain⟨y3,k3⟩:=g 3 (by decide);have e0:DataW.trod enc Tryz.prog W 0 (fun _=>true) true m 3 [c0]=some y0:=by have e:=hf 0 _ rfl;rw[k0] at e;simpa[Tryz.cellsOne] using e
  have e1:DataW.trod enc Tryz.prog W 0 (fun _=>true) true m 3 [c1]=some y1:=by have e:=hf 1 _ rfl;rw[k1] at e;simpa[Tryz.cellsOne] using e
  have e2:DataW.trod enc Tryz.prog W 0 (fun _=>true) true m 3 [c2]=some y2:=by have e:=hf 2 _ rfl;rw[k2] at e;simpa[Tryz.cellsOne] using e
  have e3:DataW.trod enc Tryz.prog W 0 (fun _=>true) true m 3 [c3]=some y3:=by have e:=hf 3 _ rfl;rw[k3] at e;simpa[Tryz.cellsOne] using e
  obtain⟨n0,q0,-,-⟩:=DataW.trod_int Tryz.underlying3 e0;obtain⟨n1,q1,-,-⟩:=DataW.trod_int Tryz.underlying3 e1;obtain⟨n2,q2,-,-⟩:=DataW.trod_int Tryz.underlying3 e2;obtain⟨n3,q3,-,-⟩:=DataW.trod_int Tryz.underlying3 e3;simp at q0 q1 q2 q3
  subst q0 q1 q2 q3;exact⟨⟨n0,n1,n2,n3⟩,rfl⟩
set_option maxRecDepth 100000 in
theorem ent_of_trod2 {H:Type}{enc:TypeId × Value->H}{W:World}(n:Nat)(cs:List Value)(x:DataW H × List MemPlace)(h:DataW.trod enc Tryz.prog W 0 (fun _=>true) true n 38 cs=some x):∃ e:EntD,∃ pv gv ev fv lv,cs=(entRow e pv gv ev fv lv).toList/\EntParts W e pv gv ev fv lv/\∀ p∈e.edges,(Lit.int .i64 p.1).wf=true/\(Lit.int .i64 p.2).wf=true:=by
 obtain⟨xs,m,-,-,hl,hxs,hf⟩:=DataW.trod_struct Tryz.underlying38 h;rw[Tryz.cellsEnt] at hl
 match cs,hl with
 | [c0,c1,c2,c3,c4,c5,c6,c7,c8,c9],_=>
  have g:∀ i,i < 10->∃ y,xs[i]?=some y:=fun i hi=>⟨xs[i]'(by rw[hxs];exact hi),List.getElem?_eq_getElem _⟩
  obtain⟨y0,k0⟩:=g 0 (by decide);obtain⟨y1,k1⟩:=g 1 (by decide);obtain⟨y2,k2⟩:=g 2 (by decide);obtain⟨y3,k3⟩:=g 3 (by decide);obtain⟨y4,k4⟩:=g 4 (by decide);obtain⟨y5,k5⟩:=g 5 (by decide);obtain⟨y6,k6⟩:=g 6 (by decide);obtain⟨y7,k7⟩:=g 7 (by decide);obtain⟨y8,k8⟩:=g 8 (by decide);obtain⟨y9,k9⟩:=g 9 (by decide);have e0:DataW.trod enc Tryz.prog W 0 (fun _=>true) true m 9 [c0]=some y0:=by have e:=hf 0 _ rfl;rw[k0] at e;simpa[Tryz.cellsOne] using e
  have e1:DataW.trod enc Tryz.prog W 0 (fun _=>true) true m 3 [c1]=some y1:=by have e:=hf 1 _ rfl;rw[k1] at e;simpa[Tryz.cellsOne] using e
  have e2:DataW.trod enc Tryz.prog W 0 (fun _=>true) true m 33 [c2]=some y2:=by have e:=hf 2 _ rfl;rw[k2] at e;simpa[Tryz.cellsOne] using e
  have e3:DataW.trod enc Tryz.prog W 0 (fun _=>true) true m 3 [c3]=some y3:=by have e:=hf 3 _ rfl;rw[k3] at e;simpa[Tryz.cellsOne] using e
  have e4:DataW.trod enc Tryz.prog W 0 (fun _=>true) true m 3 [c4]=some y4:=by have e:=hf 4 _ rfl;rw[k4] at e;simpa[Tryz.cellsOne] using e
  have e5:DataW.trod enc Tryz.prog W 0 (fun _=>true) true m 3 [c5]=some y5:=by have e:=hf 5 _ rfl;rw[k5] at e;simpa[Tryz.cellsOne] using e
  have e6:DataW.trod enc Tryz.prog W 0 (fun _=>true) true m 34 [c6]=some y6:=by have e:=hf 6 _ rfl;rw[k6] at e;simpa[Tryz.cellsOne] using e
  have e7:DataW.trod enc Tryz.prog W 0 (fun _=>true) true m 35 [c7]=some y7:=by have e:=hf 7 _ rfl;rw[k7] at e;simpa[Tryz.cellsOne] using e
  have e8:DataW.trod enc Tryz.prog W 0 (fun _=>true) true m 36 [c8]=some y8:=by have e:=hf 8 _ rfl;rw[k8] at e;simpa[Tryz.cellsOne] using e
  have e9:DataW.trod enc Tryz.prog W 0 (fun _=>true) true m 36 [c9]=some y9:=by have e:=hf 9 _ rfl;rw[k9] at e;simpa[Tryz.cellsOne] using e
  obtain⟨n0,q0,-,-⟩:=DataW.trod_string Tryz.underlying9 e0;obtain⟨n1,q1,-,-⟩:=DataW.trod_int Tryz.underlying3 e1;obtain⟨n3,q3,-,-⟩:=DataW.trod_int Tryz.underlying3 e3;obtain⟨n4,q4,-,-⟩:=DataW.trod_int Tryz.underlying3 e4;obtain⟨n5,q5,-,-⟩:=DataW.trod_int Tryz.underlying3 e5;obtain⟨l2,h2⟩:=sl_of_trod ByteArray.empty (ec:=encS) Tryz.underlying33 Tryz.cellsOne.2.1 (by decide) str_of_trod e2;obtain⟨l6,h6⟩:=sl_of_trod (⟨0,0,0,0⟩:GapD) (ec:=encG) Tryz.underlying34 Tryz.cellsGap (by decide) gap_of_trod e6;obtain⟨l7,h7,w7⟩:=sl_of_trod2 ((0,0):Int × Int) (ec:=encP) (R:=fun p=>(Lit.int .i64 p.1).wf=true/\(Lit.int .i64 p.2).wf=true) Tryz.underlying35 Tryz.cellsTwo (by decide) two_of_trod2 e7;obtain⟨l8,h8⟩:=sl_of_trod (0:Int) (ec:=encI) Tryz.underlying36 Tryz.cellsOne.1 (by decide) int_of_trod e8;obtain⟨l9,h9⟩:=sl_of_trod (0:Int) (ec:=encI) Tryz.underlying36 Tryz.cellsOne.1 (by decide) int_of_trod e9;simp at q0 q1 q3 q4 q5
  subst q0 q1 q3 q4 q5;exact⟨⟨n0,n1,l2,n3,n4,n5,l6,l7,l8,l9⟩,c2,c6,c7,c8,c9,rfl,⟨h2,h6,h7,h8,h9⟩,w7⟩
theorem ent_of_trod {H:Type}{enc:TypeId × Value->H}{W:World}(n:Nat)(cs:List Value)(x:DataW H × List MemPlace)(h:DataW.trod enc Tryz.prog W 0 (fun _=>true) true n 38 cs=some x):∃ e:EntD,∃ pv gv ev fv lv,cs=(entRow e pv gv ev fv lv).toList/\EntParts W e pv gv ev fv lv:=by
 obtain⟨e,pv,gv,ev,fv,lv,h1,h2,-⟩:=ent_of_trod2 n cs x h;exact⟨e,pv,gv,ev,fv,lv,h1,h2⟩
end Go.Proofs.YtdpdbfhbojgigacGreatDoor
namespace Go.Proofs.YtdpdbfhbojgigacGreatDoor
open Go.RowKit Go.Extern.Stop Go.Stop Go.Extern
structure Sen5 (A:Nat->Addr)(w:World):Prop where
 c1:w.cell? ⟨1,0,none⟩=some (.iface 298 (.pointer (some (A 1))))
 c2:w.cell? ⟨3,0,none⟩=some (.iface 298 (.pointer (some (A 2))))
 c3:w.cell? ⟨8,0,none⟩=some (.iface 298 (.pointer (some (A 3))))
 c4:w.cell? ⟨5,0,none⟩=some (.iface 298 (.pointer (some (A 4))))
 c5:w.cell? ⟨9,0,none⟩=some (.iface 298 (.pointer (some (A 5))))
theorem Sen5.below {A:Nat->Addr}{w w':World}(h:Sen5 A w)(hb:Below w.heap.size w w'):Sen5 A w':=
 ⟨cell_below hb h.c1,cell_below hb h.c2,cell_below hb h.c3,cell_below hb h.c4,cell_below hb h.c5⟩
theorem Sen5.alloc {A:Nat->Addr}{w:World}(h:Sen5 A w)(o:Obj):Sen5 A (w.alloc o):=h.below ((Below.refl _ _).alloc (Nat.le_refl _) _)
def errV (A:Nat->Addr):Nat->Value
 | 0=>.nilIface
 | j+1=>.iface 298 (.pointer (some (A j)))
def ErrAt (A:Nat->Addr)(w:World)(v:Value)(f:Nat × Int):Prop:=
 f.1<=11/\((f.2=-1/\v=errV A f.1)\/(0 < f.1/\∃ b,v=.iface 164 (.pointer (some ⟨b,0,none⟩))/\w.cell? ⟨b,0,none⟩=some (.int .i64 f.2)/\w.cell? ⟨b,1,none⟩=some (errV A f.1)))
theorem within_at (n a b:Int)(w:World):Calls Tryz.prog 143 #[.int .i64 n,.int .i64 a,.int .i64 b] w fun e w'=>e=.returned (.bool (within n a b))/\w'=w:=by
 by_cases h1:a<=n
 ·by_cases h2:n<=b
  all_goals
   go_enter Tryz.func143,Tryz.ntmps143
   go_wp2;go_ret;exact⟨by simp[within,h1,h2],rfl⟩
 ·go_enter Tryz.func143,Tryz.ntmps143
  go_wp2;go_ret;exact⟨by simp[within];omega,rfl⟩
theorem isLetter_at (b:UInt8)(w:World):Calls Tryz.prog 179 #[.int .u8 (b.toNat:Int)] w fun e w'=>e=.returned (.bool (isLetter b))/\w'=w:=by
 have hb:isLetter b=(decide ((97:Int)<=(b.toNat:Int)) && decide ((b.toNat:Int)<=122)):=by
  unfold isLetter;congr 1 <;> exact decide_eq_decide.2 (by omega)
 rw[hb];generalize (b.toNat:Int)=n
 by_cases h1:97<=n
 ·by_cases h2:n<=122
  all_goals
   go_enter Tryz.func179,Tryz.ntmps179
   go_wp2;go_ret;exact⟨by simp[h1,h2],rfl⟩
 ·go_enter Tryz.func179,Tryz.ntmps179
  go_wp2;go_ret;exact⟨by simp;omega,rfl⟩
theorem isDigit_at (b:UInt8)(w:World):Calls Tryz.prog 180 #[.int .u8 (b.toNat:Int)] w fun e w'=>e=.returned (.bool (isDig b))/\w'=w:=by
 have hb:isDig b=(decide ((48:Int)<=(b.toNat:Int)) && decide ((b.toNat:Int)<=57)):=by
  unfold isDig;congr 1 <;> exact decide_eq_decide.2 (by omega)
 rw[hb];generalize (b.toNat:Int)=n
 by_cases h1:48<=n
 ·by_cases h2:n<=57
  all_goals
   go_enter Tryz.func180,Tryz.ntmps180
   go_wp2;go_ret;exact⟨by simp[h1,h2],rfl⟩
 ·go_enter Tryz.func180,Tryz.ntmps180
  go_wp2;go_ret;exact⟨by simp;omega,rfl⟩
theorem dogNew_ok (c o:Int)(w:World)(h:(within c 0 1000 && within o 1 1000)=true):Calls Tryz.prog 71 #[.int .i64 c,.int .i64 o] w fun e w'=>e=.returned (.tuple #[.pointer (some ⟨w.heap.size,0,none⟩),.nilIface])/\Below w.heap.size w w':=by
 simp[within] at h
 have g1:¬c < 0:=by omega
 have g2:¬1000 < c:=by omega
 have g3:¬o < 1:=by omega
 have g4:¬1000 < o:=by omega
 clear h;go_enter Tryz.func71,Tryz.ntmps71
 go_wp2;go_ret2
 exact⟨rfl,(Below.refl _ _).alloc (Nat.le_refl _) _⟩
theorem dogNew_bad (A:Nat->Addr)(c o:Int)(w:World)(hs:Sen5 A w)(h:(within c 0 1000 && within o 1 1000)=false):Calls Tryz.prog 71 #[.int .i64 c,.int .i64 o] w fun e w'=>e=.returned (.tuple #[.pointer none,.iface 298 (.pointer (some (A 1)))])/\Below w.heap.size w w':=by
 have hc:=hs.c1;simp[within] at h
 by_cases g1:c < 0
 ·clear h;go_enter Tryz.func71,Tryz.ntmps71
  go_wp2_with fail
  go_quiet (fail)
  go_wp2;go_ret2
  exact⟨rfl,below_drewN (Below.refl _ _) _⟩
 by_cases g2:1000 < c
 ·clear h;go_enter Tryz.func71,Tryz.ntmps71
  go_wp2_with fail
  go_quiet (fail)
  go_wp2;go_ret2
  exact⟨rfl,below_drewN (Below.refl _ _) _⟩
 by_cases g3:o < 1
 ·clear h;go_enter Tryz.func71,Tryz.ntmps71
  go_wp2_with fail
  go_quiet (fail)
  go_wp2;go_ret2
  exact⟨rfl,below_drewN (Below.refl _ _) _⟩
 ·have g4:1000 < o:=by omega
  clear h;go_enter Tryz.func71,Tryz.ntmps71
  go_wp2_with fail
  go_quiet (fail)
  go_wp2;go_ret2
  exact⟨rfl,below_drewN (Below.refl _ _) _⟩
theorem isWindow_at (A:Nat->Addr)(c o:Int)(w:World)(hs:Sen5 A w):Calls Tryz.prog 141 #[.int .i64 c,.int .i64 o] w fun e w'=>e=.returned (.bool (within c 0 1000 && within o 1 1000))/\Below w.heap.size w w':=by
 cases h:(within c 0 1000 && within o 1 1000) with
 | true=>
  have dn:=dogNew_ok c o w h;go_enter Tryz.func141,Tryz.ntmps141
  go_wp2_with fail
  refine dn.mono ?_;rintro e w' ⟨rfl,hb⟩;go_wp2;go_ret;exact⟨rfl,hb⟩
 | false=>
  have dn:=dogNew_bad A c o w hs h;go_enter Tryz.func141,Tryz.ntmps141
  go_wp2_with fail
  refine dn.mono ?_;rintro e w' ⟨rfl,hb⟩;go_wp2;go_ret;exact⟨rfl,hb⟩
end Go.Proofs.YtdpdbfhbojgigacGreatDoor
namespace Go.Proofs.YtdpdbfhbojgigacGreatDoor
open Go.ChangeShapes Go.WideShapes Go.ChangeAt Go.RowKit Go.Deep
theorem Tryz.cellsCfg:Tryz.prog.cellsOf 24=5:=by kernel_rfl
theorem Tryz.cellsEnts:Tryz.prog.cellsOf 22=1:=by kernel_rfl
theorem ents_of_trod {H:Type}{enc:TypeId × Value->H}{W:World}{fuel:Nat}{v:Value}{x:DataW H × List MemPlace}(h:DataW.trod enc Tryz.prog W 0 (fun _=>true) true fuel 22 [v]=some x):∃ sa sc,∃ es:List EntD,v=.slice sa es.length sc/\EntsAt W (.slice sa es.length sc) es:=by
 obtain⟨sa,cap,xs,hcs,hl,hx⟩:=sl_gen (⟨ByteArray.empty,0,[],0,0,0,[],[],[],[]⟩:EntD) (Q:=fun cs e=>∃ pv gv ev fv lv,cs=(entRow e pv gv ev fv lv).toList/\EntParts W e pv gv ev fv lv) Tryz.underlying22 Tryz.cellsEnt (by decide) ent_of_trod h;simp only[List.cons.injEq,and_true] at hcs
 refine⟨sa,cap,xs,hcs,sa,cap,rfl,fun hne=>?_⟩;obtain⟨b,o,h1,h2⟩:=hx hne
 refine⟨b,o,h1,fun i y hy=>?_⟩;obtain⟨cs',⟨pv,gv,ev,fv,lv,rfl,h3⟩,h4⟩:=h2 i y hy;exact⟨pv,gv,ev,fv,lv,h3,fun j u hu=>h4 j u (by rw[Array.getElem?_toList];exact hu)⟩
set_option maxRecDepth 100000 in
theorem cfg_of_trod {H:Type}{enc:TypeId × Value->H}{W:World}{n:Nat}{cs:List Value}{x:DataW H × List MemPlace}(h:DataW.trod enc Tryz.prog W 0 (fun _=>true) true n 24 cs=some x):∃ (c:CfgD) (sa:Option Addr) (sc:Nat),cs=[.int .i64 c.closed,.int .i64 c.opn,.int .i64 c.cycle,.int .i64 c.delay,.slice sa c.ents.length sc]/\EntsAt W (.slice sa c.ents.length sc) c.ents:=by
 obtain⟨xs,m,-,-,hl,hxs,hf⟩:=DataW.trod_struct Tryz.underlying24 h;rw[Tryz.cellsCfg] at hl
 match cs,hl with
 | [c0,c1,c2,c3,c4],_=>
  have g:∀ i,i < 5->∃ y,xs[i]?=some y:=fun i hi=>⟨xs[i]'(by rw[hxs];exact hi),List.getElem?_eq_getElem _⟩
  obtain⟨y0,k0⟩:=g 0 (by decide);obtain⟨y1,k1⟩:=g 1 (by decide);obtain⟨y2,k2⟩:=g 2 (by decide);obtain⟨y3,k3⟩:=g 3 (by decide);obtain⟨y4,k4⟩:=g 4 (by decide);have e0:DataW.trod enc Tryz.prog W 0 (fun _=>true) true m 3 [c0]=some y0:=by have e:=hf 0 _ rfl;rw[k0] at e;simpa[Tryz.cellsOne,Tryz.cellsEnts] using e
  have e1:DataW.trod enc Tryz.prog W 0 (fun _=>true) true m 3 [c1]=some y1:=by have e:=hf 1 _ rfl;rw[k1] at e;simpa[Tryz.cellsOne,Tryz.cellsEnts] using e
  have e2:DataW.trod enc Tryz.prog W 0 (fun _=>true) true m 3 [c2]=some y2:=by have e:=hf 2 _ rfl;rw[k2] at e;simpa[Tryz.cellsOne,Tryz.cellsEnts] using e
  have e3:DataW.trod enc Tryz.prog W 0 (fun _=>true) true m 3 [c3]=some y3:=by have e:=hf 3 _ rfl;rw[k3] at e;simpa[Tryz.cellsOne,Tryz.cellsEnts] using e
  have e4:DataW.trod enc Tryz.prog W 0 (fun _=>true) true m 22 [c4]=some y4:=by have e:=hf 4 _ rfl;rw[k4] at e;simpa[Tryz.cellsOne,Tryz.cellsEnts] using e
  obtain⟨n0,q0,-,-⟩:=DataW.trod_int Tryz.underlying3 e0;obtain⟨n1,q1,-,-⟩:=DataW.trod_int Tryz.underlying3 e1;obtain⟨n2,q2,-,-⟩:=DataW.trod_int Tryz.underlying3 e2;obtain⟨n3,q3,-,-⟩:=DataW.trod_int Tryz.underlying3 e3;obtain⟨sa,sc,es,rfl,h4⟩:=ents_of_trod e4;simp at q0 q1 q2 q3
  subst q0 q1 q2 q3;exact⟨⟨n0,n1,n2,n3,es⟩,sa,sc,rfl,h4⟩
end Go.Proofs.YtdpdbfhbojgigacGreatDoor
namespace Go.Proofs.YtdpdbfhbojgigacGreatDoor
open Go.RowKit Go.Extern.Stop Go.Stop Go.Extern
structure ASt where
 pt:Int
 mn:Int
 mx:Int
 n:Nat
def ASt.row (a:ASt):Array Value:=#[.int .i64 a.pt,.int .i64 a.mn,.int .i64 a.mx,.int .i64 (a.n:Int)]
def ptOf (cnt:Int)(len:Nat):Int:=if cnt < 0\/(len:Int)<=cnt then -1 else cnt
def ASt.rep (a:ASt)(p:Int):ASt:=if a.pt≠-1/\p=a.pt/\a.n < 1000 then { a with n:=a.n+1 } else a
def ASt.well (a:ASt)(whole:Bool):Bool:=(decide (a.mn<=(a.n:Int)) && decide ((a.n:Int)<=a.mx)) || !whole || decide (a.pt=-1)
def ASt.zero (a:ASt):ASt:={ a with n:=0 }
structure AlAt (w:World)(b:Nat)(a:ASt):Prop where
 heap:w.heap[b]?=some (.cells a.row 237 (0,0))
 hn:a.n<=1000
structure AlIn (w0 w:World)(b:Nat)(a:ASt):Prop where
 at':AlAt w b a
 bel:Below w0.heap.size w0 w
 lo:w0.heap.size<=b
theorem AlAt.cell {w:World}{b:Nat}{a:ASt}(h:AlAt w b a)(i:Nat):w.cell? ⟨b,i,none⟩=a.row[i]?:=by simp[World.cell?,h.heap]
theorem AlAt.frozen {w:World}{b:Nat}{a:ASt}(h:AlAt w b a)(i:Nat):w.frozen? ⟨b,i,none⟩=false:=by simp[World.frozen?,h.heap]
theorem AlAt.c0 {w:World}{b:Nat}{a:ASt}(h:AlAt w b a):w.cell? ⟨b,0,none⟩=some (.int .i64 a.pt):=h.cell 0
theorem AlAt.c1 {w:World}{b:Nat}{a:ASt}(h:AlAt w b a):w.cell? ⟨b,1,none⟩=some (.int .i64 a.mn):=h.cell 1
theorem AlAt.c2 {w:World}{b:Nat}{a:ASt}(h:AlAt w b a):w.cell? ⟨b,2,none⟩=some (.int .i64 a.mx):=h.cell 2
theorem AlAt.c3 {w:World}{b:Nat}{a:ASt}(h:AlAt w b a):w.cell? ⟨b,3,none⟩=some (.int .i64 (a.n:Int)):=h.cell 3
theorem AlAt.set {w:World}{b:Nat}{a:ASt}(h:AlAt w b a)(n:Nat)(hn:n<=1000):AlAt (w.setCell ⟨b,3,none⟩ (.int .i64 (n:Int))) b { a with n:=n }:=by
 refine⟨?_,hn⟩;simp only[World.setCell,Array.getElem?_modify,h.heap];simp[ASt.row]
theorem AlAt.drewN {w:World}{b:Nat}{a:ASt}(h:AlAt w b a)(q:Nat):AlAt (w.drewN q) b a:=⟨h.heap,h.hn⟩
set_option maxHeartbeats 1000000 in
theorem al_new (name:ByteArray)(tol cnt mn mx:Int)(pa:Option Addr)(pl pc:Nat)(gv ev fv lv:Value)(w:World) :
  Calls Tryz.prog 119 #[.agg #[.string name,.int .i64 tol,.slice pa pl pc,.int .i64 cnt,.int .i64 mn,.int .i64 mx,gv,ev,fv,lv]] w fun v w'=>∃ b,v=.returned (.pointer (some ⟨b,0,none⟩))/\AlIn w w' b ⟨ptOf cnt pl,mn,mx,0⟩:=by
 have fin:∀ (z:Int) (o:Obj),z=ptOf cnt pl->AlIn w ((w.alloc o).alloc (.cells #[.int .i64 z,.int .i64 mn,.int .i64 mx,.int .i64 0] 237)) (w.heap.size+1) ⟨ptOf cnt pl,mn,mx,0⟩:=by
  rintro z o rfl
  refine⟨⟨?_,Nat.zero_le _⟩,(Below.one _ _).alloc (by simp) _,by omega⟩;show ((w.alloc o).heap.push _)[w.heap.size+1]?=_
  rw[Array.getElem?_push,if_pos (by simp)];rfl
 have HFin:Hid _:=fin;clear fin
 by_cases h0:cnt < 0
 ·have HZ:Hid ((-1:Int)=ptOf cnt pl):=by show _=_;unfold ptOf;rw[if_pos (Or.inl h0)]
  go_enter Tryz.func119,Tryz.ntmps119
  go_wp2;go_ret;exact⟨_,rfl,HFin.out _ _ HZ.out⟩
 by_cases h1:(pl:Int)<=cnt
 ·have HZ:Hid ((-1:Int)=ptOf cnt pl):=by show _=_;unfold ptOf;rw[if_pos (Or.inr h1)]
  go_enter Tryz.func119,Tryz.ntmps119
  go_wp2;go_ret;exact⟨_,rfl,HFin.out _ _ HZ.out⟩
 ·have HZ:Hid (cnt=ptOf cnt pl):=by show _=_;unfold ptOf;rw[if_neg (by omega)]
  go_enter Tryz.func119,Tryz.ntmps119
  go_wp2;go_ret;exact⟨_,rfl,HFin.out _ _ HZ.out⟩
variable {w0 w:World}{b:Nat}{a:ASt}
end Go.Proofs.YtdpdbfhbojgigacGreatDoor
namespace Go.Proofs.YtdpdbfhbojgigacGreatDoor
open Go
def countIn (cnt:Int)(l:List MkD)(cyc:Int):Nat:=l.countP (fun m=>decide (m.cyc=cyc) && decide (m.pt=cnt))
theorem countIn_snoc (cnt:Int)(l:List MkD)(m:MkD)(cyc:Int):countIn cnt (l++[m]) cyc=countIn cnt l cyc+(if m.cyc=cyc/\m.pt=cnt then 1 else 0):=by
 unfold countIn;rw[List.countP_append];simp only[List.countP_cons,List.countP_nil,Nat.zero_add]
 by_cases h:m.cyc=cyc <;> by_cases h2:m.pt=cnt <;> simp[h,h2]
theorem countIn_next {cnt:Int}{l:List MkD}{cyc:Int}(h:∀ m∈l,m.cyc < cyc):countIn cnt l cyc=0:=by
 unfold countIn;rw[List.countP_eq_zero];intro m hm;have:=h m hm;simp only[Bool.and_eq_true,decide_eq_true_eq,not_and];intro e;omega
theorem countIn_le (cnt:Int)(l:List MkD)(cyc:Int):countIn cnt l cyc<=l.length:=List.countP_le_length
def kindL (e:EntD)(l:List MkD)(cyc:Int):Int:=
 if 0<=e.cnt/\0 < cyc/\((countIn e.cnt l cyc:Int) < e.mn\/e.mx < (countIn e.cnt l cyc:Int)) then 1
 else if e.gaps.any (fun g=>gapBad g l cyc)=true then 2
 else if flowBad e l cyc=true then 3 else 0
def simA (e:EntD)(l:List MkD)(cyc:Int):ASt:=⟨ptOf e.cnt e.pts.length,e.mn,e.mx,if ptOf e.cnt e.pts.length=-1 then 0 else countIn e.cnt l cyc⟩
theorem simA_new (e:EntD):simA e [] 0=⟨ptOf e.cnt e.pts.length,e.mn,e.mx,0⟩:=by
 unfold simA countIn;simp
theorem ptOf_is {cnt:Int}{n:Nat}(h:ptOf cnt n≠-1):ptOf cnt n=cnt:=by
 unfold ptOf at h ⊢
 split
 ·rename_i h2;rw[if_pos h2] at h;exact absurd rfl h
 ·rfl
theorem simA_rep (e:EntD)(l:List MkD)(cyc p t:Int)(hl:l.length < 1000):(simA e l cyc).rep p=simA e (l++[⟨p,t,cyc⟩]) cyc:=by
 unfold ASt.rep
 by_cases h:ptOf e.cnt e.pts.length=-1
 ·rw[if_neg (by simp[simA,h])];simp[simA,h]
 ·have hp:=ptOf_is h;have hc:=countIn_le e.cnt l cyc
  by_cases hpp:p=e.cnt
  ·have e1:(simA e l cyc).pt≠-1/\p=(simA e l cyc).pt/\(simA e l cyc).n < 1000:=by
    refine⟨h,?_,?_⟩
    ·simp[simA,hp,hpp]
    ·simp only[simA,if_neg h];omega
   rw[if_pos e1];simp only[simA,if_neg h,countIn_snoc,hpp,and_self,if_true]
  ·rw[if_neg (by simp only[simA];rw[hp];exact fun x=>hpp x.2.1)];simp only[simA,if_neg h,countIn_snoc];rw[if_neg (fun x=>hpp x.2)];rfl
theorem simA_end {e:EntD}{l:List MkD}{cyc:Int}(h:∀ m∈l,m.cyc<=cyc):(simA e l cyc).zero=simA e l (cyc+1):=by
 unfold ASt.zero simA;rw[countIn_next (cyc:=cyc+1) (fun m hm=>by have:=h m hm;omega)];simp
def kindW (a:ASt)(g:GSt)(f:FSt)(whole:Bool):Int:=if a.well whole=false then 1 else if g.bad=true then 2 else if f.bad=true then 3 else 0
theorem kind_sim {e:EntD}{l:List MkD}{cyc:Int}(hc:e.cnt < (e.pts.length:Int)):kindW (simA e l cyc) (simG e.gaps l cyc) (simF e l cyc) (decide (0 < cyc))=kindL e l cyc:=by
 unfold kindW kindL;have e1:((simA e l cyc).well (decide (0 < cyc))=false) ↔ (0<=e.cnt/\0 < cyc/\((countIn e.cnt l cyc:Int) < e.mn\/e.mx < (countIn e.cnt l cyc:Int))):=by
  unfold ASt.well
  by_cases h:0<=e.cnt
  ·have hp:ptOf e.cnt e.pts.length=e.cnt:=by unfold ptOf;rw[if_neg (by omega)]
   have hn:¬e.cnt=-1:=by omega
   simp only[simA,hp,if_neg hn];generalize ((countIn e.cnt l cyc:Nat):Int)=n
   by_cases a1:e.mn<=n <;> by_cases a2:n<=e.mx <;> by_cases a3:0 < cyc <;> simp[a1,a2,a3,hn,h] <;> omega
  ·have hp:ptOf e.cnt e.pts.length=-1:=by unfold ptOf;rw[if_pos (by omega)]
   simp[simA,hp]
   omega
 by_cases h1:(0<=e.cnt/\0 < cyc/\((countIn e.cnt l cyc:Int) < e.mn\/e.mx < (countIn e.cnt l cyc:Int)))
 ·rw[if_pos h1,if_pos (e1.2 h1)]
 ·rw[if_neg h1,if_neg (fun x=>h1 (e1.1 x))];rfl
structure LSt where
 act:Bool
 since:Int
 ms:List MkD
 run:Int
 ex:Bool
def LSt.new:LSt:=⟨false,0,[],0,false⟩
def LSt.begin (s:LSt):LSt:=if s.act then s else ⟨true,0,[],0,false⟩
def LSt.stop (s:LSt):LSt:={ s with act:=false }
def LSt.rep (e:EntD)(s:LSt)(p t:Int):LSt:=if s.act/\hasP e p=true then { s with ms:=s.ms++[⟨p,t,s.since⟩] } else s
def LSt.run1 (e:EntD)(s:LSt):Int:=if kindL e s.ms s.since=0 then 0 else s.run+1
def LSt.turns (e:EntD)(s:LSt):Bool:=s.act && (!s.ex && decide (e.tol < s.run1 e))
def LSt.fin (e:EntD)(s:LSt):LSt:=if s.act then ⟨true,s.since+1,s.ms,s.run1 e,s.ex || decide (e.tol < s.run1 e)⟩ else s
def LSt.kind (e:EntD)(s:LSt):Int:=if s.act then kindL e s.ms s.since else 0
def LSt.status (s:LSt):Nat:=if s.act then (if s.ex then 3 else if 0 < s.run then 2 else 1) else 0
structure LFit (s:LSt)(k:Nat):Prop where
 len:s.ms.length<=k
 each:∀ m∈s.ms,m.cyc<=s.since
 s0:0<=s.since
 s1:s.since<=(k:Int)
 r0:0<=s.run
 r1:s.run<=s.since
theorem LFit.new:LFit LSt.new 0:=⟨Nat.le_refl _,fun m hm=>(by cases hm),Int.le_refl _,Int.le_refl _,Int.le_refl _,Int.le_refl _⟩
theorem LFit.mono {s:LSt}{k n:Nat}(h:LFit s k)(hn:k<=n):LFit s n:=⟨Nat.le_trans h.len hn,h.each,h.s0,by have:=h.s1;omega,h.r0,h.r1⟩
theorem LFit.begin {s:LSt}{k:Nat}(h:LFit s k):LFit s.begin (k+1):=by
 unfold LSt.begin
 split
 ·exact h.mono (by omega)
 ·exact⟨Nat.zero_le _,fun m hm=>(by cases hm),Int.le_refl _,by simp;omega,Int.le_refl _,Int.le_refl _⟩
theorem LFit.stop {s:LSt}{k:Nat}(h:LFit s k):LFit s.stop (k+1):=⟨Nat.le_trans h.len (by omega),h.each,h.s0,by have:=h.s1;show s.since<=_;push_cast;omega,h.r0,h.r1⟩
theorem LFit.rep {e:EntD}{s:LSt}{k:Nat}(h:LFit s k)(p t:Int):LFit (s.rep e p t) (k+1):=by
 unfold LSt.rep
 split
 ·refine⟨by have:=h.len;simp;omega,fun m hm=>?_,h.s0,by have:=h.s1;show s.since<=_;push_cast;omega,h.r0,h.r1⟩;rw[List.mem_append] at hm
  rcases hm with hm | hm
  ·exact h.each m hm
  ·rw[List.mem_singleton] at hm;subst hm;exact Int.le_refl _
 ·exact h.mono (by omega)
theorem LFit.fin {e:EntD}{s:LSt}{k:Nat}(h:LFit s k):LFit (s.fin e) (k+1):=by
 unfold LSt.fin
 split
 ·have h1:=h.r0;have h2:=h.r1;have h3:=h.s0;have hr:0<=s.run1 e/\s.run1 e<=s.since+1:=by unfold LSt.run1;split <;> omega
  refine⟨Nat.le_trans h.len (by omega),fun m hm=>by have:=h.each m hm;show m.cyc<=s.since+1;omega,by show 0<=s.since+1;omega,by have:=h.s1;show s.since+1<=_;push_cast;omega,hr.1,hr.2⟩
 ·exact h.mono (by omega)
structure WSt where
 a:ASt
 g:GSt
 f:FSt
def WSt.new (e:EntD):WSt:=⟨⟨ptOf e.cnt e.pts.length,e.mn,e.mx,0⟩,GSt.new e.gaps,⟨-1,false⟩⟩
def WSt.rep (e:EntD)(s:WSt)(p t:Int):WSt:=⟨s.a.rep p,s.g.rep p t,s.f.rep e p⟩
def WSt.zero (s:WSt):WSt:=⟨s.a.zero,s.g.zero,s.f.zero⟩
def WSt.kind (s:WSt)(whole:Bool):Int:=kindW s.a s.g s.f whole
structure NSt where
 w:WSt
 whole:Bool
 run:Nat
 ex:Bool
def NSt.new (e:EntD):NSt:=⟨WSt.new e,false,0,false⟩
def NSt.kind (s:NSt):Int:=s.w.kind s.whole
def NSt.rep (e:EntD)(s:NSt)(p t:Int):NSt:=if hasP e p=true then { s with w:=s.w.rep e p t } else s
def NSt.run1 (s:NSt):Nat:=if s.kind=0 then 0 else s.run+1
def NSt.turns (e:EntD)(s:NSt):Bool:=decide (s.kind≠0) && (!s.ex && decide (e.tol < (s.run+1:Int)))
def NSt.fin (e:EntD)(s:NSt):NSt:=⟨s.w.zero,true,s.run1,s.ex || s.turns e⟩
def NSt.status (s:NSt):Nat:=if s.ex then 3 else if s.run=0 then 1 else 2
theorem rep_len (s:GSt)(p t:Int):(s.rep p t).xs.length=s.xs.length:=by unfold GSt.rep;split <;> simp
structure NSim (e:EntD)(n:NSt)(s:LSt):Prop where
 act:s.act=true
 a:n.w.a=simA e s.ms s.since
 g:n.w.g=simG e.gaps s.ms s.since
 f:n.w.f=simF e s.ms s.since
 whole:n.whole=decide (0 < s.since)
 run:s.run=(n.run:Int)
 ex:n.ex=s.ex
theorem NSim.new (e:EntD)(s:LSt)(h:s.act=false):NSim e (NSt.new e) s.begin:=by
 have hb:s.begin=⟨true,0,[],0,false⟩:=by unfold LSt.begin;rw[h];rfl
 rw[hb];exact⟨rfl,(simA_new e).symm,sim_new e.gaps,(simF_new e).symm,by simp[NSt.new],rfl,rfl⟩
theorem NSim.rep {e:EntD}{n:NSt}{s:LSt}(h:NSim e n s)(p t:Int)(hl:s.ms.length < 1000)(ht:tickOk t=true):NSim e (n.rep e p t) (s.rep e p t):=by
 unfold NSt.rep LSt.rep
 by_cases hp:hasP e p=true
 ·rw[if_pos hp,if_pos ⟨h.act,hp⟩]
  refine⟨h.act,?_,?_,?_,h.whole,h.run,h.ex⟩
  ·show n.w.a.rep p=_
   rw[h.a];exact simA_rep e s.ms s.since p t hl
  ·show n.w.g.rep p t=_
   rw[h.g];exact sim_rep e.gaps s.ms s.since p t ht
  ·show n.w.f.rep e p=_
   rw[h.f];exact simF_rep e s.ms s.since p t
 ·rw[if_neg hp,if_neg (fun x=>hp x.2)];exact h
theorem NSim.kind {e:EntD}{n:NSt}{s:LSt}(h:NSim e n s)(hc:e.cnt < (e.pts.length:Int)):n.kind=s.kind e:=by
 unfold NSt.kind WSt.kind LSt.kind;rw[h.a,h.g,h.f,h.whole,kind_sim hc,if_pos h.act]
theorem NSim.turns {e:EntD}{n:NSt}{s:LSt}(h:NSim e n s)(hc:e.cnt < (e.pts.length:Int))(ht:0<=e.tol):n.turns e=s.turns e:=by
 have hk:=h.kind hc;unfold LSt.kind at hk;rw[if_pos h.act] at hk;unfold NSt.turns LSt.turns LSt.run1;rw[hk,h.act,h.ex,h.run]
 by_cases h0:kindL e s.ms s.since=0
 ·simp[h0];omega
 ·simp[h0]
theorem NSim.fin {e:EntD}{n:NSt}{s:LSt}(h:NSim e n s)(hc:e.cnt < (e.pts.length:Int))(ht:0<=e.tol)(hm:∀ m∈s.ms,m.cyc<=s.since)(h0:0<=s.since):NSim e (n.fin e) (s.fin e):=by
 have hk:=h.kind hc;have htu:=h.turns hc ht;unfold LSt.kind at hk;rw[if_pos h.act] at hk;unfold NSt.fin LSt.fin;rw[if_pos h.act]
 refine⟨rfl,?_,?_,?_,?_,?_,?_⟩
 ·show n.w.a.zero=_
  rw[h.a];exact simA_end hm
 ·show n.w.g.zero=_
  rw[h.g];exact sim_end hm
 ·show n.w.f.zero=_
  rw[h.f];exact simF_end hm
 ·show true=decide (0 < s.since+1)
  rw[decide_eq_true (by omega)]
 ·show s.run1 e=((n.run1:Nat):Int)
  unfold LSt.run1 NSt.run1;rw[hk,h.run]
  split <;> simp
 ·show (n.ex || n.turns e)=(s.ex || decide (e.tol < s.run1 e))
  rw[htu,h.ex];unfold LSt.turns;rw[h.act]
  cases s.ex <;> simp
theorem NSim.status {e:EntD}{n:NSt}{s:LSt}(h:NSim e n s):n.status=s.status:=by
 unfold NSt.status LSt.status;rw[h.act,h.ex,h.run]
 cases s.ex
 ·by_cases hr:n.run=0
  ·simp[hr]
  ·simp[hr,Nat.pos_of_ne_zero hr]
 ·rfl
end Go.Proofs.YtdpdbfhbojgigacGreatDoor
namespace Go.Proofs.YtdpdbfhbojgigacGreatDoor
open Go.RowKit Go.Extern.Stop Go.Stop Go.Extern Go.Maps
theorem Tryz.rowTwo:(146:TypeId) < Tryz.prog.types.size:=of_decide_eq_true (by kernel_rfl)
theorem Tryz.wideTwo:(match Tryz.prog.underlying 146 with | some (.array _ _) | some (.struct _)=>true | _=>false)=true:=by rw[Tryz.underlying146]
set_option maxRecDepth 100000 in
theorem Tryz.lawTwo:Maps.Keyed Tryz.prog 146:=Maps.Keyed.of_law (deep_law_laid Tryz.laidOut (m:=2) (by omega) Tryz.rowTwo (by kernel_rfl) Tryz.wideTwo)
theorem Tryz.keyTwo:Tryz.prog.keyType 146=true:=by kernel_rfl
theorem Tryz.ntypes:Tryz.prog.types.size=329:=by kernel_rfl
def wf64 (n:Int):Prop:=(Lit.int .i64 n).wf=true
theorem wf64_of {n:Int}(h0:-1<=n)(h1:n<=1000000):wf64 n:=by
 show (decide (IntKind.min .i64<=n) && decide (n<=IntKind.max .i64))=true
 have e1:IntKind.min .i64=-9223372036854775808:=by decide
 have e2:IntKind.max .i64=9223372036854775807:=by decide
 rw[e1,e2,decide_eq_true (by omega),decide_eq_true (by omega)];rfl
def WfE (l:List (Int × Int)):Prop:=∀ p∈l,wf64 p.1/\wf64 p.2
def ekey (p:Int × Int):Lit:=.string (keyBytes [.int .i64 p.1,.int .i64 p.2])
set_option maxRecDepth 100000 in
theorem keyOf_two {a b:Int}(ha:wf64 a)(hb:wf64 b):keyOf Tryz.prog 146 (.agg #[.int .i64 a,.int .i64 b])=some (ekey (a,b)):=by
 unfold wf64 at ha hb;have hf:(Value.agg #[.int .i64 a,.int .i64 b]).formed Tryz.prog 146=true:=by simp[Value.formed,Tryz.underlying146,Tryz.cellsTwo]
 have hl:Tryz.prog.keyLits (329+1) 146 [.int .i64 a,.int .i64 b]=some [.int .i64 a,.int .i64 b]:=by
  have h1:∀ (n:Nat) (c:Int),(Lit.int .i64 c).wf=true->Tryz.prog.keyLits (n+1) 3 [.int .i64 c]=some [.int .i64 c]:=fun n c hc=>by simp[Program.keyLits,Tryz.underlying3,hc]
  unfold Program.keyLits;simp only[Tryz.underlying146,Tryz.cellsTwo,Tryz.cellsOne];have e0:=h1 (329 - 1) a ha;have e1:=h1 (329 - 1) b hb;simp[List.range,List.range.loop,e0,e1]
 unfold keyOf;rw[Tryz.underlying146];simp only[Tryz.keyTwo,hf,Bool.and_self,if_true,Tryz.ntypes];rw[show (Value.agg #[.int .i64 a,.int .i64 b]).cells.toList=[.int .i64 a,.int .i64 b] from rfl,hl];rfl
theorem ekey_inj {p q:Int × Int}(hp:wf64 p.1/\wf64 p.2)(hq:wf64 q.1/\wf64 q.2)(h:ekey p=ekey q):p=q:=by
 have h1:=keyOf_two hp.1 hp.2;have h2:=keyOf_two hq.1 hq.2;have e:=Tryz.lawTwo.inj h1 (h2.trans (by rw[show ekey (p.1,p.2)=ekey (q.1,q.2) from h]));simp at e
 exact Prod.ext e.1 e.2
def EdgeMap (D:DataW Unit)(l:List (Int × Int)):Prop:=
 IsMap D/\(l=[]->Maps.size D=0)/\∀ p:Int × Int,wf64 p.1->wf64 p.2->Maps.has D (ekey p)=decide (p∈l)
theorem edgeMap_nil:EdgeMap (.map []) []:=⟨isMap_empty,fun _=>rfl,fun _ _ _=>by simp[Maps.has]⟩
theorem edgeMap_put {D:DataW Unit}{l:List (Int × Int)}(h:EdgeMap D l)(p:Int × Int)(hp:wf64 p.1/\wf64 p.2):EdgeMap (D.put (ekey p) (.agg [])) (l++[p]):=by
 refine⟨h.1.put _ _,fun e=>by simp at e,fun q h1 h2=>?_⟩
 by_cases e:q=p
 ·subst e;rw[Maps.has_put_same h.1 (by trivial)];simp
 ·have hne:ekey q≠ekey p:=fun h'=>e (ekey_inj ⟨h1,h2⟩ hp h')
  rw[Maps.has_put_other hne,h.2.2 q h1 h2];simp[e]
theorem edgeMap_size {D:DataW Unit}{l:List (Int × Int)}(h:EdgeMap D l)(hw:WfE l):(Maps.size D=0 ↔ l=[]):=by
 refine⟨fun hs=>?_,h.2.1⟩
 cases l with
 | nil=>rfl
 | cons p t=>
  have h1:=h.2.2 p (hw p (by simp)).1 (hw p (by simp)).2;obtain⟨es,rfl⟩:=h.1;have h0:es=[]:=List.eq_nil_of_length_eq_zero hs;subst h0;simp[Maps.has] at h1
end Go.Proofs.YtdpdbfhbojgigacGreatDoor
