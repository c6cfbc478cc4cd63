/-
  Several texts as one: Is, Code, KlAct, CfMem, KlArg, CellsMore, CellsZe, CellsFrom, KeNew, KlBase, KeTicks, Sim.
-/
import Derived.Test.YtdpdbfhbojgigacGreatDoorC30S
import Derived.Test.YtdpdbfhbojgigacGreatDoorC32S
import Derived.Test.YtdpdbfhbojgigacGreatDoorProg
import Derived.WalkKit
import Derived.LaidEql
import Derived.Stop.Asserts
import Derived.RowKitTokens
import Derived.Outline
import Derived.LaidLaws
import Derived.LaidHandle
import Derived.LaidMore
import Derived.BigQuiet
import Derived.Deep.QuietTactic
import Derived.Deep.DeepCutAuto
import Derived.WalkSmall
import Derived.Lib.LaidTab
import Derived.ProofKit
import Derived.OpenShut
import Derived.Deep.Slices
import Derived.Carry
import Derived.DeepKeys4
import Derived.Maps.OwnSet
import Derived.Maps.Own
import Derived.Deep.Upon
import Derived.Lib.Builder
import Derived.Laws.Tables
import Derived.Laws.Rows
import Derived.Maps.RangeWalk
import Derived.Maps.AppendAt
import Derived.Orders
import Derived.Lib.LazyBuf
import Derived.Laws.MakeOwn
import Derived.Deep.AppendLies
import Derived.Deep.RegionLaw
import Derived.Laws.IdiomStrings
import Derived.Laws.BitsAllLaws
import Derived.Laws.ShiftsVarLaws
import Derived.Lib.BufferWrite
import Derived.Deep.RegionHeld3
import Derived.Laws.ResultCell
import Derived.Laws.CopyOwn
import Derived.Laws.Strings2
import Derived.BigRegion
import Derived.RegionTactic
import Derived.Lib.SliceRun
import Derived.Laws.StructEq
import Derived.Lib.ConvBytes
import Derived.Laws.EntriesVeiled
import Derived.Shelf.Abstract
import Derived.StringKeys
import Derived.OwnWalk
import Derived.Deep.MidRow
import Derived.Lib.Strings
import Derived.Laws.Concat
namespace Go.Proofs.YtdpdbfhbojgigacGreatDoor
open Go.RowKit Go.Extern.Stop Go.Stop Go.Extern
theorem Tryz.noIsF (v:Value)(xT:TypeId)(w:World):(Instr.typeAssert (.iface 164 v) xT 261 true).run Tryz.prog w=.ok (.tuple #[.nilIface,.bool false]) w:=run_typeAssert_lacksB Tryz.underlying261 (by kernel_rfl) (by kernel_rfl) v xT w
theorem Tryz.hasUnwrapF (v:Value)(xT:TypeId)(w:World):(Instr.typeAssert (.iface 164 v) xT 258 true).run Tryz.prog w=.ok (.tuple #[.iface 164 v,.bool true]) w:=run_typeAssert_hasB Tryz.underlying258 (by kernel_rfl) v xT w
theorem Tryz.methodUnwrap (v : Value) (w : World) : (Go.method 429 164 v "Unwrap").run Tryz.prog w = .ok (264, v) w := by kernel_rfl
theorem is_fault_same (pb po:Nat)(b:Addr)(w:World)(h1:w.cell? ⟨pb,po+1,none⟩=some (.iface 298 (.pointer (some b)))) :
  Calls Tryz.prog 99 #[.iface 164 (.pointer (some ⟨pb,po,none⟩)),.iface 298 (.pointer (some b))] w fun e w'=>e=.returned (.bool true)/\w'=w:=by
 obtain⟨i,hi,hcmp⟩:=Option.map_eq_some_iff.1 Tryz.isComp;obtain⟨j,hj,hjs⟩:=Option.map_eq_some_iff.1 Tryz.isSize;have h8:=@run_callFunc_extern Tryz.prog 135 _ Extern.ReflectliteType.typeOf Tryz.func135 (by kernel_rfl) (by kernel_rfl) (by kernel_rfl) (by kernel_rfl);have h32:=@run_callFunc_extern Tryz.prog 270 _ cmpEntry Tryz.func270 (by kernel_rfl) (by kernel_rfl) (by kernel_rfl) (by kernel_rfl);have tT:=Tryz.isTypeOf;have cT:=Tryz.isComparable;have mR:=Tryz.isMethodComparable;have nW:=Tryz.noIsF;have uW:=Tryz.hasUnwrapF;have mU:=Tryz.methodUnwrap;have heq:=run_eql_iface_ptr_same (P:=Tryz.prog) w b Tryz.underlying46 Tryz.underlying298 hi hcmp hj;have hty:=run_eql_iface_types (P:=Tryz.prog) 164 298 (.pointer (some ⟨pb,po,none⟩)) (.pointer (some b)) Tryz.underlying46 (by decide) w;go_enter Tryz.func99,Tryz.ntmps99
 go_wp2
 refine wp_loop_rounds 2 ?_;rw[rounds_succ];go_wp2;rw[rounds_succ];go_wp2;go_ret;exact⟨rfl,rfl⟩
theorem is_fault_other (pb po:Nat)(b a:Addr)(ca cb:Array Value)(ta tb:TypeId)(w:World)(h1:w.cell? ⟨pb,po+1,none⟩=some (.iface 298 (.pointer (some a))))(hne:a≠b)(ha:w.heap[a.block]?=some (.cells ca ta (0,0)))(hb:w.heap[b.block]?=some (.cells cb tb (0,0))) :
  Calls Tryz.prog 99 #[.iface 164 (.pointer (some ⟨pb,po,none⟩)),.iface 298 (.pointer (some b))] w fun e w'=>e=.returned (.bool false)/\w'=w:=by
 obtain⟨i,hi,hcmp⟩:=Option.map_eq_some_iff.1 Tryz.isComp;obtain⟨j,hj,hjs⟩:=Option.map_eq_some_iff.1 Tryz.isSize;have h8:=@run_callFunc_extern Tryz.prog 135 _ Extern.ReflectliteType.typeOf Tryz.func135 (by kernel_rfl) (by kernel_rfl) (by kernel_rfl) (by kernel_rfl);have h32:=@run_callFunc_extern Tryz.prog 270 _ cmpEntry Tryz.func270 (by kernel_rfl) (by kernel_rfl) (by kernel_rfl) (by kernel_rfl);have tT:=Tryz.isTypeOf;have cT:=Tryz.isComparable;have mR:=Tryz.isMethodComparable;have nE:=Tryz.noIsE;have uE:=Tryz.noUnwrapE;have vE:=Tryz.noUnwrapsE;have nW:=Tryz.noIsF;have uW:=Tryz.hasUnwrapF;have mU:=Tryz.methodUnwrap;have heq:=run_eql_iface_ptr_other (P:=Tryz.prog) w Tryz.underlying46 Tryz.underlying298 hi hcmp hj (by rw[hjs];decide) hne ha hb;have hty:=run_eql_iface_types (P:=Tryz.prog) 164 298 (.pointer (some ⟨pb,po,none⟩)) (.pointer (some b)) Tryz.underlying46 (by decide) w;go_enter Tryz.func99,Tryz.ntmps99
 go_wp2
 refine wp_loop_rounds 2 ?_;rw[rounds_succ];go_wp2;rw[rounds_succ];go_wp2;go_ret;exact⟨rfl,rfl⟩
set_option maxHeartbeats 1000000 in
theorem code_faults (A:Nat->Addr)(pb po:Nat)(n:Int)(j:Nat)(w:World)(hs:Senv A w)(hj:j < 11)(hn:w.cell? ⟨pb,po,none⟩=some (.int .i64 n))(he:w.cell? ⟨pb,po+1,none⟩=some (.iface 298 (.pointer (some (A j))))) :
  Calls Tryz.prog 65 #[.iface 164 (.pointer (some ⟨pb,po,none⟩))] w fun e w'=>e=.returned (.tuple #[.int .i64 ((j:Int)+1),.int .i64 n])/\Below w.heap.size w w':=by
 have hs1:=hs.alloc (.cells #[.pointer none] 164);go_enter Tryz.func65,Tryz.ntmps65
 have hpl:=block_lt hn;have ht1:(w.alloc (.cells #[.pointer none] 164)).cell? ⟨w.heap.size,0,none⟩=some (.pointer none):=by simp
 have hf1:(w.alloc (.cells #[.pointer none] 164)).frozen? ⟨w.heap.size,0,none⟩=false:=by simp
 go_wp2_with fail
 refine(as_hit _ _ _ _ hs1.et ht1 hf1).mono ?_;rintro e w2 ⟨rfl,hw2⟩;have hb1:Below w.heap.size w w2:=by
  rw[hw2]
  refine Below.setCell ?_ (by simp) _
  refine Below.alloc (Below.alloc (Below.alloc (Below.alloc (Below.alloc (Below.refl _ _) (Nat.le_refl _) _) (by simp) _) (by simp;omega) _) (by simp;omega) _) (by simp;omega) _
 have hcf:w2.cell? ⟨w.heap.size,0,none⟩=some (.pointer (some ⟨pb,po,none⟩)):=by
  rw[hw2]
  refine World.cell?_setCell_same _ _ _ (u:=.pointer none) ?_;rw[World.cell?_alloc_lt _ _ ⟨w.heap.size,0,none⟩ (by simp;omega),World.cell?_alloc_lt _ _ ⟨w.heap.size,0,none⟩ (by simp;omega),World.cell?_alloc_lt _ _ ⟨w.heap.size,0,none⟩ (by simp;omega),World.cell?_alloc_lt _ _ ⟨w.heap.size,0,none⟩ (by simp)];exact ht1
 obtain⟨c0,c1,c2,c3,c4,c5,c6,c7,c8,c9,c10,-,hrow,hnes⟩:=hs.below hb1;have hn2:=cell_below hb1 hn;have he2:=cell_below hb1 he;clear hs hs1 hn he ht1 hf1 hw2;have hcell:=errCells_at A w2;have hrow3:∀ i,i < 11->∃ c t,(w2.alloc (.cells (errCells A) 46)).heap[(A i).block]?=some (.cells c t (0,0)):=fun i hi=>by
  obtain⟨c,t,e⟩:=hrow i hi;exact⟨c,t,row_below ((Below.refl w2.heap.size w2).alloc (Nat.le_refl _) _) e⟩
 have he3:=cell_below ((Below.refl w2.heap.size w2).alloc (Nat.le_refl _) (.cells (errCells A) 46)) he2;have hb3:Below w.heap.size w (w2.alloc (.cells (errCells A) 46)):=hb1.alloc hb1.size _;unfold errCells at hcell hrow3 he3 hb3;go_wp2_with fail
 clear c0 c1 c2 c3 c4 c5 c6 c7 c8 c9 c10 hrow hn2 he2 hcf hb1;go_loop [3,29] (fun at3 i=>at3=.int .i64 n/\∃ k:Nat,k<=j/\i=.int .i64 k) (fun _ i=>11 - (intOf i).toNat)
 case atStart=>exact⟨rfl,0,Nat.zero_le _,rfl⟩
 case round=>
  obtain⟨rfl,k,hk,rfl⟩:=hrel
  by_cases hkj:k < j
  ·have h11:k < 11:=by omega
   have hne:=hnes j k hj h11 (by omega);obtain⟨ca,ta,ha3⟩:=hrow3 j hj;obtain⟨cb,tb,hrk⟩:=hrow3 k h11;have hck:=hcell k h11;clear hnes hrow3 hcell;go_wp2_with fail
   refine(is_fault_other _ _ _ _ ca cb ta tb _ he3 hne ha3 hrk).mono ?_;rintro e w' ⟨rfl,rfl⟩;go_wp2;go_round
   case rel=>exact⟨rfl,k+1,by omega,by go_num⟩
   case measure=>simp[intOf];omega
  ·have hkj2:k=j:=by omega
   have HJ:Hid (k=j):=hkj2;have h11:k < 11:=by omega
   have hck:=hcell k h11;rw[<- hkj2] at he3;clear hnes hrow3 hcell hkj2;go_wp2_with fail
   refine(is_fault_same _ _ _ _ he3).mono ?_;rintro e w' ⟨rfl,rfl⟩;go_wp2;go_ret2
   exact⟨ret2 (by have hj':=HJ.out;omega) rfl,hb3⟩
structure ActK where
 kind:ByteArray
 e:Int
 p:Int
 n:Int
def encK (a:ActK):List Value:=[.string a.kind,.int .i64 a.e,.int .i64 a.p,.int .i64 a.n]
def ActK.tick (a:ActK):Bool:=a.kind.toList == [116,105,99,107]
def ticksOf:List ActK->Nat
 | []=>0
 | a :: t=>(if a.tick=true then a.n.toNat else 0)+ticksOf t
theorem ticksOf_append (l t:List ActK):ticksOf (l++t)=ticksOf l+ticksOf t:=by
 induction l with
 | nil=>simp[ticksOf]
 | cons a l ih=>show _+ticksOf (l++t)=_;rw[ih];show _=_+ticksOf l+ticksOf t;omega
theorem ticksOf_take {l:List ActK}{i:Nat}{a:ActK}(h:l[i]?=some a):ticksOf (l.take (i+1))=ticksOf (l.take i)+(if a.tick=true then a.n.toNat else 0):=by
 rw[List.take_add_one,h,ticksOf_append];show _+(_+0)=_
 omega
theorem act_cells {w:World}{sa:Option Addr}{cap i:Nat}{acts:List ActK}{a:ActK}(h:SlAt encK 4 w (.slice sa acts.length cap) acts)(ha:acts[i]?=some a):∃ b o,sa=some ⟨b,o,none⟩/\w.cell? ⟨b,o+i*4,none⟩=some (.string a.kind)/\w.cell? ⟨b,o+i*4+1,none⟩=some (.int .i64 a.e)/\w.cell? ⟨b,o+i*4+2,none⟩=some (.int .i64 a.p)/\w.cell? ⟨b,o+i*4+3,none⟩=some (.int .i64 a.n):=by
 obtain⟨sa',cap',h1,-,h2⟩:=h
 cases h1
 obtain⟨b,o,rfl,h3⟩:=h2 (fun x=>by rw[x] at ha;simp at ha);exact⟨b,o,rfl,h3 i a ha 0 _ rfl,h3 i a ha 1 _ rfl,h3 i a ha 2 _ rfl,h3 i a ha 3 _ rfl⟩
structure Fits1 (acts:List ActK)(most:Int):Prop where
 len:(acts.length:Int)<=most
 each:∀ a∈acts,a.n<=10000
 sum:ticksOf acts<=1500
def FitOut (acts:List ActK)(most:Int)(w:World)(e:Ending)(w':World):Prop:=∃ b,e=.returned (.bool b)/\w'=w/\(b=true->Fits1 acts most)
set_option maxRecDepth 100000 in
set_option maxHeartbeats 2000000 in
theorem fit_at (acts:List ActK)(sa:Option Addr)(cap:Nat)(most:Int)(w:World)(h:SlAt encK 4 w (.slice sa acts.length cap) acts)(hn:acts.length<=9223372036854775807) :
  Calls Tryz.prog 13 #[.slice sa acts.length cap,.int .i64 most] w fun e w'=>FitOut acts most w e w':=by
 have HL:Hid (SlAt encK 4 w (.slice sa acts.length cap) acts):=h;have HN:Hid (acts.length<=9223372036854775807):=hn;clear h hn;go_enter Tryz.func13,Tryz.ntmps13
 go_wp2_with fail
 go_loopw [5,6] (fun t i wr=>wr=w/\∃ k:Nat,k<=acts.length/\i=.int .i64 k/\t=.int .i64 (ticksOf (acts.take k):Int)/\ticksOf (acts.take k)<=1500/\∀ a∈acts.take k,a.n<=10000) (fun _ i _=>acts.length - (intOf i).toNat)
 case atStart=>exact⟨rfl,0,Nat.zero_le _,rfl,rfl,Nat.zero_le _,fun a ha=>by simp at ha⟩
 case round=>
  obtain⟨rfl,k,hk,rfl,rfl,ht,hall⟩:=hrel;have HA:Hid (∀ a∈acts.take k,a.n<=10000):=hall;clear hall
  by_cases hlt:k < acts.length
  ·have k1:(k:Int) < (acts.length:Int):=by omega
   have hn:=HN.out;obtain⟨a,ha⟩:∃ a,acts[k]?=some a:=⟨_,List.getElem?_eq_getElem hlt⟩;obtain⟨b,o,rfl,c0,c1,c2,c3⟩:=act_cells HL.out ha;have HS:Hid (ticksOf (acts.take (k+1))=ticksOf (acts.take k)+(if a.tick=true then a.n.toNat else 0)):=ticksOf_take ha;have HA2:Hid (a.n<=10000->∀ x∈acts.take (k+1),x.n<=10000):=fun hle x hx=>by
    rw[List.take_add_one,ha] at hx
    rcases List.mem_append.1 hx with hx | hx
    ·exact HA.out x hx
    ·simp at hx;subst hx;exact hle
   have hkw:IntKind.i64.wrap ((k:Int)+1)=(k:Int)+1:=by rw[IntKind.wrap_i64];omega
   obtain⟨T,hT⟩:∃ T,T=ticksOf (acts.take k):=⟨_,rfl⟩;rw[<- hT] at ht ⊢;have HT:Hid (T=ticksOf (acts.take k)):=hT;clear ha hT c1 c2;have HTk:Hid (a.tick=(a.kind.toList == [116,105,99,107])):=rfl
   cases p1:(a.kind.toList == [116,105,99,107])
   ·have HS2:Hid (ticksOf (acts.take (k+1))=T):=by show _=_;rw[HS.out,HTk.out,p1,HT.out];rfl
    by_cases hq:10000 < a.n
    ·go_wp2;go_ret;exact⟨false,rfl,rfl,fun e=>by cases e⟩
    ·have g1:¬1500 < (T:Int):=by omega
     go_wp2_with fail
     go_roundw
     case rel=>exact⟨trivial,k+1,by omega,by go_num,by rw[HS2.out],by rw[HS2.out];exact ht,HA2.out (by omega)⟩
     case measure=>simp[intOf];omega
   ·by_cases hp:0 < a.n
    ·by_cases hq:10000 < a.n
     ·go_wp2;go_ret;exact⟨false,rfl,rfl,fun e=>by cases e⟩
     ·have hw:IntKind.i64.wrap ((T:Int)+a.n)=(T:Int)+a.n:=by rw[IntKind.wrap_i64];omega
      have HS2:Hid ((ticksOf (acts.take (k+1)):Int)=(T:Int)+a.n):=by show _=_;rw[HS.out,HTk.out,p1,<- HT.out,if_pos rfl];omega
      by_cases g1:1500 < (T:Int)+a.n
      ·go_wp2;go_ret;exact⟨false,rfl,rfl,fun e=>by cases e⟩
      ·go_wp2_with fail
       go_roundw
       case rel=>exact⟨trivial,k+1,by omega,by go_num,by rw[HS2.out],by have:=HS2.out;omega,HA2.out (by omega)⟩
       case measure=>simp[intOf];omega
    ·have HS2:Hid (ticksOf (acts.take (k+1))=T):=by show _=_;rw[HS.out,HTk.out,p1,<- HT.out,if_pos rfl];omega
     have hq:¬10000 < a.n:=by omega
     have g1:¬1500 < (T:Int):=by omega
     go_wp2_with fail
     go_roundw
     case rel=>exact⟨trivial,k+1,by omega,by go_num,by rw[HS2.out],by rw[HS2.out];exact ht,HA2.out (by omega)⟩
     case measure=>simp[intOf];omega
  ·obtain rfl:k=acts.length:=by omega
   have k1:¬(acts.length:Int) < (acts.length:Int):=by omega
   have HF:Hid (ticksOf acts<=1500/\∀ a∈acts,a.n<=10000):=by
    have:=HA.out;rw[List.take_length] at ht this;exact⟨ht,this⟩
   generalize ticksOf (acts.take acts.length)=T at ht;clear ht
   by_cases hm:(acts.length:Int)<=most
   ·go_wp2;go_ret;exact⟨true,rfl,rfl,fun _=>⟨hm,HF.out.2,HF.out.1⟩⟩
   ·go_wp2;go_ret;exact⟨false,rfl,rfl,fun e=>by cases e⟩
theorem ErrAt.below {A:Nat->Addr}{w w':World}{v:Value}{f:Nat × Int}(h:ErrAt A w v f)(hb:Below w.heap.size w w'):ErrAt A w' v f:=by
 obtain⟨h1,h2 | ⟨h2,b,h3,h4,h5⟩⟩:=h
 ·exact⟨h1,Or.inl h2⟩
 ·exact⟨h1,Or.inr ⟨h2,b,h3,cell_below hb h4,cell_below hb h5⟩⟩
set_option maxRecDepth 100000 in
theorem actk_of_trod {H:Type}{enc:TypeId × Value->H}{W:World}(n:Nat)(cs:List Value)(x:DataW H × List MemPlace)(h:DataW.trod enc Tryz.prog W 0 (fun _=>true) true n 44 cs=some x):∃ r:ActK,cs=encK r:=by
 obtain⟨xs,m,-,-,hl,hxs,hf⟩:=DataW.trod_struct Tryz.underlying44 h;rw[show Tryz.prog.cellsOf 44=4 by kernel_rfl] at hl
 match cs,hl with
 | [c0,c1,c2,c3],_=>
  have g:∀ i,i < 4->∃ y,xs[i]?=some y:=fun i hi=>⟨xs[i]'(by rw[hxs];exact hi),List.getElem?_eq_getElem _⟩
  obtain⟨y0,k0⟩:=g 0 (by decide);obtain⟨y1,k1⟩:=g 1 (by decide);obtain⟨y2,k2⟩:=g 2 (by decide);obtain⟨y3,k3⟩:=g 3 (by decide);have e0:DataW.trod enc Tryz.prog W 0 (fun _=>true) true m 9 [c0]=some y0:=by have e:=hf 0 _ rfl;rw[k0] at e;simpa[Tryz.cellsOne] using e
  have e1:DataW.trod enc Tryz.prog W 0 (fun _=>true) true m 3 [c1]=some y1:=by have e:=hf 1 _ rfl;rw[k1] at e;simpa[Tryz.cellsOne] using e
  have e2:DataW.trod enc Tryz.prog W 0 (fun _=>true) true m 3 [c2]=some y2:=by have e:=hf 2 _ rfl;rw[k2] at e;simpa[Tryz.cellsOne] using e
  have e3:DataW.trod enc Tryz.prog W 0 (fun _=>true) true m 3 [c3]=some y3:=by have e:=hf 3 _ rfl;rw[k3] at e;simpa[Tryz.cellsOne] using e
  obtain⟨n0,q0⟩:=str_of_trod m [c0] y0 e0;obtain⟨n1,q1⟩:=int_of_trod m [c1] y1 e1;obtain⟨n2,q2⟩:=int_of_trod m [c2] y2 e2;obtain⟨n3,q3⟩:=int_of_trod m [c3] y3 e3;simp only[encS,encI,List.cons.injEq,and_true] at q0 q1 q2 q3;subst q0 q1 q2 q3;exact⟨⟨n0,n1,n2,n3⟩,rfl⟩
theorem actks_of_trod {H:Type}{enc:TypeId × Value->H}{W:World}{fuel:Nat}{v:Value}{x:DataW H × List MemPlace}(h:DataW.trod enc Tryz.prog W 0 (fun _=>true) true fuel 25 [v]=some x):∃ l:List ActK,SlAt encK 4 W v l/\l.length<=9223372036854775807:=by
 obtain⟨l,hl⟩:∃ l:List ActK,SlAt encK 4 W v l:=sl_of_trod (⟨⟨#[]⟩,0,0,0⟩:ActK) (ec:=encK) Tryz.underlying25 (show Tryz.prog.cellsOf 44=4 by kernel_rfl) (by decide) actk_of_trod h
 refine⟨l,hl,?_⟩;obtain⟨sa,cap,rfl,-,-⟩:=hl
 rcases DataW.trod_slice Tryz.underlying25 h with ⟨h1,-⟩ | ⟨a,len,cap',elems,rest,n,-,h1,-,-,h2,h3,-⟩
 ·simp only[List.cons.injEq,Value.slice.injEq,and_true] at h1;omega
 ·simp only[List.cons.injEq,Value.slice.injEq,and_true] at h1;unfold maxLen at h3;omega
theorem slice_all (b:Nat)(W:World):(Instr.sliceAt 107 (.pointer (some ⟨b,0,none⟩)) none none none).run Tryz.prog W=.ok (.slice (some ⟨b,0,none⟩) 4096 4096) W:=by
 rw[run_sliceAt_array_all W _ _ Tryz.arrT,Tryz.arrE,Tryz.arrN];simp[Result.andThen,slicedAt,Addr.add]
theorem zeros_drop (n m:Nat):(zeros n).drop m=zeros (n - m):=by unfold zeros;rw[List.drop_replicate]
def CSt.ofText (l:List UInt8):CSt:=⟨l++zeros (4096 - l.length),l.length,0,false,false,0⟩
theorem CSt.row_size (s:CSt)(h:s.bytes.length=4096):s.row.size=4101:=by simp[CSt.row,CSt.tail,h]
theorem Tryz.infoByte1:(Tryz.prog.info? 5).map (·.size)=some 1:=by kernel_rfl
set_option maxHeartbeats 1000000 in
theorem from_in (t:ByteArray)(w:World)(h1:t.size<=4096) :
  Calls Tryz.prog 35 #[.string t] w fun e w'=>e=.returned (.tuple #[.pointer (some ⟨w.heap.size,0,none⟩),.nilIface])/\Below w.heap.size w w'/\CellsAt w' w.heap.size (CSt.ofText t.data.toList):=by
 have hlen:t.data.toList.length=t.size:=by simp
 go_enter Tryz.func35,Tryz.ntmps35
 go_wp2_with fail
 refine(new_in t.size w h1).mono ?_;rintro e w1 ⟨rfl,hb,hat,-⟩;have hrow:((CSt.new t.size).row.toList.take 0++Lib.byteCells t.data.toList++(CSt.new t.size).row.toList.drop (0+t.size)).toArray=(CSt.ofText t.data.toList).row:=by
  unfold CSt.row CSt.ofText CSt.new;simp only[List.take_zero,List.nil_append,Nat.zero_add,List.map_append,CSt.tail];rw[List.drop_append,List.length_map,zeros_length,<- List.map_drop,zeros_drop,hlen];have e0:t.size - 4096=0:=by omega
  rw[e0,List.drop_zero,List.append_assoc];rfl
 have hcp:=fun ty=>Lib.run_copy_row_string (P:=Tryz.prog) w1 86 9 ty 5 w.heap.size 0 4096 4096 t (CSt.new t.size).row 109 Tryz.underlying86 Tryz.infoByte1 hat.heap h1 (by rw[CSt.row_size _ (zeros_length _)];omega)
 rw[hrow] at hcp;have hfin:CellsAt (w1.setRow w.heap.size (CSt.ofText t.data.toList).row) w.heap.size (CSt.ofText t.data.toList):=
  ⟨setRow_heap _ _ _ _ _ _ hat.heap,by simp only[CSt.ofText,List.length_append,zeros_length,hlen];omega,by simp only[CSt.ofText,hlen];exact h1⟩
 have sl:=slice_all w.heap.size;clear hrow hlen;go_wp2;go_ret2
 exact⟨rfl,below_setRow hb (Nat.le_refl _) _,hfin⟩
section
variable {A:Nat->Addr}{H:Nat->Nat->Prop}{F:Nat->Prop}{w0 w w' V0 V1 V3 V4:World}{c:CfgD}{kb bc bd rb bt:Nat}{rv tv lv:Value}{bs:List Nat}{s:CSt}{d:DSt}{ls:List LSt}{K:KSt}
set_option maxHeartbeats 1000000 in
set_option maxRecDepth 100000 in
theorem ke_new_bad (sa:Option Addr)(sc:Nat)(v:Value)(hs:SenK A w)(h0:(cfgErr c).1≠0)(hE:EntsAt w (.slice sa c.ents.length sc) c.ents)(hS:SmallC c) :
  Calls Tryz.prog 36 #[.agg #[.int .i64 c.closed,.int .i64 c.opn,.int .i64 c.cycle,.int .i64 c.delay,.slice sa c.ents.length sc],v] w fun u w'=>∃ r,u=.returned (.tuple #[.pointer none,r])/\ErrAt A w' r (cfgErr c)/\Below w.heap.size w w':=by
 obtain⟨W0,hW0⟩:∃ X,X=w.alloc (.cells #[.int .i64 c.closed,.int .i64 c.opn,.int .i64 c.cycle,.int .i64 c.delay,.slice sa c.ents.length sc] 24):=⟨_,rfl⟩;have b0:Below w.heap.size w W0:=by rw[hW0];exact Below.one _ _
 have r0:W0.heap[w.heap.size]?=some (.cells #[.int .i64 c.closed,.int .i64 c.opn,.int .i64 c.cycle,.int .i64 c.delay,.slice sa c.ents.length sc] 24 (0,0)):=by rw[hW0];exact heap_alloc_new w _
 have HCk:Hid _:=check_at5 A c sa sc W0 (hs.below b0).five (hE.below b0) hS;have HB0:Hid _:=b0;have y0:W0.cell? ⟨w.heap.size,0,none⟩=some (.int .i64 c.closed):=by simp[World.cell?,r0]
 have y1:W0.cell? ⟨w.heap.size,1,none⟩=some (.int .i64 c.opn):=by simp[World.cell?,r0]
 have y2:W0.cell? ⟨w.heap.size,2,none⟩=some (.int .i64 c.cycle):=by simp[World.cell?,r0]
 have y3:W0.cell? ⟨w.heap.size,3,none⟩=some (.int .i64 c.delay):=by simp[World.cell?,r0]
 have y4:W0.cell? ⟨w.heap.size,4,none⟩=some (.slice sa c.ents.length sc):=by simp[World.cell?,r0]
 have HN:Hid ((cfgErr c).1≠0):=h0;clear hs hE hS b0 r0 h0;go_enter Tryz.func36,Tryz.ntmps36
 go_upto_region 1 with fail
 rw[<- hW0];clear hW0;go_wp2_with fail
 clear y0 y1 y2 y3 y4
 refine Calls.mono HCk.out ?_;rintro u w1 ⟨r,rfl,hr1,hb1⟩;have HR1:Hid _:=hr1;have HB1:Hid (Below w.heap.size w w1):=HB0.out.trans (hb1.mono HB0.out.size);obtain⟨t,z,rfl⟩:∃ t z,r=.iface t z:=by
  obtain⟨-,⟨-,e⟩ | ⟨-,b,e,-⟩⟩:=hr1
  ·cases hn:(cfgErr c).1 with
   | zero=>exact absurd hn HN.out
   | succ j=>rw[hn] at e;exact⟨_,_,e⟩
  ·exact⟨_,_,e⟩
 clear hr1 hb1 HCk;go_wp2;go_ret2
 exact⟨_,rfl,HR1.out,HB1.out⟩
end
section
variable {A:Nat->Addr}{F:Nat->Prop}{w0 w w':World}{c:CfgD}{kb bc:Nat}{K:KSt}{k W:Nat}
theorem new_on:(KSt.new c (CSt.new 4096)).on=0:=KSt.on_zero.2 ⟨rfl,rfl⟩
end
def cfg1:CfgD:={ closed:=1,opn:=2,cycle:=2,delay:=0,ents:=[] }
theorem cfg1_ok:(cfgErr cfg1).1=0:=by decide
theorem cfg1_small:SmallC cfg1:=⟨by decide,fun e he=>by cases he⟩
set_option maxRecDepth 100000 in
set_option maxHeartbeats 4000000 in
theorem watched_at (A:Nat->Addr)(w:World)(hs:SenK A w):Calls Tryz.prog 10 #[] w fun e w'=>e=.returned (.bool true)/\Below w.heap.size w w':=by
 have hr:KRt cfg1:=krt_of cfg1_ok;have hq:∀ e∈cfg1.ents,quietE e:=fun e he=>by cases he
 have q0:QC cfg1 (KSt.new cfg1 (CSt.new 4096)):=⟨Quiet.new,Calm.new⟩;have f0:=kfit_new hr;obtain⟨q1,c1,n1⟩:=q0.tick hr hq f0 (by decide);have f1:=f0.tick hr (by decide);obtain⟨q2,c2,n2⟩:=q1.tick hr hq f1 (by rw[n1];decide);have hn0:(KSt.new cfg1 (CSt.new 4096)).d.now=0:=rfl;rw[hn0] at n1;have kk:=q2.q.kk;rw[n2,n1] at kk;have kk2:(KSt.tick cfg1 (KSt.tick cfg1 (KSt.new cfg1 (CSt.new 4096))).1).1.d.kicks=1:=by
  have:qk cfg1.closed.toNat cfg1.cycle.toNat ((0+1+1) / cfg1.cycle.toNat)=(1,2):=by decide
  rw[this] at kk;exact congrArg Prod.fst kk
 have st2:=q2.q.st;have HK:Hid (∀ (W:World) F kb bc,KeAt F w W cfg1 kb bc (KSt.new cfg1 (CSt.new 4096))->Calls Tryz.prog 25 #[.pointer (some ⟨kb,0,none⟩)] W fun e w'=>e=.returned .nilIface/\KePost F w W cfg1 kb bc (KSt.tick cfg1 (KSt.new cfg1 (CSt.new 4096))).1 w'):=fun W F kb bc h=>by
  have:=ke_tick h hs hr f0 (by decide);rw[c1] at this;exact this
 have HK2:Hid (∀ (W:World) F kb bc,KeAt F w W cfg1 kb bc (KSt.tick cfg1 (KSt.new cfg1 (CSt.new 4096))).1->Calls Tryz.prog 25 #[.pointer (some ⟨kb,0,none⟩)] W fun e w'=>e=.returned .nilIface/\KePost F w W cfg1 kb bc (KSt.tick cfg1 (KSt.tick cfg1 (KSt.new cfg1 (CSt.new 4096))).1).1 w'):=fun W F kb bc h=>by
  have:=ke_tick h hs hr f1 (by rw[n1];decide);rw[c2] at this;exact this
 have HN:Hid (∀ W bc,CellsAt W bc (CSt.new 4096)->w.heap.size<=bc->Below w.heap.size w W->Calls Tryz.prog 36 #[.agg #[.int .i64 1,.int .i64 2,.int .i64 2,.int .i64 0,.slice none 0 0],.pointer (some ⟨bc,0,none⟩)] W fun u w'=>KeNw w W cfg1 bc (CSt.new 4096) u w'):=fun W bc hc hlo hb=>ke_new (A:=A) (c:=cfg1) none 0 hs hr cfg1_ok ⟨none,0,rfl,fun x=>absurd rfl x⟩ cfg1_small hc hlo hb (by decide) rfl
 have HSt:Hid (∀ (W:World) F kb bc,KeAt F w W cfg1 kb bc (KSt.new cfg1 (CSt.new 4096))->Calls Tryz.prog 20 #[.pointer (some ⟨kb,0,none⟩)] W fun e w'=>e=.returned (.string ⟨#[111,110]⟩)/\w'=W):=fun W F kb bc h=>by
  have:=kat_state h;rw[new_on] at this;exact this
 obtain⟨K1,hK1⟩:∃ X,X=(KSt.tick cfg1 (KSt.new cfg1 (CSt.new 4096))).1:=⟨_,rfl⟩;rw[<- hK1] at HK HK2 kk2 n2 st2 n1;obtain⟨K2,hK2⟩:∃ X,X=(KSt.tick cfg1 K1).1:=⟨_,rfl⟩;rw[<- hK2] at HK2 kk2 n2 st2;have HF:Hid (K2.d.kicks=1/\K2.d.now=2/\K2.t.st=0):=⟨kk2,by rw[n2,n1],st2⟩;have HB:Hid (∀ (F:Nat->Prop) kb bc (W V:World) K,KePost F w W cfg1 kb bc K V->(∀ k,F k->w.heap.size<=k)->Below w.heap.size w W->Below w.heap.size w V):=fun F kb bc W V K h hF hb=>Off.below hb h.2 hb.size hF
 clear hK1 hK2 kk2 n2 st2 n1 kk q1 q2 c1 c2 f0 f1 hn0 q0 hq hr;have HSv:Hid _:=hs;clear hs;have HC:Hid (Calls Tryz.prog 49 #[.int .i64 4096] w fun e w'=>e=.returned (.tuple #[.pointer (some ⟨w.heap.size,0,none⟩),.nilIface])/\Below w.heap.size w w'/\CellsAt w' w.heap.size (CSt.new 4096)/\w'.heap.size=w.heap.size+1):=new_in 4096 w (Nat.le_refl _);go_enter Tryz.func10,Tryz.ntmps10
 go_wp2_with fail
 refine Calls.mono HC.out ?_;rintro u w1 ⟨rfl,hb1,hc1,-⟩;have HX:Hid _:=HN.out w1 w.heap.size hc1 (Nat.le_refl _) hb1;have HB1:Hid _:=hb1;clear hb1 hc1 HC HN;go_wp2_with fail
 refine Calls.mono HX.out ?_;rintro u w2 ⟨kb,F,rfl,hat,hb2,hF⟩;have HB2:Hid (Below w.heap.size w w2):=HB1.out.trans (hb2.mono HB1.out.size);have HF2:Hid (∀ k,F k->w.heap.size<=k):=fun k hk=>by
  rcases(hF k hk).1 with e | e
  ·rw[e];exact Nat.le_refl _
  ·exact Nat.le_trans HB1.out.size e
 have HA2:Hid _:=hat;clear hat hb2 hF HX HB1;go_wp2_with fail
 refine Calls.mono (HSt.out w2 F kb w.heap.size HA2.out) ?_;rintro u w3 ⟨rfl,rfl⟩;go_wp2_with fail
 refine Calls.mono (HK.out w3 F kb w.heap.size HA2.out) ?_;rintro u w4 ⟨rfl,hp4⟩;have HA4:Hid _:=hp4.1;have HB4:Hid _:=HB.out _ _ _ _ _ _ hp4 HF2.out HB2.out;have HF4:Hid (∀ k,gr F w3 w4 k->w.heap.size<=k):=fun k hk=>by
  rcases hk with hk | ⟨hk,_⟩
  ·exact HF2.out k hk
  ·exact Nat.le_trans HB2.out.size hk
 clear hp4 HK HSt HA2;go_wp2_with fail
 refine Calls.mono (HK2.out w4 _ kb w.heap.size HA4.out) ?_;rintro u w5 ⟨rfl,hp5⟩;have HB5:Hid (Below w.heap.size w w5):=HB.out _ _ _ _ _ _ hp5 HF4.out HB4.out;have hk5:=kat_kicks hp5.1;have hn5:=kat_now hp5.1;have ht5:=kat_total hp5.1;rw[HF.out.1] at hk5;rw[HF.out.2.1] at hn5;rw[HF.out.2.2] at ht5;have HK5:Hid (Calls Tryz.prog 23 #[.pointer (some ⟨kb,0,none⟩)] w5 fun e w'=>e=.returned (.int .i64 1)/\w'=w5):=hk5;have HN5:Hid (Calls Tryz.prog 22 #[.pointer (some ⟨kb,0,none⟩)] w5 fun e w'=>e=.returned (.int .i64 2)/\w'=w5):=hn5;have HT5:Hid (Calls Tryz.prog 21 #[.pointer (some ⟨kb,0,none⟩)] w5 fun e w'=>e=.returned (.string ⟨#[111,107]⟩)/\w'=w5):=ht5;clear hp5 hk5 hn5 ht5 HK2;go_wp2_with fail
 refine Calls.mono HK5.out ?_;rintro u w6 ⟨rfl,rfl⟩;go_wp2_with fail
 refine Calls.mono HN5.out ?_;rintro u w6 ⟨rfl,rfl⟩;go_wp2_with fail
 refine Calls.mono HT5.out ?_;rintro u w6 ⟨rfl,rfl⟩;go_wp2;go_ret;exact⟨rfl,HB5.out⟩
section
variable {A:Nat->Addr}{F:Nat->Prop}{w0 w w':World}{c:CfgD}{kb bc:Nat}{K:KSt}{k:Nat}
set_option maxHeartbeats 2000000 in
set_option maxRecDepth 100000 in
theorem ke_ticks (n:Int)(h:KeAt F w0 w c kb bc K)(hs:SenK A w0)(hr:KRt c)(hf:KFit c K k (144*K.d.now))(hn:(k:Int)+(K.d.now:Int)+1+n<=900000)(hn2:k+K.d.now+1<=900000) :
  Calls Tryz.prog 19 #[.pointer (some ⟨kb,0,none⟩),.int .i64 n] w fun e w'=>e=.returned (errVal A (K.ticks c n.toNat).2)/\KePost F w0 w c kb bc (K.ticks c n.toNat).1 w':=by
 obtain⟨N,hN⟩:∃ N,N=n.toNat:=⟨_,rfl⟩;rw[<- hN];have HR:Hid (KRt c):=hr;have HSv:Hid (SenK A w0):=hs;have HP:Hid (KePost F w0 w c kb bc K w):=KePost.same h;have HB:Hid (k+K.d.now+1+N<=900000):=by show _<=_;omega
 have HF:Hid _:=hf;have hn10:n<=900000:=by omega
 have hN10:N<=900000:=by omega
 have HNN:Hid (N=n.toNat):=hN;clear h hr hf hn hn2 hN hs;go_enter Tryz.func19,Tryz.ntmps19
 go_wp2_with fail
 go_loopw [5,6] (fun i _ wr=>∃ (j:Nat) (Kj:KSt),j<=N/\i=.int .i64 j/\Hid (K.ticks c N=Kj.ticks c (N - j))/\Hid (KFit c Kj k (144*Kj.d.now))/\Hid (Kj.d.now<=K.d.now+j)/\Hid (KePost F w0 w c kb bc Kj wr)) (fun i _ _=>N - (intOf i).toNat)
 case atStart=>exact⟨0,K,Nat.zero_le _,rfl,rfl,HF.out,Nat.le_refl _,HP.out⟩
 case round=>
  clear HP HF;obtain⟨j,Kj,hj,rfl,HE,HFj,HNj,HPj⟩:=hrel
  by_cases hlt:j < N
  ·have k1:(j:Int) < n:=by have:=HNN.out;omega
   have HE2:Hid (K.ticks c N=if (Kj.tick c).2=0 then (Kj.tick c).1.ticks c (N - (j+1)) else Kj.tick c):=by
    show _=_
    rw[HE.out,show N - j=(N - (j+1))+1 by omega];rfl
   have HX:Hid _:=ke_tick HPj.out.1 HSv.out HR.out HFj.out (by have:=HB.out;have:=HNj.out;omega);have HFn:Hid (KFit c (Kj.tick c).1 k (144*(Kj.tick c).1.d.now)/\(Kj.tick c).1.d.now<=K.d.now+(j+1)):=⟨HFj.out.tick HR.out (by have:=HB.out;have:=HNj.out;omega),by have:=tick_now c Kj;have:=HNj.out;omega⟩;go_wp2_with fail
   refine Calls.mono HX.out ?_;rintro u w3 ⟨rfl,hp⟩;have HP3:Hid _:=HPj.out.trans hp;clear hp HX
   by_cases hc0:(Kj.tick c).2=0
   ·rw[hc0,show errVal A 0=.nilIface from rfl];go_wp2_with fail
    go_roundw
    case rel=>exact⟨j+1,(Kj.tick c).1,by omega,by go_num,by show _=_;rw[HE2.out,if_pos hc0],HFn.out.1,HFn.out.2,HP3.out⟩
    case measure=>simp[intOf];omega
   ·obtain⟨q,hq⟩:=errVal_pos (A:=A) hc0;have HQ:Hid _:=hq;rw[hq];clear hq;go_wp2;go_ret;rw[HE2.out,if_neg hc0,HQ.out];exact⟨rfl,HP3.out⟩
  ·have k1:¬(j:Int) < n:=by have:=HNN.out;omega
   have HE2:Hid (K.ticks c N=(Kj,0)):=by
    show _=_
    rw[HE.out,show N - j=0 by omega];rfl
   go_wp2;go_ret;rw[HE2.out];exact⟨rfl,HPj.out⟩
end
end Go.Proofs.YtdpdbfhbojgigacGreatDoor
namespace Go.Proofs.YtdpdbfhbojgigacGreatDoor
open Go.RowKit
theorem Sim.text (t:ByteArray)(h:t.size<=4096):Sim (CSt.ofText t.data.toList) ⟨t,false,0,false,0⟩:=by
 have hl:t.data.toList.length=t.size:=by simp
 refine⟨?_,by simp only[CSt.ofText,hl];exact h,?_,rfl,rfl,fun e=>(by cases e),rfl,Nat.zero_le _,Nat.zero_le _⟩
 ·simp only[CSt.ofText,List.length_append,zeros_length,hl];omega
 ·simp only[CSt.ofText,hl];rw[List.take_append,hl,Nat.sub_self,List.take_zero,List.append_nil,List.take_of_length_le (by rw[hl];exact Nat.le_refl _)]
end Go.Proofs.YtdpdbfhbojgigacGreatDoor
