/-
  Several texts as one: Is, Bas, As, Code0, CfMem0, CfMem, CfPage, Shelf, CfWord, LdBase, CellsSt, Four, CellsOps, CellsMore.
-/
import Derived.Test.YtgmfhkjghmdgiaaGreatDoorP00S
import Derived.WalkKit
import Derived.LaidEql
import Derived.Stop.Asserts
import Derived.RowKitTokens
import Derived.Outline
import Derived.BigQuiet
import Derived.Deep.QuietTactic
import Derived.Deep.DeepCutAuto
import Derived.WalkSmall
import Derived.Lib.OthersKept
import Derived.Lib.AppendStr
import Derived.Lib.UnsafeStr
import Derived.Lib.Builder
import Derived.Laws.Externs
import Derived.BigRegion
import Derived.Shelf.LaysM
import Derived.Shelf.Strconv.Itoa3
import Derived.Shelf.Strings.SplitShaped
import Derived.Shelf.Strings.Prefix
import Derived.Deep.RegionHeld3
import Derived.Test.YtgmfhkjghmdgiaaGreatDoorRows
import Derived.Lib.LaidTab
import Derived.LaidLaws
import Derived.LaidHandle
import Derived.LaidMore
import Derived.Laws.IdiomStrings
set_option linter.all false
set_option maxHeartbeats 40000000
set_option maxRecDepth 100000
theorem Go.RowKit.Hid.o{p:Prop}(h:Go.RowKit.Hid p):p:=h
abbrev aC:=@Go.RowKit.Below.refl
abbrev bj.{u}:=@Option.some.inj.{u}
abbrev aL:=@Go.Calls.mono
abbrev dr.{u}:=@Array.getElem?_modify.{u}
abbrev dK:=@Go.World.cell?_alloc_at
abbrev eh:=@Nat.lt_of_lt_of_le
abbrev cg:=@Go.below_drewN
abbrev fw:=@Go.wpList_append_own
abbrev fC:=@Go.World.ownsRow_nil
abbrev iJ:=@Go.run_callFunc_extern
abbrev iZ.{u}:=@beq_eq_false_iff_ne.{u}
abbrev gR.{u,v}:=@List.getElem?_map.{u,v}
abbrev jE:=@decide_eq_decide
abbrev my:=@Go.World.cell?_alloc_lt
abbrev fj:=@Go.info_parts
abbrev m_.{u,v}:=@Option.map_eq_some_iff.{u,v}
abbrev qj:=@Go.World.cell?_of_block
abbrev nT:=@Go.World.var?_cell
abbrev rY.{u}:=@List.drop_eq_nil_of_le.{u}
abbrev tL.{u}:=@Array.getElem?_toList.{u}
abbrev vy.{u}:=@Array.getElem?_eq_none.{u}
abbrev tM:=@Go.RowKit.Below.heap_setCell
abbrev rZ:=@Go.Sem.run_bind
abbrev yU:=@Int.toNat_natCast
abbrev A9:=@Go.run_typeAssert_lacksB
abbrev tN:=@Nat.mul_one
abbrev DK:=@Go.World.cell?_setCell_same
abbrev DL:=@Go.World.frozen?_alloc_old
abbrev vz:=@Go.rounds_succ
abbrev DM.{u}:=@List.sublist_append_right.{u}
open Go renaming Addr→az,Value→ar,World→ai
open Go.Ending renaming returned→ax
open Go.IntKind renaming i64→R
open Go.Obj renaming cells→au
open Go.RowKit renaming Hid→aa
open Go.Value renaming agg→aU,bool→aI,int→U,pointer→aj,slice→af,string→aq,tuple→bn
open Option renaming none→I,some→J
open Go.Proofs.Tryz
namespace Go.Proofs.YtgmfhkjghmdgiaaGreatDoor
open Go.RowKit Go.Extern.Stop Go.Stop Go.Extern
theorem A_(v:ar)(w:ai):(Extern.ReflectliteType.typeOf #[.iface 352 v]).run prog w=.ok (.iface 196 (aU #[aj (J ⟨26,352,I⟩)])) w:=by kernel_rfl
def Ba:Array ar→Sem ar:=Extern.ReflectliteType.method λt=>do Rtype.noPackHeld "Comparable" t; pure (aI (← typeInfo t).comparable)
theorem DN(w:ai):(Ba #[aU #[aj (J ⟨26,352,I⟩)]]).run prog w=.ok (aI true) w:=by kernel_rfl
theorem DO(v:ar) (w:ai):(Go.method 490 196 v "Comparable").run prog w=.ok (317, v) w:=by kernel_rfl
theorem Bb:(prog.info? 352).map (·.comparable)=J true:=by kernel_rfl
theorem Bc:(prog.info? 354).map (·.size)=J 1:=by kernel_rfl
theorem LW(v:ar)(xT:TypeId)(w:ai):(Instr.typeAssert (.iface 352 v) xT 206 true).run prog w=.ok (bn #[.nilIface,aI false]) w:=A9 underlying206 (by kernel_rfl) (by kernel_rfl) v xT w
theorem Gq(v:ar)(xT:TypeId)(w:ai):(Instr.typeAssert (.iface 352 v) xT 203 true).run prog w=.ok (bn #[.nilIface,aI false]) w:=A9 underlying203 (by kernel_rfl) (by kernel_rfl) v xT w
theorem Gr(v:ar)(xT:TypeId)(w:ai):(Instr.typeAssert (.iface 352 v) xT 204 true).run prog w=.ok (bn #[.nilIface,aI false]) w:=A9 underlying204 (by kernel_rfl) (by kernel_rfl) v xT w
theorem LX(v:ar)(xT:TypeId)(w:ai):(Instr.typeAssert (.iface 90 v) xT 206 true).run prog w=.ok (bn #[.nilIface,aI false]) w:=A9 underlying206 (by kernel_rfl) (by kernel_rfl) v xT w
theorem LY(v:ar)(xT:TypeId)(w:ai):(Instr.typeAssert (.iface 90 v) xT 203 true).run prog w=.ok (bn #[.iface 90 v,aI true]) w:=run_typeAssert_hasB underlying203 (by kernel_rfl) v xT w
theorem LZ(v:ar) (w:ai):(Go.method 490 90 v "Unwrap").run prog w=.ok (307, v) w:=by kernel_rfl
theorem Uy(a:az)(w:ai):Calls prog 59 #[.iface 352 (aj (J a)),.iface 352 (aj (J a))] w λe w'=>e=ax (aI true)/\w'=w:=by
 obtain⟨i,hi,qN⟩:=m_.1 Bb;obtain⟨j,hj,qO⟩:=m_.1 Bc;have h8:=@iJ _ 97 _ Extern.ReflectliteType.typeOf func97 (by kernel_rfl) (by kernel_rfl) (by kernel_rfl) (by kernel_rfl);have Gt:=@iJ _ 317 _ Ba func317 (by kernel_rfl) (by kernel_rfl) (by kernel_rfl) (by kernel_rfl);have tT:=A_;have cT:=DN;have mR:=DO;have heq:=run_eql_iface_ptr_same (P:=prog) w a underlying25 underlying352 hi qN hj;go_enter func59,ntmps59
 go_wp2
 refine wp_loop_rounds 1 ?_;rw[vz];go_wp2;go_ret;exact⟨rfl,rfl⟩
theorem Uz(a b:az)(ca cb:Array ar)(ta tb:TypeId)(w:ai)(hne:a≠b)(ha:w.heap[a.block]?=J (au ca ta (0,0)))(hb:w.heap[b.block]?=J (au cb tb (0,0))):Calls prog 59 #[.iface 352 (aj (J a)),.iface 352 (aj (J b))] w λe w'=>e=ax (aI false)/\w'=w:=by
 obtain⟨i,hi,qN⟩:=m_.1 Bb;obtain⟨j,hj,qO⟩:=m_.1 Bc;have h8:=@iJ _ 97 _ Extern.ReflectliteType.typeOf func97 (by kernel_rfl) (by kernel_rfl) (by kernel_rfl) (by kernel_rfl);have Gt:=@iJ _ 317 _ Ba func317 (by kernel_rfl) (by kernel_rfl) (by kernel_rfl) (by kernel_rfl);have tT:=A_;have cT:=DN;have mR:=DO;have nE:=LW;have uE:=Gq;have vE:=Gr;have heq:=run_eql_iface_ptr_other (P:=prog) w underlying25 underlying352 hi qN hj (by rw[qO];decide) hne ha hb;go_enter func59,ntmps59
 go_wp2
 refine wp_loop_rounds 1 ?_;rw[vz];go_wp2;go_ret;exact⟨rfl,rfl⟩
theorem UA(pb po:Nat)(b:az)(w:ai)(h1:w.cell? ⟨pb,po+1,I⟩=J (.iface 352 (aj (J b)))):Calls prog 59 #[.iface 90 (aj (J ⟨pb,po,I⟩)),.iface 352 (aj (J b))] w λe w'=>e=ax (aI true)/\w'=w:=by
 obtain⟨i,hi,qN⟩:=m_.1 Bb;obtain⟨j,hj,qO⟩:=m_.1 Bc;have h8:=@iJ _ 97 _ Extern.ReflectliteType.typeOf func97 (by kernel_rfl) (by kernel_rfl) (by kernel_rfl) (by kernel_rfl);have Gt:=@iJ _ 317 _ Ba func317 (by kernel_rfl) (by kernel_rfl) (by kernel_rfl) (by kernel_rfl);have tT:=A_;have cT:=DN;have mR:=DO;have nW:=LX;have uW:=LY;have mU:=LZ;have heq:=run_eql_iface_ptr_same (P:=prog) w b underlying25 underlying352 hi qN hj;have qP:=run_eql_iface_types (P:=prog) 90 352 (aj (J ⟨pb,po,I⟩)) (aj (J b)) underlying25 (by decide) w;go_enter func59,ntmps59
 go_wp2
 refine wp_loop_rounds 2 ?_;rw[vz];go_wp2;rw[vz];go_wp2;go_ret;exact⟨rfl,rfl⟩
theorem UB(pb po:Nat)(b a:az)(ca cb:Array ar)(ta tb:TypeId)(w:ai)(h1:w.cell? ⟨pb,po+1,I⟩=J (.iface 352 (aj (J a))))(hne:a≠b)(ha:w.heap[a.block]?=J (au ca ta (0,0)))(hb:w.heap[b.block]?=J (au cb tb (0,0))):Calls prog 59 #[.iface 90 (aj (J ⟨pb,po,I⟩)),.iface 352 (aj (J b))] w λe w'=>e=ax (aI false)/\w'=w:=by
 obtain⟨i,hi,qN⟩:=m_.1 Bb;obtain⟨j,hj,qO⟩:=m_.1 Bc;have h8:=@iJ _ 97 _ Extern.ReflectliteType.typeOf func97 (by kernel_rfl) (by kernel_rfl) (by kernel_rfl) (by kernel_rfl);have Gt:=@iJ _ 317 _ Ba func317 (by kernel_rfl) (by kernel_rfl) (by kernel_rfl) (by kernel_rfl);have tT:=A_;have cT:=DN;have mR:=DO;have nE:=LW;have uE:=Gq;have vE:=Gr;have nW:=LX;have uW:=LY;have mU:=LZ;have heq:=run_eql_iface_ptr_other (P:=prog) w underlying25 underlying352 hi qN hj (by rw[qO];decide) hne ha hb;have qP:=run_eql_iface_types (P:=prog) 90 352 (aj (J ⟨pb,po,I⟩)) (aj (J b)) underlying25 (by decide) w;go_enter func59,ntmps59
 go_wp2
 refine wp_loop_rounds 2 ?_;rw[vz];go_wp2;rw[vz];go_wp2;go_ret;exact⟨rfl,rfl⟩
theorem fY{w:ai}{a:az}{v:ar}(h:w.cell? a=J v):a.block<w.heap.size:=by
 rcases fR a.block w.heap.size with h'|h'
 ·exact h'
 simp[World.cell?,vy h']at h
theorem bJ{w:ai}{k:Nat}{o:Obj}(h:w.heap[k]?=J o):k<w.heap.size:=by
 rcases fR k w.heap.size with h'|h'
 ·exact h'
 rw[vy h']at h;cases h
theorem aG{w w':ai}{a:az}{v:ar}(hb:Below w.heap.size w w')(h:w.cell? a=J v):w'.cell? a=J v:=
 (hb.cell (fY h)).trans h
theorem bG{w w':ai}{k:Nat}{o:Obj}(hb:Below w.heap.size w w')(h:w.heap[k]?=J o):w'.heap[k]?=J o:=
 (hb.block k (bJ h)).trans h
theorem r7{B:Nat}{a w w':ai}{b:Nat}(h:Below B a w)(k:w.grownBy w' (J b))(hB:B<=w.heap.size)(hb:B<=b):Below B a w':=
 h.grown k hB (λi hi=>by cases hi;exact hb)
theorem Below.one(w:ai)(o:Obj):Below w.heap.size w (w.alloc o):=(aC _ _).alloc (aQ _) _
theorem UC(t:az)(w:ai):(ReflectliteValue.unpack (.iface 92 (aj (J t)))).run prog w
  = .ok (aU #[aj (J ⟨26,92,I⟩),aj (J ⟨w.heap.size,0,I⟩),.int .u64 150]) (w.alloc (au #[aj (J t)] 92)):=by kernel_rfl
def Gu:Array ar→Sem ar:=ReflectliteValue.methodAny (ReflectliteValue.valueError "reflectlite.Value.Type" 0) (λt _ _ _=>ReflectliteType.toType t)
def DT:Array ar->Sem ar:=ReflectliteType.abiMethod λt=>do pure (U .u8 (<- Rtype.kind t))
def Gv:Array ar->Sem ar:=ReflectliteType.method ReflectliteType.elem
def Gw:Array ar→Sem ar:=ReflectliteType.relation "Implements" ReflectliteType.implements_
def DU:Array ar→Sem ar:=ReflectliteType.relation "AssignableTo" ReflectliteType.assignableTo
def DV:Array ar→Sem ar:=ReflectliteValue.method (ReflectliteValue.valueError "reflectlite.Value.IsNil" 0) ReflectliteValue.isNil
def Gx:Array ar→Sem ar:=ReflectliteValue.method (ReflectliteValue.valueError "reflectlite.Value.Elem" 0) ReflectliteValue.elem
def Gy:Array ar->Sem ar:=ReflectliteValue.set
def DW:Array ar->Sem ar:=λargs=>ReflectliteValue.unpack (args.getD 0 (bn #[]))
theorem L0(t:az)(w:ai):(DW #[.iface 92 (aj (J t))]).run prog w
  = .ok (aU #[aj (J ⟨26,92,I⟩),aj (J ⟨w.heap.size,0,I⟩),.int .u64 150]) (w.alloc (au #[aj (J t)] 92)):=UC t w
theorem L1(a:az)(w:ai):(Gu #[aU #[aj (J ⟨26,92,I⟩),aj (J a),.int .u64 150]]).run prog w
  = .ok (.iface 196 (aU #[aj (J ⟨26,92,I⟩)])) w:=by kernel_rfl
theorem L4(h:ar) (w:ai):(Go.method 490 196 (aU #[h]) "Kind").run prog w=.ok (303, h) w:=by kernel_rfl
theorem L6(w:ai):(DT #[aj (J ⟨26,92,I⟩)]).run prog w=.ok (U .u8 22) w:=by kernel_rfl
theorem L8(w:ai):(DT #[aj (J ⟨26,90,I⟩)]).run prog w=.ok (U .u8 22) w:=by kernel_rfl
theorem L9(z:Sem ar)(f:TypeId->az->Nat->Nat->Sem ar)(v:ar):ReflectliteValue.method z f #[v]=(do match <- ReflectliteValue.parts v with|none=>z|some (t,a,fl)=>f t a fl (fl%32)):=rfl
theorem L_(a:az)(w:ai):(ReflectliteValue.parts (aU #[aj (J ⟨26,92,I⟩),aj (J a),.int .u64 150])).run prog w=.ok (J (92,a,150)) w:=by kernel_rfl
theorem Ma(a p:az)(W:ai)(ha:W.cell? a=J (aj (J p))):(DV #[aU #[aj (J ⟨26,92,I⟩),aj (J a),.int .u64 150]]).run prog W=.ok (aI false) W:=by
 unfold DV;rw[L9];simp only[rZ,L_,Result.andThen];simp[ReflectliteValue.isNil,loadVar,ha]
theorem Mb(h:ar) (w:ai):(Go.method 490 196 (aU #[h]) "Elem").run prog w=.ok (318, aU #[h]) w:=by kernel_rfl
theorem Mc(h:ar) (w:ai):(Go.method 490 196 (aU #[h]) "Implements").run prog w=.ok (319, aU #[h]) w:=by kernel_rfl
theorem Md(h:ar) (w:ai):(Go.method 490 196 (aU #[h]) "AssignableTo").run prog w=.ok (316, aU #[h]) w:=by kernel_rfl
theorem Me(w:ai):(Gv #[aU #[aj (J ⟨26,92,I⟩)]]).run prog w=.ok (.iface 196 (aU #[aj (J ⟨26,90,I⟩)])) w:=by kernel_rfl
theorem Mf(w:ai):(Gw #[aU #[aj (J ⟨26,90,I⟩)],.iface 196 (aU #[aj (J ⟨26,25,I⟩)])]).run prog w=.ok (aI true) w:=by kernel_rfl
theorem UD(v:ar)(w:ai):(ReflectliteType.typeOf #[.iface 90 v]).run prog w=.ok (.iface 196 (aU #[aj (J ⟨26,90,I⟩)])) w:=by kernel_rfl
theorem UE(w:ai):(DU #[aU #[aj (J ⟨26,90,I⟩)],.iface 196 (aU #[aj (J ⟨26,90,I⟩)])]).run prog w=.ok (aI true) w:=by kernel_rfl
theorem UF(w:ai):(DU #[aU #[aj (J ⟨26,352,I⟩)],.iface 196 (aU #[aj (J ⟨26,90,I⟩)])]).run prog w=.ok (aI false) w:=by kernel_rfl
theorem UG(e:az)(w:ai):(DW #[.iface 90 (aj (J e))]).run prog w
  = .ok (aU #[aj (J ⟨26,90,I⟩),aj (J ⟨w.heap.size,0,I⟩),.int .u64 150]) (w.alloc (au #[aj (J e)] 90)):=by kernel_rfl
theorem UH(v:ar)(xT:TypeId)(w:ai):(Instr.typeAssert (.iface 352 v) xT 200 true).run prog w=.ok (bn #[.nilIface,aI false]) w:=A9 underlying200 (by kernel_rfl) (by kernel_rfl) v xT w
theorem UI(w:ai):(Rtype.elem? 92).run prog w=.ok (J 90) w:=by kernel_rfl
theorem UJ(p:az)(w:ai):(ReflectliteValue.mk 90 p ReflectliteValue.flagAddr).run prog w=.ok (aU #[aj (J ⟨26,90,I⟩),aj (J p),.int .u64 406]) w:=by kernel_rfl
theorem UK(a p:az)(W:ai)(ha:W.cell? a=J (aj (J p))):(Gx #[aU #[aj (J ⟨26,92,I⟩),aj (J a),.int .u64 150]]).run prog W
   = .ok (aU #[aj (J ⟨26,90,I⟩),aj (J p),.int .u64 406]) W:=by
 unfold Gx;rw[L9];simp only[rZ,L_,Result.andThen];simp[ReflectliteValue.elem,loadVar,ha,UI,UJ]
theorem UL(v x:ar):ReflectliteValue.set #[v,x]=(do
  let (J (dst,a,fl),J (src,b,_)):=(<- ReflectliteValue.parts v,<- ReflectliteValue.parts x)
   |unsupported (.noEntry "extern/(internal/reflectlite.Value).Set.zeroValue")
  if fl / ReflectliteValue.flagAddr%2==0 then unsupported (.noEntry "extern/(internal/reflectlite.Value).Set.unaddressable")
  let val <- loadVar src b
  if <- Rtype.directlyAssignable dst src then storeVar dst a val
  else if <- Rtype.implements dst src then
   if (<- Rtype.kind src)==20 then
    match val with
    |.nilIface=>unsupported (.noEntry "extern/reflectlite: a nil value of one interface type handed on as a value of another")
    |_=>storeVar dst a val
   else storeVar dst a (.iface src val)
  else panicString ("reflectlite.Set: value of type " ++ (← Rtype.spelt src) ++ " is not assignable to type " ++ (← Rtype.spelt dst))
  pure (bn #[])):=rfl
theorem UM(a:az)(w:ai):(ReflectliteValue.parts (aU #[aj (J ⟨26,90,I⟩),aj (J a),.int .u64 406])).run prog w=.ok (J (90,a,406)) w:=by kernel_rfl
theorem UN(a:az)(w:ai):(ReflectliteValue.parts (aU #[aj (J ⟨26,90,I⟩),aj (J a),.int .u64 150])).run prog w=.ok (J (90,a,150)) w:=by kernel_rfl
theorem UO(w:ai):(Rtype.directlyAssignable 90 90).run prog w=.ok true w:=by kernel_rfl
theorem UQ(ta b e:az)(old:ar)(W:ai)(hb:W.cell? b=J (aj (J e)))(ht:W.cell? ta=J old)(hf:W.frozen? ta=false):(Gy #[aU #[aj (J ⟨26,90,I⟩),aj (J ta),.int .u64 406],aU #[aj (J ⟨26,90,I⟩),aj (J b),.int .u64 150]]).run prog W
   = .ok (bn #[]) (W.setCell ta (aj (J e))):=by
 unfold Gy;rw[UL];simp only[rZ,UM,UN,Result.andThen];simp[ReflectliteValue.flagAddr,loadVar,hb,Result.andThen,UO,storeVar,Value.cells,storeCells,Addr.add]
 rw[run_store _ W ta _ _ (by rfl)];simp[ht,hf]
theorem UR(e t:az)(old:ar)(w:ai)(hg:w.cell? ⟨11,0,I⟩=J (.iface 196 (aU #[aj (J ⟨26,25,I⟩)])))(xn:w.cell? t=J old)(UT:w.frozen? t=false):Calls prog 58 #[.iface 90 (aj (J e)),.iface 92 (aj (J t))] w λev w'=>ev=ax (aI true)/\w'=((((w.alloc (au #[aj (J t)] 92)).alloc (au #[aj (J ⟨26,92,I⟩),aj (J ⟨w.heap.size,0,I⟩),.int .u64 150] 137)).alloc (au #[aj (J ⟨26,92,I⟩),aj (J ⟨w.heap.size,0,I⟩),.int .u64 150] 137)).alloc (au #[aj (J e)] 90)).setCell t (aj (J e)):=by
 have h6:=@iJ prog 93 _ DW func93 (by kernel_rfl) (by kernel_rfl) (by kernel_rfl) (by kernel_rfl);have h7:=@iJ prog 94 _ Gu func94 (by kernel_rfl) (by kernel_rfl) (by kernel_rfl) (by kernel_rfl);have h8:=@iJ prog 95 _ DV func95 (by kernel_rfl) (by kernel_rfl) (by kernel_rfl) (by kernel_rfl);have UU:=@iJ prog 303 _ DT func303 (by kernel_rfl) (by kernel_rfl) (by kernel_rfl) (by kernel_rfl);have Gk:=@iJ prog 318 _ Gv func318 (by kernel_rfl) (by kernel_rfl) (by kernel_rfl) (by kernel_rfl);have Gl:=@iJ prog 319 _ Gw func319 (by kernel_rfl) (by kernel_rfl) (by kernel_rfl) (by kernel_rfl);have h10:=@iJ prog 97 _ ReflectliteType.typeOf func97 (by kernel_rfl) (by kernel_rfl) (by kernel_rfl) (by kernel_rfl);have Gj:=@iJ prog 316 _ DU func316 (by kernel_rfl) (by kernel_rfl) (by kernel_rfl) (by kernel_rfl);have h11:=@iJ prog 124 _ Gx func124 (by kernel_rfl) (by kernel_rfl) (by kernel_rfl) (by kernel_rfl);have UW:=@iJ prog 125 _ Gy func125 (by kernel_rfl) (by kernel_rfl) (by kernel_rfl) (by kernel_rfl);have tO:=UD;have mA:=Md;have a25:=UE;have v25:=UG;have f6:=L0;have f7:=L1;have mK:=L4;have mE:=Mb;have mI:=Mc;have UX:=L6;have UY:=L8;have UZ:=Me;have i25:=Mf;have n8:=Ma ⟨w.heap.size,0,I⟩ t ((w.alloc (au #[aj (J t)] 92)).alloc (au #[aj (J ⟨26,92,I⟩),aj (J ⟨w.heap.size,0,I⟩),.int .u64 150] 137)) (by simp);have hlt:=fY hg;have hg2:((w.alloc (au #[aj (J t)] 92)).alloc (au #[aj (J ⟨26,92,I⟩),aj (J ⟨w.heap.size,0,I⟩),.int .u64 150] 137)).cell? ⟨11,0,I⟩=J (.iface 196 (aU #[aj (J ⟨26,25,I⟩)])):=by
  rw[my _ _ ⟨11,0,I⟩ (by simp;simp at hlt;omega),my _ _ ⟨11,0,I⟩ hlt];exact hg
 have oF:=fY xn;have el:=UK ⟨w.heap.size,0,I⟩ t (((w.alloc (au #[aj (J t)] 92)).alloc (au #[aj (J ⟨26,92,I⟩),aj (J ⟨w.heap.size,0,I⟩),.int .u64 150] 137)).alloc (au #[aj (J ⟨26,92,I⟩),aj (J ⟨w.heap.size,0,I⟩),.int .u64 150] 137)) (by rw[my _ _ ⟨w.heap.size,0,I⟩ (by simp;omega)];simp);have st:=UQ t ⟨w.heap.size+1+1+1,0,I⟩ e old ((((w.alloc (au #[aj (J t)] 92)).alloc (au #[aj (J ⟨26,92,I⟩),aj (J ⟨w.heap.size,0,I⟩),.int .u64 150] 137)).alloc (au #[aj (J ⟨26,92,I⟩),aj (J ⟨w.heap.size,0,I⟩),.int .u64 150] 137)).alloc (au #[aj (J e)] 90))
  (by rw[dK _ _ _ _ (by simp)];rfl)
  (by rw[my _ _ t (by simp;omega),my _ _ t (by simp;omega),my _ _ t (by simp;omega),my _ _ t oF];exact xn)
  (by rw[DL _ _ t (by simp;omega),DL _ _ t (by simp;omega),DL _ _ t (by simp;omega),DL _ _ t (Nat.ne_of_lt oF)];exact UT)
 go_enter func58,ntmps58
 go_wp2
 refine wp_loop_rounds 1 ?_;rw[vz];go_wp2;go_ret;exact⟨rfl,rfl⟩
theorem U0(e t:az)(w:ai)(hg:w.cell? ⟨11,0,I⟩=J (.iface 196 (aU #[aj (J ⟨26,25,I⟩)]))):Calls prog 58 #[.iface 352 (aj (J e)),.iface 92 (aj (J t))] w λev w'=>ev=ax (aI false)/\Below w.heap.size w w':=by
 have h6:=@iJ _ 93 _ DW func93 (by kernel_rfl) (by kernel_rfl) (by kernel_rfl) (by kernel_rfl);have h7:=@iJ _ 94 _ Gu func94 (by kernel_rfl) (by kernel_rfl) (by kernel_rfl) (by kernel_rfl);have h8:=@iJ _ 95 _ DV func95 (by kernel_rfl) (by kernel_rfl) (by kernel_rfl) (by kernel_rfl);have UU:=@iJ _ 303 _ DT func303 (by kernel_rfl) (by kernel_rfl) (by kernel_rfl) (by kernel_rfl);have Gk:=@iJ _ 318 _ Gv func318 (by kernel_rfl) (by kernel_rfl) (by kernel_rfl) (by kernel_rfl);have Gl:=@iJ _ 319 _ Gw func319 (by kernel_rfl) (by kernel_rfl) (by kernel_rfl) (by kernel_rfl);have h10:=@iJ _ 97 _ ReflectliteType.typeOf func97 (by kernel_rfl) (by kernel_rfl) (by kernel_rfl) (by kernel_rfl);have Gj:=@iJ _ 316 _ DU func316 (by kernel_rfl) (by kernel_rfl) (by kernel_rfl) (by kernel_rfl);have tO:=A_;have mA:=Md;have aE:=UF;have f6:=L0;have f7:=L1;have mK:=L4;have mE:=Mb;have mI:=Mc;have UX:=L6;have UY:=L8;have UZ:=Me;have i25:=Mf;have nA:=UH;have uE:=Gq;have vE:=Gr;have n8:=Ma ⟨w.heap.size,0,I⟩ t ((w.alloc (au #[aj (J t)] 92)).alloc (au #[aj (J ⟨26,92,I⟩),aj (J ⟨w.heap.size,0,I⟩),.int .u64 150] 137)) (by simp);have hlt:=fY hg;have hg2:((w.alloc (au #[aj (J t)] 92)).alloc (au #[aj (J ⟨26,92,I⟩),aj (J ⟨w.heap.size,0,I⟩),.int .u64 150] 137)).cell? ⟨11,0,I⟩=J (.iface 196 (aU #[aj (J ⟨26,25,I⟩)])):=by
  rw[my _ _ _ (by simp;simp at hlt;omega),my _ _ _ hlt];exact hg
 go_enter func58,ntmps58
 go_wp2
 refine wp_loop_rounds 1 ?_;rw[vz];go_wp2;go_ret;exact⟨rfl,(((aC _ _).alloc (aQ _) _).alloc (by simp) _).alloc (by simp;omega) _⟩
structure kZ(A:Nat->az)(w:ai):Prop where
 c0:w.cell? ⟨1,0,I⟩=J (.iface 352 (aj (J (A 0))))
 c1:w.cell? ⟨0,0,I⟩=J (.iface 352 (aj (J (A 1))))
 c2:w.cell? ⟨2,0,I⟩=J (.iface 352 (aj (J (A 2))))
 c3:w.cell? ⟨3,0,I⟩=J (.iface 352 (aj (J (A 3))))
 c4:w.cell? ⟨4,0,I⟩=J (.iface 352 (aj (J (A 4))))
 c5:w.cell? ⟨5,0,I⟩=J (.iface 352 (aj (J (A 5))))
 c6:w.cell? ⟨6,0,I⟩=J (.iface 352 (aj (J (A 6))))
 c7:w.cell? ⟨7,0,I⟩=J (.iface 352 (aj (J (A 7))))
 c8:w.cell? ⟨8,0,I⟩=J (.iface 352 (aj (J (A 8))))
 c9:w.cell? ⟨9,0,I⟩=J (.iface 352 (aj (J (A 9))))
 c10:w.cell? ⟨10,0,I⟩=J (.iface 352 (aj (J (A 10))))
 et:w.cell? ⟨11,0,I⟩=J (.iface 196 (aU #[aj (J ⟨26,25,I⟩)]))
 row:∀i,i<11->∃c t,w.heap[(A i).block]?=J (au c t (0,0))
 ne:∀i j,i<11->j<11->i≠j->A i≠A j
theorem kZ.below{A:Nat->az}{w w':ai}(h:kZ A w)(hb:Below w.heap.size w w'):kZ A w':=
 ⟨aG hb h.c0,aG hb h.c1,aG hb h.c2,aG hb h.c3,aG hb h.c4,aG hb h.c5,aG hb h.c6,aG hb h.c7,aG hb h.c8,aG hb h.c9,aG hb h.c10,aG hb h.et,
  λi hi=>by obtain⟨c,t,e⟩:=h.row i hi;exact⟨c,t,bG hb e⟩,h.ne⟩
theorem kZ.alloc{A:Nat->az}{w:ai}(h:kZ A w)(o:Obj):kZ A (w.alloc o):=h.below ((aC _ _).alloc (aQ _) _)
theorem U1(a b:az)(w:ai)(h:a=b):Calls prog 59 #[.iface 352 (aj (J a)),.iface 352 (aj (J b))] w λe w'=>e=ax (aI true)/\w'=w:=by
 subst h;exact Uy a w
def tP(A:Nat->az):Array ar:=#[.iface 352 (aj (J (A 0))),.iface 352 (aj (J (A 1))),.iface 352 (aj (J (A 2))),.iface 352 (aj (J (A 3))),.iface 352 (aj (J (A 4))),.iface 352 (aj (J (A 5))),.iface 352 (aj (J (A 6))),.iface 352 (aj (J (A 7))),.iface 352 (aj (J (A 8))),.iface 352 (aj (J (A 9))),.iface 352 (aj (J (A 10)))]
theorem Mg(A:Nat->az)(w:ai)(k:Nat)(hk:k<11):(w.alloc (au (tP A) 25)).cell? ⟨w.heap.size,k,I⟩=J (.iface 352 (aj (J (A k)))):=by
 rw[dK _ _ _ _ rfl]
 match k,hk with
 |0,_=>rfl
 |1,_=>rfl
 |2,_=>rfl
 |3,_=>rfl
 |4,_=>rfl
 |5,_=>rfl
 |6,_=>rfl
 |7,_=>rfl
 |8,_=>rfl
 |9,_=>rfl
 |10,_=>rfl
theorem Gz{k l:IntKind}{a b c d:Int}(h:a=c)(h':b=d):Ending.returned (bn #[.int k a,.int l b])=ax (bn #[.int k c,.int l d]):=by rw[h,h']
theorem U2(w:ai):Calls prog 18 #[.nilIface] w λe w'=>e=ax (bn #[U R 0,U R (-1)])/\w'=w:=by
 go_enter func18,ntmps18
 go_wp2;go_ret2
 exact⟨rfl,rfl⟩
theorem U3(A:Nat->az)(a:az)(j:Nat)(ca:Array ar)(ta:TypeId)(w:ai)(hs:kZ A w)(hj:j<=11)(hlt:∀i,i<j->a≠A i)(hit:j<11->a=A j)(ha:w.heap[a.block]?=J (au ca ta (0,0))):Calls prog 18 #[.iface 352 (aj (J a))] w λe w'=>e=ax (bn #[U R (if j<11 then (j:Int)+1 else -1),U R (-1)])/\Below w.heap.size w w':=by
 have hs1:=hs.alloc (au #[aj I] 90);go_enter func18,ntmps18
 go_wp2_with fail
 refine(U0 _ _ _ hs1.et).mono ?_;rintro e w2 ⟨rfl,hb⟩;obtain⟨c0,c1,c2,c3,c4,c5,c6,c7,c8,c9,c10,-,hrow,-⟩:=hs1.below hb;have ha2:=bG hb (bG ((aC _ w).alloc (aQ _) _) ha);have hb1:=((aC _ w).alloc (aQ _) _).trans (hb.mono (by simp));clear hs hs1 hb ha;have hcell:=Mg A w2;have hrow3:∀i,i<11->∃c t,(w2.alloc (au (tP A) 25)).heap[(A i).block]?=J (au c t (0,0)):=λi hi=>by
  obtain⟨c,t,e⟩:=hrow i hi;exact⟨c,t,bG ((aC _ w2).alloc (aQ _) _) e⟩
 have DX:=bG ((aC _ w2).alloc (aQ _) (au (tP A) 25)) ha2;have hb3:Below _ w (w2.alloc (au (tP A) 25)):=hb1.alloc hb1.size _;unfold tP at hcell hrow3 DX hb3;go_wp2_with fail
 clear c0 c1 c2 c3 c4 c5 c6 c7 c8 c9 c10 hrow ha2 hb1;go_loop [3,29] (λGA i=>GA=U R (-1)/\∃k:Nat,k<=j/\i=U R k) (λ_ i=>11-(intOf i).toNat)
 case atStart=>exact⟨rfl,0,bI _,rfl⟩
 case round=>
  obtain⟨rfl,k,hk,rfl⟩:=hrel
  by_cases hkj:k<j
  ·have hne:=hlt k hkj;have h11:k<11:=by omega
   obtain⟨cb,tb,yV⟩:=hrow3 k h11;have GC:=hcell k h11;clear hlt hit hrow3 hcell;go_wp2_with fail
   refine(Uz _ _ ca cb ta tb _ hne DX yV).mono ?_;rintro e w' ⟨rfl,rfl⟩;go_wp2;go_round
   case rel=>exact⟨rfl,k+1,by omega,by go_num⟩
   case measure=>simp[intOf];omega
  have tQ:k=j:=by omega
  by_cases h11:k<11
  ·have iC:a=A k:=by rw[tQ];exact hit (by omega)
   have HS:aa _:=iC;have HJ:aa _:=tQ;have GC:=hcell k h11;clear hlt hit hrow3 hcell iC tQ;go_wp2_with fail
   refine(U1 _ _ _ HS.o).mono ?_;rintro e w' ⟨rfl,rfl⟩;go_wp2;go_ret2
   exact⟨Gz (by have hj':=HJ.o;first|omega|(rw[aR (by omega)];omega)) rfl,hb3⟩
  have HJ:aa _:=tQ;clear hlt hit hrow3 hcell tQ;go_wp2;go_ret2
  exact⟨Gz (by have hj':=HJ.o;first|omega|(rw[aK (by omega)])) rfl,hb3⟩
theorem U4(A:Nat->az)(pb po:Nat)(n:Int)(j:Nat)(w:ai)(hs:kZ A w)(hj:j<11)(hn:w.cell? ⟨pb,po,I⟩=J (U R n))(he:w.cell? ⟨pb,po+1,I⟩=J (.iface 352 (aj (J (A j))))):Calls prog 18 #[.iface 90 (aj (J ⟨pb,po,I⟩))] w λe w'=>e=ax (bn #[U R ((j:Int)+1),U R n])/\Below w.heap.size w w':=by
 have hs1:=hs.alloc (au #[aj I] 90);go_enter func18,ntmps18
 have hpl:=fY hn;have yX:(w.alloc (au #[aj I] 90)).cell? ⟨w.heap.size,0,I⟩=J (aj I):=by simp
 have mz:(w.alloc (au #[aj I] 90)).frozen? ⟨w.heap.size,0,I⟩=false:=by simp
 go_wp2_with fail
 refine(UR _ _ _ _ hs1.et yX mz).mono ?_;rintro e w2 ⟨rfl,hw2⟩;have hb1:Below w.heap.size w w2:=by
  rw[hw2]
  refine Below.setCell ?_ (by simp) _
  refine Below.alloc (Below.alloc (Below.alloc (Below.alloc (Below.alloc (aC _ _) (aQ _) _) (by simp) _) (by simp;omega) _) (by simp;omega) _) (by simp;omega) _
 have U5:w2.cell? ⟨w.heap.size,0,I⟩=J (aj (J ⟨pb,po,I⟩)):=by
  rw[hw2]
  refine DK _ _ _ (u:=aj I) ?_;rw[my _ _ _ (by simp;omega),my _ _ _ (by simp;omega),my _ _ _ (by simp;omega),my _ _ _ (by simp)];exact yX
 obtain⟨c0,c1,c2,c3,c4,c5,c6,c7,c8,c9,c10,-,hrow,GD⟩:=hs.below hb1;have Mh:=aG hb1 hn;have tR:=aG hb1 he;clear hs hs1 hn he yX mz hw2;have hcell:=Mg A w2;have hrow3:∀i,i<11->∃c t,(w2.alloc (au (tP A) 25)).heap[(A i).block]?=J (au c t (0,0)):=λi hi=>by
  obtain⟨c,t,e⟩:=hrow i hi;exact⟨c,t,bG ((aC _ w2).alloc (aQ _) _) e⟩
 have DY:=aG ((aC _ w2).alloc (aQ _) (au (tP A) 25)) tR;have hb3:Below _ w (w2.alloc (au (tP A) 25)):=hb1.alloc hb1.size _;unfold tP at hcell hrow3 DY hb3;go_wp2_with fail
 clear c0 c1 c2 c3 c4 c5 c6 c7 c8 c9 c10 hrow Mh tR U5 hb1;go_loop [3,29] (λGA i=>GA=U R n/\∃k:Nat,k<=j/\i=U R k) (λ_ i=>11-(intOf i).toNat)
 case atStart=>exact⟨rfl,0,bI _,rfl⟩
 case round=>
  obtain⟨rfl,k,hk,rfl⟩:=hrel
  by_cases hkj:k<j
  ·have h11:k<11:=by omega
   have hne:=GD j k hj h11 (by omega);obtain⟨ca,ta,DX⟩:=hrow3 j hj;obtain⟨cb,tb,yV⟩:=hrow3 k h11;have GC:=hcell k h11;clear GD hrow3 hcell;go_wp2_with fail
   refine(UB _ _ _ _ ca cb ta tb _ DY hne DX yV).mono ?_;rintro e w' ⟨rfl,rfl⟩;go_wp2;go_round
   case rel=>exact⟨rfl,k+1,by omega,by go_num⟩
   case measure=>simp[intOf];omega
  have tQ:k=j:=by omega
  have HJ:aa _:=tQ;have h11:k<11:=by omega
  have GC:=hcell k h11;rw[<- tQ]at DY;clear GD hrow3 hcell tQ;go_wp2_with fail
  refine(UA _ _ _ _ DY).mono ?_;rintro e w' ⟨rfl,rfl⟩;go_wp2;go_ret2
  exact⟨Gz (by have hj':=HJ.o;omega) rfl,hb3⟩
def bN{α:Type}(enc:α->List ar)(k:Nat)(w:ai)(v:ar)(xs:List α):Prop:=
 ∃sa cap,v=af sa xs.length cap/\xs.length<=cap/\(xs≠[]->∃b o,sa=J ⟨b,o,I⟩/\∀i x,xs[i]?=J x->∀j u,(enc x)[j]?=J u->w.cell? ⟨b,o+i*k+j,I⟩=J u)
theorem bN.below{α:Type}{enc:α->List ar}{k:Nat}{w w':ai}{v:ar}{xs:List α}(h:bN enc k w v xs)(hb:Below w.heap.size w w'):bN enc k w' v xs:=by
 obtain⟨sa,cap,h1,h0,h2⟩:=h
 refine⟨sa,cap,h1,h0,λhne=>?_⟩;obtain⟨b,o,h3,h4⟩:=h2 hne;exact⟨b,o,h3,λi x hx j u hu=>aG hb (h4 i x hx j u hu)⟩
def bm(x:Int):List ar:=[U R x]
def bS(s:ByteArray):List ar:=[aq s]
def jq(p:Int×Int):List ar:=[U R p.1,U R p.2]
def iD(g:fM):List ar:=[U R g.fr,U R g.to,U R g.mn,U R g.mx]
def r9(e:aF)(pv gv ev fv lv:ar):Array ar:=#[aq e.name,U R e.aJ,pv,U R e.cnt,U R e.mn,U R e.mx,gv,ev,fv,lv]
structure mB(w:ai)(e:aF)(pv gv ev fv lv:ar):Prop where
 hp:bN bS 1 w pv e.ak
 hg:bN iD 4 w gv e.aB
 he:bN jq 2 w ev e.aA
 hf:bN bm 1 w fv e.first
 hl:bN bm 1 w lv e.last
theorem mB.below{w w':ai}{e:aF}{pv gv ev fv lv:ar}(h:mB w e pv gv ev fv lv)(hb:Below w.heap.size w w'):mB w' e pv gv ev fv lv:=
 ⟨h.hp.below hb,h.hg.below hb,h.he.below hb,h.hf.below hb,h.hl.below hb⟩
def jR(w:ai)(v:ar)(es:List aF):Prop:=
 ∃sa cap,v=af sa es.length cap/\(es≠[]->∃b o,sa=J ⟨b,o,I⟩/\∀i e,es[i]?=J e->∃pv gv ev fv lv,mB w e pv gv ev fv lv/\∀j u,(r9 e pv gv ev fv lv)[j]?=J u->w.cell? ⟨b,o+i*10+j,I⟩=J u)
theorem jR.below{w w':ai}{v:ar}{es:List aF}(h:jR w v es)(hb:Below w.heap.size w w'):jR w' v es:=by
 obtain⟨sa,cap,h1,h2⟩:=h
 refine⟨sa,cap,h1,λhne=>?_⟩;obtain⟨b,o,h3,h4⟩:=h2 hne
 refine⟨b,o,h3,λi e he=>?_⟩;obtain⟨pv,gv,ev,fv,lv,h5,h6⟩:=h4 i e he;exact⟨pv,gv,ev,fv,lv,h5.below hb,λj u hu=>aG hb (h6 j u hu)⟩
structure k7(e:aF):Prop where
 hn:e.name.size<=1000000
 hp:e.ak.length<=1000000
 hs:∀p∈e.ak,p.size<=1000000
 hg:e.aB.length<=1000000
 he:e.aA.length<=1000000
 hf:e.first.length<=1000000
 hl:e.last.length<=1000000
structure nh(c:aS):Prop where
 hn:c.aw.length<=1000000
 he:∀e∈c.aw,k7 e
structure dA(A:Nat->az)(w:ai):Prop where
 c0:w.cell? ⟨1,0,I⟩=J (.iface 352 (aj (J (A 0))))
 c1:w.cell? ⟨0,0,I⟩=J (.iface 352 (aj (J (A 1))))
 c2:w.cell? ⟨2,0,I⟩=J (.iface 352 (aj (J (A 2))))
 c3:w.cell? ⟨3,0,I⟩=J (.iface 352 (aj (J (A 3))))
 c4:w.cell? ⟨4,0,I⟩=J (.iface 352 (aj (J (A 4))))
 c5:w.cell? ⟨5,0,I⟩=J (.iface 352 (aj (J (A 5))))
 row:∀i,i<6->∃c t,w.heap[(A i).block]?=J (au c t (0,0))
 ne:∀i j,i<6->j<6->i≠j->A i≠A j
theorem dA.below{A:Nat->az}{w w':ai}(h:dA A w)(hb:Below w.heap.size w w'):dA A w':=
 ⟨aG hb h.c0,aG hb h.c1,aG hb h.c2,aG hb h.c3,aG hb h.c4,aG hb h.c5,λi hi=>by obtain⟨c,t,e⟩:=h.row i hi;exact⟨c,t,bG hb e⟩,h.ne⟩
theorem dA.alloc{A:Nat->az}{w:ai}(h:dA A w)(o:Obj):dA A (w.alloc o):=h.below ((aC _ _).alloc (aQ _) _)
theorem kZ.six{A:Nat->az}{w:ai}(h:kZ A w):dA A w:=
 ⟨h.c0,h.c1,h.c2,h.c3,h.c4,h.c5,λi hi=>h.row i (by omega),λi j hi hj=>h.ne i j (by omega) (by omega)⟩
structure lF(A:Nat->az)(w:ai):Prop where
 c1:w.cell? ⟨0,0,I⟩=J (.iface 352 (aj (J (A 1))))
 c2:w.cell? ⟨2,0,I⟩=J (.iface 352 (aj (J (A 2))))
 c3:w.cell? ⟨3,0,I⟩=J (.iface 352 (aj (J (A 3))))
 c4:w.cell? ⟨4,0,I⟩=J (.iface 352 (aj (J (A 4))))
 c5:w.cell? ⟨5,0,I⟩=J (.iface 352 (aj (J (A 5))))
theorem lF.below{A:Nat->az}{w w':ai}(h:lF A w)(hb:Below w.heap.size w w'):lF A w':=
 ⟨aG hb h.c1,aG hb h.c2,aG hb h.c3,aG hb h.c4,aG hb h.c5⟩
theorem lF.alloc{A:Nat->az}{w:ai}(h:lF A w)(o:Obj):lF A (w.alloc o):=h.below ((aC _ _).alloc (aQ _) _)
theorem dA.five{A:Nat->az}{w:ai}(h:dA A w):lF A w:=⟨h.c1,h.c2,h.c3,h.c4,h.c5⟩
def cN(A:Nat->az):Nat->ar
 |0=>.nilIface
 |j+1=>.iface 352 (aj (J (A j)))
def kJ(A:Nat->az)(w:ai)(v:ar)(f:Nat×Int):Prop:=
 f.1<=11/\((f.2=-1/\v=cN A f.1)\/(0<f.1/\∃b,v=.iface 90 (aj (J ⟨b,0,I⟩))/\w.cell? ⟨b,0,I⟩=J (U R f.2)/\w.cell? ⟨b,1,I⟩=J (cN A f.1)))
theorem kJ.below{A:Nat->az}{w w':ai}{v:ar}{f:Nat×Int}(h:kJ A w v f)(hb:Below w.heap.size w w'):kJ A w' v f:=by
 obtain⟨h1,h2|⟨h2,b,h3,h4,h5⟩⟩:=h
 ·exact⟨h1,a_ h2⟩
 exact⟨h1,aP ⟨h2,b,h3,aG hb h4,aG hb h5⟩⟩
theorem Bd(n a b:Int)(w:ai):Calls prog 136 #[U R n,U R a,U R b] w λe w'=>e=ax (aI (within n a b))/\w'=w:=by
 by_cases h1:a<=n
 ·by_cases h2:n<=b
  all_goals
   go_enter func136,ntmps136
   go_wp2;go_ret;exact⟨by simp[within,h1,h2],rfl⟩
 go_enter func136,ntmps136
 go_wp2;go_ret;exact⟨by simp[within];omega,rfl⟩
theorem Mi(b:UInt8)(w:ai):Calls prog 181 #[U .u8 (b.toNat:Int)] w λe w'=>e=ax (aI (lY b))/\w'=w:=by
 have hb:lY b=(decide ((97:Int)<=(b.toNat:Int))&&decide ((b.toNat:Int)<=122)):=by
  unfold lY;congr 1<;>exact jE.2 (by omega)
 rw[hb];generalize (b.toNat:Int)=n
 by_cases h1:97<=n
 ·by_cases h2:n<=122
  all_goals
   go_enter func181,ntmps181
   go_wp2;go_ret;exact⟨by simp[h1,h2],rfl⟩
 go_enter func181,ntmps181
 go_wp2;go_ret;exact⟨by simp;omega,rfl⟩
theorem GF(b:UInt8)(w:ai):Calls prog 182 #[U .u8 (b.toNat:Int)] w λe w'=>e=ax (aI (fX b))/\w'=w:=by
 have hb:fX b=(decide ((48:Int)<=(b.toNat:Int))&&decide ((b.toNat:Int)<=57)):=by
  unfold fX;congr 1<;>exact jE.2 (by omega)
 rw[hb];generalize (b.toNat:Int)=n
 by_cases h1:48<=n
 ·by_cases h2:n<=57
  all_goals
   go_enter func182,ntmps182
   go_wp2;go_ret;exact⟨by simp[h1,h2],rfl⟩
 go_enter func182,ntmps182
 go_wp2;go_ret;exact⟨by simp;omega,rfl⟩
theorem U6(c o:Int)(w:ai)(h:(within c 0 1000&&within o 1 1000)=true):Calls prog 64 #[U R c,U R o] w λe w'=>e=ax (bn #[aj (J ⟨w.heap.size,0,I⟩),.nilIface])/\Below w.heap.size w w':=by
 simp[within]at h
 have g1:¬c<0:=by omega
 have g2:¬1000<c:=by omega
 have g3:¬o<1:=by omega
 have g4:¬1000<o:=by omega
 clear h;go_enter func64,ntmps64
 go_wp2;go_ret2
 exact⟨rfl,(aC _ _).alloc (aQ _) _⟩
theorem U7(A:Nat->az)(c o:Int)(w:ai)(hs:lF A w)(h:(within c 0 1000&&within o 1 1000)=false):Calls prog 64 #[U R c,U R o] w λe w'=>e=ax (bn #[aj I,.iface 352 (aj (J (A 1)))])/\Below w.heap.size w w':=by
 have hc:=hs.c1;simp[within]at h
 by_cases g1:c<0
 ·clear h;go_enter func64,ntmps64
  go_wp2_with fail
  go_quiet (fail)
  go_wp2;go_ret2
  exact⟨rfl,cg (aC _ _) _⟩
 by_cases g2:1000<c
 ·clear h;go_enter func64,ntmps64
  go_wp2_with fail
  go_quiet (fail)
  go_wp2;go_ret2
  exact⟨rfl,cg (aC _ _) _⟩
 by_cases g3:o<1
 ·clear h;go_enter func64,ntmps64
  go_wp2_with fail
  go_quiet (fail)
  go_wp2;go_ret2
  exact⟨rfl,cg (aC _ _) _⟩
 have g4:1000<o:=by omega
 clear h;go_enter func64,ntmps64
 go_wp2_with fail
 go_quiet (fail)
 go_wp2;go_ret2
 exact⟨rfl,cg (aC _ _) _⟩
theorem U8(A:Nat->az)(c o:Int)(w:ai)(hs:lF A w):Calls prog 134 #[U R c,U R o] w λe w'=>e=ax (aI (within c 0 1000&&within o 1 1000))/\Below w.heap.size w w':=by
 cases h:(within c 0 1000&&within o 1 1000)with
 |true=>
  have dn:=U6 c o w h;go_enter func134,ntmps134
  go_wp2_with fail
  refine dn.mono ?_;rintro e w' ⟨rfl,hb⟩;go_wp2;go_ret;exact⟨rfl,hb⟩
 |false=>
  have dn:=U7 A c o w hs h;go_enter func134,ntmps134
  go_wp2_with fail
  refine dn.mono ?_;rintro e w' ⟨rfl,hb⟩;go_wp2;go_ret;exact⟨rfl,hb⟩
theorem Mj:(prog.info? 5).map (λi=>(i.zero,i.size,i.bytes))=J (J (U .u8 0),1,1):=by kernel_rfl
theorem U9:(prog.info? 184).map (·.size)=J 2:=by kernel_rfl
theorem U_:liesAt prog prog.depth 189 (3 / prog.cellsOf 189) 0 184 1=true:=by kernel_rfl
theorem U':prog.cellsOf 5=1:=by kernel_rfl
def cF(B pb:Nat)(pv:ar)(l:List UInt8)(w:ai):Prop:=
 B<=pb/\B<=w.heap.size/\∃p v,(p=aj I\/p=aj (J ⟨pb,0,I⟩))/\w.heap[pb]?=J (au #[p,v,pv] 189 (0,0))/\w.ownsRow B 5 1 v l.length (Lib.byteCells l)/\v.ownBlock≠J pb
structure cq(B pb:Nat)(w w':ai):Prop where
 br:Below B w w'
 xo:Lib.OthersKept 5 (J pb) w w'
theorem cq.refl(B pb:Nat)(w:ai):cq B pb w w:=⟨aC _ _,Lib.OthersKept.refl _ _ _⟩
theorem cq.trans{B pb:Nat}{a b c:ai}(h:cq B pb a b)(k:cq B pb b c):cq B pb a c:=⟨h.br.trans k.br,h.xo.trans k.xo⟩
theorem cq.alloc{B pb:Nat}{a b:ai}(h:cq B pb a b)(hB:B<=b.heap.size)(o:Obj):cq B pb a (b.alloc o):=⟨h.br.alloc hB _,h.xo.alloc _⟩
theorem cq.drew{B pb:Nat}{a b:ai}(h:cq B pb a b):cq B pb a b.drew:=⟨h.br.drew,h.xo.drew⟩
theorem cq.box{B pb k:Nat}{w w':ai}(h:cq B pb w w'){c:Array ar}{t:TypeId}{fr:Nat×Nat}(hk:w.heap[k]?=J (au c t fr))(hne:k≠pb)(ht:t≠5):w'.heap[k]?=J (au c t fr):=
 h.xo k _ hk (by simpa using hne) (λc' fz e=>by cases e;exact ht rfl)
theorem cF.below{B pb:Nat}{pv:ar}{l:List UInt8}{w w':ai}(h:cF B pb pv l w)(hb:Below w.heap.size w w'):cF B pb pv l w':=by
 obtain⟨h1,h2,p,v,h3,h4,h5,h6⟩:=h
 refine⟨h1,bw h2 hb.size,p,v,h3,bG hb h4,?_,h6⟩
 refine h5.kept (row:=I) ⟨hb.os,hb.tape,hb.output,hb.size,λk hk _=>hb.block k hk⟩ (by by_cases h:v.ownBlock=I;exact a_ h;exact aP h)
theorem cq.ig{B pb:Nat}{pv:ar}{l:List UInt8}{w w':ai}(h:cF B pb pv l w)(hb:Below w.heap.size w w'):cq B pb w w':=
 ⟨hb.mono h.2.1,λk _ hk _ _=>(hb.block k (bJ hk)).trans hk⟩
theorem cF.lt{B pb:Nat}{pv:ar}{l:List UInt8}{w:ai}(h:cF B pb pv l w):pb<w.heap.size:=by
 obtain⟨-,-,p,v,-,h4,-⟩:=h;exact bJ h4
theorem cF.new(w:ai):cF w.heap.size w.heap.size (af I 0 0) [] (w.alloc (au #[aj I,af I 0 0,af I 0 0] 189)):=by
 refine⟨aQ _,by simp,_,_,a_ rfl,?_,fC _ _ _ _,by simp[Value.ownBlock]⟩;show (w.heap.push _)[w.heap.size]?=_
 simp
theorem cF.Mk{B pb:Nat}{pv:ar}{l:List UInt8}{w:ai}(h:cF B pb pv l w)(jS:ar):cF B pb jS l (w.setCell ⟨pb,2,I⟩ jS)/\cq B pb w (w.setCell ⟨pb,2,I⟩ jS):=by
 obtain⟨h1,h2,p,v,h3,h4,h5,h6⟩:=h
 refine⟨⟨h1,by simpa[World.setCell]using h2,p,v,h3,by simp[World.setCell,dr,h4],?_,h6⟩,(aC B w).setCell (p:=⟨pb,2,_⟩) h1 _,(Lib.OthersKept.refl _ _ w).setCell ⟨pb,2,_⟩ rfl _⟩;exact h5.kept (row:=J pb) ⟨rfl,rfl,rfl,by simp[World.setCell],λk _ hk=>tM _ _ _ _ (λe=>hk (by simp[e]))⟩ (aP h6)
theorem Ml(B pb:Nat)(pv:ar)(l:List UInt8)(w:ai)(h:cF B pb pv l w):Calls prog 169 #[aj (J ⟨pb,0,I⟩)] w λe w'=>e=ax (bn #[])/\B<=pb/\B<=w'.heap.size/\(∃v,w'.heap[pb]?=J (au #[aj (J ⟨pb,0,I⟩),v,pv] 189 (0,0))/\w'.ownsRow B 5 1 v l.length (Lib.byteCells l)/\v.ownBlock≠J pb)/\cq B pb w w':=by
 obtain⟨j,hj,qO⟩:=m_.1 U9;obtain⟨h1,h2,p,v,h3,h4,h5,h6⟩:=h;have c0:w.cell? ⟨pb,0,I⟩=J p:=by simp[World.cell?,h4]
 rcases h3 with rfl|rfl
 ·have Be:w.shape? pb=J (189,3):=by simp[World.shape?,h4]
  have Va:w.frozen? ⟨pb,0,I⟩=false:=by simp[World.frozen?,h4]
  have e1:w.setCell _ _=w.setCell ⟨pb,0,I⟩ (aj (J ⟨pb,0,I⟩)):=rfl;have HR:aa (B<=(w.setCell ⟨pb,0,I⟩ (aj (J ⟨pb,0,I⟩))).heap.size/\(∃v,(w.setCell ⟨pb,0,I⟩ (aj (J ⟨pb,0,I⟩))).heap[pb]?=J (au #[aj (J ⟨pb,0,I⟩),v,pv] 189 (0,0))/\(w.setCell ⟨pb,0,I⟩ (aj (J ⟨pb,0,I⟩))).ownsRow B 5 1 v l.length (Lib.byteCells l)/\v.ownBlock≠J pb)/\cq B pb w (w.setCell ⟨pb,0,I⟩ (aj (J ⟨pb,0,I⟩)))):=by
   refine⟨by simpa[World.setCell]using h2,⟨v,by simp[World.setCell,dr,h4],?_,h6⟩,(aC B w).setCell (p:=⟨pb,0,_⟩) h1 _,(Lib.OthersKept.refl _ _ w).setCell ⟨pb,0,_⟩ rfl _⟩;exact h5.kept (row:=J pb) ⟨rfl,rfl,rfl,by simp[World.setCell],λk _ hk=>tM _ _ _ _ (λe=>hk (by simp[e]))⟩ (aP h6)
  have hu:=Lib.run_to_unsafe w (e:=189) (cells:=3) ⟨pb,0,I⟩ underlying181 underlying134 hj (by rw[qO];decide) Be (Nat.zero_lt_succ 2);have hf:=Lib.run_from_unsafe w (e:=189) (cells:=3) ⟨pb,0,I⟩ underlying134 underlying181 hj Be U_;have he:=iJ (P:=prog) func229 (by kernel_rfl) (by kernel_rfl) (by kernel_rfl) (e:=Extern.AbiNoEscape.same) (by kernel_rfl);have hne:=Lib.run_noEscape (P:=prog);clear h2 h4 h5 h6 e1;go_enter func169,ntmps169
  go_wp2;go_end0
  exact⟨rfl,h1,HR.o.1,HR.o.2.1,HR.o.2.2⟩
 have hn:=Lib.run_neq_ptr_same (P:=prog) w ⟨pb,0,I⟩ underlying181 hj;have HR:aa (B<=w.heap.size/\(∃v,w.heap[pb]?=J (au #[aj _,v,pv] 189 _)/\w.ownsRow B 5 1 v _ _/\v.ownBlock≠J pb)):=⟨h2,v,h4,h5,h6⟩;clear h2 h4 h5 h6;go_enter func169,ntmps169
 go_wp2;go_end0
 exact⟨rfl,h1,HR.o.1,HR.o.2,cq.refl _ _ _⟩
theorem Mm(B pb:Nat)(pv:ar)(l:List UInt8)(c:UInt8)(w:ai)(h:cF B pb pv l w)(hl:l.length<=1000000000):Calls prog 231 #[aj (J ⟨pb,0,I⟩),U .u8 (c.toNat:Int)] w λe w'=>e=ax .nilIface/\cF B pb pv (l++[c]) w'/\cq B pb w w':=by
 obtain⟨i0,hi,hz0,hz1,hz2⟩:=fj Mj;go_enter func231,ntmps231
 go_wp2_with fail
 refine(Ml B pb pv l w h).mono ?_;rintro e w1 ⟨rfl,hB,vA,⟨v,iE,hown,hne⟩,eT⟩;have c0:w1.cell? ⟨pb,0,I⟩=J (aj (J ⟨pb,0,I⟩)):=by simp[World.cell?,iE]
 have c1:w1.cell? ⟨pb,1,I⟩=J v:=by simp[World.cell?,iE]
 obtain⟨ao,n0,Bf,rfl⟩:∃ao n' cap,v=af ao n' cap:=by
  rcases hown.2 with⟨hv,_⟩|⟨g,cap,cur,hv,_⟩
  ·exact⟨_,_,_,hv⟩
  exact⟨_,_,_,hv⟩
 clear h;go_wp2_with (at_builtin;refine fw _ rfl _ _ 182 rfl B 5 i0 _ 1 1 underlying182 hi hz0 hz1 hz2 rfl (by decide) _ _ _ rfl (hown.alloc _) _ 1 1 [U .u8 (c.toNat:Int)] rfl rfl ?c1 ?c2 ?c3 ?c4 ?c5 ?_)
 case c1=>
  intro j u hj
  match j,hj with
  |0,hj=>simp at hj;subst hj;simp[Addr.add]
  |j+1,hj=>simp at hj
 case c2=>intro u hu;simp at hu;subst hu;rfl
 case c3=>unfold maxLen;omega
 case c4=>omega
 case c5=>simp;omega
 intro v' w2 hown' hgrow _;have hlt:=bJ iE;have hb2:w2.heap[pb]?=J (au #[aj (J ⟨pb,0,I⟩),af ao n0 Bf,pv] 189 (0,0)):=by
  rw[hgrow.block pb (by simp;omega) (λe=>hne e.symm)];exact bG ((aC _ _).alloc (aQ _) _) iE
 have d0:w2.cell? ⟨pb,0,I⟩=J (aj (J ⟨pb,0,I⟩)):=by simp[World.cell?,hb2]
 have d1:w2.cell? ⟨pb,1,I⟩=J (af ao n0 Bf):=by simp[World.cell?,hb2]
 have f1:w2.frozen? ⟨pb,1,I⟩=false:=by simp[World.frozen?,hb2]
 obtain⟨g,cap,rfl⟩:∃g cap,v'=af (J ⟨g,0,I⟩) (l.length+1) cap:=by
  rcases hown'.2 with⟨_,h0⟩|⟨g,cap,cur,hv,_⟩
  ·omega
  exact⟨g,cap,hv⟩
 have xq:=Lib.ownBlock_ne hown' hb2 (by decide);have HR:aa (cF B pb pv (l++[c]) (w2.setCell ⟨pb,1,I⟩ (af (J ⟨g,0,I⟩) (l.length+1) cap))/\cq B pb w (w2.setCell ⟨pb,1,I⟩ (af (J ⟨g,0,I⟩) (l.length+1) cap))):=by
  have hs2:=hgrow.size;simp at hs2
  refine⟨⟨hB,by simp[World.setCell];omega,_,_,aP rfl,by simp[World.setCell,dr,hb2],?_,xq⟩,?_,?_⟩
  ·have hown2:w2.ownsRow B 5 1 (af (J ⟨g,0,I⟩) (l.length+1) cap) (l.length+1) (Lib.byteCells l++[U .u8 (c.toNat:Int)]):=by simpa using hown'
   have:=hown2.kept (row:=J pb) (w':=w2.setCell ⟨pb,1,I⟩ (af (J ⟨g,0,I⟩) (l.length+1) cap)) ⟨rfl,rfl,rfl,by simp[World.setCell],λk _ hk=>tM _ _ _ _ (λe=>hk (by simp[e]))⟩ (aP xq);rw[Lib.byteCells_append,dm];exact this
  ·exact((eT.br.alloc vA _).grown hgrow (by simp;omega) (λk hk=>(hown.lt k hk).1)).setCell (p:=⟨pb,1,_⟩) hB _
  refine((eT.xo.alloc _).grown hgrow (λg' eA=>?_)).setCell _ rfl _
  rcases hown.2 with⟨hv,_⟩|⟨g2,vB,cur,hv,_,hg2,_⟩
  ·rw[hv]at eA;simp[Value.ownBlock]at eA
  rw[hv]at eA;simp[Value.ownBlock]at eA
  subst eA;exact⟨cur,_,bG ((aC _ _).alloc (aQ _) _) hg2⟩
 clear hown hown' hgrow eT iE hb2 hne xq c0 c1;go_wp2;go_ret;exact⟨rfl,HR.o.1,HR.o.2⟩
theorem DZ(B pb:Nat)(pv:ar)(l:List UInt8)(s:ByteArray)(w:ai)(h:cF B pb pv l w)(hl:l.length+s.size<=1000000000):Calls prog 118 #[aj (J ⟨pb,0,I⟩),aq s] w λe w'=>e=ax (bn #[U R (s.size:Int),.nilIface])/\cF B pb pv (l++s.data.toList) w'/\cq B pb w w':=by
 obtain⟨i0,hi,hz0,hz1,hz2⟩:=fj Mj;go_enter func118,ntmps118
 go_wp2_with fail
 refine(Ml B pb pv l w h).mono ?_;rintro e w1 ⟨rfl,hB,vA,⟨v,iE,hown,hne⟩,eT⟩;have c0:w1.cell? ⟨pb,0,I⟩=J (aj (J ⟨pb,0,I⟩)):=by simp[World.cell?,iE]
 have c1:w1.cell? ⟨pb,1,I⟩=J v:=by simp[World.cell?,iE]
 obtain⟨ao,n0,Bf,rfl⟩:∃ao n' cap,v=af ao n' cap:=by
  rcases hown.2 with⟨hv,_⟩|⟨g,cap,cur,hv,_⟩
  ·exact⟨_,_,_,hv⟩
  exact⟨_,_,_,hv⟩
 clear h;go_wp2_with (at_builtin;refine Lib.wpList_append_own_string _ rfl _ _ 182 9 rfl B 5 i0 underlying182 underlying9 hi hz0 hz1 hz2 _ _ _ rfl hown s rfl ?c3 ?c4 ?c5 ?_)
 case c3=>unfold maxLen;omega
 case c4=>omega
 case c5=>omega
 intro v' w2 hown' hgrow _;have hlt:=bJ iE;have hb2:w2.heap[pb]?=J (au #[aj (J ⟨pb,0,I⟩),af ao n0 Bf,pv] 189 (0,0)):=by
  rw[hgrow.block pb hlt (λe=>hne e.symm)];exact iE
 have d0:w2.cell? ⟨pb,0,I⟩=J (aj (J ⟨pb,0,I⟩)):=by simp[World.cell?,hb2]
 have d1:w2.cell? ⟨pb,1,I⟩=J (af ao n0 Bf):=by simp[World.cell?,hb2]
 have f1:w2.frozen? ⟨pb,1,I⟩=false:=by simp[World.frozen?,hb2]
 obtain⟨a',n',cap,rfl⟩:∃a' n' cap,v'=af a' n' cap:=by
  rcases hown'.2 with⟨hv,_⟩|⟨g,cap,cur,hv,_⟩
  ·exact⟨_,_,_,hv⟩
  exact⟨_,_,_,hv⟩
 have xq:=Lib.ownBlock_ne hown' hb2 (by decide);have HR:aa (cF B pb pv (l++s.data.toList) (w2.setCell ⟨pb,1,I⟩ (af a' n' cap))/\cq B pb w (w2.setCell ⟨pb,1,I⟩ (af a' n' cap))):=by
  have hs2:=hgrow.size
  refine⟨⟨hB,by simp[World.setCell];omega,_,_,aP rfl,by simp[World.setCell,dr,hb2],?_,xq⟩,?_,?_⟩
  ·have hown2:=hown';have:=hown2.kept (row:=J pb) (w':=w2.setCell ⟨pb,1,I⟩ (af a' n' cap)) ⟨rfl,rfl,rfl,by simp[World.setCell],λk _ hk=>tM _ _ _ _ (λe=>hk (by simp[e]))⟩ (aP xq);rw[Lib.byteCells_append,dm,lU];exact this
  ·exact(eT.br.grown hgrow (by omega) (λk hk=>(hown.lt k hk).1)).setCell (p:=⟨pb,1,_⟩) hB _
  refine(eT.xo.grown hgrow (λg' eA=>?_)).setCell _ rfl _
  rcases hown.2 with⟨hv,_⟩|⟨g2,vB,cur,hv,_,hg2,_⟩
  ·rw[hv]at eA;simp[Value.ownBlock]at eA
  rw[hv]at eA;simp[Value.ownBlock]at eA
  subst eA;exact⟨cur,_,hg2⟩
 clear hown hown' hgrow eT iE hb2 hne xq c0 c1;go_wp2;go_ret2
 exact⟨rfl,HR.o.1,HR.o.2⟩
theorem Vb(B pb:Nat)(pv:ar)(l:List UInt8)(w:ai)(h:cF B pb pv l w)(h0:l≠[]):Calls prog 119 #[aj (J ⟨pb,0,I⟩)] w λe w'=>e=ax (aq ⟨l.toArray⟩)/\Below B w w':=by
 obtain⟨hB,vA,p,v,-,iE,hown,hne⟩:=h;have hl0:l.length≠0:=by simpa using h0
 obtain⟨g,cap,cur,rfl,hbg,hg,Mn,hcm,hcs,Vc⟩:∃g cap cur,v=af (J ⟨g,0,I⟩) l.length cap/\B<=g/\w.heap[g]?=J (au cur 5 (0,0))/\l.length<=cap/\cap<=maxLen/\cur.size=cap*1/\cur.toList.take (l.length*1)=Lib.byteCells l:=by
  rcases hown.2 with⟨_,hz⟩|⟨g,cap,cur,hv,r⟩
  ·exact absurd hz hl0
  exact⟨g,cap,cur,hv,r⟩
 have c1:w.drew.cell? ⟨pb,1,I⟩=J (af (J ⟨g,0,I⟩) l.length cap):=by
  have h2:w.drew.heap[pb]?=_:=iE;simp[World.cell?,h2]
 have aiA:(Builtin.unsafeSliceData_ #[182] 255 #[af _ l.length cap]).run prog _=.ok (aj (J ⟨g,0,I⟩)) w.drew:=
  Lib.run_unsafeSliceData_row _ _ _ _ _ _ (by omega)
 have aiB:(Builtin.unsafeString_ #[255,3] 9 #[aj (J ⟨g,0,I⟩),U R l.length]).run prog w.drew=.ok (aq ⟨l.toArray⟩) (w.drew.freeze ⟨g,0,I⟩ l.length):=by
  refine Lib.run_unsafeString_row _ 255 3 9 5 underlying255 U' g cur.size (by have eA:w.drew.heap[g]?=J _:=hg;simp[World.shape?,eA]) l h0 (by omega) (by unfold maxLen at hcm;omega) ?_;intro j x hx;exact hown.cells (g:=g) rfl j _ (by simp[Lib.byteCells,hx])
 have HF:aa (Below B w (w.drew.freeze _ l.length)):=Lib.below_freeze (Below.drew (aC B w)) (p:=⟨g,0,I⟩) hbg _;clear hown iE hg Vc hcs hcm Mn hne;go_enter func119,ntmps119
 go_wp2;go_region
 all_goals (go_wp2;go_ret;exact⟨rfl,HF.o⟩)
end Go.Proofs.YtgmfhkjghmdgiaaGreatDoor
namespace Go.Proofs
open Go.Shelf
def Vd:Go.Shelf.Ren:=⟨fun|171=>36|243=>74|246=>114|283=>164|284=>165|285=>166|286=>167|129=>225|317=>224|318=>226|319=>227|320=>228|337=>259|338=>260|n=>n,fun|3=>3|9=>9|2=>2|4=>4|171=>248|0=>0|53=>249|37=>182|5=>5|173=>252|212=>296|51=>297|20=>20|213=>298|46=>300|232=>343|233=>344|n=>n,fun|17=>13|18=>17|19=>18|n=>n⟩
theorem Ve:Go.Proofs.LaysM.n171 prog Vd:=by repeat' (first|kernel_rfl|(intro w;kernel_rfl)|decide|constructor)
open Go.RowKit Go.Sort Go.Lib in
theorem strconv_Itoa(n:Int) (h0 : -9223372036854775808 ≤ n) (h1:n ≤ 9223372036854775807) (w:ai) (GG:Lib.TabIs prog w "internal/strconv.uint64pow10" .u64 Lib.pow10Tab):Calls prog 36 #[U R n] w λe w'=>e=ax (aq ⟨(Lib.itoa n).toArray⟩)/\∃k os,w'=grow (w.drewN k) os:=Any.strconv_Itoa Ve n h0 h1 w GG
def Vf:Go.Shelf.Ren:=⟨fun|102=>62|209=>101|207=>132|n=>n,fun|9=>9|4=>4|3=>3|n=>n,fun|n=>n⟩
theorem Vg:Go.Proofs.Lays.n102 prog Vf:=by repeat' (first|kernel_rfl|(intro w;kernel_rfl)|decide|constructor)
open Go.RowKit Go.Lib in
theorem strings_TrimSuffix(s p:ByteArray)(w:ai)(hs:s.size<=9223372036854775807):Calls prog 62 #[aq s,aq p] w λe w'=>e=ax (aq ⟨(Lib.trimSuffix s.data.toList p.data.toList).toArray⟩)/\w'=w:=Any.strings_TrimSuffix Vg s p w hs
def Vh:Go.Shelf.Ren:=⟨fun|146=>61|221=>100|268=>129|138=>130|143=>131|195=>178|197=>173|218=>179|219=>180|260=>233|217=>238|225=>239|224=>240|267=>241|266=>267|314=>268|n=>n,fun|9=>9|31=>22|3=>3|4=>4|0=>0|105=>259|21=>21|5=>5|46=>300|119=>322|139=>325|138=>324|146=>333|51=>297|n=>n,fun|1=>14|3=>15|4=>16|n=>n⟩
theorem GH:Go.Proofs.LaysM.n146 prog Vh:=by
 constructor
 case s1_3=>exact λw h=>Go.Proofs.cell_of_shapedOpen_int (zero:=#[U R 0]) (t:=3) h (of_decide_eq_true (by kernel_rfl)) (by kernel_rfl) rfl (by kernel_rfl) (by kernel_rfl) underlying3
 all_goals repeat' (first|kernel_rfl|(intro w;kernel_rfl)|decide|constructor)
end Go.Proofs
namespace Go.Proofs.YtgmfhkjghmdgiaaGreatDoor
open Go.RowKit Go.Extern.Stop Go.Stop Go.Extern
theorem Vi(x:ar)(w:ai):(Instr.typeAssert (.iface 148 x) 20 148 true).run prog w=.ok (bn #[x,aI true]) w:=by kernel_rfl
theorem Vj(x:ar)(w:ai):(Instr.typeAssert (.iface 9 x) 20 148 true).run prog w=.ok (bn #[U R 0,aI false]) w:=by kernel_rfl
theorem Vk(x:ar)(w:ai):(Instr.typeAssert (.iface 9 x) 20 9 true).run prog w=.ok (bn #[x,aI true]) w:=by kernel_rfl
theorem Vl(x:ar)(w:ai):(Instr.typeAssert (.iface 3 x) 20 148 true).run prog w=.ok (bn #[U R 0,aI false]) w:=by kernel_rfl
theorem Vm(x:ar)(w:ai):(Instr.typeAssert (.iface 3 x) 20 9 true).run prog w=.ok (bn #[aq ⟨#[]⟩,aI false]) w:=by kernel_rfl
theorem Vn(x:ar)(w:ai):(Instr.typeAssert (.iface 3 x) 20 3 true).run prog w=.ok (bn #[x,aI true]) w:=by kernel_rfl
theorem Vo(x:ar)(w:ai):(Instr.typeAssert (.iface 307 x) 20 148 true).run prog w=.ok (bn #[U R 0,aI false]) w:=by kernel_rfl
theorem Vp(x:ar)(w:ai):(Instr.typeAssert (.iface 307 x) 20 9 true).run prog w=.ok (bn #[aq ⟨#[]⟩,aI false]) w:=by kernel_rfl
theorem Vq(x:ar)(w:ai):(Instr.typeAssert (.iface 307 x) 20 3 true).run prog w=.ok (bn #[U R 0,aI false]) w:=by kernel_rfl
theorem Vr(x:ar)(w:ai):(Instr.typeAssert (.iface 307 x) 20 307 true).run prog w=.ok (bn #[x,aI true]) w:=by kernel_rfl
def jF(w:ai):Prop:=∀i,i<10->w.cell? ⟨12,i,I⟩=J (aq ⟨(kw i).toArray⟩)
theorem jF.below{w w':ai}(h:jF w){B:Nat}(hb:Below B w w')(hB:12<B):jF w':=λi hi=>(hb.cell (p:=⟨12,i,I⟩) hB).trans (h i hi)
theorem cF.drew{B pb:Nat}{pv:ar}{l:List UInt8}{w:ai}(h:cF B pb pv l w):cF B pb pv l w.drew:=h
theorem Vs(B pb:Nat)(pv:ar)(l:List UInt8)(s:ByteArray)(w:ai)(h:cF B pb pv l w)(hl:l.length+s.size<=1000000000):Calls prog 232 #[aj (J ⟨pb,0,I⟩),.iface 9 (aq s)] w λe w'=>e=ax (bn #[])/\cF B pb pv (l++s.data.toList) w'/\cq B pb w w':=by
 have H:aa _:=DZ B pb pv l s w h hl;clear h hl;have t1:=Vj;have t2:=Vk;go_enter func232,ntmps232
 go_wp2_with fail
 refine aL H.o ?_;rintro e w' ⟨rfl,h1,h2⟩;go_wp2;go_end0
 exact⟨rfl,h1,h2⟩
theorem Vt(B pb:Nat)(pv:ar)(l:List UInt8)(k:Nat)(w:ai)(h:cF B pb pv l w)(hl:l.length<=900000000)(hk:k<10)(hK:jF w)(hG:(max 12 13+1)<=B):Calls prog 232 #[aj (J ⟨pb,0,I⟩),.iface 148 (U R (k:Int))] w λe w'=>e=ax (bn #[])/\cF B pb pv (l++kw k) w'/\cq B pb w w':=by
 have Mo:(kw k).length<=6:=by
  have:∀k,k<10->(kw k).length<=6:=by decide
  exact this k hk
 have H0:=DZ B pb pv l ⟨_⟩ _ h.drew (by show l.length+(kw k).toArray.size<=_;simp;omega);have H:aa _:=H0;have c0:=hK k hk;have k0:(0:Int)<=(k:Int):=by omega
 have k1:(k:Int)<10:=by omega
 generalize hs:(⟨(kw k).toArray⟩:ByteArray)=s at *;have HS:aa (s.data.toList=kw k):=by show _=_;rw[<- hs]
 clear h hl hK Mo H0 hk hs;have t1:=Vi;go_enter func232,ntmps232
 go_wp2_with fail
 go_region_held3 (λw'=>w'.cell? ⟨12,k,I⟩=J (aq s)) (first|exact c0|exact y0) (first|(go_at_call 118;refine aL H.o ?_;rintro e W' ⟨rfl,h1,h2⟩;have y0:=(h2.br.cell (p:=⟨12,k,_⟩) (eh (show 12<(max 12 13+1) by decide) hG)).trans c0))
 go_wp2;go_end0
 exact⟨rfl,by rw[<- HS.o];exact h1,(cq.refl B pb w).drew.trans h2⟩
def iK(w:ai):Prop:=Lib.TabIs prog w "internal/strconv.uint64pow10" .u64 Lib.pow10Tab
theorem Mp:prog.globalNamed "internal/strconv.uint64pow10" = J 13:=by kernel_rfl
theorem iK.below{B:Nat}{w w':ai}(h:iK w)(hb:Below B w w')(hB:(max 12 13+1)<=B):iK w':=by
 unfold iK Lib.TabIs World.var? at h⊢;rw[Mp]at h⊢;simp only[Option.bind_some]at h⊢;rw[hb.block 13 (eh (by decide) hB)];exact h
theorem GI(u:Nat):Lib.decDigits u=ku u:=by
 induction u using Nat.strongRecOn with
 |ind u ih=>
  rw[Lib.decDigits,ku]
  split
  ·rfl
  rw[ih _ (by omega)]
theorem Vu(n:Int)(h0:0<=n)(h1:n<=1099511627776)(w:ai)(hT:iK w):Calls prog 36 #[U R n] w λe w'=>e=ax (aq ⟨(num n).toArray⟩)/\Below w.heap.size w w':=by
 refine(strconv_Itoa n (by omega) (by omega) w hT).mono ?_;rintro e w' ⟨rfl,k,os,rfl⟩
 refine⟨?_,?_⟩
 ·unfold Lib.itoa num;rw[aK (by omega),GI]
 refine⟨rfl,rfl,rfl,(by show w.heap.size<=((w.drewN k).heap++os).size;rw[Array.size_append];exact Nat.le_add_right _ _),λi hi=>?_⟩;show ((w.drewN k).heap++os)[i]?=_
 rw[Array.getElem?_append_left (by show i<w.heap.size;omega)];rfl
theorem Vv(B pb:Nat)(pv:ar)(l:List UInt8)(n:Int)(w:ai)(h:cF B pb pv l w)(hl:l.length<=900000000)(h0:0<=n)(h1:n<=1099511627776)(hT:iK w)(hG:(max 12 13+1)<=B):Calls prog 232 #[aj (J ⟨pb,0,I⟩),.iface 3 (U R n)] w λe w'=>e=ax (bn #[])/\cF B pb pv (l++num n) w'/\cq B pb w w':=by
 have yY:(num n).length<=13:=by
  obtain⟨-,-,-,-,hh⟩:=AW n.toNat;exact hh 12 (by omega)
 have HI:aa (∀W,Below _ w W->_):=λW hW=>Vu n h0 h1 W (hT.below (hW.mono h.2.1) hG)
 have HW:aa _:=λW hW=>DZ B pb pv l ⟨_⟩ W hW (by show l.length+(num n).toArray.size<=_;simp;omega)
 have H:aa (cF B pb pv l w):=h;have t1:=Vl;have t2:=Vm;have t3:=Vn;clear h hl h0 h1 hT yY;go_enter func232,ntmps232
 go_wp2_with fail
 go_region_held3 (λ_=>True) (exact trivial) (first|(go_at_call 36;refine aL (HI.o _ (cg (aC _ _) 1)) ?_;rintro e W1 ⟨rfl,hb1⟩;have GJ:=H.o.drew.below hb1)|(go_at_call 118;refine aL (HW.o _ GJ) ?_;rintro e W2 ⟨rfl,h1,h2⟩))
 go_wp2;go_end0
 exact⟨rfl,h1,((cq.refl B pb w).drew.trans (cq.ig H.o hb1)).trans h2⟩
theorem Vw(B pb:Nat)(pa:Option az)(pc:Nat)(ak:List ByteArray)(l:List UInt8)(x:Int)(w:ai)(h:cF B pb (af pa ak.length pc) l w)(hl:l.length<=900000000)(hP:∀W,Below B w W->bN bS 1 W (af pa ak.length pc) ak)(h0:0<=x)(h1:x<(ak.length:Int))(hs:∀p∈ak,p.size<=1000000):Calls prog 232 #[aj (J ⟨pb,0,I⟩),.iface 307 (U R x)] w λe w'=>e=ax (bn #[])/\cF B pb (af pa ak.length pc) (l++pt ak x) w'/\cq B pb w w':=by
 obtain⟨q,hq,pF,Bg⟩:∃q,ak[x.toNat]?=J q/\pt ak x=bl q/\q∈ak:=by
  have hlt:x.toNat<ak.length:=by omega
  exact⟨_,bH hlt,by simp[pt,bH hlt],xb hlt⟩
 obtain⟨k,rfl⟩:=Int.eq_ofNat_of_zero_le h0;have hk:k<ak.length:=by omega
 simp only[yU]at hq;have Mq:=hP;obtain⟨dI,cap',ck,-,hcc⟩:=hP w (aC _ _)
 cases ck
 obtain⟨b,o,rfl,hc0⟩:=hcc (λe=>by subst e;simp at hq);have Bh:aa (∀W,Below B w W->W.cell? ⟨b,o+k,I⟩=J (aq q)):=λW hW=>by
  obtain⟨Vx,vB,Vy,-,Vz⟩:=Mq W hW
  cases Vy
  obtain⟨b2,o2,e2,hc2⟩:=Vz (λe=>by subst e;simp at hq)
  cases e2
  have:=hc2 k q hq 0 _ rfl;simpa using this
 have H0:=DZ B pb _ l q _ h.drew (by have:=hs q Bg;omega);have H:aa _:=H0;have hcell:=Bh.o w (aC _ _);have VA:w.cell? ⟨pb,2,I⟩=J (af (J ⟨b,o,I⟩) ak.length pc):=by
  obtain⟨-,-,p,v,-,h4,-⟩:=h;simp[World.cell?,h4]
 have HQ:aa _:=pF;have k0:(0:Int)<=(k:Int):=by omega
 have k1:(k:Int)<(ak.length:Int):=by omega
 have t1:=Vo;have t2:=Vp;have t3:=Vq;have t4:=Vr;have r_:aa (∀W,cF B pb (af (J ⟨b,o,I⟩) ak.length pc) (l++q.data.toList) W->W.cell? ⟨pb,2,I⟩=J (af (J ⟨b,o,I⟩) ak.length pc)):=λW hW=>by
  obtain⟨-,-,p,v,-,h4,-⟩:=hW;simp[World.cell?,h4]
 clear h hl hP Mq hs hq pF Bg hcc hc0 H0 h0 h1 hk;go_enter func232,ntmps232
 go_wp2_with fail
 go_region_held3 (λw'=>w'.cell? ⟨b,o+k,I⟩=J (aq q)/\w'.cell? ⟨pb,2,I⟩=J (af (J ⟨b,o,I⟩) ak.length pc)) (first|exact⟨hcell,VA⟩|exact⟨y0,y1⟩) (first|(go_at_call 118;refine aL H.o ?_;rintro e W' ⟨rfl,h1,h2⟩;have y0:=Bh.o W' ((aC B w).drew.trans h2.br);have y1:=r_.o _ h1))
 go_wp2;go_end0
 exact⟨rfl,by rw[HQ.o];exact h1,(cq.refl B pb w).drew.trans h2⟩
end Go.Proofs.YtgmfhkjghmdgiaaGreatDoor
namespace Go.Proofs.YtgmfhkjghmdgiaaGreatDoor
open Go.RowKit Go.ChangeShapes
def Mr(l:List (String×List UInt8)):List (String×DataW Unit):=l.map λx=>(x.1, .iface "*errors.errorString" (.ptr (.agg [.lit (.string x.2)])))
theorem VB{P:Program}{W:ai}{ti tp te ts:TypeId}{ms:Array (String×TypeId)}{f:Field}
  (hi:P.underlying ti=J (.interface ms)) (hrow:∀u, P.typeName? 3 u=J "*errors.errorString" → u=tp)
  (hp:P.underlying tp=J (.pointer te)) (he:P.underlying te=J (.struct #[f])) (VC:f.type=ts) (VD:f.offset=0) (hs:P.underlying ts=J .string) (hc:P.cellsOf te=1) (hcs:P.cellsOf ts=1):∀(l:List (String×List UInt8)) (ps:List MemPlace),(∀x,x∈l->∃g,P.globalNamed x.1=J g/\(P.globals[g]?).map (·.type)=J ti)->DataW.LaidVars P W (Mr l) ps->ps.Nodup ->
   (∀b off,MemPlace.cell b off∈ps->(∃c t,W.heap[b]?=J (.cells c t (0,0)))/\∀u v,W.cell? ⟨b,off,I⟩=J (.iface u v)->Value.okWide P W .any 0 u v) ->
   ∃A:Nat->az,(∀i x,l[i]?=J x->W.var? P x.1=J #[.iface tp (.pointer (J (A i)))])/\(∀i,i<l.length->∃c t,W.heap[(A i).block]?=J (.cells c t (0,0))) /\
    (∀i,i<l.length->MemPlace.cell (A i).block (A i).off∈ps)/\(∀i j,i<l.length->j<l.length->i≠j->A i≠A j)/\∀i x,l[i]?=J x->W.cell? (A i)=J (.string ⟨x.2.toArray⟩):=by
 intro l
 induction l with
 |nil=>exact λps _ _ _ _=>⟨λ_=>⟨0,0,I⟩,λi x h=>by simp at h,λi h=>by simp at h,λi h=>by simp at h,λi j h=>by simp at h,λi x h=>by simp at h⟩
 |cons x r ih=>
  intro ps hg hl oB Bi;obtain⟨n,text⟩:=x;obtain⟨g,t,cs,fuel,p,q,hg0,xn,hv0,qQ,hq,rfl⟩:=hl;obtain⟨g',hg1,yX⟩:=hg _ (qc ..);obtain rfl:=bj (hg1.symm.trans hg0);obtain rfl:=bj (yX.symm.trans xn);obtain⟨lc⟩:=cs;have VE:∀u v,lc=[.iface u v]->Value.okWide P W .any 0 u v:=λu v e=>by
   subst e;exact(Bi g' 0 (by simp[MemPlace.row])).2 u v (by simpa using nT hg0 hv0 0)
  obtain⟨a0,s0,rfl,hc0,hs0,hz0,rfl⟩:=errorString_of_trod hi hrow hp he VC VD hs hc hcs qQ VE;obtain⟨A,v,b,m,d,tx⟩:=ih q (λy hy=>hg y (tE _ hy)) hq (List.Nodup.sublist (DM _ _) oB) (λb off hm=>Bi b off (List.mem_append_right _ hm));have Ms:∀i,i<r.length->a0≠A i:=λi hi e=>by
   have hm:=m i hi;rw[<- e]at hm;have:=List.nodup_append.1 oB;exact this.2.2 _ (List.mem_append_right _ (by simp[MemPlace.row])) _ hm rfl
  refine⟨λi=>match i with|0=>a0|i+1=>A i,λi y hy=>?_,λi hi=>?_,λi hi=>?_,λi j hi hj hne=>?_,λi y hy=>?_⟩
  ·cases i with
   |zero=>simp only[List.getElem?_cons_zero,eR]at hy;subst hy;exact hv0
   |succ i=>exact v i y (by simpa using hy)
  ·cases i with
   |zero=>exact(Bi _ a0.off (by simp[MemPlace.row])).1
   |succ i=>exact b i (by simpa using hi)
  ·cases i with
   |zero=>exact List.mem_append_left _ (List.mem_append_right _ (by simp[MemPlace.row]))
   |succ i=>exact List.mem_append_right _ (m i (by simpa using hi))
  ·cases i with
   |zero=>
    cases j with
    |zero=>exact absurd rfl hne
    |succ j=>exact Ms j (by simpa using hj)
   |succ i=>
    cases j with
    |zero=>exact λe=>Ms i (by simpa using hi) e.symm
    |succ j=>exact d i j (by simpa using hi) (by simpa using hj) (by omega)
  cases i with
  |zero=>
   simp only[List.getElem?_cons_zero,eR]at hy;subst hy;rw[hc0];obtain⟨⟨z⟩⟩:=s0;subst hs0;rfl
  |succ i=>exact tx i y (by simpa using hy)
theorem own:ownKnob prog.godebug=I:=by kernel_rfl
theorem g0:prog.globalNamed "nightwatch/api.ErrText" = J 1:=by kernel_rfl
theorem g1:prog.globalNamed "nightwatch/api.ErrBound" = J 0:=by kernel_rfl
theorem g2:prog.globalNamed "nightwatch/api.ErrShape" = J 2:=by kernel_rfl
theorem g3:prog.globalNamed "nightwatch/api.ErrName" = J 3:=by kernel_rfl
theorem g4:prog.globalNamed "nightwatch/api.ErrNone" = J 4:=by kernel_rfl
theorem g5:prog.globalNamed "nightwatch/api.ErrExist" = J 5:=by kernel_rfl
theorem star : "*" ++ "errors.errorString" = "*errors.errorString" := by decide
theorem VF(u:TypeId) (h:prog.typeName? 3 u=J "*errors.errorString"):u=352 :=
 typeName_ptr_named (nm := "errors.errorString") (by rw [star]; kernel_rfl) (by kernel_rfl) (by decide) u (by rw [star]; exact h)
theorem VG:prog.cellsOf 354=1:=by kernel_rfl
theorem Mt:prog.cellsOf 9=1:=by kernel_rfl
theorem yZ{P:Program}{W:ai}:∀(a b:List (String×DataW Unit)) (ps:List MemPlace),DataW.LaidVars P W (a++b) ps->∃p q,ps=p++q/\DataW.LaidVars P W a p/\DataW.LaidVars P W b q
 |[],b,ps,h=>⟨[],ps,rfl,rfl,h⟩
 |(n,d)::a,b,ps,h=>by
  obtain⟨g,t,cs,fuel,p,q,hg0,xn,hv0,qQ,hq,rfl⟩:=h;obtain⟨p1,q1,rfl,h1,h2⟩:=yZ a b q hq;exact⟨_,q1,by simp[iV],⟨g,t,cs,_,p,p1,hg0,xn,hv0,qQ,h1,rfl⟩,h2⟩
theorem VH{H:Type}{enc:TypeId×ar->H}{P:Program}{w:ai}{base:Nat}{sp:Nat->Bool}{held:Bool}{fuel:Nat}{t e:TypeId}{n:Nat}{cs:List ar}{zs:List (List UInt8)}{p:List MemPlace}
  (ht:P.underlying t=J (.array n e)) (he:P.underlying e=J .string) (hce:P.cellsOf e=1) (jT:P.cellsOf t=n)
  (h:DataW.trod enc P w base sp held fuel t cs=J (.agg (zs.map λz=>.lit (.string z)),p)):cs=zs.map λz=>Value.string ⟨z.toArray⟩:=by
 cases fuel with
 |zero=>simp[DataW.trod]at h
 |succ fuel=>
  simp only[DataW.trod,ht,hce,jT,tN]at h
  split at h
  ·rename_i hl;obtain⟨xs,hm,hx⟩:=m_.1 h;have vC:xs.map (·.1)=zs.map λz=>(DataW.lit (.string z):DataW H):=by
    have:=mY Prod.fst hx;simpa using this
   have iL:xs.length=n:=by simpa using Lib.mapM_length hm
   have hzl:zs.length=n:=by
    have:=mY List.length vC;simp at this
    omega
   apply List.ext_getElem?
   intro i
   by_cases hi:i<n
   ·obtain⟨b,hb,hf⟩:=Lib.mapM_at hm i i (by simp[hi]);obtain⟨z,hc,rfl,_⟩:=DataW.trod_string he hf;have h1:cs[i]?=J (.string z):=by
     have:=mY (·[0]?) hc;simpa[List.getElem?_drop]using this
    have h2:(xs.map (·.1))[i]?=J (DataW.lit (.string z.data.toList):DataW H):=by simp[hb]
    rw[vC]at h2;simp only[gR,m_,DataW.lit.injEq,Lit.string.injEq]at h2;obtain⟨z',hz',rfl⟩:=h2;simp[h1,hz']
   rw[iI (by omega),iI (by simp;omega)]
  cases h
theorem VI:(Rows.laid_nightwatch_conf_keywords:DataW Unit)=.agg ([kw 0,kw 1,kw 2,kw 3,kw 4,kw 5,kw 6,kw 7,kw 8,kw 9].map λz=>.lit (.string z)):=rfl
theorem VJ:(Rows.laid_internal_strconv_uint64pow10:DataW Unit)=Lib.tabData .u64 Lib.pow10Tab:=rfl
theorem VK:prog.globalNamed "internal/strconv.uint64pow10" = J 13:=by kernel_rfl
theorem VL:(prog.globals[13]?).map (·.type)=J 296:=by kernel_rfl
theorem Mu:prog.globalNamed "nightwatch/conf.keywords" = J 12:=by kernel_rfl
theorem VM:(prog.globals[12]?).map (·.type)=J 261:=by kernel_rfl
theorem Mv:prog.cellsOf 296=20/\prog.cellsOf 249=1:=⟨by kernel_rfl,by kernel_rfl⟩
theorem VN:prog.cellsOf 261=10:=by kernel_rfl
theorem VO{W:ai} {p:List MemPlace} (h:DataW.LaidVars prog W [("internal/strconv.uint64pow10", Rows.laid_internal_strconv_uint64pow10)] p):iK W:=by
 obtain⟨g',t',cs,fuel,p,q,eA,D1,GK,hd,_,_⟩:=h;obtain rfl:=bj (VK.symm.trans eA);obtain rfl:=bj (VL.symm.trans D1);rw[VJ]at hd;unfold iK Lib.TabIs;rw[GK,<- Lib.cells_of_tab underlying296 underlying249 Mv.2 Mv.1 hd]
theorem VP{W:ai} {p:List MemPlace} (h:DataW.LaidVars prog W [("nightwatch/conf.keywords", Rows.laid_nightwatch_conf_keywords)] p):jF W:=by
 obtain⟨g',t',cs,fuel,p,q,eA,D1,GK,hd,_,_⟩:=h;obtain rfl:=bj (Mu.symm.trans eA);obtain rfl:=bj (VM.symm.trans D1);rw[VI]at hd;have hc:=VH underlying261 underlying9 Mt VN hd;intro i hi;have:=nT Mu GK i;rw[this];have e:cs[i]?=cs.toList[i]?:=by rw[tL]
 rw[e,hc]
 match i,hi with
 |0,_=>rfl
 |1,_=>rfl
 |2,_=>rfl
 |3,_=>rfl
 |4,_=>rfl
 |5,_=>rfl
 |6,_=>rfl
 |7,_=>rfl
 |8,_=>rfl
 |9,_=>rfl
def VQ:List (String×List UInt8):=[("nightwatch/api.ErrText", [110, 105, 103, 104, 116, 119, 97, 116, 99, 104, 58, 32, 116, 101, 120, 116]), ("nightwatch/api.ErrBound", [110, 105, 103, 104, 116, 119, 97, 116, 99, 104, 58, 32, 98, 111, 117, 110, 100]), ("nightwatch/api.ErrShape", [110, 105, 103, 104, 116, 119, 97, 116, 99, 104, 58, 32, 115, 104, 97, 112, 101]), ("nightwatch/api.ErrName", [110, 105, 103, 104, 116, 119, 97, 116, 99, 104, 58, 32, 110, 97, 109, 101]), ("nightwatch/api.ErrNone", [110, 105, 103, 104, 116, 119, 97, 116, 99, 104, 58, 32, 110, 111, 110, 101]), ("nightwatch/api.ErrExist", [110, 105, 103, 104, 116, 119, 97, 116, 99, 104, 58, 32, 101, 120, 105, 115, 116])]
end Go.Proofs.YtgmfhkjghmdgiaaGreatDoor
namespace Go.Proofs.YtgmfhkjghmdgiaaGreatDoor
open Go.RowKit Go.Extern.Stop Go.Stop Go.Extern
structure aM where
 bytes:List UInt8
 size:Nat
 written:Nat
 off:Bool
 cut:Bool
 left:Nat
def mC(x:UInt8):ar:=U .u8 (x.toNat:Int)
def aM.tail(s:aM):List ar:=[U R (s.size:Int),U R (s.written:Int),aI s.off,aI s.cut,U R (s.left:Int)]
def aM.row(s:aM):Array ar:=(s.bytes.map mC++s.tail).toArray
structure bY(w:ai)(b:Nat)(s:aM):Prop where
 heap:w.heap[b]?=J (au s.row 103 (0,0))
 len:s.bytes.length=4096
 size:s.size<=4096
theorem bY.lt{w:ai}{b:Nat}{s:aM}(h:bY w b s):b<w.heap.size:=bJ h.heap
theorem bY.cell{w:ai}{b:Nat}{s:aM}(h:bY w b s)(i:Nat):w.cell? ⟨b,i,I⟩=s.row[i]?:=by
 simp[World.cell?,h.heap]
theorem bY.frozen{w:ai}{b:Nat}{s:aM}(h:bY w b s)(i:Nat):w.frozen? ⟨b,i,I⟩=false:=by
 simp[World.frozen?,h.heap]
theorem aM.VR(s:aM)(i:Nat)(hi:i<s.bytes.length):s.row[i]?=J (mC s.bytes[i]):=by
 unfold aM.row;simp[mX,hi]
theorem aM.Bj(s:aM)(hl:s.bytes.length=4096)(i:Nat):s.row[4096+i]?=s.tail[i]?:=by
 unfold aM.row;rw[List.getElem?_toArray,ko (by simp[hl])];simp[hl]
theorem bY.byte{w:ai}{b:Nat}{s:aM}(h:bY w b s)(i:Nat)(hi:i<4096):w.cell? ⟨b,i,I⟩=J (U .u8 ((s.bytes[i]'(by rw[h.len];exact hi)).toNat:Int)):=by
 rw[h.cell,aM.VR s i (by rw[h.len];exact hi)];rfl
theorem bY.c0{w:ai}{b:Nat}{s:aM}(h:bY w b s):w.cell? ⟨b,4096,I⟩=J (U R (s.size:Int)):=by
 rw[h.cell,aM.Bj s h.len 0];rfl
theorem bY.c1{w:ai}{b:Nat}{s:aM}(h:bY w b s):w.cell? ⟨b,4097,I⟩=J (U R (s.written:Int)):=by
 rw[h.cell,aM.Bj s h.len 1];rfl
theorem bY.c2{w:ai}{b:Nat}{s:aM}(h:bY w b s):w.cell? ⟨b,4098,I⟩=J (aI s.off):=by
 rw[h.cell,aM.Bj s h.len 2];rfl
theorem bY.c3{w:ai}{b:Nat}{s:aM}(h:bY w b s):w.cell? ⟨b,4099,I⟩=J (aI s.cut):=by
 rw[h.cell,aM.Bj s h.len 3];rfl
theorem bY.c4{w:ai}{b:Nat}{s:aM}(h:bY w b s):w.cell? ⟨b,4100,I⟩=J (U R (s.left:Int)):=by
 rw[h.cell,aM.Bj s h.len 4];rfl
theorem bY.set{w:ai}{b:Nat}{s s':aM}(h:bY w b s)(i:Nat)(v:ar)(hr:s.row.setIfInBounds i v=s'.row)(hl:s'.bytes.length=4096)(hs:s'.size<=4096):bY (w.setCell ⟨b,i,I⟩ v) b s':=by
 refine⟨?_,hl,hs⟩;simp only[World.setCell,dr,h.heap];simp[hr]
theorem Bk(bs:List UInt8)(hl:bs.length=4096)(t:List ar)(i:Nat)(v:ar):(bs.map mC++t).toArray.setIfInBounds (4096+i) v=(bs.map mC++t.set i v).toArray:=by
 rw[List.setIfInBounds_toArray,yQ _ _ (by simp[hl])];simp[hl]
theorem bY.Mw{w:ai}{b:Nat}{s:aM}(h:bY w b s)(n:Nat):bY (w.setCell ⟨b,4097,I⟩ (U R (n:Int))) b { s with written:=n }:=
 h.set _ _ (Bk s.bytes h.len s.tail 1 _) h.len h.size
theorem bY.Mx{w:ai}{b:Nat}{s:aM}(h:bY w b s)(v:Bool):bY (w.setCell ⟨b,4098,I⟩ (aI v)) b { s with off:=v }:=
 h.set _ _ (Bk s.bytes h.len s.tail 2 _) h.len h.size
theorem bY.My{w:ai}{b:Nat}{s:aM}(h:bY w b s)(v:Bool):bY (w.setCell ⟨b,4099,I⟩ (aI v)) b { s with cut:=v }:=
 h.set _ _ (Bk s.bytes h.len s.tail 3 _) h.len h.size
theorem bY.nU{w:ai}{b:Nat}{s:aM}(h:bY w b s)(n:Nat):bY (w.setCell ⟨b,4100,I⟩ (U R (n:Int))) b { s with left:=n }:=
 h.set _ _ (Bk s.bytes h.len s.tail 4 _) h.len h.size
theorem bY.qR{w:ai}{b:Nat}{s:aM}(h:bY w b s)(i:Nat)(hi:i<4096)(x:UInt8):bY (w.setCell ⟨b,i,I⟩ (U .u8 (x.toNat:Int))) b { s with bytes:=s.bytes.set i x }:=by
 refine h.set _ _ ?_ (by simp[h.len]) h.size;unfold aM.row;rw[List.setIfInBounds_toArray,List.set_append_left _ _ (by simp[h.len,hi]),List.map_set];rfl
theorem bY.below{w w':ai}{b:Nat}{s:aM}(h:bY w b s)(hb:Below w.heap.size w w'):bY w' b s:=⟨bG hb h.heap,h.len,h.size⟩
theorem ky(w:ai)(r:Option Nat):w.grownBy w r:=⟨rfl,rfl,rfl,aQ _,λ_ _ _=>rfl⟩
theorem pG{a b c:ai}{r:Option Nat}(h:a.grownBy b r)(k:b.grownBy c r):a.grownBy c r:=
 ⟨k.os.trans h.os,k.tape.trans h.tape,k.output.trans h.output,bw h.size k.size,λi hi hn=>(k.block i (eh hi h.size) hn).trans (h.block i hi hn)⟩
theorem gS{a w:ai}{b:Nat}(h:a.grownBy w (J b))(i:Nat)(v:ar):a.grownBy (w.setCell ⟨b,i,I⟩ v) (J b):=
 pG h ⟨rfl,rfl,rfl,by simp[World.setCell],λk _ hn=>tM _ _ _ _ (by simpa using hn)⟩
theorem xr{a w w':ai}{r:Option Nat}(h:a.grownBy w r)(k:Below w.heap.size w w'):a.grownBy w' r:=
 pG h ⟨k.os,k.tape,k.output,k.size,λi hi _=>k.block i hi⟩
structure gT(A:Nat->az)(w:ai):Prop where
 c1:w.cell? ⟨0,0,I⟩=J (.iface 352 (aj (J (A 1))))
 c2:w.cell? ⟨2,0,I⟩=J (.iface 352 (aj (J (A 2))))
 c6:w.cell? ⟨6,0,I⟩=J (.iface 352 (aj (J (A 6))))
 c7:w.cell? ⟨7,0,I⟩=J (.iface 352 (aj (J (A 7))))
theorem gT.below{A:Nat->az}{w w':ai}(h:gT A w)(hb:Below w.heap.size w w'):gT A w':=
 ⟨aG hb h.c1,aG hb h.c2,aG hb h.c6,aG hb h.c7⟩
theorem gT.grown{A:Nat->az}{w w':ai}{b:Nat}(h:gT A w)(k:w.grownBy w' (J b))(hb:8<=b):gT A w':=by
 have hc:∀{g:Nat} {v:ar},g<8->w.cell? _=J v->w'.cell? ⟨g,0,I⟩=J v:=λ{g v} hg e=>
  (qj (k.block g (fY e) (by intro e2;cases e2;omega))).trans e
 exact⟨hc (by omega) h.c1,hc (by omega) h.c2,hc (by omega) h.c6,hc (by omega) h.c7⟩
def zeros(n:Nat):List UInt8:=List.replicate n 0
theorem GL(n:Nat):(zeros n).length=n:=List.length_replicate
def aM.new(n:Nat):aM:=⟨zeros 4096,n,0,false,false,0⟩
theorem VS:zeroCells103=(aM.new 0).row:=by kernel_rfl
theorem VT(n:Nat):zeroCells103.setIfInBounds 4096 (U R (n:Int))=(aM.new n).row:=by
 rw[VS];exact Bk _ (GL _) _ 0 _
theorem VU(n:Nat)(w:ai)(h1:n<=4096):Calls prog 20 #[U R (n:Int)] w λe w'=>e=ax (bn #[aj (J ⟨w.heap.size,0,I⟩),.nilIface])/\Below w.heap.size w w'/\bY w' w.heap.size (aM.new n)/\w'.heap.size=w.heap.size+1:=by
 have g1:¬(n:Int)<0:=by omega
 have g2:¬4096<(n:Int):=by omega
 go_enter func20,ntmps20
 go_wp2;go_ret2
 refine⟨rfl,(aC _ _).alloc (aQ _) _,⟨?_,GL _,h1⟩,by simp⟩;rw[VT];show (w.heap.push _)[w.heap.size]?=_
 simp
theorem VV(b:Nat)(s:aM)(w:ai)(h:bY w b s):Calls prog 80 #[aj (J ⟨b,0,I⟩)] w λe w'=>e=ax (aI (!s.off))/\w'=w:=by
 have c2:=h.c2;go_enter func80,ntmps80
 go_wp2;go_ret;exact⟨rfl,rfl⟩
theorem VW(b:Nat)(s:aM)(w:ai)(h:bY w b s):Calls prog 72 #[aj (J ⟨b,0,I⟩)] w λe w'=>e=ax (bn #[])/\bY w' b { s with off:=false,cut:=false,left:=0 }/\w.grownBy w' (J b)/\w'.heap.size=w.heap.size:=by
 have c2:=h.c2;have c3:=h.c3;have c4:=h.c4;have f2:=h.frozen 4098;have f3:=h.frozen 4099;have f4:=h.frozen 4100;go_enter func72,ntmps72
 go_wp2;go_end0
 exact⟨rfl,((h.Mx _).My _).nU 0,gS (gS (gS (ky _ _) _ _) _ _) _ _,by simp⟩
def errVal(A:Nat->az):Nat->ar
 |0=>.nilIface
 |i+1=>.iface 352 (aj (J (A i)))
def aM.err(s:aM)(p n:Int):Nat:=if p<0\/n<0\/(s.size:Int)-p<n then 2 else if s.off=true then 8 else 0
theorem D2(A:Nat->az)(b:Nat)(s:aM)(p n:Int)(w:ai)(h:bY w b s)(hs:gT A w)(hp:p<=9223372036854775807):Calls prog 249 #[aj (J ⟨b,0,I⟩),U R p,U R n] w λe w'=>e=ax (errVal A (s.err p n))/\w'=w:=by
 have c0:=h.c0;have c2:=h.c2;have g1:=hs.c1;have g7:=hs.c7;have hz:=h.size;clear h hs
 by_cases h1:p<0
 ·have E:aa (s.err p n=2):=aR (a_ h1);go_enter func249,ntmps249
  go_wp2;go_ret;rw[E.o];exact⟨rfl,rfl⟩
 by_cases h2:n<0
 ·have E:aa (s.err p n=2):=aR (aP (a_ h2));go_enter func249,ntmps249
  go_wp2;go_ret;rw[E.o];exact⟨rfl,rfl⟩
 by_cases h3:(s.size:Int)-p<n
 ·have E:aa (s.err p n=2):=aR (aP (aP h3));go_enter func249,ntmps249
  go_wp2;go_ret;rw[E.o];exact⟨rfl,rfl⟩
 have hno:¬(p<0\/n<0\/(s.size:Int)-p<n):=by omega
 cases ho:s.off
 ·have E:aa (s.err p n=0):=by unfold aM.err;rw[aK hno,ho];rfl
  clear hno;go_enter func249,ntmps249
  go_wp2;go_ret;rw[E.o];exact⟨rfl,rfl⟩
 have E:aa (s.err p n=8):=by unfold aM.err;rw[aK hno,ho];rfl
 clear hno;go_enter func249,ntmps249
 go_wp2;go_ret;rw[E.o];exact⟨rfl,rfl⟩
theorem VX(A:Nat->az)(b:Nat)(s:aM)(p:Int)(x:UInt8)(w:ai)(h:bY w b s)(hs:gT A w)(hb:8<=b)(h1:s.cut=true)(h2:s.left=0):Calls prog 286 #[aj (J ⟨b,0,I⟩),U R p,U .u8 (x.toNat:Int)] w λe w'=>e=ax (errVal A 8)/\bY w' b { s with off:=true }/\w.grownBy w' (J b)/\w'.heap.size=w.heap.size:=by
 have c2:=h.c2;have c3:=h.c3;have c4:=h.c4;have f2:=h.frozen 4098;have g7:=hs.c7;have hne:¬b=7:=by omega
 rw[h1]at c3;rw[h2]at c4;go_enter func286,ntmps286
 go_wp2;go_ret;exact⟨rfl,h.Mx _,gS (ky _ _) _ _,by simp⟩
def aM.put(s:aM)(p:Nat)(x:UInt8):aM:={ s with bytes:=s.bytes.set p x,written:=s.written+1,left:=if s.cut then s.left-1 else s.left }
theorem VY(b:Nat)(s:aM)(p:Nat)(x:UInt8)(w:ai)(h:bY w b s)(hp:p<4096)(hw:s.written<=1099511627776)(hl:s.left<=9223372036854775807)(h1:s.cut=true->0<s.left):Calls prog 286 #[aj (J ⟨b,0,I⟩),U R (p:Int),U .u8 (x.toNat:Int)] w λe w'=>e=ax .nilIface/\bY w' b (s.put p x)/\w.grownBy w' (J b)/\w'.heap.size=w.heap.size:=by
 have c1:=h.c1;have c3:=h.c3;have c4:=h.c4;have cb:=h.byte p hp;have f1:=h.frozen 4097;have f4:=h.frozen 4100;have fb:=h.frozen p;have ew:((s.written+1:Nat):Int)=(s.written:Int)+1:=by omega
 cases hc:s.cut
 ·rw[hc]at c3;have jA:=(h.qR p hp x).Mw (s.written+1);have e:({ s with bytes:=s.bytes.set p x,written:=s.written+1 }:aM)=s.put p x:=by simp[aM.put,hc]
  simp only[]at jA;rw[hc]at e;rw[ew,hc,e]at jA;clear e hc h1;go_enter func286,ntmps286
  go_wp2;go_ret;exact⟨rfl,jA,gS (gS (ky _ _) _ _) _ _,by simp⟩
 have y_:=h1 hc;have el:((s.left-1:Nat):Int)=(s.left:Int)-1:=by omega
 have hnz:((s.left:Int)==0)=false:=by rw[iZ];omega
 have jA:=((h.nU (s.left-1)).qR p hp x).Mw (s.written+1);have e:({ s with bytes:=s.bytes.set p x,written:=s.written+1,left:=s.left-1 }:aM)=s.put p x:=by simp[aM.put,hc]
 simp only[]at jA;rw[hc]at e;rw[el,ew,hc,e]at jA;rw[hc]at c3;clear e hc h1;go_enter func286,ntmps286
 go_wp2;go_ret;exact⟨rfl,jA,gS (gS (gS (ky _ _) _ _) _ _) _ _,by simp⟩
def aM.cQ(s:aM)(p:Nat):List UInt8->aM
 |[]=>s
 |x::r=>(s.put p x).cQ (p+1) r
theorem aM.VZ(l:List UInt8)(x:UInt8):∀(s:aM) (p:Nat),s.cQ p (l++[x])=(s.cQ p l).put (p+l.length) x:=by
 induction l with
 |nil=>intro s p;rfl
 |cons y r ih=>intro s p;simp only[px,aM.cQ,ih,kr];congr 1;omega
theorem aM.V6(l:List UInt8):∀(s:aM) (p:Nat),(s.cQ p l).cut=s.cut:=by
 induction l with
 |nil=>intro s p;rfl
 |cons y r ih=>intro s p;simp only[aM.cQ,ih];rfl
theorem aM.GM(l:List UInt8):∀(s:aM) (p:Nat),(s.cQ p l).off=s.off:=by
 induction l with
 |nil=>intro s p;rfl
 |cons y r ih=>intro s p;simp only[aM.cQ,ih];rfl
theorem aM.GN(l:List UInt8):∀(s:aM) (p:Nat),(s.cQ p l).size=s.size:=by
 induction l with
 |nil=>intro s p;rfl
 |cons y r ih=>intro s p;simp only[aM.cQ,ih];rfl
theorem aM.Bl(l:List UInt8):∀(s:aM) (p:Nat),(s.cQ p l).written=s.written+l.length:=by
 induction l with
 |nil=>intro s p;rfl
 |cons y r ih=>intro s p;simp only[aM.cQ,ih,kr];show s.written+1+r.length=_;omega
theorem aM.Bn(l:List UInt8):∀(s:aM) (p:Nat),(s.cQ p l).left=if s.cut then s.left-l.length else s.left:=by
 induction l with
 |nil=>intro s p;simp[aM.cQ]
 |cons y r ih=>
  intro s p;simp only[aM.cQ,ih,kr]
  cases hc:s.cut<;>simp[aM.put,hc]
  omega
theorem aM.V7(l:List UInt8):∀(s:aM) (p:Nat),p+l.length<=s.bytes.length->(s.cQ p l).bytes=s.bytes.take p++l++s.bytes.drop (p+l.length):=by
 induction l with
 |nil=>intro s p h;simp[aM.cQ]
 |cons y r ih=>
  intro s p h;simp only[kr]at h;have e:=ih (s.put p y) (p+1) (by simp[aM.put];omega);simp only[aM.cQ,e,kr];have h1:(s.put p y).bytes=s.bytes.set p y:=rfl;have GP:s.bytes.set p y=s.bytes.take p++y::s.bytes.drop (p+1):=by rw[List.set_eq_take_append_cons_drop,aR (by omega)]
  have tS:(s.bytes.take p).length=p:=by rw[gy];omega
  have e1:p+1-p=1:=by omega
  have e2:p+1+r.length-p=r.length+1:=by omega
  have e3:p+1+r.length=p+(r.length+1):=by omega
  have t1:(s.bytes.take p++y::s.bytes.drop (p+1)).take (p+1)=s.bytes.take p++[y]:=by
   rw[List.take_append,tS,e1,nQ (l:=s.bytes.take p) (by rw[tS];omega)];rfl
  have t0:(s.bytes.take p).drop (p+1+r.length)=[]:=rY (by rw[tS];omega);have t2:(s.bytes.take p++y::s.bytes.drop (p+1)).drop (p+1+r.length)=s.bytes.drop (p+1+r.length):=by
   rw[List.drop_append,tS,e2,t0,List.drop_succ_cons,List.drop_drop];rfl
  rw[h1,GP,t1,t2,e3];simp
def aM.write(s:aM)(p:Nat)(l:List UInt8):aM×Nat:=
 if s.cut=true/\s.left<l.length then ({ s.cQ p (l.take s.left)with off:=true },8)else (s.cQ p l,0)
theorem Mz(s:ByteArray)(k:Nat)(h:k<s.size):s.data.toList.take (k+1)=s.data.toList.take k++[s[k]]:=by
 rw[List.take_succ_eq_append_getElem (by simpa using h)];rfl
theorem V8(A:Nat->az)(b:Nat)(s:aM)(p:Nat)(t:ByteArray)(w:ai)(h:bY w b s)(hs:gT A w)(hb:8<=b)(hw:s.written+t.size<=1099511627776)(hl:s.left<=9223372036854775807)(he:s.err p t.size=0):Calls prog 279 #[aj (J ⟨b,0,I⟩),U R (p:Int),aq t] w λe w'=>e=ax (errVal A (s.write p t.data.toList).2)/\bY w' b (s.write p t.data.toList).1/\w.grownBy w' (J b)/\w'.heap.size=w.heap.size:=by
 have vD:p+t.size<=s.size:=by
  unfold aM.err at he
  split at he
  ·cases he
  omega
 have hz:=h.size;have HE:aa _:=he;clear he;go_enter func279,ntmps279
 go_wp2_with fail
 refine(D2 A b s p _ _ h hs (by omega)).mono ?_;rintro e w1 ⟨rfl,rfl⟩;rw[HE.o];unfold errVal;go_wp2_with fail
 go_loopw [20] (λi wr=>∃k:Nat,k<=t.size/\i=U R k/\(s.cut=true->k<=s.left)/\bY wr b (s.cQ p (t.data.toList.take k))/\w1.grownBy wr (J b)/\wr.heap.size=w1.heap.size) (λi _=>t.size-(intOf i).toNat)
 case atStart=>exact⟨0,bI _,rfl,λ_=>bI _,h,ky _ _,rfl⟩
 case round=>
  obtain⟨k,hk,rfl,hcut,hat,hg,hsz⟩:=hrel;have hlen:(t.data.toList.take k).length=k:=by rw[gy];simp;omega
  have xt:=aM.Bn (t.data.toList.take k) s p;have jT:=aM.V6 (t.data.toList.take k) s p;have hwr:=aM.Bl (t.data.toList.take k) s p;rw[hlen]at xt hwr
  by_cases hlt:k<t.size
  ·by_cases jr:s.cut=true/\s.left=k
   ·have hs':=hs.grown hg hb;have e1:=jT.trans jr.1;have e2:(s.cQ p (t.data.toList.take k)).left=0:=by rw[xt,aR jr.1];omega
    have E:aa (s.write p t.data.toList=({ s.cQ p (t.data.toList.take k)with off:=true },8)):=by
     show s.write p _=_
     unfold aM.write;rw[aR ⟨jr.1,by simp;omega⟩,jr.2]
    have E1:aa _:=e1;have E2:aa _:=e2;clear hs xt jT hwr hcut hlen jr e1 e2 hl hw;go_wp2_with fail
    refine(VX A b _ _ _ _ hat hs' hb E1 E2).mono ?_;rintro e w2 ⟨rfl,vF,hg2,GQ⟩;unfold errVal;go_wp2;go_ret;rw[E.o];exact⟨rfl,vF,pG hg hg2,by rw[GQ,hsz]⟩
   have hw2:(s.cQ p (t.data.toList.take k)).written<=1099511627776:=by rw[hwr];omega
   have hl2:(s.cQ p (t.data.toList.take k)).left<=9223372036854775807:=by rw[xt];split<;>omega
   have H1:aa ((s.cQ p (t.data.toList.take k)).cut=true->0<(s.cQ p (t.data.toList.take k)).left):=λhc=>by
    rw[jT]at hc;have h1:=hcut hc;have h2:s.left≠k:=λe=>jr ⟨hc,e⟩
    rw[xt,aR hc];omega
   have HC:aa (s.cut=true->k+1<=s.left):=λhc=>by
    have h1:=hcut hc;have h2:s.left≠k:=λe=>jr ⟨hc,e⟩
    omega
   have HP:aa (s.cQ p (t.data.toList.take (k+1))=(s.cQ p (t.data.toList.take k)).put (p+k) t[k]):=by
    show _=_
    rw[Mz t k hlt,aM.VZ,hlen]
   have EP:aa ((p:Int)+(k:Int)=((p+k:Nat):Int)):=by show _=_;omega
   clear xt jT hwr hcut hlen jr hl hs;go_wp2_with fail
   rw[EP.o]
   refine(VY b _ _ _ _ hat (by omega) hw2 hl2 H1.o).mono ?_;rintro e w2 ⟨rfl,vF,hg2,GQ⟩;go_wp2;go_roundw
   case rel=>exact⟨_,by omega,by go_num,HC.o,by rw[HP.o];exact vF,pG hg hg2,by rw[GQ,hsz]⟩
   case measure=>simp[intOf];omega
  have ek:k=t.size:=by omega
  have E:aa (s.write p t.data.toList=(s.cQ p (t.data.toList.take k),0)):=by
   show _=_
   unfold aM.write;rw[aK (by rintro⟨a,b⟩;have:=hcut a;simp at b;omega),nQ (by simp;omega)]
  clear xt jT hwr hcut hlen ek;go_wp2;go_ret;rw[E.o];exact⟨rfl,hat,hg,hsz⟩
theorem V9(A:Nat->az)(b:Nat)(s:aM)(p:Int)(t:ByteArray)(j:Nat)(w:ai)(h:bY w b s)(hs:gT A w)(hp:p<=9223372036854775807)(he:s.err p t.size=j+1):Calls prog 279 #[aj (J ⟨b,0,I⟩),U R p,aq t] w λe w'=>e=ax (errVal A (j+1))/\w'=w:=by
 have HE:aa _:=he;clear he;go_enter func279,ntmps279
 go_wp2_with fail
 refine(D2 A b s p _ _ h hs hp).mono ?_;rintro e w1 ⟨rfl,rfl⟩;rw[HE.o];unfold errVal;go_wp2;go_ret;exact⟨rfl,rfl⟩
theorem V_(b:Nat)(s:aM)(n:Nat)(w:ai)(h:bY w b s)(ho:s.off=false):Calls prog 32 #[aj (J ⟨b,0,I⟩),U R (n:Int)] w λe w'=>e=ax .nilIface/\bY w' b { s with cut:=true,left:=n }/\w.grownBy w' (J b)/\w'.heap.size=w.heap.size:=by
 have c2:=h.c2;have c3:=h.c3;have c4:=h.c4;have f3:=h.frozen 4099;have f4:=h.frozen 4100;have g0:¬(n:Int)<0:=by omega
 rw[ho]at c2;have jA:=(h.My true).nU n;clear h ho;go_enter func32,ntmps32
 go_wp2;go_ret;exact⟨rfl,jA,gS (gS (ky _ _) _ _) _ _,by simp⟩
theorem Wa(A:Nat->az)(b:Nat)(n:Int)(w:ai)(hs:gT A w)(hn:n<0):Calls prog 32 #[aj (J ⟨b,0,I⟩),U R n] w λe w'=>e=ax (errVal A 2)/\w'=w:=by
 have g1:=hs.c1;go_enter func32,ntmps32
 go_wp2;go_ret;exact⟨rfl,rfl⟩
theorem Wb(A:Nat->az)(b:Nat)(s:aM)(n:Int)(w:ai)(h:bY w b s)(hs:gT A w)(hn:¬n<0)(ho:s.off=true):Calls prog 32 #[aj (J ⟨b,0,I⟩),U R n] w λe w'=>e=ax (errVal A 8)/\w'=w:=by
 have g7:=hs.c7;have c2:=h.c2;rw[ho]at c2;go_enter func32,ntmps32
 go_wp2;go_ret;exact⟨rfl,rfl⟩
theorem Wd:prog.underlying 101=J (.array (prog.arrayLen 101) (prog.elem 101)):=by kernel_rfl
theorem MA:prog.arrayLen 101=4096:=by kernel_rfl
theorem We(W:ai):(sizeOf (prog.elem 101)).run prog W=.ok 1 W:=by kernel_rfl
theorem Wf(b p q:Nat)(hp:p<=q)(hq:q<=4096)(W:ai):∃a c,(Instr.sliceAt 101 (aj (J ⟨b,0,I⟩)) (J (U R (p:Int))) (J (U R (q:Int))) I).run prog W=.ok (af (J a) (q-p) c) W/\(a=⟨b,p,I⟩\/p=4096):=by
 refine⟨if 4096=p then ⟨b,0,I⟩else (⟨b,0,I⟩:az).add p,4096-p,?_,?_⟩
 ·rw[run_sliceAt_array_lh W _ _ Wd R R _ _ (by omega) (by omega) (by rw[MA];omega),We,MA];simp[slicedAt]
 by_cases h:4096=p
 ·exact aP h.symm
 left;rw[aK h];unfold Addr.add;split<;>simp_all
theorem Wh(b:Nat)(s:aM)(p n c:Nat)(w:ai)(h:bY w b s)(hf:p+n<=4096):(convert 182 9 (af (J ⟨b,p,I⟩) n c)).run prog w=.ok (aq ⟨((s.bytes.drop p).take n).toArray⟩) w:=by
 have hl:((s.bytes.drop p).take n).length=n:=by rw[gy,List.length_drop,h.len];omega
 have:=run_convert_bytes_back (P:=prog) w 182 9 5 ⟨b,p,I⟩ c ((s.bytes.drop p).take n) underlying182 underlying5 underlying9 (λj hj=>by
  have hj':j<n:=by rw[hl]at hj;exact hj
  have e:=h.byte (p+j) (by omega);have ea:(⟨b,p,I⟩:az).add j=⟨b,p+j,I⟩:=by unfold Addr.add;split<;>simp_all
  rw[ea,e];simp)
 rw[hl]at this;exact this
theorem Wi(a:az)(c:Nat)(w:ai):(convert 182 9 (af (J a) 0 c)).run prog w=.ok (aq ⟨#[]⟩) w:=
 run_convert_bytes_back (P:=prog) w 182 9 5 a c [] underlying182 underlying5 underlying9 (λj hj=>by simp at hj)
theorem MB(A:Nat->az)(b:Nat)(s:aM)(p n:Nat)(w:ai)(h:bY w b s)(hs:gT A w)(he:s.err p n=0):Calls prog 211 #[aj (J ⟨b,0,I⟩),U R (p:Int),U R (n:Int)] w λe w'=>e=ax (bn #[aq ⟨((s.bytes.drop p).take n).toArray⟩,.nilIface])/\w'=w:=by
 have vD:p+n<=s.size:=by
  unfold aM.err at he
  split at he
  ·cases he
  omega
 have hz:=h.size;have HE:aa _:=he;clear he;obtain⟨a,c,sl,ha⟩:=Wf b p (p+n) (by omega) (by omega) w;have en:p+n-p=n:=by omega
 have ep:((p+n:Nat):Int)=(p:Int)+(n:Int):=by omega
 rw[en,ep]at sl;have cv:(convert 182 9 (af (J a) n c)).run prog w=.ok (aq ⟨((s.bytes.drop p).take n).toArray⟩) w:=by
  rcases ha with rfl|hp
  ·exact Wh b s p n c w h (by omega)
  have hn:n=0:=by omega
  subst hn;rw[Wi];simp
 clear ep en ha;go_enter func211,ntmps211
 go_wp2_with fail
 refine(D2 A b s p n _ h hs (by omega)).mono ?_;rintro e w1 ⟨rfl,rfl⟩;rw[HE.o];unfold errVal;go_wp2;go_ret2
 exact⟨rfl,rfl⟩
theorem MC(A:Nat->az)(b:Nat)(s:aM)(p n:Int)(j:Nat)(w:ai)(h:bY w b s)(hs:gT A w)(hp:p<=9223372036854775807)(he:s.err p n=j+1):Calls prog 211 #[aj (J ⟨b,0,I⟩),U R p,U R n] w λe w'=>e=ax (bn #[aq ⟨#[]⟩,errVal A (j+1)])/\w'=w:=by
 have HE:aa _:=he;clear he;go_enter func211,ntmps211
 go_wp2_with fail
 refine(D2 A b s p n _ h hs hp).mono ?_;rintro e w1 ⟨rfl,rfl⟩;rw[HE.o];unfold errVal;go_wp2;go_ret2
 exact⟨rfl,rfl⟩
end Go.Proofs.YtgmfhkjghmdgiaaGreatDoor
