/-
  Several texts as one: Is, Bas, As, Code0, CfMem0, CfMem, Shelf, CfWord, LdBase, CfCopy, CfOwn, CfOwnC, CfNamP, CfName, OrdA, Orders2, Orders, Ops, CfFirst, CfCfg, CfNames, CfFirstS, CfAny, CfLacks, EqPair, CfTwice, CfTwo, CfSize, CfPart1, CfPart2, CfRuled, CfEnt, CfCheck, CfHeavy, SdBare, LmA, LmB, LfA, LfB.
-/
import Derived.Test.YtjjodkjbmgnbeaaGreatDoorP00S
import Derived.WalkKit
import Derived.LaidEql
import Derived.Stop.Asserts
import Derived.RowKitTokens
import Derived.Outline
import Derived.BigQuiet
import Derived.Deep.QuietTactic
import Derived.Deep.DeepCutAuto
import Derived.WalkSmall
import Derived.Lib.OthersKept
import Derived.Lib.AppendStr
import Derived.Lib.UnsafeStr
import Derived.Lib.Builder
import Derived.Laws.Externs
import Derived.BigRegion
import Derived.Shelf.LaysM
import Derived.Shelf.Strconv.Itoa3
import Derived.Shelf.Strings.SplitShaped
import Derived.Shelf.Strings.Prefix
import Derived.Deep.RegionHeld3
import Derived.Test.YtjjodkjbmgnbeaaGreatDoorRows
import Derived.Lib.LaidTab
import Derived.LaidLaws
import Derived.LaidHandle
import Derived.LaidMore
import Derived.Deep.Upon
import Derived.Laws.Tables
import Derived.Laws.Rows
import Derived.Lib.ConvBytes
import Derived.Lib.BufferWrite
import Derived.Orders
import Derived.Laws.EntriesVeiled
import Derived.Shelf.Abstract
import Derived.Maps.OwnSet
import Derived.StringKeys
import Derived.Laws.StructEq
import Derived.Conc.CrowdTrace
import Derived.Conc.TokenTrace
import Derived.Calls
import Derived.Conc.Events
set_option linter.all false
set_option maxHeartbeats 40000000
set_option maxRecDepth 100000
def Go.RowKit.Hid.o{p:Prop}(h:Go.RowKit.Hid p):p:=h
abbrev aD:=@of_decide_eq_true
abbrev bD.{u}:=@Array.getElem?_eq_some_iff.{u}
abbrev aC:=@Go.RowKit.Below.refl
abbrev bL.{u}:=@List.getElem?_eq_getElem.{u}
abbrev aR:=@Nat.le_refl
abbrev bU.{u}:=@Array.mem_of_getElem?.{u}
abbrev bC.{u}:=@Option.getD_some.{u}
abbrev bz:=@decide_eq_true
abbrev eB.{u}:=@Array.getElem?_eq_getElem.{u}
abbrev bX:=@decide_eq_false
abbrev b_.{u}:=@Option.some.inj.{u}
abbrev bH:=@Nat.le_trans
abbrev bw:=@Go.Calls.mono
abbrev fE:=@Go.World.cell?_alloc_at
abbrev fR.{u}:=@Array.getElem?_modify.{u}
abbrev cB:=@Go.below_drewN
abbrev cG:=@Nat.zero_le
abbrev jz.{u,v}:=@Option.map_eq_some_iff.{u,v}
abbrev jc:=@Go.World.cell?_of_block
abbrev iR:=@Go.run_callFunc_extern
abbrev gQ.{u}:=@Option.some.injEq.{u}
abbrev eC:=@Nat.lt_or_ge
abbrev lM.{u}:=@List.drop_eq_getElem_cons.{u}
abbrev kD:=@Go.World.cell?_alloc_lt
abbrev nu.{u}:=@List.getD_eq_getElem?_getD.{u}
abbrev iT.{u,v}:=@List.getElem?_map.{u,v}
abbrev im:=@Nat.not_lt_zero
abbrev jd:=@decide_eq_decide
abbrev kE:=@Go.World.ownsRow_nil
abbrev pD.{u}:=@Array.getD_eq_getD_getElem?.{u}
abbrev pE.{u}:=@List.getElem?_append_right.{u}
abbrev lN.{u}:=@beq_eq_false_iff_ne.{u}
abbrev ny.{u}:=@List.getElem?_eq_none.{u}
abbrev kS:=@Bool.and_eq_true
abbrev qC.{u}:=@List.getElem?_append_left.{u}
abbrev oI.{u}:=@Array.getElem?_toList.{u}
abbrev sN.{u}:=@List.eq_nil_of_length_eq_zero.{u}
abbrev mB.{u}:=@List.all_eq_true.{u}
abbrev pF:=@Go.Calls.quiet_of_same
abbrev oJ.{u,v}:=@Array.getElem?_map.{u,v}
abbrev n7.{u}:=@List.mem_toArray.{u}
abbrev kT:=@Go.Sem.run_bind
abbrev qD.{u}:=@Array.length_toList.{u}
abbrev sO.{u}:=@Array.getElem?_eq_none.{u}
abbrev oK:=@Go.World.var?_cell
abbrev qE.{u}:=@List.take_add_one.{u}
abbrev ru.{u}:=@List.getElem?_take.{u}
abbrev pG:=@List.mem_range
abbrev iI:=@or_false
abbrev xG.{u}:=@Array.getElem?_append_right.{u}
abbrev vZ.{u}:=@List.getElem?_cons_zero.{u}
abbrev sP.{u}:=@List.length_append.{u}
abbrev sQ:=@Go.Result.andThen_ok
abbrev uC:=@Bool.false_eq_true
abbrev iU.{u,v}:=@congrArg.{u,v}
abbrev pH:=@Nat.zero_add
abbrev v_.{u}:=@List.mem_cons_of_mem.{u}
abbrev qF:=@Nat.add_zero
abbrev sR.{u}:=@List.length_nil.{u}
abbrev wa.{u}:=@Array.getElem?_push.{u}
abbrev xH.{u}:=@Array.mem_iff_getElem.{u}
abbrev uD:=@Go.Obj.cells.injEq
abbrev j5.{u}:=@if_false.{u}
abbrev wh:=@Nat.lt_succ_self
abbrev pJ.{u,v}:=@List.mem_map.{u,v}
abbrev wj.{u,v}:=@List.flatMap_cons.{u,v}
abbrev wq.{u}:=@List.any_eq_false.{u}
abbrev wu.{u}:=@List.length_cons.{u}
abbrev xI:=@Bool.not_eq_true
abbrev xJ.{u}:=@List.mem_cons_self.{u}
abbrev Bt:=@Go.run_typeAssert_lacksB
abbrev uF:=@Go.Sem.run_pure
abbrev zL.{u}:=@List.getElem_of_mem.{u}
abbrev sS:=@Go.RowKit.Below.alloc
abbrev xK:=@Nat.add_assoc
abbrev Bu.{u}:=@List.mem_append_left.{u}
abbrev DV:=@Go.World.frozen?_alloc_old
abbrev wz.{u,v}:=@List.map_cons.{u,v}
abbrev wA:=@Go.rounds_succ
abbrev GL.{u,v}:=@Std.Legacy.Range.forIn_eq_forIn_range'.{u,v}
open Go renaming Addr→av,Value→aj,World→ah
open Go.Addr renaming mk→ar
open Go.Ending renaming returned→aH
open Go.IntKind renaming i64→I
open Go.Obj renaming cells→ay
open Go.RowKit renaming Hid→ag
open Go.Value renaming agg→a_,bool→aJ,int→af,ownBlock→mC,pointer→ax,slice→ak,string→aB,tuple→aX
open Go.World renaming cell?→aL
open Option renaming none→J,some→U
open Go.Proofs.Tryz
namespace Go.Proofs.YtjjodkjbmgnbeaaGreatDoor
open Go.Extern Go.Extern.Stop Go.RowKit Go.Stop
variable{A:Nat->av}{a:av}{k:Nat}{w w':ah}
def Bv(v:aj)(w:ah):(Extern.ReflectliteType.typeOf #[.iface 238 v]).run prog w=.ok (.iface 176 (a_ #[ax (U (ar 16 238 J))])) w:=by kernel_rfl
def Bw:Array aj→Sem aj:=Extern.ReflectliteType.method λt=>do Rtype.noPackHeld "Comparable" t; pure (aJ (← typeInfo t).comparable)
def DW(w:ah):(Bw #[a_ #[ax (U (ar 16 238 J))]]).run prog w=.ok (aJ true) w:=by kernel_rfl
def DX(v:aj) (w:ah):(Go.method 370 176 v "Comparable").run prog w=.ok (189, v) w:=by kernel_rfl
def Bx:(prog.info? 238).map (·.comparable)=U true:=by kernel_rfl
def Bz:(prog.info? 259).map (·.size)=U 1:=by kernel_rfl
def LI(v:aj)(xT:TypeId)(w:ah):(Instr.typeAssert (.iface 238 v) xT 187 true).run prog w=.ok (aX #[.nilIface,aJ false]) w:=Bt underlying187 (by kernel_rfl) (by kernel_rfl) v xT w
def GM(v:aj)(xT:TypeId)(w:ah):(Instr.typeAssert (.iface 238 v) xT 183 true).run prog w=.ok (aX #[.nilIface,aJ false]) w:=Bt underlying183 (by kernel_rfl) (by kernel_rfl) v xT w
def GN(v:aj)(xT:TypeId)(w:ah):(Instr.typeAssert (.iface 238 v) xT 185 true).run prog w=.ok (aX #[.nilIface,aJ false]) w:=Bt underlying185 (by kernel_rfl) (by kernel_rfl) v xT w
def LJ(v:aj)(xT:TypeId)(w:ah):(Instr.typeAssert (.iface 88 v) xT 187 true).run prog w=.ok (aX #[.nilIface,aJ false]) w:=Bt underlying187 (by kernel_rfl) (by kernel_rfl) v xT w
def LK(v:aj)(xT:TypeId)(w:ah):(Instr.typeAssert (.iface 88 v) xT 183 true).run prog w=.ok (aX #[.iface 88 v,aJ true]) w:=run_typeAssert_hasB underlying183 (by kernel_rfl) v xT w
def LL(v:aj) (w:ah):(Go.method 370 88 v "Unwrap").run prog w=.ok (183, v) w:=by kernel_rfl
def TH(a:av)(w:ah):Calls prog 37 #[.iface 238 (ax (U a)),.iface 238 (ax (U a))] w λe w'=>e=aH (aJ true)/\w'=w:=by
 obtain⟨i,hi,ry⟩:=jz.1 Bx;obtain⟨j,hj,xL⟩:=jz.1 Bz;have h8:=@iR _ 74 _ Extern.ReflectliteType.typeOf func74 (by kernel_rfl) (by kernel_rfl) (by kernel_rfl) (by kernel_rfl);have GP:=@iR _ 189 _ Bw func189 (by kernel_rfl) (by kernel_rfl) (by kernel_rfl) (by kernel_rfl);have tT:=Bv;have cT:=DW;have mR:=DX;have heq:=run_eql_iface_ptr_same (P:=prog) w a underlying26 underlying238 hi ry hj;go_enter func37,ntmps37
 go_wp2
 refine wp_loop_rounds 1 ?_;rw[wA];go_wp2;go_ret;exact⟨rfl,rfl⟩
def TI(a b:av)(ca cb:Array aj)(ta tb:TypeId)(w:ah)(hne:a≠b)(ha:w.heap[a.block]?=U (ay ca ta (0,0)))(hb:w.heap[b.block]?=U (ay cb tb (0,0))):Calls prog 37 #[.iface 238 (ax (U a)),.iface 238 (ax (U b))] w λe w'=>e=aH (aJ false)/\w'=w:=by
 obtain⟨i,hi,ry⟩:=jz.1 Bx;obtain⟨j,hj,xL⟩:=jz.1 Bz;have h8:=@iR _ 74 _ Extern.ReflectliteType.typeOf func74 (by kernel_rfl) (by kernel_rfl) (by kernel_rfl) (by kernel_rfl);have GP:=@iR _ 189 _ Bw func189 (by kernel_rfl) (by kernel_rfl) (by kernel_rfl) (by kernel_rfl);have tT:=Bv;have cT:=DW;have mR:=DX;have nE:=LI;have uE:=GM;have vE:=GN;have heq:=run_eql_iface_ptr_other (P:=prog) w underlying26 underlying238 hi ry hj (by rw[xL];decide) hne ha hb;go_enter func37,ntmps37
 go_wp2
 refine wp_loop_rounds 1 ?_;rw[wA];go_wp2;go_ret;exact⟨rfl,rfl⟩
def TJ(pb po:Nat)(b:av)(w:ah)(h1:w.cell? ⟨pb,po+1,J⟩=U (.iface 238 (ax (U b)))):Calls prog 37 #[.iface 88 (ax (U (ar pb po J))),.iface 238 (ax (U b))] w λe w'=>e=aH (aJ true)/\w'=w:=by
 obtain⟨i,hi,ry⟩:=jz.1 Bx;obtain⟨j,hj,xL⟩:=jz.1 Bz;have h8:=@iR _ 74 _ Extern.ReflectliteType.typeOf func74 (by kernel_rfl) (by kernel_rfl) (by kernel_rfl) (by kernel_rfl);have GP:=@iR _ 189 _ Bw func189 (by kernel_rfl) (by kernel_rfl) (by kernel_rfl) (by kernel_rfl);have tT:=Bv;have cT:=DW;have mR:=DX;have nW:=LJ;have uW:=LK;have mU:=LL;have heq:=run_eql_iface_ptr_same (P:=prog) w b underlying26 underlying238 hi ry hj;have BA:=run_eql_iface_types (P:=prog) 88 238 (ax (U (ar pb po J))) (ax (U b)) underlying26 (aD rfl) w;go_enter func37,ntmps37
 go_wp2
 refine wp_loop_rounds 2 ?_;rw[wA];go_wp2;rw[wA];go_wp2;go_ret;exact⟨rfl,rfl⟩
def TL(pb po:Nat)(b a:av)(ca cb:Array aj)(ta tb:TypeId)(w:ah)(h1:w.cell? ⟨pb,po+1,J⟩=U (.iface 238 (ax (U a))))(hne:a≠b)(ha:w.heap[a.block]?=U (ay ca ta (0,0)))(hb:w.heap[b.block]?=U (ay cb tb (0,0))):Calls prog 37 #[.iface 88 (ax (U (ar pb po J))),.iface 238 (ax (U b))] w λe w'=>e=aH (aJ false)/\w'=w:=by
 obtain⟨i,hi,ry⟩:=jz.1 Bx;obtain⟨j,hj,xL⟩:=jz.1 Bz;have h8:=@iR _ 74 _ Extern.ReflectliteType.typeOf func74 (by kernel_rfl) (by kernel_rfl) (by kernel_rfl) (by kernel_rfl);have GP:=@iR _ 189 _ Bw func189 (by kernel_rfl) (by kernel_rfl) (by kernel_rfl) (by kernel_rfl);have tT:=Bv;have cT:=DW;have mR:=DX;have nE:=LI;have uE:=GM;have vE:=GN;have nW:=LJ;have uW:=LK;have mU:=LL;have heq:=run_eql_iface_ptr_other (P:=prog) w underlying26 underlying238 hi ry hj (by rw[xL];decide) hne ha hb;have BA:=run_eql_iface_types (P:=prog) 88 238 (ax (U (ar pb po J))) (ax (U b)) underlying26 (aD rfl) w;go_enter func37,ntmps37
 go_wp2
 refine wp_loop_rounds 2 ?_;rw[wA];go_wp2;rw[wA];go_wp2;go_ret;exact⟨rfl,rfl⟩
def j6{v:aj}(h:w.cell? a=U v):a.block<w.heap.size:=by
 rcases eC a.block w.heap.size with h'|h'
 ·exact h'
 simp[aL,sO h']at h
def cU{o:Obj}(h:w.heap[k]?=U o):k<w.heap.size:=by
 rcases eC k w.heap.size with h'|h'
 ·exact h'
 rw[sO h']at h;cases h
def aA{v:aj}(hb:Below w.heap.size w w')(h:w.cell? a=U v):w'.cell? a=U v:=
 (hb.cell (j6 h)).trans h
def cX{o:Obj}(hb:Below w.heap.size w w')(h:w.heap[k]?=U o):w'.heap[k]?=U o:=
 (hb.block k (cU h)).trans h
def Below.one(w:ah)(o:Obj):Below w.heap.size w (w.alloc o):=(aC _ _).alloc (aR _) _
abbrev sU (w:World):Obj:=(.cells #[.pointer (some ⟨16,90,none⟩),.pointer (some ⟨w.heap.size,0,none⟩),.int .u64 150] 137)
def TM(t:av)(w:ah):(ReflectliteValue.unpack (.iface 90 (ax (U t)))).run prog w
  = .ok (a_ #[ax (U (ar 16 90 J)),ax (U (ar w.heap.size 0 J)),.int .u64 150]) (w.alloc (ay #[ax (U t)] 90)):=by kernel_rfl
def GQ:Array aj→Sem aj:=ReflectliteValue.methodAny (ReflectliteValue.valueError "reflectlite.Value.Type" 0) (λt _ _ _=>ReflectliteType.toType t)
def DY:Array aj->Sem aj:=ReflectliteType.abiMethod λt=>do pure (af .u8 (<- Rtype.kind t))
def GR:Array aj->Sem aj:=ReflectliteType.method ReflectliteType.elem
def GU:Array aj→Sem aj:=ReflectliteType.relation "Implements" ReflectliteType.implements_
def DZ:Array aj→Sem aj:=ReflectliteType.relation "AssignableTo" ReflectliteType.assignableTo
def D3:Array aj→Sem aj:=ReflectliteValue.method (ReflectliteValue.valueError "reflectlite.Value.IsNil" 0) ReflectliteValue.isNil
def GV:Array aj→Sem aj:=ReflectliteValue.method (ReflectliteValue.valueError "reflectlite.Value.Elem" 0) ReflectliteValue.elem
def GW:Array aj->Sem aj:=ReflectliteValue.set
def D4:Array aj->Sem aj:=λargs=>ReflectliteValue.unpack (args.getD 0 (aX #[]))
def LM(t:av)(w:ah):(D4 #[.iface 90 (ax (U t))]).run prog w
  = .ok (a_ #[ax (U (ar 16 90 J)),ax (U (ar w.heap.size 0 J)),.int .u64 150]) (w.alloc (ay #[ax (U t)] 90)):=TM t w
def LN(a:av)(w:ah):(GQ #[a_ #[ax (U (ar 16 90 J)),ax (U a),.int .u64 150]]).run prog w
  = .ok (.iface 176 (a_ #[ax (U (ar 16 90 J))])) w:=by kernel_rfl
def LO(h:aj) (w:ah):(Go.method 370 176 (a_ #[h]) "Kind").run prog w=.ok (179, h) w:=by kernel_rfl
def LP(w:ah):(DY #[ax (U (ar 16 90 J))]).run prog w=.ok (af .u8 22) w:=by kernel_rfl
def LQ(w:ah):(DY #[ax (U (ar 16 88 J))]).run prog w=.ok (af .u8 22) w:=by kernel_rfl
def LR(z:Sem aj)(f:TypeId->av->Nat->Nat->Sem aj)(v:aj):ReflectliteValue.method z f #[v]=(do match <- ReflectliteValue.parts v with|none=>z|some (t,a,fl)=>f t a fl (fl%32)):=rfl
def LS(a:av)(w:ah):(ReflectliteValue.parts (a_ #[ax (U (ar 16 90 J)),ax (U a),.int .u64 150])).run prog w=.ok (U (90,a,150)) w:=by kernel_rfl
def LU(a p:av)(W:ah)(ha:W.cell? a=U (ax (U p))):(D3 #[a_ #[ax (U (ar 16 90 J)),ax (U a),.int .u64 150]]).run prog W=.ok (aJ false) W:=by
 unfold D3;rw[LR];simp only[kT,LS,Result.andThen];simp[ReflectliteValue.isNil,loadVar,ha]
def LV(h:aj) (w:ah):(Go.method 370 176 (a_ #[h]) "Elem").run prog w=.ok (190, a_ #[h]) w:=by kernel_rfl
def LW(h:aj) (w:ah):(Go.method 370 176 (a_ #[h]) "Implements").run prog w=.ok (191, a_ #[h]) w:=by kernel_rfl
def LX(h:aj) (w:ah):(Go.method 370 176 (a_ #[h]) "AssignableTo").run prog w=.ok (188, a_ #[h]) w:=by kernel_rfl
def LY(w:ah):(GR #[a_ #[ax (U (ar 16 90 J))]]).run prog w=.ok (.iface 176 (a_ #[ax (U (ar 16 88 J))])) w:=by kernel_rfl
def LZ(w:ah):(GU #[a_ #[ax (U (ar 16 88 J))],.iface 176 (a_ #[ax (U (ar 16 26 J))])]).run prog w=.ok (aJ true) w:=by kernel_rfl
def TN(v:aj)(w:ah):(ReflectliteType.typeOf #[.iface 88 v]).run prog w=.ok (.iface 176 (a_ #[ax (U (ar 16 88 J))])) w:=by kernel_rfl
def TP(w:ah):(DZ #[a_ #[ax (U (ar 16 88 J))],.iface 176 (a_ #[ax (U (ar 16 88 J))])]).run prog w=.ok (aJ true) w:=by kernel_rfl
def TQ(w:ah):(DZ #[a_ #[ax (U (ar 16 238 J))],.iface 176 (a_ #[ax (U (ar 16 88 J))])]).run prog w=.ok (aJ false) w:=by kernel_rfl
def TR(e:av)(w:ah):(D4 #[.iface 88 (ax (U e))]).run prog w
  = .ok (a_ #[ax (U (ar 16 88 J)),ax (U (ar w.heap.size 0 J)),.int .u64 150]) (w.alloc (ay #[ax (U e)] 88)):=by kernel_rfl
def TS(v:aj)(xT:TypeId)(w:ah):(Instr.typeAssert (.iface 238 v) xT 180 true).run prog w=.ok (aX #[.nilIface,aJ false]) w:=Bt underlying180 (by kernel_rfl) (by kernel_rfl) v xT w
def TT(w:ah):(Rtype.elem? 90).run prog w=.ok (U 88) w:=by kernel_rfl
def TU(p:av)(w:ah):(ReflectliteValue.mk 88 p ReflectliteValue.flagAddr).run prog w=.ok (a_ #[ax (U (ar 16 88 J)),ax (U p),.int .u64 406]) w:=by kernel_rfl
def TV(a p:av)(W:ah)(ha:W.cell? a=U (ax (U p))):(GV #[a_ #[ax (U (ar 16 90 J)),ax (U a),.int .u64 150]]).run prog W
   = .ok (a_ #[ax (U (ar 16 88 J)),ax (U p),.int .u64 406]) W:=by
 unfold GV;rw[LR];simp only[kT,LS,Result.andThen];simp[ReflectliteValue.elem,loadVar,ha,TT,TU]
def TW(v x:aj):ReflectliteValue.set #[v,x]=(do
  let (U (dst,a,fl),U (src,b,_)):=(<- ReflectliteValue.parts v,<- ReflectliteValue.parts x)
   |unsupported (.noEntry "extern/(internal/reflectlite.Value).Set.zeroValue")
  if fl / ReflectliteValue.flagAddr%2==0 then unsupported (.noEntry "extern/(internal/reflectlite.Value).Set.unaddressable")
  let val <- loadVar src b
  if <- Rtype.directlyAssignable dst src then storeVar dst a val
  else if <- Rtype.implements dst src then
   if (<- Rtype.kind src)==20 then
    match val with
    |.nilIface=>unsupported (.noEntry "extern/reflectlite: a nil value of one interface type handed on as a value of another")
    |_=>storeVar dst a val
   else storeVar dst a (.iface src val)
  else panicString ("reflectlite.Set: value of type " ++ (← Rtype.spelt src) ++ " is not assignable to type " ++ (← Rtype.spelt dst))
  pure (aX #[])):=rfl
def TX(a:av)(w:ah):(ReflectliteValue.parts (a_ #[ax (U (ar 16 88 J)),ax (U a),.int .u64 406])).run prog w=.ok (U (88,a,406)) w:=by kernel_rfl
def TY(a:av)(w:ah):(ReflectliteValue.parts (a_ #[ax (U (ar 16 88 J)),ax (U a),.int .u64 150])).run prog w=.ok (U (88,a,150)) w:=by kernel_rfl
def T1(w:ah):(Rtype.directlyAssignable 88 88).run prog w=.ok true w:=by kernel_rfl
def T2(ta b e:av)(old:aj)(W:ah)(hb:W.cell? b=U (ax (U e)))(ht:W.cell? ta=U old)(hf:W.frozen? ta=false):(GW #[a_ #[ax (U (ar 16 88 J)),ax (U ta),.int .u64 406],a_ #[ax (U (ar 16 88 J)),ax (U b),.int .u64 150]]).run prog W
   = .ok (aX #[]) (W.setCell ta (ax (U e))):=by
 unfold GW;rw[TW];simp only[kT,TX,TY,Result.andThen];simp[ReflectliteValue.flagAddr,loadVar,hb,Result.andThen,T1,storeVar,Value.cells,storeCells,Addr.add]
 rw[run_store _ W ta _ _ (by rfl)];simp[ht,hf]
def L0(e t:av)(old:aj)(w:ah)(hg:w.cell? (ar 11 0 J)=U (.iface 176 (a_ #[ax (U (ar 16 26 J))])))(zN:w.cell? t=U old)(BB:w.frozen? t=false):Calls prog 36 #[.iface 88 (ax (U e)),.iface 90 (ax (U t))] w λev w'=>ev=aH (aJ true)/\w'=((((w.alloc (ay #[ax (U t)] 90)).alloc (sU w)).alloc (sU w)).alloc (ay #[ax (U e)] 88)).setCell t (ax (U e)):=by
 have h6:=@iR prog 70 _ D4 func70 (by kernel_rfl) (by kernel_rfl) (by kernel_rfl) (by kernel_rfl);have h7:=@iR prog 71 _ GQ func71 (by kernel_rfl) (by kernel_rfl) (by kernel_rfl) (by kernel_rfl);have h8:=@iR prog 72 _ D3 func72 (by kernel_rfl) (by kernel_rfl) (by kernel_rfl) (by kernel_rfl);have T4:=@iR prog 179 _ DY func179 (by kernel_rfl) (by kernel_rfl) (by kernel_rfl) (by kernel_rfl);have T5:=@iR prog 190 _ GR func190 (by kernel_rfl) (by kernel_rfl) (by kernel_rfl) (by kernel_rfl);have T6:=@iR prog 191 _ GU func191 (by kernel_rfl) (by kernel_rfl) (by kernel_rfl) (by kernel_rfl);have h10:=@iR prog 74 _ ReflectliteType.typeOf func74 (by kernel_rfl) (by kernel_rfl) (by kernel_rfl) (by kernel_rfl);have T7:=@iR prog 188 _ DZ func188 (by kernel_rfl) (by kernel_rfl) (by kernel_rfl) (by kernel_rfl);have h11:=@iR prog 103 _ GV func103 (by kernel_rfl) (by kernel_rfl) (by kernel_rfl) (by kernel_rfl);have iV:=@iR prog 104 _ GW func104 (by kernel_rfl) (by kernel_rfl) (by kernel_rfl) (by kernel_rfl);have tO:=TN;have mA:=LX;have a25:=TP;have v25:=TR;have f6:=LM;have f7:=LN;have mK:=LO;have mE:=LV;have mI:=LW;have T8:=LP;have T9:=LQ;have T_:=LY;have Ua:=LZ;have n8:=LU ⟨w.heap.size,0,J⟩ t ((w.alloc (ay #[ax (U t)] 90)).alloc (sU w)) (by simp);have hlt:=j6 hg;have hg2:((w.alloc (ay #[ax (U t)] 90)).alloc (sU w)).cell? ⟨11,0,J⟩=U (.iface 176 (a_ #[ax (U (ar 16 26 J))])):=by
  rw[kD _ _ ⟨11,0,J⟩ (by simp;simp at hlt;omega),kD _ _ ⟨11,0,J⟩ hlt];exact hg
 have rz:=j6 zN;have el:=TV ⟨w.heap.size,0,J⟩ t (((w.alloc (ay #[ax (U t)] 90)).alloc (sU w)).alloc (sU w)) (by rw[kD _ _ ⟨w.heap.size,0,J⟩ (by simp;omega)];simp);have st:=T2 t ⟨w.heap.size+1+1+1,0,J⟩ e old ((((w.alloc (ay #[ax (U t)] 90)).alloc (sU w)).alloc (sU w)).alloc (ay #[ax (U e)] 88))
  (by rw[fE _ _ _ _ (by simp)];rfl)
  (by rw[kD _ _ t (by simp;omega),kD _ _ t (by simp;omega),kD _ _ t (by simp;omega),kD _ _ t rz];exact zN)
  (by rw[DV _ _ t (by simp;omega),DV _ _ t (by simp;omega),DV _ _ t (by simp;omega),DV _ _ t (Nat.ne_of_lt rz)];exact BB)
 go_enter func36,ntmps36
 go_wp2
 refine wp_loop_rounds 1 ?_;rw[wA];go_wp2;go_ret;exact⟨rfl,rfl⟩
def L1(e t:av)(w:ah)(hg:w.cell? (ar 11 0 J)=U (.iface 176 (a_ #[ax (U (ar 16 26 J))]))):Calls prog 36 #[.iface 238 (ax (U e)),.iface 90 (ax (U t))] w λev w'=>ev=aH (aJ false)/\Below w.heap.size w w':=by
 have h6:=@iR _ 70 _ D4 func70 (by kernel_rfl) (by kernel_rfl) (by kernel_rfl) (by kernel_rfl);have h7:=@iR _ 71 _ GQ func71 (by kernel_rfl) (by kernel_rfl) (by kernel_rfl) (by kernel_rfl);have h8:=@iR _ 72 _ D3 func72 (by kernel_rfl) (by kernel_rfl) (by kernel_rfl) (by kernel_rfl);have T4:=@iR _ 179 _ DY func179 (by kernel_rfl) (by kernel_rfl) (by kernel_rfl) (by kernel_rfl);have T5:=@iR _ 190 _ GR func190 (by kernel_rfl) (by kernel_rfl) (by kernel_rfl) (by kernel_rfl);have T6:=@iR _ 191 _ GU func191 (by kernel_rfl) (by kernel_rfl) (by kernel_rfl) (by kernel_rfl);have h10:=@iR _ 74 _ ReflectliteType.typeOf func74 (by kernel_rfl) (by kernel_rfl) (by kernel_rfl) (by kernel_rfl);have T7:=@iR _ 188 _ DZ func188 (by kernel_rfl) (by kernel_rfl) (by kernel_rfl) (by kernel_rfl);have tO:=Bv;have mA:=LX;have aE:=TQ;have f6:=LM;have f7:=LN;have mK:=LO;have mE:=LV;have mI:=LW;have T8:=LP;have T9:=LQ;have T_:=LY;have Ua:=LZ;have nA:=TS;have uE:=GM;have vE:=GN;have n8:=LU ⟨w.heap.size,0,J⟩ t ((w.alloc (ay #[ax (U t)] 90)).alloc (sU w)) (by simp);have hlt:=j6 hg;have hg2:((w.alloc (ay #[ax (U t)] 90)).alloc (sU w)).cell? ⟨11,0,J⟩=U (.iface 176 (a_ #[ax (U (ar 16 26 J))])):=by
  rw[kD _ _ _ (by simp;simp at hlt;omega),kD _ _ _ hlt];exact hg
 go_enter func36,ntmps36
 go_wp2
 refine wp_loop_rounds 1 ?_;rw[wA];go_wp2;go_ret;exact⟨rfl,(((aC _ _).alloc (aR _) _).alloc (by simp) _).alloc (by simp;omega) _⟩
structure gZ(A:Nat->av)(w:ah):Prop where
 c0:w.cell? (ar 2 0 J)=U (.iface 238 (ax (U (A 0))))
 c1:w.cell? (ar 1 0 J)=U (.iface 238 (ax (U (A 1))))
 c2:w.cell? (ar 0 0 J)=U (.iface 238 (ax (U (A 2))))
 c3:w.cell? (ar 3 0 J)=U (.iface 238 (ax (U (A 3))))
 c4:w.cell? (ar 4 0 J)=U (.iface 238 (ax (U (A 4))))
 c5:w.cell? (ar 5 0 J)=U (.iface 238 (ax (U (A 5))))
 c6:w.cell? (ar 6 0 J)=U (.iface 238 (ax (U (A 6))))
 c7:w.cell? (ar 7 0 J)=U (.iface 238 (ax (U (A 7))))
 c8:w.cell? (ar 8 0 J)=U (.iface 238 (ax (U (A 8))))
 c9:w.cell? (ar 9 0 J)=U (.iface 238 (ax (U (A 9))))
 c10:w.cell? (ar 10 0 J)=U (.iface 238 (ax (U (A 10))))
 et:w.cell? (ar 11 0 J)=U (.iface 176 (a_ #[ax (U (ar 16 26 J))]))
 row:∀i,i<11->∃c t,w.heap[(A i).block]?=U (ay c t (0,0))
 ne:∀i j,i<11->j<11->i≠j->A i≠A j
def gZ.below(h:gZ A w)(hb:Below w.heap.size w w'):gZ A w':=
 ⟨aA hb h.c0,aA hb h.c1,aA hb h.c2,aA hb h.c3,aA hb h.c4,aA hb h.c5,aA hb h.c6,aA hb h.c7,aA hb h.c8,aA hb h.c9,aA hb h.c10,aA hb h.et,
  λi hi=>by obtain⟨c,t,e⟩:=h.row i hi;exact⟨c,t,cX hb e⟩,h.ne⟩
def gZ.alloc(h:gZ A w)(o:Obj):gZ A (w.alloc o):=h.below ((aC _ _).alloc (aR _) _)
def Ub(a b:av)(w:ah)(h:a=b):Calls prog 37 #[.iface 238 (ax (U a)),.iface 238 (ax (U b))] w λe w'=>e=aH (aJ true)/\w'=w:=by
 subst h;exact TH a w
def uG(A:Nat->av):Array aj:=#[.iface 238 (ax (U (A 0))),.iface 238 (ax (U (A 1))),.iface 238 (ax (U (A 2))),.iface 238 (ax (U (A 3))),.iface 238 (ax (U (A 4))),.iface 238 (ax (U (A 5))),.iface 238 (ax (U (A 6))),.iface 238 (ax (U (A 7))),.iface 238 (ax (U (A 8))),.iface 238 (ax (U (A 9))),.iface 238 (ax (U (A 10)))]
def L3(A:Nat->av)(w:ah)(k:Nat)(hk:k<11):(w.alloc (ay (uG A) 26)).cell? ⟨w.heap.size,k,J⟩=U (.iface 238 (ax (U (A k)))):=by
 rw[fE _ _ _ _ rfl]
 match k,hk with
 |0,_=>rfl
 |1,_=>rfl
 |2,_=>rfl
 |3,_=>rfl
 |4,_=>rfl
 |5,_=>rfl
 |6,_=>rfl
 |7,_=>rfl
 |8,_=>rfl
 |9,_=>rfl
 |10,_=>rfl
def GX{k l:IntKind}{a b c d:Int}(h:a=c)(h':b=d):Ending.returned (aX #[.int k a,.int l b])=aH (aX #[.int k c,.int l d]):=by rw[h,h']
def Uc(w:ah):Calls prog 19 #[.nilIface] w λe w'=>e=aH (aX #[af I 0,af I (-1)])/\w'=w:=by
 go_enter func19,ntmps19
 go_wp2;go_ret2
 exact⟨rfl,rfl⟩
def Ud(A:Nat->av)(a:av)(j:Nat)(ca:Array aj)(ta:TypeId)(w:ah)(hs:gZ A w)(hj:j<=11)(hlt:∀i,i<j->a≠A i)(hit:j<11->a=A j)(ha:w.heap[a.block]?=U (ay ca ta (0,0))):Calls prog 19 #[.iface 238 (ax (U a))] w λe w'=>e=aH (aX #[af I (if j<11 then (j:Int)+1 else -1),af I (-1)])/\Below w.heap.size w w':=by
 have hs1:=hs.alloc (ay #[ax J] 88);go_enter func19,ntmps19
 go_wp2_with fail
 apply(L1 _ _ _ hs1.et).mono;rintro e w2 ⟨rfl,hb⟩;obtain⟨c0,c1,c2,c3,c4,c5,c6,c7,c8,c9,c10,-,hrow,-⟩:=hs1.below hb;have ha2:=cX hb (cX ((aC _ w).alloc (aR _) _) ha);have hb1:=((aC _ w).alloc (aR _) _).trans (hb.mono (by simp));have hcell:=L3 A w2;have hrow3:∀i,i<11->∃c t,(w2.alloc (ay (uG A) 26)).heap[(A i).block]?=U (ay c t (0,0)):=λi hi=>by
  obtain⟨c,t,e⟩:=hrow i hi;exact⟨c,t,cX ((aC _ w2).alloc (aR _) _) e⟩
 have D5:=cX ((aC _ w2).alloc (aR _) (ay (uG A) 26)) ha2;have hb3:Below _ w (w2.alloc (ay (uG A) 26)):=hb1.alloc hb1.size _;unfold uG at hcell hrow3 D5 hb3;go_wp2_with fail
 go_loop [3,29] (λuH i=>uH=af I (-1)/\∃k:Nat,k<=j/\i=af I k) (λ_ i=>11-(intOf i).toNat)
 case atStart=>exact⟨rfl,0,cG _,rfl⟩
 case round=>
  obtain⟨rfl,k,hk,rfl⟩:=hrel
  by_cases hkj:k<j
  ·have hne:=hlt k hkj;have h11:k<11:=by omega
   obtain⟨cb,tb,zO⟩:=hrow3 k h11;have jA:=hcell k h11;go_wp2_with fail
   apply(TI _ _ ca cb ta tb _ hne D5 zO).mono;rintro e w' ⟨rfl,rfl⟩;go_wp2;go_round
   case rel=>exact⟨rfl,k+1,by omega,by go_num⟩
   case measure=>simp[intOf];omega
  have uI:k=j:=by omega
  by_cases h11:k<11
  ·have pK:a=A k:=by rw[uI];exact hit (by omega)
   change ag _ at pK uI
   have jA:=hcell k h11;go_wp2_with fail
   apply(Ub _ _ _ pK).mono;rintro e w' ⟨rfl,rfl⟩;go_wp2;go_ret2
   exact⟨GX (by have hj':=uI.o;first|omega|(rw[aU (by omega)];omega)) rfl,hb3⟩
  change ag _ at uI
  go_wp2;go_ret2
  exact⟨GX (by have hj':=uI.o;first|omega|(rw[aF (by omega)])) rfl,hb3⟩
def Ue(A:Nat->av)(pb po:Nat)(n:Int)(j:Nat)(w:ah)(hs:gZ A w)(hj:j<11)(hn:w.cell? (ar pb po J)=U (af I n))(he:w.cell? ⟨pb,po+1,J⟩=U (.iface 238 (ax (U (A j))))):Calls prog 19 #[.iface 88 (ax (U (ar pb po J)))] w λe w'=>e=aH (aX #[af I ((j:Int)+1),af I n])/\Below w.heap.size w w':=by
 have hs1:=hs.alloc (ay #[ax J] 88);go_enter func19,ntmps19
 have hpl:=j6 hn;have uJ:(w.alloc (ay #[ax J] 88)).cell? ⟨w.heap.size,0,J⟩=U (ax J):=by simp
 have mD:(w.alloc (ay #[ax J] 88)).frozen? ⟨w.heap.size,0,J⟩=false:=by simp
 go_wp2_with fail
 apply(L0 _ _ _ _ hs1.et uJ mD).mono;rintro e w2 ⟨rfl,hw2⟩;have hb1:Below w.heap.size w w2:=by
  rw[hw2]
  refine Below.setCell ?_ (by simp) _
  refine sS (sS (sS (sS (sS (aC _ _) (aR _) _) (by simp) _) (by simp;omega) _) (by simp;omega) _) (by simp;omega) _
 have L4:w2.cell? (ar w.heap.size 0 J)=U (ax (U (ar pb po J))):=by
  rw[hw2]
  refine World.cell?_setCell_same _ _ _ (u:=ax J) ?_;rw[kD _ _ _ (by simp;omega),kD _ _ _ (by simp;omega),kD _ _ _ (by simp;omega),kD _ _ _ (by simp)];exact uJ
 obtain⟨c0,c1,c2,c3,c4,c5,c6,c7,c8,c9,c10,-,hrow,GY⟩:=hs.below hb1;have L5:=aA hb1 hn;have rA:=aA hb1 he;clear hs hs1 hn he uJ mD hw2;have hcell:=L3 A w2;have hrow3:∀i,i<11->∃c t,(w2.alloc (ay (uG A) 26)).heap[(A i).block]?=U (ay c t (0,0)):=λi hi=>by
  obtain⟨c,t,e⟩:=hrow i hi;exact⟨c,t,cX ((aC _ w2).alloc (aR _) _) e⟩
 have D6:=aA ((aC _ w2).alloc (aR _) (ay (uG A) 26)) rA;have hb3:Below _ w (w2.alloc (ay (uG A) 26)):=hb1.alloc hb1.size _;unfold uG at hcell hrow3 D6 hb3;go_wp2_with fail
 clear c0 c1 c2 c3 c4 c5 c6 c7 c8 c9 c10 hrow L5 rA L4 hb1;go_loop [3,29] (λuH i=>uH=af I n/\∃k:Nat,k<=j/\i=af I k) (λ_ i=>11-(intOf i).toNat)
 case atStart=>exact⟨rfl,0,cG _,rfl⟩
 case round=>
  obtain⟨rfl,k,hk,rfl⟩:=hrel
  by_cases hkj:k<j
  ·have h11:k<11:=by omega
   have hne:=GY j k hj h11 (by omega);obtain⟨ca,ta,D5⟩:=hrow3 j hj;obtain⟨cb,tb,zO⟩:=hrow3 k h11;have jA:=hcell k h11;clear GY hrow3 hcell;go_wp2_with fail
   apply(TL _ _ _ _ ca cb ta tb _ D6 hne D5 zO).mono;rintro e w' ⟨rfl,rfl⟩;go_wp2;go_round
   case rel=>exact⟨rfl,k+1,by omega,by go_num⟩
   case measure=>simp[intOf];omega
  have uI:k=j:=by omega
  have h11:k<11:=by omega
  have jA:=hcell k h11;rw[<- uI]at D6;clear GY hrow3 hcell;change ag _ at uI;go_wp2_with fail
  apply(TJ _ _ _ _ D6).mono;rintro e w' ⟨rfl,rfl⟩;go_wp2;go_ret2
  exact⟨GX (by have hj':=uI.o;omega) rfl,hb3⟩
def bY{α:Type}(enc:α->List aj)(k:Nat)(w:ah)(v:aj)(xs:List α):Prop:=
 ∃sa cap,v=ak sa xs.length cap/\xs.length<=cap/\(xs≠[]->∃b o,sa=U ⟨b,o,J⟩/\∀i x,xs[i]?=U x->∀j u,(enc x)[j]?=U u->w.cell? ⟨b,o+i*k+j,J⟩=U u)
def bY.below{α:Type}{enc:α->List aj}{v:aj}{xs:List α}(h:bY enc k w v xs)(hb:Below w.heap.size w w'):bY enc k w' v xs:=by
 obtain⟨sa,cap,h1,h0,h2⟩:=h
 refine⟨sa,cap,h1,h0,λhne=>?_⟩;obtain⟨b,o,h3,h4⟩:=h2 hne;exact⟨b,o,h3,λi x hx j u hu=>aA hb (h4 i x hx j u hu)⟩
def bc(x:Int):List aj:=[af I x]
def gg(s:ByteArray):List aj:=[aB s]
def kU(p:Int×Int):List aj:=[af I p.1,af I p.2]
def j7(g:lx):List aj:=[af I g.fr,af I g.to,af I g.mn,af I g.mx]
def uK(e:aG)(pv gv ev fv lv:aj):Array aj:=#[aB e.name,af I e.aW,pv,af I e.cnt,af I e.mn,af I e.mx,gv,ev,fv,lv]
structure lO(w:ah)(e:aG)(pv gv ev fv lv:aj):Prop where
 hp:bY gg 1 w pv e.au
 hg:bY j7 4 w gv e.aP
 he:bY kU 2 w ev e.aN
 hf:bY bc 1 w fv e.first
 hl:bY bc 1 w lv e.last
def lO.below{e:aG}{pv gv ev fv lv:aj}(h:lO w e pv gv ev fv lv)(hb:Below w.heap.size w w'):lO w' e pv gv ev fv lv:=
 ⟨h.hp.below hb,h.hg.below hb,h.he.below hb,h.hf.below hb,h.hl.below hb⟩
def iJ(w:ah)(v:aj)(es:List aG):Prop:=
 ∃sa cap,v=ak sa es.length cap/\(es≠[]->∃b o,sa=U ⟨b,o,J⟩/\∀i e,es[i]?=U e->∃pv gv ev fv lv,lO w e pv gv ev fv lv/\∀j u,(uK e pv gv ev fv lv)[j]?=U u->w.cell? ⟨b,o+i*10+j,J⟩=U u)
def iJ.below{v:aj}{es:List aG}(h:iJ w v es)(hb:Below w.heap.size w w'):iJ w' v es:=by
 obtain⟨sa,cap,h1,h2⟩:=h
 refine⟨sa,cap,h1,λhne=>?_⟩;obtain⟨b,o,h3,h4⟩:=h2 hne
 refine⟨b,o,h3,λi e he=>?_⟩;obtain⟨pv,gv,ev,fv,lv,h5,h6⟩:=h4 i e he;exact⟨pv,gv,ev,fv,lv,h5.below hb,λj u hu=>aA hb (h6 j u hu)⟩
structure rB(e:aG):Prop where
 hn:e.name.size<=1000000
 hp:e.au.length<=1000000
 hs:∀p∈e.au,p.size<=1000000
 hg:e.aP.length<=1000000
 he:e.aN.length<=1000000
 hf:e.first.length<=1000000
 hl:e.last.length<=1000000
structure jB(c:aV):Prop where
 hn:c.az.length<=1000000
 he:∀e∈c.az,rB e
structure dD(A:Nat->av)(w:ah):Prop where
 c0:w.cell? (ar 2 0 J)=U (.iface 238 (ax (U (A 0))))
 c1:w.cell? (ar 1 0 J)=U (.iface 238 (ax (U (A 1))))
 c2:w.cell? (ar 0 0 J)=U (.iface 238 (ax (U (A 2))))
 c3:w.cell? (ar 3 0 J)=U (.iface 238 (ax (U (A 3))))
 c4:w.cell? (ar 4 0 J)=U (.iface 238 (ax (U (A 4))))
 c5:w.cell? (ar 5 0 J)=U (.iface 238 (ax (U (A 5))))
 row:∀i,i<6->∃c t,w.heap[(A i).block]?=U (ay c t (0,0))
 ne:∀i j,i<6->j<6->i≠j->A i≠A j
def dD.below(h:dD A w)(hb:Below w.heap.size w w'):dD A w':=
 ⟨aA hb h.c0,aA hb h.c1,aA hb h.c2,aA hb h.c3,aA hb h.c4,aA hb h.c5,λi hi=>by obtain⟨c,t,e⟩:=h.row i hi;exact⟨c,t,cX hb e⟩,h.ne⟩
def gZ.six(h:gZ A w):dD A w:=
 ⟨h.c0,h.c1,h.c2,h.c3,h.c4,h.c5,λi hi=>h.row i (by omega),λi j hi hj=>h.ne i j (by omega) (by omega)⟩
structure lQ(A:Nat->av)(w:ah):Prop where
 c1:w.cell? (ar 1 0 J)=U (.iface 238 (ax (U (A 1))))
 c2:w.cell? (ar 0 0 J)=U (.iface 238 (ax (U (A 2))))
 c3:w.cell? (ar 3 0 J)=U (.iface 238 (ax (U (A 3))))
 c4:w.cell? (ar 4 0 J)=U (.iface 238 (ax (U (A 4))))
 c5:w.cell? (ar 5 0 J)=U (.iface 238 (ax (U (A 5))))
def lQ.below(h:lQ A w)(hb:Below w.heap.size w w'):lQ A w':=
 ⟨aA hb h.c1,aA hb h.c2,aA hb h.c3,aA hb h.c4,aA hb h.c5⟩
def lQ.alloc(h:lQ A w)(o:Obj):lQ A (w.alloc o):=h.below ((aC _ _).alloc (aR _) _)
def dD.five(h:dD A w):lQ A w:=⟨h.c1,h.c2,h.c3,h.c4,h.c5⟩
def bF(A:Nat->av):Nat->aj
 |0=>.nilIface
 |j+1=>.iface 238 (ax (U (A j)))
def gR(A:Nat->av)(w:ah)(v:aj)(f:Nat×Int):Prop:=
 f.1<=11/\((f.2=-1/\v=bF A f.1)\/(0<f.1/\∃b,v=.iface 88 (ax (U (ar b 0 J)))/\w.cell? (ar b 0 J)=U (af I f.2)/\w.cell? (ar b 1 J)=U (bF A f.1)))
def gR.below{v:aj}{f:Nat×Int}(h:gR A w v f)(hb:Below w.heap.size w w'):gR A w' v f:=by
 obtain⟨h1,h2|⟨h2,b,h3,h4,h5⟩⟩:=h
 ·exact⟨h1,cF h2⟩
 exact⟨h1,bk ⟨h2,b,h3,aA hb h4,aA hb h5⟩⟩
def BD(n a b:Int)(w:ah):Calls prog 91 #[af I n,af I a,af I b] w λe w'=>e=aH (aJ (within n a b))/\w'=w:=by
 by_cases h1:a<=n
 ·by_cases h2:n<=b
  all_goals
   go_enter func91,ntmps91
   go_wp2;go_ret;exact⟨by simp[within,h1,h2],rfl⟩
 go_enter func91,ntmps91
 go_wp2;go_ret;exact⟨by simp[within];omega,rfl⟩
def L6(b:UInt8)(w:ah):Calls prog 113 #[af .u8 (b.toNat:Int)] w λe w'=>e=aH (aJ (lL b))/\w'=w:=by
 have hb:lL b=(decide ((97:Int)<=(b.toNat:Int))&&decide ((b.toNat:Int)<=122)):=by
  unfold lL;congr 1<;>exact jd.2 (by omega)
 rw[hb];generalize (b.toNat:Int)=n
 by_cases h1:97<=n
 ·by_cases h2:n<=122
  all_goals
   go_enter func113,ntmps113
   go_wp2;go_ret;exact⟨by simp[h1,h2],rfl⟩
 go_enter func113,ntmps113
 go_wp2;go_ret;exact⟨by simp;omega,rfl⟩
def GZ(b:UInt8)(w:ah):Calls prog 114 #[af .u8 (b.toNat:Int)] w λe w'=>e=aH (aJ (gO b))/\w'=w:=by
 have hb:gO b=(decide ((48:Int)<=(b.toNat:Int))&&decide ((b.toNat:Int)<=57)):=by
  unfold gO;congr 1<;>exact jd.2 (by omega)
 rw[hb];generalize (b.toNat:Int)=n
 by_cases h1:48<=n
 ·by_cases h2:n<=57
  all_goals
   go_enter func114,ntmps114
   go_wp2;go_ret;exact⟨by simp[h1,h2],rfl⟩
 go_enter func114,ntmps114
 go_wp2;go_ret;exact⟨by simp;omega,rfl⟩
def Uf(c o:Int)(w:ah)(h:(within c 0 1000&&within o 1 1000)=true):Calls prog 112 #[af I c,af I o] w λe w'=>e=aH (aX #[ax (U (ar w.heap.size 0 J)),.nilIface])/\Below w.heap.size w w':=by
 simp[within]at h
 have g1:¬c<0:=by omega
 have g2:¬1000<c:=by omega
 have g3:¬o<1:=by omega
 have g4:¬1000<o:=by omega
 go_enter func112,ntmps112
 go_wp2;go_ret2
 exact⟨rfl,(aC _ _).alloc (aR _) _⟩
def Ug(A:Nat->av)(c o:Int)(w:ah)(hs:lQ A w)(h:(within c 0 1000&&within o 1 1000)=false):Calls prog 112 #[af I c,af I o] w λe w'=>e=aH (aX #[ax J,.iface 238 (ax (U (A 1)))])/\Below w.heap.size w w':=by
 have hc:=hs.c1;simp[within]at h
 by_cases g1:c<0
 ·clear h;go_enter func112,ntmps112
  go_wp2_with fail
  go_quiet (fail)
  go_wp2;go_ret2
  exact⟨rfl,cB (aC _ _) _⟩
 by_cases g2:1000<c
 ·clear h;go_enter func112,ntmps112
  go_wp2_with fail
  go_quiet (fail)
  go_wp2;go_ret2
  exact⟨rfl,cB (aC _ _) _⟩
 by_cases g3:o<1
 ·clear h;go_enter func112,ntmps112
  go_wp2_with fail
  go_quiet (fail)
  go_wp2;go_ret2
  exact⟨rfl,cB (aC _ _) _⟩
 have g4:1000<o:=by omega
 go_enter func112,ntmps112
 go_wp2_with fail
 go_quiet (fail)
 go_wp2;go_ret2
 exact⟨rfl,cB (aC _ _) _⟩
def Uh(A:Nat->av)(c o:Int)(w:ah)(hs:lQ A w):Calls prog 89 #[af I c,af I o] w λe w'=>e=aH (aJ (within c 0 1000&&within o 1 1000))/\Below w.heap.size w w':=by
 cases h:(within c 0 1000&&within o 1 1000)with
 |true=>
  have dn:=Uf c o w h;go_enter func89,ntmps89
  go_wp2_with fail
  refine dn.mono ?_;rintro e w' ⟨rfl,hb⟩;go_wp2;go_ret;exact⟨rfl,hb⟩
 |false=>
  have dn:=Ug A c o w hs h;go_enter func89,ntmps89
  go_wp2_with fail
  refine dn.mono ?_;rintro e w' ⟨rfl,hb⟩;go_wp2;go_ret;exact⟨rfl,hb⟩
end Go.Proofs.YtjjodkjbmgnbeaaGreatDoor
namespace Go.Proofs
open Go.Shelf
def Ui:Go.Shelf.Ren:=⟨fun|102=>30|209=>61|207=>87|n=>n,fun|9=>9|4=>4|3=>3|n=>n,fun|n=>n⟩
def Uj:Go.Proofs.Lays.n102 prog Ui:=by repeat' (first|kernel_rfl|(intro w;kernel_rfl)|decide|constructor)
open Go.RowKit Go.Lib in
def strings_TrimSuffix(s p:ByteArray)(w:ah)(hs:s.size<=9223372036854775807):Calls prog 30 #[aB s,aB p] w λe w'=>e=aH (aB ⟨(Lib.trimSuffix s.data.toList p.data.toList).toArray⟩)/\w'=w:=Any.strings_TrimSuffix Uj s p w hs
def Uk:Go.Shelf.Ren:=⟨fun|146=>29|221=>60|268=>84|138=>85|143=>86|195=>108|197=>109|218=>110|219=>111|260=>145|217=>146|225=>147|224=>148|267=>149|266=>158|314=>159|n=>n,fun|9=>9|31=>22|3=>3|4=>4|0=>0|105=>196|21=>21|5=>5|46=>104|119=>229|139=>232|138=>231|146=>233|51=>70|n=>n,fun|1=>13|3=>14|4=>15|n=>n⟩
def G0:Go.Proofs.LaysM.n146 prog Uk:=by
 constructor
 case s1_3=>exact λw h=>Go.Proofs.cell_of_shapedOpen_int (zero:=#[af I 0]) (t:=3) h (aD (by kernel_rfl)) (by kernel_rfl) rfl (by kernel_rfl) (by kernel_rfl) underlying3
 all_goals repeat' (first|kernel_rfl|(intro w;kernel_rfl)|decide|constructor)
end Go.Proofs
namespace Go.Proofs.YtjjodkjbmgnbeaaGreatDoor
open Go.Extern Go.Extern.Stop Go.RowKit Go.Stop
variable{A:Nat->av}{P:Program}{T t:TypeId}{a a':av}{b bx g i j k m n rb:Nat}{c ev fv gv lv pv x y:aj}{d:Tmp}{e:aG}{es:List aG}{fr:Nat×Nat}{l:List ByteArray}{ops:Array Oper}{p:Nat->Oper->Prop}{r:Result Next}{s:ByteArray}{said:Bool}{sh wg:Nat->Prop}{v1 w w':ah}{who:Nat->Option Nat}{xs:Array aj}
def mF(w:ah):Prop:=∀i,i<10->w.cell? (ar 12 i J)=U (aB ⟨(kw i).toArray⟩)
def mF.below(h:mF w){B:Nat}(hb:Below B w w')(hB:12<B):mF w':=λi hi=>(hb.cell (p:=⟨12,i,J⟩) hB).trans (h i hi)
open Go.ChangeShapes
def L8(l:List (String×List UInt8)):List (String×DataW Unit):=l.map λx=>(x.1, .iface "*errors.errorString" (.ptr (.agg [.lit (.string x.2)])))
def Ul{P:Program}{W:ah}{ti tp te ts:TypeId}{ms:Array (String×TypeId)}{f:Field}
  (hi:P.underlying ti=U (.interface ms)) (hrow:∀u, P.typeName? 3 u=U "*errors.errorString" → u=tp)
  (hp:P.underlying tp=U (.pointer te)) (he:P.underlying te=U (.struct #[f])) (Um:f.type=ts) (G3:f.offset=0) (hs:P.underlying ts=U .string) (hc:P.cellsOf te=1) (hcs:P.cellsOf ts=1):∀(l:List (String×List UInt8)) (ps:List MemPlace),(∀x,x∈l->∃g,P.globalNamed x.1=U g/\(P.globals[g]?).map (·.type)=U ti)->DataW.LaidVars P W (L8 l) ps->ps.Nodup ->
   (∀b off,MemPlace.cell b off∈ps->(∃c t,W.heap[b]?=U (.cells c t (0,0)))/\∀u v,W.cell? (ar b off J)=U (.iface u v)->Value.okWide P W .any 0 u v) ->
   ∃A:Nat->av,(∀i x,l[i]?=U x->W.var? P x.1=U #[.iface tp (.pointer (U (A i)))])/\(∀i,i<l.length->∃c t,W.heap[(A i).block]?=U (.cells c t (0,0))) /\
    (∀i,i<l.length->MemPlace.cell (A i).block (A i).off∈ps)/\(∀i j,i<l.length->j<l.length->i≠j->A i≠A j)/\∀i x,l[i]?=U x->W.cell? (A i)=U (.string ⟨x.2.toArray⟩):=by
 intro l
 induction l with
 |nil=>exact λps _ _ _ _=>⟨λ_=>⟨0,0,J⟩,λi x h=>by simp at h,λi h=>by simp at h,λi h=>by simp at h,λi j h=>by simp at h,λi x h=>by simp at h⟩
 |cons x r ih=>
  intro ps hg hl rC BF;obtain⟨n,text⟩:=x;obtain⟨g,t,cs,fuel,p,q,hg0,zN,hv0,dP,hq,rfl⟩:=hl;obtain⟨g',hg1,uJ⟩:=hg _ (xJ ..);obtain rfl:=b_ (hg1.symm.trans hg0);obtain rfl:=b_ (uJ.symm.trans zN);obtain⟨lc⟩:=cs;have Un:∀u v,lc=[.iface u v]->Value.okWide P W .any 0 u v:=λu v e=>by
   subst e;exact(BF g' 0 (by simp[MemPlace.row])).2 u v (by simpa using oK hg0 hv0 0)
  obtain⟨a0,s0,rfl,hc0,hs0,hz0,rfl⟩:=errorString_of_trod hi hrow hp he Um G3 hs hc hcs dP Un;obtain⟨A,v,b,m,d,tx⟩:=ih q (λy hy=>hg y (v_ _ hy)) hq (List.Nodup.sublist (List.sublist_append_right _ _) rC) (λb off hm=>BF b off (List.mem_append_right _ hm));have L9:∀i,i<r.length->a0≠A i:=λi hi e=>by
   have hm:=m i hi;rw[<- e]at hm;have:=List.nodup_append.1 rC;exact this.2.2 _ (List.mem_append_right _ (by simp[MemPlace.row])) _ hm rfl
  refine⟨λi=>match i with|0=>a0|i+1=>A i,λi y hy=>?_,λi hi=>?_,λi hi=>?_,λi j hi hj hne=>?_,λi y hy=>?_⟩
  ·cases i with
   |zero=>simp only[vZ,gQ]at hy;subst hy;exact hv0
   |succ i=>exact v i y (by simpa using hy)
  ·cases i with
   |zero=>exact(BF _ a0.off (by simp[MemPlace.row])).1
   |succ i=>exact b i (by simpa using hi)
  ·cases i with
   |zero=>exact Bu _ (List.mem_append_right _ (by simp[MemPlace.row]))
   |succ i=>exact List.mem_append_right _ (m i (by simpa using hi))
  ·cases i with
   |zero=>
    cases j with
    |zero=>exact absurd rfl hne
    |succ j=>exact L9 j (by simpa using hj)
   |succ i=>
    cases j with
    |zero=>exact λe=>L9 i (by simpa using hi) e.symm
    |succ j=>exact d i j (by simpa using hi) (by simpa using hj) (by omega)
  cases i with
  |zero=>
   simp only[vZ,gQ]at hy;subst hy;rw[hc0];obtain⟨⟨z⟩⟩:=s0;subst hs0;rfl
  |succ i=>exact tx i y (by simpa using hy)
def own:ownKnob prog.godebug=J:=by kernel_rfl
def g0:prog.globalNamed "nightwatch/api.ErrText" = U 2:=by kernel_rfl
def g1:prog.globalNamed "nightwatch/api.ErrBound" = U 1:=by kernel_rfl
def g2:prog.globalNamed "nightwatch/api.ErrShape" = U 0:=by kernel_rfl
def g3:prog.globalNamed "nightwatch/api.ErrName" = U 3:=by kernel_rfl
def g4:prog.globalNamed "nightwatch/api.ErrNone" = U 4:=by kernel_rfl
def g5:prog.globalNamed "nightwatch/api.ErrExist" = U 5:=by kernel_rfl
def star : "*" ++ "errors.errorString" = "*errors.errorString" := by decide
def Uo(u:TypeId) (h:prog.typeName? 3 u=U "*errors.errorString"):u=238 :=
 typeName_ptr_named (nm := "errors.errorString") (by rw [star]; kernel_rfl) (by kernel_rfl) (by decide) u (by rw [star]; exact h)
def Up:prog.cellsOf 259=1:=by kernel_rfl
def G4:prog.cellsOf 9=1:=by kernel_rfl
def D7{W:ah}:∀(a b:List (String×DataW Unit)) (ps:List MemPlace),DataW.LaidVars P W (a++b) ps->∃p q,ps=p++q/\DataW.LaidVars P W a p/\DataW.LaidVars P W b q
 |[],b,ps,h=>⟨[],ps,rfl,rfl,h⟩
 |(n,d)::a,b,ps,h=>by
  obtain⟨g,t,cs,fuel,p,q,hg0,zN,hv0,dP,hq,rfl⟩:=h;obtain⟨p1,q1,rfl,h1,h2⟩:=D7 a b q hq;exact⟨_,q1,by simp[List.append_assoc],⟨g,t,cs,_,p,p1,hg0,zN,hv0,dP,h1,rfl⟩,h2⟩
def Uq{H:Type}{enc:TypeId×aj->H}{P:Program}{w:ah}{base:Nat}{sp:Nat->Bool}{held:Bool}{fuel:Nat}{t e:TypeId}{n:Nat}{cs:List aj}{zs:List (List UInt8)}{p:List MemPlace}
  (ht:P.underlying t=U (.array n e)) (he:P.underlying e=U .string) (hce:P.cellsOf e=1) (mG:P.cellsOf t=n)
  (h:DataW.trod enc P w base sp held fuel t cs=U (.agg (zs.map λz=>.lit (.string z)),p)):cs=zs.map λz=>Value.string ⟨z.toArray⟩:=by
 cases fuel with
 |zero=>simp[DataW.trod]at h
 |succ fuel=>
  simp only[DataW.trod,ht,hce,mG,Nat.mul_one]at h
  split at h
  ·rename_i hl;obtain⟨xs,hm,hx⟩:=jz.1 h;have oL:xs.map (·.1)=zs.map λz=>(DataW.lit (.string z):DataW H):=by
    have:=iU Prod.fst hx;simpa using this
   have G5:xs.length=n:=by simpa using Lib.mapM_length hm
   have hzl:zs.length=n:=by
    have:=iU List.length oL;simp at this
    omega
   apply List.ext_getElem?
   intro i
   by_cases hi:i<n
   ·obtain⟨b,hb,hf⟩:=Lib.mapM_at hm i i (by simp[hi]);obtain⟨z,hc,rfl,_⟩:=DataW.trod_string he hf;have h1:cs[i]?=U (.string z):=by
     have:=iU (·[0]?) hc;simpa[List.getElem?_drop]using this
    have h2:(xs.map (·.1))[i]?=U (DataW.lit (.string z.data.toList):DataW H):=by simp[hb]
    rw[oL]at h2;simp only[iT,jz,DataW.lit.injEq,Lit.string.injEq]at h2;obtain⟨z',hz',rfl⟩:=h2;simp[h1,hz']
   rw[ny (by omega),ny (by simp;omega)]
  cases h
def Ur:(Rows.laid_nightwatch_conf_keywords:DataW Unit)=.agg ([kw 0,kw 1,kw 2,kw 3,kw 4,kw 5,kw 6,kw 7,kw 8,kw 9].map λz=>.lit (.string z)):=rfl
def D8:prog.globalNamed "nightwatch/conf.keywords" = U 12:=by kernel_rfl
def Us:(prog.globals[12]?).map (·.type)=U 190:=by kernel_rfl
def Ut:prog.cellsOf 190=10:=by kernel_rfl
def Uu{W:ah} {p:List MemPlace} (h:DataW.LaidVars prog W [("nightwatch/conf.keywords", Rows.laid_nightwatch_conf_keywords)] p):mF W:=by
 obtain⟨g',t',cs,fuel,p,q,gS,L_,D9,hd,_,_⟩:=h;obtain rfl:=b_ (D8.symm.trans gS);obtain rfl:=b_ (Us.symm.trans L_);rw[Ur]at hd;have hc:=Uq underlying190 underlying9 G4 Ut hd;intro i hi;have:=oK D8 D9 i;rw[this];have e:cs[i]?=cs.toList[i]?:=by rw[oI]
 rw[e,hc]
 match i,hi with
 |0,_=>rfl
 |1,_=>rfl
 |2,_=>rfl
 |3,_=>rfl
 |4,_=>rfl
 |5,_=>rfl
 |6,_=>rfl
 |7,_=>rfl
 |8,_=>rfl
 |9,_=>rfl
def oM(b o j:Nat):(⟨b,o,J⟩:av).add j=⟨b,o+j,J⟩:=by unfold Addr.add;split<;>simp_all
def kV{α:Type}(enc:α->List aj)(k:Nat)(T:TypeId)(B:Nat)(w:ah)(v:aj)(xs:List α):Prop:=w.ownsRow B T k v xs.length (xs.flatMap enc)
def G6{α:Type}{enc:α->List aj}(kF:∀x,(enc x).length=k):∀(xs:List α) (i j:Nat) (x:α) (u:aj),xs[i]?=U x->(enc x)[j]?=U u->(xs.flatMap enc)[i*k+j]?=U u
 |[],i,j,x,u,h,_=>by simp at h
 |y::t,0,j,x,u,h,hu=>by
  simp at h
  subst h;have hj:=(eK.1 hu).1;rw[wj,Nat.zero_mul,pH,qC hj];exact hu
 |y::t,i+1,j,x,u,h,hu=>by
  have ih:=G6 kF t i j x u (by simpa using h) hu;rw[wj,pE (by rw[kF];rw[Nat.succ_mul];omega),kF];have e:(i+1)*k+j-k=i*k+j:=by rw[Nat.succ_mul];omega
  rw[e];exact ih
def G7{α:Type}{enc:α->List aj}(kF:∀x,(enc x).length=k):∀(xs:List α),(xs.flatMap enc).length=xs.length*k
 |[]=>by simp
 |y::t=>by rw[wj,sP,kF,G7 kF t,wu,Nat.succ_mul];omega
def G8{α:Type}{enc:α->List aj}(kF:∀x,(enc x).length=k):∀(xs:List α) (n:Nat) (u:aj),(xs.flatMap enc)[n]?=U u->∃i j x,n=i*k+j/\xs[i]?=U x/\(enc x)[j]?=U u
 |[],n,u,h=>by simp at h
 |y::t,n,u,h=>by
  rw[wj]at h
  by_cases hn:n<k
  ·rw[qC (by rw[kF];exact hn)]at h;exact⟨0,n,y,by simp,rfl,h⟩
  rw[pE (by rw[kF];omega),kF]at h;obtain⟨i,j,x,e,h1,h2⟩:=G8 kF t _ u h;exact⟨i+1,j,x,by rw[Nat.succ_mul];omega,by simpa using h1,h2⟩
def kV.xM{α:Type}{enc:α->List aj}{B:Nat}{v:aj}{xs:List α}(h:kV enc k T B w v xs)(kF:∀x,(enc x).length=k):bY enc k w v xs:=by
 rcases h.2 with⟨rfl,h0⟩|⟨g,cap,cur,rfl,hB,hg,hle,-⟩
 ·have:=sN h0;subst this;exact⟨_,0,rfl,aR _,λe=>absurd rfl e⟩
 refine⟨_,cap,rfl,hle,λ_=>⟨g,0,rfl,λi x hx j u hu=>?_⟩⟩;have:=h.cells (g:=g) rfl _ u (G6 kF xs i j x u hx hu);rw[oM]at this;rw[xK];exact this
def kV.below{α:Type}{enc:α->List aj}{B:Nat}{v:aj}{xs:List α}(h:kV enc k T B w v xs)(hb:Below w.heap.size w w'):kV enc k T B w' v xs:=
 h.kept (row:=J) ⟨hb.os,hb.tape,hb.output,hb.size,λk hk _=>hb.block k hk⟩ (by by_cases e:v.ownBlock=J;exact cF e;exact bk e)
def kV.other{α:Type}{enc:α->List aj}{T':TypeId}{B:Nat}{v:aj}{xs:List α}(h:kV enc k T B w v xs)(hg:w.grownBy w' (U b)){c:Array aj}(hb:w.heap[b]?=U (ay c T' fr))(hT:T'≠T):kV enc k T B w' v xs:=by
 refine h.kept hg (bk ?_)
 rcases h.2 with⟨rfl,_⟩|⟨g,cap,cur,rfl,_,gS,_⟩
 ·simp[mC]
 intro e;simp only[mC,gQ]at e;subst e;rw[gS]at hb;simp only[gQ,uD]at hb;exact hT hb.2.1.symm
def Uv{α:Type}{w:ah}{ops:Array Oper}{rest:List Oper}{o:Oper}{a:Act}{Q:Exit->Act->ah->Prop}(hgd:o.guard=J)(s x:Operand)(t:TypeId)
  (ho:o.op=.call { callee:=.builtin .append,args:=#[s,x],argTypes:=#[t,t] })
  (B:Nat) (e:TypeId) (i:TypeInfo) (z:aj) (size bytes:Nat) (ht:prog.underlying t=U (.slice e)) (hi:prog.info? e=U i) (hz:i.zero=U z) (hsize:i.size=size) (hby:i.bytes=bytes) (hzs:z.cells.size=size) (hsz:0<size)
  (hs:a.eval s=.slice J 0 0) (enc:α->List aj) (kF:∀x,(enc x).length=size) (h1:∀x,∀u∈enc x,u.oneCell'=true) (v:aj) (xs:List α) (hx:a.eval x=v) (hv:bY enc size w v xs) (hm:xs.length<=1000000) (D_:bytes<=1000) (hB:B<=w.heap.size)
  (h:∀fw cap' w',kV enc size e B w' (.slice fw xs.length cap') xs->Below w.heap.size w w'->wpList prog ops Q rest (a.put o.dst (.slice fw xs.length cap')) w'):wpList prog ops Q (o::rest) a w:=by
 obtain⟨sa,cap,rfl,hle,hcell⟩:=hv
 by_cases hne:xs=[]
 ·subst hne
  refine wpList_plain hgd λK hK=>?_
  have G9:Src prog i.size t (.slice sa 0 cap) 0 [] w:=by
   cases sa with
   |none=>exact Src.ofNil w ht cap
   |some ad=>exact Src.ofSlice w ht ad 0 cap [] (by simp) (λj u hu=>by simp at hu) (λu hu=>by simp at hu)
  have hr:=run_append_nothing (P:=prog) w t t o.type e i ht hi J 0 0 (aR _) _ G9;unfold Oper.wp execOp;simp only[sR]at hx;simp only[ho,resolve,invoke,builtin,kT,uF,sQ,List.map_toArray,wz,List.map_nil,hs,hx,hr];exact hK _ _ (h _ 0 w (kE ..) (aC _ _))
 obtain⟨b,of,rfl,hc⟩:=hcell hne
 refine wpList_append_own w hgd s x t ho _ e i z _ _ ht hi hz hsize hby hzs hsz _ 0 [] hs (kE ..) _ _ cap _ hx (G7 kF xs) (λj u hu=>?_) (λu hu=>?_) (by unfold maxLen;omega) ?_ (aR _) (λv' w' hown hg hn=>?_)
 ·obtain⟨i',j',y,e1,h2,h3⟩:=G8 kF xs j u hu;have:=hc i' y h2 j' u h3;rw[e1,oM,<- xK];exact this
 ·simp only[List.mem_flatMap]at hu;obtain⟨y,-,hy⟩:=hu;exact h1 y u hy
 ·have:(0+xs.length)*bytes<=1000000*1000:=Nat.mul_le_mul (by omega) D_;omega
 have hown':w'.ownsRow w.heap.size e size v' xs.length (xs.flatMap enc):=by simpa using hown
 have hb:=(aC _ _).grown hg (aR _) (λk hk=>by simp[mC]at hk)
 rcases hown'.2 with⟨rfl,h0⟩|⟨g,Ea,cur,rfl,gT,r⟩
 ·exact absurd (sN h0) hne
 exact h _ _ w' ⟨hown'.1,bk ⟨g,_,cur,rfl,bH hB gT,r⟩⟩ hb
def G_:(prog.info? 9).map (λi=>(i.zero,i.size,i.bytes))=U (U (aB ⟨#[]⟩),1,16):=by kernel_rfl
def G':(prog.info? 85).map (λi=>(i.zero,i.size,i.bytes))=U (U (a_ #[af I 0,af I 0,af I 0,af I 0]),4,32):=by kernel_rfl
def Ma:(prog.info? 86).map (λi=>(i.zero,i.size,i.bytes))=U (U (a_ #[af I 0,af I 0]),2,16):=by kernel_rfl
def zP:(prog.info? 3).map (λi=>(i.zero,i.size,i.bytes))=U (U (af I 0),1,8):=by kernel_rfl
def Uw:∀(x:ByteArray),∀u∈gg x,u.oneCell'=true:=by intro x u hu;simp[gg]at hu;subst hu;rfl
def zQ:∀(x:Int),∀u∈bc x,u.oneCell'=true:=by intro x u hu;simp[bc]at hu;subst hu;rfl
def Mb:∀(x:Int×Int),∀u∈kU x,u.oneCell'=true:=by intro x u hu;simp[kU]at hu;rcases hu with rfl|rfl<;>rfl
def Mc:∀(x:lx),∀u∈j7 x,u.oneCell'=true:=by intro x u hu;simp[j7]at hu;rcases hu with rfl|rfl|rfl|rfl<;>rfl
structure rD(B:Nat)(w:ah)(e:aG)(pv gv ev fv lv:aj):Prop where
 hp:kV gg 1 9 B w pv e.au
 hg:kV j7 4 85 B w gv e.aP
 he:kV kU 2 86 B w ev e.aN
 hf:kV bc 1 3 B w fv e.first
 hl:kV bc 1 3 B w lv e.last
def rD.parts{B:Nat}(h:rD B w e pv gv ev fv lv):lO w e pv gv ev fv lv:=
 ⟨h.hp.xM (λ_=>rfl),h.hg.xM (λ_=>rfl),h.he.xM (λ_=>rfl),h.hf.xM (λ_=>rfl),h.hl.xM (λ_=>rfl)⟩
def rD.below{B:Nat}(h:rD B w e pv gv ev fv lv)(hb:Below w.heap.size w w'):rD B w' e pv gv ev fv lv:=
 ⟨h.hp.below hb,h.hg.below hb,h.he.below hb,h.hf.below hb,h.hl.below hb⟩
def pL(w:ah)(g:Nat)(cs:Array aj):w.grownBy (w.setRow g cs) (U g):=
 ⟨rfl,rfl,rfl,by simp[World.setRow],λk _ hk=>by
  have hne:¬g=k:=λe=>hk (by rw[e])
  simp[World.setRow,fR,hne]⟩
def jf{old:Array aj}(cs:Array aj)(h:w.heap[g]?=U (ay old t fr)):(w.setRow g cs).heap[g]?=U (ay cs t fr):=by simp[World.setRow,fR,h]
def Ux:(prog.info? 60).map (·.size)=U 10:=by kernel_rfl
def gG(B:Nat)(w:ah)(v:aj)(es:List aG):Prop:=
 ∃cells,w.ownsRow B 60 10 v es.length cells/\∀i e,es[i]?=U e->∃pv gv ev fv lv,rD B w e pv gv ev fv lv/\∀j u,(uK e pv gv ev fv lv)[j]?=U u->cells[i*10+j]?=U u
def gG.az{B:Nat}{v:aj}(h:gG B w v es):iJ w v es:=by
 obtain⟨cells,ho,hp⟩:=h
 rcases id ho.2 with⟨rfl,h0⟩|⟨g,cap,cur,rfl,hB,r⟩
 ·have:=sN h0;subst this;exact⟨_,0,rfl,λe=>absurd rfl e⟩
 refine⟨_,cap,rfl,λ_=>⟨g,0,rfl,λi e he=>?_⟩⟩;obtain⟨pv,gv,ev,fv,lv,h1,h2⟩:=hp i e he
 refine⟨pv,gv,ev,fv,lv,h1.parts,λj u hu=>?_⟩;have:=ho.cells (g:=g) rfl _ u (h2 j u hu);rw[oM]at this;rw[xK];exact this
def gG.nil(B:Nat)(w:ah):gG B w (ak J 0 0) []:=⟨[],kE _ _ _ _,λi e h=>by simp at h⟩
def gG.below{B:Nat}{v:aj}(h:gG B w v es)(hb:Below w.heap.size w w'):gG B w' v es:=by
 obtain⟨cells,ho,hp⟩:=h
 refine⟨_,ho.kept (row:=J) ⟨hb.os,hb.tape,hb.output,hb.size,λk hk _=>hb.block k hk⟩ (by by_cases e:v.ownBlock=J;exact cF e;exact bk e),λi e he=>?_⟩;obtain⟨pv,gv,ev,fv,lv,h1,h2⟩:=hp i e he;exact⟨pv,gv,ev,fv,lv,h1.below hb,h2⟩
def gG.other{B:Nat}{v:aj}(h:gG B w v es)(hg:w.grownBy w' (U b)){c:Array aj}(hb:w.heap[b]?=U (ay c 34 fr)):gG B w' v es:=by
 obtain⟨cells,ho,hp⟩:=h;have hne:v.ownBlock≠U b:=by
  rcases ho.2 with⟨rfl,_⟩|⟨g,cap,cur,rfl,_,gS,_⟩
  ·simp[mC]
  intro e;simp only[mC,gQ]at e;subst e;rw[gS]at hb;simp only[gQ,uD]at hb;exact absurd hb.2.1 (aD rfl)
 refine⟨_,ho.kept hg (bk hne),λi e he=>?_⟩;obtain⟨pv,gv,ev,fv,lv,h1,h2⟩:=hp i e he;exact⟨pv,gv,ev,fv,lv,⟨h1.hp.other hg hb (aD rfl),h1.hg.other hg hb (aD rfl),h1.he.other hg hb (aD rfl),h1.hf.other hg hb (aD rfl),h1.hl.other hg hb (aD rfl)⟩,h2⟩
def Md:(prog.info? 60).map (λi=>(i.zero,i.size,i.bytes))=U (U (a_ #[aB ⟨#[]⟩,af I 0,ak J 0 0,af I 0,af I 0,af I 0,ak J 0 0,ak J 0 0,ak J 0 0,ak J 0 0]),10,168):=by kernel_rfl
def oN:(prog.info? 34).map (·.size)=U 5:=by kernel_rfl
def byte_at(s:ByteArray)(k:Nat)(h:k<s.size):s[k]=s.data.toList.getD k 0:=by
 have:k<s.data.toList.length:=by rw[qD];exact h
 rw[nu,bL this];rfl
def Ha(h:s.size<1\/12<s.size):isName s=false:=by
 unfold isName
 rcases h with h|h
 ·have:decide (1<=s.size)=false:=bX (by omega);rw[this];rfl
 have:decide (s.size<=12)=false:=bX (by omega);rw[this];simp
def Me(h:lL (s.data.toList.getD 0 0)=false):isName s=false:=by
 have e:s.data.getD 0 0=s.data.toList.getD 0 0:=by simp
 unfold isName;rw[e,h];simp
def Mf(h1:k<s.size)(h:gP (s.data.toList.getD k 0)=false):isName s=false:=by
 have hk:k<s.data.toList.length:=by rw[qD];exact h1
 have:s.data.toList.all gP=false:=by
  rw[List.all_eq_false]
  refine⟨s.data.toList.getD k 0,?_,by simpa using h⟩;rw[nu,bL hk];exact List.getElem_mem hk
 unfold isName;rw[this];simp
def Mg(h1:1<=s.size)(h2:s.size<=12)(h3:lL (s.data.toList.getD 0 0)=true)(h:∀j,j<s.size->gP (s.data.toList.getD j 0)=true):isName s=true:=by
 have e:s.data.getD 0 0=s.data.toList.getD 0 0:=by simp
 have ha:s.data.toList.all gP=true:=by
  rw[mB];intro b hb;obtain⟨j,hj,rfl⟩:=zL hb;have:=h j (by rw[qD]at hj;exact hj);rw[nu,bL hj]at this;exact this
 unfold isName;rw[e,h3,ha];simp[h1,h2]
def Mh(w:ah)(t:ByteArray):∃cap W,(convert 9 203 (aB t)).run prog w=.ok (ak (U ⟨w.heap.size,0,.none⟩) t.size cap) W/\Below w.heap.size w W /\
  (∀j,j<t.size->W.cell? ⟨w.heap.size,j,.none⟩=U (af .u8 ((t.data.toList.getD j 0).toNat:Int))):=by
 exact⟨_,_,Lib.run_convert_string_bytes w 9 203 5 t underlying9 underlying203 underlying5,⟨rfl,rfl,rfl,by rw[Lib.bytesWorld_size];omega,λi hi=>Lib.bytesWorld_at_old w _ t i hi⟩,λj hj=>Lib.bytesWorld_cell w _ t j hj⟩
def Uy(s:ByteArray)(w:ah)(hs:s.size<=1000000):Calls prog 96 #[aB s] w λe w'=>e=aH (aJ (isName s))/\Below w.heap.size w w':=by
 by_cases hsz:1<=s.size/\s.size<=12
 ·obtain⟨z1,z2⟩:=hsz;have hw:=BD (s.size:Int) 1 12 w;rw[show within _ 1 12=true by simp[within];omega]at hw;have k0:(0:Int)<(s.size:Int):=by omega
  have hb0:ag _:=λh=>byte_at s 0 h
  have hl:=L6 (s.data.toList.getD 0 0) w
  by_cases hL:lL (s.data.toList.getD 0 0)=true
  ·rw[hL]at hl;have HZ:ag (1<=s.size/\s.size<=12/\lL _=true):=⟨z1,z2,hL⟩;clear z1 z2 hL hs;go_enter func96,ntmps96
   go_wp2_with fail
   refine hw.mono ?_;rintro e w' ⟨rfl,rfl⟩;go_wp2_with fail
   rw[hb0.o]
   refine hl.mono ?_;rintro e w ⟨rfl,rfl⟩;clear hl hw hb0 k0;obtain⟨cap,W,hcv,(rE:ag _),(hcell:ag _)⟩:=Mh w s;go_wp2_with fail
   go_loopw [4,18] (λ_ i wr=>∃k:Nat,k<=s.size/\i=af I k/\wr=W/\∀j,j<k->gP (s.data.toList.getD j 0)=true) (λ_ i _=>s.size-(intOf i).toNat)
   case atStart=>exact⟨0,cG _,rfl,rfl,λj hj=>absurd hj (im _)⟩
   case round=>
    obtain⟨k,hk,rfl,rfl,hall⟩:=hrel
    by_cases hlt:k<s.size
    ·have hc:=hcell k hlt;change ag _ at hall
     have HY:ag _:=λh=>Mf hlt h
     have k1:(k:Int)<(s.size:Int):=by omega
     have Hb:k<12:=by have:=HZ.2.1;omega
     have HX:ag (∀b:Bool,gP _=b->gP (s.data.toList.getD k 0)=b):=λb h=>h
     have HK:ag (∃c,c=s.data.toList.getD k 0):=⟨_,rfl⟩;clear hcv;obtain⟨c,hcc⟩:=HK.o;rw[<- hcc]at hc;change ag _ at hcc
     clear HK HX;have hd:=GZ c;have hl2:=L6 c
     by_cases b1:lL c=true
     ·rw[b1]at hl2;go_wp2_with fail
      apply(hl2 _).mono;rintro e w' ⟨rfl,rfl⟩;go_wp2;go_roundw
      case rel=>
       refine⟨k+1,by omega,by go_num,by first|trivial|rfl,λj hj=>?_⟩
       by_cases e:j=k
       ·rw[e,<- hcc.o];simp[gP,b1]
       exact hall j (by omega)
      case measure=>simp[intOf];omega
     simp only[xI]at b1;rw[b1]at hl2
     by_cases b2:gO c=true
     ·rw[b2]at hd;go_wp2_with fail
      apply(hl2 _).mono;rintro e w' ⟨rfl,rfl⟩;go_wp2_with fail
      apply(hd _).mono;rintro e w' ⟨rfl,rfl⟩;go_wp2;go_roundw
      case rel=>
       refine⟨k+1,by omega,by go_num,by first|trivial|rfl,λj hj=>?_⟩
       by_cases e:j=k
       ·rw[e,<- hcc.o];simp[gP,b2]
       exact hall j (by omega)
      case measure=>simp[intOf];omega
     simp only[xI]at b2;rw[b2]at hd
     by_cases b3:(c.toNat:Int)=45
     ·have b4:((c.toNat:Int)==45)=true:=by simpa using b3
      have HN:ag (gP c=true):=by show _=_;simp[gP];right;omega
      clear b3;go_wp2_with fail
      apply(hl2 _).mono;rintro e w' ⟨rfl,rfl⟩;go_wp2_with fail
      apply(hd _).mono;rintro e w' ⟨rfl,rfl⟩;go_wp2;go_roundw
      case rel=>
       refine⟨k+1,by omega,by go_num,by first|trivial|rfl,λj hj=>?_⟩
       by_cases e:j=k
       ·rw[e,<- hcc.o];exact HN
       exact hall j (by omega)
      case measure=>simp[intOf];omega
     have HN:ag (gP c=false):=by show _=_;simp[gP,b1,b2];omega
     go_wp2_with fail
     apply(hl2 _).mono;rintro e w' ⟨rfl,rfl⟩;go_wp2_with fail
     apply(hd _).mono;rintro e w' ⟨rfl,rfl⟩;go_wp2;go_ret;exact⟨by rw[HY.o (by rw[<- hcc.o];exact HN.o)];rfl,rE⟩
    have HY:ag _:=Mg HZ.1 HZ.2.1 HZ.2.2 (λj hj=>hall j (by omega));have k1:¬(k:Int)<(s.size:Int):=by omega
    clear hall hcv;go_wp2;go_ret;exact⟨by rw[HY.o];rfl,rE⟩
  simp only[xI]at hL;rw[hL]at hl;have HY:ag _:=Me hL;go_enter func96,ntmps96
  go_wp2_with fail
  refine hw.mono ?_;rintro e w' ⟨rfl,rfl⟩;go_wp2_with fail
  rw[hb0.o]
  refine hl.mono ?_;rintro e w' ⟨rfl,rfl⟩;go_wp2;go_ret;exact⟨by rw[HY.o];rfl,aC _ _⟩
 have hw:=BD (s.size:Int) 1 12 w;rw[show within _ 1 12=false by simp[within];omega]at hw;have HY:ag (isName s=false):=Ha (by omega);clear hsz;go_enter func96,ntmps96
 go_wp2_with fail
 refine hw.mono ?_;rintro e w' ⟨rfl,rfl⟩;go_wp2;go_ret;exact⟨by rw[HY.o];rfl,aC _ _⟩
open Go
def er(ops:Array Oper)(j:Nat):Option Tmp:=(ops[j]?).bind (·.dst)
def fill(ops:Array Oper)(a0:Act)(vals:Nat->Option aj):Nat->Act
 |0=>a0
 |k+1=>match vals k with
  |none=>fill ops a0 vals k
  |some v=>(fill ops a0 vals k).put (er ops k) v
def dE(vals:Nat->Option aj)(i:Nat)(v:aj):Nat->Option aj:=λj=>if j=i then U v else vals j
def BG(ops:Array Oper):Prop:=∀i j d,i≠j->er ops i=U d->er ops j≠U d
def Eb(ops:Array Oper)(a0:Act)(vals:Nat->Option aj):∀k,(fill ops a0 vals k).tmps.size=a0.tmps.size:=by
 intro k
 induction k with
 |zero=>rfl
 |succ k ih=>
  unfold fill
  split
  ·exact ih
  cases er ops k<;>simp[Act.put,ih]
def Hc(ops:Array Oper)(a0:Act)(vals:Nat->Option aj)(d:Tmp):∀k,(∀j,j<k->er ops j≠U d)->(fill ops a0 vals k).eval (.tmp d)=a0.eval (.tmp d):=by
 intro k
 induction k with
 |zero=>intro _;rfl
 |succ k ih=>
  intro h;unfold fill
  split
  ·exact ih (λj hj=>h j (by omega))
  rw[Act.eval_put (λe he hx=>h k (by omega) (by rw[he];cases hx;rfl))];exact ih (λj hj=>h j (by omega))
def Hd(ops:Array Oper)(a0:Act)(vals:Nat->Option aj)(hd:BG ops)(j:Nat)(d:Tmp)(v:aj)(hj:vals j=U v)(Mi:er ops j=U d)(hlt:d<a0.tmps.size):∀k,j<k->(fill ops a0 vals k).eval (.tmp d)=v:=by
 intro k
 induction k with
 |zero=>intro h;omega
 |succ k ih=>
  intro h;unfold fill
  by_cases e:j=k
  ·subst e;rw[hj];have hs:=Eb ops a0 vals j;simp only[Mi,Act.put,Act.eval];simp[hs,hlt]
  have hk:=ih (by omega)
  split
  ·exact hk
  rw[Act.eval_put (λe2 he hx=>hd j k d e Mi (by rw[he];cases hx;rfl))];exact hk
def Uz(ops:Array Oper)(a0:Act)(vals:Nat->Option aj)(i:Nat)(v:aj):∀k,k<=i->fill ops a0 (dE vals i v) k=fill ops a0 vals k:=by
 intro k
 induction k with
 |zero=>intro _;rfl
 |succ k ih=>
  intro h;have e:dE vals i v k=vals k:=by simp[dE];omega
  unfold fill;rw[e,ih (by omega)]
def He(ops:Array Oper)(a0:Act)(vals:Nat->Option aj)(hd:BG ops)(i:Nat)(v:aj)(hi:vals i=J):∀k,i<k->fill ops a0 (dE vals i v) k=(fill ops a0 vals k).put (er ops i) v:=by
 intro k
 induction k with
 |zero=>intro h;omega
 |succ k ih=>
  intro h
  by_cases e:i=k
  ·subst e;have e1:dE vals i v i=U v:=by simp[dE]
   have e2:=Uz ops a0 vals i v i (aR _);simp only[fill,e1,hi,e2]
  have e1:dE vals i v k=vals k:=by simp[dE,ey e]
  have hk:=ih (by omega);simp only[fill,e1,hk]
  cases hv:vals k with
  |none=>rfl
  |some u=>exact(Act.put_comm _ v u (λd UA=>hd i k d e UA))
def cnt(vals:Nat->Option aj):Nat->Nat
 |0=>0
 |k+1=>cnt vals k+(if (vals k).isNone then 1 else 0)
def UB(vals:Nat->Option aj)(i:Nat)(v:aj):∀k,k<=i->cnt (dE vals i v) k=cnt vals k:=by
 intro k
 induction k with
 |zero=>intro _;rfl
 |succ k ih=>
  intro h;have e:dE vals i v k=vals k:=by simp[dE];omega
  simp only[cnt,e,ih (by omega)]
def Hf(vals:Nat->Option aj)(i:Nat)(v:aj)(hi:vals i=J):∀k,i<k->cnt (dE vals i v) k+1=cnt vals k:=by
 intro k
 induction k with
 |zero=>intro h;omega
 |succ k ih=>
  intro h
  by_cases e:i=k
  ·subst e;have e1:dE vals i v i=U v:=by simp[dE]
   simp only[cnt,e1,hi,UB vals i v i (aR _)];simp
  have e1:dE vals i v k=vals k:=by simp[dE,ey e]
  have:=ih (by omega);simp only[cnt,e1];omega
def Hg(vals:Nat->Option aj):∀k,cnt vals k=0->∀j,j<k->(vals j).isSome=true:=by
 intro k
 induction k with
 |zero=>intro _ j h;omega
 |succ k ih=>
  intro h j hj;simp only[cnt]at h
  by_cases e:j=k
  ·subst e
   cases hv:vals j with
   |none=>simp[hv]at h
   |some v=>rfl
  exact ih (by omega) j (by omega)
def wC(ops:Array Oper)(n:Nat):Bool:=
 ((List.range ops.size).all λi=>(List.range ops.size).all λj=>i==j||(match er ops i,er ops j with|some d,U e=>d != e|_,_=>true)) &&
 ((List.range ops.size).all λi=>match er ops i with|some d=>decide (d<n)|none=>true) &&
 ((List.range ops.size).all λi=>match ops[i]? with|some o=>o.after.toList.all λe=>!Region.binds .any e||decide (e.on<i)|none=>true)
def sV(h:er ops j=U d):j<ops.size:=by
 rcases eC j ops.size with h'|h'
 ·exact h'
 simp[er,sO h']at h
def nB(h:((List.range ops.size).all λj=>!(er ops j==U d))=true):∀j,er ops j≠U d:=λj e=>by
 have:=mB.1 h j (pG.2 (sV e));simp[e]at this
def dz{a:Act}(h:a.eval (.tmp d)=c):a.tmps[d]?.getD undef=c:=by
 rw[<- pD];exact h
def Ec(P:Program)(C:(Nat->Option aj)->ah->Prop)(vals:Nat->Option aj)(i:Nat):Result Next->Prop
 |.ok (.value u) w'=>C (dE vals i u) w'
 |.ok .skip w'=>C (dE vals i undef) w'
 |.ok (.enter f args) w'=>Calls P f args w' λe w''=>∃v,e=aH v/\C (dE vals i v) w''
 |_=>False
section
variable {P:Program}{ops:Array Oper}{Q:Exit->Act->ah->Prop}{md:Region.Mode}{C:(Nat->Option aj)->ah->Prop}{a0:Act}
def Mj(P:Program)(md:Region.Mode)(ops:Array Oper)(C:(Nat->Option aj)->ah->Prop)(a0:Act)(i:Nat)(o:Oper):Prop:=
 ∀(vals:Nat->Option aj) (a:Act) (w:ah),C vals w->vals i=J->a.tmps.size=a0.tmps.size->(∀e,e∈o.after->Region.binds md e=true->∃v,vals e.on=U v/\∀d,er ops e.on=U d->a.eval (.tmp d)=v) ->
  (∀d,(∀j,er ops j≠U d)->a.eval (.tmp d)=a0.eval (.tmp d)) ->
  if Region.wanted o (yielded ops a.tmps)=true then Ec P C vals i ((execOp a.eval o).run P w)else C (dE vals i undef) w
def UC(hd:BG ops)(dr:∀j d,er ops j=U d->d<a0.tmps.size)
  (hback:∀i o,ops[i]?=U o->∀e,e∈o.after->Region.binds md e=true->e.on<i)
  (step:∀i o,ops[i]?=U o->Mj P md ops C a0 i o)
  (fin:∀(vals:Nat->Option aj) (w:ah),C vals w->(∀j,j<ops.size->(vals j).isSome=true)->Q .normal (fill ops a0 vals ops.size) w):∀(fuel:Nat) (listed:Array Bool) (vals:Nat->Option aj) (w:ah),listed.size=ops.size->(∀j,j<ops.size->listed.getD j true=(vals j).isSome)->C vals w ->
   cnt vals ops.size<=fuel->wpAny P md ops Q fuel listed (fill ops a0 vals ops.size) w:=by
 have BH:∀(listed:Array _) (vals:Nat->Option aj),listed.size=ops.size->(∀j,j<ops.size->listed.getD j true=(vals j).isSome)->Region.ready md ops listed=[]->∀j,j<ops.size->(vals j).isSome=true:=by
  intro listed vals hsz hl hr j
  induction j using Nat.strongRecOn with
  |ind j ih=>
   intro hj
   cases hv:(vals j).isSome with
   |true=>rfl
   |false=>
    exfalso
    have hm:j∈Region.ready md ops listed:=by
     rw[mem_ready]
     refine⟨by rw[hl j hj,hv],_,eB hj,λe he hb=>?_⟩;have hlt:=hback j _ (eB hj) e he hb;have h1:=ih _ hlt (by omega);have h2:=hl e.on (by omega);rw[h1]at h2;have h3:e.on<listed.size:=by omega
     simp only[pD,eB h3,bC]at h2⊢;exact h2
    rw[hr]at hm
    cases hm
 intro fuel
 induction fuel with
 |zero=>
  intro listed vals w hsz hl hC hc;have hall:=Hg vals ops.size (by omega)
  refine⟨?_,fin _ w hC hall⟩
  cases hr:Region.ready md ops listed with
  |nil=>rfl
  |cons i r=>
   have hm:i∈Region.ready md ops listed:=by rw[hr];exact xJ ..
   rw[mem_ready]at hm;obtain⟨h0,o,ho,-⟩:=hm;have hi:=(bD.1 ho).1;rw[hl i hi,hall i hi]at h0
   cases h0
 |succ fuel ih=>
  intro listed vals w hsz hl hC hc
  refine⟨λhr=>fin _ w hC (BH _ _ hsz hl hr),λi hm=>?_⟩;rw[mem_ready]at hm;obtain⟨h0,o,ho,BI⟩:=hm;have hi:=(bD.1 ho).1;have hnone:vals i=J:=by
   rw[hl i hi]at h0
   cases hv:vals i with
   |none=>rfl
   |some v=>rw[hv]at h0;cases h0
  have dQ:er ops i=o.dst:=by simp[er,ho]
  have hst:=step i o ho _ _ w hC hnone (Eb ..) (λe he hb=>by
    have h1:=BI e he hb;have hlt:=hback i o ho e he hb;have h2:=hl e.on (by omega);have h3:e.on<listed.size:=by omega
    have h4:(vals e.on).isSome=true:=by
     rw[<- h2];simp only[pD,eB h3,bC]at h1⊢;exact h1
    cases hv:vals e.on with
    |none=>rw[hv]at h4;cases h4
    |some v=>exact⟨v,rfl,λd wD=>Hd ops a0 _ hd _ d v hv wD (dr _ _ wD) _ (by omega)⟩)
   (λd rC=>Hc ops a0 vals d ops.size (λj _=>rC j))
  have sW:∀(v:aj) (w':ah),C (dE vals i v) w'->wpAny P md ops Q fuel (listed.setIfInBounds i true) ((fill ops a0 vals ops.size).put o.dst v) w':=by
   intro v w' wE;rw[<- dQ,<- He ops a0 _ hd i v hnone _ hi]
   refine ih _ _ w' (by simp[hsz]) (λj hj=>?_) wE (by have:=Hf _ i v hnone _ hi;omega)
   by_cases e:j=i
   ·subst e;simp[dE]
   rw[getD_set_ne _ (ey e),hl j hj];simp[dE,e]
  unfold wpOp;simp only[ho]
  split
  ·rename_i hw;rw[aU hw]at hst
   refine .inl ?_;unfold Oper.wp;generalize (execOp (fill ops a0 vals ops.size).eval o).run P w=r at hst
   cases r with
   |ok n w'=>
    cases n<;>simp only[Ec]at hst<;>simp only[Oper.upon]
    case value u=>exact sW _ _ hst
    case skip=>exact sW _ _ hst
    case enter f args=>exact hst.mono λe w'' ⟨v,he,h1⟩=>by subst he;exact sW _ _ h1
   |halt x w'=>simp only[Ec]at hst
  rename_i hw;rw[aF hw]at hst;exact sW _ _ hst
def UD{id:Nat}(n:Nat)(hn:ops.size=n)(C:(Nat->Option aj)->ah->Prop)(hm:P.follows .mixedOrders=true)(hB:wC ops a0.tmps.size=true)(hC:C (λ_=>J) w.drew)
  (step:∀i o,ops[i]?=U o->Mj P .any ops C a0 i o)
  (fin:∀(vals:Nat->Option aj) (w:ah),C vals w->(∀j,j<n->(vals j).isSome=true)->Q .normal (fill ops a0 vals n) w):(Code.region id ops true).wp P Q a0 w:=by
 subst hn;unfold wC at hB;simp only[kS,mB,pG]at hB;obtain⟨⟨h1,h2⟩,h3⟩:=hB
 refine wp_region_any hm ?_;have hnone:fill ops a0 (λ_=>J) ops.size=a0:=by
  have:∀k,fill ops a0 (λ_=>J) k=a0:=by
   intro k
   induction k with
   |zero=>rfl
   |succ k ih=>simp only[fill,ih]
  exact this _
 have key:=UC (P:=P) (ops:=ops) (Q:=Q) (md:=.any) (C:=C) (a0:=a0)
  (λi j d hne hi hj=>by
   have h:=h1 i (sV hi) j (sV hj);simp[hne,hi,hj]at h)
  (λj d hj=>by
   have h:=h2 j (sV hj);rw[hj]at h;simpa using h)
  (λi o ho e he hb=>by
   have h:=h3 i (bD.1 ho).1;rw[ho]at h;have:=mB.1 h e (by simpa using he);simpa[hb]using this)
  step fin ops.size (Array.replicate ops.size false) _ _ (by simp) (λj hj=>by simp[hj]) hC (by
   have:∀k,cnt (λ_=>J) k<=k:=by
    intro k
    induction k with
    |zero=>exact aR _
    |succ k ih=>simp only[cnt];split<;>omega
   exact this _)
 rw[hnone]at key;exact key
def UE(vals:Nat->Option aj)(i:Nat)(v:aj):dE vals i v i=U v:=by simp[dE]
def Hh(vals:Nat->Option aj)(v:aj)(h:j≠i):dE vals i v j=vals j:=by simp[dE,h]
end
def mark(done:Nat->Bool)(i:Nat):Nat->Bool:=λj=>decide (j=i)||done j
def UF(vals:Nat->Option aj)(i:Nat)(v:aj):(λj=>(dE vals i v j).isSome)=mark (λj=>(vals j).isSome) i:=by
 funext j
 unfold mark dE
 by_cases h:j=i
 ·simp[h]
 simp[h]
def gU(P:Program)(S:Nat->aj->ah->Prop)(C:(Nat->Bool)->ah->Prop)(done:Nat->Bool)(i:Nat)(w:ah):Result Next->Prop
 |.ok (.value u) w'=>C (mark done i) w'/\(∀j v,done j=true->S j v w->S j v w')/\S i u w'
 |.ok .skip w'=>C (mark done i) w'/\(∀j v,done j=true->S j v w->S j v w')/\S i undef w'
 |.ok (.enter f args) w'=>Calls P f args w' λe w''=>∃v,e=aH v/\C (mark done i) w''/\(∀j v,done j=true->S j v w->S j v w'')/\S i v w''
 |_=>False
section
variable {P:Program}{ops:Array Oper}{Q:Exit->Act->ah->Prop}{md:Region.Mode}{S:Nat->aj->ah->Prop}{C:(Nat->Bool)->ah->Prop}{a0:Act}
def j8(P:Program)(md:Region.Mode)(ops:Array Oper)(S:Nat->aj->ah->Prop)(C:(Nat->Bool)->ah->Prop)(a0:Act)(i:Nat)(o:Oper):Prop:=
 ∀(done:Nat->Bool) (a:Act) (w:ah),C done w->done i=false->a.tmps.size=a0.tmps.size->(∀e,e∈o.after->Region.binds md e=true->done e.on=true)->(∀e d,e∈o.after->Region.binds md e=true->er ops e.on=U d->S e.on (a.eval (.tmp d)) w) ->
  (∀d,(∀j,er ops j≠U d)->a.eval (.tmp d)=a0.eval (.tmp d)) ->
  if Region.wanted o (yielded ops a.tmps)=true then gU P S C done i w ((execOp a.eval o).run P w)else C (mark done i) w/\S i undef w
def Mk{ops:Array Oper}{a0:Act}{vals:Nat->Option aj}(h:∀j,j<n->(vals j).isSome=true):∀k,k<=n->fill ops a0 vals k=fill ops a0 (λj=>U ((vals j).getD undef)) k
 |0,_=>rfl
 |k+1,hk=>by
  have hs:=h k (by omega)
  cases hv:vals k with
  |none=>rw[hv]at hs;cases hs
  |some v=>simp only[fill,hv,bC,Mk h k (by omega)]
def Ml{id:Nat}(n:Nat)(hn:ops.size=n)(S:Nat->aj->ah->Prop)(C:(Nat->Bool)->ah->Prop)(hm:P.follows .mixedOrders=true)(hB:wC ops a0.tmps.size=true)(hC:C (λ_=>false) w.drew)
  (step:∀i o,ops[i]?=U o->j8 P .any ops S C a0 i o)
  (fin:∀(vals:Nat->aj) (w:ah),C (λj=>decide (j<n)) w->(∀j,j<n->S j (vals j) w)->Q .normal (fill ops a0 (λj=>U (vals j)) n) w):(Code.region id ops true).wp P Q a0 w:=by
 have key:∀{vals:Nat->Option aj} {w w':ah} {i:Nat} {v:aj},i<n->(∀j,n<=j->vals j=J)->(∀j v,vals j=U v->S j v w)->C (mark (λj=>(vals j).isSome) i) w'->(∀j v,(vals j).isSome=true->S j v w->S j v w')->S i v w'->C (λj=>(dE vals i v j).isSome) w'/\(∀j,n<=j->dE vals i v j=J)/\∀j u,dE vals i v j=U u->S j u w':=λ{vals w w' i v} hi ho hS hC hK hs=>⟨by rw[UF];exact hC,λj hj=>by rw[Hh _ _ (by omega)];exact ho j hj,λj u hu=>by
  by_cases e:j=i
  ·subst e;rw[UE]at hu
   cases hu
   exact hs
  rw[Hh _ _ e]at hu;exact hK j u (by rw[hu];rfl) (hS j u hu)⟩
 refine UD n hn (λvals w=>C (λj=>(vals j).isSome) w/\(∀j,n<=j->vals j=J)/\∀j v,vals j=U v->S j v w) hm hB ⟨hC,λ_ _=>rfl,λ_ _ h=>by cases h⟩ (λi o ho vals a w ⟨h1,h2,h3⟩ hi hsz aY bj=>?_) (λvals w ⟨h1,h2,h3⟩ hall=>?_)
 ·have sX:i<n:=by rw[<- hn];exact(bD.1 ho).1
  have h:=step i o ho _ a w h1 (by simp[hi]) hsz (λe he hb=>by obtain⟨v,e1,-⟩:=aY e he hb;rw[e1];rfl) (λe d he hb hd=>by obtain⟨v,e1,e2⟩:=aY e he hb;rw[e2 d hd];exact h3 _ _ e1) bj
  split
  ·rename_i hw;rw[aU hw]at h;generalize (execOp a.eval o).run P w=r at h
   cases r with
   |ok x w'=>
    cases x<;>simp only[gU]at h<;>simp only[Ec]
    case value u=>exact key sX h2 h3 h.1 h.2.1 h.2.2
    case skip=>exact key sX h2 h3 h.1 h.2.1 h.2.2
    case enter f args=>exact h.mono λe w'' ⟨v,he,k1,k2,k3⟩=>⟨v,he,key sX h2 h3 k1 k2 k3⟩
   |halt x w'=>simp only[gU]at h
  rename_i hw;rw[aF hw]at h;exact key sX h2 h3 h.1 (λ_ _ _ h=>h) h.2
 rw[Mk hall n (aR _)]
 refine fin _ w ?_ (λj hj=>?_)
 ·rw[show (λj=>decide (j<n))=λj=>(vals j).isSome from funext λj=>by by_cases hj:j<n<;>simp[hj,hall]<;>(rw[h2 j (by omega)])];exact h1
 have hs:=hall j hj
 cases hv:vals j with
 |none=>rw[hv]at hs;cases hs
 |some v=>exact h3 j v hv
def j8.free{i:Nat}{o:Oper}(hg:o.guard=J)
  (hrun:∀(done:Nat->Bool) (a:Act) (w:ah),C done w->done i=false->(∀e,e∈o.after->Region.binds md e=true->done e.on=true)->(∀e d,e∈o.after->Region.binds md e=true->er ops e.on=U d->S e.on (a.eval (.tmp d)) w)->(∀d,(∀j,er ops j≠U d)->a.eval (.tmp d)=a0.eval (.tmp d))->gU P S C done i w ((execOp a.eval o).run P w)):j8 P md ops S C a0 i o:=by
 intro done a w hC hi _ dQ aY bj;rw[aU (by unfold Region.wanted;rw[hg])];exact hrun _ a w hC hi dQ aY bj
def gU.val{done:Nat->Bool}(hr:r=.ok (.value c) w)(hC:C (mark done i) w)(hS:S i c w):gU P S C done i w r:=by
 subst hr;exact⟨hC,λ_ _ _ h=>h,hS⟩
def gU.made{done:Nat->Bool}(hr:r=.ok (.value c) w')(hC:C (mark done i) w')(hK:∀j v,done j=true->S j v w->S j v w')(hS:S i c w'):gU P S C done i w r:=by
 subst hr;exact⟨hC,hK,hS⟩
def gU.UG{done:Nat->Bool}(hr:r=.ok .skip w')(hC:C (mark done i) w')(hK:∀j v,done j=true->S j v w->S j v w')(hS:S i undef w'):gU P S C done i w r:=by
 subst hr;exact⟨hC,hK,hS⟩
end
def goodRun(P:Program)(S:Nat->aj->ah->Prop)(C:ah->Prop)(i:Nat)(w:ah):Result Next->Prop
 |.ok (.value u) w'=>C w'/\(∀j v,S j v w->S j v w')/\S i u w'
 |.ok .skip w'=>C w'/\(∀j v,S j v w->S j v w')/\S i undef w'
 |.ok (.enter f args) w'=>Calls P f args w' λe w''=>∃v,e=aH v/\C w''/\(∀j v,S j v w->S j v w'')/\S i v w''
 |_=>False
section
variable {P:Program}{ops:Array Oper}{Q:Exit->Act->ah->Prop}{md:Region.Mode}{S:Nat->aj->ah->Prop}{C:ah->Prop}{a0:Act}
def uL(P:Program)(md:Region.Mode)(ops:Array Oper)(S:Nat->aj->ah->Prop)(C:ah->Prop)(a0:Act)(i:Nat)(o:Oper):Prop:=
 ∀(a:Act) (w:ah),C w->a.tmps.size=a0.tmps.size->(∀e d,e∈o.after->Region.binds md e=true->er ops e.on=U d->S e.on (a.eval (.tmp d)) w) ->
  (∀d,(∀j,er ops j≠U d)->a.eval (.tmp d)=a0.eval (.tmp d)) ->
  if Region.wanted o (yielded ops a.tmps)=true then goodRun P S C i w ((execOp a.eval o).run P w)else S i undef w
def zR{id:Nat}(n:Nat)(hn:ops.size=n)(S:Nat->aj->ah->Prop)(C:ah->Prop)(hm:P.follows .mixedOrders=true)(hB:wC ops a0.tmps.size=true)(hC:C w.drew)
  (step:∀i o,ops[i]?=U o->uL P .any ops S C a0 i o)
  (fin:∀(vals:Nat->aj) (w:ah),C w->(∀j,j<n->S j (vals j) w)->Q .normal (fill ops a0 (λj=>U (vals j)) n) w):(Code.region id ops true).wp P Q a0 w:=by
 refine Ml n hn S (λ_=>C) hm hB hC (λi o ho _ a w h1 _ hsz _ aY bj=>?_) fin;have h:=step i o ho a w h1 hsz aY bj
 split
 ·rename_i hw;rw[aU hw]at h;generalize (execOp a.eval o).run P w=r at h
  cases r with
  |ok x w'=>
   cases x<;>simp only[goodRun]at h<;>simp only[gU]
   case value u=>exact⟨h.1,λj v _=>h.2.1 j v,h.2.2⟩
   case skip=>exact⟨h.1,λj v _=>h.2.1 j v,h.2.2⟩
   case enter f args=>exact h.mono λe w'' ⟨v,he,k1,k2,k3⟩=>⟨v,he,k1,λj v _=>k2 j v,k3⟩
  |halt x w'=>simp only[goodRun]at h
 rename_i hw;rw[aF hw]at h;exact⟨h1,h⟩
def uL.free{i:Nat}{o:Oper}(hg:o.guard=J)
  (hrun:∀(a:Act) (w:ah),C w->(∀e d,e∈o.after->Region.binds md e=true->er ops e.on=U d->S e.on (a.eval (.tmp d)) w)->(∀d,(∀j,er ops j≠U d)->a.eval (.tmp d)=a0.eval (.tmp d))->goodRun P S C i w ((execOp a.eval o).run P w)):uL P md ops S C a0 i o:=by
 intro a w hC _ aY bj;rw[aU (by unfold Region.wanted;rw[hg])];exact hrun a w hC aY bj
def goodRun.made(hr:r=.ok (.value c) w')(hC:C w')(hK:∀j v,S j v w->S j v w')(hS:S i c w'):goodRun P S C i w r:=by
 subst hr;exact⟨hC,hK,hS⟩
def goodRun.call{i:Nat}{f:FuncId}{args:Array aj}(hr:r=.ok (.enter f args) w)
  (hc:Calls P f args w λe w''=>∃v,e=aH v/\C w''/\(∀j v,S j v w->S j v w'')/\S i v w''):goodRun P S C i w r:=by
 subst hr;exact hc
def goodRun.val(hr:r=.ok (.value c) w)(hC:C w)(hS:S i c w):goodRun P S C i w r:=by
 subst hr;exact⟨hC,λ_ _ h=>h,hS⟩
end
def Hi(p:Nat->Oper->Prop):Nat->List Oper->Prop
 |_,[]=>True
 |k,o::t=>p k o/\Hi p (k+1) t
def Mm:∀(l:List Oper) (k:Nat),Hi p k l->∀i o,l[i]?=U o->p (k+i) o
 |[],_,_,i,o,h=>by simp at h
 |x::l,k,⟨h1,_⟩,0,o,h=>by
  simp at h
  subst h;exact h1
 |x::l,k,⟨_,h2⟩,i+1,o,h=>by
  have:=Mm l (k+1) h2 i o (by simpa using h);rwa [show k+1+i=k+(i+1) by omega]at this
def zS(h:Hi p 0 ops.toList)(i:Nat)(o:Oper)(ho:ops[i]?=U o):p i o:=by
 have:=Mm _ 0 h i o (by simpa using ho);rwa [pH]at this
structure BJ(A:Nat->av)(w:ah)(rb:Nat)(v:aj)(l:List (Bool×Nat))(g:Nat->Nat):Prop where
 cell:∀i b c,l[i]?=U (b,c)->w.cell? ⟨rb,i*2,J⟩=U (bF A c)/\w.cell? ⟨rb,i*2+1,J⟩=U (.func (.func (g i)) #[] #[])
 eg:∀i b c,l[i]?=U (b,c)->∀args w,(callFunc (g i) args).run prog w=.ok (.enter (g i) args) w
 call:∀i b c,l[i]?=U (b,c)->∀W,Below w.heap.size w W->Calls prog (g i) #[v] W λe W'=>e=aH (aJ b)/\Below W.heap.size W W'
 few:l.length<=100
 pos:∀(i:Nat) (b:Bool) (c:Nat),l[i]?=U (b,c)->0<c
def Hj:∀(l:List (Bool×Nat)) (k:Nat) (c:Nat),(∀(i:Nat) (b:Bool) (d:Nat),i<k->l[i]?=U (b,d)->b=false)->l[k]?=U (true,c)->dH l=c
 |[],k,c,_,h=>by simp at h
 |(b,d)::t,0,c,_,h=>by simp at h;obtain⟨rfl,rfl⟩:=h;simp[dH]
 |(b,d)::t,k+1,c,h,h2=>by
  have:=h 0 b d (by omega) rfl;subst this;simp[dH]
  exact Hj t k c (λi b d hi e=>h (i+1) b d (by omega) (by simpa using e)) (by simpa using h2)
def Hk:∀(l:List (Bool×Nat)),(∀(i:Nat) (b:Bool) (d:Nat),l[i]?=U (b,d)->b=false)->dH l=0
 |[],_=>rfl
 |(b,d)::t,h=>by
  have:=h 0 b d rfl;subst this;simp[dH]
  exact Hk t (λi b d e=>h (i+1) b d (by simpa using e))
def UH(A:Nat->av)(x0 x1 x2 x3:Int)(sa:Option av)(sn sc:Nat)(rb:Nat)(l:List (Bool×Nat))(g:Nat->Nat)(w:ah)(h:BJ A w rb (a_ #[af I x0,af I x1,af I x2,af I x3,ak sa sn sc]) l g):Calls prog 62 #[a_ #[af I x0,af I x1,af I x2,af I x3,ak sa sn sc],ak (U (ar rb 0 J)) l.length l.length] w λe w'=>e=aH (bF A (dH l))/\Below w.heap.size w w':=by
 have Hl:ag _:=h.few;change ag _ at h
 go_enter func62,ntmps62
 go_wp2_with fail
 have HS:ag (∀W,Below (w.heap.size+1) (w.alloc (ay #[af I x0,af I x1,af I x2,af I x3,ak sa sn sc] 34)) W->Below w.heap.size w W/\w.heap.size+1<=W.heap.size/\W.cell? (ar w.heap.size 0 J)=U (af I x0)/\W.cell? (ar w.heap.size 1 J)=U (af I x1)/\W.cell? (ar w.heap.size 2 J)=U (af I x2)/\W.cell? (ar w.heap.size 3 J)=U (af I x3)/\W.cell? (ar w.heap.size 4 J)=U (ak sa sn sc)):=λW hb=>by
  have hc:∀j v,(w.alloc _).cell? _=U v->W.cell? _=U v:=λj v e=>(hb.cell (p:=⟨w.heap.size,j,J⟩) (wh _)).trans e
  exact⟨((aC _ _).alloc (aR _) _).trans (hb.mono (Nat.le_succ _)),by simpa using hb.size,hc 0 _ (by simp),hc 1 _ (by simp),hc 2 _ (by simp),hc 3 _ (by simp),hc 4 _ (by simp)⟩
 go_loopw [6,9] (λ_ i wr=>∃k:Nat,k<=l.length/\i=af I k/\Below (w.heap.size+1) (w.alloc (ay #[af I x0,af I x1,af I x2,af I x3,ak sa sn sc] 34)) wr/\ag (∀(i:Nat) (b:Bool) (d:Nat),i<k->l[i]?=U (b,d)->b=false)) (λ_ i _=>l.length-(intOf i).toNat)
 case atStart=>exact⟨0,cG _,rfl,aC _ _,λi b d hi=>absurd hi (im _)⟩
 case round=>
  obtain⟨k,hk,rfl,bV,hall⟩:=hrel;obtain⟨jL,hsz,p0,p1,p2,p3,p4⟩:=HS _ bV
  by_cases hlt:k<l.length
  ·obtain⟨⟨b,c⟩,mH⟩:∃x,l[k]?=U x:=⟨_,bL hlt⟩;have c0:=aA jL (h.cell k b c mH).1;have c1:=aA jL (h.cell k b c mH).2;have UI:=h.eg k b c mH;have HC:ag _:=h.call k b c mH;have UJ:k<100:=by have:=Hl.o;omega
   have k1:(k:Int)<(l.length:Int):=by omega
   change ag _ at bV jL
   have jM:=h.pos k b c mH;clear HS h;change ag _ at mH;have ha:∀(j:Nat) (v:aj),wr.cell? _=U v->∀o,(wr.alloc o).cell? _=U v:=λj v e o=>(kD wr o ⟨w.heap.size,j,J⟩ (j6 e)).trans e
   have q0:=ha _ _ p0;have q1:=ha _ _ p1;have q2:=ha _ _ p2;have q3:=ha _ _ p3;have q4:=ha _ _ p4;generalize g k=gk at *;obtain⟨c,rfl⟩:∃d,c=d+1:=⟨c-1,by omega⟩;unfold bF at c0
   cases b with
   |true=>
    go_wp2_with fail
    refine(HC _ (jL.trans (((aC _ _).alloc (aR _) _).mono jL.size))).mono ?_;rintro e W' ⟨rfl,hb'⟩;have d0:W'.cell? (ar wr.heap.size 0 J)=U (.iface 238 (ax (U (A c)))):=aA hb' (by simp);have HW:ag _:=jL.trans ((((aC _ _).alloc (aR _) _).mono jL.size).trans (hb'.mono (by simp;have:=jL.size;omega)));go_wp2;go_ret;exact⟨by rw[Hj l k _ hall.o mH.o];rfl,HW⟩
   |false=>
    go_wp2_with fail
    refine(HC _ (jL.trans (((aC _ _).alloc (aR _) _).mono jL.size))).mono ?_;rintro e W' ⟨rfl,hb'⟩;have HW:ag _:=bV.trans ((((aC _ _).alloc (aR _) _).mono hsz).trans (hb'.mono (by simp;omega)));go_wp2;go_roundw
    case rel=>
     refine⟨k+1,by omega,by go_num,HW,λi b d hi e=>?_⟩
     by_cases hik:i=k
     ·subst hik;have:=mH.o;rw[this]at e
      cases e
      rfl
     exact hall i b d (by omega) e
    case measure=>simp[intOf];omega
  have HN:ag _:=Hk l (λi b d e=>hall i b d (by have:=(eK.1 e).1;omega) e);have k1:¬(k:Int)<(l.length:Int):=by omega
  go_wp2;go_ret;exact⟨by rw[HN.o];rfl,jL⟩
def Mn(A:Nat->av)(nm:ByteArray)(aW cnt mn mx:Int)(pa ga ea fa la:Option av)(pn pc gn gc en ec fn fc ln lc:Nat)(rb:Nat)(l:List (Bool×Nat))(g:Nat->Nat)(w:ah)(h:BJ A w rb (.agg (nR nm aW pa pn pc cnt mn mx ga gn gc ea en ec fa fn fc la ln lc)) l g):Calls prog 99 #[.agg (nR nm aW pa pn pc cnt mn mx ga gn gc ea en ec fa fn fc la ln lc),ak (U (ar rb 0 J)) l.length l.length] w λe w'=>e=aH (bF A (dH l))/\Below w.heap.size w w':=by
 unfold nR;have Hl:ag _:=h.few;change ag _ at h
 go_enter func99,ntmps99
 go_wp2_with fail
 have HS:ag (∀W,Below (w.heap.size+1) (w.alloc (ay (nR nm aW pa pn pc cnt mn mx ga gn gc ea en ec fa fn fc la ln lc) 60)) W->Below w.heap.size w W/\w.heap.size+1<=W.heap.size/\W.cell? (ar w.heap.size 0 J)=U (aB nm)/\W.cell? (ar w.heap.size 1 J)=U (af I aW)/\W.cell? (ar w.heap.size 2 J)=U (ak pa pn pc)/\W.cell? (ar w.heap.size 3 J)=U (af I cnt)/\W.cell? (ar w.heap.size 4 J)=U (af I mn)/\W.cell? (ar w.heap.size 5 J)=U (af I mx)/\W.cell? (ar w.heap.size 6 J)=U (ak ga gn gc)/\W.cell? (ar w.heap.size 7 J)=U (ak ea en ec)/\W.cell? (ar w.heap.size 8 J)=U (ak fa fn fc)/\W.cell? (ar w.heap.size 9 J)=U (ak la ln lc)):=λW hb=>by
  have hc:∀j v,(w.alloc _).cell? _=U v->W.cell? _=U v:=λj v e=>(hb.cell (p:=⟨w.heap.size,j,J⟩) (wh _)).trans e
  exact⟨((aC _ _).alloc (aR _) _).trans (hb.mono (Nat.le_succ _)),by simpa using hb.size,hc 0 _ (by simp),hc 1 _ (by simp),hc 2 _ (by simp),hc 3 _ (by simp),hc 4 _ (by simp),hc 5 _ (by simp),hc 6 _ (by simp),hc 7 _ (by simp),hc 8 _ (by simp),hc 9 _ (by simp)⟩
 go_loopw [6,9] (λ_ i wr=>∃k:Nat,k<=l.length/\i=af I k/\Below (w.heap.size+1) (w.alloc (ay (nR nm aW pa pn pc cnt mn mx ga gn gc ea en ec fa fn fc la ln lc) 60)) wr/\ag (∀(i:Nat) (b:Bool) (d:Nat),i<k->l[i]?=U (b,d)->b=false)) (λ_ i _=>l.length-(intOf i).toNat)
 case atStart=>exact⟨0,cG _,rfl,aC _ _,λi b d hi=>absurd hi (im _)⟩
 case round=>
  obtain⟨k,hk,rfl,bV,hall⟩:=hrel;obtain⟨jL,hsz,p0,p1,p2,p3,p4,p5,p6,p7,p8,p9⟩:=HS _ bV
  by_cases hlt:k<l.length
  ·obtain⟨⟨b,c⟩,mH⟩:∃x,l[k]?=U x:=⟨_,bL hlt⟩;have c0:=aA jL (h.cell k b c mH).1;have c1:=aA jL (h.cell k b c mH).2;have UI:=h.eg k b c mH;have HC:ag _:=h.call k b c mH;have UJ:k<100:=by have:=Hl.o;omega
   have k1:(k:Int)<(l.length:Int):=by omega
   change ag _ at bV jL
   have jM:=h.pos k b c mH;clear HS h;change ag _ at mH;have ha:∀(j:Nat) (v:aj),wr.cell? _=U v->∀o,(wr.alloc o).cell? _=U v:=λj v e o=>(kD wr o ⟨w.heap.size,j,J⟩ (j6 e)).trans e
   have q0:=ha _ _ p0;have q1:=ha _ _ p1;have q2:=ha _ _ p2;have q3:=ha _ _ p3;have q4:=ha _ _ p4;have q5:=ha _ _ p5;have q6:=ha _ _ p6;have q7:=ha _ _ p7;have q8:=ha _ _ p8;have q9:=ha _ _ p9;generalize g k=gk at *;obtain⟨c,rfl⟩:∃d,c=d+1:=⟨c-1,by omega⟩;unfold bF at c0
   cases b with
   |true=>
    go_wp2_with fail
    refine(HC _ (jL.trans (((aC _ _).alloc (aR _) _).mono jL.size))).mono ?_;rintro e W' ⟨rfl,hb'⟩;have d0:W'.cell? (ar wr.heap.size 0 J)=U (.iface 238 (ax (U (A c)))):=aA hb' (by simp);have HW:ag _:=jL.trans ((((aC _ _).alloc (aR _) _).mono jL.size).trans (hb'.mono (by simp;have:=jL.size;omega)));go_wp2;go_ret;exact⟨by rw[Hj l k _ hall.o mH.o];rfl,HW⟩
   |false=>
    go_wp2_with fail
    refine(HC _ (jL.trans (((aC _ _).alloc (aR _) _).mono jL.size))).mono ?_;rintro e W' ⟨rfl,hb'⟩;have HW:ag _:=bV.trans ((((aC _ _).alloc (aR _) _).mono hsz).trans (hb'.mono (by simp;omega)));go_wp2;go_roundw
    case rel=>
     refine⟨k+1,by omega,by go_num,HW,λi b d hi e=>?_⟩
     by_cases hik:i=k
     ·subst hik;have:=mH.o;rw[this]at e
      cases e
      rfl
     exact hall i b d (by omega) e
    case measure=>simp[intOf];omega
  have HN:ag _:=Hk l (λi b d e=>hall i b d (by have:=(eK.1 e).1;omega) e);have k1:¬(k:Int)<(l.length:Int):=by omega
  go_wp2;go_ret;exact⟨by rw[HN.o];rfl,jL⟩
def UK(A:Nat->av)(x0 x1 x2 x3:Int)(sa:Option av)(sn sc:Nat)(w:ah)(hs:lQ A w):Calls prog 88 #[a_ #[af I x0,af I x1,af I x2,af I x3,ak sa sn sc]] w λe w'=>e=aH (aJ (!(within x0 0 1000&&within x1 1 1000)))/\Below w.heap.size w w':=by
 have H:=Uh A x0 x1 _ (hs.alloc (ay #[af I x0,af I x1,af I x2,af I x3,ak sa sn sc] 34));go_enter func88,ntmps88
 go_wp2_with fail
 refine H.mono ?_;rintro e w' ⟨rfl,hb⟩;go_wp2;go_ret;exact⟨by rw[Bool.not_and];rfl,((aC _ _).alloc (aR _) _).trans (hb.mono (by simp))⟩
def UL(x0 x1 x2 x3:Int)(sa:Option av)(sn sc:Nat)(w:ah):Calls prog 90 #[a_ #[af I x0,af I x1,af I x2,af I x3,ak sa sn sc]] w λe w'=>e=aH (aJ (!within x2 1 100))/\Below w.heap.size w w':=by
 go_enter func90,ntmps90
 go_wp2_with fail
 apply(BD x2 1 100 _).mono;rintro e w' ⟨rfl,rfl⟩;go_wp2;go_ret;exact⟨rfl,(aC _ _).alloc (aR _) _⟩
def UM(x0 x1 x2 x3:Int)(sa:Option av)(sn sc:Nat)(w:ah):Calls prog 92 #[a_ #[af I x0,af I x1,af I x2,af I x3,ak sa sn sc]] w λe w'=>e=aH (aJ (!within x3 0 20))/\Below w.heap.size w w':=by
 go_enter func92,ntmps92
 go_wp2_with fail
 apply(BD x3 0 20 _).mono;rintro e w' ⟨rfl,rfl⟩;go_wp2;go_ret;exact⟨rfl,(aC _ _).alloc (aR _) _⟩
def UN(x0 x1 x2 x3:Int)(sa:Option av)(sn sc:Nat)(w:ah):Calls prog 93 #[a_ #[af I x0,af I x1,af I x2,af I x3,ak sa sn sc]] w λe w'=>e=aH (aJ (decide (8<sn)))/\Below w.heap.size w w':=by
 have hd:decide (8<sn)=decide ((8:Int)<(sn:Int)):=jd.2 (by omega);rw[hd];go_enter func93,ntmps93
 go_wp2;go_ret;exact⟨rfl,(aC _ _).alloc (aR _) _⟩
def UO(x0 x1 x2 x3:Int)(sa:Option av)(sn sc:Nat)(w:ah):Calls prog 94 #[a_ #[af I x0,af I x1,af I x2,af I x3,ak sa sn sc]] w λe w'=>e=aH (aJ (decide (x1<x2)))/\Below w.heap.size w w':=by
 go_enter func94,ntmps94
 go_wp2;go_ret;exact⟨rfl,(aC _ _).alloc (aR _) _⟩
def xN(A:Nat->av):Array aj:=#[.iface 238 (ax (U (A 1))),.func (.func 88) #[] #[],.iface 238 (ax (U (A 1))),.func (.func 90) #[] #[],.iface 238 (ax (U (A 1))),.func (.func 92) #[] #[],
 .iface 238 (ax (U (A 1))),.func (.func 93) #[] #[],.iface 238 (ax (U (A 2))),.func (.func 94) #[] #[]]
def Mp(A:Nat->av)(w:ah)(hs:lQ A w):Calls prog 63 #[] w λe w'=>e=aH (ak (U (ar w.heap.size 0 J)) 5 5)/\w'=w.alloc (ay (xN A) 163):=by
 have c1:=hs.c1;have c2:=hs.c2;unfold xN;go_enter func63,ntmps63
 go_wp2;go_ret;exact⟨rfl,rfl⟩
def Mq(i:Nat):Nat:=[88,90,92,93,94].getD i 0
def UQ(A:Nat->av)(c:aV)(sa:Option av)(sc:Nat)(r:Nat)(W:ah)(hs:lQ A W)(hr:W.heap[r]?=U (ay (xN A) 163 (0,0))):BJ A W r (.agg (cR c sa sc))
   [(!(within c.closed 0 1000&&within c.opn 1 1000),2),(!within c.cycle 1 100,2),(!within c.bO 0 20,2),(decide (8<c.az.length),2),(decide (c.opn<c.cycle),3)] Mq:=by
 unfold cR;have hcell:∀j v,(xN A)[j]?=U v->W.cell? (ar r j J)=U v:=λj v e=>by simp[aL,hr,e]
 refine⟨λi b d e=>?_,λi b d e=>?_,λi b d e V hV=>?_,by simp,λi b d e=>?_⟩
 ·match i,e with
  |0,e=>cases e;exact⟨hcell 0 _ rfl,hcell 1 _ rfl⟩
  |1,e=>cases e;exact⟨hcell 2 _ rfl,hcell 3 _ rfl⟩
  |2,e=>cases e;exact⟨hcell 4 _ rfl,hcell 5 _ rfl⟩
  |3,e=>cases e;exact⟨hcell 6 _ rfl,hcell 7 _ rfl⟩
  |4,e=>cases e;exact⟨hcell 8 _ rfl,hcell 9 _ rfl⟩
  |i+5,e=>cases e
 ·match i,e with
  |0,_=>exact enters_of func88 (by kernel_rfl) rfl
  |1,_=>exact enters_of func90 (by kernel_rfl) rfl
  |2,_=>exact enters_of func92 (by kernel_rfl) rfl
  |3,_=>exact enters_of func93 (by kernel_rfl) rfl
  |4,_=>exact enters_of func94 (by kernel_rfl) rfl
  |i+5,e=>cases e
 ·match i,e with
  |0,e=>cases e;exact UK A _ _ _ _ _ _ _ _ (hs.below hV)
  |1,e=>cases e;exact UL _ _ _ _ _ _ _ _
  |2,e=>cases e;exact UM _ _ _ _ _ _ _ _
  |3,e=>cases e;exact UN _ _ _ _ _ _ _ _
  |4,e=>cases e;exact UO _ _ _ _ _ _ _ _
  |i+5,e=>cases e
 match i,e with
 |0,e=>cases e;decide
 |1,e=>cases e;decide
 |2,e=>cases e;decide
 |3,e=>cases e;decide
 |4,e=>cases e;decide
 |i+5,e=>cases e
open Go.Maps
def pM(s:ByteArray):Lit:=.string s.data.toList
def xO(a:List ByteArray):DataW Unit:=setOf (.agg []) (a.map pM)
def UR(a:List ByteArray)(s:ByteArray):Maps.has (xO a) (pM s)=a.any (λx=>decide (x=s)):=by
 unfold xO;rw[has_setOf _ _ _ (by intro x hx;simp only[pJ]at hx;obtain⟨y,-,rfl⟩:=hx;trivial),List.any_map];congr 1
 funext x
 show (x.data.toList==s.data.toList)=decide _
 by_cases h:x=s
 ·subst h;simp
 rw[bX h,lN];exact λe=>h (oG e)
def UT(a:List ByteArray)(s:ByteArray):xO (a++[s])=(xO a).put (pM s) (.agg []):=by
 unfold xO;rw[List.map_append];exact setOf_snoc ..
def BK:Keyed prog 9:=string_keyed underlying9
def UU(w:ah):(zeroValue 63).run prog w=.ok (a_ #[]) w:=by kernel_rfl
structure lR(A:Nat->av)(w0 w:ah)(rb bx mb:Nat)(a:List ByteArray):Prop where
 gV:Below w0.heap.size w0 w
 lo:w0.heap.size<=mb
 nr:rb≠mb
 nb:bx≠mb
 r0:w.cell? (ar rb 0 J)=U (.iface 238 (ax (U (A 3))))
 r1:w.cell? (ar rb 1 J)=U (.func (.func 95) #[] #[])
 r2:w.cell? (ar rb 2 J)=U (.iface 238 (ax (U (A 5))))
 r3:w.cell? (ar rb 3 J)=U (.func (.func 97) #[] #[ax (U (ar bx 0 J))])
 b0:w.cell? (ar bx 0 J)=U (.map (U mb))
 own:w.ownsMap prog 9 unitElem mb a.length (xO a)
def UW{mb:Nat}{D:DataW Unit}(h:w.ownsMap prog 9 unitElem mb n D)(hb:Below w.heap.size w w'):w'.ownsMap prog 9 unitElem mb n D:=by
 have hlt:=h.lt;obtain⟨es,clock,h1,h2⟩:=h;exact⟨es,_,(hb.block mb hlt).trans h1,h2⟩
def lR.below{w0:ah}{mb:Nat}{a:List ByteArray}(h:lR A w0 w rb bx mb a)(hb:Below w.heap.size w w'):lR A w0 w' rb bx mb a:=
 ⟨h.gV.trans (hb.mono h.gV.size),h.lo,h.nr,h.nb,aA hb h.r0,aA hb h.r1,aA hb h.r2,aA hb h.r3,aA hb h.b0,UW h.own hb⟩
def cell_grown{mb:Nat}{v:aj}(hg:w.grownBy w' (U mb))(hne:a.block≠mb)(h:w.cell? a=U v):w'.cell? a=U v:=
 (jc (hg.block a.block (j6 h) (by simpa using hne))).trans h
def lR.grown{w0:ah}{mb:Nat}{a a':List ByteArray}(h:lR A w0 w rb bx mb a)(hg:w.grownBy w' (U mb))(ho:w'.ownsMap prog 9 unitElem mb a'.length (xO a')):lR A w0 w' rb bx mb a':=
 ⟨h.gV.grown hg h.gV.size (λj hj=>by cases hj;exact h.lo),h.lo,h.nr,h.nb,cell_grown hg h.nr h.r0,cell_grown hg h.nr h.r1,cell_grown hg h.nr h.r2,cell_grown hg h.nr h.r3,cell_grown hg h.nb h.b0,ho⟩
def Mr(A:Nat->av)(w:ah)(hs:lQ A w):Calls prog 64 #[] w λe w'=>e=aH (ak (U ⟨w.heap.size+2,0,J⟩) 2 2)/\lR A w w' (w.heap.size+2) (w.heap.size+1) w.heap.size []:=by
 have Ed:=@run_makeMap prog;have c3:=hs.c3;have c5:=hs.c5;have ha:∀(g:Nat) (v:aj),w.cell? _=U v->∀o1 o2,((w.alloc o1).alloc o2).cell? ⟨g,0,J⟩=U v:=λg v e o1 o2=>aA (((aC _ _).alloc (aR _) _).alloc (by simp) _) e
 have d3:=ha _ _ c3;have d5:=ha _ _ c5;go_enter func64,ntmps64
 go_wp2;go_ret
 refine⟨rfl,⟨(((aC _ _).alloc (aR _) _).alloc (by simp) _).alloc (by simp;omega) _,aR _,by omega,by omega,?_,?_,?_,?_,?_,?_⟩⟩;iterate 4
  ·rw[show w.heap.size+2=((w.alloc _).alloc _).heap.size by simp,fE _ _ _ _ rfl];rfl
 ·rw[kD _ _ _ (by simp)];have e:w.heap.size+1=(w.alloc (.map #[] 0)).heap.size:=by simp
  rw[e,fE _ _ _ _ rfl];rfl
 exact((World.ownsMap_made w _ 9 _).alloc _).alloc _
def UX(A:Nat->av)(w0 w:ah)(rb bx mb:Nat)(a:List ByteArray)(s:ByteArray)(h:lR A w0 w rb bx mb a)(hs:s.size<=1000000)(hn:a.length<=1000000):Calls prog 97 #[aB s,ax (U (ar bx 0 J))] w λe w'=>e=aH (aJ (a.any (λx=>decide (x=s))))/\lR A w0 w' rb bx mb (a++[s])/\∀(p:av) (v:aj),p.block≠mb->w.cell? p=U v->w'.cell? p=U v:=by
 have b0:=h.b0;have b1:∀o,(w.alloc o).cell? _=U _:=λo=>aA ((aC _ _).alloc (aR _) _) b0
 have hown:=h.own;have hkey:keyOf _ 9 _=U (pM s):=Go.WideMaps.keyOf_string_mk underlying9 (by unfold maxLen;omega);have HA:=UR a s;change ag _ at h
 go_enter func97,ntmps97
 go_wp2_with (first
  |(at_lookup;refine wpList_lookup_own_unit _ rfl _ _ 166 rfl 9 63 BK underlying166 (UU _) mb _ _ rfl hown _ _ rfl hkey ?_)
  |(at_mapUpdate;refine wpList_mapUpdate_own _ rfl _ _ _ 166 rfl 9 63 BK underlying166 _ mb _ _ rfl (hown.alloc _) (by unfold maxLen;omega) _ _ _ rfl rfl hkey _ [] unitElem_mk ?_;intro w1 hown1 cY)
  |go_in)
 go_ret;exact⟨rfl,(h.below ((aC _ _).alloc (aR _) _)).grown cY (by rw[UT];simpa using hown1),λp v hne e=>cell_grown cY hne (aA ((aC _ _).alloc (aR _) _) e)⟩
def UY(s:ByteArray)(w:ah)(hs:s.size<=1000000):Calls prog 95 #[aB s] w λe w'=>e=aH (aJ (!isName s))/\Below w.heap.size w w':=by
 go_enter func95,ntmps95
 go_wp2_with fail
 apply(Uy s _ hs).mono;rintro e w' ⟨rfl,hb⟩;go_wp2;go_ret;exact⟨rfl,hb⟩
def j_(mb:Nat)(w w':ah):Prop:=∀(p:av) (v:aj),p.block≠mb->w.cell? p=U v->w'.cell? p=U v
def j_.refl(mb:Nat)(w:ah):j_ mb w w:=λ_ _ _ h=>h
def j_.trans{mb:Nat}{w'':ah}(h:j_ mb w w')(h2:j_ mb w' w''):j_ mb w w'':=λp v hn e=>h2 p v hn (h p v hn e)
def j_.of{mb:Nat}(h:Below w.heap.size w w'):j_ mb w w':=λ_ _ _ e=>aA h e
def Ms(A:Nat->av)(w0 w:ah)(rb bx mb:Nat)(a:List ByteArray)(s:ByteArray)(h:lR A w0 w rb bx mb a)(hs:s.size<=1000000)(hn:a.length<=1000000):Calls prog 98 #[aB s,ak (U (ar rb 0 J)) 2 2] w λe w'=>e=aH (bF A (dC a s))/\Below w0.heap.size w0 w'/\(dC a s=0->lR A w0 w' rb bx mb (a++[s]))/\j_ mb w w':=by
 have agW:=enters_of func95 (by kernel_rfl) rfl;have agX:=enters_of func97 (by kernel_rfl) rfl;have HN:ag _:=λW=>UY s W hs
 have HM:ag _:=λW hW=>UX A w0 W rb bx mb a s hW hs hn
 go_enter func98,ntmps98
 go_wp2_with fail
 go_loopw [6,9] (λ_ i wr=>j_ mb w wr/\((i=af I 0/\lR A w0 wr rb bx mb a)\/(i=af I 1/\isName s=true/\lR A w0 wr rb bx mb a)\/(i=af I 2/\dC a s=0/\lR A w0 wr rb bx mb (a++[s])))) (λ_ i _=>2-(intOf i).toNat)
 case atStart=>exact⟨j_.refl _ _,cF ⟨rfl,h⟩⟩
 case round=>
  obtain⟨UZ,hrel⟩:=hrel;have BL:ag (j_ mb w wr):=UZ
  rcases hrel with⟨rfl,h⟩|⟨rfl,hN,h⟩|⟨rfl,hE,h⟩
  ·have r0:=h.r0;have r1:=h.r1;change ag _ at h
   cases hN:isName s with
   |true=>
    have iK:=HN.o;rw[hN]at iK;change ag _ at iK hN
    go_wp2_with fail
    apply(iK _).mono;rintro e W' ⟨rfl,hb'⟩;have H2:ag _:=(h.below (Below.one _ _)).below hb';have xP:ag (j_ mb w W'):=(BL.trans (j_.of (Below.one _ _))).trans (j_.of hb');go_wp2;go_roundw
    case rel=>exact⟨xP,bk (cF ⟨by go_num,by first|trivial|exact hN,H2⟩)⟩
    case measure=>simp[intOf]
   |false=>
    have iK:=HN.o;rw[hN]at iK;change ag _ at iK
    have xQ:ag (dC a s=4):=by show _=_;simp[dC,hN]
    go_wp2_with fail
    apply(iK _).mono;rintro e W' ⟨rfl,hb'⟩;have d0:W'.cell? (ar wr.heap.size 0 J)=U (.iface 238 (ax (U (A 3)))):=aA hb' (by simp);have H2:ag _:=(h.below (Below.one _ _)).below hb';have xP:ag (j_ mb w W'):=(BL.trans (j_.of (Below.one _ _))).trans (j_.of hb');go_wp2;go_ret;exact⟨by rw[xQ.o];rfl,H2.gV,λe=>by (rw[xQ.o]at e;cases e),xP⟩
  ·have r2:=h.r2;have r3:=h.r3;change ag _ at h
   cases hA:a.any (λx=>decide (x=s))with
   |false=>
    have xR:=HM.o;rw[hA]at xR;change ag _ at xR
    have xQ:ag (dC a s=0):=by show _=_;simp only[dC,hN,hA];rfl
    go_wp2_with fail
    apply(xR _ (h.below (Below.one _ _))).mono;rintro e W' ⟨rfl,(h':ag _),iq⟩;have xP:ag (j_ mb w W'):=(BL.trans (j_.of (Below.one _ _))).trans iq;go_wp2;go_roundw
    case rel=>exact⟨xP,bk (bk ⟨by go_num,xQ,h'⟩)⟩
    case measure=>simp[intOf]
   |true=>
    have xR:=HM.o;rw[hA]at xR;change ag _ at xR
    have xQ:ag (dC a s=6):=by show _=_;simp only[dC,hN,hA];rfl
    go_wp2_with fail
    apply(xR _ (h.below (Below.one _ _))).mono;rintro e W' ⟨rfl,(h':ag _),iq⟩;have xP:ag (j_ mb w W'):=(BL.trans (j_.of (Below.one _ _))).trans iq;have d0:W'.cell? _=U (.iface 238 (ax (U (A 5)))):=iq ⟨wr.heap.size,0,J⟩ _ (λe=>by have:=h.own.lt;simp at e;omega) (by simp);go_wp2;go_ret;exact⟨by rw[xQ.o];rfl,h'.gV,λe=>by (rw[xQ.o]at e;cases e),xP⟩
  change ag _ at hE h
  go_wp2;go_ret;exact⟨by rw[hE.o];rfl,h.gV,λ_=>h,BL⟩
def n_{α:Type}(p:α->Bool):List α->Int
 |[]=>-1
 |x::t=>if p x then 0 else if n_ p t<0 then -1 else n_ p t+1
def zT{α:Type}(p:α->Bool):∀(xs:List α),(∀(i:Nat) (x:α),xs[i]?=U x->p x=false)->n_ p xs=-1
 |[],_=>rfl
 |x::t,h=>by
  have h0:=h 0 x rfl;have:=zT p t (λi y e=>h (i+1) y (by simpa using e));simp[n_,h0,this]
def zU{α:Type}(p:α->Bool):∀(xs:List α) (k:Nat) (x:α),(∀(i:Nat) (y:α),i<k->xs[i]?=U y->p y=false)->xs[k]?=U x->p x=true->n_ p xs=(k:Int)
 |[],k,x,_,h,_=>by simp at h
 |y::t,0,x,_,h,hp=>by simp at h;subst h;simp[n_,hp]
 |y::t,k+1,x,h,h2,hp=>by
  have h0:=h 0 y (by omega) rfl;have:=zU p t k x (λi z hi e=>h (i+1) z (by omega) (by simpa using e)) (by simpa using h2) hp;simp only[n_,h0,this];rw[aF (by simp),aF (by omega)];omega
def zV{α:Type}(p:α->Bool):∀(xs:List α),decide (0<=n_ p xs)=xs.any p
 |[]=>rfl
 |x::t=>by
  have:=zV p t;unfold n_
  by_cases h:p x=true
  ·simp[h]
  simp only[xI]at h;rw[List.any_cons,h,Bool.false_or,<- this];simp only[uC,j5]
  by_cases h2:n_ p t<0
  ·rw[aU h2];exact jd.2 (by omega)
  rw[aF h2];exact jd.2 (by omega)
def U0(v:aj)(xs:List Int)(p:Int->Bool)(g:Nat)(lb:Array aj)(w:ah)(hv:bY bc 1 w v xs)(hn:xs.length<=1000000)(eg:∀args w,(callFunc g args).run prog w=.ok (.enter g args) w)
  (hp:∀W,Below w.heap.size w W->∀x,x∈xs->Calls prog g (#[af I x]++lb) W λe W'=>e=aH (aJ (p x))/\Below W.heap.size W W'):Calls prog 160 #[v,.func (.func g) #[] lb] w λe w'=>e=aH (af I (n_ p xs))/\Below w.heap.size w w':=by
 obtain⟨sa,cap,rfl,-,(hcell:ag _)⟩:=hv;change ag _ at hp hn
 go_enter func160,ntmps160
 go_wp2_with fail
 go_loopw [5,8] (λ_ i wr=>∃k:Nat,k<=xs.length/\i=af I k/\Below w.heap.size w wr/\ag (∀(i:Nat) (y:Int),i<k->xs[i]?=U y->p y=false)) (λ_ i _=>xs.length-(intOf i).toNat)
 case atStart=>exact⟨0,cG _,rfl,aC _ _,λi b hi=>absurd hi (im _)⟩
 case round=>
  obtain⟨k,hk,rfl,bV,hall⟩:=hrel
  by_cases hlt:k<xs.length
  ·obtain⟨x,hx⟩:∃x,xs[k]?=U x:=⟨_,bL hlt⟩;obtain⟨b,o,rfl,hc0⟩:=hcell (λe=>by subst e;simp at hx);have hc:=λi x h j u hu=>aA bV (hc0 i x h j u hu)
   have c0:=hc k x hx 0 _ rfl;simp only[Nat.mul_one,qF]at c0;have hm:=hp _ bV x (fQ hx);have k1:(k:Int)<(xs.length:Int):=by omega
   have k0:k<1000000:=by have:=hn.o;omega
   change ag _ at bV
   clear hc0 hc hcell hp;change ag _ at hx
   cases dR:p x with
   |true=>
    rw[dR]at hm;change ag _ at hm dR
    go_wp2_with fail
    refine bw hm.o ?_;rintro e W' ⟨rfl,hb'⟩;go_wp2;go_ret;exact⟨by rw[zU p xs k x hall.o hx.o dR.o];rfl,bV.trans (hb'.mono bV.size)⟩
   |false=>
    rw[dR]at hm;change ag _ at hm dR
    go_wp2_with fail
    refine bw hm.o ?_;rintro e W' ⟨rfl,hb'⟩;have HW:ag _:=bV.trans (hb'.mono bV.size);go_wp2;go_roundw
    case rel=>
     refine⟨k+1,by omega,by go_num,HW,λi y hi e=>?_⟩
     by_cases hik:i=k
     ·subst hik;have h2:=hx.o;rw[h2]at e
      cases e
      exact dR
     exact hall i y (by omega) e
    case measure=>simp[intOf];omega
  have k1:¬(k:Int)<(xs.length:Int):=by omega
  have HN:ag _:=zT p xs (λi x e=>hall i x (by have:=(eK.1 e).1;omega) e);go_wp2;go_ret;exact⟨by rw[HN.o];rfl,bV⟩
def U1(v:aj)(xs:List Int)(p:Int->Bool)(g:Nat)(lb:Array aj)(w:ah)(hv:bY bc 1 w v xs)(hn:xs.length<=1000000)(eg:∀args w,(callFunc g args).run prog w=.ok (.enter g args) w)
  (hp:∀W,Below w.heap.size w W->∀x,x∈xs->Calls prog g (#[af I x]++lb) W λe W'=>e=aH (aJ (p x))/\Below W.heap.size W W'):Calls prog 150 #[v,.func (.func g) #[] lb] w λe w'=>e=aH (aJ (xs.any p))/\Below w.heap.size w w':=by
 have H:=U0 v xs p g lb w hv hn eg hp;rw[<- zV];obtain⟨sa,cap,rfl,-⟩:=hv;go_enter func150,ntmps150
 go_wp2_with fail
 refine H.mono ?_;rintro e w' ⟨rfl,hb⟩;go_wp2;go_ret;exact⟨rfl,hb⟩
def U2(v:aj)(xs:List (Int×Int))(p:(Int×Int)->Bool)(g:Nat)(lb:Array aj)(w:ah)(hv:bY kU 2 w v xs)(hn:xs.length<=1000000)(eg:∀args w,(callFunc g args).run prog w=.ok (.enter g args) w)
  (hp:∀W,Below w.heap.size w W->∀x,x∈xs->Calls prog g (#[a_ #[af I x.1,af I x.2]]++lb) W λe W'=>e=aH (aJ (p x))/\Below W.heap.size W W'):Calls prog 153 #[v,.func (.func g) #[] lb] w λe w'=>e=aH (af I (n_ p xs))/\Below w.heap.size w w':=by
 obtain⟨sa,cap,rfl,-,(hcell:ag _)⟩:=hv;change ag _ at hp hn
 go_enter func153,ntmps153
 go_wp2_with fail
 go_loopw [5,8] (λ_ i wr=>∃k:Nat,k<=xs.length/\i=af I k/\Below w.heap.size w wr/\ag (∀(i:Nat) (y:(Int×Int)),i<k->xs[i]?=U y->p y=false)) (λ_ i _=>xs.length-(intOf i).toNat)
 case atStart=>exact⟨0,cG _,rfl,aC _ _,λi b hi=>absurd hi (im _)⟩
 case round=>
  obtain⟨k,hk,rfl,bV,hall⟩:=hrel
  by_cases hlt:k<xs.length
  ·obtain⟨x,hx⟩:∃x,xs[k]?=U x:=⟨_,bL hlt⟩;obtain⟨b,o,rfl,hc0⟩:=hcell (λe=>by subst e;simp at hx);have hc:=λi x h j u hu=>aA bV (hc0 i x h j u hu)
   have c0:=hc k x hx 0 _ rfl;have c1:=hc k x hx 1 _ rfl;simp only[qF]at c0;have hm:=hp _ bV x (fQ hx);have k1:(k:Int)<(xs.length:Int):=by omega
   have k0:k<1000000:=by have:=hn.o;omega
   change ag _ at bV
   clear hc0 hc hcell hp;change ag _ at hx
   cases dR:p x with
   |true=>
    rw[dR]at hm;change ag _ at hm dR
    go_wp2_with fail
    refine bw hm.o ?_;rintro e W' ⟨rfl,hb'⟩;go_wp2;go_ret;exact⟨by rw[zU p xs k x hall.o hx.o dR.o];rfl,bV.trans (hb'.mono bV.size)⟩
   |false=>
    rw[dR]at hm;change ag _ at hm dR
    go_wp2_with fail
    refine bw hm.o ?_;rintro e W' ⟨rfl,hb'⟩;have HW:ag _:=bV.trans (hb'.mono bV.size);go_wp2;go_roundw
    case rel=>
     refine⟨k+1,by omega,by go_num,HW,λi y hi e=>?_⟩
     by_cases hik:i=k
     ·subst hik;have h2:=hx.o;rw[h2]at e
      cases e
      exact dR
     exact hall i y (by omega) e
    case measure=>simp[intOf];omega
  have k1:¬(k:Int)<(xs.length:Int):=by omega
  have HN:ag _:=zT p xs (λi x e=>hall i x (by have:=(eK.1 e).1;omega) e);go_wp2;go_ret;exact⟨by rw[HN.o];rfl,bV⟩
def U3(v:aj)(xs:List (Int×Int))(p:(Int×Int)->Bool)(g:Nat)(lb:Array aj)(w:ah)(hv:bY kU 2 w v xs)(hn:xs.length<=1000000)(eg:∀args w,(callFunc g args).run prog w=.ok (.enter g args) w)
  (hp:∀W,Below w.heap.size w W->∀x,x∈xs->Calls prog g (#[a_ #[af I x.1,af I x.2]]++lb) W λe W'=>e=aH (aJ (p x))/\Below W.heap.size W W'):Calls prog 127 #[v,.func (.func g) #[] lb] w λe w'=>e=aH (aJ (xs.any p))/\Below w.heap.size w w':=by
 have H:=U2 v xs p g lb w hv hn eg hp;rw[<- zV];obtain⟨sa,cap,rfl,-⟩:=hv;go_enter func127,ntmps127
 go_wp2_with fail
 refine H.mono ?_;rintro e w' ⟨rfl,hb⟩;go_wp2;go_ret;exact⟨rfl,hb⟩
def U4(v:aj)(xs:List lx)(p:lx->Bool)(g:Nat)(lb:Array aj)(w:ah)(hv:bY j7 4 w v xs)(hn:xs.length<=1000000)(eg:∀args w,(callFunc g args).run prog w=.ok (.enter g args) w)
  (hp:∀W,Below w.heap.size w W->∀x,x∈xs->Calls prog g (#[a_ #[af I x.fr,af I x.to,af I x.mn,af I x.mx]]++lb) W λe W'=>e=aH (aJ (p x))/\Below W.heap.size W W'):Calls prog 152 #[v,.func (.func g) #[] lb] w λe w'=>e=aH (af I (n_ p xs))/\Below w.heap.size w w':=by
 obtain⟨sa,cap,rfl,-,(hcell:ag _)⟩:=hv;change ag _ at hp hn
 go_enter func152,ntmps152
 go_wp2_with fail
 go_loopw [5,8] (λ_ i wr=>∃k:Nat,k<=xs.length/\i=af I k/\Below w.heap.size w wr/\ag (∀(i:Nat) (y:lx),i<k->xs[i]?=U y->p y=false)) (λ_ i _=>xs.length-(intOf i).toNat)
 case atStart=>exact⟨0,cG _,rfl,aC _ _,λi b hi=>absurd hi (im _)⟩
 case round=>
  obtain⟨k,hk,rfl,bV,hall⟩:=hrel
  by_cases hlt:k<xs.length
  ·obtain⟨x,hx⟩:∃x,xs[k]?=U x:=⟨_,bL hlt⟩;obtain⟨b,o,rfl,hc0⟩:=hcell (λe=>by subst e;simp at hx);have hc:=λi x h j u hu=>aA bV (hc0 i x h j u hu)
   have c0:=hc k x hx 0 _ rfl;have c1:=hc k x hx 1 _ rfl;have c2:=hc k x hx 2 _ rfl;have c3:=hc k x hx 3 _ rfl;simp only[qF]at c0;have hm:=hp _ bV x (fQ hx);have k1:(k:Int)<(xs.length:Int):=by omega
   have k0:k<1000000:=by have:=hn.o;omega
   change ag _ at bV
   clear hc0 hc hcell hp;change ag _ at hx
   cases dR:p x with
   |true=>
    rw[dR]at hm;change ag _ at hm dR
    go_wp2_with fail
    refine bw hm.o ?_;rintro e W' ⟨rfl,hb'⟩;go_wp2;go_ret;exact⟨by rw[zU p xs k x hall.o hx.o dR.o];rfl,bV.trans (hb'.mono bV.size)⟩
   |false=>
    rw[dR]at hm;change ag _ at hm dR
    go_wp2_with fail
    refine bw hm.o ?_;rintro e W' ⟨rfl,hb'⟩;have HW:ag _:=bV.trans (hb'.mono bV.size);go_wp2;go_roundw
    case rel=>
     refine⟨k+1,by omega,by go_num,HW,λi y hi e=>?_⟩
     by_cases hik:i=k
     ·subst hik;have h2:=hx.o;rw[h2]at e
      cases e
      exact dR
     exact hall i y (by omega) e
    case measure=>simp[intOf];omega
  have k1:¬(k:Int)<(xs.length:Int):=by omega
  have HN:ag _:=zT p xs (λi x e=>hall i x (by have:=(eK.1 e).1;omega) e);go_wp2;go_ret;exact⟨by rw[HN.o];rfl,bV⟩
def Mt(v:aj)(xs:List lx)(p:lx->Bool)(g:Nat)(lb:Array aj)(w:ah)(hv:bY j7 4 w v xs)(hn:xs.length<=1000000)(eg:∀args w,(callFunc g args).run prog w=.ok (.enter g args) w)
  (hp:∀W,Below w.heap.size w W->∀x,x∈xs->Calls prog g (#[a_ #[af I x.fr,af I x.to,af I x.mn,af I x.mx]]++lb) W λe W'=>e=aH (aJ (p x))/\Below W.heap.size W W'):Calls prog 124 #[v,.func (.func g) #[] lb] w λe w'=>e=aH (aJ (xs.any p))/\Below w.heap.size w w':=by
 have H:=U4 v xs p g lb w hv hn eg hp;rw[<- zV];obtain⟨sa,cap,rfl,-⟩:=hv;go_enter func124,ntmps124
 go_wp2_with fail
 refine H.mono ?_;rintro e w' ⟨rfl,hb⟩;go_wp2;go_ret;exact⟨rfl,hb⟩
def U5(x:Int)(B:Nat)(pa:Option av)(pn pc:Nat)(w:ah)(hc:w.cell? (ar B 2 J)=U (ak pa pn pc)):Calls prog 151 #[af I x,ax (U (ar B 0 J))] w λe w'=>e=aH (aJ (lacks pn x))/\Below w.heap.size w w':=by
 by_cases h1:x<0
 ·go_enter func151,ntmps151
  go_wp2;go_ret;exact⟨by simp[lacks,h1],aC _ _⟩
 go_enter func151,ntmps151
 go_wp2;go_ret;exact⟨by simp[lacks];omega,aC _ _⟩
def BM(nm:ByteArray)(aW cnt mn mx:Int)(pa ga ea fa la:Option av)(pn pc gn gc en ec fn fc ln lc:Nat)(v:aj)(xs:List Int)(w:ah)(hv:bY bc 1 w v xs)(hn:xs.length<=1000000):Calls prog 122 #[.agg (nR nm aW pa pn pc cnt mn mx ga gn gc ea en ec fa fn fc la ln lc),v] w λe w'=>e=aH (aJ (xs.any (lacks pn)))/\Below w.heap.size w w':=by
 unfold nR;have H:=U1 v xs _ 151 #[ax _] _ (hv.below (Below.one w (ay (nR nm aW pa pn pc cnt mn mx ga gn gc ea en ec fa fn fc la ln lc) 60))) hn
  (enters_of func151 (by kernel_rfl) rfl) (λW hb x _=>U5 x w.heap.size pa pn pc W (aA hb (by simp)))
 change ag _ at H
 obtain⟨sa,cap,rfl,-⟩:=hv;go_enter func122,ntmps122
 go_wp2_with fail
 refine bw H.o ?_;rintro e w' ⟨rfl,hb⟩;go_wp2;go_ret;exact⟨rfl,(Below.one _ _).trans (hb.mono (by simp))⟩
def U6(x:Int)(w:ah):Calls prog 164 #[af I x] w λe w'=>e=aH (aJ false)/\w'=w:=by
 go_enter func164,ntmps164
 go_wp2;go_ret;exact⟨rfl,rfl⟩
def zW(x y:Int)(w:ah):Calls prog 161 #[af I x,af I y] w λe w'=>e=aH (aJ (decide (x<y)))/\w'=w:=by
 go_enter func161,ntmps161
 go_wp2_with fail
 apply(U6 x _).mono;rintro e w' ⟨rfl,rfl⟩;go_wp2;go_ret;exact⟨rfl,rfl⟩
def U7(a b c d:Int)(B cap:Nat)(w:ah)(c0:w.cell? (ar B 0 J)=U (af I a))(c1:w.cell? (ar B 1 J)=U (af I b))(c2:w.cell? (ar B 2 J)=U (af I c))(c3:w.cell? (ar B 3 J)=U (af I d)):Calls prog 154 #[ak (U (ar B 0 J)) 4 cap] w λe w'=>e=aH (aJ (iH a b c d))/\Below w.heap.size w w':=by
 go_enter func154,ntmps154
 go_wp2_with fail
 go_loopw [2,3] (λr i wr=>r=aJ false/\Below w.heap.size w wr/\(i=af I 3\/(i=af I 2/\c<=d)\/(i=af I 1/\b<=c/\c<=d)\/(i=af I 0/\a<=b/\b<=c/\c<=d))) (λ_ i _=>(intOf i).toNat)
 case atStart=>exact⟨rfl,aC _ _,cF rfl⟩
 case round=>
  obtain⟨rfl,hb,hrel⟩:=hrel;have c0:=aA hb c0;have c1:=aA hb c1;have c2:=aA hb c2;have c3:=aA hb c3;change ag _ at hb
  rcases hrel with rfl|⟨rfl,h1⟩|⟨rfl,h1⟩|⟨rfl,h1⟩
  ·have k0:IntKind.i64.wrap 2=2:=by decide
   by_cases hx:d<c
   ·have hd:=bz hx;go_wp2_with fail
    go_quiet (first|(go_at_call 161;exact pF (zW _ _ _)))
    go_wp2;go_ret;exact⟨by simp[iH];omega,cB hb _⟩
   have hd:=bX hx;go_wp2_with fail
   go_quiet (first|(go_at_call 161;exact pF (zW _ _ _)))
   go_wp2;go_roundw
   case rel=>exact⟨rfl,cB hb _,bk (cF ⟨by go_num,by omega⟩)⟩
   case measure=>simp[intOf]
  ·have k0:IntKind.i64.wrap 1=1:=by decide
   by_cases hx:c<b
   ·have hd:=bz hx;go_wp2_with fail
    go_quiet (first|(go_at_call 161;exact pF (zW _ _ _)))
    go_wp2;go_ret;exact⟨by simp[iH];omega,cB hb _⟩
   have hd:=bX hx;go_wp2_with fail
   go_quiet (first|(go_at_call 161;exact pF (zW _ _ _)))
   go_wp2;go_roundw
   case rel=>exact⟨rfl,cB hb _,bk (bk (cF ⟨by go_num,by omega,by omega⟩))⟩
   case measure=>simp[intOf]
  ·have k0:IntKind.i64.wrap 0=0:=by decide
   by_cases hx:b<a
   ·have hd:=bz hx;go_wp2_with fail
    go_quiet (first|(go_at_call 161;exact pF (zW _ _ _)))
    go_wp2;go_ret;exact⟨by simp[iH];omega,cB hb _⟩
   have hd:=bX hx;go_wp2_with fail
   go_quiet (first|(go_at_call 161;exact pF (zW _ _ _)))
   go_wp2;go_roundw
   case rel=>exact⟨rfl,cB hb _,bk (bk (bk ⟨by go_num,by omega,by omega,by omega⟩))⟩
   case measure=>simp[intOf]
  go_wp2;go_ret;exact⟨by simp[iH];omega,hb⟩
def Mu(a b c d:Int)(B cap:Nat)(w:ah)(c0:w.cell? (ar B 0 J)=U (af I a))(c1:w.cell? (ar B 1 J)=U (af I b))(c2:w.cell? (ar B 2 J)=U (af I c))(c3:w.cell? (ar B 3 J)=U (af I d)):Calls prog 133 #[ak (U (ar B 0 J)) 4 cap] w λe w'=>e=aH (aJ (iH a b c d))/\Below w.heap.size w w':=by
 have H:=U7 a b c d B cap w c0 c1 c2 c3;go_enter func133,ntmps133
 go_wp2_with fail
 refine H.mono ?_;rintro e w' ⟨rfl,hb⟩;go_wp2;go_ret;exact⟨rfl,hb⟩
def Mv(a b c d:Int)(w:ah):(Op.equalIn 10000 86 (a_ #[af I a,af I b]) (a_ #[af I c,af I d])).run prog w=.ok ((a==c)&&(b==d)) w:=by
 rw[show (10000:Nat)=9998+2 from rfl,Op.equalIn];simp only[kT,run_underlying underlying86,sQ,sizeOf3,GL,Std.Legacy.Range.size,Nat.sub_zero,Nat.add_sub_cancel,Nat.div_one];have p0:∀x y:Int,(part 3 #[af I x,af I y] (0*1)).run prog w=.ok (af I x) w:=λx y=>by simp[part]
 have p1:∀x y:Int,(part 3 #[af I x,af I y] (1*1)).run prog w=.ok (af I y) w:=λx y=>by simp[part]
 have pe:∀x y:Int,(Op.equalIn _ 3 _ _).run _ w=.ok (x==y) w:=λx y=>run_equalIn_int w 9998 3 I I _ _ underlying3
 have hr:List.range' 0 2 1=[0,1]:=by decide
 rw[hr];simp only[List.forIn_cons,List.forIn_nil,kT,p0,pe,sQ]
 cases h1:(a==c)
 ·simp
 simp only[Bool.not_true,uC,j5,uF,sQ,Bool.true_and,kT,p1,pe]
 cases h2:(b==d)<;>simp
def Ee(a b c d:Int)(w:ah):(binOp .eql 86 (a_ #[af I a,af I b]) (a_ #[af I c,af I d])).run prog w=.ok (aJ ((a==c)&&(b==d))) w:=by
 rw[run_eql_struct,Mv];rfl
def U8(a b c d:Int)(w:ah):(binOp .neq 86 (a_ #[af I a,af I b]) (a_ #[af I c,af I d])).run prog w=.ok (aJ (!((a==c)&&(b==d)))) w:=by
 rw[run_neq_struct,Mv];rfl
def BN:prog.eqGuardType prog.depth 86=false:=by kernel_rfl
def bY.take{α:Type}{enc:α->List aj}{sa:Option av}{cap:Nat}{xs:List α}(h:bY enc k w (ak sa n cap) xs)(i:Nat)(hi:i<=xs.length)(cap':Nat)(hc:i<=cap'):bY enc k w (ak sa i cap') (xs.take i):=by
 obtain⟨fw,c',e,-,h2⟩:=h
 cases e
 have hl:(xs.take i).length=i:=by simp;omega
 refine⟨sa,_,by rw[hl],by omega,λhne=>?_⟩;obtain⟨b,o,h3,h4⟩:=h2 (λe=>hne (by simp[e]))
 refine⟨b,o,h3,λj x hx=>h4 j x ?_⟩;rw[ru]at hx
 split at hx
 ·exact hx
 cases hx
def Mx{α:Type} [DecidableEq α] (xs:List α)(k:Nat)(x:α)(hx:xs[k]?=U x)(h:(xs.take k).any (λy=>decide (x=y))=true):twice xs=true:=by
 unfold twice;rw[pC];exact⟨k,by simp;exact(eK.1 hx).1,by rw[hx];exact h⟩
def My{α:Type} [DecidableEq α] (xs:List α)(h:∀(k:Nat) (x:α),xs[k]?=U x->(xs.take k).any (λy=>decide (x=y))=false):twice xs=false:=by
 unfold twice;rw[wq];intro k hk;simp only[pG]at hk;have:=h k _ (bL hk);rw[bL hk];simp only[this];simp
def U9(v:aj)(xs:List Int)(z:Int)(w:ah)(hv:bY bc 1 w v xs)(hn:xs.length<=1000000):Calls prog 163 #[v,af I z] w λe w'=>e=aH (af I (n_ (λy=>decide (z=y)) xs))/\Below w.heap.size w w':=by
 obtain⟨sa,cap,rfl,-,(hcell:ag _)⟩:=hv;change ag _ at hn
 go_enter func163,ntmps163
 go_wp2_with fail
 go_loopw [5,8] (λ_ i wr=>∃k:Nat,k<=xs.length/\i=af I k/\Below w.heap.size w wr/\ag (∀(i:Nat) (y:Int),i<k->xs[i]?=U y->(λy=>decide (z=y)) y=false)) (λ_ i _=>xs.length-(intOf i).toNat)
 case atStart=>exact⟨0,cG _,rfl,aC _ _,λi b hi=>absurd hi (im _)⟩
 case round=>
  obtain⟨k,hk,rfl,bV,hall⟩:=hrel
  by_cases hlt:k<xs.length
  ·obtain⟨x,hx⟩:∃x,xs[k]?=U x:=⟨_,bL hlt⟩;obtain⟨b,o,rfl,hc0⟩:=hcell (λe=>by subst e;simp at hx);have hc:=λi x h j u hu=>aA bV (hc0 i x h j u hu)
   have c0:=hc k x hx 0 _ rfl;simp only[Nat.mul_one,qF]at c0;change ag _ at hx
   have k1:(k:Int)<(xs.length:Int):=by omega
   have k0:k<1000000:=by have:=hn.o;omega
   change ag _ at bV
   clear hc0 hc hcell
   by_cases dR:z=x
   ·have rF:ag ((λy=>decide _) x=true):=bz dR;have e1:(z==x)=true:=by simp[dR]
    clear dR;go_wp2
    go_ret;exact⟨by rw[zU _ xs k x hall.o hx.o rF.o];rfl,bV⟩
   have rF:ag ((λy=>decide _) x=false):=bX dR;have e1:(z==x)=false:=by simpa using dR
   clear dR;go_wp2
   go_roundw
   case rel=>
    refine⟨k+1,by omega,by go_num,bV,λi y hi e=>?_⟩
    by_cases hik:i=k
    ·subst hik;have h2:=hx.o;rw[h2]at e
     cases e
     exact rF
    exact hall i y (by omega) e
   case measure=>simp[intOf];omega
  have k1:¬(k:Int)<(xs.length:Int):=by omega
  have HN:ag _:=zT _ xs (λi x e=>hall i x (by have:=(eK.1 e).1;omega) e);clear hcell;go_wp2;go_ret;exact⟨by rw[HN.o];rfl,bV⟩
def U_(v:aj)(xs:List Int)(z:Int)(w:ah)(hv:bY bc 1 w v xs)(hn:xs.length<=1000000):Calls prog 156 #[v,af I z] w λe w'=>e=aH (aJ (xs.any (λy=>decide (z=y))))/\Below w.heap.size w w':=by
 have H:=U9 v xs z w hv hn;rw[<- zV];obtain⟨sa,cap,rfl,-⟩:=hv;go_enter func156,ntmps156
 go_wp2_with fail
 refine H.mono ?_;rintro e w' ⟨rfl,hb⟩;go_wp2;go_ret;exact⟨rfl,hb⟩
def U'(v:aj)(xs:List (Int×Int))(z:(Int×Int))(w:ah)(hv:bY kU 2 w v xs)(hn:xs.length<=1000000):Calls prog 162 #[v,a_ #[af I z.1,af I z.2]] w λe w'=>e=aH (af I (n_ (λy=>decide (z=y)) xs))/\Below w.heap.size w w':=by
 obtain⟨sa,cap,rfl,-,(hcell:ag _)⟩:=hv;change ag _ at hn
 have hg:=BN;have heq:=Ee;go_enter func162,ntmps162
 go_wp2_with fail
 have HS:ag (∀W,Below (w.heap.size+1) (w.alloc (ay #[af I z.1,af I z.2] 86)) W->Below w.heap.size w W/\w.heap.size+1<=W.heap.size/\W.cell? (ar w.heap.size 0 J)=U (af I z.1)/\W.cell? (ar w.heap.size 1 J)=U (af I z.2)):=λW hb=>by
  have hc:∀j v,(w.alloc _).cell? _=U v->W.cell? _=U v:=λj v e=>(hb.cell (p:=⟨w.heap.size,j,J⟩) (wh _)).trans e
  exact⟨((aC _ _).alloc (aR _) _).trans (hb.mono (Nat.le_succ _)),by simpa using hb.size,hc 0 _ (by simp),hc 1 _ (by simp)⟩
 go_loopw [5,8] (λ_ i wr=>∃k:Nat,k<=xs.length/\i=af I k/\Below (w.heap.size+1) (w.alloc (ay #[af I z.1,af I z.2] 86)) wr/\ag (∀(i:Nat) (y:(Int×Int)),i<k->xs[i]?=U y->(λy=>decide (z=y)) y=false)) (λ_ i _=>xs.length-(intOf i).toNat)
 case atStart=>exact⟨0,cG _,rfl,aC _ _,λi b hi=>absurd hi (im _)⟩
 case round=>
  obtain⟨k,hk,rfl,bV,hall⟩:=hrel;have Hm:=bV;obtain⟨bV,hsz,p0,p1⟩:=HS _ Hm;change ag _ at Hm
  by_cases hlt:k<xs.length
  ·obtain⟨x,hx⟩:∃x,xs[k]?=U x:=⟨_,bL hlt⟩;obtain⟨b,o,rfl,hc0⟩:=hcell (λe=>by subst e;simp at hx);have hc:=λi x h j u hu=>aA bV (hc0 i x h j u hu)
   have c0:=hc k x hx 0 _ rfl;have c1:=hc k x hx 1 _ rfl;simp only[qF]at c0;change ag _ at hx
   have k1:(k:Int)<(xs.length:Int):=by omega
   have k0:k<1000000:=by have:=hn.o;omega
   change ag _ at bV
   by_cases dR:z=x
   ·have rF:ag ((λy=>decide _) x=true):=bz dR;have e1:(z.1==x.1)=true:=by simp[dR]
    have e2:(z.2==x.2)=true:=by simp[dR]
    go_wp2_with fail
    go_quiet (fail)
    go_wp2;go_ret;exact⟨by rw[zU _ xs k x hall.o hx.o rF.o];rfl,cB bV _⟩
   have rF:ag ((λy=>decide _) x=false):=bX dR;have pN:(z.1==x.1)=false\/(z.1==x.1)=true/\(z.2==x.2)=false:=by
    by_cases h1:z.1=x.1
    ·right
     refine⟨by simpa using h1,?_⟩;simp only[lN];exact λh2=>dR (Prod.ext h1 h2)
    left;simpa using h1
   rcases pN with e1|⟨e1,e2⟩
   all_goals
    go_wp2_with fail
    go_quiet (fail)
    go_wp2;go_roundw
    case rel=>
     refine⟨k+1,by omega,by go_num,cB Hm _,λi y hi e=>?_⟩
     by_cases hik:i=k
     ·subst hik;have h2:=hx.o;rw[h2]at e
      cases e
      exact rF
     exact hall i y (by omega) e
    case measure=>simp[intOf];omega
  have k1:¬(k:Int)<(xs.length:Int):=by omega
  have HN:ag _:=zT _ xs (λi x e=>hall i x (by have:=(eK.1 e).1;omega) e);go_wp2;go_ret;exact⟨by rw[HN.o];rfl,bV⟩
def Va(v:aj)(xs:List (Int×Int))(z:(Int×Int))(w:ah)(hv:bY kU 2 w v xs)(hn:xs.length<=1000000):Calls prog 155 #[v,a_ #[af I z.1,af I z.2]] w λe w'=>e=aH (aJ (xs.any (λy=>decide (z=y))))/\Below w.heap.size w w':=by
 have H:=U' v xs z _ (hv.below (Below.one w (ay #[af I z.1,af I z.2] 86))) hn;rw[<- zV];obtain⟨sa,cap,rfl,-⟩:=hv;go_enter func155,ntmps155
 go_wp2_with fail
 refine H.mono ?_;rintro e w' ⟨rfl,hb⟩;go_wp2;go_ret;exact⟨rfl,(Below.one _ _).trans (hb.mono (by simp))⟩
def uM{B:Nat}(h:Below B w w'):Below B w w'.drew:=cB h 1
def Mz(v:aj)(xs:List Int)(w:ah)(hv:bY bc 1 w v xs)(hn:xs.length<=1000000):Calls prog 139 #[v] w λe w'=>e=aH (aJ (twice xs))/\Below w.heap.size w w':=by
 have HV:ag (bY _ 1 w v xs):=hv;obtain⟨sa,cap,rfl,(BO:ag _),(hcell:ag _)⟩:=hv;change ag _ at hn
 go_enter func139,ntmps139
 go_wp2_with fail
 go_loopw [3,4,7] (λ_ _ i wr=>∃k:Nat,k<=xs.length/\i=af I k/\Below w.heap.size w wr/\ag (∀(i:Nat) (y:Int),i<k->xs[i]?=U y->(xs.take i).any (λz=>decide (y=z))=false)) (λ_ _ i _=>xs.length-(intOf i).toNat)
 case atStart=>exact⟨0,cG _,rfl,aC _ _,λi b hi=>absurd hi (im _)⟩
 case round=>
  obtain⟨k,hk,rfl,bV,hall⟩:=hrel
  by_cases hlt:k<xs.length
  ·obtain⟨x,hx⟩:∃x,xs[k]?=U x:=⟨_,bL hlt⟩;obtain⟨b,o,rfl,hc0⟩:=hcell (λe=>by subst e;simp at hx);have hc:=λi x h j u hu=>aA bV (hc0 i x h j u hu)
   have c0:=hc k x hx 0 _ rfl;simp only[Nat.mul_one,qF]at c0;change ag _ at hx
   have HT:ag _:=λW hW=>
    U_ _ _ x W (((HV.below bV).below hW).take k (by omega) cap (by have:=BO.o;omega)) (by have:=hn.o;simp;omega)
   have k1:(k:Int)<(xs.length:Int):=by omega
   have k2:(0:Int)<=(k:Int):=by omega
   have k3:ag _:=hn.o;have k0:k<1000000:=by have:=hn.o;omega
   change ag _ at bV
   have Vb:k<=cap:=by have:=BO.o;omega
   cases dR:(xs.take k).any (λz=>decide (x=z))with
   |true=>
    have mG:=HT.o;rw[dR]at mG;change ag _ at mG
    have rF:ag _:=Mx xs k x hx dR;go_wp2_with fail
    refine bw (mG.o _ (aC _ _)) ?_;rintro e W' ⟨rfl,hb'⟩;go_wp2;go_ret;exact⟨by rw[rF.o];rfl,bV.trans (hb'.mono bV.size)⟩
   |false=>
    have mG:=HT.o;rw[dR]at mG;change ag _ at mG dR
    go_wp2_with fail
    refine bw (mG.o _ (aC _ _)) ?_;rintro e W' ⟨rfl,hb'⟩;have HW:ag _:=bV.trans (hb'.mono bV.size);go_wp2;go_roundw
    case rel=>
     refine⟨k+1,by omega,by go_num,HW,λi y hi e=>?_⟩
     by_cases hik:i=k
     ·subst hik;have h2:=hx.o;rw[h2]at e
      cases e
      exact dR
     exact hall i y (by omega) e
    case measure=>simp[intOf];omega
  have k1:¬(k:Int)<(xs.length:Int):=by omega
  have HN:ag _:=My xs (λi x e=>hall i x (by have:=(eK.1 e).1;omega) e);go_wp2;go_ret;exact⟨by rw[HN.o];rfl,bV⟩
def Vd(v:aj)(xs:List (Int×Int))(w:ah)(hv:bY kU 2 w v xs)(hn:xs.length<=1000000):Calls prog 137 #[v] w λe w'=>e=aH (aJ (twice xs))/\Below w.heap.size w w':=by
 have HV:ag (bY _ 2 w v xs):=hv;obtain⟨sa,cap,rfl,(BO:ag _),(hcell:ag _)⟩:=hv;change ag _ at hn
 go_enter func137,ntmps137
 go_wp2_with fail
 go_loopw [3,4,7] (λ_ _ i wr=>∃k:Nat,k<=xs.length/\i=af I k/\Below w.heap.size w wr/\ag (∀(i:Nat) (y:(Int×Int)),i<k->xs[i]?=U y->(xs.take i).any (λz=>decide (y=z))=false)) (λ_ _ i _=>xs.length-(intOf i).toNat)
 case atStart=>exact⟨0,cG _,rfl,aC _ _,λi b hi=>absurd hi (im _)⟩
 case round=>
  obtain⟨k,hk,rfl,bV,hall⟩:=hrel
  by_cases hlt:k<xs.length
  ·obtain⟨x,hx⟩:∃x,xs[k]?=U x:=⟨_,bL hlt⟩;obtain⟨b,o,rfl,hc0⟩:=hcell (λe=>by subst e;simp at hx);have hc:=λi x h j u hu=>aA bV (hc0 i x h j u hu)
   have c0:=hc k x hx 0 _ rfl;have c1:=hc k x hx 1 _ rfl;simp only[qF]at c0;change ag _ at hx
   have HT:ag _:=λW hW=>
    Va _ _ x W (((HV.below bV).below hW).take k (by omega) cap (by have:=BO.o;omega)) (by have:=hn.o;simp;omega)
   have k1:(k:Int)<(xs.length:Int):=by omega
   have k2:(0:Int)<=(k:Int):=by omega
   have k3:ag _:=hn.o;have k0:k<1000000:=by have:=hn.o;omega
   change ag _ at bV
   have Vb:k<=cap:=by have:=BO.o;omega
   cases dR:(xs.take k).any (λz=>decide (x=z))with
   |true=>
    have mG:=HT.o;rw[dR]at mG;change ag _ at mG
    have rF:ag _:=Mx xs k x hx dR;go_wp2_with fail
    have z0:(wr.alloc (ay #[af I x.1,af I x.2] 86)).drew.cell? (ar wr.heap.size 0 J)=U (af I x.1):=by simp
    have z1:(wr.alloc (ay #[af I x.1,af I x.2] 86)).drew.cell? (ar wr.heap.size 1 J)=U (af I x.2):=by simp
    go_region_held3 (λw'=>w'.cell? (ar wr.heap.size 0 J)=U (af I x.1)/\w'.cell? (ar wr.heap.size 1 J)=U (af I x.2)) (first|exact⟨z0,z1⟩|exact⟨y0,y1⟩) (first|(go_at_call 155;refine bw (mG.o _ (uM (Below.one _ _))) ?_;rintro e W' ⟨rfl,hb'⟩;have y0:=aA hb' z0;have y1:=aA hb' z1))
    go_wp2;go_ret;exact⟨by rw[rF.o];rfl,bV.trans (((uM (Below.one _ _)).mono bV.size).trans (hb'.mono (by simp;have:=bV.size;omega)))⟩
   |false=>
    have mG:=HT.o;rw[dR]at mG;change ag _ at mG dR
    go_wp2_with fail
    have z0:(wr.alloc (ay #[af I x.1,af I x.2] 86)).drew.cell? (ar wr.heap.size 0 J)=U (af I x.1):=by simp
    have z1:(wr.alloc (ay #[af I x.1,af I x.2] 86)).drew.cell? (ar wr.heap.size 1 J)=U (af I x.2):=by simp
    go_region_held3 (λw'=>w'.cell? (ar wr.heap.size 0 J)=U (af I x.1)/\w'.cell? (ar wr.heap.size 1 J)=U (af I x.2)) (first|exact⟨z0,z1⟩|exact⟨y0,y1⟩) (first|(go_at_call 155;refine bw (mG.o _ (uM (Below.one _ _))) ?_;rintro e W' ⟨rfl,hb'⟩;have y0:=aA hb' z0;have y1:=aA hb' z1))
    have HW:ag _:=bV.trans (((uM (Below.one _ _)).mono bV.size).trans (hb'.mono (by simp;have:=bV.size;omega)));go_wp2;go_roundw
    case rel=>
     refine⟨k+1,by omega,by go_num,HW,λi y hi e=>?_⟩
     by_cases hik:i=k
     ·subst hik;have h2:=hx.o;rw[h2]at e
      cases e
      exact dR
     exact hall i y (by omega) e
    case measure=>simp[intOf];omega
  have k1:¬(k:Int)<(xs.length:Int):=by omega
  have HN:ag _:=My xs (λi x e=>hall i x (by have:=(eK.1 e).1;omega) e);go_wp2;go_ret;exact⟨by rw[HN.o];rfl,bV⟩
def Ve(nm:ByteArray)(aW cnt mn mx:Int)(pa ga ea fa la:Option av)(pn pc gn gc en ec fn fc ln lc:Nat)  (w:ah):Calls prog 115 #[.agg (nR nm aW pa pn pc cnt mn mx ga gn gc ea en ec fa fn fc la ln lc)] w λe w'=>e=aH (aJ (!within aW 0 20))/\Below w.heap.size w w':=by
 unfold nR;go_enter func115,ntmps115
 go_wp2_with fail
 apply(BD aW 0 20 _).mono;rintro e w' ⟨rfl,rfl⟩;go_wp2;go_ret;exact⟨rfl,Below.one _ _⟩
def Vf(nm:ByteArray)(aW cnt mn mx:Int)(pa ga ea fa la:Option av)(pn pc gn gc en ec fn fc ln lc:Nat)  (w:ah):Calls prog 116 #[.agg (nR nm aW pa pn pc cnt mn mx ga gn gc ea en ec fa fn fc la ln lc)] w λe w'=>e=aH (aJ (decide (16<pn)))/\Below w.heap.size w w':=by
 unfold nR;have hd:decide (16<pn)=decide ((16:Int)<(pn:Int)):=jd.2 (by omega);rw[hd];go_enter func116,ntmps116
 go_wp2;go_ret;exact⟨rfl,Below.one _ _⟩
def Vg(nm:ByteArray)(aW cnt mn mx:Int)(pa ga ea fa la:Option av)(pn pc gn gc en ec fn fc ln lc:Nat)  (w:ah):Calls prog 117 #[.agg (nR nm aW pa pn pc cnt mn mx ga gn gc ea en ec fa fn fc la ln lc)] w λe w'=>e=aH (aJ (decide (8<gn)))/\Below w.heap.size w w':=by
 unfold nR;have hd:decide (8<gn)=decide ((8:Int)<(gn:Int)):=jd.2 (by omega);rw[hd];go_enter func117,ntmps117
 go_wp2;go_ret;exact⟨rfl,Below.one _ _⟩
def Vh(nm:ByteArray)(aW cnt mn mx:Int)(pa ga ea fa la:Option av)(pn pc gn gc en ec fn fc ln lc:Nat)  (w:ah):Calls prog 118 #[.agg (nR nm aW pa pn pc cnt mn mx ga gn gc ea en ec fa fn fc la ln lc)] w λe w'=>e=aH (aJ (decide (64<en)))/\Below w.heap.size w w':=by
 unfold nR;have hd:decide (64<en)=decide ((64:Int)<(en:Int)):=jd.2 (by omega);rw[hd];go_enter func118,ntmps118
 go_wp2;go_ret;exact⟨rfl,Below.one _ _⟩
def Vi(nm:ByteArray)(aW cnt mn mx:Int)(pa ga ea fa la:Option av)(pn pc gn gc en ec fn fc ln lc:Nat)  (w:ah):Calls prog 119 #[.agg (nR nm aW pa pn pc cnt mn mx ga gn gc ea en ec fa fn fc la ln lc)] w λe w'=>e=aH (aJ (decide (16<fn)))/\Below w.heap.size w w':=by
 unfold nR;have hd:decide (16<fn)=decide ((16:Int)<(fn:Int)):=jd.2 (by omega);rw[hd];go_enter func119,ntmps119
 go_wp2;go_ret;exact⟨rfl,Below.one _ _⟩
def Vj(nm:ByteArray)(aW cnt mn mx:Int)(pa ga ea fa la:Option av)(pn pc gn gc en ec fn fc ln lc:Nat)  (w:ah):Calls prog 120 #[.agg (nR nm aW pa pn pc cnt mn mx ga gn gc ea en ec fa fn fc la ln lc)] w λe w'=>e=aH (aJ (decide (16<ln)))/\Below w.heap.size w w':=by
 unfold nR;have hd:decide (16<ln)=decide ((16:Int)<(ln:Int)):=jd.2 (by omega);rw[hd];go_enter func120,ntmps120
 go_wp2;go_ret;exact⟨rfl,Below.one _ _⟩
def xS(A:Nat->av):Array aj:=#[.iface 238 (ax (U (A 1))),.func (.func 115) #[] #[],.iface 238 (ax (U (A 1))),.func (.func 116) #[] #[],.iface 238 (ax (U (A 1))),.func (.func 117) #[] #[],.iface 238 (ax (U (A 1))),.func (.func 118) #[] #[],.iface 238 (ax (U (A 1))),.func (.func 119) #[] #[],.iface 238 (ax (U (A 1))),.func (.func 120) #[] #[]]
def MA(A:Nat->av)(w:ah)(hs:lQ A w):Calls prog 100 #[] w λe w'=>e=aH (ak (U (ar w.heap.size 0 J)) 6 6)/\w'=w.alloc (ay (xS A) 205):=by
 have c1:=hs.c1;unfold xS;go_enter func100,ntmps100
 go_wp2;go_ret;exact⟨rfl,rfl⟩
def MB(i:Nat):Nat:=[115,116,117,118,119,120].getD i 0
def Vk(A:Nat->av)(e:aG)(pa ga ea fa la:Option av)(pc gc ec fc lc:Nat)(r:Nat)(W:ah)(hr:W.heap[r]?=U (ay (xS A) 205 (0,0))):BJ A W r (.agg (uK e (ak pa e.au.length pc) (ak ga e.aP.length gc) (ak ea e.aN.length ec) (ak fa e.first.length fc) (ak la e.last.length lc))) [(!within e.aW 0 20,2),(decide (16<e.au.length),2),(decide (8<e.aP.length),2),(decide (64<e.aN.length),2),(decide (16<e.first.length),2),(decide (16<e.last.length),2)] MB:=by
 have hcell:∀j v,(xS A)[j]?=U v->W.cell? (ar r j J)=U v:=λj v e=>by simp[aL,hr,e]
 refine⟨λi b d e=>?_,λi b d e=>?_,λi b d e' V hV=>?_,by simp,λi b d e=>?_⟩
 ·match i,e with
  |0,e=>cases e;exact⟨hcell 0 _ rfl,hcell 1 _ rfl⟩
  |1,e=>cases e;exact⟨hcell 2 _ rfl,hcell 3 _ rfl⟩
  |2,e=>cases e;exact⟨hcell 4 _ rfl,hcell 5 _ rfl⟩
  |3,e=>cases e;exact⟨hcell 6 _ rfl,hcell 7 _ rfl⟩
  |4,e=>cases e;exact⟨hcell 8 _ rfl,hcell 9 _ rfl⟩
  |5,e=>cases e;exact⟨hcell 10 _ rfl,hcell 11 _ rfl⟩
  |i+6,e=>cases e
 ·match i,e with
  |0,_=>exact enters_of func115 (by kernel_rfl) rfl
  |1,_=>exact enters_of func116 (by kernel_rfl) rfl
  |2,_=>exact enters_of func117 (by kernel_rfl) rfl
  |3,_=>exact enters_of func118 (by kernel_rfl) rfl
  |4,_=>exact enters_of func119 (by kernel_rfl) rfl
  |5,_=>exact enters_of func120 (by kernel_rfl) rfl
  |i+6,e=>cases e
 ·match i,e' with
  |0,e'=>cases e';exact Ve _ _ _ _ _ _ _ _ _ _ _ _ _ _ _ _ _ _ _ _ _
  |1,e'=>cases e';exact Vf _ _ _ _ _ _ _ _ _ _ _ _ _ _ _ _ _ _ _ _ _
  |2,e'=>cases e';exact Vg _ _ _ _ _ _ _ _ _ _ _ _ _ _ _ _ _ _ _ _ _
  |3,e'=>cases e';exact Vh _ _ _ _ _ _ _ _ _ _ _ _ _ _ _ _ _ _ _ _ _
  |4,e'=>cases e';exact Vi _ _ _ _ _ _ _ _ _ _ _ _ _ _ _ _ _ _ _ _ _
  |5,e'=>cases e';exact Vj _ _ _ _ _ _ _ _ _ _ _ _ _ _ _ _ _ _ _ _ _
  |i+6,e'=>cases e'
 match i,e with
 |0,e=>cases e;decide
 |1,e=>cases e;decide
 |2,e=>cases e;decide
 |3,e=>cases e;decide
 |4,e=>cases e;decide
 |5,e=>cases e;decide
 |i+6,e=>cases e
def Vl(w:ah)(a:Int)(t:TypeId):bY bc 1 (w.alloc (ay #[af I a] t)) (ak (U (ar w.heap.size 0 J)) 1 1) [a]:=by
 refine⟨_,_,rfl,aR _,λ_=>⟨_,_,rfl,λi x hx j u hu=>?_⟩⟩
 match i,hx with
 |0,hx=>
  cases hx
  match j,hu with
  |0,hu=>cases hu;simp
  |j+1,hu=>cases hu
 |i+1,hx=>cases hx
def Vm(w:ah)(a b:Int)(t:TypeId):bY bc 1 (w.alloc (ay #[af I a,af I b] t)) (ak (U (ar w.heap.size 0 J)) 2 2) [a,b]:=by
 refine⟨_,_,rfl,aR _,λ_=>⟨_,_,rfl,λi x hx j u hu=>?_⟩⟩
 match i,hx with
 |0,hx=>
  cases hx
  match j,hu with
  |0,hu=>cases hu;simp
  |j+1,hu=>cases hu
 |1,hx=>
  cases hx
  match j,hu with
  |0,hu=>cases hu;simp
  |j+1,hu=>cases hu
 |i+2,hx=>cases hx
def Vn(w:ah)(o:Obj)(a:Int)(t:TypeId):bY bc 1 ((w.alloc o).alloc (ay #[af I a] t)) (ak (U ⟨w.heap.size+1,0,J⟩) 1 1) [a]:=by
 rw[show w.heap.size+1=(w.alloc o).heap.size by simp];exact Vl _ a t
def MC(w:ah)(o:Obj)(a b:Int)(t:TypeId):bY bc 1 ((w.alloc o).alloc (ay #[af I a,af I b] t)) (ak (U ⟨w.heap.size+1,0,J⟩) 2 2) [a,b]:=by
 rw[show w.heap.size+1=(w.alloc o).heap.size by simp];exact Vm _ a b t
def oa(W:ah)(B:Nat)(row:Array aj):Prop:=∀j v,row[j]?=U v->W.cell? (ar B j J)=U v
def oa.below{W W':ah}{B:Nat}{row:Array aj}(h:oa W B row)(hb:Below W.heap.size W W'):oa W' B row:=λj v e=>aA hb (h j v e)
def oa.new(w:ah)(row:Array aj)(t:TypeId):oa (w.alloc (ay row t)) w.heap.size row:=λj v e=>by rw[fE _ _ _ _ rfl];exact e
def Vo(nm:ByteArray)(aW cnt mn mx:Int)(pa ga ea fa la:Option av)(pn pc gn gc en ec fn fc ln lc:Nat)  (w:ah):Calls prog 121 #[.agg (nR nm aW pa pn pc cnt mn mx ga gn gc ea en ec fa fn fc la ln lc)] w λe w'=>e=aH (aJ (decide (cnt≠-1)&&lacks pn cnt))/\Below w.heap.size w w':=by
 unfold nR
 by_cases h:cnt=-1
 ·subst h;go_enter func121,ntmps121
  go_wp2;go_ret;exact⟨rfl,Below.one _ _⟩
 have hd:(cnt == -1)=false:=by simpa using h
 have Hn:(cnt != -1)=true:=by simpa using h
 have H:=BM nm aW cnt mn mx pa ga ea fa la pn pc gn gc en ec fn fc ln lc _ _ _ (Vn w (ay (nR nm aW pa pn pc cnt mn mx ga gn gc ea en ec fa fn fc la ln lc) 60) cnt 3) (by simp);simp only[List.any_cons,List.any_nil,Bool.or_false]at H;change ag _ at H
 have hr:(decide (cnt≠-1)&&lacks pn cnt)=lacks pn cnt:=by simp[h]
 rw[hr];have HD:ag (cnt≠-1):=h;go_enter func121,ntmps121
 go_wp2_with fail
 refine bw H.o ?_;rintro e w' ⟨rfl,hb⟩;go_wp2;go_ret;exact⟨rfl,((Below.one _ _).alloc (by simp) _).trans (hb.mono (by simp;omega))⟩
def Vp(nm:ByteArray)(aW cnt mn mx:Int)(pa ga ea fa la:Option av)(pn pc gn gc en ec fn fc ln lc:Nat)(x:lx)(B:Nat)(W:ah)(hB:oa W B (nR nm aW pa pn pc cnt mn mx ga gn gc ea en ec fa fn fc la ln lc)):Calls prog 125 #[a_ #[af I x.fr,af I x.to,af I x.mn,af I x.mx],ax (U (ar B 0 J))] W λe w'=>e=aH (aJ (lacks pn x.fr||lacks pn x.to))/\Below W.heap.size W w':=by
 have b0:∀o,(W.alloc o).cell? _=U (aB nm):=λo=>aA (Below.one _ _) (hB 0 _ rfl)
 have b1:∀o,(W.alloc o).cell? _=U (af I aW):=λo=>aA (Below.one _ _) (hB 1 _ rfl)
 have b2:∀o,(W.alloc o).cell? _=U (ak pa pn pc):=λo=>aA (Below.one _ _) (hB 2 _ rfl)
 have b3:∀o,(W.alloc o).cell? _=U (af I cnt):=λo=>aA (Below.one _ _) (hB 3 _ rfl)
 have b4:∀o,(W.alloc o).cell? _=U (af I mn):=λo=>aA (Below.one _ _) (hB 4 _ rfl)
 have b5:∀o,(W.alloc o).cell? _=U (af I mx):=λo=>aA (Below.one _ _) (hB 5 _ rfl)
 have b6:∀o,(W.alloc o).cell? _=U (ak ga gn gc):=λo=>aA (Below.one _ _) (hB 6 _ rfl)
 have b7:∀o,(W.alloc o).cell? _=U (ak ea en ec):=λo=>aA (Below.one _ _) (hB 7 _ rfl)
 have b8:∀o,(W.alloc o).cell? _=U (ak fa fn fc):=λo=>aA (Below.one _ _) (hB 8 _ rfl)
 have b9:∀o,(W.alloc o).cell? _=U (ak la ln lc):=λo=>aA (Below.one _ _) (hB 9 _ rfl)
 have H:=BM nm aW cnt mn mx pa ga ea fa la pn pc gn gc en ec fn fc ln lc _ _ _ (MC W (ay #[af I x.fr,af I x.to,af I x.mn,af I x.mx] 85) (x.fr) (x.to) 3) (by simp);simp only[List.any_cons,List.any_nil,Bool.or_false]at H;change ag _ at H
 go_enter func125,ntmps125
 go_wp2_with fail
 refine bw H.o ?_;rintro e w' ⟨rfl,hb⟩;go_wp2;go_ret;exact⟨rfl,((Below.one _ _).alloc (by simp) _).trans (hb.mono (by simp;omega))⟩
def Vq(nm:ByteArray)(aW cnt mn mx:Int)(pa ga ea fa la:Option av)(pn pc gn gc en ec fn fc ln lc:Nat)(x:(Int×Int))(B:Nat)(W:ah)(hB:oa W B (nR nm aW pa pn pc cnt mn mx ga gn gc ea en ec fa fn fc la ln lc)):Calls prog 128 #[a_ #[af I x.1,af I x.2],ax (U (ar B 0 J))] W λe w'=>e=aH (aJ (lacks pn x.1||lacks pn x.2))/\Below W.heap.size W w':=by
 have b0:∀o,(W.alloc o).cell? _=U (aB nm):=λo=>aA (Below.one _ _) (hB 0 _ rfl)
 have b1:∀o,(W.alloc o).cell? _=U (af I aW):=λo=>aA (Below.one _ _) (hB 1 _ rfl)
 have b2:∀o,(W.alloc o).cell? _=U (ak pa pn pc):=λo=>aA (Below.one _ _) (hB 2 _ rfl)
 have b3:∀o,(W.alloc o).cell? _=U (af I cnt):=λo=>aA (Below.one _ _) (hB 3 _ rfl)
 have b4:∀o,(W.alloc o).cell? _=U (af I mn):=λo=>aA (Below.one _ _) (hB 4 _ rfl)
 have b5:∀o,(W.alloc o).cell? _=U (af I mx):=λo=>aA (Below.one _ _) (hB 5 _ rfl)
 have b6:∀o,(W.alloc o).cell? _=U (ak ga gn gc):=λo=>aA (Below.one _ _) (hB 6 _ rfl)
 have b7:∀o,(W.alloc o).cell? _=U (ak ea en ec):=λo=>aA (Below.one _ _) (hB 7 _ rfl)
 have b8:∀o,(W.alloc o).cell? _=U (ak fa fn fc):=λo=>aA (Below.one _ _) (hB 8 _ rfl)
 have b9:∀o,(W.alloc o).cell? _=U (ak la ln lc):=λo=>aA (Below.one _ _) (hB 9 _ rfl)
 have H:=BM nm aW cnt mn mx pa ga ea fa la pn pc gn gc en ec fn fc ln lc _ _ _ (MC W (ay #[af I x.1,af I x.2] 86) (x.1) (x.2) 3) (by simp);simp only[List.any_cons,List.any_nil,Bool.or_false]at H;change ag _ at H
 go_enter func128,ntmps128
 go_wp2_with fail
 refine bw H.o ?_;rintro e w' ⟨rfl,hb⟩;go_wp2;go_ret;exact⟨rfl,((Below.one _ _).alloc (by simp) _).trans (hb.mono (by simp;omega))⟩
def Vr(nm:ByteArray)(aW cnt mn mx:Int)(pa ga ea fa la:Option av)(pn pc gn gc en ec fn fc ln lc:Nat)(xs:List lx)(w:ah)(hv:bY j7 4 w (ak ga gn gc) xs)(hn:xs.length<=1000000):Calls prog 123 #[.agg (nR nm aW pa pn pc cnt mn mx ga gn gc ea en ec fa fn fc la ln lc)] w λe w'=>e=aH (aJ (xs.any λx=>lacks pn x.fr||lacks pn x.to))/\Below w.heap.size w w':=by
 unfold nR;have H:=Mt _ xs _ 125 #[ax _] _ (hv.below (Below.one w (ay _ 60))) hn (enters_of func125 (by kernel_rfl) rfl) (λW hb x _=>Vp nm aW cnt mn mx pa ga ea fa la pn pc gn gc en ec fn fc ln lc x _ W ((oa.new w _ _).below hb));change ag _ at H
 go_enter func123,ntmps123
 go_wp2_with fail
 refine bw H.o ?_;rintro e w' ⟨rfl,hb⟩;go_wp2;go_ret;exact⟨rfl,(Below.one _ _).trans (hb.mono (by simp))⟩
def Vs(nm:ByteArray)(aW cnt mn mx:Int)(pa ga ea fa la:Option av)(pn pc gn gc en ec fn fc ln lc:Nat)(xs:List (Int×Int))(w:ah)(hv:bY kU 2 w (ak ea en ec) xs)(hn:xs.length<=1000000):Calls prog 126 #[.agg (nR nm aW pa pn pc cnt mn mx ga gn gc ea en ec fa fn fc la ln lc)] w λe w'=>e=aH (aJ (xs.any λx=>lacks pn x.1||lacks pn x.2))/\Below w.heap.size w w':=by
 unfold nR;have H:=U3 _ xs _ 128 #[ax _] _ (hv.below (Below.one w (ay _ 60))) hn (enters_of func128 (by kernel_rfl) rfl) (λW hb x _=>Vq nm aW cnt mn mx pa ga ea fa la pn pc gn gc en ec fn fc ln lc x _ W ((oa.new w _ _).below hb));change ag _ at H
 go_enter func126,ntmps126
 go_wp2_with fail
 refine bw H.o ?_;rintro e w' ⟨rfl,hb⟩;go_wp2;go_ret;exact⟨rfl,(Below.one _ _).trans (hb.mono (by simp))⟩
def Vt(nm:ByteArray)(aW cnt mn mx:Int)(pa ga ea fa la:Option av)(pn pc gn gc en ec fn fc ln lc:Nat)(xs:List Int)(w:ah)(hv:bY bc 1 w (ak fa fn fc) xs)(hn:xs.length<=1000000):Calls prog 129 #[.agg (nR nm aW pa pn pc cnt mn mx ga gn gc ea en ec fa fn fc la ln lc)] w λe w'=>e=aH (aJ (xs.any λx=>lacks pn x))/\Below w.heap.size w w':=by
 unfold nR;have H:=BM nm aW cnt mn mx pa ga ea fa la pn pc gn gc en ec fn fc ln lc _ xs _ (hv.below (Below.one w (ay (nR nm aW pa pn pc cnt mn mx ga gn gc ea en ec fa fn fc la ln lc) 60))) hn;change ag _ at H
 go_enter func129,ntmps129
 go_wp2_with fail
 refine bw H.o ?_;rintro e w' ⟨rfl,hb⟩;go_wp2;go_ret;exact⟨rfl,(Below.one _ _).trans (hb.mono (by simp))⟩
def Vu(nm:ByteArray)(aW cnt mn mx:Int)(pa ga ea fa la:Option av)(pn pc gn gc en ec fn fc ln lc:Nat)(xs:List Int)(w:ah)(hv:bY bc 1 w (ak la ln lc) xs)(hn:xs.length<=1000000):Calls prog 130 #[.agg (nR nm aW pa pn pc cnt mn mx ga gn gc ea en ec fa fn fc la ln lc)] w λe w'=>e=aH (aJ (xs.any λx=>lacks pn x))/\Below w.heap.size w w':=by
 unfold nR;have H:=BM nm aW cnt mn mx pa ga ea fa la pn pc gn gc en ec fn fc ln lc _ xs _ (hv.below (Below.one w (ay (nR nm aW pa pn pc cnt mn mx ga gn gc ea en ec fa fn fc la ln lc) 60))) hn;change ag _ at H
 go_enter func130,ntmps130
 go_wp2_with fail
 refine bw H.o ?_;rintro e w' ⟨rfl,hb⟩;go_wp2;go_ret;exact⟨rfl,(Below.one _ _).trans (hb.mono (by simp))⟩
def Vv(nm:ByteArray)(aW cnt mn mx:Int)(pa ga ea fa la:Option av)(pn pc gn gc en ec fn fc ln lc:Nat)  (w:ah):Calls prog 131 #[.agg (nR nm aW pa pn pc cnt mn mx ga gn gc ea en ec fa fn fc la ln lc)] w λe w'=>e=aH (aJ (decide (cnt=-1)&&(decide (mn≠0)||decide (mx≠0))))/\Below w.heap.size w w':=by
 unfold nR
 by_cases h:cnt=-1
 ·subst h
  by_cases h1:mn=0
  ·subst h1
   by_cases h2:mx=0
   ·subst h2;go_enter func131,ntmps131
    go_wp2;go_ret;exact⟨rfl,Below.one _ _⟩
   have hd:(mx != 0)=true:=by simpa using h2
   rw[show (decide _&&(decide _||decide _))=true by simp[h2]];go_enter func131,ntmps131
   go_wp2;go_ret;exact⟨rfl,Below.one _ _⟩
  have hd:(mn != 0)=true:=by simpa using h1
  rw[show (decide _&&(decide _||decide _))=true by simp[h1]];go_enter func131,ntmps131
  go_wp2;go_ret;exact⟨rfl,Below.one _ _⟩
 have hd:(cnt == -1)=false:=by simpa using h
 rw[show (decide _&&(decide _||decide _))=false by simp[h]];go_enter func131,ntmps131
 go_wp2;go_ret;exact⟨rfl,Below.one _ _⟩
def wF(w:ah)(o:Obj)(row:Array aj)(t:TypeId)(j:Nat)(v:aj)(h:row[j]?=U v):((w.alloc o).alloc (ay row t)).cell? ⟨w.heap.size+1,j,J⟩=U v:=by
 rw[show w.heap.size+1=(w.alloc o).heap.size by simp,fE _ _ _ _ rfl];exact h
def Vw(nm:ByteArray)(aW cnt mn mx:Int)(pa ga ea fa la:Option av)(pn pc gn gc en ec fn fc ln lc:Nat)(w:ah):Calls prog 132 #[.agg (nR nm aW pa pn pc cnt mn mx ga gn gc ea en ec fa fn fc la ln lc)] w λe w'=>e=aH (aJ (!iH 0 mn mx 999))/\Below w.heap.size w w':=by
 unfold nR;have H:=Mu 0 mn mx 999 _ 4 ((w.alloc (ay (nR nm aW pa pn pc cnt mn mx ga gn gc ea en ec fa fn fc la ln lc) 60)).alloc (ay #[af I 0,af I mn,af I mx,af I 999] 3)) (wF w _ _ _ 0 _ rfl) (wF w _ _ _ 1 _ rfl) (wF w _ _ _ 2 _ rfl) (wF w _ _ _ 3 _ rfl);change ag _ at H
 go_enter func132,ntmps132
 go_wp2_with fail
 refine bw H.o ?_;rintro e w' ⟨rfl,hb⟩;go_wp2;go_ret;exact⟨rfl,((Below.one _ _).alloc (by simp) _).trans (hb.mono (by simp;omega))⟩
def Vx(x:lx)(w:ah):Calls prog 135 #[a_ #[af I x.fr,af I x.to,af I x.mn,af I x.mx]] w λe w'=>e=aH (aJ (!iH 0 x.mn x.mx 1099511627776))/\Below w.heap.size w w':=by
 have H:=Mu 0 _ _ 1099511627776 _ 4 ((w.alloc (ay #[af I x.fr,af I x.to,af I x.mn,af I x.mx] 85)).alloc (ay #[af I 0,af I x.mn,af I x.mx,af I 1099511627776] 3)) (wF w _ _ _ 0 _ rfl) (wF w _ _ _ 1 _ rfl) (wF w _ _ _ 2 _ rfl) (wF w _ _ _ 3 _ rfl);change ag _ at H
 go_enter func135,ntmps135
 go_wp2_with fail
 refine bw H.o ?_;rintro e w' ⟨rfl,hb⟩;go_wp2;go_ret;exact⟨rfl,((Below.one _ _).alloc (by simp) _).trans (hb.mono (by simp;omega))⟩
def Vy(nm:ByteArray)(aW cnt mn mx:Int)(pa ga ea fa la:Option av)(pn pc gn gc en ec fn fc ln lc:Nat)(xs:List lx)(w:ah)(hv:bY j7 4 w (ak ga gn gc) xs)(hn:xs.length<=1000000):Calls prog 134 #[.agg (nR nm aW pa pn pc cnt mn mx ga gn gc ea en ec fa fn fc la ln lc)] w λe w'=>e=aH (aJ (xs.any λx=>!iH 0 x.mn x.mx 1099511627776))/\Below w.heap.size w w':=by
 unfold nR;have H:=Mt _ xs _ 135 #[] _ (hv.below (Below.one w (ay (nR nm aW pa pn pc cnt mn mx ga gn gc ea en ec fa fn fc la ln lc) 60))) hn (enters_of func135 (by kernel_rfl) rfl) (λW _ x _=>Vx x W);change ag _ at H
 go_enter func134,ntmps134
 go_wp2_with fail
 refine bw H.o ?_;rintro e w' ⟨rfl,hb⟩;go_wp2;go_ret;exact⟨rfl,(Below.one _ _).trans (hb.mono (by simp))⟩
def Vz(nm:ByteArray)(aW cnt mn mx:Int)(pa ga ea fa la:Option av)(pn pc gn gc en ec fn fc ln lc:Nat)(xs:List (Int×Int))(w:ah)(hv:bY kU 2 w (ak ea en ec) xs)(hn:xs.length<=1000000):Calls prog 136 #[.agg (nR nm aW pa pn pc cnt mn mx ga gn gc ea en ec fa fn fc la ln lc)] w λe w'=>e=aH (aJ (twice xs))/\Below w.heap.size w w':=by
 unfold nR;have H:=Vd _ xs _ (hv.below (Below.one w (ay (nR nm aW pa pn pc cnt mn mx ga gn gc ea en ec fa fn fc la ln lc) 60))) hn;change ag _ at H
 go_enter func136,ntmps136
 go_wp2_with fail
 refine bw H.o ?_;rintro e w' ⟨rfl,hb⟩;go_wp2;go_ret;exact⟨rfl,(Below.one _ _).trans (hb.mono (by simp))⟩
def VA(nm:ByteArray)(aW cnt mn mx:Int)(pa ga ea fa la:Option av)(pn pc gn gc en ec fn fc ln lc:Nat)(xs:List Int)(w:ah)(hv:bY bc 1 w (ak fa fn fc) xs)(hn:xs.length<=1000000):Calls prog 138 #[.agg (nR nm aW pa pn pc cnt mn mx ga gn gc ea en ec fa fn fc la ln lc)] w λe w'=>e=aH (aJ (twice xs))/\Below w.heap.size w w':=by
 unfold nR;have H:=Mz _ xs _ (hv.below (Below.one w (ay (nR nm aW pa pn pc cnt mn mx ga gn gc ea en ec fa fn fc la ln lc) 60))) hn;change ag _ at H
 go_enter func138,ntmps138
 go_wp2_with fail
 refine bw H.o ?_;rintro e w' ⟨rfl,hb⟩;go_wp2;go_ret;exact⟨rfl,(Below.one _ _).trans (hb.mono (by simp))⟩
def VB(nm:ByteArray)(aW cnt mn mx:Int)(pa ga ea fa la:Option av)(pn pc gn gc en ec fn fc ln lc:Nat)(xs:List Int)(w:ah)(hv:bY bc 1 w (ak la ln lc) xs)(hn:xs.length<=1000000):Calls prog 140 #[.agg (nR nm aW pa pn pc cnt mn mx ga gn gc ea en ec fa fn fc la ln lc)] w λe w'=>e=aH (aJ (twice xs))/\Below w.heap.size w w':=by
 unfold nR;have H:=Mz _ xs _ (hv.below (Below.one w (ay (nR nm aW pa pn pc cnt mn mx ga gn gc ea en ec fa fn fc la ln lc) 60))) hn;change ag _ at H
 go_enter func140,ntmps140
 go_wp2_with fail
 refine bw H.o ?_;rintro e w' ⟨rfl,hb⟩;go_wp2;go_ret;exact⟨rfl,(Below.one _ _).trans (hb.mono (by simp))⟩
def VC(nm:ByteArray)(aW cnt mn mx:Int)(pa ga ea fa la:Option av)(pn pc gn gc en ec fn fc ln lc:Nat)  (w:ah):Calls prog 141 #[.agg (nR nm aW pa pn pc cnt mn mx ga gn gc ea en ec fa fn fc la ln lc)] w λe w'=>e=aH (aJ (decide (0<en)&&decide (fn=0)))/\Below w.heap.size w w':=by
 unfold nR
 by_cases h:0<en
 ·have g:(0:Int)<(en:Int):=by omega
  by_cases h2:fn=0
  ·subst h2;rw[show (decide _&&decide _)=true by simp[h]];go_enter func141,ntmps141
   go_wp2;go_ret;exact⟨rfl,Below.one _ _⟩
  have g2:((fn:Int)==0)=false:=by rw[lN];omega
  rw[show (decide _&&decide _)=false by simp[h2]];go_enter func141,ntmps141
  go_wp2;go_ret;exact⟨rfl,Below.one _ _⟩
 obtain rfl:en=0:=by omega
 rw[show (decide _&&decide _)=false by simp];go_enter func141,ntmps141
 go_wp2;go_ret;exact⟨rfl,Below.one _ _⟩
def VD(nm:ByteArray)(aW cnt mn mx:Int)(pa ga ea fa la:Option av)(pn pc gn gc en ec fn fc ln lc:Nat)(hf:fn<=1000000)(hl:ln<=1000000)(w:ah):Calls prog 142 #[.agg (nR nm aW pa pn pc cnt mn mx ga gn gc ea en ec fa fn fc la ln lc)] w λe w'=>e=aH (aJ (decide (en=0)&&decide (0<fn+ln)))/\Below w.heap.size w w':=by
 unfold nR
 by_cases h:en=0
 ·subst h;have hw:IntKind.i64.wrap ((fn:Int)+(ln:Int))=((fn+ln:Nat):Int):=by rw[IntKind.wrap_i64];omega
  rw[show (decide _&&decide _)=decide ((0:Int)<((fn+ln:Nat):Int)) by simp only[decide_true,Bool.true_and];exact jd.2 (by omega)];generalize ((fn+ln:Nat):Int)=q at *;go_enter func142,ntmps142
  go_wp2;go_ret;exact⟨rfl,Below.one _ _⟩
 have g:((en:Int)==0)=false:=by rw[lN];omega
 rw[show (decide _&&decide _)=false by simp[h]];go_enter func142,ntmps142
 go_wp2;go_ret;exact⟨rfl,Below.one _ _⟩
def zX(A:Nat->av):Array aj:=#[.iface 238 (ax (U (A 4))),.func (.func 121) #[] #[],.iface 238 (ax (U (A 4))),.func (.func 123) #[] #[],.iface 238 (ax (U (A 4))),.func (.func 126) #[] #[],.iface 238 (ax (U (A 4))),.func (.func 129) #[] #[],.iface 238 (ax (U (A 4))),.func (.func 130) #[] #[],.iface 238 (ax (U (A 2))),.func (.func 131) #[] #[],.iface 238 (ax (U (A 1))),.func (.func 132) #[] #[],.iface 238 (ax (U (A 1))),.func (.func 134) #[] #[],.iface 238 (ax (U (A 5))),.func (.func 136) #[] #[],.iface 238 (ax (U (A 5))),.func (.func 138) #[] #[],.iface 238 (ax (U (A 5))),.func (.func 140) #[] #[],.iface 238 (ax (U (A 2))),.func (.func 141) #[] #[],.iface 238 (ax (U (A 2))),.func (.func 142) #[] #[]]
def VE(A:Nat->av)(w:ah)(hs:lQ A w):Calls prog 101 #[] w λe w'=>e=aH (ak (U (ar w.heap.size 0 J)) 13 13)/\w'=w.alloc (ay (zX A) 205):=by
 have c1:=hs.c1;have c2:=hs.c2;have c4:=hs.c4;have c5:=hs.c5;unfold zX;go_enter func101,ntmps101
 go_wp2;go_ret;exact⟨rfl,rfl⟩
def MD(i:Nat):Nat:=[121,123,126,129,130,131,132,134,136,138,140,141,142].getD i 0
def VF(A:Nat->av)(e:aG)(pa ga ea fa la:Option av)(pc gc ec fc lc:Nat)(r:Nat)(W:ah)(hP:lO W e (ak pa e.au.length pc) (ak ga e.aP.length gc) (ak ea e.aN.length ec) (ak fa e.first.length fc) (ak la e.last.length lc))(hS:rB e)(hr:W.heap[r]?=U (ay (zX A) 205 (0,0))):BJ A W r (.agg (uK e (ak pa e.au.length pc) (ak ga e.aP.length gc) (ak ea e.aN.length ec) (ak fa e.first.length fc) (ak la e.last.length lc))) [
 (decide (e.cnt≠-1)&&lacks e.au.length e.cnt,5),
 (e.aP.any λg=>lacks e.au.length g.fr||lacks e.au.length g.to,5),
 (e.aN.any λd=>lacks e.au.length d.1||lacks e.au.length d.2,5),
 (e.first.any λx=>lacks e.au.length x,5),
 (e.last.any λx=>lacks e.au.length x,5),
 (decide (e.cnt=-1)&&(decide (e.mn≠0)||decide (e.mx≠0)),3),
 (!iH 0 e.mn e.mx 999,2),
 (e.aP.any λg=>!iH 0 g.mn g.mx 1099511627776,2),
 (twice e.aN,6),(twice e.first,6),(twice e.last,6),
 (decide (0<e.aN.length)&&decide (e.first.length=0),3),
 (decide (e.aN.length=0)&&decide (0<e.first.length+e.last.length),3)] MD:=by
 have hcell:∀j v,(zX A)[j]?=U v->W.cell? (ar r j J)=U v:=λj v e=>by simp[aL,hr,e]
 refine⟨λi b d e=>?_,λi b d e=>?_,λi b d e' V hV=>?_,by simp,λi b d e=>?_⟩
 ·match i,e with
  |0,e=>cases e;exact⟨hcell 0 _ rfl,hcell 1 _ rfl⟩
  |1,e=>cases e;exact⟨hcell 2 _ rfl,hcell 3 _ rfl⟩
  |2,e=>cases e;exact⟨hcell 4 _ rfl,hcell 5 _ rfl⟩
  |3,e=>cases e;exact⟨hcell 6 _ rfl,hcell 7 _ rfl⟩
  |4,e=>cases e;exact⟨hcell 8 _ rfl,hcell 9 _ rfl⟩
  |5,e=>cases e;exact⟨hcell 10 _ rfl,hcell 11 _ rfl⟩
  |6,e=>cases e;exact⟨hcell 12 _ rfl,hcell 13 _ rfl⟩
  |7,e=>cases e;exact⟨hcell 14 _ rfl,hcell 15 _ rfl⟩
  |8,e=>cases e;exact⟨hcell 16 _ rfl,hcell 17 _ rfl⟩
  |9,e=>cases e;exact⟨hcell 18 _ rfl,hcell 19 _ rfl⟩
  |10,e=>cases e;exact⟨hcell 20 _ rfl,hcell 21 _ rfl⟩
  |11,e=>cases e;exact⟨hcell 22 _ rfl,hcell 23 _ rfl⟩
  |12,e=>cases e;exact⟨hcell 24 _ rfl,hcell 25 _ rfl⟩
  |i+13,e=>cases e
 ·match i,e with
  |0,_=>exact enters_of func121 (by kernel_rfl) rfl
  |1,_=>exact enters_of func123 (by kernel_rfl) rfl
  |2,_=>exact enters_of func126 (by kernel_rfl) rfl
  |3,_=>exact enters_of func129 (by kernel_rfl) rfl
  |4,_=>exact enters_of func130 (by kernel_rfl) rfl
  |5,_=>exact enters_of func131 (by kernel_rfl) rfl
  |6,_=>exact enters_of func132 (by kernel_rfl) rfl
  |7,_=>exact enters_of func134 (by kernel_rfl) rfl
  |8,_=>exact enters_of func136 (by kernel_rfl) rfl
  |9,_=>exact enters_of func138 (by kernel_rfl) rfl
  |10,_=>exact enters_of func140 (by kernel_rfl) rfl
  |11,_=>exact enters_of func141 (by kernel_rfl) rfl
  |12,_=>exact enters_of func142 (by kernel_rfl) rfl
  |i+13,e=>cases e
 ·match i,e' with
  |0,e'=>cases e';exact Vo _ _ _ _ _ _ _ _ _ _ _ _ _ _ _ _ _ _ _ _ _
  |1,e'=>cases e';exact Vr _ _ _ _ _ _ _ _ _ _ _ _ _ _ _ _ _ _ _ _ _ _ (hP.hg.below hV) hS.hg
  |2,e'=>cases e';exact Vs _ _ _ _ _ _ _ _ _ _ _ _ _ _ _ _ _ _ _ _ _ _ (hP.he.below hV) hS.he
  |3,e'=>cases e';exact Vt _ _ _ _ _ _ _ _ _ _ _ _ _ _ _ _ _ _ _ _ _ _ (hP.hf.below hV) hS.hf
  |4,e'=>cases e';exact Vu _ _ _ _ _ _ _ _ _ _ _ _ _ _ _ _ _ _ _ _ _ _ (hP.hl.below hV) hS.hl
  |5,e'=>cases e';exact Vv _ _ _ _ _ _ _ _ _ _ _ _ _ _ _ _ _ _ _ _ _
  |6,e'=>cases e';exact Vw _ _ _ _ _ _ _ _ _ _ _ _ _ _ _ _ _ _ _ _ _
  |7,e'=>cases e';exact Vy _ _ _ _ _ _ _ _ _ _ _ _ _ _ _ _ _ _ _ _ _ _ (hP.hg.below hV) hS.hg
  |8,e'=>cases e';exact Vz _ _ _ _ _ _ _ _ _ _ _ _ _ _ _ _ _ _ _ _ _ _ (hP.he.below hV) hS.he
  |9,e'=>cases e';exact VA _ _ _ _ _ _ _ _ _ _ _ _ _ _ _ _ _ _ _ _ _ _ (hP.hf.below hV) hS.hf
  |10,e'=>cases e';exact VB _ _ _ _ _ _ _ _ _ _ _ _ _ _ _ _ _ _ _ _ _ _ (hP.hl.below hV) hS.hl
  |11,e'=>cases e';exact VC _ _ _ _ _ _ _ _ _ _ _ _ _ _ _ _ _ _ _ _ _
  |12,e'=>cases e';exact VD _ _ _ _ _ _ _ _ _ _ _ _ _ _ _ _ _ _ _ _ hS.hf hS.hl _
  |i+13,e'=>cases e'
 match i,e with
 |0,e=>cases e;decide
 |1,e=>cases e;decide
 |2,e=>cases e;decide
 |3,e=>cases e;decide
 |4,e=>cases e;decide
 |5,e=>cases e;decide
 |6,e=>cases e;decide
 |7,e=>cases e;decide
 |8,e=>cases e;decide
 |9,e=>cases e;decide
 |10,e=>cases e;decide
 |11,e=>cases e;decide
 |12,e=>cases e;decide
 |i+13,e=>cases e
def ME(A:Nat->av)(e:aG)(pa ga ea fa la:Option av)(pc gc ec fc lc:Nat)(r:Nat)(W:ah)(hr:W.heap[r]?=U (ay (xS A) 205 (0,0))):Calls prog 99 #[.agg (eR e pa pc ga gc ea ec fa fc la lc),ak (U (ar r 0 J)) 6 6] W λv w'=>v=aH (bF A (jK e))/\Below W.heap.size W w':=
 Mn A _ _ _ _ _ _ _ _ _ _ _ _ _ _ _ _ _ _ _ _ r _ MB W (Vk A e pa ga ea fa la pc gc ec fc lc r W hr)
def VG(A:Nat->av)(e:aG)(pa ga ea fa la:Option av)(pc gc ec fc lc:Nat)(r:Nat)(W:ah)(hP:lO W e (ak pa e.au.length pc) (ak ga e.aP.length gc) (ak ea e.aN.length ec) (ak fa e.first.length fc) (ak la e.last.length lc))(hS:rB e)(hr:W.heap[r]?=U (ay (zX A) 205 (0,0))):Calls prog 99 #[.agg (eR e pa pc ga gc ea ec fa fc la lc),ak (U (ar r 0 J)) 13 13] W λv w'=>v=aH (bF A (qB e))/\Below W.heap.size W w':=
 Mn A _ _ _ _ _ _ _ _ _ _ _ _ _ _ _ _ _ _ _ _ r _ MD W (VF A e pa ga ea fa la pc gc ec fc lc r W hP hS hr)
def MF(A:Nat->av)(c:aV)(sa:Option av)(sc:Nat)(r:Nat)(W:ah)(hs:lQ A W)(hr:W.heap[r]?=U (ay (xN A) 163 (0,0))):Calls prog 62 #[.agg (cR c sa sc),ak (U (ar r 0 J)) 5 5] W λv w'=>v=aH (bF A (il c))/\Below W.heap.size W w':=
 UH A _ _ _ _ _ _ _ r _ Mq W (UQ A c sa sc r W hs hr)
def BP(V:ah)(c:Array aj)(t:TypeId):(V.alloc (ay c t)).heap[V.heap.size]?=U (ay c t (0,0)):=by
 show (V.heap.push _)[V.heap.size]?=_
 simp
def xU(row:aj)(n:Nat)(rules:Array aj)(t:TypeId)(err:aj)(i:Nat)(v:aj)(W:ah):Prop:=match i with
 |0=>v=row
 |1=>∃r,v=ak (U (ar r 0 J)) n n/\W.heap[r]?=U (ay rules t (0,0))
 |2=>v=err
 |_=>v=err
def sY{row:aj}{rules:Array aj}{err:aj}(hb:Below w.heap.size w w'):∀j v,xU row n rules t err j v w->xU row n rules t err j v w':=by
 intro j v h
 match j with
 |0=>exact h
 |1=>obtain⟨r,h1,h2⟩:=h;exact⟨r,h1,cX hb h2⟩
 |2=>exact h
 |j+3=>exact h
def uN(h:n≠0):bF A n=.iface 238 (ax (U (A (n-1)))):=by
 obtain⟨k,rfl⟩:∃k,n=k+1:=⟨n-1,by omega⟩;rfl
def VH{a:List ByteArray}{p:ByteArray}(hk:l[k]?=U p)(h:dC (a++l.take k) p=0):dI (a++l.take k) (l.drop k)=dI (a++l.take (k+1)) (l.drop (k+1)):=by
 obtain⟨hl,e⟩:=eK.1 hk;rw[lM hl,dI,e,aU h,qE,hk];simp
def VI{a:List ByteArray}{p:ByteArray}(hk:l[k]?=U p)(h:dC (a++l.take k) p≠0):dI (a++l.take k) (l.drop k)=dC (a++l.take k) p:=by
 obtain⟨hl,e⟩:=eK.1 hk;rw[lM hl,dI,e,aF h]
def VJ(A:Nat->av)(e:aG)(pa ga ea fa la:Option av)(pc gc ec fc lc:Nat)(w0 w:ah)(rb bx mb:Nat)(a:List ByteArray)(hs0:lQ A w0)(hP:lO w0 e (ak pa e.au.length pc) (ak ga e.aP.length gc) (ak ea e.aN.length ec) (ak fa e.first.length fc) (ak la e.last.length lc))(hS:rB e)(h:lR A w0 w rb bx mb a)(hn:a.length<=1000000):Calls prog 65 #[.agg (eR e pa pc ga gc ea ec fa fc la lc),ak (U (ar rb 0 J)) 2 2] w
   λv w'=>v=aH (bF A (bR a e))/\Below w0.heap.size w0 w'/\(bR a e=0->lR A w0 w' rb bx mb (a++[e.name])):=by
 unfold eR;have HF:=λW hW=>Ms A w0 W rb bx mb a _ hW hS.hn hn
 change ag _ at HF
 have H:ag _:=h;change ag _ at hP
 have wG:ag _:=hS;change ag _ at hs0
 go_enter func65,ntmps65
 go_wp2_with fail
 refine bw (HF.o _ (H.below (Below.one _ _))) ?_;rintro v W1 ⟨rfl,hb1,VK,VL⟩
 by_cases hE:dC a e.name=0
 ·have zY:ag _:=VK hE;have sZ:ag _:=hE;have dZ:ag (oa W1 _ _):=λj v ev=>VL _ v (λh=>by have:=H.own.lt;simp at h;omega) (oa.new w _ _ j v ev)
  have pO:ag _:=hs0.below hb1;have MG:ag _:=hP.below hb1;rw[hE,show bF A 0=.nilIface from rfl];go_upto_region 4 with fail
  have hsz:jK e=0\/jK e≠0:=by omega
  rcases hsz with hz|hz
  ·have HE:ag (bF A (jK e)=.nilIface):=by show _=_;rw[hz];rfl
   change ag _ at hz
   go_cut [6] (λr wx=>r=.nilIface/\Below W1.heap.size W1 wx)
   case first=>
    refine zR 4 rfl (xU (.agg (eR e pa pc ga gc ea ec fa fc la lc)) 6 (xS A) 205 (.nilIface)) (λV=>Below W1.heap.size W1 V) (by kernel_rfl) (by kernel_rfl) (uM (aC _ _)) ?_ ?_
    ·refine zS ⟨?_,?_,?_,?_,trivial⟩
     all_goals
      refine uL.free rfl ?_;intro a V hC aY bj
     ·have x0:a.tmps[2]?.getD _=ax _:=dz (bj 2 (nB (by kernel_rfl)));have b0:=aA hC (dZ 0 _ rfl);have b1:=aA hC (dZ 1 _ rfl);have b2:=aA hC (dZ 2 _ rfl);have b3:=aA hC (dZ 3 _ rfl);have b4:=aA hC (dZ 4 _ rfl);have b5:=aA hC (dZ 5 _ rfl);have b6:=aA hC (dZ 6 _ rfl);have b7:=aA hC (dZ 7 _ rfl);have b8:=aA hC (dZ 8 _ rfl);have b9:=aA hC (dZ 9 _ rfl);exact goodRun.val (c:=.agg _) (by clear aY bj;go_simp) hC rfl
     ·refine goodRun.call (f:=100) (args:=#[]) (by clear aY bj;go_simp) ?_
      apply(MA A _ (pO.below hC)).mono;rintro v V' ⟨rfl,rfl⟩;exact⟨_,rfl,hC.alloc hC.size _,sY (Below.one _ _),⟨_,rfl,BP _ _ _⟩⟩
     ·have x1:a.tmps[18]?.getD _=.agg _:=dz (aY _ 18 (bU (i:=0) rfl) rfl rfl);obtain⟨r,hr1,hr2⟩:=aY _ 19 (bU (i:=1) rfl) rfl rfl;have x2:a.tmps[19]?.getD _=ak _ 6 6:=dz hr1
      refine goodRun.call (f:=99) (args:=#[.agg (eR e pa pc ga gc ea ec fa fc la lc),ak (U (ar r 0 J)) 6 6]) (by clear aY bj hr1;go_simp) ?_
      apply(ME A e pa ga ea fa la pc gc ec fc lc r _ hr2).mono;rintro v V' ⟨rfl,hb⟩;exact⟨_,rfl,hC.trans (hb.mono hC.size),sY hb,HE⟩
     have x3:a.tmps[20]?.getD _=.nilIface:=dz (aY _ 20 (bU (i:=0) rfl) rfl rfl);exact goodRun.val (c:=.nilIface) (by clear aY bj;go_simp) hC rfl
    intro vals V hC hS;have v3:vals 3=.nilIface:=hS 3 (aD rfl);change ag _ at hC
    simp only[fill,er];go_simp
    go_wp2
    go_meet
    case rel=>exact⟨rfl,hC⟩
   obtain⟨rfl,hb2⟩:=hcut;rename ah=>W2
   change ag _ at hb2
   go_wp2_with fail
   apply(Mr A _ (pO.below hb2)).mono;rintro v W3 ⟨rfl,xV⟩;have p2:W3.cell? _=U (ak pa _ pc):=aA (hb2.trans (xV.gV.mono hb2.size)) (dZ 2 _ rfl);change ag _ at xV
   go_wp2_with fail
   go_loopw [9,10,28] (λ_ _ i wr=>∃k:Nat,k<=e.au.length/\i=af I k/\lR A W2 wr (W2.heap.size+2) (W2.heap.size+1) W2.heap.size (e.au.take k)/\ag (dI [] e.au=dI ([]++e.au.take k) (e.au.drop k))) (λ_ _ i _=>e.au.length-(intOf i).toNat)
   case atStart=>exact⟨0,cG _,rfl,by simpa using xV.o,(show _=_ by simp)⟩
   case round=>
    obtain⟨k,hk,rfl,hN,kX⟩:=hrel;have hbr:=hb2.trans (hN.gV.mono hb2.size);have nC:ag _:=hbr;change ag _ at hN
    by_cases hlt:k<e.au.length
    ·obtain⟨q,hq⟩:∃q,e.au[k]?=U q:=⟨_,bL hlt⟩;obtain⟨fw,cap',fL,-,hcc⟩:=MG.hp
     cases fL
     obtain⟨b,o,rfl,hc0⟩:=hcc (λh=>by rw[h]at hq;simp at hq);have c0:=aA hbr (hc0 k q hq 0 _ rfl);simp only[Nat.mul_one,qF]at c0;have MH:=fQ hq;have HC:ag _:=Ms A W2 wr _ _ _ _ q hN (wG.hs q MH) (by have:=wG.hp;simp;omega);have k1:(k:Int)<(e.au.length:Int):=by omega
     have k0:k<1000000:=by have:=wG.hp;omega
     clear hc0 hcc hbr MH;change ag _ at hq
     by_cases hE:dC (e.au.take k) q=0
     ·go_wp2_with fail
      refine bw HC.o ?_;rintro v W' ⟨rfl,-,BQ,-⟩;have Ho:ag _:=BQ hE;rw[hE,show bF A 0=.nilIface from rfl];clear BQ HC;change ag _ at hE;go_wp2;go_roundw
      case rel=>
       refine⟨k+1,by omega,by go_num,?_,?_⟩
       ·rw[qE,hq.o];exact Ho
       show _=_
       rw[kX.o,VH hq.o (by simpa using hE.o)]
      case measure=>simp[intOf];omega
     go_wp2_with fail
     refine bw HC.o ?_;rintro v W' ⟨rfl,hb',-,-⟩;have kY:ag _:=(zY.gV.trans (hb2.mono zY.gV.size)).trans (hb'.mono (bH zY.gV.size hb2.size));have Eg:ag (bR a e=dC (e.au.take k) q):=by
      show _=_
      have h1:dI [] e.au=dC (e.au.take k) q:=by rw[kX.o,VI hq.o (by simpa using hE)];simp
      unfold bR;rw[aF (by rw[sZ.o];simp),aF (by rw[hz.o];simp),aU (by rw[h1];exact hE),h1]
     have BR:ag (dC _ q≠0):=hE;rw[uN hE];go_wp2;go_ret;exact⟨by rw[Eg.o,uN BR.o];rfl,kY,λh=>absurd h (by rw[Eg.o];exact BR)⟩
    have k1:¬(k:Int)<(e.au.length:Int):=by omega
    obtain rfl:k=e.au.length:=by omega
    have jC:ag (bR a e=qB e):=by
     show _=_
     have h1:dI [] e.au=0:=by rw[kX.o];simp[dI]
     unfold bR;rw[aF (by rw[sZ.o];simp),aF (by rw[hz.o];simp),aF (by rw[h1];simp)]
    have dZ:ag (oa wr _ _):=dZ.below nC;have pO:ag _:=pO.below nC;have VM:ag _:=MG.below nC;have Hp:ag _:=zY.below nC;have HE:ag (bF A (qB e)=bF A (qB e)):=rfl;go_upto_region 15 with fail
    refine zR 4 rfl (xU (.agg (eR e pa pc ga gc ea ec fa fc la lc)) 13 (zX A) 205 (bF A (qB e))) (λV=>Below wr.heap.size wr V) (by kernel_rfl) (by kernel_rfl) (uM (aC _ _)) ?_ ?_
    ·refine zS ⟨?_,?_,?_,?_,trivial⟩
     all_goals
      refine uL.free rfl ?_;intro a V hC aY bj
     ·have x0:a.tmps[2]?.getD _=ax _:=dz (bj 2 (nB (by kernel_rfl)));have b0:=aA hC (dZ 0 _ rfl);have b1:=aA hC (dZ 1 _ rfl);have b2:=aA hC (dZ 2 _ rfl);have b3:=aA hC (dZ 3 _ rfl);have b4:=aA hC (dZ 4 _ rfl);have b5:=aA hC (dZ 5 _ rfl);have b6:=aA hC (dZ 6 _ rfl);have b7:=aA hC (dZ 7 _ rfl);have b8:=aA hC (dZ 8 _ rfl);have b9:=aA hC (dZ 9 _ rfl);exact goodRun.val (c:=.agg _) (by clear aY bj;go_simp) hC rfl
     ·refine goodRun.call (f:=101) (args:=#[]) (by clear aY bj;go_simp) ?_
      apply(VE A _ (pO.below hC)).mono;rintro v V' ⟨rfl,rfl⟩;exact⟨_,rfl,hC.alloc hC.size _,sY (Below.one _ _),⟨_,rfl,BP _ _ _⟩⟩
     ·have x1:a.tmps[39]?.getD _=.agg _:=dz (aY _ 39 (bU (i:=0) rfl) rfl rfl);obtain⟨r,hr1,hr2⟩:=aY _ 40 (bU (i:=1) rfl) rfl rfl;have x2:a.tmps[40]?.getD _=ak _ 13 13:=dz hr1
      refine goodRun.call (f:=99) (args:=#[.agg (eR e pa pc ga gc ea ec fa fc la lc),ak (U (ar r 0 J)) 13 13]) (by clear aY bj hr1;go_simp) ?_
      apply(VG A e pa ga ea fa la pc gc ec fc lc r _ (VM.below hC) wG hr2).mono;rintro v V' ⟨rfl,hb⟩;exact⟨_,rfl,hC.trans (hb.mono hC.size),sY hb,HE⟩
     have x3:a.tmps[41]?.getD _=bF A _:=dz (aY _ 41 (bU (i:=0) rfl) rfl rfl);exact goodRun.val (c:=bF A _) (by clear aY bj;go_simp) hC rfl
    intro vals V hC hS;have v3:vals 3=bF A _:=hS 3 (aD rfl);change ag _ at hC
    simp only[fill,er];go_simp
    go_wp2;go_ret;exact⟨by rw[jC.o];rfl,Hp.gV.trans (hC.mono Hp.gV.size),λ_=>Hp.below hC⟩
  have HE:ag (bF A _=.iface 238 _):=uN hz;have jC:ag (bR a e=jK e):=by show _=_;unfold bR;rw[aF (by rw[sZ.o];simp),aU hz]
  have HZ:ag (jK e≠0):=hz;generalize A (jK e-1)=ad at *
  refine zR 4 rfl (xU (.agg (eR e pa pc ga gc ea ec fa fc la lc)) 6 (xS A) 205 (.iface 238 (ax (U ad)))) (λV=>Below W1.heap.size W1 V) (by kernel_rfl) (by kernel_rfl) (uM (aC _ _)) ?_ ?_
  ·refine zS ⟨?_,?_,?_,?_,trivial⟩
   all_goals
    refine uL.free rfl ?_;intro a V hC aY bj
   ·have x0:a.tmps[2]?.getD _=ax _:=dz (bj 2 (nB (by kernel_rfl)));have b0:=aA hC (dZ 0 _ rfl);have b1:=aA hC (dZ 1 _ rfl);have b2:=aA hC (dZ 2 _ rfl);have b3:=aA hC (dZ 3 _ rfl);have b4:=aA hC (dZ 4 _ rfl);have b5:=aA hC (dZ 5 _ rfl);have b6:=aA hC (dZ 6 _ rfl);have b7:=aA hC (dZ 7 _ rfl);have b8:=aA hC (dZ 8 _ rfl);have b9:=aA hC (dZ 9 _ rfl);exact goodRun.val (c:=.agg _) (by clear aY bj;go_simp) hC rfl
   ·refine goodRun.call (f:=100) (args:=#[]) (by clear aY bj;go_simp) ?_
    apply(MA A _ (pO.below hC)).mono;rintro v V' ⟨rfl,rfl⟩;exact⟨_,rfl,hC.alloc hC.size _,sY (Below.one _ _),⟨_,rfl,BP _ _ _⟩⟩
   ·have x1:a.tmps[18]?.getD _=.agg _:=dz (aY _ 18 (bU (i:=0) rfl) rfl rfl);obtain⟨r,hr1,hr2⟩:=aY _ 19 (bU (i:=1) rfl) rfl rfl;have x2:a.tmps[19]?.getD _=ak _ 6 6:=dz hr1
    refine goodRun.call (f:=99) (args:=#[.agg (eR e pa pc ga gc ea ec fa fc la lc),ak (U (ar r 0 J)) 6 6]) (by clear aY bj hr1;go_simp) ?_
    apply(ME A e pa ga ea fa la pc gc ec fc lc r _ hr2).mono;rintro v V' ⟨rfl,hb⟩;exact⟨_,rfl,hC.trans (hb.mono hC.size),sY hb,HE⟩
   have x3:a.tmps[20]?.getD _=.iface 238 _:=dz (aY _ 20 (bU (i:=0) rfl) rfl rfl);exact goodRun.val (c:=.iface 238 _) (by clear aY bj;go_simp) hC rfl
  intro vals V hC hS;have v3:vals 3=.iface 238 _:=hS 3 (aD rfl);change ag _ at hC
  simp only[fill,er];go_simp
  go_wp2;go_ret;exact⟨by rw[jC.o,HE.o];rfl,zY.gV.trans (hC.mono zY.gV.size),λh=>absurd h (by rw[jC.o];exact HZ)⟩
 have sZ:ag (bR a e=dC a e.name):=by show _=_;unfold bR;rw[aU hE]
 change ag _ at hb1
 have MI:ag (dC a _≠0):=hE;rw[uN hE];go_wp2;go_ret;exact⟨by rw[sZ.o,uN MI.o];rfl,hb1,λh=>absurd h (by rw[sZ.o];exact MI)⟩
def Eh:∀(l:List (Bool×Nat)),(∀p∈l,p.2<=n)->dH l<=n
 |[],_=>cG _
 |(b,c)::t,h=>by
  unfold dH
  split
  ·exact h (b,c) (by simp)
  exact Eh t (λp hp=>h p (by simp[hp]))
def MJ(a:List ByteArray)(s:ByteArray):dC a s<=6:=by unfold dC;split<;>(try split)<;>omega
def MK:∀(l a:List ByteArray),dI a l<=6
 |[],_=>by simp[dI]
 |p::t,a=>by unfold dI;split;exact MK t _;exact MJ _ _
def VN(a:List ByteArray)(e:aG):bR a e<=6:=by
 unfold bR
 split
 ·exact MJ _ _
 split
 ·unfold jK;exact Eh _ (by simp)
 split
 ·exact MK _ _
 unfold qB;exact Eh _ (by simp)
def VO(c:aV):il c<=6:=by unfold il;exact Eh _ (by simp)
def VP(hk:es[k]?=U e)(h:bR ((es.take k).map (·.name)) e=0):jZ ((es.take k).map (·.name)) k (es.drop k)=jZ ((es.take (k+1)).map (·.name)) (k+1) (es.drop (k+1)):=by
 obtain⟨hl,e'⟩:=eK.1 hk;rw[lM hl,jZ,e',aU h,qE,hk];simp
def VQ(hk:es[k]?=U e)(h:bR ((es.take k).map (·.name)) e≠0):jZ ((es.take k).map (·.name)) k (es.drop k)=(bR ((es.take k).map (·.name)) e,(k:Int)):=by
 obtain⟨hl,e'⟩:=eK.1 hk;rw[lM hl,jZ,e',aF h]
def VR(A:Nat->av)(c:aV)(sa:Option av)(sc:Nat)(w:ah)(hs:lQ A w)(hE:iJ w (ak sa c.az.length sc) c.az)(hS:jB c):Calls prog 31 #[.agg (cR c sa sc)] w λv w'=>∃r,v=aH r/\gR A w' r (dJ c)/\Below w.heap.size w w':=by
 unfold cR;have wG:ag _:=hS;have VS:ag (iJ w _ _):=hE;change ag _ at hs
 go_enter func31,ntmps31
 go_upto_region 1 with fail
 obtain⟨W0,hW0⟩:∃W0,W0=w.alloc (ay (cR c sa sc) 34):=⟨_,rfl⟩;rw[<- hW0];have rG:ag (Below w.heap.size w W0):=by show Below _ _ _;rw[hW0];exact Below.one _ _
 have dZ:ag (oa W0 w.heap.size (cR c sa sc)):=by show oa _ _ _;rw[hW0];exact oa.new _ _ _
 have pO:ag _:=hs.below rG;have hz:il c=0\/il c≠0:=by omega
 rcases hz with hz|hz
 ·have HE:ag (bF A (il c)=.nilIface):=by show _=_;rw[hz];rfl
  change ag _ at hz
  go_cut [3] (λr wx=>r=.nilIface/\Below W0.heap.size W0 wx)
  case first=>
   refine zR 4 rfl (xU (.agg (cR c sa sc)) 5 (xN A) 163 (.nilIface)) (λV=>Below W0.heap.size W0 V) (by kernel_rfl) (by kernel_rfl) (uM (aC _ _)) ?_ ?_
   ·refine zS ⟨?_,?_,?_,?_,trivial⟩
    all_goals
     refine uL.free rfl ?_;intro a V hC aY bj
    ·have x0:a.tmps[1]?.getD _=ax _:=dz (bj 1 (nB (by kernel_rfl)));have b0:=aA hC (dZ 0 _ rfl);have b1:=aA hC (dZ 1 _ rfl);have b2:=aA hC (dZ 2 _ rfl);have b3:=aA hC (dZ 3 _ rfl);have b4:=aA hC (dZ 4 _ rfl);exact goodRun.val (c:=.agg _) (by clear aY bj;go_simp) hC rfl
    ·refine goodRun.call (f:=63) (args:=#[]) (by clear aY bj;go_simp) ?_
     apply(Mp A _ (pO.below hC)).mono;rintro v V' ⟨rfl,rfl⟩;exact⟨_,rfl,hC.alloc hC.size _,sY (Below.one _ _),⟨_,rfl,BP _ _ _⟩⟩
    ·have x1:a.tmps[8]?.getD _=.agg _:=dz (aY _ 8 (bU (i:=0) rfl) rfl rfl);obtain⟨r,hr1,hr2⟩:=aY _ 9 (bU (i:=1) rfl) rfl rfl;have x2:a.tmps[9]?.getD _=ak _ 5 5:=dz hr1
     refine goodRun.call (f:=62) (args:=#[.agg (cR c sa sc),ak (U (ar r 0 J)) 5 5]) (by clear aY bj hr1;go_simp) ?_
     apply(MF A c sa sc r _ (pO.below hC) hr2).mono;rintro v V' ⟨rfl,hb⟩;exact⟨_,rfl,hC.trans (hb.mono hC.size),sY hb,HE⟩
    have x3:a.tmps[10]?.getD _=.nilIface:=dz (aY _ 10 (bU (i:=0) rfl) rfl rfl);exact goodRun.val (c:=.nilIface) (by clear aY bj;go_simp) hC rfl
   intro vals V hC hS;have v3:vals 3=.nilIface:=hS 3 (aD rfl);change ag _ at hC
   simp only[fill,er];go_simp
   go_wp2
   go_meet
   case rel=>exact⟨rfl,hC⟩
  obtain⟨rfl,hb2⟩:=hcut;rename ah=>W1
  change ag _ at hb2
  go_wp2_with fail
  apply(Mr A _ (pO.below hb2)).mono;rintro v W3 ⟨rfl,xV⟩;have p2:W3.cell? _=U (ak sa _ sc):=aA (hb2.trans (xV.gV.mono hb2.size)) (dZ 4 _ rfl);change ag _ at xV
  go_wp2_with fail
  go_loopw [5,6,7,18] (λ_ _ _ i wr=>∃k:Nat,k<=c.az.length/\i=af I k/\lR A W1 wr (W1.heap.size+2) (W1.heap.size+1) W1.heap.size ((c.az.take k).map (·.name))/\ag (dJ c=jZ ((c.az.take k).map (·.name)) k (c.az.drop k))) (λ_ _ _ i _=>c.az.length-(intOf i).toNat)
  case atStart=>exact⟨0,cG _,rfl,by simpa using xV.o,(show _=_ by unfold dJ;rw[aU hz.o];simp)⟩
  case round=>
   obtain⟨k,hk,rfl,hN,kX⟩:=hrel;have aS:ag _:=rG.trans (hb2.mono rG.size);have nC:ag _:=aS.trans (hN.gV.mono aS.size);change ag _ at hN
   by_cases hlt:k<c.az.length
   ·obtain⟨e,hq⟩:∃e,c.az[k]?=U e:=⟨_,bL hlt⟩;obtain⟨fw,cap',fL,hcc⟩:=VS.o
    cases fL
    obtain⟨b,o,rfl,hc0⟩:=hcc (λh=>by rw[h]at hq;simp at hq);obtain⟨pv,gv,ev,fv,lv,xW,hcell⟩:=hc0 k e hq;obtain⟨pa,pc,rfl,-,-⟩:=id xW.hp;obtain⟨ga,gc,rfl,-,-⟩:=id xW.hg;obtain⟨ea,ec,rfl,-,-⟩:=id xW.he;obtain⟨fa,fc,rfl,-,-⟩:=id xW.hf;obtain⟨la,lc,rfl,-,-⟩:=id xW.hl;have c0:wr.cell? ⟨b,o+k*10,_⟩=U (aB _):=aA nC (hcell 0 _ rfl);have c1:wr.cell? _=U (af I _):=aA nC (hcell 1 _ rfl);have c2:wr.cell? _=U (ak pa _ pc):=aA nC (hcell 2 _ rfl);have c3:wr.cell? _=U (af I _):=aA nC (hcell 3 _ rfl);have c4:wr.cell? _=U (af I _):=aA nC (hcell 4 _ rfl);have c5:wr.cell? _=U (af I _):=aA nC (hcell 5 _ rfl);have c6:wr.cell? _=U (ak ga _ gc):=aA nC (hcell 6 _ rfl);have c7:wr.cell? _=U (ak ea _ ec):=aA nC (hcell 7 _ rfl);have c8:wr.cell? _=U (ak fa _ fc):=aA nC (hcell 8 _ rfl);have c9:wr.cell? _=U (ak la _ lc):=aA nC (hcell 9 _ rfl);have HP:ag _:=xW.below aS;have VT:ag _:=wG.he e (fQ hq);have k1:(k:Int)<(c.az.length:Int):=by omega
    have k0:k<1000000:=by have:=wG.hn;omega
    have HC:ag _:=λW hW=>VJ A e pa ga ea fa la pc gc ec fc lc W1 W (W1.heap.size+2) (W1.heap.size+1) W1.heap.size ((c.az.take k).map (·.name)) (pO.below hb2) HP VT hW (by have:=wG.hn;simp;omega)
    clear hcell xW hcc hc0;change ag _ at hq
    by_cases hE:bR ((c.az.take k).map (·.name)) e=0
    ·go_wp2_with fail
     refine bw (HC.o _ (hN.below (Below.one _ _))) ?_;rintro v W' ⟨rfl,-,BQ⟩;have Ho:ag _:=BQ hE;rw[hE,show bF A 0=.nilIface from rfl];clear BQ HC;change ag _ at hE;go_wp2;go_roundw
     case rel=>
      refine⟨k+1,by omega,by go_num,?_,?_⟩
      ·rw[qE,hq.o];simpa using Ho.o
      show _=_
      rw[kX.o,VP hq.o hE.o]
     case measure=>simp[intOf];omega
    go_wp2_with fail
    refine bw (HC.o _ (hN.below (Below.one _ _))) ?_;rintro v W' ⟨rfl,hb',-⟩;have kY:ag _:=aS.trans (hb'.mono aS.size);have Eg:ag (dJ c=(bR ((c.az.take k).map (·.name)) e,(k:Int))):=by
     show _=_
     rw[kX.o,VQ hq.o hE]
    have BR:ag (bR _ e≠0):=hE;rw[uN hE];go_wp2;go_ret
    refine⟨_,rfl,?_,kY.alloc kY.size _⟩;rw[Eg.o]
    refine⟨bH (VN _ _) (aD rfl),bk ⟨Nat.pos_of_ne_zero BR,_,rfl,by simp,by rw[uN BR.o];simp⟩⟩
   have k1:¬(k:Int)<(c.az.length:Int):=by omega
   obtain rfl:k=c.az.length:=by omega
   have jC:ag (dJ c=(0,-1)):=by show _=_;rw[kX.o];simp[jZ]
   go_wp2;go_ret
   refine⟨_,rfl,?_,nC⟩;rw[jC.o];exact⟨cG _,cF ⟨rfl,rfl⟩⟩
 have HE:ag (bF A (il c)=.iface 238 (ax (U (A (il c-1))))):=uN hz;have jC:ag (dJ c=(il c,-1)):=by show _=_;unfold dJ;rw[aF hz]
 generalize A (il c-1)=ad at *
 refine zR 4 rfl (xU (.agg (cR c sa sc)) 5 (xN A) 163 (.iface 238 (ax (U ad)))) (λV=>Below W0.heap.size W0 V) (by kernel_rfl) (by kernel_rfl) (uM (aC _ _)) ?_ ?_
 ·refine zS ⟨?_,?_,?_,?_,trivial⟩
  all_goals
   refine uL.free rfl ?_;intro a V hC aY bj
  ·have x0:a.tmps[1]?.getD _=ax _:=dz (bj 1 (nB (by kernel_rfl)));have b0:=aA hC (dZ 0 _ rfl);have b1:=aA hC (dZ 1 _ rfl);have b2:=aA hC (dZ 2 _ rfl);have b3:=aA hC (dZ 3 _ rfl);have b4:=aA hC (dZ 4 _ rfl);exact goodRun.val (c:=.agg _) (by clear aY bj;go_simp) hC rfl
  ·refine goodRun.call (f:=63) (args:=#[]) (by clear aY bj;go_simp) ?_
   apply(Mp A _ (pO.below hC)).mono;rintro v V' ⟨rfl,rfl⟩;exact⟨_,rfl,hC.alloc hC.size _,sY (Below.one _ _),⟨_,rfl,BP _ _ _⟩⟩
  ·have x1:a.tmps[8]?.getD _=.agg _:=dz (aY _ 8 (bU (i:=0) rfl) rfl rfl);obtain⟨r,hr1,hr2⟩:=aY _ 9 (bU (i:=1) rfl) rfl rfl;have x2:a.tmps[9]?.getD _=ak _ 5 5:=dz hr1
   refine goodRun.call (f:=62) (args:=#[.agg (cR c sa sc),ak (U (ar r 0 J)) 5 5]) (by clear aY bj hr1;go_simp) ?_
   apply(MF A c sa sc r _ (pO.below hC) hr2).mono;rintro v V' ⟨rfl,hb⟩;exact⟨_,rfl,hC.trans (hb.mono hC.size),sY hb,HE⟩
  have x3:a.tmps[10]?.getD _=.iface 238 _:=dz (aY _ 10 (bU (i:=0) rfl) rfl rfl);exact goodRun.val (c:=.iface 238 _) (by clear aY bj;go_simp) hC rfl
 intro vals V hC hS;have v3:vals 3=.iface 238 _:=hS 3 (aD rfl);change ag _ at hC
 simp only[fill,er];go_simp
 go_wp2;go_ret
 refine⟨_,rfl,?_,rG.trans (hC.mono rG.size)⟩;rw[jC.o];exact⟨bH (VO _) (aD rfl),cF ⟨rfl,HE.symm⟩⟩
def VU(A:Nat->av)(c:aV)(sa:Option av)(sc:Nat)(w:ah)(hs:dD A w)(hE:iJ w (ak sa c.az.length sc) c.az)(hS:jB c):Calls prog 31 #[.agg (cR c sa sc)] w λv w'=>∃r,v=aH r/\gR A w' r (dJ c)/\Below w.heap.size w w':=VR A c sa sc w hs.five hE hS
def VW(A:Nat->av)(r:aj)(f:Nat×Int)(w:ah)(hs:gZ A w)(h:gR A w r f):Calls prog 19 #[r] w λe w'=>e=aH (aX #[af I (f.1:Int),af I (if f.1=0 then -1 else f.2)])/\Below w.heap.size w w':=by
 obtain⟨h11,⟨h2,rfl⟩|⟨hp,b,rfl,h3,h4⟩⟩:=h
 ·cases hf:f.1 with
  |zero=>
   apply(Uc w).mono;rintro e w' ⟨rfl,rfl⟩;exact⟨by simp,aC _ _⟩
  |succ j=>
   obtain⟨c,t,hr⟩:=hs.row j (by omega)
   apply(Ud A _ j c t w hs (by omega) (λi hi=>hs.ne j i (by omega) (by omega) (by omega)) (λ_=>rfl) hr).mono;rintro e w' ⟨rfl,hb⟩
   refine⟨?_,hb⟩;rw[aU (show j<11 by omega),aF (by omega),h2];rfl
 obtain⟨j,hj⟩:∃j,f.1=j+1:=⟨f.1-1,by omega⟩;rw[hj]at h4⊢
 apply(Ue A b 0 f.2 j w hs (by omega) h3 (by simpa[bF]using h4)).mono;rintro e w' ⟨rfl,hb⟩;exact⟨by rw[aF (by omega)];rfl,hb⟩
def VX(A:Nat->av)(r:aj)(f:Nat×Int)(code at':Int)(w:ah)(hs:gZ A w)(h:gR A w r f):Calls prog 8 #[r,a_ #[af I code,af I at']] w λe w'=>e=aH (aJ (decide ((f.1:Int)=code/\(f.1=0\/f.2=at'))))/\Below w.heap.size w w':=by
 have H:ag _:=VW A r f _ (hs.alloc (ay #[af I code,af I at'] 30)) (h.below (Below.one _ _));have agY:(∃t x,r=.iface t x)\/r=.nilIface:=by
  obtain⟨-,⟨-,rfl⟩|⟨-,b,rfl,-⟩⟩:=h
  ·cases f.1 with
   |zero=>exact bk rfl
   |succ j=>exact cF ⟨_,_,rfl⟩
  exact cF ⟨_,_,rfl⟩
 obtain⟨n,m⟩:=f;simp only at H
 by_cases h1:(n:Int)=code
 ·by_cases h2:n=0
  ·subst h2;subst h1;rw[show decide _=true by simp];go_enter func8,ntmps8
   go_wp2_with fail
   refine bw H.o ?_;rintro e w' ⟨rfl,hb⟩;have d0:w'.cell? (ar w.heap.size 0 J)=U (af I 0):=aA hb (by simp);go_wp2;go_ret;exact⟨rfl,(Below.one _ _).trans (hb.mono (by simp))⟩
  by_cases h3:m=at'
  ·subst h1;subst h3;rw[show decide _=true by simp];rw[aF h2]at H;have e0:((n:Int)==0)=false:=by rw[lN];omega
   go_enter func8,ntmps8
   go_wp2_with fail
   refine bw H.o ?_;rintro e w' ⟨rfl,hb⟩;have d0:w'.cell? (ar w.heap.size 0 J)=U (af I (n:Int)):=aA hb (by simp);have d1:w'.cell? (ar w.heap.size 1 J)=U (af I m):=aA hb (by simp);go_wp2;go_ret;exact⟨by first|rfl|simp,(Below.one _ _).trans (hb.mono (by simp))⟩
  subst h1;rw[show decide _=false by simp[h2,h3]];rw[aF h2]at H;have e0:((n:Int)==0)=false:=by rw[lN];omega
  have e1:(m==at')=false:=by simpa using h3
  go_enter func8,ntmps8
  go_wp2_with fail
  refine bw H.o ?_;rintro e w' ⟨rfl,hb⟩;have d0:w'.cell? (ar w.heap.size 0 J)=U (af I (n:Int)):=aA hb (by simp);have d1:w'.cell? (ar w.heap.size 1 J)=U (af I at'):=aA hb (by simp);go_wp2;go_ret;exact⟨by first|rfl|simp,(Below.one _ _).trans (hb.mono (by simp))⟩
 rw[show decide _=false by simp[h1]];generalize (if n=0 then (-1:Int)else m)=q at H;have e0:((n:Int)==code)=false:=by simpa using h1
 go_enter func8,ntmps8
 go_wp2_with fail
 refine bw H.o ?_;rintro e w' ⟨rfl,hb⟩;have d0:w'.cell? (ar w.heap.size 0 J)=U (af I code):=aA hb (by simp);go_wp2;go_ret;exact⟨by first|rfl|simp,(Below.one _ _).trans (hb.mono (by simp))⟩
def VY(A:Nat->av)(pb:Nat)(v:aj)(w:ah)(hs:gZ A w)(hn:w.cell? ⟨pb,0+1,J⟩=U v):Calls prog 58 #[.iface 88 (ax (U (ar pb 0 J)))] w λe w'=>e=aH v/\Below w.heap.size w w':=by
 have hs1:=hs.alloc (ay #[ax J] 88);go_enter func58,ntmps58
 have hpl:=j6 hn;have uJ:(w.alloc (ay #[ax J] 88)).cell? ⟨w.heap.size,0,J⟩=U (ax J):=by simp
 have mD:(w.alloc (ay #[ax J] 88)).frozen? ⟨w.heap.size,0,J⟩=false:=by simp
 go_wp2_with fail
 apply(L0 _ _ _ _ hs1.et uJ mD).mono;rintro e w2 ⟨rfl,hw2⟩;have hb1:Below w.heap.size w w2:=by
  rw[hw2]
  refine Below.setCell ?_ (by simp) _
  refine sS (sS (sS (sS (sS (aC _ _) (aR _) _) (by simp) _) (by simp;omega) _) (by simp;omega) _) (by simp;omega) _
 have L4:w2.cell? (ar w.heap.size 0 J)=U (ax (U (ar pb 0 J))):=by
  rw[hw2]
  refine World.cell?_setCell_same _ _ _ (u:=ax J) ?_;rw[kD _ _ _ (by simp;omega),kD _ _ _ (by simp;omega),kD _ _ _ (by simp;omega),kD _ _ _ (by simp)];exact uJ
 have L5:=aA hb1 hn;clear hs hs1 hn uJ mD hw2;go_wp2;go_ret;exact⟨rfl,hb1⟩
def VZ(A:Nat->av)(a:av)(w:ah)(hs:gZ A w):Calls prog 58 #[.iface 238 (ax (U a))] w λe w'=>e=aH (.iface 238 (ax (U a)))/\Below w.heap.size w w':=by
 have hs1:=hs.alloc (ay #[ax J] 88);go_enter func58,ntmps58
 go_wp2_with fail
 apply(L1 _ _ _ hs1.et).mono;rintro e w2 ⟨rfl,hb⟩;have hb1:Below w.heap.size w w2:=(Below.one _ _).trans (hb.mono (by simp));go_wp2;go_ret;exact⟨rfl,hb1⟩
def V0(A:Nat->av){r:aj}{f:Nat×Int}(w:ah)(hs:gZ A w)(h:gR A w r f)(hf:f.1≠0):Calls prog 58 #[r] w λe w'=>e=aH (bF A f.1)/\Below w.heap.size w w':=by
 obtain⟨h11,⟨h2,rfl⟩|⟨hp,b,rfl,h3,h4⟩⟩:=h
 ·obtain⟨j,hj⟩:∃j,f.1=j+1:=⟨f.1-1,by omega⟩;rw[hj];exact VZ A _ w hs
 exact VY A b _ w hs h4
open Go.Conc
open Go.ConcN (PermW)
def lb:Loc->Option Nat
 |.cell a=>U a.block
 |.obj r=>U r
 |_=>J
abbrev Rg:=Nat×Nat
def Hs(n:Rg)(g:Nat):Prop:=g=0\/(n.1<g/\g<=n.2)
def Hs.le{n:Rg}(h:Hs n g):g<=n.2:=h.elim (λe=>by omega) (·.2)
structure TK(said:Bool)(t:Trace)(n:Rg)(who:Nat->Option Nat)(sh wg:Nat->Prop):Prop where
 clean:¬Race said t
 own:∀l b g,lb l=U b->who b=U g->Perm t g l
 read:∀l b g,lb l=U b->sh b->Hs n g->PermW t g l
 td:∀(i:Nat) (x:MemOp) (a:Touch) (b:Nat),t[i]?=U x->x.act.touch?=U a->lb a.loc=U b->wg b->a.kind≠.plain/\(a.kind=.said->x.g=0)
def May(who:Nat->Option Nat)(sh wg:Nat->Prop)(g:Nat)(a:Touch):Prop:=
 (∃b,lb a.loc=U b/\(who b=U g\/(sh b/\a.write=false)\/(wg b/\a.kind≠.plain/\(a.kind=.said->g=0))))\/a.loc.isMemory=false
def Hq{l:Loc}(h:l.isMemory=false):lb l=J:=by cases l<;>first|rfl|cases h
section
variable {said:Bool}{t u:Trace}{n:Rg}{who:Nat->Option Nat}{sh wg:Nat->Prop}
def TK.app(h:TK said t n who sh wg)(hd:∀b,(∃g,who b=U g)->¬sh b/\¬wg b)(Hn:∀b,sh b->¬wg b)(hg:Hs n g\/∀op∈u,op.act.touch?=J)(hu:∀op∈u,op.g=g/\∀a,op.act.touch?=U a->May who sh wg g a):TK said (t++u) n who sh wg:=by
 refine⟨noRace_append h.clean (λop ho=>(hu op ho).1) λi a ha op ho b hb hc=>?_,λl b g' hl hw=>?_,λl b g' hl hs hn=>?_,λi x a b hx ha hl hw=>?_⟩
 ·obtain⟨x,hx,kZ⟩:=touch_of ha
  rcases(hu op ho).2 b hb with⟨k,hk,h1|⟨h1,h2⟩|⟨h1,h2,h3⟩⟩|h1
  ·exact h.own b.loc k g hk h1 i a ha hc.1
  ·refine h.read b.loc k g hk h1 (hg.resolve_right λz=>by rw[z op ho]at hb;cases hb) i a ha hc.1 ?_
   rcases hc.2.2.1 with z|z
   ·exact z
   rw[h2]at z;cases z
  ·have hg2:=h.td i x a k hx kZ (by rw[hc.1];exact hk) h1
   rcases hc.2.2.2 with z|z|⟨_,z1,z2⟩
   ·exact absurd z hg2.1
   ·exact absurd z h2
   have e1:=h3 z2;have e2:=hg2.2 z1;have:=knows_own hx;rw[e2]at this;rw[e1];exact this
  have:=hc.2.1;rw[hc.1,h1]at this;cases this
 ·refine(h.own l b g' hl hw).app λop ho a ha e=>?_
  rcases(hu op ho).2 a ha with⟨k,hk,h1|⟨h1,_⟩|⟨h1,_⟩⟩|h1
  ·rw[e,hl]at hk;cases hk;rw[hw]at h1;cases h1;exact(hu op ho).1
  ·rw[e,hl]at hk;cases hk;exact absurd h1 (hd _ ⟨_,hw⟩).1
  ·rw[e,hl]at hk;cases hk;exact absurd h1 (hd _ ⟨_,hw⟩).2
  rw[e]at h1;rw[Hq h1]at hl;cases hl
 ·refine(h.read l b g' hl hs hn).app λop ho a ha e hw=>?_
  rcases(hu op ho).2 a ha with⟨k,hk,h1|⟨_,h2⟩|⟨h1,_⟩⟩|h1
  ·rw[e,hl]at hk;cases hk;exact absurd hs (hd _ ⟨_,h1⟩).1
  ·rw[hw]at h2;cases h2
  ·rw[e,hl]at hk;cases hk;exact absurd h1 (Hn _ hs)
  rw[e]at h1;rw[Hq h1]at hl;cases hl
 rcases getElem?_append_cases hx with⟨_,nD⟩|⟨_,nH⟩
 ·exact h.td i x a b nD ha hl hw
 rcases(hu x nH).2 a ha with⟨k,hk,h1|⟨h1,_⟩|⟨_,h2,h3⟩⟩|h1
 ·rw[hl]at hk;cases hk;exact absurd hw (hd _ ⟨_,h1⟩).2
 ·rw[hl]at hk;cases hk;exact absurd hw (Hn _ h1)
 ·exact⟨h2,λe=>(hu x nH).1.trans (h3 e)⟩
 rw[Hq h1]at hl;cases hl
end
section
variable {t:Trace}{c s cap j k i:Nat}{x0 x1 x2 x3:MemOp}
def V6(h0:x0.g=k/\x0.act=.send c s)(h1:x1.g=j/\x1.act=.recv c s cap)(h2:x2.g=k/\x2.act=.sendDone c s)(h3:x3.g=j/\x3.act=.recvDone c s)(dk:Deaf t k=0)(dj:Deaf t j=0)
  (h:Knows t k i):Knows (t++#[x0,x1,x2,x3]) j i:=by
 have e0:(t++#[x0,x1,x2,x3])[t.size]?=U x0:=by rw[xG (aR _)];simp
 have e1:(t++#[x0,x1,x2,x3])[t.size+1]?=U x1:=by rw[xG (by omega)];simp
 have e2:(t++#[x0,x1,x2,x3])[t.size+2]?=U x2:=by rw[xG (by omega)];simp
 have e3:(t++#[x0,x1,x2,x3])[t.size+3]?=U x3:=by rw[xG (by omega)];simp
 have hb:HappensBefore (t++#[x0,x1,x2,x3]) i t.size:=h.hb_new (aR _) e0 h0.1;have q0:(t++#[x0,x1,x2,x3]).heard t.size:=⟨k,by simp[Trace.g?,h0.1],by rw[deaf_old (aR _)];exact dk⟩;have q3:(t++#[x0,x1,x2,x3]).heard (t.size+3):=by
  refine⟨j,by simp[Trace.g?,h3.1],?_⟩;rw[deaf_succ e2,deaf_succ e1,deaf_succ e0,deaf_old (aR _)];simp only[deafStep,h0.2,h1.2,h2.2];exact dj
 exact⟨t.size+3,x3,e3,h3.1,.inr (hb.trans (.single (.inr ⟨.handOver (by rw[act?_of e0,h0.2]) (by rw[act?_of e3,h3.2]),q0,q3⟩)))⟩
open Go.ConcN (PermW) in
/-- .. so the agZ blocks may pass to the receiver. -/
def TK.meet{n:Rg}{fS:Nat->Option Nat}(H:TK said t n who sh wg)(h0:x0.g=k/\x0.act=.send c s)(h1:x1.g=j/\x1.act=.recv c s cap)(h2:x2.g=k/\x2.act=.sendDone c s)(h3:x3.g=j/\x3.act=.recvDone c s)
  (dk:Deaf t k=0) (dj:Deaf t j=0) (hw:∀b,fS b=who b\/(who b=U k/\fS b=U j)):TK said (t++#[x0,x1,x2,x3]) n fS sh wg:=by
 have hn:∀op∈#[x0,x1,x2,x3],op.act.touch?=J:=by
  intro op hop;simp only[n7,fu,ik,iI]at hop
  rcases hop with rfl|rfl|rfl|rfl
  ·rw[h0.2];rfl
  ·rw[h1.2];rfl
  ·rw[h2.2];rfl
  rw[h3.2];rfl
 have hno:∀{op:MemOp} {a:Touch},op∈#[x0,x1,x2,x3]->op.act.touch?=U a->False:=λho ha=>by rw[hn _ ho]at ha;cases ha
 refine⟨noRace_appendMute H.clean hn,λl b g hl hb=>?_,λl b g hl hs hg=>(H.read l b g hl hs hg).app λop ho a ha=>(hno ho ha).elim,λi x a b hx ha hl hb=>?_⟩
 ·rcases hw b with e|⟨e1,e2⟩
  ·exact(H.own l b g hl (e▸hb)).app λop ho a ha=>(hno ho ha).elim
  rw[hb]at e2;cases e2;intro i a ha ly;obtain⟨x,hx,kZ⟩:=touch_of ha
  rcases getElem?_append_cases hx with⟨hi,nD⟩|⟨_,nH⟩
  ·exact V6 h0 h1 h2 h3 dk dj (H.own l b k hl e1 i a (by rw[touchAt_of nD];exact kZ) ly)
  exact(hno nH kZ).elim
 rcases getElem?_append_cases hx with⟨_,nD⟩|⟨_,nH⟩
 ·exact H.td i x a b nD ha hl hb
 exact(hno nH ha).elim
open Go.ConcN (PermW fork_knows) in
/-- A worker is started: it may read what is only read. -/
def TK.fork{lo:Nat}(H:TK said t (lo,n) who sh wg)(hx:x0.g=0/\x0.act=.go (n+1))(hy:x1.g=n+1/\x1.act=.start)(d0:Deaf t 0=0)(dn:Deaf t (n+1)=0):TK said (t++#[x0,x1]) (lo,n+1) who sh wg:=by
 have hn:∀op∈#[x0,x1],op.act.touch?=J:=by
  intro op hop;simp only[n7,fu,ik,iI]at hop
  rcases hop with rfl|rfl
  ·rw[hx.2];rfl
  rw[hy.2];rfl
 have hno:∀{op:MemOp} {a:Touch},op∈#[x0,x1]->op.act.touch?=U a->False:=λho ha=>by rw[hn _ ho]at ha;cases ha
 refine⟨noRace_appendMute H.clean hn,λl b g hl hb=>(H.own l b g hl hb).app λop ho a ha=>(hno ho ha).elim,λl b g hl hs hg=>?_,λi x a b hx ha hl hb=>?_⟩
 ·rcases eC n g with h|h
  ·obtain rfl:g=n+1:=by
    rcases hg with hg|⟨_,hg⟩
    ·omega
    exact Nat.le_antisymm hg h
   intro i a ha ly uO;obtain⟨x,hx1,kZ⟩:=touch_of ha
   rcases getElem?_append_cases hx1 with⟨hi,nD⟩|⟨_,nH⟩
   ·exact fork_knows hx hy d0 dn (H.read l b 0 hl hs (.inl rfl) i a (by rw[touchAt_of nD];exact kZ) ly uO)
   exact(hno nH kZ).elim
  exact(H.read l b g hl hs (hg.imp id λx=>⟨x.1,h⟩)).app λop ho a ha=>(hno ho ha).elim
 rcases getElem?_append_cases hx with⟨_,nD⟩|⟨_,nH⟩
 ·exact H.td i x a b nD ha hl hb
 exact(hno nH ha).elim
def TK.new{n:Rg}{fS:Nat->Option Nat}(H:TK said t n who sh wg)(hw:∀b g,fS b=U g->who b=U g\/∀i a,touchAt t i=U a->lb a.loc≠U b):TK said t n fS sh wg:=by
 refine⟨H.clean,λl b g hl hb=>?_,H.read,H.td⟩
 rcases hw b g hb with h|h
 ·exact H.own l b g hl h
 intro i a ha ly;exact absurd (ly▸hl) (h i a ha)
end
structure aK where
 own:Nat->Nat->Prop
 ro:Nat->Nat->Prop
 tok:Nat->Nat->Prop
 fn:FuncId->Prop
 g:Nat
def aK.any(β:aK)(b b':Nat):Prop:=β.own b b'\/β.ro b b'\/β.tok b b'
structure aK.le(β γ:aK):Prop where
 own:∀b b',β.own b b'->γ.own b b'
 ro:β.ro=γ.ro
 tok:β.tok=γ.tok
 fn:β.fn=γ.fn
 g:β.g=γ.g
def aK.le_refl(β:aK):β.le β:=⟨λ_ _ h=>h,rfl,rfl,rfl,rfl⟩
def aK.le.trans{α β γ:aK}(h:α.le β)(k:β.le γ):α.le γ:=⟨λ_ _ x=>k.own _ _ (h.own _ _ x),h.ro.trans k.ro,h.tok.trans k.tok,h.fn.trans k.fn,h.g.trans k.g⟩
def aK.le.any{β γ:aK}(h:β.le γ){b':Nat}(x:β.any b b'):γ.any b b':=by
 rcases x with x|x|x
 ·exact .inl (h.own _ _ x)
 ·exact .inr (.inl (h.ro▸x))
 exact .inr (.inr (h.tok▸x))
structure RA(β:aK)(a a':av):Prop where
 blk:β.any a.block a'.block
 off:a.off=a'.off
 spot:a.spot=a'.spot
def RA.mono{β γ:aK}(h:β.le γ)(x:RA β a a'):RA γ a a':=⟨h.any x.blk,x.off,x.spot⟩
def RA.add{β:aK}(x:RA β a a')(n:Nat):RA β (a.add n) (a'.add n):=by
 unfold Addr.add
 by_cases h:n=0
 ·simpa[h]using x
 simp only[h,j5];exact⟨x.blk,by simp[x.off],rfl⟩
def fT(β:aK):Option av->Option av->Prop
 |none,y=>y=J
 |some a,y=>∃a',y=U a'/\RA β a a'
def lz(β:aK):Option Nat->Option Nat->Prop
 |none,y=>y=J
 |some a,y=>∃a',y=U a'/\β.any a a'
def fT.mono{β γ:aK}(h:β.le γ):∀{a a':Option av},fT β a a'->fT γ a a'
 |none,_,x=>x
 |some _,_,⟨a',e,x⟩=>⟨a',e,x.mono h⟩
def lz.mono{β γ:aK}(h:β.le γ):∀{a a':Option Nat},lz β a a'->lz γ a a'
 |none,_,x=>x
 |some _,_,⟨a',e,x⟩=>⟨a',e,h.any x⟩
def bh(R:aj->aj->Prop)(xs ys:Array aj):Prop:=xs.size=ys.size/\∀(i:Nat) (x y:aj),xs[i]?=U x->ys[i]?=U y->R x y
def bh.mono{R S:aj->aj->Prop}(h:∀x y,R x y->S x y){ys:Array aj}(k:bh R xs ys):bh S xs ys:=⟨k.1,λi x y a b=>h _ _ (k.2 i x y a b)⟩
def zZ(β:aK):Fn->Prop
 |.func f=>β.fn f
 |_=>False
def eD(β:aK):Nat->aj->aj->Prop
 |0,_,_=>True
 |n+1,x,y=>match x with
  |ax a=>∃a',y=ax a'/\fT β a a'
  |ak a l c=>∃a',y=ak a' l c/\fT β a a'
  |.map r=>∃r',y=.map r'/\lz β r r'
  |.chan r=>r=J/\y=.chan J
  |.float _ _=>False
  |.complex _ _ _=>False
  |.func f xs ys=>zZ β f/\∃us vs,y=.func f us vs/\bh (eD β n) xs us/\bh (eD β n) ys vs
  |.iface t v=>∃v',y=.iface t v'/\eD β n v v'
  |.agg xs=>∃ys,y=.agg ys/\bh (eD β n) xs ys
  |aX xs=>∃ys,y=aX ys/\bh (eD β n) xs ys
  |x=>y=x
def RV(β:aK)(x y:aj):Prop:=∀n,eD β n x y
def RL(β:aK)(xs ys:Array aj):Prop:=bh (RV β) xs ys
def eD.mono{β γ:aK}(h:β.le γ):∀(n:Nat) {x y:aj},eD β n x y->eD γ n x y
 |0,_,_,_=>trivial
 |n+1,x,y,k=>by
  cases x<;>simp only[eD]at k⊢<;>try exact k
  ·obtain⟨a',e,x⟩:=k;exact⟨a',e,x.mono h⟩
  ·obtain⟨a',e,x⟩:=k;exact⟨a',e,x.mono h⟩
  ·obtain⟨a',e,x⟩:=k;exact⟨a',e,x.mono h⟩
  ·obtain⟨f,us,vs,e,p,q⟩:=k
   refine⟨?_,us,vs,e,p.mono λ_ _=>eD.mono h n,q.mono λ_ _=>eD.mono h n⟩;rename_i fn _ _
   cases fn<;>simp only[zZ]at f⊢<;>try exact f
   rw[<- h.fn];exact f
  ·obtain⟨v',e,p⟩:=k;exact⟨v',e,eD.mono h n p⟩
  ·obtain⟨v',e,p⟩:=k;exact⟨v',e,p.mono λ_ _=>eD.mono h n⟩
  obtain⟨v',e,p⟩:=k;exact⟨v',e,p.mono λ_ _=>eD.mono h n⟩
def RV.mono{β γ:aK}(h:β.le γ)(k:RV β x y):RV γ x y:=λn=>(k n).mono h
def RL.mono{β γ:aK}(h:β.le γ){x y:Array aj}(k:RL β x y):RL γ x y:=bh.mono (λ_ _=>RV.mono h) k
section
variable {β:aK}{y:aj}
def fM{b:Bool}:RV β (aJ b) y↔y=aJ b:=⟨λh=>h 1,λh n=>by cases n<;>simp[eD,h]⟩
def cO{k:IntKind}{m:Int}:RV β (.int k m) y↔y=.int k m:=⟨λh=>h 1,λh n=>by cases n<;>simp[eD,h]⟩
def tj{k:FloatKind}:RV β (.float k m) y↔False:=⟨λh=>h 1,λh=>h.elim⟩
def tq{k:FloatKind}{l:Nat}:RV β (.complex k m l) y↔False:=⟨λh=>h 1,λh=>h.elim⟩
def jg:RV β (aB s) y↔y=aB s:=⟨λh=>h 1,λh n=>by cases n<;>simp[eD,h]⟩
def pQ:RV β .nilFunc y↔y=.nilFunc:=⟨λh=>h 1,λh n=>by cases n<;>simp[eD,h]⟩
def lA:RV β .nilIface y↔y=.nilIface:=⟨λh=>h 1,λh n=>by cases n<;>simp[eD,h]⟩
def rH{r:Option Nat}:RV β (.chan r) y↔r=J/\y=.chan J:=⟨λh=>h 1,λh n=>by cases n<;>simp[eD,h]⟩
def gW{a:Option av}:RV β (ax a) y↔∃a',y=ax a'/\fT β a a':=⟨λh=>h 1,λh n=>by cases n;trivial;simpa[eD]using h⟩
def gX{a:Option av}{l c:Nat}:RV β (ak a l c) y↔∃a',y=ak a' l c/\fT β a a':=⟨λh=>h 1,λh n=>by cases n;trivial;simpa[eD]using h⟩
def oc{r:Option Nat}:RV β (.map r) y↔∃r',y=.map r'/\lz β r r':=⟨λh=>h 1,λh n=>by cases n;trivial;simpa[eD]using h⟩
def jh{v:aj}:RV β (.iface t v) y↔∃v',y=.iface t v'/\RV β v v':=by
 constructor
 ·intro h;obtain⟨v',e,_⟩:=h 1
  refine⟨v',e,λn=>?_⟩;obtain⟨v2,e2,k⟩:=h (n+1);rw[e]at e2;injection e2 with _ e3;rw[e3];exact k
 rintro⟨v',e,k⟩ n
 cases n;trivial
 exact⟨v',e,k _⟩
def gH:RV β (.agg xs) y↔∃ys,y=.agg ys/\RL β xs ys:=by
 constructor
 ·intro h;obtain⟨ys,e,k⟩:=h 1
  refine⟨ys,e,k.1,λi x z hx hz n=>?_⟩;obtain⟨zs,e2,k2⟩:=h (n+1);rw[e]at e2;injection e2 with e3;subst e3;exact k2.2 i x z hx hz
 rintro⟨ys,e,k⟩ n
 cases n;trivial
 exact⟨ys,e,k.1,λi x z hx hz=>k.2 i x z hx hz _⟩
def iW:RV β (aX xs) y↔∃ys,y=aX ys/\RL β xs ys:=by
 constructor
 ·intro h;obtain⟨ys,e,k⟩:=h 1
  refine⟨ys,e,k.1,λi x z hx hz n=>?_⟩;obtain⟨zs,e2,k2⟩:=h (n+1);rw[e]at e2;injection e2 with e3;subst e3;exact k2.2 i x z hx hz
 rintro⟨ys,e,k⟩ n
 cases n;trivial
 exact⟨ys,e,k.1,λi x z hx hz=>k.2 i x z hx hz _⟩
def pR{f:Fn}{us:Array aj}:RV β (.func f xs us) y↔zZ β f/\∃ys vs,y=.func f ys vs/\RL β xs ys/\RL β us vs:=by
 constructor
 ·intro h;obtain⟨ho,ys,vs,e,k,l⟩:=h 1
  refine⟨ho,ys,vs,e,⟨k.1,λi x z hx hz n=>?_⟩,l.1,λi x z hx hz n=>?_⟩
  ·obtain⟨_,zs,ws,e2,k2,l2⟩:=h (n+1);rw[e]at e2;injection e2 with _ e3 e4;subst e3;exact k2.2 i x z hx hz
  obtain⟨_,zs,ws,e2,k2,l2⟩:=h (n+1);rw[e]at e2;injection e2 with _ e3 e4;subst e4;exact l2.2 i x z hx hz
 rintro⟨ho,ys,vs,e,k,l⟩ n
 cases n;trivial
 exact⟨ho,ys,vs,e,⟨k.1,λi x z hx hz=>k.2 i x z hx hz _⟩,l.1,λi x z hx hz=>l.2 i x z hx hz _⟩
end
section
variable {R:aj->aj->Prop}{xs ys us vs:Array aj}
def bh.empty:bh R #[] #[]:=⟨rfl,λi x y h=>by simp at h⟩
def bh.get(h:bh R xs ys)(i:Nat):(xs[i]?=J/\ys[i]?=J)\/∃x y,xs[i]?=U x/\ys[i]?=U y/\R x y:=by
 rcases eC i xs.size with hi|hi
 ·have hj:i<ys.size:=h.1▸hi;exact .inr ⟨xs[i],ys[i],eB hi,eB hj,h.2 i _ _ (eB hi) (eB hj)⟩
 exact .inl ⟨sO hi,sO (h.1▸hi)⟩
def bh.push(h:bh R xs ys)(k:R x y):bh R (xs.push x) (ys.push y):=by
 refine⟨by simp[h.1],λi a b ha hb=>?_⟩;rw[wa]at ha hb;rw[<- h.1]at hb
 split at ha
 ·rename_i e;rw[aU e]at hb;cases ha;cases hb;exact k
 rename_i e;rw[aF e]at hb;exact h.2 i a b ha hb
def bh.append(h:bh R xs ys)(k:bh R us vs):bh R (xs++us) (ys++vs):=by
 refine⟨by simp[h.1,k.1],λi a b ha hb=>?_⟩;rw[Array.getElem?_append]at ha hb;rw[<- h.1]at hb
 split at ha
 ·rename_i e;rw[aU e]at hb;exact h.2 i a b ha hb
 rename_i e;rw[aF e]at hb;exact k.2 _ a b ha hb
def bh.set(h:bh R xs ys)(i:Nat)(k:R x y):bh R (xs.setIfInBounds i x) (ys.setIfInBounds i y):=by
 refine⟨by simp[h.1],λj a b ha hb=>?_⟩;rw[Array.getElem?_setIfInBounds]at ha hb;rw[<- h.1]at hb
 split at ha
 ·rename_i e;rw[aU e]at hb
  split at ha
  ·rename_i e2;rw[aU e2]at hb;cases ha;cases hb;exact k
  cases ha
 rename_i e;rw[aF e]at hb;exact h.2 j a b ha hb
def bh.extract(h:bh R xs ys)(i j:Nat):bh R (xs.extract i j) (ys.extract i j):=by
 refine⟨by simp[h.1],λk a b ha hb=>?_⟩;rw[Array.getElem?_extract]at ha hb;rw[<- h.1]at hb
 split at ha
 ·rename_i e;rw[aU e]at hb;exact h.2 _ a b ha hb
 cases ha
def bh.getD(h:bh R xs ys)(i:Nat){d e:aj}(k:R d e):R (xs.getD i d) (ys.getD i e):=by
 rcases h.get i with⟨a,b⟩|⟨x,y,a,b,r⟩
 ·simp[pD,a,b,k]
 simp[pD,a,b,r]
def bh.replicate(n:Nat)(k:R x y):bh R (Array.replicate n x) (Array.replicate n y):=by
 refine⟨by simp,λi a b ha hb=>?_⟩;simp only[Array.getElem?_replicate]at ha hb
 split at ha
 ·rename_i e;rw[aU e]at hb;cases ha;cases hb;exact k
 cases ha
def bh.Hr(n:Nat){f g:Nat->aj}(k:∀i,i<n->R (f i) (g i)):bh R ((Array.range n).map f) ((Array.range n).map g):=by
 refine⟨by simp,λi a b ha hb=>?_⟩;simp only[oJ,Array.getElem?_range]at ha hb
 split at ha
 ·rename_i e;rw[aU e]at hb;simp at ha hb;subst ha;subst hb;exact k i e
 cases ha
def bh.BU(h:∀x∈xs,R x x):bh R xs xs:=⟨rfl,λi x y hx hy=>by rw[hx]at hy;cases hy;exact h x (bU hx)⟩
def bh.one(k:R x y):bh R #[x] #[y]:=bh.empty.push k
end
def xX:Nat->aj->Bool
 |0,_=>false
 |n+1,v=>match v with
  |aJ _|.int ..|aB _|ax J|ak J ..|.map J|.chan J|.nilFunc|.nilIface=>true
  |.agg xs|aX xs=>xs.all (xX n)
  |.iface _ v=>xX n v
  |_=>false
def Ei{β:aK}:∀(n:Nat) {v:aj},xX n v=true->RV β v v
 |0,_,h=>by simp[xX]at h
 |n+1,v,h=>by
  match v,h with
  |aJ _,_=>exact fM.2 rfl
  |.int ..,_=>exact cO.2 rfl
  |aB _,_=>exact jg.2 rfl
  |ax J,_=>exact gW.2 ⟨_,rfl,rfl⟩
  |ak J _ _,_=>exact gX.2 ⟨_,rfl,rfl⟩
  |.map J,_=>exact oc.2 ⟨_,rfl,rfl⟩
  |.chan J,_=>exact rH.2 ⟨rfl,rfl⟩
  |.nilFunc,_=>exact pQ.2 rfl
  |.nilIface,_=>exact lA.2 rfl
  |.agg xs,h=>
   simp only[xX,Array.all_eq_true]at h
   refine gH.2 ⟨xs,rfl,bh.BU λx hx=>?_⟩;obtain⟨i,hi,rfl⟩:=xH.1 hx;exact Ei n (h i hi)
  |aX xs,h=>
   simp only[xX,Array.all_eq_true]at h
   refine iW.2 ⟨xs,rfl,bh.BU λx hx=>?_⟩;obtain⟨i,hi,rfl⟩:=xH.1 hx;exact Ei n (h i hi)
  |.iface _ v,h=>exact jh.2 ⟨v,rfl,Ei n h⟩
def Value.plain(v:aj):Bool:=xX 64 v
def xY{β:aK}{v:aj}(h:Value.plain v=true):RV β v v:=Ei 64 h
def xZ{β:aK}(h:RV β x y):RL β x.cells y.cells:=by
 cases x
 case agg xs=>obtain⟨ys,rfl,k⟩:=gH.1 h;exact k
 case bool=>obtain rfl:=fM.1 h;exact bh.one h
 case int=>obtain rfl:=cO.1 h;exact bh.one h
 case float=>exact(tj.1 h).elim
 case complex=>exact(tq.1 h).elim
 case string=>obtain rfl:=jg.1 h;exact bh.one h
 case nilFunc=>obtain rfl:=pQ.1 h;exact bh.one h
 case nilIface=>obtain rfl:=lA.1 h;exact bh.one h
 case chan=>obtain⟨rfl,rfl⟩:=rH.1 h;exact bh.one h
 case pointer=>obtain⟨_,rfl,_⟩:=gW.1 h;exact bh.one h
 case slice=>obtain⟨_,rfl,_⟩:=gX.1 h;exact bh.one h
 case map=>obtain⟨_,rfl,_⟩:=oc.1 h;exact bh.one h
 case iface=>obtain⟨_,rfl,_⟩:=jh.1 h;exact bh.one h
 case tuple=>obtain⟨_,rfl,_⟩:=iW.1 h;exact bh.one h
 case func=>obtain⟨_,_,_,rfl,_⟩:=pR.1 h;exact bh.one h
def cd(w:ah)(τ:Nat->Question->Nat):ah:={ w with tape:=τ }
def wH(v:ah)(a:av):Prop:=(∀x t,v.heap[a.block]?≠U (.view x t))/\∀x t,v.heap[a.block]?≠U (.pending x t)
def mJ:Halt->Prop
 |.panic _=>True
 |.stuck _=>True
 |.unsupported (.initOrder _)=>False
 |.unsupported _=>True
 |_=>False
def rI(v:ah)(a:av)(x:aj):Option ah:=
 match x with
 |.agg _=>J
 |aX _=>J
 |x=>match v.cell? a with
  |some _=>if v.frozen? a then J else U (v.setCell a x)
  |none=>J
def uP(v:ah)(r:Nat):Option Obj:=
 match v.heap[r]? with
 |some (ay ..)=>J
 |some o=>U o
 |none=>J
def rJ(v:ah)(r:Nat)(o:Obj):Option ah:=
 match v.heap[r]? with
 |some (ay ..)=>J
 |some _=>U { v with heap:=v.heap.setIfInBounds r o }
 |none=>J
def Mw{α:Type}(P:Program)(K:α->ah->Prop):Sem α->ah->Prop
 |.pure a,v=>K a v
 |.load _ a k,v=>wH v a/\∀x,v.cell? a=U x->Mw P K (k x) v
 |.store _ a x k,v=>wH v a/\∀v1,rI v a x=U v1->Mw P K k v1
 |.new o k,v=>Mw P K (k v.heap.size) { v with heap:=v.heap.push o }
 |.shape r k,v=>Mw P K (k (v.shape? r)) v
 |.freeze a n k,v=>Mw P K k (v.freeze a n)
 |.frozen a k,v=>Mw P K (k (v.frozen? a)) v
 |.getObj r k,v=>∀o,uP v r=U o->Mw P K (k o) v
 |.setObj r o k,v=>∀v1,rJ v r o=U v1->Mw P K k v1
 |.choose q k,v=>if q.forced then Mw P K (k 0) v else ∃t,Mw P K (k (q.cut t)) { v with drawn:=v.drawn+1 }
 |.sys _ _,_=>False
 |.program k,v=>Mw P K (k P) v
 |.mark _ k,v=>Mw P K k v
 |.halt h,_=>mJ h
def Mw.mono{α:Type}{K L:α->ah->Prop}(h:∀a v,K a v->L a v):∀(s:Sem α) (v:ah),Mw P K s v->Mw P L s v:=by
 intro s
 induction s with
 |pure a=>exact λv=>h a v
 |load m a k ih=>exact λv x=>⟨x.1,λu e=>ih _ _ (x.2 u e)⟩
 |store m a u k ih=>exact λv x=>⟨x.1,λv1 e=>ih _ (x.2 v1 e)⟩
 |new o k ih=>exact λv x=>ih _ _ x
 |shape r k ih=>exact λv x=>ih _ _ x
 |freeze a n k ih=>exact λv x=>ih _ x
 |frozen a k ih=>exact λv x=>ih _ _ x
 |getObj r k ih=>exact λv x u e=>ih _ _ (x u e)
 |setObj r o k ih=>exact λv x v1 e=>ih _ (x v1 e)
 |choose q k ih=>
  intro v x;simp only[Mw]at x⊢
  split
  ·rename_i e;rw[aU e]at x;exact ih _ _ x
  rename_i e;rw[aF e]at x;exact x.imp λt y=>ih _ _ y
 |sys c k ih=>exact λv x=>x.elim
 |program k ih=>exact λv x=>ih _ _ x
 |mark m k ih=>exact λv x=>ih _ x
 |halt h=>exact λ_ x=>x
def Mw.bind{α γ:Type}{K:γ->ah->Prop}(f:α->Sem γ):∀(s:Sem α) (v:ah),Mw P (λa v1=>Mw P K (f a) v1) s v->Mw P K (s.bind f) v:=by
 intro s
 induction s with
 |pure a=>exact λv x=>x
 |load m a k ih=>exact λv x=>⟨x.1,λu e=>ih _ _ (x.2 u e)⟩
 |store m a u k ih=>exact λv x=>⟨x.1,λv1 e=>ih _ (x.2 v1 e)⟩
 |new o k ih=>exact λv x=>ih _ _ x
 |shape r k ih=>exact λv x=>ih _ _ x
 |freeze a n k ih=>exact λv x=>ih _ x
 |frozen a k ih=>exact λv x=>ih _ _ x
 |getObj r k ih=>exact λv x u e=>ih _ _ (x u e)
 |setObj r o k ih=>exact λv x v1 e=>ih _ (x v1 e)
 |choose q k ih=>
  intro v x;simp only[Mw,Sem.bind]at x⊢
  split
  ·rename_i e;rw[aU e]at x;exact ih _ _ x
  rename_i e;rw[aF e]at x;exact x.imp λt y=>ih _ _ y
 |sys c k ih=>exact λv x=>x.elim
 |program k ih=>exact λv x=>ih _ _ x
 |mark m k ih=>exact λv x=>ih _ x
 |halt h=>exact λ_ x=>x
def V7{v:ah}(h:wH v a)(b:Bool):∃e,v.farLoad P a b=.error e/\mJ e:=by
 unfold World.farLoad World.noCell
 cases e:v.heap[a.block]? with
 |none=>exact⟨_,rfl,trivial⟩
 |some o=>cases o<;>first|exact⟨_,rfl,trivial⟩|exact absurd e (h.1 _ _)|exact absurd e (h.2 _ _)
def V8{v:ah}(h:wH v a)(b:Bool):∃e,v.farStore P a x b=.error e/\mJ e:=by
 unfold World.farStore World.noCell
 cases e:v.heap[a.block]? with
 |none=>exact⟨_,rfl,trivial⟩
 |some o=>cases o<;>first|exact⟨_,rfl,trivial⟩|exact absurd e (h.1 _ _)|exact absurd e (h.2 _ _)
def run_load{α:Type}(P:Program)(m:Mode)(a:av)(k:aj->Sem α)(v:ah)(hn:wH v a):(v.cell? a=J->∃h,(Sem.load m a k).run P v=.halt h v/\mJ h)/\(∀x,v.cell? a=U x->(Sem.load m a k).run P v=(k x).run P v):=by
 simp only[Sem.run]
 cases v.cell? a with
 |some x=>exact⟨λh=>(by cases h),λy h=>(by cases h;rfl)⟩
 |none=>
  obtain⟨e,he,hk⟩:=V7 (P:=P) hn (m==.atomic);simp only[he];exact⟨λ_=>⟨_,rfl,hk⟩,λy h=>(by cases h)⟩
def run_store{α:Type}(P:Program)(m:Mode)(a:av)(u:aj)(k:Sem α)(v:ah)(hn:wH v a):(rI v a u=J->∃h,(Sem.store m a u k).run P v=.halt h v/\mJ h)/\(∀v1,rI v a u=U v1->(Sem.store m a u k).run P v=k.run P v1):=by
 have key:(∀cs,u≠.agg cs)->(∀cs,u≠aX cs)->rI v a u=(match v.cell? a with
  |some _=>if v.frozen? a then J else U (v.setCell a u)
  |none=>J)/\(Sem.store m a u k).run P v=(match v.cell? a with
  |some _=>if v.frozen? a then .halt (.unsupported (.unsafePointer "a write to bytes that a string shares")) v else k.run P (v.setCell a u)
  |none=>match v.farStore P a u (m==.atomic)with
   |.ok (w,_)=>k.run P w
   |.error h=>.halt h v):=by
  intro h1 h2
  cases u<;>first|exact⟨rfl,rfl⟩|exact absurd rfl (h1 _)|exact absurd rfl (h2 _)
 by_cases h1:∃cs,u=.agg cs
 ·obtain⟨cs,rfl⟩:=h1;exact⟨λ_=>⟨_,rfl,trivial⟩,λv1 h=>(by cases h)⟩
 by_cases h2:∃cs,u=aX cs
 ·obtain⟨cs,rfl⟩:=h2;exact⟨λ_=>⟨_,rfl,trivial⟩,λv1 h=>(by cases h)⟩
 obtain⟨e1,e2⟩:=key (λcs h=>h1 ⟨cs,h⟩) (λcs h=>h2 ⟨cs,h⟩);rw[e1,e2]
 cases v.cell? a with
 |some x=>
  simp only
  by_cases hf:v.frozen? a=true
  ·rw[aU hf,aU hf];exact⟨λ_=>⟨_,rfl,trivial⟩,λv1 h=>(by cases h)⟩
  rw[aF hf,aF hf];exact⟨λh=>(by cases h),λv1 h=>(by cases h;rfl)⟩
 |none=>
  obtain⟨e,he,hk⟩:=V8 (P:=P) (x:=u) hn (m==.atomic);simp only[he];exact⟨λ_=>⟨_,rfl,hk⟩,λy h=>(by cases h)⟩
def run_get{α:Type}(P:Program)(r:Nat)(k:Obj->Sem α)(v:ah):(uP v r=J->∃h,(Sem.getObj r k).run P v=.halt h v/\mJ h)/\(∀o,uP v r=U o->(Sem.getObj r k).run P v=(k o).run P v):=by
 unfold uP;simp only[Sem.run]
 cases v.heap[r]? with
 |none=>exact⟨λ_=>⟨_,rfl,trivial⟩,λy h=>(by cases h)⟩
 |some o=>cases o<;>first|exact⟨λ_=>⟨_,rfl,trivial⟩,λy h=>(by cases h)⟩|exact⟨λh=>(by cases h),λy h=>(by cases h;rfl)⟩
def run_set{α:Type}(P:Program)(r:Nat)(o:Obj)(k:Sem α)(v:ah):(rJ v r o=J->∃h,(Sem.setObj r o k).run P v=.halt h v/\mJ h)/\(∀v1,rJ v r o=U v1->(Sem.setObj r o k).run P v=k.run P v1):=by
 unfold rJ;simp only[Sem.run]
 cases v.heap[r]? with
 |none=>exact⟨λ_=>⟨_,rfl,trivial⟩,λy h=>(by cases h)⟩
 |some o=>cases o<;>first|exact⟨λ_=>⟨_,rfl,trivial⟩,λy h=>(by cases h)⟩|exact⟨λh=>(by cases h),λy h=>(by cases h;rfl)⟩
def ML(v:ah)(τ:Nat->Question->Nat)(a:av)(x:aj):rI (cd v τ) a x=(rI v a x).map (cd · τ):=by
 unfold rI
 split<;>try rfl
 show (match v.cell? a with|some _=>if v.frozen? a then J else U ((cd v τ).setCell a _)|none=>J)=_
 cases v.cell? a with
 |none=>rfl
 |some y=>
  simp only
  split<;>rfl
def MN(v:ah)(τ:Nat->Question->Nat)(r:Nat)(o:Obj):rJ (cd v τ) r o=(rJ v r o).map (cd · τ):=by
 unfold rJ;show (match v.heap[r]? with|some (ay ..)=>J|some _=>U _|none=>J)=_
 cases v.heap[r]? with
 |none=>rfl
 |some o=>cases o<;>rfl
def V9{v:ah}(h:rI v a x=U v1):v1.drawn=v.drawn:=by
 unfold rI at h
 split at h<;>try cases h
 split at h<;>try cases h
 split at h<;>cases h
 rfl
def V_{v:ah}{r:Nat}{o:Obj}(h:rJ v r o=U v1):v1.drawn=v.drawn:=by
 unfold rJ at h
 split at h<;>cases h
 rfl
def oO(lo hi:Nat)(τ τ':Nat->Question->Nat):Prop:=∀i,lo<=i->i<hi->τ' i=τ i
def Mw.run{α:Type}{K:α->ah->Prop}:∀(s:Sem α) (v:ah),Mw P K s v ->
  (∃hi τ,∀τ',oO v.drawn hi τ τ'->∃h v1,s.run P (cd v τ')=.halt h v1/\mJ h)\/(∃a v1,K a v1/\v.drawn<=v1.drawn/\∃τ,∀τ',oO v.drawn v1.drawn τ τ'->s.run P (cd v τ')=.ok a (cd v1 τ')):=by
 intro s
 induction s with
 |pure a=>exact λv h=>.inr ⟨a,v,h,aR _,v.tape,λ_ _=>rfl⟩
 |load m a k ih=>
  rintro v ⟨hn,h⟩
  cases e:v.cell? a with
  |none=>
   exact .inl ⟨0,v.tape,λτ _=>(run_load P m a k (cd v τ) hn).1 e |>.imp λ_ h=>⟨_,h⟩⟩
  |some x=>
   have r:∀τ,(Sem.load m a k).run P (cd v τ)=(k x).run P (cd v τ):=λτ=>(run_load P m a k (cd v τ) hn).2 x e
   simpa only [r]using ih x v (h x e)
 |store m a u k ih=>
  rintro v ⟨hn,h⟩
  cases e:rI v a u with
  |none=>
   exact .inl ⟨0,v.tape,λτ _=>(run_store P m a u k (cd v τ) hn).1 (by rw[ML,e];rfl) |>.imp λ_ h=>⟨_,h⟩⟩
  |some v2=>
   have r:∀τ,(Sem.store m a u k).run P (cd v τ)=k.run P (cd v2 τ):=λτ=>(run_store P m a u k (cd v τ) hn).2 _ (by rw[ML,e];rfl)
   have:=ih v2 (h v2 e);simpa only [r,V9 e]using this
 |new o k ih=>exact λv h=>ih _ { v with heap:=v.heap.push o } h
 |shape r k ih=>exact λv h=>ih _ v h
 |freeze a n k ih=>
  intro v h;have e:∀τ,(cd v τ).freeze a n=cd (v.freeze a n) τ:=λτ=>by unfold World.freeze;split<;>rfl
  have d:(v.freeze a n).drawn=v.drawn:=by unfold World.freeze;split<;>rfl
  have:=ih (v.freeze a n) h;simpa only [Sem.run,e,d]using this
 |frozen a k ih=>exact λv h=>ih _ v h
 |getObj r k ih=>
  intro v h
  cases e:uP v r with
  |none=>
   exact .inl ⟨0,v.tape,λτ _=>(run_get P r k (cd v τ)).1 e |>.imp λ_ h=>⟨_,h⟩⟩
  |some x=>
   have q:∀τ,(Sem.getObj r k).run P (cd v τ)=(k x).run P (cd v τ):=λτ=>(run_get P r k (cd v τ)).2 x e
   simpa only [q]using ih x v (h x e)
 |setObj r o k ih=>
  intro v h
  cases e:rJ v r o with
  |none=>
   exact .inl ⟨0,v.tape,λτ _=>(run_set P r o k (cd v τ)).1 (by rw[MN,e];rfl) |>.imp λ_ h=>⟨_,h⟩⟩
  |some v2=>
   have q:∀τ,(Sem.setObj r o k).run P (cd v τ)=k.run P (cd v2 τ):=λτ=>(run_set P r o k (cd v τ)).2 _ (by rw[MN,e];rfl)
   have:=ih v2 (h v2 e);simpa only [q,V_ e]using this
 |choose q k ih=>
  intro v h;simp only[Mw]at h
  split at h
  ·rename_i e;have:=ih 0 v h;simpa only [Sem.run,e,kC]using this
  rename_i e;obtain⟨t,h⟩:=h;have hq:∀τ,τ v.drawn q=t->(Sem.choose q k).run P (cd v τ)=(k (q.cut t)).run P (cd { v with drawn:=v.drawn+1 } τ):=by
   intro τ ht;simp only[Sem.run,aF e];rw[show (cd v τ).tape (cd v τ).drawn q=t from ht];rfl
  have hT:∀(τ τ':Nat->Question->Nat) (hi:Nat),v.drawn<hi->oO v.drawn hi (λi=>if i=v.drawn then λ_=>t else τ i) τ'->τ' v.drawn q=t/\oO (v.drawn+1) hi τ τ':=by
   intro τ τ' hi hlt hA
   refine⟨by rw[hA v.drawn (aR _) hlt];simp,λi h1 h2=>?_⟩;have:=hA i (by omega) h2;simp only[aF (show ¬i=v.drawn by omega)]at this;exact this
  rcases ih _ _ h with⟨hi,τ,hr⟩|⟨a,v1,hK,hle,τ,hr⟩
  ·refine .inl ⟨max hi (v.drawn+1),λi=>if i=v.drawn then λ_=>t else τ i,λτ' hA=>?_⟩;obtain⟨h1,h2⟩:=hT τ τ' _ (by omega) hA;rw[hq τ' h1];exact hr τ' λi a b=>h2 i a (by omega)
  refine .inr ⟨a,v1,hK,by simp at hle;omega,λi=>if i=v.drawn then λ_=>t else τ i,λτ' hA=>?_⟩;obtain⟨h1,h2⟩:=hT τ τ' _ (by simp at hle;omega) hA;rw[hq τ' h1];exact hr τ' h2
 |sys c k ih=>exact λv h=>h.elim
 |program k ih=>exact λv h=>ih _ v h
 |mark m k ih=>exact λv h=>ih v h
 |halt x=>exact λv h=>.inl ⟨0,v.tape,λ_ _=>⟨x,_,rfl,h⟩⟩
end Go.Proofs.YtjjodkjbmgnbeaaGreatDoor
