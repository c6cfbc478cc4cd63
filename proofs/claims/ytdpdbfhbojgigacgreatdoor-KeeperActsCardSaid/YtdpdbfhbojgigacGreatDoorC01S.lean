/-
  Several texts as one: Is, Bas, As, Code, Laid, CfMem0.
-/
import Derived.Test.YtdpdbfhbojgigacGreatDoorC00S
import Derived.Test.YtdpdbfhbojgigacGreatDoorProg
import Derived.WalkKit
import Derived.LaidEql
import Derived.Stop.Asserts
import Derived.RowKitTokens
import Derived.Outline
import Derived.Test.YtdpdbfhbojgigacGreatDoorRows
import Derived.LaidLaws
import Derived.LaidHandle
import Derived.LaidMore
import Derived.BigQuiet
import Derived.Deep.QuietTactic
import Derived.Deep.DeepCutAuto
import Derived.WalkSmall
namespace Go.Proofs.YtdpdbfhbojgigacGreatDoor
open Go.RowKit Go.Extern.Stop Go.Stop Go.Extern
theorem Tryz.isTypeOf (v:Value)(w:World):(Extern.ReflectliteType.typeOf #[.iface 298 v]).run Tryz.prog w=.ok (.iface 251 (.agg #[.pointer (some ⟨12,298,none⟩)])) w:=by kernel_rfl
def cmpEntry : Array Value → Sem Value := Extern.ReflectliteType.method fun t => do Rtype.noPackHeld "Comparable" t; pure (.bool (← typeInfo t).comparable)
theorem Tryz.isComparable (w:World):(cmpEntry #[.agg #[.pointer (some ⟨12,298,none⟩)]]).run Tryz.prog w=.ok (.bool true) w:=by kernel_rfl
theorem Tryz.isMethodComparable (v : Value) (w : World) : (Go.method 429 251 v "Comparable").run Tryz.prog w = .ok (270, v) w := by kernel_rfl
theorem Tryz.isComp:(Tryz.prog.info? 298).map (·.comparable)=some true:=by kernel_rfl
theorem Tryz.isSize:(Tryz.prog.info? 317).map (·.size)=some 1:=by kernel_rfl
theorem Tryz.noIsE (v:Value)(xT:TypeId)(w:World):(Instr.typeAssert (.iface 298 v) xT 261 true).run Tryz.prog w=.ok (.tuple #[.nilIface,.bool false]) w:=run_typeAssert_lacksB Tryz.underlying261 (by kernel_rfl) (by kernel_rfl) v xT w
theorem Tryz.noUnwrapE (v:Value)(xT:TypeId)(w:World):(Instr.typeAssert (.iface 298 v) xT 258 true).run Tryz.prog w=.ok (.tuple #[.nilIface,.bool false]) w:=run_typeAssert_lacksB Tryz.underlying258 (by kernel_rfl) (by kernel_rfl) v xT w
theorem Tryz.noUnwrapsE (v:Value)(xT:TypeId)(w:World):(Instr.typeAssert (.iface 298 v) xT 259 true).run Tryz.prog w=.ok (.tuple #[.nilIface,.bool false]) w:=run_typeAssert_lacksB Tryz.underlying259 (by kernel_rfl) (by kernel_rfl) v xT w
theorem is_same (a:Addr)(w:World) :
  Calls Tryz.prog 99 #[.iface 298 (.pointer (some a)),.iface 298 (.pointer (some a))] w fun e w'=>e=.returned (.bool true)/\w'=w:=by
 obtain⟨i,hi,hcmp⟩:=Option.map_eq_some_iff.1 Tryz.isComp;obtain⟨j,hj,hjs⟩:=Option.map_eq_some_iff.1 Tryz.isSize;have h8:=@run_callFunc_extern Tryz.prog 135 _ Extern.ReflectliteType.typeOf Tryz.func135 (by kernel_rfl) (by kernel_rfl) (by kernel_rfl) (by kernel_rfl);have h32:=@run_callFunc_extern Tryz.prog 270 _ cmpEntry Tryz.func270 (by kernel_rfl) (by kernel_rfl) (by kernel_rfl) (by kernel_rfl);have tT:=Tryz.isTypeOf;have cT:=Tryz.isComparable;have mR:=Tryz.isMethodComparable;have heq:=run_eql_iface_ptr_same (P:=Tryz.prog) w a Tryz.underlying46 Tryz.underlying298 hi hcmp hj;go_enter Tryz.func99,Tryz.ntmps99
 go_wp2
 refine wp_loop_rounds 1 ?_;rw[rounds_succ];go_wp2;go_ret;exact⟨rfl,rfl⟩
theorem is_other (a b:Addr)(ca cb:Array Value)(ta tb:TypeId)(w:World)(hne:a≠b)(ha:w.heap[a.block]?=some (.cells ca ta (0,0)))(hb:w.heap[b.block]?=some (.cells cb tb (0,0))) :
  Calls Tryz.prog 99 #[.iface 298 (.pointer (some a)),.iface 298 (.pointer (some b))] w fun e w'=>e=.returned (.bool false)/\w'=w:=by
 obtain⟨i,hi,hcmp⟩:=Option.map_eq_some_iff.1 Tryz.isComp;obtain⟨j,hj,hjs⟩:=Option.map_eq_some_iff.1 Tryz.isSize;have h8:=@run_callFunc_extern Tryz.prog 135 _ Extern.ReflectliteType.typeOf Tryz.func135 (by kernel_rfl) (by kernel_rfl) (by kernel_rfl) (by kernel_rfl);have h32:=@run_callFunc_extern Tryz.prog 270 _ cmpEntry Tryz.func270 (by kernel_rfl) (by kernel_rfl) (by kernel_rfl) (by kernel_rfl);have tT:=Tryz.isTypeOf;have cT:=Tryz.isComparable;have mR:=Tryz.isMethodComparable;have nE:=Tryz.noIsE;have uE:=Tryz.noUnwrapE;have vE:=Tryz.noUnwrapsE;have heq:=run_eql_iface_ptr_other (P:=Tryz.prog) w Tryz.underlying46 Tryz.underlying298 hi hcmp hj (by rw[hjs];decide) hne ha hb;go_enter Tryz.func99,Tryz.ntmps99
 go_wp2
 refine wp_loop_rounds 1 ?_;rw[rounds_succ];go_wp2;go_ret;exact⟨rfl,rfl⟩
theorem block_lt {w:World}{a:Addr}{v:Value}(h:w.cell? a=some v):a.block < w.heap.size:=by
 rcases Nat.lt_or_ge a.block w.heap.size with h' | h'
 ·exact h'
 ·simp[World.cell?,Array.getElem?_eq_none h'] at h
theorem lt_of_row {w:World}{k:Nat}{o:Obj}(h:w.heap[k]?=some o):k < w.heap.size:=by
 rcases Nat.lt_or_ge k w.heap.size with h' | h'
 ·exact h'
 ·rw[Array.getElem?_eq_none h'] at h;cases h
theorem cell_below {w w':World}{a:Addr}{v:Value}(hb:Below w.heap.size w w')(h:w.cell? a=some v):w'.cell? a=some v:=
 (hb.cell (block_lt h)).trans h
theorem row_below {w w':World}{k:Nat}{o:Obj}(hb:Below w.heap.size w w')(h:w.heap[k]?=some o):w'.heap[k]?=some o:=
 (hb.block k (lt_of_row h)).trans h
theorem below_grown {B:Nat}{a w w':World}{b:Nat}(h:Below B a w)(k:w.grownBy w' (some b))(hB:B<=w.heap.size)(hb:B<=b):Below B a w':=
 h.grown k hB (fun i hi=>by cases hi;exact hb)
theorem Below.one (w:World)(o:Obj):Below w.heap.size w (w.alloc o):=(Below.refl _ _).alloc (Nat.le_refl _) _
theorem Tryz.valueOfPP (t:Addr)(w:World):(ReflectliteValue.unpack (.iface 166 (.pointer (some t)))).run Tryz.prog w
  = .ok (.agg #[.pointer (some ⟨12,166,none⟩),.pointer (some ⟨w.heap.size,0,none⟩),.int .u64 150]) (w.alloc (.cells #[.pointer (some t)] 166)):=by kernel_rfl
def typeEntry : Array Value → Sem Value := ReflectliteValue.methodAny (ReflectliteValue.valueError "reflectlite.Value.Type" 0) (fun t _ _ _ => ReflectliteType.toType t)
def kindEntry:Array Value->Sem Value:=ReflectliteType.abiMethod fun t=>do pure (.int .u8 (<- Rtype.kind t))
def elemTEntry:Array Value->Sem Value:=ReflectliteType.method ReflectliteType.elem
def implEntry : Array Value → Sem Value := ReflectliteType.relation "Implements" ReflectliteType.implements_
def assignEntry : Array Value → Sem Value := ReflectliteType.relation "AssignableTo" ReflectliteType.assignableTo
def isNilEntry : Array Value → Sem Value := ReflectliteValue.method (ReflectliteValue.valueError "reflectlite.Value.IsNil" 0) ReflectliteValue.isNil
def elemVEntry : Array Value → Sem Value := ReflectliteValue.method (ReflectliteValue.valueError "reflectlite.Value.Elem" 0) ReflectliteValue.elem
def setEntry:Array Value->Sem Value:=ReflectliteValue.set
def valueOfEntry:Array Value->Sem Value:=fun args=>ReflectliteValue.unpack (args.getD 0 (.tuple #[]))
theorem Tryz.vOfPP (t:Addr)(w:World):(valueOfEntry #[.iface 166 (.pointer (some t))]).run Tryz.prog w
  = .ok (.agg #[.pointer (some ⟨12,166,none⟩),.pointer (some ⟨w.heap.size,0,none⟩),.int .u64 150]) (w.alloc (.cells #[.pointer (some t)] 166)):=Tryz.valueOfPP t w
theorem Tryz.typePP (a:Addr)(w:World):(typeEntry #[.agg #[.pointer (some ⟨12,166,none⟩),.pointer (some a),.int .u64 150]]).run Tryz.prog w
  = .ok (.iface 251 (.agg #[.pointer (some ⟨12,166,none⟩)])) w:=by kernel_rfl
theorem Tryz.methodKind (h : Value) (w : World) : (Go.method 429 251 (.agg #[h]) "Kind").run Tryz.prog w = .ok (257, h) w := by kernel_rfl
theorem Tryz.kindPP (w:World):(kindEntry #[.pointer (some ⟨12,166,none⟩)]).run Tryz.prog w=.ok (.int .u8 22) w:=by kernel_rfl
theorem Tryz.kindP (w:World):(kindEntry #[.pointer (some ⟨12,164,none⟩)]).run Tryz.prog w=.ok (.int .u8 22) w:=by kernel_rfl
theorem rlm (z:Sem Value)(f:TypeId->Addr->Nat->Nat->Sem Value)(v:Value) :
  ReflectliteValue.method z f #[v]=(do match <- ReflectliteValue.parts v with | none=>z | some (t,a,fl)=>f t a fl (fl % 32)):=rfl
theorem Tryz.partsPP (a:Addr)(w:World):(ReflectliteValue.parts (.agg #[.pointer (some ⟨12,166,none⟩),.pointer (some a),.int .u64 150])).run Tryz.prog w=.ok (some (166,a,150)) w:=by kernel_rfl
theorem Tryz.isNilPP (a p:Addr)(W:World)(ha:W.cell? a=some (.pointer (some p))) :
  (isNilEntry #[.agg #[.pointer (some ⟨12,166,none⟩),.pointer (some a),.int .u64 150]]).run Tryz.prog W=.ok (.bool false) W:=by
 unfold isNilEntry;rw[rlm];simp only[Sem.run_bind,Tryz.partsPP,Result.andThen];simp[ReflectliteValue.isNil,loadVar,isAgg,underlying,Tryz.underlying166,ha,Result.andThen]
theorem Tryz.methodElem (h : Value) (w : World) : (Go.method 429 251 (.agg #[h]) "Elem").run Tryz.prog w = .ok (271, .agg #[h]) w := by kernel_rfl
theorem Tryz.methodImplements (h : Value) (w : World) : (Go.method 429 251 (.agg #[h]) "Implements").run Tryz.prog w = .ok (272, .agg #[h]) w := by kernel_rfl
theorem Tryz.methodAssignableTo (h : Value) (w : World) : (Go.method 429 251 (.agg #[h]) "AssignableTo").run Tryz.prog w = .ok (269, .agg #[h]) w := by kernel_rfl
theorem Tryz.elemPP (w:World):(elemTEntry #[.agg #[.pointer (some ⟨12,166,none⟩)]]).run Tryz.prog w=.ok (.iface 251 (.agg #[.pointer (some ⟨12,164,none⟩)])) w:=by kernel_rfl
theorem Tryz.implementsP (w:World):(implEntry #[.agg #[.pointer (some ⟨12,164,none⟩)],.iface 251 (.agg #[.pointer (some ⟨12,46,none⟩)])]).run Tryz.prog w=.ok (.bool true) w:=by kernel_rfl
theorem Tryz.typeOfP (v:Value)(w:World):(ReflectliteType.typeOf #[.iface 164 v]).run Tryz.prog w=.ok (.iface 251 (.agg #[.pointer (some ⟨12,164,none⟩)])) w:=by kernel_rfl
theorem Tryz.assignableP (w:World):(assignEntry #[.agg #[.pointer (some ⟨12,164,none⟩)],.iface 251 (.agg #[.pointer (some ⟨12,164,none⟩)])]).run Tryz.prog w=.ok (.bool true) w:=by kernel_rfl
theorem Tryz.assignableE (w:World):(assignEntry #[.agg #[.pointer (some ⟨12,298,none⟩)],.iface 251 (.agg #[.pointer (some ⟨12,164,none⟩)])]).run Tryz.prog w=.ok (.bool false) w:=by kernel_rfl
theorem Tryz.vOfP (e:Addr)(w:World):(valueOfEntry #[.iface 164 (.pointer (some e))]).run Tryz.prog w
  = .ok (.agg #[.pointer (some ⟨12,164,none⟩),.pointer (some ⟨w.heap.size,0,none⟩),.int .u64 150]) (w.alloc (.cells #[.pointer (some e)] 164)):=by kernel_rfl
theorem Tryz.noAsE (v:Value)(xT:TypeId)(w:World):(Instr.typeAssert (.iface 298 v) xT 255 true).run Tryz.prog w=.ok (.tuple #[.nilIface,.bool false]) w:=run_typeAssert_lacksB Tryz.underlying255 (by kernel_rfl) (by kernel_rfl) v xT w
theorem Tryz.elemOfPP (w:World):(Rtype.elem? 166).run Tryz.prog w=.ok (some 164) w:=by kernel_rfl
theorem Tryz.mkP (p:Addr)(w:World):(ReflectliteValue.mk 164 p ReflectliteValue.flagAddr).run Tryz.prog w=.ok (.agg #[.pointer (some ⟨12,164,none⟩),.pointer (some p),.int .u64 406]) w:=by kernel_rfl
theorem Tryz.elemVPP (a p:Addr)(W:World)(ha:W.cell? a=some (.pointer (some p))) :
  (elemVEntry #[.agg #[.pointer (some ⟨12,166,none⟩),.pointer (some a),.int .u64 150]]).run Tryz.prog W
   = .ok (.agg #[.pointer (some ⟨12,164,none⟩),.pointer (some p),.int .u64 406]) W:=by
 unfold elemVEntry;rw[rlm];simp only[Sem.run_bind,Tryz.partsPP,Result.andThen];simp[ReflectliteValue.elem,loadVar,isAgg,underlying,Tryz.underlying166,ha,Result.andThen,Tryz.elemOfPP,Tryz.mkP]
theorem rls (v x:Value):ReflectliteValue.set #[v,x]=(do
  let (some (dst,a,fl),some (src,b,_)):=(<- ReflectliteValue.parts v,<- ReflectliteValue.parts x)
   | unsupported (.noEntry "extern/(internal/reflectlite.Value).Set.zeroValue")
  if fl / ReflectliteValue.flagAddr % 2 == 0 then unsupported (.noEntry "extern/(internal/reflectlite.Value).Set.unaddressable")
  let val <- loadVar src b
  if <- Rtype.directlyAssignable dst src then storeVar dst a val
  else if <- Rtype.implements dst src then
   if (<- Rtype.kind src) == 20 then
    match val with
    | .nilIface => unsupported (.noEntry "extern/reflectlite: a nil value of one interface type handed on as a value of another")
    | _=>storeVar dst a val
   else storeVar dst a (.iface src val)
  else panicString ("reflectlite.Set: value of type " ++ (← Rtype.spelt src) ++ " is not assignable to type " ++ (← Rtype.spelt dst))
  pure (.tuple #[])):=rfl
theorem Tryz.partsPa (a:Addr)(w:World):(ReflectliteValue.parts (.agg #[.pointer (some ⟨12,164,none⟩),.pointer (some a),.int .u64 406])).run Tryz.prog w=.ok (some (164,a,406)) w:=by kernel_rfl
theorem Tryz.partsP (a:Addr)(w:World):(ReflectliteValue.parts (.agg #[.pointer (some ⟨12,164,none⟩),.pointer (some a),.int .u64 150])).run Tryz.prog w=.ok (some (164,a,150)) w:=by kernel_rfl
theorem Tryz.directP (w:World):(Rtype.directlyAssignable 164 164).run Tryz.prog w=.ok true w:=by kernel_rfl
theorem Tryz.setP (ta b e:Addr)(old:Value)(W:World)(hb:W.cell? b=some (.pointer (some e)))(ht:W.cell? ta=some old)(hf:W.frozen? ta=false) :
  (setEntry #[.agg #[.pointer (some ⟨12,164,none⟩),.pointer (some ta),.int .u64 406],.agg #[.pointer (some ⟨12,164,none⟩),.pointer (some b),.int .u64 150]]).run Tryz.prog W
   = .ok (.tuple #[]) (W.setCell ta (.pointer (some e))):=by
 unfold setEntry;rw[rls];simp only[Sem.run_bind,Tryz.partsPa,Tryz.partsP,Result.andThen];simp[ReflectliteValue.flagAddr,loadVar,isAgg,underlying,Tryz.underlying164,hb,Result.andThen,Tryz.directP,storeVar,Value.cells,storeCells,Addr.add]
 rw[run_store Tryz.prog W ta _ _ (by rfl)];simp[ht,hf]
set_option maxHeartbeats 4000000 in
theorem as_hit (e t:Addr)(old:Value)(w:World)(hg:w.cell? ⟨11,0,none⟩=some (.iface 251 (.agg #[.pointer (some ⟨12,46,none⟩)])))(ht0:w.cell? t=some old)(hf0:w.frozen? t=false) :
  Calls Tryz.prog 98 #[.iface 164 (.pointer (some e)),.iface 166 (.pointer (some t))] w fun ev w'=>ev=.returned (.bool true)/\w'=((((w.alloc (.cells #[.pointer (some t)] 166)).alloc (.cells #[.pointer (some ⟨12,166,none⟩),.pointer (some ⟨w.heap.size,0,none⟩),.int .u64 150] 200)).alloc (.cells #[.pointer (some ⟨12,166,none⟩),.pointer (some ⟨w.heap.size,0,none⟩),.int .u64 150] 200)).alloc (.cells #[.pointer (some e)] 164)).setCell t (.pointer (some e)):=by
 have h6:=@run_callFunc_extern Tryz.prog 131 _ valueOfEntry Tryz.func131 (by kernel_rfl) (by kernel_rfl) (by kernel_rfl) (by kernel_rfl);have h7:=@run_callFunc_extern Tryz.prog 132 _ typeEntry Tryz.func132 (by kernel_rfl) (by kernel_rfl) (by kernel_rfl) (by kernel_rfl);have h8:=@run_callFunc_extern Tryz.prog 133 _ isNilEntry Tryz.func133 (by kernel_rfl) (by kernel_rfl) (by kernel_rfl) (by kernel_rfl);have h27:=@run_callFunc_extern Tryz.prog 257 _ kindEntry Tryz.func257 (by kernel_rfl) (by kernel_rfl) (by kernel_rfl) (by kernel_rfl);have h37:=@run_callFunc_extern Tryz.prog 271 _ elemTEntry Tryz.func271 (by kernel_rfl) (by kernel_rfl) (by kernel_rfl) (by kernel_rfl);have h38:=@run_callFunc_extern Tryz.prog 272 _ implEntry Tryz.func272 (by kernel_rfl) (by kernel_rfl) (by kernel_rfl) (by kernel_rfl);have h10:=@run_callFunc_extern Tryz.prog 135 _ ReflectliteType.typeOf Tryz.func135 (by kernel_rfl) (by kernel_rfl) (by kernel_rfl) (by kernel_rfl);have h35:=@run_callFunc_extern Tryz.prog 269 _ assignEntry Tryz.func269 (by kernel_rfl) (by kernel_rfl) (by kernel_rfl) (by kernel_rfl);have h11:=@run_callFunc_extern Tryz.prog 175 _ elemVEntry Tryz.func175 (by kernel_rfl) (by kernel_rfl) (by kernel_rfl) (by kernel_rfl);have h12:=@run_callFunc_extern Tryz.prog 176 _ setEntry Tryz.func176 (by kernel_rfl) (by kernel_rfl) (by kernel_rfl) (by kernel_rfl);have tO:=Tryz.typeOfP;have mA:=Tryz.methodAssignableTo;have a25:=Tryz.assignableP;have v25:=Tryz.vOfP;have f6:=Tryz.vOfPP;have f7:=Tryz.typePP;have mK:=Tryz.methodKind;have mE:=Tryz.methodElem;have mI:=Tryz.methodImplements;have k27:=Tryz.kindPP;have k25:=Tryz.kindP;have e27:=Tryz.elemPP;have i25:=Tryz.implementsP;have n8:=Tryz.isNilPP ⟨w.heap.size,0,none⟩ t ((w.alloc (.cells #[.pointer (some t)] 166)).alloc (.cells #[.pointer (some ⟨12,166,none⟩),.pointer (some ⟨w.heap.size,0,none⟩),.int .u64 150] 200)) (by simp);have hlt:=block_lt hg;have hg2:((w.alloc (.cells #[.pointer (some t)] 166)).alloc (.cells #[.pointer (some ⟨12,166,none⟩),.pointer (some ⟨w.heap.size,0,none⟩),.int .u64 150] 200)).cell? ⟨11,0,none⟩=some (.iface 251 (.agg #[.pointer (some ⟨12,46,none⟩)])):=by
  rw[World.cell?_alloc_lt _ _ ⟨11,0,none⟩ (by simp;simp at hlt;omega),World.cell?_alloc_lt _ _ ⟨11,0,none⟩ hlt];exact hg
 have htl:=block_lt ht0;have el:=Tryz.elemVPP ⟨w.heap.size,0,none⟩ t (((w.alloc (.cells #[.pointer (some t)] 166)).alloc (.cells #[.pointer (some ⟨12,166,none⟩),.pointer (some ⟨w.heap.size,0,none⟩),.int .u64 150] 200)).alloc (.cells #[.pointer (some ⟨12,166,none⟩),.pointer (some ⟨w.heap.size,0,none⟩),.int .u64 150] 200)) (by rw[World.cell?_alloc_lt _ _ ⟨w.heap.size,0,none⟩ (by simp;omega)];simp);have st:=Tryz.setP t ⟨w.heap.size+1+1+1,0,none⟩ e old ((((w.alloc (.cells #[.pointer (some t)] 166)).alloc (.cells #[.pointer (some ⟨12,166,none⟩),.pointer (some ⟨w.heap.size,0,none⟩),.int .u64 150] 200)).alloc (.cells #[.pointer (some ⟨12,166,none⟩),.pointer (some ⟨w.heap.size,0,none⟩),.int .u64 150] 200)).alloc (.cells #[.pointer (some e)] 164))
  (by rw[World.cell?_alloc_at _ _ _ _ (by simp)];rfl)
  (by rw[World.cell?_alloc_lt _ _ t (by simp;omega),World.cell?_alloc_lt _ _ t (by simp;omega),World.cell?_alloc_lt _ _ t (by simp;omega),World.cell?_alloc_lt _ _ t htl];exact ht0)
  (by rw[World.frozen?_alloc_old _ _ t (by simp;omega),World.frozen?_alloc_old _ _ t (by simp;omega),World.frozen?_alloc_old _ _ t (by simp;omega),World.frozen?_alloc_old _ _ t (Nat.ne_of_lt htl)];exact hf0)
 go_enter Tryz.func98,Tryz.ntmps98
 go_wp2
 refine wp_loop_rounds 1 ?_;rw[rounds_succ];go_wp2;go_ret;exact⟨rfl,rfl⟩
set_option maxHeartbeats 4000000 in
theorem as_miss (e t:Addr)(w:World)(hg:w.cell? ⟨11,0,none⟩=some (.iface 251 (.agg #[.pointer (some ⟨12,46,none⟩)]))) :
  Calls Tryz.prog 98 #[.iface 298 (.pointer (some e)),.iface 166 (.pointer (some t))] w fun ev w'=>ev=.returned (.bool false)/\Below w.heap.size w w':=by
 have h6:=@run_callFunc_extern Tryz.prog 131 _ valueOfEntry Tryz.func131 (by kernel_rfl) (by kernel_rfl) (by kernel_rfl) (by kernel_rfl);have h7:=@run_callFunc_extern Tryz.prog 132 _ typeEntry Tryz.func132 (by kernel_rfl) (by kernel_rfl) (by kernel_rfl) (by kernel_rfl);have h8:=@run_callFunc_extern Tryz.prog 133 _ isNilEntry Tryz.func133 (by kernel_rfl) (by kernel_rfl) (by kernel_rfl) (by kernel_rfl);have h27:=@run_callFunc_extern Tryz.prog 257 _ kindEntry Tryz.func257 (by kernel_rfl) (by kernel_rfl) (by kernel_rfl) (by kernel_rfl);have h37:=@run_callFunc_extern Tryz.prog 271 _ elemTEntry Tryz.func271 (by kernel_rfl) (by kernel_rfl) (by kernel_rfl) (by kernel_rfl);have h38:=@run_callFunc_extern Tryz.prog 272 _ implEntry Tryz.func272 (by kernel_rfl) (by kernel_rfl) (by kernel_rfl) (by kernel_rfl);have h10:=@run_callFunc_extern Tryz.prog 135 _ ReflectliteType.typeOf Tryz.func135 (by kernel_rfl) (by kernel_rfl) (by kernel_rfl) (by kernel_rfl);have h35:=@run_callFunc_extern Tryz.prog 269 _ assignEntry Tryz.func269 (by kernel_rfl) (by kernel_rfl) (by kernel_rfl) (by kernel_rfl);have tO:=Tryz.isTypeOf;have mA:=Tryz.methodAssignableTo;have aE:=Tryz.assignableE;have f6:=Tryz.vOfPP;have f7:=Tryz.typePP;have mK:=Tryz.methodKind;have mE:=Tryz.methodElem;have mI:=Tryz.methodImplements;have k27:=Tryz.kindPP;have k25:=Tryz.kindP;have e27:=Tryz.elemPP;have i25:=Tryz.implementsP;have nA:=Tryz.noAsE;have uE:=Tryz.noUnwrapE;have vE:=Tryz.noUnwrapsE;have n8:=Tryz.isNilPP ⟨w.heap.size,0,none⟩ t ((w.alloc (.cells #[.pointer (some t)] 166)).alloc (.cells #[.pointer (some ⟨12,166,none⟩),.pointer (some ⟨w.heap.size,0,none⟩),.int .u64 150] 200)) (by simp);have hlt:=block_lt hg;have hg2:((w.alloc (.cells #[.pointer (some t)] 166)).alloc (.cells #[.pointer (some ⟨12,166,none⟩),.pointer (some ⟨w.heap.size,0,none⟩),.int .u64 150] 200)).cell? ⟨11,0,none⟩=some (.iface 251 (.agg #[.pointer (some ⟨12,46,none⟩)])):=by
  rw[World.cell?_alloc_lt _ _ ⟨11,0,none⟩ (by simp;simp at hlt;omega),World.cell?_alloc_lt _ _ ⟨11,0,none⟩ hlt];exact hg
 go_enter Tryz.func98,Tryz.ntmps98
 go_wp2
 refine wp_loop_rounds 1 ?_;rw[rounds_succ];go_wp2;go_ret;exact⟨rfl,(((Below.refl _ _).alloc (Nat.le_refl _) _).alloc (by simp) _).alloc (by simp;omega) _⟩
structure Senv (A:Nat->Addr)(w:World):Prop where
 c0:w.cell? ⟨7,0,none⟩=some (.iface 298 (.pointer (some (A 0))))
 c1:w.cell? ⟨1,0,none⟩=some (.iface 298 (.pointer (some (A 1))))
 c2:w.cell? ⟨3,0,none⟩=some (.iface 298 (.pointer (some (A 2))))
 c3:w.cell? ⟨8,0,none⟩=some (.iface 298 (.pointer (some (A 3))))
 c4:w.cell? ⟨5,0,none⟩=some (.iface 298 (.pointer (some (A 4))))
 c5:w.cell? ⟨9,0,none⟩=some (.iface 298 (.pointer (some (A 5))))
 c6:w.cell? ⟨10,0,none⟩=some (.iface 298 (.pointer (some (A 6))))
 c7:w.cell? ⟨2,0,none⟩=some (.iface 298 (.pointer (some (A 7))))
 c8:w.cell? ⟨4,0,none⟩=some (.iface 298 (.pointer (some (A 8))))
 c9:w.cell? ⟨0,0,none⟩=some (.iface 298 (.pointer (some (A 9))))
 c10:w.cell? ⟨6,0,none⟩=some (.iface 298 (.pointer (some (A 10))))
 et:w.cell? ⟨11,0,none⟩=some (.iface 251 (.agg #[.pointer (some ⟨12,46,none⟩)]))
 row:∀ i,i < 11->∃ c t,w.heap[(A i).block]?=some (.cells c t (0,0))
 ne:∀ i j,i < 11->j < 11->i≠j->A i≠A j
theorem Senv.below {A:Nat->Addr}{w w':World}(h:Senv A w)(hb:Below w.heap.size w w'):Senv A w':=
 ⟨cell_below hb h.c0,cell_below hb h.c1,cell_below hb h.c2,cell_below hb h.c3,cell_below hb h.c4,cell_below hb h.c5,cell_below hb h.c6,cell_below hb h.c7,cell_below hb h.c8,cell_below hb h.c9,cell_below hb h.c10,cell_below hb h.et,
  fun i hi=>by obtain⟨c,t,e⟩:=h.row i hi;exact⟨c,t,row_below hb e⟩,h.ne⟩
theorem Senv.alloc {A:Nat->Addr}{w:World}(h:Senv A w)(o:Obj):Senv A (w.alloc o):=h.below ((Below.refl _ _).alloc (Nat.le_refl _) _)
theorem is_same' (a b:Addr)(w:World)(h:a=b) :
  Calls Tryz.prog 99 #[.iface 298 (.pointer (some a)),.iface 298 (.pointer (some b))] w fun e w'=>e=.returned (.bool true)/\w'=w:=by
 subst h;exact is_same a w
def errCells (A:Nat->Addr):Array Value:=#[.iface 298 (.pointer (some (A 0))),.iface 298 (.pointer (some (A 1))),.iface 298 (.pointer (some (A 2))),.iface 298 (.pointer (some (A 3))),.iface 298 (.pointer (some (A 4))),.iface 298 (.pointer (some (A 5))),.iface 298 (.pointer (some (A 6))),.iface 298 (.pointer (some (A 7))),.iface 298 (.pointer (some (A 8))),.iface 298 (.pointer (some (A 9))),.iface 298 (.pointer (some (A 10)))]
theorem errCells_at (A:Nat->Addr)(w:World)(k:Nat)(hk:k < 11):(w.alloc (.cells (errCells A) 46)).cell? ⟨w.heap.size,k,none⟩=some (.iface 298 (.pointer (some (A k)))):=by
 rw[World.cell?_alloc_at _ _ _ _ rfl]
 match k,hk with
 | 0,_=>rfl
 | 1,_=>rfl
 | 2,_=>rfl
 | 3,_=>rfl
 | 4,_=>rfl
 | 5,_=>rfl
 | 6,_=>rfl
 | 7,_=>rfl
 | 8,_=>rfl
 | 9,_=>rfl
 | 10,_=>rfl
theorem ret2 {k l:IntKind}{a b c d:Int}(h:a=c)(h':b=d):Ending.returned (.tuple #[.int k a,.int l b])=.returned (.tuple #[.int k c,.int l d]):=by rw[h,h']
theorem code_nil (w:World):Calls Tryz.prog 65 #[.nilIface] w fun e w'=>e=.returned (.tuple #[.int .i64 0,.int .i64 (-1)])/\w'=w:=by
 go_enter Tryz.func65,Tryz.ntmps65
 go_wp2;go_ret2
 exact⟨rfl,rfl⟩
set_option maxHeartbeats 1000000 in
theorem code_errs (A:Nat->Addr)(a:Addr)(j:Nat)(ca:Array Value)(ta:TypeId)(w:World)(hs:Senv A w)(hj:j<=11)(hlt:∀ i,i < j->a≠A i)(hit:j < 11->a=A j)(ha:w.heap[a.block]?=some (.cells ca ta (0,0))) :
  Calls Tryz.prog 65 #[.iface 298 (.pointer (some a))] w fun e w'=>e=.returned (.tuple #[.int .i64 (if j < 11 then (j:Int)+1 else -1),.int .i64 (-1)])/\Below w.heap.size w w':=by
 have hs1:=hs.alloc (.cells #[.pointer none] 164);go_enter Tryz.func65,Tryz.ntmps65
 go_wp2_with fail
 refine(as_miss _ _ _ hs1.et).mono ?_;rintro e w2 ⟨rfl,hb⟩;obtain⟨c0,c1,c2,c3,c4,c5,c6,c7,c8,c9,c10,-,hrow,-⟩:=hs1.below hb;have ha2:=row_below hb (row_below ((Below.refl w.heap.size w).alloc (Nat.le_refl _) (.cells #[.pointer none] 164)) ha);have hb1:Below w.heap.size w w2:=((Below.refl w.heap.size w).alloc (Nat.le_refl _) _).trans (hb.mono (by simp));clear hs hs1 hb ha;have hcell:=errCells_at A w2;have hrow3:∀ i,i < 11->∃ c t,(w2.alloc (.cells (errCells A) 46)).heap[(A i).block]?=some (.cells c t (0,0)):=fun i hi=>by
  obtain⟨c,t,e⟩:=hrow i hi;exact⟨c,t,row_below ((Below.refl w2.heap.size w2).alloc (Nat.le_refl _) _) e⟩
 have ha3:=row_below ((Below.refl w2.heap.size w2).alloc (Nat.le_refl _) (.cells (errCells A) 46)) ha2;have hb3:Below w.heap.size w (w2.alloc (.cells (errCells A) 46)):=hb1.alloc hb1.size _;unfold errCells at hcell hrow3 ha3 hb3;go_wp2_with fail
 clear c0 c1 c2 c3 c4 c5 c6 c7 c8 c9 c10 hrow ha2 hb1;go_loop [3,29] (fun at3 i=>at3=.int .i64 (-1)/\∃ k:Nat,k<=j/\i=.int .i64 k) (fun _ i=>11 - (intOf i).toNat)
 case atStart=>exact⟨rfl,0,Nat.zero_le _,rfl⟩
 case round=>
  obtain⟨rfl,k,hk,rfl⟩:=hrel
  by_cases hkj:k < j
  ·have hne:=hlt k hkj;have h11:k < 11:=by omega
   obtain⟨cb,tb,hrk⟩:=hrow3 k h11;have hck:=hcell k h11;clear hlt hit hrow3 hcell;go_wp2_with fail
   refine(is_other _ _ ca cb ta tb _ hne ha3 hrk).mono ?_;rintro e w' ⟨rfl,rfl⟩;go_wp2;go_round
   case rel=>exact⟨rfl,k+1,by omega,by go_num⟩
   case measure=>simp[intOf];omega
  ·have hkj2:k=j:=by omega
   by_cases h11:k < 11
   ·have hsame:a=A k:=by rw[hkj2];exact hit (by omega)
    have HS:Hid (a=A k):=hsame;have HJ:Hid (k=j):=hkj2;have hck:=hcell k h11;clear hlt hit hrow3 hcell hsame hkj2;go_wp2_with fail
    refine(is_same' _ _ _ HS.out).mono ?_;rintro e w' ⟨rfl,rfl⟩;go_wp2;go_ret2
    exact⟨ret2 (by have hj':=HJ.out;first | omega | (rw[if_pos (by omega)];omega)) rfl,hb3⟩
   ·have HJ:Hid (k=j):=hkj2;clear hlt hit hrow3 hcell hkj2;go_wp2;go_ret2
    exact⟨ret2 (by have hj':=HJ.out;first | omega | (rw[if_neg (by omega)])) rfl,hb3⟩
theorem coded_of {err:Value}{code c n:Int}{w:World}{Q:World->Prop}(h:Calls Tryz.prog 65 #[err] w fun e w'=>e=.returned (.tuple #[.int .i64 c,.int .i64 n])/\Q w') :
  Calls Tryz.prog 26 #[err,.int .i64 code] w fun e w'=>e=.returned (.bool (decide (c=code/\n=-1)))/\Q w':=by
 by_cases h1:c=code
 ·by_cases h2:n=-1
  all_goals
   go_enter Tryz.func26,Tryz.ntmps26
   go_wp2_with fail
   refine h.mono ?_;rintro e w' ⟨rfl,hq⟩;go_wp2;go_ret;exact⟨by simp[h1,h2],hq⟩
 ·go_enter Tryz.func26,Tryz.ntmps26
  go_wp2_with fail
  refine h.mono ?_;rintro e w' ⟨rfl,hq⟩;go_wp2;go_ret;exact⟨by simp[h1],hq⟩
theorem coded_sent (A:Nat->Addr)(j:Nat)(code:Int)(w:World)(hs:Senv A w)(hj:j < 11) :
  Calls Tryz.prog 26 #[.iface 298 (.pointer (some (A j))),.int .i64 code] w fun e w'=>e=.returned (.bool (decide ((j:Int)+1=code)))/\Below w.heap.size w w':=by
 obtain⟨c,t,hr⟩:=hs.row j hj
 refine(coded_of (code:=code) (code_errs A (A j) j c t w hs (by omega) (fun i hi=>hs.ne j i hj (by omega) (by omega)) (fun _=>rfl) hr)).mono ?_;rintro e w' ⟨rfl,hb⟩
 refine⟨?_,hb⟩;rw[if_pos hj];simp
theorem coded_nil (code:Int)(w:World) :
  Calls Tryz.prog 26 #[.nilIface,.int .i64 code] w fun e w'=>e=.returned (.bool (decide (0=code)))/\w'=w:=by
 refine(coded_of (code:=code) (code_nil w)).mono ?_;rintro e w' ⟨rfl,hb⟩;exact⟨by simp,hb⟩
end Go.Proofs.YtdpdbfhbojgigacGreatDoor
namespace Go.Proofs.YtdpdbfhbojgigacGreatDoor
open Go.RowKit Go.ChangeShapes
def sentList (l : List (String × List UInt8)) : List (String × DataW Unit) := l.map fun x => (x.1, .iface "*errors.errorString" (.ptr (.agg [.lit (.string x.2)])))
theorem sents {P:Program}{W:World}{ti tp te ts:TypeId}{ms:Array (String × TypeId)}{f:Field}
  (hi : P.underlying ti = some (.interface ms)) (hrow : ∀ u, P.typeName? 3 u = some "*errors.errorString" → u = tp)
  (hp:P.underlying tp=some (.pointer te)) (he:P.underlying te=some (.struct #[f])) (hft:f.type=ts) (hfo:f.offset=0) (hs:P.underlying ts=some .string) (hc:P.cellsOf te=1) (hcs:P.cellsOf ts=1) :
  ∀ (l:List (String × List UInt8)) (ps:List MemPlace),(∀ x,x∈l->∃ g,P.globalNamed x.1=some g/\(P.globals[g]?).map (·.type)=some ti)->DataW.LaidVars P W (sentList l) ps->ps.Nodup ->
   (∀ b off,MemPlace.cell b off∈ps->(∃ c t,W.heap[b]?=some (.cells c t (0,0)))/\∀ u v,W.cell? ⟨b,off,none⟩=some (.iface u v)->Value.okWide P W .any 0 u v) ->
   ∃ A:Nat->Addr,(∀ i x,l[i]?=some x->W.var? P x.1=some #[.iface tp (.pointer (some (A i)))])/\(∀ i,i < l.length->∃ c t,W.heap[(A i).block]?=some (.cells c t (0,0))) /\
    (∀ i,i < l.length->MemPlace.cell (A i).block (A i).off∈ps)/\∀ i j,i < l.length->j < l.length->i≠j->A i≠A j:=by
 intro l
 induction l with
 | nil=>exact fun ps _ _ _ _=>⟨fun _=>⟨0,0,none⟩,fun i x h=>by simp at h,fun i h=>by simp at h,fun i h=>by simp at h,fun i j h=>by simp at h⟩
 | cons x r ih=>
  intro ps hg hl hnd hrows;obtain⟨n,text⟩:=x;obtain⟨g,t,cs,fuel,p,q,hg0,ht0,hv0,hd0,hq,rfl⟩:=hl;obtain⟨g',hg1,ht1⟩:=hg (n,text) (List.mem_cons_self ..);obtain rfl:=Option.some.inj (hg1.symm.trans hg0);obtain rfl:=Option.some.inj (ht1.symm.trans ht0);obtain⟨lc⟩:=cs;have ok0:∀ u v,lc=[.iface u v]->Value.okWide P W .any 0 u v:=fun u v e=>by
   subst e;exact(hrows g' 0 (by simp[MemPlace.row])).2 u v (by simpa using World.var?_cell hg0 hv0 0)
  obtain⟨a0,s0,rfl,hc0,hs0,hz0,rfl⟩:=errorString_of_trod hi hrow hp he hft hfo hs hc hcs hd0 ok0;obtain⟨A,v,b,m,d⟩:=ih q (fun y hy=>hg y (List.mem_cons_of_mem _ hy)) hq (List.Nodup.sublist (List.sublist_append_right _ _) hnd) (fun b off hm=>hrows b off (List.mem_append_right _ hm));have h0m:∀ i,i < r.length->a0≠A i:=fun i hi e=>by
   have hm:=m i hi;rw[<- e] at hm;have:=List.nodup_append.1 hnd;exact this.2.2 _ (List.mem_append_right _ (by simp[MemPlace.row])) _ hm rfl
  refine⟨fun i=>match i with | 0=>a0 | i+1=>A i,fun i y hy=>?_,fun i hi=>?_,fun i hi=>?_,fun i j hi hj hne=>?_⟩
  ·cases i with
   | zero=>simp only[List.getElem?_cons_zero,Option.some.injEq] at hy;subst hy;exact hv0
   | succ i=>exact v i y (by simpa using hy)
  ·cases i with
   | zero=>exact(hrows a0.block a0.off (by simp[MemPlace.row])).1
   | succ i=>exact b i (by simpa using hi)
  ·cases i with
   | zero=>exact List.mem_append_left _ (List.mem_append_right _ (by simp[MemPlace.row]))
   | succ i=>exact List.mem_append_right _ (m i (by simpa using hi))
  ·cases i with
   | zero=>
    cases j with
    | zero=>exact absurd rfl hne
    | succ j=>exact h0m j (by simpa using hj)
   | succ i=>
    cases j with
    | zero=>exact fun e=>h0m i (by simpa using hi) e.symm
    | succ j=>exact d i j (by simpa using hi) (by simpa using hj) (by omega)
def sentNames : List (String × List UInt8) := [("nightwatch/api.ErrText", [110, 105, 103, 104, 116, 119, 97, 116, 99, 104, 58, 32, 116, 101, 120, 116]), ("nightwatch/api.ErrBound", [110, 105, 103, 104, 116, 119, 97, 116, 99, 104, 58, 32, 98, 111, 117, 110, 100]), ("nightwatch/api.ErrShape", [110, 105, 103, 104, 116, 119, 97, 116, 99, 104, 58, 32, 115, 104, 97, 112, 101]), ("nightwatch/api.ErrName", [110, 105, 103, 104, 116, 119, 97, 116, 99, 104, 58, 32, 110, 97, 109, 101]), ("nightwatch/api.ErrNone", [110, 105, 103, 104, 116, 119, 97, 116, 99, 104, 58, 32, 110, 111, 110, 101]), ("nightwatch/api.ErrExist", [110, 105, 103, 104, 116, 119, 97, 116, 99, 104, 58, 32, 101, 120, 105, 115, 116]), ("nightwatch/api.ErrFull", [110, 105, 103, 104, 116, 119, 97, 116, 99, 104, 58, 32, 102, 117, 108, 108]), ("nightwatch/api.ErrOff", [110, 105, 103, 104, 116, 119, 97, 116, 99, 104, 58, 32, 111, 102, 102]), ("nightwatch/api.ErrIdle", [110, 105, 103, 104, 116, 119, 97, 116, 99, 104, 58, 32, 105, 100, 108, 101]), ("nightwatch/api.ErrHeld", [110, 105, 103, 104, 116, 119, 97, 116, 99, 104, 58, 32, 104, 101, 108, 100]), ("nightwatch/api.ErrReset", [110, 105, 103, 104, 116, 119, 97, 116, 99, 104, 58, 32, 114, 101, 115, 101, 116])]
theorem own:ownKnob Tryz.prog.godebug=none:=by kernel_rfl
theorem Tryz.gErrs:(sentNames.map fun x=>(Tryz.prog.globalNamed x.1).bind fun g=>(Tryz.prog.globals[g]?).map (·.type))=List.replicate 11 (some 46):=by kernel_rfl
theorem Tryz.g0 : Tryz.prog.globalNamed "nightwatch/api.ErrText" = some 7 := by kernel_rfl
theorem Tryz.g1 : Tryz.prog.globalNamed "nightwatch/api.ErrBound" = some 1 := by kernel_rfl
theorem Tryz.g2 : Tryz.prog.globalNamed "nightwatch/api.ErrShape" = some 3 := by kernel_rfl
theorem Tryz.g3 : Tryz.prog.globalNamed "nightwatch/api.ErrName" = some 8 := by kernel_rfl
theorem Tryz.g4 : Tryz.prog.globalNamed "nightwatch/api.ErrNone" = some 5 := by kernel_rfl
theorem Tryz.g5 : Tryz.prog.globalNamed "nightwatch/api.ErrExist" = some 9 := by kernel_rfl
theorem Tryz.g6 : Tryz.prog.globalNamed "nightwatch/api.ErrFull" = some 10 := by kernel_rfl
theorem Tryz.g7 : Tryz.prog.globalNamed "nightwatch/api.ErrOff" = some 2 := by kernel_rfl
theorem Tryz.g8 : Tryz.prog.globalNamed "nightwatch/api.ErrIdle" = some 4 := by kernel_rfl
theorem Tryz.g9 : Tryz.prog.globalNamed "nightwatch/api.ErrHeld" = some 0 := by kernel_rfl
theorem Tryz.g10 : Tryz.prog.globalNamed "nightwatch/api.ErrReset" = some 6 := by kernel_rfl
theorem Tryz.gEt : Tryz.prog.globalNamed "errors.errorType" = some 11 := by kernel_rfl
theorem Tryz.rt : (Tryz.prog.cutTypes.find? (·.1 == "internal/reflectlite.rtype")).map (·.2) = some 251 := by kernel_rfl
theorem Tryz.oneRow:((List.range 329).filter fun t=>Tryz.prog.rowNamed t [101,114,114,111,114])=[46]:=by kernel_rfl
theorem Tryz.nTypes:Tryz.prog.types.size=329:=by kernel_rfl
theorem star : "*" ++ "errors.errorString" = "*errors.errorString" := by decide
theorem Tryz.oneErr (u : TypeId) (h : Tryz.prog.typeName? 3 u = some "*errors.errorString") : u = 298 :=
 typeName_ptr_named (nm := "errors.errorString") (by rw [star]; kernel_rfl) (by kernel_rfl) (by decide) u (by rw [star]; exact h)
theorem Tryz.cellsES:Tryz.prog.cellsOf 317=1:=by kernel_rfl
theorem Tryz.cellsStr:Tryz.prog.cellsOf 9=1:=by kernel_rfl
def seatLaid : List (String × DataW Unit) := [("errors.errorType", Rows.laid_errors_errorType), ("nightwatch/api.ErrText", Rows.laid_nightwatch_api_ErrText), ("nightwatch/api.ErrBound", Rows.laid_nightwatch_api_ErrBound), ("nightwatch/api.ErrShape", Rows.laid_nightwatch_api_ErrShape), ("nightwatch/api.ErrName", Rows.laid_nightwatch_api_ErrName), ("nightwatch/api.ErrNone", Rows.laid_nightwatch_api_ErrNone), ("nightwatch/api.ErrExist", Rows.laid_nightwatch_api_ErrExist), ("nightwatch/api.ErrFull", Rows.laid_nightwatch_api_ErrFull), ("nightwatch/api.ErrOff", Rows.laid_nightwatch_api_ErrOff), ("nightwatch/api.ErrIdle", Rows.laid_nightwatch_api_ErrIdle), ("nightwatch/api.ErrHeld", Rows.laid_nightwatch_api_ErrHeld), ("nightwatch/api.ErrReset", Rows.laid_nightwatch_api_ErrReset)]
theorem laid_split (W : World) : laidMetH Tryz.prog seatLaid W = (laidMet Tryz.prog (sentList sentNames) W ∧ handlesMet Tryz.prog [("errors.errorType", Rows.laid_errors_errorType)] W) := by kernel_rfl
theorem senv_of_laid {W:World}(h:laidMetH Tryz.prog seatLaid W):∃ A:Nat->Addr,Senv A W:=by
 rw[laid_split] at h;obtain⟨⟨ps,hl,hnd,hrows⟩,hh⟩:=h;have hgs:∀ x,x∈sentNames->∃ g,Tryz.prog.globalNamed x.1=some g/\(Tryz.prog.globals[g]?).map (·.type)=some 46:=fun x hx=>by
  have h1:((Tryz.prog.globalNamed x.1).bind fun g=>(Tryz.prog.globals[g]?).map (·.type))∈List.replicate 11 (some 46):=by
   rw[<- Tryz.gErrs];exact List.mem_map_of_mem hx
  have h2:=List.eq_of_mem_replicate h1;simp only[Option.bind_eq_some_iff] at h2;obtain⟨g,a,b⟩:=h2;exact⟨g,a,b⟩
 obtain⟨A,hv,hr,-,hne⟩:=sents Tryz.underlying46 Tryz.oneErr Tryz.underlying298 Tryz.underlying317 rfl rfl Tryz.underlying9 Tryz.cellsES Tryz.cellsStr sentNames ps hgs hl hnd hrows;have het:W.cell? ⟨11,0,none⟩=some (.iface 251 (.agg #[.pointer (some ⟨12,46,none⟩)])):=by
  obtain⟨name,u,ty,e1,e2,e3,e4,e5⟩:=hh _ (List.mem_singleton.2 rfl);have en:name=[101,114,114,111,114]:=(Option.some.inj e1).symm;subst en;obtain rfl:=Option.some.inj (Tryz.rt.symm.trans e2);have hm:ty∈(List.range 329).filter fun t=>Tryz.prog.rowNamed t [101,114,114,111,114]:=List.mem_filter.2 ⟨List.mem_range.2 (by rw[<- Tryz.nTypes];exact e3),e4⟩
  rw[Tryz.oneRow] at hm;obtain rfl:=List.mem_singleton.1 hm;have hh:typeHandle Tryz.prog 46=.pointer (some ⟨12,46,none⟩):=by kernel_rfl
  rw[hh] at e5;simpa using World.var?_cell Tryz.gEt e5 0
 exact⟨A,by simpa using World.var?_cell Tryz.g0 (hv 0 _ rfl) 0,by simpa using World.var?_cell Tryz.g1 (hv 1 _ rfl) 0,by simpa using World.var?_cell Tryz.g2 (hv 2 _ rfl) 0,by simpa using World.var?_cell Tryz.g3 (hv 3 _ rfl) 0,by simpa using World.var?_cell Tryz.g4 (hv 4 _ rfl) 0,by simpa using World.var?_cell Tryz.g5 (hv 5 _ rfl) 0,by simpa using World.var?_cell Tryz.g6 (hv 6 _ rfl) 0,by simpa using World.var?_cell Tryz.g7 (hv 7 _ rfl) 0,by simpa using World.var?_cell Tryz.g8 (hv 8 _ rfl) 0,by simpa using World.var?_cell Tryz.g9 (hv 9 _ rfl) 0,by simpa using World.var?_cell Tryz.g10 (hv 10 _ rfl) 0,het,fun i hi=>hr i hi,fun i j hi hj=>hne i j hi hj⟩
theorem door_met (os:Os)(args:Array Value):laidMetH Tryz.prog seatLaid ((World.doorLaid Tryz.prog 400 os).forCall (fun _ _=>0) ⟨#[],args,[]⟩).memory:=
 laidMetH_of_parts3 (fuel:=8) (laidMet_of_run' 8 (by kernel_rfl) (by kernel_rfl)) (by kernel_rfl) (by kernel_rfl)
end Go.Proofs.YtdpdbfhbojgigacGreatDoor
namespace Go.Proofs.YtdpdbfhbojgigacGreatDoor
open Go.RowKit Go.Extern.Stop Go.Stop Go.Extern
def SlAt {α:Type}(enc:α->List Value)(k:Nat)(w:World)(v:Value)(xs:List α):Prop:=
 ∃ sa cap,v=.slice sa xs.length cap/\xs.length<=cap/\(xs≠[]->∃ b o,sa=some ⟨b,o,none⟩/\∀ i x,xs[i]?=some x->∀ j u,(enc x)[j]?=some u->w.cell? ⟨b,o+i*k+j,none⟩=some u)
theorem SlAt.below {α:Type}{enc:α->List Value}{k:Nat}{w w':World}{v:Value}{xs:List α}(h:SlAt enc k w v xs)(hb:Below w.heap.size w w'):SlAt enc k w' v xs:=by
 obtain⟨sa,cap,h1,h0,h2⟩:=h
 refine⟨sa,cap,h1,h0,fun hne=>?_⟩;obtain⟨b,o,h3,h4⟩:=h2 hne;exact⟨b,o,h3,fun i x hx j u hu=>cell_below hb (h4 i x hx j u hu)⟩
def encI (x:Int):List Value:=[.int .i64 x]
def encS (s:ByteArray):List Value:=[.string s]
def encP (p:Int × Int):List Value:=[.int .i64 p.1,.int .i64 p.2]
def encG (g:GapD):List Value:=[.int .i64 g.fr,.int .i64 g.to,.int .i64 g.mn,.int .i64 g.mx]
def entRow (e:EntD)(pv gv ev fv lv:Value):Array Value:=#[.string e.name,.int .i64 e.tol,pv,.int .i64 e.cnt,.int .i64 e.mn,.int .i64 e.mx,gv,ev,fv,lv]
structure EntParts (w:World)(e:EntD)(pv gv ev fv lv:Value):Prop where
 hp:SlAt encS 1 w pv e.pts
 hg:SlAt encG 4 w gv e.gaps
 he:SlAt encP 2 w ev e.edges
 hf:SlAt encI 1 w fv e.first
 hl:SlAt encI 1 w lv e.last
theorem EntParts.below {w w':World}{e:EntD}{pv gv ev fv lv:Value}(h:EntParts w e pv gv ev fv lv)(hb:Below w.heap.size w w'):EntParts w' e pv gv ev fv lv:=
 ⟨h.hp.below hb,h.hg.below hb,h.he.below hb,h.hf.below hb,h.hl.below hb⟩
def EntsAt (w:World)(v:Value)(es:List EntD):Prop:=
 ∃ sa cap,v=.slice sa es.length cap/\(es≠[]->∃ b o,sa=some ⟨b,o,none⟩/\∀ i e,es[i]?=some e->∃ pv gv ev fv lv,EntParts w e pv gv ev fv lv/\∀ j u,(entRow e pv gv ev fv lv)[j]?=some u->w.cell? ⟨b,o+i*10+j,none⟩=some u)
theorem EntsAt.below {w w':World}{v:Value}{es:List EntD}(h:EntsAt w v es)(hb:Below w.heap.size w w'):EntsAt w' v es:=by
 obtain⟨sa,cap,h1,h2⟩:=h
 refine⟨sa,cap,h1,fun hne=>?_⟩;obtain⟨b,o,h3,h4⟩:=h2 hne
 refine⟨b,o,h3,fun i e he=>?_⟩;obtain⟨pv,gv,ev,fv,lv,h5,h6⟩:=h4 i e he;exact⟨pv,gv,ev,fv,lv,h5.below hb,fun j u hu=>cell_below hb (h6 j u hu)⟩
structure SmallE (e:EntD):Prop where
 hn:e.name.size<=1000000
 hp:e.pts.length<=1000000
 hs:∀ p∈e.pts,p.size<=1000000
 hg:e.gaps.length<=1000000
 he:e.edges.length<=1000000
 hf:e.first.length<=1000000
 hl:e.last.length<=1000000
structure SmallC (c:CfgD):Prop where
 hn:c.ents.length<=1000000
 he:∀ e∈c.ents,SmallE e
end Go.Proofs.YtdpdbfhbojgigacGreatDoor
