/-
  Several texts as one: Is, As, Code, Orders, Orders2. What each holds: Is: errors.Is at the values that this program hands it, told by contracts: a sentinel of errors.New's make, or an *api.Fault round one, asked for a sentinel: true where it is that very one, else false; nothing in memory turns. Conditions: the two sentinels' rows of cells are in memory, and are different ones where 'false' is told. | As: errors.As at the values that this program hands it, asked for an *api.Fault, told by contracts: of a sentinel of errors.New's make: false, and nothing that was there turns; of a Fault: true, and the asked-for variable holds it. Condition: errors.errorType holds the handle of 'error'. | Code: plain.Code told by contracts: nil is 0; a sentinel is its place in the list, and one more; a Fault round a sentinel is that, and the Fault's place; another error of errors.New's make is -1. Nothing that was there turns. Condition: the eleven sentinels are in memory, each another one ('Senv'). | Orders: A statement whose order of evaluation is left open, told by what each of its operations yields: if each operation, in whatever state fits what its own operands must hold, yields a value of its own kind and keeps what was told of the others, then every order comes to an end at which all hold. No condition beside those named. | Orders2: A statement whose order of evaluation is left open, told by what each of its operations yields and by what the world is when a set of them has been done ('C done w'): for statements that write, or call what writes. No condition beside those named.
-/
import Derived.Test.YtbholbenjalliaaGreatDoorProg
import Derived.WalkKit
import Derived.LaidEql
import Derived.Stop.Asserts
import Derived.RowKitTokens
import Derived.Test.YtbholbenjalliaaGreatDoorMemX
import Derived.Outline
import Derived.Orders
namespace Go.Proofs.YtbholbenjalliaaGreatDoor
open Go.RowKit Go.Extern.Stop Go.Stop Go.Extern

theorem Tryz.isTypeOf (v : Value) (w : World) : (Extern.ReflectliteType.typeOf #[.iface 227 v]).run Tryz.prog w = .ok (.iface 165 (.agg #[.pointer (some ⟨19, 227, none⟩)])) w := by kernel_rfl
/-- The model's entry for (rtype).Comparable, under a name of our own. -/
def cmpEntry : Array Value → Sem Value := Extern.ReflectliteType.method fun t => do Rtype.noPackHeld "Comparable" t; pure (.bool (← typeInfo t).comparable)
theorem Tryz.isComparable (w : World) : (cmpEntry #[.agg #[.pointer (some ⟨19, 227, none⟩)]]).run Tryz.prog w = .ok (.bool true) w := by kernel_rfl
theorem Tryz.isMethodComparable (v : Value) (w : World) : (Go.method 357 165 v "Comparable").run Tryz.prog w = .ok (189, v) w := by kernel_rfl
theorem Tryz.isComp : (Tryz.prog.info? 227).map (·.comparable) = some true := by kernel_rfl
theorem Tryz.isSize : (Tryz.prog.info? 246).map (·.size) = some 1 := by kernel_rfl

theorem Tryz.noIsE (v : Value) (xT : TypeId) (w : World) : (Instr.typeAssert (.iface 227 v) xT 176 true).run Tryz.prog w = .ok (.tuple #[.nilIface, .bool false]) w := run_typeAssert_lacksB Tryz.underlying176 (by kernel_rfl) (by kernel_rfl) v xT w
theorem Tryz.noUnwrapE (v : Value) (xT : TypeId) (w : World) : (Instr.typeAssert (.iface 227 v) xT 172 true).run Tryz.prog w = .ok (.tuple #[.nilIface, .bool false]) w := run_typeAssert_lacksB Tryz.underlying172 (by kernel_rfl) (by kernel_rfl) v xT w
theorem Tryz.noUnwrapsE (v : Value) (xT : TypeId) (w : World) : (Instr.typeAssert (.iface 227 v) xT 174 true).run Tryz.prog w = .ok (.tuple #[.nilIface, .bool false]) w := run_typeAssert_lacksB Tryz.underlying174 (by kernel_rfl) (by kernel_rfl) v xT w
theorem Tryz.noIsF (v : Value) (xT : TypeId) (w : World) : (Instr.typeAssert (.iface 73 v) xT 176 true).run Tryz.prog w = .ok (.tuple #[.nilIface, .bool false]) w := run_typeAssert_lacksB Tryz.underlying176 (by kernel_rfl) (by kernel_rfl) v xT w
theorem Tryz.hasUnwrapF (v : Value) (xT : TypeId) (w : World) : (Instr.typeAssert (.iface 73 v) xT 172 true).run Tryz.prog w = .ok (.tuple #[.iface 73 v, .bool true]) w := run_typeAssert_hasB Tryz.underlying172 (by kernel_rfl) v xT w
theorem Tryz.methodUnwrap (v : Value) (w : World) : (Go.method 357 73 v "Unwrap").run Tryz.prog w = .ok (182, v) w := by kernel_rfl

/-- errors.Is(x, x), x a sentinel. -/
theorem is_same (a : Addr) (w : World) :
    Calls Tryz.prog 43 #[.iface 227 (.pointer (some a)), .iface 227 (.pointer (some a))] w fun e w' => e = .returned (.bool true) ∧ w' = w := by
  obtain ⟨i, hi, hcmp⟩ := Option.map_eq_some_iff.1 Tryz.isComp
  obtain ⟨j, hj, hjs⟩ := Option.map_eq_some_iff.1 Tryz.isSize
  have h8 := @run_callFunc_extern Tryz.prog 73 _ Extern.ReflectliteType.typeOf Tryz.func73 (by kernel_rfl) (by kernel_rfl) (by kernel_rfl) (by kernel_rfl)
  have h32 := @run_callFunc_extern Tryz.prog 189 _ cmpEntry Tryz.func189 (by kernel_rfl) (by kernel_rfl) (by kernel_rfl) (by kernel_rfl)
  have tT := Tryz.isTypeOf
  have cT := Tryz.isComparable
  have mR := Tryz.isMethodComparable
  have heq := run_eql_iface_ptr_same (P := Tryz.prog) w a Tryz.underlying31 Tryz.underlying227 hi hcmp hj
  go_enter Tryz.func43, Tryz.ntmps43
  go_wp2
  refine wp_loop_rounds 1 ?_
  rw [rounds_succ]
  go_wp2
  go_ret
  exact ⟨rfl, rfl⟩

/-- errors.Is(x, y), two different sentinels. -/
theorem is_other (a b : Addr) (ca cb : Array Value) (ta tb : TypeId) (w : World) (hne : a ≠ b) (ha : w.heap[a.block]? = some (.cells ca ta (0, 0))) (hb : w.heap[b.block]? = some (.cells cb tb (0, 0))) :
    Calls Tryz.prog 43 #[.iface 227 (.pointer (some a)), .iface 227 (.pointer (some b))] w fun e w' => e = .returned (.bool false) ∧ w' = w := by
  obtain ⟨i, hi, hcmp⟩ := Option.map_eq_some_iff.1 Tryz.isComp
  obtain ⟨j, hj, hjs⟩ := Option.map_eq_some_iff.1 Tryz.isSize
  have h8 := @run_callFunc_extern Tryz.prog 73 _ Extern.ReflectliteType.typeOf Tryz.func73 (by kernel_rfl) (by kernel_rfl) (by kernel_rfl) (by kernel_rfl)
  have h32 := @run_callFunc_extern Tryz.prog 189 _ cmpEntry Tryz.func189 (by kernel_rfl) (by kernel_rfl) (by kernel_rfl) (by kernel_rfl)
  have tT := Tryz.isTypeOf
  have cT := Tryz.isComparable
  have mR := Tryz.isMethodComparable
  have nE := Tryz.noIsE
  have uE := Tryz.noUnwrapE
  have vE := Tryz.noUnwrapsE
  have heq := run_eql_iface_ptr_other (P := Tryz.prog) w Tryz.underlying31 Tryz.underlying227 hi hcmp hj (by rw [hjs]; decide) hne ha hb
  go_enter Tryz.func43, Tryz.ntmps43
  go_wp2
  refine wp_loop_rounds 1 ?_
  rw [rounds_succ]
  go_wp2
  go_ret
  exact ⟨rfl, rfl⟩

/-- errors.Is(f, x), f a Fault round x itself. -/
theorem is_fault_same (pb po : Nat) (b : Addr) (w : World) (h1 : w.cell? ⟨pb, po + 1, none⟩ = some (.iface 227 (.pointer (some b)))) :
    Calls Tryz.prog 43 #[.iface 73 (.pointer (some ⟨pb, po, none⟩)), .iface 227 (.pointer (some b))] w fun e w' => e = .returned (.bool true) ∧ w' = w := by
  obtain ⟨i, hi, hcmp⟩ := Option.map_eq_some_iff.1 Tryz.isComp
  obtain ⟨j, hj, hjs⟩ := Option.map_eq_some_iff.1 Tryz.isSize
  have h8 := @run_callFunc_extern Tryz.prog 73 _ Extern.ReflectliteType.typeOf Tryz.func73 (by kernel_rfl) (by kernel_rfl) (by kernel_rfl) (by kernel_rfl)
  have h32 := @run_callFunc_extern Tryz.prog 189 _ cmpEntry Tryz.func189 (by kernel_rfl) (by kernel_rfl) (by kernel_rfl) (by kernel_rfl)
  have tT := Tryz.isTypeOf
  have cT := Tryz.isComparable
  have mR := Tryz.isMethodComparable
  have nW := Tryz.noIsF
  have uW := Tryz.hasUnwrapF
  have mU := Tryz.methodUnwrap
  have heq := run_eql_iface_ptr_same (P := Tryz.prog) w b Tryz.underlying31 Tryz.underlying227 hi hcmp hj
  have hty := run_eql_iface_types (P := Tryz.prog) 73 227 (.pointer (some ⟨pb, po, none⟩)) (.pointer (some b)) Tryz.underlying31 (by decide) w
  go_enter Tryz.func43, Tryz.ntmps43
  go_wp2
  refine wp_loop_rounds 2 ?_
  rw [rounds_succ]
  go_wp2
  rw [rounds_succ]
  go_wp2
  go_ret
  exact ⟨rfl, rfl⟩

/-- errors.Is(f, x), f a Fault round another sentinel. -/
theorem is_fault_other (pb po : Nat) (b a : Addr) (ca cb : Array Value) (ta tb : TypeId) (w : World) (h1 : w.cell? ⟨pb, po + 1, none⟩ = some (.iface 227 (.pointer (some a)))) (hne : a ≠ b) (ha : w.heap[a.block]? = some (.cells ca ta (0, 0))) (hb : w.heap[b.block]? = some (.cells cb tb (0, 0))) :
    Calls Tryz.prog 43 #[.iface 73 (.pointer (some ⟨pb, po, none⟩)), .iface 227 (.pointer (some b))] w fun e w' => e = .returned (.bool false) ∧ w' = w := by
  obtain ⟨i, hi, hcmp⟩ := Option.map_eq_some_iff.1 Tryz.isComp
  obtain ⟨j, hj, hjs⟩ := Option.map_eq_some_iff.1 Tryz.isSize
  have h8 := @run_callFunc_extern Tryz.prog 73 _ Extern.ReflectliteType.typeOf Tryz.func73 (by kernel_rfl) (by kernel_rfl) (by kernel_rfl) (by kernel_rfl)
  have h32 := @run_callFunc_extern Tryz.prog 189 _ cmpEntry Tryz.func189 (by kernel_rfl) (by kernel_rfl) (by kernel_rfl) (by kernel_rfl)
  have tT := Tryz.isTypeOf
  have cT := Tryz.isComparable
  have mR := Tryz.isMethodComparable
  have nE := Tryz.noIsE
  have uE := Tryz.noUnwrapE
  have vE := Tryz.noUnwrapsE
  have nW := Tryz.noIsF
  have uW := Tryz.hasUnwrapF
  have mU := Tryz.methodUnwrap
  have heq := run_eql_iface_ptr_other (P := Tryz.prog) w Tryz.underlying31 Tryz.underlying227 hi hcmp hj (by rw [hjs]; decide) hne ha hb
  have hty := run_eql_iface_types (P := Tryz.prog) 73 227 (.pointer (some ⟨pb, po, none⟩)) (.pointer (some b)) Tryz.underlying31 (by decide) w
  go_enter Tryz.func43, Tryz.ntmps43
  go_wp2
  refine wp_loop_rounds 2 ?_
  rw [rounds_succ]
  go_wp2
  rw [rounds_succ]
  go_wp2
  go_ret
  exact ⟨rfl, rfl⟩

end Go.Proofs.YtbholbenjalliaaGreatDoor

namespace Go.Proofs.YtbholbenjalliaaGreatDoor
open Go.RowKit Go.Extern.Stop Go.Stop Go.Extern

theorem Tryz.valueOfPP (t : Addr) (w : World) : (ReflectliteValue.unpack (.iface 98 (.pointer (some t)))).run Tryz.prog w
    = .ok (.agg #[.pointer (some ⟨19, 98, none⟩), .pointer (some ⟨w.heap.size, 0, none⟩), .int .u64 150]) (w.alloc (.cells #[.pointer (some t)] 98)) := by kernel_rfl
/-- (Value).Type, (Type).Kind: the model's entries, under names of our own. -/
def typeEntry : Array Value → Sem Value := ReflectliteValue.methodAny (ReflectliteValue.valueError "reflectlite.Value.Type" 0) (fun t _ _ _ => ReflectliteType.toType t)
def kindEntry : Array Value → Sem Value := ReflectliteType.abiMethod fun t => do pure (.int .u8 (← Rtype.kind t))
def elemTEntry : Array Value → Sem Value := ReflectliteType.method ReflectliteType.elem
def implEntry : Array Value → Sem Value := ReflectliteType.relation "Implements" ReflectliteType.implements_
def assignEntry : Array Value → Sem Value := ReflectliteType.relation "AssignableTo" ReflectliteType.assignableTo
def isNilEntry : Array Value → Sem Value := ReflectliteValue.method (ReflectliteValue.valueError "reflectlite.Value.IsNil" 0) ReflectliteValue.isNil
def elemVEntry : Array Value → Sem Value := ReflectliteValue.method (ReflectliteValue.valueError "reflectlite.Value.Elem" 0) ReflectliteValue.elem
def setEntry : Array Value → Sem Value := ReflectliteValue.set
def valueOfEntry : Array Value → Sem Value := fun args => ReflectliteValue.unpack (args.getD 0 (.tuple #[]))
theorem valueOfEntry_eq (v : Value) : valueOfEntry #[v] = ReflectliteValue.unpack v := rfl

theorem Tryz.vOfPP (t : Addr) (w : World) : (valueOfEntry #[.iface 98 (.pointer (some t))]).run Tryz.prog w
    = .ok (.agg #[.pointer (some ⟨19, 98, none⟩), .pointer (some ⟨w.heap.size, 0, none⟩), .int .u64 150]) (w.alloc (.cells #[.pointer (some t)] 98)) := Tryz.valueOfPP t w
theorem Tryz.typePP (a : Addr) (w : World) : (typeEntry #[.agg #[.pointer (some ⟨19, 98, none⟩), .pointer (some a), .int .u64 150]]).run Tryz.prog w
    = .ok (.iface 165 (.agg #[.pointer (some ⟨19, 98, none⟩)])) w := by kernel_rfl
theorem Tryz.methodKind (h : Value) (w : World) : (Go.method 357 165 (.agg #[h]) "Kind").run Tryz.prog w = .ok (177, h) w := by kernel_rfl
theorem Tryz.kindPP (w : World) : (kindEntry #[.pointer (some ⟨19, 98, none⟩)]).run Tryz.prog w = .ok (.int .u8 22) w := by kernel_rfl
theorem Tryz.kindP (w : World) : (kindEntry #[.pointer (some ⟨19, 73, none⟩)]).run Tryz.prog w = .ok (.int .u8 22) w := by kernel_rfl

theorem rlm (z : Sem Value) (f : TypeId → Addr → Nat → Nat → Sem Value) (v : Value) :
    ReflectliteValue.method z f #[v] = (do match ← ReflectliteValue.parts v with | none => z | some (t, a, fl) => f t a fl (fl % 32)) := rfl
theorem Tryz.partsPP (a : Addr) (w : World) : (ReflectliteValue.parts (.agg #[.pointer (some ⟨19, 98, none⟩), .pointer (some a), .int .u64 150])).run Tryz.prog w = .ok (some (98, a, 150)) w := by kernel_rfl
theorem Tryz.isNilPP (a p : Addr) (W : World) (ha : W.cell? a = some (.pointer (some p))) :
    (isNilEntry #[.agg #[.pointer (some ⟨19, 98, none⟩), .pointer (some a), .int .u64 150]]).run Tryz.prog W = .ok (.bool false) W := by
  unfold isNilEntry
  rw [rlm]
  simp only [Sem.run_bind, Tryz.partsPP, Result.andThen]
  simp [ReflectliteValue.isNil, loadVar, isAgg, underlying, Tryz.underlying98, ha, Result.andThen]

theorem Tryz.methodElem (h : Value) (w : World) : (Go.method 357 165 (.agg #[h]) "Elem").run Tryz.prog w = .ok (190, .agg #[h]) w := by kernel_rfl
theorem Tryz.methodImplements (h : Value) (w : World) : (Go.method 357 165 (.agg #[h]) "Implements").run Tryz.prog w = .ok (191, .agg #[h]) w := by kernel_rfl
theorem Tryz.methodAssignableTo (h : Value) (w : World) : (Go.method 357 165 (.agg #[h]) "AssignableTo").run Tryz.prog w = .ok (188, .agg #[h]) w := by kernel_rfl
theorem Tryz.elemPP (w : World) : (elemTEntry #[.agg #[.pointer (some ⟨19, 98, none⟩)]]).run Tryz.prog w = .ok (.iface 165 (.agg #[.pointer (some ⟨19, 73, none⟩)])) w := by kernel_rfl
theorem Tryz.implementsP (w : World) : (implEntry #[.agg #[.pointer (some ⟨19, 73, none⟩)], .iface 165 (.agg #[.pointer (some ⟨19, 31, none⟩)])]).run Tryz.prog w = .ok (.bool true) w := by kernel_rfl
theorem Tryz.typeOfP (v : Value) (w : World) : (ReflectliteType.typeOf #[.iface 73 v]).run Tryz.prog w = .ok (.iface 165 (.agg #[.pointer (some ⟨19, 73, none⟩)])) w := by kernel_rfl
theorem Tryz.assignableP (w : World) : (assignEntry #[.agg #[.pointer (some ⟨19, 73, none⟩)], .iface 165 (.agg #[.pointer (some ⟨19, 73, none⟩)])]).run Tryz.prog w = .ok (.bool true) w := by kernel_rfl
theorem Tryz.assignableE (w : World) : (assignEntry #[.agg #[.pointer (some ⟨19, 227, none⟩)], .iface 165 (.agg #[.pointer (some ⟨19, 73, none⟩)])]).run Tryz.prog w = .ok (.bool false) w := by kernel_rfl
theorem Tryz.vOfP (e : Addr) (w : World) : (valueOfEntry #[.iface 73 (.pointer (some e))]).run Tryz.prog w
    = .ok (.agg #[.pointer (some ⟨19, 73, none⟩), .pointer (some ⟨w.heap.size, 0, none⟩), .int .u64 150]) (w.alloc (.cells #[.pointer (some e)] 73)) := by kernel_rfl
theorem Tryz.noAsE (v : Value) (xT : TypeId) (w : World) : (Instr.typeAssert (.iface 227 v) xT 169 true).run Tryz.prog w = .ok (.tuple #[.nilIface, .bool false]) w := run_typeAssert_lacksB Tryz.underlying169 (by kernel_rfl) (by kernel_rfl) v xT w

theorem Tryz.elemOfPP (w : World) : (Rtype.elem? 98).run Tryz.prog w = .ok (some 73) w := by kernel_rfl
theorem Tryz.mkP (p : Addr) (w : World) : (ReflectliteValue.mk 73 p ReflectliteValue.flagAddr).run Tryz.prog w = .ok (.agg #[.pointer (some ⟨19, 73, none⟩), .pointer (some p), .int .u64 406]) w := by kernel_rfl
theorem Tryz.elemVPP (a p : Addr) (W : World) (ha : W.cell? a = some (.pointer (some p))) :
    (elemVEntry #[.agg #[.pointer (some ⟨19, 98, none⟩), .pointer (some a), .int .u64 150]]).run Tryz.prog W
      = .ok (.agg #[.pointer (some ⟨19, 73, none⟩), .pointer (some p), .int .u64 406]) W := by
  unfold elemVEntry
  rw [rlm]
  simp only [Sem.run_bind, Tryz.partsPP, Result.andThen]
  simp [ReflectliteValue.elem, loadVar, isAgg, underlying, Tryz.underlying98, ha, Result.andThen, Tryz.elemOfPP, Tryz.mkP]
theorem rls (v x : Value) : ReflectliteValue.set #[v, x] = (do
    let (some (dst, a, fl), some (src, b, _)) := (← ReflectliteValue.parts v, ← ReflectliteValue.parts x)
      | unsupported (.noEntry "extern/(internal/reflectlite.Value).Set.zeroValue")
    if fl / ReflectliteValue.flagAddr % 2 == 0 then unsupported (.noEntry "extern/(internal/reflectlite.Value).Set.unaddressable")
    let val ← loadVar src b
    if ← Rtype.directlyAssignable dst src then storeVar dst a val
    else if ← Rtype.implements dst src then
      if (← Rtype.kind src) == 20 then
        match val with
        | .nilIface => unsupported (.noEntry "extern/reflectlite: a nil value of one interface type handed on as a value of another")
        | _ => storeVar dst a val
      else storeVar dst a (.iface src val)
    else panicString ("reflectlite.Set: value of type " ++ (← Rtype.spelt src) ++ " is not assignable to type " ++ (← Rtype.spelt dst))
    pure (.tuple #[])) := rfl
theorem Tryz.partsPa (a : Addr) (w : World) : (ReflectliteValue.parts (.agg #[.pointer (some ⟨19, 73, none⟩), .pointer (some a), .int .u64 406])).run Tryz.prog w = .ok (some (73, a, 406)) w := by kernel_rfl
theorem Tryz.partsP (a : Addr) (w : World) : (ReflectliteValue.parts (.agg #[.pointer (some ⟨19, 73, none⟩), .pointer (some a), .int .u64 150])).run Tryz.prog w = .ok (some (73, a, 150)) w := by kernel_rfl
theorem Tryz.directP (w : World) : (Rtype.directlyAssignable 73 73).run Tryz.prog w = .ok true w := by kernel_rfl
theorem Tryz.setP (ta b e : Addr) (old : Value) (W : World) (hb : W.cell? b = some (.pointer (some e))) (ht : W.cell? ta = some old) (hf : W.frozen? ta = false) :
    (setEntry #[.agg #[.pointer (some ⟨19, 73, none⟩), .pointer (some ta), .int .u64 406], .agg #[.pointer (some ⟨19, 73, none⟩), .pointer (some b), .int .u64 150]]).run Tryz.prog W
      = .ok (.tuple #[]) (W.setCell ta (.pointer (some e))) := by
  unfold setEntry
  rw [rls]
  simp only [Sem.run_bind, Tryz.partsPa, Tryz.partsP, Result.andThen]
  simp [ReflectliteValue.flagAddr, loadVar, isAgg, underlying, Tryz.underlying73, hb, Result.andThen, Tryz.directP, storeVar, Value.cells, storeCells, Addr.add]
  rw [run_store Tryz.prog W ta _ _ (by rfl)]
  simp [ht, hf]

set_option maxHeartbeats 4000000 in
/-- errors.As(f, &t), f a Fault. -/
theorem as_hit (e t : Addr) (old : Value) (w : World) (hg : w.cell? ⟨11, 0, none⟩ = some (.iface 165 (.agg #[.pointer (some ⟨19, 31, none⟩)]))) (ht0 : w.cell? t = some old) (hf0 : w.frozen? t = false) :
    Calls Tryz.prog 42 #[.iface 73 (.pointer (some e)), .iface 98 (.pointer (some t))] w fun ev w' => ev = .returned (.bool true) ∧ w' = ((((w.alloc (.cells #[.pointer (some t)] 98)).alloc (.cells #[.pointer (some ⟨19, 98, none⟩), .pointer (some ⟨w.heap.size, 0, none⟩), .int .u64 150] 129)).alloc (.cells #[.pointer (some ⟨19, 98, none⟩), .pointer (some ⟨w.heap.size, 0, none⟩), .int .u64 150] 129)).alloc (.cells #[.pointer (some e)] 73)).setCell t (.pointer (some e)) := by
  have h6 := @run_callFunc_extern Tryz.prog 69 _ valueOfEntry Tryz.func69 (by kernel_rfl) (by kernel_rfl) (by kernel_rfl) (by kernel_rfl)
  have h7 := @run_callFunc_extern Tryz.prog 70 _ typeEntry Tryz.func70 (by kernel_rfl) (by kernel_rfl) (by kernel_rfl) (by kernel_rfl)
  have h8 := @run_callFunc_extern Tryz.prog 71 _ isNilEntry Tryz.func71 (by kernel_rfl) (by kernel_rfl) (by kernel_rfl) (by kernel_rfl)
  have h27 := @run_callFunc_extern Tryz.prog 177 _ kindEntry Tryz.func177 (by kernel_rfl) (by kernel_rfl) (by kernel_rfl) (by kernel_rfl)
  have h37 := @run_callFunc_extern Tryz.prog 190 _ elemTEntry Tryz.func190 (by kernel_rfl) (by kernel_rfl) (by kernel_rfl) (by kernel_rfl)
  have h38 := @run_callFunc_extern Tryz.prog 191 _ implEntry Tryz.func191 (by kernel_rfl) (by kernel_rfl) (by kernel_rfl) (by kernel_rfl)
  have h10 := @run_callFunc_extern Tryz.prog 73 _ ReflectliteType.typeOf Tryz.func73 (by kernel_rfl) (by kernel_rfl) (by kernel_rfl) (by kernel_rfl)
  have h35 := @run_callFunc_extern Tryz.prog 188 _ assignEntry Tryz.func188 (by kernel_rfl) (by kernel_rfl) (by kernel_rfl) (by kernel_rfl)
  have h11 := @run_callFunc_extern Tryz.prog 118 _ elemVEntry Tryz.func118 (by kernel_rfl) (by kernel_rfl) (by kernel_rfl) (by kernel_rfl)
  have h12 := @run_callFunc_extern Tryz.prog 119 _ setEntry Tryz.func119 (by kernel_rfl) (by kernel_rfl) (by kernel_rfl) (by kernel_rfl)
  have tO := Tryz.typeOfP
  have mA := Tryz.methodAssignableTo
  have a25 := Tryz.assignableP
  have v25 := Tryz.vOfP
  have f6 := Tryz.vOfPP
  have f7 := Tryz.typePP
  have mK := Tryz.methodKind
  have mE := Tryz.methodElem
  have mI := Tryz.methodImplements
  have k27 := Tryz.kindPP
  have k25 := Tryz.kindP
  have e27 := Tryz.elemPP
  have i25 := Tryz.implementsP
  have n8 := Tryz.isNilPP ⟨w.heap.size, 0, none⟩ t ((w.alloc (.cells #[.pointer (some t)] 98)).alloc (.cells #[.pointer (some ⟨19, 98, none⟩), .pointer (some ⟨w.heap.size, 0, none⟩), .int .u64 150] 129)) (by simp)
  have hlt := block_lt hg
  have hg2 : ((w.alloc (.cells #[.pointer (some t)] 98)).alloc (.cells #[.pointer (some ⟨19, 98, none⟩), .pointer (some ⟨w.heap.size, 0, none⟩), .int .u64 150] 129)).cell? ⟨11, 0, none⟩ = some (.iface 165 (.agg #[.pointer (some ⟨19, 31, none⟩)])) := by
    rw [World.cell?_alloc_lt _ _ ⟨11, 0, none⟩ (by simp; simp at hlt; omega), World.cell?_alloc_lt _ _ ⟨11, 0, none⟩ hlt]; exact hg
  have htl := block_lt ht0
  have el := Tryz.elemVPP ⟨w.heap.size, 0, none⟩ t (((w.alloc (.cells #[.pointer (some t)] 98)).alloc (.cells #[.pointer (some ⟨19, 98, none⟩), .pointer (some ⟨w.heap.size, 0, none⟩), .int .u64 150] 129)).alloc (.cells #[.pointer (some ⟨19, 98, none⟩), .pointer (some ⟨w.heap.size, 0, none⟩), .int .u64 150] 129)) (by rw [World.cell?_alloc_lt _ _ ⟨w.heap.size, 0, none⟩ (by simp; omega)]; simp)
  have st := Tryz.setP t ⟨w.heap.size + 1 + 1 + 1, 0, none⟩ e old ((((w.alloc (.cells #[.pointer (some t)] 98)).alloc (.cells #[.pointer (some ⟨19, 98, none⟩), .pointer (some ⟨w.heap.size, 0, none⟩), .int .u64 150] 129)).alloc (.cells #[.pointer (some ⟨19, 98, none⟩), .pointer (some ⟨w.heap.size, 0, none⟩), .int .u64 150] 129)).alloc (.cells #[.pointer (some e)] 73))
    (by rw [World.cell?_alloc_at _ _ _ _ (by simp)]; rfl)
    (by rw [World.cell?_alloc_lt _ _ t (by simp; omega), World.cell?_alloc_lt _ _ t (by simp; omega), World.cell?_alloc_lt _ _ t (by simp; omega), World.cell?_alloc_lt _ _ t htl]; exact ht0)
    (by rw [World.frozen?_alloc_old _ _ t (by simp; omega), World.frozen?_alloc_old _ _ t (by simp; omega), World.frozen?_alloc_old _ _ t (by simp; omega), World.frozen?_alloc_old _ _ t (Nat.ne_of_lt htl)]; exact hf0)
  go_enter Tryz.func42, Tryz.ntmps42
  go_wp2
  refine wp_loop_rounds 1 ?_
  rw [rounds_succ]
  go_wp2
  go_ret
  exact ⟨rfl, rfl⟩

set_option maxHeartbeats 4000000 in
/-- errors.As(x, &t), x a sentinel. -/
theorem as_miss (e t : Addr) (w : World) (hg : w.cell? ⟨11, 0, none⟩ = some (.iface 165 (.agg #[.pointer (some ⟨19, 31, none⟩)]))) :
    Calls Tryz.prog 42 #[.iface 227 (.pointer (some e)), .iface 98 (.pointer (some t))] w fun ev w' => ev = .returned (.bool false) ∧ Below w.heap.size w w' := by
  have h6 := @run_callFunc_extern Tryz.prog 69 _ valueOfEntry Tryz.func69 (by kernel_rfl) (by kernel_rfl) (by kernel_rfl) (by kernel_rfl)
  have h7 := @run_callFunc_extern Tryz.prog 70 _ typeEntry Tryz.func70 (by kernel_rfl) (by kernel_rfl) (by kernel_rfl) (by kernel_rfl)
  have h8 := @run_callFunc_extern Tryz.prog 71 _ isNilEntry Tryz.func71 (by kernel_rfl) (by kernel_rfl) (by kernel_rfl) (by kernel_rfl)
  have h27 := @run_callFunc_extern Tryz.prog 177 _ kindEntry Tryz.func177 (by kernel_rfl) (by kernel_rfl) (by kernel_rfl) (by kernel_rfl)
  have h37 := @run_callFunc_extern Tryz.prog 190 _ elemTEntry Tryz.func190 (by kernel_rfl) (by kernel_rfl) (by kernel_rfl) (by kernel_rfl)
  have h38 := @run_callFunc_extern Tryz.prog 191 _ implEntry Tryz.func191 (by kernel_rfl) (by kernel_rfl) (by kernel_rfl) (by kernel_rfl)
  have h10 := @run_callFunc_extern Tryz.prog 73 _ ReflectliteType.typeOf Tryz.func73 (by kernel_rfl) (by kernel_rfl) (by kernel_rfl) (by kernel_rfl)
  have h35 := @run_callFunc_extern Tryz.prog 188 _ assignEntry Tryz.func188 (by kernel_rfl) (by kernel_rfl) (by kernel_rfl) (by kernel_rfl)
  have tO := Tryz.isTypeOf
  have mA := Tryz.methodAssignableTo
  have aE := Tryz.assignableE
  have f6 := Tryz.vOfPP
  have f7 := Tryz.typePP
  have mK := Tryz.methodKind
  have mE := Tryz.methodElem
  have mI := Tryz.methodImplements
  have k27 := Tryz.kindPP
  have k25 := Tryz.kindP
  have e27 := Tryz.elemPP
  have i25 := Tryz.implementsP
  have nA := Tryz.noAsE
  have uE := Tryz.noUnwrapE
  have vE := Tryz.noUnwrapsE
  have n8 := Tryz.isNilPP ⟨w.heap.size, 0, none⟩ t ((w.alloc (.cells #[.pointer (some t)] 98)).alloc (.cells #[.pointer (some ⟨19, 98, none⟩), .pointer (some ⟨w.heap.size, 0, none⟩), .int .u64 150] 129)) (by simp)
  have hlt := block_lt hg
  have hg2 : ((w.alloc (.cells #[.pointer (some t)] 98)).alloc (.cells #[.pointer (some ⟨19, 98, none⟩), .pointer (some ⟨w.heap.size, 0, none⟩), .int .u64 150] 129)).cell? ⟨11, 0, none⟩ = some (.iface 165 (.agg #[.pointer (some ⟨19, 31, none⟩)])) := by
    rw [World.cell?_alloc_lt _ _ ⟨11, 0, none⟩ (by simp; simp at hlt; omega), World.cell?_alloc_lt _ _ ⟨11, 0, none⟩ hlt]; exact hg
  go_enter Tryz.func42, Tryz.ntmps42
  go_wp2
  refine wp_loop_rounds 1 ?_
  rw [rounds_succ]
  go_wp2
  go_ret
  exact ⟨rfl, (((Below.refl _ _).alloc (Nat.le_refl _) _).alloc (by simp) _).alloc (by simp; omega) _⟩
end Go.Proofs.YtbholbenjalliaaGreatDoor

namespace Go.Proofs.YtbholbenjalliaaGreatDoor
open Go.RowKit Go.Extern.Stop Go.Stop Go.Extern

/-- The eleven sentinels (at A 0 .. A 10) and errors.errorType, as start-up lays them. -/
structure Senv (A : Nat → Addr) (w : World) : Prop where
  c0 : w.cell? ⟨1, 0, none⟩ = some (.iface 227 (.pointer (some (A 0))))
  c1 : w.cell? ⟨0, 0, none⟩ = some (.iface 227 (.pointer (some (A 1))))
  c2 : w.cell? ⟨2, 0, none⟩ = some (.iface 227 (.pointer (some (A 2))))
  c3 : w.cell? ⟨3, 0, none⟩ = some (.iface 227 (.pointer (some (A 3))))
  c4 : w.cell? ⟨4, 0, none⟩ = some (.iface 227 (.pointer (some (A 4))))
  c5 : w.cell? ⟨5, 0, none⟩ = some (.iface 227 (.pointer (some (A 5))))
  c6 : w.cell? ⟨6, 0, none⟩ = some (.iface 227 (.pointer (some (A 6))))
  c7 : w.cell? ⟨7, 0, none⟩ = some (.iface 227 (.pointer (some (A 7))))
  c8 : w.cell? ⟨8, 0, none⟩ = some (.iface 227 (.pointer (some (A 8))))
  c9 : w.cell? ⟨9, 0, none⟩ = some (.iface 227 (.pointer (some (A 9))))
  c10 : w.cell? ⟨10, 0, none⟩ = some (.iface 227 (.pointer (some (A 10))))
  et : w.cell? ⟨11, 0, none⟩ = some (.iface 165 (.agg #[.pointer (some ⟨19, 31, none⟩)]))
  row : ∀ i, i < 11 → ∃ c t, w.heap[(A i).block]? = some (.cells c t (0, 0))
  ne : ∀ i j, i < 11 → j < 11 → i ≠ j → A i ≠ A j

theorem Senv.below {A : Nat → Addr} {w w' : World} (h : Senv A w) (hb : Below w.heap.size w w') : Senv A w' :=
  ⟨cell_below hb h.c0, cell_below hb h.c1, cell_below hb h.c2, cell_below hb h.c3, cell_below hb h.c4, cell_below hb h.c5, cell_below hb h.c6, cell_below hb h.c7, cell_below hb h.c8, cell_below hb h.c9, cell_below hb h.c10, cell_below hb h.et,
    fun i hi => by obtain ⟨c, t, e⟩ := h.row i hi; exact ⟨c, t, row_below hb e⟩, h.ne⟩

theorem Senv.alloc {A : Nat → Addr} {w : World} (h : Senv A w) (o : Obj) : Senv A (w.alloc o) := h.below ((Below.refl _ _).alloc (Nat.le_refl _) _)

theorem is_same' (a b : Addr) (w : World) (h : a = b) :
    Calls Tryz.prog 43 #[.iface 227 (.pointer (some a)), .iface 227 (.pointer (some b))] w fun e w' => e = .returned (.bool true) ∧ w' = w := by
  subst h; exact is_same a w

/-- The list that Code makes, cell by cell. -/
def errCells (A : Nat → Addr) : Array Value := #[.iface 227 (.pointer (some (A 0))), .iface 227 (.pointer (some (A 1))), .iface 227 (.pointer (some (A 2))), .iface 227 (.pointer (some (A 3))), .iface 227 (.pointer (some (A 4))), .iface 227 (.pointer (some (A 5))), .iface 227 (.pointer (some (A 6))), .iface 227 (.pointer (some (A 7))), .iface 227 (.pointer (some (A 8))), .iface 227 (.pointer (some (A 9))), .iface 227 (.pointer (some (A 10)))]

theorem errCells_at (A : Nat → Addr) (w : World) (k : Nat) (hk : k < 11) : (w.alloc (.cells (errCells A) 31)).cell? ⟨w.heap.size, k, none⟩ = some (.iface 227 (.pointer (some (A k)))) := by
  rw [World.cell?_alloc_at _ _ _ _ rfl]
  match k, hk with
  | 0, _ => rfl
  | 1, _ => rfl
  | 2, _ => rfl
  | 3, _ => rfl
  | 4, _ => rfl
  | 5, _ => rfl
  | 6, _ => rfl
  | 7, _ => rfl
  | 8, _ => rfl
  | 9, _ => rfl
  | 10, _ => rfl

theorem ret2 {k l : IntKind} {a b c d : Int} (h : a = c) (h' : b = d) : Ending.returned (.tuple #[.int k a, .int l b]) = .returned (.tuple #[.int k c, .int l d]) := by rw [h, h']

/-- Code(nil). -/
theorem code_nil (w : World) : Calls Tryz.prog 24 #[.nilIface] w fun e w' => e = .returned (.tuple #[.int .i64 0, .int .i64 (-1)]) ∧ w' = w := by
  go_enter Tryz.func24, Tryz.ntmps24
  go_wp2
  go_ret2
  exact ⟨rfl, rfl⟩

set_option maxHeartbeats 1000000 in
theorem code_errs (A : Nat → Addr) (a : Addr) (j : Nat) (ca : Array Value) (ta : TypeId) (w : World) (hs : Senv A w) (hj : j ≤ 11) (hlt : ∀ i, i < j → a ≠ A i) (hit : j < 11 → a = A j) (ha : w.heap[a.block]? = some (.cells ca ta (0, 0))) :
    Calls Tryz.prog 24 #[.iface 227 (.pointer (some a))] w fun e w' => e = .returned (.tuple #[.int .i64 (if j < 11 then (j : Int) + 1 else -1), .int .i64 (-1)]) ∧ Below w.heap.size w w' := by
  have hs1 := hs.alloc (.cells #[.pointer none] 73)
  go_enter Tryz.func24, Tryz.ntmps24
  go_wp2_with fail
  refine (as_miss _ _ _ hs1.et).mono ?_
  rintro e w2 ⟨rfl, hb⟩
  obtain ⟨c0, c1, c2, c3, c4, c5, c6, c7, c8, c9, c10, -, hrow, -⟩ := hs1.below hb
  have ha2 := row_below hb (row_below ((Below.refl w.heap.size w).alloc (Nat.le_refl _) (.cells #[.pointer none] 73)) ha)
  have hb1 : Below w.heap.size w w2 := ((Below.refl w.heap.size w).alloc (Nat.le_refl _) _).trans (hb.mono (by simp))
  clear hs hs1 hb ha
  have hcell := errCells_at A w2
  have hrow3 : ∀ i, i < 11 → ∃ c t, (w2.alloc (.cells (errCells A) 31)).heap[(A i).block]? = some (.cells c t (0, 0)) := fun i hi => by
    obtain ⟨c, t, e⟩ := hrow i hi
    exact ⟨c, t, row_below ((Below.refl w2.heap.size w2).alloc (Nat.le_refl _) _) e⟩
  have ha3 := row_below ((Below.refl w2.heap.size w2).alloc (Nat.le_refl _) (.cells (errCells A) 31)) ha2
  have hb3 : Below w.heap.size w (w2.alloc (.cells (errCells A) 31)) := hb1.alloc hb1.size _
  unfold errCells at hcell hrow3 ha3 hb3
  go_wp2_with fail
  clear c0 c1 c2 c3 c4 c5 c6 c7 c8 c9 c10 hrow ha2 hb1
  go_loop [3, 29] (fun at3 i => at3 = .int .i64 (-1) ∧ ∃ k : Nat, k ≤ j ∧ i = .int .i64 k) (fun _ i => 11 - (intOf i).toNat)
  case atStart => exact ⟨rfl, 0, Nat.zero_le _, rfl⟩
  case round =>
    obtain ⟨rfl, k, hk, rfl⟩ := hrel
    by_cases hkj : k < j
    · have hne := hlt k hkj
      have h11 : k < 11 := by omega
      obtain ⟨cb, tb, hrk⟩ := hrow3 k h11
      have hck := hcell k h11
      clear hlt hit hrow3 hcell
      go_wp2_with fail
      refine (is_other _ _ ca cb ta tb _ hne ha3 hrk).mono ?_
      rintro e w' ⟨rfl, rfl⟩
      go_wp2
      go_round
      case rel => exact ⟨rfl, k + 1, by omega, by go_num⟩
      case measure => simp [intOf]; omega
    · have hkj2 : k = j := by omega
      by_cases h11 : k < 11
      · have hsame : a = A k := by rw [hkj2]; exact hit (by omega)
        have HS : Hid (a = A k) := hsame
        have HJ : Hid (k = j) := hkj2
        have hck := hcell k h11
        clear hlt hit hrow3 hcell hsame hkj2
        go_wp2_with fail
        refine (is_same' _ _ _ HS.out).mono ?_
        rintro e w' ⟨rfl, rfl⟩
        go_wp2
        go_ret2
        exact ⟨ret2 (by have hj' := HJ.out; first | omega | (rw [if_pos (by omega)]; omega)) rfl, hb3⟩
      · have HJ : Hid (k = j) := hkj2
        clear hlt hit hrow3 hcell hkj2
        go_wp2
        go_ret2
        exact ⟨ret2 (by have hj' := HJ.out; first | omega | (rw [if_neg (by omega)])) rfl, hb3⟩
set_option maxHeartbeats 1000000 in
theorem code_faults (A : Nat → Addr) (pb po : Nat) (n : Int) (j : Nat) (w : World) (hs : Senv A w) (hj : j < 11) (hn : w.cell? ⟨pb, po, none⟩ = some (.int .i64 n)) (he : w.cell? ⟨pb, po + 1, none⟩ = some (.iface 227 (.pointer (some (A j))))) :
    Calls Tryz.prog 24 #[.iface 73 (.pointer (some ⟨pb, po, none⟩))] w fun e w' => e = .returned (.tuple #[.int .i64 ((j : Int) + 1), .int .i64 n]) ∧ Below w.heap.size w w' := by
  have hs1 := hs.alloc (.cells #[.pointer none] 73)
  go_enter Tryz.func24, Tryz.ntmps24
  have hpl := block_lt hn
  have ht1 : (w.alloc (.cells #[.pointer none] 73)).cell? ⟨w.heap.size, 0, none⟩ = some (.pointer none) := by simp
  have hf1 : (w.alloc (.cells #[.pointer none] 73)).frozen? ⟨w.heap.size, 0, none⟩ = false := by simp
  go_wp2_with fail
  refine (as_hit _ _ _ _ hs1.et ht1 hf1).mono ?_
  rintro e w2 ⟨rfl, hw2⟩
  have hb1 : Below w.heap.size w w2 := by
    rw [hw2]
    refine Below.setCell ?_ (by simp) _
    refine Below.alloc (Below.alloc (Below.alloc (Below.alloc (Below.alloc (Below.refl _ _) (Nat.le_refl _) _) (by simp) _) (by simp; omega) _) (by simp; omega) _) (by simp; omega) _
  have hcf : w2.cell? ⟨w.heap.size, 0, none⟩ = some (.pointer (some ⟨pb, po, none⟩)) := by
    rw [hw2]
    refine World.cell?_setCell_same _ _ _ (u := .pointer none) ?_
    rw [World.cell?_alloc_lt _ _ ⟨w.heap.size, 0, none⟩ (by simp; omega), World.cell?_alloc_lt _ _ ⟨w.heap.size, 0, none⟩ (by simp; omega), World.cell?_alloc_lt _ _ ⟨w.heap.size, 0, none⟩ (by simp; omega), World.cell?_alloc_lt _ _ ⟨w.heap.size, 0, none⟩ (by simp)]
    exact ht1
  obtain ⟨c0, c1, c2, c3, c4, c5, c6, c7, c8, c9, c10, -, hrow, hnes⟩ := hs.below hb1
  have hn2 := cell_below hb1 hn
  have he2 := cell_below hb1 he
  clear hs hs1 hn he ht1 hf1 hw2
  have hcell := errCells_at A w2
  have hrow3 : ∀ i, i < 11 → ∃ c t, (w2.alloc (.cells (errCells A) 31)).heap[(A i).block]? = some (.cells c t (0, 0)) := fun i hi => by
    obtain ⟨c, t, e⟩ := hrow i hi
    exact ⟨c, t, row_below ((Below.refl w2.heap.size w2).alloc (Nat.le_refl _) _) e⟩
  have he3 := cell_below ((Below.refl w2.heap.size w2).alloc (Nat.le_refl _) (.cells (errCells A) 31)) he2
  have hb3 : Below w.heap.size w (w2.alloc (.cells (errCells A) 31)) := hb1.alloc hb1.size _
  unfold errCells at hcell hrow3 he3 hb3
  go_wp2_with fail
  clear c0 c1 c2 c3 c4 c5 c6 c7 c8 c9 c10 hrow hn2 he2 hcf hb1
  go_loop [3, 29] (fun at3 i => at3 = .int .i64 n ∧ ∃ k : Nat, k ≤ j ∧ i = .int .i64 k) (fun _ i => 11 - (intOf i).toNat)
  case atStart => exact ⟨rfl, 0, Nat.zero_le _, rfl⟩
  case round =>
    obtain ⟨rfl, k, hk, rfl⟩ := hrel
    by_cases hkj : k < j
    · have h11 : k < 11 := by omega
      have hne := hnes j k hj h11 (by omega)
      obtain ⟨ca, ta, ha3⟩ := hrow3 j hj
      obtain ⟨cb, tb, hrk⟩ := hrow3 k h11
      have hck := hcell k h11
      clear hnes hrow3 hcell
      go_wp2_with fail
      refine (is_fault_other _ _ _ _ ca cb ta tb _ he3 hne ha3 hrk).mono ?_
      rintro e w' ⟨rfl, rfl⟩
      go_wp2
      go_round
      case rel => exact ⟨rfl, k + 1, by omega, by go_num⟩
      case measure => simp [intOf]; omega
    · have hkj2 : k = j := by omega
      have HJ : Hid (k = j) := hkj2
      have h11 : k < 11 := by omega
      have hck := hcell k h11
      rw [← hkj2] at he3
      clear hnes hrow3 hcell hkj2
      go_wp2_with fail
      refine (is_fault_same _ _ _ _ he3).mono ?_
      rintro e w' ⟨rfl, rfl⟩
      go_wp2
      go_ret2
      exact ⟨ret2 (by have hj' := HJ.out; omega) rfl, hb3⟩

/-- coded(err, code), by Code's own answer. -/
theorem coded_of {err : Value} {code c n : Int} {w : World} {Q : World → Prop} (h : Calls Tryz.prog 24 #[err] w fun e w' => e = .returned (.tuple #[.int .i64 c, .int .i64 n]) ∧ Q w') :
    Calls Tryz.prog 14 #[err, .int .i64 code] w fun e w' => e = .returned (.bool (decide (c = code ∧ n = -1))) ∧ Q w' := by
  by_cases h1 : c = code
  · by_cases h2 : n = -1
    all_goals
      go_enter Tryz.func14, Tryz.ntmps14
      go_wp2_with fail
      refine h.mono ?_
      rintro e w' ⟨rfl, hq⟩
      go_wp2
      go_ret
      exact ⟨by simp [h1, h2], hq⟩
  · go_enter Tryz.func14, Tryz.ntmps14
    go_wp2_with fail
    refine h.mono ?_
    rintro e w' ⟨rfl, hq⟩
    go_wp2
    go_ret
    exact ⟨by simp [h1], hq⟩
/-- coded(sentinel j, code). -/
theorem coded_sent (A : Nat → Addr) (j : Nat) (code : Int) (w : World) (hs : Senv A w) (hj : j < 11) :
    Calls Tryz.prog 14 #[.iface 227 (.pointer (some (A j))), .int .i64 code] w fun e w' => e = .returned (.bool (decide ((j : Int) + 1 = code))) ∧ Below w.heap.size w w' := by
  obtain ⟨c, t, hr⟩ := hs.row j hj
  refine (coded_of (code := code) (code_errs A (A j) j c t w hs (by omega) (fun i hi => hs.ne j i hj (by omega) (by omega)) (fun _ => rfl) hr)).mono ?_
  rintro e w' ⟨rfl, hb⟩
  refine ⟨?_, hb⟩
  rw [if_pos hj]
  simp

/-- coded(nil, code). -/
theorem coded_nil (code : Int) (w : World) :
    Calls Tryz.prog 14 #[.nilIface, .int .i64 code] w fun e w' => e = .returned (.bool (decide (0 = code))) ∧ w' = w := by
  refine (coded_of (code := code) (code_nil w)).mono ?_
  rintro e w' ⟨rfl, hb⟩
  exact ⟨by simp, hb⟩
end Go.Proofs.YtbholbenjalliaaGreatDoor

namespace Go.Proofs.YtbholbenjalliaaGreatDoor
open Go

def dstOf (ops : Array Oper) (j : Nat) : Option Tmp := (ops[j]?).bind (·.dst)

/-- The frame with the values of those operations that have come up. -/
def fill (ops : Array Oper) (a0 : Act) (vals : Nat → Option Value) : Nat → Act
  | 0 => a0
  | k + 1 => match vals k with
    | none => fill ops a0 vals k
    | some v => (fill ops a0 vals k).put (dstOf ops k) v

/-- One value more. -/
def upd (vals : Nat → Option Value) (i : Nat) (v : Value) : Nat → Option Value := fun j => if j = i then some v else vals j

def Distinct (ops : Array Oper) : Prop := ∀ i j d, i ≠ j → dstOf ops i = some d → dstOf ops j ≠ some d

theorem fill_size (ops : Array Oper) (a0 : Act) (vals : Nat → Option Value) : ∀ k, (fill ops a0 vals k).tmps.size = a0.tmps.size := by
  intro k
  induction k with
  | zero => rfl
  | succ k ih =>
    unfold fill
    split
    · exact ih
    · cases dstOf ops k <;> simp [Act.put, ih]

theorem fill_other (ops : Array Oper) (a0 : Act) (vals : Nat → Option Value) (d : Tmp) : ∀ k, (∀ j, j < k → dstOf ops j ≠ some d) → (fill ops a0 vals k).eval (.tmp d) = a0.eval (.tmp d) := by
  intro k
  induction k with
  | zero => intro _; rfl
  | succ k ih =>
    intro h
    unfold fill
    split
    · exact ih (fun j hj => h j (by omega))
    · rw [Act.eval_put (fun e he hx => h k (by omega) (by rw [he]; cases hx; rfl))]
      exact ih (fun j hj => h j (by omega))

theorem fill_at (ops : Array Oper) (a0 : Act) (vals : Nat → Option Value) (hd : Distinct ops) (j : Nat) (d : Tmp) (v : Value) (hj : vals j = some v) (hdst : dstOf ops j = some d) (hlt : d < a0.tmps.size) : ∀ k, j < k → (fill ops a0 vals k).eval (.tmp d) = v := by
  intro k
  induction k with
  | zero => intro h; omega
  | succ k ih =>
    intro h
    unfold fill
    by_cases e : j = k
    · subst e
      rw [hj]
      have hs := fill_size ops a0 vals j
      simp only [hdst, Act.put, Act.eval]
      simp [hs, hlt]
    · have hk := ih (by omega)
      split
      · exact hk
      · rw [Act.eval_put (fun e2 he hx => hd j k d e hdst (by rw [he]; cases hx; rfl))]
        exact hk

theorem fill_upd_out (ops : Array Oper) (a0 : Act) (vals : Nat → Option Value) (i : Nat) (v : Value) : ∀ k, k ≤ i → fill ops a0 (upd vals i v) k = fill ops a0 vals k := by
  intro k
  induction k with
  | zero => intro _; rfl
  | succ k ih =>
    intro h
    have e : upd vals i v k = vals k := by simp [upd]; omega
    unfold fill
    rw [e, ih (by omega)]

theorem fill_upd (ops : Array Oper) (a0 : Act) (vals : Nat → Option Value) (hd : Distinct ops) (i : Nat) (v : Value) (hi : vals i = none) : ∀ k, i < k → fill ops a0 (upd vals i v) k = (fill ops a0 vals k).put (dstOf ops i) v := by
  intro k
  induction k with
  | zero => intro h; omega
  | succ k ih =>
    intro h
    by_cases e : i = k
    · subst e
      have e1 : upd vals i v i = some v := by simp [upd]
      have e2 := fill_upd_out ops a0 vals i v i (Nat.le_refl _)
      simp only [fill, e1, hi, e2]
    · have e1 : upd vals i v k = vals k := by simp [upd, Ne.symm e]
      have hk := ih (by omega)
      simp only [fill, e1, hk]
      cases hv : vals k with
      | none => rfl
      | some u => exact (Act.put_comm _ v u (fun d hdi => hd i k d e hdi))

def cnt (vals : Nat → Option Value) : Nat → Nat
  | 0 => 0
  | k + 1 => cnt vals k + (if (vals k).isNone then 1 else 0)
theorem cnt_upd_out (vals : Nat → Option Value) (i : Nat) (v : Value) : ∀ k, k ≤ i → cnt (upd vals i v) k = cnt vals k := by
  intro k
  induction k with
  | zero => intro _; rfl
  | succ k ih => intro h; have e : upd vals i v k = vals k := by simp [upd]; omega
                 simp only [cnt, e, ih (by omega)]
theorem cnt_upd (vals : Nat → Option Value) (i : Nat) (v : Value) (hi : vals i = none) : ∀ k, i < k → cnt (upd vals i v) k + 1 = cnt vals k := by
  intro k
  induction k with
  | zero => intro h; omega
  | succ k ih =>
    intro h
    by_cases e : i = k
    · subst e
      have e1 : upd vals i v i = some v := by simp [upd]
      simp only [cnt, e1, hi, cnt_upd_out vals i v i (Nat.le_refl _)]
      simp
    · have e1 : upd vals i v k = vals k := by simp [upd, Ne.symm e]
      have := ih (by omega)
      simp only [cnt, e1]
      omega
theorem cnt_zero (vals : Nat → Option Value) : ∀ k, cnt vals k = 0 → ∀ j, j < k → (vals j).isSome = true := by
  intro k
  induction k with
  | zero => intro _ j h; omega
  | succ k ih =>
    intro h j hj
    simp only [cnt] at h
    by_cases e : j = k
    · subst e
      cases hv : vals j with
      | none => simp [hv] at h
      | some v => rfl
    · exact ih (by omega) j (by omega)

/-- What one operation's run must come to. -/
def goodRun (P : Program) (S : Nat → Value → World → Prop) (C : World → Prop) (i : Nat) (w : World) : Result Next → Prop
  | .ok (.value u) w' => C w' ∧ (∀ j v, S j v w → S j v w') ∧ S i u w'
  | .ok .skip w' => C w' ∧ (∀ j v, S j v w → S j v w') ∧ S i undef w'
  | .ok (.enter f args) w' => Calls P f args w' fun e w'' => ∃ v, e = .returned v ∧ C w'' ∧ (∀ j v, S j v w → S j v w'') ∧ S i v w''
  | _ => False

section
variable {P : Program} {ops : Array Oper} {Q : Exit → Act → World → Prop} {md : Region.Mode} {S : Nat → Value → World → Prop} {C : World → Prop} {a0 : Act}

/-- What must be shown of each operation. -/
def StepOk (P : Program) (md : Region.Mode) (ops : Array Oper) (S : Nat → Value → World → Prop) (C : World → Prop) (a0 : Act) (i : Nat) (o : Oper) : Prop :=
  ∀ (a : Act) (w : World), C w → a.tmps.size = a0.tmps.size → (∀ e d, e ∈ o.after → Region.binds md e = true → dstOf ops e.on = some d → S e.on (a.eval (.tmp d)) w) →
    (∀ d, (∀ j, dstOf ops j ≠ some d) → a.eval (.tmp d) = a0.eval (.tmp d)) →
    if Region.wanted o (yielded ops a.tmps) = true then goodRun P S C i w ((execOp a.eval o).run P w) else S i undef w

theorem wpAny_spec (hd : Distinct ops) (hin : ∀ j d, dstOf ops j = some d → d < a0.tmps.size)
    (hback : ∀ i o, ops[i]? = some o → ∀ e, e ∈ o.after → Region.binds md e = true → e.on < i)
    (step : ∀ i o, ops[i]? = some o → StepOk P md ops S C a0 i o)
    (fin : ∀ (vals : Nat → Value) (w : World), C w → (∀ j, j < ops.size → S j (vals j) w) → Q .normal (fill ops a0 (fun j => some (vals j)) ops.size) w) :
    ∀ (fuel : Nat) (listed : Array Bool) (vals : Nat → Option Value) (w : World), listed.size = ops.size → (∀ j, j < ops.size → listed.getD j true = (vals j).isSome) → C w →
      (∀ j v, vals j = some v → S j v w) → cnt vals ops.size ≤ fuel → wpAny P md ops Q fuel listed (fill ops a0 vals ops.size) w := by
  have hfin : ∀ (vals : Nat → Option Value) (w : World), C w → (∀ j v, vals j = some v → S j v w) → (∀ j, j < ops.size → (vals j).isSome = true) → Q .normal (fill ops a0 vals ops.size) w := by
    intro vals w hC hS hall
    have e : fill ops a0 vals ops.size = fill ops a0 (fun j => some ((vals j).getD undef)) ops.size := by
      have : ∀ k, k ≤ ops.size → fill ops a0 vals k = fill ops a0 (fun j => some ((vals j).getD undef)) k := by
        intro k
        induction k with
        | zero => intro _; rfl
        | succ k ih =>
          intro hk
          have hs := hall k (by omega)
          cases hv : vals k with
          | none => rw [hv] at hs; cases hs
          | some v => simp only [fill, hv, Option.getD_some, ih (by omega)]
      exact this _ (Nat.le_refl _)
    rw [e]
    refine fin (fun j => (vals j).getD undef) w hC (fun j hj => ?_)
    have hs := hall j hj
    cases hv : vals j with
    | none => rw [hv] at hs; cases hs
    | some v => exact hS j v hv
  have hready : ∀ (listed : Array Bool) (vals : Nat → Option Value), listed.size = ops.size → (∀ j, j < ops.size → listed.getD j true = (vals j).isSome) → Region.ready md ops listed = [] → ∀ j, j < ops.size → (vals j).isSome = true := by
    intro listed vals hsz hl hr j
    induction j using Nat.strongRecOn with
    | ind j ih =>
      intro hj
      cases hv : (vals j).isSome with
      | true => rfl
      | false =>
        exfalso
        have hm : j ∈ Region.ready md ops listed := by
          rw [mem_ready]
          refine ⟨by rw [hl j hj, hv], ops[j], Array.getElem?_eq_getElem hj, fun e he hb => ?_⟩
          have hlt := hback j _ (Array.getElem?_eq_getElem hj) e he hb
          have h1 := ih e.on hlt (by omega)
          have h2 := hl e.on (by omega)
          rw [h1] at h2
          have h3 : e.on < listed.size := by omega
          simp only [Array.getD_eq_getD_getElem?, Array.getElem?_eq_getElem h3, Option.getD_some] at h2 ⊢
          exact h2
        rw [hr] at hm
        cases hm
  intro fuel
  induction fuel with
  | zero =>
    intro listed vals w hsz hl hC hS hc
    have hall := cnt_zero vals ops.size (by omega)
    refine ⟨?_, hfin vals w hC hS hall⟩
    cases hr : Region.ready md ops listed with
    | nil => rfl
    | cons i r =>
      have hm : i ∈ Region.ready md ops listed := by rw [hr]; exact List.mem_cons_self ..
      rw [mem_ready] at hm
      obtain ⟨h0, o, ho, -⟩ := hm
      have hi : i < ops.size := (Array.getElem?_eq_some_iff.1 ho).1
      rw [hl i hi, hall i hi] at h0
      cases h0
  | succ fuel ih =>
    intro listed vals w hsz hl hC hS hc
    refine ⟨fun hr => hfin vals w hC hS (hready listed vals hsz hl hr), fun i hm => ?_⟩
    rw [mem_ready] at hm
    obtain ⟨h0, o, ho, hdeps⟩ := hm
    have hi : i < ops.size := (Array.getElem?_eq_some_iff.1 ho).1
    have hnone : vals i = none := by
      rw [hl i hi] at h0
      cases hv : vals i with
      | none => rfl
      | some v => rw [hv] at h0; cases h0
    have hdo : dstOf ops i = o.dst := by simp [dstOf, ho]
    have hst := step i o ho (fill ops a0 vals ops.size) w hC (fill_size _ _ _ _) (fun e d he hb hde => by
        have h1 := hdeps e he hb
        have hlt := hback i o ho e he hb
        have h2 := hl e.on (by omega)
        have h3 : e.on < listed.size := by omega
        have h4 : (vals e.on).isSome = true := by
          rw [← h2]
          simp only [Array.getD_eq_getD_getElem?, Array.getElem?_eq_getElem h3, Option.getD_some] at h1 ⊢
          exact h1
        cases hv : vals e.on with
        | none => rw [hv] at h4; cases h4
        | some v =>
          rw [fill_at ops a0 vals hd e.on d v hv hde (hin _ _ hde) ops.size (by omega)]
          exact hS _ _ hv)
      (fun d hnd => fill_other ops a0 vals d ops.size (fun j _ => hnd j))
    have hnext : ∀ (v : Value) (w' : World), C w' → (∀ j v, S j v w → S j v w') → S i v w' → wpAny P md ops Q fuel (listed.setIfInBounds i true) ((fill ops a0 vals ops.size).put o.dst v) w' := by
      intro v w' hC' hK hSi
      rw [← hdo, ← fill_upd ops a0 vals hd i v hnone ops.size hi]
      refine ih _ (upd vals i v) w' (by simp [hsz]) (fun j hj => ?_) hC' (fun j u hu => ?_) (by have := cnt_upd vals i v hnone ops.size hi; omega)
      · by_cases e : j = i
        · subst e
          simp [upd, hsz, hi]
        · rw [getD_set_ne true (Ne.symm e), hl j hj]
          simp [upd, e]
      · by_cases e : j = i
        · subst e
          simp [upd] at hu
          subst hu
          exact hSi
        · simp [upd, e] at hu
          exact hK _ _ (hS _ _ hu)
    unfold wpOp
    simp only [ho]
    split
    · rename_i hw
      rw [if_pos hw] at hst
      refine .inl ?_
      unfold Oper.wp
      generalize (execOp (fill ops a0 vals ops.size).eval o).run P w = r at hst
      cases r with
      | ok n w' =>
        cases n <;> simp only [goodRun] at hst <;> simp only [Oper.upon]
        case value u => exact hnext _ _ hst.1 hst.2.1 hst.2.2
        case skip => exact hnext _ _ hst.1 hst.2.1 hst.2.2
        case enter f args => exact hst.mono fun e w'' ⟨v, he, h1, h2, h3⟩ => by subst he; exact hnext _ _ h1 h2 h3
      | halt x w' => simp only [goodRun] at hst
    · rename_i hw
      rw [if_neg hw] at hst
      exact hnext _ _ hC (fun _ _ h => h) hst

/-- The closed facts on the region, as one test. -/
def regionB (ops : Array Oper) (n : Nat) : Bool :=
  ((List.range ops.size).all fun i => (List.range ops.size).all fun j => i == j || (match dstOf ops i, dstOf ops j with | some d, some e => d != e | _, _ => true)) &&
  ((List.range ops.size).all fun i => match dstOf ops i with | some d => decide (d < n) | none => true) &&
  ((List.range ops.size).all fun i => match ops[i]? with | some o => o.after.toList.all fun e => !Region.binds .any e || decide (e.on < i) | none => true)

theorem dstOf_lt {ops : Array Oper} {j : Nat} {d : Tmp} (h : dstOf ops j = some d) : j < ops.size := by
  rcases Nat.lt_or_ge j ops.size with h' | h'
  · exact h'
  · simp [dstOf, Array.getElem?_eq_none h'] at h

/-- A region that draws its order, by what each of its operations yields. -/
theorem region_spec {id : Nat} {w : World} (n : Nat) (hn : ops.size = n) (S : Nat → Value → World → Prop) (C : World → Prop) (hm : P.follows .mixedOrders = true) (hB : regionB ops a0.tmps.size = true) (hC : C w.drew)
    (step : ∀ i o, ops[i]? = some o → StepOk P .any ops S C a0 i o)
    (fin : ∀ (vals : Nat → Value) (w : World), C w → (∀ j, j < n → S j (vals j) w) → Q .normal (fill ops a0 (fun j => some (vals j)) n) w) :
    (Code.region id ops true).wp P Q a0 w := by
  subst hn
  unfold regionB at hB
  simp only [Bool.and_eq_true, List.all_eq_true, List.mem_range] at hB
  obtain ⟨⟨h1, h2⟩, h3⟩ := hB
  refine wp_region_any hm ?_
  have hnone : fill ops a0 (fun _ => none) ops.size = a0 := by
    have : ∀ k, fill ops a0 (fun _ => none) k = a0 := by
      intro k
      induction k with
      | zero => rfl
      | succ k ih => simp only [fill, ih]
    exact this _
  have key := wpAny_spec (P := P) (ops := ops) (Q := Q) (md := .any) (S := S) (C := C) (a0 := a0)
    (fun i j d hne hi hj => by
      have h := h1 i (dstOf_lt hi) j (dstOf_lt hj)
      simp [hne, hi, hj] at h)
    (fun j d hj => by
      have h := h2 j (dstOf_lt hj)
      rw [hj] at h
      simpa using h)
    (fun i o ho e he hb => by
      have h := h3 i (Array.getElem?_eq_some_iff.1 ho).1
      rw [ho] at h
      have := List.all_eq_true.1 h e (by simpa using he)
      simpa [hb] using this)
    step fin ops.size (Array.replicate ops.size false) (fun _ => none) w.drew (by simp) (fun j hj => by simp [hj]) hC (fun j v h => by cases h) (by
      have : ∀ k, cnt (fun _ => none) k ≤ k := by
        intro k
        induction k with
        | zero => exact Nat.le_refl _
        | succ k ih => simp only [cnt]; split <;> omega
      exact this _)
  rw [hnone] at key
  exact key

theorem notDst {ops : Array Oper} {d : Tmp} (h : ((List.range ops.size).all fun j => !(dstOf ops j == some d)) = true) : ∀ j, dstOf ops j ≠ some d := fun j e => by
  have := List.all_eq_true.1 h j (List.mem_range.2 (dstOf_lt e))
  simp [e] at this

theorem slot_of {a : Act} {d : Tmp} {c : Value} (h : a.eval (.tmp d) = c) : a.tmps[d]?.getD undef = c := by
  rw [← Array.getD_eq_getD_getElem?]; exact h

/-- An operation that yields one value, and leaves the world as it is. -/
theorem StepOk.pure {i : Nat} {o : Oper} (c : Value) (hg : o.guard = none) (hS : ∀ w, C w → S i c w)
    (hrun : ∀ (a : Act) (w : World), C w → (∀ e d, e ∈ o.after → Region.binds md e = true → dstOf ops e.on = some d → S e.on (a.eval (.tmp d)) w) → (∀ d, (∀ j, dstOf ops j ≠ some d) → a.eval (.tmp d) = a0.eval (.tmp d)) → (execOp a.eval o).run P w = .ok (.value c) w) :
    StepOk P md ops S C a0 i o := by
  intro a w hC _ hdep hoth
  rw [if_pos (by unfold Region.wanted; rw [hg]), hrun a w hC hdep hoth]
  exact ⟨hC, fun _ _ h => h, hS w hC⟩

/-- An operation without a guard. -/
theorem StepOk.free {i : Nat} {o : Oper} (hg : o.guard = none)
    (hrun : ∀ (a : Act) (w : World), C w → (∀ e d, e ∈ o.after → Region.binds md e = true → dstOf ops e.on = some d → S e.on (a.eval (.tmp d)) w) → (∀ d, (∀ j, dstOf ops j ≠ some d) → a.eval (.tmp d) = a0.eval (.tmp d)) → goodRun P S C i w ((execOp a.eval o).run P w)) :
    StepOk P md ops S C a0 i o := by
  intro a w hC _ hdep hoth
  rw [if_pos (by unfold Region.wanted; rw [hg])]
  exact hrun a w hC hdep hoth

/-- An operation whose guard is known to say yes. -/
theorem StepOk.yes {i g : Nat} {o : Oper} {want : Bool} {d : Tmp} (hg : o.guard = some (g, want)) (hdg : dstOf ops g = some d)
    (hyes : ∀ (a : Act) (w : World), C w → (∀ e d, e ∈ o.after → Region.binds md e = true → dstOf ops e.on = some d → S e.on (a.eval (.tmp d)) w) → a.eval (.tmp d) = .bool want)
    (hrun : ∀ (a : Act) (w : World), C w → (∀ e d, e ∈ o.after → Region.binds md e = true → dstOf ops e.on = some d → S e.on (a.eval (.tmp d)) w) → (∀ d, (∀ j, dstOf ops j ≠ some d) → a.eval (.tmp d) = a0.eval (.tmp d)) → goodRun P S C i w ((execOp a.eval o).run P w)) :
    StepOk P md ops S C a0 i o := by
  intro a w hC _ hdep hoth
  have hv := hyes a w hC hdep
  have hw : Region.wanted o (yielded ops a.tmps) = true := by
    unfold Region.wanted
    rw [hg]
    have : yielded ops a.tmps g = some want := by
      unfold yielded
      rw [show (ops[g]?).bind (·.dst) = some d from hdg]
      simp only [Act.eval, Array.getD_eq_getD_getElem?] at hv
      cases ht : a.tmps[d]? with
      | none => rw [ht] at hv; cases hv
      | some x => rw [ht] at hv; simp only [Option.getD_some] at hv; subst hv; simp [ht]
    simp [this]
  rw [if_pos hw]
  exact hrun a w hC hdep hoth

/-- What a run that makes memory comes to; what a call does. -/
theorem goodRun.made {i : Nat} {w w' : World} {c : Value} {r : Result Next} (hr : r = .ok (.value c) w') (hC : C w') (hK : ∀ j v, S j v w → S j v w') (hS : S i c w') : goodRun P S C i w r := by
  subst hr; exact ⟨hC, hK, hS⟩
theorem goodRun.call {i : Nat} {w : World} {f : FuncId} {args : Array Value} {r : Result Next} (hr : r = .ok (.enter f args) w)
    (hc : Calls P f args w fun e w'' => ∃ v, e = .returned v ∧ C w'' ∧ (∀ j v, S j v w → S j v w'') ∧ S i v w'') : goodRun P S C i w r := by
  subst hr; exact hc
/-- What a pure run comes to. -/
theorem goodRun.val {i : Nat} {w : World} {c : Value} {r : Result Next} (hr : r = .ok (.value c) w) (hC : C w) (hS : S i c w) : goodRun P S C i w r := by
  subst hr; exact ⟨hC, fun _ _ h => h, hS⟩
end
end Go.Proofs.YtbholbenjalliaaGreatDoor

namespace Go.Proofs.YtbholbenjalliaaGreatDoor
open Go

def mark (done : Nat → Bool) (i : Nat) : Nat → Bool := fun j => decide (j = i) || done j
theorem mark_upd (vals : Nat → Option Value) (i : Nat) (v : Value) : (fun j => (upd vals i v j).isSome) = mark (fun j => (vals j).isSome) i := by
  funext j
  unfold mark upd
  by_cases h : j = i
  · simp [h]
  · simp [h]

/-- What one operation's run must come to, those of 'done' having been done. -/
def goodRun2 (P : Program) (S : Nat → Value → World → Prop) (C : (Nat → Bool) → World → Prop) (done : Nat → Bool) (i : Nat) (w : World) : Result Next → Prop
  | .ok (.value u) w' => C (mark done i) w' ∧ (∀ j v, done j = true → S j v w → S j v w') ∧ S i u w'
  | .ok .skip w' => C (mark done i) w' ∧ (∀ j v, done j = true → S j v w → S j v w') ∧ S i undef w'
  | .ok (.enter f args) w' => Calls P f args w' fun e w'' => ∃ v, e = .returned v ∧ C (mark done i) w'' ∧ (∀ j v, done j = true → S j v w → S j v w'') ∧ S i v w''
  | _ => False

section
variable {P : Program} {ops : Array Oper} {Q : Exit → Act → World → Prop} {md : Region.Mode} {S : Nat → Value → World → Prop} {C : (Nat → Bool) → World → Prop} {a0 : Act}

/-- What must be shown of each operation. -/
def StepOk2 (P : Program) (md : Region.Mode) (ops : Array Oper) (S : Nat → Value → World → Prop) (C : (Nat → Bool) → World → Prop) (a0 : Act) (i : Nat) (o : Oper) : Prop :=
  ∀ (done : Nat → Bool) (a : Act) (w : World), C done w → done i = false → a.tmps.size = a0.tmps.size → (∀ e, e ∈ o.after → Region.binds md e = true → done e.on = true) → (∀ e d, e ∈ o.after → Region.binds md e = true → dstOf ops e.on = some d → S e.on (a.eval (.tmp d)) w) →
    (∀ d, (∀ j, dstOf ops j ≠ some d) → a.eval (.tmp d) = a0.eval (.tmp d)) →
    if Region.wanted o (yielded ops a.tmps) = true then goodRun2 P S C done i w ((execOp a.eval o).run P w) else C (mark done i) w ∧ S i undef w

theorem wpAny_spec2 (hd : Distinct ops) (hin : ∀ j d, dstOf ops j = some d → d < a0.tmps.size)
    (hback : ∀ i o, ops[i]? = some o → ∀ e, e ∈ o.after → Region.binds md e = true → e.on < i)
    (step : ∀ i o, ops[i]? = some o → StepOk2 P md ops S C a0 i o)
    (fin : ∀ (vals : Nat → Value) (w : World), C (fun j => decide (j < ops.size)) w → (∀ j, j < ops.size → S j (vals j) w) → Q .normal (fill ops a0 (fun j => some (vals j)) ops.size) w) :
    ∀ (fuel : Nat) (listed : Array Bool) (vals : Nat → Option Value) (w : World), listed.size = ops.size → (∀ j, j < ops.size → listed.getD j true = (vals j).isSome) → (∀ j, ops.size ≤ j → vals j = none) → C (fun j => (vals j).isSome) w →
      (∀ j v, vals j = some v → S j v w) → cnt vals ops.size ≤ fuel → wpAny P md ops Q fuel listed (fill ops a0 vals ops.size) w := by
  have hfin : ∀ (vals : Nat → Option Value) (w : World), C (fun j => (vals j).isSome) w → (∀ j, ops.size ≤ j → vals j = none) → (∀ j v, vals j = some v → S j v w) → (∀ j, j < ops.size → (vals j).isSome = true) → Q .normal (fill ops a0 vals ops.size) w := by
    intro vals w hC hout hS hall
    have hd : (fun j => (vals j).isSome) = fun j => decide (j < ops.size) := by
      funext j
      by_cases hj : j < ops.size
      · simp [hall j hj, hj]
      · simp [hout j (by omega), hj]
    rw [hd] at hC
    have e : fill ops a0 vals ops.size = fill ops a0 (fun j => some ((vals j).getD undef)) ops.size := by
      have : ∀ k, k ≤ ops.size → fill ops a0 vals k = fill ops a0 (fun j => some ((vals j).getD undef)) k := by
        intro k
        induction k with
        | zero => intro _; rfl
        | succ k ih =>
          intro hk
          have hs := hall k (by omega)
          cases hv : vals k with
          | none => rw [hv] at hs; cases hs
          | some v => simp only [fill, hv, Option.getD_some, ih (by omega)]
      exact this _ (Nat.le_refl _)
    rw [e]
    refine fin (fun j => (vals j).getD undef) w hC (fun j hj => ?_)
    have hs := hall j hj
    cases hv : vals j with
    | none => rw [hv] at hs; cases hs
    | some v => exact hS j v hv
  have hready : ∀ (listed : Array Bool) (vals : Nat → Option Value), listed.size = ops.size → (∀ j, j < ops.size → listed.getD j true = (vals j).isSome) → Region.ready md ops listed = [] → ∀ j, j < ops.size → (vals j).isSome = true := by
    intro listed vals hsz hl hr j
    induction j using Nat.strongRecOn with
    | ind j ih =>
      intro hj
      cases hv : (vals j).isSome with
      | true => rfl
      | false =>
        exfalso
        have hm : j ∈ Region.ready md ops listed := by
          rw [mem_ready]
          refine ⟨by rw [hl j hj, hv], ops[j], Array.getElem?_eq_getElem hj, fun e he hb => ?_⟩
          have hlt := hback j _ (Array.getElem?_eq_getElem hj) e he hb
          have h1 := ih e.on hlt (by omega)
          have h2 := hl e.on (by omega)
          rw [h1] at h2
          have h3 : e.on < listed.size := by omega
          simp only [Array.getD_eq_getD_getElem?, Array.getElem?_eq_getElem h3, Option.getD_some] at h2 ⊢
          exact h2
        rw [hr] at hm
        cases hm
  intro fuel
  induction fuel with
  | zero =>
    intro listed vals w hsz hl hout hC hS hc
    have hall := cnt_zero vals ops.size (by omega)
    refine ⟨?_, hfin vals w hC hout hS hall⟩
    cases hr : Region.ready md ops listed with
    | nil => rfl
    | cons i r =>
      have hm : i ∈ Region.ready md ops listed := by rw [hr]; exact List.mem_cons_self ..
      rw [mem_ready] at hm
      obtain ⟨h0, o, ho, -⟩ := hm
      have hi : i < ops.size := (Array.getElem?_eq_some_iff.1 ho).1
      rw [hl i hi, hall i hi] at h0
      cases h0
  | succ fuel ih =>
    intro listed vals w hsz hl hout hC hS hc
    refine ⟨fun hr => hfin vals w hC hout hS (hready listed vals hsz hl hr), fun i hm => ?_⟩
    rw [mem_ready] at hm
    obtain ⟨h0, o, ho, hdeps⟩ := hm
    have hi : i < ops.size := (Array.getElem?_eq_some_iff.1 ho).1
    have hnone : vals i = none := by
      rw [hl i hi] at h0
      cases hv : vals i with
      | none => rfl
      | some v => rw [hv] at h0; cases h0
    have hdo : dstOf ops i = o.dst := by simp [dstOf, ho]
    have hdone : ∀ e, e ∈ o.after → Region.binds md e = true → (vals e.on).isSome = true := fun e he hb => by
      have h1 := hdeps e he hb
      have hlt := hback i o ho e he hb
      have h2 := hl e.on (by omega)
      have h3 : e.on < listed.size := by omega
      rw [← h2]
      simp only [Array.getD_eq_getD_getElem?, Array.getElem?_eq_getElem h3, Option.getD_some] at h1 ⊢
      exact h1
    have hst := step i o ho (fun j => (vals j).isSome) (fill ops a0 vals ops.size) w hC (by simp [hnone]) (fill_size _ _ _ _) hdone (fun e d he hb hde => by
        have h1 := hdeps e he hb
        have hlt := hback i o ho e he hb
        have h2 := hl e.on (by omega)
        have h3 : e.on < listed.size := by omega
        have h4 : (vals e.on).isSome = true := by
          rw [← h2]
          simp only [Array.getD_eq_getD_getElem?, Array.getElem?_eq_getElem h3, Option.getD_some] at h1 ⊢
          exact h1
        cases hv : vals e.on with
        | none => rw [hv] at h4; cases h4
        | some v =>
          rw [fill_at ops a0 vals hd e.on d v hv hde (hin _ _ hde) ops.size (by omega)]
          exact hS _ _ hv)
      (fun d hnd => fill_other ops a0 vals d ops.size (fun j _ => hnd j))
    have hnext : ∀ (v : Value) (w' : World), C (mark (fun j => (vals j).isSome) i) w' → (∀ j v, (vals j).isSome = true → S j v w → S j v w') → S i v w' → wpAny P md ops Q fuel (listed.setIfInBounds i true) ((fill ops a0 vals ops.size).put o.dst v) w' := by
      intro v w' hC' hK hSi
      rw [← hdo, ← fill_upd ops a0 vals hd i v hnone ops.size hi]
      refine ih _ (upd vals i v) w' (by simp [hsz]) (fun j hj => ?_) (fun j hj => ?_) (by rw [mark_upd]; exact hC') (fun j u hu => ?_) (by have := cnt_upd vals i v hnone ops.size hi; omega)
      · by_cases e : j = i
        · subst e
          simp [upd, hsz, hi]
        · rw [getD_set_ne true (Ne.symm e), hl j hj]
          simp [upd, e]
      · have e : j ≠ i := by omega
        simp [upd, e, hout j hj]
      · by_cases e : j = i
        · subst e
          simp [upd] at hu
          subst hu
          exact hSi
        · simp [upd, e] at hu
          exact hK _ _ (by rw [hu]; rfl) (hS _ _ hu)
    unfold wpOp
    simp only [ho]
    split
    · rename_i hw
      rw [if_pos hw] at hst
      refine .inl ?_
      unfold Oper.wp
      generalize (execOp (fill ops a0 vals ops.size).eval o).run P w = r at hst
      cases r with
      | ok n w' =>
        cases n <;> simp only [goodRun2] at hst <;> simp only [Oper.upon]
        case value u => exact hnext _ _ hst.1 hst.2.1 hst.2.2
        case skip => exact hnext _ _ hst.1 hst.2.1 hst.2.2
        case enter f args => exact hst.mono fun e w'' ⟨v, he, h1, h2, h3⟩ => by subst he; exact hnext _ _ h1 h2 h3
      | halt x w' => simp only [goodRun2] at hst
    · rename_i hw
      rw [if_neg hw] at hst
      exact hnext _ _ hst.1 (fun _ _ _ h => h) hst.2

/-- A region that draws its order, by what each of its operations yields. -/
theorem region_spec2 {id : Nat} {w : World} (n : Nat) (hn : ops.size = n) (S : Nat → Value → World → Prop) (C : (Nat → Bool) → World → Prop) (hm : P.follows .mixedOrders = true) (hB : regionB ops a0.tmps.size = true) (hC : C (fun _ => false) w.drew)
    (step : ∀ i o, ops[i]? = some o → StepOk2 P .any ops S C a0 i o)
    (fin : ∀ (vals : Nat → Value) (w : World), C (fun j => decide (j < n)) w → (∀ j, j < n → S j (vals j) w) → Q .normal (fill ops a0 (fun j => some (vals j)) n) w) :
    (Code.region id ops true).wp P Q a0 w := by
  subst hn
  unfold regionB at hB
  simp only [Bool.and_eq_true, List.all_eq_true, List.mem_range] at hB
  obtain ⟨⟨h1, h2⟩, h3⟩ := hB
  refine wp_region_any hm ?_
  have hnone : fill ops a0 (fun _ => none) ops.size = a0 := by
    have : ∀ k, fill ops a0 (fun _ => none) k = a0 := by
      intro k
      induction k with
      | zero => rfl
      | succ k ih => simp only [fill, ih]
    exact this _
  have key := wpAny_spec2 (P := P) (ops := ops) (Q := Q) (md := .any) (S := S) (C := C) (a0 := a0)
    (fun i j d hne hi hj => by
      have h := h1 i (dstOf_lt hi) j (dstOf_lt hj)
      simp [hne, hi, hj] at h)
    (fun j d hj => by
      have h := h2 j (dstOf_lt hj)
      rw [hj] at h
      simpa using h)
    (fun i o ho e he hb => by
      have h := h3 i (Array.getElem?_eq_some_iff.1 ho).1
      rw [ho] at h
      have := List.all_eq_true.1 h e (by simpa using he)
      simpa [hb] using this)
    step fin ops.size (Array.replicate ops.size false) (fun _ => none) w.drew (by simp) (fun j hj => by simp [hj]) (fun _ _ => rfl) hC (fun j v h => by cases h) (by
      have : ∀ k, cnt (fun _ => none) k ≤ k := by
        intro k
        induction k with
        | zero => exact Nat.le_refl _
        | succ k ih => simp only [cnt]; split <;> omega
      exact this _)
  rw [hnone] at key
  exact key

/-- An operation without a guard. -/
theorem StepOk2.free {i : Nat} {o : Oper} (hg : o.guard = none)
    (hrun : ∀ (done : Nat → Bool) (a : Act) (w : World), C done w → done i = false → (∀ e, e ∈ o.after → Region.binds md e = true → done e.on = true) → (∀ e d, e ∈ o.after → Region.binds md e = true → dstOf ops e.on = some d → S e.on (a.eval (.tmp d)) w) → (∀ d, (∀ j, dstOf ops j ≠ some d) → a.eval (.tmp d) = a0.eval (.tmp d)) → goodRun2 P S C done i w ((execOp a.eval o).run P w)) :
    StepOk2 P md ops S C a0 i o := by
  intro done a w hC hi _ hdo hdep hoth
  rw [if_pos (by unfold Region.wanted; rw [hg])]
  exact hrun done a w hC hi hdo hdep hoth
theorem yield_of {a : Act} {g : Nat} {d : Tmp} {x : Bool} (hdg : dstOf ops g = some d) (hv : a.eval (.tmp d) = .bool x) : yielded ops a.tmps g = some x := by
  unfold yielded
  rw [show (ops[g]?).bind (·.dst) = some d from hdg]
  simp only [Act.eval, Array.getD_eq_getD_getElem?] at hv
  cases ht : a.tmps[d]? with
  | none => rw [ht] at hv; cases hv
  | some y => rw [ht] at hv; simp only [Option.getD_some] at hv; subst hv; simp [ht]
/-- An operation whose guard is known to say yes; no. -/
theorem StepOk2.yes {i g : Nat} {o : Oper} {want : Bool} {d : Tmp} (hg : o.guard = some (g, want)) (hdg : dstOf ops g = some d)
    (hyes : ∀ (done : Nat → Bool) (a : Act) (w : World), C done w → (∀ e d, e ∈ o.after → Region.binds md e = true → dstOf ops e.on = some d → S e.on (a.eval (.tmp d)) w) → a.eval (.tmp d) = .bool want)
    (hrun : ∀ (done : Nat → Bool) (a : Act) (w : World), C done w → done i = false → (∀ e, e ∈ o.after → Region.binds md e = true → done e.on = true) → (∀ e d, e ∈ o.after → Region.binds md e = true → dstOf ops e.on = some d → S e.on (a.eval (.tmp d)) w) → (∀ d, (∀ j, dstOf ops j ≠ some d) → a.eval (.tmp d) = a0.eval (.tmp d)) → goodRun2 P S C done i w ((execOp a.eval o).run P w)) :
    StepOk2 P md ops S C a0 i o := by
  intro done a w hC hi _ hdo hdep hoth
  have hw : Region.wanted o (yielded ops a.tmps) = true := by
    unfold Region.wanted
    rw [hg]
    simp [yield_of hdg (hyes done a w hC hdep)]
  rw [if_pos hw]
  exact hrun done a w hC hi hdo hdep hoth
theorem StepOk2.no {i g : Nat} {o : Oper} {want : Bool} {d : Tmp} (hg : o.guard = some (g, want)) (hdg : dstOf ops g = some d)
    (hno : ∀ (done : Nat → Bool) (a : Act) (w : World), C done w → (∀ e d, e ∈ o.after → Region.binds md e = true → dstOf ops e.on = some d → S e.on (a.eval (.tmp d)) w) → a.eval (.tmp d) = .bool (!want))
    (hS : ∀ (done : Nat → Bool) (w : World), C done w → done i = false → C (mark done i) w ∧ S i undef w) :
    StepOk2 P md ops S C a0 i o := by
  intro done a w hC hi _ _ hdep _
  have hw : ¬ Region.wanted o (yielded ops a.tmps) = true := by
    unfold Region.wanted
    rw [hg]
    simp [yield_of hdg (hno done a w hC hdep)]
  rw [if_neg hw]
  exact hS done w hC hi
theorem goodRun2.val {i : Nat} {done : Nat → Bool} {w : World} {c : Value} {r : Result Next} (hr : r = .ok (.value c) w) (hC : C (mark done i) w) (hS : S i c w) : goodRun2 P S C done i w r := by
  subst hr; exact ⟨hC, fun _ _ _ h => h, hS⟩
theorem goodRun2.made {i : Nat} {done : Nat → Bool} {w w' : World} {c : Value} {r : Result Next} (hr : r = .ok (.value c) w') (hC : C (mark done i) w') (hK : ∀ j v, done j = true → S j v w → S j v w') (hS : S i c w') : goodRun2 P S C done i w r := by
  subst hr; exact ⟨hC, hK, hS⟩
theorem goodRun2.skipped {i : Nat} {done : Nat → Bool} {w w' : World} {r : Result Next} (hr : r = .ok .skip w') (hC : C (mark done i) w') (hK : ∀ j v, done j = true → S j v w → S j v w') (hS : S i undef w') : goodRun2 P S C done i w r := by
  subst hr; exact ⟨hC, hK, hS⟩
theorem goodRun2.call {i : Nat} {done : Nat → Bool} {w : World} {f : FuncId} {args : Array Value} {r : Result Next} (hr : r = .ok (.enter f args) w)
    (hc : Calls P f args w fun e w'' => ∃ v, e = .returned v ∧ C (mark done i) w'' ∧ (∀ j v, done j = true → S j v w → S j v w'') ∧ S i v w'') : goodRun2 P S C done i w r := by
  subst hr; exact hc
end
end Go.Proofs.YtbholbenjalliaaGreatDoor
