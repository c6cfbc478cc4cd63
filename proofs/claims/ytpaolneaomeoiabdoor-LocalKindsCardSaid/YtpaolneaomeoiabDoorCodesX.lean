/-
  Several texts as one: Is, As, Code. What each holds: Is: errors.Is at the values that this program hands it, told by contracts: a sentinel of errors.New's make, or an *api.Fault round one, asked for a sentinel: true where it is that very one, else false; nothing in memory turns. Conditions: the two sentinels' rows of cells are in memory, and are different ones where 'false' is told. | As: errors.As at the values that this program hands it, asked for an *api.Fault, told by contracts: of a sentinel of errors.New's make: false, and nothing that was there turns; of a Fault: true, and the asked-for variable holds it. Condition: errors.errorType holds the handle of 'error'. | Code: plain.Code told by contracts: nil is 0; a sentinel is its place in the list, and one more; a Fault round a sentinel is that, and the Fault's place; another error of errors.New's make is -1. Nothing that was there turns. Condition: the eleven sentinels are in memory, each another one ('Senv').
-/
import Derived.Test.YtpaolneaomeoiabDoorProg
import Derived.WalkKit
import Derived.LaidEql
import Derived.Stop.Asserts
import Derived.RowKitTokens
import Derived.Test.YtpaolneaomeoiabDoorMemX
import Derived.Outline
namespace Go.Proofs.YtpaolneaomeoiabDoor
open Go.RowKit Go.Extern.Stop Go.Stop Go.Extern

theorem Tryd.isTypeOf (v : Value) (w : World) : (Extern.ReflectliteType.typeOf #[.iface 141 v]).run Tryd.prog w = .ok (.iface 127 (.agg #[.pointer (some ⟨12, 141, none⟩)])) w := by kernel_rfl
/-- The model's entry for (rtype).Comparable, under a name of our own. -/
def cmpEntry : Array Value → Sem Value := Extern.ReflectliteType.method fun t => do Rtype.noPackHeld "Comparable" t; pure (.bool (← typeInfo t).comparable)
theorem Tryd.isComparable (w : World) : (cmpEntry #[.agg #[.pointer (some ⟨12, 141, none⟩)]]).run Tryd.prog w = .ok (.bool true) w := by kernel_rfl
theorem Tryd.isMethodComparable (v : Value) (w : World) : (Go.method 273 127 v "Comparable").run Tryd.prog w = .ok (91, v) w := by kernel_rfl
theorem Tryd.isComp : (Tryd.prog.info? 141).map (·.comparable) = some true := by kernel_rfl
theorem Tryd.isSize : (Tryd.prog.info? 161).map (·.size) = some 1 := by kernel_rfl

theorem Tryd.noIsE (v : Value) (xT : TypeId) (w : World) : (Instr.typeAssert (.iface 141 v) xT 137 true).run Tryd.prog w = .ok (.tuple #[.nilIface, .bool false]) w := run_typeAssert_lacksB Tryd.underlying137 (by kernel_rfl) (by kernel_rfl) v xT w
theorem Tryd.noUnwrapE (v : Value) (xT : TypeId) (w : World) : (Instr.typeAssert (.iface 141 v) xT 134 true).run Tryd.prog w = .ok (.tuple #[.nilIface, .bool false]) w := run_typeAssert_lacksB Tryd.underlying134 (by kernel_rfl) (by kernel_rfl) v xT w
theorem Tryd.noUnwrapsE (v : Value) (xT : TypeId) (w : World) : (Instr.typeAssert (.iface 141 v) xT 135 true).run Tryd.prog w = .ok (.tuple #[.nilIface, .bool false]) w := run_typeAssert_lacksB Tryd.underlying135 (by kernel_rfl) (by kernel_rfl) v xT w
theorem Tryd.noIsF (v : Value) (xT : TypeId) (w : World) : (Instr.typeAssert (.iface 90 v) xT 137 true).run Tryd.prog w = .ok (.tuple #[.nilIface, .bool false]) w := run_typeAssert_lacksB Tryd.underlying137 (by kernel_rfl) (by kernel_rfl) v xT w
theorem Tryd.hasUnwrapF (v : Value) (xT : TypeId) (w : World) : (Instr.typeAssert (.iface 90 v) xT 134 true).run Tryd.prog w = .ok (.tuple #[.iface 90 v, .bool true]) w := run_typeAssert_hasB Tryd.underlying134 (by kernel_rfl) v xT w
theorem Tryd.methodUnwrap (v : Value) (w : World) : (Go.method 273 90 v "Unwrap").run Tryd.prog w = .ok (85, v) w := by kernel_rfl

/-- errors.Is(x, x), x a sentinel. -/
theorem is_same (a : Addr) (w : World) :
    Calls Tryd.prog 45 #[.iface 141 (.pointer (some a)), .iface 141 (.pointer (some a))] w fun e w' => e = .returned (.bool true) ∧ w' = w := by
  obtain ⟨i, hi, hcmp⟩ := Option.map_eq_some_iff.1 Tryd.isComp
  obtain ⟨j, hj, hjs⟩ := Option.map_eq_some_iff.1 Tryd.isSize
  have h8 := @run_callFunc_extern Tryd.prog 60 _ Extern.ReflectliteType.typeOf Tryd.func60 (by kernel_rfl) (by kernel_rfl) (by kernel_rfl) (by kernel_rfl)
  have h32 := @run_callFunc_extern Tryd.prog 91 _ cmpEntry Tryd.func91 (by kernel_rfl) (by kernel_rfl) (by kernel_rfl) (by kernel_rfl)
  have tT := Tryd.isTypeOf
  have cT := Tryd.isComparable
  have mR := Tryd.isMethodComparable
  have heq := run_eql_iface_ptr_same (P := Tryd.prog) w a Tryd.underlying35 Tryd.underlying141 hi hcmp hj
  go_enter Tryd.func45, Tryd.ntmps45
  go_wp2
  refine wp_loop_rounds 1 ?_
  rw [rounds_succ]
  go_wp2
  go_ret
  exact ⟨rfl, rfl⟩

/-- errors.Is(x, y), two different sentinels. -/
theorem is_other (a b : Addr) (ca cb : Array Value) (ta tb : TypeId) (w : World) (hne : a ≠ b) (ha : w.heap[a.block]? = some (.cells ca ta (0, 0))) (hb : w.heap[b.block]? = some (.cells cb tb (0, 0))) :
    Calls Tryd.prog 45 #[.iface 141 (.pointer (some a)), .iface 141 (.pointer (some b))] w fun e w' => e = .returned (.bool false) ∧ w' = w := by
  obtain ⟨i, hi, hcmp⟩ := Option.map_eq_some_iff.1 Tryd.isComp
  obtain ⟨j, hj, hjs⟩ := Option.map_eq_some_iff.1 Tryd.isSize
  have h8 := @run_callFunc_extern Tryd.prog 60 _ Extern.ReflectliteType.typeOf Tryd.func60 (by kernel_rfl) (by kernel_rfl) (by kernel_rfl) (by kernel_rfl)
  have h32 := @run_callFunc_extern Tryd.prog 91 _ cmpEntry Tryd.func91 (by kernel_rfl) (by kernel_rfl) (by kernel_rfl) (by kernel_rfl)
  have tT := Tryd.isTypeOf
  have cT := Tryd.isComparable
  have mR := Tryd.isMethodComparable
  have nE := Tryd.noIsE
  have uE := Tryd.noUnwrapE
  have vE := Tryd.noUnwrapsE
  have heq := run_eql_iface_ptr_other (P := Tryd.prog) w Tryd.underlying35 Tryd.underlying141 hi hcmp hj (by rw [hjs]; decide) hne ha hb
  go_enter Tryd.func45, Tryd.ntmps45
  go_wp2
  refine wp_loop_rounds 1 ?_
  rw [rounds_succ]
  go_wp2
  go_ret
  exact ⟨rfl, rfl⟩

/-- errors.Is(f, x), f a Fault round x itself. -/
theorem is_fault_same (pb po : Nat) (b : Addr) (w : World) (h1 : w.cell? ⟨pb, po + 1, none⟩ = some (.iface 141 (.pointer (some b)))) :
    Calls Tryd.prog 45 #[.iface 90 (.pointer (some ⟨pb, po, none⟩)), .iface 141 (.pointer (some b))] w fun e w' => e = .returned (.bool true) ∧ w' = w := by
  obtain ⟨i, hi, hcmp⟩ := Option.map_eq_some_iff.1 Tryd.isComp
  obtain ⟨j, hj, hjs⟩ := Option.map_eq_some_iff.1 Tryd.isSize
  have h8 := @run_callFunc_extern Tryd.prog 60 _ Extern.ReflectliteType.typeOf Tryd.func60 (by kernel_rfl) (by kernel_rfl) (by kernel_rfl) (by kernel_rfl)
  have h32 := @run_callFunc_extern Tryd.prog 91 _ cmpEntry Tryd.func91 (by kernel_rfl) (by kernel_rfl) (by kernel_rfl) (by kernel_rfl)
  have tT := Tryd.isTypeOf
  have cT := Tryd.isComparable
  have mR := Tryd.isMethodComparable
  have nW := Tryd.noIsF
  have uW := Tryd.hasUnwrapF
  have mU := Tryd.methodUnwrap
  have heq := run_eql_iface_ptr_same (P := Tryd.prog) w b Tryd.underlying35 Tryd.underlying141 hi hcmp hj
  have hty := run_eql_iface_types (P := Tryd.prog) 90 141 (.pointer (some ⟨pb, po, none⟩)) (.pointer (some b)) Tryd.underlying35 (by decide) w
  go_enter Tryd.func45, Tryd.ntmps45
  go_wp2
  refine wp_loop_rounds 2 ?_
  rw [rounds_succ]
  go_wp2
  rw [rounds_succ]
  go_wp2
  go_ret
  exact ⟨rfl, rfl⟩

/-- errors.Is(f, x), f a Fault round another sentinel. -/
theorem is_fault_other (pb po : Nat) (b a : Addr) (ca cb : Array Value) (ta tb : TypeId) (w : World) (h1 : w.cell? ⟨pb, po + 1, none⟩ = some (.iface 141 (.pointer (some a)))) (hne : a ≠ b) (ha : w.heap[a.block]? = some (.cells ca ta (0, 0))) (hb : w.heap[b.block]? = some (.cells cb tb (0, 0))) :
    Calls Tryd.prog 45 #[.iface 90 (.pointer (some ⟨pb, po, none⟩)), .iface 141 (.pointer (some b))] w fun e w' => e = .returned (.bool false) ∧ w' = w := by
  obtain ⟨i, hi, hcmp⟩ := Option.map_eq_some_iff.1 Tryd.isComp
  obtain ⟨j, hj, hjs⟩ := Option.map_eq_some_iff.1 Tryd.isSize
  have h8 := @run_callFunc_extern Tryd.prog 60 _ Extern.ReflectliteType.typeOf Tryd.func60 (by kernel_rfl) (by kernel_rfl) (by kernel_rfl) (by kernel_rfl)
  have h32 := @run_callFunc_extern Tryd.prog 91 _ cmpEntry Tryd.func91 (by kernel_rfl) (by kernel_rfl) (by kernel_rfl) (by kernel_rfl)
  have tT := Tryd.isTypeOf
  have cT := Tryd.isComparable
  have mR := Tryd.isMethodComparable
  have nE := Tryd.noIsE
  have uE := Tryd.noUnwrapE
  have vE := Tryd.noUnwrapsE
  have nW := Tryd.noIsF
  have uW := Tryd.hasUnwrapF
  have mU := Tryd.methodUnwrap
  have heq := run_eql_iface_ptr_other (P := Tryd.prog) w Tryd.underlying35 Tryd.underlying141 hi hcmp hj (by rw [hjs]; decide) hne ha hb
  have hty := run_eql_iface_types (P := Tryd.prog) 90 141 (.pointer (some ⟨pb, po, none⟩)) (.pointer (some b)) Tryd.underlying35 (by decide) w
  go_enter Tryd.func45, Tryd.ntmps45
  go_wp2
  refine wp_loop_rounds 2 ?_
  rw [rounds_succ]
  go_wp2
  rw [rounds_succ]
  go_wp2
  go_ret
  exact ⟨rfl, rfl⟩

end Go.Proofs.YtpaolneaomeoiabDoor

namespace Go.Proofs.YtpaolneaomeoiabDoor
open Go.RowKit Go.Extern.Stop Go.Stop Go.Extern

theorem Tryd.valueOfPP (t : Addr) (w : World) : (ReflectliteValue.unpack (.iface 92 (.pointer (some t)))).run Tryd.prog w
    = .ok (.agg #[.pointer (some ⟨12, 92, none⟩), .pointer (some ⟨w.heap.size, 0, none⟩), .int .u64 150]) (w.alloc (.cells #[.pointer (some t)] 92)) := by kernel_rfl
/-- (Value).Type, (Type).Kind: the model's entries, under names of our own. -/
def typeEntry : Array Value → Sem Value := ReflectliteValue.methodAny (ReflectliteValue.valueError "reflectlite.Value.Type" 0) (fun t _ _ _ => ReflectliteType.toType t)
def kindEntry : Array Value → Sem Value := ReflectliteType.abiMethod fun t => do pure (.int .u8 (← Rtype.kind t))
def elemTEntry : Array Value → Sem Value := ReflectliteType.method ReflectliteType.elem
def implEntry : Array Value → Sem Value := ReflectliteType.relation "Implements" ReflectliteType.implements_
def assignEntry : Array Value → Sem Value := ReflectliteType.relation "AssignableTo" ReflectliteType.assignableTo
def isNilEntry : Array Value → Sem Value := ReflectliteValue.method (ReflectliteValue.valueError "reflectlite.Value.IsNil" 0) ReflectliteValue.isNil
def elemVEntry : Array Value → Sem Value := ReflectliteValue.method (ReflectliteValue.valueError "reflectlite.Value.Elem" 0) ReflectliteValue.elem
def setEntry : Array Value → Sem Value := ReflectliteValue.set
def valueOfEntry : Array Value → Sem Value := fun args => ReflectliteValue.unpack (args.getD 0 (.tuple #[]))
theorem valueOfEntry_eq (v : Value) : valueOfEntry #[v] = ReflectliteValue.unpack v := rfl

theorem Tryd.vOfPP (t : Addr) (w : World) : (valueOfEntry #[.iface 92 (.pointer (some t))]).run Tryd.prog w
    = .ok (.agg #[.pointer (some ⟨12, 92, none⟩), .pointer (some ⟨w.heap.size, 0, none⟩), .int .u64 150]) (w.alloc (.cells #[.pointer (some t)] 92)) := Tryd.valueOfPP t w
theorem Tryd.typePP (a : Addr) (w : World) : (typeEntry #[.agg #[.pointer (some ⟨12, 92, none⟩), .pointer (some a), .int .u64 150]]).run Tryd.prog w
    = .ok (.iface 127 (.agg #[.pointer (some ⟨12, 92, none⟩)])) w := by kernel_rfl
theorem Tryd.methodKind (h : Value) (w : World) : (Go.method 273 127 (.agg #[h]) "Kind").run Tryd.prog w = .ok (80, h) w := by kernel_rfl
theorem Tryd.kindPP (w : World) : (kindEntry #[.pointer (some ⟨12, 92, none⟩)]).run Tryd.prog w = .ok (.int .u8 22) w := by kernel_rfl
theorem Tryd.kindP (w : World) : (kindEntry #[.pointer (some ⟨12, 90, none⟩)]).run Tryd.prog w = .ok (.int .u8 22) w := by kernel_rfl

theorem rlm (z : Sem Value) (f : TypeId → Addr → Nat → Nat → Sem Value) (v : Value) :
    ReflectliteValue.method z f #[v] = (do match ← ReflectliteValue.parts v with | none => z | some (t, a, fl) => f t a fl (fl % 32)) := rfl
theorem Tryd.partsPP (a : Addr) (w : World) : (ReflectliteValue.parts (.agg #[.pointer (some ⟨12, 92, none⟩), .pointer (some a), .int .u64 150])).run Tryd.prog w = .ok (some (92, a, 150)) w := by kernel_rfl
theorem Tryd.isNilPP (a p : Addr) (W : World) (ha : W.cell? a = some (.pointer (some p))) :
    (isNilEntry #[.agg #[.pointer (some ⟨12, 92, none⟩), .pointer (some a), .int .u64 150]]).run Tryd.prog W = .ok (.bool false) W := by
  unfold isNilEntry
  rw [rlm]
  simp only [Sem.run_bind, Tryd.partsPP, Result.andThen]
  simp [ReflectliteValue.isNil, loadVar, isAgg, underlying, Tryd.underlying92, ha, Result.andThen]

theorem Tryd.methodElem (h : Value) (w : World) : (Go.method 273 127 (.agg #[h]) "Elem").run Tryd.prog w = .ok (92, .agg #[h]) w := by kernel_rfl
theorem Tryd.methodImplements (h : Value) (w : World) : (Go.method 273 127 (.agg #[h]) "Implements").run Tryd.prog w = .ok (93, .agg #[h]) w := by kernel_rfl
theorem Tryd.methodAssignableTo (h : Value) (w : World) : (Go.method 273 127 (.agg #[h]) "AssignableTo").run Tryd.prog w = .ok (90, .agg #[h]) w := by kernel_rfl
theorem Tryd.elemPP (w : World) : (elemTEntry #[.agg #[.pointer (some ⟨12, 92, none⟩)]]).run Tryd.prog w = .ok (.iface 127 (.agg #[.pointer (some ⟨12, 90, none⟩)])) w := by kernel_rfl
theorem Tryd.implementsP (w : World) : (implEntry #[.agg #[.pointer (some ⟨12, 90, none⟩)], .iface 127 (.agg #[.pointer (some ⟨12, 35, none⟩)])]).run Tryd.prog w = .ok (.bool true) w := by kernel_rfl
theorem Tryd.typeOfP (v : Value) (w : World) : (ReflectliteType.typeOf #[.iface 90 v]).run Tryd.prog w = .ok (.iface 127 (.agg #[.pointer (some ⟨12, 90, none⟩)])) w := by kernel_rfl
theorem Tryd.assignableP (w : World) : (assignEntry #[.agg #[.pointer (some ⟨12, 90, none⟩)], .iface 127 (.agg #[.pointer (some ⟨12, 90, none⟩)])]).run Tryd.prog w = .ok (.bool true) w := by kernel_rfl
theorem Tryd.assignableE (w : World) : (assignEntry #[.agg #[.pointer (some ⟨12, 141, none⟩)], .iface 127 (.agg #[.pointer (some ⟨12, 90, none⟩)])]).run Tryd.prog w = .ok (.bool false) w := by kernel_rfl
theorem Tryd.vOfP (e : Addr) (w : World) : (valueOfEntry #[.iface 90 (.pointer (some e))]).run Tryd.prog w
    = .ok (.agg #[.pointer (some ⟨12, 90, none⟩), .pointer (some ⟨w.heap.size, 0, none⟩), .int .u64 150]) (w.alloc (.cells #[.pointer (some e)] 90)) := by kernel_rfl
theorem Tryd.noAsE (v : Value) (xT : TypeId) (w : World) : (Instr.typeAssert (.iface 141 v) xT 131 true).run Tryd.prog w = .ok (.tuple #[.nilIface, .bool false]) w := run_typeAssert_lacksB Tryd.underlying131 (by kernel_rfl) (by kernel_rfl) v xT w

theorem Tryd.elemOfPP (w : World) : (Rtype.elem? 92).run Tryd.prog w = .ok (some 90) w := by kernel_rfl
theorem Tryd.mkP (p : Addr) (w : World) : (ReflectliteValue.mk 90 p ReflectliteValue.flagAddr).run Tryd.prog w = .ok (.agg #[.pointer (some ⟨12, 90, none⟩), .pointer (some p), .int .u64 406]) w := by kernel_rfl
theorem Tryd.elemVPP (a p : Addr) (W : World) (ha : W.cell? a = some (.pointer (some p))) :
    (elemVEntry #[.agg #[.pointer (some ⟨12, 92, none⟩), .pointer (some a), .int .u64 150]]).run Tryd.prog W
      = .ok (.agg #[.pointer (some ⟨12, 90, none⟩), .pointer (some p), .int .u64 406]) W := by
  unfold elemVEntry
  rw [rlm]
  simp only [Sem.run_bind, Tryd.partsPP, Result.andThen]
  simp [ReflectliteValue.elem, loadVar, isAgg, underlying, Tryd.underlying92, ha, Result.andThen, Tryd.elemOfPP, Tryd.mkP]
theorem rls (v x : Value) : ReflectliteValue.set #[v, x] = (do
    let (some (dst, a, fl), some (src, b, _)) := (← ReflectliteValue.parts v, ← ReflectliteValue.parts x)
      | unsupported (.noEntry "extern/(internal/reflectlite.Value).Set.zeroValue")
    if fl / ReflectliteValue.flagAddr % 2 == 0 then unsupported (.noEntry "extern/(internal/reflectlite.Value).Set.unaddressable")
    let val ← loadVar src b
    if ← Rtype.directlyAssignable dst src then storeVar dst a val
    else if ← Rtype.implements dst src then
      if (← Rtype.kind src) == 20 then
        match val with
        | .nilIface => unsupported (.noEntry "extern/reflectlite: a nil value of one interface type handed on as a value of another")
        | _ => storeVar dst a val
      else storeVar dst a (.iface src val)
    else panicString ("reflectlite.Set: value of type " ++ (← Rtype.spelt src) ++ " is not assignable to type " ++ (← Rtype.spelt dst))
    pure (.tuple #[])) := rfl
theorem Tryd.partsPa (a : Addr) (w : World) : (ReflectliteValue.parts (.agg #[.pointer (some ⟨12, 90, none⟩), .pointer (some a), .int .u64 406])).run Tryd.prog w = .ok (some (90, a, 406)) w := by kernel_rfl
theorem Tryd.partsP (a : Addr) (w : World) : (ReflectliteValue.parts (.agg #[.pointer (some ⟨12, 90, none⟩), .pointer (some a), .int .u64 150])).run Tryd.prog w = .ok (some (90, a, 150)) w := by kernel_rfl
theorem Tryd.directP (w : World) : (Rtype.directlyAssignable 90 90).run Tryd.prog w = .ok true w := by kernel_rfl
theorem Tryd.setP (ta b e : Addr) (old : Value) (W : World) (hb : W.cell? b = some (.pointer (some e))) (ht : W.cell? ta = some old) (hf : W.frozen? ta = false) :
    (setEntry #[.agg #[.pointer (some ⟨12, 90, none⟩), .pointer (some ta), .int .u64 406], .agg #[.pointer (some ⟨12, 90, none⟩), .pointer (some b), .int .u64 150]]).run Tryd.prog W
      = .ok (.tuple #[]) (W.setCell ta (.pointer (some e))) := by
  unfold setEntry
  rw [rls]
  simp only [Sem.run_bind, Tryd.partsPa, Tryd.partsP, Result.andThen]
  simp [ReflectliteValue.flagAddr, loadVar, isAgg, underlying, Tryd.underlying90, hb, Result.andThen, Tryd.directP, storeVar, Value.cells, storeCells, Addr.add]
  rw [run_store Tryd.prog W ta _ _ (by rfl)]
  simp [ht, hf]

set_option maxHeartbeats 4000000 in
/-- errors.As(f, &t), f a Fault. -/
theorem as_hit (e t : Addr) (old : Value) (w : World) (hg : w.cell? ⟨11, 0, none⟩ = some (.iface 127 (.agg #[.pointer (some ⟨12, 35, none⟩)]))) (ht0 : w.cell? t = some old) (hf0 : w.frozen? t = false) :
    Calls Tryd.prog 44 #[.iface 90 (.pointer (some e)), .iface 92 (.pointer (some t))] w fun ev w' => ev = .returned (.bool true) ∧ w' = ((((w.alloc (.cells #[.pointer (some t)] 92)).alloc (.cells #[.pointer (some ⟨12, 92, none⟩), .pointer (some ⟨w.heap.size, 0, none⟩), .int .u64 150] 108)).alloc (.cells #[.pointer (some ⟨12, 92, none⟩), .pointer (some ⟨w.heap.size, 0, none⟩), .int .u64 150] 108)).alloc (.cells #[.pointer (some e)] 90)).setCell t (.pointer (some e)) := by
  have h6 := @run_callFunc_extern Tryd.prog 56 _ valueOfEntry Tryd.func56 (by kernel_rfl) (by kernel_rfl) (by kernel_rfl) (by kernel_rfl)
  have h7 := @run_callFunc_extern Tryd.prog 57 _ typeEntry Tryd.func57 (by kernel_rfl) (by kernel_rfl) (by kernel_rfl) (by kernel_rfl)
  have h8 := @run_callFunc_extern Tryd.prog 58 _ isNilEntry Tryd.func58 (by kernel_rfl) (by kernel_rfl) (by kernel_rfl) (by kernel_rfl)
  have h27 := @run_callFunc_extern Tryd.prog 80 _ kindEntry Tryd.func80 (by kernel_rfl) (by kernel_rfl) (by kernel_rfl) (by kernel_rfl)
  have h37 := @run_callFunc_extern Tryd.prog 92 _ elemTEntry Tryd.func92 (by kernel_rfl) (by kernel_rfl) (by kernel_rfl) (by kernel_rfl)
  have h38 := @run_callFunc_extern Tryd.prog 93 _ implEntry Tryd.func93 (by kernel_rfl) (by kernel_rfl) (by kernel_rfl) (by kernel_rfl)
  have h10 := @run_callFunc_extern Tryd.prog 60 _ ReflectliteType.typeOf Tryd.func60 (by kernel_rfl) (by kernel_rfl) (by kernel_rfl) (by kernel_rfl)
  have h35 := @run_callFunc_extern Tryd.prog 90 _ assignEntry Tryd.func90 (by kernel_rfl) (by kernel_rfl) (by kernel_rfl) (by kernel_rfl)
  have h11 := @run_callFunc_extern Tryd.prog 63 _ elemVEntry Tryd.func63 (by kernel_rfl) (by kernel_rfl) (by kernel_rfl) (by kernel_rfl)
  have h12 := @run_callFunc_extern Tryd.prog 64 _ setEntry Tryd.func64 (by kernel_rfl) (by kernel_rfl) (by kernel_rfl) (by kernel_rfl)
  have tO := Tryd.typeOfP
  have mA := Tryd.methodAssignableTo
  have a25 := Tryd.assignableP
  have v25 := Tryd.vOfP
  have f6 := Tryd.vOfPP
  have f7 := Tryd.typePP
  have mK := Tryd.methodKind
  have mE := Tryd.methodElem
  have mI := Tryd.methodImplements
  have k27 := Tryd.kindPP
  have k25 := Tryd.kindP
  have e27 := Tryd.elemPP
  have i25 := Tryd.implementsP
  have n8 := Tryd.isNilPP ⟨w.heap.size, 0, none⟩ t ((w.alloc (.cells #[.pointer (some t)] 92)).alloc (.cells #[.pointer (some ⟨12, 92, none⟩), .pointer (some ⟨w.heap.size, 0, none⟩), .int .u64 150] 108)) (by simp)
  have hlt := block_lt hg
  have hg2 : ((w.alloc (.cells #[.pointer (some t)] 92)).alloc (.cells #[.pointer (some ⟨12, 92, none⟩), .pointer (some ⟨w.heap.size, 0, none⟩), .int .u64 150] 108)).cell? ⟨11, 0, none⟩ = some (.iface 127 (.agg #[.pointer (some ⟨12, 35, none⟩)])) := by
    rw [World.cell?_alloc_lt _ _ ⟨11, 0, none⟩ (by simp; simp at hlt; omega), World.cell?_alloc_lt _ _ ⟨11, 0, none⟩ hlt]; exact hg
  have htl := block_lt ht0
  have el := Tryd.elemVPP ⟨w.heap.size, 0, none⟩ t (((w.alloc (.cells #[.pointer (some t)] 92)).alloc (.cells #[.pointer (some ⟨12, 92, none⟩), .pointer (some ⟨w.heap.size, 0, none⟩), .int .u64 150] 108)).alloc (.cells #[.pointer (some ⟨12, 92, none⟩), .pointer (some ⟨w.heap.size, 0, none⟩), .int .u64 150] 108)) (by rw [World.cell?_alloc_lt _ _ ⟨w.heap.size, 0, none⟩ (by simp; omega)]; simp)
  have st := Tryd.setP t ⟨w.heap.size + 1 + 1 + 1, 0, none⟩ e old ((((w.alloc (.cells #[.pointer (some t)] 92)).alloc (.cells #[.pointer (some ⟨12, 92, none⟩), .pointer (some ⟨w.heap.size, 0, none⟩), .int .u64 150] 108)).alloc (.cells #[.pointer (some ⟨12, 92, none⟩), .pointer (some ⟨w.heap.size, 0, none⟩), .int .u64 150] 108)).alloc (.cells #[.pointer (some e)] 90))
    (by rw [World.cell?_alloc_at _ _ _ _ (by simp)]; rfl)
    (by rw [World.cell?_alloc_lt _ _ t (by simp; omega), World.cell?_alloc_lt _ _ t (by simp; omega), World.cell?_alloc_lt _ _ t (by simp; omega), World.cell?_alloc_lt _ _ t htl]; exact ht0)
    (by rw [World.frozen?_alloc_old _ _ t (by simp; omega), World.frozen?_alloc_old _ _ t (by simp; omega), World.frozen?_alloc_old _ _ t (by simp; omega), World.frozen?_alloc_old _ _ t (Nat.ne_of_lt htl)]; exact hf0)
  go_enter Tryd.func44, Tryd.ntmps44
  go_wp2
  refine wp_loop_rounds 1 ?_
  rw [rounds_succ]
  go_wp2
  go_ret
  exact ⟨rfl, rfl⟩

set_option maxHeartbeats 4000000 in
/-- errors.As(x, &t), x a sentinel. -/
theorem as_miss (e t : Addr) (w : World) (hg : w.cell? ⟨11, 0, none⟩ = some (.iface 127 (.agg #[.pointer (some ⟨12, 35, none⟩)]))) :
    Calls Tryd.prog 44 #[.iface 141 (.pointer (some e)), .iface 92 (.pointer (some t))] w fun ev w' => ev = .returned (.bool false) ∧ Below w.heap.size w w' := by
  have h6 := @run_callFunc_extern Tryd.prog 56 _ valueOfEntry Tryd.func56 (by kernel_rfl) (by kernel_rfl) (by kernel_rfl) (by kernel_rfl)
  have h7 := @run_callFunc_extern Tryd.prog 57 _ typeEntry Tryd.func57 (by kernel_rfl) (by kernel_rfl) (by kernel_rfl) (by kernel_rfl)
  have h8 := @run_callFunc_extern Tryd.prog 58 _ isNilEntry Tryd.func58 (by kernel_rfl) (by kernel_rfl) (by kernel_rfl) (by kernel_rfl)
  have h27 := @run_callFunc_extern Tryd.prog 80 _ kindEntry Tryd.func80 (by kernel_rfl) (by kernel_rfl) (by kernel_rfl) (by kernel_rfl)
  have h37 := @run_callFunc_extern Tryd.prog 92 _ elemTEntry Tryd.func92 (by kernel_rfl) (by kernel_rfl) (by kernel_rfl) (by kernel_rfl)
  have h38 := @run_callFunc_extern Tryd.prog 93 _ implEntry Tryd.func93 (by kernel_rfl) (by kernel_rfl) (by kernel_rfl) (by kernel_rfl)
  have h10 := @run_callFunc_extern Tryd.prog 60 _ ReflectliteType.typeOf Tryd.func60 (by kernel_rfl) (by kernel_rfl) (by kernel_rfl) (by kernel_rfl)
  have h35 := @run_callFunc_extern Tryd.prog 90 _ assignEntry Tryd.func90 (by kernel_rfl) (by kernel_rfl) (by kernel_rfl) (by kernel_rfl)
  have tO := Tryd.isTypeOf
  have mA := Tryd.methodAssignableTo
  have aE := Tryd.assignableE
  have f6 := Tryd.vOfPP
  have f7 := Tryd.typePP
  have mK := Tryd.methodKind
  have mE := Tryd.methodElem
  have mI := Tryd.methodImplements
  have k27 := Tryd.kindPP
  have k25 := Tryd.kindP
  have e27 := Tryd.elemPP
  have i25 := Tryd.implementsP
  have nA := Tryd.noAsE
  have uE := Tryd.noUnwrapE
  have vE := Tryd.noUnwrapsE
  have n8 := Tryd.isNilPP ⟨w.heap.size, 0, none⟩ t ((w.alloc (.cells #[.pointer (some t)] 92)).alloc (.cells #[.pointer (some ⟨12, 92, none⟩), .pointer (some ⟨w.heap.size, 0, none⟩), .int .u64 150] 108)) (by simp)
  have hlt := block_lt hg
  have hg2 : ((w.alloc (.cells #[.pointer (some t)] 92)).alloc (.cells #[.pointer (some ⟨12, 92, none⟩), .pointer (some ⟨w.heap.size, 0, none⟩), .int .u64 150] 108)).cell? ⟨11, 0, none⟩ = some (.iface 127 (.agg #[.pointer (some ⟨12, 35, none⟩)])) := by
    rw [World.cell?_alloc_lt _ _ ⟨11, 0, none⟩ (by simp; simp at hlt; omega), World.cell?_alloc_lt _ _ ⟨11, 0, none⟩ hlt]; exact hg
  go_enter Tryd.func44, Tryd.ntmps44
  go_wp2
  refine wp_loop_rounds 1 ?_
  rw [rounds_succ]
  go_wp2
  go_ret
  exact ⟨rfl, (((Below.refl _ _).alloc (Nat.le_refl _) _).alloc (by simp) _).alloc (by simp; omega) _⟩
end Go.Proofs.YtpaolneaomeoiabDoor

namespace Go.Proofs.YtpaolneaomeoiabDoor
open Go.RowKit Go.Extern.Stop Go.Stop Go.Extern

/-- The eleven sentinels (at A 0 .. A 10) and errors.errorType, as start-up lays them. -/
structure Senv (A : Nat → Addr) (w : World) : Prop where
  c0 : w.cell? ⟨4, 0, none⟩ = some (.iface 141 (.pointer (some (A 0))))
  c1 : w.cell? ⟨0, 0, none⟩ = some (.iface 141 (.pointer (some (A 1))))
  c2 : w.cell? ⟨5, 0, none⟩ = some (.iface 141 (.pointer (some (A 2))))
  c3 : w.cell? ⟨6, 0, none⟩ = some (.iface 141 (.pointer (some (A 3))))
  c4 : w.cell? ⟨3, 0, none⟩ = some (.iface 141 (.pointer (some (A 4))))
  c5 : w.cell? ⟨7, 0, none⟩ = some (.iface 141 (.pointer (some (A 5))))
  c6 : w.cell? ⟨8, 0, none⟩ = some (.iface 141 (.pointer (some (A 6))))
  c7 : w.cell? ⟨9, 0, none⟩ = some (.iface 141 (.pointer (some (A 7))))
  c8 : w.cell? ⟨2, 0, none⟩ = some (.iface 141 (.pointer (some (A 8))))
  c9 : w.cell? ⟨1, 0, none⟩ = some (.iface 141 (.pointer (some (A 9))))
  c10 : w.cell? ⟨10, 0, none⟩ = some (.iface 141 (.pointer (some (A 10))))
  et : w.cell? ⟨11, 0, none⟩ = some (.iface 127 (.agg #[.pointer (some ⟨12, 35, none⟩)]))
  row : ∀ i, i < 11 → ∃ c t, w.heap[(A i).block]? = some (.cells c t (0, 0))
  ne : ∀ i j, i < 11 → j < 11 → i ≠ j → A i ≠ A j

theorem Senv.below {A : Nat → Addr} {w w' : World} (h : Senv A w) (hb : Below w.heap.size w w') : Senv A w' :=
  ⟨cell_below hb h.c0, cell_below hb h.c1, cell_below hb h.c2, cell_below hb h.c3, cell_below hb h.c4, cell_below hb h.c5, cell_below hb h.c6, cell_below hb h.c7, cell_below hb h.c8, cell_below hb h.c9, cell_below hb h.c10, cell_below hb h.et,
    fun i hi => by obtain ⟨c, t, e⟩ := h.row i hi; exact ⟨c, t, row_below hb e⟩, h.ne⟩

theorem Senv.alloc {A : Nat → Addr} {w : World} (h : Senv A w) (o : Obj) : Senv A (w.alloc o) := h.below ((Below.refl _ _).alloc (Nat.le_refl _) _)

theorem is_same' (a b : Addr) (w : World) (h : a = b) :
    Calls Tryd.prog 45 #[.iface 141 (.pointer (some a)), .iface 141 (.pointer (some b))] w fun e w' => e = .returned (.bool true) ∧ w' = w := by
  subst h; exact is_same a w

/-- The list that Code makes, cell by cell. -/
def errCells (A : Nat → Addr) : Array Value := #[.iface 141 (.pointer (some (A 0))), .iface 141 (.pointer (some (A 1))), .iface 141 (.pointer (some (A 2))), .iface 141 (.pointer (some (A 3))), .iface 141 (.pointer (some (A 4))), .iface 141 (.pointer (some (A 5))), .iface 141 (.pointer (some (A 6))), .iface 141 (.pointer (some (A 7))), .iface 141 (.pointer (some (A 8))), .iface 141 (.pointer (some (A 9))), .iface 141 (.pointer (some (A 10)))]

theorem errCells_at (A : Nat → Addr) (w : World) (k : Nat) (hk : k < 11) : (w.alloc (.cells (errCells A) 35)).cell? ⟨w.heap.size, k, none⟩ = some (.iface 141 (.pointer (some (A k)))) := by
  rw [World.cell?_alloc_at _ _ _ _ rfl]
  match k, hk with
  | 0, _ => rfl
  | 1, _ => rfl
  | 2, _ => rfl
  | 3, _ => rfl
  | 4, _ => rfl
  | 5, _ => rfl
  | 6, _ => rfl
  | 7, _ => rfl
  | 8, _ => rfl
  | 9, _ => rfl
  | 10, _ => rfl

theorem ret2 {k l : IntKind} {a b c d : Int} (h : a = c) (h' : b = d) : Ending.returned (.tuple #[.int k a, .int l b]) = .returned (.tuple #[.int k c, .int l d]) := by rw [h, h']

/-- Code(nil). -/
theorem code_nil (w : World) : Calls Tryd.prog 31 #[.nilIface] w fun e w' => e = .returned (.tuple #[.int .i64 0, .int .i64 (-1)]) ∧ w' = w := by
  go_enter Tryd.func31, Tryd.ntmps31
  go_wp2
  go_ret2
  exact ⟨rfl, rfl⟩

set_option maxHeartbeats 1000000 in
theorem code_errs (A : Nat → Addr) (a : Addr) (j : Nat) (ca : Array Value) (ta : TypeId) (w : World) (hs : Senv A w) (hj : j ≤ 11) (hlt : ∀ i, i < j → a ≠ A i) (hit : j < 11 → a = A j) (ha : w.heap[a.block]? = some (.cells ca ta (0, 0))) :
    Calls Tryd.prog 31 #[.iface 141 (.pointer (some a))] w fun e w' => e = .returned (.tuple #[.int .i64 (if j < 11 then (j : Int) + 1 else -1), .int .i64 (-1)]) ∧ Below w.heap.size w w' := by
  have hs1 := hs.alloc (.cells #[.pointer none] 90)
  go_enter Tryd.func31, Tryd.ntmps31
  go_wp2_with fail
  refine (as_miss _ _ _ hs1.et).mono ?_
  rintro e w2 ⟨rfl, hb⟩
  obtain ⟨c0, c1, c2, c3, c4, c5, c6, c7, c8, c9, c10, -, hrow, -⟩ := hs1.below hb
  have ha2 := row_below hb (row_below ((Below.refl w.heap.size w).alloc (Nat.le_refl _) (.cells #[.pointer none] 90)) ha)
  have hb1 : Below w.heap.size w w2 := ((Below.refl w.heap.size w).alloc (Nat.le_refl _) _).trans (hb.mono (by simp))
  clear hs hs1 hb ha
  have hcell := errCells_at A w2
  have hrow3 : ∀ i, i < 11 → ∃ c t, (w2.alloc (.cells (errCells A) 35)).heap[(A i).block]? = some (.cells c t (0, 0)) := fun i hi => by
    obtain ⟨c, t, e⟩ := hrow i hi
    exact ⟨c, t, row_below ((Below.refl w2.heap.size w2).alloc (Nat.le_refl _) _) e⟩
  have ha3 := row_below ((Below.refl w2.heap.size w2).alloc (Nat.le_refl _) (.cells (errCells A) 35)) ha2
  have hb3 : Below w.heap.size w (w2.alloc (.cells (errCells A) 35)) := hb1.alloc hb1.size _
  unfold errCells at hcell hrow3 ha3 hb3
  go_wp2_with fail
  clear c0 c1 c2 c3 c4 c5 c6 c7 c8 c9 c10 hrow ha2 hb1
  go_loop [3, 29] (fun at3 i => at3 = .int .i64 (-1) ∧ ∃ k : Nat, k ≤ j ∧ i = .int .i64 k) (fun _ i => 11 - (intOf i).toNat)
  case atStart => exact ⟨rfl, 0, Nat.zero_le _, rfl⟩
  case round =>
    obtain ⟨rfl, k, hk, rfl⟩ := hrel
    by_cases hkj : k < j
    · have hne := hlt k hkj
      have h11 : k < 11 := by omega
      obtain ⟨cb, tb, hrk⟩ := hrow3 k h11
      have hck := hcell k h11
      clear hlt hit hrow3 hcell
      go_wp2_with fail
      refine (is_other _ _ ca cb ta tb _ hne ha3 hrk).mono ?_
      rintro e w' ⟨rfl, rfl⟩
      go_wp2
      go_round
      case rel => exact ⟨rfl, k + 1, by omega, by go_num⟩
      case measure => simp [intOf]; omega
    · have hkj2 : k = j := by omega
      by_cases h11 : k < 11
      · have hsame : a = A k := by rw [hkj2]; exact hit (by omega)
        have HS : Hid (a = A k) := hsame
        have HJ : Hid (k = j) := hkj2
        have hck := hcell k h11
        clear hlt hit hrow3 hcell hsame hkj2
        go_wp2_with fail
        refine (is_same' _ _ _ HS.out).mono ?_
        rintro e w' ⟨rfl, rfl⟩
        go_wp2
        go_ret2
        exact ⟨ret2 (by have hj' := HJ.out; first | omega | (rw [if_pos (by omega)]; omega)) rfl, hb3⟩
      · have HJ : Hid (k = j) := hkj2
        clear hlt hit hrow3 hcell hkj2
        go_wp2
        go_ret2
        exact ⟨ret2 (by have hj' := HJ.out; first | omega | (rw [if_neg (by omega)])) rfl, hb3⟩
set_option maxHeartbeats 1000000 in
theorem code_faults (A : Nat → Addr) (pb po : Nat) (n : Int) (j : Nat) (w : World) (hs : Senv A w) (hj : j < 11) (hn : w.cell? ⟨pb, po, none⟩ = some (.int .i64 n)) (he : w.cell? ⟨pb, po + 1, none⟩ = some (.iface 141 (.pointer (some (A j))))) :
    Calls Tryd.prog 31 #[.iface 90 (.pointer (some ⟨pb, po, none⟩))] w fun e w' => e = .returned (.tuple #[.int .i64 ((j : Int) + 1), .int .i64 n]) ∧ Below w.heap.size w w' := by
  have hs1 := hs.alloc (.cells #[.pointer none] 90)
  go_enter Tryd.func31, Tryd.ntmps31
  have hpl := block_lt hn
  have ht1 : (w.alloc (.cells #[.pointer none] 90)).cell? ⟨w.heap.size, 0, none⟩ = some (.pointer none) := by simp
  have hf1 : (w.alloc (.cells #[.pointer none] 90)).frozen? ⟨w.heap.size, 0, none⟩ = false := by simp
  go_wp2_with fail
  refine (as_hit _ _ _ _ hs1.et ht1 hf1).mono ?_
  rintro e w2 ⟨rfl, hw2⟩
  have hb1 : Below w.heap.size w w2 := by
    rw [hw2]
    refine Below.setCell ?_ (by simp) _
    refine Below.alloc (Below.alloc (Below.alloc (Below.alloc (Below.alloc (Below.refl _ _) (Nat.le_refl _) _) (by simp) _) (by simp; omega) _) (by simp; omega) _) (by simp; omega) _
  have hcf : w2.cell? ⟨w.heap.size, 0, none⟩ = some (.pointer (some ⟨pb, po, none⟩)) := by
    rw [hw2]
    refine World.cell?_setCell_same _ _ _ (u := .pointer none) ?_
    rw [World.cell?_alloc_lt _ _ ⟨w.heap.size, 0, none⟩ (by simp; omega), World.cell?_alloc_lt _ _ ⟨w.heap.size, 0, none⟩ (by simp; omega), World.cell?_alloc_lt _ _ ⟨w.heap.size, 0, none⟩ (by simp; omega), World.cell?_alloc_lt _ _ ⟨w.heap.size, 0, none⟩ (by simp)]
    exact ht1
  obtain ⟨c0, c1, c2, c3, c4, c5, c6, c7, c8, c9, c10, -, hrow, hnes⟩ := hs.below hb1
  have hn2 := cell_below hb1 hn
  have he2 := cell_below hb1 he
  clear hs hs1 hn he ht1 hf1 hw2
  have hcell := errCells_at A w2
  have hrow3 : ∀ i, i < 11 → ∃ c t, (w2.alloc (.cells (errCells A) 35)).heap[(A i).block]? = some (.cells c t (0, 0)) := fun i hi => by
    obtain ⟨c, t, e⟩ := hrow i hi
    exact ⟨c, t, row_below ((Below.refl w2.heap.size w2).alloc (Nat.le_refl _) _) e⟩
  have he3 := cell_below ((Below.refl w2.heap.size w2).alloc (Nat.le_refl _) (.cells (errCells A) 35)) he2
  have hb3 : Below w.heap.size w (w2.alloc (.cells (errCells A) 35)) := hb1.alloc hb1.size _
  unfold errCells at hcell hrow3 he3 hb3
  go_wp2_with fail
  clear c0 c1 c2 c3 c4 c5 c6 c7 c8 c9 c10 hrow hn2 he2 hcf hb1
  go_loop [3, 29] (fun at3 i => at3 = .int .i64 n ∧ ∃ k : Nat, k ≤ j ∧ i = .int .i64 k) (fun _ i => 11 - (intOf i).toNat)
  case atStart => exact ⟨rfl, 0, Nat.zero_le _, rfl⟩
  case round =>
    obtain ⟨rfl, k, hk, rfl⟩ := hrel
    by_cases hkj : k < j
    · have h11 : k < 11 := by omega
      have hne := hnes j k hj h11 (by omega)
      obtain ⟨ca, ta, ha3⟩ := hrow3 j hj
      obtain ⟨cb, tb, hrk⟩ := hrow3 k h11
      have hck := hcell k h11
      clear hnes hrow3 hcell
      go_wp2_with fail
      refine (is_fault_other _ _ _ _ ca cb ta tb _ he3 hne ha3 hrk).mono ?_
      rintro e w' ⟨rfl, rfl⟩
      go_wp2
      go_round
      case rel => exact ⟨rfl, k + 1, by omega, by go_num⟩
      case measure => simp [intOf]; omega
    · have hkj2 : k = j := by omega
      have HJ : Hid (k = j) := hkj2
      have h11 : k < 11 := by omega
      have hck := hcell k h11
      rw [← hkj2] at he3
      clear hnes hrow3 hcell hkj2
      go_wp2_with fail
      refine (is_fault_same _ _ _ _ he3).mono ?_
      rintro e w' ⟨rfl, rfl⟩
      go_wp2
      go_ret2
      exact ⟨ret2 (by have hj' := HJ.out; omega) rfl, hb3⟩

/-- coded(err, code), by Code's own answer. -/
theorem coded_of {err : Value} {code c n : Int} {w : World} {Q : World → Prop} (h : Calls Tryd.prog 31 #[err] w fun e w' => e = .returned (.tuple #[.int .i64 c, .int .i64 n]) ∧ Q w') :
    Calls Tryd.prog 15 #[err, .int .i64 code] w fun e w' => e = .returned (.bool (decide (c = code ∧ n = -1))) ∧ Q w' := by
  by_cases h1 : c = code
  · by_cases h2 : n = -1
    all_goals
      go_enter Tryd.func15, Tryd.ntmps15
      go_wp2_with fail
      refine h.mono ?_
      rintro e w' ⟨rfl, hq⟩
      go_wp2
      go_ret
      exact ⟨by simp [h1, h2], hq⟩
  · go_enter Tryd.func15, Tryd.ntmps15
    go_wp2_with fail
    refine h.mono ?_
    rintro e w' ⟨rfl, hq⟩
    go_wp2
    go_ret
    exact ⟨by simp [h1], hq⟩
/-- coded(sentinel j, code). -/
theorem coded_sent (A : Nat → Addr) (j : Nat) (code : Int) (w : World) (hs : Senv A w) (hj : j < 11) :
    Calls Tryd.prog 15 #[.iface 141 (.pointer (some (A j))), .int .i64 code] w fun e w' => e = .returned (.bool (decide ((j : Int) + 1 = code))) ∧ Below w.heap.size w w' := by
  obtain ⟨c, t, hr⟩ := hs.row j hj
  refine (coded_of (code := code) (code_errs A (A j) j c t w hs (by omega) (fun i hi => hs.ne j i hj (by omega) (by omega)) (fun _ => rfl) hr)).mono ?_
  rintro e w' ⟨rfl, hb⟩
  refine ⟨?_, hb⟩
  rw [if_pos hj]
  simp

/-- coded(nil, code). -/
theorem coded_nil (code : Int) (w : World) :
    Calls Tryd.prog 15 #[.nilIface, .int .i64 code] w fun e w' => e = .returned (.bool (decide (0 = code))) ∧ w' = w := by
  refine (coded_of (code := code) (code_nil w)).mono ?_
  rintro e w' ⟨rfl, hb⟩
  exact ⟨by simp, hb⟩
end Go.Proofs.YtpaolneaomeoiabDoor
