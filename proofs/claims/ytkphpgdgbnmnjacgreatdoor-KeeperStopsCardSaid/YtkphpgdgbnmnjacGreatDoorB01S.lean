/-
  Several texts as one: Is, As, Code, Laid, CellsSt, KpStop.
-/
import Derived.Test.YtkphpgdgbnmnjacGreatDoorB00S
import Derived.Test.YtkphpgdgbnmnjacGreatDoorB00C
import Derived.Test.YtkphpgdgbnmnjacGreatDoorB01C
import Derived.Test.YtkphpgdgbnmnjacGreatDoorB02C
import Derived.Test.YtkphpgdgbnmnjacGreatDoorB03C
import Derived.Test.YtkphpgdgbnmnjacGreatDoorB04C
import Derived.Test.YtkphpgdgbnmnjacGreatDoorB05C
import Derived.Test.YtkphpgdgbnmnjacGreatDoorB06C
import Derived.Test.YtkphpgdgbnmnjacGreatDoorB07C
import Derived.Test.YtkphpgdgbnmnjacGreatDoorB08C
import Derived.Test.YtkphpgdgbnmnjacGreatDoorB09C
import Derived.Test.YtkphpgdgbnmnjacGreatDoorB10C
import Derived.Test.YtkphpgdgbnmnjacGreatDoorB11C
import Derived.Test.YtkphpgdgbnmnjacGreatDoorB12C
import Derived.Test.YtkphpgdgbnmnjacGreatDoorB13C
import Derived.Test.YtkphpgdgbnmnjacGreatDoorB14C
import Derived.Test.YtkphpgdgbnmnjacGreatDoorB15C
import Derived.Test.YtkphpgdgbnmnjacGreatDoorB16C
import Derived.Test.YtkphpgdgbnmnjacGreatDoorB17C
import Derived.Test.YtkphpgdgbnmnjacGreatDoorB18C
import Derived.Test.YtkphpgdgbnmnjacGreatDoorB19C
import Derived.Test.YtkphpgdgbnmnjacGreatDoorB20C
import Derived.Test.YtkphpgdgbnmnjacGreatDoorB31C
import Derived.Test.YtkphpgdgbnmnjacGreatDoorB22C
import Derived.Test.YtkphpgdgbnmnjacGreatDoorB32C
import Derived.Test.YtkphpgdgbnmnjacGreatDoorB33C
import Derived.Test.YtkphpgdgbnmnjacGreatDoorB21C
import Derived.Test.YtkphpgdgbnmnjacGreatDoorB23C
import Derived.Test.YtkphpgdgbnmnjacGreatDoorB24C
import Derived.Test.YtkphpgdgbnmnjacGreatDoorB25C
import Derived.Test.YtkphpgdgbnmnjacGreatDoorB26C
import Derived.Test.YtkphpgdgbnmnjacGreatDoorB27C
import Derived.Test.YtkphpgdgbnmnjacGreatDoorB28C
import Derived.Test.YtkphpgdgbnmnjacGreatDoorB29C
import Derived.Test.YtkphpgdgbnmnjacGreatDoorB30C
import Derived.Test.YtkphpgdgbnmnjacGreatDoorB34C
import Derived.Test.YtkphpgdgbnmnjacGreatDoorB35C
import Derived.Test.YtkphpgdgbnmnjacGreatDoorProg
import Derived.WalkKit
import Derived.LaidEql
import Derived.Stop.Asserts
import Derived.RowKitTokens
import Derived.Outline
import Derived.Test.YtkphpgdgbnmnjacGreatDoorRows
import Derived.LaidLaws
import Derived.LaidHandle
import Derived.LaidMore
import Derived.BigQuiet
import Derived.Deep.QuietTactic
import Derived.Deep.DeepCutAuto
import Derived.WalkSmall
import Derived.Lib.LaidTab
import Derived.ProofKit
import Derived.OpenShut
import Derived.Deep.Slices
import Derived.Carry
import Derived.DeepKeys4
import Derived.Maps.OwnSet
import Derived.Maps.Own
import Derived.Deep.Upon
import Derived.Lib.Builder
import Derived.Laws.Tables
import Derived.Laws.Rows
import Derived.Maps.RangeWalk
import Derived.Maps.AppendAt
import Derived.Orders
import Derived.Lib.LazyBuf
import Derived.Laws.MakeOwn
import Derived.Deep.AppendLies
import Derived.Deep.RegionLaw
import Derived.Laws.IdiomStrings
import Derived.Laws.BitsAllLaws
import Derived.Laws.ShiftsVarLaws
import Derived.Lib.BufferWrite
import Derived.Deep.RegionHeld3
import Derived.Laws.ResultCell
import Derived.Laws.CopyOwn
import Derived.Laws.Strings2
import Derived.BigRegion
import Derived.RegionTactic
import Derived.Lib.SliceRun
import Derived.Laws.StructEq
import Derived.Lib.ConvBytes
import Derived.Laws.EntriesVeiled
import Derived.Shelf.Abstract
import Derived.StringKeys
import Derived.OwnWalk
namespace Go.Proofs.YtkphpgdgbnmnjacGreatDoor
open Go.RowKit Go.Extern.Stop Go.Stop Go.Extern

theorem Tryz.isTypeOf (v : Value) (w : World) : (Extern.ReflectliteType.typeOf #[.iface 292 v]).run Tryz.prog w = .ok (.iface 245 (.agg #[.pointer (some ⟨12, 292, none⟩)])) w := by kernel_rfl
/-- The model's entry for (rtype).Comparable, under a name of our own. -/
def cmpEntry : Array Value → Sem Value := Extern.ReflectliteType.method fun t => do Rtype.noPackHeld "Comparable" t; pure (.bool (← typeInfo t).comparable)
theorem Tryz.isComparable (w : World) : (cmpEntry #[.agg #[.pointer (some ⟨12, 292, none⟩)]]).run Tryz.prog w = .ok (.bool true) w := by kernel_rfl
theorem Tryz.isMethodComparable (v : Value) (w : World) : (Go.method 423 245 v "Comparable").run Tryz.prog w = .ok (260, v) w := by kernel_rfl
theorem Tryz.isComp : (Tryz.prog.info? 292).map (·.comparable) = some true := by kernel_rfl
theorem Tryz.isSize : (Tryz.prog.info? 311).map (·.size) = some 1 := by kernel_rfl

theorem Tryz.noIsE (v : Value) (xT : TypeId) (w : World) : (Instr.typeAssert (.iface 292 v) xT 255 true).run Tryz.prog w = .ok (.tuple #[.nilIface, .bool false]) w := run_typeAssert_lacksB Tryz.underlying255 (by kernel_rfl) (by kernel_rfl) v xT w
theorem Tryz.noUnwrapE (v : Value) (xT : TypeId) (w : World) : (Instr.typeAssert (.iface 292 v) xT 252 true).run Tryz.prog w = .ok (.tuple #[.nilIface, .bool false]) w := run_typeAssert_lacksB Tryz.underlying252 (by kernel_rfl) (by kernel_rfl) v xT w
theorem Tryz.noUnwrapsE (v : Value) (xT : TypeId) (w : World) : (Instr.typeAssert (.iface 292 v) xT 253 true).run Tryz.prog w = .ok (.tuple #[.nilIface, .bool false]) w := run_typeAssert_lacksB Tryz.underlying253 (by kernel_rfl) (by kernel_rfl) v xT w
/-- errors.Is(x, x), x a sentinel. -/
theorem is_same (a : Addr) (w : World) :
    Calls Tryz.prog 91 #[.iface 292 (.pointer (some a)), .iface 292 (.pointer (some a))] w fun e w' => e = .returned (.bool true) ∧ w' = w := by
  obtain ⟨i, hi, hcmp⟩ := Option.map_eq_some_iff.1 Tryz.isComp
  obtain ⟨j, hj, hjs⟩ := Option.map_eq_some_iff.1 Tryz.isSize
  have h8 := @run_callFunc_extern Tryz.prog 126 _ Extern.ReflectliteType.typeOf Tryz.func126 (by kernel_rfl) (by kernel_rfl) (by kernel_rfl) (by kernel_rfl)
  have h32 := @run_callFunc_extern Tryz.prog 260 _ cmpEntry Tryz.func260 (by kernel_rfl) (by kernel_rfl) (by kernel_rfl) (by kernel_rfl)
  have tT := Tryz.isTypeOf
  have cT := Tryz.isComparable
  have mR := Tryz.isMethodComparable
  have heq := run_eql_iface_ptr_same (P := Tryz.prog) w a Tryz.underlying46 Tryz.underlying292 hi hcmp hj
  go_enter Tryz.func91, Tryz.ntmps91
  go_wp2
  refine wp_loop_rounds 1 ?_
  rw [rounds_succ]
  go_wp2
  go_ret
  exact ⟨rfl, rfl⟩

/-- errors.Is(x, y), two different sentinels. -/
theorem is_other (a b : Addr) (ca cb : Array Value) (ta tb : TypeId) (w : World) (hne : a ≠ b) (ha : w.heap[a.block]? = some (.cells ca ta (0, 0))) (hb : w.heap[b.block]? = some (.cells cb tb (0, 0))) :
    Calls Tryz.prog 91 #[.iface 292 (.pointer (some a)), .iface 292 (.pointer (some b))] w fun e w' => e = .returned (.bool false) ∧ w' = w := by
  obtain ⟨i, hi, hcmp⟩ := Option.map_eq_some_iff.1 Tryz.isComp
  obtain ⟨j, hj, hjs⟩ := Option.map_eq_some_iff.1 Tryz.isSize
  have h8 := @run_callFunc_extern Tryz.prog 126 _ Extern.ReflectliteType.typeOf Tryz.func126 (by kernel_rfl) (by kernel_rfl) (by kernel_rfl) (by kernel_rfl)
  have h32 := @run_callFunc_extern Tryz.prog 260 _ cmpEntry Tryz.func260 (by kernel_rfl) (by kernel_rfl) (by kernel_rfl) (by kernel_rfl)
  have tT := Tryz.isTypeOf
  have cT := Tryz.isComparable
  have mR := Tryz.isMethodComparable
  have nE := Tryz.noIsE
  have uE := Tryz.noUnwrapE
  have vE := Tryz.noUnwrapsE
  have heq := run_eql_iface_ptr_other (P := Tryz.prog) w Tryz.underlying46 Tryz.underlying292 hi hcmp hj (by rw [hjs]; decide) hne ha hb
  go_enter Tryz.func91, Tryz.ntmps91
  go_wp2
  refine wp_loop_rounds 1 ?_
  rw [rounds_succ]
  go_wp2
  go_ret
  exact ⟨rfl, rfl⟩

end Go.Proofs.YtkphpgdgbnmnjacGreatDoor

namespace Go.Proofs.YtkphpgdgbnmnjacGreatDoor
open Go.RowKit Go.Extern.Stop Go.Stop Go.Extern

theorem Tryz.valueOfPP (t : Addr) (w : World) : (ReflectliteValue.unpack (.iface 159 (.pointer (some t)))).run Tryz.prog w
    = .ok (.agg #[.pointer (some ⟨12, 159, none⟩), .pointer (some ⟨w.heap.size, 0, none⟩), .int .u64 150]) (w.alloc (.cells #[.pointer (some t)] 159)) := by kernel_rfl
/-- (Value).Type, (Type).Kind: the model's entries, under names of our own. -/
def typeEntry : Array Value → Sem Value := ReflectliteValue.methodAny (ReflectliteValue.valueError "reflectlite.Value.Type" 0) (fun t _ _ _ => ReflectliteType.toType t)
def kindEntry : Array Value → Sem Value := ReflectliteType.abiMethod fun t => do pure (.int .u8 (← Rtype.kind t))
def elemTEntry : Array Value → Sem Value := ReflectliteType.method ReflectliteType.elem
def implEntry : Array Value → Sem Value := ReflectliteType.relation "Implements" ReflectliteType.implements_
def assignEntry : Array Value → Sem Value := ReflectliteType.relation "AssignableTo" ReflectliteType.assignableTo
def isNilEntry : Array Value → Sem Value := ReflectliteValue.method (ReflectliteValue.valueError "reflectlite.Value.IsNil" 0) ReflectliteValue.isNil
def valueOfEntry : Array Value → Sem Value := fun args => ReflectliteValue.unpack (args.getD 0 (.tuple #[]))
theorem Tryz.vOfPP (t : Addr) (w : World) : (valueOfEntry #[.iface 159 (.pointer (some t))]).run Tryz.prog w
    = .ok (.agg #[.pointer (some ⟨12, 159, none⟩), .pointer (some ⟨w.heap.size, 0, none⟩), .int .u64 150]) (w.alloc (.cells #[.pointer (some t)] 159)) := Tryz.valueOfPP t w
theorem Tryz.typePP (a : Addr) (w : World) : (typeEntry #[.agg #[.pointer (some ⟨12, 159, none⟩), .pointer (some a), .int .u64 150]]).run Tryz.prog w
    = .ok (.iface 245 (.agg #[.pointer (some ⟨12, 159, none⟩)])) w := by kernel_rfl
theorem Tryz.methodKind (h : Value) (w : World) : (Go.method 423 245 (.agg #[h]) "Kind").run Tryz.prog w = .ok (247, h) w := by kernel_rfl
theorem Tryz.kindPP (w : World) : (kindEntry #[.pointer (some ⟨12, 159, none⟩)]).run Tryz.prog w = .ok (.int .u8 22) w := by kernel_rfl
theorem Tryz.kindP (w : World) : (kindEntry #[.pointer (some ⟨12, 157, none⟩)]).run Tryz.prog w = .ok (.int .u8 22) w := by kernel_rfl

theorem rlm (z : Sem Value) (f : TypeId → Addr → Nat → Nat → Sem Value) (v : Value) :
    ReflectliteValue.method z f #[v] = (do match ← ReflectliteValue.parts v with | none => z | some (t, a, fl) => f t a fl (fl % 32)) := rfl
theorem Tryz.partsPP (a : Addr) (w : World) : (ReflectliteValue.parts (.agg #[.pointer (some ⟨12, 159, none⟩), .pointer (some a), .int .u64 150])).run Tryz.prog w = .ok (some (159, a, 150)) w := by kernel_rfl
theorem Tryz.isNilPP (a p : Addr) (W : World) (ha : W.cell? a = some (.pointer (some p))) :
    (isNilEntry #[.agg #[.pointer (some ⟨12, 159, none⟩), .pointer (some a), .int .u64 150]]).run Tryz.prog W = .ok (.bool false) W := by
  unfold isNilEntry
  rw [rlm]
  simp only [Sem.run_bind, Tryz.partsPP, Result.andThen]
  simp [ReflectliteValue.isNil, loadVar, isAgg, underlying, Tryz.underlying159, ha, Result.andThen]

theorem Tryz.methodElem (h : Value) (w : World) : (Go.method 423 245 (.agg #[h]) "Elem").run Tryz.prog w = .ok (261, .agg #[h]) w := by kernel_rfl
theorem Tryz.methodImplements (h : Value) (w : World) : (Go.method 423 245 (.agg #[h]) "Implements").run Tryz.prog w = .ok (262, .agg #[h]) w := by kernel_rfl
theorem Tryz.methodAssignableTo (h : Value) (w : World) : (Go.method 423 245 (.agg #[h]) "AssignableTo").run Tryz.prog w = .ok (259, .agg #[h]) w := by kernel_rfl
theorem Tryz.elemPP (w : World) : (elemTEntry #[.agg #[.pointer (some ⟨12, 159, none⟩)]]).run Tryz.prog w = .ok (.iface 245 (.agg #[.pointer (some ⟨12, 157, none⟩)])) w := by kernel_rfl
theorem Tryz.implementsP (w : World) : (implEntry #[.agg #[.pointer (some ⟨12, 157, none⟩)], .iface 245 (.agg #[.pointer (some ⟨12, 46, none⟩)])]).run Tryz.prog w = .ok (.bool true) w := by kernel_rfl
theorem Tryz.assignableE (w : World) : (assignEntry #[.agg #[.pointer (some ⟨12, 292, none⟩)], .iface 245 (.agg #[.pointer (some ⟨12, 157, none⟩)])]).run Tryz.prog w = .ok (.bool false) w := by kernel_rfl
theorem Tryz.noAsE (v : Value) (xT : TypeId) (w : World) : (Instr.typeAssert (.iface 292 v) xT 249 true).run Tryz.prog w = .ok (.tuple #[.nilIface, .bool false]) w := run_typeAssert_lacksB Tryz.underlying249 (by kernel_rfl) (by kernel_rfl) v xT w

set_option maxHeartbeats 4000000 in
/-- errors.As(x, &t), x a sentinel. -/
theorem as_miss (e t : Addr) (w : World) (hg : w.cell? ⟨11, 0, none⟩ = some (.iface 245 (.agg #[.pointer (some ⟨12, 46, none⟩)]))) :
    Calls Tryz.prog 90 #[.iface 292 (.pointer (some e)), .iface 159 (.pointer (some t))] w fun ev w' => ev = .returned (.bool false) ∧ Below w.heap.size w w' := by
  have h6 := @run_callFunc_extern Tryz.prog 122 _ valueOfEntry Tryz.func122 (by kernel_rfl) (by kernel_rfl) (by kernel_rfl) (by kernel_rfl)
  have h7 := @run_callFunc_extern Tryz.prog 123 _ typeEntry Tryz.func123 (by kernel_rfl) (by kernel_rfl) (by kernel_rfl) (by kernel_rfl)
  have h8 := @run_callFunc_extern Tryz.prog 124 _ isNilEntry Tryz.func124 (by kernel_rfl) (by kernel_rfl) (by kernel_rfl) (by kernel_rfl)
  have h27 := @run_callFunc_extern Tryz.prog 247 _ kindEntry Tryz.func247 (by kernel_rfl) (by kernel_rfl) (by kernel_rfl) (by kernel_rfl)
  have h37 := @run_callFunc_extern Tryz.prog 261 _ elemTEntry Tryz.func261 (by kernel_rfl) (by kernel_rfl) (by kernel_rfl) (by kernel_rfl)
  have h38 := @run_callFunc_extern Tryz.prog 262 _ implEntry Tryz.func262 (by kernel_rfl) (by kernel_rfl) (by kernel_rfl) (by kernel_rfl)
  have h10 := @run_callFunc_extern Tryz.prog 126 _ ReflectliteType.typeOf Tryz.func126 (by kernel_rfl) (by kernel_rfl) (by kernel_rfl) (by kernel_rfl)
  have h35 := @run_callFunc_extern Tryz.prog 259 _ assignEntry Tryz.func259 (by kernel_rfl) (by kernel_rfl) (by kernel_rfl) (by kernel_rfl)
  have tO := Tryz.isTypeOf
  have mA := Tryz.methodAssignableTo
  have aE := Tryz.assignableE
  have f6 := Tryz.vOfPP
  have f7 := Tryz.typePP
  have mK := Tryz.methodKind
  have mE := Tryz.methodElem
  have mI := Tryz.methodImplements
  have k27 := Tryz.kindPP
  have k25 := Tryz.kindP
  have e27 := Tryz.elemPP
  have i25 := Tryz.implementsP
  have nA := Tryz.noAsE
  have uE := Tryz.noUnwrapE
  have vE := Tryz.noUnwrapsE
  have n8 := Tryz.isNilPP ⟨w.heap.size, 0, none⟩ t ((w.alloc (.cells #[.pointer (some t)] 159)).alloc (.cells #[.pointer (some ⟨12, 159, none⟩), .pointer (some ⟨w.heap.size, 0, none⟩), .int .u64 150] 193)) (by simp)
  have hlt := block_lt hg
  have hg2 : ((w.alloc (.cells #[.pointer (some t)] 159)).alloc (.cells #[.pointer (some ⟨12, 159, none⟩), .pointer (some ⟨w.heap.size, 0, none⟩), .int .u64 150] 193)).cell? ⟨11, 0, none⟩ = some (.iface 245 (.agg #[.pointer (some ⟨12, 46, none⟩)])) := by
    rw [World.cell?_alloc_lt _ _ ⟨11, 0, none⟩ (by simp; simp at hlt; omega), World.cell?_alloc_lt _ _ ⟨11, 0, none⟩ hlt]; exact hg
  go_enter Tryz.func90, Tryz.ntmps90
  go_wp2
  refine wp_loop_rounds 1 ?_
  rw [rounds_succ]
  go_wp2
  go_ret
  exact ⟨rfl, (((Below.refl _ _).alloc (Nat.le_refl _) _).alloc (by simp) _).alloc (by simp; omega) _⟩
end Go.Proofs.YtkphpgdgbnmnjacGreatDoor

namespace Go.Proofs.YtkphpgdgbnmnjacGreatDoor
open Go.RowKit Go.Extern.Stop Go.Stop Go.Extern

theorem is_same' (a b : Addr) (w : World) (h : a = b) :
    Calls Tryz.prog 91 #[.iface 292 (.pointer (some a)), .iface 292 (.pointer (some b))] w fun e w' => e = .returned (.bool true) ∧ w' = w := by
  subst h; exact is_same a w

/-- The list that Code makes, cell by cell. -/
def errCells (A : Nat → Addr) : Array Value := #[.iface 292 (.pointer (some (A 0))), .iface 292 (.pointer (some (A 1))), .iface 292 (.pointer (some (A 2))), .iface 292 (.pointer (some (A 3))), .iface 292 (.pointer (some (A 4))), .iface 292 (.pointer (some (A 5))), .iface 292 (.pointer (some (A 6))), .iface 292 (.pointer (some (A 7))), .iface 292 (.pointer (some (A 8))), .iface 292 (.pointer (some (A 9))), .iface 292 (.pointer (some (A 10)))]

theorem errCells_at (A : Nat → Addr) (w : World) (k : Nat) (hk : k < 11) : (w.alloc (.cells (errCells A) 46)).cell? ⟨w.heap.size, k, none⟩ = some (.iface 292 (.pointer (some (A k)))) := by
  rw [World.cell?_alloc_at _ _ _ _ rfl]
  match k, hk with
  | 0, _ => rfl
  | 1, _ => rfl
  | 2, _ => rfl
  | 3, _ => rfl
  | 4, _ => rfl
  | 5, _ => rfl
  | 6, _ => rfl
  | 7, _ => rfl
  | 8, _ => rfl
  | 9, _ => rfl
  | 10, _ => rfl

theorem ret2 {k l : IntKind} {a b c d : Int} (h : a = c) (h' : b = d) : Ending.returned (.tuple #[.int k a, .int l b]) = .returned (.tuple #[.int k c, .int l d]) := by rw [h, h']

set_option maxHeartbeats 1000000 in
theorem code_errs (A : Nat → Addr) (a : Addr) (j : Nat) (ca : Array Value) (ta : TypeId) (w : World) (hs : Senv A w) (hj : j ≤ 11) (hlt : ∀ i, i < j → a ≠ A i) (hit : j < 11 → a = A j) (ha : w.heap[a.block]? = some (.cells ca ta (0, 0))) :
    Calls Tryz.prog 57 #[.iface 292 (.pointer (some a))] w fun e w' => e = .returned (.tuple #[.int .i64 (if j < 11 then (j : Int) + 1 else -1), .int .i64 (-1)]) ∧ Below w.heap.size w w' := by
  have hs1 := hs.alloc (.cells #[.pointer none] 157)
  go_enter Tryz.func57, Tryz.ntmps57
  go_wp2_with fail
  refine (as_miss _ _ _ hs1.et).mono ?_
  rintro e w2 ⟨rfl, hb⟩
  obtain ⟨c0, c1, c2, c3, c4, c5, c6, c7, c8, c9, c10, -, hrow, -⟩ := hs1.below hb
  have ha2 := row_below hb (row_below ((Below.refl w.heap.size w).alloc (Nat.le_refl _) (.cells #[.pointer none] 157)) ha)
  have hb1 : Below w.heap.size w w2 := ((Below.refl w.heap.size w).alloc (Nat.le_refl _) _).trans (hb.mono (by simp))
  clear hs hs1 hb ha
  have hcell := errCells_at A w2
  have hrow3 : ∀ i, i < 11 → ∃ c t, (w2.alloc (.cells (errCells A) 46)).heap[(A i).block]? = some (.cells c t (0, 0)) := fun i hi => by
    obtain ⟨c, t, e⟩ := hrow i hi
    exact ⟨c, t, row_below ((Below.refl w2.heap.size w2).alloc (Nat.le_refl _) _) e⟩
  have ha3 := row_below ((Below.refl w2.heap.size w2).alloc (Nat.le_refl _) (.cells (errCells A) 46)) ha2
  have hb3 : Below w.heap.size w (w2.alloc (.cells (errCells A) 46)) := hb1.alloc hb1.size _
  unfold errCells at hcell hrow3 ha3 hb3
  go_wp2_with fail
  clear c0 c1 c2 c3 c4 c5 c6 c7 c8 c9 c10 hrow ha2 hb1
  go_loop [3, 29] (fun at3 i => at3 = .int .i64 (-1) ∧ ∃ k : Nat, k ≤ j ∧ i = .int .i64 k) (fun _ i => 11 - (intOf i).toNat)
  case atStart => exact ⟨rfl, 0, Nat.zero_le _, rfl⟩
  case round =>
    obtain ⟨rfl, k, hk, rfl⟩ := hrel
    by_cases hkj : k < j
    · have hne := hlt k hkj
      have h11 : k < 11 := by omega
      obtain ⟨cb, tb, hrk⟩ := hrow3 k h11
      have hck := hcell k h11
      clear hlt hit hrow3 hcell
      go_wp2_with fail
      refine (is_other _ _ ca cb ta tb _ hne ha3 hrk).mono ?_
      rintro e w' ⟨rfl, rfl⟩
      go_wp2
      go_round
      case rel => exact ⟨rfl, k + 1, by omega, by go_num⟩
      case measure => simp [intOf]; omega
    · have hkj2 : k = j := by omega
      by_cases h11 : k < 11
      · have hsame : a = A k := by rw [hkj2]; exact hit (by omega)
        have HS : Hid (a = A k) := hsame
        have HJ : Hid (k = j) := hkj2
        have hck := hcell k h11
        clear hlt hit hrow3 hcell hsame hkj2
        go_wp2_with fail
        refine (is_same' _ _ _ HS.out).mono ?_
        rintro e w' ⟨rfl, rfl⟩
        go_wp2
        go_ret2
        exact ⟨ret2 (by have hj' := HJ.out; first | omega | (rw [if_pos (by omega)]; omega)) rfl, hb3⟩
      · have HJ : Hid (k = j) := hkj2
        clear hlt hit hrow3 hcell hkj2
        go_wp2
        go_ret2
        exact ⟨ret2 (by have hj' := HJ.out; first | omega | (rw [if_neg (by omega)])) rfl, hb3⟩
/-- coded(err, code), by Code's own answer. -/
theorem coded_of {err : Value} {code c n : Int} {w : World} {Q : World → Prop} (h : Calls Tryz.prog 57 #[err] w fun e w' => e = .returned (.tuple #[.int .i64 c, .int .i64 n]) ∧ Q w') :
    Calls Tryz.prog 24 #[err, .int .i64 code] w fun e w' => e = .returned (.bool (decide (c = code ∧ n = -1))) ∧ Q w' := by
  by_cases h1 : c = code
  · by_cases h2 : n = -1
    all_goals
      go_enter Tryz.func24, Tryz.ntmps24
      go_wp2_with fail
      refine h.mono ?_
      rintro e w' ⟨rfl, hq⟩
      go_wp2
      go_ret
      exact ⟨by simp [h1, h2], hq⟩
  · go_enter Tryz.func24, Tryz.ntmps24
    go_wp2_with fail
    refine h.mono ?_
    rintro e w' ⟨rfl, hq⟩
    go_wp2
    go_ret
    exact ⟨by simp [h1], hq⟩
/-- coded(sentinel j, code). -/
theorem coded_sent (A : Nat → Addr) (j : Nat) (code : Int) (w : World) (hs : Senv A w) (hj : j < 11) :
    Calls Tryz.prog 24 #[.iface 292 (.pointer (some (A j))), .int .i64 code] w fun e w' => e = .returned (.bool (decide ((j : Int) + 1 = code))) ∧ Below w.heap.size w w' := by
  obtain ⟨c, t, hr⟩ := hs.row j hj
  refine (coded_of (code := code) (code_errs A (A j) j c t w hs (by omega) (fun i hi => hs.ne j i hj (by omega) (by omega)) (fun _ => rfl) hr)).mono ?_
  rintro e w' ⟨rfl, hb⟩
  refine ⟨?_, hb⟩
  rw [if_pos hj]
  simp

end Go.Proofs.YtkphpgdgbnmnjacGreatDoor

namespace Go.Proofs.YtkphpgdgbnmnjacGreatDoor
open Go.RowKit Go.ChangeShapes

theorem Tryz.gErrs : (sentNames.map fun x => (Tryz.prog.globalNamed x.1).bind fun g => (Tryz.prog.globals[g]?).map (·.type)) = List.replicate 11 (some 46) := by kernel_rfl
theorem Tryz.gEt : Tryz.prog.globalNamed "errors.errorType" = some 11 := by kernel_rfl
theorem Tryz.rt : (Tryz.prog.cutTypes.find? (·.1 == "internal/reflectlite.rtype")).map (·.2) = some 245 := by kernel_rfl
theorem Tryz.oneRow : ((List.range 323).filter fun t => Tryz.prog.rowNamed t [101, 114, 114, 111, 114]) = [46] := by kernel_rfl
theorem Tryz.nTypes : Tryz.prog.types.size = 323 := by kernel_rfl
/-- The list of this seat's rows. -/
def seatLaid : List (String × DataW Unit) := [("errors.errorType", Rows.laid_errors_errorType), ("nightwatch/api.ErrText", Rows.laid_nightwatch_api_ErrText), ("nightwatch/api.ErrBound", Rows.laid_nightwatch_api_ErrBound), ("nightwatch/api.ErrShape", Rows.laid_nightwatch_api_ErrShape), ("nightwatch/api.ErrName", Rows.laid_nightwatch_api_ErrName), ("nightwatch/api.ErrNone", Rows.laid_nightwatch_api_ErrNone), ("nightwatch/api.ErrExist", Rows.laid_nightwatch_api_ErrExist), ("nightwatch/api.ErrFull", Rows.laid_nightwatch_api_ErrFull), ("nightwatch/api.ErrOff", Rows.laid_nightwatch_api_ErrOff), ("nightwatch/api.ErrIdle", Rows.laid_nightwatch_api_ErrIdle), ("nightwatch/api.ErrHeld", Rows.laid_nightwatch_api_ErrHeld), ("nightwatch/api.ErrReset", Rows.laid_nightwatch_api_ErrReset)]

theorem laid_split (W : World) : laidMetH Tryz.prog seatLaid W = (laidMet Tryz.prog (sentList sentNames) W ∧ handlesMet Tryz.prog [("errors.errorType", Rows.laid_errors_errorType)] W) := by kernel_rfl

theorem senv_of_laid {W : World} (h : laidMetH Tryz.prog seatLaid W) : ∃ A : Nat → Addr, Senv A W := by
  rw [laid_split] at h
  obtain ⟨⟨ps, hl, hnd, hrows⟩, hh⟩ := h
  have hgs : ∀ x, x ∈ sentNames → ∃ g, Tryz.prog.globalNamed x.1 = some g ∧ (Tryz.prog.globals[g]?).map (·.type) = some 46 := fun x hx => by
    have h1 : ((Tryz.prog.globalNamed x.1).bind fun g => (Tryz.prog.globals[g]?).map (·.type)) ∈ List.replicate 11 (some 46) := by
      rw [← Tryz.gErrs]; exact List.mem_map_of_mem hx
    have h2 := List.eq_of_mem_replicate h1
    simp only [Option.bind_eq_some_iff] at h2
    obtain ⟨g, a, b⟩ := h2
    exact ⟨g, a, b⟩
  obtain ⟨A, hv, hr, -, hne⟩ := sents Tryz.underlying46 Tryz.oneErr Tryz.underlying292 Tryz.underlying311 rfl rfl Tryz.underlying9 Tryz.cellsES Tryz.cellsStr sentNames ps hgs hl hnd hrows
  have het : W.cell? ⟨11, 0, none⟩ = some (.iface 245 (.agg #[.pointer (some ⟨12, 46, none⟩)])) := by
    obtain ⟨name, u, ty, e1, e2, e3, e4, e5⟩ := hh _ (List.mem_singleton.2 rfl)
    have en : name = [101, 114, 114, 111, 114] := (Option.some.inj e1).symm
    subst en
    obtain rfl := Option.some.inj (Tryz.rt.symm.trans e2)
    have hm : ty ∈ (List.range 323).filter fun t => Tryz.prog.rowNamed t [101, 114, 114, 111, 114] := List.mem_filter.2 ⟨List.mem_range.2 (by rw [← Tryz.nTypes]; exact e3), e4⟩
    rw [Tryz.oneRow] at hm
    obtain rfl := List.mem_singleton.1 hm
    have hh : typeHandle Tryz.prog 46 = .pointer (some ⟨12, 46, none⟩) := by kernel_rfl
    rw [hh] at e5
    simpa using World.var?_cell Tryz.gEt e5 0
  exact ⟨A, by simpa using World.var?_cell Tryz.g0 (hv 0 _ rfl) 0, by simpa using World.var?_cell Tryz.g1 (hv 1 _ rfl) 0, by simpa using World.var?_cell Tryz.g2 (hv 2 _ rfl) 0, by simpa using World.var?_cell Tryz.g3 (hv 3 _ rfl) 0, by simpa using World.var?_cell Tryz.g4 (hv 4 _ rfl) 0, by simpa using World.var?_cell Tryz.g5 (hv 5 _ rfl) 0, by simpa using World.var?_cell Tryz.g6 (hv 6 _ rfl) 0, by simpa using World.var?_cell Tryz.g7 (hv 7 _ rfl) 0, by simpa using World.var?_cell Tryz.g8 (hv 8 _ rfl) 0, by simpa using World.var?_cell Tryz.g9 (hv 9 _ rfl) 0, by simpa using World.var?_cell Tryz.g10 (hv 10 _ rfl) 0, het, fun i hi => hr i hi, fun i j hi hj => hne i j hi hj⟩

/-- The heap that the door's own run leaves meets the condition: the rows' witness starts there. -/
theorem door_met (os : Os) (args : Array Value) : laidMetH Tryz.prog seatLaid ((World.doorLaid Tryz.prog 400 os).forCall (fun _ _ => 0) ⟨#[], args, []⟩).memory :=
  laidMetH_of_parts3 (fuel := 8) (laidMet_of_run' 8 (by kernel_rfl) (by kernel_rfl)) (by kernel_rfl) (by kernel_rfl)
end Go.Proofs.YtkphpgdgbnmnjacGreatDoor

namespace Go.Proofs.YtkphpgdgbnmnjacGreatDoor
open Go.RowKit Go.Extern.Stop Go.Stop Go.Extern

theorem Senv.apart {A : Nat → Addr} {w : World} (h : Senv A w) (b : Nat) (hb : w.heap.size ≤ b) : ∀ i, i < 11 → (A i).block ≠ b := fun i hi e => by
  obtain ⟨c, t, e2⟩ := h.row i hi
  have := lt_of_row e2
  omega
end Go.Proofs.YtkphpgdgbnmnjacGreatDoor

namespace Go.Proofs.YtkphpgdgbnmnjacGreatDoor
open Go

/-- It is counted, and nothing else is asked of it. -/
def onlyE (e : EntD) (T : Nat) : Prop := e.cnt = 0 ∧ e.mn = 1 ∧ e.tol = (T : Int) ∧ e.gaps = [] ∧ e.edges = []
theorem kindL_only {e : EntD} {T : Nat} (h : onlyE e T) (m : Nat) : kindL e [] (m : Int) = if 0 < m then 1 else 0 := by
  obtain ⟨h1, h2, -, h4, h5⟩ := h
  unfold kindL
  have hc : countIn e.cnt [] (m : Int) = 0 := by have := countIn_le e.cnt [] (m : Int); simpa using this
  rw [hc, h1, h2, h4]
  by_cases hm : 0 < m
  · rw [if_pos (by omega), if_pos hm]
  · rw [if_neg (by omega), if_neg (by simp), flowBad_no (fun k hk => absurd hk (by simp)), if_neg (by simp), if_neg hm]
/-- It, at the beginning of cycle m. -/
def lS (T m : Nat) : LSt := ⟨true, (m : Int), [], ((m - 1 : Nat) : Int), decide (T < m - 1)⟩
theorem lS_run {e : EntD} {T : Nat} (h : onlyE e T) (m : Nat) : (lS T m).run1 e = (m : Int) := by
  unfold LSt.run1
  show (if kindL e [] (m : Int) = 0 then 0 else ((m - 1 : Nat) : Int) + 1) = _
  rw [kindL_only h]
  by_cases hm : 0 < m
  · rw [if_pos hm, if_neg (by omega)]; omega
  · rw [if_neg hm, if_pos rfl]; omega
theorem lS_turns {e : EntD} {T : Nat} (h : onlyE e T) (m : Nat) : (lS T m).turns e = decide (m = T + 1) := by
  unfold LSt.turns
  rw [lS_run h, h.2.2.1]
  show (true && (!decide (T < m - 1) && decide ((T : Int) < (m : Int)))) = _
  by_cases h1 : m = T + 1
  · rw [decide_eq_true h1, decide_eq_false (by omega), decide_eq_true (by omega)]; rfl
  · rw [decide_eq_false h1]
    by_cases h2 : T < m - 1
    · rw [decide_eq_true h2]; rfl
    · rw [decide_eq_false h2, decide_eq_false (by omega)]; rfl
theorem lS_fin {e : EntD} {T : Nat} (h : onlyE e T) (m : Nat) : (lS T m).fin e = lS T (m + 1) := by
  unfold LSt.fin
  rw [lS_run h, h.2.2.1]
  show (if true = true then _ else _) = _
  rw [if_pos rfl]
  unfold lS
  simp only [LSt.mk.injEq, true_and]
  refine ⟨by omega, by omega, ?_⟩
  by_cases h2 : T < m
  · rw [decide_eq_true (show (T : Int) < (m : Int) by omega), decide_eq_true (show T < m + 1 - 1 by omega)]; simp
  · rw [decide_eq_false (show ¬ (T : Int) < (m : Int) by omega), decide_eq_false (show ¬ T < m + 1 - 1 by omega), decide_eq_false (by omega)]; rfl
theorem lS_kind {e : EntD} {T : Nat} (h : onlyE e T) (m : Nat) (hm : 0 < m) : (lS T m).kind e = 1 := by
  unfold LSt.kind
  show (if true = true then kindL e [] (m : Int) else 0) = 1
  rw [if_pos rfl, kindL_only h, if_pos hm]
/-- The status of all, at the beginning of cycle m. -/
def tS (T dl m : Nat) : TSt := if m < T + 2 then ⟨dl, 0, if 2 ≤ m then 1 else 0⟩ else behind dl (m - (T + 2))
theorem worst_one (n : Nat) (hn : n ≤ 3) : worstOf [statB n] = if n = 3 then 2 else if n = 2 then 1 else 0 := by
  match n, hn with
  | 0, _ => rfl
  | 1, _ => rfl
  | 2, _ => rfl
  | 3, _ => rfl
theorem lS_status (T m : Nat) : (lS T m).status = if T < m - 1 then 3 else if 2 ≤ m then 2 else 1 := by
  unfold LSt.status lS
  simp only [if_true]
  by_cases h : T < m - 1
  · rw [decide_eq_true h, if_pos rfl, if_pos h]
  · rw [decide_eq_false h, if_neg (by simp), if_neg h]
    by_cases h2 : 2 ≤ m
    · rw [if_pos (by omega), if_pos h2]
    · rw [if_neg (by omega), if_neg h2]
theorem tS_fin (T dl m : Nat) : (tS T dl m).fin [statB (lS T (m + 1)).status] = tS T dl (m + 1) := by
  have hs := lS_status T (m + 1)
  have hw := worst_one (lS T (m + 1)).status (by rw [hs]; split; omega; split <;> omega)
  by_cases h1 : m < T + 2
  · have e0 : tS T dl m = ⟨dl, 0, if 2 ≤ m then 1 else 0⟩ := by unfold tS; rw [if_pos h1]
    rw [e0]
    unfold TSt.fin
    rw [if_neg (by show ¬ (if 2 ≤ m then 1 else 0) = 3; split <;> omega), if_neg (by show ¬ (if 2 ≤ m then 1 else 0) = 2; split <;> omega)]
    by_cases h2 : m + 1 < T + 2
    · have e1 : tS T dl (m + 1) = ⟨dl, 0, if 2 ≤ m + 1 then 1 else 0⟩ := by unfold tS; rw [if_pos h2]
      rw [e1]
      rw [if_neg (by omega)] at hs
      unfold TSt.cut
      by_cases h3 : 2 ≤ m + 1
      · rw [if_pos h3] at hs
        have hw2 : worstOf [statB (lS T (m + 1)).status] = 1 := by rw [hw, hs]; rfl
        rw [hw2, if_pos h3, if_neg (by simp)]
      · rw [if_neg h3] at hs
        have hw2 : worstOf [statB (lS T (m + 1)).status] = 0 := by rw [hw, hs]; rfl
        rw [hw2, if_neg h3, if_neg (by simp)]
    · have e1 : tS T dl (m + 1) = behind dl 0 := by unfold tS; rw [if_neg h2, show m + 1 - (T + 2) = 0 by omega]
      rw [e1]
      rw [if_pos (by omega)] at hs
      have hw2 : worstOf [statB (lS T (m + 1)).status] = 2 := by rw [hw, hs]; rfl
      rw [hw2]
      unfold TSt.cut behind
      by_cases h3 : 0 < dl
      · rw [if_neg (by simp; omega), if_pos h3]
      · have : dl = 0 := by omega
        subst this
        rfl
  · have e0 : tS T dl m = behind dl (m - (T + 2)) := by unfold tS; rw [if_neg h1]
    have e1 : tS T dl (m + 1) = behind dl (m - (T + 2) + 1) := by unfold tS; rw [if_neg (by omega), show m + 1 - (T + 2) = m - (T + 2) + 1 by omega]
    rw [e0, e1]
    exact behind_fin _ _ _
theorem tS_st (T dl m : Nat) : (tS T dl m).st = 3 ↔ T + 2 + dl ≤ m := by
  unfold tS
  split
  · constructor
    · intro h; have h : (if 2 ≤ m then 1 else 0) = 3 := h; split at h <;> omega
    · intro h; omega
  · unfold behind
    split
    · constructor
      · intro h; have h : (2 : Nat) = 3 := h; omega
      · intro h; omega
    · constructor
      · intro _; omega
      · intro _; rfl
theorem tS_exp {T dl m : Nat} (h1 : T + 2 ≤ m) (h2 : m < T + 2 + dl) : (tS T dl m).st = 2 := by
  unfold tS behind
  rw [if_neg (by omega), if_pos (by omega)]
/-- The log at the beginning of cycle m. -/
def recS (T cy m : Nat) : List Rec := if m < T + 2 then [] else [⟨1, 0, 1, (T + 2) * cy⟩]
structure StopK (c : CfgD) (T : Nat) (K : KSt) : Prop where
  ls : K.ls = [lS T (K.d.now / c.cycle.toNat)]
  t : K.t = tS T c.delay.toNat (K.d.now / c.cycle.toNat)
  L : K.L = recS T c.cycle.toNat (K.d.now / c.cycle.toNat)
  cl : K.d.closed = c.closed.toNat
  op : K.d.opn = c.opn.toNat
  res : K.d.reset = false
  kk : (K.d.kicks, K.d.begun) = qk c.closed.toNat c.cycle.toNat (min (K.d.now / c.cycle.toNat) (T + 1 + c.delay.toNat))
section
variable {c : CfgD} {K : KSt} {k W S T : Nat} {e : EntD}
theorem StopK.ends (h : StopK c T K) (he : c.ents = [e]) (ho : onlyE e T) (hc : Calm K S) (hb : Big K.c) (hm : (K.d.now + 1) % c.cycle.toNat = 0) :
    (K.ticked.ends c c.ents.length).2 = 0 ∧ (K.ticked.ends c c.ents.length).1.ls = [lS T (K.d.now / c.cycle.toNat + 1)] ∧ (K.ticked.ends c c.ents.length).1.L = recS T c.cycle.toNat (K.d.now / c.cycle.toNat + 1) ∧ (K.ticked.ends c c.ents.length).1.d = K.ticked.d ∧ (K.ticked.ends c c.ents.length).1.t = K.t := by
  obtain ⟨cy, hcy⟩ : ∃ cy, cy = c.cycle.toNat := ⟨_, rfl⟩
  have hL := h.L
  have hls := h.ls
  rw [← hcy] at hm hL hls ⊢
  have hdiv : (K.d.now + 1) / cy = K.d.now / cy + 1 := Nat.succ_div_of_mod_eq_zero hm
  have hmul : (K.d.now / cy + 1) * cy = K.d.now + 1 := by rw [← hdiv]; exact Nat.div_mul_cancel (Nat.dvd_of_mod_eq_zero hm)
  have e1 : K.ticked.ends c c.ents.length = K.ticked.endOne c 0 := by rw [he]; rfl
  rw [e1]
  generalize K.d.now / cy = m at hL hls hmul ⊢
  have e2 : K.ticked.endOne c 0 = if (lS T m).turns e = true then (K.ticked.setL 0 ((lS T m).fin e)).app 0 ((lS T m).kind e).toNat (K.d.now + 1) else (K.ticked.setL 0 ((lS T m).fin e), 0) := by
    unfold KSt.endOne
    have : K.ticked.ls[0]? = some (lS T m) := by show K.ls[0]? = _; rw [hls]; rfl
    rw [this, show c.ents.getD 0 noEnt = e by rw [he]; rfl]
    rfl
  rw [e2, lS_turns ho, lS_fin ho]
  have l1 : (K.ticked.setL 0 (lS T (m + 1))).ls = [lS T (m + 1)] := by show K.ls.set 0 _ = _; rw [hls]; rfl
  by_cases hT : m = T + 1
  · rw [decide_eq_true hT, if_pos rfl, lS_kind ho m (by omega)]
    have hL0 : K.L = [] := by rw [hL]; unfold recS; rw [if_pos (by omega)]
    obtain ⟨a1, a2, a3⟩ := putRec_calm hb hc.off hc.cut (nextR K.L 0 1 (K.d.now + 1))
    have hB : (K.ticked.setL 0 (lS T (m + 1))).app 0 (1 : Int).toNat (K.d.now + 1) = ({ K.ticked.setL 0 (lS T (m + 1)) with c := (K.c.putRec (nextR K.L 0 1 (K.d.now + 1))).1, L := keepL K.L (nextR K.L 0 1 (K.d.now + 1)) }, 0) := by
      unfold KSt.app
      rw [if_neg (by show ¬ K.sp = true; rw [hc.sp]; simp), if_neg (by show ¬ (lastR K.L).seq = _; rw [hL0]; decide)]
      exact if_pos a1
    rw [hB]
    refine ⟨rfl, l1, ?_, rfl, rfl⟩
    show keepL K.L (nextR K.L 0 1 (K.d.now + 1)) = _
    rw [hL0]
    unfold recS
    rw [if_neg (by omega), ← hmul, hT]
    rfl
  · rw [decide_eq_false hT, if_neg (by simp)]
    refine ⟨rfl, l1, ?_, rfl, rfl⟩
    show K.L = _
    rw [hL]
    unfold recS
    by_cases h2 : m < T + 2
    · rw [if_pos h2, if_pos (by omega)]
    · rw [if_neg h2, if_neg (by omega)]
theorem StopK.tick (h : StopK c T K) (hr : KRt c) (he : c.ents = [e]) (ho : onlyE e T) (hc : Calm K S) (hb : Big K.c) (nores : ¬ K.d.closed + K.d.opn < K.d.now + 1 - K.d.begun) : StopK c T (K.tick c).1 := by
  have hon : K.on = 0 := KSt.on_zero.2 ⟨hc.off, h.res⟩
  have hcy := hr.cy
  obtain ⟨cy, hcy2⟩ : ∃ cy, cy = c.cycle.toNat := ⟨_, rfl⟩
  have hkk := h.kk
  rw [← hcy2] at hkk
  have hre : K.ticked.d.reset = false := decide_eq_false nores
  unfold KSt.tick
  rw [if_neg (by omega), if_neg (by rw [hre]; simp)]
  by_cases hm : (K.d.now + 1) % c.cycle.toNat = 0
  · obtain ⟨e0, e1, e2, e3, e4⟩ := h.ends he ho hc hb hm
    have hm2 : K.ticked.d.now % c.cycle.toNat = 0 := hm
    rw [if_neg (by omega), if_pos e0]
    have hdiv : (K.d.now + 1) / cy = K.d.now / cy + 1 := Nat.succ_div_of_mod_eq_zero (by rw [hcy2]; exact hm)
    have hmul : (K.d.now / cy + 1) * cy = K.d.now + 1 := by rw [← hdiv]; exact Nat.div_mul_cancel (Nat.dvd_of_mod_eq_zero (by rw [hcy2]; exact hm))
    rw [← hcy2] at e1 e2
    generalize (K.ticked.ends c c.ents.length).1 = K5 at e1 e2 e3 e4
    have hT : K5.t.fin (K5.ls.map fun (s : LSt) => statB s.status) = tS T c.delay.toNat (K.d.now / cy + 1) := by
      rw [e4, e1, h.t, ← hcy2]
      exact tS_fin _ _ _
    have hop5 : K5.d.isOpen = decide (c.closed.toNat < K.d.now + 1 - K.d.begun) := by
      rw [e3]
      unfold DSt.isOpen
      rw [hre]
      show (!false && decide (K.d.closed < K.d.now + 1 - K.d.begun)) = _
      rw [h.cl]
      rfl
    have hnd : K5.d.now = K.d.now + 1 := by rw [e3]; rfl
    have hbg : K.d.begun = (qk c.closed.toNat cy (min (K.d.now / cy) (T + 1 + c.delay.toNat))).2 := by rw [← hkk]
    show StopK c T K5.last
    by_cases hk : ¬ T + 2 + c.delay.toNat ≤ K.d.now / cy + 1 ∧ c.closed.toNat < K.d.now + 1 - K.d.begun
    · have hL : K5.last = { { K5 with t := K5.t.fin (K5.ls.map fun (s : LSt) => statB s.status) } with d := K5.d.kick } := by
        unfold KSt.last
        simp only []
        rw [if_pos ⟨by rw [hT]; exact fun x => hk.1 ((tS_st _ _ _).1 x), by rw [hop5]; exact decide_eq_true hk.2⟩]
      rw [hL, hT]
      have hn5 : K5.d.kick.now = K.d.now + 1 := hnd
      refine ⟨?_, ?_, ?_, ?_, ?_, ?_, ?_⟩
      · show K5.ls = [lS T (K5.d.now / _)]; rw [e1, hnd, ← hcy2, hdiv]
      · show tS _ _ _ = tS T _ (K5.d.now / _); rw [hnd, ← hcy2, hdiv]
      · show K5.L = recS T _ (K5.d.now / _); rw [e2, hnd, ← hcy2, hdiv]
      · show K5.d.closed = _; rw [e3]; exact h.cl
      · show K5.d.opn = _; rw [e3]; exact h.op
      · show K5.d.reset = _; rw [e3]; exact hre
      · show (K5.d.kicks + 1, K5.d.now) = qk _ _ (min (K5.d.now / _) _)
        rw [hnd, e3, ← hcy2, hdiv, show min (K.d.now / cy + 1) (T + 1 + c.delay.toNat) = K.d.now / cy + 1 by omega]
        show (K.d.kicks + 1, K.d.now + 1) = _
        rw [show min (K.d.now / cy) (T + 1 + c.delay.toNat) = K.d.now / cy by omega] at hkk hbg
        unfold qk
        rw [if_pos (by rw [hmul, ← hbg]; exact hk.2), hmul, ← hkk]
    · have hL : K5.last = { K5 with t := K5.t.fin (K5.ls.map fun (s : LSt) => statB s.status) } := by
        unfold KSt.last
        simp only []
        rw [if_neg (fun x => hk ⟨fun y => x.1 (by rw [hT]; exact (tS_st _ _ _).2 y), by have := x.2; rw [hop5] at this; exact of_decide_eq_true this⟩)]
      rw [hL, hT]
      refine ⟨?_, ?_, ?_, ?_, ?_, ?_, ?_⟩
      · show K5.ls = [lS T (K5.d.now / _)]; rw [e1, hnd, ← hcy2, hdiv]
      · show tS _ _ _ = tS T _ (K5.d.now / _); rw [hnd, ← hcy2, hdiv]
      · show K5.L = recS T _ (K5.d.now / _); rw [e2, hnd, ← hcy2, hdiv]
      · show K5.d.closed = _; rw [e3]; exact h.cl
      · show K5.d.opn = _; rw [e3]; exact h.op
      · show K5.d.reset = _; rw [e3]; exact hre
      · show (K5.d.kicks, K5.d.begun) = qk _ _ (min (K5.d.now / _) _)
        rw [hnd, e3, ← hcy2, hdiv]
        show (K.d.kicks, K.d.begun) = _
        by_cases h3 : T + 2 + c.delay.toNat ≤ K.d.now / cy + 1
        · rw [show min (K.d.now / cy + 1) (T + 1 + c.delay.toNat) = T + 1 + c.delay.toNat by omega]
          rw [show min (K.d.now / cy) (T + 1 + c.delay.toNat) = T + 1 + c.delay.toNat by omega] at hkk
          exact hkk
        · rw [show min (K.d.now / cy + 1) (T + 1 + c.delay.toNat) = K.d.now / cy + 1 by omega]
          rw [show min (K.d.now / cy) (T + 1 + c.delay.toNat) = K.d.now / cy by omega] at hkk hbg
          unfold qk
          rw [if_neg (by rw [hmul, ← hbg]; exact fun x => hk ⟨h3, x⟩)]
          exact hkk
  · have hm2 : K.ticked.d.now % c.cycle.toNat ≠ 0 := hm
    rw [if_pos hm2]
    have hd : (K.d.now + 1) / c.cycle.toNat = K.d.now / c.cycle.toNat := Nat.succ_div_of_mod_ne_zero hm
    refine ⟨?_, ?_, ?_, h.cl, h.op, hre, ?_⟩
    · show K.ls = [lS T ((K.d.now + 1) / _)]; rw [hd]; exact h.ls
    · show K.t = tS T _ ((K.d.now + 1) / _); rw [hd]; exact h.t
    · show K.L = recS T _ ((K.d.now + 1) / _); rw [hd]; exact h.L
    · show (K.d.kicks, K.d.begun) = qk _ _ (min ((K.d.now + 1) / _) _); rw [hd]; exact h.kk
/-- Before all stops, the dog is fed in time. -/
theorem StopK.fed (h : StopK c T K) (hr : KRt c) (hn : K.d.now < (T + 2 + c.delay.toNat) * c.cycle.toNat) : ¬ K.d.closed + K.d.opn < K.d.now + 1 - K.d.begun := by
  have hcy := hr.cy
  have hle := hr.le
  have hcl := hr.cl
  obtain ⟨cy, hcy2⟩ : ∃ cy, cy = c.cycle.toNat := ⟨_, rfl⟩
  have hkk := h.kk
  rw [← hcy2] at hkk hn
  have hlt : K.d.now / cy < T + 2 + c.delay.toNat := Nat.div_lt_of_lt_mul (by rw [Nat.mul_comm]; exact hn)
  rw [show min (K.d.now / cy) (T + 1 + c.delay.toNat) = K.d.now / cy by omega] at hkk
  have hb : K.d.begun = (qk c.closed.toNat cy (K.d.now / cy)).2 := by rw [← hkk]
  obtain ⟨g1, g2⟩ := qk_le c.closed.toNat cy (K.d.now / cy)
  rw [← hb] at g1 g2
  have hdm := Nat.div_add_mod K.d.now cy
  have hmm := Nat.mod_lt K.d.now (show 0 < cy by omega)
  rw [Nat.mul_comm] at hdm
  rw [h.cl, h.op]
  omega
/-- Behind the stop it is not fed: the kicks stay. -/
theorem StopK.unfed (h : StopK c T K) (hN : T + 2 + c.delay.toNat ≤ K.d.now / c.cycle.toNat) : (K.d.kicks, K.d.begun) = qk c.closed.toNat c.cycle.toNat (T + 1 + c.delay.toNat) := by
  rw [h.kk, Nat.min_eq_right (by omega)]
end
end Go.Proofs.YtkphpgdgbnmnjacGreatDoor
