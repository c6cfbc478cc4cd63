/-
  Pairs of numbers as a map's keys ('ekey'), and a map in memory that holds a list of them ('EdgeMap'). Condition: the numbers are of int's range, as all are that are read.
-/
import Derived.Test.YtpaolneaomeoiabDoorCfArgEX
import Derived.DeepKeys4
import Derived.Maps.OwnSet
import Derived.Maps.Own
namespace Go.Proofs.YtpaolneaomeoiabDoor
open Go.RowKit Go.Extern.Stop Go.Stop Go.Extern Go.Maps

theorem Tryd.rowTwo : (59 : TypeId) < Tryd.prog.types.size := of_decide_eq_true (by kernel_rfl)
theorem Tryd.wideTwo : (match Tryd.prog.underlying 59 with | some (.array _ _) | some (.struct _) => true | _ => false) = true := by rw [Tryd.underlying59]
set_option maxRecDepth 100000 in
theorem Tryd.lawTwo : Maps.Keyed Tryd.prog 59 := Maps.Keyed.of_law (deep_law_laid Tryd.laidOut (m := 2) (by omega) Tryd.rowTwo (by kernel_rfl) Tryd.wideTwo)
theorem Tryd.keyTwo : Tryd.prog.keyType 59 = true := by kernel_rfl
theorem Tryd.ntypes : Tryd.prog.types.size = 173 := by kernel_rfl
def wf64 (n : Int) : Prop := (Lit.int .i64 n).wf = true
theorem wf64_of {n : Int} (h0 : -1 ≤ n) (h1 : n ≤ 1000000) : wf64 n := by
  show (decide (IntKind.min .i64 ≤ n) && decide (n ≤ IntKind.max .i64)) = true
  have e1 : IntKind.min .i64 = -9223372036854775808 := by decide
  have e2 : IntKind.max .i64 = 9223372036854775807 := by decide
  rw [e1, e2, decide_eq_true (by omega), decide_eq_true (by omega)]; rfl
def WfE (l : List (Int × Int)) : Prop := ∀ p ∈ l, wf64 p.1 ∧ wf64 p.2
def ekey (p : Int × Int) : Lit := .string (keyBytes [.int .i64 p.1, .int .i64 p.2])
set_option maxRecDepth 100000 in
theorem keyOf_two {a b : Int} (ha : wf64 a) (hb : wf64 b) : keyOf Tryd.prog 59 (.agg #[.int .i64 a, .int .i64 b]) = some (ekey (a, b)) := by
  unfold wf64 at ha hb
  have hf : (Value.agg #[.int .i64 a, .int .i64 b]).formed Tryd.prog 59 = true := by simp [Value.formed, Tryd.underlying59, Tryd.cellsTwo]
  have hl : Tryd.prog.keyLits (173 + 1) 59 [.int .i64 a, .int .i64 b] = some [.int .i64 a, .int .i64 b] := by
    have h1 : ∀ (n : Nat) (c : Int), (Lit.int .i64 c).wf = true → Tryd.prog.keyLits (n + 1) 3 [.int .i64 c] = some [.int .i64 c] := fun n c hc => by simp [Program.keyLits, Tryd.underlying3, hc]
    unfold Program.keyLits
    simp only [Tryd.underlying59, Tryd.cellsTwo, Tryd.cellsOne]
    have e0 := h1 (173 - 1) a ha
    have e1 := h1 (173 - 1) b hb
    simp [List.range, List.range.loop, e0, e1]
  unfold keyOf
  rw [Tryd.underlying59]
  simp only [Tryd.keyTwo, hf, Bool.and_self, if_true, Tryd.ntypes]
  rw [show (Value.agg #[.int .i64 a, .int .i64 b]).cells.toList = [.int .i64 a, .int .i64 b] from rfl, hl]
  rfl
theorem ekey_inj {p q : Int × Int} (hp : wf64 p.1 ∧ wf64 p.2) (hq : wf64 q.1 ∧ wf64 q.2) (h : ekey p = ekey q) : p = q := by
  have h1 := keyOf_two hp.1 hp.2
  have h2 := keyOf_two hq.1 hq.2
  have e := Tryd.lawTwo.inj h1 (h2.trans (by rw [show ekey (p.1, p.2) = ekey (q.1, q.2) from h]))
  simp at e
  exact Prod.ext e.1 e.2
/-- A map's datum that holds a list of pairs. -/
def EdgeMap (D : DataW Unit) (l : List (Int × Int)) : Prop :=
  IsMap D ∧ (l = [] → Maps.size D = 0) ∧ ∀ p : Int × Int, wf64 p.1 → wf64 p.2 → Maps.has D (ekey p) = decide (p ∈ l)
theorem edgeMap_nil : EdgeMap (.map []) [] := ⟨isMap_empty, fun _ => rfl, fun _ _ _ => by simp [Maps.has]⟩
theorem edgeMap_put {D : DataW Unit} {l : List (Int × Int)} (h : EdgeMap D l) (p : Int × Int) (hp : wf64 p.1 ∧ wf64 p.2) : EdgeMap (D.put (ekey p) (.agg [])) (l ++ [p]) := by
  refine ⟨h.1.put _ _, fun e => by simp at e, fun q h1 h2 => ?_⟩
  by_cases e : q = p
  · subst e
    rw [Maps.has_put_same h.1 (by trivial)]
    simp
  · have hne : ekey q ≠ ekey p := fun h' => e (ekey_inj ⟨h1, h2⟩ hp h')
    rw [Maps.has_put_other hne, h.2.2 q h1 h2]
    simp [e]
theorem edgeMap_size {D : DataW Unit} {l : List (Int × Int)} (h : EdgeMap D l) (hw : WfE l) : (Maps.size D = 0 ↔ l = []) := by
  refine ⟨fun hs => ?_, h.2.1⟩
  cases l with
  | nil => rfl
  | cons p t =>
    have h1 := h.2.2 p (hw p (by simp)).1 (hw p (by simp)).2
    obtain ⟨es, rfl⟩ := h.1
    have h0 : es = [] := List.eq_nil_of_length_eq_zero hs
    subst h0
    simp [Maps.has] at h1
end Go.Proofs.YtpaolneaomeoiabDoor
