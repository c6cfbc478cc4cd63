/-
  Several texts as one: CfArgE, FlKey, CfCopy.
-/
import Derived.Test.YtkphpgdgbnmnjacGreatDoorB01C
import Derived.Lib.LaidTab
import Derived.ProofKit
import Derived.OpenShut
import Derived.Deep.Slices
import Derived.Carry
import Derived.DeepKeys4
import Derived.Maps.OwnSet
import Derived.Maps.Own
import Derived.Deep.Upon
import Derived.Lib.Builder
namespace Go.Proofs.YtkphpgdgbnmnjacGreatDoor
open Go.ChangeShapes Go.WideShapes Go.ChangeAt Go.RowKit Go.Deep

theorem Tryz.cellsEnt : Tryz.prog.cellsOf 38 = 10 := by kernel_rfl
theorem Tryz.cellsGap : Tryz.prog.cellsOf 138 = 4 := by kernel_rfl
theorem Tryz.cellsTwo : Tryz.prog.cellsOf 139 = 2 := by kernel_rfl
theorem Tryz.cellsOne : Tryz.prog.cellsOf 3 = 1 ∧ Tryz.prog.cellsOf 9 = 1 ∧ Tryz.prog.cellsOf 33 = 1 ∧ Tryz.prog.cellsOf 34 = 1 ∧ Tryz.prog.cellsOf 35 = 1 ∧ Tryz.prog.cellsOf 36 = 1 := ⟨by kernel_rfl, by kernel_rfl, by kernel_rfl, by kernel_rfl, by kernel_rfl, by kernel_rfl⟩

set_option maxRecDepth 100000 in
theorem two_of_trod2 {H : Type} {enc : TypeId × Value → H} {W : World} (n : Nat) (cs : List Value) (x : DataW H × List MemPlace) (h : DataW.trod enc Tryz.prog W 0 (fun _ => true) true n 139 cs = some x) : ∃ z : Int × Int, cs = encP z ∧ ((Lit.int .i64 z.1).wf = true ∧ (Lit.int .i64 z.2).wf = true) := by
  obtain ⟨xs, m, -, -, hl, hxs, hf⟩ := DataW.trod_array Tryz.underlying139 h
  rw [Tryz.cellsTwo] at hl
  match cs, hl with
  | [c0, c1], _ =>
    have g : ∀ i, i < 2 → ∃ y, xs[i]? = some y := fun i hi => ⟨xs[i]'(by rw [hxs]; exact hi), List.getElem?_eq_getElem _⟩
    obtain ⟨y0, k0⟩ := g 0 (by decide)
    obtain ⟨y1, k1⟩ := g 1 (by decide)
    have e0 := hf 0 (by decide)
    have e1 := hf 1 (by decide)
    rw [k0] at e0
    rw [k1] at e1
    simp only [Tryz.cellsOne] at e0 e1
    obtain ⟨n0, q0, -, w0⟩ := DataW.trod_int Tryz.underlying3 e0
    obtain ⟨n1, q1, -, w1⟩ := DataW.trod_int Tryz.underlying3 e1
    simp at q0 q1
    subst q0 q1
    exact ⟨(n0, n1), rfl, w0, w1⟩
set_option maxRecDepth 100000 in
theorem gap_of_trod {H : Type} {enc : TypeId × Value → H} {W : World} (n : Nat) (cs : List Value) (x : DataW H × List MemPlace) (h : DataW.trod enc Tryz.prog W 0 (fun _ => true) true n 138 cs = some x) : ∃ z : GapD, cs = encG z := by
  obtain ⟨xs, m, -, -, hl, hxs, hf⟩ := DataW.trod_struct Tryz.underlying138 h
  rw [Tryz.cellsGap] at hl
  match cs, hl with
  | [c0, c1, c2, c3], _ =>
    have g : ∀ i, i < 4 → ∃ y, xs[i]? = some y := fun i hi => ⟨xs[i]'(by rw [hxs]; exact hi), List.getElem?_eq_getElem _⟩
    obtain ⟨y0, k0⟩ := g 0 (by decide)
    obtain ⟨y1, k1⟩ := g 1 (by decide)
    obtain ⟨y2, k2⟩ := g 2 (by decide)
    obtain ⟨y3, k3⟩ := g 3 (by decide)
    have e0 : DataW.trod enc Tryz.prog W 0 (fun _ => true) true m 3 [c0] = some y0 := by have e := hf 0 _ rfl; rw [k0] at e; simpa [Tryz.cellsOne] using e
    have e1 : DataW.trod enc Tryz.prog W 0 (fun _ => true) true m 3 [c1] = some y1 := by have e := hf 1 _ rfl; rw [k1] at e; simpa [Tryz.cellsOne] using e
    have e2 : DataW.trod enc Tryz.prog W 0 (fun _ => true) true m 3 [c2] = some y2 := by have e := hf 2 _ rfl; rw [k2] at e; simpa [Tryz.cellsOne] using e
    have e3 : DataW.trod enc Tryz.prog W 0 (fun _ => true) true m 3 [c3] = some y3 := by have e := hf 3 _ rfl; rw [k3] at e; simpa [Tryz.cellsOne] using e
    obtain ⟨n0, q0, -, -⟩ := DataW.trod_int Tryz.underlying3 e0
    obtain ⟨n1, q1, -, -⟩ := DataW.trod_int Tryz.underlying3 e1
    obtain ⟨n2, q2, -, -⟩ := DataW.trod_int Tryz.underlying3 e2
    obtain ⟨n3, q3, -, -⟩ := DataW.trod_int Tryz.underlying3 e3
    simp at q0 q1 q2 q3
    subst q0 q1 q2 q3
    exact ⟨⟨n0, n1, n2, n3⟩, rfl⟩
set_option maxRecDepth 100000 in
theorem ent_of_trod2 {H : Type} {enc : TypeId × Value → H} {W : World} (n : Nat) (cs : List Value) (x : DataW H × List MemPlace) (h : DataW.trod enc Tryz.prog W 0 (fun _ => true) true n 38 cs = some x) : ∃ e : EntD, ∃ pv gv ev fv lv, cs = (entRow e pv gv ev fv lv).toList ∧ EntParts W e pv gv ev fv lv ∧ ∀ p ∈ e.edges, (Lit.int .i64 p.1).wf = true ∧ (Lit.int .i64 p.2).wf = true := by
  obtain ⟨xs, m, -, -, hl, hxs, hf⟩ := DataW.trod_struct Tryz.underlying38 h
  rw [Tryz.cellsEnt] at hl
  match cs, hl with
  | [c0, c1, c2, c3, c4, c5, c6, c7, c8, c9], _ =>
    have g : ∀ i, i < 10 → ∃ y, xs[i]? = some y := fun i hi => ⟨xs[i]'(by rw [hxs]; exact hi), List.getElem?_eq_getElem _⟩
    obtain ⟨y0, k0⟩ := g 0 (by decide)
    obtain ⟨y1, k1⟩ := g 1 (by decide)
    obtain ⟨y2, k2⟩ := g 2 (by decide)
    obtain ⟨y3, k3⟩ := g 3 (by decide)
    obtain ⟨y4, k4⟩ := g 4 (by decide)
    obtain ⟨y5, k5⟩ := g 5 (by decide)
    obtain ⟨y6, k6⟩ := g 6 (by decide)
    obtain ⟨y7, k7⟩ := g 7 (by decide)
    obtain ⟨y8, k8⟩ := g 8 (by decide)
    obtain ⟨y9, k9⟩ := g 9 (by decide)
    have e0 : DataW.trod enc Tryz.prog W 0 (fun _ => true) true m 9 [c0] = some y0 := by have e := hf 0 _ rfl; rw [k0] at e; simpa [Tryz.cellsOne] using e
    have e1 : DataW.trod enc Tryz.prog W 0 (fun _ => true) true m 3 [c1] = some y1 := by have e := hf 1 _ rfl; rw [k1] at e; simpa [Tryz.cellsOne] using e
    have e2 : DataW.trod enc Tryz.prog W 0 (fun _ => true) true m 33 [c2] = some y2 := by have e := hf 2 _ rfl; rw [k2] at e; simpa [Tryz.cellsOne] using e
    have e3 : DataW.trod enc Tryz.prog W 0 (fun _ => true) true m 3 [c3] = some y3 := by have e := hf 3 _ rfl; rw [k3] at e; simpa [Tryz.cellsOne] using e
    have e4 : DataW.trod enc Tryz.prog W 0 (fun _ => true) true m 3 [c4] = some y4 := by have e := hf 4 _ rfl; rw [k4] at e; simpa [Tryz.cellsOne] using e
    have e5 : DataW.trod enc Tryz.prog W 0 (fun _ => true) true m 3 [c5] = some y5 := by have e := hf 5 _ rfl; rw [k5] at e; simpa [Tryz.cellsOne] using e
    have e6 : DataW.trod enc Tryz.prog W 0 (fun _ => true) true m 34 [c6] = some y6 := by have e := hf 6 _ rfl; rw [k6] at e; simpa [Tryz.cellsOne] using e
    have e7 : DataW.trod enc Tryz.prog W 0 (fun _ => true) true m 35 [c7] = some y7 := by have e := hf 7 _ rfl; rw [k7] at e; simpa [Tryz.cellsOne] using e
    have e8 : DataW.trod enc Tryz.prog W 0 (fun _ => true) true m 36 [c8] = some y8 := by have e := hf 8 _ rfl; rw [k8] at e; simpa [Tryz.cellsOne] using e
    have e9 : DataW.trod enc Tryz.prog W 0 (fun _ => true) true m 36 [c9] = some y9 := by have e := hf 9 _ rfl; rw [k9] at e; simpa [Tryz.cellsOne] using e
    obtain ⟨n0, q0, -, -⟩ := DataW.trod_string Tryz.underlying9 e0
    obtain ⟨n1, q1, -, -⟩ := DataW.trod_int Tryz.underlying3 e1
    obtain ⟨n3, q3, -, -⟩ := DataW.trod_int Tryz.underlying3 e3
    obtain ⟨n4, q4, -, -⟩ := DataW.trod_int Tryz.underlying3 e4
    obtain ⟨n5, q5, -, -⟩ := DataW.trod_int Tryz.underlying3 e5
    obtain ⟨l2, h2⟩ := sl_of_trod ByteArray.empty (ec := encS) Tryz.underlying33 Tryz.cellsOne.2.1 (by decide) str_of_trod e2
    obtain ⟨l6, h6⟩ := sl_of_trod (⟨0, 0, 0, 0⟩ : GapD) (ec := encG) Tryz.underlying34 Tryz.cellsGap (by decide) gap_of_trod e6
    obtain ⟨l7, h7, w7⟩ := sl_of_trod2 ((0, 0) : Int × Int) (ec := encP) (R := fun p => (Lit.int .i64 p.1).wf = true ∧ (Lit.int .i64 p.2).wf = true) Tryz.underlying35 Tryz.cellsTwo (by decide) two_of_trod2 e7
    obtain ⟨l8, h8⟩ := sl_of_trod (0 : Int) (ec := encI) Tryz.underlying36 Tryz.cellsOne.1 (by decide) int_of_trod e8
    obtain ⟨l9, h9⟩ := sl_of_trod (0 : Int) (ec := encI) Tryz.underlying36 Tryz.cellsOne.1 (by decide) int_of_trod e9
    simp at q0 q1 q3 q4 q5
    subst q0 q1 q3 q4 q5
    exact ⟨⟨n0, n1, l2, n3, n4, n5, l6, l7, l8, l9⟩, c2, c6, c7, c8, c9, rfl, ⟨h2, h6, h7, h8, h9⟩, w7⟩
theorem ent_of_trod {H : Type} {enc : TypeId × Value → H} {W : World} (n : Nat) (cs : List Value) (x : DataW H × List MemPlace) (h : DataW.trod enc Tryz.prog W 0 (fun _ => true) true n 38 cs = some x) : ∃ e : EntD, ∃ pv gv ev fv lv, cs = (entRow e pv gv ev fv lv).toList ∧ EntParts W e pv gv ev fv lv := by
  obtain ⟨e, pv, gv, ev, fv, lv, h1, h2, -⟩ := ent_of_trod2 n cs x h
  exact ⟨e, pv, gv, ev, fv, lv, h1, h2⟩
end Go.Proofs.YtkphpgdgbnmnjacGreatDoor

namespace Go.Proofs.YtkphpgdgbnmnjacGreatDoor
open Go.RowKit Go.Extern.Stop Go.Stop Go.Extern Go.Maps

theorem Tryz.rowTwo : (139 : TypeId) < Tryz.prog.types.size := of_decide_eq_true (by kernel_rfl)
theorem Tryz.wideTwo : (match Tryz.prog.underlying 139 with | some (.array _ _) | some (.struct _) => true | _ => false) = true := by rw [Tryz.underlying139]
set_option maxRecDepth 100000 in
theorem Tryz.lawTwo : Maps.Keyed Tryz.prog 139 := Maps.Keyed.of_law (deep_law_laid Tryz.laidOut (m := 2) (by omega) Tryz.rowTwo (by kernel_rfl) Tryz.wideTwo)
theorem Tryz.keyTwo : Tryz.prog.keyType 139 = true := by kernel_rfl
theorem Tryz.ntypes : Tryz.prog.types.size = 323 := by kernel_rfl
def wf64 (n : Int) : Prop := (Lit.int .i64 n).wf = true
theorem wf64_of {n : Int} (h0 : -1 ≤ n) (h1 : n ≤ 1000000) : wf64 n := by
  show (decide (IntKind.min .i64 ≤ n) && decide (n ≤ IntKind.max .i64)) = true
  have e1 : IntKind.min .i64 = -9223372036854775808 := by decide
  have e2 : IntKind.max .i64 = 9223372036854775807 := by decide
  rw [e1, e2, decide_eq_true (by omega), decide_eq_true (by omega)]; rfl
def WfE (l : List (Int × Int)) : Prop := ∀ p ∈ l, wf64 p.1 ∧ wf64 p.2
def ekey (p : Int × Int) : Lit := .string (keyBytes [.int .i64 p.1, .int .i64 p.2])
set_option maxRecDepth 100000 in
theorem keyOf_two {a b : Int} (ha : wf64 a) (hb : wf64 b) : keyOf Tryz.prog 139 (.agg #[.int .i64 a, .int .i64 b]) = some (ekey (a, b)) := by
  unfold wf64 at ha hb
  have hf : (Value.agg #[.int .i64 a, .int .i64 b]).formed Tryz.prog 139 = true := by simp [Value.formed, Tryz.underlying139, Tryz.cellsTwo]
  have hl : Tryz.prog.keyLits (323 + 1) 139 [.int .i64 a, .int .i64 b] = some [.int .i64 a, .int .i64 b] := by
    have h1 : ∀ (n : Nat) (c : Int), (Lit.int .i64 c).wf = true → Tryz.prog.keyLits (n + 1) 3 [.int .i64 c] = some [.int .i64 c] := fun n c hc => by simp [Program.keyLits, Tryz.underlying3, hc]
    unfold Program.keyLits
    simp only [Tryz.underlying139, Tryz.cellsTwo, Tryz.cellsOne]
    have e0 := h1 (323 - 1) a ha
    have e1 := h1 (323 - 1) b hb
    simp [List.range, List.range.loop, e0, e1]
  unfold keyOf
  rw [Tryz.underlying139]
  simp only [Tryz.keyTwo, hf, Bool.and_self, if_true, Tryz.ntypes]
  rw [show (Value.agg #[.int .i64 a, .int .i64 b]).cells.toList = [.int .i64 a, .int .i64 b] from rfl, hl]
  rfl
theorem ekey_inj {p q : Int × Int} (hp : wf64 p.1 ∧ wf64 p.2) (hq : wf64 q.1 ∧ wf64 q.2) (h : ekey p = ekey q) : p = q := by
  have h1 := keyOf_two hp.1 hp.2
  have h2 := keyOf_two hq.1 hq.2
  have e := Tryz.lawTwo.inj h1 (h2.trans (by rw [show ekey (p.1, p.2) = ekey (q.1, q.2) from h]))
  simp at e
  exact Prod.ext e.1 e.2
/-- A map's datum that holds a list of pairs. -/
def EdgeMap (D : DataW Unit) (l : List (Int × Int)) : Prop :=
  IsMap D ∧ (l = [] → Maps.size D = 0) ∧ ∀ p : Int × Int, wf64 p.1 → wf64 p.2 → Maps.has D (ekey p) = decide (p ∈ l)
theorem edgeMap_nil : EdgeMap (.map []) [] := ⟨isMap_empty, fun _ => rfl, fun _ _ _ => by simp [Maps.has]⟩
theorem edgeMap_put {D : DataW Unit} {l : List (Int × Int)} (h : EdgeMap D l) (p : Int × Int) (hp : wf64 p.1 ∧ wf64 p.2) : EdgeMap (D.put (ekey p) (.agg [])) (l ++ [p]) := by
  refine ⟨h.1.put _ _, fun e => by simp at e, fun q h1 h2 => ?_⟩
  by_cases e : q = p
  · subst e
    rw [Maps.has_put_same h.1 (by trivial)]
    simp
  · have hne : ekey q ≠ ekey p := fun h' => e (ekey_inj ⟨h1, h2⟩ hp h')
    rw [Maps.has_put_other hne, h.2.2 q h1 h2]
    simp [e]
theorem edgeMap_size {D : DataW Unit} {l : List (Int × Int)} (h : EdgeMap D l) (hw : WfE l) : (Maps.size D = 0 ↔ l = []) := by
  refine ⟨fun hs => ?_, h.2.1⟩
  cases l with
  | nil => rfl
  | cons p t =>
    have h1 := h.2.2 p (hw p (by simp)).1 (hw p (by simp)).2
    obtain ⟨es, rfl⟩ := h.1
    have h0 : es = [] := List.eq_nil_of_length_eq_zero hs
    subst h0
    simp [Maps.has] at h1
end Go.Proofs.YtkphpgdgbnmnjacGreatDoor

namespace Go.Proofs.YtkphpgdgbnmnjacGreatDoor
open Go.RowKit Go.Extern.Stop Go.Stop Go.Extern

theorem addC_plain (b o j : Nat) : (⟨b, o, none⟩ : Addr).add j = ⟨b, o + j, none⟩ := by unfold Addr.add; split <;> simp_all
/-- A list in a row of its own, from block B on. -/
def SlOwn {α : Type} (enc : α → List Value) (k : Nat) (T : TypeId) (B : Nat) (w : World) (v : Value) (xs : List α) : Prop := w.ownsRow B T k v xs.length (xs.flatMap enc)
theorem flat_at {α : Type} {enc : α → List Value} {k : Nat} (henc : ∀ x, (enc x).length = k) : ∀ (xs : List α) (i j : Nat) (x : α) (u : Value), xs[i]? = some x → (enc x)[j]? = some u → (xs.flatMap enc)[i * k + j]? = some u
  | [], i, j, x, u, h, _ => by simp at h
  | y :: t, 0, j, x, u, h, hu => by
    simp at h
    subst h
    have hj : j < (enc y).length := (List.getElem?_eq_some_iff.1 hu).1
    rw [List.flatMap_cons, Nat.zero_mul, Nat.zero_add, List.getElem?_append_left hj]
    exact hu
  | y :: t, i + 1, j, x, u, h, hu => by
    have ih := flat_at henc t i j x u (by simpa using h) hu
    rw [List.flatMap_cons, List.getElem?_append_right (by rw [henc]; rw [Nat.succ_mul]; omega), henc]
    have e : (i + 1) * k + j - k = i * k + j := by rw [Nat.succ_mul]; omega
    rw [e]
    exact ih
theorem flat_len {α : Type} {enc : α → List Value} {k : Nat} (henc : ∀ x, (enc x).length = k) : ∀ (xs : List α), (xs.flatMap enc).length = xs.length * k
  | [] => by simp
  | y :: t => by rw [List.flatMap_cons, List.length_append, henc, flat_len henc t, List.length_cons, Nat.succ_mul]; omega
theorem flat_of {α : Type} {enc : α → List Value} {k : Nat} (henc : ∀ x, (enc x).length = k) : ∀ (xs : List α) (n : Nat) (u : Value), (xs.flatMap enc)[n]? = some u → ∃ i j x, n = i * k + j ∧ xs[i]? = some x ∧ (enc x)[j]? = some u
  | [], n, u, h => by simp at h
  | y :: t, n, u, h => by
    rw [List.flatMap_cons] at h
    by_cases hn : n < k
    · rw [List.getElem?_append_left (by rw [henc]; exact hn)] at h
      exact ⟨0, n, y, by simp, rfl, h⟩
    · rw [List.getElem?_append_right (by rw [henc]; omega), henc] at h
      obtain ⟨i, j, x, e, h1, h2⟩ := flat_of henc t (n - k) u h
      exact ⟨i + 1, j, x, by rw [Nat.succ_mul]; omega, by simpa using h1, h2⟩
theorem SlOwn.slat {α : Type} {enc : α → List Value} {k : Nat} {T : TypeId} {B : Nat} {w : World} {v : Value} {xs : List α} (h : SlOwn enc k T B w v xs) (henc : ∀ x, (enc x).length = k) : SlAt enc k w v xs := by
  rcases h.2 with ⟨rfl, h0⟩ | ⟨g, cap, cur, rfl, hB, hg, hle, -⟩
  · have : xs = [] := List.eq_nil_of_length_eq_zero h0
    subst this
    exact ⟨none, 0, rfl, Nat.le_refl _, fun e => absurd rfl e⟩
  · refine ⟨_, cap, rfl, hle, fun _ => ⟨g, 0, rfl, fun i x hx j u hu => ?_⟩⟩
    have := h.cells (g := g) rfl (i * k + j) u (flat_at henc xs i j x u hx hu)
    rw [addC_plain] at this
    rw [Nat.add_assoc]
    exact this
theorem SlOwn.below {α : Type} {enc : α → List Value} {k : Nat} {T : TypeId} {B : Nat} {w w' : World} {v : Value} {xs : List α} (h : SlOwn enc k T B w v xs) (hb : Below w.heap.size w w') : SlOwn enc k T B w' v xs :=
  h.kept (row := none) ⟨hb.os, hb.tape, hb.output, hb.size, fun k hk _ => hb.block k hk⟩ (by by_cases e : v.ownBlock = none; exact Or.inl e; exact Or.inr e)
/-- While a block of another type is written. -/
theorem SlOwn.other {α : Type} {enc : α → List Value} {T T' : TypeId} {B b : Nat} {w w' : World} {v : Value} {xs : List α} {k : Nat} (h : SlOwn enc k T B w v xs) (hg : w.grownBy w' (some b)) {c : Array Value} {fr : Nat × Nat} (hb : w.heap[b]? = some (.cells c T' fr)) (hT : T' ≠ T) : SlOwn enc k T B w' v xs := by
  refine h.kept hg (Or.inr ?_)
  rcases h.2 with ⟨rfl, _⟩ | ⟨g, cap, cur, rfl, _, hg', _⟩
  · simp [Value.ownBlock]
  · intro e
    simp only [Value.ownBlock, Option.some.injEq] at e
    subst e
    rw [hg'] at hb
    simp only [Option.some.injEq, Obj.cells.injEq] at hb
    exact hT hb.2.1.symm
theorem grown_setCell (w : World) (b j : Nat) (v : Value) : w.grownBy (w.setCell ⟨b, j, none⟩ v) (some b) :=
  ⟨rfl, rfl, rfl, by simp [World.setCell], fun k _ hk => Below.heap_setCell _ _ _ _ (fun e => hk (by simp [e]))⟩
set_option maxHeartbeats 1000000 in
/-- 'append(nil, l...)', for the walk. -/
theorem wpList_copy {α : Type} {w : World} {ops : Array Oper} {rest : List Oper} {o : Oper} {a : Act} {Q : Exit → Act → World → Prop} (hgd : o.guard = none) (s x : Operand) (t : TypeId)
    (ho : o.op = .call { callee := .builtin .append, args := #[s, x], argTypes := #[t, t] })
    (B : Nat) (e : TypeId) (i : TypeInfo) (z : Value) (size bytes : Nat) (ht : Tryz.prog.underlying t = some (.slice e)) (hi : Tryz.prog.info? e = some i) (hz : i.zero = some z) (hsize : i.size = size) (hby : i.bytes = bytes) (hzs : z.cells.size = size) (hsz : 0 < size)
    (hs : a.eval s = .slice none 0 0) (enc : α → List Value) (henc : ∀ x, (enc x).length = size) (h1 : ∀ x, ∀ u ∈ enc x, u.oneCell' = true) (v : Value) (xs : List α) (hx : a.eval x = v) (hv : SlAt enc size w v xs) (hm : xs.length ≤ 1000000) (hbb : bytes ≤ 1000) (hB : B ≤ w.heap.size)
    (h : ∀ sa' cap' w', SlOwn enc size e B w' (.slice sa' xs.length cap') xs → Below w.heap.size w w' → wpList Tryz.prog ops Q rest (a.put o.dst (.slice sa' xs.length cap')) w') : wpList Tryz.prog ops Q (o :: rest) a w := by
  obtain ⟨sa, cap, rfl, hle, hcell⟩ := hv
  by_cases hne : xs = []
  · subst hne
    refine wpList_plain hgd fun K hK => ?_
    have hsrc : Src Tryz.prog i.size t (.slice sa 0 cap) 0 [] w := by
      cases sa with
      | none => exact Src.ofNil w ht cap
      | some ad => exact Src.ofSlice w ht ad 0 cap [] (by simp) (fun j u hu => by simp at hu) (fun u hu => by simp at hu)
    have hr := run_append_nothing (P := Tryz.prog) w t t o.type e i ht hi none 0 0 (Nat.le_refl _) (.slice sa 0 cap) hsrc
    unfold Oper.wp execOp
    simp only [List.length_nil] at hx
    simp only [ho, resolve, invoke, builtin, Sem.run_bind, Sem.run_pure, Result.andThen_ok, List.map_toArray, List.map_cons, List.map_nil, hs, hx, hr]
    exact hK _ _ (h none 0 w (World.ownsRow_nil _ _ _ _) (Below.refl _ _))
  · obtain ⟨b, of, rfl, hc⟩ := hcell hne
    refine wpList_append_own w hgd s x t ho w.heap.size e i z size bytes ht hi hz hsize hby hzs hsz (.slice none 0 0) 0 [] hs (World.ownsRow_nil _ _ _ _) ⟨b, of, none⟩ xs.length cap (xs.flatMap enc) hx (flat_len henc xs) (fun j u hu => ?_) (fun u hu => ?_) (by unfold maxLen; omega) ?_ (Nat.le_refl _) (fun v' w' hown hg hn => ?_)
    · obtain ⟨i', j', y, e1, h2, h3⟩ := flat_of henc xs j u hu
      have := hc i' y h2 j' u h3
      rw [e1, addC_plain, ← Nat.add_assoc]
      exact this
    · simp only [List.mem_flatMap] at hu
      obtain ⟨y, -, hy⟩ := hu
      exact h1 y u hy
    · have : (0 + xs.length) * bytes ≤ 1000000 * 1000 := Nat.mul_le_mul (by omega) hbb
      omega
    · have hown' : w'.ownsRow w.heap.size e size v' xs.length (xs.flatMap enc) := by simpa using hown
      have hb : Below w.heap.size w w' := (Below.refl _ _).grown hg (Nat.le_refl _) (fun k hk => by simp [Value.ownBlock] at hk)
      rcases hown'.2 with ⟨rfl, h0⟩ | ⟨g, cap2, cur, rfl, hB2, r⟩
      · exact absurd (List.eq_nil_of_length_eq_zero h0) hne
      · exact h _ _ w' ⟨hown'.1, Or.inr ⟨g, cap2, cur, rfl, Nat.le_trans hB hB2, r⟩⟩ hb
end Go.Proofs.YtkphpgdgbnmnjacGreatDoor
