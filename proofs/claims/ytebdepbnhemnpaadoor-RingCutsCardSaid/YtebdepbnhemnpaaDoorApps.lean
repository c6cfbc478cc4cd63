/-
  A list of appends that a law is handed, read: it lies in memory ('AppsAt'). No condition.
-/
import Derived.Test.YtebdepbnhemnpaaDoorRcSt
import Derived.ProofKit
import Derived.OpenShut
import Derived.Deep.Slices
import Derived.Carry
namespace Go.Proofs.YtebdepbnhemnpaaDoor
open Go.ChangeShapes Go.WideShapes Go.ChangeAt Go.RowKit Go.Deep

theorem Tryd.laidOut : laidOutB Tryd.prog = true := by kernel_rfl
theorem Tryd.cellsApp : Tryd.prog.cellsOf 72 = 5 := by kernel_rfl
theorem Tryd.cellsInt1 : Tryd.prog.cellsOf 3 = 1 := by kernel_rfl
theorem Tryd.cellsBool1 : Tryd.prog.cellsOf 4 = 1 := by kernel_rfl

theorem choose_apps {n : Nat} {p : Nat → AppD → Prop} (h : ∀ i, i < n → ∃ x, p i x) : ∃ f : Nat → AppD, ∀ i, i < n → p i (f i) := by
  classical
  refine ⟨fun i => if hi : i < n then Classical.choose (h i hi) else ⟨0, 0, 0, 0, false⟩, fun i hi => ?_⟩
  simp only [dif_pos hi]
  exact Classical.choose_spec (h i hi)

set_option maxRecDepth 100000 in
/-- One append, read. -/
theorem app_of_trod {H : Type} {enc : TypeId × Value → H} {W : World} {n : Nat} {cs : List Value} {x : DataW H × List MemPlace}
    (h : DataW.trod enc Tryd.prog W 0 (fun _ => true) true n 72 cs = some x) :
    ∃ d : AppD, cs = [.int .i64 d.ent, .int .i64 d.kind, .int .i64 d.tick, .int .i64 d.cut, .bool d.boot] ∧ d.cut ≤ 9223372036854775807 := by
  obtain ⟨xs, m, -, -, hl, hxs, hf⟩ := DataW.trod_struct Tryd.underlying72 h
  rw [Tryd.cellsApp] at hl
  match cs, hl with
  | [c0, c1, c2, c3, c4], _ =>
    have g : ∀ i, i < 5 → ∃ y, xs[i]? = some y := fun i hi => ⟨xs[i]'(by rw [hxs]; exact hi), List.getElem?_eq_getElem _⟩
    obtain ⟨y0, k0⟩ := g 0 (by decide)
    obtain ⟨y1, k1⟩ := g 1 (by decide)
    obtain ⟨y2, k2⟩ := g 2 (by decide)
    obtain ⟨y3, k3⟩ := g 3 (by decide)
    obtain ⟨y4, k4⟩ := g 4 (by decide)
    have e0 : DataW.trod enc Tryd.prog W 0 (fun _ => true) true m 3 [c0] = some y0 := by have e := hf 0 _ rfl; rw [k0] at e; simpa [Tryd.cellsInt1] using e
    have e1 : DataW.trod enc Tryd.prog W 0 (fun _ => true) true m 3 [c1] = some y1 := by have e := hf 1 _ rfl; rw [k1] at e; simpa [Tryd.cellsInt1] using e
    have e2 : DataW.trod enc Tryd.prog W 0 (fun _ => true) true m 3 [c2] = some y2 := by have e := hf 2 _ rfl; rw [k2] at e; simpa [Tryd.cellsInt1] using e
    have e3 : DataW.trod enc Tryd.prog W 0 (fun _ => true) true m 3 [c3] = some y3 := by have e := hf 3 _ rfl; rw [k3] at e; simpa [Tryd.cellsInt1] using e
    have e4 : DataW.trod enc Tryd.prog W 0 (fun _ => true) true m 4 [c4] = some y4 := by have e := hf 4 _ rfl; rw [k4] at e; simpa [Tryd.cellsBool1] using e
    obtain ⟨n0, q0, -, z0⟩ := DataW.trod_int Tryd.underlying3 e0
    obtain ⟨n1, q1, -, z1⟩ := DataW.trod_int Tryd.underlying3 e1
    obtain ⟨n2, q2, -, z2⟩ := DataW.trod_int Tryd.underlying3 e2
    obtain ⟨n3, q3, -, z3⟩ := DataW.trod_int Tryd.underlying3 e3
    obtain ⟨n4, q4, -⟩ := DataW.trod_bool Tryd.underlying4 e4
    simp at q0 q1 q2 q3 q4
    subst q0 q1 q2 q3 q4
    exact ⟨⟨n0, n1, n2, n3, n4⟩, rfl, (bounds_i64 z3).2⟩

theorem cells5 {W : World} {a : Addr} {c0 c1 c2 c3 c4 : Value} (h : W.cells? 0 a 5 = some [c0, c1, c2, c3, c4]) : W.cell? a = some c0 ∧ W.cell? (a.add 1) = some c1 ∧ W.cell? (a.add 2) = some c2 ∧ W.cell? (a.add 3) = some c3 ∧ W.cell? (a.add 4) = some c4 := by
  unfold World.cells? at h
  rw [if_pos (Nat.zero_le _)] at h
  have e0 : a.add 0 = a := by simp [Addr.add]
  have hr : List.range 5 = [0, 1, 2, 3, 4] := by decide
  rw [hr] at h
  simp only [List.mapM_cons, List.mapM_nil, e0] at h
  cases h0 : W.cell? a with
  | none => simp [h0] at h
  | some v0 =>
    cases h1 : W.cell? (a.add 1) with
    | none => simp [h0, h1] at h
    | some v1 =>
      cases h2 : W.cell? (a.add 2) with
      | none => simp [h0, h1, h2] at h
      | some v2 =>
        cases h3 : W.cell? (a.add 3) with
        | none => simp [h0, h1, h2, h3] at h
        | some v3 =>
          cases h4 : W.cell? (a.add 4) with
          | none => simp [h0, h1, h2, h3, h4] at h
          | some v4 =>
            simp [h0, h1, h2, h3, h4] at h
            obtain ⟨rfl, rfl, rfl, rfl, rfl⟩ := h
            exact ⟨rfl, rfl, rfl, rfl, rfl⟩

theorem spot_none {W : World} {a : Addr} {v : Value} (h : W.cell? a = some v) : a = ⟨a.block, a.off, none⟩ := by
  obtain ⟨b, o, s⟩ := a
  cases s with
  | none => rfl
  | some x =>
    exfalso
    unfold World.cell? at h
    split at h
    · simp at h
    · cases h
theorem add_plain (b o j : Nat) : (⟨b, o, none⟩ : Addr).add j = ⟨b, o + j, none⟩ := by unfold Addr.add; split <;> simp_all

/-- The appends, read: they lie in memory. -/
theorem apps_of_trod {H : Type} {enc : TypeId × Value → H} {W : World} {fuel : Nat} {sa : Option Addr} {len cap : Nat} {x : DataW H × List MemPlace}
    (h : DataW.trod enc Tryd.prog W 0 (fun _ => true) true fuel 70 [.slice sa len cap] = some x) :
    ∃ (g o : Nat) (l : Nat → AppD), len ≤ maxLen ∧ (0 < len → sa = some ⟨g, o, none⟩) ∧ AppsAt W g o len l ∧ ∀ i, i < len → (l i).cut ≤ 9223372036854775807 := by
  rcases open_slice Tryd.underlying70 h with ⟨hcs, -⟩ | ⟨a, len', cap', m, n, D, Pl, hcs, -, hlc, hcm, hm, -, hel⟩
  · simp at hcs
    obtain ⟨rfl, rfl, rfl⟩ := hcs
    exact ⟨0, 0, fun _ => ⟨0, 0, 0, 0, false⟩, Nat.zero_le _, fun h => absurd h (by omega), ⟨fun i h => absurd h (by omega), fun i h => absurd h (by omega), fun i h => absurd h (by omega), fun i h => absurd h (by omega), fun i h => absurd h (by omega)⟩, fun i h => absurd h (by omega)⟩
  · simp only [List.cons.injEq, Value.slice.injEq, and_true] at hcs
    obtain ⟨rfl, rfl, rfl⟩ := hcs
    simp only [if_true] at hm
    subst hm
    rw [Tryd.cellsApp] at hel
    have hall : ∀ i, i < len → ∃ d : AppD, W.cells? 0 (a.add (i * 5)) 5 = some [.int .i64 d.ent, .int .i64 d.kind, .int .i64 d.tick, .int .i64 d.cut, .bool d.boot] ∧ d.cut ≤ 9223372036854775807 := fun i hi => by
      obtain ⟨cs', h1, h2⟩ := hel i (by omega)
      obtain ⟨d, rfl, hd⟩ := app_of_trod h2
      exact ⟨d, h1, hd⟩
    obtain ⟨l, hl⟩ := choose_apps hall
    have hsp : 0 < len → a = ⟨a.block, a.off, none⟩ := fun hpos => by
      have h0 := (cells5 (hl 0 hpos).1).1
      have e : a.add (0 * 5) = a := by simp [Addr.add]
      rw [e] at h0
      exact spot_none h0
    refine ⟨a.block, a.off, l, Nat.le_trans hlc hcm, fun hpos => congrArg some (hsp hpos), ?_, fun i hi => (hl i hi).2⟩
    have key : ∀ i, i < len → W.cell? ⟨a.block, a.off + i * 5, none⟩ = some (.int .i64 (l i).ent) ∧ W.cell? ⟨a.block, a.off + i * 5 + 1, none⟩ = some (.int .i64 (l i).kind) ∧ W.cell? ⟨a.block, a.off + i * 5 + 2, none⟩ = some (.int .i64 (l i).tick) ∧ W.cell? ⟨a.block, a.off + i * 5 + 3, none⟩ = some (.int .i64 (l i).cut) ∧ W.cell? ⟨a.block, a.off + i * 5 + 4, none⟩ = some (.bool (l i).boot) := fun i hi => by
      have hc := cells5 (hl i hi).1
      rw [hsp (by omega)] at hc
      simp only [add_plain] at hc
      exact hc
    exact ⟨fun i hi => (key i hi).1, fun i hi => (key i hi).2.1, fun i hi => (key i hi).2.2.1, fun i hi => (key i hi).2.2.2.1, fun i hi => (key i hi).2.2.2.2⟩
end Go.Proofs.YtebdepbnhemnpaaDoor
