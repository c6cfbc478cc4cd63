/-
  A config that a law is handed, read: it lies in memory ('EntsAt'). No condition.
-/
import Derived.Test.YtcnfkdecghdphaaGreatDoorCfArgEX
import Derived.Test.YtcnfkdecghdphaaGreatDoorCfMemX
namespace Go.Proofs.YtcnfkdecghdphaaGreatDoor
open Go.ChangeShapes Go.WideShapes Go.ChangeAt Go.RowKit Go.Deep

theorem Tryz.cellsCfg : Tryz.prog.cellsOf 24 = 5 := by kernel_rfl
theorem Tryz.cellsEnts : Tryz.prog.cellsOf 22 = 1 := by kernel_rfl
theorem ents_of_trod {H : Type} {enc : TypeId × Value → H} {W : World} {fuel : Nat} {v : Value} {x : DataW H × List MemPlace} (h : DataW.trod enc Tryz.prog W 0 (fun _ => true) true fuel 22 [v] = some x) : ∃ sa sc, ∃ es : List EntD, v = .slice sa es.length sc ∧ EntsAt W (.slice sa es.length sc) es := by
  obtain ⟨sa, cap, xs, hcs, hl, hx⟩ := sl_gen (⟨ByteArray.empty, 0, [], 0, 0, 0, [], [], [], []⟩ : EntD) (Q := fun cs e => ∃ pv gv ev fv lv, cs = (entRow e pv gv ev fv lv).toList ∧ EntParts W e pv gv ev fv lv) Tryz.underlying22 Tryz.cellsEnt (by decide) ent_of_trod h
  simp only [List.cons.injEq, and_true] at hcs
  refine ⟨sa, cap, xs, hcs, sa, cap, rfl, fun hne => ?_⟩
  obtain ⟨b, o, h1, h2⟩ := hx hne
  refine ⟨b, o, h1, fun i y hy => ?_⟩
  obtain ⟨cs', ⟨pv, gv, ev, fv, lv, rfl, h3⟩, h4⟩ := h2 i y hy
  exact ⟨pv, gv, ev, fv, lv, h3, fun j u hu => h4 j u (by rw [Array.getElem?_toList]; exact hu)⟩
set_option maxRecDepth 100000 in
/-- A config, read. -/
theorem cfg_of_trod {H : Type} {enc : TypeId × Value → H} {W : World} {n : Nat} {cs : List Value} {x : DataW H × List MemPlace} (h : DataW.trod enc Tryz.prog W 0 (fun _ => true) true n 24 cs = some x) : ∃ (c : CfgD) (sa : Option Addr) (sc : Nat), cs = [.int .i64 c.closed, .int .i64 c.opn, .int .i64 c.cycle, .int .i64 c.delay, .slice sa c.ents.length sc] ∧ EntsAt W (.slice sa c.ents.length sc) c.ents := by
  obtain ⟨xs, m, -, -, hl, hxs, hf⟩ := DataW.trod_struct Tryz.underlying24 h
  rw [Tryz.cellsCfg] at hl
  match cs, hl with
  | [c0, c1, c2, c3, c4], _ =>
    have g : ∀ i, i < 5 → ∃ y, xs[i]? = some y := fun i hi => ⟨xs[i]'(by rw [hxs]; exact hi), List.getElem?_eq_getElem _⟩
    obtain ⟨y0, k0⟩ := g 0 (by decide)
    obtain ⟨y1, k1⟩ := g 1 (by decide)
    obtain ⟨y2, k2⟩ := g 2 (by decide)
    obtain ⟨y3, k3⟩ := g 3 (by decide)
    obtain ⟨y4, k4⟩ := g 4 (by decide)
    have e0 : DataW.trod enc Tryz.prog W 0 (fun _ => true) true m 3 [c0] = some y0 := by have e := hf 0 _ rfl; rw [k0] at e; simpa [Tryz.cellsOne, Tryz.cellsEnts] using e
    have e1 : DataW.trod enc Tryz.prog W 0 (fun _ => true) true m 3 [c1] = some y1 := by have e := hf 1 _ rfl; rw [k1] at e; simpa [Tryz.cellsOne, Tryz.cellsEnts] using e
    have e2 : DataW.trod enc Tryz.prog W 0 (fun _ => true) true m 3 [c2] = some y2 := by have e := hf 2 _ rfl; rw [k2] at e; simpa [Tryz.cellsOne, Tryz.cellsEnts] using e
    have e3 : DataW.trod enc Tryz.prog W 0 (fun _ => true) true m 3 [c3] = some y3 := by have e := hf 3 _ rfl; rw [k3] at e; simpa [Tryz.cellsOne, Tryz.cellsEnts] using e
    have e4 : DataW.trod enc Tryz.prog W 0 (fun _ => true) true m 22 [c4] = some y4 := by have e := hf 4 _ rfl; rw [k4] at e; simpa [Tryz.cellsOne, Tryz.cellsEnts] using e
    obtain ⟨n0, q0, -, -⟩ := DataW.trod_int Tryz.underlying3 e0
    obtain ⟨n1, q1, -, -⟩ := DataW.trod_int Tryz.underlying3 e1
    obtain ⟨n2, q2, -, -⟩ := DataW.trod_int Tryz.underlying3 e2
    obtain ⟨n3, q3, -, -⟩ := DataW.trod_int Tryz.underlying3 e3
    obtain ⟨sa, sc, es, rfl, h4⟩ := ents_of_trod e4
    simp at q0 q1 q2 q3
    subst q0 q1 q2 q3
    exact ⟨⟨n0, n1, n2, n3, es⟩, sa, sc, rfl, h4⟩
end Go.Proofs.YtcnfkdecghdphaaGreatDoor
