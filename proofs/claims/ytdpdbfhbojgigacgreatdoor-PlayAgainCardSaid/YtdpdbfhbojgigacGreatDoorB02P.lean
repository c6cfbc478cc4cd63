/-
  Several texts as one: CfArgB, CfArgE, CfMem, CfArg, PlArg, CellsSt, Four.
-/
import Derived.Test.YtdpdbfhbojgigacGreatDoorB01P
import Derived.Lib.LaidTab
import Derived.ProofKit
import Derived.OpenShut
import Derived.Deep.Slices
import Derived.Carry
import Derived.BigQuiet
import Derived.Deep.QuietTactic
import Derived.Deep.DeepCutAuto
import Derived.WalkSmall
namespace Go.Proofs.YtdpdbfhbojgigacGreatDoor
open Go.ChangeShapes Go.WideShapes Go.ChangeAt Go.RowKit Go.Deep

theorem Tryz.laidOut : laidOutB Tryz.prog = true := by kernel_rfl
theorem spot_none {W : World} {a : Addr} {v : Value} (h : W.cell? a = some v) : a = ⟨a.block, a.off, none⟩ := by
  obtain ⟨b, o, s⟩ := a
  cases s with
  | none => rfl
  | some x =>
    exfalso
    unfold World.cell? at h
    split at h
    · simp at h
    · cases h
theorem add_plain (b o j : Nat) : (⟨b, o, none⟩ : Addr).add j = ⟨b, o + j, none⟩ := by unfold Addr.add; split <;> simp_all
theorem cells_of {W : World} {a : Addr} {k : Nat} {cs : List Value} (h : W.cells? 0 a k = some cs) : cs.length = k ∧ ∀ j u, cs[j]? = some u → W.cell? (a.add j) = some u := by
  unfold World.cells? at h
  rw [if_pos (Nat.zero_le _)] at h
  have hl : cs.length = k := by simpa using Lib.mapM_length h
  refine ⟨hl, fun j u hu => ?_⟩
  have hj : j < k := by have := (List.getElem?_eq_some_iff.1 hu).1; omega
  obtain ⟨b, h1, h2⟩ := Lib.mapM_at h j j (by simp [hj])
  rw [hu] at h1
  cases h1
  exact h2
theorem choose_any {α : Type} (d : α) {n : Nat} {p : Nat → α → Prop} (h : ∀ i, i < n → ∃ x, p i x) : ∃ f : Nat → α, ∀ i, i < n → p i (f i) := by
  classical
  refine ⟨fun i => if hi : i < n then Classical.choose (h i hi) else d, fun i hi => ?_⟩
  simp only [dif_pos hi]
  exact Classical.choose_spec (h i hi)
/-- A slice, read: its elements lie in memory, each as it is read. -/
theorem sl_gen {α : Type} (d : α) {Q : List Value → α → Prop} {H : Type} {enc : TypeId × Value → H} {W : World} {T Ts : TypeId} {k fuel : Nat} {cs : List Value} {x : DataW H × List MemPlace} (hs : Tryz.prog.underlying Ts = some (.slice T)) (hk : Tryz.prog.cellsOf T = k) (hk0 : 0 < k)
    (hel : ∀ n cs x, DataW.trod enc Tryz.prog W 0 (fun _ => true) true n T cs = some x → ∃ a, Q cs a) (h : DataW.trod enc Tryz.prog W 0 (fun _ => true) true fuel Ts cs = some x) :
    ∃ (sa : Option Addr) (cap : Nat) (xs : List α), cs = [.slice sa xs.length cap] ∧ xs.length ≤ cap ∧ (xs ≠ [] → ∃ b o, sa = some ⟨b, o, none⟩ ∧ ∀ i a, xs[i]? = some a → ∃ cs', Q cs' a ∧ ∀ j u, cs'[j]? = some u → W.cell? ⟨b, o + i * k + j, none⟩ = some u) := by
  rcases open_slice hs h with ⟨hcs, -⟩ | ⟨a, len, cap, m, n, D, Pl, hcs, -, hlc, hcm, hm, -, hall⟩
  · exact ⟨none, 0, [], by simpa using hcs, Nat.le_refl _, fun e => absurd rfl e⟩
  · simp only [if_true] at hm
    subst hm
    rw [hk] at hall
    obtain ⟨f, hf⟩ := choose_any d (n := len) (p := fun i y => ∃ cs', Q cs' y ∧ W.cells? 0 (a.add (i * k)) k = some cs') (fun i hi => by
      obtain ⟨cs', h1, h2⟩ := hall i (by omega)
      obtain ⟨y, hy⟩ := hel _ _ _ h2
      exact ⟨y, cs', hy, h1⟩)
    have hxl : ((List.range len).map f).length = len := by simp
    refine ⟨some a, m, (List.range len).map f, by rw [hxl]; exact hcs, by rw [hxl]; exact hlc, fun hne => ?_⟩
    have hpos : 0 < len := by
      rcases Nat.eq_zero_or_pos len with h0 | h0
      · subst h0; exact absurd rfl hne
      · exact h0
    have ha : a = ⟨a.block, a.off, none⟩ := by
      obtain ⟨cs', -, h1⟩ := hf 0 hpos
      obtain ⟨hl, hc⟩ := cells_of h1
      have e : (a.add (0 * k)).add 0 = a := by simp [Addr.add]
      have := hc 0 (cs'[0]'(by omega)) (List.getElem?_eq_getElem _)
      rw [e] at this
      exact spot_none this
    refine ⟨a.block, a.off, congrArg some ha, fun i y hy => ?_⟩
    rw [List.getElem?_map, Option.map_eq_some_iff] at hy
    obtain ⟨i', hi', rfl⟩ := hy
    obtain ⟨hil0, hi2⟩ := List.getElem?_eq_some_iff.1 hi'
    have hil : i < len := by simpa using hil0
    obtain rfl : i = i' := by simpa using hi2
    obtain ⟨cs', h1, h2⟩ := hf i hil
    refine ⟨cs', h1, fun j u hu => ?_⟩
    have := (cells_of h2).2 j u hu
    rw [ha, add_plain, add_plain] at this
    exact this
theorem sl_of_trod {α : Type} (d : α) {ec : α → List Value} {H : Type} {enc : TypeId × Value → H} {W : World} {T Ts : TypeId} {k fuel : Nat} {v : Value} {x : DataW H × List MemPlace} (hs : Tryz.prog.underlying Ts = some (.slice T)) (hk : Tryz.prog.cellsOf T = k) (hk0 : 0 < k)
    (hel : ∀ n cs x, DataW.trod enc Tryz.prog W 0 (fun _ => true) true n T cs = some x → ∃ a, cs = ec a) (h : DataW.trod enc Tryz.prog W 0 (fun _ => true) true fuel Ts [v] = some x) : ∃ xs : List α, SlAt ec k W v xs := by
  obtain ⟨sa, cap, xs, hcs, hl, hx⟩ := sl_gen d (Q := fun cs a => cs = ec a) hs hk hk0 hel h
  simp only [List.cons.injEq, and_true] at hcs
  refine ⟨xs, sa, cap, hcs, hl, fun hne => ?_⟩
  obtain ⟨b, o, h1, h2⟩ := hx hne
  refine ⟨b, o, h1, fun i y hy j u hu => ?_⟩
  obtain ⟨cs', rfl, h3⟩ := h2 i y hy
  exact h3 j u hu
theorem sl_of_trod2 {α : Type} (d : α) {ec : α → List Value} {R : α → Prop} {H : Type} {enc : TypeId × Value → H} {W : World} {T Ts : TypeId} {k fuel : Nat} {v : Value} {x : DataW H × List MemPlace} (hs : Tryz.prog.underlying Ts = some (.slice T)) (hk : Tryz.prog.cellsOf T = k) (hk0 : 0 < k)
    (hel : ∀ n cs x, DataW.trod enc Tryz.prog W 0 (fun _ => true) true n T cs = some x → ∃ a, cs = ec a ∧ R a) (h : DataW.trod enc Tryz.prog W 0 (fun _ => true) true fuel Ts [v] = some x) : ∃ xs : List α, SlAt ec k W v xs ∧ ∀ a ∈ xs, R a := by
  obtain ⟨sa, cap, xs, hcs, hl, hx⟩ := sl_gen d (Q := fun cs a => cs = ec a ∧ R a) hs hk hk0 hel h
  simp only [List.cons.injEq, and_true] at hcs
  refine ⟨xs, ⟨sa, cap, hcs, hl, fun hne => ?_⟩, fun a ha => ?_⟩
  · obtain ⟨b, o, h1, h2⟩ := hx hne
    refine ⟨b, o, h1, fun i y hy j u hu => ?_⟩
    obtain ⟨cs', ⟨rfl, -⟩, h3⟩ := h2 i y hy
    exact h3 j u hu
  · obtain ⟨i, hi⟩ := List.getElem?_of_mem ha
    obtain ⟨b, o, h1, h2⟩ := hx (fun e => by rw [e] at ha; cases ha)
    obtain ⟨cs', ⟨-, hr⟩, -⟩ := h2 i a hi
    exact hr
theorem int_of_trod {H : Type} {enc : TypeId × Value → H} {W : World} (n : Nat) (cs : List Value) (x : DataW H × List MemPlace) (h : DataW.trod enc Tryz.prog W 0 (fun _ => true) true n 3 cs = some x) : ∃ z : Int, cs = encI z := by
  obtain ⟨z, h1, -, -⟩ := DataW.trod_int Tryz.underlying3 h
  exact ⟨z, h1⟩
theorem str_of_trod {H : Type} {enc : TypeId × Value → H} {W : World} (n : Nat) (cs : List Value) (x : DataW H × List MemPlace) (h : DataW.trod enc Tryz.prog W 0 (fun _ => true) true n 9 cs = some x) : ∃ z : ByteArray, cs = encS z := by
  obtain ⟨z, h1, -, -⟩ := DataW.trod_string Tryz.underlying9 h
  exact ⟨z, h1⟩
end Go.Proofs.YtdpdbfhbojgigacGreatDoor

namespace Go.Proofs.YtdpdbfhbojgigacGreatDoor
open Go.ChangeShapes Go.WideShapes Go.ChangeAt Go.RowKit Go.Deep

theorem Tryz.cellsEnt : Tryz.prog.cellsOf 38 = 10 := by kernel_rfl
theorem Tryz.cellsGap : Tryz.prog.cellsOf 145 = 4 := by kernel_rfl
theorem Tryz.cellsTwo : Tryz.prog.cellsOf 146 = 2 := by kernel_rfl
theorem Tryz.cellsOne : Tryz.prog.cellsOf 3 = 1 ∧ Tryz.prog.cellsOf 9 = 1 ∧ Tryz.prog.cellsOf 33 = 1 ∧ Tryz.prog.cellsOf 34 = 1 ∧ Tryz.prog.cellsOf 35 = 1 ∧ Tryz.prog.cellsOf 36 = 1 := ⟨by kernel_rfl, by kernel_rfl, by kernel_rfl, by kernel_rfl, by kernel_rfl, by kernel_rfl⟩

set_option maxRecDepth 100000 in
theorem two_of_trod2 {H : Type} {enc : TypeId × Value → H} {W : World} (n : Nat) (cs : List Value) (x : DataW H × List MemPlace) (h : DataW.trod enc Tryz.prog W 0 (fun _ => true) true n 146 cs = some x) : ∃ z : Int × Int, cs = encP z ∧ ((Lit.int .i64 z.1).wf = true ∧ (Lit.int .i64 z.2).wf = true) := by
  obtain ⟨xs, m, -, -, hl, hxs, hf⟩ := DataW.trod_array Tryz.underlying146 h
  rw [Tryz.cellsTwo] at hl
  match cs, hl with
  | [c0, c1], _ =>
    have g : ∀ i, i < 2 → ∃ y, xs[i]? = some y := fun i hi => ⟨xs[i]'(by rw [hxs]; exact hi), List.getElem?_eq_getElem _⟩
    obtain ⟨y0, k0⟩ := g 0 (by decide)
    obtain ⟨y1, k1⟩ := g 1 (by decide)
    have e0 := hf 0 (by decide)
    have e1 := hf 1 (by decide)
    rw [k0] at e0
    rw [k1] at e1
    simp only [Tryz.cellsOne] at e0 e1
    obtain ⟨n0, q0, -, w0⟩ := DataW.trod_int Tryz.underlying3 e0
    obtain ⟨n1, q1, -, w1⟩ := DataW.trod_int Tryz.underlying3 e1
    simp at q0 q1
    subst q0 q1
    exact ⟨(n0, n1), rfl, w0, w1⟩
set_option maxRecDepth 100000 in
theorem gap_of_trod {H : Type} {enc : TypeId × Value → H} {W : World} (n : Nat) (cs : List Value) (x : DataW H × List MemPlace) (h : DataW.trod enc Tryz.prog W 0 (fun _ => true) true n 145 cs = some x) : ∃ z : GapD, cs = encG z := by
  obtain ⟨xs, m, -, -, hl, hxs, hf⟩ := DataW.trod_struct Tryz.underlying145 h
  rw [Tryz.cellsGap] at hl
  match cs, hl with
  | [c0, c1, c2, c3], _ =>
    have g : ∀ i, i < 4 → ∃ y, xs[i]? = some y := fun i hi => ⟨xs[i]'(by rw [hxs]; exact hi), List.getElem?_eq_getElem _⟩
    obtain ⟨y0, k0⟩ := g 0 (by decide)
    obtain ⟨y1, k1⟩ := g 1 (by decide)
    obtain ⟨y2, k2⟩ := g 2 (by decide)
    obtain ⟨y3, k3⟩ := g 3 (by decide)
    have e0 : DataW.trod enc Tryz.prog W 0 (fun _ => true) true m 3 [c0] = some y0 := by have e := hf 0 _ rfl; rw [k0] at e; simpa [Tryz.cellsOne] using e
    have e1 : DataW.trod enc Tryz.prog W 0 (fun _ => true) true m 3 [c1] = some y1 := by have e := hf 1 _ rfl; rw [k1] at e; simpa [Tryz.cellsOne] using e
    have e2 : DataW.trod enc Tryz.prog W 0 (fun _ => true) true m 3 [c2] = some y2 := by have e := hf 2 _ rfl; rw [k2] at e; simpa [Tryz.cellsOne] using e
    have e3 : DataW.trod enc Tryz.prog W 0 (fun _ => true) true m 3 [c3] = some y3 := by have e := hf 3 _ rfl; rw [k3] at e; simpa [Tryz.cellsOne] using e
    obtain ⟨n0, q0, -, -⟩ := DataW.trod_int Tryz.underlying3 e0
    obtain ⟨n1, q1, -, -⟩ := DataW.trod_int Tryz.underlying3 e1
    obtain ⟨n2, q2, -, -⟩ := DataW.trod_int Tryz.underlying3 e2
    obtain ⟨n3, q3, -, -⟩ := DataW.trod_int Tryz.underlying3 e3
    simp at q0 q1 q2 q3
    subst q0 q1 q2 q3
    exact ⟨⟨n0, n1, n2, n3⟩, rfl⟩
set_option maxRecDepth 100000 in
theorem ent_of_trod2 {H : Type} {enc : TypeId × Value → H} {W : World} (n : Nat) (cs : List Value) (x : DataW H × List MemPlace) (h : DataW.trod enc Tryz.prog W 0 (fun _ => true) true n 38 cs = some x) : ∃ e : EntD, ∃ pv gv ev fv lv, cs = (entRow e pv gv ev fv lv).toList ∧ EntParts W e pv gv ev fv lv ∧ ∀ p ∈ e.edges, (Lit.int .i64 p.1).wf = true ∧ (Lit.int .i64 p.2).wf = true := by
  obtain ⟨xs, m, -, -, hl, hxs, hf⟩ := DataW.trod_struct Tryz.underlying38 h
  rw [Tryz.cellsEnt] at hl
  match cs, hl with
  | [c0, c1, c2, c3, c4, c5, c6, c7, c8, c9], _ =>
    have g : ∀ i, i < 10 → ∃ y, xs[i]? = some y := fun i hi => ⟨xs[i]'(by rw [hxs]; exact hi), List.getElem?_eq_getElem _⟩
    obtain ⟨y0, k0⟩ := g 0 (by decide)
    obtain ⟨y1, k1⟩ := g 1 (by decide)
    obtain ⟨y2, k2⟩ := g 2 (by decide)
    obtain ⟨y3, k3⟩ := g 3 (by decide)
    obtain ⟨y4, k4⟩ := g 4 (by decide)
    obtain ⟨y5, k5⟩ := g 5 (by decide)
    obtain ⟨y6, k6⟩ := g 6 (by decide)
    obtain ⟨y7, k7⟩ := g 7 (by decide)
    obtain ⟨y8, k8⟩ := g 8 (by decide)
    obtain ⟨y9, k9⟩ := g 9 (by decide)
    have e0 : DataW.trod enc Tryz.prog W 0 (fun _ => true) true m 9 [c0] = some y0 := by have e := hf 0 _ rfl; rw [k0] at e; simpa [Tryz.cellsOne] using e
    have e1 : DataW.trod enc Tryz.prog W 0 (fun _ => true) true m 3 [c1] = some y1 := by have e := hf 1 _ rfl; rw [k1] at e; simpa [Tryz.cellsOne] using e
    have e2 : DataW.trod enc Tryz.prog W 0 (fun _ => true) true m 33 [c2] = some y2 := by have e := hf 2 _ rfl; rw [k2] at e; simpa [Tryz.cellsOne] using e
    have e3 : DataW.trod enc Tryz.prog W 0 (fun _ => true) true m 3 [c3] = some y3 := by have e := hf 3 _ rfl; rw [k3] at e; simpa [Tryz.cellsOne] using e
    have e4 : DataW.trod enc Tryz.prog W 0 (fun _ => true) true m 3 [c4] = some y4 := by have e := hf 4 _ rfl; rw [k4] at e; simpa [Tryz.cellsOne] using e
    have e5 : DataW.trod enc Tryz.prog W 0 (fun _ => true) true m 3 [c5] = some y5 := by have e := hf 5 _ rfl; rw [k5] at e; simpa [Tryz.cellsOne] using e
    have e6 : DataW.trod enc Tryz.prog W 0 (fun _ => true) true m 34 [c6] = some y6 := by have e := hf 6 _ rfl; rw [k6] at e; simpa [Tryz.cellsOne] using e
    have e7 : DataW.trod enc Tryz.prog W 0 (fun _ => true) true m 35 [c7] = some y7 := by have e := hf 7 _ rfl; rw [k7] at e; simpa [Tryz.cellsOne] using e
    have e8 : DataW.trod enc Tryz.prog W 0 (fun _ => true) true m 36 [c8] = some y8 := by have e := hf 8 _ rfl; rw [k8] at e; simpa [Tryz.cellsOne] using e
    have e9 : DataW.trod enc Tryz.prog W 0 (fun _ => true) true m 36 [c9] = some y9 := by have e := hf 9 _ rfl; rw [k9] at e; simpa [Tryz.cellsOne] using e
    obtain ⟨n0, q0, -, -⟩ := DataW.trod_string Tryz.underlying9 e0
    obtain ⟨n1, q1, -, -⟩ := DataW.trod_int Tryz.underlying3 e1
    obtain ⟨n3, q3, -, -⟩ := DataW.trod_int Tryz.underlying3 e3
    obtain ⟨n4, q4, -, -⟩ := DataW.trod_int Tryz.underlying3 e4
    obtain ⟨n5, q5, -, -⟩ := DataW.trod_int Tryz.underlying3 e5
    obtain ⟨l2, h2⟩ := sl_of_trod ByteArray.empty (ec := encS) Tryz.underlying33 Tryz.cellsOne.2.1 (by decide) str_of_trod e2
    obtain ⟨l6, h6⟩ := sl_of_trod (⟨0, 0, 0, 0⟩ : GapD) (ec := encG) Tryz.underlying34 Tryz.cellsGap (by decide) gap_of_trod e6
    obtain ⟨l7, h7, w7⟩ := sl_of_trod2 ((0, 0) : Int × Int) (ec := encP) (R := fun p => (Lit.int .i64 p.1).wf = true ∧ (Lit.int .i64 p.2).wf = true) Tryz.underlying35 Tryz.cellsTwo (by decide) two_of_trod2 e7
    obtain ⟨l8, h8⟩ := sl_of_trod (0 : Int) (ec := encI) Tryz.underlying36 Tryz.cellsOne.1 (by decide) int_of_trod e8
    obtain ⟨l9, h9⟩ := sl_of_trod (0 : Int) (ec := encI) Tryz.underlying36 Tryz.cellsOne.1 (by decide) int_of_trod e9
    simp at q0 q1 q3 q4 q5
    subst q0 q1 q3 q4 q5
    exact ⟨⟨n0, n1, l2, n3, n4, n5, l6, l7, l8, l9⟩, c2, c6, c7, c8, c9, rfl, ⟨h2, h6, h7, h8, h9⟩, w7⟩
theorem ent_of_trod {H : Type} {enc : TypeId × Value → H} {W : World} (n : Nat) (cs : List Value) (x : DataW H × List MemPlace) (h : DataW.trod enc Tryz.prog W 0 (fun _ => true) true n 38 cs = some x) : ∃ e : EntD, ∃ pv gv ev fv lv, cs = (entRow e pv gv ev fv lv).toList ∧ EntParts W e pv gv ev fv lv := by
  obtain ⟨e, pv, gv, ev, fv, lv, h1, h2, -⟩ := ent_of_trod2 n cs x h
  exact ⟨e, pv, gv, ev, fv, lv, h1, h2⟩
end Go.Proofs.YtdpdbfhbojgigacGreatDoor

namespace Go.Proofs.YtdpdbfhbojgigacGreatDoor
open Go.RowKit Go.Extern.Stop Go.Stop Go.Extern

/-- The six sentinels that package conf tells (at A 0 .. A 5), as start-up lays them. -/
structure Sen6 (A : Nat → Addr) (w : World) : Prop where
  c0 : w.cell? ⟨7, 0, none⟩ = some (.iface 298 (.pointer (some (A 0))))
  c1 : w.cell? ⟨1, 0, none⟩ = some (.iface 298 (.pointer (some (A 1))))
  c2 : w.cell? ⟨3, 0, none⟩ = some (.iface 298 (.pointer (some (A 2))))
  c3 : w.cell? ⟨8, 0, none⟩ = some (.iface 298 (.pointer (some (A 3))))
  c4 : w.cell? ⟨5, 0, none⟩ = some (.iface 298 (.pointer (some (A 4))))
  c5 : w.cell? ⟨9, 0, none⟩ = some (.iface 298 (.pointer (some (A 5))))
  row : ∀ i, i < 6 → ∃ c t, w.heap[(A i).block]? = some (.cells c t (0, 0))
  ne : ∀ i j, i < 6 → j < 6 → i ≠ j → A i ≠ A j
theorem Sen6.below {A : Nat → Addr} {w w' : World} (h : Sen6 A w) (hb : Below w.heap.size w w') : Sen6 A w' :=
  ⟨cell_below hb h.c0, cell_below hb h.c1, cell_below hb h.c2, cell_below hb h.c3, cell_below hb h.c4, cell_below hb h.c5, fun i hi => by obtain ⟨c, t, e⟩ := h.row i hi; exact ⟨c, t, row_below hb e⟩, h.ne⟩
theorem Sen6.alloc {A : Nat → Addr} {w : World} (h : Sen6 A w) (o : Obj) : Sen6 A (w.alloc o) := h.below ((Below.refl _ _).alloc (Nat.le_refl _) _)
theorem Senv.six {A : Nat → Addr} {w : World} (h : Senv A w) : Sen6 A w :=
  ⟨h.c0, h.c1, h.c2, h.c3, h.c4, h.c5, fun i hi => h.row i (by omega), fun i j hi hj => h.ne i j (by omega) (by omega)⟩

/-- The five of them that Check tells. -/
structure Sen5 (A : Nat → Addr) (w : World) : Prop where
  c1 : w.cell? ⟨1, 0, none⟩ = some (.iface 298 (.pointer (some (A 1))))
  c2 : w.cell? ⟨3, 0, none⟩ = some (.iface 298 (.pointer (some (A 2))))
  c3 : w.cell? ⟨8, 0, none⟩ = some (.iface 298 (.pointer (some (A 3))))
  c4 : w.cell? ⟨5, 0, none⟩ = some (.iface 298 (.pointer (some (A 4))))
  c5 : w.cell? ⟨9, 0, none⟩ = some (.iface 298 (.pointer (some (A 5))))
theorem Sen5.below {A : Nat → Addr} {w w' : World} (h : Sen5 A w) (hb : Below w.heap.size w w') : Sen5 A w' :=
  ⟨cell_below hb h.c1, cell_below hb h.c2, cell_below hb h.c3, cell_below hb h.c4, cell_below hb h.c5⟩
theorem Sen5.alloc {A : Nat → Addr} {w : World} (h : Sen5 A w) (o : Obj) : Sen5 A (w.alloc o) := h.below ((Below.refl _ _).alloc (Nat.le_refl _) _)
theorem Sen6.five {A : Nat → Addr} {w : World} (h : Sen6 A w) : Sen5 A w := ⟨h.c1, h.c2, h.c3, h.c4, h.c5⟩

/-- A sentinel's value, by its number; nil for 0. -/
def errV (A : Nat → Addr) : Nat → Value
  | 0 => .nilIface
  | j + 1 => .iface 298 (.pointer (some (A j)))
/-- An error as it is told: its number, and its place (-1: none). -/
def ErrAt (A : Nat → Addr) (w : World) (v : Value) (f : Nat × Int) : Prop :=
  f.1 ≤ 11 ∧ ((f.2 = -1 ∧ v = errV A f.1) ∨ (0 < f.1 ∧ ∃ b, v = .iface 164 (.pointer (some ⟨b, 0, none⟩)) ∧ w.cell? ⟨b, 0, none⟩ = some (.int .i64 f.2) ∧ w.cell? ⟨b, 1, none⟩ = some (errV A f.1)))
theorem ErrAt.below {A : Nat → Addr} {w w' : World} {v : Value} {f : Nat × Int} (h : ErrAt A w v f) (hb : Below w.heap.size w w') : ErrAt A w' v f := by
  obtain ⟨h1, h2 | ⟨h2, b, h3, h4, h5⟩⟩ := h
  · exact ⟨h1, Or.inl h2⟩
  · exact ⟨h1, Or.inr ⟨h2, b, h3, cell_below hb h4, cell_below hb h5⟩⟩

theorem within_at (n a b : Int) (w : World) : Calls Tryz.prog 143 #[.int .i64 n, .int .i64 a, .int .i64 b] w fun e w' => e = .returned (.bool (within n a b)) ∧ w' = w := by
  by_cases h1 : a ≤ n
  · by_cases h2 : n ≤ b
    all_goals
      go_enter Tryz.func143, Tryz.ntmps143
      go_wp2
      go_ret
      exact ⟨by simp [within, h1, h2], rfl⟩
  · go_enter Tryz.func143, Tryz.ntmps143
    go_wp2
    go_ret
    exact ⟨by simp [within]; omega, rfl⟩
theorem isLetter_at (b : UInt8) (w : World) : Calls Tryz.prog 179 #[.int .u8 (b.toNat : Int)] w fun e w' => e = .returned (.bool (isLetter b)) ∧ w' = w := by
  have hb : isLetter b = (decide ((97 : Int) ≤ (b.toNat : Int)) && decide ((b.toNat : Int) ≤ 122)) := by
    unfold isLetter
    congr 1 <;> exact decide_eq_decide.2 (by omega)
  rw [hb]
  generalize (b.toNat : Int) = n
  by_cases h1 : 97 ≤ n
  · by_cases h2 : n ≤ 122
    all_goals
      go_enter Tryz.func179, Tryz.ntmps179
      go_wp2
      go_ret
      exact ⟨by simp [h1, h2], rfl⟩
  · go_enter Tryz.func179, Tryz.ntmps179
    go_wp2
    go_ret
    exact ⟨by simp; omega, rfl⟩
theorem isDigit_at (b : UInt8) (w : World) : Calls Tryz.prog 180 #[.int .u8 (b.toNat : Int)] w fun e w' => e = .returned (.bool (isDig b)) ∧ w' = w := by
  have hb : isDig b = (decide ((48 : Int) ≤ (b.toNat : Int)) && decide ((b.toNat : Int) ≤ 57)) := by
    unfold isDig
    congr 1 <;> exact decide_eq_decide.2 (by omega)
  rw [hb]
  generalize (b.toNat : Int) = n
  by_cases h1 : 48 ≤ n
  · by_cases h2 : n ≤ 57
    all_goals
      go_enter Tryz.func180, Tryz.ntmps180
      go_wp2
      go_ret
      exact ⟨by simp [h1, h2], rfl⟩
  · go_enter Tryz.func180, Tryz.ntmps180
    go_wp2
    go_ret
    exact ⟨by simp; omega, rfl⟩
theorem dogNew_ok (c o : Int) (w : World) (h : (within c 0 1000 && within o 1 1000) = true) : Calls Tryz.prog 71 #[.int .i64 c, .int .i64 o] w fun e w' => e = .returned (.tuple #[.pointer (some ⟨w.heap.size, 0, none⟩), .nilIface]) ∧ Below w.heap.size w w' := by
  simp [within] at h
  have g1 : ¬ c < 0 := by omega
  have g2 : ¬ 1000 < c := by omega
  have g3 : ¬ o < 1 := by omega
  have g4 : ¬ 1000 < o := by omega
  clear h
  go_enter Tryz.func71, Tryz.ntmps71
  go_wp2
  go_ret2
  exact ⟨rfl, (Below.refl _ _).alloc (Nat.le_refl _) _⟩
theorem dogNew_bad (A : Nat → Addr) (c o : Int) (w : World) (hs : Sen5 A w) (h : (within c 0 1000 && within o 1 1000) = false) : Calls Tryz.prog 71 #[.int .i64 c, .int .i64 o] w fun e w' => e = .returned (.tuple #[.pointer none, .iface 298 (.pointer (some (A 1)))]) ∧ Below w.heap.size w w' := by
  have hc := hs.c1
  simp [within] at h
  by_cases g1 : c < 0
  · clear h
    go_enter Tryz.func71, Tryz.ntmps71
    go_wp2_with fail
    go_quiet (fail)
    go_wp2
    go_ret2
    exact ⟨rfl, below_drewN (Below.refl _ _) _⟩
  by_cases g2 : 1000 < c
  · clear h
    go_enter Tryz.func71, Tryz.ntmps71
    go_wp2_with fail
    go_quiet (fail)
    go_wp2
    go_ret2
    exact ⟨rfl, below_drewN (Below.refl _ _) _⟩
  by_cases g3 : o < 1
  · clear h
    go_enter Tryz.func71, Tryz.ntmps71
    go_wp2_with fail
    go_quiet (fail)
    go_wp2
    go_ret2
    exact ⟨rfl, below_drewN (Below.refl _ _) _⟩
  · have g4 : 1000 < o := by omega
    clear h
    go_enter Tryz.func71, Tryz.ntmps71
    go_wp2_with fail
    go_quiet (fail)
    go_wp2
    go_ret2
    exact ⟨rfl, below_drewN (Below.refl _ _) _⟩
theorem isWindow_at (A : Nat → Addr) (c o : Int) (w : World) (hs : Sen5 A w) : Calls Tryz.prog 141 #[.int .i64 c, .int .i64 o] w fun e w' => e = .returned (.bool (within c 0 1000 && within o 1 1000)) ∧ Below w.heap.size w w' := by
  cases h : (within c 0 1000 && within o 1 1000) with
  | true =>
    have dn := dogNew_ok c o w h
    go_enter Tryz.func141, Tryz.ntmps141
    go_wp2_with fail
    refine dn.mono ?_
    rintro e w' ⟨rfl, hb⟩
    go_wp2
    go_ret
    exact ⟨rfl, hb⟩
  | false =>
    have dn := dogNew_bad A c o w hs h
    go_enter Tryz.func141, Tryz.ntmps141
    go_wp2_with fail
    refine dn.mono ?_
    rintro e w' ⟨rfl, hb⟩
    go_wp2
    go_ret
    exact ⟨rfl, hb⟩
end Go.Proofs.YtdpdbfhbojgigacGreatDoor

namespace Go.Proofs.YtdpdbfhbojgigacGreatDoor
open Go.ChangeShapes Go.WideShapes Go.ChangeAt Go.RowKit Go.Deep

theorem Tryz.cellsCfg : Tryz.prog.cellsOf 24 = 5 := by kernel_rfl
theorem Tryz.cellsEnts : Tryz.prog.cellsOf 22 = 1 := by kernel_rfl
theorem ents_of_trod {H : Type} {enc : TypeId × Value → H} {W : World} {fuel : Nat} {v : Value} {x : DataW H × List MemPlace} (h : DataW.trod enc Tryz.prog W 0 (fun _ => true) true fuel 22 [v] = some x) : ∃ sa sc, ∃ es : List EntD, v = .slice sa es.length sc ∧ EntsAt W (.slice sa es.length sc) es := by
  obtain ⟨sa, cap, xs, hcs, hl, hx⟩ := sl_gen (⟨ByteArray.empty, 0, [], 0, 0, 0, [], [], [], []⟩ : EntD) (Q := fun cs e => ∃ pv gv ev fv lv, cs = (entRow e pv gv ev fv lv).toList ∧ EntParts W e pv gv ev fv lv) Tryz.underlying22 Tryz.cellsEnt (by decide) ent_of_trod h
  simp only [List.cons.injEq, and_true] at hcs
  refine ⟨sa, cap, xs, hcs, sa, cap, rfl, fun hne => ?_⟩
  obtain ⟨b, o, h1, h2⟩ := hx hne
  refine ⟨b, o, h1, fun i y hy => ?_⟩
  obtain ⟨cs', ⟨pv, gv, ev, fv, lv, rfl, h3⟩, h4⟩ := h2 i y hy
  exact ⟨pv, gv, ev, fv, lv, h3, fun j u hu => h4 j u (by rw [Array.getElem?_toList]; exact hu)⟩
set_option maxRecDepth 100000 in
/-- A config, read. -/
theorem cfg_of_trod {H : Type} {enc : TypeId × Value → H} {W : World} {n : Nat} {cs : List Value} {x : DataW H × List MemPlace} (h : DataW.trod enc Tryz.prog W 0 (fun _ => true) true n 24 cs = some x) : ∃ (c : CfgD) (sa : Option Addr) (sc : Nat), cs = [.int .i64 c.closed, .int .i64 c.opn, .int .i64 c.cycle, .int .i64 c.delay, .slice sa c.ents.length sc] ∧ EntsAt W (.slice sa c.ents.length sc) c.ents := by
  obtain ⟨xs, m, -, -, hl, hxs, hf⟩ := DataW.trod_struct Tryz.underlying24 h
  rw [Tryz.cellsCfg] at hl
  match cs, hl with
  | [c0, c1, c2, c3, c4], _ =>
    have g : ∀ i, i < 5 → ∃ y, xs[i]? = some y := fun i hi => ⟨xs[i]'(by rw [hxs]; exact hi), List.getElem?_eq_getElem _⟩
    obtain ⟨y0, k0⟩ := g 0 (by decide)
    obtain ⟨y1, k1⟩ := g 1 (by decide)
    obtain ⟨y2, k2⟩ := g 2 (by decide)
    obtain ⟨y3, k3⟩ := g 3 (by decide)
    obtain ⟨y4, k4⟩ := g 4 (by decide)
    have e0 : DataW.trod enc Tryz.prog W 0 (fun _ => true) true m 3 [c0] = some y0 := by have e := hf 0 _ rfl; rw [k0] at e; simpa [Tryz.cellsOne, Tryz.cellsEnts] using e
    have e1 : DataW.trod enc Tryz.prog W 0 (fun _ => true) true m 3 [c1] = some y1 := by have e := hf 1 _ rfl; rw [k1] at e; simpa [Tryz.cellsOne, Tryz.cellsEnts] using e
    have e2 : DataW.trod enc Tryz.prog W 0 (fun _ => true) true m 3 [c2] = some y2 := by have e := hf 2 _ rfl; rw [k2] at e; simpa [Tryz.cellsOne, Tryz.cellsEnts] using e
    have e3 : DataW.trod enc Tryz.prog W 0 (fun _ => true) true m 3 [c3] = some y3 := by have e := hf 3 _ rfl; rw [k3] at e; simpa [Tryz.cellsOne, Tryz.cellsEnts] using e
    have e4 : DataW.trod enc Tryz.prog W 0 (fun _ => true) true m 22 [c4] = some y4 := by have e := hf 4 _ rfl; rw [k4] at e; simpa [Tryz.cellsOne, Tryz.cellsEnts] using e
    obtain ⟨n0, q0, -, -⟩ := DataW.trod_int Tryz.underlying3 e0
    obtain ⟨n1, q1, -, -⟩ := DataW.trod_int Tryz.underlying3 e1
    obtain ⟨n2, q2, -, -⟩ := DataW.trod_int Tryz.underlying3 e2
    obtain ⟨n3, q3, -, -⟩ := DataW.trod_int Tryz.underlying3 e3
    obtain ⟨sa, sc, es, rfl, h4⟩ := ents_of_trod e4
    simp at q0 q1 q2 q3
    subst q0 q1 q2 q3
    exact ⟨⟨n0, n1, n2, n3, es⟩, sa, sc, rfl, h4⟩
end Go.Proofs.YtdpdbfhbojgigacGreatDoor

namespace Go.Proofs.YtdpdbfhbojgigacGreatDoor
open Go.RowKit Go.Extern.Stop Go.Stop Go.Extern

/-- A number that fits. -/
structure IntB where
  z : Int
  le : z ≤ 9223372036854775807
def encIB (x : IntB) : List Value := [.int .i64 x.z]
theorem intB_of_trod {H : Type} {enc : TypeId × Value → H} {W : World} (n : Nat) (cs : List Value) (x : DataW H × List MemPlace) (h : DataW.trod enc Tryz.prog W 0 (fun _ => true) true n 3 cs = some x) : ∃ z : IntB, cs = encIB z := by
  obtain ⟨z, h1, -, h2⟩ := DataW.trod_int Tryz.underlying3 h
  have h3 : z ≤ 9223372036854775807 := by
    simp [Lit.wf, IntKind.min, IntKind.max, IntKind.bits, IntKind.signed] at h2
    omega
  exact ⟨⟨z, h3⟩, h1⟩
theorem ints_of_trodB {H : Type} {enc : TypeId × Value → H} {W : World} {fuel : Nat} {v : Value} {x : DataW H × List MemPlace} (h : DataW.trod enc Tryz.prog W 0 (fun _ => true) true fuel 36 [v] = some x) : ∃ l : List Int, SlAt encI 1 W v l ∧ l.length ≤ 9223372036854775807 ∧ ∀ z ∈ l, z ≤ 9223372036854775807 := by
  obtain ⟨l, hl⟩ : ∃ l : List IntB, SlAt encIB 1 W v l := sl_of_trod (⟨0, by decide⟩ : IntB) (ec := encIB) Tryz.underlying36 Tryz.cellsOne.1 (by decide) intB_of_trod h
  refine ⟨l.map IntB.z, ?_, ?_, fun z hz => ?_⟩
  · obtain ⟨sa, cap, rfl, hle, hc⟩ := hl
    refine ⟨sa, cap, by rw [List.length_map], by rw [List.length_map]; exact hle, fun hne => ?_⟩
    obtain ⟨b, o, e, hc2⟩ := hc (fun e => hne (by rw [e]; rfl))
    refine ⟨b, o, e, fun i y hy j u hu => ?_⟩
    rw [List.getElem?_map] at hy
    obtain ⟨y', h1, rfl⟩ := Option.map_eq_some_iff.1 hy
    exact hc2 i y' h1 j u hu
  · rw [List.length_map]
    obtain ⟨sa, cap, rfl, -, -⟩ := hl
    rcases DataW.trod_slice Tryz.underlying36 h with ⟨h1, -⟩ | ⟨a, len, cap', elems, rest, n, -, h1, -, -, h2, h3, -⟩
    · simp only [List.cons.injEq, Value.slice.injEq, and_true] at h1
      omega
    · simp only [List.cons.injEq, Value.slice.injEq, and_true] at h1
      unfold maxLen at h3
      omega
  · obtain ⟨y, -, rfl⟩ := List.mem_map.1 hz
    exact y.le
end Go.Proofs.YtdpdbfhbojgigacGreatDoor

namespace Go.Proofs.YtdpdbfhbojgigacGreatDoor
open Go.RowKit Go.Extern.Stop Go.Stop Go.Extern

structure CSt where
  bytes : List UInt8
  size : Nat
  written : Nat
  off : Bool
  cut : Bool
  left : Nat

def byteVal (x : UInt8) : Value := .int .u8 (x.toNat : Int)
def CSt.tail (s : CSt) : List Value := [.int .i64 (s.size : Int), .int .i64 (s.written : Int), .bool s.off, .bool s.cut, .int .i64 (s.left : Int)]
def CSt.row (s : CSt) : Array Value := (s.bytes.map byteVal ++ s.tail).toArray

structure CellsAt (w : World) (b : Nat) (s : CSt) : Prop where
  heap : w.heap[b]? = some (.cells s.row 109 (0, 0))
  len : s.bytes.length = 4096
  size : s.size ≤ 4096

theorem CellsAt.lt {w : World} {b : Nat} {s : CSt} (h : CellsAt w b s) : b < w.heap.size := lt_of_row h.heap

theorem CellsAt.cell {w : World} {b : Nat} {s : CSt} (h : CellsAt w b s) (i : Nat) : w.cell? ⟨b, i, none⟩ = s.row[i]? := by
  simp [World.cell?, h.heap]
theorem CellsAt.frozen {w : World} {b : Nat} {s : CSt} (h : CellsAt w b s) (i : Nat) : w.frozen? ⟨b, i, none⟩ = false := by
  simp [World.frozen?, h.heap]

theorem CSt.row_byte (s : CSt) (i : Nat) (hi : i < s.bytes.length) : s.row[i]? = some (byteVal s.bytes[i]) := by
  unfold CSt.row
  simp [List.getElem?_append_left, hi]
theorem CSt.row_tail (s : CSt) (hl : s.bytes.length = 4096) (i : Nat) : s.row[4096 + i]? = s.tail[i]? := by
  unfold CSt.row
  rw [List.getElem?_toArray, List.getElem?_append_right (by simp [hl])]
  simp [hl]

theorem CellsAt.byte {w : World} {b : Nat} {s : CSt} (h : CellsAt w b s) (i : Nat) (hi : i < 4096) : w.cell? ⟨b, i, none⟩ = some (.int .u8 ((s.bytes[i]'(by rw [h.len]; exact hi)).toNat : Int)) := by
  rw [h.cell, CSt.row_byte s i (by rw [h.len]; exact hi)]; rfl
theorem CellsAt.c0 {w : World} {b : Nat} {s : CSt} (h : CellsAt w b s) : w.cell? ⟨b, 4096, none⟩ = some (.int .i64 (s.size : Int)) := by
  rw [h.cell, CSt.row_tail s h.len 0]; rfl
theorem CellsAt.c1 {w : World} {b : Nat} {s : CSt} (h : CellsAt w b s) : w.cell? ⟨b, 4097, none⟩ = some (.int .i64 (s.written : Int)) := by
  rw [h.cell, CSt.row_tail s h.len 1]; rfl
theorem CellsAt.c2 {w : World} {b : Nat} {s : CSt} (h : CellsAt w b s) : w.cell? ⟨b, 4098, none⟩ = some (.bool s.off) := by
  rw [h.cell, CSt.row_tail s h.len 2]; rfl
theorem CellsAt.c3 {w : World} {b : Nat} {s : CSt} (h : CellsAt w b s) : w.cell? ⟨b, 4099, none⟩ = some (.bool s.cut) := by
  rw [h.cell, CSt.row_tail s h.len 3]; rfl
theorem CellsAt.c4 {w : World} {b : Nat} {s : CSt} (h : CellsAt w b s) : w.cell? ⟨b, 4100, none⟩ = some (.int .i64 (s.left : Int)) := by
  rw [h.cell, CSt.row_tail s h.len 4]; rfl

theorem CellsAt.set {w : World} {b : Nat} {s s' : CSt} (h : CellsAt w b s) (i : Nat) (v : Value) (hr : s.row.setIfInBounds i v = s'.row) (hl : s'.bytes.length = 4096) (hs : s'.size ≤ 4096) : CellsAt (w.setCell ⟨b, i, none⟩ v) b s' := by
  refine ⟨?_, hl, hs⟩
  simp only [World.setCell, Array.getElem?_modify, h.heap]
  simp [hr]

theorem row_set_tail (bs : List UInt8) (hl : bs.length = 4096) (t : List Value) (i : Nat) (v : Value) : (bs.map byteVal ++ t).toArray.setIfInBounds (4096 + i) v = (bs.map byteVal ++ t.set i v).toArray := by
  rw [List.setIfInBounds_toArray, List.set_append_right _ _ (by simp [hl])]
  simp [hl]

theorem CellsAt.set1 {w : World} {b : Nat} {s : CSt} (h : CellsAt w b s) (n : Nat) : CellsAt (w.setCell ⟨b, 4097, none⟩ (.int .i64 (n : Int))) b { s with written := n } :=
  h.set _ _ (row_set_tail s.bytes h.len s.tail 1 _) h.len h.size
theorem CellsAt.set2 {w : World} {b : Nat} {s : CSt} (h : CellsAt w b s) (v : Bool) : CellsAt (w.setCell ⟨b, 4098, none⟩ (.bool v)) b { s with off := v } :=
  h.set _ _ (row_set_tail s.bytes h.len s.tail 2 _) h.len h.size
theorem CellsAt.set3 {w : World} {b : Nat} {s : CSt} (h : CellsAt w b s) (v : Bool) : CellsAt (w.setCell ⟨b, 4099, none⟩ (.bool v)) b { s with cut := v } :=
  h.set _ _ (row_set_tail s.bytes h.len s.tail 3 _) h.len h.size
theorem CellsAt.set4 {w : World} {b : Nat} {s : CSt} (h : CellsAt w b s) (n : Nat) : CellsAt (w.setCell ⟨b, 4100, none⟩ (.int .i64 (n : Int))) b { s with left := n } :=
  h.set _ _ (row_set_tail s.bytes h.len s.tail 4 _) h.len h.size
theorem CellsAt.setB {w : World} {b : Nat} {s : CSt} (h : CellsAt w b s) (i : Nat) (hi : i < 4096) (x : UInt8) : CellsAt (w.setCell ⟨b, i, none⟩ (.int .u8 (x.toNat : Int))) b { s with bytes := s.bytes.set i x } := by
  refine h.set _ _ ?_ (by simp [h.len]) h.size
  unfold CSt.row
  rw [List.setIfInBounds_toArray, List.set_append_left _ _ (by simp [h.len, hi]), List.map_set]
  rfl

theorem CellsAt.below {w w' : World} {b : Nat} {s : CSt} (h : CellsAt w b s) (hb : Below w.heap.size w w') : CellsAt w' b s := ⟨row_below hb h.heap, h.len, h.size⟩
theorem CellsAt.alloc {w : World} {b : Nat} {s : CSt} (h : CellsAt w b s) (o : Obj) : CellsAt (w.alloc o) b s := h.below ((Below.refl _ _).alloc (Nat.le_refl _) _)
theorem CellsAt.other {w w' : World} {b c : Nat} {s : CSt} (h : CellsAt w b s) (hg : w.grownBy w' (some c)) (hne : b ≠ c) : CellsAt w' b s :=
  ⟨(hg.block b h.lt (by simpa using hne)).trans h.heap, h.len, h.size⟩

theorem grown_refl (w : World) (r : Option Nat) : w.grownBy w r := ⟨rfl, rfl, rfl, Nat.le_refl _, fun _ _ _ => rfl⟩
theorem grown_trans {a b c : World} {r : Option Nat} (h : a.grownBy b r) (k : b.grownBy c r) : a.grownBy c r :=
  ⟨k.os.trans h.os, k.tape.trans h.tape, k.output.trans h.output, Nat.le_trans h.size k.size, fun i hi hn => (k.block i (Nat.lt_of_lt_of_le hi h.size) hn).trans (h.block i hi hn)⟩
theorem grown_set {a w : World} {b : Nat} (h : a.grownBy w (some b)) (i : Nat) (v : Value) : a.grownBy (w.setCell ⟨b, i, none⟩ v) (some b) :=
  grown_trans h ⟨rfl, rfl, rfl, by simp [World.setCell], fun k _ hn => Below.heap_setCell _ _ _ _ (by simpa using hn)⟩
theorem grown_below {a w w' : World} {r : Option Nat} (h : a.grownBy w r) (k : Below w.heap.size w w') : a.grownBy w' r :=
  grown_trans h ⟨k.os, k.tape, k.output, k.size, fun i hi _ => k.block i hi⟩
theorem Senv.grown {A : Nat → Addr} {w w' : World} {b : Nat} (h : Senv A w) (k : w.grownBy w' (some b)) (hn : ∀ i, i < 11 → (A i).block ≠ b) (hb : 12 ≤ b) : Senv A w' := by
  have hc : ∀ {g : Nat} {v : Value}, g < 12 → w.cell? ⟨g, 0, none⟩ = some v → w'.cell? ⟨g, 0, none⟩ = some v := fun {g v} hg e =>
    (World.cell?_of_block (k.block g (block_lt e) (by intro e2; cases e2; omega))).trans e
  exact ⟨hc (by omega) h.c0, hc (by omega) h.c1, hc (by omega) h.c2, hc (by omega) h.c3, hc (by omega) h.c4, hc (by omega) h.c5, hc (by omega) h.c6, hc (by omega) h.c7, hc (by omega) h.c8, hc (by omega) h.c9, hc (by omega) h.c10, hc (by omega) h.et,
    fun i hi => by obtain ⟨c, t, e⟩ := h.row i hi; exact ⟨c, t, (k.block _ (lt_of_row e) (by intro e2; exact hn i hi (Option.some.inj e2))).trans e⟩, h.ne⟩
end Go.Proofs.YtdpdbfhbojgigacGreatDoor

namespace Go.Proofs.YtdpdbfhbojgigacGreatDoor
open Go.RowKit Go.Extern.Stop Go.Stop Go.Extern

structure Sen4 (A : Nat → Addr) (w : World) : Prop where
  c1 : w.cell? ⟨1, 0, none⟩ = some (.iface 298 (.pointer (some (A 1))))
  c2 : w.cell? ⟨3, 0, none⟩ = some (.iface 298 (.pointer (some (A 2))))
  c6 : w.cell? ⟨10, 0, none⟩ = some (.iface 298 (.pointer (some (A 6))))
  c7 : w.cell? ⟨2, 0, none⟩ = some (.iface 298 (.pointer (some (A 7))))

theorem Senv.four {A : Nat → Addr} {w : World} (h : Senv A w) : Sen4 A w := ⟨h.c1, h.c2, h.c6, h.c7⟩
theorem Sen4.below {A : Nat → Addr} {w w' : World} (h : Sen4 A w) (hb : Below w.heap.size w w') : Sen4 A w' :=
  ⟨cell_below hb h.c1, cell_below hb h.c2, cell_below hb h.c6, cell_below hb h.c7⟩
theorem Sen4.alloc {A : Nat → Addr} {w : World} (h : Sen4 A w) (o : Obj) : Sen4 A (w.alloc o) := h.below ((Below.refl _ _).alloc (Nat.le_refl _) _)
theorem Sen4.grown {A : Nat → Addr} {w w' : World} {b : Nat} (h : Sen4 A w) (k : w.grownBy w' (some b)) (hb : 11 ≤ b) : Sen4 A w' := by
  have hc : ∀ {g : Nat} {v : Value}, g < 11 → w.cell? ⟨g, 0, none⟩ = some v → w'.cell? ⟨g, 0, none⟩ = some v := fun {g v} hg e =>
    (World.cell?_of_block (k.block g (block_lt e) (by intro e2; cases e2; omega))).trans e
  exact ⟨hc (by omega) h.c1, hc (by omega) h.c2, hc (by omega) h.c6, hc (by omega) h.c7⟩
end Go.Proofs.YtdpdbfhbojgigacGreatDoor
