/-
  An argument, read: numbers, texts, lists, an entity (ent_of_trod). No condition.
-/
import Derived.Test.YtpaolneaomeoiabDoorMemX
import Derived.Lib.LaidTab
import Derived.ProofKit
import Derived.OpenShut
import Derived.Deep.Slices
import Derived.Carry
namespace Go.Proofs.YtpaolneaomeoiabDoor
open Go.ChangeShapes Go.WideShapes Go.ChangeAt Go.RowKit Go.Deep

theorem Tryd.laidOut : laidOutB Tryd.prog = true := by kernel_rfl
theorem Tryd.cellsEnt : Tryd.prog.cellsOf 27 = 10 := by kernel_rfl
theorem Tryd.cellsGap : Tryd.prog.cellsOf 86 = 4 := by kernel_rfl
theorem Tryd.cellsTwo : Tryd.prog.cellsOf 59 = 2 := by kernel_rfl
theorem Tryd.cellsOne : Tryd.prog.cellsOf 3 = 1 ∧ Tryd.prog.cellsOf 9 = 1 ∧ Tryd.prog.cellsOf 22 = 1 ∧ Tryd.prog.cellsOf 23 = 1 ∧ Tryd.prog.cellsOf 24 = 1 ∧ Tryd.prog.cellsOf 25 = 1 := ⟨by kernel_rfl, by kernel_rfl, by kernel_rfl, by kernel_rfl, by kernel_rfl, by kernel_rfl⟩

theorem spot_none {W : World} {a : Addr} {v : Value} (h : W.cell? a = some v) : a = ⟨a.block, a.off, none⟩ := by
  obtain ⟨b, o, s⟩ := a
  cases s with
  | none => rfl
  | some x =>
    exfalso
    unfold World.cell? at h
    split at h
    · simp at h
    · cases h
theorem add_plain (b o j : Nat) : (⟨b, o, none⟩ : Addr).add j = ⟨b, o + j, none⟩ := by unfold Addr.add; split <;> simp_all
theorem cells_of {W : World} {a : Addr} {k : Nat} {cs : List Value} (h : W.cells? 0 a k = some cs) : cs.length = k ∧ ∀ j u, cs[j]? = some u → W.cell? (a.add j) = some u := by
  unfold World.cells? at h
  rw [if_pos (Nat.zero_le _)] at h
  have hl : cs.length = k := by simpa using Lib.mapM_length h
  refine ⟨hl, fun j u hu => ?_⟩
  have hj : j < k := by have := (List.getElem?_eq_some_iff.1 hu).1; omega
  obtain ⟨b, h1, h2⟩ := Lib.mapM_at h j j (by simp [hj])
  rw [hu] at h1
  cases h1
  exact h2
theorem choose_any {α : Type} (d : α) {n : Nat} {p : Nat → α → Prop} (h : ∀ i, i < n → ∃ x, p i x) : ∃ f : Nat → α, ∀ i, i < n → p i (f i) := by
  classical
  refine ⟨fun i => if hi : i < n then Classical.choose (h i hi) else d, fun i hi => ?_⟩
  simp only [dif_pos hi]
  exact Classical.choose_spec (h i hi)
/-- A slice, read: its elements lie in memory, each as it is read. -/
theorem sl_gen {α : Type} (d : α) {Q : List Value → α → Prop} {H : Type} {enc : TypeId × Value → H} {W : World} {T Ts : TypeId} {k fuel : Nat} {cs : List Value} {x : DataW H × List MemPlace} (hs : Tryd.prog.underlying Ts = some (.slice T)) (hk : Tryd.prog.cellsOf T = k) (hk0 : 0 < k)
    (hel : ∀ n cs x, DataW.trod enc Tryd.prog W 0 (fun _ => true) true n T cs = some x → ∃ a, Q cs a) (h : DataW.trod enc Tryd.prog W 0 (fun _ => true) true fuel Ts cs = some x) :
    ∃ (sa : Option Addr) (cap : Nat) (xs : List α), cs = [.slice sa xs.length cap] ∧ xs.length ≤ cap ∧ (xs ≠ [] → ∃ b o, sa = some ⟨b, o, none⟩ ∧ ∀ i a, xs[i]? = some a → ∃ cs', Q cs' a ∧ ∀ j u, cs'[j]? = some u → W.cell? ⟨b, o + i * k + j, none⟩ = some u) := by
  rcases open_slice hs h with ⟨hcs, -⟩ | ⟨a, len, cap, m, n, D, Pl, hcs, -, hlc, hcm, hm, -, hall⟩
  · exact ⟨none, 0, [], by simpa using hcs, Nat.le_refl _, fun e => absurd rfl e⟩
  · simp only [if_true] at hm
    subst hm
    rw [hk] at hall
    obtain ⟨f, hf⟩ := choose_any d (n := len) (p := fun i y => ∃ cs', Q cs' y ∧ W.cells? 0 (a.add (i * k)) k = some cs') (fun i hi => by
      obtain ⟨cs', h1, h2⟩ := hall i (by omega)
      obtain ⟨y, hy⟩ := hel _ _ _ h2
      exact ⟨y, cs', hy, h1⟩)
    have hxl : ((List.range len).map f).length = len := by simp
    refine ⟨some a, m, (List.range len).map f, by rw [hxl]; exact hcs, by rw [hxl]; exact hlc, fun hne => ?_⟩
    have hpos : 0 < len := by
      rcases Nat.eq_zero_or_pos len with h0 | h0
      · subst h0; exact absurd rfl hne
      · exact h0
    have ha : a = ⟨a.block, a.off, none⟩ := by
      obtain ⟨cs', -, h1⟩ := hf 0 hpos
      obtain ⟨hl, hc⟩ := cells_of h1
      have e : (a.add (0 * k)).add 0 = a := by simp [Addr.add]
      have := hc 0 (cs'[0]'(by omega)) (List.getElem?_eq_getElem _)
      rw [e] at this
      exact spot_none this
    refine ⟨a.block, a.off, congrArg some ha, fun i y hy => ?_⟩
    rw [List.getElem?_map, Option.map_eq_some_iff] at hy
    obtain ⟨i', hi', rfl⟩ := hy
    obtain ⟨hil0, hi2⟩ := List.getElem?_eq_some_iff.1 hi'
    have hil : i < len := by simpa using hil0
    obtain rfl : i = i' := by simpa using hi2
    obtain ⟨cs', h1, h2⟩ := hf i hil
    refine ⟨cs', h1, fun j u hu => ?_⟩
    have := (cells_of h2).2 j u hu
    rw [ha, add_plain, add_plain] at this
    exact this
theorem sl_of_trod {α : Type} (d : α) {ec : α → List Value} {H : Type} {enc : TypeId × Value → H} {W : World} {T Ts : TypeId} {k fuel : Nat} {v : Value} {x : DataW H × List MemPlace} (hs : Tryd.prog.underlying Ts = some (.slice T)) (hk : Tryd.prog.cellsOf T = k) (hk0 : 0 < k)
    (hel : ∀ n cs x, DataW.trod enc Tryd.prog W 0 (fun _ => true) true n T cs = some x → ∃ a, cs = ec a) (h : DataW.trod enc Tryd.prog W 0 (fun _ => true) true fuel Ts [v] = some x) : ∃ xs : List α, SlAt ec k W v xs := by
  obtain ⟨sa, cap, xs, hcs, hl, hx⟩ := sl_gen d (Q := fun cs a => cs = ec a) hs hk hk0 hel h
  simp only [List.cons.injEq, and_true] at hcs
  refine ⟨xs, sa, cap, hcs, hl, fun hne => ?_⟩
  obtain ⟨b, o, h1, h2⟩ := hx hne
  refine ⟨b, o, h1, fun i y hy j u hu => ?_⟩
  obtain ⟨cs', rfl, h3⟩ := h2 i y hy
  exact h3 j u hu
theorem sl_of_trod2 {α : Type} (d : α) {ec : α → List Value} {R : α → Prop} {H : Type} {enc : TypeId × Value → H} {W : World} {T Ts : TypeId} {k fuel : Nat} {v : Value} {x : DataW H × List MemPlace} (hs : Tryd.prog.underlying Ts = some (.slice T)) (hk : Tryd.prog.cellsOf T = k) (hk0 : 0 < k)
    (hel : ∀ n cs x, DataW.trod enc Tryd.prog W 0 (fun _ => true) true n T cs = some x → ∃ a, cs = ec a ∧ R a) (h : DataW.trod enc Tryd.prog W 0 (fun _ => true) true fuel Ts [v] = some x) : ∃ xs : List α, SlAt ec k W v xs ∧ ∀ a ∈ xs, R a := by
  obtain ⟨sa, cap, xs, hcs, hl, hx⟩ := sl_gen d (Q := fun cs a => cs = ec a ∧ R a) hs hk hk0 hel h
  simp only [List.cons.injEq, and_true] at hcs
  refine ⟨xs, ⟨sa, cap, hcs, hl, fun hne => ?_⟩, fun a ha => ?_⟩
  · obtain ⟨b, o, h1, h2⟩ := hx hne
    refine ⟨b, o, h1, fun i y hy j u hu => ?_⟩
    obtain ⟨cs', ⟨rfl, -⟩, h3⟩ := h2 i y hy
    exact h3 j u hu
  · obtain ⟨i, hi⟩ := List.getElem?_of_mem ha
    obtain ⟨b, o, h1, h2⟩ := hx (fun e => by rw [e] at ha; cases ha)
    obtain ⟨cs', ⟨-, hr⟩, -⟩ := h2 i a hi
    exact hr
theorem int_of_trod {H : Type} {enc : TypeId × Value → H} {W : World} (n : Nat) (cs : List Value) (x : DataW H × List MemPlace) (h : DataW.trod enc Tryd.prog W 0 (fun _ => true) true n 3 cs = some x) : ∃ z : Int, cs = encI z := by
  obtain ⟨z, h1, -, -⟩ := DataW.trod_int Tryd.underlying3 h
  exact ⟨z, h1⟩
theorem str_of_trod {H : Type} {enc : TypeId × Value → H} {W : World} (n : Nat) (cs : List Value) (x : DataW H × List MemPlace) (h : DataW.trod enc Tryd.prog W 0 (fun _ => true) true n 9 cs = some x) : ∃ z : ByteArray, cs = encS z := by
  obtain ⟨z, h1, -, -⟩ := DataW.trod_string Tryd.underlying9 h
  exact ⟨z, h1⟩
set_option maxRecDepth 100000 in
theorem two_of_trod2 {H : Type} {enc : TypeId × Value → H} {W : World} (n : Nat) (cs : List Value) (x : DataW H × List MemPlace) (h : DataW.trod enc Tryd.prog W 0 (fun _ => true) true n 59 cs = some x) : ∃ z : Int × Int, cs = encP z ∧ ((Lit.int .i64 z.1).wf = true ∧ (Lit.int .i64 z.2).wf = true) := by
  obtain ⟨xs, m, -, -, hl, hxs, hf⟩ := DataW.trod_array Tryd.underlying59 h
  rw [Tryd.cellsTwo] at hl
  match cs, hl with
  | [c0, c1], _ =>
    have g : ∀ i, i < 2 → ∃ y, xs[i]? = some y := fun i hi => ⟨xs[i]'(by rw [hxs]; exact hi), List.getElem?_eq_getElem _⟩
    obtain ⟨y0, k0⟩ := g 0 (by decide)
    obtain ⟨y1, k1⟩ := g 1 (by decide)
    have e0 := hf 0 (by decide)
    have e1 := hf 1 (by decide)
    rw [k0] at e0
    rw [k1] at e1
    simp only [Tryd.cellsOne] at e0 e1
    obtain ⟨n0, q0, -, w0⟩ := DataW.trod_int Tryd.underlying3 e0
    obtain ⟨n1, q1, -, w1⟩ := DataW.trod_int Tryd.underlying3 e1
    simp at q0 q1
    subst q0 q1
    exact ⟨(n0, n1), rfl, w0, w1⟩
set_option maxRecDepth 100000 in
theorem gap_of_trod {H : Type} {enc : TypeId × Value → H} {W : World} (n : Nat) (cs : List Value) (x : DataW H × List MemPlace) (h : DataW.trod enc Tryd.prog W 0 (fun _ => true) true n 86 cs = some x) : ∃ z : GapD, cs = encG z := by
  obtain ⟨xs, m, -, -, hl, hxs, hf⟩ := DataW.trod_struct Tryd.underlying86 h
  rw [Tryd.cellsGap] at hl
  match cs, hl with
  | [c0, c1, c2, c3], _ =>
    have g : ∀ i, i < 4 → ∃ y, xs[i]? = some y := fun i hi => ⟨xs[i]'(by rw [hxs]; exact hi), List.getElem?_eq_getElem _⟩
    obtain ⟨y0, k0⟩ := g 0 (by decide)
    obtain ⟨y1, k1⟩ := g 1 (by decide)
    obtain ⟨y2, k2⟩ := g 2 (by decide)
    obtain ⟨y3, k3⟩ := g 3 (by decide)
    have e0 : DataW.trod enc Tryd.prog W 0 (fun _ => true) true m 3 [c0] = some y0 := by have e := hf 0 _ rfl; rw [k0] at e; simpa [Tryd.cellsOne] using e
    have e1 : DataW.trod enc Tryd.prog W 0 (fun _ => true) true m 3 [c1] = some y1 := by have e := hf 1 _ rfl; rw [k1] at e; simpa [Tryd.cellsOne] using e
    have e2 : DataW.trod enc Tryd.prog W 0 (fun _ => true) true m 3 [c2] = some y2 := by have e := hf 2 _ rfl; rw [k2] at e; simpa [Tryd.cellsOne] using e
    have e3 : DataW.trod enc Tryd.prog W 0 (fun _ => true) true m 3 [c3] = some y3 := by have e := hf 3 _ rfl; rw [k3] at e; simpa [Tryd.cellsOne] using e
    obtain ⟨n0, q0, -, -⟩ := DataW.trod_int Tryd.underlying3 e0
    obtain ⟨n1, q1, -, -⟩ := DataW.trod_int Tryd.underlying3 e1
    obtain ⟨n2, q2, -, -⟩ := DataW.trod_int Tryd.underlying3 e2
    obtain ⟨n3, q3, -, -⟩ := DataW.trod_int Tryd.underlying3 e3
    simp at q0 q1 q2 q3
    subst q0 q1 q2 q3
    exact ⟨⟨n0, n1, n2, n3⟩, rfl⟩
set_option maxRecDepth 100000 in
theorem ent_of_trod2 {H : Type} {enc : TypeId × Value → H} {W : World} (n : Nat) (cs : List Value) (x : DataW H × List MemPlace) (h : DataW.trod enc Tryd.prog W 0 (fun _ => true) true n 27 cs = some x) : ∃ e : EntD, ∃ pv gv ev fv lv, cs = (entRow e pv gv ev fv lv).toList ∧ EntParts W e pv gv ev fv lv ∧ ∀ p ∈ e.edges, (Lit.int .i64 p.1).wf = true ∧ (Lit.int .i64 p.2).wf = true := by
  obtain ⟨xs, m, -, -, hl, hxs, hf⟩ := DataW.trod_struct Tryd.underlying27 h
  rw [Tryd.cellsEnt] at hl
  match cs, hl with
  | [c0, c1, c2, c3, c4, c5, c6, c7, c8, c9], _ =>
    have g : ∀ i, i < 10 → ∃ y, xs[i]? = some y := fun i hi => ⟨xs[i]'(by rw [hxs]; exact hi), List.getElem?_eq_getElem _⟩
    obtain ⟨y0, k0⟩ := g 0 (by decide)
    obtain ⟨y1, k1⟩ := g 1 (by decide)
    obtain ⟨y2, k2⟩ := g 2 (by decide)
    obtain ⟨y3, k3⟩ := g 3 (by decide)
    obtain ⟨y4, k4⟩ := g 4 (by decide)
    obtain ⟨y5, k5⟩ := g 5 (by decide)
    obtain ⟨y6, k6⟩ := g 6 (by decide)
    obtain ⟨y7, k7⟩ := g 7 (by decide)
    obtain ⟨y8, k8⟩ := g 8 (by decide)
    obtain ⟨y9, k9⟩ := g 9 (by decide)
    have e0 : DataW.trod enc Tryd.prog W 0 (fun _ => true) true m 9 [c0] = some y0 := by have e := hf 0 _ rfl; rw [k0] at e; simpa [Tryd.cellsOne] using e
    have e1 : DataW.trod enc Tryd.prog W 0 (fun _ => true) true m 3 [c1] = some y1 := by have e := hf 1 _ rfl; rw [k1] at e; simpa [Tryd.cellsOne] using e
    have e2 : DataW.trod enc Tryd.prog W 0 (fun _ => true) true m 22 [c2] = some y2 := by have e := hf 2 _ rfl; rw [k2] at e; simpa [Tryd.cellsOne] using e
    have e3 : DataW.trod enc Tryd.prog W 0 (fun _ => true) true m 3 [c3] = some y3 := by have e := hf 3 _ rfl; rw [k3] at e; simpa [Tryd.cellsOne] using e
    have e4 : DataW.trod enc Tryd.prog W 0 (fun _ => true) true m 3 [c4] = some y4 := by have e := hf 4 _ rfl; rw [k4] at e; simpa [Tryd.cellsOne] using e
    have e5 : DataW.trod enc Tryd.prog W 0 (fun _ => true) true m 3 [c5] = some y5 := by have e := hf 5 _ rfl; rw [k5] at e; simpa [Tryd.cellsOne] using e
    have e6 : DataW.trod enc Tryd.prog W 0 (fun _ => true) true m 23 [c6] = some y6 := by have e := hf 6 _ rfl; rw [k6] at e; simpa [Tryd.cellsOne] using e
    have e7 : DataW.trod enc Tryd.prog W 0 (fun _ => true) true m 24 [c7] = some y7 := by have e := hf 7 _ rfl; rw [k7] at e; simpa [Tryd.cellsOne] using e
    have e8 : DataW.trod enc Tryd.prog W 0 (fun _ => true) true m 25 [c8] = some y8 := by have e := hf 8 _ rfl; rw [k8] at e; simpa [Tryd.cellsOne] using e
    have e9 : DataW.trod enc Tryd.prog W 0 (fun _ => true) true m 25 [c9] = some y9 := by have e := hf 9 _ rfl; rw [k9] at e; simpa [Tryd.cellsOne] using e
    obtain ⟨n0, q0, -, -⟩ := DataW.trod_string Tryd.underlying9 e0
    obtain ⟨n1, q1, -, -⟩ := DataW.trod_int Tryd.underlying3 e1
    obtain ⟨n3, q3, -, -⟩ := DataW.trod_int Tryd.underlying3 e3
    obtain ⟨n4, q4, -, -⟩ := DataW.trod_int Tryd.underlying3 e4
    obtain ⟨n5, q5, -, -⟩ := DataW.trod_int Tryd.underlying3 e5
    obtain ⟨l2, h2⟩ := sl_of_trod ByteArray.empty (ec := encS) Tryd.underlying22 Tryd.cellsOne.2.1 (by decide) str_of_trod e2
    obtain ⟨l6, h6⟩ := sl_of_trod (⟨0, 0, 0, 0⟩ : GapD) (ec := encG) Tryd.underlying23 Tryd.cellsGap (by decide) gap_of_trod e6
    obtain ⟨l7, h7, w7⟩ := sl_of_trod2 ((0, 0) : Int × Int) (ec := encP) (R := fun p => (Lit.int .i64 p.1).wf = true ∧ (Lit.int .i64 p.2).wf = true) Tryd.underlying24 Tryd.cellsTwo (by decide) two_of_trod2 e7
    obtain ⟨l8, h8⟩ := sl_of_trod (0 : Int) (ec := encI) Tryd.underlying25 Tryd.cellsOne.1 (by decide) int_of_trod e8
    obtain ⟨l9, h9⟩ := sl_of_trod (0 : Int) (ec := encI) Tryd.underlying25 Tryd.cellsOne.1 (by decide) int_of_trod e9
    simp at q0 q1 q3 q4 q5
    subst q0 q1 q3 q4 q5
    exact ⟨⟨n0, n1, l2, n3, n4, n5, l6, l7, l8, l9⟩, c2, c6, c7, c8, c9, rfl, ⟨h2, h6, h7, h8, h9⟩, w7⟩
theorem ent_of_trod {H : Type} {enc : TypeId × Value → H} {W : World} (n : Nat) (cs : List Value) (x : DataW H × List MemPlace) (h : DataW.trod enc Tryd.prog W 0 (fun _ => true) true n 27 cs = some x) : ∃ e : EntD, ∃ pv gv ev fv lv, cs = (entRow e pv gv ev fv lv).toList ∧ EntParts W e pv gv ev fv lv := by
  obtain ⟨e, pv, gv, ev, fv, lv, h1, h2, -⟩ := ent_of_trod2 n cs x h
  exact ⟨e, pv, gv, ev, fv, lv, h1, h2⟩
end Go.Proofs.YtpaolneaomeoiabDoor
