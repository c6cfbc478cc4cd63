/-
  An argument, read: numbers, texts, lists. No condition.
-/
import Derived.Test.YtgehlcmancdgcacDoorCfMem0
import Derived.Lib.LaidTab
import Derived.ProofKit
import Derived.OpenShut
import Derived.Deep.Slices
import Derived.Carry
namespace Go.Proofs.YtgehlcmancdgcacDoor
open Go.ChangeShapes Go.WideShapes Go.ChangeAt Go.RowKit Go.Deep

theorem Tryd.laidOut : laidOutB Tryd.prog = true := by kernel_rfl
theorem spot_none {W : World} {a : Addr} {v : Value} (h : W.cell? a = some v) : a = ⟨a.block, a.off, none⟩ := by
  obtain ⟨b, o, s⟩ := a
  cases s with
  | none => rfl
  | some x =>
    exfalso
    unfold World.cell? at h
    split at h
    · simp at h
    · cases h
theorem add_plain (b o j : Nat) : (⟨b, o, none⟩ : Addr).add j = ⟨b, o + j, none⟩ := by unfold Addr.add; split <;> simp_all
theorem cells_of {W : World} {a : Addr} {k : Nat} {cs : List Value} (h : W.cells? 0 a k = some cs) : cs.length = k ∧ ∀ j u, cs[j]? = some u → W.cell? (a.add j) = some u := by
  unfold World.cells? at h
  rw [if_pos (Nat.zero_le _)] at h
  have hl : cs.length = k := by simpa using Lib.mapM_length h
  refine ⟨hl, fun j u hu => ?_⟩
  have hj : j < k := by have := (List.getElem?_eq_some_iff.1 hu).1; omega
  obtain ⟨b, h1, h2⟩ := Lib.mapM_at h j j (by simp [hj])
  rw [hu] at h1
  cases h1
  exact h2
theorem choose_any {α : Type} (d : α) {n : Nat} {p : Nat → α → Prop} (h : ∀ i, i < n → ∃ x, p i x) : ∃ f : Nat → α, ∀ i, i < n → p i (f i) := by
  classical
  refine ⟨fun i => if hi : i < n then Classical.choose (h i hi) else d, fun i hi => ?_⟩
  simp only [dif_pos hi]
  exact Classical.choose_spec (h i hi)
/-- A slice, read: its elements lie in memory, each as it is read. -/
theorem sl_gen {α : Type} (d : α) {Q : List Value → α → Prop} {H : Type} {enc : TypeId × Value → H} {W : World} {T Ts : TypeId} {k fuel : Nat} {cs : List Value} {x : DataW H × List MemPlace} (hs : Tryd.prog.underlying Ts = some (.slice T)) (hk : Tryd.prog.cellsOf T = k) (hk0 : 0 < k)
    (hel : ∀ n cs x, DataW.trod enc Tryd.prog W 0 (fun _ => true) true n T cs = some x → ∃ a, Q cs a) (h : DataW.trod enc Tryd.prog W 0 (fun _ => true) true fuel Ts cs = some x) :
    ∃ (sa : Option Addr) (cap : Nat) (xs : List α), cs = [.slice sa xs.length cap] ∧ xs.length ≤ cap ∧ (xs ≠ [] → ∃ b o, sa = some ⟨b, o, none⟩ ∧ ∀ i a, xs[i]? = some a → ∃ cs', Q cs' a ∧ ∀ j u, cs'[j]? = some u → W.cell? ⟨b, o + i * k + j, none⟩ = some u) := by
  rcases open_slice hs h with ⟨hcs, -⟩ | ⟨a, len, cap, m, n, D, Pl, hcs, -, hlc, hcm, hm, -, hall⟩
  · exact ⟨none, 0, [], by simpa using hcs, Nat.le_refl _, fun e => absurd rfl e⟩
  · simp only [if_true] at hm
    subst hm
    rw [hk] at hall
    obtain ⟨f, hf⟩ := choose_any d (n := len) (p := fun i y => ∃ cs', Q cs' y ∧ W.cells? 0 (a.add (i * k)) k = some cs') (fun i hi => by
      obtain ⟨cs', h1, h2⟩ := hall i (by omega)
      obtain ⟨y, hy⟩ := hel _ _ _ h2
      exact ⟨y, cs', hy, h1⟩)
    have hxl : ((List.range len).map f).length = len := by simp
    refine ⟨some a, m, (List.range len).map f, by rw [hxl]; exact hcs, by rw [hxl]; exact hlc, fun hne => ?_⟩
    have hpos : 0 < len := by
      rcases Nat.eq_zero_or_pos len with h0 | h0
      · subst h0; exact absurd rfl hne
      · exact h0
    have ha : a = ⟨a.block, a.off, none⟩ := by
      obtain ⟨cs', -, h1⟩ := hf 0 hpos
      obtain ⟨hl, hc⟩ := cells_of h1
      have e : (a.add (0 * k)).add 0 = a := by simp [Addr.add]
      have := hc 0 (cs'[0]'(by omega)) (List.getElem?_eq_getElem _)
      rw [e] at this
      exact spot_none this
    refine ⟨a.block, a.off, congrArg some ha, fun i y hy => ?_⟩
    rw [List.getElem?_map, Option.map_eq_some_iff] at hy
    obtain ⟨i', hi', rfl⟩ := hy
    obtain ⟨hil0, hi2⟩ := List.getElem?_eq_some_iff.1 hi'
    have hil : i < len := by simpa using hil0
    obtain rfl : i = i' := by simpa using hi2
    obtain ⟨cs', h1, h2⟩ := hf i hil
    refine ⟨cs', h1, fun j u hu => ?_⟩
    have := (cells_of h2).2 j u hu
    rw [ha, add_plain, add_plain] at this
    exact this
theorem sl_of_trod {α : Type} (d : α) {ec : α → List Value} {H : Type} {enc : TypeId × Value → H} {W : World} {T Ts : TypeId} {k fuel : Nat} {v : Value} {x : DataW H × List MemPlace} (hs : Tryd.prog.underlying Ts = some (.slice T)) (hk : Tryd.prog.cellsOf T = k) (hk0 : 0 < k)
    (hel : ∀ n cs x, DataW.trod enc Tryd.prog W 0 (fun _ => true) true n T cs = some x → ∃ a, cs = ec a) (h : DataW.trod enc Tryd.prog W 0 (fun _ => true) true fuel Ts [v] = some x) : ∃ xs : List α, SlAt ec k W v xs := by
  obtain ⟨sa, cap, xs, hcs, hl, hx⟩ := sl_gen d (Q := fun cs a => cs = ec a) hs hk hk0 hel h
  simp only [List.cons.injEq, and_true] at hcs
  refine ⟨xs, sa, cap, hcs, hl, fun hne => ?_⟩
  obtain ⟨b, o, h1, h2⟩ := hx hne
  refine ⟨b, o, h1, fun i y hy j u hu => ?_⟩
  obtain ⟨cs', rfl, h3⟩ := h2 i y hy
  exact h3 j u hu
theorem sl_of_trod2 {α : Type} (d : α) {ec : α → List Value} {R : α → Prop} {H : Type} {enc : TypeId × Value → H} {W : World} {T Ts : TypeId} {k fuel : Nat} {v : Value} {x : DataW H × List MemPlace} (hs : Tryd.prog.underlying Ts = some (.slice T)) (hk : Tryd.prog.cellsOf T = k) (hk0 : 0 < k)
    (hel : ∀ n cs x, DataW.trod enc Tryd.prog W 0 (fun _ => true) true n T cs = some x → ∃ a, cs = ec a ∧ R a) (h : DataW.trod enc Tryd.prog W 0 (fun _ => true) true fuel Ts [v] = some x) : ∃ xs : List α, SlAt ec k W v xs ∧ ∀ a ∈ xs, R a := by
  obtain ⟨sa, cap, xs, hcs, hl, hx⟩ := sl_gen d (Q := fun cs a => cs = ec a ∧ R a) hs hk hk0 hel h
  simp only [List.cons.injEq, and_true] at hcs
  refine ⟨xs, ⟨sa, cap, hcs, hl, fun hne => ?_⟩, fun a ha => ?_⟩
  · obtain ⟨b, o, h1, h2⟩ := hx hne
    refine ⟨b, o, h1, fun i y hy j u hu => ?_⟩
    obtain ⟨cs', ⟨rfl, -⟩, h3⟩ := h2 i y hy
    exact h3 j u hu
  · obtain ⟨i, hi⟩ := List.getElem?_of_mem ha
    obtain ⟨b, o, h1, h2⟩ := hx (fun e => by rw [e] at ha; cases ha)
    obtain ⟨cs', ⟨-, hr⟩, -⟩ := h2 i a hi
    exact hr
theorem int_of_trod {H : Type} {enc : TypeId × Value → H} {W : World} (n : Nat) (cs : List Value) (x : DataW H × List MemPlace) (h : DataW.trod enc Tryd.prog W 0 (fun _ => true) true n 3 cs = some x) : ∃ z : Int, cs = encI z := by
  obtain ⟨z, h1, -, -⟩ := DataW.trod_int Tryd.underlying3 h
  exact ⟨z, h1⟩
theorem str_of_trod {H : Type} {enc : TypeId × Value → H} {W : World} (n : Nat) (cs : List Value) (x : DataW H × List MemPlace) (h : DataW.trod enc Tryd.prog W 0 (fun _ => true) true n 9 cs = some x) : ∃ z : ByteArray, cs = encS z := by
  obtain ⟨z, h1, -, -⟩ := DataW.trod_string Tryd.underlying9 h
  exact ⟨z, h1⟩
end Go.Proofs.YtgehlcmancdgcacDoor
