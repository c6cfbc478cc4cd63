/-
  A list copied by append into memory of its own ('SlOwn'). Condition: it lies in memory, with at most a million elements.
-/
import Derived.Test.YtgehlcmancdgcacDoorCfMem0
import Derived.Deep.Upon
import Derived.Lib.Builder
namespace Go.Proofs.YtgehlcmancdgcacDoor
open Go.RowKit Go.Extern.Stop Go.Stop Go.Extern

theorem addC_plain (b o j : Nat) : (⟨b, o, none⟩ : Addr).add j = ⟨b, o + j, none⟩ := by unfold Addr.add; split <;> simp_all
/-- A list in a row of its own, from block B on. -/
def SlOwn {α : Type} (enc : α → List Value) (k : Nat) (T : TypeId) (B : Nat) (w : World) (v : Value) (xs : List α) : Prop := w.ownsRow B T k v xs.length (xs.flatMap enc)
theorem flat_at {α : Type} {enc : α → List Value} {k : Nat} (henc : ∀ x, (enc x).length = k) : ∀ (xs : List α) (i j : Nat) (x : α) (u : Value), xs[i]? = some x → (enc x)[j]? = some u → (xs.flatMap enc)[i * k + j]? = some u
  | [], i, j, x, u, h, _ => by simp at h
  | y :: t, 0, j, x, u, h, hu => by
    simp at h
    subst h
    have hj : j < (enc y).length := (List.getElem?_eq_some_iff.1 hu).1
    rw [List.flatMap_cons, Nat.zero_mul, Nat.zero_add, List.getElem?_append_left hj]
    exact hu
  | y :: t, i + 1, j, x, u, h, hu => by
    have ih := flat_at henc t i j x u (by simpa using h) hu
    rw [List.flatMap_cons, List.getElem?_append_right (by rw [henc]; rw [Nat.succ_mul]; omega), henc]
    have e : (i + 1) * k + j - k = i * k + j := by rw [Nat.succ_mul]; omega
    rw [e]
    exact ih
theorem flat_len {α : Type} {enc : α → List Value} {k : Nat} (henc : ∀ x, (enc x).length = k) : ∀ (xs : List α), (xs.flatMap enc).length = xs.length * k
  | [] => by simp
  | y :: t => by rw [List.flatMap_cons, List.length_append, henc, flat_len henc t, List.length_cons, Nat.succ_mul]; omega
theorem flat_of {α : Type} {enc : α → List Value} {k : Nat} (henc : ∀ x, (enc x).length = k) : ∀ (xs : List α) (n : Nat) (u : Value), (xs.flatMap enc)[n]? = some u → ∃ i j x, n = i * k + j ∧ xs[i]? = some x ∧ (enc x)[j]? = some u
  | [], n, u, h => by simp at h
  | y :: t, n, u, h => by
    rw [List.flatMap_cons] at h
    by_cases hn : n < k
    · rw [List.getElem?_append_left (by rw [henc]; exact hn)] at h
      exact ⟨0, n, y, by simp, rfl, h⟩
    · rw [List.getElem?_append_right (by rw [henc]; omega), henc] at h
      obtain ⟨i, j, x, e, h1, h2⟩ := flat_of henc t (n - k) u h
      exact ⟨i + 1, j, x, by rw [Nat.succ_mul]; omega, by simpa using h1, h2⟩
theorem SlOwn.slat {α : Type} {enc : α → List Value} {k : Nat} {T : TypeId} {B : Nat} {w : World} {v : Value} {xs : List α} (h : SlOwn enc k T B w v xs) (henc : ∀ x, (enc x).length = k) : SlAt enc k w v xs := by
  rcases h.2 with ⟨rfl, h0⟩ | ⟨g, cap, cur, rfl, hB, hg, hle, -⟩
  · have : xs = [] := List.eq_nil_of_length_eq_zero h0
    subst this
    exact ⟨none, 0, rfl, Nat.le_refl _, fun e => absurd rfl e⟩
  · refine ⟨_, cap, rfl, hle, fun _ => ⟨g, 0, rfl, fun i x hx j u hu => ?_⟩⟩
    have := h.cells (g := g) rfl (i * k + j) u (flat_at henc xs i j x u hx hu)
    rw [addC_plain] at this
    rw [Nat.add_assoc]
    exact this
theorem SlOwn.below {α : Type} {enc : α → List Value} {k : Nat} {T : TypeId} {B : Nat} {w w' : World} {v : Value} {xs : List α} (h : SlOwn enc k T B w v xs) (hb : Below w.heap.size w w') : SlOwn enc k T B w' v xs :=
  h.kept (row := none) ⟨hb.os, hb.tape, hb.output, hb.size, fun k hk _ => hb.block k hk⟩ (by by_cases e : v.ownBlock = none; exact Or.inl e; exact Or.inr e)
/-- While a block of another type is written. -/
theorem SlOwn.other {α : Type} {enc : α → List Value} {T T' : TypeId} {B b : Nat} {w w' : World} {v : Value} {xs : List α} {k : Nat} (h : SlOwn enc k T B w v xs) (hg : w.grownBy w' (some b)) {c : Array Value} {fr : Nat × Nat} (hb : w.heap[b]? = some (.cells c T' fr)) (hT : T' ≠ T) : SlOwn enc k T B w' v xs := by
  refine h.kept hg (Or.inr ?_)
  rcases h.2 with ⟨rfl, _⟩ | ⟨g, cap, cur, rfl, _, hg', _⟩
  · simp [Value.ownBlock]
  · intro e
    simp only [Value.ownBlock, Option.some.injEq] at e
    subst e
    rw [hg'] at hb
    simp only [Option.some.injEq, Obj.cells.injEq] at hb
    exact hT hb.2.1.symm
theorem grown_setCell (w : World) (b j : Nat) (v : Value) : w.grownBy (w.setCell ⟨b, j, none⟩ v) (some b) :=
  ⟨rfl, rfl, rfl, by simp [World.setCell], fun k _ hk => Below.heap_setCell _ _ _ _ (fun e => hk (by simp [e]))⟩
set_option maxHeartbeats 1000000 in
/-- 'append(nil, l...)', for the walk. -/
theorem wpList_copy {α : Type} {w : World} {ops : Array Oper} {rest : List Oper} {o : Oper} {a : Act} {Q : Exit → Act → World → Prop} (hgd : o.guard = none) (s x : Operand) (t : TypeId)
    (ho : o.op = .call { callee := .builtin .append, args := #[s, x], argTypes := #[t, t] })
    (B : Nat) (e : TypeId) (i : TypeInfo) (z : Value) (size bytes : Nat) (ht : Tryd.prog.underlying t = some (.slice e)) (hi : Tryd.prog.info? e = some i) (hz : i.zero = some z) (hsize : i.size = size) (hby : i.bytes = bytes) (hzs : z.cells.size = size) (hsz : 0 < size)
    (hs : a.eval s = .slice none 0 0) (enc : α → List Value) (henc : ∀ x, (enc x).length = size) (h1 : ∀ x, ∀ u ∈ enc x, u.oneCell' = true) (v : Value) (xs : List α) (hx : a.eval x = v) (hv : SlAt enc size w v xs) (hm : xs.length ≤ 1000000) (hbb : bytes ≤ 1000) (hB : B ≤ w.heap.size)
    (h : ∀ sa' cap' w', SlOwn enc size e B w' (.slice sa' xs.length cap') xs → Below w.heap.size w w' → wpList Tryd.prog ops Q rest (a.put o.dst (.slice sa' xs.length cap')) w') : wpList Tryd.prog ops Q (o :: rest) a w := by
  obtain ⟨sa, cap, rfl, hle, hcell⟩ := hv
  by_cases hne : xs = []
  · subst hne
    refine wpList_plain hgd fun K hK => ?_
    have hsrc : Src Tryd.prog i.size t (.slice sa 0 cap) 0 [] w := by
      cases sa with
      | none => exact Src.ofNil w ht cap
      | some ad => exact Src.ofSlice w ht ad 0 cap [] (by simp) (fun j u hu => by simp at hu) (fun u hu => by simp at hu)
    have hr := run_append_nothing (P := Tryd.prog) w t t o.type e i ht hi none 0 0 (Nat.le_refl _) (.slice sa 0 cap) hsrc
    unfold Oper.wp execOp
    simp only [List.length_nil] at hx
    simp only [ho, resolve, invoke, builtin, Sem.run_bind, Sem.run_pure, Result.andThen_ok, List.map_toArray, List.map_cons, List.map_nil, hs, hx, hr]
    exact hK _ _ (h none 0 w (World.ownsRow_nil _ _ _ _) (Below.refl _ _))
  · obtain ⟨b, of, rfl, hc⟩ := hcell hne
    refine wpList_append_own w hgd s x t ho w.heap.size e i z size bytes ht hi hz hsize hby hzs hsz (.slice none 0 0) 0 [] hs (World.ownsRow_nil _ _ _ _) ⟨b, of, none⟩ xs.length cap (xs.flatMap enc) hx (flat_len henc xs) (fun j u hu => ?_) (fun u hu => ?_) (by unfold maxLen; omega) ?_ (Nat.le_refl _) (fun v' w' hown hg hn => ?_)
    · obtain ⟨i', j', y, e1, h2, h3⟩ := flat_of henc xs j u hu
      have := hc i' y h2 j' u h3
      rw [e1, addC_plain, ← Nat.add_assoc]
      exact this
    · simp only [List.mem_flatMap] at hu
      obtain ⟨y, -, hy⟩ := hu
      exact h1 y u hy
    · have : (0 + xs.length) * bytes ≤ 1000000 * 1000 := Nat.mul_le_mul (by omega) hbb
      omega
    · have hown' : w'.ownsRow w.heap.size e size v' xs.length (xs.flatMap enc) := by simpa using hown
      have hb : Below w.heap.size w w' := (Below.refl _ _).grown hg (Nat.le_refl _) (fun k hk => by simp [Value.ownBlock] at hk)
      rcases hown'.2 with ⟨rfl, h0⟩ | ⟨g, cap2, cur, rfl, hB2, r⟩
      · exact absurd (List.eq_nil_of_length_eq_zero h0) hne
      · exact h _ _ w' ⟨hown'.1, Or.inr ⟨g, cap2, cur, rfl, Nat.le_trans hB hB2, r⟩⟩ hb
end Go.Proofs.YtgehlcmancdgcacDoor
