/-
  slices.Index, slices.Contains and conf.twice at int and at [2]int by contracts. Condition: the slice lies in memory.
-/
import Derived.Test.YtcnfkdecghdphaaGreatDoorNmX
namespace Go.Proofs.YtcnfkdecghdphaaGreatDoor
open Go.RowKit Go.Extern.Stop Go.Stop Go.Extern

theorem SlAt.take {α : Type} {enc : α → List Value} {k : Nat} {w : World} {sa : Option Addr} {n cap : Nat} {xs : List α} (h : SlAt enc k w (.slice sa n cap) xs) (i : Nat) (hi : i ≤ xs.length) (cap' : Nat) (hc : i ≤ cap') : SlAt enc k w (.slice sa i cap') (xs.take i) := by
  obtain ⟨sa', c', e, -, h2⟩ := h
  cases e
  have hl : (xs.take i).length = i := by simp; omega
  refine ⟨sa, cap', by rw [hl], by omega, fun hne => ?_⟩
  obtain ⟨b, o, h3, h4⟩ := h2 (fun e => hne (by simp [e]))
  refine ⟨b, o, h3, fun j x hx => h4 j x ?_⟩
  rw [List.getElem?_take] at hx
  split at hx
  · exact hx
  · cases hx
theorem twice_hit {α : Type} [DecidableEq α] (xs : List α) (k : Nat) (x : α) (hx : xs[k]? = some x) (h : (xs.take k).any (fun y => decide (x = y)) = true) : twice xs = true := by
  unfold twice
  rw [List.any_eq_true]
  exact ⟨k, by simp; exact (List.getElem?_eq_some_iff.1 hx).1, by rw [hx]; exact h⟩
theorem twice_none {α : Type} [DecidableEq α] (xs : List α) (h : ∀ (k : Nat) (x : α), xs[k]? = some x → (xs.take k).any (fun y => decide (x = y)) = false) : twice xs = false := by
  unfold twice
  rw [List.any_eq_false]
  intro k hk
  simp only [List.mem_range] at hk
  have := h k _ (List.getElem?_eq_getElem hk)
  rw [List.getElem?_eq_getElem hk]
  simp only [this]
  simp

set_option maxHeartbeats 1000000 in
theorem index_int (v : Value) (xs : List Int) (z : Int) (w : World) (hv : SlAt encI 1 w v xs) (hn : xs.length ≤ 1000000) :
    Calls Tryz.prog 139 #[v, .int .i64 z] w fun e w' => e = .returned (.int .i64 (idxP (fun y => decide (z = y)) xs)) ∧ Below w.heap.size w w' := by
  obtain ⟨sa, cap, rfl, -, hcell⟩ := hv
  have HC : Hid (xs ≠ [] → ∃ b o, sa = some ⟨b, o, none⟩ ∧ ∀ (i : Nat) x, xs[i]? = some x → ∀ (j : Nat) u, (encI x)[j]? = some u → w.cell? ⟨b, o + i * 1 + j, none⟩ = some u) := hcell
  have HL : Hid (xs.length ≤ 1000000) := hn
  clear hcell hn
  go_enter Tryz.func139, Tryz.ntmps139
  go_wp2_with fail
  go_loopw [5, 8] (fun _ i wr => ∃ k : Nat, k ≤ xs.length ∧ i = .int .i64 k ∧ Below w.heap.size w wr ∧ Hid (∀ (i : Nat) (y : Int), i < k → xs[i]? = some y → (fun y => decide (z = y)) y = false)) (fun _ i _ => xs.length - (intOf i).toNat)
  case atStart => exact ⟨0, Nat.zero_le _, rfl, Below.refl _ _, fun i b hi => absurd hi (Nat.not_lt_zero _)⟩
  case round =>
    obtain ⟨k, hk, rfl, hbw, hall⟩ := hrel
    by_cases hlt : k < xs.length
    · obtain ⟨x, hx⟩ : ∃ x, xs[k]? = some x := ⟨_, List.getElem?_eq_getElem hlt⟩
      obtain ⟨b, o, rfl, hc0⟩ := HC.out (fun e => by subst e; simp at hx)
      have hc : ∀ (i : Nat) x, xs[i]? = some x → ∀ (j : Nat) u, (encI x)[j]? = some u → wr.cell? ⟨b, o + i * 1 + j, none⟩ = some u := fun i x h j u hu => cell_below hbw (hc0 i x h j u hu)
      have c0 := hc k x hx 0 _ rfl
      simp only [Nat.mul_one, Nat.add_zero] at c0
      have HX : Hid (xs[k]? = some x) := hx
      have k1 : (k : Int) < (xs.length : Int) := by omega
      have k0 : k < 1000000 := by have := HL.out; omega
      have HB : Hid (Below w.heap.size w wr) := hbw
      clear hx hc0 hc HC hbw
      by_cases hpx : z = x
      · have HPX : Hid ((fun y => decide (z = y)) x = true) := decide_eq_true hpx
        have e1 : (z == x) = true := by simp [hpx]
        clear hpx
        go_wp2_with fail
        go_ret
        exact ⟨by rw [idxP_hit _ xs k x hall.out HX.out HPX.out]; rfl, HB.out⟩
      · have HPX : Hid ((fun y => decide (z = y)) x = false) := decide_eq_false hpx
        have e1 : (z == x) = false := by simpa using hpx
        clear hpx
        go_wp2_with fail
        go_roundw
        case rel =>
          refine ⟨k + 1, by omega, by go_num, HB.out, fun i y hi e => ?_⟩
          by_cases hik : i = k
          · subst hik
            have h2 := HX.out
            rw [h2] at e
            cases e
            exact HPX.out
          · exact hall.out i y (by omega) e
        case measure => simp [intOf]; omega
    · have k1 : ¬ (k : Int) < (xs.length : Int) := by omega
      have HN : Hid (idxP (fun y => decide (z = y)) xs = -1) := idxP_none _ xs (fun i x e => hall.out i x (by have := (List.getElem?_eq_some_iff.1 e).1; omega) e)
      clear HC
      go_wp2
      go_ret
      exact ⟨by rw [HN.out]; rfl, hbw⟩
theorem contains_int (v : Value) (xs : List Int) (z : Int) (w : World) (hv : SlAt encI 1 w v xs) (hn : xs.length ≤ 1000000) :
    Calls Tryz.prog 126 #[v, .int .i64 z] w fun e w' => e = .returned (.bool (xs.any (fun y => decide (z = y)))) ∧ Below w.heap.size w w' := by
  have H := index_int v xs z w hv hn
  rw [← idxP_any]
  obtain ⟨sa, cap, rfl, -⟩ := hv
  clear hn
  go_enter Tryz.func126, Tryz.ntmps126
  go_wp2_with fail
  refine H.mono ?_
  rintro e w' ⟨rfl, hb⟩
  go_wp2
  go_ret
  exact ⟨rfl, hb⟩

set_option maxHeartbeats 1000000 in
theorem index_pair (v : Value) (xs : List (Int × Int)) (z : (Int × Int)) (w : World) (hv : SlAt encP 2 w v xs) (hn : xs.length ≤ 1000000) :
    Calls Tryz.prog 138 #[v, .agg #[.int .i64 z.1, .int .i64 z.2]] w fun e w' => e = .returned (.int .i64 (idxP (fun y => decide (z = y)) xs)) ∧ Below w.heap.size w w' := by
  obtain ⟨sa, cap, rfl, -, hcell⟩ := hv
  have HC : Hid (xs ≠ [] → ∃ b o, sa = some ⟨b, o, none⟩ ∧ ∀ (i : Nat) x, xs[i]? = some x → ∀ (j : Nat) u, (encP x)[j]? = some u → w.cell? ⟨b, o + i * 2 + j, none⟩ = some u) := hcell
  have HL : Hid (xs.length ≤ 1000000) := hn
  clear hcell hn
  have hg := Tryz.guardPair
  have heq := eql_pair
  go_enter Tryz.func138, Tryz.ntmps138
  go_wp2_with fail
  have HS : Hid (∀ W, Below (w.heap.size + 1) (w.alloc (.cells #[.int .i64 z.1, .int .i64 z.2] 79)) W → Below w.heap.size w W ∧ w.heap.size + 1 ≤ W.heap.size ∧ W.cell? ⟨w.heap.size, 0, none⟩ = some (.int .i64 z.1) ∧ W.cell? ⟨w.heap.size, 1, none⟩ = some (.int .i64 z.2)) := fun W hb => by
    have hc : ∀ j v, (w.alloc (.cells #[.int .i64 z.1, .int .i64 z.2] 79)).cell? ⟨w.heap.size, j, none⟩ = some v → W.cell? ⟨w.heap.size, j, none⟩ = some v := fun j v e => (hb.cell (p := ⟨w.heap.size, j, none⟩) (Nat.lt_succ_self _)).trans e
    exact ⟨((Below.refl _ _).alloc (Nat.le_refl _) _).trans (hb.mono (Nat.le_succ _)), by simpa using hb.size, hc 0 _ (by simp), hc 1 _ (by simp)⟩
  go_loopw [5, 8] (fun _ i wr => ∃ k : Nat, k ≤ xs.length ∧ i = .int .i64 k ∧ Below (w.heap.size + 1) (w.alloc (.cells #[.int .i64 z.1, .int .i64 z.2] 79)) wr ∧ Hid (∀ (i : Nat) (y : (Int × Int)), i < k → xs[i]? = some y → (fun y => decide (z = y)) y = false)) (fun _ i _ => xs.length - (intOf i).toNat)
  case atStart => exact ⟨0, Nat.zero_le _, rfl, Below.refl _ _, fun i b hi => absurd hi (Nat.not_lt_zero _)⟩
  case round =>
    obtain ⟨k, hk, rfl, hbw, hall⟩ := hrel
    have hbw' := hbw
    obtain ⟨hbw, hsz, p0, p1⟩ := HS.out _ hbw'
    clear hsz HS
    have HB' : Hid (Below (w.heap.size + 1) (w.alloc (.cells #[.int .i64 z.1, .int .i64 z.2] 79)) wr) := hbw'
    clear hbw'
    by_cases hlt : k < xs.length
    · obtain ⟨x, hx⟩ : ∃ x, xs[k]? = some x := ⟨_, List.getElem?_eq_getElem hlt⟩
      obtain ⟨b, o, rfl, hc0⟩ := HC.out (fun e => by subst e; simp at hx)
      have hc : ∀ (i : Nat) x, xs[i]? = some x → ∀ (j : Nat) u, (encP x)[j]? = some u → wr.cell? ⟨b, o + i * 2 + j, none⟩ = some u := fun i x h j u hu => cell_below hbw (hc0 i x h j u hu)
      have c0 := hc k x hx 0 _ rfl
      have c1 := hc k x hx 1 _ rfl
      simp only [Nat.add_zero] at c0
      have HX : Hid (xs[k]? = some x) := hx
      have k1 : (k : Int) < (xs.length : Int) := by omega
      have k0 : k < 1000000 := by have := HL.out; omega
      have HB : Hid (Below w.heap.size w wr) := hbw
      clear hx hc0 hc HC hbw
      by_cases hpx : z = x
      · have HPX : Hid ((fun y => decide (z = y)) x = true) := decide_eq_true hpx
        have e1 : (z.1 == x.1) = true := by simp [hpx]
        have e2 : (z.2 == x.2) = true := by simp [hpx]
        clear hpx
        go_wp2_with fail
        go_quiet (fail)
        go_wp2
        go_ret
        exact ⟨by rw [idxP_hit _ xs k x hall.out HX.out HPX.out]; rfl, below_drewN HB.out _⟩
      · have HPX : Hid ((fun y => decide (z = y)) x = false) := decide_eq_false hpx
        have e12 : (z.1 == x.1) = false ∨ (z.1 == x.1) = true ∧ (z.2 == x.2) = false := by
          by_cases h1 : z.1 = x.1
          · right
            refine ⟨by simpa using h1, ?_⟩
            simp only [beq_eq_false_iff_ne]
            exact fun h2 => hpx (Prod.ext h1 h2)
          · left; simpa using h1
        clear hpx
        rcases e12 with e1 | ⟨e1, e2⟩
        all_goals
          go_wp2_with fail
          go_quiet (fail)
          go_wp2
          go_roundw
          case rel =>
            refine ⟨k + 1, by omega, by go_num, below_drewN HB'.out _, fun i y hi e => ?_⟩
            by_cases hik : i = k
            · subst hik
              have h2 := HX.out
              rw [h2] at e
              cases e
              exact HPX.out
            · exact hall.out i y (by omega) e
          case measure => simp [intOf]; omega
    · have k1 : ¬ (k : Int) < (xs.length : Int) := by omega
      have HN : Hid (idxP (fun y => decide (z = y)) xs = -1) := idxP_none _ xs (fun i x e => hall.out i x (by have := (List.getElem?_eq_some_iff.1 e).1; omega) e)
      clear HC
      go_wp2
      go_ret
      exact ⟨by rw [HN.out]; rfl, hbw⟩
theorem contains_pair (v : Value) (xs : List (Int × Int)) (z : (Int × Int)) (w : World) (hv : SlAt encP 2 w v xs) (hn : xs.length ≤ 1000000) :
    Calls Tryz.prog 125 #[v, .agg #[.int .i64 z.1, .int .i64 z.2]] w fun e w' => e = .returned (.bool (xs.any (fun y => decide (z = y)))) ∧ Below w.heap.size w w' := by
  have H := index_pair v xs z _ (hv.below (Below.one w (.cells #[.int .i64 z.1, .int .i64 z.2] 79))) hn
  rw [← idxP_any]
  obtain ⟨sa, cap, rfl, -⟩ := hv
  clear hn
  go_enter Tryz.func125, Tryz.ntmps125
  go_wp2_with fail
  refine H.mono ?_
  rintro e w' ⟨rfl, hb⟩
  go_wp2
  go_ret
  exact ⟨rfl, (Below.one _ _).trans (hb.mono (by simp))⟩
end Go.Proofs.YtcnfkdecghdphaaGreatDoor
