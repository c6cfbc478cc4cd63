/-
  slices.IndexFunc and slices.ContainsFunc at int, [2]int and api.Gap by contracts. Conditions: the slice lies in memory; what the function that is handed over answers.
-/
import Derived.Test.YtcnfkdecghdphabGreatDoorCfFirstSX
namespace Go.Proofs.YtcnfkdecghdphabGreatDoor
open Go.RowKit Go.Extern.Stop Go.Stop Go.Extern

/-- The place of the first one that is so; -1: none. -/
def idxP {α : Type} (p : α → Bool) : List α → Int
  | [] => -1
  | x :: t => if p x then 0 else if idxP p t < 0 then -1 else idxP p t + 1
theorem idxP_none {α : Type} (p : α → Bool) : ∀ (xs : List α), (∀ (i : Nat) (x : α), xs[i]? = some x → p x = false) → idxP p xs = -1
  | [], _ => rfl
  | x :: t, h => by
    have h0 := h 0 x rfl
    have := idxP_none p t (fun i y e => h (i + 1) y (by simpa using e))
    simp [idxP, h0, this]
theorem idxP_hit {α : Type} (p : α → Bool) : ∀ (xs : List α) (k : Nat) (x : α), (∀ (i : Nat) (y : α), i < k → xs[i]? = some y → p y = false) → xs[k]? = some x → p x = true → idxP p xs = (k : Int)
  | [], k, x, _, h, _ => by simp at h
  | y :: t, 0, x, _, h, hp => by simp at h; subst h; simp [idxP, hp]
  | y :: t, k + 1, x, h, h2, hp => by
    have h0 := h 0 y (by omega) rfl
    have := idxP_hit p t k x (fun i z hi e => h (i + 1) z (by omega) (by simpa using e)) (by simpa using h2) hp
    simp only [idxP, h0, this]
    rw [if_neg (by simp), if_neg (by omega)]
    omega
theorem idxP_any {α : Type} (p : α → Bool) : ∀ (xs : List α), decide (0 ≤ idxP p xs) = xs.any p
  | [] => rfl
  | x :: t => by
    have := idxP_any p t
    unfold idxP
    by_cases h : p x = true
    · simp [h]
    · simp only [Bool.not_eq_true] at h
      rw [List.any_cons, h, Bool.false_or, ← this]
      simp only [Bool.false_eq_true, if_false]
      by_cases h2 : idxP p t < 0
      · rw [if_pos h2]; exact decide_eq_decide.2 (by omega)
      · rw [if_neg h2]; exact decide_eq_decide.2 (by omega)

set_option maxHeartbeats 1000000 in
theorem idx_int (v : Value) (xs : List Int) (p : Int → Bool) (g : Nat) (lb : Array Value) (w : World) (hv : SlAt encI 1 w v xs) (hn : xs.length ≤ 1000000) (eg : ∀ args w, (callFunc g args).run Tryz.prog w = .ok (.enter g args) w)
    (hp : ∀ W, Below w.heap.size w W → ∀ x, x ∈ xs → Calls Tryz.prog g (#[.int .i64 x] ++ lb) W fun e W' => e = .returned (.bool (p x)) ∧ Below W.heap.size W W') :
    Calls Tryz.prog 121 #[v, .func (.func g) #[] lb] w fun e w' => e = .returned (.int .i64 (idxP p xs)) ∧ Below w.heap.size w w' := by
  obtain ⟨sa, cap, rfl, -, hcell⟩ := hv
  have HC : Hid (xs ≠ [] → ∃ b o, sa = some ⟨b, o, none⟩ ∧ ∀ (i : Nat) x, xs[i]? = some x → ∀ (j : Nat) u, (encI x)[j]? = some u → w.cell? ⟨b, o + i * 1 + j, none⟩ = some u) := hcell
  have HP : Hid (∀ W, Below w.heap.size w W → ∀ x, x ∈ xs → Calls Tryz.prog g (#[.int .i64 x] ++ lb) W fun e W' => e = .returned (.bool (p x)) ∧ Below W.heap.size W W') := hp
  have HL : Hid (xs.length ≤ 1000000) := hn
  clear hcell hp hn
  go_enter Tryz.func121, Tryz.ntmps121
  go_wp2_with fail
  go_loopw [5, 8] (fun _ i wr => ∃ k : Nat, k ≤ xs.length ∧ i = .int .i64 k ∧ Below w.heap.size w wr ∧ Hid (∀ (i : Nat) (y : Int), i < k → xs[i]? = some y → p y = false)) (fun _ i _ => xs.length - (intOf i).toNat)
  case atStart => exact ⟨0, Nat.zero_le _, rfl, Below.refl _ _, fun i b hi => absurd hi (Nat.not_lt_zero _)⟩
  case round =>
    obtain ⟨k, hk, rfl, hbw, hall⟩ := hrel
    by_cases hlt : k < xs.length
    · obtain ⟨x, hx⟩ : ∃ x, xs[k]? = some x := ⟨_, List.getElem?_eq_getElem hlt⟩
      obtain ⟨b, o, rfl, hc0⟩ := HC.out (fun e => by subst e; simp at hx)
      have hc : ∀ (i : Nat) x, xs[i]? = some x → ∀ (j : Nat) u, (encI x)[j]? = some u → wr.cell? ⟨b, o + i * 1 + j, none⟩ = some u := fun i x h j u hu => cell_below hbw (hc0 i x h j u hu)
      have c0 := hc k x hx 0 _ rfl
      simp only [Nat.mul_one, Nat.add_zero] at c0
      have HX : Hid (xs[k]? = some x) := hx
      have hm := HP.out _ hbw x (List.mem_of_getElem? hx)
      have k1 : (k : Int) < (xs.length : Int) := by omega
      have k0 : k < 1000000 := by have := HL.out; omega
      have HB : Hid (Below w.heap.size w wr) := hbw
      clear hx hc0 hc HC HP hbw
      cases hpx : p x with
      | true =>
        rw [hpx] at hm
        have HM : Hid _ := hm
        have HPX : Hid (p x = true) := hpx
        clear hm hpx
        go_wp2_with fail
        refine Calls.mono HM.out ?_
        rintro e W' ⟨rfl, hb'⟩
        go_wp2
        go_ret
        exact ⟨by rw [idxP_hit p xs k x hall.out HX.out HPX.out]; rfl, HB.out.trans (hb'.mono HB.out.size)⟩
      | false =>
        rw [hpx] at hm
        have HM : Hid _ := hm
        have HPX : Hid (p x = false) := hpx
        clear hm hpx
        go_wp2_with fail
        refine Calls.mono HM.out ?_
        rintro e W' ⟨rfl, hb'⟩
        have HW : Hid (Below w.heap.size w W') := HB.out.trans (hb'.mono HB.out.size)
        clear hb'
        go_wp2
        go_roundw
        case rel =>
          refine ⟨k + 1, by omega, by go_num, HW.out, fun i y hi e => ?_⟩
          by_cases hik : i = k
          · subst hik
            have h2 := HX.out
            rw [h2] at e
            cases e
            exact HPX.out
          · exact hall.out i y (by omega) e
        case measure => simp [intOf]; omega
    · have k1 : ¬ (k : Int) < (xs.length : Int) := by omega
      have HN : Hid (idxP p xs = -1) := idxP_none p xs (fun i x e => hall.out i x (by have := (List.getElem?_eq_some_iff.1 e).1; omega) e)
      clear HC HP
      go_wp2
      go_ret
      exact ⟨by rw [HN.out]; rfl, hbw⟩
theorem any_int (v : Value) (xs : List Int) (p : Int → Bool) (g : Nat) (lb : Array Value) (w : World) (hv : SlAt encI 1 w v xs) (hn : xs.length ≤ 1000000) (eg : ∀ args w, (callFunc g args).run Tryz.prog w = .ok (.enter g args) w)
    (hp : ∀ W, Below w.heap.size w W → ∀ x, x ∈ xs → Calls Tryz.prog g (#[.int .i64 x] ++ lb) W fun e W' => e = .returned (.bool (p x)) ∧ Below W.heap.size W W') :
    Calls Tryz.prog 103 #[v, .func (.func g) #[] lb] w fun e w' => e = .returned (.bool (xs.any p)) ∧ Below w.heap.size w w' := by
  have H := idx_int v xs p g lb w hv hn eg hp
  rw [← idxP_any]
  obtain ⟨sa, cap, rfl, -⟩ := hv
  clear hp hn
  go_enter Tryz.func103, Tryz.ntmps103
  go_wp2_with fail
  refine H.mono ?_
  rintro e w' ⟨rfl, hb⟩
  go_wp2
  go_ret
  exact ⟨rfl, hb⟩

set_option maxHeartbeats 1000000 in
theorem idx_pair (v : Value) (xs : List (Int × Int)) (p : (Int × Int) → Bool) (g : Nat) (lb : Array Value) (w : World) (hv : SlAt encP 2 w v xs) (hn : xs.length ≤ 1000000) (eg : ∀ args w, (callFunc g args).run Tryz.prog w = .ok (.enter g args) w)
    (hp : ∀ W, Below w.heap.size w W → ∀ x, x ∈ xs → Calls Tryz.prog g (#[.agg #[.int .i64 x.1, .int .i64 x.2]] ++ lb) W fun e W' => e = .returned (.bool (p x)) ∧ Below W.heap.size W W') :
    Calls Tryz.prog 106 #[v, .func (.func g) #[] lb] w fun e w' => e = .returned (.int .i64 (idxP p xs)) ∧ Below w.heap.size w w' := by
  obtain ⟨sa, cap, rfl, -, hcell⟩ := hv
  have HC : Hid (xs ≠ [] → ∃ b o, sa = some ⟨b, o, none⟩ ∧ ∀ (i : Nat) x, xs[i]? = some x → ∀ (j : Nat) u, (encP x)[j]? = some u → w.cell? ⟨b, o + i * 2 + j, none⟩ = some u) := hcell
  have HP : Hid (∀ W, Below w.heap.size w W → ∀ x, x ∈ xs → Calls Tryz.prog g (#[.agg #[.int .i64 x.1, .int .i64 x.2]] ++ lb) W fun e W' => e = .returned (.bool (p x)) ∧ Below W.heap.size W W') := hp
  have HL : Hid (xs.length ≤ 1000000) := hn
  clear hcell hp hn
  go_enter Tryz.func106, Tryz.ntmps106
  go_wp2_with fail
  go_loopw [5, 8] (fun _ i wr => ∃ k : Nat, k ≤ xs.length ∧ i = .int .i64 k ∧ Below w.heap.size w wr ∧ Hid (∀ (i : Nat) (y : (Int × Int)), i < k → xs[i]? = some y → p y = false)) (fun _ i _ => xs.length - (intOf i).toNat)
  case atStart => exact ⟨0, Nat.zero_le _, rfl, Below.refl _ _, fun i b hi => absurd hi (Nat.not_lt_zero _)⟩
  case round =>
    obtain ⟨k, hk, rfl, hbw, hall⟩ := hrel
    by_cases hlt : k < xs.length
    · obtain ⟨x, hx⟩ : ∃ x, xs[k]? = some x := ⟨_, List.getElem?_eq_getElem hlt⟩
      obtain ⟨b, o, rfl, hc0⟩ := HC.out (fun e => by subst e; simp at hx)
      have hc : ∀ (i : Nat) x, xs[i]? = some x → ∀ (j : Nat) u, (encP x)[j]? = some u → wr.cell? ⟨b, o + i * 2 + j, none⟩ = some u := fun i x h j u hu => cell_below hbw (hc0 i x h j u hu)
      have c0 := hc k x hx 0 _ rfl
      have c1 := hc k x hx 1 _ rfl
      simp only [Nat.add_zero] at c0
      have HX : Hid (xs[k]? = some x) := hx
      have hm := HP.out _ hbw x (List.mem_of_getElem? hx)
      have k1 : (k : Int) < (xs.length : Int) := by omega
      have k0 : k < 1000000 := by have := HL.out; omega
      have HB : Hid (Below w.heap.size w wr) := hbw
      clear hx hc0 hc HC HP hbw
      cases hpx : p x with
      | true =>
        rw [hpx] at hm
        have HM : Hid _ := hm
        have HPX : Hid (p x = true) := hpx
        clear hm hpx
        go_wp2_with fail
        refine Calls.mono HM.out ?_
        rintro e W' ⟨rfl, hb'⟩
        go_wp2
        go_ret
        exact ⟨by rw [idxP_hit p xs k x hall.out HX.out HPX.out]; rfl, HB.out.trans (hb'.mono HB.out.size)⟩
      | false =>
        rw [hpx] at hm
        have HM : Hid _ := hm
        have HPX : Hid (p x = false) := hpx
        clear hm hpx
        go_wp2_with fail
        refine Calls.mono HM.out ?_
        rintro e W' ⟨rfl, hb'⟩
        have HW : Hid (Below w.heap.size w W') := HB.out.trans (hb'.mono HB.out.size)
        clear hb'
        go_wp2
        go_roundw
        case rel =>
          refine ⟨k + 1, by omega, by go_num, HW.out, fun i y hi e => ?_⟩
          by_cases hik : i = k
          · subst hik
            have h2 := HX.out
            rw [h2] at e
            cases e
            exact HPX.out
          · exact hall.out i y (by omega) e
        case measure => simp [intOf]; omega
    · have k1 : ¬ (k : Int) < (xs.length : Int) := by omega
      have HN : Hid (idxP p xs = -1) := idxP_none p xs (fun i x e => hall.out i x (by have := (List.getElem?_eq_some_iff.1 e).1; omega) e)
      clear HC HP
      go_wp2
      go_ret
      exact ⟨by rw [HN.out]; rfl, hbw⟩
theorem any_pair (v : Value) (xs : List (Int × Int)) (p : (Int × Int) → Bool) (g : Nat) (lb : Array Value) (w : World) (hv : SlAt encP 2 w v xs) (hn : xs.length ≤ 1000000) (eg : ∀ args w, (callFunc g args).run Tryz.prog w = .ok (.enter g args) w)
    (hp : ∀ W, Below w.heap.size w W → ∀ x, x ∈ xs → Calls Tryz.prog g (#[.agg #[.int .i64 x.1, .int .i64 x.2]] ++ lb) W fun e W' => e = .returned (.bool (p x)) ∧ Below W.heap.size W W') :
    Calls Tryz.prog 71 #[v, .func (.func g) #[] lb] w fun e w' => e = .returned (.bool (xs.any p)) ∧ Below w.heap.size w w' := by
  have H := idx_pair v xs p g lb w hv hn eg hp
  rw [← idxP_any]
  obtain ⟨sa, cap, rfl, -⟩ := hv
  clear hp hn
  go_enter Tryz.func71, Tryz.ntmps71
  go_wp2_with fail
  refine H.mono ?_
  rintro e w' ⟨rfl, hb⟩
  go_wp2
  go_ret
  exact ⟨rfl, hb⟩

set_option maxHeartbeats 1000000 in
theorem idx_gap (v : Value) (xs : List GapD) (p : GapD → Bool) (g : Nat) (lb : Array Value) (w : World) (hv : SlAt encG 4 w v xs) (hn : xs.length ≤ 1000000) (eg : ∀ args w, (callFunc g args).run Tryz.prog w = .ok (.enter g args) w)
    (hp : ∀ W, Below w.heap.size w W → ∀ x, x ∈ xs → Calls Tryz.prog g (#[.agg #[.int .i64 x.fr, .int .i64 x.to, .int .i64 x.mn, .int .i64 x.mx]] ++ lb) W fun e W' => e = .returned (.bool (p x)) ∧ Below W.heap.size W W') :
    Calls Tryz.prog 105 #[v, .func (.func g) #[] lb] w fun e w' => e = .returned (.int .i64 (idxP p xs)) ∧ Below w.heap.size w w' := by
  obtain ⟨sa, cap, rfl, -, hcell⟩ := hv
  have HC : Hid (xs ≠ [] → ∃ b o, sa = some ⟨b, o, none⟩ ∧ ∀ (i : Nat) x, xs[i]? = some x → ∀ (j : Nat) u, (encG x)[j]? = some u → w.cell? ⟨b, o + i * 4 + j, none⟩ = some u) := hcell
  have HP : Hid (∀ W, Below w.heap.size w W → ∀ x, x ∈ xs → Calls Tryz.prog g (#[.agg #[.int .i64 x.fr, .int .i64 x.to, .int .i64 x.mn, .int .i64 x.mx]] ++ lb) W fun e W' => e = .returned (.bool (p x)) ∧ Below W.heap.size W W') := hp
  have HL : Hid (xs.length ≤ 1000000) := hn
  clear hcell hp hn
  go_enter Tryz.func105, Tryz.ntmps105
  go_wp2_with fail
  go_loopw [5, 8] (fun _ i wr => ∃ k : Nat, k ≤ xs.length ∧ i = .int .i64 k ∧ Below w.heap.size w wr ∧ Hid (∀ (i : Nat) (y : GapD), i < k → xs[i]? = some y → p y = false)) (fun _ i _ => xs.length - (intOf i).toNat)
  case atStart => exact ⟨0, Nat.zero_le _, rfl, Below.refl _ _, fun i b hi => absurd hi (Nat.not_lt_zero _)⟩
  case round =>
    obtain ⟨k, hk, rfl, hbw, hall⟩ := hrel
    by_cases hlt : k < xs.length
    · obtain ⟨x, hx⟩ : ∃ x, xs[k]? = some x := ⟨_, List.getElem?_eq_getElem hlt⟩
      obtain ⟨b, o, rfl, hc0⟩ := HC.out (fun e => by subst e; simp at hx)
      have hc : ∀ (i : Nat) x, xs[i]? = some x → ∀ (j : Nat) u, (encG x)[j]? = some u → wr.cell? ⟨b, o + i * 4 + j, none⟩ = some u := fun i x h j u hu => cell_below hbw (hc0 i x h j u hu)
      have c0 := hc k x hx 0 _ rfl
      have c1 := hc k x hx 1 _ rfl
      have c2 := hc k x hx 2 _ rfl
      have c3 := hc k x hx 3 _ rfl
      simp only [Nat.add_zero] at c0
      have HX : Hid (xs[k]? = some x) := hx
      have hm := HP.out _ hbw x (List.mem_of_getElem? hx)
      have k1 : (k : Int) < (xs.length : Int) := by omega
      have k0 : k < 1000000 := by have := HL.out; omega
      have HB : Hid (Below w.heap.size w wr) := hbw
      clear hx hc0 hc HC HP hbw
      cases hpx : p x with
      | true =>
        rw [hpx] at hm
        have HM : Hid _ := hm
        have HPX : Hid (p x = true) := hpx
        clear hm hpx
        go_wp2_with fail
        refine Calls.mono HM.out ?_
        rintro e W' ⟨rfl, hb'⟩
        go_wp2
        go_ret
        exact ⟨by rw [idxP_hit p xs k x hall.out HX.out HPX.out]; rfl, HB.out.trans (hb'.mono HB.out.size)⟩
      | false =>
        rw [hpx] at hm
        have HM : Hid _ := hm
        have HPX : Hid (p x = false) := hpx
        clear hm hpx
        go_wp2_with fail
        refine Calls.mono HM.out ?_
        rintro e W' ⟨rfl, hb'⟩
        have HW : Hid (Below w.heap.size w W') := HB.out.trans (hb'.mono HB.out.size)
        clear hb'
        go_wp2
        go_roundw
        case rel =>
          refine ⟨k + 1, by omega, by go_num, HW.out, fun i y hi e => ?_⟩
          by_cases hik : i = k
          · subst hik
            have h2 := HX.out
            rw [h2] at e
            cases e
            exact HPX.out
          · exact hall.out i y (by omega) e
        case measure => simp [intOf]; omega
    · have k1 : ¬ (k : Int) < (xs.length : Int) := by omega
      have HN : Hid (idxP p xs = -1) := idxP_none p xs (fun i x e => hall.out i x (by have := (List.getElem?_eq_some_iff.1 e).1; omega) e)
      clear HC HP
      go_wp2
      go_ret
      exact ⟨by rw [HN.out]; rfl, hbw⟩
theorem any_gap (v : Value) (xs : List GapD) (p : GapD → Bool) (g : Nat) (lb : Array Value) (w : World) (hv : SlAt encG 4 w v xs) (hn : xs.length ≤ 1000000) (eg : ∀ args w, (callFunc g args).run Tryz.prog w = .ok (.enter g args) w)
    (hp : ∀ W, Below w.heap.size w W → ∀ x, x ∈ xs → Calls Tryz.prog g (#[.agg #[.int .i64 x.fr, .int .i64 x.to, .int .i64 x.mn, .int .i64 x.mx]] ++ lb) W fun e W' => e = .returned (.bool (p x)) ∧ Below W.heap.size W W') :
    Calls Tryz.prog 68 #[v, .func (.func g) #[] lb] w fun e w' => e = .returned (.bool (xs.any p)) ∧ Below w.heap.size w w' := by
  have H := idx_gap v xs p g lb w hv hn eg hp
  rw [← idxP_any]
  obtain ⟨sa, cap, rfl, -⟩ := hv
  clear hp hn
  go_enter Tryz.func68, Tryz.ntmps68
  go_wp2_with fail
  refine H.mono ?_
  rintro e w' ⟨rfl, hb⟩
  go_wp2
  go_ret
  exact ⟨rfl, hb⟩
end Go.Proofs.YtcnfkdecghdphabGreatDoor
