/-
  Several texts as one: CfFirstS, CfAny, CfLacks, CfTwice.
-/
import Derived.Test.YtkphpgdgbnmnjacGreatDoorB22C
import Derived.Test.YtkphpgdgbnmnjacGreatDoorB17C
import Derived.Laws.StructEq
namespace Go.Proofs.YtkphpgdgbnmnjacGreatDoor
open Go.RowKit Go.Extern.Stop Go.Stop Go.Extern

theorem names1_at (s : ByteArray) (w : World) (hs : s.size ≤ 1000000) : Calls Tryz.prog 138 #[.string s] w fun e w' => e = .returned (.bool (!isName s)) ∧ Below w.heap.size w w' := by
  go_enter Tryz.func138, Tryz.ntmps138
  go_wp2_with fail
  refine (isName_at s _ hs).mono ?_
  rintro e w' ⟨rfl, hb⟩
  go_wp2
  go_ret
  exact ⟨rfl, hb⟩

/-- All cells but those of one block are as they were. -/
def KeptBut (mb : Nat) (w w' : World) : Prop := ∀ (p : Addr) (v : Value), p.block ≠ mb → w.cell? p = some v → w'.cell? p = some v
theorem KeptBut.refl (mb : Nat) (w : World) : KeptBut mb w w := fun _ _ _ h => h
theorem KeptBut.trans {mb : Nat} {w w' w'' : World} (h : KeptBut mb w w') (h2 : KeptBut mb w' w'') : KeptBut mb w w'' := fun p v hn e => h2 p v hn (h p v hn e)
theorem KeptBut.of {mb : Nat} {w w' : World} (h : Below w.heap.size w w') : KeptBut mb w w' := fun _ _ _ e => cell_below h e

set_option maxHeartbeats 2000000 in
theorem first_str (A : Nat → Addr) (w0 w : World) (rb bx mb : Nat) (a : List ByteArray) (s : ByteArray) (h : NamesIn A w0 w rb bx mb a) (hs : s.size ≤ 1000000) (hn : a.length ≤ 1000000) :
    Calls Tryz.prog 141 #[.string s, .slice (some ⟨rb, 0, none⟩) 2 2] w fun e w' => e = .returned (errV A (nameErr a s)) ∧ Below w0.heap.size w0 w' ∧ (nameErr a s = 0 → NamesIn A w0 w' rb bx mb (a ++ [s])) ∧ KeptBut mb w w' := by
  have eg1 := enters_of Tryz.func138 (by kernel_rfl) rfl
  have eg2 := enters_of Tryz.func140 (by kernel_rfl) rfl
  have HN : Hid (∀ W, Calls Tryz.prog 138 #[.string s] W fun e w' => e = .returned (.bool (!isName s)) ∧ Below W.heap.size W w') := fun W => names1_at s W hs
  have HM : Hid (∀ W, NamesIn A w0 W rb bx mb a → Calls Tryz.prog 140 #[.string s, .pointer (some ⟨bx, 0, none⟩)] W fun e w' => e = .returned (.bool (a.any (fun x => decide (x = s)))) ∧ NamesIn A w0 w' rb bx mb (a ++ [s]) ∧ ∀ (p : Addr) (v : Value), p.block ≠ mb → W.cell? p = some v → w'.cell? p = some v) := fun W hW => names2_at A w0 W rb bx mb a s hW hs hn
  go_enter Tryz.func141, Tryz.ntmps141
  go_wp2_with fail
  clear hs hn
  go_loopw [6, 9] (fun _ i wr => KeptBut mb w wr ∧ ((i = .int .i64 0 ∧ NamesIn A w0 wr rb bx mb a) ∨ (i = .int .i64 1 ∧ isName s = true ∧ NamesIn A w0 wr rb bx mb a) ∨ (i = .int .i64 2 ∧ nameErr a s = 0 ∧ NamesIn A w0 wr rb bx mb (a ++ [s])))) (fun _ i _ => 2 - (intOf i).toNat)
  case atStart => exact ⟨KeptBut.refl _ _, Or.inl ⟨rfl, h⟩⟩
  case round =>
    clear h
    obtain ⟨hkp, hrel⟩ := hrel
    have HKP : Hid (KeptBut mb w wr) := hkp
    clear hkp
    rcases hrel with ⟨rfl, h⟩ | ⟨rfl, hN, h⟩ | ⟨rfl, hE, h⟩
    · have r0 := h.r0
      have r1 := h.r1
      have H : Hid (NamesIn A w0 wr rb bx mb a) := h
      clear h
      cases hN : isName s with
      | true =>
        have HN2 := HN.out
        rw [hN] at HN2
        have HN3 : Hid _ := HN2
        clear HN2
        have HNN : Hid (isName s = true) := hN
        clear hN HM HN
        go_wp2_with fail
        refine (HN3.out _).mono ?_
        rintro e W' ⟨rfl, hb'⟩
        have H2 : Hid (NamesIn A w0 W' rb bx mb a) := (H.out.below (Below.one _ _)).below hb'
        have HK2 : Hid (KeptBut mb w W') := (HKP.out.trans (KeptBut.of (Below.one _ _))).trans (KeptBut.of hb')
        clear hb'
        go_wp2
        go_roundw
        case rel => exact ⟨HK2.out, Or.inr (Or.inl ⟨by go_num, by first | trivial | exact HNN.out, H2.out⟩)⟩
        case measure => simp [intOf]
      | false =>
        have HN2 := HN.out
        rw [hN] at HN2
        have HN3 : Hid _ := HN2
        clear HN2
        have HNN : Hid (nameErr a s = 4) := by show _ = _; simp [nameErr, hN]
        clear hN HM HN
        go_wp2_with fail
        refine (HN3.out _).mono ?_
        rintro e W' ⟨rfl, hb'⟩
        have d0 : W'.cell? ⟨wr.heap.size, 0, none⟩ = some (.iface 292 (.pointer (some (A 3)))) := cell_below hb' (by simp)
        have H2 : Hid (NamesIn A w0 W' rb bx mb a) := (H.out.below (Below.one _ _)).below hb'
        have HK2 : Hid (KeptBut mb w W') := (HKP.out.trans (KeptBut.of (Below.one _ _))).trans (KeptBut.of hb')
        clear hb'
        go_wp2
        go_ret
        exact ⟨by rw [HNN.out]; rfl, H2.out.bel, fun e => by (rw [HNN.out] at e; cases e), HK2.out⟩
    · have r2 := h.r2
      have r3 := h.r3
      have H : Hid (NamesIn A w0 wr rb bx mb a) := h
      clear h
      cases hA : a.any (fun x => decide (x = s)) with
      | false =>
        have HM2 := HM.out
        rw [hA] at HM2
        have HM3 : Hid _ := HM2
        have HNN : Hid (nameErr a s = 0) := by show _ = _; simp only [nameErr, hN, hA]; rfl
        clear hA hN HM HN HM2
        go_wp2_with fail
        refine (HM3.out _ (H.out.below (Below.one _ _))).mono ?_
        rintro e W' ⟨rfl, h', hk'⟩
        have H2 : Hid (NamesIn A w0 W' rb bx mb (a ++ [s])) := h'
        have HK2 : Hid (KeptBut mb w W') := (HKP.out.trans (KeptBut.of (Below.one _ _))).trans hk'
        clear h' hk'
        go_wp2
        go_roundw
        case rel => exact ⟨HK2.out, Or.inr (Or.inr ⟨by go_num, HNN.out, H2.out⟩)⟩
        case measure => simp [intOf]
      | true =>
        have HM2 := HM.out
        rw [hA] at HM2
        have HM3 : Hid _ := HM2
        have HNN : Hid (nameErr a s = 6) := by show _ = _; simp only [nameErr, hN, hA]; rfl
        clear hA hN HM HN HM2
        go_wp2_with fail
        refine (HM3.out _ (H.out.below (Below.one _ _))).mono ?_
        rintro e W' ⟨rfl, h', hk'⟩
        have H2 : Hid (NamesIn A w0 W' rb bx mb (a ++ [s])) := h'
        have HK2 : Hid (KeptBut mb w W') := (HKP.out.trans (KeptBut.of (Below.one _ _))).trans hk'
        have d0 : W'.cell? ⟨wr.heap.size, 0, none⟩ = some (.iface 292 (.pointer (some (A 5)))) := hk' ⟨wr.heap.size, 0, none⟩ _ (fun e => by have := H.out.own.lt; simp at e; omega) (by simp)
        clear h' hk'
        go_wp2
        go_ret
        exact ⟨by rw [HNN.out]; rfl, H2.out.bel, fun e => by (rw [HNN.out] at e; cases e), HK2.out⟩
    · have HNN : Hid (nameErr a s = 0) := hE
      have H2 : Hid (NamesIn A w0 wr rb bx mb (a ++ [s])) := h
      clear hE h HM HN
      go_wp2
      go_ret
      exact ⟨by rw [HNN.out]; rfl, H2.out.bel, fun _ => H2.out, HKP.out⟩
end Go.Proofs.YtkphpgdgbnmnjacGreatDoor

namespace Go.Proofs.YtkphpgdgbnmnjacGreatDoor
open Go.RowKit Go.Extern.Stop Go.Stop Go.Extern

/-- The place of the first one that is so; -1: none. -/
def idxP {α : Type} (p : α → Bool) : List α → Int
  | [] => -1
  | x :: t => if p x then 0 else if idxP p t < 0 then -1 else idxP p t + 1
theorem idxP_none {α : Type} (p : α → Bool) : ∀ (xs : List α), (∀ (i : Nat) (x : α), xs[i]? = some x → p x = false) → idxP p xs = -1
  | [], _ => rfl
  | x :: t, h => by
    have h0 := h 0 x rfl
    have := idxP_none p t (fun i y e => h (i + 1) y (by simpa using e))
    simp [idxP, h0, this]
theorem idxP_hit {α : Type} (p : α → Bool) : ∀ (xs : List α) (k : Nat) (x : α), (∀ (i : Nat) (y : α), i < k → xs[i]? = some y → p y = false) → xs[k]? = some x → p x = true → idxP p xs = (k : Int)
  | [], k, x, _, h, _ => by simp at h
  | y :: t, 0, x, _, h, hp => by simp at h; subst h; simp [idxP, hp]
  | y :: t, k + 1, x, h, h2, hp => by
    have h0 := h 0 y (by omega) rfl
    have := idxP_hit p t k x (fun i z hi e => h (i + 1) z (by omega) (by simpa using e)) (by simpa using h2) hp
    simp only [idxP, h0, this]
    rw [if_neg (by simp), if_neg (by omega)]
    omega
theorem idxP_any {α : Type} (p : α → Bool) : ∀ (xs : List α), decide (0 ≤ idxP p xs) = xs.any p
  | [] => rfl
  | x :: t => by
    have := idxP_any p t
    unfold idxP
    by_cases h : p x = true
    · simp [h]
    · simp only [Bool.not_eq_true] at h
      rw [List.any_cons, h, Bool.false_or, ← this]
      simp only [Bool.false_eq_true, if_false]
      by_cases h2 : idxP p t < 0
      · rw [if_pos h2]; exact decide_eq_decide.2 (by omega)
      · rw [if_neg h2]; exact decide_eq_decide.2 (by omega)

set_option maxHeartbeats 1000000 in
theorem idx_int (v : Value) (xs : List Int) (p : Int → Bool) (g : Nat) (lb : Array Value) (w : World) (hv : SlAt encI 1 w v xs) (hn : xs.length ≤ 1000000) (eg : ∀ args w, (callFunc g args).run Tryz.prog w = .ok (.enter g args) w)
    (hp : ∀ W, Below w.heap.size w W → ∀ x, x ∈ xs → Calls Tryz.prog g (#[.int .i64 x] ++ lb) W fun e W' => e = .returned (.bool (p x)) ∧ Below W.heap.size W W') :
    Calls Tryz.prog 227 #[v, .func (.func g) #[] lb] w fun e w' => e = .returned (.int .i64 (idxP p xs)) ∧ Below w.heap.size w w' := by
  obtain ⟨sa, cap, rfl, -, hcell⟩ := hv
  have HC : Hid (xs ≠ [] → ∃ b o, sa = some ⟨b, o, none⟩ ∧ ∀ (i : Nat) x, xs[i]? = some x → ∀ (j : Nat) u, (encI x)[j]? = some u → w.cell? ⟨b, o + i * 1 + j, none⟩ = some u) := hcell
  have HP : Hid (∀ W, Below w.heap.size w W → ∀ x, x ∈ xs → Calls Tryz.prog g (#[.int .i64 x] ++ lb) W fun e W' => e = .returned (.bool (p x)) ∧ Below W.heap.size W W') := hp
  have HL : Hid (xs.length ≤ 1000000) := hn
  clear hcell hp hn
  go_enter Tryz.func227, Tryz.ntmps227
  go_wp2_with fail
  go_loopw [5, 8] (fun _ i wr => ∃ k : Nat, k ≤ xs.length ∧ i = .int .i64 k ∧ Below w.heap.size w wr ∧ Hid (∀ (i : Nat) (y : Int), i < k → xs[i]? = some y → p y = false)) (fun _ i _ => xs.length - (intOf i).toNat)
  case atStart => exact ⟨0, Nat.zero_le _, rfl, Below.refl _ _, fun i b hi => absurd hi (Nat.not_lt_zero _)⟩
  case round =>
    obtain ⟨k, hk, rfl, hbw, hall⟩ := hrel
    by_cases hlt : k < xs.length
    · obtain ⟨x, hx⟩ : ∃ x, xs[k]? = some x := ⟨_, List.getElem?_eq_getElem hlt⟩
      obtain ⟨b, o, rfl, hc0⟩ := HC.out (fun e => by subst e; simp at hx)
      have hc : ∀ (i : Nat) x, xs[i]? = some x → ∀ (j : Nat) u, (encI x)[j]? = some u → wr.cell? ⟨b, o + i * 1 + j, none⟩ = some u := fun i x h j u hu => cell_below hbw (hc0 i x h j u hu)
      have c0 := hc k x hx 0 _ rfl
      simp only [Nat.mul_one, Nat.add_zero] at c0
      have HX : Hid (xs[k]? = some x) := hx
      have hm := HP.out _ hbw x (List.mem_of_getElem? hx)
      have k1 : (k : Int) < (xs.length : Int) := by omega
      have k0 : k < 1000000 := by have := HL.out; omega
      have HB : Hid (Below w.heap.size w wr) := hbw
      clear hx hc0 hc HC HP hbw
      cases hpx : p x with
      | true =>
        rw [hpx] at hm
        have HM : Hid _ := hm
        have HPX : Hid (p x = true) := hpx
        clear hm hpx
        go_wp2_with fail
        refine Calls.mono HM.out ?_
        rintro e W' ⟨rfl, hb'⟩
        go_wp2
        go_ret
        exact ⟨by rw [idxP_hit p xs k x hall.out HX.out HPX.out]; rfl, HB.out.trans (hb'.mono HB.out.size)⟩
      | false =>
        rw [hpx] at hm
        have HM : Hid _ := hm
        have HPX : Hid (p x = false) := hpx
        clear hm hpx
        go_wp2_with fail
        refine Calls.mono HM.out ?_
        rintro e W' ⟨rfl, hb'⟩
        have HW : Hid (Below w.heap.size w W') := HB.out.trans (hb'.mono HB.out.size)
        clear hb'
        go_wp2
        go_roundw
        case rel =>
          refine ⟨k + 1, by omega, by go_num, HW.out, fun i y hi e => ?_⟩
          by_cases hik : i = k
          · subst hik
            have h2 := HX.out
            rw [h2] at e
            cases e
            exact HPX.out
          · exact hall.out i y (by omega) e
        case measure => simp [intOf]; omega
    · have k1 : ¬ (k : Int) < (xs.length : Int) := by omega
      have HN : Hid (idxP p xs = -1) := idxP_none p xs (fun i x e => hall.out i x (by have := (List.getElem?_eq_some_iff.1 e).1; omega) e)
      clear HC HP
      go_wp2
      go_ret
      exact ⟨by rw [HN.out]; rfl, hbw⟩
theorem any_int (v : Value) (xs : List Int) (p : Int → Bool) (g : Nat) (lb : Array Value) (w : World) (hv : SlAt encI 1 w v xs) (hn : xs.length ≤ 1000000) (eg : ∀ args w, (callFunc g args).run Tryz.prog w = .ok (.enter g args) w)
    (hp : ∀ W, Below w.heap.size w W → ∀ x, x ∈ xs → Calls Tryz.prog g (#[.int .i64 x] ++ lb) W fun e W' => e = .returned (.bool (p x)) ∧ Below W.heap.size W W') :
    Calls Tryz.prog 214 #[v, .func (.func g) #[] lb] w fun e w' => e = .returned (.bool (xs.any p)) ∧ Below w.heap.size w w' := by
  have H := idx_int v xs p g lb w hv hn eg hp
  rw [← idxP_any]
  obtain ⟨sa, cap, rfl, -⟩ := hv
  clear hp hn
  go_enter Tryz.func214, Tryz.ntmps214
  go_wp2_with fail
  refine H.mono ?_
  rintro e w' ⟨rfl, hb⟩
  go_wp2
  go_ret
  exact ⟨rfl, hb⟩

set_option maxHeartbeats 1000000 in
theorem idx_pair (v : Value) (xs : List (Int × Int)) (p : (Int × Int) → Bool) (g : Nat) (lb : Array Value) (w : World) (hv : SlAt encP 2 w v xs) (hn : xs.length ≤ 1000000) (eg : ∀ args w, (callFunc g args).run Tryz.prog w = .ok (.enter g args) w)
    (hp : ∀ W, Below w.heap.size w W → ∀ x, x ∈ xs → Calls Tryz.prog g (#[.agg #[.int .i64 x.1, .int .i64 x.2]] ++ lb) W fun e W' => e = .returned (.bool (p x)) ∧ Below W.heap.size W W') :
    Calls Tryz.prog 217 #[v, .func (.func g) #[] lb] w fun e w' => e = .returned (.int .i64 (idxP p xs)) ∧ Below w.heap.size w w' := by
  obtain ⟨sa, cap, rfl, -, hcell⟩ := hv
  have HC : Hid (xs ≠ [] → ∃ b o, sa = some ⟨b, o, none⟩ ∧ ∀ (i : Nat) x, xs[i]? = some x → ∀ (j : Nat) u, (encP x)[j]? = some u → w.cell? ⟨b, o + i * 2 + j, none⟩ = some u) := hcell
  have HP : Hid (∀ W, Below w.heap.size w W → ∀ x, x ∈ xs → Calls Tryz.prog g (#[.agg #[.int .i64 x.1, .int .i64 x.2]] ++ lb) W fun e W' => e = .returned (.bool (p x)) ∧ Below W.heap.size W W') := hp
  have HL : Hid (xs.length ≤ 1000000) := hn
  clear hcell hp hn
  go_enter Tryz.func217, Tryz.ntmps217
  go_wp2_with fail
  go_loopw [5, 8] (fun _ i wr => ∃ k : Nat, k ≤ xs.length ∧ i = .int .i64 k ∧ Below w.heap.size w wr ∧ Hid (∀ (i : Nat) (y : (Int × Int)), i < k → xs[i]? = some y → p y = false)) (fun _ i _ => xs.length - (intOf i).toNat)
  case atStart => exact ⟨0, Nat.zero_le _, rfl, Below.refl _ _, fun i b hi => absurd hi (Nat.not_lt_zero _)⟩
  case round =>
    obtain ⟨k, hk, rfl, hbw, hall⟩ := hrel
    by_cases hlt : k < xs.length
    · obtain ⟨x, hx⟩ : ∃ x, xs[k]? = some x := ⟨_, List.getElem?_eq_getElem hlt⟩
      obtain ⟨b, o, rfl, hc0⟩ := HC.out (fun e => by subst e; simp at hx)
      have hc : ∀ (i : Nat) x, xs[i]? = some x → ∀ (j : Nat) u, (encP x)[j]? = some u → wr.cell? ⟨b, o + i * 2 + j, none⟩ = some u := fun i x h j u hu => cell_below hbw (hc0 i x h j u hu)
      have c0 := hc k x hx 0 _ rfl
      have c1 := hc k x hx 1 _ rfl
      simp only [Nat.add_zero] at c0
      have HX : Hid (xs[k]? = some x) := hx
      have hm := HP.out _ hbw x (List.mem_of_getElem? hx)
      have k1 : (k : Int) < (xs.length : Int) := by omega
      have k0 : k < 1000000 := by have := HL.out; omega
      have HB : Hid (Below w.heap.size w wr) := hbw
      clear hx hc0 hc HC HP hbw
      cases hpx : p x with
      | true =>
        rw [hpx] at hm
        have HM : Hid _ := hm
        have HPX : Hid (p x = true) := hpx
        clear hm hpx
        go_wp2_with fail
        refine Calls.mono HM.out ?_
        rintro e W' ⟨rfl, hb'⟩
        go_wp2
        go_ret
        exact ⟨by rw [idxP_hit p xs k x hall.out HX.out HPX.out]; rfl, HB.out.trans (hb'.mono HB.out.size)⟩
      | false =>
        rw [hpx] at hm
        have HM : Hid _ := hm
        have HPX : Hid (p x = false) := hpx
        clear hm hpx
        go_wp2_with fail
        refine Calls.mono HM.out ?_
        rintro e W' ⟨rfl, hb'⟩
        have HW : Hid (Below w.heap.size w W') := HB.out.trans (hb'.mono HB.out.size)
        clear hb'
        go_wp2
        go_roundw
        case rel =>
          refine ⟨k + 1, by omega, by go_num, HW.out, fun i y hi e => ?_⟩
          by_cases hik : i = k
          · subst hik
            have h2 := HX.out
            rw [h2] at e
            cases e
            exact HPX.out
          · exact hall.out i y (by omega) e
        case measure => simp [intOf]; omega
    · have k1 : ¬ (k : Int) < (xs.length : Int) := by omega
      have HN : Hid (idxP p xs = -1) := idxP_none p xs (fun i x e => hall.out i x (by have := (List.getElem?_eq_some_iff.1 e).1; omega) e)
      clear HC HP
      go_wp2
      go_ret
      exact ⟨by rw [HN.out]; rfl, hbw⟩
theorem any_pair (v : Value) (xs : List (Int × Int)) (p : (Int × Int) → Bool) (g : Nat) (lb : Array Value) (w : World) (hv : SlAt encP 2 w v xs) (hn : xs.length ≤ 1000000) (eg : ∀ args w, (callFunc g args).run Tryz.prog w = .ok (.enter g args) w)
    (hp : ∀ W, Below w.heap.size w W → ∀ x, x ∈ xs → Calls Tryz.prog g (#[.agg #[.int .i64 x.1, .int .i64 x.2]] ++ lb) W fun e W' => e = .returned (.bool (p x)) ∧ Below W.heap.size W W') :
    Calls Tryz.prog 183 #[v, .func (.func g) #[] lb] w fun e w' => e = .returned (.bool (xs.any p)) ∧ Below w.heap.size w w' := by
  have H := idx_pair v xs p g lb w hv hn eg hp
  rw [← idxP_any]
  obtain ⟨sa, cap, rfl, -⟩ := hv
  clear hp hn
  go_enter Tryz.func183, Tryz.ntmps183
  go_wp2_with fail
  refine H.mono ?_
  rintro e w' ⟨rfl, hb⟩
  go_wp2
  go_ret
  exact ⟨rfl, hb⟩

set_option maxHeartbeats 1000000 in
theorem idx_gap (v : Value) (xs : List GapD) (p : GapD → Bool) (g : Nat) (lb : Array Value) (w : World) (hv : SlAt encG 4 w v xs) (hn : xs.length ≤ 1000000) (eg : ∀ args w, (callFunc g args).run Tryz.prog w = .ok (.enter g args) w)
    (hp : ∀ W, Below w.heap.size w W → ∀ x, x ∈ xs → Calls Tryz.prog g (#[.agg #[.int .i64 x.fr, .int .i64 x.to, .int .i64 x.mn, .int .i64 x.mx]] ++ lb) W fun e W' => e = .returned (.bool (p x)) ∧ Below W.heap.size W W') :
    Calls Tryz.prog 216 #[v, .func (.func g) #[] lb] w fun e w' => e = .returned (.int .i64 (idxP p xs)) ∧ Below w.heap.size w w' := by
  obtain ⟨sa, cap, rfl, -, hcell⟩ := hv
  have HC : Hid (xs ≠ [] → ∃ b o, sa = some ⟨b, o, none⟩ ∧ ∀ (i : Nat) x, xs[i]? = some x → ∀ (j : Nat) u, (encG x)[j]? = some u → w.cell? ⟨b, o + i * 4 + j, none⟩ = some u) := hcell
  have HP : Hid (∀ W, Below w.heap.size w W → ∀ x, x ∈ xs → Calls Tryz.prog g (#[.agg #[.int .i64 x.fr, .int .i64 x.to, .int .i64 x.mn, .int .i64 x.mx]] ++ lb) W fun e W' => e = .returned (.bool (p x)) ∧ Below W.heap.size W W') := hp
  have HL : Hid (xs.length ≤ 1000000) := hn
  clear hcell hp hn
  go_enter Tryz.func216, Tryz.ntmps216
  go_wp2_with fail
  go_loopw [5, 8] (fun _ i wr => ∃ k : Nat, k ≤ xs.length ∧ i = .int .i64 k ∧ Below w.heap.size w wr ∧ Hid (∀ (i : Nat) (y : GapD), i < k → xs[i]? = some y → p y = false)) (fun _ i _ => xs.length - (intOf i).toNat)
  case atStart => exact ⟨0, Nat.zero_le _, rfl, Below.refl _ _, fun i b hi => absurd hi (Nat.not_lt_zero _)⟩
  case round =>
    obtain ⟨k, hk, rfl, hbw, hall⟩ := hrel
    by_cases hlt : k < xs.length
    · obtain ⟨x, hx⟩ : ∃ x, xs[k]? = some x := ⟨_, List.getElem?_eq_getElem hlt⟩
      obtain ⟨b, o, rfl, hc0⟩ := HC.out (fun e => by subst e; simp at hx)
      have hc : ∀ (i : Nat) x, xs[i]? = some x → ∀ (j : Nat) u, (encG x)[j]? = some u → wr.cell? ⟨b, o + i * 4 + j, none⟩ = some u := fun i x h j u hu => cell_below hbw (hc0 i x h j u hu)
      have c0 := hc k x hx 0 _ rfl
      have c1 := hc k x hx 1 _ rfl
      have c2 := hc k x hx 2 _ rfl
      have c3 := hc k x hx 3 _ rfl
      simp only [Nat.add_zero] at c0
      have HX : Hid (xs[k]? = some x) := hx
      have hm := HP.out _ hbw x (List.mem_of_getElem? hx)
      have k1 : (k : Int) < (xs.length : Int) := by omega
      have k0 : k < 1000000 := by have := HL.out; omega
      have HB : Hid (Below w.heap.size w wr) := hbw
      clear hx hc0 hc HC HP hbw
      cases hpx : p x with
      | true =>
        rw [hpx] at hm
        have HM : Hid _ := hm
        have HPX : Hid (p x = true) := hpx
        clear hm hpx
        go_wp2_with fail
        refine Calls.mono HM.out ?_
        rintro e W' ⟨rfl, hb'⟩
        go_wp2
        go_ret
        exact ⟨by rw [idxP_hit p xs k x hall.out HX.out HPX.out]; rfl, HB.out.trans (hb'.mono HB.out.size)⟩
      | false =>
        rw [hpx] at hm
        have HM : Hid _ := hm
        have HPX : Hid (p x = false) := hpx
        clear hm hpx
        go_wp2_with fail
        refine Calls.mono HM.out ?_
        rintro e W' ⟨rfl, hb'⟩
        have HW : Hid (Below w.heap.size w W') := HB.out.trans (hb'.mono HB.out.size)
        clear hb'
        go_wp2
        go_roundw
        case rel =>
          refine ⟨k + 1, by omega, by go_num, HW.out, fun i y hi e => ?_⟩
          by_cases hik : i = k
          · subst hik
            have h2 := HX.out
            rw [h2] at e
            cases e
            exact HPX.out
          · exact hall.out i y (by omega) e
        case measure => simp [intOf]; omega
    · have k1 : ¬ (k : Int) < (xs.length : Int) := by omega
      have HN : Hid (idxP p xs = -1) := idxP_none p xs (fun i x e => hall.out i x (by have := (List.getElem?_eq_some_iff.1 e).1; omega) e)
      clear HC HP
      go_wp2
      go_ret
      exact ⟨by rw [HN.out]; rfl, hbw⟩
theorem any_gap (v : Value) (xs : List GapD) (p : GapD → Bool) (g : Nat) (lb : Array Value) (w : World) (hv : SlAt encG 4 w v xs) (hn : xs.length ≤ 1000000) (eg : ∀ args w, (callFunc g args).run Tryz.prog w = .ok (.enter g args) w)
    (hp : ∀ W, Below w.heap.size w W → ∀ x, x ∈ xs → Calls Tryz.prog g (#[.agg #[.int .i64 x.fr, .int .i64 x.to, .int .i64 x.mn, .int .i64 x.mx]] ++ lb) W fun e W' => e = .returned (.bool (p x)) ∧ Below W.heap.size W W') :
    Calls Tryz.prog 180 #[v, .func (.func g) #[] lb] w fun e w' => e = .returned (.bool (xs.any p)) ∧ Below w.heap.size w w' := by
  have H := idx_gap v xs p g lb w hv hn eg hp
  rw [← idxP_any]
  obtain ⟨sa, cap, rfl, -⟩ := hv
  clear hp hn
  go_enter Tryz.func180, Tryz.ntmps180
  go_wp2_with fail
  refine H.mono ?_
  rintro e w' ⟨rfl, hb⟩
  go_wp2
  go_ret
  exact ⟨rfl, hb⟩
end Go.Proofs.YtkphpgdgbnmnjacGreatDoor

namespace Go.Proofs.YtkphpgdgbnmnjacGreatDoor
open Go.RowKit Go.Extern.Stop Go.Stop Go.Extern

theorem lacks1_at (x : Int) (B : Nat) (pa : Option Addr) (pn pc : Nat) (w : World) (hc : w.cell? ⟨B, 2, none⟩ = some (.slice pa pn pc)) :
    Calls Tryz.prog 215 #[.int .i64 x, .pointer (some ⟨B, 0, none⟩)] w fun e w' => e = .returned (.bool (lacks pn x)) ∧ Below w.heap.size w w' := by
  by_cases h1 : x < 0
  · go_enter Tryz.func215, Tryz.ntmps215
    go_wp2
    go_ret
    exact ⟨by simp [lacks, h1], Below.refl _ _⟩
  · go_enter Tryz.func215, Tryz.ntmps215
    go_wp2
    go_ret
    exact ⟨by simp [lacks]; omega, Below.refl _ _⟩
set_option maxHeartbeats 400000 in
theorem lacks_at (nm : ByteArray) (tol cnt mn mx : Int) (pa ga ea fa la : Option Addr) (pn pc gn gc en ec fn fc ln lc : Nat) (v : Value) (xs : List Int) (w : World) (hv : SlAt encI 1 w v xs) (hn : xs.length ≤ 1000000) :
    Calls Tryz.prog 178 #[.agg #[.string nm, .int .i64 tol, .slice pa pn pc, .int .i64 cnt, .int .i64 mn, .int .i64 mx, .slice ga gn gc, .slice ea en ec, .slice fa fn fc, .slice la ln lc], v] w fun e w' => e = .returned (.bool (xs.any (lacks pn))) ∧ Below w.heap.size w w' := by
  have H := any_int v xs (lacks pn) 215 #[.pointer (some ⟨w.heap.size, 0, none⟩)] _ (hv.below (Below.one w (.cells #[.string nm, .int .i64 tol, .slice pa pn pc, .int .i64 cnt, .int .i64 mn, .int .i64 mx, .slice ga gn gc, .slice ea en ec, .slice fa fn fc, .slice la ln lc] 38))) hn
    (enters_of Tryz.func215 (by kernel_rfl) rfl) (fun W hb x _ => lacks1_at x w.heap.size pa pn pc W (cell_below hb (by simp)))
  have HH : Hid _ := H
  obtain ⟨sa, cap, rfl, -⟩ := hv
  clear H hn
  go_enter Tryz.func178, Tryz.ntmps178
  go_wp2_with fail
  refine Calls.mono HH.out ?_
  rintro e w' ⟨rfl, hb⟩
  go_wp2
  go_ret
  exact ⟨rfl, (Below.one _ _).trans (hb.mono (by simp))⟩
theorem nan_at (x : Int) (w : World) : Calls Tryz.prog 232 #[.int .i64 x] w fun e w' => e = .returned (.bool false) ∧ w' = w := by
  go_enter Tryz.func232, Tryz.ntmps232
  go_wp2
  go_ret
  exact ⟨rfl, rfl⟩
theorem less_at (x y : Int) (w : World) : Calls Tryz.prog 228 #[.int .i64 x, .int .i64 y] w fun e w' => e = .returned (.bool (decide (x < y))) ∧ w' = w := by
  go_enter Tryz.func228, Tryz.ntmps228
  go_wp2_with fail
  refine (nan_at x _).mono ?_
  rintro e w' ⟨rfl, rfl⟩
  go_wp2
  go_ret
  exact ⟨rfl, rfl⟩
set_option maxHeartbeats 1000000 in
theorem sorted4_at (a b c d : Int) (B cap : Nat) (w : World) (c0 : w.cell? ⟨B, 0, none⟩ = some (.int .i64 a)) (c1 : w.cell? ⟨B, 1, none⟩ = some (.int .i64 b)) (c2 : w.cell? ⟨B, 2, none⟩ = some (.int .i64 c)) (c3 : w.cell? ⟨B, 3, none⟩ = some (.int .i64 d)) :
    Calls Tryz.prog 218 #[.slice (some ⟨B, 0, none⟩) 4 cap] w fun e w' => e = .returned (.bool (rise a b c d)) ∧ Below w.heap.size w w' := by
  go_enter Tryz.func218, Tryz.ntmps218
  go_wp2_with fail
  go_loopw [2, 3] (fun r i wr => r = .bool false ∧ Below w.heap.size w wr ∧ (i = .int .i64 3 ∨ (i = .int .i64 2 ∧ c ≤ d) ∨ (i = .int .i64 1 ∧ b ≤ c ∧ c ≤ d) ∨ (i = .int .i64 0 ∧ a ≤ b ∧ b ≤ c ∧ c ≤ d))) (fun _ i _ => (intOf i).toNat)
  case atStart => exact ⟨rfl, Below.refl _ _, Or.inl rfl⟩
  case round =>
    obtain ⟨rfl, hb, hrel⟩ := hrel
    have c0 := cell_below hb c0
    have c1 := cell_below hb c1
    have c2 := cell_below hb c2
    have c3 := cell_below hb c3
    have HB : Hid (Below w.heap.size w wr) := hb
    clear hb
    rcases hrel with rfl | ⟨rfl, h1⟩ | ⟨rfl, h1⟩ | ⟨rfl, h1⟩
    · have k0 : IntKind.i64.wrap 2 = 2 := by decide
      by_cases hx : d < c
      · have hd : decide (d < c) = true := decide_eq_true hx
        go_wp2_with fail
        go_quiet (first | (go_at_call 228; exact Calls.quiet_of_same (less_at _ _ _)))
        go_wp2
        go_ret
        exact ⟨by simp [rise]; omega, below_drewN HB.out _⟩
      · have hd : decide (d < c) = false := decide_eq_false hx
        go_wp2_with fail
        go_quiet (first | (go_at_call 228; exact Calls.quiet_of_same (less_at _ _ _)))
        go_wp2
        go_roundw
        case rel => exact ⟨rfl, below_drewN HB.out _, Or.inr (Or.inl ⟨by go_num, by omega⟩)⟩
        case measure => simp [intOf]
    · have k0 : IntKind.i64.wrap 1 = 1 := by decide
      by_cases hx : c < b
      · have hd : decide (c < b) = true := decide_eq_true hx
        go_wp2_with fail
        go_quiet (first | (go_at_call 228; exact Calls.quiet_of_same (less_at _ _ _)))
        go_wp2
        go_ret
        exact ⟨by simp [rise]; omega, below_drewN HB.out _⟩
      · have hd : decide (c < b) = false := decide_eq_false hx
        go_wp2_with fail
        go_quiet (first | (go_at_call 228; exact Calls.quiet_of_same (less_at _ _ _)))
        go_wp2
        go_roundw
        case rel => exact ⟨rfl, below_drewN HB.out _, Or.inr (Or.inr (Or.inl ⟨by go_num, by omega, by omega⟩))⟩
        case measure => simp [intOf]
    · have k0 : IntKind.i64.wrap 0 = 0 := by decide
      by_cases hx : b < a
      · have hd : decide (b < a) = true := decide_eq_true hx
        go_wp2_with fail
        go_quiet (first | (go_at_call 228; exact Calls.quiet_of_same (less_at _ _ _)))
        go_wp2
        go_ret
        exact ⟨by simp [rise]; omega, below_drewN HB.out _⟩
      · have hd : decide (b < a) = false := decide_eq_false hx
        go_wp2_with fail
        go_quiet (first | (go_at_call 228; exact Calls.quiet_of_same (less_at _ _ _)))
        go_wp2
        go_roundw
        case rel => exact ⟨rfl, below_drewN HB.out _, Or.inr (Or.inr (Or.inr ⟨by go_num, by omega, by omega, by omega⟩))⟩
        case measure => simp [intOf]
    · go_wp2
      go_ret
      exact ⟨by simp [rise]; omega, HB.out⟩
theorem rise_at (a b c d : Int) (B cap : Nat) (w : World) (c0 : w.cell? ⟨B, 0, none⟩ = some (.int .i64 a)) (c1 : w.cell? ⟨B, 1, none⟩ = some (.int .i64 b)) (c2 : w.cell? ⟨B, 2, none⟩ = some (.int .i64 c)) (c3 : w.cell? ⟨B, 3, none⟩ = some (.int .i64 d)) :
    Calls Tryz.prog 189 #[.slice (some ⟨B, 0, none⟩) 4 cap] w fun e w' => e = .returned (.bool (rise a b c d)) ∧ Below w.heap.size w w' := by
  have H := sorted4_at a b c d B cap w c0 c1 c2 c3
  clear c0 c1 c2 c3
  go_enter Tryz.func189, Tryz.ntmps189
  go_wp2_with fail
  refine H.mono ?_
  rintro e w' ⟨rfl, hb⟩
  go_wp2
  go_ret
  exact ⟨rfl, hb⟩
end Go.Proofs.YtkphpgdgbnmnjacGreatDoor

namespace Go.Proofs.YtkphpgdgbnmnjacGreatDoor
open Go.RowKit Go.Extern.Stop Go.Stop Go.Extern

theorem SlAt.take {α : Type} {enc : α → List Value} {k : Nat} {w : World} {sa : Option Addr} {n cap : Nat} {xs : List α} (h : SlAt enc k w (.slice sa n cap) xs) (i : Nat) (hi : i ≤ xs.length) (cap' : Nat) (hc : i ≤ cap') : SlAt enc k w (.slice sa i cap') (xs.take i) := by
  obtain ⟨sa', c', e, -, h2⟩ := h
  cases e
  have hl : (xs.take i).length = i := by simp; omega
  refine ⟨sa, cap', by rw [hl], by omega, fun hne => ?_⟩
  obtain ⟨b, o, h3, h4⟩ := h2 (fun e => hne (by simp [e]))
  refine ⟨b, o, h3, fun j x hx => h4 j x ?_⟩
  rw [List.getElem?_take] at hx
  split at hx
  · exact hx
  · cases hx
theorem twice_hit {α : Type} [DecidableEq α] (xs : List α) (k : Nat) (x : α) (hx : xs[k]? = some x) (h : (xs.take k).any (fun y => decide (x = y)) = true) : twice xs = true := by
  unfold twice
  rw [List.any_eq_true]
  exact ⟨k, by simp; exact (List.getElem?_eq_some_iff.1 hx).1, by rw [hx]; exact h⟩
theorem twice_none {α : Type} [DecidableEq α] (xs : List α) (h : ∀ (k : Nat) (x : α), xs[k]? = some x → (xs.take k).any (fun y => decide (x = y)) = false) : twice xs = false := by
  unfold twice
  rw [List.any_eq_false]
  intro k hk
  simp only [List.mem_range] at hk
  have := h k _ (List.getElem?_eq_getElem hk)
  rw [List.getElem?_eq_getElem hk]
  simp only [this]
  simp

set_option maxHeartbeats 1000000 in
theorem index_int (v : Value) (xs : List Int) (z : Int) (w : World) (hv : SlAt encI 1 w v xs) (hn : xs.length ≤ 1000000) :
    Calls Tryz.prog 225 #[v, .int .i64 z] w fun e w' => e = .returned (.int .i64 (idxP (fun y => decide (z = y)) xs)) ∧ Below w.heap.size w w' := by
  obtain ⟨sa, cap, rfl, -, hcell⟩ := hv
  have HC : Hid (xs ≠ [] → ∃ b o, sa = some ⟨b, o, none⟩ ∧ ∀ (i : Nat) x, xs[i]? = some x → ∀ (j : Nat) u, (encI x)[j]? = some u → w.cell? ⟨b, o + i * 1 + j, none⟩ = some u) := hcell
  have HL : Hid (xs.length ≤ 1000000) := hn
  clear hcell hn
  go_enter Tryz.func225, Tryz.ntmps225
  go_wp2_with fail
  go_loopw [5, 8] (fun _ i wr => ∃ k : Nat, k ≤ xs.length ∧ i = .int .i64 k ∧ Below w.heap.size w wr ∧ Hid (∀ (i : Nat) (y : Int), i < k → xs[i]? = some y → (fun y => decide (z = y)) y = false)) (fun _ i _ => xs.length - (intOf i).toNat)
  case atStart => exact ⟨0, Nat.zero_le _, rfl, Below.refl _ _, fun i b hi => absurd hi (Nat.not_lt_zero _)⟩
  case round =>
    obtain ⟨k, hk, rfl, hbw, hall⟩ := hrel
    by_cases hlt : k < xs.length
    · obtain ⟨x, hx⟩ : ∃ x, xs[k]? = some x := ⟨_, List.getElem?_eq_getElem hlt⟩
      obtain ⟨b, o, rfl, hc0⟩ := HC.out (fun e => by subst e; simp at hx)
      have hc : ∀ (i : Nat) x, xs[i]? = some x → ∀ (j : Nat) u, (encI x)[j]? = some u → wr.cell? ⟨b, o + i * 1 + j, none⟩ = some u := fun i x h j u hu => cell_below hbw (hc0 i x h j u hu)
      have c0 := hc k x hx 0 _ rfl
      simp only [Nat.mul_one, Nat.add_zero] at c0
      have HX : Hid (xs[k]? = some x) := hx
      have k1 : (k : Int) < (xs.length : Int) := by omega
      have k0 : k < 1000000 := by have := HL.out; omega
      have HB : Hid (Below w.heap.size w wr) := hbw
      clear hx hc0 hc HC hbw
      by_cases hpx : z = x
      · have HPX : Hid ((fun y => decide (z = y)) x = true) := decide_eq_true hpx
        have e1 : (z == x) = true := by simp [hpx]
        clear hpx
        go_wp2_with fail
        go_ret
        exact ⟨by rw [idxP_hit _ xs k x hall.out HX.out HPX.out]; rfl, HB.out⟩
      · have HPX : Hid ((fun y => decide (z = y)) x = false) := decide_eq_false hpx
        have e1 : (z == x) = false := by simpa using hpx
        clear hpx
        go_wp2_with fail
        go_roundw
        case rel =>
          refine ⟨k + 1, by omega, by go_num, HB.out, fun i y hi e => ?_⟩
          by_cases hik : i = k
          · subst hik
            have h2 := HX.out
            rw [h2] at e
            cases e
            exact HPX.out
          · exact hall.out i y (by omega) e
        case measure => simp [intOf]; omega
    · have k1 : ¬ (k : Int) < (xs.length : Int) := by omega
      have HN : Hid (idxP (fun y => decide (z = y)) xs = -1) := idxP_none _ xs (fun i x e => hall.out i x (by have := (List.getElem?_eq_some_iff.1 e).1; omega) e)
      clear HC
      go_wp2
      go_ret
      exact ⟨by rw [HN.out]; rfl, hbw⟩
theorem contains_int (v : Value) (xs : List Int) (z : Int) (w : World) (hv : SlAt encI 1 w v xs) (hn : xs.length ≤ 1000000) :
    Calls Tryz.prog 206 #[v, .int .i64 z] w fun e w' => e = .returned (.bool (xs.any (fun y => decide (z = y)))) ∧ Below w.heap.size w w' := by
  have H := index_int v xs z w hv hn
  rw [← idxP_any]
  obtain ⟨sa, cap, rfl, -⟩ := hv
  clear hn
  go_enter Tryz.func206, Tryz.ntmps206
  go_wp2_with fail
  refine H.mono ?_
  rintro e w' ⟨rfl, hb⟩
  go_wp2
  go_ret
  exact ⟨rfl, hb⟩

set_option maxHeartbeats 1000000 in
theorem index_pair (v : Value) (xs : List (Int × Int)) (z : (Int × Int)) (w : World) (hv : SlAt encP 2 w v xs) (hn : xs.length ≤ 1000000) :
    Calls Tryz.prog 229 #[v, .agg #[.int .i64 z.1, .int .i64 z.2]] w fun e w' => e = .returned (.int .i64 (idxP (fun y => decide (z = y)) xs)) ∧ Below w.heap.size w w' := by
  obtain ⟨sa, cap, rfl, -, hcell⟩ := hv
  have HC : Hid (xs ≠ [] → ∃ b o, sa = some ⟨b, o, none⟩ ∧ ∀ (i : Nat) x, xs[i]? = some x → ∀ (j : Nat) u, (encP x)[j]? = some u → w.cell? ⟨b, o + i * 2 + j, none⟩ = some u) := hcell
  have HL : Hid (xs.length ≤ 1000000) := hn
  clear hcell hn
  have hg := Tryz.guardPair
  have heq := eql_pair
  go_enter Tryz.func229, Tryz.ntmps229
  go_wp2_with fail
  have HS : Hid (∀ W, Below (w.heap.size + 1) (w.alloc (.cells #[.int .i64 z.1, .int .i64 z.2] 139)) W → Below w.heap.size w W ∧ w.heap.size + 1 ≤ W.heap.size ∧ W.cell? ⟨w.heap.size, 0, none⟩ = some (.int .i64 z.1) ∧ W.cell? ⟨w.heap.size, 1, none⟩ = some (.int .i64 z.2)) := fun W hb => by
    have hc : ∀ j v, (w.alloc (.cells #[.int .i64 z.1, .int .i64 z.2] 139)).cell? ⟨w.heap.size, j, none⟩ = some v → W.cell? ⟨w.heap.size, j, none⟩ = some v := fun j v e => (hb.cell (p := ⟨w.heap.size, j, none⟩) (Nat.lt_succ_self _)).trans e
    exact ⟨((Below.refl _ _).alloc (Nat.le_refl _) _).trans (hb.mono (Nat.le_succ _)), by simpa using hb.size, hc 0 _ (by simp), hc 1 _ (by simp)⟩
  go_loopw [5, 8] (fun _ i wr => ∃ k : Nat, k ≤ xs.length ∧ i = .int .i64 k ∧ Below (w.heap.size + 1) (w.alloc (.cells #[.int .i64 z.1, .int .i64 z.2] 139)) wr ∧ Hid (∀ (i : Nat) (y : (Int × Int)), i < k → xs[i]? = some y → (fun y => decide (z = y)) y = false)) (fun _ i _ => xs.length - (intOf i).toNat)
  case atStart => exact ⟨0, Nat.zero_le _, rfl, Below.refl _ _, fun i b hi => absurd hi (Nat.not_lt_zero _)⟩
  case round =>
    obtain ⟨k, hk, rfl, hbw, hall⟩ := hrel
    have hbw' := hbw
    obtain ⟨hbw, hsz, p0, p1⟩ := HS.out _ hbw'
    clear hsz HS
    have HB' : Hid (Below (w.heap.size + 1) (w.alloc (.cells #[.int .i64 z.1, .int .i64 z.2] 139)) wr) := hbw'
    clear hbw'
    by_cases hlt : k < xs.length
    · obtain ⟨x, hx⟩ : ∃ x, xs[k]? = some x := ⟨_, List.getElem?_eq_getElem hlt⟩
      obtain ⟨b, o, rfl, hc0⟩ := HC.out (fun e => by subst e; simp at hx)
      have hc : ∀ (i : Nat) x, xs[i]? = some x → ∀ (j : Nat) u, (encP x)[j]? = some u → wr.cell? ⟨b, o + i * 2 + j, none⟩ = some u := fun i x h j u hu => cell_below hbw (hc0 i x h j u hu)
      have c0 := hc k x hx 0 _ rfl
      have c1 := hc k x hx 1 _ rfl
      simp only [Nat.add_zero] at c0
      have HX : Hid (xs[k]? = some x) := hx
      have k1 : (k : Int) < (xs.length : Int) := by omega
      have k0 : k < 1000000 := by have := HL.out; omega
      have HB : Hid (Below w.heap.size w wr) := hbw
      clear hx hc0 hc HC hbw
      by_cases hpx : z = x
      · have HPX : Hid ((fun y => decide (z = y)) x = true) := decide_eq_true hpx
        have e1 : (z.1 == x.1) = true := by simp [hpx]
        have e2 : (z.2 == x.2) = true := by simp [hpx]
        clear hpx
        go_wp2_with fail
        go_quiet (fail)
        go_wp2
        go_ret
        exact ⟨by rw [idxP_hit _ xs k x hall.out HX.out HPX.out]; rfl, below_drewN HB.out _⟩
      · have HPX : Hid ((fun y => decide (z = y)) x = false) := decide_eq_false hpx
        have e12 : (z.1 == x.1) = false ∨ (z.1 == x.1) = true ∧ (z.2 == x.2) = false := by
          by_cases h1 : z.1 = x.1
          · right
            refine ⟨by simpa using h1, ?_⟩
            simp only [beq_eq_false_iff_ne]
            exact fun h2 => hpx (Prod.ext h1 h2)
          · left; simpa using h1
        clear hpx
        rcases e12 with e1 | ⟨e1, e2⟩
        all_goals
          go_wp2_with fail
          go_quiet (fail)
          go_wp2
          go_roundw
          case rel =>
            refine ⟨k + 1, by omega, by go_num, below_drewN HB'.out _, fun i y hi e => ?_⟩
            by_cases hik : i = k
            · subst hik
              have h2 := HX.out
              rw [h2] at e
              cases e
              exact HPX.out
            · exact hall.out i y (by omega) e
          case measure => simp [intOf]; omega
    · have k1 : ¬ (k : Int) < (xs.length : Int) := by omega
      have HN : Hid (idxP (fun y => decide (z = y)) xs = -1) := idxP_none _ xs (fun i x e => hall.out i x (by have := (List.getElem?_eq_some_iff.1 e).1; omega) e)
      clear HC
      go_wp2
      go_ret
      exact ⟨by rw [HN.out]; rfl, hbw⟩
theorem contains_pair (v : Value) (xs : List (Int × Int)) (z : (Int × Int)) (w : World) (hv : SlAt encP 2 w v xs) (hn : xs.length ≤ 1000000) :
    Calls Tryz.prog 219 #[v, .agg #[.int .i64 z.1, .int .i64 z.2]] w fun e w' => e = .returned (.bool (xs.any (fun y => decide (z = y)))) ∧ Below w.heap.size w w' := by
  have H := index_pair v xs z _ (hv.below (Below.one w (.cells #[.int .i64 z.1, .int .i64 z.2] 139))) hn
  rw [← idxP_any]
  obtain ⟨sa, cap, rfl, -⟩ := hv
  clear hn
  go_enter Tryz.func219, Tryz.ntmps219
  go_wp2_with fail
  refine H.mono ?_
  rintro e w' ⟨rfl, hb⟩
  go_wp2
  go_ret
  exact ⟨rfl, (Below.one _ _).trans (hb.mono (by simp))⟩
end Go.Proofs.YtkphpgdgbnmnjacGreatDoor
