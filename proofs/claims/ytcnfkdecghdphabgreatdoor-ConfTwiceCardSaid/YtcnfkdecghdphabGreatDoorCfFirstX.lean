/-
  conf.firstBroken at a config and at an entity, by contracts: the first rule that is broken tells its error. Conditions: the rules lie in memory; what each rule's function answers.
-/
import Derived.Test.YtcnfkdecghdphabGreatDoorCfNameX
import Derived.Laws.EntriesVeiled
namespace Go.Proofs.YtcnfkdecghdphabGreatDoor
open Go.RowKit Go.Extern.Stop Go.Stop Go.Extern

/-- Rules in memory: their errors, and their functions, which answer so of the value v. -/
structure RulesAt (A : Nat → Addr) (w : World) (rb : Nat) (v : Value) (l : List (Bool × Nat)) (g : Nat → Nat) : Prop where
  cell : ∀ i b c, l[i]? = some (b, c) → w.cell? ⟨rb, i * 2, none⟩ = some (errV A c) ∧ w.cell? ⟨rb, i * 2 + 1, none⟩ = some (.func (.func (g i)) #[] #[])
  eg : ∀ i b c, l[i]? = some (b, c) → ∀ args w, (callFunc (g i) args).run Tryz.prog w = .ok (.enter (g i) args) w
  call : ∀ i b c, l[i]? = some (b, c) → ∀ W, Below w.heap.size w W → Calls Tryz.prog (g i) #[v] W fun e W' => e = .returned (.bool b) ∧ Below W.heap.size W W'
  few : l.length ≤ 100
  pos : ∀ (i : Nat) (b : Bool) (c : Nat), l[i]? = some (b, c) → 0 < c
theorem firstOf_at : ∀ (l : List (Bool × Nat)) (k : Nat) (c : Nat), (∀ (i : Nat) (b : Bool) (d : Nat), i < k → l[i]? = some (b, d) → b = false) → l[k]? = some (true, c) → firstOf l = c
  | [], k, c, _, h => by simp at h
  | (b, d) :: t, 0, c, _, h => by simp at h; obtain ⟨rfl, rfl⟩ := h; simp [firstOf]
  | (b, d) :: t, k + 1, c, h, h2 => by
    have := h 0 b d (by omega) rfl
    subst this
    simp [firstOf]
    exact firstOf_at t k c (fun i b d hi e => h (i + 1) b d (by omega) (by simpa using e)) (by simpa using h2)
theorem firstOf_none : ∀ (l : List (Bool × Nat)), (∀ (i : Nat) (b : Bool) (d : Nat), l[i]? = some (b, d) → b = false) → firstOf l = 0
  | [], _ => rfl
  | (b, d) :: t, h => by
    have := h 0 b d rfl
    subst this
    simp [firstOf]
    exact firstOf_none t (fun i b d e => h (i + 1) b d (by simpa using e))

set_option maxHeartbeats 1000000 in
theorem first_cfg (A : Nat → Addr) (x0 x1 x2 x3 : Int) (sa : Option Addr) (sn sc : Nat) (rb : Nat) (l : List (Bool × Nat)) (g : Nat → Nat) (w : World) (h : RulesAt A w rb (.agg #[.int .i64 x0, .int .i64 x1, .int .i64 x2, .int .i64 x3, .slice sa sn sc]) l g) :
    Calls Tryz.prog 20 #[.agg #[.int .i64 x0, .int .i64 x1, .int .i64 x2, .int .i64 x3, .slice sa sn sc], .slice (some ⟨rb, 0, none⟩) l.length l.length] w fun e w' => e = .returned (errV A (firstOf l)) ∧ Below w.heap.size w w' := by
  have hfew : Hid (l.length ≤ 100) := h.few
  have H : Hid (RulesAt A w rb (.agg #[.int .i64 x0, .int .i64 x1, .int .i64 x2, .int .i64 x3, .slice sa sn sc]) l g) := h
  clear h
  go_enter Tryz.func20, Tryz.ntmps20
  go_wp2_with fail
  have HS : Hid (∀ W, Below (w.heap.size + 1) (w.alloc (.cells #[.int .i64 x0, .int .i64 x1, .int .i64 x2, .int .i64 x3, .slice sa sn sc] 25)) W → Below w.heap.size w W ∧ w.heap.size + 1 ≤ W.heap.size ∧ W.cell? ⟨w.heap.size, 0, none⟩ = some (.int .i64 x0) ∧ W.cell? ⟨w.heap.size, 1, none⟩ = some (.int .i64 x1) ∧ W.cell? ⟨w.heap.size, 2, none⟩ = some (.int .i64 x2) ∧ W.cell? ⟨w.heap.size, 3, none⟩ = some (.int .i64 x3) ∧ W.cell? ⟨w.heap.size, 4, none⟩ = some (.slice sa sn sc)) := fun W hb => by
    have hc : ∀ j v, (w.alloc (.cells #[.int .i64 x0, .int .i64 x1, .int .i64 x2, .int .i64 x3, .slice sa sn sc] 25)).cell? ⟨w.heap.size, j, none⟩ = some v → W.cell? ⟨w.heap.size, j, none⟩ = some v := fun j v e => (hb.cell (p := ⟨w.heap.size, j, none⟩) (Nat.lt_succ_self _)).trans e
    exact ⟨((Below.refl _ _).alloc (Nat.le_refl _) _).trans (hb.mono (Nat.le_succ _)), by simpa using hb.size, hc 0 (.int .i64 x0) (by simp), hc 1 (.int .i64 x1) (by simp), hc 2 (.int .i64 x2) (by simp), hc 3 (.int .i64 x3) (by simp), hc 4 (.slice sa sn sc) (by simp)⟩
  go_loopw [6, 9] (fun _ i wr => ∃ k : Nat, k ≤ l.length ∧ i = .int .i64 k ∧ Below (w.heap.size + 1) (w.alloc (.cells #[.int .i64 x0, .int .i64 x1, .int .i64 x2, .int .i64 x3, .slice sa sn sc] 25)) wr ∧ Hid (∀ (i : Nat) (b : Bool) (d : Nat), i < k → l[i]? = some (b, d) → b = false)) (fun _ i _ => l.length - (intOf i).toNat)
  case atStart => exact ⟨0, Nat.zero_le _, rfl, Below.refl _ _, fun i b d hi => absurd hi (Nat.not_lt_zero _)⟩
  case round =>
    obtain ⟨k, hk, rfl, hbw, hall⟩ := hrel
    obtain ⟨hbw1, hsz, p0, p1, p2, p3, p4⟩ := HS.out _ hbw
    by_cases hlt : k < l.length
    · obtain ⟨⟨b, c⟩, hkk⟩ : ∃ x, l[k]? = some x := ⟨_, List.getElem?_eq_getElem hlt⟩
      have c0 := cell_below hbw1 (H.out.cell k b c hkk).1
      have c1 := cell_below hbw1 (H.out.cell k b c hkk).2
      have egk := H.out.eg k b c hkk
      have HC : Hid (∀ W, Below w.heap.size w W → Calls Tryz.prog (g k) #[.agg #[.int .i64 x0, .int .i64 x1, .int .i64 x2, .int .i64 x3, .slice sa sn sc]] W fun e W' => e = .returned (.bool b) ∧ Below W.heap.size W W') := H.out.call k b c hkk
      have HK : Hid (l[k]? = some (b, c)) := hkk
      have hk100 : k < 100 := by have := hfew.out; omega
      have k1 : (k : Int) < (l.length : Int) := by omega
      have HB : Hid (Below (w.heap.size + 1) (w.alloc (.cells #[.int .i64 x0, .int .i64 x1, .int .i64 x2, .int .i64 x3, .slice sa sn sc] 25)) wr) := hbw
      have HB1 : Hid (Below w.heap.size w wr) := hbw1
      have hpos := H.out.pos k b c hkk
      clear hkk hbw hbw1 HS H
      have ha : ∀ (j : Nat) (v : Value), wr.cell? ⟨w.heap.size, j, none⟩ = some v → ∀ o, (wr.alloc o).cell? ⟨w.heap.size, j, none⟩ = some v := fun j v e o => (World.cell?_alloc_lt wr o ⟨w.heap.size, j, none⟩ (block_lt e)).trans e
      have q0 := ha _ _ p0
      have q1 := ha _ _ p1
      have q2 := ha _ _ p2
      have q3 := ha _ _ p3
      have q4 := ha _ _ p4
      clear ha p0 p1 p2 p3 p4
      generalize g k = gk at *
      obtain ⟨c, rfl⟩ : ∃ d, c = d + 1 := ⟨c - 1, by omega⟩
      unfold errV at c0
      clear hpos
      cases b with
      | true =>
        go_wp2_with fail
        refine (HC.out _ (HB1.out.trans (((Below.refl _ _).alloc (Nat.le_refl _) _).mono HB1.out.size))).mono ?_
        rintro e W' ⟨rfl, hb'⟩
        have d0 : W'.cell? ⟨wr.heap.size, 0, none⟩ = some (.iface 211 (.pointer (some (A c)))) := cell_below hb' (by simp)
        have HW : Hid (Below w.heap.size w W') := HB1.out.trans ((((Below.refl _ _).alloc (Nat.le_refl _) _).mono HB1.out.size).trans (hb'.mono (by simp; have := HB1.out.size; omega)))
        clear hb'
        go_wp2
        go_ret
        exact ⟨by rw [firstOf_at l k (c + 1) hall.out HK.out]; rfl, HW.out⟩
      | false =>
        go_wp2_with fail
        refine (HC.out _ (HB1.out.trans (((Below.refl _ _).alloc (Nat.le_refl _) _).mono HB1.out.size))).mono ?_
        rintro e W' ⟨rfl, hb'⟩
        have HW : Hid (Below (w.heap.size + 1) (w.alloc (.cells #[.int .i64 x0, .int .i64 x1, .int .i64 x2, .int .i64 x3, .slice sa sn sc] 25)) W') := HB.out.trans ((((Below.refl _ _).alloc (Nat.le_refl _) _).mono hsz).trans (hb'.mono (by simp; omega)))
        clear hb'
        go_wp2
        go_roundw
        case rel =>
          refine ⟨k + 1, by omega, by go_num, HW.out, fun i b d hi e => ?_⟩
          by_cases hik : i = k
          · subst hik
            have := HK.out
            rw [this] at e
            cases e
            rfl
          · exact hall.out i b d (by omega) e
        case measure => simp [intOf]; omega
    · have HN : Hid (firstOf l = 0) := firstOf_none l (fun i b d e => hall.out i b d (by have := (List.getElem?_eq_some_iff.1 e).1; omega) e)
      have k1 : ¬ (k : Int) < (l.length : Int) := by omega
      clear HS H
      go_wp2
      go_ret
      exact ⟨by rw [HN.out]; rfl, hbw1⟩
set_option maxHeartbeats 1000000 in
theorem first_ent (A : Nat → Addr) (nm : ByteArray) (tol cnt mn mx : Int) (pa ga ea fa la : Option Addr) (pn pc gn gc en ec fn fc ln lc : Nat) (rb : Nat) (l : List (Bool × Nat)) (g : Nat → Nat) (w : World) (h : RulesAt A w rb (.agg #[.string nm, .int .i64 tol, .slice pa pn pc, .int .i64 cnt, .int .i64 mn, .int .i64 mx, .slice ga gn gc, .slice ea en ec, .slice fa fn fc, .slice la ln lc]) l g) :
    Calls Tryz.prog 42 #[.agg #[.string nm, .int .i64 tol, .slice pa pn pc, .int .i64 cnt, .int .i64 mn, .int .i64 mx, .slice ga gn gc, .slice ea en ec, .slice fa fn fc, .slice la ln lc], .slice (some ⟨rb, 0, none⟩) l.length l.length] w fun e w' => e = .returned (errV A (firstOf l)) ∧ Below w.heap.size w w' := by
  have hfew : Hid (l.length ≤ 100) := h.few
  have H : Hid (RulesAt A w rb (.agg #[.string nm, .int .i64 tol, .slice pa pn pc, .int .i64 cnt, .int .i64 mn, .int .i64 mx, .slice ga gn gc, .slice ea en ec, .slice fa fn fc, .slice la ln lc]) l g) := h
  clear h
  go_enter Tryz.func42, Tryz.ntmps42
  go_wp2_with fail
  have HS : Hid (∀ W, Below (w.heap.size + 1) (w.alloc (.cells #[.string nm, .int .i64 tol, .slice pa pn pc, .int .i64 cnt, .int .i64 mn, .int .i64 mx, .slice ga gn gc, .slice ea en ec, .slice fa fn fc, .slice la ln lc] 41)) W → Below w.heap.size w W ∧ w.heap.size + 1 ≤ W.heap.size ∧ W.cell? ⟨w.heap.size, 0, none⟩ = some (.string nm) ∧ W.cell? ⟨w.heap.size, 1, none⟩ = some (.int .i64 tol) ∧ W.cell? ⟨w.heap.size, 2, none⟩ = some (.slice pa pn pc) ∧ W.cell? ⟨w.heap.size, 3, none⟩ = some (.int .i64 cnt) ∧ W.cell? ⟨w.heap.size, 4, none⟩ = some (.int .i64 mn) ∧ W.cell? ⟨w.heap.size, 5, none⟩ = some (.int .i64 mx) ∧ W.cell? ⟨w.heap.size, 6, none⟩ = some (.slice ga gn gc) ∧ W.cell? ⟨w.heap.size, 7, none⟩ = some (.slice ea en ec) ∧ W.cell? ⟨w.heap.size, 8, none⟩ = some (.slice fa fn fc) ∧ W.cell? ⟨w.heap.size, 9, none⟩ = some (.slice la ln lc)) := fun W hb => by
    have hc : ∀ j v, (w.alloc (.cells #[.string nm, .int .i64 tol, .slice pa pn pc, .int .i64 cnt, .int .i64 mn, .int .i64 mx, .slice ga gn gc, .slice ea en ec, .slice fa fn fc, .slice la ln lc] 41)).cell? ⟨w.heap.size, j, none⟩ = some v → W.cell? ⟨w.heap.size, j, none⟩ = some v := fun j v e => (hb.cell (p := ⟨w.heap.size, j, none⟩) (Nat.lt_succ_self _)).trans e
    exact ⟨((Below.refl _ _).alloc (Nat.le_refl _) _).trans (hb.mono (Nat.le_succ _)), by simpa using hb.size, hc 0 (.string nm) (by simp), hc 1 (.int .i64 tol) (by simp), hc 2 (.slice pa pn pc) (by simp), hc 3 (.int .i64 cnt) (by simp), hc 4 (.int .i64 mn) (by simp), hc 5 (.int .i64 mx) (by simp), hc 6 (.slice ga gn gc) (by simp), hc 7 (.slice ea en ec) (by simp), hc 8 (.slice fa fn fc) (by simp), hc 9 (.slice la ln lc) (by simp)⟩
  go_loopw [6, 9] (fun _ i wr => ∃ k : Nat, k ≤ l.length ∧ i = .int .i64 k ∧ Below (w.heap.size + 1) (w.alloc (.cells #[.string nm, .int .i64 tol, .slice pa pn pc, .int .i64 cnt, .int .i64 mn, .int .i64 mx, .slice ga gn gc, .slice ea en ec, .slice fa fn fc, .slice la ln lc] 41)) wr ∧ Hid (∀ (i : Nat) (b : Bool) (d : Nat), i < k → l[i]? = some (b, d) → b = false)) (fun _ i _ => l.length - (intOf i).toNat)
  case atStart => exact ⟨0, Nat.zero_le _, rfl, Below.refl _ _, fun i b d hi => absurd hi (Nat.not_lt_zero _)⟩
  case round =>
    obtain ⟨k, hk, rfl, hbw, hall⟩ := hrel
    obtain ⟨hbw1, hsz, p0, p1, p2, p3, p4, p5, p6, p7, p8, p9⟩ := HS.out _ hbw
    by_cases hlt : k < l.length
    · obtain ⟨⟨b, c⟩, hkk⟩ : ∃ x, l[k]? = some x := ⟨_, List.getElem?_eq_getElem hlt⟩
      have c0 := cell_below hbw1 (H.out.cell k b c hkk).1
      have c1 := cell_below hbw1 (H.out.cell k b c hkk).2
      have egk := H.out.eg k b c hkk
      have HC : Hid (∀ W, Below w.heap.size w W → Calls Tryz.prog (g k) #[.agg #[.string nm, .int .i64 tol, .slice pa pn pc, .int .i64 cnt, .int .i64 mn, .int .i64 mx, .slice ga gn gc, .slice ea en ec, .slice fa fn fc, .slice la ln lc]] W fun e W' => e = .returned (.bool b) ∧ Below W.heap.size W W') := H.out.call k b c hkk
      have HK : Hid (l[k]? = some (b, c)) := hkk
      have hk100 : k < 100 := by have := hfew.out; omega
      have k1 : (k : Int) < (l.length : Int) := by omega
      have HB : Hid (Below (w.heap.size + 1) (w.alloc (.cells #[.string nm, .int .i64 tol, .slice pa pn pc, .int .i64 cnt, .int .i64 mn, .int .i64 mx, .slice ga gn gc, .slice ea en ec, .slice fa fn fc, .slice la ln lc] 41)) wr) := hbw
      have HB1 : Hid (Below w.heap.size w wr) := hbw1
      have hpos := H.out.pos k b c hkk
      clear hkk hbw hbw1 HS H
      have ha : ∀ (j : Nat) (v : Value), wr.cell? ⟨w.heap.size, j, none⟩ = some v → ∀ o, (wr.alloc o).cell? ⟨w.heap.size, j, none⟩ = some v := fun j v e o => (World.cell?_alloc_lt wr o ⟨w.heap.size, j, none⟩ (block_lt e)).trans e
      have q0 := ha _ _ p0
      have q1 := ha _ _ p1
      have q2 := ha _ _ p2
      have q3 := ha _ _ p3
      have q4 := ha _ _ p4
      have q5 := ha _ _ p5
      have q6 := ha _ _ p6
      have q7 := ha _ _ p7
      have q8 := ha _ _ p8
      have q9 := ha _ _ p9
      clear ha p0 p1 p2 p3 p4 p5 p6 p7 p8 p9
      generalize g k = gk at *
      obtain ⟨c, rfl⟩ : ∃ d, c = d + 1 := ⟨c - 1, by omega⟩
      unfold errV at c0
      clear hpos
      cases b with
      | true =>
        go_wp2_with fail
        refine (HC.out _ (HB1.out.trans (((Below.refl _ _).alloc (Nat.le_refl _) _).mono HB1.out.size))).mono ?_
        rintro e W' ⟨rfl, hb'⟩
        have d0 : W'.cell? ⟨wr.heap.size, 0, none⟩ = some (.iface 211 (.pointer (some (A c)))) := cell_below hb' (by simp)
        have HW : Hid (Below w.heap.size w W') := HB1.out.trans ((((Below.refl _ _).alloc (Nat.le_refl _) _).mono HB1.out.size).trans (hb'.mono (by simp; have := HB1.out.size; omega)))
        clear hb'
        go_wp2
        go_ret
        exact ⟨by rw [firstOf_at l k (c + 1) hall.out HK.out]; rfl, HW.out⟩
      | false =>
        go_wp2_with fail
        refine (HC.out _ (HB1.out.trans (((Below.refl _ _).alloc (Nat.le_refl _) _).mono HB1.out.size))).mono ?_
        rintro e W' ⟨rfl, hb'⟩
        have HW : Hid (Below (w.heap.size + 1) (w.alloc (.cells #[.string nm, .int .i64 tol, .slice pa pn pc, .int .i64 cnt, .int .i64 mn, .int .i64 mx, .slice ga gn gc, .slice ea en ec, .slice fa fn fc, .slice la ln lc] 41)) W') := HB.out.trans ((((Below.refl _ _).alloc (Nat.le_refl _) _).mono hsz).trans (hb'.mono (by simp; omega)))
        clear hb'
        go_wp2
        go_roundw
        case rel =>
          refine ⟨k + 1, by omega, by go_num, HW.out, fun i b d hi e => ?_⟩
          by_cases hik : i = k
          · subst hik
            have := HK.out
            rw [this] at e
            cases e
            rfl
          · exact hall.out i b d (by omega) e
        case measure => simp [intOf]; omega
    · have HN : Hid (firstOf l = 0) := firstOf_none l (fun i b d e => hall.out i b d (by have := (List.getElem?_eq_some_iff.1 e).1; omega) e)
      have k1 : ¬ (k : Int) < (l.length : Int) := by omega
      clear HS H
      go_wp2
      go_ret
      exact ⟨by rw [HN.out]; rfl, hbw1⟩
end Go.Proofs.YtcnfkdecghdphabGreatDoor
