/-
  LocalKinds' four entities while they are made, in whatever order the rows are read ('MadeI'). Conditions: as LoOps'.
-/
import Derived.Test.YtpaolneaomeoiabDoorLkAllX
import Derived.Test.YtpaolneaomeoiabDoorLoInX
import Derived.Test.YtpaolneaomeoiabDoorOrdX
namespace Go.Proofs.YtpaolneaomeoiabDoor
open Go.RowKit Go.Extern.Stop Go.Stop Go.Extern

section
variable {W V V' : World} {e : EntD} {Ein : Nat → EA} {vals : Nat → Option Value} {los his bs : Nat → Nat} {Es : Nat → EA} {i : Nat}
def ldOp (i : Nat) : Nat := if i = 0 then 0 else 2 * i + 1
theorem ld_even (i j : Nat) : 2 * j + 2 ≠ ldOp i := by unfold ldOp; split <;> omega
theorem ld_inj {i j : Nat} (h : ldOp i = ldOp j) : i = j := by unfold ldOp at h; split at h <;> split at h <;> omega
structure MadeI (W V : World) (e : EntD) (Ein : Nat → EA) (vals : Nat → Option Value) (los his bs : Nat → Nat) (Es : Nat → EA) : Prop where
  bel : Below W.heap.size W V
  ld : ∀ i, i < 4 → ∀ v, vals (ldOp i) = some v → v = entV (ke e i) (Ein i)
  own : ∀ v, vals 1 = some v → ∃ E', v = entV e E' ∧ PartsE V e E'
  mks : ∀ i, i < 4 → ∀ v, vals (2 * i + 2) = some v → v = .pointer (some ⟨bs i, 0, none⟩) ∧ LoAt (fun k => los i ≤ k ∧ k < his i) V (bs i) (ke e i) (Es i) none ∧ W.heap.size ≤ los i ∧ his i ≤ V.heap.size ∧ ∀ j, j < i → his j ≤ los i
  ch : ∀ i, i < 3 → vals (2 * i + 4) ≠ none → vals (2 * i + 2) ≠ none
  rwd : vals 9 ≠ none → vals 8 ≠ none
  row : ∀ v, vals 9 = some v → ∃ ra, v = .slice (some ⟨ra, 0, none⟩) 4 4 ∧ RowA V ra bs ∧ W.heap.size ≤ ra
  asg : ∀ v, vals 10 = some v → vals 9 = some v
def MadeC (W : World) (e : EntD) (Ein : Nat → EA) (vals : Nat → Option Value) (V : World) : Prop := ∃ los his bs Es, MadeI W V e Ein vals los his bs Es
theorem MadeI.below (h : MadeI W V e Ein vals los his bs Es) (hb : Below V.heap.size V V') : MadeI W V' e Ein vals los his bs Es := by
  refine ⟨h.bel.trans (hb.mono h.bel.size), h.ld, fun v hv => ?_, fun i hi v hv => ?_, h.ch, h.rwd, fun v hv => ?_, h.asg⟩
  · obtain ⟨E', h1, h2⟩ := h.own v hv
    exact ⟨E', h1, h2.below hb⟩
  · obtain ⟨h1, h2, h3, h4, h5⟩ := h.mks i hi v hv
    exact ⟨h1, h2.below (fun k hk => Nat.lt_of_lt_of_le hk.2 h4) hb, h3, Nat.le_trans h4 hb.size, h5⟩
  · obtain ⟨ra, h1, h2, h3⟩ := h.row v hv
    exact ⟨ra, h1, row_below hb h2, h3⟩
theorem MadeC.below (h : MadeC W e Ein vals V) (hb : Below V.heap.size V V') : MadeC W e Ein vals V' := by
  obtain ⟨los, his, bs, Es, h⟩ := h
  exact ⟨los, his, bs, Es, h.below hb⟩
theorem MadeC.bel (h : MadeC W e Ein vals V) : Below W.heap.size W V := by
  obtain ⟨los, his, bs, Es, h⟩ := h
  exact h.bel
theorem made_none (W : World) (e : EntD) (Ein : Nat → EA) (V : World) (hb : Below W.heap.size W V) : MadeC W e Ein (fun _ => none) V :=
  ⟨fun _ => 0, fun _ => 0, fun _ => 0, Ein, hb, fun _ _ _ h => (by cases h), fun _ h => (by cases h), fun _ _ _ h => (by cases h), fun _ _ h => absurd rfl h, fun h => absurd rfl h, fun _ h => (by cases h), fun _ h => (by cases h)⟩
theorem upd_ne {j : Nat} {v : Value} (h : upd vals i v j ≠ none) (hj : j ≠ i) : vals j ≠ none := by rwa [upd_other vals v hj] at h
theorem ne_upd {j : Nat} {v : Value} (h : vals j ≠ none) : upd vals i v j ≠ none := by
  by_cases e : j = i
  · subst e; rw [upd_same]; simp
  · rw [upd_other vals v e]; exact h
/-- A row is read. -/
theorem MadeC.load (h : MadeC W e Ein vals V) (hi : i < 4) (hn : vals (ldOp i) = none) {c : Value} (hc : c = entV (ke e i) (Ein i)) : MadeC W e Ein (upd vals (ldOp i) c) V := by
  obtain ⟨los, his, bs, Es, h⟩ := h
  have n1 : 1 ≠ ldOp i := by unfold ldOp; split <;> omega
  have n10 : 10 ≠ ldOp i := by unfold ldOp; split <;> omega
  have n9 : 9 ≠ ldOp i := by unfold ldOp; split <;> omega
  refine ⟨los, his, bs, Es, h.bel, fun j hj v hv => ?_, fun v hv => h.own v (by rwa [upd_other vals c n1] at hv), fun j hj v hv => h.mks j hj v (by rwa [upd_other vals c (ld_even i j)] at hv), fun j hj hv => ne_upd (h.ch j hj (upd_ne hv (ld_even i (j + 1)))), fun hv => ne_upd (h.rwd (upd_ne hv n9)), fun v hv => h.row v (by rwa [upd_other vals c n9] at hv), fun v hv => ?_⟩
  · by_cases e1 : ldOp j = ldOp i
    · obtain rfl := ld_inj e1
      rw [upd_same] at hv
      exact (Option.some.inj hv).symm.trans hc
    · exact h.ld j hj v (by rwa [upd_other vals c e1] at hv)
  · rw [upd_other vals c n9]
    exact h.asg v (by rwa [upd_other vals c n10] at hv)
/-- The first entity is copied. -/
theorem MadeC.owned (h : MadeC W e Ein vals V) {E' : EA} (hE : PartsE V e E') {c : Value} (hc : c = entV e E') : MadeC W e Ein (upd vals 1 c) V := by
  obtain ⟨los, his, bs, Es, h⟩ := h
  have n : ∀ j, ldOp j ≠ 1 ∨ j = 0 := fun j => by unfold ldOp; split; exact Or.inr ‹_›; exact Or.inl (by omega)
  refine ⟨los, his, bs, Es, h.bel, fun j hj v hv => h.ld j hj v ?_, fun v hv => ?_, fun j hj v hv => h.mks j hj v (by rwa [upd_other vals c (by omega)] at hv), fun j hj hv => ne_upd (h.ch j hj (upd_ne hv (by omega))), fun hv => ne_upd (h.rwd (upd_ne hv (by omega))), fun v hv => h.row v (by rwa [upd_other vals c (by omega)] at hv), fun v hv => ?_⟩
  · have : ldOp j ≠ 1 := by unfold ldOp; split <;> omega
    rwa [upd_other vals c this] at hv
  · rw [upd_same] at hv
    exact ⟨E', (Option.some.inj hv).symm.trans hc, hE⟩
  · rw [upd_other vals c (by omega)]
    exact h.asg v (by rwa [upd_other vals c (by omega)] at hv)
theorem MadeI.down (h : MadeI W V e Ein vals los his bs Es) : ∀ (n j : Nat), j + n < 4 → vals (2 * (j + n) + 2) ≠ none → vals (2 * j + 2) ≠ none
  | 0, j, _, hv => hv
  | n + 1, j, hi, hv => h.down n j (by omega) (h.ch (j + n) (by omega) (by rw [show 2 * (j + n) + 4 = 2 * (j + (n + 1)) + 2 by omega]; exact hv))
def updN (f : Nat → Nat) (i x : Nat) : Nat → Nat := fun j => if j = i then x else f j
def updE (f : Nat → EA) (i : Nat) (x : EA) : Nat → EA := fun j => if j = i then x else f j
/-- One more is made. -/
theorem MadeC.made (h : MadeC W e Ein vals V) (hi : i < 4) (hn : vals (2 * i + 2) = none) (hp : ∀ j, j + 1 = i → vals (2 * j + 2) ≠ none) {b : Nat} {E' : EA} (hL : LoAt (fun k => V.heap.size ≤ k) V' b (ke e i) E' none) (hb : Below V.heap.size V V') : MadeC W e Ein (upd vals (2 * i + 2) (.pointer (some ⟨b, 0, none⟩))) V' := by
  obtain ⟨los, his, bs, Es, h0⟩ := h
  have h := h0.below hb
  have hpast : ∀ j, j < i → vals (2 * j + 2) ≠ none := fun j hj => by
    have := hp (i - 1) (by omega)
    exact h0.down (i - 1 - j) j (by omega) (by rw [show j + (i - 1 - j) = i - 1 by omega]; exact this)
  have hfut : ∀ j, i < j → j < 4 → vals (2 * j + 2) = none := fun j hj hj4 => by
    cases hv : vals (2 * j + 2) with
    | none => rfl
    | some v =>
      exfalso
      exact h0.down (j - i) i (by omega) (by rw [show i + (j - i) = j by omega, hv]; simp) hn
  have h9 : vals 9 = none := by
    cases hv : vals 9 with
    | none => rfl
    | some v =>
      exfalso
      have h8 := h0.rwd (by rw [hv]; simp)
      exact h0.down (3 - i) i (by omega) (by rw [show i + (3 - i) = 3 by omega]; exact h8) hn
  have h10 : vals 10 = none := by
    cases hv : vals 10 with
    | none => rfl
    | some v => have := h0.asg v hv; rw [h9] at this; cases this
  refine ⟨updN los i V.heap.size, updN his i V'.heap.size, updN bs i b, updE Es i E', h.bel, fun j hj v hv => h.ld j hj v (by rwa [upd_other vals _ (ld_even j i).symm] at hv), fun v hv => h.own v (by rwa [upd_other vals _ (by omega)] at hv), fun j hj v hv => ?_, fun j hj hv => ?_, fun hv => ?_, fun v hv => ?_, fun v hv => ?_⟩
  · by_cases e1 : j = i
    · subst e1
      rw [upd_same] at hv
      have e2 : updN los j V.heap.size j = V.heap.size := by unfold updN; rw [if_pos rfl]
      have e3 : updN his j V'.heap.size j = V'.heap.size := by unfold updN; rw [if_pos rfl]
      have e4 : updN bs j b j = b := by unfold updN; rw [if_pos rfl]
      have e5 : updE Es j E' j = E' := by unfold updE; rw [if_pos rfl]
      rw [e2, e3, e4, e5]
      refine ⟨(Option.some.inj hv).symm, hL.mono (fun k hk h => ⟨h, hk⟩), h0.bel.size, Nat.le_refl _, fun q hq => ?_⟩
      have e6 : updN his j V'.heap.size q = his q := by unfold updN; rw [if_neg (by omega)]
      rw [e6]
      cases hv2 : vals (2 * q + 2) with
      | none => exact absurd hv2 (hpast q hq)
      | some v2 => exact (h0.mks q (by omega) v2 hv2).2.2.2.1
    · rw [upd_other vals _ (by omega)] at hv
      have hji : j < i := by
        rcases Nat.lt_or_ge j i with h1 | h1
        · exact h1
        · rw [hfut j (by omega) hj] at hv; cases hv
      have e2 : updN los i V.heap.size j = los j := by unfold updN; rw [if_neg e1]
      have e3 : updN his i V'.heap.size j = his j := by unfold updN; rw [if_neg e1]
      have e4 : updN bs i b j = bs j := by unfold updN; rw [if_neg e1]
      have e5 : updE Es i E' j = Es j := by unfold updE; rw [if_neg e1]
      rw [e2, e3, e4, e5]
      obtain ⟨a1, a2, a3, a4, a5⟩ := h.mks j hj v hv
      refine ⟨a1, a2, a3, a4, fun q hq => ?_⟩
      have e6 : updN his i V'.heap.size q = his q := by unfold updN; rw [if_neg (by omega)]
      rw [e6]
      exact a5 q hq
  · by_cases e1 : 2 * j + 4 = 2 * i + 2
    · have := hpast j (by omega)
      exact ne_upd this
    · exact ne_upd (h.ch j hj (upd_ne hv e1))
  · exact absurd h9 (upd_ne hv (by omega))
  · rw [upd_other vals _ (by omega), h9] at hv
    cases hv
  · rw [upd_other vals _ (by omega), h10] at hv
    cases hv
/-- The row of the four. -/
theorem MadeC.ptrs (h : MadeC W e Ein vals V) (h8 : vals 8 ≠ none) : ∃ bs : Nat → Nat, ∀ i, i < 4 → vals (2 * i + 2) = some (.pointer (some ⟨bs i, 0, none⟩)) := by
  obtain ⟨los, his, bs, Es, h⟩ := h
  refine ⟨bs, fun i hi => ?_⟩
  have := h.down (3 - i) i (by omega) (by rw [show i + (3 - i) = 3 by omega]; exact h8)
  cases hv : vals (2 * i + 2) with
  | none => exact absurd hv this
  | some v => rw [(h.mks i hi v hv).1]
theorem MadeC.rowed (h : MadeC W e Ein vals V) {bs : Nat → Nat} (hb : ∀ i, i < 4 → vals (2 * i + 2) = some (.pointer (some ⟨bs i, 0, none⟩))) (h10 : vals 9 = none) : MadeC W e Ein (upd vals 9 (.slice (some ⟨V.heap.size, 0, none⟩) 4 4)) (V.alloc (.cells #[.pointer (some ⟨bs 0, 0, none⟩), .pointer (some ⟨bs 1, 0, none⟩), .pointer (some ⟨bs 2, 0, none⟩), .pointer (some ⟨bs 3, 0, none⟩)] 42)) := by
  obtain ⟨los, his, bs', Es, h0⟩ := h
  have hbs : ∀ i, i < 4 → bs' i = bs i := fun i hi => by
    have := (h0.mks i hi _ (hb i hi)).1
    simpa using this.symm
  have h := h0.below (Below.one V (.cells #[.pointer (some ⟨bs 0, 0, none⟩), .pointer (some ⟨bs 1, 0, none⟩), .pointer (some ⟨bs 2, 0, none⟩), .pointer (some ⟨bs 3, 0, none⟩)] 42))
  refine ⟨los, his, bs', Es, h.bel, fun j hj v hv => h.ld j hj v ?_, fun v hv => h.own v (by rwa [upd_other vals _ (by omega)] at hv), fun j hj v hv => h.mks j hj v (by rwa [upd_other vals _ (by omega)] at hv), fun j hj hv => ne_upd (h.ch j hj (upd_ne hv (by omega))), fun _ => ?_, fun v hv => ?_, fun v hv => ?_⟩
  · have : ldOp j ≠ 9 := by unfold ldOp; split <;> omega
    rwa [upd_other vals _ this] at hv
  · rw [upd_other vals _ (by omega), hb 3 (by omega)]
    simp
  · rw [upd_same] at hv
    refine ⟨V.heap.size, (Option.some.inj hv).symm, ?_, h0.bel.size⟩
    unfold RowA
    rw [hbs 0 (by omega), hbs 1 (by omega), hbs 2 (by omega), hbs 3 (by omega)]
    exact heap_alloc_new V _
  · rw [upd_other vals _ (by omega)] at hv
    have := h0.asg v hv
    rw [h10] at this
    cases this
theorem MadeC.assign (h : MadeC W e Ein vals V) {c : Value} (hc : vals 9 = some c) : MadeC W e Ein (upd vals 10 c) V := by
  obtain ⟨los, his, bs, Es, h⟩ := h
  refine ⟨los, his, bs, Es, h.bel, fun j hj v hv => h.ld j hj v ?_, fun v hv => h.own v (by rwa [upd_other vals _ (by omega)] at hv), fun j hj v hv => h.mks j hj v (by rwa [upd_other vals _ (by omega)] at hv), fun j hj hv => ne_upd (h.ch j hj (upd_ne hv (by omega))), fun hv => ne_upd (h.rwd (upd_ne hv (by omega))), fun v hv => h.row v (by rwa [upd_other vals _ (by omega)] at hv), fun v hv => ?_⟩
  · have : ldOp j ≠ 10 := by unfold ldOp; split <;> omega
    rwa [upd_other vals _ this] at hv
  · rw [upd_same] at hv
    rw [upd_other vals _ (by omega), hc, hv]
/-- All is made. -/
theorem MadeC.all {w0 : World} (h : MadeC W e Ein vals V) (h8 : vals 8 ≠ none) {c : Value} (hc : vals 9 = some c) (hb : Below w0.heap.size w0 W) : ∃ (F : Nat → Nat → Prop) (bs : Nat → Nat) (Es : Nat → EA) (ra : Nat), c = .slice (some ⟨ra, 0, none⟩) 4 4 ∧ Four4 w0 V V.heap.size F e bs Es ra (fun _ => none) := by
  obtain ⟨los, his, bs, Es, h⟩ := h
  have hall : ∀ i, i < 4 → ∃ v, vals (2 * i + 2) = some v := fun i hi => by
    have := h.down (3 - i) i (by omega) (by rw [show i + (3 - i) = 3 by omega]; exact h8)
    cases hv : vals (2 * i + 2) with
    | none => exact absurd hv this
    | some v => exact ⟨v, rfl⟩
  obtain ⟨ra, h1, h2, h3⟩ := h.row c hc
  refine ⟨fun i k => los i ≤ k ∧ k < his i, bs, Es, ra, h1, ⟨fun i hi => ?_, fun i j hi hj hne k hk1 hk2 => ?_, fun i hi k hk => ?_, Nat.le_refl _, hb.trans (h.bel.mono hb.size)⟩, h2⟩
  · obtain ⟨v, hv⟩ := hall i hi
    exact (h.mks i hi v hv).2.1
  · obtain ⟨v, hv⟩ := hall i hi
    obtain ⟨v', hv'⟩ := hall j hj
    have a1 := (h.mks i hi v hv).2.2.2.2
    have a2 := (h.mks j hj v' hv').2.2.2.2
    rcases Nat.lt_or_ge i j with h4 | h4
    · have := a2 i h4
      omega
    · have := a1 j (by omega)
      omega
  · obtain ⟨v, hv⟩ := hall i hi
    obtain ⟨a1, a2, a3, a4, a5⟩ := h.mks i hi v hv
    have := hb.size
    omega
end
end Go.Proofs.YtpaolneaomeoiabDoor
