/-
  A statement whose order of evaluation is left open, told by what is so when some of its operations have come up with these values ('C vals w'). No condition beside those named.
-/
import Derived.Test.YtdpdbfhbojgigacGreatDoorB13P
namespace Go.Proofs.YtdpdbfhbojgigacGreatDoor
open Go

/-- What one operation's run must come to. -/
def goodRun3 (P : Program) (C : (Nat → Option Value) → World → Prop) (vals : Nat → Option Value) (i : Nat) : Result Next → Prop
  | .ok (.value u) w' => C (upd vals i u) w'
  | .ok .skip w' => C (upd vals i undef) w'
  | .ok (.enter f args) w' => Calls P f args w' fun e w'' => ∃ v, e = .returned v ∧ C (upd vals i v) w''
  | _ => False

section
variable {P : Program} {ops : Array Oper} {Q : Exit → Act → World → Prop} {md : Region.Mode} {C : (Nat → Option Value) → World → Prop} {a0 : Act}
/-- What must be shown of each operation. -/
def StepOk3 (P : Program) (md : Region.Mode) (ops : Array Oper) (C : (Nat → Option Value) → World → Prop) (a0 : Act) (i : Nat) (o : Oper) : Prop :=
  ∀ (vals : Nat → Option Value) (a : Act) (w : World), C vals w → vals i = none → (∀ e, e ∈ o.after → Region.binds md e = true → ∃ v, vals e.on = some v ∧ ∀ d, dstOf ops e.on = some d → a.eval (.tmp d) = v) →
    (∀ d, (∀ j, dstOf ops j ≠ some d) → a.eval (.tmp d) = a0.eval (.tmp d)) →
    if Region.wanted o (yielded ops a.tmps) = true then goodRun3 P C vals i ((execOp a.eval o).run P w) else C (upd vals i undef) w

theorem wpAny_spec3 (hd : Distinct ops) (hin : ∀ j d, dstOf ops j = some d → d < a0.tmps.size)
    (hback : ∀ i o, ops[i]? = some o → ∀ e, e ∈ o.after → Region.binds md e = true → e.on < i)
    (step : ∀ i o, ops[i]? = some o → StepOk3 P md ops C a0 i o)
    (fin : ∀ (vals : Nat → Option Value) (w : World), C vals w → (∀ j, j < ops.size → (vals j).isSome = true) → Q .normal (fill ops a0 vals ops.size) w) :
    ∀ (fuel : Nat) (listed : Array Bool) (vals : Nat → Option Value) (w : World), listed.size = ops.size → (∀ j, j < ops.size → listed.getD j true = (vals j).isSome) → C vals w →
      cnt vals ops.size ≤ fuel → wpAny P md ops Q fuel listed (fill ops a0 vals ops.size) w := by
  have hready : ∀ (listed : Array Bool) (vals : Nat → Option Value), listed.size = ops.size → (∀ j, j < ops.size → listed.getD j true = (vals j).isSome) → Region.ready md ops listed = [] → ∀ j, j < ops.size → (vals j).isSome = true := by
    intro listed vals hsz hl hr j
    induction j using Nat.strongRecOn with
    | ind j ih =>
      intro hj
      cases hv : (vals j).isSome with
      | true => rfl
      | false =>
        exfalso
        have hm : j ∈ Region.ready md ops listed := by
          rw [mem_ready]
          refine ⟨by rw [hl j hj, hv], ops[j], Array.getElem?_eq_getElem hj, fun e he hb => ?_⟩
          have hlt := hback j _ (Array.getElem?_eq_getElem hj) e he hb
          have h1 := ih e.on hlt (by omega)
          have h2 := hl e.on (by omega)
          rw [h1] at h2
          have h3 : e.on < listed.size := by omega
          simp only [Array.getD_eq_getD_getElem?, Array.getElem?_eq_getElem h3, Option.getD_some] at h2 ⊢
          exact h2
        rw [hr] at hm
        cases hm
  intro fuel
  induction fuel with
  | zero =>
    intro listed vals w hsz hl hC hc
    have hall := cnt_zero vals ops.size (by omega)
    refine ⟨?_, fin vals w hC hall⟩
    cases hr : Region.ready md ops listed with
    | nil => rfl
    | cons i r =>
      have hm : i ∈ Region.ready md ops listed := by rw [hr]; exact List.mem_cons_self ..
      rw [mem_ready] at hm
      obtain ⟨h0, o, ho, -⟩ := hm
      have hi : i < ops.size := (Array.getElem?_eq_some_iff.1 ho).1
      rw [hl i hi, hall i hi] at h0
      cases h0
  | succ fuel ih =>
    intro listed vals w hsz hl hC hc
    refine ⟨fun hr => fin vals w hC (hready listed vals hsz hl hr), fun i hm => ?_⟩
    rw [mem_ready] at hm
    obtain ⟨h0, o, ho, hdeps⟩ := hm
    have hi : i < ops.size := (Array.getElem?_eq_some_iff.1 ho).1
    have hnone : vals i = none := by
      rw [hl i hi] at h0
      cases hv : vals i with
      | none => rfl
      | some v => rw [hv] at h0; cases h0
    have hdo : dstOf ops i = o.dst := by simp [dstOf, ho]
    have hst := step i o ho vals (fill ops a0 vals ops.size) w hC hnone (fun e he hb => by
        have h1 := hdeps e he hb
        have hlt := hback i o ho e he hb
        have h2 := hl e.on (by omega)
        have h3 : e.on < listed.size := by omega
        have h4 : (vals e.on).isSome = true := by
          rw [← h2]
          simp only [Array.getD_eq_getD_getElem?, Array.getElem?_eq_getElem h3, Option.getD_some] at h1 ⊢
          exact h1
        cases hv : vals e.on with
        | none => rw [hv] at h4; cases h4
        | some v => exact ⟨v, rfl, fun d hde => fill_at ops a0 vals hd e.on d v hv hde (hin _ _ hde) ops.size (by omega)⟩)
      (fun d hnd => fill_other ops a0 vals d ops.size (fun j _ => hnd j))
    have hnext : ∀ (v : Value) (w' : World), C (upd vals i v) w' → wpAny P md ops Q fuel (listed.setIfInBounds i true) ((fill ops a0 vals ops.size).put o.dst v) w' := by
      intro v w' hC'
      rw [← hdo, ← fill_upd ops a0 vals hd i v hnone ops.size hi]
      refine ih _ (upd vals i v) w' (by simp [hsz]) (fun j hj => ?_) hC' (by have := cnt_upd vals i v hnone ops.size hi; omega)
      by_cases e : j = i
      · subst e
        simp [upd, hsz, hi]
      · rw [getD_set_ne true (Ne.symm e), hl j hj]
        simp [upd, e]
    unfold wpOp
    simp only [ho]
    split
    · rename_i hw
      rw [if_pos hw] at hst
      refine .inl ?_
      unfold Oper.wp
      generalize (execOp (fill ops a0 vals ops.size).eval o).run P w = r at hst
      cases r with
      | ok n w' =>
        cases n <;> simp only [goodRun3] at hst <;> simp only [Oper.upon]
        case value u => exact hnext _ _ hst
        case skip => exact hnext _ _ hst
        case enter f args => exact hst.mono fun e w'' ⟨v, he, h1⟩ => by subst he; exact hnext _ _ h1
      | halt x w' => simp only [goodRun3] at hst
    · rename_i hw
      rw [if_neg hw] at hst
      exact hnext _ _ hst

/-- A region that draws its order, by what is so as its values come up. -/
theorem region_spec3 {id : Nat} {w : World} (n : Nat) (hn : ops.size = n) (C : (Nat → Option Value) → World → Prop) (hm : P.follows .mixedOrders = true) (hB : regionB ops a0.tmps.size = true) (hC : C (fun _ => none) w.drew)
    (step : ∀ i o, ops[i]? = some o → StepOk3 P .any ops C a0 i o)
    (fin : ∀ (vals : Nat → Option Value) (w : World), C vals w → (∀ j, j < n → (vals j).isSome = true) → Q .normal (fill ops a0 vals n) w) :
    (Code.region id ops true).wp P Q a0 w := by
  subst hn
  unfold regionB at hB
  simp only [Bool.and_eq_true, List.all_eq_true, List.mem_range] at hB
  obtain ⟨⟨h1, h2⟩, h3⟩ := hB
  refine wp_region_any hm ?_
  have hnone : fill ops a0 (fun _ => none) ops.size = a0 := by
    have : ∀ k, fill ops a0 (fun _ => none) k = a0 := by
      intro k
      induction k with
      | zero => rfl
      | succ k ih => simp only [fill, ih]
    exact this _
  have key := wpAny_spec3 (P := P) (ops := ops) (Q := Q) (md := .any) (C := C) (a0 := a0)
    (fun i j d hne hi hj => by
      have h := h1 i (dstOf_lt hi) j (dstOf_lt hj)
      simp [hne, hi, hj] at h)
    (fun j d hj => by
      have h := h2 j (dstOf_lt hj)
      rw [hj] at h
      simpa using h)
    (fun i o ho e he hb => by
      have h := h3 i (Array.getElem?_eq_some_iff.1 ho).1
      rw [ho] at h
      have := List.all_eq_true.1 h e (by simpa using he)
      simpa [hb] using this)
    step fin ops.size (Array.replicate ops.size false) (fun _ => none) w.drew (by simp) (fun j hj => by simp [hj]) hC (by
      have : ∀ k, cnt (fun _ => none) k ≤ k := by
        intro k
        induction k with
        | zero => exact Nat.le_refl _
        | succ k ih => simp only [cnt]; split <;> omega
      exact this _)
  rw [hnone] at key
  exact key
/-- An operation without a guard. -/
theorem StepOk3.free {i : Nat} {o : Oper} (hg : o.guard = none)
    (hrun : ∀ (vals : Nat → Option Value) (a : Act) (w : World), C vals w → vals i = none → (∀ e, e ∈ o.after → Region.binds md e = true → ∃ v, vals e.on = some v ∧ ∀ d, dstOf ops e.on = some d → a.eval (.tmp d) = v) → (∀ d, (∀ j, dstOf ops j ≠ some d) → a.eval (.tmp d) = a0.eval (.tmp d)) → goodRun3 P C vals i ((execOp a.eval o).run P w)) :
    StepOk3 P md ops C a0 i o := by
  intro vals a w hC hi hdep hoth
  rw [if_pos (by unfold Region.wanted; rw [hg])]
  exact hrun vals a w hC hi hdep hoth
theorem goodRun3.val {i : Nat} {vals : Nat → Option Value} {w : World} {c : Value} {r : Result Next} (hr : r = .ok (.value c) w) (hC : C (upd vals i c) w) : goodRun3 P C vals i r := by
  subst hr; exact hC
theorem goodRun3.call {i : Nat} {vals : Nat → Option Value} {w : World} {f : FuncId} {args : Array Value} {r : Result Next} (hr : r = .ok (.enter f args) w)
    (hc : Calls P f args w fun e w'' => ∃ v, e = .returned v ∧ C (upd vals i v) w'') : goodRun3 P C vals i r := by
  subst hr; exact hc
theorem upd_same (vals : Nat → Option Value) (i : Nat) (v : Value) : upd vals i v i = some v := by simp [upd]
theorem upd_other (vals : Nat → Option Value) {i j : Nat} (v : Value) (h : j ≠ i) : upd vals i v j = vals j := by simp [upd, h]
theorem goodRun3.skip {P : Program} {C : (Nat → Option Value) → World → Prop} {i : Nat} {vals : Nat → Option Value} {w : World} {r : Result Next} (hr : r = .ok .skip w) (hC : C (upd vals i undef) w) : goodRun3 P C vals i r := by
  subst hr; exact hC
theorem neUpd {vals : Nat → Option Value} {i : Nat} {u : Value} {j : Nat} (h : vals j ≠ none) : upd vals i u j ≠ none := by
  by_cases e : j = i
  · subst e; rw [upd_same]; simp
  · rw [upd_other vals u e]; exact h
end
end Go.Proofs.YtdpdbfhbojgigacGreatDoor
