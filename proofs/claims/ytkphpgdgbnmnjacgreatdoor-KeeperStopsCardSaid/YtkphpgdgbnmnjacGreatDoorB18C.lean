/-
  Several texts as one: KpFit, KpMem, KpLoc, KpRing, KpMore, DcIdx.
-/
import Derived.Test.YtkphpgdgbnmnjacGreatDoorB17C
import Derived.Test.YtkphpgdgbnmnjacGreatDoorB02C
import Derived.Test.YtkphpgdgbnmnjacGreatDoorB07C
import Derived.Test.YtkphpgdgbnmnjacGreatDoorB03C
import Derived.Test.YtkphpgdgbnmnjacGreatDoorB11C
import Derived.Test.YtkphpgdgbnmnjacGreatDoorB01C
import Derived.BigQuiet
import Derived.Deep.QuietTactic
import Derived.Deep.DeepCutAuto
import Derived.WalkSmall
import Derived.Deep.RegionHeld3
namespace Go.Proofs.YtkphpgdgbnmnjacGreatDoor
open Go

/-- A right config, as far as it matters. -/
structure KRt (c : CfgD) : Prop where
  cl : 0 ≤ c.closed ∧ c.closed ≤ 1000
  op : 1 ≤ c.opn ∧ c.opn ≤ 1000
  cy : 1 ≤ c.cycle ∧ c.cycle ≤ 100
  de : 0 ≤ c.delay ∧ c.delay ≤ 20
  le : c.cycle ≤ c.opn
  nn : c.ents.length ≤ 8
  each : ∀ e ∈ c.ents, SmallE e ∧ e.cnt < (e.pts.length : Int) ∧ 0 ≤ e.tol ∧ WfE e.edges
theorem TFit.fin20 {s : TSt} (h : TFit s 20) (l : List ByteArray) : TFit (s.fin l) 20 := by
  have h' := h.fin l
  refine ⟨h'.d, ?_, h'.lt, h'.st, h'.z⟩
  have hd := h.d
  have h0 := h.s0
  have hl := h.lt
  unfold TSt.fin
  split
  · exact h0
  · split
    · rename_i h2
      have := hl h2
      unfold TSt.cut
      split <;> (show s.since + 1 ≤ 20; omega)
    · unfold TSt.cut
      split <;> exact Nat.zero_le _
section
variable {c : CfgD} {K : KSt} {k W : Nat}
theorem kindL_le (e : EntD) (l : List MkD) (cyc : Int) : 0 ≤ kindL e l cyc ∧ kindL e l cyc ≤ 3 := by
  unfold kindL
  split
  · decide
  · split
    · decide
    · split <;> decide
theorem kind_le (e : EntD) (s : LSt) : 0 ≤ s.kind e ∧ s.kind e ≤ 3 := by
  unfold LSt.kind
  split
  · exact kindL_le _ _ _
  · decide
theorem KSt.on_zero : K.on = 0 ↔ K.c.off = false ∧ K.d.reset = false := by
  unfold KSt.on
  cases K.c.off <;> cases K.d.reset <;> simp
theorem KFit.mono (h : KFit c K k W) {k' W' : Nat} (hk : k ≤ k') (hW : W ≤ W') : KFit c K k' W' :=
  ⟨h.big, h.left, Nat.le_trans h.wr hW, h.sp, h.llen, h.last, h.len, fun s hs => ⟨(h.each s hs).1.mono (by omega), Nat.le_trans (h.each s hs).2.1 hk, (h.each s hs).2.2⟩, h.tot, h.now, h.win⟩
theorem KFit.setL (h : KFit c K k W) {i : Nat} {s : LSt} (hs : LFit s (k + K.d.now) ∧ s.ms.length ≤ k ∧ ∀ m ∈ s.ms, 0 ≤ m.tick ∧ m.tick ≤ 1099511627776) : KFit c (K.setL i s) k W :=
  ⟨h.big, h.left, h.wr, h.sp, h.llen, h.last, by show (K.ls.set i s).length = _; rw [List.length_set]; exact h.len, fun x hx => by
    rcases List.mem_or_eq_of_mem_set hx with hx | rfl
    · exact h.each x hx
    · exact hs, h.tot, h.now, h.win⟩
theorem begin_ms (s : LSt) : s.begin.ms = s.ms ∨ s.begin.ms = [] := by unfold LSt.begin; split; exact Or.inl rfl; exact Or.inr rfl
theorem KFit.begin (h : KFit c K k W) (i : Int) : KFit c (K.begin i).1 (k + 1) W := by
  unfold KSt.begin
  split
  · exact h.mono (by omega) (Nat.le_refl _)
  · split
    · exact h.mono (by omega) (Nat.le_refl _)
    · split
      · exact h.mono (by omega) (Nat.le_refl _)
      · rename_i s hs
        obtain ⟨h1, h2, h3⟩ := h.each s (List.mem_of_getElem? hs)
        refine (h.mono (k' := k + 1) (by omega) (Nat.le_refl _)).setL ⟨h1.begin.mono (by omega), ?_, ?_⟩
        · rcases begin_ms s with e | e <;> rw [e]
          · omega
          · exact Nat.zero_le _
        · rcases begin_ms s with e | e <;> rw [e]
          · exact h3
          · intro m hm; cases hm
theorem KFit.stop (h : KFit c K k W) (i : Int) : KFit c (K.stop i).1 (k + 1) W := by
  unfold KSt.stop
  split
  · exact h.mono (by omega) (Nat.le_refl _)
  · split
    · exact h.mono (by omega) (Nat.le_refl _)
    · split
      · exact h.mono (by omega) (Nat.le_refl _)
      · rename_i s hs
        obtain ⟨h1, h2, h3⟩ := h.each s (List.mem_of_getElem? hs)
        exact (h.mono (k' := k + 1) (by omega) (Nat.le_refl _)).setL ⟨h1.stop.mono (by omega), Nat.le_succ_of_le h2, h3⟩
theorem KFit.report (h : KFit c K k W) (i p : Int) : KFit c (K.report c i p).1 (k + 1) W := by
  unfold KSt.report
  split
  · exact h.mono (by omega) (Nat.le_refl _)
  · split
    · exact h.mono (by omega) (Nat.le_refl _)
    · split
      · exact h.mono (by omega) (Nat.le_refl _)
      · rename_i s hs
        obtain ⟨h1, h2, h3⟩ := h.each s (List.mem_of_getElem? hs)
        refine (h.mono (k' := k + 1) (by omega) (Nat.le_refl _)).setL ⟨(h1.rep p _).mono (by omega), ?_, ?_⟩
        · unfold LSt.rep
          split
          · show (s.ms ++ _).length ≤ _
            rw [List.length_append, List.length_singleton]; omega
          · omega
        · unfold LSt.rep
          split
          · intro m hm
            have hm' : m ∈ s.ms ++ [⟨p, (K.d.now : Int), s.since⟩] := hm
            rcases List.mem_append.1 hm' with hm' | hm'
            · exact h3 m hm'
            · rw [List.mem_singleton] at hm'; subst hm'
              have := h.now
              exact ⟨Int.natCast_nonneg _, by show (K.d.now : Int) ≤ _; omega⟩
          · exact h3
theorem KFit.cut (h : KFit c K k W) (n : Int) (hn : n ≤ 9223372036854775807) : KFit c (K.cut n).1 k W := by
  unfold KSt.cut
  split
  · exact h
  · split
    · exact h
    · exact ⟨⟨h.big.len, h.big.size, h.big.top⟩, by show n.toNat ≤ _; omega, h.wr, h.sp, h.llen, h.last, h.len, h.each, h.tot, h.now, h.win⟩
theorem KFit.app (h : KFit c K k W) (ho : K.c.off = false) (e kd t : Nat) : KFit c (K.app e kd t).1 k (W + 18) ∧ ((K.app e kd t).2 = 0 → (K.app e kd t).1.c.off = false ∧ (K.app e kd t).1.sp = false) ∧ (K.app e kd t).1.d = K.d ∧ (K.app e kd t).1.ls = K.ls ∧ (K.app e kd t).1.t = K.t := by
  have hsp : K.sp = false := by
    cases e : K.sp with
    | false => rfl
    | true => rw [h.sp e] at ho; cases ho
  have hB := (putRec_big h.big ho (nextR K.L e kd t))
  unfold KSt.app
  rw [if_neg (by rw [hsp]; simp)]
  split
  · exact ⟨h.mono (Nat.le_refl _) (by omega), fun e => (by cases e), rfl, rfl, rfl⟩
  · rename_i hq
    have hlast := h.last
    split
    · rename_i h0
      refine ⟨⟨hB.1, putRec_left _ h.left, Nat.le_trans (putRec_written _ _) (by have := h.wr; omega), fun e => ?_, keepL_len _ h.llen, ?_, h.len, h.each, h.tot, h.now, h.win⟩, fun _ => ⟨hB.2 h0, hsp⟩, rfl, rfl, rfl⟩
      · rw [show K.sp = true from e] at hsp; cases hsp
      · show (lastR (keepL K.L _)).seq ≤ _
        rw [keepL_last]
        show (lastR K.L).seq + 1 ≤ _
        omega
    · rename_i h0
      refine ⟨⟨hB.1, putRec_left _ h.left, Nat.le_trans (putRec_written _ _) (by have := h.wr; omega), fun _ => ?_, h.llen, h.last, h.len, h.each, h.tot, h.now, h.win⟩, fun e => absurd e h0, rfl, rfl, rfl⟩
      rcases putRec_code h.big ho (nextR K.L e kd t) with e8 | e8
      · exact absurd e8 h0
      · exact putRec_off e8
theorem KFit.finL (h : KFit c K k W) {i : Nat} {s : LSt} (hs : K.ls[i]? = some s) (h4 : LFit s (k + K.d.now - 1)) (h5 : 1 ≤ K.d.now) (e : EntD) : KFit c (K.setL i (s.fin e)) k W := by
  obtain ⟨h1, h2, h3⟩ := h.each s (List.mem_of_getElem? hs)
  have hms : (s.fin e).ms = s.ms := by unfold LSt.fin; split <;> rfl
  exact h.setL ⟨h4.fin.mono (by omega), by rw [hms]; exact h2, by rw [hms]; exact h3⟩
/-- Entities that have ended their cycle fit into one tick more. -/
theorem KFit.endOne (h : KFit c K k W) (ho : K.c.off = false) (i : Nat) (hi : ∀ s, K.ls[i]? = some s → LFit s (k + K.d.now - 1) ∧ 1 ≤ K.d.now) : KFit c (K.endOne c i).1 k (W + 18) ∧ ((K.endOne c i).2 = 0 → (K.endOne c i).1.c.off = false ∧ (K.endOne c i).1.sp = false) ∧ (K.endOne c i).1.d = K.d ∧ (K.endOne c i).1.t = K.t ∧ ∀ j, j ≠ i → (K.endOne c i).1.ls[j]? = K.ls[j]? := by
  have hsp : K.sp = false := by
    cases e : K.sp with
    | false => rfl
    | true => rw [h.sp e] at ho; cases ho
  unfold KSt.endOne
  split
  · exact ⟨h.mono (Nat.le_refl _) (by omega), fun _ => ⟨ho, hsp⟩, rfl, rfl, fun _ _ => rfl⟩
  · rename_i s hs
    obtain ⟨h1, h2, h3⟩ := h.each s (List.mem_of_getElem? hs)
    obtain ⟨h4, h5⟩ := hi s hs
    have hms : (s.fin (c.ents.getD i noEnt)).ms = s.ms := by unfold LSt.fin; split <;> rfl
    have h' : KFit c (K.setL i (s.fin (c.ents.getD i noEnt))) k W := h.setL ⟨h4.fin.mono (by omega), by rw [hms]; exact h2, by rw [hms]; exact h3⟩
    have hj : ∀ j, j ≠ i → (K.setL i (s.fin (c.ents.getD i noEnt))).ls[j]? = K.ls[j]? := fun j hj => by
      show (K.ls.set i _)[j]? = _
      rw [List.getElem?_set_ne (fun e => hj e.symm)]
    split
    · obtain ⟨a1, a2, a3, a4, a5⟩ := h'.app ho i (s.kind (c.ents.getD i noEnt)).toNat K.d.now
      exact ⟨a1, a2, a3, a5, fun j hj' => by rw [a4]; exact hj j hj'⟩
    · exact ⟨h'.mono (Nat.le_refl _) (by omega), fun _ => ⟨ho, hsp⟩, rfl, rfl, hj⟩
theorem KFit.ends (h : KFit c K k W) (ho : K.c.off = false) (hi : ∀ s ∈ K.ls, LFit s (k + K.d.now - 1)) (h1 : 1 ≤ K.d.now) : ∀ n, KFit c (K.ends c n).1 k (W + 18 * n) ∧ ((K.ends c n).2 = 0 → (K.ends c n).1.c.off = false ∧ (K.ends c n).1.sp = false) ∧ (K.ends c n).1.d = K.d ∧ (K.ends c n).1.t = K.t ∧ ∀ j, n ≤ j → (K.ends c n).1.ls[j]? = K.ls[j]?
  | 0 => ⟨h, fun _ => ⟨ho, by
      cases e : K.sp with
      | false => exact e
      | true => rw [h.sp e] at ho; cases ho⟩, rfl, rfl, fun _ _ => rfl⟩
  | n + 1 => by
    obtain ⟨a1, a2, a3, a4, a5⟩ := KFit.ends h ho hi h1 n
    unfold KSt.ends
    split
    · rename_i h0
      obtain ⟨b1, b2, b3, b4, b5⟩ := a1.endOne (a2 h0).1 n (fun s hs => by
        rw [a5 n (Nat.le_refl _)] at hs
        rw [a3]
        exact ⟨hi s (List.mem_of_getElem? hs), h1⟩)
      exact ⟨b1.mono (Nat.le_refl _) (by omega), b2, b3.trans a3, b4.trans a4, fun j hj => (b5 j (by omega)).trans (a5 j (by omega))⟩
    · rename_i h0
      exact ⟨a1.mono (Nat.le_refl _) (by omega), fun e => absurd e h0, a3, a4, fun j hj => a5 j (by omega)⟩
theorem KFit.ticked (h : KFit c K k W) (hn : K.d.now < 1099511627776) : KFit c K.ticked k W ∧ (∀ s ∈ K.ticked.ls, LFit s (k + K.ticked.d.now - 1)) ∧ 1 ≤ K.ticked.d.now :=
  ⟨⟨h.big, h.left, h.wr, h.sp, h.llen, h.last, h.len, fun s hs => ⟨(h.each s hs).1.mono (by show _ ≤ k + (K.d.now + 1); omega), (h.each s hs).2⟩, h.tot, hn, ⟨h.win.1, h.win.2.1, h.win.2.2.1, by have := h.win.2.2.2; show K.d.begun ≤ K.d.now + 1; omega⟩⟩, fun s hs => (h.each s hs).1.mono (by show _ ≤ k + (K.d.now + 1) - 1; omega), by show 1 ≤ K.d.now + 1; omega⟩
theorem KFit.last' (h : KFit c K k W) : KFit c K.last k W := by
  have hw := h.win
  have h1 : KFit c { K with t := K.t.fin (K.ls.map fun s => statB s.status) } k W := ⟨h.big, h.left, h.wr, h.sp, h.llen, h.last, h.len, h.each, h.tot.fin20 _, h.now, h.win⟩
  unfold KSt.last
  simp only []
  split
  · rename_i hc
    refine ⟨h1.big, h1.left, h1.wr, h1.sp, h1.llen, h1.last, h1.len, h1.each, h1.tot, h1.now, ⟨hw.1, hw.2.1, ?_, Nat.le_refl _⟩⟩
    show K.d.kicks + 1 ≤ K.d.now
    have ho := hc.2
    unfold DSt.isOpen at ho
    simp only [Bool.and_eq_true, decide_eq_true_eq] at ho
    omega
  · exact h1
theorem last_now : K.last.d.now = K.d.now := by unfold KSt.last; simp only []; split <;> rfl
theorem KFit.tick (hr : KRt c) (h : KFit c K k (144 * K.d.now)) (hn : K.d.now < 1099511627776) : KFit c (K.tick c).1 k (144 * (K.tick c).1.d.now) := by
  unfold KSt.tick
  split
  · exact h
  · rename_i hon
    have hon' : K.on = 0 := by omega
    obtain ⟨ho, -⟩ := KSt.on_zero.1 hon'
    obtain ⟨t1, t2, t3⟩ := h.ticked hn
    have hW : 144 * K.ticked.d.now = 144 * K.d.now + 144 := by show 144 * (K.d.now + 1) = _; omega
    split
    · rw [hW]; exact t1.mono (Nat.le_refl _) (by omega)
    · split
      · rw [hW]; exact t1.mono (Nat.le_refl _) (by omega)
      · obtain ⟨a1, -, a3, -⟩ := t1.ends ho t2 t3 c.ents.length
        have hnn := hr.nn
        split
        · show KFit c (K.ticked.ends c c.ents.length).1.last k (144 * (K.ticked.ends c c.ents.length).1.last.d.now)
          rw [last_now, a3, hW]
          exact (a1.mono (Nat.le_refl _) (by omega)).last'
        · rw [a3, hW]
          exact a1.mono (Nat.le_refl _) (by omega)
theorem KFit.opened (hr : KRt c) (h : Big K.c) (h0 : K.c.left ≤ 9223372036854775807) (hw : K.c.written ≤ W) (hn : K.d.now ≤ 1099511627776) (hd : K.d.closed ≤ 1000 ∧ K.d.opn ≤ 1000 ∧ K.d.kicks ≤ K.d.begun ∧ K.d.begun ≤ K.d.now) : KFit c (KSt.opened c K) k W := by
  have hde := hr.de
  have e1 := openL_eight (K.c.bytes.take K.c.size)
  have e2 := openL_last (K.c.bytes.take K.c.size)
  unfold KSt.opened
  revert e1 e2
  generalize openL (K.c.bytes.take K.c.size) = X
  intro e1 e2
  refine ⟨h, h0, hw, fun e => (by cases e), e1, e2, by simp, fun s hs => ?_, ?_, hn, hd⟩
  · have : s = LSt.new := by
      simp only [List.mem_map] at hs
      obtain ⟨_, _, rfl⟩ := hs
      rfl
    subst this
    exact ⟨LFit.new.mono (Nat.zero_le _), Nat.zero_le _, fun m hm => (by cases hm)⟩
  · have := TFit.new (d := c.delay.toNat) (by omega)
    exact ⟨this.d, Nat.zero_le _, this.lt, this.st, this.z⟩
theorem KFit.new (hr : KRt c) {s : CSt} (h : Big s) (h0 : s.left ≤ 9223372036854775807) (hw : s.written = 0) : KFit c (KSt.new c s) 0 0 := by
  have h1 := hr.cl
  have h2 := hr.op
  exact KFit.opened hr h h0 (by show s.written ≤ 0; omega) (Nat.zero_le _) ⟨by show c.closed.toNat ≤ 1000; omega, by show c.opn.toNat ≤ 1000; omega, Nat.le_refl _, Nat.le_refl _⟩
theorem KFit.boot (hr : KRt c) (h : KFit c K k W) : KFit c (K.boot c).1 k W := by
  unfold KSt.boot
  split
  · exact h
  · exact KFit.opened hr ⟨h.big.len, h.big.size, h.big.top⟩ (Nat.zero_le _) h.wr h.now ⟨h.win.1, h.win.2.1, Nat.le_trans h.win.2.2.1 h.win.2.2.2, Nat.le_refl _⟩
theorem boot_now : (K.boot c).1.d.now = K.d.now := by unfold KSt.boot; split <;> rfl
theorem begin_now (i : Int) : (K.begin i).1.d = K.d := by unfold KSt.begin; split; rfl; split; rfl; split <;> rfl
theorem stop_now (i : Int) : (K.stop i).1.d = K.d := by unfold KSt.stop; split; rfl; split; rfl; split <;> rfl
theorem report_now (i p : Int) : (K.report c i p).1.d = K.d := by unfold KSt.report; split; rfl; split; rfl; split <;> rfl
theorem cut_now (n : Int) : (K.cut n).1.d = K.d := by unfold KSt.cut; split; rfl; split <;> rfl
end
end Go.Proofs.YtkphpgdgbnmnjacGreatDoor

namespace Go.Proofs.YtkphpgdgbnmnjacGreatDoor
open Go.RowKit Go.Extern.Stop Go.Stop Go.Extern

/-- With what is new. -/
def gr (F : Nat → Prop) (w w' : World) : Nat → Prop := fun k => F k ∨ (w.heap.size ≤ k ∧ k < w'.heap.size)
structure Fam (H : Nat → Nat → Prop) (B : Nat) (w : World) : Prop where
  lo : ∀ i k, H i k → B ≤ k
  lt : ∀ i k, H i k → k < w.heap.size
  dis : ∀ i j k, H i k → H j k → i = j
def updH (H : Nat → Nat → Prop) (i : Nat) (w w' : World) : Nat → Nat → Prop := fun j k => H j k ∨ (j = i ∧ w.heap.size ≤ k ∧ k < w'.heap.size)
section
variable {H : Nat → Nat → Prop} {B : Nat} {w w' w'' : World} {F : Nat → Prop}
theorem Fam.upd (h : Fam H B w) (hs : w.heap.size ≤ w'.heap.size) (hB : B ≤ w.heap.size) (i : Nat) : Fam (updH H i w w') B w' := by
  refine ⟨fun j k hk => ?_, fun j k hk => ?_, fun j j' k hk hk' => ?_⟩
  · rcases hk with hk | ⟨_, hk, _⟩
    · exact h.lo j k hk
    · exact Nat.le_trans hB hk
  · rcases hk with hk | ⟨_, _, hk⟩
    · exact Nat.lt_of_lt_of_le (h.lt j k hk) hs
    · exact hk
  · rcases hk with hk | ⟨e, hk, _⟩ <;> rcases hk' with hk' | ⟨e', hk', _⟩
    · exact h.dis j j' k hk hk'
    · have := h.lt j k hk; omega
    · have := h.lt j' k hk'; omega
    · rw [e, e']
theorem Fam.grow (h : Fam H B w) (hs : w.heap.size ≤ w'.heap.size) : Fam H B w' := ⟨h.lo, fun i k hk => Nat.lt_of_lt_of_le (h.lt i k hk) hs, h.dis⟩
/-- What is another's stays. -/
theorem Fam.keep (h : Fam H B w) {i j : Nat} (hne : j ≠ i) (ho : Off (H i) w w') : ∀ k, H j k → w'.heap[k]? = w.heap[k]? := fun k hk => ho.block k (h.lt j k hk) (fun hi => hne (h.dis j i k hk hi))
theorem Fam.not (h : Fam H B w) {i j : Nat} (hne : j ≠ i) {k : Nat} (hk : H j k) : ¬ H i k := fun hi => hne (h.dis j i k hk hi)
theorem updH_all (hF : ∀ i k, H i k → F k) (i : Nat) : ∀ j k, updH H i w w' j k → gr F w w' k := fun j k hk => by
  rcases hk with hk | ⟨_, h1, h2⟩
  · exact Or.inl (hF j k hk)
  · exact Or.inr ⟨h1, h2⟩
theorem Off.all (hF : ∀ i k, H i k → F k) {i : Nat} (h : Off (H i) w w') : Off F w w' := h.mono (fun k _ hk => hF i k hk)
/-- One step behind another, of one owner. -/
theorem Off.gr (h : Off F w w') (h' : Off (gr F w w') w' w'') : Off F w w'' := h.trans h' (fun k hk hg => by
  rcases hg with hg | ⟨h1, _⟩
  · exact hg
  · omega)
theorem gr_gr {k : Nat} (h1 : w.heap.size ≤ w'.heap.size) (h2 : w'.heap.size ≤ w''.heap.size) (hk : gr (gr F w w') w' w'' k) : gr F w w'' k := by
  rcases hk with (hk | ⟨a, b⟩) | ⟨a, b⟩
  · exact Or.inl hk
  · exact Or.inr ⟨a, by omega⟩
  · exact Or.inr ⟨by omega, b⟩
theorem ow_same {B k n : Nat} {T : TypeId} {v : Value} {xs : List Value} (h : w.ownsRow B T k v n xs) (hs : ∀ g, v.ownBlock = some g → w'.heap[g]? = w.heap[g]?) : w'.ownsRow B T k v n xs := by
  refine ⟨h.1, ?_⟩
  rcases h.2 with hn | ⟨g, cap, cur, rfl, hb, hgg, rest⟩
  · exact .inl hn
  · exact .inr ⟨g, cap, cur, rfl, hb, (hs g rfl).trans hgg, rest⟩
end
end Go.Proofs.YtkphpgdgbnmnjacGreatDoor

namespace Go.Proofs.YtkphpgdgbnmnjacGreatDoor
open Go.RowKit Go.Extern.Stop Go.Stop Go.Extern

section
variable {A : Nat → Addr} {F F' : Nat → Prop} {w w' : World} {b : Nat} {e : EntD} {s : LSt}
def SimS (e : EntD) : Option NSt → LSt → Prop
  | none, s => s.act = false
  | some n, s => NSim e n s
structure LoS (F : Nat → Prop) (w : World) (b : Nat) (e : EntD) (s : LSt) : Prop where
  ex : ∃ E so, LoAt F w b e E so ∧ SimS e so s
  lt : ∀ k, F k → k < w.heap.size
theorem LoS.same (h : LoS F w b e s) (hs : ∀ k, F k → w'.heap[k]? = w.heap[k]?) (hz : w.heap.size ≤ w'.heap.size) : LoS F w' b e s := by
  obtain ⟨E, so, h1, h2⟩ := h.ex
  exact ⟨⟨E, so, h1.same hs, h2⟩, fun k hk => Nat.lt_of_lt_of_le (h.lt k hk) hz⟩
theorem LoS.fb (h : LoS F w b e s) : F b := by obtain ⟨E, so, h1, -⟩ := h.ex; exact h1.fb
theorem LoS.to {E : EA} {so : Option NSt} (h : LoAt (fun k => F k ∨ w.heap.size ≤ k) w' b e E so) (hs : SimS e so s) (hl : ∀ k, F k → k < w.heap.size) (hz : w.heap.size ≤ w'.heap.size) : LoS (gr F w w') w' b e s :=
  ⟨⟨E, so, h.mono (fun k hk hf => hf.imp id (fun a => ⟨a, hk⟩)), hs⟩, fun k hk => by
    rcases hk with hk | ⟨_, hk⟩
    · exact Nat.lt_of_lt_of_le (hl k hk) hz
    · exact hk⟩
theorem LoS.to' {E : EA} {so : Option NSt} (h : LoAt F w' b e E so) (hs : SimS e so s) (hl : ∀ k, F k → k < w.heap.size) (hz : w.heap.size ≤ w'.heap.size) : LoS (gr F w w') w' b e s := LoS.to (h.mono (fun _ _ h => Or.inl h)) hs hl hz
theorem los_begin (h : LoS F w b e s) (hx : w.cell? ⟨0, 0, none⟩ = some (errVal A 10)) (hS : SmallE e) (hW : WfE e.edges) :
    Calls Tryz.prog 46 #[.pointer (some ⟨b, 0, none⟩)] w fun v w' => v = .returned (errVal A s.begN) ∧ LoS (gr F w w') w' b e s.begin ∧ Off F w w' := by
  obtain ⟨E, so, h1, h2⟩ := h.ex
  cases so with
  | none =>
    have ha : s.act = false := h2
    refine (lo_begin h1 hS hW).mono ?_
    rintro v w' ⟨rfl, h3, h4⟩
    exact ⟨by unfold LSt.begN; rw [ha]; rfl, LoS.to h3 (NSim.new e s ha) h.lt h4.off.size, h4.off⟩
  | some n =>
    have ha : s.act = true := NSim.act h2
    refine (lo_held _ h1 hx).mono ?_
    rintro v w' ⟨rfl, rfl⟩
    have hb : s.begin = s := by unfold LSt.begin; rw [ha]; rfl
    rw [hb]
    exact ⟨by unfold LSt.begN; rw [ha]; rfl, LoS.to' h1 h2 h.lt (Nat.le_refl _), Off.refl _ _⟩
theorem los_stop (h : LoS F w b e s) (hx : w.cell? ⟨4, 0, none⟩ = some (errVal A 9)) :
    Calls Tryz.prog 47 #[.pointer (some ⟨b, 0, none⟩)] w fun v w' => v = .returned (errVal A s.stopN) ∧ LoS (gr F w w') w' b e s.stop ∧ Off F w w' := by
  obtain ⟨E, so, h1, h2⟩ := h.ex
  cases so with
  | none =>
    have ha : s.act = false := h2
    refine (lo_stop_idle _ h1 hx).mono ?_
    rintro v w' ⟨rfl, rfl⟩
    exact ⟨by unfold LSt.stopN; rw [ha]; rfl, LoS.to' h1 (show s.stop.act = false from rfl) h.lt (Nat.le_refl _), Off.refl _ _⟩
  | some n =>
    have ha : s.act = true := NSim.act h2
    refine (lo_stop h1).mono ?_
    rintro v w' ⟨rfl, h3, h4⟩
    exact ⟨by unfold LSt.stopN; rw [ha]; rfl, LoS.to' h3 (show s.stop.act = false from rfl) h.lt h4.off.size, h4.off⟩
theorem los_report (p t : Int) (h : LoS F w b e s) (hx : w.cell? ⟨4, 0, none⟩ = some (errVal A 9)) (hy : w.cell? ⟨5, 0, none⟩ = some (errVal A 5)) (hS : SmallE e) (hn : s.ms.length < 1000) (ht : 0 ≤ t ∧ t ≤ 1099511627776) :
    Calls Tryz.prog 48 #[.pointer (some ⟨b, 0, none⟩), .int .i64 p, .int .i64 t] w fun v w' => v = .returned (errVal A (s.repN e p)) ∧ LoS (gr F w w') w' b e (s.rep e p t) ∧ Off F w w' := by
  obtain ⟨E, so, h1, h2⟩ := h.ex
  cases so with
  | none =>
    have ha : s.act = false := h2
    refine (lo_report_idle _ p t h1 hx).mono ?_
    rintro v w' ⟨rfl, rfl⟩
    have hb : s.rep e p t = s := by unfold LSt.rep; rw [if_neg (fun x => by rw [ha] at x; cases x.1)]
    rw [hb]
    exact ⟨by unfold LSt.repN; rw [ha]; rfl, LoS.to' h1 h2 h.lt (Nat.le_refl _), Off.refl _ _⟩
  | some n =>
    have ha : s.act = true := NSim.act h2
    cases hp : hasP e p
    · refine (lo_report_none _ p t h1 hp hy).mono ?_
      rintro v w' ⟨rfl, rfl⟩
      have hb : s.rep e p t = s := by unfold LSt.rep; rw [if_neg (fun x => by rw [hp] at x; cases x.2)]
      rw [hb]
      exact ⟨by unfold LSt.repN; rw [ha, hp]; rfl, LoS.to' h1 h2 h.lt (Nat.le_refl _), Off.refl _ _⟩
    · refine (lo_report p t h1 hp hS).mono ?_
      rintro v w' ⟨rfl, h3, h4⟩
      exact ⟨by unfold LSt.repN; rw [ha, hp]; rfl, LoS.to' h3 (NSim.rep h2 p t hn (by unfold tickOk; rw [decide_eq_true ht.1, decide_eq_true ht.2]; rfl)) h.lt h4.off.size, h4.off⟩
theorem los_end (h : LoS F w b e s) (hc : e.cnt < (e.pts.length : Int)) (ht : 0 ≤ e.tol) (hF : LFit s 900000) :
    Calls Tryz.prog 117 #[.pointer (some ⟨b, 0, none⟩)] w fun v w' => v = .returned (.tuple #[.int .i64 (s.kind e), .bool (s.turns e)]) ∧ LoS (gr F w w') w' b e (s.fin e) ∧ Off F w w' := by
  obtain ⟨E, so, h1, h2⟩ := h.ex
  cases so with
  | none =>
    have ha : s.act = false := h2
    refine (lo_end_idle h1).mono ?_
    rintro v w' ⟨rfl, rfl⟩
    have hb : s.fin e = s := by unfold LSt.fin; rw [ha]; rfl
    rw [hb]
    exact ⟨by unfold LSt.kind LSt.turns; rw [ha]; rfl, LoS.to' h1 h2 h.lt (Nat.le_refl _), Off.refl _ _⟩
  | some n =>
    have h2' : NSim e n s := h2
    refine (lo_end h1 (by have := h2'.run; have := hF.r1; have := hF.s1; omega)).mono ?_
    rintro v w' ⟨rfl, h3, h4⟩
    exact ⟨by rw [h2'.kind hc, h2'.turns hc ht], LoS.to' h3 (h2'.fin hc ht hF.each hF.s0) h.lt h4.off.size, h4.off⟩
theorem stWord_statB : ∀ n, n ≤ 3 → stWord n = statB n
  | 0, _ => rfl
  | 1, _ => rfl
  | 2, _ => rfl
  | 3, _ => rfl
  | n + 4, h => by omega
theorem los_status (h : LoS F w b e s) :
    Calls Tryz.prog 86 #[.pointer (some ⟨b, 0, none⟩)] w fun v w' => v = .returned (.string (statB s.status)) ∧ w' = w := by
  obtain ⟨E, so, h1, h2⟩ := h.ex
  cases so with
  | none =>
    have ha : s.act = false := h2
    refine (lo_status_idle h1).mono ?_
    rintro v w' ⟨rfl, rfl⟩
    exact ⟨by unfold LSt.status; rw [ha]; rfl, rfl⟩
  | some n =>
    have h2' : NSim e n s := h2
    refine (lo_status h1).mono ?_
    rintro v w' ⟨rfl, rfl⟩
    have hn : n.status ≤ 3 := by unfold NSt.status; split; omega; split <;> omega
    exact ⟨by rw [stWord_statB _ hn, h2'.status], rfl⟩
theorem los_new (w : World) (e : EntD) (E : EA) (hP : PartsE w e E) (hS : SmallE e) :
    Calls Tryz.prog 64 #[.agg #[.string e.name, .int .i64 e.tol, .slice E.pa e.pts.length E.pc, .int .i64 e.cnt, .int .i64 e.mn, .int .i64 e.mx, .slice E.ga e.gaps.length E.gc, .slice E.ea e.edges.length E.ec, .slice E.fa e.first.length E.fc, .slice E.la e.last.length E.lc]] w fun v w' => ∃ b, v = .returned (.pointer (some ⟨b, 0, none⟩)) ∧ LoS (fun k => w.heap.size ≤ k ∧ k < w'.heap.size) w' b e LSt.new ∧ Below w.heap.size w w' := by
  refine (lo_new w e E hP hS).mono ?_
  rintro v w' ⟨⟨b, E', rfl, h1⟩, hb⟩
  exact ⟨b, rfl, ⟨⟨E', none, h1.mono (fun k hk h => ⟨h, hk⟩), rfl⟩, fun k hk => hk.2⟩, hb⟩
end
end Go.Proofs.YtkphpgdgbnmnjacGreatDoor

namespace Go.Proofs.YtkphpgdgbnmnjacGreatDoor
open Go.RowKit Go.Extern.Stop Go.Stop Go.Extern

section
variable {A : Nat → Addr} {F F' : Nat → Prop} {w w' : World} {B rb bc : Nat} {s : CSt} {L : List Rec} {sp : Bool} {c : CfgD} {K : KSt} {k W : Nat}
structure RgS (F : Nat → Prop) (B : Nat) (w : World) (rb bc : Nat) (s : CSt) (L : List Rec) (sp : Bool) : Prop where
  ring : ∃ v, RingAt w B rb bc v L sp ∧ ∀ k, v.ownBlock = some k → F k
  cells : CellsAt w bc s
  fr : F rb
  fc : F bc
  ne : rb ≠ bc
  lt : ∀ k, F k → k < w.heap.size
theorem RgS.off {S : Nat → Prop} (h : RgS F B w rb bc s L sp) (ho : Off S w w') (hS : ∀ k, F k → ¬ S k) : RgS F B w' rb bc s L sp := by
  obtain ⟨v, h1, h2⟩ := h.ring
  exact ⟨⟨v, h1.off ho (hS rb h.fr) (fun g hg => hS g (h2 g hg)), h2⟩, h.cells.off ho (hS bc h.fc), h.fr, h.fc, h.ne, fun k hk => Nat.lt_of_lt_of_le (h.lt k hk) ho.size⟩
theorem RgS.to {v v' : Value} {s' : CSt} {L' : List Rec} {sp' : Bool} (h : RgS F B w rb bc s L sp) (hv : ∀ k, v.ownBlock = some k → F k) (h1 : RingAt w' B rb bc v' L' sp') (hn : ∀ k, v'.ownBlock = some k → v.ownBlock = some k ∨ w.heap.size ≤ k) (h2 : CellsAt w' bc s') (hz : w.heap.size ≤ w'.heap.size) : RgS (gr F w w') B w' rb bc s' L' sp' :=
  ⟨⟨v', h1, fun k hk => (hn k hk).elim (fun a => Or.inl (hv k a)) (fun a => Or.inr ⟨a, (h1.recs.lt k hk).2⟩)⟩, h2, Or.inl h.fr, Or.inl h.fc, h.ne, fun k hk => by
    rcases hk with hk | ⟨_, hk⟩
    · exact Nat.lt_of_lt_of_le (h.lt k hk) hz
    · exact hk⟩
/-- The cells alone have turned. -/
theorem RgS.toCells {s' : CSt} (h : RgS F B w rb bc s L sp) (h2 : CellsAt w' bc s') (hg : w.grownBy w' (some bc)) : RgS (gr F w w') B w' rb bc s' L sp ∧ Off F w w' := by
  obtain ⟨v, h1, h3⟩ := h.ring
  have ho := Off.of_grown hg
  exact ⟨h.to h3 (h1.off ho h.ne (fun g hg e => h1.sep.2 (by rw [hg, e]))) (fun k hk => Or.inl hk) h2 hg.size, ho.mono (fun k _ e => by rw [e]; exact h.fc)⟩
theorem rgs_app (h : RgS F B w rb bc K.c K.L K.sp) (hf : KFit c K k W) (hW : W + 18 ≤ 1099511627776) (ho : K.c.off = false) (hs : Sen4 A w) (hgm : 11 ≤ bc) (i kd t : Nat) (h1 : i ≤ 255) (h2 : kd ≤ 255) (h3 : t ≤ 281474976710655) :
    Calls Tryz.prog 118 #[.pointer (some ⟨rb, 0, none⟩), .int .i64 (i : Int), .int .i64 (kd : Int), .int .i64 (t : Int)] w fun e w' => ∃ r : Rec, e = .returned (.tuple #[r.val, errVal A (K.app i kd t).2]) ∧ RgS (gr F w w') B w' rb bc (K.app i kd t).1.c (K.app i kd t).1.L (K.app i kd t).1.sp ∧ Off F w w' := by
  have hsp : K.sp = false := by
    cases e : K.sp with
    | false => rfl
    | true => rw [hf.sp e] at ho; cases ho
  obtain ⟨v, hr, hv⟩ := h.ring
  rw [hsp] at hr
  have hS : ∀ V, Off (fun k => k = bc ∨ k = rb ∨ v.ownBlock = some k) w V → Off F w V := fun V hV => hV.mono (fun k _ hk => by
    rcases hk with rfl | rfl | hk
    · exact h.fc
    · exact h.fr
    · exact hv k hk)
  have hlast := hf.last
  by_cases hq : (lastR K.L).seq = 4294967295
  · have hB : K.app i kd t = (K, 7) := by unfold KSt.app; rw [if_neg (by rw [hsp]; simp), if_pos hq]
    rw [hB]
    refine (append_full A B rb bc v K.L i kd t w hr hs hf.llen (decide_eq_true (by omega)) (decide_eq_true (by omega)) (decide_eq_true (by omega)) hq).mono ?_
    rintro e w' ⟨rfl, hb⟩
    refine ⟨.none, rfl, ?_, Off.of_below hb F⟩
    show RgS (gr F w w') B w' rb bc K.c K.L K.sp
    rw [hsp]
    exact h.to hv (hr.below hb) (fun k hk => Or.inl hk) (h.cells.below hb) hb.size
  · refine (append_go A B rb bc v K.L K.c i kd t w hr h.cells hs hgm h.ne ⟨by have := hf.wr; omega, hf.left⟩ hf.llen h1 h2 h3 (by omega)).mono ?_
    rintro e w' (⟨j, hj, rfl, hri, hc, hof⟩ | ⟨h0, rfl, ⟨v', hri, hv'⟩, hc, hof⟩)
    · have hB : K.app i kd t = ({ K with c := (K.c.putRec (nextR K.L i kd t)).1, sp := true }, j + 1) := by unfold KSt.app; rw [if_neg (by rw [hsp]; simp), if_neg hq, if_neg (by omega), hj]
      rw [hB]
      exact ⟨.none, rfl, h.to hv hri (fun k hk => Or.inl hk) hc hof.size, hS w' hof⟩
    · have hB : K.app i kd t = ({ K with c := (K.c.putRec (nextR K.L i kd t)).1, L := keepL K.L (nextR K.L i kd t) }, 0) := by unfold KSt.app; rw [if_neg (by rw [hsp]; simp), if_neg hq, if_pos h0]
      rw [hB]
      refine ⟨_, rfl, ?_, hS w' hof⟩
      show RgS (gr F w w') B w' rb bc _ _ K.sp
      rw [hsp]
      exact h.to hv hri hv' hc hof.size
theorem rgs_cut (h : RgS F B w rb bc K.c K.L K.sp) (hs : Sen4 A w) (n : Int) :
    Calls Tryz.prog 28 #[.pointer (some ⟨bc, 0, none⟩), .int .i64 n] w fun e w' => e = .returned (errVal A (K.cut n).2) ∧ RgS (gr F w w') B w' rb bc (K.cut n).1.c (K.cut n).1.L (K.cut n).1.sp ∧ Off F w w' := by
  have same : RgS (gr F w w) B w rb bc K.c K.L K.sp := by obtain ⟨v, a, b⟩ := h.ring; exact h.to b a (fun k hk => Or.inl hk) h.cells (Nat.le_refl _)
  by_cases hn : n < 0
  · have hB : K.cut n = (K, 2) := by unfold KSt.cut; rw [if_pos hn]
    rw [hB]
    refine (cut_low4 A bc n w hs hn).mono ?_
    rintro e w' ⟨rfl, rfl⟩
    exact ⟨rfl, same, Off.refl _ _⟩
  · by_cases ho : K.c.off = true
    · have hB : K.cut n = (K, 8) := by unfold KSt.cut; rw [if_neg hn, if_pos ho]
      rw [hB]
      refine (cut_off4 A bc K.c n w h.cells hs hn ho).mono ?_
      rintro e w' ⟨rfl, rfl⟩
      exact ⟨rfl, same, Off.refl _ _⟩
    · have ho' : K.c.off = false := by cases e : K.c.off; rfl; exact absurd e ho
      obtain ⟨q, rfl⟩ : ∃ q : Nat, n = (q : Int) := ⟨n.toNat, by omega⟩
      have hB : K.cut (q : Int) = ({ K with c := { K.c with cut := true, left := q } }, 0) := by unfold KSt.cut; rw [if_neg hn, if_neg ho]; rfl
      rw [hB]
      refine (cut_on bc K.c q w h.cells ho').mono ?_
      rintro e w' ⟨rfl, hc, hg, -⟩
      obtain ⟨a, b⟩ := h.toCells hc hg
      exact ⟨rfl, a, b⟩
theorem rgs_on (h : RgS F B w rb bc s L sp) :
    Calls Tryz.prog 30 #[.pointer (some ⟨bc, 0, none⟩)] w fun e w' => e = .returned (.tuple #[]) ∧ RgS (gr F w w') B w' rb bc { s with off := false, cut := false, left := 0 } L sp ∧ Off F w w' := by
  refine (on_any bc s w h.cells).mono ?_
  rintro e w' ⟨rfl, hc, hg, -⟩
  obtain ⟨a, b⟩ := h.toCells hc hg
  exact ⟨rfl, a, b⟩
/-- Opened anew, on its cells. -/
theorem rgs_open {D : Nat} (h : CellsAt w bc s) (hs : Sen4 A w) (hbig : 153 ≤ s.size) (hoff : s.off = false) (hD : D ≤ w.heap.size) :
    Calls Tryz.prog 31 #[.pointer (some ⟨bc, 0, none⟩)] w fun e w' => ∃ rb, e = .returned (.tuple #[.pointer (some ⟨rb, 0, none⟩), .nilIface]) ∧ RgS (fun k => k = bc ∨ (w.heap.size ≤ k ∧ k < w'.heap.size)) D w' rb bc s (openL (s.bytes.take s.size)) false ∧ Below w.heap.size w w' := by
  refine (open_on A bc s w h hs (by unfold CSt.err; rw [if_neg (by omega), if_neg (by rw [hoff]; simp)])).mono ?_
  rintro e w' ⟨rb, v, rfl, hr, hb⟩
  have hlt := h.lt
  have hrl := hr.lo
  refine ⟨rb, rfl, ⟨⟨v, ?_, fun k hk => Or.inr (hr.recs.lt k hk)⟩, h.below hb, Or.inr ⟨hr.lo, hr.lt⟩, Or.inl rfl, by omega, fun k hk => ?_⟩, hb⟩
  · rw [openL_take _ _ hbig]
    exact ⟨hr.heap, hr.recs.mono hD, hr.sep, Nat.le_trans hD hr.lo⟩
  · rcases hk with rfl | hk
    · exact Nat.lt_of_lt_of_le hlt hb.size
    · exact hk.2
theorem DogAt.off {w w' : World} {b : Nat} {d : DSt} {S : Nat → Prop} (h : DogAt w b d) (ho : Off S w w') (h1 : ¬ S b) : DogAt w' b d := ⟨(ho.block b h.lt h1).trans h.heap, h.hc, h.ho, h.hk, h.hb, h.hn⟩
end
end Go.Proofs.YtkphpgdgbnmnjacGreatDoor

namespace Go.Proofs.YtkphpgdgbnmnjacGreatDoor
open Go.RowKit Go.Extern.Stop Go.Stop Go.Extern

def encB (b : Nat) : List Value := [.pointer (some ⟨b, 0, none⟩)]
theorem KSt.on_cases (K : KSt) : K.on = 0 ∨ K.on = 8 ∨ K.on = 11 := by unfold KSt.on; split; exact Or.inr (Or.inl rfl); split; exact Or.inr (Or.inr rfl); exact Or.inl rfl
/-- The words of a state. -/
def stateB (n : Nat) : ByteArray := if n = 8 then ⟨#[111, 102, 102]⟩ else if n = 11 then ⟨#[114, 101, 115, 101, 116]⟩ else ⟨#[111, 110]⟩
theorem app_d (K : KSt) (e k t : Nat) : (K.app e k t).1.d = K.d := by
  unfold KSt.app
  split
  · rfl
  · split
    · rfl
    · split <;> rfl
/-- The statuses of the first n. -/
def statsL (K : KSt) (n : Nat) : List ByteArray := (K.ls.take n).map fun s => statB s.status
theorem ends_step (c : CfgD) (K : KSt) (n : Nat) {s : LSt} {e : EntD} (h0 : (K.ends c n).2 = 0) (hs : (K.ends c n).1.ls[n]? = some s) (he : c.ents[n]? = some e) : K.ends c (n + 1) = if s.turns e = true then ((K.ends c n).1.setL n (s.fin e)).app n (s.kind e).toNat (K.ends c n).1.d.now else ((K.ends c n).1.setL n (s.fin e), 0) := by
  have hge : c.ents.getD n noEnt = e := by rw [List.getD_eq_getElem?_getD, he]; rfl
  show (if (K.ends c n).2 = 0 then (K.ends c n).1.endOne c n else K.ends c n) = _
  rw [if_pos h0]
  unfold KSt.endOne
  rw [hs]
  simp only [hge]
theorem ends_stop (c : CfgD) (K : KSt) {m : Nat} (h : (K.ends c m).2 ≠ 0) : ∀ {n : Nat}, m ≤ n → K.ends c n = K.ends c m
  | 0, hn => by rw [show m = 0 by omega]
  | n + 1, hn => by
    by_cases e : m = n + 1
    · rw [e]
    · have ih := ends_stop c K h (n := n) (by omega)
      show (if (K.ends c n).2 = 0 then (K.ends c n).1.endOne c n else K.ends c n) = _
      rw [ih, if_neg h]
theorem stats_set {K : KSt} {n : Nat} {s : LSt} (hn : n < K.ls.length) : statsL (K.setL n s) (n + 1) = statsL K n ++ [statB s.status] := by
  unfold statsL KSt.setL
  simp only []
  rw [List.take_add_one, List.getElem?_set_self hn, List.take_set_of_le (Nat.le_refl _), List.map_append]
  rfl
theorem app_ls (K : KSt) (e k t : Nat) : (K.app e k t).1.ls = K.ls := by
  unfold KSt.app
  split
  · rfl
  · split
    · rfl
    · split <;> rfl
section
variable {c : CfgD} {K : KSt} {k : Nat}
theorem ends_d (c : CfgD) (K : KSt) : ∀ n, (K.ends c n).1.d = K.d
  | 0 => rfl
  | n + 1 => by
    have ih := ends_d c K n
    show (if (K.ends c n).2 = 0 then (K.ends c n).1.endOne c n else K.ends c n).1.d = _
    split
    · unfold KSt.endOne
      split
      · exact ih
      · split
        · rw [app_d]; exact ih
        · exact ih
    · exact ih
theorem tick_now (c : CfgD) (K : KSt) : (K.tick c).1.d.now ≤ K.d.now + 1 := by
  unfold KSt.tick
  split
  · show K.d.now ≤ _; omega
  · split
    · exact Nat.le_refl _
    · split
      · exact Nat.le_refl _
      · split
        · show (K.ticked.ends c c.ents.length).1.last.d.now ≤ _
          rw [last_now, ends_d]
          exact Nat.le_refl _
        · rw [ends_d]
          exact Nat.le_refl _
theorem KFit.ticks (hr : KRt c) : ∀ (n : Nat) (K : KSt), KFit c K k (144 * K.d.now) → K.d.now + n ≤ 1099511627776 → KFit c (K.ticks c n).1 k (144 * (K.ticks c n).1.d.now) ∧ (K.ticks c n).1.d.now ≤ K.d.now + n
  | 0, K, h, _ => ⟨h, Nat.le_refl _⟩
  | n + 1, K, h, hn => by
    have h1 := h.tick hr (by omega)
    have h2 := tick_now c K
    show KFit c (if (K.tick c).2 = 0 then (K.tick c).1.ticks c n else K.tick c).1 k _ ∧ (if (K.tick c).2 = 0 then (K.tick c).1.ticks c n else K.tick c).1.d.now ≤ _
    show KFit c (if (K.tick c).2 = 0 then (K.tick c).1.ticks c n else K.tick c).1 k (144 * (if (K.tick c).2 = 0 then (K.tick c).1.ticks c n else K.tick c).1.d.now) ∧ _
    split
    · obtain ⟨a, b⟩ := KFit.ticks hr n (K.tick c).1 h1 (by omega)
      exact ⟨a, by omega⟩
    · exact ⟨h1, by omega⟩
end
end Go.Proofs.YtkphpgdgbnmnjacGreatDoor

namespace Go.Proofs.YtkphpgdgbnmnjacGreatDoor
open Go.RowKit Go.Extern.Stop Go.Stop Go.Extern

/-- The first place of a text (-1: none). -/
def idxOf (l : List ByteArray) (s : ByteArray) : Int := match l.findIdx? (fun y => decide (y = s)) with
  | some i => (i : Int)
  | none => -1
theorem slatS_cell {w : World} {sa : Option Addr} {cap : Nat} {l : List ByteArray} (h : SlAt encS 1 w (.slice sa l.length cap) l) {k : Nat} {x : ByteArray} (hx : l[k]? = some x) : ∃ g o, sa = some ⟨g, o, none⟩ ∧ ∀ i x, l[i]? = some x → w.cell? ⟨g, o + i, none⟩ = some (.string x) := by
  obtain ⟨sa', cap', hsl, -, hcc⟩ := h
  cases hsl
  obtain ⟨g, o, rfl, hc0⟩ := hcc (fun h => by rw [h] at hx; simp at hx)
  exact ⟨g, o, rfl, fun i x hx => by have := hc0 i x hx 0 _ rfl; simpa using this⟩
theorem bytesN {a b : ByteArray} (h : ¬ a = b) : (a.toList == b.toList) = false ∧ ¬ a.toList = b.toList := by
  have h2 : ¬ a.toList = b.toList := fun e => by
    rw [ByteArray.toList_eq, ByteArray.toList_eq] at e
    apply h
    obtain ⟨⟨a⟩⟩ := a; obtain ⟨⟨b⟩⟩ := b
    simp at e
    subst e; rfl
  exact ⟨by simpa using h2, h2⟩
theorem idxOf_at {l : List ByteArray} {s : ByteArray} {k : Nat} (hk : l[k]? = some s) (h : ∀ j x, j < k → l[j]? = some x → x ≠ s) : idxOf l s = k := by
  have : l.findIdx? (fun y => decide (y = s)) = some k := by
    rw [List.findIdx?_eq_some_iff_getElem]
    obtain ⟨hlt, e⟩ := List.getElem?_eq_some_iff.1 hk
    exact ⟨hlt, by simp [e], fun j hj => by simpa using h j _ hj (List.getElem?_eq_getElem (by omega))⟩
  unfold idxOf; rw [this]
theorem idxOf_no {l : List ByteArray} {s : ByteArray} (h : ∀ j x, j < l.length → l[j]? = some x → x ≠ s) : idxOf l s = -1 := by
  have : l.findIdx? (fun y => decide (y = s)) = none := by
    rw [List.findIdx?_eq_none_iff]
    intro y hy
    obtain ⟨j, hj⟩ := List.getElem?_of_mem hy
    have hjl : j < l.length := by
      rcases Nat.lt_or_ge j l.length with h' | h'
      · exact h'
      · rw [List.getElem?_eq_none h'] at hj; cases hj
    simpa using h j y hjl hj
  unfold idxOf; rw [this]
set_option maxRecDepth 100000 in
theorem index_at (l : List ByteArray) (s : ByteArray) (sa : Option Addr) (cap : Nat) (w : World) (h : SlAt encS 1 w (.slice sa l.length cap) l) (hn : l.length ≤ 1000000) :
    Calls Tryz.prog 77 #[.slice sa l.length cap, .string s] w fun e w' => e = .returned (.int .i64 (idxOf l s)) ∧ w' = w := by
  have HL : Hid (SlAt encS 1 w (.slice sa l.length cap) l) := h
  clear h
  go_enter Tryz.func77, Tryz.ntmps77
  go_wp2_with fail
  go_loopw [5] (fun i wr => wr = w ∧ ∃ k : Nat, k ≤ l.length ∧ i = .int .i64 k ∧ ∀ j x, j < k → l[j]? = some x → x ≠ s) (fun i _ => l.length - (intOf i).toNat)
  case atStart => exact ⟨rfl, 0, Nat.zero_le _, rfl, fun j x hj => absurd hj (by omega)⟩
  case round =>
    obtain ⟨rfl, k, hk, rfl, hno⟩ := hrel
    have HN : Hid (∀ j x, j < k → l[j]? = some x → x ≠ s) := hno
    clear hno
    by_cases hlt : k < l.length
    · have k1 : (k : Int) < (l.length : Int) := by omega
      obtain ⟨x, hx⟩ : ∃ x, l[k]? = some x := ⟨_, List.getElem?_eq_getElem hlt⟩
      have HX : Hid (l[k]? = some x) := hx
      obtain ⟨g, o, rfl, hc⟩ := slatS_cell HL.out hx
      have c0 := hc k x hx
      clear hc hx
      by_cases e : x = s
      · subst e
        have HE : Hid (idxOf l x = k) := idxOf_at HX.out HN.out
        go_wp2
        go_ret
        exact ⟨by rw [HE.out]; rfl, rfl⟩
      · have n1 := (bytesN e).1
        have n2 := (bytesN e).2
        go_wp2_with fail
        go_roundw
        case rel =>
          refine ⟨trivial, k + 1, by omega, by go_num, fun j y hj hy => ?_⟩
          rcases Nat.lt_or_ge j k with h1 | h1
          · exact HN.out j y h1 hy
          · obtain rfl : j = k := by omega
            rw [HX.out] at hy
            cases hy
            exact e
        case measure => simp [intOf]; omega
    · have k1 : ¬ (k : Int) < (l.length : Int) := by omega
      have HE : Hid (idxOf l s = -1) := idxOf_no (fun j x hj hx => HN.out j x (by omega) hx)
      go_wp2
      go_ret
      exact ⟨by rw [HE.out]; rfl, rfl⟩
end Go.Proofs.YtkphpgdgbnmnjacGreatDoor
