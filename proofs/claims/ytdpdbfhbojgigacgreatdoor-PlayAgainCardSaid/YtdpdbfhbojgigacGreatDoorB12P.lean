/-
  Several texts as one: FlKey, KpFit, KpMem, KpMore, PlPure, PlNum, LoPure.
-/
import Derived.Test.YtdpdbfhbojgigacGreatDoorB02P
import Derived.Test.YtdpdbfhbojgigacGreatDoorB11P
import Derived.Test.YtdpdbfhbojgigacGreatDoorB06P
import Derived.Test.YtdpdbfhbojgigacGreatDoorB10P
import Derived.Test.YtdpdbfhbojgigacGreatDoorB09P
import Derived.DeepKeys4
import Derived.Maps.OwnSet
import Derived.Maps.Own
namespace Go.Proofs.YtdpdbfhbojgigacGreatDoor
open Go.RowKit Go.Extern.Stop Go.Stop Go.Extern Go.Maps

theorem Tryz.rowTwo : (146 : TypeId) < Tryz.prog.types.size := of_decide_eq_true (by kernel_rfl)
theorem Tryz.wideTwo : (match Tryz.prog.underlying 146 with | some (.array _ _) | some (.struct _) => true | _ => false) = true := by rw [Tryz.underlying146]
set_option maxRecDepth 100000 in
theorem Tryz.lawTwo : Maps.Keyed Tryz.prog 146 := Maps.Keyed.of_law (deep_law_laid Tryz.laidOut (m := 2) (by omega) Tryz.rowTwo (by kernel_rfl) Tryz.wideTwo)
theorem Tryz.keyTwo : Tryz.prog.keyType 146 = true := by kernel_rfl
theorem Tryz.ntypes : Tryz.prog.types.size = 329 := by kernel_rfl
def wf64 (n : Int) : Prop := (Lit.int .i64 n).wf = true
theorem wf64_of {n : Int} (h0 : -1 ≤ n) (h1 : n ≤ 1000000) : wf64 n := by
  show (decide (IntKind.min .i64 ≤ n) && decide (n ≤ IntKind.max .i64)) = true
  have e1 : IntKind.min .i64 = -9223372036854775808 := by decide
  have e2 : IntKind.max .i64 = 9223372036854775807 := by decide
  rw [e1, e2, decide_eq_true (by omega), decide_eq_true (by omega)]; rfl
def WfE (l : List (Int × Int)) : Prop := ∀ p ∈ l, wf64 p.1 ∧ wf64 p.2
def ekey (p : Int × Int) : Lit := .string (keyBytes [.int .i64 p.1, .int .i64 p.2])
set_option maxRecDepth 100000 in
theorem keyOf_two {a b : Int} (ha : wf64 a) (hb : wf64 b) : keyOf Tryz.prog 146 (.agg #[.int .i64 a, .int .i64 b]) = some (ekey (a, b)) := by
  unfold wf64 at ha hb
  have hf : (Value.agg #[.int .i64 a, .int .i64 b]).formed Tryz.prog 146 = true := by simp [Value.formed, Tryz.underlying146, Tryz.cellsTwo]
  have hl : Tryz.prog.keyLits (329 + 1) 146 [.int .i64 a, .int .i64 b] = some [.int .i64 a, .int .i64 b] := by
    have h1 : ∀ (n : Nat) (c : Int), (Lit.int .i64 c).wf = true → Tryz.prog.keyLits (n + 1) 3 [.int .i64 c] = some [.int .i64 c] := fun n c hc => by simp [Program.keyLits, Tryz.underlying3, hc]
    unfold Program.keyLits
    simp only [Tryz.underlying146, Tryz.cellsTwo, Tryz.cellsOne]
    have e0 := h1 (329 - 1) a ha
    have e1 := h1 (329 - 1) b hb
    simp [List.range, List.range.loop, e0, e1]
  unfold keyOf
  rw [Tryz.underlying146]
  simp only [Tryz.keyTwo, hf, Bool.and_self, if_true, Tryz.ntypes]
  rw [show (Value.agg #[.int .i64 a, .int .i64 b]).cells.toList = [.int .i64 a, .int .i64 b] from rfl, hl]
  rfl
theorem ekey_inj {p q : Int × Int} (hp : wf64 p.1 ∧ wf64 p.2) (hq : wf64 q.1 ∧ wf64 q.2) (h : ekey p = ekey q) : p = q := by
  have h1 := keyOf_two hp.1 hp.2
  have h2 := keyOf_two hq.1 hq.2
  have e := Tryz.lawTwo.inj h1 (h2.trans (by rw [show ekey (p.1, p.2) = ekey (q.1, q.2) from h]))
  simp at e
  exact Prod.ext e.1 e.2
/-- A map's datum that holds a list of pairs. -/
def EdgeMap (D : DataW Unit) (l : List (Int × Int)) : Prop :=
  IsMap D ∧ (l = [] → Maps.size D = 0) ∧ ∀ p : Int × Int, wf64 p.1 → wf64 p.2 → Maps.has D (ekey p) = decide (p ∈ l)
theorem edgeMap_nil : EdgeMap (.map []) [] := ⟨isMap_empty, fun _ => rfl, fun _ _ _ => by simp [Maps.has]⟩
theorem edgeMap_put {D : DataW Unit} {l : List (Int × Int)} (h : EdgeMap D l) (p : Int × Int) (hp : wf64 p.1 ∧ wf64 p.2) : EdgeMap (D.put (ekey p) (.agg [])) (l ++ [p]) := by
  refine ⟨h.1.put _ _, fun e => by simp at e, fun q h1 h2 => ?_⟩
  by_cases e : q = p
  · subst e
    rw [Maps.has_put_same h.1 (by trivial)]
    simp
  · have hne : ekey q ≠ ekey p := fun h' => e (ekey_inj ⟨h1, h2⟩ hp h')
    rw [Maps.has_put_other hne, h.2.2 q h1 h2]
    simp [e]
theorem edgeMap_size {D : DataW Unit} {l : List (Int × Int)} (h : EdgeMap D l) (hw : WfE l) : (Maps.size D = 0 ↔ l = []) := by
  refine ⟨fun hs => ?_, h.2.1⟩
  cases l with
  | nil => rfl
  | cons p t =>
    have h1 := h.2.2 p (hw p (by simp)).1 (hw p (by simp)).2
    obtain ⟨es, rfl⟩ := h.1
    have h0 : es = [] := List.eq_nil_of_length_eq_zero hs
    subst h0
    simp [Maps.has] at h1
end Go.Proofs.YtdpdbfhbojgigacGreatDoor

namespace Go.Proofs.YtdpdbfhbojgigacGreatDoor
open Go

/-- A right config, as far as it matters. -/
structure KRt (c : CfgD) : Prop where
  cl : 0 ≤ c.closed ∧ c.closed ≤ 1000
  op : 1 ≤ c.opn ∧ c.opn ≤ 1000
  cy : 1 ≤ c.cycle ∧ c.cycle ≤ 100
  de : 0 ≤ c.delay ∧ c.delay ≤ 20
  le : c.cycle ≤ c.opn
  nn : c.ents.length ≤ 8
  each : ∀ e ∈ c.ents, SmallE e ∧ e.cnt < (e.pts.length : Int) ∧ 0 ≤ e.tol ∧ WfE e.edges
theorem TFit.fin20 {s : TSt} (h : TFit s 20) (l : List ByteArray) : TFit (s.fin l) 20 := by
  have h' := h.fin l
  refine ⟨h'.d, ?_, h'.lt, h'.st, h'.z⟩
  have hd := h.d
  have h0 := h.s0
  have hl := h.lt
  unfold TSt.fin
  split
  · exact h0
  · split
    · rename_i h2
      have := hl h2
      unfold TSt.cut
      split <;> (show s.since + 1 ≤ 20; omega)
    · unfold TSt.cut
      split <;> exact Nat.zero_le _
section
variable {c : CfgD} {K : KSt} {k W : Nat}
theorem kindL_le (e : EntD) (l : List MkD) (cyc : Int) : 0 ≤ kindL e l cyc ∧ kindL e l cyc ≤ 3 := by
  unfold kindL
  split
  · decide
  · split
    · decide
    · split <;> decide
theorem kind_le (e : EntD) (s : LSt) : 0 ≤ s.kind e ∧ s.kind e ≤ 3 := by
  unfold LSt.kind
  split
  · exact kindL_le _ _ _
  · decide
theorem KSt.on_zero : K.on = 0 ↔ K.c.off = false ∧ K.d.reset = false := by
  unfold KSt.on
  cases K.c.off <;> cases K.d.reset <;> simp
theorem KFit.mono (h : KFit c K k W) {k' W' : Nat} (hk : k ≤ k') (hW : W ≤ W') : KFit c K k' W' :=
  ⟨h.big, h.left, Nat.le_trans h.wr hW, h.sp, h.llen, h.last, h.len, fun s hs => ⟨(h.each s hs).1.mono (by omega), Nat.le_trans (h.each s hs).2.1 hk, (h.each s hs).2.2⟩, h.tot, h.now, h.win⟩
theorem KFit.setL (h : KFit c K k W) {i : Nat} {s : LSt} (hs : LFit s (k + K.d.now) ∧ s.ms.length ≤ k ∧ ∀ m ∈ s.ms, 0 ≤ m.tick ∧ m.tick ≤ 1099511627776) : KFit c (K.setL i s) k W :=
  ⟨h.big, h.left, h.wr, h.sp, h.llen, h.last, by show (K.ls.set i s).length = _; rw [List.length_set]; exact h.len, fun x hx => by
    rcases List.mem_or_eq_of_mem_set hx with hx | rfl
    · exact h.each x hx
    · exact hs, h.tot, h.now, h.win⟩
theorem begin_ms (s : LSt) : s.begin.ms = s.ms ∨ s.begin.ms = [] := by unfold LSt.begin; split; exact Or.inl rfl; exact Or.inr rfl
theorem KFit.begin (h : KFit c K k W) (i : Int) : KFit c (K.begin i).1 (k + 1) W := by
  unfold KSt.begin
  split
  · exact h.mono (by omega) (Nat.le_refl _)
  · split
    · exact h.mono (by omega) (Nat.le_refl _)
    · split
      · exact h.mono (by omega) (Nat.le_refl _)
      · rename_i s hs
        obtain ⟨h1, h2, h3⟩ := h.each s (List.mem_of_getElem? hs)
        refine (h.mono (k' := k + 1) (by omega) (Nat.le_refl _)).setL ⟨h1.begin.mono (by omega), ?_, ?_⟩
        · rcases begin_ms s with e | e <;> rw [e]
          · omega
          · exact Nat.zero_le _
        · rcases begin_ms s with e | e <;> rw [e]
          · exact h3
          · intro m hm; cases hm
theorem KFit.stop (h : KFit c K k W) (i : Int) : KFit c (K.stop i).1 (k + 1) W := by
  unfold KSt.stop
  split
  · exact h.mono (by omega) (Nat.le_refl _)
  · split
    · exact h.mono (by omega) (Nat.le_refl _)
    · split
      · exact h.mono (by omega) (Nat.le_refl _)
      · rename_i s hs
        obtain ⟨h1, h2, h3⟩ := h.each s (List.mem_of_getElem? hs)
        exact (h.mono (k' := k + 1) (by omega) (Nat.le_refl _)).setL ⟨h1.stop.mono (by omega), Nat.le_succ_of_le h2, h3⟩
theorem KFit.report (h : KFit c K k W) (i p : Int) : KFit c (K.report c i p).1 (k + 1) W := by
  unfold KSt.report
  split
  · exact h.mono (by omega) (Nat.le_refl _)
  · split
    · exact h.mono (by omega) (Nat.le_refl _)
    · split
      · exact h.mono (by omega) (Nat.le_refl _)
      · rename_i s hs
        obtain ⟨h1, h2, h3⟩ := h.each s (List.mem_of_getElem? hs)
        refine (h.mono (k' := k + 1) (by omega) (Nat.le_refl _)).setL ⟨(h1.rep p _).mono (by omega), ?_, ?_⟩
        · unfold LSt.rep
          split
          · show (s.ms ++ _).length ≤ _
            rw [List.length_append, List.length_singleton]; omega
          · omega
        · unfold LSt.rep
          split
          · intro m hm
            have hm' : m ∈ s.ms ++ [⟨p, (K.d.now : Int), s.since⟩] := hm
            rcases List.mem_append.1 hm' with hm' | hm'
            · exact h3 m hm'
            · rw [List.mem_singleton] at hm'; subst hm'
              have := h.now
              exact ⟨Int.natCast_nonneg _, by show (K.d.now : Int) ≤ _; omega⟩
          · exact h3
theorem KFit.cut (h : KFit c K k W) (n : Int) (hn : n ≤ 9223372036854775807) : KFit c (K.cut n).1 k W := by
  unfold KSt.cut
  split
  · exact h
  · split
    · exact h
    · exact ⟨⟨h.big.len, h.big.size, h.big.top⟩, by show n.toNat ≤ _; omega, h.wr, h.sp, h.llen, h.last, h.len, h.each, h.tot, h.now, h.win⟩
theorem KFit.app (h : KFit c K k W) (ho : K.c.off = false) (e kd t : Nat) : KFit c (K.app e kd t).1 k (W + 18) ∧ ((K.app e kd t).2 = 0 → (K.app e kd t).1.c.off = false ∧ (K.app e kd t).1.sp = false) ∧ (K.app e kd t).1.d = K.d ∧ (K.app e kd t).1.ls = K.ls ∧ (K.app e kd t).1.t = K.t := by
  have hsp : K.sp = false := by
    cases e : K.sp with
    | false => rfl
    | true => rw [h.sp e] at ho; cases ho
  have hB := (putRec_big h.big ho (nextR K.L e kd t))
  unfold KSt.app
  rw [if_neg (by rw [hsp]; simp)]
  split
  · exact ⟨h.mono (Nat.le_refl _) (by omega), fun e => (by cases e), rfl, rfl, rfl⟩
  · rename_i hq
    have hlast := h.last
    split
    · rename_i h0
      refine ⟨⟨hB.1, putRec_left _ h.left, Nat.le_trans (putRec_written _ _) (by have := h.wr; omega), fun e => ?_, keepL_len _ h.llen, ?_, h.len, h.each, h.tot, h.now, h.win⟩, fun _ => ⟨hB.2 h0, hsp⟩, rfl, rfl, rfl⟩
      · rw [show K.sp = true from e] at hsp; cases hsp
      · show (lastR (keepL K.L _)).seq ≤ _
        rw [keepL_last]
        show (lastR K.L).seq + 1 ≤ _
        omega
    · rename_i h0
      refine ⟨⟨hB.1, putRec_left _ h.left, Nat.le_trans (putRec_written _ _) (by have := h.wr; omega), fun _ => ?_, h.llen, h.last, h.len, h.each, h.tot, h.now, h.win⟩, fun e => absurd e h0, rfl, rfl, rfl⟩
      rcases putRec_code h.big ho (nextR K.L e kd t) with e8 | e8
      · exact absurd e8 h0
      · exact putRec_off e8
theorem KFit.finL (h : KFit c K k W) {i : Nat} {s : LSt} (hs : K.ls[i]? = some s) (h4 : LFit s (k + K.d.now - 1)) (h5 : 1 ≤ K.d.now) (e : EntD) : KFit c (K.setL i (s.fin e)) k W := by
  obtain ⟨h1, h2, h3⟩ := h.each s (List.mem_of_getElem? hs)
  have hms : (s.fin e).ms = s.ms := by unfold LSt.fin; split <;> rfl
  exact h.setL ⟨h4.fin.mono (by omega), by rw [hms]; exact h2, by rw [hms]; exact h3⟩
/-- Entities that have ended their cycle fit into one tick more. -/
theorem KFit.endOne (h : KFit c K k W) (ho : K.c.off = false) (i : Nat) (hi : ∀ s, K.ls[i]? = some s → LFit s (k + K.d.now - 1) ∧ 1 ≤ K.d.now) : KFit c (K.endOne c i).1 k (W + 18) ∧ ((K.endOne c i).2 = 0 → (K.endOne c i).1.c.off = false ∧ (K.endOne c i).1.sp = false) ∧ (K.endOne c i).1.d = K.d ∧ (K.endOne c i).1.t = K.t ∧ ∀ j, j ≠ i → (K.endOne c i).1.ls[j]? = K.ls[j]? := by
  have hsp : K.sp = false := by
    cases e : K.sp with
    | false => rfl
    | true => rw [h.sp e] at ho; cases ho
  unfold KSt.endOne
  split
  · exact ⟨h.mono (Nat.le_refl _) (by omega), fun _ => ⟨ho, hsp⟩, rfl, rfl, fun _ _ => rfl⟩
  · rename_i s hs
    obtain ⟨h1, h2, h3⟩ := h.each s (List.mem_of_getElem? hs)
    obtain ⟨h4, h5⟩ := hi s hs
    have hms : (s.fin (c.ents.getD i noEnt)).ms = s.ms := by unfold LSt.fin; split <;> rfl
    have h' : KFit c (K.setL i (s.fin (c.ents.getD i noEnt))) k W := h.setL ⟨h4.fin.mono (by omega), by rw [hms]; exact h2, by rw [hms]; exact h3⟩
    have hj : ∀ j, j ≠ i → (K.setL i (s.fin (c.ents.getD i noEnt))).ls[j]? = K.ls[j]? := fun j hj => by
      show (K.ls.set i _)[j]? = _
      rw [List.getElem?_set_ne (fun e => hj e.symm)]
    split
    · obtain ⟨a1, a2, a3, a4, a5⟩ := h'.app ho i (s.kind (c.ents.getD i noEnt)).toNat K.d.now
      exact ⟨a1, a2, a3, a5, fun j hj' => by rw [a4]; exact hj j hj'⟩
    · exact ⟨h'.mono (Nat.le_refl _) (by omega), fun _ => ⟨ho, hsp⟩, rfl, rfl, hj⟩
theorem KFit.ends (h : KFit c K k W) (ho : K.c.off = false) (hi : ∀ s ∈ K.ls, LFit s (k + K.d.now - 1)) (h1 : 1 ≤ K.d.now) : ∀ n, KFit c (K.ends c n).1 k (W + 18 * n) ∧ ((K.ends c n).2 = 0 → (K.ends c n).1.c.off = false ∧ (K.ends c n).1.sp = false) ∧ (K.ends c n).1.d = K.d ∧ (K.ends c n).1.t = K.t ∧ ∀ j, n ≤ j → (K.ends c n).1.ls[j]? = K.ls[j]?
  | 0 => ⟨h, fun _ => ⟨ho, by
      cases e : K.sp with
      | false => exact e
      | true => rw [h.sp e] at ho; cases ho⟩, rfl, rfl, fun _ _ => rfl⟩
  | n + 1 => by
    obtain ⟨a1, a2, a3, a4, a5⟩ := KFit.ends h ho hi h1 n
    unfold KSt.ends
    split
    · rename_i h0
      obtain ⟨b1, b2, b3, b4, b5⟩ := a1.endOne (a2 h0).1 n (fun s hs => by
        rw [a5 n (Nat.le_refl _)] at hs
        rw [a3]
        exact ⟨hi s (List.mem_of_getElem? hs), h1⟩)
      exact ⟨b1.mono (Nat.le_refl _) (by omega), b2, b3.trans a3, b4.trans a4, fun j hj => (b5 j (by omega)).trans (a5 j (by omega))⟩
    · rename_i h0
      exact ⟨a1.mono (Nat.le_refl _) (by omega), fun e => absurd e h0, a3, a4, fun j hj => a5 j (by omega)⟩
theorem KFit.ticked (h : KFit c K k W) (hn : K.d.now < 1099511627776) : KFit c K.ticked k W ∧ (∀ s ∈ K.ticked.ls, LFit s (k + K.ticked.d.now - 1)) ∧ 1 ≤ K.ticked.d.now :=
  ⟨⟨h.big, h.left, h.wr, h.sp, h.llen, h.last, h.len, fun s hs => ⟨(h.each s hs).1.mono (by show _ ≤ k + (K.d.now + 1); omega), (h.each s hs).2⟩, h.tot, hn, ⟨h.win.1, h.win.2.1, h.win.2.2.1, by have := h.win.2.2.2; show K.d.begun ≤ K.d.now + 1; omega⟩⟩, fun s hs => (h.each s hs).1.mono (by show _ ≤ k + (K.d.now + 1) - 1; omega), by show 1 ≤ K.d.now + 1; omega⟩
theorem KFit.last' (h : KFit c K k W) : KFit c K.last k W := by
  have hw := h.win
  have h1 : KFit c { K with t := K.t.fin (K.ls.map fun s => statB s.status) } k W := ⟨h.big, h.left, h.wr, h.sp, h.llen, h.last, h.len, h.each, h.tot.fin20 _, h.now, h.win⟩
  unfold KSt.last
  simp only []
  split
  · rename_i hc
    refine ⟨h1.big, h1.left, h1.wr, h1.sp, h1.llen, h1.last, h1.len, h1.each, h1.tot, h1.now, ⟨hw.1, hw.2.1, ?_, Nat.le_refl _⟩⟩
    show K.d.kicks + 1 ≤ K.d.now
    have ho := hc.2
    unfold DSt.isOpen at ho
    simp only [Bool.and_eq_true, decide_eq_true_eq] at ho
    omega
  · exact h1
theorem last_now : K.last.d.now = K.d.now := by unfold KSt.last; simp only []; split <;> rfl
theorem KFit.tick (hr : KRt c) (h : KFit c K k (144 * K.d.now)) (hn : K.d.now < 1099511627776) : KFit c (K.tick c).1 k (144 * (K.tick c).1.d.now) := by
  unfold KSt.tick
  split
  · exact h
  · rename_i hon
    have hon' : K.on = 0 := by omega
    obtain ⟨ho, -⟩ := KSt.on_zero.1 hon'
    obtain ⟨t1, t2, t3⟩ := h.ticked hn
    have hW : 144 * K.ticked.d.now = 144 * K.d.now + 144 := by show 144 * (K.d.now + 1) = _; omega
    split
    · rw [hW]; exact t1.mono (Nat.le_refl _) (by omega)
    · split
      · rw [hW]; exact t1.mono (Nat.le_refl _) (by omega)
      · obtain ⟨a1, -, a3, -⟩ := t1.ends ho t2 t3 c.ents.length
        have hnn := hr.nn
        split
        · show KFit c (K.ticked.ends c c.ents.length).1.last k (144 * (K.ticked.ends c c.ents.length).1.last.d.now)
          rw [last_now, a3, hW]
          exact (a1.mono (Nat.le_refl _) (by omega)).last'
        · rw [a3, hW]
          exact a1.mono (Nat.le_refl _) (by omega)
theorem KFit.opened (hr : KRt c) (h : Big K.c) (h0 : K.c.left ≤ 9223372036854775807) (hw : K.c.written ≤ W) (hn : K.d.now ≤ 1099511627776) (hd : K.d.closed ≤ 1000 ∧ K.d.opn ≤ 1000 ∧ K.d.kicks ≤ K.d.begun ∧ K.d.begun ≤ K.d.now) : KFit c (KSt.opened c K) k W := by
  have hde := hr.de
  have e1 := openL_eight (K.c.bytes.take K.c.size)
  have e2 := openL_last (K.c.bytes.take K.c.size)
  unfold KSt.opened
  revert e1 e2
  generalize openL (K.c.bytes.take K.c.size) = X
  intro e1 e2
  refine ⟨h, h0, hw, fun e => (by cases e), e1, e2, by simp, fun s hs => ?_, ?_, hn, hd⟩
  · have : s = LSt.new := by
      simp only [List.mem_map] at hs
      obtain ⟨_, _, rfl⟩ := hs
      rfl
    subst this
    exact ⟨LFit.new.mono (Nat.zero_le _), Nat.zero_le _, fun m hm => (by cases hm)⟩
  · have := TFit.new (d := c.delay.toNat) (by omega)
    exact ⟨this.d, Nat.zero_le _, this.lt, this.st, this.z⟩
theorem KFit.new (hr : KRt c) {s : CSt} (h : Big s) (h0 : s.left ≤ 9223372036854775807) (hw : s.written = 0) : KFit c (KSt.new c s) 0 0 := by
  have h1 := hr.cl
  have h2 := hr.op
  exact KFit.opened hr h h0 (by show s.written ≤ 0; omega) (Nat.zero_le _) ⟨by show c.closed.toNat ≤ 1000; omega, by show c.opn.toNat ≤ 1000; omega, Nat.le_refl _, Nat.le_refl _⟩
theorem KFit.boot (hr : KRt c) (h : KFit c K k W) : KFit c (K.boot c).1 k W := by
  unfold KSt.boot
  split
  · exact h
  · exact KFit.opened hr ⟨h.big.len, h.big.size, h.big.top⟩ (Nat.zero_le _) h.wr h.now ⟨h.win.1, h.win.2.1, Nat.le_trans h.win.2.2.1 h.win.2.2.2, Nat.le_refl _⟩
theorem boot_now : (K.boot c).1.d.now = K.d.now := by unfold KSt.boot; split <;> rfl
theorem begin_now (i : Int) : (K.begin i).1.d = K.d := by unfold KSt.begin; split; rfl; split; rfl; split <;> rfl
theorem stop_now (i : Int) : (K.stop i).1.d = K.d := by unfold KSt.stop; split; rfl; split; rfl; split <;> rfl
theorem report_now (i p : Int) : (K.report c i p).1.d = K.d := by unfold KSt.report; split; rfl; split; rfl; split <;> rfl
theorem cut_now (n : Int) : (K.cut n).1.d = K.d := by unfold KSt.cut; split; rfl; split <;> rfl
end
end Go.Proofs.YtdpdbfhbojgigacGreatDoor

namespace Go.Proofs.YtdpdbfhbojgigacGreatDoor
open Go.RowKit Go.Extern.Stop Go.Stop Go.Extern

/-- With what is new. -/
def gr (F : Nat → Prop) (w w' : World) : Nat → Prop := fun k => F k ∨ (w.heap.size ≤ k ∧ k < w'.heap.size)
structure Fam (H : Nat → Nat → Prop) (B : Nat) (w : World) : Prop where
  lo : ∀ i k, H i k → B ≤ k
  lt : ∀ i k, H i k → k < w.heap.size
  dis : ∀ i j k, H i k → H j k → i = j
def updH (H : Nat → Nat → Prop) (i : Nat) (w w' : World) : Nat → Nat → Prop := fun j k => H j k ∨ (j = i ∧ w.heap.size ≤ k ∧ k < w'.heap.size)
section
variable {H : Nat → Nat → Prop} {B : Nat} {w w' w'' : World} {F : Nat → Prop}
theorem Fam.upd (h : Fam H B w) (hs : w.heap.size ≤ w'.heap.size) (hB : B ≤ w.heap.size) (i : Nat) : Fam (updH H i w w') B w' := by
  refine ⟨fun j k hk => ?_, fun j k hk => ?_, fun j j' k hk hk' => ?_⟩
  · rcases hk with hk | ⟨_, hk, _⟩
    · exact h.lo j k hk
    · exact Nat.le_trans hB hk
  · rcases hk with hk | ⟨_, _, hk⟩
    · exact Nat.lt_of_lt_of_le (h.lt j k hk) hs
    · exact hk
  · rcases hk with hk | ⟨e, hk, _⟩ <;> rcases hk' with hk' | ⟨e', hk', _⟩
    · exact h.dis j j' k hk hk'
    · have := h.lt j k hk; omega
    · have := h.lt j' k hk'; omega
    · rw [e, e']
theorem Fam.grow (h : Fam H B w) (hs : w.heap.size ≤ w'.heap.size) : Fam H B w' := ⟨h.lo, fun i k hk => Nat.lt_of_lt_of_le (h.lt i k hk) hs, h.dis⟩
/-- What is another's stays. -/
theorem Fam.keep (h : Fam H B w) {i j : Nat} (hne : j ≠ i) (ho : Off (H i) w w') : ∀ k, H j k → w'.heap[k]? = w.heap[k]? := fun k hk => ho.block k (h.lt j k hk) (fun hi => hne (h.dis j i k hk hi))
theorem Fam.not (h : Fam H B w) {i j : Nat} (hne : j ≠ i) {k : Nat} (hk : H j k) : ¬ H i k := fun hi => hne (h.dis j i k hk hi)
theorem updH_all (hF : ∀ i k, H i k → F k) (i : Nat) : ∀ j k, updH H i w w' j k → gr F w w' k := fun j k hk => by
  rcases hk with hk | ⟨_, h1, h2⟩
  · exact Or.inl (hF j k hk)
  · exact Or.inr ⟨h1, h2⟩
theorem Off.all (hF : ∀ i k, H i k → F k) {i : Nat} (h : Off (H i) w w') : Off F w w' := h.mono (fun k _ hk => hF i k hk)
/-- One step behind another, of one owner. -/
theorem Off.gr (h : Off F w w') (h' : Off (gr F w w') w' w'') : Off F w w'' := h.trans h' (fun k hk hg => by
  rcases hg with hg | ⟨h1, _⟩
  · exact hg
  · omega)
theorem gr_gr {k : Nat} (h1 : w.heap.size ≤ w'.heap.size) (h2 : w'.heap.size ≤ w''.heap.size) (hk : gr (gr F w w') w' w'' k) : gr F w w'' k := by
  rcases hk with (hk | ⟨a, b⟩) | ⟨a, b⟩
  · exact Or.inl hk
  · exact Or.inr ⟨a, by omega⟩
  · exact Or.inr ⟨by omega, b⟩
theorem ow_same {B k n : Nat} {T : TypeId} {v : Value} {xs : List Value} (h : w.ownsRow B T k v n xs) (hs : ∀ g, v.ownBlock = some g → w'.heap[g]? = w.heap[g]?) : w'.ownsRow B T k v n xs := by
  refine ⟨h.1, ?_⟩
  rcases h.2 with hn | ⟨g, cap, cur, rfl, hb, hgg, rest⟩
  · exact .inl hn
  · exact .inr ⟨g, cap, cur, rfl, hb, (hs g rfl).trans hgg, rest⟩
end
end Go.Proofs.YtdpdbfhbojgigacGreatDoor

namespace Go.Proofs.YtdpdbfhbojgigacGreatDoor
open Go.RowKit Go.Extern.Stop Go.Stop Go.Extern

def encB (b : Nat) : List Value := [.pointer (some ⟨b, 0, none⟩)]
theorem KSt.on_cases (K : KSt) : K.on = 0 ∨ K.on = 8 ∨ K.on = 11 := by unfold KSt.on; split; exact Or.inr (Or.inl rfl); split; exact Or.inr (Or.inr rfl); exact Or.inl rfl
/-- The words of a state. -/
def stateB (n : Nat) : ByteArray := if n = 8 then ⟨#[111, 102, 102]⟩ else if n = 11 then ⟨#[114, 101, 115, 101, 116]⟩ else ⟨#[111, 110]⟩
theorem app_d (K : KSt) (e k t : Nat) : (K.app e k t).1.d = K.d := by
  unfold KSt.app
  split
  · rfl
  · split
    · rfl
    · split <;> rfl
/-- The statuses of the first n. -/
def statsL (K : KSt) (n : Nat) : List ByteArray := (K.ls.take n).map fun s => statB s.status
theorem ends_step (c : CfgD) (K : KSt) (n : Nat) {s : LSt} {e : EntD} (h0 : (K.ends c n).2 = 0) (hs : (K.ends c n).1.ls[n]? = some s) (he : c.ents[n]? = some e) : K.ends c (n + 1) = if s.turns e = true then ((K.ends c n).1.setL n (s.fin e)).app n (s.kind e).toNat (K.ends c n).1.d.now else ((K.ends c n).1.setL n (s.fin e), 0) := by
  have hge : c.ents.getD n noEnt = e := by rw [List.getD_eq_getElem?_getD, he]; rfl
  show (if (K.ends c n).2 = 0 then (K.ends c n).1.endOne c n else K.ends c n) = _
  rw [if_pos h0]
  unfold KSt.endOne
  rw [hs]
  simp only [hge]
theorem ends_stop (c : CfgD) (K : KSt) {m : Nat} (h : (K.ends c m).2 ≠ 0) : ∀ {n : Nat}, m ≤ n → K.ends c n = K.ends c m
  | 0, hn => by rw [show m = 0 by omega]
  | n + 1, hn => by
    by_cases e : m = n + 1
    · rw [e]
    · have ih := ends_stop c K h (n := n) (by omega)
      show (if (K.ends c n).2 = 0 then (K.ends c n).1.endOne c n else K.ends c n) = _
      rw [ih, if_neg h]
theorem stats_set {K : KSt} {n : Nat} {s : LSt} (hn : n < K.ls.length) : statsL (K.setL n s) (n + 1) = statsL K n ++ [statB s.status] := by
  unfold statsL KSt.setL
  simp only []
  rw [List.take_add_one, List.getElem?_set_self hn, List.take_set_of_le (Nat.le_refl _), List.map_append]
  rfl
theorem app_ls (K : KSt) (e k t : Nat) : (K.app e k t).1.ls = K.ls := by
  unfold KSt.app
  split
  · rfl
  · split
    · rfl
    · split <;> rfl
section
variable {c : CfgD} {K : KSt} {k : Nat}
theorem ends_d (c : CfgD) (K : KSt) : ∀ n, (K.ends c n).1.d = K.d
  | 0 => rfl
  | n + 1 => by
    have ih := ends_d c K n
    show (if (K.ends c n).2 = 0 then (K.ends c n).1.endOne c n else K.ends c n).1.d = _
    split
    · unfold KSt.endOne
      split
      · exact ih
      · split
        · rw [app_d]; exact ih
        · exact ih
    · exact ih
theorem tick_now (c : CfgD) (K : KSt) : (K.tick c).1.d.now ≤ K.d.now + 1 := by
  unfold KSt.tick
  split
  · show K.d.now ≤ _; omega
  · split
    · exact Nat.le_refl _
    · split
      · exact Nat.le_refl _
      · split
        · show (K.ticked.ends c c.ents.length).1.last.d.now ≤ _
          rw [last_now, ends_d]
          exact Nat.le_refl _
        · rw [ends_d]
          exact Nat.le_refl _
theorem KFit.ticks (hr : KRt c) : ∀ (n : Nat) (K : KSt), KFit c K k (144 * K.d.now) → K.d.now + n ≤ 1099511627776 → KFit c (K.ticks c n).1 k (144 * (K.ticks c n).1.d.now) ∧ (K.ticks c n).1.d.now ≤ K.d.now + n
  | 0, K, h, _ => ⟨h, Nat.le_refl _⟩
  | n + 1, K, h, hn => by
    have h1 := h.tick hr (by omega)
    have h2 := tick_now c K
    show KFit c (if (K.tick c).2 = 0 then (K.tick c).1.ticks c n else K.tick c).1 k _ ∧ (if (K.tick c).2 = 0 then (K.tick c).1.ticks c n else K.tick c).1.d.now ≤ _
    show KFit c (if (K.tick c).2 = 0 then (K.tick c).1.ticks c n else K.tick c).1 k (144 * (if (K.tick c).2 = 0 then (K.tick c).1.ticks c n else K.tick c).1.d.now) ∧ _
    split
    · obtain ⟨a, b⟩ := KFit.ticks hr n (K.tick c).1 h1 (by omega)
      exact ⟨a, by omega⟩
    · exact ⟨h1, by omega⟩
end
end Go.Proofs.YtdpdbfhbojgigacGreatDoor

namespace Go.Proofs.YtdpdbfhbojgigacGreatDoor
open Go

/-- One number from 0 on: the watch behind it, an error's number. -/
def KSt.oneN (c : CfgD) (K : KSt) (n : Nat) : KSt × Nat :=
  if n % 8 = 2 then K.report c ((n / 8 % 8 : Nat) : Int) ((n / 8 / 8 % 16 : Nat) : Int)
  else if n % 8 = 3 then K.ticks c (n / 8 % 16)
  else if n % 8 = 4 then K.begin ((n / 8 % 8 : Nat) : Int)
  else if n % 8 = 5 then K.stop ((n / 8 % 8 : Nat) : Int)
  else if n % 8 = 6 then K.cut ((n / 8 % 64 : Nat) : Int)
  else if n % 8 = 7 then K.boot c
  else K.tick c
def KSt.one (c : CfgD) (K : KSt) (v : Int) : KSt × Int := if v < 0 then (K, -1) else ((K.oneN c v.toNat).1, ((K.oneN c v.toNat).2 : Int))
def runK (c : CfgD) : KSt → List Int → KSt
  | K, [] => K
  | K, v :: t => runK c (K.one c v).1 t
def ansK (c : CfgD) : KSt → List Int → List Int
  | _, [] => []
  | K, v :: t => (K.one c v).2 :: ansK c (K.one c v).1 t
theorem runK_append (c : CfgD) : ∀ (l t : List Int) (K : KSt), runK c K (l ++ t) = runK c (runK c K l) t
  | [], _, _ => rfl
  | v :: l, t, K => runK_append c l t (K.one c v).1
theorem ansK_append (c : CfgD) : ∀ (l t : List Int) (K : KSt), ansK c K (l ++ t) = ansK c K l ++ ansK c (runK c K l) t
  | [], _, _ => rfl
  | v :: l, t, K => by
    show _ :: ansK c _ (l ++ t) = _ :: (_ ++ _)
    rw [ansK_append c l t (K.one c v).1]
    rfl
theorem ansK_length (c : CfgD) : ∀ (l : List Int) (K : KSt), (ansK c K l).length = l.length
  | [], _ => rfl
  | v :: l, K => by show (ansK c _ l).length + 1 = l.length + 1; rw [ansK_length c l]
theorem runK_take {c : CfgD} {K : KSt} {l : List Int} {i : Nat} {v : Int} (h : l[i]? = some v) : runK c K (l.take (i + 1)) = ((runK c K (l.take i)).one c v).1 := by
  rw [List.take_add_one, h, runK_append]; rfl
theorem ansK_take {c : CfgD} {K : KSt} {l : List Int} {i : Nat} {v : Int} (h : l[i]? = some v) : ansK c K (l.take (i + 1)) = ansK c K (l.take i) ++ [((runK c K (l.take i)).one c v).2] := by
  rw [List.take_add_one, h, ansK_append]; rfl
section
variable {c : CfgD} {K : KSt} {k : Nat}
theorem oneN_fit (hr : KRt c) (h : KFit c K k (144 * K.d.now)) (hn : K.d.now + 15 ≤ 1099511627776) (n : Nat) : KFit c (K.oneN c n).1 (k + 1) (144 * (K.oneN c n).1.d.now) ∧ (K.oneN c n).1.d.now ≤ K.d.now + 15 := by
  unfold KSt.oneN
  split
  · rw [report_now]; exact ⟨h.report _ _, by omega⟩
  split
  · obtain ⟨a, b⟩ := KFit.ticks hr (n / 8 % 16) K h (by omega)
    exact ⟨a.mono (by omega) (Nat.le_refl _), by omega⟩
  split
  · rw [begin_now]; exact ⟨h.begin _, by omega⟩
  split
  · rw [stop_now]; exact ⟨h.stop _, by omega⟩
  split
  · rw [cut_now]; exact ⟨(h.cut _ (by omega)).mono (by omega) (Nat.le_refl _), by omega⟩
  split
  · rw [boot_now]; exact ⟨(h.boot hr).mono (by omega) (Nat.le_refl _), by omega⟩
  · have := tick_now c K
    exact ⟨(h.tick hr (by omega)).mono (by omega) (Nat.le_refl _), by omega⟩
theorem one_fit (hr : KRt c) (h : KFit c K k (144 * K.d.now)) (hn : K.d.now + 15 ≤ 1099511627776) (v : Int) : KFit c (K.one c v).1 (k + 1) (144 * (K.one c v).1.d.now) ∧ (K.one c v).1.d.now ≤ K.d.now + 15 := by
  unfold KSt.one
  split
  · exact ⟨h.mono (by omega) (Nat.le_refl _), by show K.d.now ≤ _; omega⟩
  · exact oneN_fit hr h hn _
theorem runK_fit (hr : KRt c) : ∀ (l : List Int) (K : KSt) (k : Nat), KFit c K k (144 * K.d.now) → K.d.now + 15 * l.length ≤ 900000 → KFit c (runK c K l) (k + l.length) (144 * (runK c K l).d.now) ∧ (runK c K l).d.now ≤ K.d.now + 15 * l.length
  | [], K, k, h, _ => ⟨h, Nat.le_refl _⟩
  | v :: l, K, k, h, hn => by
    have hl : (v :: l).length = l.length + 1 := rfl
    obtain ⟨a, b⟩ := one_fit hr h (by omega) v
    obtain ⟨a2, b2⟩ := runK_fit hr l _ _ a (by omega)
    have e : k + (v :: l).length = k + 1 + l.length := by omega
    rw [e]
    exact ⟨a2, by show (runK c (K.one c v).1 l).d.now ≤ _; omega⟩
theorem on_le (K : KSt) : K.on ≤ 11 := by unfold KSt.on; split; omega; split <;> omega
theorem app_le {K : KSt} (hb : Big K.c) (ho : K.c.off = false) (e kd t : Nat) : (K.app e kd t).2 ≤ 11 := by
  unfold KSt.app
  split
  · show 8 ≤ 11; omega
  · split
    · show 7 ≤ 11; omega
    · split
      · show 0 ≤ 11; omega
      · exact putRec_err hb ho _
theorem endOne_le {K : KSt} (hb : Big K.c) (ho : K.c.off = false) (i : Nat) : (K.endOne c i).2 ≤ 11 := by
  unfold KSt.endOne
  split
  · show 0 ≤ 11; omega
  · split
    · exact app_le (K := K.setL i _) hb ho _ _ _
    · show 0 ≤ 11; omega
theorem ends_le {K : KSt} {W : Nat} (h : KFit c K k W) (ho : K.c.off = false) (hi : ∀ s ∈ K.ls, LFit s (k + K.d.now - 1)) (h1 : 1 ≤ K.d.now) : ∀ n, (K.ends c n).2 ≤ 11
  | 0 => by show 0 ≤ 11; omega
  | n + 1 => by
    show (if (K.ends c n).2 = 0 then (K.ends c n).1.endOne c n else K.ends c n).2 ≤ 11
    obtain ⟨a, b, -⟩ := h.ends ho hi h1 n
    split
    · rename_i h0
      exact endOne_le a.big (b h0).1 n
    · exact ends_le h ho hi h1 n
theorem tick_le {W : Nat} (h : KFit c K k W) (hn : K.d.now < 1099511627776) : (K.tick c).2 ≤ 11 := by
  unfold KSt.tick
  split
  · exact on_le K
  · rename_i hon
    split
    · show 11 ≤ 11; omega
    · split
      · show 0 ≤ 11; omega
      · split
        · show 0 ≤ 11; omega
        · obtain ⟨a, b, d⟩ := h.ticked hn
          have hz : K.on = 0 := by omega
          exact ends_le a (KSt.on_zero.1 hz).1 b d _
theorem ticks_le (hr : KRt c) : ∀ (n : Nat) (K : KSt), KFit c K k (144 * K.d.now) → K.d.now + n ≤ 1099511627776 → (K.ticks c n).2 ≤ 11
  | 0, K, _, _ => by show 0 ≤ 11; omega
  | n + 1, K, h, hn => by
    have h2 := tick_now c K
    show (if (K.tick c).2 = 0 then (K.tick c).1.ticks c n else K.tick c).2 ≤ 11
    split
    · exact ticks_le hr n _ (h.tick hr (by omega)) (by omega)
    · exact tick_le h (by omega)
theorem report_le (K : KSt) (i p : Int) : (K.report c i p).2 ≤ 11 := by
  unfold KSt.report
  split
  · exact on_le K
  · split
    · show 5 ≤ 11; omega
    · split
      · show 5 ≤ 11; omega
      · show LSt.repN _ _ _ ≤ 11; unfold LSt.repN; split; split <;> omega; omega
theorem begin_le (K : KSt) (i : Int) : (K.begin i).2 ≤ 11 := by
  unfold KSt.begin
  split
  · exact on_le K
  · split
    · show 5 ≤ 11; omega
    · split
      · show 5 ≤ 11; omega
      · show LSt.begN _ ≤ 11; unfold LSt.begN; split <;> omega
theorem stop_le (K : KSt) (i : Int) : (K.stop i).2 ≤ 11 := by
  unfold KSt.stop
  split
  · exact on_le K
  · split
    · show 5 ≤ 11; omega
    · split
      · show 5 ≤ 11; omega
      · show LSt.stopN _ ≤ 11; unfold LSt.stopN; split <;> omega
theorem cut_le (K : KSt) (n : Int) : (K.cut n).2 ≤ 11 := by unfold KSt.cut; split; (show 2 ≤ 11; omega); split; (show 8 ≤ 11; omega); (show 0 ≤ 11; omega)
theorem boot_le (c : CfgD) (K : KSt) : (K.boot c).2 ≤ 11 := by unfold KSt.boot; split; (show 10 ≤ 11; omega); (show 0 ≤ 11; omega)
theorem oneN_le (hr : KRt c) (h : KFit c K k (144 * K.d.now)) (hn : K.d.now + 15 ≤ 1099511627776) (n : Nat) : (K.oneN c n).2 ≤ 11 := by
  unfold KSt.oneN
  split
  · exact report_le K _ _
  split
  · exact ticks_le hr _ K h (by omega)
  split
  · exact begin_le K _
  split
  · exact stop_le K _
  split
  · exact cut_le K _
  split
  · exact boot_le c K
  · exact tick_le h (by omega)
theorem one_neg {v : Int} (h : v < 0) : K.one c v = (K, -1) := by unfold KSt.one; rw [if_pos h]
theorem one_pos (n : Nat) : K.one c (n : Int) = ((K.oneN c n).1, ((K.oneN c n).2 : Int)) := by unfold KSt.one; rw [if_neg (by omega)]; rfl
end
end Go.Proofs.YtdpdbfhbojgigacGreatDoor

namespace Go.Proofs.YtdpdbfhbojgigacGreatDoor
open Go.RowKit Go.Extern.Stop Go.Stop Go.Extern

section
variable {c : CfgD} {K : KSt}
theorem oneN_at (n r : Nat) (h : n % 8 = r) : K.oneN c n = (if r = 2 then K.report c ((n / 8 % 8 : Nat) : Int) ((n / 8 / 8 % 16 : Nat) : Int) else if r = 3 then K.ticks c (n / 8 % 16) else if r = 4 then K.begin ((n / 8 % 8 : Nat) : Int) else if r = 5 then K.stop ((n / 8 % 8 : Nat) : Int) else if r = 6 then K.cut ((n / 8 % 64 : Nat) : Int) else if r = 7 then K.boot c else K.tick c) := by
  unfold KSt.oneN; rw [h]
theorem tdiv8 (n : Nat) : Int.tdiv (n : Int) 8 = ((n / 8 : Nat) : Int) := by
  rw [Int.tdiv_eq_ediv_of_nonneg (by omega)]; omega
theorem tmod_nat (n m : Nat) : Int.tmod (n : Int) (m : Int) = ((n % m : Nat) : Int) := by
  rw [Int.tmod_eq_emod_of_nonneg (by omega)]; exact (Int.natCast_emod n m).symm
/-- What is left, and what the rest tells. -/
theorem oneN_parts (c : CfgD) (K : KSt) (n : Nat) (hn : n ≤ 9223372036854775807) : ∃ r q q8 q16 q64 qq qp : Nat, r < 8 ∧
    Hid (K.oneN c n = (if r = 2 then K.report c (q8 : Int) (qp : Int) else if r = 3 then K.ticks c q16 else if r = 4 then K.begin (q8 : Int) else if r = 5 then K.stop (q8 : Int) else if r = 6 then K.cut (q64 : Int) else if r = 7 then K.boot c else K.tick c)) ∧
    Int.tdiv (n : Int) 8 = (q : Int) ∧ Int.tdiv (q : Int) 8 = (qq : Int) ∧ Int.tmod (q : Int) 8 = (q8 : Int) ∧ Int.tmod (n : Int) 8 = (r : Int) ∧ Int.tmod (q : Int) 16 = (q16 : Int) ∧ Int.tmod (q : Int) 64 = (q64 : Int) ∧ Int.tmod (qq : Int) 16 = (qp : Int) ∧
    q ≤ 1152921504606846975 ∧ qq ≤ 1152921504606846975 ∧ q8 < 8 ∧ q16 < 16 ∧ q64 < 64 ∧ qp < 16 :=
  ⟨n % 8, n / 8, n / 8 % 8, n / 8 % 16, n / 8 % 64, n / 8 / 8, n / 8 / 8 % 16, by omega, oneN_at n _ rfl, tdiv8 n, tdiv8 _, tmod_nat _ 8, tmod_nat _ 8, tmod_nat _ 16, tmod_nat _ 64, tmod_nat _ 16, by omega, by omega, by omega, by omega, by omega, by omega⟩
end
end Go.Proofs.YtdpdbfhbojgigacGreatDoor

namespace Go.Proofs.YtdpdbfhbojgigacGreatDoor
open Go

/-- The three watches. -/
structure WSt where
  a : ASt
  g : GSt
  f : FSt
def WSt.new (e : EntD) : WSt := ⟨⟨ptOf e.cnt e.pts.length, e.mn, e.mx, 0⟩, GSt.new e.gaps, ⟨-1, false⟩⟩
def WSt.rep (e : EntD) (s : WSt) (p t : Int) : WSt := ⟨s.a.rep p, s.g.rep p t, s.f.rep e p⟩
def WSt.zero (s : WSt) : WSt := ⟨s.a.zero, s.g.zero, s.f.zero⟩
def WSt.kind (s : WSt) (whole : Bool) : Int := kindW s.a s.g s.f whole
/-- An active entity. -/
structure NSt where
  w : WSt
  whole : Bool
  run : Nat
  ex : Bool
def NSt.new (e : EntD) : NSt := ⟨WSt.new e, false, 0, false⟩
def NSt.kind (s : NSt) : Int := s.w.kind s.whole
def NSt.rep (e : EntD) (s : NSt) (p t : Int) : NSt := if hasP e p = true then { s with w := s.w.rep e p t } else s
def NSt.run1 (s : NSt) : Nat := if s.kind = 0 then 0 else s.run + 1
def NSt.turns (e : EntD) (s : NSt) : Bool := decide (s.kind ≠ 0) && (!s.ex && decide (e.tol < (s.run + 1 : Int)))
def NSt.fin (e : EntD) (s : NSt) : NSt := ⟨s.w.zero, true, s.run1, s.ex || s.turns e⟩
def NSt.status (s : NSt) : Nat := if s.ex then 3 else if s.run = 0 then 1 else 2
theorem rep_len (s : GSt) (p t : Int) : (s.rep p t).xs.length = s.xs.length := by unfold GSt.rep; split <;> simp
/-- Both are one: the three watches keep what the document asks of all reports. -/
structure NSim (e : EntD) (n : NSt) (s : LSt) : Prop where
  act : s.act = true
  a : n.w.a = simA e s.ms s.since
  g : n.w.g = simG e.gaps s.ms s.since
  f : n.w.f = simF e s.ms s.since
  whole : n.whole = decide (0 < s.since)
  run : s.run = (n.run : Int)
  ex : n.ex = s.ex
theorem NSim.new (e : EntD) (s : LSt) (h : s.act = false) : NSim e (NSt.new e) s.begin := by
  have hb : s.begin = ⟨true, 0, [], 0, false⟩ := by unfold LSt.begin; rw [h]; rfl
  rw [hb]
  exact ⟨rfl, (simA_new e).symm, sim_new e.gaps, (simF_new e).symm, by simp [NSt.new], rfl, rfl⟩
theorem NSim.rep {e : EntD} {n : NSt} {s : LSt} (h : NSim e n s) (p t : Int) (hl : s.ms.length < 1000) (ht : tickOk t = true) : NSim e (n.rep e p t) (s.rep e p t) := by
  unfold NSt.rep LSt.rep
  by_cases hp : hasP e p = true
  · rw [if_pos hp, if_pos ⟨h.act, hp⟩]
    refine ⟨h.act, ?_, ?_, ?_, h.whole, h.run, h.ex⟩
    · show n.w.a.rep p = _
      rw [h.a]; exact simA_rep e s.ms s.since p t hl
    · show n.w.g.rep p t = _
      rw [h.g]; exact sim_rep e.gaps s.ms s.since p t ht
    · show n.w.f.rep e p = _
      rw [h.f]; exact simF_rep e s.ms s.since p t
  · rw [if_neg hp, if_neg (fun x => hp x.2)]
    exact h
theorem NSim.kind {e : EntD} {n : NSt} {s : LSt} (h : NSim e n s) (hc : e.cnt < (e.pts.length : Int)) : n.kind = s.kind e := by
  unfold NSt.kind WSt.kind LSt.kind
  rw [h.a, h.g, h.f, h.whole, kind_sim hc, if_pos h.act]
theorem NSim.turns {e : EntD} {n : NSt} {s : LSt} (h : NSim e n s) (hc : e.cnt < (e.pts.length : Int)) (ht : 0 ≤ e.tol) : n.turns e = s.turns e := by
  have hk := h.kind hc
  unfold LSt.kind at hk
  rw [if_pos h.act] at hk
  unfold NSt.turns LSt.turns LSt.run1
  rw [hk, h.act, h.ex, h.run]
  by_cases h0 : kindL e s.ms s.since = 0
  · simp [h0]; omega
  · simp [h0]
theorem NSim.fin {e : EntD} {n : NSt} {s : LSt} (h : NSim e n s) (hc : e.cnt < (e.pts.length : Int)) (ht : 0 ≤ e.tol) (hm : ∀ m ∈ s.ms, m.cyc ≤ s.since) (h0 : 0 ≤ s.since) : NSim e (n.fin e) (s.fin e) := by
  have hk := h.kind hc
  have htu := h.turns hc ht
  unfold LSt.kind at hk
  rw [if_pos h.act] at hk
  unfold NSt.fin LSt.fin
  rw [if_pos h.act]
  refine ⟨rfl, ?_, ?_, ?_, ?_, ?_, ?_⟩
  · show n.w.a.zero = _
    rw [h.a]; exact simA_end hm
  · show n.w.g.zero = _
    rw [h.g]; exact sim_end hm
  · show n.w.f.zero = _
    rw [h.f]; exact simF_end hm
  · show true = decide (0 < s.since + 1)
    rw [decide_eq_true (by omega)]
  · show s.run1 e = ((n.run1 : Nat) : Int)
    unfold LSt.run1 NSt.run1
    rw [hk, h.run]
    split <;> simp
  · show (n.ex || n.turns e) = (s.ex || decide (e.tol < s.run1 e))
    rw [htu, h.ex]
    unfold LSt.turns
    rw [h.act]
    cases s.ex <;> simp
theorem NSim.status {e : EntD} {n : NSt} {s : LSt} (h : NSim e n s) : n.status = s.status := by
  unfold NSt.status LSt.status
  rw [h.act, h.ex, h.run]
  cases s.ex
  · by_cases hr : n.run = 0
    · simp [hr]
    · simp [hr, Nat.pos_of_ne_zero hr]
  · rfl
end Go.Proofs.YtdpdbfhbojgigacGreatDoor
