/-
  Several texts as one: LcPure, LoPure, FlKey, CfCopy.
-/
import Derived.Test.YtkphpgdgbnmnjacGreatDoorB00K
import Derived.Test.YtkphpgdgbnmnjacGreatDoorB02K
import Derived.Test.YtkphpgdgbnmnjacGreatDoorB01K
import Derived.DeepKeys4
import Derived.Maps.OwnSet
import Derived.Maps.Own
import Derived.Deep.Upon
import Derived.Lib.Builder
namespace Go.Proofs.YtkphpgdgbnmnjacGreatDoor
open Go

/-- How many reports of the counted point a cycle has. -/
def countIn (cnt : Int) (l : List MkD) (cyc : Int) : Nat := l.countP (fun m => decide (m.cyc = cyc) && decide (m.pt = cnt))
theorem countIn_snoc (cnt : Int) (l : List MkD) (m : MkD) (cyc : Int) : countIn cnt (l ++ [m]) cyc = countIn cnt l cyc + (if m.cyc = cyc ∧ m.pt = cnt then 1 else 0) := by
  unfold countIn
  rw [List.countP_append]
  simp only [List.countP_cons, List.countP_nil, Nat.zero_add]
  by_cases h : m.cyc = cyc <;> by_cases h2 : m.pt = cnt <;> simp [h, h2]
theorem countIn_next {cnt : Int} {l : List MkD} {cyc : Int} (h : ∀ m ∈ l, m.cyc < cyc) : countIn cnt l cyc = 0 := by
  unfold countIn
  rw [List.countP_eq_zero]
  intro m hm
  have := h m hm
  simp only [Bool.and_eq_true, decide_eq_true_eq, not_and]
  intro e
  omega
theorem countIn_le (cnt : Int) (l : List MkD) (cyc : Int) : countIn cnt l cyc ≤ l.length := List.countP_le_length
/-- What was not well in a cycle (0: all was; 1: alive; 2: gaps; 3: flow). -/
def kindL (e : EntD) (l : List MkD) (cyc : Int) : Int :=
  if 0 ≤ e.cnt ∧ 0 < cyc ∧ ((countIn e.cnt l cyc : Int) < e.mn ∨ e.mx < (countIn e.cnt l cyc : Int)) then 1
  else if e.gaps.any (fun g => gapBad g l cyc) = true then 2
  else if flowBad e l cyc = true then 3 else 0
/-- The counter behind all reports. -/
def simA (e : EntD) (l : List MkD) (cyc : Int) : ASt := ⟨ptOf e.cnt e.pts.length, e.mn, e.mx, if ptOf e.cnt e.pts.length = -1 then 0 else countIn e.cnt l cyc⟩
theorem simA_new (e : EntD) : simA e [] 0 = ⟨ptOf e.cnt e.pts.length, e.mn, e.mx, 0⟩ := by
  unfold simA countIn
  simp
theorem ptOf_is {cnt : Int} {n : Nat} (h : ptOf cnt n ≠ -1) : ptOf cnt n = cnt := by
  unfold ptOf at h ⊢
  split
  · rename_i h2; rw [if_pos h2] at h; exact absurd rfl h
  · rfl
theorem simA_rep (e : EntD) (l : List MkD) (cyc p t : Int) (hl : l.length < 1000) : (simA e l cyc).rep p = simA e (l ++ [⟨p, t, cyc⟩]) cyc := by
  unfold ASt.rep
  by_cases h : ptOf e.cnt e.pts.length = -1
  · rw [if_neg (by simp [simA, h])]
    simp [simA, h]
  · have hp := ptOf_is h
    have hc := countIn_le e.cnt l cyc
    by_cases hpp : p = e.cnt
    · have e1 : (simA e l cyc).pt ≠ -1 ∧ p = (simA e l cyc).pt ∧ (simA e l cyc).n < 1000 := by
        refine ⟨h, ?_, ?_⟩
        · simp [simA, hp, hpp]
        · simp only [simA, if_neg h]; omega
      rw [if_pos e1]
      simp only [simA, if_neg h, countIn_snoc, hpp, and_self, if_true]
    · rw [if_neg (by simp only [simA]; rw [hp]; exact fun x => hpp x.2.1)]
      simp only [simA, if_neg h, countIn_snoc]
      rw [if_neg (fun x => hpp x.2)]
      rfl
theorem simA_end {e : EntD} {l : List MkD} {cyc : Int} (h : ∀ m ∈ l, m.cyc ≤ cyc) : (simA e l cyc).zero = simA e l (cyc + 1) := by
  unfold ASt.zero simA
  rw [countIn_next (cyc := cyc + 1) (fun m hm => by have := h m hm; omega)]
  simp
/-- The three watches' verdict is the document's. -/
def kindW (a : ASt) (g : GSt) (f : FSt) (whole : Bool) : Int := if a.well whole = false then 1 else if g.bad = true then 2 else if f.bad = true then 3 else 0
theorem kind_sim {e : EntD} {l : List MkD} {cyc : Int} (hc : e.cnt < (e.pts.length : Int)) : kindW (simA e l cyc) (simG e.gaps l cyc) (simF e l cyc) (decide (0 < cyc)) = kindL e l cyc := by
  unfold kindW kindL
  have e1 : ((simA e l cyc).well (decide (0 < cyc)) = false) ↔ (0 ≤ e.cnt ∧ 0 < cyc ∧ ((countIn e.cnt l cyc : Int) < e.mn ∨ e.mx < (countIn e.cnt l cyc : Int))) := by
    unfold ASt.well
    by_cases h : 0 ≤ e.cnt
    · have hp : ptOf e.cnt e.pts.length = e.cnt := by unfold ptOf; rw [if_neg (by omega)]
      have hn : ¬ e.cnt = -1 := by omega
      simp only [simA, hp, if_neg hn]
      generalize ((countIn e.cnt l cyc : Nat) : Int) = n
      by_cases a1 : e.mn ≤ n <;> by_cases a2 : n ≤ e.mx <;> by_cases a3 : 0 < cyc <;> simp [a1, a2, a3, hn, h] <;> omega
    · have hp : ptOf e.cnt e.pts.length = -1 := by unfold ptOf; rw [if_pos (by omega)]
      simp [simA, hp]
      omega
  by_cases h1 : (0 ≤ e.cnt ∧ 0 < cyc ∧ ((countIn e.cnt l cyc : Int) < e.mn ∨ e.mx < (countIn e.cnt l cyc : Int)))
  · rw [if_pos h1, if_pos (e1.2 h1)]
  · rw [if_neg h1, if_neg (fun x => h1 (e1.1 x))]
    rfl
/-- An entity as the document keeps it. -/
structure LSt where
  act : Bool
  since : Int
  ms : List MkD
  run : Int
  ex : Bool
def LSt.new : LSt := ⟨false, 0, [], 0, false⟩
/-- Begin, Stop: an error's number, what is behind. -/
def LSt.begin (s : LSt) : LSt := if s.act then s else ⟨true, 0, [], 0, false⟩
def LSt.stop (s : LSt) : LSt := { s with act := false }
def LSt.rep (e : EntD) (s : LSt) (p t : Int) : LSt := if s.act ∧ hasP e p = true then { s with ms := s.ms ++ [⟨p, t, s.since⟩] } else s
def LSt.run1 (e : EntD) (s : LSt) : Int := if kindL e s.ms s.since = 0 then 0 else s.run + 1
def LSt.turns (e : EntD) (s : LSt) : Bool := s.act && (!s.ex && decide (e.tol < s.run1 e))
def LSt.fin (e : EntD) (s : LSt) : LSt := if s.act then ⟨true, s.since + 1, s.ms, s.run1 e, s.ex || decide (e.tol < s.run1 e)⟩ else s
def LSt.kind (e : EntD) (s : LSt) : Int := if s.act then kindL e s.ms s.since else 0
/-- The status: 0 idle, 1 ok, 2 failed, 3 expired. -/
def LSt.status (s : LSt) : Nat := if s.act then (if s.ex then 3 else if 0 < s.run then 2 else 1) else 0
/-- What is always so. -/
structure LFit (s : LSt) (k : Nat) : Prop where
  len : s.ms.length ≤ k
  each : ∀ m ∈ s.ms, m.cyc ≤ s.since
  s0 : 0 ≤ s.since
  s1 : s.since ≤ (k : Int)
  r0 : 0 ≤ s.run
  r1 : s.run ≤ s.since
theorem LFit.new : LFit LSt.new 0 := ⟨Nat.le_refl _, fun m hm => (by cases hm), Int.le_refl _, Int.le_refl _, Int.le_refl _, Int.le_refl _⟩
theorem LFit.mono {s : LSt} {k n : Nat} (h : LFit s k) (hn : k ≤ n) : LFit s n := ⟨Nat.le_trans h.len hn, h.each, h.s0, by have := h.s1; omega, h.r0, h.r1⟩
theorem LFit.begin {s : LSt} {k : Nat} (h : LFit s k) : LFit s.begin (k + 1) := by
  unfold LSt.begin
  split
  · exact h.mono (by omega)
  · exact ⟨Nat.zero_le _, fun m hm => (by cases hm), Int.le_refl _, by simp; omega, Int.le_refl _, Int.le_refl _⟩
theorem LFit.stop {s : LSt} {k : Nat} (h : LFit s k) : LFit s.stop (k + 1) := ⟨Nat.le_trans h.len (by omega), h.each, h.s0, by have := h.s1; show s.since ≤ _; push_cast; omega, h.r0, h.r1⟩
theorem LFit.rep {e : EntD} {s : LSt} {k : Nat} (h : LFit s k) (p t : Int) : LFit (s.rep e p t) (k + 1) := by
  unfold LSt.rep
  split
  · refine ⟨by have := h.len; simp; omega, fun m hm => ?_, h.s0, by have := h.s1; show s.since ≤ _; push_cast; omega, h.r0, h.r1⟩
    rw [List.mem_append] at hm
    rcases hm with hm | hm
    · exact h.each m hm
    · rw [List.mem_singleton] at hm; subst hm; exact Int.le_refl _
  · exact h.mono (by omega)
theorem LFit.fin {e : EntD} {s : LSt} {k : Nat} (h : LFit s k) : LFit (s.fin e) (k + 1) := by
  unfold LSt.fin
  split
  · have h1 := h.r0
    have h2 := h.r1
    have h3 := h.s0
    have hr : 0 ≤ s.run1 e ∧ s.run1 e ≤ s.since + 1 := by unfold LSt.run1; split <;> omega
    refine ⟨Nat.le_trans h.len (by omega), fun m hm => by have := h.each m hm; show m.cyc ≤ s.since + 1; omega, by show 0 ≤ s.since + 1; omega, by have := h.s1; show s.since + 1 ≤ _; push_cast; omega, hr.1, hr.2⟩
  · exact h.mono (by omega)
end Go.Proofs.YtkphpgdgbnmnjacGreatDoor

namespace Go.Proofs.YtkphpgdgbnmnjacGreatDoor
open Go

/-- The three watches. -/
structure WSt where
  a : ASt
  g : GSt
  f : FSt
def WSt.new (e : EntD) : WSt := ⟨⟨ptOf e.cnt e.pts.length, e.mn, e.mx, 0⟩, GSt.new e.gaps, ⟨-1, false⟩⟩
def WSt.rep (e : EntD) (s : WSt) (p t : Int) : WSt := ⟨s.a.rep p, s.g.rep p t, s.f.rep e p⟩
def WSt.zero (s : WSt) : WSt := ⟨s.a.zero, s.g.zero, s.f.zero⟩
def WSt.kind (s : WSt) (whole : Bool) : Int := kindW s.a s.g s.f whole
/-- An active entity. -/
structure NSt where
  w : WSt
  whole : Bool
  run : Nat
  ex : Bool
def NSt.new (e : EntD) : NSt := ⟨WSt.new e, false, 0, false⟩
def NSt.kind (s : NSt) : Int := s.w.kind s.whole
def NSt.rep (e : EntD) (s : NSt) (p t : Int) : NSt := if hasP e p = true then { s with w := s.w.rep e p t } else s
def NSt.run1 (s : NSt) : Nat := if s.kind = 0 then 0 else s.run + 1
def NSt.turns (e : EntD) (s : NSt) : Bool := decide (s.kind ≠ 0) && (!s.ex && decide (e.tol < (s.run + 1 : Int)))
def NSt.fin (e : EntD) (s : NSt) : NSt := ⟨s.w.zero, true, s.run1, s.ex || s.turns e⟩
def NSt.status (s : NSt) : Nat := if s.ex then 3 else if s.run = 0 then 1 else 2
theorem rep_len (s : GSt) (p t : Int) : (s.rep p t).xs.length = s.xs.length := by unfold GSt.rep; split <;> simp
/-- Both are one: the three watches keep what the document asks of all reports. -/
structure NSim (e : EntD) (n : NSt) (s : LSt) : Prop where
  act : s.act = true
  a : n.w.a = simA e s.ms s.since
  g : n.w.g = simG e.gaps s.ms s.since
  f : n.w.f = simF e s.ms s.since
  whole : n.whole = decide (0 < s.since)
  run : s.run = (n.run : Int)
  ex : n.ex = s.ex
theorem NSim.new (e : EntD) (s : LSt) (h : s.act = false) : NSim e (NSt.new e) s.begin := by
  have hb : s.begin = ⟨true, 0, [], 0, false⟩ := by unfold LSt.begin; rw [h]; rfl
  rw [hb]
  exact ⟨rfl, (simA_new e).symm, sim_new e.gaps, (simF_new e).symm, by simp [NSt.new], rfl, rfl⟩
theorem NSim.rep {e : EntD} {n : NSt} {s : LSt} (h : NSim e n s) (p t : Int) (hl : s.ms.length < 1000) (ht : tickOk t = true) : NSim e (n.rep e p t) (s.rep e p t) := by
  unfold NSt.rep LSt.rep
  by_cases hp : hasP e p = true
  · rw [if_pos hp, if_pos ⟨h.act, hp⟩]
    refine ⟨h.act, ?_, ?_, ?_, h.whole, h.run, h.ex⟩
    · show n.w.a.rep p = _
      rw [h.a]; exact simA_rep e s.ms s.since p t hl
    · show n.w.g.rep p t = _
      rw [h.g]; exact sim_rep e.gaps s.ms s.since p t ht
    · show n.w.f.rep e p = _
      rw [h.f]; exact simF_rep e s.ms s.since p t
  · rw [if_neg hp, if_neg (fun x => hp x.2)]
    exact h
theorem NSim.kind {e : EntD} {n : NSt} {s : LSt} (h : NSim e n s) (hc : e.cnt < (e.pts.length : Int)) : n.kind = s.kind e := by
  unfold NSt.kind WSt.kind LSt.kind
  rw [h.a, h.g, h.f, h.whole, kind_sim hc, if_pos h.act]
theorem NSim.turns {e : EntD} {n : NSt} {s : LSt} (h : NSim e n s) (hc : e.cnt < (e.pts.length : Int)) (ht : 0 ≤ e.tol) : n.turns e = s.turns e := by
  have hk := h.kind hc
  unfold LSt.kind at hk
  rw [if_pos h.act] at hk
  unfold NSt.turns LSt.turns LSt.run1
  rw [hk, h.act, h.ex, h.run]
  by_cases h0 : kindL e s.ms s.since = 0
  · simp [h0]; omega
  · simp [h0]
theorem NSim.fin {e : EntD} {n : NSt} {s : LSt} (h : NSim e n s) (hc : e.cnt < (e.pts.length : Int)) (ht : 0 ≤ e.tol) (hm : ∀ m ∈ s.ms, m.cyc ≤ s.since) (h0 : 0 ≤ s.since) : NSim e (n.fin e) (s.fin e) := by
  have hk := h.kind hc
  have htu := h.turns hc ht
  unfold LSt.kind at hk
  rw [if_pos h.act] at hk
  unfold NSt.fin LSt.fin
  rw [if_pos h.act]
  refine ⟨rfl, ?_, ?_, ?_, ?_, ?_, ?_⟩
  · show n.w.a.zero = _
    rw [h.a]; exact simA_end hm
  · show n.w.g.zero = _
    rw [h.g]; exact sim_end hm
  · show n.w.f.zero = _
    rw [h.f]; exact simF_end hm
  · show true = decide (0 < s.since + 1)
    rw [decide_eq_true (by omega)]
  · show s.run1 e = ((n.run1 : Nat) : Int)
    unfold LSt.run1 NSt.run1
    rw [hk, h.run]
    split <;> simp
  · show (n.ex || n.turns e) = (s.ex || decide (e.tol < s.run1 e))
    rw [htu, h.ex]
    unfold LSt.turns
    rw [h.act]
    cases s.ex <;> simp
theorem NSim.status {e : EntD} {n : NSt} {s : LSt} (h : NSim e n s) : n.status = s.status := by
  unfold NSt.status LSt.status
  rw [h.act, h.ex, h.run]
  cases s.ex
  · by_cases hr : n.run = 0
    · simp [hr]
    · simp [hr, Nat.pos_of_ne_zero hr]
  · rfl
end Go.Proofs.YtkphpgdgbnmnjacGreatDoor

namespace Go.Proofs.YtkphpgdgbnmnjacGreatDoor
open Go.RowKit Go.Extern.Stop Go.Stop Go.Extern Go.Maps

theorem Tryz.rowTwo : (139 : TypeId) < Tryz.prog.types.size := of_decide_eq_true (by kernel_rfl)
theorem Tryz.wideTwo : (match Tryz.prog.underlying 139 with | some (.array _ _) | some (.struct _) => true | _ => false) = true := by rw [Tryz.underlying139]
set_option maxRecDepth 100000 in
theorem Tryz.lawTwo : Maps.Keyed Tryz.prog 139 := Maps.Keyed.of_law (deep_law_laid Tryz.laidOut (m := 2) (by omega) Tryz.rowTwo (by kernel_rfl) Tryz.wideTwo)
theorem Tryz.keyTwo : Tryz.prog.keyType 139 = true := by kernel_rfl
theorem Tryz.ntypes : Tryz.prog.types.size = 323 := by kernel_rfl
def wf64 (n : Int) : Prop := (Lit.int .i64 n).wf = true
theorem wf64_of {n : Int} (h0 : -1 ≤ n) (h1 : n ≤ 1000000) : wf64 n := by
  show (decide (IntKind.min .i64 ≤ n) && decide (n ≤ IntKind.max .i64)) = true
  have e1 : IntKind.min .i64 = -9223372036854775808 := by decide
  have e2 : IntKind.max .i64 = 9223372036854775807 := by decide
  rw [e1, e2, decide_eq_true (by omega), decide_eq_true (by omega)]; rfl
def WfE (l : List (Int × Int)) : Prop := ∀ p ∈ l, wf64 p.1 ∧ wf64 p.2
def ekey (p : Int × Int) : Lit := .string (keyBytes [.int .i64 p.1, .int .i64 p.2])
set_option maxRecDepth 100000 in
theorem keyOf_two {a b : Int} (ha : wf64 a) (hb : wf64 b) : keyOf Tryz.prog 139 (.agg #[.int .i64 a, .int .i64 b]) = some (ekey (a, b)) := by
  unfold wf64 at ha hb
  have hf : (Value.agg #[.int .i64 a, .int .i64 b]).formed Tryz.prog 139 = true := by simp [Value.formed, Tryz.underlying139, Tryz.cellsTwo]
  have hl : Tryz.prog.keyLits (323 + 1) 139 [.int .i64 a, .int .i64 b] = some [.int .i64 a, .int .i64 b] := by
    have h1 : ∀ (n : Nat) (c : Int), (Lit.int .i64 c).wf = true → Tryz.prog.keyLits (n + 1) 3 [.int .i64 c] = some [.int .i64 c] := fun n c hc => by simp [Program.keyLits, Tryz.underlying3, hc]
    unfold Program.keyLits
    simp only [Tryz.underlying139, Tryz.cellsTwo, Tryz.cellsOne]
    have e0 := h1 (323 - 1) a ha
    have e1 := h1 (323 - 1) b hb
    simp [List.range, List.range.loop, e0, e1]
  unfold keyOf
  rw [Tryz.underlying139]
  simp only [Tryz.keyTwo, hf, Bool.and_self, if_true, Tryz.ntypes]
  rw [show (Value.agg #[.int .i64 a, .int .i64 b]).cells.toList = [.int .i64 a, .int .i64 b] from rfl, hl]
  rfl
theorem ekey_inj {p q : Int × Int} (hp : wf64 p.1 ∧ wf64 p.2) (hq : wf64 q.1 ∧ wf64 q.2) (h : ekey p = ekey q) : p = q := by
  have h1 := keyOf_two hp.1 hp.2
  have h2 := keyOf_two hq.1 hq.2
  have e := Tryz.lawTwo.inj h1 (h2.trans (by rw [show ekey (p.1, p.2) = ekey (q.1, q.2) from h]))
  simp at e
  exact Prod.ext e.1 e.2
/-- A map's datum that holds a list of pairs. -/
def EdgeMap (D : DataW Unit) (l : List (Int × Int)) : Prop :=
  IsMap D ∧ (l = [] → Maps.size D = 0) ∧ ∀ p : Int × Int, wf64 p.1 → wf64 p.2 → Maps.has D (ekey p) = decide (p ∈ l)
theorem edgeMap_nil : EdgeMap (.map []) [] := ⟨isMap_empty, fun _ => rfl, fun _ _ _ => by simp [Maps.has]⟩
theorem edgeMap_put {D : DataW Unit} {l : List (Int × Int)} (h : EdgeMap D l) (p : Int × Int) (hp : wf64 p.1 ∧ wf64 p.2) : EdgeMap (D.put (ekey p) (.agg [])) (l ++ [p]) := by
  refine ⟨h.1.put _ _, fun e => by simp at e, fun q h1 h2 => ?_⟩
  by_cases e : q = p
  · subst e
    rw [Maps.has_put_same h.1 (by trivial)]
    simp
  · have hne : ekey q ≠ ekey p := fun h' => e (ekey_inj ⟨h1, h2⟩ hp h')
    rw [Maps.has_put_other hne, h.2.2 q h1 h2]
    simp [e]
theorem edgeMap_size {D : DataW Unit} {l : List (Int × Int)} (h : EdgeMap D l) (hw : WfE l) : (Maps.size D = 0 ↔ l = []) := by
  refine ⟨fun hs => ?_, h.2.1⟩
  cases l with
  | nil => rfl
  | cons p t =>
    have h1 := h.2.2 p (hw p (by simp)).1 (hw p (by simp)).2
    obtain ⟨es, rfl⟩ := h.1
    have h0 : es = [] := List.eq_nil_of_length_eq_zero hs
    subst h0
    simp [Maps.has] at h1
end Go.Proofs.YtkphpgdgbnmnjacGreatDoor

namespace Go.Proofs.YtkphpgdgbnmnjacGreatDoor
open Go.RowKit Go.Extern.Stop Go.Stop Go.Extern

theorem addC_plain (b o j : Nat) : (⟨b, o, none⟩ : Addr).add j = ⟨b, o + j, none⟩ := by unfold Addr.add; split <;> simp_all
/-- A list in a row of its own, from block B on. -/
def SlOwn {α : Type} (enc : α → List Value) (k : Nat) (T : TypeId) (B : Nat) (w : World) (v : Value) (xs : List α) : Prop := w.ownsRow B T k v xs.length (xs.flatMap enc)
theorem flat_at {α : Type} {enc : α → List Value} {k : Nat} (henc : ∀ x, (enc x).length = k) : ∀ (xs : List α) (i j : Nat) (x : α) (u : Value), xs[i]? = some x → (enc x)[j]? = some u → (xs.flatMap enc)[i * k + j]? = some u
  | [], i, j, x, u, h, _ => by simp at h
  | y :: t, 0, j, x, u, h, hu => by
    simp at h
    subst h
    have hj : j < (enc y).length := (List.getElem?_eq_some_iff.1 hu).1
    rw [List.flatMap_cons, Nat.zero_mul, Nat.zero_add, List.getElem?_append_left hj]
    exact hu
  | y :: t, i + 1, j, x, u, h, hu => by
    have ih := flat_at henc t i j x u (by simpa using h) hu
    rw [List.flatMap_cons, List.getElem?_append_right (by rw [henc]; rw [Nat.succ_mul]; omega), henc]
    have e : (i + 1) * k + j - k = i * k + j := by rw [Nat.succ_mul]; omega
    rw [e]
    exact ih
theorem flat_len {α : Type} {enc : α → List Value} {k : Nat} (henc : ∀ x, (enc x).length = k) : ∀ (xs : List α), (xs.flatMap enc).length = xs.length * k
  | [] => by simp
  | y :: t => by rw [List.flatMap_cons, List.length_append, henc, flat_len henc t, List.length_cons, Nat.succ_mul]; omega
theorem flat_of {α : Type} {enc : α → List Value} {k : Nat} (henc : ∀ x, (enc x).length = k) : ∀ (xs : List α) (n : Nat) (u : Value), (xs.flatMap enc)[n]? = some u → ∃ i j x, n = i * k + j ∧ xs[i]? = some x ∧ (enc x)[j]? = some u
  | [], n, u, h => by simp at h
  | y :: t, n, u, h => by
    rw [List.flatMap_cons] at h
    by_cases hn : n < k
    · rw [List.getElem?_append_left (by rw [henc]; exact hn)] at h
      exact ⟨0, n, y, by simp, rfl, h⟩
    · rw [List.getElem?_append_right (by rw [henc]; omega), henc] at h
      obtain ⟨i, j, x, e, h1, h2⟩ := flat_of henc t (n - k) u h
      exact ⟨i + 1, j, x, by rw [Nat.succ_mul]; omega, by simpa using h1, h2⟩
theorem SlOwn.slat {α : Type} {enc : α → List Value} {k : Nat} {T : TypeId} {B : Nat} {w : World} {v : Value} {xs : List α} (h : SlOwn enc k T B w v xs) (henc : ∀ x, (enc x).length = k) : SlAt enc k w v xs := by
  rcases h.2 with ⟨rfl, h0⟩ | ⟨g, cap, cur, rfl, hB, hg, hle, -⟩
  · have : xs = [] := List.eq_nil_of_length_eq_zero h0
    subst this
    exact ⟨none, 0, rfl, Nat.le_refl _, fun e => absurd rfl e⟩
  · refine ⟨_, cap, rfl, hle, fun _ => ⟨g, 0, rfl, fun i x hx j u hu => ?_⟩⟩
    have := h.cells (g := g) rfl (i * k + j) u (flat_at henc xs i j x u hx hu)
    rw [addC_plain] at this
    rw [Nat.add_assoc]
    exact this
theorem SlOwn.below {α : Type} {enc : α → List Value} {k : Nat} {T : TypeId} {B : Nat} {w w' : World} {v : Value} {xs : List α} (h : SlOwn enc k T B w v xs) (hb : Below w.heap.size w w') : SlOwn enc k T B w' v xs :=
  h.kept (row := none) ⟨hb.os, hb.tape, hb.output, hb.size, fun k hk _ => hb.block k hk⟩ (by by_cases e : v.ownBlock = none; exact Or.inl e; exact Or.inr e)
/-- While a block of another type is written. -/
theorem SlOwn.other {α : Type} {enc : α → List Value} {T T' : TypeId} {B b : Nat} {w w' : World} {v : Value} {xs : List α} {k : Nat} (h : SlOwn enc k T B w v xs) (hg : w.grownBy w' (some b)) {c : Array Value} {fr : Nat × Nat} (hb : w.heap[b]? = some (.cells c T' fr)) (hT : T' ≠ T) : SlOwn enc k T B w' v xs := by
  refine h.kept hg (Or.inr ?_)
  rcases h.2 with ⟨rfl, _⟩ | ⟨g, cap, cur, rfl, _, hg', _⟩
  · simp [Value.ownBlock]
  · intro e
    simp only [Value.ownBlock, Option.some.injEq] at e
    subst e
    rw [hg'] at hb
    simp only [Option.some.injEq, Obj.cells.injEq] at hb
    exact hT hb.2.1.symm
theorem grown_setCell (w : World) (b j : Nat) (v : Value) : w.grownBy (w.setCell ⟨b, j, none⟩ v) (some b) :=
  ⟨rfl, rfl, rfl, by simp [World.setCell], fun k _ hk => Below.heap_setCell _ _ _ _ (fun e => hk (by simp [e]))⟩
set_option maxHeartbeats 1000000 in
/-- 'append(nil, l...)', for the walk. -/
theorem wpList_copy {α : Type} {w : World} {ops : Array Oper} {rest : List Oper} {o : Oper} {a : Act} {Q : Exit → Act → World → Prop} (hgd : o.guard = none) (s x : Operand) (t : TypeId)
    (ho : o.op = .call { callee := .builtin .append, args := #[s, x], argTypes := #[t, t] })
    (B : Nat) (e : TypeId) (i : TypeInfo) (z : Value) (size bytes : Nat) (ht : Tryz.prog.underlying t = some (.slice e)) (hi : Tryz.prog.info? e = some i) (hz : i.zero = some z) (hsize : i.size = size) (hby : i.bytes = bytes) (hzs : z.cells.size = size) (hsz : 0 < size)
    (hs : a.eval s = .slice none 0 0) (enc : α → List Value) (henc : ∀ x, (enc x).length = size) (h1 : ∀ x, ∀ u ∈ enc x, u.oneCell' = true) (v : Value) (xs : List α) (hx : a.eval x = v) (hv : SlAt enc size w v xs) (hm : xs.length ≤ 1000000) (hbb : bytes ≤ 1000) (hB : B ≤ w.heap.size)
    (h : ∀ sa' cap' w', SlOwn enc size e B w' (.slice sa' xs.length cap') xs → Below w.heap.size w w' → wpList Tryz.prog ops Q rest (a.put o.dst (.slice sa' xs.length cap')) w') : wpList Tryz.prog ops Q (o :: rest) a w := by
  obtain ⟨sa, cap, rfl, hle, hcell⟩ := hv
  by_cases hne : xs = []
  · subst hne
    refine wpList_plain hgd fun K hK => ?_
    have hsrc : Src Tryz.prog i.size t (.slice sa 0 cap) 0 [] w := by
      cases sa with
      | none => exact Src.ofNil w ht cap
      | some ad => exact Src.ofSlice w ht ad 0 cap [] (by simp) (fun j u hu => by simp at hu) (fun u hu => by simp at hu)
    have hr := run_append_nothing (P := Tryz.prog) w t t o.type e i ht hi none 0 0 (Nat.le_refl _) (.slice sa 0 cap) hsrc
    unfold Oper.wp execOp
    simp only [List.length_nil] at hx
    simp only [ho, resolve, invoke, builtin, Sem.run_bind, Sem.run_pure, Result.andThen_ok, List.map_toArray, List.map_cons, List.map_nil, hs, hx, hr]
    exact hK _ _ (h none 0 w (World.ownsRow_nil _ _ _ _) (Below.refl _ _))
  · obtain ⟨b, of, rfl, hc⟩ := hcell hne
    refine wpList_append_own w hgd s x t ho w.heap.size e i z size bytes ht hi hz hsize hby hzs hsz (.slice none 0 0) 0 [] hs (World.ownsRow_nil _ _ _ _) ⟨b, of, none⟩ xs.length cap (xs.flatMap enc) hx (flat_len henc xs) (fun j u hu => ?_) (fun u hu => ?_) (by unfold maxLen; omega) ?_ (Nat.le_refl _) (fun v' w' hown hg hn => ?_)
    · obtain ⟨i', j', y, e1, h2, h3⟩ := flat_of henc xs j u hu
      have := hc i' y h2 j' u h3
      rw [e1, addC_plain, ← Nat.add_assoc]
      exact this
    · simp only [List.mem_flatMap] at hu
      obtain ⟨y, -, hy⟩ := hu
      exact h1 y u hy
    · have : (0 + xs.length) * bytes ≤ 1000000 * 1000 := Nat.mul_le_mul (by omega) hbb
      omega
    · have hown' : w'.ownsRow w.heap.size e size v' xs.length (xs.flatMap enc) := by simpa using hown
      have hb : Below w.heap.size w w' := (Below.refl _ _).grown hg (Nat.le_refl _) (fun k hk => by simp [Value.ownBlock] at hk)
      rcases hown'.2 with ⟨rfl, h0⟩ | ⟨g, cap2, cur, rfl, hB2, r⟩
      · exact absurd (List.eq_nil_of_length_eq_zero h0) hne
      · exact h _ _ w' ⟨hown'.1, Or.inr ⟨g, cap2, cur, rfl, Nat.le_trans hB hB2, r⟩⟩ hb
end Go.Proofs.YtkphpgdgbnmnjacGreatDoor
