/-
  Several texts as one: LcPure, LoPure, LkPure. What each holds: LcPure: One entity, pure: what the document keeps of it ('LSt': all reports since it began), what was not well in a cycle ('kindOf'), and that the three watches tell the same ('kind_sim'). No condition. | LoPure: One entity as package local keeps it, pure ('NSt'; none: idle), and that it is the document's ('nsim'). No condition. | LkPure: LocalKinds, pure: the four entities, and that what one watch alone finds bad is told by all three ('Kin.kind'). No condition.
-/
import Derived.Test.YtpaolneaomeoiabDoorPureX
import Derived.Test.YtpaolneaomeoiabDoorAlStX
namespace Go.Proofs.YtpaolneaomeoiabDoor
open Go

/-- How many reports of the counted point a cycle has. -/
def countIn (cnt : Int) (l : List MkD) (cyc : Int) : Nat := l.countP (fun m => decide (m.cyc = cyc) && decide (m.pt = cnt))
theorem countIn_snoc (cnt : Int) (l : List MkD) (m : MkD) (cyc : Int) : countIn cnt (l ++ [m]) cyc = countIn cnt l cyc + (if m.cyc = cyc ∧ m.pt = cnt then 1 else 0) := by
  unfold countIn
  rw [List.countP_append]
  simp only [List.countP_cons, List.countP_nil, Nat.zero_add]
  by_cases h : m.cyc = cyc <;> by_cases h2 : m.pt = cnt <;> simp [h, h2]
theorem countIn_next {cnt : Int} {l : List MkD} {cyc : Int} (h : ∀ m ∈ l, m.cyc < cyc) : countIn cnt l cyc = 0 := by
  unfold countIn
  rw [List.countP_eq_zero]
  intro m hm
  have := h m hm
  simp only [Bool.and_eq_true, decide_eq_true_eq, not_and]
  intro e
  omega
theorem countIn_le (cnt : Int) (l : List MkD) (cyc : Int) : countIn cnt l cyc ≤ l.length := List.countP_le_length
/-- What was not well in a cycle (0: all was; 1: alive; 2: gaps; 3: flow). -/
def kindOf (e : EntD) (l : List MkD) (cyc : Int) : Int :=
  if 0 ≤ e.cnt ∧ 0 < cyc ∧ ((countIn e.cnt l cyc : Int) < e.mn ∨ e.mx < (countIn e.cnt l cyc : Int)) then 1
  else if e.gaps.any (fun g => gapBad g l cyc) = true then 2
  else if flowBad e l cyc = true then 3 else 0
/-- The counter behind all reports. -/
def simA (e : EntD) (l : List MkD) (cyc : Int) : ASt := ⟨ptOf e.cnt e.pts.length, e.mn, e.mx, if ptOf e.cnt e.pts.length = -1 then 0 else countIn e.cnt l cyc⟩
theorem simA_new (e : EntD) : simA e [] 0 = ⟨ptOf e.cnt e.pts.length, e.mn, e.mx, 0⟩ := by
  unfold simA countIn
  simp
theorem ptOf_is {cnt : Int} {n : Nat} (h : ptOf cnt n ≠ -1) : ptOf cnt n = cnt := by
  unfold ptOf at h ⊢
  split
  · rename_i h2; rw [if_pos h2] at h; exact absurd rfl h
  · rfl
theorem simA_rep (e : EntD) (l : List MkD) (cyc p t : Int) (hl : l.length < 1000) : (simA e l cyc).rep p = simA e (l ++ [⟨p, t, cyc⟩]) cyc := by
  unfold ASt.rep
  by_cases h : ptOf e.cnt e.pts.length = -1
  · rw [if_neg (by simp [simA, h])]
    simp [simA, h]
  · have hp := ptOf_is h
    have hc := countIn_le e.cnt l cyc
    by_cases hpp : p = e.cnt
    · have e1 : (simA e l cyc).pt ≠ -1 ∧ p = (simA e l cyc).pt ∧ (simA e l cyc).n < 1000 := by
        refine ⟨h, ?_, ?_⟩
        · simp [simA, hp, hpp]
        · simp only [simA, if_neg h]; omega
      rw [if_pos e1]
      simp only [simA, if_neg h, countIn_snoc, hpp, and_self, if_true]
    · rw [if_neg (by simp only [simA]; rw [hp]; exact fun x => hpp x.2.1)]
      simp only [simA, if_neg h, countIn_snoc]
      rw [if_neg (fun x => hpp x.2)]
      rfl
theorem simA_end {e : EntD} {l : List MkD} {cyc : Int} (h : ∀ m ∈ l, m.cyc ≤ cyc) : (simA e l cyc).zero = simA e l (cyc + 1) := by
  unfold ASt.zero simA
  rw [countIn_next (cyc := cyc + 1) (fun m hm => by have := h m hm; omega)]
  simp
/-- The three watches' verdict is the document's. -/
def kindW (a : ASt) (g : GSt) (f : FSt) (whole : Bool) : Int := if a.well whole = false then 1 else if g.bad = true then 2 else if f.bad = true then 3 else 0
theorem kind_sim {e : EntD} {l : List MkD} {cyc : Int} (hc : e.cnt < (e.pts.length : Int)) : kindW (simA e l cyc) (simG e.gaps l cyc) (simF e l cyc) (decide (0 < cyc)) = kindOf e l cyc := by
  unfold kindW kindOf
  have e1 : ((simA e l cyc).well (decide (0 < cyc)) = false) ↔ (0 ≤ e.cnt ∧ 0 < cyc ∧ ((countIn e.cnt l cyc : Int) < e.mn ∨ e.mx < (countIn e.cnt l cyc : Int))) := by
    unfold ASt.well
    by_cases h : 0 ≤ e.cnt
    · have hp : ptOf e.cnt e.pts.length = e.cnt := by unfold ptOf; rw [if_neg (by omega)]
      have hn : ¬ e.cnt = -1 := by omega
      simp only [simA, hp, if_neg hn]
      generalize ((countIn e.cnt l cyc : Nat) : Int) = n
      by_cases a1 : e.mn ≤ n <;> by_cases a2 : n ≤ e.mx <;> by_cases a3 : 0 < cyc <;> simp [a1, a2, a3, hn, h] <;> omega
    · have hp : ptOf e.cnt e.pts.length = -1 := by unfold ptOf; rw [if_pos (by omega)]
      simp [simA, hp]
      omega
  by_cases h1 : (0 ≤ e.cnt ∧ 0 < cyc ∧ ((countIn e.cnt l cyc : Int) < e.mn ∨ e.mx < (countIn e.cnt l cyc : Int)))
  · rw [if_pos h1, if_pos (e1.2 h1)]
  · rw [if_neg h1, if_neg (fun x => h1 (e1.1 x))]
    rfl
/-- An entity as the document keeps it. -/
structure LSt where
  act : Bool
  since : Int
  ms : List MkD
  run : Int
  ex : Bool
def LSt.new : LSt := ⟨false, 0, [], 0, false⟩
/-- Begin, Stop: an error's number, what is behind. -/
def LSt.begin (s : LSt) : LSt := if s.act then s else ⟨true, 0, [], 0, false⟩
def LSt.stop (s : LSt) : LSt := { s with act := false }
def LSt.rep (e : EntD) (s : LSt) (p t : Int) : LSt := if s.act ∧ hasP e p = true then { s with ms := s.ms ++ [⟨p, t, s.since⟩] } else s
def LSt.run1 (e : EntD) (s : LSt) : Int := if kindOf e s.ms s.since = 0 then 0 else s.run + 1
def LSt.turns (e : EntD) (s : LSt) : Bool := s.act && (!s.ex && decide (e.tol < s.run1 e))
def LSt.fin (e : EntD) (s : LSt) : LSt := if s.act then ⟨true, s.since + 1, s.ms, s.run1 e, s.ex || decide (e.tol < s.run1 e)⟩ else s
def LSt.kind (e : EntD) (s : LSt) : Int := if s.act then kindOf e s.ms s.since else 0
/-- The status: 0 idle, 1 ok, 2 failed, 3 expired. -/
def LSt.status (s : LSt) : Nat := if s.act then (if s.ex then 3 else if 0 < s.run then 2 else 1) else 0
/-- What is always so. -/
structure LFit (s : LSt) (k : Nat) : Prop where
  len : s.ms.length ≤ k
  each : ∀ m ∈ s.ms, m.cyc ≤ s.since
  s0 : 0 ≤ s.since
  s1 : s.since ≤ (k : Int)
  r0 : 0 ≤ s.run
  r1 : s.run ≤ s.since
theorem LFit.new : LFit LSt.new 0 := ⟨Nat.le_refl _, fun m hm => (by cases hm), Int.le_refl _, Int.le_refl _, Int.le_refl _, Int.le_refl _⟩
theorem LFit.mono {s : LSt} {k n : Nat} (h : LFit s k) (hn : k ≤ n) : LFit s n := ⟨Nat.le_trans h.len hn, h.each, h.s0, by have := h.s1; omega, h.r0, h.r1⟩
theorem LFit.begin {s : LSt} {k : Nat} (h : LFit s k) : LFit s.begin (k + 1) := by
  unfold LSt.begin
  split
  · exact h.mono (by omega)
  · exact ⟨Nat.zero_le _, fun m hm => (by cases hm), Int.le_refl _, by simp; omega, Int.le_refl _, Int.le_refl _⟩
theorem LFit.stop {s : LSt} {k : Nat} (h : LFit s k) : LFit s.stop (k + 1) := ⟨Nat.le_trans h.len (by omega), h.each, h.s0, by have := h.s1; show s.since ≤ _; push_cast; omega, h.r0, h.r1⟩
theorem LFit.rep {e : EntD} {s : LSt} {k : Nat} (h : LFit s k) (p t : Int) : LFit (s.rep e p t) (k + 1) := by
  unfold LSt.rep
  split
  · refine ⟨by have := h.len; simp; omega, fun m hm => ?_, h.s0, by have := h.s1; show s.since ≤ _; push_cast; omega, h.r0, h.r1⟩
    rw [List.mem_append] at hm
    rcases hm with hm | hm
    · exact h.each m hm
    · rw [List.mem_singleton] at hm; subst hm; exact Int.le_refl _
  · exact h.mono (by omega)
theorem LFit.fin {e : EntD} {s : LSt} {k : Nat} (h : LFit s k) : LFit (s.fin e) (k + 1) := by
  unfold LSt.fin
  split
  · have h1 := h.r0
    have h2 := h.r1
    have h3 := h.s0
    have hr : 0 ≤ s.run1 e ∧ s.run1 e ≤ s.since + 1 := by unfold LSt.run1; split <;> omega
    refine ⟨Nat.le_trans h.len (by omega), fun m hm => by have := h.each m hm; show m.cyc ≤ s.since + 1; omega, by show 0 ≤ s.since + 1; omega, by have := h.s1; show s.since + 1 ≤ _; push_cast; omega, hr.1, hr.2⟩
  · exact h.mono (by omega)
end Go.Proofs.YtpaolneaomeoiabDoor

namespace Go.Proofs.YtpaolneaomeoiabDoor
open Go

/-- The three watches. -/
structure WSt where
  a : ASt
  g : GSt
  f : FSt
def WSt.new (e : EntD) : WSt := ⟨⟨ptOf e.cnt e.pts.length, e.mn, e.mx, 0⟩, GSt.new e.gaps, ⟨-1, false⟩⟩
def WSt.rep (e : EntD) (s : WSt) (p t : Int) : WSt := ⟨s.a.rep p, s.g.rep p t, s.f.rep e p⟩
def WSt.zero (s : WSt) : WSt := ⟨s.a.zero, s.g.zero, s.f.zero⟩
def WSt.kind (s : WSt) (whole : Bool) : Int := kindW s.a s.g s.f whole
/-- An active entity. -/
structure NSt where
  w : WSt
  whole : Bool
  run : Nat
  ex : Bool
def NSt.new (e : EntD) : NSt := ⟨WSt.new e, false, 0, false⟩
def NSt.kind (s : NSt) : Int := s.w.kind s.whole
def NSt.rep (e : EntD) (s : NSt) (p t : Int) : NSt := if hasP e p = true then { s with w := s.w.rep e p t } else s
def NSt.run1 (s : NSt) : Nat := if s.kind = 0 then 0 else s.run + 1
def NSt.turns (e : EntD) (s : NSt) : Bool := decide (s.kind ≠ 0) && (!s.ex && decide (e.tol < (s.run + 1 : Int)))
def NSt.fin (e : EntD) (s : NSt) : NSt := ⟨s.w.zero, true, s.run1, s.ex || s.turns e⟩
def NSt.status (s : NSt) : Nat := if s.ex then 3 else if s.run = 0 then 1 else 2
theorem rep_len (s : GSt) (p t : Int) : (s.rep p t).xs.length = s.xs.length := by unfold GSt.rep; split <;> simp
theorem zero_len (s : GSt) : s.zero.xs.length = s.xs.length := rfl
/-- Both are one: the three watches keep what the document asks of all reports. -/
structure NSim (e : EntD) (n : NSt) (s : LSt) : Prop where
  act : s.act = true
  a : n.w.a = simA e s.ms s.since
  g : n.w.g = simG e.gaps s.ms s.since
  f : n.w.f = simF e s.ms s.since
  whole : n.whole = decide (0 < s.since)
  run : s.run = (n.run : Int)
  ex : n.ex = s.ex
theorem NSim.new (e : EntD) (s : LSt) (h : s.act = false) : NSim e (NSt.new e) s.begin := by
  have hb : s.begin = ⟨true, 0, [], 0, false⟩ := by unfold LSt.begin; rw [h]; rfl
  rw [hb]
  exact ⟨rfl, (simA_new e).symm, sim_new e.gaps, (simF_new e).symm, by simp [NSt.new], rfl, rfl⟩
theorem NSim.rep {e : EntD} {n : NSt} {s : LSt} (h : NSim e n s) (p t : Int) (hl : s.ms.length < 1000) (ht : tickOk t = true) : NSim e (n.rep e p t) (s.rep e p t) := by
  unfold NSt.rep LSt.rep
  by_cases hp : hasP e p = true
  · rw [if_pos hp, if_pos ⟨h.act, hp⟩]
    refine ⟨h.act, ?_, ?_, ?_, h.whole, h.run, h.ex⟩
    · show n.w.a.rep p = _
      rw [h.a]; exact simA_rep e s.ms s.since p t hl
    · show n.w.g.rep p t = _
      rw [h.g]; exact sim_rep e.gaps s.ms s.since p t ht
    · show n.w.f.rep e p = _
      rw [h.f]; exact simF_rep e s.ms s.since p t
  · rw [if_neg hp, if_neg (fun x => hp x.2)]
    exact h
theorem NSim.kind {e : EntD} {n : NSt} {s : LSt} (h : NSim e n s) (hc : e.cnt < (e.pts.length : Int)) : n.kind = s.kind e := by
  unfold NSt.kind WSt.kind LSt.kind
  rw [h.a, h.g, h.f, h.whole, kind_sim hc, if_pos h.act]
theorem NSim.turns {e : EntD} {n : NSt} {s : LSt} (h : NSim e n s) (hc : e.cnt < (e.pts.length : Int)) (ht : 0 ≤ e.tol) : n.turns e = s.turns e := by
  have hk := h.kind hc
  unfold LSt.kind at hk
  rw [if_pos h.act] at hk
  unfold NSt.turns LSt.turns LSt.run1
  rw [hk, h.act, h.ex, h.run]
  by_cases h0 : kindOf e s.ms s.since = 0
  · simp [h0]; omega
  · simp [h0]
theorem NSim.fin {e : EntD} {n : NSt} {s : LSt} (h : NSim e n s) (hc : e.cnt < (e.pts.length : Int)) (ht : 0 ≤ e.tol) (hm : ∀ m ∈ s.ms, m.cyc ≤ s.since) (h0 : 0 ≤ s.since) : NSim e (n.fin e) (s.fin e) := by
  have hk := h.kind hc
  have htu := h.turns hc ht
  unfold LSt.kind at hk
  rw [if_pos h.act] at hk
  unfold NSt.fin LSt.fin
  rw [if_pos h.act]
  refine ⟨rfl, ?_, ?_, ?_, ?_, ?_, ?_⟩
  · show n.w.a.zero = _
    rw [h.a]; exact simA_end hm
  · show n.w.g.zero = _
    rw [h.g]; exact sim_end hm
  · show n.w.f.zero = _
    rw [h.f]; exact simF_end hm
  · show true = decide (0 < s.since + 1)
    rw [decide_eq_true (by omega)]
  · show s.run1 e = ((n.run1 : Nat) : Int)
    unfold LSt.run1 NSt.run1
    rw [hk, h.run]
    split <;> simp
  · show (n.ex || n.turns e) = (s.ex || decide (e.tol < s.run1 e))
    rw [htu, h.ex]
    unfold LSt.turns
    rw [h.act]
    cases s.ex <;> simp
theorem NSim.status {e : EntD} {n : NSt} {s : LSt} (h : NSim e n s) : n.status = s.status := by
  unfold NSt.status LSt.status
  rw [h.act, h.ex, h.run]
  cases s.ex
  · by_cases hr : n.run = 0
    · simp [hr]
    · simp [hr, Nat.pos_of_ne_zero hr]
  · rfl
end Go.Proofs.YtpaolneaomeoiabDoor

namespace Go.Proofs.YtpaolneaomeoiabDoor
open Go

/-- The entity, with all watches, with one alone. -/
def ke (e : EntD) : Nat → EntD
  | 0 => e
  | 1 => ⟨e.name, e.tol, e.pts, e.cnt, e.mn, e.mx, [], [], [], []⟩
  | 2 => ⟨e.name, e.tol, e.pts, -1, 0, 0, e.gaps, [], [], []⟩
  | _ => ⟨e.name, e.tol, e.pts, -1, 0, 0, [], e.edges, e.first, e.last⟩
theorem ke_pts (e : EntD) (i : Nat) : (ke e i).pts = e.pts := by
  match i with
  | 0 => rfl
  | 1 => rfl
  | 2 => rfl
  | n + 3 => rfl
theorem ke_has (e : EntD) (i : Nat) (p : Int) : hasP (ke e i) p = hasP e p := by unfold hasP; rw [ke_pts]
structure Kin (e : EntD) (ns : Nat → NSt) (r : Nat) (wh : Bool) : Prop where
  wh : ∀ i, i < 4 → (ns i).whole = wh
  run : ∀ i, i < 4 → (ns i).run ≤ r
  a1 : (ns 1).w.a = (ns 0).w.a
  g1 : (ns 1).w.g = ⟨[], false⟩
  f1 : (ns 1).w.f.bad = false
  a2 : (ns 2).w.a.pt = -1
  g2 : (ns 2).w.g = (ns 0).w.g
  f2 : (ns 2).w.f.bad = false
  a3 : (ns 3).w.a.pt = -1
  g3 : (ns 3).w.g = ⟨[], false⟩
  f3 : (ns 3).w.f = (ns 0).w.f
theorem ptOf_none (n : Nat) : ptOf (-1) n = -1 := by unfold ptOf; rw [if_pos (Or.inl (by omega))]
theorem Kin.new (e : EntD) : Kin e (fun i => NSt.new (ke e i)) 0 false :=
  ⟨fun _ _ => rfl, fun _ _ => Nat.le_refl _, rfl, rfl, rfl, ptOf_none e.pts.length, rfl, rfl, ptOf_none e.pts.length, rfl, rfl⟩
theorem pt_rep (a : ASt) (p : Int) : (a.rep p).pt = a.pt := by unfold ASt.rep; split <;> rfl
theorem g_nil (p t : Int) : GSt.rep ⟨[], false⟩ p t = ⟨[], false⟩ := by unfold GSt.rep; split <;> rfl
theorem f_free {e : EntD} (h : e.edges = []) (s : FSt) (p : Int) (hs : s.bad = false) : (s.rep e p).bad = false := by
  show (s.bad || !bearsE e s.ah p) = false
  unfold bearsE
  rw [hs, decide_eq_true h]
  rfl
theorem Kin.rep {e : EntD} {ns : Nat → NSt} {r : Nat} {wh : Bool} (h : Kin e ns r wh) (p t : Int) : Kin e (fun i => (ns i).rep (ke e i) p t) r wh := by
  cases hp : hasP e p with
  | false =>
    have : (fun i => (ns i).rep (ke e i) p t) = ns := by
      funext i
      unfold NSt.rep
      rw [ke_has, hp]
      rfl
    rw [this]
    exact h
  | true =>
    have he : ∀ i, (ns i).rep (ke e i) p t = { ns i with w := (ns i).w.rep (ke e i) p t } := fun i => by
      unfold NSt.rep
      rw [ke_has, hp]
      rfl
    refine ⟨fun i hi => ?_, fun i hi => ?_, ?_, ?_, ?_, ?_, ?_, ?_, ?_, ?_, ?_⟩
    · simp only [he]; exact h.wh i hi
    · simp only [he]; exact h.run i hi
    · simp only [he]; show (ns 1).w.a.rep p = (ns 0).w.a.rep p; rw [h.a1]
    · simp only [he]; show (ns 1).w.g.rep p t = _; rw [h.g1, g_nil]
    · simp only [he]; exact f_free rfl _ p h.f1
    · simp only [he]; show ((ns 2).w.a.rep p).pt = _; rw [pt_rep, h.a2]
    · simp only [he]; show (ns 2).w.g.rep p t = (ns 0).w.g.rep p t; rw [h.g2]
    · simp only [he]; exact f_free rfl _ p h.f2
    · simp only [he]; show ((ns 3).w.a.rep p).pt = _; rw [pt_rep, h.a3]
    · simp only [he]; show (ns 3).w.g.rep p t = _; rw [h.g3, g_nil]
    · simp only [he]; show (ns 3).w.f.rep (ke e 3) p = (ns 0).w.f.rep (ke e 0) p; rw [h.f3]; rfl
theorem Kin.fin {e : EntD} {ns : Nat → NSt} {r : Nat} {wh : Bool} (h : Kin e ns r wh) : Kin e (fun i => (ns i).fin (ke e i)) (r + 1) true := by
  refine ⟨fun _ _ => rfl, fun i hi => ?_, ?_, ?_, rfl, ?_, ?_, rfl, ?_, ?_, ?_⟩
  · have := h.run i hi
    show (ns i).run1 ≤ _
    unfold NSt.run1
    split <;> omega
  · show (ns 1).w.a.zero = (ns 0).w.a.zero; rw [h.a1]
  · show (ns 1).w.g.zero = _; rw [h.g1]; rfl
  · exact h.a2
  · show (ns 2).w.g.zero = (ns 0).w.g.zero; rw [h.g2]
  · exact h.a3
  · show (ns 3).w.g.zero = _; rw [h.g3]; rfl
  · show (ns 3).w.f.zero = (ns 0).w.f.zero; rw [h.f3]
theorem well_none {a : ASt} (h : a.pt = -1) (wh : Bool) : a.well wh = true := by unfold ASt.well; rw [decide_eq_true h, Bool.or_true]
/-- The kind told is the first of the three. -/
theorem Kin.kind {e : EntD} {ns : Nat → NSt} {r : Nat} {wh : Bool} (h : Kin e ns r wh) :
    (ns 0).kind = if (ns 1).kind = 0 then (if (ns 2).kind = 0 then (ns 3).kind else (ns 2).kind) else (ns 1).kind := by
  have k1 : (ns 1).kind = if (ns 0).w.a.well wh = false then 1 else 0 := by
    unfold NSt.kind WSt.kind kindW
    rw [h.wh 1 (by decide), h.a1, h.g1, h.f1]
    split <;> rfl
  have k2 : (ns 2).kind = if (ns 0).w.g.bad = true then 2 else 0 := by
    unfold NSt.kind WSt.kind kindW
    rw [well_none h.a2, h.g2, h.f2]
    rfl
  have k3 : (ns 3).kind = if (ns 0).w.f.bad = true then 3 else 0 := by
    unfold NSt.kind WSt.kind kindW
    rw [well_none h.a3, h.g3, h.f3]
    rfl
  rw [k1, k2, k3]
  unfold NSt.kind WSt.kind kindW
  rw [h.wh 0 (by decide)]
  cases (ns 0).w.a.well wh <;> cases (ns 0).w.g.bad <;> cases (ns 0).w.f.bad <;> simp
end Go.Proofs.YtpaolneaomeoiabDoor
