/-
  One entity as package local keeps it, pure ('NSt'; none: idle), and that it is the document's ('nsim'). No condition.
-/
import Derived.Test.YtpaolneaomeoiabDoorLcPure
namespace Go.Proofs.YtpaolneaomeoiabDoor
open Go

/-- The three watches. -/
structure WSt where
  a : ASt
  g : GSt
  f : FSt
def WSt.new (e : EntD) : WSt := ⟨⟨ptOf e.cnt e.pts.length, e.mn, e.mx, 0⟩, GSt.new e.gaps, ⟨-1, false⟩⟩
def WSt.rep (e : EntD) (s : WSt) (p t : Int) : WSt := ⟨s.a.rep p, s.g.rep p t, s.f.rep e p⟩
def WSt.zero (s : WSt) : WSt := ⟨s.a.zero, s.g.zero, s.f.zero⟩
def WSt.kind (s : WSt) (whole : Bool) : Int := kindW s.a s.g s.f whole
/-- An active entity. -/
structure NSt where
  w : WSt
  whole : Bool
  run : Nat
  ex : Bool
def NSt.new (e : EntD) : NSt := ⟨WSt.new e, false, 0, false⟩
def NSt.kind (s : NSt) : Int := s.w.kind s.whole
def NSt.rep (e : EntD) (s : NSt) (p t : Int) : NSt := if hasP e p = true then { s with w := s.w.rep e p t } else s
def NSt.run1 (s : NSt) : Nat := if s.kind = 0 then 0 else s.run + 1
def NSt.turns (e : EntD) (s : NSt) : Bool := decide (s.kind ≠ 0) && (!s.ex && decide (e.tol < (s.run + 1 : Int)))
def NSt.fin (e : EntD) (s : NSt) : NSt := ⟨s.w.zero, true, s.run1, s.ex || s.turns e⟩
def NSt.status (s : NSt) : Nat := if s.ex then 3 else if s.run = 0 then 1 else 2
theorem rep_len (s : GSt) (p t : Int) : (s.rep p t).xs.length = s.xs.length := by unfold GSt.rep; split <;> simp
theorem zero_len (s : GSt) : s.zero.xs.length = s.xs.length := rfl
/-- Both are one: the three watches keep what the document asks of all reports. -/
structure NSim (e : EntD) (n : NSt) (s : LSt) : Prop where
  act : s.act = true
  a : n.w.a = simA e s.ms s.since
  g : n.w.g = simG e.gaps s.ms s.since
  f : n.w.f = simF e s.ms s.since
  whole : n.whole = decide (0 < s.since)
  run : s.run = (n.run : Int)
  ex : n.ex = s.ex
theorem NSim.new (e : EntD) (s : LSt) (h : s.act = false) : NSim e (NSt.new e) s.begin := by
  have hb : s.begin = ⟨true, 0, [], 0, false⟩ := by unfold LSt.begin; rw [h]; rfl
  rw [hb]
  exact ⟨rfl, (simA_new e).symm, sim_new e.gaps, (simF_new e).symm, by simp [NSt.new], rfl, rfl⟩
theorem NSim.rep {e : EntD} {n : NSt} {s : LSt} (h : NSim e n s) (p t : Int) (hl : s.ms.length < 1000) (ht : tickOk t = true) : NSim e (n.rep e p t) (s.rep e p t) := by
  unfold NSt.rep LSt.rep
  by_cases hp : hasP e p = true
  · rw [if_pos hp, if_pos ⟨h.act, hp⟩]
    refine ⟨h.act, ?_, ?_, ?_, h.whole, h.run, h.ex⟩
    · show n.w.a.rep p = _
      rw [h.a]; exact simA_rep e s.ms s.since p t hl
    · show n.w.g.rep p t = _
      rw [h.g]; exact sim_rep e.gaps s.ms s.since p t ht
    · show n.w.f.rep e p = _
      rw [h.f]; exact simF_rep e s.ms s.since p t
  · rw [if_neg hp, if_neg (fun x => hp x.2)]
    exact h
theorem NSim.kind {e : EntD} {n : NSt} {s : LSt} (h : NSim e n s) (hc : e.cnt < (e.pts.length : Int)) : n.kind = s.kind e := by
  unfold NSt.kind WSt.kind LSt.kind
  rw [h.a, h.g, h.f, h.whole, kind_sim hc, if_pos h.act]
theorem NSim.turns {e : EntD} {n : NSt} {s : LSt} (h : NSim e n s) (hc : e.cnt < (e.pts.length : Int)) (ht : 0 ≤ e.tol) : n.turns e = s.turns e := by
  have hk := h.kind hc
  unfold LSt.kind at hk
  rw [if_pos h.act] at hk
  unfold NSt.turns LSt.turns LSt.run1
  rw [hk, h.act, h.ex, h.run]
  by_cases h0 : kindOf e s.ms s.since = 0
  · simp [h0]; omega
  · simp [h0]
theorem NSim.fin {e : EntD} {n : NSt} {s : LSt} (h : NSim e n s) (hc : e.cnt < (e.pts.length : Int)) (ht : 0 ≤ e.tol) (hm : ∀ m ∈ s.ms, m.cyc ≤ s.since) (h0 : 0 ≤ s.since) : NSim e (n.fin e) (s.fin e) := by
  have hk := h.kind hc
  have htu := h.turns hc ht
  unfold LSt.kind at hk
  rw [if_pos h.act] at hk
  unfold NSt.fin LSt.fin
  rw [if_pos h.act]
  refine ⟨rfl, ?_, ?_, ?_, ?_, ?_, ?_⟩
  · show n.w.a.zero = _
    rw [h.a]; exact simA_end hm
  · show n.w.g.zero = _
    rw [h.g]; exact sim_end hm
  · show n.w.f.zero = _
    rw [h.f]; exact simF_end hm
  · show true = decide (0 < s.since + 1)
    rw [decide_eq_true (by omega)]
  · show s.run1 e = ((n.run1 : Nat) : Int)
    unfold LSt.run1 NSt.run1
    rw [hk, h.run]
    split <;> simp
  · show (n.ex || n.turns e) = (s.ex || decide (e.tol < s.run1 e))
    rw [htu, h.ex]
    unfold LSt.turns
    rw [h.act]
    cases s.ex <;> simp
theorem NSim.status {e : EntD} {n : NSt} {s : LSt} (h : NSim e n s) : n.status = s.status := by
  unfold NSt.status LSt.status
  rw [h.act, h.ex, h.run]
  cases s.ex
  · by_cases hr : n.run = 0
    · simp [hr]
    · simp [hr, Nat.pos_of_ne_zero hr]
  · rfl
end Go.Proofs.YtpaolneaomeoiabDoor
