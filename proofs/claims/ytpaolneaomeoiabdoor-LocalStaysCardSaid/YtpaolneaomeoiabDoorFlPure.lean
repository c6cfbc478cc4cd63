/-
  The order of reports, pure: what package flow keeps ('FSt'), what the document asks of all reports ('flowBad'), and that both are one ('simF_rep', 'simF_end'). No condition.
-/
import Derived.Test.YtpaolneaomeoiabDoorGaPure
namespace Go.Proofs.YtpaolneaomeoiabDoor

def hasP (e : EntD) (p : Int) : Bool := decide (0 ≤ p) && decide (p < (e.pts.length : Int))
/-- May a point come behind another one (-1: none)? -/
def bearsE (e : EntD) (ah p : Int) : Bool := decide (e.edges = []) || (hasP e p && (if ah = -1 then decide (p ∈ e.first) else decide ((ah, p) ∈ e.edges)))
/-- Which point is ahead behind a report. -/
def behindE (e : EntD) (p : Int) : Int := if hasP e p = true ∧ p ∉ e.last then p else -1
structure FSt where
  ah : Int
  bad : Bool
def FSt.rep (e : EntD) (s : FSt) (p : Int) : FSt := ⟨behindE e p, s.bad || !bearsE e s.ah p⟩
def FSt.zero (s : FSt) : FSt := ⟨s.ah, false⟩
theorem behind_fit (e : EntD) (p : Int) : behindE e p = -1 ∨ (0 ≤ behindE e p ∧ behindE e p < (e.pts.length : Int)) := by
  unfold behindE
  split
  · rename_i h
    right
    have := h.1
    unfold hasP at this
    simp at this
    exact this
  · exact Or.inl rfl
/-- Which point is ahead of the next report. -/
def aheadOf (e : EntD) (l : List MkD) : Int := match l.getLast? with
  | some m => behindE e m.pt
  | none => -1
theorem aheadOf_nil (e : EntD) : aheadOf e [] = -1 := rfl
theorem aheadOf_snoc (e : EntD) (l : List MkD) (m : MkD) : aheadOf e (l ++ [m]) = behindE e m.pt := by unfold aheadOf; simp
theorem aheadOf_take {e : EntD} {l : List MkD} {k : Nat} {m : MkD} (h : l[k]? = some m) : aheadOf e (l.take (k + 1)) = behindE e m.pt := by
  rw [List.take_add_one, h]; exact aheadOf_snoc e _ m
theorem aheadOf_fit (e : EntD) (l : List MkD) : aheadOf e l = -1 ∨ (0 ≤ aheadOf e l ∧ aheadOf e l < (e.pts.length : Int)) := by
  unfold aheadOf
  split
  · exact behind_fit e _
  · exact Or.inl rfl
def fbadM (e : EntD) (l : List MkD) (m : MkD) : Bool := !bearsE e (aheadOf e l) m.pt
def fbadI (e : EntD) (l : List MkD) (cyc : Int) (i : Nat) : Bool := match l[i]? with
  | some m => decide (m.cyc = cyc) && fbadM e (l.take i) m
  | none => false
def flowBad (e : EntD) (l : List MkD) (cyc : Int) : Bool := (List.range l.length).any (fbadI e l cyc)
theorem flowBad_of {e : EntD} {l : List MkD} {cyc : Int} {k : Nat} (hk : k < l.length) (h : fbadI e l cyc k = true) : flowBad e l cyc = true := by
  unfold flowBad; rw [List.any_eq_true]; exact ⟨k, by simpa using hk, h⟩
theorem flowBad_no {e : EntD} {l : List MkD} {cyc : Int} (h : ∀ k, k < l.length → fbadI e l cyc k = false) : flowBad e l cyc = false := by
  unfold flowBad; rw [List.any_eq_false]; intro k hk; rw [h k (by simpa using hk)]; simp
theorem flowBad_snoc (e : EntD) (l : List MkD) (m : MkD) (cyc : Int) (hm : m.cyc = cyc) : flowBad e (l ++ [m]) cyc = (flowBad e l cyc || fbadM e l m) := by
  have e1 : fbadI e (l ++ [m]) cyc l.length = fbadM e l m := by
    unfold fbadI; simp [hm]
  have e2 : ∀ k, k < l.length → fbadI e (l ++ [m]) cyc k = fbadI e l cyc k := fun k hk => by
    unfold fbadI
    rw [List.getElem?_append_left hk, List.take_append_of_le_length (by omega)]
  unfold flowBad
  rw [List.length_append, show [m].length = 1 from rfl, List.range_succ, List.any_append]
  simp only [List.any_cons, List.any_nil, Bool.or_false, e1]
  congr 1
  rw [Bool.eq_iff_iff]
  simp only [List.any_eq_true, List.mem_range]
  constructor
  · rintro ⟨k, hk, h⟩; exact ⟨k, hk, by rwa [e2 k hk] at h⟩
  · rintro ⟨k, hk, h⟩; exact ⟨k, hk, by rwa [e2 k hk]⟩
theorem flowBad_next {e : EntD} {l : List MkD} {cyc : Int} (h : ∀ m ∈ l, m.cyc < cyc) : flowBad e l cyc = false := by
  refine flowBad_no fun k hk => ?_
  unfold fbadI
  rw [List.getElem?_eq_getElem hk]
  have := h _ (List.getElem_mem hk)
  simp only
  rw [decide_eq_false (by omega)]; rfl
/-- What package flow keeps of the reports so far. -/
def simF (e : EntD) (l : List MkD) (cyc : Int) : FSt := ⟨aheadOf e l, flowBad e l cyc⟩
theorem simF_new (e : EntD) : simF e [] 0 = ⟨-1, false⟩ := by simp [simF, aheadOf, flowBad]
theorem simF_rep (e : EntD) (l : List MkD) (cyc p t : Int) : (simF e l cyc).rep e p = simF e (l ++ [⟨p, t, cyc⟩]) cyc := by
  unfold FSt.rep simF
  rw [aheadOf_snoc, flowBad_snoc _ _ _ _ rfl]
  rfl
theorem simF_end {e : EntD} {l : List MkD} {cyc : Int} (h : ∀ m ∈ l, m.cyc ≤ cyc) : (simF e l cyc).zero = simF e l (cyc + 1) := by
  unfold FSt.zero simF
  rw [flowBad_next (cyc := cyc + 1) (fun m hm => by have := h m hm; omega)]
end Go.Proofs.YtpaolneaomeoiabDoor
