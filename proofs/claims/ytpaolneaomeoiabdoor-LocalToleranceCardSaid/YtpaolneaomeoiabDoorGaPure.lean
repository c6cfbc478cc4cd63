/-
  Gaps between reports, pure: what package gaps keeps ('GSt'), what the document asks of all reports ('gapBad'), and that both are one ('sim_rep', 'sim_end'). No condition.
-/
import Derived.Test.YtpaolneaomeoiabDoorCfPure
namespace Go.Proofs.YtpaolneaomeoiabDoor

/-- A gap with the tick of the latest report of its From (-1: none). -/
structure WG where
  g : GapD
  t : Int
def WG.bears (x : WG) (tick : Int) : Bool := decide (x.t ≠ -1) && (decide (x.g.mn ≤ tick - x.t) && decide (tick - x.t ≤ x.g.mx))
def WG.bad (x : WG) (p tick : Int) : Bool := decide (p = x.g.to) && !x.bears tick
def WG.rep (x : WG) (p tick : Int) : WG := if p = x.g.fr then ⟨x.g, tick⟩ else x
structure GSt where
  xs : List WG
  bad : Bool
def tickOk (tick : Int) : Bool := decide (0 ≤ tick) && decide (tick ≤ 1099511627776)
def GSt.rep (s : GSt) (p tick : Int) : GSt := if tickOk tick = true then ⟨s.xs.map (·.rep p tick), s.xs.any (·.bad p tick) || s.bad⟩ else s
def GSt.zero (s : GSt) : GSt := ⟨s.xs, false⟩
def WG.new (g : GapD) : WG := ⟨g, -1⟩
def GSt.new (l : List GapD) : GSt := ⟨l.map WG.new, false⟩
/-- Behind the first k gaps of a report. -/
def GSt.upto (s : GSt) (p tick : Int) (k : Nat) : GSt := ⟨(s.xs.take k).map (·.rep p tick) ++ s.xs.drop k, (s.xs.take k).any (·.bad p tick) || s.bad⟩
theorem GSt.upto_zero (s : GSt) (p tick : Int) : s.upto p tick 0 = s := by simp [GSt.upto]
theorem GSt.upto_all {s : GSt} {p tick : Int} {k : Nat} (h : ¬ k < s.xs.length) (ht : tickOk tick = true) : s.upto p tick k = s.rep p tick := by
  unfold GSt.upto GSt.rep
  rw [List.take_of_length_le (by omega), List.drop_of_length_le (by omega), List.append_nil, if_pos ht]
theorem GSt.upto_len (s : GSt) (p tick : Int) (k : Nat) : (s.upto p tick k).xs.length = s.xs.length := by simp [GSt.upto]; omega
theorem GSt.upto_at {s : GSt} {p tick : Int} {k : Nat} {x : WG} (h : s.xs[k]? = some x) : (s.upto p tick k).xs[k]? = some x := by
  have hk : k < s.xs.length := by
    rcases Nat.lt_or_ge k s.xs.length with h' | h'
    · exact h'
    · rw [List.getElem?_eq_none h'] at h; cases h
  show ((s.xs.take k).map _ ++ s.xs.drop k)[k]? = _
  rw [List.getElem?_append_right (by simp [List.length_take]; omega)]
  simp [List.length_take, List.getElem?_drop, Nat.min_eq_left (Nat.le_of_lt hk), h]
theorem GSt.upto_succ {s : GSt} {p tick : Int} {k : Nat} {x : WG} (h : s.xs[k]? = some x) :
    s.upto p tick (k + 1) = ⟨(s.upto p tick k).xs.set k (x.rep p tick), x.bad p tick || (s.upto p tick k).bad⟩ := by
  have hk : k < s.xs.length := by
    rcases Nat.lt_or_ge k s.xs.length with h' | h'
    · exact h'
    · rw [List.getElem?_eq_none h'] at h; cases h
  have e1 : s.xs.take (k + 1) = s.xs.take k ++ [x] := by
    rw [List.take_add_one, h]; rfl
  have e2 : s.xs.drop k = x :: s.xs.drop (k + 1) := by
    rw [List.drop_eq_getElem_cons hk]
    rw [List.getElem?_eq_getElem hk] at h
    cases h; rfl
  unfold GSt.upto
  simp only [GSt.mk.injEq]
  constructor
  · rw [e1, e2, List.set_append_right _ _ (by simp [List.length_take]; omega)]
    simp [List.length_take, Nat.min_eq_left (Nat.le_of_lt hk)]
  · rw [e1, List.any_append]
    simp only [List.any_cons, List.any_nil, Bool.or_false]
    cases x.bad p tick <;> cases (s.xs.take k).any (·.bad p tick) <;> cases s.bad <;> rfl

/-- A report as the document keeps it. -/
structure MkD where
  pt : Int
  tick : Int
  cyc : Int
/-- The tick of the latest report of a point (-1: none). -/
def lat (fr : Int) (l : List MkD) : Int := l.foldl (fun a m => if m.pt = fr then m.tick else a) (-1)
theorem lat_snoc (fr : Int) (l : List MkD) (m : MkD) : lat fr (l ++ [m]) = if m.pt = fr then m.tick else lat fr l := by
  unfold lat; rw [List.foldl_append]; rfl
def badM (g : GapD) (l : List MkD) (m : MkD) : Bool := (WG.mk g (lat g.fr l)).bad m.pt m.tick
def badI (g : GapD) (l : List MkD) (cyc : Int) (i : Nat) : Bool := match l[i]? with
  | some m => decide (m.cyc = cyc) && badM g (l.take i) m
  | none => false
def gapBad (g : GapD) (l : List MkD) (cyc : Int) : Bool := (List.range l.length).any (badI g l cyc)
theorem gapBad_of {g : GapD} {l : List MkD} {cyc : Int} {k : Nat} (hk : k < l.length) (h : badI g l cyc k = true) : gapBad g l cyc = true := by
  unfold gapBad; rw [List.any_eq_true]; exact ⟨k, by simpa using hk, h⟩
theorem gapBad_no {g : GapD} {l : List MkD} {cyc : Int} (h : ∀ k, k < l.length → badI g l cyc k = false) : gapBad g l cyc = false := by
  unfold gapBad; rw [List.any_eq_false]; intro k hk; rw [h k (by simpa using hk)]; simp
theorem gapBad_snoc (g : GapD) (l : List MkD) (m : MkD) (cyc : Int) (hm : m.cyc = cyc) : gapBad g (l ++ [m]) cyc = (badM g l m || gapBad g l cyc) := by
  have e : badI g (l ++ [m]) cyc l.length = badM g l m := by
    unfold badI; simp [hm]
  have e2 : ∀ k, k < l.length → badI g (l ++ [m]) cyc k = badI g l cyc k := fun k hk => by
    unfold badI
    rw [List.getElem?_append_left hk, List.take_append_of_le_length (by omega)]
  unfold gapBad
  rw [List.length_append, show [m].length = 1 from rfl, List.range_succ, List.any_append]
  simp only [List.any_cons, List.any_nil, Bool.or_false, e]
  rw [Bool.or_comm]
  congr 1
  rw [Bool.eq_iff_iff]
  simp only [List.any_eq_true, List.mem_range]
  constructor
  · rintro ⟨k, hk, h⟩; exact ⟨k, hk, by rwa [e2 k hk] at h⟩
  · rintro ⟨k, hk, h⟩; exact ⟨k, hk, by rwa [e2 k hk]⟩
theorem gapBad_next {g : GapD} {l : List MkD} {cyc : Int} (h : ∀ m ∈ l, m.cyc < cyc) : gapBad g l cyc = false := by
  refine gapBad_no fun k hk => ?_
  unfold badI
  rw [List.getElem?_eq_getElem hk]
  have := h _ (List.getElem_mem hk)
  simp only
  rw [decide_eq_false (by omega)]; rfl

/-- What package gaps keeps of the reports so far. -/
def simG (gs : List GapD) (l : List MkD) (cyc : Int) : GSt := ⟨gs.map (fun g => ⟨g, lat g.fr l⟩), gs.any (fun g => gapBad g l cyc)⟩
theorem sim_new (gs : List GapD) : GSt.new gs = simG gs [] 0 := by
  unfold GSt.new simG
  simp only [GSt.mk.injEq]
  refine ⟨rfl, ?_⟩
  symm; rw [List.any_eq_false]; intro g _; simp [gapBad]
theorem sim_rep (gs : List GapD) (l : List MkD) (cyc p tick : Int) (ht : tickOk tick = true) : (simG gs l cyc).rep p tick = simG gs (l ++ [⟨p, tick, cyc⟩]) cyc := by
  unfold GSt.rep simG
  rw [if_pos ht]
  simp only [GSt.mk.injEq, List.map_map]
  refine ⟨List.map_congr_left fun g _ => ?_, ?_⟩
  · simp only [Function.comp, WG.rep, lat_snoc]
    split <;> rfl
  · rw [List.any_map, Bool.eq_iff_iff]
    simp only [Bool.or_eq_true, List.any_eq_true, Function.comp]
    constructor
    · rintro (⟨g, hg, h⟩ | ⟨g, hg, h⟩)
      · exact ⟨g, hg, by rw [gapBad_snoc _ _ _ _ rfl]; simp [badM, h]⟩
      · exact ⟨g, hg, by rw [gapBad_snoc _ _ _ _ rfl, h]; simp⟩
    · rintro ⟨g, hg, h⟩
      rw [gapBad_snoc _ _ _ _ rfl, Bool.or_eq_true] at h
      rcases h with h | h
      · exact Or.inl ⟨g, hg, h⟩
      · exact Or.inr ⟨g, hg, h⟩
theorem rep_off {s : GSt} {p tick : Int} (ht : tickOk tick = false) : s.rep p tick = s := by
  unfold GSt.rep; rw [if_neg (by rw [ht]; simp)]
theorem sim_end {gs : List GapD} {l : List MkD} {cyc : Int} (h : ∀ m ∈ l, m.cyc ≤ cyc) : (simG gs l cyc).zero = simG gs l (cyc + 1) := by
  unfold GSt.zero simG
  simp only [GSt.mk.injEq, true_and]
  symm; rw [List.any_eq_false]; intro g _
  rw [gapBad_next (fun m hm => by have := h m hm; omega)]; simp
/-- The latest report, found from the end on. -/
theorem lat_back {fr : Int} {l : List MkD} {k i : Nat} (hki : k ≤ i) (hi : i ≤ l.length) (h : ∀ j m, k ≤ j → j < i → l[j]? = some m → m.pt ≠ fr) : lat fr (l.take i) = lat fr (l.take k) := by
  induction i with
  | zero => rw [show k = 0 by omega]
  | succ n ih =>
    rcases Nat.lt_or_ge n k with h1 | h1
    · rw [show k = n + 1 by omega]
    · have hn : n < l.length := by omega
      rw [List.take_add_one, List.getElem?_eq_getElem hn]
      show lat fr (l.take n ++ [l[n]]) = _
      rw [lat_snoc, if_neg (h n _ h1 (by omega) (List.getElem?_eq_getElem hn))]
      exact ih h1 (by omega) (fun j m a b c => h j m a (by omega) c)
theorem lat_none {fr : Int} {l : List MkD} {i : Nat} (hi : i ≤ l.length) (h : ∀ j m, 0 ≤ j → j < i → l[j]? = some m → m.pt ≠ fr) : lat fr (l.take i) = -1 := by
  rw [lat_back (Nat.zero_le i) hi h]; rfl
theorem lat_here {fr : Int} {l : List MkD} {k i : Nat} {m : MkD} (hki : k < i) (hi : i ≤ l.length) (h : ∀ j m, k + 1 ≤ j → j < i → l[j]? = some m → m.pt ≠ fr) (hk : l[k]? = some m) (hm : m.pt = fr) : lat fr (l.take i) = m.tick := by
  rw [lat_back (k := k + 1) (by omega) hi h, List.take_add_one, hk]
  show lat fr (l.take k ++ [m]) = _
  rw [lat_snoc, if_pos hm]
/-- Bounds of what is kept. -/
def GSt.fit (s : GSt) : Prop := ∀ x ∈ s.xs, -1 ≤ x.t ∧ x.t ≤ 1099511627776
theorem GSt.fit_rep {s : GSt} (h : s.fit) (p tick : Int) : (s.rep p tick).fit := by
  unfold GSt.rep
  split
  · rename_i ht
    intro x hx
    simp only [List.mem_map] at hx
    obtain ⟨y, hy, rfl⟩ := hx
    unfold WG.rep
    split
    · simp [tickOk] at ht
      exact ⟨by show -1 ≤ tick; omega, by show tick ≤ _; omega⟩
    · exact h y hy
  · exact h
theorem GSt.fit_new (l : List GapD) : (GSt.new l).fit := by
  intro x hx
  simp only [GSt.new, List.mem_map] at hx
  obtain ⟨y, _, rfl⟩ := hx
  exact ⟨by show (-1 : Int) ≤ -1; decide, by show (-1 : Int) ≤ _; decide⟩
theorem GSt.fit_upto {s : GSt} (h : s.fit) {p tick : Int} (ht : tickOk tick = true) (k : Nat) : (s.upto p tick k).fit := by
  intro x hx
  simp only [GSt.upto, List.mem_append, List.mem_map] at hx
  rcases hx with ⟨y, hy, rfl⟩ | hx
  · unfold WG.rep
    split
    · simp [tickOk] at ht
      exact ⟨by show -1 ≤ tick; omega, by show tick ≤ _; omega⟩
    · exact h y (List.mem_of_mem_take hy)
  · exact h x (List.mem_of_mem_drop hx)
end Go.Proofs.YtpaolneaomeoiabDoor
