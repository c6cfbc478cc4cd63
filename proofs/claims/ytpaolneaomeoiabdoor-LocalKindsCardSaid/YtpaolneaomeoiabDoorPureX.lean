/-
  Several texts as one: CfPure, GaPure, FlPure. What each holds: CfPure: A config as plain data, and what is wrong with it: pure functions. No condition. | GaPure: Gaps between reports, pure: what package gaps keeps ('GSt'), what the document asks of all reports ('gapBad'), and that both are one ('sim_rep', 'sim_end'). No condition. | FlPure: The order of reports, pure: what package flow keeps ('FSt'), what the document asks of all reports ('flowBad'), and that both are one ('simF_rep', 'simF_end'). No condition.
-/
import Derived.Test.YtpaolneaomeoiabDoorProg
namespace Go.Proofs.YtpaolneaomeoiabDoor

/-- A gap; an entity; a config: plain data. -/
structure GapD where
  fr : Int
  to : Int
  mn : Int
  mx : Int
structure EntD where
  name : ByteArray
  tol : Int
  pts : List ByteArray
  cnt : Int
  mn : Int
  mx : Int
  gaps : List GapD
  edges : List (Int × Int)
  first : List Int
  last : List Int
structure CfgD where
  closed : Int
  opn : Int
  cycle : Int
  delay : Int
  ents : List EntD

def isLetter (b : UInt8) : Bool := decide (97 ≤ b.toNat) && decide (b.toNat ≤ 122)
def isDig (b : UInt8) : Bool := decide (48 ≤ b.toNat) && decide (b.toNat ≤ 57)
def nameByte (b : UInt8) : Bool := isLetter b || isDig b || decide (b.toNat = 45)
def isName (s : ByteArray) : Bool := decide (1 ≤ s.size) && decide (s.size ≤ 12) && isLetter (s.data.getD 0 0) && s.data.toList.all nameByte

/-- The first that is so, its number; 0: none. -/
def firstOf : List (Bool × Nat) → Nat
  | [] => 0
  | (b, c) :: t => if b then c else firstOf t

def within (n a b : Int) : Bool := decide (a ≤ n) && decide (n ≤ b)
def lacks (n : Nat) (x : Int) : Bool := decide (x < 0) || decide ((n : Int) ≤ x)
def rise (a b c d : Int) : Bool := decide (a ≤ b) && decide (b ≤ c) && decide (c ≤ d)
/-- One of them twice? -/
def twice {α : Type} [DecidableEq α] (l : List α) : Bool := (List.range l.length).any fun i => match l[i]? with
  | some x => (l.take i).any fun y => decide (x = y)
  | none => false

def nameErr (ahead : List ByteArray) (s : ByteArray) : Nat := if isName s then (if ahead.any (fun x => decide (x = s)) then 6 else 0) else 4
def sizeErr (e : EntD) : Nat := firstOf [(!within e.tol 0 20, 2), (decide (16 < e.pts.length), 2), (decide (8 < e.gaps.length), 2), (decide (64 < e.edges.length), 2), (decide (16 < e.first.length), 2), (decide (16 < e.last.length), 2)]
def partErr (e : EntD) : Nat := firstOf [
  (decide (e.cnt ≠ -1) && lacks e.pts.length e.cnt, 5),
  (e.gaps.any fun g => lacks e.pts.length g.fr || lacks e.pts.length g.to, 5),
  (e.edges.any fun d => lacks e.pts.length d.1 || lacks e.pts.length d.2, 5),
  (e.first.any fun x => lacks e.pts.length x, 5),
  (e.last.any fun x => lacks e.pts.length x, 5),
  (decide (e.cnt = -1) && (decide (e.mn ≠ 0) || decide (e.mx ≠ 0)), 3),
  (!rise 0 e.mn e.mx 999, 2),
  (e.gaps.any fun g => !rise 0 g.mn g.mx 1099511627776, 2),
  (twice e.edges, 6), (twice e.first, 6), (twice e.last, 6),
  (decide (0 < e.edges.length) && decide (e.first.length = 0), 3),
  (decide (e.edges.length = 0) && decide (0 < e.first.length + e.last.length), 3)]
def ptsErr : List ByteArray → List ByteArray → Nat
  | _, [] => 0
  | a, p :: t => if nameErr a p = 0 then ptsErr (a ++ [p]) t else nameErr a p
def entErr (ahead : List ByteArray) (e : EntD) : Nat :=
  if nameErr ahead e.name ≠ 0 then nameErr ahead e.name else if sizeErr e ≠ 0 then sizeErr e else if ptsErr [] e.pts ≠ 0 then ptsErr [] e.pts else partErr e
def wholeErr (c : CfgD) : Nat := firstOf [(!(within c.closed 0 1000 && within c.opn 1 1000), 2), (!within c.cycle 1 100, 2), (!within c.delay 0 20, 2), (decide (8 < c.ents.length), 2), (decide (c.opn < c.cycle), 3)]
/-- The first entity that is none: its error, and its place. -/
def entsErr : List ByteArray → Nat → List EntD → Nat × Int
  | _, _, [] => (0, -1)
  | a, i, e :: t => if entErr a e = 0 then entsErr (a ++ [e.name]) (i + 1) t else (entErr a e, (i : Int))
def cfgErr (c : CfgD) : Nat × Int := if wholeErr c = 0 then entsErr [] 0 c.ents else (wholeErr c, -1)
end Go.Proofs.YtpaolneaomeoiabDoor

namespace Go.Proofs.YtpaolneaomeoiabDoor

/-- A gap with the tick of the latest report of its From (-1: none). -/
structure WG where
  g : GapD
  t : Int
def WG.bears (x : WG) (tick : Int) : Bool := decide (x.t ≠ -1) && (decide (x.g.mn ≤ tick - x.t) && decide (tick - x.t ≤ x.g.mx))
def WG.bad (x : WG) (p tick : Int) : Bool := decide (p = x.g.to) && !x.bears tick
def WG.rep (x : WG) (p tick : Int) : WG := if p = x.g.fr then ⟨x.g, tick⟩ else x
structure GSt where
  xs : List WG
  bad : Bool
def tickOk (tick : Int) : Bool := decide (0 ≤ tick) && decide (tick ≤ 1099511627776)
def GSt.rep (s : GSt) (p tick : Int) : GSt := if tickOk tick = true then ⟨s.xs.map (·.rep p tick), s.xs.any (·.bad p tick) || s.bad⟩ else s
def GSt.zero (s : GSt) : GSt := ⟨s.xs, false⟩
def WG.new (g : GapD) : WG := ⟨g, -1⟩
def GSt.new (l : List GapD) : GSt := ⟨l.map WG.new, false⟩
/-- Behind the first k gaps of a report. -/
def GSt.upto (s : GSt) (p tick : Int) (k : Nat) : GSt := ⟨(s.xs.take k).map (·.rep p tick) ++ s.xs.drop k, (s.xs.take k).any (·.bad p tick) || s.bad⟩
theorem GSt.upto_zero (s : GSt) (p tick : Int) : s.upto p tick 0 = s := by simp [GSt.upto]
theorem GSt.upto_all {s : GSt} {p tick : Int} {k : Nat} (h : ¬ k < s.xs.length) (ht : tickOk tick = true) : s.upto p tick k = s.rep p tick := by
  unfold GSt.upto GSt.rep
  rw [List.take_of_length_le (by omega), List.drop_of_length_le (by omega), List.append_nil, if_pos ht]
theorem GSt.upto_len (s : GSt) (p tick : Int) (k : Nat) : (s.upto p tick k).xs.length = s.xs.length := by simp [GSt.upto]; omega
theorem GSt.upto_at {s : GSt} {p tick : Int} {k : Nat} {x : WG} (h : s.xs[k]? = some x) : (s.upto p tick k).xs[k]? = some x := by
  have hk : k < s.xs.length := by
    rcases Nat.lt_or_ge k s.xs.length with h' | h'
    · exact h'
    · rw [List.getElem?_eq_none h'] at h; cases h
  show ((s.xs.take k).map _ ++ s.xs.drop k)[k]? = _
  rw [List.getElem?_append_right (by simp [List.length_take]; omega)]
  simp [List.length_take, List.getElem?_drop, Nat.min_eq_left (Nat.le_of_lt hk), h]
theorem GSt.upto_succ {s : GSt} {p tick : Int} {k : Nat} {x : WG} (h : s.xs[k]? = some x) :
    s.upto p tick (k + 1) = ⟨(s.upto p tick k).xs.set k (x.rep p tick), x.bad p tick || (s.upto p tick k).bad⟩ := by
  have hk : k < s.xs.length := by
    rcases Nat.lt_or_ge k s.xs.length with h' | h'
    · exact h'
    · rw [List.getElem?_eq_none h'] at h; cases h
  have e1 : s.xs.take (k + 1) = s.xs.take k ++ [x] := by
    rw [List.take_add_one, h]; rfl
  have e2 : s.xs.drop k = x :: s.xs.drop (k + 1) := by
    rw [List.drop_eq_getElem_cons hk]
    rw [List.getElem?_eq_getElem hk] at h
    cases h; rfl
  unfold GSt.upto
  simp only [GSt.mk.injEq]
  constructor
  · rw [e1, e2, List.set_append_right _ _ (by simp [List.length_take]; omega)]
    simp [List.length_take, Nat.min_eq_left (Nat.le_of_lt hk)]
  · rw [e1, List.any_append]
    simp only [List.any_cons, List.any_nil, Bool.or_false]
    cases x.bad p tick <;> cases (s.xs.take k).any (·.bad p tick) <;> cases s.bad <;> rfl

/-- A report as the document keeps it. -/
structure MkD where
  pt : Int
  tick : Int
  cyc : Int
/-- The tick of the latest report of a point (-1: none). -/
def lat (fr : Int) (l : List MkD) : Int := l.foldl (fun a m => if m.pt = fr then m.tick else a) (-1)
theorem lat_snoc (fr : Int) (l : List MkD) (m : MkD) : lat fr (l ++ [m]) = if m.pt = fr then m.tick else lat fr l := by
  unfold lat; rw [List.foldl_append]; rfl
def badM (g : GapD) (l : List MkD) (m : MkD) : Bool := (WG.mk g (lat g.fr l)).bad m.pt m.tick
def badI (g : GapD) (l : List MkD) (cyc : Int) (i : Nat) : Bool := match l[i]? with
  | some m => decide (m.cyc = cyc) && badM g (l.take i) m
  | none => false
def gapBad (g : GapD) (l : List MkD) (cyc : Int) : Bool := (List.range l.length).any (badI g l cyc)
theorem gapBad_of {g : GapD} {l : List MkD} {cyc : Int} {k : Nat} (hk : k < l.length) (h : badI g l cyc k = true) : gapBad g l cyc = true := by
  unfold gapBad; rw [List.any_eq_true]; exact ⟨k, by simpa using hk, h⟩
theorem gapBad_no {g : GapD} {l : List MkD} {cyc : Int} (h : ∀ k, k < l.length → badI g l cyc k = false) : gapBad g l cyc = false := by
  unfold gapBad; rw [List.any_eq_false]; intro k hk; rw [h k (by simpa using hk)]; simp
theorem gapBad_snoc (g : GapD) (l : List MkD) (m : MkD) (cyc : Int) (hm : m.cyc = cyc) : gapBad g (l ++ [m]) cyc = (badM g l m || gapBad g l cyc) := by
  have e : badI g (l ++ [m]) cyc l.length = badM g l m := by
    unfold badI; simp [hm]
  have e2 : ∀ k, k < l.length → badI g (l ++ [m]) cyc k = badI g l cyc k := fun k hk => by
    unfold badI
    rw [List.getElem?_append_left hk, List.take_append_of_le_length (by omega)]
  unfold gapBad
  rw [List.length_append, show [m].length = 1 from rfl, List.range_succ, List.any_append]
  simp only [List.any_cons, List.any_nil, Bool.or_false, e]
  rw [Bool.or_comm]
  congr 1
  rw [Bool.eq_iff_iff]
  simp only [List.any_eq_true, List.mem_range]
  constructor
  · rintro ⟨k, hk, h⟩; exact ⟨k, hk, by rwa [e2 k hk] at h⟩
  · rintro ⟨k, hk, h⟩; exact ⟨k, hk, by rwa [e2 k hk]⟩
theorem gapBad_next {g : GapD} {l : List MkD} {cyc : Int} (h : ∀ m ∈ l, m.cyc < cyc) : gapBad g l cyc = false := by
  refine gapBad_no fun k hk => ?_
  unfold badI
  rw [List.getElem?_eq_getElem hk]
  have := h _ (List.getElem_mem hk)
  simp only
  rw [decide_eq_false (by omega)]; rfl

/-- What package gaps keeps of the reports so far. -/
def simG (gs : List GapD) (l : List MkD) (cyc : Int) : GSt := ⟨gs.map (fun g => ⟨g, lat g.fr l⟩), gs.any (fun g => gapBad g l cyc)⟩
theorem sim_new (gs : List GapD) : GSt.new gs = simG gs [] 0 := by
  unfold GSt.new simG
  simp only [GSt.mk.injEq]
  refine ⟨rfl, ?_⟩
  symm; rw [List.any_eq_false]; intro g _; simp [gapBad]
theorem sim_rep (gs : List GapD) (l : List MkD) (cyc p tick : Int) (ht : tickOk tick = true) : (simG gs l cyc).rep p tick = simG gs (l ++ [⟨p, tick, cyc⟩]) cyc := by
  unfold GSt.rep simG
  rw [if_pos ht]
  simp only [GSt.mk.injEq, List.map_map]
  refine ⟨List.map_congr_left fun g _ => ?_, ?_⟩
  · simp only [Function.comp, WG.rep, lat_snoc]
    split <;> rfl
  · rw [List.any_map, Bool.eq_iff_iff]
    simp only [Bool.or_eq_true, List.any_eq_true, Function.comp]
    constructor
    · rintro (⟨g, hg, h⟩ | ⟨g, hg, h⟩)
      · exact ⟨g, hg, by rw [gapBad_snoc _ _ _ _ rfl]; simp [badM, h]⟩
      · exact ⟨g, hg, by rw [gapBad_snoc _ _ _ _ rfl, h]; simp⟩
    · rintro ⟨g, hg, h⟩
      rw [gapBad_snoc _ _ _ _ rfl, Bool.or_eq_true] at h
      rcases h with h | h
      · exact Or.inl ⟨g, hg, h⟩
      · exact Or.inr ⟨g, hg, h⟩
theorem rep_off {s : GSt} {p tick : Int} (ht : tickOk tick = false) : s.rep p tick = s := by
  unfold GSt.rep; rw [if_neg (by rw [ht]; simp)]
theorem sim_end {gs : List GapD} {l : List MkD} {cyc : Int} (h : ∀ m ∈ l, m.cyc ≤ cyc) : (simG gs l cyc).zero = simG gs l (cyc + 1) := by
  unfold GSt.zero simG
  simp only [GSt.mk.injEq, true_and]
  symm; rw [List.any_eq_false]; intro g _
  rw [gapBad_next (fun m hm => by have := h m hm; omega)]; simp
/-- The latest report, found from the end on. -/
theorem lat_back {fr : Int} {l : List MkD} {k i : Nat} (hki : k ≤ i) (hi : i ≤ l.length) (h : ∀ j m, k ≤ j → j < i → l[j]? = some m → m.pt ≠ fr) : lat fr (l.take i) = lat fr (l.take k) := by
  induction i with
  | zero => rw [show k = 0 by omega]
  | succ n ih =>
    rcases Nat.lt_or_ge n k with h1 | h1
    · rw [show k = n + 1 by omega]
    · have hn : n < l.length := by omega
      rw [List.take_add_one, List.getElem?_eq_getElem hn]
      show lat fr (l.take n ++ [l[n]]) = _
      rw [lat_snoc, if_neg (h n _ h1 (by omega) (List.getElem?_eq_getElem hn))]
      exact ih h1 (by omega) (fun j m a b c => h j m a (by omega) c)
theorem lat_none {fr : Int} {l : List MkD} {i : Nat} (hi : i ≤ l.length) (h : ∀ j m, 0 ≤ j → j < i → l[j]? = some m → m.pt ≠ fr) : lat fr (l.take i) = -1 := by
  rw [lat_back (Nat.zero_le i) hi h]; rfl
theorem lat_here {fr : Int} {l : List MkD} {k i : Nat} {m : MkD} (hki : k < i) (hi : i ≤ l.length) (h : ∀ j m, k + 1 ≤ j → j < i → l[j]? = some m → m.pt ≠ fr) (hk : l[k]? = some m) (hm : m.pt = fr) : lat fr (l.take i) = m.tick := by
  rw [lat_back (k := k + 1) (by omega) hi h, List.take_add_one, hk]
  show lat fr (l.take k ++ [m]) = _
  rw [lat_snoc, if_pos hm]
/-- Bounds of what is kept. -/
def GSt.fit (s : GSt) : Prop := ∀ x ∈ s.xs, -1 ≤ x.t ∧ x.t ≤ 1099511627776
theorem GSt.fit_rep {s : GSt} (h : s.fit) (p tick : Int) : (s.rep p tick).fit := by
  unfold GSt.rep
  split
  · rename_i ht
    intro x hx
    simp only [List.mem_map] at hx
    obtain ⟨y, hy, rfl⟩ := hx
    unfold WG.rep
    split
    · simp [tickOk] at ht
      exact ⟨by show -1 ≤ tick; omega, by show tick ≤ _; omega⟩
    · exact h y hy
  · exact h
theorem GSt.fit_new (l : List GapD) : (GSt.new l).fit := by
  intro x hx
  simp only [GSt.new, List.mem_map] at hx
  obtain ⟨y, _, rfl⟩ := hx
  exact ⟨by show (-1 : Int) ≤ -1; decide, by show (-1 : Int) ≤ _; decide⟩
theorem GSt.fit_upto {s : GSt} (h : s.fit) {p tick : Int} (ht : tickOk tick = true) (k : Nat) : (s.upto p tick k).fit := by
  intro x hx
  simp only [GSt.upto, List.mem_append, List.mem_map] at hx
  rcases hx with ⟨y, hy, rfl⟩ | hx
  · unfold WG.rep
    split
    · simp [tickOk] at ht
      exact ⟨by show -1 ≤ tick; omega, by show tick ≤ _; omega⟩
    · exact h y (List.mem_of_mem_take hy)
  · exact h x (List.mem_of_mem_drop hx)
end Go.Proofs.YtpaolneaomeoiabDoor

namespace Go.Proofs.YtpaolneaomeoiabDoor

def hasP (e : EntD) (p : Int) : Bool := decide (0 ≤ p) && decide (p < (e.pts.length : Int))
/-- May a point come behind another one (-1: none)? -/
def bearsE (e : EntD) (ah p : Int) : Bool := decide (e.edges = []) || (hasP e p && (if ah = -1 then decide (p ∈ e.first) else decide ((ah, p) ∈ e.edges)))
/-- Which point is ahead behind a report. -/
def behindE (e : EntD) (p : Int) : Int := if hasP e p = true ∧ p ∉ e.last then p else -1
structure FSt where
  ah : Int
  bad : Bool
def FSt.rep (e : EntD) (s : FSt) (p : Int) : FSt := ⟨behindE e p, s.bad || !bearsE e s.ah p⟩
def FSt.zero (s : FSt) : FSt := ⟨s.ah, false⟩
theorem behind_fit (e : EntD) (p : Int) : behindE e p = -1 ∨ (0 ≤ behindE e p ∧ behindE e p < (e.pts.length : Int)) := by
  unfold behindE
  split
  · rename_i h
    right
    have := h.1
    unfold hasP at this
    simp at this
    exact this
  · exact Or.inl rfl
/-- Which point is ahead of the next report. -/
def aheadOf (e : EntD) (l : List MkD) : Int := match l.getLast? with
  | some m => behindE e m.pt
  | none => -1
theorem aheadOf_nil (e : EntD) : aheadOf e [] = -1 := rfl
theorem aheadOf_snoc (e : EntD) (l : List MkD) (m : MkD) : aheadOf e (l ++ [m]) = behindE e m.pt := by unfold aheadOf; simp
theorem aheadOf_take {e : EntD} {l : List MkD} {k : Nat} {m : MkD} (h : l[k]? = some m) : aheadOf e (l.take (k + 1)) = behindE e m.pt := by
  rw [List.take_add_one, h]; exact aheadOf_snoc e _ m
theorem aheadOf_fit (e : EntD) (l : List MkD) : aheadOf e l = -1 ∨ (0 ≤ aheadOf e l ∧ aheadOf e l < (e.pts.length : Int)) := by
  unfold aheadOf
  split
  · exact behind_fit e _
  · exact Or.inl rfl
def fbadM (e : EntD) (l : List MkD) (m : MkD) : Bool := !bearsE e (aheadOf e l) m.pt
def fbadI (e : EntD) (l : List MkD) (cyc : Int) (i : Nat) : Bool := match l[i]? with
  | some m => decide (m.cyc = cyc) && fbadM e (l.take i) m
  | none => false
def flowBad (e : EntD) (l : List MkD) (cyc : Int) : Bool := (List.range l.length).any (fbadI e l cyc)
theorem flowBad_of {e : EntD} {l : List MkD} {cyc : Int} {k : Nat} (hk : k < l.length) (h : fbadI e l cyc k = true) : flowBad e l cyc = true := by
  unfold flowBad; rw [List.any_eq_true]; exact ⟨k, by simpa using hk, h⟩
theorem flowBad_no {e : EntD} {l : List MkD} {cyc : Int} (h : ∀ k, k < l.length → fbadI e l cyc k = false) : flowBad e l cyc = false := by
  unfold flowBad; rw [List.any_eq_false]; intro k hk; rw [h k (by simpa using hk)]; simp
theorem flowBad_snoc (e : EntD) (l : List MkD) (m : MkD) (cyc : Int) (hm : m.cyc = cyc) : flowBad e (l ++ [m]) cyc = (flowBad e l cyc || fbadM e l m) := by
  have e1 : fbadI e (l ++ [m]) cyc l.length = fbadM e l m := by
    unfold fbadI; simp [hm]
  have e2 : ∀ k, k < l.length → fbadI e (l ++ [m]) cyc k = fbadI e l cyc k := fun k hk => by
    unfold fbadI
    rw [List.getElem?_append_left hk, List.take_append_of_le_length (by omega)]
  unfold flowBad
  rw [List.length_append, show [m].length = 1 from rfl, List.range_succ, List.any_append]
  simp only [List.any_cons, List.any_nil, Bool.or_false, e1]
  congr 1
  rw [Bool.eq_iff_iff]
  simp only [List.any_eq_true, List.mem_range]
  constructor
  · rintro ⟨k, hk, h⟩; exact ⟨k, hk, by rwa [e2 k hk] at h⟩
  · rintro ⟨k, hk, h⟩; exact ⟨k, hk, by rwa [e2 k hk]⟩
theorem flowBad_next {e : EntD} {l : List MkD} {cyc : Int} (h : ∀ m ∈ l, m.cyc < cyc) : flowBad e l cyc = false := by
  refine flowBad_no fun k hk => ?_
  unfold fbadI
  rw [List.getElem?_eq_getElem hk]
  have := h _ (List.getElem_mem hk)
  simp only
  rw [decide_eq_false (by omega)]; rfl
/-- What package flow keeps of the reports so far. -/
def simF (e : EntD) (l : List MkD) (cyc : Int) : FSt := ⟨aheadOf e l, flowBad e l cyc⟩
theorem simF_new (e : EntD) : simF e [] 0 = ⟨-1, false⟩ := by simp [simF, aheadOf, flowBad]
theorem simF_rep (e : EntD) (l : List MkD) (cyc p t : Int) : (simF e l cyc).rep e p = simF e (l ++ [⟨p, t, cyc⟩]) cyc := by
  unfold FSt.rep simF
  rw [aheadOf_snoc, flowBad_snoc _ _ _ _ rfl]
  rfl
theorem simF_end {e : EntD} {l : List MkD} {cyc : Int} (h : ∀ m ∈ l, m.cyc ≤ cyc) : (simF e l cyc).zero = simF e l (cyc + 1) := by
  unfold FSt.zero simF
  rw [flowBad_next (cyc := cyc + 1) (fun m hm => by have := h m hm; omega)]
end Go.Proofs.YtpaolneaomeoiabDoor
