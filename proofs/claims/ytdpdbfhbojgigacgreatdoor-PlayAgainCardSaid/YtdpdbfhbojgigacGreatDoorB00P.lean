/-
  Several texts as one: CfPure, GaPure, FlPure, TotPure, CfText, CfRead, CfBack, CfLen.
-/
import Derived.Test.YtdpdbfhbojgigacGreatDoorProg
namespace Go.Proofs.YtdpdbfhbojgigacGreatDoor

/-- A gap; an entity; a config: plain data. -/
structure GapD where
  fr : Int
  to : Int
  mn : Int
  mx : Int
structure EntD where
  name : ByteArray
  tol : Int
  pts : List ByteArray
  cnt : Int
  mn : Int
  mx : Int
  gaps : List GapD
  edges : List (Int × Int)
  first : List Int
  last : List Int
structure CfgD where
  closed : Int
  opn : Int
  cycle : Int
  delay : Int
  ents : List EntD

def isLetter (b : UInt8) : Bool := decide (97 ≤ b.toNat) && decide (b.toNat ≤ 122)
def isDig (b : UInt8) : Bool := decide (48 ≤ b.toNat) && decide (b.toNat ≤ 57)
def nameByte (b : UInt8) : Bool := isLetter b || isDig b || decide (b.toNat = 45)
def isName (s : ByteArray) : Bool := decide (1 ≤ s.size) && decide (s.size ≤ 12) && isLetter (s.data.getD 0 0) && s.data.toList.all nameByte

/-- The first that is so, its number; 0: none. -/
def firstOf : List (Bool × Nat) → Nat
  | [] => 0
  | (b, c) :: t => if b then c else firstOf t

def within (n a b : Int) : Bool := decide (a ≤ n) && decide (n ≤ b)
def lacks (n : Nat) (x : Int) : Bool := decide (x < 0) || decide ((n : Int) ≤ x)
def rise (a b c d : Int) : Bool := decide (a ≤ b) && decide (b ≤ c) && decide (c ≤ d)
/-- One of them twice? -/
def twice {α : Type} [DecidableEq α] (l : List α) : Bool := (List.range l.length).any fun i => match l[i]? with
  | some x => (l.take i).any fun y => decide (x = y)
  | none => false

def nameErr (ahead : List ByteArray) (s : ByteArray) : Nat := if isName s then (if ahead.any (fun x => decide (x = s)) then 6 else 0) else 4
def sizeErr (e : EntD) : Nat := firstOf [(!within e.tol 0 20, 2), (decide (16 < e.pts.length), 2), (decide (8 < e.gaps.length), 2), (decide (64 < e.edges.length), 2), (decide (16 < e.first.length), 2), (decide (16 < e.last.length), 2)]
def partErr (e : EntD) : Nat := firstOf [
  (decide (e.cnt ≠ -1) && lacks e.pts.length e.cnt, 5),
  (e.gaps.any fun g => lacks e.pts.length g.fr || lacks e.pts.length g.to, 5),
  (e.edges.any fun d => lacks e.pts.length d.1 || lacks e.pts.length d.2, 5),
  (e.first.any fun x => lacks e.pts.length x, 5),
  (e.last.any fun x => lacks e.pts.length x, 5),
  (decide (e.cnt = -1) && (decide (e.mn ≠ 0) || decide (e.mx ≠ 0)), 3),
  (!rise 0 e.mn e.mx 999, 2),
  (e.gaps.any fun g => !rise 0 g.mn g.mx 1099511627776, 2),
  (twice e.edges, 6), (twice e.first, 6), (twice e.last, 6),
  (decide (0 < e.edges.length) && decide (e.first.length = 0), 3),
  (decide (e.edges.length = 0) && decide (0 < e.first.length + e.last.length), 3)]
def ptsErr : List ByteArray → List ByteArray → Nat
  | _, [] => 0
  | a, p :: t => if nameErr a p = 0 then ptsErr (a ++ [p]) t else nameErr a p
def entErr (ahead : List ByteArray) (e : EntD) : Nat :=
  if nameErr ahead e.name ≠ 0 then nameErr ahead e.name else if sizeErr e ≠ 0 then sizeErr e else if ptsErr [] e.pts ≠ 0 then ptsErr [] e.pts else partErr e
def wholeErr (c : CfgD) : Nat := firstOf [(!(within c.closed 0 1000 && within c.opn 1 1000), 2), (!within c.cycle 1 100, 2), (!within c.delay 0 20, 2), (decide (8 < c.ents.length), 2), (decide (c.opn < c.cycle), 3)]
/-- The first entity that is none: its error, and its place. -/
def entsErr : List ByteArray → Nat → List EntD → Nat × Int
  | _, _, [] => (0, -1)
  | a, i, e :: t => if entErr a e = 0 then entsErr (a ++ [e.name]) (i + 1) t else (entErr a e, (i : Int))
def cfgErr (c : CfgD) : Nat × Int := if wholeErr c = 0 then entsErr [] 0 c.ents else (wholeErr c, -1)
end Go.Proofs.YtdpdbfhbojgigacGreatDoor

namespace Go.Proofs.YtdpdbfhbojgigacGreatDoor

/-- A gap with the tick of the latest report of its From (-1: none). -/
structure WG where
  g : GapD
  t : Int
def WG.bears (x : WG) (tick : Int) : Bool := decide (x.t ≠ -1) && (decide (x.g.mn ≤ tick - x.t) && decide (tick - x.t ≤ x.g.mx))
def WG.bad (x : WG) (p tick : Int) : Bool := decide (p = x.g.to) && !x.bears tick
def WG.rep (x : WG) (p tick : Int) : WG := if p = x.g.fr then ⟨x.g, tick⟩ else x
structure GSt where
  xs : List WG
  bad : Bool
def tickOk (tick : Int) : Bool := decide (0 ≤ tick) && decide (tick ≤ 1099511627776)
def GSt.rep (s : GSt) (p tick : Int) : GSt := if tickOk tick = true then ⟨s.xs.map (·.rep p tick), s.xs.any (·.bad p tick) || s.bad⟩ else s
def GSt.zero (s : GSt) : GSt := ⟨s.xs, false⟩
def WG.new (g : GapD) : WG := ⟨g, -1⟩
def GSt.new (l : List GapD) : GSt := ⟨l.map WG.new, false⟩
/-- Behind the first k gaps of a report. -/
def GSt.upto (s : GSt) (p tick : Int) (k : Nat) : GSt := ⟨(s.xs.take k).map (·.rep p tick) ++ s.xs.drop k, (s.xs.take k).any (·.bad p tick) || s.bad⟩
theorem GSt.upto_zero (s : GSt) (p tick : Int) : s.upto p tick 0 = s := by simp [GSt.upto]
theorem GSt.upto_all {s : GSt} {p tick : Int} {k : Nat} (h : ¬ k < s.xs.length) (ht : tickOk tick = true) : s.upto p tick k = s.rep p tick := by
  unfold GSt.upto GSt.rep
  rw [List.take_of_length_le (by omega), List.drop_of_length_le (by omega), List.append_nil, if_pos ht]
theorem GSt.upto_len (s : GSt) (p tick : Int) (k : Nat) : (s.upto p tick k).xs.length = s.xs.length := by simp [GSt.upto]; omega
theorem GSt.upto_at {s : GSt} {p tick : Int} {k : Nat} {x : WG} (h : s.xs[k]? = some x) : (s.upto p tick k).xs[k]? = some x := by
  have hk : k < s.xs.length := by
    rcases Nat.lt_or_ge k s.xs.length with h' | h'
    · exact h'
    · rw [List.getElem?_eq_none h'] at h; cases h
  show ((s.xs.take k).map _ ++ s.xs.drop k)[k]? = _
  rw [List.getElem?_append_right (by simp [List.length_take]; omega)]
  simp [List.length_take, List.getElem?_drop, Nat.min_eq_left (Nat.le_of_lt hk), h]
theorem GSt.upto_succ {s : GSt} {p tick : Int} {k : Nat} {x : WG} (h : s.xs[k]? = some x) :
    s.upto p tick (k + 1) = ⟨(s.upto p tick k).xs.set k (x.rep p tick), x.bad p tick || (s.upto p tick k).bad⟩ := by
  have hk : k < s.xs.length := by
    rcases Nat.lt_or_ge k s.xs.length with h' | h'
    · exact h'
    · rw [List.getElem?_eq_none h'] at h; cases h
  have e1 : s.xs.take (k + 1) = s.xs.take k ++ [x] := by
    rw [List.take_add_one, h]; rfl
  have e2 : s.xs.drop k = x :: s.xs.drop (k + 1) := by
    rw [List.drop_eq_getElem_cons hk]
    rw [List.getElem?_eq_getElem hk] at h
    cases h; rfl
  unfold GSt.upto
  simp only [GSt.mk.injEq]
  constructor
  · rw [e1, e2, List.set_append_right _ _ (by simp [List.length_take]; omega)]
    simp [List.length_take, Nat.min_eq_left (Nat.le_of_lt hk)]
  · rw [e1, List.any_append]
    simp only [List.any_cons, List.any_nil, Bool.or_false]
    cases x.bad p tick <;> cases (s.xs.take k).any (·.bad p tick) <;> cases s.bad <;> rfl

/-- A report as the document keeps it. -/
structure MkD where
  pt : Int
  tick : Int
  cyc : Int
/-- The tick of the latest report of a point (-1: none). -/
def lat (fr : Int) (l : List MkD) : Int := l.foldl (fun a m => if m.pt = fr then m.tick else a) (-1)
theorem lat_snoc (fr : Int) (l : List MkD) (m : MkD) : lat fr (l ++ [m]) = if m.pt = fr then m.tick else lat fr l := by
  unfold lat; rw [List.foldl_append]; rfl
def badM (g : GapD) (l : List MkD) (m : MkD) : Bool := (WG.mk g (lat g.fr l)).bad m.pt m.tick
def badI (g : GapD) (l : List MkD) (cyc : Int) (i : Nat) : Bool := match l[i]? with
  | some m => decide (m.cyc = cyc) && badM g (l.take i) m
  | none => false
def gapBad (g : GapD) (l : List MkD) (cyc : Int) : Bool := (List.range l.length).any (badI g l cyc)
theorem gapBad_no {g : GapD} {l : List MkD} {cyc : Int} (h : ∀ k, k < l.length → badI g l cyc k = false) : gapBad g l cyc = false := by
  unfold gapBad; rw [List.any_eq_false]; intro k hk; rw [h k (by simpa using hk)]; simp
theorem gapBad_snoc (g : GapD) (l : List MkD) (m : MkD) (cyc : Int) (hm : m.cyc = cyc) : gapBad g (l ++ [m]) cyc = (badM g l m || gapBad g l cyc) := by
  have e : badI g (l ++ [m]) cyc l.length = badM g l m := by
    unfold badI; simp [hm]
  have e2 : ∀ k, k < l.length → badI g (l ++ [m]) cyc k = badI g l cyc k := fun k hk => by
    unfold badI
    rw [List.getElem?_append_left hk, List.take_append_of_le_length (by omega)]
  unfold gapBad
  rw [List.length_append, show [m].length = 1 from rfl, List.range_succ, List.any_append]
  simp only [List.any_cons, List.any_nil, Bool.or_false, e]
  rw [Bool.or_comm]
  congr 1
  rw [Bool.eq_iff_iff]
  simp only [List.any_eq_true, List.mem_range]
  constructor
  · rintro ⟨k, hk, h⟩; exact ⟨k, hk, by rwa [e2 k hk] at h⟩
  · rintro ⟨k, hk, h⟩; exact ⟨k, hk, by rwa [e2 k hk]⟩
theorem gapBad_next {g : GapD} {l : List MkD} {cyc : Int} (h : ∀ m ∈ l, m.cyc < cyc) : gapBad g l cyc = false := by
  refine gapBad_no fun k hk => ?_
  unfold badI
  rw [List.getElem?_eq_getElem hk]
  have := h _ (List.getElem_mem hk)
  simp only
  rw [decide_eq_false (by omega)]; rfl

/-- What package gaps keeps of the reports so far. -/
def simG (gs : List GapD) (l : List MkD) (cyc : Int) : GSt := ⟨gs.map (fun g => ⟨g, lat g.fr l⟩), gs.any (fun g => gapBad g l cyc)⟩
theorem sim_new (gs : List GapD) : GSt.new gs = simG gs [] 0 := by
  unfold GSt.new simG
  simp only [GSt.mk.injEq]
  refine ⟨rfl, ?_⟩
  symm; rw [List.any_eq_false]; intro g _; simp [gapBad]
theorem sim_rep (gs : List GapD) (l : List MkD) (cyc p tick : Int) (ht : tickOk tick = true) : (simG gs l cyc).rep p tick = simG gs (l ++ [⟨p, tick, cyc⟩]) cyc := by
  unfold GSt.rep simG
  rw [if_pos ht]
  simp only [GSt.mk.injEq, List.map_map]
  refine ⟨List.map_congr_left fun g _ => ?_, ?_⟩
  · simp only [Function.comp, WG.rep, lat_snoc]
    split <;> rfl
  · rw [List.any_map, Bool.eq_iff_iff]
    simp only [Bool.or_eq_true, List.any_eq_true, Function.comp]
    constructor
    · rintro (⟨g, hg, h⟩ | ⟨g, hg, h⟩)
      · exact ⟨g, hg, by rw [gapBad_snoc _ _ _ _ rfl]; simp [badM, h]⟩
      · exact ⟨g, hg, by rw [gapBad_snoc _ _ _ _ rfl, h]; simp⟩
    · rintro ⟨g, hg, h⟩
      rw [gapBad_snoc _ _ _ _ rfl, Bool.or_eq_true] at h
      rcases h with h | h
      · exact Or.inl ⟨g, hg, h⟩
      · exact Or.inr ⟨g, hg, h⟩
theorem rep_off {s : GSt} {p tick : Int} (ht : tickOk tick = false) : s.rep p tick = s := by
  unfold GSt.rep; rw [if_neg (by rw [ht]; simp)]
theorem sim_end {gs : List GapD} {l : List MkD} {cyc : Int} (h : ∀ m ∈ l, m.cyc ≤ cyc) : (simG gs l cyc).zero = simG gs l (cyc + 1) := by
  unfold GSt.zero simG
  simp only [GSt.mk.injEq, true_and]
  symm; rw [List.any_eq_false]; intro g _
  rw [gapBad_next (fun m hm => by have := h m hm; omega)]; simp
/-- Bounds of what is kept. -/
def GSt.fit (s : GSt) : Prop := ∀ x ∈ s.xs, -1 ≤ x.t ∧ x.t ≤ 1099511627776
theorem GSt.fit_new (l : List GapD) : (GSt.new l).fit := by
  intro x hx
  simp only [GSt.new, List.mem_map] at hx
  obtain ⟨y, _, rfl⟩ := hx
  exact ⟨by show (-1 : Int) ≤ -1; decide, by show (-1 : Int) ≤ _; decide⟩
end Go.Proofs.YtdpdbfhbojgigacGreatDoor

namespace Go.Proofs.YtdpdbfhbojgigacGreatDoor

def hasP (e : EntD) (p : Int) : Bool := decide (0 ≤ p) && decide (p < (e.pts.length : Int))
/-- May a point come behind another one (-1: none)? -/
def bearsE (e : EntD) (ah p : Int) : Bool := decide (e.edges = []) || (hasP e p && (if ah = -1 then decide (p ∈ e.first) else decide ((ah, p) ∈ e.edges)))
/-- Which point is ahead behind a report. -/
def behindE (e : EntD) (p : Int) : Int := if hasP e p = true ∧ p ∉ e.last then p else -1
structure FSt where
  ah : Int
  bad : Bool
def FSt.rep (e : EntD) (s : FSt) (p : Int) : FSt := ⟨behindE e p, s.bad || !bearsE e s.ah p⟩
def FSt.zero (s : FSt) : FSt := ⟨s.ah, false⟩
theorem behind_fit (e : EntD) (p : Int) : behindE e p = -1 ∨ (0 ≤ behindE e p ∧ behindE e p < (e.pts.length : Int)) := by
  unfold behindE
  split
  · rename_i h
    right
    have := h.1
    unfold hasP at this
    simp at this
    exact this
  · exact Or.inl rfl
/-- Which point is ahead of the next report. -/
def aheadOf (e : EntD) (l : List MkD) : Int := match l.getLast? with
  | some m => behindE e m.pt
  | none => -1
theorem aheadOf_snoc (e : EntD) (l : List MkD) (m : MkD) : aheadOf e (l ++ [m]) = behindE e m.pt := by unfold aheadOf; simp
def fbadM (e : EntD) (l : List MkD) (m : MkD) : Bool := !bearsE e (aheadOf e l) m.pt
def fbadI (e : EntD) (l : List MkD) (cyc : Int) (i : Nat) : Bool := match l[i]? with
  | some m => decide (m.cyc = cyc) && fbadM e (l.take i) m
  | none => false
def flowBad (e : EntD) (l : List MkD) (cyc : Int) : Bool := (List.range l.length).any (fbadI e l cyc)
theorem flowBad_no {e : EntD} {l : List MkD} {cyc : Int} (h : ∀ k, k < l.length → fbadI e l cyc k = false) : flowBad e l cyc = false := by
  unfold flowBad; rw [List.any_eq_false]; intro k hk; rw [h k (by simpa using hk)]; simp
theorem flowBad_snoc (e : EntD) (l : List MkD) (m : MkD) (cyc : Int) (hm : m.cyc = cyc) : flowBad e (l ++ [m]) cyc = (flowBad e l cyc || fbadM e l m) := by
  have e1 : fbadI e (l ++ [m]) cyc l.length = fbadM e l m := by
    unfold fbadI; simp [hm]
  have e2 : ∀ k, k < l.length → fbadI e (l ++ [m]) cyc k = fbadI e l cyc k := fun k hk => by
    unfold fbadI
    rw [List.getElem?_append_left hk, List.take_append_of_le_length (by omega)]
  unfold flowBad
  rw [List.length_append, show [m].length = 1 from rfl, List.range_succ, List.any_append]
  simp only [List.any_cons, List.any_nil, Bool.or_false, e1]
  congr 1
  rw [Bool.eq_iff_iff]
  simp only [List.any_eq_true, List.mem_range]
  constructor
  · rintro ⟨k, hk, h⟩; exact ⟨k, hk, by rwa [e2 k hk] at h⟩
  · rintro ⟨k, hk, h⟩; exact ⟨k, hk, by rwa [e2 k hk]⟩
theorem flowBad_next {e : EntD} {l : List MkD} {cyc : Int} (h : ∀ m ∈ l, m.cyc < cyc) : flowBad e l cyc = false := by
  refine flowBad_no fun k hk => ?_
  unfold fbadI
  rw [List.getElem?_eq_getElem hk]
  have := h _ (List.getElem_mem hk)
  simp only
  rw [decide_eq_false (by omega)]; rfl
/-- What package flow keeps of the reports so far. -/
def simF (e : EntD) (l : List MkD) (cyc : Int) : FSt := ⟨aheadOf e l, flowBad e l cyc⟩
theorem simF_new (e : EntD) : simF e [] 0 = ⟨-1, false⟩ := by simp [simF, aheadOf, flowBad]
theorem simF_rep (e : EntD) (l : List MkD) (cyc p t : Int) : (simF e l cyc).rep e p = simF e (l ++ [⟨p, t, cyc⟩]) cyc := by
  unfold FSt.rep simF
  rw [aheadOf_snoc, flowBad_snoc _ _ _ _ rfl]
  rfl
theorem simF_end {e : EntD} {l : List MkD} {cyc : Int} (h : ∀ m ∈ l, m.cyc ≤ cyc) : (simF e l cyc).zero = simF e l (cyc + 1) := by
  unfold FSt.zero simF
  rw [flowBad_next (cyc := cyc + 1) (fun m hm => by have := h m hm; omega)]
end Go.Proofs.YtdpdbfhbojgigacGreatDoor

namespace Go.Proofs.YtdpdbfhbojgigacGreatDoor
open Go

/-- Delay, cycles since it expired, the status (0 ok, 1 failed, 2 expired, 3 stopped). -/
structure TSt where
  delay : Nat
  since : Nat
  st : Nat
def failedB : ByteArray := ⟨#[102, 97, 105, 108, 101, 100]⟩
def expiredB : ByteArray := ⟨#[101, 120, 112, 105, 114, 101, 100]⟩
def totB : Nat → ByteArray
  | 0 => ⟨#[111, 107]⟩
  | 1 => failedB
  | 2 => expiredB
  | _ => ⟨#[115, 116, 111, 112, 112, 101, 100]⟩
def hasB (l : List ByteArray) (x : ByteArray) : Bool := l.any fun y => decide (y = x)
def worstOf (l : List ByteArray) : Nat := if hasB l expiredB = true then 2 else if hasB l failedB = true then 1 else 0
def TSt.new (d : Nat) : TSt := ⟨d, 0, 0⟩
/-- Expired becomes stopped, when it is time. -/
def TSt.cut (s : TSt) : TSt := if s.st = 2 ∧ s.since = s.delay then { s with st := 3 } else s
def TSt.fin (s : TSt) (l : List ByteArray) : TSt :=
  if s.st = 3 then s else if s.st = 2 then TSt.cut ⟨s.delay, s.since + 1, 2⟩ else TSt.cut ⟨s.delay, 0, worstOf l⟩
structure TFit (s : TSt) (k : Nat) : Prop where
  d : s.delay ≤ 20
  s0 : s.since ≤ k
  lt : s.st = 2 → s.since < s.delay
  st : s.st ≤ 3
  z : s.st < 2 → s.since = 0
theorem worst_le (l : List ByteArray) : worstOf l ≤ 2 := by unfold worstOf; split; omega; split <;> omega
theorem TFit.new {d : Nat} (h : d ≤ 20) : TFit (TSt.new d) 0 := ⟨h, Nat.le_refl _, fun e => absurd e (show ¬ (0 : Nat) = 2 by decide), Nat.zero_le _, fun _ => rfl⟩
theorem TFit.fin {s : TSt} {k : Nat} (h : TFit s k) (l : List ByteArray) : TFit (s.fin l) (k + 1) := by
  unfold TSt.fin
  split
  · exact ⟨h.d, Nat.le_trans h.s0 (by omega), h.lt, h.st, h.z⟩
  · split
    · rename_i h2
      have h3 := h.lt h2
      have h4 := h.s0
      unfold TSt.cut
      split
      · exact ⟨h.d, by show s.since + 1 ≤ _; omega, fun e => absurd e (show ¬ (3 : Nat) = 2 by decide), Nat.le_refl 3, fun e => by have : (3 : Nat) < 2 := e; omega⟩
      · rename_i h5
        exact ⟨h.d, by show s.since + 1 ≤ _; omega, fun _ => by show s.since + 1 < s.delay; simp only [true_and] at h5; omega, by show 2 ≤ 3; omega, fun e => by have : (2 : Nat) < 2 := e; omega⟩
    · have hw := worst_le l
      unfold TSt.cut
      split
      · exact ⟨h.d, Nat.zero_le _, fun e => absurd e (show ¬ (3 : Nat) = 2 by decide), Nat.le_refl 3, fun e => by have : (3 : Nat) < 2 := e; omega⟩
      · rename_i h5
        exact ⟨h.d, Nat.zero_le _, fun e => by show 0 < s.delay; have e' : worstOf l = 2 := e; simp only [e', true_and] at h5; omega, by show worstOf l ≤ 3; omega, fun _ => rfl⟩
/-- i cycles behind the one at which it expired. -/
def behind (d i : Nat) : TSt := if i < d then ⟨d, i, 2⟩ else ⟨d, d, 3⟩
end Go.Proofs.YtdpdbfhbojgigacGreatDoor

namespace Go.Proofs.YtdpdbfhbojgigacGreatDoor

abbrev Bs := List UInt8
def bl (b : ByteArray) : Bs := b.data.toList
def pt (pts : List ByteArray) (x : Int) : Bs := bl (pts.getD x.toNat ByteArray.empty)
end Go.Proofs.YtdpdbfhbojgigacGreatDoor

namespace Go.Proofs.YtdpdbfhbojgigacGreatDoor

def form : Nat → List Nat
  | 0 => [1, 1]
  | 1 => [1]
  | 2 => [1]
  | 3 => [0, 1]
  | 4 => [0]
  | 5 => [2, 1, 1]
  | 6 => [2, 2, 1, 1]
  | 7 => [2, 2]
  | _ => [2]
def may (last : Int) (k : Nat) : Bool :=
  if k ≤ 2 then decide (last = (k : Int) - 1) else if k = 3 then decide (2 ≤ last) else if k = 5 then decide (3 ≤ last) && decide (last < 5) else decide (3 ≤ last) && decide (last ≤ (k : Int))
def trim (s : Bs) : Bs := if s.getLast? = some 10 then s.dropLast else s
theorem bl_inj {a b : ByteArray} (h : bl a = bl b) : a = b := by
  obtain ⟨⟨a⟩⟩ := a; obtain ⟨⟨b⟩⟩ := b
  simp [bl] at h
  subst h; rfl

end Go.Proofs.YtdpdbfhbojgigacGreatDoor

namespace Go.Proofs.YtdpdbfhbojgigacGreatDoor

theorem firstOf_cons {b : Bool} {c : Nat} {t : List (Bool × Nat)} (hc : c ≠ 0) (h : firstOf ((b, c) :: t) = 0) : b = false ∧ firstOf t = 0 := by
  unfold firstOf at h
  cases b with
  | false => exact ⟨rfl, by simpa using h⟩
  | true => simp at h; exact absurd h hc
structure OkE (e : EntD) : Prop where
  name : isName e.name = true
  tol : 0 ≤ e.tol ∧ e.tol ≤ 20
  pn : ∀ p ∈ e.pts, isName p = true
  nd : e.pts.Nodup
  cnt : (e.cnt = -1 ∧ e.mn = 0 ∧ e.mx = 0) ∨ (0 ≤ e.cnt ∧ e.cnt < (e.pts.length : Int))
  mm : 0 ≤ e.mn ∧ e.mn ≤ e.mx ∧ e.mx ≤ 999
  gaps : ∀ g ∈ e.gaps, (0 ≤ g.fr ∧ g.fr < (e.pts.length : Int)) ∧ (0 ≤ g.to ∧ g.to < (e.pts.length : Int)) ∧ 0 ≤ g.mn ∧ g.mn ≤ g.mx ∧ g.mx ≤ 1099511627776
  edges : ∀ d ∈ e.edges, (0 ≤ d.1 ∧ d.1 < (e.pts.length : Int)) ∧ (0 ≤ d.2 ∧ d.2 < (e.pts.length : Int))
  first : ∀ x ∈ e.first, 0 ≤ x ∧ x < (e.pts.length : Int)
  last : ∀ x ∈ e.last, 0 ≤ x ∧ x < (e.pts.length : Int)
theorem nameErr_zero {a : List ByteArray} {s : ByteArray} (h : nameErr a s = 0) : isName s = true ∧ s ∉ a := by
  unfold nameErr at h
  split at h
  · rename_i hn
    split at h
    · simp at h
    · rename_i ha
      refine ⟨hn, fun hm => ha ?_⟩
      exact List.any_eq_true.2 ⟨s, hm, by simp⟩
  · simp at h
theorem ptsErr_zero : ∀ (l a : List ByteArray), ptsErr a l = 0 → (∀ p ∈ l, isName p = true ∧ p ∉ a) ∧ l.Nodup
  | [], _, _ => ⟨fun p hp => (List.not_mem_nil hp).elim, List.Pairwise.nil⟩
  | p :: t, a, h => by
    unfold ptsErr at h
    split at h
    · rename_i h0
      obtain ⟨h1, h2⟩ := nameErr_zero h0
      obtain ⟨h3, h4⟩ := ptsErr_zero t (a ++ [p]) h
      refine ⟨fun q hq => ?_, List.nodup_cons.2 ⟨fun hm => (h3 p hm).2 (by simp), h4⟩⟩
      rcases List.mem_cons.1 hq with rfl | hq
      · exact ⟨h1, h2⟩
      · exact ⟨(h3 q hq).1, fun hm => (h3 q hq).2 (by simp [hm])⟩
    · rename_i h0; exact absurd h h0
theorem lacks_false {n : Nat} {x : Int} (h : lacks n x = false) : 0 ≤ x ∧ x < (n : Int) := by
  unfold lacks at h; simp at h; omega
theorem rise_true {a b c d : Int} (h : rise a b c d = true) : a ≤ b ∧ b ≤ c ∧ c ≤ d := by
  unfold rise at h; simp at h; omega
theorem entErr_zero {a : List ByteArray} {e : EntD} (h : entErr a e = 0) : nameErr a e.name = 0 ∧ sizeErr e = 0 ∧ ptsErr [] e.pts = 0 ∧ partErr e = 0 := by
  unfold entErr at h
  split at h
  · rename_i h0; exact absurd h h0
  · rename_i h0
    split at h
    · rename_i h1; exact absurd h h1
    · rename_i h1
      split at h
      · rename_i h2; exact absurd h h2
      · rename_i h2; exact ⟨by simpa using h0, by simpa using h1, by simpa using h2, h⟩
theorem okE_of {a : List ByteArray} {e : EntD} (h : entErr a e = 0) : OkE e := by
  obtain ⟨h1, h2, h3, h4⟩ := entErr_zero h
  obtain ⟨n1, -⟩ := nameErr_zero h1
  obtain ⟨p1, p2⟩ := ptsErr_zero _ _ h3
  unfold sizeErr at h2
  obtain ⟨s1, -⟩ := firstOf_cons (by simp) h2
  unfold partErr at h4
  obtain ⟨q1, h4⟩ := firstOf_cons (by simp) h4
  obtain ⟨q2, h4⟩ := firstOf_cons (by simp) h4
  obtain ⟨q3, h4⟩ := firstOf_cons (by simp) h4
  obtain ⟨q4, h4⟩ := firstOf_cons (by simp) h4
  obtain ⟨q5, h4⟩ := firstOf_cons (by simp) h4
  obtain ⟨q6, h4⟩ := firstOf_cons (by simp) h4
  obtain ⟨q7, h4⟩ := firstOf_cons (by simp) h4
  obtain ⟨q8, -⟩ := firstOf_cons (by simp) h4
  simp only [Bool.not_eq_false'] at q7
  have m7 := rise_true q7
  refine ⟨n1, ?_, fun p hp => (p1 p hp).1, p2, ?_, m7, fun g hg => ?_, fun d hd => ?_, fun x hx => ?_, fun x hx => ?_⟩
  · simp [within] at s1; omega
  · by_cases hc : e.cnt = -1
    · left
      simp [hc] at q6
      exact ⟨hc, q6⟩
    · right
      simp [hc] at q1
      exact lacks_false q1
  · have a1 := List.any_eq_false.1 q2 g hg
    have a2 := List.any_eq_false.1 q8 g hg
    simp only [Bool.or_eq_true, not_or, Bool.not_eq_true] at a1
    simp only [Bool.not_eq_true, Bool.not_eq_false'] at a2
    exact ⟨lacks_false a1.1, lacks_false a1.2, rise_true a2⟩
  · have a1 := List.any_eq_false.1 q3 d hd
    simp only [Bool.or_eq_true, not_or, Bool.not_eq_true] at a1
    exact ⟨lacks_false a1.1, lacks_false a1.2⟩
  · exact lacks_false (by simpa using List.any_eq_false.1 q4 x hx)
  · exact lacks_false (by simpa using List.any_eq_false.1 q5 x hx)
theorem entsErr_zero : ∀ (l : List EntD) (a : List ByteArray) (i : Nat), (entsErr a i l).1 = 0 → ∀ e ∈ l, OkE e
  | [], _, _, _, e, he => by cases he
  | x :: t, a, i, h, e, he => by
    unfold entsErr at h
    split at h
    · rename_i h0
      rcases List.mem_cons.1 he with rfl | he
      · exact okE_of h0
      · exact entsErr_zero t _ _ h e he
    · rename_i h0; exact absurd h h0
structure OkC (c : CfgD) : Prop where
  closed : 0 ≤ c.closed ∧ c.closed ≤ 1000
  opn : 1 ≤ c.opn ∧ c.opn ≤ 1000
  cycle : 1 ≤ c.cycle ∧ c.cycle ≤ 100
  delay : 0 ≤ c.delay ∧ c.delay ≤ 20
  many : c.ents.length ≤ 8
  ents : ∀ e ∈ c.ents, OkE e
theorem okC_of {c : CfgD} (h : (cfgErr c).1 = 0) : OkC c := by
  unfold cfgErr at h
  split at h
  · rename_i h0
    unfold wholeErr at h0
    obtain ⟨q1, h0⟩ := firstOf_cons (by simp) h0
    obtain ⟨q2, h0⟩ := firstOf_cons (by simp) h0
    obtain ⟨q3, h0⟩ := firstOf_cons (by simp) h0
    obtain ⟨q4, -⟩ := firstOf_cons (by simp) h0
    simp [within] at q1 q2 q3 q4
    exact ⟨q1.1, q1.2, q2, q3, q4, entsErr_zero _ _ _ h⟩
  · rename_i h0; exact absurd h h0

end Go.Proofs.YtdpdbfhbojgigacGreatDoor

namespace Go.Proofs.YtdpdbfhbojgigacGreatDoor

structure SizeE (e : EntD) : Prop where
  pts : e.pts.length ≤ 16
  gaps : e.gaps.length ≤ 8
  edges : e.edges.length ≤ 64
  first : e.first.length ≤ 16
  last : e.last.length ≤ 16
theorem sizeE_of {e : EntD} (h : sizeErr e = 0) : SizeE e := by
  unfold sizeErr at h
  obtain ⟨-, h⟩ := firstOf_cons (by simp) h
  obtain ⟨q1, h⟩ := firstOf_cons (by simp) h
  obtain ⟨q2, h⟩ := firstOf_cons (by simp) h
  obtain ⟨q3, h⟩ := firstOf_cons (by simp) h
  obtain ⟨q4, h⟩ := firstOf_cons (by simp) h
  obtain ⟨q5, -⟩ := firstOf_cons (by simp) h
  simp at q1 q2 q3 q4 q5
  exact ⟨q1, q2, q3, q4, q5⟩
theorem entsErr_size : ∀ (l : List EntD) (a : List ByteArray) (i : Nat), (entsErr a i l).1 = 0 → ∀ e ∈ l, SizeE e
  | [], _, _, _, e, he => by cases he
  | x :: t, a, i, h, e, he => by
    unfold entsErr at h
    split at h
    · rename_i h0
      rcases List.mem_cons.1 he with rfl | he
      · exact sizeE_of (entErr_zero h0).2.1
      · exact entsErr_size t _ _ h e he
    · rename_i h0; exact absurd h h0
theorem cfg_size {c : CfgD} (h : (cfgErr c).1 = 0) : ∀ e ∈ c.ents, SizeE e := by
  unfold cfgErr at h
  split at h
  · exact entsErr_size _ _ _ h
  · rename_i h0; exact absurd h h0
end Go.Proofs.YtdpdbfhbojgigacGreatDoor
