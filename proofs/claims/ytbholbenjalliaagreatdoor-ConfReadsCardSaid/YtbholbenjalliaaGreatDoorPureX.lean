/-
  Several texts as one: CfPure, CfText, CfRead, CfSplit, CfBack, CfLen, CfSame. What each holds: CfPure: A config as plain data, and what is wrong with it: pure functions. No condition. | CfText: Lines, words and numbers of a config's text: pure functions. No condition. | CfRead: A reader of a config's lines, and that what is read is written as it was: pure functions. Condition: the look-up of points is right (GoodLook). | CfSplit: The library's split by one byte is 'cutBy': pure. No condition. | CfBack: What is written is read: pure functions. Conditions: the config is right, its text has at most 8000 bytes, the look-up is right. | CfLen: How long the text of a right config is at most: pure. No condition. | CfSame: Which of two points of one name a look-up tells makes no difference to what is read: pure functions. Condition: both look-ups are right.
-/
import Derived.Test.YtbholbenjalliaaGreatDoorProg
import Derived.Lib.Split
namespace Go.Proofs.YtbholbenjalliaaGreatDoor

/-- A gap; an entity; a config: plain data. -/
structure GapD where
  fr : Int
  to : Int
  mn : Int
  mx : Int
structure EntD where
  name : ByteArray
  tol : Int
  pts : List ByteArray
  cnt : Int
  mn : Int
  mx : Int
  gaps : List GapD
  edges : List (Int × Int)
  first : List Int
  last : List Int
structure CfgD where
  closed : Int
  opn : Int
  cycle : Int
  delay : Int
  ents : List EntD

def isLetter (b : UInt8) : Bool := decide (97 ≤ b.toNat) && decide (b.toNat ≤ 122)
def isDig (b : UInt8) : Bool := decide (48 ≤ b.toNat) && decide (b.toNat ≤ 57)
def nameByte (b : UInt8) : Bool := isLetter b || isDig b || decide (b.toNat = 45)
def isName (s : ByteArray) : Bool := decide (1 ≤ s.size) && decide (s.size ≤ 12) && isLetter (s.data.getD 0 0) && s.data.toList.all nameByte

/-- The first that is so, its number; 0: none. -/
def firstOf : List (Bool × Nat) → Nat
  | [] => 0
  | (b, c) :: t => if b then c else firstOf t

def within (n a b : Int) : Bool := decide (a ≤ n) && decide (n ≤ b)
def lacks (n : Nat) (x : Int) : Bool := decide (x < 0) || decide ((n : Int) ≤ x)
def rise (a b c d : Int) : Bool := decide (a ≤ b) && decide (b ≤ c) && decide (c ≤ d)
/-- One of them twice? -/
def twice {α : Type} [DecidableEq α] (l : List α) : Bool := (List.range l.length).any fun i => match l[i]? with
  | some x => (l.take i).any fun y => decide (x = y)
  | none => false

def nameErr (ahead : List ByteArray) (s : ByteArray) : Nat := if isName s then (if ahead.any (fun x => decide (x = s)) then 6 else 0) else 4
def sizeErr (e : EntD) : Nat := firstOf [(!within e.tol 0 20, 2), (decide (16 < e.pts.length), 2), (decide (8 < e.gaps.length), 2), (decide (64 < e.edges.length), 2), (decide (16 < e.first.length), 2), (decide (16 < e.last.length), 2)]
def partErr (e : EntD) : Nat := firstOf [
  (decide (e.cnt ≠ -1) && lacks e.pts.length e.cnt, 5),
  (e.gaps.any fun g => lacks e.pts.length g.fr || lacks e.pts.length g.to, 5),
  (e.edges.any fun d => lacks e.pts.length d.1 || lacks e.pts.length d.2, 5),
  (e.first.any fun x => lacks e.pts.length x, 5),
  (e.last.any fun x => lacks e.pts.length x, 5),
  (decide (e.cnt = -1) && (decide (e.mn ≠ 0) || decide (e.mx ≠ 0)), 3),
  (!rise 0 e.mn e.mx 999, 2),
  (e.gaps.any fun g => !rise 0 g.mn g.mx 1099511627776, 2),
  (twice e.edges, 6), (twice e.first, 6), (twice e.last, 6),
  (decide (0 < e.edges.length) && decide (e.first.length = 0), 3),
  (decide (e.edges.length = 0) && decide (0 < e.first.length + e.last.length), 3)]
def ptsErr : List ByteArray → List ByteArray → Nat
  | _, [] => 0
  | a, p :: t => if nameErr a p = 0 then ptsErr (a ++ [p]) t else nameErr a p
def entErr (ahead : List ByteArray) (e : EntD) : Nat :=
  if nameErr ahead e.name ≠ 0 then nameErr ahead e.name else if sizeErr e ≠ 0 then sizeErr e else if ptsErr [] e.pts ≠ 0 then ptsErr [] e.pts else partErr e
def wholeErr (c : CfgD) : Nat := firstOf [(!(within c.closed 0 1000 && within c.opn 1 1000), 2), (!within c.cycle 1 100, 2), (!within c.delay 0 20, 2), (decide (8 < c.ents.length), 2), (decide (c.opn < c.cycle), 3)]
/-- The first entity that is none: its error, and its place. -/
def entsErr : List ByteArray → Nat → List EntD → Nat × Int
  | _, _, [] => (0, -1)
  | a, i, e :: t => if entErr a e = 0 then entsErr (a ++ [e.name]) (i + 1) t else (entErr a e, (i : Int))
def cfgErr (c : CfgD) : Nat × Int := if wholeErr c = 0 then entsErr [] 0 c.ents else (wholeErr c, -1)
end Go.Proofs.YtbholbenjalliaaGreatDoor

namespace Go.Proofs.YtbholbenjalliaaGreatDoor

abbrev Bs := List UInt8
def bl (b : ByteArray) : Bs := b.data.toList
def kw : Nat → Bs
  | 0 => [119, 105, 110, 100, 111, 119]
  | 1 => [99, 121, 99, 108, 101]
  | 2 => [100, 101, 108, 97, 121]
  | 3 => [101, 110, 116, 105, 116, 121]
  | 4 => [112, 111, 105, 110, 116]
  | 5 => [99, 111, 117, 110, 116]
  | 6 => [103, 97, 112]
  | 7 => [101, 100, 103, 101]
  | 8 => [102, 105, 114, 115, 116]
  | _ => [108, 97, 115, 116]
/-- Digits of a number. -/
def decN (u : Nat) : Bs := if h : u < 10 then [UInt8.ofNat (48 + u)] else decN (u / 10) ++ [UInt8.ofNat (48 + u % 10)]
def num (n : Int) : Bs := decN n.toNat
def kwLine (k : Nat) (ws : List Bs) : Bs := kw k ++ ws.flatMap (fun w => 32 :: w)
def pt (pts : List ByteArray) (x : Int) : Bs := bl (pts.getD x.toNat ByteArray.empty)
def entLines (e : EntD) : List Bs :=
  kwLine 3 [bl e.name, num e.tol] :: (e.pts.map (fun p => kwLine 4 [bl p]) ++ ((if e.cnt = -1 then [] else [kwLine 5 [pt e.pts e.cnt, num e.mn, num e.mx]]) ++
    (e.gaps.map (fun g => kwLine 6 [pt e.pts g.fr, pt e.pts g.to, num g.mn, num g.mx]) ++ (e.edges.map (fun d => kwLine 7 [pt e.pts d.1, pt e.pts d.2]) ++
      (e.first.map (fun x => kwLine 8 [pt e.pts x]) ++ e.last.map (fun x => kwLine 9 [pt e.pts x]))))))
def confLines (c : CfgD) : List Bs := kwLine 0 [num c.closed, num c.opn] :: kwLine 1 [num c.cycle] :: kwLine 2 [num c.delay] :: c.ents.flatMap entLines
def confText (c : CfgD) : Bs := (confLines c).flatMap (fun l => l ++ [10])

/-- A text cut by a byte. -/
def cutBy (c : UInt8) : Bs → List Bs
  | [] => [[]]
  | b :: t => if b = c then [] :: cutBy c t else match cutBy c t with
    | [] => [[b]]
    | h :: r => (b :: h) :: r
def joinBy (c : UInt8) (h : Bs) (ws : List Bs) : Bs := h ++ ws.flatMap (fun w => c :: w)
theorem cutBy_ne (c : UInt8) (l : Bs) : cutBy c l ≠ [] := by
  cases l with
  | nil => simp [cutBy]
  | cons b t =>
    unfold cutBy
    split
    · simp
    · split <;> simp
theorem cut_pre (c : UInt8) (t : Bs) (h : Bs) (r : List Bs) (e : cutBy c t = h :: r) : ∀ w : Bs, c ∉ w → cutBy c (w ++ t) = (w ++ h) :: r := by
  intro w
  induction w with
  | nil => intro _; exact e
  | cons b w ih =>
    intro hw
    simp only [List.mem_cons, not_or] at hw
    have := ih hw.2
    rw [List.cons_append, cutBy, if_neg (Ne.symm hw.1), this]
    rfl
theorem cut_nil (c : UInt8) (w : Bs) (hw : c ∉ w) : cutBy c w = [w] := by
  have := cut_pre c [] [] [] rfl w hw
  simpa using this
theorem cut_join (c : UInt8) : ∀ (ws : List Bs) (h : Bs), c ∉ h → (∀ w ∈ ws, c ∉ w) → cutBy c (joinBy c h ws) = h :: ws := by
  intro ws
  induction ws with
  | nil => intro h hh _; simpa [joinBy] using cut_nil c h hh
  | cons x ws ih =>
    intro h hh hw
    have e := ih x (hw x (by simp)) (fun w h => hw w (by simp [h]))
    have e2 : cutBy c (c :: joinBy c x ws) = [] :: x :: ws := by rw [cutBy, if_pos rfl, e]
    have := cut_pre c _ _ _ e2 h hh
    simpa [joinBy] using this
theorem join_cut (c : UInt8) : ∀ (l : Bs) (h : Bs) (ws : List Bs), cutBy c l = h :: ws → l = joinBy c h ws := by
  intro l
  induction l with
  | nil => intro h ws e; simp [cutBy] at e; obtain ⟨rfl, rfl⟩ := e; rfl
  | cons b t ih =>
    intro h ws e
    unfold cutBy at e
    split at e
    · rename_i hb
      simp at e
      obtain ⟨rfl, e⟩ := e
      cases hc : cutBy c t with
      | nil => exact absurd hc (cutBy_ne c t)
      | cons x r =>
        rw [hc] at e
        subst e
        have := ih _ _ hc
        rw [this, hb]
        simp [joinBy]
    · split at e
      · rename_i hc; exact absurd hc (cutBy_ne c t)
      · rename_i x r hc
        simp at e
        obtain ⟨rfl, rfl⟩ := e
        have := ih _ _ hc
        rw [this]
        simp [joinBy]
theorem cut_clean (c : UInt8) : ∀ (l : Bs), ∀ w ∈ cutBy c l, c ∉ w := by
  intro l
  induction l with
  | nil => intro w hw; simp [cutBy] at hw; subst hw; simp
  | cons b t ih =>
    intro w hw
    unfold cutBy at hw
    split at hw
    · simp at hw
      rcases hw with rfl | hw
      · simp
      · exact ih w hw
    · rename_i hb
      split at hw
      · rename_i hc; exact absurd hc (cutBy_ne c t)
      · rename_i x r hc
        simp at hw
        rcases hw with rfl | hw
        · have := ih x (by rw [hc]; simp)
          simp only [List.mem_cons, not_or]
          exact ⟨fun e => hb e.symm, this⟩
        · exact ih w (by rw [hc]; simp [hw])
theorem text_join (h : Bs) (t : List Bs) : (h :: t).flatMap (fun l => l ++ [10]) = joinBy 10 h t ++ [10] := by
  induction t generalizing h with
  | nil => simp [joinBy]
  | cons x t ih =>
    rw [List.flatMap_cons, ih x]
    simp [joinBy]

/-! Numbers -/
def valD (w : Bs) : Nat := w.foldl (fun n b => n * 10 + (b.toNat - 48)) 0
def numOf (w : Bs) : Option Nat := if w.length = 0 ∨ 13 < w.length ∨ (1 < w.length ∧ w.head? = some 48) ∨ w.all isDig = false then none else some (valD w)
theorem valD_snoc (w : Bs) (b : UInt8) : valD (w ++ [b]) = valD w * 10 + (b.toNat - 48) := by simp [valD]
theorem dig_of (u : Nat) (h : u < 10) : (UInt8.ofNat (48 + u)).toNat = 48 + u := by simp; omega
theorem decN_small {u : Nat} (h : u < 10) : decN u = [UInt8.ofNat (48 + u)] := by rw [decN, dif_pos h]
theorem decN_big {u : Nat} (h : ¬ u < 10) : decN u = decN (u / 10) ++ [UInt8.ofNat (48 + u % 10)] := by rw [decN, dif_neg h]
theorem decN_all (u : Nat) : valD (decN u) = u ∧ (decN u).all isDig = true ∧ decN u ≠ [] ∧ (0 < u → (decN u).head? ≠ some 48) ∧ ∀ k, u < 10 ^ (k + 1) → (decN u).length ≤ k + 1 := by
  induction u using Nat.strongRecOn with
  | ind u ih =>
    by_cases h : u < 10
    · rw [decN_small h]
      refine ⟨by simp only [valD, List.foldl_cons, List.foldl_nil, dig_of u h]; omega, by simp only [List.all_cons, List.all_nil, isDig, dig_of u h]; simp; omega, by simp, fun hu e => ?_, fun k _ => by simp⟩
      simp only [List.head?_cons, Option.some.injEq] at e
      have := congrArg UInt8.toNat e
      rw [dig_of u h] at this
      have h48 : (48 : UInt8).toNat = 48 := rfl
      omega
    · obtain ⟨a, b, c, d, l⟩ := ih (u / 10) (by omega)
      have hd := dig_of (u % 10) (by omega)
      rw [decN_big h]
      refine ⟨by rw [valD_snoc, a, hd]; omega, ?_, by simp, fun _ e => ?_, fun k hk => ?_⟩
      · rw [List.all_append, b]; simp only [List.all_cons, List.all_nil, isDig, hd]; simp; omega
      · rw [List.head?_append] at e
        have hne := d (by omega)
        cases hh : (decN (u / 10)).head? with
        | none => simp at hh; exact c hh
        | some x => rw [hh] at e hne; exact hne (by simpa using e)
      · cases k with
        | zero => simp at hk; omega
        | succ k =>
          have := l k (by rw [Nat.pow_succ] at hk; omega)
          simp; omega
theorem numOf_dec (u : Nat) (h : u < 10000000000000) : numOf (decN u) = some u := by
  obtain ⟨a, b, c, d, l⟩ := decN_all u
  have l2 := l 12 (by simpa using h)
  unfold numOf
  rw [if_neg, a]
  rintro (h1 | h1 | ⟨h1, h2⟩ | h1)
  · exact c (List.eq_nil_of_length_eq_zero h1)
  · omega
  · by_cases hu : u < 10
    · rw [decN_small hu] at h1; simp at h1
    · exact d (by omega) h2
  · rw [b] at h1; cases h1
theorem dec_val : ∀ (n : Nat) (w : Bs), w.length = n → w ≠ [] → w.all isDig = true → (1 < w.length → w.head? ≠ some 48) → decN (valD w) = w ∧ (w.head? ≠ some 48 → 0 < valD w) := by
  intro n
  induction n with
  | zero => intro w h h0; exact absurd (List.eq_nil_of_length_eq_zero h) h0
  | succ n ih =>
    intro w hl h0 ha hz
    obtain ⟨w', b, rfl⟩ : ∃ w' b, w = w' ++ [b] := ⟨w.dropLast, w.getLast h0, (List.dropLast_concat_getLast h0).symm⟩
    rw [List.all_append] at ha
    simp only [List.all_cons, List.all_nil, Bool.and_true, Bool.and_eq_true] at ha
    obtain ⟨ha1, ha2⟩ := ha
    simp [isDig] at ha2
    have hb : UInt8.ofNat (48 + (b.toNat - 48)) = b := by
      apply UInt8.toNat.inj
      rw [dig_of _ (by omega)]
      omega
    rw [valD_snoc]
    by_cases hw : w' = []
    · subst hw
      simp only [valD, List.foldl_nil, List.nil_append, Nat.zero_mul, Nat.zero_add, List.head?_cons]
      refine ⟨by rw [decN_small (by omega), hb], fun h => ?_⟩
      have : b.toNat ≠ 48 := fun e => h (by congr 1; apply UInt8.toNat.inj; simpa using e)
      omega
    · have hlen : w'.length = n := by simpa using hl
      have hne : 0 < w'.length := List.length_pos_iff.2 hw
      have hh : (w' ++ [b]).head? = w'.head? := by cases w' with | nil => exact absurd rfl hw | cons => rfl
      have hz2 : w'.head? ≠ some 48 := by rw [← hh]; exact hz (by simp; omega)
      obtain ⟨e, p⟩ := ih w' hlen hw ha1 (fun _ => hz2)
      have hp := p hz2
      refine ⟨?_, fun _ => by omega⟩
      rw [decN_big (by omega)]
      have e1 : (valD w' * 10 + (b.toNat - 48)) / 10 = valD w' := by omega
      have e2 : (valD w' * 10 + (b.toNat - 48)) % 10 = b.toNat - 48 := by omega
      rw [e1, e2, e, hb]
theorem dec_numOf {w : Bs} {n : Nat} (h : numOf w = some n) : decN n = w := by
  unfold numOf at h
  split at h
  · cases h
  · rename_i hc
    simp only [not_or, not_and, Bool.not_eq_false] at hc
    obtain ⟨h1, h2, h3, h4⟩ := hc
    cases h
    exact (dec_val w.length w rfl (fun e => h1 (by rw [e]; rfl)) h4 h3).1
theorem numOf_lt {w : Bs} {n : Nat} (h : numOf w = some n) : w ≠ [] := by
  intro e; subst e; simp [numOf] at h
end Go.Proofs.YtbholbenjalliaaGreatDoor

namespace Go.Proofs.YtbholbenjalliaaGreatDoor

def form : Nat → List Nat
  | 0 => [1, 1]
  | 1 => [1]
  | 2 => [1]
  | 3 => [0, 1]
  | 4 => [0]
  | 5 => [2, 1, 1]
  | 6 => [2, 2, 1, 1]
  | 7 => [2, 2]
  | _ => [2]
def kindOf (w : Bs) : Option Nat := (List.range 10).find? (fun k => decide (kw k = w))
def may (last : Int) (k : Nat) : Bool :=
  if k ≤ 2 then decide (last = (k : Int) - 1) else if k = 3 then decide (2 ≤ last) else if k = 5 then decide (3 ≤ last) && decide (last < 5) else decide (3 ≤ last) && decide (last ≤ (k : Int))
def wordV (look : Bs → Option Nat) (f : Nat) (w : Bs) : Nat × Int :=
  if w = [] then (1, 0) else match f with
  | 0 => (0, 0)
  | 1 => match numOf w with
    | some n => (0, (n : Int))
    | none => (1, 0)
  | _ => match look w with
    | some n => (0, (n : Int))
    | none => (5, 0)
/-- The words of a line, as its form asks: 0: well; 1: one is none; 5: a point that is not there. -/
def fillV (look : Bs → Option Nat) : Bool → List Nat → List Bs → Nat × List Int
  | nn, [], [] => (if nn then 5 else 0, [])
  | nn, f :: fs, w :: ws => if (wordV look f w).1 = 1 then (1, []) else ((fillV look (nn || decide ((wordV look f w).1 = 5)) fs ws).1, (wordV look f w).2 :: (fillV look (nn || decide ((wordV look f w).1 = 5)) fs ws).2)
  | _, [], _ :: _ => (1, [])
  | _, _ :: _, [] => (1, [])
def newEnt (name : Bs) (tol : Int) : EntD := ⟨⟨name.toArray⟩, tol, [], -1, 0, 0, [], [], [], []⟩
def updLast (f : EntD → EntD) : List EntD → List EntD
  | [] => []
  | [e] => [f e]
  | x :: y :: t => x :: updLast f (y :: t)
theorem updLast_snoc (f : EntD → EntD) : ∀ (es : List EntD) (e : EntD), updLast f (es ++ [e]) = es ++ [f e]
  | [], e => rfl
  | [x], e => rfl
  | x :: y :: t, e => by
    have := updLast_snoc f (y :: t) e
    simp only [List.cons_append] at this ⊢
    rw [updLast, this]
def updE (k : Nat) (ws : List Bs) (vs : List Int) (e : EntD) : EntD := match k with
  | 4 => ⟨e.name, e.tol, e.pts ++ [⟨(ws.getD 0 []).toArray⟩], e.cnt, e.mn, e.mx, e.gaps, e.edges, e.first, e.last⟩
  | 5 => ⟨e.name, e.tol, e.pts, vs.getD 0 0, vs.getD 1 0, vs.getD 2 0, e.gaps, e.edges, e.first, e.last⟩
  | 6 => ⟨e.name, e.tol, e.pts, e.cnt, e.mn, e.mx, e.gaps ++ [⟨vs.getD 0 0, vs.getD 1 0, vs.getD 2 0, vs.getD 3 0⟩], e.edges, e.first, e.last⟩
  | 7 => ⟨e.name, e.tol, e.pts, e.cnt, e.mn, e.mx, e.gaps, e.edges ++ [(vs.getD 0 0, vs.getD 1 0)], e.first, e.last⟩
  | 8 => ⟨e.name, e.tol, e.pts, e.cnt, e.mn, e.mx, e.gaps, e.edges, e.first ++ [vs.getD 0 0], e.last⟩
  | _ => ⟨e.name, e.tol, e.pts, e.cnt, e.mn, e.mx, e.gaps, e.edges, e.first, e.last ++ [vs.getD 0 0]⟩
def updC (c : CfgD) (k : Nat) (ws : List Bs) (vs : List Int) : CfgD := match k with
  | 0 => ⟨vs.getD 0 0, vs.getD 1 0, c.cycle, c.delay, c.ents⟩
  | 1 => ⟨c.closed, c.opn, vs.getD 0 0, c.delay, c.ents⟩
  | 2 => ⟨c.closed, c.opn, c.cycle, vs.getD 0 0, c.ents⟩
  | 3 => ⟨c.closed, c.opn, c.cycle, c.delay, c.ents ++ [newEnt (ws.getD 0 []) (vs.getD 1 0)]⟩
  | k => ⟨c.closed, c.opn, c.cycle, c.delay, updLast (updE k ws vs) c.ents⟩
def lastPts (l : List EntD) : List ByteArray := match l.getLast? with
  | some e => e.pts
  | none => []
structure RS where
  last : Int
  cfg : CfgD
abbrev Look := List ByteArray → Bs → Option Nat
def lineW (look : Look) (st : RS) (h : Bs) (ws : List Bs) : Nat × RS := match kindOf h with
  | none => (1, st)
  | some k => if may st.last k = false then (1, st) else if (fillV (look (lastPts st.cfg.ents)) false (form k) ws).1 = 0 then (0, ⟨k, updC st.cfg k ws (fillV (look (lastPts st.cfg.ents)) false (form k) ws).2⟩) else ((fillV (look (lastPts st.cfg.ents)) false (form k) ws).1, st)
def lineR (look : Look) (st : RS) (l : Bs) : Nat × RS := match cutBy 32 l with
  | [] => (1, st)
  | h :: ws => lineW look st h ws
def linesR (look : Look) : Nat → RS → List Bs → (Nat × Int) × RS
  | i, st, [] => if st.last < 2 then ((1, (i : Int)), st) else ((0, -1), st)
  | i, st, l :: ls => if (lineR look st l).1 = 0 then linesR look (i + 1) (lineR look st l).2 ls else (((lineR look st l).1, (i : Int)), st)
def trim (s : Bs) : Bs := if s.getLast? = some 10 then s.dropLast else s
def cfg0 : CfgD := ⟨0, 0, 0, 0, []⟩
def readR (look : Look) (s : Bs) : (Nat × Int) × CfgD :=
  if 8000 < s.length then ((2, -1), cfg0) else
  if (linesR look 0 ⟨-1, cfg0⟩ (cutBy 10 (trim s))).1.1 = 0 then
    (if (cfgErr (linesR look 0 ⟨-1, cfg0⟩ (cutBy 10 (trim s))).2.cfg).1 = 0 then ((0, -1), (linesR look 0 ⟨-1, cfg0⟩ (cutBy 10 (trim s))).2.cfg) else (cfgErr (linesR look 0 ⟨-1, cfg0⟩ (cutBy 10 (trim s))).2.cfg, cfg0))
  else ((linesR look 0 ⟨-1, cfg0⟩ (cutBy 10 (trim s))).1, cfg0)

/-- A look-up of points that is right. -/
structure GoodLook (look : Look) : Prop where
  hit : ∀ pts w i, look pts w = some i → ∃ p, pts[i]? = some p ∧ bl p = w
  miss : ∀ pts w, look pts w = none → ∀ p ∈ pts, bl p ≠ w

theorem kindOf_some {w : Bs} {k : Nat} (h : kindOf w = some k) : w = kw k ∧ k < 10 := by
  have h1 := List.find?_some h
  have h2 := List.mem_of_find?_eq_some h
  simp at h1 h2
  exact ⟨h1.symm, h2⟩
theorem kindOf_kw : ∀ k, k < 10 → kindOf (kw k) = some k := by decide
theorem kw_clean : ∀ k, k < 10 → (32 : UInt8) ∉ kw k ∧ (10 : UInt8) ∉ kw k := by decide
theorem fill_inv {look : Bs → Option Nat} {f : Nat} {fs : List Nat} {ws : List Bs} (h : (fillV look false (f :: fs) ws).1 = 0) :
    ∃ w ws', ws = w :: ws' ∧ (wordV look f w).1 = 0 ∧ (fillV look false fs ws').1 = 0 ∧ (fillV look false (f :: fs) ws).2 = (wordV look f w).2 :: (fillV look false fs ws').2 := by
  have nn5 : ∀ (fs : List Nat) (ws : List Bs), (fillV look true fs ws).1 ≠ 0 := by
    intro fs
    induction fs with
    | nil => intro ws; cases ws <;> simp [fillV]
    | cons f fs ih =>
      intro ws
      cases ws with
      | nil => simp [fillV]
      | cons w ws =>
        unfold fillV
        split
        · simp
        · simpa using ih ws
  cases ws with
  | nil => simp [fillV] at h
  | cons w ws =>
    refine ⟨w, ws, rfl, ?_⟩
    rw [show fillV look false (f :: fs) (w :: ws) = if (wordV look f w).1 = 1 then (1, []) else ((fillV look (false || decide ((wordV look f w).1 = 5)) fs ws).1, (wordV look f w).2 :: (fillV look (false || decide ((wordV look f w).1 = 5)) fs ws).2) by rw [fillV]] at h ⊢
    split at h
    · simp at h
    · rename_i h1
      rw [if_neg h1]
      by_cases h5 : (wordV look f w).1 = 5
      · simp only [h5, decide_true, Bool.or_true] at h
        exact absurd h (nn5 _ _)
      · simp only [h5, decide_false, Bool.or_false] at h ⊢
        refine ⟨?_, h, trivial⟩
        unfold wordV at h1 h5 ⊢
        by_cases hw : w = []
        · rw [if_pos hw] at h1; simp at h1
        · rw [if_neg hw] at h1 h5 ⊢
          split
          · rfl
          · split <;> simp_all
          · split <;> simp_all
theorem fill_end {look : Bs → Option Nat} {ws : List Bs} (h : (fillV look false [] ws).1 = 0) : ws = [] := by
  cases ws with
  | nil => rfl
  | cons => simp [fillV] at h
theorem word0 {look : Bs → Option Nat} {w : Bs} (h : (wordV look 0 w).1 = 0) : w ≠ [] := by
  intro e; subst e; simp [wordV] at h
theorem word1 {look : Bs → Option Nat} {w : Bs} (h : (wordV look 1 w).1 = 0) : ∃ n : Nat, numOf w = some n ∧ (wordV look 1 w).2 = n ∧ num (wordV look 1 w).2 = w := by
  unfold wordV at h ⊢
  split at h
  · simp at h
  · rename_i hw
    rw [if_neg hw]
    simp only at h ⊢
    cases hn : numOf w with
    | none => rw [hn] at h; simp at h
    | some n => exact ⟨n, rfl, rfl, by simpa [num] using dec_numOf hn⟩
theorem word2 {look : Look} (G : GoodLook look) {pts : List ByteArray} {w : Bs} (h : (wordV (look pts) 2 w).1 = 0) : ∃ n : Nat, look pts w = some n ∧ (wordV (look pts) 2 w).2 = n ∧ pt pts (wordV (look pts) 2 w).2 = w := by
  unfold wordV at h ⊢
  split at h
  · simp at h
  · rename_i hw
    rw [if_neg hw]
    simp only at h ⊢
    cases hn : look pts w with
    | none => rw [hn] at h; simp at h
    | some n =>
      obtain ⟨p, e, hp⟩ := G.hit _ _ _ hn
      exact ⟨n, rfl, rfl, by simp [pt, List.getD_eq_getElem?_getD, e, hp]⟩
theorem bl_mk (w : Bs) : bl ⟨w.toArray⟩ = w := by simp [bl]
theorem bl_inj {a b : ByteArray} (h : bl a = bl b) : a = b := by
  obtain ⟨⟨a⟩⟩ := a; obtain ⟨⟨b⟩⟩ := b
  simp [bl] at h
  subst h; rfl

/-! What is read is written as it was. -/
def linesOf (st : RS) : List Bs :=
  if st.last = -1 then [] else if st.last = 0 then [kwLine 0 [num st.cfg.closed, num st.cfg.opn]] else if st.last = 1 then [kwLine 0 [num st.cfg.closed, num st.cfg.opn], kwLine 1 [num st.cfg.cycle]] else confLines st.cfg
structure Inv2 (st : RS) (L : List Bs) : Prop where
  lo : -1 ≤ st.last
  hi : st.last ≤ 9
  eq : linesOf st = L
  e0 : st.last ≤ 2 → st.cfg.ents = []
  e3 : 3 ≤ st.last → ∃ es e, st.cfg.ents = es ++ [e] ∧ (st.last ≤ 3 → e.pts = []) ∧ (st.last ≤ 4 → e.cnt = -1) ∧ (st.last ≤ 5 → e.gaps = []) ∧ (st.last ≤ 6 → e.edges = []) ∧ (st.last ≤ 7 → e.first = []) ∧ (st.last ≤ 8 → e.last = [])
theorem kwLine_join (k : Nat) (ws : List Bs) : kwLine k ws = joinBy 32 (kw k) ws := rfl
theorem inv2_step {look : Look} (G : GoodLook look) {st st' : RS} {L : List Bs} {l : Bs} (I : Inv2 st L) (h : lineR look st l = (0, st')) : Inv2 st' (L ++ [l]) := by
  unfold lineR at h
  cases hc : cutBy 32 l with
  | nil => rw [hc] at h; simp at h
  | cons hd ws =>
    rw [hc] at h
    simp only [lineW] at h
    have hl := join_cut 32 l hd ws hc
    cases hk : kindOf hd with
    | none => rw [hk] at h; simp at h
    | some k =>
      rw [hk] at h
      simp only at h
      obtain ⟨rfl, k10⟩ := kindOf_some hk
      split at h
      · simp at h
      · rename_i hm
        simp only [Bool.not_eq_false] at hm
        split at h
        · rename_i hf
          simp only [Prod.mk.injEq, true_and] at h
          subst h
          have hl' : l = kwLine k ws := hl
          subst hl'
          clear hl hc hk
          obtain ⟨lo, hi, eq, e0, e3⟩ := I
          subst eq
          match k, k10 with
          | 0, _ =>
            obtain ⟨a, ws, rfl, ha, hf, q1⟩ := fill_inv hf
            obtain ⟨b, ws, rfl, hb, hf, q2⟩ := fill_inv hf
            have := fill_end hf; subst this
            obtain ⟨n, -, -, na⟩ := word1 ha
            obtain ⟨m, -, -, nb⟩ := word1 hb
            rw [q2] at q1
            have hl0 : st.last = -1 := by simpa [may] using hm
            refine ⟨by simp, by simp, ?_, fun _ => e0 (by omega), fun h => by simp at h⟩
            rw [show form 0 = [1, 1] from rfl, q1]
            simp [linesOf, hl0, updC, na, nb]
          | 1, _ =>
            obtain ⟨a, ws, rfl, ha, hf, q1⟩ := fill_inv hf
            have := fill_end hf; subst this
            obtain ⟨n, -, -, na⟩ := word1 ha
            have hl0 : st.last = 0 := by simpa [may] using hm
            refine ⟨by simp, by simp, ?_, fun _ => e0 (by omega), fun h => by simp at h⟩
            rw [show form 1 = [1] from rfl, q1]
            simp [linesOf, hl0, updC, na]
          | 2, _ =>
            obtain ⟨a, ws, rfl, ha, hf, q1⟩ := fill_inv hf
            have := fill_end hf; subst this
            obtain ⟨n, -, -, na⟩ := word1 ha
            have hl0 : st.last = 1 := by simpa [may] using hm
            have he := e0 (by omega)
            refine ⟨by simp, by simp, ?_, fun _ => by simpa [updC] using he, fun h => by simp at h⟩
            rw [show form 2 = [1] from rfl, q1]
            simp [linesOf, hl0, updC, confLines, he]
            rw [he] at na
            rw [na]
          | 3, _ =>
            obtain ⟨a, ws, rfl, ha, hf, q1⟩ := fill_inv hf
            obtain ⟨b, ws, rfl, hb, hf, q2⟩ := fill_inv hf
            have := fill_end hf; subst this
            obtain ⟨m, -, -, nb⟩ := word1 hb
            rw [q2] at q1
            have hl0 : 2 ≤ st.last := by simpa [may] using hm
            refine ⟨by simp, by simp, ?_, fun h => by simp at h, fun _ => ⟨st.cfg.ents, newEnt a (wordV (look (lastPts st.cfg.ents)) 1 b).2, by rw [show form 3 = [0, 1] from rfl, q1]; simp [updC], ?_⟩⟩
            · rw [show form 3 = [0, 1] from rfl, q1]
              have n1 : ¬ st.last = -1 := by omega
              have n2 : ¬ st.last = 0 := by omega
              have n3 : ¬ st.last = 1 := by omega
              simp [linesOf, n1, n2, n3, updC, confLines, entLines, newEnt, bl_mk, nb]
            · simp [newEnt]
          | k + 4, k10 =>
            have hl0 : 3 ≤ st.last ∧ st.last ≤ ((k + 4 : Nat) : Int) ∧ (k = 1 → st.last ≤ 4) := by
              unfold may at hm
              rw [if_neg (by omega), if_neg (by omega)] at hm
              split at hm
              · simp at hm; omega
              · simp at hm; omega
            obtain ⟨h3, hle, h5⟩ := hl0
            obtain ⟨es, e, he, ep, ec, eg, ee, ef, el⟩ := e3 h3
            have hlp : lastPts st.cfg.ents = e.pts := by rw [he]; simp [lastPts]
            rw [hlp] at hf ⊢
            have n1 : ¬ st.last = -1 := by omega
            have n2 : ¬ st.last = 0 := by omega
            have n3 : ¬ st.last = 1 := by omega
            have key : ∀ e', updE (k + 4) ws (fillV (look e.pts) false (form (k + 4)) ws).2 e = e' → entLines e' = entLines e ++ [kwLine (k + 4) ws] →
                (((k + 4 : Nat) : Int) ≤ 3 → e'.pts = []) ∧ (((k + 4 : Nat) : Int) ≤ 4 → e'.cnt = -1) ∧ (((k + 4 : Nat) : Int) ≤ 5 → e'.gaps = []) ∧ (((k + 4 : Nat) : Int) ≤ 6 → e'.edges = []) ∧ (((k + 4 : Nat) : Int) ≤ 7 → e'.first = []) ∧ (((k + 4 : Nat) : Int) ≤ 8 → e'.last = []) →
                Inv2 ⟨((k + 4 : Nat) : Int), updC st.cfg (k + 4) ws (fillV (look e.pts) false (form (k + 4)) ws).2⟩ (linesOf st ++ [kwLine (k + 4) ws]) := by
              intro e' hu hlines hparts
              have hents : (updC st.cfg (k + 4) ws (fillV (look e.pts) false (form (k + 4)) ws).2).ents = es ++ [e'] := by
                simp only [updC]; rw [he, updLast_snoc, hu]
              refine ⟨by simp; omega, by simp; omega, ?_, fun h => by simp at h; omega, fun _ => ⟨es, e', hents, hparts⟩⟩
              have m1 : ¬ (((k + 4 : Nat) : Int)) = -1 := by omega
              have m2 : ¬ (((k + 4 : Nat) : Int)) = 0 := by omega
              have m3 : ¬ (((k + 4 : Nat) : Int)) = 1 := by omega
              unfold linesOf
              rw [if_neg m1, if_neg m2, if_neg m3, if_neg n1, if_neg n2, if_neg n3]
              unfold confLines
              rw [hents, he]
              simp [updC, hlines]
            match k, k10 with
            | 0, _ =>
              obtain ⟨a, ws, rfl, ha, hf, q1⟩ := fill_inv hf
              have := fill_end hf; subst this
              have c1 := ec (by omega); have c2 := eg (by omega); have c3 := ee (by omega); have c4 := ef (by omega); have c5 := el (by omega)
              refine key _ rfl ?_ ⟨fun h => by simp at h, fun _ => by simpa [updE] using c1, fun _ => by simpa [updE] using c2, fun _ => by simpa [updE] using c3, fun _ => by simpa [updE] using c4, fun _ => by simpa [updE] using c5⟩
              simp [updE, entLines, c1, c2, c3, c4, c5, bl_mk]
            | 1, _ =>
              obtain ⟨a, ws, rfl, ha, hf, q1⟩ := fill_inv hf
              obtain ⟨b, ws, rfl, hb, hf, q2⟩ := fill_inv hf
              obtain ⟨c, ws, rfl, hc, hf, q3⟩ := fill_inv hf
              have := fill_end hf; subst this
              obtain ⟨n, -, v1, na⟩ := word2 G ha
              obtain ⟨m, -, -, nb⟩ := word1 hb
              obtain ⟨o, -, -, nc⟩ := word1 hc
              have h4 := h5 rfl
              have c1 := ec (by omega); have c2 := eg (by omega); have c3 := ee (by omega); have c4 := ef (by omega); have c5 := el (by omega)
              refine key _ rfl ?_ ⟨fun h => by simp at h, fun h => by simp at h, fun _ => by simpa [updE] using c2, fun _ => by simpa [updE] using c3, fun _ => by simpa [updE] using c4, fun _ => by simpa [updE] using c5⟩
              rw [show form (1 + 4) = [2, 1, 1] from rfl, q1, q2, q3]
              have hne : ¬ (wordV (look e.pts) 2 a).2 = -1 := by rw [v1]; omega
              simp [updE, entLines, c1, c2, c3, c4, c5, hne, na, nb, nc]
            | 2, _ =>
              obtain ⟨a, ws, rfl, ha, hf, q1⟩ := fill_inv hf
              obtain ⟨b, ws, rfl, hb, hf, q2⟩ := fill_inv hf
              obtain ⟨c, ws, rfl, hc, hf, q3⟩ := fill_inv hf
              obtain ⟨d, ws, rfl, hd, hf, q4⟩ := fill_inv hf
              have := fill_end hf; subst this
              obtain ⟨n, -, -, na⟩ := word2 G ha
              obtain ⟨m, -, -, nb⟩ := word2 G hb
              obtain ⟨o, -, -, nc⟩ := word1 hc
              obtain ⟨p, -, -, nd⟩ := word1 hd
              have c3 := ee (by omega); have c4 := ef (by omega); have c5 := el (by omega)
              refine key _ rfl ?_ ⟨fun h => by simp at h, fun h => by simp at h, fun h => by simp at h, fun _ => by simpa [updE] using c3, fun _ => by simpa [updE] using c4, fun _ => by simpa [updE] using c5⟩
              rw [show form (2 + 4) = [2, 2, 1, 1] from rfl, q1, q2, q3, q4]
              simp [updE, entLines, c3, c4, c5, na, nb, nc, nd]
            | 3, _ =>
              obtain ⟨a, ws, rfl, ha, hf, q1⟩ := fill_inv hf
              obtain ⟨b, ws, rfl, hb, hf, q2⟩ := fill_inv hf
              have := fill_end hf; subst this
              obtain ⟨n, -, -, na⟩ := word2 G ha
              obtain ⟨m, -, -, nb⟩ := word2 G hb
              have c4 := ef (by omega); have c5 := el (by omega)
              refine key _ rfl ?_ ⟨fun h => by simp at h, fun h => by simp at h, fun h => by simp at h, fun h => by simp at h, fun _ => by simpa [updE] using c4, fun _ => by simpa [updE] using c5⟩
              rw [show form (3 + 4) = [2, 2] from rfl, q1, q2]
              simp [updE, entLines, c4, c5, na, nb]
            | 4, _ =>
              obtain ⟨a, ws, rfl, ha, hf, q1⟩ := fill_inv hf
              have := fill_end hf; subst this
              obtain ⟨n, -, -, na⟩ := word2 G ha
              have c5 := el (by omega)
              refine key _ rfl ?_ ⟨fun h => by simp at h, fun h => by simp at h, fun h => by simp at h, fun h => by simp at h, fun h => by simp at h, fun _ => by simpa [updE] using c5⟩
              rw [show form (4 + 4) = [2] from rfl, q1]
              simp [updE, entLines, c5, na]
            | 5, _ =>
              obtain ⟨a, ws, rfl, ha, hf, q1⟩ := fill_inv hf
              have := fill_end hf; subst this
              obtain ⟨n, -, -, na⟩ := word2 G ha
              refine key _ rfl ?_ ⟨fun h => by simp at h, fun h => by simp at h, fun h => by simp at h, fun h => by simp at h, fun h => by simp at h, fun h => by simp at h⟩
              rw [show form (5 + 4) = [2] from rfl, q1]
              simp [updE, entLines, na]
        · rename_i hf
          simp only [Prod.mk.injEq] at h
          exact absurd h.1 hf
theorem inv2_lines {look : Look} (G : GoodLook look) : ∀ (ls : List Bs) (i : Nat) (st : RS) (L : List Bs), Inv2 st L → (linesR look i st ls).1.1 = 0 → Inv2 (linesR look i st ls).2 (L ++ ls) ∧ 2 ≤ (linesR look i st ls).2.last := by
  intro ls
  induction ls with
  | nil =>
    intro i st L I h
    unfold linesR at h ⊢
    split at h
    · simp at h
    · rename_i hl
      rw [if_neg hl]
      exact ⟨by simpa using I, by simp; omega⟩
  | cons l ls ih =>
    intro i st L I h
    unfold linesR at h ⊢
    split at h
    · rename_i h0
      rw [if_pos h0]
      have I2 := inv2_step (st' := (lineR look st l).2) (l := l) G I (by rw [← h0])
      have := ih (i + 1) _ _ I2 h
      simpa using this
    · rename_i h0
      simp at h
      exact absurd h h0
theorem inv2_start : Inv2 ⟨-1, cfg0⟩ [] := ⟨by simp, by simp, rfl, fun _ => rfl, fun h => by simp at h⟩
/-- What is read is written as it was, but for the last line break. -/
theorem read_text {look : Look} (G : GoodLook look) {s : Bs} (h : (readR look s).1.1 = 0) : confText (readR look s).2 = s ∨ confText (readR look s).2 = s ++ [10] := by
  unfold readR at h ⊢
  split at h
  · simp at h
  · rename_i h8
    rw [if_neg h8]
    split at h
    · rename_i h0
      rw [if_pos h0]
      split at h
      · rename_i h1
        rw [if_pos h1]
        obtain ⟨I, h2⟩ := inv2_lines G _ _ _ _ inv2_start h0
        have eq := I.eq
        unfold linesOf at eq
        rw [if_neg (by omega), if_neg (by omega), if_neg (by omega)] at eq
        cases hc : cutBy 10 (trim s) with
        | nil => exact absurd hc (cutBy_ne _ _)
        | cons x r =>
          have hj := join_cut 10 _ _ _ hc
          rw [hc] at eq
          simp only [List.nil_append] at eq
          have et : confText (linesR look 0 ⟨-1, cfg0⟩ (cutBy 10 (trim s))).2.cfg = trim s ++ [10] := by
            unfold confText
            rw [hc, eq, text_join, ← hj]
          rw [hc] at et
          rw [et]
          unfold trim
          split
          · rename_i hl
            left
            have hne : s ≠ [] := fun e => by subst e; simp at hl
            rw [List.getLast?_eq_some_getLast hne] at hl
            have e2 := List.dropLast_concat_getLast hne
            rw [Option.some.inj hl] at e2
            exact e2
          · right; rfl
      · rename_i h1; exact absurd h h1
    · rename_i h0; exact absurd h h0
end Go.Proofs.YtbholbenjalliaaGreatDoor

namespace Go.Proofs.YtbholbenjalliaaGreatDoor

theorem occ_one (s : List UInt8) (c : UInt8) (i : Nat) : Lib.occAt s [c] i = true ↔ s[i]? = some c := by
  unfold Lib.occAt
  constructor
  · intro h
    cases hd : s.drop i with
    | nil => rw [hd] at h; simp [List.isPrefixOf] at h
    | cons x t =>
      rw [hd] at h
      simp [List.isPrefixOf] at h
      have e : s[i]? = (s.drop i)[0]? := by simp
      rw [e, hd, ← h]
      rfl
  · intro h
    have e : s.drop i = c :: s.drop (i + 1) := by
      obtain ⟨hi, hc⟩ := List.getElem?_eq_some_iff.1 h
      rw [List.drop_eq_getElem_cons hi, hc]
    rw [e]
    simp [List.isPrefixOf]
theorem split_one (c : UInt8) : ∀ (n : Nat) (s : List UInt8), s.length ≤ n → Lib.split s [c] = cutBy c s := by
  intro n
  induction n with
  | zero =>
    intro s hs
    obtain rfl : s = [] := List.eq_nil_of_length_eq_zero (by omega)
    have : Lib.index [] [c] = -1 := by rcases Lib.index_spec [] [c] with ⟨h, -⟩ | ⟨i, -, -, h, -⟩; exact h; exact absurd ((occ_one _ _ _).1 h) (by simp)
    unfold Lib.split
    rw [Lib.count_miss this]
    rfl
  | succ n ih =>
    intro s hs
    rcases Lib.index_spec s [c] with ⟨h, hno⟩ | ⟨i, h, hi, ho, hno⟩
    · have hc : c ∉ s := fun hm => by
        obtain ⟨j, hj, e⟩ := List.getElem_of_mem hm
        have := hno j (by omega)
        have h2 := (occ_one s c j).2 (by rw [List.getElem?_eq_getElem hj, e])
        rw [this] at h2
        cases h2
      unfold Lib.split
      rw [Lib.count_miss h, cut_nil c s hc]
      rfl
    · have hic := (occ_one s c i).1 ho
      obtain ⟨hil, hcv⟩ := List.getElem?_eq_some_iff.1 hic
      have e1 : s = s.take i ++ c :: s.drop (i + 1) := by
        have : s.drop i = c :: s.drop (i + 1) := by rw [List.drop_eq_getElem_cons hil, hcv]
        rw [← this, List.take_append_drop]
      have hc : c ∉ s.take i := fun hm => by
        obtain ⟨j, hj, e⟩ := List.getElem_of_mem hm
        have hji : j < i := by rw [List.length_take] at hj; omega
        have h2 := (occ_one s c j).2 (by rw [List.getElem_take] at e; rw [List.getElem?_eq_getElem (by omega), e])
        have := hno j hji
        rw [this] at h2
        cases h2
      have e2 : Lib.split s [c] = s.take i :: Lib.split (s.drop (i + 1)) [c] := by
        unfold Lib.split
        rw [Lib.count_hit (by simp) h, Nat.add_comm 1, Lib.splitK]
        have hm : ¬ (Lib.index s [c] == -1) = true := fun e => by have := beq_iff_eq.1 e; omega
        have et : (Lib.index s [c]).toNat = i := by omega
        rw [if_neg hm, et]
        rfl
      rw [e2, ih (s.drop (i + 1)) (by rw [List.length_drop]; omega)]
      have e3 : cutBy c (c :: s.drop (i + 1)) = [] :: cutBy c (s.drop (i + 1)) := by rw [cutBy, if_pos rfl]
      have e4 := cut_pre c _ _ _ e3 (s.take i) hc
      rw [← e1] at e4
      rw [e4]
      simp
/-- What strings.Split lays, at one byte. -/
theorem splitB_one (c : UInt8) (s sep : ByteArray) (hs : sep.data.toList = [c]) : (Lib.splitB sep 0 (Lib.countB s sep) s).map (·.data.toList) = cutBy c s.data.toList := by
  rw [Lib.splitB_data, hs]
  have e : Lib.countB s sep = Lib.count s.data.toList [c] := by unfold Lib.countB; rw [hs]
  rw [e]
  exact split_one c _ _ (Nat.le_refl _)
end Go.Proofs.YtbholbenjalliaaGreatDoor

namespace Go.Proofs.YtbholbenjalliaaGreatDoor

theorem firstOf_cons {b : Bool} {c : Nat} {t : List (Bool × Nat)} (hc : c ≠ 0) (h : firstOf ((b, c) :: t) = 0) : b = false ∧ firstOf t = 0 := by
  unfold firstOf at h
  cases b with
  | false => exact ⟨rfl, by simpa using h⟩
  | true => simp at h; exact absurd h hc
structure OkE (e : EntD) : Prop where
  name : isName e.name = true
  tol : 0 ≤ e.tol ∧ e.tol ≤ 20
  pn : ∀ p ∈ e.pts, isName p = true
  nd : e.pts.Nodup
  cnt : (e.cnt = -1 ∧ e.mn = 0 ∧ e.mx = 0) ∨ (0 ≤ e.cnt ∧ e.cnt < (e.pts.length : Int))
  mm : 0 ≤ e.mn ∧ e.mn ≤ e.mx ∧ e.mx ≤ 999
  gaps : ∀ g ∈ e.gaps, (0 ≤ g.fr ∧ g.fr < (e.pts.length : Int)) ∧ (0 ≤ g.to ∧ g.to < (e.pts.length : Int)) ∧ 0 ≤ g.mn ∧ g.mn ≤ g.mx ∧ g.mx ≤ 1099511627776
  edges : ∀ d ∈ e.edges, (0 ≤ d.1 ∧ d.1 < (e.pts.length : Int)) ∧ (0 ≤ d.2 ∧ d.2 < (e.pts.length : Int))
  first : ∀ x ∈ e.first, 0 ≤ x ∧ x < (e.pts.length : Int)
  last : ∀ x ∈ e.last, 0 ≤ x ∧ x < (e.pts.length : Int)
theorem nameErr_zero {a : List ByteArray} {s : ByteArray} (h : nameErr a s = 0) : isName s = true ∧ s ∉ a := by
  unfold nameErr at h
  split at h
  · rename_i hn
    split at h
    · simp at h
    · rename_i ha
      refine ⟨hn, fun hm => ha ?_⟩
      exact List.any_eq_true.2 ⟨s, hm, by simp⟩
  · simp at h
theorem ptsErr_zero : ∀ (l a : List ByteArray), ptsErr a l = 0 → (∀ p ∈ l, isName p = true ∧ p ∉ a) ∧ l.Nodup
  | [], _, _ => ⟨fun p hp => (List.not_mem_nil hp).elim, List.Pairwise.nil⟩
  | p :: t, a, h => by
    unfold ptsErr at h
    split at h
    · rename_i h0
      obtain ⟨h1, h2⟩ := nameErr_zero h0
      obtain ⟨h3, h4⟩ := ptsErr_zero t (a ++ [p]) h
      refine ⟨fun q hq => ?_, List.nodup_cons.2 ⟨fun hm => (h3 p hm).2 (by simp), h4⟩⟩
      rcases List.mem_cons.1 hq with rfl | hq
      · exact ⟨h1, h2⟩
      · exact ⟨(h3 q hq).1, fun hm => (h3 q hq).2 (by simp [hm])⟩
    · rename_i h0; exact absurd h h0
theorem lacks_false {n : Nat} {x : Int} (h : lacks n x = false) : 0 ≤ x ∧ x < (n : Int) := by
  unfold lacks at h; simp at h; omega
theorem rise_true {a b c d : Int} (h : rise a b c d = true) : a ≤ b ∧ b ≤ c ∧ c ≤ d := by
  unfold rise at h; simp at h; omega
theorem entErr_zero {a : List ByteArray} {e : EntD} (h : entErr a e = 0) : nameErr a e.name = 0 ∧ sizeErr e = 0 ∧ ptsErr [] e.pts = 0 ∧ partErr e = 0 := by
  unfold entErr at h
  split at h
  · rename_i h0; exact absurd h h0
  · rename_i h0
    split at h
    · rename_i h1; exact absurd h h1
    · rename_i h1
      split at h
      · rename_i h2; exact absurd h h2
      · rename_i h2; exact ⟨by simpa using h0, by simpa using h1, by simpa using h2, h⟩
theorem okE_of {a : List ByteArray} {e : EntD} (h : entErr a e = 0) : OkE e := by
  obtain ⟨h1, h2, h3, h4⟩ := entErr_zero h
  obtain ⟨n1, -⟩ := nameErr_zero h1
  obtain ⟨p1, p2⟩ := ptsErr_zero _ _ h3
  unfold sizeErr at h2
  obtain ⟨s1, -⟩ := firstOf_cons (by simp) h2
  unfold partErr at h4
  obtain ⟨q1, h4⟩ := firstOf_cons (by simp) h4
  obtain ⟨q2, h4⟩ := firstOf_cons (by simp) h4
  obtain ⟨q3, h4⟩ := firstOf_cons (by simp) h4
  obtain ⟨q4, h4⟩ := firstOf_cons (by simp) h4
  obtain ⟨q5, h4⟩ := firstOf_cons (by simp) h4
  obtain ⟨q6, h4⟩ := firstOf_cons (by simp) h4
  obtain ⟨q7, h4⟩ := firstOf_cons (by simp) h4
  obtain ⟨q8, -⟩ := firstOf_cons (by simp) h4
  simp only [Bool.not_eq_false'] at q7
  have m7 := rise_true q7
  refine ⟨n1, ?_, fun p hp => (p1 p hp).1, p2, ?_, m7, fun g hg => ?_, fun d hd => ?_, fun x hx => ?_, fun x hx => ?_⟩
  · simp [within] at s1; omega
  · by_cases hc : e.cnt = -1
    · left
      simp [hc] at q6
      exact ⟨hc, q6⟩
    · right
      simp [hc] at q1
      exact lacks_false q1
  · have a1 := List.any_eq_false.1 q2 g hg
    have a2 := List.any_eq_false.1 q8 g hg
    simp only [Bool.or_eq_true, not_or, Bool.not_eq_true] at a1
    simp only [Bool.not_eq_true, Bool.not_eq_false'] at a2
    exact ⟨lacks_false a1.1, lacks_false a1.2, rise_true a2⟩
  · have a1 := List.any_eq_false.1 q3 d hd
    simp only [Bool.or_eq_true, not_or, Bool.not_eq_true] at a1
    exact ⟨lacks_false a1.1, lacks_false a1.2⟩
  · exact lacks_false (by simpa using List.any_eq_false.1 q4 x hx)
  · exact lacks_false (by simpa using List.any_eq_false.1 q5 x hx)
theorem entsErr_zero : ∀ (l : List EntD) (a : List ByteArray) (i : Nat), (entsErr a i l).1 = 0 → ∀ e ∈ l, OkE e
  | [], _, _, _, e, he => by cases he
  | x :: t, a, i, h, e, he => by
    unfold entsErr at h
    split at h
    · rename_i h0
      rcases List.mem_cons.1 he with rfl | he
      · exact okE_of h0
      · exact entsErr_zero t _ _ h e he
    · rename_i h0; exact absurd h h0
structure OkC (c : CfgD) : Prop where
  closed : 0 ≤ c.closed ∧ c.closed ≤ 1000
  opn : 1 ≤ c.opn ∧ c.opn ≤ 1000
  cycle : 1 ≤ c.cycle ∧ c.cycle ≤ 100
  delay : 0 ≤ c.delay ∧ c.delay ≤ 20
  many : c.ents.length ≤ 8
  ents : ∀ e ∈ c.ents, OkE e
theorem okC_of {c : CfgD} (h : (cfgErr c).1 = 0) : OkC c := by
  unfold cfgErr at h
  split at h
  · rename_i h0
    unfold wholeErr at h0
    obtain ⟨q1, h0⟩ := firstOf_cons (by simp) h0
    obtain ⟨q2, h0⟩ := firstOf_cons (by simp) h0
    obtain ⟨q3, h0⟩ := firstOf_cons (by simp) h0
    obtain ⟨q4, -⟩ := firstOf_cons (by simp) h0
    simp [within] at q1 q2 q3 q4
    exact ⟨q1.1, q1.2, q2, q3, q4, entsErr_zero _ _ _ h⟩
  · rename_i h0; exact absurd h h0

/-! Words of lines -/
theorem nameByte_clean {b : UInt8} (h : nameByte b = true) : b ≠ 32 ∧ b ≠ 10 := by
  constructor <;> (rintro rfl; revert h; decide)
theorem name_clean {s : ByteArray} (h : isName s = true) : bl s ≠ [] ∧ (32 : UInt8) ∉ bl s ∧ (10 : UInt8) ∉ bl s := by
  unfold isName at h
  simp only [Bool.and_eq_true, decide_eq_true_eq] at h
  obtain ⟨⟨⟨h1, -⟩, -⟩, h4⟩ := h
  refine ⟨fun e => ?_, fun hm => ?_, fun hm => ?_⟩
  · have : (bl s).length = s.size := by unfold bl ByteArray.size; rw [Array.length_toList]
    rw [e] at this
    have h0 : ([] : Bs).length = 0 := rfl
    omega
  · exact (nameByte_clean (List.all_eq_true.1 h4 _ hm)).1 rfl
  · exact (nameByte_clean (List.all_eq_true.1 h4 _ hm)).2 rfl
theorem num_clean (n : Int) : num n ≠ [] ∧ (32 : UInt8) ∉ num n ∧ (10 : UInt8) ∉ num n := by
  obtain ⟨-, b, c, -, -⟩ := decN_all n.toNat
  refine ⟨c, fun hm => ?_, fun hm => ?_⟩ <;> (have := List.all_eq_true.1 b _ hm; revert this; decide)
theorem word0_ok (look : Bs → Option Nat) {w : Bs} (h : w ≠ []) : wordV look 0 w = (0, 0) := by unfold wordV; rw [if_neg h]; rfl
theorem word1_ok (look : Bs → Option Nat) {n : Int} (h0 : 0 ≤ n) (h1 : n < 10000000000000) : wordV look 1 (num n) = (0, n) := by
  unfold wordV
  rw [if_neg (num_clean n).1]
  have : numOf (num n) = some n.toNat := numOf_dec _ (by omega)
  simp only [this]
  congr 1
  omega
theorem nodup_get {l : List ByteArray} (h : l.Nodup) {i j : Nat} {a b : ByteArray} (hi : l[i]? = some a) (hj : l[j]? = some b) (e : a = b) : i = j := by
  subst e
  obtain ⟨li, ei⟩ := List.getElem?_eq_some_iff.1 hi
  obtain ⟨lj, ej⟩ := List.getElem?_eq_some_iff.1 hj
  have hp := List.pairwise_iff_getElem.1 h
  rcases Nat.lt_trichotomy i j with hlt | rfl | hlt
  · exact absurd (ei.trans ej.symm) (hp i j li lj hlt)
  · rfl
  · exact absurd (ej.trans ei.symm) (hp j i lj li hlt)
theorem pt_at {pts : List ByteArray} {x : Int} (h0 : 0 ≤ x) (h1 : x < (pts.length : Int)) : ∃ p, pts[x.toNat]? = some p ∧ pt pts x = bl p ∧ p ∈ pts := by
  have hl : x.toNat < pts.length := by omega
  exact ⟨pts[x.toNat], List.getElem?_eq_getElem hl, by simp [pt, List.getD_eq_getElem?_getD, List.getElem?_eq_getElem hl], List.getElem_mem hl⟩
theorem word2_ok {look : Look} (G : GoodLook look) {pts : List ByteArray} (hn : pts.Nodup) (hp : ∀ p ∈ pts, isName p = true) {x : Int} (h0 : 0 ≤ x) (h1 : x < (pts.length : Int)) : wordV (look pts) 2 (pt pts x) = (0, x) := by
  obtain ⟨p, e, e2, hm⟩ := pt_at h0 h1
  rw [e2]
  unfold wordV
  rw [if_neg (name_clean (hp p hm)).1]
  simp only
  cases hl : look pts (bl p) with
  | none => exact absurd rfl (G.miss _ _ hl p hm)
  | some i =>
    obtain ⟨q, hq, hb⟩ := G.hit _ _ _ hl
    have := nodup_get hn hq e (bl_inj hb)
    simp only
    congr 1
    omega
theorem pt_clean {pts : List ByteArray} (hp : ∀ p ∈ pts, isName p = true) {x : Int} (h0 : 0 ≤ x) (h1 : x < (pts.length : Int)) : (32 : UInt8) ∉ pt pts x ∧ (10 : UInt8) ∉ pt pts x := by
  obtain ⟨p, -, e2, hm⟩ := pt_at h0 h1
  rw [e2]
  exact (name_clean (hp p hm)).2
theorem fill_cons {look : Bs → Option Nat} {f : Nat} {fs : List Nat} {w : Bs} {ws : List Bs} {v : Int} {vs : List Int} (h1 : wordV look f w = (0, v)) (h2 : fillV look false fs ws = (0, vs)) : fillV look false (f :: fs) (w :: ws) = (0, v :: vs) := by
  rw [fillV, h1]
  simp [h2]
theorem fill_nil (look : Bs → Option Nat) : fillV look false [] [] = (0, []) := by simp [fillV]
theorem line_ok {look : Look} {st : RS} {k : Nat} {ws : List Bs} {vs : List Int} (hk : k < 10) (hm : may st.last k = true) (hw : ∀ w ∈ ws, (32 : UInt8) ∉ w) (hf : fillV (look (lastPts st.cfg.ents)) false (form k) ws = (0, vs)) :
    lineR look st (kwLine k ws) = (0, ⟨k, updC st.cfg k ws vs⟩) := by
  unfold lineR
  rw [kwLine_join, cut_join 32 ws (kw k) (kw_clean k hk).1 hw]
  simp only [lineW]
  rw [kindOf_kw k hk]
  simp [hm, hf]
theorem lines_ok {look : Look} {st : RS} {k i : Nat} {ws : List Bs} {vs : List Int} (ls : List Bs) (hk : k < 10) (hm : may st.last k = true) (hw : ∀ w ∈ ws, (32 : UInt8) ∉ w) (hf : fillV (look (lastPts st.cfg.ents)) false (form k) ws = (0, vs)) :
    linesR look i st (kwLine k ws :: ls) = linesR look (i + 1) ⟨k, updC st.cfg k ws vs⟩ ls := by
  rw [linesR, line_ok hk hm hw hf]
  simp
theorem lastPts_snoc (es : List EntD) (e : EntD) : lastPts (es ++ [e]) = e.pts := by simp [lastPts]
theorem run_part {look : Look} {α : Type} (k : Nat) (h4 : 4 ≤ k) (h10 : k < 10) (h5 : k ≠ 5) (f : α → List Bs) (g : EntD → α → EntD) (Gs : EntD → List α → EntD) (P : EntD → Prop) (g0 : ∀ e, Gs e [] = e) (g1 : ∀ e x xs, Gs e (x :: xs) = Gs (g e x) xs) (a b c d : Int) (es : List EntD) (rest : List Bs) :
    ∀ (xs : List α) (i : Nat) (last : Int) (e : EntD), 3 ≤ last → last ≤ (k : Int) → P e →
      (∀ x ∈ xs, (∀ w ∈ f x, (32 : UInt8) ∉ w) ∧ ∀ e, P e → ∃ vs, fillV (look e.pts) false (form k) (f x) = (0, vs) ∧ updE k (f x) vs e = g e x ∧ P (g e x)) →
      ∃ j last', linesR look i ⟨last, ⟨a, b, c, d, es ++ [e]⟩⟩ (xs.map (fun x => kwLine k (f x)) ++ rest) = linesR look j ⟨last', ⟨a, b, c, d, es ++ [Gs e xs]⟩⟩ rest ∧ 3 ≤ last' ∧ last' ≤ (k : Int) := by
  intro xs
  induction xs with
  | nil => intro i last e h3 hl _ _; exact ⟨i, last, by rw [g0]; rfl, h3, hl⟩
  | cons x xs ih =>
    intro i last e h3 hl hP hx
    obtain ⟨hw, hx0⟩ := hx x (by simp)
    obtain ⟨vs, hf, hu, hP'⟩ := hx0 e hP
    have hm : may last k = true := by
      unfold may
      rw [if_neg (by omega), if_neg (by omega), if_neg h5]
      simp; omega
    rw [List.map_cons, List.cons_append, lines_ok _ h10 hm hw (by rw [lastPts_snoc]; exact hf)]
    have hup : updC ⟨a, b, c, d, es ++ [e]⟩ k (f x) vs = ⟨a, b, c, d, es ++ [g e x]⟩ := by
      match k, h4 with
      | k + 4, _ => simp only [updC]; rw [updLast_snoc, hu]
    rw [hup, g1]
    exact ih (i + 1) k (g e x) (by omega) (Int.le_refl _) hP' (fun y hy => hx y (by simp [hy]))
theorem run_ent {look : Look} (G : GoodLook look) (a b c d : Int) (es : List EntD) (e : EntD) (hE : OkE e) (rest : List Bs) (i : Nat) (last : Int) (hl : 2 ≤ last) :
    ∃ j last', linesR look i ⟨last, ⟨a, b, c, d, es⟩⟩ (entLines e ++ rest) = linesR look j ⟨last', ⟨a, b, c, d, es ++ [e]⟩⟩ rest ∧ 2 ≤ last' := by
  obtain ⟨name, tol, pts, cnt, mn, mx, gaps, edges, first, lst⟩ := e
  obtain ⟨hn, ht, hpn, hnd, hcnt, hmm, hg, hed, hfi, hla⟩ := hE
  simp only at hn ht hpn hnd hcnt hmm hg hed hfi hla
  obtain ⟨n1, n2, -⟩ := name_clean hn
  have W2 : ∀ {x : Int}, 0 ≤ x → x < (pts.length : Int) → wordV (look pts) 2 (pt pts x) = (0, x) := fun h0 h1 => word2_ok G hnd hpn h0 h1
  unfold entLines
  simp only [List.cons_append, List.append_assoc]
  rw [lines_ok (vs := [0, tol]) _ (by decide) (by simp [may]; exact hl) (by intro w hw; simp at hw; rcases hw with rfl | rfl; exact n2; exact (num_clean tol).2.1) (fill_cons (word0_ok _ n1) (fill_cons (word1_ok _ (by omega) (by omega)) (fill_nil _)))]
  have hup : updC ⟨a, b, c, d, es⟩ 3 [bl name, num tol] [0, tol] = ⟨a, b, c, d, es ++ [⟨name, tol, [], -1, 0, 0, [], [], [], []⟩]⟩ := by
    have : (⟨(bl name).toArray⟩ : ByteArray) = name := bl_inj (bl_mk _)
    simp [updC, newEnt, this]
  rw [hup]
  obtain ⟨j, l1, e1, h3, h4⟩ := run_part (look := look) 4 (by decide) (by decide) (by decide) (fun p : ByteArray => [bl p]) (fun e p => ⟨e.name, e.tol, e.pts ++ [p], e.cnt, e.mn, e.mx, e.gaps, e.edges, e.first, e.last⟩) (fun e ps => ⟨e.name, e.tol, e.pts ++ ps, e.cnt, e.mn, e.mx, e.gaps, e.edges, e.first, e.last⟩) (fun _ => True) (fun e => by simp) (fun e x xs => by simp) a b c d es
    ((if cnt = -1 then [] else [kwLine 5 [pt pts cnt, num mn, num mx]]) ++ (gaps.map (fun g => kwLine 6 [pt pts g.fr, pt pts g.to, num g.mn, num g.mx]) ++ (edges.map (fun d => kwLine 7 [pt pts d.1, pt pts d.2]) ++ (first.map (fun x => kwLine 8 [pt pts x]) ++ (lst.map (fun x => kwLine 9 [pt pts x]) ++ rest)))))
    pts (i + 1) 3 ⟨name, tol, [], -1, 0, 0, [], [], [], []⟩ (by omega) (by omega) trivial
    (fun p hp => ⟨by intro w hw; simp at hw; subst hw; exact (name_clean (hpn p hp)).2.1, fun e _ => ⟨[0], fill_cons (word0_ok _ (name_clean (hpn p hp)).1) (fill_nil _), by
      have : (⟨(bl p).toArray⟩ : ByteArray) = p := bl_inj (bl_mk _)
      simp [updE, this], trivial⟩⟩)
  have e1' := e1
  simp only [List.nil_append] at e1'
  have c5 : ∃ j5 l5, linesR look j ⟨l1, ⟨a, b, c, d, es ++ [⟨name, tol, pts, -1, 0, 0, [], [], [], []⟩]⟩⟩ ((if cnt = -1 then [] else [kwLine 5 [pt pts cnt, num mn, num mx]]) ++ (gaps.map (fun g => kwLine 6 [pt pts g.fr, pt pts g.to, num g.mn, num g.mx]) ++ (edges.map (fun d => kwLine 7 [pt pts d.1, pt pts d.2]) ++ (first.map (fun x => kwLine 8 [pt pts x]) ++ (lst.map (fun x => kwLine 9 [pt pts x]) ++ rest))))) =
      linesR look j5 ⟨l5, ⟨a, b, c, d, es ++ [⟨name, tol, pts, cnt, mn, mx, [], [], [], []⟩]⟩⟩ (gaps.map (fun g => kwLine 6 [pt pts g.fr, pt pts g.to, num g.mn, num g.mx]) ++ (edges.map (fun d => kwLine 7 [pt pts d.1, pt pts d.2]) ++ (first.map (fun x => kwLine 8 [pt pts x]) ++ (lst.map (fun x => kwLine 9 [pt pts x]) ++ rest)))) ∧ 3 ≤ l5 ∧ l5 ≤ 6 := by
    rcases hcnt with ⟨rfl, rfl, rfl⟩ | ⟨k0, k1⟩
    · exact ⟨j, l1, by simp, h3, by omega⟩
    · refine ⟨j + 1, 5, ?_, by omega, by omega⟩
      rw [if_neg (by omega), List.singleton_append, lines_ok (vs := [cnt, mn, mx]) _ (by decide) (by simp [may]; omega) (by intro w hw; simp at hw; rcases hw with rfl | rfl | rfl; exact (pt_clean hpn k0 k1).1; exact (num_clean mn).2.1; exact (num_clean mx).2.1)
        (by rw [lastPts_snoc]; exact fill_cons (W2 k0 k1) (fill_cons (word1_ok _ (by omega) (by omega)) (fill_cons (word1_ok _ (by omega) (by omega)) (fill_nil _))))]
      simp only [updC]
      rw [updLast_snoc]
      simp [updE]
  obtain ⟨j5, l5, e5, h35, h56⟩ := c5
  obtain ⟨j6, l6, e6, h36, h66⟩ := run_part (look := look) 6 (by decide) (by decide) (by decide) (fun g : GapD => [pt pts g.fr, pt pts g.to, num g.mn, num g.mx]) (fun e g => ⟨e.name, e.tol, e.pts, e.cnt, e.mn, e.mx, e.gaps ++ [g], e.edges, e.first, e.last⟩) (fun e gs => ⟨e.name, e.tol, e.pts, e.cnt, e.mn, e.mx, e.gaps ++ gs, e.edges, e.first, e.last⟩) (fun e => e.pts = pts) (fun e => by simp) (fun e x xs => by simp) a b c d es
    (edges.map (fun d => kwLine 7 [pt pts d.1, pt pts d.2]) ++ (first.map (fun x => kwLine 8 [pt pts x]) ++ (lst.map (fun x => kwLine 9 [pt pts x]) ++ rest)))
    gaps j5 l5 ⟨name, tol, pts, cnt, mn, mx, [], [], [], []⟩ h35 h56 rfl
    (fun g hgm => by
      obtain ⟨⟨f0, f1⟩, ⟨t0, t1⟩, m0, m1, m2⟩ := hg g hgm
      refine ⟨by intro w hw; simp at hw; rcases hw with rfl | rfl | rfl | rfl; exact (pt_clean hpn f0 f1).1; exact (pt_clean hpn t0 t1).1; exact (num_clean g.mn).2.1; exact (num_clean g.mx).2.1, fun e he => ⟨[g.fr, g.to, g.mn, g.mx], ?_, by simp [updE], he⟩⟩
      rw [he]
      exact fill_cons (W2 f0 f1) (fill_cons (W2 t0 t1) (fill_cons (word1_ok _ (by omega) (by omega)) (fill_cons (word1_ok _ (by omega) (by omega)) (fill_nil _)))))
  obtain ⟨j7, l7, e7, h37, h67⟩ := run_part (look := look) 7 (by decide) (by decide) (by decide) (fun g : Int × Int => [pt pts g.1, pt pts g.2]) (fun e g => ⟨e.name, e.tol, e.pts, e.cnt, e.mn, e.mx, e.gaps, e.edges ++ [g], e.first, e.last⟩) (fun e gs => ⟨e.name, e.tol, e.pts, e.cnt, e.mn, e.mx, e.gaps, e.edges ++ gs, e.first, e.last⟩) (fun e => e.pts = pts) (fun e => by simp) (fun e x xs => by simp) a b c d es
    (first.map (fun x => kwLine 8 [pt pts x]) ++ (lst.map (fun x => kwLine 9 [pt pts x]) ++ rest))
    edges j6 l6 ⟨name, tol, pts, cnt, mn, mx, [] ++ gaps, [], [], []⟩ h36 (by omega) rfl
    (fun g hgm => by
      obtain ⟨⟨f0, f1⟩, t0, t1⟩ := hed g hgm
      refine ⟨by intro w hw; simp at hw; rcases hw with rfl | rfl; exact (pt_clean hpn f0 f1).1; exact (pt_clean hpn t0 t1).1, fun e he => ⟨[g.1, g.2], ?_, by simp [updE], he⟩⟩
      rw [he]
      exact fill_cons (W2 f0 f1) (fill_cons (W2 t0 t1) (fill_nil _)))
  obtain ⟨j8, l8, e8, h38, h68⟩ := run_part (look := look) 8 (by decide) (by decide) (by decide) (fun g : Int => [pt pts g]) (fun e g => ⟨e.name, e.tol, e.pts, e.cnt, e.mn, e.mx, e.gaps, e.edges, e.first ++ [g], e.last⟩) (fun e gs => ⟨e.name, e.tol, e.pts, e.cnt, e.mn, e.mx, e.gaps, e.edges, e.first ++ gs, e.last⟩) (fun e => e.pts = pts) (fun e => by simp) (fun e x xs => by simp) a b c d es
    (lst.map (fun x => kwLine 9 [pt pts x]) ++ rest)
    first j7 l7 ⟨name, tol, pts, cnt, mn, mx, [] ++ gaps, [] ++ edges, [], []⟩ h37 (by omega) rfl
    (fun g hgm => by
      obtain ⟨f0, f1⟩ := hfi g hgm
      refine ⟨by intro w hw; simp at hw; subst hw; exact (pt_clean hpn f0 f1).1, fun e he => ⟨[g], ?_, by simp [updE], he⟩⟩
      rw [he]
      exact fill_cons (W2 f0 f1) (fill_nil _))
  obtain ⟨j9, l9, e9, h39, h69⟩ := run_part (look := look) 9 (by decide) (by decide) (by decide) (fun g : Int => [pt pts g]) (fun e g => ⟨e.name, e.tol, e.pts, e.cnt, e.mn, e.mx, e.gaps, e.edges, e.first, e.last ++ [g]⟩) (fun e gs => ⟨e.name, e.tol, e.pts, e.cnt, e.mn, e.mx, e.gaps, e.edges, e.first, e.last ++ gs⟩) (fun e => e.pts = pts) (fun e => by simp) (fun e x xs => by simp) a b c d es
    rest
    lst j8 l8 ⟨name, tol, pts, cnt, mn, mx, [] ++ gaps, [] ++ edges, [] ++ first, []⟩ h38 (by omega) rfl
    (fun g hgm => by
      obtain ⟨f0, f1⟩ := hla g hgm
      refine ⟨by intro w hw; simp at hw; subst hw; exact (pt_clean hpn f0 f1).1, fun e he => ⟨[g], ?_, by simp [updE], he⟩⟩
      rw [he]
      exact fill_cons (W2 f0 f1) (fill_nil _))
  exact ⟨j9, l9, (((((e1'.trans e5).trans e6).trans e7).trans e8).trans e9), by omega⟩
theorem run_ents {look : Look} (G : GoodLook look) (a b c d : Int) : ∀ (l : List EntD) (es : List EntD) (i : Nat) (last : Int), (∀ e ∈ l, OkE e) → 2 ≤ last → ∃ st, linesR look i ⟨last, ⟨a, b, c, d, es⟩⟩ (l.flatMap entLines) = ((0, -1), ⟨st, ⟨a, b, c, d, es ++ l⟩⟩)
  | [], es, i, last, _, hl => ⟨last, by simp [linesR]; omega⟩
  | e :: l, es, i, last, hE, hl => by
    rw [List.flatMap_cons]
    obtain ⟨j, l', h1, h2⟩ := run_ent G a b c d es e (hE e (by simp)) (l.flatMap entLines) i last hl
    obtain ⟨st, h3⟩ := run_ents G a b c d l (es ++ [e]) j l' (fun x hx => hE x (by simp [hx])) h2
    exact ⟨st, by rw [h1, h3]; simp⟩
theorem run_conf {look : Look} (G : GoodLook look) {c : CfgD} (hc : OkC c) : ∃ st, linesR look 0 ⟨-1, cfg0⟩ (confLines c) = ((0, -1), ⟨st, c⟩) := by
  obtain ⟨a, b, cy, d, ents⟩ := c
  obtain ⟨h1, h2, h3, h4, -, h5⟩ := hc
  simp only at h1 h2 h3 h4 h5
  obtain ⟨st, h⟩ := run_ents G a b cy d ents [] 3 2 h5 (by omega)
  refine ⟨st, ?_⟩
  unfold confLines
  simp only []
  rw [lines_ok (vs := [a, b]) _ (by decide) (by simp [may]) (by intro w hw; simp at hw; rcases hw with rfl | rfl <;> exact (num_clean _).2.1) (fill_cons (word1_ok _ (by omega) (by omega)) (fill_cons (word1_ok _ (by omega) (by omega)) (fill_nil _)))]
  rw [lines_ok (vs := [cy]) _ (by decide) (by simp [may]) (by intro w hw; simp at hw; subst hw; exact (num_clean _).2.1) (fill_cons (word1_ok _ (by omega) (by omega)) (fill_nil _))]
  rw [lines_ok (vs := [d]) _ (by decide) (by simp [may]) (by intro w hw; simp at hw; subst hw; exact (num_clean _).2.1) (fill_cons (word1_ok _ (by omega) (by omega)) (fill_nil _))]
  simpa [updC, cfg0] using h
theorem kwLine_clean {k : Nat} (hk : k < 10) {ws : List Bs} (h : ∀ w ∈ ws, (10 : UInt8) ∉ w) : (10 : UInt8) ∉ kwLine k ws := by
  unfold kwLine
  simp only [List.mem_append, List.mem_flatMap, List.mem_cons, not_or, not_exists, not_and]
  exact ⟨(kw_clean k hk).2, fun w hw => ⟨by decide, h w hw⟩⟩
theorem lines_clean {c : CfgD} (hc : OkC c) : ∀ l ∈ confLines c, (10 : UInt8) ∉ l := by
  intro l hl
  unfold confLines at hl
  simp only [List.mem_cons, List.mem_flatMap] at hl
  have N : ∀ n, (10 : UInt8) ∉ num n := fun n => (num_clean n).2.2
  rcases hl with rfl | rfl | rfl | ⟨e, he, hl⟩
  · exact kwLine_clean (by decide) (by intro w hw; simp at hw; rcases hw with rfl | rfl <;> exact N _)
  · exact kwLine_clean (by decide) (by intro w hw; simp at hw; subst hw; exact N _)
  · exact kwLine_clean (by decide) (by intro w hw; simp at hw; subst hw; exact N _)
  · have E := hc.ents e he
    unfold entLines at hl
    simp only [List.mem_cons, List.mem_append, List.mem_map] at hl
    rcases hl with rfl | ⟨p, hp, rfl⟩ | hl | ⟨g, hg, rfl⟩ | ⟨g, hg, rfl⟩ | ⟨g, hg, rfl⟩ | ⟨g, hg, rfl⟩
    · exact kwLine_clean (by decide) (by intro w hw; simp at hw; rcases hw with rfl | rfl; exact (name_clean E.name).2.2; exact N _)
    · exact kwLine_clean (by decide) (by intro w hw; simp at hw; subst hw; exact (name_clean (E.pn p hp)).2.2)
    · split at hl
      · simp at hl
      · rename_i hn
        simp at hl
        subst hl
        rcases E.cnt with h | ⟨k0, k1⟩
        · exact absurd h.1 hn
        · exact kwLine_clean (by decide) (by intro w hw; simp at hw; rcases hw with rfl | rfl | rfl; exact (pt_clean E.pn k0 k1).2; exact N _; exact N _)
    · obtain ⟨⟨f0, f1⟩, ⟨t0, t1⟩, -⟩ := E.gaps g hg
      exact kwLine_clean (by decide) (by intro w hw; simp at hw; rcases hw with rfl | rfl | rfl | rfl; exact (pt_clean E.pn f0 f1).2; exact (pt_clean E.pn t0 t1).2; exact N _; exact N _)
    · obtain ⟨⟨f0, f1⟩, t0, t1⟩ := E.edges g hg
      exact kwLine_clean (by decide) (by intro w hw; simp at hw; rcases hw with rfl | rfl; exact (pt_clean E.pn f0 f1).2; exact (pt_clean E.pn t0 t1).2)
    · obtain ⟨f0, f1⟩ := E.first g hg
      exact kwLine_clean (by decide) (by intro w hw; simp at hw; subst hw; exact (pt_clean E.pn f0 f1).2)
    · obtain ⟨f0, f1⟩ := E.last g hg
      exact kwLine_clean (by decide) (by intro w hw; simp at hw; subst hw; exact (pt_clean E.pn f0 f1).2)
/-- What is written is read. -/
theorem text_read {look : Look} (G : GoodLook look) {c : CfgD} (h : (cfgErr c).1 = 0) (hl : (confText c).length ≤ 8000) : readR look (confText c) = ((0, -1), c) := by
  have hc := okC_of h
  obtain ⟨st, hr⟩ := run_conf G hc
  have hcl := lines_clean hc
  have hcut : cutBy 10 (trim (confText c)) = confLines c := by
    cases hL : confLines c with
    | nil => simp [confLines] at hL
    | cons x r =>
      have : confText c = joinBy 10 x r ++ [10] := by unfold confText; rw [hL, text_join]
      rw [this]
      have ht : trim (joinBy 10 x r ++ [10]) = joinBy 10 x r := by simp [trim]
      rw [ht]
      rw [hL] at hcl
      exact cut_join 10 r x (hcl x (by simp)) (fun w hw => hcl w (by simp [hw]))
  unfold readR
  rw [if_neg (by omega), hcut, hr]
  simp [h]
end Go.Proofs.YtbholbenjalliaaGreatDoor

namespace Go.Proofs.YtbholbenjalliaaGreatDoor

theorem len_flat {α β : Type} (f : α → List β) (K : Nat) : ∀ l : List α, (∀ x ∈ l, (f x).length ≤ K) → (l.flatMap f).length ≤ l.length * K
  | [], _ => by simp
  | x :: l, h => by
    have h1 := len_flat f K l (fun y hy => h y (List.mem_cons_of_mem _ hy))
    have h2 := h x (List.mem_cons_self ..)
    rw [List.flatMap_cons, List.length_append, List.length_cons, Nat.succ_mul]
    omega
theorem decN_len : ∀ (k u : Nat), u < 10 ^ (k + 1) → (decN u).length ≤ k + 1
  | 0, u, h => by
    unfold decN
    rw [dif_pos (by omega)]
    simp
  | k + 1, u, h => by
    unfold decN
    split
    · simp
    · have := decN_len k (u / 10) (by rw [Nat.pow_succ] at h; omega)
      rw [List.length_append, List.length_singleton]
      omega
theorem num_len {n : Int} (h : n ≤ 1099511627776) : (num n).length ≤ 13 := decN_len 12 n.toNat (by
  have e : (10 : Nat) ^ (12 + 1) = 10000000000000 := by decide
  rw [e]
  omega)
theorem kw_len (k : Nat) : (kw k).length ≤ 6 := by
  unfold kw
  split <;> decide
theorem name_len {s : ByteArray} (h : isName s = true) : (bl s).length ≤ 13 := by
  unfold isName at h
  simp only [Bool.and_eq_true, decide_eq_true_eq] at h
  have h2 := h.1.1.2
  have e : (bl s).length = s.size := by unfold bl; rw [Array.length_toList]; rfl
  omega
theorem pt_len {pts : List ByteArray} (h : ∀ p ∈ pts, isName p = true) (x : Int) : (pt pts x).length ≤ 13 := by
  unfold pt
  rw [List.getD_eq_getElem?_getD]
  cases hq : pts[x.toNat]? with
  | none => decide
  | some p => exact name_len (h p (List.mem_of_getElem? hq))
theorem kwLine_len (k : Nat) (ws : List Bs) (h : ∀ w ∈ ws, w.length ≤ 13) (hn : ws.length ≤ 4) : (kwLine k ws).length ≤ 62 := by
  have h1 := kw_len k
  have h2 : (ws.flatMap (fun w => (32 : UInt8) :: w)).length ≤ ws.length * 14 := len_flat (fun w : Bs => (32 : UInt8) :: w) 14 ws (fun w hw => by have := h w hw; simp; omega)
  have e : (kwLine k ws).length = (kw k).length + (ws.flatMap (fun w => (32 : UInt8) :: w)).length := by unfold kwLine; exact List.length_append
  have h3 : ws.length * 14 ≤ 4 * 14 := Nat.mul_le_mul_right _ hn
  rw [e]
  exact Nat.le_trans (Nat.add_le_add h1 (Nat.le_trans h2 h3)) (by decide)
structure SizeE (e : EntD) : Prop where
  pts : e.pts.length ≤ 16
  gaps : e.gaps.length ≤ 8
  edges : e.edges.length ≤ 64
  first : e.first.length ≤ 16
  last : e.last.length ≤ 16
theorem sizeE_of {e : EntD} (h : sizeErr e = 0) : SizeE e := by
  unfold sizeErr at h
  obtain ⟨-, h⟩ := firstOf_cons (by simp) h
  obtain ⟨q1, h⟩ := firstOf_cons (by simp) h
  obtain ⟨q2, h⟩ := firstOf_cons (by simp) h
  obtain ⟨q3, h⟩ := firstOf_cons (by simp) h
  obtain ⟨q4, h⟩ := firstOf_cons (by simp) h
  obtain ⟨q5, -⟩ := firstOf_cons (by simp) h
  simp at q1 q2 q3 q4 q5
  exact ⟨q1, q2, q3, q4, q5⟩
theorem entsErr_size : ∀ (l : List EntD) (a : List ByteArray) (i : Nat), (entsErr a i l).1 = 0 → ∀ e ∈ l, SizeE e
  | [], _, _, _, e, he => by cases he
  | x :: t, a, i, h, e, he => by
    unfold entsErr at h
    split at h
    · rename_i h0
      rcases List.mem_cons.1 he with rfl | he
      · exact sizeE_of (entErr_zero h0).2.1
      · exact entsErr_size t _ _ h e he
    · rename_i h0; exact absurd h h0
theorem cfg_size {c : CfgD} (h : (cfgErr c).1 = 0) : ∀ e ∈ c.ents, SizeE e := by
  unfold cfgErr at h
  split at h
  · exact entsErr_size _ _ _ h
  · rename_i h0; exact absurd h h0
theorem entLines_len {e : EntD} (h : OkE e) (hs : SizeE e) : (entLines e).length ≤ 122 ∧ ∀ l ∈ entLines e, l.length ≤ 62 := by
  have h1 := hs.pts
  have h2 := hs.gaps
  have h3 := hs.edges
  have h4 := hs.first
  have h5 := hs.last
  have hp := fun x => pt_len h.pn x
  have hm := h.mm
  constructor
  · unfold entLines
    have : (if e.cnt = -1 then ([] : List Bs) else [kwLine 5 [pt e.pts e.cnt, num e.mn, num e.mx]]).length ≤ 1 := by split <;> simp
    simp only [List.length_cons, List.length_append, List.length_map]
    omega
  · intro l hl
    unfold entLines at hl
    simp only [List.mem_cons, List.mem_append, List.mem_map] at hl
    rcases hl with rfl | ⟨p, hq, rfl⟩ | hl | ⟨g, hq, rfl⟩ | ⟨d, hq, rfl⟩ | ⟨x, hq, rfl⟩ | ⟨x, hq, rfl⟩
    · refine kwLine_len _ _ (fun w hw => ?_) (by simp)
      simp at hw
      rcases hw with rfl | rfl
      · exact name_len h.name
      · exact num_len (by have := h.tol; omega)
    · refine kwLine_len _ _ (fun w hw => ?_) (by simp)
      simp at hw
      subst hw
      exact name_len (h.pn p hq)
    · split at hl
      · cases hl
      · simp at hl
        subst hl
        refine kwLine_len _ _ (fun w hw => ?_) (by simp)
        simp at hw
        rcases hw with rfl | rfl | rfl
        · exact hp _
        · exact num_len (by omega)
        · exact num_len (by omega)
    · refine kwLine_len _ _ (fun w hw => ?_) (by simp)
      have hg := h.gaps g hq
      simp at hw
      rcases hw with rfl | rfl | rfl | rfl
      · exact hp _
      · exact hp _
      · exact num_len (by omega)
      · exact num_len (by omega)
    · refine kwLine_len _ _ (fun w hw => ?_) (by simp)
      simp at hw
      rcases hw with rfl | rfl
      · exact hp _
      · exact hp _
    · refine kwLine_len _ _ (fun w hw => ?_) (by simp)
      simp at hw
      subst hw
      exact hp _
    · refine kwLine_len _ _ (fun w hw => ?_) (by simp)
      simp at hw
      subst hw
      exact hp _
theorem ents_len {c : CfgD} (h : (cfgErr c).1 = 0) : ((c.ents.flatMap entLines).flatMap (fun x => x ++ [10])).length ≤ 400000000 := by
  have hc := okC_of h
  have hs := cfg_size h
  have h1 := len_flat entLines 122 c.ents (fun e he => (entLines_len (hc.ents e he) (hs e he)).1)
  have h2 := len_flat (fun x : Bs => x ++ [10]) 63 (c.ents.flatMap entLines) (fun l hl => by
    obtain ⟨e, he, hl⟩ := List.mem_flatMap.1 hl
    have := (entLines_len (hc.ents e he) (hs e he)).2 l hl
    simp
    omega)
  have h3 := hc.many
  have h4 : c.ents.length * 122 ≤ 8 * 122 := Nat.mul_le_mul_right _ h3
  have h5 : (c.ents.flatMap entLines).length * 63 ≤ 8 * 122 * 63 := Nat.mul_le_mul_right _ (Nat.le_trans h1 h4)
  omega
end Go.Proofs.YtbholbenjalliaaGreatDoor

namespace Go.Proofs.YtbholbenjalliaaGreatDoor

theorem look_code {l1 l2 : Look} (G1 : GoodLook l1) (G2 : GoodLook l2) (pts : List ByteArray) (w : Bs) : (l1 pts w).isSome = (l2 pts w).isSome := by
  cases h1 : l1 pts w with
  | none =>
    cases h2 : l2 pts w with
    | none => rfl
    | some j => obtain ⟨p, e, hb⟩ := G2.hit _ _ _ h2; exact absurd hb (G1.miss _ _ h1 p (List.mem_of_getElem? e))
  | some i =>
    cases h2 : l2 pts w with
    | none => obtain ⟨p, e, hb⟩ := G1.hit _ _ _ h1; exact absurd hb (G2.miss _ _ h2 p (List.mem_of_getElem? e))
    | some j => rfl
theorem look_same {l1 l2 : Look} (G1 : GoodLook l1) (G2 : GoodLook l2) {pts : List ByteArray} (hn : pts.Nodup) : l1 pts = l2 pts := by
  funext w
  have hc := look_code G1 G2 pts w
  cases h1 : l1 pts w with
  | none => rw [h1] at hc; cases h2 : l2 pts w with
    | none => rfl
    | some j => rw [h2] at hc; cases hc
  | some i =>
    cases h2 : l2 pts w with
    | none => rw [h1, h2] at hc; cases hc
    | some j =>
      obtain ⟨p, e, hb⟩ := G1.hit _ _ _ h1
      obtain ⟨q, f, hb2⟩ := G2.hit _ _ _ h2
      rw [nodup_get hn e f (bl_inj (hb.trans hb2.symm))]
theorem word_code {a b : Bs → Option Nat} (h : ∀ w, (a w).isSome = (b w).isSome) (f : Nat) (w : Bs) : (wordV a f w).1 = (wordV b f w).1 := by
  unfold wordV
  split
  · rfl
  · split
    · rfl
    · rfl
    · have := h w
      cases h1 : a w <;> cases h2 : b w <;> simp_all
theorem fill_code {a b : Bs → Option Nat} (h : ∀ w, (a w).isSome = (b w).isSome) : ∀ (fs : List Nat) (ws : List Bs) (nn : Bool), (fillV a nn fs ws).1 = (fillV b nn fs ws).1
  | [], [], nn => by simp [fillV]
  | [], _ :: _, nn => by simp [fillV]
  | _ :: _, [], nn => by simp [fillV]
  | f :: fs, w :: ws, nn => by
    rw [fillV, fillV, word_code h f w]
    split
    · rfl
    · exact fill_code h fs ws _
theorem fill_vals {a b : Bs → Option Nat} : ∀ (fs : List Nat) (ws : List Bs) (nn : Bool), (∀ f ∈ fs, f ≠ 2) → (∀ f ∈ fs, f < 3) → fillV a nn fs ws = fillV b nn fs ws
  | [], [], nn, _, _ => by simp [fillV]
  | [], _ :: _, nn, _, _ => by simp [fillV]
  | _ :: _, [], nn, _, _ => by simp [fillV]
  | f :: fs, w :: ws, nn, h2, h3 => by
    have hw : wordV a f w = wordV b f w := by
      have e2 := h2 f (by simp); have e3 := h3 f (by simp)
      match f with
      | 0 => rfl
      | 1 => rfl
      | 2 => exact absurd rfl e2
      | f + 3 => omega
    rw [fillV, fillV, hw]
    rw [fill_vals (a := a) (b := b) fs ws _ (fun f hf => h2 f (by simp [hf])) (fun f hf => h3 f (by simp [hf]))]

/-- Two entities that differ, if at all, in places of points of which one is there twice. -/
structure RelE (e f : EntD) : Prop where
  name : e.name = f.name
  tol : e.tol = f.tol
  pts : e.pts = f.pts
  gaps : e.gaps.length = f.gaps.length
  edges : e.edges.length = f.edges.length
  first : e.first.length = f.first.length
  last : e.last.length = f.last.length
  same : ptsErr [] e.pts = 0 → e = f
theorem RelE.refl (e : EntD) : RelE e e := ⟨rfl, rfl, rfl, rfl, rfl, rfl, rfl, fun _ => rfl⟩
def RelL : List EntD → List EntD → Prop
  | [], [] => True
  | a :: s, b :: t => RelE a b ∧ RelL s t
  | [], _ :: _ => False
  | _ :: _, [] => False
theorem RelL.snoc : ∀ {s t : List EntD} {a b : EntD}, RelL s t → RelE a b → RelL (s ++ [a]) (t ++ [b])
  | [], [], _, _, _, h => ⟨h, trivial⟩
  | _ :: _, _ :: _, _, _, h, h2 => ⟨h.1, RelL.snoc h.2 h2⟩
  | [], _ :: _, _, _, h, _ => h.elim
  | _ :: _, [], _, _, h, _ => h.elim
theorem RelL.cases : ∀ {s t : List EntD}, RelL s t → (s = [] ∧ t = []) ∨ ∃ s' a t' b, s = s' ++ [a] ∧ t = t' ++ [b] ∧ RelL s' t' ∧ RelE a b
  | [], [], _ => Or.inl ⟨rfl, rfl⟩
  | a :: s, b :: t, h => by
    rcases RelL.cases h.2 with ⟨rfl, rfl⟩ | ⟨s', a', t', b', rfl, rfl, h1, h2⟩
    · exact Or.inr ⟨[], a, [], b, rfl, rfl, trivial, h.1⟩
    · exact Or.inr ⟨a :: s', a', b :: t', b', rfl, rfl, ⟨h.1, h1⟩, h2⟩
  | [], _ :: _, h => h.elim
  | _ :: _, [], h => h.elim
theorem RelL.length : ∀ {s t : List EntD}, RelL s t → s.length = t.length
  | [], [], _ => rfl
  | _ :: _, _ :: _, h => by simp [RelL.length h.2]
  | [], _ :: _, h => h.elim
  | _ :: _, [], h => h.elim
structure RelC (c d : CfgD) : Prop where
  closed : c.closed = d.closed
  opn : c.opn = d.opn
  cycle : c.cycle = d.cycle
  delay : c.delay = d.delay
  ents : RelL c.ents d.ents
theorem ptsErr_pre : ∀ (l a : List ByteArray) (p : ByteArray), ptsErr a (l ++ [p]) = 0 → ptsErr a l = 0
  | [], _, _, _ => rfl
  | x :: l, a, p, h => by
    rw [List.cons_append, ptsErr] at h
    rw [ptsErr]
    split at h
    · rename_i h0; rw [if_pos h0]; exact ptsErr_pre l _ p h
    · rename_i h0; exact absurd h h0
theorem relE_upd {l1 l2 : Look} (G1 : GoodLook l1) (G2 : GoodLook l2) {e f : EntD} (h : RelE e f) (k : Nat) (h4 : 4 ≤ k) (h10 : k < 10) (ws : List Bs) :
    RelE (updE k ws (fillV (l1 e.pts) false (form k) ws).2 e) (updE k ws (fillV (l2 f.pts) false (form k) ws).2 f) := by
  have hs : ptsErr [] e.pts = 0 → e = f ∧ l1 e.pts = l2 f.pts := fun h0 => by
    refine ⟨h.same h0, ?_⟩
    rw [← h.pts]
    exact look_same G1 G2 (ptsErr_zero _ _ h0).2
  match k, h4, h10 with
  | 4, _, _ =>
    refine ⟨h.name, h.tol, by simp only [updE]; rw [h.pts], h.gaps, h.edges, h.first, h.last, fun h0 => ?_⟩
    obtain ⟨e1, e2⟩ := hs (ptsErr_pre _ _ _ h0)
    rw [e2, e1]
  | 5, _, _ => exact ⟨h.name, h.tol, h.pts, h.gaps, h.edges, h.first, h.last, fun h0 => by obtain ⟨e1, e2⟩ := hs h0; rw [e2, e1]⟩
  | 6, _, _ => exact ⟨h.name, h.tol, h.pts, by simp [updE, h.gaps], h.edges, h.first, h.last, fun h0 => by obtain ⟨e1, e2⟩ := hs h0; rw [e2, e1]⟩
  | 7, _, _ => exact ⟨h.name, h.tol, h.pts, h.gaps, by simp [updE, h.edges], h.first, h.last, fun h0 => by obtain ⟨e1, e2⟩ := hs h0; rw [e2, e1]⟩
  | 8, _, _ => exact ⟨h.name, h.tol, h.pts, h.gaps, h.edges, by simp [updE, h.first], h.last, fun h0 => by obtain ⟨e1, e2⟩ := hs h0; rw [e2, e1]⟩
  | 9, _, _ => exact ⟨h.name, h.tol, h.pts, h.gaps, h.edges, h.first, by simp [updE, h.last], fun h0 => by obtain ⟨e1, e2⟩ := hs h0; rw [e2, e1]⟩
theorem rel_line {l1 l2 : Look} (G1 : GoodLook l1) (G2 : GoodLook l2) {a b : RS} (hl : a.last = b.last) (hc : RelC a.cfg b.cfg) (l : Bs) :
    (lineR l1 a l).1 = (lineR l2 b l).1 ∧ ((lineR l1 a l).1 = 0 → (lineR l1 a l).2.last = (lineR l2 b l).2.last ∧ RelC (lineR l1 a l).2.cfg (lineR l2 b l).2.cfg) := by
  unfold lineR
  cases cutBy 32 l with
  | nil => exact ⟨rfl, fun h => by simp at h⟩
  | cons h ws =>
    simp only [lineW]
    cases hk : kindOf h with
    | none => exact ⟨rfl, fun h => by simp at h⟩
    | some k =>
      obtain ⟨-, k10⟩ := kindOf_some hk
      simp only
      rw [hl]
      split
      · exact ⟨rfl, fun h => by simp at h⟩
      · have hp : lastPts a.cfg.ents = lastPts b.cfg.ents := by
          rcases hc.ents.cases with ⟨e1, e2⟩ | ⟨s, x, t, y, e1, e2, -, hr⟩
          · rw [e1, e2]
          · rw [e1, e2, lastPts_snoc, lastPts_snoc, hr.pts]
        have hcode := fill_code (fun w => look_code G1 G2 (lastPts a.cfg.ents) w) (form k) ws false
        rw [hp] at hcode ⊢
        rw [hcode]
        split
        · refine ⟨rfl, fun _ => ⟨rfl, ?_⟩⟩
          simp only
          match k, k10 with
          | 0, _ => rw [fill_vals (a := l1 (lastPts b.cfg.ents)) (b := l2 (lastPts b.cfg.ents)) (form 0) ws false (by decide) (by decide)]; exact ⟨rfl, rfl, hc.cycle, hc.delay, hc.ents⟩
          | 1, _ => rw [fill_vals (a := l1 (lastPts b.cfg.ents)) (b := l2 (lastPts b.cfg.ents)) (form 1) ws false (by decide) (by decide)]; exact ⟨hc.closed, hc.opn, rfl, hc.delay, hc.ents⟩
          | 2, _ => rw [fill_vals (a := l1 (lastPts b.cfg.ents)) (b := l2 (lastPts b.cfg.ents)) (form 2) ws false (by decide) (by decide)]; exact ⟨hc.closed, hc.opn, hc.cycle, rfl, hc.ents⟩
          | 3, _ => rw [fill_vals (a := l1 (lastPts b.cfg.ents)) (b := l2 (lastPts b.cfg.ents)) (form 3) ws false (by decide) (by decide)]; exact ⟨hc.closed, hc.opn, hc.cycle, hc.delay, hc.ents.snoc (RelE.refl _)⟩
          | k + 4, k10 =>
            refine ⟨hc.closed, hc.opn, hc.cycle, hc.delay, ?_⟩
            simp only [updC]
            rcases hc.ents.cases with ⟨e1, e2⟩ | ⟨s, x, t, y, e1, e2, hst, hr⟩
            · rw [e1, e2]; exact trivial
            · rw [e1, e2, updLast_snoc, updLast_snoc, lastPts_snoc, ← hr.pts]
              have := relE_upd G1 G2 hr (k + 4) (by omega) k10 ws
              rw [← hr.pts] at this
              exact hst.snoc this
        · rename_i hne
          exact ⟨rfl, fun h => absurd h hne⟩
theorem rel_lines {l1 l2 : Look} (G1 : GoodLook l1) (G2 : GoodLook l2) : ∀ (ls : List Bs) (i : Nat) (a b : RS), a.last = b.last → RelC a.cfg b.cfg →
    (linesR l1 i a ls).1 = (linesR l2 i b ls).1 ∧ ((linesR l1 i a ls).1.1 = 0 → RelC (linesR l1 i a ls).2.cfg (linesR l2 i b ls).2.cfg)
  | [], i, a, b, hl, hc => by
    unfold linesR
    rw [hl]
    split
    · exact ⟨rfl, fun h => by simp at h⟩
    · exact ⟨rfl, fun _ => hc⟩
  | l :: ls, i, a, b, hl, hc => by
    obtain ⟨h1, h2⟩ := rel_line G1 G2 hl hc l
    unfold linesR
    rw [← h1]
    split
    · rename_i h0
      obtain ⟨h3, h4⟩ := h2 h0
      exact rel_lines G1 G2 ls (i + 1) _ _ h3 h4
    · rename_i h0
      exact ⟨rfl, fun h => absurd h h0⟩
theorem relE_err {e f : EntD} (h : RelE e f) (a : List ByteArray) : entErr a e = entErr a f ∧ (entErr a e = 0 → e = f) := by
  have hs : sizeErr e = sizeErr f := by unfold sizeErr; rw [h.tol, h.pts, h.gaps, h.edges, h.first, h.last]
  refine ⟨?_, fun h0 => h.same (entErr_zero h0).2.2.1⟩
  by_cases h0 : ptsErr [] e.pts = 0
  · rw [h.same h0]
  · unfold entErr
    rw [← h.name, ← hs, ← h.pts]
    simp only [ne_eq, h0, not_false_eq_true, if_true]
theorem relL_err : ∀ {s t : List EntD}, RelL s t → ∀ (a : List ByteArray) (i : Nat), entsErr a i s = entsErr a i t ∧ ((entsErr a i s).1 = 0 → s = t)
  | [], [], _, _, _ => ⟨rfl, fun _ => rfl⟩
  | x :: s, y :: t, h, a, i => by
    obtain ⟨h1, h2⟩ := relE_err h.1 a
    obtain ⟨h3, h4⟩ := relL_err h.2 (a ++ [x.name]) (i + 1)
    unfold entsErr
    rw [← h1, ← h.1.name, ← h3]
    split
    · rename_i h0
      exact ⟨rfl, fun hz => by rw [h2 h0, h4 hz]⟩
    · rename_i h0
      exact ⟨rfl, fun hz => absurd hz h0⟩
  | [], _ :: _, h, _, _ => h.elim
  | _ :: _, [], h, _, _ => h.elim
theorem relC_err {c d : CfgD} (h : RelC c d) : cfgErr c = cfgErr d ∧ ((cfgErr c).1 = 0 → c = d) := by
  have hw : wholeErr c = wholeErr d := by unfold wholeErr; rw [h.closed, h.opn, h.cycle, h.delay, h.ents.length]
  obtain ⟨h1, h2⟩ := relL_err h.ents [] 0
  unfold cfgErr
  rw [← hw, ← h1]
  split
  · refine ⟨rfl, fun hz => ?_⟩
    have he := h2 hz
    obtain ⟨_, _, _, _, _⟩ := c
    obtain ⟨_, _, _, _, _⟩ := d
    obtain ⟨e1, e2, e3, e4, -⟩ := h
    simp only at e1 e2 e3 e4 he
    subst e1 e2 e3 e4 he
    rfl
  · rename_i h0; exact ⟨rfl, fun hz => absurd hz h0⟩
/-- Which of two points of one name is told makes no difference. -/
theorem read_same {l1 l2 : Look} (G1 : GoodLook l1) (G2 : GoodLook l2) (s : Bs) : readR l1 s = readR l2 s := by
  obtain ⟨h1, h2⟩ := rel_lines G1 G2 (cutBy 10 (trim s)) 0 ⟨-1, cfg0⟩ ⟨-1, cfg0⟩ rfl ⟨rfl, rfl, rfl, rfl, trivial⟩
  unfold readR
  split
  · rfl
  · rw [← h1]
    split
    · rename_i h0
      obtain ⟨h3, h4⟩ := relC_err (h2 h0)
      rw [← h3]
      split
      · rename_i hz; rw [h4 hz]
      · rfl
    · rfl
end Go.Proofs.YtbholbenjalliaaGreatDoor
