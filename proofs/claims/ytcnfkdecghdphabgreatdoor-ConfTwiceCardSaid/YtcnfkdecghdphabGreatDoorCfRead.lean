/-
  A reader of a config's lines, and that what is read is written as it was: pure functions. Condition: the look-up of points is right (GoodLook).
-/
import Derived.Test.YtcnfkdecghdphabGreatDoorCfText
namespace Go.Proofs.YtcnfkdecghdphabGreatDoor

def form : Nat → List Nat
  | 0 => [1, 1]
  | 1 => [1]
  | 2 => [1]
  | 3 => [0, 1]
  | 4 => [0]
  | 5 => [2, 1, 1]
  | 6 => [2, 2, 1, 1]
  | 7 => [2, 2]
  | _ => [2]
def kindOf (w : Bs) : Option Nat := (List.range 10).find? (fun k => decide (kw k = w))
def may (last : Int) (k : Nat) : Bool :=
  if k ≤ 2 then decide (last = (k : Int) - 1) else if k = 3 then decide (2 ≤ last) else if k = 5 then decide (3 ≤ last) && decide (last < 5) else decide (3 ≤ last) && decide (last ≤ (k : Int))
def wordV (look : Bs → Option Nat) (f : Nat) (w : Bs) : Nat × Int :=
  if w = [] then (1, 0) else match f with
  | 0 => (0, 0)
  | 1 => match numOf w with
    | some n => (0, (n : Int))
    | none => (1, 0)
  | _ => match look w with
    | some n => (0, (n : Int))
    | none => (5, 0)
/-- The words of a line, as its form asks: 0: well; 1: one is none; 5: a point that is not there. -/
def fillV (look : Bs → Option Nat) : Bool → List Nat → List Bs → Nat × List Int
  | nn, [], [] => (if nn then 5 else 0, [])
  | nn, f :: fs, w :: ws => if (wordV look f w).1 = 1 then (1, []) else ((fillV look (nn || decide ((wordV look f w).1 = 5)) fs ws).1, (wordV look f w).2 :: (fillV look (nn || decide ((wordV look f w).1 = 5)) fs ws).2)
  | _, [], _ :: _ => (1, [])
  | _, _ :: _, [] => (1, [])
def newEnt (name : Bs) (tol : Int) : EntD := ⟨⟨name.toArray⟩, tol, [], -1, 0, 0, [], [], [], []⟩
def updLast (f : EntD → EntD) : List EntD → List EntD
  | [] => []
  | [e] => [f e]
  | x :: y :: t => x :: updLast f (y :: t)
theorem updLast_snoc (f : EntD → EntD) : ∀ (es : List EntD) (e : EntD), updLast f (es ++ [e]) = es ++ [f e]
  | [], e => rfl
  | [x], e => rfl
  | x :: y :: t, e => by
    have := updLast_snoc f (y :: t) e
    simp only [List.cons_append] at this ⊢
    rw [updLast, this]
def updE (k : Nat) (ws : List Bs) (vs : List Int) (e : EntD) : EntD := match k with
  | 4 => ⟨e.name, e.tol, e.pts ++ [⟨(ws.getD 0 []).toArray⟩], e.cnt, e.mn, e.mx, e.gaps, e.edges, e.first, e.last⟩
  | 5 => ⟨e.name, e.tol, e.pts, vs.getD 0 0, vs.getD 1 0, vs.getD 2 0, e.gaps, e.edges, e.first, e.last⟩
  | 6 => ⟨e.name, e.tol, e.pts, e.cnt, e.mn, e.mx, e.gaps ++ [⟨vs.getD 0 0, vs.getD 1 0, vs.getD 2 0, vs.getD 3 0⟩], e.edges, e.first, e.last⟩
  | 7 => ⟨e.name, e.tol, e.pts, e.cnt, e.mn, e.mx, e.gaps, e.edges ++ [(vs.getD 0 0, vs.getD 1 0)], e.first, e.last⟩
  | 8 => ⟨e.name, e.tol, e.pts, e.cnt, e.mn, e.mx, e.gaps, e.edges, e.first ++ [vs.getD 0 0], e.last⟩
  | _ => ⟨e.name, e.tol, e.pts, e.cnt, e.mn, e.mx, e.gaps, e.edges, e.first, e.last ++ [vs.getD 0 0]⟩
def updC (c : CfgD) (k : Nat) (ws : List Bs) (vs : List Int) : CfgD := match k with
  | 0 => ⟨vs.getD 0 0, vs.getD 1 0, c.cycle, c.delay, c.ents⟩
  | 1 => ⟨c.closed, c.opn, vs.getD 0 0, c.delay, c.ents⟩
  | 2 => ⟨c.closed, c.opn, c.cycle, vs.getD 0 0, c.ents⟩
  | 3 => ⟨c.closed, c.opn, c.cycle, c.delay, c.ents ++ [newEnt (ws.getD 0 []) (vs.getD 1 0)]⟩
  | k => ⟨c.closed, c.opn, c.cycle, c.delay, updLast (updE k ws vs) c.ents⟩
def lastPts (l : List EntD) : List ByteArray := match l.getLast? with
  | some e => e.pts
  | none => []
structure RS where
  last : Int
  cfg : CfgD
abbrev Look := List ByteArray → Bs → Option Nat
def lineW (look : Look) (st : RS) (h : Bs) (ws : List Bs) : Nat × RS := match kindOf h with
  | none => (1, st)
  | some k => if may st.last k = false then (1, st) else if (fillV (look (lastPts st.cfg.ents)) false (form k) ws).1 = 0 then (0, ⟨k, updC st.cfg k ws (fillV (look (lastPts st.cfg.ents)) false (form k) ws).2⟩) else ((fillV (look (lastPts st.cfg.ents)) false (form k) ws).1, st)
def lineR (look : Look) (st : RS) (l : Bs) : Nat × RS := match cutBy 32 l with
  | [] => (1, st)
  | h :: ws => lineW look st h ws
def linesR (look : Look) : Nat → RS → List Bs → (Nat × Int) × RS
  | i, st, [] => if st.last < 2 then ((1, (i : Int)), st) else ((0, -1), st)
  | i, st, l :: ls => if (lineR look st l).1 = 0 then linesR look (i + 1) (lineR look st l).2 ls else (((lineR look st l).1, (i : Int)), st)
def trim (s : Bs) : Bs := if s.getLast? = some 10 then s.dropLast else s
def cfg0 : CfgD := ⟨0, 0, 0, 0, []⟩
def readR (look : Look) (s : Bs) : (Nat × Int) × CfgD :=
  if 8000 < s.length then ((2, -1), cfg0) else
  if (linesR look 0 ⟨-1, cfg0⟩ (cutBy 10 (trim s))).1.1 = 0 then
    (if (cfgErr (linesR look 0 ⟨-1, cfg0⟩ (cutBy 10 (trim s))).2.cfg).1 = 0 then ((0, -1), (linesR look 0 ⟨-1, cfg0⟩ (cutBy 10 (trim s))).2.cfg) else (cfgErr (linesR look 0 ⟨-1, cfg0⟩ (cutBy 10 (trim s))).2.cfg, cfg0))
  else ((linesR look 0 ⟨-1, cfg0⟩ (cutBy 10 (trim s))).1, cfg0)

/-- A look-up of points that is right. -/
structure GoodLook (look : Look) : Prop where
  hit : ∀ pts w i, look pts w = some i → ∃ p, pts[i]? = some p ∧ bl p = w
  miss : ∀ pts w, look pts w = none → ∀ p ∈ pts, bl p ≠ w

theorem kindOf_some {w : Bs} {k : Nat} (h : kindOf w = some k) : w = kw k ∧ k < 10 := by
  have h1 := List.find?_some h
  have h2 := List.mem_of_find?_eq_some h
  simp at h1 h2
  exact ⟨h1.symm, h2⟩
theorem kindOf_kw : ∀ k, k < 10 → kindOf (kw k) = some k := by decide
theorem kw_clean : ∀ k, k < 10 → (32 : UInt8) ∉ kw k ∧ (10 : UInt8) ∉ kw k := by decide
theorem fill_inv {look : Bs → Option Nat} {f : Nat} {fs : List Nat} {ws : List Bs} (h : (fillV look false (f :: fs) ws).1 = 0) :
    ∃ w ws', ws = w :: ws' ∧ (wordV look f w).1 = 0 ∧ (fillV look false fs ws').1 = 0 ∧ (fillV look false (f :: fs) ws).2 = (wordV look f w).2 :: (fillV look false fs ws').2 := by
  have nn5 : ∀ (fs : List Nat) (ws : List Bs), (fillV look true fs ws).1 ≠ 0 := by
    intro fs
    induction fs with
    | nil => intro ws; cases ws <;> simp [fillV]
    | cons f fs ih =>
      intro ws
      cases ws with
      | nil => simp [fillV]
      | cons w ws =>
        unfold fillV
        split
        · simp
        · simpa using ih ws
  cases ws with
  | nil => simp [fillV] at h
  | cons w ws =>
    refine ⟨w, ws, rfl, ?_⟩
    rw [show fillV look false (f :: fs) (w :: ws) = if (wordV look f w).1 = 1 then (1, []) else ((fillV look (false || decide ((wordV look f w).1 = 5)) fs ws).1, (wordV look f w).2 :: (fillV look (false || decide ((wordV look f w).1 = 5)) fs ws).2) by rw [fillV]] at h ⊢
    split at h
    · simp at h
    · rename_i h1
      rw [if_neg h1]
      by_cases h5 : (wordV look f w).1 = 5
      · simp only [h5, decide_true, Bool.or_true] at h
        exact absurd h (nn5 _ _)
      · simp only [h5, decide_false, Bool.or_false] at h ⊢
        refine ⟨?_, h, trivial⟩
        unfold wordV at h1 h5 ⊢
        by_cases hw : w = []
        · rw [if_pos hw] at h1; simp at h1
        · rw [if_neg hw] at h1 h5 ⊢
          split
          · rfl
          · split <;> simp_all
          · split <;> simp_all
theorem fill_end {look : Bs → Option Nat} {ws : List Bs} (h : (fillV look false [] ws).1 = 0) : ws = [] := by
  cases ws with
  | nil => rfl
  | cons => simp [fillV] at h
theorem word0 {look : Bs → Option Nat} {w : Bs} (h : (wordV look 0 w).1 = 0) : w ≠ [] := by
  intro e; subst e; simp [wordV] at h
theorem word1 {look : Bs → Option Nat} {w : Bs} (h : (wordV look 1 w).1 = 0) : ∃ n : Nat, numOf w = some n ∧ (wordV look 1 w).2 = n ∧ num (wordV look 1 w).2 = w := by
  unfold wordV at h ⊢
  split at h
  · simp at h
  · rename_i hw
    rw [if_neg hw]
    simp only at h ⊢
    cases hn : numOf w with
    | none => rw [hn] at h; simp at h
    | some n => exact ⟨n, rfl, rfl, by simpa [num] using dec_numOf hn⟩
theorem word2 {look : Look} (G : GoodLook look) {pts : List ByteArray} {w : Bs} (h : (wordV (look pts) 2 w).1 = 0) : ∃ n : Nat, look pts w = some n ∧ (wordV (look pts) 2 w).2 = n ∧ pt pts (wordV (look pts) 2 w).2 = w := by
  unfold wordV at h ⊢
  split at h
  · simp at h
  · rename_i hw
    rw [if_neg hw]
    simp only at h ⊢
    cases hn : look pts w with
    | none => rw [hn] at h; simp at h
    | some n =>
      obtain ⟨p, e, hp⟩ := G.hit _ _ _ hn
      exact ⟨n, rfl, rfl, by simp [pt, List.getD_eq_getElem?_getD, e, hp]⟩
theorem bl_mk (w : Bs) : bl ⟨w.toArray⟩ = w := by simp [bl]
theorem bl_inj {a b : ByteArray} (h : bl a = bl b) : a = b := by
  obtain ⟨⟨a⟩⟩ := a; obtain ⟨⟨b⟩⟩ := b
  simp [bl] at h
  subst h; rfl

/-! What is read is written as it was. -/
def linesOf (st : RS) : List Bs :=
  if st.last = -1 then [] else if st.last = 0 then [kwLine 0 [num st.cfg.closed, num st.cfg.opn]] else if st.last = 1 then [kwLine 0 [num st.cfg.closed, num st.cfg.opn], kwLine 1 [num st.cfg.cycle]] else confLines st.cfg
structure Inv2 (st : RS) (L : List Bs) : Prop where
  lo : -1 ≤ st.last
  hi : st.last ≤ 9
  eq : linesOf st = L
  e0 : st.last ≤ 2 → st.cfg.ents = []
  e3 : 3 ≤ st.last → ∃ es e, st.cfg.ents = es ++ [e] ∧ (st.last ≤ 3 → e.pts = []) ∧ (st.last ≤ 4 → e.cnt = -1) ∧ (st.last ≤ 5 → e.gaps = []) ∧ (st.last ≤ 6 → e.edges = []) ∧ (st.last ≤ 7 → e.first = []) ∧ (st.last ≤ 8 → e.last = [])
theorem kwLine_join (k : Nat) (ws : List Bs) : kwLine k ws = joinBy 32 (kw k) ws := rfl
theorem inv2_step {look : Look} (G : GoodLook look) {st st' : RS} {L : List Bs} {l : Bs} (I : Inv2 st L) (h : lineR look st l = (0, st')) : Inv2 st' (L ++ [l]) := by
  unfold lineR at h
  cases hc : cutBy 32 l with
  | nil => rw [hc] at h; simp at h
  | cons hd ws =>
    rw [hc] at h
    simp only [lineW] at h
    have hl := join_cut 32 l hd ws hc
    cases hk : kindOf hd with
    | none => rw [hk] at h; simp at h
    | some k =>
      rw [hk] at h
      simp only at h
      obtain ⟨rfl, k10⟩ := kindOf_some hk
      split at h
      · simp at h
      · rename_i hm
        simp only [Bool.not_eq_false] at hm
        split at h
        · rename_i hf
          simp only [Prod.mk.injEq, true_and] at h
          subst h
          have hl' : l = kwLine k ws := hl
          subst hl'
          clear hl hc hk
          obtain ⟨lo, hi, eq, e0, e3⟩ := I
          subst eq
          match k, k10 with
          | 0, _ =>
            obtain ⟨a, ws, rfl, ha, hf, q1⟩ := fill_inv hf
            obtain ⟨b, ws, rfl, hb, hf, q2⟩ := fill_inv hf
            have := fill_end hf; subst this
            obtain ⟨n, -, -, na⟩ := word1 ha
            obtain ⟨m, -, -, nb⟩ := word1 hb
            rw [q2] at q1
            have hl0 : st.last = -1 := by simpa [may] using hm
            refine ⟨by simp, by simp, ?_, fun _ => e0 (by omega), fun h => by simp at h⟩
            rw [show form 0 = [1, 1] from rfl, q1]
            simp [linesOf, hl0, updC, na, nb]
          | 1, _ =>
            obtain ⟨a, ws, rfl, ha, hf, q1⟩ := fill_inv hf
            have := fill_end hf; subst this
            obtain ⟨n, -, -, na⟩ := word1 ha
            have hl0 : st.last = 0 := by simpa [may] using hm
            refine ⟨by simp, by simp, ?_, fun _ => e0 (by omega), fun h => by simp at h⟩
            rw [show form 1 = [1] from rfl, q1]
            simp [linesOf, hl0, updC, na]
          | 2, _ =>
            obtain ⟨a, ws, rfl, ha, hf, q1⟩ := fill_inv hf
            have := fill_end hf; subst this
            obtain ⟨n, -, -, na⟩ := word1 ha
            have hl0 : st.last = 1 := by simpa [may] using hm
            have he := e0 (by omega)
            refine ⟨by simp, by simp, ?_, fun _ => by simpa [updC] using he, fun h => by simp at h⟩
            rw [show form 2 = [1] from rfl, q1]
            simp [linesOf, hl0, updC, confLines, he]
            rw [he] at na
            rw [na]
          | 3, _ =>
            obtain ⟨a, ws, rfl, ha, hf, q1⟩ := fill_inv hf
            obtain ⟨b, ws, rfl, hb, hf, q2⟩ := fill_inv hf
            have := fill_end hf; subst this
            obtain ⟨m, -, -, nb⟩ := word1 hb
            rw [q2] at q1
            have hl0 : 2 ≤ st.last := by simpa [may] using hm
            refine ⟨by simp, by simp, ?_, fun h => by simp at h, fun _ => ⟨st.cfg.ents, newEnt a (wordV (look (lastPts st.cfg.ents)) 1 b).2, by rw [show form 3 = [0, 1] from rfl, q1]; simp [updC], ?_⟩⟩
            · rw [show form 3 = [0, 1] from rfl, q1]
              have n1 : ¬ st.last = -1 := by omega
              have n2 : ¬ st.last = 0 := by omega
              have n3 : ¬ st.last = 1 := by omega
              simp [linesOf, n1, n2, n3, updC, confLines, entLines, newEnt, bl_mk, nb]
            · simp [newEnt]
          | k + 4, k10 =>
            have hl0 : 3 ≤ st.last ∧ st.last ≤ ((k + 4 : Nat) : Int) ∧ (k = 1 → st.last ≤ 4) := by
              unfold may at hm
              rw [if_neg (by omega), if_neg (by omega)] at hm
              split at hm
              · simp at hm; omega
              · simp at hm; omega
            obtain ⟨h3, hle, h5⟩ := hl0
            obtain ⟨es, e, he, ep, ec, eg, ee, ef, el⟩ := e3 h3
            have hlp : lastPts st.cfg.ents = e.pts := by rw [he]; simp [lastPts]
            rw [hlp] at hf ⊢
            have n1 : ¬ st.last = -1 := by omega
            have n2 : ¬ st.last = 0 := by omega
            have n3 : ¬ st.last = 1 := by omega
            have key : ∀ e', updE (k + 4) ws (fillV (look e.pts) false (form (k + 4)) ws).2 e = e' → entLines e' = entLines e ++ [kwLine (k + 4) ws] →
                (((k + 4 : Nat) : Int) ≤ 3 → e'.pts = []) ∧ (((k + 4 : Nat) : Int) ≤ 4 → e'.cnt = -1) ∧ (((k + 4 : Nat) : Int) ≤ 5 → e'.gaps = []) ∧ (((k + 4 : Nat) : Int) ≤ 6 → e'.edges = []) ∧ (((k + 4 : Nat) : Int) ≤ 7 → e'.first = []) ∧ (((k + 4 : Nat) : Int) ≤ 8 → e'.last = []) →
                Inv2 ⟨((k + 4 : Nat) : Int), updC st.cfg (k + 4) ws (fillV (look e.pts) false (form (k + 4)) ws).2⟩ (linesOf st ++ [kwLine (k + 4) ws]) := by
              intro e' hu hlines hparts
              have hents : (updC st.cfg (k + 4) ws (fillV (look e.pts) false (form (k + 4)) ws).2).ents = es ++ [e'] := by
                simp only [updC]; rw [he, updLast_snoc, hu]
              refine ⟨by simp; omega, by simp; omega, ?_, fun h => by simp at h; omega, fun _ => ⟨es, e', hents, hparts⟩⟩
              have m1 : ¬ (((k + 4 : Nat) : Int)) = -1 := by omega
              have m2 : ¬ (((k + 4 : Nat) : Int)) = 0 := by omega
              have m3 : ¬ (((k + 4 : Nat) : Int)) = 1 := by omega
              unfold linesOf
              rw [if_neg m1, if_neg m2, if_neg m3, if_neg n1, if_neg n2, if_neg n3]
              unfold confLines
              rw [hents, he]
              simp [updC, hlines]
            match k, k10 with
            | 0, _ =>
              obtain ⟨a, ws, rfl, ha, hf, q1⟩ := fill_inv hf
              have := fill_end hf; subst this
              have c1 := ec (by omega); have c2 := eg (by omega); have c3 := ee (by omega); have c4 := ef (by omega); have c5 := el (by omega)
              refine key _ rfl ?_ ⟨fun h => by simp at h, fun _ => by simpa [updE] using c1, fun _ => by simpa [updE] using c2, fun _ => by simpa [updE] using c3, fun _ => by simpa [updE] using c4, fun _ => by simpa [updE] using c5⟩
              simp [updE, entLines, c1, c2, c3, c4, c5, bl_mk]
            | 1, _ =>
              obtain ⟨a, ws, rfl, ha, hf, q1⟩ := fill_inv hf
              obtain ⟨b, ws, rfl, hb, hf, q2⟩ := fill_inv hf
              obtain ⟨c, ws, rfl, hc, hf, q3⟩ := fill_inv hf
              have := fill_end hf; subst this
              obtain ⟨n, -, v1, na⟩ := word2 G ha
              obtain ⟨m, -, -, nb⟩ := word1 hb
              obtain ⟨o, -, -, nc⟩ := word1 hc
              have h4 := h5 rfl
              have c1 := ec (by omega); have c2 := eg (by omega); have c3 := ee (by omega); have c4 := ef (by omega); have c5 := el (by omega)
              refine key _ rfl ?_ ⟨fun h => by simp at h, fun h => by simp at h, fun _ => by simpa [updE] using c2, fun _ => by simpa [updE] using c3, fun _ => by simpa [updE] using c4, fun _ => by simpa [updE] using c5⟩
              rw [show form (1 + 4) = [2, 1, 1] from rfl, q1, q2, q3]
              have hne : ¬ (wordV (look e.pts) 2 a).2 = -1 := by rw [v1]; omega
              simp [updE, entLines, c1, c2, c3, c4, c5, hne, na, nb, nc]
            | 2, _ =>
              obtain ⟨a, ws, rfl, ha, hf, q1⟩ := fill_inv hf
              obtain ⟨b, ws, rfl, hb, hf, q2⟩ := fill_inv hf
              obtain ⟨c, ws, rfl, hc, hf, q3⟩ := fill_inv hf
              obtain ⟨d, ws, rfl, hd, hf, q4⟩ := fill_inv hf
              have := fill_end hf; subst this
              obtain ⟨n, -, -, na⟩ := word2 G ha
              obtain ⟨m, -, -, nb⟩ := word2 G hb
              obtain ⟨o, -, -, nc⟩ := word1 hc
              obtain ⟨p, -, -, nd⟩ := word1 hd
              have c3 := ee (by omega); have c4 := ef (by omega); have c5 := el (by omega)
              refine key _ rfl ?_ ⟨fun h => by simp at h, fun h => by simp at h, fun h => by simp at h, fun _ => by simpa [updE] using c3, fun _ => by simpa [updE] using c4, fun _ => by simpa [updE] using c5⟩
              rw [show form (2 + 4) = [2, 2, 1, 1] from rfl, q1, q2, q3, q4]
              simp [updE, entLines, c3, c4, c5, na, nb, nc, nd]
            | 3, _ =>
              obtain ⟨a, ws, rfl, ha, hf, q1⟩ := fill_inv hf
              obtain ⟨b, ws, rfl, hb, hf, q2⟩ := fill_inv hf
              have := fill_end hf; subst this
              obtain ⟨n, -, -, na⟩ := word2 G ha
              obtain ⟨m, -, -, nb⟩ := word2 G hb
              have c4 := ef (by omega); have c5 := el (by omega)
              refine key _ rfl ?_ ⟨fun h => by simp at h, fun h => by simp at h, fun h => by simp at h, fun h => by simp at h, fun _ => by simpa [updE] using c4, fun _ => by simpa [updE] using c5⟩
              rw [show form (3 + 4) = [2, 2] from rfl, q1, q2]
              simp [updE, entLines, c4, c5, na, nb]
            | 4, _ =>
              obtain ⟨a, ws, rfl, ha, hf, q1⟩ := fill_inv hf
              have := fill_end hf; subst this
              obtain ⟨n, -, -, na⟩ := word2 G ha
              have c5 := el (by omega)
              refine key _ rfl ?_ ⟨fun h => by simp at h, fun h => by simp at h, fun h => by simp at h, fun h => by simp at h, fun h => by simp at h, fun _ => by simpa [updE] using c5⟩
              rw [show form (4 + 4) = [2] from rfl, q1]
              simp [updE, entLines, c5, na]
            | 5, _ =>
              obtain ⟨a, ws, rfl, ha, hf, q1⟩ := fill_inv hf
              have := fill_end hf; subst this
              obtain ⟨n, -, -, na⟩ := word2 G ha
              refine key _ rfl ?_ ⟨fun h => by simp at h, fun h => by simp at h, fun h => by simp at h, fun h => by simp at h, fun h => by simp at h, fun h => by simp at h⟩
              rw [show form (5 + 4) = [2] from rfl, q1]
              simp [updE, entLines, na]
        · rename_i hf
          simp only [Prod.mk.injEq] at h
          exact absurd h.1 hf
theorem inv2_lines {look : Look} (G : GoodLook look) : ∀ (ls : List Bs) (i : Nat) (st : RS) (L : List Bs), Inv2 st L → (linesR look i st ls).1.1 = 0 → Inv2 (linesR look i st ls).2 (L ++ ls) ∧ 2 ≤ (linesR look i st ls).2.last := by
  intro ls
  induction ls with
  | nil =>
    intro i st L I h
    unfold linesR at h ⊢
    split at h
    · simp at h
    · rename_i hl
      rw [if_neg hl]
      exact ⟨by simpa using I, by simp; omega⟩
  | cons l ls ih =>
    intro i st L I h
    unfold linesR at h ⊢
    split at h
    · rename_i h0
      rw [if_pos h0]
      have I2 := inv2_step (st' := (lineR look st l).2) (l := l) G I (by rw [← h0])
      have := ih (i + 1) _ _ I2 h
      simpa using this
    · rename_i h0
      simp at h
      exact absurd h h0
theorem inv2_start : Inv2 ⟨-1, cfg0⟩ [] := ⟨by simp, by simp, rfl, fun _ => rfl, fun h => by simp at h⟩
/-- What is read is written as it was, but for the last line break. -/
theorem read_text {look : Look} (G : GoodLook look) {s : Bs} (h : (readR look s).1.1 = 0) : confText (readR look s).2 = s ∨ confText (readR look s).2 = s ++ [10] := by
  unfold readR at h ⊢
  split at h
  · simp at h
  · rename_i h8
    rw [if_neg h8]
    split at h
    · rename_i h0
      rw [if_pos h0]
      split at h
      · rename_i h1
        rw [if_pos h1]
        obtain ⟨I, h2⟩ := inv2_lines G _ _ _ _ inv2_start h0
        have eq := I.eq
        unfold linesOf at eq
        rw [if_neg (by omega), if_neg (by omega), if_neg (by omega)] at eq
        cases hc : cutBy 10 (trim s) with
        | nil => exact absurd hc (cutBy_ne _ _)
        | cons x r =>
          have hj := join_cut 10 _ _ _ hc
          rw [hc] at eq
          simp only [List.nil_append] at eq
          have et : confText (linesR look 0 ⟨-1, cfg0⟩ (cutBy 10 (trim s))).2.cfg = trim s ++ [10] := by
            unfold confText
            rw [hc, eq, text_join, ← hj]
          rw [hc] at et
          rw [et]
          unfold trim
          split
          · rename_i hl
            left
            have hne : s ≠ [] := fun e => by subst e; simp at hl
            rw [List.getLast?_eq_some_getLast hne] at hl
            have e2 := List.dropLast_concat_getLast hne
            rw [Option.some.inj hl] at e2
            exact e2
          · right; rfl
      · rename_i h1; exact absurd h h1
    · rename_i h0; exact absurd h h0
end Go.Proofs.YtcnfkdecghdphabGreatDoor
