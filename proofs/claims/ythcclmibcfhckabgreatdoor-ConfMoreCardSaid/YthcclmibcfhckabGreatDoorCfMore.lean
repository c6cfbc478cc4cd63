/-
  nightwatchlaw1.ConfMore told by a contract: it answers true; nothing that was there turns. Conditions: the config lies in memory; the sentinels, the keywords and the table of powers of ten lie in memory.
-/
import Derived.Test.YthcclmibcfhckabGreatDoorCfHeavy
import Derived.Test.YthcclmibcfhckabGreatDoorCfRName
import Derived.Test.YthcclmibcfhckabGreatDoorCfTextGo
namespace Go.Proofs.YthcclmibcfhckabGreatDoor
open Go.RowKit Go.Extern.Stop Go.Stop Go.Extern

def newE (name : ByteArray) (tol : Int) : EntD := ⟨name, tol, [], -1, 0, 0, [], [], [], []⟩
def moreC (c : CfgD) (name : ByteArray) (tol : Int) : CfgD := ⟨c.closed, c.opn, c.cycle, c.delay, c.ents ++ [newE name tol]⟩
theorem entsErr_more (x : EntD) : ∀ (l : List EntD) (a : List ByteArray) (i : Nat), (entsErr a i l).1 = 0 → entsErr a i (l ++ [x]) = if entErr (a ++ l.map (·.name)) x = 0 then (0, -1) else (entErr (a ++ l.map (·.name)) x, ((i + l.length : Nat) : Int))
  | [], a, i, _ => by simp [entsErr]
  | e :: l, a, i, h => by
    unfold entsErr at h
    split at h
    · rename_i h0
      rw [List.cons_append, entsErr, if_pos h0, entsErr_more x l _ _ h]
      have e1 : a ++ [e.name] ++ l.map (·.name) = a ++ (e :: l).map (·.name) := by simp
      have e2 : i + 1 + l.length = i + (e :: l).length := by simp; omega
      rw [e1, e2]
    · rename_i h0; exact absurd h h0
theorem entErr_new (a : List ByteArray) (name : ByteArray) (tol : Int) : entErr a (newE name tol) = if nameErr a name ≠ 0 then nameErr a name else if within tol 0 20 then 0 else 2 := by
  unfold entErr
  show (if nameErr a name ≠ 0 then nameErr a name else _) = _
  split
  · rfl
  · have hs : sizeErr (newE name tol) = if within tol 0 20 then 0 else 2 := by
      simp [sizeErr, newE, firstOf]
      cases within tol 0 20 <;> rfl
    rw [hs]
    have hp : partErr (newE name tol) = 0 := by simp [partErr, newE, firstOf, rise, twice]
    have hq : ptsErr [] (newE name tol).pts = 0 := rfl
    rw [hp, hq]
    cases within tol 0 20 <;> rfl
theorem more_err {c : CfgD} (h : (cfgErr c).1 = 0) (name : ByteArray) (tol : Int) : cfgErr (moreC c name tol) = if c.ents.length = 8 then (2, -1) else if entErr (c.ents.map (·.name)) (newE name tol) = 0 then (0, -1) else (entErr (c.ents.map (·.name)) (newE name tol), (c.ents.length : Int)) := by
  have hc := h
  unfold cfgErr at hc
  split at hc
  · rename_i hw
    have hw0 := hw
    unfold wholeErr at hw
    obtain ⟨q1, hw⟩ := firstOf_cons (by simp) hw
    obtain ⟨q2, hw⟩ := firstOf_cons (by simp) hw
    obtain ⟨q3, hw⟩ := firstOf_cons (by simp) hw
    obtain ⟨q4, hw⟩ := firstOf_cons (by simp) hw
    obtain ⟨q5, -⟩ := firstOf_cons (by simp) hw
    have q4' : c.ents.length ≤ 8 := by simpa using q4
    by_cases h8 : c.ents.length = 8
    · rw [if_pos h8]
      have : wholeErr (moreC c name tol) = 2 := by
        simp only [wholeErr, moreC, q1, q2, q3, List.length_append, h8]
        rfl
      unfold cfgErr
      rw [this]
      rfl
    · rw [if_neg h8]
      have : wholeErr (moreC c name tol) = 0 := by
        have e4 : decide (8 < (c.ents ++ [newE name tol]).length) = false := by rw [decide_eq_false_iff_not, List.length_append]; simp; omega
        unfold wholeErr
        show firstOf [(!(within c.closed 0 1000 && within c.opn 1 1000), 2), (!within c.cycle 1 100, 2), (!within c.delay 0 20, 2), (decide (8 < (c.ents ++ [newE name tol]).length), 2), (decide (c.opn < c.cycle), 3)] = 0
        rw [q1, q2, q3, e4, q5]
        rfl
      unfold cfgErr
      rw [this, if_pos rfl]
      show entsErr [] 0 (c.ents ++ [newE name tol]) = _
      rw [entsErr_more _ _ _ _ hc]
      simp
  · rename_i hw; exact absurd hc hw
theorem SlOwn.base {α : Type} {enc : α → List Value} {k : Nat} {T : TypeId} {B B' : Nat} {w : World} {v : Value} {xs : List α} (h : SlOwn enc k T B w v xs) (hB : B' ≤ B) : SlOwn enc k T B' w v xs := by
  rcases h with ⟨h1, h2 | ⟨g, cap, cur, h3, h4, h5⟩⟩
  · exact ⟨h1, Or.inl h2⟩
  · exact ⟨h1, Or.inr ⟨g, cap, cur, h3, Nat.le_trans hB h4, h5⟩⟩
theorem EntsOwn.base {B B' : Nat} {w : World} {v : Value} {es : List EntD} (h : EntsOwn B w v es) (hB : B' ≤ B) : EntsOwn B' w v es := by
  obtain ⟨cells, ho, hp⟩ := h
  refine ⟨cells, ?_, fun i e he => ?_⟩
  · rcases ho with ⟨h1, h2 | ⟨g, cap, cur, h3, h4, h5⟩⟩
    · exact ⟨h1, Or.inl h2⟩
    · exact ⟨h1, Or.inr ⟨g, cap, cur, h3, Nat.le_trans hB h4, h5⟩⟩
  · obtain ⟨pv, gv, ev, fv, lv, h1, h2⟩ := hp i e he
    exact ⟨pv, gv, ev, fv, lv, ⟨h1.hp.base hB, h1.hg.base hB, h1.he.base hB, h1.hf.base hB, h1.hl.base hB⟩, h2⟩
theorem newE_own (B : Nat) (w : World) (name : ByteArray) (tol : Int) : OwnParts B w (newE name tol) (.slice none 0 0) (.slice none 0 0) (.slice none 0 0) (.slice none 0 0) (.slice none 0 0) :=
  ⟨World.ownsRow_nil _ _ _ _, World.ownsRow_nil _ _ _ _, World.ownsRow_nil _ _ _ _, World.ownsRow_nil _ _ _ _, World.ownsRow_nil _ _ _ _⟩
theorem more_small {c : CfgD} (h : SmallC c) (hn : c.ents.length ≤ 12) {name : ByteArray} (hm : name.size ≤ 60) (tol : Int) : SmallC (moreC c name tol) := by
  refine ⟨by simp [moreC]; omega, fun e he => ?_⟩
  simp only [moreC, List.mem_append, List.mem_singleton] at he
  rcases he with he | rfl
  · exact h.he e he
  · exact ⟨by simp [newE]; omega, by simp [newE], by simp [newE], by simp [newE], by simp [newE], by simp [newE], by simp [newE]⟩
theorem entsErr_names : ∀ (l : List EntD) (a : List ByteArray) (i : Nat), (entsErr a i l).1 = 0 → ∀ e ∈ l, isName e.name = true
  | [], _, _, _, _, h => by simp at h
  | x :: l, a, i, h, e, he => by
    unfold entsErr at h
    split at h
    · rename_i h0
      rcases List.mem_cons.1 he with rfl | he
      · unfold entErr at h0
        split at h0
        · rename_i h1; exact absurd h0 h1
        · rename_i h1
          unfold nameErr at h1
          cases hn : isName e.name with
          | true => rfl
          | false => rw [hn] at h1; simp at h1
      · exact entsErr_names l _ _ h e he
    · rename_i h0; exact absurd h h0
theorem names_good {c : CfgD} (h : (cfgErr c).1 = 0) : ∀ e ∈ c.ents, isName e.name = true := by
  unfold cfgErr at h
  split at h
  · exact entsErr_names _ _ _ h
  · rename_i hw; exact absurd h hw
theorem entErr_met {es : List EntD} {name : ByteArray} {e : EntD} (he : e ∈ es) (hn : e.name = name) (hg : isName e.name = true) (tol : Int) : entErr (es.map (·.name)) (newE name tol) = 6 := by
  rw [entErr_new]
  have : nameErr (es.map (·.name)) name = 6 := by
    unfold nameErr
    rw [← hn, if_pos hg, if_pos (List.any_eq_true.2 ⟨e.name, List.mem_map.2 ⟨e, he, rfl⟩, by simp⟩)]
  rw [this, if_pos (by decide)]
theorem entErr_bad {a : List ByteArray} {name : ByteArray} (h : isName name = false) {tol : Int} : entErr a (newE name tol) = 4 := by
  rw [entErr_new]
  have : nameErr a name = 4 := by unfold nameErr; rw [h]; rfl
  rw [this, if_pos (by decide)]
theorem entErr_good {es : List EntD} {name : ByteArray} (h : isName name = true) (hn : ∀ q ∈ es, q.name ≠ name) (tol : Int) : entErr (es.map (·.name)) (newE name tol) = if within tol 0 20 then 0 else 2 := by
  rw [entErr_new]
  have : nameErr (es.map (·.name)) name = 0 := by
    unfold nameErr
    rw [if_pos h, if_neg]
    intro h2
    obtain ⟨x, hx, hx2⟩ := List.any_eq_true.1 h2
    obtain ⟨q, hq, rfl⟩ := List.mem_map.1 hx
    exact hn q hq (by simpa using hx2)
  rw [this, if_neg (by decide)]
theorem check_more (A : Nat → Addr) {c : CfgD} {name : ByteArray} {tol : Int} {W : World} {sa : Option Addr} {sc : Nat} (h12 : c.ents.length ≤ 12) (hn : name.size ≤ 60) (hS : SmallC c) (hs : Senv A W) (hE : EntsAt W (.slice sa (c.ents.length + 1) sc) (c.ents ++ [newE name tol])) : Calls Tryz.prog 9 #[.agg #[.int .i64 c.closed, .int .i64 c.opn, .int .i64 c.cycle, .int .i64 c.delay, .slice sa (c.ents.length + 1) sc]] W fun v w' => ∃ r, v = .returned r ∧ ErrAt A w' r (cfgErr (moreC c name tol)) ∧ Below W.heap.size W w' := by
  have e : (moreC c name tol).ents.length = c.ents.length + 1 := by simp [moreC]
  have h := check_at A (moreC c name tol) sa sc W hs (by rw [e]; exact hE) (more_small hS h12 hn tol)
  rw [e] at h
  exact h
theorem bytes_no {a b : ByteArray} (h : ¬ a = b) : (a.toList == b.toList) = false ∧ ¬ a.toList = b.toList := by
  have h2 : ¬ a.toList = b.toList := fun e => by
    rw [ByteArray.toList_eq, ByteArray.toList_eq] at e
    cases a with | mk x => cases b with | mk y =>
    exact h (by rw [show x = y from Array.ext' e])
  exact ⟨by simpa using h2, h2⟩
theorem coded_two (A : Nat → Addr) {r : Value} {W : World} (hs : Senv A W) (h : ErrAt A W r (2, -1)) : Calls Tryz.prog 11 #[r, .int .i64 2] W fun e w' => e = .returned (.bool true) ∧ Below W.heap.size W w' :=
  (coded_at A r (2, -1) 2 W hs h).mono (by rintro v w' ⟨rfl, hb⟩; exact ⟨rfl, hb⟩)
theorem faulted_yes (A : Nat → Addr) {r : Value} {W : World} {k n : Nat} {code : Int} (hs : Senv A W) (hk : (k : Int) = code) (h : ErrAt A W r (k, (n : Int))) : Calls Tryz.prog 12 #[r, .agg #[.int .i64 code, .int .i64 (n : Int)]] W fun e w' => e = .returned (.bool true) ∧ Below W.heap.size W w' :=
  (faulted_at A r (k, (n : Int)) code n W hs h).mono (by rintro v w' ⟨rfl, hb⟩; exact ⟨by simp [hk], hb⟩)
set_option maxHeartbeats 8000000 in
set_option maxRecDepth 100000 in
theorem more_at (A : Nat → Addr) (c : CfgD) (sa : Option Addr) (sc : Nat) (name : ByteArray) (tol : Int) (w : World) (hs : Senv A w) (hK : KwAt w) (hT : TabAt w) (hG : (max 12 16 + 1) ≤ w.heap.size) (hE : EntsAt w (.slice sa c.ents.length sc) c.ents) :
    Calls Tryz.prog 4 #[.agg #[.int .i64 c.closed, .int .i64 c.opn, .int .i64 c.cycle, .int .i64 c.delay, .slice sa c.ents.length sc], .string name, .int .i64 tol] w fun v w' => v = .returned (.bool true) ∧ Below w.heap.size w w' := by
  obtain ⟨inf, hi, hz0, hz1, hz2⟩ := info_parts Tryz.infoEnt
  have HE : Hid (EntsAt w (.slice sa c.ents.length sc) c.ents) := hE
  have HSv : Hid (Senv A w) := hs
  have HKT : Hid (KwAt w ∧ TabAt w ∧ (max 12 16 + 1) ≤ w.heap.size) := ⟨hK, hT, hG⟩
  clear hE hs hK hT hG
  go_enter Tryz.func4, Tryz.ntmps4
  go_upto_region 1 with fail
  obtain ⟨W0, hW0⟩ : ∃ V, V = w.alloc (.cells #[.int .i64 c.closed, .int .i64 c.opn, .int .i64 c.cycle, .int .i64 c.delay, .slice sa c.ents.length sc] 25) := ⟨_, rfl⟩
  rw [← hW0]
  have HX0 : Hid (W0.heap[w.heap.size]? = some (.cells #[.int .i64 c.closed, .int .i64 c.opn, .int .i64 c.cycle, .int .i64 c.delay, .slice sa c.ents.length sc] 25 (0, 0))) := by show _ = _; rw [hW0]; exact heap_alloc_new w _
  have HB0 : Hid (Below w.heap.size w W0) := by show Below _ _ _; rw [hW0]; exact Below.one _ _
  clear hW0
  have HTo : Hid _ := told_at A W0 (HSv.out.below HB0.out) (HKT.out.1.below HB0.out (Nat.lt_of_lt_of_le (show 12 < (max 12 16 + 1) by decide) HKT.out.2.2)) (HKT.out.2.1.below HB0.out HKT.out.2.2) (Nat.le_trans HKT.out.2.2 HB0.out.size)
  go_wp2_with fail
  refine Calls.mono HTo.out ?_
  rintro v W1 ⟨rfl, hb1⟩
  have HB1 : Hid (Below W0.heap.size W0 W1) := hb1
  have HX1 : Hid (W1.heap[w.heap.size]? = some (.cells #[.int .i64 c.closed, .int .i64 c.opn, .int .i64 c.cycle, .int .i64 c.delay, .slice sa c.ents.length sc] 25 (0, 0))) := row_below hb1 HX0.out
  have HBw1 : Hid (Below w.heap.size w W1) := HB0.out.trans (hb1.mono HB0.out.size)
  clear hb1 HTo
  have hc0 := heavyC_at c sa sc W1 (HE.out.below HBw1.out)
  have x10 : W1.cell? ⟨w.heap.size, 0, none⟩ = some (.int .i64 c.closed) := by have := HX1.out; simp [World.cell?, this]
  have x11 : W1.cell? ⟨w.heap.size, 1, none⟩ = some (.int .i64 c.opn) := by have := HX1.out; simp [World.cell?, this]
  have x12 : W1.cell? ⟨w.heap.size, 2, none⟩ = some (.int .i64 c.cycle) := by have := HX1.out; simp [World.cell?, this]
  have x13 : W1.cell? ⟨w.heap.size, 3, none⟩ = some (.int .i64 c.delay) := by have := HX1.out; simp [World.cell?, this]
  have x14 : W1.cell? ⟨w.heap.size, 4, none⟩ = some (.slice sa c.ents.length sc) := by have := HX1.out; simp [World.cell?, this]
  cases hh : heavyC c with
  | true =>
    rw [hh, show one01 true = 1 from rfl] at hc0
    have HC : Hid _ := hc0
    clear hc0 hh
    go_wp2_with fail
    refine Calls.mono HC.out ?_
    rintro v W2 ⟨rfl, hb2⟩
    go_wp2
    go_ret
    exact ⟨rfl, HBw1.out.trans (hb2.mono HBw1.out.size)⟩
  | false =>
    have HSm : Hid (SmallC c) := heavyC_small hh
    have H12 : Hid (c.ents.length ≤ 12) := by
      show _ ≤ _
      unfold heavyC at hh
      simp only [Bool.or_eq_false_iff, decide_eq_false_iff_not] at hh
      omega
    rw [hh, show one01 false = 0 from rfl] at hc0
    have HC : Hid _ := hc0
    clear hc0 hh
    by_cases hn : 60 < name.size
    · have g : (60 : Int) < (name.size : Int) := by omega
      clear hn
      go_wp2_with fail
      refine Calls.mono HC.out ?_
      rintro v W2 ⟨rfl, hb2⟩
      go_wp2
      go_ret
      exact ⟨rfl, HBw1.out.trans (hb2.mono HBw1.out.size)⟩
    have g : ¬ (60 : Int) < (name.size : Int) := by omega
    have HNm : Hid (name.size ≤ 60) := by show _ ≤ _; omega
    clear hn
    go_upto_region 4 with (refine Calls.mono HC.out ?_; rintro v W2 ⟨rfl, hb2⟩)
    have HX2 : Hid (W2.heap[w.heap.size]? = some (.cells #[.int .i64 c.closed, .int .i64 c.opn, .int .i64 c.cycle, .int .i64 c.delay, .slice sa c.ents.length sc] 25 (0, 0))) := row_below hb2 HX1.out
    have HBw2 : Hid (Below w.heap.size w W2) := HBw1.out.trans (hb2.mono HBw1.out.size)
    clear hb2 HC g HX1 HB1 HBw1 HX0 HB0 x10 x11 x12 x13 x14
    go_cut [30] (fun r wx => r = .bool (decide ((cfgErr c).1 ≠ 0)) ∧ Below w.heap.size w wx ∧ wx.heap[w.heap.size]? = some (.cells #[.int .i64 c.closed, .int .i64 c.opn, .int .i64 c.cycle, .int .i64 c.delay, .slice sa c.ents.length sc] 25 (0, 0)))
    case first =>
      have x20 : W2.cell? ⟨w.heap.size, 0, none⟩ = some (.int .i64 c.closed) := by have := HX2.out; simp [World.cell?, this]
      have x21 : W2.cell? ⟨w.heap.size, 1, none⟩ = some (.int .i64 c.opn) := by have := HX2.out; simp [World.cell?, this]
      have x22 : W2.cell? ⟨w.heap.size, 2, none⟩ = some (.int .i64 c.cycle) := by have := HX2.out; simp [World.cell?, this]
      have x23 : W2.cell? ⟨w.heap.size, 3, none⟩ = some (.int .i64 c.delay) := by have := HX2.out; simp [World.cell?, this]
      have x24 : W2.cell? ⟨w.heap.size, 4, none⟩ = some (.slice sa c.ents.length sc) := by have := HX2.out; simp [World.cell?, this]
      have HO1 : Hid _ := ownConfig_at c sa sc W2 (HE.out.below HBw2.out) HSm.out
      go_wp2_with fail
      refine Calls.mono HO1.out ?_
      rintro v W3 ⟨⟨sa1, sc1, rfl, hown⟩, hb3⟩
      have HBw3 : Hid (Below w.heap.size w W3) := HBw2.out.trans (hb3.mono HBw2.out.size)
      have HX3 : Hid (W3.heap[w.heap.size]? = some (.cells #[.int .i64 c.closed, .int .i64 c.opn, .int .i64 c.cycle, .int .i64 c.delay, .slice sa c.ents.length sc] 25 (0, 0))) := row_below hb3 HX2.out
      have HCk : Hid _ := check_at A c sa1 sc1 W3 (HSv.out.below HBw3.out) hown.ents HSm.out
      clear hown hb3 HO1 x20 x21 x22 x23 x24
      go_wp2_with fail
      refine Calls.mono HCk.out ?_
      rintro v W4 ⟨r, rfl, he, hb4⟩
      have HBw4 : Hid (Below w.heap.size w W4) := HBw3.out.trans (hb4.mono HBw3.out.size)
      have HX4 : Hid (W4.heap[w.heap.size]? = some (.cells #[.int .i64 c.closed, .int .i64 c.opn, .int .i64 c.cycle, .int .i64 c.delay, .slice sa c.ents.length sc] 25 (0, 0))) := row_below hb4 HX3.out
      by_cases h0 : (cfgErr c).1 = 0
      · obtain rfl := he.nil h0
        have HD : Hid (decide ((cfgErr c).1 ≠ 0) = false) := by show _ = _; simp [h0]
        clear hb4 HCk he h0
        go_wp2_with fail
        go_meet
        case rel => exact ⟨by first | rfl | (rw [HD.out]), HBw4.out, HX4.out⟩
      · obtain ⟨t, x, rfl⟩ := he.some h0
        have HD : Hid (decide ((cfgErr c).1 ≠ 0) = true) := by show _ = _; simp [h0]
        clear hb4 HCk he h0
        go_wp2_with fail
        go_meet
        case rel => exact ⟨by first | rfl | (rw [HD.out]), HBw4.out, HX4.out⟩
    obtain ⟨rfl, hbw4, hx4⟩ := hcut
    rename World => W4
    have HBw4 : Hid (Below w.heap.size w W4) := hbw4
    have HX4 : Hid (W4.heap[w.heap.size]? = some (.cells #[.int .i64 c.closed, .int .i64 c.opn, .int .i64 c.cycle, .int .i64 c.delay, .slice sa c.ents.length sc] 25 (0, 0))) := hx4
    clear hbw4 hx4 HX2 HBw2
    by_cases h0 : (cfgErr c).1 = 0
    · rw [show decide ((cfgErr c).1 ≠ 0) = false by simp [h0]]
      have H0 : Hid ((cfgErr c).1 = 0) := h0
      clear h0
      go_upto_region 6 with fail
      go_cut [8] (fun r wx => ∃ mb sa2 sc2, r = .pointer (some ⟨mb, 0, none⟩) ∧ mb ≠ w.heap.size ∧ w.heap.size ≤ mb ∧ wx.heap[mb]? = some (.cells #[.int .i64 c.closed, .int .i64 c.opn, .int .i64 c.cycle, .int .i64 c.delay, .slice sa2 c.ents.length sc2] 25 (0, 0)) ∧ EntsOwn w.heap.size wx (.slice sa2 c.ents.length sc2) c.ents ∧ Below w.heap.size w wx ∧ wx.heap[w.heap.size]? = some (.cells #[.int .i64 c.closed, .int .i64 c.opn, .int .i64 c.cycle, .int .i64 c.delay, .slice sa c.ents.length sc] 25 (0, 0)))
      case first =>
        have x40 : W4.cell? ⟨w.heap.size, 0, none⟩ = some (.int .i64 c.closed) := by have := HX4.out; simp [World.cell?, this]
        have x41 : W4.cell? ⟨w.heap.size, 1, none⟩ = some (.int .i64 c.opn) := by have := HX4.out; simp [World.cell?, this]
        have x42 : W4.cell? ⟨w.heap.size, 2, none⟩ = some (.int .i64 c.cycle) := by have := HX4.out; simp [World.cell?, this]
        have x43 : W4.cell? ⟨w.heap.size, 3, none⟩ = some (.int .i64 c.delay) := by have := HX4.out; simp [World.cell?, this]
        have x44 : W4.cell? ⟨w.heap.size, 4, none⟩ = some (.slice sa c.ents.length sc) := by have := HX4.out; simp [World.cell?, this]
        have HO2 : Hid _ := ownConfig_at c sa sc W4 (HE.out.below HBw4.out) HSm.out
        go_wp2_with fail
        refine Calls.mono HO2.out ?_
        rintro v W5 ⟨⟨sa2, sc2, rfl, hown⟩, hb5⟩
        have HBw5 : Hid (Below w.heap.size w W5) := HBw4.out.trans (hb5.mono HBw4.out.size)
        have HX5 : Hid (W5.heap[w.heap.size]? = some (.cells #[.int .i64 c.closed, .int .i64 c.opn, .int .i64 c.cycle, .int .i64 c.delay, .slice sa c.ents.length sc] 25 (0, 0))) := row_below hb5 HX4.out
        have HOwn5 : Hid (EntsOwn w.heap.size W5 (.slice sa2 c.ents.length sc2) c.ents) := hown.base HBw4.out.size
        have HLt : Hid (w.heap.size < W5.heap.size) := lt_of_row HX5.out
        clear hown hb5 HO2 x40 x41 x42 x43 x44
        go_wp2_with fail
        go_meet
        case rel => exact ⟨W5.heap.size, sa2, sc2, rfl, by have := HLt.out; omega, HBw5.out.size, heap_alloc_new _ _, HOwn5.out.below (Below.one _ _), HBw5.out.alloc HBw5.out.size _, row_below (Below.one _ _) HX5.out⟩
      obtain ⟨mb, sa2, sc2, rfl, hne, hmb, hm, hown, hbw6, hx6⟩ := hcut
      rename World => W6
      have HMx : Hid (mb ≠ w.heap.size ∧ w.heap.size ≤ mb) := ⟨hne, hmb⟩
      have HM6 : Hid (W6.heap[mb]? = some (.cells #[.int .i64 c.closed, .int .i64 c.opn, .int .i64 c.cycle, .int .i64 c.delay, .slice sa2 c.ents.length sc2] 25 (0, 0))) := hm
      have HOwn6 : Hid (EntsOwn w.heap.size W6 (.slice sa2 c.ents.length sc2) c.ents) := hown
      have HBw6 : Hid (Below w.heap.size w W6) := hbw6
      have HX6 : Hid (W6.heap[w.heap.size]? = some (.cells #[.int .i64 c.closed, .int .i64 c.opn, .int .i64 c.cycle, .int .i64 c.delay, .slice sa c.ents.length sc] 25 (0, 0))) := hx6
      clear hne hmb hm hown hbw6 hx6 HX4 HBw4
      go_upto_region 7 with fail
      go_cut [39] (fun _ wx => ∃ sa3 sc3, wx.heap[mb]? = some (.cells #[.int .i64 c.closed, .int .i64 c.opn, .int .i64 c.cycle, .int .i64 c.delay, .slice sa3 (c.ents.length + 1) sc3] 25 (0, 0)) ∧ EntsOwn w.heap.size wx (.slice sa3 (c.ents.length + 1) sc3) (c.ents ++ [newE name tol]) ∧ Below w.heap.size w wx ∧ wx.heap[w.heap.size]? = some (.cells #[.int .i64 c.closed, .int .i64 c.opn, .int .i64 c.cycle, .int .i64 c.delay, .slice sa c.ents.length sc] 25 (0, 0)))
      case first =>
        have m4 : W6.cell? ⟨mb, 4, none⟩ = some (.slice sa2 c.ents.length sc2) := by have := HM6.out; simp [World.cell?, this]
        obtain ⟨W7, hW7⟩ : ∃ V, V = W6.alloc (.cells #[.string name, .int .i64 tol, .slice none 0 0, .int .i64 (-1), .int .i64 0, .int .i64 0, .slice none 0 0, .slice none 0 0, .slice none 0 0, .slice none 0 0] 41) := ⟨_, rfl⟩
        have hb7 : Below W6.heap.size W6 W7 := by rw [hW7]; exact Below.one _ _
        have HM7 : Hid (W7.heap[mb]? = some (.cells #[.int .i64 c.closed, .int .i64 c.opn, .int .i64 c.cycle, .int .i64 c.delay, .slice sa2 c.ents.length sc2] 25 (0, 0))) := row_below hb7 HM6.out
        have HX7 : Hid (W7.heap[w.heap.size]? = some (.cells #[.int .i64 c.closed, .int .i64 c.opn, .int .i64 c.cycle, .int .i64 c.delay, .slice sa c.ents.length sc] 25 (0, 0))) := row_below hb7 HX6.out
        obtain ⟨cells, hrow, hpp⟩ := HOwn6.out.below hb7
        have HRow : Hid (W7.ownsRow w.heap.size 41 10 (.slice sa2 c.ents.length sc2) c.ents.length cells) := hrow
        have HPP : Hid _ := hpp
        have HNew : Hid (∀ (j : Nat) u, ([.string name, .int .i64 tol, .slice none 0 0, .int .i64 (-1), .int .i64 0, .int .i64 0, .slice none 0 0, .slice none 0 0, .slice none 0 0, .slice none 0 0] : List Value)[j]? = some u → W7.cell? ((⟨W6.heap.size, 0, none⟩ : Addr).add j) = some u) := fun j u hu => by
          rw [addC_plain, hW7, Nat.zero_add, World.cell?_alloc_at _ _ _ _ rfl]
          have e2 : (#[.string name, .int .i64 tol, .slice none 0 0, .int .i64 (-1), .int .i64 0, .int .i64 0, .slice none 0 0, .slice none 0 0, .slice none 0 0, .slice none 0 0] : Array Value)[j]? = ([.string name, .int .i64 tol, .slice none 0 0, .int .i64 (-1), .int .i64 0, .int .i64 0, .slice none 0 0, .slice none 0 0, .slice none 0 0, .slice none 0 0] : List Value)[j]? := by rw [← Array.getElem?_toList]
          exact e2.trans hu
        have HBw7 : Hid (Below w.heap.size w W7) := HBw6.out.trans (hb7.mono HBw6.out.size)
        have HW7 : Hid (W7 = W6.alloc (.cells #[.string name, .int .i64 tol, .slice none 0 0, .int .i64 (-1), .int .i64 0, .int .i64 0, .slice none 0 0, .slice none 0 0, .slice none 0 0, .slice none 0 0] 41)) := hW7
        have HNe : Hid ((Value.slice sa2 c.ents.length sc2).ownBlock ≠ some mb ∧ (Value.slice sa2 c.ents.length sc2).ownBlock ≠ some w.heap.size) := by
          rcases HRow.out.2 with ⟨e1, _⟩ | ⟨g, cap, cur, e1, _, hg', _⟩
          · rw [e1]; exact ⟨by simp [Value.ownBlock], by simp [Value.ownBlock]⟩
          · rw [e1]
            refine ⟨fun e2 => ?_, fun e2 => ?_⟩
            · simp only [Value.ownBlock, Option.some.injEq] at e2
              rw [e2, HM7.out] at hg'
              simp only [Option.some.injEq, Obj.cells.injEq] at hg'
              exact absurd hg'.2.1 (by decide)
            · simp only [Value.ownBlock, Option.some.injEq] at e2
              rw [e2, HX7.out] at hg'
              simp only [Option.some.injEq, Obj.cells.injEq] at hg'
              exact absurd hg'.2.1 (by decide)
        have HL12 : c.ents.length ≤ 12 := H12.out
        clear hrow hpp hb7 hW7
        go_wp2_with (at_builtin; rw [← HW7.out]; refine wpList_append_own W7 rfl _ _ 23 rfl w.heap.size 41 inf (.agg #[.string ⟨#[]⟩, .int .i64 0, .slice none 0 0, .int .i64 0, .int .i64 0, .int .i64 0, .slice none 0 0, .slice none 0 0, .slice none 0 0, .slice none 0 0]) 10 168 Tryz.underlying23 hi hz0 hz1 hz2 rfl (by decide) (.slice sa2 c.ents.length sc2) c.ents.length cells rfl HRow.out ⟨W6.heap.size, 0, none⟩ 1 1 [.string name, .int .i64 tol, .slice none 0 0, .int .i64 (-1), .int .i64 0, .int .i64 0, .slice none 0 0, .slice none 0 0, .slice none 0 0, .slice none 0 0] rfl rfl HNew.out (by simp [Value.oneCell']) (by unfold maxLen; omega) (by omega) HBw7.out.size ?_; intro v' W2 ho2 hg2 hn2; obtain ⟨sa3, sc3, rfl⟩ : ∃ a3 c3, v' = .slice a3 (c.ents.length + 1) c3 := (by rcases ho2.2 with ⟨_, h0⟩ | ⟨g, cap, cur, hv, _⟩; (exact absurd h0 (by omega)); exact ⟨_, _, hv⟩); have HM2 : Hid (W2.heap[mb]? = some (.cells #[.int .i64 c.closed, .int .i64 c.opn, .int .i64 c.cycle, .int .i64 c.delay, .slice sa2 c.ents.length sc2] 25 (0, 0))) := (hg2.block _ (lt_of_row HM7.out) (fun e => HNe.out.1 e.symm)).trans HM7.out; have HX2 : Hid (W2.heap[w.heap.size]? = some (.cells #[.int .i64 c.closed, .int .i64 c.opn, .int .i64 c.cycle, .int .i64 c.delay, .slice sa c.ents.length sc] 25 (0, 0))) := (hg2.block _ (lt_of_row HX7.out) (fun e => HNe.out.2 e.symm)).trans HX7.out; have HN : Hid (EntsOwn w.heap.size W2 (.slice sa3 (c.ents.length + 1) sc3) (c.ents ++ [newE name tol])) := EntsOwn.append HRow.out HPP.out hg2 ho2 (newE_own _ _ _ _); have HB2 : Hid (Below w.heap.size w W2) := HBw7.out.grown hg2 HBw7.out.size (fun g hg => (by
            rcases HRow.out.2 with ⟨e1, _⟩ | ⟨g', cap, cur, e1, hB', _⟩
            · rw [e1] at hg; simp [Value.ownBlock] at hg
            · rw [e1] at hg; simp [Value.ownBlock] at hg; omega)); clear ho2 hg2 hn2; have d4 : W2.cell? ⟨mb, 4, none⟩ = some (.slice sa2 c.ents.length sc2) := (by have := HM2.out; simp [World.cell?, this]); have f4 : W2.frozen? ⟨mb, 4, none⟩ = false := (by have := HM2.out; simp [World.frozen?, this]))
        have HG2 : Hid _ := grown_setCell W2 mb 4 (.slice sa3 (c.ents.length + 1) sc3)
        clear d4 f4
        go_meet
        case rel =>
          refine ⟨sa3, sc3, ?_, HN.out.other HG2.out HM2.out, HB2.out.grown HG2.out HB2.out.size (fun j hj => by cases hj; exact HMx.out.2), (HG2.out.block _ (lt_of_row HX2.out) (by have := HMx.out.1; simp; omega)).trans HX2.out⟩
          have := HM2.out
          simp [World.setCell, Array.getElem?_modify, this]
      obtain ⟨sa3, sc3, hm, hown, hbw7, hx7⟩ := hcut
      rename World => W7
      have HM7 : Hid (W7.heap[mb]? = some (.cells #[.int .i64 c.closed, .int .i64 c.opn, .int .i64 c.cycle, .int .i64 c.delay, .slice sa3 (c.ents.length + 1) sc3] 25 (0, 0))) := hm
      have HOwn7 : Hid (EntsOwn w.heap.size W7 (.slice sa3 (c.ents.length + 1) sc3) (c.ents ++ [newE name tol])) := hown
      have HBw7 : Hid (Below w.heap.size w W7) := hbw7
      have HX7 : Hid (W7.heap[w.heap.size]? = some (.cells #[.int .i64 c.closed, .int .i64 c.opn, .int .i64 c.cycle, .int .i64 c.delay, .slice sa c.ents.length sc] 25 (0, 0))) := hx7
      clear hm hown hbw7 hx7 HM6 HOwn6 HBw6 HX6
      go_upto_region 8 with fail
      go_cut [9] (fun r wx => ErrAt A wx r (cfgErr (moreC c name tol)) ∧ Below w.heap.size w wx ∧ wx.heap[w.heap.size]? = some (.cells #[.int .i64 c.closed, .int .i64 c.opn, .int .i64 c.cycle, .int .i64 c.delay, .slice sa c.ents.length sc] 25 (0, 0)))
      case first =>
        have m70 : W7.cell? ⟨mb, 0, none⟩ = some (.int .i64 c.closed) := by have := HM7.out; simp [World.cell?, this]
        have m71 : W7.cell? ⟨mb, 1, none⟩ = some (.int .i64 c.opn) := by have := HM7.out; simp [World.cell?, this]
        have m72 : W7.cell? ⟨mb, 2, none⟩ = some (.int .i64 c.cycle) := by have := HM7.out; simp [World.cell?, this]
        have m73 : W7.cell? ⟨mb, 3, none⟩ = some (.int .i64 c.delay) := by have := HM7.out; simp [World.cell?, this]
        have m74 : W7.cell? ⟨mb, 4, none⟩ = some (.slice sa3 (c.ents.length + 1) sc3) := by have := HM7.out; simp [World.cell?, this]
        have HCk : Hid (Calls Tryz.prog 9 #[.agg #[.int .i64 c.closed, .int .i64 c.opn, .int .i64 c.cycle, .int .i64 c.delay, .slice sa3 (c.ents.length + 1) sc3]] W7 fun v w' => ∃ r, v = .returned r ∧ ErrAt A w' r (cfgErr (moreC c name tol)) ∧ Below W7.heap.size W7 w') := check_more A H12.out HNm.out HSm.out (HSv.out.below HBw7.out) HOwn7.out.ents
        go_wp2_with fail
        refine Calls.mono HCk.out ?_
        rintro v W8 ⟨r, rfl, he, hb8⟩
        have HEr : Hid (ErrAt A W8 r (cfgErr (moreC c name tol))) := he
        have HBw8 : Hid (Below w.heap.size w W8) := HBw7.out.trans (hb8.mono HBw7.out.size)
        have HX8 : Hid (W8.heap[w.heap.size]? = some (.cells #[.int .i64 c.closed, .int .i64 c.opn, .int .i64 c.cycle, .int .i64 c.delay, .slice sa c.ents.length sc] 25 (0, 0))) := row_below hb8 HX7.out
        clear he hb8
        go_wp2_with fail
        go_meet
        case rel => exact ⟨HEr.out, HBw8.out, HX8.out⟩
      obtain ⟨her, hbw8, hx8⟩ := hcut
      rename World => W8
      have x84 : W8.cell? ⟨w.heap.size, 4, none⟩ = some (.slice sa c.ents.length sc) := by simp [World.cell?, hx8]
      have HBw8 : Hid (Below w.heap.size w W8) := hbw8
      have HX8 : Hid (W8.heap[w.heap.size]? = some (.cells #[.int .i64 c.closed, .int .i64 c.opn, .int .i64 c.cycle, .int .i64 c.delay, .slice sa c.ents.length sc] 25 (0, 0))) := hx8
      have HEr : Hid (ErrAt A W8 u9 (cfgErr (moreC c name tol))) := her
      have HS8 : Hid (Senv A W8) := HSv.out.below HBw8.out
      clear her hbw8 hx8 HM7 HOwn7 HBw7 HX7 HMx
      by_cases h8 : c.ents.length = 8
      · have g8 : (c.ents.length : Int) = 8 := by omega
        have HC : Hid _ := coded_two (r := u9) (W := W8) A HS8.out (by have := HEr.out; rwa [more_err H0.out, if_pos h8] at this)
        clear h8
        go_wp2_with fail
        refine Calls.mono HC.out ?_
        rintro v W9 ⟨rfl, hb9⟩
        go_wp2
        go_ret
        exact ⟨rfl, HBw8.out.trans (hb9.mono HBw8.out.size)⟩
      have g8 : ¬ (c.ents.length : Int) = 8 := by omega
      have HEr8 : Hid (ErrAt A W8 u9 (if entErr (c.ents.map (·.name)) (newE name tol) = 0 then (0, -1) else (entErr (c.ents.map (·.name)) (newE name tol), (c.ents.length : Int)))) := by
        have := HEr.out; rwa [more_err H0.out, if_neg h8] at this
      clear h8 HEr
      go_wp2_with fail
      go_loopw [11] (fun i wr => ∃ k : Nat, k ≤ c.ents.length ∧ i = .int .i64 k ∧ wr = W8 ∧ Hid (∀ (j : Nat) q, j < k → c.ents[j]? = some q → q.name ≠ name)) (fun i _ => c.ents.length - (intOf i).toNat)
      case atStart => exact ⟨0, Nat.zero_le _, rfl, rfl, fun j q hj => absurd hj (Nat.not_lt_zero _)⟩
      case round =>
        obtain ⟨k, hk, rfl, rfl, hall⟩ := hrel
        by_cases hlt : k < c.ents.length
        · obtain ⟨e, hq⟩ : ∃ e, c.ents[k]? = some e := ⟨_, List.getElem?_eq_getElem hlt⟩
          obtain ⟨sa2, cap2, hsl, hcc⟩ := HE.out
          cases hsl
          obtain ⟨b, o, rfl, hc0⟩ := hcc (fun h => by rw [h] at hq; simp at hq)
          obtain ⟨pv, gv, ev, fv, lv, hparts, hcell⟩ := hc0 k e hq
          have c0 : wr.cell? ⟨b, o + k * 10, none⟩ = some (.string e.name) := cell_below HBw8.out (hcell 0 _ rfl)
          have HQ : Hid (c.ents[k]? = some e) := hq
          have k1 : (k : Int) < (c.ents.length : Int) := by omega
          have k2 : (0 : Int) ≤ (k : Int) := by omega
          have k0 : k < 12 := by have := H12.out; omega
          clear hq hcell hparts hcc hc0
          by_cases hen : e.name = name
          · have HC : Hid _ := faulted_yes (r := u9) (W := wr) (k := 6) (n := c.ents.length) (code := 6) A HS8.out rfl (by
              have := HEr8.out
              have h6 : entErr (c.ents.map (·.name)) (newE name tol) = 6 := entErr_met (List.mem_of_getElem? HQ.out) hen (names_good H0.out e (List.mem_of_getElem? HQ.out)) tol
              rwa [h6, if_neg (by decide)] at this)
            go_wp2_with fail
            refine Calls.mono HC.out ?_
            rintro v W9 ⟨rfl, hb9⟩
            go_wp2
            go_ret
            exact ⟨rfl, HBw8.out.trans (hb9.mono HBw8.out.size)⟩
          · have HNn : Hid (e.name ≠ name) := hen
            obtain ⟨q1, q2⟩ := bytes_no hen
            go_wp2
            go_roundw
            case rel =>
              refine ⟨k + 1, by omega, by go_num, by first | rfl | trivial, fun j q' hj he => ?_⟩
              by_cases hjk : j = k
              · subst hjk
                have h2 := HQ.out
                rw [h2] at he
                cases he
                exact HNn.out
              · exact hall.out j q' (by omega) he
            case measure => simp [intOf]; omega
        · have k1 : ¬ (k : Int) < (c.ents.length : Int) := by omega
          have HNo : Hid (∀ q ∈ c.ents, q.name ≠ name) := fun q hq => by
            obtain ⟨j, hj, rfl⟩ := List.getElem_of_mem hq
            exact hall.out j _ (by omega) (List.getElem?_eq_getElem hj)
          have HRn := rName_at name wr (by have := HNm.out; omega)
          cases hin : isName name with
          | false =>
            rw [hin] at HRn
            have HR : Hid _ := HRn
            have HC : Hid _ := faulted_yes (r := u9) (W := wr) (k := 4) (n := c.ents.length) (code := 4) A HS8.out rfl (by
              have := HEr8.out
              rwa [entErr_bad hin, if_neg (by decide)] at this)
            clear HRn hin
            go_wp2_with fail
            refine Calls.mono HR.out ?_
            rintro v _ ⟨rfl, rfl⟩
            go_wp2_with fail
            refine Calls.mono HC.out ?_
            rintro v W9 ⟨rfl, hb9⟩
            go_wp2
            go_ret
            exact ⟨rfl, HBw8.out.trans (hb9.mono HBw8.out.size)⟩
          | true =>
            rw [hin] at HRn
            have HR : Hid _ := HRn
            have HEn : Hid (entErr (c.ents.map (·.name)) (newE name tol) = if within tol 0 20 then 0 else 2) := entErr_good hin HNo.out tol
            clear HRn hin
            by_cases h0 : tol < 0
            · have HC : Hid _ := faulted_yes (r := u9) (W := wr) (k := 2) (n := c.ents.length) (code := 2) A HS8.out rfl (by
                have := HEr8.out
                rwa [HEn.out, show within tol 0 20 = false by simp [within]; omega, if_neg (by decide)] at this)
              go_wp2_with fail
              refine Calls.mono HR.out ?_
              rintro v _ ⟨rfl, rfl⟩
              go_wp2_with fail
              refine Calls.mono HC.out ?_
              rintro v W9 ⟨rfl, hb9⟩
              go_wp2
              go_ret
              exact ⟨rfl, HBw8.out.trans (hb9.mono HBw8.out.size)⟩
            by_cases h20 : 20 < tol
            · have HC : Hid _ := faulted_yes (r := u9) (W := wr) (k := 2) (n := c.ents.length) (code := 2) A HS8.out rfl (by
                have := HEr8.out
                rwa [HEn.out, show within tol 0 20 = false by simp [within]; omega, if_neg (by decide)] at this)
              go_wp2_with fail
              refine Calls.mono HR.out ?_
              rintro v _ ⟨rfl, rfl⟩
              go_wp2_with fail
              refine Calls.mono HC.out ?_
              rintro v W9 ⟨rfl, hb9⟩
              go_wp2
              go_ret
              exact ⟨rfl, HBw8.out.trans (hb9.mono HBw8.out.size)⟩
            obtain rfl : u9 = .nilIface := by
              have := HEr8.out
              rw [HEn.out, show within tol 0 20 = true by simp [within]; omega, if_pos rfl] at this
              exact this.nil rfl
            go_wp2_with fail
            refine Calls.mono HR.out ?_
            rintro v _ ⟨rfl, rfl⟩
            go_wp2
            go_ret
            exact ⟨rfl, HBw8.out⟩
    · rw [show decide ((cfgErr c).1 ≠ 0) = true by simp [h0]]
      clear h0
      go_wp2
      go_ret
      exact ⟨rfl, HBw4.out⟩
end Go.Proofs.YthcclmibcfhckabGreatDoor
