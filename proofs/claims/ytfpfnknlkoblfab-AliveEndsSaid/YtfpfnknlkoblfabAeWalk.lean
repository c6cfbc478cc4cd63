/-
  nightwatchlaw2.AliveEnds told by a contract: it answers true; nothing that was there turns. Conditions: what it is handed lies in memory.
-/
import Derived.Test.YtfpfnknlkoblfabAmWalk
import Derived.Test.YtfpfnknlkoblfabCfOwn
import Derived.Test.YtfpfnknlkoblfabCfHeavyE
namespace Go.Proofs.Ytfpfnknlkoblfab
open Go.RowKit Go.Extern.Stop Go.Stop Go.Extern

/-- A report as it is handed in. -/
structure RepD where
  pt : Int
  later : Int
  en : Bool
def encR (r : RepD) : List Value := [.int .i64 r.pt, .int .i64 r.later, .bool r.en]
def encB (x : Bool) : List Value := [.bool x]

/-- The bools of the walk's last test. -/
theorem well_same (C x y wv : Bool) (p : Int) (h : C = !decide (p = -1)) : ((x && y) || !wv || decide (p = -1)) = (!C || !wv || (x && y)) := by
  subst h
  cases decide (p = -1) <;> cases x <;> cases y <;> cases wv <;> rfl

set_option maxHeartbeats 8000000 in
set_option maxRecDepth 100000 in
theorem ends_in (e : EntD) (pa ga ea fa la : Option Addr) (pc gc ec fc lc : Nat) (sl : Option Addr) (reps : List RepD) (slc : Nat) (sw : Option Addr) (bs : List Bool) (swc : Nat) (w : World) (hP : EntParts w e (.slice pa e.pts.length pc) (.slice ga e.gaps.length gc) (.slice ea e.edges.length ec) (.slice fa e.first.length fc) (.slice la e.last.length lc))
    (hR : SlAt encR 3 w (.slice sl reps.length slc) reps) (hB : SlAt encB 1 w (.slice sw bs.length swc) bs) (hh : heavyE e = false) (h100 : reps.length ≤ 100) :
    Calls Try.prog 4 #[.agg #[.string e.name, .int .i64 e.tol, .slice pa e.pts.length pc, .int .i64 e.cnt, .int .i64 e.mn, .int .i64 e.mx, .slice ga e.gaps.length gc, .slice ea e.edges.length ec, .slice fa e.first.length fc, .slice la e.last.length lc], .slice sl reps.length slc, .slice sw bs.length swc] w fun v w' => v = .returned (.bool true) ∧ Below w.heap.size w w' := by
  have HH : Hid (SmallE e) := heavyE_small hh
  have hh0 : one01 (heavyE e) = 0 := by rw [hh]; rfl
  have HP : Hid (∀ V, Below w.heap.size w V → EntParts V e (.slice pa e.pts.length pc) (.slice ga e.gaps.length gc) (.slice ea e.edges.length ec) (.slice fa e.first.length fc) (.slice la e.last.length lc)) := fun V hV => hP.below hV
  have HR : Hid (SlAt encR 3 w (.slice sl reps.length slc) reps) := hR
  have HB : Hid (SlAt encB 1 w (.slice sw bs.length swc) bs) := hB
  have H100 : Hid (reps.length ≤ 100) := h100
  have g1 : ¬ 100 < (reps.length : Int) := by omega
  clear hP hR hB hh h100
  go_enter Try.func4, Try.ntmps4
  go_wp2_with fail
  refine (counts_any _).mono ?_
  rintro v w1 ⟨rfl, hb1⟩
  have HX1 : Hid (w1.heap[w.heap.size]? = some (.cells #[.string e.name, .int .i64 e.tol, .slice pa e.pts.length pc, .int .i64 e.cnt, .int .i64 e.mn, .int .i64 e.mx, .slice ga e.gaps.length gc, .slice ea e.edges.length ec, .slice fa e.first.length fc, .slice la e.last.length lc] 30 (0, 0))) := row_below hb1 (by show (w.heap.push _)[w.heap.size]? = _; simp)
  have HB1 : Hid (Below w.heap.size w w1) := (Below.one _ _).trans (hb1.mono (by simp))
  clear hb1
  have y : ∀ (j : Nat) u, (#[.string e.name, .int .i64 e.tol, .slice pa e.pts.length pc, .int .i64 e.cnt, .int .i64 e.mn, .int .i64 e.mx, .slice ga e.gaps.length gc, .slice ea e.edges.length ec, .slice fa e.first.length fc, .slice la e.last.length lc] : Array Value)[j]? = some u → w1.cell? ⟨w.heap.size, j, none⟩ = some u := fun j u hu => by simp [World.cell?, HX1.out, hu]
  have y0 := y 0 _ rfl
  have y1 := y 1 _ rfl
  have y2 := y 2 _ rfl
  have y3 := y 3 _ rfl
  have y4 := y 4 _ rfl
  have y5 := y 5 _ rfl
  have y6 := y 6 _ rfl
  have y7 := y 7 _ rfl
  have y8 := y 8 _ rfl
  have y9 := y 9 _ rfl
  clear y
  go_wp2_with fail
  clear y0 y1 y2 y3 y4 y5 y6 y7 y8 y9
  refine (heavyE_at e pa ga ea fa la pc gc ec fc lc _ (HP.out _ HB1.out).hp).mono ?_
  rintro v w2 ⟨rfl, hb2⟩
  rw [hh0]
  have HX2 : Hid (w2.heap[w.heap.size]? = some (.cells #[.string e.name, .int .i64 e.tol, .slice pa e.pts.length pc, .int .i64 e.cnt, .int .i64 e.mn, .int .i64 e.mx, .slice ga e.gaps.length gc, .slice ea e.edges.length ec, .slice fa e.first.length fc, .slice la e.last.length lc] 30 (0, 0))) := row_below hb2 HX1.out
  have HB2 : Hid (Below w.heap.size w w2) := HB1.out.trans (hb2.mono HB1.out.size)
  clear hb2 HX1 HB1
  go_wp2_with (refine wpList_load_row rfl 30 _ rfl w.heap.size rfl _ _ _ _ HX2.out Try.underlying30 rfl Try.sizeEnt ?_)
  refine (ownEntity_at w2.heap.size e pa ga ea fa la pc gc ec fc lc _ (HP.out _ HB2.out) HH.out (Nat.le_refl _)).mono ?_
  rintro v w3 ⟨⟨pa', pc', ga', gc', ea', ec', fa', fc', la', lc', rfl, -⟩, hb3⟩
  have HX3 : Hid (w3.heap[w.heap.size]? = some (.cells #[.string e.name, .int .i64 e.tol, .slice pa e.pts.length pc, .int .i64 e.cnt, .int .i64 e.mn, .int .i64 e.mx, .slice ga e.gaps.length gc, .slice ea e.edges.length ec, .slice fa e.first.length fc, .slice la e.last.length lc] 30 (0, 0))) := row_below hb3 HX2.out
  have HB3 : Hid (Below w.heap.size w w3) := HB2.out.trans (hb3.mono HB2.out.size)
  clear hb3 HX2 HB2
  go_wp2_with fail
  refine (al_new _ _ _ _ _ _ _ _ _ _ _ _ _).mono ?_
  rintro v w4 ⟨b, rfl, h4⟩
  have HD4 : Hid (AlIn w3 w4 b ⟨ptOf e.cnt e.pts.length, e.mn, e.mx, 0⟩) := h4
  have HBW : Hid (∀ V, Below w3.heap.size w3 V → Below w.heap.size w V) := fun V hV => HB3.out.trans (hV.mono HB3.out.size)
  have HXW : Hid (∀ V, Below w3.heap.size w3 V → ∀ (j : Nat) u, (#[.string e.name, .int .i64 e.tol, .slice pa e.pts.length pc, .int .i64 e.cnt, .int .i64 e.mn, .int .i64 e.mx, .slice ga e.gaps.length gc, .slice ea e.edges.length ec, .slice fa e.first.length fc, .slice la e.last.length lc] : Array Value)[j]? = some u → V.cell? ⟨w.heap.size, j, none⟩ = some u) := fun V hV j u hu => by
    have := row_below hV HX3.out
    simp [World.cell?, this, hu]
  clear h4 HX3 HB3
  have x2 := HXW.out w4 HD4.out.bel 2 _ rfl
  have x3 := HXW.out w4 HD4.out.bel 3 _ rfl
  go_upto_region 8 with fail
  go_cut [10, 9, 33, 34, 35, 36, 37, 38, 39, 40, 41, 42, 43] (fun c m _ _ _ _ _ _ _ _ _ _ _ wx => ∃ C : Bool, C = !decide (ptOf e.cnt e.pts.length = -1) ∧ (C = true → ptOf e.cnt e.pts.length = e.cnt) ∧ c = .bool C ∧ m = .int .i64 0 ∧ wx = w4)
  case first =>
    by_cases h0 : 0 ≤ e.cnt
    · by_cases h1 : e.cnt < (e.pts.length : Int)
      · have HC : Hid (ptOf e.cnt e.pts.length = e.cnt) := by show _ = _; unfold ptOf; rw [if_neg (by omega)]
        have HN : Hid (true = !decide (ptOf e.cnt e.pts.length = -1)) := by show _ = _; rw [HC.out, decide_eq_false (by omega)]; rfl
        go_wp2_with fail
        go_meet
        case rel => exact ⟨true, HN.out, fun _ => HC.out, rfl, rfl, rfl⟩
      · have HC : Hid (false = !decide (ptOf e.cnt e.pts.length = -1)) := by show _ = _; unfold ptOf; rw [if_pos (by omega)]; rfl
        go_wp2_with fail
        go_meet
        case rel => exact ⟨false, HC.out, (fun h => by cases h), rfl, rfl, rfl⟩
    · have HC : Hid (false = !decide (ptOf e.cnt e.pts.length = -1)) := by show _ = _; unfold ptOf; rw [if_pos (by omega)]; rfl
      go_wp2_with fail
      go_meet
      case rel => exact ⟨false, HC.out, (fun h => by cases h), rfl, rfl, rfl⟩
  clear x2 x3
  obtain ⟨C, hC, hCt, rfl, rfl, rfl⟩ := hcut
  have HC : Hid (C = !decide (ptOf e.cnt e.pts.length = -1)) := hC
  have HCt : Hid (C = true → ptOf e.cnt e.pts.length = e.cnt) := hCt
  clear hC hCt
  obtain ⟨P, hPP⟩ : ∃ P, P = ptOf e.cnt e.pts.length := ⟨_, rfl⟩
  rw [← hPP] at HC HCt HD4
  clear hPP
  go_wp2_with fail
  go_loopw [9, 11, 12, 13] (fun m q i _ wr => ∃ k n j : Nat, k ≤ reps.length ∧ n ≤ k ∧ j ≤ k ∧ m = .int .i64 n ∧ q = .int .i64 j ∧ i = .int .i64 k ∧ AlIn w3 wr b ⟨P, e.mn, e.mx, n⟩ ∧ (C = false → n = 0)) (fun _ _ i _ _ => reps.length - (intOf i).toNat)
  case atStart => exact ⟨0, 0, 0, Nat.zero_le _, Nat.zero_le _, Nat.zero_le _, rfl, rfl, rfl, HD4.out, fun _ => rfl⟩
  case round =>
    clear HD4
    obtain ⟨k, n, j, hk, hn, hj, rfl, rfl, rfl, hD, hn0⟩ := hrel
    have HD : Hid (AlIn w3 wr b ⟨P, e.mn, e.mx, n⟩) := hD
    have HN0 : Hid (C = false → n = 0) := hn0
    have HN : Hid (n ≤ k ∧ j ≤ k) := ⟨hn, hj⟩
    clear hD hn0 hn hj
    by_cases hlt : k < reps.length
    · have k1 : (k : Int) < (reps.length : Int) := by omega
      have k2 : k < 100 := by have := H100.out; omega
      obtain ⟨r, hr⟩ : ∃ r, reps[k]? = some r := ⟨_, List.getElem?_eq_getElem hlt⟩
      obtain ⟨sa', cap', hsl, -, hcc⟩ := id HR.out
      cases hsl
      obtain ⟨g, o, rfl, hc0⟩ := hcc (fun h => by rw [h] at hr; simp at hr)
      obtain ⟨rp, rl, re⟩ := r
      have HCl : Hid (∀ V, Below w3.heap.size w3 V → V.cell? ⟨g, o + k * 3, none⟩ = some (.int .i64 rp) ∧ V.cell? ⟨g, o + k * 3 + 2, none⟩ = some (.bool re)) := fun V hV => ⟨cell_below (HBW.out V hV) (hc0 k _ hr 0 _ rfl), cell_below (HBW.out V hV) (hc0 k _ hr 2 _ rfl)⟩
      have c0 := (HCl.out wr HD.out.bel).1
      have c2 := (HCl.out wr HD.out.bel).2
      clear hcc hc0 hr
      cases re
      · go_wp2_with fail
        refine (al_report rp HD.out).mono ?_
        rintro v w5 ⟨rfl, h5⟩
        have HD5 : Hid (AlIn w3 w5 b ((⟨P, e.mn, e.mx, n⟩ : ASt).rep rp)) := h5
        clear h5 c0 c2 HD
        have c0 := (HCl.out w5 HD5.out.bel).1
        have x3 := HXW.out w5 HD5.out.bel 3 _ rfl
        cases C
        · have HD6 : Hid (∀ q, AlIn w3 (w5.drewN q) b ⟨P, e.mn, e.mx, n⟩) := fun q => by
            have hp : P = -1 := by have := HC.out; simpa using this
            have := HD5.out.drewN q
            rw [rep_out (Or.inl hp)] at this
            exact this
          clear HD5
          go_wp2_with fail
          go_quiet (fail)
          go_wp2_with fail
          refine (al_count (v := n) (HD6.out _) rfl).mono ?_
          rintro v w6 ⟨rfl, rfl⟩
          go_wp2_with fail
          go_roundw
          case rel => exact ⟨k + 1, n, j, by omega, by have := HN.out; omega, by have := HN.out; omega, rfl, rfl, by go_num, HD6.out _, HN0.out⟩
          case measure => simp [intOf]; omega
        · have hpp : P = e.cnt := HCt.out rfl
          have HPn : Hid (P ≠ -1) := by have := HC.out; intro h; rw [h] at this; simp at this
          by_cases hr : rp = e.cnt
          · subst hr
            have n1 : n < 200 := by have := HN.out; omega
            have HD6 : Hid (∀ q, AlIn w3 (w5.drewN q) b ⟨P, e.mn, e.mx, n + 1⟩) := fun q => by
              have := HD5.out.drewN q
              rw [← hpp, rep_in HPn.out (by have := HN.out; omega)] at this
              exact this
            clear HD5 hpp
            go_wp2_with fail
            go_quiet (fail)
            go_wp2_with fail
            refine (al_count (v := n + 1) (HD6.out _) rfl).mono ?_
            rintro v w6 ⟨rfl, rfl⟩
            go_wp2_with fail
            go_roundw
            case rel => exact ⟨k + 1, n + 1, j, by omega, by have := HN.out; omega, by have := HN.out; omega, by go_num, rfl, by go_num, HD6.out _, fun h => by cases h⟩
            case measure => simp [intOf]; omega
          · have HD6 : Hid (∀ q, AlIn w3 (w5.drewN q) b ⟨P, e.mn, e.mx, n⟩) := fun q => by
              have := HD5.out.drewN q
              rw [rep_out (Or.inr (by rw [hpp]; exact hr))] at this
              exact this
            clear HD5 hpp
            go_wp2_with fail
            go_quiet (fail)
            go_wp2_with fail
            refine (al_count (v := n) (HD6.out _) rfl).mono ?_
            rintro v w6 ⟨rfl, rfl⟩
            go_wp2_with fail
            go_roundw
            case rel => exact ⟨k + 1, n, j, by omega, by have := HN.out; omega, by have := HN.out; omega, rfl, rfl, by go_num, HD6.out _, fun h => by cases h⟩
            case measure => simp [intOf]; omega
      · go_upto_region 19 with fail
        go_cut [13] (fun v wx => ∃ wv : Bool, v = .bool wv ∧ wx = wr)
        case first =>
          by_cases hjl : j < bs.length
          · have j1 : (j : Int) < (bs.length : Int) := by omega
            obtain ⟨y, hy⟩ : ∃ y, bs[j]? = some y := ⟨_, List.getElem?_eq_getElem hjl⟩
            obtain ⟨sa', cap', hsl, -, hcc⟩ := id HB.out
            cases hsl
            obtain ⟨g2, o2, rfl, hd0⟩ := hcc (fun h => by rw [h] at hy; simp at hy)
            have d0 : wr.cell? ⟨g2, o2 + j, none⟩ = some (.bool y) := by have := cell_below (HBW.out wr HD.out.bel) (hd0 j _ hy 0 _ rfl); simpa using this
            clear hcc hd0 hy
            have j2 : j < 100 := by have := HN.out; omega
            go_wp2_with fail
            go_meet
            case rel => exact ⟨y, rfl, rfl⟩
          · have j1 : ¬ (j : Int) < (bs.length : Int) := by omega
            go_wp2_with fail
            go_meet
            case rel => exact ⟨false, rfl, rfl⟩
        obtain ⟨wv, rfl, rfl⟩ := hcut
        have j2 : j < 100 := by have := HN.out; omega
        go_wp2_with fail
        refine (al_end wv HD.out).mono ?_
        rintro v w5 ⟨rfl, h5⟩
        have HD5 : Hid (AlIn w3 w5 b ⟨P, e.mn, e.mx, 0⟩) := h5
        have x4 := HXW.out w5 h5.bel 4 _ rfl
        have x5 := HXW.out w5 h5.bel 5 _ rfl
        clear h5 HD c0 c2
        have hw : (⟨P, e.mn, e.mx, n⟩ : ASt).well wv = (!C || !wv || (decide (e.mn ≤ (n : Int)) && decide ((n : Int) ≤ e.mx))) := well_same C _ _ wv P HC.out
        rw [hw]
        clear hw
        cases C
        · go_wp2_with fail
          refine (al_count (v := 0) HD5.out rfl).mono ?_
          rintro v w6 ⟨rfl, rfl⟩
          go_wp2_with fail
          go_roundw
          case rel => exact ⟨k + 1, 0, j + 1, by omega, by omega, by have := HN.out; omega, rfl, by go_num, by go_num, HD5.out, fun _ => rfl⟩
          case measure => simp [intOf]; omega
        · cases wv
          · go_wp2_with fail
            refine (al_count (v := 0) HD5.out rfl).mono ?_
            rintro v w6 ⟨rfl, rfl⟩
            go_wp2_with fail
            go_roundw
            case rel => exact ⟨k + 1, 0, j + 1, by omega, by omega, by have := HN.out; omega, rfl, by go_num, by go_num, HD5.out, fun _ => rfl⟩
            case measure => simp [intOf]; omega
          · cases g1 : decide (e.mn ≤ (n : Int))
            · go_wp2_with fail
              refine (al_count (v := 0) HD5.out rfl).mono ?_
              rintro v w6 ⟨rfl, rfl⟩
              go_wp2_with fail
              go_roundw
              case rel => exact ⟨k + 1, 0, j + 1, by omega, by omega, by have := HN.out; omega, rfl, by go_num, by go_num, HD5.out, fun _ => rfl⟩
              case measure => simp [intOf]; omega
            · cases g2 : decide ((n : Int) ≤ e.mx)
              all_goals
                go_wp2_with fail
                refine (al_count (v := 0) HD5.out rfl).mono ?_
                rintro v w6 ⟨rfl, rfl⟩
                go_wp2_with fail
                go_roundw
                case rel => exact ⟨k + 1, 0, j + 1, by omega, by omega, by have := HN.out; omega, rfl, by go_num, by go_num, HD5.out, fun _ => rfl⟩
                case measure => simp [intOf]; omega
    · have k1 : ¬ (k : Int) < (reps.length : Int) := by omega
      go_wp2
      go_ret
      exact ⟨rfl, HBW.out _ HD.out.bel⟩
end Go.Proofs.Ytfpfnknlkoblfab
