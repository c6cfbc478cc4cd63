/-
  nightwatchlaw2.FlowBegins told by a contract: it answers true; nothing that was there turns. Conditions: what it is handed lies in memory, the edges are of int's range.
-/
import Derived.Test.YtbholbenjalliabDoorFwWords
import Derived.Test.YtbholbenjalliabDoorFlOrd
import Derived.Test.YtbholbenjalliabDoorCfHeavyE
namespace Go.Proofs.YtbholbenjalliabDoor
open Go.RowKit Go.Extern.Stop Go.Stop Go.Extern

/-- While another flow is written. -/
theorem FlIn.two {w0 w w' : World} {b b' : Nat} {e e' : EntD} {s s' : FSt} (h : FlIn w0 w b e s) (h' : FlIn w0 w b' e' s') (hne : b ≠ b') (hg : w.grownBy w' (some b')) : FlIn w0 w' b e s := by
  obtain ⟨-, m', n', D', fv', lv', h'⟩ := h'
  obtain ⟨h0, m, n, D, fv, lv, h⟩ := h
  refine ⟨below_grown h0 hg h0.size h'.lo, m, n, D, fv, lv, ?_, h.lo, h.own.kept hg ?_, h.edg, h.hf.other hg h'.heap (by decide), h.hl.other hg h'.heap (by decide), h.fit, h.sm, h.wf⟩
  · exact (hg.block b (lt_of_row h.heap) (fun e2 => hne (by cases e2; rfl))).trans h.heap
  · intro e2
    cases e2
    obtain ⟨es, c, hm, -⟩ := h.own
    rw [h'.heap] at hm
    cases hm
theorem FlIn.lo {w0 w : World} {b : Nat} {e : EntD} {s : FSt} (h : FlIn w0 w b e s) : w0.heap.size ≤ b ∧ b < w.heap.size := by
  obtain ⟨-, m, n, D, fv, lv, h⟩ := h
  exact ⟨h.lo, lt_of_row h.heap⟩
/-- What k reports leave. -/
def stF (e : EntD) (l : List Int) (k : Nat) : FSt := (l.take k).foldl (fun s p => s.rep e p) ⟨-1, false⟩
theorem stF_succ {e : EntD} {l : List Int} {k : Nat} {p : Int} (h : l[k]? = some p) : stF e l (k + 1) = (stF e l k).rep e p := by
  unfold stF
  rw [List.take_add_one, h]
  simp
set_option maxHeartbeats 8000000 in
set_option maxRecDepth 100000 in
theorem fbegins_in (e : EntD) (pa ga ea fa la : Option Addr) (pc gc ec fc lc : Nat) (sl : Option Addr) (row : List Int) (slc : Nat) (n : Nat) (w : World) (hP : EntParts w e (.slice pa e.pts.length pc) (.slice ga e.gaps.length gc) (.slice ea e.edges.length ec) (.slice fa e.first.length fc) (.slice la e.last.length lc)) (hR : SlAt encI 1 w (.slice sl row.length slc) row) (hh : heavyE e = false) (hWf : WfE e.edges) (hl : row.length ≤ 30) (hn : n ≤ 14) (hp : e.pts.length ≤ 16) :
    Calls Tryd.prog 3 #[.agg #[.string e.name, .int .i64 e.tol, .slice pa e.pts.length pc, .int .i64 e.cnt, .int .i64 e.mn, .int .i64 e.mx, .slice ga e.gaps.length gc, .slice ea e.edges.length ec, .slice fa e.first.length fc, .slice la e.last.length lc], .slice sl row.length slc, .int .i64 (n : Int)] w fun v w' => v = .returned (.bool true) ∧ Below w.heap.size w w' := by
  have HH : Hid (SmallE e) := heavyE_small hh
  have hh0 : one01 (heavyE e) = 0 := by rw [hh]; rfl
  have HP : Hid (∀ V, Below w.heap.size w V → EntParts V e (.slice pa e.pts.length pc) (.slice ga e.gaps.length gc) (.slice ea e.edges.length ec) (.slice fa e.first.length fc) (.slice la e.last.length lc)) := fun V hV => hP.below hV
  have HWf : Hid (WfE e.edges) := hWf
  have HN : Hid (n ≤ 14 ∧ e.pts.length ≤ 16) := ⟨hn, hp⟩
  have HR : Hid (∀ V, Below w.heap.size w V → SlAt encI 1 V (.slice sl row.length slc) row) := fun V hV => hR.below hV
  have HLn : Hid (row.length ≤ 30) := hl
  have g0 : ¬ 30 < (row.length : Int) := by omega
  have g1 : ¬ (n : Int) < 0 := by omega
  have g2 : ¬ 14 < (n : Int) := by omega
  have g3 : ¬ 16 < (e.pts.length : Int) := by omega
  clear hP hR hh hWf hl hn hp
  go_enter Tryd.func3, Tryd.ntmps3
  go_wp2_with fail
  refine (ordered_any _).mono ?_
  rintro v w1 ⟨rfl, hb1⟩
  have HX1 : Hid (w1.heap[w.heap.size]? = some (.cells #[.string e.name, .int .i64 e.tol, .slice pa e.pts.length pc, .int .i64 e.cnt, .int .i64 e.mn, .int .i64 e.mx, .slice ga e.gaps.length gc, .slice ea e.edges.length ec, .slice fa e.first.length fc, .slice la e.last.length lc] 27 (0, 0))) := row_below hb1 (al_at rfl)
  have HB1 : Hid (Below w.heap.size w w1) := (Below.one _ _).trans (hb1.mono (by simp))
  clear hb1
  have y : ∀ (j : Nat) u, (#[.string e.name, .int .i64 e.tol, .slice pa e.pts.length pc, .int .i64 e.cnt, .int .i64 e.mn, .int .i64 e.mx, .slice ga e.gaps.length gc, .slice ea e.edges.length ec, .slice fa e.first.length fc, .slice la e.last.length lc] : Array Value)[j]? = some u → w1.cell? ⟨w.heap.size, j, none⟩ = some u := fun j u hu => by simp [World.cell?, HX1.out, hu]
  have y0 := y 0 _ rfl
  have y1 := y 1 _ rfl
  have y2 := y 2 _ rfl
  have y3 := y 3 _ rfl
  have y4 := y 4 _ rfl
  have y5 := y 5 _ rfl
  have y6 := y 6 _ rfl
  have y7 := y 7 _ rfl
  have y8 := y 8 _ rfl
  have y9 := y 9 _ rfl
  clear y
  go_wp2_with fail
  clear y0 y1 y2 y3 y4 y5 y6 y7 y8 y9
  refine (heavyE_at e pa ga ea fa la pc gc ec fc lc _ (HP.out _ HB1.out).hp).mono ?_
  rintro v w2 ⟨rfl, hb2⟩
  rw [hh0]
  have HX2 : Hid (w2.heap[w.heap.size]? = some (.cells #[.string e.name, .int .i64 e.tol, .slice pa e.pts.length pc, .int .i64 e.cnt, .int .i64 e.mn, .int .i64 e.mx, .slice ga e.gaps.length gc, .slice ea e.edges.length ec, .slice fa e.first.length fc, .slice la e.last.length lc] 27 (0, 0))) := row_below hb2 HX1.out
  have HB2 : Hid (Below w.heap.size w w2) := HB1.out.trans (hb2.mono HB1.out.size)
  clear hb2 HX1 HB1
  have y2 : w2.cell? ⟨w.heap.size, 2, none⟩ = some (.slice pa e.pts.length pc) := by have := HX2.out; simp [World.cell?, this]
  go_wp2_with (refine wpList_load_row rfl 27 _ rfl w.heap.size rfl _ _ _ _ HX2.out Tryd.underlying27 rfl Tryd.sizeEnt ?_)
  clear y2 g0 g1 g2 g3
  refine (ownEntity_at w2.heap.size e pa ga ea fa la pc gc ec fc lc _ (HP.out _ HB2.out) HH.out (Nat.le_refl _)).mono ?_
  rintro v w3 ⟨⟨npa, npc, nga, ngc, nea, nec, nfa, nfc, nla, nlc, rfl, hown⟩, hb⟩
  have HX3 : Hid (w3.heap[w.heap.size]? = some (.cells #[.string e.name, .int .i64 e.tol, .slice pa e.pts.length pc, .int .i64 e.cnt, .int .i64 e.mn, .int .i64 e.mx, .slice ga e.gaps.length gc, .slice ea e.edges.length ec, .slice fa e.first.length fc, .slice la e.last.length lc] 27 (0, 0))) := row_below hb HX2.out
  have HB3 : Hid (Below w.heap.size w w3) := HB2.out.trans (hb.mono HB2.out.size)
  have HO3 : Hid (EntParts w3 e (.slice npa e.pts.length npc) (.slice nga e.gaps.length ngc) (.slice nea e.edges.length nec) (.slice nfa e.first.length nfc) (.slice nla e.last.length nlc)) := hown.parts
  clear hown hb HX2 HB2
  go_wp2_with fail
  refine (fl_new e npa nga nea nfa nla npc ngc nec nfc nlc w3 HO3.out HH.out HWf.out).mono ?_
  rintro v w4 ⟨bf, rfl, h4⟩
  have HF4 : Hid (FlIn w3 w4 bf e ⟨-1, false⟩) := h4
  have HX4 : Hid (w4.heap[w.heap.size]? = some (.cells #[.string e.name, .int .i64 e.tol, .slice pa e.pts.length pc, .int .i64 e.cnt, .int .i64 e.mn, .int .i64 e.mx, .slice ga e.gaps.length gc, .slice ea e.edges.length ec, .slice fa e.first.length fc, .slice la e.last.length lc] 27 (0, 0))) := row_below h4.1 HX3.out
  have HB4 : Hid (Below w.heap.size w w4) := HB3.out.trans (h4.1.mono HB3.out.size)
  have HBW : Hid (∀ V, Below w3.heap.size w3 V → Below w.heap.size w V) := fun V hV => HB3.out.trans (hV.mono HB3.out.size)
  have HXW : Hid (∀ V, Below w3.heap.size w3 V → V.heap[w.heap.size]? = some (.cells #[.string e.name, .int .i64 e.tol, .slice pa e.pts.length pc, .int .i64 e.cnt, .int .i64 e.mn, .int .i64 e.mx, .slice ga e.gaps.length gc, .slice ea e.edges.length ec, .slice fa e.first.length fc, .slice la e.last.length lc] 27 (0, 0))) := fun V hV => row_below hV HX3.out
  clear h4 HO3 HX3 HB3
  go_wp2_with (refine wpList_load_row rfl 27 _ rfl w.heap.size rfl _ _ _ _ HX4.out Tryd.underlying27 rfl Tryd.sizeEnt ?_)
  refine (ownEntity_at w4.heap.size e pa ga ea fa la pc gc ec fc lc _ (HP.out _ HB4.out) HH.out (Nat.le_refl _)).mono ?_
  rintro v w5 ⟨⟨mpa, mpc, mga, mgc, mea, mec, mfa, mfc, mla, mlc, rfl, hown⟩, hb⟩
  have HX5 : Hid (w5.heap[w.heap.size]? = some (.cells #[.string e.name, .int .i64 e.tol, .slice pa e.pts.length pc, .int .i64 e.cnt, .int .i64 e.mn, .int .i64 e.mx, .slice ga e.gaps.length gc, .slice ea e.edges.length ec, .slice fa e.first.length fc, .slice la e.last.length lc] 27 (0, 0))) := row_below hb HX4.out
  have HB5 : Hid (Below w.heap.size w w5) := HB4.out.trans (hb.mono HB4.out.size)
  have HO5 : Hid (EntParts w5 e (.slice mpa e.pts.length mpc) (.slice mga e.gaps.length mgc) (.slice mea e.edges.length mec) (.slice mfa e.first.length mfc) (.slice mla e.last.length mlc)) := hown.parts
  have HF5 : Hid (FlIn w3 w5 bf e ⟨-1, false⟩) := HF4.out.below hb
  have HB35 : Hid (Below w3.heap.size w3 w5) := HF5.out.1
  clear hown hb HX4 HB4 HF4
  go_wp2_with fail
  refine (fl_new e mpa mga mea mfa mla mpc mgc mec mfc mlc w5 HO5.out HH.out HWf.out).mono ?_
  rintro v w6 ⟨bg, rfl, h6⟩
  have HG6 : Hid (FlIn w3 w6 bg e ⟨-1, false⟩) := h6.from HB35.out
  have HF6 : Hid (FlIn w3 w6 bf e ⟨-1, false⟩) := HF5.out.below h6.1
  have HNe : Hid (bf ≠ bg) := by
    have h1 := HF5.out.lo.2
    have h2 := h6.lo.1
    show bf ≠ bg
    omega
  clear h6 HF5 HO5 HX5 HB5 HB35
  go_upto_region 9 with fail
  go_cut [11] (fun i wx => i = .int .i64 0 ∧ wx = w6)
  case first =>
    go_wp2_with fail
    go_meet
    case rel => exact ⟨rfl, rfl⟩
  obtain ⟨rfl, rfl⟩ := hcut
  rename World => w6
  go_wp2_with fail
  go_loopw [10, 11, 12] (fun wv iv _ wr => ∃ k : Nat, k ≤ row.length ∧ iv = .int .i64 k ∧ wv = .bool (!(stF e row k).bad) ∧ FlIn w3 wr bf e ⟨(stF e row k).ah, false⟩ ∧ FlIn w3 wr bg e (stF e row k)) (fun _ i _ _ => row.length - (intOf i).toNat)
  case atStart => exact ⟨0, Nat.zero_le _, rfl, rfl, HF6.out, HG6.out⟩
  case round =>
    clear HF6 HG6
    obtain ⟨k, hk, rfl, rfl, hF, hG⟩ := hrel
    have HF : Hid (FlIn w3 wr bf e ⟨(stF e row k).ah, false⟩) := hF
    have HG : Hid (FlIn w3 wr bg e (stF e row k)) := hG
    clear hF hG
    by_cases hlt : k < row.length
    · have k1 : (k : Int) < (row.length : Int) := by omega
      have k2 : k < 30 := by have := HLn.out; omega
      obtain ⟨p, hp⟩ : ∃ p, row[k]? = some p := ⟨_, List.getElem?_eq_getElem hlt⟩
      have HS : Hid (stF e row (k + 1) = (stF e row k).rep e p) := stF_succ hp
      obtain ⟨sa', cap', hsl, -, hcc⟩ := HR.out w (Below.refl _ _)
      cases hsl
      obtain ⟨g, o, rfl, hc0⟩ := hcc (fun h => by rw [h] at hp; simp at hp)
      have HC0 : Hid (∀ V, Below w3.heap.size w3 V → V.cell? ⟨g, o + k, none⟩ = some (.int .i64 p)) := fun V hV => by
        have := cell_below (HBW.out V hV) (hc0 k p hp 0 _ rfl)
        simpa using this
      clear hcc hc0 hp
      have c0 := HC0.out wr HF.out.1
      go_wp2_with fail
      refine (fl_report p HF.out).mono ?_
      rintro v w7 ⟨rfl, hF7, f7⟩
      have HF7 : Hid (FlIn w3 w7 bf e ((⟨(stF e row k).ah, false⟩ : FSt).rep e p)) := hF7
      have HG7 : Hid (FlIn w3 w7 bg e (stF e row k)) := HG.out.two HF.out (fun h => HNe.out h.symm) f7
      clear hF7 f7 HF HG c0
      have c0 := HC0.out w7 HF7.out.1
      go_wp2_with fail
      refine (fl_report p HG7.out).mono ?_
      rintro v w8 ⟨rfl, hG8, f8⟩
      have HG8 : Hid (FlIn w3 w8 bg e (stF e row (k + 1))) := by show FlIn _ _ _ _ _; rw [HS.out]; exact hG8
      have HF8 : Hid (FlIn w3 w8 bf e ((⟨(stF e row k).ah, false⟩ : FSt).rep e p)) := HF7.out.two HG7.out HNe.out f8
      clear hG8 f8 HF7 HG7 c0
      go_wp2_with fail
      refine (fl_end HF8.out).mono ?_
      rintro v w9 ⟨rfl, hF9, f9⟩
      have HF9 : Hid (FlIn w3 w9 bf e ⟨(stF e row (k + 1)).ah, false⟩) := by show FlIn _ _ _ _ _; rw [HS.out]; exact hF9
      have HG9 : Hid (FlIn w3 w9 bg e (stF e row (k + 1))) := HG8.out.two HF8.out (fun h => HNe.out h.symm) f9
      clear hF9 f9 HF8 HG8
      have HB : Hid ((stF e row (k + 1)).bad = ((stF e row k).bad || ((⟨(stF e row k).ah, false⟩ : FSt).rep e p).bad)) := by show _ = _; rw [HS.out]; simp [FSt.rep]
      obtain ⟨nb, hnb⟩ : ∃ nb, nb = ((⟨(stF e row k).ah, false⟩ : FSt).rep e p).bad := ⟨_, rfl⟩
      rw [← hnb]
      rw [← hnb] at HB
      clear hnb
      cases hb : (stF e row k).bad
      all_goals
        cases nb
        all_goals
          have HV : Hid _ := HB.out
          rw [hb] at HV
          go_wp2_with fail
          go_roundw
          case rel => exact ⟨k + 1, by omega, by go_num, by rw [HV.out]; rfl, HF9.out, HG9.out⟩
          case measure => simp [intOf]; omega
    · have k1 : ¬ (k : Int) < (row.length : Int) := by omega
      clear HF HNe
      go_wp2_with fail
      refine (fl_end HG.out).mono ?_
      rintro v w8 ⟨rfl, hG8, -⟩
      have hb38 := hG8.1
      have HX8 : Hid (w8.heap[w.heap.size]? = some (.cells #[.string e.name, .int .i64 e.tol, .slice pa e.pts.length pc, .int .i64 e.cnt, .int .i64 e.mn, .int .i64 e.mx, .slice ga e.gaps.length gc, .slice ea e.edges.length ec, .slice fa e.first.length fc, .slice la e.last.length lc] 27 (0, 0))) := HXW.out w8 hb38
      have HB8 : Hid (Below w.heap.size w w8) := HBW.out w8 hb38
      clear hG8 hb38 HG HXW HBW
      have HW : Hid (∀ z : Bool, (z != z) = false) := fun z => by cases z <;> rfl
      obtain ⟨z, hz⟩ : ∃ z, z = !(stF e row k).bad := ⟨_, rfl⟩
      rw [← hz]
      clear hz
      cases z
      all_goals
        go_wp2_with (refine wpList_load_row rfl 27 _ rfl w.heap.size rfl _ _ _ _ HX8.out Tryd.underlying27 rfl Tryd.sizeEnt ?_)
        refine (ownEntity_at w8.heap.size e pa ga ea fa la pc gc ec fc lc _ (HP.out _ HB8.out) HH.out (Nat.le_refl _)).mono ?_
        rintro v w9 ⟨⟨opa, opc, oga, ogc, oea, oec, ofa, ofc, ola, olc, rfl, hown⟩, hb⟩
        have HX9 : Hid (w9.heap[w.heap.size]? = some (.cells #[.string e.name, .int .i64 e.tol, .slice pa e.pts.length pc, .int .i64 e.cnt, .int .i64 e.mn, .int .i64 e.mx, .slice ga e.gaps.length gc, .slice ea e.edges.length ec, .slice fa e.first.length fc, .slice la e.last.length lc] 27 (0, 0))) := row_below hb HX8.out
        have HB9 : Hid (Below w.heap.size w w9) := HB8.out.trans (hb.mono HB8.out.size)
        have HO9 : Hid (EntParts w9 e (.slice opa e.pts.length opc) (.slice oga e.gaps.length ogc) (.slice oea e.edges.length oec) (.slice ofa e.first.length ofc) (.slice ola e.last.length olc)) := hown.parts
        clear hown hb HX8 HB8
        go_wp2_with fail
        refine (words_ok e opa oga oea ofa ola opc ogc oec ofc olc n w9 HO9.out HH.out HWf.out (by have := HN.out.1; omega) HN.out.2).mono ?_
        rintro v w10 ⟨rfl, hb10⟩
        have HX10 : Hid (w10.heap[w.heap.size]? = some (.cells #[.string e.name, .int .i64 e.tol, .slice pa e.pts.length pc, .int .i64 e.cnt, .int .i64 e.mn, .int .i64 e.mx, .slice ga e.gaps.length gc, .slice ea e.edges.length ec, .slice fa e.first.length fc, .slice la e.last.length lc] 27 (0, 0))) := row_below hb10 HX9.out
        have HB10 : Hid (Below w.heap.size w w10) := HB9.out.trans (hb10.mono HB9.out.size)
        clear hb10 HX9 HB9 HO9
        obtain ⟨ra, hra⟩ : ∃ r, r = rowsN e n (-1) := ⟨_, rfl⟩
        have HRa : Hid (ra = rowsN e n (-1)) := hra
        rw [← hra]
        clear hra
        go_wp2_with (refine wpList_load_row rfl 27 _ rfl w.heap.size rfl _ _ _ _ HX10.out Tryd.underlying27 rfl Tryd.sizeEnt ?_)
        refine (ownEntity_at w10.heap.size e pa ga ea fa la pc gc ec fc lc _ (HP.out _ HB10.out) HH.out (Nat.le_refl _)).mono ?_
        rintro v w11 ⟨⟨qpa, qpc, qga, qgc, qea, qec, qfa, qfc, qla, qlc, rfl, hown⟩, hb⟩
        have HX11 : Hid (w11.heap[w.heap.size]? = some (.cells #[.string e.name, .int .i64 e.tol, .slice pa e.pts.length pc, .int .i64 e.cnt, .int .i64 e.mn, .int .i64 e.mx, .slice ga e.gaps.length gc, .slice ea e.edges.length ec, .slice fa e.first.length fc, .slice la e.last.length lc] 27 (0, 0))) := row_below hb HX10.out
        have HB11 : Hid (Below w.heap.size w w11) := HB10.out.trans (hb.mono HB10.out.size)
        have HO11 : Hid (EntParts w11 e (.slice qpa e.pts.length qpc) (.slice qga e.gaps.length qgc) (.slice qea e.edges.length qec) (.slice qfa e.first.length qfc) (.slice qla e.last.length qlc)) := hown.parts
        clear hown hb HX10 HB10
        have n14 : (n : Int) ≤ 14 := by have := HN.out.1; omega
        go_wp2_with fail
        have HW11 : Hid _ := words_ok e qpa qga qea qfa qla qpc qgc qec qfc qlc (n + 1) w11 HO11.out HH.out HWf.out (by have := HN.out.1; omega) HN.out.2
        rw [show ((n + 1 : Nat) : Int) = (n : Int) + 1 by omega] at HW11
        refine Calls.mono HW11.out ?_
        rintro v w12 ⟨rfl, hb12⟩
        have y2 : w12.cell? ⟨w.heap.size, 2, none⟩ = some (.slice pa e.pts.length pc) := by have := row_below hb12 HX11.out; simp [World.cell?, this]
        have HB12 : Hid (Below w.heap.size w w12) := HB11.out.trans (hb12.mono HB11.out.size)
        obtain ⟨rb, hrb⟩ : ∃ r, r = rowsN e (n + 1) (-1) := ⟨_, rfl⟩
        have HLe : Hid (rb ≤ e.pts.length * ra) := by show _ ≤ _; rw [hrb, HRa.out]; exact rowsN_next e n (-1)
        have HBa : Hid (e.pts.length * ra ≤ 4611686018427387904 ∧ ra ≤ 1152921504606846976) := by
          have h1 := rowsN_le e n (-1)
          have h2 : e.pts.length ^ n ≤ 16 ^ n := Nat.pow_le_pow_left HN.out.2 n
          have h3 : 16 ^ n ≤ 16 ^ 14 := Nat.pow_le_pow_right (by decide) HN.out.1
          have h4 : (16 : Nat) ^ 14 = 72057594037927936 := by decide
          have h5 : ra ≤ 72057594037927936 := by rw [HRa.out]; omega
          have h6 : e.pts.length * ra ≤ 16 * 72057594037927936 := Nat.mul_le_mul HN.out.2 h5
          exact ⟨by omega, by omega⟩
        rw [← hrb]
        clear hrb hb12 HX11 HB11 HO11 HW11
        obtain ⟨pr, hpr⟩ : ∃ pr, pr = e.pts.length * ra := ⟨_, rfl⟩
        rw [← hpr] at HLe HBa
        have hprI : (e.pts.length : Int) * (ra : Int) = (pr : Int) := by rw [hpr]; push_cast; rfl
        clear hpr
        have HWr : Hid ((rb : Int) ≤ wrap64 ((e.pts.length : Int) * (ra : Int))) := by
          show _ ≤ _
          rw [hprI]
          have h1 := HBa.out.1
          have h2 := HLe.out
          unfold wrap64
          omega
        clear hprI
        go_wp2
        go_ret
        exact ⟨by show Ending.returned (Value.bool (decide ((rb : Int) ≤ wrap64 ((e.pts.length : Int) * (ra : Int))))) = _; rw [decide_eq_true HWr.out], HB12.out⟩
end Go.Proofs.YtbholbenjalliabDoor
