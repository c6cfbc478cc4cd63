/-
  Several texts as one: CfHeavy, KqWalk.
-/
import Derived.Test.YtkphpgdgbnmnjacGreatDoorB30Q
import Derived.Test.YtkphpgdgbnmnjacGreatDoorB32Q
import Derived.Test.YtkphpgdgbnmnjacGreatDoorB22Q
import Derived.Test.YtkphpgdgbnmnjacGreatDoorB26Q
import Derived.Test.YtkphpgdgbnmnjacGreatDoorB34Q
import Derived.Test.YtkphpgdgbnmnjacGreatDoorB20Q
import Derived.Deep.RegionHeld3
namespace Go.Proofs.YtkphpgdgbnmnjacGreatDoor
open Go.RowKit Go.Extern.Stop Go.Stop Go.Extern

def heavyC (c : CfgD) : Bool := decide (12 < c.ents.length) || c.ents.any heavyE
theorem heavyC_small {c : CfgD} (h : heavyC c = false) : SmallC c := by
  unfold heavyC at h
  simp only [Bool.or_eq_false_iff, decide_eq_false_iff_not] at h
  exact ⟨by omega, fun e he => heavyE_small (by simpa using List.any_eq_false.1 h.2 e he)⟩
set_option maxHeartbeats 2000000 in
set_option maxRecDepth 100000 in
theorem heavyC_at (c : CfgD) (sa : Option Addr) (sc : Nat) (w : World) (hE : EntsAt w (.slice sa c.ents.length sc) c.ents) :
    Calls Tryz.prog 9 #[.agg #[.int .i64 c.closed, .int .i64 c.opn, .int .i64 c.cycle, .int .i64 c.delay, .slice sa c.ents.length sc]] w fun v w' => v = .returned (.int .i64 (one01 (heavyC c))) ∧ Below w.heap.size w w' := by
  have HE : Hid (EntsAt w (.slice sa c.ents.length sc) c.ents) := hE
  clear hE
  by_cases h0 : 12 < c.ents.length
  · have HV : Hid (heavyC c = true) := by show _ = _; unfold heavyC; simp [h0]
    have g0 : (12 : Int) < (c.ents.length : Int) := by omega
    clear h0
    go_enter Tryz.func9, Tryz.ntmps9
    go_wp2
    go_ret
    exact ⟨by first | rfl | (rw [HV.out]; rfl), Below.one _ _⟩
  have g0 : ¬ (12 : Int) < (c.ents.length : Int) := by omega
  have HV0 : Hid (heavyC c = c.ents.any heavyE) := by show _ = _; unfold heavyC; simp [h0]
  have HLn : Hid (c.ents.length ≤ 12) := by show _ ≤ _; omega
  clear h0
  go_enter Tryz.func9, Tryz.ntmps9
  go_upto_region 3 with fail
  obtain ⟨W0, hW0⟩ : ∃ V, V = w.alloc (.cells #[.int .i64 c.closed, .int .i64 c.opn, .int .i64 c.cycle, .int .i64 c.delay, .slice sa c.ents.length sc] 24) := ⟨_, rfl⟩
  rw [← hW0]
  have HX : Hid (W0.heap[w.heap.size]? = some (.cells #[.int .i64 c.closed, .int .i64 c.opn, .int .i64 c.cycle, .int .i64 c.delay, .slice sa c.ents.length sc] 24 (0, 0))) := by show _ = _; rw [hW0]; exact heap_alloc_new w _
  have HBl0 : Hid (Below w.heap.size w W0) := by show Below _ _ _; rw [hW0]; exact Below.one _ _
  clear hW0 g0
  go_wp2_with fail
  go_loopw [3] (fun i wr => ∃ k : Nat, k ≤ c.ents.length ∧ i = .int .i64 k ∧ Below W0.heap.size W0 wr ∧ Hid (∀ (j : Nat) q, j < k → c.ents[j]? = some q → heavyE q = false)) (fun i _ => c.ents.length - (intOf i).toNat)
  case atStart => exact ⟨0, Nat.zero_le _, rfl, Below.refl _ _, fun j q hj => absurd hj (Nat.not_lt_zero _)⟩
  case round =>
    obtain ⟨k, hk, rfl, hb0, hall⟩ := hrel
    have hbl : Below w.heap.size w wr := HBl0.out.trans (hb0.mono HBl0.out.size)
    have s4 : wr.cell? ⟨w.heap.size, 4, none⟩ = some (.slice sa c.ents.length sc) := by have := row_below hb0 HX.out; simp [World.cell?, this]
    have HB : Hid (Below W0.heap.size W0 wr) := hb0
    by_cases hlt : k < c.ents.length
    · obtain ⟨e, hq⟩ : ∃ e, c.ents[k]? = some e := ⟨_, List.getElem?_eq_getElem hlt⟩
      obtain ⟨sa2, cap2, hsl, hcc⟩ := HE.out
      cases hsl
      obtain ⟨b, o, rfl, hc0⟩ := hcc (fun h => by rw [h] at hq; simp at hq)
      obtain ⟨pv, gv, ev, fv, lv, hparts, hcell⟩ := hc0 k e hq
      obtain ⟨pa, pc, rfl, -, -⟩ := id hparts.hp
      obtain ⟨ga, gc, rfl, -, -⟩ := id hparts.hg
      obtain ⟨ea, ec, rfl, -, -⟩ := id hparts.he
      obtain ⟨fa, fc, rfl, -, -⟩ := id hparts.hf
      obtain ⟨la, lc, rfl, -, -⟩ := id hparts.hl
      have c0 : wr.cell? ⟨b, o + k * 10, none⟩ = some (.string e.name) := cell_below hbl (hcell 0 _ rfl)
      have c1 : wr.cell? ⟨b, o + k * 10 + 1, none⟩ = some (.int .i64 e.tol) := cell_below hbl (hcell 1 _ rfl)
      have c2 : wr.cell? ⟨b, o + k * 10 + 2, none⟩ = some (.slice pa e.pts.length pc) := cell_below hbl (hcell 2 _ rfl)
      have c3 : wr.cell? ⟨b, o + k * 10 + 3, none⟩ = some (.int .i64 e.cnt) := cell_below hbl (hcell 3 _ rfl)
      have c4 : wr.cell? ⟨b, o + k * 10 + 4, none⟩ = some (.int .i64 e.mn) := cell_below hbl (hcell 4 _ rfl)
      have c5 : wr.cell? ⟨b, o + k * 10 + 5, none⟩ = some (.int .i64 e.mx) := cell_below hbl (hcell 5 _ rfl)
      have c6 : wr.cell? ⟨b, o + k * 10 + 6, none⟩ = some (.slice ga e.gaps.length gc) := cell_below hbl (hcell 6 _ rfl)
      have c7 : wr.cell? ⟨b, o + k * 10 + 7, none⟩ = some (.slice ea e.edges.length ec) := cell_below hbl (hcell 7 _ rfl)
      have c8 : wr.cell? ⟨b, o + k * 10 + 8, none⟩ = some (.slice fa e.first.length fc) := cell_below hbl (hcell 8 _ rfl)
      have c9 : wr.cell? ⟨b, o + k * 10 + 9, none⟩ = some (.slice la e.last.length lc) := cell_below hbl (hcell 9 _ rfl)
      have HQ : Hid (c.ents[k]? = some e) := hq
      have HC0 := heavyE_at e pa ga ea fa la pc gc ec fc lc wr (hparts.hp.below hbl)
      have k1 : (k : Int) < (c.ents.length : Int) := by omega
      have k2 : (0 : Int) ≤ (k : Int) := by omega
      have k0 : k < 12 := by have := HLn.out; omega
      cases hh : heavyE e with
      | true =>
        rw [hh, show one01 true = 1 from rfl] at HC0
        have HC : Hid _ := HC0
        have HM : Hid (heavyC c = true) := by show _ = _; rw [HV0.out]; exact List.any_eq_true.2 ⟨e, List.mem_of_getElem? hq, hh⟩
        have HBl : Hid (Below w.heap.size w wr) := hbl
        clear HC0 hh hq hcell hparts hcc hc0 hb0 hbl
        go_wp2_with fail
        refine Calls.mono HC.out ?_
        rintro v W1 ⟨rfl, hb1⟩
        go_wp2
        go_ret
        exact ⟨by first | rfl | (rw [HM.out]; rfl), HBl.out.trans (hb1.mono HBl.out.size)⟩
      | false =>
        rw [hh, show one01 false = 0 from rfl] at HC0
        have HC : Hid _ := HC0
        have HH : Hid (heavyE e = false) := hh
        clear HC0 hh hq hcell hparts hcc hc0 hb0 hbl
        go_wp2_with fail
        refine Calls.mono HC.out ?_
        rintro v W1 ⟨rfl, hb1⟩
        have HB1 : Hid (Below W0.heap.size W0 W1) := HB.out.trans (hb1.mono HB.out.size)
        clear hb1
        go_wp2
        go_roundw
        case rel =>
          refine ⟨k + 1, by omega, by go_num, HB1.out, fun j q' hj he => ?_⟩
          by_cases hjk : j = k
          · subst hjk
            have h2 := HQ.out
            rw [h2] at he
            cases he
            exact HH.out
          · exact hall.out j q' (by omega) he
        case measure => simp [intOf]; omega
    · have k1 : ¬ (k : Int) < (c.ents.length : Int) := by omega
      have HN : Hid (heavyC c = false) := by
        show _ = _
        rw [HV0.out, List.any_eq_false]
        intro q hq
        obtain ⟨j, hj, rfl⟩ := List.getElem_of_mem hq
        have := hall.out j _ (by omega) (List.getElem?_eq_getElem hj)
        simpa using this
      have HBl : Hid (Below w.heap.size w wr) := hbl
      clear hb0 hbl
      go_wp2
      go_ret
      exact ⟨by first | rfl | (rw [HN.out]; rfl), HBl.out⟩
end Go.Proofs.YtkphpgdgbnmnjacGreatDoor

namespace Go.Proofs.YtkphpgdgbnmnjacGreatDoor
open Go.RowKit Go.Extern.Stop Go.Stop Go.Extern

def quietB (e : EntD) : Bool := decide (e.cnt = -1) && decide (e.gaps.length = 0) && decide (e.edges.length = 0)
theorem quietB_is {e : EntD} (h : quietB e = true) : quietE e := by
  unfold quietB at h
  simp only [Bool.and_eq_true, decide_eq_true_eq] at h
  exact ⟨h.1.1, List.length_eq_zero_iff.1 h.1.2, List.length_eq_zero_iff.1 h.2⟩
theorem quiet_at (e : EntD) (E : EA) (w : World) :
    Calls Tryz.prog 12 #[.agg #[.string e.name, .int .i64 e.tol, .slice E.pa e.pts.length E.pc, .int .i64 e.cnt, .int .i64 e.mn, .int .i64 e.mx, .slice E.ga e.gaps.length E.gc, .slice E.ea e.edges.length E.ec, .slice E.fa e.first.length E.fc, .slice E.la e.last.length E.lc]] w fun v w' => v = .returned (.bool (quietB e)) ∧ Below w.heap.size w w' := by
  by_cases h1 : e.cnt = -1
  · by_cases h2 : e.gaps.length = 0
    · by_cases h3 : e.edges.length = 0
      · have HQ : Hid (quietB e = true) := by show _ = _; unfold quietB; rw [decide_eq_true h1, decide_eq_true h2, decide_eq_true h3]; rfl
        rw [h1, h2, h3]
        go_enter Tryz.func12, Tryz.ntmps12
        go_wp2
        go_ret
        exact ⟨by rw [HQ.out]; rfl, Below.one _ _⟩
      · have HQ : Hid (quietB e = false) := by show _ = _; unfold quietB; rw [decide_eq_false h3, Bool.and_false]
        have g3 : ¬ (e.edges.length : Int) = 0 := by omega
        rw [h1, h2]
        go_enter Tryz.func12, Tryz.ntmps12
        go_wp2
        go_ret
        exact ⟨by rw [HQ.out]; first | rfl | (simp; intro h; rw [h] at h3; exact h3 rfl), Below.one _ _⟩
    · have HQ : Hid (quietB e = false) := by show _ = _; unfold quietB; rw [decide_eq_false h2, Bool.and_false, Bool.false_and]
      have g2 : ¬ (e.gaps.length : Int) = 0 := by omega
      rw [h1]
      go_enter Tryz.func12, Tryz.ntmps12
      go_wp2
      go_ret
      exact ⟨by rw [HQ.out]; first | rfl | (simp; omega), Below.one _ _⟩
  · have HQ : Hid (quietB e = false) := by show _ = _; unfold quietB; rw [decide_eq_false h1]; rfl
    go_enter Tryz.func12, Tryz.ntmps12
    go_wp2
    go_ret
    exact ⟨by rw [HQ.out]; first | rfl | (simp; omega), Below.one _ _⟩
/-- Behind i acts. -/
structure KqI (w0 wr : World) (c : CfgD) (kb bc : Nat) (acts : List ActK) (i : Nat) (K : KSt) : Prop where
  at' : ∃ F, KeAt F w0 wr c kb bc K ∧ ∀ k, F k → w0.heap.size ≤ k
  qc : QC c K
  fit : KFit c K i (144 * K.d.now)
  now : K.d.now ≤ ticksOf (acts.take i)
theorem KqI.step {w0 wr wr' : World} {c : CfgD} {kb bc i : Nat} {acts : List ActK} {K' : KSt} {F : Nat → Prop} (hF : ∀ k, F k → w0.heap.size ≤ k) (hz : w0.heap.size ≤ wr.heap.size) (hp : KePost F w0 wr c kb bc K' wr') (hq : QC c K') (hf : KFit c K' (i + 1) (144 * K'.d.now)) (hn : K'.d.now ≤ ticksOf (acts.take (i + 1))) : KqI w0 wr' c kb bc acts (i + 1) K' :=
  ⟨⟨_, hp.1, fun k hk => by
    rcases hk with hk | ⟨hk, _⟩
    · exact hF k hk
    · exact Nat.le_trans hz hk⟩, hq, hf, hn⟩
theorem KqI.below {w0 wr wr' : World} {c : CfgD} {kb bc i : Nat} {acts : List ActK} {K : KSt} (h : KqI w0 wr c kb bc acts i K) (hb : Below wr.heap.size wr wr') : KqI w0 wr' c kb bc acts i K := by
  obtain ⟨F, h1, h2⟩ := h.at'
  exact ⟨⟨F, h1.below hb, h2⟩, h.qc, h.fit, h.now⟩
set_option maxRecDepth 100000 in
set_option maxHeartbeats 8000000 in
theorem kq_in (A : Nat → Addr) (c : CfgD) (sa : Option Addr) (sc : Nat) (acts : List ActK) (sl : Option Addr) (slc : Nat) (n : Int) (w : World) (hs : SenK A w) (hE : EntsAt w (.slice sa c.ents.length sc) c.ents) (hAct : SlAt encK 4 w (.slice sl acts.length slc) acts) (hlen : acts.length ≤ 9223372036854775807) :
    Calls Tryz.prog 3 #[.agg #[.int .i64 c.closed, .int .i64 c.opn, .int .i64 c.cycle, .int .i64 c.delay, .slice sa c.ents.length sc], .slice sl acts.length slc, .int .i64 n] w fun v w' => v = .returned (.bool true) ∧ Below w.heap.size w w' := by
  obtain ⟨W0, hW0⟩ : ∃ X, X = w.alloc (.cells #[.int .i64 c.closed, .int .i64 c.opn, .int .i64 c.cycle, .int .i64 c.delay, .slice sa c.ents.length sc] 24) := ⟨_, rfl⟩
  have b0 : Below w.heap.size w W0 := by rw [hW0]; exact Below.one _ _
  have r0 : W0.heap[w.heap.size]? = some (.cells #[.int .i64 c.closed, .int .i64 c.opn, .int .i64 c.cycle, .int .i64 c.delay, .slice sa c.ents.length sc] 24 (0, 0)) := by rw [hW0]; exact heap_alloc_new w _
  have y : ∀ V, Below W0.heap.size W0 V → (V.cell? ⟨w.heap.size, 0, none⟩ = some (.int .i64 c.closed) ∧ V.cell? ⟨w.heap.size, 1, none⟩ = some (.int .i64 c.opn) ∧ V.cell? ⟨w.heap.size, 2, none⟩ = some (.int .i64 c.cycle) ∧ V.cell? ⟨w.heap.size, 3, none⟩ = some (.int .i64 c.delay) ∧ V.cell? ⟨w.heap.size, 4, none⟩ = some (.slice sa c.ents.length sc)) := fun V hV => by
    have := row_below hV r0
    refine ⟨?_, ?_, ?_, ?_, ?_⟩ <;> simp [World.cell?, this]
  have HY : Hid _ := y
  have HB0 : Hid _ := b0
  have HWa : Hid _ := watched_at A W0 (hs.below b0)
  have HE : Hid (∀ V, Below w.heap.size w V → EntsAt V (.slice sa c.ents.length sc) c.ents) := fun V hV => hE.below hV
  have HSv : Hid (∀ V, Below w.heap.size w V → SenK A V) := fun V hV => hs.below hV
  have HAc : Hid (∀ V, Below w.heap.size w V → SlAt encK 4 V (.slice sl acts.length slc) acts) := fun V hV => hAct.below hV
  have HLn : Hid (acts.length ≤ 9223372036854775807) := hlen
  clear hs hE hAct hlen b0 r0 y
  go_enter Tryz.func3, Tryz.ntmps3
  go_upto_region 1 with fail
  rw [← hW0]
  clear hW0
  go_wp2_with fail
  refine Calls.mono HWa.out ?_
  rintro u w1 ⟨rfl, hb1⟩
  have HBb1 : Hid (Below W0.heap.size W0 w1) := hb1
  have HB1 : Hid (Below w.heap.size w w1) := HB0.out.trans (hb1.mono HB0.out.size)
  clear hb1 HWa
  obtain ⟨y0, y1, y2, y3, y4⟩ := HY.out w1 HBb1.out
  go_wp2_with fail
  clear y0 y1 y2 y3 y4
  refine Calls.mono (heavyC_at c sa sc w1 (HE.out w1 HB1.out)) ?_
  rintro u w2 ⟨rfl, hb2⟩
  have HBb2 : Hid (Below W0.heap.size W0 w2) := HBb1.out.trans (hb2.mono HBb1.out.size)
  have HB2 : Hid (Below w.heap.size w w2) := HB1.out.trans (hb2.mono HB1.out.size)
  clear hb2
  cases hh : heavyC c
  · rw [show one01 false = 0 from rfl]
    have HSm : Hid (SmallC c) := heavyC_small hh
    clear hh
    obtain ⟨y0, y1, y2, y3, y4⟩ := HY.out w2 HBb2.out
    go_wp2_with fail
    clear y0 y1 y2 y3 y4
    refine Calls.mono (cfault_at c sa sc w2 (HE.out w2 HB2.out) HSm.out) ?_
    rintro u w3 ⟨rfl, hb3⟩
    have HBb3 : Hid (Below W0.heap.size W0 w3) := HBb2.out.trans (hb3.mono HBb2.out.size)
    have HB3 : Hid (Below w.heap.size w w3) := HB2.out.trans (hb3.mono HB2.out.size)
    clear hb3
    obtain ⟨code, hcode⟩ : ∃ x, x = (cfgErr c).1 := ⟨_, rfl⟩
    rw [← hcode]
    have hfl := fld_fault (code : Int) (cfgErr c).2 w3
    have HCo : Hid (code = (cfgErr c).1) := hcode
    clear hcode
    by_cases hc0 : code = 0
    · subst hc0
      simp only [Int.ofNat_zero] at hfl ⊢
      have h0 : (cfgErr c).1 = 0 := HCo.out.symm
      have HR : Hid (KRt c) := krt_of h0
      have HFi : Hid _ := fit_at acts sl slc 60 w3 (HAc.out w3 HB3.out) HLn.out
      have HFr : Hid (∀ V, Below w.heap.size w V → Calls Tryz.prog 13 #[.agg #[.int .i64 c.closed, .int .i64 c.opn, .int .i64 c.cycle, .int .i64 c.delay, .slice sa c.ents.length sc]] V fun u w' => FrOut V c u w') := fun V hV => fresh_at A c sa sc V (HSv.out V hV) h0 (HE.out V hV) HSm.out
      clear h0
      go_wp2_with fail
      clear hfl
      refine Calls.mono HFi.out ?_
      rintro u w4 ⟨b, rfl, rfl, hfit⟩
      clear HFi
      cases b
      · go_wp2
        go_ret
        exact ⟨rfl, HB3.out⟩
      · have HFt : Hid (Fits1 acts 60) := hfit rfl
        clear hfit
        by_cases hn0 : n < 0
        · go_wp2
          go_ret
          exact ⟨rfl, HB3.out⟩
        by_cases hn1 : 2000 < n
        · go_wp2
          go_ret
          exact ⟨rfl, HB3.out⟩
        go_upto_region 4 with fail
        go_cut [8] (fun i wx => i = .int .i64 0 ∧ wx = w4)
        case first =>
          go_wp2_with fail
          go_meet
          case rel => exact ⟨rfl, rfl⟩
        obtain ⟨rfl, rfl⟩ := hcut
        rename World => w4
        clear HBb1 HB1 HBb2 HB2
        go_wp2_with fail
        go_loopw [8, 9] (fun i _ wr => ∃ k : Nat, k ≤ c.ents.length ∧ i = .int .i64 k ∧ Hid (∀ j e, j < k → c.ents[j]? = some e → quietE e) ∧ Hid (Below W0.heap.size W0 wr) ∧ Hid (Below w.heap.size w wr)) (fun i _ _ => c.ents.length - (intOf i).toNat)
        case atStart => exact ⟨0, Nat.zero_le _, rfl, fun j e hj => absurd hj (Nat.not_lt_zero _), HBb3.out, HB3.out⟩
        case round =>
          clear HBb3 HB3
          obtain ⟨k, hk, rfl, HQ, HBr, HBw⟩ := hrel
          by_cases hlt : k < c.ents.length
          · obtain ⟨e, he⟩ : ∃ e, c.ents[k]? = some e := ⟨_, List.getElem?_eq_getElem hlt⟩
            obtain ⟨-, -, -, -, y4⟩ := HY.out wr HBr.out
            obtain ⟨E, eb, eo, rfl, hP, hce⟩ := EntsAt.ent1 (HE.out wr HBw.out) he
            have k1 : (k : Int) < (c.ents.length : Int) := by omega
            have k8 : c.ents.length ≤ 8 := HR.out.nn
            have x0 : wr.cell? ⟨eb, eo + k * 10, none⟩ = some (.string e.name) := hce 0 _ rfl
            have x1 : wr.cell? ⟨eb, eo + k * 10 + 1, none⟩ = some (.int .i64 e.tol) := hce 1 _ rfl
            have x2 : wr.cell? ⟨eb, eo + k * 10 + 2, none⟩ = some (.slice E.pa e.pts.length E.pc) := hce 2 _ rfl
            have x3 : wr.cell? ⟨eb, eo + k * 10 + 3, none⟩ = some (.int .i64 e.cnt) := hce 3 _ rfl
            have x4 : wr.cell? ⟨eb, eo + k * 10 + 4, none⟩ = some (.int .i64 e.mn) := hce 4 _ rfl
            have x5 : wr.cell? ⟨eb, eo + k * 10 + 5, none⟩ = some (.int .i64 e.mx) := hce 5 _ rfl
            have x6 : wr.cell? ⟨eb, eo + k * 10 + 6, none⟩ = some (.slice E.ga e.gaps.length E.gc) := hce 6 _ rfl
            have x7 : wr.cell? ⟨eb, eo + k * 10 + 7, none⟩ = some (.slice E.ea e.edges.length E.ec) := hce 7 _ rfl
            have x8 : wr.cell? ⟨eb, eo + k * 10 + 8, none⟩ = some (.slice E.fa e.first.length E.fc) := hce 8 _ rfl
            have x9 : wr.cell? ⟨eb, eo + k * 10 + 9, none⟩ = some (.slice E.la e.last.length E.lc) := hce 9 _ rfl
            have HEt : Hid (c.ents[k]? = some e) := he
            clear hP hce he
            go_wp2_with fail
            clear x0 x1 x2 x3 x4 x5 x6 x7 x8 x9
            refine Calls.mono (quiet_at e E wr) ?_
            rintro u w5 ⟨rfl, hb5⟩
            have HBr5 : Hid (Below W0.heap.size W0 w5) := HBr.out.trans (hb5.mono HBr.out.size)
            have HBw5 : Hid (Below w.heap.size w w5) := HBw.out.trans (hb5.mono HBw.out.size)
            clear hb5
            cases hqb : quietB e
            · go_wp2
              go_ret
              exact ⟨rfl, HBw5.out⟩
            · have HQ2 : Hid (∀ j e, j < k + 1 → c.ents[j]? = some e → quietE e) := fun j x hj hx => by
                by_cases e2 : j = k
                · subst e2
                  rw [HEt.out] at hx
                  cases hx
                  exact quietB_is hqb
                · exact HQ.out j x (by omega) hx
              go_wp2_with fail
              go_roundw
              case rel => exact ⟨k + 1, by omega, by go_num, HQ2.out, HBr5.out, HBw5.out⟩
              case measure => simp [intOf]; omega
          · have k1 : ¬ (k : Int) < (c.ents.length : Int) := by omega
            have HQa : Hid (∀ e ∈ c.ents, quietE e) := fun e he => by
              obtain ⟨j, hj⟩ := List.getElem?_of_mem he
              exact HQ.out j e (by have := (List.getElem?_eq_some_iff.1 hj).1; omega) hj
            clear HQ
            obtain ⟨y0, y1, y2, y3, y4⟩ := HY.out wr HBr.out
            go_wp2_with fail
            clear y0 y1 y2 y3 y4
            refine Calls.mono (HFr.out wr HBw.out) ?_
            rintro u w5 ⟨kb, bc, F, rfl, hat, hb5, hF5⟩
            have HI : Hid (KqI wr w5 c kb bc acts 0 (KSt.new c (CSt.new 4096))) := ⟨⟨F, hat, fun k hk => (hF5 k hk).1⟩, ⟨Quiet.new, Calm.new⟩, kfit_new HR.out, Nat.zero_le _⟩
            have HSw : Hid (SenK A wr) := HSv.out wr HBw.out
            have HBl : Hid (∀ V, Below wr.heap.size wr V → Below w.heap.size w V ∧ Below W0.heap.size W0 V) := fun V hV => ⟨HBw.out.trans (hV.mono HBw.out.size), HBr.out.trans (hV.mono HBr.out.size)⟩
            clear hat hb5 hF5 HFr HSv HE hk hlt k1
            go_upto_region 13 with fail
            go_cut [13] (fun i wx => i = .int .i64 0 ∧ wx = w5)
            case first =>
              go_wp2_with fail
              go_meet
              case rel => exact ⟨rfl, rfl⟩
            obtain ⟨rfl, rfl⟩ := hcut
            rename World => w5
            go_wp2_with fail
            obtain ⟨Wf, hWf⟩ : ∃ X, X = wr := ⟨_, rfl⟩
            rw [← hWf] at HI HSw HBl
            clear hWf HBr HBw
            go_loopw [13] (fun i wr => ∃ (k : Nat) (K : KSt), k ≤ acts.length ∧ i = .int .i64 k ∧ Hid (KqI Wf wr c kb bc acts k K)) (fun i _ => acts.length - (intOf i).toNat)
            case atStart => exact ⟨0, _, Nat.zero_le _, rfl, HI.out⟩
            case round =>
              clear HI
              obtain ⟨k, K, hk, rfl, HI⟩ := hrel
              obtain ⟨F, hat, hF⟩ := HI.out.at'
              have HBf : Hid (Below Wf.heap.size Wf wr) := hat.bel
              have hl60 : acts.length ≤ 60 := by have := HFt.out.len; omega
              have hts : ticksOf acts ≤ 1500 := HFt.out.sum
              have hnw : K.d.now ≤ 1500 := by have h1 := HI.out.now; have h2 := ticksOf_le acts k; omega
              by_cases hlt : k < acts.length
              · obtain ⟨a, ha⟩ : ∃ a, acts[k]? = some a := ⟨_, List.getElem?_eq_getElem hlt⟩
                obtain ⟨ab, ao, rfl, c0, c1, c2, c3⟩ := act_cells (HAc.out wr (HBl.out wr HBf.out).1) ha
                have k1 : (k : Int) < (acts.length : Int) := by omega
                have hsum := ticksOf_take ha
                have hsl := ticksOf_le acts (k + 1)
                have hmono : ticksOf (acts.take k) ≤ ticksOf (acts.take (k + 1)) := by omega
                have HBg : Hid (KePost F Wf wr c kb bc (K.begin a.e).1 wr → True) := fun _ => trivial
                have HStp : Hid (∀ K' wr', KePost F Wf wr c kb bc K' wr' → QC c K' → KFit c K' (k + 1) (144 * K'.d.now) → K'.d.now ≤ ticksOf (acts.take (k + 1)) → KqI Wf wr' c kb bc acts (k + 1) K') := fun K' wr' hp hq hf hn => KqI.step hF HBf.out.size hp hq hf hn
                have HSame : Hid (KqI Wf wr c kb bc acts (k + 1) K) := ⟨⟨F, hat, hF⟩, HI.out.qc, HI.out.fit.mono (by omega) (Nat.le_refl _), by have := HI.out.now; omega⟩
                have hq := HI.out.qc
                have hft := HI.out.fit
                have hno := HI.out.now
                cases p1 : (a.kind.toList == [98, 101, 103, 105, 110])
                · cases p2 : (a.kind.toList == [115, 116, 111, 112])
                  · cases p3 : (a.kind.toList == [114, 101, 112, 111, 114, 116])
                    · cases p4 : (a.kind.toList == [116, 105, 99, 107])
                      · clear hq hft hno HStp HBg hsum hsl hat c1 c2 c3
                        go_wp2_with fail
                        go_roundw
                        case rel => exact ⟨k + 1, K, by omega, by go_num, HSame.out⟩
                        case measure => simp [intOf]; omega
                      · have htk : a.tick = true := p4
                        rw [htk, if_pos rfl] at hsum
                        have HX : Hid _ := ke_ticks a.n hat HSw.out HR.out hft (by omega) (by omega)
                        obtain ⟨t1, t2, t3⟩ := QC.ticks HR.out HQa.out a.n.toNat K hq hft (by omega)
                        have HK' : Hid (∀ wr', KePost F Wf wr c kb bc (K.ticks c a.n.toNat).1 wr' → KqI Wf wr' c kb bc acts (k + 1) (K.ticks c a.n.toNat).1) := fun wr' hp => HStp.out _ wr' hp t1 ((KFit.ticks HR.out a.n.toNat K hft (by omega)).1.mono (by omega) (Nat.le_refl _)) (by omega)
                        rw [t2, show errVal A 0 = .nilIface from rfl] at HX
                        clear hq hft hno HStp HBg hsum hsl hat c1 c2 t1 t2 t3 htk HSame
                        go_wp2_with fail
                        refine Calls.mono HX.out ?_
                        rintro u w6 ⟨rfl, hp6⟩
                        have HN : Hid _ := HK'.out w6 hp6
                        clear hp6 HK' HX
                        go_wp2_with fail
                        go_roundw
                        case rel => exact ⟨k + 1, _, by omega, by go_num, HN.out⟩
                        case measure => simp [intOf]; omega
                    · have HX : Hid _ := ke_report a.e a.p (hat.below (below_drewN (Below.refl _ _) 1 : Below wr.heap.size wr wr.drew)) HSw.out HR.out hft (by omega)
                      have HK' : Hid (∀ wr', KePost F Wf wr.drew c kb bc (K.report c a.e a.p).1 wr' → KqI Wf wr' c kb bc acts (k + 1) (K.report c a.e a.p).1) := fun wr' hp => HStp.out _ wr' (hp.from (below_drewN (Below.refl _ _) 1)) (hq.report a.e a.p) (by rw [report_now]; exact hft.report a.e a.p) (by rw [report_now]; omega)
                      have HCe : Hid (∀ V, Below Wf.heap.size Wf V → V.cell? ⟨ab, ao + k * 4 + 1, none⟩ = some (.int .i64 a.e) ∧ V.cell? ⟨ab, ao + k * 4 + 2, none⟩ = some (.int .i64 a.p)) := fun V hV => by
                        obtain ⟨ab', ao', e1, -, d1, d2, -⟩ := act_cells (HAc.out V (HBl.out V hV).1) ha
                        cases e1
                        exact ⟨d1, d2⟩
                      clear hq hft hno HStp HBg hsum hsl hat c3 HSame ha
                      go_upto_region 22 with fail
                      go_region_held3 (fun V => V.cell? ⟨ab, ao + k * 4 + 1, none⟩ = some (.int .i64 a.e) ∧ V.cell? ⟨ab, ao + k * 4 + 2, none⟩ = some (.int .i64 a.p)) (first | exact ⟨c1, c2⟩ | exact d12) (first | (go_at_call 16; refine Calls.mono HX.out ?_; rintro u w6 ⟨rfl, hp6⟩; have HN := HK'.out w6 hp6; have d12 := HCe.out w6 hp6.1.bel))
                      have HN' : Hid _ := HN
                      clear HN hp6 d12 HK' HX HCe
                      go_wp2_with fail
                      go_roundw
                      case rel => exact ⟨k + 1, _, by omega, by go_num, HN'.out⟩
                      case measure => simp [intOf]; omega
                  · have HX : Hid _ := ke_stop a.e hat HSw.out HR.out
                    have HK' : Hid (∀ wr', KePost F Wf wr c kb bc (K.stop a.e).1 wr' → KqI Wf wr' c kb bc acts (k + 1) (K.stop a.e).1) := fun wr' hp => HStp.out _ wr' hp (hq.stop a.e) (by rw [stop_now]; exact hft.stop a.e) (by rw [stop_now]; omega)
                    clear hq hft hno HStp HBg hsum hsl hat c2 c3 HSame
                    go_wp2_with fail
                    refine Calls.mono HX.out ?_
                    rintro u w6 ⟨rfl, hp6⟩
                    have HN : Hid _ := HK'.out w6 hp6
                    clear hp6 HK' HX
                    go_wp2_with fail
                    go_roundw
                    case rel => exact ⟨k + 1, _, by omega, by go_num, HN.out⟩
                    case measure => simp [intOf]; omega
                · have HX : Hid _ := ke_begin a.e hat HSw.out HR.out
                  have HK' : Hid (∀ wr', KePost F Wf wr c kb bc (K.begin a.e).1 wr' → KqI Wf wr' c kb bc acts (k + 1) (K.begin a.e).1) := fun wr' hp => HStp.out _ wr' hp (hq.begin a.e) (by rw [begin_now]; exact hft.begin a.e) (by rw [begin_now]; omega)
                  clear hq hft hno HStp HBg hsum hsl hat c2 c3 HSame
                  go_wp2_with fail
                  refine Calls.mono HX.out ?_
                  rintro u w6 ⟨rfl, hp6⟩
                  have HN : Hid _ := HK'.out w6 hp6
                  clear hp6 HK' HX
                  go_wp2_with fail
                  go_roundw
                  case rel => exact ⟨k + 1, _, by omega, by go_num, HN.out⟩
                  case measure => simp [intOf]; omega
              · have k1 : ¬ (k : Int) < (acts.length : Int) := by omega
                have HX : Hid _ := ke_ticks n hat HSw.out HR.out HI.out.fit (by omega) (by omega)
                obtain ⟨t1, t2, t3⟩ := QC.ticks HR.out HQa.out n.toNat K HI.out.qc HI.out.fit (by omega)
                rw [t2, show errVal A 0 = .nilIface from rfl] at HX
                obtain ⟨K2, hK2⟩ : ∃ X, X = (K.ticks c n.toNat).1 := ⟨_, rfl⟩
                rw [← hK2] at t1 t3 HX
                have HQ2 : Hid (QC c K2 ∧ K2.d.now ≤ 3600) := ⟨t1, by omega⟩
                have HFb : Hid (∀ wr', KePost F Wf wr c kb bc K2 wr' → Below w.heap.size w wr' ∧ Below W0.heap.size W0 wr') := fun wr' hp => HBl.out wr' (Off.below HBf.out hp.2 HBf.out.size hF)
                clear hat hF t1 t2 t3 hK2 HI hk hlt hnw hts
                go_wp2_with fail
                refine Calls.mono HX.out ?_
                rintro u w6 ⟨rfl, hp6⟩
                obtain ⟨HBw6, HBr6⟩ : Hid (Below w.heap.size w w6) ∧ Hid (Below W0.heap.size W0 w6) := HFb.out w6 hp6
                have HAt : Hid _ := hp6.1
                have hst := kat_state hp6.1
                rw [KSt.on_zero.2 ⟨HQ2.out.1.a.off, HQ2.out.1.q.res⟩, show stateB 0 = ⟨#[111, 110]⟩ from rfl] at hst
                have hto := kat_total hp6.1
                rw [HQ2.out.1.q.st, show totB 0 = ⟨#[111, 107]⟩ from rfl] at hto
                have HSt : Hid _ := hst
                have HTo : Hid _ := hto
                clear hp6 hst hto HX HFb
                go_wp2_with fail
                refine Calls.mono HSt.out ?_
                rintro u w7 ⟨rfl, rfl⟩
                go_wp2_with fail
                refine Calls.mono HTo.out ?_
                rintro u w7 ⟨rfl, rfl⟩
                clear HSt HTo
                obtain ⟨y0, -, y2, -, -⟩ := HY.out w7 HBr6.out
                obtain ⟨cy, hcy⟩ : ∃ x : Nat, c.cycle = (x : Int) := ⟨c.cycle.toNat, by have := HR.out.cy; omega⟩
                obtain ⟨cl, hcl⟩ : ∃ x : Nat, c.closed = (x : Int) := ⟨c.closed.toNat, by have := HR.out.cl; omega⟩
                have hcy1 : 1 ≤ cy ∧ cy ≤ 100 := by have := HR.out.cy; omega
                have hcl1 : cl ≤ 1000 := by have := HR.out.cl; omega
                rw [hcy] at y2
                rw [hcl] at y0
                have HKk : Hid ((K2.d.kicks, K2.d.begun) = qk cl cy (K2.d.now / cy) ∧ K2.L = [] ∧ K2.d.now ≤ 3600) := by
                  have := HQ2.out.1.q.kk
                  rw [hcy, hcl] at this
                  exact ⟨this, HQ2.out.1.q.none, HQ2.out.2⟩
                have HNw : Hid _ := kat_now HAt.out
                have HKi : Hid _ := kat_kicks HAt.out
                have HLg : Hid _ := ke_log HAt.out (by rw [HKk.out.2.1]; decide)
                rw [HKk.out.2.1] at HLg
                clear hcy hcl HQ2 HAt HR HY
                generalize K2.d.now = nw at HNw HKk
                generalize K2.d.kicks = kk at HKi HKk
                generalize K2.d.begun = bg at HKk
                go_upto_region 30 with fail
                go_cut [14, 15, 16] (fun a b t wx => a = .int .i64 0 ∧ b = .int .i64 0 ∧ t = .int .i64 (cy : Int) ∧ wx = w7)
                case first =>
                  go_wp2_with fail
                  go_meet
                  case rel => exact ⟨rfl, rfl, rfl, rfl⟩
                obtain ⟨rfl, rfl, rfl, rfl⟩ := hcut
                rename World => w7
                go_wp2_with fail
                go_loopw [14, 15, 16] (fun a b t wr => wr = w7 ∧ ∃ m : Nat, m * cy ≤ nw ∧ a = .int .i64 ((qk cl cy m).1 : Int) ∧ b = .int .i64 ((qk cl cy m).2 : Int) ∧ t = .int .i64 (((m + 1) * cy : Nat) : Int) ∧ (qk cl cy m).1 ≤ m) (fun _ _ t _ => nw + 1 - (intOf t).toNat)
                case atStart => exact ⟨rfl, 0, by omega, rfl, rfl, by rw [Nat.zero_add, Nat.one_mul], Nat.le_refl _⟩
                case round =>
                  obtain ⟨rfl, m, hm, rfl, rfl, rfl, hle⟩ := hrel
                  have hmm : (m + 1) * cy = m * cy + cy := Nat.succ_mul m cy
                  have hnw := HKk.out.2.2
                  have hml : m ≤ m * cy := Nat.le_mul_of_pos_right m (by omega)
                  obtain ⟨q1, q2⟩ := qk_le cl cy m
                  by_cases hlt : (m + 1) * cy ≤ nw
                  · have k1 : (((m + 1) * cy : Nat) : Int) ≤ (nw : Int) := by omega
                    have hqs : qk cl cy (m + 1) = if cl < (m + 1) * cy - (qk cl cy m).2 then ((qk cl cy m).1 + 1, (m + 1) * cy) else qk cl cy m := rfl
                    obtain ⟨kq, hkq⟩ : ∃ x, x = (qk cl cy m).1 := ⟨_, rfl⟩
                    obtain ⟨lq, hlq⟩ : ∃ x, x = (qk cl cy m).2 := ⟨_, rfl⟩
                    obtain ⟨T, hT⟩ : ∃ x, x = (m + 1) * cy := ⟨_, rfl⟩
                    rw [← hkq, ← hlq, ← hT] at hqs
                    rw [← hT] at k1 hmm hlt ⊢
                    rw [← hkq] at hle ⊢
                    rw [← hlq] at q1 q2 ⊢
                    have hT2 : (m + 1 + 1) * cy = T + cy := by rw [Nat.succ_mul (m + 1) cy, ← hT]
                    have HT2 : Hid ((m + 1 + 1) * cy = T + cy) := hT2
                    have HT : Hid (T = (m + 1) * cy) := hT
                    have hw1 : IntKind.i64.wrap ((T : Int) - (lq : Int)) = (T : Int) - (lq : Int) := by rw [IntKind.wrap_i64]; omega
                    have hw2 : IntKind.i64.wrap ((T : Int) + (cy : Int)) = (T : Int) + (cy : Int) := by rw [IntKind.wrap_i64]; omega
                    have hw3 : IntKind.i64.wrap ((kq : Int) + 1) = (kq : Int) + 1 := by rw [IntKind.wrap_i64]; omega
                    have HKq : Hid (kq = (qk cl cy m).1 ∧ lq = (qk cl cy m).2) := ⟨hkq, hlq⟩
                    by_cases hg : cl < T - lq
                    · have g1 : (cl : Int) < (T : Int) - (lq : Int) := by omega
                      have HS : Hid (qk cl cy (m + 1) = (kq + 1, T)) := by show _ = _; rw [hqs, if_pos hg]
                      clear hqs hkq hlq hT hT2 hmm hml q1 q2
                      go_wp2_with fail
                      refine Calls.mono HNw.out ?_
                      rintro u w8 ⟨rfl, rfl⟩
                      go_wp2_with fail
                      go_roundw
                      case rel => exact ⟨trivial, m + 1, by rw [← HT.out]; exact hlt, by rw [HS.out]; show _ = Value.int .i64 ((kq + 1 : Nat) : Int); go_num, congrArg (fun x : Nat => Value.int .i64 (x : Int)) (show T = (qk cl cy (m + 1)).2 by rw [HS.out]), by rw [HT2.out]; go_num, by rw [HS.out]; show kq + 1 ≤ m + 1; omega⟩
                      case measure => simp [intOf]; omega
                    · have g1 : ¬ (cl : Int) < (T : Int) - (lq : Int) := by omega
                      have HS : Hid (qk cl cy (m + 1) = qk cl cy m) := by show _ = _; rw [hqs, if_neg hg]
                      clear hqs hkq hlq hT hT2 hmm hml q1 q2
                      go_wp2_with fail
                      refine Calls.mono HNw.out ?_
                      rintro u w8 ⟨rfl, rfl⟩
                      go_wp2_with fail
                      go_roundw
                      case rel => exact ⟨trivial, m + 1, by rw [← HT.out]; exact hlt, by rw [HS.out, HKq.out.1], by rw [HS.out, HKq.out.2], by rw [HT2.out]; go_num, by rw [HS.out, ← HKq.out.1]; omega⟩
                      case measure => simp [intOf]; omega
                  · have k1 : ¬ (((m + 1) * cy : Nat) : Int) ≤ (nw : Int) := by omega
                    have hdm : nw / cy = m := Nat.div_eq_of_lt_le hm (by omega)
                    have HE1 : Hid (kk = (qk cl cy m).1) := by
                      have := HKk.out.1
                      rw [hdm] at this
                      exact congrArg Prod.fst this
                    rw [← HE1.out]
                    generalize (m + 1) * cy = T at k1 ⊢
                    clear hdm q1 q2 hmm hml hle hm hlt
                    go_wp2_with fail
                    refine Calls.mono HNw.out ?_
                    rintro u w8 ⟨rfl, rfl⟩
                    go_wp2_with fail
                    refine Calls.mono HKi.out ?_
                    rintro u w8 ⟨rfl, rfl⟩
                    go_wp2_with fail
                    refine Calls.mono HLg.out ?_
                    rintro u w9 ⟨v9, rfl, hr9, hb9⟩
                    obtain ⟨s9, c9, rfl⟩ := ow_form hr9
                    have HBe : Hid (Below w.heap.size w w9) := HBw6.out.trans (hb9.mono HBw6.out.size)
                    clear hr9 hb9
                    rw [show ([] : List Rec).length = 0 from rfl]
                    go_wp2
                    go_ret
                    exact ⟨rfl, HBe.out⟩
    · have g0 : 0 < (code : Int) := by omega
      go_wp2
      go_ret
      exact ⟨rfl, HB3.out⟩
  · rw [show one01 true = 1 from rfl]
    go_wp2
    go_ret
    exact ⟨rfl, HB2.out⟩
end Go.Proofs.YtkphpgdgbnmnjacGreatDoor
