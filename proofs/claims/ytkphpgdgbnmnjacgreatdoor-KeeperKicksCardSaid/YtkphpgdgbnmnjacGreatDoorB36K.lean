/-
  nightwatchlaw1.HeavyEntity, HeavyConfig and faulted, and the document's IsName, by contracts. Conditions: what is read lies in memory; the sentinels are in memory.
-/
import Derived.Test.YtkphpgdgbnmnjacGreatDoorB31K
import Derived.Test.YtkphpgdgbnmnjacGreatDoorB33K
import Derived.Test.YtkphpgdgbnmnjacGreatDoorB22K
import Derived.Test.YtkphpgdgbnmnjacGreatDoorB27K
namespace Go.Proofs.YtkphpgdgbnmnjacGreatDoor
open Go.RowKit Go.Extern.Stop Go.Stop Go.Extern

def heavyC (c : CfgD) : Bool := decide (12 < c.ents.length) || c.ents.any heavyE
theorem heavyC_small {c : CfgD} (h : heavyC c = false) : SmallC c := by
  unfold heavyC at h
  simp only [Bool.or_eq_false_iff, decide_eq_false_iff_not] at h
  exact ⟨by omega, fun e he => heavyE_small (by simpa using List.any_eq_false.1 h.2 e he)⟩
set_option maxHeartbeats 2000000 in
set_option maxRecDepth 100000 in
theorem heavyC_at (c : CfgD) (sa : Option Addr) (sc : Nat) (w : World) (hE : EntsAt w (.slice sa c.ents.length sc) c.ents) :
    Calls Tryz.prog 9 #[.agg #[.int .i64 c.closed, .int .i64 c.opn, .int .i64 c.cycle, .int .i64 c.delay, .slice sa c.ents.length sc]] w fun v w' => v = .returned (.int .i64 (one01 (heavyC c))) ∧ Below w.heap.size w w' := by
  have HE : Hid (EntsAt w (.slice sa c.ents.length sc) c.ents) := hE
  clear hE
  by_cases h0 : 12 < c.ents.length
  · have HV : Hid (heavyC c = true) := by show _ = _; unfold heavyC; simp [h0]
    have g0 : (12 : Int) < (c.ents.length : Int) := by omega
    clear h0
    go_enter Tryz.func9, Tryz.ntmps9
    go_wp2
    go_ret
    exact ⟨by first | rfl | (rw [HV.out]; rfl), Below.one _ _⟩
  have g0 : ¬ (12 : Int) < (c.ents.length : Int) := by omega
  have HV0 : Hid (heavyC c = c.ents.any heavyE) := by show _ = _; unfold heavyC; simp [h0]
  have HLn : Hid (c.ents.length ≤ 12) := by show _ ≤ _; omega
  clear h0
  go_enter Tryz.func9, Tryz.ntmps9
  go_upto_region 3 with fail
  obtain ⟨W0, hW0⟩ : ∃ V, V = w.alloc (.cells #[.int .i64 c.closed, .int .i64 c.opn, .int .i64 c.cycle, .int .i64 c.delay, .slice sa c.ents.length sc] 24) := ⟨_, rfl⟩
  rw [← hW0]
  have HX : Hid (W0.heap[w.heap.size]? = some (.cells #[.int .i64 c.closed, .int .i64 c.opn, .int .i64 c.cycle, .int .i64 c.delay, .slice sa c.ents.length sc] 24 (0, 0))) := by show _ = _; rw [hW0]; exact heap_alloc_new w _
  have HBl0 : Hid (Below w.heap.size w W0) := by show Below _ _ _; rw [hW0]; exact Below.one _ _
  clear hW0 g0
  go_wp2_with fail
  go_loopw [3] (fun i wr => ∃ k : Nat, k ≤ c.ents.length ∧ i = .int .i64 k ∧ Below W0.heap.size W0 wr ∧ Hid (∀ (j : Nat) q, j < k → c.ents[j]? = some q → heavyE q = false)) (fun i _ => c.ents.length - (intOf i).toNat)
  case atStart => exact ⟨0, Nat.zero_le _, rfl, Below.refl _ _, fun j q hj => absurd hj (Nat.not_lt_zero _)⟩
  case round =>
    obtain ⟨k, hk, rfl, hb0, hall⟩ := hrel
    have hbl : Below w.heap.size w wr := HBl0.out.trans (hb0.mono HBl0.out.size)
    have s4 : wr.cell? ⟨w.heap.size, 4, none⟩ = some (.slice sa c.ents.length sc) := by have := row_below hb0 HX.out; simp [World.cell?, this]
    have HB : Hid (Below W0.heap.size W0 wr) := hb0
    by_cases hlt : k < c.ents.length
    · obtain ⟨e, hq⟩ : ∃ e, c.ents[k]? = some e := ⟨_, List.getElem?_eq_getElem hlt⟩
      obtain ⟨sa2, cap2, hsl, hcc⟩ := HE.out
      cases hsl
      obtain ⟨b, o, rfl, hc0⟩ := hcc (fun h => by rw [h] at hq; simp at hq)
      obtain ⟨pv, gv, ev, fv, lv, hparts, hcell⟩ := hc0 k e hq
      obtain ⟨pa, pc, rfl, -, -⟩ := id hparts.hp
      obtain ⟨ga, gc, rfl, -, -⟩ := id hparts.hg
      obtain ⟨ea, ec, rfl, -, -⟩ := id hparts.he
      obtain ⟨fa, fc, rfl, -, -⟩ := id hparts.hf
      obtain ⟨la, lc, rfl, -, -⟩ := id hparts.hl
      have c0 : wr.cell? ⟨b, o + k * 10, none⟩ = some (.string e.name) := cell_below hbl (hcell 0 _ rfl)
      have c1 : wr.cell? ⟨b, o + k * 10 + 1, none⟩ = some (.int .i64 e.tol) := cell_below hbl (hcell 1 _ rfl)
      have c2 : wr.cell? ⟨b, o + k * 10 + 2, none⟩ = some (.slice pa e.pts.length pc) := cell_below hbl (hcell 2 _ rfl)
      have c3 : wr.cell? ⟨b, o + k * 10 + 3, none⟩ = some (.int .i64 e.cnt) := cell_below hbl (hcell 3 _ rfl)
      have c4 : wr.cell? ⟨b, o + k * 10 + 4, none⟩ = some (.int .i64 e.mn) := cell_below hbl (hcell 4 _ rfl)
      have c5 : wr.cell? ⟨b, o + k * 10 + 5, none⟩ = some (.int .i64 e.mx) := cell_below hbl (hcell 5 _ rfl)
      have c6 : wr.cell? ⟨b, o + k * 10 + 6, none⟩ = some (.slice ga e.gaps.length gc) := cell_below hbl (hcell 6 _ rfl)
      have c7 : wr.cell? ⟨b, o + k * 10 + 7, none⟩ = some (.slice ea e.edges.length ec) := cell_below hbl (hcell 7 _ rfl)
      have c8 : wr.cell? ⟨b, o + k * 10 + 8, none⟩ = some (.slice fa e.first.length fc) := cell_below hbl (hcell 8 _ rfl)
      have c9 : wr.cell? ⟨b, o + k * 10 + 9, none⟩ = some (.slice la e.last.length lc) := cell_below hbl (hcell 9 _ rfl)
      have HQ : Hid (c.ents[k]? = some e) := hq
      have HC0 := heavyE_at e pa ga ea fa la pc gc ec fc lc wr (hparts.hp.below hbl)
      have k1 : (k : Int) < (c.ents.length : Int) := by omega
      have k2 : (0 : Int) ≤ (k : Int) := by omega
      have k0 : k < 12 := by have := HLn.out; omega
      cases hh : heavyE e with
      | true =>
        rw [hh, show one01 true = 1 from rfl] at HC0
        have HC : Hid _ := HC0
        have HM : Hid (heavyC c = true) := by show _ = _; rw [HV0.out]; exact List.any_eq_true.2 ⟨e, List.mem_of_getElem? hq, hh⟩
        have HBl : Hid (Below w.heap.size w wr) := hbl
        clear HC0 hh hq hcell hparts hcc hc0 hb0 hbl
        go_wp2_with fail
        refine Calls.mono HC.out ?_
        rintro v W1 ⟨rfl, hb1⟩
        go_wp2
        go_ret
        exact ⟨by first | rfl | (rw [HM.out]; rfl), HBl.out.trans (hb1.mono HBl.out.size)⟩
      | false =>
        rw [hh, show one01 false = 0 from rfl] at HC0
        have HC : Hid _ := HC0
        have HH : Hid (heavyE e = false) := hh
        clear HC0 hh hq hcell hparts hcc hc0 hb0 hbl
        go_wp2_with fail
        refine Calls.mono HC.out ?_
        rintro v W1 ⟨rfl, hb1⟩
        have HB1 : Hid (Below W0.heap.size W0 W1) := HB.out.trans (hb1.mono HB.out.size)
        clear hb1
        go_wp2
        go_roundw
        case rel =>
          refine ⟨k + 1, by omega, by go_num, HB1.out, fun j q' hj he => ?_⟩
          by_cases hjk : j = k
          · subst hjk
            have h2 := HQ.out
            rw [h2] at he
            cases he
            exact HH.out
          · exact hall.out j q' (by omega) he
        case measure => simp [intOf]; omega
    · have k1 : ¬ (k : Int) < (c.ents.length : Int) := by omega
      have HN : Hid (heavyC c = false) := by
        show _ = _
        rw [HV0.out, List.any_eq_false]
        intro q hq
        obtain ⟨j, hj, rfl⟩ := List.getElem_of_mem hq
        have := hall.out j _ (by omega) (List.getElem?_eq_getElem hj)
        simpa using this
      have HBl : Hid (Below w.heap.size w wr) := hbl
      clear hb0 hbl
      go_wp2
      go_ret
      exact ⟨by first | rfl | (rw [HN.out]; rfl), HBl.out⟩
end Go.Proofs.YtkphpgdgbnmnjacGreatDoor
