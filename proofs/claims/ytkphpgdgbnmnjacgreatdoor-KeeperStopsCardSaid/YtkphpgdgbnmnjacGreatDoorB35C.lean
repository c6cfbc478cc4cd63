/-
  Several texts as one: KeSee, KeCut, CellsCp, CfHeavy.
-/
import Derived.Test.YtkphpgdgbnmnjacGreatDoorB21C
import Derived.Test.YtkphpgdgbnmnjacGreatDoorB13C
import Derived.Test.YtkphpgdgbnmnjacGreatDoorB30C
import Derived.Test.YtkphpgdgbnmnjacGreatDoorB32C
import Derived.Test.YtkphpgdgbnmnjacGreatDoorB22C
import Derived.Test.YtkphpgdgbnmnjacGreatDoorB26C
namespace Go.Proofs.YtkphpgdgbnmnjacGreatDoor
open Go.RowKit Go.Extern.Stop Go.Stop Go.Extern

section
variable {A : Nat → Addr} {H : Nat → Nat → Prop} {F : Nat → Prop} {w0 w w' : World} {c : CfgD} {kb bc bd rb bt : Nat} {lv : Value} {bs : List Nat} {K : KSt} {k W : Nat}
theorem ke_log (h : KeAt F w0 w c kb bc K) (hl : K.L.length ≤ 8) :
    Calls Tryz.prog 22 #[.pointer (some ⟨kb, 0, none⟩)] w fun e w' => ∃ v', e = .returned v' ∧ Recs w' w.heap.size v' K.L ∧ Below w.heap.size w w' := by
  obtain ⟨H, bd, rb, bt, lv, bs, h1, -⟩ := h
  have c4 : w.cell? ⟨kb, 4, none⟩ = some (.pointer (some ⟨rb, 0, none⟩)) := h1.cell 4 _ rfl
  obtain ⟨v, hv, -⟩ := h1.ring.ring
  have HX : Hid _ := records_any _ rb bc v K.L K.sp w hv (by omega)
  clear h1 hv
  go_enter Tryz.func22, Tryz.ntmps22
  go_wp2_with fail
  refine Calls.mono HX.out ?_
  rintro e w1 ⟨v1, rfl, hr, hb⟩
  go_wp2
  go_ret
  exact ⟨_, rfl, hr, hb⟩
set_option maxRecDepth 100000 in
set_option maxHeartbeats 1000000 in
theorem ke_cause (h : KeAt F w0 w c kb bc K) (hl : K.L.length ≤ 8) :
    Calls Tryz.prog 27 #[.pointer (some ⟨kb, 0, none⟩)] w fun e w' => e = .returned (.tuple #[(lastR K.L).val, .bool (decide (0 < K.L.length))]) ∧ Below w.heap.size w w' := by
  obtain ⟨H, bd, rb, bt, lv, bs, h1, -⟩ := h
  have B1 := Below.one w (.cells #[.int .i64 ((Rec.none.seq : Nat) : Int), .int .i64 ((Rec.none.ent : Nat) : Int), .int .i64 ((Rec.none.kind : Nat) : Int), .int .i64 ((Rec.none.tick : Nat) : Int)] 57)
  have Z1 := RecRow.new w .none
  have h2 := h1.below B1
  obtain ⟨W, hW⟩ : ∃ W, w.alloc (.cells #[.int .i64 ((Rec.none.seq : Nat) : Int), .int .i64 ((Rec.none.ent : Nat) : Int), .int .i64 ((Rec.none.kind : Nat) : Int), .int .i64 ((Rec.none.tick : Nat) : Int)] 57) = W := ⟨_, rfl⟩
  rw [hW] at B1 Z1 h2
  have HW : Hid (w.alloc (.cells #[.int .i64 0, .int .i64 0, .int .i64 0, .int .i64 0] 57) = W) := hW
  clear hW
  have c4 : W.cell? ⟨kb, 4, none⟩ = some (.pointer (some ⟨rb, 0, none⟩)) := h2.cell 4 _ rfl
  obtain ⟨v, hv, -⟩ := h2.ring.ring
  have HX : Hid _ := last_any _ rb bc v K.L K.sp W hv (by omega)
  have HB1 : Hid _ := B1
  have HZ1 : Hid _ := Z1
  generalize lastR K.L = x at HX ⊢
  clear h1 hv h2 B1 Z1
  go_enter Tryz.func27, Tryz.ntmps27
  go_upto_region 1 with fail
  rw [HW.out]
  go_wp2_with fail
  refine Calls.mono HX.out ?_
  rintro e w1 ⟨rfl, hb⟩
  have Z2 : RecRow w1 w.heap.size .none := HZ1.out.below hb HZ1.out.lt
  obtain ⟨z0, z1, z2, z3⟩ := Z2.at
  have f0 := Z2.frozen 0
  have f1 := Z2.frozen 1
  have f2 := Z2.frozen 2
  have f3 := Z2.frozen 3
  have HB2 : Hid (Below w.heap.size w w1) := HB1.out.trans (hb.mono HB1.out.size)
  have HZ2 : Hid _ := Z2
  clear hb Z2 HX c4
  unfold Rec.val
  go_wp2_with fail
  refine bodyPost_ret (res_rec rfl _ _ w.heap.size x rfl (HZ2.out.set4 x).at) rfl ?_
  exact ⟨rfl, below_grown HB2.out (grown_set4 _ _ _ _ _ _) HB2.out.size (Nat.le_refl _)⟩
end
end Go.Proofs.YtkphpgdgbnmnjacGreatDoor

namespace Go.Proofs.YtkphpgdgbnmnjacGreatDoor
open Go.RowKit Go.Extern.Stop Go.Stop Go.Extern

section
variable {A : Nat → Addr} {F : Nat → Prop} {w0 w w' : World} {c : CfgD} {kb bc : Nat} {K : KSt}
theorem ke_cut (n : Int) (h : KeAt F w0 w c kb bc K) (hs : SenK A w0) :
    Calls Tryz.prog 28 #[.pointer (some ⟨bc, 0, none⟩), .int .i64 n] w fun e w' => e = .returned (errVal A (K.cut n).2) ∧ KePost F w0 w c kb bc (K.cut n).1 w' := by
  obtain ⟨H, bd, rb, bt, lv, bs, h1, hF⟩ := h
  refine (rgs_cut (A := A) h1.ring (h1.senv hs).four n).mono ?_
  rintro e w' ⟨rfl, h2, h3⟩
  have h4 := h1.toRing h3 h2
  have e1 : (K.cut n).1 = { K with c := (K.cut n).1.c, L := (K.cut n).1.L, sp := (K.cut n).1.sp } := by
    unfold KSt.cut
    split
    · rfl
    · split <;> rfl
  rw [← e1] at h4
  exact ⟨rfl, KeIn.post hF h3 h4⟩
theorem KeAt.cellsAt (h : KeAt F w0 w c kb bc K) : CellsAt w bc K.c := by
  obtain ⟨H, bd, rb, bt, lv, bs, h1, -⟩ := h
  exact h1.ring.cells
end
end Go.Proofs.YtkphpgdgbnmnjacGreatDoor

namespace Go.Proofs.YtkphpgdgbnmnjacGreatDoor
open Go.RowKit Go.Extern.Stop Go.Stop Go.Extern

set_option maxHeartbeats 1000000 in
theorem copy_any (b : Nat) (s : CSt) (w : World) (h : CellsAt w b s) :
    Calls Tryz.prog 29 #[.pointer (some ⟨b, 0, none⟩)] w fun e w' => e = .returned (.pointer (some ⟨w.heap.size, 0, none⟩)) ∧ Below w.heap.size w w' ∧ CellsAt w' w.heap.size s := by
  have hi : (Tryz.prog.info? 102).map (·.size) = some s.row.size := by rw [CSt.row_size _ h.len]; exact Tryz.infoCells
  have hzs : Tryz.zeroCells102.size = s.row.size := by rw [zero_row, CSt.row_size _ h.len, CSt.row_size _ (zeros_length _)]
  go_enter Tryz.func29, Tryz.ntmps29
  go_wp2_with (first | refine wpList_load_row rfl 102 _ rfl b rfl _ s.row _ _ h.heap Tryz.underlying102 rfl hi ?_ | refine wpList_store_row rfl 102 _ _ rfl w.heap.size s.row rfl rfl 102 Tryz.zeroCells102 (heap_alloc_new w _) hi hzs (CSt.row_one s) ?_)
  go_ret
  exact ⟨rfl, below_setRow ((Below.refl _ _).alloc (Nat.le_refl _) _) (Nat.le_refl _) _, ⟨setRow_heap _ _ _ _ _ _ (heap_alloc_new w _), h.len, h.size⟩⟩
end Go.Proofs.YtkphpgdgbnmnjacGreatDoor

namespace Go.Proofs.YtkphpgdgbnmnjacGreatDoor
open Go.RowKit Go.Extern.Stop Go.Stop Go.Extern

def heavyC (c : CfgD) : Bool := decide (12 < c.ents.length) || c.ents.any heavyE
theorem heavyC_small {c : CfgD} (h : heavyC c = false) : SmallC c := by
  unfold heavyC at h
  simp only [Bool.or_eq_false_iff, decide_eq_false_iff_not] at h
  exact ⟨by omega, fun e he => heavyE_small (by simpa using List.any_eq_false.1 h.2 e he)⟩
set_option maxHeartbeats 2000000 in
set_option maxRecDepth 100000 in
theorem heavyC_at (c : CfgD) (sa : Option Addr) (sc : Nat) (w : World) (hE : EntsAt w (.slice sa c.ents.length sc) c.ents) :
    Calls Tryz.prog 9 #[.agg #[.int .i64 c.closed, .int .i64 c.opn, .int .i64 c.cycle, .int .i64 c.delay, .slice sa c.ents.length sc]] w fun v w' => v = .returned (.int .i64 (one01 (heavyC c))) ∧ Below w.heap.size w w' := by
  have HE : Hid (EntsAt w (.slice sa c.ents.length sc) c.ents) := hE
  clear hE
  by_cases h0 : 12 < c.ents.length
  · have HV : Hid (heavyC c = true) := by show _ = _; unfold heavyC; simp [h0]
    have g0 : (12 : Int) < (c.ents.length : Int) := by omega
    clear h0
    go_enter Tryz.func9, Tryz.ntmps9
    go_wp2
    go_ret
    exact ⟨by first | rfl | (rw [HV.out]; rfl), Below.one _ _⟩
  have g0 : ¬ (12 : Int) < (c.ents.length : Int) := by omega
  have HV0 : Hid (heavyC c = c.ents.any heavyE) := by show _ = _; unfold heavyC; simp [h0]
  have HLn : Hid (c.ents.length ≤ 12) := by show _ ≤ _; omega
  clear h0
  go_enter Tryz.func9, Tryz.ntmps9
  go_upto_region 3 with fail
  obtain ⟨W0, hW0⟩ : ∃ V, V = w.alloc (.cells #[.int .i64 c.closed, .int .i64 c.opn, .int .i64 c.cycle, .int .i64 c.delay, .slice sa c.ents.length sc] 24) := ⟨_, rfl⟩
  rw [← hW0]
  have HX : Hid (W0.heap[w.heap.size]? = some (.cells #[.int .i64 c.closed, .int .i64 c.opn, .int .i64 c.cycle, .int .i64 c.delay, .slice sa c.ents.length sc] 24 (0, 0))) := by show _ = _; rw [hW0]; exact heap_alloc_new w _
  have HBl0 : Hid (Below w.heap.size w W0) := by show Below _ _ _; rw [hW0]; exact Below.one _ _
  clear hW0 g0
  go_wp2_with fail
  go_loopw [3] (fun i wr => ∃ k : Nat, k ≤ c.ents.length ∧ i = .int .i64 k ∧ Below W0.heap.size W0 wr ∧ Hid (∀ (j : Nat) q, j < k → c.ents[j]? = some q → heavyE q = false)) (fun i _ => c.ents.length - (intOf i).toNat)
  case atStart => exact ⟨0, Nat.zero_le _, rfl, Below.refl _ _, fun j q hj => absurd hj (Nat.not_lt_zero _)⟩
  case round =>
    obtain ⟨k, hk, rfl, hb0, hall⟩ := hrel
    have hbl : Below w.heap.size w wr := HBl0.out.trans (hb0.mono HBl0.out.size)
    have s4 : wr.cell? ⟨w.heap.size, 4, none⟩ = some (.slice sa c.ents.length sc) := by have := row_below hb0 HX.out; simp [World.cell?, this]
    have HB : Hid (Below W0.heap.size W0 wr) := hb0
    by_cases hlt : k < c.ents.length
    · obtain ⟨e, hq⟩ : ∃ e, c.ents[k]? = some e := ⟨_, List.getElem?_eq_getElem hlt⟩
      obtain ⟨sa2, cap2, hsl, hcc⟩ := HE.out
      cases hsl
      obtain ⟨b, o, rfl, hc0⟩ := hcc (fun h => by rw [h] at hq; simp at hq)
      obtain ⟨pv, gv, ev, fv, lv, hparts, hcell⟩ := hc0 k e hq
      obtain ⟨pa, pc, rfl, -, -⟩ := id hparts.hp
      obtain ⟨ga, gc, rfl, -, -⟩ := id hparts.hg
      obtain ⟨ea, ec, rfl, -, -⟩ := id hparts.he
      obtain ⟨fa, fc, rfl, -, -⟩ := id hparts.hf
      obtain ⟨la, lc, rfl, -, -⟩ := id hparts.hl
      have c0 : wr.cell? ⟨b, o + k * 10, none⟩ = some (.string e.name) := cell_below hbl (hcell 0 _ rfl)
      have c1 : wr.cell? ⟨b, o + k * 10 + 1, none⟩ = some (.int .i64 e.tol) := cell_below hbl (hcell 1 _ rfl)
      have c2 : wr.cell? ⟨b, o + k * 10 + 2, none⟩ = some (.slice pa e.pts.length pc) := cell_below hbl (hcell 2 _ rfl)
      have c3 : wr.cell? ⟨b, o + k * 10 + 3, none⟩ = some (.int .i64 e.cnt) := cell_below hbl (hcell 3 _ rfl)
      have c4 : wr.cell? ⟨b, o + k * 10 + 4, none⟩ = some (.int .i64 e.mn) := cell_below hbl (hcell 4 _ rfl)
      have c5 : wr.cell? ⟨b, o + k * 10 + 5, none⟩ = some (.int .i64 e.mx) := cell_below hbl (hcell 5 _ rfl)
      have c6 : wr.cell? ⟨b, o + k * 10 + 6, none⟩ = some (.slice ga e.gaps.length gc) := cell_below hbl (hcell 6 _ rfl)
      have c7 : wr.cell? ⟨b, o + k * 10 + 7, none⟩ = some (.slice ea e.edges.length ec) := cell_below hbl (hcell 7 _ rfl)
      have c8 : wr.cell? ⟨b, o + k * 10 + 8, none⟩ = some (.slice fa e.first.length fc) := cell_below hbl (hcell 8 _ rfl)
      have c9 : wr.cell? ⟨b, o + k * 10 + 9, none⟩ = some (.slice la e.last.length lc) := cell_below hbl (hcell 9 _ rfl)
      have HQ : Hid (c.ents[k]? = some e) := hq
      have HC0 := heavyE_at e pa ga ea fa la pc gc ec fc lc wr (hparts.hp.below hbl)
      have k1 : (k : Int) < (c.ents.length : Int) := by omega
      have k2 : (0 : Int) ≤ (k : Int) := by omega
      have k0 : k < 12 := by have := HLn.out; omega
      cases hh : heavyE e with
      | true =>
        rw [hh, show one01 true = 1 from rfl] at HC0
        have HC : Hid _ := HC0
        have HM : Hid (heavyC c = true) := by show _ = _; rw [HV0.out]; exact List.any_eq_true.2 ⟨e, List.mem_of_getElem? hq, hh⟩
        have HBl : Hid (Below w.heap.size w wr) := hbl
        clear HC0 hh hq hcell hparts hcc hc0 hb0 hbl
        go_wp2_with fail
        refine Calls.mono HC.out ?_
        rintro v W1 ⟨rfl, hb1⟩
        go_wp2
        go_ret
        exact ⟨by first | rfl | (rw [HM.out]; rfl), HBl.out.trans (hb1.mono HBl.out.size)⟩
      | false =>
        rw [hh, show one01 false = 0 from rfl] at HC0
        have HC : Hid _ := HC0
        have HH : Hid (heavyE e = false) := hh
        clear HC0 hh hq hcell hparts hcc hc0 hb0 hbl
        go_wp2_with fail
        refine Calls.mono HC.out ?_
        rintro v W1 ⟨rfl, hb1⟩
        have HB1 : Hid (Below W0.heap.size W0 W1) := HB.out.trans (hb1.mono HB.out.size)
        clear hb1
        go_wp2
        go_roundw
        case rel =>
          refine ⟨k + 1, by omega, by go_num, HB1.out, fun j q' hj he => ?_⟩
          by_cases hjk : j = k
          · subst hjk
            have h2 := HQ.out
            rw [h2] at he
            cases he
            exact HH.out
          · exact hall.out j q' (by omega) he
        case measure => simp [intOf]; omega
    · have k1 : ¬ (k : Int) < (c.ents.length : Int) := by omega
      have HN : Hid (heavyC c = false) := by
        show _ = _
        rw [HV0.out, List.any_eq_false]
        intro q hq
        obtain ⟨j, hj, rfl⟩ := List.getElem_of_mem hq
        have := hall.out j _ (by omega) (List.getElem?_eq_getElem hj)
        simpa using this
      have HBl : Hid (Below w.heap.size w wr) := hbl
      clear hb0 hbl
      go_wp2
      go_ret
      exact ⟨by first | rfl | (rw [HN.out]; rfl), HBl.out⟩
end Go.Proofs.YtkphpgdgbnmnjacGreatDoor
