/-
  Several texts as one: DrLine0, DrLine1, DrLine2. What each holds: DrLine0: The document's (*Reader).Line by a contract, for a line that opens with 'window'. Conditions: the reader lies in memory. | DrLine1: The document's (*Reader).Line by a contract, for a line that opens with 'cycle'. Conditions: the reader lies in memory. | DrLine2: The document's (*Reader).Line by a contract, for a line that opens with 'delay'. Conditions: the reader lies in memory.
-/
import Derived.Test.YtbholbenjalliaaGreatDoorDr1X
namespace Go.Proofs.YtbholbenjalliaaGreatDoor
open Go.RowKit Go.Extern.Stop Go.Stop Go.Extern Go.Maps

set_option maxHeartbeats 8000000 in
set_option maxRecDepth 100000 in
theorem lineD_k0 (w0 w : World) (rb : Nat) (c : CfgD) (last : Int) (l : ByteArray) (ws : List Bs) (hb0 : BlX rb w0 w) (h : DrS w0.heap.size rb w c (lwOf last)) (hl : l.size ≤ 1000000) (l0 : -1 ≤ last) (l9 : last ≤ 9) (hO : StOk 1000000 c last) (hcut : cutBy 32 (bl l) = kw 0 :: ws) :
    Calls Tryz.prog 35 #[.pointer (some ⟨rb, 0, none⟩), .string l] w fun v w' => v = .returned (.int .i64 (lineK last c 0 ws : Nat)) ∧ BlX rb w0 w' ∧ (lineK last c 0 ws = 0 → DrS w0.heap.size rb w' (updC c 0 ws (fillV (lookF (lastPts c.ents)) false (form 0) ws).2) (kwB 0)) := by
  obtain ⟨i0, hi, hz0, hz1, hz2⟩ := info_parts Tryz.infoOwnf
  have HS : Hid (BlX rb w0 w ∧ DrS w0.heap.size rb w c (lwOf last)) := ⟨hb0, h⟩
  have HO : Hid (StOk 1000000 c last) := hO
  have HCut : Hid (Calls Tryz.prog 34 #[.string l, .int .u8 32] w fun e w' => ∃ (wt : List ByteArray) (g cap m : Nat), e = .returned (.slice (some ⟨g, 0, none⟩) m cap) ∧ m = wt.length + 1 ∧ wt.map bl = ws ∧ w'.ownsRow w.heap.size 9 1 (.slice (some ⟨g, 0, none⟩) m cap) m ((⟨#[119, 105, 110, 100, 111, 119]⟩ :: wt).flatMap encS) ∧ Below w.heap.size w w') := by
    refine (cutD_at l 32 w hl).mono ?_
    rintro e w' ⟨wl, g, cap, rfl, h1, h2, h3⟩
    rw [hcut] at h1
    obtain ⟨wt, rfl, h4⟩ := words_k h1
    exact ⟨wt, g, cap, _, rfl, rfl, h4, h2, h3⟩
  have HRt : Hid (∀ V, Below w.heap.size w V → Calls Tryz.prog 64 #[.pointer (some ⟨rb, 0, none⟩), .string ⟨#[119, 105, 110, 100, 111, 119]⟩] V fun e w' => e = .returned (.bool (may last 0)) ∧ Below V.heap.size V w') := fun V hV => by
    have hc : V.cell? ⟨rb, 5, none⟩ = some (.string (lwOf last)) := by
      rcases h.below hV with h1 | ⟨_, _, _, _, _, _, _, _, _, h1⟩
      · have := h1.row; simp [World.cell?, this, drRow]
      · have := h1.row; simp [World.cell?, this, drRow]
    exact right_at rb last (kwB 0) V l0 l9 hc
  clear hb0 h hl l0 l9 hO hcut
  go_enter Tryz.func35, Tryz.ntmps35
  go_wp2_with fail
  refine Calls.mono HCut.out ?_
  rintro v w1 ⟨wt, wg, wc, m, rfl, hm, hws, hown, hb1⟩
  have HB1 : Hid (Below w.heap.size w w1) := hb1
  have HWg : Hid (w.heap.size ≤ wg) := by
    show _ ≤ _
    exact (hown.lt wg rfl).1
  have HW : Hid (∀ V, Below w1.heap.size w1 V → ∀ j s, (⟨#[119, 105, 110, 100, 111, 119]⟩ :: wt)[j]? = some s → V.cell? ⟨wg, j, none⟩ = some (.string s)) := fun V hV j s hj => cell_below hV (own_word hown j s hj)
  have HM : Hid (m = wt.length + 1 ∧ wt.map bl = ws) := ⟨hm, hws⟩
  have c0 : w1.cell? ⟨wg, 0, none⟩ = some (.string ⟨#[119, 105, 110, 100, 111, 119]⟩) := HW.out w1 (Below.refl _ _) 0 _ rfl
  have m0 : (0 : Int) < (m : Int) := by omega
  clear hm hws hown hb1 HCut
  go_wp2_with fail
  refine Calls.mono (HRt.out w1 HB1.out) ?_
  rintro v w2 ⟨rfl, hb2⟩
  have HB2 : Hid (Below w.heap.size w w2) := HB1.out.trans (hb2.mono HB1.out.size)
  have HB12 : Hid (Below w1.heap.size w1 w2) := hb2
  have HBw : Hid (∀ V, Below w2.heap.size w2 V → BlX rb w0 V) := fun V hV => HS.out.1.trans ((HB2.out.trans (hV.mono HB2.out.size)).mono HS.out.1.size)
  clear hb2 HRt c0
  cases hmy : may last 0 with
  | false =>
    have HE : Hid (lineK last c 0 ws = 1) := lineK_no hmy
    clear hmy
    go_wp2
    go_ret
    exact ⟨by rw [HE.out]; rfl, HBw.out _ (Below.refl _ _), fun h0 => by rw [HE.out] at h0; cases h0⟩
  | true =>
    have HY : Hid (may last 0 = true) := hmy
    have HK : Hid (lineK last c 0 ws = (fillV (lookF (lastPts c.ents)) false (form 0) ws).1) := lineK_yes hmy
    clear hmy
    by_cases hN : wt.length = 2
    · obtain ⟨s0, s1, rfl⟩ : ∃ s0 s1, wt = [s0, s1] := by
        match wt, hN with
        | [s0, s1], _ => exact ⟨s0, s1, rfl⟩
      obtain rfl : ws = [bl s0, bl s1] := HM.out.2.symm.trans rfl
      obtain rfl : m = 2 + 1 := HM.out.1
      clear HM hN
      have H1 : Hid (∀ V, Below w.heap.size w V → DrN w0.heap.size rb V c (lwOf last)) := fun V hV => by
        rcases HS.out.2.below hV with h1 | ⟨_, _, _, es, e, _, _, h1, _, _⟩
        · exact h1
        · have h2 := HO.out.e0 (by have := HY.out; unfold may at this; rw [if_pos (by decide)] at this; simp at this; omega)
          rw [h2] at h1
          simp at h1
      have e4 : w2.cell? ⟨rb, 4, none⟩ = some (.slice none 0 0) := by have := (H1.out w2 HB2.out).row; simp [World.cell?, this, drRow]
      go_wp2_with fail
      go_loopw [9, 10, 11, 12] (fun nv ov iv _ wr => ∃ (j : Nat) (nn : Bool) (vs : List Int) (na : Option Addr) (nc : Nat), j ≤ 2 ∧ iv = .int .i64 j ∧ ov = .bool nn ∧ nv = .slice na j nc ∧ wr.ownsRow w2.heap.size 3 1 (.slice na j nc) j (vs.flatMap encI) ∧ Below w2.heap.size w2 wr ∧ FillD (lookF (lastPts c.ents)) [1, 1] [bl s0, bl s1] j nn vs) (fun _ _ iv _ _ => 2 - (intOf iv).toNat)
      case atStart => exact ⟨0, false, [], none, 0, Nat.zero_le _, rfl, rfl, rfl, World.ownsRow_nil _ _ _ _, Below.refl _ _, FillD.start _ _ _⟩
      case round =>
        obtain ⟨j, nn, vs, na, nc, hj, rfl, rfl, rfl, hown, hb, hf⟩ := hrel
        have HB : Hid (Below w2.heap.size w2 wr) := hb
        have HOwn : Hid (wr.ownsRow w2.heap.size 3 1 (.slice na j nc) j (vs.flatMap encI)) := hown
        have HF : Hid (FillD (lookF (lastPts c.ents)) [1, 1] [bl s0, bl s1] j nn vs) := hf
        clear hb hown hf e4
        by_cases hlt : j < 2
        · clear hj
          rcases (show j = 0 ∨ j = 1 by omega) with rfl | rfl
          clear hlt
          · have d0 := HW.out wr (HB12.out.trans (HB.out.mono HB12.out.size)) 1 s0 rfl
            have HNu : Hid _ := numberD_at s0 wr
            go_wp2_with fail
            refine Calls.mono HNu.out ?_
            rintro v w3 ⟨rfl, hw3⟩
            rw [hw3]
            clear hw3 w3
            have HWn : Hid _ := @word_n (lookF (lastPts c.ents)) s0
            clear HNu
            generalize numD (bl s0) = z at *
            by_cases z0 : z < 0
            · have HE : Hid (lineK last c 0 [bl s0, bl s1] = 1) := by show _ = _; rw [HK.out]; exact HF.out.bad rfl rfl (by rw [HWn.out.1, if_pos z0])
              go_wp2
              go_ret
              exact ⟨by rw [HE.out]; rfl, HBw.out _ HB.out, fun h0 => by rw [HE.out] at h0; cases h0⟩
            · have z1 : 0 ≤ z := by omega
              obtain ⟨n1, n2⟩ := litN (HWn.out.2 z1).2
              go_wp2_with (at_builtin; refine wpList_append_own _ rfl _ _ 50 rfl w2.heap.size 3 i0 (.int .i64 0) 1 8 Tryz.underlying50 hi hz0 hz1 hz2 rfl (by decide) (.slice na 0 nc) 0 (vs.flatMap encI) rfl (HOwn.out.alloc _) ⟨wr.heap.size, 0, .none⟩ 1 1 [.int .i64 z] rfl rfl (cell_v _ _ _) (by intro u hu; simp at hu; subst hu; rfl) (by unfold maxLen; omega) (by omega) (by have := HB.out.size; simp; omega) ?_; intro v1 w4 hown1 hgrow1 hlt1)
              obtain ⟨na', nc', hv1⟩ := own_form hown1
              subst hv1
              go_roundw
              case rel => exact ⟨0 + 1, nn, vs ++ [z], na', nc', by omega, rfl, rfl, rfl, by simpa [List.flatMap_append, encI] using hown1, (HB.out.alloc HB.out.size _).grown hgrow1 (by have := HB.out.size; simp; omega) (fun q hq => (HOwn.out.lt q hq).1), HF.out.next rfl rfl nn z (by rw [HWn.out.1, if_neg (by omega)]; decide) (by rw [HWn.out.1, if_neg (by omega)]; simp) (fun _ => (HWn.out.2 z1).1.symm)⟩
              case measure => simp [intOf]
          · have d1 := HW.out wr (HB12.out.trans (HB.out.mono HB12.out.size)) 2 s1 rfl
            have HNu : Hid _ := numberD_at s1 wr
            go_wp2_with fail
            refine Calls.mono HNu.out ?_
            rintro v w3 ⟨rfl, hw3⟩
            rw [hw3]
            clear hw3 w3
            have HWn : Hid _ := @word_n (lookF (lastPts c.ents)) s1
            clear HNu
            generalize numD (bl s1) = z at *
            by_cases z0 : z < 0
            · have HE : Hid (lineK last c 0 [bl s0, bl s1] = 1) := by show _ = _; rw [HK.out]; exact HF.out.bad rfl rfl (by rw [HWn.out.1, if_pos z0])
              go_wp2
              go_ret
              exact ⟨by rw [HE.out]; rfl, HBw.out _ HB.out, fun h0 => by rw [HE.out] at h0; cases h0⟩
            · have z1 : 0 ≤ z := by omega
              obtain ⟨n1, n2⟩ := litN (HWn.out.2 z1).2
              go_wp2_with (at_builtin; refine wpList_append_own _ rfl _ _ 50 rfl w2.heap.size 3 i0 (.int .i64 0) 1 8 Tryz.underlying50 hi hz0 hz1 hz2 rfl (by decide) (.slice na 1 nc) 1 (vs.flatMap encI) rfl (HOwn.out.alloc _) ⟨wr.heap.size, 0, .none⟩ 1 1 [.int .i64 z] rfl rfl (cell_v _ _ _) (by intro u hu; simp at hu; subst hu; rfl) (by unfold maxLen; omega) (by omega) (by have := HB.out.size; simp; omega) ?_; intro v1 w4 hown1 hgrow1 hlt1)
              obtain ⟨na', nc', hv1⟩ := own_form hown1
              subst hv1
              go_roundw
              case rel => exact ⟨1 + 1, nn, vs ++ [z], na', nc', by omega, rfl, rfl, rfl, by simpa [List.flatMap_append, encI] using hown1, (HB.out.alloc HB.out.size _).grown hgrow1 (by have := HB.out.size; simp; omega) (fun q hq => (HOwn.out.lt q hq).1), HF.out.next rfl rfl nn z (by rw [HWn.out.1, if_neg (by omega)]; decide) (by rw [HWn.out.1, if_neg (by omega)]; simp) (fun _ => (HWn.out.2 z1).1.symm)⟩
              case measure => simp [intOf]
        · obtain rfl : j = 2 := by omega
          clear hlt hj
          obtain ⟨hcode, hvals⟩ := (show FillD (lookF (lastPts c.ents)) [1, 1] [bl s0, bl s1] ([1, 1] : List Nat).length nn vs from HF.out).done rfl
          cases nn with
          | true =>
            have HE : Hid (lineK last c 0 [bl s0, bl s1] = 5) := by show _ = _; rw [HK.out]; exact hcode
            clear hcode hvals
            go_wp2
            go_ret
            exact ⟨by rw [HE.out]; rfl, HBw.out _ HB.out, fun h0 => by rw [HE.out] at h0; cases h0⟩
          | false =>
            have HC0 : Hid (lineK last c 0 [bl s0, bl s1] = 0) := by show _ = _; rw [HK.out]; exact hcode
            have HVs : Hid ((fillV (lookF (lastPts c.ents)) false [1, 1] [bl s0, bl s1]).2 = vs) := hvals rfl
            have hlen := HF.out.len
            clear hcode hvals
            obtain ⟨v0, v1, rfl⟩ : ∃ v0 v1, vs = [v0, v1] := by
              match vs, hlen with
              | [v0, v1], _ => exact ⟨v0, v1, rfl⟩
            obtain ⟨ng, nc', hna⟩ := some_form HOwn.out
            cases hna
            have HNg : Hid (w2.heap.size ≤ ng) := by show _ ≤ _; exact (HOwn.out.lt ng rfl).1
            have x0 := own_int HOwn.out 0 v0 rfl
            have x1 := own_int HOwn.out 1 v1 rfl
            have HBx : Hid (Below w.heap.size w wr) := HB2.out.trans (HB.out.mono HB2.out.size)
            have d0 := HW.out wr (HB12.out.trans (HB.out.mono HB12.out.size)) 0 _ rfl
            have d1 := HW.out wr (HB12.out.trans (HB.out.mono HB12.out.size)) 1 _ rfl
            have d2 := HW.out wr (HB12.out.trans (HB.out.mono HB12.out.size)) 2 _ rfl
            clear hlen HF
            have hrow := (H1.out wr HBx.out).row
            have nb1 : ¬ rb = wg := by have := lt_of_row ((H1.out w (Below.refl _ _)).row); have := HWg.out; omega
            have nb2 : ¬ wg = rb := fun e2 => nb1 e2.symm
            have nb3 : ¬ rb = ng := by have := lt_of_row ((H1.out w (Below.refl _ _)).row); have := HB2.out.size; have := HNg.out; omega
            have nb4 : ¬ ng = rb := fun e2 => nb3 e2.symm
            have r0 : wr.cell? ⟨rb, 0, none⟩ = some (.int .i64 c.closed) := by simp [World.cell?, hrow, drRow]
            have f0 : wr.frozen? ⟨rb, 0, none⟩ = false := by simp [World.frozen?, hrow]
            have r1 : wr.cell? ⟨rb, 1, none⟩ = some (.int .i64 c.opn) := by simp [World.cell?, hrow, drRow]
            have f1 : wr.frozen? ⟨rb, 1, none⟩ = false := by simp [World.frozen?, hrow]
            have r2 : wr.cell? ⟨rb, 2, none⟩ = some (.int .i64 c.cycle) := by simp [World.cell?, hrow, drRow]
            have f2 : wr.frozen? ⟨rb, 2, none⟩ = false := by simp [World.frozen?, hrow]
            have r3 : wr.cell? ⟨rb, 3, none⟩ = some (.int .i64 c.delay) := by simp [World.cell?, hrow, drRow]
            have f3 : wr.frozen? ⟨rb, 3, none⟩ = false := by simp [World.frozen?, hrow]
            have r5 : wr.cell? ⟨rb, 5, none⟩ = some (.string (lwOf last)) := by simp [World.cell?, hrow, drRow]
            have f5 : wr.frozen? ⟨rb, 5, none⟩ = false := by simp [World.frozen?, hrow]
            clear hrow
            go_wp2
            go_ret
            refine ⟨by rw [HC0.out]; rfl, ?_, fun _ => Or.inl ?_⟩
            · exact (((HBw.out _ HB.out).setCell (p := ⟨rb, 5, none⟩) (H1.out w (Below.refl _ _)).lo _).setCell (p := ⟨rb, 0, none⟩) (H1.out w (Below.refl _ _)).lo _).setCell (p := ⟨rb, 1, none⟩) (H1.out w (Below.refl _ _)).lo _
            · rw [show (fillV (lookF (lastPts c.ents)) false (form 0) [bl s0, bl s1]).2 = _ from HVs.out]
              exact ((((H1.out wr HBx.out).setR (c' := c) (lw' := ⟨#[119, 105, 110, 100, 111, 119]⟩) (H1.out wr HBx.out).nil 5 (.string ⟨#[119, 105, 110, 100, 111, 119]⟩) rfl).setR (c' := ⟨v0, c.opn, c.cycle, c.delay, c.ents⟩) (lw' := ⟨#[119, 105, 110, 100, 111, 119]⟩) (H1.out wr HBx.out).nil 0 (.int .i64 v0) rfl).setR (c' := ⟨v0, v1, c.cycle, c.delay, c.ents⟩) (lw' := ⟨#[119, 105, 110, 100, 111, 119]⟩) (H1.out wr HBx.out).nil 1 (.int .i64 v1) rfl)
    · have HE : Hid (lineK last c 0 ws = 1) := by show _ = _; rw [HK.out]; exact fill_len _ _ _ (by rw [← HM.out.2, List.length_map]; exact hN)
      have mN : ¬ (m : Int) = 2 + 1 := by have := HM.out.1; omega
      clear hN
      go_wp2
      go_ret
      exact ⟨by rw [HE.out]; rfl, HBw.out _ (Below.refl _ _), fun h0 => by rw [HE.out] at h0; cases h0⟩
end Go.Proofs.YtbholbenjalliaaGreatDoor

namespace Go.Proofs.YtbholbenjalliaaGreatDoor
open Go.RowKit Go.Extern.Stop Go.Stop Go.Extern Go.Maps

set_option maxHeartbeats 8000000 in
set_option maxRecDepth 100000 in
theorem lineD_k1 (w0 w : World) (rb : Nat) (c : CfgD) (last : Int) (l : ByteArray) (ws : List Bs) (hb0 : BlX rb w0 w) (h : DrS w0.heap.size rb w c (lwOf last)) (hl : l.size ≤ 1000000) (l0 : -1 ≤ last) (l9 : last ≤ 9) (hO : StOk 1000000 c last) (hcut : cutBy 32 (bl l) = kw 1 :: ws) :
    Calls Tryz.prog 35 #[.pointer (some ⟨rb, 0, none⟩), .string l] w fun v w' => v = .returned (.int .i64 (lineK last c 1 ws : Nat)) ∧ BlX rb w0 w' ∧ (lineK last c 1 ws = 0 → DrS w0.heap.size rb w' (updC c 1 ws (fillV (lookF (lastPts c.ents)) false (form 1) ws).2) (kwB 1)) := by
  obtain ⟨i0, hi, hz0, hz1, hz2⟩ := info_parts Tryz.infoOwnf
  have HS : Hid (BlX rb w0 w ∧ DrS w0.heap.size rb w c (lwOf last)) := ⟨hb0, h⟩
  have HO : Hid (StOk 1000000 c last) := hO
  have HCut : Hid (Calls Tryz.prog 34 #[.string l, .int .u8 32] w fun e w' => ∃ (wt : List ByteArray) (g cap m : Nat), e = .returned (.slice (some ⟨g, 0, none⟩) m cap) ∧ m = wt.length + 1 ∧ wt.map bl = ws ∧ w'.ownsRow w.heap.size 9 1 (.slice (some ⟨g, 0, none⟩) m cap) m ((⟨#[99, 121, 99, 108, 101]⟩ :: wt).flatMap encS) ∧ Below w.heap.size w w') := by
    refine (cutD_at l 32 w hl).mono ?_
    rintro e w' ⟨wl, g, cap, rfl, h1, h2, h3⟩
    rw [hcut] at h1
    obtain ⟨wt, rfl, h4⟩ := words_k h1
    exact ⟨wt, g, cap, _, rfl, rfl, h4, h2, h3⟩
  have HRt : Hid (∀ V, Below w.heap.size w V → Calls Tryz.prog 64 #[.pointer (some ⟨rb, 0, none⟩), .string ⟨#[99, 121, 99, 108, 101]⟩] V fun e w' => e = .returned (.bool (may last 1)) ∧ Below V.heap.size V w') := fun V hV => by
    have hc : V.cell? ⟨rb, 5, none⟩ = some (.string (lwOf last)) := by
      rcases h.below hV with h1 | ⟨_, _, _, _, _, _, _, _, _, h1⟩
      · have := h1.row; simp [World.cell?, this, drRow]
      · have := h1.row; simp [World.cell?, this, drRow]
    exact right_at rb last (kwB 1) V l0 l9 hc
  clear hb0 h hl l0 l9 hO hcut
  go_enter Tryz.func35, Tryz.ntmps35
  go_wp2_with fail
  refine Calls.mono HCut.out ?_
  rintro v w1 ⟨wt, wg, wc, m, rfl, hm, hws, hown, hb1⟩
  have HB1 : Hid (Below w.heap.size w w1) := hb1
  have HWg : Hid (w.heap.size ≤ wg) := by
    show _ ≤ _
    exact (hown.lt wg rfl).1
  have HW : Hid (∀ V, Below w1.heap.size w1 V → ∀ j s, (⟨#[99, 121, 99, 108, 101]⟩ :: wt)[j]? = some s → V.cell? ⟨wg, j, none⟩ = some (.string s)) := fun V hV j s hj => cell_below hV (own_word hown j s hj)
  have HM : Hid (m = wt.length + 1 ∧ wt.map bl = ws) := ⟨hm, hws⟩
  have c0 : w1.cell? ⟨wg, 0, none⟩ = some (.string ⟨#[99, 121, 99, 108, 101]⟩) := HW.out w1 (Below.refl _ _) 0 _ rfl
  have m0 : (0 : Int) < (m : Int) := by omega
  clear hm hws hown hb1 HCut
  go_wp2_with fail
  refine Calls.mono (HRt.out w1 HB1.out) ?_
  rintro v w2 ⟨rfl, hb2⟩
  have HB2 : Hid (Below w.heap.size w w2) := HB1.out.trans (hb2.mono HB1.out.size)
  have HB12 : Hid (Below w1.heap.size w1 w2) := hb2
  have HBw : Hid (∀ V, Below w2.heap.size w2 V → BlX rb w0 V) := fun V hV => HS.out.1.trans ((HB2.out.trans (hV.mono HB2.out.size)).mono HS.out.1.size)
  clear hb2 HRt c0
  cases hmy : may last 1 with
  | false =>
    have HE : Hid (lineK last c 1 ws = 1) := lineK_no hmy
    clear hmy
    go_wp2
    go_ret
    exact ⟨by rw [HE.out]; rfl, HBw.out _ (Below.refl _ _), fun h0 => by rw [HE.out] at h0; cases h0⟩
  | true =>
    have HY : Hid (may last 1 = true) := hmy
    have HK : Hid (lineK last c 1 ws = (fillV (lookF (lastPts c.ents)) false (form 1) ws).1) := lineK_yes hmy
    clear hmy
    by_cases hN : wt.length = 1
    · obtain ⟨s0, rfl⟩ : ∃ s0, wt = [s0] := by
        match wt, hN with
        | [s0], _ => exact ⟨s0, rfl⟩
      obtain rfl : ws = [bl s0] := HM.out.2.symm.trans rfl
      obtain rfl : m = 1 + 1 := HM.out.1
      clear HM hN
      have H1 : Hid (∀ V, Below w.heap.size w V → DrN w0.heap.size rb V c (lwOf last)) := fun V hV => by
        rcases HS.out.2.below hV with h1 | ⟨_, _, _, es, e, _, _, h1, _, _⟩
        · exact h1
        · have h2 := HO.out.e0 (by have := HY.out; unfold may at this; rw [if_pos (by decide)] at this; simp at this; omega)
          rw [h2] at h1
          simp at h1
      have e4 : w2.cell? ⟨rb, 4, none⟩ = some (.slice none 0 0) := by have := (H1.out w2 HB2.out).row; simp [World.cell?, this, drRow]
      go_wp2_with fail
      go_loopw [9, 10, 11, 12] (fun nv ov iv _ wr => ∃ (j : Nat) (nn : Bool) (vs : List Int) (na : Option Addr) (nc : Nat), j ≤ 1 ∧ iv = .int .i64 j ∧ ov = .bool nn ∧ nv = .slice na j nc ∧ wr.ownsRow w2.heap.size 3 1 (.slice na j nc) j (vs.flatMap encI) ∧ Below w2.heap.size w2 wr ∧ FillD (lookF (lastPts c.ents)) [1] [bl s0] j nn vs) (fun _ _ iv _ _ => 1 - (intOf iv).toNat)
      case atStart => exact ⟨0, false, [], none, 0, Nat.zero_le _, rfl, rfl, rfl, World.ownsRow_nil _ _ _ _, Below.refl _ _, FillD.start _ _ _⟩
      case round =>
        obtain ⟨j, nn, vs, na, nc, hj, rfl, rfl, rfl, hown, hb, hf⟩ := hrel
        have HB : Hid (Below w2.heap.size w2 wr) := hb
        have HOwn : Hid (wr.ownsRow w2.heap.size 3 1 (.slice na j nc) j (vs.flatMap encI)) := hown
        have HF : Hid (FillD (lookF (lastPts c.ents)) [1] [bl s0] j nn vs) := hf
        clear hb hown hf e4
        by_cases hlt : j < 1
        · clear hj
          obtain rfl : j = 0 := by omega
          clear hlt
          have d0 := HW.out wr (HB12.out.trans (HB.out.mono HB12.out.size)) 1 s0 rfl
          have HNu : Hid _ := numberD_at s0 wr
          go_wp2_with fail
          refine Calls.mono HNu.out ?_
          rintro v w3 ⟨rfl, hw3⟩
          rw [hw3]
          clear hw3 w3
          have HWn : Hid _ := @word_n (lookF (lastPts c.ents)) s0
          clear HNu
          generalize numD (bl s0) = z at *
          by_cases z0 : z < 0
          · have HE : Hid (lineK last c 1 [bl s0] = 1) := by show _ = _; rw [HK.out]; exact HF.out.bad rfl rfl (by rw [HWn.out.1, if_pos z0])
            go_wp2
            go_ret
            exact ⟨by rw [HE.out]; rfl, HBw.out _ HB.out, fun h0 => by rw [HE.out] at h0; cases h0⟩
          · have z1 : 0 ≤ z := by omega
            obtain ⟨n1, n2⟩ := litN (HWn.out.2 z1).2
            go_wp2_with (at_builtin; refine wpList_append_own _ rfl _ _ 50 rfl w2.heap.size 3 i0 (.int .i64 0) 1 8 Tryz.underlying50 hi hz0 hz1 hz2 rfl (by decide) (.slice na 0 nc) 0 (vs.flatMap encI) rfl (HOwn.out.alloc _) ⟨wr.heap.size, 0, .none⟩ 1 1 [.int .i64 z] rfl rfl (cell_v _ _ _) (by intro u hu; simp at hu; subst hu; rfl) (by unfold maxLen; omega) (by omega) (by have := HB.out.size; simp; omega) ?_; intro v1 w4 hown1 hgrow1 hlt1)
            obtain ⟨na', nc', hv1⟩ := own_form hown1
            subst hv1
            go_roundw
            case rel => exact ⟨0 + 1, nn, vs ++ [z], na', nc', by omega, rfl, rfl, rfl, by simpa [List.flatMap_append, encI] using hown1, (HB.out.alloc HB.out.size _).grown hgrow1 (by have := HB.out.size; simp; omega) (fun q hq => (HOwn.out.lt q hq).1), HF.out.next rfl rfl nn z (by rw [HWn.out.1, if_neg (by omega)]; decide) (by rw [HWn.out.1, if_neg (by omega)]; simp) (fun _ => (HWn.out.2 z1).1.symm)⟩
            case measure => simp [intOf]
        · obtain rfl : j = 1 := by omega
          clear hlt hj
          obtain ⟨hcode, hvals⟩ := (show FillD (lookF (lastPts c.ents)) [1] [bl s0] ([1] : List Nat).length nn vs from HF.out).done rfl
          cases nn with
          | true =>
            have HE : Hid (lineK last c 1 [bl s0] = 5) := by show _ = _; rw [HK.out]; exact hcode
            clear hcode hvals
            go_wp2
            go_ret
            exact ⟨by rw [HE.out]; rfl, HBw.out _ HB.out, fun h0 => by rw [HE.out] at h0; cases h0⟩
          | false =>
            have HC0 : Hid (lineK last c 1 [bl s0] = 0) := by show _ = _; rw [HK.out]; exact hcode
            have HVs : Hid ((fillV (lookF (lastPts c.ents)) false [1] [bl s0]).2 = vs) := hvals rfl
            have hlen := HF.out.len
            clear hcode hvals
            obtain ⟨v0, rfl⟩ : ∃ v0, vs = [v0] := by
              match vs, hlen with
              | [v0], _ => exact ⟨v0, rfl⟩
            obtain ⟨ng, nc', hna⟩ := some_form HOwn.out
            cases hna
            have HNg : Hid (w2.heap.size ≤ ng) := by show _ ≤ _; exact (HOwn.out.lt ng rfl).1
            have x0 := own_int HOwn.out 0 v0 rfl
            have HBx : Hid (Below w.heap.size w wr) := HB2.out.trans (HB.out.mono HB2.out.size)
            have d0 := HW.out wr (HB12.out.trans (HB.out.mono HB12.out.size)) 0 _ rfl
            have d1 := HW.out wr (HB12.out.trans (HB.out.mono HB12.out.size)) 1 _ rfl
            clear hlen HF
            have hrow := (H1.out wr HBx.out).row
            have nb1 : ¬ rb = wg := by have := lt_of_row ((H1.out w (Below.refl _ _)).row); have := HWg.out; omega
            have nb2 : ¬ wg = rb := fun e2 => nb1 e2.symm
            have nb3 : ¬ rb = ng := by have := lt_of_row ((H1.out w (Below.refl _ _)).row); have := HB2.out.size; have := HNg.out; omega
            have nb4 : ¬ ng = rb := fun e2 => nb3 e2.symm
            have r0 : wr.cell? ⟨rb, 0, none⟩ = some (.int .i64 c.closed) := by simp [World.cell?, hrow, drRow]
            have f0 : wr.frozen? ⟨rb, 0, none⟩ = false := by simp [World.frozen?, hrow]
            have r1 : wr.cell? ⟨rb, 1, none⟩ = some (.int .i64 c.opn) := by simp [World.cell?, hrow, drRow]
            have f1 : wr.frozen? ⟨rb, 1, none⟩ = false := by simp [World.frozen?, hrow]
            have r2 : wr.cell? ⟨rb, 2, none⟩ = some (.int .i64 c.cycle) := by simp [World.cell?, hrow, drRow]
            have f2 : wr.frozen? ⟨rb, 2, none⟩ = false := by simp [World.frozen?, hrow]
            have r3 : wr.cell? ⟨rb, 3, none⟩ = some (.int .i64 c.delay) := by simp [World.cell?, hrow, drRow]
            have f3 : wr.frozen? ⟨rb, 3, none⟩ = false := by simp [World.frozen?, hrow]
            have r5 : wr.cell? ⟨rb, 5, none⟩ = some (.string (lwOf last)) := by simp [World.cell?, hrow, drRow]
            have f5 : wr.frozen? ⟨rb, 5, none⟩ = false := by simp [World.frozen?, hrow]
            clear hrow
            go_wp2
            go_ret
            refine ⟨by rw [HC0.out]; rfl, ?_, fun _ => Or.inl ?_⟩
            · exact ((HBw.out _ HB.out).setCell (p := ⟨rb, 5, none⟩) (H1.out w (Below.refl _ _)).lo _).setCell (p := ⟨rb, 2, none⟩) (H1.out w (Below.refl _ _)).lo _
            · rw [show (fillV (lookF (lastPts c.ents)) false (form 1) [bl s0]).2 = _ from HVs.out]
              exact (((H1.out wr HBx.out).setR (c' := c) (lw' := ⟨#[99, 121, 99, 108, 101]⟩) (H1.out wr HBx.out).nil 5 (.string ⟨#[99, 121, 99, 108, 101]⟩) rfl).setR (c' := ⟨c.closed, c.opn, v0, c.delay, c.ents⟩) (lw' := ⟨#[99, 121, 99, 108, 101]⟩) (H1.out wr HBx.out).nil 2 (.int .i64 v0) rfl)
    · have HE : Hid (lineK last c 1 ws = 1) := by show _ = _; rw [HK.out]; exact fill_len _ _ _ (by rw [← HM.out.2, List.length_map]; exact hN)
      have mN : ¬ (m : Int) = 1 + 1 := by have := HM.out.1; omega
      clear hN
      go_wp2
      go_ret
      exact ⟨by rw [HE.out]; rfl, HBw.out _ (Below.refl _ _), fun h0 => by rw [HE.out] at h0; cases h0⟩
end Go.Proofs.YtbholbenjalliaaGreatDoor

namespace Go.Proofs.YtbholbenjalliaaGreatDoor
open Go.RowKit Go.Extern.Stop Go.Stop Go.Extern Go.Maps

set_option maxHeartbeats 8000000 in
set_option maxRecDepth 100000 in
theorem lineD_k2 (w0 w : World) (rb : Nat) (c : CfgD) (last : Int) (l : ByteArray) (ws : List Bs) (hb0 : BlX rb w0 w) (h : DrS w0.heap.size rb w c (lwOf last)) (hl : l.size ≤ 1000000) (l0 : -1 ≤ last) (l9 : last ≤ 9) (hO : StOk 1000000 c last) (hcut : cutBy 32 (bl l) = kw 2 :: ws) :
    Calls Tryz.prog 35 #[.pointer (some ⟨rb, 0, none⟩), .string l] w fun v w' => v = .returned (.int .i64 (lineK last c 2 ws : Nat)) ∧ BlX rb w0 w' ∧ (lineK last c 2 ws = 0 → DrS w0.heap.size rb w' (updC c 2 ws (fillV (lookF (lastPts c.ents)) false (form 2) ws).2) (kwB 2)) := by
  obtain ⟨i0, hi, hz0, hz1, hz2⟩ := info_parts Tryz.infoOwnf
  have HS : Hid (BlX rb w0 w ∧ DrS w0.heap.size rb w c (lwOf last)) := ⟨hb0, h⟩
  have HO : Hid (StOk 1000000 c last) := hO
  have HCut : Hid (Calls Tryz.prog 34 #[.string l, .int .u8 32] w fun e w' => ∃ (wt : List ByteArray) (g cap m : Nat), e = .returned (.slice (some ⟨g, 0, none⟩) m cap) ∧ m = wt.length + 1 ∧ wt.map bl = ws ∧ w'.ownsRow w.heap.size 9 1 (.slice (some ⟨g, 0, none⟩) m cap) m ((⟨#[100, 101, 108, 97, 121]⟩ :: wt).flatMap encS) ∧ Below w.heap.size w w') := by
    refine (cutD_at l 32 w hl).mono ?_
    rintro e w' ⟨wl, g, cap, rfl, h1, h2, h3⟩
    rw [hcut] at h1
    obtain ⟨wt, rfl, h4⟩ := words_k h1
    exact ⟨wt, g, cap, _, rfl, rfl, h4, h2, h3⟩
  have HRt : Hid (∀ V, Below w.heap.size w V → Calls Tryz.prog 64 #[.pointer (some ⟨rb, 0, none⟩), .string ⟨#[100, 101, 108, 97, 121]⟩] V fun e w' => e = .returned (.bool (may last 2)) ∧ Below V.heap.size V w') := fun V hV => by
    have hc : V.cell? ⟨rb, 5, none⟩ = some (.string (lwOf last)) := by
      rcases h.below hV with h1 | ⟨_, _, _, _, _, _, _, _, _, h1⟩
      · have := h1.row; simp [World.cell?, this, drRow]
      · have := h1.row; simp [World.cell?, this, drRow]
    exact right_at rb last (kwB 2) V l0 l9 hc
  clear hb0 h hl l0 l9 hO hcut
  go_enter Tryz.func35, Tryz.ntmps35
  go_wp2_with fail
  refine Calls.mono HCut.out ?_
  rintro v w1 ⟨wt, wg, wc, m, rfl, hm, hws, hown, hb1⟩
  have HB1 : Hid (Below w.heap.size w w1) := hb1
  have HWg : Hid (w.heap.size ≤ wg) := by
    show _ ≤ _
    exact (hown.lt wg rfl).1
  have HW : Hid (∀ V, Below w1.heap.size w1 V → ∀ j s, (⟨#[100, 101, 108, 97, 121]⟩ :: wt)[j]? = some s → V.cell? ⟨wg, j, none⟩ = some (.string s)) := fun V hV j s hj => cell_below hV (own_word hown j s hj)
  have HM : Hid (m = wt.length + 1 ∧ wt.map bl = ws) := ⟨hm, hws⟩
  have c0 : w1.cell? ⟨wg, 0, none⟩ = some (.string ⟨#[100, 101, 108, 97, 121]⟩) := HW.out w1 (Below.refl _ _) 0 _ rfl
  have m0 : (0 : Int) < (m : Int) := by omega
  clear hm hws hown hb1 HCut
  go_wp2_with fail
  refine Calls.mono (HRt.out w1 HB1.out) ?_
  rintro v w2 ⟨rfl, hb2⟩
  have HB2 : Hid (Below w.heap.size w w2) := HB1.out.trans (hb2.mono HB1.out.size)
  have HB12 : Hid (Below w1.heap.size w1 w2) := hb2
  have HBw : Hid (∀ V, Below w2.heap.size w2 V → BlX rb w0 V) := fun V hV => HS.out.1.trans ((HB2.out.trans (hV.mono HB2.out.size)).mono HS.out.1.size)
  clear hb2 HRt c0
  cases hmy : may last 2 with
  | false =>
    have HE : Hid (lineK last c 2 ws = 1) := lineK_no hmy
    clear hmy
    go_wp2
    go_ret
    exact ⟨by rw [HE.out]; rfl, HBw.out _ (Below.refl _ _), fun h0 => by rw [HE.out] at h0; cases h0⟩
  | true =>
    have HY : Hid (may last 2 = true) := hmy
    have HK : Hid (lineK last c 2 ws = (fillV (lookF (lastPts c.ents)) false (form 2) ws).1) := lineK_yes hmy
    clear hmy
    by_cases hN : wt.length = 1
    · obtain ⟨s0, rfl⟩ : ∃ s0, wt = [s0] := by
        match wt, hN with
        | [s0], _ => exact ⟨s0, rfl⟩
      obtain rfl : ws = [bl s0] := HM.out.2.symm.trans rfl
      obtain rfl : m = 1 + 1 := HM.out.1
      clear HM hN
      have H1 : Hid (∀ V, Below w.heap.size w V → DrN w0.heap.size rb V c (lwOf last)) := fun V hV => by
        rcases HS.out.2.below hV with h1 | ⟨_, _, _, es, e, _, _, h1, _, _⟩
        · exact h1
        · have h2 := HO.out.e0 (by have := HY.out; unfold may at this; rw [if_pos (by decide)] at this; simp at this; omega)
          rw [h2] at h1
          simp at h1
      have e4 : w2.cell? ⟨rb, 4, none⟩ = some (.slice none 0 0) := by have := (H1.out w2 HB2.out).row; simp [World.cell?, this, drRow]
      go_wp2_with fail
      go_loopw [9, 10, 11, 12] (fun nv ov iv _ wr => ∃ (j : Nat) (nn : Bool) (vs : List Int) (na : Option Addr) (nc : Nat), j ≤ 1 ∧ iv = .int .i64 j ∧ ov = .bool nn ∧ nv = .slice na j nc ∧ wr.ownsRow w2.heap.size 3 1 (.slice na j nc) j (vs.flatMap encI) ∧ Below w2.heap.size w2 wr ∧ FillD (lookF (lastPts c.ents)) [1] [bl s0] j nn vs) (fun _ _ iv _ _ => 1 - (intOf iv).toNat)
      case atStart => exact ⟨0, false, [], none, 0, Nat.zero_le _, rfl, rfl, rfl, World.ownsRow_nil _ _ _ _, Below.refl _ _, FillD.start _ _ _⟩
      case round =>
        obtain ⟨j, nn, vs, na, nc, hj, rfl, rfl, rfl, hown, hb, hf⟩ := hrel
        have HB : Hid (Below w2.heap.size w2 wr) := hb
        have HOwn : Hid (wr.ownsRow w2.heap.size 3 1 (.slice na j nc) j (vs.flatMap encI)) := hown
        have HF : Hid (FillD (lookF (lastPts c.ents)) [1] [bl s0] j nn vs) := hf
        clear hb hown hf e4
        by_cases hlt : j < 1
        · clear hj
          obtain rfl : j = 0 := by omega
          clear hlt
          have d0 := HW.out wr (HB12.out.trans (HB.out.mono HB12.out.size)) 1 s0 rfl
          have HNu : Hid _ := numberD_at s0 wr
          go_wp2_with fail
          refine Calls.mono HNu.out ?_
          rintro v w3 ⟨rfl, hw3⟩
          rw [hw3]
          clear hw3 w3
          have HWn : Hid _ := @word_n (lookF (lastPts c.ents)) s0
          clear HNu
          generalize numD (bl s0) = z at *
          by_cases z0 : z < 0
          · have HE : Hid (lineK last c 2 [bl s0] = 1) := by show _ = _; rw [HK.out]; exact HF.out.bad rfl rfl (by rw [HWn.out.1, if_pos z0])
            go_wp2
            go_ret
            exact ⟨by rw [HE.out]; rfl, HBw.out _ HB.out, fun h0 => by rw [HE.out] at h0; cases h0⟩
          · have z1 : 0 ≤ z := by omega
            obtain ⟨n1, n2⟩ := litN (HWn.out.2 z1).2
            go_wp2_with (at_builtin; refine wpList_append_own _ rfl _ _ 50 rfl w2.heap.size 3 i0 (.int .i64 0) 1 8 Tryz.underlying50 hi hz0 hz1 hz2 rfl (by decide) (.slice na 0 nc) 0 (vs.flatMap encI) rfl (HOwn.out.alloc _) ⟨wr.heap.size, 0, .none⟩ 1 1 [.int .i64 z] rfl rfl (cell_v _ _ _) (by intro u hu; simp at hu; subst hu; rfl) (by unfold maxLen; omega) (by omega) (by have := HB.out.size; simp; omega) ?_; intro v1 w4 hown1 hgrow1 hlt1)
            obtain ⟨na', nc', hv1⟩ := own_form hown1
            subst hv1
            go_roundw
            case rel => exact ⟨0 + 1, nn, vs ++ [z], na', nc', by omega, rfl, rfl, rfl, by simpa [List.flatMap_append, encI] using hown1, (HB.out.alloc HB.out.size _).grown hgrow1 (by have := HB.out.size; simp; omega) (fun q hq => (HOwn.out.lt q hq).1), HF.out.next rfl rfl nn z (by rw [HWn.out.1, if_neg (by omega)]; decide) (by rw [HWn.out.1, if_neg (by omega)]; simp) (fun _ => (HWn.out.2 z1).1.symm)⟩
            case measure => simp [intOf]
        · obtain rfl : j = 1 := by omega
          clear hlt hj
          obtain ⟨hcode, hvals⟩ := (show FillD (lookF (lastPts c.ents)) [1] [bl s0] ([1] : List Nat).length nn vs from HF.out).done rfl
          cases nn with
          | true =>
            have HE : Hid (lineK last c 2 [bl s0] = 5) := by show _ = _; rw [HK.out]; exact hcode
            clear hcode hvals
            go_wp2
            go_ret
            exact ⟨by rw [HE.out]; rfl, HBw.out _ HB.out, fun h0 => by rw [HE.out] at h0; cases h0⟩
          | false =>
            have HC0 : Hid (lineK last c 2 [bl s0] = 0) := by show _ = _; rw [HK.out]; exact hcode
            have HVs : Hid ((fillV (lookF (lastPts c.ents)) false [1] [bl s0]).2 = vs) := hvals rfl
            have hlen := HF.out.len
            clear hcode hvals
            obtain ⟨v0, rfl⟩ : ∃ v0, vs = [v0] := by
              match vs, hlen with
              | [v0], _ => exact ⟨v0, rfl⟩
            obtain ⟨ng, nc', hna⟩ := some_form HOwn.out
            cases hna
            have HNg : Hid (w2.heap.size ≤ ng) := by show _ ≤ _; exact (HOwn.out.lt ng rfl).1
            have x0 := own_int HOwn.out 0 v0 rfl
            have HBx : Hid (Below w.heap.size w wr) := HB2.out.trans (HB.out.mono HB2.out.size)
            have d0 := HW.out wr (HB12.out.trans (HB.out.mono HB12.out.size)) 0 _ rfl
            have d1 := HW.out wr (HB12.out.trans (HB.out.mono HB12.out.size)) 1 _ rfl
            clear hlen HF
            have hrow := (H1.out wr HBx.out).row
            have nb1 : ¬ rb = wg := by have := lt_of_row ((H1.out w (Below.refl _ _)).row); have := HWg.out; omega
            have nb2 : ¬ wg = rb := fun e2 => nb1 e2.symm
            have nb3 : ¬ rb = ng := by have := lt_of_row ((H1.out w (Below.refl _ _)).row); have := HB2.out.size; have := HNg.out; omega
            have nb4 : ¬ ng = rb := fun e2 => nb3 e2.symm
            have r0 : wr.cell? ⟨rb, 0, none⟩ = some (.int .i64 c.closed) := by simp [World.cell?, hrow, drRow]
            have f0 : wr.frozen? ⟨rb, 0, none⟩ = false := by simp [World.frozen?, hrow]
            have r1 : wr.cell? ⟨rb, 1, none⟩ = some (.int .i64 c.opn) := by simp [World.cell?, hrow, drRow]
            have f1 : wr.frozen? ⟨rb, 1, none⟩ = false := by simp [World.frozen?, hrow]
            have r2 : wr.cell? ⟨rb, 2, none⟩ = some (.int .i64 c.cycle) := by simp [World.cell?, hrow, drRow]
            have f2 : wr.frozen? ⟨rb, 2, none⟩ = false := by simp [World.frozen?, hrow]
            have r3 : wr.cell? ⟨rb, 3, none⟩ = some (.int .i64 c.delay) := by simp [World.cell?, hrow, drRow]
            have f3 : wr.frozen? ⟨rb, 3, none⟩ = false := by simp [World.frozen?, hrow]
            have r5 : wr.cell? ⟨rb, 5, none⟩ = some (.string (lwOf last)) := by simp [World.cell?, hrow, drRow]
            have f5 : wr.frozen? ⟨rb, 5, none⟩ = false := by simp [World.frozen?, hrow]
            clear hrow
            go_wp2
            go_ret
            refine ⟨by rw [HC0.out]; rfl, ?_, fun _ => Or.inl ?_⟩
            · exact ((HBw.out _ HB.out).setCell (p := ⟨rb, 5, none⟩) (H1.out w (Below.refl _ _)).lo _).setCell (p := ⟨rb, 3, none⟩) (H1.out w (Below.refl _ _)).lo _
            · rw [show (fillV (lookF (lastPts c.ents)) false (form 2) [bl s0]).2 = _ from HVs.out]
              exact (((H1.out wr HBx.out).setR (c' := c) (lw' := ⟨#[100, 101, 108, 97, 121]⟩) (H1.out wr HBx.out).nil 5 (.string ⟨#[100, 101, 108, 97, 121]⟩) rfl).setR (c' := ⟨c.closed, c.opn, c.cycle, v0, c.ents⟩) (lw' := ⟨#[100, 101, 108, 97, 121]⟩) (H1.out wr HBx.out).nil 3 (.int .i64 v0) rfl)
    · have HE : Hid (lineK last c 2 ws = 1) := by show _ = _; rw [HK.out]; exact fill_len _ _ _ (by rw [← HM.out.2, List.length_map]; exact hN)
      have mN : ¬ (m : Int) = 1 + 1 := by have := HM.out.1; omega
      clear hN
      go_wp2
      go_ret
      exact ⟨by rw [HE.out]; rfl, HBw.out _ (Below.refl _ _), fun h0 => by rw [HE.out] at h0; cases h0⟩
end Go.Proofs.YtbholbenjalliaaGreatDoor
