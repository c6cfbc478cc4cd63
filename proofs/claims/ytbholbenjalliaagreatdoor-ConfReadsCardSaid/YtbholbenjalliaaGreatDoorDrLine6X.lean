/-
  The document's (*Reader).Line by a contract, for a line that opens with 'gap'. Conditions: the reader lies in memory.
-/
import Derived.Test.YtbholbenjalliaaGreatDoorDrGapX
namespace Go.Proofs.YtbholbenjalliaaGreatDoor
open Go.RowKit Go.Extern.Stop Go.Stop Go.Extern Go.Maps

set_option maxHeartbeats 8000000 in
set_option maxRecDepth 100000 in
theorem lineD_k6 (w0 w : World) (rb : Nat) (c : CfgD) (last : Int) (l : ByteArray) (ws : List Bs) (hb0 : BlX rb w0 w) (h : DrS w0.heap.size rb w c (lwOf last)) (hl : l.size ≤ 1000000) (l0 : -1 ≤ last) (l9 : last ≤ 9) (hO : StOk 1000000 c last) (hcut : cutBy 32 (bl l) = kw 6 :: ws) :
    Calls Tryz.prog 35 #[.pointer (some ⟨rb, 0, none⟩), .string l] w fun v w' => v = .returned (.int .i64 (lineK last c 6 ws : Nat)) ∧ BlX rb w0 w' ∧ (lineK last c 6 ws = 0 → DrS w0.heap.size rb w' (updC c 6 ws (fillV (lookF (lastPts c.ents)) false (form 6) ws).2) (kwB 6)) := by
  obtain ⟨i0, hi, hz0, hz1, hz2⟩ := info_parts Tryz.infoOwnf
  have HS : Hid (BlX rb w0 w ∧ DrS w0.heap.size rb w c (lwOf last)) := ⟨hb0, h⟩
  have HO : Hid (StOk 1000000 c last) := hO
  have HCut : Hid (Calls Tryz.prog 34 #[.string l, .int .u8 32] w fun e w' => ∃ (wt : List ByteArray) (g cap m : Nat), e = .returned (.slice (some ⟨g, 0, none⟩) m cap) ∧ m = wt.length + 1 ∧ wt.map bl = ws ∧ w'.ownsRow w.heap.size 9 1 (.slice (some ⟨g, 0, none⟩) m cap) m ((⟨#[103, 97, 112]⟩ :: wt).flatMap encS) ∧ Below w.heap.size w w') := by
    refine (cutD_at l 32 w hl).mono ?_
    rintro e w' ⟨wl, g, cap, rfl, h1, h2, h3⟩
    rw [hcut] at h1
    obtain ⟨wt, rfl, h4⟩ := words_k h1
    exact ⟨wt, g, cap, _, rfl, rfl, h4, h2, h3⟩
  have HRt : Hid (∀ V, Below w.heap.size w V → Calls Tryz.prog 64 #[.pointer (some ⟨rb, 0, none⟩), .string ⟨#[103, 97, 112]⟩] V fun e w' => e = .returned (.bool (may last 6)) ∧ Below V.heap.size V w') := fun V hV => by
    have hc : V.cell? ⟨rb, 5, none⟩ = some (.string (lwOf last)) := by
      rcases h.below hV with h1 | ⟨_, _, _, _, _, _, _, _, _, h1⟩
      · have := h1.row; simp [World.cell?, this, drRow]
      · have := h1.row; simp [World.cell?, this, drRow]
    exact right_at rb last (kwB 6) V l0 l9 hc
  clear hb0 h hl l0 l9 hO hcut
  go_enter Tryz.func35, Tryz.ntmps35
  go_wp2_with fail
  refine Calls.mono HCut.out ?_
  rintro v w1 ⟨wt, wg, wc, m, rfl, hm, hws, hown, hb1⟩
  have HB1 : Hid (Below w.heap.size w w1) := hb1
  have HWg : Hid (w.heap.size ≤ wg) := by
    show _ ≤ _
    exact (hown.lt wg rfl).1
  have HW : Hid (∀ V, Below w1.heap.size w1 V → ∀ j s, (⟨#[103, 97, 112]⟩ :: wt)[j]? = some s → V.cell? ⟨wg, j, none⟩ = some (.string s)) := fun V hV j s hj => cell_below hV (own_word hown j s hj)
  have HM : Hid (m = wt.length + 1 ∧ wt.map bl = ws) := ⟨hm, hws⟩
  have c0 : w1.cell? ⟨wg, 0, none⟩ = some (.string ⟨#[103, 97, 112]⟩) := HW.out w1 (Below.refl _ _) 0 _ rfl
  have m0 : (0 : Int) < (m : Int) := by omega
  clear hm hws hown hb1 HCut
  go_wp2_with fail
  refine Calls.mono (HRt.out w1 HB1.out) ?_
  rintro v w2 ⟨rfl, hb2⟩
  have HB2 : Hid (Below w.heap.size w w2) := HB1.out.trans (hb2.mono HB1.out.size)
  have HB12 : Hid (Below w1.heap.size w1 w2) := hb2
  have HBw : Hid (∀ V, Below w2.heap.size w2 V → BlX rb w0 V) := fun V hV => HS.out.1.trans ((HB2.out.trans (hV.mono HB2.out.size)).mono HS.out.1.size)
  clear hb2 HRt c0
  cases hmy : may last 6 with
  | false =>
    have HE : Hid (lineK last c 6 ws = 1) := lineK_no hmy
    clear hmy
    go_wp2
    go_ret
    exact ⟨by rw [HE.out]; rfl, HBw.out _ (Below.refl _ _), fun h0 => by rw [HE.out] at h0; cases h0⟩
  | true =>
    have HY : Hid (may last 6 = true) := hmy
    have HK : Hid (lineK last c 6 ws = (fillV (lookF (lastPts c.ents)) false (form 6) ws).1) := lineK_yes hmy
    clear hmy
    by_cases hN : wt.length = 4
    · obtain ⟨s0, s1, s2, s3, rfl⟩ : ∃ s0 s1 s2 s3, wt = [s0, s1, s2, s3] := by
        match wt, hN with
        | [s0, s1, s2, s3], _ => exact ⟨s0, s1, s2, s3, rfl⟩
      obtain rfl : ws = [bl s0, bl s1, bl s2, bl s3] := HM.out.2.symm.trans rfl
      obtain rfl : m = 4 + 1 := HM.out.1
      clear HM hN
      obtain ⟨L, g, cap, es, e, x, cells, hce, hLw, hD⟩ : ∃ L g cap es e x cells, c.ents = es ++ [e] ∧ L ≤ w.heap.size ∧ DrE w0.heap.size rb L g cap w c (lwOf last) es e x cells := by
        rcases HS.out.2 with h1 | h1
        · exact absurd h1.nil (HO.out.e3 (may_ge (by decide) HY.out))
        · exact h1
      have HCe : Hid (c.ents = es ++ [e]) := hce
      have HLw : Hid (L ≤ w.heap.size) := hLw
      have HLp : Hid (lastPts c.ents = e.pts) := by show _ = _; rw [hce]; exact lastPts_snocR _ _
      rw [HLp.out] at HK
      have H1 : Hid (∀ V, Below w.heap.size w V → DrE w0.heap.size rb L g cap V c (lwOf last) es e x cells) := fun V hV => DrM.below hD hV
      obtain ⟨pa, pc, hxp⟩ := own_form hD.new.hp
      have HXp : Hid (x.p = .slice pa e.pts.length pc) := hxp
      have HSz : Hid (es.length < 1000000 ∧ SzE 1000000 e) := ⟨by have := HO.out.len; rw [hce, List.length_append] at this; simp at this; omega, HO.out.sz e (by rw [hce]; simp)⟩
      obtain ⟨n, hn⟩ : ∃ n, n = es.length := ⟨_, rfl⟩
      have HNn : Hid (n = es.length) := hn
      have n1m : n < 1000000 := by have := HSz.out.1; omega
      have nn1 : (n : Int) < (n : Int) + 1 := by omega
      have nn0 : ¬ (n : Int) < 0 := by omega
      have HR4 : Hid (∀ V, Below w.heap.size w V → V.cell? ⟨rb, 4, none⟩ = some (.slice (some ⟨g, 0, none⟩) (n + 1) cap)) := fun V hV => by have := (H1.out V hV).row; rw [hn]; simp [World.cell?, this, drRow]
      have HE2 : Hid (∀ V, Below w.heap.size w V → V.cell? ⟨g, n * 10 + 2, none⟩ = some (.slice pa e.pts.length pc)) := fun V hV => by rw [hn, ← hxp]; exact ((H1.out V hV).ewcell (j := 2) rfl).1
      have HIx : Hid (∀ s V, Below w.heap.size w V → Calls Tryz.prog 37 #[.slice pa e.pts.length pc, .string s] V fun e' w' => e' = .returned (.int .i64 (idxOf e.pts s)) ∧ w' = V) := fun s V hV => index_at e.pts s pa pc V (by rw [← hxp]; exact SlOwn.slat (enc := encS) (H1.out V hV).new.hp (fun _ => rfl)) HSz.out.2.p
      have e4 := HR4.out w2 HB2.out
      clear hce hLw hD hxp hn
      go_wp2_with fail
      go_loopw [9, 10, 11, 12] (fun nv ov iv _ wr => ∃ (j : Nat) (nn : Bool) (vs : List Int) (na : Option Addr) (nc : Nat), j ≤ 4 ∧ iv = .int .i64 j ∧ ov = .bool nn ∧ nv = .slice na j nc ∧ wr.ownsRow w2.heap.size 3 1 (.slice na j nc) j (vs.flatMap encI) ∧ Below w2.heap.size w2 wr ∧ FillD (lookF e.pts) [2, 2, 1, 1] [bl s0, bl s1, bl s2, bl s3] j nn vs) (fun _ _ iv _ _ => 4 - (intOf iv).toNat)
      case atStart => exact ⟨0, false, [], none, 0, Nat.zero_le _, rfl, rfl, rfl, World.ownsRow_nil _ _ _ _, Below.refl _ _, FillD.start _ _ _⟩
      case round =>
        obtain ⟨j, nn, vs, na, nc, hj, rfl, rfl, rfl, hown, hb, hf⟩ := hrel
        have HB : Hid (Below w2.heap.size w2 wr) := hb
        have HOwn : Hid (wr.ownsRow w2.heap.size 3 1 (.slice na j nc) j (vs.flatMap encI)) := hown
        have HF : Hid (FillD (lookF e.pts) [2, 2, 1, 1] [bl s0, bl s1, bl s2, bl s3] j nn vs) := hf
        clear hb hown hf e4
        by_cases hlt : j < 4
        · clear hj
          rcases (show j = 0 ∨ j = 1 ∨ j = 2 ∨ j = 3 by omega) with rfl | rfl | rfl | rfl
          clear hlt
          · have e5 := HR4.out wr (HB2.out.trans (HB.out.mono HB2.out.size))
            have e6 := HE2.out wr (HB2.out.trans (HB.out.mono HB2.out.size))
            have d0 := HW.out wr (HB12.out.trans (HB.out.mono HB12.out.size)) 1 s0 rfl
            have HI3 : Hid (∀ q, Calls Tryz.prog 37 #[.slice pa e.pts.length pc, .string s0] (wr.drewN q) fun e' w' => e' = .returned (.int .i64 (idxOf e.pts s0)) ∧ w' = wr.drewN q) := fun q => HIx.out s0 _ (HB2.out.trans ((below_drewN HB.out q).mono HB2.out.size))
            have HWp : Hid (¬ s0 = ⟨#[]⟩ → _) := @word_p e.pts s0
            generalize idxOf e.pts s0 = z at *
            go_upto_region 38 with fail
            go_cut [12] (fun xv wv => xv = .int .i64 z ∧ Below w2.heap.size w2 wv ∧ wv.ownsRow w2.heap.size 3 1 (.slice na 0 nc) 0 (vs.flatMap encI))
            case first =>
              go_wp2_with fail
              go_quiet (first | (go_at_call 37; exact Calls.quiet_of_same (HI3.out _)))
              go_wp2_with fail
              go_meet
              case rel => exact ⟨rfl, below_drewN HB.out _, HOwn.out⟩
            obtain ⟨rfl, hbv, hov⟩ := hcut
            clear HB HOwn HI3 e5 e6 d0
            rename World => wr
            have HB : Hid (Below w2.heap.size w2 wr) := hbv
            have HOwn : Hid (wr.ownsRow w2.heap.size 3 1 (.slice na 0 nc) 0 (vs.flatMap encI)) := hov
            clear hbv hov
            have d0 := HW.out wr (HB12.out.trans (HB.out.mono HB12.out.size)) 1 s0 rfl
            by_cases es0 : s0 = ⟨#[]⟩
            · have HE : Hid (lineK last c 6 [bl s0, bl s1, bl s2, bl s3] = 1) := by show _ = _; rw [HK.out]; exact HF.out.bad rfl rfl (by rw [es0]; exact word_e)
              obtain ⟨n1, n2⟩ := litY es0
              clear es0
              by_cases z0 : z < 0
              · go_wp2
                go_ret
                exact ⟨by rw [HE.out]; rfl, HBw.out _ HB.out, fun h0 => by rw [HE.out] at h0; cases h0⟩
              · go_wp2
                go_ret
                exact ⟨by rw [HE.out]; rfl, HBw.out _ HB.out, fun h0 => by rw [HE.out] at h0; cases h0⟩
            · have HWq : Hid _ := HWp.out es0
              obtain ⟨n1, n2⟩ := litN es0
              clear es0
              by_cases z0 : z < 0
              · have HZ : Hid ((wordV (lookF e.pts) 2 (bl s0)).1 = 5) := by show _ = _; rw [HWq.out.1, if_pos z0]
                go_wp2_with (at_builtin; refine wpList_append_own _ rfl _ _ 50 rfl w2.heap.size 3 i0 (.int .i64 0) 1 8 Tryz.underlying50 hi hz0 hz1 hz2 rfl (by decide) (.slice na 0 nc) 0 (vs.flatMap encI) rfl (HOwn.out.alloc _) ⟨wr.heap.size, 0, .none⟩ 1 1 [.int .i64 z] rfl rfl (cell_v _ _ _) (by intro u hu; simp at hu; subst hu; rfl) (by unfold maxLen; omega) (by omega) (by have := HB.out.size; simp; omega) ?_; intro v1 w4 hown1 hgrow1 hlt1)
                obtain ⟨na', nc', hv1⟩ := own_form hown1
                subst hv1
                go_roundw
                case rel => exact ⟨0 + 1, true, vs ++ [z], na', nc', by omega, rfl, rfl, rfl, by simpa [List.flatMap_append, encI] using hown1, (HB.out.alloc HB.out.size _).grown hgrow1 (by have := HB.out.size; simp; omega) (fun q hq => (HOwn.out.lt q hq).1), HF.out.next rfl rfl true z (by rw [HZ.out]; decide) (by rw [HZ.out]; simp) (fun h0 => by cases h0)⟩
                case measure => simp [intOf]
              · have HZ : Hid ((wordV (lookF e.pts) 2 (bl s0)).1 = 0 ∧ (wordV (lookF e.pts) 2 (bl s0)).2 = z) := ⟨by rw [HWq.out.1, if_neg z0], HWq.out.2 (by omega)⟩
                go_wp2_with (at_builtin; refine wpList_append_own _ rfl _ _ 50 rfl w2.heap.size 3 i0 (.int .i64 0) 1 8 Tryz.underlying50 hi hz0 hz1 hz2 rfl (by decide) (.slice na 0 nc) 0 (vs.flatMap encI) rfl (HOwn.out.alloc _) ⟨wr.heap.size, 0, .none⟩ 1 1 [.int .i64 z] rfl rfl (cell_v _ _ _) (by intro u hu; simp at hu; subst hu; rfl) (by unfold maxLen; omega) (by omega) (by have := HB.out.size; simp; omega) ?_; intro v1 w4 hown1 hgrow1 hlt1)
                obtain ⟨na', nc', hv1⟩ := own_form hown1
                subst hv1
                go_roundw
                case rel => exact ⟨0 + 1, nn, vs ++ [z], na', nc', by omega, rfl, rfl, rfl, by simpa [List.flatMap_append, encI] using hown1, (HB.out.alloc HB.out.size _).grown hgrow1 (by have := HB.out.size; simp; omega) (fun q hq => (HOwn.out.lt q hq).1), HF.out.next rfl rfl nn z (by rw [HZ.out.1]; decide) (by rw [HZ.out.1]; simp) (fun _ => HZ.out.2.symm)⟩
                case measure => simp [intOf]
          · have e5 := HR4.out wr (HB2.out.trans (HB.out.mono HB2.out.size))
            have e6 := HE2.out wr (HB2.out.trans (HB.out.mono HB2.out.size))
            have d1 := HW.out wr (HB12.out.trans (HB.out.mono HB12.out.size)) 2 s1 rfl
            have HI3 : Hid (∀ q, Calls Tryz.prog 37 #[.slice pa e.pts.length pc, .string s1] (wr.drewN q) fun e' w' => e' = .returned (.int .i64 (idxOf e.pts s1)) ∧ w' = wr.drewN q) := fun q => HIx.out s1 _ (HB2.out.trans ((below_drewN HB.out q).mono HB2.out.size))
            have HWp : Hid (¬ s1 = ⟨#[]⟩ → _) := @word_p e.pts s1
            generalize idxOf e.pts s1 = z at *
            go_upto_region 38 with fail
            go_cut [12] (fun xv wv => xv = .int .i64 z ∧ Below w2.heap.size w2 wv ∧ wv.ownsRow w2.heap.size 3 1 (.slice na 1 nc) 1 (vs.flatMap encI))
            case first =>
              go_wp2_with fail
              go_quiet (first | (go_at_call 37; exact Calls.quiet_of_same (HI3.out _)))
              go_wp2_with fail
              go_meet
              case rel => exact ⟨rfl, below_drewN HB.out _, HOwn.out⟩
            obtain ⟨rfl, hbv, hov⟩ := hcut
            clear HB HOwn HI3 e5 e6 d1
            rename World => wr
            have HB : Hid (Below w2.heap.size w2 wr) := hbv
            have HOwn : Hid (wr.ownsRow w2.heap.size 3 1 (.slice na 1 nc) 1 (vs.flatMap encI)) := hov
            clear hbv hov
            have d1 := HW.out wr (HB12.out.trans (HB.out.mono HB12.out.size)) 2 s1 rfl
            by_cases es0 : s1 = ⟨#[]⟩
            · have HE : Hid (lineK last c 6 [bl s0, bl s1, bl s2, bl s3] = 1) := by show _ = _; rw [HK.out]; exact HF.out.bad rfl rfl (by rw [es0]; exact word_e)
              obtain ⟨n1, n2⟩ := litY es0
              clear es0
              by_cases z0 : z < 0
              · go_wp2
                go_ret
                exact ⟨by rw [HE.out]; rfl, HBw.out _ HB.out, fun h0 => by rw [HE.out] at h0; cases h0⟩
              · go_wp2
                go_ret
                exact ⟨by rw [HE.out]; rfl, HBw.out _ HB.out, fun h0 => by rw [HE.out] at h0; cases h0⟩
            · have HWq : Hid _ := HWp.out es0
              obtain ⟨n1, n2⟩ := litN es0
              clear es0
              by_cases z0 : z < 0
              · have HZ : Hid ((wordV (lookF e.pts) 2 (bl s1)).1 = 5) := by show _ = _; rw [HWq.out.1, if_pos z0]
                go_wp2_with (at_builtin; refine wpList_append_own _ rfl _ _ 50 rfl w2.heap.size 3 i0 (.int .i64 0) 1 8 Tryz.underlying50 hi hz0 hz1 hz2 rfl (by decide) (.slice na 1 nc) 1 (vs.flatMap encI) rfl (HOwn.out.alloc _) ⟨wr.heap.size, 0, .none⟩ 1 1 [.int .i64 z] rfl rfl (cell_v _ _ _) (by intro u hu; simp at hu; subst hu; rfl) (by unfold maxLen; omega) (by omega) (by have := HB.out.size; simp; omega) ?_; intro v1 w4 hown1 hgrow1 hlt1)
                obtain ⟨na', nc', hv1⟩ := own_form hown1
                subst hv1
                go_roundw
                case rel => exact ⟨1 + 1, true, vs ++ [z], na', nc', by omega, rfl, rfl, rfl, by simpa [List.flatMap_append, encI] using hown1, (HB.out.alloc HB.out.size _).grown hgrow1 (by have := HB.out.size; simp; omega) (fun q hq => (HOwn.out.lt q hq).1), HF.out.next rfl rfl true z (by rw [HZ.out]; decide) (by rw [HZ.out]; simp) (fun h0 => by cases h0)⟩
                case measure => simp [intOf]
              · have HZ : Hid ((wordV (lookF e.pts) 2 (bl s1)).1 = 0 ∧ (wordV (lookF e.pts) 2 (bl s1)).2 = z) := ⟨by rw [HWq.out.1, if_neg z0], HWq.out.2 (by omega)⟩
                go_wp2_with (at_builtin; refine wpList_append_own _ rfl _ _ 50 rfl w2.heap.size 3 i0 (.int .i64 0) 1 8 Tryz.underlying50 hi hz0 hz1 hz2 rfl (by decide) (.slice na 1 nc) 1 (vs.flatMap encI) rfl (HOwn.out.alloc _) ⟨wr.heap.size, 0, .none⟩ 1 1 [.int .i64 z] rfl rfl (cell_v _ _ _) (by intro u hu; simp at hu; subst hu; rfl) (by unfold maxLen; omega) (by omega) (by have := HB.out.size; simp; omega) ?_; intro v1 w4 hown1 hgrow1 hlt1)
                obtain ⟨na', nc', hv1⟩ := own_form hown1
                subst hv1
                go_roundw
                case rel => exact ⟨1 + 1, nn, vs ++ [z], na', nc', by omega, rfl, rfl, rfl, by simpa [List.flatMap_append, encI] using hown1, (HB.out.alloc HB.out.size _).grown hgrow1 (by have := HB.out.size; simp; omega) (fun q hq => (HOwn.out.lt q hq).1), HF.out.next rfl rfl nn z (by rw [HZ.out.1]; decide) (by rw [HZ.out.1]; simp) (fun _ => HZ.out.2.symm)⟩
                case measure => simp [intOf]
          · have d2 := HW.out wr (HB12.out.trans (HB.out.mono HB12.out.size)) 3 s2 rfl
            have HNu : Hid _ := numberD_at s2 wr
            go_wp2_with fail
            refine Calls.mono HNu.out ?_
            rintro v w3 ⟨rfl, hw3⟩
            rw [hw3]
            clear hw3 w3
            have HWn : Hid _ := @word_n (lookF e.pts) s2
            clear HNu
            generalize numD (bl s2) = z at *
            by_cases z0 : z < 0
            · have HE : Hid (lineK last c 6 [bl s0, bl s1, bl s2, bl s3] = 1) := by show _ = _; rw [HK.out]; exact HF.out.bad rfl rfl (by rw [HWn.out.1, if_pos z0])
              go_wp2
              go_ret
              exact ⟨by rw [HE.out]; rfl, HBw.out _ HB.out, fun h0 => by rw [HE.out] at h0; cases h0⟩
            · have z1 : 0 ≤ z := by omega
              obtain ⟨n1, n2⟩ := litN (HWn.out.2 z1).2
              go_wp2_with (at_builtin; refine wpList_append_own _ rfl _ _ 50 rfl w2.heap.size 3 i0 (.int .i64 0) 1 8 Tryz.underlying50 hi hz0 hz1 hz2 rfl (by decide) (.slice na 2 nc) 2 (vs.flatMap encI) rfl (HOwn.out.alloc _) ⟨wr.heap.size, 0, .none⟩ 1 1 [.int .i64 z] rfl rfl (cell_v _ _ _) (by intro u hu; simp at hu; subst hu; rfl) (by unfold maxLen; omega) (by omega) (by have := HB.out.size; simp; omega) ?_; intro v1 w4 hown1 hgrow1 hlt1)
              obtain ⟨na', nc', hv1⟩ := own_form hown1
              subst hv1
              go_roundw
              case rel => exact ⟨2 + 1, nn, vs ++ [z], na', nc', by omega, rfl, rfl, rfl, by simpa [List.flatMap_append, encI] using hown1, (HB.out.alloc HB.out.size _).grown hgrow1 (by have := HB.out.size; simp; omega) (fun q hq => (HOwn.out.lt q hq).1), HF.out.next rfl rfl nn z (by rw [HWn.out.1, if_neg (by omega)]; decide) (by rw [HWn.out.1, if_neg (by omega)]; simp) (fun _ => (HWn.out.2 z1).1.symm)⟩
              case measure => simp [intOf]
          · have d3 := HW.out wr (HB12.out.trans (HB.out.mono HB12.out.size)) 4 s3 rfl
            have HNu : Hid _ := numberD_at s3 wr
            go_wp2_with fail
            refine Calls.mono HNu.out ?_
            rintro v w3 ⟨rfl, hw3⟩
            rw [hw3]
            clear hw3 w3
            have HWn : Hid _ := @word_n (lookF e.pts) s3
            clear HNu
            generalize numD (bl s3) = z at *
            by_cases z0 : z < 0
            · have HE : Hid (lineK last c 6 [bl s0, bl s1, bl s2, bl s3] = 1) := by show _ = _; rw [HK.out]; exact HF.out.bad rfl rfl (by rw [HWn.out.1, if_pos z0])
              go_wp2
              go_ret
              exact ⟨by rw [HE.out]; rfl, HBw.out _ HB.out, fun h0 => by rw [HE.out] at h0; cases h0⟩
            · have z1 : 0 ≤ z := by omega
              obtain ⟨n1, n2⟩ := litN (HWn.out.2 z1).2
              go_wp2_with (at_builtin; refine wpList_append_own _ rfl _ _ 50 rfl w2.heap.size 3 i0 (.int .i64 0) 1 8 Tryz.underlying50 hi hz0 hz1 hz2 rfl (by decide) (.slice na 3 nc) 3 (vs.flatMap encI) rfl (HOwn.out.alloc _) ⟨wr.heap.size, 0, .none⟩ 1 1 [.int .i64 z] rfl rfl (cell_v _ _ _) (by intro u hu; simp at hu; subst hu; rfl) (by unfold maxLen; omega) (by omega) (by have := HB.out.size; simp; omega) ?_; intro v1 w4 hown1 hgrow1 hlt1)
              obtain ⟨na', nc', hv1⟩ := own_form hown1
              subst hv1
              go_roundw
              case rel => exact ⟨3 + 1, nn, vs ++ [z], na', nc', by omega, rfl, rfl, rfl, by simpa [List.flatMap_append, encI] using hown1, (HB.out.alloc HB.out.size _).grown hgrow1 (by have := HB.out.size; simp; omega) (fun q hq => (HOwn.out.lt q hq).1), HF.out.next rfl rfl nn z (by rw [HWn.out.1, if_neg (by omega)]; decide) (by rw [HWn.out.1, if_neg (by omega)]; simp) (fun _ => (HWn.out.2 z1).1.symm)⟩
              case measure => simp [intOf]
        · obtain rfl : j = 4 := by omega
          clear hlt hj
          obtain ⟨hcode, hvals⟩ := (show FillD (lookF e.pts) [2, 2, 1, 1] [bl s0, bl s1, bl s2, bl s3] ([2, 2, 1, 1] : List Nat).length nn vs from HF.out).done rfl
          cases nn with
          | true =>
            have HE : Hid (lineK last c 6 [bl s0, bl s1, bl s2, bl s3] = 5) := by show _ = _; rw [HK.out]; exact hcode
            clear hcode hvals
            go_wp2
            go_ret
            exact ⟨by rw [HE.out]; rfl, HBw.out _ HB.out, fun h0 => by rw [HE.out] at h0; cases h0⟩
          | false =>
            have HC0 : Hid (lineK last c 6 [bl s0, bl s1, bl s2, bl s3] = 0) := by show _ = _; rw [HK.out]; exact hcode
            have HVs : Hid ((fillV (lookF e.pts) false [2, 2, 1, 1] [bl s0, bl s1, bl s2, bl s3]).2 = vs) := hvals rfl
            have hlen := HF.out.len
            clear hcode hvals
            obtain ⟨v0, v1, v2, v3, rfl⟩ : ∃ v0 v1 v2 v3, vs = [v0, v1, v2, v3] := by
              match vs, hlen with
              | [v0, v1, v2, v3], _ => exact ⟨v0, v1, v2, v3, rfl⟩
            obtain ⟨ng, nc', hna⟩ := some_form HOwn.out
            cases hna
            have HNg : Hid (w2.heap.size ≤ ng) := by show _ ≤ _; exact (HOwn.out.lt ng rfl).1
            have x0 := own_int HOwn.out 0 v0 rfl
            have x1 := own_int HOwn.out 1 v1 rfl
            have x2 := own_int HOwn.out 2 v2 rfl
            have x3 := own_int HOwn.out 3 v3 rfl
            have HBx : Hid (Below w.heap.size w wr) := HB2.out.trans (HB.out.mono HB2.out.size)
            have d0 := HW.out wr (HB12.out.trans (HB.out.mono HB12.out.size)) 0 _ rfl
            have d1 := HW.out wr (HB12.out.trans (HB.out.mono HB12.out.size)) 1 _ rfl
            have d2 := HW.out wr (HB12.out.trans (HB.out.mono HB12.out.size)) 2 _ rfl
            have d3 := HW.out wr (HB12.out.trans (HB.out.mono HB12.out.size)) 3 _ rfl
            have d4 := HW.out wr (HB12.out.trans (HB.out.mono HB12.out.size)) 4 _ rfl
            clear hlen HF
            have hbase := H1.out wr HBx.out
            have hrw : rb < w.heap.size := lt_of_row (H1.out w (Below.refl _ _)).row
            have hgw : g < w.heap.size := by obtain ⟨cur, h1, -⟩ := (H1.out w (Below.refl _ _)).grow; exact lt_of_row h1
            have nb1 : ¬ rb = wg := by have := HWg.out; omega
            have nb2 : ¬ wg = rb := fun e2 => nb1 e2.symm
            have nb3 : ¬ rb = ng := by have := HB2.out.size; have := HNg.out; omega
            have nb4 : ¬ ng = rb := fun e2 => nb3 e2.symm
            have hrow := hbase.row
            have r5 : wr.cell? ⟨rb, 5, none⟩ = some (.string (lwOf last)) := by simp [World.cell?, hrow, drRow]
            have f5 : wr.frozen? ⟨rb, 5, none⟩ = false := by simp [World.frozen?, hrow]
            clear hrow
            go_upto_region 62 with fail
            obtain ⟨Wz, hWz⟩ : ∃ V, V = wr.setCell ⟨rb, 5, none⟩ (.string ⟨#[103, 97, 112]⟩) := ⟨_, rfl⟩
            rw [← hWz]
            have HDz : Hid (DrM w0.heap.size rb L g cap Wz c ⟨#[103, 97, 112]⟩ es (x.row e).toList e x cells) := by rw [hWz]; exact DrM.setR hbase 5 (.string ⟨#[103, 97, 112]⟩) rfl
            have HBz : Hid (BlX rb w0 Wz) := by rw [hWz]; exact (HBw.out _ HB.out).setCell (p := ⟨rb, 5, none⟩) hbase.lo _
            have HZz : Hid (w.heap.size ≤ Wz.heap.size) := by show _ ≤ _; rw [hWz]; have := HBx.out.size; simpa [World.setCell] using this
            have y0 : Wz.cell? ⟨wg, 0, none⟩ = some (.string ⟨#[103, 97, 112]⟩) := by rw [hWz, cell_setOther (Or.inl nb1) rfl rfl]; exact d0
            have y1 : Wz.cell? ⟨wg, 1, none⟩ = some (.string s0) := by rw [hWz, cell_setOther (Or.inl nb1) rfl rfl]; exact d1
            have y2 : Wz.cell? ⟨wg, 2, none⟩ = some (.string s1) := by rw [hWz, cell_setOther (Or.inl nb1) rfl rfl]; exact d2
            have y3 : Wz.cell? ⟨wg, 3, none⟩ = some (.string s2) := by rw [hWz, cell_setOther (Or.inl nb1) rfl rfl]; exact d3
            have y4 : Wz.cell? ⟨wg, 4, none⟩ = some (.string s3) := by rw [hWz, cell_setOther (Or.inl nb1) rfl rfl]; exact d4
            have u0 : Wz.cell? ⟨ng, 0, none⟩ = some (.int .i64 v0) := by rw [hWz, cell_setOther (Or.inl nb3) rfl rfl]; exact x0
            have u1 : Wz.cell? ⟨ng, 1, none⟩ = some (.int .i64 v1) := by rw [hWz, cell_setOther (Or.inl nb3) rfl rfl]; exact x1
            have u2 : Wz.cell? ⟨ng, 2, none⟩ = some (.int .i64 v2) := by rw [hWz, cell_setOther (Or.inl nb3) rfl rfl]; exact x2
            have u3 : Wz.cell? ⟨ng, 3, none⟩ = some (.int .i64 v3) := by rw [hWz, cell_setOther (Or.inl nb3) rfl rfl]; exact x3
            clear hWz r5 f5 hbase d0 d1 d2 d3 d4 x0 x1 x2 x3
            obtain ⟨ga, gc, hxg⟩ := own_form HDz.out.new.hg
            obtain ⟨ea, ec, hxe⟩ := own_form HDz.out.new.he
            obtain ⟨fa, fc, hxf⟩ := own_form HDz.out.new.hf
            obtain ⟨la, lc, hxl⟩ := own_form HDz.out.new.hl
            have HXr : Hid (x.row e = #[.string e.name, .int .i64 e.tol, .slice pa e.pts.length pc, .int .i64 e.cnt, .int .i64 e.mn, .int .i64 e.mx, .slice ga e.gaps.length gc, .slice ea e.edges.length ec, .slice fa e.first.length fc, .slice la e.last.length lc] ∧ x = ⟨.slice pa e.pts.length pc, .slice ga e.gaps.length gc, .slice ea e.edges.length ec, .slice fa e.first.length fc, .slice la e.last.length lc⟩) := by
              have hxp := HXp.out
              obtain ⟨xp, xg, xe, xf, xl⟩ := x
              simp only at hxp hxg hxe hxf hxl
              subst hxp hxg hxe hxf hxl
              exact ⟨rfl, rfl⟩
            clear hxg hxe hxf hxl
            have e4 : Wz.cell? ⟨rb, 4, none⟩ = some (.slice (some ⟨g, 0, none⟩) (n + 1) cap) := by have := HDz.out.row; rw [HNn.out]; simp [World.cell?, this, drRow]
            have q0 : Wz.cell? ⟨g, n * 10, none⟩ = some (.string e.name) := by have := (HDz.out.ewcell (j := 0) (u := .string e.name) (by rw [HXr.out.1]; rfl)).1; rw [HNn.out]; simpa using this
            have q1 : Wz.cell? ⟨g, n * 10 + 1, none⟩ = some (.int .i64 e.tol) := by have := (HDz.out.ewcell (j := 1) (u := .int .i64 e.tol) (by rw [HXr.out.1]; rfl)).1; rw [HNn.out]; simpa using this
            have q2 : Wz.cell? ⟨g, n * 10 + 2, none⟩ = some (.slice pa e.pts.length pc) := by have := (HDz.out.ewcell (j := 2) (u := .slice pa e.pts.length pc) (by rw [HXr.out.1]; rfl)).1; rw [HNn.out]; simpa using this
            have q3 : Wz.cell? ⟨g, n * 10 + 3, none⟩ = some (.int .i64 e.cnt) := by have := (HDz.out.ewcell (j := 3) (u := .int .i64 e.cnt) (by rw [HXr.out.1]; rfl)).1; rw [HNn.out]; simpa using this
            have q4 : Wz.cell? ⟨g, n * 10 + 4, none⟩ = some (.int .i64 e.mn) := by have := (HDz.out.ewcell (j := 4) (u := .int .i64 e.mn) (by rw [HXr.out.1]; rfl)).1; rw [HNn.out]; simpa using this
            have q5 : Wz.cell? ⟨g, n * 10 + 5, none⟩ = some (.int .i64 e.mx) := by have := (HDz.out.ewcell (j := 5) (u := .int .i64 e.mx) (by rw [HXr.out.1]; rfl)).1; rw [HNn.out]; simpa using this
            have q6 : Wz.cell? ⟨g, n * 10 + 6, none⟩ = some (.slice ga e.gaps.length gc) := by have := (HDz.out.ewcell (j := 6) (u := .slice ga e.gaps.length gc) (by rw [HXr.out.1]; rfl)).1; rw [HNn.out]; simpa using this
            have q7 : Wz.cell? ⟨g, n * 10 + 7, none⟩ = some (.slice ea e.edges.length ec) := by have := (HDz.out.ewcell (j := 7) (u := .slice ea e.edges.length ec) (by rw [HXr.out.1]; rfl)).1; rw [HNn.out]; simpa using this
            have q8 : Wz.cell? ⟨g, n * 10 + 8, none⟩ = some (.slice fa e.first.length fc) := by have := (HDz.out.ewcell (j := 8) (u := .slice fa e.first.length fc) (by rw [HXr.out.1]; rfl)).1; rw [HNn.out]; simpa using this
            have q9 : Wz.cell? ⟨g, n * 10 + 9, none⟩ = some (.slice la e.last.length lc) := by have := (HDz.out.ewcell (j := 9) (u := .slice la e.last.length lc) (by rw [HXr.out.1]; rfl)).1; rw [HNn.out]; simpa using this
            go_upto_region 63 with fail
            obtain ⟨V, hV⟩ : ∃ V, V = Wz.alloc (.cells #[.string e.name, .int .i64 e.tol, .slice pa e.pts.length pc, .int .i64 e.cnt, .int .i64 e.mn, .int .i64 e.mx, .slice ga e.gaps.length gc, .slice ea e.edges.length ec, .slice fa e.first.length fc, .slice la e.last.length lc] 52) := ⟨_, rfl⟩
            rw [← hV]
            obtain ⟨eb, heb⟩ : ∃ b, b = Wz.heap.size := ⟨_, rfl⟩
            rw [← heb]
            have HVb : Hid (Below Wz.heap.size Wz V) := by show Below _ _ _; rw [hV]; exact Below.one _ _
            have HDv : Hid (DrM w0.heap.size rb L g cap V c ⟨#[103, 97, 112]⟩ es (x.row e).toList e x cells) := HDz.out.below HVb.out
            have HBv : Hid (BlX rb w0 V) := HBz.out.trans (HVb.out.mono HBz.out.size)
            have HEb : Hid (V.heap[eb]? = some (.cells #[.string e.name, .int .i64 e.tol, .slice pa e.pts.length pc, .int .i64 e.cnt, .int .i64 e.mn, .int .i64 e.mx, .slice ga e.gaps.length gc, .slice ea e.edges.length ec, .slice fa e.first.length fc, .slice la e.last.length lc] 52 (0, 0))) := by show _ = _; rw [hV, heb]; exact heap_alloc_new Wz _
            have HEg : Hid (eb ≠ g ∧ eb ≠ rb ∧ w.heap.size ≤ eb) := by have := HZz.out; exact ⟨by omega, by omega, by omega⟩
            have HLv : Hid (L ≤ V.heap.size) := Nat.le_trans HLw.out (Nat.le_trans HZz.out HVb.out.size)
            have y0 := cell_below HVb.out y0
            have y1 := cell_below HVb.out y1
            have y2 := cell_below HVb.out y2
            have y3 := cell_below HVb.out y3
            have y4 := cell_below HVb.out y4
            have u0 := cell_below HVb.out u0
            have u1 := cell_below HVb.out u1
            have u2 := cell_below HVb.out u2
            have u3 := cell_below HVb.out u3
            clear hV heb e4 q0 q1 q2 q3 q4 q5 q6 q7 q8 q9
            obtain ⟨j0, hj, hj0, hj1, hj2⟩ := info_parts Tryz.infoOwng
            have q2 : V.cell? ⟨eb, 6, none⟩ = some (.slice ga e.gaps.length gc) := by simp [World.cell?, HEb.out]
            have q2' : ∀ ob, (V.alloc ob).cell? ⟨eb, 6, none⟩ = some (.slice ga e.gaps.length gc) := fun ob => cell_below (Below.one _ _) q2
            have hown : V.drew.ownsRow L 78 4 (.slice ga e.gaps.length gc) e.gaps.length (e.gaps.flatMap encG) := by have := HDv.out.new.hg; rw [HXr.out.2] at this; exact this
            have hLz := HLv.out
            have hcl : e.gaps.length ≤ 1000000 := HSz.out.2.g
            have KB : Hid (∀ (ob : Obj) (w8 : World), (V.drew.alloc ob).grownBy w8 (Value.slice ga e.gaps.length gc).ownBlock → w8.heap[eb]? = some (.cells #[.string e.name, .int .i64 e.tol, .slice pa e.pts.length pc, .int .i64 e.cnt, .int .i64 e.mn, .int .i64 e.mx, .slice ga e.gaps.length gc, .slice ea e.edges.length ec, .slice fa e.first.length fc, .slice la e.last.length lc] 52 (0, 0)) ∧ BlX rb w0 w8) := fun ob w8 hg => by
              have bb : Below V.heap.size V (V.drew.alloc ob) := (Below.refl V.heap.size V).drew.alloc (by simp) ob
              have hD3 := HDv.out.below bb
              have b3 : BlX rb w0 (V.drew.alloc ob) := HBv.out.trans (bb.mono HBv.out.size)
              have k3 := row_below bb HEb.out
              have ho3 : (V.drew.alloc ob).ownsRow L 78 4 (.slice ga e.gaps.length gc) e.gaps.length (e.gaps.flatMap encG) := by have := hD3.new.hg; rw [HXr.out.2] at this; exact this
              exact ⟨(hg.block eb (lt_of_row k3) (fun e2 => own_ne ho3 k3 (by decide) e2.symm)).trans k3, b3.grown hg b3.size (fun b hb => Nat.le_trans hD3.loL (ho3.lt b hb).1)⟩
            have q2'' : (V.drew.alloc (.cells #[.int .i64 v0, .int .i64 v1, .int .i64 v2, .int .i64 v3] 78)).cell? ⟨eb, 6, none⟩ = some (.slice ga e.gaps.length gc) := cell_below ((Below.refl V.heap.size V).drew.alloc (by simp) _) q2
            obtain ⟨X, HX8, HXe⟩ : ∃ X : Nat → Nat → World → Prop, Hid (∀ g' cap' w8, (V.drew.alloc (.cells #[.int .i64 v0, .int .i64 v1, .int .i64 v2, .int .i64 v3] 78)).grownBy w8 (Value.slice ga e.gaps.length gc).ownBlock → w8.ownsRow L 78 4 (.slice (some ⟨g', 0, none⟩) (e.gaps.length + 1) cap') (e.gaps.length + 1) (e.gaps.flatMap encG ++ encG ⟨v0, v1, v2, v3⟩) → X g' cap' w8) ∧ Hid (∀ g' cap' w8, X g' cap' w8 → (w8.heap[eb]? = some (.cells #[.string e.name, .int .i64 e.tol, .slice pa e.pts.length pc, .int .i64 e.cnt, .int .i64 e.mn, .int .i64 e.mx, .slice ga e.gaps.length gc, .slice ea e.edges.length ec, .slice fa e.first.length fc, .slice la e.last.length lc] 52 (0, 0)) ∧ BlX rb w0 w8) ∧ DrM w0.heap.size rb L g cap w8 c ⟨#[103, 97, 112]⟩ es (x.row e).toList { e with gaps := e.gaps ++ [⟨v0, v1, v2, v3⟩] } ({ x with g := .slice (some ⟨g', 0, none⟩) (e.gaps.length + 1) cap' }) cells ∧ L ≤ w8.heap.size) := by
              refine ⟨fun g' cap' w8 => (w8.heap[eb]? = some (.cells #[.string e.name, .int .i64 e.tol, .slice pa e.pts.length pc, .int .i64 e.cnt, .int .i64 e.mn, .int .i64 e.mx, .slice ga e.gaps.length gc, .slice ea e.edges.length ec, .slice fa e.first.length fc, .slice la e.last.length lc] 52 (0, 0)) ∧ BlX rb w0 w8) ∧ DrM w0.heap.size rb L g cap w8 c ⟨#[103, 97, 112]⟩ es (x.row e).toList { e with gaps := e.gaps ++ [⟨v0, v1, v2, v3⟩] } ({ x with g := .slice (some ⟨g', 0, none⟩) (e.gaps.length + 1) cap' }) cells ∧ L ≤ w8.heap.size, ?_, fun _ _ _ h => h⟩
              intro g' cap' w8 hgrow8 hown8
              exact ⟨KB.out _ _ hgrow8, (HDv.out.below (w' := V.drew.alloc _) ((Below.refl V.heap.size V).drew.alloc (by simp) _)).appGap ⟨v0, v1, v2, v3⟩ (by rw [HXr.out.2]; exact hgrow8) hown8, by have h1 := hgrow8.size; have h2 := HLv.out; simp at h1; omega⟩
            go_upto_region 71 with fail
            refine region_spec2 19 rfl (gapS eb ng nc V.heap.size ga e.gaps.length gc v0 v1 v2 v3 X) (gapC V eb (.slice ga e.gaps.length gc) (.cells #[.int .i64 v0, .int .i64 v1, .int .i64 v2, .int .i64 v3] 78)) (by kernel_rfl) (by kernel_rfl) gapC_start ?_ ?_
            · intro i o ho
              match i, ho with
              | 0, ho =>
                obtain rfl := Option.some.inj ho
                refine StepOk2.free rfl ?_
                intro done a W hC hdn hpre hdep hoth
                have x14 : a.tmps[14]?.getD undef = .pointer (some ⟨eb, 0, none⟩) := slot_of (hoth 14 (notDst (by kernel_rfl)))
                exact goodRun2.val (c := .pointer (some ⟨eb, 6, none⟩)) (by clear hdep hoth hpre; go_simp) (hC.other (by decide) (by decide) (by decide) (by decide)) rfl
              | 1, ho =>
                obtain rfl := Option.some.inj ho
                refine StepOk2.free rfl ?_
                intro done a W hC hdn hpre hdep hoth
                have x214 : a.tmps[214]?.getD undef = .pointer (some ⟨eb, 6, none⟩) := slot_of (hdep _ 214 (Array.mem_of_getElem? (i := 0) rfl) rfl rfl)
                have q := hC.cell (hC.no16' hdn) q2 q2''
                exact goodRun2.val (c := .slice ga e.gaps.length gc) (by clear hdep hoth hpre; go_simp) (hC.other (by decide) (by decide) (by decide) (by decide)) rfl
              | 2, ho =>
                obtain rfl := Option.some.inj ho
                refine StepOk2.free rfl ?_
                intro done a W hC hdn hpre hdep hoth
                have x9 : a.tmps[9]?.getD undef = .slice (some ⟨ng, 0, none⟩) 4 nc := slot_of (hoth 9 (notDst (by kernel_rfl)))
                exact goodRun2.val (c := .slice (some ⟨ng, 0, none⟩) 4 nc) (by clear hdep hoth hpre; go_simp) (hC.other (by decide) (by decide) (by decide) (by decide)) rfl
              | 3, ho =>
                obtain rfl := Option.some.inj ho
                refine StepOk2.free rfl ?_
                intro done a W hC hdn hpre hdep hoth
                have x216 : a.tmps[216]?.getD undef = .slice (some ⟨ng, 0, none⟩) 4 nc := slot_of (hdep _ 216 (Array.mem_of_getElem? (i := 0) rfl) rfl rfl)
                exact goodRun2.val (c := .pointer (some ⟨ng, 0, none⟩)) (by clear hdep hoth hpre; go_simp) (hC.other (by decide) (by decide) (by decide) (by decide)) rfl
              | 4, ho =>
                obtain rfl := Option.some.inj ho
                refine StepOk2.free rfl ?_
                intro done a W hC hdn hpre hdep hoth
                have x217 : a.tmps[217]?.getD undef = .pointer (some ⟨ng, 0, none⟩) := slot_of (hdep _ 217 (Array.mem_of_getElem? (i := 0) rfl) rfl rfl)
                obtain rfl := hC.early (hC.no15 (by decide) hdn)
                exact goodRun2.val (c := .int .i64 v0) (by clear hdep hoth hpre; go_simp) (hC.other (by decide) (by decide) (by decide) (by decide)) rfl
              | 5, ho =>
                obtain rfl := Option.some.inj ho
                refine StepOk2.free rfl ?_
                intro done a W hC hdn hpre hdep hoth
                have x9 : a.tmps[9]?.getD undef = .slice (some ⟨ng, 0, none⟩) 4 nc := slot_of (hoth 9 (notDst (by kernel_rfl)))
                exact goodRun2.val (c := .slice (some ⟨ng, 0, none⟩) 4 nc) (by clear hdep hoth hpre; go_simp) (hC.other (by decide) (by decide) (by decide) (by decide)) rfl
              | 6, ho =>
                obtain rfl := Option.some.inj ho
                refine StepOk2.free rfl ?_
                intro done a W hC hdn hpre hdep hoth
                have x219 : a.tmps[219]?.getD undef = .slice (some ⟨ng, 0, none⟩) 4 nc := slot_of (hdep _ 219 (Array.mem_of_getElem? (i := 0) rfl) rfl rfl)
                exact goodRun2.val (c := .pointer (some ⟨ng, 1, none⟩)) (by clear hdep hoth hpre; go_simp) (hC.other (by decide) (by decide) (by decide) (by decide)) rfl
              | 7, ho =>
                obtain rfl := Option.some.inj ho
                refine StepOk2.free rfl ?_
                intro done a W hC hdn hpre hdep hoth
                have x220 : a.tmps[220]?.getD undef = .pointer (some ⟨ng, 1, none⟩) := slot_of (hdep _ 220 (Array.mem_of_getElem? (i := 0) rfl) rfl rfl)
                obtain rfl := hC.early (hC.no15 (by decide) hdn)
                exact goodRun2.val (c := .int .i64 v1) (by clear hdep hoth hpre; go_simp) (hC.other (by decide) (by decide) (by decide) (by decide)) rfl
              | 8, ho =>
                obtain rfl := Option.some.inj ho
                refine StepOk2.free rfl ?_
                intro done a W hC hdn hpre hdep hoth
                have x9 : a.tmps[9]?.getD undef = .slice (some ⟨ng, 0, none⟩) 4 nc := slot_of (hoth 9 (notDst (by kernel_rfl)))
                exact goodRun2.val (c := .slice (some ⟨ng, 0, none⟩) 4 nc) (by clear hdep hoth hpre; go_simp) (hC.other (by decide) (by decide) (by decide) (by decide)) rfl
              | 9, ho =>
                obtain rfl := Option.some.inj ho
                refine StepOk2.free rfl ?_
                intro done a W hC hdn hpre hdep hoth
                have x222 : a.tmps[222]?.getD undef = .slice (some ⟨ng, 0, none⟩) 4 nc := slot_of (hdep _ 222 (Array.mem_of_getElem? (i := 0) rfl) rfl rfl)
                exact goodRun2.val (c := .pointer (some ⟨ng, 2, none⟩)) (by clear hdep hoth hpre; go_simp) (hC.other (by decide) (by decide) (by decide) (by decide)) rfl
              | 10, ho =>
                obtain rfl := Option.some.inj ho
                refine StepOk2.free rfl ?_
                intro done a W hC hdn hpre hdep hoth
                have x223 : a.tmps[223]?.getD undef = .pointer (some ⟨ng, 2, none⟩) := slot_of (hdep _ 223 (Array.mem_of_getElem? (i := 0) rfl) rfl rfl)
                obtain rfl := hC.early (hC.no15 (by decide) hdn)
                exact goodRun2.val (c := .int .i64 v2) (by clear hdep hoth hpre; go_simp) (hC.other (by decide) (by decide) (by decide) (by decide)) rfl
              | 11, ho =>
                obtain rfl := Option.some.inj ho
                refine StepOk2.free rfl ?_
                intro done a W hC hdn hpre hdep hoth
                have x9 : a.tmps[9]?.getD undef = .slice (some ⟨ng, 0, none⟩) 4 nc := slot_of (hoth 9 (notDst (by kernel_rfl)))
                exact goodRun2.val (c := .slice (some ⟨ng, 0, none⟩) 4 nc) (by clear hdep hoth hpre; go_simp) (hC.other (by decide) (by decide) (by decide) (by decide)) rfl
              | 12, ho =>
                obtain rfl := Option.some.inj ho
                refine StepOk2.free rfl ?_
                intro done a W hC hdn hpre hdep hoth
                have x225 : a.tmps[225]?.getD undef = .slice (some ⟨ng, 0, none⟩) 4 nc := slot_of (hdep _ 225 (Array.mem_of_getElem? (i := 0) rfl) rfl rfl)
                exact goodRun2.val (c := .pointer (some ⟨ng, 3, none⟩)) (by clear hdep hoth hpre; go_simp) (hC.other (by decide) (by decide) (by decide) (by decide)) rfl
              | 13, ho =>
                obtain rfl := Option.some.inj ho
                refine StepOk2.free rfl ?_
                intro done a W hC hdn hpre hdep hoth
                have x226 : a.tmps[226]?.getD undef = .pointer (some ⟨ng, 3, none⟩) := slot_of (hdep _ 226 (Array.mem_of_getElem? (i := 0) rfl) rfl rfl)
                obtain rfl := hC.early (hC.no15 (by decide) hdn)
                exact goodRun2.val (c := .int .i64 v3) (by clear hdep hoth hpre; go_simp) (hC.other (by decide) (by decide) (by decide) (by decide)) rfl
              | 14, ho =>
                obtain rfl := Option.some.inj ho
                refine StepOk2.free rfl ?_
                intro done a W hC hdn hpre hdep hoth
                have x218 : a.tmps[218]?.getD undef = .int .i64 v0 := slot_of (hdep _ 218 (Array.mem_of_getElem? (i := 0) rfl) rfl rfl)
                have x221 : a.tmps[221]?.getD undef = .int .i64 v1 := slot_of (hdep _ 221 (Array.mem_of_getElem? (i := 1) rfl) rfl rfl)
                have x224 : a.tmps[224]?.getD undef = .int .i64 v2 := slot_of (hdep _ 224 (Array.mem_of_getElem? (i := 2) rfl) rfl rfl)
                have x227 : a.tmps[227]?.getD undef = .int .i64 v3 := slot_of (hdep _ 227 (Array.mem_of_getElem? (i := 3) rfl) rfl rfl)
                exact goodRun2.val (c := .agg #[.int .i64 v0, .int .i64 v1, .int .i64 v2, .int .i64 v3]) (by clear hdep hoth hpre; go_simp) (hC.at14 ⟨hpre _ (Array.mem_of_getElem? (i := 0) rfl) rfl, hpre _ (Array.mem_of_getElem? (i := 1) rfl) rfl, hpre _ (Array.mem_of_getElem? (i := 2) rfl) rfl, hpre _ (Array.mem_of_getElem? (i := 3) rfl) rfl⟩) rfl
              | 15, ho =>
                obtain rfl := Option.some.inj ho
                refine StepOk2.free rfl ?_
                intro done a W hC hdn hpre hdep hoth
                have x228 : a.tmps[228]?.getD undef = .agg #[.int .i64 v0, .int .i64 v1, .int .i64 v2, .int .i64 v3] := slot_of (hdep _ 228 (Array.mem_of_getElem? (i := 0) rfl) rfl rfl)
                have HC : Hid _ := hC.at15 hdn (hpre _ (Array.mem_of_getElem? (i := 0) rfl) rfl)
                have n16 := hC.no16 hdn
                have n18 := hC.no18 n16
                obtain rfl := hC.early hdn
                exact goodRun2.made (c := .slice (some ⟨V.heap.size, 0, none⟩) 1 1) (w' := V.drew.alloc (.cells #[.int .i64 v0, .int .i64 v1, .int .i64 v2, .int .i64 v3] 78)) (by clear hdep hoth hpre; go_simp) HC.out (fun j v hj h => gapS_free (fun e2 => by rw [e2, n16] at hj; cases hj) (fun e2 => by rw [e2, n18] at hj; cases hj) h) rfl
              | 16, ho =>
                obtain rfl := Option.some.inj ho
                refine StepOk2.free rfl ?_
                intro done a W hC hdn hpre hdep hoth
                have p15 : done 15 = true := hpre _ (Array.mem_of_getElem? (i := 1) rfl) rfl
                have p1 : done 1 = true := hpre _ (Array.mem_of_getElem? (i := 0) rfl) rfl
                have n18 := hC.no18 hdn
                have s215 : a.eval (.tmp 215) = (.slice ga e.gaps.length gc) := hdep _ 215 (Array.mem_of_getElem? (i := 0) rfl) rfl rfl
                have s229 : a.eval (.tmp 229) = .slice (some ⟨V.heap.size, 0, none⟩) 1 1 := hdep _ 229 (Array.mem_of_getElem? (i := 1) rfl) rfl rfl
                have HC := fun W' hc => hC.at16 (W' := W') hdn ⟨p15, p1⟩ hc
                obtain rfl := hC.grown p15 hdn
                obtain ⟨g', cap', w8, hr8, ho8, hg8⟩ := gap_append L 48 (hown.alloc (.cells #[.int .i64 v0, .int .i64 v1, .int .i64 v2, .int .i64 v3] 78)) ⟨v0, v1, v2, v3⟩ ⟨V.heap.size, 0, none⟩ 1 (cells_at V.drew [.int .i64 v0, .int .i64 v1, .int .i64 v2, .int .i64 v3] 78) hcl (by simp; omega)
                have r8 := HXe.out g' cap' w8 (HX8.out g' cap' w8 hg8 ho8)
                refine goodRun2.made (c := .slice (some ⟨g', 0, none⟩) (e.gaps.length + 1) cap') (w' := w8) (exec_app (s := .tmp 215) (x := .tmp 229) rfl rfl s215 s229 hr8) (HC w8 (by simp [World.cell?, r8.1.1])) (fun j v hj h => gapS_free (fun e2 => by rw [e2, hdn] at hj; cases hj) (fun e2 => by rw [e2, n18] at hj; cases hj) h) ⟨g', cap', rfl, fun _ => HX8.out g' cap' w8 hg8 ho8⟩
              | 17, ho =>
                obtain rfl := Option.some.inj ho
                refine StepOk2.free rfl ?_
                intro done a W hC hdn hpre hdep hoth
                have x14 : a.tmps[14]?.getD undef = .pointer (some ⟨eb, 0, none⟩) := slot_of (hoth 14 (notDst (by kernel_rfl)))
                exact goodRun2.val (c := .pointer (some ⟨eb, 6, none⟩)) (by clear hdep hoth hpre; go_simp) (hC.other (by decide) (by decide) (by decide) (by decide)) rfl
              | 18, ho =>
                obtain rfl := Option.some.inj ho
                refine StepOk2.free rfl ?_
                intro done a W hC hdn hpre hdep hoth
                have x231 : a.tmps[231]?.getD undef = .pointer (some ⟨eb, 6, none⟩) := slot_of (hdep _ 231 (Array.mem_of_getElem? (i := 0) rfl) rfl rfl)
                obtain ⟨g', cap', hv, hx8⟩ := hdep _ 230 (Array.mem_of_getElem? (i := 1) rfl) rfl rfl
                have x230 := slot_of hv
                have p16 : done 16 = true := hpre _ (Array.mem_of_getElem? (i := 1) rfl) rfl
                have d8 := hC.late p16 hdn
                have r8 := HXe.out g' cap' W (hx8 d8)
                have d9 : W.frozen? ⟨eb, 6, none⟩ = false := by simp [World.frozen?, r8.1.1]
                have hw8 := hx8 d8
                have hnew : (W.setCell ⟨eb, 6, none⟩ (.slice (some ⟨g', 0, none⟩) (e.gaps.length + 1) cap')).cell? ⟨eb, 6, none⟩ = some (.slice (some ⟨g', 0, none⟩) (e.gaps.length + 1) cap') := by simp [World.cell?, row_set r8.1.1]
                have HC : Hid _ := hC.at18 (W' := W.setCell ⟨eb, 6, none⟩ (.slice (some ⟨g', 0, none⟩) (e.gaps.length + 1) cap')) p16
                refine goodRun2.skipped (w' := W.setCell ⟨eb, 6, none⟩ (.slice (some ⟨g', 0, none⟩) (e.gaps.length + 1) cap')) (by clear hdep hoth hpre hC hv hx8 r8 hw8 hnew; go_simp) HC.out ?_ ⟨g', cap', W, hw8, rfl⟩
                intro j v hj h
                by_cases e16 : j = 16
                · subst e16
                  obtain ⟨g2, cap2, h1, -⟩ := h
                  exact ⟨g2, cap2, h1, fun e2 => by rw [hnew] at e2; simp at e2⟩
                · exact gapS_free e16 (fun e2 => by rw [e2, hdn] at hj; cases hj) h
              | n + 19, ho => simp at ho
            · intro vals W hC hS
              obtain ⟨g', cap', w8, hx8, rfl⟩ := hS 18 (by decide)
              have HX : Hid (X g' cap' w8) := hx8
              clear hS hC
              simp only [fill, dstOf]
              go_simp
              clear HX
              have r8 := HXe.out _ _ _ hx8
              have H8 : Hid (_ ∧ _) := r8.1
              have HD8 : Hid (DrM w0.heap.size rb L g cap w8 c ⟨#[103, 97, 112]⟩ es (x.row e).toList { e with gaps := e.gaps ++ [⟨v0, v1, v2, v3⟩] } ({ x with g := .slice (some ⟨g', 0, none⟩) (e.gaps.length + 1) cap' }) cells) := r8.2.1
              have HL8 : Hid (L ≤ w8.heap.size) := r8.2.2
              clear r8 hx8 HX8 HXe q2 q2' q2'' hown
              go_upto_region 78 with fail
              obtain ⟨Y, hY⟩ : ∃ Y, Y = w8.setCell ⟨eb, 6, none⟩ (.slice (some ⟨g', 0, none⟩) (e.gaps.length + 1) cap') := ⟨_, rfl⟩
              rw [← hY]
              have HDy : Hid (DrM w0.heap.size rb L g cap Y c ⟨#[103, 97, 112]⟩ es (x.row e).toList { e with gaps := e.gaps ++ [⟨v0, v1, v2, v3⟩] } ({ x with g := .slice (some ⟨g', 0, none⟩) (e.gaps.length + 1) cap' }) cells) := by rw [hY]; exact HD8.out.setB eb 6 _ H8.out.1 HEg.out.1
              have HYr : Hid (Y.heap[eb]? = some (.cells #[.string e.name, .int .i64 e.tol, .slice pa e.pts.length pc, .int .i64 e.cnt, .int .i64 e.mn, .int .i64 e.mx, .slice (some ⟨g', 0, none⟩) (e.gaps.length + 1) cap', .slice ea e.edges.length ec, .slice fa e.first.length fc, .slice la e.last.length lc] 52 (0, 0))) := by show _ = _; rw [hY]; exact row_set H8.out.1 _
              have HBy : Hid (BlX rb w0 Y) := by show BlX _ _ _; rw [hY]; exact H8.out.2.setCell (p := ⟨eb, 6, none⟩) (Or.inr (Nat.le_trans HS.out.1.size HEg.out.2.2)) _
              have HLy : Hid (L ≤ Y.heap.size) := by show _ ≤ _; rw [hY]; simpa [World.setCell] using HL8.out
              have HXy : Hid (({ x with g := .slice (some ⟨g', 0, none⟩) (e.gaps.length + 1) cap' } : PV5).row { e with gaps := e.gaps ++ [⟨v0, v1, v2, v3⟩] } = #[.string e.name, .int .i64 e.tol, .slice pa e.pts.length pc, .int .i64 e.cnt, .int .i64 e.mn, .int .i64 e.mx, .slice (some ⟨g', 0, none⟩) (e.gaps.length + 1) cap', .slice ea e.edges.length ec, .slice fa e.first.length fc, .slice la e.last.length lc]) := by show _ = _; rw [HXr.out.2]; rfl
              clear hY hLz hcl y0 y1 y2 y3 y4 u0 u1 u2 u3
              have e4 : Y.cell? ⟨rb, 4, none⟩ = some (.slice (some ⟨g, 0, none⟩) (n + 1) cap) := by have := HDy.out.row; rw [HNn.out]; simp [World.cell?, this, drRow]
              have q0 : Y.cell? ⟨eb, 0, none⟩ = some (.string e.name) := by simp [World.cell?, HYr.out]
              have p0 : Y.cell? ⟨g, n * 10, none⟩ = some (.string e.name) := by have := (HDy.out.ewcell (j := 0) (u := .string e.name) (by rw [HXr.out.1]; rfl)).1; rw [HNn.out]; simpa using this
              have f0 : Y.frozen? ⟨g, n * 10, none⟩ = false := by have := (HDy.out.ewcell (j := 0) (u := .string e.name) (by rw [HXr.out.1]; rfl)).2; rw [HNn.out]; simpa using this
              have q1 : Y.cell? ⟨eb, 1, none⟩ = some (.int .i64 e.tol) := by simp [World.cell?, HYr.out]
              have p1 : Y.cell? ⟨g, n * 10 + 1, none⟩ = some (.int .i64 e.tol) := by have := (HDy.out.ewcell (j := 1) (u := .int .i64 e.tol) (by rw [HXr.out.1]; rfl)).1; rw [HNn.out]; simpa using this
              have f1 : Y.frozen? ⟨g, n * 10 + 1, none⟩ = false := by have := (HDy.out.ewcell (j := 1) (u := .int .i64 e.tol) (by rw [HXr.out.1]; rfl)).2; rw [HNn.out]; simpa using this
              have q2 : Y.cell? ⟨eb, 2, none⟩ = some (.slice pa e.pts.length pc) := by simp [World.cell?, HYr.out]
              have p2 : Y.cell? ⟨g, n * 10 + 2, none⟩ = some (.slice pa e.pts.length pc) := by have := (HDy.out.ewcell (j := 2) (u := .slice pa e.pts.length pc) (by rw [HXr.out.1]; rfl)).1; rw [HNn.out]; simpa using this
              have f2 : Y.frozen? ⟨g, n * 10 + 2, none⟩ = false := by have := (HDy.out.ewcell (j := 2) (u := .slice pa e.pts.length pc) (by rw [HXr.out.1]; rfl)).2; rw [HNn.out]; simpa using this
              have q3 : Y.cell? ⟨eb, 3, none⟩ = some (.int .i64 e.cnt) := by simp [World.cell?, HYr.out]
              have p3 : Y.cell? ⟨g, n * 10 + 3, none⟩ = some (.int .i64 e.cnt) := by have := (HDy.out.ewcell (j := 3) (u := .int .i64 e.cnt) (by rw [HXr.out.1]; rfl)).1; rw [HNn.out]; simpa using this
              have f3 : Y.frozen? ⟨g, n * 10 + 3, none⟩ = false := by have := (HDy.out.ewcell (j := 3) (u := .int .i64 e.cnt) (by rw [HXr.out.1]; rfl)).2; rw [HNn.out]; simpa using this
              have q4 : Y.cell? ⟨eb, 4, none⟩ = some (.int .i64 e.mn) := by simp [World.cell?, HYr.out]
              have p4 : Y.cell? ⟨g, n * 10 + 4, none⟩ = some (.int .i64 e.mn) := by have := (HDy.out.ewcell (j := 4) (u := .int .i64 e.mn) (by rw [HXr.out.1]; rfl)).1; rw [HNn.out]; simpa using this
              have f4 : Y.frozen? ⟨g, n * 10 + 4, none⟩ = false := by have := (HDy.out.ewcell (j := 4) (u := .int .i64 e.mn) (by rw [HXr.out.1]; rfl)).2; rw [HNn.out]; simpa using this
              have q5 : Y.cell? ⟨eb, 5, none⟩ = some (.int .i64 e.mx) := by simp [World.cell?, HYr.out]
              have p5 : Y.cell? ⟨g, n * 10 + 5, none⟩ = some (.int .i64 e.mx) := by have := (HDy.out.ewcell (j := 5) (u := .int .i64 e.mx) (by rw [HXr.out.1]; rfl)).1; rw [HNn.out]; simpa using this
              have f5 : Y.frozen? ⟨g, n * 10 + 5, none⟩ = false := by have := (HDy.out.ewcell (j := 5) (u := .int .i64 e.mx) (by rw [HXr.out.1]; rfl)).2; rw [HNn.out]; simpa using this
              have q6 : Y.cell? ⟨eb, 6, none⟩ = some (.slice (some ⟨g', 0, none⟩) (e.gaps.length + 1) cap') := by simp [World.cell?, HYr.out]
              have p6 : Y.cell? ⟨g, n * 10 + 6, none⟩ = some (.slice ga e.gaps.length gc) := by have := (HDy.out.ewcell (j := 6) (u := .slice ga e.gaps.length gc) (by rw [HXr.out.1]; rfl)).1; rw [HNn.out]; simpa using this
              have f6 : Y.frozen? ⟨g, n * 10 + 6, none⟩ = false := by have := (HDy.out.ewcell (j := 6) (u := .slice ga e.gaps.length gc) (by rw [HXr.out.1]; rfl)).2; rw [HNn.out]; simpa using this
              have q7 : Y.cell? ⟨eb, 7, none⟩ = some (.slice ea e.edges.length ec) := by simp [World.cell?, HYr.out]
              have p7 : Y.cell? ⟨g, n * 10 + 7, none⟩ = some (.slice ea e.edges.length ec) := by have := (HDy.out.ewcell (j := 7) (u := .slice ea e.edges.length ec) (by rw [HXr.out.1]; rfl)).1; rw [HNn.out]; simpa using this
              have f7 : Y.frozen? ⟨g, n * 10 + 7, none⟩ = false := by have := (HDy.out.ewcell (j := 7) (u := .slice ea e.edges.length ec) (by rw [HXr.out.1]; rfl)).2; rw [HNn.out]; simpa using this
              have q8 : Y.cell? ⟨eb, 8, none⟩ = some (.slice fa e.first.length fc) := by simp [World.cell?, HYr.out]
              have p8 : Y.cell? ⟨g, n * 10 + 8, none⟩ = some (.slice fa e.first.length fc) := by have := (HDy.out.ewcell (j := 8) (u := .slice fa e.first.length fc) (by rw [HXr.out.1]; rfl)).1; rw [HNn.out]; simpa using this
              have f8 : Y.frozen? ⟨g, n * 10 + 8, none⟩ = false := by have := (HDy.out.ewcell (j := 8) (u := .slice fa e.first.length fc) (by rw [HXr.out.1]; rfl)).2; rw [HNn.out]; simpa using this
              have q9 : Y.cell? ⟨eb, 9, none⟩ = some (.slice la e.last.length lc) := by simp [World.cell?, HYr.out]
              have p9 : Y.cell? ⟨g, n * 10 + 9, none⟩ = some (.slice la e.last.length lc) := by have := (HDy.out.ewcell (j := 9) (u := .slice la e.last.length lc) (by rw [HXr.out.1]; rfl)).1; rw [HNn.out]; simpa using this
              have f9 : Y.frozen? ⟨g, n * 10 + 9, none⟩ = false := by have := (HDy.out.ewcell (j := 9) (u := .slice la e.last.length lc) (by rw [HXr.out.1]; rfl)).2; rw [HNn.out]; simpa using this
              go_wp2_with fail
              go_region
              all_goals
                obtain ⟨Z, hZ⟩ : ∃ Z, Z = ((((((((((Y.setCell ⟨g, n * 10, none⟩ (.string e.name)).setCell ⟨g, n * 10 + 1, none⟩ (.int .i64 e.tol)).setCell ⟨g, n * 10 + 2, none⟩ (.slice pa e.pts.length pc)).setCell ⟨g, n * 10 + 3, none⟩ (.int .i64 e.cnt)).setCell ⟨g, n * 10 + 4, none⟩ (.int .i64 e.mn)).setCell ⟨g, n * 10 + 5, none⟩ (.int .i64 e.mx)).setCell ⟨g, n * 10 + 6, none⟩ (.slice (some ⟨g', 0, none⟩) (e.gaps.length + 1) cap')).setCell ⟨g, n * 10 + 7, none⟩ (.slice ea e.edges.length ec)).setCell ⟨g, n * 10 + 8, none⟩ (.slice fa e.first.length fc)).setCell ⟨g, n * 10 + 9, none⟩ (.slice la e.last.length lc)) := ⟨_, rfl⟩
                rw [← hZ]
                have HFin : Hid (DrE w0.heap.size rb L g cap Z c ⟨#[103, 97, 112]⟩ es { e with gaps := e.gaps ++ [⟨v0, v1, v2, v3⟩] } ({ x with g := .slice (some ⟨g', 0, none⟩) (e.gaps.length + 1) cap' }) cells) := by
                  rw [hZ]
                  exact HDy.out.put10 (by rw [HNn.out]) (by rw [HXy.out])
                have HBf : Hid (BlX rb w0 Z) := by
                  obtain ⟨cur, -, hle0⟩ := HDy.out.grow
                  have hle : g = rb ∨ w0.heap.size ≤ g := Or.inr hle0
                  show BlX _ _ _
                  rw [hZ]
                  exact ((((((((((HBy.out.setCell (p := ⟨g, n * 10, none⟩) hle _).setCell (p := ⟨g, n * 10 + 1, none⟩) hle _).setCell (p := ⟨g, n * 10 + 2, none⟩) hle _).setCell (p := ⟨g, n * 10 + 3, none⟩) hle _).setCell (p := ⟨g, n * 10 + 4, none⟩) hle _).setCell (p := ⟨g, n * 10 + 5, none⟩) hle _).setCell (p := ⟨g, n * 10 + 6, none⟩) hle _).setCell (p := ⟨g, n * 10 + 7, none⟩) hle _).setCell (p := ⟨g, n * 10 + 8, none⟩) hle _).setCell (p := ⟨g, n * 10 + 9, none⟩) hle _)
                have HLf : Hid (L ≤ Z.heap.size) := by show _ ≤ _; rw [hZ]; simpa [World.setCell] using HLy.out
                clear hZ e4 q0 p0 f0 q1 p1 f1 q2 p2 f2 q3 p3 f3 q4 p4 f4 q5 p5 f5 q6 p6 f6 q7 p7 f7 q8 p8 f8 q9 p9 f9
                go_wp2
                go_ret
                refine ⟨by rw [HC0.out]; rfl, HBf.out.drew, fun _ => Or.inr ⟨L, g, cap, es, { e with gaps := e.gaps ++ [⟨v0, v1, v2, v3⟩] }, ({ x with g := .slice (some ⟨g', 0, none⟩) (e.gaps.length + 1) cap' }), cells, ?_, HLf.out, ?_⟩⟩
                · rw [HLp.out, show (fillV (lookF e.pts) false (form 6) [bl s0, bl s1, bl s2, bl s3]).2 = _ from HVs.out]
                  exact (by simp only [updC]; rw [HCe.out, updLast_snoc]; rfl)
                · exact DrE.cfg (DrM.below HFin.out (Below.refl _ _).drew) (fun _ _ => rfl)
    · have HE : Hid (lineK last c 6 ws = 1) := by show _ = _; rw [HK.out]; exact fill_len _ _ _ (by rw [← HM.out.2, List.length_map]; exact hN)
      have mN : ¬ (m : Int) = 4 + 1 := by have := HM.out.1; omega
      clear hN
      go_wp2
      go_ret
      exact ⟨by rw [HE.out]; rfl, HBw.out _ (Below.refl _ _), fun h0 => by rw [HE.out] at h0; cases h0⟩
end Go.Proofs.YtbholbenjalliaaGreatDoor
