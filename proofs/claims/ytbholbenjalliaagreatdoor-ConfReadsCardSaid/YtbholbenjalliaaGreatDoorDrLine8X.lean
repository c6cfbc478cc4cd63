/-
  The document's (*Reader).Line by a contract, for a line that opens with 'first'. Conditions: the reader lies in memory.
-/
import Derived.Test.YtbholbenjalliaaGreatDoorDr1X
namespace Go.Proofs.YtbholbenjalliaaGreatDoor
open Go.RowKit Go.Extern.Stop Go.Stop Go.Extern Go.Maps

set_option maxHeartbeats 8000000 in
set_option maxRecDepth 100000 in
theorem lineD_k8 (w0 w : World) (rb : Nat) (c : CfgD) (last : Int) (l : ByteArray) (ws : List Bs) (hb0 : BlX rb w0 w) (h : DrS w0.heap.size rb w c (lwOf last)) (hl : l.size ≤ 1000000) (l0 : -1 ≤ last) (l9 : last ≤ 9) (hO : StOk 1000000 c last) (hcut : cutBy 32 (bl l) = kw 8 :: ws) :
    Calls Tryz.prog 35 #[.pointer (some ⟨rb, 0, none⟩), .string l] w fun v w' => v = .returned (.int .i64 (lineK last c 8 ws : Nat)) ∧ BlX rb w0 w' ∧ (lineK last c 8 ws = 0 → DrS w0.heap.size rb w' (updC c 8 ws (fillV (lookF (lastPts c.ents)) false (form 8) ws).2) (kwB 8)) := by
  obtain ⟨i0, hi, hz0, hz1, hz2⟩ := info_parts Tryz.infoOwnf
  have HS : Hid (BlX rb w0 w ∧ DrS w0.heap.size rb w c (lwOf last)) := ⟨hb0, h⟩
  have HO : Hid (StOk 1000000 c last) := hO
  have HCut : Hid (Calls Tryz.prog 34 #[.string l, .int .u8 32] w fun e w' => ∃ (wt : List ByteArray) (g cap m : Nat), e = .returned (.slice (some ⟨g, 0, none⟩) m cap) ∧ m = wt.length + 1 ∧ wt.map bl = ws ∧ w'.ownsRow w.heap.size 9 1 (.slice (some ⟨g, 0, none⟩) m cap) m ((⟨#[102, 105, 114, 115, 116]⟩ :: wt).flatMap encS) ∧ Below w.heap.size w w') := by
    refine (cutD_at l 32 w hl).mono ?_
    rintro e w' ⟨wl, g, cap, rfl, h1, h2, h3⟩
    rw [hcut] at h1
    obtain ⟨wt, rfl, h4⟩ := words_k h1
    exact ⟨wt, g, cap, _, rfl, rfl, h4, h2, h3⟩
  have HRt : Hid (∀ V, Below w.heap.size w V → Calls Tryz.prog 64 #[.pointer (some ⟨rb, 0, none⟩), .string ⟨#[102, 105, 114, 115, 116]⟩] V fun e w' => e = .returned (.bool (may last 8)) ∧ Below V.heap.size V w') := fun V hV => by
    have hc : V.cell? ⟨rb, 5, none⟩ = some (.string (lwOf last)) := by
      rcases h.below hV with h1 | ⟨_, _, _, _, _, _, _, _, _, h1⟩
      · have := h1.row; simp [World.cell?, this, drRow]
      · have := h1.row; simp [World.cell?, this, drRow]
    exact right_at rb last (kwB 8) V l0 l9 hc
  clear hb0 h hl l0 l9 hO hcut
  go_enter Tryz.func35, Tryz.ntmps35
  go_wp2_with fail
  refine Calls.mono HCut.out ?_
  rintro v w1 ⟨wt, wg, wc, m, rfl, hm, hws, hown, hb1⟩
  have HB1 : Hid (Below w.heap.size w w1) := hb1
  have HWg : Hid (w.heap.size ≤ wg) := by
    show _ ≤ _
    exact (hown.lt wg rfl).1
  have HW : Hid (∀ V, Below w1.heap.size w1 V → ∀ j s, (⟨#[102, 105, 114, 115, 116]⟩ :: wt)[j]? = some s → V.cell? ⟨wg, j, none⟩ = some (.string s)) := fun V hV j s hj => cell_below hV (own_word hown j s hj)
  have HM : Hid (m = wt.length + 1 ∧ wt.map bl = ws) := ⟨hm, hws⟩
  have c0 : w1.cell? ⟨wg, 0, none⟩ = some (.string ⟨#[102, 105, 114, 115, 116]⟩) := HW.out w1 (Below.refl _ _) 0 _ rfl
  have m0 : (0 : Int) < (m : Int) := by omega
  clear hm hws hown hb1 HCut
  go_wp2_with fail
  refine Calls.mono (HRt.out w1 HB1.out) ?_
  rintro v w2 ⟨rfl, hb2⟩
  have HB2 : Hid (Below w.heap.size w w2) := HB1.out.trans (hb2.mono HB1.out.size)
  have HB12 : Hid (Below w1.heap.size w1 w2) := hb2
  have HBw : Hid (∀ V, Below w2.heap.size w2 V → BlX rb w0 V) := fun V hV => HS.out.1.trans ((HB2.out.trans (hV.mono HB2.out.size)).mono HS.out.1.size)
  clear hb2 HRt c0
  cases hmy : may last 8 with
  | false =>
    have HE : Hid (lineK last c 8 ws = 1) := lineK_no hmy
    clear hmy
    go_wp2
    go_ret
    exact ⟨by rw [HE.out]; rfl, HBw.out _ (Below.refl _ _), fun h0 => by rw [HE.out] at h0; cases h0⟩
  | true =>
    have HY : Hid (may last 8 = true) := hmy
    have HK : Hid (lineK last c 8 ws = (fillV (lookF (lastPts c.ents)) false (form 8) ws).1) := lineK_yes hmy
    clear hmy
    by_cases hN : wt.length = 1
    · obtain ⟨s0, rfl⟩ : ∃ s0, wt = [s0] := by
        match wt, hN with
        | [s0], _ => exact ⟨s0, rfl⟩
      obtain rfl : ws = [bl s0] := HM.out.2.symm.trans rfl
      obtain rfl : m = 1 + 1 := HM.out.1
      clear HM hN
      obtain ⟨L, g, cap, es, e, x, cells, hce, hLw, hD⟩ : ∃ L g cap es e x cells, c.ents = es ++ [e] ∧ L ≤ w.heap.size ∧ DrE w0.heap.size rb L g cap w c (lwOf last) es e x cells := by
        rcases HS.out.2 with h1 | h1
        · exact absurd h1.nil (HO.out.e3 (may_ge (by decide) HY.out))
        · exact h1
      have HCe : Hid (c.ents = es ++ [e]) := hce
      have HLw : Hid (L ≤ w.heap.size) := hLw
      have HLp : Hid (lastPts c.ents = e.pts) := by show _ = _; rw [hce]; exact lastPts_snocR _ _
      rw [HLp.out] at HK
      have H1 : Hid (∀ V, Below w.heap.size w V → DrE w0.heap.size rb L g cap V c (lwOf last) es e x cells) := fun V hV => DrM.below hD hV
      obtain ⟨pa, pc, hxp⟩ := own_form hD.new.hp
      have HXp : Hid (x.p = .slice pa e.pts.length pc) := hxp
      have HSz : Hid (es.length < 1000000 ∧ SzE 1000000 e) := ⟨by have := HO.out.len; rw [hce, List.length_append] at this; simp at this; omega, HO.out.sz e (by rw [hce]; simp)⟩
      obtain ⟨n, hn⟩ : ∃ n, n = es.length := ⟨_, rfl⟩
      have HNn : Hid (n = es.length) := hn
      have n1m : n < 1000000 := by have := HSz.out.1; omega
      have nn1 : (n : Int) < (n : Int) + 1 := by omega
      have nn0 : ¬ (n : Int) < 0 := by omega
      have HR4 : Hid (∀ V, Below w.heap.size w V → V.cell? ⟨rb, 4, none⟩ = some (.slice (some ⟨g, 0, none⟩) (n + 1) cap)) := fun V hV => by have := (H1.out V hV).row; rw [hn]; simp [World.cell?, this, drRow]
      have HE2 : Hid (∀ V, Below w.heap.size w V → V.cell? ⟨g, n * 10 + 2, none⟩ = some (.slice pa e.pts.length pc)) := fun V hV => by rw [hn, ← hxp]; exact ((H1.out V hV).ewcell (j := 2) rfl).1
      have HIx : Hid (∀ s V, Below w.heap.size w V → Calls Tryz.prog 37 #[.slice pa e.pts.length pc, .string s] V fun e' w' => e' = .returned (.int .i64 (idxOf e.pts s)) ∧ w' = V) := fun s V hV => index_at e.pts s pa pc V (by rw [← hxp]; exact SlOwn.slat (enc := encS) (H1.out V hV).new.hp (fun _ => rfl)) HSz.out.2.p
      have e4 := HR4.out w2 HB2.out
      clear hce hLw hD hxp hn
      go_wp2_with fail
      go_loopw [9, 10, 11, 12] (fun nv ov iv _ wr => ∃ (j : Nat) (nn : Bool) (vs : List Int) (na : Option Addr) (nc : Nat), j ≤ 1 ∧ iv = .int .i64 j ∧ ov = .bool nn ∧ nv = .slice na j nc ∧ wr.ownsRow w2.heap.size 3 1 (.slice na j nc) j (vs.flatMap encI) ∧ Below w2.heap.size w2 wr ∧ FillD (lookF e.pts) [2] [bl s0] j nn vs) (fun _ _ iv _ _ => 1 - (intOf iv).toNat)
      case atStart => exact ⟨0, false, [], none, 0, Nat.zero_le _, rfl, rfl, rfl, World.ownsRow_nil _ _ _ _, Below.refl _ _, FillD.start _ _ _⟩
      case round =>
        obtain ⟨j, nn, vs, na, nc, hj, rfl, rfl, rfl, hown, hb, hf⟩ := hrel
        have HB : Hid (Below w2.heap.size w2 wr) := hb
        have HOwn : Hid (wr.ownsRow w2.heap.size 3 1 (.slice na j nc) j (vs.flatMap encI)) := hown
        have HF : Hid (FillD (lookF e.pts) [2] [bl s0] j nn vs) := hf
        clear hb hown hf e4
        by_cases hlt : j < 1
        · clear hj
          obtain rfl : j = 0 := by omega
          clear hlt
          have e5 := HR4.out wr (HB2.out.trans (HB.out.mono HB2.out.size))
          have e6 := HE2.out wr (HB2.out.trans (HB.out.mono HB2.out.size))
          have d0 := HW.out wr (HB12.out.trans (HB.out.mono HB12.out.size)) 1 s0 rfl
          have HI3 : Hid (∀ q, Calls Tryz.prog 37 #[.slice pa e.pts.length pc, .string s0] (wr.drewN q) fun e' w' => e' = .returned (.int .i64 (idxOf e.pts s0)) ∧ w' = wr.drewN q) := fun q => HIx.out s0 _ (HB2.out.trans ((below_drewN HB.out q).mono HB2.out.size))
          have HWp : Hid (¬ s0 = ⟨#[]⟩ → _) := @word_p e.pts s0
          generalize idxOf e.pts s0 = z at *
          go_upto_region 38 with fail
          go_cut [12] (fun xv wv => xv = .int .i64 z ∧ Below w2.heap.size w2 wv ∧ wv.ownsRow w2.heap.size 3 1 (.slice na 0 nc) 0 (vs.flatMap encI))
          case first =>
            go_wp2_with fail
            go_quiet (first | (go_at_call 37; exact Calls.quiet_of_same (HI3.out _)))
            go_wp2_with fail
            go_meet
            case rel => exact ⟨rfl, below_drewN HB.out _, HOwn.out⟩
          obtain ⟨rfl, hbv, hov⟩ := hcut
          clear HB HOwn HI3 e5 e6 d0
          rename World => wr
          have HB : Hid (Below w2.heap.size w2 wr) := hbv
          have HOwn : Hid (wr.ownsRow w2.heap.size 3 1 (.slice na 0 nc) 0 (vs.flatMap encI)) := hov
          clear hbv hov
          have d0 := HW.out wr (HB12.out.trans (HB.out.mono HB12.out.size)) 1 s0 rfl
          by_cases es0 : s0 = ⟨#[]⟩
          · have HE : Hid (lineK last c 8 [bl s0] = 1) := by show _ = _; rw [HK.out]; exact HF.out.bad rfl rfl (by rw [es0]; exact word_e)
            obtain ⟨n1, n2⟩ := litY es0
            clear es0
            by_cases z0 : z < 0
            · go_wp2
              go_ret
              exact ⟨by rw [HE.out]; rfl, HBw.out _ HB.out, fun h0 => by rw [HE.out] at h0; cases h0⟩
            · go_wp2
              go_ret
              exact ⟨by rw [HE.out]; rfl, HBw.out _ HB.out, fun h0 => by rw [HE.out] at h0; cases h0⟩
          · have HWq : Hid _ := HWp.out es0
            obtain ⟨n1, n2⟩ := litN es0
            clear es0
            by_cases z0 : z < 0
            · have HZ : Hid ((wordV (lookF e.pts) 2 (bl s0)).1 = 5) := by show _ = _; rw [HWq.out.1, if_pos z0]
              go_wp2_with (at_builtin; refine wpList_append_own _ rfl _ _ 50 rfl w2.heap.size 3 i0 (.int .i64 0) 1 8 Tryz.underlying50 hi hz0 hz1 hz2 rfl (by decide) (.slice na 0 nc) 0 (vs.flatMap encI) rfl (HOwn.out.alloc _) ⟨wr.heap.size, 0, .none⟩ 1 1 [.int .i64 z] rfl rfl (cell_v _ _ _) (by intro u hu; simp at hu; subst hu; rfl) (by unfold maxLen; omega) (by omega) (by have := HB.out.size; simp; omega) ?_; intro v1 w4 hown1 hgrow1 hlt1)
              obtain ⟨na', nc', hv1⟩ := own_form hown1
              subst hv1
              go_roundw
              case rel => exact ⟨0 + 1, true, vs ++ [z], na', nc', by omega, rfl, rfl, rfl, by simpa [List.flatMap_append, encI] using hown1, (HB.out.alloc HB.out.size _).grown hgrow1 (by have := HB.out.size; simp; omega) (fun q hq => (HOwn.out.lt q hq).1), HF.out.next rfl rfl true z (by rw [HZ.out]; decide) (by rw [HZ.out]; simp) (fun h0 => by cases h0)⟩
              case measure => simp [intOf]
            · have HZ : Hid ((wordV (lookF e.pts) 2 (bl s0)).1 = 0 ∧ (wordV (lookF e.pts) 2 (bl s0)).2 = z) := ⟨by rw [HWq.out.1, if_neg z0], HWq.out.2 (by omega)⟩
              go_wp2_with (at_builtin; refine wpList_append_own _ rfl _ _ 50 rfl w2.heap.size 3 i0 (.int .i64 0) 1 8 Tryz.underlying50 hi hz0 hz1 hz2 rfl (by decide) (.slice na 0 nc) 0 (vs.flatMap encI) rfl (HOwn.out.alloc _) ⟨wr.heap.size, 0, .none⟩ 1 1 [.int .i64 z] rfl rfl (cell_v _ _ _) (by intro u hu; simp at hu; subst hu; rfl) (by unfold maxLen; omega) (by omega) (by have := HB.out.size; simp; omega) ?_; intro v1 w4 hown1 hgrow1 hlt1)
              obtain ⟨na', nc', hv1⟩ := own_form hown1
              subst hv1
              go_roundw
              case rel => exact ⟨0 + 1, nn, vs ++ [z], na', nc', by omega, rfl, rfl, rfl, by simpa [List.flatMap_append, encI] using hown1, (HB.out.alloc HB.out.size _).grown hgrow1 (by have := HB.out.size; simp; omega) (fun q hq => (HOwn.out.lt q hq).1), HF.out.next rfl rfl nn z (by rw [HZ.out.1]; decide) (by rw [HZ.out.1]; simp) (fun _ => HZ.out.2.symm)⟩
              case measure => simp [intOf]
        · obtain rfl : j = 1 := by omega
          clear hlt hj
          obtain ⟨hcode, hvals⟩ := (show FillD (lookF e.pts) [2] [bl s0] ([2] : List Nat).length nn vs from HF.out).done rfl
          cases nn with
          | true =>
            have HE : Hid (lineK last c 8 [bl s0] = 5) := by show _ = _; rw [HK.out]; exact hcode
            clear hcode hvals
            go_wp2
            go_ret
            exact ⟨by rw [HE.out]; rfl, HBw.out _ HB.out, fun h0 => by rw [HE.out] at h0; cases h0⟩
          | false =>
            have HC0 : Hid (lineK last c 8 [bl s0] = 0) := by show _ = _; rw [HK.out]; exact hcode
            have HVs : Hid ((fillV (lookF e.pts) false [2] [bl s0]).2 = vs) := hvals rfl
            have hlen := HF.out.len
            clear hcode hvals
            obtain ⟨v0, rfl⟩ : ∃ v0, vs = [v0] := by
              match vs, hlen with
              | [v0], _ => exact ⟨v0, rfl⟩
            obtain ⟨ng, nc', hna⟩ := some_form HOwn.out
            cases hna
            have HNg : Hid (w2.heap.size ≤ ng) := by show _ ≤ _; exact (HOwn.out.lt ng rfl).1
            have x0 := own_int HOwn.out 0 v0 rfl
            have HBx : Hid (Below w.heap.size w wr) := HB2.out.trans (HB.out.mono HB2.out.size)
            have d0 := HW.out wr (HB12.out.trans (HB.out.mono HB12.out.size)) 0 _ rfl
            have d1 := HW.out wr (HB12.out.trans (HB.out.mono HB12.out.size)) 1 _ rfl
            clear hlen HF
            have hbase := H1.out wr HBx.out
            have hrw : rb < w.heap.size := lt_of_row (H1.out w (Below.refl _ _)).row
            have hgw : g < w.heap.size := by obtain ⟨cur, h1, -⟩ := (H1.out w (Below.refl _ _)).grow; exact lt_of_row h1
            have nb1 : ¬ rb = wg := by have := HWg.out; omega
            have nb2 : ¬ wg = rb := fun e2 => nb1 e2.symm
            have nb3 : ¬ rb = ng := by have := HB2.out.size; have := HNg.out; omega
            have nb4 : ¬ ng = rb := fun e2 => nb3 e2.symm
            have hrow := hbase.row
            have r5 : wr.cell? ⟨rb, 5, none⟩ = some (.string (lwOf last)) := by simp [World.cell?, hrow, drRow]
            have f5 : wr.frozen? ⟨rb, 5, none⟩ = false := by simp [World.frozen?, hrow]
            clear hrow
            go_upto_region 62 with fail
            obtain ⟨Wz, hWz⟩ : ∃ V, V = wr.setCell ⟨rb, 5, none⟩ (.string ⟨#[102, 105, 114, 115, 116]⟩) := ⟨_, rfl⟩
            rw [← hWz]
            have HDz : Hid (DrM w0.heap.size rb L g cap Wz c ⟨#[102, 105, 114, 115, 116]⟩ es (x.row e).toList e x cells) := by rw [hWz]; exact DrM.setR hbase 5 (.string ⟨#[102, 105, 114, 115, 116]⟩) rfl
            have HBz : Hid (BlX rb w0 Wz) := by rw [hWz]; exact (HBw.out _ HB.out).setCell (p := ⟨rb, 5, none⟩) hbase.lo _
            have HZz : Hid (w.heap.size ≤ Wz.heap.size) := by show _ ≤ _; rw [hWz]; have := HBx.out.size; simpa [World.setCell] using this
            have y0 : Wz.cell? ⟨wg, 0, none⟩ = some (.string ⟨#[102, 105, 114, 115, 116]⟩) := by rw [hWz, cell_setOther (Or.inl nb1) rfl rfl]; exact d0
            have y1 : Wz.cell? ⟨wg, 1, none⟩ = some (.string s0) := by rw [hWz, cell_setOther (Or.inl nb1) rfl rfl]; exact d1
            have u0 : Wz.cell? ⟨ng, 0, none⟩ = some (.int .i64 v0) := by rw [hWz, cell_setOther (Or.inl nb3) rfl rfl]; exact x0
            clear hWz r5 f5 hbase d0 d1 x0
            obtain ⟨ga, gc, hxg⟩ := own_form HDz.out.new.hg
            obtain ⟨ea, ec, hxe⟩ := own_form HDz.out.new.he
            obtain ⟨fa, fc, hxf⟩ := own_form HDz.out.new.hf
            obtain ⟨la, lc, hxl⟩ := own_form HDz.out.new.hl
            have HXr : Hid (x.row e = #[.string e.name, .int .i64 e.tol, .slice pa e.pts.length pc, .int .i64 e.cnt, .int .i64 e.mn, .int .i64 e.mx, .slice ga e.gaps.length gc, .slice ea e.edges.length ec, .slice fa e.first.length fc, .slice la e.last.length lc] ∧ x = ⟨.slice pa e.pts.length pc, .slice ga e.gaps.length gc, .slice ea e.edges.length ec, .slice fa e.first.length fc, .slice la e.last.length lc⟩) := by
              have hxp := HXp.out
              obtain ⟨xp, xg, xe, xf, xl⟩ := x
              simp only at hxp hxg hxe hxf hxl
              subst hxp hxg hxe hxf hxl
              exact ⟨rfl, rfl⟩
            clear hxg hxe hxf hxl
            have e4 : Wz.cell? ⟨rb, 4, none⟩ = some (.slice (some ⟨g, 0, none⟩) (n + 1) cap) := by have := HDz.out.row; rw [HNn.out]; simp [World.cell?, this, drRow]
            have q0 : Wz.cell? ⟨g, n * 10, none⟩ = some (.string e.name) := by have := (HDz.out.ewcell (j := 0) (u := .string e.name) (by rw [HXr.out.1]; rfl)).1; rw [HNn.out]; simpa using this
            have q1 : Wz.cell? ⟨g, n * 10 + 1, none⟩ = some (.int .i64 e.tol) := by have := (HDz.out.ewcell (j := 1) (u := .int .i64 e.tol) (by rw [HXr.out.1]; rfl)).1; rw [HNn.out]; simpa using this
            have q2 : Wz.cell? ⟨g, n * 10 + 2, none⟩ = some (.slice pa e.pts.length pc) := by have := (HDz.out.ewcell (j := 2) (u := .slice pa e.pts.length pc) (by rw [HXr.out.1]; rfl)).1; rw [HNn.out]; simpa using this
            have q3 : Wz.cell? ⟨g, n * 10 + 3, none⟩ = some (.int .i64 e.cnt) := by have := (HDz.out.ewcell (j := 3) (u := .int .i64 e.cnt) (by rw [HXr.out.1]; rfl)).1; rw [HNn.out]; simpa using this
            have q4 : Wz.cell? ⟨g, n * 10 + 4, none⟩ = some (.int .i64 e.mn) := by have := (HDz.out.ewcell (j := 4) (u := .int .i64 e.mn) (by rw [HXr.out.1]; rfl)).1; rw [HNn.out]; simpa using this
            have q5 : Wz.cell? ⟨g, n * 10 + 5, none⟩ = some (.int .i64 e.mx) := by have := (HDz.out.ewcell (j := 5) (u := .int .i64 e.mx) (by rw [HXr.out.1]; rfl)).1; rw [HNn.out]; simpa using this
            have q6 : Wz.cell? ⟨g, n * 10 + 6, none⟩ = some (.slice ga e.gaps.length gc) := by have := (HDz.out.ewcell (j := 6) (u := .slice ga e.gaps.length gc) (by rw [HXr.out.1]; rfl)).1; rw [HNn.out]; simpa using this
            have q7 : Wz.cell? ⟨g, n * 10 + 7, none⟩ = some (.slice ea e.edges.length ec) := by have := (HDz.out.ewcell (j := 7) (u := .slice ea e.edges.length ec) (by rw [HXr.out.1]; rfl)).1; rw [HNn.out]; simpa using this
            have q8 : Wz.cell? ⟨g, n * 10 + 8, none⟩ = some (.slice fa e.first.length fc) := by have := (HDz.out.ewcell (j := 8) (u := .slice fa e.first.length fc) (by rw [HXr.out.1]; rfl)).1; rw [HNn.out]; simpa using this
            have q9 : Wz.cell? ⟨g, n * 10 + 9, none⟩ = some (.slice la e.last.length lc) := by have := (HDz.out.ewcell (j := 9) (u := .slice la e.last.length lc) (by rw [HXr.out.1]; rfl)).1; rw [HNn.out]; simpa using this
            go_upto_region 63 with fail
            obtain ⟨V, hV⟩ : ∃ V, V = Wz.alloc (.cells #[.string e.name, .int .i64 e.tol, .slice pa e.pts.length pc, .int .i64 e.cnt, .int .i64 e.mn, .int .i64 e.mx, .slice ga e.gaps.length gc, .slice ea e.edges.length ec, .slice fa e.first.length fc, .slice la e.last.length lc] 52) := ⟨_, rfl⟩
            rw [← hV]
            obtain ⟨eb, heb⟩ : ∃ b, b = Wz.heap.size := ⟨_, rfl⟩
            rw [← heb]
            have HVb : Hid (Below Wz.heap.size Wz V) := by show Below _ _ _; rw [hV]; exact Below.one _ _
            have HDv : Hid (DrM w0.heap.size rb L g cap V c ⟨#[102, 105, 114, 115, 116]⟩ es (x.row e).toList e x cells) := HDz.out.below HVb.out
            have HBv : Hid (BlX rb w0 V) := HBz.out.trans (HVb.out.mono HBz.out.size)
            have HEb : Hid (V.heap[eb]? = some (.cells #[.string e.name, .int .i64 e.tol, .slice pa e.pts.length pc, .int .i64 e.cnt, .int .i64 e.mn, .int .i64 e.mx, .slice ga e.gaps.length gc, .slice ea e.edges.length ec, .slice fa e.first.length fc, .slice la e.last.length lc] 52 (0, 0))) := by show _ = _; rw [hV, heb]; exact heap_alloc_new Wz _
            have HEg : Hid (eb ≠ g ∧ eb ≠ rb ∧ w.heap.size ≤ eb) := by have := HZz.out; exact ⟨by omega, by omega, by omega⟩
            have HLv : Hid (L ≤ V.heap.size) := Nat.le_trans HLw.out (Nat.le_trans HZz.out HVb.out.size)
            have y0 := cell_below HVb.out y0
            have y1 := cell_below HVb.out y1
            have u0 := cell_below HVb.out u0
            clear hV heb e4 q0 q1 q2 q3 q4 q5 q6 q7 q8 q9
            obtain ⟨j0, hj, hj0, hj1, hj2⟩ := info_parts Tryz.infoOwnf
            have q2 : V.cell? ⟨eb, 8, none⟩ = some (.slice fa e.first.length fc) := by simp [World.cell?, HEb.out]
            have q2' : ∀ ob, (V.alloc ob).cell? ⟨eb, 8, none⟩ = some (.slice fa e.first.length fc) := fun ob => cell_below (Below.one _ _) q2
            have hown : V.drew.ownsRow L 3 1 (.slice fa e.first.length fc) e.first.length (e.first.flatMap encI) := by have := HDv.out.new.hf; rw [HXr.out.2] at this; exact this
            have hLz := HLv.out
            have hcl : e.first.length ≤ 1000000 := HSz.out.2.f
            have KB : Hid (∀ (ob : Obj) (w8 : World), (V.drew.alloc ob).grownBy w8 (Value.slice fa e.first.length fc).ownBlock → w8.heap[eb]? = some (.cells #[.string e.name, .int .i64 e.tol, .slice pa e.pts.length pc, .int .i64 e.cnt, .int .i64 e.mn, .int .i64 e.mx, .slice ga e.gaps.length gc, .slice ea e.edges.length ec, .slice fa e.first.length fc, .slice la e.last.length lc] 52 (0, 0)) ∧ BlX rb w0 w8) := fun ob w8 hg => by
              have bb : Below V.heap.size V (V.drew.alloc ob) := (Below.refl V.heap.size V).drew.alloc (by simp) ob
              have hD3 := HDv.out.below bb
              have b3 : BlX rb w0 (V.drew.alloc ob) := HBv.out.trans (bb.mono HBv.out.size)
              have k3 := row_below bb HEb.out
              have ho3 : (V.drew.alloc ob).ownsRow L 3 1 (.slice fa e.first.length fc) e.first.length (e.first.flatMap encI) := by have := hD3.new.hf; rw [HXr.out.2] at this; exact this
              exact ⟨(hg.block eb (lt_of_row k3) (fun e2 => own_ne ho3 k3 (by decide) e2.symm)).trans k3, b3.grown hg b3.size (fun b hb => Nat.le_trans hD3.loL (ho3.lt b hb).1)⟩
            go_wp2_with fail
            go_region_law (refine step_append_lies _ rfl (.tmp 249) (.tmp 253) 50 rfl L 3 j0 (.int .i64 0) 1 8 Tryz.underlying50 hj hj0 hj1 hj2 rfl (by decide) (.slice fa e.first.length fc) e.first.length (e.first.flatMap encI) (by simp [Act.eval]) (hown.alloc _) ⟨V.heap.size, 0, .none⟩ 1 1 [.int .i64 v0] (by simp [Act.eval]) rfl (cell_v V.drew (.int .i64 v0) 3) (encI_one v0) (by decide) (by unfold maxLen; omega) (by omega) (by simp; omega) (V.heap.size + 1) (by simp) ?_; intro g' cap' w8 hown8 hgrow8 hor hlt8; have r8 := KB.out _ _ hgrow8; have d8 : w8.cell? ⟨eb, 8, none⟩ = some (.slice fa e.first.length fc) := (by simp [World.cell?, r8.1]); have d9 : w8.frozen? ⟨eb, 8, none⟩ = false := (by simp [World.frozen?, r8.1]))
            all_goals
              have H8 : Hid (_ ∧ _) := r8
              have HD8 : Hid (DrM w0.heap.size rb L g cap w8 c ⟨#[102, 105, 114, 115, 116]⟩ es (x.row e).toList { e with first := e.first ++ [v0] } ({ x with f := .slice (some ⟨g', 0, none⟩) (e.first.length + 1) cap' }) cells) := (HDv.out.below (w' := V.drew.alloc _) ((Below.refl V.heap.size V).drew.alloc (by simp) _)).appFirst v0 (by rw [HXr.out.2]; exact hgrow8) hown8 (int_apart (w := V) HDv.out.new (by rw [HXr.out.2]; exact hor) HDv.out.fl (by simp))
              have HL8 : Hid (L ≤ w8.heap.size) := by have h1 := hgrow8.size; have h2 := HLv.out; show _ ≤ _; simp at h1; omega
              clear hgrow8 hown8 r8 hor q2 q2' hown
              go_upto_region 78 with fail
              obtain ⟨Y, hY⟩ : ∃ Y, Y = w8.setCell ⟨eb, 8, none⟩ (.slice (some ⟨g', 0, none⟩) (e.first.length + 1) cap') := ⟨_, rfl⟩
              rw [← hY]
              have HDy : Hid (DrM w0.heap.size rb L g cap Y c ⟨#[102, 105, 114, 115, 116]⟩ es (x.row e).toList { e with first := e.first ++ [v0] } ({ x with f := .slice (some ⟨g', 0, none⟩) (e.first.length + 1) cap' }) cells) := by rw [hY]; exact HD8.out.setB eb 8 _ H8.out.1 HEg.out.1
              have HYr : Hid (Y.heap[eb]? = some (.cells #[.string e.name, .int .i64 e.tol, .slice pa e.pts.length pc, .int .i64 e.cnt, .int .i64 e.mn, .int .i64 e.mx, .slice ga e.gaps.length gc, .slice ea e.edges.length ec, .slice (some ⟨g', 0, none⟩) (e.first.length + 1) cap', .slice la e.last.length lc] 52 (0, 0))) := by show _ = _; rw [hY]; exact row_set H8.out.1 _
              have HBy : Hid (BlX rb w0 Y) := by show BlX _ _ _; rw [hY]; exact H8.out.2.setCell (p := ⟨eb, 8, none⟩) (Or.inr (Nat.le_trans HS.out.1.size HEg.out.2.2)) _
              have HLy : Hid (L ≤ Y.heap.size) := by show _ ≤ _; rw [hY]; simpa [World.setCell] using HL8.out
              have HXy : Hid (({ x with f := .slice (some ⟨g', 0, none⟩) (e.first.length + 1) cap' } : PV5).row { e with first := e.first ++ [v0] } = #[.string e.name, .int .i64 e.tol, .slice pa e.pts.length pc, .int .i64 e.cnt, .int .i64 e.mn, .int .i64 e.mx, .slice ga e.gaps.length gc, .slice ea e.edges.length ec, .slice (some ⟨g', 0, none⟩) (e.first.length + 1) cap', .slice la e.last.length lc]) := by show _ = _; rw [HXr.out.2]; rfl
              clear hY d8 d9 hLz hcl y0 y1 u0
              have e4 : Y.cell? ⟨rb, 4, none⟩ = some (.slice (some ⟨g, 0, none⟩) (n + 1) cap) := by have := HDy.out.row; rw [HNn.out]; simp [World.cell?, this, drRow]
              have q0 : Y.cell? ⟨eb, 0, none⟩ = some (.string e.name) := by simp [World.cell?, HYr.out]
              have p0 : Y.cell? ⟨g, n * 10, none⟩ = some (.string e.name) := by have := (HDy.out.ewcell (j := 0) (u := .string e.name) (by rw [HXr.out.1]; rfl)).1; rw [HNn.out]; simpa using this
              have f0 : Y.frozen? ⟨g, n * 10, none⟩ = false := by have := (HDy.out.ewcell (j := 0) (u := .string e.name) (by rw [HXr.out.1]; rfl)).2; rw [HNn.out]; simpa using this
              have q1 : Y.cell? ⟨eb, 1, none⟩ = some (.int .i64 e.tol) := by simp [World.cell?, HYr.out]
              have p1 : Y.cell? ⟨g, n * 10 + 1, none⟩ = some (.int .i64 e.tol) := by have := (HDy.out.ewcell (j := 1) (u := .int .i64 e.tol) (by rw [HXr.out.1]; rfl)).1; rw [HNn.out]; simpa using this
              have f1 : Y.frozen? ⟨g, n * 10 + 1, none⟩ = false := by have := (HDy.out.ewcell (j := 1) (u := .int .i64 e.tol) (by rw [HXr.out.1]; rfl)).2; rw [HNn.out]; simpa using this
              have q2 : Y.cell? ⟨eb, 2, none⟩ = some (.slice pa e.pts.length pc) := by simp [World.cell?, HYr.out]
              have p2 : Y.cell? ⟨g, n * 10 + 2, none⟩ = some (.slice pa e.pts.length pc) := by have := (HDy.out.ewcell (j := 2) (u := .slice pa e.pts.length pc) (by rw [HXr.out.1]; rfl)).1; rw [HNn.out]; simpa using this
              have f2 : Y.frozen? ⟨g, n * 10 + 2, none⟩ = false := by have := (HDy.out.ewcell (j := 2) (u := .slice pa e.pts.length pc) (by rw [HXr.out.1]; rfl)).2; rw [HNn.out]; simpa using this
              have q3 : Y.cell? ⟨eb, 3, none⟩ = some (.int .i64 e.cnt) := by simp [World.cell?, HYr.out]
              have p3 : Y.cell? ⟨g, n * 10 + 3, none⟩ = some (.int .i64 e.cnt) := by have := (HDy.out.ewcell (j := 3) (u := .int .i64 e.cnt) (by rw [HXr.out.1]; rfl)).1; rw [HNn.out]; simpa using this
              have f3 : Y.frozen? ⟨g, n * 10 + 3, none⟩ = false := by have := (HDy.out.ewcell (j := 3) (u := .int .i64 e.cnt) (by rw [HXr.out.1]; rfl)).2; rw [HNn.out]; simpa using this
              have q4 : Y.cell? ⟨eb, 4, none⟩ = some (.int .i64 e.mn) := by simp [World.cell?, HYr.out]
              have p4 : Y.cell? ⟨g, n * 10 + 4, none⟩ = some (.int .i64 e.mn) := by have := (HDy.out.ewcell (j := 4) (u := .int .i64 e.mn) (by rw [HXr.out.1]; rfl)).1; rw [HNn.out]; simpa using this
              have f4 : Y.frozen? ⟨g, n * 10 + 4, none⟩ = false := by have := (HDy.out.ewcell (j := 4) (u := .int .i64 e.mn) (by rw [HXr.out.1]; rfl)).2; rw [HNn.out]; simpa using this
              have q5 : Y.cell? ⟨eb, 5, none⟩ = some (.int .i64 e.mx) := by simp [World.cell?, HYr.out]
              have p5 : Y.cell? ⟨g, n * 10 + 5, none⟩ = some (.int .i64 e.mx) := by have := (HDy.out.ewcell (j := 5) (u := .int .i64 e.mx) (by rw [HXr.out.1]; rfl)).1; rw [HNn.out]; simpa using this
              have f5 : Y.frozen? ⟨g, n * 10 + 5, none⟩ = false := by have := (HDy.out.ewcell (j := 5) (u := .int .i64 e.mx) (by rw [HXr.out.1]; rfl)).2; rw [HNn.out]; simpa using this
              have q6 : Y.cell? ⟨eb, 6, none⟩ = some (.slice ga e.gaps.length gc) := by simp [World.cell?, HYr.out]
              have p6 : Y.cell? ⟨g, n * 10 + 6, none⟩ = some (.slice ga e.gaps.length gc) := by have := (HDy.out.ewcell (j := 6) (u := .slice ga e.gaps.length gc) (by rw [HXr.out.1]; rfl)).1; rw [HNn.out]; simpa using this
              have f6 : Y.frozen? ⟨g, n * 10 + 6, none⟩ = false := by have := (HDy.out.ewcell (j := 6) (u := .slice ga e.gaps.length gc) (by rw [HXr.out.1]; rfl)).2; rw [HNn.out]; simpa using this
              have q7 : Y.cell? ⟨eb, 7, none⟩ = some (.slice ea e.edges.length ec) := by simp [World.cell?, HYr.out]
              have p7 : Y.cell? ⟨g, n * 10 + 7, none⟩ = some (.slice ea e.edges.length ec) := by have := (HDy.out.ewcell (j := 7) (u := .slice ea e.edges.length ec) (by rw [HXr.out.1]; rfl)).1; rw [HNn.out]; simpa using this
              have f7 : Y.frozen? ⟨g, n * 10 + 7, none⟩ = false := by have := (HDy.out.ewcell (j := 7) (u := .slice ea e.edges.length ec) (by rw [HXr.out.1]; rfl)).2; rw [HNn.out]; simpa using this
              have q8 : Y.cell? ⟨eb, 8, none⟩ = some (.slice (some ⟨g', 0, none⟩) (e.first.length + 1) cap') := by simp [World.cell?, HYr.out]
              have p8 : Y.cell? ⟨g, n * 10 + 8, none⟩ = some (.slice fa e.first.length fc) := by have := (HDy.out.ewcell (j := 8) (u := .slice fa e.first.length fc) (by rw [HXr.out.1]; rfl)).1; rw [HNn.out]; simpa using this
              have f8 : Y.frozen? ⟨g, n * 10 + 8, none⟩ = false := by have := (HDy.out.ewcell (j := 8) (u := .slice fa e.first.length fc) (by rw [HXr.out.1]; rfl)).2; rw [HNn.out]; simpa using this
              have q9 : Y.cell? ⟨eb, 9, none⟩ = some (.slice la e.last.length lc) := by simp [World.cell?, HYr.out]
              have p9 : Y.cell? ⟨g, n * 10 + 9, none⟩ = some (.slice la e.last.length lc) := by have := (HDy.out.ewcell (j := 9) (u := .slice la e.last.length lc) (by rw [HXr.out.1]; rfl)).1; rw [HNn.out]; simpa using this
              have f9 : Y.frozen? ⟨g, n * 10 + 9, none⟩ = false := by have := (HDy.out.ewcell (j := 9) (u := .slice la e.last.length lc) (by rw [HXr.out.1]; rfl)).2; rw [HNn.out]; simpa using this
              go_wp2_with fail
              go_region
              all_goals
                obtain ⟨Z, hZ⟩ : ∃ Z, Z = ((((((((((Y.setCell ⟨g, n * 10, none⟩ (.string e.name)).setCell ⟨g, n * 10 + 1, none⟩ (.int .i64 e.tol)).setCell ⟨g, n * 10 + 2, none⟩ (.slice pa e.pts.length pc)).setCell ⟨g, n * 10 + 3, none⟩ (.int .i64 e.cnt)).setCell ⟨g, n * 10 + 4, none⟩ (.int .i64 e.mn)).setCell ⟨g, n * 10 + 5, none⟩ (.int .i64 e.mx)).setCell ⟨g, n * 10 + 6, none⟩ (.slice ga e.gaps.length gc)).setCell ⟨g, n * 10 + 7, none⟩ (.slice ea e.edges.length ec)).setCell ⟨g, n * 10 + 8, none⟩ (.slice (some ⟨g', 0, none⟩) (e.first.length + 1) cap')).setCell ⟨g, n * 10 + 9, none⟩ (.slice la e.last.length lc)) := ⟨_, rfl⟩
                rw [← hZ]
                have HFin : Hid (DrE w0.heap.size rb L g cap Z c ⟨#[102, 105, 114, 115, 116]⟩ es { e with first := e.first ++ [v0] } ({ x with f := .slice (some ⟨g', 0, none⟩) (e.first.length + 1) cap' }) cells) := by
                  rw [hZ]
                  exact HDy.out.put10 (by rw [HNn.out]) (by rw [HXy.out])
                have HBf : Hid (BlX rb w0 Z) := by
                  obtain ⟨cur, -, hle0⟩ := HDy.out.grow
                  have hle : g = rb ∨ w0.heap.size ≤ g := Or.inr hle0
                  show BlX _ _ _
                  rw [hZ]
                  exact ((((((((((HBy.out.setCell (p := ⟨g, n * 10, none⟩) hle _).setCell (p := ⟨g, n * 10 + 1, none⟩) hle _).setCell (p := ⟨g, n * 10 + 2, none⟩) hle _).setCell (p := ⟨g, n * 10 + 3, none⟩) hle _).setCell (p := ⟨g, n * 10 + 4, none⟩) hle _).setCell (p := ⟨g, n * 10 + 5, none⟩) hle _).setCell (p := ⟨g, n * 10 + 6, none⟩) hle _).setCell (p := ⟨g, n * 10 + 7, none⟩) hle _).setCell (p := ⟨g, n * 10 + 8, none⟩) hle _).setCell (p := ⟨g, n * 10 + 9, none⟩) hle _)
                have HLf : Hid (L ≤ Z.heap.size) := by show _ ≤ _; rw [hZ]; simpa [World.setCell] using HLy.out
                clear hZ e4 q0 p0 f0 q1 p1 f1 q2 p2 f2 q3 p3 f3 q4 p4 f4 q5 p5 f5 q6 p6 f6 q7 p7 f7 q8 p8 f8 q9 p9 f9
                go_wp2
                go_ret
                refine ⟨by rw [HC0.out]; rfl, HBf.out.drew, fun _ => Or.inr ⟨L, g, cap, es, { e with first := e.first ++ [v0] }, ({ x with f := .slice (some ⟨g', 0, none⟩) (e.first.length + 1) cap' }), cells, ?_, HLf.out, ?_⟩⟩
                · rw [HLp.out, show (fillV (lookF e.pts) false (form 8) [bl s0]).2 = _ from HVs.out]
                  exact (by simp only [updC]; rw [HCe.out, updLast_snoc]; rfl)
                · exact DrE.cfg (DrM.below HFin.out (Below.refl _ _).drew) (fun _ _ => rfl)
    · have HE : Hid (lineK last c 8 ws = 1) := by show _ = _; rw [HK.out]; exact fill_len _ _ _ (by rw [← HM.out.2, List.length_map]; exact hN)
      have mN : ¬ (m : Int) = 1 + 1 := by have := HM.out.1; omega
      clear hN
      go_wp2
      go_ret
      exact ⟨by rw [HE.out]; rfl, HBw.out _ (Below.refl _ _), fun h0 => by rw [HE.out] at h0; cases h0⟩
end Go.Proofs.YtbholbenjalliaaGreatDoor
