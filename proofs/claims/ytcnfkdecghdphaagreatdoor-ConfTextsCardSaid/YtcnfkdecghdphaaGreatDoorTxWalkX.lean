/-
  nightwatchlaw1.ConfTexts told by a contract: it answers true; nothing that was there turns. Conditions: the config lies in memory; the sentinels, the keywords and the table of powers of ten lie in memory; so does strings.Split's variable.
-/
import Derived.Test.YtcnfkdecghdphaaGreatDoorDcTextX
import Derived.Test.YtcnfkdecghdphaaGreatDoorDcFaultX
import Derived.Test.YtcnfkdecghdphaaGreatDoorDc2X
import Derived.Test.YtcnfkdecghdphaaGreatDoorCfHeavyX
import Derived.Test.YtcnfkdecghdphaaGreatDoorCfOwnCX
import Derived.Test.YtcnfkdecghdphaaGreatDoorRd2X
import Derived.Test.YtcnfkdecghdphaaGreatDoorCfTextAllX
namespace Go.Proofs.YtcnfkdecghdphaaGreatDoor
open Go.RowKit Go.Extern.Stop Go.Stop Go.Extern Go.Maps

theorem head_len {c : CfgD} (h0 : (cfgErr c).1 = 0) : (tl (headL c)).length ≤ 1000 := by
  have HOk := okC_of h0
  have r0 : InR c.closed := by have := HOk.closed; unfold InR; omega
  have r1 : InR c.opn := by have := HOk.opn; unfold InR; omega
  have r2 : InR c.cycle := by have := HOk.cycle; unfold InR; omega
  have r3 : InR c.delay := by have := HOk.delay; unfold InR; omega
  have z0 := numB_size r0
  have z1 := numB_size r1
  have z2 := numB_size r2
  have z3 := numB_size r3
  rw [← head_is, bl_len]
  simp only [ByteArray.size_append, ByteArray.size_mk', List.size_toArray, List.length_cons, List.length_nil]
  omega
theorem text_len {c : CfgD} (h0 : (cfgErr c).1 = 0) : (confText c).length ≤ 400001000 := by
  rw [confText_is, List.length_append]
  have h1 := head_len h0
  have h2 := ents_len h0
  have h3 : (tl (c.ents.flatMap entLines)).length ≤ 400000000 := h2
  omega
theorem readR_long {look : Look} {s : Bs} (h : 8000 < s.length) : readR look s = ((2, -1), cfg0) := by
  unfold readR
  rw [if_pos (by first | exact h | simpa using h)]
theorem faulted_same (A : Nat → Addr) (r : Value) (f : Nat × Int) (code place : Int) (V : World) (hc : code = (f.1 : Int)) (hp : place = f.2) (hs : Senv A V) (h : ErrAt A V r f) : Calls Tryz.prog 10 #[r, .agg #[.int .i64 code, .int .i64 place]] V fun e w' => e = .returned (.bool true) ∧ Below V.heap.size V w' := by
  subst hc hp
  exact (faulted_at A r f f.1 f.2 V hs h).mono (by rintro v w' ⟨rfl, hb⟩; exact ⟨by simp, hb⟩)
set_option maxHeartbeats 4000000 in
set_option maxRecDepth 100000 in
theorem texts_in (A : Nat → Addr) (c : CfgD) (sa : Option Addr) (sc : Nat) (w : World) (hs : Senv A w) (hK : KwAt w) (hT : TabAt w) (hM : MxAt w) (hG : (max 12 16 + 1) ≤ w.heap.size) (hE : EntsAt w (.slice sa c.ents.length sc) c.ents) :
    Calls Tryz.prog 3 #[.agg #[.int .i64 c.closed, .int .i64 c.opn, .int .i64 c.cycle, .int .i64 c.delay, .slice sa c.ents.length sc]] w fun v w' => v = .returned (.bool true) ∧ Below w.heap.size w w' := by
  obtain ⟨code, hcode⟩ : ∃ x : Int, x = ((cfgErr c).1 : Int) := ⟨_, rfl⟩
  obtain ⟨place, hplace⟩ : ∃ x : Int, x = (cfgErr c).2 := ⟨_, rfl⟩
  obtain ⟨t, ht⟩ : ∃ t : ByteArray, t = ⟨(confText c).toArray⟩ := ⟨_, rfl⟩
  have kl : 12 < (max 12 16 + 1) := by decide
  have HTo : Hid (∀ V, Below w.heap.size w V → Calls Tryz.prog 5 #[] V fun v w' => v = .returned (.bool true) ∧ Below V.heap.size V w') := fun V hV => told_at A V (hs.six.below hV) (hK.below hV (Nat.lt_of_lt_of_le kl hG)) (hT.below hV hG) (Nat.le_trans hG hV.size)
  have HHv : Hid (∀ V, Below w.heap.size w V → Calls Tryz.prog 6 #[.agg #[.int .i64 c.closed, .int .i64 c.opn, .int .i64 c.cycle, .int .i64 c.delay, .slice sa c.ents.length sc]] V fun v w' => v = .returned (.int .i64 (one01 (heavyC c))) ∧ Below V.heap.size V w') := fun V hV => heavyC_at c sa sc V (hE.below hV)
  have HCf : Hid (SmallC c → ∀ V, Below w.heap.size w V → Calls Tryz.prog 7 #[.agg #[.int .i64 c.closed, .int .i64 c.opn, .int .i64 c.cycle, .int .i64 c.delay, .slice sa c.ents.length sc]] V fun v w' => v = .returned (.agg #[.int .i64 code, .int .i64 place]) ∧ Below V.heap.size V w') := fun hS V hV => by rw [hcode, hplace]; exact cfault_at c sa sc V (hE.below hV) hS
  have HOw : Hid (SmallC c → ∀ V, Below w.heap.size w V → Calls Tryz.prog 9 #[.agg #[.int .i64 c.closed, .int .i64 c.opn, .int .i64 c.cycle, .int .i64 c.delay, .slice sa c.ents.length sc]] V fun v w' => (∃ sa' sc', v = .returned (.agg #[.int .i64 c.closed, .int .i64 c.opn, .int .i64 c.cycle, .int .i64 c.delay, .slice sa' c.ents.length sc']) ∧ EntsOwn V.heap.size w' (.slice sa' c.ents.length sc') c.ents) ∧ Below V.heap.size V w') := fun hS V hV => ownConfig_at c sa sc V (hE.below hV) hS
  have HCk : Hid (SmallC c → ∀ sa sc V, Below w.heap.size w V → EntsAt V (.slice sa c.ents.length sc) c.ents → Calls Tryz.prog 11 #[.agg #[.int .i64 c.closed, .int .i64 c.opn, .int .i64 c.cycle, .int .i64 c.delay, .slice sa c.ents.length sc]] V fun v w' => ∃ r, v = .returned r ∧ ErrAt A w' r (cfgErr c) ∧ Below V.heap.size V w') := fun hS sa sc V hV hE => check_at A c sa sc V (hs.six.below hV) hE hS
  have HTx : Hid (SmallC c → (cfgErr c).1 = 0 → ∀ sa sc V, Below w.heap.size w V → EntsAt V (.slice sa c.ents.length sc) c.ents → Calls Tryz.prog 8 #[.agg #[.int .i64 c.closed, .int .i64 c.opn, .int .i64 c.cycle, .int .i64 c.delay, .slice sa c.ents.length sc]] V fun v w' => v = .returned (.tuple #[.string t, .nilIface]) ∧ Below V.heap.size V w') := fun hS h0 sa sc V hV hE => by rw [ht]; exact text_right A c sa sc V (hs.six.below hV) (hK.below hV (Nat.lt_of_lt_of_le kl hG)) (hT.below hV hG) (Nat.le_trans hG hV.size) hE hS h0
  have HTb : Hid (SmallC c → (cfgErr c).1 ≠ 0 → ∀ sa sc V, Below w.heap.size w V → EntsAt V (.slice sa c.ents.length sc) c.ents → Calls Tryz.prog 8 #[.agg #[.int .i64 c.closed, .int .i64 c.opn, .int .i64 c.cycle, .int .i64 c.delay, .slice sa c.ents.length sc]] V fun v w' => ∃ r, v = .returned (.tuple #[.string ⟨#[]⟩, r]) ∧ ErrAt A w' r (cfgErr c) ∧ Below V.heap.size V w') := fun hS h0 sa sc V hV hE => text_bad A c sa sc V (hs.six.below hV) hE hS h0
  have HFa : Hid (∀ r V, Below w.heap.size w V → ErrAt A V r (cfgErr c) → Calls Tryz.prog 10 #[r, .agg #[.int .i64 code, .int .i64 place]] V fun v w' => v = .returned (.bool true) ∧ Below V.heap.size V w') := fun r V hV h => faulted_same A r (cfgErr c) code place V hcode hplace (hs.below hV) h
  have HCo : Hid (∀ r V, Below w.heap.size w V → ErrAt A V r (2, -1) → Calls Tryz.prog 14 #[r, .int .i64 2] V fun v w' => v = .returned (.bool true) ∧ Below V.heap.size V w') := fun r V hV h => (coded_at A r (2, -1) 2 V (hs.below hV) h).mono (by rintro v w' ⟨rfl, hb⟩; exact ⟨rfl, hb⟩)
  have HCt : Hid (SmallC c → (cfgErr c).1 = 0 → ∀ V, Below w.heap.size w V → Calls Tryz.prog 12 #[.agg #[.int .i64 c.closed, .int .i64 c.opn, .int .i64 c.cycle, .int .i64 c.delay, .slice sa c.ents.length sc]] V fun v w' => v = .returned (.string t) ∧ Below V.heap.size V w') := fun hS h0 V hV => by rw [ht]; exact ctext_at c sa sc V (hE.below hV) hS h0
  have HRd : Hid (t.size ≤ 400001000 → ∀ V, Below w.heap.size w V → Calls Tryz.prog 13 #[.string t] V fun v w' => ∃ c sv ev, v = .returned (.tuple #[.agg #[.int .i64 c.closed, .int .i64 c.opn, .int .i64 c.cycle, .int .i64 c.delay, sv], ev]) ∧ Below V.heap.size V w' ∧ c = (readR lookL (bl t)).2 ∧ (∃ B', EntsOwn B' w' sv c.ents) ∧ ErrAt A w' ev (readR lookL (bl t)).1 ∧ SmallC c) := fun hn V hV => read_at A t V (hs.six.below hV) (hK.below hV (Nat.lt_of_lt_of_le kl hG)) (hM.below hV) (by omega)
  have HSa : Hid (SmallC c → ∀ sb cb V, Below w.heap.size w V → EntsAt V (.slice sb c.ents.length cb) c.ents → Calls Tryz.prog 15 #[.agg #[.int .i64 c.closed, .int .i64 c.opn, .int .i64 c.cycle, .int .i64 c.delay, .slice sb c.ents.length cb], .agg #[.int .i64 c.closed, .int .i64 c.opn, .int .i64 c.cycle, .int .i64 c.delay, .slice sa c.ents.length sc]] V fun v w' => v = .returned (.bool true) ∧ Below V.heap.size V w') := fun hS sb cb V hV hB => sameCfg_at c sb sa cb sc V hB (hE.below hV) hS
  have HTt : Hid (bl t = confText c) := by show _ = _; rw [ht]; exact bl_mk _
  have HCd : Hid (code = ((cfgErr c).1 : Int)) := hcode
  obtain ⟨W, hW⟩ : ∃ V, V = w.alloc (.cells #[.int .i64 c.closed, .int .i64 c.opn, .int .i64 c.cycle, .int .i64 c.delay, .slice sa c.ents.length sc] 24) := ⟨_, rfl⟩
  have HBW : Hid (Below w.heap.size w W) := by show Below _ _ _; rw [hW]; exact Below.one _ _
  have HF : Hid (∀ V, Below W.heap.size W V → Below w.heap.size w V) := fun V hV => HBW.out.trans (hV.mono HBW.out.size)
  have HX : Hid (∀ V, Below W.heap.size W V → V.cell? ⟨w.heap.size, 0, none⟩ = some (.int .i64 c.closed) ∧ V.cell? ⟨w.heap.size, 1, none⟩ = some (.int .i64 c.opn) ∧ V.cell? ⟨w.heap.size, 2, none⟩ = some (.int .i64 c.cycle) ∧ V.cell? ⟨w.heap.size, 3, none⟩ = some (.int .i64 c.delay) ∧ V.cell? ⟨w.heap.size, 4, none⟩ = some (.slice sa c.ents.length sc)) := fun V hV => by
    have := row_below hV (show W.heap[w.heap.size]? = _ by rw [hW]; exact heap_alloc_new w _)
    exact ⟨by simp [World.cell?, this], by simp [World.cell?, this], by simp [World.cell?, this], by simp [World.cell?, this], by simp [World.cell?, this]⟩
  have HTr : Hid (∀ V X, Below W.heap.size W V → Below V.heap.size V X → Below W.heap.size W X) := fun V X h1 h2 => h1.trans (h2.mono h1.size)
  clear hs hK hT hM hG hE hcode hplace ht kl
  go_enter Tryz.func3, Tryz.ntmps3
  go_upto_region 1 with fail
  rw [← hW]
  clear hW
  go_wp2_with fail
  refine Calls.mono (HTo.out W (HF.out W (Below.refl _ _))) ?_
  rintro v W1 ⟨rfl, hb1⟩
  have HB1 : Hid (Below W.heap.size W W1) := hb1
  clear hb1 HTo
  obtain ⟨x0, x1, x2, x3, x4⟩ := HX.out W1 HB1.out
  have hc0 := HHv.out W1 (HF.out _ HB1.out)
  clear HHv
  cases hh : heavyC c with
  | true =>
    rw [hh, show one01 true = 1 from rfl] at hc0
    have HC : Hid _ := hc0
    clear hc0 hh
    go_wp2_with fail
    refine Calls.mono HC.out ?_
    rintro v W2 ⟨rfl, hb2⟩
    go_wp2
    go_ret
    exact ⟨rfl, HF.out _ (HTr.out _ _ HB1.out hb2)⟩
  | false =>
    have HSm : Hid (SmallC c) := heavyC_small hh
    rw [hh, show one01 false = 0 from rfl] at hc0
    have HC : Hid _ := hc0
    clear hc0 hh
    go_upto_region 4 with (refine Calls.mono HC.out ?_; rintro v W2 ⟨rfl, hb2⟩)
    have HB2 : Hid (Below W.heap.size W W2) := HTr.out _ _ HB1.out hb2
    clear hb2 HC HB1 x0 x1 x2 x3 x4
    obtain ⟨x0, x1, x2, x3, x4⟩ := HX.out W2 HB2.out
    go_wp2_with fail
    refine Calls.mono (HCf.out HSm.out W2 (HF.out _ HB2.out)) ?_
    rintro v W3 ⟨rfl, hb3⟩
    have HB3 : Hid (Below W.heap.size W W3) := HTr.out _ _ HB2.out hb3
    clear hb3 HCf HB2 x0 x1 x2 x3 x4
    go_upto_region 5 with fail
    obtain ⟨W4, hW4⟩ : ∃ V, V = W3.alloc (.cells #[.int .i64 code, .int .i64 place] 28) := ⟨_, rfl⟩
    rw [← hW4]
    obtain ⟨fb, hfb⟩ : ∃ b, b = W3.heap.size := ⟨_, rfl⟩
    rw [← hfb]
    have HB4 : Hid (Below W.heap.size W W4) := HTr.out _ _ HB3.out (by rw [hW4]; exact Below.one _ _)
    have HFc : Hid (∀ V, Below W4.heap.size W4 V → V.cell? ⟨fb, 0, none⟩ = some (.int .i64 code) ∧ V.cell? ⟨fb, 1, none⟩ = some (.int .i64 place)) := fun V hV => by
      have := row_below hV (show W4.heap[fb]? = _ by rw [hW4, hfb]; exact heap_alloc_new W3 _)
      exact ⟨by simp [World.cell?, this], by simp [World.cell?, this]⟩
    have HTr4 : Hid (∀ V, Below W4.heap.size W4 V → Below W.heap.size W V) := fun V h2 => HTr.out _ _ HB4.out h2
    have HTq : Hid (∀ V X, Below W4.heap.size W4 V → Below V.heap.size V X → Below W4.heap.size W4 X) := fun V X h1 h2 => h1.trans (h2.mono h1.size)
    clear hW4 hfb HB3
    obtain ⟨x0, x1, x2, x3, x4⟩ := HX.out W4 HB4.out
    go_wp2_with fail
    refine Calls.mono (HOw.out HSm.out W4 (HF.out _ HB4.out)) ?_
    rintro v W5 ⟨⟨sa1, sc1, rfl, hown⟩, hb5⟩
    have HB5 : Hid (Below W4.heap.size W4 W5) := hb5
    have HO5 : Hid (EntsAt W5 (.slice sa1 c.ents.length sc1) c.ents) := hown.ents
    clear hb5 hown x0 x1 x2 x3 x4
    by_cases h0 : (cfgErr c).1 = 0
    · have H0 : Hid ((cfgErr c).1 = 0) := h0
      have g0 : ¬ (0 : Int) < code := by have := HCd.out; omega
      clear h0 HTb HCd
      go_wp2_with fail
      refine Calls.mono (HTx.out HSm.out H0.out sa1 sc1 W5 (HF.out _ (HTr4.out _ HB5.out)) HO5.out) ?_
      rintro v W6 ⟨rfl, hb6⟩
      have HB6 : Hid (Below W4.heap.size W4 W6) := HTq.out _ _ HB5.out hb6
      clear hb6 HTx HB5 HO5
      go_upto_region 6 with fail
      go_cut [30] (fun r wx => r = .bool false ∧ Below W6.heap.size W6 wx)
      case first =>
        have HTs : Hid (∀ V X, Below W6.heap.size W6 V → Below V.heap.size V X → Below W6.heap.size W6 X) := fun V X h1 h2 => h1.trans (h2.mono h1.size)
        have HW6 : Hid (∀ V, Below W6.heap.size W6 V → Below w.heap.size w V) := fun V hV => HF.out _ (HTr4.out _ (HTq.out _ _ HB6.out hV))
        have HKc : Hid (∀ V, Below W6.heap.size W6 V → (V.cell? ⟨w.heap.size, 0, none⟩ = some (.int .i64 c.closed) ∧ V.cell? ⟨w.heap.size, 1, none⟩ = some (.int .i64 c.opn) ∧ V.cell? ⟨w.heap.size, 2, none⟩ = some (.int .i64 c.cycle) ∧ V.cell? ⟨w.heap.size, 3, none⟩ = some (.int .i64 c.delay) ∧ V.cell? ⟨w.heap.size, 4, none⟩ = some (.slice sa c.ents.length sc)) ∧ V.cell? ⟨fb, 0, none⟩ = some (.int .i64 code) ∧ V.cell? ⟨fb, 1, none⟩ = some (.int .i64 place)) := fun V hV => ⟨HX.out V (HTr4.out _ (HTq.out _ _ HB6.out hV)), HFc.out V (HTq.out _ _ HB6.out hV)⟩
        obtain ⟨⟨x0, x1, x2, x3, x4⟩, y0, y1⟩ := HKc.out W6 (Below.refl _ _)
        go_region_held3 (fun w' => (w'.cell? ⟨w.heap.size, 0, none⟩ = some (.int .i64 c.closed) ∧ w'.cell? ⟨w.heap.size, 1, none⟩ = some (.int .i64 c.opn) ∧ w'.cell? ⟨w.heap.size, 2, none⟩ = some (.int .i64 c.cycle) ∧ w'.cell? ⟨w.heap.size, 3, none⟩ = some (.int .i64 c.delay) ∧ w'.cell? ⟨w.heap.size, 4, none⟩ = some (.slice sa c.ents.length sc)) ∧ w'.cell? ⟨fb, 0, none⟩ = some (.int .i64 code) ∧ w'.cell? ⟨fb, 1, none⟩ = some (.int .i64 place)) (first | exact ⟨⟨x0, x1, x2, x3, x4⟩, y0, y1⟩ | exact HKc.out _ hbd | exact HKc.out _ (below_drewN hbd _) | exact HKc.out _ hbe | exact HKc.out _ (below_drewN hbe _) | exact HKc.out _ hbf | exact HKc.out _ (below_drewN hbf _)) (first | (go_at_call 9; refine Calls.mono (HOw.out HSm.out _ ?_) ?_; (first | exact HW6.out _ (Below.refl _ _) | exact HW6.out _ (below_drewN (Below.refl _ _) _)); rintro v W7 ⟨⟨sa2, sc2, rfl, hown⟩, hb7⟩; have hbd := HTs.out _ _ (by first | exact Below.refl _ _ | exact below_drewN (Below.refl _ _) _) hb7; have hat := hown.ents) | (go_at_call 11; refine Calls.mono (HCk.out HSm.out _ _ _ ?_ ?_) ?_; (first | exact HW6.out _ hbd | exact HW6.out _ (below_drewN hbd _)); (first | exact hat | exact hat.below (below_drewN (Below.refl _ _) _)); rintro v W8 ⟨r2, rfl, her, hb8⟩; have hbe := HTs.out _ _ (by first | exact hbd | exact below_drewN hbd _) hb8) | (go_at_call 10; refine Calls.mono (HFa.out _ _ ?_ ?_) ?_; (first | exact HW6.out _ hbe | exact HW6.out _ (below_drewN hbe _)); (first | exact her | exact her.below (below_drewN (Below.refl _ _) _)); rintro v W9 ⟨rfl, hb9⟩; have hbf := HTs.out _ _ (by first | exact hbe | exact below_drewN hbe _) hb9))
        all_goals
          go_wp2_with fail
          go_meet
          case rel => exact ⟨rfl, hbf⟩
      obtain ⟨rfl, hb9⟩ := hcut
      rename World => W9
      have HB9 : Hid (Below W4.heap.size W4 W9) := HTq.out _ _ HB6.out hb9
      obtain ⟨y0, y1⟩ := HFc.out W9 HB9.out
      have HTl : Hid (t.size ≤ 400001000) := by show _ ≤ _; rw [← bl_len, HTt.out]; exact text_len H0.out
      clear hb9 HB6 HCk HOw HFa
      obtain ⟨x0, x1, x2, x3, x4⟩ := HX.out W9 (HTr4.out _ HB9.out)
      go_wp2_with fail
      refine Calls.mono (HCt.out HSm.out H0.out _ (HF.out _ (HTr4.out _ HB9.out))) ?_
      rintro v Wa ⟨rfl, hba⟩
      have HBa : Hid (Below W4.heap.size W4 Wa) := HTq.out _ _ HB9.out hba
      clear hba HCt y0 y1 x0 x1 x2 x3 x4 HB9
      go_wp2_with fail
      refine Calls.mono (HRd.out HTl.out _ (HF.out _ (HTr4.out _ HBa.out))) ?_
      rintro v Wb ⟨c2, sv, ev, rfl, hbb, hc2, ⟨B', hE2⟩, her, -⟩
      have HBb : Hid (Below W4.heap.size W4 Wb) := HTq.out _ _ HBa.out hbb
      clear hbb HRd HBa
      obtain ⟨sb, cb, rfl, -⟩ := id hE2.ents
      by_cases hl : (confText c).length ≤ 8000
      · have e1 : readR lookL (bl t) = ((0, -1), c) := by rw [HTt.out]; exact text_read good_lookL H0.out hl
        rw [e1] at hc2 her
        subst hc2
        obtain rfl := her.nil rfl
        have l1 : ¬ (8000 : Int) < (t.size : Int) := by rw [← bl_len, HTt.out]; omega
        obtain ⟨Wc, hWc⟩ : ∃ V, V = Wb.alloc (.cells #[.int .i64 c2.closed, .int .i64 c2.opn, .int .i64 c2.cycle, .int .i64 c2.delay, .slice sb c2.ents.length cb] 24) := ⟨_, rfl⟩
        have HBc : Hid (Below W4.heap.size W4 Wc) := HTq.out _ _ HBb.out (by rw [hWc]; exact Below.one _ _)
        have HEc : Hid (EntsAt Wc (.slice sb c2.ents.length cb) c2.ents) := by show EntsAt _ _ _; rw [hWc]; exact (hE2.below (Below.one _ _)).ents
        obtain ⟨xb, hxb⟩ : ∃ b, b = Wb.heap.size := ⟨_, rfl⟩
        have hrow : Wc.heap[xb]? = some (.cells #[.int .i64 c2.closed, .int .i64 c2.opn, .int .i64 c2.cycle, .int .i64 c2.delay, .slice sb c2.ents.length cb] 24 (0, 0)) := by rw [hWc, hxb]; exact heap_alloc_new Wb _
        have y0 : Wc.cell? ⟨xb, 0, none⟩ = some (.int .i64 c2.closed) := by simp [World.cell?, hrow]
        have y1 : Wc.cell? ⟨xb, 1, none⟩ = some (.int .i64 c2.opn) := by simp [World.cell?, hrow]
        have y2 : Wc.cell? ⟨xb, 2, none⟩ = some (.int .i64 c2.cycle) := by simp [World.cell?, hrow]
        have y3 : Wc.cell? ⟨xb, 3, none⟩ = some (.int .i64 c2.delay) := by simp [World.cell?, hrow]
        have y4 : Wc.cell? ⟨xb, 4, none⟩ = some (.slice sb c2.ents.length cb) := by simp [World.cell?, hrow]
        obtain ⟨x0, x1, x2, x3, x4⟩ := HX.out Wc (HTr4.out _ HBc.out)
        clear hrow her hE2 hl e1
        go_upto_region 13 with fail
        rw [← hWc, ← hxb]
        clear hWc hxb
        go_wp2_with fail
        refine Calls.mono (HSa.out HSm.out sb cb Wc (HF.out _ (HTr4.out _ HBc.out)) HEc.out) ?_
        rintro v Wd ⟨rfl, hbd⟩
        have HBd : Hid (Below w.heap.size w Wd) := HF.out _ (HTr4.out _ (HTq.out _ _ HBc.out hbd))
        clear hbd
        go_wp2
        go_ret
        exact ⟨rfl, HBd.out⟩
      · have e1 : readR lookL (bl t) = ((2, -1), cfg0) := by rw [HTt.out]; exact readR_long (by omega)
        rw [e1] at her
        have l1 : (8000 : Int) < (t.size : Int) := by rw [← bl_len, HTt.out]; omega
        have HBc : Hid (∀ o, Below W4.heap.size W4 (Wb.alloc o)) := fun o => HTq.out _ _ HBb.out (Below.one _ _)
        have HEr : Hid (∀ o, ErrAt A (Wb.alloc o) ev (2, -1)) := fun o => her.below (Below.one _ _)
        clear her hE2 hl e1 hc2
        go_wp2_with fail
        refine Calls.mono (HCo.out _ _ (HF.out _ (HTr4.out _ (HBc.out _))) (HEr.out _)) ?_
        rintro v Wd ⟨rfl, hbd⟩
        have HBd : Hid (Below w.heap.size w Wd) := HF.out _ (HTr4.out _ (HTq.out _ _ (HBc.out _) hbd))
        clear hbd
        go_wp2
        go_ret
        exact ⟨rfl, HBd.out⟩
    · have H0 : Hid ((cfgErr c).1 ≠ 0) := h0
      have g0 : (0 : Int) < code := by have := HCd.out; omega
      clear h0 HTx HCd HCt HRd HSa HCo
      go_wp2_with fail
      refine Calls.mono (HTb.out HSm.out H0.out sa1 sc1 W5 (HF.out _ (HTr4.out _ HB5.out)) HO5.out) ?_
      rintro v W6 ⟨r, rfl, hr, hb6⟩
      have HB6 : Hid (Below W4.heap.size W4 W6) := HTq.out _ _ HB5.out hb6
      have HEr : Hid (ErrAt A W6 r (cfgErr c)) := hr
      clear hb6 hr HTb HB5 HO5
      go_upto_region 6 with fail
      go_cut [30] (fun r wx => r = .bool false ∧ Below W6.heap.size W6 wx)
      case first =>
        have HTs : Hid (∀ V X, Below W6.heap.size W6 V → Below V.heap.size V X → Below W6.heap.size W6 X) := fun V X h1 h2 => h1.trans (h2.mono h1.size)
        have HW6 : Hid (∀ V, Below W6.heap.size W6 V → Below w.heap.size w V) := fun V hV => HF.out _ (HTr4.out _ (HTq.out _ _ HB6.out hV))
        have HKc : Hid (∀ V, Below W6.heap.size W6 V → (V.cell? ⟨w.heap.size, 0, none⟩ = some (.int .i64 c.closed) ∧ V.cell? ⟨w.heap.size, 1, none⟩ = some (.int .i64 c.opn) ∧ V.cell? ⟨w.heap.size, 2, none⟩ = some (.int .i64 c.cycle) ∧ V.cell? ⟨w.heap.size, 3, none⟩ = some (.int .i64 c.delay) ∧ V.cell? ⟨w.heap.size, 4, none⟩ = some (.slice sa c.ents.length sc)) ∧ V.cell? ⟨fb, 0, none⟩ = some (.int .i64 code) ∧ V.cell? ⟨fb, 1, none⟩ = some (.int .i64 place)) := fun V hV => ⟨HX.out V (HTr4.out _ (HTq.out _ _ HB6.out hV)), HFc.out V (HTq.out _ _ HB6.out hV)⟩
        obtain ⟨⟨x0, x1, x2, x3, x4⟩, y0, y1⟩ := HKc.out W6 (Below.refl _ _)
        go_region_held3 (fun w' => (w'.cell? ⟨w.heap.size, 0, none⟩ = some (.int .i64 c.closed) ∧ w'.cell? ⟨w.heap.size, 1, none⟩ = some (.int .i64 c.opn) ∧ w'.cell? ⟨w.heap.size, 2, none⟩ = some (.int .i64 c.cycle) ∧ w'.cell? ⟨w.heap.size, 3, none⟩ = some (.int .i64 c.delay) ∧ w'.cell? ⟨w.heap.size, 4, none⟩ = some (.slice sa c.ents.length sc)) ∧ w'.cell? ⟨fb, 0, none⟩ = some (.int .i64 code) ∧ w'.cell? ⟨fb, 1, none⟩ = some (.int .i64 place)) (first | exact ⟨⟨x0, x1, x2, x3, x4⟩, y0, y1⟩ | exact HKc.out _ hbd | exact HKc.out _ (below_drewN hbd _) | exact HKc.out _ hbe | exact HKc.out _ (below_drewN hbe _) | exact HKc.out _ hbf | exact HKc.out _ (below_drewN hbf _)) (first | (go_at_call 9; refine Calls.mono (HOw.out HSm.out _ ?_) ?_; (first | exact HW6.out _ (Below.refl _ _) | exact HW6.out _ (below_drewN (Below.refl _ _) _)); rintro v W7 ⟨⟨sa2, sc2, rfl, hown⟩, hb7⟩; have hbd := HTs.out _ _ (by first | exact Below.refl _ _ | exact below_drewN (Below.refl _ _) _) hb7; have hat := hown.ents) | (go_at_call 11; refine Calls.mono (HCk.out HSm.out _ _ _ ?_ ?_) ?_; (first | exact HW6.out _ hbd | exact HW6.out _ (below_drewN hbd _)); (first | exact hat | exact hat.below (below_drewN (Below.refl _ _) _)); rintro v W8 ⟨r2, rfl, her, hb8⟩; have hbe := HTs.out _ _ (by first | exact hbd | exact below_drewN hbd _) hb8) | (go_at_call 10; refine Calls.mono (HFa.out _ _ ?_ ?_) ?_; (first | exact HW6.out _ hbe | exact HW6.out _ (below_drewN hbe _)); (first | exact her | exact her.below (below_drewN (Below.refl _ _) _)); rintro v W9 ⟨rfl, hb9⟩; have hbf := HTs.out _ _ (by first | exact hbe | exact below_drewN hbe _) hb9))
        all_goals
          go_wp2_with fail
          go_meet
          case rel => exact ⟨rfl, hbf⟩
      obtain ⟨rfl, hb9⟩ := hcut
      rename World => W9
      have HB9 : Hid (Below W4.heap.size W4 W9) := HTq.out _ _ HB6.out hb9
      obtain ⟨y0, y1⟩ := HFc.out W9 HB9.out
      have HE9 : Hid (ErrAt A W9 r (cfgErr c)) := HEr.out.below hb9
      clear hb9 HB6 HEr HCk HOw
      go_wp2_with fail
      refine Calls.mono (HFa.out _ _ (HF.out _ (HTr4.out _ HB9.out)) HE9.out) ?_
      rintro v Wa ⟨rfl, hba⟩
      have HBa : Hid (Below w.heap.size w Wa) := HF.out _ (HTr4.out _ (HTq.out _ _ HB9.out hba))
      clear hba HFa y0 y1
      go_wp2
      go_ret
      exact ⟨rfl, HBa.out⟩
end Go.Proofs.YtcnfkdecghdphaaGreatDoor
