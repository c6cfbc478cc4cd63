/-
  conf.Read by a contract: 'readR'. No condition but where the variables lie.
-/
import Derived.Test.YtcnfkdecghdphabGreatDoorCfRLines
import Derived.Test.YtcnfkdecghdphabGreatDoorCfTextGo
namespace Go.Proofs.YtcnfkdecghdphabGreatDoor
open Go.RowKit Go.Extern.Stop Go.Stop Go.Extern Go.Maps

theorem trim_suffix (l : List UInt8) : Lib.trimSuffix l [10] = trim l := by
  unfold Lib.trimSuffix trim
  have hs : Lib.hasSuffix l [10] = true ↔ l.getLast? = some 10 := by
    unfold Lib.hasSuffix
    rw [List.isSuffixOf_iff_suffix]
    constructor
    · rintro ⟨t, rfl⟩
      simp
    · intro h
      have hne : l ≠ [] := fun e => by subst e; simp at h
      rw [List.getLast?_eq_some_getLast hne] at h
      have e2 := List.dropLast_concat_getLast hne
      rw [Option.some.inj h] at e2
      exact ⟨_, e2⟩
  by_cases h : l.getLast? = some 10
  · rw [if_pos h, if_pos (hs.2 h)]
    rw [List.dropLast_eq_take]
    rfl
  · rw [if_neg h, if_neg (fun e => h (hs.1 e))]
/-- The lines of a text. -/
theorem lines_of (s sep : ByteArray) (hsep : sep.data.toList = [10]) : (Lib.splitB sep 0 (Lib.countB s sep) s).map bl = cutBy 10 (bl s) ∧ (Lib.splitB sep 0 (Lib.countB s sep) s).length = Lib.countB s sep + 1 :=
  ⟨splitB_one 10 s sep hsep, Lib.splitB_all sep (by rw [← ByteArray.size_data, ← Array.length_toList, hsep]; decide) 0 _ s rfl⟩
theorem setRow_same {w : World} {b : Nat} {cs : Array Value} {T : TypeId} {fr : Nat × Nat} (h : w.heap[b]? = some (.cells cs T fr)) : w.setRow b cs = w := by
  have hh : (w.setRow b cs).heap = w.heap := by
    apply Array.ext_getElem?
    intro i
    by_cases e : i = b
    · subst e; rw [heap_setRow cs h, h]
    · simp only [World.setRow, Array.getElem?_modify]
      rw [if_neg (fun e2 => e e2.symm)]
  cases w
  simp only [World.setRow] at hh ⊢
  rw [hh]
set_option maxHeartbeats 8000000 in
set_option maxRecDepth 100000 in
theorem read_at (A : Nat → Addr) (s : ByteArray) (w : World) (hs : Sen6 A w) (hK : KwAt w) (hM : MxAt w) (hn : s.size ≤ 9223372036854775807) :
    Calls Tryz.prog 6 #[.string s] w fun v w' => ∃ c sv ev, v = .returned (.tuple #[.agg #[.int .i64 c.closed, .int .i64 c.opn, .int .i64 c.cycle, .int .i64 c.delay, sv], ev]) ∧ Below w.heap.size w w' ∧ c = (readR lookL (bl s)).2 ∧ (∃ B', EntsOwn B' w' sv c.ents) ∧ ErrAt A w' ev (readR lookL (bl s)).1 ∧ SmallC c := by
  have hbl : (bl s).length = s.size := by simp [bl]
  obtain ⟨Wc, hWc⟩ : ∃ V, V = w.alloc (.cells #[.int .i64 0, .int .i64 0, .int .i64 0, .int .i64 0, .slice none 0 0] 25) := ⟨_, rfl⟩
  have HBc : Hid (Below w.heap.size w Wc) := by show Below _ _ _; rw [hWc]; exact Below.one _ _
  have HSz : Hid (Wc.heap.size = w.heap.size + 1) := by show _ = _; rw [hWc]; simp
  have HRow : Hid (∀ V, Below Wc.heap.size Wc V → V.heap[w.heap.size]? = some (.cells #[.int .i64 0, .int .i64 0, .int .i64 0, .int .i64 0, .slice none 0 0] 25 (0, 0))) := fun V hV => row_below hV (by rw [hWc]; exact heap_alloc_new w _)
  have HS : Hid (Sen6 A Wc ∧ KwAt Wc ∧ MxAt Wc) := ⟨hs.below HBc.out, hK.below HBc.out (block_lt (hK 0 (by decide))), hM.below HBc.out⟩
  have hg1 : 0 < w.heap.size := block_lt hs.c1
  by_cases hl : 8000 < s.size
  · have HE : Hid (readR lookL (bl s) = ((2, -1), cfg0)) := by show _ = _; unfold readR; rw [if_pos (by omega)]
    have l1 : (8000 : Int) < (s.size : Int) := by omega
    have sen := HS.out.1.c1
    have zz := HRow.out Wc (Below.refl _ _)
    have ne1 : ¬ w.heap.size = 0 := by omega
    have ne2 : ¬ 0 = w.heap.size := by omega
    have z0 : Wc.cell? ⟨w.heap.size, 0, none⟩ = some (.int .i64 0) := by simp [World.cell?, zz]
    have f0 : Wc.frozen? ⟨w.heap.size, 0, none⟩ = false := by simp [World.frozen?, zz]
    have z1 : Wc.cell? ⟨w.heap.size, 1, none⟩ = some (.int .i64 0) := by simp [World.cell?, zz]
    have f1 : Wc.frozen? ⟨w.heap.size, 1, none⟩ = false := by simp [World.frozen?, zz]
    have z2 : Wc.cell? ⟨w.heap.size, 2, none⟩ = some (.int .i64 0) := by simp [World.cell?, zz]
    have f2 : Wc.frozen? ⟨w.heap.size, 2, none⟩ = false := by simp [World.frozen?, zz]
    have z3 : Wc.cell? ⟨w.heap.size, 3, none⟩ = some (.int .i64 0) := by simp [World.cell?, zz]
    have f3 : Wc.frozen? ⟨w.heap.size, 3, none⟩ = false := by simp [World.frozen?, zz]
    have z4 : Wc.cell? ⟨w.heap.size, 4, none⟩ = some (.slice none 0 0) := by simp [World.cell?, zz]
    have f4 : Wc.frozen? ⟨w.heap.size, 4, none⟩ = false := by simp [World.frozen?, zz]
    clear zz hg1 hs hK hM
    go_enter Tryz.func6, Tryz.ntmps6
    go_upto_region 1 with fail
    rw [← hWc]
    clear hWc
    go_wp2_with fail
    go_region
    all_goals
      clear z0 z1 z2 z3 z4 f0 f1 f2 f3 f4 ne1 ne2 sen
      rw [five_same (HRow.out _ (Below.refl _ _))]
      go_wp2
      refine bodyPost_ret (results_cfg rfl _ _ w.heap.size _ _ _ _ _ rfl (HRow.out _ (Below.refl _ _).drew)) rfl ?_
      refine ⟨cfg0, .slice none 0 0, errV A 2, rfl, HBc.out.drew, by rw [HE.out], entsOwn_nil _, by rw [HE.out]; exact ⟨by simp, Or.inl ⟨rfl, rfl⟩⟩, smallC_0⟩
  · obtain ⟨st, hst⟩ : ∃ st : ByteArray, st = ⟨(Lib.trimSuffix s.data.toList [10]).toArray⟩ := ⟨_, rfl⟩
    have hbt : bl st = trim (bl s) := by rw [hst, bl_mk, trim_suffix]; rfl
    obtain ⟨lines, hlines⟩ : ∃ L, L = Lib.splitB ⟨#[10]⟩ 0 (Lib.countB st ⟨#[10]⟩) st := ⟨_, rfl⟩
    obtain ⟨e1, e2⟩ := lines_of st ⟨#[10]⟩ rfl
    rw [← hlines] at e1 e2
    have htl : (trim (bl s)).length ≤ 8000 := by
      unfold trim
      split
      · simp; omega
      · omega
    have hstz : st.size ≤ 8000 := by
      have : (bl st).length = st.size := by simp [bl]
      rw [hbt] at this
      omega
    have HT : Hid (Calls Tryz.prog 16 #[.string s, .string ⟨#[10]⟩] Wc fun e w' => e = .returned (.string st) ∧ w' = Wc) := by
      rw [hst]
      exact Tryz.strings_TrimSuffix s ⟨#[10]⟩ Wc hn
    have HSp : Hid (Calls Tryz.prog 15 #[.string st, .string ⟨#[10]⟩] Wc fun e w' => e = .returned (.slice (some ⟨Wc.heap.size, 0, none⟩) lines.length lines.length) ∧ w' = Wc.alloc (.cells (lines.map Value.string).toArray 9)) := by
      have := split_at st ⟨#[10]⟩ Wc HS.out.2.2 (by omega) (by decide)
      rw [← hlines, ← e2] at this
      exact this
    have HRd : Hid (∀ w1, Below Wc.heap.size Wc w1 → w1.heap[Wc.heap.size]? = some (.cells (lines.map Value.string).toArray 9 (0, 0)) → Calls Tryz.prog 14 #[.slice (some ⟨Wc.heap.size, 0, none⟩) lines.length lines.length] w1 _) := fun w1 hb hrow => lines_at A w1 (some ⟨Wc.heap.size, 0, none⟩) lines lines.length (HS.out.1.below hb) (HS.out.2.1.below hb (block_lt (HS.out.2.1 0 (by decide)))) (HS.out.2.2.below hb) ⟨_, _, rfl, Nat.le_refl _, fun _ => ⟨Wc.heap.size, 0, rfl, fun i x hx j u hu => by
      match j, hu with
      | 0, hu =>
        simp [encS] at hu
        subst hu
        simp [World.cell?, hrow, hx]
      | j + 1, hu => simp [encS] at hu⟩⟩ (by
        have h1 := (cut_sizes 10 (trim (bl s))).2
        rw [← hbt, ← e1, List.length_map, hbt] at h1
        omega) (fun l hl => by
        have h1 := cut_size 10 (bl st) (bl l) (by rw [← e1]; exact List.mem_map_of_mem (f := bl) hl)
        have h2 : (bl l).length = l.size := by simp [bl]
        rw [hbt] at h1
        omega)
    have HRr : Hid (readR lookL (bl s) = if (linesR lookL 0 ⟨-1, cfg0⟩ (lines.map bl)).1.1 = 0 then (if (cfgErr (linesR lookL 0 ⟨-1, cfg0⟩ (lines.map bl)).2.cfg).1 = 0 then ((0, -1), (linesR lookL 0 ⟨-1, cfg0⟩ (lines.map bl)).2.cfg) else (cfgErr (linesR lookL 0 ⟨-1, cfg0⟩ (lines.map bl)).2.cfg, cfg0)) else ((linesR lookL 0 ⟨-1, cfg0⟩ (lines.map bl)).1, cfg0)) := by
      show _ = _
      unfold readR
      rw [if_neg (by omega), e1, hbt]
    have l1 : ¬ (8000 : Int) < (s.size : Int) := by omega
    clear hs hK hM hg1 hst hbt hlines e1 e2 htl hstz hbl
    go_enter Tryz.func6, Tryz.ntmps6
    go_upto_region 1 with fail
    rw [← hWc]
    clear hWc
    go_wp2_with fail
    refine Calls.mono HT.out ?_
    rintro v w1 ⟨rfl, hw1⟩
    cases hw1
    go_wp2_with fail
    refine Calls.mono HSp.out ?_
    rintro v w1 ⟨rfl, hw1⟩
    have HB1 : Hid (Below Wc.heap.size Wc w1) := by show Below _ _ _; rw [hw1]; exact Below.one _ _
    have HC1 : Hid (w1.heap[Wc.heap.size]? = some (.cells (lines.map Value.string).toArray 9 (0, 0))) := by show _ = _; rw [hw1]; exact heap_alloc_new Wc _
    clear hw1 HT HSp
    go_wp2_with fail
    refine Calls.mono (HRd.out w1 HB1.out HC1.out) ?_
    rintro v w2 ⟨c, sv, ev, rfl, hb2, hc, hE, hErr, hSm⟩
    obtain ⟨B', hE⟩ := hE
    obtain ⟨va, vc, rfl, -⟩ := id hE.ents
    have HB2 : Hid (Below Wc.heap.size Wc w2) := HB1.out.trans (hb2.mono HB1.out.size)
    have HC : Hid (c = cfgOf (linesR lookL 0 ⟨-1, cfg0⟩ (lines.map bl))) := hc
    have HE : Hid (EntsOwn B' w2 (.slice va c.ents.length vc) c.ents ∧ SmallC c) := ⟨hE, hSm⟩
    have HErr : Hid (ErrAt A w2 ev (linesR lookL 0 ⟨-1, cfg0⟩ (lines.map bl)).1) := hErr
    clear hb2 hc hE hErr hSm HRd HB1 HC1
    by_cases h0 : (linesR lookL 0 ⟨-1, cfg0⟩ (lines.map bl)).1.1 = 0
    · have hev := HErr.out.nil h0
      subst hev
      have HCc : Hid (c = (linesR lookL 0 ⟨-1, cfg0⟩ (lines.map bl)).2.cfg) := by show _ = _; rw [HC.out]; unfold cfgOf; rw [if_pos h0]
      have HRr2 : Hid (readR lookL (bl s) = if (cfgErr c).1 = 0 then ((0, -1), c) else (cfgErr c, cfg0)) := by show _ = _; rw [HRr.out, if_pos h0, HCc.out]
      clear h0 HErr HRr
      obtain ⟨V, hV⟩ : ∃ V, V = w2.alloc (.cells #[.int .i64 c.closed, .int .i64 c.opn, .int .i64 c.cycle, .int .i64 c.delay, .slice va c.ents.length vc] 25) := ⟨_, rfl⟩
      have HBV : Hid (Below Wc.heap.size Wc V) := by show Below _ _ _; rw [hV]; exact HB2.out.trans ((Below.one _ _).mono HB2.out.size)
      have HV4 : Hid (∀ X, Below V.heap.size V X → X.heap[w2.heap.size]? = some (.cells #[.int .i64 c.closed, .int .i64 c.opn, .int .i64 c.cycle, .int .i64 c.delay, .slice va c.ents.length vc] 25 (0, 0))) := fun X hX => row_below hX (by rw [hV]; exact heap_alloc_new w2 _)
      have HEV : Hid (EntsOwn B' V (.slice va c.ents.length vc) c.ents) := by show EntsOwn _ _ _ _; rw [hV]; exact HE.out.1.below (Below.one _ _)
      go_upto_region 5 with fail
      rw [← hV]
      clear hV
      go_wp2_with (refine wpList_load_row rfl 25 _ rfl w2.heap.size rfl _ _ _ _ (HV4.out _ (Below.refl _ _)) Tryz.underlying25 rfl Tryz.sizeCfg ?_)
      refine (check_at A c va vc V (HS.out.1.below HBV.out) HEV.out.ents HE.out.2).mono ?_
      rintro v w4 ⟨r, rfl, he, hb4⟩
      have HB4 : Hid (Below V.heap.size V w4) := hb4
      have HB4c : Hid (Below Wc.heap.size Wc w4) := HBV.out.trans (hb4.mono HBV.out.size)
      have HEr : Hid (ErrAt A w4 r (cfgErr c)) := he
      clear he hb4
      by_cases h1 : (cfgErr c).1 = 0
      · have hr := HEr.out.nil h1
        subst hr
        have HRr3 : Hid (readR lookL (bl s) = ((0, -1), c)) := by show _ = _; rw [HRr2.out, if_pos h1]
        clear h1 HRr2
        go_wp2_with (first | (refine wpList_load_row rfl 25 _ rfl w2.heap.size rfl _ _ _ _ (HV4.out _ HB4.out) Tryz.underlying25 rfl Tryz.sizeCfg ?_) | (refine wpList_store_row rfl 25 _ _ rfl w.heap.size #[.int .i64 c.closed, .int .i64 c.opn, .int .i64 c.cycle, .int .i64 c.delay, .slice va c.ents.length vc] rfl rfl 25 #[.int .i64 0, .int .i64 0, .int .i64 0, .int .i64 0, .slice none 0 0] (HRow.out _ HB4c.out) Tryz.sizeCfg rfl (by simp [Value.oneCell']) ?_))
        refine bodyPost_ret (results_cfg rfl _ _ w.heap.size _ _ _ _ _ rfl (heap_setRow _ (HRow.out _ HB4c.out))) rfl ?_
        have b1 := HBc.out.trans (HB4c.out.mono HBc.out.size)
        refine ⟨c, .slice va c.ents.length vc, .nilIface, rfl, b1.grown (grown_setRow _ _ _) b1.size (fun j hj => by cases hj; exact Nat.le_refl _), by rw [HRr3.out], ⟨B', (HEV.out.below HB4.out).other (grown_setRow _ _ _) (HRow.out _ HB4c.out)⟩, by rw [HRr3.out]; exact ⟨by simp, Or.inl ⟨rfl, rfl⟩⟩, HE.out.2⟩
      · obtain ⟨et, ex, he⟩ := HEr.out.some h1
        subst he
        have HRr3 : Hid (readR lookL (bl s) = (cfgErr c, cfg0)) := by show _ = _; rw [HRr2.out, if_neg h1]
        clear h1 HRr2
        go_wp2_with (refine wpList_store_row rfl 25 _ _ rfl w.heap.size #[.int .i64 0, .int .i64 0, .int .i64 0, .int .i64 0, .slice none 0 0] rfl rfl 25 #[.int .i64 0, .int .i64 0, .int .i64 0, .int .i64 0, .slice none 0 0] (HRow.out _ HB4c.out) Tryz.sizeCfg rfl (by simp [Value.oneCell']) ?_)
        rw [setRow_same (HRow.out _ HB4c.out)]
        refine bodyPost_ret (results_cfg rfl _ _ w.heap.size _ _ _ _ _ rfl (HRow.out _ HB4c.out)) rfl ?_
        exact ⟨cfg0, .slice none 0 0, _, rfl, HBc.out.trans (HB4c.out.mono HBc.out.size), by rw [HRr3.out], entsOwn_nil _, by rw [HRr3.out]; exact HEr.out, smallC_0⟩
    · obtain ⟨et, ex, he⟩ := HErr.out.some h0
      subst he
      have HRr2 : Hid (readR lookL (bl s) = ((linesR lookL 0 ⟨-1, cfg0⟩ (lines.map bl)).1, cfg0)) := by show _ = _; rw [HRr.out, if_neg h0]
      clear h0
      go_wp2_with (refine wpList_store_row rfl 25 _ _ rfl w.heap.size #[.int .i64 0, .int .i64 0, .int .i64 0, .int .i64 0, .slice none 0 0] rfl rfl 25 #[.int .i64 0, .int .i64 0, .int .i64 0, .int .i64 0, .slice none 0 0] (HRow.out _ (HB2.out.trans ((Below.one _ _).mono HB2.out.size))) Tryz.sizeCfg rfl (by simp [Value.oneCell']) ?_)
      rw [setRow_same (HRow.out _ (HB2.out.trans ((Below.one _ _).mono HB2.out.size)))]
      refine bodyPost_ret (results_cfg rfl _ _ w.heap.size _ _ _ _ _ rfl (HRow.out _ (HB2.out.trans ((Below.one _ _).mono HB2.out.size)))) rfl ?_
      have b1 := HBc.out.trans (HB2.out.mono HBc.out.size)
      exact ⟨cfg0, .slice none 0 0, _, rfl, b1.trans ((Below.one _ _).mono b1.size), by rw [HRr2.out], entsOwn_nil _, by rw [HRr2.out]; exact HErr.out.below (Below.one _ _), smallC_0⟩
end Go.Proofs.YtcnfkdecghdphabGreatDoor
