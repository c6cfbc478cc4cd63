/-
  nightwatchref1.ConfigOf by a contract: 'readR' with the first place of a name ('lookF'). Condition: the text has at most 8000 bytes.
-/
import Derived.Test.YtbholbenjalliaaGreatDoorDrEX
import Derived.Test.YtbholbenjalliaaGreatDoorRd2X
import Derived.Test.YtbholbenjalliaaGreatDoorPureX
import Derived.Test.YtbholbenjalliaaGreatDoorDcFaultX
import Derived.Test.YtbholbenjalliaaGreatDoorDr1X
import Derived.BigRegion
namespace Go.Proofs.YtbholbenjalliaaGreatDoor
open Go.RowKit Go.Extern.Stop Go.Stop Go.Extern Go.Maps

theorem results_two {fn : Func} {p q : Tmp} (h : fn.results = #[.cell p 24, .cell q 28]) (tmps : Array Value) (w : World) (g k : Nat) (a b c d e x y : Value)
    (hp : tmps.getD p undef = .pointer (some ⟨g, 0, none⟩)) (hq : tmps.getD q undef = .pointer (some ⟨k, 0, none⟩)) (hg : w.heap[g]? = some (.cells #[a, b, c, d, e] 24 (0, 0))) (hk : w.heap[k]? = some (.cells #[x, y] 28 (0, 0))) :
    (results fn tmps).run Tryz.prog w = .ok (.tuple #[.agg #[a, b, c, d, e], .agg #[x, y]]) w := by
  have hp' : tmps[p]?.getD undef = .pointer (some ⟨g, 0, none⟩) := by simpa using hp
  have hq' : tmps[q]?.getD undef = .pointer (some ⟨k, 0, none⟩) := by simpa using hq
  simp [results, h, hp', hq', asAddr, run_loadVar_row w g _ 24 #[a, b, c, d, e] _ _ hg Tryz.underlying24 rfl Tryz.sizeCfg, run_loadVar_row w k _ 28 #[x, y] _ _ hk Tryz.underlying28 rfl Tryz.sizeFlt, Result.andThen]
theorem DrV.entsOwn {B rb : Nat} {w : World} {c : CfgD} {lw : ByteArray} {ev : Value} {cells : List Value} (h : DrV B rb w c lw ev cells) : EntsOwn B w ev c.ents :=
  ⟨cells, h.ents, fun i e he => by
    obtain ⟨x, a, -, d⟩ := h.olds i e he
    exact ⟨x.p, x.g, x.e, x.f, x.l, a, d⟩⟩
theorem entsOwn_other {B b : Nat} {w w' : World} {v : Value} {es : List EntD} (h : EntsOwn B w v es) (hg : w.grownBy w' (some b)) {cs : Array Value} {T : TypeId} {fr : Nat × Nat} (hb : w.heap[b]? = some (.cells cs T fr)) (h0 : T ≠ 52) (h1 : T ≠ 9) (h2 : T ≠ 78) (h3 : T ≠ 79) (h4 : T ≠ 3) : EntsOwn B w' v es := by
  obtain ⟨cells, ho, hp⟩ := h
  refine ⟨cells, ho.kept hg (Or.inr (own_ne ho hb h0)), fun i e he => ?_⟩
  obtain ⟨pv, gv, ev, fv, lv, a, d⟩ := hp i e he
  exact ⟨pv, gv, ev, fv, lv, OwnX.other (x := ⟨pv, gv, ev, fv, lv⟩) a hg hb h1 h2 h3 h4, d⟩
theorem blLen (a : ByteArray) : (bl a).length = a.size := by simp [bl]
theorem blx_row {rb g : Nat} {a b : World} {o : Obj} (h : BlX rb a b) (hc : a.heap[g]? = some o) (hne : g ≠ rb) : b.heap[g]? = some o := (h.block g (lt_of_row hc) (fun e => hne (by cases e; rfl))).trans hc
theorem blx_cell {rb g i : Nat} {a b : World} {v : Value} (h : BlX rb a b) (hc : a.cell? ⟨g, i, none⟩ = some v) (hne : g ≠ rb) : b.cell? ⟨g, i, none⟩ = some v := by
  have h1 := h.block g (block_lt hc) (fun e => hne (by cases e; rfl))
  unfold World.cell? at hc ⊢
  simp only [h1]
  exact hc
theorem trim_some {s : Bs} {b : UInt8} (h : s.getLast? = some b) : trim s = if b = 10 then s.dropLast else s := by
  unfold trim
  rw [h]
  by_cases e : b = 10
  · subst e; simp
  · rw [if_neg (fun h => e (by simpa using h)), if_neg e]
theorem lines_nil (look : Look) : linesR look 0 ⟨-1, cfg0⟩ (cutBy 10 (trim [])) = linesR look 0 ⟨-1, cfg0⟩ [] := by
  have h1 : cutBy 10 (trim []) = [[]] := by decide
  have h2 : lineR look ⟨-1, cfg0⟩ [] = (1, ⟨-1, cfg0⟩) := by
    have h3 : cutBy 32 ([] : Bs) = [[]] := by decide
    have h4 : kindOf ([] : Bs) = none := by decide
    simp [lineR, h3, lineW, h4]
  rw [h1]
  simp [linesR, h2]
theorem readR_lines {look : Look} {s : Bs} {ls : List Bs} (hs : s.length ≤ 8000) (h : linesR look 0 ⟨-1, cfg0⟩ (cutBy 10 (trim s)) = linesR look 0 ⟨-1, cfg0⟩ ls) : readR look s = if (linesR look 0 ⟨-1, cfg0⟩ ls).1.1 = 0 then (if (cfgErr (linesR look 0 ⟨-1, cfg0⟩ ls).2.cfg).1 = 0 then ((0, -1), (linesR look 0 ⟨-1, cfg0⟩ ls).2.cfg) else (cfgErr (linesR look 0 ⟨-1, cfg0⟩ ls).2.cfg, cfg0)) else ((linesR look 0 ⟨-1, cfg0⟩ ls).1, cfg0) := by
  unfold readR
  rw [if_neg (by omega), h]
/-- ConfigOf's two results, its reader's entities. -/
structure OfW (w : World) (B : Nat) (ev : Value) (es : List EntD) (C F : Array Value) (Z : World) : Prop where
  c : Z.heap[w.heap.size]? = some (.cells C 24 (0, 0))
  f : Z.heap[w.heap.size + 1]? = some (.cells F 28 (0, 0))
  bel : Below w.heap.size w Z
  own : EntsOwn B Z ev es
section
variable {w Z : World} {B : Nat} {ev : Value} {es : List EntD} {C F : Array Value}
theorem OfW.setC (h : OfW w B ev es C F Z) (j : Nat) (u : Value) : OfW w B ev es (C.setIfInBounds j u) F (Z.setCell ⟨w.heap.size, j, none⟩ u) :=
  ⟨row_set h.c u, ((grown_cell Z w.heap.size j u).block _ (lt_of_row h.f) (by simp)).trans h.f, h.bel.setCell (p := ⟨w.heap.size, j, none⟩) (Nat.le_refl _) u, entsOwn_other h.own (grown_cell Z w.heap.size j u) h.c (by decide) (by decide) (by decide) (by decide) (by decide)⟩
theorem OfW.setF (h : OfW w B ev es C F Z) (j : Nat) (u : Value) : OfW w B ev es C (F.setIfInBounds j u) (Z.setCell ⟨w.heap.size + 1, j, none⟩ u) :=
  ⟨((grown_cell Z (w.heap.size + 1) j u).block _ (lt_of_row h.c) (by simp)).trans h.c, row_set h.f u, h.bel.setCell (p := ⟨w.heap.size + 1, j, none⟩) (Nat.le_succ _) u, entsOwn_other h.own (grown_cell Z (w.heap.size + 1) j u) h.f (by decide) (by decide) (by decide) (by decide) (by decide)⟩
theorem OfW.drew (h : OfW w B ev es C F Z) : OfW w B ev es C F Z.drew := ⟨h.c, h.f, h.bel.drew, h.own.below (Below.refl _ _).drew⟩
end
/-- What ConfigOf answers. -/
def OfPost (s : ByteArray) (w : World) (v : Ending) (w' : World) : Prop := ∃ (c : CfgD) (sv : Value) (code place : Int), v = .returned (.tuple #[.agg #[.int .i64 c.closed, .int .i64 c.opn, .int .i64 c.cycle, .int .i64 c.delay, sv], .agg #[.int .i64 code, .int .i64 place]]) ∧ Below w.heap.size w w' ∧ c = (readR lookF (bl s)).2 ∧ code = ((readR lookF (bl s)).1.1 : Int) ∧ (code ≠ 0 → place = (readR lookF (bl s)).1.2) ∧ ∃ B', EntsOwn B' w' sv c.ents
set_option maxHeartbeats 8000000 in
set_option maxRecDepth 100000 in
theorem confOf_at (s : ByteArray) (w : World) (hn : s.size ≤ 8000) :
    Calls Tryz.prog 16 #[.string s] w (OfPost s w) := by
  have HN : Hid (s.size ≤ 8000) := hn
  have g1 : ¬ 8000 < (s.size : Int) := by omega
  clear hn
  go_enter Tryz.func16, Tryz.ntmps16
  go_upto_region 5 with fail
  obtain ⟨W2, hW2⟩ : ∃ V, V = (w.alloc (.cells #[.int .i64 0, .int .i64 0, .int .i64 0, .int .i64 0, .slice none 0 0] 24)).alloc (.cells #[.int .i64 0, .int .i64 0] 28) := ⟨_, rfl⟩
  rw [← hW2]
  obtain ⟨W3, hW3⟩ : ∃ V, V = W2.alloc (.cells #[.int .i64 0, .int .i64 0, .int .i64 0, .int .i64 0, .slice none 0 0, .string ⟨#[]⟩] 86) := ⟨_, rfl⟩
  rw [← hW3]
  have HS2 : Hid (W2.heap.size = w.heap.size + 2) := by show _ = _; rw [hW2]; simp
  have HB2 : Hid (Below w.heap.size w W2) := by show Below _ _ _; rw [hW2]; exact (Below.one _ _).alloc (by simp) _
  have HCr : Hid (∀ V, Below W2.heap.size W2 V → V.heap[w.heap.size]? = some (.cells #[.int .i64 0, .int .i64 0, .int .i64 0, .int .i64 0, .slice none 0 0] 24 (0, 0))) := fun V hV => row_below hV (by rw [hW2]; exact row_below (Below.one _ _) (heap_alloc_new w _))
  have HFr : Hid (∀ V, Below W2.heap.size W2 V → V.heap[w.heap.size + 1]? = some (.cells #[.int .i64 0, .int .i64 0] 28 (0, 0))) := fun V hV => row_below hV (by
    have := heap_alloc_new (w.alloc (.cells #[.int .i64 0, .int .i64 0, .int .i64 0, .int .i64 0, .slice none 0 0] 24)) (.cells #[.int .i64 0, .int .i64 0] 28)
    rw [World.size_alloc] at this
    rw [hW2]
    exact this)
  obtain ⟨rb, hrb⟩ : ∃ rb, rb = w.heap.size + 2 := ⟨_, rfl⟩
  have HR3 : Hid (W3.heap[rb]? = some (.cells #[.int .i64 0, .int .i64 0, .int .i64 0, .int .i64 0, .slice none 0 0, .string ⟨#[]⟩] 86 (0, 0))) := by
    show _ = _
    have h1 := heap_alloc_new W2 (.cells #[.int .i64 0, .int .i64 0, .int .i64 0, .int .i64 0, .slice none 0 0, .string ⟨#[]⟩] 86)
    rw [HS2.out, ← hrb] at h1
    rw [hW3]
    exact h1
  have HB3 : Hid (Below W2.heap.size W2 W3) := by show Below _ _ _; rw [hW3]; exact Below.one _ _
  rw [← hrb]
  have HNeq : Hid (rb ≠ w.heap.size ∧ rb ≠ w.heap.size + 1) := ⟨by omega, by omega⟩
  have HRb : Hid (w.heap.size ≤ rb) := by show _ ≤ _; omega
  clear hW2 hW3 hrb
  go_upto_if 17 with fail
  go_cut [0, 5, 18, 19, 20, 21, 22, 23, 24, 25, 26, 27, 28, 29, 30] (fun _ lv _ _ _ _ _ _ _ _ _ _ _ _ _ wx => ∃ (lines : List ByteArray) (sa : Option Addr) (sc : Nat), lv = .slice sa lines.length sc ∧ (lines ≠ [] → ∃ g, sa = some ⟨g, 0, none⟩ ∧ g ≠ rb ∧ ∀ i l, lines[i]? = some l → wx.cell? ⟨g, i, none⟩ = some (.string l)) ∧ Below W3.heap.size W3 wx ∧ lines.length ≤ 8001 ∧ (∀ l ∈ lines, l.size ≤ 8000) ∧ linesR lookF 0 ⟨-1, cfg0⟩ (cutBy 10 (trim (bl s))) = linesR lookF 0 ⟨-1, cfg0⟩ (lines.map bl))
  case first =>
    by_cases hs0 : s = ⟨#[]⟩
    · have HE : Hid (linesR lookF 0 ⟨-1, cfg0⟩ (cutBy 10 (trim (bl s))) = linesR lookF 0 ⟨-1, cfg0⟩ []) := by show _ = _; rw [hs0]; exact lines_nil lookF
      subst hs0
      have e3 : ((⟨#[]⟩ : ByteArray).toList.isEmpty) = true := by rw [ByteArray.toList_eq]; rfl
      simp only [e3, Bool.not_true]
      go_wp2_with fail
      go_meet
      case rel => exact ⟨[], none, 0, rfl, (fun h => absurd rfl h), Below.refl _ _, by simp, (fun l hl => by simp at hl), HE.out⟩
    · obtain ⟨e1, e2⟩ := litN (l := []) hs0
      have e3 : s.toList.isEmpty = false := by simpa using e2
      simp only [e3, Bool.not_false]
      obtain ⟨k, hk⟩ : ∃ k, s.size = k + 1 := ⟨s.size - 1, by
        have : s.size ≠ 0 := fun h => hs0 (bl_inj (List.eq_nil_of_length_eq_zero (by rw [blLen]; exact h)))
        omega⟩
      have hsz : (s.size : Int) = (k : Int) + 1 := by omega
      have k8 : k < 8000 := by have := HN.out; omega
      obtain ⟨b, hb⟩ : ∃ b, b = s[k]'(by omega) := ⟨_, rfl⟩
      have hix : ∀ W : World, (Instr.index 9 (.string s) (.int .i64 (k : Int))).run Tryz.prog W = .ok (.int .u8 (b.toNat : Int)) W := fun W => by
        rw [run_index_string W 9 s .i64 (k : Int) Tryz.underlying9, dif_pos (by omega), hb]
        rfl
      have hlst : (bl s).getLast? = some b := by
        rw [List.getLast?_eq_getElem?, blLen, hk, hb]
        simp [bl, hk]
        rfl
      have HTr : Hid (trim (bl s) = if b = 10 then (bl s).dropLast else bl s) := trim_some hlst
      have HFin : Hid (∀ (s1 : ByteArray) (V V' : World) (wl : List ByteArray) (g cap : Nat), bl s1 = trim (bl s) → Below W3.heap.size W3 V → wl.map bl = cutBy 10 (bl s1) → V'.ownsRow V.heap.size 9 1 (.slice (some ⟨g, 0, none⟩) wl.length cap) wl.length (wl.flatMap encS) → Below V.heap.size V V' → (wl ≠ [] → ∃ g', some (⟨g, 0, none⟩ : Addr) = some ⟨g', 0, none⟩ ∧ g' ≠ rb ∧ ∀ i l, wl[i]? = some l → V'.cell? ⟨g', i, none⟩ = some (.string l)) ∧ Below W3.heap.size W3 V' ∧ wl.length ≤ 8001 ∧ (∀ l ∈ wl, l.size ≤ 8000) ∧ linesR lookF 0 ⟨-1, cfg0⟩ (cutBy 10 (trim (bl s))) = linesR lookF 0 ⟨-1, cfg0⟩ (wl.map bl)) := fun s1 V V' wl g cap h1 hV h2 h3 h4 => by
        have hl1 : (bl s1).length ≤ 8000 := by
          rw [h1, HTr.out]
          have h5 : (bl s).length = s.size := blLen s
          have h6 := HN.out
          split
          · rw [List.length_dropLast]; omega
          · omega
        obtain ⟨z1, z2⟩ := cut_sizes 10 (bl s1)
        rw [← h2] at z1 z2
        refine ⟨fun _ => ⟨g, rfl, ?_, fun i l hl => own_word h3 i l hl⟩, hV.trans (h4.mono hV.size), by simp at z2; omega, fun l hl => ?_, by rw [h2, h1]⟩
        · have h9 := (World.ownsRow.lt h3 g rfl).1
          have h10 := hV.size
          have h11 := lt_of_row HR3.out
          omega
        have h7 := z1 (bl l) (List.mem_map_of_mem hl)
        have h8 := blLen l
        omega
      have HN8 : Hid (s.size ≤ 8000) := HN.out
      by_cases hb10 : b = 10
      · have u10 : (b.toNat : Int) = 10 := by rw [hb10]; rfl
        obtain ⟨s1, hs1⟩ : ∃ s1, s1 = s.extract 0 k := ⟨_, rfl⟩
        have hslc : ∀ W : World, (Instr.slice 9 (.string s) none (some (.int .i64 (k : Int))) none).run Tryz.prog W = .ok (.string s1) W := fun W => by
          rw [run_slice_string_h W 9 s Tryz.underlying9 .i64 (k : Int) (by omega) (by omega), hs1]
          rfl
        have HB1 : Hid (bl s1 = trim (bl s)) := by
          show _ = _
          rw [HTr.out, if_pos hb10, hs1, List.dropLast_eq_take, blLen, hk]
          simp [bl, ByteArray.data_extract]
        have HZ1 : Hid (s1.size ≤ 1000000) := by
          show _ ≤ _
          have h5 := blLen s1
          have h6 := HB1.out
          rw [HTr.out, if_pos hb10] at h6
          rw [← h5, h6, List.length_dropLast, blLen]
          have := HN8.out
          omega
        clear hs0 hb hb10 hlst HTr hs1 hk
        go_wp2_with (go_at_call 34; refine (cutD_at s1 10 W3 HZ1.out).mono ?_; rintro v wc ⟨wl, g, cap, rfl, h1, h2, h3⟩; have HR : Hid _ := HFin.out s1 W3 wc wl g cap HB1.out (Below.refl _ _) h1 h2 h3; clear h1 h2 h3)
        go_meet
        case rel => exact ⟨wl, _, _, rfl, HR.out⟩
      · have u10 : ¬ (b.toNat : Int) = 10 := fun h => hb10 (by
          apply UInt8.toNat.inj
          show b.toNat = 10
          omega)
        have HB1 : Hid (bl s = trim (bl s)) := by show _ = _; rw [HTr.out, if_neg hb10]
        have HZ1 : Hid (s.size ≤ 1000000) := by show _ ≤ _; have := HN8.out; omega
        clear hs0 hb hb10 hlst HTr hk
        go_wp2_with (go_at_call 34; refine (cutD_at s 10 W3 HZ1.out).mono ?_; rintro v wc ⟨wl, g, cap, rfl, h1, h2, h3⟩; have HR : Hid _ := HFin.out s W3 wc wl g cap HB1.out (Below.refl _ _) h1 h2 h3; clear h1 h2 h3)
        go_meet
        case rel => exact ⟨wl, _, _, rfl, HR.out⟩
  obtain ⟨lines, sa, sc, rfl, hL4, hb4, hl4, hz4, hE4⟩ := hcut
  rename World => W4
  have HL4 : Hid (∀ V, BlX rb W4 V → ∀ k l, lines[k]? = some l → ∃ g, sa = some ⟨g, 0, none⟩ ∧ V.cell? ⟨g, k, none⟩ = some (.string l)) := fun V hV k l hl => by
    obtain ⟨g, h1, h2, h3⟩ := hL4 (fun e => by rw [e] at hl; simp at hl)
    exact ⟨g, h1, blx_cell hV (h3 k l hl) h2⟩
  have HN4 : Hid (lines.length ≤ 8001 ∧ ∀ l ∈ lines, l.size ≤ 8000) := ⟨hl4, hz4⟩
  have HRd : Hid (readR lookF (bl s) = if (linesR lookF 0 ⟨-1, cfg0⟩ (lines.map bl)).1.1 = 0 then (if (cfgErr (linesR lookF 0 ⟨-1, cfg0⟩ (lines.map bl)).2.cfg).1 = 0 then ((0, -1), (linesR lookF 0 ⟨-1, cfg0⟩ (lines.map bl)).2.cfg) else (cfgErr (linesR lookF 0 ⟨-1, cfg0⟩ (lines.map bl)).2.cfg, cfg0)) else ((linesR lookF 0 ⟨-1, cfg0⟩ (lines.map bl)).1, cfg0)) := readR_lines (by rw [blLen]; exact HN.out) hE4
  have HB4 : Hid (Below W2.heap.size W2 W4) := HB3.out.trans (hb4.mono HB3.out.size)
  have HD4 : Hid (DrS W4.heap.size rb W4 cfg0 (lwOf (-1))) := Or.inl ⟨Or.inl rfl, rfl, row_below hb4 HR3.out⟩
  have HCx : Hid (∀ V, BlX rb W4 V → V.heap[w.heap.size]? = some (.cells #[.int .i64 0, .int .i64 0, .int .i64 0, .int .i64 0, .slice none 0 0] 24 (0, 0))) := fun V hV => blx_row hV (HCr.out W4 HB4.out) (fun e => HNeq.out.1 e.symm)
  have HFx : Hid (∀ V, BlX rb W4 V → V.heap[w.heap.size + 1]? = some (.cells #[.int .i64 0, .int .i64 0] 28 (0, 0))) := fun V hV => blx_row hV (HFr.out W4 HB4.out) (fun e => HNeq.out.2 e.symm)
  have HBx : Hid (∀ V, BlX rb W4 V → Below w.heap.size w V) := fun V hV => by
    have h1 := HB2.out.trans (HB4.out.mono HB2.out.size)
    exact h1.grown hV h1.size (fun i hi => by cases hi; have := HRb.out; omega)
  clear hL4 hb4 hl4 hz4 hE4 HB3 HR3 g1 HB4 HB2 HCr HFr
  have HBad : Hid (∀ V, BlX rb W4 V → ∀ code place : Int, ((V.setRow w.heap.size #[.int .i64 0, .int .i64 0, .int .i64 0, .int .i64 0, .slice none 0 0]).setRow (w.heap.size + 1) #[.int .i64 code, .int .i64 place]).heap[w.heap.size]? = some (.cells #[.int .i64 0, .int .i64 0, .int .i64 0, .int .i64 0, .slice none 0 0] 24 (0, 0)) ∧ ((V.setRow w.heap.size #[.int .i64 0, .int .i64 0, .int .i64 0, .int .i64 0, .slice none 0 0]).setRow (w.heap.size + 1) #[.int .i64 code, .int .i64 place]).heap[w.heap.size + 1]? = some (.cells #[.int .i64 code, .int .i64 place] 28 (0, 0)) ∧ Below w.heap.size w ((V.setRow w.heap.size #[.int .i64 0, .int .i64 0, .int .i64 0, .int .i64 0, .slice none 0 0]).setRow (w.heap.size + 1) #[.int .i64 code, .int .i64 place])) := fun V hV code place => by
    have h1 := heap_setRow (w := V) #[.int .i64 0, .int .i64 0, .int .i64 0, .int .i64 0, .slice none 0 0] (HCx.out V hV)
    have g1 := grown_setRow V w.heap.size #[.int .i64 0, .int .i64 0, .int .i64 0, .int .i64 0, .slice none 0 0]
    have h2 : (V.setRow w.heap.size #[.int .i64 0, .int .i64 0, .int .i64 0, .int .i64 0, .slice none 0 0]).heap[w.heap.size + 1]? = some (.cells #[.int .i64 0, .int .i64 0] 28 (0, 0)) := (g1.block _ (lt_of_row (HFx.out V hV)) (by simp)).trans (HFx.out V hV)
    have g2 := grown_setRow (V.setRow w.heap.size #[.int .i64 0, .int .i64 0, .int .i64 0, .int .i64 0, .slice none 0 0]) (w.heap.size + 1) #[.int .i64 code, .int .i64 place]
    have b1 := HBx.out V hV
    have b2 := b1.grown g1 b1.size (fun i hi => by cases hi; exact Nat.le_refl _)
    exact ⟨(g2.block _ (lt_of_row h1) (by simp)).trans h1, heap_setRow _ h2, b2.grown g2 b2.size (fun i hi => by cases hi; omega)⟩
  have HFz : Hid (∀ V, BlX rb W4 V → (V.setRow w.heap.size #[.int .i64 0, .int .i64 0, .int .i64 0, .int .i64 0, .slice none 0 0]).heap[w.heap.size + 1]? = some (.cells #[.int .i64 0, .int .i64 0] 28 (0, 0))) := fun V hV => ((grown_setRow V w.heap.size #[.int .i64 0, .int .i64 0, .int .i64 0, .int .i64 0, .slice none 0 0]).block _ (lt_of_row (HFx.out V hV)) (by simp)).trans (HFx.out V hV)
  go_upto_region 9 with fail
  go_cut [6] (fun i wx => i = .int .i64 0 ∧ wx = W4)
  case first =>
    go_wp2_with fail
    go_meet
    case rel => exact ⟨rfl, rfl⟩
  obtain ⟨rfl, rfl⟩ := hcut
  rename World => W4
  go_wp2_with fail
  go_loopw [6, 7] (fun iv _ wr => ∃ (k : Nat) (st : RS), k ≤ lines.length ∧ iv = .int .i64 k ∧ BlX rb W4 wr ∧ DrS W4.heap.size rb wr st.cfg (lwOf st.last) ∧ (-1 ≤ st.last ∧ st.last ≤ 9) ∧ StOk k st.cfg st.last ∧ (∀ e ∈ st.cfg.ents, SmE e) ∧ linesR lookF 0 ⟨-1, cfg0⟩ (lines.map bl) = linesR lookF k st ((lines.drop k).map bl)) (fun i _ _ => lines.length - (intOf i).toNat)
  case atStart => exact ⟨0, ⟨-1, cfg0⟩, Nat.zero_le _, rfl, BlX.refl _ _, HD4.out, ⟨by decide, by decide⟩, ⟨fun _ => rfl, fun h => by simp at h, Nat.le_refl _, fun e he => by simp [cfg0] at he⟩, fun e he => by simp [cfg0] at he, rfl⟩
  case round =>
    clear HD4
    obtain ⟨k, st, hk, rfl, hbk, hdk, hlk, hok, hsm, hln⟩ := hrel
    have HB : Hid (BlX rb W4 wr) := hbk
    have HD : Hid (DrS W4.heap.size rb wr st.cfg (lwOf st.last)) := hdk
    have HLs : Hid (-1 ≤ st.last ∧ st.last ≤ 9) := hlk
    have HO : Hid (StOk k st.cfg st.last ∧ ∀ e ∈ st.cfg.ents, SmE e) := ⟨hok, hsm⟩
    have HLn : Hid (linesR lookF 0 ⟨-1, cfg0⟩ (lines.map bl) = linesR lookF k st ((lines.drop k).map bl)) := hln
    clear hbk hdk hlk hok hsm hln
    by_cases hlt : k < lines.length
    · have k1 : (k : Int) < (lines.length : Int) := by omega
      have k2 : k < 8001 := by have := HN4.out.1; omega
      obtain ⟨l, hl⟩ : ∃ l, lines[k]? = some l := ⟨_, List.getElem?_eq_getElem hlt⟩
      have HLz : Hid (l.size ≤ 8000) := HN4.out.2 l (List.mem_of_getElem? hl)
      have HDr : Hid ((lines.drop k).map bl = bl l :: (lines.drop (k + 1)).map bl) := by
        show _ = _
        rw [List.drop_eq_getElem_cons hlt]
        rw [List.getElem?_eq_getElem hlt] at hl
        cases hl; rfl
      obtain ⟨g, rfl, c0⟩ := HL4.out wr HB.out k l hl
      clear hl
      go_wp2_with fail
      refine (lineD_at W4 wr rb st.cfg st.last l HB.out HD.out (by have := HLz.out; omega) HLs.out.1 HLs.out.2 ⟨HO.out.1.e0, HO.out.1.e3, Nat.le_trans HO.out.1.len (by omega), fun e he => (HO.out.1.sz e he).mono (by omega)⟩).mono ?_
      rintro v w5 ⟨rfl, hb5, hd5⟩
      have HB5 : Hid (BlX rb W4 w5) := hb5
      have HD5 : Hid _ := hd5
      clear hb5 hd5 c0 HD HB
      by_cases h0 : (lineR lookF ⟨st.last, st.cfg⟩ (bl l)).1 = 0
      · have HC : Hid ((lineR lookF ⟨st.last, st.cfg⟩ (bl l)).1 = 0) := h0
        rw [h0]
        clear h0
        go_wp2_with fail
        go_roundw
        case rel =>
          have hll : (bl l).length ≤ 1000000 := by have := HLz.out; rw [blLen]; omega
          obtain ⟨s1, s2⟩ := stOk_step HO.out.1 HO.out.2 hll HC.out
          obtain ⟨d1, d2⟩ := HD5.out HC.out
          exact ⟨k + 1, (lineR lookF ⟨st.last, st.cfg⟩ (bl l)).2, by omega, by go_num, HB5.out, d1, d2, s1, s2, by rw [HLn.out, HDr.out, linesR_go HC.out]⟩
        case measure => simp [intOf]; omega
      · obtain ⟨j, hj⟩ : ∃ j, j = (lineR lookF ⟨st.last, st.cfg⟩ (bl l)).1 := ⟨_, rfl⟩
        have HE : Hid (readR lookF (bl s) = ((j, (k : Int)), cfg0)) := by
          show _ = _
          have h1 : linesR lookF 0 ⟨-1, cfg0⟩ (lines.map bl) = ((j, (k : Int)), st) := by rw [HLn.out, HDr.out, linesR_stop h0, ← hj]
          rw [HRd.out, h1, if_neg (by show ¬ j = 0; rw [hj]; exact h0)]
        have g0 : (0 : Int) < (j : Int) := by omega
        rw [← hj]
        clear h0 hj HD5
        have HR5 := HCx.out w5 HB5.out
        have HF5 := HFz.out w5 HB5.out
        go_wp2_with (first | (refine wpList_store_row rfl 24 _ _ rfl w.heap.size #[.int .i64 0, .int .i64 0, .int .i64 0, .int .i64 0, .slice none 0 0] rfl rfl 24 #[.int .i64 0, .int .i64 0, .int .i64 0, .int .i64 0, .slice none 0 0] HR5 Tryz.sizeCfg rfl (by simp [Value.oneCell']) ?_) | (refine wpList_store_row rfl 28 _ _ rfl (w.heap.size + 1) #[.int .i64 (j : Int), .int .i64 (k : Int)] rfl rfl 28 #[.int .i64 0, .int .i64 0] HF5 Tryz.sizeFlt rfl (by simp [Value.oneCell']) ?_))
        obtain ⟨z1, z2, z3⟩ := HBad.out w5 HB5.out (j : Int) (k : Int)
        refine bodyPost_ret (results_two rfl _ _ w.heap.size (w.heap.size + 1) _ _ _ _ _ _ _ rfl rfl z1 z2) rfl ?_
        exact ⟨cfg0, .slice none 0 0, (j : Int), (k : Int), rfl, z3, by rw [HE.out], by rw [HE.out], fun _ => by rw [HE.out], 0, EntsOwn.nil _ _⟩
    · have k1 : ¬ (k : Int) < (lines.length : Int) := by omega
      obtain rfl : k = lines.length := by omega
      have HLe : Hid (linesR lookF 0 ⟨-1, cfg0⟩ (lines.map bl) = linesR lookF lines.length st []) := by show _ = _; have := HLn.out; rw [List.drop_length] at this; exact this
      obtain ⟨ev, cells, hV⟩ := HD.out.view
      have HV : Hid (DrV W4.heap.size rb wr st.cfg (lwOf st.last) ev cells) := hV
      have r5 : wr.cell? ⟨rb, 5, none⟩ = some (.string (lwOf st.last)) := by have := hV.row; simp [World.cell?, this, drRow]
      clear hV HLn HD
      by_cases h2 : st.last < 2
      · have HE : Hid (readR lookF (bl s) = ((1, (lines.length : Int)), cfg0)) := by
          show _ = _
          have h1 : linesR lookF 0 ⟨-1, cfg0⟩ (lines.map bl) = ((1, (lines.length : Int)), st) := by rw [HLe.out, linesR, if_pos h2]
          rw [HRd.out, h1]
          exact if_neg (by simp)
        have HR5 := HCx.out wr HB.out
        have HF5 := HFz.out wr HB.out
        obtain ⟨z1, z2, z3⟩ := HBad.out wr HB.out 1 (lines.length : Int)
        have HZ : Hid _ := And.intro z1 (And.intro z2 z3)
        have hl3 : st.last = -1 ∨ st.last = 0 ∨ st.last = 1 := by have := HLs.out; omega
        clear z1 z2 z3 h2
        rcases hl3 with h | h | h
        · have r6 : wr.cell? ⟨rb, 5, none⟩ = some (.string ⟨#[]⟩) := by rw [r5, h]; rfl
          clear r5 h
          go_wp2_with (first | (refine wpList_store_row rfl 24 _ _ rfl w.heap.size #[.int .i64 0, .int .i64 0, .int .i64 0, .int .i64 0, .slice none 0 0] rfl rfl 24 #[.int .i64 0, .int .i64 0, .int .i64 0, .int .i64 0, .slice none 0 0] HR5 Tryz.sizeCfg rfl (by simp [Value.oneCell']) ?_) | (refine wpList_store_row rfl 28 _ _ rfl (w.heap.size + 1) #[.int .i64 1, .int .i64 (lines.length : Int)] rfl rfl 28 #[.int .i64 0, .int .i64 0] HF5 Tryz.sizeFlt rfl (by simp [Value.oneCell']) ?_))
          refine bodyPost_ret (results_two rfl _ _ w.heap.size (w.heap.size + 1) _ _ _ _ _ _ _ rfl rfl HZ.out.1 HZ.out.2.1) rfl ?_
          exact ⟨cfg0, .slice none 0 0, 1, (lines.length : Int), rfl, HZ.out.2.2, by rw [HE.out], by rw [HE.out]; rfl, fun _ => by rw [HE.out], 0, EntsOwn.nil _ _⟩
        · have r6 : wr.cell? ⟨rb, 5, none⟩ = some (.string ⟨#[119, 105, 110, 100, 111, 119]⟩) := by rw [r5, h]; rfl
          clear r5 h
          go_wp2_with (first | (refine wpList_store_row rfl 24 _ _ rfl w.heap.size #[.int .i64 0, .int .i64 0, .int .i64 0, .int .i64 0, .slice none 0 0] rfl rfl 24 #[.int .i64 0, .int .i64 0, .int .i64 0, .int .i64 0, .slice none 0 0] HR5 Tryz.sizeCfg rfl (by simp [Value.oneCell']) ?_) | (refine wpList_store_row rfl 28 _ _ rfl (w.heap.size + 1) #[.int .i64 1, .int .i64 (lines.length : Int)] rfl rfl 28 #[.int .i64 0, .int .i64 0] HF5 Tryz.sizeFlt rfl (by simp [Value.oneCell']) ?_))
          refine bodyPost_ret (results_two rfl _ _ w.heap.size (w.heap.size + 1) _ _ _ _ _ _ _ rfl rfl HZ.out.1 HZ.out.2.1) rfl ?_
          exact ⟨cfg0, .slice none 0 0, 1, (lines.length : Int), rfl, HZ.out.2.2, by rw [HE.out], by rw [HE.out]; rfl, fun _ => by rw [HE.out], 0, EntsOwn.nil _ _⟩
        · have r6 : wr.cell? ⟨rb, 5, none⟩ = some (.string ⟨#[99, 121, 99, 108, 101]⟩) := by rw [r5, h]; rfl
          clear r5 h
          go_wp2_with (first | (refine wpList_store_row rfl 24 _ _ rfl w.heap.size #[.int .i64 0, .int .i64 0, .int .i64 0, .int .i64 0, .slice none 0 0] rfl rfl 24 #[.int .i64 0, .int .i64 0, .int .i64 0, .int .i64 0, .slice none 0 0] HR5 Tryz.sizeCfg rfl (by simp [Value.oneCell']) ?_) | (refine wpList_store_row rfl 28 _ _ rfl (w.heap.size + 1) #[.int .i64 1, .int .i64 (lines.length : Int)] rfl rfl 28 #[.int .i64 0, .int .i64 0] HF5 Tryz.sizeFlt rfl (by simp [Value.oneCell']) ?_))
          refine bodyPost_ret (results_two rfl _ _ w.heap.size (w.heap.size + 1) _ _ _ _ _ _ _ rfl rfl HZ.out.1 HZ.out.2.1) rfl ?_
          exact ⟨cfg0, .slice none 0 0, 1, (lines.length : Int), rfl, HZ.out.2.2, by rw [HE.out], by rw [HE.out]; rfl, fun _ => by rw [HE.out], 0, EntsOwn.nil _ _⟩
      · have HE : Hid (linesR lookF 0 ⟨-1, cfg0⟩ (lines.map bl) = ((0, -1), st)) := by show _ = _; rw [HLe.out, linesR, if_neg h2]
        have hSm : SmallC st.cfg := ⟨Nat.le_trans HO.out.1.len (by have := HN4.out.1; omega), fun e he => by
          obtain ⟨a, b⟩ := HO.out.2 e he
          have sz := (HO.out.1.sz e he).mono (m := 1000000) (by have := HN4.out.1; omega)
          exact ⟨a, sz.p, b, sz.g, sz.d, sz.f, sz.l⟩⟩
        have HSm : Hid (SmallC st.cfg) := hSm
        have m0 : ¬ lwOf st.last = ⟨#[]⟩ := fun h => by have := (lwOf_empty HLs.out.2).1 h; omega
        have m1 : ¬ lwOf st.last = kwB 0 := fun h => by have := (lwOf_kw HLs.out.2 (by decide)).1 h; omega
        have m2 : ¬ lwOf st.last = kwB 1 := fun h => by have := (lwOf_kw HLs.out.2 (by decide)).1 h; omega
        obtain ⟨va, vc, rfl⟩ := own_form HV.out.ents
        have hrow := HV.out.row
        obtain ⟨lw, hlw⟩ : ∃ lw, lw = lwOf st.last := ⟨_, rfl⟩
        rw [← hlw] at m0 m1 m2 r5 hrow
        obtain ⟨a1, a2⟩ := litN (l := []) m0
        obtain ⟨b1, b2⟩ := litN (l := [119, 105, 110, 100, 111, 119]) m1
        obtain ⟨d1, d2⟩ := litN (l := [99, 121, 99, 108, 101]) m2
        have a3 : lw.toList.isEmpty = false := by simpa using a2
        have HRr : Hid (∀ V, Below wr.heap.size wr V → V.cell? ⟨rb, 0, none⟩ = some (.int .i64 st.cfg.closed) ∧ V.cell? ⟨rb, 1, none⟩ = some (.int .i64 st.cfg.opn) ∧ V.cell? ⟨rb, 2, none⟩ = some (.int .i64 st.cfg.cycle) ∧ V.cell? ⟨rb, 3, none⟩ = some (.int .i64 st.cfg.delay) ∧ V.cell? ⟨rb, 4, none⟩ = some (.slice va st.cfg.ents.length vc)) := fun V hV => by
          have := row_below hV hrow
          exact ⟨by simp [World.cell?, this, drRow], by simp [World.cell?, this, drRow], by simp [World.cell?, this, drRow], by simp [World.cell?, this, drRow], by simp [World.cell?, this, drRow]⟩
        obtain ⟨r0, r1, r2, r3, r4⟩ := HRr.out wr (Below.refl _ _)
        have HCf : Hid _ := cfault_at st.cfg va vc wr HV.out.entsOwn.ents hSm
        clear hlw hrow hSm m0 m1 m2 h2
        obtain ⟨code, hcode⟩ : ∃ x : Int, x = ((cfgErr st.cfg).1 : Int) := ⟨_, rfl⟩
        obtain ⟨place, hplace⟩ : ∃ x : Int, x = (cfgErr st.cfg).2 := ⟨_, rfl⟩
        rw [← hcode, ← hplace] at HCf
        have HCd : Hid (code = ((cfgErr st.cfg).1 : Int) ∧ place = (cfgErr st.cfg).2) := ⟨hcode, hplace⟩
        clear hcode hplace
        go_wp2_with fail
        refine Calls.mono HCf.out ?_
        rintro v w6 ⟨rfl, hb6⟩
        have HB6 : Hid (Below wr.heap.size wr w6) := hb6
        clear hb6 HCf r0 r1 r2 r3 r4 r5 a1 a2 a3 b1 b2 d1 d2
        go_upto_region 18 with fail
        obtain ⟨V, hV⟩ : ∃ V, V = w6.alloc (.cells #[.int .i64 code, .int .i64 place] 28) := ⟨_, rfl⟩
        rw [← hV]
        obtain ⟨fb, hfb⟩ : ∃ b, b = w6.heap.size := ⟨_, rfl⟩
        rw [← hfb]
        have HBv : Hid (Below wr.heap.size wr V) := by show Below _ _ _; rw [hV]; exact HB6.out.alloc HB6.out.size _
        have hrv : V.heap[fb]? = some (.cells #[.int .i64 code, .int .i64 place] 28 (0, 0)) := by rw [hV, hfb]; exact heap_alloc_new w6 _
        have HW : Hid (OfW w W4.heap.size (.slice va st.cfg.ents.length vc) st.cfg.ents #[.int .i64 0, .int .i64 0, .int .i64 0, .int .i64 0, .slice none 0 0] #[.int .i64 0, .int .i64 0] V) := ⟨row_below HBv.out (HCx.out wr HB.out), row_below HBv.out (HFx.out wr HB.out), (HBx.out wr HB.out).trans (HBv.out.mono (HBx.out wr HB.out).size), HV.out.entsOwn.below HBv.out⟩
        have nf0 : ¬ fb = w.heap.size := by have := lt_of_row (HCx.out wr HB.out); have := HB6.out.size; omega
        have nf1 : ¬ fb = w.heap.size + 1 := by have := lt_of_row (HFx.out wr HB.out); have := HB6.out.size; omega
        have nr0 : ¬ rb = w.heap.size := HNeq.out.1
        have nr1 : ¬ rb = w.heap.size + 1 := HNeq.out.2
        have nf0' : ¬ w.heap.size = fb := fun h => nf0 h.symm
        have nf1' : ¬ w.heap.size + 1 = fb := fun h => nf1 h.symm
        have nr0' : ¬ w.heap.size = rb := fun h => nr0 h.symm
        have nr1' : ¬ w.heap.size + 1 = rb := fun h => nr1 h.symm
        have t0 : V.cell? ⟨fb, 0, none⟩ = some (.int .i64 code) := by simp [World.cell?, hrv]
        have t1 : V.cell? ⟨fb, 1, none⟩ = some (.int .i64 place) := by simp [World.cell?, hrv]
        have q0 : V.cell? ⟨w.heap.size, 0, none⟩ = some (.int .i64 0) := by have := HW.out.c; simp [World.cell?, this]
        have qf0 : V.frozen? ⟨w.heap.size, 0, none⟩ = false := by have := HW.out.c; simp [World.frozen?, this]
        have q1 : V.cell? ⟨w.heap.size, 1, none⟩ = some (.int .i64 0) := by have := HW.out.c; simp [World.cell?, this]
        have qf1 : V.frozen? ⟨w.heap.size, 1, none⟩ = false := by have := HW.out.c; simp [World.frozen?, this]
        have q2 : V.cell? ⟨w.heap.size, 2, none⟩ = some (.int .i64 0) := by have := HW.out.c; simp [World.cell?, this]
        have qf2 : V.frozen? ⟨w.heap.size, 2, none⟩ = false := by have := HW.out.c; simp [World.frozen?, this]
        have q3 : V.cell? ⟨w.heap.size, 3, none⟩ = some (.int .i64 0) := by have := HW.out.c; simp [World.cell?, this]
        have qf3 : V.frozen? ⟨w.heap.size, 3, none⟩ = false := by have := HW.out.c; simp [World.frozen?, this]
        have q4 : V.cell? ⟨w.heap.size, 4, none⟩ = some (.slice none 0 0) := by have := HW.out.c; simp [World.cell?, this]
        have qf4 : V.frozen? ⟨w.heap.size, 4, none⟩ = false := by have := HW.out.c; simp [World.frozen?, this]
        have p0 : V.cell? ⟨w.heap.size + 1, 0, none⟩ = some (.int .i64 0) := by have := HW.out.f; simp [World.cell?, this]
        have p1 : V.cell? ⟨w.heap.size + 1, 1, none⟩ = some (.int .i64 0) := by have := HW.out.f; simp [World.cell?, this]
        have pf0 : V.frozen? ⟨w.heap.size + 1, 0, none⟩ = false := by have := HW.out.f; simp [World.frozen?, this]
        have pf1 : V.frozen? ⟨w.heap.size + 1, 1, none⟩ = false := by have := HW.out.f; simp [World.frozen?, this]
        obtain ⟨r0, r1, r2, r3, r4⟩ := HRr.out V HBv.out
        clear hV hfb hrv
        by_cases h0 : (cfgErr st.cfg).1 = 0
        · have HEd : Hid (readR lookF (bl s) = ((0, -1), st.cfg)) := by show _ = _; rw [HRd.out, HE.out, if_pos rfl, if_pos h0]
          have g0 : ¬ (0 : Int) < code := by have := HCd.out.1; omega
          have HC0 : Hid (code = 0) := by show _ = _; have := HCd.out.1; omega
          clear h0
          go_wp2_with fail
          go_region
          all_goals
            go_wp2_with fail
            have hz := ((((((((HW.out.setC 0 (.int .i64 st.cfg.closed)).setC 1 (.int .i64 st.cfg.opn)).setC 2 (.int .i64 st.cfg.cycle)).setC 3 (.int .i64 st.cfg.delay)).setC 4 (.slice va st.cfg.ents.length vc)).setF 0 (.int .i64 code)).setF 1 (.int .i64 place)).drew)
            refine bodyPost_ret (results_two rfl _ _ w.heap.size (w.heap.size + 1) _ _ _ _ _ _ _ rfl rfl hz.c hz.f) rfl ?_
            exact ⟨st.cfg, .slice va st.cfg.ents.length vc, code, place, rfl, hz.bel, by rw [HEd.out], by rw [HEd.out]; exact HC0.out, fun h => absurd HC0.out h, _, hz.own⟩
        · have HEd : Hid (readR lookF (bl s) = (cfgErr st.cfg, cfg0)) := by show _ = _; rw [HRd.out, HE.out, if_pos rfl, if_neg h0]
          have g0 : (0 : Int) < code := by have := HCd.out.1; omega
          clear h0
          go_wp2_with fail
          go_region
          all_goals
            go_wp2_with fail
            have hz := ((((((((HW.out.setC 0 (.int .i64 0)).setC 1 (.int .i64 0)).setC 2 (.int .i64 0)).setC 3 (.int .i64 0)).setC 4 (.slice none 0 0)).setF 0 (.int .i64 code)).setF 1 (.int .i64 place)).drew)
            refine bodyPost_ret (results_two rfl _ _ w.heap.size (w.heap.size + 1) _ _ _ _ _ _ _ rfl rfl hz.c hz.f) rfl ?_
            exact ⟨cfg0, .slice none 0 0, code, place, rfl, hz.bel, by rw [HEd.out], by rw [HEd.out]; exact HCd.out.1, fun _ => by rw [HEd.out]; exact HCd.out.2, 0, EntsOwn.nil _ _⟩
end Go.Proofs.YtbholbenjalliaaGreatDoor
