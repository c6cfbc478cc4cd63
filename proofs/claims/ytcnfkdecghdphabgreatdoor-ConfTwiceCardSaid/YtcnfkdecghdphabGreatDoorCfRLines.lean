/-
  conf.readLines by a contract: 'linesR'. Conditions: the lines lie in memory, at most a hundred thousand of at most a million bytes.
-/
import Derived.Test.YtcnfkdecghdphabGreatDoorCfRStep
import Derived.BigRegion
namespace Go.Proofs.YtcnfkdecghdphabGreatDoor
open Go.RowKit Go.Extern.Stop Go.Stop Go.Extern Go.Maps

/-- The result's box is written. -/
theorem RdA.other {B rb b : Nat} {w w' : World} {c : CfgD} {last : Int} {ev mv : Value} {es : List EntD} {cells : List Value} (h : RdA B rb w c last ev mv es cells) (hg : w.grownBy w' (some b)) {cs : Array Value} {fr : Nat × Nat} (hb : w.heap[b]? = some (.cells cs 25 fr)) (hne : rb ≠ b) : RdA B rb w' c last ev mv es cells :=
  ⟨h.lo, (hg.block rb (lt_of_row h.row) (by simpa using hne)).trans h.row, h.ents.kept hg (Or.inr (own_ne h.ents hb (by decide))), fun i e he => by
    obtain ⟨x, a, b', d⟩ := h.olds i e he
    exact ⟨x, a.other hg hb (by decide) (by decide) (by decide) (by decide), b'.mono hg.size, d⟩⟩
/-- The config that is told: none, if there is an error. -/
def cfgOf (R : (Nat × Int) × RS) : CfgD := if R.1.1 = 0 then R.2.cfg else cfg0
theorem linesR_stop {look : Look} {k : Nat} {st : RS} {l : Bs} {ls : List Bs} (h : (lineR look st l).1 ≠ 0) : linesR look k st (l :: ls) = (((lineR look st l).1, (k : Int)), st) := by rw [linesR, if_neg h]
theorem linesR_go {look : Look} {k : Nat} {st : RS} {l : Bs} {ls : List Bs} (h : (lineR look st l).1 = 0) : linesR look k st (l :: ls) = linesR look (k + 1) (lineR look st l).2 ls := by rw [linesR, if_pos h]
theorem entsOwn_nil (w : World) : ∃ B', EntsOwn B' w (.slice none 0 0) cfg0.ents := ⟨0, EntsOwn.nil _ _⟩
theorem smallC_0 : SmallC cfg0 := ⟨by decide, fun e he => by simp [cfg0] at he⟩
/-- An error's end. -/
theorem fault_end {A : Nat → Addr} {w W : World} {R : (Nat × Int) × RS} {st : RS} {j fb : Nat} {k : Int} (hE : R = ((j + 1, k), st)) (hj : j + 1 ≤ 11) (hb : Below w.heap.size w W) (hrow : W.heap[fb]? = some (.cells #[.int .i64 k, errV A (j + 1)] 67 (0, 0))) :
    ∃ c sv ev, Ending.returned (.tuple #[.agg #[.int .i64 0, .int .i64 0, .int .i64 0, .int .i64 0, .slice none 0 0], .iface 65 (.pointer (some ⟨fb, 0, none⟩))]) = .returned (.tuple #[.agg #[.int .i64 c.closed, .int .i64 c.opn, .int .i64 c.cycle, .int .i64 c.delay, sv], ev]) ∧ Below w.heap.size w W ∧ c = cfgOf R ∧ (∃ B', EntsOwn B' W sv c.ents) ∧ ErrAt A W ev R.1 ∧ SmallC c := by
  subst hE
  refine ⟨cfg0, .slice none 0 0, _, rfl, hb, by unfold cfgOf; rw [if_neg (by simp)], entsOwn_nil _, ⟨hj, Or.inr ⟨by simp, fb, rfl, ?_, ?_⟩⟩, smallC_0⟩
  · unfold World.cell?
    simp only
    rw [hrow]
    rfl
  · unfold World.cell?
    simp only
    rw [hrow]
    rfl
theorem fault_row {w w5 : World} {o : Obj} (cs : Array Value) (hb : Below w.heap.size w w5) (hlt : w.heap.size < w5.heap.size) : Below w.heap.size w ((w5.alloc o).setRow w.heap.size cs) ∧ ((w5.alloc o).setRow w.heap.size cs).heap[w5.heap.size]? = some o := by
  have hg := grown_setRow (w5.alloc o) w.heap.size cs
  have b1 : Below w.heap.size w (w5.alloc o) := hb.alloc (by omega) _
  exact ⟨b1.grown hg b1.size (fun i hi => by cases hi; exact Nat.le_refl _), (hg.block w5.heap.size (by simp) (by simp; omega)).trans (heap_alloc_new w5 _)⟩
theorem five_same {V : World} {b : Nat} (h : V.heap[b]? = some (.cells #[.int .i64 0, .int .i64 0, .int .i64 0, .int .i64 0, .slice none 0 0] 25 (0, 0))) :
    ((((V.setCell ⟨b, 0, none⟩ (.int .i64 0)).setCell ⟨b, 1, none⟩ (.int .i64 0)).setCell ⟨b, 2, none⟩ (.int .i64 0)).setCell ⟨b, 3, none⟩ (.int .i64 0)).setCell ⟨b, 4, none⟩ (.slice none 0 0) = V := by
  rw [setCell_same (o := 0) (by simp [World.cell?, h]), setCell_same (o := 1) (by simp [World.cell?, h]), setCell_same (o := 2) (by simp [World.cell?, h]), setCell_same (o := 3) (by simp [World.cell?, h]), setCell_same (o := 4) (by simp [World.cell?, h])]
set_option maxHeartbeats 8000000 in
set_option maxRecDepth 100000 in
theorem lines_at (A : Nat → Addr) (w : World) (sa : Option Addr) (lines : List ByteArray) (sc : Nat) (hs : Sen6 A w) (hK : KwAt w) (hM : MxAt w) (hL : SlAt encS 1 w (.slice sa lines.length sc) lines) (hn : lines.length ≤ 100000) (hz : ∀ l ∈ lines, l.size ≤ 1000000) :
    Calls Tryz.prog 14 #[.slice sa lines.length sc] w fun v w' => ∃ c sv ev, v = .returned (.tuple #[.agg #[.int .i64 c.closed, .int .i64 c.opn, .int .i64 c.cycle, .int .i64 c.delay, sv], ev]) ∧ Below w.heap.size w w' ∧ c = cfgOf (linesR lookL 0 ⟨-1, cfg0⟩ (lines.map bl)) ∧ (∃ B', EntsOwn B' w' sv c.ents) ∧ ErrAt A w' ev (linesR lookL 0 ⟨-1, cfg0⟩ (lines.map bl)).1 ∧ SmallC c := by
  have HL : Hid (SlAt encS 1 w (.slice sa lines.length sc) lines) := hL
  have HN : Hid (lines.length ≤ 100000 ∧ ∀ l ∈ lines, l.size ≤ 1000000) := ⟨hn, hz⟩
  obtain ⟨Wc, hWc⟩ : ∃ V, V = w.alloc (.cells #[.int .i64 0, .int .i64 0, .int .i64 0, .int .i64 0, .slice none 0 0] 25) := ⟨_, rfl⟩
  have HBc : Hid (Below w.heap.size w Wc) := by show Below _ _ _; rw [hWc]; exact Below.one _ _
  have HSz : Hid (Wc.heap.size = w.heap.size + 1) := by show _ = _; rw [hWc]; simp
  have HCr : Hid (Wc.heap[w.heap.size]? = some (.cells #[.int .i64 0, .int .i64 0, .int .i64 0, .int .i64 0, .slice none 0 0] 25 (0, 0))) := by show _ = _; rw [hWc]; exact heap_alloc_new w _
  have HS : Hid (Sen6 A Wc ∧ KwAt Wc ∧ MxAt Wc) := ⟨hs.below HBc.out, hK.below HBc.out (block_lt (hK 0 (by decide))), hM.below HBc.out⟩
  have HW0 : Hid (Sen6 A w) := hs
  clear hs hK hM hL hn hz
  go_enter Tryz.func14, Tryz.ntmps14
  go_upto_region 2 with fail
  rw [← hWc]
  obtain ⟨Wr, hWr⟩ : ∃ V, V = Wc.alloc (.cells #[.int .i64 0, .int .i64 0, .int .i64 0, .int .i64 0, .slice none 0 0, .int .i64 (-1), .map none] 74) := ⟨_, rfl⟩
  rw [← hWr]
  obtain ⟨rb, hrb⟩ : ∃ rb, rb = w.heap.size + 1 := ⟨_, rfl⟩
  have HRb : Hid (rb = Wc.heap.size ∧ rb ≠ w.heap.size) := ⟨by rw [hrb, HSz.out], by omega⟩
  have HB0 : Hid (Below Wc.heap.size Wc Wr) := by show Below _ _ _; rw [hWr]; exact Below.one _ _
  have HR0 : Hid (RdS Wc.heap.size rb Wr cfg0 (-1)) := Or.inl ⟨by rw [HRb.out.1]; exact Nat.le_refl _, rfl, by rw [HRb.out.1, hWr]; exact heap_alloc_new Wc _⟩
  rw [← hrb]
  clear hWc hWr hrb
  go_wp2_with fail
  go_loopw [11, 5, 6, 7] (fun i _ _ _ wr => ∃ (k : Nat) (st : RS), k ≤ lines.length ∧ i = .int .i64 k ∧ Below Wc.heap.size Wc wr ∧ RdS Wc.heap.size rb wr st.cfg st.last ∧ StOk k st.cfg st.last ∧ (∀ e ∈ st.cfg.ents, SmE e) ∧ linesR lookL 0 ⟨-1, cfg0⟩ (lines.map bl) = linesR lookL k st ((lines.drop k).map bl)) (fun i _ _ _ _ => lines.length - (intOf i).toNat)
  case atStart => exact ⟨0, ⟨-1, cfg0⟩, Nat.zero_le _, rfl, HB0.out, HR0.out, ⟨fun _ => rfl, fun h => by simp at h, Nat.le_refl _, fun e he => by simp [cfg0] at he⟩, fun e he => by simp [cfg0] at he, rfl⟩
  case round =>
    clear HB0 HR0
    obtain ⟨k, st, hk, rfl, hbk, hrk, hok, hsm, hln⟩ := hrel
    have HB : Hid (Below Wc.heap.size Wc wr) := hbk
    have HR : Hid (RdS Wc.heap.size rb wr st.cfg st.last) := hrk
    have HO : Hid (StOk k st.cfg st.last ∧ ∀ e ∈ st.cfg.ents, SmE e) := ⟨hok, hsm⟩
    have HLn : Hid (linesR lookL 0 ⟨-1, cfg0⟩ (lines.map bl) = linesR lookL k st ((lines.drop k).map bl)) := hln
    clear hbk hrk hok hsm hln
    by_cases hlt : k < lines.length
    · have k1 : (k : Int) < (lines.length : Int) := by omega
      have k2 : k < 100000 := by have := HN.out.1; omega
      obtain ⟨l, hl⟩ : ∃ l, lines[k]? = some l := ⟨_, List.getElem?_eq_getElem hlt⟩
      have HLz : Hid (l.size ≤ 1000000) := HN.out.2 l (List.mem_of_getElem? hl)
      have HDr : Hid ((lines.drop k).map bl = bl l :: (lines.drop (k + 1)).map bl) := by
        show _ = _
        rw [List.drop_eq_getElem_cons hlt]
        rw [List.getElem?_eq_getElem hlt] at hl
        cases hl; rfl
      obtain ⟨sa', cap', hsl, -, hcc⟩ := id HL.out
      cases hsl
      obtain ⟨g, o, rfl, hc0⟩ := hcc (fun h => by rw [h] at hl; simp at hl)
      have c0 : wr.cell? ⟨g, o + k, none⟩ = some (.string l) := by
        have := cell_below (HBc.out.trans (HB.out.mono HBc.out.size)) (hc0 k _ hl 0 _ rfl)
        simpa using this
      clear hcc hc0 hl
      go_wp2_with fail
      refine (lineR_at A Wc wr rb st.cfg st.last l HS.out.1 HS.out.2.1 HS.out.2.2 HB.out HR.out HLz.out ⟨HO.out.1.e0, HO.out.1.e3, Nat.le_trans HO.out.1.len (by omega), fun e he => (HO.out.1.sz e he).mono (by omega)⟩).mono ?_
      rintro v w5 ⟨rfl, hb5, hr5⟩
      have HB5 : Hid (Below Wc.heap.size Wc w5) := hb5
      have HR5 : Hid _ := hr5
      clear hb5 hr5 c0 HR HB
      cases hcode : (lineR lookL ⟨st.last, st.cfg⟩ (bl l)).1 with
      | zero =>
        have HC : Hid ((lineR lookL ⟨st.last, st.cfg⟩ (bl l)).1 = 0) := hcode
        clear hcode
        rw [show errV A 0 = .nilIface from rfl]
        go_wp2_with fail
        go_roundw
        case rel =>
          have hll : (bl l).length ≤ 1000000 := by have := HLz.out; have e : (bl l).length = l.size := (by simp [bl]); omega
          obtain ⟨s1, s2⟩ := stOk_step HO.out.1 HO.out.2 hll HC.out
          exact ⟨k + 1, (lineR lookL ⟨st.last, st.cfg⟩ (bl l)).2, by omega, by go_num, HB5.out, HR5.out HC.out, s1, s2, by rw [HLn.out, HDr.out, linesR_go HC.out]⟩
        case measure => simp [intOf]; omega
      | succ j =>
        have HC : Hid ((lineR lookL ⟨st.last, st.cfg⟩ (bl l)).1 = j + 1) := hcode
        have HE : Hid (linesR lookL 0 ⟨-1, cfg0⟩ (lines.map bl) = ((j + 1, (k : Int)), st)) := by
          show _ = _
          rw [HLn.out, HDr.out, linesR_stop (by have := HC.out; rw [this]; simp), HC.out]
        have HJ : Hid (j + 1 ≤ 11) := by show _ ≤ _; have := line_codes lookL ⟨st.last, st.cfg⟩ (bl l); rw [hcode] at this; omega
        clear hcode
        have hrow5 := row_below HB5.out HCr.out
        rw [show errV A (j + 1) = .iface 211 (.pointer (some (A j))) from rfl]
        have HRow : Hid (∀ ob, (w5.alloc ob).heap[w.heap.size]? = some (.cells #[.int .i64 0, .int .i64 0, .int .i64 0, .int .i64 0, .slice none 0 0] 25 (0, 0))) := fun ob => row_below (Below.one _ _) hrow5
        clear hrow5
        go_wp2_with (refine wpList_store_row rfl 25 _ _ rfl w.heap.size #[.int .i64 0, .int .i64 0, .int .i64 0, .int .i64 0, .slice none 0 0] rfl rfl 25 #[.int .i64 0, .int .i64 0, .int .i64 0, .int .i64 0, .slice none 0 0] (HRow.out _) Tryz.sizeCfg rfl (by simp [Value.oneCell']) ?_)
        refine bodyPost_ret (results_cfg rfl _ _ w.heap.size _ _ _ _ _ rfl (heap_setRow _ (HRow.out _))) rfl ?_
        have hfr := fault_row (o := .cells #[.int .i64 (k : Int), errV A (j + 1)] 67) #[.int .i64 0, .int .i64 0, .int .i64 0, .int .i64 0, .slice none 0 0] (HBc.out.trans (HB5.out.mono HBc.out.size)) (by have := HB5.out.size; have := HSz.out; omega)
        exact fault_end HE.out HJ.out hfr.1 hfr.2
    · have k1 : ¬ (k : Int) < (lines.length : Int) := by omega
      obtain rfl : k = lines.length := by omega
      have HLe : Hid (linesR lookL 0 ⟨-1, cfg0⟩ (lines.map bl) = linesR lookL lines.length st []) := by show _ = _; have := HLn.out; rw [List.drop_length] at this; exact this
      obtain ⟨ev, mv, cells, hA⟩ := HR.out.toA
      have HA : Hid (RdA Wc.heap.size rb wr st.cfg st.last ev mv st.cfg.ents cells) := hA
      have hrow := hA.row
      have HRow : Hid (∀ V, Below wr.heap.size wr V → V.heap[w.heap.size]? = some (.cells #[.int .i64 0, .int .i64 0, .int .i64 0, .int .i64 0, .slice none 0 0] 25 (0, 0))) := fun V hV => row_below hV (row_below HB.out HCr.out)
      have r5 : wr.cell? ⟨rb, 5, none⟩ = some (.int .i64 st.last) := by simp [World.cell?, hrow, rdRow]
      by_cases hl2 : st.last < 2
      · have HE : Hid (linesR lookL 0 ⟨-1, cfg0⟩ (lines.map bl) = ((1, (lines.length : Int)), st)) := by show _ = _; rw [HLe.out, linesR, if_pos hl2]
        have sen := (HS.out.1.below HB.out).c0
        clear hA hrow
        have zz := HRow.out wr (Below.refl _ _)
        have z0 : wr.cell? ⟨w.heap.size, 0, none⟩ = some (.int .i64 0) := by simp [World.cell?, zz]
        have z1 : wr.cell? ⟨w.heap.size, 1, none⟩ = some (.int .i64 0) := by simp [World.cell?, zz]
        have z2 : wr.cell? ⟨w.heap.size, 2, none⟩ = some (.int .i64 0) := by simp [World.cell?, zz]
        have z3 : wr.cell? ⟨w.heap.size, 3, none⟩ = some (.int .i64 0) := by simp [World.cell?, zz]
        have z4 : wr.cell? ⟨w.heap.size, 4, none⟩ = some (.slice none 0 0) := by simp [World.cell?, zz]
        have f0 : wr.frozen? ⟨w.heap.size, 0, none⟩ = false := by simp [World.frozen?, zz]
        have f1 : wr.frozen? ⟨w.heap.size, 1, none⟩ = false := by simp [World.frozen?, zz]
        have f2 : wr.frozen? ⟨w.heap.size, 2, none⟩ = false := by simp [World.frozen?, zz]
        have f3 : wr.frozen? ⟨w.heap.size, 3, none⟩ = false := by simp [World.frozen?, zz]
        have f4 : wr.frozen? ⟨w.heap.size, 4, none⟩ = false := by simp [World.frozen?, zz]
        have ne1 : ¬ w.heap.size = 1 := by
          have h1 := block_lt HW0.out.c0
          have h2 : 1 < w.heap.size := h1
          omega
        have ne2 : ¬ 1 = w.heap.size := fun e => ne1 e.symm
        have y0 : ∀ ob, (wr.alloc ob).cell? ⟨w.heap.size, 0, none⟩ = some (.int .i64 0) := fun ob => by simp [World.cell?, HRow.out _ (Below.one wr ob)]
        have g0 : ∀ ob, (wr.alloc ob).frozen? ⟨w.heap.size, 0, none⟩ = false := fun ob => by simp [World.frozen?, HRow.out _ (Below.one wr ob)]
        have y1 : ∀ ob, (wr.alloc ob).cell? ⟨w.heap.size, 1, none⟩ = some (.int .i64 0) := fun ob => by simp [World.cell?, HRow.out _ (Below.one wr ob)]
        have g1 : ∀ ob, (wr.alloc ob).frozen? ⟨w.heap.size, 1, none⟩ = false := fun ob => by simp [World.frozen?, HRow.out _ (Below.one wr ob)]
        have y2 : ∀ ob, (wr.alloc ob).cell? ⟨w.heap.size, 2, none⟩ = some (.int .i64 0) := fun ob => by simp [World.cell?, HRow.out _ (Below.one wr ob)]
        have g2 : ∀ ob, (wr.alloc ob).frozen? ⟨w.heap.size, 2, none⟩ = false := fun ob => by simp [World.frozen?, HRow.out _ (Below.one wr ob)]
        have y3 : ∀ ob, (wr.alloc ob).cell? ⟨w.heap.size, 3, none⟩ = some (.int .i64 0) := fun ob => by simp [World.cell?, HRow.out _ (Below.one wr ob)]
        have g3 : ∀ ob, (wr.alloc ob).frozen? ⟨w.heap.size, 3, none⟩ = false := fun ob => by simp [World.frozen?, HRow.out _ (Below.one wr ob)]
        have y4 : ∀ ob, (wr.alloc ob).cell? ⟨w.heap.size, 4, none⟩ = some (.slice none 0 0) := fun ob => by simp [World.cell?, HRow.out _ (Below.one wr ob)]
        have g4 : ∀ ob, (wr.alloc ob).frozen? ⟨w.heap.size, 4, none⟩ = false := fun ob => by simp [World.frozen?, HRow.out _ (Below.one wr ob)]
        clear zz
        go_wp2_with fail
        go_region
        all_goals
          clear y0 y1 y2 y3 y4 g0 g1 g2 g3 g4 z0 z1 z2 z3 z4 f0 f1 f2 f3 f4 ne1 ne2 sen r5
          first | rw [five_same (HRow.out _ (Below.one _ _))] | rw [five_same (HRow.out _ (Below.refl _ _))]
          go_wp2
          refine bodyPost_ret (results_cfg rfl _ _ w.heap.size _ _ _ _ _ rfl (HRow.out _ (Below.one _ _).drew)) rfl ?_
          have b1 := HBc.out.trans (HB.out.mono HBc.out.size)
          exact fault_end HE.out (by decide) (b1.trans (((Below.one wr _).drew).mono b1.size)) (heap_alloc_new wr _)
      · have HE : Hid (linesR lookL 0 ⟨-1, cfg0⟩ (lines.map bl) = ((0, -1), st)) := by show _ = _; rw [HLe.out, linesR, if_neg hl2]
        have r0 : wr.cell? ⟨rb, 0, none⟩ = some (.int .i64 st.cfg.closed) := by simp [World.cell?, hrow, rdRow]
        have r1 : wr.cell? ⟨rb, 1, none⟩ = some (.int .i64 st.cfg.opn) := by simp [World.cell?, hrow, rdRow]
        have r2 : wr.cell? ⟨rb, 2, none⟩ = some (.int .i64 st.cfg.cycle) := by simp [World.cell?, hrow, rdRow]
        have r3 : wr.cell? ⟨rb, 3, none⟩ = some (.int .i64 st.cfg.delay) := by simp [World.cell?, hrow, rdRow]
        have r4 : wr.cell? ⟨rb, 4, none⟩ = some ev := by simp [World.cell?, hrow, rdRow]
        obtain ⟨va, vc, rfl⟩ := own_form hA.ents
        clear hA hrow
        go_wp2_with (refine wpList_store_row rfl 25 _ _ rfl w.heap.size #[.int .i64 st.cfg.closed, .int .i64 st.cfg.opn, .int .i64 st.cfg.cycle, .int .i64 st.cfg.delay, .slice va st.cfg.ents.length vc] rfl rfl 25 #[.int .i64 0, .int .i64 0, .int .i64 0, .int .i64 0, .slice none 0 0] (HRow.out _ (Below.refl _ _)) Tryz.sizeCfg rfl (by simp [Value.oneCell']) ?_)
        refine bodyPost_ret (results_cfg rfl _ _ w.heap.size _ _ _ _ _ rfl (heap_setRow _ (HRow.out _ (Below.refl _ _)))) rfl ?_
        refine ⟨st.cfg, .slice va st.cfg.ents.length vc, .nilIface, rfl, ?_, by rw [HE.out]; rfl, ?_, by rw [HE.out]; exact ⟨by simp, Or.inl ⟨rfl, rfl⟩⟩, ⟨Nat.le_trans HO.out.1.len (by have := HN.out.1; omega), fun e he => ?_⟩⟩
        · have b1 := HBc.out.trans (HB.out.mono HBc.out.size)
          exact b1.grown (grown_setRow _ _ _) b1.size (fun j hj => by cases hj; exact Nat.le_refl _)
        · exact ⟨_, (HA.out.other (grown_setRow _ _ _) (HRow.out _ (Below.refl _ _)) HRb.out.2).entsOwn⟩
        · obtain ⟨a, b⟩ := HO.out.2 e he
          have sz := (HO.out.1.sz e he).mono (m := 1000000) (by have := HN.out.1; omega)
          exact ⟨a, sz.p, b, sz.g, sz.d, sz.f, sz.l⟩
end Go.Proofs.YtcnfkdecghdphabGreatDoor
