/-
  nightwatchlaw3.KeeperCuts by a contract: it answers true. Conditions: the sentinels, the config and the acts lie in memory.
-/
import Derived.Test.YtkphpgdgbnmnjacGreatDoorB34C
import Derived.Test.YtkphpgdgbnmnjacGreatDoorB20C
import Derived.Test.YtkphpgdgbnmnjacGreatDoorB35C
import Derived.Laws.StructEq
import Derived.Deep.CutBlock
namespace Go.Proofs.YtkphpgdgbnmnjacGreatDoor
open Go.RowKit Go.Extern.Stop Go.Stop Go.Extern

/-- Behind some acts: D is all that was ever logged; lb: a block of the law's own. -/
structure KcI (w0 wr : World) (c : CfgD) (kb bc lb k : Nat) (K : KSt) (D : List Rec) : Prop where
  at' : ∃ F, KeAt F w0 wr c kb bc K ∧ ∀ k, F k → w0.heap.size ≤ k ∧ k ≠ lb
  inv : KInv K D
  len : D.length ≤ 80000 * k
  fit : KFit c K k (144 * K.d.now)
  now : K.d.now ≤ 10000 * k
section
variable {w0 wr wr' : World} {c : CfgD} {kb bc lb k : Nat} {K K' : KSt} {F : Nat → Prop} {D : List Rec}
theorem KcI.below (h : KcI w0 wr c kb bc lb k K D) (hb : Below wr.heap.size wr wr') : KcI w0 wr' c kb bc lb k K D := by
  obtain ⟨F, h1, h2⟩ := h.at'
  exact ⟨⟨F, h1.below hb, h2⟩, h.inv, h.len, h.fit, h.now⟩
theorem KcI.bel (h : KcI w0 wr c kb bc lb k K D) : Below w0.heap.size w0 wr := by obtain ⟨F, h1, -⟩ := h.at'; exact h1.bel
theorem KcI.off (h : KcI w0 wr c kb bc lb k K D) (ho : Off (fun k => k = lb) wr wr') (hl : w0.heap.size ≤ lb) : KcI w0 wr' c kb bc lb k K D := by
  obtain ⟨F, h1, h2⟩ := h.at'
  exact ⟨⟨F, h1.off ho (fun k hk e => (h2 k hk).2 e) (fun k hk => by rw [hk]; exact hl), h2⟩, h.inv, h.len, h.fit, h.now⟩
theorem kpost_lb (hF : ∀ k, F k → w0.heap.size ≤ k ∧ k ≠ lb) (hz : w0.heap.size ≤ wr.heap.size) (hl : lb < wr.heap.size) (hp : KePost F w0 wr c kb bc K' wr') : (∃ F, KeAt F w0 wr' c kb bc K' ∧ ∀ k, F k → w0.heap.size ≤ k ∧ k ≠ lb) ∧ wr'.heap[lb]? = wr.heap[lb]? :=
  ⟨⟨_, hp.1, fun k hk => by
    rcases hk with hk | ⟨hk, _⟩
    · exact hF k hk
    · exact ⟨Nat.le_trans hz hk, by omega⟩⟩, hp.2.block lb hl (fun hk => (hF lb hk).2 rfl)⟩
theorem last8_at {D : List Rec} {j : Nat} {x : Rec} (hs : ∀ i (h : i < D.length), D[i].seq = i + 1) (h : (last8 D)[j]? = some x) : x.seq = D.length - min D.length 8 + 1 + j := by
  unfold last8 at h
  rw [List.getElem?_drop] at h
  obtain ⟨hi, rfl⟩ := List.getElem?_eq_some_iff.1 h
  rw [hs]
  omega
theorem last8_length (D : List Rec) : (last8 D).length = min D.length 8 := by unfold last8; rw [List.length_drop]; omega
theorem lastR_last8_pre {D D' : List Rec} (h : D <+: D') (hl : D'.length = D.length) : D' = D := (h.eq_of_length hl.symm).symm
end
set_option maxRecDepth 100000 in
set_option maxHeartbeats 8000000 in
theorem kc_in (A : Nat → Addr) (c : CfgD) (sa : Option Addr) (sc : Nat) (acts : List ActK) (sl : Option Addr) (slc : Nat) (w : World) (hs : SenK A w) (hE : EntsAt w (.slice sa c.ents.length sc) c.ents) (hAct : SlAt encK 4 w (.slice sl acts.length slc) acts) (hlen : acts.length ≤ 9223372036854775807) :
    Calls Tryz.prog 5 #[.agg #[.int .i64 c.closed, .int .i64 c.opn, .int .i64 c.cycle, .int .i64 c.delay, .slice sa c.ents.length sc], .slice sl acts.length slc] w fun v w' => v = .returned (.bool true) ∧ Below w.heap.size w w' := by
  obtain ⟨W0, hW0⟩ : ∃ X, X = w.alloc (.cells #[.int .i64 c.closed, .int .i64 c.opn, .int .i64 c.cycle, .int .i64 c.delay, .slice sa c.ents.length sc] 24) := ⟨_, rfl⟩
  have b0 : Below w.heap.size w W0 := by rw [hW0]; exact Below.one _ _
  have r0 : W0.heap[w.heap.size]? = some (.cells #[.int .i64 c.closed, .int .i64 c.opn, .int .i64 c.cycle, .int .i64 c.delay, .slice sa c.ents.length sc] 24 (0, 0)) := by rw [hW0]; exact heap_alloc_new w _
  have y : ∀ V, Below W0.heap.size W0 V → (V.cell? ⟨w.heap.size, 0, none⟩ = some (.int .i64 c.closed) ∧ V.cell? ⟨w.heap.size, 1, none⟩ = some (.int .i64 c.opn) ∧ V.cell? ⟨w.heap.size, 2, none⟩ = some (.int .i64 c.cycle) ∧ V.cell? ⟨w.heap.size, 3, none⟩ = some (.int .i64 c.delay) ∧ V.cell? ⟨w.heap.size, 4, none⟩ = some (.slice sa c.ents.length sc)) := fun V hV => by
    have := row_below hV r0
    refine ⟨?_, ?_, ?_, ?_, ?_⟩ <;> simp [World.cell?, this]
  have HY : Hid _ := y
  have HB0 : Hid _ := b0
  have HWa : Hid _ := watched_at A W0 (hs.below b0)
  have HE : Hid (∀ V, Below w.heap.size w V → EntsAt V (.slice sa c.ents.length sc) c.ents) := fun V hV => hE.below hV
  have HSv : Hid (∀ V, Below w.heap.size w V → SenK A V) := fun V hV => hs.below hV
  have HAc : Hid (∀ V, Below w.heap.size w V → SlAt encK 4 V (.slice sl acts.length slc) acts) := fun V hV => hAct.below hV
  have HLn : Hid (acts.length ≤ 9223372036854775807) := hlen
  clear hs hE hAct hlen b0 r0 y
  go_enter Tryz.func5, Tryz.ntmps5
  go_upto_region 1 with fail
  rw [← hW0]
  clear hW0
  go_wp2_with fail
  refine Calls.mono HWa.out ?_
  rintro u w1 ⟨rfl, hb1⟩
  have HBb1 : Hid (Below W0.heap.size W0 w1) := hb1
  have HB1 : Hid (Below w.heap.size w w1) := HB0.out.trans (hb1.mono HB0.out.size)
  clear hb1 HWa
  obtain ⟨y0, y1, y2, y3, y4⟩ := HY.out w1 HBb1.out
  go_wp2_with fail
  clear y0 y1 y2 y3 y4
  refine Calls.mono (heavyC_at c sa sc w1 (HE.out w1 HB1.out)) ?_
  rintro u w2 ⟨rfl, hb2⟩
  have HBb2 : Hid (Below W0.heap.size W0 w2) := HBb1.out.trans (hb2.mono HBb1.out.size)
  have HB2 : Hid (Below w.heap.size w w2) := HB1.out.trans (hb2.mono HB1.out.size)
  clear hb2
  cases hh : heavyC c
  · rw [show one01 false = 0 from rfl]
    have HSm : Hid (SmallC c) := heavyC_small hh
    clear hh
    have HFi : Hid _ := fit_at acts sl slc 80 w2 (HAc.out w2 HB2.out) HLn.out
    go_wp2_with fail
    refine Calls.mono HFi.out ?_
    rintro u w2 ⟨b, rfl, rfl, hfit⟩
    clear HFi
    cases b
    · go_wp2
      go_ret
      exact ⟨rfl, HB2.out⟩
    have HFt : Hid (Fits1 acts 80) := hfit rfl
    clear hfit
    obtain ⟨y0, y1, y2, y3, y4⟩ := HY.out w2 HBb2.out
    go_wp2_with fail
    clear y0 y1 y2 y3 y4
    refine Calls.mono (cfault_at c sa sc w2 (HE.out w2 HB2.out) HSm.out) ?_
    rintro u w3 ⟨rfl, hb3⟩
    have HBb3 : Hid (Below W0.heap.size W0 w3) := HBb2.out.trans (hb3.mono HBb2.out.size)
    have HB3 : Hid (Below w.heap.size w w3) := HB2.out.trans (hb3.mono HB2.out.size)
    clear hb3
    obtain ⟨code, hcode⟩ : ∃ x, x = (cfgErr c).1 := ⟨_, rfl⟩
    rw [← hcode]
    have hfl := fld_fault (code : Int) (cfgErr c).2 w3
    have HCo : Hid (code = (cfgErr c).1) := hcode
    clear hcode
    by_cases hc0 : code = 0
    · subst hc0
      simp only [Int.ofNat_zero] at hfl ⊢
      have h0 : (cfgErr c).1 = 0 := HCo.out.symm
      have HR : Hid (KRt c) := krt_of h0
      have HFr : Hid _ := fresh_at A c sa sc w3 (HSv.out w3 HB3.out) h0 (HE.out w3 HB3.out) HSm.out
      clear h0
      obtain ⟨y0, y1, y2, y3, y4⟩ := HY.out w3 HBb3.out
      go_wp2_with fail
      clear y0 y1 y2 y3 y4
      clear hfl
      refine Calls.mono HFr.out ?_
      rintro u w4 ⟨kb, bc, F, rfl, hat, hb4, hF4⟩
      have HBl : Hid (∀ V, Below w3.heap.size w3 V → Below w.heap.size w V) := fun V hV => HB3.out.trans (hV.mono HB3.out.size)
      have HSw : Hid (SenK A w3) := HSv.out w3 HB3.out
      obtain ⟨W5, hW5⟩ : ∃ X, X = w4.alloc (.cells #[.int .i64 0, .int .i64 0, .int .i64 0, .int .i64 0] 57) := ⟨_, rfl⟩
      have HI : Hid (KcI w3 W5 c kb bc w4.heap.size 0 (KSt.new c (CSt.new 4096)) [] ∧ RecRow W5 w4.heap.size .none) := by
        rw [hW5]
        exact ⟨⟨⟨F, hat.below (Below.one _ _), fun k hk => ⟨(hF4 k hk).1, by have := (hF4 k hk).2; omega⟩⟩, KInv.new, Nat.le_refl _, kfit_new HR.out, Nat.zero_le _⟩, RecRow.new w4 .none⟩
      have HLb : Hid (w3.heap.size ≤ w4.heap.size) := hb4.size
      clear hat hb4 hF4 HFr HSv HE HBb1 HB1 HBb2 HB2 HBb3 HY
      go_upto_region 9 with fail
      rw [← hW5]
      clear hW5
      generalize w4.heap.size = lb at HI HLb ⊢
      go_cut [9, 11] (fun s i wx => s = .int .i64 0 ∧ i = .int .i64 0 ∧ wx = W5)
      case first =>
        go_wp2_with fail
        go_meet
        case rel => exact ⟨rfl, rfl, rfl⟩
      obtain ⟨rfl, rfl, rfl⟩ := hcut
      rename World => W5
      go_wp2_with fail
      go_loopw [9, 11, 12, 13, 14, 15, 16, 17] (fun sn i _ _ _ _ _ _ wr => ∃ (k : Nat) (K : KSt) (D : List Rec) (r : Rec), k ≤ acts.length ∧ i = .int .i64 k ∧ sn = .int .i64 (D.length : Int) ∧ Hid (KcI w3 wr c kb bc lb k K D) ∧ Hid (RecRow wr lb r) ∧ Hid (0 < D.length → r = lastR K.L)) (fun _ i _ _ _ _ _ _ _ => acts.length - (intOf i).toNat)
      case atStart => exact ⟨0, _, [], .none, Nat.zero_le _, rfl, rfl, HI.out.1, HI.out.2, fun h => absurd h (Nat.lt_irrefl _)⟩
      case round =>
        clear HI
        obtain ⟨k, K, D, r, hk, rfl, rfl, HI, HRw, HRl⟩ := hrel
        have HBf : Hid (Below w3.heap.size w3 wr) := HI.out.bel
        have HL0 : Hid (K.L = last8 D) := HI.out.inv.L
        have hl80 : acts.length ≤ 80 := by have := HFt.out.len; omega
        have hnw : K.d.now ≤ 800000 := by have h1 := HI.out.now; omega
        by_cases hlt : k < acts.length
        · obtain ⟨a, ha⟩ : ∃ a, acts[k]? = some a := ⟨_, List.getElem?_eq_getElem hlt⟩
          obtain ⟨ab, ao, rfl, c0, c1, c2, c3⟩ := act_cells (HAc.out wr (HBl.out wr HBf.out)) ha
          have k1 : (k : Int) < (acts.length : Int) := by omega
          have hn10 : a.n ≤ 10000 := HFt.out.each a (List.mem_of_getElem? ha)
          obtain ⟨V, hV⟩ : ∃ X, X = wr.alloc (.cells #[.string a.kind, .int .i64 a.e, .int .i64 a.p, .int .i64 a.n] 44) := ⟨_, rfl⟩
          have hbV : Below wr.heap.size wr V := by rw [hV]; exact Below.one _ _
          have hrV : V.heap[wr.heap.size]? = some (.cells #[.string a.kind, .int .i64 a.e, .int .i64 a.p, .int .i64 a.n] 44 (0, 0)) := by rw [hV]; exact heap_alloc_new wr _
          have IV := HI.out.below hbV
          have RV : RecRow V lb r := HRw.out.below hbV HRw.out.lt
          go_upto_region 13 with fail
          rw [← hV]
          clear hV hbV c0 c1 c2 c3
          generalize wr.heap.size = ab at hrV ⊢
          have x0 : V.cell? ⟨ab, 0, none⟩ = some (.string a.kind) := by simp [World.cell?, hrV]
          have x1 : V.cell? ⟨ab, 1, none⟩ = some (.int .i64 a.e) := by simp [World.cell?, hrV]
          have x2 : V.cell? ⟨ab, 2, none⟩ = some (.int .i64 a.p) := by simp [World.cell?, hrV]
          have x3 : V.cell? ⟨ab, 3, none⟩ = some (.int .i64 a.n) := by simp [World.cell?, hrV]
          clear hrV
          obtain ⟨F, hat, hF⟩ := IV.at'
          have hzV : w3.heap.size ≤ V.heap.size := hat.bel.size
          have hlV := RV.lt
          have HFin : Hid (∀ K' D' wr', KePost F w3 V c kb bc K' wr' → KInv K' D' → D <+: D' → D'.length ≤ 80000 * (k + 1) → KFit c K' (k + 1) (144 * K'.d.now) → K'.d.now ≤ 10000 * (k + 1) → (KcI w3 wr' c kb bc lb (k + 1) K' D' ∧ RecRow wr' lb r)) := fun K' D' wr' hp hi hpre hl hf hn => by
            obtain ⟨p1, p2⟩ := kpost_lb hF hzV hlV hp
            exact ⟨⟨p1, hi, hl, hf, hn⟩, ⟨p2.trans RV.heap⟩⟩
          have hin := IV.inv
          have hle := IV.len
          have hft := IV.fit
          have hno := IV.now
          clear IV RV hzV hlV HI HRw
          go_upto_block 2 with fail
          go_cut [] (fun wx => ∃ K' D', D <+: D' ∧ KcI w3 wx c kb bc lb (k + 1) K' D' ∧ RecRow wx lb r)
          case first =>
            cases p1 : (a.kind.toList == [98, 101, 103, 105, 110])
            · cases p2 : (a.kind.toList == [115, 116, 111, 112])
              · cases p3 : (a.kind.toList == [114, 101, 112, 111, 114, 116])
                · cases p4 : (a.kind.toList == [99, 117, 116])
                  · cases p5 : (a.kind.toList == [98, 111, 111, 116])
                    · have HX : Hid _ := ke_ticks a.n hat HSw.out HR.out hft (by omega) (by omega)
                      obtain ⟨Kt, hKt⟩ : ∃ x, x = (K.ticks c a.n.toNat).1 := ⟨_, rfl⟩
                      obtain ⟨f1, f2⟩ := KFit.ticks HR.out a.n.toNat K hft (by omega)
                      obtain ⟨D2, d1, d2, d3⟩ := KInv.ticks HR.out a.n.toNat K D hin hft (by omega) (by omega)
                      rw [← hKt] at HX f1 f2 d1
                      have HN : Hid (∀ wr', KePost F w3 V c kb bc Kt wr' → ∃ D', D <+: D' ∧ KcI w3 wr' c kb bc lb (k + 1) Kt D' ∧ RecRow wr' lb r) := fun wr' hp => ⟨D2, d2, HFin.out _ D2 wr' hp d1 d2 (by omega) (f1.mono (by omega) (Nat.le_refl _)) (by omega)⟩
                      clear f1 f2 d1 d2 d3
                      clear hin hle hft hno hat HFin hKt
                      go_wp2_with fail
                      refine Calls.mono HX.out ?_
                      rintro u w6 ⟨rfl, hp6⟩
                      have HN6 : Hid _ := HN.out w6 hp6
                      clear hp6 HN HX
                      go_wp2_with fail
                      go_meet
                      case rel => obtain ⟨D', q1, q2⟩ := HN6.out; exact ⟨Kt, D', q1, q2⟩
                    · have HX : Hid _ := ke_boot hat HSw.out HR.out hft
                      have HN : Hid (∀ wr', KePost F w3 V c kb bc (K.boot c).1 wr' → _) := fun wr' hp => HFin.out _ D wr' hp hin.boot (List.prefix_refl _) (by omega) (by rw [boot_now]; exact (hft.boot HR.out).mono (by omega) (Nat.le_refl _)) (by rw [boot_now]; omega)
                      clear hin hle hft hno hat HFin
                      go_wp2_with fail
                      refine Calls.mono HX.out ?_
                      rintro u w6 ⟨rfl, hp6⟩
                      have HN6 : Hid _ := HN.out w6 hp6
                      clear hp6 HN HX
                      go_wp2_with fail
                      go_meet
                      case rel => exact ⟨_, D, List.prefix_refl _, HN6.out⟩
                  · have HX : Hid _ := ke_cut a.n hat HSw.out
                    have HN : Hid (∀ wr', KePost F w3 V c kb bc (K.cut a.n).1 wr' → _) := fun wr' hp => HFin.out _ D wr' hp (hin.cut a.n) (List.prefix_refl _) (by omega) (by rw [cut_now]; exact (hft.cut a.n (by omega)).mono (by omega) (Nat.le_refl _)) (by rw [cut_now]; omega)
                    clear hin hle hft hno hat HFin
                    go_wp2_with fail
                    refine Calls.mono HX.out ?_
                    rintro u w6 ⟨rfl, hp6⟩
                    have HN6 : Hid _ := HN.out w6 hp6
                    clear hp6 HN HX
                    go_wp2_with fail
                    go_meet
                    case rel => exact ⟨_, D, List.prefix_refl _, HN6.out⟩
                · have HX : Hid _ := ke_report a.e a.p hat HSw.out HR.out hft (by omega)
                  have HN : Hid (∀ wr', KePost F w3 V c kb bc (K.report c a.e a.p).1 wr' → _) := fun wr' hp => HFin.out _ D wr' hp (hin.report a.e a.p) (List.prefix_refl _) (by omega) (by rw [report_now]; exact hft.report a.e a.p) (by rw [report_now]; omega)
                  clear hin hle hft hno hat HFin
                  go_wp2_with fail
                  refine Calls.mono HX.out ?_
                  rintro u w6 ⟨rfl, hp6⟩
                  have HN6 : Hid _ := HN.out w6 hp6
                  clear hp6 HN HX
                  go_wp2_with fail
                  go_meet
                  case rel => exact ⟨_, D, List.prefix_refl _, HN6.out⟩
              · have HX : Hid _ := ke_stop a.e hat HSw.out HR.out
                have HN : Hid (∀ wr', KePost F w3 V c kb bc (K.stop a.e).1 wr' → _) := fun wr' hp => HFin.out _ D wr' hp (hin.stop a.e) (List.prefix_refl _) (by omega) (by rw [stop_now]; exact hft.stop a.e) (by rw [stop_now]; omega)
                clear hin hle hft hno hat HFin
                go_wp2_with fail
                refine Calls.mono HX.out ?_
                rintro u w6 ⟨rfl, hp6⟩
                have HN6 : Hid _ := HN.out w6 hp6
                clear hp6 HN HX
                go_wp2_with fail
                go_meet
                case rel => exact ⟨_, D, List.prefix_refl _, HN6.out⟩
            · have HX : Hid _ := ke_begin a.e hat HSw.out HR.out
              have HN : Hid (∀ wr', KePost F w3 V c kb bc (K.begin a.e).1 wr' → _) := fun wr' hp => HFin.out _ D wr' hp (hin.begin a.e) (List.prefix_refl _) (by omega) (by rw [begin_now]; exact hft.begin a.e) (by rw [begin_now]; omega)
              clear hin hle hft hno hat HFin
              go_wp2_with fail
              refine Calls.mono HX.out ?_
              rintro u w6 ⟨rfl, hp6⟩
              have HN6 : Hid _ := HN.out w6 hp6
              clear hp6 HN HX
              go_wp2_with fail
              go_meet
              case rel => exact ⟨_, D, List.prefix_refl _, HN6.out⟩
          case rest =>
          obtain ⟨K', D', hpre, hI', hR'⟩ := hcut
          rename World => Wx
          obtain ⟨F', hat', hF'⟩ := hI'.at'
          have hL8 : K'.L = last8 D' := hI'.inv.L
          have hls := hI'.inv.lastSeq
          have HCa : Hid _ := ke_cause hat' (by rw [hL8]; exact last8_len _)
          have hll : K'.L.length = min D'.length 8 := by rw [hL8]; exact last8_length _
          have HI' : Hid _ := hI'
          have HR' : Hid _ := hR'
          have HPre : Hid (D <+: D') := hpre
          have hdl : D.length ≤ D'.length := hpre.length_le
          have HNx : Hid (D'.length = D.length → lastR K'.L = r ∨ D'.length = 0) := fun e => by
            by_cases h0 : D'.length = 0
            · exact Or.inr h0
            · left
              have e2 : D' = D := lastR_last8_pre hpre e
              rw [HRl.out (by omega), hL8, HL0.out, e2]
          have hd8 : D'.length ≤ 6400000 := by have := hI'.len; omega
          obtain ⟨x, hx⟩ : ∃ x, x = lastR K'.L := ⟨_, rfl⟩
          rw [← hx] at HCa HNx hls
          have HX : Hid (x = lastR K'.L) := hx
          clear hI' hR' hpre hat' hF' hx hL8 hn10
          by_cases h0 : D'.length = 0
          · have hf : decide (0 < K'.L.length) = false := decide_eq_false (by omega)
            rw [hf] at HCa
            have g0 : ¬ (0 : Int) < (D.length : Int) := by omega
            have HSn : Hid ((D.length : Int) = (D'.length : Int)) := by show _ = _; omega
            clear hf hdl hll
            go_wp2_with fail
            refine Calls.mono HCa.out ?_
            rintro u w7 ⟨rfl, hb7⟩
            have HI7 : Hid _ := HI'.out.below hb7
            have HR7 : Hid _ := HR'.out.below hb7 HR'.out.lt
            clear hb7 HCa HI' HR'
            unfold Rec.val
            go_wp2_with fail
            go_roundw
            case rel => exact ⟨k + 1, K', D', r, by omega, by go_num, by rw [HSn.out], HI7.out.below (Below.one _ _), HR7.out.below (Below.one _ _) HR7.out.lt, fun h => absurd h (by omega)⟩
            case measure => simp [intOf]; omega
          · have hf : decide (0 < K'.L.length) = true := decide_eq_true (by omega)
            rw [hf] at HCa
            clear hf
            obtain ⟨n', hn'⟩ : ∃ n', n' = D'.length := ⟨_, rfl⟩
            have HN' : Hid (n' = D'.length) := hn'
            rw [← hn'] at hls hll hdl hd8 h0 HNx
            obtain ⟨nD, hnD⟩ : ∃ n', n' = D.length := ⟨_, rfl⟩
            rw [← hnD] at hdl HNx ⊢
            clear hn' hnD
            obtain ⟨xs, xe, xk, xt⟩ := x
            have hxs : xs = n' := hls
            subst hxs
            clear hls
            go_wp2_with fail
            refine Calls.mono HCa.out ?_
            rintro u w7 ⟨rfl, hb7⟩
            have HI7 : Hid _ := HI'.out.below hb7
            have HR7 : Hid _ := HR'.out.below hb7 HR'.out.lt
            clear hb7 HCa HI' HR'
            unfold Rec.val
            go_upto_region 29 with fail
            obtain ⟨W8, hW8⟩ : ∃ X, X = w7.alloc (.cells #[.int .i64 (xs : Int), .int .i64 (xe : Int), .int .i64 (xk : Int), .int .i64 (xt : Int)] 57) := ⟨_, rfl⟩
            rw [← hW8]
            have B8 : Below w7.heap.size w7 W8 := by rw [hW8]; exact Below.one _ _
            have Rx : RecRow W8 w7.heap.size ⟨xs, xe, xk, xt⟩ := by rw [hW8]; exact RecRow.new w7 ⟨xs, xe, xk, xt⟩
            have HI8 : Hid _ := HI7.out.below B8
            have Rl : RecRow W8 lb r := HR7.out.below B8 HR7.out.lt
            have hne : ¬ w7.heap.size = lb := by have := HR7.out.lt; omega
            clear hW8 B8 HI7 HR7
            generalize w7.heap.size = xb at Rx hne ⊢
            have HI9 : Hid (∀ V, V = ((((W8.setCell ⟨lb, 0, none⟩ (.int .i64 (xs : Int))).setCell ⟨lb, 1, none⟩ (.int .i64 (xe : Int))).setCell ⟨lb, 2, none⟩ (.int .i64 (xk : Int))).setCell ⟨lb, 3, none⟩ (.int .i64 (xt : Int))) → KcI w3 V c kb bc lb (k + 1) K' D' ∧ RecRow V lb ⟨xs, xe, xk, xt⟩) := by
              rintro V rfl
              exact ⟨HI8.out.off (Off.of_grown (grown_set4 _ _ _ _ _ _)) HLb.out, Rl.set4 ⟨xs, xe, xk, xt⟩⟩
            have x0 : W8.cell? ⟨xb, 0, none⟩ = some (.int .i64 (xs : Int)) := Rx.at.1
            have x1 : W8.cell? ⟨xb, 1, none⟩ = some (.int .i64 (xe : Int)) := Rx.at.2
            have x2 : W8.cell? ⟨xb, 2, none⟩ = some (.int .i64 (xk : Int)) := Rx.at.3
            have x3 : W8.cell? ⟨xb, 3, none⟩ = some (.int .i64 (xt : Int)) := Rx.at.4
            have f0 := Rl.frozen 0
            have f1 := Rl.frozen 1
            have f2 := Rl.frozen 2
            have f3 := Rl.frozen 3
            have q1 : ¬ (xs : Int) < (nD : Int) := by omega
            have HSeq : Hid (∀ j (h : j < K'.L.length), (K'.L[j]).seq = xs - min xs 8 + 1 + j) := fun j h => by
              have e := last8_at (x := K'.L[j]) HI8.out.inv.inv.seq (by rw [← HI8.out.inv.L]; exact List.getElem?_eq_getElem h)
              rw [e, ← HN'.out]
            have HFinal : Hid (∀ V, KcI w3 V c kb bc lb (k + 1) K' D' → RecRow V lb ⟨xs, xe, xk, xt⟩ → Hid (KcI w3 V c kb bc lb (k + 1) K' D') ∧ Hid (RecRow V lb ⟨xs, xe, xk, xt⟩)) := fun V a b => ⟨a, b⟩
            clear hdl HPre HI8
            go_cut [120] (fun b wx => b = .bool false ∧ wx = W8)
            case first =>
              by_cases hq : xs = nD
              · have q2 : (xs : Int) = (nD : Int) := by omega
                have hr : r = ⟨xs, xe, xk, xt⟩ := by
                  rcases HNx.out hq with h | h
                  · exact h.symm
                  · exact absurd h h0
                have l0 : W8.cell? ⟨lb, 0, none⟩ = some (.int .i64 (xs : Int)) := by rw [hr] at Rl; exact Rl.at.1
                have l1 : W8.cell? ⟨lb, 1, none⟩ = some (.int .i64 (xe : Int)) := by rw [hr] at Rl; exact Rl.at.2
                have l2 : W8.cell? ⟨lb, 2, none⟩ = some (.int .i64 (xk : Int)) := by rw [hr] at Rl; exact Rl.at.3
                have l3 : W8.cell? ⟨lb, 3, none⟩ = some (.int .i64 (xt : Int)) := by rw [hr] at Rl; exact Rl.at.4
                clear Rl Rx hr hq
                go_wp2_with fail
                go_meet
                case rel => exact ⟨rfl, rfl⟩
              · have q2 : ¬ (xs : Int) = (nD : Int) := by omega
                clear Rl Rx hq
                go_wp2_with fail
                go_meet
                case rel => exact ⟨rfl, rfl⟩
            obtain ⟨rfl, rfl⟩ := hcut
            rename World => W8
            obtain ⟨l0, l1, l2, l3⟩ := Rl.at
            clear Rl Rx HNx q1
            go_wp2_with fail
            obtain ⟨W9, hW9⟩ : ∃ X, X = ((((W8.setCell ⟨lb, 0, none⟩ (.int .i64 (xs : Int))).setCell ⟨lb, 1, none⟩ (.int .i64 (xe : Int))).setCell ⟨lb, 2, none⟩ (.int .i64 (xk : Int))).setCell ⟨lb, 3, none⟩ (.int .i64 (xt : Int))) := ⟨_, rfl⟩
            rw [← hW9]
            obtain ⟨h9, r9⟩ := HI9.out W9 hW9
            obtain ⟨F9, hat9, -⟩ := h9.at'
            have HLg : Hid _ := ke_log hat9 (by omega)
            have HH9 : Hid (KcI w3 W9 c kb bc lb (k + 1) K' D' ∧ RecRow W9 lb ⟨xs, xe, xk, xt⟩) := ⟨h9, r9⟩
            clear HI9 hW9 x0 x1 x2 x3 f0 f1 f2 f3 l0 l1 l2 l3 hat9 h9 r9 hne
            refine Calls.mono HLg.out ?_
            rintro u wa ⟨lv, rfl, hrec, hba⟩
            have HHa : Hid (KcI w3 wa c kb bc lb (k + 1) K' D' ∧ RecRow wa lb ⟨xs, xe, xk, xt⟩) := ⟨HH9.out.1.below hba, HH9.out.2.below hba HH9.out.2.lt⟩
            clear HH9 HLg hba HFinal
            obtain ⟨g, cap, rfl, -, hrow, hlc, -⟩ : ∃ g cap, lv = .slice (some ⟨g, 0, .none⟩) K'.L.length cap ∧ W9.heap.size ≤ g ∧ SlRow wa g cap K'.L ∧ K'.L.length ≤ cap ∧ cap ≤ maxLen := by
              rcases hrec.row_form with ⟨-, e⟩ | h
              · rw [e] at hll; simp at hll; omega
              · exact h
            have HRow : Hid (SlRow wa g cap K'.L) := hrow
            clear hrow hrec
            obtain ⟨m, hm⟩ : ∃ m, m = K'.L.length := ⟨_, rfl⟩
            have HM : Hid (m = K'.L.length) := hm
            have hm8 : m = min xs 8 := by omega
            rw [← hm]
            clear hll hlc hm
            have HWant : Hid (∀ j (h : j < K'.L.length), ((K'.L[j]).seq : Int) = (xs : Int) - (m : Int) + 1 + (j : Int)) := fun j h => by
              have := HSeq.out j h
              omega
            clear HSeq
            by_cases h8 : 8 < xs
            · have g8 : (8 : Int) < (xs : Int) := by omega
              have hm9 : m = 8 := by omega
              clear hm8
              subst hm9
              go_wp2_with fail
              go_loopw [17] (fun j wr => ∃ jn : Nat, jn ≤ 8 ∧ j = .int .i64 jn ∧ wr = wa) (fun j _ => 8 - (intOf j).toNat)
              case atStart => exact ⟨0, Nat.zero_le _, rfl, rfl⟩
              case round =>
                obtain ⟨jn, hjn, rfl, hwa⟩ := hrel
                rw [hwa]
                clear hwa
                by_cases hj : jn < 8
                · have k2 : (jn : Int) < (8 : Int) := by omega
                  have hjl : jn < K'.L.length := by rw [← HM.out]; exact hj
                  have cs := (HRow.out.cells jn hjl).1.1
                  rw [HWant.out jn hjl] at cs
                  clear hjl
                  go_wp2_with fail
                  go_roundw
                  case rel => exact ⟨jn + 1, by omega, by go_num, by first | rfl | trivial⟩
                  case measure => simp [intOf]; omega
                · have k2 : ¬ (jn : Int) < (8 : Int) := by omega
                  go_wp2_with fail
                  go_roundw
                  case rel => exact ⟨k + 1, K', D', ⟨xs, xe, xk, xt⟩, by omega, by go_num, by rw [← HN'.out], HHa.out.1, HHa.out.2, fun _ => HX.out⟩
                  case measure => simp [intOf]; omega
            · have g8 : ¬ (8 : Int) < (xs : Int) := by omega
              have hm9 : xs = m := by omega
              clear hm8
              subst hm9
              go_wp2_with fail
              go_loopw [17] (fun j wr => ∃ jn : Nat, jn ≤ xs ∧ j = .int .i64 jn ∧ wr = wa) (fun j _ => xs - (intOf j).toNat)
              case atStart => exact ⟨0, Nat.zero_le _, rfl, rfl⟩
              case round =>
                obtain ⟨jn, hjn, rfl, hwa⟩ := hrel
                rw [hwa]
                clear hwa
                by_cases hj : jn < xs
                · have k2 : (jn : Int) < (xs : Int) := by omega
                  have hjl : jn < K'.L.length := by rw [← HM.out]; exact hj
                  have cs := (HRow.out.cells jn hjl).1.1
                  rw [HWant.out jn hjl] at cs
                  clear hjl
                  go_wp2_with fail
                  go_roundw
                  case rel => exact ⟨jn + 1, by omega, by go_num, by first | rfl | trivial⟩
                  case measure => simp [intOf]; omega
                · have k2 : ¬ (jn : Int) < (xs : Int) := by omega
                  go_wp2_with fail
                  go_roundw
                  case rel => exact ⟨k + 1, K', D', ⟨xs, xe, xk, xt⟩, by omega, by go_num, by rw [← HN'.out], HHa.out.1, HHa.out.2, fun _ => HX.out⟩
                  case measure => simp [intOf]; omega
        · have k1 : ¬ (k : Int) < (acts.length : Int) := by omega
          obtain ⟨F, hat, hF⟩ := HI.out.at'
          have hcs := hat.cellsAt
          have HLen : Hid (D.length ≤ 6400000) := by have := HI.out.len; show _ ≤ _; omega
          have HIn : Hid (Inv K.c D) := HI.out.inv.inv
          have HCp : Hid _ := copy_any bc K.c wr hcs
          have hsl := HBf.out.size
          have HBe : Hid (Below w.heap.size w wr ∧ Sen4 A wr) := ⟨HBl.out wr HBf.out, (HSw.out.below HBf.out).four⟩
          have HRr : Hid (RecRow wr lb r) := HRw.out
          clear hat hF HI HRw hcs hnw hl80
          go_wp2_with fail
          refine Calls.mono HCp.out ?_
          rintro u w5 ⟨rfl, hb5, hc5⟩
          have HC5 : Hid (CellsAt w5 wr.heap.size K.c) := hc5
          have HB5 : Hid (Below wr.heap.size wr w5) := hb5
          have HOn : Hid _ := on_any wr.heap.size K.c w5 hc5
          clear hc5 hb5 HCp
          go_wp2_with fail
          refine Calls.mono HOn.out ?_
          rintro u w6 ⟨rfl, hc6, hg6, hz6⟩
          have hB6 : Below wr.heap.size wr w6 := below_grown HB5.out hg6 HB5.out.size (Nat.le_refl _)
          have HOp : Hid _ := open_on A wr.heap.size _ w6 hc6 (HBe.out.2.below hB6) (by unfold CSt.err; have h1 := HIn.out.big.size; have h2 := HIn.out.big.top; simp only; rw [if_neg (by omega), if_neg (by simp)])
          have HB6 : Hid _ := hB6
          clear hc6 hg6 hz6 hB6 HOn HC5 HB5
          go_wp2_with fail
          refine Calls.mono HOp.out ?_
          rintro u w7 ⟨rb, v, rfl, hr7, hb7⟩
          have hL7 : openL K.c.bytes = last8 D := HIn.out.opens
          rw [show ({ K.c with off := false, cut := false, left := 0 } : CSt).bytes = K.c.bytes from rfl, hL7] at hr7
          have HLa : Hid _ := last_any _ rb _ v (last8 D) false w7 hr7 (by have := last8_len D; omega)
          have HB7 : Hid (Below wr.heap.size wr w7) := HB6.out.trans (hb7.mono HB6.out.size)
          clear hr7 hb7 HOp HB6 hL7
          go_wp2_with fail
          refine Calls.mono HLa.out ?_
          rintro u w8 ⟨rfl, hb8⟩
          have HB8 : Hid (Below wr.heap.size wr w8) := HB7.out.trans (hb8.mono HB7.out.size)
          clear hb8 HB7 HLa
          obtain ⟨x, hx⟩ : ∃ x, x = lastR (last8 D) := ⟨_, rfl⟩
          have hxs : x.seq = D.length := by rw [hx]; exact last8_last HIn.out
          have HRx : Hid (0 < D.length → r = x) := fun h => by rw [hx, ← HL0.out]; exact HRl.out h
          rw [← hx]
          have hl8 := last8_length D
          clear hx HIn HL0 HRl
          have HBz : Hid (Below w.heap.size w w8) := HBe.out.1.trans (HB8.out.mono HBe.out.1.size)
          have HRz : Hid (RecRow w8 lb r) := HRr.out.below HB8.out HRr.out.lt
          clear HB8 HBe HRr
          have hd8 : D.length ≤ 6400000 := HLen.out
          obtain ⟨nD, hnD⟩ : ∃ n, n = D.length := ⟨_, rfl⟩
          rw [← hnD] at hxs HRx hl8 hd8 ⊢
          clear hnD
          by_cases h0 : nD = 0
          · have hf : decide (0 < (last8 D).length) = false := decide_eq_false (by omega)
            rw [hf]
            subst h0
            clear hf hl8 hxs HRx
            unfold Rec.val
            go_wp2
            go_ret
            exact ⟨rfl, HBz.out.trans ((Below.one _ _).mono HBz.out.size)⟩
          · have hf : decide (0 < (last8 D).length) = true := decide_eq_true (by omega)
            rw [hf]
            obtain rfl : r = x := HRx.out (by omega)
            obtain ⟨xs, xe, xk, xt⟩ := r
            have hxs' : xs = nD := hxs
            clear hxs hf hl8 HRx
            subst hxs'
            unfold Rec.val
            go_upto_region 54 with fail
            obtain ⟨W9, hW9⟩ : ∃ X, X = w8.alloc (.cells #[.int .i64 (xs : Int), .int .i64 (xe : Int), .int .i64 (xk : Int), .int .i64 (xt : Int)] 57) := ⟨_, rfl⟩
            rw [← hW9]
            have B9 : Below w8.heap.size w8 W9 := by rw [hW9]; exact Below.one _ _
            have Rx : RecRow W9 w8.heap.size ⟨xs, xe, xk, xt⟩ := by rw [hW9]; exact RecRow.new w8 ⟨xs, xe, xk, xt⟩
            have Rl : RecRow W9 lb ⟨xs, xe, xk, xt⟩ := HRz.out.below B9 HRz.out.lt
            have HBf9 : Hid (Below w.heap.size w W9) := HBz.out.trans (B9.mono HBz.out.size)
            clear hW9 B9 HBz HRz
            generalize w8.heap.size = xb at Rx ⊢
            have x0 : W9.cell? ⟨xb, 0, none⟩ = some (.int .i64 (xs : Int)) := Rx.at.1
            have x1 : W9.cell? ⟨xb, 1, none⟩ = some (.int .i64 (xe : Int)) := Rx.at.2
            have x2 : W9.cell? ⟨xb, 2, none⟩ = some (.int .i64 (xk : Int)) := Rx.at.3
            have x3 : W9.cell? ⟨xb, 3, none⟩ = some (.int .i64 (xt : Int)) := Rx.at.4
            have l0 : W9.cell? ⟨lb, 0, none⟩ = some (.int .i64 (xs : Int)) := Rl.at.1
            have l1 : W9.cell? ⟨lb, 1, none⟩ = some (.int .i64 (xe : Int)) := Rl.at.2
            have l2 : W9.cell? ⟨lb, 2, none⟩ = some (.int .i64 (xk : Int)) := Rl.at.3
            have l3 : W9.cell? ⟨lb, 3, none⟩ = some (.int .i64 (xt : Int)) := Rl.at.4
            clear Rx Rl
            go_wp2
            go_ret
            exact ⟨rfl, HBf9.out⟩
    · have g0 : 0 < (code : Int) := by omega
      go_wp2
      go_ret
      exact ⟨rfl, HB3.out⟩
  · rw [show one01 true = 1 from rfl]
    go_wp2
    go_ret
    exact ⟨rfl, HB2.out⟩
end Go.Proofs.YtkphpgdgbnmnjacGreatDoor
