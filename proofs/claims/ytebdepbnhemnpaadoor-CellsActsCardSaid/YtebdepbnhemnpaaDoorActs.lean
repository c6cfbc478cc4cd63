/-
  nightwatchlaw1.CellsActs told by a contract: it answers true; nothing that was there turns. Conditions: the sentinels are in memory ('Senv'); the acts lie in memory.
-/
import Derived.Test.YtebdepbnhemnpaaDoorNewS
import Derived.Deep.RegionWith
import Derived.Deep.RegionHeld3
import Derived.Deep.CutBlock
import Derived.Deep.QuietTactic
import Derived.BigQuiet
import Derived.Outline
namespace Go.Proofs.YtebdepbnhemnpaaDoor
open Go.RowKit Go.Extern.Stop Go.Stop Go.Extern

theorem bytes_quiet (b : Nat) (s : CSt) (x : ByteArray) (w : World) (n : Nat) (h : CellsAt w b s) (hx : (s.bytes.take s.size).toArray = x.data) :
    Calls Tryd.prog 21 #[.pointer (some ⟨b, 0, none⟩)] (w.drewN n) fun e w' => e = .returned (.string x) ∧ ∃ q, w' = w.drewN q :=
  (bytes_to b s x _ (h.drewN n) hx).mono fun _ _ ⟨he, q, hq⟩ => ⟨he, n + q, by rw [hq]; simp [World.drewN, Nat.add_assoc]⟩

theorem grown_cell {w w' : World} {b : Nat} (hg : w.grownBy w' (some b)) {a : Addr} {v : Value} (h : w.cell? a = some v) (hne : a.block ≠ b) : w'.cell? a = some v :=
  (World.cell?_of_block (hg.block a.block (block_lt h) (by simpa using hne))).trans h
theorem str_part (t : ByteArray) (p n : Nat) (h : p + n ≤ t.size) (W : World) : (Instr.slice 9 (.string t) (some (.int .i64 (p : Int))) (some (.int .i64 ((p : Int) + (n : Int)))) none).run Tryd.prog W = .ok (.string (t.extract p (p + n))) W := by
  rw [run_slice_string W 9 t .i64 .i64 (p : Int) ((p : Int) + (n : Int)) Tryd.underlying9 (by omega) (by omega) (by omega)]
  simp
  congr 2

/-- One act of the input. -/
structure ActD where
  kind : ByteArray
  b : ByteArray
  p : Int
  n : Int
/-- The acts lie in memory: four cells each, from ⟨g, o⟩ on. -/
structure ActsAt (w : World) (g o len : Nat) (l : Nat → ActD) : Prop where
  c0 : ∀ i, i < len → w.cell? ⟨g, o + i * 4, none⟩ = some (.string (l i).kind)
  c1 : ∀ i, i < len → w.cell? ⟨g, o + i * 4 + 1, none⟩ = some (.string (l i).b)
  c2 : ∀ i, i < len → w.cell? ⟨g, o + i * 4 + 2, none⟩ = some (.int .i64 (l i).p)
  c3 : ∀ i, i < len → w.cell? ⟨g, o + i * 4 + 3, none⟩ = some (.int .i64 (l i).n)
theorem ActsAt.below {w w' : World} {g o len : Nat} {l : Nat → ActD} (h : ActsAt w g o len l) (hb : Below w.heap.size w w') : ActsAt w' g o len l :=
  ⟨fun i hi => cell_below hb (h.c0 i hi), fun i hi => cell_below hb (h.c1 i hi), fun i hi => cell_below hb (h.c2 i hi), fun i hi => cell_below hb (h.c3 i hi)⟩

set_option maxRecDepth 100000 in
set_option maxHeartbeats 4000000 in
theorem cellsActs_in (A : Nat → Addr) (t : ByteArray) (size : Int) (sa : Option Addr) (g o len cap : Nat) (l : Nat → ActD) (w : World) (hs : Senv A w) (hsa : 0 < len → sa = some ⟨g, o, none⟩) (hl : ActsAt w g o len l) (h1 : t.size ≤ 200) (h2 : len ≤ 60)
    (hok : ∀ i, i < len → (l i).b.size ≤ maxLen ∧ (l i).kind.size ≤ maxLen ∧ -9223372036854775808 ≤ (l i).p ∧ (l i).p ≤ 9223372036854775807 ∧ -9223372036854775808 ≤ (l i).n ∧ (l i).n ≤ 9223372036854775807) :
    Calls Tryd.prog 5 #[.string t, .int .i64 size, .slice sa len cap] w fun e w' => e = .returned (.bool true) ∧ Below w.heap.size w w' := by
  have hgm := hs.gm
  have t1 : ¬ 200 < (t.size : Int) := by omega
  have t2 : ¬ 6000 < (t.size : Int) := by omega
  have t3 : ¬ 60 < (len : Int) := by omega
  go_enter Tryd.func5, Tryd.ntmps5
  go_wp2_with fail
  refine (stays_any A _ hs).mono ?_
  rintro e w1 ⟨rfl, hb1⟩
  have hs1 := hs.below hb1
  have hz1 := hb1.size
  go_upto_region 4 with fail
  go_cut [8, 9] (fun x e wx => Below w.heap.size w wx ∧ ((∃ N : Nat, size = N ∧ N ≤ 4096 ∧ x = .pointer (some ⟨w1.heap.size, 0, none⟩) ∧ e = .nilIface ∧ CellsAt wx w1.heap.size (CSt.new N)) ∨ ((size < 0 ∨ 4096 < size) ∧ x = .pointer none ∧ e = errVal A 2)))
  case first =>
    as_aux_lemma =>
      by_cases hsz : 0 ≤ size ∧ size ≤ 4096
      · obtain ⟨N, rfl⟩ := Int.eq_ofNat_of_zero_le hsz.1
        go_wp2_with fail
        refine (new_in N w1 (by omega)).mono ?_
        rintro e w2 ⟨rfl, hb2, hat2, -⟩
        go_wp2_with fail
        go_meet
        case rel => exact ⟨hb1.trans (hb2.mono hz1), Or.inl ⟨N, rfl, by omega, rfl, rfl, hat2⟩⟩
      · go_wp2_with fail
        refine (new_out A size w1 hs1 (by omega)).mono ?_
        rintro e w2 ⟨rfl, hb2⟩
        go_wp2_with fail
        go_meet
        case rel => exact ⟨hb1.trans (hb2.mono hz1), Or.inr ⟨by omega, rfl, rfl⟩⟩
  case rest =>
    obtain ⟨hb2, hcase⟩ := hcut
    go_upto_region 5 with fail
    go_cut [52] (fun c wx => c = .bool (decide (size < 0 ∨ 4096 < size)) ∧ wx = wc)
    case first =>
      as_aux_lemma =>
        by_cases q1 : size < 0
        · go_wp2
          go_meet
          case rel => exact ⟨by simp [q1], rfl⟩
        · by_cases q2 : 4096 < size
          all_goals
            go_wp2
            go_meet
            case rel => exact ⟨by simp [q2]; try omega, rfl⟩
    case rest =>
    obtain ⟨rfl, rfl⟩ := hcut
    go_upto_if 52 with fail
    go_cut [9] (fun _ wx => Below w.heap.size w wx)
    case first =>
      as_aux_lemma =>
        rcases hcase with ⟨N, rfl, hN, rfl, rfl, hat2⟩ | ⟨hout, rfl, rfl⟩
        · have hdec : decide ((N : Int) < 0 ∨ 4096 < (N : Int)) = false := by simp; omega
          have hx : ((CSt.new N).bytes.take (CSt.new N).size).toArray = (Z N).data := by show ((zeros 4096).take N).toArray = _; rw [zeros_take _ _ hN]; rfl
          have HX : Hid _ := hx
          have hmk1 := run_make_row' (P := Tryd.prog) 41 5 (.int .u8 0) 1 Tryd.underlying41 Tryd.infoB rfl .i64 .i64 N (by omega) (by omega)
          clear hx
          go_upto_region 8 with fail
          go_cut [73] (fun c wx => c = .bool false ∧ Below w.heap.size w wx)
          case first =>
            refine region_spec 14 rfl (newS w1.heap.size N) (fun w' => Below w.heap.size w w' ∧ CellsAt w' w1.heap.size (CSt.new N)) (by kernel_rfl) (by kernel_rfl) ⟨hb2.drew, hat2.drew⟩ ?_ ?_
            · intro i o ho
              match i, ho with
              | 0, ho =>
                obtain rfl := Option.some.inj ho
                refine StepOk.free rfl ?_
                intro a w hC hdep hoth
                have x9 : a.tmps[9]?.getD undef = .nilIface := slot_of (hoth 9 (notDst (by kernel_rfl)))
                exact goodRun.val (c := .nilIface) (by clear hdep hoth; go_simp) hC rfl
              | 1, ho =>
                obtain rfl := Option.some.inj ho
                refine StepOk.free rfl ?_
                intro a w hC hdep hoth
                have x60 : a.tmps[60]?.getD undef = .nilIface := slot_of (hdep _ 60 (Array.mem_of_getElem? (i := 0) rfl) rfl rfl)
                exact goodRun.val (c := .bool false) (by clear hdep hoth; go_simp) hC rfl
              | 2, ho =>
                obtain rfl := Option.some.inj ho
                refine StepOk.free rfl ?_
                intro a w hC hdep hoth
                have x61 : a.tmps[61]?.getD undef = .bool false := slot_of (hdep _ 61 (Array.mem_of_getElem? (i := 0) rfl) rfl rfl)
                exact goodRun.val (c := .bool false) (by clear hdep hoth; go_simp) hC rfl
              | 3, ho =>
                obtain rfl := Option.some.inj ho
                refine StepOk.yes (g := 2) (d := 62) rfl rfl (fun a w hC hdep => hdep _ 62 (Array.mem_of_getElem? (i := 0) rfl) rfl rfl) ?_
                intro a w hC hdep hoth
                have x8 : a.tmps[8]?.getD undef = .pointer (some ⟨w1.heap.size, 0, none⟩) := slot_of (hoth 8 (notDst (by kernel_rfl)))
                exact goodRun.val (c := .pointer (some ⟨w1.heap.size, 0, none⟩)) (by clear hdep hoth; go_simp) hC rfl
              | 4, ho =>
                obtain rfl := Option.some.inj ho
                refine StepOk.yes (g := 2) (d := 62) rfl rfl (fun a w hC hdep => hdep _ 62 (Array.mem_of_getElem? (i := 1) rfl) rfl rfl) ?_
                intro a w hC hdep hoth
                have x63 : a.tmps[63]?.getD undef = .pointer (some ⟨w1.heap.size, 0, none⟩) := slot_of (hdep _ 63 (Array.mem_of_getElem? (i := 0) rfl) rfl rfl)
                exact goodRun.val (c := .bool false) (by clear hdep hoth; go_simp) hC rfl
              | 5, ho =>
                obtain rfl := Option.some.inj ho
                refine StepOk.free rfl ?_
                intro a w hC hdep hoth
                have x62 : a.tmps[62]?.getD undef = .bool false := slot_of (hdep _ 62 (Array.mem_of_getElem? (i := 0) rfl) rfl rfl)
                have x64 : a.tmps[64]?.getD undef = .bool false := slot_of (hdep _ 64 (Array.mem_of_getElem? (i := 1) rfl) rfl rfl)
                exact goodRun.val (c := .bool false) (by clear hdep hoth; go_simp) hC rfl
              | 6, ho =>
                obtain rfl := Option.some.inj ho
                refine StepOk.free rfl ?_
                intro a w hC hdep hoth
                have x65 : a.tmps[65]?.getD undef = .bool false := slot_of (hdep _ 65 (Array.mem_of_getElem? (i := 0) rfl) rfl rfl)
                exact goodRun.val (c := .bool false) (by clear hdep hoth; go_simp) hC rfl
              | 7, ho =>
                obtain rfl := Option.some.inj ho
                refine StepOk.yes (g := 6) (d := 66) rfl rfl (fun a w hC hdep => hdep _ 66 (Array.mem_of_getElem? (i := 0) rfl) rfl rfl) ?_
                intro a w hC hdep hoth
                have x8 : a.tmps[8]?.getD undef = .pointer (some ⟨w1.heap.size, 0, none⟩) := slot_of (hoth 8 (notDst (by kernel_rfl)))
                exact goodRun.val (c := .pointer (some ⟨w1.heap.size, 0, none⟩)) (by clear hdep hoth; go_simp) hC rfl
              | 8, ho =>
                obtain rfl := Option.some.inj ho
                refine StepOk.yes (g := 6) (d := 66) rfl rfl (fun a w hC hdep => hdep _ 66 (Array.mem_of_getElem? (i := 1) rfl) rfl rfl) ?_
                intro a w hC hdep hoth
                have x67 : a.tmps[67]?.getD undef = .pointer (some ⟨w1.heap.size, 0, none⟩) := slot_of (hdep _ 67 (Array.mem_of_getElem? (i := 0) rfl) rfl rfl)
                refine goodRun.call (f := 21) (args := #[.pointer (some ⟨w1.heap.size, 0, none⟩)]) (by clear hdep hoth; go_simp) ?_
                refine (bytes_to _ _ _ _ hC.2 HX.out).mono ?_
                rintro e w' ⟨rfl, q, rfl⟩
                exact ⟨_, rfl, ⟨below_drewN hC.1 _, hC.2.drewN _⟩, newS_keeps (below_drewN (Below.refl _ _) _), rfl⟩
              | 9, ho =>
                obtain rfl := Option.some.inj ho
                refine StepOk.yes (g := 6) (d := 66) rfl rfl (fun a w hC hdep => hdep _ 66 (Array.mem_of_getElem? (i := 0) rfl) rfl rfl) ?_
                intro a w hC hdep hoth
                have x1 : a.tmps[1]?.getD undef = .int .i64 (N : Int) := slot_of (hoth 1 (notDst (by kernel_rfl)))
                exact goodRun.val (c := .int .i64 (N : Int)) (by clear hdep hoth; go_simp) hC rfl
              | 10, ho =>
                obtain rfl := Option.some.inj ho
                refine StepOk.yes (g := 6) (d := 66) rfl rfl (fun a w hC hdep => hdep _ 66 (Array.mem_of_getElem? (i := 2) rfl) rfl rfl) ?_
                intro a w hC hdep hoth
                have x69 : a.tmps[69]?.getD undef = .int .i64 (N : Int) := slot_of (hdep _ 69 (Array.mem_of_getElem? (i := 0) rfl) rfl rfl)
                exact goodRun.made (c := (.slice (some ⟨w.heap.size, 0, none⟩) N N)) (w' := w.alloc (.cells (madeCells #[.int .u8 0] N) 5)) (by clear hdep hoth; go_simp) ⟨hC.1.alloc hC.1.size _, hC.2.alloc _⟩ (newS_keeps ((Below.refl _ _).alloc (Nat.le_refl _) _)) ⟨w.heap.size, rfl, heap_first w _⟩
              | 11, ho =>
                obtain rfl := Option.some.inj ho
                refine StepOk.yes (g := 6) (d := 66) rfl rfl (fun a w hC hdep => hdep _ 66 (Array.mem_of_getElem? (i := 1) rfl) rfl rfl) ?_
                intro a w hC hdep hoth
                obtain ⟨b, hv, hrow⟩ := hdep _ 70 (Array.mem_of_getElem? (i := 0) rfl) rfl rfl
                have x70 := slot_of hv
                have cv := conv_made _ _ _ N hrow
                clear hv hrow
                exact goodRun.val (c := .string (Z N)) (by clear hdep hoth; go_simp) hC rfl
              | 12, ho =>
                obtain rfl := Option.some.inj ho
                refine StepOk.yes (g := 6) (d := 66) rfl rfl (fun a w hC hdep => hdep _ 66 (Array.mem_of_getElem? (i := 2) rfl) rfl rfl) ?_
                intro a w hC hdep hoth
                have x68 : a.tmps[68]?.getD undef = .string (Z N) := slot_of (hdep _ 68 (Array.mem_of_getElem? (i := 0) rfl) rfl rfl)
                have x71 : a.tmps[71]?.getD undef = .string (Z N) := slot_of (hdep _ 71 (Array.mem_of_getElem? (i := 1) rfl) rfl rfl)
                exact goodRun.val (c := .bool false) (by clear hdep hoth; go_simp) hC rfl
              | 13, ho =>
                obtain rfl := Option.some.inj ho
                refine StepOk.free rfl ?_
                intro a w hC hdep hoth
                have x66 : a.tmps[66]?.getD undef = .bool false := slot_of (hdep _ 66 (Array.mem_of_getElem? (i := 0) rfl) rfl rfl)
                have x72 : a.tmps[72]?.getD undef = .bool false := slot_of (hdep _ 72 (Array.mem_of_getElem? (i := 1) rfl) rfl rfl)
                exact goodRun.val (c := .bool false) (by clear hdep hoth; go_simp) hC rfl
              | n + 14, ho => simp at ho
            · intro vals w5 hC hS
              have e73 : vals 13 = .bool false := hS 13 (by decide)
              clear hS
              simp only [fill, dstOf]
              go_simp
              go_wp2_with fail
              go_meet
              case rel => exact ⟨rfl, hC.1⟩
          case rest =>
            obtain ⟨rfl, hb3⟩ := hcut
            go_wp2_with fail
            go_meet
            case rel => exact hb3
        · have hdec : decide (size < 0 ∨ 4096 < size) = true := by simpa using hout
          have hs2 := hs.below hb2
          unfold errVal
          go_wp2_with fail
          refine (coded_sent A 1 2 _ hs2 (by decide)).mono ?_
          rintro e w7 ⟨rfl, hb7⟩
          go_wp2_with fail
          go_meet
          case rel => exact hb2.trans (hb7.mono hb2.size)
    case rest =>
    clear hcase hb2
    have hb3 : Below w.heap.size w wc := hcut
    clear hcut
    go_wp2_with fail
    refine (from_in t wc (by omega)).mono ?_
    rintro e w4 ⟨rfl, hb4, hat4⟩
    have hb5 : Below w.heap.size w w4 := hb3.trans (hb4.mono hb3.size)
    have hlt4 := hat4.lt
    have hz3 := hb3.size
    have t4 : ¬ 4096 < (t.size : Int) := by omega
    clear hb3 hb4
    go_wp2_with fail
    have hb6 : Below w.heap.size w (w4.alloc (.cells (MSt.row ⟨t, false, 0, false, 0⟩) 50)) := hb5.alloc hb5.size _
    have hat6 := hat4.alloc (.cells (MSt.row ⟨t, false, 0, false, 0⟩) 50)
    have hmat6 : ModAt (w4.alloc (.cells (MSt.row ⟨t, false, 0, false, 0⟩) 50)) w4.heap.size ⟨t, false, 0, false, 0⟩ := ⟨heap_alloc_new _ _⟩
    have hsim6 := Sim.text t (by omega)
    generalize hbm : w4.heap.size = bm at *
    have hbm1 : w.heap.size ≤ bm := by have := hb5.size; omega
    have hne6 : wc.heap.size ≠ bm := by omega
    go_loopw [10, 12] (fun c i wr => ∃ (k bc : Nat) (s : CSt) (m : MSt), k ≤ len ∧ i = .int .i64 k ∧ c = .pointer (some ⟨bc, 0, none⟩) ∧ w.heap.size ≤ bc ∧ bc ≠ bm ∧ s.written ≤ 300 * k ∧ CellsAt wr bc s ∧ ModAt wr bm m ∧ Sim s m ∧ Below w.heap.size w wr) (fun _ i _ => len - (intOf i).toNat)
    case atStart => exact ⟨0, wc.heap.size, _, _, Nat.zero_le _, rfl, rfl, by omega, hne6, Nat.zero_le _, hat6, hmat6, hsim6, hb6⟩
    case round =>
      clear hb6 hat6 hmat6 hsim6 hat4 hb5 hbm hne6 hs1 hb1 hz1
      obtain ⟨k, bc, s, m, hk, rfl, rfl, hbc, hne, hwr, hat, hmat, hsim, hb⟩ := hrel
      by_cases hlt : k < len
      · obtain rfl := hsa (by omega)
        have ha := hl.below hb
        have a0 := ha.c0 k hlt
        have a1 := ha.c1 k hlt
        have a2 := ha.c2 k hlt
        have a3 := ha.c3 k hlt
        have hk1 := hok k hlt
        clear ha hok
        generalize l k = act at *
        obtain ⟨hk1, hk2, hk3, hk4, hk5, hk6⟩ := hk1
        unfold maxLen at hk1 hk2
        have hlt' : (k : Int) < (len : Int) := by omega
        have hk0 : (0 : Int) ≤ (k : Int) := by omega
        have hs5 := hs.below hb
        have hbw : Below wr.heap.size wr (wr.alloc (.cells #[.string act.kind, .string act.b, .int .i64 act.p, .int .i64 act.n] 52)) := (Below.refl _ _).alloc (Nat.le_refl _) _
        have hltb := hat.lt
        have hltm := hmat.lt
        go_upto_if 110 with fail
        go_cut [13] (fun p wx => p = .pointer (some ⟨wr.heap.size, 0, none⟩) ∧ act.b.size ≤ 200 ∧ wx.cell? ⟨wr.heap.size, 0, none⟩ = some (.string act.kind) ∧ wx.cell? ⟨wr.heap.size, 1, none⟩ = some (.string act.b) ∧ wx.cell? ⟨wr.heap.size, 2, none⟩ = some (.int .i64 act.p) ∧ wx.cell? ⟨wr.heap.size, 3, none⟩ = some (.int .i64 act.n) ∧ CellsAt wx bc s ∧ ModAt wx bm m ∧ Below w.heap.size w wx)
        case first =>
          by_cases hB : 200 < (act.b.size : Int)
          · go_wp2
            go_ret
            exact ⟨rfl, hb.alloc hb.size _⟩
          · go_wp2_with fail
            go_meet
            case rel => exact ⟨rfl, by omega, by simp, by simp, by simp, by simp, hat.below hbw, hmat.below hbw, hb.alloc hb.size _⟩
        case rest =>
        clear hat hmat hbw hs5 a0 a1 a2 a3 hb hk1 hk2
        generalize wr.heap.size = ba at *
        obtain ⟨rfl, hB, a0, a1, a2, a3, hat, hmat, hb⟩ := hcut
        have hs5 := hs.below hb
        go_upto_block 2 with fail
        go_cut [10] (fun c wx => ∃ (bc' : Nat) (s' : CSt) (m' : MSt), c = .pointer (some ⟨bc', 0, none⟩) ∧ w.heap.size ≤ bc' ∧ bc' ≠ bm ∧ s'.written ≤ 300 * (k + 1) ∧ CellsAt wx bc' s' ∧ ModAt wx bm m' ∧ Sim s' m' ∧ Below w.heap.size w wx)
        case first =>
          have hgc : 12 ≤ bc := by omega
          have hap := hs.apart bc hbc
          have hnab : ba ≠ bc := by omega
          have hnam : ba ≠ bm := by omega
          cases q1 : (act.kind.toList == [114, 101, 97, 100])
          · cases q2 : (act.kind.toList == [119, 114, 105, 116, 101])
            · cases q3 : (act.kind.toList == [99, 117, 116])
              · cases q4 : (act.kind.toList == [111, 110])
                · as_aux_lemma =>
                    have hby : bc < wc.heap.size := hat.lt
                    have hbym : bm < wc.heap.size := hmat.lt
                    obtain ⟨s1, m1, j1, -, -, -, HW, -⟩ := write_both A bc bm { s with off := false, cut := false, left := 0 } { m with off := false, cuts := false } 0 ⟨#[111, 116, 104, 101, 114]⟩ hsim.on hgc hap (by show s.written + 5 ≤ _; omega) (by decide)
                    have HWh : Hid _ := HW
                    clear HW
                    go_wp2_with fail
                    refine (copy_any _ _ _ hat).mono ?_
                    rintro e w6 ⟨rfl, hb6, hat6⟩
                    have hatc := hat.below hb6
                    have hmat6 := hmat.below hb6
                    have hbw6 : Below w.heap.size w w6 := hb.trans (hb6.mono hb.size)
                    have hzc := hb.size
                    clear hat hmat hb hb6 a0 a1 a2 a3 hs5
                    go_wp2_with fail
                    refine (on_any _ _ _ hatc).mono ?_
                    rintro e w7 ⟨rfl, hatc7, hg7, -⟩
                    have haty7 := hat6.other hg7 (by omega)
                    have hmat7 := hmat6.other hg7 (Ne.symm hne)
                    have hb7 := below_grown hbw6 hg7 hbw6.size hbc
                    have hs7 := hs.below hb7
                    clear hatc hmat6 hbw6 hg7 hat6
                    go_wp2_with fail
                    refine Calls.mono (HWh.out _ hatc7 hs7) ?_
                    rintro e w8 ⟨rfl, hatc8, hg8⟩
                    have haty8 := haty7.other hg8 (by omega)
                    have hmat8 := hmat7.other hg8 (Ne.symm hne)
                    have hb8 := below_grown hb7 hg8 hb7.size hbc
                    go_wp2_with fail
                    go_meet
                    case rel => exact ⟨wc.heap.size, s, m, rfl, hzc, by omega, by omega, haty8, hmat8, hsim, hb8⟩
                · as_aux_lemma =>
                    go_wp2_with fail
                    refine (on_any _ _ _ hat).mono ?_
                    rintro e w6 ⟨rfl, hat6, hg6, -⟩
                    have hmat6 := hmat.other hg6 (Ne.symm hne)
                    have hb6 := below_grown hb hg6 hb.size hbc
                    clear hat hmat hb hg6 a0 a1 a2 a3 hs5
                    go_wp2_with fail
                    refine (mon_any _ _ _ hmat6).mono ?_
                    rintro e w7 ⟨rfl, hmat7, hg7, -⟩
                    have hat7 := hat6.other hg7 hne
                    have hb7 := below_grown hb6 hg7 hb6.size hbm1
                    go_wp2_with fail
                    go_meet
                    case rel => exact ⟨bc, _, _, rfl, hbc, hne, by simp; omega, hat7, hmat7, hsim.on, hb7⟩
              · as_aux_lemma =>
                  obtain ⟨s1, m1, j1, hj1, hsim1, hw1, HW, HM⟩ := cut_both A bc bm s m act.n hsim hk6
                  have HWh : Hid _ := HW
                  have HMh : Hid _ := HM
                  clear HW HM
                  have hatd := hat.drew
                  have hmatd : ModAt wc.drew bm m := ⟨hmat.heap⟩
                  have hbd := hb.drew
                  have hsd := hs.below hbd
                  clear hat hmat hb hs5
                  go_upto_region 41 with fail
                  clear q1 q2 q3
                  go_region_held3 (fun w' => w'.cell? ⟨ba, 3, none⟩ = some (.int .i64 act.n)) (first | exact a3 | exact b3 | exact d3 | exact e3) (first | (go_at_call 19; refine Calls.mono (HWh.out _ hatd hsd) ?_; rintro e w6 ⟨rfl, hat6, hg6⟩; have b1 := grown_cell hg6 (a := ⟨ba, 1, none⟩) a1 hnab; have b2 := grown_cell hg6 (a := ⟨ba, 2, none⟩) a2 hnab; have b3 := grown_cell hg6 (a := ⟨ba, 3, none⟩) a3 hnab; have hmat6 := hmatd.other hg6 (Ne.symm hne); have hb6 := below_grown hbd hg6 hbd.size hbc) | (go_at_call 28; refine Calls.mono (HMh.out _ hmat6) ?_; rintro e w7 ⟨rfl, hmat7, hg7⟩; have d1 := grown_cell hg7 (a := ⟨ba, 1, none⟩) b1 hnam; have d2 := grown_cell hg7 (a := ⟨ba, 2, none⟩) b2 hnam; have d3 := grown_cell hg7 (a := ⟨ba, 3, none⟩) b3 hnam; have hat7 := hat6.other hg7 hne; have hb7 := below_grown hb6 hg7 hb6.size hbm1; have hs7 := hs.below hb7) | (go_at_call 15; refine (coded_same A j1 _ hs7 hj1).mono ?_; rintro e w8 ⟨rfl, hb8⟩; have e1 := cell_below hb8 d1; have e2 := cell_below hb8 d2; have e3 := cell_below hb8 d3))
                  go_wp2_with fail
                  go_meet
                  case rel => exact ⟨bc, s1, m1, rfl, hbc, hne, by omega, hat7.below hb8, hmat7.below hb8, hsim1, hb7.trans (hb8.mono hb7.size)⟩
            · as_aux_lemma =>
                obtain ⟨s1, m1, j1, hj1, hsim1, hw1, HW, HM⟩ := write_both A bc bm s m act.p act.b hsim hgc hap (by omega) hk4
                have HWh : Hid _ := HW
                have HMh : Hid _ := HM
                clear HW HM
                have hatd := hat.drew
                have hmatd : ModAt wc.drew bm m := ⟨hmat.heap⟩
                have hbd := hb.drew
                have hsd := hs.below hbd
                clear hat hmat hb hs5
                go_upto_region 38 with fail
                clear q1 q2
                go_region_held3 (fun w' => w'.cell? ⟨ba, 1, none⟩ = some (.string act.b) ∧ w'.cell? ⟨ba, 2, none⟩ = some (.int .i64 act.p)) (first | exact ⟨a1, a2⟩ | exact ⟨b1, b2⟩ | exact ⟨d1, d2⟩ | exact ⟨e1, e2⟩) (first | (go_at_call 20; refine Calls.mono (HWh.out _ hatd hsd) ?_; rintro e w6 ⟨rfl, hat6, hg6⟩; have b1 := grown_cell hg6 (a := ⟨ba, 1, none⟩) a1 hnab; have b2 := grown_cell hg6 (a := ⟨ba, 2, none⟩) a2 hnab; have b3 := grown_cell hg6 (a := ⟨ba, 3, none⟩) a3 hnab; have hmat6 := hmatd.other hg6 (Ne.symm hne); have hb6 := below_grown hbd hg6 hbd.size hbc) | (go_at_call 27; refine Calls.mono (HMh.out _ hmat6) ?_; rintro e w7 ⟨rfl, hmat7, hg7⟩; have d1 := grown_cell hg7 (a := ⟨ba, 1, none⟩) b1 hnam; have d2 := grown_cell hg7 (a := ⟨ba, 2, none⟩) b2 hnam; have d3 := grown_cell hg7 (a := ⟨ba, 3, none⟩) b3 hnam; have hat7 := hat6.other hg7 hne; have hb7 := below_grown hb6 hg7 hb6.size hbm1; have hs7 := hs.below hb7) | (go_at_call 15; refine (coded_same A j1 _ hs7 hj1).mono ?_; rintro e w8 ⟨rfl, hb8⟩; have e1 := cell_below hb8 d1; have e2 := cell_below hb8 d2; have e3 := cell_below hb8 d3))
                go_wp2_with fail
                go_meet
                case rel => exact ⟨bc, s1, m1, rfl, hbc, hne, by omega, hat7.below hb8, hmat7.below hb8, hsim1, hb7.trans (hb8.mono hb7.size)⟩
          · have hbz : m.B.size ≤ 4096 := by rw [hsim.bsize]; exact hsim.size
            have m0 := hmat.c0
            rcases s.err_cases act.p act.n with he | he | he
            · as_aux_lemma =>
                obtain ⟨hp0, hn0, hfit, -⟩ := CSt.err_zero he
                obtain ⟨pp, hpp⟩ := Int.eq_ofNat_of_zero_le hp0
                obtain ⟨nn, hnn⟩ := Int.eq_ofNat_of_zero_le hn0
                have hmsz := hsim.bsize
                have HME : Hid (m.err (pp : Int) (nn : Int) = 0) := by show _ = _; rw [hsim.err, ← hpp, ← hnn]; exact he
                have HEE : Hid (s.err (pp : Int) (nn : Int) = 0) := by show _ = _; rw [← hpp, ← hnn]; exact he
                rw [hpp] at a2
                rw [hnn] at a3
                have hst := str_part m.B pp nn (by omega)
                have hpb : (pp : Int) ≤ 9223372036854775807 := by omega
                have hsz2 := hsim.size
                have hpn : (pp : Int) + (nn : Int) ≤ 4096 := by omega
                have wrp : IntKind.i64.wrap ((pp : Int) + (nn : Int)) = (pp : Int) + (nn : Int) := wrap_same (by omega) (by omega)
                clear hpp hnn he hp0 hn0 hfit hmsz hsz2
                go_wp2_with fail
                refine (read_to A _ _ m pp nn _ hat hs5 hsim HEE.out).mono ?_
                rintro e w6 ⟨rfl, rfl⟩
                go_wp2_with fail
                refine (merr_any _ _ _ _ _ hmat hbz hpb).mono ?_
                rintro e w7 ⟨rfl, rfl⟩
                rw [HME.out]
                go_upto_region 35 with fail
                go_quiet (fail)
                go_wp2
                go_meet
                case rel => exact ⟨bc, s, m, rfl, hbc, hne, by omega, hat.drewN _, ⟨hmat.heap⟩, hsim, below_drewN hb _⟩
            all_goals
              as_aux_lemma =>
                have HME : Hid (m.err act.p act.n = s.err act.p act.n) := hsim.err _ _
                have HEE : Hid _ := he
                have hpos : (0 : Int) < ((1 + 1 : Nat) : Int) ∧ (0 : Int) < ((7 + 1 : Nat) : Int) := by decide
                clear he
                go_wp2_with fail
                refine (read_no A _ _ _ _ _ _ hat hs5 hk4 HEE.out).mono ?_
                rintro e w6 ⟨rfl, rfl⟩
                go_wp2_with fail
                refine (merr_any _ _ _ _ _ hmat hbz hk4).mono ?_
                rintro e w7 ⟨rfl, rfl⟩
                rw [HME.out, HEE.out]
                go_wp2_with fail
                refine (coded_same A _ _ hs5 (by decide)).mono ?_
                rintro e w8 ⟨rfl, hb8⟩
                go_wp2_with fail
                go_meet
                case rel => exact ⟨bc, s, m, rfl, hbc, hne, by omega, hat.below hb8, hmat.below hb8, hsim, hb.trans (hb8.mono hb.size)⟩
        case rest =>
          as_aux_lemma =>
            clear hat hmat hsim hb hs5 a0 a1 a2 a3
            obtain ⟨bc', s', m', rfl, hbc', hne', hwr', hat, hmat, hsim, hb⟩ := hcut
            have m0 := hmat.c0
            have m1 := hmat.c1
            have m4 := hmat.c4
            rw [hsim.off] at m1
            rw [hsim.written] at m4
            have hdec : (!s'.off == s'.off) = false := by cases s'.off <;> rfl
            go_upto_region 46 with fail
            go_quiet (first | (go_at_call 21; exact bytes_quiet _ _ _ _ _ hat hsim.bytes) | (go_at_call 23; exact Calls.quiet_of_same (power_any _ _ _ (hat.drewN _))) | (go_at_call 22; exact Calls.quiet_of_same (written_any _ _ _ (hat.drewN _))))
            go_wp2
            go_roundw
            case rel => exact ⟨k + 1, bc', s', m', by omega, by go_num, rfl, hbc', hne', hwr', hat.drewN _, ⟨hmat.heap⟩, hsim, below_drewN hb _⟩
            case measure => simp [intOf]; omega
      · go_wp2
        go_ret
        exact ⟨rfl, hb⟩
end Go.Proofs.YtebdepbnhemnpaaDoor
