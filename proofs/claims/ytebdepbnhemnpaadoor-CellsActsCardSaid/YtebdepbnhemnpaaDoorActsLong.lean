/-
  nightwatchlaw1.CellsActs on texts that are too long for cells, told by a contract: it answers true; nothing that was there turns. Conditions: the sentinels are in memory ('Senv').
-/
import Derived.Test.YtebdepbnhemnpaaDoorNewS
import Derived.Deep.CutBlock
import Derived.Outline
namespace Go.Proofs.YtebdepbnhemnpaaDoor
open Go.RowKit Go.Extern.Stop Go.Stop Go.Extern

set_option maxRecDepth 100000 in
set_option maxHeartbeats 4000000 in
theorem cellsActs_long (A : Nat → Addr) (t : ByteArray) (size : Int) (sa : Option Addr) (len cap : Nat) (w : World) (hs : Senv A w) (h1 : 4096 < t.size) (h1' : t.size ≤ 6000) (h2 : len ≤ 60) :
    Calls Tryd.prog 5 #[.string t, .int .i64 size, .slice sa len cap] w fun e w' => e = .returned (.bool true) ∧ Below w.heap.size w w' := by
  have hgm := hs.gm
  have t1 : 200 < (t.size : Int) := by omega
  have t1' : ¬ (t.size : Int) ≤ 4096 := by omega
  have t2 : ¬ 6000 < (t.size : Int) := by omega
  have t3 : ¬ 60 < (len : Int) := by omega
  go_enter Tryd.func5, Tryd.ntmps5
  go_wp2_with fail
  refine (stays_any A _ hs).mono ?_
  rintro e w1 ⟨rfl, hb1⟩
  have hs1 := hs.below hb1
  have hz1 := hb1.size
  go_upto_region 4 with fail
  go_cut [8, 9] (fun x e wx => Below w.heap.size w wx ∧ ((∃ N : Nat, size = N ∧ N ≤ 4096 ∧ x = .pointer (some ⟨w1.heap.size, 0, none⟩) ∧ e = .nilIface ∧ CellsAt wx w1.heap.size (CSt.new N)) ∨ ((size < 0 ∨ 4096 < size) ∧ x = .pointer none ∧ e = errVal A 2)))
  case first =>
    by_cases hsz : 0 ≤ size ∧ size ≤ 4096
    · obtain ⟨N, rfl⟩ := Int.eq_ofNat_of_zero_le hsz.1
      go_wp2_with fail
      refine (new_in N w1 (by omega)).mono ?_
      rintro e w2 ⟨rfl, hb2, hat2, -⟩
      go_wp2_with fail
      go_meet
      case rel => exact ⟨hb1.trans (hb2.mono hz1), Or.inl ⟨N, rfl, by omega, rfl, rfl, hat2⟩⟩
    · go_wp2_with fail
      refine (new_out A size w1 hs1 (by omega)).mono ?_
      rintro e w2 ⟨rfl, hb2⟩
      go_wp2_with fail
      go_meet
      case rel => exact ⟨hb1.trans (hb2.mono hz1), Or.inr ⟨by omega, rfl, rfl⟩⟩
  case rest =>
    obtain ⟨hb2, hcase⟩ := hcut
    go_upto_region 5 with fail
    go_cut [52] (fun c wx => c = .bool (decide (size < 0 ∨ 4096 < size)) ∧ wx = wc)
    case first =>
      by_cases q1 : size < 0
      · go_wp2
        go_meet
        case rel => exact ⟨by simp [q1], rfl⟩
      · by_cases q2 : 4096 < size
        all_goals
          go_wp2
          go_meet
          case rel => exact ⟨by simp [q2]; try omega, rfl⟩
    case rest =>
    obtain ⟨rfl, rfl⟩ := hcut
    go_upto_if 52 with fail
    go_cut [9] (fun _ wx => Below w.heap.size w wx)
    case first =>
      rcases hcase with ⟨N, rfl, hN, rfl, rfl, hat2⟩ | ⟨hout, rfl, rfl⟩
      · have hdec : decide ((N : Int) < 0 ∨ 4096 < (N : Int)) = false := by simp; omega
        have hx : ((CSt.new N).bytes.take (CSt.new N).size).toArray = (Z N).data := by show ((zeros 4096).take N).toArray = _; rw [zeros_take _ _ hN]; rfl
        have HX : Hid _ := hx
        have hmk1 := run_make_row' (P := Tryd.prog) 41 5 (.int .u8 0) 1 Tryd.underlying41 Tryd.infoB rfl .i64 .i64 N (by omega) (by omega)
        clear hx
        go_upto_region 8 with fail
        go_cut [73] (fun c wx => c = .bool false ∧ Below w.heap.size w wx)
        case first =>
          refine region_spec 14 rfl (newS w1.heap.size N) (fun w' => Below w.heap.size w w' ∧ CellsAt w' w1.heap.size (CSt.new N)) (by kernel_rfl) (by kernel_rfl) ⟨hb2.drew, hat2.drew⟩ ?_ ?_
          · intro i o ho
            match i, ho with
            | 0, ho =>
              obtain rfl := Option.some.inj ho
              refine StepOk.free rfl ?_
              intro a w hC hdep hoth
              have x9 : a.tmps[9]?.getD undef = .nilIface := slot_of (hoth 9 (notDst (by kernel_rfl)))
              exact goodRun.val (c := .nilIface) (by clear hdep hoth; go_simp) hC rfl
            | 1, ho =>
              obtain rfl := Option.some.inj ho
              refine StepOk.free rfl ?_
              intro a w hC hdep hoth
              have x60 : a.tmps[60]?.getD undef = .nilIface := slot_of (hdep _ 60 (Array.mem_of_getElem? (i := 0) rfl) rfl rfl)
              exact goodRun.val (c := .bool false) (by clear hdep hoth; go_simp) hC rfl
            | 2, ho =>
              obtain rfl := Option.some.inj ho
              refine StepOk.free rfl ?_
              intro a w hC hdep hoth
              have x61 : a.tmps[61]?.getD undef = .bool false := slot_of (hdep _ 61 (Array.mem_of_getElem? (i := 0) rfl) rfl rfl)
              exact goodRun.val (c := .bool false) (by clear hdep hoth; go_simp) hC rfl
            | 3, ho =>
              obtain rfl := Option.some.inj ho
              refine StepOk.yes (g := 2) (d := 62) rfl rfl (fun a w hC hdep => hdep _ 62 (Array.mem_of_getElem? (i := 0) rfl) rfl rfl) ?_
              intro a w hC hdep hoth
              have x8 : a.tmps[8]?.getD undef = .pointer (some ⟨w1.heap.size, 0, none⟩) := slot_of (hoth 8 (notDst (by kernel_rfl)))
              exact goodRun.val (c := .pointer (some ⟨w1.heap.size, 0, none⟩)) (by clear hdep hoth; go_simp) hC rfl
            | 4, ho =>
              obtain rfl := Option.some.inj ho
              refine StepOk.yes (g := 2) (d := 62) rfl rfl (fun a w hC hdep => hdep _ 62 (Array.mem_of_getElem? (i := 1) rfl) rfl rfl) ?_
              intro a w hC hdep hoth
              have x63 : a.tmps[63]?.getD undef = .pointer (some ⟨w1.heap.size, 0, none⟩) := slot_of (hdep _ 63 (Array.mem_of_getElem? (i := 0) rfl) rfl rfl)
              exact goodRun.val (c := .bool false) (by clear hdep hoth; go_simp) hC rfl
            | 5, ho =>
              obtain rfl := Option.some.inj ho
              refine StepOk.free rfl ?_
              intro a w hC hdep hoth
              have x62 : a.tmps[62]?.getD undef = .bool false := slot_of (hdep _ 62 (Array.mem_of_getElem? (i := 0) rfl) rfl rfl)
              have x64 : a.tmps[64]?.getD undef = .bool false := slot_of (hdep _ 64 (Array.mem_of_getElem? (i := 1) rfl) rfl rfl)
              exact goodRun.val (c := .bool false) (by clear hdep hoth; go_simp) hC rfl
            | 6, ho =>
              obtain rfl := Option.some.inj ho
              refine StepOk.free rfl ?_
              intro a w hC hdep hoth
              have x65 : a.tmps[65]?.getD undef = .bool false := slot_of (hdep _ 65 (Array.mem_of_getElem? (i := 0) rfl) rfl rfl)
              exact goodRun.val (c := .bool false) (by clear hdep hoth; go_simp) hC rfl
            | 7, ho =>
              obtain rfl := Option.some.inj ho
              refine StepOk.yes (g := 6) (d := 66) rfl rfl (fun a w hC hdep => hdep _ 66 (Array.mem_of_getElem? (i := 0) rfl) rfl rfl) ?_
              intro a w hC hdep hoth
              have x8 : a.tmps[8]?.getD undef = .pointer (some ⟨w1.heap.size, 0, none⟩) := slot_of (hoth 8 (notDst (by kernel_rfl)))
              exact goodRun.val (c := .pointer (some ⟨w1.heap.size, 0, none⟩)) (by clear hdep hoth; go_simp) hC rfl
            | 8, ho =>
              obtain rfl := Option.some.inj ho
              refine StepOk.yes (g := 6) (d := 66) rfl rfl (fun a w hC hdep => hdep _ 66 (Array.mem_of_getElem? (i := 1) rfl) rfl rfl) ?_
              intro a w hC hdep hoth
              have x67 : a.tmps[67]?.getD undef = .pointer (some ⟨w1.heap.size, 0, none⟩) := slot_of (hdep _ 67 (Array.mem_of_getElem? (i := 0) rfl) rfl rfl)
              refine goodRun.call (f := 21) (args := #[.pointer (some ⟨w1.heap.size, 0, none⟩)]) (by clear hdep hoth; go_simp) ?_
              refine (bytes_to _ _ _ _ hC.2 HX.out).mono ?_
              rintro e w' ⟨rfl, q, rfl⟩
              exact ⟨_, rfl, ⟨below_drewN hC.1 _, hC.2.drewN _⟩, newS_keeps (below_drewN (Below.refl _ _) _), rfl⟩
            | 9, ho =>
              obtain rfl := Option.some.inj ho
              refine StepOk.yes (g := 6) (d := 66) rfl rfl (fun a w hC hdep => hdep _ 66 (Array.mem_of_getElem? (i := 0) rfl) rfl rfl) ?_
              intro a w hC hdep hoth
              have x1 : a.tmps[1]?.getD undef = .int .i64 (N : Int) := slot_of (hoth 1 (notDst (by kernel_rfl)))
              exact goodRun.val (c := .int .i64 (N : Int)) (by clear hdep hoth; go_simp) hC rfl
            | 10, ho =>
              obtain rfl := Option.some.inj ho
              refine StepOk.yes (g := 6) (d := 66) rfl rfl (fun a w hC hdep => hdep _ 66 (Array.mem_of_getElem? (i := 2) rfl) rfl rfl) ?_
              intro a w hC hdep hoth
              have x69 : a.tmps[69]?.getD undef = .int .i64 (N : Int) := slot_of (hdep _ 69 (Array.mem_of_getElem? (i := 0) rfl) rfl rfl)
              exact goodRun.made (c := (.slice (some ⟨w.heap.size, 0, none⟩) N N)) (w' := w.alloc (.cells (madeCells #[.int .u8 0] N) 5)) (by clear hdep hoth; go_simp) ⟨hC.1.alloc hC.1.size _, hC.2.alloc _⟩ (newS_keeps ((Below.refl _ _).alloc (Nat.le_refl _) _)) ⟨w.heap.size, rfl, heap_first w _⟩
            | 11, ho =>
              obtain rfl := Option.some.inj ho
              refine StepOk.yes (g := 6) (d := 66) rfl rfl (fun a w hC hdep => hdep _ 66 (Array.mem_of_getElem? (i := 1) rfl) rfl rfl) ?_
              intro a w hC hdep hoth
              obtain ⟨b, hv, hrow⟩ := hdep _ 70 (Array.mem_of_getElem? (i := 0) rfl) rfl rfl
              have x70 := slot_of hv
              have cv := conv_made _ _ _ N hrow
              clear hv hrow
              exact goodRun.val (c := .string (Z N)) (by clear hdep hoth; go_simp) hC rfl
            | 12, ho =>
              obtain rfl := Option.some.inj ho
              refine StepOk.yes (g := 6) (d := 66) rfl rfl (fun a w hC hdep => hdep _ 66 (Array.mem_of_getElem? (i := 2) rfl) rfl rfl) ?_
              intro a w hC hdep hoth
              have x68 : a.tmps[68]?.getD undef = .string (Z N) := slot_of (hdep _ 68 (Array.mem_of_getElem? (i := 0) rfl) rfl rfl)
              have x71 : a.tmps[71]?.getD undef = .string (Z N) := slot_of (hdep _ 71 (Array.mem_of_getElem? (i := 1) rfl) rfl rfl)
              exact goodRun.val (c := .bool false) (by clear hdep hoth; go_simp) hC rfl
            | 13, ho =>
              obtain rfl := Option.some.inj ho
              refine StepOk.free rfl ?_
              intro a w hC hdep hoth
              have x66 : a.tmps[66]?.getD undef = .bool false := slot_of (hdep _ 66 (Array.mem_of_getElem? (i := 0) rfl) rfl rfl)
              have x72 : a.tmps[72]?.getD undef = .bool false := slot_of (hdep _ 72 (Array.mem_of_getElem? (i := 1) rfl) rfl rfl)
              exact goodRun.val (c := .bool false) (by clear hdep hoth; go_simp) hC rfl
            | n + 14, ho => simp at ho
          · intro vals w5 hC hS
            have e73 : vals 13 = .bool false := hS 13 (by decide)
            clear hS
            simp only [fill, dstOf]
            go_simp
            go_wp2_with fail
            go_meet
            case rel => exact ⟨rfl, hC.1⟩
        case rest =>
          obtain ⟨rfl, hb3⟩ := hcut
          go_wp2_with fail
          go_meet
          case rel => exact hb3
      · have hdec : decide (size < 0 ∨ 4096 < size) = true := by simpa using hout
        have hs2 := hs.below hb2
        unfold errVal
        go_wp2_with fail
        refine (coded_sent A 1 2 _ hs2 (by decide)).mono ?_
        rintro e w7 ⟨rfl, hb7⟩
        go_wp2_with fail
        go_meet
        case rel => exact hb2.trans (hb7.mono hb2.size)
    case rest =>
    clear hcase hb2
    have hb3 : Below w.heap.size w wc := hcut
    clear hcut
    have hs3 := hs.below hb3
    go_wp2_with fail
    refine (from_out A t wc hs3 h1 (by unfold maxLen; omega)).mono ?_
    rintro e w4 ⟨rfl, hb4⟩
    have hb5 : Below w.heap.size w w4 := hb3.trans (hb4.mono hb3.size)
    have hs5 := hs.below hb5
    have t4 : 4096 < (t.size : Int) := by omega
    clear hb3 hb4
    go_wp2_with fail
    refine (coded_sent A 1 2 _ hs5 (by decide)).mono ?_
    rintro e w6 ⟨rfl, hb6⟩
    go_wp2
    go_ret
    exact ⟨rfl, hb5.trans (hb6.mono hb5.size)⟩
end Go.Proofs.YtebdepbnhemnpaaDoor
