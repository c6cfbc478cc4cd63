/-
  The document's (*Local).End told by a contract: LcPure's 'LSt'. Conditions: as LcMod's; the entity's lists lie in memory; at most a thousand reports and cycles.
-/
import Derived.Test.YtpaolneaomeoiacDoorLcModX
import Derived.Test.YtpaolneaomeoiacDoorOrdX
namespace Go.Proofs.YtpaolneaomeoiacDoor
open Go.RowKit Go.Extern.Stop Go.Stop Go.Extern

def endS (e : EntD) (pa ga ea fa la : Option Addr) (pc gc ec fc lc : Nat) (b : Nat) (sv : Value) (since kd : Int) : Nat → Value → World → Prop
  | 0 => fun v _ => v = .pointer (some ⟨b, 0, none⟩)
  | 1 => fun v _ => v = .pointer (some ⟨b, 0, none⟩)
  | 2 => fun v _ => v = .pointer (some ⟨b, 0, none⟩)
  | 3 => fun v _ => v = .agg #[.string e.name, .int .i64 e.tol, .slice pa e.pts.length pc, .int .i64 e.cnt, .int .i64 e.mn, .int .i64 e.mx, .slice ga e.gaps.length gc, .slice ea e.edges.length ec, .slice fa e.first.length fc, .slice la e.last.length lc]
  | 4 => fun v _ => v = .pointer (some ⟨b, 0, none⟩)
  | 5 => fun v _ => v = .pointer (some ⟨b, 0, none⟩)
  | 6 => fun v _ => v = .pointer (some ⟨b, 12, none⟩)
  | 7 => fun v _ => v = sv
  | 8 => fun v _ => v = .pointer (some ⟨b, 0, none⟩)
  | 9 => fun v _ => v = .pointer (some ⟨b, 0, none⟩)
  | 10 => fun v _ => v = .pointer (some ⟨b, 11, none⟩)
  | 11 => fun v _ => v = .int .i64 since
  | 12 => fun v _ => v = .int .i64 kd
  | 13 => fun v _ => v = .int .i64 kd
  | _ => fun _ _ => True
theorem endS_keep {e : EntD} {pa ga ea fa la : Option Addr} {pc gc ec fc lc : Nat} {b : Nat} {sv : Value} {since kd : Int} {V V' : World} {j : Nat} {v : Value} (h : endS e pa ga ea fa la pc gc ec fc lc b sv since kd j v V) : endS e pa ga ea fa la pc gc ec fc lc b sv since kd j v V' := by
  match j, h with
  | 0, h => exact h
  | 1, h => exact h
  | 2, h => exact h
  | 3, h => exact h
  | 4, h => exact h
  | 5, h => exact h
  | 6, h => exact h
  | 7, h => exact h
  | 8, h => exact h
  | 9, h => exact h
  | 10, h => exact h
  | 11, h => exact h
  | 12, h => exact h
  | 13, h => exact h
  | n + 14, h => exact h
theorem gr_below {w w' : World} {r : Option Nat} (hb : Below w.heap.size w w') : w.grownBy w' r := ⟨hb.os, hb.tape, hb.output, hb.size, fun k hk _ => hb.block k hk⟩
section
variable {w0 w w' : World} {b : Nat} {e : EntD} {pa ga ea fa la : Option Addr} {pc gc ec fc lc : Nat} {s s' : LSt} {sv sv' : Value}
theorem LmIn.drewN (h : LmIn w0 w b e pa ga ea fa la pc gc ec fc lc s sv) (q : Nat) : LmIn w0 (w.drewN q) b e pa ga ea fa la pc gc ec fc lc s sv := h.below (below_drewN (Below.refl _ _) q)
set_option maxHeartbeats 4000000 in
set_option maxRecDepth 100000 in
theorem lm_end (h : LmIn w0 w b e pa ga ea fa la pc gc ec fc lc s sv) (hP : EntParts w e (.slice pa e.pts.length pc) (.slice ga e.gaps.length gc) (.slice ea e.edges.length ec) (.slice fa e.first.length fc) (.slice la e.last.length lc)) (hSm : SmallE e) (hF : LFit s 1000) (ht : ∀ m ∈ s.ms, 0 ≤ m.tick ∧ m.tick ≤ 1099511627776) :
    Calls Tryd.prog 15 #[.pointer (some ⟨b, 0, none⟩)] w fun v w' => v = .returned (.tuple #[.int .i64 (s.kind e), .bool (s.turns e)]) ∧ LmIn w0 w' b e pa ga ea fa la pc gc ec fc lc (s.fin e) sv ∧ w.grownBy w' (some b) := by
  obtain ⟨act, since, ms, run, ex⟩ := s
  have c10 : w.cell? ⟨b, 10, none⟩ = some (.bool act) := h.cell 10 _ rfl
  cases act with
  | false =>
    have H : Hid (LmIn w0 w b e pa ga ea fa la pc gc ec fc lc ⟨false, since, ms, run, ex⟩ sv) := h
    clear h hP hSm hF ht
    go_enter Tryd.func15, Tryd.ntmps15
    go_wp2
    go_ret2
    exact ⟨rfl, H.out, World.grownBy.refl _ _⟩
  | true =>
    obtain ⟨kd, hkd⟩ : ∃ k, k = kindOf e ms since := ⟨_, rfl⟩
    have HKd : Hid (kd = kindOf e ms since) := hkd
    have HM : Hid (∀ V, Below w.heap.size w V → LmIn w0 V b e pa ga ea fa la pc gc ec fc lc ⟨true, since, ms, run, ex⟩ sv) := fun V hV => h.below hV
    have HK : Hid (∀ V, Below w.heap.size w V → Calls Tryd.prog 29 #[.agg #[.string e.name, .int .i64 e.tol, .slice pa e.pts.length pc, .int .i64 e.cnt, .int .i64 e.mn, .int .i64 e.mx, .slice ga e.gaps.length gc, .slice ea e.edges.length ec, .slice fa e.first.length fc, .slice la e.last.length lc], sv, .int .i64 since] V fun v w' => v = .returned (.int .i64 kd) ∧ Below V.heap.size V w') := fun V hV => by
      obtain ⟨va, vc, rfl⟩ := ow_form h.own
      rw [hkd]
      exact kindOf_at e pa ga ea fa la pc gc ec fc lc ms since va vc V (hP.below hV) hSm ((h.below hV).own.slat) hF.len ht
    have HB : Hid (0 ≤ since ∧ since ≤ 1000 ∧ 0 ≤ run ∧ run ≤ 1000) := ⟨hF.s0, hF.s1, hF.r0, Int.le_trans hF.r1 hF.s1⟩
    clear h hP hSm hF ht hkd
    go_enter Tryd.func15, Tryd.ntmps15
    go_upto_region 3 with fail
    go_cut [4, 10, 11, 12, 13, 14, 15, 16, 17, 18, 19, 20, 21, 22] (fun v _ _ _ _ _ _ _ _ _ _ _ _ _ wx => v = .int .i64 kd ∧ Below w.heap.size w wx)
    case first =>
        refine region_spec 14 rfl (endS e pa ga ea fa la pc gc ec fc lc b sv since kd) (fun V => Below w.heap.size w V) (by kernel_rfl) (by kernel_rfl) (Below.refl _ _).drew ?_ ?_
        · intro i o ho
          match i, ho with
          | 0, ho =>
            obtain rfl := Option.some.inj ho
            refine StepOk.free rfl ?_
            intro a V hC hdep hoth
            have x0 : a.tmps[0]?.getD undef = .pointer (some ⟨b, 0, none⟩) := slot_of (hoth 0 (notDst (by kernel_rfl)))
            exact goodRun.val (c := .pointer (some ⟨b, 0, none⟩)) (by clear hdep hoth; go_simp) hC rfl
          | 1, ho =>
            obtain rfl := Option.some.inj ho
            refine StepOk.free rfl ?_
            intro a V hC hdep hoth
            have x10 : a.tmps[10]?.getD undef = .pointer (some ⟨b, 0, none⟩) := slot_of (hdep _ 10 (Array.mem_of_getElem? (i := 0) rfl) rfl rfl)
            exact goodRun.val (c := .pointer (some ⟨b, 0, none⟩)) (by clear hdep hoth; go_simp) hC rfl
          | 2, ho =>
            obtain rfl := Option.some.inj ho
            refine StepOk.free rfl ?_
            intro a V hC hdep hoth
            have x11 : a.tmps[11]?.getD undef = .pointer (some ⟨b, 0, none⟩) := slot_of (hdep _ 11 (Array.mem_of_getElem? (i := 0) rfl) rfl rfl)
            exact goodRun.val (c := .pointer (some ⟨b, 0, none⟩)) (by clear hdep hoth; go_simp) hC rfl
          | 3, ho =>
            obtain rfl := Option.some.inj ho
            refine StepOk.free rfl ?_
            intro a V hC hdep hoth
            have x12 : a.tmps[12]?.getD undef = .pointer (some ⟨b, 0, none⟩) := slot_of (hdep _ 12 (Array.mem_of_getElem? (i := 0) rfl) rfl rfl)
            have b0 : V.cell? ⟨b, 0, none⟩ = some (.string e.name) := (HM.out V hC).cell 0 _ rfl
            have b1 : V.cell? ⟨b, 1, none⟩ = some (.int .i64 e.tol) := (HM.out V hC).cell 1 _ rfl
            have b2 : V.cell? ⟨b, 2, none⟩ = some (.slice pa e.pts.length pc) := (HM.out V hC).cell 2 _ rfl
            have b3 : V.cell? ⟨b, 3, none⟩ = some (.int .i64 e.cnt) := (HM.out V hC).cell 3 _ rfl
            have b4 : V.cell? ⟨b, 4, none⟩ = some (.int .i64 e.mn) := (HM.out V hC).cell 4 _ rfl
            have b5 : V.cell? ⟨b, 5, none⟩ = some (.int .i64 e.mx) := (HM.out V hC).cell 5 _ rfl
            have b6 : V.cell? ⟨b, 6, none⟩ = some (.slice ga e.gaps.length gc) := (HM.out V hC).cell 6 _ rfl
            have b7 : V.cell? ⟨b, 7, none⟩ = some (.slice ea e.edges.length ec) := (HM.out V hC).cell 7 _ rfl
            have b8 : V.cell? ⟨b, 8, none⟩ = some (.slice fa e.first.length fc) := (HM.out V hC).cell 8 _ rfl
            have b9 : V.cell? ⟨b, 9, none⟩ = some (.slice la e.last.length lc) := (HM.out V hC).cell 9 _ rfl
            exact goodRun.val (c := .agg #[.string e.name, .int .i64 e.tol, .slice pa e.pts.length pc, .int .i64 e.cnt, .int .i64 e.mn, .int .i64 e.mx, .slice ga e.gaps.length gc, .slice ea e.edges.length ec, .slice fa e.first.length fc, .slice la e.last.length lc]) (by clear hdep hoth; go_simp) hC rfl
          | 4, ho =>
            obtain rfl := Option.some.inj ho
            refine StepOk.free rfl ?_
            intro a V hC hdep hoth
            have x0 : a.tmps[0]?.getD undef = .pointer (some ⟨b, 0, none⟩) := slot_of (hoth 0 (notDst (by kernel_rfl)))
            exact goodRun.val (c := .pointer (some ⟨b, 0, none⟩)) (by clear hdep hoth; go_simp) hC rfl
          | 5, ho =>
            obtain rfl := Option.some.inj ho
            refine StepOk.free rfl ?_
            intro a V hC hdep hoth
            have x14 : a.tmps[14]?.getD undef = .pointer (some ⟨b, 0, none⟩) := slot_of (hdep _ 14 (Array.mem_of_getElem? (i := 0) rfl) rfl rfl)
            exact goodRun.val (c := .pointer (some ⟨b, 0, none⟩)) (by clear hdep hoth; go_simp) hC rfl
          | 6, ho =>
            obtain rfl := Option.some.inj ho
            refine StepOk.free rfl ?_
            intro a V hC hdep hoth
            have x15 : a.tmps[15]?.getD undef = .pointer (some ⟨b, 0, none⟩) := slot_of (hdep _ 15 (Array.mem_of_getElem? (i := 0) rfl) rfl rfl)
            exact goodRun.val (c := .pointer (some ⟨b, 12, none⟩)) (by clear hdep hoth; go_simp) hC rfl
          | 7, ho =>
            obtain rfl := Option.some.inj ho
            refine StepOk.free rfl ?_
            intro a V hC hdep hoth
            have x16 : a.tmps[16]?.getD undef = .pointer (some ⟨b, 12, none⟩) := slot_of (hdep _ 16 (Array.mem_of_getElem? (i := 0) rfl) rfl rfl)
            have b12 : V.cell? ⟨b, 12, none⟩ = some sv := (HM.out V hC).cell 12 _ rfl
            exact goodRun.val (c := sv) (by clear hdep hoth; go_simp) hC rfl
          | 8, ho =>
            obtain rfl := Option.some.inj ho
            refine StepOk.free rfl ?_
            intro a V hC hdep hoth
            have x0 : a.tmps[0]?.getD undef = .pointer (some ⟨b, 0, none⟩) := slot_of (hoth 0 (notDst (by kernel_rfl)))
            exact goodRun.val (c := .pointer (some ⟨b, 0, none⟩)) (by clear hdep hoth; go_simp) hC rfl
          | 9, ho =>
            obtain rfl := Option.some.inj ho
            refine StepOk.free rfl ?_
            intro a V hC hdep hoth
            have x18 : a.tmps[18]?.getD undef = .pointer (some ⟨b, 0, none⟩) := slot_of (hdep _ 18 (Array.mem_of_getElem? (i := 0) rfl) rfl rfl)
            exact goodRun.val (c := .pointer (some ⟨b, 0, none⟩)) (by clear hdep hoth; go_simp) hC rfl
          | 10, ho =>
            obtain rfl := Option.some.inj ho
            refine StepOk.free rfl ?_
            intro a V hC hdep hoth
            have x19 : a.tmps[19]?.getD undef = .pointer (some ⟨b, 0, none⟩) := slot_of (hdep _ 19 (Array.mem_of_getElem? (i := 0) rfl) rfl rfl)
            exact goodRun.val (c := .pointer (some ⟨b, 11, none⟩)) (by clear hdep hoth; go_simp) hC rfl
          | 11, ho =>
            obtain rfl := Option.some.inj ho
            refine StepOk.free rfl ?_
            intro a V hC hdep hoth
            have x20 : a.tmps[20]?.getD undef = .pointer (some ⟨b, 11, none⟩) := slot_of (hdep _ 20 (Array.mem_of_getElem? (i := 0) rfl) rfl rfl)
            have b11 : V.cell? ⟨b, 11, none⟩ = some (.int .i64 since) := (HM.out V hC).cell 11 _ rfl
            exact goodRun.val (c := .int .i64 since) (by clear hdep hoth; go_simp) hC rfl
          | 12, ho =>
            obtain rfl := Option.some.inj ho
            refine StepOk.free rfl ?_
            intro a V hC hdep hoth
            have x13 : a.tmps[13]?.getD undef = .agg #[.string e.name, .int .i64 e.tol, .slice pa e.pts.length pc, .int .i64 e.cnt, .int .i64 e.mn, .int .i64 e.mx, .slice ga e.gaps.length gc, .slice ea e.edges.length ec, .slice fa e.first.length fc, .slice la e.last.length lc] := slot_of (hdep _ 13 (Array.mem_of_getElem? (i := 0) rfl) rfl rfl)
            have x17 : a.tmps[17]?.getD undef = sv := slot_of (hdep _ 17 (Array.mem_of_getElem? (i := 1) rfl) rfl rfl)
            have x21 : a.tmps[21]?.getD undef = .int .i64 since := slot_of (hdep _ 21 (Array.mem_of_getElem? (i := 2) rfl) rfl rfl)
            refine goodRun.call (f := 29) (args := #[.agg #[.string e.name, .int .i64 e.tol, .slice pa e.pts.length pc, .int .i64 e.cnt, .int .i64 e.mn, .int .i64 e.mx, .slice ga e.gaps.length gc, .slice ea e.edges.length ec, .slice fa e.first.length fc, .slice la e.last.length lc], sv, .int .i64 since]) (by clear hdep hoth; go_simp) ?_
            refine (HK.out V hC).mono ?_
            rintro v V' ⟨rfl, hb⟩
            exact ⟨_, rfl, hC.trans (hb.mono hC.size), (fun j v h => endS_keep h), rfl⟩
          | 13, ho =>
            obtain rfl := Option.some.inj ho
            refine StepOk.free rfl ?_
            intro a V hC hdep hoth
            have x22 : a.tmps[22]?.getD undef = .int .i64 kd := slot_of (hdep _ 22 (Array.mem_of_getElem? (i := 0) rfl) rfl rfl)
            exact goodRun.val (c := .int .i64 kd) (by clear hdep hoth; go_simp) hC rfl
          | n + 14, ho => simp at ho
        · intro vals V hC hS
          have v13 : vals 13 = .int .i64 kd := hS 13 (by decide)
          have HCC : Hid (Below w.heap.size w V) := hC
          clear hS hC
          simp only [fill, dstOf]
          go_simp
          go_wp2_with fail
          go_meet
          case rel => exact ⟨by first | rfl | exact v13, HCC.out⟩
    obtain ⟨rfl, hb1⟩ := hcut
    rename World => w1
    have hm := HM.out w1 hb1
    have HB1 : Hid (Below w.heap.size w w1) := hb1
    have f11 := hm.frozen 11
    have f13 := hm.frozen 13
    have f14 := hm.frozen 14
    have c11 : w1.cell? ⟨b, 11, none⟩ = some (.int .i64 since) := hm.cell 11 _ rfl
    have c13 : w1.cell? ⟨b, 13, none⟩ = some (.int .i64 run) := hm.cell 13 _ rfl
    have c14 : w1.cell? ⟨b, 14, none⟩ = some (.bool ex) := hm.cell 14 _ rfl
    have c1 : w1.cell? ⟨b, 1, none⟩ = some (.int .i64 e.tol) := hm.cell 1 _ rfl
    have HG1 : Hid (w.grownBy w1 (some b)) := ⟨hb1.os, hb1.tape, hb1.output, hb1.size, fun k hk _ => hb1.block k hk⟩
    obtain ⟨s0, s1, r0, r1⟩ := HB.out
    clear hb1 HM HK c10
    by_cases hk : kd = 0
    · have HR : Hid (LSt.run1 e ⟨true, since, ms, run, ex⟩ = 0) := by show _ = _; unfold LSt.run1; rw [if_pos (by rw [← HKd.out]; exact hk)]
      have h2 := (hm.put 11 (.int .i64 (since + 1)) (s' := ⟨true, since + 1, ms, run, ex⟩) (sv' := sv) rfl hm.own)
      have h3 := h2.put 13 (.int .i64 0) (s' := ⟨true, since + 1, ms, 0, ex⟩) (sv' := sv) rfl h2.own
      have H3 : Hid _ := h3
      have HG : Hid _ := (HG1.out.trans (grown_setCell w1 b 11 (.int .i64 (since + 1)))).trans (grown_setCell _ b 13 (.int .i64 0))
      clear h2 h3 hm
      cases ex with
      | true =>
        have HE : Hid (LSt.fin e ⟨true, since, ms, run, true⟩ = ⟨true, since + 1, ms, 0, true⟩ ∧ LSt.turns e ⟨true, since, ms, run, true⟩ = false) := by
          unfold LSt.fin LSt.turns
          rw [HR.out]
          exact ⟨by simp, by simp⟩
        go_wp2_with fail
        go_quiet (fail)
        go_wp2
        go_ret2
        exact ⟨by rw [HE.out.2]; show _ = Ending.returned (.tuple #[.int .i64 (LSt.kind e ⟨true, since, ms, run, true⟩), _]); rw [show LSt.kind e ⟨true, since, ms, run, true⟩ = kd from HKd.out.symm]; first | rfl | (rw [hk]; rfl), by rw [HE.out.1]; exact LmIn.drewN H3.out _, HG.out.trans (gr_below (below_drewN (Below.refl _ _) _))⟩
      | false =>
        by_cases ht : e.tol < 0
        · have HE : Hid (LSt.fin e ⟨true, since, ms, run, false⟩ = ⟨true, since + 1, ms, 0, true⟩ ∧ LSt.turns e ⟨true, since, ms, run, false⟩ = true) := by
            unfold LSt.fin LSt.turns
            rw [HR.out]
            exact ⟨by simp [ht], by simp [ht]⟩
          go_wp2_with fail
          go_quiet (fail)
          go_wp2
          go_ret2
          have h4 := fun q => (LmIn.drewN H3.out q).put 14 (.bool true) (s' := ⟨true, since + 1, ms, 0, true⟩) (sv' := sv) rfl (LmIn.drewN H3.out q).own
          exact ⟨by rw [HE.out.2]; show _ = Ending.returned (.tuple #[.int .i64 (LSt.kind e ⟨true, since, ms, run, false⟩), _]); rw [show LSt.kind e ⟨true, since, ms, run, false⟩ = kd from HKd.out.symm]; first | rfl | (rw [hk]; rfl), by rw [HE.out.1]; exact h4 _, (HG.out.trans (gr_below (below_drewN (Below.refl _ _) _))).trans (grown_setCell _ b 14 (.bool true))⟩
        · have HE : Hid (LSt.fin e ⟨true, since, ms, run, false⟩ = ⟨true, since + 1, ms, 0, false⟩ ∧ LSt.turns e ⟨true, since, ms, run, false⟩ = false) := by
            unfold LSt.fin LSt.turns
            rw [HR.out]
            exact ⟨by simp [ht], by simp [ht]⟩
          go_wp2_with fail
          go_quiet (fail)
          go_wp2
          go_ret2
          exact ⟨by rw [HE.out.2]; show _ = Ending.returned (.tuple #[.int .i64 (LSt.kind e ⟨true, since, ms, run, false⟩), _]); rw [show LSt.kind e ⟨true, since, ms, run, false⟩ = kd from HKd.out.symm]; first | rfl | (rw [hk]; rfl), by rw [HE.out.1]; exact LmIn.drewN H3.out _, HG.out.trans (gr_below (below_drewN (Below.refl _ _) _))⟩
    · have hk2 : (kd == 0) = false := by simp [hk]
      have HR : Hid (LSt.run1 e ⟨true, since, ms, run, ex⟩ = (run + 1)) := by show _ = _; unfold LSt.run1; rw [if_neg (by rw [← HKd.out]; exact hk)]
      have h2 := (hm.put 11 (.int .i64 (since + 1)) (s' := ⟨true, since + 1, ms, run, ex⟩) (sv' := sv) rfl hm.own)
      have h3 := h2.put 13 (.int .i64 (run + 1)) (s' := ⟨true, since + 1, ms, (run + 1), ex⟩) (sv' := sv) rfl h2.own
      have H3 : Hid _ := h3
      have HG : Hid _ := (HG1.out.trans (grown_setCell w1 b 11 (.int .i64 (since + 1)))).trans (grown_setCell _ b 13 (.int .i64 (run + 1)))
      clear h2 h3 hm
      cases ex with
      | true =>
        have HE : Hid (LSt.fin e ⟨true, since, ms, run, true⟩ = ⟨true, since + 1, ms, (run + 1), true⟩ ∧ LSt.turns e ⟨true, since, ms, run, true⟩ = false) := by
          unfold LSt.fin LSt.turns
          rw [HR.out]
          exact ⟨by simp, by simp⟩
        go_wp2_with fail
        go_quiet (fail)
        go_wp2
        go_ret2
        exact ⟨by rw [HE.out.2]; show _ = Ending.returned (.tuple #[.int .i64 (LSt.kind e ⟨true, since, ms, run, true⟩), _]); rw [show LSt.kind e ⟨true, since, ms, run, true⟩ = kd from HKd.out.symm]; first | rfl | (rw [hk]; rfl), by rw [HE.out.1]; exact LmIn.drewN H3.out _, HG.out.trans (gr_below (below_drewN (Below.refl _ _) _))⟩
      | false =>
        by_cases ht : e.tol < (run + 1)
        · have HE : Hid (LSt.fin e ⟨true, since, ms, run, false⟩ = ⟨true, since + 1, ms, (run + 1), true⟩ ∧ LSt.turns e ⟨true, since, ms, run, false⟩ = true) := by
            unfold LSt.fin LSt.turns
            rw [HR.out]
            exact ⟨by simp [ht], by simp [ht]⟩
          go_wp2_with fail
          go_quiet (fail)
          go_wp2
          go_ret2
          have h4 := fun q => (LmIn.drewN H3.out q).put 14 (.bool true) (s' := ⟨true, since + 1, ms, (run + 1), true⟩) (sv' := sv) rfl (LmIn.drewN H3.out q).own
          exact ⟨by rw [HE.out.2]; show _ = Ending.returned (.tuple #[.int .i64 (LSt.kind e ⟨true, since, ms, run, false⟩), _]); rw [show LSt.kind e ⟨true, since, ms, run, false⟩ = kd from HKd.out.symm]; first | rfl | (rw [hk]; rfl), by rw [HE.out.1]; exact h4 _, (HG.out.trans (gr_below (below_drewN (Below.refl _ _) _))).trans (grown_setCell _ b 14 (.bool true))⟩
        · have HE : Hid (LSt.fin e ⟨true, since, ms, run, false⟩ = ⟨true, since + 1, ms, (run + 1), false⟩ ∧ LSt.turns e ⟨true, since, ms, run, false⟩ = false) := by
            unfold LSt.fin LSt.turns
            rw [HR.out]
            exact ⟨by simp [ht], by simp [ht]⟩
          go_wp2_with fail
          go_quiet (fail)
          go_wp2
          go_ret2
          exact ⟨by rw [HE.out.2]; show _ = Ending.returned (.tuple #[.int .i64 (LSt.kind e ⟨true, since, ms, run, false⟩), _]); rw [show LSt.kind e ⟨true, since, ms, run, false⟩ = kd from HKd.out.symm]; first | rfl | (rw [hk]; rfl), by rw [HE.out.1]; exact LmIn.drewN H3.out _, HG.out.trans (gr_below (below_drewN (Below.refl _ _) _))⟩
end
end Go.Proofs.YtpaolneaomeoiacDoor
