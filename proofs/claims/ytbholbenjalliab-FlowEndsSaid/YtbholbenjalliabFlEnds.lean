/-
  nightwatchlaw2.FlowEnds told by a contract: it answers true; nothing that was there turns. Conditions: what it is handed lies in memory, the edges are of int's range.
-/
import Derived.Test.YtbholbenjalliabFlApp
namespace Go.Proofs.Ytbholbenjalliab
open Go.RowKit Go.Extern.Stop Go.Stop Go.Extern

set_option maxHeartbeats 8000000 in
set_option maxRecDepth 100000 in
theorem fends_in (e : EntD) (pa ga ea fa la : Option Addr) (pc gc ec fc lc : Nat) (sl : Option Addr) (reps : List RepD) (slc : Nat) (w : World) (hP : EntParts w e (.slice pa e.pts.length pc) (.slice ga e.gaps.length gc) (.slice ea e.edges.length ec) (.slice fa e.first.length fc) (.slice la e.last.length lc))
    (hR : SlAt encR 3 w (.slice sl reps.length slc) reps) (hh : heavyE e = false) (hl : reps.length ≤ 100) (hWf : WfE e.edges) :
    Calls Try.prog 7 #[.agg #[.string e.name, .int .i64 e.tol, .slice pa e.pts.length pc, .int .i64 e.cnt, .int .i64 e.mn, .int .i64 e.mx, .slice ga e.gaps.length gc, .slice ea e.edges.length ec, .slice fa e.first.length fc, .slice la e.last.length lc], .slice sl reps.length slc] w fun v w' => v = .returned (.bool true) ∧ Below w.heap.size w w' := by
  obtain ⟨i0, hi, hz0, hz1, hz2⟩ := info_parts Try.infoMark
  have HH : Hid (SmallE e) := heavyE_small hh
  have hh0 : one01 (heavyE e) = 0 := by rw [hh]; rfl
  have HP : Hid (∀ V, Below w.heap.size w V → EntParts V e (.slice pa e.pts.length pc) (.slice ga e.gaps.length gc) (.slice ea e.edges.length ec) (.slice fa e.first.length fc) (.slice la e.last.length lc)) := fun V hV => hP.below hV
  have HR : Hid (SlAt encR 3 w (.slice sl reps.length slc) reps) := hR
  have HL : Hid (reps.length ≤ 100) := hl
  have HWf : Hid (WfE e.edges) := hWf
  have g1 : ¬ 100 < (reps.length : Int) := by omega
  clear hP hR hh hl hWf
  go_enter Try.func7, Try.ntmps7
  go_wp2_with fail
  refine (ordered_any _).mono ?_
  rintro v w1 ⟨rfl, hb1⟩
  have HX1 : Hid (w1.heap[w.heap.size]? = some (.cells #[.string e.name, .int .i64 e.tol, .slice pa e.pts.length pc, .int .i64 e.cnt, .int .i64 e.mn, .int .i64 e.mx, .slice ga e.gaps.length gc, .slice ea e.edges.length ec, .slice fa e.first.length fc, .slice la e.last.length lc] 30 (0, 0))) := row_below hb1 (al_at rfl)
  have HB1 : Hid (Below w.heap.size w w1) := (Below.one _ _).trans (hb1.mono (by simp))
  clear hb1
  have y : ∀ (j : Nat) u, (#[.string e.name, .int .i64 e.tol, .slice pa e.pts.length pc, .int .i64 e.cnt, .int .i64 e.mn, .int .i64 e.mx, .slice ga e.gaps.length gc, .slice ea e.edges.length ec, .slice fa e.first.length fc, .slice la e.last.length lc] : Array Value)[j]? = some u → w1.cell? ⟨w.heap.size, j, none⟩ = some u := fun j u hu => by simp [World.cell?, HX1.out, hu]
  have y0 := y 0 _ rfl
  have y1 := y 1 _ rfl
  have y2 := y 2 _ rfl
  have y3 := y 3 _ rfl
  have y4 := y 4 _ rfl
  have y5 := y 5 _ rfl
  have y6 := y 6 _ rfl
  have y7 := y 7 _ rfl
  have y8 := y 8 _ rfl
  have y9 := y 9 _ rfl
  clear y
  go_wp2_with fail
  clear y0 y1 y2 y3 y4 y5 y6 y7 y8 y9
  refine (heavyE_at e pa ga ea fa la pc gc ec fc lc _ (HP.out _ HB1.out).hp).mono ?_
  rintro v w2 ⟨rfl, hb2⟩
  rw [hh0]
  have HX2 : Hid (w2.heap[w.heap.size]? = some (.cells #[.string e.name, .int .i64 e.tol, .slice pa e.pts.length pc, .int .i64 e.cnt, .int .i64 e.mn, .int .i64 e.mx, .slice ga e.gaps.length gc, .slice ea e.edges.length ec, .slice fa e.first.length fc, .slice la e.last.length lc] 30 (0, 0))) := row_below hb2 HX1.out
  have HB2 : Hid (Below w.heap.size w w2) := HB1.out.trans (hb2.mono HB1.out.size)
  clear hb2 HX1 HB1
  go_wp2_with (refine wpList_load_row rfl 30 _ rfl w.heap.size rfl _ _ _ _ HX2.out Try.underlying30 rfl Try.sizeEnt ?_)
  refine (ownEntity_at w2.heap.size e pa ga ea fa la pc gc ec fc lc _ (HP.out _ HB2.out) HH.out (Nat.le_refl _)).mono ?_
  rintro v w3 ⟨⟨pa', pc', ga', gc', ea', ec', fa', fc', la', lc', rfl, hown3⟩, hb3⟩
  have HX3 : Hid (w3.heap[w.heap.size]? = some (.cells #[.string e.name, .int .i64 e.tol, .slice pa e.pts.length pc, .int .i64 e.cnt, .int .i64 e.mn, .int .i64 e.mx, .slice ga e.gaps.length gc, .slice ea e.edges.length ec, .slice fa e.first.length fc, .slice la e.last.length lc] 30 (0, 0))) := row_below hb3 HX2.out
  have HB3 : Hid (Below w.heap.size w w3) := HB2.out.trans (hb3.mono HB2.out.size)
  have HO3 : Hid (EntParts w3 e (.slice pa' e.pts.length pc') (.slice ga' e.gaps.length gc') (.slice ea' e.edges.length ec') (.slice fa' e.first.length fc') (.slice la' e.last.length lc')) := hown3.parts
  clear hb3 HX2 HB2 hown3
  go_wp2_with fail
  refine (fl_new e pa' ga' ea' fa' la' pc' gc' ec' fc' lc' w3 HO3.out HH.out HWf.out).mono ?_
  rintro v w4 ⟨b, rfl, h4⟩
  have HD4 : Hid (FlIn w3 w4 b e (simF e [] 0)) := by show FlIn _ _ _ _ _; rw [simF_new]; exact h4
  have HBW : Hid (∀ V, Below w3.heap.size w3 V → Below w.heap.size w V) := fun V hV => HB3.out.trans (hV.mono HB3.out.size)
  have HXW : Hid (∀ V, Below w3.heap.size w3 V → ∀ (j : Nat) u, (#[.string e.name, .int .i64 e.tol, .slice pa e.pts.length pc, .int .i64 e.cnt, .int .i64 e.mn, .int .i64 e.mx, .slice ga e.gaps.length gc, .slice ea e.edges.length ec, .slice fa e.first.length fc, .slice la e.last.length lc] : Array Value)[j]? = some u → V.cell? ⟨w.heap.size, j, none⟩ = some u) := fun V hV j u hu => by
    have := row_below hV HX3.out
    simp [World.cell?, this, hu]
  have HXR : Hid (∀ V, Below w3.heap.size w3 V → V.heap[w.heap.size]? = some (.cells #[.string e.name, .int .i64 e.tol, .slice pa e.pts.length pc, .int .i64 e.cnt, .int .i64 e.mn, .int .i64 e.mx, .slice ga e.gaps.length gc, .slice ea e.edges.length ec, .slice fa e.first.length fc, .slice la e.last.length lc] 30 (0, 0))) := fun V hV => row_below hV HX3.out
  clear h4 HX3 HB3 HO3
  go_wp2_with fail
  refine (fl_at (v := -1) HD4.out rfl).mono ?_
  rintro v w4' ⟨rfl, rfl⟩
  rename World => w4
  go_upto_region 9 with fail
  go_cut [9] (fun i wx => i = .int .i64 0 ∧ wx = w4)
  case first =>
    go_wp2_with fail
    go_meet
    case rel => exact ⟨rfl, rfl⟩
  obtain ⟨rfl, rfl⟩ := hcut
  rename World => w4
  go_wp2_with fail
  go_loopw [7, 8, 9, 10] (fun mv cv iv _ wr => ∃ (k : Nat) (C : Int) (ms : List MkD) (va : Option Addr) (vc : Nat), k ≤ reps.length ∧ cv = .int .i64 C ∧ iv = .int .i64 k ∧ mv = .slice va ms.length vc ∧ FmFit ms k C ∧ MkOwn w3.heap.size wr (.slice va ms.length vc) ms ∧ FlIn w3 wr b e (simF e ms C)) (fun _ _ i _ _ => reps.length - (intOf i).toNat)
  case atStart => exact ⟨0, 0, [], none, 0, Nat.zero_le _, rfl, rfl, rfl, ⟨Nat.le_refl _, fun m hm => (by simp at hm), Int.le_refl _, Int.le_refl _⟩, World.ownsRow_nil _ _ _ _, HD4.out⟩
  case round =>
    clear HD4
    obtain ⟨k, C, ms, va, vc, hk, rfl, rfl, rfl, hF, hO, hD⟩ := hrel
    have HF : Hid (FmFit ms k C) := hF
    have HO : Hid (MkOwn w3.heap.size wr (.slice va ms.length vc) ms) := hO
    have HD : Hid (FlIn w3 wr b e (simF e ms C)) := hD
    clear hF hO hD
    by_cases hlt : k < reps.length
    · have k1 : (k : Int) < (reps.length : Int) := by omega
      have k2 : k < 100 := by have := HL.out; omega
      obtain ⟨r, hr⟩ : ∃ r, reps[k]? = some r := ⟨_, List.getElem?_eq_getElem hlt⟩
      obtain ⟨sa', cap', hsl, -, hcc⟩ := id HR.out
      cases hsl
      obtain ⟨g, o, rfl, hc0⟩ := hcc (fun h => by rw [h] at hr; simp at hr)
      obtain ⟨rp, rl, re⟩ := r
      have HCl : Hid (∀ V, Below w3.heap.size w3 V → V.cell? ⟨g, o + k * 3, none⟩ = some (.int .i64 rp) ∧ V.cell? ⟨g, o + k * 3 + 2, none⟩ = some (.bool re)) := fun V hV => ⟨cell_below (HBW.out V hV) (hc0 k _ hr 0 _ rfl), cell_below (HBW.out V hV) (hc0 k _ hr 2 _ rfl)⟩
      have c0 := (HCl.out wr HD.out.1).1
      have c2 := (HCl.out wr HD.out.1).2
      have C0 := HF.out.c0
      have C1 : C ≤ 100 := by have := HF.out.c1; omega
      clear hcc hc0 hr
      cases re
      · obtain ⟨m, hm⟩ : ∃ m : MkD, m = ⟨rp, 0, C⟩ := ⟨_, rfl⟩
        go_wp2_with fail
        refine (fl_report rp HD.out).mono ?_
        rintro v w5 ⟨rfl, h5, f5⟩
        have HD5 : Hid (FlIn w3 w5 b e (simF e (ms ++ [m]) C)) := by show FlIn _ _ _ _ _; rw [hm, ← simF_rep]; exact h5
        have HO5 : Hid (MkOwn w3.heap.size w5 (.slice va ms.length vc) ms) := by
          obtain ⟨c, hc⟩ := HD.out.row
          exact mk_grown HO.out hc f5
        clear h5 f5 HD HO c0 c2
        have c0 := (HCl.out w5 HD5.out.1).1
        have HZ5 : Hid (w3.heap.size ≤ w5.heap.size ∧ ms.length ≤ 100) := ⟨HD5.out.1.size, by have := HF.out.len; omega⟩
        go_upto_region 15 with (at_builtin; refine wpList_append_own (w5.alloc (.cells #[.int .i64 rp, .int .i64 0, .int .i64 C] 51)) rfl _ _ 49 rfl w3.heap.size 51 i0 (.agg #[.int .i64 0, .int .i64 0, .int .i64 0]) 3 24 Try.underlying49 hi hz0 hz1 hz2 rfl (by decide) (.slice va ms.length vc) ms.length (ms.flatMap encM) rfl (HO5.out.alloc _) ⟨w5.heap.size, 0, none⟩ 1 1 [.int .i64 rp, .int .i64 0, .int .i64 C] rfl rfl (ce_at w5 [.int .i64 rp, .int .i64 0, .int .i64 C] 51) (encM_one ⟨rp, 0, C⟩) (by have := HZ5.out.2; unfold maxLen; omega) (by have := HZ5.out.2; omega) (by have := HZ5.out.1; simp; omega) ?_; intro v8 w8 hown8 hg8 hn8; obtain ⟨va8, vc8, rfl⟩ := ow_form hown8)
        have HO8 : Hid (MkOwn w3.heap.size w8 (.slice va8 (ms ++ [m]).length vc8) (ms ++ [m])) := by
          subst hm
          show MkOwn _ _ _ _
          unfold MkOwn
          rw [List.length_append, List.flatMap_append]
          simpa [encM] using hown8
        have HD8 : Hid (FlIn w3 w8 b e (simF e (ms ++ [m]) C)) := (HD5.out.below (Below.one _ _)).grown (HO5.out.below (Below.one _ _)) (Nat.le_refl _) (by decide) (by decide) hg8
        have HF8 : Hid (FmFit (ms ++ [m]) (k + 1) C) := ⟨by have := HF.out.len; simp; omega, fun y hy => by
            rw [List.mem_append] at hy
            rcases hy with hy | hy
            · exact HF.out.each y hy
            · simp only [List.mem_singleton] at hy
              subst hy
              subst hm
              exact Int.le_refl _, C0, by have := HF.out.c1; push_cast; omega⟩
        have e8 : ms.length + 1 = (ms ++ [m]).length := by simp
        rw [e8]
        clear hown8 hg8 hn8 HD5 HO5 HF HZ5 c0 hm e8
        obtain ⟨ms, hms⟩ : ∃ l, l = ms ++ [m] := ⟨_, rfl⟩
        rw [← hms] at HO8 HD8 HF8
        rw [← hms]
        clear hms
        rename_i va0 vc0 ms0
        have HF : Hid (FmFit ms (k + 1) C) := HF8
        go_cut [64, 65, 66, 67, 68, 69, 70, 71, 72, 73, 74] (fun _ _ _ _ _ _ _ _ _ _ v wx => v = .bool false ∧ FlIn w3 wx b e (simF e ms C) ∧ MkOwn w3.heap.size wx (.slice va8 ms.length vc8) ms)
        case first =>
          refine region_spec2 11 rfl (anS e pa ga ea fa la pc gc ec fc lc b va8 vc8 ms) (fun _ V => FlIn w3 V b e (simF e ms C) ∧ MkOwn w3.heap.size V (.slice va8 ms.length vc8) ms) (by kernel_rfl) (by kernel_rfl) ⟨HD8.out.below (Below.refl _ _).drew, HO8.out.below (Below.refl _ _).drew⟩ ?_ ?_
          · intro i o ho
            match i, ho with
            | 0, ho =>
              obtain rfl := Option.some.inj ho
              refine StepOk2.free rfl ?_
              intro done a V hC hdn hpre hdep hoth
              have x6 : a.tmps[6]?.getD undef = .pointer (some ⟨b, 0, none⟩) := slot_of (hoth 6 (notDst (by kernel_rfl)))
              exact goodRun2.val (c := .pointer (some ⟨b, 0, none⟩)) (by clear hdep hoth hpre; go_simp) hC rfl
            | 1, ho =>
              obtain rfl := Option.some.inj ho
              refine StepOk2.free rfl ?_
              intro done a V hC hdn hpre hdep hoth
              have x64 : a.tmps[64]?.getD undef = .pointer (some ⟨b, 0, none⟩) := slot_of (hdep _ 64 (Array.mem_of_getElem? (i := 0) rfl) rfl rfl)
              refine goodRun2.call (f := 23) (args := #[.pointer (some ⟨b, 0, none⟩)]) (by clear hdep hoth hpre; go_simp) ?_
              refine (fl_at (v := aheadOf e ms) hC.1 rfl).mono ?_
              rintro v V' ⟨rfl, rfl⟩
              exact ⟨_, rfl, hC, (fun _ _ _ h => h), rfl⟩
            | 2, ho =>
              obtain rfl := Option.some.inj ho
              refine StepOk2.free rfl ?_
              intro done a V hC hdn hpre hdep hoth
              have x2 : a.tmps[2]?.getD undef = .pointer (some ⟨w.heap.size, 0, none⟩) := slot_of (hoth 2 (notDst (by kernel_rfl)))
              have b0 : V.cell? ⟨w.heap.size, 0, none⟩ = some (_) := HXW.out V hC.1.1 0 _ rfl
              have b1 : V.cell? ⟨w.heap.size, 1, none⟩ = some (_) := HXW.out V hC.1.1 1 _ rfl
              have b2 : V.cell? ⟨w.heap.size, 2, none⟩ = some (_) := HXW.out V hC.1.1 2 _ rfl
              have b3 : V.cell? ⟨w.heap.size, 3, none⟩ = some (_) := HXW.out V hC.1.1 3 _ rfl
              have b4 : V.cell? ⟨w.heap.size, 4, none⟩ = some (_) := HXW.out V hC.1.1 4 _ rfl
              have b5 : V.cell? ⟨w.heap.size, 5, none⟩ = some (_) := HXW.out V hC.1.1 5 _ rfl
              have b6 : V.cell? ⟨w.heap.size, 6, none⟩ = some (_) := HXW.out V hC.1.1 6 _ rfl
              have b7 : V.cell? ⟨w.heap.size, 7, none⟩ = some (_) := HXW.out V hC.1.1 7 _ rfl
              have b8 : V.cell? ⟨w.heap.size, 8, none⟩ = some (_) := HXW.out V hC.1.1 8 _ rfl
              have b9 : V.cell? ⟨w.heap.size, 9, none⟩ = some (_) := HXW.out V hC.1.1 9 _ rfl
              exact goodRun2.val (c := .agg #[.string e.name, .int .i64 e.tol, .slice pa e.pts.length pc, .int .i64 e.cnt, .int .i64 e.mn, .int .i64 e.mx, .slice ga e.gaps.length gc, .slice ea e.edges.length ec, .slice fa e.first.length fc, .slice la e.last.length lc]) (by clear hdep hoth hpre; go_simp) hC rfl
            | 3, ho =>
              obtain rfl := Option.some.inj ho
              refine StepOk2.free rfl ?_
              intro done a V hC hdn hpre hdep hoth
              have x7 : a.tmps[7]?.getD undef = .slice va8 ms.length vc8 := slot_of (hoth 7 (notDst (by kernel_rfl)))
              exact goodRun2.val (c := .slice va8 ms.length vc8) (by clear hdep hoth hpre; go_simp) hC rfl
            | 4, ho =>
              obtain rfl := Option.some.inj ho
              refine StepOk2.free rfl ?_
              intro done a V hC hdn hpre hdep hoth
              exact goodRun2.val (c := .agg #[.int .i64 0, .int .i64 0, .int .i64 0]) (by clear hdep hoth hpre; go_simp) hC rfl
            | 5, ho =>
              obtain rfl := Option.some.inj ho
              refine StepOk2.free rfl ?_
              intro done a V hC hdn hpre hdep hoth
              have x68 : a.tmps[68]?.getD undef = .agg #[.int .i64 0, .int .i64 0, .int .i64 0] := slot_of (hdep _ 68 (Array.mem_of_getElem? (i := 0) rfl) rfl rfl)
              exact goodRun2.made (c := .slice (some ⟨V.heap.size, 0, none⟩) 1 1) (w' := V.alloc (.cells #[.int .i64 0, .int .i64 0, .int .i64 0] 51)) (by clear hdep hoth hpre; go_simp) ⟨hC.1.below (Below.one _ _), hC.2.below (Below.one _ _)⟩ (anS_keeps (Below.one _ _)) ⟨V.heap.size, rfl, al_at rfl, fun h => absurd (hC.2.lt _ h).2 (Nat.lt_irrefl _)⟩
            | 6, ho =>
              obtain rfl := Option.some.inj ho
              refine StepOk2.free rfl ?_
              intro done a V hC hdn hpre hdep hoth
              obtain ⟨g, hv, hgr, hgn⟩ := hdep _ 69 (Array.mem_of_getElem? (i := 1) rfl) rfl rfl
              have hs67 : a.eval (.tmp 67) = .slice va8 ms.length vc8 := hdep _ 67 (Array.mem_of_getElem? (i := 0) rfl) rfl rfl
              obtain ⟨v', V', hrun, ho', hk', hg'⟩ := append_keep w3.heap.size 49 hC.2 mk0 ⟨g, 0, none⟩ 1 (fun j u hu => by rw [addC_plain]; simp only [World.cell?, hgr, Nat.zero_add]; simpa [encM, mk0] using hu) (by have := HF.out.len; omega) hC.1.1.size
              obtain ⟨va', vc', rfl⟩ := ow_form ho'
              refine goodRun2.made (c := .slice va' (ms ++ [mk0]).length vc') (w' := V') (exec_append (s := .tmp 67) (x := .tmp 69) rfl rfl hs67 hv hrun) ⟨hC.1.grown hC.2 (Nat.le_refl _) (by decide) (by decide) hg', hk'⟩ ?_ ⟨_, _, rfl, ho'.slat⟩
              intro j v hj h
              match j, h with
              | 5, h =>
                obtain ⟨g2, h1, h2, h3⟩ := h
                exact ⟨g2, h1, (hg'.block g2 (lt_of_row h2) (fun e2 => h3 e2.symm)).trans h2, h3⟩
              | 6, h => rw [hdn] at hj; cases hj
              | 0, h => exact h
              | 1, h => exact h
              | 2, h => exact h
              | 3, h => exact h
              | 4, h => exact h
              | 7, h => exact h
              | 8, h => exact h
              | 9, h => exact h
              | 10, h => exact h
              | n + 11, h => exact h
            | 7, ho =>
              obtain rfl := Option.some.inj ho
              refine StepOk2.free rfl ?_
              intro done a V hC hdn hpre hdep hoth
              have x7 : a.tmps[7]?.getD undef = .slice va8 ms.length vc8 := slot_of (hoth 7 (notDst (by kernel_rfl)))
              exact goodRun2.val (c := .slice va8 ms.length vc8) (by clear hdep hoth hpre; go_simp) hC rfl
            | 8, ho =>
              obtain rfl := Option.some.inj ho
              refine StepOk2.free rfl ?_
              intro done a V hC hdn hpre hdep hoth
              have x71 : a.tmps[71]?.getD undef = .slice va8 ms.length vc8 := slot_of (hdep _ 71 (Array.mem_of_getElem? (i := 0) rfl) rfl rfl)
              exact goodRun2.val (c := .int .i64 (ms.length : Int)) (by clear hdep hoth hpre; go_simp) hC rfl
            | 9, ho =>
              obtain rfl := Option.some.inj ho
              refine StepOk2.free rfl ?_
              intro done a V hC hdn hpre hdep hoth
              have x66 : a.tmps[66]?.getD undef = .agg #[.string e.name, .int .i64 e.tol, .slice pa e.pts.length pc, .int .i64 e.cnt, .int .i64 e.mn, .int .i64 e.mx, .slice ga e.gaps.length gc, .slice ea e.edges.length ec, .slice fa e.first.length fc, .slice la e.last.length lc] := slot_of (hdep _ 66 (Array.mem_of_getElem? (i := 0) rfl) rfl rfl)
              have x72 : a.tmps[72]?.getD undef = .int .i64 (ms.length : Int) := slot_of (hdep _ 72 (Array.mem_of_getElem? (i := 2) rfl) rfl rfl)
              obtain ⟨va', vc', hv, hsl⟩ := hdep _ 70 (Array.mem_of_getElem? (i := 1) rfl) rfl rfl
              have x70 := slot_of hv
              refine goodRun2.call (f := 25) (args := #[.agg #[.string e.name, .int .i64 e.tol, .slice pa e.pts.length pc, .int .i64 e.cnt, .int .i64 e.mn, .int .i64 e.mx, .slice ga e.gaps.length gc, .slice ea e.edges.length ec, .slice fa e.first.length fc, .slice la e.last.length lc], .slice va' (ms ++ [mk0]).length vc', .int .i64 (ms.length : Int)]) (by clear hdep hoth hpre hv hsl; go_simp) ?_
              refine (ahead_at e pa ga ea fa la pc gc ec fc lc (ms ++ [mk0]) ms.length _ _ V (HP.out V (HBW.out V hC.1.1)) HH.out hsl (by have := HF.out.len; simp; omega) (by simp)).mono ?_
              rintro v V' ⟨rfl, hb⟩
              exact ⟨_, rfl, ⟨hC.1.below hb, hC.2.below hb⟩, anS_keeps hb, by show Value.int .i64 _ = _; rw [List.take_left']; rfl⟩
            | 10, ho =>
              obtain rfl := Option.some.inj ho
              refine StepOk2.free rfl ?_
              intro done a V hC hdn hpre hdep hoth
              have x65 : a.tmps[65]?.getD undef = .int .i64 (aheadOf e ms) := slot_of (hdep _ 65 (Array.mem_of_getElem? (i := 0) rfl) rfl rfl)
              have x73 : a.tmps[73]?.getD undef = .int .i64 (aheadOf e ms) := slot_of (hdep _ 73 (Array.mem_of_getElem? (i := 1) rfl) rfl rfl)
              exact goodRun2.val (c := .bool false) (by clear hdep hoth hpre; go_simp) hC rfl
            | n + 11, ho => simp at ho
          · intro vals V hC hS
            have v10 : vals 10 = .bool false := hS 10 (by decide)
            have HCC : Hid (FlIn w3 V b e (simF e ms C) ∧ MkOwn w3.heap.size V (.slice va8 ms.length vc8) ms) := hC
            clear hS hC
            simp only [fill, dstOf]
            go_simp
            go_wp2_with fail
            go_meet
            case rel => exact ⟨rfl, HCC.out⟩
        obtain ⟨rfl, hD9, hO9⟩ := hcut
        rename World => w9
        have HD9 : Hid (FlIn w3 w9 b e (simF e ms C)) := hD9
        have HO9 : Hid (MkOwn w3.heap.size w9 (.slice va8 ms.length vc8) ms) := hO9
        clear hD9 hO9 HD8 HO8
        go_wp2_with fail
        go_roundw
        case rel => exact ⟨k + 1, C, ms, va8, vc8, by omega, rfl, by go_num, rfl, HF.out, HO9.out, HD9.out⟩
        case measure => simp [intOf]; omega
      · clear c0
        go_wp2_with (refine wpList_load_row rfl 30 _ rfl w.heap.size rfl _ _ _ _ (HXR.out wr HD.out.1) Try.underlying30 rfl Try.sizeEnt ?_)
        refine (flowBad_at e pa ga ea fa la pc gc ec fc lc ms C va vc wr (HP.out wr (HBW.out wr HD.out.1)) HH.out HO.out.slat (by have := HF.out.len; omega)).mono ?_
        rintro v w5 ⟨rfl, hb5⟩
        have HD5 : Hid (FlIn w3 w5 b e (simF e ms C)) := HD.out.below hb5
        have HO5 : Hid (MkOwn w3.heap.size w5 (.slice va ms.length vc) ms) := HO.out.below hb5
        clear hb5 HD HO c2
        have HW : Hid ((!(simF e ms C).bad) = !flowBad e ms C) := rfl
        go_wp2_with fail
        refine (fl_end HD5.out).mono ?_
        rintro v w6 ⟨rfl, h6, f6⟩
        have HD6 : Hid (FlIn w3 w6 b e (simF e ms (C + 1))) := by show FlIn _ _ _ _ _; rw [← simF_end HF.out.each]; exact h6
        have HO6 : Hid (MkOwn w3.heap.size w6 (.slice va ms.length vc) ms) := by
          obtain ⟨c, hc⟩ := HD5.out.row
          exact mk_grown HO5.out hc f6
        clear h6 f6 HD5 HO5
        rw [HW.out]
        have HF6 : Hid (FmFit ms (k + 1) (C + 1)) := ⟨by have := HF.out.len; omega, fun y hy => by have := HF.out.each y hy; omega, by omega, by have := HF.out.c1; push_cast; omega⟩
        cases hb : flowBad e ms C
        all_goals
          go_wp2_with fail
          go_roundw
          case rel => exact ⟨k + 1, C + 1, ms, va, vc, by omega, by go_num, by go_num, rfl, HF6.out, HO6.out, HD6.out⟩
          case measure => simp [intOf]; omega
    · have k1 : ¬ (k : Int) < (reps.length : Int) := by omega
      go_wp2
      go_ret
      exact ⟨rfl, HBW.out _ HD.out.1⟩
end Go.Proofs.Ytbholbenjalliab
