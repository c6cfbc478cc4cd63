/-
  Proved: nightwatchlaw2.FlowBegins answers true for every entity, every row of reports and every number; each argument reads afterwards as it read before. Conditions: those of the given card alone (ErrBound is as the program's own text lays it).
-/
import Derived.Test.YtbholbenjalliabDoorCards
import Derived.Test.YtbholbenjalliabDoorTie
import Derived.Test.YtbholbenjalliabDoorCfArgE
import Derived.Test.YtbholbenjalliabDoorFbWalk
import Derived.WalkKit
import Derived.ProofKit
import Derived.OpenShut
import Derived.Deep.Slices
import Derived.Stop.Joined
import Derived.SevenTiedAt
import Derived.Carry
import Derived.LaidLaws
import Derived.LaidMore
namespace Go.Proofs.YtbholbenjalliabDoor
open Go.ChangeShapes Go.WideShapes Go.ChangeAt Go.RowKit Go.Deep

theorem ent_args {H : Type} {enc : TypeId × Value → H} {W : World} {fuel : Nat} {cs : List Value} {x : DataW H × List MemPlace} (h : DataW.trod enc Tryd.prog W 0 (fun _ => true) true fuel 27 cs = some x) :
    ∃ e : EntD, ∃ pa ga ea fa la pc gc ec fc lc, cs = (#[.string e.name, .int .i64 e.tol, .slice pa e.pts.length pc, .int .i64 e.cnt, .int .i64 e.mn, .int .i64 e.mx, .slice ga e.gaps.length gc, .slice ea e.edges.length ec, .slice fa e.first.length fc, .slice la e.last.length lc] : Array Value).toList ∧ EntParts W e (.slice pa e.pts.length pc) (.slice ga e.gaps.length gc) (.slice ea e.edges.length ec) (.slice fa e.first.length fc) (.slice la e.last.length lc) ∧ WfE e.edges := by
  obtain ⟨e, pv, gv, ev, fv, lv, h1, h2, h3⟩ := ent_of_trod2 fuel cs x h
  obtain ⟨pa, pc, rfl, -⟩ := id h2.hp
  obtain ⟨ga, gc, rfl, -⟩ := id h2.hg
  obtain ⟨ea, ec, rfl, -⟩ := id h2.he
  obtain ⟨fa, fc, rfl, -⟩ := id h2.hf
  obtain ⟨la, lc, rfl, -⟩ := id h2.hl
  exact ⟨e, pa, ga, ea, fa, la, pc, gc, ec, fc, lc, h1, h2, h3⟩
set_option maxRecDepth 100000 in
set_option maxHeartbeats 4000000 in
theorem fbegins_any (e : EntD) (pa ga ea fa la : Option Addr) (pc gc ec fc lc : Nat) (v1 : Value) (row : List Int) (n : Int) (w : World) (hP : EntParts w e (.slice pa e.pts.length pc) (.slice ga e.gaps.length gc) (.slice ea e.edges.length ec) (.slice fa e.first.length fc) (.slice la e.last.length lc)) (hWf : WfE e.edges) (hR : SlAt encI 1 w v1 row) :
    Calls Tryd.prog 3 #[.agg #[.string e.name, .int .i64 e.tol, .slice pa e.pts.length pc, .int .i64 e.cnt, .int .i64 e.mn, .int .i64 e.mx, .slice ga e.gaps.length gc, .slice ea e.edges.length ec, .slice fa e.first.length fc, .slice la e.last.length lc], v1, .int .i64 n] w fun v w' => v = .returned (.bool true) ∧ Below w.heap.size w w' := by
  obtain ⟨sl, slc, rfl, -⟩ := id hR
  by_cases hh : heavyE e = false
  · by_cases hg : row.length ≤ 30 ∧ 0 ≤ n ∧ n ≤ 14 ∧ e.pts.length ≤ 16
    · obtain ⟨n, rfl⟩ := Int.eq_ofNat_of_zero_le hg.2.1
      exact fbegins_in e pa ga ea fa la pc gc ec fc lc sl row slc n w hP hR hh hWf hg.1 (by omega) hg.2.2.2
    · have HP : Hid (∀ V, Below w.heap.size w V → EntParts V e (.slice pa e.pts.length pc) (.slice ga e.gaps.length gc) (.slice ea e.edges.length ec) (.slice fa e.first.length fc) (.slice la e.last.length lc)) := fun V hV => hP.below hV
      have hh0 : one01 (heavyE e) = 0 := by rw [hh]; rfl
      have HG : Hid (¬ (row.length ≤ 30 ∧ 0 ≤ n ∧ n ≤ 14 ∧ e.pts.length ≤ 16)) := hg
      clear hP hh hg hWf hR
      go_enter Tryd.func3, Tryd.ntmps3
      go_wp2_with fail
      refine (ordered_any _).mono ?_
      rintro v w1 ⟨rfl, hb1⟩
      have HX1 : Hid (w1.heap[w.heap.size]? = some (.cells #[.string e.name, .int .i64 e.tol, .slice pa e.pts.length pc, .int .i64 e.cnt, .int .i64 e.mn, .int .i64 e.mx, .slice ga e.gaps.length gc, .slice ea e.edges.length ec, .slice fa e.first.length fc, .slice la e.last.length lc] 27 (0, 0))) := row_below hb1 (al_at rfl)
      have HB1 : Hid (Below w.heap.size w w1) := (Below.one _ _).trans (hb1.mono (by simp))
      clear hb1
      have y : ∀ (j : Nat) u, (#[.string e.name, .int .i64 e.tol, .slice pa e.pts.length pc, .int .i64 e.cnt, .int .i64 e.mn, .int .i64 e.mx, .slice ga e.gaps.length gc, .slice ea e.edges.length ec, .slice fa e.first.length fc, .slice la e.last.length lc] : Array Value)[j]? = some u → w1.cell? ⟨w.heap.size, j, none⟩ = some u := fun j u hu => by simp [World.cell?, HX1.out, hu]
      have y0 := y 0 _ rfl
      have y1 := y 1 _ rfl
      have y2 := y 2 _ rfl
      have y3 := y 3 _ rfl
      have y4 := y 4 _ rfl
      have y5 := y 5 _ rfl
      have y6 := y 6 _ rfl
      have y7 := y 7 _ rfl
      have y8 := y 8 _ rfl
      have y9 := y 9 _ rfl
      clear y
      go_wp2_with fail
      clear y0 y1 y2 y3 y4 y5 y6 y7 y8 y9
      refine (heavyE_at e pa ga ea fa la pc gc ec fc lc _ (HP.out _ HB1.out).hp).mono ?_
      rintro v w2 ⟨rfl, hb2⟩
      rw [hh0]
      have HX2 : Hid (w2.heap[w.heap.size]? = some (.cells #[.string e.name, .int .i64 e.tol, .slice pa e.pts.length pc, .int .i64 e.cnt, .int .i64 e.mn, .int .i64 e.mx, .slice ga e.gaps.length gc, .slice ea e.edges.length ec, .slice fa e.first.length fc, .slice la e.last.length lc] 27 (0, 0))) := row_below hb2 HX1.out
      have HB2 : Hid (Below w.heap.size w w2) := HB1.out.trans (hb2.mono HB1.out.size)
      clear hb2 HX1 HB1
      have y2 : w2.cell? ⟨w.heap.size, 2, none⟩ = some (.slice pa e.pts.length pc) := by have := HX2.out; simp [World.cell?, this]
      by_cases g0 : 30 < (row.length : Int)
      · go_wp2
        go_ret
        exact ⟨rfl, HB2.out⟩
      by_cases g1 : n < 0
      · go_wp2
        go_ret
        exact ⟨rfl, HB2.out⟩
      by_cases g2 : 14 < n
      · go_wp2
        go_ret
        exact ⟨rfl, HB2.out⟩
      have g3 : 16 < (e.pts.length : Int) := by
        have := HG.out
        omega
      go_wp2
      go_ret
      exact ⟨rfl, HB2.out⟩
  · have HP : Hid (∀ V, Below w.heap.size w V → EntParts V e (.slice pa e.pts.length pc) (.slice ga e.gaps.length gc) (.slice ea e.edges.length ec) (.slice fa e.first.length fc) (.slice la e.last.length lc)) := fun V hV => hP.below hV
    have hh0 : one01 (heavyE e) = 1 := by rw [Bool.not_eq_false] at hh; rw [hh]; rfl
    clear hP hh hWf hR
    go_enter Tryd.func3, Tryd.ntmps3
    go_wp2_with fail
    refine (ordered_any _).mono ?_
    rintro v w1 ⟨rfl, hb1⟩
    have HX1 : Hid (w1.heap[w.heap.size]? = some (.cells #[.string e.name, .int .i64 e.tol, .slice pa e.pts.length pc, .int .i64 e.cnt, .int .i64 e.mn, .int .i64 e.mx, .slice ga e.gaps.length gc, .slice ea e.edges.length ec, .slice fa e.first.length fc, .slice la e.last.length lc] 27 (0, 0))) := row_below hb1 (al_at rfl)
    have HB1 : Hid (Below w.heap.size w w1) := (Below.one _ _).trans (hb1.mono (by simp))
    clear hb1
    have y : ∀ (j : Nat) u, (#[.string e.name, .int .i64 e.tol, .slice pa e.pts.length pc, .int .i64 e.cnt, .int .i64 e.mn, .int .i64 e.mx, .slice ga e.gaps.length gc, .slice ea e.edges.length ec, .slice fa e.first.length fc, .slice la e.last.length lc] : Array Value)[j]? = some u → w1.cell? ⟨w.heap.size, j, none⟩ = some u := fun j u hu => by simp [World.cell?, HX1.out, hu]
    have y0 := y 0 _ rfl
    have y1 := y 1 _ rfl
    have y2 := y 2 _ rfl
    have y3 := y 3 _ rfl
    have y4 := y 4 _ rfl
    have y5 := y 5 _ rfl
    have y6 := y 6 _ rfl
    have y7 := y 7 _ rfl
    have y8 := y 8 _ rfl
    have y9 := y 9 _ rfl
    clear y
    go_wp2_with fail
    clear y0 y1 y2 y3 y4 y5 y6 y7 y8 y9
    refine (heavyE_at e pa ga ea fa la pc gc ec fc lc _ (HP.out _ HB1.out).hp).mono ?_
    rintro v w2 ⟨rfl, hb2⟩
    rw [hh0]
    have HX2 : Hid (w2.heap[w.heap.size]? = some (.cells #[.string e.name, .int .i64 e.tol, .slice pa e.pts.length pc, .int .i64 e.cnt, .int .i64 e.mn, .int .i64 e.mx, .slice ga e.gaps.length gc, .slice ea e.edges.length ec, .slice fa e.first.length fc, .slice la e.last.length lc] 27 (0, 0))) := row_below hb2 HX1.out
    have HB2 : Hid (Below w.heap.size w w2) := HB1.out.trans (hb2.mono HB1.out.size)
    clear hb2 HX1 HB1
    go_wp2
    go_ret
    exact ⟨rfl, HB2.out⟩
def seatLaid1 : List (String × DataW Unit) := [("nightwatch/api.ErrBound", Rows.laid_nightwatch_api_ErrBound)]
theorem laid1_split (W : World) : laidMetH Tryd.prog seatLaid1 W = laidMet Tryd.prog seatLaid1 W := MakeChecks.laidMetH_plain _ _ _ (by kernel_rfl)
theorem door_met1 (os : Os) (args : Array Value) : laidMetH Tryd.prog seatLaid1 ((World.doorLaid Tryd.prog 400 os).forCall (fun _ _ => 0) ⟨#[], args, []⟩).memory := by
  rw [laid1_split]
  exact laidMet_of_run' 8 (by kernel_rfl) (by kernel_rfl)
theorem own : ownKnob Tryd.prog.godebug = none := by kernel_rfl

set_option maxRecDepth 100000 in
theorem flowBegins_lifted (os : Os) (started : os.Started) (H : Type) (enc : TypeId × Value → H) :
    ReturnsInHanded {} Tryd.checked os 3 .any (fun w args => (Rows.flowBeginsSpec.pre enc Tryd.prog Tryd.f3 [] false w args ∧ laidMetH Tryd.prog seatLaid1 w) ∧ sizedMet enc Tryd.prog Tryd.f3 (OpenSpec.ofChange Rows.flowBeginsSpec) false w args)
      (Rows.flowBeginsSpec.post enc Tryd.prog Tryd.f3 false true false false) := by
  refine returnsInHanded_of_change_and (C := Tryd.checked) (X := fun w _ => laidMetH Tryd.prog seatLaid1 w) (fun _ _ _ hh h => h.of_heap hh) own started (by kernel_rfl) Tryd.func3
    (ChangeSpec.witness_shaped (enc := enc) (C := Tryd.checked) (os := os) (X := fun w _ => laidMetH Tryd.prog seatLaid1 w) false (World.doorLaid Tryd.prog 400 os) #[.agg #[.string ⟨#[]⟩, .int .i64 0, .slice none 0 0, .int .i64 0, .int .i64 0, .int .i64 0, .slice none 0 0, .slice none 0 0, .slice none 0 0, .slice none 0 0], .slice none 0 0, .int .i64 0] 8 rfl (World.shaped_of_RefB (by kernel_rfl) (by kernel_rfl)) (by kernel_rfl) (by kernel_rfl) (by kernel_rfl) (door_met1 os _)) ?_
  intro W base args ds gs before hval0 hW _ _ _ _
  have hval : ∀ (j : Nat) t v, Tryd.f3.params[j]? = some t → args[j]? = some v → Value.okWide Tryd.prog W .any base t v := hval0
  have hW' := hW
  obtain ⟨p, q, hA0, hV, rfl, hfz, hnd⟩ := hW
  have hA : DataW.TrodAll enc Tryd.prog W 0 (fun _ => true) true Tryd.f3.params.toList args.toList ds p := hA0
  rw [Tryd.params3] at hA hval
  obtain ⟨v0, vs0, d0, ds0, p0, q0, hargs, rfl, rfl, h0, r0⟩ := trodAll_cons hA
  obtain ⟨v1, vs1, d1, ds1, p1, q1, rfl, rfl, rfl, h1, r1⟩ := trodAll_cons r0
  obtain ⟨v2, vs2, d2, ds2, p2, q2, rfl, rfl, rfl, h2, r2⟩ := trodAll_cons r1
  obtain ⟨rfl, rfl, rfl⟩ := trodAll_nil r2
  obtain rfl : args = #[v0, v1, v2] := by cases args; simp_all
  obtain ⟨rfl, rfl⟩ := trodVars_none hV
  obtain ⟨cs0, rfl, hsz0⟩ := okWide_struct Tryd.underlying27 (hval 0 27 v0 rfl rfl)
  have h0k := h0
  obtain ⟨fuel0, hf0⟩ := h0
  obtain ⟨c0, pa0, ga0, ea0, fa0, la0, pc0, gc0, ec0, fc0, lc0, hcs0, hP0, hWf0⟩ := ent_args (by simpa [Value.cells] using hf0)
  obtain rfl : cs0 = #[.string c0.name, .int .i64 c0.tol, .slice pa0 c0.pts.length pc0, .int .i64 c0.cnt, .int .i64 c0.mn, .int .i64 c0.mx, .slice ga0 c0.gaps.length gc0, .slice ea0 c0.edges.length ec0, .slice fa0 c0.first.length fc0, .slice la0 c0.last.length lc0] := Array.ext' hcs0
  obtain ⟨sa1, len1, cap1, rfl⟩ := okWide_slice Tryd.underlying25 (hval 1 25 v1 rfl rfl)
  have h1k := h1
  obtain ⟨fuel1, hf1⟩ := h1
  obtain ⟨xs1, hxs1⟩ := sl_of_trod (0 : Int) (ec := encI) Tryd.underlying25 Tryd.cellsOne.1 (by decide) int_of_trod (by simpa [Value.cells] using hf1)
  obtain ⟨x2, rfl, rfl, rfl, wx2⟩ := open_int Tryd.underlying3 (hval 2 3 v2 rfl rfl) h2
  clear hA0 hval0
  simp only [List.append_nil] at hW'
  refine (fbegins_any c0 pa0 ga0 ea0 fa0 la0 pc0 gc0 ec0 fc0 lc0 _ xs1 x2 W hP0 hWf0 hxs1).mono fun e W' ⟨he, hb⟩ => ?_
  subst he
  have hlt0 : ∀ x ∈ p0, x.block < W.heap.size := fun x hx => hW'.lt x (by simp [hx])
  have hargs0 : DataW.Trod enc Tryd.prog W' 0 (fun b => decide (b < W.heap.size)) true 27 (.agg #[.string c0.name, .int .i64 c0.tol, .slice pa0 c0.pts.length pc0, .int .i64 c0.cnt, .int .i64 c0.mn, .int .i64 c0.mx, .slice ga0 c0.gaps.length gc0, .slice ea0 c0.edges.length ec0, .slice fa0 c0.first.length fc0, .slice la0 c0.last.length lc0]) d0 p0 := Below.trod Tryd.laidOut (by kernel_rfl) (of_decide_eq_true (by kernel_rfl)) h0k hb hlt0
  have hlt1 : ∀ x ∈ p1, x.block < W.heap.size := fun x hx => hW'.lt x (by simp [hx])
  have hargs1 : DataW.Trod enc Tryd.prog W' 0 (fun b => decide (b < W.heap.size)) true 25 (.slice sa1 len1 cap1) d1 p1 := Below.trod Tryd.laidOut (by kernel_rfl) (of_decide_eq_true (by kernel_rfl)) h1k hb hlt1
  have hAll : DataW.TrodAll enc Tryd.prog W' 0 (fun b => decide (b < W.heap.size)) true [27, 25, 3] [.agg #[.string c0.name, .int .i64 c0.tol, .slice pa0 c0.pts.length pc0, .int .i64 c0.cnt, .int .i64 c0.mn, .int .i64 c0.mx, .slice ga0 c0.gaps.length gc0, .slice ea0 c0.edges.length ec0, .slice fa0 c0.first.length fc0, .slice la0 c0.last.length lc0], .slice sa1 len1 cap1, .int .i64 x2] _ _ := (trodAll_cons_mk hargs0 (trodAll_cons_mk hargs1 (trodAll_cons_mk (shut_int Tryd.underlying3 wx2) trodAll_mk0)))
  simp only [List.append_nil] at hAll
  exact ⟨_, rfl, _, _, _, [], p0 ++ p1, [], hW', trodAll_mk1 (shut_bool Tryd.underlying4 true), hAll, rfl, hb.frame _, fun h => by cases h⟩

theorem flowBegins_said : Rows.FlowBeginsSaid :=
  OpenClaim.holds_of_wide 3 Tryd.f3 rfl rfl rfl rfl rfl rfl rfl ⟨rfl, rfl, rfl, rfl, rfl⟩ rfl rfl rfl rfl rfl (by kernel_rfl) Tryd.func3 (by kernel_rfl)
    (of_decide_eq_true (by kernel_rfl)) (by unfold Func.isWrapper; rw [if_neg (of_decide_eq_false (by kernel_rfl))]; exact ⟨rfl, rfl⟩)
    (fun os started H enc _ => flowBegins_lifted os started H enc)

theorem flowBegins_plain (f : FuncId) (fn : Func) (hf : Tryd.pinned.checked.prog.funcNamed "nightwatch/nightwatchlaw2.FlowBegins" = some f) (hfn : Tryd.pinned.checked.prog.funcs[f]? = some fn) :
    true = Tryd.pinned.checked.prog.looks [] ∧ ∀ (j : Nat) t, fn.params[j]? = some t → Tryd.pinned.checked.prog.wantsStandIn t = false := by
  obtain rfl : f = 3 := Option.some.inj ((show Tryd.prog.funcNamed "nightwatch/nightwatchlaw2.FlowBegins" = some 3 by kernel_rfl).symm.trans hf) |>.symm
  obtain rfl : fn = Tryd.f3 := (Option.some.inj (Tryd.func3.symm.trans hfn)).symm
  refine ⟨by kernel_rfl, fun j t ht => ?_⟩
  rw [Tryd.params3] at ht
  have hm : t ∈ [27, 25, 3] := by simpa using Array.mem_of_getElem? ht
  have hall : ([27, 25, 3].all fun u => !Tryd.prog.wantsStandIn u) = true := by kernel_rfl
  exact (show Tryd.prog.wantsStandIn t = false by simpa using List.all_eq_true.1 hall t hm)

/-- The card. -/
theorem flowBegins_card : Rows.FlowBeginsCardSaid :=
  Claim7.holds_tied_plain_at .later [] _ _ _ _ flowBegins_said (fun _ h => by cases h) (by kernel_rfl) (fun _ h => by cases h) flowBegins_row_tie rfl ⟨rfl, rfl⟩ (by kernel_rfl) rfl flowBegins_plain (by kernel_rfl)
#print axioms flowBegins_card
end Go.Proofs.YtbholbenjalliabDoor
