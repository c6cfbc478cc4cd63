/-
  Proved: nightwatchlaw2.FlowEnds answers true for every entity and every list of reports; each argument reads afterwards as it read before. No condition but the given row's.
-/
import Derived.Test.YtbholbenjalliabRows
import Derived.Test.YtbholbenjalliabFlEnds
import Derived.Test.YtbholbenjalliabCfArgE
import Derived.WalkKit
import Derived.ProofKit
import Derived.OpenShut
import Derived.Deep.Slices
import Derived.Carry
namespace Go.Proofs.Ytbholbenjalliab
open Go.ChangeShapes Go.WideShapes Go.ChangeAt Go.RowKit Go.Deep

theorem rep_of_trod {H : Type} {enc : TypeId × Value → H} {W : World} (n : Nat) (cs : List Value) (x : DataW H × List MemPlace) (h : DataW.trod enc Try.prog W 0 (fun _ => true) true n 40 cs = some x) : ∃ r : RepD, cs = encR r := by
  obtain ⟨xs, m, -, -, hl, hxs, hf⟩ := DataW.trod_struct Try.underlying40 h
  rw [show Try.prog.cellsOf 40 = 3 by kernel_rfl] at hl
  match cs, hl with
  | [c0, c1, c2], _ =>
    have g : ∀ i, i < 3 → ∃ y, xs[i]? = some y := fun i hi => ⟨xs[i]'(by rw [hxs]; exact hi), List.getElem?_eq_getElem _⟩
    obtain ⟨y0, k0⟩ := g 0 (by decide)
    obtain ⟨y1, k1⟩ := g 1 (by decide)
    obtain ⟨y2, k2⟩ := g 2 (by decide)
    have cb : Try.prog.cellsOf 4 = 1 := by kernel_rfl
    have e0 : DataW.trod enc Try.prog W 0 (fun _ => true) true m 3 [c0] = some y0 := by have e := hf 0 _ rfl; rw [k0] at e; simpa [Try.cellsOne] using e
    have e1 : DataW.trod enc Try.prog W 0 (fun _ => true) true m 3 [c1] = some y1 := by have e := hf 1 _ rfl; rw [k1] at e; simpa [Try.cellsOne] using e
    have e2 : DataW.trod enc Try.prog W 0 (fun _ => true) true m 4 [c2] = some y2 := by have e := hf 2 _ rfl; rw [k2] at e; simpa [Try.cellsOne, cb] using e
    obtain ⟨n0, q0, -, -⟩ := DataW.trod_int Try.underlying3 e0
    obtain ⟨n1, q1, -, -⟩ := DataW.trod_int Try.underlying3 e1
    obtain ⟨n2, q2, -⟩ := DataW.trod_bool Try.underlying4 e2
    simp at q0 q1 q2
    subst q0 q1 q2
    exact ⟨⟨n0, n1, n2⟩, rfl⟩
theorem reps_of_trod0 {H : Type} {enc : TypeId × Value → H} {W : World} {fuel : Nat} {v : Value} {x : DataW H × List MemPlace} (h : DataW.trod enc Try.prog W 0 (fun _ => true) true fuel 35 [v] = some x) : ∃ l : List RepD, SlAt encR 3 W v l :=
  sl_of_trod (⟨0, 0, false⟩ : RepD) (ec := encR) Try.underlying35 (show Try.prog.cellsOf 40 = 3 by kernel_rfl) (by decide) rep_of_trod h
theorem reps_of_trod {H : Type} {enc : TypeId × Value → H} {W : World} {fuel : Nat} {v : Value} {x : DataW H × List MemPlace} (h : DataW.trod enc Try.prog W 0 (fun _ => true) true fuel 35 [v] = some x) : ∃ l : List RepD, SlAt encR 3 W v l ∧ l.length ≤ 9223372036854775807 := by
  obtain ⟨l, hl⟩ := reps_of_trod0 h
  refine ⟨l, hl, ?_⟩
  obtain ⟨sa, cap, rfl, -, -⟩ := hl
  rcases DataW.trod_slice Try.underlying35 h with ⟨h1, -⟩ | ⟨a, len, cap', elems, rest, n, -, h1, -, -, h2, h3, -⟩
  · simp only [List.cons.injEq, Value.slice.injEq, and_true] at h1
    omega
  · simp only [List.cons.injEq, Value.slice.injEq, and_true] at h1
    unfold maxLen at h3
    omega
theorem ent_args {H : Type} {enc : TypeId × Value → H} {W : World} {fuel : Nat} {cs : List Value} {x : DataW H × List MemPlace} (h : DataW.trod enc Try.prog W 0 (fun _ => true) true fuel 30 cs = some x) :
    ∃ e : EntD, ∃ pa ga ea fa la pc gc ec fc lc, cs = (#[.string e.name, .int .i64 e.tol, .slice pa e.pts.length pc, .int .i64 e.cnt, .int .i64 e.mn, .int .i64 e.mx, .slice ga e.gaps.length gc, .slice ea e.edges.length ec, .slice fa e.first.length fc, .slice la e.last.length lc] : Array Value).toList ∧ EntParts W e (.slice pa e.pts.length pc) (.slice ga e.gaps.length gc) (.slice ea e.edges.length ec) (.slice fa e.first.length fc) (.slice la e.last.length lc) ∧ WfE e.edges := by
  obtain ⟨e, pv, gv, ev, fv, lv, h1, h2, h3⟩ := ent_of_trod2 fuel cs x h
  obtain ⟨pa, pc, rfl, -⟩ := id h2.hp
  obtain ⟨ga, gc, rfl, -⟩ := id h2.hg
  obtain ⟨ea, ec, rfl, -⟩ := id h2.he
  obtain ⟨fa, fc, rfl, -⟩ := id h2.hf
  obtain ⟨la, lc, rfl, -⟩ := id h2.hl
  exact ⟨e, pa, ga, ea, fa, la, pc, gc, ec, fc, lc, h1, h2, h3⟩
set_option maxRecDepth 100000 in
set_option maxHeartbeats 4000000 in
theorem fends_any (e : EntD) (pa ga ea fa la : Option Addr) (pc gc ec fc lc : Nat) (v1 : Value) (reps : List RepD) (w : World) (hP : EntParts w e (.slice pa e.pts.length pc) (.slice ga e.gaps.length gc) (.slice ea e.edges.length ec) (.slice fa e.first.length fc) (.slice la e.last.length lc))
    (hWf : WfE e.edges) (hR0 : SlAt encR 3 w v1 reps ∧ reps.length ≤ 9223372036854775807) :
    Calls Try.prog 7 #[.agg #[.string e.name, .int .i64 e.tol, .slice pa e.pts.length pc, .int .i64 e.cnt, .int .i64 e.mn, .int .i64 e.mx, .slice ga e.gaps.length gc, .slice ea e.edges.length ec, .slice fa e.first.length fc, .slice la e.last.length lc], v1] w fun v w' => v = .returned (.bool true) ∧ Below w.heap.size w w' := by
  obtain ⟨hR, hn⟩ := hR0
  obtain ⟨sl, slc, rfl, -⟩ := id hR
  clear hn
  by_cases hh : heavyE e = false
  · by_cases hl : reps.length ≤ 100
    · exact fends_in e pa ga ea fa la pc gc ec fc lc sl reps slc w hP hR hh hl hWf
    · have HP : Hid (∀ V, Below w.heap.size w V → EntParts V e (.slice pa e.pts.length pc) (.slice ga e.gaps.length gc) (.slice ea e.edges.length ec) (.slice fa e.first.length fc) (.slice la e.last.length lc)) := fun V hV => hP.below hV
      have hh0 : one01 (heavyE e) = 0 := by rw [hh]; rfl
      have g1 : 100 < (reps.length : Int) := by omega
      clear hP hR hh hl
      go_enter Try.func7, Try.ntmps7
      go_wp2_with fail
      refine (ordered_any _).mono ?_
      rintro v w1 ⟨rfl, hb1⟩
      have HX1 : Hid (w1.heap[w.heap.size]? = some (.cells #[.string e.name, .int .i64 e.tol, .slice pa e.pts.length pc, .int .i64 e.cnt, .int .i64 e.mn, .int .i64 e.mx, .slice ga e.gaps.length gc, .slice ea e.edges.length ec, .slice fa e.first.length fc, .slice la e.last.length lc] 30 (0, 0))) := row_below hb1 (by show (w.heap.push _)[w.heap.size]? = _; simp)
      have HB1 : Hid (Below w.heap.size w w1) := (Below.one _ _).trans (hb1.mono (by simp))
      clear hb1
      have y : ∀ (j : Nat) u, (#[.string e.name, .int .i64 e.tol, .slice pa e.pts.length pc, .int .i64 e.cnt, .int .i64 e.mn, .int .i64 e.mx, .slice ga e.gaps.length gc, .slice ea e.edges.length ec, .slice fa e.first.length fc, .slice la e.last.length lc] : Array Value)[j]? = some u → w1.cell? ⟨w.heap.size, j, none⟩ = some u := fun j u hu => by simp [World.cell?, HX1.out, hu]
      have y0 := y 0 _ rfl
      have y1 := y 1 _ rfl
      have y2 := y 2 _ rfl
      have y3 := y 3 _ rfl
      have y4 := y 4 _ rfl
      have y5 := y 5 _ rfl
      have y6 := y 6 _ rfl
      have y7 := y 7 _ rfl
      have y8 := y 8 _ rfl
      have y9 := y 9 _ rfl
      clear y
      go_wp2_with fail
      clear y0 y1 y2 y3 y4 y5 y6 y7 y8 y9
      refine (heavyE_at e pa ga ea fa la pc gc ec fc lc _ (HP.out _ HB1.out).hp).mono ?_
      rintro v w2 ⟨rfl, hb2⟩
      rw [hh0]
      go_wp2
      go_ret
      exact ⟨rfl, HB1.out.trans (hb2.mono HB1.out.size)⟩
  · have HP : Hid (∀ V, Below w.heap.size w V → EntParts V e (.slice pa e.pts.length pc) (.slice ga e.gaps.length gc) (.slice ea e.edges.length ec) (.slice fa e.first.length fc) (.slice la e.last.length lc)) := fun V hV => hP.below hV
    have hh0 : one01 (heavyE e) = 1 := by rw [Bool.not_eq_false] at hh; rw [hh]; rfl
    clear hP hR hh
    go_enter Try.func7, Try.ntmps7
    go_wp2_with fail
    refine (ordered_any _).mono ?_
    rintro v w1 ⟨rfl, hb1⟩
    have HX1 : Hid (w1.heap[w.heap.size]? = some (.cells #[.string e.name, .int .i64 e.tol, .slice pa e.pts.length pc, .int .i64 e.cnt, .int .i64 e.mn, .int .i64 e.mx, .slice ga e.gaps.length gc, .slice ea e.edges.length ec, .slice fa e.first.length fc, .slice la e.last.length lc] 30 (0, 0))) := row_below hb1 (by show (w.heap.push _)[w.heap.size]? = _; simp)
    have HB1 : Hid (Below w.heap.size w w1) := (Below.one _ _).trans (hb1.mono (by simp))
    clear hb1
    have y : ∀ (j : Nat) u, (#[.string e.name, .int .i64 e.tol, .slice pa e.pts.length pc, .int .i64 e.cnt, .int .i64 e.mn, .int .i64 e.mx, .slice ga e.gaps.length gc, .slice ea e.edges.length ec, .slice fa e.first.length fc, .slice la e.last.length lc] : Array Value)[j]? = some u → w1.cell? ⟨w.heap.size, j, none⟩ = some u := fun j u hu => by simp [World.cell?, HX1.out, hu]
    have y0 := y 0 _ rfl
    have y1 := y 1 _ rfl
    have y2 := y 2 _ rfl
    have y3 := y 3 _ rfl
    have y4 := y 4 _ rfl
    have y5 := y 5 _ rfl
    have y6 := y 6 _ rfl
    have y7 := y 7 _ rfl
    have y8 := y 8 _ rfl
    have y9 := y 9 _ rfl
    clear y
    go_wp2_with fail
    clear y0 y1 y2 y3 y4 y5 y6 y7 y8 y9
    refine (heavyE_at e pa ga ea fa la pc gc ec fc lc _ (HP.out _ HB1.out).hp).mono ?_
    rintro v w2 ⟨rfl, hb2⟩
    rw [hh0]
    go_wp2
    go_ret
    exact ⟨rfl, HB1.out.trans (hb2.mono HB1.out.size)⟩

theorem flowEnds_own : ownKnob Try.prog.godebug = none := by kernel_rfl
set_option maxRecDepth 100000 in
theorem flowEnds_lifted (os : Os) (started : os.Started) (H : Type) (enc : TypeId × Value → H) :
    ReturnsInHanded {} Try.checked os 7 .any (Rows.flowEndsSpec.pre6 enc Try.prog Try.f7 Rows.flowEndsRow.domain false) (Rows.flowEndsSpec.post enc Try.prog Try.f7 false true false false) := by
  refine returnsInHanded_of_change (C := Try.checked) flowEnds_own started (by kernel_rfl) Try.func7
    (ChangeSpec.witness6 (enc := enc) (C := Try.checked) false ⟨#[], #[.agg #[.string ⟨#[]⟩, .int .i64 0, .slice none 0 0, .int .i64 0, .int .i64 0, .int .i64 0, .slice none 0 0, .slice none 0 0, .slice none 0 0, .slice none 0 0], .slice none 0 0], []⟩ 8 (by kernel_rfl) (by kernel_rfl) (by kernel_rfl) (by kernel_rfl)) ?_
  intro W base args ds gs before hval0 hW hcnd _
  have hval : ∀ (j : Nat) t v, Try.f7.params[j]? = some t → args[j]? = some v → Value.okWide Try.prog W .any base t v := hval0
  have hW' := hW
  obtain ⟨p, q, hA0, hV, rfl, hfz, hnd⟩ := hW
  have hA : DataW.TrodAll enc Try.prog W 0 (fun _ => true) true Try.f7.params.toList args.toList ds p := hA0
  rw [Try.params7] at hA hval
  obtain ⟨v0, vs0, d0, ds0, p0, q0, hargs, rfl, rfl, h0, r0⟩ := trodAll_cons hA
  obtain ⟨v1, vs1, d1, ds1, p1, q1, rfl, rfl, rfl, h1, r1⟩ := trodAll_cons r0
  obtain ⟨rfl, rfl, rfl⟩ := trodAll_nil r1
  obtain rfl : args = #[v0, v1] := by cases args; simp_all
  obtain ⟨rfl, rfl⟩ := trodVars_none hV
  obtain ⟨cs0, rfl, hsz0⟩ := okWide_struct Try.underlying30 (hval 0 30 v0 rfl rfl)
  obtain ⟨sa1, len1, cap1, rfl⟩ := okWide_slice Try.underlying35 (hval 1 35 v1 rfl rfl)
  have h0k := h0
  obtain ⟨fuel0, hf0⟩ := h0
  obtain ⟨c0, pa0, ga0, ea0, fa0, la0, pc0, gc0, ec0, fc0, lc0, hcs0, hP0, hWf0⟩ := ent_args (by simpa [Value.cells] using hf0)
  obtain rfl : cs0 = #[.string c0.name, .int .i64 c0.tol, .slice pa0 c0.pts.length pc0, .int .i64 c0.cnt, .int .i64 c0.mn, .int .i64 c0.mx, .slice ga0 c0.gaps.length gc0, .slice ea0 c0.edges.length ec0, .slice fa0 c0.first.length fc0, .slice la0 c0.last.length lc0] := Array.ext' hcs0
  have h1k := h1
  obtain ⟨fuel1, hf1⟩ := h1
  obtain ⟨xs1, hxs1⟩ := reps_of_trod (by simpa [Value.cells] using hf1)
  clear hA0 hval0
  simp only [List.append_nil] at hW'
  refine (fends_any c0 pa0 ga0 ea0 fa0 la0 pc0 gc0 ec0 fc0 lc0 _ xs1 W hP0 hWf0 hxs1).mono fun e W' ⟨he, hb⟩ => ?_
  subst he
  have hlt0 : ∀ x ∈ p0, x.block < W.heap.size := fun x hx => hW'.lt x (by simp [hx])
  have hargs0 : DataW.Trod enc Try.prog W' 0 (fun b => decide (b < W.heap.size)) true 30 (.agg #[.string c0.name, .int .i64 c0.tol, .slice pa0 c0.pts.length pc0, .int .i64 c0.cnt, .int .i64 c0.mn, .int .i64 c0.mx, .slice ga0 c0.gaps.length gc0, .slice ea0 c0.edges.length ec0, .slice fa0 c0.first.length fc0, .slice la0 c0.last.length lc0]) d0 p0 := Below.trod Try.laidOut (by kernel_rfl) (of_decide_eq_true (by kernel_rfl)) h0k hb hlt0
  have hlt1 : ∀ x ∈ p1, x.block < W.heap.size := fun x hx => hW'.lt x (by simp [hx])
  have hargs1 : DataW.Trod enc Try.prog W' 0 (fun b => decide (b < W.heap.size)) true 35 (.slice sa1 len1 cap1) d1 p1 := Below.trod Try.laidOut (by kernel_rfl) (of_decide_eq_true (by kernel_rfl)) h1k hb hlt1
  have hAll : DataW.TrodAll enc Try.prog W' 0 (fun b => decide (b < W.heap.size)) true [30, 35] [.agg #[.string c0.name, .int .i64 c0.tol, .slice pa0 c0.pts.length pc0, .int .i64 c0.cnt, .int .i64 c0.mn, .int .i64 c0.mx, .slice ga0 c0.gaps.length gc0, .slice ea0 c0.edges.length ec0, .slice fa0 c0.first.length fc0, .slice la0 c0.last.length lc0], .slice sa1 len1 cap1] _ _ := (trodAll_cons_mk hargs0 (trodAll_cons_mk hargs1 trodAll_mk0))
  simp only [List.append_nil] at hAll
  exact ⟨_, rfl, _, _, _, [], p0 ++ p1, [], hW', trodAll_mk1 (shut_bool Try.underlying4 true), hAll, rfl, hb.frame _, fun h => by cases h⟩

/-- The statement. -/
theorem flowEnds_said : Rows.FlowEndsSaid :=
  OpenClaim.holds_of_wide 7 Try.f7 rfl rfl rfl rfl rfl rfl rfl ⟨rfl, rfl, rfl, rfl, rfl⟩ rfl rfl rfl rfl rfl (by kernel_rfl) Try.func7 (by kernel_rfl)
    (of_decide_eq_true (by kernel_rfl)) (by unfold Func.isWrapper; first | (rw [if_pos (by decide +kernel)]; kernel_rfl) | (rw [if_neg (by decide +kernel)]; exact ⟨rfl, rfl⟩))
    (fun os started H enc _ => flowEnds_lifted os started H enc)
#print axioms flowEnds_said
end Go.Proofs.Ytbholbenjalliab
