/-
  Proved: nightwatchlaw2.FlowWords answers true for every entity and every number; each argument reads afterwards as it read before. Conditions: those of the given card alone (the api's sentinels and errors.errorType are as the program's own text lays them).
-/
import Derived.Test.YtbholbenjalliabDoorCards
import Derived.Test.YtbholbenjalliabDoorTie
import Derived.Test.YtbholbenjalliabDoorLaid
import Derived.Test.YtbholbenjalliabDoorCfArgE
import Derived.Test.YtbholbenjalliabDoorFwWalk
import Derived.WalkKit
import Derived.ProofKit
import Derived.OpenShut
import Derived.Deep.Slices
import Derived.Stop.Joined
import Derived.SevenTiedAt
import Derived.Carry
import Derived.LaidLaws
import Derived.LaidMore
namespace Go.Proofs.YtbholbenjalliabDoor
open Go.ChangeShapes Go.WideShapes Go.ChangeAt Go.RowKit Go.Deep

theorem ent_args {H : Type} {enc : TypeId × Value → H} {W : World} {fuel : Nat} {cs : List Value} {x : DataW H × List MemPlace} (h : DataW.trod enc Tryd.prog W 0 (fun _ => true) true fuel 27 cs = some x) :
    ∃ e : EntD, ∃ pa ga ea fa la pc gc ec fc lc, cs = (#[.string e.name, .int .i64 e.tol, .slice pa e.pts.length pc, .int .i64 e.cnt, .int .i64 e.mn, .int .i64 e.mx, .slice ga e.gaps.length gc, .slice ea e.edges.length ec, .slice fa e.first.length fc, .slice la e.last.length lc] : Array Value).toList ∧ EntParts W e (.slice pa e.pts.length pc) (.slice ga e.gaps.length gc) (.slice ea e.edges.length ec) (.slice fa e.first.length fc) (.slice la e.last.length lc) ∧ WfE e.edges := by
  obtain ⟨e, pv, gv, ev, fv, lv, h1, h2, h3⟩ := ent_of_trod2 fuel cs x h
  obtain ⟨pa, pc, rfl, -⟩ := id h2.hp
  obtain ⟨ga, gc, rfl, -⟩ := id h2.hg
  obtain ⟨ea, ec, rfl, -⟩ := id h2.he
  obtain ⟨fa, fc, rfl, -⟩ := id h2.hf
  obtain ⟨la, lc, rfl, -⟩ := id h2.hl
  exact ⟨e, pa, ga, ea, fa, la, pc, gc, ec, fc, lc, h1, h2, h3⟩

set_option maxRecDepth 100000 in
theorem flowWords_lifted (os : Os) (started : os.Started) (H : Type) (enc : TypeId × Value → H) :
    ReturnsInHanded {} Tryd.checked os 4 .any (fun w args => (Rows.flowWordsSpec.pre enc Tryd.prog Tryd.f4 [] false w args ∧ laidMetH Tryd.prog seatLaid w) ∧ sizedMet enc Tryd.prog Tryd.f4 (OpenSpec.ofChange Rows.flowWordsSpec) false w args)
      (Rows.flowWordsSpec.post enc Tryd.prog Tryd.f4 false true false false) := by
  refine returnsInHanded_of_change_and (C := Tryd.checked) (X := fun w _ => laidMetH Tryd.prog seatLaid w) (fun _ _ _ hh h => h.of_heap hh) own started (by kernel_rfl) Tryd.func4
    (ChangeSpec.witness_shaped (enc := enc) (C := Tryd.checked) (os := os) (X := fun w _ => laidMetH Tryd.prog seatLaid w) false (World.doorLaid Tryd.prog 400 os) #[.agg #[.string ⟨#[]⟩, .int .i64 0, .slice none 0 0, .int .i64 0, .int .i64 0, .int .i64 0, .slice none 0 0, .slice none 0 0, .slice none 0 0, .slice none 0 0], .int .i64 0] 8 rfl (World.shaped_of_RefB (by kernel_rfl) (by kernel_rfl)) (by kernel_rfl) (by kernel_rfl) (by kernel_rfl) (door_met os _)) ?_
  intro W base args ds gs before hval0 hW _ _ hL _
  have hval : ∀ (j : Nat) t v, Tryd.f4.params[j]? = some t → args[j]? = some v → Value.okWide Tryd.prog W .any base t v := hval0
  have hW' := hW
  obtain ⟨p, q, hA0, hV, rfl, hfz, hnd⟩ := hW
  have hA : DataW.TrodAll enc Tryd.prog W 0 (fun _ => true) true Tryd.f4.params.toList args.toList ds p := hA0
  rw [Tryd.params4] at hA hval
  obtain ⟨v0, vs0, d0, ds0, p0, q0, hargs, rfl, rfl, h0, r0⟩ := trodAll_cons hA
  obtain ⟨v1, vs1, d1, ds1, p1, q1, rfl, rfl, rfl, h1, r1⟩ := trodAll_cons r0
  obtain ⟨rfl, rfl, rfl⟩ := trodAll_nil r1
  obtain rfl : args = #[v0, v1] := by cases args; simp_all
  obtain ⟨rfl, rfl⟩ := trodVars_none hV
  obtain ⟨cs0, rfl, hsz0⟩ := okWide_struct Tryd.underlying27 (hval 0 27 v0 rfl rfl)
  have h0k := h0
  obtain ⟨fuel0, hf0⟩ := h0
  obtain ⟨c0, pa0, ga0, ea0, fa0, la0, pc0, gc0, ec0, fc0, lc0, hcs0, hP0, hWf0⟩ := ent_args (by simpa [Value.cells] using hf0)
  obtain rfl : cs0 = #[.string c0.name, .int .i64 c0.tol, .slice pa0 c0.pts.length pc0, .int .i64 c0.cnt, .int .i64 c0.mn, .int .i64 c0.mx, .slice ga0 c0.gaps.length gc0, .slice ea0 c0.edges.length ec0, .slice fa0 c0.first.length fc0, .slice la0 c0.last.length lc0] := Array.ext' hcs0
  obtain ⟨x1, rfl, rfl, rfl, wx1⟩ := open_int Tryd.underlying3 (hval 1 3 v1 rfl rfl) h1
  obtain ⟨A, hs⟩ := senv_of_laid hL
  clear hA0 hval0
  simp only [List.append_nil] at hW'
  refine (fwords_any A c0 pa0 ga0 ea0 fa0 la0 pc0 gc0 ec0 fc0 lc0 x1 W hs hP0 hWf0).mono fun e W' ⟨he, hb⟩ => ?_
  subst he
  have hlt0 : ∀ x ∈ p0, x.block < W.heap.size := fun x hx => hW'.lt x (by simp [hx])
  have hargs0 : DataW.Trod enc Tryd.prog W' 0 (fun b => decide (b < W.heap.size)) true 27 (.agg #[.string c0.name, .int .i64 c0.tol, .slice pa0 c0.pts.length pc0, .int .i64 c0.cnt, .int .i64 c0.mn, .int .i64 c0.mx, .slice ga0 c0.gaps.length gc0, .slice ea0 c0.edges.length ec0, .slice fa0 c0.first.length fc0, .slice la0 c0.last.length lc0]) d0 p0 := Below.trod Tryd.laidOut (by kernel_rfl) (of_decide_eq_true (by kernel_rfl)) h0k hb hlt0
  have hAll : DataW.TrodAll enc Tryd.prog W' 0 (fun b => decide (b < W.heap.size)) true [27, 3] [.agg #[.string c0.name, .int .i64 c0.tol, .slice pa0 c0.pts.length pc0, .int .i64 c0.cnt, .int .i64 c0.mn, .int .i64 c0.mx, .slice ga0 c0.gaps.length gc0, .slice ea0 c0.edges.length ec0, .slice fa0 c0.first.length fc0, .slice la0 c0.last.length lc0], .int .i64 x1] _ _ := (trodAll_cons_mk hargs0 (trodAll_cons_mk (shut_int Tryd.underlying3 wx1) trodAll_mk0))
  simp only [List.append_nil] at hAll
  exact ⟨_, rfl, _, _, _, [], p0, [], hW', trodAll_mk1 (shut_bool Tryd.underlying4 true), hAll, rfl, hb.frame _, fun h => by cases h⟩

theorem flowWords_said : Rows.FlowWordsSaid :=
  OpenClaim.holds_of_wide 4 Tryd.f4 rfl rfl rfl rfl rfl rfl rfl ⟨rfl, rfl, rfl, rfl, rfl⟩ rfl rfl rfl rfl rfl (by kernel_rfl) Tryd.func4 (by kernel_rfl)
    (of_decide_eq_true (by kernel_rfl)) (by unfold Func.isWrapper; rw [if_neg (of_decide_eq_false (by kernel_rfl))]; exact ⟨rfl, rfl⟩)
    (fun os started H enc _ => flowWords_lifted os started H enc)

theorem flowWords_plain (f : FuncId) (fn : Func) (hf : Tryd.pinned.checked.prog.funcNamed "nightwatch/nightwatchlaw2.FlowWords" = some f) (hfn : Tryd.pinned.checked.prog.funcs[f]? = some fn) :
    true = Tryd.pinned.checked.prog.looks [] ∧ ∀ (j : Nat) t, fn.params[j]? = some t → Tryd.pinned.checked.prog.wantsStandIn t = false := by
  obtain rfl : f = 4 := Option.some.inj ((show Tryd.prog.funcNamed "nightwatch/nightwatchlaw2.FlowWords" = some 4 by kernel_rfl).symm.trans hf) |>.symm
  obtain rfl : fn = Tryd.f4 := (Option.some.inj (Tryd.func4.symm.trans hfn)).symm
  refine ⟨by kernel_rfl, fun j t ht => ?_⟩
  rw [Tryd.params4] at ht
  have hm : t ∈ [27, 3] := by simpa using Array.mem_of_getElem? ht
  have hall : ([27, 3].all fun u => !Tryd.prog.wantsStandIn u) = true := by kernel_rfl
  exact (show Tryd.prog.wantsStandIn t = false by simpa using List.all_eq_true.1 hall t hm)

/-- The card. -/
theorem flowWords_card : Rows.FlowWordsCardSaid :=
  Claim7.holds_tied_plain_at .later [] _ _ _ _ flowWords_said (fun _ h => by cases h) (by kernel_rfl) (fun _ h => by cases h) flowWords_row_tie rfl ⟨rfl, rfl⟩ (by kernel_rfl) rfl flowWords_plain (by kernel_rfl)
#print axioms flowWords_card
end Go.Proofs.YtbholbenjalliabDoor
