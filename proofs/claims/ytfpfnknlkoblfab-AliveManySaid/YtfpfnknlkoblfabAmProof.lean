/-
  Proved: nightwatchlaw2.AliveMany answers true for every Max and every number more; each argument reads afterwards as it read before. No condition but the given row's.
-/
import Derived.Test.YtfpfnknlkoblfabRows
import Derived.Test.YtfpfnknlkoblfabAmWalk
import Derived.WalkKit
import Derived.ProofKit
import Derived.OpenShut
import Derived.Deep.Slices
import Derived.Carry
namespace Go.Proofs.Ytfpfnknlkoblfab
open Go.ChangeShapes Go.WideShapes Go.ChangeAt Go.RowKit Go.Deep

set_option maxRecDepth 100000 in
set_option maxHeartbeats 2000000 in
theorem many_any (mx more : Int) (w : World) :
    Calls Try.prog 3 #[.int .i64 mx, .int .i64 more] w fun e w' => e = .returned (.bool true) ∧ Below w.heap.size w w' := by
  by_cases gg : 0 ≤ mx ∧ mx < 1000 ∧ 0 ≤ more ∧ more ≤ 300
  · obtain ⟨mx, rfl⟩ := Int.eq_ofNat_of_zero_le gg.1
    obtain ⟨more, rfl⟩ := Int.eq_ofNat_of_zero_le gg.2.2.1
    exact many_in mx more w (by omega) (by omega)
  · by_cases t1 : mx < 0
    · clear gg
      go_enter Try.func3, Try.ntmps3
      go_wp2_with fail
      refine (counts_any _).mono ?_
      rintro e w1 ⟨rfl, hb1⟩
      go_wp2
      go_ret
      exact ⟨rfl, hb1⟩
    by_cases t2 : 1000 ≤ mx
    · clear gg
      go_enter Try.func3, Try.ntmps3
      go_wp2_with fail
      refine (counts_any _).mono ?_
      rintro e w1 ⟨rfl, hb1⟩
      go_wp2
      go_ret
      exact ⟨rfl, hb1⟩
    by_cases t3 : more < 0
    · clear gg
      go_enter Try.func3, Try.ntmps3
      go_wp2_with fail
      refine (counts_any _).mono ?_
      rintro e w1 ⟨rfl, hb1⟩
      go_wp2
      go_ret
      exact ⟨rfl, hb1⟩
    have t4 : 300 < more := by omega
    clear gg
    go_enter Try.func3, Try.ntmps3
    go_wp2_with fail
    refine (counts_any _).mono ?_
    rintro e w1 ⟨rfl, hb1⟩
    go_wp2
    go_ret
    exact ⟨rfl, hb1⟩

theorem aliveMany_own : ownKnob Try.prog.godebug = none := by kernel_rfl
set_option maxRecDepth 100000 in
theorem aliveMany_lifted (os : Os) (started : os.Started) (H : Type) (enc : TypeId × Value → H) :
    ReturnsInHanded {} Try.checked os 3 .any (Rows.aliveManySpec.pre6 enc Try.prog Try.f3 Rows.aliveManyRow.domain false) (Rows.aliveManySpec.post enc Try.prog Try.f3 false true false false) := by
  refine returnsInHanded_of_change (C := Try.checked) aliveMany_own started (by kernel_rfl) Try.func3
    (ChangeSpec.witness6 (enc := enc) (C := Try.checked) false ⟨#[], #[.int .i64 0, .int .i64 0], []⟩ 8 (by kernel_rfl) (by kernel_rfl) (by kernel_rfl) (by kernel_rfl)) ?_
  intro W base args ds gs before hval0 hW hcnd _
  have hval : ∀ (j : Nat) t v, Try.f3.params[j]? = some t → args[j]? = some v → Value.okWide Try.prog W .any base t v := hval0
  have hW' := hW
  obtain ⟨p, q, hA0, hV, rfl, hfz, hnd⟩ := hW
  have hA : DataW.TrodAll enc Try.prog W 0 (fun _ => true) true Try.f3.params.toList args.toList ds p := hA0
  rw [Try.params3] at hA hval
  obtain ⟨v0, vs0, d0, ds0, p0, q0, hargs, rfl, rfl, h0, r0⟩ := trodAll_cons hA
  obtain ⟨v1, vs1, d1, ds1, p1, q1, rfl, rfl, rfl, h1, r1⟩ := trodAll_cons r0
  obtain ⟨rfl, rfl, rfl⟩ := trodAll_nil r1
  obtain rfl : args = #[v0, v1] := by cases args; simp_all
  obtain ⟨rfl, rfl⟩ := trodVars_none hV
  obtain ⟨x0, rfl, rfl, rfl, wx0⟩ := open_int Try.underlying3 (hval 0 3 v0 rfl rfl) h0
  obtain ⟨x1, rfl, rfl, rfl, wx1⟩ := open_int Try.underlying3 (hval 1 3 v1 rfl rfl) h1
  clear hA0 hval0
  simp only [List.append_nil] at hW'
  refine (many_any x0 x1 W).mono fun e W' ⟨he, hb⟩ => ?_
  subst he
  have hAll : DataW.TrodAll enc Try.prog W' 0 (fun b => decide (b < W.heap.size)) true [3, 3] [.int .i64 x0, .int .i64 x1] _ _ := (trodAll_cons_mk (shut_int Try.underlying3 wx0) (trodAll_cons_mk (shut_int Try.underlying3 wx1) trodAll_mk0))
  simp only [List.append_nil] at hAll
  exact ⟨_, rfl, _, _, _, [], [], [], hW', trodAll_mk1 (shut_bool Try.underlying4 true), hAll, rfl, hb.frame _, fun h => by cases h⟩

/-- The statement. -/
theorem aliveMany_said : Rows.AliveManySaid :=
  OpenClaim.holds_of_wide 3 Try.f3 rfl rfl rfl rfl rfl rfl rfl ⟨rfl, rfl, rfl, rfl, rfl⟩ rfl rfl rfl rfl rfl (by kernel_rfl) Try.func3 (by kernel_rfl)
    (of_decide_eq_true (by kernel_rfl)) (by unfold Func.isWrapper; first | (rw [if_pos (by decide +kernel)]; kernel_rfl) | (rw [if_neg (by decide +kernel)]; exact ⟨rfl, rfl⟩))
    (fun os started H enc _ => aliveMany_lifted os started H enc)
#print axioms aliveMany_said
end Go.Proofs.Ytfpfnknlkoblfab
