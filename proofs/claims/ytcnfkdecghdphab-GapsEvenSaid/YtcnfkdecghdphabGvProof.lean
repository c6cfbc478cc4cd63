/-
  Proved: nightwatchlaw2.GapsEven answers true for all four numbers; each argument reads afterwards as it read before. No condition but the given row's.
-/
import Derived.Test.YtcnfkdecghdphabRows
import Derived.Test.YtcnfkdecghdphabGvWalk
import Derived.WalkKit
import Derived.ProofKit
import Derived.OpenShut
import Derived.Deep.Slices
import Derived.Carry
namespace Go.Proofs.Ytcnfkdecghdphab
open Go.ChangeShapes Go.WideShapes Go.ChangeAt Go.RowKit Go.Deep

set_option maxRecDepth 100000 in
set_option maxHeartbeats 2000000 in
theorem even_any (n mn mx times : Int) (w : World) :
    Calls Try.prog 5 #[.int .i64 n, .int .i64 mn, .int .i64 mx, .int .i64 times] w fun e w' => e = .returned (.bool true) ∧ Below w.heap.size w w' := by
  by_cases gg : 0 ≤ n ∧ n ≤ 1000 ∧ 0 ≤ mn ∧ mn ≤ mx ∧ mx ≤ 1000 ∧ 2 ≤ times ∧ times ≤ 50
  · obtain ⟨n, rfl⟩ := Int.eq_ofNat_of_zero_le gg.1
    obtain ⟨mn, rfl⟩ := Int.eq_ofNat_of_zero_le gg.2.2.1
    obtain ⟨mx, rfl⟩ := Int.eq_ofNat_of_zero_le (show 0 ≤ mx by omega)
    obtain ⟨times, rfl⟩ := Int.eq_ofNat_of_zero_le (show 0 ≤ times by omega)
    exact even_in n mn mx times w (by omega) (by omega) (by omega) (by omega) (by omega)
  · by_cases t1 : n < 0
    · clear gg
      go_enter Try.func5, Try.ntmps5
      go_wp2_with fail
      refine (spaced_any _).mono ?_
      rintro e w1 ⟨rfl, hb1⟩
      go_wp2
      go_ret
      exact ⟨rfl, hb1⟩
    by_cases t2 : 1000 < n
    · clear gg
      go_enter Try.func5, Try.ntmps5
      go_wp2_with fail
      refine (spaced_any _).mono ?_
      rintro e w1 ⟨rfl, hb1⟩
      go_wp2
      go_ret
      exact ⟨rfl, hb1⟩
    by_cases t3 : mn < 0
    · clear gg
      go_enter Try.func5, Try.ntmps5
      go_wp2_with fail
      refine (spaced_any _).mono ?_
      rintro e w1 ⟨rfl, hb1⟩
      go_wp2
      go_ret
      exact ⟨rfl, hb1⟩
    by_cases t4 : mx < mn
    · clear gg
      go_enter Try.func5, Try.ntmps5
      go_wp2_with fail
      refine (spaced_any _).mono ?_
      rintro e w1 ⟨rfl, hb1⟩
      go_wp2
      go_ret
      exact ⟨rfl, hb1⟩
    by_cases t5 : 1000 < mx
    · clear gg
      go_enter Try.func5, Try.ntmps5
      go_wp2_with fail
      refine (spaced_any _).mono ?_
      rintro e w1 ⟨rfl, hb1⟩
      go_wp2
      go_ret
      exact ⟨rfl, hb1⟩
    by_cases t6 : times < 2
    · clear gg
      go_enter Try.func5, Try.ntmps5
      go_wp2_with fail
      refine (spaced_any _).mono ?_
      rintro e w1 ⟨rfl, hb1⟩
      go_wp2
      go_ret
      exact ⟨rfl, hb1⟩
    have t7 : 50 < times := by omega
    clear gg
    go_enter Try.func5, Try.ntmps5
    go_wp2_with fail
    refine (spaced_any _).mono ?_
    rintro e w1 ⟨rfl, hb1⟩
    go_wp2
    go_ret
    exact ⟨rfl, hb1⟩

theorem gapsEven_own : ownKnob Try.prog.godebug = none := by kernel_rfl
set_option maxRecDepth 100000 in
theorem gapsEven_lifted (os : Os) (started : os.Started) (H : Type) (enc : TypeId × Value → H) :
    ReturnsInHanded {} Try.checked os 5 .any (Rows.gapsEvenSpec.pre6 enc Try.prog Try.f5 Rows.gapsEvenRow.domain false) (Rows.gapsEvenSpec.post enc Try.prog Try.f5 false true false false) := by
  refine returnsInHanded_of_change (C := Try.checked) gapsEven_own started (by kernel_rfl) Try.func5
    (ChangeSpec.witness6 (enc := enc) (C := Try.checked) false ⟨#[], #[.int .i64 0, .int .i64 0, .int .i64 0, .int .i64 0], []⟩ 8 (by kernel_rfl) (by kernel_rfl) (by kernel_rfl) (by kernel_rfl)) ?_
  intro W base args ds gs before hval0 hW hcnd _
  have hval : ∀ (j : Nat) t v, Try.f5.params[j]? = some t → args[j]? = some v → Value.okWide Try.prog W .any base t v := hval0
  have hW' := hW
  obtain ⟨p, q, hA0, hV, rfl, hfz, hnd⟩ := hW
  have hA : DataW.TrodAll enc Try.prog W 0 (fun _ => true) true Try.f5.params.toList args.toList ds p := hA0
  rw [Try.params5] at hA hval
  obtain ⟨v0, vs0, d0, ds0, p0, q0, hargs, rfl, rfl, h0, r0⟩ := trodAll_cons hA
  obtain ⟨v1, vs1, d1, ds1, p1, q1, rfl, rfl, rfl, h1, r1⟩ := trodAll_cons r0
  obtain ⟨v2, vs2, d2, ds2, p2, q2, rfl, rfl, rfl, h2, r2⟩ := trodAll_cons r1
  obtain ⟨v3, vs3, d3, ds3, p3, q3, rfl, rfl, rfl, h3, r3⟩ := trodAll_cons r2
  obtain ⟨rfl, rfl, rfl⟩ := trodAll_nil r3
  obtain rfl : args = #[v0, v1, v2, v3] := by cases args; simp_all
  obtain ⟨rfl, rfl⟩ := trodVars_none hV
  obtain ⟨x0, rfl, rfl, rfl, wx0⟩ := open_int Try.underlying3 (hval 0 3 v0 rfl rfl) h0
  obtain ⟨x1, rfl, rfl, rfl, wx1⟩ := open_int Try.underlying3 (hval 1 3 v1 rfl rfl) h1
  obtain ⟨x2, rfl, rfl, rfl, wx2⟩ := open_int Try.underlying3 (hval 2 3 v2 rfl rfl) h2
  obtain ⟨x3, rfl, rfl, rfl, wx3⟩ := open_int Try.underlying3 (hval 3 3 v3 rfl rfl) h3
  clear hA0 hval0
  simp only [List.append_nil] at hW'
  refine (even_any x0 x1 x2 x3 W).mono fun e W' ⟨he, hb⟩ => ?_
  subst he
  have hAll : DataW.TrodAll enc Try.prog W' 0 (fun b => decide (b < W.heap.size)) true [3, 3, 3, 3] [.int .i64 x0, .int .i64 x1, .int .i64 x2, .int .i64 x3] _ _ := (trodAll_cons_mk (shut_int Try.underlying3 wx0) (trodAll_cons_mk (shut_int Try.underlying3 wx1) (trodAll_cons_mk (shut_int Try.underlying3 wx2) (trodAll_cons_mk (shut_int Try.underlying3 wx3) trodAll_mk0))))
  simp only [List.append_nil] at hAll
  exact ⟨_, rfl, _, _, _, [], [], [], hW', trodAll_mk1 (shut_bool Try.underlying4 true), hAll, rfl, hb.frame _, fun h => by cases h⟩

/-- The statement. -/
theorem gapsEven_said : Rows.GapsEvenSaid :=
  OpenClaim.holds_of_wide 5 Try.f5 rfl rfl rfl rfl rfl rfl rfl ⟨rfl, rfl, rfl, rfl, rfl⟩ rfl rfl rfl rfl rfl (by kernel_rfl) Try.func5 (by kernel_rfl)
    (of_decide_eq_true (by kernel_rfl)) (by unfold Func.isWrapper; first | (rw [if_pos (by decide +kernel)]; kernel_rfl) | (rw [if_neg (by decide +kernel)]; exact ⟨rfl, rfl⟩))
    (fun os started H enc _ => gapsEven_lifted os started H enc)
#print axioms gapsEven_said
end Go.Proofs.Ytcnfkdecghdphab
