/-
  What the list of laid variables of ConfTwice gives the walk: 'Sen6', 'KwAt', 'TabAt'; a world that meets it. No condition.
-/
import Derived.Test.YtcnfkdecghdphabGreatDoorLdBaseX
import Derived.Lay
namespace Go.Proofs.YtcnfkdecghdphabGreatDoor
open Go.RowKit Go.ChangeShapes

/-- The list of this law's row. -/
def twLaid : List (String × DataW Unit) := [("math/bits.deBruijn32tab", Rows.laid_math_bits_deBruijn32tab), ("math/bits.deBruijn64tab", Rows.laid_math_bits_deBruijn64tab), ("internal/strconv.uint64pow10", Rows.laid_internal_strconv_uint64pow10), ("unicode/utf8.acceptRanges", Rows.laid_unicode_utf8_acceptRanges), ("nightwatch/api.ErrText", Rows.laid_nightwatch_api_ErrText), ("nightwatch/api.ErrBound", Rows.laid_nightwatch_api_ErrBound), ("nightwatch/api.ErrShape", Rows.laid_nightwatch_api_ErrShape), ("nightwatch/api.ErrName", Rows.laid_nightwatch_api_ErrName), ("nightwatch/api.ErrNone", Rows.laid_nightwatch_api_ErrNone), ("nightwatch/api.ErrExist", Rows.laid_nightwatch_api_ErrExist), ("nightwatch/conf.keywords", Rows.laid_nightwatch_conf_keywords), ("unicode/utf8.first", Rows.laid_unicode_utf8_first)]
theorem tw_split : twLaid = [("math/bits.deBruijn32tab", Rows.laid_math_bits_deBruijn32tab), ("math/bits.deBruijn64tab", Rows.laid_math_bits_deBruijn64tab)] ++ ([("internal/strconv.uint64pow10", Rows.laid_internal_strconv_uint64pow10)] ++ ([("unicode/utf8.acceptRanges", Rows.laid_unicode_utf8_acceptRanges)] ++ (sentList sixNames ++ ([("nightwatch/conf.keywords", Rows.laid_nightwatch_conf_keywords)] ++ [("unicode/utf8.first", Rows.laid_unicode_utf8_first)])))) := rfl
theorem tw_plain (W : World) : laidMetH Tryz.prog twLaid W = laidMet Tryz.prog twLaid W := MakeChecks.laidMetH_plain _ _ _ (by kernel_rfl)
theorem tw_of_laid {W : World} (h : laidMetH Tryz.prog twLaid W) : ∃ A : Nat → Addr, Sen6 A W ∧ KwAt W ∧ TabAt W := by
  rw [tw_plain] at h
  obtain ⟨ps, hl, hnd, hrows⟩ := h
  rw [tw_split] at hl
  obtain ⟨p0, r0, rfl, -, hl⟩ := laidVars_split _ _ _ hl
  obtain ⟨p1, r1, rfl, htab, hl⟩ := laidVars_split _ _ _ hl
  obtain ⟨p2, r2, rfl, -, hl⟩ := laidVars_split _ _ _ hl
  obtain ⟨p3, r3, rfl, hsix, hl⟩ := laidVars_split _ _ _ hl
  obtain ⟨p4, r4, rfl, hkw, -⟩ := laidVars_split _ _ _ hl
  obtain ⟨A, hs⟩ := six_of_vars hsix (List.Nodup.sublist ((List.sublist_append_left _ _).trans ((List.sublist_append_right _ _).trans ((List.sublist_append_right _ _).trans (List.sublist_append_right _ _)))) hnd) (fun b off hm => hrows b off (by simp [hm]))
  exact ⟨A, hs, kw_of_vars hkw, tab_of_vars htab⟩
theorem tw_met (os : Os) (args : Array Value) : laidMetH Tryz.prog twLaid ((World.laidAll Tryz.prog os twLaid).forCall (fun _ _ => 0) ⟨#[], args, []⟩).memory := by
  rw [tw_plain]
  exact laidMet_laidAll _ (by kernel_rfl) (by kernel_rfl)
end Go.Proofs.YtcnfkdecghdphabGreatDoor
