/-
  What the list of laid variables of ConfTexts and of ConfReads gives the walk: 'Senv', 'KwAt', 'TabAt'; a world that meets it. No condition.
-/
import Derived.Test.YtcnfkdecghdphaaGreatDoorLdBaseX
import Derived.Test.YtcnfkdecghdphaaGreatDoorCodesX
import Derived.Lay
namespace Go.Proofs.YtcnfkdecghdphaaGreatDoor
open Go.RowKit Go.ChangeShapes

/-- The names and the texts, in Code's own order. -/
def sentNames : List (String × List UInt8) := [("nightwatch/api.ErrText", [110, 105, 103, 104, 116, 119, 97, 116, 99, 104, 58, 32, 116, 101, 120, 116]), ("nightwatch/api.ErrBound", [110, 105, 103, 104, 116, 119, 97, 116, 99, 104, 58, 32, 98, 111, 117, 110, 100]), ("nightwatch/api.ErrShape", [110, 105, 103, 104, 116, 119, 97, 116, 99, 104, 58, 32, 115, 104, 97, 112, 101]), ("nightwatch/api.ErrName", [110, 105, 103, 104, 116, 119, 97, 116, 99, 104, 58, 32, 110, 97, 109, 101]), ("nightwatch/api.ErrNone", [110, 105, 103, 104, 116, 119, 97, 116, 99, 104, 58, 32, 110, 111, 110, 101]), ("nightwatch/api.ErrExist", [110, 105, 103, 104, 116, 119, 97, 116, 99, 104, 58, 32, 101, 120, 105, 115, 116]), ("nightwatch/api.ErrFull", [110, 105, 103, 104, 116, 119, 97, 116, 99, 104, 58, 32, 102, 117, 108, 108]), ("nightwatch/api.ErrOff", [110, 105, 103, 104, 116, 119, 97, 116, 99, 104, 58, 32, 111, 102, 102]), ("nightwatch/api.ErrIdle", [110, 105, 103, 104, 116, 119, 97, 116, 99, 104, 58, 32, 105, 100, 108, 101]), ("nightwatch/api.ErrHeld", [110, 105, 103, 104, 116, 119, 97, 116, 99, 104, 58, 32, 104, 101, 108, 100]), ("nightwatch/api.ErrReset", [110, 105, 103, 104, 116, 119, 97, 116, 99, 104, 58, 32, 114, 101, 115, 101, 116])]
theorem Tryz.gErrs : (sentNames.map fun x => (Tryz.prog.globalNamed x.1).bind fun g => (Tryz.prog.globals[g]?).map (·.type)) = List.replicate 11 (some 31) := by kernel_rfl
theorem Tryz.g6 : Tryz.prog.globalNamed "nightwatch/api.ErrFull" = some 6 := by kernel_rfl
theorem Tryz.g7 : Tryz.prog.globalNamed "nightwatch/api.ErrOff" = some 7 := by kernel_rfl
theorem Tryz.g8 : Tryz.prog.globalNamed "nightwatch/api.ErrIdle" = some 8 := by kernel_rfl
theorem Tryz.g9 : Tryz.prog.globalNamed "nightwatch/api.ErrHeld" = some 9 := by kernel_rfl
theorem Tryz.g10 : Tryz.prog.globalNamed "nightwatch/api.ErrReset" = some 10 := by kernel_rfl
theorem Tryz.gEt : Tryz.prog.globalNamed "errors.errorType" = some 11 := by kernel_rfl
theorem Tryz.rt : (Tryz.prog.cutTypes.find? (·.1 == "internal/reflectlite.rtype")).map (·.2) = some 165 := by kernel_rfl
theorem Tryz.oneRow : ((List.range 257).filter fun t => Tryz.prog.rowNamed t [101, 114, 114, 111, 114]) = [31] := by kernel_rfl
theorem Tryz.nTypes : Tryz.prog.types.size = 257 := by kernel_rfl

/-- The list of the rows. -/
def txLaid : List (String × DataW Unit) := [("math/bits.deBruijn32tab", Rows.laid_math_bits_deBruijn32tab), ("math/bits.deBruijn64tab", Rows.laid_math_bits_deBruijn64tab), ("internal/strconv.uint64pow10", Rows.laid_internal_strconv_uint64pow10), ("unicode/utf8.acceptRanges", Rows.laid_unicode_utf8_acceptRanges), ("errors.errorType", Rows.laid_errors_errorType), ("nightwatch/api.ErrText", Rows.laid_nightwatch_api_ErrText), ("nightwatch/api.ErrBound", Rows.laid_nightwatch_api_ErrBound), ("nightwatch/api.ErrShape", Rows.laid_nightwatch_api_ErrShape), ("nightwatch/api.ErrName", Rows.laid_nightwatch_api_ErrName), ("nightwatch/api.ErrNone", Rows.laid_nightwatch_api_ErrNone), ("nightwatch/api.ErrExist", Rows.laid_nightwatch_api_ErrExist), ("nightwatch/api.ErrFull", Rows.laid_nightwatch_api_ErrFull), ("nightwatch/api.ErrOff", Rows.laid_nightwatch_api_ErrOff), ("nightwatch/api.ErrIdle", Rows.laid_nightwatch_api_ErrIdle), ("nightwatch/api.ErrHeld", Rows.laid_nightwatch_api_ErrHeld), ("nightwatch/api.ErrReset", Rows.laid_nightwatch_api_ErrReset), ("nightwatch/conf.keywords", Rows.laid_nightwatch_conf_keywords), ("unicode/utf8.first", Rows.laid_unicode_utf8_first)]
/-- The same without the handle. -/
def txPlain : List (String × DataW Unit) := [("math/bits.deBruijn32tab", Rows.laid_math_bits_deBruijn32tab), ("math/bits.deBruijn64tab", Rows.laid_math_bits_deBruijn64tab), ("internal/strconv.uint64pow10", Rows.laid_internal_strconv_uint64pow10), ("unicode/utf8.acceptRanges", Rows.laid_unicode_utf8_acceptRanges), ("nightwatch/api.ErrText", Rows.laid_nightwatch_api_ErrText), ("nightwatch/api.ErrBound", Rows.laid_nightwatch_api_ErrBound), ("nightwatch/api.ErrShape", Rows.laid_nightwatch_api_ErrShape), ("nightwatch/api.ErrName", Rows.laid_nightwatch_api_ErrName), ("nightwatch/api.ErrNone", Rows.laid_nightwatch_api_ErrNone), ("nightwatch/api.ErrExist", Rows.laid_nightwatch_api_ErrExist), ("nightwatch/api.ErrFull", Rows.laid_nightwatch_api_ErrFull), ("nightwatch/api.ErrOff", Rows.laid_nightwatch_api_ErrOff), ("nightwatch/api.ErrIdle", Rows.laid_nightwatch_api_ErrIdle), ("nightwatch/api.ErrHeld", Rows.laid_nightwatch_api_ErrHeld), ("nightwatch/api.ErrReset", Rows.laid_nightwatch_api_ErrReset), ("nightwatch/conf.keywords", Rows.laid_nightwatch_conf_keywords), ("unicode/utf8.first", Rows.laid_unicode_utf8_first)]
theorem tx_split (W : World) : laidMetH Tryz.prog txLaid W = (laidMet Tryz.prog txPlain W ∧ handlesMet Tryz.prog [("errors.errorType", Rows.laid_errors_errorType)] W) := by kernel_rfl
theorem tx_parts : txPlain = [("math/bits.deBruijn32tab", Rows.laid_math_bits_deBruijn32tab), ("math/bits.deBruijn64tab", Rows.laid_math_bits_deBruijn64tab)] ++ ([("internal/strconv.uint64pow10", Rows.laid_internal_strconv_uint64pow10)] ++ ([("unicode/utf8.acceptRanges", Rows.laid_unicode_utf8_acceptRanges)] ++ (sentList sentNames ++ ([("nightwatch/conf.keywords", Rows.laid_nightwatch_conf_keywords)] ++ [("unicode/utf8.first", Rows.laid_unicode_utf8_first)])))) := rfl
theorem tx_of_laid {W : World} (h : laidMetH Tryz.prog txLaid W) : ∃ A : Nat → Addr, Senv A W ∧ KwAt W ∧ TabAt W := by
  rw [tx_split] at h
  obtain ⟨⟨ps0, hl0, hnd0, hrows0⟩, hh⟩ := h
  rw [tx_parts] at hl0
  obtain ⟨p0, r0, rfl, -, hl0⟩ := laidVars_split _ _ _ hl0
  obtain ⟨p1, r1, rfl, htab, hl0⟩ := laidVars_split _ _ _ hl0
  obtain ⟨p2, r2, rfl, -, hl0⟩ := laidVars_split _ _ _ hl0
  obtain ⟨ps, r3, rfl, hl, hl0⟩ := laidVars_split _ _ _ hl0
  obtain ⟨p4, r4, rfl, hkw, -⟩ := laidVars_split _ _ _ hl0
  have hnd : ps.Nodup := List.Nodup.sublist ((List.sublist_append_left _ _).trans ((List.sublist_append_right _ _).trans ((List.sublist_append_right _ _).trans (List.sublist_append_right _ _)))) hnd0
  have hrows : ∀ b off, MemPlace.cell b off ∈ ps → _ := fun b off hm => hrows0 b off (by simp [hm])
  have hgs : ∀ x, x ∈ sentNames → ∃ g, Tryz.prog.globalNamed x.1 = some g ∧ (Tryz.prog.globals[g]?).map (·.type) = some 31 := fun x hx => by
    have h1 : ((Tryz.prog.globalNamed x.1).bind fun g => (Tryz.prog.globals[g]?).map (·.type)) ∈ List.replicate 11 (some 31) := by
      rw [← Tryz.gErrs]; exact List.mem_map_of_mem hx
    have h2 := List.eq_of_mem_replicate h1
    simp only [Option.bind_eq_some_iff] at h2
    obtain ⟨g, a, b⟩ := h2
    exact ⟨g, a, b⟩
  obtain ⟨A, hv, hr, -, hne⟩ := sents Tryz.underlying31 Tryz.oneErr Tryz.underlying227 Tryz.underlying246 rfl rfl Tryz.underlying9 Tryz.cellsES Tryz.cellsStr sentNames ps hgs hl hnd hrows
  have het : W.cell? ⟨11, 0, none⟩ = some (.iface 165 (.agg #[.pointer (some ⟨19, 31, none⟩)])) := by
    obtain ⟨name, u, ty, e1, e2, e3, e4, e5⟩ := hh _ (List.mem_singleton.2 rfl)
    have en : name = [101, 114, 114, 111, 114] := (Option.some.inj e1).symm
    subst en
    obtain rfl := Option.some.inj (Tryz.rt.symm.trans e2)
    have hm : ty ∈ (List.range 257).filter fun t => Tryz.prog.rowNamed t [101, 114, 114, 111, 114] := List.mem_filter.2 ⟨List.mem_range.2 (by rw [← Tryz.nTypes]; exact e3), e4⟩
    rw [Tryz.oneRow] at hm
    obtain rfl := List.mem_singleton.1 hm
    have hh : typeHandle Tryz.prog 31 = .pointer (some ⟨19, 31, none⟩) := by kernel_rfl
    rw [hh] at e5
    simpa using World.var?_cell Tryz.gEt e5 0
  refine ⟨A, ⟨by simpa using World.var?_cell Tryz.g0 (hv 0 _ rfl) 0, by simpa using World.var?_cell Tryz.g1 (hv 1 _ rfl) 0, by simpa using World.var?_cell Tryz.g2 (hv 2 _ rfl) 0, by simpa using World.var?_cell Tryz.g3 (hv 3 _ rfl) 0, by simpa using World.var?_cell Tryz.g4 (hv 4 _ rfl) 0, by simpa using World.var?_cell Tryz.g5 (hv 5 _ rfl) 0, by simpa using World.var?_cell Tryz.g6 (hv 6 _ rfl) 0, by simpa using World.var?_cell Tryz.g7 (hv 7 _ rfl) 0, by simpa using World.var?_cell Tryz.g8 (hv 8 _ rfl) 0, by simpa using World.var?_cell Tryz.g9 (hv 9 _ rfl) 0, by simpa using World.var?_cell Tryz.g10 (hv 10 _ rfl) 0, het, fun i hi => hr i hi, fun i j hi hj => hne i j hi hj⟩, kw_of_vars hkw, tab_of_vars htab⟩

/-- A world that meets the condition: the rows' witness starts there. -/
theorem tx_met (os : Os) (args : Array Value) : laidMetH Tryz.prog txLaid ((World.layVars Tryz.prog ({ World.holding Tryz.prog os ⟨#[], #[], []⟩ with heap := ⟨Lay.setRows (World.holding Tryz.prog os ⟨#[], #[], []⟩).heap.toList [(11, [(.iface 165 (.agg #[.pointer (some ⟨19, 31, none⟩)]))])]⟩ } : World) txPlain).forCall (fun _ _ => 0) ⟨#[], args, []⟩).memory := by
  refine laidMetH_of_parts ?_ (by kernel_rfl)
  have e0 : (txLaid.filter fun x => x.2.handleName?.isNone) = txPlain := by kernel_rfl
  rw [e0]
  have e1 : (txPlain.filter fun x => (txPlain.map (·.1)).contains x.1) = txPlain := List.filter_eq_self.2 fun x hx => List.contains_iff_mem.2 (List.mem_map.2 ⟨x, hx, rfl⟩)
  have e2 : (txPlain.filter fun x => !(txPlain.map (·.1)).contains x.1) = [] := List.filter_eq_nil_iff.2 fun x hx => by rw [List.contains_iff_mem.2 (List.mem_map.2 ⟨x, hx, rfl⟩)]; simp
  have h : laidMet Tryz.prog txPlain (World.layVars Tryz.prog ({ World.holding Tryz.prog os ⟨#[], #[], []⟩ with heap := ⟨Lay.setRows (World.holding Tryz.prog os ⟨#[], #[], []⟩).heap.toList [(11, [(.iface 165 (.agg #[.pointer (some ⟨19, 31, none⟩)]))])]⟩ } : World) txPlain) := laidMet_layVars (w0 := ({ World.holding Tryz.prog os ⟨#[], #[], []⟩ with heap := ⟨Lay.setRows (World.holding Tryz.prog os ⟨#[], #[], []⟩).heap.toList [(11, [(.iface 165 (.agg #[.pointer (some ⟨19, 31, none⟩)]))])]⟩ } : World)) (txPlain.map (·.1)) [] (by rw [e1]) (by rw [e1]; kernel_rfl) (by rw [e1]; kernel_rfl) (by rw [e2]; exact LaidIn.none)
  exact h.of_heap (by simp [World.memory, World.forCall, Input.heap])
end Go.Proofs.YtcnfkdecghdphaaGreatDoor
