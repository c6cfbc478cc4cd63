/-
  Several texts as one: LdBase, TxLaid. What each holds: LdBase: What a row's list of laid variables gives the walk, piece by piece: sentinels, the keywords ('KwAt'), the table of powers of ten ('TabAt'). No condition. | TxLaid: What the list of laid variables of ConfTexts and of ConfReads gives the walk: 'Senv', 'KwAt', 'TabAt'; a world that meets it. No condition.
-/
import Derived.Test.YtbholbenjalliaaGreatDoorRows
import Derived.Test.YtbholbenjalliaaGreatDoorPgX
import Derived.Test.YtbholbenjalliaaGreatDoorCfMemX
import Derived.Lib.LaidTab
import Derived.LaidLaws
import Derived.LaidHandle
import Derived.LaidMore
import Derived.Test.YtbholbenjalliaaGreatDoorCodesX
import Derived.Lay
namespace Go.Proofs.YtbholbenjalliaaGreatDoor
open Go.RowKit Go.ChangeShapes

/-- Sentinels of errors.New's make, as the list has them. -/
def sentList (l : List (String × List UInt8)) : List (String × DataW Unit) := l.map fun x => (x.1, .iface "*errors.errorString" (.ptr (.agg [.lit (.string x.2)])))

theorem sents {P : Program} {W : World} {ti tp te ts : TypeId} {ms : Array (String × TypeId)} {f : Field}
    (hi : P.underlying ti = some (.interface ms)) (hrow : ∀ u, P.typeName? 3 u = some "*errors.errorString" → u = tp)
    (hp : P.underlying tp = some (.pointer te)) (he : P.underlying te = some (.struct #[f])) (hft : f.type = ts) (hfo : f.offset = 0) (hs : P.underlying ts = some .string) (hc : P.cellsOf te = 1) (hcs : P.cellsOf ts = 1) :
    ∀ (l : List (String × List UInt8)) (ps : List MemPlace), (∀ x, x ∈ l → ∃ g, P.globalNamed x.1 = some g ∧ (P.globals[g]?).map (·.type) = some ti) → DataW.LaidVars P W (sentList l) ps → ps.Nodup →
      (∀ b off, MemPlace.cell b off ∈ ps → (∃ c t, W.heap[b]? = some (.cells c t (0, 0))) ∧ ∀ u v, W.cell? ⟨b, off, none⟩ = some (.iface u v) → Value.okWide P W .any 0 u v) →
      ∃ A : Nat → Addr, (∀ i x, l[i]? = some x → W.var? P x.1 = some #[.iface tp (.pointer (some (A i)))]) ∧ (∀ i, i < l.length → ∃ c t, W.heap[(A i).block]? = some (.cells c t (0, 0))) ∧
        (∀ i, i < l.length → MemPlace.cell (A i).block (A i).off ∈ ps) ∧ ∀ i j, i < l.length → j < l.length → i ≠ j → A i ≠ A j := by
  intro l
  induction l with
  | nil => exact fun ps _ _ _ _ => ⟨fun _ => ⟨0, 0, none⟩, fun i x h => by simp at h, fun i h => by simp at h, fun i h => by simp at h, fun i j h => by simp at h⟩
  | cons x r ih =>
    intro ps hg hl hnd hrows
    obtain ⟨n, text⟩ := x
    obtain ⟨g, t, cs, fuel, p, q, hg0, ht0, hv0, hd0, hq, rfl⟩ := hl
    obtain ⟨g', hg1, ht1⟩ := hg (n, text) (List.mem_cons_self ..)
    obtain rfl := Option.some.inj (hg1.symm.trans hg0)
    obtain rfl := Option.some.inj (ht1.symm.trans ht0)
    obtain ⟨lc⟩ := cs
    have ok0 : ∀ u v, lc = [.iface u v] → Value.okWide P W .any 0 u v := fun u v e => by
      subst e
      exact (hrows g' 0 (by simp [MemPlace.row])).2 u v (by simpa using World.var?_cell hg0 hv0 0)
    obtain ⟨a0, s0, rfl, hc0, hs0, hz0, rfl⟩ := errorString_of_trod hi hrow hp he hft hfo hs hc hcs hd0 ok0
    obtain ⟨A, v, b, m, d⟩ := ih q (fun y hy => hg y (List.mem_cons_of_mem _ hy)) hq (List.Nodup.sublist (List.sublist_append_right _ _) hnd) (fun b off hm => hrows b off (List.mem_append_right _ hm))
    have h0m : ∀ i, i < r.length → a0 ≠ A i := fun i hi e => by
      have hm := m i hi
      rw [← e] at hm
      have := List.nodup_append.1 hnd
      exact this.2.2 _ (List.mem_append_right _ (by simp [MemPlace.row])) _ hm rfl
    refine ⟨fun i => match i with | 0 => a0 | i + 1 => A i, fun i y hy => ?_, fun i hi => ?_, fun i hi => ?_, fun i j hi hj hne => ?_⟩
    · cases i with
      | zero => simp only [List.getElem?_cons_zero, Option.some.injEq] at hy; subst hy; exact hv0
      | succ i => exact v i y (by simpa using hy)
    · cases i with
      | zero => exact (hrows a0.block a0.off (by simp [MemPlace.row])).1
      | succ i => exact b i (by simpa using hi)
    · cases i with
      | zero => exact List.mem_append_left _ (List.mem_append_right _ (by simp [MemPlace.row]))
      | succ i => exact List.mem_append_right _ (m i (by simpa using hi))
    · cases i with
      | zero =>
        cases j with
        | zero => exact absurd rfl hne
        | succ j => exact h0m j (by simpa using hj)
      | succ i =>
        cases j with
        | zero => exact fun e => h0m i (by simpa using hi) e.symm
        | succ j => exact d i j (by simpa using hi) (by simpa using hj) (by omega)

theorem own : ownKnob Tryz.prog.godebug = none := by kernel_rfl
theorem Tryz.g0 : Tryz.prog.globalNamed "nightwatch/api.ErrText" = some 1 := by kernel_rfl
theorem Tryz.g1 : Tryz.prog.globalNamed "nightwatch/api.ErrBound" = some 0 := by kernel_rfl
theorem Tryz.g2 : Tryz.prog.globalNamed "nightwatch/api.ErrShape" = some 2 := by kernel_rfl
theorem Tryz.g3 : Tryz.prog.globalNamed "nightwatch/api.ErrName" = some 3 := by kernel_rfl
theorem Tryz.g4 : Tryz.prog.globalNamed "nightwatch/api.ErrNone" = some 4 := by kernel_rfl
theorem Tryz.g5 : Tryz.prog.globalNamed "nightwatch/api.ErrExist" = some 5 := by kernel_rfl
theorem Tryz.nameErr : Tryz.prog.typeName? 3 227 = some "*errors.errorString" := by kernel_rfl
theorem star : "*" ++ "errors.errorString" = "*errors.errorString" := by decide
theorem Tryz.oneErr (u : TypeId) (h : Tryz.prog.typeName? 3 u = some "*errors.errorString") : u = 227 :=
  typeName_ptr_named (nm := "errors.errorString") (by rw [star]; kernel_rfl) (by kernel_rfl) (by decide) u (by rw [star]; exact h)
theorem Tryz.cellsES : Tryz.prog.cellsOf 246 = 1 := by kernel_rfl
theorem Tryz.cellsStr : Tryz.prog.cellsOf 9 = 1 := by kernel_rfl

theorem laidVars_split {P : Program} {W : World} : ∀ (a b : List (String × DataW Unit)) (ps : List MemPlace), DataW.LaidVars P W (a ++ b) ps → ∃ p q, ps = p ++ q ∧ DataW.LaidVars P W a p ∧ DataW.LaidVars P W b q
  | [], b, ps, h => ⟨[], ps, rfl, rfl, h⟩
  | (n, d) :: a, b, ps, h => by
    obtain ⟨g, t, cs, fuel, p, q, hg0, ht0, hv0, hd0, hq, rfl⟩ := h
    obtain ⟨p1, q1, rfl, h1, h2⟩ := laidVars_split a b q hq
    exact ⟨MemPlace.row ⟨g, 0, none⟩ cs.size ++ p ++ p1, q1, by simp [List.append_assoc], ⟨g, t, cs, fuel, p, p1, hg0, ht0, hv0, hd0, h1, rfl⟩, h2⟩
theorem cells_of_strs {H : Type} {enc : TypeId × Value → H} {P : Program} {w : World} {base : Nat} {sp : Nat → Bool} {held : Bool} {fuel : Nat} {t e : TypeId} {n : Nat} {cs : List Value} {zs : List (List UInt8)} {p : List MemPlace}
    (ht : P.underlying t = some (.array n e)) (he : P.underlying e = some .string) (hce : P.cellsOf e = 1) (hct : P.cellsOf t = n)
    (h : DataW.trod enc P w base sp held fuel t cs = some (.agg (zs.map fun z => .lit (.string z)), p)) : cs = zs.map fun z => Value.string ⟨z.toArray⟩ := by
  cases fuel with
  | zero => simp [DataW.trod] at h
  | succ fuel =>
    simp only [DataW.trod, ht, hce, hct, Nat.mul_one] at h
    split at h
    · rename_i hl
      obtain ⟨xs, hm, hx⟩ := Option.map_eq_some_iff.1 h
      have hxs : xs.map (·.1) = zs.map fun z => (DataW.lit (.string z) : DataW H) := by
        have := congrArg Prod.fst hx
        simpa using this
      have hxl : xs.length = n := by simpa using Lib.mapM_length hm
      have hzl : zs.length = n := by
        have := congrArg List.length hxs
        simp at this
        omega
      apply List.ext_getElem?
      intro i
      by_cases hi : i < n
      · obtain ⟨b, hb, hf⟩ := Lib.mapM_at hm i i (by simp [hi])
        obtain ⟨z, hc, rfl, _⟩ := DataW.trod_string he hf
        have h1 : cs[i]? = some (.string z) := by
          have := congrArg (·[0]?) hc
          simpa [List.getElem?_take, List.getElem?_drop] using this
        have h2 : (xs.map (·.1))[i]? = some (DataW.lit (.string z.data.toList) : DataW H) := by simp [hb]
        rw [hxs] at h2
        simp only [List.getElem?_map, Option.map_eq_some_iff, DataW.lit.injEq, Lit.string.injEq] at h2
        obtain ⟨z', hz', rfl⟩ := h2
        simp [h1, hz']
      · rw [List.getElem?_eq_none (by omega), List.getElem?_eq_none (by simp; omega)]
    · cases h
theorem kwData : (Rows.laid_nightwatch_conf_keywords : DataW Unit) = .agg ([kw 0, kw 1, kw 2, kw 3, kw 4, kw 5, kw 6, kw 7, kw 8, kw 9].map fun z => .lit (.string z)) := rfl
theorem tabDataIs : (Rows.laid_internal_strconv_uint64pow10 : DataW Unit) = Lib.tabData .u64 Lib.pow10Tab := rfl
theorem Tryz.gTab : Tryz.prog.globalNamed "internal/strconv.uint64pow10" = some 16 := by kernel_rfl
theorem Tryz.gTabT : (Tryz.prog.globals[16]?).map (·.type) = some 221 := by kernel_rfl
theorem Tryz.gKw : Tryz.prog.globalNamed "nightwatch/conf.keywords" = some 12 := by kernel_rfl
theorem Tryz.gKwT : (Tryz.prog.globals[12]?).map (·.type) = some 163 := by kernel_rfl
theorem Tryz.cTab : Tryz.prog.cellsOf 221 = 20 ∧ Tryz.prog.cellsOf 215 = 1 := ⟨by kernel_rfl, by kernel_rfl⟩
theorem Tryz.cKw : Tryz.prog.cellsOf 163 = 10 := by kernel_rfl
theorem tab_of_vars {W : World} {p : List MemPlace} (h : DataW.LaidVars Tryz.prog W [("internal/strconv.uint64pow10", Rows.laid_internal_strconv_uint64pow10)] p) : TabAt W := by
  obtain ⟨g', t', cs, fuel, p, q, hg', ht', hvar, hd, _, _⟩ := h
  obtain rfl := Option.some.inj (Tryz.gTab.symm.trans hg')
  obtain rfl := Option.some.inj (Tryz.gTabT.symm.trans ht')
  rw [tabDataIs] at hd
  unfold TabAt Lib.TabIs
  rw [hvar, ← Lib.cells_of_tab Tryz.underlying221 Tryz.underlying215 Tryz.cTab.2 Tryz.cTab.1 hd]
theorem kw_of_vars {W : World} {p : List MemPlace} (h : DataW.LaidVars Tryz.prog W [("nightwatch/conf.keywords", Rows.laid_nightwatch_conf_keywords)] p) : KwAt W := by
  obtain ⟨g', t', cs, fuel, p, q, hg', ht', hvar, hd, _, _⟩ := h
  obtain rfl := Option.some.inj (Tryz.gKw.symm.trans hg')
  obtain rfl := Option.some.inj (Tryz.gKwT.symm.trans ht')
  rw [kwData] at hd
  have hc := cells_of_strs Tryz.underlying163 Tryz.underlying9 Tryz.cellsStr Tryz.cKw hd
  intro i hi
  have := World.var?_cell Tryz.gKw hvar i
  rw [this]
  have e : cs[i]? = cs.toList[i]? := by rw [Array.getElem?_toList]
  rw [e, hc]
  match i, hi with
  | 0, _ => rfl
  | 1, _ => rfl
  | 2, _ => rfl
  | 3, _ => rfl
  | 4, _ => rfl
  | 5, _ => rfl
  | 6, _ => rfl
  | 7, _ => rfl
  | 8, _ => rfl
  | 9, _ => rfl

/-- The six sentinels of package conf, in the rows' own order. -/
def sixNames : List (String × List UInt8) := [("nightwatch/api.ErrText", [110, 105, 103, 104, 116, 119, 97, 116, 99, 104, 58, 32, 116, 101, 120, 116]), ("nightwatch/api.ErrBound", [110, 105, 103, 104, 116, 119, 97, 116, 99, 104, 58, 32, 98, 111, 117, 110, 100]), ("nightwatch/api.ErrShape", [110, 105, 103, 104, 116, 119, 97, 116, 99, 104, 58, 32, 115, 104, 97, 112, 101]), ("nightwatch/api.ErrName", [110, 105, 103, 104, 116, 119, 97, 116, 99, 104, 58, 32, 110, 97, 109, 101]), ("nightwatch/api.ErrNone", [110, 105, 103, 104, 116, 119, 97, 116, 99, 104, 58, 32, 110, 111, 110, 101]), ("nightwatch/api.ErrExist", [110, 105, 103, 104, 116, 119, 97, 116, 99, 104, 58, 32, 101, 120, 105, 115, 116])]
theorem Tryz.gSix : (sixNames.map fun x => (Tryz.prog.globalNamed x.1).bind fun g => (Tryz.prog.globals[g]?).map (·.type)) = List.replicate 6 (some 31) := by kernel_rfl
theorem six_of_vars {W : World} {ps : List MemPlace} (hl : DataW.LaidVars Tryz.prog W (sentList sixNames) ps) (hnd : ps.Nodup)
    (hrows : ∀ b off, MemPlace.cell b off ∈ ps → (∃ c t, W.heap[b]? = some (.cells c t (0, 0))) ∧ ∀ u v, W.cell? ⟨b, off, none⟩ = some (.iface u v) → Value.okWide Tryz.prog W .any 0 u v) : ∃ A : Nat → Addr, Sen6 A W := by
  have hgs : ∀ x, x ∈ sixNames → ∃ g, Tryz.prog.globalNamed x.1 = some g ∧ (Tryz.prog.globals[g]?).map (·.type) = some 31 := fun x hx => by
    have h1 : ((Tryz.prog.globalNamed x.1).bind fun g => (Tryz.prog.globals[g]?).map (·.type)) ∈ List.replicate 6 (some 31) := by
      rw [← Tryz.gSix]; exact List.mem_map_of_mem hx
    have h2 := List.eq_of_mem_replicate h1
    simp only [Option.bind_eq_some_iff] at h2
    obtain ⟨g, a, b⟩ := h2
    exact ⟨g, a, b⟩
  obtain ⟨A, hv, hr, -, hne⟩ := sents Tryz.underlying31 Tryz.oneErr Tryz.underlying227 Tryz.underlying246 rfl rfl Tryz.underlying9 Tryz.cellsES Tryz.cellsStr sixNames ps hgs hl hnd hrows
  exact ⟨A, ⟨by simpa using World.var?_cell Tryz.g0 (hv 0 _ rfl) 0, by simpa using World.var?_cell Tryz.g1 (hv 1 _ rfl) 0, by simpa using World.var?_cell Tryz.g2 (hv 2 _ rfl) 0, by simpa using World.var?_cell Tryz.g3 (hv 3 _ rfl) 0, by simpa using World.var?_cell Tryz.g4 (hv 4 _ rfl) 0, by simpa using World.var?_cell Tryz.g5 (hv 5 _ rfl) 0, fun i hi => hr i hi, fun i j hi hj hij => hne i j hi hj hij⟩⟩
end Go.Proofs.YtbholbenjalliaaGreatDoor

namespace Go.Proofs.YtbholbenjalliaaGreatDoor
open Go.RowKit Go.ChangeShapes

/-- The names and the texts, in Code's own order. -/
def sentNames : List (String × List UInt8) := [("nightwatch/api.ErrText", [110, 105, 103, 104, 116, 119, 97, 116, 99, 104, 58, 32, 116, 101, 120, 116]), ("nightwatch/api.ErrBound", [110, 105, 103, 104, 116, 119, 97, 116, 99, 104, 58, 32, 98, 111, 117, 110, 100]), ("nightwatch/api.ErrShape", [110, 105, 103, 104, 116, 119, 97, 116, 99, 104, 58, 32, 115, 104, 97, 112, 101]), ("nightwatch/api.ErrName", [110, 105, 103, 104, 116, 119, 97, 116, 99, 104, 58, 32, 110, 97, 109, 101]), ("nightwatch/api.ErrNone", [110, 105, 103, 104, 116, 119, 97, 116, 99, 104, 58, 32, 110, 111, 110, 101]), ("nightwatch/api.ErrExist", [110, 105, 103, 104, 116, 119, 97, 116, 99, 104, 58, 32, 101, 120, 105, 115, 116]), ("nightwatch/api.ErrFull", [110, 105, 103, 104, 116, 119, 97, 116, 99, 104, 58, 32, 102, 117, 108, 108]), ("nightwatch/api.ErrOff", [110, 105, 103, 104, 116, 119, 97, 116, 99, 104, 58, 32, 111, 102, 102]), ("nightwatch/api.ErrIdle", [110, 105, 103, 104, 116, 119, 97, 116, 99, 104, 58, 32, 105, 100, 108, 101]), ("nightwatch/api.ErrHeld", [110, 105, 103, 104, 116, 119, 97, 116, 99, 104, 58, 32, 104, 101, 108, 100]), ("nightwatch/api.ErrReset", [110, 105, 103, 104, 116, 119, 97, 116, 99, 104, 58, 32, 114, 101, 115, 101, 116])]
theorem Tryz.gErrs : (sentNames.map fun x => (Tryz.prog.globalNamed x.1).bind fun g => (Tryz.prog.globals[g]?).map (·.type)) = List.replicate 11 (some 31) := by kernel_rfl
theorem Tryz.g6 : Tryz.prog.globalNamed "nightwatch/api.ErrFull" = some 6 := by kernel_rfl
theorem Tryz.g7 : Tryz.prog.globalNamed "nightwatch/api.ErrOff" = some 7 := by kernel_rfl
theorem Tryz.g8 : Tryz.prog.globalNamed "nightwatch/api.ErrIdle" = some 8 := by kernel_rfl
theorem Tryz.g9 : Tryz.prog.globalNamed "nightwatch/api.ErrHeld" = some 9 := by kernel_rfl
theorem Tryz.g10 : Tryz.prog.globalNamed "nightwatch/api.ErrReset" = some 10 := by kernel_rfl
theorem Tryz.gEt : Tryz.prog.globalNamed "errors.errorType" = some 11 := by kernel_rfl
theorem Tryz.rt : (Tryz.prog.cutTypes.find? (·.1 == "internal/reflectlite.rtype")).map (·.2) = some 165 := by kernel_rfl
theorem Tryz.oneRow : ((List.range 257).filter fun t => Tryz.prog.rowNamed t [101, 114, 114, 111, 114]) = [31] := by kernel_rfl
theorem Tryz.nTypes : Tryz.prog.types.size = 257 := by kernel_rfl

/-- The list of the rows. -/
def txLaid : List (String × DataW Unit) := [("math/bits.deBruijn32tab", Rows.laid_math_bits_deBruijn32tab), ("math/bits.deBruijn64tab", Rows.laid_math_bits_deBruijn64tab), ("internal/strconv.uint64pow10", Rows.laid_internal_strconv_uint64pow10), ("unicode/utf8.acceptRanges", Rows.laid_unicode_utf8_acceptRanges), ("errors.errorType", Rows.laid_errors_errorType), ("nightwatch/api.ErrText", Rows.laid_nightwatch_api_ErrText), ("nightwatch/api.ErrBound", Rows.laid_nightwatch_api_ErrBound), ("nightwatch/api.ErrShape", Rows.laid_nightwatch_api_ErrShape), ("nightwatch/api.ErrName", Rows.laid_nightwatch_api_ErrName), ("nightwatch/api.ErrNone", Rows.laid_nightwatch_api_ErrNone), ("nightwatch/api.ErrExist", Rows.laid_nightwatch_api_ErrExist), ("nightwatch/api.ErrFull", Rows.laid_nightwatch_api_ErrFull), ("nightwatch/api.ErrOff", Rows.laid_nightwatch_api_ErrOff), ("nightwatch/api.ErrIdle", Rows.laid_nightwatch_api_ErrIdle), ("nightwatch/api.ErrHeld", Rows.laid_nightwatch_api_ErrHeld), ("nightwatch/api.ErrReset", Rows.laid_nightwatch_api_ErrReset), ("nightwatch/conf.keywords", Rows.laid_nightwatch_conf_keywords), ("unicode/utf8.first", Rows.laid_unicode_utf8_first)]
/-- The same without the handle. -/
def txPlain : List (String × DataW Unit) := [("math/bits.deBruijn32tab", Rows.laid_math_bits_deBruijn32tab), ("math/bits.deBruijn64tab", Rows.laid_math_bits_deBruijn64tab), ("internal/strconv.uint64pow10", Rows.laid_internal_strconv_uint64pow10), ("unicode/utf8.acceptRanges", Rows.laid_unicode_utf8_acceptRanges), ("nightwatch/api.ErrText", Rows.laid_nightwatch_api_ErrText), ("nightwatch/api.ErrBound", Rows.laid_nightwatch_api_ErrBound), ("nightwatch/api.ErrShape", Rows.laid_nightwatch_api_ErrShape), ("nightwatch/api.ErrName", Rows.laid_nightwatch_api_ErrName), ("nightwatch/api.ErrNone", Rows.laid_nightwatch_api_ErrNone), ("nightwatch/api.ErrExist", Rows.laid_nightwatch_api_ErrExist), ("nightwatch/api.ErrFull", Rows.laid_nightwatch_api_ErrFull), ("nightwatch/api.ErrOff", Rows.laid_nightwatch_api_ErrOff), ("nightwatch/api.ErrIdle", Rows.laid_nightwatch_api_ErrIdle), ("nightwatch/api.ErrHeld", Rows.laid_nightwatch_api_ErrHeld), ("nightwatch/api.ErrReset", Rows.laid_nightwatch_api_ErrReset), ("nightwatch/conf.keywords", Rows.laid_nightwatch_conf_keywords), ("unicode/utf8.first", Rows.laid_unicode_utf8_first)]
theorem tx_split (W : World) : laidMetH Tryz.prog txLaid W = (laidMet Tryz.prog txPlain W ∧ handlesMet Tryz.prog [("errors.errorType", Rows.laid_errors_errorType)] W) := by kernel_rfl
theorem tx_parts : txPlain = [("math/bits.deBruijn32tab", Rows.laid_math_bits_deBruijn32tab), ("math/bits.deBruijn64tab", Rows.laid_math_bits_deBruijn64tab)] ++ ([("internal/strconv.uint64pow10", Rows.laid_internal_strconv_uint64pow10)] ++ ([("unicode/utf8.acceptRanges", Rows.laid_unicode_utf8_acceptRanges)] ++ (sentList sentNames ++ ([("nightwatch/conf.keywords", Rows.laid_nightwatch_conf_keywords)] ++ [("unicode/utf8.first", Rows.laid_unicode_utf8_first)])))) := rfl
theorem tx_of_laid {W : World} (h : laidMetH Tryz.prog txLaid W) : ∃ A : Nat → Addr, Senv A W ∧ KwAt W ∧ TabAt W := by
  rw [tx_split] at h
  obtain ⟨⟨ps0, hl0, hnd0, hrows0⟩, hh⟩ := h
  rw [tx_parts] at hl0
  obtain ⟨p0, r0, rfl, -, hl0⟩ := laidVars_split _ _ _ hl0
  obtain ⟨p1, r1, rfl, htab, hl0⟩ := laidVars_split _ _ _ hl0
  obtain ⟨p2, r2, rfl, -, hl0⟩ := laidVars_split _ _ _ hl0
  obtain ⟨ps, r3, rfl, hl, hl0⟩ := laidVars_split _ _ _ hl0
  obtain ⟨p4, r4, rfl, hkw, -⟩ := laidVars_split _ _ _ hl0
  have hnd : ps.Nodup := List.Nodup.sublist ((List.sublist_append_left _ _).trans ((List.sublist_append_right _ _).trans ((List.sublist_append_right _ _).trans (List.sublist_append_right _ _)))) hnd0
  have hrows : ∀ b off, MemPlace.cell b off ∈ ps → _ := fun b off hm => hrows0 b off (by simp [hm])
  have hgs : ∀ x, x ∈ sentNames → ∃ g, Tryz.prog.globalNamed x.1 = some g ∧ (Tryz.prog.globals[g]?).map (·.type) = some 31 := fun x hx => by
    have h1 : ((Tryz.prog.globalNamed x.1).bind fun g => (Tryz.prog.globals[g]?).map (·.type)) ∈ List.replicate 11 (some 31) := by
      rw [← Tryz.gErrs]; exact List.mem_map_of_mem hx
    have h2 := List.eq_of_mem_replicate h1
    simp only [Option.bind_eq_some_iff] at h2
    obtain ⟨g, a, b⟩ := h2
    exact ⟨g, a, b⟩
  obtain ⟨A, hv, hr, -, hne⟩ := sents Tryz.underlying31 Tryz.oneErr Tryz.underlying227 Tryz.underlying246 rfl rfl Tryz.underlying9 Tryz.cellsES Tryz.cellsStr sentNames ps hgs hl hnd hrows
  have het : W.cell? ⟨11, 0, none⟩ = some (.iface 165 (.agg #[.pointer (some ⟨19, 31, none⟩)])) := by
    obtain ⟨name, u, ty, e1, e2, e3, e4, e5⟩ := hh _ (List.mem_singleton.2 rfl)
    have en : name = [101, 114, 114, 111, 114] := (Option.some.inj e1).symm
    subst en
    obtain rfl := Option.some.inj (Tryz.rt.symm.trans e2)
    have hm : ty ∈ (List.range 257).filter fun t => Tryz.prog.rowNamed t [101, 114, 114, 111, 114] := List.mem_filter.2 ⟨List.mem_range.2 (by rw [← Tryz.nTypes]; exact e3), e4⟩
    rw [Tryz.oneRow] at hm
    obtain rfl := List.mem_singleton.1 hm
    have hh : typeHandle Tryz.prog 31 = .pointer (some ⟨19, 31, none⟩) := by kernel_rfl
    rw [hh] at e5
    simpa using World.var?_cell Tryz.gEt e5 0
  refine ⟨A, ⟨by simpa using World.var?_cell Tryz.g0 (hv 0 _ rfl) 0, by simpa using World.var?_cell Tryz.g1 (hv 1 _ rfl) 0, by simpa using World.var?_cell Tryz.g2 (hv 2 _ rfl) 0, by simpa using World.var?_cell Tryz.g3 (hv 3 _ rfl) 0, by simpa using World.var?_cell Tryz.g4 (hv 4 _ rfl) 0, by simpa using World.var?_cell Tryz.g5 (hv 5 _ rfl) 0, by simpa using World.var?_cell Tryz.g6 (hv 6 _ rfl) 0, by simpa using World.var?_cell Tryz.g7 (hv 7 _ rfl) 0, by simpa using World.var?_cell Tryz.g8 (hv 8 _ rfl) 0, by simpa using World.var?_cell Tryz.g9 (hv 9 _ rfl) 0, by simpa using World.var?_cell Tryz.g10 (hv 10 _ rfl) 0, het, fun i hi => hr i hi, fun i j hi hj => hne i j hi hj⟩, kw_of_vars hkw, tab_of_vars htab⟩

/-- A world that meets the condition: the rows' witness starts there. -/
theorem tx_met (os : Os) (args : Array Value) : laidMetH Tryz.prog txLaid ((World.layVars Tryz.prog ({ World.holding Tryz.prog os ⟨#[], #[], []⟩ with heap := ⟨Lay.setRows (World.holding Tryz.prog os ⟨#[], #[], []⟩).heap.toList [(11, [(.iface 165 (.agg #[.pointer (some ⟨19, 31, none⟩)]))])]⟩ } : World) txPlain).forCall (fun _ _ => 0) ⟨#[], args, []⟩).memory := by
  refine laidMetH_of_parts ?_ (by kernel_rfl)
  have e0 : (txLaid.filter fun x => x.2.handleName?.isNone) = txPlain := by kernel_rfl
  rw [e0]
  have e1 : (txPlain.filter fun x => (txPlain.map (·.1)).contains x.1) = txPlain := List.filter_eq_self.2 fun x hx => List.contains_iff_mem.2 (List.mem_map.2 ⟨x, hx, rfl⟩)
  have e2 : (txPlain.filter fun x => !(txPlain.map (·.1)).contains x.1) = [] := List.filter_eq_nil_iff.2 fun x hx => by rw [List.contains_iff_mem.2 (List.mem_map.2 ⟨x, hx, rfl⟩)]; simp
  have h : laidMet Tryz.prog txPlain (World.layVars Tryz.prog ({ World.holding Tryz.prog os ⟨#[], #[], []⟩ with heap := ⟨Lay.setRows (World.holding Tryz.prog os ⟨#[], #[], []⟩).heap.toList [(11, [(.iface 165 (.agg #[.pointer (some ⟨19, 31, none⟩)]))])]⟩ } : World) txPlain) := laidMet_layVars (w0 := ({ World.holding Tryz.prog os ⟨#[], #[], []⟩ with heap := ⟨Lay.setRows (World.holding Tryz.prog os ⟨#[], #[], []⟩).heap.toList [(11, [(.iface 165 (.agg #[.pointer (some ⟨19, 31, none⟩)]))])]⟩ } : World)) (txPlain.map (·.1)) [] (by rw [e1]) (by rw [e1]; kernel_rfl) (by rw [e1]; kernel_rfl) (by rw [e2]; exact LaidIn.none)
  exact h.of_heap (by simp [World.memory, World.forCall, Input.heap])
end Go.Proofs.YtbholbenjalliaaGreatDoor
