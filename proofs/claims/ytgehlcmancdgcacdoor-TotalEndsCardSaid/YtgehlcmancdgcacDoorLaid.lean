/-
  What the list of laid variables gives the walks: the eleven sentinels are in memory, each another one, and errors.errorType holds the handle of 'error' ('Senv').
-/
import Derived.Test.YtgehlcmancdgcacDoorRows
import Derived.Test.YtgehlcmancdgcacDoorCode
import Derived.LaidLaws
import Derived.LaidHandle
import Derived.LaidMore
namespace Go.Proofs.YtgehlcmancdgcacDoor
open Go.RowKit Go.ChangeShapes

/-- Sentinels of errors.New's make, as the list has them. -/
def sentList (l : List (String × List UInt8)) : List (String × DataW Unit) := l.map fun x => (x.1, .iface "*errors.errorString" (.ptr (.agg [.lit (.string x.2)])))

theorem sents {P : Program} {W : World} {ti tp te ts : TypeId} {ms : Array (String × TypeId)} {f : Field}
    (hi : P.underlying ti = some (.interface ms)) (hrow : ∀ u, P.typeName? 3 u = some "*errors.errorString" → u = tp)
    (hp : P.underlying tp = some (.pointer te)) (he : P.underlying te = some (.struct #[f])) (hft : f.type = ts) (hfo : f.offset = 0) (hs : P.underlying ts = some .string) (hc : P.cellsOf te = 1) (hcs : P.cellsOf ts = 1) :
    ∀ (l : List (String × List UInt8)) (ps : List MemPlace), (∀ x, x ∈ l → ∃ g, P.globalNamed x.1 = some g ∧ (P.globals[g]?).map (·.type) = some ti) → DataW.LaidVars P W (sentList l) ps → ps.Nodup →
      (∀ b off, MemPlace.cell b off ∈ ps → (∃ c t, W.heap[b]? = some (.cells c t (0, 0))) ∧ ∀ u v, W.cell? ⟨b, off, none⟩ = some (.iface u v) → Value.okWide P W .any 0 u v) →
      ∃ A : Nat → Addr, (∀ i x, l[i]? = some x → W.var? P x.1 = some #[.iface tp (.pointer (some (A i)))]) ∧ (∀ i, i < l.length → ∃ c t, W.heap[(A i).block]? = some (.cells c t (0, 0))) ∧
        (∀ i, i < l.length → MemPlace.cell (A i).block (A i).off ∈ ps) ∧ ∀ i j, i < l.length → j < l.length → i ≠ j → A i ≠ A j := by
  intro l
  induction l with
  | nil => exact fun ps _ _ _ _ => ⟨fun _ => ⟨0, 0, none⟩, fun i x h => by simp at h, fun i h => by simp at h, fun i h => by simp at h, fun i j h => by simp at h⟩
  | cons x r ih =>
    intro ps hg hl hnd hrows
    obtain ⟨n, text⟩ := x
    obtain ⟨g, t, cs, fuel, p, q, hg0, ht0, hv0, hd0, hq, rfl⟩ := hl
    obtain ⟨g', hg1, ht1⟩ := hg (n, text) (List.mem_cons_self ..)
    obtain rfl := Option.some.inj (hg1.symm.trans hg0)
    obtain rfl := Option.some.inj (ht1.symm.trans ht0)
    obtain ⟨lc⟩ := cs
    have ok0 : ∀ u v, lc = [.iface u v] → Value.okWide P W .any 0 u v := fun u v e => by
      subst e
      exact (hrows g' 0 (by simp [MemPlace.row])).2 u v (by simpa using World.var?_cell hg0 hv0 0)
    obtain ⟨a0, s0, rfl, hc0, hs0, hz0, rfl⟩ := errorString_of_trod hi hrow hp he hft hfo hs hc hcs hd0 ok0
    obtain ⟨A, v, b, m, d⟩ := ih q (fun y hy => hg y (List.mem_cons_of_mem _ hy)) hq (List.Nodup.sublist (List.sublist_append_right _ _) hnd) (fun b off hm => hrows b off (List.mem_append_right _ hm))
    have h0m : ∀ i, i < r.length → a0 ≠ A i := fun i hi e => by
      have hm := m i hi
      rw [← e] at hm
      have := List.nodup_append.1 hnd
      exact this.2.2 _ (List.mem_append_right _ (by simp [MemPlace.row])) _ hm rfl
    refine ⟨fun i => match i with | 0 => a0 | i + 1 => A i, fun i y hy => ?_, fun i hi => ?_, fun i hi => ?_, fun i j hi hj hne => ?_⟩
    · cases i with
      | zero => simp only [List.getElem?_cons_zero, Option.some.injEq] at hy; subst hy; exact hv0
      | succ i => exact v i y (by simpa using hy)
    · cases i with
      | zero => exact (hrows a0.block a0.off (by simp [MemPlace.row])).1
      | succ i => exact b i (by simpa using hi)
    · cases i with
      | zero => exact List.mem_append_left _ (List.mem_append_right _ (by simp [MemPlace.row]))
      | succ i => exact List.mem_append_right _ (m i (by simpa using hi))
    · cases i with
      | zero =>
        cases j with
        | zero => exact absurd rfl hne
        | succ j => exact h0m j (by simpa using hj)
      | succ i =>
        cases j with
        | zero => exact fun e => h0m i (by simpa using hi) e.symm
        | succ j => exact d i j (by simpa using hi) (by simpa using hj) (by omega)

/-- The names and the texts, in Code's own order. -/
def sentNames : List (String × List UInt8) := [("nightwatch/api.ErrText", [110, 105, 103, 104, 116, 119, 97, 116, 99, 104, 58, 32, 116, 101, 120, 116]), ("nightwatch/api.ErrBound", [110, 105, 103, 104, 116, 119, 97, 116, 99, 104, 58, 32, 98, 111, 117, 110, 100]), ("nightwatch/api.ErrShape", [110, 105, 103, 104, 116, 119, 97, 116, 99, 104, 58, 32, 115, 104, 97, 112, 101]), ("nightwatch/api.ErrName", [110, 105, 103, 104, 116, 119, 97, 116, 99, 104, 58, 32, 110, 97, 109, 101]), ("nightwatch/api.ErrNone", [110, 105, 103, 104, 116, 119, 97, 116, 99, 104, 58, 32, 110, 111, 110, 101]), ("nightwatch/api.ErrExist", [110, 105, 103, 104, 116, 119, 97, 116, 99, 104, 58, 32, 101, 120, 105, 115, 116]), ("nightwatch/api.ErrFull", [110, 105, 103, 104, 116, 119, 97, 116, 99, 104, 58, 32, 102, 117, 108, 108]), ("nightwatch/api.ErrOff", [110, 105, 103, 104, 116, 119, 97, 116, 99, 104, 58, 32, 111, 102, 102]), ("nightwatch/api.ErrIdle", [110, 105, 103, 104, 116, 119, 97, 116, 99, 104, 58, 32, 105, 100, 108, 101]), ("nightwatch/api.ErrHeld", [110, 105, 103, 104, 116, 119, 97, 116, 99, 104, 58, 32, 104, 101, 108, 100]), ("nightwatch/api.ErrReset", [110, 105, 103, 104, 116, 119, 97, 116, 99, 104, 58, 32, 114, 101, 115, 101, 116])]

theorem own : ownKnob Tryd.prog.godebug = none := by kernel_rfl
theorem Tryd.gErrs : (sentNames.map fun x => (Tryd.prog.globalNamed x.1).bind fun g => (Tryd.prog.globals[g]?).map (·.type)) = List.replicate 11 (some 44) := by kernel_rfl
theorem Tryd.g0 : Tryd.prog.globalNamed "nightwatch/api.ErrText" = some 4 := by kernel_rfl
theorem Tryd.g1 : Tryd.prog.globalNamed "nightwatch/api.ErrBound" = some 3 := by kernel_rfl
theorem Tryd.g2 : Tryd.prog.globalNamed "nightwatch/api.ErrShape" = some 5 := by kernel_rfl
theorem Tryd.g3 : Tryd.prog.globalNamed "nightwatch/api.ErrName" = some 6 := by kernel_rfl
theorem Tryd.g4 : Tryd.prog.globalNamed "nightwatch/api.ErrNone" = some 2 := by kernel_rfl
theorem Tryd.g5 : Tryd.prog.globalNamed "nightwatch/api.ErrExist" = some 7 := by kernel_rfl
theorem Tryd.g6 : Tryd.prog.globalNamed "nightwatch/api.ErrFull" = some 8 := by kernel_rfl
theorem Tryd.g7 : Tryd.prog.globalNamed "nightwatch/api.ErrOff" = some 9 := by kernel_rfl
theorem Tryd.g8 : Tryd.prog.globalNamed "nightwatch/api.ErrIdle" = some 1 := by kernel_rfl
theorem Tryd.g9 : Tryd.prog.globalNamed "nightwatch/api.ErrHeld" = some 0 := by kernel_rfl
theorem Tryd.g10 : Tryd.prog.globalNamed "nightwatch/api.ErrReset" = some 10 := by kernel_rfl
theorem Tryd.gEt : Tryd.prog.globalNamed "errors.errorType" = some 11 := by kernel_rfl
theorem Tryd.rt : (Tryd.prog.cutTypes.find? (·.1 == "internal/reflectlite.rtype")).map (·.2) = some 138 := by kernel_rfl
theorem Tryd.oneRow : ((List.range 187).filter fun t => Tryd.prog.rowNamed t [101, 114, 114, 111, 114]) = [44] := by kernel_rfl
theorem Tryd.nTypes : Tryd.prog.types.size = 187 := by kernel_rfl
theorem Tryd.nameErr : Tryd.prog.typeName? 3 155 = some "*errors.errorString" := by kernel_rfl
theorem star : "*" ++ "errors.errorString" = "*errors.errorString" := by decide
theorem Tryd.oneErr (u : TypeId) (h : Tryd.prog.typeName? 3 u = some "*errors.errorString") : u = 155 :=
  typeName_ptr_named (nm := "errors.errorString") (by rw [star]; kernel_rfl) (by kernel_rfl) (by decide) u (by rw [star]; exact h)
theorem Tryd.cellsES : Tryd.prog.cellsOf 175 = 1 := by kernel_rfl
theorem Tryd.cellsStr : Tryd.prog.cellsOf 9 = 1 := by kernel_rfl

/-- The list of this seat's rows. -/
def seatLaid : List (String × DataW Unit) := [("errors.errorType", Rows.laid_errors_errorType), ("nightwatch/api.ErrText", Rows.laid_nightwatch_api_ErrText), ("nightwatch/api.ErrBound", Rows.laid_nightwatch_api_ErrBound), ("nightwatch/api.ErrShape", Rows.laid_nightwatch_api_ErrShape), ("nightwatch/api.ErrName", Rows.laid_nightwatch_api_ErrName), ("nightwatch/api.ErrNone", Rows.laid_nightwatch_api_ErrNone), ("nightwatch/api.ErrExist", Rows.laid_nightwatch_api_ErrExist), ("nightwatch/api.ErrFull", Rows.laid_nightwatch_api_ErrFull), ("nightwatch/api.ErrOff", Rows.laid_nightwatch_api_ErrOff), ("nightwatch/api.ErrIdle", Rows.laid_nightwatch_api_ErrIdle), ("nightwatch/api.ErrHeld", Rows.laid_nightwatch_api_ErrHeld), ("nightwatch/api.ErrReset", Rows.laid_nightwatch_api_ErrReset)]

theorem laid_split (W : World) : laidMetH Tryd.prog seatLaid W = (laidMet Tryd.prog (sentList sentNames) W ∧ handlesMet Tryd.prog [("errors.errorType", Rows.laid_errors_errorType)] W) := by kernel_rfl

theorem senv_of_laid {W : World} (h : laidMetH Tryd.prog seatLaid W) : ∃ A : Nat → Addr, Senv A W := by
  rw [laid_split] at h
  obtain ⟨⟨ps, hl, hnd, hrows⟩, hh⟩ := h
  have hgs : ∀ x, x ∈ sentNames → ∃ g, Tryd.prog.globalNamed x.1 = some g ∧ (Tryd.prog.globals[g]?).map (·.type) = some 44 := fun x hx => by
    have h1 : ((Tryd.prog.globalNamed x.1).bind fun g => (Tryd.prog.globals[g]?).map (·.type)) ∈ List.replicate 11 (some 44) := by
      rw [← Tryd.gErrs]; exact List.mem_map_of_mem hx
    have h2 := List.eq_of_mem_replicate h1
    simp only [Option.bind_eq_some_iff] at h2
    obtain ⟨g, a, b⟩ := h2
    exact ⟨g, a, b⟩
  obtain ⟨A, hv, hr, -, hne⟩ := sents Tryd.underlying44 Tryd.oneErr Tryd.underlying155 Tryd.underlying175 rfl rfl Tryd.underlying9 Tryd.cellsES Tryd.cellsStr sentNames ps hgs hl hnd hrows
  have het : W.cell? ⟨11, 0, none⟩ = some (.iface 138 (.agg #[.pointer (some ⟨12, 44, none⟩)])) := by
    obtain ⟨name, u, ty, e1, e2, e3, e4, e5⟩ := hh _ (List.mem_singleton.2 rfl)
    have en : name = [101, 114, 114, 111, 114] := (Option.some.inj e1).symm
    subst en
    obtain rfl := Option.some.inj (Tryd.rt.symm.trans e2)
    have hm : ty ∈ (List.range 187).filter fun t => Tryd.prog.rowNamed t [101, 114, 114, 111, 114] := List.mem_filter.2 ⟨List.mem_range.2 (by rw [← Tryd.nTypes]; exact e3), e4⟩
    rw [Tryd.oneRow] at hm
    obtain rfl := List.mem_singleton.1 hm
    have hh : typeHandle Tryd.prog 44 = .pointer (some ⟨12, 44, none⟩) := by kernel_rfl
    rw [hh] at e5
    simpa using World.var?_cell Tryd.gEt e5 0
  exact ⟨A, by simpa using World.var?_cell Tryd.g0 (hv 0 _ rfl) 0, by simpa using World.var?_cell Tryd.g1 (hv 1 _ rfl) 0, by simpa using World.var?_cell Tryd.g2 (hv 2 _ rfl) 0, by simpa using World.var?_cell Tryd.g3 (hv 3 _ rfl) 0, by simpa using World.var?_cell Tryd.g4 (hv 4 _ rfl) 0, by simpa using World.var?_cell Tryd.g5 (hv 5 _ rfl) 0, by simpa using World.var?_cell Tryd.g6 (hv 6 _ rfl) 0, by simpa using World.var?_cell Tryd.g7 (hv 7 _ rfl) 0, by simpa using World.var?_cell Tryd.g8 (hv 8 _ rfl) 0, by simpa using World.var?_cell Tryd.g9 (hv 9 _ rfl) 0, by simpa using World.var?_cell Tryd.g10 (hv 10 _ rfl) 0, het, fun i hi => hr i hi, fun i j hi hj => hne i j hi hj⟩

/-- The heap that the door's own run leaves meets the condition: the rows' witness starts there. -/
theorem door_met (os : Os) (args : Array Value) : laidMetH Tryd.prog seatLaid ((World.doorLaid Tryd.prog 400 os).forCall (fun _ _ => 0) ⟨#[], args, []⟩).memory :=
  laidMetH_of_parts3 (fuel := 8) (laidMet_of_run' 8 (by kernel_rfl) (by kernel_rfl)) (by kernel_rfl) (by kernel_rfl)
end Go.Proofs.YtgehlcmancdgcacDoor
