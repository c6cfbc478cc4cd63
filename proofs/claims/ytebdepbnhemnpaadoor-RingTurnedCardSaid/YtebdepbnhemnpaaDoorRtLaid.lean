/-
  What the list of the four laid variables gives RingTurned's walk: four sentinels are in memory ('Sen4').
-/
import Derived.Test.YtebdepbnhemnpaaDoorLaid
import Derived.Test.YtebdepbnhemnpaaDoorFour
namespace Go.Proofs.YtebdepbnhemnpaaDoor
open Go.RowKit Go.ChangeShapes

def sentNames4 : List (String × List UInt8) := [("nightwatch/api.ErrBound", [110, 105, 103, 104, 116, 119, 97, 116, 99, 104, 58, 32, 98, 111, 117, 110, 100]), ("nightwatch/api.ErrShape", [110, 105, 103, 104, 116, 119, 97, 116, 99, 104, 58, 32, 115, 104, 97, 112, 101]), ("nightwatch/api.ErrFull", [110, 105, 103, 104, 116, 119, 97, 116, 99, 104, 58, 32, 102, 117, 108, 108]), ("nightwatch/api.ErrOff", [110, 105, 103, 104, 116, 119, 97, 116, 99, 104, 58, 32, 111, 102, 102])]
theorem Tryd.gErrs4 : (sentNames4.map fun x => (Tryd.prog.globalNamed x.1).bind fun g => (Tryd.prog.globals[g]?).map (·.type)) = List.replicate 4 (some 25) := by kernel_rfl
def seatLaid4 : List (String × DataW Unit) := [("nightwatch/api.ErrBound", Rows.laid_nightwatch_api_ErrBound), ("nightwatch/api.ErrShape", Rows.laid_nightwatch_api_ErrShape), ("nightwatch/api.ErrFull", Rows.laid_nightwatch_api_ErrFull), ("nightwatch/api.ErrOff", Rows.laid_nightwatch_api_ErrOff)]
theorem laid4_split (W : World) : laidMetH Tryd.prog seatLaid4 W = laidMet Tryd.prog (sentList sentNames4) W := by kernel_rfl
theorem sen4_of_laid {W : World} (h : laidMetH Tryd.prog seatLaid4 W) : ∃ A : Nat → Addr, Sen4 A W := by
  rw [laid4_split] at h
  obtain ⟨ps, hl, hnd, hrows⟩ := h
  have hgs : ∀ x, x ∈ sentNames4 → ∃ g, Tryd.prog.globalNamed x.1 = some g ∧ (Tryd.prog.globals[g]?).map (·.type) = some 25 := fun x hx => by
    have h1 : ((Tryd.prog.globalNamed x.1).bind fun g => (Tryd.prog.globals[g]?).map (·.type)) ∈ List.replicate 4 (some 25) := by
      rw [← Tryd.gErrs4]; exact List.mem_map_of_mem hx
    have h2 := List.eq_of_mem_replicate h1
    simp only [Option.bind_eq_some_iff] at h2
    obtain ⟨g, a, b⟩ := h2
    exact ⟨g, a, b⟩
  obtain ⟨A, hv, -, -, -⟩ := sents Tryd.underlying25 Tryd.oneErr Tryd.underlying95 Tryd.underlying97 rfl rfl Tryd.underlying9 Tryd.cellsES Tryd.cellsStr sentNames4 ps hgs hl hnd hrows
  exact ⟨fun i => if i = 1 then A 0 else if i = 2 then A 1 else if i = 6 then A 2 else A 3, by simpa using World.var?_cell Tryd.g1 (hv 0 _ rfl) 0, by simpa using World.var?_cell Tryd.g2 (hv 1 _ rfl) 0, by simpa using World.var?_cell Tryd.g6 (hv 2 _ rfl) 0, by simpa using World.var?_cell Tryd.g7 (hv 3 _ rfl) 0⟩
theorem door_met4 (os : Os) (args : Array Value) : laidMetH Tryd.prog seatLaid4 ((World.doorLaid Tryd.prog 400 os).forCall (fun _ _ => 0) ⟨#[], args, []⟩).memory := by
  rw [laid4_split]
  exact laidMet_of_run' 8 (by kernel_rfl) (by kernel_rfl)
end Go.Proofs.YtebdepbnhemnpaaDoor
