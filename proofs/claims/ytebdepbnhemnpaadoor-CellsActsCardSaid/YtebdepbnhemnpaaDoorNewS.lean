/-
  What each operation of the statement that looks at new cells yields. No condition.
-/
import Derived.Test.YtebdepbnhemnpaaDoorBoth
namespace Go.Proofs.YtebdepbnhemnpaaDoor
open Go.RowKit Go.Extern.Stop Go.Stop Go.Extern

/-- What each operation of the statement that looks at new cells yields. -/
def newS (B N : Nat) : Nat → Value → World → Prop
  | 0 => fun v _ => v = .nilIface
  | 1 => fun v _ => v = .bool false
  | 2 => fun v _ => v = .bool false
  | 3 => fun v _ => v = .pointer (some ⟨B, 0, none⟩)
  | 4 => fun v _ => v = .bool false
  | 5 => fun v _ => v = .bool false
  | 6 => fun v _ => v = .bool false
  | 7 => fun v _ => v = .pointer (some ⟨B, 0, none⟩)
  | 8 => fun v _ => v = .string (Z N)
  | 9 => fun v _ => v = .int .i64 (N : Int)
  | 10 => fun v w => ∃ b, v = .slice (some ⟨b, 0, none⟩) N N ∧ w.heap[b]? = some (.cells (madeCells #[.int .u8 0] N) 5 (0, 0))
  | 11 => fun v _ => v = .string (Z N)
  | 12 => fun v _ => v = .bool false
  | 13 => fun v _ => v = .bool false
  | _ => fun _ _ => True
theorem newS_keeps {B N : Nat} {w w' : World} (hb : Below w.heap.size w w') : ∀ j v, newS B N j v w → newS B N j v w' := by
  intro j v h
  match j, h with
  | 0, h => exact h
  | 1, h => exact h
  | 2, h => exact h
  | 3, h => exact h
  | 4, h => exact h
  | 5, h => exact h
  | 6, h => exact h
  | 7, h => exact h
  | 8, h => exact h
  | 9, h => exact h
  | 10, h => exact ⟨h.choose, h.choose_spec.1, row_below hb h.choose_spec.2⟩
  | 11, h => exact h
  | 12, h => exact h
  | 13, h => exact h
  | n + 14, h => exact h

end Go.Proofs.YtebdepbnhemnpaaDoor
