/-
  ScriptAgain's row: the closed facts of its program, each by the kernel, one at a time. No condition.
-/
import Derived.Test.YtffpcbdlbcjihadGreatDoorRows
import Derived.Test.YtffpcbdlbcjihadGreatDoorChecked
import Derived.JoinedOf
import Derived.ProofKit
namespace Go.Proofs.YtffpcbdlbcjihadGreatDoor
open Go.ChangeShapes Go.WideShapes Go.ChangeAt Go.RowKit

theorem and_mk {a b : Bool} (h1 : a = true) (h2 : b = true) : (a && b) = true := by rw [h1, h2]; rfl
set_option maxHeartbeats 40000000 in
set_option maxRecDepth 100000 in
theorem ag_facts : joinedFacts Tryz.pinned.checked.prog 4 Tryz.f4 Rows.scriptAgainSpec Rows.scriptAgainRow = true := by
  unfold joinedFacts
  repeat' (with_reducible refine and_mk ?_ ?_)
  all_goals as_aux_lemma => kernel_rfl
end Go.Proofs.YtffpcbdlbcjihadGreatDoor
