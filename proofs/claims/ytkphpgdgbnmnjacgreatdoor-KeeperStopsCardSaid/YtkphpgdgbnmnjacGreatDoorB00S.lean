/-
  All entities together, pure: the status of all ('TSt'), a cycle's end ('TSt.fin'), and what comes behind expired ('behind'). No condition.
-/
import Derived.Test.YtkphpgdgbnmnjacGreatDoorB00C
namespace Go.Proofs.YtkphpgdgbnmnjacGreatDoor
open Go

theorem behind_fin (d i : Nat) (l : List ByteArray) : (behind d i).fin l = behind d (i + 1) := by
  unfold behind
  by_cases h1 : i < d
  · rw [if_pos h1]
    unfold TSt.fin
    rw [if_neg (show ¬ (2 : Nat) = 3 by decide), if_pos rfl]
    unfold TSt.cut
    by_cases h2 : i + 1 < d
    · rw [if_pos h2]
      show (if (2 : Nat) = 2 ∧ i + 1 = d then (⟨d, i + 1, 3⟩ : TSt) else ⟨d, i + 1, 2⟩) = _
      rw [if_neg (by omega)]
    · obtain rfl : i + 1 = d := by omega
      rw [if_neg h2]
      show (if (2 : Nat) = 2 ∧ i + 1 = i + 1 then (⟨i + 1, i + 1, 3⟩ : TSt) else ⟨i + 1, i + 1, 2⟩) = _
      rw [if_pos ⟨rfl, rfl⟩]
  · rw [if_neg h1, if_neg (by omega)]
    unfold TSt.fin
    rw [if_pos rfl]
end Go.Proofs.YtkphpgdgbnmnjacGreatDoor
