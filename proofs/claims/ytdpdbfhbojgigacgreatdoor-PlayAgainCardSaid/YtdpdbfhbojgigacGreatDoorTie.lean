/-
  DERIVED. GIVEN WITH THE SEED: THE PROGRAM's TIES (one call each: nine closed facts by the kernel) AND EACH ROW's TIE, after the 31st guide's Derived/Test/Toyas{Tie, Card}.lean. No idea stands in it: it is a product of the set-up. Laid BY PROGRAM, IN A SANDBOX (cutbox-door.mjs). By AI agents, Wed Nov 11 2026. No macro, syntax, notation, axiom, sorry.
-/
import Derived.Test.YtdpdbfhbojgigacGreatDoorRows
import Derived.LaidByTextLater
import Derived.SevenTiedAt
import Derived.LaidSub
import Derived.LaidOnce
namespace Go.Proofs.YtdpdbfhbojgigacGreatDoor
open Go
set_option maxRecDepth 100000
theorem seatTie1 : Tryz.prog.laidByTextLater [("errors.errorType", Rows.laid_errors_errorType), ("nightwatch/api.ErrText", Rows.laid_nightwatch_api_ErrText), ("nightwatch/api.ErrBound", Rows.laid_nightwatch_api_ErrBound), ("nightwatch/api.ErrShape", Rows.laid_nightwatch_api_ErrShape), ("nightwatch/api.ErrName", Rows.laid_nightwatch_api_ErrName), ("nightwatch/api.ErrNone", Rows.laid_nightwatch_api_ErrNone), ("nightwatch/api.ErrExist", Rows.laid_nightwatch_api_ErrExist), ("nightwatch/api.ErrFull", Rows.laid_nightwatch_api_ErrFull), ("nightwatch/api.ErrOff", Rows.laid_nightwatch_api_ErrOff), ("nightwatch/api.ErrIdle", Rows.laid_nightwatch_api_ErrIdle), ("nightwatch/api.ErrHeld", Rows.laid_nightwatch_api_ErrHeld), ("nightwatch/api.ErrReset", Rows.laid_nightwatch_api_ErrReset)] [.handle, .sentinel, .sentinel, .sentinel, .sentinel, .sentinel, .sentinel, .sentinel, .sentinel, .sentinel, .sentinel, .sentinel] true :=
  Program.laidByTextLater_by_one 225 8 2 (by kernel_rfl) (by kernel_rfl) (by kernel_rfl) (by kernel_rfl) (by kernel_rfl) (by kernel_rfl) (fun _ _ => by kernel_rfl)
theorem noOwnUnsafe : Tryz.pinned.checked.prog.headLifts.contains "ownunsafe" = false := by kernel_rfl
theorem tie : Tryz.prog.laidByTextLater [("nightwatch/api.ErrBound", Rows.laid_nightwatch_api_ErrBound), ("nightwatch/api.ErrShape", Rows.laid_nightwatch_api_ErrShape), ("nightwatch/api.ErrName", Rows.laid_nightwatch_api_ErrName), ("nightwatch/api.ErrNone", Rows.laid_nightwatch_api_ErrNone), ("nightwatch/api.ErrExist", Rows.laid_nightwatch_api_ErrExist), ("nightwatch/api.ErrFull", Rows.laid_nightwatch_api_ErrFull), ("nightwatch/api.ErrOff", Rows.laid_nightwatch_api_ErrOff), ("nightwatch/api.ErrIdle", Rows.laid_nightwatch_api_ErrIdle), ("nightwatch/api.ErrHeld", Rows.laid_nightwatch_api_ErrHeld), ("nightwatch/api.ErrReset", Rows.laid_nightwatch_api_ErrReset)] [.sentinel, .sentinel, .sentinel, .sentinel, .sentinel, .sentinel, .sentinel, .sentinel, .sentinel, .sentinel] true :=
  Program.laidByTextLater.sub seatTie1 ["nightwatch/api.ErrBound", "nightwatch/api.ErrShape", "nightwatch/api.ErrName", "nightwatch/api.ErrNone", "nightwatch/api.ErrExist", "nightwatch/api.ErrFull", "nightwatch/api.ErrOff", "nightwatch/api.ErrIdle", "nightwatch/api.ErrHeld", "nightwatch/api.ErrReset"] (by kernel_rfl) (by kernel_rfl)
theorem keeperQuiet_row_tie : Rows.keeperQuietRow.laidByTextAt .later Tryz.pinned [.sentinel, .sentinel, .sentinel, .sentinel, .sentinel, .sentinel, .sentinel, .sentinel, .sentinel, .sentinel] true :=
  OpenClaim.laidByTextAt_later rfl rfl tie noOwnUnsafe
theorem keeperCuts_row_tie : Rows.keeperCutsRow.laidByTextAt .later Tryz.pinned [.sentinel, .sentinel, .sentinel, .sentinel, .sentinel, .sentinel, .sentinel, .sentinel, .sentinel, .sentinel] true :=
  OpenClaim.laidByTextAt_later rfl rfl tie noOwnUnsafe
theorem tie2 : Tryz.prog.laidByTextLater [("errors.errorType", Rows.laid_errors_errorType), ("nightwatch/api.ErrText", Rows.laid_nightwatch_api_ErrText), ("nightwatch/api.ErrBound", Rows.laid_nightwatch_api_ErrBound), ("nightwatch/api.ErrShape", Rows.laid_nightwatch_api_ErrShape), ("nightwatch/api.ErrName", Rows.laid_nightwatch_api_ErrName), ("nightwatch/api.ErrNone", Rows.laid_nightwatch_api_ErrNone), ("nightwatch/api.ErrExist", Rows.laid_nightwatch_api_ErrExist), ("nightwatch/api.ErrFull", Rows.laid_nightwatch_api_ErrFull), ("nightwatch/api.ErrOff", Rows.laid_nightwatch_api_ErrOff), ("nightwatch/api.ErrIdle", Rows.laid_nightwatch_api_ErrIdle), ("nightwatch/api.ErrHeld", Rows.laid_nightwatch_api_ErrHeld), ("nightwatch/api.ErrReset", Rows.laid_nightwatch_api_ErrReset)] [.handle, .sentinel, .sentinel, .sentinel, .sentinel, .sentinel, .sentinel, .sentinel, .sentinel, .sentinel, .sentinel, .sentinel] true :=
  Program.laidByTextLater.sub seatTie1 ["errors.errorType", "nightwatch/api.ErrText", "nightwatch/api.ErrBound", "nightwatch/api.ErrShape", "nightwatch/api.ErrName", "nightwatch/api.ErrNone", "nightwatch/api.ErrExist", "nightwatch/api.ErrFull", "nightwatch/api.ErrOff", "nightwatch/api.ErrIdle", "nightwatch/api.ErrHeld", "nightwatch/api.ErrReset"] (by kernel_rfl) (by kernel_rfl)
theorem keeperStops_row_tie : Rows.keeperStopsRow.laidByTextAt .later Tryz.pinned [.handle, .sentinel, .sentinel, .sentinel, .sentinel, .sentinel, .sentinel, .sentinel, .sentinel, .sentinel, .sentinel, .sentinel] true :=
  OpenClaim.laidByTextAt_later rfl rfl tie2 noOwnUnsafe
theorem keeperKicks_row_tie : Rows.keeperKicksRow.laidByTextAt .later Tryz.pinned [.handle, .sentinel, .sentinel, .sentinel, .sentinel, .sentinel, .sentinel, .sentinel, .sentinel, .sentinel, .sentinel, .sentinel] true :=
  OpenClaim.laidByTextAt_later rfl rfl tie2 noOwnUnsafe
theorem keeperActs_row_tie : Rows.keeperActsRow.laidByTextAt .later Tryz.pinned [.handle, .sentinel, .sentinel, .sentinel, .sentinel, .sentinel, .sentinel, .sentinel, .sentinel, .sentinel, .sentinel, .sentinel] true :=
  OpenClaim.laidByTextAt_later rfl rfl tie2 noOwnUnsafe
theorem playAgain_row_tie : Rows.playAgainRow.laidByTextAt .later Tryz.pinned [.handle, .sentinel, .sentinel, .sentinel, .sentinel, .sentinel, .sentinel, .sentinel, .sentinel, .sentinel, .sentinel, .sentinel] true :=
  OpenClaim.laidByTextAt_later rfl rfl tie2 noOwnUnsafe
theorem playRuns_row_tie : Rows.playRunsRow.laidByTextAt .later Tryz.pinned [.handle, .sentinel, .sentinel, .sentinel, .sentinel, .sentinel, .sentinel, .sentinel, .sentinel, .sentinel, .sentinel, .sentinel] true :=
  OpenClaim.laidByTextAt_later rfl rfl tie2 noOwnUnsafe
theorem keeperQuietUpto_row_tie : Rows.keeperQuietUptoRow.laidByTextAt .later Tryz.pinned [.sentinel, .sentinel, .sentinel, .sentinel, .sentinel, .sentinel, .sentinel, .sentinel, .sentinel, .sentinel] true :=
  OpenClaim.laidByTextAt_later rfl rfl tie noOwnUnsafe
theorem keeperStopsUpto_row_tie : Rows.keeperStopsUptoRow.laidByTextAt .later Tryz.pinned [.handle, .sentinel, .sentinel, .sentinel, .sentinel, .sentinel, .sentinel, .sentinel, .sentinel, .sentinel, .sentinel, .sentinel] true :=
  OpenClaim.laidByTextAt_later rfl rfl tie2 noOwnUnsafe
theorem keeperCutsUpto_row_tie : Rows.keeperCutsUptoRow.laidByTextAt .later Tryz.pinned [.sentinel, .sentinel, .sentinel, .sentinel, .sentinel, .sentinel, .sentinel, .sentinel, .sentinel, .sentinel] true :=
  OpenClaim.laidByTextAt_later rfl rfl tie noOwnUnsafe
theorem keeperKicksUpto_row_tie : Rows.keeperKicksUptoRow.laidByTextAt .later Tryz.pinned [.handle, .sentinel, .sentinel, .sentinel, .sentinel, .sentinel, .sentinel, .sentinel, .sentinel, .sentinel, .sentinel, .sentinel] true :=
  OpenClaim.laidByTextAt_later rfl rfl tie2 noOwnUnsafe
theorem keeperActsUpto_row_tie : Rows.keeperActsUptoRow.laidByTextAt .later Tryz.pinned [.handle, .sentinel, .sentinel, .sentinel, .sentinel, .sentinel, .sentinel, .sentinel, .sentinel, .sentinel, .sentinel, .sentinel] true :=
  OpenClaim.laidByTextAt_later rfl rfl tie2 noOwnUnsafe
theorem playAgainUpto_row_tie : Rows.playAgainUptoRow.laidByTextAt .later Tryz.pinned [.handle, .sentinel, .sentinel, .sentinel, .sentinel, .sentinel, .sentinel, .sentinel, .sentinel, .sentinel, .sentinel, .sentinel] true :=
  OpenClaim.laidByTextAt_later rfl rfl tie2 noOwnUnsafe
theorem playRunsUpto_row_tie : Rows.playRunsUptoRow.laidByTextAt .later Tryz.pinned [.handle, .sentinel, .sentinel, .sentinel, .sentinel, .sentinel, .sentinel, .sentinel, .sentinel, .sentinel, .sentinel, .sentinel] true :=
  OpenClaim.laidByTextAt_later rfl rfl tie2 noOwnUnsafe
end Go.Proofs.YtdpdbfhbojgigacGreatDoor
