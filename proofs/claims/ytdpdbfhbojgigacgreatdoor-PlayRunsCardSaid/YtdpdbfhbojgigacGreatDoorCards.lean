/-
  DERIVED. GIVEN WITH THE SEED: THE CARDS: each row of YtdpdbfhbojgigacGreatDoorRows.lean that lists a variable, with what it lists TIED to the program's text (the seventh form; the later family's looks); each row that meets fmt, with fmt's text TOLD by the authors' own Lean function (tested against real Go, not proved from fmt's source: count such statements apart). THE CARD IS WHAT COUNTS. Prove the row's statement (the work); the ties are given (YtdpdbfhbojgigacGreatDoorTie.lean); close each card by the builder's one call (the guide's Derived/Test/ToyasCard.lean, 'card_holds'). Laid BY PROGRAM, IN A SANDBOX (cutbox-door.mjs). By AI agents, Wed Nov 11 2026. No macro, syntax, notation, axiom, sorry.
-/
import Derived.Test.YtdpdbfhbojgigacGreatDoorRows
import GoSem.ClaimSeven
namespace Go.Proofs.YtdpdbfhbojgigacGreatDoor
namespace Rows

/-- THE TIED CARD OF 'nightwatchlaw3.KeeperQuiet'. -/
def keeperQuietCard : Claim7 := { stood := { row := keeperQuietRow, standIns := [], harness := (true, "3ff0096f1ec7d707d72d465a16005277f30db3cd786d0a59a3828a608505781e"), looks := true }, kinds := [], alts := [], laidByText := true, laidKinds := [.sentinel, .sentinel, .sentinel, .sentinel, .sentinel, .sentinel, .sentinel, .sentinel, .sentinel, .sentinel], laidTests := true, laidLooks := .later }
def KeeperQuietCardSaid : Prop := Claim7.holds Tryz.pinned (.plain (OpenSpec.ofChange keeperQuietSpec)) keeperQuietCard

/-- THE TIED CARD OF 'nightwatchlaw3.KeeperStops'. -/
def keeperStopsCard : Claim7 := { stood := { row := keeperStopsRow, standIns := [], harness := (true, "3ff0096f1ec7d707d72d465a16005277f30db3cd786d0a59a3828a608505781e"), looks := true }, kinds := [], alts := [], laidByText := true, laidKinds := [.handle, .sentinel, .sentinel, .sentinel, .sentinel, .sentinel, .sentinel, .sentinel, .sentinel, .sentinel, .sentinel, .sentinel], laidTests := true, laidLooks := .later }
def KeeperStopsCardSaid : Prop := Claim7.holds Tryz.pinned (.plain (OpenSpec.ofChange keeperStopsSpec)) keeperStopsCard

/-- THE TIED CARD OF 'nightwatchlaw3.KeeperCuts'. -/
def keeperCutsCard : Claim7 := { stood := { row := keeperCutsRow, standIns := [], harness := (true, "3ff0096f1ec7d707d72d465a16005277f30db3cd786d0a59a3828a608505781e"), looks := true }, kinds := [], alts := [], laidByText := true, laidKinds := [.sentinel, .sentinel, .sentinel, .sentinel, .sentinel, .sentinel, .sentinel, .sentinel, .sentinel, .sentinel], laidTests := true, laidLooks := .later }
def KeeperCutsCardSaid : Prop := Claim7.holds Tryz.pinned (.plain (OpenSpec.ofChange keeperCutsSpec)) keeperCutsCard

/-- THE TIED CARD OF 'nightwatchlaw3.KeeperKicks'. -/
def keeperKicksCard : Claim7 := { stood := { row := keeperKicksRow, standIns := [], harness := (true, "3ff0096f1ec7d707d72d465a16005277f30db3cd786d0a59a3828a608505781e"), looks := true }, kinds := [], alts := [], laidByText := true, laidKinds := [.handle, .sentinel, .sentinel, .sentinel, .sentinel, .sentinel, .sentinel, .sentinel, .sentinel, .sentinel, .sentinel, .sentinel], laidTests := true, laidLooks := .later }
def KeeperKicksCardSaid : Prop := Claim7.holds Tryz.pinned (.plain (OpenSpec.ofChange keeperKicksSpec)) keeperKicksCard

/-- THE TIED CARD OF 'nightwatchlaw3.KeeperActs'. -/
def keeperActsCard : Claim7 := { stood := { row := keeperActsRow, standIns := [], harness := (true, "3ff0096f1ec7d707d72d465a16005277f30db3cd786d0a59a3828a608505781e"), looks := true }, kinds := [], alts := [], laidByText := true, laidKinds := [.handle, .sentinel, .sentinel, .sentinel, .sentinel, .sentinel, .sentinel, .sentinel, .sentinel, .sentinel, .sentinel, .sentinel], laidTests := true, laidLooks := .later }
def KeeperActsCardSaid : Prop := Claim7.holds Tryz.pinned (.plain (OpenSpec.ofChange keeperActsSpec)) keeperActsCard

/-- THE TIED CARD OF 'nightwatchlaw3.PlayAgain'. -/
def playAgainCard : Claim7 := { stood := { row := playAgainRow, standIns := [], harness := (true, "3ff0096f1ec7d707d72d465a16005277f30db3cd786d0a59a3828a608505781e"), looks := true }, kinds := [], alts := [], laidByText := true, laidKinds := [.handle, .sentinel, .sentinel, .sentinel, .sentinel, .sentinel, .sentinel, .sentinel, .sentinel, .sentinel, .sentinel, .sentinel], laidTests := true, laidLooks := .later }
def PlayAgainCardSaid : Prop := Claim7.holds Tryz.pinned (.plain (OpenSpec.ofChange playAgainSpec)) playAgainCard

/-- THE TIED CARD OF 'nightwatchlaw3.PlayRuns'. -/
def playRunsCard : Claim7 := { stood := { row := playRunsRow, standIns := [], harness := (true, "3ff0096f1ec7d707d72d465a16005277f30db3cd786d0a59a3828a608505781e"), looks := true }, kinds := [], alts := [], laidByText := true, laidKinds := [.handle, .sentinel, .sentinel, .sentinel, .sentinel, .sentinel, .sentinel, .sentinel, .sentinel, .sentinel, .sentinel, .sentinel], laidTests := true, laidLooks := .later }
def PlayRunsCardSaid : Prop := Claim7.holds Tryz.pinned (.plain (OpenSpec.ofChange playRunsSpec)) playRunsCard

/-- THE SECOND FORM's CARD OF 'nightwatchlaw3.KeeperQuiet'. -/
def keeperQuietUptoCard : Claim7 := { stood := { row := keeperQuietUptoRow, standIns := [], harness := (true, "3ff0096f1ec7d707d72d465a16005277f30db3cd786d0a59a3828a608505781e"), looks := true }, kinds := [], alts := [], laidByText := true, laidKinds := [.sentinel, .sentinel, .sentinel, .sentinel, .sentinel, .sentinel, .sentinel, .sentinel, .sentinel, .sentinel], laidTests := true, laidLooks := .later }
def KeeperQuietUptoCardSaid : Prop := Claim7.holds Tryz.pinned (.plain (OpenSpec.upto keeperQuietSpec)) keeperQuietUptoCard

/-- THE SECOND FORM's CARD OF 'nightwatchlaw3.KeeperStops'. -/
def keeperStopsUptoCard : Claim7 := { stood := { row := keeperStopsUptoRow, standIns := [], harness := (true, "3ff0096f1ec7d707d72d465a16005277f30db3cd786d0a59a3828a608505781e"), looks := true }, kinds := [], alts := [], laidByText := true, laidKinds := [.handle, .sentinel, .sentinel, .sentinel, .sentinel, .sentinel, .sentinel, .sentinel, .sentinel, .sentinel, .sentinel, .sentinel], laidTests := true, laidLooks := .later }
def KeeperStopsUptoCardSaid : Prop := Claim7.holds Tryz.pinned (.plain (OpenSpec.upto keeperStopsSpec)) keeperStopsUptoCard

/-- THE SECOND FORM's CARD OF 'nightwatchlaw3.KeeperCuts'. -/
def keeperCutsUptoCard : Claim7 := { stood := { row := keeperCutsUptoRow, standIns := [], harness := (true, "3ff0096f1ec7d707d72d465a16005277f30db3cd786d0a59a3828a608505781e"), looks := true }, kinds := [], alts := [], laidByText := true, laidKinds := [.sentinel, .sentinel, .sentinel, .sentinel, .sentinel, .sentinel, .sentinel, .sentinel, .sentinel, .sentinel], laidTests := true, laidLooks := .later }
def KeeperCutsUptoCardSaid : Prop := Claim7.holds Tryz.pinned (.plain (OpenSpec.upto keeperCutsSpec)) keeperCutsUptoCard

/-- THE SECOND FORM's CARD OF 'nightwatchlaw3.KeeperKicks'. -/
def keeperKicksUptoCard : Claim7 := { stood := { row := keeperKicksUptoRow, standIns := [], harness := (true, "3ff0096f1ec7d707d72d465a16005277f30db3cd786d0a59a3828a608505781e"), looks := true }, kinds := [], alts := [], laidByText := true, laidKinds := [.handle, .sentinel, .sentinel, .sentinel, .sentinel, .sentinel, .sentinel, .sentinel, .sentinel, .sentinel, .sentinel, .sentinel], laidTests := true, laidLooks := .later }
def KeeperKicksUptoCardSaid : Prop := Claim7.holds Tryz.pinned (.plain (OpenSpec.upto keeperKicksSpec)) keeperKicksUptoCard

/-- THE SECOND FORM's CARD OF 'nightwatchlaw3.KeeperActs'. -/
def keeperActsUptoCard : Claim7 := { stood := { row := keeperActsUptoRow, standIns := [], harness := (true, "3ff0096f1ec7d707d72d465a16005277f30db3cd786d0a59a3828a608505781e"), looks := true }, kinds := [], alts := [], laidByText := true, laidKinds := [.handle, .sentinel, .sentinel, .sentinel, .sentinel, .sentinel, .sentinel, .sentinel, .sentinel, .sentinel, .sentinel, .sentinel], laidTests := true, laidLooks := .later }
def KeeperActsUptoCardSaid : Prop := Claim7.holds Tryz.pinned (.plain (OpenSpec.upto keeperActsSpec)) keeperActsUptoCard

/-- THE SECOND FORM's CARD OF 'nightwatchlaw3.PlayAgain'. -/
def playAgainUptoCard : Claim7 := { stood := { row := playAgainUptoRow, standIns := [], harness := (true, "3ff0096f1ec7d707d72d465a16005277f30db3cd786d0a59a3828a608505781e"), looks := true }, kinds := [], alts := [], laidByText := true, laidKinds := [.handle, .sentinel, .sentinel, .sentinel, .sentinel, .sentinel, .sentinel, .sentinel, .sentinel, .sentinel, .sentinel, .sentinel], laidTests := true, laidLooks := .later }
def PlayAgainUptoCardSaid : Prop := Claim7.holds Tryz.pinned (.plain (OpenSpec.upto playAgainSpec)) playAgainUptoCard

/-- THE SECOND FORM's CARD OF 'nightwatchlaw3.PlayRuns'. -/
def playRunsUptoCard : Claim7 := { stood := { row := playRunsUptoRow, standIns := [], harness := (true, "3ff0096f1ec7d707d72d465a16005277f30db3cd786d0a59a3828a608505781e"), looks := true }, kinds := [], alts := [], laidByText := true, laidKinds := [.handle, .sentinel, .sentinel, .sentinel, .sentinel, .sentinel, .sentinel, .sentinel, .sentinel, .sentinel, .sentinel, .sentinel], laidTests := true, laidLooks := .later }
def PlayRunsUptoCardSaid : Prop := Claim7.holds Tryz.pinned (.plain (OpenSpec.upto playRunsSpec)) playRunsUptoCard
end Rows
end Go.Proofs.YtdpdbfhbojgigacGreatDoor
