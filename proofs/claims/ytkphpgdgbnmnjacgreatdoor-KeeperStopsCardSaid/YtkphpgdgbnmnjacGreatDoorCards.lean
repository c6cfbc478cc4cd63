/-
  DERIVED. GIVEN WITH THE SEED: THE CARDS: each row of YtkphpgdgbnmnjacGreatDoorRows.lean that lists a variable, with what it lists TIED to the program's text (the seventh form; the later family's looks); each row that meets fmt, with fmt's text TOLD by the authors' own Lean function (tested against real Go, not proved from fmt's source: count such statements apart). THE CARD IS WHAT COUNTS. Prove the row's statement (the work); the ties are given (YtkphpgdgbnmnjacGreatDoorTie.lean); close each card by the builder's one call (the guide's Derived/Test/ToyasCard.lean, 'card_holds'). Laid BY PROGRAM, IN A SANDBOX (cutbox-door.mjs). By AI agents, Wed Nov 11 2026. No macro, syntax, notation, axiom, sorry.
-/
import Derived.Test.YtkphpgdgbnmnjacGreatDoorRows
import GoSem.ClaimSeven
namespace Go.Proofs.YtkphpgdgbnmnjacGreatDoor
namespace Rows

/-- THE TIED CARD OF 'nightwatchlaw3.KeeperQuiet'. -/
def keeperQuietCard : Claim7 := { stood := { row := keeperQuietRow, standIns := [], harness := (true, "7b4fee8156cced225a38e0a38d5403e65f451750c891fb69cdb79b50e4fbb1d5"), looks := true }, kinds := [], alts := [], laidByText := true, laidKinds := [.sentinel, .sentinel, .sentinel, .sentinel, .sentinel, .sentinel, .sentinel, .sentinel, .sentinel, .sentinel], laidTests := true, laidLooks := .later }
def KeeperQuietCardSaid : Prop := Claim7.holds Tryz.pinned (.plain (OpenSpec.ofChange keeperQuietSpec)) keeperQuietCard

/-- THE TIED CARD OF 'nightwatchlaw3.KeeperStops'. -/
def keeperStopsCard : Claim7 := { stood := { row := keeperStopsRow, standIns := [], harness := (true, "7b4fee8156cced225a38e0a38d5403e65f451750c891fb69cdb79b50e4fbb1d5"), looks := true }, kinds := [], alts := [], laidByText := true, laidKinds := [.handle, .sentinel, .sentinel, .sentinel, .sentinel, .sentinel, .sentinel, .sentinel, .sentinel, .sentinel, .sentinel, .sentinel], laidTests := true, laidLooks := .later }
def KeeperStopsCardSaid : Prop := Claim7.holds Tryz.pinned (.plain (OpenSpec.ofChange keeperStopsSpec)) keeperStopsCard

/-- THE TIED CARD OF 'nightwatchlaw3.KeeperCuts'. -/
def keeperCutsCard : Claim7 := { stood := { row := keeperCutsRow, standIns := [], harness := (true, "7b4fee8156cced225a38e0a38d5403e65f451750c891fb69cdb79b50e4fbb1d5"), looks := true }, kinds := [], alts := [], laidByText := true, laidKinds := [.sentinel, .sentinel, .sentinel, .sentinel, .sentinel, .sentinel, .sentinel, .sentinel, .sentinel, .sentinel], laidTests := true, laidLooks := .later }
def KeeperCutsCardSaid : Prop := Claim7.holds Tryz.pinned (.plain (OpenSpec.ofChange keeperCutsSpec)) keeperCutsCard

/-- THE TIED CARD OF 'nightwatchlaw3.KeeperKicks'. -/
def keeperKicksCard : Claim7 := { stood := { row := keeperKicksRow, standIns := [], harness := (true, "7b4fee8156cced225a38e0a38d5403e65f451750c891fb69cdb79b50e4fbb1d5"), looks := true }, kinds := [], alts := [], laidByText := true, laidKinds := [.handle, .sentinel, .sentinel, .sentinel, .sentinel, .sentinel, .sentinel, .sentinel, .sentinel, .sentinel, .sentinel, .sentinel], laidTests := true, laidLooks := .later }
def KeeperKicksCardSaid : Prop := Claim7.holds Tryz.pinned (.plain (OpenSpec.ofChange keeperKicksSpec)) keeperKicksCard

/-- THE TIED CARD OF 'nightwatchlaw3.KeeperActs'. -/
def keeperActsCard : Claim7 := { stood := { row := keeperActsRow, standIns := [], harness := (true, "7b4fee8156cced225a38e0a38d5403e65f451750c891fb69cdb79b50e4fbb1d5"), looks := true }, kinds := [], alts := [], laidByText := true, laidKinds := [.handle, .sentinel, .sentinel, .sentinel, .sentinel, .sentinel, .sentinel, .sentinel, .sentinel, .sentinel, .sentinel, .sentinel], laidTests := true, laidLooks := .later }
def KeeperActsCardSaid : Prop := Claim7.holds Tryz.pinned (.plain (OpenSpec.ofChange keeperActsSpec)) keeperActsCard

/-- THE SECOND FORM's CARD OF 'nightwatchlaw3.KeeperQuiet'. -/
def keeperQuietUptoCard : Claim7 := { stood := { row := keeperQuietUptoRow, standIns := [], harness := (true, "7b4fee8156cced225a38e0a38d5403e65f451750c891fb69cdb79b50e4fbb1d5"), looks := true }, kinds := [], alts := [], laidByText := true, laidKinds := [.sentinel, .sentinel, .sentinel, .sentinel, .sentinel, .sentinel, .sentinel, .sentinel, .sentinel, .sentinel], laidTests := true, laidLooks := .later }
def KeeperQuietUptoCardSaid : Prop := Claim7.holds Tryz.pinned (.plain (OpenSpec.upto keeperQuietSpec)) keeperQuietUptoCard

/-- THE SECOND FORM's CARD OF 'nightwatchlaw3.KeeperStops'. -/
def keeperStopsUptoCard : Claim7 := { stood := { row := keeperStopsUptoRow, standIns := [], harness := (true, "7b4fee8156cced225a38e0a38d5403e65f451750c891fb69cdb79b50e4fbb1d5"), looks := true }, kinds := [], alts := [], laidByText := true, laidKinds := [.handle, .sentinel, .sentinel, .sentinel, .sentinel, .sentinel, .sentinel, .sentinel, .sentinel, .sentinel, .sentinel, .sentinel], laidTests := true, laidLooks := .later }
def KeeperStopsUptoCardSaid : Prop := Claim7.holds Tryz.pinned (.plain (OpenSpec.upto keeperStopsSpec)) keeperStopsUptoCard

/-- THE SECOND FORM's CARD OF 'nightwatchlaw3.KeeperCuts'. -/
def keeperCutsUptoCard : Claim7 := { stood := { row := keeperCutsUptoRow, standIns := [], harness := (true, "7b4fee8156cced225a38e0a38d5403e65f451750c891fb69cdb79b50e4fbb1d5"), looks := true }, kinds := [], alts := [], laidByText := true, laidKinds := [.sentinel, .sentinel, .sentinel, .sentinel, .sentinel, .sentinel, .sentinel, .sentinel, .sentinel, .sentinel], laidTests := true, laidLooks := .later }
def KeeperCutsUptoCardSaid : Prop := Claim7.holds Tryz.pinned (.plain (OpenSpec.upto keeperCutsSpec)) keeperCutsUptoCard

/-- THE SECOND FORM's CARD OF 'nightwatchlaw3.KeeperKicks'. -/
def keeperKicksUptoCard : Claim7 := { stood := { row := keeperKicksUptoRow, standIns := [], harness := (true, "7b4fee8156cced225a38e0a38d5403e65f451750c891fb69cdb79b50e4fbb1d5"), looks := true }, kinds := [], alts := [], laidByText := true, laidKinds := [.handle, .sentinel, .sentinel, .sentinel, .sentinel, .sentinel, .sentinel, .sentinel, .sentinel, .sentinel, .sentinel, .sentinel], laidTests := true, laidLooks := .later }
def KeeperKicksUptoCardSaid : Prop := Claim7.holds Tryz.pinned (.plain (OpenSpec.upto keeperKicksSpec)) keeperKicksUptoCard

/-- THE SECOND FORM's CARD OF 'nightwatchlaw3.KeeperActs'. -/
def keeperActsUptoCard : Claim7 := { stood := { row := keeperActsUptoRow, standIns := [], harness := (true, "7b4fee8156cced225a38e0a38d5403e65f451750c891fb69cdb79b50e4fbb1d5"), looks := true }, kinds := [], alts := [], laidByText := true, laidKinds := [.handle, .sentinel, .sentinel, .sentinel, .sentinel, .sentinel, .sentinel, .sentinel, .sentinel, .sentinel, .sentinel, .sentinel], laidTests := true, laidLooks := .later }
def KeeperActsUptoCardSaid : Prop := Claim7.holds Tryz.pinned (.plain (OpenSpec.upto keeperActsSpec)) keeperActsUptoCard
end Rows
end Go.Proofs.YtkphpgdgbnmnjacGreatDoor
