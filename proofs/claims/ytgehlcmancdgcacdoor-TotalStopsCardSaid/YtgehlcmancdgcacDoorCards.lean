/-
  DERIVED. GIVEN WITH THE SEED: THE CARDS: each row of YtgehlcmancdgcacDoorRows.lean that lists a variable, with what it lists TIED to the program's text (the seventh form; the later family's looks); each row that meets fmt, with fmt's text TOLD by the authors' own Lean function (tested against real Go, not proved from fmt's source: count such statements apart). THE CARD IS WHAT COUNTS. Prove the row's statement (the work); the ties are given (YtgehlcmancdgcacDoorTie.lean); close each card by the builder's one call (the guide's Derived/Test/ToyasCard.lean, 'card_holds'). Laid BY PROGRAM, IN A SANDBOX (cutbox-door.mjs). By AI agents, Wed Nov 11 2026. No macro, syntax, notation, axiom, sorry.
-/
import Derived.Test.YtgehlcmancdgcacDoorRows
import GoSem.ClaimSeven
namespace Go.Proofs.YtgehlcmancdgcacDoor
namespace Rows

/-- THE TIED CARD OF 'nightwatchlaw2.LocalActs'. -/
def localActsCard : Claim7 := { stood := { row := localActsRow, standIns := [], harness := (true, "7a1dddc686e993adf38f7d72ade8d4107634c184fe60d0f2a7f08721629ebf95"), looks := true }, kinds := [], alts := [], laidByText := true, laidKinds := [.handle, .sentinel, .sentinel, .sentinel, .sentinel, .sentinel, .sentinel, .sentinel, .sentinel, .sentinel, .sentinel, .sentinel], laidTests := true, laidLooks := .later }
def LocalActsCardSaid : Prop := Claim7.holds Tryd.pinned (.plain (OpenSpec.ofChange localActsSpec)) localActsCard

/-- THE TIED CARD OF 'nightwatchlaw2.TotalStops'. -/
def totalStopsCard : Claim7 := { stood := { row := totalStopsRow, standIns := [], harness := (true, "7a1dddc686e993adf38f7d72ade8d4107634c184fe60d0f2a7f08721629ebf95"), looks := true }, kinds := [], alts := [], laidByText := true, laidKinds := [.sentinel], laidTests := true, laidLooks := .later }
def TotalStopsCardSaid : Prop := Claim7.holds Tryd.pinned (.plain (OpenSpec.ofChange totalStopsSpec)) totalStopsCard

/-- THE TIED CARD OF 'nightwatchlaw2.TotalEnds'. -/
def totalEndsCard : Claim7 := { stood := { row := totalEndsRow, standIns := [], harness := (true, "7a1dddc686e993adf38f7d72ade8d4107634c184fe60d0f2a7f08721629ebf95"), looks := true }, kinds := [], alts := [], laidByText := true, laidKinds := [.handle, .sentinel, .sentinel, .sentinel, .sentinel, .sentinel, .sentinel, .sentinel, .sentinel, .sentinel, .sentinel, .sentinel], laidTests := true, laidLooks := .later }
def TotalEndsCardSaid : Prop := Claim7.holds Tryd.pinned (.plain (OpenSpec.ofChange totalEndsSpec)) totalEndsCard

/-- THE SECOND FORM's CARD OF 'nightwatchlaw2.LocalActs'. -/
def localActsUptoCard : Claim7 := { stood := { row := localActsUptoRow, standIns := [], harness := (true, "7a1dddc686e993adf38f7d72ade8d4107634c184fe60d0f2a7f08721629ebf95"), looks := true }, kinds := [], alts := [], laidByText := true, laidKinds := [.handle, .sentinel, .sentinel, .sentinel, .sentinel, .sentinel, .sentinel, .sentinel, .sentinel, .sentinel, .sentinel, .sentinel], laidTests := true, laidLooks := .later }
def LocalActsUptoCardSaid : Prop := Claim7.holds Tryd.pinned (.plain (OpenSpec.upto localActsSpec)) localActsUptoCard

/-- THE SECOND FORM's CARD OF 'nightwatchlaw2.TotalStops'. -/
def totalStopsUptoCard : Claim7 := { stood := { row := totalStopsUptoRow, standIns := [], harness := (true, "7a1dddc686e993adf38f7d72ade8d4107634c184fe60d0f2a7f08721629ebf95"), looks := true }, kinds := [], alts := [], laidByText := true, laidKinds := [.sentinel], laidTests := true, laidLooks := .later }
def TotalStopsUptoCardSaid : Prop := Claim7.holds Tryd.pinned (.plain (OpenSpec.upto totalStopsSpec)) totalStopsUptoCard

/-- THE SECOND FORM's CARD OF 'nightwatchlaw2.TotalEnds'. -/
def totalEndsUptoCard : Claim7 := { stood := { row := totalEndsUptoRow, standIns := [], harness := (true, "7a1dddc686e993adf38f7d72ade8d4107634c184fe60d0f2a7f08721629ebf95"), looks := true }, kinds := [], alts := [], laidByText := true, laidKinds := [.handle, .sentinel, .sentinel, .sentinel, .sentinel, .sentinel, .sentinel, .sentinel, .sentinel, .sentinel, .sentinel, .sentinel], laidTests := true, laidLooks := .later }
def TotalEndsUptoCardSaid : Prop := Claim7.holds Tryd.pinned (.plain (OpenSpec.upto totalEndsSpec)) totalEndsUptoCard
end Rows
end Go.Proofs.YtgehlcmancdgcacDoor
