/-
  DERIVED. GIVEN WITH THE SEED: THE CARDS: each row of YtpaolneaomeoiacDoorRows.lean that lists a variable, with what it lists TIED to the program's text (the seventh form; the later family's looks); each row that meets fmt, with fmt's text TOLD by the authors' own Lean function (tested against real Go, not proved from fmt's source: count such statements apart). THE CARD IS WHAT COUNTS. Prove the row's statement (the work); the ties are given (YtpaolneaomeoiacDoorTie.lean); close each card by the builder's one call (the guide's Derived/Test/ToyasCard.lean, 'card_holds'). Laid BY PROGRAM, IN A SANDBOX (cutbox-door.mjs). By AI agents, Wed Nov 11 2026. No macro, syntax, notation, axiom, sorry.
-/
import Derived.Test.YtpaolneaomeoiacDoorRows
import GoSem.ClaimSeven
namespace Go.Proofs.YtpaolneaomeoiacDoor
namespace Rows

/-- THE TIED CARD OF 'nightwatchlaw2.LocalActs'. -/
def localActsCard : Claim7 := { stood := { row := localActsRow, standIns := [], harness := (true, "1cb507b348fd989b0c21748321eea0ad1c9745050b32d3b956d21e70a554dde8"), looks := true }, kinds := [], alts := [], laidByText := true, laidKinds := [.handle, .sentinel, .sentinel, .sentinel, .sentinel, .sentinel, .sentinel, .sentinel, .sentinel, .sentinel, .sentinel, .sentinel], laidTests := true, laidLooks := .later }
def LocalActsCardSaid : Prop := Claim7.holds Tryd.pinned (.plain (OpenSpec.ofChange localActsSpec)) localActsCard

/-- THE SECOND FORM's CARD OF 'nightwatchlaw2.LocalActs'. -/
def localActsUptoCard : Claim7 := { stood := { row := localActsUptoRow, standIns := [], harness := (true, "1cb507b348fd989b0c21748321eea0ad1c9745050b32d3b956d21e70a554dde8"), looks := true }, kinds := [], alts := [], laidByText := true, laidKinds := [.handle, .sentinel, .sentinel, .sentinel, .sentinel, .sentinel, .sentinel, .sentinel, .sentinel, .sentinel, .sentinel, .sentinel], laidTests := true, laidLooks := .later }
def LocalActsUptoCardSaid : Prop := Claim7.holds Tryd.pinned (.plain (OpenSpec.upto localActsSpec)) localActsUptoCard
end Rows
end Go.Proofs.YtpaolneaomeoiacDoor
