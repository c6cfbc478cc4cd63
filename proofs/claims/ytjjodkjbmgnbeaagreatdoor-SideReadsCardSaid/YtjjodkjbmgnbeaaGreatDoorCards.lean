/-
  DERIVED. GIVEN WITH THE SEED: THE CARDS: each row of YtjjodkjbmgnbeaaGreatDoorRows.lean that lists a variable, with what it lists TIED to the program's text (the seventh form; the later family's looks); each row that meets fmt, with fmt's text TOLD by the authors' own Lean function (tested against real Go, not proved from fmt's source: count such statements apart). THE CARD IS WHAT COUNTS. Prove the row's statement (the work); the ties are given (YtjjodkjbmgnbeaaGreatDoorTie.lean); close each card by the builder's one call (the guide's Derived/Test/ToyasCard.lean, 'card_holds'). Laid BY PROGRAM, IN A SANDBOX (cutbox-door.mjs). By AI agents, Wed Nov 11 2026. No macro, syntax, notation, axiom, sorry.
-/
import Derived.Test.YtjjodkjbmgnbeaaGreatDoorRows
import GoSem.ClaimSeven
namespace Go.Proofs.YtjjodkjbmgnbeaaGreatDoor
namespace Rows

/-- THE TIED CARD OF 'nightwatchlaw3.SideReads'. -/
def sideReadsCard : Claim7 := { stood := { row := sideReadsRow, standIns := [], harness := (true, "885cf125e7dddd18488933668613298d84b8daf652d32660f70e2acf0cf00492"), looks := true }, kinds := [], alts := [], goes := true, laidByText := true, laidKinds := [.data, .handle, .sentinel, .sentinel, .sentinel, .sentinel, .sentinel, .sentinel, .sentinel, .sentinel, .sentinel, .sentinel, .sentinel, .data, .pinned], laidTests := true, laidLooks := .later }
def SideReadsCardSaid : Prop := Claim7.holds Tryz.pinned (.plain (OpenSpec.ofChange sideReadsSpec)) sideReadsCard

/-- THE SECOND FORM's CARD OF 'nightwatchlaw3.SideReads'. -/
def sideReadsUptoCard : Claim7 := { stood := { row := sideReadsUptoRow, standIns := [], harness := (true, "885cf125e7dddd18488933668613298d84b8daf652d32660f70e2acf0cf00492"), looks := true }, kinds := [], alts := [], goes := true, laidByText := true, laidKinds := [.data, .handle, .sentinel, .sentinel, .sentinel, .sentinel, .sentinel, .sentinel, .sentinel, .sentinel, .sentinel, .sentinel, .sentinel, .data, .pinned], laidTests := true, laidLooks := .later }
def SideReadsUptoCardSaid : Prop := Claim7.holds Tryz.pinned (.plain (OpenSpec.upto sideReadsSpec)) sideReadsUptoCard
end Rows
end Go.Proofs.YtjjodkjbmgnbeaaGreatDoor
