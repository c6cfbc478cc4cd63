/-
  DERIVED. GIVEN WITH THE SEED: THE CARDS: each row of YtbholbenjalliabDoorRows.lean that lists a variable, with what it lists TIED to the program's text (the seventh form; the later family's looks); each row that meets fmt, with fmt's text TOLD by the authors' own Lean function (tested against real Go, not proved from fmt's source: count such statements apart). THE CARD IS WHAT COUNTS. Prove the row's statement (the work); the ties are given (YtbholbenjalliabDoorTie.lean); close each card by the builder's one call (the guide's Derived/Test/ToyasCard.lean, 'card_holds'). Laid BY PROGRAM, IN A SANDBOX (cutbox-door.mjs). By AI agents, Wed Nov 11 2026. No macro, syntax, notation, axiom, sorry.
-/
import Derived.Test.YtbholbenjalliabDoorRows
import GoSem.ClaimSeven
namespace Go.Proofs.YtbholbenjalliabDoor
namespace Rows

/-- THE TIED CARD OF 'nightwatchlaw2.FlowBegins'. -/
def flowBeginsCard : Claim7 := { stood := { row := flowBeginsRow, standIns := [], harness := (true, "a8fe63b1c0f3eb683938afecc997b185c56b36af3a5c58a2f10123dc8f4690ad"), looks := true }, kinds := [], alts := [], laidByText := true, laidKinds := [.sentinel], laidTests := true, laidLooks := .later }
def FlowBeginsCardSaid : Prop := Claim7.holds Tryd.pinned (.plain (OpenSpec.ofChange flowBeginsSpec)) flowBeginsCard

/-- THE TIED CARD OF 'nightwatchlaw2.FlowWords'. -/
def flowWordsCard : Claim7 := { stood := { row := flowWordsRow, standIns := [], harness := (true, "a8fe63b1c0f3eb683938afecc997b185c56b36af3a5c58a2f10123dc8f4690ad"), looks := true }, kinds := [], alts := [], laidByText := true, laidKinds := [.handle, .sentinel, .sentinel, .sentinel, .sentinel, .sentinel, .sentinel, .sentinel, .sentinel, .sentinel, .sentinel, .sentinel], laidTests := true, laidLooks := .later }
def FlowWordsCardSaid : Prop := Claim7.holds Tryd.pinned (.plain (OpenSpec.ofChange flowWordsSpec)) flowWordsCard

/-- THE SECOND FORM's CARD OF 'nightwatchlaw2.FlowBegins'. -/
def flowBeginsUptoCard : Claim7 := { stood := { row := flowBeginsUptoRow, standIns := [], harness := (true, "a8fe63b1c0f3eb683938afecc997b185c56b36af3a5c58a2f10123dc8f4690ad"), looks := true }, kinds := [], alts := [], laidByText := true, laidKinds := [.sentinel], laidTests := true, laidLooks := .later }
def FlowBeginsUptoCardSaid : Prop := Claim7.holds Tryd.pinned (.plain (OpenSpec.upto flowBeginsSpec)) flowBeginsUptoCard

/-- THE SECOND FORM's CARD OF 'nightwatchlaw2.FlowWords'. -/
def flowWordsUptoCard : Claim7 := { stood := { row := flowWordsUptoRow, standIns := [], harness := (true, "a8fe63b1c0f3eb683938afecc997b185c56b36af3a5c58a2f10123dc8f4690ad"), looks := true }, kinds := [], alts := [], laidByText := true, laidKinds := [.handle, .sentinel, .sentinel, .sentinel, .sentinel, .sentinel, .sentinel, .sentinel, .sentinel, .sentinel, .sentinel, .sentinel], laidTests := true, laidLooks := .later }
def FlowWordsUptoCardSaid : Prop := Claim7.holds Tryd.pinned (.plain (OpenSpec.upto flowWordsSpec)) flowWordsUptoCard
end Rows
end Go.Proofs.YtbholbenjalliabDoor
