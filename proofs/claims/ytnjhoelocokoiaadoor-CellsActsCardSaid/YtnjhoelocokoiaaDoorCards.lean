/-
  DERIVED. GIVEN WITH THE SEED: THE CARDS: each row of YtnjhoelocokoiaaDoorRows.lean that lists a variable, with what it lists TIED to the program's text (the seventh form; the later family's looks); each row that meets fmt, with fmt's text TOLD by the authors' own Lean function (tested against real Go, not proved from fmt's source: count such statements apart). THE CARD IS WHAT COUNTS. Prove the row's statement (the work); the ties are given (YtnjhoelocokoiaaDoorTie.lean); close each card by the builder's one call (the guide's Derived/Test/ToyasCard.lean, 'card_holds'). Laid BY PROGRAM, IN A SANDBOX (cutbox-door.mjs). By AI agents, Wed Nov 11 2026. No macro, syntax, notation, axiom, sorry.
-/
import Derived.Test.YtnjhoelocokoiaaDoorRows
import GoSem.ClaimSeven
namespace Go.Proofs.YtnjhoelocokoiaaDoor
namespace Rows

/-- THE TIED CARD OF 'nightwatchlaw1.Names'. -/
def namesCard : Claim7 := { stood := { row := namesRow, standIns := [], harness := (true, "2430f3ae09e2f270590863fe3c62998c7978cf0efcc942e27239d8217d76923e"), looks := true }, kinds := [], alts := [], laidByText := true, laidKinds := [.handle, .sentinel, .sentinel, .sentinel, .sentinel, .sentinel, .sentinel, .sentinel, .sentinel, .sentinel, .sentinel, .sentinel], laidTests := true, laidLooks := .later }
def NamesCardSaid : Prop := Claim7.holds Tryd.pinned (.plain (OpenSpec.ofChange namesSpec)) namesCard

/-- THE TIED CARD OF 'nightwatchlaw1.CellsCut'. -/
def cellsCutCard : Claim7 := { stood := { row := cellsCutRow, standIns := [], harness := (true, "2430f3ae09e2f270590863fe3c62998c7978cf0efcc942e27239d8217d76923e"), looks := true }, kinds := [], alts := [], laidByText := true, laidKinds := [.handle, .sentinel, .sentinel, .sentinel, .sentinel, .sentinel, .sentinel, .sentinel, .sentinel, .sentinel, .sentinel, .sentinel], laidTests := true, laidLooks := .later }
def CellsCutCardSaid : Prop := Claim7.holds Tryd.pinned (.plain (OpenSpec.ofChange cellsCutSpec)) cellsCutCard

/-- THE TIED CARD OF 'nightwatchlaw1.CellsActs'. -/
def cellsActsCard : Claim7 := { stood := { row := cellsActsRow, standIns := [], harness := (true, "2430f3ae09e2f270590863fe3c62998c7978cf0efcc942e27239d8217d76923e"), looks := true }, kinds := [], alts := [], laidByText := true, laidKinds := [.handle, .sentinel, .sentinel, .sentinel, .sentinel, .sentinel, .sentinel, .sentinel, .sentinel, .sentinel, .sentinel, .sentinel], laidTests := true, laidLooks := .later }
def CellsActsCardSaid : Prop := Claim7.holds Tryd.pinned (.plain (OpenSpec.ofChange cellsActsSpec)) cellsActsCard

/-- THE SECOND FORM's CARD OF 'nightwatchlaw1.Names'. -/
def namesUptoCard : Claim7 := { stood := { row := namesUptoRow, standIns := [], harness := (true, "2430f3ae09e2f270590863fe3c62998c7978cf0efcc942e27239d8217d76923e"), looks := true }, kinds := [], alts := [], laidByText := true, laidKinds := [.handle, .sentinel, .sentinel, .sentinel, .sentinel, .sentinel, .sentinel, .sentinel, .sentinel, .sentinel, .sentinel, .sentinel], laidTests := true, laidLooks := .later }
def NamesUptoCardSaid : Prop := Claim7.holds Tryd.pinned (.plain (OpenSpec.upto namesSpec)) namesUptoCard

/-- THE SECOND FORM's CARD OF 'nightwatchlaw1.CellsCut'. -/
def cellsCutUptoCard : Claim7 := { stood := { row := cellsCutUptoRow, standIns := [], harness := (true, "2430f3ae09e2f270590863fe3c62998c7978cf0efcc942e27239d8217d76923e"), looks := true }, kinds := [], alts := [], laidByText := true, laidKinds := [.handle, .sentinel, .sentinel, .sentinel, .sentinel, .sentinel, .sentinel, .sentinel, .sentinel, .sentinel, .sentinel, .sentinel], laidTests := true, laidLooks := .later }
def CellsCutUptoCardSaid : Prop := Claim7.holds Tryd.pinned (.plain (OpenSpec.upto cellsCutSpec)) cellsCutUptoCard

/-- THE SECOND FORM's CARD OF 'nightwatchlaw1.CellsActs'. -/
def cellsActsUptoCard : Claim7 := { stood := { row := cellsActsUptoRow, standIns := [], harness := (true, "2430f3ae09e2f270590863fe3c62998c7978cf0efcc942e27239d8217d76923e"), looks := true }, kinds := [], alts := [], laidByText := true, laidKinds := [.handle, .sentinel, .sentinel, .sentinel, .sentinel, .sentinel, .sentinel, .sentinel, .sentinel, .sentinel, .sentinel, .sentinel], laidTests := true, laidLooks := .later }
def CellsActsUptoCardSaid : Prop := Claim7.holds Tryd.pinned (.plain (OpenSpec.upto cellsActsSpec)) cellsActsUptoCard
end Rows
end Go.Proofs.YtnjhoelocokoiaaDoor
