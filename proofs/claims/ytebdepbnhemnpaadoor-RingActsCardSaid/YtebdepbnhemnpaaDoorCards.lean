/-
  DERIVED. GIVEN WITH THE SEED: THE CARDS: each row of YtebdepbnhemnpaaDoorRows.lean that lists a variable, with what it lists TIED to the program's text (the seventh form; the later family's looks); each row that meets fmt, with fmt's text TOLD by the authors' own Lean function (tested against real Go, not proved from fmt's source: count such statements apart). THE CARD IS WHAT COUNTS. Prove the row's statement (the work); the ties are given (YtebdepbnhemnpaaDoorTie.lean); close each card by the builder's one call (the guide's Derived/Test/ToyasCard.lean, 'card_holds'). Laid BY PROGRAM, IN A SANDBOX (cutbox-door.mjs). By AI agents, Wed Nov 11 2026. No macro, syntax, notation, axiom, sorry.
-/
import Derived.Test.YtebdepbnhemnpaaDoorRows
import GoSem.ClaimSeven
namespace Go.Proofs.YtebdepbnhemnpaaDoor
namespace Rows

/-- THE TIED CARD OF 'nightwatchlaw1.Names'. -/
def namesCard : Claim7 := { stood := { row := namesRow, standIns := [], harness := (true, "193e19a2904923d4f9082113f9f108477d895101605546498d937f3fb081bb79"), looks := true }, kinds := [], alts := [], laidByText := true, laidKinds := [.handle, .sentinel, .sentinel, .sentinel, .sentinel, .sentinel, .sentinel, .sentinel, .sentinel, .sentinel, .sentinel, .sentinel], laidTests := true, laidLooks := .later }
def NamesCardSaid : Prop := Claim7.holds Tryd.pinned (.plain (OpenSpec.ofChange namesSpec)) namesCard

/-- THE TIED CARD OF 'nightwatchlaw1.CellsCut'. -/
def cellsCutCard : Claim7 := { stood := { row := cellsCutRow, standIns := [], harness := (true, "193e19a2904923d4f9082113f9f108477d895101605546498d937f3fb081bb79"), looks := true }, kinds := [], alts := [], laidByText := true, laidKinds := [.handle, .sentinel, .sentinel, .sentinel, .sentinel, .sentinel, .sentinel, .sentinel, .sentinel, .sentinel, .sentinel, .sentinel], laidTests := true, laidLooks := .later }
def CellsCutCardSaid : Prop := Claim7.holds Tryd.pinned (.plain (OpenSpec.ofChange cellsCutSpec)) cellsCutCard

/-- THE TIED CARD OF 'nightwatchlaw1.CellsActs'. -/
def cellsActsCard : Claim7 := { stood := { row := cellsActsRow, standIns := [], harness := (true, "193e19a2904923d4f9082113f9f108477d895101605546498d937f3fb081bb79"), looks := true }, kinds := [], alts := [], laidByText := true, laidKinds := [.handle, .sentinel, .sentinel, .sentinel, .sentinel, .sentinel, .sentinel, .sentinel, .sentinel, .sentinel, .sentinel, .sentinel], laidTests := true, laidLooks := .later }
def CellsActsCardSaid : Prop := Claim7.holds Tryd.pinned (.plain (OpenSpec.ofChange cellsActsSpec)) cellsActsCard

/-- THE TIED CARD OF 'nightwatchlaw1.RingOpens'. -/
def ringOpensCard : Claim7 := { stood := { row := ringOpensRow, standIns := [], harness := (true, "193e19a2904923d4f9082113f9f108477d895101605546498d937f3fb081bb79"), looks := true }, kinds := [], alts := [], laidByText := true, laidKinds := [.handle, .sentinel, .sentinel, .sentinel, .sentinel, .sentinel, .sentinel, .sentinel, .sentinel, .sentinel, .sentinel, .sentinel], laidTests := true, laidLooks := .later }
def RingOpensCardSaid : Prop := Claim7.holds Tryd.pinned (.plain (OpenSpec.ofChange ringOpensSpec)) ringOpensCard

/-- THE TIED CARD OF 'nightwatchlaw1.RingCuts'. -/
def ringCutsCard : Claim7 := { stood := { row := ringCutsRow, standIns := [], harness := (true, "193e19a2904923d4f9082113f9f108477d895101605546498d937f3fb081bb79"), looks := true }, kinds := [], alts := [], laidByText := true, laidKinds := [.handle, .sentinel, .sentinel, .sentinel, .sentinel, .sentinel, .sentinel, .sentinel, .sentinel, .sentinel, .sentinel, .sentinel], laidTests := true, laidLooks := .later }
def RingCutsCardSaid : Prop := Claim7.holds Tryd.pinned (.plain (OpenSpec.ofChange ringCutsSpec)) ringCutsCard

/-- THE TIED CARD OF 'nightwatchlaw1.RingTurned'. -/
def ringTurnedCard : Claim7 := { stood := { row := ringTurnedRow, standIns := [], harness := (true, "193e19a2904923d4f9082113f9f108477d895101605546498d937f3fb081bb79"), looks := true }, kinds := [], alts := [], laidByText := true, laidKinds := [.sentinel, .sentinel, .sentinel, .sentinel], laidTests := true, laidLooks := .later }
def RingTurnedCardSaid : Prop := Claim7.holds Tryd.pinned (.plain (OpenSpec.ofChange ringTurnedSpec)) ringTurnedCard

/-- THE TIED CARD OF 'nightwatchlaw1.RingActs'. -/
def ringActsCard : Claim7 := { stood := { row := ringActsRow, standIns := [], harness := (true, "193e19a2904923d4f9082113f9f108477d895101605546498d937f3fb081bb79"), looks := true }, kinds := [], alts := [], laidByText := true, laidKinds := [.handle, .sentinel, .sentinel, .sentinel, .sentinel, .sentinel, .sentinel, .sentinel, .sentinel, .sentinel, .sentinel, .sentinel], laidTests := true, laidLooks := .later }
def RingActsCardSaid : Prop := Claim7.holds Tryd.pinned (.plain (OpenSpec.ofChange ringActsSpec)) ringActsCard

/-- THE TIED CARD OF 'nightwatchlaw1.DogWindows'. -/
def dogWindowsCard : Claim7 := { stood := { row := dogWindowsRow, standIns := [], harness := (true, "193e19a2904923d4f9082113f9f108477d895101605546498d937f3fb081bb79"), looks := true }, kinds := [], alts := [], laidByText := true, laidKinds := [.handle, .sentinel, .sentinel, .sentinel, .sentinel, .sentinel, .sentinel, .sentinel, .sentinel, .sentinel, .sentinel, .sentinel], laidTests := true, laidLooks := .later }
def DogWindowsCardSaid : Prop := Claim7.holds Tryd.pinned (.plain (OpenSpec.ofChange dogWindowsSpec)) dogWindowsCard

/-- THE TIED CARD OF 'nightwatchlaw1.DogEarly'. -/
def dogEarlyCard : Claim7 := { stood := { row := dogEarlyRow, standIns := [], harness := (true, "193e19a2904923d4f9082113f9f108477d895101605546498d937f3fb081bb79"), looks := true }, kinds := [], alts := [], laidByText := true, laidKinds := [.handle, .sentinel, .sentinel, .sentinel, .sentinel, .sentinel, .sentinel, .sentinel, .sentinel, .sentinel, .sentinel, .sentinel], laidTests := true, laidLooks := .later }
def DogEarlyCardSaid : Prop := Claim7.holds Tryd.pinned (.plain (OpenSpec.ofChange dogEarlySpec)) dogEarlyCard

/-- THE TIED CARD OF 'nightwatchlaw1.DogActs'. -/
def dogActsCard : Claim7 := { stood := { row := dogActsRow, standIns := [], harness := (true, "193e19a2904923d4f9082113f9f108477d895101605546498d937f3fb081bb79"), looks := true }, kinds := [], alts := [], laidByText := true, laidKinds := [.handle, .sentinel, .sentinel, .sentinel, .sentinel, .sentinel, .sentinel, .sentinel, .sentinel, .sentinel, .sentinel, .sentinel], laidTests := true, laidLooks := .later }
def DogActsCardSaid : Prop := Claim7.holds Tryd.pinned (.plain (OpenSpec.ofChange dogActsSpec)) dogActsCard

/-- THE SECOND FORM's CARD OF 'nightwatchlaw1.Names'. -/
def namesUptoCard : Claim7 := { stood := { row := namesUptoRow, standIns := [], harness := (true, "193e19a2904923d4f9082113f9f108477d895101605546498d937f3fb081bb79"), looks := true }, kinds := [], alts := [], laidByText := true, laidKinds := [.handle, .sentinel, .sentinel, .sentinel, .sentinel, .sentinel, .sentinel, .sentinel, .sentinel, .sentinel, .sentinel, .sentinel], laidTests := true, laidLooks := .later }
def NamesUptoCardSaid : Prop := Claim7.holds Tryd.pinned (.plain (OpenSpec.upto namesSpec)) namesUptoCard

/-- THE SECOND FORM's CARD OF 'nightwatchlaw1.CellsCut'. -/
def cellsCutUptoCard : Claim7 := { stood := { row := cellsCutUptoRow, standIns := [], harness := (true, "193e19a2904923d4f9082113f9f108477d895101605546498d937f3fb081bb79"), looks := true }, kinds := [], alts := [], laidByText := true, laidKinds := [.handle, .sentinel, .sentinel, .sentinel, .sentinel, .sentinel, .sentinel, .sentinel, .sentinel, .sentinel, .sentinel, .sentinel], laidTests := true, laidLooks := .later }
def CellsCutUptoCardSaid : Prop := Claim7.holds Tryd.pinned (.plain (OpenSpec.upto cellsCutSpec)) cellsCutUptoCard

/-- THE SECOND FORM's CARD OF 'nightwatchlaw1.CellsActs'. -/
def cellsActsUptoCard : Claim7 := { stood := { row := cellsActsUptoRow, standIns := [], harness := (true, "193e19a2904923d4f9082113f9f108477d895101605546498d937f3fb081bb79"), looks := true }, kinds := [], alts := [], laidByText := true, laidKinds := [.handle, .sentinel, .sentinel, .sentinel, .sentinel, .sentinel, .sentinel, .sentinel, .sentinel, .sentinel, .sentinel, .sentinel], laidTests := true, laidLooks := .later }
def CellsActsUptoCardSaid : Prop := Claim7.holds Tryd.pinned (.plain (OpenSpec.upto cellsActsSpec)) cellsActsUptoCard

/-- THE SECOND FORM's CARD OF 'nightwatchlaw1.RingOpens'. -/
def ringOpensUptoCard : Claim7 := { stood := { row := ringOpensUptoRow, standIns := [], harness := (true, "193e19a2904923d4f9082113f9f108477d895101605546498d937f3fb081bb79"), looks := true }, kinds := [], alts := [], laidByText := true, laidKinds := [.handle, .sentinel, .sentinel, .sentinel, .sentinel, .sentinel, .sentinel, .sentinel, .sentinel, .sentinel, .sentinel, .sentinel], laidTests := true, laidLooks := .later }
def RingOpensUptoCardSaid : Prop := Claim7.holds Tryd.pinned (.plain (OpenSpec.upto ringOpensSpec)) ringOpensUptoCard

/-- THE SECOND FORM's CARD OF 'nightwatchlaw1.RingCuts'. -/
def ringCutsUptoCard : Claim7 := { stood := { row := ringCutsUptoRow, standIns := [], harness := (true, "193e19a2904923d4f9082113f9f108477d895101605546498d937f3fb081bb79"), looks := true }, kinds := [], alts := [], laidByText := true, laidKinds := [.handle, .sentinel, .sentinel, .sentinel, .sentinel, .sentinel, .sentinel, .sentinel, .sentinel, .sentinel, .sentinel, .sentinel], laidTests := true, laidLooks := .later }
def RingCutsUptoCardSaid : Prop := Claim7.holds Tryd.pinned (.plain (OpenSpec.upto ringCutsSpec)) ringCutsUptoCard

/-- THE SECOND FORM's CARD OF 'nightwatchlaw1.RingTurned'. -/
def ringTurnedUptoCard : Claim7 := { stood := { row := ringTurnedUptoRow, standIns := [], harness := (true, "193e19a2904923d4f9082113f9f108477d895101605546498d937f3fb081bb79"), looks := true }, kinds := [], alts := [], laidByText := true, laidKinds := [.sentinel, .sentinel, .sentinel, .sentinel], laidTests := true, laidLooks := .later }
def RingTurnedUptoCardSaid : Prop := Claim7.holds Tryd.pinned (.plain (OpenSpec.upto ringTurnedSpec)) ringTurnedUptoCard

/-- THE SECOND FORM's CARD OF 'nightwatchlaw1.RingActs'. -/
def ringActsUptoCard : Claim7 := { stood := { row := ringActsUptoRow, standIns := [], harness := (true, "193e19a2904923d4f9082113f9f108477d895101605546498d937f3fb081bb79"), looks := true }, kinds := [], alts := [], laidByText := true, laidKinds := [.handle, .sentinel, .sentinel, .sentinel, .sentinel, .sentinel, .sentinel, .sentinel, .sentinel, .sentinel, .sentinel, .sentinel], laidTests := true, laidLooks := .later }
def RingActsUptoCardSaid : Prop := Claim7.holds Tryd.pinned (.plain (OpenSpec.upto ringActsSpec)) ringActsUptoCard

/-- THE SECOND FORM's CARD OF 'nightwatchlaw1.DogWindows'. -/
def dogWindowsUptoCard : Claim7 := { stood := { row := dogWindowsUptoRow, standIns := [], harness := (true, "193e19a2904923d4f9082113f9f108477d895101605546498d937f3fb081bb79"), looks := true }, kinds := [], alts := [], laidByText := true, laidKinds := [.handle, .sentinel, .sentinel, .sentinel, .sentinel, .sentinel, .sentinel, .sentinel, .sentinel, .sentinel, .sentinel, .sentinel], laidTests := true, laidLooks := .later }
def DogWindowsUptoCardSaid : Prop := Claim7.holds Tryd.pinned (.plain (OpenSpec.upto dogWindowsSpec)) dogWindowsUptoCard

/-- THE SECOND FORM's CARD OF 'nightwatchlaw1.DogEarly'. -/
def dogEarlyUptoCard : Claim7 := { stood := { row := dogEarlyUptoRow, standIns := [], harness := (true, "193e19a2904923d4f9082113f9f108477d895101605546498d937f3fb081bb79"), looks := true }, kinds := [], alts := [], laidByText := true, laidKinds := [.handle, .sentinel, .sentinel, .sentinel, .sentinel, .sentinel, .sentinel, .sentinel, .sentinel, .sentinel, .sentinel, .sentinel], laidTests := true, laidLooks := .later }
def DogEarlyUptoCardSaid : Prop := Claim7.holds Tryd.pinned (.plain (OpenSpec.upto dogEarlySpec)) dogEarlyUptoCard

/-- THE SECOND FORM's CARD OF 'nightwatchlaw1.DogActs'. -/
def dogActsUptoCard : Claim7 := { stood := { row := dogActsUptoRow, standIns := [], harness := (true, "193e19a2904923d4f9082113f9f108477d895101605546498d937f3fb081bb79"), looks := true }, kinds := [], alts := [], laidByText := true, laidKinds := [.handle, .sentinel, .sentinel, .sentinel, .sentinel, .sentinel, .sentinel, .sentinel, .sentinel, .sentinel, .sentinel, .sentinel], laidTests := true, laidLooks := .later }
def DogActsUptoCardSaid : Prop := Claim7.holds Tryd.pinned (.plain (OpenSpec.upto dogActsSpec)) dogActsUptoCard
end Rows
end Go.Proofs.YtebdepbnhemnpaaDoor
