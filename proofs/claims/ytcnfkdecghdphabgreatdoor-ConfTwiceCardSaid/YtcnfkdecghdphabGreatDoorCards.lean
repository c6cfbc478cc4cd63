/-
  DERIVED. GIVEN WITH THE SEED: THE CARDS: each row of YtcnfkdecghdphabGreatDoorRows.lean that lists a variable, with what it lists TIED to the program's text (the seventh form; the later family's looks); each row that meets fmt, with fmt's text TOLD by the authors' own Lean function (tested against real Go, not proved from fmt's source: count such statements apart). THE CARD IS WHAT COUNTS. Prove the row's statement (the work); the ties are given (YtcnfkdecghdphabGreatDoorTie.lean); close each card by the builder's one call (the guide's Derived/Test/ToyasCard.lean, 'card_holds'). Laid BY PROGRAM, IN A SANDBOX (cutbox-door.mjs). By AI agents, Wed Nov 11 2026. No macro, syntax, notation, axiom, sorry.
-/
import Derived.Test.YtcnfkdecghdphabGreatDoorRows
import GoSem.ClaimSeven
namespace Go.Proofs.YtcnfkdecghdphabGreatDoor
namespace Rows

/-- THE TIED CARD OF 'nightwatchlaw1.ConfTwice'. -/
def confTwiceCard : Claim7 := { stood := { row := confTwiceRow, standIns := [], harness := (true, "662712e2bdbc5af5dd41337758d7837b725b03d703090b3e3d72ac6721708276"), looks := true }, kinds := [], alts := [], laidByText := true, laidKinds := [.data, .data, .data, .data, .sentinel, .sentinel, .sentinel, .sentinel, .sentinel, .sentinel, .data, .pinned], laidTests := true, laidLooks := .later }
def ConfTwiceCardSaid : Prop := Claim7.holds Tryz.pinned (.plain (OpenSpec.ofChange confTwiceSpec)) confTwiceCard

/-- THE TIED CARD OF 'nightwatchlaw1.ConfMore'. -/
def confMoreCard : Claim7 := { stood := { row := confMoreRow, standIns := [], harness := (true, "662712e2bdbc5af5dd41337758d7837b725b03d703090b3e3d72ac6721708276"), looks := true }, kinds := [], alts := [], laidByText := true, laidKinds := [.data, .data, .data, .handle, .sentinel, .sentinel, .sentinel, .sentinel, .sentinel, .sentinel, .sentinel, .sentinel, .sentinel, .sentinel, .sentinel, .data], laidTests := true, laidLooks := .later }
def ConfMoreCardSaid : Prop := Claim7.holds Tryz.pinned (.plain (OpenSpec.ofChange confMoreSpec)) confMoreCard

/-- THE SECOND FORM's CARD OF 'nightwatchlaw1.ConfTwice'. -/
def confTwiceUptoCard : Claim7 := { stood := { row := confTwiceUptoRow, standIns := [], harness := (true, "662712e2bdbc5af5dd41337758d7837b725b03d703090b3e3d72ac6721708276"), looks := true }, kinds := [], alts := [], laidByText := true, laidKinds := [.data, .data, .data, .data, .sentinel, .sentinel, .sentinel, .sentinel, .sentinel, .sentinel, .data, .pinned], laidTests := true, laidLooks := .later }
def ConfTwiceUptoCardSaid : Prop := Claim7.holds Tryz.pinned (.plain (OpenSpec.upto confTwiceSpec)) confTwiceUptoCard

/-- THE SECOND FORM's CARD OF 'nightwatchlaw1.ConfMore'. -/
def confMoreUptoCard : Claim7 := { stood := { row := confMoreUptoRow, standIns := [], harness := (true, "662712e2bdbc5af5dd41337758d7837b725b03d703090b3e3d72ac6721708276"), looks := true }, kinds := [], alts := [], laidByText := true, laidKinds := [.data, .data, .data, .handle, .sentinel, .sentinel, .sentinel, .sentinel, .sentinel, .sentinel, .sentinel, .sentinel, .sentinel, .sentinel, .sentinel, .data], laidTests := true, laidLooks := .later }
def ConfMoreUptoCardSaid : Prop := Claim7.holds Tryz.pinned (.plain (OpenSpec.upto confMoreSpec)) confMoreUptoCard
end Rows
end Go.Proofs.YtcnfkdecghdphabGreatDoor
