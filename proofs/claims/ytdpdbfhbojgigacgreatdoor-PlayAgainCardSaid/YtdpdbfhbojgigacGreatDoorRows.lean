/-
  NARROWER THAN 'FOR EVERY INPUT', by the rows' own cells (each row's printed sentence says how): KeeperQuiet: laid · KeeperStops: laid · KeeperCuts: laid · KeeperKicks: laid · KeeperActs: laid · PlayAgain: laid · PlayRuns: laid.
  DERIVED. THE GIVEN ROWS OF THIS SEAT. 7 by the template 'for every input the law returns true; each argument reads behind the call as it read before'; 0 by the template 'total and deterministic' (their statements: YtdpdbfhbojgigacGreatDoorTotals.lean).
  GIVEN WITH THE SEED: the statements are not yours to turn. If you find one false, say at which input.
  Laid BY PROGRAM, IN A SANDBOX (cutbox-rows.mjs): the forced cells as the released guide's own fill.sh prints them over the translation e49a88b10119c554… (all of the seat's roots in one cut). By AI agents, Wed Nov 11 2026. No macro, syntax, notation, axiom, sorry.
-/
import Derived.Test.YtdpdbfhbojgigacGreatDoorChecked
import GoSem.Claim
import GoSem.ClaimJoined
import GoSem.ClaimMapViews
import Derived.JoinedTies
import Derived.KernelRfl
namespace Go.Proofs.YtdpdbfhbojgigacGreatDoor
/- THE CELL 'sum', in the pinned program and in every row, IS THE sha256 OF THE DUMP (.gsa) THAT YtdpdbfhbojgigacGreatDoorProg.lean LOADS. Nothing in Lean hashes anything: it is a label: what it is worth is what the hold of that sum in a sandbox is worth. -/
noncomputable def Tryz.pinned : Pinned := { name := "ytdpdbfhbojgigacgreatdoor", sum := "e49a88b10119c5546b23797ff493ae480051c34f8d3c3f02dc8c5e04f7d5257f", checked := Tryz.checked }
namespace Rows
def none {H : Type} : Left H := { results := [], args := [] }

/- WHAT THE LISTED PACKAGE-LEVEL VARIABLES READ AS WHEN THE CALL BEGINS. Each datum BY PROGRAM (the guide's laid-datum.mjs) off the statement by which the dump's own 'gosem.cut.vars' lays the variable. In a bare row this is a premise. The card (YtdpdbfhbojgigacGreatDoorCards.lean) ties it to the program's text. -/
def laid_nightwatch_api_ErrBound {H : Type} : DataW H := .iface "*errors.errorString" (.ptr (.agg [.lit (.string [110, 105, 103, 104, 116, 119, 97, 116, 99, 104, 58, 32, 98, 111, 117, 110, 100])]))
def laid_nightwatch_api_ErrShape {H : Type} : DataW H := .iface "*errors.errorString" (.ptr (.agg [.lit (.string [110, 105, 103, 104, 116, 119, 97, 116, 99, 104, 58, 32, 115, 104, 97, 112, 101])]))
def laid_nightwatch_api_ErrName {H : Type} : DataW H := .iface "*errors.errorString" (.ptr (.agg [.lit (.string [110, 105, 103, 104, 116, 119, 97, 116, 99, 104, 58, 32, 110, 97, 109, 101])]))
def laid_nightwatch_api_ErrNone {H : Type} : DataW H := .iface "*errors.errorString" (.ptr (.agg [.lit (.string [110, 105, 103, 104, 116, 119, 97, 116, 99, 104, 58, 32, 110, 111, 110, 101])]))
def laid_nightwatch_api_ErrExist {H : Type} : DataW H := .iface "*errors.errorString" (.ptr (.agg [.lit (.string [110, 105, 103, 104, 116, 119, 97, 116, 99, 104, 58, 32, 101, 120, 105, 115, 116])]))
def laid_nightwatch_api_ErrFull {H : Type} : DataW H := .iface "*errors.errorString" (.ptr (.agg [.lit (.string [110, 105, 103, 104, 116, 119, 97, 116, 99, 104, 58, 32, 102, 117, 108, 108])]))
def laid_nightwatch_api_ErrOff {H : Type} : DataW H := .iface "*errors.errorString" (.ptr (.agg [.lit (.string [110, 105, 103, 104, 116, 119, 97, 116, 99, 104, 58, 32, 111, 102, 102])]))
def laid_nightwatch_api_ErrIdle {H : Type} : DataW H := .iface "*errors.errorString" (.ptr (.agg [.lit (.string [110, 105, 103, 104, 116, 119, 97, 116, 99, 104, 58, 32, 105, 100, 108, 101])]))
def laid_nightwatch_api_ErrHeld {H : Type} : DataW H := .iface "*errors.errorString" (.ptr (.agg [.lit (.string [110, 105, 103, 104, 116, 119, 97, 116, 99, 104, 58, 32, 104, 101, 108, 100])]))
def laid_nightwatch_api_ErrReset {H : Type} : DataW H := .iface "*errors.errorString" (.ptr (.agg [.lit (.string [110, 105, 103, 104, 116, 119, 97, 116, 99, 104, 58, 32, 114, 101, 115, 101, 116])]))
def laid_errors_errorType {H : Type} : DataW H := .iface "internal/reflectlite.rtype" (.agg [.ptr (.lit (.string [101, 114, 114, 111, 114]))])
def laid_nightwatch_api_ErrText {H : Type} : DataW H := .iface "*errors.errorString" (.ptr (.agg [.lit (.string [110, 105, 103, 104, 116, 119, 97, 116, 99, 104, 58, 32, 116, 101, 120, 116])]))

/-- 'nightwatchlaw3.KeeperQuiet': WHATEVER THE INPUT: true; the input reads as it did. -/
def keeperQuietSpec : ChangeSpec := { name := "keeperQuiet", fn := fun _ => fun
  | [d1, d2, d3] => { results := [.lit (.bool true)], args := [d1, d2, d3] }
  | _ => none }
def keeperQuietRow : OpenClaim := { program := "ytdpdbfhbojgigacgreatdoor", sum := "e49a88b10119c5546b23797ff493ae480051c34f8d3c3f02dc8c5e04f7d5257f", func := "nightwatch/nightwatchlaw3.KeeperQuiet", spec := "keeperQuiet", unfollowed := true, recurses := true, named := ["nightwatch/api.ErrBound", "nightwatch/api.ErrShape", "nightwatch/api.ErrName", "nightwatch/api.ErrExist", "nightwatch/api.ErrNone", "nightwatch/api.ErrOff", "nightwatch/api.ErrIdle", "nightwatch/api.ErrReset", "nightwatch/api.ErrFull", "nightwatch/api.ErrHeld"], plainKeys := false, apart := false, laid := [("nightwatch/api.ErrBound", laid_nightwatch_api_ErrBound), ("nightwatch/api.ErrShape", laid_nightwatch_api_ErrShape), ("nightwatch/api.ErrName", laid_nightwatch_api_ErrName), ("nightwatch/api.ErrNone", laid_nightwatch_api_ErrNone), ("nightwatch/api.ErrExist", laid_nightwatch_api_ErrExist), ("nightwatch/api.ErrFull", laid_nightwatch_api_ErrFull), ("nightwatch/api.ErrOff", laid_nightwatch_api_ErrOff), ("nightwatch/api.ErrIdle", laid_nightwatch_api_ErrIdle), ("nightwatch/api.ErrHeld", laid_nightwatch_api_ErrHeld), ("nightwatch/api.ErrReset", laid_nightwatch_api_ErrReset)] }
def KeeperQuietSaid : Prop := keeperQuietRow.holds Tryz.pinned (OpenSpec.ofChange keeperQuietSpec)

/-- ITS FALSE NEIGHBOUR: 'it returns false'. Refute it at one input. -/
def keeperQuietWrong : ChangeSpec := { name := "keeperQuiet", fn := fun _ => fun
  | [d1, d2, d3] => { results := [.lit (.bool false)], args := [d1, d2, d3] }
  | _ => none }
def KeeperQuietWrongFalsely : Prop := keeperQuietRow.holds Tryz.pinned (OpenSpec.ofChange keeperQuietWrong)

/-- 'nightwatchlaw3.KeeperStops': WHATEVER THE INPUT: true; the input reads as it did. -/
def keeperStopsSpec : ChangeSpec := { name := "keeperStops", fn := fun _ => fun
  | [d1, d2, d3, d4, d5] => { results := [.lit (.bool true)], args := [d1, d2, d3, d4, d5] }
  | _ => none }
def keeperStopsRow : OpenClaim := { program := "ytdpdbfhbojgigacgreatdoor", sum := "e49a88b10119c5546b23797ff493ae480051c34f8d3c3f02dc8c5e04f7d5257f", func := "nightwatch/nightwatchlaw3.KeeperStops", spec := "keeperStops", inPlace := ["internal/reflectlite.ValueOf", "(internal/reflectlite.Value).Type", "(internal/reflectlite.Value).IsNil", "internal/reflectlite.TypeOf", "(internal/reflectlite.Value).Elem", "(internal/reflectlite.Value).Set"], unfollowed := true, recurses := true, named := ["nightwatch/api.ErrBound", "nightwatch/api.ErrShape", "nightwatch/api.ErrName", "nightwatch/api.ErrExist", "nightwatch/api.ErrNone", "nightwatch/api.ErrOff", "nightwatch/api.ErrIdle", "nightwatch/api.ErrReset", "nightwatch/api.ErrFull", "nightwatch/api.ErrHeld", "nightwatch/api.ErrText", "errors.errorType"], plainKeys := false, apart := false, laid := [("errors.errorType", laid_errors_errorType), ("nightwatch/api.ErrText", laid_nightwatch_api_ErrText), ("nightwatch/api.ErrBound", laid_nightwatch_api_ErrBound), ("nightwatch/api.ErrShape", laid_nightwatch_api_ErrShape), ("nightwatch/api.ErrName", laid_nightwatch_api_ErrName), ("nightwatch/api.ErrNone", laid_nightwatch_api_ErrNone), ("nightwatch/api.ErrExist", laid_nightwatch_api_ErrExist), ("nightwatch/api.ErrFull", laid_nightwatch_api_ErrFull), ("nightwatch/api.ErrOff", laid_nightwatch_api_ErrOff), ("nightwatch/api.ErrIdle", laid_nightwatch_api_ErrIdle), ("nightwatch/api.ErrHeld", laid_nightwatch_api_ErrHeld), ("nightwatch/api.ErrReset", laid_nightwatch_api_ErrReset)] }
def KeeperStopsSaid : Prop := keeperStopsRow.holds Tryz.pinned (OpenSpec.ofChange keeperStopsSpec)

/-- ITS FALSE NEIGHBOUR: 'it returns false'. Refute it at one input. -/
def keeperStopsWrong : ChangeSpec := { name := "keeperStops", fn := fun _ => fun
  | [d1, d2, d3, d4, d5] => { results := [.lit (.bool false)], args := [d1, d2, d3, d4, d5] }
  | _ => none }
def KeeperStopsWrongFalsely : Prop := keeperStopsRow.holds Tryz.pinned (OpenSpec.ofChange keeperStopsWrong)

/-- 'nightwatchlaw3.KeeperCuts': WHATEVER THE INPUT: true; the input reads as it did. -/
def keeperCutsSpec : ChangeSpec := { name := "keeperCuts", fn := fun _ => fun
  | [d1, d2] => { results := [.lit (.bool true)], args := [d1, d2] }
  | _ => none }
def keeperCutsRow : OpenClaim := { program := "ytdpdbfhbojgigacgreatdoor", sum := "e49a88b10119c5546b23797ff493ae480051c34f8d3c3f02dc8c5e04f7d5257f", func := "nightwatch/nightwatchlaw3.KeeperCuts", spec := "keeperCuts", unfollowed := true, recurses := true, named := ["nightwatch/api.ErrBound", "nightwatch/api.ErrShape", "nightwatch/api.ErrName", "nightwatch/api.ErrExist", "nightwatch/api.ErrNone", "nightwatch/api.ErrOff", "nightwatch/api.ErrIdle", "nightwatch/api.ErrReset", "nightwatch/api.ErrFull", "nightwatch/api.ErrHeld"], plainKeys := false, apart := false, laid := [("nightwatch/api.ErrBound", laid_nightwatch_api_ErrBound), ("nightwatch/api.ErrShape", laid_nightwatch_api_ErrShape), ("nightwatch/api.ErrName", laid_nightwatch_api_ErrName), ("nightwatch/api.ErrNone", laid_nightwatch_api_ErrNone), ("nightwatch/api.ErrExist", laid_nightwatch_api_ErrExist), ("nightwatch/api.ErrFull", laid_nightwatch_api_ErrFull), ("nightwatch/api.ErrOff", laid_nightwatch_api_ErrOff), ("nightwatch/api.ErrIdle", laid_nightwatch_api_ErrIdle), ("nightwatch/api.ErrHeld", laid_nightwatch_api_ErrHeld), ("nightwatch/api.ErrReset", laid_nightwatch_api_ErrReset)] }
def KeeperCutsSaid : Prop := keeperCutsRow.holds Tryz.pinned (OpenSpec.ofChange keeperCutsSpec)

/-- ITS FALSE NEIGHBOUR: 'it returns false'. Refute it at one input. -/
def keeperCutsWrong : ChangeSpec := { name := "keeperCuts", fn := fun _ => fun
  | [d1, d2] => { results := [.lit (.bool false)], args := [d1, d2] }
  | _ => none }
def KeeperCutsWrongFalsely : Prop := keeperCutsRow.holds Tryz.pinned (OpenSpec.ofChange keeperCutsWrong)

/-- 'nightwatchlaw3.KeeperKicks': WHATEVER THE INPUT: true; the input reads as it did. -/
def keeperKicksSpec : ChangeSpec := { name := "keeperKicks", fn := fun _ => fun
  | [d1, d2] => { results := [.lit (.bool true)], args := [d1, d2] }
  | _ => none }
def keeperKicksRow : OpenClaim := { program := "ytdpdbfhbojgigacgreatdoor", sum := "e49a88b10119c5546b23797ff493ae480051c34f8d3c3f02dc8c5e04f7d5257f", func := "nightwatch/nightwatchlaw3.KeeperKicks", spec := "keeperKicks", inPlace := ["internal/reflectlite.ValueOf", "(internal/reflectlite.Value).Type", "(internal/reflectlite.Value).IsNil", "internal/reflectlite.TypeOf", "(internal/reflectlite.Value).Elem", "(internal/reflectlite.Value).Set"], unfollowed := true, recurses := true, named := ["nightwatch/api.ErrBound", "nightwatch/api.ErrShape", "nightwatch/api.ErrName", "nightwatch/api.ErrExist", "nightwatch/api.ErrNone", "nightwatch/api.ErrOff", "nightwatch/api.ErrIdle", "nightwatch/api.ErrReset", "nightwatch/api.ErrFull", "nightwatch/api.ErrHeld", "nightwatch/api.ErrText", "errors.errorType"], plainKeys := false, apart := false, laid := [("errors.errorType", laid_errors_errorType), ("nightwatch/api.ErrText", laid_nightwatch_api_ErrText), ("nightwatch/api.ErrBound", laid_nightwatch_api_ErrBound), ("nightwatch/api.ErrShape", laid_nightwatch_api_ErrShape), ("nightwatch/api.ErrName", laid_nightwatch_api_ErrName), ("nightwatch/api.ErrNone", laid_nightwatch_api_ErrNone), ("nightwatch/api.ErrExist", laid_nightwatch_api_ErrExist), ("nightwatch/api.ErrFull", laid_nightwatch_api_ErrFull), ("nightwatch/api.ErrOff", laid_nightwatch_api_ErrOff), ("nightwatch/api.ErrIdle", laid_nightwatch_api_ErrIdle), ("nightwatch/api.ErrHeld", laid_nightwatch_api_ErrHeld), ("nightwatch/api.ErrReset", laid_nightwatch_api_ErrReset)] }
def KeeperKicksSaid : Prop := keeperKicksRow.holds Tryz.pinned (OpenSpec.ofChange keeperKicksSpec)

/-- ITS FALSE NEIGHBOUR: 'it returns false'. Refute it at one input. -/
def keeperKicksWrong : ChangeSpec := { name := "keeperKicks", fn := fun _ => fun
  | [d1, d2] => { results := [.lit (.bool false)], args := [d1, d2] }
  | _ => none }
def KeeperKicksWrongFalsely : Prop := keeperKicksRow.holds Tryz.pinned (OpenSpec.ofChange keeperKicksWrong)

/-- 'nightwatchlaw3.KeeperActs': WHATEVER THE INPUT: true; the input reads as it did. -/
def keeperActsSpec : ChangeSpec := { name := "keeperActs", fn := fun _ => fun
  | [d1, d2, d3] => { results := [.lit (.bool true)], args := [d1, d2, d3] }
  | _ => none }
def keeperActsRow : OpenClaim := { program := "ytdpdbfhbojgigacgreatdoor", sum := "e49a88b10119c5546b23797ff493ae480051c34f8d3c3f02dc8c5e04f7d5257f", func := "nightwatch/nightwatchlaw3.KeeperActs", spec := "keeperActs", inPlace := ["internal/reflectlite.ValueOf", "(internal/reflectlite.Value).Type", "(internal/reflectlite.Value).IsNil", "internal/reflectlite.TypeOf", "(internal/reflectlite.Value).Elem", "(internal/reflectlite.Value).Set"], unfollowed := true, recurses := true, named := ["nightwatch/api.ErrBound", "nightwatch/api.ErrShape", "nightwatch/api.ErrName", "nightwatch/api.ErrExist", "nightwatch/api.ErrNone", "nightwatch/api.ErrOff", "nightwatch/api.ErrIdle", "nightwatch/api.ErrReset", "nightwatch/api.ErrFull", "nightwatch/api.ErrText", "nightwatch/api.ErrHeld", "errors.errorType"], plainKeys := false, apart := false, laid := [("errors.errorType", laid_errors_errorType), ("nightwatch/api.ErrText", laid_nightwatch_api_ErrText), ("nightwatch/api.ErrBound", laid_nightwatch_api_ErrBound), ("nightwatch/api.ErrShape", laid_nightwatch_api_ErrShape), ("nightwatch/api.ErrName", laid_nightwatch_api_ErrName), ("nightwatch/api.ErrNone", laid_nightwatch_api_ErrNone), ("nightwatch/api.ErrExist", laid_nightwatch_api_ErrExist), ("nightwatch/api.ErrFull", laid_nightwatch_api_ErrFull), ("nightwatch/api.ErrOff", laid_nightwatch_api_ErrOff), ("nightwatch/api.ErrIdle", laid_nightwatch_api_ErrIdle), ("nightwatch/api.ErrHeld", laid_nightwatch_api_ErrHeld), ("nightwatch/api.ErrReset", laid_nightwatch_api_ErrReset)] }
def KeeperActsSaid : Prop := keeperActsRow.holds Tryz.pinned (OpenSpec.ofChange keeperActsSpec)

/-- ITS FALSE NEIGHBOUR: 'it returns false'. Refute it at one input. -/
def keeperActsWrong : ChangeSpec := { name := "keeperActs", fn := fun _ => fun
  | [d1, d2, d3] => { results := [.lit (.bool false)], args := [d1, d2, d3] }
  | _ => none }
def KeeperActsWrongFalsely : Prop := keeperActsRow.holds Tryz.pinned (OpenSpec.ofChange keeperActsWrong)

/-- 'nightwatchlaw3.PlayAgain': WHATEVER THE INPUT: true; the input reads as it did. -/
def playAgainSpec : ChangeSpec := { name := "playAgain", fn := fun _ => fun
  | [d1, d2, d3] => { results := [.lit (.bool true)], args := [d1, d2, d3] }
  | _ => none }
def playAgainRow : OpenClaim := { program := "ytdpdbfhbojgigacgreatdoor", sum := "e49a88b10119c5546b23797ff493ae480051c34f8d3c3f02dc8c5e04f7d5257f", func := "nightwatch/nightwatchlaw3.PlayAgain", spec := "playAgain", inPlace := ["internal/reflectlite.ValueOf", "(internal/reflectlite.Value).Type", "(internal/reflectlite.Value).IsNil", "internal/reflectlite.TypeOf", "(internal/reflectlite.Value).Elem", "(internal/reflectlite.Value).Set"], unfollowed := true, recurses := true, named := ["nightwatch/api.ErrBound", "nightwatch/api.ErrShape", "nightwatch/api.ErrName", "nightwatch/api.ErrExist", "nightwatch/api.ErrNone", "nightwatch/api.ErrOff", "nightwatch/api.ErrIdle", "nightwatch/api.ErrReset", "nightwatch/api.ErrFull", "nightwatch/api.ErrHeld", "nightwatch/api.ErrText", "errors.errorType"], plainKeys := false, apart := false, laid := [("errors.errorType", laid_errors_errorType), ("nightwatch/api.ErrText", laid_nightwatch_api_ErrText), ("nightwatch/api.ErrBound", laid_nightwatch_api_ErrBound), ("nightwatch/api.ErrShape", laid_nightwatch_api_ErrShape), ("nightwatch/api.ErrName", laid_nightwatch_api_ErrName), ("nightwatch/api.ErrNone", laid_nightwatch_api_ErrNone), ("nightwatch/api.ErrExist", laid_nightwatch_api_ErrExist), ("nightwatch/api.ErrFull", laid_nightwatch_api_ErrFull), ("nightwatch/api.ErrOff", laid_nightwatch_api_ErrOff), ("nightwatch/api.ErrIdle", laid_nightwatch_api_ErrIdle), ("nightwatch/api.ErrHeld", laid_nightwatch_api_ErrHeld), ("nightwatch/api.ErrReset", laid_nightwatch_api_ErrReset)] }
def PlayAgainSaid : Prop := playAgainRow.holds Tryz.pinned (OpenSpec.ofChange playAgainSpec)

/-- ITS FALSE NEIGHBOUR: 'it returns false'. Refute it at one input. -/
def playAgainWrong : ChangeSpec := { name := "playAgain", fn := fun _ => fun
  | [d1, d2, d3] => { results := [.lit (.bool false)], args := [d1, d2, d3] }
  | _ => none }
def PlayAgainWrongFalsely : Prop := playAgainRow.holds Tryz.pinned (OpenSpec.ofChange playAgainWrong)

/-- 'nightwatchlaw3.PlayRuns': WHATEVER THE INPUT: true; the input reads as it did. -/
def playRunsSpec : ChangeSpec := { name := "playRuns", fn := fun _ => fun
  | [d1, d2] => { results := [.lit (.bool true)], args := [d1, d2] }
  | _ => none }
def playRunsRow : OpenClaim := { program := "ytdpdbfhbojgigacgreatdoor", sum := "e49a88b10119c5546b23797ff493ae480051c34f8d3c3f02dc8c5e04f7d5257f", func := "nightwatch/nightwatchlaw3.PlayRuns", spec := "playRuns", inPlace := ["internal/reflectlite.ValueOf", "(internal/reflectlite.Value).Type", "(internal/reflectlite.Value).IsNil", "internal/reflectlite.TypeOf", "(internal/reflectlite.Value).Elem", "(internal/reflectlite.Value).Set"], unfollowed := true, recurses := true, named := ["nightwatch/api.ErrBound", "nightwatch/api.ErrShape", "nightwatch/api.ErrName", "nightwatch/api.ErrExist", "nightwatch/api.ErrNone", "nightwatch/api.ErrOff", "nightwatch/api.ErrIdle", "nightwatch/api.ErrReset", "nightwatch/api.ErrFull", "nightwatch/api.ErrHeld", "nightwatch/api.ErrText", "errors.errorType"], plainKeys := false, apart := false, laid := [("errors.errorType", laid_errors_errorType), ("nightwatch/api.ErrText", laid_nightwatch_api_ErrText), ("nightwatch/api.ErrBound", laid_nightwatch_api_ErrBound), ("nightwatch/api.ErrShape", laid_nightwatch_api_ErrShape), ("nightwatch/api.ErrName", laid_nightwatch_api_ErrName), ("nightwatch/api.ErrNone", laid_nightwatch_api_ErrNone), ("nightwatch/api.ErrExist", laid_nightwatch_api_ErrExist), ("nightwatch/api.ErrFull", laid_nightwatch_api_ErrFull), ("nightwatch/api.ErrOff", laid_nightwatch_api_ErrOff), ("nightwatch/api.ErrIdle", laid_nightwatch_api_ErrIdle), ("nightwatch/api.ErrHeld", laid_nightwatch_api_ErrHeld), ("nightwatch/api.ErrReset", laid_nightwatch_api_ErrReset)] }
def PlayRunsSaid : Prop := playRunsRow.holds Tryz.pinned (OpenSpec.ofChange playRunsSpec)

/-- ITS FALSE NEIGHBOUR: 'it returns false'. Refute it at one input. -/
def playRunsWrong : ChangeSpec := { name := "playRuns", fn := fun _ => fun
  | [d1, d2] => { results := [.lit (.bool false)], args := [d1, d2] }
  | _ => none }
def PlayRunsWrongFalsely : Prop := playRunsRow.holds Tryz.pinned (OpenSpec.ofChange playRunsWrong)

/- THE SECOND FORM. 'bulk': how many values and letters a reading holds, each counted each time it is reached (what is shared counts as often as it is met; a slice's spare places count too). A statement '..UptoSaid' is the law's where the arguments, and the package variables that the reading takes, are together of bulk at most 1048576: NARROWER than '..Said'. Prove '..Said' where nothing that the law and all that it calls make is longer than what came in: it says more and counts as full. Else prove '..UptoSaid'. A law counts once. -/
mutual
def uptoBulk {H : Type} : DataW H → Nat
  | .lit (.string bytes) => bytes.length + 1
  | .lit _ => 1
  | .nil => 1
  | .ptr d => uptoBulk d + 1
  | .slice elems spare => uptoBulkAll elems + uptoBulkAll spare + 1
  | .agg parts => uptoBulkAll parts + 1
  | .iface _ d => uptoBulk d + 1
  | .map entries => uptoBulkEntries entries + 1
  | .held _ => 1
def uptoBulkAll {H : Type} : List (DataW H) → Nat
  | [] => 0
  | d :: r => uptoBulk d + uptoBulkAll r
def uptoBulkEntries {H : Type} : List (Lit × DataW H) → Nat
  | [] => 0
  | x :: r => uptoBulkEntry x + uptoBulkEntries r
def uptoBulkEntry {H : Type} : Lit × DataW H → Nat
  | (.string bytes, d) => bytes.length + uptoBulk d + 1
  | (_, d) => uptoBulk d + 1
 end
def uptoSmall : (H : Type) → List (DataW H) → Bool := fun _ ds => decide (uptoBulkAll ds ≤ 1048576)
def OpenSpec.upto (s : _root_.Go.ChangeSpec) : _root_.Go.OpenSpec := { _root_.Go.OpenSpec.ofChange s with cond := some uptoSmall }

/-- 'nightwatchlaw3.KeeperQuiet', WHERE WHAT IT READS IS OF BULK AT MOST 1048576: true; the input reads as it did. -/
def keeperQuietUptoRow : OpenClaim := { program := "ytdpdbfhbojgigacgreatdoor", sum := "e49a88b10119c5546b23797ff493ae480051c34f8d3c3f02dc8c5e04f7d5257f", func := "nightwatch/nightwatchlaw3.KeeperQuiet", spec := "keeperQuiet", unfollowed := true, recurses := true, named := ["nightwatch/api.ErrBound", "nightwatch/api.ErrShape", "nightwatch/api.ErrName", "nightwatch/api.ErrExist", "nightwatch/api.ErrNone", "nightwatch/api.ErrOff", "nightwatch/api.ErrIdle", "nightwatch/api.ErrReset", "nightwatch/api.ErrFull", "nightwatch/api.ErrHeld"], plainKeys := false, apart := false, laid := [("nightwatch/api.ErrBound", laid_nightwatch_api_ErrBound), ("nightwatch/api.ErrShape", laid_nightwatch_api_ErrShape), ("nightwatch/api.ErrName", laid_nightwatch_api_ErrName), ("nightwatch/api.ErrNone", laid_nightwatch_api_ErrNone), ("nightwatch/api.ErrExist", laid_nightwatch_api_ErrExist), ("nightwatch/api.ErrFull", laid_nightwatch_api_ErrFull), ("nightwatch/api.ErrOff", laid_nightwatch_api_ErrOff), ("nightwatch/api.ErrIdle", laid_nightwatch_api_ErrIdle), ("nightwatch/api.ErrHeld", laid_nightwatch_api_ErrHeld), ("nightwatch/api.ErrReset", laid_nightwatch_api_ErrReset)], narrowed := true }
def KeeperQuietUptoSaid : Prop := keeperQuietUptoRow.holds Tryz.pinned (OpenSpec.upto keeperQuietSpec)

/-- 'nightwatchlaw3.KeeperStops', WHERE WHAT IT READS IS OF BULK AT MOST 1048576: true; the input reads as it did. -/
def keeperStopsUptoRow : OpenClaim := { program := "ytdpdbfhbojgigacgreatdoor", sum := "e49a88b10119c5546b23797ff493ae480051c34f8d3c3f02dc8c5e04f7d5257f", func := "nightwatch/nightwatchlaw3.KeeperStops", spec := "keeperStops", inPlace := ["internal/reflectlite.ValueOf", "(internal/reflectlite.Value).Type", "(internal/reflectlite.Value).IsNil", "internal/reflectlite.TypeOf", "(internal/reflectlite.Value).Elem", "(internal/reflectlite.Value).Set"], unfollowed := true, recurses := true, named := ["nightwatch/api.ErrBound", "nightwatch/api.ErrShape", "nightwatch/api.ErrName", "nightwatch/api.ErrExist", "nightwatch/api.ErrNone", "nightwatch/api.ErrOff", "nightwatch/api.ErrIdle", "nightwatch/api.ErrReset", "nightwatch/api.ErrFull", "nightwatch/api.ErrHeld", "nightwatch/api.ErrText", "errors.errorType"], plainKeys := false, apart := false, laid := [("errors.errorType", laid_errors_errorType), ("nightwatch/api.ErrText", laid_nightwatch_api_ErrText), ("nightwatch/api.ErrBound", laid_nightwatch_api_ErrBound), ("nightwatch/api.ErrShape", laid_nightwatch_api_ErrShape), ("nightwatch/api.ErrName", laid_nightwatch_api_ErrName), ("nightwatch/api.ErrNone", laid_nightwatch_api_ErrNone), ("nightwatch/api.ErrExist", laid_nightwatch_api_ErrExist), ("nightwatch/api.ErrFull", laid_nightwatch_api_ErrFull), ("nightwatch/api.ErrOff", laid_nightwatch_api_ErrOff), ("nightwatch/api.ErrIdle", laid_nightwatch_api_ErrIdle), ("nightwatch/api.ErrHeld", laid_nightwatch_api_ErrHeld), ("nightwatch/api.ErrReset", laid_nightwatch_api_ErrReset)], narrowed := true }
def KeeperStopsUptoSaid : Prop := keeperStopsUptoRow.holds Tryz.pinned (OpenSpec.upto keeperStopsSpec)

/-- 'nightwatchlaw3.KeeperCuts', WHERE WHAT IT READS IS OF BULK AT MOST 1048576: true; the input reads as it did. -/
def keeperCutsUptoRow : OpenClaim := { program := "ytdpdbfhbojgigacgreatdoor", sum := "e49a88b10119c5546b23797ff493ae480051c34f8d3c3f02dc8c5e04f7d5257f", func := "nightwatch/nightwatchlaw3.KeeperCuts", spec := "keeperCuts", unfollowed := true, recurses := true, named := ["nightwatch/api.ErrBound", "nightwatch/api.ErrShape", "nightwatch/api.ErrName", "nightwatch/api.ErrExist", "nightwatch/api.ErrNone", "nightwatch/api.ErrOff", "nightwatch/api.ErrIdle", "nightwatch/api.ErrReset", "nightwatch/api.ErrFull", "nightwatch/api.ErrHeld"], plainKeys := false, apart := false, laid := [("nightwatch/api.ErrBound", laid_nightwatch_api_ErrBound), ("nightwatch/api.ErrShape", laid_nightwatch_api_ErrShape), ("nightwatch/api.ErrName", laid_nightwatch_api_ErrName), ("nightwatch/api.ErrNone", laid_nightwatch_api_ErrNone), ("nightwatch/api.ErrExist", laid_nightwatch_api_ErrExist), ("nightwatch/api.ErrFull", laid_nightwatch_api_ErrFull), ("nightwatch/api.ErrOff", laid_nightwatch_api_ErrOff), ("nightwatch/api.ErrIdle", laid_nightwatch_api_ErrIdle), ("nightwatch/api.ErrHeld", laid_nightwatch_api_ErrHeld), ("nightwatch/api.ErrReset", laid_nightwatch_api_ErrReset)], narrowed := true }
def KeeperCutsUptoSaid : Prop := keeperCutsUptoRow.holds Tryz.pinned (OpenSpec.upto keeperCutsSpec)

/-- 'nightwatchlaw3.KeeperKicks', WHERE WHAT IT READS IS OF BULK AT MOST 1048576: true; the input reads as it did. -/
def keeperKicksUptoRow : OpenClaim := { program := "ytdpdbfhbojgigacgreatdoor", sum := "e49a88b10119c5546b23797ff493ae480051c34f8d3c3f02dc8c5e04f7d5257f", func := "nightwatch/nightwatchlaw3.KeeperKicks", spec := "keeperKicks", inPlace := ["internal/reflectlite.ValueOf", "(internal/reflectlite.Value).Type", "(internal/reflectlite.Value).IsNil", "internal/reflectlite.TypeOf", "(internal/reflectlite.Value).Elem", "(internal/reflectlite.Value).Set"], unfollowed := true, recurses := true, named := ["nightwatch/api.ErrBound", "nightwatch/api.ErrShape", "nightwatch/api.ErrName", "nightwatch/api.ErrExist", "nightwatch/api.ErrNone", "nightwatch/api.ErrOff", "nightwatch/api.ErrIdle", "nightwatch/api.ErrReset", "nightwatch/api.ErrFull", "nightwatch/api.ErrHeld", "nightwatch/api.ErrText", "errors.errorType"], plainKeys := false, apart := false, laid := [("errors.errorType", laid_errors_errorType), ("nightwatch/api.ErrText", laid_nightwatch_api_ErrText), ("nightwatch/api.ErrBound", laid_nightwatch_api_ErrBound), ("nightwatch/api.ErrShape", laid_nightwatch_api_ErrShape), ("nightwatch/api.ErrName", laid_nightwatch_api_ErrName), ("nightwatch/api.ErrNone", laid_nightwatch_api_ErrNone), ("nightwatch/api.ErrExist", laid_nightwatch_api_ErrExist), ("nightwatch/api.ErrFull", laid_nightwatch_api_ErrFull), ("nightwatch/api.ErrOff", laid_nightwatch_api_ErrOff), ("nightwatch/api.ErrIdle", laid_nightwatch_api_ErrIdle), ("nightwatch/api.ErrHeld", laid_nightwatch_api_ErrHeld), ("nightwatch/api.ErrReset", laid_nightwatch_api_ErrReset)], narrowed := true }
def KeeperKicksUptoSaid : Prop := keeperKicksUptoRow.holds Tryz.pinned (OpenSpec.upto keeperKicksSpec)

/-- 'nightwatchlaw3.KeeperActs', WHERE WHAT IT READS IS OF BULK AT MOST 1048576: true; the input reads as it did. -/
def keeperActsUptoRow : OpenClaim := { program := "ytdpdbfhbojgigacgreatdoor", sum := "e49a88b10119c5546b23797ff493ae480051c34f8d3c3f02dc8c5e04f7d5257f", func := "nightwatch/nightwatchlaw3.KeeperActs", spec := "keeperActs", inPlace := ["internal/reflectlite.ValueOf", "(internal/reflectlite.Value).Type", "(internal/reflectlite.Value).IsNil", "internal/reflectlite.TypeOf", "(internal/reflectlite.Value).Elem", "(internal/reflectlite.Value).Set"], unfollowed := true, recurses := true, named := ["nightwatch/api.ErrBound", "nightwatch/api.ErrShape", "nightwatch/api.ErrName", "nightwatch/api.ErrExist", "nightwatch/api.ErrNone", "nightwatch/api.ErrOff", "nightwatch/api.ErrIdle", "nightwatch/api.ErrReset", "nightwatch/api.ErrFull", "nightwatch/api.ErrText", "nightwatch/api.ErrHeld", "errors.errorType"], plainKeys := false, apart := false, laid := [("errors.errorType", laid_errors_errorType), ("nightwatch/api.ErrText", laid_nightwatch_api_ErrText), ("nightwatch/api.ErrBound", laid_nightwatch_api_ErrBound), ("nightwatch/api.ErrShape", laid_nightwatch_api_ErrShape), ("nightwatch/api.ErrName", laid_nightwatch_api_ErrName), ("nightwatch/api.ErrNone", laid_nightwatch_api_ErrNone), ("nightwatch/api.ErrExist", laid_nightwatch_api_ErrExist), ("nightwatch/api.ErrFull", laid_nightwatch_api_ErrFull), ("nightwatch/api.ErrOff", laid_nightwatch_api_ErrOff), ("nightwatch/api.ErrIdle", laid_nightwatch_api_ErrIdle), ("nightwatch/api.ErrHeld", laid_nightwatch_api_ErrHeld), ("nightwatch/api.ErrReset", laid_nightwatch_api_ErrReset)], narrowed := true }
def KeeperActsUptoSaid : Prop := keeperActsUptoRow.holds Tryz.pinned (OpenSpec.upto keeperActsSpec)

/-- 'nightwatchlaw3.PlayAgain', WHERE WHAT IT READS IS OF BULK AT MOST 1048576: true; the input reads as it did. -/
def playAgainUptoRow : OpenClaim := { program := "ytdpdbfhbojgigacgreatdoor", sum := "e49a88b10119c5546b23797ff493ae480051c34f8d3c3f02dc8c5e04f7d5257f", func := "nightwatch/nightwatchlaw3.PlayAgain", spec := "playAgain", inPlace := ["internal/reflectlite.ValueOf", "(internal/reflectlite.Value).Type", "(internal/reflectlite.Value).IsNil", "internal/reflectlite.TypeOf", "(internal/reflectlite.Value).Elem", "(internal/reflectlite.Value).Set"], unfollowed := true, recurses := true, named := ["nightwatch/api.ErrBound", "nightwatch/api.ErrShape", "nightwatch/api.ErrName", "nightwatch/api.ErrExist", "nightwatch/api.ErrNone", "nightwatch/api.ErrOff", "nightwatch/api.ErrIdle", "nightwatch/api.ErrReset", "nightwatch/api.ErrFull", "nightwatch/api.ErrHeld", "nightwatch/api.ErrText", "errors.errorType"], plainKeys := false, apart := false, laid := [("errors.errorType", laid_errors_errorType), ("nightwatch/api.ErrText", laid_nightwatch_api_ErrText), ("nightwatch/api.ErrBound", laid_nightwatch_api_ErrBound), ("nightwatch/api.ErrShape", laid_nightwatch_api_ErrShape), ("nightwatch/api.ErrName", laid_nightwatch_api_ErrName), ("nightwatch/api.ErrNone", laid_nightwatch_api_ErrNone), ("nightwatch/api.ErrExist", laid_nightwatch_api_ErrExist), ("nightwatch/api.ErrFull", laid_nightwatch_api_ErrFull), ("nightwatch/api.ErrOff", laid_nightwatch_api_ErrOff), ("nightwatch/api.ErrIdle", laid_nightwatch_api_ErrIdle), ("nightwatch/api.ErrHeld", laid_nightwatch_api_ErrHeld), ("nightwatch/api.ErrReset", laid_nightwatch_api_ErrReset)], narrowed := true }
def PlayAgainUptoSaid : Prop := playAgainUptoRow.holds Tryz.pinned (OpenSpec.upto playAgainSpec)

/-- 'nightwatchlaw3.PlayRuns', WHERE WHAT IT READS IS OF BULK AT MOST 1048576: true; the input reads as it did. -/
def playRunsUptoRow : OpenClaim := { program := "ytdpdbfhbojgigacgreatdoor", sum := "e49a88b10119c5546b23797ff493ae480051c34f8d3c3f02dc8c5e04f7d5257f", func := "nightwatch/nightwatchlaw3.PlayRuns", spec := "playRuns", inPlace := ["internal/reflectlite.ValueOf", "(internal/reflectlite.Value).Type", "(internal/reflectlite.Value).IsNil", "internal/reflectlite.TypeOf", "(internal/reflectlite.Value).Elem", "(internal/reflectlite.Value).Set"], unfollowed := true, recurses := true, named := ["nightwatch/api.ErrBound", "nightwatch/api.ErrShape", "nightwatch/api.ErrName", "nightwatch/api.ErrExist", "nightwatch/api.ErrNone", "nightwatch/api.ErrOff", "nightwatch/api.ErrIdle", "nightwatch/api.ErrReset", "nightwatch/api.ErrFull", "nightwatch/api.ErrHeld", "nightwatch/api.ErrText", "errors.errorType"], plainKeys := false, apart := false, laid := [("errors.errorType", laid_errors_errorType), ("nightwatch/api.ErrText", laid_nightwatch_api_ErrText), ("nightwatch/api.ErrBound", laid_nightwatch_api_ErrBound), ("nightwatch/api.ErrShape", laid_nightwatch_api_ErrShape), ("nightwatch/api.ErrName", laid_nightwatch_api_ErrName), ("nightwatch/api.ErrNone", laid_nightwatch_api_ErrNone), ("nightwatch/api.ErrExist", laid_nightwatch_api_ErrExist), ("nightwatch/api.ErrFull", laid_nightwatch_api_ErrFull), ("nightwatch/api.ErrOff", laid_nightwatch_api_ErrOff), ("nightwatch/api.ErrIdle", laid_nightwatch_api_ErrIdle), ("nightwatch/api.ErrHeld", laid_nightwatch_api_ErrHeld), ("nightwatch/api.ErrReset", laid_nightwatch_api_ErrReset)], narrowed := true }
def PlayRunsUptoSaid : Prop := playRunsUptoRow.holds Tryz.pinned (OpenSpec.upto playRunsSpec)

end Rows
end Go.Proofs.YtdpdbfhbojgigacGreatDoor
