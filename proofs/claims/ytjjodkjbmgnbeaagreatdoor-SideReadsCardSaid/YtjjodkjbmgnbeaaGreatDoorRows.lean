/-
  NARROWER THAN 'FOR EVERY INPUT', by the rows' own cells (each row's printed sentence says how): SideReads: laid.
  DERIVED. THE GIVEN ROWS OF THIS SEAT. 1 by the template 'for every input the law returns true; each argument reads behind the call as it read before'; 0 by the template 'total and deterministic' (their statements: YtjjodkjbmgnbeaaGreatDoorTotals.lean).
  GIVEN WITH THE SEED: the statements are not yours to turn. If you find one false, say at which input.
  Laid BY PROGRAM, IN A SANDBOX (cutbox-rows.mjs): the forced cells as the released guide's own fill.sh prints them over the translation 39b6b9201ea93206… (all of the seat's roots in one cut). By AI agents, Wed Nov 11 2026. No macro, syntax, notation, axiom, sorry.
-/
import Derived.Test.YtjjodkjbmgnbeaaGreatDoorChecked
import GoSem.PinnedTables
import GoSem.Claim
import GoSem.ClaimJoined
import GoSem.ClaimMapViews
import Derived.JoinedTies
import Derived.KernelRfl
namespace Go.Proofs.YtjjodkjbmgnbeaaGreatDoor
/- THE CELL 'sum', in the pinned program and in every row, IS THE sha256 OF THE DUMP (.gsa) THAT YtjjodkjbmgnbeaaGreatDoorProg.lean LOADS. Nothing in Lean hashes anything: it is a label: what it is worth is what the hold of that sum in a sandbox is worth. -/
noncomputable def Tryz.pinned : Pinned := { name := "ytjjodkjbmgnbeaagreatdoor", sum := "39b6b9201ea93206e13b9ad2ff6b544f6cd0d0642fe1e8196513ba1367236d3e", checked := Tryz.checked }
namespace Rows
def none {H : Type} : Left H := { results := [], args := [] }

/- WHAT THE LISTED PACKAGE-LEVEL VARIABLES READ AS WHEN THE CALL BEGINS. Each datum BY PROGRAM (the guide's laid-datum.mjs) off the statement by which the dump's own 'gosem.cut.vars' lays the variable. In a bare row this is a premise. The card (YtjjodkjbmgnbeaaGreatDoorCards.lean) ties it to the program's text. -/
def laid_unicode_utf8_acceptRanges {H : Type} : DataW H := .agg [.agg [.lit (.int .u8 128), .lit (.int .u8 191)], .agg [.lit (.int .u8 160), .lit (.int .u8 191)], .agg [.lit (.int .u8 128), .lit (.int .u8 159)], .agg [.lit (.int .u8 144), .lit (.int .u8 191)], .agg [.lit (.int .u8 128), .lit (.int .u8 143)], .agg [.lit (.int .u8 0), .lit (.int .u8 0)], .agg [.lit (.int .u8 0), .lit (.int .u8 0)], .agg [.lit (.int .u8 0), .lit (.int .u8 0)], .agg [.lit (.int .u8 0), .lit (.int .u8 0)], .agg [.lit (.int .u8 0), .lit (.int .u8 0)], .agg [.lit (.int .u8 0), .lit (.int .u8 0)], .agg [.lit (.int .u8 0), .lit (.int .u8 0)], .agg [.lit (.int .u8 0), .lit (.int .u8 0)], .agg [.lit (.int .u8 0), .lit (.int .u8 0)], .agg [.lit (.int .u8 0), .lit (.int .u8 0)], .agg [.lit (.int .u8 0), .lit (.int .u8 0)]]
def laid_errors_errorType {H : Type} : DataW H := .iface "internal/reflectlite.rtype" (.agg [.ptr (.lit (.string [101, 114, 114, 111, 114]))])
def laid_nightwatch_api_ErrText {H : Type} : DataW H := .iface "*errors.errorString" (.ptr (.agg [.lit (.string [110, 105, 103, 104, 116, 119, 97, 116, 99, 104, 58, 32, 116, 101, 120, 116])]))
def laid_nightwatch_api_ErrBound {H : Type} : DataW H := .iface "*errors.errorString" (.ptr (.agg [.lit (.string [110, 105, 103, 104, 116, 119, 97, 116, 99, 104, 58, 32, 98, 111, 117, 110, 100])]))
def laid_nightwatch_api_ErrShape {H : Type} : DataW H := .iface "*errors.errorString" (.ptr (.agg [.lit (.string [110, 105, 103, 104, 116, 119, 97, 116, 99, 104, 58, 32, 115, 104, 97, 112, 101])]))
def laid_nightwatch_api_ErrName {H : Type} : DataW H := .iface "*errors.errorString" (.ptr (.agg [.lit (.string [110, 105, 103, 104, 116, 119, 97, 116, 99, 104, 58, 32, 110, 97, 109, 101])]))
def laid_nightwatch_api_ErrNone {H : Type} : DataW H := .iface "*errors.errorString" (.ptr (.agg [.lit (.string [110, 105, 103, 104, 116, 119, 97, 116, 99, 104, 58, 32, 110, 111, 110, 101])]))
def laid_nightwatch_api_ErrExist {H : Type} : DataW H := .iface "*errors.errorString" (.ptr (.agg [.lit (.string [110, 105, 103, 104, 116, 119, 97, 116, 99, 104, 58, 32, 101, 120, 105, 115, 116])]))
def laid_nightwatch_api_ErrFull {H : Type} : DataW H := .iface "*errors.errorString" (.ptr (.agg [.lit (.string [110, 105, 103, 104, 116, 119, 97, 116, 99, 104, 58, 32, 102, 117, 108, 108])]))
def laid_nightwatch_api_ErrOff {H : Type} : DataW H := .iface "*errors.errorString" (.ptr (.agg [.lit (.string [110, 105, 103, 104, 116, 119, 97, 116, 99, 104, 58, 32, 111, 102, 102])]))
def laid_nightwatch_api_ErrIdle {H : Type} : DataW H := .iface "*errors.errorString" (.ptr (.agg [.lit (.string [110, 105, 103, 104, 116, 119, 97, 116, 99, 104, 58, 32, 105, 100, 108, 101])]))
def laid_nightwatch_api_ErrHeld {H : Type} : DataW H := .iface "*errors.errorString" (.ptr (.agg [.lit (.string [110, 105, 103, 104, 116, 119, 97, 116, 99, 104, 58, 32, 104, 101, 108, 100])]))
def laid_nightwatch_api_ErrReset {H : Type} : DataW H := .iface "*errors.errorString" (.ptr (.agg [.lit (.string [110, 105, 103, 104, 116, 119, 97, 116, 99, 104, 58, 32, 114, 101, 115, 101, 116])]))
def laid_nightwatch_conf_keywords {H : Type} : DataW H := .agg [.lit (.string [119, 105, 110, 100, 111, 119]), .lit (.string [99, 121, 99, 108, 101]), .lit (.string [100, 101, 108, 97, 121]), .lit (.string [101, 110, 116, 105, 116, 121]), .lit (.string [112, 111, 105, 110, 116]), .lit (.string [99, 111, 117, 110, 116]), .lit (.string [103, 97, 112]), .lit (.string [101, 100, 103, 101]), .lit (.string [102, 105, 114, 115, 116]), .lit (.string [108, 97, 115, 116])]
/-- One of Go's own tables, pinned by name: the form's constant. -/
def laid_unicode_utf8_first : DataW Unit := Go.Pinned.utf8First

/-- 'nightwatchlaw3.SideReads': WHATEVER THE INPUT: true; the input reads as it did. -/
def sideReadsSpec : ChangeSpec := { name := "sideReads", fn := fun _ => fun
  | [d1, d2] => { results := [.lit (.bool true)], args := [d1, d2] }
  | _ => none }
def sideReadsRow : OpenClaim := { program := "ytjjodkjbmgnbeaagreatdoor", sum := "39b6b9201ea93206e13b9ad2ff6b544f6cd0d0642fe1e8196513ba1367236d3e", func := "nightwatch/nightwatchlaw3.SideReads", spec := "sideReads", inPlace := ["internal/bytealg.CountString", "internal/bytealg.IndexByteString", "internal/bytealg.IndexString", "(*sync.WaitGroup).Add", "internal/race.ReleaseMerge", "internal/race.Disable", "internal/race.Enable", "internal/synctest.IsInBubble", "internal/synctest.Associate[sync.WaitGroup]", "sync.fatal", "sync/atomic.OrUint64", "sync/atomic.AddUint64", "internal/race.Read", "sync/atomic.LoadUint64", "sync/atomic.StoreUint64", "internal/synctest.Disassociate[sync.WaitGroup]", "sync.runtime_Semrelease", "(*sync.WaitGroup).Done", "(*sync.WaitGroup).Wait", "internal/race.Acquire", "internal/synctest.IsAssociated[sync.WaitGroup]", "sync/atomic.CompareAndSwapUint64", "internal/race.Write", "sync.runtime_SemacquireWaitGroup", "internal/reflectlite.ValueOf", "(internal/reflectlite.Value).Type", "(internal/reflectlite.Value).IsNil", "internal/reflectlite.TypeOf", "(internal/reflectlite.Value).Elem", "(internal/reflectlite.Value).Set"], unfollowed := true, recurses := true, named := ["nightwatch/api.ErrShape", "nightwatch/api.ErrBound", "unicode/utf8.first", "unicode/utf8.acceptRanges", "internal/bytealg.MaxLen", "nightwatch/api.ErrText", "nightwatch/conf.keywords", "nightwatch/api.ErrNone", "nightwatch/api.ErrName", "nightwatch/api.ErrExist", "errors.errorType", "nightwatch/api.ErrFull", "nightwatch/api.ErrOff", "nightwatch/api.ErrIdle", "nightwatch/api.ErrHeld", "nightwatch/api.ErrReset"], leaving := true, apart := false, laid := [("unicode/utf8.acceptRanges", laid_unicode_utf8_acceptRanges), ("errors.errorType", laid_errors_errorType), ("nightwatch/api.ErrText", laid_nightwatch_api_ErrText), ("nightwatch/api.ErrBound", laid_nightwatch_api_ErrBound), ("nightwatch/api.ErrShape", laid_nightwatch_api_ErrShape), ("nightwatch/api.ErrName", laid_nightwatch_api_ErrName), ("nightwatch/api.ErrNone", laid_nightwatch_api_ErrNone), ("nightwatch/api.ErrExist", laid_nightwatch_api_ErrExist), ("nightwatch/api.ErrFull", laid_nightwatch_api_ErrFull), ("nightwatch/api.ErrOff", laid_nightwatch_api_ErrOff), ("nightwatch/api.ErrIdle", laid_nightwatch_api_ErrIdle), ("nightwatch/api.ErrHeld", laid_nightwatch_api_ErrHeld), ("nightwatch/api.ErrReset", laid_nightwatch_api_ErrReset), ("nightwatch/conf.keywords", laid_nightwatch_conf_keywords), ("unicode/utf8.first", laid_unicode_utf8_first)] }
def SideReadsSaid : Prop := sideReadsRow.holds Tryz.pinned (OpenSpec.ofChange sideReadsSpec)

/-- ITS FALSE NEIGHBOUR: 'it returns false'. Refute it at one input. -/
def sideReadsWrong : ChangeSpec := { name := "sideReads", fn := fun _ => fun
  | [d1, d2] => { results := [.lit (.bool false)], args := [d1, d2] }
  | _ => none }
def SideReadsWrongFalsely : Prop := sideReadsRow.holds Tryz.pinned (OpenSpec.ofChange sideReadsWrong)

/- THE SECOND FORM. 'bulk': how many values and letters a reading holds, each counted each time it is reached (what is shared counts as often as it is met; a slice's spare places count too). A statement '..UptoSaid' is the law's where the arguments, and the package variables that the reading takes, are together of bulk at most 1048576: NARROWER than '..Said'. Prove '..Said' where nothing that the law and all that it calls make is longer than what came in: it says more and counts as full. Else prove '..UptoSaid'. A law counts once. -/
mutual
def uptoBulk {H : Type} : DataW H → Nat
  | .lit (.string bytes) => bytes.length + 1
  | .lit _ => 1
  | .nil => 1
  | .ptr d => uptoBulk d + 1
  | .slice elems spare => uptoBulkAll elems + uptoBulkAll spare + 1
  | .agg parts => uptoBulkAll parts + 1
  | .iface _ d => uptoBulk d + 1
  | .map entries => uptoBulkEntries entries + 1
  | .held _ => 1
def uptoBulkAll {H : Type} : List (DataW H) → Nat
  | [] => 0
  | d :: r => uptoBulk d + uptoBulkAll r
def uptoBulkEntries {H : Type} : List (Lit × DataW H) → Nat
  | [] => 0
  | x :: r => uptoBulkEntry x + uptoBulkEntries r
def uptoBulkEntry {H : Type} : Lit × DataW H → Nat
  | (.string bytes, d) => bytes.length + uptoBulk d + 1
  | (_, d) => uptoBulk d + 1
 end
def uptoSmall : (H : Type) → List (DataW H) → Bool := fun _ ds => decide (uptoBulkAll ds ≤ 1048576)
def OpenSpec.upto (s : _root_.Go.ChangeSpec) : _root_.Go.OpenSpec := { _root_.Go.OpenSpec.ofChange s with cond := some uptoSmall }

/-- 'nightwatchlaw3.SideReads', WHERE WHAT IT READS IS OF BULK AT MOST 1048576: true; the input reads as it did. -/
def sideReadsUptoRow : OpenClaim := { program := "ytjjodkjbmgnbeaagreatdoor", sum := "39b6b9201ea93206e13b9ad2ff6b544f6cd0d0642fe1e8196513ba1367236d3e", func := "nightwatch/nightwatchlaw3.SideReads", spec := "sideReads", inPlace := ["internal/bytealg.CountString", "internal/bytealg.IndexByteString", "internal/bytealg.IndexString", "(*sync.WaitGroup).Add", "internal/race.ReleaseMerge", "internal/race.Disable", "internal/race.Enable", "internal/synctest.IsInBubble", "internal/synctest.Associate[sync.WaitGroup]", "sync.fatal", "sync/atomic.OrUint64", "sync/atomic.AddUint64", "internal/race.Read", "sync/atomic.LoadUint64", "sync/atomic.StoreUint64", "internal/synctest.Disassociate[sync.WaitGroup]", "sync.runtime_Semrelease", "(*sync.WaitGroup).Done", "(*sync.WaitGroup).Wait", "internal/race.Acquire", "internal/synctest.IsAssociated[sync.WaitGroup]", "sync/atomic.CompareAndSwapUint64", "internal/race.Write", "sync.runtime_SemacquireWaitGroup", "internal/reflectlite.ValueOf", "(internal/reflectlite.Value).Type", "(internal/reflectlite.Value).IsNil", "internal/reflectlite.TypeOf", "(internal/reflectlite.Value).Elem", "(internal/reflectlite.Value).Set"], unfollowed := true, recurses := true, named := ["nightwatch/api.ErrShape", "nightwatch/api.ErrBound", "unicode/utf8.first", "unicode/utf8.acceptRanges", "internal/bytealg.MaxLen", "nightwatch/api.ErrText", "nightwatch/conf.keywords", "nightwatch/api.ErrNone", "nightwatch/api.ErrName", "nightwatch/api.ErrExist", "errors.errorType", "nightwatch/api.ErrFull", "nightwatch/api.ErrOff", "nightwatch/api.ErrIdle", "nightwatch/api.ErrHeld", "nightwatch/api.ErrReset"], leaving := true, apart := false, laid := [("unicode/utf8.acceptRanges", laid_unicode_utf8_acceptRanges), ("errors.errorType", laid_errors_errorType), ("nightwatch/api.ErrText", laid_nightwatch_api_ErrText), ("nightwatch/api.ErrBound", laid_nightwatch_api_ErrBound), ("nightwatch/api.ErrShape", laid_nightwatch_api_ErrShape), ("nightwatch/api.ErrName", laid_nightwatch_api_ErrName), ("nightwatch/api.ErrNone", laid_nightwatch_api_ErrNone), ("nightwatch/api.ErrExist", laid_nightwatch_api_ErrExist), ("nightwatch/api.ErrFull", laid_nightwatch_api_ErrFull), ("nightwatch/api.ErrOff", laid_nightwatch_api_ErrOff), ("nightwatch/api.ErrIdle", laid_nightwatch_api_ErrIdle), ("nightwatch/api.ErrHeld", laid_nightwatch_api_ErrHeld), ("nightwatch/api.ErrReset", laid_nightwatch_api_ErrReset), ("nightwatch/conf.keywords", laid_nightwatch_conf_keywords), ("unicode/utf8.first", laid_unicode_utf8_first)], narrowed := true }
def SideReadsUptoSaid : Prop := sideReadsUptoRow.holds Tryz.pinned (OpenSpec.upto sideReadsSpec)

end Rows
end Go.Proofs.YtjjodkjbmgnbeaaGreatDoor
