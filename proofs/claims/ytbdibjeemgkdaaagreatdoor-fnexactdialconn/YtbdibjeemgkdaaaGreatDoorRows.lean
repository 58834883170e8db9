/-
  NARROWER THAN 'FOR EVERY INPUT', by the rows' own cells (each row's printed sentence says how): FnExactWriteConn: laid · FnExactWhereData: laid · FnExactDialConn: laid.
  DERIVED. THE GIVEN ROWS OF THIS SEAT. 3 by the template 'for every input the law returns true; each argument reads behind the call as it read before'; 0 by the template 'total and deterministic' (their statements: YtbdibjeemgkdaaaGreatDoorTotals.lean).
  GIVEN WITH THE SEED: the statements are not yours to turn. If you find one false, say at which input.
  Laid BY PROGRAM, IN A SANDBOX (cutbox-rows.mjs): the forced cells as the released guide's own fill.sh prints them over the translation 14b8f00397e36dcd… (all of the seat's roots in one cut). By AI agents, Wed Nov 11 2026. No macro, syntax, notation, axiom, sorry.
-/
import Derived.Test.YtbdibjeemgkdaaaGreatDoorChecked
import GoSem.Claim
import GoSem.ClaimJoined
import GoSem.ClaimMapViews
import Derived.JoinedTies
import Derived.KernelRfl
namespace Go.Proofs.YtbdibjeemgkdaaaGreatDoor
/- THE CELL 'sum', in the pinned program and in every row, IS THE sha256 OF THE DUMP (.gsa) THAT YtbdibjeemgkdaaaGreatDoorProg.lean LOADS. Nothing in Lean hashes anything: it is a label: what it is worth is what the hold of that sum in a sandbox is worth. -/
noncomputable def Tryz.pinned : Pinned := { name := "ytbdibjeemgkdaaagreatdoor", sum := "14b8f00397e36dcdddd8fcc1da7afda677fe8d110a10fc34bd5ffbd2e151bc74", checked := Tryz.checked }
namespace Rows
def none {H : Type} : Left H := { results := [], args := [] }

/- WHAT THE LISTED PACKAGE-LEVEL VARIABLES READ AS WHEN THE CALL BEGINS. Each datum BY PROGRAM (the guide's laid-datum.mjs) off the statement by which the dump's own 'gosem.cut.vars' lays the variable. In a bare row this is a premise. The card (YtbdibjeemgkdaaaGreatDoorCards.lean) ties it to the program's text. -/
def laid_errors_errorType {H : Type} : DataW H := .iface "internal/reflectlite.rtype" (.agg [.ptr (.lit (.string [101, 114, 114, 111, 114]))])

/-- 'laws.FnExactWriteConn': WHATEVER THE INPUT: true; the input reads as it did. -/
def fnExactWriteConnSpec : ChangeSpec := { name := "fnExactWriteConn", fn := fun _ => fun
  | [d1, d2] => { results := [.lit (.bool true)], args := [d1, d2] }
  | _ => none }
def fnExactWriteConnRow : OpenClaim := { program := "ytbdibjeemgkdaaagreatdoor", sum := "14b8f00397e36dcdddd8fcc1da7afda677fe8d110a10fc34bd5ffbd2e151bc74", func := "loop.example/g00230/laws.FnExactWriteConn", spec := "fnExactWriteConn", inPlace := ["internal/reflectlite.ValueOf", "(internal/reflectlite.Value).Type", "(internal/reflectlite.Value).IsNil", "internal/reflectlite.TypeOf", "(internal/reflectlite.Value).Elem", "(internal/reflectlite.Value).Set"], unfollowed := true, recurses := true, named := ["errors.errorType"], apart := false, laid := [("errors.errorType", laid_errors_errorType)] }
def FnExactWriteConnSaid : Prop := fnExactWriteConnRow.holds Tryz.pinned (OpenSpec.ofChange fnExactWriteConnSpec)

/-- ITS FALSE NEIGHBOUR: 'it returns false'. Refute it at one input. -/
def fnExactWriteConnWrong : ChangeSpec := { name := "fnExactWriteConn", fn := fun _ => fun
  | [d1, d2] => { results := [.lit (.bool false)], args := [d1, d2] }
  | _ => none }
def FnExactWriteConnWrongFalsely : Prop := fnExactWriteConnRow.holds Tryz.pinned (OpenSpec.ofChange fnExactWriteConnWrong)

/-- 'laws.FnExactWhereData': WHATEVER THE INPUT: true; the input reads as it did. -/
def fnExactWhereDataSpec : ChangeSpec := { name := "fnExactWhereData", fn := fun _ => fun
  | [d1, d2] => { results := [.lit (.bool true)], args := [d1, d2] }
  | _ => none }
def fnExactWhereDataRow : OpenClaim := { program := "ytbdibjeemgkdaaagreatdoor", sum := "14b8f00397e36dcdddd8fcc1da7afda677fe8d110a10fc34bd5ffbd2e151bc74", func := "loop.example/g00230/laws.FnExactWhereData", spec := "fnExactWhereData", inPlace := ["internal/reflectlite.ValueOf", "(internal/reflectlite.Value).Type", "(internal/reflectlite.Value).IsNil", "internal/reflectlite.TypeOf", "(internal/reflectlite.Value).Elem", "(internal/reflectlite.Value).Set"], unfollowed := true, recurses := true, named := ["errors.errorType"], apart := false, laid := [("errors.errorType", laid_errors_errorType)] }
def FnExactWhereDataSaid : Prop := fnExactWhereDataRow.holds Tryz.pinned (OpenSpec.ofChange fnExactWhereDataSpec)

/-- ITS FALSE NEIGHBOUR: 'it returns false'. Refute it at one input. -/
def fnExactWhereDataWrong : ChangeSpec := { name := "fnExactWhereData", fn := fun _ => fun
  | [d1, d2] => { results := [.lit (.bool false)], args := [d1, d2] }
  | _ => none }
def FnExactWhereDataWrongFalsely : Prop := fnExactWhereDataRow.holds Tryz.pinned (OpenSpec.ofChange fnExactWhereDataWrong)

/-- 'laws.FnExactDialConn': WHATEVER THE INPUT: true; the input reads as it did. -/
def fnExactDialConnSpec : ChangeSpec := { name := "fnExactDialConn", fn := fun _ => fun
  | [d1, d2, d3, d4] => { results := [.lit (.bool true)], args := [d1, d2, d3, d4] }
  | _ => none }
def fnExactDialConnRow : OpenClaim := { program := "ytbdibjeemgkdaaagreatdoor", sum := "14b8f00397e36dcdddd8fcc1da7afda677fe8d110a10fc34bd5ffbd2e151bc74", func := "loop.example/g00230/laws.FnExactDialConn", spec := "fnExactDialConn", inPlace := ["internal/reflectlite.ValueOf", "(internal/reflectlite.Value).Type", "(internal/reflectlite.Value).IsNil", "internal/reflectlite.TypeOf", "(internal/reflectlite.Value).Elem", "(internal/reflectlite.Value).Set"], unfollowed := true, recurses := true, named := ["errors.errorType"], apart := false, laid := [("errors.errorType", laid_errors_errorType)] }
def FnExactDialConnSaid : Prop := fnExactDialConnRow.holds Tryz.pinned (OpenSpec.ofChange fnExactDialConnSpec)

/-- ITS FALSE NEIGHBOUR: 'it returns false'. Refute it at one input. -/
def fnExactDialConnWrong : ChangeSpec := { name := "fnExactDialConn", fn := fun _ => fun
  | [d1, d2, d3, d4] => { results := [.lit (.bool false)], args := [d1, d2, d3, d4] }
  | _ => none }
def FnExactDialConnWrongFalsely : Prop := fnExactDialConnRow.holds Tryz.pinned (OpenSpec.ofChange fnExactDialConnWrong)

/- THE SECOND FORM. 'bulk': how many values and letters a reading holds, each counted each time it is reached (what is shared counts as often as it is met; a slice's spare places count too). A statement '..UptoSaid' is the law's where the arguments, and the package variables that the reading takes, are together of bulk at most 1048576: NARROWER than '..Said'. Prove '..Said' where nothing that the law and all that it calls make is longer than what came in: it says more and counts as full. Else prove '..UptoSaid'. A law counts once. -/
mutual
def uptoBulk {H : Type} : DataW H → Nat
  | .lit (.string bytes) => bytes.length + 1
  | .lit _ => 1
  | .nil => 1
  | .ptr d => uptoBulk d + 1
  | .slice elems spare => uptoBulkAll elems + uptoBulkAll spare + 1
  | .agg parts => uptoBulkAll parts + 1
  | .iface _ d => uptoBulk d + 1
  | .map entries => uptoBulkEntries entries + 1
  | .held _ => 1
def uptoBulkAll {H : Type} : List (DataW H) → Nat
  | [] => 0
  | d :: r => uptoBulk d + uptoBulkAll r
def uptoBulkEntries {H : Type} : List (Lit × DataW H) → Nat
  | [] => 0
  | x :: r => uptoBulkEntry x + uptoBulkEntries r
def uptoBulkEntry {H : Type} : Lit × DataW H → Nat
  | (.string bytes, d) => bytes.length + uptoBulk d + 1
  | (_, d) => uptoBulk d + 1
 end
def uptoSmall : (H : Type) → List (DataW H) → Bool := fun _ ds => decide (uptoBulkAll ds ≤ 1048576)
def OpenSpec.upto (s : _root_.Go.ChangeSpec) : _root_.Go.OpenSpec := { _root_.Go.OpenSpec.ofChange s with cond := some uptoSmall }

/-- 'laws.FnExactWriteConn', WHERE WHAT IT READS IS OF BULK AT MOST 1048576: true; the input reads as it did. -/
def fnExactWriteConnUptoRow : OpenClaim := { program := "ytbdibjeemgkdaaagreatdoor", sum := "14b8f00397e36dcdddd8fcc1da7afda677fe8d110a10fc34bd5ffbd2e151bc74", func := "loop.example/g00230/laws.FnExactWriteConn", spec := "fnExactWriteConn", inPlace := ["internal/reflectlite.ValueOf", "(internal/reflectlite.Value).Type", "(internal/reflectlite.Value).IsNil", "internal/reflectlite.TypeOf", "(internal/reflectlite.Value).Elem", "(internal/reflectlite.Value).Set"], unfollowed := true, recurses := true, named := ["errors.errorType"], apart := false, laid := [("errors.errorType", laid_errors_errorType)], narrowed := true }
def FnExactWriteConnUptoSaid : Prop := fnExactWriteConnUptoRow.holds Tryz.pinned (OpenSpec.upto fnExactWriteConnSpec)

/-- 'laws.FnExactWhereData', WHERE WHAT IT READS IS OF BULK AT MOST 1048576: true; the input reads as it did. -/
def fnExactWhereDataUptoRow : OpenClaim := { program := "ytbdibjeemgkdaaagreatdoor", sum := "14b8f00397e36dcdddd8fcc1da7afda677fe8d110a10fc34bd5ffbd2e151bc74", func := "loop.example/g00230/laws.FnExactWhereData", spec := "fnExactWhereData", inPlace := ["internal/reflectlite.ValueOf", "(internal/reflectlite.Value).Type", "(internal/reflectlite.Value).IsNil", "internal/reflectlite.TypeOf", "(internal/reflectlite.Value).Elem", "(internal/reflectlite.Value).Set"], unfollowed := true, recurses := true, named := ["errors.errorType"], apart := false, laid := [("errors.errorType", laid_errors_errorType)], narrowed := true }
def FnExactWhereDataUptoSaid : Prop := fnExactWhereDataUptoRow.holds Tryz.pinned (OpenSpec.upto fnExactWhereDataSpec)

/-- 'laws.FnExactDialConn', WHERE WHAT IT READS IS OF BULK AT MOST 1048576: true; the input reads as it did. -/
def fnExactDialConnUptoRow : OpenClaim := { program := "ytbdibjeemgkdaaagreatdoor", sum := "14b8f00397e36dcdddd8fcc1da7afda677fe8d110a10fc34bd5ffbd2e151bc74", func := "loop.example/g00230/laws.FnExactDialConn", spec := "fnExactDialConn", inPlace := ["internal/reflectlite.ValueOf", "(internal/reflectlite.Value).Type", "(internal/reflectlite.Value).IsNil", "internal/reflectlite.TypeOf", "(internal/reflectlite.Value).Elem", "(internal/reflectlite.Value).Set"], unfollowed := true, recurses := true, named := ["errors.errorType"], apart := false, laid := [("errors.errorType", laid_errors_errorType)], narrowed := true }
def FnExactDialConnUptoSaid : Prop := fnExactDialConnUptoRow.holds Tryz.pinned (OpenSpec.upto fnExactDialConnSpec)

end Rows
end Go.Proofs.YtbdibjeemgkdaaaGreatDoor
