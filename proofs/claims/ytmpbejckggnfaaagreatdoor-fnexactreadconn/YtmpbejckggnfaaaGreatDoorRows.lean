/-
  NARROWER THAN 'FOR EVERY INPUT', by the rows' own cells (each row's printed sentence says how): FnTells: laid · FnExactWriteConn: laid · FnExactCloseConn: laid · FnExactReadConn: laid · FnExactDialConn: laid · FnExactTellSegment: laid.
  DERIVED. THE GIVEN ROWS OF THIS SEAT. 6 by the template 'for every input the law returns true; each argument reads behind the call as it read before'; 0 by the template 'total and deterministic' (their statements: YtmpbejckggnfaaaGreatDoorTotals.lean).
  GIVEN WITH THE SEED: the statements are not yours to turn. If you find one false, say at which input.
  Laid BY PROGRAM, IN A SANDBOX (cutbox-rows.mjs): the forced cells as the released guide's own fill.sh prints them over the translation b5a126a30e13980b… (all of the seat's roots in one cut). By AI agents, Wed Nov 11 2026. No macro, syntax, notation, axiom, sorry.
-/
import Derived.Test.YtmpbejckggnfaaaGreatDoorChecked
import GoSem.Claim
import GoSem.ClaimJoined
import GoSem.ClaimMapViews
import Derived.JoinedTies
import Derived.KernelRfl
namespace Go.Proofs.YtmpbejckggnfaaaGreatDoor
/- THE CELL 'sum', in the pinned program and in every row, IS THE sha256 OF THE DUMP (.gsa) THAT YtmpbejckggnfaaaGreatDoorProg.lean LOADS. Nothing in Lean hashes anything: it is a label: what it is worth is what the hold of that sum in a sandbox is worth. -/
noncomputable def Tryz.pinned : Pinned := { name := "ytmpbejckggnfaaagreatdoor", sum := "b5a126a30e13980b0d4dc66ce732ccea6ec56883bb17981f38de2fd388ed3492", checked := Tryz.checked }
namespace Rows
def none {H : Type} : Left H := { results := [], args := [] }

/- WHAT THE LISTED PACKAGE-LEVEL VARIABLES READ AS WHEN THE CALL BEGINS. Each datum BY PROGRAM (the guide's laid-datum.mjs) off the statement by which the dump's own 'gosem.cut.vars' lays the variable. In a bare row this is a premise. The card (YtmpbejckggnfaaaGreatDoorCards.lean) ties it to the program's text. -/
def laid_errors_errorType {H : Type} : DataW H := .iface "internal/reflectlite.rtype" (.agg [.ptr (.lit (.string [101, 114, 114, 111, 114]))])

/-- 'laws.FnTells': WHATEVER THE INPUT: true; the input reads as it did. -/
def fnTellsSpec : ChangeSpec := { name := "fnTells", fn := fun _ => fun
  | [d] => { results := [.lit (.bool true)], args := [d] }
  | _ => none }
def fnTellsRow : OpenClaim := { program := "ytmpbejckggnfaaagreatdoor", sum := "b5a126a30e13980b0d4dc66ce732ccea6ec56883bb17981f38de2fd388ed3492", func := "loop.example/g00230/laws.FnTells", spec := "fnTells", inPlace := ["internal/reflectlite.ValueOf", "(internal/reflectlite.Value).Type", "(internal/reflectlite.Value).IsNil", "internal/reflectlite.TypeOf", "(internal/reflectlite.Value).Elem", "(internal/reflectlite.Value).Set"], unfollowed := true, recurses := true, named := ["errors.errorType"], apart := false, laid := [("errors.errorType", laid_errors_errorType)] }
def FnTellsSaid : Prop := fnTellsRow.holds Tryz.pinned (OpenSpec.ofChange fnTellsSpec)

/-- ITS FALSE NEIGHBOUR: 'it returns false'. Refute it at one input. -/
def fnTellsWrong : ChangeSpec := { name := "fnTells", fn := fun _ => fun
  | [d] => { results := [.lit (.bool false)], args := [d] }
  | _ => none }
def FnTellsWrongFalsely : Prop := fnTellsRow.holds Tryz.pinned (OpenSpec.ofChange fnTellsWrong)

/-- 'laws.FnExactWriteConn': WHATEVER THE INPUT: true; the input reads as it did. -/
def fnExactWriteConnSpec : ChangeSpec := { name := "fnExactWriteConn", fn := fun _ => fun
  | [d1, d2] => { results := [.lit (.bool true)], args := [d1, d2] }
  | _ => none }
def fnExactWriteConnRow : OpenClaim := { program := "ytmpbejckggnfaaagreatdoor", sum := "b5a126a30e13980b0d4dc66ce732ccea6ec56883bb17981f38de2fd388ed3492", func := "loop.example/g00230/laws.FnExactWriteConn", spec := "fnExactWriteConn", inPlace := ["internal/reflectlite.ValueOf", "(internal/reflectlite.Value).Type", "(internal/reflectlite.Value).IsNil", "internal/reflectlite.TypeOf", "(internal/reflectlite.Value).Elem", "(internal/reflectlite.Value).Set"], unfollowed := true, recurses := true, named := ["errors.errorType"], apart := false, laid := [("errors.errorType", laid_errors_errorType)] }
def FnExactWriteConnSaid : Prop := fnExactWriteConnRow.holds Tryz.pinned (OpenSpec.ofChange fnExactWriteConnSpec)

/-- ITS FALSE NEIGHBOUR: 'it returns false'. Refute it at one input. -/
def fnExactWriteConnWrong : ChangeSpec := { name := "fnExactWriteConn", fn := fun _ => fun
  | [d1, d2] => { results := [.lit (.bool false)], args := [d1, d2] }
  | _ => none }
def FnExactWriteConnWrongFalsely : Prop := fnExactWriteConnRow.holds Tryz.pinned (OpenSpec.ofChange fnExactWriteConnWrong)

/-- 'laws.FnExactCloseConn': WHATEVER THE INPUT: true; the input reads as it did. -/
def fnExactCloseConnSpec : ChangeSpec := { name := "fnExactCloseConn", fn := fun _ => fun
  | [d] => { results := [.lit (.bool true)], args := [d] }
  | _ => none }
def fnExactCloseConnRow : OpenClaim := { program := "ytmpbejckggnfaaagreatdoor", sum := "b5a126a30e13980b0d4dc66ce732ccea6ec56883bb17981f38de2fd388ed3492", func := "loop.example/g00230/laws.FnExactCloseConn", spec := "fnExactCloseConn", inPlace := ["internal/reflectlite.ValueOf", "(internal/reflectlite.Value).Type", "(internal/reflectlite.Value).IsNil", "internal/reflectlite.TypeOf", "(internal/reflectlite.Value).Elem", "(internal/reflectlite.Value).Set"], unfollowed := true, recurses := true, named := ["errors.errorType"], apart := false, laid := [("errors.errorType", laid_errors_errorType)] }
def FnExactCloseConnSaid : Prop := fnExactCloseConnRow.holds Tryz.pinned (OpenSpec.ofChange fnExactCloseConnSpec)

/-- ITS FALSE NEIGHBOUR: 'it returns false'. Refute it at one input. -/
def fnExactCloseConnWrong : ChangeSpec := { name := "fnExactCloseConn", fn := fun _ => fun
  | [d] => { results := [.lit (.bool false)], args := [d] }
  | _ => none }
def FnExactCloseConnWrongFalsely : Prop := fnExactCloseConnRow.holds Tryz.pinned (OpenSpec.ofChange fnExactCloseConnWrong)

/-- 'laws.FnExactReadConn': WHATEVER THE INPUT: true; the input reads as it did. -/
def fnExactReadConnSpec : ChangeSpec := { name := "fnExactReadConn", fn := fun _ => fun
  | [d1, d2] => { results := [.lit (.bool true)], args := [d1, d2] }
  | _ => none }
def fnExactReadConnRow : OpenClaim := { program := "ytmpbejckggnfaaagreatdoor", sum := "b5a126a30e13980b0d4dc66ce732ccea6ec56883bb17981f38de2fd388ed3492", func := "loop.example/g00230/laws.FnExactReadConn", spec := "fnExactReadConn", inPlace := ["internal/reflectlite.ValueOf", "(internal/reflectlite.Value).Type", "(internal/reflectlite.Value).IsNil", "internal/reflectlite.TypeOf", "(internal/reflectlite.Value).Elem", "(internal/reflectlite.Value).Set"], unfollowed := true, recurses := true, named := ["errors.errorType"], apart := false, laid := [("errors.errorType", laid_errors_errorType)] }
def FnExactReadConnSaid : Prop := fnExactReadConnRow.holds Tryz.pinned (OpenSpec.ofChange fnExactReadConnSpec)

/-- ITS FALSE NEIGHBOUR: 'it returns false'. Refute it at one input. -/
def fnExactReadConnWrong : ChangeSpec := { name := "fnExactReadConn", fn := fun _ => fun
  | [d1, d2] => { results := [.lit (.bool false)], args := [d1, d2] }
  | _ => none }
def FnExactReadConnWrongFalsely : Prop := fnExactReadConnRow.holds Tryz.pinned (OpenSpec.ofChange fnExactReadConnWrong)

/-- 'laws.FnExactDialConn': WHATEVER THE INPUT: true; the input reads as it did. -/
def fnExactDialConnSpec : ChangeSpec := { name := "fnExactDialConn", fn := fun _ => fun
  | [d1, d2, d3, d4] => { results := [.lit (.bool true)], args := [d1, d2, d3, d4] }
  | _ => none }
def fnExactDialConnRow : OpenClaim := { program := "ytmpbejckggnfaaagreatdoor", sum := "b5a126a30e13980b0d4dc66ce732ccea6ec56883bb17981f38de2fd388ed3492", func := "loop.example/g00230/laws.FnExactDialConn", spec := "fnExactDialConn", inPlace := ["internal/reflectlite.ValueOf", "(internal/reflectlite.Value).Type", "(internal/reflectlite.Value).IsNil", "internal/reflectlite.TypeOf", "(internal/reflectlite.Value).Elem", "(internal/reflectlite.Value).Set"], unfollowed := true, recurses := true, named := ["errors.errorType"], apart := false, laid := [("errors.errorType", laid_errors_errorType)] }
def FnExactDialConnSaid : Prop := fnExactDialConnRow.holds Tryz.pinned (OpenSpec.ofChange fnExactDialConnSpec)

/-- ITS FALSE NEIGHBOUR: 'it returns false'. Refute it at one input. -/
def fnExactDialConnWrong : ChangeSpec := { name := "fnExactDialConn", fn := fun _ => fun
  | [d1, d2, d3, d4] => { results := [.lit (.bool false)], args := [d1, d2, d3, d4] }
  | _ => none }
def FnExactDialConnWrongFalsely : Prop := fnExactDialConnRow.holds Tryz.pinned (OpenSpec.ofChange fnExactDialConnWrong)

/-- 'laws.FnExactTellSegment': WHATEVER THE INPUT: true; the input reads as it did. -/
def fnExactTellSegmentSpec : ChangeSpec := { name := "fnExactTellSegment", fn := fun _ => fun
  | [d1, d2] => { results := [.lit (.bool true)], args := [d1, d2] }
  | _ => none }
def fnExactTellSegmentRow : OpenClaim := { program := "ytmpbejckggnfaaagreatdoor", sum := "b5a126a30e13980b0d4dc66ce732ccea6ec56883bb17981f38de2fd388ed3492", func := "loop.example/g00230/laws.FnExactTellSegment", spec := "fnExactTellSegment", inPlace := ["internal/reflectlite.ValueOf", "(internal/reflectlite.Value).Type", "(internal/reflectlite.Value).IsNil", "internal/reflectlite.TypeOf", "(internal/reflectlite.Value).Elem", "(internal/reflectlite.Value).Set"], unfollowed := true, recurses := true, named := ["errors.errorType"], apart := false, laid := [("errors.errorType", laid_errors_errorType)] }
def FnExactTellSegmentSaid : Prop := fnExactTellSegmentRow.holds Tryz.pinned (OpenSpec.ofChange fnExactTellSegmentSpec)

/-- ITS FALSE NEIGHBOUR: 'it returns false'. Refute it at one input. -/
def fnExactTellSegmentWrong : ChangeSpec := { name := "fnExactTellSegment", fn := fun _ => fun
  | [d1, d2] => { results := [.lit (.bool false)], args := [d1, d2] }
  | _ => none }
def FnExactTellSegmentWrongFalsely : Prop := fnExactTellSegmentRow.holds Tryz.pinned (OpenSpec.ofChange fnExactTellSegmentWrong)

/- THE SECOND FORM. 'bulk': how many values and letters a reading holds, each counted each time it is reached (what is shared counts as often as it is met; a slice's spare places count too). A statement '..UptoSaid' is the law's where the arguments, and the package variables that the reading takes, are together of bulk at most 1048576: NARROWER than '..Said'. Prove '..Said' where nothing that the law and all that it calls make is longer than what came in: it says more and counts as full. Else prove '..UptoSaid'. A law counts once. -/
mutual
def uptoBulk {H : Type} : DataW H → Nat
  | .lit (.string bytes) => bytes.length + 1
  | .lit _ => 1
  | .nil => 1
  | .ptr d => uptoBulk d + 1
  | .slice elems spare => uptoBulkAll elems + uptoBulkAll spare + 1
  | .agg parts => uptoBulkAll parts + 1
  | .iface _ d => uptoBulk d + 1
  | .map entries => uptoBulkEntries entries + 1
  | .held _ => 1
def uptoBulkAll {H : Type} : List (DataW H) → Nat
  | [] => 0
  | d :: r => uptoBulk d + uptoBulkAll r
def uptoBulkEntries {H : Type} : List (Lit × DataW H) → Nat
  | [] => 0
  | x :: r => uptoBulkEntry x + uptoBulkEntries r
def uptoBulkEntry {H : Type} : Lit × DataW H → Nat
  | (.string bytes, d) => bytes.length + uptoBulk d + 1
  | (_, d) => uptoBulk d + 1
 end
def uptoSmall : (H : Type) → List (DataW H) → Bool := fun _ ds => decide (uptoBulkAll ds ≤ 1048576)
def OpenSpec.upto (s : _root_.Go.ChangeSpec) : _root_.Go.OpenSpec := { _root_.Go.OpenSpec.ofChange s with cond := some uptoSmall }

/-- 'laws.FnTells', WHERE WHAT IT READS IS OF BULK AT MOST 1048576: true; the input reads as it did. -/
def fnTellsUptoRow : OpenClaim := { program := "ytmpbejckggnfaaagreatdoor", sum := "b5a126a30e13980b0d4dc66ce732ccea6ec56883bb17981f38de2fd388ed3492", func := "loop.example/g00230/laws.FnTells", spec := "fnTells", inPlace := ["internal/reflectlite.ValueOf", "(internal/reflectlite.Value).Type", "(internal/reflectlite.Value).IsNil", "internal/reflectlite.TypeOf", "(internal/reflectlite.Value).Elem", "(internal/reflectlite.Value).Set"], unfollowed := true, recurses := true, named := ["errors.errorType"], apart := false, laid := [("errors.errorType", laid_errors_errorType)], narrowed := true }
def FnTellsUptoSaid : Prop := fnTellsUptoRow.holds Tryz.pinned (OpenSpec.upto fnTellsSpec)

/-- 'laws.FnExactWriteConn', WHERE WHAT IT READS IS OF BULK AT MOST 1048576: true; the input reads as it did. -/
def fnExactWriteConnUptoRow : OpenClaim := { program := "ytmpbejckggnfaaagreatdoor", sum := "b5a126a30e13980b0d4dc66ce732ccea6ec56883bb17981f38de2fd388ed3492", func := "loop.example/g00230/laws.FnExactWriteConn", spec := "fnExactWriteConn", inPlace := ["internal/reflectlite.ValueOf", "(internal/reflectlite.Value).Type", "(internal/reflectlite.Value).IsNil", "internal/reflectlite.TypeOf", "(internal/reflectlite.Value).Elem", "(internal/reflectlite.Value).Set"], unfollowed := true, recurses := true, named := ["errors.errorType"], apart := false, laid := [("errors.errorType", laid_errors_errorType)], narrowed := true }
def FnExactWriteConnUptoSaid : Prop := fnExactWriteConnUptoRow.holds Tryz.pinned (OpenSpec.upto fnExactWriteConnSpec)

/-- 'laws.FnExactCloseConn', WHERE WHAT IT READS IS OF BULK AT MOST 1048576: true; the input reads as it did. -/
def fnExactCloseConnUptoRow : OpenClaim := { program := "ytmpbejckggnfaaagreatdoor", sum := "b5a126a30e13980b0d4dc66ce732ccea6ec56883bb17981f38de2fd388ed3492", func := "loop.example/g00230/laws.FnExactCloseConn", spec := "fnExactCloseConn", inPlace := ["internal/reflectlite.ValueOf", "(internal/reflectlite.Value).Type", "(internal/reflectlite.Value).IsNil", "internal/reflectlite.TypeOf", "(internal/reflectlite.Value).Elem", "(internal/reflectlite.Value).Set"], unfollowed := true, recurses := true, named := ["errors.errorType"], apart := false, laid := [("errors.errorType", laid_errors_errorType)], narrowed := true }
def FnExactCloseConnUptoSaid : Prop := fnExactCloseConnUptoRow.holds Tryz.pinned (OpenSpec.upto fnExactCloseConnSpec)

/-- 'laws.FnExactReadConn', WHERE WHAT IT READS IS OF BULK AT MOST 1048576: true; the input reads as it did. -/
def fnExactReadConnUptoRow : OpenClaim := { program := "ytmpbejckggnfaaagreatdoor", sum := "b5a126a30e13980b0d4dc66ce732ccea6ec56883bb17981f38de2fd388ed3492", func := "loop.example/g00230/laws.FnExactReadConn", spec := "fnExactReadConn", inPlace := ["internal/reflectlite.ValueOf", "(internal/reflectlite.Value).Type", "(internal/reflectlite.Value).IsNil", "internal/reflectlite.TypeOf", "(internal/reflectlite.Value).Elem", "(internal/reflectlite.Value).Set"], unfollowed := true, recurses := true, named := ["errors.errorType"], apart := false, laid := [("errors.errorType", laid_errors_errorType)], narrowed := true }
def FnExactReadConnUptoSaid : Prop := fnExactReadConnUptoRow.holds Tryz.pinned (OpenSpec.upto fnExactReadConnSpec)

/-- 'laws.FnExactDialConn', WHERE WHAT IT READS IS OF BULK AT MOST 1048576: true; the input reads as it did. -/
def fnExactDialConnUptoRow : OpenClaim := { program := "ytmpbejckggnfaaagreatdoor", sum := "b5a126a30e13980b0d4dc66ce732ccea6ec56883bb17981f38de2fd388ed3492", func := "loop.example/g00230/laws.FnExactDialConn", spec := "fnExactDialConn", inPlace := ["internal/reflectlite.ValueOf", "(internal/reflectlite.Value).Type", "(internal/reflectlite.Value).IsNil", "internal/reflectlite.TypeOf", "(internal/reflectlite.Value).Elem", "(internal/reflectlite.Value).Set"], unfollowed := true, recurses := true, named := ["errors.errorType"], apart := false, laid := [("errors.errorType", laid_errors_errorType)], narrowed := true }
def FnExactDialConnUptoSaid : Prop := fnExactDialConnUptoRow.holds Tryz.pinned (OpenSpec.upto fnExactDialConnSpec)

/-- 'laws.FnExactTellSegment', WHERE WHAT IT READS IS OF BULK AT MOST 1048576: true; the input reads as it did. -/
def fnExactTellSegmentUptoRow : OpenClaim := { program := "ytmpbejckggnfaaagreatdoor", sum := "b5a126a30e13980b0d4dc66ce732ccea6ec56883bb17981f38de2fd388ed3492", func := "loop.example/g00230/laws.FnExactTellSegment", spec := "fnExactTellSegment", inPlace := ["internal/reflectlite.ValueOf", "(internal/reflectlite.Value).Type", "(internal/reflectlite.Value).IsNil", "internal/reflectlite.TypeOf", "(internal/reflectlite.Value).Elem", "(internal/reflectlite.Value).Set"], unfollowed := true, recurses := true, named := ["errors.errorType"], apart := false, laid := [("errors.errorType", laid_errors_errorType)], narrowed := true }
def FnExactTellSegmentUptoSaid : Prop := fnExactTellSegmentUptoRow.holds Tryz.pinned (OpenSpec.upto fnExactTellSegmentSpec)

end Rows
end Go.Proofs.YtmpbejckggnfaaaGreatDoor
