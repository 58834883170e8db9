/-
  No cell of these rows narrows 'for every input' (looked for: loops, veiled, ifaces, maps, wideKeys, modest, calm, conditions, laid).
  DERIVED. THE GIVEN ROWS OF THIS SEAT. 6 by the template 'for every input the law returns true; each argument reads behind the call as it read before'; 0 by the template 'total and deterministic' (their statements: YtfeneeacchpfeaiTotals.lean).
  GIVEN WITH THE SEED: the statements are not yours to turn. If you find one false, say at which input.
  Laid BY PROGRAM, IN A SANDBOX (cutbox-rows.mjs): the forced cells as the released guide's own fill.sh prints them over the translation bb1c769f4c7ce8d1… (all of the seat's roots in one cut). By AI agents, Wed Nov 11 2026. No macro, syntax, notation, axiom, sorry.
-/
import Derived.Test.YtfeneeacchpfeaiChecked
import GoSem.Claim
import GoSem.ClaimJoined
import GoSem.ClaimMapViews
import Derived.JoinedTies
import Derived.KernelRfl
namespace Go.Proofs.Ytfeneeacchpfeai
/- THE CELL 'sum', in the pinned program and in every row, IS THE sha256 OF THE DUMP (.gsa) THAT YtfeneeacchpfeaiProg.lean LOADS. Nothing in Lean hashes anything: it is a label: what it is worth is what the hold of that sum in a sandbox is worth. -/
noncomputable def Try.pinned : Pinned := { name := "ytfeneeacchpfeai", sum := "bb1c769f4c7ce8d10e14febd5d960388f2e4352694469a7ba5ea24a6033e8fcf", checked := Try.checked }
namespace Rows
def none {H : Type} : Left H := { results := [], args := [] }

/-- 'laws.FnExactStripSegment': WHATEVER THE INPUT: true; the input reads as it did. -/
def fnExactStripSegmentSpec : ChangeSpec := { name := "fnExactStripSegment", fn := fun _ => fun
  | [d] => { results := [.lit (.bool true)], args := [d] }
  | _ => none }
def fnExactStripSegmentRow : OpenClaim := { program := "ytfeneeacchpfeai", sum := "bb1c769f4c7ce8d10e14febd5d960388f2e4352694469a7ba5ea24a6033e8fcf", func := "loop.example/g00230/laws.FnExactStripSegment", spec := "fnExactStripSegment", apart := false }
def FnExactStripSegmentSaid : Prop := fnExactStripSegmentRow.holds Try.pinned (OpenSpec.ofChange fnExactStripSegmentSpec)

/-- ITS FALSE NEIGHBOUR: 'it returns false'. Refute it at one input. -/
def fnExactStripSegmentWrong : ChangeSpec := { name := "fnExactStripSegment", fn := fun _ => fun
  | [d] => { results := [.lit (.bool false)], args := [d] }
  | _ => none }
def FnExactStripSegmentWrongFalsely : Prop := fnExactStripSegmentRow.holds Try.pinned (OpenSpec.ofChange fnExactStripSegmentWrong)

/-- 'laws.FnExactSameSegment': WHATEVER THE INPUT: true; the input reads as it did. -/
def fnExactSameSegmentSpec : ChangeSpec := { name := "fnExactSameSegment", fn := fun _ => fun
  | [d1, d2] => { results := [.lit (.bool true)], args := [d1, d2] }
  | _ => none }
def fnExactSameSegmentRow : OpenClaim := { program := "ytfeneeacchpfeai", sum := "bb1c769f4c7ce8d10e14febd5d960388f2e4352694469a7ba5ea24a6033e8fcf", func := "loop.example/g00230/laws.FnExactSameSegment", spec := "fnExactSameSegment", apart := false }
def FnExactSameSegmentSaid : Prop := fnExactSameSegmentRow.holds Try.pinned (OpenSpec.ofChange fnExactSameSegmentSpec)

/-- ITS FALSE NEIGHBOUR: 'it returns false'. Refute it at one input. -/
def fnExactSameSegmentWrong : ChangeSpec := { name := "fnExactSameSegment", fn := fun _ => fun
  | [d1, d2] => { results := [.lit (.bool false)], args := [d1, d2] }
  | _ => none }
def FnExactSameSegmentWrongFalsely : Prop := fnExactSameSegmentRow.holds Try.pinned (OpenSpec.ofChange fnExactSameSegmentWrong)

/-- 'laws.FnExactGatherFault': WHATEVER THE INPUT: true; the input reads as it did. -/
def fnExactGatherFaultSpec : ChangeSpec := { name := "fnExactGatherFault", fn := fun _ => fun
  | [d] => { results := [.lit (.bool true)], args := [d] }
  | _ => none }
def fnExactGatherFaultRow : OpenClaim := { program := "ytfeneeacchpfeai", sum := "bb1c769f4c7ce8d10e14febd5d960388f2e4352694469a7ba5ea24a6033e8fcf", func := "loop.example/g00230/laws.FnExactGatherFault", spec := "fnExactGatherFault", apart := false }
def FnExactGatherFaultSaid : Prop := fnExactGatherFaultRow.holds Try.pinned (OpenSpec.ofChange fnExactGatherFaultSpec)

/-- ITS FALSE NEIGHBOUR: 'it returns false'. Refute it at one input. -/
def fnExactGatherFaultWrong : ChangeSpec := { name := "fnExactGatherFault", fn := fun _ => fun
  | [d] => { results := [.lit (.bool false)], args := [d] }
  | _ => none }
def FnExactGatherFaultWrongFalsely : Prop := fnExactGatherFaultRow.holds Try.pinned (OpenSpec.ofChange fnExactGatherFaultWrong)

/-- 'laws.FnExactPutPiece': WHATEVER THE INPUT: true; the input reads as it did. -/
def fnExactPutPieceSpec : ChangeSpec := { name := "fnExactPutPiece", fn := fun _ => fun
  | [d1, d2, d3] => { results := [.lit (.bool true)], args := [d1, d2, d3] }
  | _ => none }
def fnExactPutPieceRow : OpenClaim := { program := "ytfeneeacchpfeai", sum := "bb1c769f4c7ce8d10e14febd5d960388f2e4352694469a7ba5ea24a6033e8fcf", func := "loop.example/g00230/laws.FnExactPutPiece", spec := "fnExactPutPiece", apart := false }
def FnExactPutPieceSaid : Prop := fnExactPutPieceRow.holds Try.pinned (OpenSpec.ofChange fnExactPutPieceSpec)

/-- ITS FALSE NEIGHBOUR: 'it returns false'. Refute it at one input. -/
def fnExactPutPieceWrong : ChangeSpec := { name := "fnExactPutPiece", fn := fun _ => fun
  | [d1, d2, d3] => { results := [.lit (.bool false)], args := [d1, d2, d3] }
  | _ => none }
def FnExactPutPieceWrongFalsely : Prop := fnExactPutPieceRow.holds Try.pinned (OpenSpec.ofChange fnExactPutPieceWrong)

/-- 'laws.FnExactHasByte': WHATEVER THE INPUT: true; the input reads as it did. -/
def fnExactHasByteSpec : ChangeSpec := { name := "fnExactHasByte", fn := fun _ => fun
  | [d1, d2] => { results := [.lit (.bool true)], args := [d1, d2] }
  | _ => none }
def fnExactHasByteRow : OpenClaim := { program := "ytfeneeacchpfeai", sum := "bb1c769f4c7ce8d10e14febd5d960388f2e4352694469a7ba5ea24a6033e8fcf", func := "loop.example/g00230/laws.FnExactHasByte", spec := "fnExactHasByte", apart := false }
def FnExactHasByteSaid : Prop := fnExactHasByteRow.holds Try.pinned (OpenSpec.ofChange fnExactHasByteSpec)

/-- ITS FALSE NEIGHBOUR: 'it returns false'. Refute it at one input. -/
def fnExactHasByteWrong : ChangeSpec := { name := "fnExactHasByte", fn := fun _ => fun
  | [d1, d2] => { results := [.lit (.bool false)], args := [d1, d2] }
  | _ => none }
def FnExactHasByteWrongFalsely : Prop := fnExactHasByteRow.holds Try.pinned (OpenSpec.ofChange fnExactHasByteWrong)

/-- 'laws.FnExactHoldOf': WHATEVER THE INPUT: true; the input reads as it did. -/
def fnExactHoldOfSpec : ChangeSpec := { name := "fnExactHoldOf", fn := fun _ => fun
  | [d] => { results := [.lit (.bool true)], args := [d] }
  | _ => none }
def fnExactHoldOfRow : OpenClaim := { program := "ytfeneeacchpfeai", sum := "bb1c769f4c7ce8d10e14febd5d960388f2e4352694469a7ba5ea24a6033e8fcf", func := "loop.example/g00230/laws.FnExactHoldOf", spec := "fnExactHoldOf", apart := false }
def FnExactHoldOfSaid : Prop := fnExactHoldOfRow.holds Try.pinned (OpenSpec.ofChange fnExactHoldOfSpec)

/-- ITS FALSE NEIGHBOUR: 'it returns false'. Refute it at one input. -/
def fnExactHoldOfWrong : ChangeSpec := { name := "fnExactHoldOf", fn := fun _ => fun
  | [d] => { results := [.lit (.bool false)], args := [d] }
  | _ => none }
def FnExactHoldOfWrongFalsely : Prop := fnExactHoldOfRow.holds Try.pinned (OpenSpec.ofChange fnExactHoldOfWrong)

/- THE SECOND FORM. 'bulk': how many values and letters a reading holds, each counted each time it is reached (what is shared counts as often as it is met; a slice's spare places count too). A statement '..UptoSaid' is the law's where the arguments, and the package variables that the reading takes, are together of bulk at most 1048576: NARROWER than '..Said'. Prove '..Said' where nothing that the law and all that it calls make is longer than what came in: it says more and counts as full. Else prove '..UptoSaid'. A law counts once. -/
mutual
def uptoBulk {H : Type} : DataW H → Nat
  | .lit (.string bytes) => bytes.length + 1
  | .lit _ => 1
  | .nil => 1
  | .ptr d => uptoBulk d + 1
  | .slice elems spare => uptoBulkAll elems + uptoBulkAll spare + 1
  | .agg parts => uptoBulkAll parts + 1
  | .iface _ d => uptoBulk d + 1
  | .map entries => uptoBulkEntries entries + 1
  | .held _ => 1
def uptoBulkAll {H : Type} : List (DataW H) → Nat
  | [] => 0
  | d :: r => uptoBulk d + uptoBulkAll r
def uptoBulkEntries {H : Type} : List (Lit × DataW H) → Nat
  | [] => 0
  | x :: r => uptoBulkEntry x + uptoBulkEntries r
def uptoBulkEntry {H : Type} : Lit × DataW H → Nat
  | (.string bytes, d) => bytes.length + uptoBulk d + 1
  | (_, d) => uptoBulk d + 1
 end
def uptoSmall : (H : Type) → List (DataW H) → Bool := fun _ ds => decide (uptoBulkAll ds ≤ 1048576)
def OpenSpec.upto (s : _root_.Go.ChangeSpec) : _root_.Go.OpenSpec := { _root_.Go.OpenSpec.ofChange s with cond := some uptoSmall }

/-- 'laws.FnExactStripSegment', WHERE WHAT IT READS IS OF BULK AT MOST 1048576: true; the input reads as it did. -/
def fnExactStripSegmentUptoRow : OpenClaim := { program := "ytfeneeacchpfeai", sum := "bb1c769f4c7ce8d10e14febd5d960388f2e4352694469a7ba5ea24a6033e8fcf", func := "loop.example/g00230/laws.FnExactStripSegment", spec := "fnExactStripSegment", apart := false, narrowed := true }
def FnExactStripSegmentUptoSaid : Prop := fnExactStripSegmentUptoRow.holds Try.pinned (OpenSpec.upto fnExactStripSegmentSpec)

/-- 'laws.FnExactSameSegment', WHERE WHAT IT READS IS OF BULK AT MOST 1048576: true; the input reads as it did. -/
def fnExactSameSegmentUptoRow : OpenClaim := { program := "ytfeneeacchpfeai", sum := "bb1c769f4c7ce8d10e14febd5d960388f2e4352694469a7ba5ea24a6033e8fcf", func := "loop.example/g00230/laws.FnExactSameSegment", spec := "fnExactSameSegment", apart := false, narrowed := true }
def FnExactSameSegmentUptoSaid : Prop := fnExactSameSegmentUptoRow.holds Try.pinned (OpenSpec.upto fnExactSameSegmentSpec)

/-- 'laws.FnExactGatherFault', WHERE WHAT IT READS IS OF BULK AT MOST 1048576: true; the input reads as it did. -/
def fnExactGatherFaultUptoRow : OpenClaim := { program := "ytfeneeacchpfeai", sum := "bb1c769f4c7ce8d10e14febd5d960388f2e4352694469a7ba5ea24a6033e8fcf", func := "loop.example/g00230/laws.FnExactGatherFault", spec := "fnExactGatherFault", apart := false, narrowed := true }
def FnExactGatherFaultUptoSaid : Prop := fnExactGatherFaultUptoRow.holds Try.pinned (OpenSpec.upto fnExactGatherFaultSpec)

/-- 'laws.FnExactPutPiece', WHERE WHAT IT READS IS OF BULK AT MOST 1048576: true; the input reads as it did. -/
def fnExactPutPieceUptoRow : OpenClaim := { program := "ytfeneeacchpfeai", sum := "bb1c769f4c7ce8d10e14febd5d960388f2e4352694469a7ba5ea24a6033e8fcf", func := "loop.example/g00230/laws.FnExactPutPiece", spec := "fnExactPutPiece", apart := false, narrowed := true }
def FnExactPutPieceUptoSaid : Prop := fnExactPutPieceUptoRow.holds Try.pinned (OpenSpec.upto fnExactPutPieceSpec)

/-- 'laws.FnExactHasByte', WHERE WHAT IT READS IS OF BULK AT MOST 1048576: true; the input reads as it did. -/
def fnExactHasByteUptoRow : OpenClaim := { program := "ytfeneeacchpfeai", sum := "bb1c769f4c7ce8d10e14febd5d960388f2e4352694469a7ba5ea24a6033e8fcf", func := "loop.example/g00230/laws.FnExactHasByte", spec := "fnExactHasByte", apart := false, narrowed := true }
def FnExactHasByteUptoSaid : Prop := fnExactHasByteUptoRow.holds Try.pinned (OpenSpec.upto fnExactHasByteSpec)

/-- 'laws.FnExactHoldOf', WHERE WHAT IT READS IS OF BULK AT MOST 1048576: true; the input reads as it did. -/
def fnExactHoldOfUptoRow : OpenClaim := { program := "ytfeneeacchpfeai", sum := "bb1c769f4c7ce8d10e14febd5d960388f2e4352694469a7ba5ea24a6033e8fcf", func := "loop.example/g00230/laws.FnExactHoldOf", spec := "fnExactHoldOf", apart := false, narrowed := true }
def FnExactHoldOfUptoSaid : Prop := fnExactHoldOfUptoRow.holds Try.pinned (OpenSpec.upto fnExactHoldOfSpec)

end Rows
end Go.Proofs.Ytfeneeacchpfeai
