/-
  No cell of these rows narrows 'for every input' (looked for: loops, veiled, ifaces, maps, wideKeys, modest, calm, conditions, laid).
  DERIVED. THE GIVEN ROWS OF THIS SEAT. 3 by the template 'for every input the law returns true; each argument reads behind the call as it read before'; 0 by the template 'total and deterministic' (their statements: YtmpbejckggnfaabGreatTotals.lean).
  GIVEN WITH THE SEED: the statements are not yours to turn. If you find one false, say at which input.
  Laid BY PROGRAM, IN A SANDBOX (cutbox-rows.mjs): the forced cells as the released guide's own fill.sh prints them over the translation 37d8242b87c3c5af… (all of the seat's roots in one cut). By AI agents, Wed Nov 11 2026. No macro, syntax, notation, axiom, sorry.
-/
import Derived.Test.YtmpbejckggnfaabGreatChecked
import GoSem.Claim
import GoSem.ClaimJoined
import GoSem.ClaimMapViews
import Derived.JoinedTies
import Derived.KernelRfl
namespace Go.Proofs.YtmpbejckggnfaabGreat
/- THE CELL 'sum', in the pinned program and in every row, IS THE sha256 OF THE DUMP (.gsa) THAT YtmpbejckggnfaabGreatProg.lean LOADS. Nothing in Lean hashes anything: it is a label: what it is worth is what the hold of that sum in a sandbox is worth. -/
noncomputable def Tryz.pinned : Pinned := { name := "ytmpbejckggnfaabgreat", sum := "37d8242b87c3c5af4b6d0bf8a897235f0a8a2f3e3969482701d8e91acf3e0a16", checked := Tryz.checked }
namespace Rows
def none {H : Type} : Left H := { results := [], args := [] }

/-- 'laws.FnExactAnswerSegment': WHATEVER THE INPUT: true; the input reads as it did. -/
def fnExactAnswerSegmentSpec : ChangeSpec := { name := "fnExactAnswerSegment", fn := fun _ => fun
  | [d1, d2] => { results := [.lit (.bool true)], args := [d1, d2] }
  | _ => none }
def fnExactAnswerSegmentRow : OpenClaim := { program := "ytmpbejckggnfaabgreat", sum := "37d8242b87c3c5af4b6d0bf8a897235f0a8a2f3e3969482701d8e91acf3e0a16", func := "loop.example/g00230/laws.FnExactAnswerSegment", spec := "fnExactAnswerSegment", unfollowed := true, recurses := true, apart := false }
def FnExactAnswerSegmentSaid : Prop := fnExactAnswerSegmentRow.holds Tryz.pinned (OpenSpec.ofChange fnExactAnswerSegmentSpec)

/-- ITS FALSE NEIGHBOUR: 'it returns false'. Refute it at one input. -/
def fnExactAnswerSegmentWrong : ChangeSpec := { name := "fnExactAnswerSegment", fn := fun _ => fun
  | [d1, d2] => { results := [.lit (.bool false)], args := [d1, d2] }
  | _ => none }
def FnExactAnswerSegmentWrongFalsely : Prop := fnExactAnswerSegmentRow.holds Tryz.pinned (OpenSpec.ofChange fnExactAnswerSegmentWrong)

/-- 'laws.FnExactProveSegment': WHATEVER THE INPUT: true; the input reads as it did. -/
def fnExactProveSegmentSpec : ChangeSpec := { name := "fnExactProveSegment", fn := fun _ => fun
  | [d1, d2] => { results := [.lit (.bool true)], args := [d1, d2] }
  | _ => none }
def fnExactProveSegmentRow : OpenClaim := { program := "ytmpbejckggnfaabgreat", sum := "37d8242b87c3c5af4b6d0bf8a897235f0a8a2f3e3969482701d8e91acf3e0a16", func := "loop.example/g00230/laws.FnExactProveSegment", spec := "fnExactProveSegment", unfollowed := true, recurses := true, apart := false }
def FnExactProveSegmentSaid : Prop := fnExactProveSegmentRow.holds Tryz.pinned (OpenSpec.ofChange fnExactProveSegmentSpec)

/-- ITS FALSE NEIGHBOUR: 'it returns false'. Refute it at one input. -/
def fnExactProveSegmentWrong : ChangeSpec := { name := "fnExactProveSegment", fn := fun _ => fun
  | [d1, d2] => { results := [.lit (.bool false)], args := [d1, d2] }
  | _ => none }
def FnExactProveSegmentWrongFalsely : Prop := fnExactProveSegmentRow.holds Tryz.pinned (OpenSpec.ofChange fnExactProveSegmentWrong)

/-- 'laws.FnExactOthersOf': WHATEVER THE INPUT: true; the input reads as it did. -/
def fnExactOthersOfSpec : ChangeSpec := { name := "fnExactOthersOf", fn := fun _ => fun
  | [d1, d2] => { results := [.lit (.bool true)], args := [d1, d2] }
  | _ => none }
def fnExactOthersOfRow : OpenClaim := { program := "ytmpbejckggnfaabgreat", sum := "37d8242b87c3c5af4b6d0bf8a897235f0a8a2f3e3969482701d8e91acf3e0a16", func := "loop.example/g00230/laws.FnExactOthersOf", spec := "fnExactOthersOf", unfollowed := true, recurses := true, apart := false }
def FnExactOthersOfSaid : Prop := fnExactOthersOfRow.holds Tryz.pinned (OpenSpec.ofChange fnExactOthersOfSpec)

/-- ITS FALSE NEIGHBOUR: 'it returns false'. Refute it at one input. -/
def fnExactOthersOfWrong : ChangeSpec := { name := "fnExactOthersOf", fn := fun _ => fun
  | [d1, d2] => { results := [.lit (.bool false)], args := [d1, d2] }
  | _ => none }
def FnExactOthersOfWrongFalsely : Prop := fnExactOthersOfRow.holds Tryz.pinned (OpenSpec.ofChange fnExactOthersOfWrong)

/- THE SECOND FORM. 'bulk': how many values and letters a reading holds, each counted each time it is reached (what is shared counts as often as it is met; a slice's spare places count too). A statement '..UptoSaid' is the law's where the arguments, and the package variables that the reading takes, are together of bulk at most 1048576: NARROWER than '..Said'. Prove '..Said' where nothing that the law and all that it calls make is longer than what came in: it says more and counts as full. Else prove '..UptoSaid'. A law counts once. -/
mutual
def uptoBulk {H : Type} : DataW H → Nat
  | .lit (.string bytes) => bytes.length + 1
  | .lit _ => 1
  | .nil => 1
  | .ptr d => uptoBulk d + 1
  | .slice elems spare => uptoBulkAll elems + uptoBulkAll spare + 1
  | .agg parts => uptoBulkAll parts + 1
  | .iface _ d => uptoBulk d + 1
  | .map entries => uptoBulkEntries entries + 1
  | .held _ => 1
def uptoBulkAll {H : Type} : List (DataW H) → Nat
  | [] => 0
  | d :: r => uptoBulk d + uptoBulkAll r
def uptoBulkEntries {H : Type} : List (Lit × DataW H) → Nat
  | [] => 0
  | x :: r => uptoBulkEntry x + uptoBulkEntries r
def uptoBulkEntry {H : Type} : Lit × DataW H → Nat
  | (.string bytes, d) => bytes.length + uptoBulk d + 1
  | (_, d) => uptoBulk d + 1
 end
def uptoSmall : (H : Type) → List (DataW H) → Bool := fun _ ds => decide (uptoBulkAll ds ≤ 1048576)
def OpenSpec.upto (s : _root_.Go.ChangeSpec) : _root_.Go.OpenSpec := { _root_.Go.OpenSpec.ofChange s with cond := some uptoSmall }

/-- 'laws.FnExactAnswerSegment', WHERE WHAT IT READS IS OF BULK AT MOST 1048576: true; the input reads as it did. -/
def fnExactAnswerSegmentUptoRow : OpenClaim := { program := "ytmpbejckggnfaabgreat", sum := "37d8242b87c3c5af4b6d0bf8a897235f0a8a2f3e3969482701d8e91acf3e0a16", func := "loop.example/g00230/laws.FnExactAnswerSegment", spec := "fnExactAnswerSegment", unfollowed := true, recurses := true, apart := false, narrowed := true }
def FnExactAnswerSegmentUptoSaid : Prop := fnExactAnswerSegmentUptoRow.holds Tryz.pinned (OpenSpec.upto fnExactAnswerSegmentSpec)

/-- 'laws.FnExactProveSegment', WHERE WHAT IT READS IS OF BULK AT MOST 1048576: true; the input reads as it did. -/
def fnExactProveSegmentUptoRow : OpenClaim := { program := "ytmpbejckggnfaabgreat", sum := "37d8242b87c3c5af4b6d0bf8a897235f0a8a2f3e3969482701d8e91acf3e0a16", func := "loop.example/g00230/laws.FnExactProveSegment", spec := "fnExactProveSegment", unfollowed := true, recurses := true, apart := false, narrowed := true }
def FnExactProveSegmentUptoSaid : Prop := fnExactProveSegmentUptoRow.holds Tryz.pinned (OpenSpec.upto fnExactProveSegmentSpec)

/-- 'laws.FnExactOthersOf', WHERE WHAT IT READS IS OF BULK AT MOST 1048576: true; the input reads as it did. -/
def fnExactOthersOfUptoRow : OpenClaim := { program := "ytmpbejckggnfaabgreat", sum := "37d8242b87c3c5af4b6d0bf8a897235f0a8a2f3e3969482701d8e91acf3e0a16", func := "loop.example/g00230/laws.FnExactOthersOf", spec := "fnExactOthersOf", unfollowed := true, recurses := true, apart := false, narrowed := true }
def FnExactOthersOfUptoSaid : Prop := fnExactOthersOfUptoRow.holds Tryz.pinned (OpenSpec.upto fnExactOthersOfSpec)

end Rows
end Go.Proofs.YtmpbejckggnfaabGreat
