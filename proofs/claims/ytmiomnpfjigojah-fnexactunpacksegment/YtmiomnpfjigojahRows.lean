/-
  No cell of these rows narrows 'for every input' (looked for: loops, veiled, ifaces, maps, wideKeys, modest, calm, conditions, laid).
  DERIVED. THE GIVEN ROWS OF THIS SEAT. 6 by the template 'for every input the law returns true; each argument reads behind the call as it read before'; 0 by the template 'total and deterministic' (their statements: YtmiomnpfjigojahTotals.lean).
  GIVEN WITH THE SEED: the statements are not yours to turn. If you find one false, say at which input.
  Laid BY PROGRAM, IN A SANDBOX (cutbox-rows.mjs): the forced cells as the released guide's own fill.sh prints them over the translation 67777a3bacdaab9d… (all of the seat's roots in one cut). By AI agents, Wed Nov 11 2026. No macro, syntax, notation, axiom, sorry.
-/
import Derived.Test.YtmiomnpfjigojahChecked
import GoSem.Claim
import GoSem.ClaimJoined
import GoSem.ClaimMapViews
import Derived.JoinedTies
import Derived.KernelRfl
namespace Go.Proofs.Ytmiomnpfjigojah
/- THE CELL 'sum', in the pinned program and in every row, IS THE sha256 OF THE DUMP (.gsa) THAT YtmiomnpfjigojahProg.lean LOADS. Nothing in Lean hashes anything: it is a label: what it is worth is what the hold of that sum in a sandbox is worth. -/
noncomputable def Try.pinned : Pinned := { name := "ytmiomnpfjigojah", sum := "67777a3bacdaab9dcce740e5094840b28321768abd09b0eafdac8a98afede6cd", checked := Try.checked }
namespace Rows
def none {H : Type} : Left H := { results := [], args := [] }

/-- 'laws.FnExactUnwrapNear': WHATEVER THE INPUT: true; the input reads as it did. -/
def fnExactUnwrapNearSpec : ChangeSpec := { name := "fnExactUnwrapNear", fn := fun _ => fun
  | [d1, d2] => { results := [.lit (.bool true)], args := [d1, d2] }
  | _ => none }
def fnExactUnwrapNearRow : OpenClaim := { program := "ytmiomnpfjigojah", sum := "67777a3bacdaab9dcce740e5094840b28321768abd09b0eafdac8a98afede6cd", func := "loop.example/g00230/laws.FnExactUnwrapNear", spec := "fnExactUnwrapNear", apart := false }
def FnExactUnwrapNearSaid : Prop := fnExactUnwrapNearRow.holds Try.pinned (OpenSpec.ofChange fnExactUnwrapNearSpec)

/-- ITS FALSE NEIGHBOUR: 'it returns false'. Refute it at one input. -/
def fnExactUnwrapNearWrong : ChangeSpec := { name := "fnExactUnwrapNear", fn := fun _ => fun
  | [d1, d2] => { results := [.lit (.bool false)], args := [d1, d2] }
  | _ => none }
def FnExactUnwrapNearWrongFalsely : Prop := fnExactUnwrapNearRow.holds Try.pinned (OpenSpec.ofChange fnExactUnwrapNearWrong)

/-- 'laws.FnExactSegmentFault': WHATEVER THE INPUT: true; the input reads as it did. -/
def fnExactSegmentFaultSpec : ChangeSpec := { name := "fnExactSegmentFault", fn := fun _ => fun
  | [d] => { results := [.lit (.bool true)], args := [d] }
  | _ => none }
def fnExactSegmentFaultRow : OpenClaim := { program := "ytmiomnpfjigojah", sum := "67777a3bacdaab9dcce740e5094840b28321768abd09b0eafdac8a98afede6cd", func := "loop.example/g00230/laws.FnExactSegmentFault", spec := "fnExactSegmentFault", apart := false }
def FnExactSegmentFaultSaid : Prop := fnExactSegmentFaultRow.holds Try.pinned (OpenSpec.ofChange fnExactSegmentFaultSpec)

/-- ITS FALSE NEIGHBOUR: 'it returns false'. Refute it at one input. -/
def fnExactSegmentFaultWrong : ChangeSpec := { name := "fnExactSegmentFault", fn := fun _ => fun
  | [d] => { results := [.lit (.bool false)], args := [d] }
  | _ => none }
def FnExactSegmentFaultWrongFalsely : Prop := fnExactSegmentFaultRow.holds Try.pinned (OpenSpec.ofChange fnExactSegmentFaultWrong)

/-- 'laws.FnExactPackSegment': WHATEVER THE INPUT: true; the input reads as it did. -/
def fnExactPackSegmentSpec : ChangeSpec := { name := "fnExactPackSegment", fn := fun _ => fun
  | [d] => { results := [.lit (.bool true)], args := [d] }
  | _ => none }
def fnExactPackSegmentRow : OpenClaim := { program := "ytmiomnpfjigojah", sum := "67777a3bacdaab9dcce740e5094840b28321768abd09b0eafdac8a98afede6cd", func := "loop.example/g00230/laws.FnExactPackSegment", spec := "fnExactPackSegment", apart := false }
def FnExactPackSegmentSaid : Prop := fnExactPackSegmentRow.holds Try.pinned (OpenSpec.ofChange fnExactPackSegmentSpec)

/-- ITS FALSE NEIGHBOUR: 'it returns false'. Refute it at one input. -/
def fnExactPackSegmentWrong : ChangeSpec := { name := "fnExactPackSegment", fn := fun _ => fun
  | [d] => { results := [.lit (.bool false)], args := [d] }
  | _ => none }
def FnExactPackSegmentWrongFalsely : Prop := fnExactPackSegmentRow.holds Try.pinned (OpenSpec.ofChange fnExactPackSegmentWrong)

/-- 'laws.FnExactUnpackSegment': WHATEVER THE INPUT: true; the input reads as it did. -/
def fnExactUnpackSegmentSpec : ChangeSpec := { name := "fnExactUnpackSegment", fn := fun _ => fun
  | [d] => { results := [.lit (.bool true)], args := [d] }
  | _ => none }
def fnExactUnpackSegmentRow : OpenClaim := { program := "ytmiomnpfjigojah", sum := "67777a3bacdaab9dcce740e5094840b28321768abd09b0eafdac8a98afede6cd", func := "loop.example/g00230/laws.FnExactUnpackSegment", spec := "fnExactUnpackSegment", apart := false }
def FnExactUnpackSegmentSaid : Prop := fnExactUnpackSegmentRow.holds Try.pinned (OpenSpec.ofChange fnExactUnpackSegmentSpec)

/-- ITS FALSE NEIGHBOUR: 'it returns false'. Refute it at one input. -/
def fnExactUnpackSegmentWrong : ChangeSpec := { name := "fnExactUnpackSegment", fn := fun _ => fun
  | [d] => { results := [.lit (.bool false)], args := [d] }
  | _ => none }
def FnExactUnpackSegmentWrongFalsely : Prop := fnExactUnpackSegmentRow.holds Try.pinned (OpenSpec.ofChange fnExactUnpackSegmentWrong)

/-- 'laws.FnExactSumBytes': WHATEVER THE INPUT: true; the input reads as it did. -/
def fnExactSumBytesSpec : ChangeSpec := { name := "fnExactSumBytes", fn := fun _ => fun
  | [d] => { results := [.lit (.bool true)], args := [d] }
  | _ => none }
def fnExactSumBytesRow : OpenClaim := { program := "ytmiomnpfjigojah", sum := "67777a3bacdaab9dcce740e5094840b28321768abd09b0eafdac8a98afede6cd", func := "loop.example/g00230/laws.FnExactSumBytes", spec := "fnExactSumBytes", apart := false }
def FnExactSumBytesSaid : Prop := fnExactSumBytesRow.holds Try.pinned (OpenSpec.ofChange fnExactSumBytesSpec)

/-- ITS FALSE NEIGHBOUR: 'it returns false'. Refute it at one input. -/
def fnExactSumBytesWrong : ChangeSpec := { name := "fnExactSumBytes", fn := fun _ => fun
  | [d] => { results := [.lit (.bool false)], args := [d] }
  | _ => none }
def FnExactSumBytesWrongFalsely : Prop := fnExactSumBytesRow.holds Try.pinned (OpenSpec.ofChange fnExactSumBytesWrong)

/-- 'laws.FnExactSumLoad': WHATEVER THE INPUT: true; the input reads as it did. -/
def fnExactSumLoadSpec : ChangeSpec := { name := "fnExactSumLoad", fn := fun _ => fun
  | [d1, d2] => { results := [.lit (.bool true)], args := [d1, d2] }
  | _ => none }
def fnExactSumLoadRow : OpenClaim := { program := "ytmiomnpfjigojah", sum := "67777a3bacdaab9dcce740e5094840b28321768abd09b0eafdac8a98afede6cd", func := "loop.example/g00230/laws.FnExactSumLoad", spec := "fnExactSumLoad", apart := false }
def FnExactSumLoadSaid : Prop := fnExactSumLoadRow.holds Try.pinned (OpenSpec.ofChange fnExactSumLoadSpec)

/-- ITS FALSE NEIGHBOUR: 'it returns false'. Refute it at one input. -/
def fnExactSumLoadWrong : ChangeSpec := { name := "fnExactSumLoad", fn := fun _ => fun
  | [d1, d2] => { results := [.lit (.bool false)], args := [d1, d2] }
  | _ => none }
def FnExactSumLoadWrongFalsely : Prop := fnExactSumLoadRow.holds Try.pinned (OpenSpec.ofChange fnExactSumLoadWrong)

/- THE SECOND FORM. 'bulk': how many values and letters a reading holds, each counted each time it is reached (what is shared counts as often as it is met; a slice's spare places count too). A statement '..UptoSaid' is the law's where the arguments, and the package variables that the reading takes, are together of bulk at most 1048576: NARROWER than '..Said'. Prove '..Said' where nothing that the law and all that it calls make is longer than what came in: it says more and counts as full. Else prove '..UptoSaid'. A law counts once. -/
mutual
def uptoBulk {H : Type} : DataW H → Nat
  | .lit (.string bytes) => bytes.length + 1
  | .lit _ => 1
  | .nil => 1
  | .ptr d => uptoBulk d + 1
  | .slice elems spare => uptoBulkAll elems + uptoBulkAll spare + 1
  | .agg parts => uptoBulkAll parts + 1
  | .iface _ d => uptoBulk d + 1
  | .map entries => uptoBulkEntries entries + 1
  | .held _ => 1
def uptoBulkAll {H : Type} : List (DataW H) → Nat
  | [] => 0
  | d :: r => uptoBulk d + uptoBulkAll r
def uptoBulkEntries {H : Type} : List (Lit × DataW H) → Nat
  | [] => 0
  | x :: r => uptoBulkEntry x + uptoBulkEntries r
def uptoBulkEntry {H : Type} : Lit × DataW H → Nat
  | (.string bytes, d) => bytes.length + uptoBulk d + 1
  | (_, d) => uptoBulk d + 1
 end
def uptoSmall : (H : Type) → List (DataW H) → Bool := fun _ ds => decide (uptoBulkAll ds ≤ 1048576)
def OpenSpec.upto (s : _root_.Go.ChangeSpec) : _root_.Go.OpenSpec := { _root_.Go.OpenSpec.ofChange s with cond := some uptoSmall }

/-- 'laws.FnExactUnwrapNear', WHERE WHAT IT READS IS OF BULK AT MOST 1048576: true; the input reads as it did. -/
def fnExactUnwrapNearUptoRow : OpenClaim := { program := "ytmiomnpfjigojah", sum := "67777a3bacdaab9dcce740e5094840b28321768abd09b0eafdac8a98afede6cd", func := "loop.example/g00230/laws.FnExactUnwrapNear", spec := "fnExactUnwrapNear", apart := false, narrowed := true }
def FnExactUnwrapNearUptoSaid : Prop := fnExactUnwrapNearUptoRow.holds Try.pinned (OpenSpec.upto fnExactUnwrapNearSpec)

/-- 'laws.FnExactSegmentFault', WHERE WHAT IT READS IS OF BULK AT MOST 1048576: true; the input reads as it did. -/
def fnExactSegmentFaultUptoRow : OpenClaim := { program := "ytmiomnpfjigojah", sum := "67777a3bacdaab9dcce740e5094840b28321768abd09b0eafdac8a98afede6cd", func := "loop.example/g00230/laws.FnExactSegmentFault", spec := "fnExactSegmentFault", apart := false, narrowed := true }
def FnExactSegmentFaultUptoSaid : Prop := fnExactSegmentFaultUptoRow.holds Try.pinned (OpenSpec.upto fnExactSegmentFaultSpec)

/-- 'laws.FnExactPackSegment', WHERE WHAT IT READS IS OF BULK AT MOST 1048576: true; the input reads as it did. -/
def fnExactPackSegmentUptoRow : OpenClaim := { program := "ytmiomnpfjigojah", sum := "67777a3bacdaab9dcce740e5094840b28321768abd09b0eafdac8a98afede6cd", func := "loop.example/g00230/laws.FnExactPackSegment", spec := "fnExactPackSegment", apart := false, narrowed := true }
def FnExactPackSegmentUptoSaid : Prop := fnExactPackSegmentUptoRow.holds Try.pinned (OpenSpec.upto fnExactPackSegmentSpec)

/-- 'laws.FnExactUnpackSegment', WHERE WHAT IT READS IS OF BULK AT MOST 1048576: true; the input reads as it did. -/
def fnExactUnpackSegmentUptoRow : OpenClaim := { program := "ytmiomnpfjigojah", sum := "67777a3bacdaab9dcce740e5094840b28321768abd09b0eafdac8a98afede6cd", func := "loop.example/g00230/laws.FnExactUnpackSegment", spec := "fnExactUnpackSegment", apart := false, narrowed := true }
def FnExactUnpackSegmentUptoSaid : Prop := fnExactUnpackSegmentUptoRow.holds Try.pinned (OpenSpec.upto fnExactUnpackSegmentSpec)

/-- 'laws.FnExactSumBytes', WHERE WHAT IT READS IS OF BULK AT MOST 1048576: true; the input reads as it did. -/
def fnExactSumBytesUptoRow : OpenClaim := { program := "ytmiomnpfjigojah", sum := "67777a3bacdaab9dcce740e5094840b28321768abd09b0eafdac8a98afede6cd", func := "loop.example/g00230/laws.FnExactSumBytes", spec := "fnExactSumBytes", apart := false, narrowed := true }
def FnExactSumBytesUptoSaid : Prop := fnExactSumBytesUptoRow.holds Try.pinned (OpenSpec.upto fnExactSumBytesSpec)

/-- 'laws.FnExactSumLoad', WHERE WHAT IT READS IS OF BULK AT MOST 1048576: true; the input reads as it did. -/
def fnExactSumLoadUptoRow : OpenClaim := { program := "ytmiomnpfjigojah", sum := "67777a3bacdaab9dcce740e5094840b28321768abd09b0eafdac8a98afede6cd", func := "loop.example/g00230/laws.FnExactSumLoad", spec := "fnExactSumLoad", apart := false, narrowed := true }
def FnExactSumLoadUptoSaid : Prop := fnExactSumLoadUptoRow.holds Try.pinned (OpenSpec.upto fnExactSumLoadSpec)

end Rows
end Go.Proofs.Ytmiomnpfjigojah
