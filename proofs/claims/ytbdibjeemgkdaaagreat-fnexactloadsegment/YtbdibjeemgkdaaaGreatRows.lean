/-
  No cell of these rows narrows 'for every input' (looked for: loops, veiled, ifaces, maps, wideKeys, modest, calm, conditions, laid).
  DERIVED. THE GIVEN ROWS OF THIS SEAT. 2 by the template 'for every input the law returns true; each argument reads behind the call as it read before'; 0 by the template 'total and deterministic' (their statements: YtbdibjeemgkdaaaGreatTotals.lean).
  GIVEN WITH THE SEED: the statements are not yours to turn. If you find one false, say at which input.
  Laid BY PROGRAM, IN A SANDBOX (cutbox-rows.mjs): the forced cells as the released guide's own fill.sh prints them over the translation ec638887abdbca72… (all of the seat's roots in one cut). By AI agents, Wed Nov 11 2026. No macro, syntax, notation, axiom, sorry.
-/
import Derived.Test.YtbdibjeemgkdaaaGreatChecked
import GoSem.Claim
import GoSem.ClaimJoined
import GoSem.ClaimMapViews
import Derived.JoinedTies
import Derived.KernelRfl
namespace Go.Proofs.YtbdibjeemgkdaaaGreat
/- THE CELL 'sum', in the pinned program and in every row, IS THE sha256 OF THE DUMP (.gsa) THAT YtbdibjeemgkdaaaGreatProg.lean LOADS. Nothing in Lean hashes anything: it is a label: what it is worth is what the hold of that sum in a sandbox is worth. -/
noncomputable def Tryz.pinned : Pinned := { name := "ytbdibjeemgkdaaagreat", sum := "ec638887abdbca72545425b5e28d20a4e37758889c0daa781565ad8fabbcf6ee", checked := Tryz.checked }
namespace Rows
def none {H : Type} : Left H := { results := [], args := [] }

/-- 'laws.FnExactLoadSegment': WHATEVER THE INPUT: true; the input reads as it did. -/
def fnExactLoadSegmentSpec : ChangeSpec := { name := "fnExactLoadSegment", fn := fun _ => fun
  | [d1, d2, d3] => { results := [.lit (.bool true)], args := [d1, d2, d3] }
  | _ => none }
def fnExactLoadSegmentRow : OpenClaim := { program := "ytbdibjeemgkdaaagreat", sum := "ec638887abdbca72545425b5e28d20a4e37758889c0daa781565ad8fabbcf6ee", func := "loop.example/g00230/laws.FnExactLoadSegment", spec := "fnExactLoadSegment", unfollowed := true, recurses := true, apart := false }
def FnExactLoadSegmentSaid : Prop := fnExactLoadSegmentRow.holds Tryz.pinned (OpenSpec.ofChange fnExactLoadSegmentSpec)

/-- ITS FALSE NEIGHBOUR: 'it returns false'. Refute it at one input. -/
def fnExactLoadSegmentWrong : ChangeSpec := { name := "fnExactLoadSegment", fn := fun _ => fun
  | [d1, d2, d3] => { results := [.lit (.bool false)], args := [d1, d2, d3] }
  | _ => none }
def FnExactLoadSegmentWrongFalsely : Prop := fnExactLoadSegmentRow.holds Tryz.pinned (OpenSpec.ofChange fnExactLoadSegmentWrong)

/-- 'laws.FnExactChunkFor': WHATEVER THE INPUT: true; the input reads as it did. -/
def fnExactChunkForSpec : ChangeSpec := { name := "fnExactChunkFor", fn := fun _ => fun
  | [d1, d2, d3] => { results := [.lit (.bool true)], args := [d1, d2, d3] }
  | _ => none }
def fnExactChunkForRow : OpenClaim := { program := "ytbdibjeemgkdaaagreat", sum := "ec638887abdbca72545425b5e28d20a4e37758889c0daa781565ad8fabbcf6ee", func := "loop.example/g00230/laws.FnExactChunkFor", spec := "fnExactChunkFor", unfollowed := true, recurses := true, apart := false }
def FnExactChunkForSaid : Prop := fnExactChunkForRow.holds Tryz.pinned (OpenSpec.ofChange fnExactChunkForSpec)

/-- ITS FALSE NEIGHBOUR: 'it returns false'. Refute it at one input. -/
def fnExactChunkForWrong : ChangeSpec := { name := "fnExactChunkFor", fn := fun _ => fun
  | [d1, d2, d3] => { results := [.lit (.bool false)], args := [d1, d2, d3] }
  | _ => none }
def FnExactChunkForWrongFalsely : Prop := fnExactChunkForRow.holds Tryz.pinned (OpenSpec.ofChange fnExactChunkForWrong)

/- THE SECOND FORM. 'bulk': how many values and letters a reading holds, each counted each time it is reached (what is shared counts as often as it is met; a slice's spare places count too). A statement '..UptoSaid' is the law's where the arguments, and the package variables that the reading takes, are together of bulk at most 1048576: NARROWER than '..Said'. Prove '..Said' where nothing that the law and all that it calls make is longer than what came in: it says more and counts as full. Else prove '..UptoSaid'. A law counts once. -/
mutual
def uptoBulk {H : Type} : DataW H → Nat
  | .lit (.string bytes) => bytes.length + 1
  | .lit _ => 1
  | .nil => 1
  | .ptr d => uptoBulk d + 1
  | .slice elems spare => uptoBulkAll elems + uptoBulkAll spare + 1
  | .agg parts => uptoBulkAll parts + 1
  | .iface _ d => uptoBulk d + 1
  | .map entries => uptoBulkEntries entries + 1
  | .held _ => 1
def uptoBulkAll {H : Type} : List (DataW H) → Nat
  | [] => 0
  | d :: r => uptoBulk d + uptoBulkAll r
def uptoBulkEntries {H : Type} : List (Lit × DataW H) → Nat
  | [] => 0
  | x :: r => uptoBulkEntry x + uptoBulkEntries r
def uptoBulkEntry {H : Type} : Lit × DataW H → Nat
  | (.string bytes, d) => bytes.length + uptoBulk d + 1
  | (_, d) => uptoBulk d + 1
 end
def uptoSmall : (H : Type) → List (DataW H) → Bool := fun _ ds => decide (uptoBulkAll ds ≤ 1048576)
def OpenSpec.upto (s : _root_.Go.ChangeSpec) : _root_.Go.OpenSpec := { _root_.Go.OpenSpec.ofChange s with cond := some uptoSmall }

/-- 'laws.FnExactLoadSegment', WHERE WHAT IT READS IS OF BULK AT MOST 1048576: true; the input reads as it did. -/
def fnExactLoadSegmentUptoRow : OpenClaim := { program := "ytbdibjeemgkdaaagreat", sum := "ec638887abdbca72545425b5e28d20a4e37758889c0daa781565ad8fabbcf6ee", func := "loop.example/g00230/laws.FnExactLoadSegment", spec := "fnExactLoadSegment", unfollowed := true, recurses := true, apart := false, narrowed := true }
def FnExactLoadSegmentUptoSaid : Prop := fnExactLoadSegmentUptoRow.holds Tryz.pinned (OpenSpec.upto fnExactLoadSegmentSpec)

/-- 'laws.FnExactChunkFor', WHERE WHAT IT READS IS OF BULK AT MOST 1048576: true; the input reads as it did. -/
def fnExactChunkForUptoRow : OpenClaim := { program := "ytbdibjeemgkdaaagreat", sum := "ec638887abdbca72545425b5e28d20a4e37758889c0daa781565ad8fabbcf6ee", func := "loop.example/g00230/laws.FnExactChunkFor", spec := "fnExactChunkFor", unfollowed := true, recurses := true, apart := false, narrowed := true }
def FnExactChunkForUptoSaid : Prop := fnExactChunkForUptoRow.holds Tryz.pinned (OpenSpec.upto fnExactChunkForSpec)

end Rows
end Go.Proofs.YtbdibjeemgkdaaaGreat
