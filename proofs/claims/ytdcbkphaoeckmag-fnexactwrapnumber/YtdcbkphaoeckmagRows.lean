/-
  No cell of these rows narrows 'for every input' (looked for: loops, veiled, ifaces, maps, wideKeys, modest, calm, conditions, laid).
  DERIVED. THE GIVEN ROWS OF THIS SEAT. 5 by the template 'for every input the law returns true; each argument reads behind the call as it read before'; 0 by the template 'total and deterministic' (their statements: YtdcbkphaoeckmagTotals.lean).
  GIVEN WITH THE SEED: the statements are not yours to turn. If you find one false, say at which input.
  Laid BY PROGRAM, IN A SANDBOX (cutbox-rows.mjs): the forced cells as the released guide's own fill.sh prints them over the translation 8585600108e58876… (all of the seat's roots in one cut). By AI agents, Wed Nov 11 2026. No macro, syntax, notation, axiom, sorry.
-/
import Derived.Test.YtdcbkphaoeckmagChecked
import GoSem.Claim
import GoSem.ClaimJoined
import GoSem.ClaimMapViews
import Derived.JoinedTies
import Derived.KernelRfl
namespace Go.Proofs.Ytdcbkphaoeckmag
/- THE CELL 'sum', in the pinned program and in every row, IS THE sha256 OF THE DUMP (.gsa) THAT YtdcbkphaoeckmagProg.lean LOADS. Nothing in Lean hashes anything: it is a label: what it is worth is what the hold of that sum in a sandbox is worth. -/
noncomputable def Try.pinned : Pinned := { name := "ytdcbkphaoeckmag", sum := "8585600108e588765cea92d92bfe1be75513129e3dccce76c4a3ada096194653", checked := Try.checked }
namespace Rows
def none {H : Type} : Left H := { results := [], args := [] }

/-- 'laws.FnExactWrapNumber': WHATEVER THE INPUT: true; the input reads as it did. -/
def fnExactWrapNumberSpec : ChangeSpec := { name := "fnExactWrapNumber", fn := fun _ => fun
  | [d] => { results := [.lit (.bool true)], args := [d] }
  | _ => none }
def fnExactWrapNumberRow : OpenClaim := { program := "ytdcbkphaoeckmag", sum := "8585600108e588765cea92d92bfe1be75513129e3dccce76c4a3ada096194653", func := "loop.example/g00230/laws.FnExactWrapNumber", spec := "fnExactWrapNumber", apart := false }
def FnExactWrapNumberSaid : Prop := fnExactWrapNumberRow.holds Try.pinned (OpenSpec.ofChange fnExactWrapNumberSpec)

/-- ITS FALSE NEIGHBOUR: 'it returns false'. Refute it at one input. -/
def fnExactWrapNumberWrong : ChangeSpec := { name := "fnExactWrapNumber", fn := fun _ => fun
  | [d] => { results := [.lit (.bool false)], args := [d] }
  | _ => none }
def FnExactWrapNumberWrongFalsely : Prop := fnExactWrapNumberRow.holds Try.pinned (OpenSpec.ofChange fnExactWrapNumberWrong)

/-- 'laws.FnExactAddNumber': WHATEVER THE INPUT: true; the input reads as it did. -/
def fnExactAddNumberSpec : ChangeSpec := { name := "fnExactAddNumber", fn := fun _ => fun
  | [d1, d2] => { results := [.lit (.bool true)], args := [d1, d2] }
  | _ => none }
def fnExactAddNumberRow : OpenClaim := { program := "ytdcbkphaoeckmag", sum := "8585600108e588765cea92d92bfe1be75513129e3dccce76c4a3ada096194653", func := "loop.example/g00230/laws.FnExactAddNumber", spec := "fnExactAddNumber", apart := false }
def FnExactAddNumberSaid : Prop := fnExactAddNumberRow.holds Try.pinned (OpenSpec.ofChange fnExactAddNumberSpec)

/-- ITS FALSE NEIGHBOUR: 'it returns false'. Refute it at one input. -/
def fnExactAddNumberWrong : ChangeSpec := { name := "fnExactAddNumber", fn := fun _ => fun
  | [d1, d2] => { results := [.lit (.bool false)], args := [d1, d2] }
  | _ => none }
def FnExactAddNumberWrongFalsely : Prop := fnExactAddNumberRow.holds Try.pinned (OpenSpec.ofChange fnExactAddNumberWrong)

/-- 'laws.FnExactAhead': WHATEVER THE INPUT: true; the input reads as it did. -/
def fnExactAheadSpec : ChangeSpec := { name := "fnExactAhead", fn := fun _ => fun
  | [d1, d2] => { results := [.lit (.bool true)], args := [d1, d2] }
  | _ => none }
def fnExactAheadRow : OpenClaim := { program := "ytdcbkphaoeckmag", sum := "8585600108e588765cea92d92bfe1be75513129e3dccce76c4a3ada096194653", func := "loop.example/g00230/laws.FnExactAhead", spec := "fnExactAhead", apart := false }
def FnExactAheadSaid : Prop := fnExactAheadRow.holds Try.pinned (OpenSpec.ofChange fnExactAheadSpec)

/-- ITS FALSE NEIGHBOUR: 'it returns false'. Refute it at one input. -/
def fnExactAheadWrong : ChangeSpec := { name := "fnExactAhead", fn := fun _ => fun
  | [d1, d2] => { results := [.lit (.bool false)], args := [d1, d2] }
  | _ => none }
def FnExactAheadWrongFalsely : Prop := fnExactAheadRow.holds Try.pinned (OpenSpec.ofChange fnExactAheadWrong)

/-- 'laws.FnExactIsAhead': WHATEVER THE INPUT: true; the input reads as it did. -/
def fnExactIsAheadSpec : ChangeSpec := { name := "fnExactIsAhead", fn := fun _ => fun
  | [d1, d2] => { results := [.lit (.bool true)], args := [d1, d2] }
  | _ => none }
def fnExactIsAheadRow : OpenClaim := { program := "ytdcbkphaoeckmag", sum := "8585600108e588765cea92d92bfe1be75513129e3dccce76c4a3ada096194653", func := "loop.example/g00230/laws.FnExactIsAhead", spec := "fnExactIsAhead", apart := false }
def FnExactIsAheadSaid : Prop := fnExactIsAheadRow.holds Try.pinned (OpenSpec.ofChange fnExactIsAheadSpec)

/-- ITS FALSE NEIGHBOUR: 'it returns false'. Refute it at one input. -/
def fnExactIsAheadWrong : ChangeSpec := { name := "fnExactIsAhead", fn := fun _ => fun
  | [d1, d2] => { results := [.lit (.bool false)], args := [d1, d2] }
  | _ => none }
def FnExactIsAheadWrongFalsely : Prop := fnExactIsAheadRow.holds Try.pinned (OpenSpec.ofChange fnExactIsAheadWrong)

/-- 'laws.FnExactInSpan': WHATEVER THE INPUT: true; the input reads as it did. -/
def fnExactInSpanSpec : ChangeSpec := { name := "fnExactInSpan", fn := fun _ => fun
  | [d1, d2, d3] => { results := [.lit (.bool true)], args := [d1, d2, d3] }
  | _ => none }
def fnExactInSpanRow : OpenClaim := { program := "ytdcbkphaoeckmag", sum := "8585600108e588765cea92d92bfe1be75513129e3dccce76c4a3ada096194653", func := "loop.example/g00230/laws.FnExactInSpan", spec := "fnExactInSpan", apart := false }
def FnExactInSpanSaid : Prop := fnExactInSpanRow.holds Try.pinned (OpenSpec.ofChange fnExactInSpanSpec)

/-- ITS FALSE NEIGHBOUR: 'it returns false'. Refute it at one input. -/
def fnExactInSpanWrong : ChangeSpec := { name := "fnExactInSpan", fn := fun _ => fun
  | [d1, d2, d3] => { results := [.lit (.bool false)], args := [d1, d2, d3] }
  | _ => none }
def FnExactInSpanWrongFalsely : Prop := fnExactInSpanRow.holds Try.pinned (OpenSpec.ofChange fnExactInSpanWrong)

/- THE SECOND FORM. 'bulk': how many values and letters a reading holds, each counted each time it is reached (what is shared counts as often as it is met; a slice's spare places count too). A statement '..UptoSaid' is the law's where the arguments, and the package variables that the reading takes, are together of bulk at most 1048576: NARROWER than '..Said'. Prove '..Said' where nothing that the law and all that it calls make is longer than what came in: it says more and counts as full. Else prove '..UptoSaid'. A law counts once. -/
mutual
def uptoBulk {H : Type} : DataW H → Nat
  | .lit (.string bytes) => bytes.length + 1
  | .lit _ => 1
  | .nil => 1
  | .ptr d => uptoBulk d + 1
  | .slice elems spare => uptoBulkAll elems + uptoBulkAll spare + 1
  | .agg parts => uptoBulkAll parts + 1
  | .iface _ d => uptoBulk d + 1
  | .map entries => uptoBulkEntries entries + 1
  | .held _ => 1
def uptoBulkAll {H : Type} : List (DataW H) → Nat
  | [] => 0
  | d :: r => uptoBulk d + uptoBulkAll r
def uptoBulkEntries {H : Type} : List (Lit × DataW H) → Nat
  | [] => 0
  | x :: r => uptoBulkEntry x + uptoBulkEntries r
def uptoBulkEntry {H : Type} : Lit × DataW H → Nat
  | (.string bytes, d) => bytes.length + uptoBulk d + 1
  | (_, d) => uptoBulk d + 1
 end
def uptoSmall : (H : Type) → List (DataW H) → Bool := fun _ ds => decide (uptoBulkAll ds ≤ 1048576)
def OpenSpec.upto (s : _root_.Go.ChangeSpec) : _root_.Go.OpenSpec := { _root_.Go.OpenSpec.ofChange s with cond := some uptoSmall }

/-- 'laws.FnExactWrapNumber', WHERE WHAT IT READS IS OF BULK AT MOST 1048576: true; the input reads as it did. -/
def fnExactWrapNumberUptoRow : OpenClaim := { program := "ytdcbkphaoeckmag", sum := "8585600108e588765cea92d92bfe1be75513129e3dccce76c4a3ada096194653", func := "loop.example/g00230/laws.FnExactWrapNumber", spec := "fnExactWrapNumber", apart := false, narrowed := true }
def FnExactWrapNumberUptoSaid : Prop := fnExactWrapNumberUptoRow.holds Try.pinned (OpenSpec.upto fnExactWrapNumberSpec)

/-- 'laws.FnExactAddNumber', WHERE WHAT IT READS IS OF BULK AT MOST 1048576: true; the input reads as it did. -/
def fnExactAddNumberUptoRow : OpenClaim := { program := "ytdcbkphaoeckmag", sum := "8585600108e588765cea92d92bfe1be75513129e3dccce76c4a3ada096194653", func := "loop.example/g00230/laws.FnExactAddNumber", spec := "fnExactAddNumber", apart := false, narrowed := true }
def FnExactAddNumberUptoSaid : Prop := fnExactAddNumberUptoRow.holds Try.pinned (OpenSpec.upto fnExactAddNumberSpec)

/-- 'laws.FnExactAhead', WHERE WHAT IT READS IS OF BULK AT MOST 1048576: true; the input reads as it did. -/
def fnExactAheadUptoRow : OpenClaim := { program := "ytdcbkphaoeckmag", sum := "8585600108e588765cea92d92bfe1be75513129e3dccce76c4a3ada096194653", func := "loop.example/g00230/laws.FnExactAhead", spec := "fnExactAhead", apart := false, narrowed := true }
def FnExactAheadUptoSaid : Prop := fnExactAheadUptoRow.holds Try.pinned (OpenSpec.upto fnExactAheadSpec)

/-- 'laws.FnExactIsAhead', WHERE WHAT IT READS IS OF BULK AT MOST 1048576: true; the input reads as it did. -/
def fnExactIsAheadUptoRow : OpenClaim := { program := "ytdcbkphaoeckmag", sum := "8585600108e588765cea92d92bfe1be75513129e3dccce76c4a3ada096194653", func := "loop.example/g00230/laws.FnExactIsAhead", spec := "fnExactIsAhead", apart := false, narrowed := true }
def FnExactIsAheadUptoSaid : Prop := fnExactIsAheadUptoRow.holds Try.pinned (OpenSpec.upto fnExactIsAheadSpec)

/-- 'laws.FnExactInSpan', WHERE WHAT IT READS IS OF BULK AT MOST 1048576: true; the input reads as it did. -/
def fnExactInSpanUptoRow : OpenClaim := { program := "ytdcbkphaoeckmag", sum := "8585600108e588765cea92d92bfe1be75513129e3dccce76c4a3ada096194653", func := "loop.example/g00230/laws.FnExactInSpan", spec := "fnExactInSpan", apart := false, narrowed := true }
def FnExactInSpanUptoSaid : Prop := fnExactInSpanUptoRow.holds Try.pinned (OpenSpec.upto fnExactInSpanSpec)

end Rows
end Go.Proofs.Ytdcbkphaoeckmag
