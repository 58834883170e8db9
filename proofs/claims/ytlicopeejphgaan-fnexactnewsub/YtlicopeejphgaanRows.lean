/-
  No cell of these rows narrows 'for every input' (looked for: loops, veiled, ifaces, maps, wideKeys, modest, calm, conditions, laid).
  DERIVED. THE GIVEN ROWS OF THIS SEAT. 6 by the template 'for every input the law returns true; each argument reads behind the call as it read before'; 0 by the template 'total and deterministic' (their statements: YtlicopeejphgaanTotals.lean).
  GIVEN WITH THE SEED: the statements are not yours to turn. If you find one false, say at which input.
  Laid BY PROGRAM, IN A SANDBOX (cutbox-rows.mjs): the forced cells as the released guide's own fill.sh prints them over the translation 5772aa9705079910… (all of the seat's roots in one cut). By AI agents, Wed Nov 11 2026. No macro, syntax, notation, axiom, sorry.
-/
import Derived.Test.YtlicopeejphgaanChecked
import GoSem.Claim
import GoSem.ClaimJoined
import GoSem.ClaimMapViews
import Derived.JoinedTies
import Derived.KernelRfl
namespace Go.Proofs.Ytlicopeejphgaan
/- THE CELL 'sum', in the pinned program and in every row, IS THE sha256 OF THE DUMP (.gsa) THAT YtlicopeejphgaanProg.lean LOADS. Nothing in Lean hashes anything: it is a label: what it is worth is what the hold of that sum in a sandbox is worth. -/
noncomputable def Try.pinned : Pinned := { name := "ytlicopeejphgaan", sum := "5772aa97050799102dd1f291ed91e5132d0e2b896db4be7676b3dcbdb2c9127b", checked := Try.checked }
namespace Rows
def none {H : Type} : Left H := { results := [], args := [] }

/-- 'laws.FnExactTakeSpan': WHATEVER THE INPUT: true; the input reads as it did. -/
def fnExactTakeSpanSpec : ChangeSpec := { name := "fnExactTakeSpan", fn := fun _ => fun
  | [d1, d2, d3] => { results := [.lit (.bool true)], args := [d1, d2, d3] }
  | _ => none }
def fnExactTakeSpanRow : OpenClaim := { program := "ytlicopeejphgaan", sum := "5772aa97050799102dd1f291ed91e5132d0e2b896db4be7676b3dcbdb2c9127b", func := "loop.example/g00230/laws.FnExactTakeSpan", spec := "fnExactTakeSpan", unfollowed := true, recurses := true, apart := false }
def FnExactTakeSpanSaid : Prop := fnExactTakeSpanRow.holds Try.pinned (OpenSpec.ofChange fnExactTakeSpanSpec)

/-- ITS FALSE NEIGHBOUR: 'it returns false'. Refute it at one input. -/
def fnExactTakeSpanWrong : ChangeSpec := { name := "fnExactTakeSpan", fn := fun _ => fun
  | [d1, d2, d3] => { results := [.lit (.bool false)], args := [d1, d2, d3] }
  | _ => none }
def FnExactTakeSpanWrongFalsely : Prop := fnExactTakeSpanRow.holds Try.pinned (OpenSpec.ofChange fnExactTakeSpanWrong)

/-- 'laws.FnExactPlaceOfSeq': WHATEVER THE INPUT: true; the input reads as it did. -/
def fnExactPlaceOfSeqSpec : ChangeSpec := { name := "fnExactPlaceOfSeq", fn := fun _ => fun
  | [d1, d2] => { results := [.lit (.bool true)], args := [d1, d2] }
  | _ => none }
def fnExactPlaceOfSeqRow : OpenClaim := { program := "ytlicopeejphgaan", sum := "5772aa97050799102dd1f291ed91e5132d0e2b896db4be7676b3dcbdb2c9127b", func := "loop.example/g00230/laws.FnExactPlaceOfSeq", spec := "fnExactPlaceOfSeq", apart := false }
def FnExactPlaceOfSeqSaid : Prop := fnExactPlaceOfSeqRow.holds Try.pinned (OpenSpec.ofChange fnExactPlaceOfSeqSpec)

/-- ITS FALSE NEIGHBOUR: 'it returns false'. Refute it at one input. -/
def fnExactPlaceOfSeqWrong : ChangeSpec := { name := "fnExactPlaceOfSeq", fn := fun _ => fun
  | [d1, d2] => { results := [.lit (.bool false)], args := [d1, d2] }
  | _ => none }
def FnExactPlaceOfSeqWrongFalsely : Prop := fnExactPlaceOfSeqRow.holds Try.pinned (OpenSpec.ofChange fnExactPlaceOfSeqWrong)

/-- 'laws.FnExactAckOf': WHATEVER THE INPUT: true; the input reads as it did. -/
def fnExactAckOfSpec : ChangeSpec := { name := "fnExactAckOf", fn := fun _ => fun
  | [d] => { results := [.lit (.bool true)], args := [d] }
  | _ => none }
def fnExactAckOfRow : OpenClaim := { program := "ytlicopeejphgaan", sum := "5772aa97050799102dd1f291ed91e5132d0e2b896db4be7676b3dcbdb2c9127b", func := "loop.example/g00230/laws.FnExactAckOf", spec := "fnExactAckOf", apart := false }
def FnExactAckOfSaid : Prop := fnExactAckOfRow.holds Try.pinned (OpenSpec.ofChange fnExactAckOfSpec)

/-- ITS FALSE NEIGHBOUR: 'it returns false'. Refute it at one input. -/
def fnExactAckOfWrong : ChangeSpec := { name := "fnExactAckOf", fn := fun _ => fun
  | [d] => { results := [.lit (.bool false)], args := [d] }
  | _ => none }
def FnExactAckOfWrongFalsely : Prop := fnExactAckOfRow.holds Try.pinned (OpenSpec.ofChange fnExactAckOfWrong)

/-- 'laws.FnExactCaughtOf': WHATEVER THE INPUT: true; the input reads as it did. -/
def fnExactCaughtOfSpec : ChangeSpec := { name := "fnExactCaughtOf", fn := fun _ => fun
  | [d] => { results := [.lit (.bool true)], args := [d] }
  | _ => none }
def fnExactCaughtOfRow : OpenClaim := { program := "ytlicopeejphgaan", sum := "5772aa97050799102dd1f291ed91e5132d0e2b896db4be7676b3dcbdb2c9127b", func := "loop.example/g00230/laws.FnExactCaughtOf", spec := "fnExactCaughtOf", apart := false }
def FnExactCaughtOfSaid : Prop := fnExactCaughtOfRow.holds Try.pinned (OpenSpec.ofChange fnExactCaughtOfSpec)

/-- ITS FALSE NEIGHBOUR: 'it returns false'. Refute it at one input. -/
def fnExactCaughtOfWrong : ChangeSpec := { name := "fnExactCaughtOf", fn := fun _ => fun
  | [d] => { results := [.lit (.bool false)], args := [d] }
  | _ => none }
def FnExactCaughtOfWrongFalsely : Prop := fnExactCaughtOfRow.holds Try.pinned (OpenSpec.ofChange fnExactCaughtOfWrong)

/-- 'laws.FnExactSubFault': WHATEVER THE INPUT: true; the input reads as it did. -/
def fnExactSubFaultSpec : ChangeSpec := { name := "fnExactSubFault", fn := fun _ => fun
  | [d] => { results := [.lit (.bool true)], args := [d] }
  | _ => none }
def fnExactSubFaultRow : OpenClaim := { program := "ytlicopeejphgaan", sum := "5772aa97050799102dd1f291ed91e5132d0e2b896db4be7676b3dcbdb2c9127b", func := "loop.example/g00230/laws.FnExactSubFault", spec := "fnExactSubFault", apart := false }
def FnExactSubFaultSaid : Prop := fnExactSubFaultRow.holds Try.pinned (OpenSpec.ofChange fnExactSubFaultSpec)

/-- ITS FALSE NEIGHBOUR: 'it returns false'. Refute it at one input. -/
def fnExactSubFaultWrong : ChangeSpec := { name := "fnExactSubFault", fn := fun _ => fun
  | [d] => { results := [.lit (.bool false)], args := [d] }
  | _ => none }
def FnExactSubFaultWrongFalsely : Prop := fnExactSubFaultRow.holds Try.pinned (OpenSpec.ofChange fnExactSubFaultWrong)

/-- 'laws.FnExactNewSub': WHATEVER THE INPUT: true; the input reads as it did. -/
def fnExactNewSubSpec : ChangeSpec := { name := "fnExactNewSub", fn := fun _ => fun
  | [d1, d2, d3, d4, d5] => { results := [.lit (.bool true)], args := [d1, d2, d3, d4, d5] }
  | _ => none }
def fnExactNewSubRow : OpenClaim := { program := "ytlicopeejphgaan", sum := "5772aa97050799102dd1f291ed91e5132d0e2b896db4be7676b3dcbdb2c9127b", func := "loop.example/g00230/laws.FnExactNewSub", spec := "fnExactNewSub", apart := false }
def FnExactNewSubSaid : Prop := fnExactNewSubRow.holds Try.pinned (OpenSpec.ofChange fnExactNewSubSpec)

/-- ITS FALSE NEIGHBOUR: 'it returns false'. Refute it at one input. -/
def fnExactNewSubWrong : ChangeSpec := { name := "fnExactNewSub", fn := fun _ => fun
  | [d1, d2, d3, d4, d5] => { results := [.lit (.bool false)], args := [d1, d2, d3, d4, d5] }
  | _ => none }
def FnExactNewSubWrongFalsely : Prop := fnExactNewSubRow.holds Try.pinned (OpenSpec.ofChange fnExactNewSubWrong)

/- THE SECOND FORM. 'bulk': how many values and letters a reading holds, each counted each time it is reached (what is shared counts as often as it is met; a slice's spare places count too). A statement '..UptoSaid' is the law's where the arguments, and the package variables that the reading takes, are together of bulk at most 1048576: NARROWER than '..Said'. Prove '..Said' where nothing that the law and all that it calls make is longer than what came in: it says more and counts as full. Else prove '..UptoSaid'. A law counts once. -/
mutual
def uptoBulk {H : Type} : DataW H → Nat
  | .lit (.string bytes) => bytes.length + 1
  | .lit _ => 1
  | .nil => 1
  | .ptr d => uptoBulk d + 1
  | .slice elems spare => uptoBulkAll elems + uptoBulkAll spare + 1
  | .agg parts => uptoBulkAll parts + 1
  | .iface _ d => uptoBulk d + 1
  | .map entries => uptoBulkEntries entries + 1
  | .held _ => 1
def uptoBulkAll {H : Type} : List (DataW H) → Nat
  | [] => 0
  | d :: r => uptoBulk d + uptoBulkAll r
def uptoBulkEntries {H : Type} : List (Lit × DataW H) → Nat
  | [] => 0
  | x :: r => uptoBulkEntry x + uptoBulkEntries r
def uptoBulkEntry {H : Type} : Lit × DataW H → Nat
  | (.string bytes, d) => bytes.length + uptoBulk d + 1
  | (_, d) => uptoBulk d + 1
 end
def uptoSmall : (H : Type) → List (DataW H) → Bool := fun _ ds => decide (uptoBulkAll ds ≤ 1048576)
def OpenSpec.upto (s : _root_.Go.ChangeSpec) : _root_.Go.OpenSpec := { _root_.Go.OpenSpec.ofChange s with cond := some uptoSmall }

/-- 'laws.FnExactTakeSpan', WHERE WHAT IT READS IS OF BULK AT MOST 1048576: true; the input reads as it did. -/
def fnExactTakeSpanUptoRow : OpenClaim := { program := "ytlicopeejphgaan", sum := "5772aa97050799102dd1f291ed91e5132d0e2b896db4be7676b3dcbdb2c9127b", func := "loop.example/g00230/laws.FnExactTakeSpan", spec := "fnExactTakeSpan", unfollowed := true, recurses := true, apart := false, narrowed := true }
def FnExactTakeSpanUptoSaid : Prop := fnExactTakeSpanUptoRow.holds Try.pinned (OpenSpec.upto fnExactTakeSpanSpec)

/-- 'laws.FnExactPlaceOfSeq', WHERE WHAT IT READS IS OF BULK AT MOST 1048576: true; the input reads as it did. -/
def fnExactPlaceOfSeqUptoRow : OpenClaim := { program := "ytlicopeejphgaan", sum := "5772aa97050799102dd1f291ed91e5132d0e2b896db4be7676b3dcbdb2c9127b", func := "loop.example/g00230/laws.FnExactPlaceOfSeq", spec := "fnExactPlaceOfSeq", apart := false, narrowed := true }
def FnExactPlaceOfSeqUptoSaid : Prop := fnExactPlaceOfSeqUptoRow.holds Try.pinned (OpenSpec.upto fnExactPlaceOfSeqSpec)

/-- 'laws.FnExactAckOf', WHERE WHAT IT READS IS OF BULK AT MOST 1048576: true; the input reads as it did. -/
def fnExactAckOfUptoRow : OpenClaim := { program := "ytlicopeejphgaan", sum := "5772aa97050799102dd1f291ed91e5132d0e2b896db4be7676b3dcbdb2c9127b", func := "loop.example/g00230/laws.FnExactAckOf", spec := "fnExactAckOf", apart := false, narrowed := true }
def FnExactAckOfUptoSaid : Prop := fnExactAckOfUptoRow.holds Try.pinned (OpenSpec.upto fnExactAckOfSpec)

/-- 'laws.FnExactCaughtOf', WHERE WHAT IT READS IS OF BULK AT MOST 1048576: true; the input reads as it did. -/
def fnExactCaughtOfUptoRow : OpenClaim := { program := "ytlicopeejphgaan", sum := "5772aa97050799102dd1f291ed91e5132d0e2b896db4be7676b3dcbdb2c9127b", func := "loop.example/g00230/laws.FnExactCaughtOf", spec := "fnExactCaughtOf", apart := false, narrowed := true }
def FnExactCaughtOfUptoSaid : Prop := fnExactCaughtOfUptoRow.holds Try.pinned (OpenSpec.upto fnExactCaughtOfSpec)

/-- 'laws.FnExactSubFault', WHERE WHAT IT READS IS OF BULK AT MOST 1048576: true; the input reads as it did. -/
def fnExactSubFaultUptoRow : OpenClaim := { program := "ytlicopeejphgaan", sum := "5772aa97050799102dd1f291ed91e5132d0e2b896db4be7676b3dcbdb2c9127b", func := "loop.example/g00230/laws.FnExactSubFault", spec := "fnExactSubFault", apart := false, narrowed := true }
def FnExactSubFaultUptoSaid : Prop := fnExactSubFaultUptoRow.holds Try.pinned (OpenSpec.upto fnExactSubFaultSpec)

/-- 'laws.FnExactNewSub', WHERE WHAT IT READS IS OF BULK AT MOST 1048576: true; the input reads as it did. -/
def fnExactNewSubUptoRow : OpenClaim := { program := "ytlicopeejphgaan", sum := "5772aa97050799102dd1f291ed91e5132d0e2b896db4be7676b3dcbdb2c9127b", func := "loop.example/g00230/laws.FnExactNewSub", spec := "fnExactNewSub", apart := false, narrowed := true }
def FnExactNewSubUptoSaid : Prop := fnExactNewSubUptoRow.holds Try.pinned (OpenSpec.upto fnExactNewSubSpec)

end Rows
end Go.Proofs.Ytlicopeejphgaan
