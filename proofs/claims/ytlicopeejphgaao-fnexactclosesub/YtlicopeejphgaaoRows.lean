/-
  No cell of these rows narrows 'for every input' (looked for: loops, veiled, ifaces, maps, wideKeys, modest, calm, conditions, laid).
  DERIVED. THE GIVEN ROWS OF THIS SEAT. 5 by the template 'for every input the law returns true; each argument reads behind the call as it read before'; 0 by the template 'total and deterministic' (their statements: YtlicopeejphgaaoTotals.lean).
  GIVEN WITH THE SEED: the statements are not yours to turn. If you find one false, say at which input.
  Laid BY PROGRAM, IN A SANDBOX (cutbox-rows.mjs): the forced cells as the released guide's own fill.sh prints them over the translation 0e3f83379e838fad… (all of the seat's roots in one cut). By AI agents, Wed Nov 11 2026. No macro, syntax, notation, axiom, sorry.
-/
import Derived.Test.YtlicopeejphgaaoChecked
import GoSem.Claim
import GoSem.ClaimJoined
import GoSem.ClaimMapViews
import Derived.JoinedTies
import Derived.KernelRfl
namespace Go.Proofs.Ytlicopeejphgaao
/- THE CELL 'sum', in the pinned program and in every row, IS THE sha256 OF THE DUMP (.gsa) THAT YtlicopeejphgaaoProg.lean LOADS. Nothing in Lean hashes anything: it is a label: what it is worth is what the hold of that sum in a sandbox is worth. -/
noncomputable def Try.pinned : Pinned := { name := "ytlicopeejphgaao", sum := "0e3f83379e838fad7bf872228ead32d27df73a39d0ae7d2858836e128254a7ed", checked := Try.checked }
namespace Rows
def none {H : Type} : Left H := { results := [], args := [] }

/-- 'laws.FnExactRoomOf': WHATEVER THE INPUT: true; the input reads as it did. -/
def fnExactRoomOfSpec : ChangeSpec := { name := "fnExactRoomOf", fn := fun _ => fun
  | [d] => { results := [.lit (.bool true)], args := [d] }
  | _ => none }
def fnExactRoomOfRow : OpenClaim := { program := "ytlicopeejphgaao", sum := "0e3f83379e838fad7bf872228ead32d27df73a39d0ae7d2858836e128254a7ed", func := "loop.example/g00230/laws.FnExactRoomOf", spec := "fnExactRoomOf", apart := false }
def FnExactRoomOfSaid : Prop := fnExactRoomOfRow.holds Try.pinned (OpenSpec.ofChange fnExactRoomOfSpec)

/-- ITS FALSE NEIGHBOUR: 'it returns false'. Refute it at one input. -/
def fnExactRoomOfWrong : ChangeSpec := { name := "fnExactRoomOf", fn := fun _ => fun
  | [d] => { results := [.lit (.bool false)], args := [d] }
  | _ => none }
def FnExactRoomOfWrongFalsely : Prop := fnExactRoomOfRow.holds Try.pinned (OpenSpec.ofChange fnExactRoomOfWrong)

/-- 'laws.FnExactStaleOf': WHATEVER THE INPUT: true; the input reads as it did. -/
def fnExactStaleOfSpec : ChangeSpec := { name := "fnExactStaleOf", fn := fun _ => fun
  | [d] => { results := [.lit (.bool true)], args := [d] }
  | _ => none }
def fnExactStaleOfRow : OpenClaim := { program := "ytlicopeejphgaao", sum := "0e3f83379e838fad7bf872228ead32d27df73a39d0ae7d2858836e128254a7ed", func := "loop.example/g00230/laws.FnExactStaleOf", spec := "fnExactStaleOf", unfollowed := true, recurses := true, apart := false }
def FnExactStaleOfSaid : Prop := fnExactStaleOfRow.holds Try.pinned (OpenSpec.ofChange fnExactStaleOfSpec)

/-- ITS FALSE NEIGHBOUR: 'it returns false'. Refute it at one input. -/
def fnExactStaleOfWrong : ChangeSpec := { name := "fnExactStaleOf", fn := fun _ => fun
  | [d] => { results := [.lit (.bool false)], args := [d] }
  | _ => none }
def FnExactStaleOfWrongFalsely : Prop := fnExactStaleOfRow.holds Try.pinned (OpenSpec.ofChange fnExactStaleOfWrong)

/-- 'laws.FnExactCloseSub': WHATEVER THE INPUT: true; the input reads as it did. -/
def fnExactCloseSubSpec : ChangeSpec := { name := "fnExactCloseSub", fn := fun _ => fun
  | [d] => { results := [.lit (.bool true)], args := [d] }
  | _ => none }
def fnExactCloseSubRow : OpenClaim := { program := "ytlicopeejphgaao", sum := "0e3f83379e838fad7bf872228ead32d27df73a39d0ae7d2858836e128254a7ed", func := "loop.example/g00230/laws.FnExactCloseSub", spec := "fnExactCloseSub", apart := false }
def FnExactCloseSubSaid : Prop := fnExactCloseSubRow.holds Try.pinned (OpenSpec.ofChange fnExactCloseSubSpec)

/-- ITS FALSE NEIGHBOUR: 'it returns false'. Refute it at one input. -/
def fnExactCloseSubWrong : ChangeSpec := { name := "fnExactCloseSub", fn := fun _ => fun
  | [d] => { results := [.lit (.bool false)], args := [d] }
  | _ => none }
def FnExactCloseSubWrongFalsely : Prop := fnExactCloseSubRow.holds Try.pinned (OpenSpec.ofChange fnExactCloseSubWrong)

/-- 'laws.FnExactCoversData': WHATEVER THE INPUT: true; the input reads as it did. -/
def fnExactCoversDataSpec : ChangeSpec := { name := "fnExactCoversData", fn := fun _ => fun
  | [d1, d2, d3] => { results := [.lit (.bool true)], args := [d1, d2, d3] }
  | _ => none }
def fnExactCoversDataRow : OpenClaim := { program := "ytlicopeejphgaao", sum := "0e3f83379e838fad7bf872228ead32d27df73a39d0ae7d2858836e128254a7ed", func := "loop.example/g00230/laws.FnExactCoversData", spec := "fnExactCoversData", unfollowed := true, recurses := true, apart := false }
def FnExactCoversDataSaid : Prop := fnExactCoversDataRow.holds Try.pinned (OpenSpec.ofChange fnExactCoversDataSpec)

/-- ITS FALSE NEIGHBOUR: 'it returns false'. Refute it at one input. -/
def fnExactCoversDataWrong : ChangeSpec := { name := "fnExactCoversData", fn := fun _ => fun
  | [d1, d2, d3] => { results := [.lit (.bool false)], args := [d1, d2, d3] }
  | _ => none }
def FnExactCoversDataWrongFalsely : Prop := fnExactCoversDataRow.holds Try.pinned (OpenSpec.ofChange fnExactCoversDataWrong)

/-- 'laws.FnExactConnFault': WHATEVER THE INPUT: true; the input reads as it did. -/
def fnExactConnFaultSpec : ChangeSpec := { name := "fnExactConnFault", fn := fun _ => fun
  | [d] => { results := [.lit (.bool true)], args := [d] }
  | _ => none }
def fnExactConnFaultRow : OpenClaim := { program := "ytlicopeejphgaao", sum := "0e3f83379e838fad7bf872228ead32d27df73a39d0ae7d2858836e128254a7ed", func := "loop.example/g00230/laws.FnExactConnFault", spec := "fnExactConnFault", unfollowed := true, recurses := true, apart := false }
def FnExactConnFaultSaid : Prop := fnExactConnFaultRow.holds Try.pinned (OpenSpec.ofChange fnExactConnFaultSpec)

/-- ITS FALSE NEIGHBOUR: 'it returns false'. Refute it at one input. -/
def fnExactConnFaultWrong : ChangeSpec := { name := "fnExactConnFault", fn := fun _ => fun
  | [d] => { results := [.lit (.bool false)], args := [d] }
  | _ => none }
def FnExactConnFaultWrongFalsely : Prop := fnExactConnFaultRow.holds Try.pinned (OpenSpec.ofChange fnExactConnFaultWrong)

/- THE SECOND FORM. 'bulk': how many values and letters a reading holds, each counted each time it is reached (what is shared counts as often as it is met; a slice's spare places count too). A statement '..UptoSaid' is the law's where the arguments, and the package variables that the reading takes, are together of bulk at most 1048576: NARROWER than '..Said'. Prove '..Said' where nothing that the law and all that it calls make is longer than what came in: it says more and counts as full. Else prove '..UptoSaid'. A law counts once. -/
mutual
def uptoBulk {H : Type} : DataW H → Nat
  | .lit (.string bytes) => bytes.length + 1
  | .lit _ => 1
  | .nil => 1
  | .ptr d => uptoBulk d + 1
  | .slice elems spare => uptoBulkAll elems + uptoBulkAll spare + 1
  | .agg parts => uptoBulkAll parts + 1
  | .iface _ d => uptoBulk d + 1
  | .map entries => uptoBulkEntries entries + 1
  | .held _ => 1
def uptoBulkAll {H : Type} : List (DataW H) → Nat
  | [] => 0
  | d :: r => uptoBulk d + uptoBulkAll r
def uptoBulkEntries {H : Type} : List (Lit × DataW H) → Nat
  | [] => 0
  | x :: r => uptoBulkEntry x + uptoBulkEntries r
def uptoBulkEntry {H : Type} : Lit × DataW H → Nat
  | (.string bytes, d) => bytes.length + uptoBulk d + 1
  | (_, d) => uptoBulk d + 1
 end
def uptoSmall : (H : Type) → List (DataW H) → Bool := fun _ ds => decide (uptoBulkAll ds ≤ 1048576)
def OpenSpec.upto (s : _root_.Go.ChangeSpec) : _root_.Go.OpenSpec := { _root_.Go.OpenSpec.ofChange s with cond := some uptoSmall }

/-- 'laws.FnExactRoomOf', WHERE WHAT IT READS IS OF BULK AT MOST 1048576: true; the input reads as it did. -/
def fnExactRoomOfUptoRow : OpenClaim := { program := "ytlicopeejphgaao", sum := "0e3f83379e838fad7bf872228ead32d27df73a39d0ae7d2858836e128254a7ed", func := "loop.example/g00230/laws.FnExactRoomOf", spec := "fnExactRoomOf", apart := false, narrowed := true }
def FnExactRoomOfUptoSaid : Prop := fnExactRoomOfUptoRow.holds Try.pinned (OpenSpec.upto fnExactRoomOfSpec)

/-- 'laws.FnExactStaleOf', WHERE WHAT IT READS IS OF BULK AT MOST 1048576: true; the input reads as it did. -/
def fnExactStaleOfUptoRow : OpenClaim := { program := "ytlicopeejphgaao", sum := "0e3f83379e838fad7bf872228ead32d27df73a39d0ae7d2858836e128254a7ed", func := "loop.example/g00230/laws.FnExactStaleOf", spec := "fnExactStaleOf", unfollowed := true, recurses := true, apart := false, narrowed := true }
def FnExactStaleOfUptoSaid : Prop := fnExactStaleOfUptoRow.holds Try.pinned (OpenSpec.upto fnExactStaleOfSpec)

/-- 'laws.FnExactCloseSub', WHERE WHAT IT READS IS OF BULK AT MOST 1048576: true; the input reads as it did. -/
def fnExactCloseSubUptoRow : OpenClaim := { program := "ytlicopeejphgaao", sum := "0e3f83379e838fad7bf872228ead32d27df73a39d0ae7d2858836e128254a7ed", func := "loop.example/g00230/laws.FnExactCloseSub", spec := "fnExactCloseSub", apart := false, narrowed := true }
def FnExactCloseSubUptoSaid : Prop := fnExactCloseSubUptoRow.holds Try.pinned (OpenSpec.upto fnExactCloseSubSpec)

/-- 'laws.FnExactCoversData', WHERE WHAT IT READS IS OF BULK AT MOST 1048576: true; the input reads as it did. -/
def fnExactCoversDataUptoRow : OpenClaim := { program := "ytlicopeejphgaao", sum := "0e3f83379e838fad7bf872228ead32d27df73a39d0ae7d2858836e128254a7ed", func := "loop.example/g00230/laws.FnExactCoversData", spec := "fnExactCoversData", unfollowed := true, recurses := true, apart := false, narrowed := true }
def FnExactCoversDataUptoSaid : Prop := fnExactCoversDataUptoRow.holds Try.pinned (OpenSpec.upto fnExactCoversDataSpec)

/-- 'laws.FnExactConnFault', WHERE WHAT IT READS IS OF BULK AT MOST 1048576: true; the input reads as it did. -/
def fnExactConnFaultUptoRow : OpenClaim := { program := "ytlicopeejphgaao", sum := "0e3f83379e838fad7bf872228ead32d27df73a39d0ae7d2858836e128254a7ed", func := "loop.example/g00230/laws.FnExactConnFault", spec := "fnExactConnFault", unfollowed := true, recurses := true, apart := false, narrowed := true }
def FnExactConnFaultUptoSaid : Prop := fnExactConnFaultUptoRow.holds Try.pinned (OpenSpec.upto fnExactConnFaultSpec)

end Rows
end Go.Proofs.Ytlicopeejphgaao
