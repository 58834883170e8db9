/-
  No cell of these rows narrows 'for every input' (looked for: loops, veiled, ifaces, maps, wideKeys, modest, calm, conditions, laid).
  DERIVED. THE GIVEN ROWS OF THIS SEAT. 6 by the template 'for every input the law returns true; each argument reads behind the call as it read before'; 0 by the template 'total and deterministic' (their statements: YtlicopeejphgaajTotals.lean).
  GIVEN WITH THE SEED: the statements are not yours to turn. If you find one false, say at which input.
  Laid BY PROGRAM, IN A SANDBOX (cutbox-rows.mjs): the forced cells as the released guide's own fill.sh prints them over the translation 0b18c384d6f0a3d4… (all of the seat's roots in one cut). By AI agents, Wed Nov 11 2026. No macro, syntax, notation, axiom, sorry.
-/
import Derived.Test.YtlicopeejphgaajChecked
import GoSem.Claim
import GoSem.ClaimJoined
import GoSem.ClaimMapViews
import Derived.JoinedTies
import Derived.KernelRfl
namespace Go.Proofs.Ytlicopeejphgaaj
/- THE CELL 'sum', in the pinned program and in every row, IS THE sha256 OF THE DUMP (.gsa) THAT YtlicopeejphgaajProg.lean LOADS. Nothing in Lean hashes anything: it is a label: what it is worth is what the hold of that sum in a sandbox is worth. -/
noncomputable def Try.pinned : Pinned := { name := "ytlicopeejphgaaj", sum := "0b18c384d6f0a3d43a13472e1205ab8fe8ff4646409b56bdb0cf1405d8072b03", checked := Try.checked }
namespace Rows
def none {H : Type} : Left H := { results := [], args := [] }

/-- 'laws.FnExactMissingOf': WHATEVER THE INPUT: true; the input reads as it did. -/
def fnExactMissingOfSpec : ChangeSpec := { name := "fnExactMissingOf", fn := fun _ => fun
  | [d] => { results := [.lit (.bool true)], args := [d] }
  | _ => none }
def fnExactMissingOfRow : OpenClaim := { program := "ytlicopeejphgaaj", sum := "0b18c384d6f0a3d43a13472e1205ab8fe8ff4646409b56bdb0cf1405d8072b03", func := "loop.example/g00230/laws.FnExactMissingOf", spec := "fnExactMissingOf", apart := false }
def FnExactMissingOfSaid : Prop := fnExactMissingOfRow.holds Try.pinned (OpenSpec.ofChange fnExactMissingOfSpec)

/-- ITS FALSE NEIGHBOUR: 'it returns false'. Refute it at one input. -/
def fnExactMissingOfWrong : ChangeSpec := { name := "fnExactMissingOf", fn := fun _ => fun
  | [d] => { results := [.lit (.bool false)], args := [d] }
  | _ => none }
def FnExactMissingOfWrongFalsely : Prop := fnExactMissingOfRow.holds Try.pinned (OpenSpec.ofChange fnExactMissingOfWrong)

/-- 'laws.FnExactFitsStream': WHATEVER THE INPUT: true; the input reads as it did. -/
def fnExactFitsStreamSpec : ChangeSpec := { name := "fnExactFitsStream", fn := fun _ => fun
  | [d1, d2] => { results := [.lit (.bool true)], args := [d1, d2] }
  | _ => none }
def fnExactFitsStreamRow : OpenClaim := { program := "ytlicopeejphgaaj", sum := "0b18c384d6f0a3d43a13472e1205ab8fe8ff4646409b56bdb0cf1405d8072b03", func := "loop.example/g00230/laws.FnExactFitsStream", spec := "fnExactFitsStream", apart := false }
def FnExactFitsStreamSaid : Prop := fnExactFitsStreamRow.holds Try.pinned (OpenSpec.ofChange fnExactFitsStreamSpec)

/-- ITS FALSE NEIGHBOUR: 'it returns false'. Refute it at one input. -/
def fnExactFitsStreamWrong : ChangeSpec := { name := "fnExactFitsStream", fn := fun _ => fun
  | [d1, d2] => { results := [.lit (.bool false)], args := [d1, d2] }
  | _ => none }
def FnExactFitsStreamWrongFalsely : Prop := fnExactFitsStreamRow.holds Try.pinned (OpenSpec.ofChange fnExactFitsStreamWrong)

/-- 'laws.FnExactMixOf': WHATEVER THE INPUT: true; the input reads as it did. -/
def fnExactMixOfSpec : ChangeSpec := { name := "fnExactMixOf", fn := fun _ => fun
  | [d] => { results := [.lit (.bool true)], args := [d] }
  | _ => none }
def fnExactMixOfRow : OpenClaim := { program := "ytlicopeejphgaaj", sum := "0b18c384d6f0a3d43a13472e1205ab8fe8ff4646409b56bdb0cf1405d8072b03", func := "loop.example/g00230/laws.FnExactMixOf", spec := "fnExactMixOf", unfollowed := true, recurses := true, apart := false }
def FnExactMixOfSaid : Prop := fnExactMixOfRow.holds Try.pinned (OpenSpec.ofChange fnExactMixOfSpec)

/-- ITS FALSE NEIGHBOUR: 'it returns false'. Refute it at one input. -/
def fnExactMixOfWrong : ChangeSpec := { name := "fnExactMixOf", fn := fun _ => fun
  | [d] => { results := [.lit (.bool false)], args := [d] }
  | _ => none }
def FnExactMixOfWrongFalsely : Prop := fnExactMixOfRow.holds Try.pinned (OpenSpec.ofChange fnExactMixOfWrong)

/-- 'laws.FnExactKeyFault': WHATEVER THE INPUT: true; the input reads as it did. -/
def fnExactKeyFaultSpec : ChangeSpec := { name := "fnExactKeyFault", fn := fun _ => fun
  | [d] => { results := [.lit (.bool true)], args := [d] }
  | _ => none }
def fnExactKeyFaultRow : OpenClaim := { program := "ytlicopeejphgaaj", sum := "0b18c384d6f0a3d43a13472e1205ab8fe8ff4646409b56bdb0cf1405d8072b03", func := "loop.example/g00230/laws.FnExactKeyFault", spec := "fnExactKeyFault", apart := false }
def FnExactKeyFaultSaid : Prop := fnExactKeyFaultRow.holds Try.pinned (OpenSpec.ofChange fnExactKeyFaultSpec)

/-- ITS FALSE NEIGHBOUR: 'it returns false'. Refute it at one input. -/
def fnExactKeyFaultWrong : ChangeSpec := { name := "fnExactKeyFault", fn := fun _ => fun
  | [d] => { results := [.lit (.bool false)], args := [d] }
  | _ => none }
def FnExactKeyFaultWrongFalsely : Prop := fnExactKeyFaultRow.holds Try.pinned (OpenSpec.ofChange fnExactKeyFaultWrong)

/-- 'laws.FnExactTokenOf': WHATEVER THE INPUT: true; the input reads as it did. -/
def fnExactTokenOfSpec : ChangeSpec := { name := "fnExactTokenOf", fn := fun _ => fun
  | [d] => { results := [.lit (.bool true)], args := [d] }
  | _ => none }
def fnExactTokenOfRow : OpenClaim := { program := "ytlicopeejphgaaj", sum := "0b18c384d6f0a3d43a13472e1205ab8fe8ff4646409b56bdb0cf1405d8072b03", func := "loop.example/g00230/laws.FnExactTokenOf", spec := "fnExactTokenOf", unfollowed := true, recurses := true, apart := false }
def FnExactTokenOfSaid : Prop := fnExactTokenOfRow.holds Try.pinned (OpenSpec.ofChange fnExactTokenOfSpec)

/-- ITS FALSE NEIGHBOUR: 'it returns false'. Refute it at one input. -/
def fnExactTokenOfWrong : ChangeSpec := { name := "fnExactTokenOf", fn := fun _ => fun
  | [d] => { results := [.lit (.bool false)], args := [d] }
  | _ => none }
def FnExactTokenOfWrongFalsely : Prop := fnExactTokenOfRow.holds Try.pinned (OpenSpec.ofChange fnExactTokenOfWrong)

/-- 'laws.FnExactProofOf': WHATEVER THE INPUT: true; the input reads as it did. -/
def fnExactProofOfSpec : ChangeSpec := { name := "fnExactProofOf", fn := fun _ => fun
  | [d1, d2, d3] => { results := [.lit (.bool true)], args := [d1, d2, d3] }
  | _ => none }
def fnExactProofOfRow : OpenClaim := { program := "ytlicopeejphgaaj", sum := "0b18c384d6f0a3d43a13472e1205ab8fe8ff4646409b56bdb0cf1405d8072b03", func := "loop.example/g00230/laws.FnExactProofOf", spec := "fnExactProofOf", unfollowed := true, recurses := true, apart := false }
def FnExactProofOfSaid : Prop := fnExactProofOfRow.holds Try.pinned (OpenSpec.ofChange fnExactProofOfSpec)

/-- ITS FALSE NEIGHBOUR: 'it returns false'. Refute it at one input. -/
def fnExactProofOfWrong : ChangeSpec := { name := "fnExactProofOf", fn := fun _ => fun
  | [d1, d2, d3] => { results := [.lit (.bool false)], args := [d1, d2, d3] }
  | _ => none }
def FnExactProofOfWrongFalsely : Prop := fnExactProofOfRow.holds Try.pinned (OpenSpec.ofChange fnExactProofOfWrong)

/- THE SECOND FORM. 'bulk': how many values and letters a reading holds, each counted each time it is reached (what is shared counts as often as it is met; a slice's spare places count too). A statement '..UptoSaid' is the law's where the arguments, and the package variables that the reading takes, are together of bulk at most 1048576: NARROWER than '..Said'. Prove '..Said' where nothing that the law and all that it calls make is longer than what came in: it says more and counts as full. Else prove '..UptoSaid'. A law counts once. -/
mutual
def uptoBulk {H : Type} : DataW H → Nat
  | .lit (.string bytes) => bytes.length + 1
  | .lit _ => 1
  | .nil => 1
  | .ptr d => uptoBulk d + 1
  | .slice elems spare => uptoBulkAll elems + uptoBulkAll spare + 1
  | .agg parts => uptoBulkAll parts + 1
  | .iface _ d => uptoBulk d + 1
  | .map entries => uptoBulkEntries entries + 1
  | .held _ => 1
def uptoBulkAll {H : Type} : List (DataW H) → Nat
  | [] => 0
  | d :: r => uptoBulk d + uptoBulkAll r
def uptoBulkEntries {H : Type} : List (Lit × DataW H) → Nat
  | [] => 0
  | x :: r => uptoBulkEntry x + uptoBulkEntries r
def uptoBulkEntry {H : Type} : Lit × DataW H → Nat
  | (.string bytes, d) => bytes.length + uptoBulk d + 1
  | (_, d) => uptoBulk d + 1
 end
def uptoSmall : (H : Type) → List (DataW H) → Bool := fun _ ds => decide (uptoBulkAll ds ≤ 1048576)
def OpenSpec.upto (s : _root_.Go.ChangeSpec) : _root_.Go.OpenSpec := { _root_.Go.OpenSpec.ofChange s with cond := some uptoSmall }

/-- 'laws.FnExactMissingOf', WHERE WHAT IT READS IS OF BULK AT MOST 1048576: true; the input reads as it did. -/
def fnExactMissingOfUptoRow : OpenClaim := { program := "ytlicopeejphgaaj", sum := "0b18c384d6f0a3d43a13472e1205ab8fe8ff4646409b56bdb0cf1405d8072b03", func := "loop.example/g00230/laws.FnExactMissingOf", spec := "fnExactMissingOf", apart := false, narrowed := true }
def FnExactMissingOfUptoSaid : Prop := fnExactMissingOfUptoRow.holds Try.pinned (OpenSpec.upto fnExactMissingOfSpec)

/-- 'laws.FnExactFitsStream', WHERE WHAT IT READS IS OF BULK AT MOST 1048576: true; the input reads as it did. -/
def fnExactFitsStreamUptoRow : OpenClaim := { program := "ytlicopeejphgaaj", sum := "0b18c384d6f0a3d43a13472e1205ab8fe8ff4646409b56bdb0cf1405d8072b03", func := "loop.example/g00230/laws.FnExactFitsStream", spec := "fnExactFitsStream", apart := false, narrowed := true }
def FnExactFitsStreamUptoSaid : Prop := fnExactFitsStreamUptoRow.holds Try.pinned (OpenSpec.upto fnExactFitsStreamSpec)

/-- 'laws.FnExactMixOf', WHERE WHAT IT READS IS OF BULK AT MOST 1048576: true; the input reads as it did. -/
def fnExactMixOfUptoRow : OpenClaim := { program := "ytlicopeejphgaaj", sum := "0b18c384d6f0a3d43a13472e1205ab8fe8ff4646409b56bdb0cf1405d8072b03", func := "loop.example/g00230/laws.FnExactMixOf", spec := "fnExactMixOf", unfollowed := true, recurses := true, apart := false, narrowed := true }
def FnExactMixOfUptoSaid : Prop := fnExactMixOfUptoRow.holds Try.pinned (OpenSpec.upto fnExactMixOfSpec)

/-- 'laws.FnExactKeyFault', WHERE WHAT IT READS IS OF BULK AT MOST 1048576: true; the input reads as it did. -/
def fnExactKeyFaultUptoRow : OpenClaim := { program := "ytlicopeejphgaaj", sum := "0b18c384d6f0a3d43a13472e1205ab8fe8ff4646409b56bdb0cf1405d8072b03", func := "loop.example/g00230/laws.FnExactKeyFault", spec := "fnExactKeyFault", apart := false, narrowed := true }
def FnExactKeyFaultUptoSaid : Prop := fnExactKeyFaultUptoRow.holds Try.pinned (OpenSpec.upto fnExactKeyFaultSpec)

/-- 'laws.FnExactTokenOf', WHERE WHAT IT READS IS OF BULK AT MOST 1048576: true; the input reads as it did. -/
def fnExactTokenOfUptoRow : OpenClaim := { program := "ytlicopeejphgaaj", sum := "0b18c384d6f0a3d43a13472e1205ab8fe8ff4646409b56bdb0cf1405d8072b03", func := "loop.example/g00230/laws.FnExactTokenOf", spec := "fnExactTokenOf", unfollowed := true, recurses := true, apart := false, narrowed := true }
def FnExactTokenOfUptoSaid : Prop := fnExactTokenOfUptoRow.holds Try.pinned (OpenSpec.upto fnExactTokenOfSpec)

/-- 'laws.FnExactProofOf', WHERE WHAT IT READS IS OF BULK AT MOST 1048576: true; the input reads as it did. -/
def fnExactProofOfUptoRow : OpenClaim := { program := "ytlicopeejphgaaj", sum := "0b18c384d6f0a3d43a13472e1205ab8fe8ff4646409b56bdb0cf1405d8072b03", func := "loop.example/g00230/laws.FnExactProofOf", spec := "fnExactProofOf", unfollowed := true, recurses := true, apart := false, narrowed := true }
def FnExactProofOfUptoSaid : Prop := fnExactProofOfUptoRow.holds Try.pinned (OpenSpec.upto fnExactProofOfSpec)

end Rows
end Go.Proofs.Ytlicopeejphgaaj
