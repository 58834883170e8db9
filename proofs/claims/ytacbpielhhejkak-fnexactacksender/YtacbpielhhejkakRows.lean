/-
  No cell of these rows narrows 'for every input' (looked for: loops, veiled, ifaces, maps, wideKeys, modest, calm, conditions, laid).
  DERIVED. THE GIVEN ROWS OF THIS SEAT. 6 by the template 'for every input the law returns true; each argument reads behind the call as it read before'; 0 by the template 'total and deterministic' (their statements: YtacbpielhhejkakTotals.lean).
  GIVEN WITH THE SEED: the statements are not yours to turn. If you find one false, say at which input.
  Laid BY PROGRAM, IN A SANDBOX (cutbox-rows.mjs): the forced cells as the released guide's own fill.sh prints them over the translation 3a40fc9acc7f2d68… (all of the seat's roots in one cut). By AI agents, Wed Nov 11 2026. No macro, syntax, notation, axiom, sorry.
-/
import Derived.Test.YtacbpielhhejkakChecked
import GoSem.Claim
import GoSem.ClaimJoined
import GoSem.ClaimMapViews
import Derived.JoinedTies
import Derived.KernelRfl
namespace Go.Proofs.Ytacbpielhhejkak
/- THE CELL 'sum', in the pinned program and in every row, IS THE sha256 OF THE DUMP (.gsa) THAT YtacbpielhhejkakProg.lean LOADS. Nothing in Lean hashes anything: it is a label: what it is worth is what the hold of that sum in a sandbox is worth. -/
noncomputable def Try.pinned : Pinned := { name := "ytacbpielhhejkak", sum := "3a40fc9acc7f2d68143070820cddd1a8469a304a5ec7a34f548edb82a002191e", checked := Try.checked }
namespace Rows
def none {H : Type} : Left H := { results := [], args := [] }

/-- 'laws.FnExactGoodProof': WHATEVER THE INPUT: true; the input reads as it did. -/
def fnExactGoodProofSpec : ChangeSpec := { name := "fnExactGoodProof", fn := fun _ => fun
  | [d1, d2, d3, d4] => { results := [.lit (.bool true)], args := [d1, d2, d3, d4] }
  | _ => none }
def fnExactGoodProofRow : OpenClaim := { program := "ytacbpielhhejkak", sum := "3a40fc9acc7f2d68143070820cddd1a8469a304a5ec7a34f548edb82a002191e", func := "loop.example/g00230/laws.FnExactGoodProof", spec := "fnExactGoodProof", unfollowed := true, recurses := true, apart := false }
def FnExactGoodProofSaid : Prop := fnExactGoodProofRow.holds Try.pinned (OpenSpec.ofChange fnExactGoodProofSpec)

/-- ITS FALSE NEIGHBOUR: 'it returns false'. Refute it at one input. -/
def fnExactGoodProofWrong : ChangeSpec := { name := "fnExactGoodProof", fn := fun _ => fun
  | [d1, d2, d3, d4] => { results := [.lit (.bool false)], args := [d1, d2, d3, d4] }
  | _ => none }
def FnExactGoodProofWrongFalsely : Prop := fnExactGoodProofRow.holds Try.pinned (OpenSpec.ofChange fnExactGoodProofWrong)

/-- 'laws.FnExactStartOf': WHATEVER THE INPUT: true; the input reads as it did. -/
def fnExactStartOfSpec : ChangeSpec := { name := "fnExactStartOf", fn := fun _ => fun
  | [d] => { results := [.lit (.bool true)], args := [d] }
  | _ => none }
def fnExactStartOfRow : OpenClaim := { program := "ytacbpielhhejkak", sum := "3a40fc9acc7f2d68143070820cddd1a8469a304a5ec7a34f548edb82a002191e", func := "loop.example/g00230/laws.FnExactStartOf", spec := "fnExactStartOf", unfollowed := true, recurses := true, apart := false }
def FnExactStartOfSaid : Prop := fnExactStartOfRow.holds Try.pinned (OpenSpec.ofChange fnExactStartOfSpec)

/-- ITS FALSE NEIGHBOUR: 'it returns false'. Refute it at one input. -/
def fnExactStartOfWrong : ChangeSpec := { name := "fnExactStartOf", fn := fun _ => fun
  | [d] => { results := [.lit (.bool false)], args := [d] }
  | _ => none }
def FnExactStartOfWrongFalsely : Prop := fnExactStartOfRow.holds Try.pinned (OpenSpec.ofChange fnExactStartOfWrong)

/-- 'laws.FnExactSenderFault': WHATEVER THE INPUT: true; the input reads as it did. -/
def fnExactSenderFaultSpec : ChangeSpec := { name := "fnExactSenderFault", fn := fun _ => fun
  | [d] => { results := [.lit (.bool true)], args := [d] }
  | _ => none }
def fnExactSenderFaultRow : OpenClaim := { program := "ytacbpielhhejkak", sum := "3a40fc9acc7f2d68143070820cddd1a8469a304a5ec7a34f548edb82a002191e", func := "loop.example/g00230/laws.FnExactSenderFault", spec := "fnExactSenderFault", apart := false }
def FnExactSenderFaultSaid : Prop := fnExactSenderFaultRow.holds Try.pinned (OpenSpec.ofChange fnExactSenderFaultSpec)

/-- ITS FALSE NEIGHBOUR: 'it returns false'. Refute it at one input. -/
def fnExactSenderFaultWrong : ChangeSpec := { name := "fnExactSenderFault", fn := fun _ => fun
  | [d] => { results := [.lit (.bool false)], args := [d] }
  | _ => none }
def FnExactSenderFaultWrongFalsely : Prop := fnExactSenderFaultRow.holds Try.pinned (OpenSpec.ofChange fnExactSenderFaultWrong)

/-- 'laws.FnExactStartSender': WHATEVER THE INPUT: true; the input reads as it did. -/
def fnExactStartSenderSpec : ChangeSpec := { name := "fnExactStartSender", fn := fun _ => fun
  | [d] => { results := [.lit (.bool true)], args := [d] }
  | _ => none }
def fnExactStartSenderRow : OpenClaim := { program := "ytacbpielhhejkak", sum := "3a40fc9acc7f2d68143070820cddd1a8469a304a5ec7a34f548edb82a002191e", func := "loop.example/g00230/laws.FnExactStartSender", spec := "fnExactStartSender", apart := false }
def FnExactStartSenderSaid : Prop := fnExactStartSenderRow.holds Try.pinned (OpenSpec.ofChange fnExactStartSenderSpec)

/-- ITS FALSE NEIGHBOUR: 'it returns false'. Refute it at one input. -/
def fnExactStartSenderWrong : ChangeSpec := { name := "fnExactStartSender", fn := fun _ => fun
  | [d] => { results := [.lit (.bool false)], args := [d] }
  | _ => none }
def FnExactStartSenderWrongFalsely : Prop := fnExactStartSenderRow.holds Try.pinned (OpenSpec.ofChange fnExactStartSenderWrong)

/-- 'laws.FnExactPushFlight': WHATEVER THE INPUT: true; the input reads as it did. -/
def fnExactPushFlightSpec : ChangeSpec := { name := "fnExactPushFlight", fn := fun _ => fun
  | [d1, d2, d3, d4] => { results := [.lit (.bool true)], args := [d1, d2, d3, d4] }
  | _ => none }
def fnExactPushFlightRow : OpenClaim := { program := "ytacbpielhhejkak", sum := "3a40fc9acc7f2d68143070820cddd1a8469a304a5ec7a34f548edb82a002191e", func := "loop.example/g00230/laws.FnExactPushFlight", spec := "fnExactPushFlight", apart := false }
def FnExactPushFlightSaid : Prop := fnExactPushFlightRow.holds Try.pinned (OpenSpec.ofChange fnExactPushFlightSpec)

/-- ITS FALSE NEIGHBOUR: 'it returns false'. Refute it at one input. -/
def fnExactPushFlightWrong : ChangeSpec := { name := "fnExactPushFlight", fn := fun _ => fun
  | [d1, d2, d3, d4] => { results := [.lit (.bool false)], args := [d1, d2, d3, d4] }
  | _ => none }
def FnExactPushFlightWrongFalsely : Prop := fnExactPushFlightRow.holds Try.pinned (OpenSpec.ofChange fnExactPushFlightWrong)

/-- 'laws.FnExactAckSender': WHATEVER THE INPUT: true; the input reads as it did. -/
def fnExactAckSenderSpec : ChangeSpec := { name := "fnExactAckSender", fn := fun _ => fun
  | [d1, d2] => { results := [.lit (.bool true)], args := [d1, d2] }
  | _ => none }
def fnExactAckSenderRow : OpenClaim := { program := "ytacbpielhhejkak", sum := "3a40fc9acc7f2d68143070820cddd1a8469a304a5ec7a34f548edb82a002191e", func := "loop.example/g00230/laws.FnExactAckSender", spec := "fnExactAckSender", unfollowed := true, recurses := true, apart := false }
def FnExactAckSenderSaid : Prop := fnExactAckSenderRow.holds Try.pinned (OpenSpec.ofChange fnExactAckSenderSpec)

/-- ITS FALSE NEIGHBOUR: 'it returns false'. Refute it at one input. -/
def fnExactAckSenderWrong : ChangeSpec := { name := "fnExactAckSender", fn := fun _ => fun
  | [d1, d2] => { results := [.lit (.bool false)], args := [d1, d2] }
  | _ => none }
def FnExactAckSenderWrongFalsely : Prop := fnExactAckSenderRow.holds Try.pinned (OpenSpec.ofChange fnExactAckSenderWrong)

/- THE SECOND FORM. 'bulk': how many values and letters a reading holds, each counted each time it is reached (what is shared counts as often as it is met; a slice's spare places count too). A statement '..UptoSaid' is the law's where the arguments, and the package variables that the reading takes, are together of bulk at most 1048576: NARROWER than '..Said'. Prove '..Said' where nothing that the law and all that it calls make is longer than what came in: it says more and counts as full. Else prove '..UptoSaid'. A law counts once. -/
mutual
def uptoBulk {H : Type} : DataW H → Nat
  | .lit (.string bytes) => bytes.length + 1
  | .lit _ => 1
  | .nil => 1
  | .ptr d => uptoBulk d + 1
  | .slice elems spare => uptoBulkAll elems + uptoBulkAll spare + 1
  | .agg parts => uptoBulkAll parts + 1
  | .iface _ d => uptoBulk d + 1
  | .map entries => uptoBulkEntries entries + 1
  | .held _ => 1
def uptoBulkAll {H : Type} : List (DataW H) → Nat
  | [] => 0
  | d :: r => uptoBulk d + uptoBulkAll r
def uptoBulkEntries {H : Type} : List (Lit × DataW H) → Nat
  | [] => 0
  | x :: r => uptoBulkEntry x + uptoBulkEntries r
def uptoBulkEntry {H : Type} : Lit × DataW H → Nat
  | (.string bytes, d) => bytes.length + uptoBulk d + 1
  | (_, d) => uptoBulk d + 1
 end
def uptoSmall : (H : Type) → List (DataW H) → Bool := fun _ ds => decide (uptoBulkAll ds ≤ 1048576)
def OpenSpec.upto (s : _root_.Go.ChangeSpec) : _root_.Go.OpenSpec := { _root_.Go.OpenSpec.ofChange s with cond := some uptoSmall }

/-- 'laws.FnExactGoodProof', WHERE WHAT IT READS IS OF BULK AT MOST 1048576: true; the input reads as it did. -/
def fnExactGoodProofUptoRow : OpenClaim := { program := "ytacbpielhhejkak", sum := "3a40fc9acc7f2d68143070820cddd1a8469a304a5ec7a34f548edb82a002191e", func := "loop.example/g00230/laws.FnExactGoodProof", spec := "fnExactGoodProof", unfollowed := true, recurses := true, apart := false, narrowed := true }
def FnExactGoodProofUptoSaid : Prop := fnExactGoodProofUptoRow.holds Try.pinned (OpenSpec.upto fnExactGoodProofSpec)

/-- 'laws.FnExactStartOf', WHERE WHAT IT READS IS OF BULK AT MOST 1048576: true; the input reads as it did. -/
def fnExactStartOfUptoRow : OpenClaim := { program := "ytacbpielhhejkak", sum := "3a40fc9acc7f2d68143070820cddd1a8469a304a5ec7a34f548edb82a002191e", func := "loop.example/g00230/laws.FnExactStartOf", spec := "fnExactStartOf", unfollowed := true, recurses := true, apart := false, narrowed := true }
def FnExactStartOfUptoSaid : Prop := fnExactStartOfUptoRow.holds Try.pinned (OpenSpec.upto fnExactStartOfSpec)

/-- 'laws.FnExactSenderFault', WHERE WHAT IT READS IS OF BULK AT MOST 1048576: true; the input reads as it did. -/
def fnExactSenderFaultUptoRow : OpenClaim := { program := "ytacbpielhhejkak", sum := "3a40fc9acc7f2d68143070820cddd1a8469a304a5ec7a34f548edb82a002191e", func := "loop.example/g00230/laws.FnExactSenderFault", spec := "fnExactSenderFault", apart := false, narrowed := true }
def FnExactSenderFaultUptoSaid : Prop := fnExactSenderFaultUptoRow.holds Try.pinned (OpenSpec.upto fnExactSenderFaultSpec)

/-- 'laws.FnExactStartSender', WHERE WHAT IT READS IS OF BULK AT MOST 1048576: true; the input reads as it did. -/
def fnExactStartSenderUptoRow : OpenClaim := { program := "ytacbpielhhejkak", sum := "3a40fc9acc7f2d68143070820cddd1a8469a304a5ec7a34f548edb82a002191e", func := "loop.example/g00230/laws.FnExactStartSender", spec := "fnExactStartSender", apart := false, narrowed := true }
def FnExactStartSenderUptoSaid : Prop := fnExactStartSenderUptoRow.holds Try.pinned (OpenSpec.upto fnExactStartSenderSpec)

/-- 'laws.FnExactPushFlight', WHERE WHAT IT READS IS OF BULK AT MOST 1048576: true; the input reads as it did. -/
def fnExactPushFlightUptoRow : OpenClaim := { program := "ytacbpielhhejkak", sum := "3a40fc9acc7f2d68143070820cddd1a8469a304a5ec7a34f548edb82a002191e", func := "loop.example/g00230/laws.FnExactPushFlight", spec := "fnExactPushFlight", apart := false, narrowed := true }
def FnExactPushFlightUptoSaid : Prop := fnExactPushFlightUptoRow.holds Try.pinned (OpenSpec.upto fnExactPushFlightSpec)

/-- 'laws.FnExactAckSender', WHERE WHAT IT READS IS OF BULK AT MOST 1048576: true; the input reads as it did. -/
def fnExactAckSenderUptoRow : OpenClaim := { program := "ytacbpielhhejkak", sum := "3a40fc9acc7f2d68143070820cddd1a8469a304a5ec7a34f548edb82a002191e", func := "loop.example/g00230/laws.FnExactAckSender", spec := "fnExactAckSender", unfollowed := true, recurses := true, apart := false, narrowed := true }
def FnExactAckSenderUptoSaid : Prop := fnExactAckSenderUptoRow.holds Try.pinned (OpenSpec.upto fnExactAckSenderSpec)

end Rows
end Go.Proofs.Ytacbpielhhejkak
