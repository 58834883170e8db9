/-
  No cell of these rows narrows 'for every input' (looked for: loops, veiled, ifaces, maps, wideKeys, modest, calm, conditions, laid).
  DERIVED. THE GIVEN ROWS OF THIS SEAT. 5 by the template 'for every input the law returns true; each argument reads behind the call as it read before'; 0 by the template 'total and deterministic' (their statements: YtlfncadngcjdjaaTotals.lean).
  GIVEN WITH THE SEED: the statements are not yours to turn. If you find one false, say at which input.
  Laid BY PROGRAM, IN A SANDBOX (cutbox-rows.mjs): the forced cells as the released guide's own fill.sh prints them over the translation 7b97c21c5f32c8a3… (all of the seat's roots in one cut). By AI agents, Wed Nov 11 2026. No macro, syntax, notation, axiom, sorry.
-/
import Derived.Test.YtlfncadngcjdjaaChecked
import GoSem.Claim
import GoSem.ClaimJoined
import GoSem.ClaimMapViews
import Derived.JoinedTies
import Derived.KernelRfl
namespace Go.Proofs.Ytlfncadngcjdjaa
/- THE CELL 'sum', in the pinned program and in every row, IS THE sha256 OF THE DUMP (.gsa) THAT YtlfncadngcjdjaaProg.lean LOADS. Nothing in Lean hashes anything: it is a label: what it is worth is what the hold of that sum in a sandbox is worth. -/
noncomputable def Try.pinned : Pinned := { name := "ytlfncadngcjdjaa", sum := "7b97c21c5f32c8a3799ec33185c808e1934a2e0bd3bfc90175b64ddd117a27c6", checked := Try.checked }
namespace Rows
def none {H : Type} : Left H := { results := [], args := [] }

/-- 'laws.FnNets': WHATEVER THE INPUT: true; the input reads as it did. -/
def fnNetsSpec : ChangeSpec := { name := "fnNets", fn := fun _ => fun
  | [d] => { results := [.lit (.bool true)], args := [d] }
  | _ => none }
def fnNetsRow : OpenClaim := { program := "ytlfncadngcjdjaa", sum := "7b97c21c5f32c8a3799ec33185c808e1934a2e0bd3bfc90175b64ddd117a27c6", func := "loop.example/g00230/laws.FnNets", spec := "fnNets", apart := false }
def FnNetsSaid : Prop := fnNetsRow.holds Try.pinned (OpenSpec.ofChange fnNetsSpec)

/-- ITS FALSE NEIGHBOUR: 'it returns false'. Refute it at one input. -/
def fnNetsWrong : ChangeSpec := { name := "fnNets", fn := fun _ => fun
  | [d] => { results := [.lit (.bool false)], args := [d] }
  | _ => none }
def FnNetsWrongFalsely : Prop := fnNetsRow.holds Try.pinned (OpenSpec.ofChange fnNetsWrong)

/-- 'laws.FnExactNetFault': WHATEVER THE INPUT: true; the input reads as it did. -/
def fnExactNetFaultSpec : ChangeSpec := { name := "fnExactNetFault", fn := fun _ => fun
  | [d] => { results := [.lit (.bool true)], args := [d] }
  | _ => none }
def fnExactNetFaultRow : OpenClaim := { program := "ytlfncadngcjdjaa", sum := "7b97c21c5f32c8a3799ec33185c808e1934a2e0bd3bfc90175b64ddd117a27c6", func := "loop.example/g00230/laws.FnExactNetFault", spec := "fnExactNetFault", apart := false }
def FnExactNetFaultSaid : Prop := fnExactNetFaultRow.holds Try.pinned (OpenSpec.ofChange fnExactNetFaultSpec)

/-- ITS FALSE NEIGHBOUR: 'it returns false'. Refute it at one input. -/
def fnExactNetFaultWrong : ChangeSpec := { name := "fnExactNetFault", fn := fun _ => fun
  | [d] => { results := [.lit (.bool false)], args := [d] }
  | _ => none }
def FnExactNetFaultWrongFalsely : Prop := fnExactNetFaultRow.holds Try.pinned (OpenSpec.ofChange fnExactNetFaultWrong)

/-- 'laws.FnExactNewNet': WHATEVER THE INPUT: true; the input reads as it did. -/
def fnExactNewNetSpec : ChangeSpec := { name := "fnExactNewNet", fn := fun _ => fun
  | [d] => { results := [.lit (.bool true)], args := [d] }
  | _ => none }
def fnExactNewNetRow : OpenClaim := { program := "ytlfncadngcjdjaa", sum := "7b97c21c5f32c8a3799ec33185c808e1934a2e0bd3bfc90175b64ddd117a27c6", func := "loop.example/g00230/laws.FnExactNewNet", spec := "fnExactNewNet", apart := false }
def FnExactNewNetSaid : Prop := fnExactNewNetRow.holds Try.pinned (OpenSpec.ofChange fnExactNewNetSpec)

/-- ITS FALSE NEIGHBOUR: 'it returns false'. Refute it at one input. -/
def fnExactNewNetWrong : ChangeSpec := { name := "fnExactNewNet", fn := fun _ => fun
  | [d] => { results := [.lit (.bool false)], args := [d] }
  | _ => none }
def FnExactNewNetWrongFalsely : Prop := fnExactNewNetRow.holds Try.pinned (OpenSpec.ofChange fnExactNewNetWrong)

/-- 'laws.FnExactPutNet': WHATEVER THE INPUT: true; the input reads as it did. -/
def fnExactPutNetSpec : ChangeSpec := { name := "fnExactPutNet", fn := fun _ => fun
  | [d1, d2] => { results := [.lit (.bool true)], args := [d1, d2] }
  | _ => none }
def fnExactPutNetRow : OpenClaim := { program := "ytlfncadngcjdjaa", sum := "7b97c21c5f32c8a3799ec33185c808e1934a2e0bd3bfc90175b64ddd117a27c6", func := "loop.example/g00230/laws.FnExactPutNet", spec := "fnExactPutNet", apart := false }
def FnExactPutNetSaid : Prop := fnExactPutNetRow.holds Try.pinned (OpenSpec.ofChange fnExactPutNetSpec)

/-- ITS FALSE NEIGHBOUR: 'it returns false'. Refute it at one input. -/
def fnExactPutNetWrong : ChangeSpec := { name := "fnExactPutNet", fn := fun _ => fun
  | [d1, d2] => { results := [.lit (.bool false)], args := [d1, d2] }
  | _ => none }
def FnExactPutNetWrongFalsely : Prop := fnExactPutNetRow.holds Try.pinned (OpenSpec.ofChange fnExactPutNetWrong)

/-- 'laws.FnExactTakeNet': WHATEVER THE INPUT: true; the input reads as it did. -/
def fnExactTakeNetSpec : ChangeSpec := { name := "fnExactTakeNet", fn := fun _ => fun
  | [d1, d2] => { results := [.lit (.bool true)], args := [d1, d2] }
  | _ => none }
def fnExactTakeNetRow : OpenClaim := { program := "ytlfncadngcjdjaa", sum := "7b97c21c5f32c8a3799ec33185c808e1934a2e0bd3bfc90175b64ddd117a27c6", func := "loop.example/g00230/laws.FnExactTakeNet", spec := "fnExactTakeNet", apart := false }
def FnExactTakeNetSaid : Prop := fnExactTakeNetRow.holds Try.pinned (OpenSpec.ofChange fnExactTakeNetSpec)

/-- ITS FALSE NEIGHBOUR: 'it returns false'. Refute it at one input. -/
def fnExactTakeNetWrong : ChangeSpec := { name := "fnExactTakeNet", fn := fun _ => fun
  | [d1, d2] => { results := [.lit (.bool false)], args := [d1, d2] }
  | _ => none }
def FnExactTakeNetWrongFalsely : Prop := fnExactTakeNetRow.holds Try.pinned (OpenSpec.ofChange fnExactTakeNetWrong)

/- THE SECOND FORM. 'bulk': how many values and letters a reading holds, each counted each time it is reached (what is shared counts as often as it is met; a slice's spare places count too). A statement '..UptoSaid' is the law's where the arguments, and the package variables that the reading takes, are together of bulk at most 1048576: NARROWER than '..Said'. Prove '..Said' where nothing that the law and all that it calls make is longer than what came in: it says more and counts as full. Else prove '..UptoSaid'. A law counts once. -/
mutual
def uptoBulk {H : Type} : DataW H → Nat
  | .lit (.string bytes) => bytes.length + 1
  | .lit _ => 1
  | .nil => 1
  | .ptr d => uptoBulk d + 1
  | .slice elems spare => uptoBulkAll elems + uptoBulkAll spare + 1
  | .agg parts => uptoBulkAll parts + 1
  | .iface _ d => uptoBulk d + 1
  | .map entries => uptoBulkEntries entries + 1
  | .held _ => 1
def uptoBulkAll {H : Type} : List (DataW H) → Nat
  | [] => 0
  | d :: r => uptoBulk d + uptoBulkAll r
def uptoBulkEntries {H : Type} : List (Lit × DataW H) → Nat
  | [] => 0
  | x :: r => uptoBulkEntry x + uptoBulkEntries r
def uptoBulkEntry {H : Type} : Lit × DataW H → Nat
  | (.string bytes, d) => bytes.length + uptoBulk d + 1
  | (_, d) => uptoBulk d + 1
 end
def uptoSmall : (H : Type) → List (DataW H) → Bool := fun _ ds => decide (uptoBulkAll ds ≤ 1048576)
def OpenSpec.upto (s : _root_.Go.ChangeSpec) : _root_.Go.OpenSpec := { _root_.Go.OpenSpec.ofChange s with cond := some uptoSmall }

/-- 'laws.FnNets', WHERE WHAT IT READS IS OF BULK AT MOST 1048576: true; the input reads as it did. -/
def fnNetsUptoRow : OpenClaim := { program := "ytlfncadngcjdjaa", sum := "7b97c21c5f32c8a3799ec33185c808e1934a2e0bd3bfc90175b64ddd117a27c6", func := "loop.example/g00230/laws.FnNets", spec := "fnNets", apart := false, narrowed := true }
def FnNetsUptoSaid : Prop := fnNetsUptoRow.holds Try.pinned (OpenSpec.upto fnNetsSpec)

/-- 'laws.FnExactNetFault', WHERE WHAT IT READS IS OF BULK AT MOST 1048576: true; the input reads as it did. -/
def fnExactNetFaultUptoRow : OpenClaim := { program := "ytlfncadngcjdjaa", sum := "7b97c21c5f32c8a3799ec33185c808e1934a2e0bd3bfc90175b64ddd117a27c6", func := "loop.example/g00230/laws.FnExactNetFault", spec := "fnExactNetFault", apart := false, narrowed := true }
def FnExactNetFaultUptoSaid : Prop := fnExactNetFaultUptoRow.holds Try.pinned (OpenSpec.upto fnExactNetFaultSpec)

/-- 'laws.FnExactNewNet', WHERE WHAT IT READS IS OF BULK AT MOST 1048576: true; the input reads as it did. -/
def fnExactNewNetUptoRow : OpenClaim := { program := "ytlfncadngcjdjaa", sum := "7b97c21c5f32c8a3799ec33185c808e1934a2e0bd3bfc90175b64ddd117a27c6", func := "loop.example/g00230/laws.FnExactNewNet", spec := "fnExactNewNet", apart := false, narrowed := true }
def FnExactNewNetUptoSaid : Prop := fnExactNewNetUptoRow.holds Try.pinned (OpenSpec.upto fnExactNewNetSpec)

/-- 'laws.FnExactPutNet', WHERE WHAT IT READS IS OF BULK AT MOST 1048576: true; the input reads as it did. -/
def fnExactPutNetUptoRow : OpenClaim := { program := "ytlfncadngcjdjaa", sum := "7b97c21c5f32c8a3799ec33185c808e1934a2e0bd3bfc90175b64ddd117a27c6", func := "loop.example/g00230/laws.FnExactPutNet", spec := "fnExactPutNet", apart := false, narrowed := true }
def FnExactPutNetUptoSaid : Prop := fnExactPutNetUptoRow.holds Try.pinned (OpenSpec.upto fnExactPutNetSpec)

/-- 'laws.FnExactTakeNet', WHERE WHAT IT READS IS OF BULK AT MOST 1048576: true; the input reads as it did. -/
def fnExactTakeNetUptoRow : OpenClaim := { program := "ytlfncadngcjdjaa", sum := "7b97c21c5f32c8a3799ec33185c808e1934a2e0bd3bfc90175b64ddd117a27c6", func := "loop.example/g00230/laws.FnExactTakeNet", spec := "fnExactTakeNet", apart := false, narrowed := true }
def FnExactTakeNetUptoSaid : Prop := fnExactTakeNetUptoRow.holds Try.pinned (OpenSpec.upto fnExactTakeNetSpec)

end Rows
end Go.Proofs.Ytlfncadngcjdjaa
