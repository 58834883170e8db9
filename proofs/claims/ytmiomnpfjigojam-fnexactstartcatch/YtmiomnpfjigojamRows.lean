/-
  No cell of these rows narrows 'for every input' (looked for: loops, veiled, ifaces, maps, wideKeys, modest, calm, conditions, laid).
  DERIVED. THE GIVEN ROWS OF THIS SEAT. 6 by the template 'for every input the law returns true; each argument reads behind the call as it read before'; 0 by the template 'total and deterministic' (their statements: YtmiomnpfjigojamTotals.lean).
  GIVEN WITH THE SEED: the statements are not yours to turn. If you find one false, say at which input.
  Laid BY PROGRAM, IN A SANDBOX (cutbox-rows.mjs): the forced cells as the released guide's own fill.sh prints them over the translation 1812d1e837e35cc6… (all of the seat's roots in one cut). By AI agents, Wed Nov 11 2026. No macro, syntax, notation, axiom, sorry.
-/
import Derived.Test.YtmiomnpfjigojamChecked
import GoSem.Claim
import GoSem.ClaimJoined
import GoSem.ClaimMapViews
import Derived.JoinedTies
import Derived.KernelRfl
namespace Go.Proofs.Ytmiomnpfjigojam
/- THE CELL 'sum', in the pinned program and in every row, IS THE sha256 OF THE DUMP (.gsa) THAT YtmiomnpfjigojamProg.lean LOADS. Nothing in Lean hashes anything: it is a label: what it is worth is what the hold of that sum in a sandbox is worth. -/
noncomputable def Try.pinned : Pinned := { name := "ytmiomnpfjigojam", sum := "1812d1e837e35cc64f3dc8cc217d8fa3af86a45436c7153fce066da2e4f8f0c4", checked := Try.checked }
namespace Rows
def none {H : Type} : Left H := { results := [], args := [] }

/-- 'laws.FnExactGrowControl': WHATEVER THE INPUT: true; the input reads as it did. -/
def fnExactGrowControlSpec : ChangeSpec := { name := "fnExactGrowControl", fn := fun _ => fun
  | [d1, d2, d3] => { results := [.lit (.bool true)], args := [d1, d2, d3] }
  | _ => none }
def fnExactGrowControlRow : OpenClaim := { program := "ytmiomnpfjigojam", sum := "1812d1e837e35cc64f3dc8cc217d8fa3af86a45436c7153fce066da2e4f8f0c4", func := "loop.example/g00230/laws.FnExactGrowControl", spec := "fnExactGrowControl", unfollowed := true, recurses := true, apart := false }
def FnExactGrowControlSaid : Prop := fnExactGrowControlRow.holds Try.pinned (OpenSpec.ofChange fnExactGrowControlSpec)

/-- ITS FALSE NEIGHBOUR: 'it returns false'. Refute it at one input. -/
def fnExactGrowControlWrong : ChangeSpec := { name := "fnExactGrowControl", fn := fun _ => fun
  | [d1, d2, d3] => { results := [.lit (.bool false)], args := [d1, d2, d3] }
  | _ => none }
def FnExactGrowControlWrongFalsely : Prop := fnExactGrowControlRow.holds Try.pinned (OpenSpec.ofChange fnExactGrowControlWrong)

/-- 'laws.FnExactCutControl': WHATEVER THE INPUT: true; the input reads as it did. -/
def fnExactCutControlSpec : ChangeSpec := { name := "fnExactCutControl", fn := fun _ => fun
  | [d] => { results := [.lit (.bool true)], args := [d] }
  | _ => none }
def fnExactCutControlRow : OpenClaim := { program := "ytmiomnpfjigojam", sum := "1812d1e837e35cc64f3dc8cc217d8fa3af86a45436c7153fce066da2e4f8f0c4", func := "loop.example/g00230/laws.FnExactCutControl", spec := "fnExactCutControl", apart := false }
def FnExactCutControlSaid : Prop := fnExactCutControlRow.holds Try.pinned (OpenSpec.ofChange fnExactCutControlSpec)

/-- ITS FALSE NEIGHBOUR: 'it returns false'. Refute it at one input. -/
def fnExactCutControlWrong : ChangeSpec := { name := "fnExactCutControl", fn := fun _ => fun
  | [d] => { results := [.lit (.bool false)], args := [d] }
  | _ => none }
def FnExactCutControlWrongFalsely : Prop := fnExactCutControlRow.holds Try.pinned (OpenSpec.ofChange fnExactCutControlWrong)

/-- 'laws.FnExactFallControl': WHATEVER THE INPUT: true; the input reads as it did. -/
def fnExactFallControlSpec : ChangeSpec := { name := "fnExactFallControl", fn := fun _ => fun
  | [d] => { results := [.lit (.bool true)], args := [d] }
  | _ => none }
def fnExactFallControlRow : OpenClaim := { program := "ytmiomnpfjigojam", sum := "1812d1e837e35cc64f3dc8cc217d8fa3af86a45436c7153fce066da2e4f8f0c4", func := "loop.example/g00230/laws.FnExactFallControl", spec := "fnExactFallControl", apart := false }
def FnExactFallControlSaid : Prop := fnExactFallControlRow.holds Try.pinned (OpenSpec.ofChange fnExactFallControlSpec)

/-- ITS FALSE NEIGHBOUR: 'it returns false'. Refute it at one input. -/
def fnExactFallControlWrong : ChangeSpec := { name := "fnExactFallControl", fn := fun _ => fun
  | [d] => { results := [.lit (.bool false)], args := [d] }
  | _ => none }
def FnExactFallControlWrongFalsely : Prop := fnExactFallControlRow.holds Try.pinned (OpenSpec.ofChange fnExactFallControlWrong)

/-- 'laws.FnExactGainOf': WHATEVER THE INPUT: true; the input reads as it did. -/
def fnExactGainOfSpec : ChangeSpec := { name := "fnExactGainOf", fn := fun _ => fun
  | [d1, d2, d3] => { results := [.lit (.bool true)], args := [d1, d2, d3] }
  | _ => none }
def fnExactGainOfRow : OpenClaim := { program := "ytmiomnpfjigojam", sum := "1812d1e837e35cc64f3dc8cc217d8fa3af86a45436c7153fce066da2e4f8f0c4", func := "loop.example/g00230/laws.FnExactGainOf", spec := "fnExactGainOf", apart := false }
def FnExactGainOfSaid : Prop := fnExactGainOfRow.holds Try.pinned (OpenSpec.ofChange fnExactGainOfSpec)

/-- ITS FALSE NEIGHBOUR: 'it returns false'. Refute it at one input. -/
def fnExactGainOfWrong : ChangeSpec := { name := "fnExactGainOf", fn := fun _ => fun
  | [d1, d2, d3] => { results := [.lit (.bool false)], args := [d1, d2, d3] }
  | _ => none }
def FnExactGainOfWrongFalsely : Prop := fnExactGainOfRow.holds Try.pinned (OpenSpec.ofChange fnExactGainOfWrong)

/-- 'laws.FnExactCatchFault': WHATEVER THE INPUT: true; the input reads as it did. -/
def fnExactCatchFaultSpec : ChangeSpec := { name := "fnExactCatchFault", fn := fun _ => fun
  | [d] => { results := [.lit (.bool true)], args := [d] }
  | _ => none }
def fnExactCatchFaultRow : OpenClaim := { program := "ytmiomnpfjigojam", sum := "1812d1e837e35cc64f3dc8cc217d8fa3af86a45436c7153fce066da2e4f8f0c4", func := "loop.example/g00230/laws.FnExactCatchFault", spec := "fnExactCatchFault", apart := false }
def FnExactCatchFaultSaid : Prop := fnExactCatchFaultRow.holds Try.pinned (OpenSpec.ofChange fnExactCatchFaultSpec)

/-- ITS FALSE NEIGHBOUR: 'it returns false'. Refute it at one input. -/
def fnExactCatchFaultWrong : ChangeSpec := { name := "fnExactCatchFault", fn := fun _ => fun
  | [d] => { results := [.lit (.bool false)], args := [d] }
  | _ => none }
def FnExactCatchFaultWrongFalsely : Prop := fnExactCatchFaultRow.holds Try.pinned (OpenSpec.ofChange fnExactCatchFaultWrong)

/-- 'laws.FnExactStartCatch': WHATEVER THE INPUT: true; the input reads as it did. -/
def fnExactStartCatchSpec : ChangeSpec := { name := "fnExactStartCatch", fn := fun _ => fun
  | [d] => { results := [.lit (.bool true)], args := [d] }
  | _ => none }
def fnExactStartCatchRow : OpenClaim := { program := "ytmiomnpfjigojam", sum := "1812d1e837e35cc64f3dc8cc217d8fa3af86a45436c7153fce066da2e4f8f0c4", func := "loop.example/g00230/laws.FnExactStartCatch", spec := "fnExactStartCatch", apart := false }
def FnExactStartCatchSaid : Prop := fnExactStartCatchRow.holds Try.pinned (OpenSpec.ofChange fnExactStartCatchSpec)

/-- ITS FALSE NEIGHBOUR: 'it returns false'. Refute it at one input. -/
def fnExactStartCatchWrong : ChangeSpec := { name := "fnExactStartCatch", fn := fun _ => fun
  | [d] => { results := [.lit (.bool false)], args := [d] }
  | _ => none }
def FnExactStartCatchWrongFalsely : Prop := fnExactStartCatchRow.holds Try.pinned (OpenSpec.ofChange fnExactStartCatchWrong)

/- THE SECOND FORM. 'bulk': how many values and letters a reading holds, each counted each time it is reached (what is shared counts as often as it is met; a slice's spare places count too). A statement '..UptoSaid' is the law's where the arguments, and the package variables that the reading takes, are together of bulk at most 1048576: NARROWER than '..Said'. Prove '..Said' where nothing that the law and all that it calls make is longer than what came in: it says more and counts as full. Else prove '..UptoSaid'. A law counts once. -/
mutual
def uptoBulk {H : Type} : DataW H → Nat
  | .lit (.string bytes) => bytes.length + 1
  | .lit _ => 1
  | .nil => 1
  | .ptr d => uptoBulk d + 1
  | .slice elems spare => uptoBulkAll elems + uptoBulkAll spare + 1
  | .agg parts => uptoBulkAll parts + 1
  | .iface _ d => uptoBulk d + 1
  | .map entries => uptoBulkEntries entries + 1
  | .held _ => 1
def uptoBulkAll {H : Type} : List (DataW H) → Nat
  | [] => 0
  | d :: r => uptoBulk d + uptoBulkAll r
def uptoBulkEntries {H : Type} : List (Lit × DataW H) → Nat
  | [] => 0
  | x :: r => uptoBulkEntry x + uptoBulkEntries r
def uptoBulkEntry {H : Type} : Lit × DataW H → Nat
  | (.string bytes, d) => bytes.length + uptoBulk d + 1
  | (_, d) => uptoBulk d + 1
 end
def uptoSmall : (H : Type) → List (DataW H) → Bool := fun _ ds => decide (uptoBulkAll ds ≤ 1048576)
def OpenSpec.upto (s : _root_.Go.ChangeSpec) : _root_.Go.OpenSpec := { _root_.Go.OpenSpec.ofChange s with cond := some uptoSmall }

/-- 'laws.FnExactGrowControl', WHERE WHAT IT READS IS OF BULK AT MOST 1048576: true; the input reads as it did. -/
def fnExactGrowControlUptoRow : OpenClaim := { program := "ytmiomnpfjigojam", sum := "1812d1e837e35cc64f3dc8cc217d8fa3af86a45436c7153fce066da2e4f8f0c4", func := "loop.example/g00230/laws.FnExactGrowControl", spec := "fnExactGrowControl", unfollowed := true, recurses := true, apart := false, narrowed := true }
def FnExactGrowControlUptoSaid : Prop := fnExactGrowControlUptoRow.holds Try.pinned (OpenSpec.upto fnExactGrowControlSpec)

/-- 'laws.FnExactCutControl', WHERE WHAT IT READS IS OF BULK AT MOST 1048576: true; the input reads as it did. -/
def fnExactCutControlUptoRow : OpenClaim := { program := "ytmiomnpfjigojam", sum := "1812d1e837e35cc64f3dc8cc217d8fa3af86a45436c7153fce066da2e4f8f0c4", func := "loop.example/g00230/laws.FnExactCutControl", spec := "fnExactCutControl", apart := false, narrowed := true }
def FnExactCutControlUptoSaid : Prop := fnExactCutControlUptoRow.holds Try.pinned (OpenSpec.upto fnExactCutControlSpec)

/-- 'laws.FnExactFallControl', WHERE WHAT IT READS IS OF BULK AT MOST 1048576: true; the input reads as it did. -/
def fnExactFallControlUptoRow : OpenClaim := { program := "ytmiomnpfjigojam", sum := "1812d1e837e35cc64f3dc8cc217d8fa3af86a45436c7153fce066da2e4f8f0c4", func := "loop.example/g00230/laws.FnExactFallControl", spec := "fnExactFallControl", apart := false, narrowed := true }
def FnExactFallControlUptoSaid : Prop := fnExactFallControlUptoRow.holds Try.pinned (OpenSpec.upto fnExactFallControlSpec)

/-- 'laws.FnExactGainOf', WHERE WHAT IT READS IS OF BULK AT MOST 1048576: true; the input reads as it did. -/
def fnExactGainOfUptoRow : OpenClaim := { program := "ytmiomnpfjigojam", sum := "1812d1e837e35cc64f3dc8cc217d8fa3af86a45436c7153fce066da2e4f8f0c4", func := "loop.example/g00230/laws.FnExactGainOf", spec := "fnExactGainOf", apart := false, narrowed := true }
def FnExactGainOfUptoSaid : Prop := fnExactGainOfUptoRow.holds Try.pinned (OpenSpec.upto fnExactGainOfSpec)

/-- 'laws.FnExactCatchFault', WHERE WHAT IT READS IS OF BULK AT MOST 1048576: true; the input reads as it did. -/
def fnExactCatchFaultUptoRow : OpenClaim := { program := "ytmiomnpfjigojam", sum := "1812d1e837e35cc64f3dc8cc217d8fa3af86a45436c7153fce066da2e4f8f0c4", func := "loop.example/g00230/laws.FnExactCatchFault", spec := "fnExactCatchFault", apart := false, narrowed := true }
def FnExactCatchFaultUptoSaid : Prop := fnExactCatchFaultUptoRow.holds Try.pinned (OpenSpec.upto fnExactCatchFaultSpec)

/-- 'laws.FnExactStartCatch', WHERE WHAT IT READS IS OF BULK AT MOST 1048576: true; the input reads as it did. -/
def fnExactStartCatchUptoRow : OpenClaim := { program := "ytmiomnpfjigojam", sum := "1812d1e837e35cc64f3dc8cc217d8fa3af86a45436c7153fce066da2e4f8f0c4", func := "loop.example/g00230/laws.FnExactStartCatch", spec := "fnExactStartCatch", apart := false, narrowed := true }
def FnExactStartCatchUptoSaid : Prop := fnExactStartCatchUptoRow.holds Try.pinned (OpenSpec.upto fnExactStartCatchSpec)

end Rows
end Go.Proofs.Ytmiomnpfjigojam
