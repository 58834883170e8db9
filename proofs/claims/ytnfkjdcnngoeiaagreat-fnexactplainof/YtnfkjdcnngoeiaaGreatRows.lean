/-
  No cell of these rows narrows 'for every input' (looked for: loops, veiled, ifaces, maps, wideKeys, modest, calm, conditions, laid).
  DERIVED. THE GIVEN ROWS OF THIS SEAT. 5 by the template 'for every input the law returns true; each argument reads behind the call as it read before'; 0 by the template 'total and deterministic' (their statements: YtnfkjdcnngoeiaaGreatTotals.lean).
  GIVEN WITH THE SEED: the statements are not yours to turn. If you find one false, say at which input.
  Laid BY PROGRAM, IN A SANDBOX (cutbox-rows.mjs): the forced cells as the released guide's own fill.sh prints them over the translation 20e15f18f861c5a4… (all of the seat's roots in one cut). By AI agents, Wed Nov 11 2026. No macro, syntax, notation, axiom, sorry.
-/
import Derived.Test.YtnfkjdcnngoeiaaGreatChecked
import GoSem.Claim
import GoSem.ClaimJoined
import GoSem.ClaimMapViews
import Derived.JoinedTies
import Derived.KernelRfl
namespace Go.Proofs.YtnfkjdcnngoeiaaGreat
/- THE CELL 'sum', in the pinned program and in every row, IS THE sha256 OF THE DUMP (.gsa) THAT YtnfkjdcnngoeiaaGreatProg.lean LOADS. Nothing in Lean hashes anything: it is a label: what it is worth is what the hold of that sum in a sandbox is worth. -/
noncomputable def Tryz.pinned : Pinned := { name := "ytnfkjdcnngoeiaagreat", sum := "20e15f18f861c5a44ac45e0e3b1e265d39a61bed1d4fe77542c848cb93e8af2d", checked := Tryz.checked }
namespace Rows
def none {H : Type} : Left H := { results := [], args := [] }

/-- 'laws.FnExactPlainOf': WHATEVER THE INPUT: true; the input reads as it did. -/
def fnExactPlainOfSpec : ChangeSpec := { name := "fnExactPlainOf", fn := fun _ => fun
  | [d] => { results := [.lit (.bool true)], args := [d] }
  | _ => none }
def fnExactPlainOfRow : OpenClaim := { program := "ytnfkjdcnngoeiaagreat", sum := "20e15f18f861c5a44ac45e0e3b1e265d39a61bed1d4fe77542c848cb93e8af2d", func := "loop.example/g00230/laws.FnExactPlainOf", spec := "fnExactPlainOf", unfollowed := true, recurses := true, apart := false }
def FnExactPlainOfSaid : Prop := fnExactPlainOfRow.holds Tryz.pinned (OpenSpec.ofChange fnExactPlainOfSpec)

/-- ITS FALSE NEIGHBOUR: 'it returns false'. Refute it at one input. -/
def fnExactPlainOfWrong : ChangeSpec := { name := "fnExactPlainOf", fn := fun _ => fun
  | [d] => { results := [.lit (.bool false)], args := [d] }
  | _ => none }
def FnExactPlainOfWrongFalsely : Prop := fnExactPlainOfRow.holds Tryz.pinned (OpenSpec.ofChange fnExactPlainOfWrong)

/-- 'laws.FnExactPrefixOf': WHATEVER THE INPUT: true; the input reads as it did. -/
def fnExactPrefixOfSpec : ChangeSpec := { name := "fnExactPrefixOf", fn := fun _ => fun
  | [d1, d2] => { results := [.lit (.bool true)], args := [d1, d2] }
  | _ => none }
def fnExactPrefixOfRow : OpenClaim := { program := "ytnfkjdcnngoeiaagreat", sum := "20e15f18f861c5a44ac45e0e3b1e265d39a61bed1d4fe77542c848cb93e8af2d", func := "loop.example/g00230/laws.FnExactPrefixOf", spec := "fnExactPrefixOf", unfollowed := true, recurses := true, apart := false }
def FnExactPrefixOfSaid : Prop := fnExactPrefixOfRow.holds Tryz.pinned (OpenSpec.ofChange fnExactPrefixOfSpec)

/-- ITS FALSE NEIGHBOUR: 'it returns false'. Refute it at one input. -/
def fnExactPrefixOfWrong : ChangeSpec := { name := "fnExactPrefixOf", fn := fun _ => fun
  | [d1, d2] => { results := [.lit (.bool false)], args := [d1, d2] }
  | _ => none }
def FnExactPrefixOfWrongFalsely : Prop := fnExactPrefixOfRow.holds Tryz.pinned (OpenSpec.ofChange fnExactPrefixOfWrong)

/-- 'laws.FnExactHeldRight': WHATEVER THE INPUT: true; the input reads as it did. -/
def fnExactHeldRightSpec : ChangeSpec := { name := "fnExactHeldRight", fn := fun _ => fun
  | [d1, d2] => { results := [.lit (.bool true)], args := [d1, d2] }
  | _ => none }
def fnExactHeldRightRow : OpenClaim := { program := "ytnfkjdcnngoeiaagreat", sum := "20e15f18f861c5a44ac45e0e3b1e265d39a61bed1d4fe77542c848cb93e8af2d", func := "loop.example/g00230/laws.FnExactHeldRight", spec := "fnExactHeldRight", unfollowed := true, recurses := true, apart := false }
def FnExactHeldRightSaid : Prop := fnExactHeldRightRow.holds Tryz.pinned (OpenSpec.ofChange fnExactHeldRightSpec)

/-- ITS FALSE NEIGHBOUR: 'it returns false'. Refute it at one input. -/
def fnExactHeldRightWrong : ChangeSpec := { name := "fnExactHeldRight", fn := fun _ => fun
  | [d1, d2] => { results := [.lit (.bool false)], args := [d1, d2] }
  | _ => none }
def FnExactHeldRightWrongFalsely : Prop := fnExactHeldRightRow.holds Tryz.pinned (OpenSpec.ofChange fnExactHeldRightWrong)

/-- 'laws.FnExactFlightsRight': WHATEVER THE INPUT: true; the input reads as it did. -/
def fnExactFlightsRightSpec : ChangeSpec := { name := "fnExactFlightsRight", fn := fun _ => fun
  | [d1, d2] => { results := [.lit (.bool true)], args := [d1, d2] }
  | _ => none }
def fnExactFlightsRightRow : OpenClaim := { program := "ytnfkjdcnngoeiaagreat", sum := "20e15f18f861c5a44ac45e0e3b1e265d39a61bed1d4fe77542c848cb93e8af2d", func := "loop.example/g00230/laws.FnExactFlightsRight", spec := "fnExactFlightsRight", unfollowed := true, recurses := true, apart := false }
def FnExactFlightsRightSaid : Prop := fnExactFlightsRightRow.holds Tryz.pinned (OpenSpec.ofChange fnExactFlightsRightSpec)

/-- ITS FALSE NEIGHBOUR: 'it returns false'. Refute it at one input. -/
def fnExactFlightsRightWrong : ChangeSpec := { name := "fnExactFlightsRight", fn := fun _ => fun
  | [d1, d2] => { results := [.lit (.bool false)], args := [d1, d2] }
  | _ => none }
def FnExactFlightsRightWrongFalsely : Prop := fnExactFlightsRightRow.holds Tryz.pinned (OpenSpec.ofChange fnExactFlightsRightWrong)

/-- 'laws.FnExactKnownRight': WHATEVER THE INPUT: true; the input reads as it did. -/
def fnExactKnownRightSpec : ChangeSpec := { name := "fnExactKnownRight", fn := fun _ => fun
  | [d1, d2] => { results := [.lit (.bool true)], args := [d1, d2] }
  | _ => none }
def fnExactKnownRightRow : OpenClaim := { program := "ytnfkjdcnngoeiaagreat", sum := "20e15f18f861c5a44ac45e0e3b1e265d39a61bed1d4fe77542c848cb93e8af2d", func := "loop.example/g00230/laws.FnExactKnownRight", spec := "fnExactKnownRight", unfollowed := true, recurses := true, apart := false }
def FnExactKnownRightSaid : Prop := fnExactKnownRightRow.holds Tryz.pinned (OpenSpec.ofChange fnExactKnownRightSpec)

/-- ITS FALSE NEIGHBOUR: 'it returns false'. Refute it at one input. -/
def fnExactKnownRightWrong : ChangeSpec := { name := "fnExactKnownRight", fn := fun _ => fun
  | [d1, d2] => { results := [.lit (.bool false)], args := [d1, d2] }
  | _ => none }
def FnExactKnownRightWrongFalsely : Prop := fnExactKnownRightRow.holds Tryz.pinned (OpenSpec.ofChange fnExactKnownRightWrong)

/- THE SECOND FORM. 'bulk': how many values and letters a reading holds, each counted each time it is reached (what is shared counts as often as it is met; a slice's spare places count too). A statement '..UptoSaid' is the law's where the arguments, and the package variables that the reading takes, are together of bulk at most 1048576: NARROWER than '..Said'. Prove '..Said' where nothing that the law and all that it calls make is longer than what came in: it says more and counts as full. Else prove '..UptoSaid'. A law counts once. -/
mutual
def uptoBulk {H : Type} : DataW H → Nat
  | .lit (.string bytes) => bytes.length + 1
  | .lit _ => 1
  | .nil => 1
  | .ptr d => uptoBulk d + 1
  | .slice elems spare => uptoBulkAll elems + uptoBulkAll spare + 1
  | .agg parts => uptoBulkAll parts + 1
  | .iface _ d => uptoBulk d + 1
  | .map entries => uptoBulkEntries entries + 1
  | .held _ => 1
def uptoBulkAll {H : Type} : List (DataW H) → Nat
  | [] => 0
  | d :: r => uptoBulk d + uptoBulkAll r
def uptoBulkEntries {H : Type} : List (Lit × DataW H) → Nat
  | [] => 0
  | x :: r => uptoBulkEntry x + uptoBulkEntries r
def uptoBulkEntry {H : Type} : Lit × DataW H → Nat
  | (.string bytes, d) => bytes.length + uptoBulk d + 1
  | (_, d) => uptoBulk d + 1
 end
def uptoSmall : (H : Type) → List (DataW H) → Bool := fun _ ds => decide (uptoBulkAll ds ≤ 1048576)
def OpenSpec.upto (s : _root_.Go.ChangeSpec) : _root_.Go.OpenSpec := { _root_.Go.OpenSpec.ofChange s with cond := some uptoSmall }

/-- 'laws.FnExactPlainOf', WHERE WHAT IT READS IS OF BULK AT MOST 1048576: true; the input reads as it did. -/
def fnExactPlainOfUptoRow : OpenClaim := { program := "ytnfkjdcnngoeiaagreat", sum := "20e15f18f861c5a44ac45e0e3b1e265d39a61bed1d4fe77542c848cb93e8af2d", func := "loop.example/g00230/laws.FnExactPlainOf", spec := "fnExactPlainOf", unfollowed := true, recurses := true, apart := false, narrowed := true }
def FnExactPlainOfUptoSaid : Prop := fnExactPlainOfUptoRow.holds Tryz.pinned (OpenSpec.upto fnExactPlainOfSpec)

/-- 'laws.FnExactPrefixOf', WHERE WHAT IT READS IS OF BULK AT MOST 1048576: true; the input reads as it did. -/
def fnExactPrefixOfUptoRow : OpenClaim := { program := "ytnfkjdcnngoeiaagreat", sum := "20e15f18f861c5a44ac45e0e3b1e265d39a61bed1d4fe77542c848cb93e8af2d", func := "loop.example/g00230/laws.FnExactPrefixOf", spec := "fnExactPrefixOf", unfollowed := true, recurses := true, apart := false, narrowed := true }
def FnExactPrefixOfUptoSaid : Prop := fnExactPrefixOfUptoRow.holds Tryz.pinned (OpenSpec.upto fnExactPrefixOfSpec)

/-- 'laws.FnExactHeldRight', WHERE WHAT IT READS IS OF BULK AT MOST 1048576: true; the input reads as it did. -/
def fnExactHeldRightUptoRow : OpenClaim := { program := "ytnfkjdcnngoeiaagreat", sum := "20e15f18f861c5a44ac45e0e3b1e265d39a61bed1d4fe77542c848cb93e8af2d", func := "loop.example/g00230/laws.FnExactHeldRight", spec := "fnExactHeldRight", unfollowed := true, recurses := true, apart := false, narrowed := true }
def FnExactHeldRightUptoSaid : Prop := fnExactHeldRightUptoRow.holds Tryz.pinned (OpenSpec.upto fnExactHeldRightSpec)

/-- 'laws.FnExactFlightsRight', WHERE WHAT IT READS IS OF BULK AT MOST 1048576: true; the input reads as it did. -/
def fnExactFlightsRightUptoRow : OpenClaim := { program := "ytnfkjdcnngoeiaagreat", sum := "20e15f18f861c5a44ac45e0e3b1e265d39a61bed1d4fe77542c848cb93e8af2d", func := "loop.example/g00230/laws.FnExactFlightsRight", spec := "fnExactFlightsRight", unfollowed := true, recurses := true, apart := false, narrowed := true }
def FnExactFlightsRightUptoSaid : Prop := fnExactFlightsRightUptoRow.holds Tryz.pinned (OpenSpec.upto fnExactFlightsRightSpec)

/-- 'laws.FnExactKnownRight', WHERE WHAT IT READS IS OF BULK AT MOST 1048576: true; the input reads as it did. -/
def fnExactKnownRightUptoRow : OpenClaim := { program := "ytnfkjdcnngoeiaagreat", sum := "20e15f18f861c5a44ac45e0e3b1e265d39a61bed1d4fe77542c848cb93e8af2d", func := "loop.example/g00230/laws.FnExactKnownRight", spec := "fnExactKnownRight", unfollowed := true, recurses := true, apart := false, narrowed := true }
def FnExactKnownRightUptoSaid : Prop := fnExactKnownRightUptoRow.holds Tryz.pinned (OpenSpec.upto fnExactKnownRightSpec)

end Rows
end Go.Proofs.YtnfkjdcnngoeiaaGreat
