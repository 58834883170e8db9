/-
  No cell of these rows narrows 'for every input' (looked for: loops, veiled, ifaces, maps, wideKeys, modest, calm, conditions, laid).
  DERIVED. THE GIVEN ROWS OF THIS SEAT. 3 by the template 'for every input the law returns true; each argument reads behind the call as it read before'; 0 by the template 'total and deterministic' (their statements: YtnfkjdcnngoeiabGreatTotals.lean).
  GIVEN WITH THE SEED: the statements are not yours to turn. If you find one false, say at which input.
  Laid BY PROGRAM, IN A SANDBOX (cutbox-rows.mjs): the forced cells as the released guide's own fill.sh prints them over the translation 0a621728183c203e… (all of the seat's roots in one cut). By AI agents, Wed Nov 11 2026. No macro, syntax, notation, axiom, sorry.
-/
import Derived.Test.YtnfkjdcnngoeiabGreatChecked
import GoSem.Claim
import GoSem.ClaimJoined
import GoSem.ClaimMapViews
import Derived.JoinedTies
import Derived.KernelRfl
namespace Go.Proofs.YtnfkjdcnngoeiabGreat
/- THE CELL 'sum', in the pinned program and in every row, IS THE sha256 OF THE DUMP (.gsa) THAT YtnfkjdcnngoeiabGreatProg.lean LOADS. Nothing in Lean hashes anything: it is a label: what it is worth is what the hold of that sum in a sandbox is worth. -/
noncomputable def Tryz.pinned : Pinned := { name := "ytnfkjdcnngoeiabgreat", sum := "0a621728183c203e2805b60d99bdf045b49465fe498475e22ea0331430af7318", checked := Tryz.checked }
namespace Rows
def none {H : Type} : Left H := { results := [], args := [] }

/-- 'laws.FnExactSafeWorld': WHATEVER THE INPUT: true; the input reads as it did. -/
def fnExactSafeWorldSpec : ChangeSpec := { name := "fnExactSafeWorld", fn := fun _ => fun
  | [d] => { results := [.lit (.bool true)], args := [d] }
  | _ => none }
def fnExactSafeWorldRow : OpenClaim := { program := "ytnfkjdcnngoeiabgreat", sum := "0a621728183c203e2805b60d99bdf045b49465fe498475e22ea0331430af7318", func := "loop.example/g00230/laws.FnExactSafeWorld", spec := "fnExactSafeWorld", unfollowed := true, recurses := true, apart := false }
def FnExactSafeWorldSaid : Prop := fnExactSafeWorldRow.holds Tryz.pinned (OpenSpec.ofChange fnExactSafeWorldSpec)

/-- ITS FALSE NEIGHBOUR: 'it returns false'. Refute it at one input. -/
def fnExactSafeWorldWrong : ChangeSpec := { name := "fnExactSafeWorld", fn := fun _ => fun
  | [d] => { results := [.lit (.bool false)], args := [d] }
  | _ => none }
def FnExactSafeWorldWrongFalsely : Prop := fnExactSafeWorldRow.holds Tryz.pinned (OpenSpec.ofChange fnExactSafeWorldWrong)

/-- 'laws.FnExactDoneWorld': WHATEVER THE INPUT: true; the input reads as it did. -/
def fnExactDoneWorldSpec : ChangeSpec := { name := "fnExactDoneWorld", fn := fun _ => fun
  | [d] => { results := [.lit (.bool true)], args := [d] }
  | _ => none }
def fnExactDoneWorldRow : OpenClaim := { program := "ytnfkjdcnngoeiabgreat", sum := "0a621728183c203e2805b60d99bdf045b49465fe498475e22ea0331430af7318", func := "loop.example/g00230/laws.FnExactDoneWorld", spec := "fnExactDoneWorld", unfollowed := true, recurses := true, apart := false }
def FnExactDoneWorldSaid : Prop := fnExactDoneWorldRow.holds Tryz.pinned (OpenSpec.ofChange fnExactDoneWorldSpec)

/-- ITS FALSE NEIGHBOUR: 'it returns false'. Refute it at one input. -/
def fnExactDoneWorldWrong : ChangeSpec := { name := "fnExactDoneWorld", fn := fun _ => fun
  | [d] => { results := [.lit (.bool false)], args := [d] }
  | _ => none }
def FnExactDoneWorldWrongFalsely : Prop := fnExactDoneWorldRow.holds Tryz.pinned (OpenSpec.ofChange fnExactDoneWorldWrong)

/-- 'laws.FnSafeMeans': WHATEVER THE INPUT: true; the input reads as it did. -/
def fnSafeMeansSpec : ChangeSpec := { name := "fnSafeMeans", fn := fun _ => fun
  | [d] => { results := [.lit (.bool true)], args := [d] }
  | _ => none }
def fnSafeMeansRow : OpenClaim := { program := "ytnfkjdcnngoeiabgreat", sum := "0a621728183c203e2805b60d99bdf045b49465fe498475e22ea0331430af7318", func := "loop.example/g00230/laws.FnSafeMeans", spec := "fnSafeMeans", unfollowed := true, recurses := true, apart := false }
def FnSafeMeansSaid : Prop := fnSafeMeansRow.holds Tryz.pinned (OpenSpec.ofChange fnSafeMeansSpec)

/-- ITS FALSE NEIGHBOUR: 'it returns false'. Refute it at one input. -/
def fnSafeMeansWrong : ChangeSpec := { name := "fnSafeMeans", fn := fun _ => fun
  | [d] => { results := [.lit (.bool false)], args := [d] }
  | _ => none }
def FnSafeMeansWrongFalsely : Prop := fnSafeMeansRow.holds Tryz.pinned (OpenSpec.ofChange fnSafeMeansWrong)

/- THE SECOND FORM. 'bulk': how many values and letters a reading holds, each counted each time it is reached (what is shared counts as often as it is met; a slice's spare places count too). A statement '..UptoSaid' is the law's where the arguments, and the package variables that the reading takes, are together of bulk at most 1048576: NARROWER than '..Said'. Prove '..Said' where nothing that the law and all that it calls make is longer than what came in: it says more and counts as full. Else prove '..UptoSaid'. A law counts once. -/
mutual
def uptoBulk {H : Type} : DataW H → Nat
  | .lit (.string bytes) => bytes.length + 1
  | .lit _ => 1
  | .nil => 1
  | .ptr d => uptoBulk d + 1
  | .slice elems spare => uptoBulkAll elems + uptoBulkAll spare + 1
  | .agg parts => uptoBulkAll parts + 1
  | .iface _ d => uptoBulk d + 1
  | .map entries => uptoBulkEntries entries + 1
  | .held _ => 1
def uptoBulkAll {H : Type} : List (DataW H) → Nat
  | [] => 0
  | d :: r => uptoBulk d + uptoBulkAll r
def uptoBulkEntries {H : Type} : List (Lit × DataW H) → Nat
  | [] => 0
  | x :: r => uptoBulkEntry x + uptoBulkEntries r
def uptoBulkEntry {H : Type} : Lit × DataW H → Nat
  | (.string bytes, d) => bytes.length + uptoBulk d + 1
  | (_, d) => uptoBulk d + 1
 end
def uptoSmall : (H : Type) → List (DataW H) → Bool := fun _ ds => decide (uptoBulkAll ds ≤ 1048576)
def OpenSpec.upto (s : _root_.Go.ChangeSpec) : _root_.Go.OpenSpec := { _root_.Go.OpenSpec.ofChange s with cond := some uptoSmall }

/-- 'laws.FnExactSafeWorld', WHERE WHAT IT READS IS OF BULK AT MOST 1048576: true; the input reads as it did. -/
def fnExactSafeWorldUptoRow : OpenClaim := { program := "ytnfkjdcnngoeiabgreat", sum := "0a621728183c203e2805b60d99bdf045b49465fe498475e22ea0331430af7318", func := "loop.example/g00230/laws.FnExactSafeWorld", spec := "fnExactSafeWorld", unfollowed := true, recurses := true, apart := false, narrowed := true }
def FnExactSafeWorldUptoSaid : Prop := fnExactSafeWorldUptoRow.holds Tryz.pinned (OpenSpec.upto fnExactSafeWorldSpec)

/-- 'laws.FnExactDoneWorld', WHERE WHAT IT READS IS OF BULK AT MOST 1048576: true; the input reads as it did. -/
def fnExactDoneWorldUptoRow : OpenClaim := { program := "ytnfkjdcnngoeiabgreat", sum := "0a621728183c203e2805b60d99bdf045b49465fe498475e22ea0331430af7318", func := "loop.example/g00230/laws.FnExactDoneWorld", spec := "fnExactDoneWorld", unfollowed := true, recurses := true, apart := false, narrowed := true }
def FnExactDoneWorldUptoSaid : Prop := fnExactDoneWorldUptoRow.holds Tryz.pinned (OpenSpec.upto fnExactDoneWorldSpec)

/-- 'laws.FnSafeMeans', WHERE WHAT IT READS IS OF BULK AT MOST 1048576: true; the input reads as it did. -/
def fnSafeMeansUptoRow : OpenClaim := { program := "ytnfkjdcnngoeiabgreat", sum := "0a621728183c203e2805b60d99bdf045b49465fe498475e22ea0331430af7318", func := "loop.example/g00230/laws.FnSafeMeans", spec := "fnSafeMeans", unfollowed := true, recurses := true, apart := false, narrowed := true }
def FnSafeMeansUptoSaid : Prop := fnSafeMeansUptoRow.holds Tryz.pinned (OpenSpec.upto fnSafeMeansSpec)

end Rows
end Go.Proofs.YtnfkjdcnngoeiabGreat
