/-
  No cell of these rows narrows 'for every input' (looked for: loops, veiled, ifaces, maps, wideKeys, modest, calm, conditions, laid).
  DERIVED. THE GIVEN ROWS OF THIS SEAT. 4 by the template 'for every input the law returns true; each argument reads behind the call as it read before'; 0 by the template 'total and deterministic' (their statements: YtlfncadngcjdjabTotals.lean).
  GIVEN WITH THE SEED: the statements are not yours to turn. If you find one false, say at which input.
  Laid BY PROGRAM, IN A SANDBOX (cutbox-rows.mjs): the forced cells as the released guide's own fill.sh prints them over the translation bf011e7d0637f2b6… (all of the seat's roots in one cut). By AI agents, Wed Nov 11 2026. No macro, syntax, notation, axiom, sorry.
-/
import Derived.Test.YtlfncadngcjdjabChecked
import GoSem.Claim
import GoSem.ClaimJoined
import GoSem.ClaimMapViews
import Derived.JoinedTies
import Derived.KernelRfl
namespace Go.Proofs.Ytlfncadngcjdjab
/- THE CELL 'sum', in the pinned program and in every row, IS THE sha256 OF THE DUMP (.gsa) THAT YtlfncadngcjdjabProg.lean LOADS. Nothing in Lean hashes anything: it is a label: what it is worth is what the hold of that sum in a sandbox is worth. -/
noncomputable def Try.pinned : Pinned := { name := "ytlfncadngcjdjab", sum := "bf011e7d0637f2b60cf20a5bdc199e0ee44456dbf7ccd2311092dffa9782e8fd", checked := Try.checked }
namespace Rows
def none {H : Type} : Left H := { results := [], args := [] }

/-- 'laws.FnExactCopyNet': WHATEVER THE INPUT: true; the input reads as it did. -/
def fnExactCopyNetSpec : ChangeSpec := { name := "fnExactCopyNet", fn := fun _ => fun
  | [d1, d2] => { results := [.lit (.bool true)], args := [d1, d2] }
  | _ => none }
def fnExactCopyNetRow : OpenClaim := { program := "ytlfncadngcjdjab", sum := "bf011e7d0637f2b60cf20a5bdc199e0ee44456dbf7ccd2311092dffa9782e8fd", func := "loop.example/g00230/laws.FnExactCopyNet", spec := "fnExactCopyNet", apart := false }
def FnExactCopyNetSaid : Prop := fnExactCopyNetRow.holds Try.pinned (OpenSpec.ofChange fnExactCopyNetSpec)

/-- ITS FALSE NEIGHBOUR: 'it returns false'. Refute it at one input. -/
def fnExactCopyNetWrong : ChangeSpec := { name := "fnExactCopyNet", fn := fun _ => fun
  | [d1, d2] => { results := [.lit (.bool false)], args := [d1, d2] }
  | _ => none }
def FnExactCopyNetWrongFalsely : Prop := fnExactCopyNetRow.holds Try.pinned (OpenSpec.ofChange fnExactCopyNetWrong)

/-- 'laws.FnExactStripNet': WHATEVER THE INPUT: true; the input reads as it did. -/
def fnExactStripNetSpec : ChangeSpec := { name := "fnExactStripNet", fn := fun _ => fun
  | [d1, d2] => { results := [.lit (.bool true)], args := [d1, d2] }
  | _ => none }
def fnExactStripNetRow : OpenClaim := { program := "ytlfncadngcjdjab", sum := "bf011e7d0637f2b60cf20a5bdc199e0ee44456dbf7ccd2311092dffa9782e8fd", func := "loop.example/g00230/laws.FnExactStripNet", spec := "fnExactStripNet", apart := false }
def FnExactStripNetSaid : Prop := fnExactStripNetRow.holds Try.pinned (OpenSpec.ofChange fnExactStripNetSpec)

/-- ITS FALSE NEIGHBOUR: 'it returns false'. Refute it at one input. -/
def fnExactStripNetWrong : ChangeSpec := { name := "fnExactStripNet", fn := fun _ => fun
  | [d1, d2] => { results := [.lit (.bool false)], args := [d1, d2] }
  | _ => none }
def FnExactStripNetWrongFalsely : Prop := fnExactStripNetRow.holds Try.pinned (OpenSpec.ofChange fnExactStripNetWrong)

/-- 'laws.FnExactAlterNet': WHATEVER THE INPUT: true; the input reads as it did. -/
def fnExactAlterNetSpec : ChangeSpec := { name := "fnExactAlterNet", fn := fun _ => fun
  | [d1, d2, d3, d4] => { results := [.lit (.bool true)], args := [d1, d2, d3, d4] }
  | _ => none }
def fnExactAlterNetRow : OpenClaim := { program := "ytlfncadngcjdjab", sum := "bf011e7d0637f2b60cf20a5bdc199e0ee44456dbf7ccd2311092dffa9782e8fd", func := "loop.example/g00230/laws.FnExactAlterNet", spec := "fnExactAlterNet", apart := false }
def FnExactAlterNetSaid : Prop := fnExactAlterNetRow.holds Try.pinned (OpenSpec.ofChange fnExactAlterNetSpec)

/-- ITS FALSE NEIGHBOUR: 'it returns false'. Refute it at one input. -/
def fnExactAlterNetWrong : ChangeSpec := { name := "fnExactAlterNet", fn := fun _ => fun
  | [d1, d2, d3, d4] => { results := [.lit (.bool false)], args := [d1, d2, d3, d4] }
  | _ => none }
def FnExactAlterNetWrongFalsely : Prop := fnExactAlterNetRow.holds Try.pinned (OpenSpec.ofChange fnExactAlterNetWrong)

/-- 'laws.FnExactKillPath': WHATEVER THE INPUT: true; the input reads as it did. -/
def fnExactKillPathSpec : ChangeSpec := { name := "fnExactKillPath", fn := fun _ => fun
  | [d1, d2] => { results := [.lit (.bool true)], args := [d1, d2] }
  | _ => none }
def fnExactKillPathRow : OpenClaim := { program := "ytlfncadngcjdjab", sum := "bf011e7d0637f2b60cf20a5bdc199e0ee44456dbf7ccd2311092dffa9782e8fd", func := "loop.example/g00230/laws.FnExactKillPath", spec := "fnExactKillPath", apart := false }
def FnExactKillPathSaid : Prop := fnExactKillPathRow.holds Try.pinned (OpenSpec.ofChange fnExactKillPathSpec)

/-- ITS FALSE NEIGHBOUR: 'it returns false'. Refute it at one input. -/
def fnExactKillPathWrong : ChangeSpec := { name := "fnExactKillPath", fn := fun _ => fun
  | [d1, d2] => { results := [.lit (.bool false)], args := [d1, d2] }
  | _ => none }
def FnExactKillPathWrongFalsely : Prop := fnExactKillPathRow.holds Try.pinned (OpenSpec.ofChange fnExactKillPathWrong)

/- THE SECOND FORM. 'bulk': how many values and letters a reading holds, each counted each time it is reached (what is shared counts as often as it is met; a slice's spare places count too). A statement '..UptoSaid' is the law's where the arguments, and the package variables that the reading takes, are together of bulk at most 1048576: NARROWER than '..Said'. Prove '..Said' where nothing that the law and all that it calls make is longer than what came in: it says more and counts as full. Else prove '..UptoSaid'. A law counts once. -/
mutual
def uptoBulk {H : Type} : DataW H → Nat
  | .lit (.string bytes) => bytes.length + 1
  | .lit _ => 1
  | .nil => 1
  | .ptr d => uptoBulk d + 1
  | .slice elems spare => uptoBulkAll elems + uptoBulkAll spare + 1
  | .agg parts => uptoBulkAll parts + 1
  | .iface _ d => uptoBulk d + 1
  | .map entries => uptoBulkEntries entries + 1
  | .held _ => 1
def uptoBulkAll {H : Type} : List (DataW H) → Nat
  | [] => 0
  | d :: r => uptoBulk d + uptoBulkAll r
def uptoBulkEntries {H : Type} : List (Lit × DataW H) → Nat
  | [] => 0
  | x :: r => uptoBulkEntry x + uptoBulkEntries r
def uptoBulkEntry {H : Type} : Lit × DataW H → Nat
  | (.string bytes, d) => bytes.length + uptoBulk d + 1
  | (_, d) => uptoBulk d + 1
 end
def uptoSmall : (H : Type) → List (DataW H) → Bool := fun _ ds => decide (uptoBulkAll ds ≤ 1048576)
def OpenSpec.upto (s : _root_.Go.ChangeSpec) : _root_.Go.OpenSpec := { _root_.Go.OpenSpec.ofChange s with cond := some uptoSmall }

/-- 'laws.FnExactCopyNet', WHERE WHAT IT READS IS OF BULK AT MOST 1048576: true; the input reads as it did. -/
def fnExactCopyNetUptoRow : OpenClaim := { program := "ytlfncadngcjdjab", sum := "bf011e7d0637f2b60cf20a5bdc199e0ee44456dbf7ccd2311092dffa9782e8fd", func := "loop.example/g00230/laws.FnExactCopyNet", spec := "fnExactCopyNet", apart := false, narrowed := true }
def FnExactCopyNetUptoSaid : Prop := fnExactCopyNetUptoRow.holds Try.pinned (OpenSpec.upto fnExactCopyNetSpec)

/-- 'laws.FnExactStripNet', WHERE WHAT IT READS IS OF BULK AT MOST 1048576: true; the input reads as it did. -/
def fnExactStripNetUptoRow : OpenClaim := { program := "ytlfncadngcjdjab", sum := "bf011e7d0637f2b60cf20a5bdc199e0ee44456dbf7ccd2311092dffa9782e8fd", func := "loop.example/g00230/laws.FnExactStripNet", spec := "fnExactStripNet", apart := false, narrowed := true }
def FnExactStripNetUptoSaid : Prop := fnExactStripNetUptoRow.holds Try.pinned (OpenSpec.upto fnExactStripNetSpec)

/-- 'laws.FnExactAlterNet', WHERE WHAT IT READS IS OF BULK AT MOST 1048576: true; the input reads as it did. -/
def fnExactAlterNetUptoRow : OpenClaim := { program := "ytlfncadngcjdjab", sum := "bf011e7d0637f2b60cf20a5bdc199e0ee44456dbf7ccd2311092dffa9782e8fd", func := "loop.example/g00230/laws.FnExactAlterNet", spec := "fnExactAlterNet", apart := false, narrowed := true }
def FnExactAlterNetUptoSaid : Prop := fnExactAlterNetUptoRow.holds Try.pinned (OpenSpec.upto fnExactAlterNetSpec)

/-- 'laws.FnExactKillPath', WHERE WHAT IT READS IS OF BULK AT MOST 1048576: true; the input reads as it did. -/
def fnExactKillPathUptoRow : OpenClaim := { program := "ytlfncadngcjdjab", sum := "bf011e7d0637f2b60cf20a5bdc199e0ee44456dbf7ccd2311092dffa9782e8fd", func := "loop.example/g00230/laws.FnExactKillPath", spec := "fnExactKillPath", apart := false, narrowed := true }
def FnExactKillPathUptoSaid : Prop := fnExactKillPathUptoRow.holds Try.pinned (OpenSpec.upto fnExactKillPathSpec)

end Rows
end Go.Proofs.Ytlfncadngcjdjab
