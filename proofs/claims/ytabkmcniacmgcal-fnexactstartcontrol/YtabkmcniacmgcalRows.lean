/-
  No cell of these rows narrows 'for every input' (looked for: loops, veiled, ifaces, maps, wideKeys, modest, calm, conditions, laid).
  DERIVED. THE GIVEN ROWS OF THIS SEAT. 6 by the template 'for every input the law returns true; each argument reads behind the call as it read before'; 0 by the template 'total and deterministic' (their statements: YtabkmcniacmgcalTotals.lean).
  GIVEN WITH THE SEED: the statements are not yours to turn. If you find one false, say at which input.
  Laid BY PROGRAM, IN A SANDBOX (cutbox-rows.mjs): the forced cells as the released guide's own fill.sh prints them over the translation 91ce7f627f55c397… (all of the seat's roots in one cut). By AI agents, Wed Nov 11 2026. No macro, syntax, notation, axiom, sorry.
-/
import Derived.Test.YtabkmcniacmgcalChecked
import GoSem.Claim
import GoSem.ClaimJoined
import GoSem.ClaimMapViews
import Derived.JoinedTies
import Derived.KernelRfl
namespace Go.Proofs.Ytabkmcniacmgcal
/- THE CELL 'sum', in the pinned program and in every row, IS THE sha256 OF THE DUMP (.gsa) THAT YtabkmcniacmgcalProg.lean LOADS. Nothing in Lean hashes anything: it is a label: what it is worth is what the hold of that sum in a sandbox is worth. -/
noncomputable def Try.pinned : Pinned := { name := "ytabkmcniacmgcal", sum := "91ce7f627f55c397f6b7bb94c7d50a0da6879249d20d6e71ed5efe4c6bc836b0", checked := Try.checked }
namespace Rows
def none {H : Type} : Left H := { results := [], args := [] }

/-- 'laws.FnExactDueFlights': WHATEVER THE INPUT: true; the input reads as it did. -/
def fnExactDueFlightsSpec : ChangeSpec := { name := "fnExactDueFlights", fn := fun _ => fun
  | [d1, d2, d3] => { results := [.lit (.bool true)], args := [d1, d2, d3] }
  | _ => none }
def fnExactDueFlightsRow : OpenClaim := { program := "ytabkmcniacmgcal", sum := "91ce7f627f55c397f6b7bb94c7d50a0da6879249d20d6e71ed5efe4c6bc836b0", func := "loop.example/g00230/laws.FnExactDueFlights", spec := "fnExactDueFlights", unfollowed := true, recurses := true, apart := false }
def FnExactDueFlightsSaid : Prop := fnExactDueFlightsRow.holds Try.pinned (OpenSpec.ofChange fnExactDueFlightsSpec)

/-- ITS FALSE NEIGHBOUR: 'it returns false'. Refute it at one input. -/
def fnExactDueFlightsWrong : ChangeSpec := { name := "fnExactDueFlights", fn := fun _ => fun
  | [d1, d2, d3] => { results := [.lit (.bool false)], args := [d1, d2, d3] }
  | _ => none }
def FnExactDueFlightsWrongFalsely : Prop := fnExactDueFlightsRow.holds Try.pinned (OpenSpec.ofChange fnExactDueFlightsWrong)

/-- 'laws.FnExactTouchFlight': WHATEVER THE INPUT: true; the input reads as it did. -/
def fnExactTouchFlightSpec : ChangeSpec := { name := "fnExactTouchFlight", fn := fun _ => fun
  | [d1, d2, d3] => { results := [.lit (.bool true)], args := [d1, d2, d3] }
  | _ => none }
def fnExactTouchFlightRow : OpenClaim := { program := "ytabkmcniacmgcal", sum := "91ce7f627f55c397f6b7bb94c7d50a0da6879249d20d6e71ed5efe4c6bc836b0", func := "loop.example/g00230/laws.FnExactTouchFlight", spec := "fnExactTouchFlight", apart := false }
def FnExactTouchFlightSaid : Prop := fnExactTouchFlightRow.holds Try.pinned (OpenSpec.ofChange fnExactTouchFlightSpec)

/-- ITS FALSE NEIGHBOUR: 'it returns false'. Refute it at one input. -/
def fnExactTouchFlightWrong : ChangeSpec := { name := "fnExactTouchFlight", fn := fun _ => fun
  | [d1, d2, d3] => { results := [.lit (.bool false)], args := [d1, d2, d3] }
  | _ => none }
def FnExactTouchFlightWrongFalsely : Prop := fnExactTouchFlightRow.holds Try.pinned (OpenSpec.ofChange fnExactTouchFlightWrong)

/-- 'laws.FnExactOnWay': WHATEVER THE INPUT: true; the input reads as it did. -/
def fnExactOnWaySpec : ChangeSpec := { name := "fnExactOnWay", fn := fun _ => fun
  | [d] => { results := [.lit (.bool true)], args := [d] }
  | _ => none }
def fnExactOnWayRow : OpenClaim := { program := "ytabkmcniacmgcal", sum := "91ce7f627f55c397f6b7bb94c7d50a0da6879249d20d6e71ed5efe4c6bc836b0", func := "loop.example/g00230/laws.FnExactOnWay", spec := "fnExactOnWay", apart := false }
def FnExactOnWaySaid : Prop := fnExactOnWayRow.holds Try.pinned (OpenSpec.ofChange fnExactOnWaySpec)

/-- ITS FALSE NEIGHBOUR: 'it returns false'. Refute it at one input. -/
def fnExactOnWayWrong : ChangeSpec := { name := "fnExactOnWay", fn := fun _ => fun
  | [d] => { results := [.lit (.bool false)], args := [d] }
  | _ => none }
def FnExactOnWayWrongFalsely : Prop := fnExactOnWayRow.holds Try.pinned (OpenSpec.ofChange fnExactOnWayWrong)

/-- 'laws.FnExactSeqOf': WHATEVER THE INPUT: true; the input reads as it did. -/
def fnExactSeqOfSpec : ChangeSpec := { name := "fnExactSeqOf", fn := fun _ => fun
  | [d1, d2] => { results := [.lit (.bool true)], args := [d1, d2] }
  | _ => none }
def fnExactSeqOfRow : OpenClaim := { program := "ytabkmcniacmgcal", sum := "91ce7f627f55c397f6b7bb94c7d50a0da6879249d20d6e71ed5efe4c6bc836b0", func := "loop.example/g00230/laws.FnExactSeqOf", spec := "fnExactSeqOf", apart := false }
def FnExactSeqOfSaid : Prop := fnExactSeqOfRow.holds Try.pinned (OpenSpec.ofChange fnExactSeqOfSpec)

/-- ITS FALSE NEIGHBOUR: 'it returns false'. Refute it at one input. -/
def fnExactSeqOfWrong : ChangeSpec := { name := "fnExactSeqOf", fn := fun _ => fun
  | [d1, d2] => { results := [.lit (.bool false)], args := [d1, d2] }
  | _ => none }
def FnExactSeqOfWrongFalsely : Prop := fnExactSeqOfRow.holds Try.pinned (OpenSpec.ofChange fnExactSeqOfWrong)

/-- 'laws.FnExactControlFault': WHATEVER THE INPUT: true; the input reads as it did. -/
def fnExactControlFaultSpec : ChangeSpec := { name := "fnExactControlFault", fn := fun _ => fun
  | [d] => { results := [.lit (.bool true)], args := [d] }
  | _ => none }
def fnExactControlFaultRow : OpenClaim := { program := "ytabkmcniacmgcal", sum := "91ce7f627f55c397f6b7bb94c7d50a0da6879249d20d6e71ed5efe4c6bc836b0", func := "loop.example/g00230/laws.FnExactControlFault", spec := "fnExactControlFault", apart := false }
def FnExactControlFaultSaid : Prop := fnExactControlFaultRow.holds Try.pinned (OpenSpec.ofChange fnExactControlFaultSpec)

/-- ITS FALSE NEIGHBOUR: 'it returns false'. Refute it at one input. -/
def fnExactControlFaultWrong : ChangeSpec := { name := "fnExactControlFault", fn := fun _ => fun
  | [d] => { results := [.lit (.bool false)], args := [d] }
  | _ => none }
def FnExactControlFaultWrongFalsely : Prop := fnExactControlFaultRow.holds Try.pinned (OpenSpec.ofChange fnExactControlFaultWrong)

/-- 'laws.FnExactStartControl': WHATEVER THE INPUT: true; the input reads as it did. -/
def fnExactStartControlSpec : ChangeSpec := { name := "fnExactStartControl", fn := fun _ => fun
  | [d] => { results := [.lit (.bool true)], args := [d] }
  | _ => none }
def fnExactStartControlRow : OpenClaim := { program := "ytabkmcniacmgcal", sum := "91ce7f627f55c397f6b7bb94c7d50a0da6879249d20d6e71ed5efe4c6bc836b0", func := "loop.example/g00230/laws.FnExactStartControl", spec := "fnExactStartControl", apart := false }
def FnExactStartControlSaid : Prop := fnExactStartControlRow.holds Try.pinned (OpenSpec.ofChange fnExactStartControlSpec)

/-- ITS FALSE NEIGHBOUR: 'it returns false'. Refute it at one input. -/
def fnExactStartControlWrong : ChangeSpec := { name := "fnExactStartControl", fn := fun _ => fun
  | [d] => { results := [.lit (.bool false)], args := [d] }
  | _ => none }
def FnExactStartControlWrongFalsely : Prop := fnExactStartControlRow.holds Try.pinned (OpenSpec.ofChange fnExactStartControlWrong)

/- THE SECOND FORM. 'bulk': how many values and letters a reading holds, each counted each time it is reached (what is shared counts as often as it is met; a slice's spare places count too). A statement '..UptoSaid' is the law's where the arguments, and the package variables that the reading takes, are together of bulk at most 1048576: NARROWER than '..Said'. Prove '..Said' where nothing that the law and all that it calls make is longer than what came in: it says more and counts as full. Else prove '..UptoSaid'. A law counts once. -/
mutual
def uptoBulk {H : Type} : DataW H → Nat
  | .lit (.string bytes) => bytes.length + 1
  | .lit _ => 1
  | .nil => 1
  | .ptr d => uptoBulk d + 1
  | .slice elems spare => uptoBulkAll elems + uptoBulkAll spare + 1
  | .agg parts => uptoBulkAll parts + 1
  | .iface _ d => uptoBulk d + 1
  | .map entries => uptoBulkEntries entries + 1
  | .held _ => 1
def uptoBulkAll {H : Type} : List (DataW H) → Nat
  | [] => 0
  | d :: r => uptoBulk d + uptoBulkAll r
def uptoBulkEntries {H : Type} : List (Lit × DataW H) → Nat
  | [] => 0
  | x :: r => uptoBulkEntry x + uptoBulkEntries r
def uptoBulkEntry {H : Type} : Lit × DataW H → Nat
  | (.string bytes, d) => bytes.length + uptoBulk d + 1
  | (_, d) => uptoBulk d + 1
 end
def uptoSmall : (H : Type) → List (DataW H) → Bool := fun _ ds => decide (uptoBulkAll ds ≤ 1048576)
def OpenSpec.upto (s : _root_.Go.ChangeSpec) : _root_.Go.OpenSpec := { _root_.Go.OpenSpec.ofChange s with cond := some uptoSmall }

/-- 'laws.FnExactDueFlights', WHERE WHAT IT READS IS OF BULK AT MOST 1048576: true; the input reads as it did. -/
def fnExactDueFlightsUptoRow : OpenClaim := { program := "ytabkmcniacmgcal", sum := "91ce7f627f55c397f6b7bb94c7d50a0da6879249d20d6e71ed5efe4c6bc836b0", func := "loop.example/g00230/laws.FnExactDueFlights", spec := "fnExactDueFlights", unfollowed := true, recurses := true, apart := false, narrowed := true }
def FnExactDueFlightsUptoSaid : Prop := fnExactDueFlightsUptoRow.holds Try.pinned (OpenSpec.upto fnExactDueFlightsSpec)

/-- 'laws.FnExactTouchFlight', WHERE WHAT IT READS IS OF BULK AT MOST 1048576: true; the input reads as it did. -/
def fnExactTouchFlightUptoRow : OpenClaim := { program := "ytabkmcniacmgcal", sum := "91ce7f627f55c397f6b7bb94c7d50a0da6879249d20d6e71ed5efe4c6bc836b0", func := "loop.example/g00230/laws.FnExactTouchFlight", spec := "fnExactTouchFlight", apart := false, narrowed := true }
def FnExactTouchFlightUptoSaid : Prop := fnExactTouchFlightUptoRow.holds Try.pinned (OpenSpec.upto fnExactTouchFlightSpec)

/-- 'laws.FnExactOnWay', WHERE WHAT IT READS IS OF BULK AT MOST 1048576: true; the input reads as it did. -/
def fnExactOnWayUptoRow : OpenClaim := { program := "ytabkmcniacmgcal", sum := "91ce7f627f55c397f6b7bb94c7d50a0da6879249d20d6e71ed5efe4c6bc836b0", func := "loop.example/g00230/laws.FnExactOnWay", spec := "fnExactOnWay", apart := false, narrowed := true }
def FnExactOnWayUptoSaid : Prop := fnExactOnWayUptoRow.holds Try.pinned (OpenSpec.upto fnExactOnWaySpec)

/-- 'laws.FnExactSeqOf', WHERE WHAT IT READS IS OF BULK AT MOST 1048576: true; the input reads as it did. -/
def fnExactSeqOfUptoRow : OpenClaim := { program := "ytabkmcniacmgcal", sum := "91ce7f627f55c397f6b7bb94c7d50a0da6879249d20d6e71ed5efe4c6bc836b0", func := "loop.example/g00230/laws.FnExactSeqOf", spec := "fnExactSeqOf", apart := false, narrowed := true }
def FnExactSeqOfUptoSaid : Prop := fnExactSeqOfUptoRow.holds Try.pinned (OpenSpec.upto fnExactSeqOfSpec)

/-- 'laws.FnExactControlFault', WHERE WHAT IT READS IS OF BULK AT MOST 1048576: true; the input reads as it did. -/
def fnExactControlFaultUptoRow : OpenClaim := { program := "ytabkmcniacmgcal", sum := "91ce7f627f55c397f6b7bb94c7d50a0da6879249d20d6e71ed5efe4c6bc836b0", func := "loop.example/g00230/laws.FnExactControlFault", spec := "fnExactControlFault", apart := false, narrowed := true }
def FnExactControlFaultUptoSaid : Prop := fnExactControlFaultUptoRow.holds Try.pinned (OpenSpec.upto fnExactControlFaultSpec)

/-- 'laws.FnExactStartControl', WHERE WHAT IT READS IS OF BULK AT MOST 1048576: true; the input reads as it did. -/
def fnExactStartControlUptoRow : OpenClaim := { program := "ytabkmcniacmgcal", sum := "91ce7f627f55c397f6b7bb94c7d50a0da6879249d20d6e71ed5efe4c6bc836b0", func := "loop.example/g00230/laws.FnExactStartControl", spec := "fnExactStartControl", apart := false, narrowed := true }
def FnExactStartControlUptoSaid : Prop := fnExactStartControlUptoRow.holds Try.pinned (OpenSpec.upto fnExactStartControlSpec)

end Rows
end Go.Proofs.Ytabkmcniacmgcal
