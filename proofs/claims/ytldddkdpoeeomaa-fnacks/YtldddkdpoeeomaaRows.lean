/-
  No cell of these rows narrows 'for every input' (looked for: loops, veiled, ifaces, maps, wideKeys, modest, calm, conditions, laid).
  DERIVED. THE GIVEN ROWS OF THIS SEAT. 6 by the template 'for every input the law returns true; each argument reads behind the call as it read before'; 0 by the template 'total and deterministic' (their statements: YtldddkdpoeeomaaTotals.lean).
  GIVEN WITH THE SEED: the statements are not yours to turn. If you find one false, say at which input.
  Laid BY PROGRAM, IN A SANDBOX (cutbox-rows.mjs): the forced cells as the released guide's own fill.sh prints them over the translation 47c933cc27a35d3a… (all of the seat's roots in one cut). By AI agents, Wed Nov 11 2026. No macro, syntax, notation, axiom, sorry.
-/
import Derived.Test.YtldddkdpoeeomaaChecked
import GoSem.Claim
import GoSem.ClaimJoined
import GoSem.ClaimMapViews
import Derived.JoinedTies
import Derived.KernelRfl
namespace Go.Proofs.Ytldddkdpoeeomaa
/- THE CELL 'sum', in the pinned program and in every row, IS THE sha256 OF THE DUMP (.gsa) THAT YtldddkdpoeeomaaProg.lean LOADS. Nothing in Lean hashes anything: it is a label: what it is worth is what the hold of that sum in a sandbox is worth. -/
noncomputable def Try.pinned : Pinned := { name := "ytldddkdpoeeomaa", sum := "47c933cc27a35d3a748914f5bfa06a70c55fab719d2d5146332c4b78cd7420f0", checked := Try.checked }
namespace Rows
def none {H : Type} : Left H := { results := [], args := [] }

/-- 'laws.FnDues': WHATEVER THE INPUT: true; the input reads as it did. -/
def fnDuesSpec : ChangeSpec := { name := "fnDues", fn := fun _ => fun
  | [d] => { results := [.lit (.bool true)], args := [d] }
  | _ => none }
def fnDuesRow : OpenClaim := { program := "ytldddkdpoeeomaa", sum := "47c933cc27a35d3a748914f5bfa06a70c55fab719d2d5146332c4b78cd7420f0", func := "loop.example/g00230/laws.FnDues", spec := "fnDues", unfollowed := true, recurses := true, apart := false }
def FnDuesSaid : Prop := fnDuesRow.holds Try.pinned (OpenSpec.ofChange fnDuesSpec)

/-- ITS FALSE NEIGHBOUR: 'it returns false'. Refute it at one input. -/
def fnDuesWrong : ChangeSpec := { name := "fnDues", fn := fun _ => fun
  | [d] => { results := [.lit (.bool false)], args := [d] }
  | _ => none }
def FnDuesWrongFalsely : Prop := fnDuesRow.holds Try.pinned (OpenSpec.ofChange fnDuesWrong)

/-- 'laws.FnFlights': WHATEVER THE INPUT: true; the input reads as it did. -/
def fnFlightsSpec : ChangeSpec := { name := "fnFlights", fn := fun _ => fun
  | [d] => { results := [.lit (.bool true)], args := [d] }
  | _ => none }
def fnFlightsRow : OpenClaim := { program := "ytldddkdpoeeomaa", sum := "47c933cc27a35d3a748914f5bfa06a70c55fab719d2d5146332c4b78cd7420f0", func := "loop.example/g00230/laws.FnFlights", spec := "fnFlights", unfollowed := true, recurses := true, apart := false }
def FnFlightsSaid : Prop := fnFlightsRow.holds Try.pinned (OpenSpec.ofChange fnFlightsSpec)

/-- ITS FALSE NEIGHBOUR: 'it returns false'. Refute it at one input. -/
def fnFlightsWrong : ChangeSpec := { name := "fnFlights", fn := fun _ => fun
  | [d] => { results := [.lit (.bool false)], args := [d] }
  | _ => none }
def FnFlightsWrongFalsely : Prop := fnFlightsRow.holds Try.pinned (OpenSpec.ofChange fnFlightsWrong)

/-- 'laws.FnAcks': WHATEVER THE INPUT: true; the input reads as it did. -/
def fnAcksSpec : ChangeSpec := { name := "fnAcks", fn := fun _ => fun
  | [d] => { results := [.lit (.bool true)], args := [d] }
  | _ => none }
def fnAcksRow : OpenClaim := { program := "ytldddkdpoeeomaa", sum := "47c933cc27a35d3a748914f5bfa06a70c55fab719d2d5146332c4b78cd7420f0", func := "loop.example/g00230/laws.FnAcks", spec := "fnAcks", unfollowed := true, recurses := true, apart := false }
def FnAcksSaid : Prop := fnAcksRow.holds Try.pinned (OpenSpec.ofChange fnAcksSpec)

/-- ITS FALSE NEIGHBOUR: 'it returns false'. Refute it at one input. -/
def fnAcksWrong : ChangeSpec := { name := "fnAcks", fn := fun _ => fun
  | [d] => { results := [.lit (.bool false)], args := [d] }
  | _ => none }
def FnAcksWrongFalsely : Prop := fnAcksRow.holds Try.pinned (OpenSpec.ofChange fnAcksWrong)

/-- 'laws.FnCatches': WHATEVER THE INPUT: true; the input reads as it did. -/
def fnCatchesSpec : ChangeSpec := { name := "fnCatches", fn := fun _ => fun
  | [d] => { results := [.lit (.bool true)], args := [d] }
  | _ => none }
def fnCatchesRow : OpenClaim := { program := "ytldddkdpoeeomaa", sum := "47c933cc27a35d3a748914f5bfa06a70c55fab719d2d5146332c4b78cd7420f0", func := "loop.example/g00230/laws.FnCatches", spec := "fnCatches", unfollowed := true, recurses := true, apart := false }
def FnCatchesSaid : Prop := fnCatchesRow.holds Try.pinned (OpenSpec.ofChange fnCatchesSpec)

/-- ITS FALSE NEIGHBOUR: 'it returns false'. Refute it at one input. -/
def fnCatchesWrong : ChangeSpec := { name := "fnCatches", fn := fun _ => fun
  | [d] => { results := [.lit (.bool false)], args := [d] }
  | _ => none }
def FnCatchesWrongFalsely : Prop := fnCatchesRow.holds Try.pinned (OpenSpec.ofChange fnCatchesWrong)

/-- 'laws.FnGathers': WHATEVER THE INPUT: true; the input reads as it did. -/
def fnGathersSpec : ChangeSpec := { name := "fnGathers", fn := fun _ => fun
  | [d] => { results := [.lit (.bool true)], args := [d] }
  | _ => none }
def fnGathersRow : OpenClaim := { program := "ytldddkdpoeeomaa", sum := "47c933cc27a35d3a748914f5bfa06a70c55fab719d2d5146332c4b78cd7420f0", func := "loop.example/g00230/laws.FnGathers", spec := "fnGathers", apart := false }
def FnGathersSaid : Prop := fnGathersRow.holds Try.pinned (OpenSpec.ofChange fnGathersSpec)

/-- ITS FALSE NEIGHBOUR: 'it returns false'. Refute it at one input. -/
def fnGathersWrong : ChangeSpec := { name := "fnGathers", fn := fun _ => fun
  | [d] => { results := [.lit (.bool false)], args := [d] }
  | _ => none }
def FnGathersWrongFalsely : Prop := fnGathersRow.holds Try.pinned (OpenSpec.ofChange fnGathersWrong)

/-- 'laws.FnPieces': WHATEVER THE INPUT: true; the input reads as it did. -/
def fnPiecesSpec : ChangeSpec := { name := "fnPieces", fn := fun _ => fun
  | [d] => { results := [.lit (.bool true)], args := [d] }
  | _ => none }
def fnPiecesRow : OpenClaim := { program := "ytldddkdpoeeomaa", sum := "47c933cc27a35d3a748914f5bfa06a70c55fab719d2d5146332c4b78cd7420f0", func := "loop.example/g00230/laws.FnPieces", spec := "fnPieces", apart := false }
def FnPiecesSaid : Prop := fnPiecesRow.holds Try.pinned (OpenSpec.ofChange fnPiecesSpec)

/-- ITS FALSE NEIGHBOUR: 'it returns false'. Refute it at one input. -/
def fnPiecesWrong : ChangeSpec := { name := "fnPieces", fn := fun _ => fun
  | [d] => { results := [.lit (.bool false)], args := [d] }
  | _ => none }
def FnPiecesWrongFalsely : Prop := fnPiecesRow.holds Try.pinned (OpenSpec.ofChange fnPiecesWrong)

/- THE SECOND FORM. 'bulk': how many values and letters a reading holds, each counted each time it is reached (what is shared counts as often as it is met; a slice's spare places count too). A statement '..UptoSaid' is the law's where the arguments, and the package variables that the reading takes, are together of bulk at most 1048576: NARROWER than '..Said'. Prove '..Said' where nothing that the law and all that it calls make is longer than what came in: it says more and counts as full. Else prove '..UptoSaid'. A law counts once. -/
mutual
def uptoBulk {H : Type} : DataW H → Nat
  | .lit (.string bytes) => bytes.length + 1
  | .lit _ => 1
  | .nil => 1
  | .ptr d => uptoBulk d + 1
  | .slice elems spare => uptoBulkAll elems + uptoBulkAll spare + 1
  | .agg parts => uptoBulkAll parts + 1
  | .iface _ d => uptoBulk d + 1
  | .map entries => uptoBulkEntries entries + 1
  | .held _ => 1
def uptoBulkAll {H : Type} : List (DataW H) → Nat
  | [] => 0
  | d :: r => uptoBulk d + uptoBulkAll r
def uptoBulkEntries {H : Type} : List (Lit × DataW H) → Nat
  | [] => 0
  | x :: r => uptoBulkEntry x + uptoBulkEntries r
def uptoBulkEntry {H : Type} : Lit × DataW H → Nat
  | (.string bytes, d) => bytes.length + uptoBulk d + 1
  | (_, d) => uptoBulk d + 1
 end
def uptoSmall : (H : Type) → List (DataW H) → Bool := fun _ ds => decide (uptoBulkAll ds ≤ 1048576)
def OpenSpec.upto (s : _root_.Go.ChangeSpec) : _root_.Go.OpenSpec := { _root_.Go.OpenSpec.ofChange s with cond := some uptoSmall }

/-- 'laws.FnDues', WHERE WHAT IT READS IS OF BULK AT MOST 1048576: true; the input reads as it did. -/
def fnDuesUptoRow : OpenClaim := { program := "ytldddkdpoeeomaa", sum := "47c933cc27a35d3a748914f5bfa06a70c55fab719d2d5146332c4b78cd7420f0", func := "loop.example/g00230/laws.FnDues", spec := "fnDues", unfollowed := true, recurses := true, apart := false, narrowed := true }
def FnDuesUptoSaid : Prop := fnDuesUptoRow.holds Try.pinned (OpenSpec.upto fnDuesSpec)

/-- 'laws.FnFlights', WHERE WHAT IT READS IS OF BULK AT MOST 1048576: true; the input reads as it did. -/
def fnFlightsUptoRow : OpenClaim := { program := "ytldddkdpoeeomaa", sum := "47c933cc27a35d3a748914f5bfa06a70c55fab719d2d5146332c4b78cd7420f0", func := "loop.example/g00230/laws.FnFlights", spec := "fnFlights", unfollowed := true, recurses := true, apart := false, narrowed := true }
def FnFlightsUptoSaid : Prop := fnFlightsUptoRow.holds Try.pinned (OpenSpec.upto fnFlightsSpec)

/-- 'laws.FnAcks', WHERE WHAT IT READS IS OF BULK AT MOST 1048576: true; the input reads as it did. -/
def fnAcksUptoRow : OpenClaim := { program := "ytldddkdpoeeomaa", sum := "47c933cc27a35d3a748914f5bfa06a70c55fab719d2d5146332c4b78cd7420f0", func := "loop.example/g00230/laws.FnAcks", spec := "fnAcks", unfollowed := true, recurses := true, apart := false, narrowed := true }
def FnAcksUptoSaid : Prop := fnAcksUptoRow.holds Try.pinned (OpenSpec.upto fnAcksSpec)

/-- 'laws.FnCatches', WHERE WHAT IT READS IS OF BULK AT MOST 1048576: true; the input reads as it did. -/
def fnCatchesUptoRow : OpenClaim := { program := "ytldddkdpoeeomaa", sum := "47c933cc27a35d3a748914f5bfa06a70c55fab719d2d5146332c4b78cd7420f0", func := "loop.example/g00230/laws.FnCatches", spec := "fnCatches", unfollowed := true, recurses := true, apart := false, narrowed := true }
def FnCatchesUptoSaid : Prop := fnCatchesUptoRow.holds Try.pinned (OpenSpec.upto fnCatchesSpec)

/-- 'laws.FnGathers', WHERE WHAT IT READS IS OF BULK AT MOST 1048576: true; the input reads as it did. -/
def fnGathersUptoRow : OpenClaim := { program := "ytldddkdpoeeomaa", sum := "47c933cc27a35d3a748914f5bfa06a70c55fab719d2d5146332c4b78cd7420f0", func := "loop.example/g00230/laws.FnGathers", spec := "fnGathers", apart := false, narrowed := true }
def FnGathersUptoSaid : Prop := fnGathersUptoRow.holds Try.pinned (OpenSpec.upto fnGathersSpec)

/-- 'laws.FnPieces', WHERE WHAT IT READS IS OF BULK AT MOST 1048576: true; the input reads as it did. -/
def fnPiecesUptoRow : OpenClaim := { program := "ytldddkdpoeeomaa", sum := "47c933cc27a35d3a748914f5bfa06a70c55fab719d2d5146332c4b78cd7420f0", func := "loop.example/g00230/laws.FnPieces", spec := "fnPieces", apart := false, narrowed := true }
def FnPiecesUptoSaid : Prop := fnPiecesUptoRow.holds Try.pinned (OpenSpec.upto fnPiecesSpec)

end Rows
end Go.Proofs.Ytldddkdpoeeomaa
