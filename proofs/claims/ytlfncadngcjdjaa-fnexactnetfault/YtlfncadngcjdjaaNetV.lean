/- NetFault of nets that stand as arrays; no condition. -/
import Derived.Test.YtlfncadngcjdjaaRows
import Derived.Test.YtlfncadngcjdjaaMem
import Derived.Test.YtlfncadngcjdjaaHBool
import Derived.Test.YtlfncadngcjdjaaHNet
import Derived.Test.YtlfncadngcjdjaaNetSpF
import Derived.Test.YtlfncadngcjdjaaNetImF
namespace Go.Proofs.Ytlfncadngcjdjaa
open Go.RowKit
set_option linter.unusedVariables false
theorem sNetFaultA (x : DNet) (A : Array Value) (w : World) (B : Nat) (hr : shNet.Rd w B x A.toList) (hB : B ≤ w.heap.size) (hT : totNet x ≤ 1048576) :
    Calls Try.prog 20 #[.agg A] w fun e w' => e = .returned (.int .i64 (netF x.1 x.2.1)) ∧ Below w.heap.size w w' := by
  obtain ⟨l, d, ⟨⟩⟩ := x
  obtain ⟨a, c, a1, c1, eA, r1, r2⟩ := rd_Net hr
  rw [arr_of eA]
  exact sNetFault _ l d _ _ w B r1 r2 hB
theorem iNetFaultA (x : DNet) (A : Array Value) (w : World) (B : Nat) (hr : shNet.Rd w B x A.toList) (hB : B ≤ w.heap.size) (hT : totNet x ≤ 1048576) :
    Calls Try.prog 14 #[.agg A] w fun e w' => e = .returned (.int .i64 (netF x.1 x.2.1)) ∧ Below w.heap.size w w' := by
  obtain ⟨l, d, ⟨⟩⟩ := x
  obtain ⟨a, c, a1, c1, eA, r1, r2⟩ := rd_Net hr
  rw [arr_of eA]
  exact iNetFault _ l d _ _ w B r1 r2 hB
end Go.Proofs.Ytlfncadngcjdjaa
