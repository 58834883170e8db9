/- What a side tells of a path, answers and proves, by the program, over conns and subs that stand as one value each; nothing that was in memory turns; no condition. Written by mktell.py. -/
import Derived.Test.YtbdibjeemgkdaaaGreatRows
import Derived.Deep.RegionHeld3
import Derived.Deep.DeepCutAuto
import Derived.Deep.MidRow
import Derived.Test.YtbdibjeemgkdaaaGreatK01
import Derived.Test.YtbdibjeemgkdaaaGreatK02
import Derived.Test.YtbdibjeemgkdaaaGreatK03
import Derived.Test.YtbdibjeemgkdaaaGreatK04
import Derived.Test.YtbdibjeemgkdaaaGreatK05
import Derived.Test.YtbdibjeemgkdaaaGreatK06
import Derived.Test.YtbdibjeemgkdaaaGreatK09
import Derived.Test.YtbdibjeemgkdaaaGreatK10
import Derived.Test.YtbdibjeemgkdaaaGreatK11
import Derived.Test.YtbdibjeemgkdaaaGreatK20
import Derived.Test.YtbdibjeemgkdaaaGreatK21
namespace Go.Proofs.YtbdibjeemgkdaaaGreat
open Go.RowKit
set_option linter.unusedVariables false
set_option maxRecDepth 8000

theorem iEndTold (A : Array Value) (fin : Bool) (a : Option Addr) (n cap : Nat) (x5 : A[5]? = some (.slice a n cap)) (x6 : A[6]? = some (.bool fin)) (hn : n ≤ 1048576) (w : World) :
    Calls Tryz.prog 99 #[.agg A] w fun e w' => e = .returned (.int .i64 (if fin then (n : Int) + 1 else 0)) ∧ Below w.heap.size w w' := by
  cases fin
  · go_enter Tryz.func99, Tryz.ntmps99
    go_wp2_with fail
    go_ret
    exact ⟨rfl, by go_grown⟩
  · go_enter Tryz.func99, Tryz.ntmps99
    go_wp2_with fail
    go_ret
    exact ⟨rfl, by go_grown⟩
end Go.Proofs.YtbdibjeemgkdaaaGreat
