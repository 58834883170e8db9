/- What the model says of a conn: its fault, where a path stands, how far it has come; nothing that was in memory turns; no condition but that there are at most a million parts. -/
import Derived.Test.YtlicopeejphgaaoRows
import Derived.Test.YtlicopeejphgaaoBase
import Derived.Test.YtlicopeejphgaaoBytes
import Derived.Test.YtlicopeejphgaaoMem
import Derived.Test.YtlicopeejphgaaoHBase
import Derived.Test.YtlicopeejphgaaoHFlight
import Derived.Test.YtlicopeejphgaaoHSender
import Derived.Test.YtlicopeejphgaaoHSpan
import Derived.Test.YtlicopeejphgaaoHCatch
import Derived.Test.YtlicopeejphgaaoFlightDef
import Derived.Test.YtlicopeejphgaaoSpecFlight
import Derived.Test.YtlicopeejphgaaoCatDef
import Derived.Test.YtlicopeejphgaaoCtrl
import Derived.Test.YtlicopeejphgaaoHSub
import Derived.Test.YtlicopeejphgaaoSubDef
import Derived.Test.YtlicopeejphgaaoSubSpec
import Derived.Test.YtlicopeejphgaaoHSubA
import Derived.Test.YtlicopeejphgaaoHSubs
import Derived.Test.YtlicopeejphgaaoGath
import Derived.Test.YtlicopeejphgaaoGathLaw
import Derived.Test.YtlicopeejphgaaoSpecGath
import Derived.Test.YtlicopeejphgaaoAgg
import Derived.Test.YtlicopeejphgaaoBox
import Derived.Test.YtlicopeejphgaaoHConn
import Derived.Test.YtlicopeejphgaaoConnDef
import Derived.Test.YtlicopeejphgaaoConnSpec
import Derived.Test.YtlicopeejphgaaoConnSpecF
import Derived.Deep.RegionHeld3
import Derived.Deep.DeepCutAuto
import Derived.Deep.QuietTactic
import Derived.BigQuiet
namespace Go.Proofs.Ytlicopeejphgaao
open Go.RowKit
set_option linter.unusedVariables false
set_option maxRecDepth 8000

theorem sConnFault (c : DConn) (A : Array Value) (w : World) (B : Nat) (hr : shConn.Rd w B c A.toList) (hB : B ≤ w.heap.size) (hT : totConn c ≤ 1048576) :
    Calls Try.prog 25 #[.agg A] w fun e w' => e = .returned (.int .i64 (connF c)) ∧ Below w.heap.size w w' := by
  have HC : Hid (∀ W, Below w.heap.size w W → (∀ o, W.cell? ⟨w.heap.size, o, none⟩ = A[o]?) → Calls Try.prog 59 #[.pointer (some ⟨w.heap.size, 0, none⟩)] W fun e w' => e = .returned (.int .i64 (connF c)) ∧ Below W.heap.size W w') := fun W hW hk => sL9Fault c A w.heap.size 0 W B (ConnAt.of (bx_range hk) (Sh.Rd.below hr hB hW) (Nat.le_trans hB hW.size) hT)
  clear hr
  generalize connF c = R at *
  go_enter Try.func25, Try.ntmps25
  go_wp2_with fail
  refine (HC.out _ (by go_grown) (bx_al _ _ _)).mono ?_
  rintro e w1 ⟨rfl, hb⟩
  go_wp2_with fail
  go_ret
  exact ⟨rfl, (bl_new hb).1⟩
end Go.Proofs.Ytlicopeejphgaao
