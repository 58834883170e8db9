/- What program and model make of a sub that is closed: the answer owns its memory; nothing that was in memory turns; no condition but that there are at most a million parts. Written by mkclose.py. -/
import Derived.Test.YtlicopeejphgaaoRows
import Derived.Test.YtlicopeejphgaaoBase
import Derived.Test.YtlicopeejphgaaoBytes
import Derived.Test.YtlicopeejphgaaoMem
import Derived.Test.YtlicopeejphgaaoHBase
import Derived.Test.YtlicopeejphgaaoHFlight
import Derived.Test.YtlicopeejphgaaoHSender
import Derived.Test.YtlicopeejphgaaoHSpan
import Derived.Test.YtlicopeejphgaaoHCatch
import Derived.Test.YtlicopeejphgaaoFlightDef
import Derived.Test.YtlicopeejphgaaoCatDef
import Derived.Test.YtlicopeejphgaaoMCatch
import Derived.Test.YtlicopeejphgaaoCatCopy
import Derived.Test.YtlicopeejphgaaoCtrl
import Derived.Test.YtlicopeejphgaaoBox
import Derived.Test.YtlicopeejphgaaoSubBox
import Derived.Test.YtlicopeejphgaaoSubSets
import Derived.Test.YtlicopeejphgaaoHSub
import Derived.Test.YtlicopeejphgaaoSubO
import Derived.Test.YtlicopeejphgaaoSubDef
import Derived.Test.YtlicopeejphgaaoSubSpec
import Derived.Test.YtlicopeejphgaaoSubSpec2
import Derived.Test.YtlicopeejphgaaoSubImpl
import Derived.Test.YtlicopeejphgaaoSubCopy
import Derived.Deep.RegionHeld3
namespace Go.Proofs.Ytlicopeejphgaao
open Go.RowKit
set_option linter.unusedVariables false
set_option maxRecDepth 8000

theorem clsV_f {x : DSub} (h : ¬ subF x = 0) : clsV x = zSub := by unfold clsV; rw [if_neg h]
theorem clsV_o {x : DSub} (h : subF x = 0) : clsV x = clsX x := by unfold clsV; rw [if_pos h]
theorem zSub_own (w : World) (lo hi : Nat) (h : lo ≤ hi) : Own w lo hi shSubO zSub [.int .i64 0, .int .i64 0, .bool false, .int .i64 0, .int .i64 0, .int .i64 0, .int .i64 0, .int .i64 0, .int .i64 0, .slice none 0 0, .int .i64 0, .int .i64 0, .slice none 0 0, .int .i64 0, .int .i64 0, .int .i64 0] :=
  own_Sub0 h ⟨⟨by decide, by decide, by decide, by decide, by decide⟩, by decide, by decide, by decide⟩ (by decide) (by decide) (by decide) (by decide) (by decide)
end Go.Proofs.Ytlicopeejphgaao
