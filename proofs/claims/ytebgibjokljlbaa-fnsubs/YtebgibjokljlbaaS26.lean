/- What program and model make of a sub that is closed: the answer owns its memory; nothing that was in memory turns; no condition but that there are at most a million parts. Written by mkclose.py. -/
import Derived.Test.YtebgibjokljlbaaRows
import Derived.Deep.RegionHeld3
import Derived.Test.YtebgibjokljlbaaS01
import Derived.Test.YtebgibjokljlbaaS03
import Derived.Test.YtebgibjokljlbaaS04
import Derived.Test.YtebgibjokljlbaaS05
import Derived.Test.YtebgibjokljlbaaS11
import Derived.Test.YtebgibjokljlbaaS13
import Derived.Test.YtebgibjokljlbaaS18
import Derived.Test.YtebgibjokljlbaaS21
import Derived.Test.YtebgibjokljlbaaS23
import Derived.Test.YtebgibjokljlbaaS24
import Derived.Test.YtebgibjokljlbaaS25
namespace Go.Proofs.Ytebgibjokljlbaa
open Go.RowKit
set_option linter.unusedVariables false
set_option maxRecDepth 8000
theorem clsV_f {x : DSub} (h : ¬ subF x = 0) : clsV x = zSub := by unfold clsV; rw [if_neg h]
theorem clsV_o {x : DSub} (h : subF x = 0) : clsV x = clsX x := by unfold clsV; rw [if_pos h]
theorem zSub_own (w : World) (lo hi : Nat) (h : lo ≤ hi) : Own w lo hi shSubO zSub [.int .i64 0, .int .i64 0, .bool false, .int .i64 0, .int .i64 0, .int .i64 0, .int .i64 0, .int .i64 0, .int .i64 0, .slice none 0 0, .int .i64 0, .int .i64 0, .slice none 0 0, .int .i64 0, .int .i64 0, .int .i64 0] :=
  own_Sub0 h ⟨⟨by decide, by decide, by decide, by decide, by decide⟩, by decide, by decide, by decide⟩ (by decide) (by decide) (by decide) (by decide) (by decide)
end Go.Proofs.Ytebgibjokljlbaa
