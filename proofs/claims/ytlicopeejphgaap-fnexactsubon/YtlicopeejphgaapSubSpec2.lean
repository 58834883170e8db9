/- What the model answers of a sub: its fault, its room, what is stale; nothing that was in memory turns; no condition but that there are at most a million parts. -/
import Derived.Test.YtlicopeejphgaapRows
import Derived.Test.YtlicopeejphgaapBase
import Derived.Test.YtlicopeejphgaapBytes
import Derived.Test.YtlicopeejphgaapMem
import Derived.Test.YtlicopeejphgaapHBase
import Derived.Test.YtlicopeejphgaapHFlight
import Derived.Test.YtlicopeejphgaapHSender
import Derived.Test.YtlicopeejphgaapHSpan
import Derived.Test.YtlicopeejphgaapHCatch
import Derived.Test.YtlicopeejphgaapFlightDef
import Derived.Test.YtlicopeejphgaapCatDef
import Derived.Test.YtlicopeejphgaapCtrl
import Derived.Test.YtlicopeejphgaapBox
import Derived.Test.YtlicopeejphgaapSubBox
import Derived.Test.YtlicopeejphgaapHSub
import Derived.Test.YtlicopeejphgaapSubDef
import Derived.Test.YtlicopeejphgaapSubSpec
import Derived.Deep.RegionHeld3
namespace Go.Proofs.Ytlicopeejphgaap
open Go.RowKit
set_option linter.unusedVariables false
set_option maxRecDepth 8000

end Go.Proofs.Ytlicopeejphgaap
