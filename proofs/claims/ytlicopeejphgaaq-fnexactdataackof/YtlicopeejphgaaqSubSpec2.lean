/- What the model answers of a sub: its fault, its room, what is stale; nothing that was in memory turns; no condition but that there are at most a million parts. -/
import Derived.Test.YtlicopeejphgaaqRows
import Derived.Test.YtlicopeejphgaaqBase
import Derived.Test.YtlicopeejphgaaqBytes
import Derived.Test.YtlicopeejphgaaqMem
import Derived.Test.YtlicopeejphgaaqHBase
import Derived.Test.YtlicopeejphgaaqHFlight
import Derived.Test.YtlicopeejphgaaqHSender
import Derived.Test.YtlicopeejphgaaqHSpan
import Derived.Test.YtlicopeejphgaaqHCatch
import Derived.Test.YtlicopeejphgaaqFlightDef
import Derived.Test.YtlicopeejphgaaqCatDef
import Derived.Test.YtlicopeejphgaaqCtrl
import Derived.Test.YtlicopeejphgaaqBox
import Derived.Test.YtlicopeejphgaaqSubBox
import Derived.Test.YtlicopeejphgaaqHSub
import Derived.Test.YtlicopeejphgaaqSubDef
import Derived.Test.YtlicopeejphgaaqSubSpec
import Derived.Deep.RegionHeld3
namespace Go.Proofs.Ytlicopeejphgaaq
open Go.RowKit
set_option linter.unusedVariables false
set_option maxRecDepth 8000

end Go.Proofs.Ytlicopeejphgaaq
