/- What the model says of a conn: its fault, where a path stands, how far it has come; nothing that was in memory turns; no condition but that there are at most a million parts. -/
import Derived.Test.YtlicopeejphgaaqRows
import Derived.Test.YtlicopeejphgaaqBase
import Derived.Test.YtlicopeejphgaaqBytes
import Derived.Test.YtlicopeejphgaaqMem
import Derived.Test.YtlicopeejphgaaqHBase
import Derived.Test.YtlicopeejphgaaqHFlight
import Derived.Test.YtlicopeejphgaaqHSender
import Derived.Test.YtlicopeejphgaaqHSpan
import Derived.Test.YtlicopeejphgaaqHCatch
import Derived.Test.YtlicopeejphgaaqFlightDef
import Derived.Test.YtlicopeejphgaaqSpecFlight
import Derived.Test.YtlicopeejphgaaqCatDef
import Derived.Test.YtlicopeejphgaaqCtrl
import Derived.Test.YtlicopeejphgaaqHSub
import Derived.Test.YtlicopeejphgaaqSubDef
import Derived.Test.YtlicopeejphgaaqSubSpec
import Derived.Test.YtlicopeejphgaaqHSubA
import Derived.Test.YtlicopeejphgaaqHSubs
import Derived.Test.YtlicopeejphgaaqGath
import Derived.Test.YtlicopeejphgaaqGathLaw
import Derived.Test.YtlicopeejphgaaqSpecGath
import Derived.Test.YtlicopeejphgaaqAgg
import Derived.Test.YtlicopeejphgaaqBox
import Derived.Test.YtlicopeejphgaaqHConn
import Derived.Test.YtlicopeejphgaaqConnDef
import Derived.Test.YtlicopeejphgaaqConnSpec
import Derived.Test.YtlicopeejphgaaqConnSpecF
import Derived.Deep.RegionHeld3
import Derived.Deep.DeepCutAuto
import Derived.Deep.QuietTactic
import Derived.BigQuiet
namespace Go.Proofs.Ytlicopeejphgaaq
open Go.RowKit
set_option linter.unusedVariables false
set_option maxRecDepth 8000

end Go.Proofs.Ytlicopeejphgaaq
