/- What the model says of a conn: its fault, where a path stands, how far it has come; nothing that was in memory turns; no condition but that there are at most a million parts. -/
import Derived.Test.YtlicopeejphgaapRows
import Derived.Test.YtlicopeejphgaapBase
import Derived.Test.YtlicopeejphgaapBytes
import Derived.Test.YtlicopeejphgaapMem
import Derived.Test.YtlicopeejphgaapHBase
import Derived.Test.YtlicopeejphgaapHFlight
import Derived.Test.YtlicopeejphgaapHSender
import Derived.Test.YtlicopeejphgaapHSpan
import Derived.Test.YtlicopeejphgaapHCatch
import Derived.Test.YtlicopeejphgaapFlightDef
import Derived.Test.YtlicopeejphgaapSpecFlight
import Derived.Test.YtlicopeejphgaapCatDef
import Derived.Test.YtlicopeejphgaapCtrl
import Derived.Test.YtlicopeejphgaapHSub
import Derived.Test.YtlicopeejphgaapSubDef
import Derived.Test.YtlicopeejphgaapSubSpec
import Derived.Test.YtlicopeejphgaapHSubA
import Derived.Test.YtlicopeejphgaapHSubs
import Derived.Test.YtlicopeejphgaapGath
import Derived.Test.YtlicopeejphgaapGathLaw
import Derived.Test.YtlicopeejphgaapSpecGath
import Derived.Test.YtlicopeejphgaapAgg
import Derived.Test.YtlicopeejphgaapBox
import Derived.Test.YtlicopeejphgaapHConn
import Derived.Test.YtlicopeejphgaapConnDef
import Derived.Test.YtlicopeejphgaapConnSpec
import Derived.Test.YtlicopeejphgaapConnSpecF
import Derived.Deep.RegionHeld3
import Derived.Deep.DeepCutAuto
import Derived.Deep.QuietTactic
import Derived.BigQuiet
namespace Go.Proofs.Ytlicopeejphgaap
open Go.RowKit
set_option linter.unusedVariables false
set_option maxRecDepth 8000

end Go.Proofs.Ytlicopeejphgaap
