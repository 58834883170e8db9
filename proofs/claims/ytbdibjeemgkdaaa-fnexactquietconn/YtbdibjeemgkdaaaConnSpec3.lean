/- What the model says of a conn: its fault, where a path stands, how far it has come; nothing that was in memory turns; no condition but that there are at most a million parts. -/
import Derived.Test.YtbdibjeemgkdaaaRows
import Derived.Test.YtbdibjeemgkdaaaBase
import Derived.Test.YtbdibjeemgkdaaaBytes
import Derived.Test.YtbdibjeemgkdaaaMem
import Derived.Test.YtbdibjeemgkdaaaHBase
import Derived.Test.YtbdibjeemgkdaaaHFlight
import Derived.Test.YtbdibjeemgkdaaaHSender
import Derived.Test.YtbdibjeemgkdaaaHSpan
import Derived.Test.YtbdibjeemgkdaaaHCatch
import Derived.Test.YtbdibjeemgkdaaaFlightDef
import Derived.Test.YtbdibjeemgkdaaaSpecFlight
import Derived.Test.YtbdibjeemgkdaaaCatDef
import Derived.Test.YtbdibjeemgkdaaaCtrl
import Derived.Test.YtbdibjeemgkdaaaHSub
import Derived.Test.YtbdibjeemgkdaaaSubDef
import Derived.Test.YtbdibjeemgkdaaaSubSpec
import Derived.Test.YtbdibjeemgkdaaaHSubA
import Derived.Test.YtbdibjeemgkdaaaHSubs
import Derived.Test.YtbdibjeemgkdaaaGath
import Derived.Test.YtbdibjeemgkdaaaGathLaw
import Derived.Test.YtbdibjeemgkdaaaSpecGath
import Derived.Test.YtbdibjeemgkdaaaAgg
import Derived.Test.YtbdibjeemgkdaaaBox
import Derived.Test.YtbdibjeemgkdaaaHConn
import Derived.Test.YtbdibjeemgkdaaaConnDef
import Derived.Test.YtbdibjeemgkdaaaConnSpec
import Derived.Test.YtbdibjeemgkdaaaConnSpecF
import Derived.Deep.RegionHeld3
import Derived.Deep.DeepCutAuto
import Derived.Deep.QuietTactic
import Derived.BigQuiet
namespace Go.Proofs.Ytbdibjeemgkdaaa
open Go.RowKit
set_option linter.unusedVariables false
set_option maxRecDepth 8000

end Go.Proofs.Ytbdibjeemgkdaaa
