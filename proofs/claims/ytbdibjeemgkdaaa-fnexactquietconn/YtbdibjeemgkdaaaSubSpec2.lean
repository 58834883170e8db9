/- What the model answers of a sub: its fault, its room, what is stale; nothing that was in memory turns; no condition but that there are at most a million parts. -/
import Derived.Test.YtbdibjeemgkdaaaRows
import Derived.Test.YtbdibjeemgkdaaaBase
import Derived.Test.YtbdibjeemgkdaaaBytes
import Derived.Test.YtbdibjeemgkdaaaMem
import Derived.Test.YtbdibjeemgkdaaaHBase
import Derived.Test.YtbdibjeemgkdaaaHFlight
import Derived.Test.YtbdibjeemgkdaaaHSender
import Derived.Test.YtbdibjeemgkdaaaHSpan
import Derived.Test.YtbdibjeemgkdaaaHCatch
import Derived.Test.YtbdibjeemgkdaaaFlightDef
import Derived.Test.YtbdibjeemgkdaaaCatDef
import Derived.Test.YtbdibjeemgkdaaaCtrl
import Derived.Test.YtbdibjeemgkdaaaBox
import Derived.Test.YtbdibjeemgkdaaaSubBox
import Derived.Test.YtbdibjeemgkdaaaHSub
import Derived.Test.YtbdibjeemgkdaaaSubDef
import Derived.Test.YtbdibjeemgkdaaaSubSpec
import Derived.Deep.RegionHeld3
namespace Go.Proofs.Ytbdibjeemgkdaaa
open Go.RowKit
set_option linter.unusedVariables false
set_option maxRecDepth 8000

end Go.Proofs.Ytbdibjeemgkdaaa
