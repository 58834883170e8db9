/- A law's parameters opened: a catch; no condition. -/
import Derived.Test.YtioehciabgdbaaaRows
import Derived.Test.YtioehciabgdbaaaBase
import Derived.Test.YtioehciabgdbaaaBytes
import Derived.Test.YtioehciabgdbaaaMem
import Derived.Test.YtioehciabgdbaaaMemOpen
import Derived.Test.YtioehciabgdbaaaMemRow
import Derived.Test.YtioehciabgdbaaaHBase
import Derived.Test.YtioehciabgdbaaaHSpan
import Derived.Test.YtioehciabgdbaaaHCatch
import Derived.Test.YtioehciabgdbaaaHOpen0
namespace Go.Proofs.Ytioehciabgdbaaa
open Go.RowKit Go.ChangeShapes Go.WideShapes Go.ChangeAt
set_option linter.unusedVariables false
set_option maxRecDepth 8000

end Go.Proofs.Ytioehciabgdbaaa
