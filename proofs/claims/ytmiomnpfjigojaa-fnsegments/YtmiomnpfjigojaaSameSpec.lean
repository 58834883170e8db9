/- What SameSegment answers, of the program and of its model; nothing that was in memory turns; no condition. -/
import Derived.Test.YtmiomnpfjigojaaRows
import Derived.Test.YtmiomnpfjigojaaBase
import Derived.Test.YtmiomnpfjigojaaBytes
import Derived.Test.YtmiomnpfjigojaaSeg
import Derived.Test.YtmiomnpfjigojaaStr
import Derived.Test.YtmiomnpfjigojaaSameDef
import Derived.BigGuardPart
namespace Go.Proofs.Ytmiomnpfjigojaa
open Go.RowKit
set_option linter.unusedVariables false

end Go.Proofs.Ytmiomnpfjigojaa
