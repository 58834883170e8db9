/- Spans sorted by the place at which they begin: the library's sort by its contract over this program; no condition but that there are at most a million. -/
import Derived.Test.YtmiomnpfjigojamRows
import Derived.Test.YtmiomnpfjigojamBase
import Derived.Test.YtmiomnpfjigojamMem
import Derived.Test.YtmiomnpfjigojamHBase
import Derived.Test.YtmiomnpfjigojamHSpan
import Derived.Test.YtmiomnpfjigojamSpanRow
import Derived.Shelf.SlSortCmp.WholeK
namespace Go.Proofs.Ytmiomnpfjigojam
open Go.RowKit Go.Shelf Go.Sort
set_option linter.unusedVariables false
set_option maxRecDepth 8000

end Go.Proofs.Ytmiomnpfjigojam
