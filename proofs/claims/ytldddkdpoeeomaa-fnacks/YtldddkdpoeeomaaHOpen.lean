/- A law's parameters opened: a sender, bytes, a number; no condition. -/
import Derived.Test.YtldddkdpoeeomaaRows
import Derived.Test.YtldddkdpoeeomaaBase
import Derived.Test.YtldddkdpoeeomaaBytes
import Derived.Test.YtldddkdpoeeomaaMem
import Derived.Test.YtldddkdpoeeomaaMemOpen
import Derived.Test.YtldddkdpoeeomaaMemRow
import Derived.Test.YtldddkdpoeeomaaHBase
import Derived.Test.YtldddkdpoeeomaaHFlight
import Derived.Test.YtldddkdpoeeomaaHSender
import Derived.Test.YtldddkdpoeeomaaHOpen0
namespace Go.Proofs.Ytldddkdpoeeomaa
open Go.RowKit Go.ChangeShapes Go.WideShapes Go.ChangeAt
set_option linter.unusedVariables false

end Go.Proofs.Ytldddkdpoeeomaa
