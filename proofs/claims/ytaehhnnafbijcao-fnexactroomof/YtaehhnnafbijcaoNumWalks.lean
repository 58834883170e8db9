/- What the functions on numbers that go round answer, of the program and of its model; each leaves memory as it was; no condition. -/
import Derived.Test.YtaehhnnafbijcaoRows
import Derived.Test.YtaehhnnafbijcaoNum
import Derived.ProofKit
namespace Go.Proofs.Ytaehhnnafbijcao
open Go.RowKit

end Go.Proofs.Ytaehhnnafbijcao
