/- What the functions on numbers that go round answer, of the program and of its model; each leaves memory as it was; no condition. -/
import Derived.Test.YtlicopeejphgaaqRows
import Derived.Test.YtlicopeejphgaaqNum
import Derived.ProofKit
namespace Go.Proofs.Ytlicopeejphgaaq
open Go.RowKit

end Go.Proofs.Ytlicopeejphgaaq
