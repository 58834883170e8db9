/- What the functions on numbers that go round answer, of the program and of its model; each leaves memory as it was; no condition. -/
import Derived.Test.YtlicopeejphgaaoRows
import Derived.Test.YtlicopeejphgaaoNum
import Derived.ProofKit
namespace Go.Proofs.Ytlicopeejphgaao
open Go.RowKit

end Go.Proofs.Ytlicopeejphgaao
