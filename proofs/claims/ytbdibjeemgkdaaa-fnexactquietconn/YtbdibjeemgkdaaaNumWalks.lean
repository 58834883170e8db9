/- What the functions on numbers that go round answer, of the program and of its model; each leaves memory as it was; no condition. -/
import Derived.Test.YtbdibjeemgkdaaaRows
import Derived.Test.YtbdibjeemgkdaaaNum
import Derived.ProofKit
namespace Go.Proofs.Ytbdibjeemgkdaaa
open Go.RowKit

end Go.Proofs.Ytbdibjeemgkdaaa
