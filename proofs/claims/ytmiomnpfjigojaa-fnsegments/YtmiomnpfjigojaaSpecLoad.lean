/- What the model's SumLoad answers; nothing that was in memory turns; no condition but that the load has at most a million bytes. -/
import Derived.Test.YtmiomnpfjigojaaRows
import Derived.Test.YtmiomnpfjigojaaBase
import Derived.Test.YtmiomnpfjigojaaNum
import Derived.Test.YtmiomnpfjigojaaNumWalks
import Derived.Test.YtmiomnpfjigojaaBytes
import Derived.Test.YtmiomnpfjigojaaAppBytes
import Derived.Test.YtmiomnpfjigojaaApp
import Derived.Test.YtmiomnpfjigojaaSpecPack
import Derived.Test.YtmiomnpfjigojaaLaw
import Derived.Deep.DeepMust
namespace Go.Proofs.Ytmiomnpfjigojaa
open Go.RowKit
set_option linter.unusedVariables false

/-- The bytes whose sum is that of a load. -/
def loadB (at_ : Int) (l : List Int) : List Int := beTo (wrp at_) 2 2 ++ beTo (wrp l.length) 2 2 ++ l

end Go.Proofs.Ytmiomnpfjigojaa
