/- What SameSegment answers, of the program and of its model; nothing that was in memory turns; no condition. -/
import Derived.Test.YtmiomnpfjigojaaRows
import Derived.Test.YtmiomnpfjigojaaBase
import Derived.Test.YtmiomnpfjigojaaBytes
import Derived.Test.YtmiomnpfjigojaaSeg
import Derived.Test.YtmiomnpfjigojaaStr
import Derived.BigGuardPart
namespace Go.Proofs.Ytmiomnpfjigojaa
open Go.RowKit
set_option linter.unusedVariables false

/-- The two segments are the same but for their loads, and e. -/
def sameS (s t : Seg) (e : Bool) : Bool :=
  s.path == t.path && s.frm == t.frm && s.syn == t.syn && s.ackd == t.ackd && s.rst == t.rst && s.seq == t.seq && s.ack == t.ack && s.fin == t.fin && s.opt == t.opt && s.a == t.a && s.b == t.b && e

end Go.Proofs.Ytmiomnpfjigojaa
