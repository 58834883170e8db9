/- What the law's own helpers (measure, copy, compare) make of values of type Catch; no condition but that there are at most a million parts. Written by hl.py. -/
import Derived.Test.YtioehciabgdbaaaRows
import Derived.Test.YtioehciabgdbaaaBase
import Derived.Test.YtioehciabgdbaaaBytes
import Derived.Test.YtioehciabgdbaaaMem
import Derived.Test.YtioehciabgdbaaaMemOpen
import Derived.Test.YtioehciabgdbaaaMemRow
import Derived.Test.YtioehciabgdbaaaHBase
import Derived.Test.YtioehciabgdbaaaHSpan
import Derived.Deep.DeepCutAuto
import Derived.Deep.RegionHeld3
namespace Go.Proofs.Ytioehciabgdbaaa
open Go.RowKit
set_option linter.unusedVariables false

abbrev shCatch : Sh := .cons (.int .i64) (.cons (.int .i64) (.cons shSpans (.nil)))
abbrev DCatch : Type := Int × Int × (List DSpan) × Unit
def totCatch (x : DCatch) : Nat := totSpans x.2.2.1

theorem rd_Catch {w : World} {B : Nat} {x : DCatch} {cs : List Value} (h : shCatch.Rd w B x cs) : ∃ v, cs = [.int .i64 x.1, .int .i64 x.2.1, v] ∧ shSpans.Rd w B x.2.2.1 [v] ∧ (Lit.int .i64 x.1).wf = true ∧ (Lit.int .i64 x.2.1).wf = true := by
  obtain ⟨p0, q0, e0, ⟨g0, w0⟩, p1, q1, e1, ⟨g1, w1⟩, p2, q2, e2, h2, hz⟩ := h
  have hz' : q2 = [] := hz
  have l := Sh.Rd.len _ _ _ h2
  replace l : p2.length = 1 := l
  match p2, l, h2 with
  | [v], _, h2 =>
    refine ⟨v, ?_, h2, w0, w1⟩
    rw [e0, g0, e1, g1, e2, hz']
    rfl



end Go.Proofs.Ytioehciabgdbaaa
