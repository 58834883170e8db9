/- What the law's own helpers (measure, copy, compare) make of values of type Sender; no condition but that there are at most a million parts. Written by hl.py. -/
import Derived.Test.YteaddhldleeaiaaRows
import Derived.Test.YteaddhldleeaiaaBase
import Derived.Test.YteaddhldleeaiaaBytes
import Derived.Test.YteaddhldleeaiaaMem
import Derived.Test.YteaddhldleeaiaaMemOpen
import Derived.Test.YteaddhldleeaiaaMemRow
import Derived.Test.YteaddhldleeaiaaHBase
import Derived.Test.YteaddhldleeaiaaHFlight
import Derived.Deep.DeepCutAuto
import Derived.Deep.RegionHeld3
namespace Go.Proofs.Yteaddhldleeaiaa
open Go.RowKit
set_option linter.unusedVariables false

abbrev shSender : Sh := .cons (.int .i64) (.cons (.int .i64) (.cons (.int .i64) (.cons shFlights (.nil))))
abbrev DSender : Type := Int × Int × Int × (List DFlight) × Unit
def totSender (x : DSender) : Nat := totFlights x.2.2.2.1

theorem rd_Sender {w : World} {B : Nat} {x : DSender} {cs : List Value} (h : shSender.Rd w B x cs) : ∃ v, cs = [.int .i64 x.1, .int .i64 x.2.1, .int .i64 x.2.2.1, v] ∧ shFlights.Rd w B x.2.2.2.1 [v] ∧ (Lit.int .i64 x.1).wf = true ∧ (Lit.int .i64 x.2.1).wf = true ∧ (Lit.int .i64 x.2.2.1).wf = true := by
  obtain ⟨p0, q0, e0, ⟨g0, w0⟩, p1, q1, e1, ⟨g1, w1⟩, p2, q2, e2, ⟨g2, w2⟩, p3, q3, e3, h3, hz⟩ := h
  have hz' : q3 = [] := hz
  have l := Sh.Rd.len _ _ _ h3
  replace l : p3.length = 1 := l
  match p3, l, h3 with
  | [v], _, h3 =>
    refine ⟨v, ?_, h3, w0, w1, w2⟩
    rw [e0, g0, e1, g1, e2, g2, e3, hz']
    rfl



end Go.Proofs.Yteaddhldleeaiaa
