/- What the law's own helpers (measure, copy, compare) make of values of type Flight and slices of them; no condition but that there are at most a million parts. Written by hl.py. -/
import Derived.Test.YteaddhldleeaiaaRows
import Derived.Test.YteaddhldleeaiaaBase
import Derived.Test.YteaddhldleeaiaaBytes
import Derived.Test.YteaddhldleeaiaaMem
import Derived.Test.YteaddhldleeaiaaMemOpen
import Derived.Test.YteaddhldleeaiaaMemRow
import Derived.Test.YteaddhldleeaiaaHBase
import Derived.Deep.DeepCutAuto
import Derived.Deep.RegionHeld3
namespace Go.Proofs.Yteaddhldleeaiaa
open Go.RowKit
set_option linter.unusedVariables false

abbrev shFlight : Sh := .cons (.int .i64) (.cons (.int .i64) (.cons u8s (.cons (.int .i64) (.cons (.int .i64) (.nil)))))
abbrev DFlight : Type := Int × Int × List Int × Int × Int × Unit
def totFlight (x : DFlight) : Nat := x.2.2.1.length

theorem rd_Flight {w : World} {B : Nat} {x : DFlight} {cs : List Value} (h : shFlight.Rd w B x cs) : ∃ v, cs = [.int .i64 x.1, .int .i64 x.2.1, v, .int .i64 x.2.2.2.1, .int .i64 x.2.2.2.2.1] ∧ u8s.Rd w B x.2.2.1 [v] ∧ (Lit.int .i64 x.1).wf = true ∧ (Lit.int .i64 x.2.1).wf = true ∧ (Lit.int .i64 x.2.2.2.1).wf = true ∧ (Lit.int .i64 x.2.2.2.2.1).wf = true := by
  obtain ⟨p0, q0, e0, ⟨g0, w0⟩, p1, q1, e1, ⟨g1, w1⟩, p2, q2, e2, h2, p3, q3, e3, ⟨g3, w3⟩, p4, q4, e4, ⟨g4, w4⟩, hz⟩ := h
  have hz' : q4 = [] := hz
  have l := Sh.Rd.len _ _ _ h2
  replace l : p2.length = 1 := l
  match p2, l, h2 with
  | [v], _, h2 =>
    refine ⟨v, ?_, h2, w0, w1, w3, w4⟩
    rw [e0, g0, e1, g1, e2, e3, g3, e4, g4, hz']
    rfl




abbrev shFlights : Sh := .row 38 shFlight
def totFlights (l : List DFlight) : Nat := l.length + fsum totFlight l
theorem at_Flights {w : World} {B : Nat} {l : List DFlight} {a : Option Addr} {n cap : Nat} (h : shFlights.Rd w B l [.slice a n cap]) (k : Nat) (hk : k < l.length) : ∃ b off v, a = some ⟨b, off, none⟩ ∧ b < B ∧ w.cell? ⟨b, off + k * 5, none⟩ = some (.int .i64 l[k].1) ∧ w.cell? ⟨b, off + k * 5 + 1, none⟩ = some (.int .i64 l[k].2.1) ∧ w.cell? ⟨b, off + k * 5 + 2, none⟩ = some (v) ∧ w.cell? ⟨b, off + k * 5 + 3, none⟩ = some (.int .i64 l[k].2.2.2.1) ∧ w.cell? ⟨b, off + k * 5 + 4, none⟩ = some (.int .i64 l[k].2.2.2.2.1) ∧ shFlight.Rd w B l[k] [.int .i64 l[k].1, .int .i64 l[k].2.1, v, .int .i64 l[k].2.2.2.1, .int .i64 l[k].2.2.2.2.1] := by
  obtain ⟨a', cap', h1, h2, h3, b, off, h4, h5⟩ := h
  simp only [List.cons.injEq, Value.slice.injEq, and_true] at h1
  obtain ⟨rfl, -, -⟩ := h1
  obtain ⟨ea, hb⟩ := h4 (by intro e; subst e; simp at hk)
  obtain ⟨cs', g1, g2, g3⟩ := h5 k hk
  obtain ⟨v, e, -⟩ := rd_Flight g3
  subst e
  refine ⟨b, off, v, ea, hb, ?_, ?_, ?_, ?_, ?_, g3⟩
  · have := g2 0 (by decide); simpa [Sh.sz] using this
  · have := g2 1 (by decide); simpa [Sh.sz] using this
  · have := g2 2 (by decide); simpa [Sh.sz] using this
  · have := g2 3 (by decide); simpa [Sh.sz] using this
  · have := g2 4 (by decide); simpa [Sh.sz] using this



end Go.Proofs.Yteaddhldleeaiaa
