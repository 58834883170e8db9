/- Marks laid over values of type Flight, and what is held of them; no condition but on lengths. Written by hm.py. -/
import Derived.Test.YteaddhldleeaiaaRows
import Derived.Test.YteaddhldleeaiaaBase
import Derived.Test.YteaddhldleeaiaaBytes
import Derived.Test.YteaddhldleeaiaaMem
import Derived.Test.YteaddhldleeaiaaMemOpen
import Derived.Test.YteaddhldleeaiaaMemRow
import Derived.Test.YteaddhldleeaiaaHBase
import Derived.Test.YteaddhldleeaiaaHMark
import Derived.Test.YteaddhldleeaiaaHFlight
namespace Go.Proofs.Yteaddhldleeaiaa
open Go.RowKit
set_option linter.unusedVariables false

theorem ow_Flight {w : World} {bs : List Nat} {x : DFlight} {cs : List Value} (h : shFlight.Ow w bs x cs) : ∃ v, cs = [.int .i64 x.1, .int .i64 x.2.1, v, .int .i64 x.2.2.2.1, .int .i64 x.2.2.2.2.1] ∧ u8s.Ow w bs x.2.2.1 [v] ∧ (Lit.int .i64 x.1).wf = true ∧ (Lit.int .i64 x.2.1).wf = true ∧ (Lit.int .i64 x.2.2.2.1).wf = true ∧ (Lit.int .i64 x.2.2.2.2.1).wf = true := by
  obtain ⟨a0, r0, p0, q0, eb0, ec0, ⟨f0, g0, w0⟩, a1, r1, p1, q1, eb1, ec1, ⟨f1, g1, w1⟩, a2, r2, p2, q2, eb2, ec2, h2, a3, r3, p3, q3, eb3, ec3, ⟨f3, g3, w3⟩, a4, r4, p4, q4, eb4, ec4, ⟨f4, g4, w4⟩, zb, zc⟩ := h
  have l := Sh.Ow.len _ _ _ _ h2
  replace l : p2.length = 1 := l
  match p2, l, h2 with
  | [v], _, h2 =>
    have hb : bs = a2 := by rw [eb0, f0, eb1, f1, eb2, eb3, f3, eb4, f4, zb]; simp
    refine ⟨v, by rw [ec0, g0, ec1, g1, ec2, ec3, g3, ec4, g4, zc]; rfl, by rw [hb]; exact h2, w0, w1, w3, w4⟩
theorem mk_Flight {w : World} {bs : List Nat} {y0 y1 y3 y4 : Int} {d : List Int} {v : Value} (h : u8s.Ow w bs d [v]) (w0 : (Lit.int .i64 y0).wf = true) (w1 : (Lit.int .i64 y1).wf = true) (w3 : (Lit.int .i64 y3).wf = true) (w4 : (Lit.int .i64 y4).wf = true) : shFlight.Ow w bs (y0, y1, d, y3, y4, ()) [.int .i64 y0, .int .i64 y1, v, .int .i64 y3, .int .i64 y4] :=
  ⟨[], bs, [.int .i64 y0], [.int .i64 y1, v, .int .i64 y3, .int .i64 y4], rfl, rfl, ⟨rfl, rfl, w0⟩, ⟨[], bs, [.int .i64 y1], [v, .int .i64 y3, .int .i64 y4], rfl, rfl, ⟨rfl, rfl, w1⟩, ⟨bs, [], [v], [.int .i64 y3, .int .i64 y4], by simp, rfl, h, ⟨[], [], [.int .i64 y3], [.int .i64 y4], rfl, rfl, ⟨rfl, rfl, w3⟩, ⟨[], [], [.int .i64 y4], [], rfl, rfl, ⟨rfl, rfl, w4⟩, ⟨rfl, rfl⟩⟩⟩⟩⟩⟩

def wtFlight (x : DFlight) : Nat := 4 + x.2.2.1.length
def mkFlight (c : Int) (x : DFlight) : DFlight := (c, c + 1, marks (c + 1 + 1) x.2.2.1.length, c + 1 + 1 + (x.2.2.1.length : Nat), c + 1 + 1 + (x.2.2.1.length : Nat) + 1, ())
theorem wtFlight_sum (l : List DFlight) : fsum wtFlight l = 4 * l.length + fsum totFlight l := fsum_add 4 totFlight l


end Go.Proofs.Yteaddhldleeaiaa
