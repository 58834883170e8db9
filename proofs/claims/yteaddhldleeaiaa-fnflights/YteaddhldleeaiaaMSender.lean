/- Marks laid over values of type Sender, and what is held of them; no condition but on lengths. Written by hm.py. -/
import Derived.Test.YteaddhldleeaiaaRows
import Derived.Test.YteaddhldleeaiaaBase
import Derived.Test.YteaddhldleeaiaaBytes
import Derived.Test.YteaddhldleeaiaaMem
import Derived.Test.YteaddhldleeaiaaMemOpen
import Derived.Test.YteaddhldleeaiaaMemRow
import Derived.Test.YteaddhldleeaiaaHBase
import Derived.Test.YteaddhldleeaiaaHMark
import Derived.Test.YteaddhldleeaiaaHSender
import Derived.Test.YteaddhldleeaiaaMFlight
namespace Go.Proofs.Yteaddhldleeaiaa
open Go.RowKit
set_option linter.unusedVariables false

theorem ow_Sender {w : World} {bs : List Nat} {x : DSender} {cs : List Value} (h : shSender.Ow w bs x cs) : ∃ v, cs = [.int .i64 x.1, .int .i64 x.2.1, .int .i64 x.2.2.1, v] ∧ shFlights.Ow w bs x.2.2.2.1 [v] ∧ (Lit.int .i64 x.1).wf = true ∧ (Lit.int .i64 x.2.1).wf = true ∧ (Lit.int .i64 x.2.2.1).wf = true := by
  obtain ⟨a0, r0, p0, q0, eb0, ec0, ⟨f0, g0, w0⟩, a1, r1, p1, q1, eb1, ec1, ⟨f1, g1, w1⟩, a2, r2, p2, q2, eb2, ec2, ⟨f2, g2, w2⟩, a3, r3, p3, q3, eb3, ec3, h3, zb, zc⟩ := h
  have l := Sh.Ow.len _ _ _ _ h3
  replace l : p3.length = 1 := l
  match p3, l, h3 with
  | [v], _, h3 =>
    have hb : bs = a3 := by rw [eb0, f0, eb1, f1, eb2, f2, eb3, zb]; simp
    refine ⟨v, by rw [ec0, g0, ec1, g1, ec2, g2, ec3, zc]; rfl, by rw [hb]; exact h3, w0, w1, w2⟩
theorem mk_Sender {w : World} {bs : List Nat} {y0 y1 y2 : Int} {d : List DFlight} {v : Value} (h : shFlights.Ow w bs d [v]) (w0 : (Lit.int .i64 y0).wf = true) (w1 : (Lit.int .i64 y1).wf = true) (w2 : (Lit.int .i64 y2).wf = true) : shSender.Ow w bs (y0, y1, y2, d, ()) [.int .i64 y0, .int .i64 y1, .int .i64 y2, v] :=
  ⟨[], bs, [.int .i64 y0], [.int .i64 y1, .int .i64 y2, v], rfl, rfl, ⟨rfl, rfl, w0⟩, ⟨[], bs, [.int .i64 y1], [.int .i64 y2, v], rfl, rfl, ⟨rfl, rfl, w1⟩, ⟨[], bs, [.int .i64 y2], [v], rfl, rfl, ⟨rfl, rfl, w2⟩, ⟨bs, [], [v], [], by simp, rfl, h, ⟨rfl, rfl⟩⟩⟩⟩⟩

def wtSender (x : DSender) : Nat := fsum wtFlight x.2.2.2.1
def mkSender (c : Int) (x : DSender) : DSender := (x.1, x.2.1, x.2.2.1, mkL mkFlight wtFlight c x.2.2.2.1, ())
theorem wtSender_le {x : DSender} (h : totSender x ≤ 1048576) : wtSender x ≤ 1073741824 := by
  unfold wtSender; rw [wtFlight_sum]; unfold totSender totFlights at h; omega

end Go.Proofs.Yteaddhldleeaiaa
