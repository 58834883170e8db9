/- Marks laid over values of type Catch, and what is held of them; no condition but on lengths. Written by hm.py. -/
import Derived.Test.YtioehciabgdbaaaRows
import Derived.Test.YtioehciabgdbaaaBase
import Derived.Test.YtioehciabgdbaaaBytes
import Derived.Test.YtioehciabgdbaaaMem
import Derived.Test.YtioehciabgdbaaaMemOpen
import Derived.Test.YtioehciabgdbaaaMemRow
import Derived.Test.YtioehciabgdbaaaHBase
import Derived.Test.YtioehciabgdbaaaHMark
import Derived.Test.YtioehciabgdbaaaHCatch
import Derived.Test.YtioehciabgdbaaaMSpan
namespace Go.Proofs.Ytioehciabgdbaaa
open Go.RowKit
set_option linter.unusedVariables false

abbrev shCatchO : Sh := .cons (.int .i64) (.cons (.int .i64) (.cons shSpansO .nil))
theorem rdO_Catch {w : World} {B : Nat} {x : DCatch} {cs : List Value} (h : shCatchO.Rd w B x cs) : shCatch.Rd w B x cs := h
theorem rd_CatchO {w : World} {B : Nat} {x : DCatch} {cs : List Value} (h : shCatchO.Rd w B x cs) : ∃ v, cs = [.int .i64 x.1, .int .i64 x.2.1, v] ∧ shSpansO.Rd w B x.2.2.1 [v] ∧ (Lit.int .i64 x.1).wf = true ∧ (Lit.int .i64 x.2.1).wf = true := by
  obtain ⟨v, h1, h2, h3⟩ := rd_Catch (rdO_Catch h)
  exact ⟨v, h1, h2, h3⟩
theorem ow_CatchO {w : World} {bs : List Nat} {x : DCatch} {cs : List Value} (h : shCatch.Ow w bs x cs) : shCatchO.Ow w bs x cs := by
  obtain ⟨a0, r0, p0, q0, eb0, ec0, h0, a1, r1, p1, q1, eb1, ec1, h1, a2, r2, p2, q2, eb2, ec2, h2, hz⟩ := h
  exact ⟨a0, r0, p0, q0, eb0, ec0, h0, a1, r1, p1, q1, eb1, ec1, h1, a2, r2, p2, q2, eb2, ec2, ow_rowO h2, hz⟩
theorem Own.catO {w : World} {lo hi : Nat} {x : DCatch} {cs : List Value} (h : Own w lo hi shCatch x cs) : Own w lo hi shCatchO x cs := by
  obtain ⟨bs, h1, h2, h3⟩ := h
  exact ⟨bs, ow_CatchO h1, h2, h3⟩
theorem ow_Catch {w : World} {bs : List Nat} {x : DCatch} {cs : List Value} (h : shCatchO.Ow w bs x cs) : ∃ v, cs = [.int .i64 x.1, .int .i64 x.2.1, v] ∧ shSpansO.Ow w bs x.2.2.1 [v] ∧ (Lit.int .i64 x.1).wf = true ∧ (Lit.int .i64 x.2.1).wf = true := by
  obtain ⟨a0, r0, p0, q0, eb0, ec0, ⟨f0, g0, w0⟩, a1, r1, p1, q1, eb1, ec1, ⟨f1, g1, w1⟩, a2, r2, p2, q2, eb2, ec2, h2, zb, zc⟩ := h
  have l := Sh.Ow.len _ _ _ _ h2
  replace l : p2.length = 1 := l
  match p2, l, h2 with
  | [v], _, h2 =>
    have hb : bs = a2 := by rw [eb0, f0, eb1, f1, eb2, zb]; simp
    refine ⟨v, by rw [ec0, g0, ec1, g1, ec2, zc]; rfl, by rw [hb]; exact h2, w0, w1⟩
theorem mk_Catch {w : World} {bs : List Nat} {y0 y1 : Int} {d : List DSpan} {v : Value} (h : shSpansO.Ow w bs d [v]) (w0 : (Lit.int .i64 y0).wf = true) (w1 : (Lit.int .i64 y1).wf = true) : shCatchO.Ow w bs (y0, y1, d, ()) [.int .i64 y0, .int .i64 y1, v] :=
  ⟨[], bs, [.int .i64 y0], [.int .i64 y1, v], rfl, rfl, ⟨rfl, rfl, w0⟩, ⟨[], bs, [.int .i64 y1], [v], rfl, rfl, ⟨rfl, rfl, w1⟩, ⟨bs, [], [v], [], by simp, rfl, h, ⟨rfl, rfl⟩⟩⟩⟩

def wtCatch (x : DCatch) : Nat := fsum wtSpan x.2.2.1
def mkCatch (c : Int) (x : DCatch) : DCatch := (x.1, x.2.1, mkL mkSpan wtSpan c x.2.2.1, ())
theorem wtCatch_le {x : DCatch} (h : totCatch x ≤ 1048576) : wtCatch x ≤ 1073741824 := by
  unfold wtCatch; rw [wtSpan_sum]; unfold totCatch totSpans at h; omega

end Go.Proofs.Ytioehciabgdbaaa
