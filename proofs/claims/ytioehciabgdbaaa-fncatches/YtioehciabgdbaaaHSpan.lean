/- What the law's own helpers (measure, copy, compare) make of spans and slices of them; no condition but that there are at most a million parts. -/
import Derived.Test.YtioehciabgdbaaaRows
import Derived.Test.YtioehciabgdbaaaBase
import Derived.Test.YtioehciabgdbaaaBytes
import Derived.Test.YtioehciabgdbaaaMem
import Derived.Test.YtioehciabgdbaaaMemOpen
import Derived.Test.YtioehciabgdbaaaMemRow
import Derived.Test.YtioehciabgdbaaaHBase
import Derived.Deep.DeepCutAuto
import Derived.Deep.RegionHeld3
namespace Go.Proofs.Ytioehciabgdbaaa
open Go.RowKit
set_option linter.unusedVariables false

abbrev shSpan : Sh := .cons (.int .i64) (.cons (.int .i64) .nil)
abbrev DSpan : Type := Int × Int × Unit
abbrev shSpans : Sh := .row 129 shSpan
def totSpans (l : List DSpan) : Nat := l.length
theorem rd_Span {w : World} {B : Nat} {x : DSpan} {cs : List Value} (h : shSpan.Rd w B x cs) : cs = [.int .i64 x.1, .int .i64 x.2.1] ∧ (Lit.int .i64 x.1).wf = true ∧ (Lit.int .i64 x.2.1).wf = true := by
  obtain ⟨p0, q0, e0, ⟨g0, w0⟩, p1, q1, e1, ⟨g1, w1⟩, hz⟩ := h
  have hz' : q1 = [] := hz
  refine ⟨?_, w0, w1⟩
  rw [e0, g0, e1, g1, hz']
  rfl
theorem at_Spans {w : World} {B : Nat} {l : List DSpan} {a : Option Addr} {n cap : Nat} (h : shSpans.Rd w B l [.slice a n cap]) (k : Nat) (hk : k < l.length) : ∃ b off, a = some ⟨b, off, none⟩ ∧ b < B ∧ w.cell? ⟨b, off + k * 2, none⟩ = some (.int .i64 l[k].1) ∧ w.cell? ⟨b, off + k * 2 + 1, none⟩ = some (.int .i64 l[k].2.1) ∧ (Lit.int .i64 l[k].1).wf = true ∧ (Lit.int .i64 l[k].2.1).wf = true := by
  obtain ⟨a', cap', h1, h2, h3, b, off, h4, h5⟩ := h
  simp only [List.cons.injEq, Value.slice.injEq, and_true] at h1
  obtain ⟨rfl, -, -⟩ := h1
  obtain ⟨ea, hb⟩ := h4 (by intro e; subst e; simp at hk)
  obtain ⟨cs', g1, g2, g3⟩ := h5 k hk
  obtain ⟨e, w0, w1⟩ := rd_Span g3
  subst e
  refine ⟨b, off, ea, hb, ?_, ?_, w0, w1⟩
  · have := g2 0 (by decide); simpa [Sh.sz] using this
  · have := g2 1 (by decide); simpa [Sh.sz] using this
theorem own_span {w : World} {y0 y1 : Int} (lo : Nat) (h0 : (Lit.int .i64 y0).wf = true) (h1 : (Lit.int .i64 y1).wf = true) : Own w lo lo shSpan (y0, y1, ()) [.int .i64 y0, .int .i64 y1] :=
  hOwnCons (hOwnInt w lo lo h0) (hOwnCons (hOwnInt w lo lo h1) (hOwnNil _ _ _) (Nat.le_refl _) (Nat.le_refl _)) (Nat.le_refl _) (Nat.le_refl _)
theorem info_Span : (Try.prog.info? 129).map (fun i => (i.zero, i.size, i.bytes)) = some (some (.agg #[.int .i64 0, .int .i64 0]), 2, 16) := by kernel_rfl

end Go.Proofs.Ytioehciabgdbaaa
