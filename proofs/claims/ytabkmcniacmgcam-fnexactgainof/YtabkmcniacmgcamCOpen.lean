/- A law's parameters opened: a control, a list of numbers, a number; no condition. -/
import Derived.Test.YtabkmcniacmgcamRows
import Derived.Test.YtabkmcniacmgcamBase
import Derived.Test.YtabkmcniacmgcamBytes
import Derived.Test.YtabkmcniacmgcamMem
import Derived.Test.YtabkmcniacmgcamMemOpen
import Derived.Test.YtabkmcniacmgcamInts
namespace Go.Proofs.Ytabkmcniacmgcam
open Go.RowKit Go.ChangeShapes Go.WideShapes Go.ChangeAt
set_option linter.unusedVariables false

theorem rd_i64C {n : Int} (h : (Lit.int .i64 n).wf = true) : -9223372036854775808 ≤ n ∧ n ≤ 9223372036854775807 := by
  simp [Lit.wf, IntKind.min, IntKind.max, IntKind.signed, IntKind.bits] at h; omega
theorem open_i64C {H : Type} {enc : TypeId × Value → H} {w : World} {base : Nat} {v : Value} (o : Value.okWide Try.prog w .any base 2 v) (hx : ∃ n y, DataW.trod enc Try.prog w 0 (fun _ => true) true n 2 v.cells.toList = some y) :
    ∃ n, v = .int .i64 n ∧ -9223372036854775808 ≤ n ∧ n ≤ 9223372036854775807 := by
  obtain ⟨n, y, h⟩ := hx
  obtain ⟨n, e, _, hr⟩ := DataW.trod_int Try.underlying2 h
  refine ⟨n, ?_, rd_i64C hr⟩
  cases v <;> simp_all [Value.okWide, Cell.okWide, Cell.ok, Value.cells, Try.underlying2]
abbrev i64sC : Sh := .row 2 (.int .i64)
theorem fits_i64s : i64sC.fits Try.prog (.inl 24) := ⟨_, Try.underlying24, by kernel_rfl, by decide, Try.underlying2⟩
theorem open_intsC {H : Type} {enc : TypeId × Value → H} {w : World} {base : Nat} {v : Value} (o : Value.okWide Try.prog w .any base 24 v) (hx : ∃ n y, DataW.trod enc Try.prog w 0 (fun _ => true) true n 24 v.cells.toList = some y) :
    ∃ (l : List Int) (a : Option Addr) (cap : Nat), v = .slice a l.length cap ∧ l.length ≤ 9223372036854775807 ∧ RI w a l := by
  obtain ⟨l, hd⟩ := (open_sh (enc := enc) (P := Try.prog) (w := w) i64sC).1 _ _ fits_i64s hx
  obtain ⟨a, cap, e, h2, h3, b, off, h4, h5⟩ := hd
  have : v = .slice a l.length cap := by cases v <;> simp_all [Value.okWide, Cell.okWide, Cell.ok, Value.cells, Try.underlying24]
  subst this
  refine ⟨l, a, cap, rfl, Nat.le_trans h2.1 (Nat.le_trans h2.2 (by decide)), ⟨?_⟩⟩
  by_cases hl : l = []
  · exact Or.inl hl
  · refine Or.inr ⟨b, off, (h4 hl).1, fun i hi => ?_⟩
    obtain ⟨cs', g1, g2, g3, g4⟩ := h5 i hi
    have := g2 0 (by decide)
    rw [g3] at this
    rw [List.getD_eq_getElem?_getD, List.getElem?_eq_getElem hi]
    simpa [Sh.sz] using this
theorem lEqIntC (c v : Int) (w : World) : Calls Try.prog 19 #[.agg #[.int .i64 c, .int .i64 v], .agg #[.int .i64 c, .int .i64 v]] w fun e w' => e = .returned (.bool true) ∧ Below w.heap.size w w' := by
  go_enter Try.func19, Try.ntmps19
  go_wp2
  go_ret
  exact ⟨rfl, by go_grown⟩
abbrev shControl : Sh := .cons (.int .i64) (.cons (.int .i64) (.cons (.int .i64) .nil))
theorem fits_Control : shControl.fits Try.prog (.inl 23) :=
  ⟨_, _, Try.underlying23, by kernel_rfl, rfl, by kernel_rfl, Try.underlying2, rfl, by kernel_rfl, Try.underlying2, rfl, by kernel_rfl, Try.underlying2, trivial⟩
theorem open_Control {H : Type} {enc : TypeId × Value → H} {w : World} {base : Nat} {v : Value} (o : Value.okWide Try.prog w .any base 23 v) (hx : ∃ n y, DataW.trod enc Try.prog w 0 (fun _ => true) true n 23 v.cells.toList = some y) :
    ∃ a b p : Int, v = .agg #[.int .i64 a, .int .i64 b, .int .i64 p] := by
  have hv : ∃ cs, v = .agg cs := by
    unfold Value.okWide at o
    rw [Try.underlying23] at o
    obtain ⟨cs, h, _⟩ := o
    exact ⟨cs, h⟩
  obtain ⟨cs, rfl⟩ := hv
  obtain ⟨⟨a, b, p, _⟩, hd⟩ := (open_sh (enc := enc) (P := Try.prog) (w := w) shControl).1 _ _ fits_Control hx
  obtain ⟨c1, c2, e1, ⟨rfl, -⟩, c3, c4, rfl, ⟨rfl, -⟩, c5, c6, rfl, ⟨rfl, -⟩, rfl⟩ := hd
  obtain ⟨l⟩ := cs
  simp only [Value.cells] at e1
  refine ⟨a, b, p, ?_⟩
  rw [e1]
  rfl
end Go.Proofs.Ytabkmcniacmgcam
