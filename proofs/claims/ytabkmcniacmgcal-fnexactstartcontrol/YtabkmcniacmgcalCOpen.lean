/- A law's parameters opened: a control, a list of numbers, a number; no condition. -/
import Derived.Test.YtabkmcniacmgcalRows
import Derived.Test.YtabkmcniacmgcalBase
import Derived.Test.YtabkmcniacmgcalBytes
import Derived.Test.YtabkmcniacmgcalMem
import Derived.Test.YtabkmcniacmgcalMemOpen
import Derived.Test.YtabkmcniacmgcalInts
namespace Go.Proofs.Ytabkmcniacmgcal
open Go.RowKit Go.ChangeShapes Go.WideShapes Go.ChangeAt
set_option linter.unusedVariables false

theorem rd_i64C {n : Int} (h : (Lit.int .i64 n).wf = true) : -9223372036854775808 ≤ n ∧ n ≤ 9223372036854775807 := by
  simp [Lit.wf, IntKind.min, IntKind.max, IntKind.signed, IntKind.bits] at h; omega
theorem open_i64C {H : Type} {enc : TypeId × Value → H} {w : World} {base : Nat} {v : Value} (o : Value.okWide Try.prog w .any base 2 v) (hx : ∃ n y, DataW.trod enc Try.prog w 0 (fun _ => true) true n 2 v.cells.toList = some y) :
    ∃ n, v = .int .i64 n ∧ -9223372036854775808 ≤ n ∧ n ≤ 9223372036854775807 := by
  obtain ⟨n, y, h⟩ := hx
  obtain ⟨n, e, _, hr⟩ := DataW.trod_int Try.underlying2 h
  refine ⟨n, ?_, rd_i64C hr⟩
  cases v <;> simp_all [Value.okWide, Cell.okWide, Cell.ok, Value.cells, Try.underlying2]
theorem val_aggC {w : World} {base : Nat} {t : TypeId} {v : Value} {fs : Array Field} (hu : Try.prog.underlying t = some (.struct fs)) (o : Value.okWide Try.prog w .any base t v) : ∃ cs, v = .agg cs := by
  unfold Value.okWide at o
  rw [hu] at o
  obtain ⟨cs, h, _⟩ := o
  exact ⟨cs, h⟩
theorem lEqIntC (c v : Int) (w : World) : Calls Try.prog 25 #[.agg #[.int .i64 c, .int .i64 v], .agg #[.int .i64 c, .int .i64 v]] w fun e w' => e = .returned (.bool true) ∧ Below w.heap.size w w' := by
  go_enter Try.func25, Try.ntmps25
  go_wp2
  go_ret
  exact ⟨rfl, by go_grown⟩
abbrev shControl : Sh := .cons (.int .i64) (.cons (.int .i64) (.cons (.int .i64) .nil))
theorem fits_Control : shControl.fits Try.prog (.inl 52) :=
  ⟨_, _, Try.underlying52, by kernel_rfl, rfl, by kernel_rfl, Try.underlying2, rfl, by kernel_rfl, Try.underlying2, rfl, by kernel_rfl, Try.underlying2, trivial⟩
theorem open_Control {H : Type} {enc : TypeId × Value → H} {w : World} {base : Nat} {v : Value} (o : Value.okWide Try.prog w .any base 52 v) (hx : ∃ n y, DataW.trod enc Try.prog w 0 (fun _ => true) true n 52 v.cells.toList = some y) :
    ∃ a b p : Int, v = .agg #[.int .i64 a, .int .i64 b, .int .i64 p] := by
  obtain ⟨cs, rfl⟩ := val_aggC Try.underlying52 o
  obtain ⟨⟨a, b, p, _⟩, hd⟩ := (open_sh (enc := enc) (P := Try.prog) (w := w) shControl).1 _ _ fits_Control hx
  obtain ⟨c1, c2, e1, ⟨rfl, -⟩, c3, c4, rfl, ⟨rfl, -⟩, c5, c6, rfl, ⟨rfl, -⟩, rfl⟩ := hd
  obtain ⟨l⟩ := cs
  simp only [Value.cells] at e1
  refine ⟨a, b, p, ?_⟩
  rw [e1]
  rfl
end Go.Proofs.Ytabkmcniacmgcal
