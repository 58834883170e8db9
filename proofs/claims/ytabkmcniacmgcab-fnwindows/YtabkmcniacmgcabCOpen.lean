/- A law's parameters opened: a control, a list of numbers, a number; no condition. -/
import Derived.Test.YtabkmcniacmgcabRows
import Derived.Test.YtabkmcniacmgcabBase
import Derived.Test.YtabkmcniacmgcabBytes
import Derived.Test.YtabkmcniacmgcabMem
import Derived.Test.YtabkmcniacmgcabMemOpen
import Derived.Test.YtabkmcniacmgcabInts
namespace Go.Proofs.Ytabkmcniacmgcab
open Go.RowKit Go.ChangeShapes Go.WideShapes Go.ChangeAt
set_option linter.unusedVariables false

theorem rd_i64C {n : Int} (h : (Lit.int .i64 n).wf = true) : -9223372036854775808 ≤ n ∧ n ≤ 9223372036854775807 := by
  simp [Lit.wf, IntKind.min, IntKind.max, IntKind.signed, IntKind.bits] at h; omega
theorem open_i64C {H : Type} {enc : TypeId × Value → H} {w : World} {base : Nat} {v : Value} (o : Value.okWide Try.prog w .any base 2 v) (hx : ∃ n y, DataW.trod enc Try.prog w 0 (fun _ => true) true n 2 v.cells.toList = some y) :
    ∃ n, v = .int .i64 n ∧ -9223372036854775808 ≤ n ∧ n ≤ 9223372036854775807 := by
  obtain ⟨n, y, h⟩ := hx
  obtain ⟨n, e, _, hr⟩ := DataW.trod_int Try.underlying2 h
  refine ⟨n, ?_, rd_i64C hr⟩
  cases v <;> simp_all [Value.okWide, Cell.okWide, Cell.ok, Value.cells, Try.underlying2]
theorem val_aggC {w : World} {base : Nat} {t : TypeId} {v : Value} {fs : Array Field} (hu : Try.prog.underlying t = some (.struct fs)) (o : Value.okWide Try.prog w .any base t v) : ∃ cs, v = .agg cs := by
  unfold Value.okWide at o
  rw [hu] at o
  obtain ⟨cs, h, _⟩ := o
  exact ⟨cs, h⟩
end Go.Proofs.Ytabkmcniacmgcab
