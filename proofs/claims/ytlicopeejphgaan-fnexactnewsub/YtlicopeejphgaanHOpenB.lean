/- A law's parameters opened: a bool; no condition. -/
import Derived.Test.YtlicopeejphgaanRows
import Derived.Test.YtlicopeejphgaanBase
import Derived.Test.YtlicopeejphgaanMem
import Derived.Test.YtlicopeejphgaanMemOpen
namespace Go.Proofs.Ytlicopeejphgaan
open Go.RowKit Go.ChangeShapes Go.WideShapes Go.ChangeAt
set_option linter.unusedVariables false
set_option maxRecDepth 8000

theorem open_boolv {H : Type} {enc : TypeId × Value → H} {w : World} {base : Nat} {v : Value} (o : Value.okWide Try.prog w .any base 4 v) (hx : ∃ n y, DataW.trod enc Try.prog w 0 (fun _ => true) true n 4 v.cells.toList = some y) : ∃ b, v = .bool b := by
  cases v <;> simp_all [Value.okWide, Cell.okWide, Cell.ok, Try.underlying4]
end Go.Proofs.Ytlicopeejphgaan
