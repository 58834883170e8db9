/- A law's parameters opened: a sub; no condition. -/
import Derived.Test.YtlicopeejphgaapRows
import Derived.Test.YtlicopeejphgaapBase
import Derived.Test.YtlicopeejphgaapBytes
import Derived.Test.YtlicopeejphgaapMem
import Derived.Test.YtlicopeejphgaapMemOpen
import Derived.Test.YtlicopeejphgaapMemRow
import Derived.Test.YtlicopeejphgaapHBase
import Derived.Test.YtlicopeejphgaapHFlight
import Derived.Test.YtlicopeejphgaapHSender
import Derived.Test.YtlicopeejphgaapHSpan
import Derived.Test.YtlicopeejphgaapHCatch
import Derived.Test.YtlicopeejphgaapHSub
import Derived.Test.YtlicopeejphgaapHOpen0
namespace Go.Proofs.Ytlicopeejphgaap
open Go.RowKit Go.ChangeShapes Go.WideShapes Go.ChangeAt
set_option linter.unusedVariables false
set_option maxRecDepth 8000

theorem fits_Sub : shSub.fits Try.prog (.inl 87) :=
  ⟨_, _, Try.underlying87, by kernel_rfl, rfl, by kernel_rfl, Try.underlying2, rfl, by kernel_rfl, Try.underlying2, rfl, by kernel_rfl, Try.underlying4, rfl, by kernel_rfl, Try.underlying2, rfl, by kernel_rfl, Try.underlying2, rfl, by kernel_rfl, Try.underlying2, rfl, by kernel_rfl,
    ⟨_, _, Try.underlying80, by kernel_rfl, rfl, by kernel_rfl, Try.underlying2, rfl, by kernel_rfl, Try.underlying2, rfl, by kernel_rfl, Try.underlying2, rfl, by kernel_rfl,
      ⟨_, Try.underlying78, by kernel_rfl, by decide, _, _, Try.underlying156, by kernel_rfl, rfl, by kernel_rfl, Try.underlying2, rfl, by kernel_rfl, Try.underlying2, rfl, by kernel_rfl, fits_u8, rfl, by kernel_rfl, Try.underlying2, rfl, by kernel_rfl, Try.underlying2, trivial⟩, trivial⟩, rfl, by kernel_rfl,
    ⟨_, _, Try.underlying83, by kernel_rfl, rfl, by kernel_rfl, Try.underlying2, rfl, by kernel_rfl, Try.underlying2, rfl, by kernel_rfl,
      ⟨_, Try.underlying81, by kernel_rfl, by decide, _, _, Try.underlying160, by kernel_rfl, rfl, by kernel_rfl, Try.underlying2, rfl, by kernel_rfl, Try.underlying2, trivial⟩, trivial⟩, rfl, by kernel_rfl,
    ⟨_, _, Try.underlying85, by kernel_rfl, rfl, by kernel_rfl, Try.underlying2, rfl, by kernel_rfl, Try.underlying2, rfl, by kernel_rfl, Try.underlying2, trivial⟩, trivial⟩
theorem open_Sub {H : Type} {enc : TypeId × Value → H} {w : World} {base : Nat} {v : Value} (o : Value.okWide Try.prog w .any base 87 v) (hx : ∃ n y, DataW.trod enc Try.prog w 0 (fun _ => true) true n 87 v.cells.toList = some y) :
    ∃ (g : DSub) (u1 u2 : Value), v = .agg #[.int .i64 g.1, .int .i64 g.2.1, .bool g.2.2.1, .int .i64 g.2.2.2.1, .int .i64 g.2.2.2.2.1, .int .i64 g.2.2.2.2.2.1, .int .i64 g.2.2.2.2.2.2.1.1, .int .i64 g.2.2.2.2.2.2.1.2.1, .int .i64 g.2.2.2.2.2.2.1.2.2.1, u1, .int .i64 g.2.2.2.2.2.2.2.1.1, .int .i64 g.2.2.2.2.2.2.2.1.2.1, u2, .int .i64 g.2.2.2.2.2.2.2.2.1.1, .int .i64 g.2.2.2.2.2.2.2.2.1.2.1, .int .i64 g.2.2.2.2.2.2.2.2.1.2.2.1] ∧ shSub.Rd w w.heap.size g [.int .i64 g.1, .int .i64 g.2.1, .bool g.2.2.1, .int .i64 g.2.2.2.1, .int .i64 g.2.2.2.2.1, .int .i64 g.2.2.2.2.2.1, .int .i64 g.2.2.2.2.2.2.1.1, .int .i64 g.2.2.2.2.2.2.1.2.1, .int .i64 g.2.2.2.2.2.2.1.2.2.1, u1, .int .i64 g.2.2.2.2.2.2.2.1.1, .int .i64 g.2.2.2.2.2.2.2.1.2.1, u2, .int .i64 g.2.2.2.2.2.2.2.2.1.1, .int .i64 g.2.2.2.2.2.2.2.2.1.2.1, .int .i64 g.2.2.2.2.2.2.2.2.1.2.2.1] := by
  obtain ⟨cs, rfl⟩ := val_agg Try.underlying87 o
  obtain ⟨g, hd⟩ := (open_sh (enc := enc) (P := Try.prog) (w := w) shSub).1 _ _ fits_Sub hx
  obtain ⟨u1, u2, e, -⟩ := rd_Sub hd
  obtain ⟨l⟩ := cs
  simp only [Value.cells] at e hd
  subst e
  exact ⟨g, _, _, rfl, hd⟩
end Go.Proofs.Ytlicopeejphgaap
