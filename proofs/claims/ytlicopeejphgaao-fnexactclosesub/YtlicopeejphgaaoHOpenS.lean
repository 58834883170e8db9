/- A law's parameters opened: a sub; no condition. -/
import Derived.Test.YtlicopeejphgaaoRows
import Derived.Test.YtlicopeejphgaaoBase
import Derived.Test.YtlicopeejphgaaoBytes
import Derived.Test.YtlicopeejphgaaoMem
import Derived.Test.YtlicopeejphgaaoMemOpen
import Derived.Test.YtlicopeejphgaaoMemRow
import Derived.Test.YtlicopeejphgaaoHBase
import Derived.Test.YtlicopeejphgaaoHFlight
import Derived.Test.YtlicopeejphgaaoHSender
import Derived.Test.YtlicopeejphgaaoHSpan
import Derived.Test.YtlicopeejphgaaoHCatch
import Derived.Test.YtlicopeejphgaaoHSub
import Derived.Test.YtlicopeejphgaaoHOpen0
namespace Go.Proofs.Ytlicopeejphgaao
open Go.RowKit Go.ChangeShapes Go.WideShapes Go.ChangeAt
set_option linter.unusedVariables false
set_option maxRecDepth 8000

theorem fits_Sub : shSub.fits Try.prog (.inl 31) :=
  ⟨_, _, Try.underlying31, by kernel_rfl, rfl, by kernel_rfl, Try.underlying2, rfl, by kernel_rfl, Try.underlying2, rfl, by kernel_rfl, Try.underlying4, rfl, by kernel_rfl, Try.underlying2, rfl, by kernel_rfl, Try.underlying2, rfl, by kernel_rfl, Try.underlying2, rfl, by kernel_rfl,
    ⟨_, _, Try.underlying24, by kernel_rfl, rfl, by kernel_rfl, Try.underlying2, rfl, by kernel_rfl, Try.underlying2, rfl, by kernel_rfl, Try.underlying2, rfl, by kernel_rfl,
      ⟨_, Try.underlying22, by kernel_rfl, by decide, _, _, Try.underlying148, by kernel_rfl, rfl, by kernel_rfl, Try.underlying2, rfl, by kernel_rfl, Try.underlying2, rfl, by kernel_rfl, fits_u8, rfl, by kernel_rfl, Try.underlying2, rfl, by kernel_rfl, Try.underlying2, trivial⟩, trivial⟩, rfl, by kernel_rfl,
    ⟨_, _, Try.underlying27, by kernel_rfl, rfl, by kernel_rfl, Try.underlying2, rfl, by kernel_rfl, Try.underlying2, rfl, by kernel_rfl,
      ⟨_, Try.underlying25, by kernel_rfl, by decide, _, _, Try.underlying155, by kernel_rfl, rfl, by kernel_rfl, Try.underlying2, rfl, by kernel_rfl, Try.underlying2, trivial⟩, trivial⟩, rfl, by kernel_rfl,
    ⟨_, _, Try.underlying29, by kernel_rfl, rfl, by kernel_rfl, Try.underlying2, rfl, by kernel_rfl, Try.underlying2, rfl, by kernel_rfl, Try.underlying2, trivial⟩, trivial⟩
theorem open_Sub {H : Type} {enc : TypeId × Value → H} {w : World} {base : Nat} {v : Value} (o : Value.okWide Try.prog w .any base 31 v) (hx : ∃ n y, DataW.trod enc Try.prog w 0 (fun _ => true) true n 31 v.cells.toList = some y) :
    ∃ (g : DSub) (u1 u2 : Value), v = .agg #[.int .i64 g.1, .int .i64 g.2.1, .bool g.2.2.1, .int .i64 g.2.2.2.1, .int .i64 g.2.2.2.2.1, .int .i64 g.2.2.2.2.2.1, .int .i64 g.2.2.2.2.2.2.1.1, .int .i64 g.2.2.2.2.2.2.1.2.1, .int .i64 g.2.2.2.2.2.2.1.2.2.1, u1, .int .i64 g.2.2.2.2.2.2.2.1.1, .int .i64 g.2.2.2.2.2.2.2.1.2.1, u2, .int .i64 g.2.2.2.2.2.2.2.2.1.1, .int .i64 g.2.2.2.2.2.2.2.2.1.2.1, .int .i64 g.2.2.2.2.2.2.2.2.1.2.2.1] ∧ shSub.Rd w w.heap.size g [.int .i64 g.1, .int .i64 g.2.1, .bool g.2.2.1, .int .i64 g.2.2.2.1, .int .i64 g.2.2.2.2.1, .int .i64 g.2.2.2.2.2.1, .int .i64 g.2.2.2.2.2.2.1.1, .int .i64 g.2.2.2.2.2.2.1.2.1, .int .i64 g.2.2.2.2.2.2.1.2.2.1, u1, .int .i64 g.2.2.2.2.2.2.2.1.1, .int .i64 g.2.2.2.2.2.2.2.1.2.1, u2, .int .i64 g.2.2.2.2.2.2.2.2.1.1, .int .i64 g.2.2.2.2.2.2.2.2.1.2.1, .int .i64 g.2.2.2.2.2.2.2.2.1.2.2.1] := by
  obtain ⟨cs, rfl⟩ := val_agg Try.underlying31 o
  obtain ⟨g, hd⟩ := (open_sh (enc := enc) (P := Try.prog) (w := w) shSub).1 _ _ fits_Sub hx
  obtain ⟨u1, u2, e, -⟩ := rd_Sub hd
  obtain ⟨l⟩ := cs
  simp only [Value.cells] at e hd
  subst e
  exact ⟨g, _, _, rfl, hd⟩
end Go.Proofs.Ytlicopeejphgaao
