/- A law's parameters opened: a sub; no condition. -/
import Derived.Test.YtlicopeejphgaanRows
import Derived.Test.YtlicopeejphgaanBase
import Derived.Test.YtlicopeejphgaanBytes
import Derived.Test.YtlicopeejphgaanMem
import Derived.Test.YtlicopeejphgaanMemOpen
import Derived.Test.YtlicopeejphgaanMemRow
import Derived.Test.YtlicopeejphgaanHBase
import Derived.Test.YtlicopeejphgaanHFlight
import Derived.Test.YtlicopeejphgaanHSender
import Derived.Test.YtlicopeejphgaanHSpan
import Derived.Test.YtlicopeejphgaanHCatch
import Derived.Test.YtlicopeejphgaanHSub
import Derived.Test.YtlicopeejphgaanHOpen0
namespace Go.Proofs.Ytlicopeejphgaan
open Go.RowKit Go.ChangeShapes Go.WideShapes Go.ChangeAt
set_option linter.unusedVariables false
set_option maxRecDepth 8000

theorem fits_Sub : shSub.fits Try.prog (.inl 51) :=
  ⟨_, _, Try.underlying51, by kernel_rfl, rfl, by kernel_rfl, Try.underlying2, rfl, by kernel_rfl, Try.underlying2, rfl, by kernel_rfl, Try.underlying4, rfl, by kernel_rfl, Try.underlying2, rfl, by kernel_rfl, Try.underlying2, rfl, by kernel_rfl, Try.underlying2, rfl, by kernel_rfl,
    ⟨_, _, Try.underlying47, by kernel_rfl, rfl, by kernel_rfl, Try.underlying2, rfl, by kernel_rfl, Try.underlying2, rfl, by kernel_rfl, Try.underlying2, rfl, by kernel_rfl,
      ⟨_, Try.underlying45, by kernel_rfl, by decide, _, _, Try.underlying135, by kernel_rfl, rfl, by kernel_rfl, Try.underlying2, rfl, by kernel_rfl, Try.underlying2, rfl, by kernel_rfl, fits_u8, rfl, by kernel_rfl, Try.underlying2, rfl, by kernel_rfl, Try.underlying2, trivial⟩, trivial⟩, rfl, by kernel_rfl,
    ⟨_, _, Try.underlying24, by kernel_rfl, rfl, by kernel_rfl, Try.underlying2, rfl, by kernel_rfl, Try.underlying2, rfl, by kernel_rfl,
      ⟨_, Try.underlying22, by kernel_rfl, by decide, _, _, Try.underlying110, by kernel_rfl, rfl, by kernel_rfl, Try.underlying2, rfl, by kernel_rfl, Try.underlying2, trivial⟩, trivial⟩, rfl, by kernel_rfl,
    ⟨_, _, Try.underlying49, by kernel_rfl, rfl, by kernel_rfl, Try.underlying2, rfl, by kernel_rfl, Try.underlying2, rfl, by kernel_rfl, Try.underlying2, trivial⟩, trivial⟩
theorem open_Sub {H : Type} {enc : TypeId × Value → H} {w : World} {base : Nat} {v : Value} (o : Value.okWide Try.prog w .any base 51 v) (hx : ∃ n y, DataW.trod enc Try.prog w 0 (fun _ => true) true n 51 v.cells.toList = some y) :
    ∃ (g : DSub) (u1 u2 : Value), v = .agg #[.int .i64 g.1, .int .i64 g.2.1, .bool g.2.2.1, .int .i64 g.2.2.2.1, .int .i64 g.2.2.2.2.1, .int .i64 g.2.2.2.2.2.1, .int .i64 g.2.2.2.2.2.2.1.1, .int .i64 g.2.2.2.2.2.2.1.2.1, .int .i64 g.2.2.2.2.2.2.1.2.2.1, u1, .int .i64 g.2.2.2.2.2.2.2.1.1, .int .i64 g.2.2.2.2.2.2.2.1.2.1, u2, .int .i64 g.2.2.2.2.2.2.2.2.1.1, .int .i64 g.2.2.2.2.2.2.2.2.1.2.1, .int .i64 g.2.2.2.2.2.2.2.2.1.2.2.1] ∧ shSub.Rd w w.heap.size g [.int .i64 g.1, .int .i64 g.2.1, .bool g.2.2.1, .int .i64 g.2.2.2.1, .int .i64 g.2.2.2.2.1, .int .i64 g.2.2.2.2.2.1, .int .i64 g.2.2.2.2.2.2.1.1, .int .i64 g.2.2.2.2.2.2.1.2.1, .int .i64 g.2.2.2.2.2.2.1.2.2.1, u1, .int .i64 g.2.2.2.2.2.2.2.1.1, .int .i64 g.2.2.2.2.2.2.2.1.2.1, u2, .int .i64 g.2.2.2.2.2.2.2.2.1.1, .int .i64 g.2.2.2.2.2.2.2.2.1.2.1, .int .i64 g.2.2.2.2.2.2.2.2.1.2.2.1] := by
  obtain ⟨cs, rfl⟩ := val_agg Try.underlying51 o
  obtain ⟨g, hd⟩ := (open_sh (enc := enc) (P := Try.prog) (w := w) shSub).1 _ _ fits_Sub hx
  obtain ⟨u1, u2, e, -⟩ := rd_Sub hd
  obtain ⟨l⟩ := cs
  simp only [Value.cells] at e hd
  subst e
  exact ⟨g, _, _, rfl, hd⟩
end Go.Proofs.Ytlicopeejphgaan
