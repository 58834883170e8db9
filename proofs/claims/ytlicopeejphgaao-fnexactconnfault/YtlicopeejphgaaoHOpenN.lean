/- A law's parameter opened: a conn; no condition. -/
import Derived.Test.YtlicopeejphgaaoRows
import Derived.Test.YtlicopeejphgaaoBase
import Derived.Test.YtlicopeejphgaaoBytes
import Derived.Test.YtlicopeejphgaaoMem
import Derived.Test.YtlicopeejphgaaoMemOpen
import Derived.Test.YtlicopeejphgaaoMemRow
import Derived.Test.YtlicopeejphgaaoHBase
import Derived.Test.YtlicopeejphgaaoHFlight
import Derived.Test.YtlicopeejphgaaoHSender
import Derived.Test.YtlicopeejphgaaoHSpan
import Derived.Test.YtlicopeejphgaaoHCatch
import Derived.Test.YtlicopeejphgaaoHSub
import Derived.Test.YtlicopeejphgaaoHSubA
import Derived.Test.YtlicopeejphgaaoHSubs
import Derived.Test.YtlicopeejphgaaoGath
import Derived.Test.YtlicopeejphgaaoGathLaw
import Derived.Test.YtlicopeejphgaaoHConn
import Derived.Test.YtlicopeejphgaaoHOpen0
import Derived.Test.YtlicopeejphgaaoHOpenS
namespace Go.Proofs.Ytlicopeejphgaao
open Go.RowKit Go.ChangeShapes Go.WideShapes Go.ChangeAt
set_option linter.unusedVariables false
set_option maxRecDepth 8000

theorem fits_Gather : gtS.fits Try.prog (.inl 60) :=
  ⟨_, _, Try.underlying60, by kernel_rfl, rfl, by kernel_rfl, fits_u8, rfl, by kernel_rfl, ⟨_, Try.underlying58, by kernel_rfl, by decide, _, _, Try.underlying164, by kernel_rfl, rfl, by kernel_rfl, Try.underlying2, rfl, by kernel_rfl, fits_u8, trivial⟩, trivial⟩
theorem fits_Conn : shConn.fits Try.prog (.inl 63) :=
  ⟨_, _, Try.underlying63, by kernel_rfl, rfl, by kernel_rfl, Try.underlying2, rfl, by kernel_rfl, Try.underlying2, rfl, by kernel_rfl, Try.underlying2, rfl, by kernel_rfl, Try.underlying4, rfl, by kernel_rfl, Try.underlying4, rfl, by kernel_rfl, fits_u8, rfl, by kernel_rfl, Try.underlying4, rfl, by kernel_rfl, Try.underlying2, rfl, by kernel_rfl, Try.underlying4, rfl, by kernel_rfl, fits_Gather, rfl, by kernel_rfl, Try.underlying2, rfl, by kernel_rfl, Try.underlying2, rfl, by kernel_rfl,
    ⟨_, Try.underlying61, by kernel_rfl, by decide, fits_Sub⟩, trivial⟩
theorem open_Conn {H : Type} {enc : TypeId × Value → H} {w : World} {base : Nat} {v : Value} (o : Value.okWide Try.prog w .any base 63 v) (hx : ∃ n y, DataW.trod enc Try.prog w 0 (fun _ => true) true n 63 v.cells.toList = some y) :
    ∃ (g : DConn) (A : Array Value), v = .agg A ∧ shConn.Rd w w.heap.size g A.toList := by
  obtain ⟨cs, rfl⟩ := val_agg Try.underlying63 o
  obtain ⟨g, hd⟩ := (open_sh (enc := enc) (P := Try.prog) (w := w) shConn).1 _ _ fits_Conn hx
  exact ⟨g, cs, rfl, hd⟩
end Go.Proofs.Ytlicopeejphgaao
