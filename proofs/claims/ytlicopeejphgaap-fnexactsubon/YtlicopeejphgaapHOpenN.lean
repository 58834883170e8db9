/- A law's parameter opened: a conn; no condition. -/
import Derived.Test.YtlicopeejphgaapRows
import Derived.Test.YtlicopeejphgaapBase
import Derived.Test.YtlicopeejphgaapBytes
import Derived.Test.YtlicopeejphgaapMem
import Derived.Test.YtlicopeejphgaapMemOpen
import Derived.Test.YtlicopeejphgaapMemRow
import Derived.Test.YtlicopeejphgaapHBase
import Derived.Test.YtlicopeejphgaapHFlight
import Derived.Test.YtlicopeejphgaapHSender
import Derived.Test.YtlicopeejphgaapHSpan
import Derived.Test.YtlicopeejphgaapHCatch
import Derived.Test.YtlicopeejphgaapHSub
import Derived.Test.YtlicopeejphgaapHSubA
import Derived.Test.YtlicopeejphgaapHSubs
import Derived.Test.YtlicopeejphgaapGath
import Derived.Test.YtlicopeejphgaapGathLaw
import Derived.Test.YtlicopeejphgaapHConn
import Derived.Test.YtlicopeejphgaapHOpen0
import Derived.Test.YtlicopeejphgaapHOpenS
namespace Go.Proofs.Ytlicopeejphgaap
open Go.RowKit Go.ChangeShapes Go.WideShapes Go.ChangeAt
set_option linter.unusedVariables false
set_option maxRecDepth 8000

theorem fits_Gather : gtS.fits Try.prog (.inl 38) :=
  ⟨_, _, Try.underlying38, by kernel_rfl, rfl, by kernel_rfl, fits_u8, rfl, by kernel_rfl, ⟨_, Try.underlying36, by kernel_rfl, by decide, _, _, Try.underlying113, by kernel_rfl, rfl, by kernel_rfl, Try.underlying2, rfl, by kernel_rfl, fits_u8, trivial⟩, trivial⟩
theorem fits_Conn : shConn.fits Try.prog (.inl 41) :=
  ⟨_, _, Try.underlying41, by kernel_rfl, rfl, by kernel_rfl, Try.underlying2, rfl, by kernel_rfl, Try.underlying2, rfl, by kernel_rfl, Try.underlying2, rfl, by kernel_rfl, Try.underlying4, rfl, by kernel_rfl, Try.underlying4, rfl, by kernel_rfl, fits_u8, rfl, by kernel_rfl, Try.underlying4, rfl, by kernel_rfl, Try.underlying2, rfl, by kernel_rfl, Try.underlying4, rfl, by kernel_rfl, fits_Gather, rfl, by kernel_rfl, Try.underlying2, rfl, by kernel_rfl, Try.underlying2, rfl, by kernel_rfl,
    ⟨_, Try.underlying39, by kernel_rfl, by decide, fits_Sub⟩, trivial⟩
theorem open_Conn {H : Type} {enc : TypeId × Value → H} {w : World} {base : Nat} {v : Value} (o : Value.okWide Try.prog w .any base 41 v) (hx : ∃ n y, DataW.trod enc Try.prog w 0 (fun _ => true) true n 41 v.cells.toList = some y) :
    ∃ (g : DConn) (A : Array Value), v = .agg A ∧ shConn.Rd w w.heap.size g A.toList := by
  obtain ⟨cs, rfl⟩ := val_agg Try.underlying41 o
  obtain ⟨g, hd⟩ := (open_sh (enc := enc) (P := Try.prog) (w := w) shConn).1 _ _ fits_Conn hx
  exact ⟨g, cs, rfl, hd⟩
end Go.Proofs.Ytlicopeejphgaap
