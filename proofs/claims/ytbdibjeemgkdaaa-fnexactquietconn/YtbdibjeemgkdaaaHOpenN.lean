/- A law's parameter opened: a conn; no condition. -/
import Derived.Test.YtbdibjeemgkdaaaRows
import Derived.Test.YtbdibjeemgkdaaaBase
import Derived.Test.YtbdibjeemgkdaaaBytes
import Derived.Test.YtbdibjeemgkdaaaMem
import Derived.Test.YtbdibjeemgkdaaaMemOpen
import Derived.Test.YtbdibjeemgkdaaaMemRow
import Derived.Test.YtbdibjeemgkdaaaHBase
import Derived.Test.YtbdibjeemgkdaaaHFlight
import Derived.Test.YtbdibjeemgkdaaaHSender
import Derived.Test.YtbdibjeemgkdaaaHSpan
import Derived.Test.YtbdibjeemgkdaaaHCatch
import Derived.Test.YtbdibjeemgkdaaaHSub
import Derived.Test.YtbdibjeemgkdaaaHSubA
import Derived.Test.YtbdibjeemgkdaaaHSubs
import Derived.Test.YtbdibjeemgkdaaaGath
import Derived.Test.YtbdibjeemgkdaaaGathLaw
import Derived.Test.YtbdibjeemgkdaaaHConn
import Derived.Test.YtbdibjeemgkdaaaHOpen0
import Derived.Test.YtbdibjeemgkdaaaHOpenS
namespace Go.Proofs.Ytbdibjeemgkdaaa
open Go.RowKit Go.ChangeShapes Go.WideShapes Go.ChangeAt
set_option linter.unusedVariables false
set_option maxRecDepth 8000

theorem fits_Gather : gtS.fits Try.prog (.inl 25) :=
  ⟨_, _, Try.underlying25, by kernel_rfl, rfl, by kernel_rfl, fits_u8, rfl, by kernel_rfl, ⟨_, Try.underlying23, by kernel_rfl, by decide, _, _, Try.underlying91, by kernel_rfl, rfl, by kernel_rfl, Try.underlying2, rfl, by kernel_rfl, fits_u8, trivial⟩, trivial⟩
theorem fits_Conn : shConn.fits Try.prog (.inl 28) :=
  ⟨_, _, Try.underlying28, by kernel_rfl, rfl, by kernel_rfl, Try.underlying2, rfl, by kernel_rfl, Try.underlying2, rfl, by kernel_rfl, Try.underlying2, rfl, by kernel_rfl, Try.underlying4, rfl, by kernel_rfl, Try.underlying4, rfl, by kernel_rfl, fits_u8, rfl, by kernel_rfl, Try.underlying4, rfl, by kernel_rfl, Try.underlying2, rfl, by kernel_rfl, Try.underlying4, rfl, by kernel_rfl, fits_Gather, rfl, by kernel_rfl, Try.underlying2, rfl, by kernel_rfl, Try.underlying2, rfl, by kernel_rfl,
    ⟨_, Try.underlying26, by kernel_rfl, by decide, fits_Sub⟩, trivial⟩
theorem open_Conn {H : Type} {enc : TypeId × Value → H} {w : World} {base : Nat} {v : Value} (o : Value.okWide Try.prog w .any base 28 v) (hx : ∃ n y, DataW.trod enc Try.prog w 0 (fun _ => true) true n 28 v.cells.toList = some y) :
    ∃ (g : DConn) (A : Array Value), v = .agg A ∧ shConn.Rd w w.heap.size g A.toList := by
  obtain ⟨cs, rfl⟩ := val_agg Try.underlying28 o
  obtain ⟨g, hd⟩ := (open_sh (enc := enc) (P := Try.prog) (w := w) shConn).1 _ _ fits_Conn hx
  exact ⟨g, cs, rfl, hd⟩
end Go.Proofs.Ytbdibjeemgkdaaa
