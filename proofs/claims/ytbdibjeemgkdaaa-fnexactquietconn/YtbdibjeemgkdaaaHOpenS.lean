/- A law's parameters opened: a sub; no condition. -/
import Derived.Test.YtbdibjeemgkdaaaRows
import Derived.Test.YtbdibjeemgkdaaaBase
import Derived.Test.YtbdibjeemgkdaaaBytes
import Derived.Test.YtbdibjeemgkdaaaMem
import Derived.Test.YtbdibjeemgkdaaaMemOpen
import Derived.Test.YtbdibjeemgkdaaaMemRow
import Derived.Test.YtbdibjeemgkdaaaHBase
import Derived.Test.YtbdibjeemgkdaaaHFlight
import Derived.Test.YtbdibjeemgkdaaaHSender
import Derived.Test.YtbdibjeemgkdaaaHSpan
import Derived.Test.YtbdibjeemgkdaaaHCatch
import Derived.Test.YtbdibjeemgkdaaaHSub
import Derived.Test.YtbdibjeemgkdaaaHOpen0
namespace Go.Proofs.Ytbdibjeemgkdaaa
open Go.RowKit Go.ChangeShapes Go.WideShapes Go.ChangeAt
set_option linter.unusedVariables false
set_option maxRecDepth 8000

theorem fits_Sub : shSub.fits Try.prog (.inl 76) :=
  ⟨_, _, Try.underlying76, by kernel_rfl, rfl, by kernel_rfl, Try.underlying2, rfl, by kernel_rfl, Try.underlying2, rfl, by kernel_rfl, Try.underlying4, rfl, by kernel_rfl, Try.underlying2, rfl, by kernel_rfl, Try.underlying2, rfl, by kernel_rfl, Try.underlying2, rfl, by kernel_rfl,
    ⟨_, _, Try.underlying70, by kernel_rfl, rfl, by kernel_rfl, Try.underlying2, rfl, by kernel_rfl, Try.underlying2, rfl, by kernel_rfl, Try.underlying2, rfl, by kernel_rfl,
      ⟨_, Try.underlying68, by kernel_rfl, by decide, _, _, Try.underlying129, by kernel_rfl, rfl, by kernel_rfl, Try.underlying2, rfl, by kernel_rfl, Try.underlying2, rfl, by kernel_rfl, fits_u8, rfl, by kernel_rfl, Try.underlying2, rfl, by kernel_rfl, Try.underlying2, trivial⟩, trivial⟩, rfl, by kernel_rfl,
    ⟨_, _, Try.underlying73, by kernel_rfl, rfl, by kernel_rfl, Try.underlying2, rfl, by kernel_rfl, Try.underlying2, rfl, by kernel_rfl,
      ⟨_, Try.underlying71, by kernel_rfl, by decide, _, _, Try.underlying136, by kernel_rfl, rfl, by kernel_rfl, Try.underlying2, rfl, by kernel_rfl, Try.underlying2, trivial⟩, trivial⟩, rfl, by kernel_rfl,
    ⟨_, _, Try.underlying74, by kernel_rfl, rfl, by kernel_rfl, Try.underlying2, rfl, by kernel_rfl, Try.underlying2, rfl, by kernel_rfl, Try.underlying2, trivial⟩, trivial⟩
theorem open_Sub {H : Type} {enc : TypeId × Value → H} {w : World} {base : Nat} {v : Value} (o : Value.okWide Try.prog w .any base 76 v) (hx : ∃ n y, DataW.trod enc Try.prog w 0 (fun _ => true) true n 76 v.cells.toList = some y) :
    ∃ (g : DSub) (u1 u2 : Value), v = .agg #[.int .i64 g.1, .int .i64 g.2.1, .bool g.2.2.1, .int .i64 g.2.2.2.1, .int .i64 g.2.2.2.2.1, .int .i64 g.2.2.2.2.2.1, .int .i64 g.2.2.2.2.2.2.1.1, .int .i64 g.2.2.2.2.2.2.1.2.1, .int .i64 g.2.2.2.2.2.2.1.2.2.1, u1, .int .i64 g.2.2.2.2.2.2.2.1.1, .int .i64 g.2.2.2.2.2.2.2.1.2.1, u2, .int .i64 g.2.2.2.2.2.2.2.2.1.1, .int .i64 g.2.2.2.2.2.2.2.2.1.2.1, .int .i64 g.2.2.2.2.2.2.2.2.1.2.2.1] ∧ shSub.Rd w w.heap.size g [.int .i64 g.1, .int .i64 g.2.1, .bool g.2.2.1, .int .i64 g.2.2.2.1, .int .i64 g.2.2.2.2.1, .int .i64 g.2.2.2.2.2.1, .int .i64 g.2.2.2.2.2.2.1.1, .int .i64 g.2.2.2.2.2.2.1.2.1, .int .i64 g.2.2.2.2.2.2.1.2.2.1, u1, .int .i64 g.2.2.2.2.2.2.2.1.1, .int .i64 g.2.2.2.2.2.2.2.1.2.1, u2, .int .i64 g.2.2.2.2.2.2.2.2.1.1, .int .i64 g.2.2.2.2.2.2.2.2.1.2.1, .int .i64 g.2.2.2.2.2.2.2.2.1.2.2.1] := by
  obtain ⟨cs, rfl⟩ := val_agg Try.underlying76 o
  obtain ⟨g, hd⟩ := (open_sh (enc := enc) (P := Try.prog) (w := w) shSub).1 _ _ fits_Sub hx
  obtain ⟨u1, u2, e, -⟩ := rd_Sub hd
  obtain ⟨l⟩ := cs
  simp only [Value.cells] at e hd
  subst e
  exact ⟨g, _, _, rfl, hd⟩
end Go.Proofs.Ytbdibjeemgkdaaa
