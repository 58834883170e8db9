/- A law's parameters opened: a catch; no condition. -/
import Derived.Test.YtmiomnpfjigojanRows
import Derived.Test.YtmiomnpfjigojanBase
import Derived.Test.YtmiomnpfjigojanBytes
import Derived.Test.YtmiomnpfjigojanMem
import Derived.Test.YtmiomnpfjigojanMemOpen
import Derived.Test.YtmiomnpfjigojanMemRow
import Derived.Test.YtmiomnpfjigojanHBase
import Derived.Test.YtmiomnpfjigojanHSpan
import Derived.Test.YtmiomnpfjigojanHCatch
import Derived.Test.YtmiomnpfjigojanHOpen0
namespace Go.Proofs.Ytmiomnpfjigojan
open Go.RowKit Go.ChangeShapes Go.WideShapes Go.ChangeAt
set_option linter.unusedVariables false
set_option maxRecDepth 8000

theorem fits_Catch : shCatch.fits Try.prog (.inl 24) :=
  ⟨_, _, Try.underlying24, by kernel_rfl, rfl, by kernel_rfl, Try.underlying2, rfl, by kernel_rfl, Try.underlying2, rfl, by kernel_rfl,
    ⟨_, Try.underlying22, by kernel_rfl, by decide, _, _, Try.underlying67, by kernel_rfl, rfl, by kernel_rfl, Try.underlying2, rfl, by kernel_rfl, Try.underlying2, trivial⟩, trivial⟩
theorem open_Catch {H : Type} {enc : TypeId × Value → H} {w : World} {base : Nat} {v : Value} (o : Value.okWide Try.prog w .any base 24 v) (hx : ∃ n y, DataW.trod enc Try.prog w 0 (fun _ => true) true n 24 v.cells.toList = some y) :
    ∃ (g : DCatch) (u : Value), v = .agg #[.int .i64 g.1, .int .i64 g.2.1, u] ∧ shCatch.Rd w w.heap.size g [.int .i64 g.1, .int .i64 g.2.1, u] := by
  obtain ⟨cs, rfl⟩ := val_agg Try.underlying24 o
  obtain ⟨g, hd⟩ := (open_sh (enc := enc) (P := Try.prog) (w := w) shCatch).1 _ _ fits_Catch hx
  obtain ⟨u, e, -⟩ := rd_Catch hd
  obtain ⟨l⟩ := cs
  simp only [Value.cells] at e hd
  subst e
  exact ⟨g, _, rfl, hd⟩
end Go.Proofs.Ytmiomnpfjigojan
