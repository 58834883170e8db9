/- Parameters of a law, opened: a value of a type that reads is a number, a row of bytes, or a segment; no condition. -/
import Derived.Test.YtmiomnpfjigojahRows
import Derived.Test.YtmiomnpfjigojahBase
import Derived.Test.YtmiomnpfjigojahBytes
import Derived.Test.YtmiomnpfjigojahSeg
namespace Go.Proofs.Ytmiomnpfjigojah
open Go.RowKit Go.ChangeShapes Go.WideShapes Go.ChangeAt
set_option linter.unusedVariables false

theorem val_agg {w : World} {base : Nat} {t : TypeId} {v : Value} {fs : Array Field} (hu : Try.prog.underlying t = some (.struct fs)) (o : Value.okWide Try.prog w .any base t v) : ∃ cs, v = .agg cs := by
  unfold Value.okWide at o
  rw [hu] at o
  obtain ⟨cs, h, _⟩ := o
  exact ⟨cs, h⟩

theorem open_bytesv {H : Type} {enc : TypeId × Value → H} {w : World} {base : Nat} {v : Value} (o : Value.okWide Try.prog w .any base 27 v) (hx : ∃ n y, DataW.trod enc Try.prog w 0 (fun _ => true) true n 27 v.cells.toList = some y) :
    ∃ a len cap zs, v = .slice a len cap ∧ BRow .u8 w a len cap zs := by
  obtain ⟨a, len, cap, zs, e, hr⟩ := rd_ints Try.underlying27 Try.underlying5 cellsU8 hx
  refine ⟨a, len, cap, zs, ?_, hr⟩
  cases v <;> simp_all [Value.okWide, Cell.okWide, Cell.ok, Value.cells, Try.underlying27]

theorem open_i64v {H : Type} {enc : TypeId × Value → H} {w : World} {base : Nat} {v : Value} (o : Value.okWide Try.prog w .any base 2 v) (hx : ∃ n y, DataW.trod enc Try.prog w 0 (fun _ => true) true n 2 v.cells.toList = some y) :
    ∃ n, v = .int .i64 n ∧ (Lit.int .i64 n).wf = true := by
  obtain ⟨n, e, hr⟩ := rd_int (fuel := 0) Try.underlying2 hx
  refine ⟨n, ?_, hr⟩
  cases v <;> simp_all [Value.okWide, Cell.okWide, Cell.ok, Value.cells, Try.underlying2]

theorem open_segv {H : Type} {enc : TypeId × Value → H} {w : World} {base : Nat} {v : Value} (o : Value.okWide Try.prog w .any base 29 v) (hx : ∃ n y, DataW.trod enc Try.prog w 0 (fun _ => true) true n 29 v.cells.toList = some y) :
    ∃ (s : Seg) (a : Option Addr) (cap : Nat) (zs : List Int), v = .agg #[.int .i64 s.path, .int .i64 s.frm, .bool s.syn, .bool s.ackd, .bool s.rst, .int .i64 s.seq, .int .i64 s.ack, .int .i64 s.fin, .int .i64 s.opt, .int .i64 s.a, .int .i64 s.b, .slice a s.load.length cap] ∧ s.Wf ∧ BRow .u8 w a s.load.length cap zs ∧ RB w a s.load := by
  obtain ⟨cs, rfl⟩ := val_agg Try.underlying29 o
  obtain ⟨s, a, cap, zs, e, hw, hr, hl⟩ := open_lseg hx
  refine ⟨s, a, cap, zs, ?_, hw, hr, ?_⟩
  · obtain ⟨l⟩ := cs
    simp only [Value.cells] at e
    rw [show l = _ from e]
  · have := hr.rb.1
    rw [← hl] at this
    exact this
end Go.Proofs.Ytmiomnpfjigojah
