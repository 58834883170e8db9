/- A law's parameters opened: a gather, bytes, a number; the law's copies and comparisons of bytes as data; no condition. -/
import Derived.Test.YtnfkjdcnngoeiaaRows
import Derived.Test.YtnfkjdcnngoeiaaBase
import Derived.Test.YtnfkjdcnngoeiaaBytes
import Derived.Test.YtnfkjdcnngoeiaaMem
import Derived.Test.YtnfkjdcnngoeiaaMemOpen
import Derived.Test.YtnfkjdcnngoeiaaMemRow
import Derived.Test.YtnfkjdcnngoeiaaGath
import Derived.Test.YtnfkjdcnngoeiaaGathLaw
namespace Go.Proofs.Ytnfkjdcnngoeiaa
open Go.RowKit Go.ChangeShapes Go.WideShapes Go.ChangeAt
set_option linter.unusedVariables false

theorem rd_i64 {n : Int} (h : (Lit.int .i64 n).wf = true) : -9223372036854775808 ≤ n ∧ n ≤ 9223372036854775807 := rd_i64G h
theorem val_agg {w : World} {base : Nat} {t : TypeId} {v : Value} {fs : Array Field} (hu : Try.prog.underlying t = some (.struct fs)) (o : Value.okWide Try.prog w .any base t v) : ∃ cs, v = .agg cs := by
  unfold Value.okWide at o
  rw [hu] at o
  obtain ⟨cs, h, _⟩ := o
  exact ⟨cs, h⟩

theorem open_i64v {H : Type} {enc : TypeId × Value → H} {w : World} {base : Nat} {v : Value} (o : Value.okWide Try.prog w .any base 2 v) (hx : ∃ n y, DataW.trod enc Try.prog w 0 (fun _ => true) true n 2 v.cells.toList = some y) :
    ∃ n, v = .int .i64 n ∧ (Lit.int .i64 n).wf = true := by
  obtain ⟨n, y, h⟩ := hx
  obtain ⟨n, e, _, hr⟩ := DataW.trod_int Try.underlying2 h
  refine ⟨n, ?_, hr⟩
  cases v <;> simp_all [Value.okWide, Cell.okWide, Cell.ok, Value.cells, Try.underlying2]

theorem fits_u8 : u8s.fits Try.prog (.inl 22) := ⟨_, Try.underlying22, by kernel_rfl, by decide, Try.underlying5⟩
theorem open_byv {H : Type} {enc : TypeId × Value → H} {w : World} {base : Nat} {v : Value} (o : Value.okWide Try.prog w .any base 22 v) (hx : ∃ n y, DataW.trod enc Try.prog w 0 (fun _ => true) true n 22 v.cells.toList = some y) :
    ∃ l, u8s.Rd w w.heap.size l [v] := by
  obtain ⟨l, hd⟩ := (open_sh (enc := enc) (P := Try.prog) (w := w) u8s).1 _ _ fits_u8 hx
  obtain ⟨a, cap, e, r⟩ := hd
  have : v = .slice a l.length cap := by cases v <;> simp_all [Value.okWide, Cell.okWide, Cell.ok, Value.cells, Try.underlying22]
  subst this
  exact ⟨l, a, cap, rfl, r⟩

theorem fits_gat : gtS.fits Try.prog (.inl 25) :=
  ⟨_, _, Try.underlying25, by kernel_rfl, rfl, by kernel_rfl, fits_u8, rfl, by kernel_rfl, ⟨_, Try.underlying23, by kernel_rfl, by decide, _, _, Try.underlying48, by kernel_rfl, rfl, by kernel_rfl, Try.underlying2, rfl, by kernel_rfl, fits_u8, trivial⟩, trivial⟩

theorem open_gatv {H : Type} {enc : TypeId × Value → H} {w : World} {base : Nat} {v : Value} (o : Value.okWide Try.prog w .any base 25 v) (hx : ∃ n y, DataW.trod enc Try.prog w 0 (fun _ => true) true n 25 v.cells.toList = some y) :
    ∃ (g : Gt) (v1 v2 : Value), v = .agg #[v1, v2] ∧ gtS.Rd w w.heap.size g [v1, v2] := by
  obtain ⟨cs, rfl⟩ := val_agg Try.underlying25 o
  obtain ⟨g, hd⟩ := (open_sh (enc := enc) (P := Try.prog) (w := w) gtS).1 _ _ fits_gat hx
  obtain ⟨a1, c1, a2, c2, e, -, -⟩ := rd_gt hd
  obtain ⟨l⟩ := cs
  simp only [Value.cells] at e hd
  subst e
  exact ⟨g, _, _, rfl, hd⟩

theorem lToBytesO (l : List Int) (v : Value) (w : World) (B : Nat) (hr : u8s.Rd w B l [v]) (hn : l.length ≤ 1048576) :
    Calls Try.prog 7 #[v] w fun e w' => ∃ u, e = .returned u ∧ Own w' w.heap.size w'.heap.size u8s l [u] ∧ Below w.heap.size w w' := by
  obtain ⟨a, c, e, rb, -, -⟩ := rd_bytes hr
  simp only [List.cons.injEq, and_true] at e
  subst e
  refine (lToByteS a _ c l w rfl rb hn).mono ?_
  rintro e w1 ⟨rfl, ho, hb⟩
  exact ⟨_, rfl, own_bytes ho (Nat.le_refl _), hb⟩
theorem lEqBytesO (l : List Int) (v u : Value) (w : World) (B C : Nat) (hr : u8s.Rd w B l [v]) (hr' : u8s.Rd w C l [u]) (hn : l.length ≤ 281474976710656) :
    Calls Try.prog 10 #[v, u] w fun e w' => e = .returned (.bool true) ∧ Below w.heap.size w w' := by
  obtain ⟨a, c, e, rb, -, -⟩ := rd_bytes hr
  simp only [List.cons.injEq, and_true] at e
  subst e
  obtain ⟨a', c', e, rb', -, -⟩ := rd_bytes hr'
  simp only [List.cons.injEq, and_true] at e
  subst e
  refine (lEqByteS a a' _ c c' l w rfl rb rb' hn).mono ?_
  rintro e w1 ⟨m, rfl, rfl⟩
  exact ⟨rfl, below_drewN (Below.refl _ _) m⟩
end Go.Proofs.Ytnfkjdcnngoeiaa
