/- A law's parameters opened: bytes, a number; no condition. -/
import Derived.Test.YtebgibjokljlbaaRows
import Derived.Test.YtebgibjokljlbaaK01
namespace Go.Proofs.Ytebgibjokljlbaa
open Go.RowKit Go.ChangeShapes Go.WideShapes Go.ChangeAt
set_option linter.unusedVariables false
set_option maxRecDepth 8000

theorem rd_i64 {n : Int} (h : (Lit.int .i64 n).wf = true) : -9223372036854775808 ≤ n ∧ n ≤ 9223372036854775807 := by
  simp [Lit.wf, IntKind.min, IntKind.max, IntKind.signed, IntKind.bits] at h; omega
theorem val_agg {w : World} {base : Nat} {t : TypeId} {v : Value} {fs : Array Field} (hu : Try.prog.underlying t = some (.struct fs)) (o : Value.okWide Try.prog w .any base t v) : ∃ cs, v = .agg cs := by
  unfold Value.okWide at o
  rw [hu] at o
  obtain ⟨cs, h, _⟩ := o
  exact ⟨cs, h⟩

theorem open_i64v {H : Type} {enc : TypeId × Value → H} {w : World} {base : Nat} {v : Value} (o : Value.okWide Try.prog w .any base 2 v) (hx : ∃ n y, DataW.trod enc Try.prog w 0 (fun _ => true) true n 2 v.cells.toList = some y) :
    ∃ n, v = .int .i64 n ∧ (Lit.int .i64 n).wf = true := by
  obtain ⟨n, y, h⟩ := hx
  obtain ⟨n, e, _, hr⟩ := DataW.trod_int Try.underlying2 h
  refine ⟨n, ?_, hr⟩
  cases v <;> simp_all [Value.okWide, Cell.okWide, Cell.ok, Value.cells, Try.underlying2]

theorem fits_u8 : u8s.fits Try.prog (.inl 22) := ⟨_, Try.underlying22, by kernel_rfl, by decide, Try.underlying5⟩
theorem open_byv {H : Type} {enc : TypeId × Value → H} {w : World} {base : Nat} {v : Value} (o : Value.okWide Try.prog w .any base 22 v) (hx : ∃ n y, DataW.trod enc Try.prog w 0 (fun _ => true) true n 22 v.cells.toList = some y) :
    ∃ l, u8s.Rd w w.heap.size l [v] := by
  obtain ⟨l, hd⟩ := (open_sh (enc := enc) (P := Try.prog) (w := w) u8s).1 _ _ fits_u8 hx
  obtain ⟨a, cap, e, r⟩ := hd
  have : v = .slice a l.length cap := by cases v <;> simp_all [Value.okWide, Cell.okWide, Cell.ok, Value.cells, Try.underlying22]
  subst this
  exact ⟨l, a, cap, rfl, r⟩
end Go.Proofs.Ytebgibjokljlbaa

/- What stays of a law's own boxes over a call that leaves old memory alone; no condition. -/
namespace Go.Proofs.Ytebgibjokljlbaa
open Go.RowKit
set_option linter.unusedVariables false

theorem bx_below {w w' : World} {b : Nat} {cs : Array Value} (h : ∀ o, w.cell? ⟨b, o, none⟩ = cs[o]?) (hb : b < w.heap.size) (k : Below w.heap.size w w') : ∀ o, w'.cell? ⟨b, o, none⟩ = cs[o]? :=
  fun o => (k.cell (p := ⟨b, o, none⟩) hb).trans (h o)
theorem bx_new {w w' : World} {cs : Array Value} {t : TypeId} (k : Below (w.alloc (.cells cs t)).heap.size (w.alloc (.cells cs t)) w') : ∀ o, w'.cell? ⟨w.heap.size, o, none⟩ = cs[o]? :=
  fun o => (k.cell (p := ⟨w.heap.size, o, none⟩) (by simp)).trans (by simp)
theorem bl_new {w w' : World} {O : Obj} (k : Below (w.alloc O).heap.size (w.alloc O) w') : Below w.heap.size w w' ∧ w.heap.size < w'.heap.size := by
  refine ⟨((Below.refl _ _).alloc (Nat.le_refl _) _).trans (k.mono (by simp)), ?_⟩
  have := k.size
  simp at this
  omega
theorem bl_drew {w w' : World} (k : Below w.drew.heap.size w.drew w') : Below w.heap.size w w' := (Below.drew (Below.refl _ _)).trans k
theorem bl_of {w w' : World} (k : w' = w) : Below w.heap.size w w' := by rw [k]; exact Below.refl _ _
/-- A box that is written by a call on a row of the call's own (from block lo on, below hi) stays. -/
theorem bx_keep {w w' : World} {b : Nat} {cs : Array Value} (h : ∀ o, w.cell? ⟨b, o, none⟩ = cs[o]?) (hk : w'.heap[b]? = w.heap[b]?) : ∀ o, w'.cell? ⟨b, o, none⟩ = cs[o]? :=
  fun o => (World.cell?_of_block (w := w) (a := ⟨b, o, none⟩) hk).trans (h o)
end Go.Proofs.Ytebgibjokljlbaa
