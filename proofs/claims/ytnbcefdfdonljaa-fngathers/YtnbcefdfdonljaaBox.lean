/- What stays of a law's own boxes over a call that leaves old memory alone; no condition. -/
import Derived.Test.YtnbcefdfdonljaaRows
import Derived.Test.YtnbcefdfdonljaaBase
namespace Go.Proofs.Ytnbcefdfdonljaa
open Go.RowKit
set_option linter.unusedVariables false

theorem bx_below {w w' : World} {b : Nat} {cs : Array Value} (h : ∀ o, w.cell? ⟨b, o, none⟩ = cs[o]?) (hb : b < w.heap.size) (k : Below w.heap.size w w') : ∀ o, w'.cell? ⟨b, o, none⟩ = cs[o]? :=
  fun o => (k.cell (p := ⟨b, o, none⟩) hb).trans (h o)
theorem bx_new {w w' : World} {cs : Array Value} {t : TypeId} (k : Below (w.alloc (.cells cs t)).heap.size (w.alloc (.cells cs t)) w') : ∀ o, w'.cell? ⟨w.heap.size, o, none⟩ = cs[o]? :=
  fun o => (k.cell (p := ⟨w.heap.size, o, none⟩) (by simp)).trans (by simp)
theorem bl_new {w w' : World} {O : Obj} (k : Below (w.alloc O).heap.size (w.alloc O) w') : Below w.heap.size w w' ∧ w.heap.size < w'.heap.size := by
  refine ⟨((Below.refl _ _).alloc (Nat.le_refl _) _).trans (k.mono (by simp)), ?_⟩
  have := k.size
  simp at this
  omega
theorem bl_drew {w w' : World} (k : Below w.drew.heap.size w.drew w') : Below w.heap.size w w' := (Below.drew (Below.refl _ _)).trans k
theorem bl_of {w w' : World} (k : w' = w) : Below w.heap.size w w' := by rw [k]; exact Below.refl _ _
/-- A box that is written by a call on a row of the call's own (from block lo on, below hi) stays. -/
theorem bx_keep {w w' : World} {b : Nat} {cs : Array Value} (h : ∀ o, w.cell? ⟨b, o, none⟩ = cs[o]?) (hk : w'.heap[b]? = w.heap[b]?) : ∀ o, w'.cell? ⟨b, o, none⟩ = cs[o]? :=
  fun o => (World.cell?_of_block (w := w) (a := ⟨b, o, none⟩) hk).trans (h o)
end Go.Proofs.Ytnbcefdfdonljaa
