/- Boxes of many cells: what one reads where a cell is set; no condition. -/
import Derived.Test.YtebgibjokljlbaaRows
import Derived.Test.YtebgibjokljlbaaK01
namespace Go.Proofs.Ytebgibjokljlbaa
open Go.RowKit
set_option linter.unusedVariables false

theorem bx_put {w : World} {b k : Nat} {A : Array Value} {v : Value} (h : ∀ o, w.cell? ⟨b, o, none⟩ = A[o]?) (hk : k < A.size) : ∀ o, (w.setCell ⟨b, k, none⟩ v).cell? ⟨b, o, none⟩ = (A.setIfInBounds k v)[o]? := fun o => by
  by_cases e : o = k
  · subst e
    rw [World.cell?_setCell_same _ _ _ ((h o).trans (Array.getElem?_eq_getElem hk)), Array.getElem?_setIfInBounds_self_of_lt hk]
  · rw [World.cell?_setCell_other _ _ _ _ (by simp), h o, Array.getElem?_setIfInBounds_ne (by omega)]
theorem bx_off {w : World} {b b' k : Nat} {v : Value} {A : Array Value} (h : ∀ o, w.cell? ⟨b, o, none⟩ = A[o]?) (hne : b ≠ b') : ∀ o, (w.setCell ⟨b', k, none⟩ v).cell? ⟨b, o, none⟩ = A[o]? := fun o => by
  rw [World.cell?_setCell_other _ _ _ _ (by intro e; simp only [Addr.mk.injEq] at e; omega)]; exact h o
theorem bxB {B : Nat} {w w' : World} {b : Nat} {cs : Array Value} (h : ∀ o, w.cell? ⟨b, o, none⟩ = cs[o]?) (k : Below B w w') (hb : b < B) : ∀ o, w'.cell? ⟨b, o, none⟩ = cs[o]? :=
  fun o => (k.cell (p := ⟨b, o, none⟩) hb).trans (h o)
theorem bxF {B : Nat} {w w' : World} {b : Nat} (h : ∀ o, w.frozen? ⟨b, o, none⟩ = false) (k : Below B w w') (hb : b < B) : ∀ o, w'.frozen? ⟨b, o, none⟩ = false :=
  fun o => (k.frozen (p := ⟨b, o, none⟩) hb).trans (h o)
end Go.Proofs.Ytebgibjokljlbaa
