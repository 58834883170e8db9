/- Small facts of bytes and of memory that grew; no condition. -/
import Derived.Test.YtbdibjeemgkdaaaGreatDoorRows
import Derived.Test.YtbdibjeemgkdaaaGreatDoorK01
namespace Go.Proofs.YtbdibjeemgkdaaaGreatDoor
open Go.RowKit
set_option linter.unusedVariables false
theorem grown_cell {w w' : World} {g : Option Nat} (hg : w.grownBy w' g) {b : Nat} (o : Nat) (hb : b < w.heap.size) (hne : g ≠ some b) : w'.cell? ⟨b, o, none⟩ = w.cell? ⟨b, o, none⟩ :=
  World.cell?_of_block (w := w) (hg.block b hb (fun e => hne e.symm))
theorem rb_one {w : World} {y : Int} (hy : 0 ≤ y ∧ y ≤ 255) : RB (w.alloc (.cells #[.int .u8 y] 5)) (some ⟨w.heap.size, 0, none⟩) [y] := by
  refine ⟨fun z hz => ?_, Or.inr ⟨w.heap.size, 0, rfl, fun i hi => ?_⟩⟩
  · simp at hz; subst hz; exact hy
  · simp at hi; subst hi; simp

theorem OB.nilrow (w : World) (base : Nat) : OB w base (.slice none 0 0) [] := ⟨⟨rfl, Or.inl ⟨rfl, rfl⟩⟩, by simp⟩
end Go.Proofs.YtbdibjeemgkdaaaGreatDoor
