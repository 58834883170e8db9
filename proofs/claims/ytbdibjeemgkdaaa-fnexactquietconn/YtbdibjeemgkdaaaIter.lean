/- What the program's iterator over flights tells: those that are so, in order, each with its place; no condition but that what is asked of each is answered and changes nothing. -/
import Derived.RangeFuncNested
import Derived.RangeFuncBound
import Derived.RangeFuncCalls
import Derived.RangeFuncLeaves
import Derived.RangeFuncBox
import Derived.Shelf.Abstract
import Derived.Shelf.RegionOpen
import Derived.WalkKit
import Derived.OwnWalkIn
import Derived.TacticsInMore
import Derived.LoopNIn
import Derived.LoopIn
import Derived.Test.YtbdibjeemgkdaaaRows
import Derived.Test.YtbdibjeemgkdaaaBase
import Derived.Test.YtbdibjeemgkdaaaMem
import Derived.Test.YtbdibjeemgkdaaaHBase
import Derived.Test.YtbdibjeemgkdaaaHFlight
import Derived.Test.YtbdibjeemgkdaaaHSender
import Derived.Test.YtbdibjeemgkdaaaFlightDef
import Derived.Test.YtbdibjeemgkdaaaBox
namespace Go.Proofs.Ytbdibjeemgkdaaa
open Go.RowKit Go.Shelf
set_option linter.unusedVariables false
attribute [local go_sem] Oper.semAt_some

theorem grown_below {W W' : World} (h : Below W.heap.size W W') : W.grownBy W' none := ⟨h.os, h.tape, h.output, h.size, fun k hk _ => h.block k hk⟩
/-- What a round keeps: what lay below n₀, and the box of the question. -/
def KpF (n₀ Bf : Nat) (W W' : World) : Prop := Below n₀ W W' ∧ W'.heap[Bf]? = W.heap[Bf]?
theorem KpF.trans {n₀ Bf : Nat} {A B C : World} (h : KpF n₀ Bf A B) (h' : KpF n₀ Bf B C) : KpF n₀ Bf A C := ⟨h.1.trans h'.1, h'.2.trans h.2⟩
/-- Those of the first k that are so, in order. -/
def soUp {n : Nat} (p : Fin n → Bool) : Nat → List (Fin n)
  | 0 => []
  | k + 1 => if h : k < n then (if p ⟨k, h⟩ = true then soUp p k ++ [⟨k, h⟩] else soUp p k) else soUp p k
theorem soUp_yes {n : Nat} (p : Fin n → Bool) {k : Nat} (h : k < n) (hp : p ⟨k, h⟩ = true) : soUp p (k + 1) = soUp p k ++ [⟨k, h⟩] := by rw [soUp, dif_pos h, if_pos hp]
theorem soUp_no {n : Nat} (p : Fin n → Bool) {k : Nat} (h : k < n) (hp : p ⟨k, h⟩ = false) : soUp p (k + 1) = soUp p k := by rw [soUp, dif_pos h, if_neg (by simp [hp])]
theorem soUp_len {n : Nat} (p : Fin n → Bool) : ∀ k, (soUp p k).length ≤ k
  | 0 => by simp [soUp]
  | k + 1 => by
    have := soUp_len p k
    rw [soUp]
    split
    · split <;> simp <;> omega
    · omega

end Go.Proofs.Ytbdibjeemgkdaaa
