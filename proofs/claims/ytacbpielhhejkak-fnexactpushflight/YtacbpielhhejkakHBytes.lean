/- The laws' copy of bytes and their comparison, over data of any shape; no condition but that there are at most a million. -/
import Derived.Test.YtacbpielhhejkakRows
import Derived.Test.YtacbpielhhejkakBase
import Derived.Test.YtacbpielhhejkakBytes
import Derived.Test.YtacbpielhhejkakMem
import Derived.Test.YtacbpielhhejkakHBase
namespace Go.Proofs.Ytacbpielhhejkak
open Go.RowKit
set_option linter.unusedVariables false

theorem lToBytesO (l : List Int) (v : Value) (w : World) (B : Nat) (hr : u8s.Rd w B l [v]) (hn : l.length ≤ 1048576) :
    Calls Try.prog 25 #[v] w fun e w' => ∃ u, e = .returned u ∧ Own w' w.heap.size w'.heap.size u8s l [u] ∧ Below w.heap.size w w' := by
  obtain ⟨a, c, e, rb, -, -⟩ := rd_bytes hr
  simp only [List.cons.injEq, and_true] at e
  subst e
  refine (lToByteS a _ c l w rfl rb hn).mono ?_
  rintro e w1 ⟨rfl, ho, hb⟩
  exact ⟨_, rfl, own_bytes ho (Nat.le_refl _), hb⟩
theorem lEqBytesO (l : List Int) (v u : Value) (w : World) (B C : Nat) (hr : u8s.Rd w B l [v]) (hr' : u8s.Rd w C l [u]) (hn : l.length ≤ 281474976710656) :
    Calls Try.prog 27 #[v, u] w fun e w' => e = .returned (.bool true) ∧ Below w.heap.size w w' := by
  obtain ⟨a, c, e, rb, -, -⟩ := rd_bytes hr
  simp only [List.cons.injEq, and_true] at e
  subst e
  obtain ⟨a', c', e, rb', -, -⟩ := rd_bytes hr'
  simp only [List.cons.injEq, and_true] at e
  subst e
  refine (lEqByteS a a' _ c c' l w rfl rb rb' hn).mono ?_
  rintro e w1 ⟨m, rfl, rfl⟩
  exact ⟨rfl, below_drewN (Below.refl _ _) m⟩
end Go.Proofs.Ytacbpielhhejkak
