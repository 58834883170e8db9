/- The bytes of a segment, as data; no condition. -/
import Derived.Test.YtmiomnpfjigojaaRows
import Derived.Test.YtmiomnpfjigojaaBase
import Derived.Test.YtmiomnpfjigojaaBytes
import Derived.Test.YtmiomnpfjigojaaAppBytes
import Derived.Test.YtmiomnpfjigojaaApp
import Derived.Test.YtmiomnpfjigojaaSeg
import Derived.Test.YtmiomnpfjigojaaSpecSeg
import Derived.Test.YtmiomnpfjigojaaSpecPack
import Derived.Test.YtmiomnpfjigojaaLaw
namespace Go.Proofs.Ytmiomnpfjigojaa
open Go.RowKit
set_option linter.unusedVariables false

def flagB (s : Seg) : Int := (if s.syn then 1 else 0) + (if s.ackd then 2 else 0) + (if s.rst then 4 else 0)
/-- The bytes of a segment ahead of its sum. -/
def bodyB (s : Seg) : List Int :=
  [s.path * 2 + s.frm, flagB s] ++ beTo s.seq 2 2 ++ beTo s.ack 2 2 ++ beTo s.fin 2 2 ++ [s.opt] ++ beTo s.a 3 3 ++ beTo s.b 3 3 ++ [(s.load.length : Int)] ++ s.load
/-- The bytes of a segment. -/
def packB (s : Seg) : List Int := bodyB s ++ beTo (sumB (bodyB s)) 2 2

/-- What a segment without a fault is. -/
structure Seg.Ok (s : Seg) : Prop where
  path : 0 ≤ s.path ∧ s.path ≤ 2
  frm : 0 ≤ s.frm ∧ s.frm ≤ 1
  seq : 0 ≤ s.seq ∧ s.seq ≤ 65535
  ack : 0 ≤ s.ack ∧ s.ack ≤ 65535
  fin : 0 ≤ s.fin ∧ s.fin ≤ 1000
  opt : 0 ≤ s.opt ∧ s.opt ≤ 4
  a : 0 ≤ s.a ∧ s.a ≤ 1000000
  b : 0 ≤ s.b ∧ s.b ≤ 1000000
  load : s.load.length ≤ 8

theorem ok_of_fault {s : Seg} (h : segFault s s.load.length = 0) : s.Ok := by
  unfold segFault at h
  split at h
  · cases h
  · rename_i h1
    split at h
    · cases h
    · rename_i h2
      split at h
      · cases h
      · rename_i h3
        simp only [Bool.not_eq_false, rangeOk, Bool.and_eq_true, inB_iff] at h1
        simp only [Bool.not_eq_false, formOk, Bool.and_eq_true, inB_iff] at h2
        obtain ⟨⟨⟨⟨⟨⟨a1, a2⟩, a3⟩, a4⟩, a5⟩, a6⟩, a7⟩ := h1
        exact ⟨a1, a2, a3, a4, a5, h2.1.1, a6, a7, by omega⟩

theorem flagB_bd (s : Seg) : 0 ≤ flagB s ∧ flagB s ≤ 7 := by unfold flagB; split <;> split <;> split <;> omega

theorem bodyB_length (s : Seg) : (bodyB s).length = 16 + s.load.length := by simp [bodyB, beTo_length]; omega
theorem packB_length (s : Seg) : (packB s).length = 18 + s.load.length := by rw [packB, List.length_append, bodyB_length, beTo_length]; omega

theorem OB.made1 (W : World) (base : Nat) (x : Int) (hx : 0 ≤ x ∧ x ≤ 255) (hb : base ≤ W.heap.size) : OB (W.alloc (.cells #[.int .u8 x] 5)) base (.slice (some ⟨W.heap.size, 0, none⟩) 1 1) [x] :=
  ⟨⟨rfl, Or.inr ⟨W.heap.size, 1, #[.int .u8 x], rfl, hb, heap_alloc_new W _, by simp, by unfold maxLen; omega, rfl, rfl⟩⟩, by intro z hz; simp at hz; subst hz; exact hx⟩
theorem OB.made2 (W : World) (base : Nat) (x y : Int) (hx : 0 ≤ x ∧ x ≤ 255) (hy : 0 ≤ y ∧ y ≤ 255) (hb : base ≤ W.heap.size) : OB (W.alloc (.cells #[.int .u8 x, .int .u8 y] 5)) base (.slice (some ⟨W.heap.size, 0, none⟩) 2 2) [x, y] :=
  ⟨⟨rfl, Or.inr ⟨W.heap.size, 2, #[.int .u8 x, .int .u8 y], rfl, hb, heap_alloc_new W _, by simp, by unfold maxLen; omega, rfl, rfl⟩⟩, by intro z hz; simp at hz; rcases hz with rfl | rfl <;> assumption⟩
end Go.Proofs.Ytmiomnpfjigojaa
