/- For UnpackSegment's law: bytes copied with just their room; how long the load of an answer is; no condition. -/
import Derived.Test.YtmiomnpfjigojahRows
import Derived.Test.YtmiomnpfjigojahBase
import Derived.Test.YtmiomnpfjigojahBytes
import Derived.Test.YtmiomnpfjigojahSeg
import Derived.Test.YtmiomnpfjigojahLaw
import Derived.Test.YtmiomnpfjigojahPackDef
import Derived.Test.YtmiomnpfjigojahPackWalks
import Derived.Test.YtmiomnpfjigojahRead
import Derived.Test.YtmiomnpfjigojahImplUnpack
namespace Go.Proofs.Ytmiomnpfjigojah
open Go.RowKit
set_option linter.unusedVariables false

theorem lToBytesX (a : Option Addr) (n cap : Nat) (l : List Int) (w : World) (hl : l.length = n) (hr : RB w a l) (hn : n ≤ 1048576) :
    Calls Try.prog 24 #[.slice a n cap] w fun e w' => ∃ v, e = .returned v ∧ (∃ a' c', v = .slice a' l.length c' ∧ l.length ≤ c' ∧ c' ≤ 281474976710656) ∧ OB w' w.heap.size v l ∧ Below w.heap.size w w' := by
  refine (lToByteS a n cap l w hl hr hn).mono ?_
  rintro e w1 ⟨rfl, ho, hb⟩
  exact ⟨_, rfl, ⟨_, n, by rw [hl], by omega, by omega⟩, ho, hb⟩
theorem upS_len (l : List Int) : (upS l).load.length ≤ 8 := by
  unfold upS
  split
  · rename_i h
    unfold upC at h
    split at h
    · cases h
    · split at h
      · cases h
      · split at h
        · cases h
        · rename_i h3
          have h4 : upFit l = true := by simpa using h3
          unfold upFit at h4
          rw [Bool.and_eq_true] at h4
          exact (ok_of_fault (of_decide_eq_true h4.1)).load
  · simp [zSg]
end Go.Proofs.Ytmiomnpfjigojah
