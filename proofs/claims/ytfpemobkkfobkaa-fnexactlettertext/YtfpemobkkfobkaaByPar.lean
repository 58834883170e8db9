/- Bytes as a parameter of a law: copied, compared; no condition but that there are at most a million. -/
import Derived.Test.YtfpemobkkfobkaaRows
import Derived.Test.YtfpemobkkfobkaaBase
import Derived.Test.YtfpemobkkfobkaaBytes
import Derived.Test.YtfpemobkkfobkaaMem
import Derived.Test.YtfpemobkkfobkaaHBase
namespace Go.Proofs.Ytfpemobkkfobkaa
open Go.RowKit
set_option linter.unusedVariables false
theorem own_rb {w : World} {lo hi : Nat} {l : List Int} {a : Option Addr} {n k : Nat} (h : Own w lo hi u8s l [.slice a n k]) : RB w a l ∧ (a = none → k = 0) := by
  obtain ⟨a', k', e, r1, r2, -⟩ := rd_bytes (h.rd (Nat.le_refl _))
  simp only [List.cons.injEq, Value.slice.injEq, and_true] at e
  obtain ⟨rfl, -, rfl⟩ := e
  exact ⟨r1, r2⟩
theorem lToBy (a : Option Addr) (n cap : Nat) (l : List Int) (w : World) (hl : l.length = n) (hr : RB w a l) (hn : n ≤ 1048576) :
    Calls Try.prog 6 #[.slice a n cap] w fun e w' => e = .returned (.slice (some ⟨w.heap.size, 0, none⟩) n n) ∧ Own w' w.heap.size w'.heap.size u8s l [.slice (some ⟨w.heap.size, 0, none⟩) n n] ∧ Below w.heap.size w w' :=
  (lToByteS a n cap l w hl hr hn).mono (by rintro e w' ⟨rfl, ho, hb⟩; exact ⟨rfl, own_bytes ho (Nat.le_refl _), hb⟩)
theorem open_by {w : World} {l : List Int} {v : Value} (h : u8s.Rd w w.heap.size l [v]) : ∃ a n cap, v = .slice a n cap ∧ Hid (l.length = n) ∧ Hid (∀ W, Below w.heap.size w W → RB W a l) ∧ Hid (a = none → cap = 0) := by
  obtain ⟨a, cap, e, r1, r2, -⟩ := rd_bytes h
  simp only [List.cons.injEq, and_true] at e
  exact ⟨a, _, cap, e, rfl, fun W hW => r1.below (Nat.le_refl _) hW, r2⟩
end Go.Proofs.Ytfpemobkkfobkaa
