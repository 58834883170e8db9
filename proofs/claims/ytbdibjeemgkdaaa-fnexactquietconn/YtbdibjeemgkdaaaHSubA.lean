/- The law's own helpers on subs, a sub as one value of 16 cells that are not named; no condition but that there are at most a million parts. -/
import Derived.Test.YtbdibjeemgkdaaaRows
import Derived.Test.YtbdibjeemgkdaaaBase
import Derived.Test.YtbdibjeemgkdaaaBytes
import Derived.Test.YtbdibjeemgkdaaaMem
import Derived.Test.YtbdibjeemgkdaaaMemOpen
import Derived.Test.YtbdibjeemgkdaaaMemRow
import Derived.Test.YtbdibjeemgkdaaaHBase
import Derived.Test.YtbdibjeemgkdaaaHFlight
import Derived.Test.YtbdibjeemgkdaaaHSender
import Derived.Test.YtbdibjeemgkdaaaHSpan
import Derived.Test.YtbdibjeemgkdaaaHCatch
import Derived.Test.YtbdibjeemgkdaaaHSub
import Derived.Test.YtbdibjeemgkdaaaAgg
namespace Go.Proofs.Ytbdibjeemgkdaaa
open Go.RowKit
set_option linter.unusedVariables false
set_option maxRecDepth 8000

theorem lSzSubA (x : DSub) (A : Array Value) (left : Int) (w : World) (B : Nat) (hr : shSub.Rd w B x A.toList) (hB : B ≤ w.heap.size) (h0 : 0 ≤ left) (h1 : left ≤ 1048576) :
    Calls Try.prog 25 #[.agg A, .int .i64 left] w fun e w' => e = .returned (.int .i64 (if left < totSub x then -1 else left - totSub x)) ∧ Below w.heap.size w w' := by
  obtain ⟨u, v, e, -⟩ := rd_Sub hr
  rw [e] at hr
  rw [arr_of e]
  exact lSzSub x u v left w B hr hB h0 h1
theorem lToSubA (x : DSub) (A : Array Value) (w : World) (B : Nat) (hr : shSub.Rd w B x A.toList) (hB : B ≤ w.heap.size) (hT : totSub x ≤ 1048576) :
    Calls Try.prog 32 #[.agg A] w fun e w' => ∃ A', e = .returned (.agg A') ∧ Own w' w.heap.size w'.heap.size shSub x A'.toList ∧ Below w.heap.size w w' := by
  obtain ⟨u, v, e, -⟩ := rd_Sub hr
  rw [e] at hr
  rw [arr_of e]
  refine (lToSub x u v w B hr hB hT).mono ?_
  rintro e w' ⟨u2, v2, he, ho, hb⟩
  exact ⟨_, he, ho, hb⟩
theorem lEqSubA (x : DSub) (A A' : Array Value) (w : World) (B : Nat) (hr : shSub.Rd w B x A.toList) (hr' : shSub.Rd w B x A'.toList) (hB : B ≤ w.heap.size) (hT : totSub x ≤ 1048576) :
    Calls Try.prog 40 #[.agg A, .agg A'] w fun e w' => e = .returned (.bool true) ∧ Below w.heap.size w w' := by
  obtain ⟨u, v, e, -⟩ := rd_Sub hr
  obtain ⟨u', v', e', -⟩ := rd_Sub hr'
  rw [e] at hr
  rw [e'] at hr'
  rw [arr_of e, arr_of e']
  exact lEqSub x u v u' v' w B hr hr' hB hT
end Go.Proofs.Ytbdibjeemgkdaaa
