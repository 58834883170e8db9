/- What the law's own helpers (compare, mark, hold against the marks) make of an answer that holds bytes; no condition but on lengths. -/
import Derived.Test.YtmiomnpfjigojahRows
import Derived.Test.YtmiomnpfjigojahBase
import Derived.Test.YtmiomnpfjigojahBytes
import Derived.Test.YtmiomnpfjigojahSeg
import Derived.Test.YtmiomnpfjigojahLaw
namespace Go.Proofs.Ytmiomnpfjigojah
open Go.RowKit
set_option linter.unusedVariables false

set_option maxHeartbeats 400000 in
theorem lEqBytesResult (c : Int) (a b : Option Addr) (n cap cap' : Nat) (l : List Int) (w : World) (hl : l.length = n) (ha : RB w a l) (hb : RB w b l) (hn : n ≤ 281474976710656) :
    Calls Try.prog 19 #[.agg #[.int .i64 c, .slice a n cap], .agg #[.int .i64 c, .slice b n cap']] w fun e w' => e = .returned (.bool true) ∧ Below w.heap.size w w' := by
  have HC : Hid (∀ W, Below w.heap.size w W → Calls Try.prog 27 #[.slice a n cap, .slice b n cap'] W fun e w' => e = .returned (.bool true) ∧ Below W.heap.size W w') := fun W hW => lEqBytes a b n cap cap' l W hl (ha.below (Nat.le_refl _) hW) (hb.below (Nat.le_refl _) hW) hn
  clear ha hb
  go_enter Try.func19, Try.ntmps19
  go_wp2_with fail
  refine (HC.out _ (by go_grown)).mono ?_
  rintro e w1 ⟨rfl, hb1⟩
  go_wp2_with fail
  go_ret
  exact ⟨rfl, Below.trans (by go_grown) (hb1.mono (by simp; omega))⟩
set_option maxHeartbeats 400000 in
theorem lMarkBytesResult (k : Int) (base : Nat) (v : Value) (l : List Int) (c : Int) (w : World) (ho : OB w base v l) (hn : l.length ≤ 1073741824) (hc0 : 0 ≤ c) (hc1 : c ≤ 4611686018427387904) :
    Calls Try.prog 21 #[.agg #[.int .i64 k, v], .int .i64 c] w fun e w' => e = .returned (.int .i64 (c + l.length)) ∧ OB w' base v (marks c l.length) ∧ w.grownBy w' v.ownBlock := by
  obtain ⟨a, cap, rfl, _⟩ := ho.rb
  go_enter Try.func21, Try.ntmps21
  go_wp2_with fail
  refine (lMark base _ c l _ (ho.below (Nat.le_refl _) (by go_grown)) hn hc0 hc1).mono ?_
  rintro e w1 ⟨rfl, ho1, hg1⟩
  go_wp2_with fail
  go_ret
  refine ⟨rfl, ho1, ?_⟩
  have h0 := World.grownBy_alloc w (.cells #[.int .i64 k, .slice a l.length cap] 37) ((Value.slice a l.length cap).ownBlock)
  exact ⟨hg1.os.trans h0.os, hg1.tape.trans h0.tape, hg1.output.trans h0.output, Nat.le_trans h0.size hg1.size, fun j hj hne => (hg1.block j (Nat.lt_of_lt_of_le hj h0.size) hne).trans (h0.block j hj hne)⟩
set_option maxHeartbeats 400000 in
theorem lHeldBytesResult (k : Int) (a : Option Addr) (n cap : Nat) (c : Int) (w : World) (ha : RB w a (marks c n)) (hn : n ≤ 1073741824) (hc0 : 0 ≤ c) (hc1 : c ≤ 4611686018427387904) :
    Calls Try.prog 22 #[.agg #[.int .i64 k, .slice a n cap], .int .i64 c] w fun e w' => e = .returned (.int .i64 (c + n)) ∧ Below w.heap.size w w' := by
  go_enter Try.func22, Try.ntmps22
  go_wp2_with fail
  refine (lHeldByteS a n cap c _ (ha.below (Nat.le_refl _) (by go_grown)) hn hc0 hc1).mono ?_
  rintro e w1 ⟨rfl, hw⟩
  subst w1
  have h2 : 0 ≤ c + (n : Int) := by omega
  go_wp2_with fail
  go_ret
  exact ⟨rfl, by go_grown⟩
end Go.Proofs.Ytmiomnpfjigojah
