/- What the law's own helpers (compare, mark, hold against the marks) make of an answer that holds a segment; no condition but on lengths. -/
import Derived.Test.YtmiomnpfjigojahRows
import Derived.Test.YtmiomnpfjigojahBase
import Derived.Test.YtmiomnpfjigojahBytes
import Derived.Test.YtmiomnpfjigojahSeg
import Derived.Test.YtmiomnpfjigojahLaw
namespace Go.Proofs.Ytmiomnpfjigojah
open Go.RowKit
set_option linter.unusedVariables false

set_option maxHeartbeats 1000000 in
theorem lEqSegmentResult (c : Int) (s : Seg) (a b : Option Addr) (n cap cap' : Nat) (w : World) (hl : s.load.length = n) (ha : RB w a s.load) (hb : RB w b s.load) (hn : n ≤ 281474976710656) :
    Calls Try.prog 26 #[.agg #[.int .i64 c, .int .i64 s.path, .int .i64 s.frm, .bool s.syn, .bool s.ackd, .bool s.rst, .int .i64 s.seq, .int .i64 s.ack, .int .i64 s.fin, .int .i64 s.opt, .int .i64 s.a, .int .i64 s.b, .slice a n cap], .agg #[.int .i64 c, .int .i64 s.path, .int .i64 s.frm, .bool s.syn, .bool s.ackd, .bool s.rst, .int .i64 s.seq, .int .i64 s.ack, .int .i64 s.fin, .int .i64 s.opt, .int .i64 s.a, .int .i64 s.b, .slice b n cap']] w fun e w' => e = .returned (.bool true) ∧ Below w.heap.size w w' := by
  have HC : Hid (∀ W, Below w.heap.size w W → Calls Try.prog 16 #[.agg #[.int .i64 s.path, .int .i64 s.frm, .bool s.syn, .bool s.ackd, .bool s.rst, .int .i64 s.seq, .int .i64 s.ack, .int .i64 s.fin, .int .i64 s.opt, .int .i64 s.a, .int .i64 s.b, .slice a n cap], .agg #[.int .i64 s.path, .int .i64 s.frm, .bool s.syn, .bool s.ackd, .bool s.rst, .int .i64 s.seq, .int .i64 s.ack, .int .i64 s.fin, .int .i64 s.opt, .int .i64 s.a, .int .i64 s.b, .slice b n cap']] W fun e w' => e = .returned (.bool true) ∧ Below W.heap.size W w') := fun W hW => lEqSegment s a b n cap cap' W hl (ha.below (Nat.le_refl _) hW) (hb.below (Nat.le_refl _) hW) hn
  clear ha hb
  go_enter Try.func26, Try.ntmps26
  go_wp2_with fail
  refine (HC.out _ (by go_grown)).mono ?_
  rintro e w1 ⟨rfl, hb1⟩
  go_wp2_with fail
  go_ret
  exact ⟨rfl, Below.trans (by go_grown) (hb1.mono (by simp; omega))⟩
set_option maxHeartbeats 1000000 in
theorem lMarkSegmentResult (k : Int) (s : Seg) (base : Nat) (v : Value) (c : Int) (w : World) (ho : OB w base v s.load) (hn : s.load.length ≤ 1073741824) (hc0 : 0 ≤ c) (hc1 : c ≤ 4611686018427387904) :
    Calls Try.prog 29 #[.agg #[.int .i64 k, .int .i64 s.path, .int .i64 s.frm, .bool s.syn, .bool s.ackd, .bool s.rst, .int .i64 s.seq, .int .i64 s.ack, .int .i64 s.fin, .int .i64 s.opt, .int .i64 s.a, .int .i64 s.b, v], .int .i64 c] w fun e w' => e = .returned (.int .i64 (c + s.load.length)) ∧ OB w' base v (marks c s.load.length) ∧ w.grownBy w' v.ownBlock := by
  obtain ⟨a, cap, rfl, _⟩ := ho.rb
  go_enter Try.func29, Try.ntmps29
  go_wp2_with fail
  refine (lMarkSegment s base _ c _ (ho.below (Nat.le_refl _) (by go_grown)) hn hc0 hc1).mono ?_
  rintro e w1 ⟨rfl, ho1, hg1⟩
  go_wp2_with fail
  go_ret
  refine ⟨rfl, ho1, ?_⟩
  have h0 := World.grownBy_alloc w (.cells #[.int .i64 k, .int .i64 s.path, .int .i64 s.frm, .bool s.syn, .bool s.ackd, .bool s.rst, .int .i64 s.seq, .int .i64 s.ack, .int .i64 s.fin, .int .i64 s.opt, .int .i64 s.a, .int .i64 s.b, .slice a s.load.length cap] 43) ((Value.slice a s.load.length cap).ownBlock)
  exact ⟨hg1.os.trans h0.os, hg1.tape.trans h0.tape, hg1.output.trans h0.output, Nat.le_trans h0.size hg1.size, fun j hj hne => (hg1.block j (Nat.lt_of_lt_of_le hj h0.size) hne).trans (h0.block j hj hne)⟩
set_option maxHeartbeats 1000000 in
theorem lHeldSegmentResult (k : Int) (s : Seg) (a : Option Addr) (n cap : Nat) (c : Int) (w : World) (ha : RB w a (marks c n)) (hn : n ≤ 1073741824) (hc0 : 0 ≤ c) (hc1 : c ≤ 4611686018427387904) :
    Calls Try.prog 30 #[.agg #[.int .i64 k, .int .i64 s.path, .int .i64 s.frm, .bool s.syn, .bool s.ackd, .bool s.rst, .int .i64 s.seq, .int .i64 s.ack, .int .i64 s.fin, .int .i64 s.opt, .int .i64 s.a, .int .i64 s.b, .slice a n cap], .int .i64 c] w fun e w' => e = .returned (.int .i64 (c + n)) ∧ Below w.heap.size w w' := by
  go_enter Try.func30, Try.ntmps30
  go_wp2_with fail
  refine (lHeldSegment s a n cap c _ (ha.below (Nat.le_refl _) (by go_grown)) hn hc0 hc1).mono ?_
  rintro e w1 ⟨rfl, hb1⟩
  have h2 : 0 ≤ c + (n : Int) := by omega
  go_wp2_with fail
  go_ret
  exact ⟨rfl, Below.trans (by go_grown) (hb1.mono (by simp))⟩
end Go.Proofs.Ytmiomnpfjigojah
