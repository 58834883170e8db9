/- What SameSegment answers, of the program and of its model; nothing that was in memory turns; no condition. -/
import Derived.Test.YtebgibjokljlbaaRows
import Derived.BigGuardPart
import Derived.Test.YtebgibjokljlbaaK01
import Derived.Test.YtebgibjokljlbaaK43
import Derived.Test.YtebgibjokljlbaaK60
namespace Go.Proofs.Ytebgibjokljlbaa
open Go.RowKit
set_option linter.unusedVariables false

/-- The two segments are the same but for their loads, and e. -/
def sameS (s t : Seg) (e : Bool) : Bool :=
  s.path == t.path && s.frm == t.frm && s.syn == t.syn && s.ackd == t.ackd && s.rst == t.rst && s.seq == t.seq && s.ack == t.ack && s.fin == t.fin && s.opt == t.opt && s.a == t.a && s.b == t.b && e

end Go.Proofs.Ytebgibjokljlbaa

/- What SameSegment answers, of the program and of its model; nothing that was in memory turns; no condition. -/
namespace Go.Proofs.Ytebgibjokljlbaa
open Go.RowKit
set_option linter.unusedVariables false

set_option maxRecDepth 8000 in
set_option maxHeartbeats 10000000 in
theorem iSame (s t : Seg) (a b : Option Addr) (n m cap cap' : Nat) (w : World) (hl : s.load.length = n) (hl' : t.load.length = m) (ha : RB w a s.load) (hb : RB w b t.load) :
    Calls Try.prog 27 #[.agg #[.int .i64 s.path, .int .i64 s.frm, .bool s.syn, .bool s.ackd, .bool s.rst, .int .i64 s.seq, .int .i64 s.ack, .int .i64 s.fin, .int .i64 s.opt, .int .i64 s.a, .int .i64 s.b, .slice a n cap], .agg #[.int .i64 t.path, .int .i64 t.frm, .bool t.syn, .bool t.ackd, .bool t.rst, .int .i64 t.seq, .int .i64 t.ack, .int .i64 t.fin, .int .i64 t.opt, .int .i64 t.a, .int .i64 t.b, .slice b m cap']] w fun e w' => e = .returned (.bool (sameS s t (eqS s.load t.load))) ∧ Below w.heap.size w w' := by
  have h1 : ∀ W, Below w.heap.size w W → Calls Try.prog 74 #[.slice a n cap, .slice b m cap'] W fun e w' => e = .returned (.bool (eqS s.load t.load)) ∧ w' = W := fun W hW => bEqual a b n m cap cap' s.load t.load W hl hl' (ha.below (Nat.le_refl _) hW) (hb.below (Nat.le_refl _) hW)
  have HC : Hid _ := h1
  clear ha hb h1
  go_enter Try.func27, Try.ntmps27
  go_wp2_with (go_at_call 74; refine (HC.out _ (by go_grown)).mono ?_; rintro e w' ⟨rfl, hw⟩; subst w')
  all_goals (go_ret; exact ⟨ret_bool (by simp [sameS, eqS, *]), by go_grown⟩)
end Go.Proofs.Ytebgibjokljlbaa
