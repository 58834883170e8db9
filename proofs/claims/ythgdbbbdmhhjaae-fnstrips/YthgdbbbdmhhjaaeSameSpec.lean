/- What SameSegment answers, of the program and of its model; nothing that was in memory turns; no condition. -/
import Derived.Test.YthgdbbbdmhhjaaeRows
import Derived.Test.YthgdbbbdmhhjaaeBase
import Derived.Test.YthgdbbbdmhhjaaeBytes
import Derived.Test.YthgdbbbdmhhjaaeSeg
import Derived.Test.YthgdbbbdmhhjaaeStr
import Derived.Test.YthgdbbbdmhhjaaeSameDef
import Derived.BigGuardPart
namespace Go.Proofs.Ythgdbbbdmhhjaae
open Go.RowKit
set_option linter.unusedVariables false

set_option maxHeartbeats 10000000 in
theorem sSame (s t : Seg) (a b : Option Addr) (n m cap cap' : Nat) (w : World) (hl : s.load.length = n) (hl' : t.load.length = m) (ha : RB w a s.load) (hb : RB w b t.load) :
    Calls Try.prog 8 #[.agg #[.int .i64 s.path, .int .i64 s.frm, .bool s.syn, .bool s.ackd, .bool s.rst, .int .i64 s.seq, .int .i64 s.ack, .int .i64 s.fin, .int .i64 s.opt, .int .i64 s.a, .int .i64 s.b, .slice a n cap], .agg #[.int .i64 t.path, .int .i64 t.frm, .bool t.syn, .bool t.ackd, .bool t.rst, .int .i64 t.seq, .int .i64 t.ack, .int .i64 t.fin, .int .i64 t.opt, .int .i64 t.a, .int .i64 t.b, .slice b m cap']] w fun e w' => e = .returned (.bool (sameS s t (eqS s.load t.load))) ∧ Below w.heap.size w w' := by
  have h1 : ∀ o1 o2, (convert 22 9 (.slice a n cap)).run Try.prog ((w.alloc o1).alloc o2) = .ok (.string (strOfNums s.load)) ((w.alloc o1).alloc o2) := fun o1 o2 => cv_str a n cap s.load _ hl (ha.below (Nat.le_refl _) (by go_grown))
  have h2 : ∀ o1 o2, (convert 22 9 (.slice b m cap')).run Try.prog ((w.alloc o1).alloc o2) = .ok (.string (strOfNums t.load)) ((w.alloc o1).alloc o2) := fun o1 o2 => cv_str b m cap' t.load _ hl' (hb.below (Nat.le_refl _) (by go_grown))
  clear ha hb
  go_enter Try.func8, Try.ntmps8
  go_wp2
  all_goals (go_ret; exact ⟨ret_bool (by simp [sameS, eqS, *]), by go_grown⟩)
end Go.Proofs.Ythgdbbbdmhhjaae
