/- What the functions on numbers that go round answer, of the program and of its model; each leaves memory as it was; no condition. -/
import Derived.Test.YtldddkdpoeeomaaRows
import Derived.Test.YtldddkdpoeeomaaNum
import Derived.ProofKit
namespace Go.Proofs.Ytldddkdpoeeomaa
open Go.RowKit

theorem sWrap (n : Int) (w : World) :
    Calls Try.prog 101 #[.int .i64 n] w fun e w' => e = .returned (.int .i64 (wrp n)) ∧ w' = w := by
  go_enter Try.func101, Try.ntmps101
  go_wp2
  go_ret
  exact ⟨ret_int (wrp_w16 n), rfl⟩
theorem iAdd (a n : Int) (w : World) :
    Calls Try.prog 61 #[.int .i64 a, .int .i64 n] w fun e w' => e = .returned (.int .i64 (wrp (a + n))) ∧ w' = w := by
  go_enter Try.func61, Try.ntmps61
  go_wp2
  go_ret
  exact ⟨ret_int (add_16 a n), rfl⟩
theorem sAdd (a n : Int) (w : World) :
    Calls Try.prog 66 #[.int .i64 a, .int .i64 n] w fun e w' => e = .returned (.int .i64 (wrp (a + n))) ∧ w' = w := by
  go_enter Try.func66, Try.ntmps66
  go_wp2
  go_ret
  exact ⟨ret_int (by simp only [IntKind.wrap_u16, wrp]; unfold wrap64; omega), rfl⟩
theorem iSteps (a b : Int) (w : World) :
    Calls Try.prog 112 #[.int .i64 a, .int .i64 b] w fun e w' => e = .returned (.int .i64 (stp a b)) ∧ w' = w := by
  go_enter Try.func112, Try.ntmps112
  go_wp2
  go_ret
  exact ⟨ret_int (sub_16 a b), rfl⟩
theorem iAhead (a b : Int) (w : World) :
    Calls Try.prog 99 #[.int .i64 a, .int .i64 b] w fun e w' => e = .returned (.int .i64 (ahd a b)) ∧ w' = w := by
  have hb := stp_bd a b
  by_cases h : 32768 ≤ stp a b
  · go_enter Try.func99, Try.ntmps99
    go_wp2_with (go_at_call 112; refine (iSteps _ _ _).mono ?_; rintro e w' ⟨rfl, rfl⟩)
    go_ret
    exact ⟨ret_int (ahd_hi h), rfl⟩
  · go_enter Try.func99, Try.ntmps99
    go_wp2_with (go_at_call 112; refine (iSteps _ _ _).mono ?_; rintro e w' ⟨rfl, rfl⟩)
    go_ret
    exact ⟨ret_int (ahd_lo (by omega)), rfl⟩
theorem sAhead (a b : Int) (w : World) :
    Calls Try.prog 113 #[.int .i64 a, .int .i64 b] w fun e w' => e = .returned (.int .i64 (ahd a b)) ∧ w' = w := by
  go_enter Try.func113, Try.ntmps113
  go_wp2
  go_ret
  exact ⟨ret_int (ahd_16 a b), rfl⟩
end Go.Proofs.Ytldddkdpoeeomaa
