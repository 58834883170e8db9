/- What the functions on numbers that go round answer, of the program and of its model; each leaves memory as it was; no condition. -/
import Derived.Test.YtmiomnpfjigojahRows
import Derived.Test.YtmiomnpfjigojahNum
import Derived.ProofKit
namespace Go.Proofs.Ytmiomnpfjigojah
open Go.RowKit

theorem iWrap (n : Int) (w : World) :
    Calls Try.prog 54 #[.int .i64 n] w fun e w' => e = .returned (.int .i64 (wrp n)) ∧ w' = w := by
  go_enter Try.func54, Try.ntmps54
  go_wp2
  go_ret
  exact ⟨ret_int (wrp_w16 n), rfl⟩
theorem sWrap (n : Int) (w : World) :
    Calls Try.prog 52 #[.int .i64 n] w fun e w' => e = .returned (.int .i64 (wrp n)) ∧ w' = w := by
  go_enter Try.func52, Try.ntmps52
  go_wp2
  go_ret
  exact ⟨ret_int (wrp_w16 n), rfl⟩
theorem iSteps (a b : Int) (w : World) :
    Calls Try.prog 56 #[.int .i64 a, .int .i64 b] w fun e w' => e = .returned (.int .i64 (stp a b)) ∧ w' = w := by
  go_enter Try.func56, Try.ntmps56
  go_wp2
  go_ret
  exact ⟨ret_int (sub_16 a b), rfl⟩
theorem iAhead (a b : Int) (w : World) :
    Calls Try.prog 37 #[.int .i64 a, .int .i64 b] w fun e w' => e = .returned (.int .i64 (ahd a b)) ∧ w' = w := by
  have hb := stp_bd a b
  by_cases h : 32768 ≤ stp a b
  · go_enter Try.func37, Try.ntmps37
    go_wp2_with (go_at_call 56; refine (iSteps _ _ _).mono ?_; rintro e w' ⟨rfl, rfl⟩)
    go_ret
    exact ⟨ret_int (ahd_hi h), rfl⟩
  · go_enter Try.func37, Try.ntmps37
    go_wp2_with (go_at_call 56; refine (iSteps _ _ _).mono ?_; rintro e w' ⟨rfl, rfl⟩)
    go_ret
    exact ⟨ret_int (ahd_lo (by omega)), rfl⟩
theorem sAhead (a b : Int) (w : World) :
    Calls Try.prog 36 #[.int .i64 a, .int .i64 b] w fun e w' => e = .returned (.int .i64 (ahd a b)) ∧ w' = w := by
  go_enter Try.func36, Try.ntmps36
  go_wp2
  go_ret
  exact ⟨ret_int (ahd_16 a b), rfl⟩
end Go.Proofs.Ytmiomnpfjigojah
