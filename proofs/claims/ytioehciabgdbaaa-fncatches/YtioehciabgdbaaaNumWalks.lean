/- What the functions on numbers that go round answer, of the program and of its model; each leaves memory as it was; no condition. -/
import Derived.Test.YtioehciabgdbaaaRows
import Derived.Test.YtioehciabgdbaaaNum
import Derived.ProofKit
namespace Go.Proofs.Ytioehciabgdbaaa
open Go.RowKit

theorem sWrap (n : Int) (w : World) :
    Calls Try.prog 138 #[.int .i64 n] w fun e w' => e = .returned (.int .i64 (wrp n)) ∧ w' = w := by
  go_enter Try.func138, Try.ntmps138
  go_wp2
  go_ret
  exact ⟨ret_int (wrp_w16 n), rfl⟩
theorem iAdd (a n : Int) (w : World) :
    Calls Try.prog 94 #[.int .i64 a, .int .i64 n] w fun e w' => e = .returned (.int .i64 (wrp (a + n))) ∧ w' = w := by
  go_enter Try.func94, Try.ntmps94
  go_wp2
  go_ret
  exact ⟨ret_int (add_16 a n), rfl⟩
theorem sAdd (a n : Int) (w : World) :
    Calls Try.prog 97 #[.int .i64 a, .int .i64 n] w fun e w' => e = .returned (.int .i64 (wrp (a + n))) ∧ w' = w := by
  go_enter Try.func97, Try.ntmps97
  go_wp2
  go_ret
  exact ⟨ret_int (by simp only [IntKind.wrap_u16, wrp]; unfold wrap64; omega), rfl⟩
theorem iSteps (a b : Int) (w : World) :
    Calls Try.prog 155 #[.int .i64 a, .int .i64 b] w fun e w' => e = .returned (.int .i64 (stp a b)) ∧ w' = w := by
  go_enter Try.func155, Try.ntmps155
  go_wp2
  go_ret
  exact ⟨ret_int (sub_16 a b), rfl⟩
theorem iAhead (a b : Int) (w : World) :
    Calls Try.prog 134 #[.int .i64 a, .int .i64 b] w fun e w' => e = .returned (.int .i64 (ahd a b)) ∧ w' = w := by
  have hb := stp_bd a b
  by_cases h : 32768 ≤ stp a b
  · go_enter Try.func134, Try.ntmps134
    go_wp2_with (go_at_call 155; refine (iSteps _ _ _).mono ?_; rintro e w' ⟨rfl, rfl⟩)
    go_ret
    exact ⟨ret_int (ahd_hi h), rfl⟩
  · go_enter Try.func134, Try.ntmps134
    go_wp2_with (go_at_call 155; refine (iSteps _ _ _).mono ?_; rintro e w' ⟨rfl, rfl⟩)
    go_ret
    exact ⟨ret_int (ahd_lo (by omega)), rfl⟩
theorem sAhead (a b : Int) (w : World) :
    Calls Try.prog 187 #[.int .i64 a, .int .i64 b] w fun e w' => e = .returned (.int .i64 (ahd a b)) ∧ w' = w := by
  go_enter Try.func187, Try.ntmps187
  go_wp2
  go_ret
  exact ⟨ret_int (ahd_16 a b), rfl⟩
end Go.Proofs.Ytioehciabgdbaaa
