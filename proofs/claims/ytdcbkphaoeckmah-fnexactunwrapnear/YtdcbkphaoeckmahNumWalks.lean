/- What the functions on numbers that go round answer, of the program and of its model; each leaves memory as it was; no condition. -/
import Derived.Test.YtdcbkphaoeckmahRows
import Derived.Test.YtdcbkphaoeckmahNum
import Derived.ProofKit
namespace Go.Proofs.Ytdcbkphaoeckmah
open Go.RowKit

theorem sWrap (n : Int) (w : World) :
    Calls Try.prog 10 #[.int .i64 n] w fun e w' => e = .returned (.int .i64 (wrp n)) ∧ w' = w := by
  go_enter Try.func10, Try.ntmps10
  go_wp2
  go_ret
  exact ⟨ret_int (wrp_w16 n), rfl⟩
theorem iSteps (a b : Int) (w : World) :
    Calls Try.prog 11 #[.int .i64 a, .int .i64 b] w fun e w' => e = .returned (.int .i64 (stp a b)) ∧ w' = w := by
  go_enter Try.func11, Try.ntmps11
  go_wp2
  go_ret
  exact ⟨ret_int (sub_16 a b), rfl⟩
theorem iAhead (a b : Int) (w : World) :
    Calls Try.prog 9 #[.int .i64 a, .int .i64 b] w fun e w' => e = .returned (.int .i64 (ahd a b)) ∧ w' = w := by
  have hb := stp_bd a b
  by_cases h : 32768 ≤ stp a b
  · go_enter Try.func9, Try.ntmps9
    go_wp2_with (go_at_call 11; refine (iSteps _ _ _).mono ?_; rintro e w' ⟨rfl, rfl⟩)
    go_ret
    exact ⟨ret_int (ahd_hi h), rfl⟩
  · go_enter Try.func9, Try.ntmps9
    go_wp2_with (go_at_call 11; refine (iSteps _ _ _).mono ?_; rintro e w' ⟨rfl, rfl⟩)
    go_ret
    exact ⟨ret_int (ahd_lo (by omega)), rfl⟩
theorem sAhead (a b : Int) (w : World) :
    Calls Try.prog 8 #[.int .i64 a, .int .i64 b] w fun e w' => e = .returned (.int .i64 (ahd a b)) ∧ w' = w := by
  go_enter Try.func8, Try.ntmps8
  go_wp2
  go_ret
  exact ⟨ret_int (ahd_16 a b), rfl⟩
end Go.Proofs.Ytdcbkphaoeckmah
