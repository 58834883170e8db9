/- What the functions on numbers that go round answer, of the program and of its model; each leaves memory as it was; no condition. -/
import Derived.Test.YtdcbkphaoeckmagRows
import Derived.Test.YtdcbkphaoeckmagNum
import Derived.ProofKit
namespace Go.Proofs.Ytdcbkphaoeckmag
open Go.RowKit

theorem iWrap (n : Int) (w : World) :
    Calls Try.prog 9 #[.int .i64 n] w fun e w' => e = .returned (.int .i64 (wrp n)) ∧ w' = w := by
  go_enter Try.func9, Try.ntmps9
  go_wp2
  go_ret
  exact ⟨ret_int (wrp_w16 n), rfl⟩
theorem sWrap (n : Int) (w : World) :
    Calls Try.prog 8 #[.int .i64 n] w fun e w' => e = .returned (.int .i64 (wrp n)) ∧ w' = w := by
  go_enter Try.func8, Try.ntmps8
  go_wp2
  go_ret
  exact ⟨ret_int (wrp_w16 n), rfl⟩
theorem iAdd (a n : Int) (w : World) :
    Calls Try.prog 11 #[.int .i64 a, .int .i64 n] w fun e w' => e = .returned (.int .i64 (wrp (a + n))) ∧ w' = w := by
  go_enter Try.func11, Try.ntmps11
  go_wp2
  go_ret
  exact ⟨ret_int (add_16 a n), rfl⟩
theorem sAdd (a n : Int) (w : World) :
    Calls Try.prog 10 #[.int .i64 a, .int .i64 n] w fun e w' => e = .returned (.int .i64 (wrp (a + n))) ∧ w' = w := by
  go_enter Try.func10, Try.ntmps10
  go_wp2
  go_ret
  exact ⟨ret_int (by simp only [IntKind.wrap_u16, wrp]; unfold wrap64; omega), rfl⟩
theorem iSteps (a b : Int) (w : World) :
    Calls Try.prog 18 #[.int .i64 a, .int .i64 b] w fun e w' => e = .returned (.int .i64 (stp a b)) ∧ w' = w := by
  go_enter Try.func18, Try.ntmps18
  go_wp2
  go_ret
  exact ⟨ret_int (sub_16 a b), rfl⟩
theorem iAhead (a b : Int) (w : World) :
    Calls Try.prog 13 #[.int .i64 a, .int .i64 b] w fun e w' => e = .returned (.int .i64 (ahd a b)) ∧ w' = w := by
  have hb := stp_bd a b
  by_cases h : 32768 ≤ stp a b
  · go_enter Try.func13, Try.ntmps13
    go_wp2_with (go_at_call 18; refine (iSteps _ _ _).mono ?_; rintro e w' ⟨rfl, rfl⟩)
    go_ret
    exact ⟨ret_int (ahd_hi h), rfl⟩
  · go_enter Try.func13, Try.ntmps13
    go_wp2_with (go_at_call 18; refine (iSteps _ _ _).mono ?_; rintro e w' ⟨rfl, rfl⟩)
    go_ret
    exact ⟨ret_int (ahd_lo (by omega)), rfl⟩
theorem sAhead (a b : Int) (w : World) :
    Calls Try.prog 12 #[.int .i64 a, .int .i64 b] w fun e w' => e = .returned (.int .i64 (ahd a b)) ∧ w' = w := by
  go_enter Try.func12, Try.ntmps12
  go_wp2
  go_ret
  exact ⟨ret_int (ahd_16 a b), rfl⟩
theorem iIsAhead (a b : Int) (w : World) :
    Calls Try.prog 15 #[.int .i64 a, .int .i64 b] w fun e w' => e = .returned (.bool (decide (0 < ahd a b))) ∧ w' = w := by
  go_enter Try.func15, Try.ntmps15
  go_wp2_with (go_at_call 13; refine (iAhead _ _ _).mono ?_; rintro e w' ⟨rfl, rfl⟩)
  go_ret
  exact ⟨rfl, rfl⟩
theorem sIsAhead (a b : Int) (w : World) :
    Calls Try.prog 14 #[.int .i64 a, .int .i64 b] w fun e w' => e = .returned (.bool (decide (0 < ahd a b))) ∧ w' = w := by
  go_enter Try.func14, Try.ntmps14
  go_wp2_with (go_at_call 12; refine (sAhead _ _ _).mono ?_; rintro e w' ⟨rfl, rfl⟩)
  go_ret
  exact ⟨rfl, rfl⟩
theorem iInSpan (a from_ size : Int) (w : World) :
    Calls Try.prog 17 #[.int .i64 a, .int .i64 from_, .int .i64 size] w fun e w' => e = .returned (.bool (decide (stp from_ a < size))) ∧ w' = w := by
  go_enter Try.func17, Try.ntmps17
  go_wp2_with (go_at_call 18; refine (iSteps _ _ _).mono ?_; rintro e w' ⟨rfl, rfl⟩)
  go_ret
  exact ⟨rfl, rfl⟩
theorem sInSpan (a from_ size : Int) (w : World) :
    Calls Try.prog 16 #[.int .i64 a, .int .i64 from_, .int .i64 size] w fun e w' => e = .returned (.bool (decide (stp from_ a < size))) ∧ w' = w := by
  go_enter Try.func16, Try.ntmps16
  go_wp2
  go_ret
  refine ⟨ret_bool ?_, rfl⟩
  have e : wrap64 (IntKind.u16.wrap (wrap64 (wrap64 (IntKind.u16.wrap a) - wrap64 (IntKind.u16.wrap from_)))) = stp from_ a := by
    simp only [IntKind.wrap_u16, stp]; unfold wrap64; omega
  rw [e]
end Go.Proofs.Ytdcbkphaoeckmag
