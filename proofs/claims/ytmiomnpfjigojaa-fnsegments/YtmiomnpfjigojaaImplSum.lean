/- What the program's own SumBytes answers; nothing that was in memory turns; no condition but on lengths. -/
import Derived.Test.YtmiomnpfjigojaaRows
import Derived.Test.YtmiomnpfjigojaaBase
import Derived.Test.YtmiomnpfjigojaaBytes
import Derived.Test.YtmiomnpfjigojaaAppBytes
import Derived.Test.YtmiomnpfjigojaaSpecPack
namespace Go.Proofs.Ytmiomnpfjigojaa
open Go.RowKit
set_option linter.unusedVariables false

set_option maxHeartbeats 400000 in
theorem iSumBytes (a : Option Addr) (n cap : Nat) (l : List Int) (w : World) (hl : l.length = n) (hr : RB w a l) (hn : n ≤ 281474976710656) :
    Calls Try.prog 63 #[.slice a n cap] w fun e w' => e = .returned (.int .i64 (sumB l)) ∧ w' = w := by
  go_enter Try.func63, Try.ntmps63
  go_wp2
  go_loop [3, 4, 9] (fun h s i => ∃ k : Nat, k ≤ n ∧ i = .int .i64 k ∧ h = .int .i64 (sumFold (l.take k)).1 ∧ s = .int .i64 (sumFold (l.take k)).2) (fun _ _ i => n - (intOf i).toNat)
  case atStart => exact ⟨0, Nat.zero_le _, rfl, rfl, rfl⟩
  case round =>
    obtain ⟨k, hk, rfl, rfl, rfl⟩ := hrel
    by_cases hlt : k < n
    · rcases hr.mem with e | ⟨b, off, rfl, hc⟩
      · subst e; simp at hl; omega
      · have ck := hc k (by omega)
        have bk := getD_bd hr.bd k (by omega)
        have fb := sumFold_bd (l.take k)
        have HS : Hid _ := sumFold_succ l k (by omega)
        clear hc hr
        generalize l.getD k 0 = x at *
        generalize sumFold (l.take k) = p at *
        obtain ⟨p1, p2⟩ := p
        simp only at fb ⊢
        go_wp2
        go_round
        case rel => exact ⟨k + 1, by omega, by go_num, by rw [HS.out]; rfl, by rw [HS.out]; rfl⟩
        case measure => simp [intOf]; omega
    · obtain rfl : k = n := by omega
      have fb := sumFold_bd (l.take k)
      clear hr
      go_wp2
      go_ret
      refine ⟨ret_int ?_, rfl⟩
      rw [List.take_of_length_le (by omega)]
      rfl
end Go.Proofs.Ytmiomnpfjigojaa
