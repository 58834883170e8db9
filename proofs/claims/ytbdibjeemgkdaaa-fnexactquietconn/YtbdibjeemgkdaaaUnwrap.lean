/- What finding a number near its place answers, of the program and of its model: a code and a value; nothing that was in memory turns; no condition. -/
import Derived.Test.YtbdibjeemgkdaaaRows
import Derived.Test.YtbdibjeemgkdaaaNum
import Derived.Test.YtbdibjeemgkdaaaNumWalks
import Derived.ProofKit
import Derived.Handy
import Derived.Below
namespace Go.Proofs.Ytbdibjeemgkdaaa
open Go.RowKit

/-- The code of finding a near near. -/
def unwC (a near : Int) : Int := if near < 0 ∨ 1000000000 < near then 3 else if near + ahd near a < 0 then 4 else 0
/-- The value of finding a near near. -/
def unwV (a near : Int) : Int := if near < 0 ∨ 1000000000 < near then 0 else if near + ahd near a < 0 then 0 else near + ahd near a

theorem unw_out {a near : Int} (h : near < 0 ∨ 1000000000 < near) : unwC a near = 3 ∧ unwV a near = 0 := by
  unfold unwC unwV; rw [if_pos h, if_pos h]; exact ⟨rfl, rfl⟩
theorem unw_neg {a near : Int} (h0 : 0 ≤ near) (h1 : near ≤ 1000000000) (h : near + ahd near a < 0) : unwC a near = 4 ∧ unwV a near = 0 := by
  have hn : ¬ (near < 0 ∨ 1000000000 < near) := by omega
  unfold unwC unwV; rw [if_neg hn, if_neg hn, if_pos h, if_pos h]; exact ⟨rfl, rfl⟩
theorem unw_in {a near : Int} (h0 : 0 ≤ near) (h1 : near ≤ 1000000000) (h : 0 ≤ near + ahd near a) : unwC a near = 0 ∧ unwV a near = near + ahd near a := by
  have hn : ¬ (near < 0 ∨ 1000000000 < near) := by omega
  have hm : ¬ (near + ahd near a < 0) := by omega
  unfold unwC unwV; rw [if_neg hn, if_neg hn, if_neg hm, if_neg hm]; exact ⟨rfl, rfl⟩

theorem ret_pair {c v c' v' : Int} (hc : c = c') (hv : v = v') : Ending.returned (.agg #[.int .i64 c, .int .i64 v]) = .returned (.agg #[.int .i64 c', .int .i64 v']) := by rw [hc, hv]

theorem sIn (v low high : Int) (w : World) :
    Calls Try.prog 26 #[.int .i64 v, .int .i64 low, .int .i64 high] w fun e w' => e = .returned (.bool (decide (low ≤ v) && decide (v ≤ high))) ∧ w' = w := by
  by_cases h : low ≤ v
  · go_enter Try.func26, Try.ntmps26
    go_wp2
    go_ret
    exact ⟨ret_bool (by simp [h]), rfl⟩
  · have h' : decide (low ≤ v) = false := by simp; omega
    go_enter Try.func26, Try.ntmps26
    go_wp2
    go_ret
    exact ⟨ret_bool (by simp), rfl⟩

end Go.Proofs.Ytbdibjeemgkdaaa
