/- What finding a number near its place answers, of the program and of its model: a code and a value; nothing that was in memory turns; no condition. -/
import Derived.Test.YtioehciabgdbaaaRows
import Derived.Test.YtioehciabgdbaaaNum
import Derived.Test.YtioehciabgdbaaaNumWalks
import Derived.ProofKit
import Derived.Handy
import Derived.Below
namespace Go.Proofs.Ytioehciabgdbaaa
open Go.RowKit

/-- The code of finding a near near. -/
def unwC (a near : Int) : Int := if near < 0 ∨ 1000000000 < near then 3 else if near + ahd near a < 0 then 4 else 0
/-- The value of finding a near near. -/
def unwV (a near : Int) : Int := if near < 0 ∨ 1000000000 < near then 0 else if near + ahd near a < 0 then 0 else near + ahd near a

theorem unw_out {a near : Int} (h : near < 0 ∨ 1000000000 < near) : unwC a near = 3 ∧ unwV a near = 0 := by
  unfold unwC unwV; rw [if_pos h, if_pos h]; exact ⟨rfl, rfl⟩
theorem unw_neg {a near : Int} (h0 : 0 ≤ near) (h1 : near ≤ 1000000000) (h : near + ahd near a < 0) : unwC a near = 4 ∧ unwV a near = 0 := by
  have hn : ¬ (near < 0 ∨ 1000000000 < near) := by omega
  unfold unwC unwV; rw [if_neg hn, if_neg hn, if_pos h, if_pos h]; exact ⟨rfl, rfl⟩
theorem unw_in {a near : Int} (h0 : 0 ≤ near) (h1 : near ≤ 1000000000) (h : 0 ≤ near + ahd near a) : unwC a near = 0 ∧ unwV a near = near + ahd near a := by
  have hn : ¬ (near < 0 ∨ 1000000000 < near) := by omega
  have hm : ¬ (near + ahd near a < 0) := by omega
  unfold unwC unwV; rw [if_neg hn, if_neg hn, if_neg hm, if_neg hm]; exact ⟨rfl, rfl⟩

theorem ret_pair {c v c' v' : Int} (hc : c = c') (hv : v = v') : Ending.returned (.agg #[.int .i64 c, .int .i64 v]) = .returned (.agg #[.int .i64 c', .int .i64 v']) := by rw [hc, hv]

theorem sIn (v low high : Int) (w : World) :
    Calls Try.prog 90 #[.int .i64 v, .int .i64 low, .int .i64 high] w fun e w' => e = .returned (.bool (decide (low ≤ v) && decide (v ≤ high))) ∧ w' = w := by
  by_cases h : low ≤ v
  · go_enter Try.func90, Try.ntmps90
    go_wp2
    go_ret
    exact ⟨ret_bool (by simp [h]), rfl⟩
  · have h' : decide (low ≤ v) = false := by simp; omega
    go_enter Try.func90, Try.ntmps90
    go_wp2
    go_ret
    exact ⟨ret_bool (by simp), rfl⟩

theorem iUnwrap (a near : Int) (w : World) :
    Calls Try.prog 93 #[.int .i64 a, .int .i64 near] w fun e w' =>
      e = .returned (.agg #[.int .i64 (unwC a near), .int .i64 (unwV a near)]) ∧ Below w.heap.size w w' := by
  have hb := ahd_bd near a
  by_cases h0 : near < 0
  · obtain ⟨ec, ev⟩ := unw_out (a := a) (Or.inl h0)
    rw [ec, ev]; clear ec ev
    go_enter Try.func93, Try.ntmps93
    go_wp2
    go_returns
    exact ⟨rfl, by go_grown⟩
  · by_cases h1 : 1000000000 < near
    · obtain ⟨ec, ev⟩ := unw_out (a := a) (Or.inr h1)
      rw [ec, ev]; clear ec ev
      go_enter Try.func93, Try.ntmps93
      go_wp2
      go_returns
      exact ⟨rfl, by go_grown⟩
    · by_cases h2 : near + ahd near a < 0
      · obtain ⟨ec, ev⟩ := unw_neg (a := a) (near := near) (by omega) (by omega) h2
        rw [ec, ev]; clear ec ev
        go_enter Try.func93, Try.ntmps93
        go_wp2_with (go_at_call 134; refine (iAhead _ _ _).mono ?_; rintro e w' ⟨rfl, rfl⟩)
        go_returns
        exact ⟨rfl, by go_grown⟩
      · obtain ⟨ec, ev⟩ := unw_in (a := a) (near := near) (by omega) (by omega) (by omega)
        rw [ec, ev]; clear ec ev
        go_enter Try.func93, Try.ntmps93
        go_wp2_with (go_at_call 134; refine (iAhead _ _ _).mono ?_; rintro e w' ⟨rfl, rfl⟩)
        go_returns
        exact ⟨rfl, by go_grown⟩

theorem sUnwrap (a near : Int) (w : World) :
    Calls Try.prog 167 #[.int .i64 a, .int .i64 near] w fun e w' =>
      e = .returned (.agg #[.int .i64 (unwC a near), .int .i64 (unwV a near)]) ∧ Below w.heap.size w w' := by
  have hb := ahd_bd near a
  by_cases h0 : near < 0 ∨ 1000000000 < near
  · obtain ⟨ec, ev⟩ := unw_out (a := a) h0
    rw [ec, ev]; clear ec ev
    have hin : (decide (0 ≤ near) && decide (near ≤ 1000000000)) = false := by simp; omega
    clear h0
    go_enter Try.func167, Try.ntmps167
    go_wp2_with (go_at_call 90; refine (sIn _ _ _ _).mono ?_; rintro e w' ⟨rfl, rfl⟩)
    go_returns
    exact ⟨rfl, by go_grown⟩
  · have hin : (decide (0 ≤ near) && decide (near ≤ 1000000000)) = true := by simp; omega
    have g0 : 0 ≤ near := by omega
    have g1 : near ≤ 1000000000 := by omega
    clear h0
    by_cases h2 : near + ahd near a < 0
    · obtain ⟨ec, ev⟩ := unw_neg (a := a) (near := near) (by omega) (by omega) h2
      rw [ec, ev]; clear ec ev
      go_enter Try.func167, Try.ntmps167
      go_wp2_with (first | (go_at_call 90; refine (sIn _ _ _ _).mono ?_; rintro e w' ⟨rfl, rfl⟩) | (go_at_call 187; refine (sAhead _ _ _).mono ?_; rintro e w' ⟨rfl, rfl⟩))
      go_returns
      exact ⟨rfl, by go_grown⟩
    · obtain ⟨ec, ev⟩ := unw_in (a := a) (near := near) (by omega) (by omega) (by omega)
      rw [ec, ev]; clear ec ev
      go_enter Try.func167, Try.ntmps167
      go_wp2_with (first | (go_at_call 90; refine (sIn _ _ _ _).mono ?_; rintro e w' ⟨rfl, rfl⟩) | (go_at_call 187; refine (sAhead _ _ _).mono ?_; rintro e w' ⟨rfl, rfl⟩))
      go_returns
      exact ⟨rfl, by go_grown⟩
end Go.Proofs.Ytioehciabgdbaaa
