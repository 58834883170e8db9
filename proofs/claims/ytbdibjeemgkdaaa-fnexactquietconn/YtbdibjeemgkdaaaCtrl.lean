/- What the program and its model answer of controls: their faults, what is started, cut and falls; nothing that was in memory turns; no condition. -/
import Derived.Test.YtbdibjeemgkdaaaRows
import Derived.Test.YtbdibjeemgkdaaaBase
import Derived.Test.YtbdibjeemgkdaaaBox
namespace Go.Proofs.Ytbdibjeemgkdaaa
open Go.RowKit
set_option linter.unusedVariables false

/-- v is lo to hi. -/
def inB (v lo hi : Int) : Bool := decide (lo ≤ v) && decide (v ≤ hi)
theorem inB_yes {v lo hi : Int} (h : inB v lo hi = true) : lo ≤ v ∧ v ≤ hi := by unfold inB at h; simpa using h
def winB (v : Int) : Bool := inB v 8 64
theorem winB_yes {v : Int} (h : winB v = true) : 8 ≤ v ∧ v ≤ 64 := inB_yes h
theorem winB_mk {v : Int} (h1 : 8 ≤ v) (h2 : v ≤ 64) : winB v = true := by unfold winB inB; simp [h1, h2]
/-- The fault of a control. -/
def ctF (a b p : Int) : Int := if (winB a && inB b 0 64 && inB p 0 63) = true then 0 else 3
theorem ctF_ok {a b p : Int} (h : ctF a b p = 0) : (8 ≤ a ∧ a ≤ 64) ∧ (0 ≤ b ∧ b ≤ 64) ∧ 0 ≤ p ∧ p ≤ 63 := by
  unfold ctF at h
  split at h
  · rename_i h2
    simp only [Bool.and_eq_true] at h2
    exact ⟨winB_yes h2.1.1, inB_yes h2.1.2, inB_yes h2.2⟩
  · cases h
theorem ctF_mk {a b p : Int} (h1 : 8 ≤ a) (h2 : a ≤ 64) (h3 : 0 ≤ b) (h4 : b ≤ 64) (h5 : 0 ≤ p) (h6 : p ≤ 63) : ctF a b p = 0 := by
  unfold ctF; rw [if_pos]; simp [winB, inB, *]
theorem ctF_two (a b p : Int) : ctF a b p = 0 ∨ ctF a b p = 3 := by unfold ctF; split <;> simp
def halfW (a : Int) : Int := max 8 (a / 2)

theorem iInB (v low high : Int) (w : World) :
    Calls Try.prog 50 #[.int .i64 v, .int .i64 low, .int .i64 high] w fun e w' => e = .returned (.bool (inB v low high)) ∧ w' = w := by
  by_cases h : low ≤ v
  · go_enter Try.func50, Try.ntmps50
    go_wp2
    go_ret
    exact ⟨ret_bool (by simp [inB, h]), rfl⟩
  · have h' : decide (low ≤ v) = false := by simp; omega
    go_enter Try.func50, Try.ntmps50
    go_wp2
    go_ret
    exact ⟨ret_bool (by simp [inB]; omega), rfl⟩
theorem sInB (v low high : Int) (w : World) :
    Calls Try.prog 26 #[.int .i64 v, .int .i64 low, .int .i64 high] w fun e w' => e = .returned (.bool (inB v low high)) ∧ w' = w := by
  by_cases h : low ≤ v
  · go_enter Try.func26, Try.ntmps26
    go_wp2
    go_ret
    exact ⟨ret_bool (by simp [inB, h]), rfl⟩
  · have h' : decide (low ≤ v) = false := by simp; omega
    go_enter Try.func26, Try.ntmps26
    go_wp2
    go_ret
    exact ⟨ret_bool (by simp [inB]; omega), rfl⟩
theorem iWinB (v : Int) (w : World) :
    Calls Try.prog 92 #[.int .i64 v] w fun e w' => e = .returned (.bool (winB v)) ∧ w' = w := by
  go_enter Try.func92, Try.ntmps92
  go_wp2_with (go_at_call 50; refine (iInB _ _ _ _).mono ?_; rintro e w' ⟨rfl, hw⟩; subst w')
  go_ret
  exact ⟨rfl, rfl⟩
theorem sWinB (v : Int) (w : World) :
    Calls Try.prog 85 #[.int .i64 v] w fun e w' => e = .returned (.bool (winB v)) ∧ w' = w := by
  go_enter Try.func85, Try.ntmps85
  go_wp2_with (go_at_call 26; refine (sInB _ _ _ _).mono ?_; rintro e w' ⟨rfl, hw⟩; subst w')
  go_ret
  exact ⟨rfl, rfl⟩
set_option maxHeartbeats 1000000 in
theorem iControlFault (a b p : Int) (w : World) :
    Calls Try.prog 77 #[.agg #[.int .i64 a, .int .i64 b, .int .i64 p]] w fun e w' => e = .returned (.int .i64 (ctF a b p)) ∧ Below w.heap.size w w' := by
  unfold ctF
  by_cases k1 : winB a = true
  · by_cases k2 : inB b 0 64 = true
    · by_cases k3 : inB p 0 63 = true
      · rw [if_pos (by simp [k1, k2, k3])]
        go_enter Try.func77, Try.ntmps77
        go_wp2_with (first | (go_at_call 92; refine (iWinB _ _).mono ?_; rintro e w' ⟨rfl, hw⟩; subst w') | (go_at_call 50; refine (iInB _ _ _ _).mono ?_; rintro e w' ⟨rfl, hw⟩; subst w'))
        go_ret
        exact ⟨rfl, by go_grown⟩
      · replace k3 : inB p 0 63 = false := by simpa using k3
        rw [if_neg (by simp [k3])]
        go_enter Try.func77, Try.ntmps77
        go_wp2_with (first | (go_at_call 92; refine (iWinB _ _).mono ?_; rintro e w' ⟨rfl, hw⟩; subst w') | (go_at_call 50; refine (iInB _ _ _ _).mono ?_; rintro e w' ⟨rfl, hw⟩; subst w'))
        go_ret
        exact ⟨rfl, by go_grown⟩
    · replace k2 : inB b 0 64 = false := by simpa using k2
      rw [if_neg (by simp [k2])]
      go_enter Try.func77, Try.ntmps77
      go_wp2_with (first | (go_at_call 92; refine (iWinB _ _).mono ?_; rintro e w' ⟨rfl, hw⟩; subst w') | (go_at_call 50; refine (iInB _ _ _ _).mono ?_; rintro e w' ⟨rfl, hw⟩; subst w'))
      go_ret
      exact ⟨rfl, by go_grown⟩
  · replace k1 : winB a = false := by simpa using k1
    rw [if_neg (by simp [k1])]
    go_enter Try.func77, Try.ntmps77
    go_wp2_with (first | (go_at_call 92; refine (iWinB _ _).mono ?_; rintro e w' ⟨rfl, hw⟩; subst w') | (go_at_call 50; refine (iInB _ _ _ _).mono ?_; rintro e w' ⟨rfl, hw⟩; subst w'))
    go_ret
    exact ⟨rfl, by go_grown⟩
set_option maxHeartbeats 1000000 in
theorem sControlFault (a b p : Int) (w : World) :
    Calls Try.prog 69 #[.agg #[.int .i64 a, .int .i64 b, .int .i64 p]] w fun e w' => e = .returned (.int .i64 (ctF a b p)) ∧ Below w.heap.size w w' := by
  unfold ctF
  by_cases k1 : winB a = true
  · by_cases k2 : inB b 0 64 = true
    · by_cases k3 : inB p 0 63 = true
      · rw [if_pos (by simp [k1, k2, k3])]
        go_enter Try.func69, Try.ntmps69
        go_wp2_with (first | (go_at_call 85; refine (sWinB _ _).mono ?_; rintro e w' ⟨rfl, hw⟩; subst w') | (go_at_call 26; refine (sInB _ _ _ _).mono ?_; rintro e w' ⟨rfl, hw⟩; subst w'))
        go_ret
        exact ⟨rfl, by go_grown⟩
      · replace k3 : inB p 0 63 = false := by simpa using k3
        rw [if_neg (by simp [k3])]
        go_enter Try.func69, Try.ntmps69
        go_wp2_with (first | (go_at_call 85; refine (sWinB _ _).mono ?_; rintro e w' ⟨rfl, hw⟩; subst w') | (go_at_call 26; refine (sInB _ _ _ _).mono ?_; rintro e w' ⟨rfl, hw⟩; subst w'))
        go_ret
        exact ⟨rfl, by go_grown⟩
    · replace k2 : inB b 0 64 = false := by simpa using k2
      rw [if_neg (by simp [k2])]
      go_enter Try.func69, Try.ntmps69
      go_wp2_with (first | (go_at_call 85; refine (sWinB _ _).mono ?_; rintro e w' ⟨rfl, hw⟩; subst w') | (go_at_call 26; refine (sInB _ _ _ _).mono ?_; rintro e w' ⟨rfl, hw⟩; subst w'))
      go_ret
      exact ⟨rfl, by go_grown⟩
  · replace k1 : winB a = false := by simpa using k1
    rw [if_neg (by simp [k1])]
    go_enter Try.func69, Try.ntmps69
    go_wp2_with (first | (go_at_call 85; refine (sWinB _ _).mono ?_; rintro e w' ⟨rfl, hw⟩; subst w') | (go_at_call 26; refine (sInB _ _ _ _).mono ?_; rintro e w' ⟨rfl, hw⟩; subst w'))
    go_ret
    exact ⟨rfl, by go_grown⟩
end Go.Proofs.Ytbdibjeemgkdaaa
