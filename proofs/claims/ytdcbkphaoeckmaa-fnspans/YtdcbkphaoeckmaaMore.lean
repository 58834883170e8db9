/- What the furthest of a list of numbers is, by the program and by its model, where the list has numbers; memory stays as it was. -/
import Derived.Test.YtdcbkphaoeckmaaRows
import Derived.Test.YtdcbkphaoeckmaaBase
import Derived.Test.YtdcbkphaoeckmaaNum
import Derived.Test.YtdcbkphaoeckmaaNumWalks
namespace Go.Proofs.Ytdcbkphaoeckmaa
open Go.RowKit
set_option linter.unusedVariables false

/-- The furthest of f 0 to f k. -/
def bestTo (f : Nat → Int) : Nat → Int
  | 0 => f 0
  | k + 1 => if 0 < ahd (bestTo f k) (f (k + 1)) then f (k + 1) else bestTo f k
/-- The same, with what 65536 leaves. -/
def sbestTo (f : Nat → Int) : Nat → Int
  | 0 => wrp (f 0)
  | k + 1 => if 0 < ahd (sbestTo f k) (f (k + 1)) then wrp (f (k + 1)) else sbestTo f k

theorem best_yes {f : Nat → Int} {k : Nat} (h : 0 < ahd (bestTo f k) (f (k + 1))) : bestTo f (k + 1) = f (k + 1) := by
  show (if _ then _ else _) = _; rw [if_pos h]
theorem best_no {f : Nat → Int} {k : Nat} (h : ¬ 0 < ahd (bestTo f k) (f (k + 1))) : bestTo f (k + 1) = bestTo f k := by
  show (if _ then _ else _) = _; rw [if_neg h]
theorem sbest_yes {f : Nat → Int} {k : Nat} (h : 0 < ahd (sbestTo f k) (f (k + 1))) : sbestTo f (k + 1) = wrp (f (k + 1)) := by
  show (if _ then _ else _) = _; rw [if_pos h]
theorem sbest_no {f : Nat → Int} {k : Nat} (h : ¬ 0 < ahd (sbestTo f k) (f (k + 1))) : sbestTo f (k + 1) = sbestTo f k := by
  show (if _ then _ else _) = _; rw [if_neg h]

set_option maxHeartbeats 400000 in
theorem iFurthest (b off n cap : Nat) (f : Nat → Int) (w : World) (h1 : 1 ≤ n) (hn : n + 1 ≤ cap) (hm : cap ≤ maxLen)
    (hc : ∀ i, i < n + 1 → w.cell? ⟨b, off + i, none⟩ = some (.int .i64 (f i))) :
    Calls Try.prog 28 #[.slice (some ⟨b, off, none⟩) (n + 1) cap] w fun e w' => e = .returned (.int .i64 (bestTo f n)) ∧ w' = w := by
  unfold maxLen at hm
  have c0 := hc 0 (by omega)
  simp only [Nat.add_zero] at c0
  have hz : (((n : Int) + 1) == 0) = false := by simp; omega
  have hcap : 1 < cap := by omega
  go_enter Try.func28, Try.ntmps28
  go_wp2
  go_loop [3, 15] (fun t i => ∃ k : Nat, k ≤ n ∧ i = .int .i64 k ∧ t = .int .i64 (bestTo f k)) (fun _ i => n - (intOf i).toNat)
  case atStart => exact ⟨0, Nat.zero_le _, rfl, rfl⟩
  case round =>
    obtain ⟨k, hk, rfl, rfl⟩ := hrel
    by_cases hlt : k < n
    · have ck := hc (k + 1) (by omega)
      rw [show off + (k + 1) = off + 1 + k by omega] at ck
      clear hc
      by_cases hah : 0 < ahd (bestTo f k) (f (k + 1))
      · have HB : Hid (bestTo f (k + 1) = f (k + 1)) := best_yes hah
        go_wp2_with (go_at_call 12; refine (iIsAhead _ _ _).mono ?_; rintro e w' ⟨rfl, rfl⟩)
        go_round
        case rel => exact ⟨k + 1, by omega, by go_num, by rw [HB.out]⟩
        case measure => simp [intOf]; omega
      · have HB : Hid (bestTo f (k + 1) = bestTo f k) := best_no hah
        go_wp2_with (go_at_call 12; refine (iIsAhead _ _ _).mono ?_; rintro e w' ⟨rfl, rfl⟩)
        go_round
        case rel => exact ⟨k + 1, by omega, by go_num, by rw [HB.out]⟩
        case measure => simp [intOf]; omega
    · obtain rfl : k = n := by omega
      clear hc
      go_wp2
      go_ret
      exact ⟨rfl, rfl⟩

theorem iMoreOf (b off n cap : Nat) (f : Nat → Int) (w : World) (h1 : 1 ≤ n) (hn : n + 1 ≤ cap) (hm : cap ≤ maxLen)
    (hc : ∀ i, i < n + 1 → w.cell? ⟨b, off + i, none⟩ = some (.int .i64 (f i))) :
    Calls Try.prog 18 #[.slice (some ⟨b, off, none⟩) (n + 1) cap] w fun e w' => e = .returned (.int .i64 (bestTo f n)) ∧ w' = w := by
  go_enter Try.func18, Try.ntmps18
  go_wp2_with fail
  refine (iFurthest b off n cap f w h1 hn hm hc).mono ?_
  rintro e w' ⟨rfl, rfl⟩
  go_wp2_with fail
  go_ret
  exact ⟨rfl, rfl⟩

set_option maxHeartbeats 400000 in
theorem sMoreOf (b off n cap : Nat) (f : Nat → Int) (w : World) (hn : n + 1 ≤ cap) (hm : cap ≤ maxLen)
    (hc : ∀ i, i < n + 1 → w.cell? ⟨b, off + i, none⟩ = some (.int .i64 (f i))) :
    Calls Try.prog 19 #[.slice (some ⟨b, off, none⟩) (n + 1) cap] w fun e w' => e = .returned (.int .i64 (sbestTo f n)) ∧ w' = w := by
  unfold maxLen at hm
  have c0 := hc 0 (by omega)
  simp only [Nat.add_zero] at c0
  have hz : (((n : Int) + 1) == 0) = false := by simp; omega
  go_enter Try.func19, Try.ntmps19
  go_wp2_with (go_at_call 13; refine (sWrap _ _).mono ?_; rintro e w' ⟨rfl, rfl⟩)
  go_loop [3, 4] (fun t i => ∃ k : Nat, k ≤ n ∧ i = .int .i64 (k + 1 : Nat) ∧ t = .int .i64 (sbestTo f k)) (fun _ i => n + 1 - (intOf i).toNat)
  case atStart => exact ⟨0, Nat.zero_le _, rfl, rfl⟩
  case round =>
    obtain ⟨k, hk, rfl, rfl⟩ := hrel
    by_cases hlt : k < n
    · have ck := hc (k + 1) (by omega)
      clear hc
      by_cases hah : 0 < ahd (sbestTo f k) (f (k + 1))
      · have HB : Hid (sbestTo f (k + 1) = wrp (f (k + 1))) := sbest_yes hah
        go_wp2_with (first | (go_at_call 29; refine (sIsAhead _ _ _).mono ?_; rintro e w' ⟨rfl, rfl⟩) | (go_at_call 13; refine (sWrap _ _).mono ?_; rintro e w' ⟨rfl, rfl⟩))
        go_round
        case rel => exact ⟨k + 1, by omega, by go_num, by rw [HB.out]⟩
        case measure => simp [intOf]; omega
      · have HB : Hid (sbestTo f (k + 1) = sbestTo f k) := sbest_no hah
        go_wp2_with (go_at_call 29; refine (sIsAhead _ _ _).mono ?_; rintro e w' ⟨rfl, rfl⟩)
        go_round
        case rel => exact ⟨k + 1, by omega, by go_num, by rw [HB.out]⟩
        case measure => simp [intOf]; omega
    · obtain rfl : k = n := by omega
      clear hc
      go_wp2
      go_ret
      exact ⟨rfl, rfl⟩

theorem wrp_wrp (x : Int) : wrp (wrp x) = wrp x := by unfold wrp; omega
theorem ahd_near (c x y : Int) (h1 : -200 < y - x) (h2 : y - x < 200) : ahd (wrp (c + x)) (wrp (c + y)) = y - x := by
  unfold ahd wrp; split <;> omega

theorem best_max (c : Int) (d : Nat → Int) (n : Nat) (hd : ∀ i, i ≤ n → 0 ≤ d i ∧ d i < 200) :
    ∀ k, k ≤ n → ∃ D, 0 ≤ D ∧ D < 200 ∧ bestTo (fun i => wrp (c + d i)) k = wrp (c + D) ∧ sbestTo (fun i => wrp (c + d i)) k = wrp (c + D) ∧ ∀ i, i ≤ k → d i ≤ D := by
  intro k
  induction k with
  | zero =>
    intro _
    have := hd 0 (by omega)
    exact ⟨d 0, this.1, this.2, rfl, wrp_wrp _, fun i hi => by rw [show i = 0 by omega]; omega⟩
  | succ k ih =>
    intro hk
    obtain ⟨D, D0, D1, e1, e2, hD⟩ := ih (by omega)
    have hk1 := hd (k + 1) hk
    have ha := ahd_near c D (d (k + 1)) (by omega) (by omega)
    by_cases h : D < d (k + 1)
    · refine ⟨d (k + 1), hk1.1, hk1.2, ?_, ?_, fun i hi => ?_⟩
      · exact best_yes (f := fun i => wrp (c + d i)) (by show 0 < ahd _ _; rw [e1]; show 0 < ahd (wrp (c + D)) (wrp (c + d (k + 1))); rw [ha]; omega)
      · rw [sbest_yes (f := fun i => wrp (c + d i)) (by show 0 < ahd _ _; rw [e2]; show 0 < ahd (wrp (c + D)) (wrp (c + d (k + 1))); rw [ha]; omega)]
        exact wrp_wrp _
      · by_cases hi' : i = k + 1
        · subst hi'; omega
        · have := hD i (by omega); omega
    · refine ⟨D, D0, D1, ?_, ?_, fun i hi => ?_⟩
      · rw [best_no (f := fun i => wrp (c + d i)) (by show ¬ 0 < ahd _ _; rw [e1]; show ¬ 0 < ahd (wrp (c + D)) (wrp (c + d (k + 1))); rw [ha]; omega), e1]
      · rw [sbest_no (f := fun i => wrp (c + d i)) (by show ¬ 0 < ahd _ _; rw [e2]; show ¬ 0 < ahd (wrp (c + D)) (wrp (c + d (k + 1))); rw [ha]; omega), e2]
      · by_cases hi' : i = k + 1
        · subst hi'; omega
        · exact hD i (by omega)

/-- The furthest of near numbers is behind none of them, and the model says the same. -/
theorem best_near (c : Int) (d : Nat → Int) (n : Nat) (hd : ∀ i, i ≤ n → 0 ≤ d i ∧ d i < 200) :
    sbestTo (fun i => wrp (c + d i)) n = bestTo (fun i => wrp (c + d i)) n ∧ ∀ i, i ≤ n → ahd (bestTo (fun i => wrp (c + d i)) n) (wrp (c + d i)) ≤ 0 := by
  obtain ⟨D, D0, D1, e1, e2, hD⟩ := best_max c d n hd n (Nat.le_refl _)
  refine ⟨by rw [e1, e2], fun i hi => ?_⟩
  have h1 := hD i hi
  have h2 := hd i hi
  rw [e1, ahd_near c D (d i) (by omega) (by omega)]
  omega
end Go.Proofs.Ytdcbkphaoeckmaa
