/- What the program and its model answer of controls: their faults, what is started, cut and falls; nothing that was in memory turns; no condition. -/
import Derived.Test.YtebgibjokljlbaaRows
import Derived.Deep.RegionHeld3
import Derived.Test.YtebgibjokljlbaaS01
import Derived.Test.YtebgibjokljlbaaS03
namespace Go.Proofs.Ytebgibjokljlbaa
open Go.RowKit
set_option linter.unusedVariables false
def inB (v lo hi : Int) : Bool := decide (lo ≤ v) && decide (v ≤ hi)
theorem inB_yes {v lo hi : Int} (h : inB v lo hi = true) : lo ≤ v ∧ v ≤ hi := by unfold inB at h; simpa using h
def winB (v : Int) : Bool := inB v 8 64
theorem winB_yes {v : Int} (h : winB v = true) : 8 ≤ v ∧ v ≤ 64 := inB_yes h
def ctF (a b p : Int) : Int := if (winB a && inB b 0 64 && inB p 0 63) = true then 0 else 3
theorem ctF_ok {a b p : Int} (h : ctF a b p = 0) : (8 ≤ a ∧ a ≤ 64) ∧ (0 ≤ b ∧ b ≤ 64) ∧ 0 ≤ p ∧ p ≤ 63 := by
  unfold ctF at h
  split at h
  · rename_i h2
    simp only [Bool.and_eq_true] at h2
    exact ⟨winB_yes h2.1.1, inB_yes h2.1.2, inB_yes h2.2⟩
  · cases h
theorem ctF_mk {a b p : Int} (h1 : 8 ≤ a) (h2 : a ≤ 64) (h3 : 0 ≤ b) (h4 : b ≤ 64) (h5 : 0 ≤ p) (h6 : p ≤ 63) : ctF a b p = 0 := by
  unfold ctF; rw [if_pos]; simp [winB, inB, *]
theorem iInB (v low high : Int) (w : World) :
    Calls Try.prog 68 #[.int .i64 v, .int .i64 low, .int .i64 high] w fun e w' => e = .returned (.bool (inB v low high)) ∧ w' = w := by
  by_cases h : low ≤ v
  · go_enter Try.func68, Try.ntmps68
    go_wp2
    go_ret
    exact ⟨ret_bool (by simp [inB, h]), rfl⟩
  · have h' : decide (low ≤ v) = false := by simp; omega
    go_enter Try.func68, Try.ntmps68
    go_wp2
    go_ret
    exact ⟨ret_bool (by simp [inB]; omega), rfl⟩
theorem sInB (v low high : Int) (w : World) :
    Calls Try.prog 97 #[.int .i64 v, .int .i64 low, .int .i64 high] w fun e w' => e = .returned (.bool (inB v low high)) ∧ w' = w := by
  by_cases h : low ≤ v
  · go_enter Try.func97, Try.ntmps97
    go_wp2
    go_ret
    exact ⟨ret_bool (by simp [inB, h]), rfl⟩
  · have h' : decide (low ≤ v) = false := by simp; omega
    go_enter Try.func97, Try.ntmps97
    go_wp2
    go_ret
    exact ⟨ret_bool (by simp [inB]; omega), rfl⟩
theorem iWinB (v : Int) (w : World) :
    Calls Try.prog 129 #[.int .i64 v] w fun e w' => e = .returned (.bool (winB v)) ∧ w' = w := by
  go_enter Try.func129, Try.ntmps129
  go_wp2_with (go_at_call 68; refine (iInB _ _ _ _).mono ?_; rintro e w' ⟨rfl, hw⟩; subst w')
  go_ret
  exact ⟨rfl, rfl⟩
theorem sWinB (v : Int) (w : World) :
    Calls Try.prog 144 #[.int .i64 v] w fun e w' => e = .returned (.bool (winB v)) ∧ w' = w := by
  go_enter Try.func144, Try.ntmps144
  go_wp2_with (go_at_call 97; refine (sInB _ _ _ _).mono ?_; rintro e w' ⟨rfl, hw⟩; subst w')
  go_ret
  exact ⟨rfl, rfl⟩
set_option maxHeartbeats 1000000 in
theorem iControlFault (a b p : Int) (w : World) :
    Calls Try.prog 88 #[.agg #[.int .i64 a, .int .i64 b, .int .i64 p]] w fun e w' => e = .returned (.int .i64 (ctF a b p)) ∧ Below w.heap.size w w' := by
  unfold ctF
  by_cases k1 : winB a = true
  · by_cases k2 : inB b 0 64 = true
    · by_cases k3 : inB p 0 63 = true
      · rw [if_pos (by simp [k1, k2, k3])]
        go_enter Try.func88, Try.ntmps88
        go_wp2_with (first | (go_at_call 129; refine (iWinB _ _).mono ?_; rintro e w' ⟨rfl, hw⟩; subst w') | (go_at_call 68; refine (iInB _ _ _ _).mono ?_; rintro e w' ⟨rfl, hw⟩; subst w'))
        go_ret
        exact ⟨rfl, by go_grown⟩
      · replace k3 : inB p 0 63 = false := by simpa using k3
        rw [if_neg (by simp [k3])]
        go_enter Try.func88, Try.ntmps88
        go_wp2_with (first | (go_at_call 129; refine (iWinB _ _).mono ?_; rintro e w' ⟨rfl, hw⟩; subst w') | (go_at_call 68; refine (iInB _ _ _ _).mono ?_; rintro e w' ⟨rfl, hw⟩; subst w'))
        go_ret
        exact ⟨rfl, by go_grown⟩
    · replace k2 : inB b 0 64 = false := by simpa using k2
      rw [if_neg (by simp [k2])]
      go_enter Try.func88, Try.ntmps88
      go_wp2_with (first | (go_at_call 129; refine (iWinB _ _).mono ?_; rintro e w' ⟨rfl, hw⟩; subst w') | (go_at_call 68; refine (iInB _ _ _ _).mono ?_; rintro e w' ⟨rfl, hw⟩; subst w'))
      go_ret
      exact ⟨rfl, by go_grown⟩
  · replace k1 : winB a = false := by simpa using k1
    rw [if_neg (by simp [k1])]
    go_enter Try.func88, Try.ntmps88
    go_wp2_with (first | (go_at_call 129; refine (iWinB _ _).mono ?_; rintro e w' ⟨rfl, hw⟩; subst w') | (go_at_call 68; refine (iInB _ _ _ _).mono ?_; rintro e w' ⟨rfl, hw⟩; subst w'))
    go_ret
    exact ⟨rfl, by go_grown⟩
set_option maxHeartbeats 1000000 in
theorem sControlFault (a b p : Int) (w : World) :
    Calls Try.prog 121 #[.agg #[.int .i64 a, .int .i64 b, .int .i64 p]] w fun e w' => e = .returned (.int .i64 (ctF a b p)) ∧ Below w.heap.size w w' := by
  unfold ctF
  by_cases k1 : winB a = true
  · by_cases k2 : inB b 0 64 = true
    · by_cases k3 : inB p 0 63 = true
      · rw [if_pos (by simp [k1, k2, k3])]
        go_enter Try.func121, Try.ntmps121
        go_wp2_with (first | (go_at_call 144; refine (sWinB _ _).mono ?_; rintro e w' ⟨rfl, hw⟩; subst w') | (go_at_call 97; refine (sInB _ _ _ _).mono ?_; rintro e w' ⟨rfl, hw⟩; subst w'))
        go_ret
        exact ⟨rfl, by go_grown⟩
      · replace k3 : inB p 0 63 = false := by simpa using k3
        rw [if_neg (by simp [k3])]
        go_enter Try.func121, Try.ntmps121
        go_wp2_with (first | (go_at_call 144; refine (sWinB _ _).mono ?_; rintro e w' ⟨rfl, hw⟩; subst w') | (go_at_call 97; refine (sInB _ _ _ _).mono ?_; rintro e w' ⟨rfl, hw⟩; subst w'))
        go_ret
        exact ⟨rfl, by go_grown⟩
    · replace k2 : inB b 0 64 = false := by simpa using k2
      rw [if_neg (by simp [k2])]
      go_enter Try.func121, Try.ntmps121
      go_wp2_with (first | (go_at_call 144; refine (sWinB _ _).mono ?_; rintro e w' ⟨rfl, hw⟩; subst w') | (go_at_call 97; refine (sInB _ _ _ _).mono ?_; rintro e w' ⟨rfl, hw⟩; subst w'))
      go_ret
      exact ⟨rfl, by go_grown⟩
  · replace k1 : winB a = false := by simpa using k1
    rw [if_neg (by simp [k1])]
    go_enter Try.func121, Try.ntmps121
    go_wp2_with (first | (go_at_call 144; refine (sWinB _ _).mono ?_; rintro e w' ⟨rfl, hw⟩; subst w') | (go_at_call 97; refine (sInB _ _ _ _).mono ?_; rintro e w' ⟨rfl, hw⟩; subst w'))
    go_ret
    exact ⟨rfl, by go_grown⟩
theorem sMin (a b : Int) (w : World) :
    Calls Try.prog 40 #[.int .i64 a, .int .i64 b] w fun e w' => e = .returned (.int .i64 (min a b)) ∧ w' = w := by
  by_cases h : a < b
  · rw [show min a b = a by omega]
    go_enter Try.func40, Try.ntmps40
    go_wp2
    go_ret
    exact ⟨rfl, rfl⟩
  · rw [show min a b = b by omega]
    go_enter Try.func40, Try.ntmps40
    go_wp2
    go_ret
    exact ⟨rfl, rfl⟩
end Go.Proofs.Ytebgibjokljlbaa
namespace Go.Proofs.Ytebgibjokljlbaa
open Go.RowKit
set_option linter.unusedVariables false
theorem bf_below {w w' : World} {b : Nat} (h : ∀ o, w.frozen? ⟨b, o, none⟩ = false) (hb : b < w.heap.size) (k : Below w.heap.size w w') : ∀ o, w'.frozen? ⟨b, o, none⟩ = false :=
  fun o => (k.frozen (p := ⟨b, o, none⟩) hb).trans (h o)
end Go.Proofs.Ytebgibjokljlbaa
namespace Go.Proofs.Ytebgibjokljlbaa
open Go.RowKit
set_option linter.unusedVariables false
def gnOk (x a : Int) (l : List Int) : Bool := winB x && inB a 0 1000 && decide (l.length ≤ 3) && l.all winB
def gnC (x a : Int) (l : List Int) : Int := if gnOk x a l = true then 0 else 3
def gnV (x a : Int) (l : List Int) : Int := if gnOk x a l = true then min (a * 512 / x) (a * 512 / (x + l.sum)) else 0
theorem gsum_bd {l : List Int} (h : l.all winB = true) : 0 ≤ l.sum ∧ l.sum ≤ 64 * l.length := by
  induction l with
  | nil => simp
  | cons y l ih =>
    simp only [List.all_cons, Bool.and_eq_true] at h
    have := ih h.2
    have := winB_yes h.1
    simp only [List.sum_cons, List.length_cons]
    push_cast
    omega
theorem take_next {l : List Int} {k : Nat} (hk : k < l.length) : l.take (k + 1) = l.take k ++ [l.getD k 0] := by
  rw [List.take_succ_eq_append_getElem hk, List.getD_eq_getElem?_getD, List.getElem?_eq_getElem hk]; rfl
theorem all_next {l : List Int} {k : Nat} (hk : k < l.length) (h : (l.take k).all winB = true) (hy : winB (l.getD k 0) = true) : (l.take (k + 1)).all winB = true ∧ (l.take (k + 1)).sum = (l.take k).sum + l.getD k 0 := by
  rw [take_next hk]
  refine ⟨?_, by simp⟩
  rw [List.all_append, h]
  simpa using hy
theorem all_no {l : List Int} {k : Nat} (hk : k < l.length) (hy : winB (l.getD k 0) = false) : l.all winB = false := by
  rw [Bool.eq_false_iff]
  intro h
  rw [List.all_eq_true] at h
  have := h _ (List.getElem_mem hk)
  rw [List.getD_eq_getElem?_getD, List.getElem?_eq_getElem hk] at hy
  simp_all
theorem gn_no {x a : Int} {l : List Int} (h : gnOk x a l = false) : gnC x a l = 3 ∧ gnV x a l = 0 := by simp [gnC, gnV, h]
theorem gn_yes {x a : Int} {l : List Int} (h : gnOk x a l = true) : gnC x a l = 0 ∧ gnV x a l = min (a * 512 / x) (a * 512 / (x + l.sum)) := by simp [gnC, gnV, h]
theorem gq {a x : Int} (h0 : 0 ≤ a) (h1 : a ≤ 1000) (hx : 8 ≤ x) : 0 ≤ a * 512 / x ∧ a * 512 / x ≤ 64000 := by
  have e : 0 ≤ a * 512 := by omega
  refine ⟨Int.ediv_nonneg e (by omega), ?_⟩
  have : a * 512 / x ≤ a * 512 / 8 := by
    apply Int.le_ediv_of_mul_le (by decide)
    have h2 := Int.ediv_mul_le (a * 512) (b := x) (by omega)
    have h3 : a * 512 / x * 8 ≤ a * 512 / x * x := Int.mul_le_mul_of_nonneg_left hx (Int.ediv_nonneg e (by omega))
    omega
  omega
theorem ret_pairC {c v c' v' : Int} (hc : c = c') (hv : v = v') : Ending.returned (.agg #[.int .i64 c, .int .i64 v]) = .returned (.agg #[.int .i64 c', .int .i64 v']) := by rw [hc, hv]
theorem RI.one {w : World} {a : Option Addr} {l : List Int} (h : RI w a l) {k : Nat} (hk : k < l.length) : ∃ b off, a = some ⟨b, off, none⟩ ∧ w.cell? ⟨b, off + k, none⟩ = some (.int .i64 (l.getD k 0)) := by
  rcases h.mem with e | ⟨b, off, e, hc⟩
  · subst e; simp at hk
  · exact ⟨b, off, e, hc k hk⟩
set_option maxHeartbeats 2000000 in
theorem iGainOf (x a : Int) (l : List Int) (ad : Option Addr) (n cap : Nat) (w : World) (hl : l.length = n) (hr : RI w ad l) (hn : n ≤ 9223372036854775807) :
    Calls Try.prog 140 #[.int .i64 x, .int .i64 a, .slice ad n cap] w fun e w' => e = .returned (.agg #[.int .i64 (gnC x a l), .int .i64 (gnV x a l)]) ∧ Below w.heap.size w w' := by
  have HR : Hid (∀ W, Below w.heap.size w W → RI W ad l) := fun W h => hr.below (Nat.le_refl _) h
  clear hr
  cases ha : (winB x && inB a 0 1000)
  · have hno : gnOk x a l = false := by simp [gnOk, ha]
    rw [(gn_no hno).1, (gn_no hno).2]
    clear hno HR
    rw [hl] at *
    by_cases h1 : winB x = true
    · have h2 : inB a 0 1000 = false := by simpa [h1] using ha
      clear ha
      go_enter Try.func140, Try.ntmps140
      go_wp2_with (first | (go_at_call 129; refine (iWinB _ _).mono ?_; rintro e w' ⟨rfl, hw⟩; subst w') | (go_at_call 68; refine (iInB _ _ _ _).mono ?_; rintro e w' ⟨rfl, hw⟩; subst w'))
      go_returns
      exact ⟨rfl, by go_grown⟩
    · replace h1 : winB x = false := by simpa using h1
      clear ha
      go_enter Try.func140, Try.ntmps140
      go_wp2_with (first | (go_at_call 129; refine (iWinB _ _).mono ?_; rintro e w' ⟨rfl, hw⟩; subst w') | (go_at_call 68; refine (iInB _ _ _ _).mono ?_; rintro e w' ⟨rfl, hw⟩; subst w'))
      go_returns
      exact ⟨rfl, by go_grown⟩
  · have ha2 := ha
    simp only [Bool.and_eq_true] at ha2
    obtain ⟨h1, h2⟩ := ha2
    by_cases h3 : 3 < n
    · have h3' : decide (l.length ≤ 3) = false := by simp; omega
      have hno : gnOk x a l = false := by simp only [gnOk, h3', Bool.and_false, Bool.false_and]
      clear h3'
      rw [(gn_no hno).1, (gn_no hno).2]
      clear hno HR ha
      go_enter Try.func140, Try.ntmps140
      go_wp2_with (first | (go_at_call 129; refine (iWinB _ _).mono ?_; rintro e w' ⟨rfl, hw⟩; subst w') | (go_at_call 68; refine (iInB _ _ _ _).mono ?_; rintro e w' ⟨rfl, hw⟩; subst w'))
      go_returns
      exact ⟨rfl, by go_grown⟩
    · have hx := winB_yes h1
      have hac := inB_yes h2
      obtain ⟨hx0, hx1⟩ := hx
      obtain ⟨ha0, ha1⟩ := hac
      have HNO : Hid (l.all winB = false → gnC x a l = 3 ∧ gnV x a l = 0) := fun h => gn_no (by simp [gnOk, h])
      have HYES : Hid (l.all winB = true → gnC x a l = 0 ∧ gnV x a l = min (a * 512 / x) (a * 512 / (x + l.sum))) := fun h => gn_yes (by simp [gnOk, ha, h, hl]; omega)
      clear ha
      generalize gnC x a l = C at *
      generalize gnV x a l = V at *
      have HLL : Hid (l.length = n) := hl
      clear hl
      go_enter Try.func140, Try.ntmps140
      go_wp2_with (first | (go_at_call 129; refine (iWinB _ _).mono ?_; rintro e w' ⟨rfl, hw⟩; subst w') | (go_at_call 68; refine (iInB _ _ _ _).mono ?_; rintro e w' ⟨rfl, hw⟩; subst w'))
      go_loop [7, 28] (fun t i => ∃ k : Nat, k ≤ n ∧ i = .int .i64 k ∧ t = .int .i64 (x + (l.take k).sum) ∧ Hid ((l.take k).all winB = true)) (fun _ i => n - (intOf i).toNat)
      case atStart => exact ⟨0, Nat.zero_le _, rfl, by simp, by show _ = _; rfl⟩
      case round =>
        obtain ⟨k, hk, rfl, rfl, hall⟩ := hrel
        have hbd := gsum_bd hall.out
        rw [List.length_take, Nat.min_eq_left (by have := HLL.out; omega)] at hbd
        obtain ⟨hs0, hs1⟩ := hbd
        by_cases hlt : k < n
        · have hkl : k < l.length := by have := HLL.out; omega
          obtain ⟨bb, off, rfl, hc⟩ := (HR.out _ ((Below.refl _ _).alloc (Nat.le_refl _) (.cells #[.int .i64 0, .int .i64 0] 35))).one hkl
          have HN : Hid (winB (l.getD k 0) = true → (l.take (k + 1)).all winB = true ∧ (l.take (k + 1)).sum = (l.take k).sum + l.getD k 0) := fun h => all_next hkl hall.out h
          have HX : Hid (winB (l.getD k 0) = false → l.all winB = false) := fun h => all_no hkl h
          have HV : Hid (winB (l.getD k 0) = true → 8 ≤ l.getD k 0 ∧ l.getD k 0 ≤ 64) := fun h => winB_yes h
          clear hall HR HYES
          generalize (l.take k).sum = s at *
          generalize l.getD k 0 = y at *
          by_cases hy : winB y = true
          · obtain ⟨hy0, hy1⟩ := HV.out hy
            clear HV HX HNO
            go_wp2_with (go_at_call 129; refine (iWinB _ _).mono ?_; rintro e w' ⟨rfl, hw⟩; subst w')
            go_round
            case rel => exact ⟨k + 1, by omega, by go_num, by rw [(HN.out hy).2]; go_num, (HN.out hy).1⟩
            case measure => simp [intOf]; omega
          · replace hy : winB y = false := by simpa using hy
            obtain ⟨rfl, rfl⟩ := HNO.out (HX.out hy)
            clear HV HX HNO HN
            go_wp2_with (go_at_call 129; refine (iWinB _ _).mono ?_; rintro e w' ⟨rfl, hw⟩; subst w')
            go_returns
            exact ⟨rfl, by go_grown⟩
        · obtain rfl : k = n := by omega
          have hall2 := hall.out
          have e : l.take k = l := List.take_of_length_le (by have := HLL.out; omega)
          rw [e] at hall2 hs0 hs1 ⊢
          obtain ⟨hCC, hVV⟩ := HYES.out hall2
          subst hCC
          have HVV : Hid _ := hVV
          clear HNO HYES HR hall hall2 e HLL hVV
          have q1 := gq ha0 ha1 hx0
          have q2 := gq ha0 ha1 (show 8 ≤ x + l.sum by omega)
          have hS : 8 ≤ x + l.sum := by omega
          have hS2 : x + l.sum ≤ 400 := by omega
          clear hs0 hs1
          generalize x + l.sum = S at *
          obtain ⟨q10, q11⟩ := q1
          obtain ⟨q20, q21⟩ := q2
          go_wp2_with fail
          go_region
          all_goals (go_wp2_with fail)
          all_goals (go_returns)
          all_goals exact ⟨ret_pairC rfl (by have := HVV.out; omega), by go_grown⟩
set_option maxHeartbeats 2000000 in
theorem sGainOf (x a : Int) (l : List Int) (ad : Option Addr) (n cap : Nat) (w : World) (hl : l.length = n) (hr : RI w ad l) (hn : n ≤ 9223372036854775807) :
    Calls Try.prog 146 #[.int .i64 x, .int .i64 a, .slice ad n cap] w fun e w' => e = .returned (.agg #[.int .i64 (gnC x a l), .int .i64 (gnV x a l)]) ∧ Below w.heap.size w w' := by
  have HR : Hid (∀ W, Below w.heap.size w W → RI W ad l) := fun W h => hr.below (Nat.le_refl _) h
  clear hr
  cases ha : (winB x && inB a 0 1000)
  · have hno : gnOk x a l = false := by simp [gnOk, ha]
    rw [(gn_no hno).1, (gn_no hno).2]
    clear hno HR
    rw [hl] at *
    by_cases h1 : winB x = true
    · have h2 : inB a 0 1000 = false := by simpa [h1] using ha
      clear ha
      go_enter Try.func146, Try.ntmps146
      go_wp2_with (first | (go_at_call 144; refine (sWinB _ _).mono ?_; rintro e w' ⟨rfl, hw⟩; subst w') | (go_at_call 97; refine (sInB _ _ _ _).mono ?_; rintro e w' ⟨rfl, hw⟩; subst w'))
      go_returns
      exact ⟨rfl, by go_grown⟩
    · replace h1 : winB x = false := by simpa using h1
      clear ha
      go_enter Try.func146, Try.ntmps146
      go_wp2_with (first | (go_at_call 144; refine (sWinB _ _).mono ?_; rintro e w' ⟨rfl, hw⟩; subst w') | (go_at_call 97; refine (sInB _ _ _ _).mono ?_; rintro e w' ⟨rfl, hw⟩; subst w'))
      go_returns
      exact ⟨rfl, by go_grown⟩
  · have ha2 := ha
    simp only [Bool.and_eq_true] at ha2
    obtain ⟨h1, h2⟩ := ha2
    by_cases h3 : 3 < n
    · have h3' : decide (l.length ≤ 3) = false := by simp; omega
      have hno : gnOk x a l = false := by simp only [gnOk, h3', Bool.and_false, Bool.false_and]
      clear h3'
      rw [(gn_no hno).1, (gn_no hno).2]
      clear hno HR ha
      go_enter Try.func146, Try.ntmps146
      go_wp2_with (first | (go_at_call 144; refine (sWinB _ _).mono ?_; rintro e w' ⟨rfl, hw⟩; subst w') | (go_at_call 97; refine (sInB _ _ _ _).mono ?_; rintro e w' ⟨rfl, hw⟩; subst w'))
      go_returns
      exact ⟨rfl, by go_grown⟩
    · have hx := winB_yes h1
      have hac := inB_yes h2
      obtain ⟨hx0, hx1⟩ := hx
      obtain ⟨ha0, ha1⟩ := hac
      have HNO : Hid (l.all winB = false → gnC x a l = 3 ∧ gnV x a l = 0) := fun h => gn_no (by simp [gnOk, h])
      have HYES : Hid (l.all winB = true → gnC x a l = 0 ∧ gnV x a l = min (a * 512 / x) (a * 512 / (x + l.sum))) := fun h => gn_yes (by simp [gnOk, ha, h, hl]; omega)
      clear ha
      generalize gnC x a l = C at *
      generalize gnV x a l = V at *
      have HLL : Hid (l.length = n) := hl
      clear hl
      go_enter Try.func146, Try.ntmps146
      go_wp2_with (first | (go_at_call 144; refine (sWinB _ _).mono ?_; rintro e w' ⟨rfl, hw⟩; subst w') | (go_at_call 97; refine (sInB _ _ _ _).mono ?_; rintro e w' ⟨rfl, hw⟩; subst w'))
      go_loop [7, 8] (fun t i => ∃ k : Nat, k ≤ n ∧ i = .int .i64 k ∧ t = .int .i64 (x + (l.take k).sum) ∧ Hid ((l.take k).all winB = true)) (fun _ i => n - (intOf i).toNat)
      case atStart => exact ⟨0, Nat.zero_le _, rfl, by simp, by show _ = _; rfl⟩
      case round =>
        obtain ⟨k, hk, rfl, rfl, hall⟩ := hrel
        have hbd := gsum_bd hall.out
        rw [List.length_take, Nat.min_eq_left (by have := HLL.out; omega)] at hbd
        obtain ⟨hs0, hs1⟩ := hbd
        by_cases hlt : k < n
        · have hkl : k < l.length := by have := HLL.out; omega
          obtain ⟨bb, off, rfl, hc⟩ := (HR.out _ ((Below.refl _ _).alloc (Nat.le_refl _) (.cells #[.int .i64 0, .int .i64 0] 35))).one hkl
          have HN : Hid (winB (l.getD k 0) = true → (l.take (k + 1)).all winB = true ∧ (l.take (k + 1)).sum = (l.take k).sum + l.getD k 0) := fun h => all_next hkl hall.out h
          have HX : Hid (winB (l.getD k 0) = false → l.all winB = false) := fun h => all_no hkl h
          have HV : Hid (winB (l.getD k 0) = true → 8 ≤ l.getD k 0 ∧ l.getD k 0 ≤ 64) := fun h => winB_yes h
          clear hall HR HYES
          generalize (l.take k).sum = s at *
          generalize l.getD k 0 = y at *
          by_cases hy : winB y = true
          · obtain ⟨hy0, hy1⟩ := HV.out hy
            clear HV HX HNO
            go_wp2_with (go_at_call 144; refine (sWinB _ _).mono ?_; rintro e w' ⟨rfl, hw⟩; subst w')
            go_round
            case rel => exact ⟨k + 1, by omega, by go_num, by rw [(HN.out hy).2]; go_num, (HN.out hy).1⟩
            case measure => simp [intOf]; omega
          · replace hy : winB y = false := by simpa using hy
            obtain ⟨rfl, rfl⟩ := HNO.out (HX.out hy)
            clear HV HX HNO HN
            go_wp2_with (go_at_call 144; refine (sWinB _ _).mono ?_; rintro e w' ⟨rfl, hw⟩; subst w')
            go_returns
            exact ⟨rfl, by go_grown⟩
        · obtain rfl : k = n := by omega
          have hall2 := hall.out
          have e : l.take k = l := List.take_of_length_le (by have := HLL.out; omega)
          rw [e] at hall2 hs0 hs1 ⊢
          obtain ⟨hCC, hVV⟩ := HYES.out hall2
          subst hCC
          have HVV : Hid _ := hVV
          clear HNO HYES HR hall hall2 e HLL hVV
          have q1 := gq ha0 ha1 hx0
          have q2 := gq ha0 ha1 (show 8 ≤ x + l.sum by omega)
          have hS : 8 ≤ x + l.sum := by omega
          have hS2 : x + l.sum ≤ 400 := by omega
          clear hs0 hs1
          generalize x + l.sum = S at *
          obtain ⟨q10, q11⟩ := q1
          obtain ⟨q20, q21⟩ := q2
          go_wp2_with fail
          go_region_with (go_at_call 40; refine (sMin _ _ _).mono ?_; rintro e w' ⟨rfl, hw⟩; subst w')
          all_goals (go_wp2_with fail)
          all_goals (go_returns)
          all_goals exact ⟨ret_pairC rfl (by have := HVV.out; omega), by go_grown⟩
end Go.Proofs.Ytebgibjokljlbaa
