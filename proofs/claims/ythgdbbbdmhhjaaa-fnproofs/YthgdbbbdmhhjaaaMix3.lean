/- What mixing, keys, tokens, proofs and starts answer, of the model; nothing that was in memory turns; no condition. -/
import Derived.Test.YthgdbbbdmhhjaaaRows
import Derived.Test.YthgdbbbdmhhjaaaBase
import Derived.Test.YthgdbbbdmhhjaaaNum
import Derived.Test.YthgdbbbdmhhjaaaNumWalks
import Derived.Test.YthgdbbbdmhhjaaaInts
import Derived.Test.YthgdbbbdmhhjaaaMixDef
import Derived.Test.YthgdbbbdmhhjaaaMix2
namespace Go.Proofs.Ythgdbbbdmhhjaaa
open Go.RowKit
set_option linter.unusedVariables false

set_option maxHeartbeats 400000 in
theorem sMixOf (a : Option Addr) (n cap : Nat) (l : List Int) (w : World) (hl : l.length = n) (hr : RI w a l) (hn : n ≤ 1048576) :
    Calls Try.prog 107 #[.slice a n cap] w fun e w' => e = .returned (.int .i64 (mixV l)) ∧ w' = w := by
  go_enter Try.func107, Try.ntmps107
  go_wp2
  go_loop [3, 4] (fun t i => ∃ k : Nat, k ≤ n ∧ i = .int .i64 k ∧ t = .int .i64 (mixT (l.take k))) (fun _ i => n - (intOf i).toNat)
  case atStart => exact ⟨0, Nat.zero_le _, rfl, by simp [mixT]⟩
  case round =>
    obtain ⟨k, hk, rfl, rfl⟩ := hrel
    have hbd := mixT_bd (l.take k)
    by_cases hlt : k < n
    · rcases hr.mem with e | ⟨b, off, rfl, hc⟩
      · subst e; simp at hl; omega
      · have hck := hc k (by omega)
        have HT : Hid (mixT (l.take (k + 1)) = mixS (mixT (l.take k)) (l.getD k 0)) := mixT_take (by omega)
        clear hc hr
        generalize l.getD k 0 = x at *
        generalize mixT (l.take k) = y at *
        obtain ⟨b0, b1⟩ := hbd
        obtain ⟨t0, t1⟩ := tmd_bd x
        have HX : Hid ((x.tmod 1000003 + 1000003) % 1000003 = x % 1000003) := tmd_add x
        have q0 : 0 ≤ x.tmod 1000003 + 1000003 := by omega
        have z0 : 0 ≤ (x.tmod 1000003 + 1000003) % 1000003 := by omega
        have z1 : (x.tmod 1000003 + 1000003) % 1000003 ≤ 1000002 := by omega
        go_wp2
        go_round
        case rel => exact ⟨k + 1, by omega, by go_num, by rw [HT.out]; unfold mixS; rw [← HX.out]; congr 1; omega⟩
        case measure => simp [intOf]; omega
    · obtain rfl : k = n := by omega
      have e : l.take k = l := List.take_of_length_le (by omega)
      rw [e] at hbd ⊢
      obtain ⟨b0, b1⟩ := hbd
      have HV : Hid (mixT l % 1000000 = mixV l) := rfl
      clear hr
      generalize mixT l = y at *
      go_wp2
      go_ret
      exact ⟨ret_int HV.out, rfl⟩
theorem sInM (v low high : Int) (w : World) :
    Calls Try.prog 57 #[.int .i64 v, .int .i64 low, .int .i64 high] w fun e w' => e = .returned (.bool (decide (low ≤ v) && decide (v ≤ high))) ∧ w' = w := by
  by_cases h : low ≤ v
  · go_enter Try.func57, Try.ntmps57
    go_wp2
    go_ret
    exact ⟨ret_bool (by simp [h]), rfl⟩
  · have h' : decide (low ≤ v) = false := by simp; omega
    go_enter Try.func57, Try.ntmps57
    go_wp2
    go_ret
    exact ⟨ret_bool (by simp), rfl⟩
theorem sKey (k : Int) (w : World) :
    Calls Try.prog 93 #[.int .i64 k] w fun e w' => e = .returned (.bool (keyB k)) ∧ w' = w := by
  go_enter Try.func93, Try.ntmps93
  go_wp2_with (go_at_call 57; refine (sInM _ _ _ _).mono ?_; rintro e w' ⟨rfl, hw⟩; subst w')
  go_ret
  exact ⟨rfl, rfl⟩
theorem sL4Proof (a b n : Int) (w : World) :
    Calls Try.prog 94 #[.int .i64 a, .int .i64 b, .int .i64 n] w fun e w' => e = .returned (.int .i64 (mixV [a, b, n])) ∧ Below w.heap.size w w' := by
  go_enter Try.func94, Try.ntmps94
  go_wp2_with fail
  refine (sMixOf (some ⟨w.heap.size, 0, none⟩) 3 3 [a, b, n] _ (by rfl) (ri_three _ _ _ _ _ _ (by simp)) (by omega)).mono ?_
  rintro e w1 ⟨rfl, hw⟩
  subst w1
  go_wp2_with fail
  go_ret
  exact ⟨rfl, by go_grown⟩
set_option maxHeartbeats 400000 in
theorem sProofOf (a b n : Int) (w : World) :
    Calls Try.prog 46 #[.int .i64 a, .int .i64 b, .int .i64 n] w fun e w' => e = .returned (.agg #[.int .i64 (prfC a b n), .int .i64 (prfV a b n)]) ∧ Below w.heap.size w w' := by
  by_cases h1 : keyB a = true
  · have K1 : Hid (keyB a = true) := h1
    by_cases h2 : keyB b = true
    · have K2 : Hid (keyB b = true) := h2
      by_cases h3 : nonB n = true
      · have h' : (decide (0 ≤ n) && decide (n ≤ 1000000)) = true := h3
        obtain ⟨e1, e2⟩ := prf_yes h1 h2 h3
        rw [e1, e2]
        generalize hy : mixV [a, b, n] = y
        have HY : Hid (mixV [a, b, n] = y) := hy
        have HH : Hid ((decide (0 ≤ n) && decide (n ≤ 1000000)) = true) := h'
        clear hy e1 e2 h1 h2 h3 h'
        go_enter Try.func46, Try.ntmps46
        go_wp2_with (first | (go_at_call 93; refine (sKey _ _).mono ?_; rintro e w' ⟨rfl, hw⟩; subst w'; first | rw [K1.out] | rw [K2.out]) | (go_at_call 57; refine (sInM _ _ _ _).mono ?_; rintro e w' ⟨rfl, hw⟩; subst w'; rw [HH.out]))
        refine (sL4Proof a b n _).mono ?_
        rintro e w1 ⟨rfl, hb⟩
        obtain ⟨c0, c1, f0, f1, hbw⟩ := one_box hb
        clear hb
        rw [HY.out]
        go_wp2_with fail
        exact bodyPost_ret (v := .agg #[.int .i64 0, .int .i64 y]) (by simp [results, Try.results46, go_sem, c0, c1]) rfl ⟨rfl, (hbw.setCell (by simp) _).setCell (by simp) _⟩
      · have h' : (decide (0 ≤ n) && decide (n ≤ 1000000)) = false := by simpa [nonB] using h3
        obtain ⟨e1, e2⟩ := prf_no3 (a := a) (b := b) h3
        rw [e1, e2]
        have HH : Hid ((decide (0 ≤ n) && decide (n ≤ 1000000)) = false) := h'
        clear e1 e2 h1 h2 h3 h'
        go_enter Try.func46, Try.ntmps46
        go_wp2_with (first | (go_at_call 93; refine (sKey _ _).mono ?_; rintro e w' ⟨rfl, hw⟩; subst w'; first | rw [K1.out] | rw [K2.out]) | (go_at_call 57; refine (sInM _ _ _ _).mono ?_; rintro e w' ⟨rfl, hw⟩; subst w'; rw [HH.out]))
        go_returns
        exact ⟨rfl, by go_grown⟩
    · have K2 : Hid (keyB b = false) := Bool.eq_false_iff.2 h2
      obtain ⟨e1, e2⟩ := prf_no2 (a := a) (n := n) h2
      rw [e1, e2]
      clear e1 e2 h1 h2
      go_enter Try.func46, Try.ntmps46
      go_wp2_with (go_at_call 93; refine (sKey _ _).mono ?_; rintro e w' ⟨rfl, hw⟩; subst w'; first | rw [K1.out] | rw [K2.out])
      go_returns
      exact ⟨rfl, by go_grown⟩
  · have K1 : Hid (keyB a = false) := Bool.eq_false_iff.2 h1
    obtain ⟨e1, e2⟩ := prf_no1 (b := b) (n := n) h1
    rw [e1, e2]
    clear e1 e2 h1
    go_enter Try.func46, Try.ntmps46
    go_wp2_with (go_at_call 93; refine (sKey _ _).mono ?_; rintro e w' ⟨rfl, hw⟩; subst w'; rw [K1.out])
    go_returns
    exact ⟨rfl, by go_grown⟩
end Go.Proofs.Ythgdbbbdmhhjaaa
