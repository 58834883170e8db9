/- What keys, tokens, proofs and starts answer, of the program; nothing that was in memory turns; no condition. -/
import Derived.Test.YthgdbbbdmhhjaaaRows
import Derived.Test.YthgdbbbdmhhjaaaBase
import Derived.Test.YthgdbbbdmhhjaaaNum
import Derived.Test.YthgdbbbdmhhjaaaNumWalks
import Derived.Test.YthgdbbbdmhhjaaaInts
import Derived.Test.YthgdbbbdmhhjaaaMixDef
import Derived.Test.YthgdbbbdmhhjaaaMix
namespace Go.Proofs.Ythgdbbbdmhhjaaa
open Go.RowKit
set_option linter.unusedVariables false

/-- A box of two numbers, and a list laid behind it, behind a call that leaves both alone. -/
theorem two_box {w w1 : World} {x y : Value} {t : TypeId} {o : Obj} (hb : Below ((w.alloc (.cells #[x, y] t)).alloc o).heap.size ((w.alloc (.cells #[x, y] t)).alloc o) w1) :
    w1.cell? ⟨w.heap.size, 0, none⟩ = some x ∧ w1.cell? ⟨w.heap.size, 1, none⟩ = some y ∧ w1.frozen? ⟨w.heap.size, 0, none⟩ = false ∧ w1.frozen? ⟨w.heap.size, 1, none⟩ = false ∧ Below w.heap.size w w1 := by
  refine ⟨?_, ?_, ?_, ?_, ?_⟩
  · rw [hb.cell (p := ⟨w.heap.size, 0, none⟩) (by simp; omega)]; simp
  · rw [hb.cell (p := ⟨w.heap.size, 1, none⟩) (by simp; omega)]; simp
  · rw [hb.frozen (p := ⟨w.heap.size, 0, none⟩) (by simp; omega)]; simp
  · rw [hb.frozen (p := ⟨w.heap.size, 1, none⟩) (by simp; omega)]; simp
  · exact (((Below.refl _ _).alloc (Nat.le_refl _) _).alloc (by simp) _).trans (hb.mono (by simp; omega))

theorem one_box {w w1 : World} {x y : Value} {t : TypeId} (hb : Below (w.alloc (.cells #[x, y] t)).heap.size (w.alloc (.cells #[x, y] t)) w1) :
    w1.cell? ⟨w.heap.size, 0, none⟩ = some x ∧ w1.cell? ⟨w.heap.size, 1, none⟩ = some y ∧ w1.frozen? ⟨w.heap.size, 0, none⟩ = false ∧ w1.frozen? ⟨w.heap.size, 1, none⟩ = false ∧ Below w.heap.size w w1 := by
  refine ⟨?_, ?_, ?_, ?_, ?_⟩
  · rw [hb.cell (p := ⟨w.heap.size, 0, none⟩) (by simp)]; simp
  · rw [hb.cell (p := ⟨w.heap.size, 1, none⟩) (by simp)]; simp
  · rw [hb.frozen (p := ⟨w.heap.size, 0, none⟩) (by simp)]; simp
  · rw [hb.frozen (p := ⟨w.heap.size, 1, none⟩) (by simp)]; simp
  · exact ((Below.refl _ _).alloc (Nat.le_refl _) _).trans (hb.mono (by simp))

theorem iInBd (v low high : Int) (w : World) :
    Calls Try.prog 92 #[.int .i64 v, .int .i64 low, .int .i64 high] w fun e w' => e = .returned (.bool (decide (low ≤ v) && decide (v ≤ high))) ∧ w' = w := by
  by_cases h : low ≤ v
  · go_enter Try.func92, Try.ntmps92
    go_wp2
    go_ret
    exact ⟨ret_bool (by simp [h]), rfl⟩
  · have h' : decide (low ≤ v) = false := by simp; omega
    go_enter Try.func92, Try.ntmps92
    go_wp2
    go_ret
    exact ⟨ret_bool (by simp), rfl⟩
theorem iKeyFault (k : Int) (w : World) :
    Calls Try.prog 49 #[.int .i64 k] w fun e w' => e = .returned (.int .i64 (tokC k)) ∧ w' = w := by
  by_cases h : keyB k = true
  · rw [tok_yes h]
    have h' : (decide (1 ≤ k) && decide (k ≤ 999999)) = true := h
    go_enter Try.func49, Try.ntmps49
    go_wp2_with (go_at_call 92; refine (iInBd _ _ _ _).mono ?_; rintro e w' ⟨rfl, hw⟩; subst w'; rw [h'])
    go_ret
    exact ⟨rfl, rfl⟩
  · rw [tok_no h]
    have h' : (decide (1 ≤ k) && decide (k ≤ 999999)) = false := by simpa [keyB] using h
    go_enter Try.func49, Try.ntmps49
    go_wp2_with (go_at_call 92; refine (iInBd _ _ _ _).mono ?_; rintro e w' ⟨rfl, hw⟩; subst w'; rw [h'])
    go_ret
    exact ⟨rfl, rfl⟩
theorem iMixKey (k u : Int) (w : World) :
    Calls Try.prog 95 #[.int .i64 k, .int .i64 u] w fun e w' => e = .returned (.agg #[.int .i64 (tokC k), .int .i64 (tokV k u)]) ∧ Below w.heap.size w w' := by
  by_cases h : keyB k = true
  · rw [tok_yes h, tokV_yes h]
    have hk := fun w => iKeyFault k w
    rw [tok_yes h] at hk
    generalize hy : mixV [k, u] = y
    have HY : Hid (mixV [k, u] = y) := hy
    clear hy
    go_enter Try.func95, Try.ntmps95
    go_wp2_with (go_at_call 49; refine (hk _).mono ?_; rintro e w' ⟨rfl, hw⟩; subst w')
    refine (iMixOf (some ⟨w.heap.size + 1, 0, none⟩) 2 2 [k, u] _ (by rfl) (ri_two _ _ _ _ _ (by simp)) (by omega)).mono ?_
    rintro e w1 ⟨rfl, hb⟩
    obtain ⟨c0, c1, f0, f1, hbw⟩ := two_box hb
    clear hb
    rw [HY.out]
    go_wp2_with fail
    exact bodyPost_ret (v := .agg #[.int .i64 0, .int .i64 y]) (by simp [results, Try.results95, go_sem, c0, c1]) rfl ⟨rfl, (hbw.setCell (by simp) _).setCell (by simp) _⟩
  · rw [tok_no h, tokV_no h]
    have hk := fun w => iKeyFault k w
    rw [tok_no h] at hk
    go_enter Try.func95, Try.ntmps95
    go_wp2_with (go_at_call 49; refine (hk _).mono ?_; rintro e w' ⟨rfl, hw⟩; subst w')
    go_returns
    exact ⟨rfl, by go_grown⟩
theorem iTokenOf (k : Int) (w : World) :
    Calls Try.prog 47 #[.int .i64 k] w fun e w' => e = .returned (.agg #[.int .i64 (tokC k), .int .i64 (tokV k 1)]) ∧ Below w.heap.size w w' := by
  generalize hy : tokV k 1 = y
  have HY : Hid (tokV k 1 = y) := hy
  clear hy
  generalize hz : tokC k = z
  have HZ : Hid (tokC k = z) := hz
  clear hz
  go_enter Try.func47, Try.ntmps47
  go_wp2_with fail
  refine (iMixKey k 1 _).mono ?_
  rintro e w1 ⟨rfl, hb⟩
  rw [HY.out, HZ.out]
  obtain ⟨c0, c1, f0, f1, hbw⟩ := one_box hb
  clear hb
  go_wp2_with fail
  exact bodyPost_ret (v := .agg #[.int .i64 z, .int .i64 y]) (by simp [results, Try.results47, go_sem, c0, c1]) rfl ⟨rfl, (hbw.setCell (by simp) _).setCell (by simp) _⟩
theorem iStartOf (k : Int) (w : World) :
    Calls Try.prog 48 #[.int .i64 k] w fun e w' => e = .returned (.agg #[.int .i64 (tokC k), .int .i64 (staV k)]) ∧ Below w.heap.size w w' := by
  by_cases h : keyB k = true
  · have c := fun w => iMixKey k 2 w
    rw [tok_yes h, tokV_yes h] at c
    rw [tok_yes h, staV_yes h]
    generalize mixV [k, 2] = y at *
    generalize hz : wrp y = z
    have HZ : Hid (wrp y = z) := hz
    clear hz
    go_enter Try.func48, Try.ntmps48
    go_wp2_with fail
    refine (c _).mono ?_
    rintro e w1 ⟨rfl, hb⟩
    obtain ⟨c0, c1, f0, f1, hbw⟩ := one_box hb
    have hz1 : w.heap.size < w1.heap.size := by have := hb.size; simp at this; omega
    clear hb
    go_wp2_with (go_at_call 15; refine (iWrap _ _).mono ?_; rintro e w' ⟨rfl, hw⟩; subst w'; rw [HZ.out])
    exact bodyPost_ret (v := .agg #[.int .i64 0, .int .i64 z]) (by simp [results, Try.results48, go_sem, c0, c1, hz1]) rfl ⟨rfl, ((hbw.setCell (by simp) _).setCell (by simp) _).alloc (by simp; omega) _⟩
  · have c := fun w => iMixKey k 2 w
    rw [tok_no h, tokV_no h] at c
    rw [tok_no h, staV_no h]
    go_enter Try.func48, Try.ntmps48
    go_wp2_with fail
    refine (c _).mono ?_
    rintro e w1 ⟨rfl, hb⟩
    obtain ⟨c0, c1, f0, f1, hbw⟩ := one_box hb
    have hz1 : w.heap.size < w1.heap.size := by have := hb.size; simp at this; omega
    clear hb
    go_wp2_with fail
    exact bodyPost_ret (v := .agg #[.int .i64 3, .int .i64 0]) (by simp [results, Try.results48, go_sem, c0, c1, hz1]) rfl ⟨rfl, ((hbw.setCell (by simp) _).setCell (by simp) _).alloc (by simp; omega) _⟩
theorem iProofOf (a b n : Int) (w : World) :
    Calls Try.prog 44 #[.int .i64 a, .int .i64 b, .int .i64 n] w fun e w' => e = .returned (.agg #[.int .i64 (prfC a b n), .int .i64 (prfV a b n)]) ∧ Below w.heap.size w w' := by
  by_cases h1 : keyB a = true
  · have K1 : Hid (tokC a = 0) := tok_yes h1
    by_cases h2 : keyB b = true
    · have K2 : Hid (tokC b = 0) := tok_yes h2
      by_cases h3 : nonB n = true
      · have h' : (decide (0 ≤ n) && decide (n ≤ 1000000)) = true := h3
        obtain ⟨e1, e2⟩ := prf_yes h1 h2 h3
        rw [e1, e2]
        generalize hy : mixV [a, b, n] = y
        have HY : Hid (mixV [a, b, n] = y) := hy
        have HH : Hid ((decide (0 ≤ n) && decide (n ≤ 1000000)) = true) := h'
        clear hy e1 e2 h1 h2 h3 h'
        go_enter Try.func44, Try.ntmps44
        go_wp2_with (first | (go_at_call 49; refine (iKeyFault _ _).mono ?_; rintro e w' ⟨rfl, hw⟩; subst w'; first | rw [K1.out] | rw [K2.out]) | (go_at_call 92; refine (iInBd _ _ _ _).mono ?_; rintro e w' ⟨rfl, hw⟩; subst w'; rw [HH.out]))
        refine (iMixOf (some ⟨w.heap.size + 1, 0, none⟩) 3 3 [a, b, n] _ (by rfl) (ri_three _ _ _ _ _ _ (by simp)) (by omega)).mono ?_
        rintro e w1 ⟨rfl, hb⟩
        obtain ⟨c0, c1, f0, f1, hbw⟩ := two_box hb
        clear hb
        rw [HY.out]
        go_wp2_with fail
        exact bodyPost_ret (v := .agg #[.int .i64 0, .int .i64 y]) (by simp [results, Try.results44, go_sem, c0, c1]) rfl ⟨rfl, (hbw.setCell (by simp) _).setCell (by simp) _⟩
      · have h' : (decide (0 ≤ n) && decide (n ≤ 1000000)) = false := by simpa [nonB] using h3
        obtain ⟨e1, e2⟩ := prf_no3 (a := a) (b := b) h3
        rw [e1, e2]
        have HH : Hid ((decide (0 ≤ n) && decide (n ≤ 1000000)) = false) := h'
        clear e1 e2 h1 h2 h3 h'
        go_enter Try.func44, Try.ntmps44
        go_wp2_with (first | (go_at_call 49; refine (iKeyFault _ _).mono ?_; rintro e w' ⟨rfl, hw⟩; subst w'; first | rw [K1.out] | rw [K2.out]) | (go_at_call 92; refine (iInBd _ _ _ _).mono ?_; rintro e w' ⟨rfl, hw⟩; subst w'; rw [HH.out]))
        go_returns
        exact ⟨rfl, by go_grown⟩
    · have K2 : Hid (tokC b = 3) := tok_no h2
      obtain ⟨e1, e2⟩ := prf_no2 (a := a) (n := n) h2
      rw [e1, e2]
      clear e1 e2 h1 h2
      go_enter Try.func44, Try.ntmps44
      go_wp2_with (go_at_call 49; refine (iKeyFault _ _).mono ?_; rintro e w' ⟨rfl, hw⟩; subst w'; first | rw [K1.out] | rw [K2.out])
      go_returns
      exact ⟨rfl, by go_grown⟩
  · have K1 : Hid (tokC a = 3) := tok_no h1
    obtain ⟨e1, e2⟩ := prf_no1 (b := b) (n := n) h1
    rw [e1, e2]
    clear e1 e2 h1
    go_enter Try.func44, Try.ntmps44
    go_wp2_with (go_at_call 49; refine (iKeyFault _ _).mono ?_; rintro e w' ⟨rfl, hw⟩; subst w'; rw [K1.out])
    go_returns
    exact ⟨rfl, by go_grown⟩
theorem iGoodProof (a b n p : Int) (w : World) :
    Calls Try.prog 45 #[.int .i64 a, .int .i64 b, .int .i64 n, .int .i64 p] w fun e w' => e = .returned (.bool (goodB a b n p)) ∧ Below w.heap.size w w' := by
  have c := fun w => iProofOf a b n w
  rw [goodB_eq]
  generalize prfC a b n = x at *
  generalize prfV a b n = y at *
  by_cases h : x = 0
  · have h0 : (x == 0) = true := by simp [h]
    go_enter Try.func45, Try.ntmps45
    go_wp2_with fail
    refine (c _).mono ?_
    rintro e w1 ⟨rfl, hb⟩
    go_wp2_with fail
    go_ret
    exact ⟨ret_bool (by simp [h]; try exact beq_dec _ _), hb.alloc hb.size _⟩
  · have h0 : (x == 0) = false := by simp [h]
    go_enter Try.func45, Try.ntmps45
    go_wp2_with fail
    refine (c _).mono ?_
    rintro e w1 ⟨rfl, hb⟩
    go_wp2_with fail
    go_ret
    exact ⟨ret_bool (by simp [h]; try exact beq_dec _ _), hb.alloc hb.size _⟩
end Go.Proofs.Ythgdbbbdmhhjaaa
