/- Plain facts on the mixing of whole numbers: what it leaves lies below 1000003, number by number; what is told of keys and proofs; no condition. -/
import Derived.Test.YthgdbbbdmhhjaaaBase
import Derived.Test.YthgdbbbdmhhjaaaNum
namespace Go.Proofs.Ythgdbbbdmhhjaaa
open Go.RowKit
set_option linter.unusedVariables false

/-- One number mixed in. -/
def mixS (h n : Int) : Int := (h * 8191 + n % 1000003 + 1) % 1000003
/-- Many numbers mixed. -/
def mixT (l : List Int) : Int := l.foldl mixS 17
def mixV (l : List Int) : Int := mixT l % 1000000

theorem mixS_bd (h n : Int) : 0 ≤ mixS h n ∧ mixS h n ≤ 1000002 := by unfold mixS; omega
theorem mixF_bd : ∀ (l : List Int) (h : Int), 0 ≤ h → h ≤ 1000002 → 0 ≤ l.foldl mixS h ∧ l.foldl mixS h ≤ 1000002
  | [], h, h0, h1 => ⟨h0, h1⟩
  | n :: l, h, _, _ => mixF_bd l (mixS h n) (mixS_bd h n).1 (mixS_bd h n).2
theorem mixT_bd (l : List Int) : 0 ≤ mixT l ∧ mixT l ≤ 1000002 := mixF_bd l 17 (by omega) (by omega)
theorem mixV_bd (l : List Int) : 0 ≤ mixV l ∧ mixV l ≤ 999999 := by unfold mixV; omega
theorem mixT_take {l : List Int} {k : Nat} (hk : k < l.length) : mixT (l.take (k + 1)) = mixS (mixT (l.take k)) (l.getD k 0) := by
  unfold mixT
  rw [List.take_succ_eq_append_getElem hk, List.foldl_append, List.getD_eq_getElem?_getD, List.getElem?_eq_getElem hk]
  rfl

theorem tmd_def (n : Int) : n.tmod 1000003 = n % 1000003 ∨ (n.tmod 1000003 = n % 1000003 - 1000003 ∧ n % 1000003 ≠ 0) := by
  rw [Int.tmod_eq_emod]
  by_cases h : 0 ≤ n ∨ (1000003 : Int) ∣ n
  · left; rw [if_pos h]; simp
  · right; rw [if_neg h]
    have h2 : ¬ (1000003 : Int) ∣ n := fun x => h (Or.inr x)
    exact ⟨by rfl, fun e => h2 (Int.dvd_of_emod_eq_zero e)⟩
theorem tmd_bd (n : Int) : -1000003 < n.tmod 1000003 ∧ n.tmod 1000003 < 1000003 := by have := tmd_def n; omega
theorem tmd_neg {n : Int} (h : n.tmod 1000003 < 0) : n.tmod 1000003 + 1000003 = n % 1000003 := by have := tmd_def n; omega
theorem tmd_pos {n : Int} (h : ¬ n.tmod 1000003 < 0) : n.tmod 1000003 = n % 1000003 := by have := tmd_def n; omega
theorem tmd_add (n : Int) : (n.tmod 1000003 + 1000003) % 1000003 = n % 1000003 := by have := tmd_def n; omega

theorem w64 {n : Int} (h : -9223372036854775808 ≤ n) (h' : n ≤ 9223372036854775807) : IntKind.i64.wrap n = n := by
  simp only [IntKind.wrap, IntKind.bits, IntKind.signed]; simp; omega
theorem mixS_w {h x : Int} (h0 : 0 ≤ h) (h1 : h ≤ 1000002) (r0 : 0 ≤ x) (r1 : x ≤ 1000002) : (IntKind.i64.wrap (IntKind.i64.wrap (IntKind.i64.wrap (h * 8191) + x) + 1)).tmod 1000003 = (h * 8191 + x + 1) % 1000003 := by
  rw [w64 (n := h * 8191) (by omega) (by omega), w64 (n := h * 8191 + x) (by omega) (by omega), w64 (by omega) (by omega)]
  exact Int.tmod_eq_emod_of_nonneg (by omega)

/-- A key. -/
def keyB (k : Int) : Bool := decide (1 ≤ k) && decide (k ≤ 999999)
def nonB (k : Int) : Bool := decide (0 ≤ k) && decide (k ≤ 1000000)
def tokC (k : Int) : Int := if keyB k then 0 else 3
def tokV (k u : Int) : Int := if keyB k then mixV [k, u] else 0
def prfB (a b n : Int) : Bool := keyB a && keyB b && nonB n
def prfC (a b n : Int) : Int := if prfB a b n then 0 else 3
def prfV (a b n : Int) : Int := if prfB a b n then mixV [a, b, n] else 0
def staV (k : Int) : Int := if keyB k then wrp (mixV [k, 2]) else 0
theorem tok_yes {k : Int} (h : keyB k = true) : tokC k = 0 := by simp [tokC, h]
theorem tok_no {k : Int} (h : ¬ keyB k = true) : tokC k = 3 := by simp [tokC, h]
theorem tokV_yes {k u : Int} (h : keyB k = true) : tokV k u = mixV [k, u] := by simp [tokV, h]
theorem tokV_no {k u : Int} (h : ¬ keyB k = true) : tokV k u = 0 := by simp [tokV, h]
theorem staV_yes {k : Int} (h : keyB k = true) : staV k = wrp (mixV [k, 2]) := by simp [staV, h]
theorem staV_no {k : Int} (h : ¬ keyB k = true) : staV k = 0 := by simp [staV, h]
theorem prf_yes {a b n : Int} (h1 : keyB a = true) (h2 : keyB b = true) (h3 : nonB n = true) : prfC a b n = 0 ∧ prfV a b n = mixV [a, b, n] := by simp [prfC, prfV, prfB, h1, h2, h3]
theorem prf_no {a b n : Int} (h : ¬ prfB a b n = true) : prfC a b n = 3 ∧ prfV a b n = 0 := by simp [prfC, prfV, h]
theorem prf_no1 {a b n : Int} (h : ¬ keyB a = true) : prfC a b n = 3 ∧ prfV a b n = 0 := prf_no (by simp [prfB, h])
theorem prf_no2 {a b n : Int} (h : ¬ keyB b = true) : prfC a b n = 3 ∧ prfV a b n = 0 := prf_no (by simp [prfB, h])
theorem prf_no3 {a b n : Int} (h : ¬ nonB n = true) : prfC a b n = 3 ∧ prfV a b n = 0 := prf_no (by simp [prfB, h])
def goodB (a b n p : Int) : Bool := prfB a b n && decide (mixV [a, b, n] = p)
theorem goodB_eq (a b n p : Int) : goodB a b n p = (decide (prfC a b n = 0) && decide (prfV a b n = p)) := by
  unfold goodB prfC prfV
  by_cases h : prfB a b n = true <;> simp [h]
theorem beq_dec (x y : Int) : (x == y) = decide (x = y) := by by_cases h : x = y <;> simp [h]
theorem prfV_bd (a b n : Int) : 0 ≤ prfV a b n ∧ prfV a b n ≤ 999999 := by
  unfold prfV; split
  · exact mixV_bd _
  · omega
theorem ret_pair' {c v c' v' : Int} (hc : c = c') (hv : v = v') : Ending.returned (.agg #[.int .i64 c, .int .i64 v]) = .returned (.agg #[.int .i64 c', .int .i64 v']) := by rw [hc, hv]
end Go.Proofs.Ythgdbbbdmhhjaaa
