/- What the laws' draw of a number below n gives; nothing that was in memory turns; no condition but on n and the index. -/
import Derived.Test.YtebgibjokljlbaaRows
import Derived.Deep.DeepCutAuto
import Derived.Deep.RegionHeld3
import Derived.Test.YtebgibjokljlbaaK01
namespace Go.Proofs.Ytebgibjokljlbaa
open Go.RowKit
set_option linter.unusedVariables false

set_option maxHeartbeats 1000000 in
set_option maxRecDepth 8000 in
theorem lLwAt (a : Option Addr) (n cap : Nat) (l : List Int) (i m : Int) (w : World) (hl : l.length = n) (hr : RB w a l) (hn : n ≤ 1048576) (hi0 : 0 ≤ i) (hi1 : i ≤ 100) (hm0 : 1 ≤ m) (hm1 : m ≤ 200) :
    Calls Try.prog 15 #[.slice a n cap, .int .i64 i, .int .i64 m] w fun e w' => ∃ r : Nat, e = .returned (.int .i64 r) ∧ (r : Int) < m ∧ Below w.heap.size w w' := by
  by_cases h1 : m ≤ 1
  · clear hr
    go_enter Try.func15, Try.ntmps15
    go_wp2
    go_ret
    exact ⟨0, rfl, by omega, Below.refl _ _⟩
  · by_cases h2 : n = 0
    · subst h2
      clear hr
      go_enter Try.func15, Try.ntmps15
      go_wp2
      have q0 : 0 ≤ i * 7 % m := Int.emod_nonneg _ (by omega)
      have q1 : i * 7 % m < m := Int.emod_lt_of_pos _ (by omega)
      obtain ⟨r, hr⟩ : ∃ r : Nat, i * 7 % m = (r : Int) := ⟨(i * 7 % m).toNat, by omega⟩
      rw [hr]
      go_ret
      exact ⟨r, rfl, by omega, Below.refl _ _⟩
    · rcases hr.mem with e | ⟨b, off, rfl, hc⟩
      · exact absurd (by rw [← hl, e]; rfl) h2
      · obtain ⟨k, hk⟩ : ∃ k : Nat, k = (i % (n : Int)).toNat := ⟨_, rfl⟩
        have hk0 : 0 ≤ i % (n : Int) := Int.emod_nonneg _ (by omega)
        have hk1 : i % (n : Int) < n := Int.emod_lt_of_pos _ (by omega)
        have hkk : i % (n : Int) = (k : Int) := by omega
        have ck := hc k (by omega)
        have bk := getD_bd hr.bd k (by omega)
        have hkn : k < n := by omega
        clear hc hr hk hk0 hk1
        generalize l.getD k 0 = x at *
        have hm2 : ¬ 200 < m := by omega
        have hd0 : 0 ≤ i / (n : Int) := Int.ediv_nonneg hi0 (by omega)
        have hd1 : i / (n : Int) ≤ 100 := Int.le_trans (Int.ediv_le_self _ hi0) hi1
        go_enter Try.func15, Try.ntmps15
        go_wp2_with (go_quiet (fail))
        have q0 : 0 ≤ (x + i / (n : Int) * 3) % m := Int.emod_nonneg _ (by omega)
        have q1 : (x + i / (n : Int) * 3) % m < m := Int.emod_lt_of_pos _ (by omega)
        obtain ⟨r, hr⟩ : ∃ r : Nat, (x + i / (n : Int) * 3) % m = (r : Int) := ⟨((x + i / (n : Int) * 3) % m).toNat, by omega⟩
        rw [hr]
        go_ret
        exact ⟨r, rfl, by omega, below_drewN (Below.refl _ _) nq⟩
end Go.Proofs.Ytebgibjokljlbaa
