/- What the model answers of catches: their faults, a new one, places and numbers, how many were seen; nothing that was in memory turns; no condition but that there are at most a million spans. -/
import Derived.Test.YtebgibjokljlbaaRows
import Derived.Test.YtebgibjokljlbaaS01
import Derived.Test.YtebgibjokljlbaaS03
import Derived.Test.YtebgibjokljlbaaS04
import Derived.Test.YtebgibjokljlbaaS11
namespace Go.Proofs.Ytebgibjokljlbaa
open Go.RowKit
set_option linter.unusedVariables false
set_option maxRecDepth 8000
theorem sInC (v low high : Int) (w : World) :
    Calls Try.prog 97 #[.int .i64 v, .int .i64 low, .int .i64 high] w fun e w' => e = .returned (.bool (inC v low high)) ∧ w' = w := by
  by_cases h : low ≤ v
  · go_enter Try.func97, Try.ntmps97
    go_wp2
    go_ret
    exact ⟨ret_bool (by simp [inC, h]), rfl⟩
  · have h' : decide (low ≤ v) = false := by simp; omega
    go_enter Try.func97, Try.ntmps97
    go_wp2
    go_ret
    exact ⟨ret_bool (by simp [inC]; omega), rfl⟩
theorem sNumC (v : Int) (w : World) :
    Calls Try.prog 105 #[.int .i64 v] w fun e w' => e = .returned (.bool (inC v 0 65535)) ∧ w' = w := by
  go_enter Try.func105, Try.ntmps105
  go_wp2_with (go_at_call 97; refine (sInC _ _ _ _).mono ?_; rintro e w' ⟨rfl, hw⟩; subst w')
  go_ret
  exact ⟨rfl, rfl⟩
theorem sTickC (v : Int) (w : World) :
    Calls Try.prog 118 #[.int .i64 v] w fun e w' => e = .returned (.bool (inC v 0 1000000)) ∧ w' = w := by
  go_enter Try.func118, Try.ntmps118
  go_wp2_with (go_at_call 97; refine (sInC _ _ _ _).mono ?_; rintro e w' ⟨rfl, hw⟩; subst w')
  go_ret
  exact ⟨rfl, rfl⟩
set_option maxHeartbeats 4000000 in
theorem sL7FaultO (x : DCatch) (a : Option Addr) (n cap sb of : Nat) (w : World) (B : Nat) (hn : x.2.2.1.length = n) (c0 : w.cell? ⟨sb, of, none⟩ = some (.int .i64 x.1)) (c1 : w.cell? ⟨sb, of + 1, none⟩ = some (.int .i64 x.2.1)) (c2 : w.cell? ⟨sb, of + 2, none⟩ = some (.slice a n cap))
    (hr : shSpans.Rd w B x.2.2.1 [.slice a n cap]) (hB : B ≤ w.heap.size) :
    Calls Try.prog 120 #[.pointer (some ⟨sb, of, none⟩)] w fun e w' => e = .returned (.int .i64 (caF x)) ∧ Below w.heap.size w w' := by
  have hsb := cell_lt c0
  replace hsb : sb < w.heap.size := hsb
  have hmx : n ≤ 9223372036854775807 := by rw [← hn]; exact row_max hr
  have HN : Hid (x.2.2.1.length = n) := hn
  by_cases hh : caHead x = true
  · have hh' := hh
    unfold caHead at hh'
    simp only [Bool.and_eq_true] at hh'
    obtain ⟨g1, g2⟩ := hh'
    by_cases hm : 20 < n
    · rw [caF_many hh (by omega)]
      clear hr HN hn hh
      generalize x.1 = y0 at *
      generalize x.2.1 = y1 at *
      go_enter Try.func120, Try.ntmps120
      go_wp2_with (first | (go_at_call 105; refine (sNumC _ _).mono ?_; rintro e w' ⟨rfl, hw⟩; subst w') | (go_at_call 118; refine (sTickC _ _).mono ?_; rintro e w' ⟨rfl, hw⟩; subst w'))
      go_ret
      exact ⟨rfl, Below.refl _ _⟩
    · rw [caF_sps hh (by omega)]
      have HRd : Hid (∀ W, Below w.heap.size w W → shSpans.Rd W B x.2.2.1 [.slice a n cap]) := fun W hW => hr.below hB hW
      have hb2 := inC_yes g2
      clear hr hh hn
      obtain ⟨y0, y1, l, _⟩ := x
      simp only at *
      generalize hRR : spsF y1 l = R
      have HRR : Hid (spsF y1 l = R) := hRR
      clear hRR
      obtain ⟨hb20, hb21⟩ := hb2
      have CB : Hid (∀ W, Below w.heap.size w W → W.cell? ⟨sb, of + 2, none⟩ = some (.slice a n cap)) := fun W hW => (hW.cell (p := ⟨sb, of + 2, none⟩) hsb).trans c2
      go_enter Try.func120, Try.ntmps120
      go_wp2_with (first | (go_at_call 105; refine (sNumC _ _).mono ?_; rintro e w' ⟨rfl, hw⟩; subst w') | (go_at_call 118; refine (sTickC _ _).mono ?_; rintro e w' ⟨rfl, hw⟩; subst w'))
      go_loopw [3, 4] (fun t i wr => ∃ (k : Nat) (e : Int), k ≤ n ∧ i = .int .i64 k ∧ t = .int .i64 e ∧ Hid (spsF e (l.drop k) = R) ∧ Below w.heap.size w wr) (fun _ i _ => n - (intOf i).toNat)
      case atStart => exact ⟨0, y1, Nat.zero_le _, rfl, rfl, HRR.out, Below.refl _ _⟩
      case round =>
        obtain ⟨k, e, hk, rfl, rfl, hfe, hbl⟩ := hrel
        have d2 := CB.out _ hbl
        clear c0 c1 c2 g1 g2 HRR
        by_cases hlt : k < n
        · have hkl : k < l.length := by have := HN.out; omega
          obtain ⟨b, off, ha, hb, q0, q1, -, -⟩ := at_Spans (HRd.out wr hbl) k hkl
          subst ha
          have hst := spsF_at e hkl
          rw [hfe.out] at hst
          have HST : Hid _ := hst
          have HB : Hid _ := hbl
          clear hst hbl hfe
          generalize hx : l[k] = X at *
          obtain ⟨z0, z1, _⟩ := X
          simp only at *
          clear hx
          have F1 : Hid (1000100 < z1 → R = 3) := fun h => by rw [HST.out, spF_r (s := (z0, z1, ())) h]; rfl
          have F2 : Hid (¬ 1000100 < z1 → (z0 ≤ e ∨ z1 ≤ z0) → R = 1) := fun h h2 => by rw [HST.out, spF_f (s := (z0, z1, ())) h h2]; rfl
          have F3 : Hid (¬ 1000100 < z1 → ¬ (z0 ≤ e ∨ z1 ≤ z0) → spsF z1 (l.drop (k + 1)) = R) := fun h h2 => by rw [HST.out, spF_ok (s := (z0, z1, ())) h h2]; rfl
          clear HST
          have hkn : (k : Int) < (n : Int) := by omega
          by_cases k1 : 1000100 < z1
          · have hR := F1.out k1
            subst hR
            clear F1 F2 F3
            go_wp2_with fail
            go_ret
            exact ⟨rfl, HB.out.alloc HB.out.size _⟩
          · by_cases k2 : z0 ≤ e
            · have hR := F2.out k1 (Or.inl k2)
              subst hR
              clear F1 F2 F3
              go_wp2_with fail
              go_ret
              exact ⟨rfl, HB.out.alloc HB.out.size _⟩
            · have k2' : decide (z0 ≤ e) = false := by simp; omega
              by_cases k3 : z1 ≤ z0
              · have hR := F2.out k1 (Or.inr k3)
                subst hR
                clear F1 F2 F3
                go_wp2_with fail
                go_ret
                exact ⟨rfl, HB.out.alloc HB.out.size _⟩
              · have k3' : decide (z1 ≤ z0) = false := by simp; omega
                have HF : Hid (spsF z1 (l.drop (k + 1)) = R) := F3.out k1 (by omega)
                clear F1 F2 F3
                go_wp2_with fail
                go_roundw
                case rel => exact ⟨k + 1, z1, by omega, by go_num, rfl, HF, HB.out.alloc HB.out.size _⟩
                case measure => simp [intOf]; omega
        · obtain rfl : k = n := by omega
          have he := hfe.out
          rw [← HN.out, spsF_end] at he
          subst he
          go_wp2_with fail
          go_ret
          exact ⟨rfl, hbl⟩
  · have hh' : caHead x = false := by simpa using hh
    rw [caF_head hh']
    clear hr HN hn hh
    unfold caHead at hh'
    generalize x.1 = y0 at *
    generalize x.2.1 = y1 at *
    by_cases g1 : inC y0 0 65535 = true
    · have g2 : inC y1 0 1000000 = false := by simpa [g1] using hh'
      clear hh'
      go_enter Try.func120, Try.ntmps120
      go_wp2_with (first | (go_at_call 105; refine (sNumC _ _).mono ?_; rintro e w' ⟨rfl, hw⟩; subst w') | (go_at_call 118; refine (sTickC _ _).mono ?_; rintro e w' ⟨rfl, hw⟩; subst w'))
      go_ret
      exact ⟨rfl, Below.refl _ _⟩
    · replace g1 : inC y0 0 65535 = false := by simpa using g1
      clear hh'
      go_enter Try.func120, Try.ntmps120
      go_wp2_with (first | (go_at_call 105; refine (sNumC _ _).mono ?_; rintro e w' ⟨rfl, hw⟩; subst w') | (go_at_call 118; refine (sTickC _ _).mono ?_; rintro e w' ⟨rfl, hw⟩; subst w'))
      go_ret
      exact ⟨rfl, Below.refl _ _⟩
theorem sL7Fault (x : DCatch) (a : Option Addr) (n cap sb : Nat) (w : World) (B : Nat) (hn : x.2.2.1.length = n) (hc : ∀ o, w.cell? ⟨sb, o, none⟩ = (#[.int .i64 x.1, .int .i64 x.2.1, .slice a n cap] : Array Value)[o]?)
    (hr : shSpans.Rd w B x.2.2.1 [.slice a n cap]) (hB : B ≤ w.heap.size) :
    Calls Try.prog 120 #[.pointer (some ⟨sb, 0, none⟩)] w fun e w' => e = .returned (.int .i64 (caF x)) ∧ Below w.heap.size w w' :=
  sL7FaultO x a n cap sb 0 w B hn (hc 0) (hc 1) (hc 2) hr hB
end Go.Proofs.Ytebgibjokljlbaa
