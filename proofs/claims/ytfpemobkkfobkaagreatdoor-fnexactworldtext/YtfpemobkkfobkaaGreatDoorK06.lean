/- What the model answers of catches: their faults, a new one, places and numbers, how many were seen; nothing that was in memory turns; no condition but that there are at most a million spans. -/
import Derived.Test.YtfpemobkkfobkaaGreatDoorRows
import Derived.Test.YtfpemobkkfobkaaGreatDoorK01
import Derived.Test.YtfpemobkkfobkaaGreatDoorK02
import Derived.Test.YtfpemobkkfobkaaGreatDoorK03
namespace Go.Proofs.YtfpemobkkfobkaaGreatDoor
open Go.RowKit
set_option linter.unusedVariables false
set_option maxRecDepth 8000

theorem sInC (v low high : Int) (w : World) :
    Calls Tryz.prog 29 #[.int .i64 v, .int .i64 low, .int .i64 high] w fun e w' => e = .returned (.bool (inC v low high)) ∧ w' = w := by
  by_cases h : low ≤ v
  · go_enter Tryz.func29, Tryz.ntmps29
    go_wp2
    go_ret
    exact ⟨ret_bool (by simp [inC, h]), rfl⟩
  · have h' : decide (low ≤ v) = false := by simp; omega
    go_enter Tryz.func29, Tryz.ntmps29
    go_wp2
    go_ret
    exact ⟨ret_bool (by simp [inC]; omega), rfl⟩
theorem sNumC (v : Int) (w : World) :
    Calls Tryz.prog 71 #[.int .i64 v] w fun e w' => e = .returned (.bool (inC v 0 65535)) ∧ w' = w := by
  go_enter Tryz.func71, Tryz.ntmps71
  go_wp2_with (go_at_call 29; refine (sInC _ _ _ _).mono ?_; rintro e w' ⟨rfl, hw⟩; subst w')
  go_ret
  exact ⟨rfl, rfl⟩
theorem sTickC (v : Int) (w : World) :
    Calls Tryz.prog 89 #[.int .i64 v] w fun e w' => e = .returned (.bool (inC v 0 1000000)) ∧ w' = w := by
  go_enter Tryz.func89, Tryz.ntmps89
  go_wp2_with (go_at_call 29; refine (sInC _ _ _ _).mono ?_; rintro e w' ⟨rfl, hw⟩; subst w')
  go_ret
  exact ⟨rfl, rfl⟩
set_option maxHeartbeats 4000000 in
theorem sL7FaultO (x : DCatch) (a : Option Addr) (n cap sb of : Nat) (w : World) (B : Nat) (hn : x.2.2.1.length = n) (c0 : w.cell? ⟨sb, of, none⟩ = some (.int .i64 x.1)) (c1 : w.cell? ⟨sb, of + 1, none⟩ = some (.int .i64 x.2.1)) (c2 : w.cell? ⟨sb, of + 2, none⟩ = some (.slice a n cap))
    (hr : shSpans.Rd w B x.2.2.1 [.slice a n cap]) (hB : B ≤ w.heap.size) :
    Calls Tryz.prog 91 #[.pointer (some ⟨sb, of, none⟩)] w fun e w' => e = .returned (.int .i64 (caF x)) ∧ Below w.heap.size w w' := by
  have hsb := cell_lt c0
  replace hsb : sb < w.heap.size := hsb
  have hmx : n ≤ 9223372036854775807 := by rw [← hn]; exact row_max hr
  have HN : Hid (x.2.2.1.length = n) := hn
  by_cases hh : caHead x = true
  · have hh' := hh
    unfold caHead at hh'
    simp only [Bool.and_eq_true] at hh'
    obtain ⟨g1, g2⟩ := hh'
    by_cases hm : 20 < n
    · rw [caF_many hh (by omega)]
      clear hr HN hn hh
      generalize x.1 = y0 at *
      generalize x.2.1 = y1 at *
      go_enter Tryz.func91, Tryz.ntmps91
      go_wp2_with (first | (go_at_call 71; refine (sNumC _ _).mono ?_; rintro e w' ⟨rfl, hw⟩; subst w') | (go_at_call 89; refine (sTickC _ _).mono ?_; rintro e w' ⟨rfl, hw⟩; subst w'))
      go_ret
      exact ⟨rfl, Below.refl _ _⟩
    · rw [caF_sps hh (by omega)]
      have HRd : Hid (∀ W, Below w.heap.size w W → shSpans.Rd W B x.2.2.1 [.slice a n cap]) := fun W hW => hr.below hB hW
      have hb2 := inC_yes g2
      clear hr hh hn
      obtain ⟨y0, y1, l, _⟩ := x
      simp only at *
      generalize hRR : spsF y1 l = R
      have HRR : Hid (spsF y1 l = R) := hRR
      clear hRR
      obtain ⟨hb20, hb21⟩ := hb2
      have CB : Hid (∀ W, Below w.heap.size w W → W.cell? ⟨sb, of + 2, none⟩ = some (.slice a n cap)) := fun W hW => (hW.cell (p := ⟨sb, of + 2, none⟩) hsb).trans c2
      go_enter Tryz.func91, Tryz.ntmps91
      go_wp2_with (first | (go_at_call 71; refine (sNumC _ _).mono ?_; rintro e w' ⟨rfl, hw⟩; subst w') | (go_at_call 89; refine (sTickC _ _).mono ?_; rintro e w' ⟨rfl, hw⟩; subst w'))
      go_loopw [3, 4] (fun t i wr => ∃ (k : Nat) (e : Int), k ≤ n ∧ i = .int .i64 k ∧ t = .int .i64 e ∧ Hid (spsF e (l.drop k) = R) ∧ Below w.heap.size w wr) (fun _ i _ => n - (intOf i).toNat)
      case atStart => exact ⟨0, y1, Nat.zero_le _, rfl, rfl, HRR.out, Below.refl _ _⟩
      case round =>
        obtain ⟨k, e, hk, rfl, rfl, hfe, hbl⟩ := hrel
        have d2 := CB.out _ hbl
        clear c0 c1 c2 g1 g2 HRR
        by_cases hlt : k < n
        · have hkl : k < l.length := by have := HN.out; omega
          obtain ⟨b, off, ha, hb, q0, q1, -, -⟩ := at_Spans (HRd.out wr hbl) k hkl
          subst ha
          have hst := spsF_at e hkl
          rw [hfe.out] at hst
          have HST : Hid _ := hst
          have HB : Hid _ := hbl
          clear hst hbl hfe
          generalize hx : l[k] = X at *
          obtain ⟨z0, z1, _⟩ := X
          simp only at *
          clear hx
          have F1 : Hid (1000100 < z1 → R = 3) := fun h => by rw [HST.out, spF_r (s := (z0, z1, ())) h]; rfl
          have F2 : Hid (¬ 1000100 < z1 → (z0 ≤ e ∨ z1 ≤ z0) → R = 1) := fun h h2 => by rw [HST.out, spF_f (s := (z0, z1, ())) h h2]; rfl
          have F3 : Hid (¬ 1000100 < z1 → ¬ (z0 ≤ e ∨ z1 ≤ z0) → spsF z1 (l.drop (k + 1)) = R) := fun h h2 => by rw [HST.out, spF_ok (s := (z0, z1, ())) h h2]; rfl
          clear HST
          have hkn : (k : Int) < (n : Int) := by omega
          by_cases k1 : 1000100 < z1
          · have hR := F1.out k1
            subst hR
            clear F1 F2 F3
            go_wp2_with fail
            go_ret
            exact ⟨rfl, HB.out.alloc HB.out.size _⟩
          · by_cases k2 : z0 ≤ e
            · have hR := F2.out k1 (Or.inl k2)
              subst hR
              clear F1 F2 F3
              go_wp2_with fail
              go_ret
              exact ⟨rfl, HB.out.alloc HB.out.size _⟩
            · have k2' : decide (z0 ≤ e) = false := by simp; omega
              by_cases k3 : z1 ≤ z0
              · have hR := F2.out k1 (Or.inr k3)
                subst hR
                clear F1 F2 F3
                go_wp2_with fail
                go_ret
                exact ⟨rfl, HB.out.alloc HB.out.size _⟩
              · have k3' : decide (z1 ≤ z0) = false := by simp; omega
                have HF : Hid (spsF z1 (l.drop (k + 1)) = R) := F3.out k1 (by omega)
                clear F1 F2 F3
                go_wp2_with fail
                go_roundw
                case rel => exact ⟨k + 1, z1, by omega, by go_num, rfl, HF, HB.out.alloc HB.out.size _⟩
                case measure => simp [intOf]; omega
        · obtain rfl : k = n := by omega
          have he := hfe.out
          rw [← HN.out, spsF_end] at he
          subst he
          go_wp2_with fail
          go_ret
          exact ⟨rfl, hbl⟩
  · have hh' : caHead x = false := by simpa using hh
    rw [caF_head hh']
    clear hr HN hn hh
    unfold caHead at hh'
    generalize x.1 = y0 at *
    generalize x.2.1 = y1 at *
    by_cases g1 : inC y0 0 65535 = true
    · have g2 : inC y1 0 1000000 = false := by simpa [g1] using hh'
      clear hh'
      go_enter Tryz.func91, Tryz.ntmps91
      go_wp2_with (first | (go_at_call 71; refine (sNumC _ _).mono ?_; rintro e w' ⟨rfl, hw⟩; subst w') | (go_at_call 89; refine (sTickC _ _).mono ?_; rintro e w' ⟨rfl, hw⟩; subst w'))
      go_ret
      exact ⟨rfl, Below.refl _ _⟩
    · replace g1 : inC y0 0 65535 = false := by simpa using g1
      clear hh'
      go_enter Tryz.func91, Tryz.ntmps91
      go_wp2_with (first | (go_at_call 71; refine (sNumC _ _).mono ?_; rintro e w' ⟨rfl, hw⟩; subst w') | (go_at_call 89; refine (sTickC _ _).mono ?_; rintro e w' ⟨rfl, hw⟩; subst w'))
      go_ret
      exact ⟨rfl, Below.refl _ _⟩
theorem sL7Fault (x : DCatch) (a : Option Addr) (n cap sb : Nat) (w : World) (B : Nat) (hn : x.2.2.1.length = n) (hc : ∀ o, w.cell? ⟨sb, o, none⟩ = (#[.int .i64 x.1, .int .i64 x.2.1, .slice a n cap] : Array Value)[o]?)
    (hr : shSpans.Rd w B x.2.2.1 [.slice a n cap]) (hB : B ≤ w.heap.size) :
    Calls Tryz.prog 91 #[.pointer (some ⟨sb, 0, none⟩)] w fun e w' => e = .returned (.int .i64 (caF x)) ∧ Below w.heap.size w w' :=
  sL7FaultO x a n cap sb 0 w B hn (hc 0) (hc 1) (hc 2) hr hB
end Go.Proofs.YtfpemobkkfobkaaGreatDoor

/- What the program answers of catches: their faults, a new one, places and numbers; nothing that was in memory turns; no condition but that there are at most a million spans. -/
namespace Go.Proofs.YtfpemobkkfobkaaGreatDoor
open Go.RowKit
set_option linter.unusedVariables false
set_option maxRecDepth 8000

theorem iInC (v low high : Int) (w : World) :
    Calls Tryz.prog 37 #[.int .i64 v, .int .i64 low, .int .i64 high] w fun e w' => e = .returned (.bool (inC v low high)) ∧ w' = w := by
  by_cases h : low ≤ v
  · go_enter Tryz.func37, Tryz.ntmps37
    go_wp2
    go_ret
    exact ⟨ret_bool (by simp [inC, h]), rfl⟩
  · have h' : decide (low ≤ v) = false := by simp; omega
    go_enter Tryz.func37, Tryz.ntmps37
    go_wp2
    go_ret
    exact ⟨ret_bool (by simp [inC]; omega), rfl⟩
theorem iSpF (z0 z1 e0 : Int) (w : World) :
    Calls Tryz.prog 148 #[.agg #[.int .i64 z0, .int .i64 z1], .int .i64 e0] w fun e w' => e = .returned (.int .i64 (spF (z0, z1, ()) e0)) ∧ Below w.heap.size w w' := by
  by_cases k1 : 1000100 < z1
  · rw [spF_r (s := (z0, z1, ())) k1]
    go_enter Tryz.func148, Tryz.ntmps148
    go_wp2_with fail
    go_ret
    exact ⟨rfl, by go_grown⟩
  · by_cases k2 : z0 ≤ e0
    · rw [spF_f (s := (z0, z1, ())) k1 (Or.inl k2)]
      go_enter Tryz.func148, Tryz.ntmps148
      go_wp2_with fail
      go_ret
      exact ⟨rfl, by go_grown⟩
    · have k2' : decide (z0 ≤ e0) = false := by simp; omega
      by_cases k3 : z1 ≤ z0
      · rw [spF_f (s := (z0, z1, ())) k1 (Or.inr k3)]
        go_enter Tryz.func148, Tryz.ntmps148
        go_wp2_with fail
        go_ret
        exact ⟨rfl, by go_grown⟩
      · have k3' : decide (z1 ≤ z0) = false := by simp; omega
        rw [spF_ok (s := (z0, z1, ())) k1 (by show ¬ (z0 ≤ e0 ∨ z1 ≤ z0); omega)]
        go_enter Tryz.func148, Tryz.ntmps148
        go_wp2_with fail
        go_ret
        exact ⟨rfl, by go_grown⟩
set_option maxHeartbeats 4000000 in
theorem iCatchFault (x : DCatch) (v : Value) (w : World) (B : Nat) (hr : shCatch.Rd w B x [.int .i64 x.1, .int .i64 x.2.1, v]) (hB : B ≤ w.heap.size) (hT : totCatch x ≤ 1048576) :
    Calls Tryz.prog 128 #[.agg #[.int .i64 x.1, .int .i64 x.2.1, v]] w fun e w' => e = .returned (.int .i64 (caF x)) ∧ Below w.heap.size w w' := by
  obtain ⟨vv, ev, rk, -⟩ := rd_Catch hr
  simp only [List.cons.injEq, and_true, true_and] at ev
  subst ev
  obtain ⟨a, cap, ev2⟩ := row_form rk
  simp only [List.cons.injEq, and_true] at ev2
  subst ev2
  have hmx : x.2.2.1.length ≤ 9223372036854775807 := row_max rk
  by_cases hh : caHead x = true
  · have hh' := hh
    unfold caHead at hh'
    simp only [Bool.and_eq_true] at hh'
    obtain ⟨g1, g2⟩ := hh'
    by_cases hm : 20 < x.2.2.1.length
    · rw [caF_many hh (by omega)]
      clear hr hh rk hT
      generalize x.1 = y0 at *
      generalize x.2.1 = y1 at *
      generalize x.2.2.1.length = n at *
      go_enter Tryz.func128, Tryz.ntmps128
      go_wp2_with (go_at_call 37; refine (iInC _ _ _ _).mono ?_; rintro e w' ⟨rfl, hw⟩; subst w')
      go_ret
      exact ⟨rfl, by go_grown⟩
    · rw [caF_sps hh (by omega)]
      have HRd : Hid (∀ W, Below w.heap.size w W → shSpans.Rd W B x.2.2.1 [.slice a x.2.2.1.length cap]) := fun W hW => rk.below hB hW
      have hb2 := inC_yes g2
      clear hr hh rk hT
      obtain ⟨y0, y1, l, _⟩ := x
      simp only at *
      generalize hRR : spsF y1 l = R
      have HRR : Hid (spsF y1 l = R) := hRR
      clear hRR
      obtain ⟨hb20, hb21⟩ := hb2
      obtain ⟨n, hn⟩ : ∃ n, l.length = n := ⟨_, rfl⟩
      have HN : Hid (l.length = n) := hn
      rw [hn] at HRd hm hmx ⊢
      clear hn
      go_enter Tryz.func128, Tryz.ntmps128
      go_wp2_with (go_at_call 37; refine (iInC _ _ _ _).mono ?_; rintro e w' ⟨rfl, hw⟩; subst w')
      go_loopw [3, 26] (fun t i wr => ∃ (k : Nat) (e : Int), k ≤ n ∧ i = .int .i64 k ∧ t = .int .i64 e ∧ Hid (spsF e (l.drop k) = R) ∧ Hid (Below w.heap.size w wr)) (fun _ i _ => n - (intOf i).toNat)
      case atStart => exact ⟨0, y1, Nat.zero_le _, rfl, rfl, HRR.out, (by show Below _ _ _; go_grown)⟩
      case round =>
        obtain ⟨k, e, hk, rfl, rfl, hfe, HB⟩ := hrel
        clear g1 g2 HRR
        by_cases hlt : k < n
        · have hkl : k < l.length := by have := HN.out; omega
          obtain ⟨b, off, ha, hb, q0, q1, -, -⟩ := at_Spans (HRd.out wr HB.out) k hkl
          subst ha
          have hst := spsF_at e hkl
          rw [hfe.out] at hst
          have HST : Hid _ := hst
          clear hst hfe
          have hkn : (k : Int) < (n : Int) := by omega
          generalize hx : l[k] = X at *
          obtain ⟨z0, z1, _⟩ := X
          simp only at *
          clear hx
          have HC : Hid (∀ W : World, Calls Tryz.prog 148 #[.agg #[.int .i64 z0, .int .i64 z1], .int .i64 e] W fun e w' => e = .returned (.int .i64 (spF (z0, z1, ()) _)) ∧ Below W.heap.size W w') := fun W => iSpF z0 z1 e W
          generalize spF (z0, z1, ()) e = F at *
          have hbW' : wr.heap.size ≤ wr.heap.size := Nat.le_refl _
          by_cases hF : F = 0
          · have hs := HST.out
            rw [if_pos hF] at hs
            have HF : Hid _ := hs
            have hF' : (F != 0) = false := by simp [hF]
            clear HST hs
            go_wp2_with fail
            refine (HC.out _).mono ?_
            rintro e w1 ⟨rfl, hb1⟩
            have k5 : ∀ o, w1.cell? ⟨wr.heap.size, o, none⟩ = (#[.int .i64 z0, .int .i64 z1] : Array Value)[o]? := fun o => by rw [hb1.cell (p := ⟨wr.heap.size, o, none⟩) (by simp)]; simp [go_sem]
            have hbW : Below wr.heap.size wr w1 := Below.trans (by go_grown) (hb1.mono (by simp))
            have HB1 : Hid (Below w.heap.size w w1) := HB.out.trans (hbW.mono HB.out.size)
            clear hbW hb1
            go_wp2_with fail
            go_roundw
            case rel => exact ⟨k + 1, z1, by omega, by go_num, rfl, HF.out.symm, HB1.out⟩
            case measure => simp [intOf]; omega
          · have hs := HST.out
            rw [if_neg hF] at hs
            have hF' : (F != 0) = true := by simp [hF]
            subst hs
            clear HST
            go_wp2_with fail
            refine (HC.out _).mono ?_
            rintro e w1 ⟨rfl, hb1⟩
            have hbW : Below wr.heap.size wr w1 := Below.trans (by go_grown) (hb1.mono (by simp))
            have HB1 : Hid (Below w.heap.size w w1) := HB.out.trans (hbW.mono HB.out.size)
            clear hbW hb1
            go_wp2_with fail
            go_ret
            exact ⟨rfl, HB1.out⟩
        · obtain rfl : k = n := by omega
          have he := hfe.out
          rw [← HN.out, spsF_end] at he
          subst he
          go_wp2_with fail
          go_ret
          exact ⟨rfl, HB.out⟩
  · have hh' : caHead x = false := by simpa using hh
    rw [caF_head hh']
    clear hr hh rk hT
    unfold caHead at hh'
    generalize x.1 = y0 at *
    generalize x.2.1 = y1 at *
    generalize x.2.2.1.length = n at *
    by_cases g1 : inC y0 0 65535 = true
    · have g2 : inC y1 0 1000000 = false := by simpa [g1] using hh'
      clear hh'
      go_enter Tryz.func128, Tryz.ntmps128
      go_wp2_with (go_at_call 37; refine (iInC _ _ _ _).mono ?_; rintro e w' ⟨rfl, hw⟩; subst w')
      go_ret
      exact ⟨rfl, by go_grown⟩
    · replace g1 : inC y0 0 65535 = false := by simpa using g1
      clear hh'
      go_enter Tryz.func128, Tryz.ntmps128
      go_wp2_with (go_at_call 37; refine (iInC _ _ _ _).mono ?_; rintro e w' ⟨rfl, hw⟩; subst w')
      go_ret
      exact ⟨rfl, by go_grown⟩
end Go.Proofs.YtfpemobkkfobkaaGreatDoor
