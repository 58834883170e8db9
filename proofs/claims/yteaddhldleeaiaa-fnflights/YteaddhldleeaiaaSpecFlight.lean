/- What the model says of a sender's faults; nothing that was in memory turns; no condition but that loads are of at most a million bytes. -/
import Derived.Test.YteaddhldleeaiaaRows
import Derived.Test.YteaddhldleeaiaaBase
import Derived.Test.YteaddhldleeaiaaBytes
import Derived.Test.YteaddhldleeaiaaMem
import Derived.Test.YteaddhldleeaiaaMemOpen
import Derived.Test.YteaddhldleeaiaaMemRow
import Derived.Test.YteaddhldleeaiaaHBase
import Derived.Test.YteaddhldleeaiaaHFlight
import Derived.Test.YteaddhldleeaiaaHSender
import Derived.Test.YteaddhldleeaiaaFlightDef
import Derived.Test.YteaddhldleeaiaaBox
namespace Go.Proofs.Yteaddhldleeaiaa
open Go.RowKit
set_option linter.unusedVariables false

theorem sInD (v low high : Int) (w : World) :
    Calls Try.prog 46 #[.int .i64 v, .int .i64 low, .int .i64 high] w fun e w' => e = .returned (.bool (inD v low high)) ∧ w' = w := by
  by_cases h : low ≤ v
  · go_enter Try.func46, Try.ntmps46
    go_wp2
    go_ret
    exact ⟨ret_bool (by simp [inD, h]), rfl⟩
  · have h' : decide (low ≤ v) = false := by simp; omega
    go_enter Try.func46, Try.ntmps46
    go_wp2
    go_ret
    exact ⟨ret_bool (by simp [inD]; omega), rfl⟩
theorem sNumD (v : Int) (w : World) :
    Calls Try.prog 45 #[.int .i64 v] w fun e w' => e = .returned (.bool (inD v 0 65535)) ∧ w' = w := by
  go_enter Try.func45, Try.ntmps45
  go_wp2_with (go_at_call 46; refine (sInD _ _ _ _).mono ?_; rintro e w' ⟨rfl, hw⟩; subst w')
  go_ret
  exact ⟨rfl, rfl⟩
theorem sTickD (v : Int) (w : World) :
    Calls Try.prog 26 #[.int .i64 v] w fun e w' => e = .returned (.bool (inD v 0 1000000)) ∧ w' = w := by
  go_enter Try.func26, Try.ntmps26
  go_wp2_with (go_at_call 46; refine (sInD _ _ _ _).mono ?_; rintro e w' ⟨rfl, hw⟩; subst w')
  go_ret
  exact ⟨rfl, rfl⟩
theorem sPlcD (a : Int) (n : Nat) (w : World) (hn : n ≤ 1048576) :
    Calls Try.prog 25 #[.int .i64 a, .int .i64 n] w fun e w' => e = .returned (.bool (plcD a n)) ∧ w' = w := by
  by_cases h : inD a 0 400 = true
  · have hb := inD_yes h
    go_enter Try.func25, Try.ntmps25
    go_wp2_with (go_at_call 46; refine (sInD _ _ _ _).mono ?_; rintro e w' ⟨rfl, hw⟩; subst w'; rw [h])
    go_ret
    exact ⟨ret_bool (by simp [plcD, h]), rfl⟩
  · have h' : inD a 0 400 = false := by simpa using h
    go_enter Try.func25, Try.ntmps25
    go_wp2_with (go_at_call 46; refine (sInD _ _ _ _).mono ?_; rintro e w' ⟨rfl, hw⟩; subst w'; rw [h'])
    go_ret
    exact ⟨ret_bool (by simp [plcD, h']), rfl⟩
theorem sLodD (a : Option Addr) (n cap : Nat) (w : World) (hn : n ≤ 1048576) :
    Calls Try.prog 24 #[.slice a n cap] w fun e w' => e = .returned (.bool (lodD n)) ∧ w' = w := by
  by_cases h : 1 ≤ n
  · have h' : (1 : Int) ≤ (n : Int) := by omega
    go_enter Try.func24, Try.ntmps24
    go_wp2
    go_ret
    exact ⟨ret_bool (by simp [lodD, h]; omega), rfl⟩
  · have h' : decide ((1 : Int) ≤ (n : Int)) = false := by simp; omega
    go_enter Try.func24, Try.ntmps24
    go_wp2
    go_ret
    exact ⟨ret_bool (by simp [lodD]; omega), rfl⟩
set_option maxHeartbeats 4000000 in
theorem sL5FaultO (x : DSender) (a : Option Addr) (n cap sb of : Nat) (w : World) (B : Nat) (hn : x.2.2.2.1.length = n) (c0 : w.cell? ⟨sb, of, none⟩ = some (.int .i64 x.1)) (c1 : w.cell? ⟨sb, of + 1, none⟩ = some (.int .i64 x.2.1)) (c2 : w.cell? ⟨sb, of + 2, none⟩ = some (.int .i64 x.2.2.1)) (c3 : w.cell? ⟨sb, of + 3, none⟩ = some (.slice a n cap))
    (hr : shFlights.Rd w B x.2.2.2.1 [.slice a n cap]) (hB : B ≤ w.heap.size) (hT : ∀ k (hk : k < x.2.2.2.1.length), x.2.2.2.1[k].2.2.1.length ≤ 1048576) :
    Calls Try.prog 22 #[.pointer (some ⟨sb, of, none⟩)] w fun e w' => e = .returned (.int .i64 (sndFault x)) ∧ Below w.heap.size w w' := by
  have hsb := cell_lt c0
  replace hsb : sb < w.heap.size := hsb
  have hmx : n ≤ 9223372036854775807 := by rw [← hn]; exact row_max hr
  have HN : Hid (x.2.2.2.1.length = n) := hn
  by_cases hh : sndHead x = true
  · have hh' := hh
    unfold sndHead at hh'
    simp only [Bool.and_eq_true] at hh'
    obtain ⟨⟨g1, g2⟩, g3⟩ := hh'
    by_cases hm : 12 < n
    · rw [sndFault_many hh (by omega)]
      clear hr hT HN hn hh
      generalize x.1 = y0 at *
      generalize x.2.1 = y1 at *
      generalize x.2.2.1 = y2 at *
      go_enter Try.func22, Try.ntmps22
      go_wp2_with fail
      go_quiet ((first | (go_at_call 45; exact Calls.quiet_of_same (sNumD _ _)) | (go_at_call 26; exact Calls.quiet_of_same (sTickD _ _)) | (go_at_call 46; exact Calls.quiet_of_same (sInD _ _ _ _))))
      go_wp2_with fail
      go_ret
      exact ⟨rfl, below_drewN (Below.refl _ _) _⟩
    · rw [sndFault_fls hh (by omega)]
      have HRd : Hid (∀ W, Below w.heap.size w W → shFlights.Rd W B x.2.2.2.1 [.slice a n cap]) := fun W hW => hr.below hB hW
      have HT : Hid _ := hT
      have hb2 := inD_yes g2
      have hb3 := inD_yes g3
      clear hr hT hh hn
      obtain ⟨y0, y1, y2, l, _⟩ := x
      simp only at *
      generalize hRR : flsFault y1 y2 l = R
      have HRR : Hid (flsFault y1 y2 l = R) := hRR
      clear hRR
      obtain ⟨hb20, hb21⟩ := hb2
      obtain ⟨hb30, hb31⟩ := hb3
      have CB : Hid (∀ W, Below w.heap.size w W → W.cell? ⟨sb, of + 1, none⟩ = some (.int .i64 y1) ∧ W.cell? ⟨sb, of + 3, none⟩ = some (.slice a n cap)) := fun W hW => ⟨(hW.cell (p := ⟨sb, of + 1, none⟩) hsb).trans c1, (hW.cell (p := ⟨sb, of + 3, none⟩) hsb).trans c3⟩
      go_enter Try.func22, Try.ntmps22
      go_wp2_with fail
      go_quiet ((first | (go_at_call 45; exact Calls.quiet_of_same (sNumD _ _)) | (go_at_call 26; exact Calls.quiet_of_same (sTickD _ _)) | (go_at_call 46; exact Calls.quiet_of_same (sInD _ _ _ _))))
      go_wp2_with fail
      go_loopw [3, 4] (fun t i wr => ∃ (k : Nat) (e : Int), k ≤ n ∧ i = .int .i64 k ∧ t = .int .i64 e ∧ 0 ≤ e ∧ e ≤ 1000000 + 8 * (k : Int) ∧ Hid (flsFault y1 e (l.drop k) = R) ∧ Below w.heap.size w wr) (fun _ i _ => n - (intOf i).toNat)
      case atStart => exact ⟨0, y2, Nat.zero_le _, rfl, rfl, by omega, by omega, HRR.out, below_drewN (Below.refl _ _) _⟩
      case round =>
        obtain ⟨k, e, hk, rfl, rfl, he0, he1, hfe, hbl⟩ := hrel
        obtain ⟨d1, d3⟩ := CB.out _ hbl
        clear c0 c1 c2 c3 g1 g2 g3 HRR
        by_cases hlt : k < n
        · have hkl : k < l.length := by have := HN.out; omega
          obtain ⟨b, off, v, ha, hb, q0, q1, q2, q3, q4, r3⟩ := at_Flights (HRd.out wr hbl) k hkl
          subst ha
          obtain ⟨vv, ev, rk, -⟩ := rd_Flight r3
          simp only [List.cons.injEq, and_true, true_and] at ev
          subst ev
          obtain ⟨va, vc, ev2⟩ := row_form rk
          simp only [List.cons.injEq, and_true] at ev2
          subst ev2
          have hnn := HT.out k hkl
          have hst := flsFault_at y1 e hkl
          rw [hfe.out] at hst
          have HST : Hid _ := hst
          have HB : Hid _ := hbl
          clear rk r3 hst hbl hfe
          generalize hx : l[k] = X at *
          obtain ⟨z0, z1, d, z3, z4, _⟩ := X
          simp only at *
          clear hx
          have F1 : Hid ((plcD z1 d.length && inD z3 0 1000000 && inD z4 1 1000) = false → R = 3) := fun h => by rw [HST.out, flF_r (x := (z0, z1, d, z3, z4, ())) h]; rfl
          have F2 : Hid ((plcD z1 d.length && inD z3 0 1000000 && inD z4 1 1000) = true → (lodD d.length && decide (z0 = e)) = false → R = 1) := fun h h2 => by rw [HST.out, flF_f (x := (z0, z1, d, z3, z4, ())) h h2]; rfl
          have F3 : Hid ((plcD z1 d.length && inD z3 0 1000000 && inD z4 1 1000) = true → (lodD d.length && decide (z0 = e)) = true → flsFault y1 (e + d.length) (l.drop (k + 1)) = R) := fun h h2 => by rw [HST.out, flF_ok (x := (z0, z1, d, z3, z4, ())) h h2]; rfl
          clear HST
          generalize d.length = m at *
          have hkn : (k : Int) < (n : Int) := by omega
          by_cases k1 : plcD z1 m = true
          · by_cases k2 : inD z3 0 1000000 = true
            · by_cases k3 : inD z4 1 1000 = true
              · by_cases k4 : lodD m = true
                · have k4' := lodD_yes k4
                  by_cases k5 : z0 = e
                  · have k5' : (z0 != e) = false := by simp [k5]
                    have HF : Hid (flsFault y1 (e + m) (l.drop (k + 1)) = R) := F3.out (by simp [k1, k2, k3]) (by simp [k4, k5])
                    clear F1 F2 F3 k5
                    go_wp2_with (first | (go_at_call 25; refine (sPlcD _ _ _ (by omega)).mono ?_; rintro e w' ⟨rfl, hw⟩; subst w') | (go_at_call 26; refine (sTickD _ _).mono ?_; rintro e w' ⟨rfl, hw⟩; subst w') | (go_at_call 46; refine (sInD _ _ _ _).mono ?_; rintro e w' ⟨rfl, hw⟩; subst w') | (go_at_call 24; refine (sLodD _ _ _ _ (by omega)).mono ?_; rintro e w' ⟨rfl, hw⟩; subst w'))
                    go_roundw
                    case rel => exact ⟨k + 1, e + m, by omega, by go_num, rfl, by omega, by push_cast; omega, HF, HB.out.alloc HB.out.size _⟩
                    case measure => simp [intOf]; omega
                  · have k5' : (z0 != e) = true := by simp [k5]
                    have hR := F2.out (by simp [k1, k2, k3]) (by simp [k5])
                    subst hR
                    clear F1 F2 F3 k5
                    go_wp2_with (first | (go_at_call 25; refine (sPlcD _ _ _ (by omega)).mono ?_; rintro e w' ⟨rfl, hw⟩; subst w') | (go_at_call 26; refine (sTickD _ _).mono ?_; rintro e w' ⟨rfl, hw⟩; subst w') | (go_at_call 46; refine (sInD _ _ _ _).mono ?_; rintro e w' ⟨rfl, hw⟩; subst w') | (go_at_call 24; refine (sLodD _ _ _ _ (by omega)).mono ?_; rintro e w' ⟨rfl, hw⟩; subst w'))
                    go_ret
                    exact ⟨rfl, HB.out.alloc HB.out.size _⟩
                · replace k4 : lodD m = false := by simpa using k4
                  have hR := F2.out (by simp [k1, k2, k3]) (by simp [k4])
                  subst hR
                  clear F1 F2 F3
                  go_wp2_with (first | (go_at_call 25; refine (sPlcD _ _ _ (by omega)).mono ?_; rintro e w' ⟨rfl, hw⟩; subst w') | (go_at_call 26; refine (sTickD _ _).mono ?_; rintro e w' ⟨rfl, hw⟩; subst w') | (go_at_call 46; refine (sInD _ _ _ _).mono ?_; rintro e w' ⟨rfl, hw⟩; subst w') | (go_at_call 24; refine (sLodD _ _ _ _ (by omega)).mono ?_; rintro e w' ⟨rfl, hw⟩; subst w'))
                  go_ret
                  exact ⟨rfl, HB.out.alloc HB.out.size _⟩
              · replace k3 : inD z4 1 1000 = false := by simpa using k3
                have hR := F1.out (by simp [k3])
                subst hR
                clear F1 F2 F3
                go_wp2_with (first | (go_at_call 25; refine (sPlcD _ _ _ (by omega)).mono ?_; rintro e w' ⟨rfl, hw⟩; subst w') | (go_at_call 26; refine (sTickD _ _).mono ?_; rintro e w' ⟨rfl, hw⟩; subst w') | (go_at_call 46; refine (sInD _ _ _ _).mono ?_; rintro e w' ⟨rfl, hw⟩; subst w') | (go_at_call 24; refine (sLodD _ _ _ _ (by omega)).mono ?_; rintro e w' ⟨rfl, hw⟩; subst w'))
                go_ret
                exact ⟨rfl, HB.out.alloc HB.out.size _⟩
            · replace k2 : inD z3 0 1000000 = false := by simpa using k2
              have hR := F1.out (by simp [k2])
              subst hR
              clear F1 F2 F3
              go_wp2_with (first | (go_at_call 25; refine (sPlcD _ _ _ (by omega)).mono ?_; rintro e w' ⟨rfl, hw⟩; subst w') | (go_at_call 26; refine (sTickD _ _).mono ?_; rintro e w' ⟨rfl, hw⟩; subst w') | (go_at_call 46; refine (sInD _ _ _ _).mono ?_; rintro e w' ⟨rfl, hw⟩; subst w') | (go_at_call 24; refine (sLodD _ _ _ _ (by omega)).mono ?_; rintro e w' ⟨rfl, hw⟩; subst w'))
              go_ret
              exact ⟨rfl, HB.out.alloc HB.out.size _⟩
          · replace k1 : plcD z1 m = false := by simpa using k1
            have hR := F1.out (by simp [k1])
            subst hR
            clear F1 F2 F3
            go_wp2_with (first | (go_at_call 25; refine (sPlcD _ _ _ (by omega)).mono ?_; rintro e w' ⟨rfl, hw⟩; subst w') | (go_at_call 26; refine (sTickD _ _).mono ?_; rintro e w' ⟨rfl, hw⟩; subst w') | (go_at_call 46; refine (sInD _ _ _ _).mono ?_; rintro e w' ⟨rfl, hw⟩; subst w') | (go_at_call 24; refine (sLodD _ _ _ _ (by omega)).mono ?_; rintro e w' ⟨rfl, hw⟩; subst w'))
            go_ret
            exact ⟨rfl, HB.out.alloc HB.out.size _⟩
        · obtain rfl : k = n := by omega
          have he := hfe.out
          rw [← HN.out, flsFault_end] at he
          by_cases hq : e = y1
          · rw [if_pos hq] at he
            have hq' : (e != y1) = false := by simp [hq]
            subst he
            clear hq
            go_wp2_with fail
            go_ret
            exact ⟨rfl, hbl⟩
          · rw [if_neg hq] at he
            have hq' : (e != y1) = true := by simp [hq]
            subst he
            clear hq
            go_wp2_with fail
            go_ret
            exact ⟨rfl, hbl⟩
  · have hh' : sndHead x = false := by simpa using hh
    rw [sndFault_head hh']
    clear hr hT HN hn hh
    unfold sndHead at hh'
    generalize x.1 = y0 at *
    generalize x.2.1 = y1 at *
    generalize x.2.2.1 = y2 at *
    by_cases g1 : inD y0 0 65535 = true
    · by_cases g2 : inD y1 0 1000000 = true
      · have g3 : inD y2 0 y1 = false := by simpa [g1, g2] using hh'
        clear hh'
        go_enter Try.func22, Try.ntmps22
        go_wp2_with fail
        go_quiet ((first | (go_at_call 45; exact Calls.quiet_of_same (sNumD _ _)) | (go_at_call 26; exact Calls.quiet_of_same (sTickD _ _)) | (go_at_call 46; exact Calls.quiet_of_same (sInD _ _ _ _))))
        go_wp2_with fail
        go_ret
        exact ⟨rfl, below_drewN (Below.refl _ _) _⟩
      · replace g2 : inD y1 0 1000000 = false := by simpa using g2
        clear hh'
        go_enter Try.func22, Try.ntmps22
        go_wp2_with fail
        go_quiet ((first | (go_at_call 45; exact Calls.quiet_of_same (sNumD _ _)) | (go_at_call 26; exact Calls.quiet_of_same (sTickD _ _)) | (go_at_call 46; exact Calls.quiet_of_same (sInD _ _ _ _))))
        go_wp2_with fail
        go_ret
        exact ⟨rfl, below_drewN (Below.refl _ _) _⟩
    · replace g1 : inD y0 0 65535 = false := by simpa using g1
      clear hh'
      go_enter Try.func22, Try.ntmps22
      go_wp2_with fail
      go_quiet ((first | (go_at_call 45; exact Calls.quiet_of_same (sNumD _ _)) | (go_at_call 26; exact Calls.quiet_of_same (sTickD _ _)) | (go_at_call 46; exact Calls.quiet_of_same (sInD _ _ _ _))))
      go_wp2_with fail
      go_ret
      exact ⟨rfl, below_drewN (Below.refl _ _) _⟩
theorem sL5Fault (x : DSender) (a : Option Addr) (n cap sb : Nat) (w : World) (B : Nat) (hn : x.2.2.2.1.length = n) (c0 : w.cell? ⟨sb, 0, none⟩ = some (.int .i64 x.1)) (c1 : w.cell? ⟨sb, 1, none⟩ = some (.int .i64 x.2.1)) (c2 : w.cell? ⟨sb, 2, none⟩ = some (.int .i64 x.2.2.1)) (c3 : w.cell? ⟨sb, 3, none⟩ = some (.slice a n cap))
    (hr : shFlights.Rd w B x.2.2.2.1 [.slice a n cap]) (hB : B ≤ w.heap.size) (hT : ∀ k (hk : k < x.2.2.2.1.length), x.2.2.2.1[k].2.2.1.length ≤ 1048576) :
    Calls Try.prog 22 #[.pointer (some ⟨sb, 0, none⟩)] w fun e w' => e = .returned (.int .i64 (sndFault x)) ∧ Below w.heap.size w w' :=
  sL5FaultO x a n cap sb 0 w B hn c0 c1 c2 c3 hr hB hT
end Go.Proofs.Yteaddhldleeaiaa
