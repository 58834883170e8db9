/- What the model says of a sender's faults; nothing that was in memory turns; no condition but that loads are of at most a million bytes. -/
import Derived.Test.YtfpemobkkfobkaaGreatDoorRows
import Derived.Test.YtfpemobkkfobkaaGreatDoorK01
import Derived.Test.YtfpemobkkfobkaaGreatDoorK02
import Derived.Test.YtfpemobkkfobkaaGreatDoorK03
namespace Go.Proofs.YtfpemobkkfobkaaGreatDoor
open Go.RowKit
set_option linter.unusedVariables false

theorem sInD (v low high : Int) (w : World) :
    Calls Tryz.prog 29 #[.int .i64 v, .int .i64 low, .int .i64 high] w fun e w' => e = .returned (.bool (inD v low high)) ∧ w' = w := by
  by_cases h : low ≤ v
  · go_enter Tryz.func29, Tryz.ntmps29
    go_wp2
    go_ret
    exact ⟨ret_bool (by simp [inD, h]), rfl⟩
  · have h' : decide (low ≤ v) = false := by simp; omega
    go_enter Tryz.func29, Tryz.ntmps29
    go_wp2
    go_ret
    exact ⟨ret_bool (by simp [inD]; omega), rfl⟩
theorem sNumD (v : Int) (w : World) :
    Calls Tryz.prog 71 #[.int .i64 v] w fun e w' => e = .returned (.bool (inD v 0 65535)) ∧ w' = w := by
  go_enter Tryz.func71, Tryz.ntmps71
  go_wp2_with (go_at_call 29; refine (sInD _ _ _ _).mono ?_; rintro e w' ⟨rfl, hw⟩; subst w')
  go_ret
  exact ⟨rfl, rfl⟩
theorem sTickD (v : Int) (w : World) :
    Calls Tryz.prog 89 #[.int .i64 v] w fun e w' => e = .returned (.bool (inD v 0 1000000)) ∧ w' = w := by
  go_enter Tryz.func89, Tryz.ntmps89
  go_wp2_with (go_at_call 29; refine (sInD _ _ _ _).mono ?_; rintro e w' ⟨rfl, hw⟩; subst w')
  go_ret
  exact ⟨rfl, rfl⟩
theorem sPlcD (a : Int) (n : Nat) (w : World) (hn : n ≤ 1048576) :
    Calls Tryz.prog 69 #[.int .i64 a, .int .i64 n] w fun e w' => e = .returned (.bool (plcD a n)) ∧ w' = w := by
  by_cases h : inD a 0 400 = true
  · have hb := inD_yes h
    go_enter Tryz.func69, Tryz.ntmps69
    go_wp2_with (go_at_call 29; refine (sInD _ _ _ _).mono ?_; rintro e w' ⟨rfl, hw⟩; subst w'; rw [h])
    go_ret
    exact ⟨ret_bool (by simp [plcD, h]), rfl⟩
  · have h' : inD a 0 400 = false := by simpa using h
    go_enter Tryz.func69, Tryz.ntmps69
    go_wp2_with (go_at_call 29; refine (sInD _ _ _ _).mono ?_; rintro e w' ⟨rfl, hw⟩; subst w'; rw [h'])
    go_ret
    exact ⟨ret_bool (by simp [plcD, h']), rfl⟩
theorem sLodD (a : Option Addr) (n cap : Nat) (w : World) (hn : n ≤ 1048576) :
    Calls Tryz.prog 120 #[.slice a n cap] w fun e w' => e = .returned (.bool (lodD n)) ∧ w' = w := by
  by_cases h : 1 ≤ n
  · have h' : (1 : Int) ≤ (n : Int) := by omega
    go_enter Tryz.func120, Tryz.ntmps120
    go_wp2
    go_ret
    exact ⟨ret_bool (by simp [lodD, h]; omega), rfl⟩
  · have h' : decide ((1 : Int) ≤ (n : Int)) = false := by simp; omega
    go_enter Tryz.func120, Tryz.ntmps120
    go_wp2
    go_ret
    exact ⟨ret_bool (by simp [lodD]; omega), rfl⟩
set_option maxHeartbeats 4000000 in
theorem sL5FaultO (x : DSender) (a : Option Addr) (n cap sb of : Nat) (w : World) (B : Nat) (hn : x.2.2.2.1.length = n) (c0 : w.cell? ⟨sb, of, none⟩ = some (.int .i64 x.1)) (c1 : w.cell? ⟨sb, of + 1, none⟩ = some (.int .i64 x.2.1)) (c2 : w.cell? ⟨sb, of + 2, none⟩ = some (.int .i64 x.2.2.1)) (c3 : w.cell? ⟨sb, of + 3, none⟩ = some (.slice a n cap))
    (hr : shFlights.Rd w B x.2.2.2.1 [.slice a n cap]) (hB : B ≤ w.heap.size) (hT : ∀ k (hk : k < x.2.2.2.1.length), x.2.2.2.1[k].2.2.1.length ≤ 1048576) :
    Calls Tryz.prog 90 #[.pointer (some ⟨sb, of, none⟩)] w fun e w' => e = .returned (.int .i64 (sndFault x)) ∧ Below w.heap.size w w' := by
  have hsb := cell_lt c0
  replace hsb : sb < w.heap.size := hsb
  have hmx : n ≤ 9223372036854775807 := by rw [← hn]; exact row_max hr
  have HN : Hid (x.2.2.2.1.length = n) := hn
  by_cases hh : sndHead x = true
  · have hh' := hh
    unfold sndHead at hh'
    simp only [Bool.and_eq_true] at hh'
    obtain ⟨⟨g1, g2⟩, g3⟩ := hh'
    by_cases hm : 12 < n
    · rw [sndFault_many hh (by omega)]
      clear hr hT HN hn hh
      generalize x.1 = y0 at *
      generalize x.2.1 = y1 at *
      generalize x.2.2.1 = y2 at *
      go_enter Tryz.func90, Tryz.ntmps90
      go_wp2_with fail
      go_quiet ((first | (go_at_call 71; exact Calls.quiet_of_same (sNumD _ _)) | (go_at_call 89; exact Calls.quiet_of_same (sTickD _ _)) | (go_at_call 29; exact Calls.quiet_of_same (sInD _ _ _ _))))
      go_wp2_with fail
      go_ret
      exact ⟨rfl, below_drewN (Below.refl _ _) _⟩
    · rw [sndFault_fls hh (by omega)]
      have HRd : Hid (∀ W, Below w.heap.size w W → shFlights.Rd W B x.2.2.2.1 [.slice a n cap]) := fun W hW => hr.below hB hW
      have HT : Hid _ := hT
      have hb2 := inD_yes g2
      have hb3 := inD_yes g3
      clear hr hT hh hn
      obtain ⟨y0, y1, y2, l, _⟩ := x
      simp only at *
      generalize hRR : flsFault y1 y2 l = R
      have HRR : Hid (flsFault y1 y2 l = R) := hRR
      clear hRR
      obtain ⟨hb20, hb21⟩ := hb2
      obtain ⟨hb30, hb31⟩ := hb3
      have CB : Hid (∀ W, Below w.heap.size w W → W.cell? ⟨sb, of + 1, none⟩ = some (.int .i64 y1) ∧ W.cell? ⟨sb, of + 3, none⟩ = some (.slice a n cap)) := fun W hW => ⟨(hW.cell (p := ⟨sb, of + 1, none⟩) hsb).trans c1, (hW.cell (p := ⟨sb, of + 3, none⟩) hsb).trans c3⟩
      go_enter Tryz.func90, Tryz.ntmps90
      go_wp2_with fail
      go_quiet ((first | (go_at_call 71; exact Calls.quiet_of_same (sNumD _ _)) | (go_at_call 89; exact Calls.quiet_of_same (sTickD _ _)) | (go_at_call 29; exact Calls.quiet_of_same (sInD _ _ _ _))))
      go_wp2_with fail
      go_loopw [3, 4] (fun t i wr => ∃ (k : Nat) (e : Int), k ≤ n ∧ i = .int .i64 k ∧ t = .int .i64 e ∧ 0 ≤ e ∧ e ≤ 1000000 + 8 * (k : Int) ∧ Hid (flsFault y1 e (l.drop k) = R) ∧ Below w.heap.size w wr) (fun _ i _ => n - (intOf i).toNat)
      case atStart => exact ⟨0, y2, Nat.zero_le _, rfl, rfl, by omega, by omega, HRR.out, below_drewN (Below.refl _ _) _⟩
      case round =>
        obtain ⟨k, e, hk, rfl, rfl, he0, he1, hfe, hbl⟩ := hrel
        obtain ⟨d1, d3⟩ := CB.out _ hbl
        clear c0 c1 c2 c3 g1 g2 g3 HRR
        by_cases hlt : k < n
        · have hkl : k < l.length := by have := HN.out; omega
          obtain ⟨b, off, v, ha, hb, q0, q1, q2, q3, q4, r3⟩ := at_Flights (HRd.out wr hbl) k hkl
          subst ha
          obtain ⟨vv, ev, rk, -⟩ := rd_Flight r3
          simp only [List.cons.injEq, and_true, true_and] at ev
          subst ev
          obtain ⟨va, vc, ev2⟩ := row_form rk
          simp only [List.cons.injEq, and_true] at ev2
          subst ev2
          have hnn := HT.out k hkl
          have hst := flsFault_at y1 e hkl
          rw [hfe.out] at hst
          have HST : Hid _ := hst
          have HB : Hid _ := hbl
          clear rk r3 hst hbl hfe
          generalize hx : l[k] = X at *
          obtain ⟨z0, z1, d, z3, z4, _⟩ := X
          simp only at *
          clear hx
          have F1 : Hid ((plcD z1 d.length && inD z3 0 1000000 && inD z4 1 1000) = false → R = 3) := fun h => by rw [HST.out, flF_r (x := (z0, z1, d, z3, z4, ())) h]; rfl
          have F2 : Hid ((plcD z1 d.length && inD z3 0 1000000 && inD z4 1 1000) = true → (lodD d.length && decide (z0 = e)) = false → R = 1) := fun h h2 => by rw [HST.out, flF_f (x := (z0, z1, d, z3, z4, ())) h h2]; rfl
          have F3 : Hid ((plcD z1 d.length && inD z3 0 1000000 && inD z4 1 1000) = true → (lodD d.length && decide (z0 = e)) = true → flsFault y1 (e + d.length) (l.drop (k + 1)) = R) := fun h h2 => by rw [HST.out, flF_ok (x := (z0, z1, d, z3, z4, ())) h h2]; rfl
          clear HST
          generalize d.length = m at *
          have hkn : (k : Int) < (n : Int) := by omega
          by_cases k1 : plcD z1 m = true
          · by_cases k2 : inD z3 0 1000000 = true
            · by_cases k3 : inD z4 1 1000 = true
              · by_cases k4 : lodD m = true
                · have k4' := lodD_yes k4
                  by_cases k5 : z0 = e
                  · have k5' : (z0 != e) = false := by simp [k5]
                    have HF : Hid (flsFault y1 (e + m) (l.drop (k + 1)) = R) := F3.out (by simp [k1, k2, k3]) (by simp [k4, k5])
                    clear F1 F2 F3 k5
                    go_wp2_with (first | (go_at_call 69; refine (sPlcD _ _ _ (by omega)).mono ?_; rintro e w' ⟨rfl, hw⟩; subst w') | (go_at_call 89; refine (sTickD _ _).mono ?_; rintro e w' ⟨rfl, hw⟩; subst w') | (go_at_call 29; refine (sInD _ _ _ _).mono ?_; rintro e w' ⟨rfl, hw⟩; subst w') | (go_at_call 120; refine (sLodD _ _ _ _ (by omega)).mono ?_; rintro e w' ⟨rfl, hw⟩; subst w'))
                    go_roundw
                    case rel => exact ⟨k + 1, e + m, by omega, by go_num, rfl, by omega, by push_cast; omega, HF, HB.out.alloc HB.out.size _⟩
                    case measure => simp [intOf]; omega
                  · have k5' : (z0 != e) = true := by simp [k5]
                    have hR := F2.out (by simp [k1, k2, k3]) (by simp [k5])
                    subst hR
                    clear F1 F2 F3 k5
                    go_wp2_with (first | (go_at_call 69; refine (sPlcD _ _ _ (by omega)).mono ?_; rintro e w' ⟨rfl, hw⟩; subst w') | (go_at_call 89; refine (sTickD _ _).mono ?_; rintro e w' ⟨rfl, hw⟩; subst w') | (go_at_call 29; refine (sInD _ _ _ _).mono ?_; rintro e w' ⟨rfl, hw⟩; subst w') | (go_at_call 120; refine (sLodD _ _ _ _ (by omega)).mono ?_; rintro e w' ⟨rfl, hw⟩; subst w'))
                    go_ret
                    exact ⟨rfl, HB.out.alloc HB.out.size _⟩
                · replace k4 : lodD m = false := by simpa using k4
                  have hR := F2.out (by simp [k1, k2, k3]) (by simp [k4])
                  subst hR
                  clear F1 F2 F3
                  go_wp2_with (first | (go_at_call 69; refine (sPlcD _ _ _ (by omega)).mono ?_; rintro e w' ⟨rfl, hw⟩; subst w') | (go_at_call 89; refine (sTickD _ _).mono ?_; rintro e w' ⟨rfl, hw⟩; subst w') | (go_at_call 29; refine (sInD _ _ _ _).mono ?_; rintro e w' ⟨rfl, hw⟩; subst w') | (go_at_call 120; refine (sLodD _ _ _ _ (by omega)).mono ?_; rintro e w' ⟨rfl, hw⟩; subst w'))
                  go_ret
                  exact ⟨rfl, HB.out.alloc HB.out.size _⟩
              · replace k3 : inD z4 1 1000 = false := by simpa using k3
                have hR := F1.out (by simp [k3])
                subst hR
                clear F1 F2 F3
                go_wp2_with (first | (go_at_call 69; refine (sPlcD _ _ _ (by omega)).mono ?_; rintro e w' ⟨rfl, hw⟩; subst w') | (go_at_call 89; refine (sTickD _ _).mono ?_; rintro e w' ⟨rfl, hw⟩; subst w') | (go_at_call 29; refine (sInD _ _ _ _).mono ?_; rintro e w' ⟨rfl, hw⟩; subst w') | (go_at_call 120; refine (sLodD _ _ _ _ (by omega)).mono ?_; rintro e w' ⟨rfl, hw⟩; subst w'))
                go_ret
                exact ⟨rfl, HB.out.alloc HB.out.size _⟩
            · replace k2 : inD z3 0 1000000 = false := by simpa using k2
              have hR := F1.out (by simp [k2])
              subst hR
              clear F1 F2 F3
              go_wp2_with (first | (go_at_call 69; refine (sPlcD _ _ _ (by omega)).mono ?_; rintro e w' ⟨rfl, hw⟩; subst w') | (go_at_call 89; refine (sTickD _ _).mono ?_; rintro e w' ⟨rfl, hw⟩; subst w') | (go_at_call 29; refine (sInD _ _ _ _).mono ?_; rintro e w' ⟨rfl, hw⟩; subst w') | (go_at_call 120; refine (sLodD _ _ _ _ (by omega)).mono ?_; rintro e w' ⟨rfl, hw⟩; subst w'))
              go_ret
              exact ⟨rfl, HB.out.alloc HB.out.size _⟩
          · replace k1 : plcD z1 m = false := by simpa using k1
            have hR := F1.out (by simp [k1])
            subst hR
            clear F1 F2 F3
            go_wp2_with (first | (go_at_call 69; refine (sPlcD _ _ _ (by omega)).mono ?_; rintro e w' ⟨rfl, hw⟩; subst w') | (go_at_call 89; refine (sTickD _ _).mono ?_; rintro e w' ⟨rfl, hw⟩; subst w') | (go_at_call 29; refine (sInD _ _ _ _).mono ?_; rintro e w' ⟨rfl, hw⟩; subst w') | (go_at_call 120; refine (sLodD _ _ _ _ (by omega)).mono ?_; rintro e w' ⟨rfl, hw⟩; subst w'))
            go_ret
            exact ⟨rfl, HB.out.alloc HB.out.size _⟩
        · obtain rfl : k = n := by omega
          have he := hfe.out
          rw [← HN.out, flsFault_end] at he
          by_cases hq : e = y1
          · rw [if_pos hq] at he
            have hq' : (e != y1) = false := by simp [hq]
            subst he
            clear hq
            go_wp2_with fail
            go_ret
            exact ⟨rfl, hbl⟩
          · rw [if_neg hq] at he
            have hq' : (e != y1) = true := by simp [hq]
            subst he
            clear hq
            go_wp2_with fail
            go_ret
            exact ⟨rfl, hbl⟩
  · have hh' : sndHead x = false := by simpa using hh
    rw [sndFault_head hh']
    clear hr hT HN hn hh
    unfold sndHead at hh'
    generalize x.1 = y0 at *
    generalize x.2.1 = y1 at *
    generalize x.2.2.1 = y2 at *
    by_cases g1 : inD y0 0 65535 = true
    · by_cases g2 : inD y1 0 1000000 = true
      · have g3 : inD y2 0 y1 = false := by simpa [g1, g2] using hh'
        clear hh'
        go_enter Tryz.func90, Tryz.ntmps90
        go_wp2_with fail
        go_quiet ((first | (go_at_call 71; exact Calls.quiet_of_same (sNumD _ _)) | (go_at_call 89; exact Calls.quiet_of_same (sTickD _ _)) | (go_at_call 29; exact Calls.quiet_of_same (sInD _ _ _ _))))
        go_wp2_with fail
        go_ret
        exact ⟨rfl, below_drewN (Below.refl _ _) _⟩
      · replace g2 : inD y1 0 1000000 = false := by simpa using g2
        clear hh'
        go_enter Tryz.func90, Tryz.ntmps90
        go_wp2_with fail
        go_quiet ((first | (go_at_call 71; exact Calls.quiet_of_same (sNumD _ _)) | (go_at_call 89; exact Calls.quiet_of_same (sTickD _ _)) | (go_at_call 29; exact Calls.quiet_of_same (sInD _ _ _ _))))
        go_wp2_with fail
        go_ret
        exact ⟨rfl, below_drewN (Below.refl _ _) _⟩
    · replace g1 : inD y0 0 65535 = false := by simpa using g1
      clear hh'
      go_enter Tryz.func90, Tryz.ntmps90
      go_wp2_with fail
      go_quiet ((first | (go_at_call 71; exact Calls.quiet_of_same (sNumD _ _)) | (go_at_call 89; exact Calls.quiet_of_same (sTickD _ _)) | (go_at_call 29; exact Calls.quiet_of_same (sInD _ _ _ _))))
      go_wp2_with fail
      go_ret
      exact ⟨rfl, below_drewN (Below.refl _ _) _⟩
theorem sL5Fault (x : DSender) (a : Option Addr) (n cap sb : Nat) (w : World) (B : Nat) (hn : x.2.2.2.1.length = n) (c0 : w.cell? ⟨sb, 0, none⟩ = some (.int .i64 x.1)) (c1 : w.cell? ⟨sb, 1, none⟩ = some (.int .i64 x.2.1)) (c2 : w.cell? ⟨sb, 2, none⟩ = some (.int .i64 x.2.2.1)) (c3 : w.cell? ⟨sb, 3, none⟩ = some (.slice a n cap))
    (hr : shFlights.Rd w B x.2.2.2.1 [.slice a n cap]) (hB : B ≤ w.heap.size) (hT : ∀ k (hk : k < x.2.2.2.1.length), x.2.2.2.1[k].2.2.1.length ≤ 1048576) :
    Calls Tryz.prog 90 #[.pointer (some ⟨sb, 0, none⟩)] w fun e w' => e = .returned (.int .i64 (sndFault x)) ∧ Below w.heap.size w w' :=
  sL5FaultO x a n cap sb 0 w B hn c0 c1 c2 c3 hr hB hT
end Go.Proofs.YtfpemobkkfobkaaGreatDoor

/- What the program answers of a sender: its fault, what is on its way, the number of a place, a new one; nothing that was in memory turns; no condition but that loads are of at most a million bytes. -/
namespace Go.Proofs.YtfpemobkkfobkaaGreatDoor
open Go.RowKit
set_option linter.unusedVariables false

theorem iInD (v low high : Int) (w : World) :
    Calls Tryz.prog 37 #[.int .i64 v, .int .i64 low, .int .i64 high] w fun e w' => e = .returned (.bool (inD v low high)) ∧ w' = w := by
  by_cases h : low ≤ v
  · go_enter Tryz.func37, Tryz.ntmps37
    go_wp2
    go_ret
    exact ⟨ret_bool (by simp [inD, h]), rfl⟩
  · have h' : decide (low ≤ v) = false := by simp; omega
    go_enter Tryz.func37, Tryz.ntmps37
    go_wp2
    go_ret
    exact ⟨ret_bool (by simp [inD]; omega), rfl⟩
theorem iPlcD (a : Int) (ad : Option Addr) (n cap : Nat) (w : World) (hn : n ≤ 1048576) :
    Calls Tryz.prog 145 #[.int .i64 a, .slice ad n cap] w fun e w' => e = .returned (.bool (!plcD a n)) ∧ w' = w := by
  by_cases h : a < 0
  · go_enter Tryz.func145, Tryz.ntmps145
    go_wp2_with fail
    go_ret
    exact ⟨ret_bool (by simp [plcD, inD]; omega), rfl⟩
  · go_enter Tryz.func145, Tryz.ntmps145
    go_wp2_with fail
    go_ret
    exact ⟨ret_bool (by rw [Bool.eq_iff_iff]; simp [plcD, inD]; omega), rfl⟩
theorem iLodD (a : Option Addr) (n cap : Nat) (w : World) :
    Calls Tryz.prog 157 #[.slice a n cap] w fun e w' => e = .returned (.bool (lodD n)) ∧ w' = w := by
  go_enter Tryz.func157, Tryz.ntmps157
  go_wp2_with (go_at_call 37; refine (iInD _ _ _ _).mono ?_; rintro e w' ⟨rfl, hw⟩; subst w')
  go_ret
  exact ⟨ret_bool (by rw [Bool.eq_iff_iff]; simp [lodD, inD]; omega), rfl⟩
theorem iFlEnd (z0 z1 z3 z4 : Int) (a : Option Addr) (m cap : Nat) (w : World) (h0 : -4611686018427387904 ≤ z0) (h1 : z0 ≤ 4611686018427387904) (hn : m ≤ 1048576) :
    Calls Tryz.prog 147 #[.agg #[.int .i64 z0, .int .i64 z1, .slice a m cap, .int .i64 z3, .int .i64 z4]] w fun e w' => e = .returned (.int .i64 (z0 + m)) ∧ Below w.heap.size w w' := by
  go_enter Tryz.func147, Tryz.ntmps147
  go_wp2_with fail
  go_ret
  exact ⟨rfl, by go_grown⟩
set_option maxHeartbeats 1000000 in
theorem iFlFault (z0 z1 z3 z4 : Int) (d : List Int) (a : Option Addr) (cap : Nat) (e0 : Int) (w : World) (hn : d.length ≤ 1048576) :
    Calls Tryz.prog 146 #[.agg #[.int .i64 z0, .int .i64 z1, .slice a d.length cap, .int .i64 z3, .int .i64 z4], .int .i64 e0] w fun e w' => e = .returned (.int .i64 (flFault (z0, z1, d, z3, z4, ()) e0)) ∧ Below w.heap.size w w' := by
  have F1 : Hid ((plcD z1 d.length && inD z3 0 1000000 && inD z4 1 1000) = false → flFault (z0, z1, d, z3, z4, ()) e0 = 3) := fun h => flF_r (x := (z0, z1, d, z3, z4, ())) h
  have F2 : Hid ((plcD z1 d.length && inD z3 0 1000000 && inD z4 1 1000) = true → (lodD d.length && decide (z0 = e0)) = false → flFault (z0, z1, d, z3, z4, ()) e0 = 1) := fun h h2 => flF_f (x := (z0, z1, d, z3, z4, ())) h h2
  have F3 : Hid ((plcD z1 d.length && inD z3 0 1000000 && inD z4 1 1000) = true → (lodD d.length && decide (z0 = e0)) = true → flFault (z0, z1, d, z3, z4, ()) e0 = 0) := fun h h2 => flF_ok (x := (z0, z1, d, z3, z4, ())) h h2
  generalize flFault (z0, z1, d, z3, z4, ()) e0 = R at *
  generalize d.length = m at *
  by_cases k1 : plcD z1 m = true
  · by_cases k2 : inD z3 0 1000000 = true
    · by_cases k3 : inD z4 1 1000 = true
      · by_cases k4 : lodD m = true
        · by_cases k5 : z0 = e0
          · have k5' : (z0 != e0) = false := by simp [k5]
            have hR := F3.out (by simp [k1, k2, k3]) (by simp [k4, k5])
            subst hR
            clear F1 F2 F3 k5
            go_enter Tryz.func146, Tryz.ntmps146
            go_wp2_with (first | (go_at_call 145; refine (iPlcD _ _ _ _ _ (by omega)).mono ?_; rintro e w' ⟨rfl, hw⟩; subst w') | (go_at_call 37; refine (iInD _ _ _ _).mono ?_; rintro e w' ⟨rfl, hw⟩; subst w') | (go_at_call 157; refine (iLodD _ _ _ _).mono ?_; rintro e w' ⟨rfl, hw⟩; subst w'))
            go_ret
            exact ⟨rfl, by go_grown⟩
          · have k5' : (z0 != e0) = true := by simp [k5]
            have hR := F2.out (by simp [k1, k2, k3]) (by simp [k5])
            subst hR
            clear F1 F2 F3 k5
            go_enter Tryz.func146, Tryz.ntmps146
            go_wp2_with (first | (go_at_call 145; refine (iPlcD _ _ _ _ _ (by omega)).mono ?_; rintro e w' ⟨rfl, hw⟩; subst w') | (go_at_call 37; refine (iInD _ _ _ _).mono ?_; rintro e w' ⟨rfl, hw⟩; subst w') | (go_at_call 157; refine (iLodD _ _ _ _).mono ?_; rintro e w' ⟨rfl, hw⟩; subst w'))
            go_ret
            exact ⟨rfl, by go_grown⟩
        · replace k4 : lodD m = false := by simpa using k4
          have hR := F2.out (by simp [k1, k2, k3]) (by simp [k4])
          subst hR
          clear F1 F2 F3
          go_enter Tryz.func146, Tryz.ntmps146
          go_wp2_with (first | (go_at_call 145; refine (iPlcD _ _ _ _ _ (by omega)).mono ?_; rintro e w' ⟨rfl, hw⟩; subst w') | (go_at_call 37; refine (iInD _ _ _ _).mono ?_; rintro e w' ⟨rfl, hw⟩; subst w') | (go_at_call 157; refine (iLodD _ _ _ _).mono ?_; rintro e w' ⟨rfl, hw⟩; subst w'))
          go_ret
          exact ⟨rfl, by go_grown⟩
      · replace k3 : inD z4 1 1000 = false := by simpa using k3
        have hR := F1.out (by simp [k3])
        subst hR
        clear F1 F2 F3
        go_enter Tryz.func146, Tryz.ntmps146
        go_wp2_with (first | (go_at_call 145; refine (iPlcD _ _ _ _ _ (by omega)).mono ?_; rintro e w' ⟨rfl, hw⟩; subst w') | (go_at_call 37; refine (iInD _ _ _ _).mono ?_; rintro e w' ⟨rfl, hw⟩; subst w') | (go_at_call 157; refine (iLodD _ _ _ _).mono ?_; rintro e w' ⟨rfl, hw⟩; subst w'))
        go_ret
        exact ⟨rfl, by go_grown⟩
    · replace k2 : inD z3 0 1000000 = false := by simpa using k2
      have hR := F1.out (by simp [k2])
      subst hR
      clear F1 F2 F3
      go_enter Tryz.func146, Tryz.ntmps146
      go_wp2_with (first | (go_at_call 145; refine (iPlcD _ _ _ _ _ (by omega)).mono ?_; rintro e w' ⟨rfl, hw⟩; subst w') | (go_at_call 37; refine (iInD _ _ _ _).mono ?_; rintro e w' ⟨rfl, hw⟩; subst w') | (go_at_call 157; refine (iLodD _ _ _ _).mono ?_; rintro e w' ⟨rfl, hw⟩; subst w'))
      go_ret
      exact ⟨rfl, by go_grown⟩
  · replace k1 : plcD z1 m = false := by simpa using k1
    have hR := F1.out (by simp [k1])
    subst hR
    clear F1 F2 F3
    go_enter Tryz.func146, Tryz.ntmps146
    go_wp2_with (first | (go_at_call 145; refine (iPlcD _ _ _ _ _ (by omega)).mono ?_; rintro e w' ⟨rfl, hw⟩; subst w') | (go_at_call 37; refine (iInD _ _ _ _).mono ?_; rintro e w' ⟨rfl, hw⟩; subst w') | (go_at_call 157; refine (iLodD _ _ _ _).mono ?_; rintro e w' ⟨rfl, hw⟩; subst w'))
    go_ret
    exact ⟨rfl, by go_grown⟩
set_option maxHeartbeats 4000000 in
theorem iSenderFault (x : DSender) (v : Value) (w : World) (B : Nat) (hr : shSender.Rd w B x [.int .i64 x.1, .int .i64 x.2.1, .int .i64 x.2.2.1, v]) (hB : B ≤ w.heap.size) (hT : totSender x ≤ 1048576) :
    Calls Tryz.prog 127 #[.agg #[.int .i64 x.1, .int .i64 x.2.1, .int .i64 x.2.2.1, v]] w fun e w' => e = .returned (.int .i64 (sndFault x)) ∧ Below w.heap.size w w' := by
  obtain ⟨vv, ev, rk, -⟩ := rd_Sender hr
  simp only [List.cons.injEq, and_true, true_and] at ev
  subst ev
  obtain ⟨a, cap, ev2⟩ := row_form rk
  simp only [List.cons.injEq, and_true] at ev2
  subst ev2
  have HT : Hid (∀ k (hk : k < x.2.2.2.1.length), x.2.2.2.1[k].2.2.1.length ≤ 1048576) := fun k hk => by have h : x.2.2.2.1[k].2.2.1.length ≤ fsum totFlight x.2.2.2.1 := fsum_at totFlight hk; unfold totSender totFlights at hT; omega
  have hmx : x.2.2.2.1.length ≤ 9223372036854775807 := row_max rk
  by_cases hh : sndHead x = true
  · have hh' := hh
    unfold sndHead at hh'
    simp only [Bool.and_eq_true] at hh'
    obtain ⟨⟨g1, g2⟩, g3⟩ := hh'
    by_cases hm : 12 < x.2.2.2.1.length
    · rw [sndFault_many hh (by omega)]
      clear hr HT hh rk hT
      generalize x.1 = y0 at *
      generalize x.2.1 = y1 at *
      generalize x.2.2.1 = y2 at *
      generalize x.2.2.2.1.length = n at *
      go_enter Tryz.func127, Tryz.ntmps127
      go_wp2_with (go_at_call 37; refine (iInD _ _ _ _).mono ?_; rintro e w' ⟨rfl, hw⟩; subst w')
      go_ret
      exact ⟨rfl, by go_grown⟩
    · rw [sndFault_fls hh (by omega)]
      have HRd : Hid (∀ W, Below w.heap.size w W → shFlights.Rd W B x.2.2.2.1 [.slice a x.2.2.2.1.length cap]) := fun W hW => rk.below hB hW
      have hb2 := inD_yes g2
      have hb3 := inD_yes g3
      clear hr hh rk hT
      obtain ⟨y0, y1, y2, l, _⟩ := x
      simp only at *
      generalize hRR : flsFault y1 y2 l = R
      have HRR : Hid (flsFault y1 y2 l = R) := hRR
      clear hRR
      obtain ⟨hb20, hb21⟩ := hb2
      obtain ⟨hb30, hb31⟩ := hb3
      obtain ⟨n, hn⟩ : ∃ n, l.length = n := ⟨_, rfl⟩
      have HN : Hid (l.length = n) := hn
      rw [hn] at HRd hm hmx ⊢
      clear hn
      go_enter Tryz.func127, Tryz.ntmps127
      go_wp2_with (go_at_call 37; refine (iInD _ _ _ _).mono ?_; rintro e w' ⟨rfl, hw⟩; subst w')
      go_loopw [3, 34] (fun t i wr => ∃ (k : Nat) (e : Int), k ≤ n ∧ i = .int .i64 k ∧ t = .int .i64 e ∧ 0 ≤ e ∧ e ≤ 1000000 + 8 * (k : Int) ∧ Hid (flsFault y1 e (l.drop k) = R) ∧ Hid (Below w.heap.size w wr) ∧ ∀ o, wr.cell? ⟨w.heap.size, o, none⟩ = (#[.int .i64 y0, .int .i64 y1, .int .i64 y2, .slice a n cap] : Array Value)[o]?) (fun _ i _ => n - (intOf i).toNat)
      case atStart => exact ⟨0, y2, Nat.zero_le _, rfl, rfl, by omega, by omega, HRR.out, (by show Below _ _ _; go_grown), fun o => by simp [go_sem]⟩
      case round =>
        obtain ⟨k, e, hk, rfl, rfl, he0, he1, hfe, HB, k0⟩ := hrel
        clear g1 g2 g3 HRR
        have hw0 : w.heap.size < wr.heap.size := cell_lt (k0 0)
        by_cases hlt : k < n
        · have hkl : k < l.length := by have := HN.out; omega
          obtain ⟨b, off, v, ha, hb, q0, q1, q2, q3, q4, r3⟩ := at_Flights (HRd.out wr HB.out) k hkl
          subst ha
          obtain ⟨vv, ev, rk, -⟩ := rd_Flight r3
          simp only [List.cons.injEq, and_true, true_and] at ev
          subst ev
          obtain ⟨va, vc, ev2⟩ := row_form rk
          simp only [List.cons.injEq, and_true] at ev2
          subst ev2
          have hnn := HT.out k hkl
          have hst := flsFault_at y1 e hkl
          rw [hfe.out] at hst
          have HST : Hid _ := hst
          clear rk r3 hst hfe
          have hkn : (k : Int) < (n : Int) := by omega
          generalize hx : l[k] = X at *
          obtain ⟨z0, z1, d, z3, z4, _⟩ := X
          simp only at *
          clear hx
          have HC : Hid (∀ W : World, Calls Tryz.prog 146 #[.agg #[.int .i64 z0, .int .i64 z1, .slice va d.length vc, .int .i64 z3, .int .i64 z4], .int .i64 e] W fun e w' => e = .returned (.int .i64 (flFault (z0, z1, d, z3, z4, ()) _)) ∧ Below W.heap.size W w') := fun W => iFlFault z0 z1 z3 z4 d va vc e W hnn
          have HP : Hid (flFault (z0, z1, d, z3, z4, ()) e = 0 → z0 = e ∧ d.length ≤ 8) := fun h => ⟨(flF_parts h).2.2.2.2, (lodD_yes (flF_parts h).2.2.2.1).2⟩
          generalize flFault (z0, z1, d, z3, z4, ()) e = F at *
          by_cases hF : F = 0
          · have hs := HST.out
            rw [if_pos hF] at hs
            have HF : Hid _ := hs
            obtain ⟨p1, p2⟩ := HP.out hF
            have hF' : (F != 0) = false := by simp [hF]
            subst p1
            clear HST HP hs
            generalize d.length = m at *
            go_wp2_with fail
            refine (HC.out _).mono ?_
            rintro e w1 ⟨rfl, hb1⟩
            have k5 : ∀ o, w1.cell? ⟨wr.heap.size, o, none⟩ = (#[.int .i64 z0, .int .i64 z1, .slice va m vc, .int .i64 z3, .int .i64 z4] : Array Value)[o]? := fun o => by rw [hb1.cell (p := ⟨wr.heap.size, o, none⟩) (by simp)]; simp [go_sem]
            have hbW : Below wr.heap.size wr w1 := Below.trans (by go_grown) (hb1.mono (by simp))
            have k0' := bx_below k0 hw0 hbW
            have HB1 : Hid (Below w.heap.size w w1) := HB.out.trans (hbW.mono (by omega))
            have hw1 : w.heap.size < w1.heap.size := Nat.lt_of_lt_of_le hw0 hbW.size
            clear hbW hb1 k0
            go_wp2_with (go_at_call 147; refine (iFlEnd _ _ _ _ _ _ _ _ (by omega) (by omega) (by omega)).mono ?_; rintro e w2 ⟨rfl, hb2⟩)
            go_roundw
            case rel => exact ⟨k + 1, z0 + m, by omega, by go_num, rfl, by omega, by push_cast; omega, HF.out.symm, HB1.out.trans (hb2.mono (by omega)), bx_below k0' hw1 hb2⟩
            case measure => simp [intOf]; omega
          · have hs := HST.out
            rw [if_neg hF] at hs
            have hF' : (F != 0) = true := by simp [hF]
            subst hs
            clear HST HP
            generalize d.length = m at *
            go_wp2_with fail
            refine (HC.out _).mono ?_
            rintro e w1 ⟨rfl, hb1⟩
            have hbW : Below wr.heap.size wr w1 := Below.trans (by go_grown) (hb1.mono (by simp))
            have HB1 : Hid (Below w.heap.size w w1) := HB.out.trans (hbW.mono (by omega))
            clear hbW hb1 k0
            go_wp2_with fail
            go_ret
            exact ⟨rfl, HB1.out⟩
        · obtain rfl : k = n := by omega
          have he := hfe.out
          rw [← HN.out, flsFault_end] at he
          by_cases hq : e = y1
          · rw [if_pos hq] at he
            have hq' : (y1 != e) = false := by simp [hq]
            subst he
            clear hq
            go_wp2_with fail
            go_ret
            exact ⟨rfl, HB.out⟩
          · rw [if_neg hq] at he
            have hq' : (y1 != e) = true := by simp; omega
            subst he
            clear hq
            go_wp2_with fail
            go_ret
            exact ⟨rfl, HB.out⟩
  · have hh' : sndHead x = false := by simpa using hh
    rw [sndFault_head hh']
    clear hr HT hh rk hT
    unfold sndHead at hh'
    generalize x.1 = y0 at *
    generalize x.2.1 = y1 at *
    generalize x.2.2.1 = y2 at *
    generalize x.2.2.2.1.length = n at *
    by_cases g1 : inD y0 0 65535 = true
    · by_cases g2 : inD y1 0 1000000 = true
      · have g3 : inD y2 0 y1 = false := by simpa [g1, g2] using hh'
        clear hh'
        go_enter Tryz.func127, Tryz.ntmps127
        go_wp2_with (go_at_call 37; refine (iInD _ _ _ _).mono ?_; rintro e w' ⟨rfl, hw⟩; subst w')
        go_ret
        exact ⟨rfl, by go_grown⟩
      · replace g2 : inD y1 0 1000000 = false := by simpa using g2
        clear hh'
        go_enter Tryz.func127, Tryz.ntmps127
        go_wp2_with (go_at_call 37; refine (iInD _ _ _ _).mono ?_; rintro e w' ⟨rfl, hw⟩; subst w')
        go_ret
        exact ⟨rfl, by go_grown⟩
    · replace g1 : inD y0 0 65535 = false := by simpa using g1
      clear hh'
      go_enter Tryz.func127, Tryz.ntmps127
      go_wp2_with (go_at_call 37; refine (iInD _ _ _ _).mono ?_; rintro e w' ⟨rfl, hw⟩; subst w')
      go_ret
      exact ⟨rfl, by go_grown⟩
end Go.Proofs.YtfpemobkkfobkaaGreatDoor
