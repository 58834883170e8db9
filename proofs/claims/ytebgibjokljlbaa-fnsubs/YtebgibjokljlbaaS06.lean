/- What the model says of a sender's faults; nothing that was in memory turns; no condition but that loads are of at most a million bytes. -/
import Derived.Test.YtebgibjokljlbaaRows
import Derived.Deep.DeepMust
import Derived.Test.YtebgibjokljlbaaS01
import Derived.Test.YtebgibjokljlbaaS02
import Derived.Test.YtebgibjokljlbaaS03
import Derived.Test.YtebgibjokljlbaaS04
import Derived.Test.YtebgibjokljlbaaS05
namespace Go.Proofs.Ytebgibjokljlbaa
open Go.RowKit
set_option linter.unusedVariables false
theorem sInD (v low high : Int) (w : World) :
    Calls Try.prog 97 #[.int .i64 v, .int .i64 low, .int .i64 high] w fun e w' => e = .returned (.bool (inD v low high)) ∧ w' = w := by
  by_cases h : low ≤ v
  · go_enter Try.func97, Try.ntmps97
    go_wp2
    go_ret
    exact ⟨ret_bool (by simp [inD, h]), rfl⟩
  · have h' : decide (low ≤ v) = false := by simp; omega
    go_enter Try.func97, Try.ntmps97
    go_wp2
    go_ret
    exact ⟨ret_bool (by simp [inD]; omega), rfl⟩
theorem sNumD (v : Int) (w : World) :
    Calls Try.prog 105 #[.int .i64 v] w fun e w' => e = .returned (.bool (inD v 0 65535)) ∧ w' = w := by
  go_enter Try.func105, Try.ntmps105
  go_wp2_with (go_at_call 97; refine (sInD _ _ _ _).mono ?_; rintro e w' ⟨rfl, hw⟩; subst w')
  go_ret
  exact ⟨rfl, rfl⟩
theorem sTickD (v : Int) (w : World) :
    Calls Try.prog 118 #[.int .i64 v] w fun e w' => e = .returned (.bool (inD v 0 1000000)) ∧ w' = w := by
  go_enter Try.func118, Try.ntmps118
  go_wp2_with (go_at_call 97; refine (sInD _ _ _ _).mono ?_; rintro e w' ⟨rfl, hw⟩; subst w')
  go_ret
  exact ⟨rfl, rfl⟩
theorem sPlcD (a : Int) (n : Nat) (w : World) (hn : n ≤ 1048576) :
    Calls Try.prog 47 #[.int .i64 a, .int .i64 n] w fun e w' => e = .returned (.bool (plcD a n)) ∧ w' = w := by
  by_cases h : inD a 0 400 = true
  · have hb := inD_yes h
    go_enter Try.func47, Try.ntmps47
    go_wp2_with (go_at_call 97; refine (sInD _ _ _ _).mono ?_; rintro e w' ⟨rfl, hw⟩; subst w'; rw [h])
    go_ret
    exact ⟨ret_bool (by simp [plcD, h]), rfl⟩
  · have h' : inD a 0 400 = false := by simpa using h
    go_enter Try.func47, Try.ntmps47
    go_wp2_with (go_at_call 97; refine (sInD _ _ _ _).mono ?_; rintro e w' ⟨rfl, hw⟩; subst w'; rw [h'])
    go_ret
    exact ⟨ret_bool (by simp [plcD, h']), rfl⟩
theorem sLodD (a : Option Addr) (n cap : Nat) (w : World) (hn : n ≤ 1048576) :
    Calls Try.prog 143 #[.slice a n cap] w fun e w' => e = .returned (.bool (lodD n)) ∧ w' = w := by
  by_cases h : 1 ≤ n
  · have h' : (1 : Int) ≤ (n : Int) := by omega
    go_enter Try.func143, Try.ntmps143
    go_wp2
    go_ret
    exact ⟨ret_bool (by simp [lodD, h]; omega), rfl⟩
  · have h' : decide ((1 : Int) ≤ (n : Int)) = false := by simp; omega
    go_enter Try.func143, Try.ntmps143
    go_wp2
    go_ret
    exact ⟨ret_bool (by simp [lodD]; omega), rfl⟩
set_option maxHeartbeats 4000000 in
theorem sL5FaultO (x : DSender) (a : Option Addr) (n cap sb of : Nat) (w : World) (B : Nat) (hn : x.2.2.2.1.length = n) (c0 : w.cell? ⟨sb, of, none⟩ = some (.int .i64 x.1)) (c1 : w.cell? ⟨sb, of + 1, none⟩ = some (.int .i64 x.2.1)) (c2 : w.cell? ⟨sb, of + 2, none⟩ = some (.int .i64 x.2.2.1)) (c3 : w.cell? ⟨sb, of + 3, none⟩ = some (.slice a n cap))
    (hr : shFlights.Rd w B x.2.2.2.1 [.slice a n cap]) (hB : B ≤ w.heap.size) (hT : ∀ k (hk : k < x.2.2.2.1.length), x.2.2.2.1[k].2.2.1.length ≤ 1048576) :
    Calls Try.prog 119 #[.pointer (some ⟨sb, of, none⟩)] w fun e w' => e = .returned (.int .i64 (sndFault x)) ∧ Below w.heap.size w w' := by
  have hsb := cell_lt c0
  replace hsb : sb < w.heap.size := hsb
  have hmx : n ≤ 9223372036854775807 := by rw [← hn]; exact row_max hr
  have HN : Hid (x.2.2.2.1.length = n) := hn
  by_cases hh : sndHead x = true
  · have hh' := hh
    unfold sndHead at hh'
    simp only [Bool.and_eq_true] at hh'
    obtain ⟨⟨g1, g2⟩, g3⟩ := hh'
    by_cases hm : 12 < n
    · rw [sndFault_many hh (by omega)]
      clear hr hT HN hn hh
      generalize x.1 = y0 at *
      generalize x.2.1 = y1 at *
      generalize x.2.2.1 = y2 at *
      go_enter Try.func119, Try.ntmps119
      go_wp2_with fail
      go_quiet ((first | (go_at_call 105; exact Calls.quiet_of_same (sNumD _ _)) | (go_at_call 118; exact Calls.quiet_of_same (sTickD _ _)) | (go_at_call 97; exact Calls.quiet_of_same (sInD _ _ _ _))))
      go_wp2_with fail
      go_ret
      exact ⟨rfl, below_drewN (Below.refl _ _) _⟩
    · rw [sndFault_fls hh (by omega)]
      have HRd : Hid (∀ W, Below w.heap.size w W → shFlights.Rd W B x.2.2.2.1 [.slice a n cap]) := fun W hW => hr.below hB hW
      have HT : Hid _ := hT
      have hb2 := inD_yes g2
      have hb3 := inD_yes g3
      clear hr hT hh hn
      obtain ⟨y0, y1, y2, l, _⟩ := x
      simp only at *
      generalize hRR : flsFault y1 y2 l = R
      have HRR : Hid (flsFault y1 y2 l = R) := hRR
      clear hRR
      obtain ⟨hb20, hb21⟩ := hb2
      obtain ⟨hb30, hb31⟩ := hb3
      have CB : Hid (∀ W, Below w.heap.size w W → W.cell? ⟨sb, of + 1, none⟩ = some (.int .i64 y1) ∧ W.cell? ⟨sb, of + 3, none⟩ = some (.slice a n cap)) := fun W hW => ⟨(hW.cell (p := ⟨sb, of + 1, none⟩) hsb).trans c1, (hW.cell (p := ⟨sb, of + 3, none⟩) hsb).trans c3⟩
      go_enter Try.func119, Try.ntmps119
      go_wp2_with fail
      go_quiet ((first | (go_at_call 105; exact Calls.quiet_of_same (sNumD _ _)) | (go_at_call 118; exact Calls.quiet_of_same (sTickD _ _)) | (go_at_call 97; exact Calls.quiet_of_same (sInD _ _ _ _))))
      go_wp2_with fail
      go_loopw [3, 4] (fun t i wr => ∃ (k : Nat) (e : Int), k ≤ n ∧ i = .int .i64 k ∧ t = .int .i64 e ∧ 0 ≤ e ∧ e ≤ 1000000 + 8 * (k : Int) ∧ Hid (flsFault y1 e (l.drop k) = R) ∧ Below w.heap.size w wr) (fun _ i _ => n - (intOf i).toNat)
      case atStart => exact ⟨0, y2, Nat.zero_le _, rfl, rfl, by omega, by omega, HRR.out, below_drewN (Below.refl _ _) _⟩
      case round =>
        obtain ⟨k, e, hk, rfl, rfl, he0, he1, hfe, hbl⟩ := hrel
        obtain ⟨d1, d3⟩ := CB.out _ hbl
        clear c0 c1 c2 c3 g1 g2 g3 HRR
        by_cases hlt : k < n
        · have hkl : k < l.length := by have := HN.out; omega
          obtain ⟨b, off, v, ha, hb, q0, q1, q2, q3, q4, r3⟩ := at_Flights (HRd.out wr hbl) k hkl
          subst ha
          obtain ⟨vv, ev, rk, -⟩ := rd_Flight r3
          simp only [List.cons.injEq, and_true, true_and] at ev
          subst ev
          obtain ⟨va, vc, ev2⟩ := row_form rk
          simp only [List.cons.injEq, and_true] at ev2
          subst ev2
          have hnn := HT.out k hkl
          have hst := flsFault_at y1 e hkl
          rw [hfe.out] at hst
          have HST : Hid _ := hst
          have HB : Hid _ := hbl
          clear rk r3 hst hbl hfe
          generalize hx : l[k] = X at *
          obtain ⟨z0, z1, d, z3, z4, _⟩ := X
          simp only at *
          clear hx
          have F1 : Hid ((plcD z1 d.length && inD z3 0 1000000 && inD z4 1 1000) = false → R = 3) := fun h => by rw [HST.out, flF_r (x := (z0, z1, d, z3, z4, ())) h]; rfl
          have F2 : Hid ((plcD z1 d.length && inD z3 0 1000000 && inD z4 1 1000) = true → (lodD d.length && decide (z0 = e)) = false → R = 1) := fun h h2 => by rw [HST.out, flF_f (x := (z0, z1, d, z3, z4, ())) h h2]; rfl
          have F3 : Hid ((plcD z1 d.length && inD z3 0 1000000 && inD z4 1 1000) = true → (lodD d.length && decide (z0 = e)) = true → flsFault y1 (e + d.length) (l.drop (k + 1)) = R) := fun h h2 => by rw [HST.out, flF_ok (x := (z0, z1, d, z3, z4, ())) h h2]; rfl
          clear HST
          generalize d.length = m at *
          have hkn : (k : Int) < (n : Int) := by omega
          by_cases k1 : plcD z1 m = true
          · by_cases k2 : inD z3 0 1000000 = true
            · by_cases k3 : inD z4 1 1000 = true
              · by_cases k4 : lodD m = true
                · have k4' := lodD_yes k4
                  by_cases k5 : z0 = e
                  · have k5' : (z0 != e) = false := by simp [k5]
                    have HF : Hid (flsFault y1 (e + m) (l.drop (k + 1)) = R) := F3.out (by simp [k1, k2, k3]) (by simp [k4, k5])
                    clear F1 F2 F3 k5
                    go_wp2_with (first | (go_at_call 47; refine (sPlcD _ _ _ (by omega)).mono ?_; rintro e w' ⟨rfl, hw⟩; subst w') | (go_at_call 118; refine (sTickD _ _).mono ?_; rintro e w' ⟨rfl, hw⟩; subst w') | (go_at_call 97; refine (sInD _ _ _ _).mono ?_; rintro e w' ⟨rfl, hw⟩; subst w') | (go_at_call 143; refine (sLodD _ _ _ _ (by omega)).mono ?_; rintro e w' ⟨rfl, hw⟩; subst w'))
                    go_roundw
                    case rel => exact ⟨k + 1, e + m, by omega, by go_num, rfl, by omega, by push_cast; omega, HF, HB.out.alloc HB.out.size _⟩
                    case measure => simp [intOf]; omega
                  · have k5' : (z0 != e) = true := by simp [k5]
                    have hR := F2.out (by simp [k1, k2, k3]) (by simp [k5])
                    subst hR
                    clear F1 F2 F3 k5
                    go_wp2_with (first | (go_at_call 47; refine (sPlcD _ _ _ (by omega)).mono ?_; rintro e w' ⟨rfl, hw⟩; subst w') | (go_at_call 118; refine (sTickD _ _).mono ?_; rintro e w' ⟨rfl, hw⟩; subst w') | (go_at_call 97; refine (sInD _ _ _ _).mono ?_; rintro e w' ⟨rfl, hw⟩; subst w') | (go_at_call 143; refine (sLodD _ _ _ _ (by omega)).mono ?_; rintro e w' ⟨rfl, hw⟩; subst w'))
                    go_ret
                    exact ⟨rfl, HB.out.alloc HB.out.size _⟩
                · replace k4 : lodD m = false := by simpa using k4
                  have hR := F2.out (by simp [k1, k2, k3]) (by simp [k4])
                  subst hR
                  clear F1 F2 F3
                  go_wp2_with (first | (go_at_call 47; refine (sPlcD _ _ _ (by omega)).mono ?_; rintro e w' ⟨rfl, hw⟩; subst w') | (go_at_call 118; refine (sTickD _ _).mono ?_; rintro e w' ⟨rfl, hw⟩; subst w') | (go_at_call 97; refine (sInD _ _ _ _).mono ?_; rintro e w' ⟨rfl, hw⟩; subst w') | (go_at_call 143; refine (sLodD _ _ _ _ (by omega)).mono ?_; rintro e w' ⟨rfl, hw⟩; subst w'))
                  go_ret
                  exact ⟨rfl, HB.out.alloc HB.out.size _⟩
              · replace k3 : inD z4 1 1000 = false := by simpa using k3
                have hR := F1.out (by simp [k3])
                subst hR
                clear F1 F2 F3
                go_wp2_with (first | (go_at_call 47; refine (sPlcD _ _ _ (by omega)).mono ?_; rintro e w' ⟨rfl, hw⟩; subst w') | (go_at_call 118; refine (sTickD _ _).mono ?_; rintro e w' ⟨rfl, hw⟩; subst w') | (go_at_call 97; refine (sInD _ _ _ _).mono ?_; rintro e w' ⟨rfl, hw⟩; subst w') | (go_at_call 143; refine (sLodD _ _ _ _ (by omega)).mono ?_; rintro e w' ⟨rfl, hw⟩; subst w'))
                go_ret
                exact ⟨rfl, HB.out.alloc HB.out.size _⟩
            · replace k2 : inD z3 0 1000000 = false := by simpa using k2
              have hR := F1.out (by simp [k2])
              subst hR
              clear F1 F2 F3
              go_wp2_with (first | (go_at_call 47; refine (sPlcD _ _ _ (by omega)).mono ?_; rintro e w' ⟨rfl, hw⟩; subst w') | (go_at_call 118; refine (sTickD _ _).mono ?_; rintro e w' ⟨rfl, hw⟩; subst w') | (go_at_call 97; refine (sInD _ _ _ _).mono ?_; rintro e w' ⟨rfl, hw⟩; subst w') | (go_at_call 143; refine (sLodD _ _ _ _ (by omega)).mono ?_; rintro e w' ⟨rfl, hw⟩; subst w'))
              go_ret
              exact ⟨rfl, HB.out.alloc HB.out.size _⟩
          · replace k1 : plcD z1 m = false := by simpa using k1
            have hR := F1.out (by simp [k1])
            subst hR
            clear F1 F2 F3
            go_wp2_with (first | (go_at_call 47; refine (sPlcD _ _ _ (by omega)).mono ?_; rintro e w' ⟨rfl, hw⟩; subst w') | (go_at_call 118; refine (sTickD _ _).mono ?_; rintro e w' ⟨rfl, hw⟩; subst w') | (go_at_call 97; refine (sInD _ _ _ _).mono ?_; rintro e w' ⟨rfl, hw⟩; subst w') | (go_at_call 143; refine (sLodD _ _ _ _ (by omega)).mono ?_; rintro e w' ⟨rfl, hw⟩; subst w'))
            go_ret
            exact ⟨rfl, HB.out.alloc HB.out.size _⟩
        · obtain rfl : k = n := by omega
          have he := hfe.out
          rw [← HN.out, flsFault_end] at he
          by_cases hq : e = y1
          · rw [if_pos hq] at he
            have hq' : (e != y1) = false := by simp [hq]
            subst he
            clear hq
            go_wp2_with fail
            go_ret
            exact ⟨rfl, hbl⟩
          · rw [if_neg hq] at he
            have hq' : (e != y1) = true := by simp [hq]
            subst he
            clear hq
            go_wp2_with fail
            go_ret
            exact ⟨rfl, hbl⟩
  · have hh' : sndHead x = false := by simpa using hh
    rw [sndFault_head hh']
    clear hr hT HN hn hh
    unfold sndHead at hh'
    generalize x.1 = y0 at *
    generalize x.2.1 = y1 at *
    generalize x.2.2.1 = y2 at *
    by_cases g1 : inD y0 0 65535 = true
    · by_cases g2 : inD y1 0 1000000 = true
      · have g3 : inD y2 0 y1 = false := by simpa [g1, g2] using hh'
        clear hh'
        go_enter Try.func119, Try.ntmps119
        go_wp2_with fail
        go_quiet ((first | (go_at_call 105; exact Calls.quiet_of_same (sNumD _ _)) | (go_at_call 118; exact Calls.quiet_of_same (sTickD _ _)) | (go_at_call 97; exact Calls.quiet_of_same (sInD _ _ _ _))))
        go_wp2_with fail
        go_ret
        exact ⟨rfl, below_drewN (Below.refl _ _) _⟩
      · replace g2 : inD y1 0 1000000 = false := by simpa using g2
        clear hh'
        go_enter Try.func119, Try.ntmps119
        go_wp2_with fail
        go_quiet ((first | (go_at_call 105; exact Calls.quiet_of_same (sNumD _ _)) | (go_at_call 118; exact Calls.quiet_of_same (sTickD _ _)) | (go_at_call 97; exact Calls.quiet_of_same (sInD _ _ _ _))))
        go_wp2_with fail
        go_ret
        exact ⟨rfl, below_drewN (Below.refl _ _) _⟩
    · replace g1 : inD y0 0 65535 = false := by simpa using g1
      clear hh'
      go_enter Try.func119, Try.ntmps119
      go_wp2_with fail
      go_quiet ((first | (go_at_call 105; exact Calls.quiet_of_same (sNumD _ _)) | (go_at_call 118; exact Calls.quiet_of_same (sTickD _ _)) | (go_at_call 97; exact Calls.quiet_of_same (sInD _ _ _ _))))
      go_wp2_with fail
      go_ret
      exact ⟨rfl, below_drewN (Below.refl _ _) _⟩
theorem sL5Fault (x : DSender) (a : Option Addr) (n cap sb : Nat) (w : World) (B : Nat) (hn : x.2.2.2.1.length = n) (c0 : w.cell? ⟨sb, 0, none⟩ = some (.int .i64 x.1)) (c1 : w.cell? ⟨sb, 1, none⟩ = some (.int .i64 x.2.1)) (c2 : w.cell? ⟨sb, 2, none⟩ = some (.int .i64 x.2.2.1)) (c3 : w.cell? ⟨sb, 3, none⟩ = some (.slice a n cap))
    (hr : shFlights.Rd w B x.2.2.2.1 [.slice a n cap]) (hB : B ≤ w.heap.size) (hT : ∀ k (hk : k < x.2.2.2.1.length), x.2.2.2.1[k].2.2.1.length ≤ 1048576) :
    Calls Try.prog 119 #[.pointer (some ⟨sb, 0, none⟩)] w fun e w' => e = .returned (.int .i64 (sndFault x)) ∧ Below w.heap.size w w' :=
  sL5FaultO x a n cap sb 0 w B hn c0 c1 c2 c3 hr hB hT
end Go.Proofs.Ytebgibjokljlbaa
namespace Go.Proofs.Ytebgibjokljlbaa
open Go.RowKit
set_option linter.unusedVariables false
theorem sL5Box (x : DSender) (a : Option Addr) (n cap : Nat) (w w0 : World) (t : TypeId) (B : Nat) (hn : x.2.2.2.1.length = n) (hr : shFlights.Rd w B x.2.2.2.1 [.slice a n cap]) (hB : B ≤ w.heap.size) (hT : totSender x ≤ 1048576) (sb : Nat)
    (hc : ∀ o, w.cell? ⟨sb, o, none⟩ = (#[.int .i64 x.1, .int .i64 x.2.1, .int .i64 x.2.2.1, .slice a n cap] : Array Value)[o]?) :
    Calls Try.prog 119 #[.pointer (some ⟨sb, 0, none⟩)] w fun e w' => e = .returned (.int .i64 (sndFault x)) ∧ Below w.heap.size w w' :=
  sL5Fault x a n cap sb w B hn (hc 0) (hc 1) (hc 2) (hc 3) hr hB (fun k hk => by have h : x.2.2.2.1[k].2.2.1.length ≤ fsum totFlight x.2.2.2.1 := fsum_at totFlight hk; unfold totSender totFlights at hT; omega)
theorem sStartSender (n : Int) (w : World) :
    Calls Try.prog 132 #[.int .i64 n] w fun e w' => e = .returned (.agg #[.int .i64 (if inD n 0 65535 = true then 0 else 3), .int .i64 (if inD n 0 65535 = true then n else 0), .int .i64 0, .int .i64 0, .slice none 0 0]) ∧ Below w.heap.size w w' := by
  by_cases h : inD n 0 65535 = true
  · rw [if_pos h, if_pos h]
    go_enter Try.func132, Try.ntmps132
    go_wp2_with (go_at_call 105; refine (sNumD _ _).mono ?_; rintro e w' ⟨rfl, hw⟩; subst w')
    go_returns
    exact ⟨rfl, by go_grown⟩
  · rw [if_neg h, if_neg h]
    replace h : inD n 0 65535 = false := by simpa using h
    go_enter Try.func132, Try.ntmps132
    go_wp2_with (first | (go_at_call 105; refine (sNumD _ _).mono ?_; rintro e w' ⟨rfl, hw⟩; subst w') | (go_at_call 150; go_in))
    go_returns
    exact ⟨rfl, by go_grown⟩
end Go.Proofs.Ytebgibjokljlbaa
namespace Go.Proofs.Ytebgibjokljlbaa
open Go.RowKit
set_option linter.unusedVariables false
theorem own_snd0 (w : World) (lo hi : Nat) (h : lo ≤ hi) {y0 y1 y2 : Int} (w0 : (Lit.int .i64 y0).wf = true) (w1 : (Lit.int .i64 y1).wf = true) (w2 : (Lit.int .i64 y2).wf = true) : Own w lo hi shSender (y0, y1, y2, [], ()) [.int .i64 y0, .int .i64 y1, .int .i64 y2, .slice none 0 0] :=
  hOwnCons (hOwnInt w lo lo w0) (hOwnCons (hOwnInt w lo lo w1) (hOwnCons (hOwnInt w lo lo w2) (hOwnCons (⟨[], Or.inl ⟨rfl, rfl, rfl⟩, by simp, by simp⟩ : Own w lo hi shFlights [] [.slice none 0 0]) (hOwnNil w hi hi) h (Nat.le_refl _)) (Nat.le_refl _) h) (Nat.le_refl _) h) (Nat.le_refl _) h
theorem info_FlightS : (Try.prog.info? 118).map (fun i => (i.zero, i.size, i.bytes)) = some (some (.agg #[.int .i64 0, .int .i64 0, .slice none 0 0, .int .i64 0, .int .i64 0]), 5, 56) := by kernel_rfl
theorem ob_made0 (w : World) (base : Nat) (hb : base ≤ w.heap.size) : OB (w.alloc (.cells #[] 5)) base (.slice (some ⟨w.heap.size, 0, none⟩) 0 0) [] := ⟨World.ownsRow_made w #[] 0 hb (by decide) rfl, by simp⟩
theorem own_fls0 (w : World) (lo hi : Nat) : Own w lo hi shFlights [] [.slice none 0 0] := ⟨[], Or.inl ⟨rfl, rfl, rfl⟩, by simp, by simp⟩
theorem box_set3 {w : World} {b : Nat} {x0 x1 x2 x3 v : Value} (h : ∀ o, w.cell? ⟨b, o, none⟩ = (#[x0, x1, x2, x3] : Array Value)[o]?) : ∀ o, (w.setCell ⟨b, 3, none⟩ v).cell? ⟨b, o, none⟩ = (#[x0, x1, x2, v] : Array Value)[o]? := fun o => by
  by_cases e : o = 3
  · subst e; rw [World.cell?_setCell_same _ _ _ (h 3)]; rfl
  · rw [World.cell?_setCell_other _ _ _ _ (by intro e'; simp only [Addr.mk.injEq] at e'; omega), h o]
    match o, e with
    | 0, _ => rfl
    | 1, _ => rfl
    | 2, _ => rfl
    | o + 4, _ => rfl
theorem box_off {w : World} {b b' k : Nat} {v : Value} {A : Array Value} (h : ∀ o, w.cell? ⟨b, o, none⟩ = A[o]?) (hne : b ≠ b') : ∀ o, (w.setCell ⟨b', k, none⟩ v).cell? ⟨b, o, none⟩ = A[o]? := fun o => by
  rw [World.cell?_setCell_other _ _ _ _ (by intro e; simp only [Addr.mk.injEq] at e; exact hne e.1.symm)]; exact h o
theorem boxB {B : Nat} {w w' : World} {b : Nat} {cs : Array Value} (h : ∀ o, w.cell? ⟨b, o, none⟩ = cs[o]?) (k : Below B w w') (hb : b < B) : ∀ o, w'.cell? ⟨b, o, none⟩ = cs[o]? :=
  fun o => (k.cell (p := ⟨b, o, none⟩) hb).trans (h o)
theorem boxF {B : Nat} {w w' : World} {b : Nat} (h : ∀ o, w.frozen? ⟨b, o, none⟩ = false) (k : Below B w w') (hb : b < B) : ∀ o, w'.frozen? ⟨b, o, none⟩ = false :=
  fun o => (k.frozen (p := ⟨b, o, none⟩) hb).trans (h o)
set_option maxHeartbeats 8000000 in
theorem sL5Copy (x : DSender) (v : Value) (w : World) (B : Nat) (hr : shSender.Rd w B x [.int .i64 x.1, .int .i64 x.2.1, .int .i64 x.2.2.1, v]) (hB : B ≤ w.heap.size) (hT : totSender x ≤ 1048576) (hL : x.2.2.2.1.length ≤ 1000) :
    Calls Try.prog 122 #[.agg #[.int .i64 x.1, .int .i64 x.2.1, .int .i64 x.2.2.1, v]] w fun e w' => ∃ u, e = .returned (.agg #[.int .i64 x.1, .int .i64 x.2.1, .int .i64 x.2.2.1, u]) ∧ Own w' w.heap.size w'.heap.size shSender x [.int .i64 x.1, .int .i64 x.2.1, .int .i64 x.2.2.1, u] ∧ Below w.heap.size w w' := by
  obtain ⟨vv, ev, rk, wf0, wf1, wf2⟩ := rd_Sender hr
  simp only [List.cons.injEq, and_true, true_and] at ev
  subst ev
  obtain ⟨a, cap, ev2⟩ := row_form rk
  simp only [List.cons.injEq, and_true] at ev2
  subst ev2
  have HT : Hid (∀ k (hk : k < x.2.2.2.1.length), x.2.2.2.1[k].2.2.1.length ≤ 1048576) := fun k hk => by have h : x.2.2.2.1[k].2.2.1.length ≤ fsum totFlight x.2.2.2.1 := fsum_at totFlight hk; unfold totSender totFlights at hT; omega
  have hn1 : x.2.2.2.1.length ≤ 1000 := hL
  have W0 : Hid _ := wf0
  have W1 : Hid _ := wf1
  have W2 : Hid _ := wf2
  clear hr hT wf0 wf1 wf2 hL
  obtain ⟨y0, y1, y2, l, _⟩ := x
  simp only at *
  obtain ⟨n, hn⟩ : ∃ n, l.length = n := ⟨_, rfl⟩
  rw [hn] at rk hn1 ⊢
  have HRd : Hid (∀ W, Below w.heap.size w W → shFlights.Rd W B l [.slice a n cap]) := fun W hW => rk.below hB hW
  have HN : Hid (l.length = n) := hn
  clear rk hn
  go_enter Try.func122, Try.ntmps122
  go_wp2_with fail
  go_loopw [4] (fun i wr => ∃ (k : Nat) (va : Option Addr) (vc : Nat), k ≤ n ∧ i = .int .i64 k ∧ (∀ o, wr.cell? ⟨w.heap.size, o, none⟩ = (#[.int .i64 y0, .int .i64 y1, .int .i64 y2, .slice a n cap] : Array Value)[o]?) ∧ (∀ o, wr.cell? ⟨w.heap.size + 1, o, none⟩ = (#[.int .i64 0, .int .i64 0, .int .i64 0, .slice none 0 0] : Array Value)[o]?) ∧ (∀ o, wr.frozen? ⟨w.heap.size + 1, o, none⟩ = false) ∧ (∀ o, wr.cell? ⟨w.heap.size + 1 + 1, o, none⟩ = (#[.int .i64 y0, .int .i64 y1, .int .i64 y2, .slice va k vc] : Array Value)[o]?) ∧ (∀ o, wr.frozen? ⟨w.heap.size + 1 + 1, o, none⟩ = false) ∧ Hid (Own wr (w.heap.size + 1 + 1 + 1) wr.heap.size shFlights (l.take k) [.slice va k vc]) ∧ Hid (Below w.heap.size w wr) ∧ w.heap.size + 1 + 1 < wr.heap.size) (fun i _ => n - (intOf i).toNat)
  case atStart => exact ⟨0, none, 0, Nat.zero_le _, rfl, fun o => by simp [go_sem], fun o => by simp [go_sem], fun o => by simp [go_sem], fun o => by simp [go_sem], fun o => by simp [go_sem], own_fls0 _ _ _, (by show Below _ _ _; go_grown), by simp⟩
  case round =>
    obtain ⟨k, va, vc, hk, rfl, k0, k1, f1, k2, f2, HO, HB, hz⟩ := hrel
    by_cases hlt : k < n
    · have hkl : k < l.length := by have := HN.out; omega
      obtain ⟨b, off, v, ha, hb, q0, q1, q2, q3, q4, r3⟩ := at_Flights (HRd.out wr HB.out) k hkl
      subst ha
      obtain ⟨vv, ev, rk, w0, w1', w3, w4⟩ := rd_Flight r3
      simp only [List.cons.injEq, and_true, true_and] at ev
      subst ev
      obtain ⟨sa, sc, es, rb, hnil, -⟩ := rd_bytes rk
      simp only [List.cons.injEq, and_true] at es
      subst es
      have hnn := HT.out k hkl
      have HTK : Hid (l.take (k + 1) = l.take k ++ [(l[k].1, l[k].2.1, l[k].2.2.1, l[k].2.2.2.1, l[k].2.2.2.2.1, ())]) := List.take_succ_eq_append_getElem hkl
      have V0 : Hid _ := w0
      have V1 : Hid _ := w1'
      have V3 : Hid _ := w3
      have V4 : Hid _ := w4
      have HRB : Hid (∀ W, Below wr.heap.size wr W → RB W sa l[k].2.2.1) := fun W hW => rb.below (Nat.le_refl _) hW
      have HNI : Hid (sa = none → sc = 0) := hnil
      have HLL : Hid ((l.take k).length = k) := by show _ = _; simp; omega
      clear rk r3 rb hnil w0 w1' w3 w4
      generalize l[k].1 = z0 at *
      generalize l[k].2.1 = z1 at *
      generalize l[k].2.2.1 = d at *
      generalize l[k].2.2.2.1 = z3 at *
      generalize l[k].2.2.2.2.1 = z4 at *
      generalize hm : d.length = m at *
      have HM : Hid (d.length = m) := hm
      clear hm
      have M1 : True := trivial
      have M2 : True := trivial
      go_wp2_with (first
        | (at_builtin; clear M1; go_must (refine app_pl _ rfl _ _ 22 22 rfl Try.underlying22 Try.underlying22 (wr.heap.size + 1) (.slice (some ⟨wr.heap.size + 1, 0, none⟩) 0 0) [] (by rfl) (by simpa using ob_made0 (wr.alloc (.cells #[.int .i64 z0, .int .i64 z1, .slice sa m sc, .int .i64 z3, .int .i64 z4] 118)) (wr.heap.size + 1) (by simp)) sa d m sc HM.out (by rfl) (HRB.out _ (by go_grown)) HNI.out (by simp; omega) (by simp) ?_; intro v1 w1 ho1 hb1 hg1 hat1; obtain ⟨b1, c1, hv1, -, -⟩ := ho1.rbn; rw [List.nil_append, HM.out] at hv1; subst hv1; have O1 : Hid (Own w1 (wr.heap.size + 1) w1.heap.size u8s d [.slice b1 m c1]) := (by have h := own_bytes ho1 (Nat.le_refl _); rw [List.nil_append] at h; exact h); have p5 : ∀ o, w1.cell? ⟨wr.heap.size, o, none⟩ = (#[.int .i64 z0, .int .i64 z1, .slice sa m sc, .int .i64 z3, .int .i64 z4] : Array Value)[o]? := (fun o => (by rw [hb1.cell (p := ⟨wr.heap.size, o, none⟩) (by simp)]; simp [go_sem])); have f5 : ∀ o, w1.frozen? ⟨wr.heap.size, o, none⟩ = false := (fun o => (by rw [hb1.frozen (p := ⟨wr.heap.size, o, none⟩) (by simp)]; simp [go_sem])); have hbb : Below wr.heap.size wr w1 := Below.trans (by go_grown) (hb1.mono (by omega)); have zz : wr.heap.size + 1 < w1.heap.size := (by have := hb1.size; simp at this; omega); replace k0 := boxB k0 hbb (by omega); replace k1 := boxB k1 hbb (by omega); replace f1 := boxF f1 hbb (by omega); replace k2 := boxB k2 hbb (by omega); replace f2 := boxF f2 hbb (by omega); have HO1 : Hid (Own (w1.setCell ⟨wr.heap.size, 2, none⟩ (.slice b1 m c1)) (w.heap.size + 1 + 1 + 1) wr.heap.size shFlights (l.take k) [.slice va k vc]) := Own.keep (HO.out.below (Nat.le_refl _) hbb) (fun b h1 h2 => Below.heap_setCell _ _ _ _ (by dsimp only; omega)); have HE1 : Hid (Own (w1.setCell ⟨wr.heap.size, 2, none⟩ (.slice b1 m c1)) (wr.heap.size + 1) w1.heap.size shFlight (z0, z1, d, z3, z4, ()) [.int .i64 z0, .int .i64 z1, .slice b1 m c1, .int .i64 z3, .int .i64 z4]) := Own.keep (hOwnCons (hOwnInt w1 _ (wr.heap.size + 1) V0.out) (hOwnCons (hOwnInt w1 _ (wr.heap.size + 1) V1.out) (hOwnCons O1.out (hOwnCons (hOwnInt w1 _ w1.heap.size V3.out) (hOwnCons (hOwnInt w1 _ w1.heap.size V4.out) (hOwnNil _ _ _) (Nat.le_refl _) (Nat.le_refl _)) (Nat.le_refl _) (Nat.le_refl _)) (by omega) (Nat.le_refl _)) (Nat.le_refl _) (by omega)) (Nat.le_refl _) (by omega)) (fun b h1 h2 => Below.heap_setCell _ _ _ _ (by dsimp only; omega)); have HB1 : Hid (Below w.heap.size w (w1.setCell ⟨wr.heap.size, 2, none⟩ (.slice b1 m c1))) := (HB.out.trans (hbb.mono (by omega))).setCell (by simp; omega) _; clear ho1 hb1 hg1 hat1 hbb))
        | (at_builtin; clear M2; go_must (refine app_elem_at (w1.setCell ⟨wr.heap.size, 2, none⟩ (.slice b1 m c1)) w1.heap.size (by simp) rfl _ _ 55 118 rfl shFlight (.agg #[.int .i64 0, .int .i64 0, .slice none 0 0, .int .i64 0, .int .i64 0]) 56 Try.underlying55 info_FlightS rfl (by decide) (by decide) (w.heap.size + 1 + 1 + 1) wr.heap.size (wr.heap.size + 1) w1.heap.size (l.take k) (.slice va k vc) (by rfl) (by rfl) HO1.out (z0, z1, d, z3, z4, ()) [.int .i64 z0, .int .i64 z1, .slice b1 m c1, .int .i64 z3, .int .i64 z4] HE1.out (by omega) (by omega) (by simp) (by have := HLL.out; omega) (by simp; omega) ?_; intro v2 w2 ho2 hb2 hk2 hs2; obtain ⟨va2, vc2, hv2⟩ := row_form (ho2.rd (Nat.le_refl _)); simp only [List.cons.injEq, and_true, List.length_append, List.length_cons, List.length_nil, HLL.out] at hv2; subst hv2; have HO2 : Hid (Own w2 (w.heap.size + 1 + 1 + 1) w2.heap.size shFlights (l.take (k + 1)) [.slice va2 (k + 1) vc2]) := (by rw [HTK.out]; exact ho2); have HB2 : Hid (Below w.heap.size w w2) := HB1.out.trans (hb2.mono (by omega)); have zz2 : w.heap.size + 1 + 1 < w2.heap.size := (by simp at hs2; omega); replace k0 := boxB (box_off k0 (by omega)) hb2 (by omega); replace k1 := boxB (box_off k1 (by omega)) hb2 (by omega); replace f1 := boxF (fun o => (by rw [World.frozen?_setCell]; exact f1 o)) hb2 (by omega); replace k2 := boxB (box_off k2 (by omega)) hb2 (by omega); replace f2 := boxF (fun o => (by rw [World.frozen?_setCell]; exact f2 o)) hb2 (by omega); clear ho2 hb2 hk2 hs2 p5 f5)))
      go_roundw
      case rel => exact ⟨k + 1, va2, vc2, by omega, by go_num, box_off k0 (by omega), box_off k1 (by omega), (fun o => by rw [World.frozen?_setCell]; exact f1 o), box_set3 k2, (fun o => by rw [World.frozen?_setCell]; exact f2 o), Own.mono (Own.keep HO2.out fun b h1 h2 => Below.heap_setCell _ _ _ _ (by dsimp only; omega)) (Nat.le_refl _) (by simp), HB2.out.setCell (by simp; omega) _, by simpa using zz2⟩
      case measure => simp [intOf]; omega
    · obtain rfl : k = n := by omega
      have HO2 : Hid (Own wr (w.heap.size + 1 + 1 + 1) wr.heap.size shFlights l [.slice va k vc]) := by have h := HO.out; rw [← HN.out, List.take_length] at h; rw [← HN.out]; exact h
      go_wp2_with fail
      refine bodyPost_ret (v := .agg #[.int .i64 y0, .int .i64 y1, .int .i64 y2, .slice va k vc]) (by simp [results, Try.results122, go_sem, k1]) rfl ⟨_, rfl, ?_, ?_⟩
      · have h2 : Own wr (w.heap.size + 1 + 1 + 1) wr.heap.size shSender (y0, y1, y2, l, ()) [.int .i64 y0, .int .i64 y1, .int .i64 y2, .slice va k vc] := hOwnCons (hOwnInt wr _ (w.heap.size + 1 + 1 + 1) W0.out) (hOwnCons (hOwnInt wr _ (w.heap.size + 1 + 1 + 1) W1.out) (hOwnCons (hOwnInt wr _ (w.heap.size + 1 + 1 + 1) W2.out) (hOwnCons HO2.out (hOwnNil _ _ _) (by omega) (Nat.le_refl _)) (Nat.le_refl _) (by omega)) (Nat.le_refl _) (by omega)) (Nat.le_refl _) (by omega)
        refine Own.mono (Own.keep h2 fun b hb hlt => ?_) (by omega) (by simp)
        repeat rw [Below.heap_setCell _ _ _ _ (by dsimp only; omega)]
      · have hB1 := HB.out
        clear k0 k1 f1 k2 f2 HO HO2 HB
        go_grown
end Go.Proofs.Ytebgibjokljlbaa
