/- What the program answers of a sender: its fault, what is on its way, the number of a place, a new one; nothing that was in memory turns; no condition but that loads are of at most a million bytes. -/
import Derived.Test.YtebgibjokljlbaaRows
import Derived.Test.YtebgibjokljlbaaS01
import Derived.Test.YtebgibjokljlbaaS03
import Derived.Test.YtebgibjokljlbaaS04
import Derived.Test.YtebgibjokljlbaaS05
namespace Go.Proofs.Ytebgibjokljlbaa
open Go.RowKit
set_option linter.unusedVariables false
theorem iInD (v low high : Int) (w : World) :
    Calls Try.prog 68 #[.int .i64 v, .int .i64 low, .int .i64 high] w fun e w' => e = .returned (.bool (inD v low high)) ∧ w' = w := by
  by_cases h : low ≤ v
  · go_enter Try.func68, Try.ntmps68
    go_wp2
    go_ret
    exact ⟨ret_bool (by simp [inD, h]), rfl⟩
  · have h' : decide (low ≤ v) = false := by simp; omega
    go_enter Try.func68, Try.ntmps68
    go_wp2
    go_ret
    exact ⟨ret_bool (by simp [inD]; omega), rfl⟩
theorem iPlcD (a : Int) (ad : Option Addr) (n cap : Nat) (w : World) (hn : n ≤ 1048576) :
    Calls Try.prog 42 #[.int .i64 a, .slice ad n cap] w fun e w' => e = .returned (.bool (!plcD a n)) ∧ w' = w := by
  by_cases h : a < 0
  · go_enter Try.func42, Try.ntmps42
    go_wp2_with fail
    go_ret
    exact ⟨ret_bool (by simp [plcD, inD]; omega), rfl⟩
  · go_enter Try.func42, Try.ntmps42
    go_wp2_with fail
    go_ret
    exact ⟨ret_bool (by rw [Bool.eq_iff_iff]; simp [plcD, inD]; omega), rfl⟩
theorem iLodD (a : Option Addr) (n cap : Nat) (w : World) :
    Calls Try.prog 148 #[.slice a n cap] w fun e w' => e = .returned (.bool (lodD n)) ∧ w' = w := by
  go_enter Try.func148, Try.ntmps148
  go_wp2_with (go_at_call 68; refine (iInD _ _ _ _).mono ?_; rintro e w' ⟨rfl, hw⟩; subst w')
  go_ret
  exact ⟨ret_bool (by rw [Bool.eq_iff_iff]; simp [lodD, inD]; omega), rfl⟩
theorem iFlEnd (z0 z1 z3 z4 : Int) (a : Option Addr) (m cap : Nat) (w : World) (h0 : -4611686018427387904 ≤ z0) (h1 : z0 ≤ 4611686018427387904) (hn : m ≤ 1048576) :
    Calls Try.prog 127 #[.agg #[.int .i64 z0, .int .i64 z1, .slice a m cap, .int .i64 z3, .int .i64 z4]] w fun e w' => e = .returned (.int .i64 (z0 + m)) ∧ Below w.heap.size w w' := by
  go_enter Try.func127, Try.ntmps127
  go_wp2_with fail
  go_ret
  exact ⟨rfl, by go_grown⟩
set_option maxHeartbeats 1000000 in
theorem iFlFault (z0 z1 z3 z4 : Int) (d : List Int) (a : Option Addr) (cap : Nat) (e0 : Int) (w : World) (hn : d.length ≤ 1048576) :
    Calls Try.prog 126 #[.agg #[.int .i64 z0, .int .i64 z1, .slice a d.length cap, .int .i64 z3, .int .i64 z4], .int .i64 e0] w fun e w' => e = .returned (.int .i64 (flFault (z0, z1, d, z3, z4, ()) e0)) ∧ Below w.heap.size w w' := by
  have F1 : Hid ((plcD z1 d.length && inD z3 0 1000000 && inD z4 1 1000) = false → flFault (z0, z1, d, z3, z4, ()) e0 = 3) := fun h => flF_r (x := (z0, z1, d, z3, z4, ())) h
  have F2 : Hid ((plcD z1 d.length && inD z3 0 1000000 && inD z4 1 1000) = true → (lodD d.length && decide (z0 = e0)) = false → flFault (z0, z1, d, z3, z4, ()) e0 = 1) := fun h h2 => flF_f (x := (z0, z1, d, z3, z4, ())) h h2
  have F3 : Hid ((plcD z1 d.length && inD z3 0 1000000 && inD z4 1 1000) = true → (lodD d.length && decide (z0 = e0)) = true → flFault (z0, z1, d, z3, z4, ()) e0 = 0) := fun h h2 => flF_ok (x := (z0, z1, d, z3, z4, ())) h h2
  generalize flFault (z0, z1, d, z3, z4, ()) e0 = R at *
  generalize d.length = m at *
  by_cases k1 : plcD z1 m = true
  · by_cases k2 : inD z3 0 1000000 = true
    · by_cases k3 : inD z4 1 1000 = true
      · by_cases k4 : lodD m = true
        · by_cases k5 : z0 = e0
          · have k5' : (z0 != e0) = false := by simp [k5]
            have hR := F3.out (by simp [k1, k2, k3]) (by simp [k4, k5])
            subst hR
            clear F1 F2 F3 k5
            go_enter Try.func126, Try.ntmps126
            go_wp2_with (first | (go_at_call 42; refine (iPlcD _ _ _ _ _ (by omega)).mono ?_; rintro e w' ⟨rfl, hw⟩; subst w') | (go_at_call 68; refine (iInD _ _ _ _).mono ?_; rintro e w' ⟨rfl, hw⟩; subst w') | (go_at_call 148; refine (iLodD _ _ _ _).mono ?_; rintro e w' ⟨rfl, hw⟩; subst w'))
            go_ret
            exact ⟨rfl, by go_grown⟩
          · have k5' : (z0 != e0) = true := by simp [k5]
            have hR := F2.out (by simp [k1, k2, k3]) (by simp [k5])
            subst hR
            clear F1 F2 F3 k5
            go_enter Try.func126, Try.ntmps126
            go_wp2_with (first | (go_at_call 42; refine (iPlcD _ _ _ _ _ (by omega)).mono ?_; rintro e w' ⟨rfl, hw⟩; subst w') | (go_at_call 68; refine (iInD _ _ _ _).mono ?_; rintro e w' ⟨rfl, hw⟩; subst w') | (go_at_call 148; refine (iLodD _ _ _ _).mono ?_; rintro e w' ⟨rfl, hw⟩; subst w'))
            go_ret
            exact ⟨rfl, by go_grown⟩
        · replace k4 : lodD m = false := by simpa using k4
          have hR := F2.out (by simp [k1, k2, k3]) (by simp [k4])
          subst hR
          clear F1 F2 F3
          go_enter Try.func126, Try.ntmps126
          go_wp2_with (first | (go_at_call 42; refine (iPlcD _ _ _ _ _ (by omega)).mono ?_; rintro e w' ⟨rfl, hw⟩; subst w') | (go_at_call 68; refine (iInD _ _ _ _).mono ?_; rintro e w' ⟨rfl, hw⟩; subst w') | (go_at_call 148; refine (iLodD _ _ _ _).mono ?_; rintro e w' ⟨rfl, hw⟩; subst w'))
          go_ret
          exact ⟨rfl, by go_grown⟩
      · replace k3 : inD z4 1 1000 = false := by simpa using k3
        have hR := F1.out (by simp [k3])
        subst hR
        clear F1 F2 F3
        go_enter Try.func126, Try.ntmps126
        go_wp2_with (first | (go_at_call 42; refine (iPlcD _ _ _ _ _ (by omega)).mono ?_; rintro e w' ⟨rfl, hw⟩; subst w') | (go_at_call 68; refine (iInD _ _ _ _).mono ?_; rintro e w' ⟨rfl, hw⟩; subst w') | (go_at_call 148; refine (iLodD _ _ _ _).mono ?_; rintro e w' ⟨rfl, hw⟩; subst w'))
        go_ret
        exact ⟨rfl, by go_grown⟩
    · replace k2 : inD z3 0 1000000 = false := by simpa using k2
      have hR := F1.out (by simp [k2])
      subst hR
      clear F1 F2 F3
      go_enter Try.func126, Try.ntmps126
      go_wp2_with (first | (go_at_call 42; refine (iPlcD _ _ _ _ _ (by omega)).mono ?_; rintro e w' ⟨rfl, hw⟩; subst w') | (go_at_call 68; refine (iInD _ _ _ _).mono ?_; rintro e w' ⟨rfl, hw⟩; subst w') | (go_at_call 148; refine (iLodD _ _ _ _).mono ?_; rintro e w' ⟨rfl, hw⟩; subst w'))
      go_ret
      exact ⟨rfl, by go_grown⟩
  · replace k1 : plcD z1 m = false := by simpa using k1
    have hR := F1.out (by simp [k1])
    subst hR
    clear F1 F2 F3
    go_enter Try.func126, Try.ntmps126
    go_wp2_with (first | (go_at_call 42; refine (iPlcD _ _ _ _ _ (by omega)).mono ?_; rintro e w' ⟨rfl, hw⟩; subst w') | (go_at_call 68; refine (iInD _ _ _ _).mono ?_; rintro e w' ⟨rfl, hw⟩; subst w') | (go_at_call 148; refine (iLodD _ _ _ _).mono ?_; rintro e w' ⟨rfl, hw⟩; subst w'))
    go_ret
    exact ⟨rfl, by go_grown⟩
set_option maxHeartbeats 4000000 in
theorem iSenderFault (x : DSender) (v : Value) (w : World) (B : Nat) (hr : shSender.Rd w B x [.int .i64 x.1, .int .i64 x.2.1, .int .i64 x.2.2.1, v]) (hB : B ≤ w.heap.size) (hT : totSender x ≤ 1048576) :
    Calls Try.prog 86 #[.agg #[.int .i64 x.1, .int .i64 x.2.1, .int .i64 x.2.2.1, v]] w fun e w' => e = .returned (.int .i64 (sndFault x)) ∧ Below w.heap.size w w' := by
  obtain ⟨vv, ev, rk, -⟩ := rd_Sender hr
  simp only [List.cons.injEq, and_true, true_and] at ev
  subst ev
  obtain ⟨a, cap, ev2⟩ := row_form rk
  simp only [List.cons.injEq, and_true] at ev2
  subst ev2
  have HT : Hid (∀ k (hk : k < x.2.2.2.1.length), x.2.2.2.1[k].2.2.1.length ≤ 1048576) := fun k hk => by have h : x.2.2.2.1[k].2.2.1.length ≤ fsum totFlight x.2.2.2.1 := fsum_at totFlight hk; unfold totSender totFlights at hT; omega
  have hmx : x.2.2.2.1.length ≤ 9223372036854775807 := row_max rk
  by_cases hh : sndHead x = true
  · have hh' := hh
    unfold sndHead at hh'
    simp only [Bool.and_eq_true] at hh'
    obtain ⟨⟨g1, g2⟩, g3⟩ := hh'
    by_cases hm : 12 < x.2.2.2.1.length
    · rw [sndFault_many hh (by omega)]
      clear hr HT hh rk hT
      generalize x.1 = y0 at *
      generalize x.2.1 = y1 at *
      generalize x.2.2.1 = y2 at *
      generalize x.2.2.2.1.length = n at *
      go_enter Try.func86, Try.ntmps86
      go_wp2_with (go_at_call 68; refine (iInD _ _ _ _).mono ?_; rintro e w' ⟨rfl, hw⟩; subst w')
      go_ret
      exact ⟨rfl, by go_grown⟩
    · rw [sndFault_fls hh (by omega)]
      have HRd : Hid (∀ W, Below w.heap.size w W → shFlights.Rd W B x.2.2.2.1 [.slice a x.2.2.2.1.length cap]) := fun W hW => rk.below hB hW
      have hb2 := inD_yes g2
      have hb3 := inD_yes g3
      clear hr hh rk hT
      obtain ⟨y0, y1, y2, l, _⟩ := x
      simp only at *
      generalize hRR : flsFault y1 y2 l = R
      have HRR : Hid (flsFault y1 y2 l = R) := hRR
      clear hRR
      obtain ⟨hb20, hb21⟩ := hb2
      obtain ⟨hb30, hb31⟩ := hb3
      obtain ⟨n, hn⟩ : ∃ n, l.length = n := ⟨_, rfl⟩
      have HN : Hid (l.length = n) := hn
      rw [hn] at HRd hm hmx ⊢
      clear hn
      go_enter Try.func86, Try.ntmps86
      go_wp2_with (go_at_call 68; refine (iInD _ _ _ _).mono ?_; rintro e w' ⟨rfl, hw⟩; subst w')
      go_loopw [3, 34] (fun t i wr => ∃ (k : Nat) (e : Int), k ≤ n ∧ i = .int .i64 k ∧ t = .int .i64 e ∧ 0 ≤ e ∧ e ≤ 1000000 + 8 * (k : Int) ∧ Hid (flsFault y1 e (l.drop k) = R) ∧ Hid (Below w.heap.size w wr) ∧ ∀ o, wr.cell? ⟨w.heap.size, o, none⟩ = (#[.int .i64 y0, .int .i64 y1, .int .i64 y2, .slice a n cap] : Array Value)[o]?) (fun _ i _ => n - (intOf i).toNat)
      case atStart => exact ⟨0, y2, Nat.zero_le _, rfl, rfl, by omega, by omega, HRR.out, (by show Below _ _ _; go_grown), fun o => by simp [go_sem]⟩
      case round =>
        obtain ⟨k, e, hk, rfl, rfl, he0, he1, hfe, HB, k0⟩ := hrel
        clear g1 g2 g3 HRR
        have hw0 : w.heap.size < wr.heap.size := cell_lt (k0 0)
        by_cases hlt : k < n
        · have hkl : k < l.length := by have := HN.out; omega
          obtain ⟨b, off, v, ha, hb, q0, q1, q2, q3, q4, r3⟩ := at_Flights (HRd.out wr HB.out) k hkl
          subst ha
          obtain ⟨vv, ev, rk, -⟩ := rd_Flight r3
          simp only [List.cons.injEq, and_true, true_and] at ev
          subst ev
          obtain ⟨va, vc, ev2⟩ := row_form rk
          simp only [List.cons.injEq, and_true] at ev2
          subst ev2
          have hnn := HT.out k hkl
          have hst := flsFault_at y1 e hkl
          rw [hfe.out] at hst
          have HST : Hid _ := hst
          clear rk r3 hst hfe
          have hkn : (k : Int) < (n : Int) := by omega
          generalize hx : l[k] = X at *
          obtain ⟨z0, z1, d, z3, z4, _⟩ := X
          simp only at *
          clear hx
          have HC : Hid (∀ W : World, Calls Try.prog 126 #[.agg #[.int .i64 z0, .int .i64 z1, .slice va d.length vc, .int .i64 z3, .int .i64 z4], .int .i64 e] W fun e w' => e = .returned (.int .i64 (flFault (z0, z1, d, z3, z4, ()) _)) ∧ Below W.heap.size W w') := fun W => iFlFault z0 z1 z3 z4 d va vc e W hnn
          have HP : Hid (flFault (z0, z1, d, z3, z4, ()) e = 0 → z0 = e ∧ d.length ≤ 8) := fun h => ⟨(flF_parts h).2.2.2.2, (lodD_yes (flF_parts h).2.2.2.1).2⟩
          generalize flFault (z0, z1, d, z3, z4, ()) e = F at *
          by_cases hF : F = 0
          · have hs := HST.out
            rw [if_pos hF] at hs
            have HF : Hid _ := hs
            obtain ⟨p1, p2⟩ := HP.out hF
            have hF' : (F != 0) = false := by simp [hF]
            subst p1
            clear HST HP hs
            generalize d.length = m at *
            go_wp2_with fail
            refine (HC.out _).mono ?_
            rintro e w1 ⟨rfl, hb1⟩
            have k5 : ∀ o, w1.cell? ⟨wr.heap.size, o, none⟩ = (#[.int .i64 z0, .int .i64 z1, .slice va m vc, .int .i64 z3, .int .i64 z4] : Array Value)[o]? := fun o => by rw [hb1.cell (p := ⟨wr.heap.size, o, none⟩) (by simp)]; simp [go_sem]
            have hbW : Below wr.heap.size wr w1 := Below.trans (by go_grown) (hb1.mono (by simp))
            have k0' := bx_below k0 hw0 hbW
            have HB1 : Hid (Below w.heap.size w w1) := HB.out.trans (hbW.mono (by omega))
            have hw1 : w.heap.size < w1.heap.size := Nat.lt_of_lt_of_le hw0 hbW.size
            clear hbW hb1 k0
            go_wp2_with (go_at_call 127; refine (iFlEnd _ _ _ _ _ _ _ _ (by omega) (by omega) (by omega)).mono ?_; rintro e w2 ⟨rfl, hb2⟩)
            go_roundw
            case rel => exact ⟨k + 1, z0 + m, by omega, by go_num, rfl, by omega, by push_cast; omega, HF.out.symm, HB1.out.trans (hb2.mono (by omega)), bx_below k0' hw1 hb2⟩
            case measure => simp [intOf]; omega
          · have hs := HST.out
            rw [if_neg hF] at hs
            have hF' : (F != 0) = true := by simp [hF]
            subst hs
            clear HST HP
            generalize d.length = m at *
            go_wp2_with fail
            refine (HC.out _).mono ?_
            rintro e w1 ⟨rfl, hb1⟩
            have hbW : Below wr.heap.size wr w1 := Below.trans (by go_grown) (hb1.mono (by simp))
            have HB1 : Hid (Below w.heap.size w w1) := HB.out.trans (hbW.mono (by omega))
            clear hbW hb1 k0
            go_wp2_with fail
            go_ret
            exact ⟨rfl, HB1.out⟩
        · obtain rfl : k = n := by omega
          have he := hfe.out
          rw [← HN.out, flsFault_end] at he
          by_cases hq : e = y1
          · rw [if_pos hq] at he
            have hq' : (y1 != e) = false := by simp [hq]
            subst he
            clear hq
            go_wp2_with fail
            go_ret
            exact ⟨rfl, HB.out⟩
          · rw [if_neg hq] at he
            have hq' : (y1 != e) = true := by simp; omega
            subst he
            clear hq
            go_wp2_with fail
            go_ret
            exact ⟨rfl, HB.out⟩
  · have hh' : sndHead x = false := by simpa using hh
    rw [sndFault_head hh']
    clear hr HT hh rk hT
    unfold sndHead at hh'
    generalize x.1 = y0 at *
    generalize x.2.1 = y1 at *
    generalize x.2.2.1 = y2 at *
    generalize x.2.2.2.1.length = n at *
    by_cases g1 : inD y0 0 65535 = true
    · by_cases g2 : inD y1 0 1000000 = true
      · have g3 : inD y2 0 y1 = false := by simpa [g1, g2] using hh'
        clear hh'
        go_enter Try.func86, Try.ntmps86
        go_wp2_with (go_at_call 68; refine (iInD _ _ _ _).mono ?_; rintro e w' ⟨rfl, hw⟩; subst w')
        go_ret
        exact ⟨rfl, by go_grown⟩
      · replace g2 : inD y1 0 1000000 = false := by simpa using g2
        clear hh'
        go_enter Try.func86, Try.ntmps86
        go_wp2_with (go_at_call 68; refine (iInD _ _ _ _).mono ?_; rintro e w' ⟨rfl, hw⟩; subst w')
        go_ret
        exact ⟨rfl, by go_grown⟩
    · replace g1 : inD y0 0 65535 = false := by simpa using g1
      clear hh'
      go_enter Try.func86, Try.ntmps86
      go_wp2_with (go_at_call 68; refine (iInD _ _ _ _).mono ?_; rintro e w' ⟨rfl, hw⟩; subst w')
      go_ret
      exact ⟨rfl, by go_grown⟩
set_option maxHeartbeats 1000000 in
theorem iOnWay (x : DSender) (v : Value) (w : World) (B : Nat) (hr : shSender.Rd w B x [.int .i64 x.1, .int .i64 x.2.1, .int .i64 x.2.2.1, v]) (hB : B ≤ w.heap.size) (hT : totSender x ≤ 1048576) :
    Calls Try.prog 90 #[.agg #[.int .i64 x.1, .int .i64 x.2.1, .int .i64 x.2.2.1, v]] w fun e w' => e = .returned (.agg #[.int .i64 (sndFault x), .int .i64 (onwV x)]) ∧ Below w.heap.size w w' := by
  obtain ⟨vv, ev, rk, -⟩ := rd_Sender hr
  simp only [List.cons.injEq, and_true, true_and] at ev
  subst ev
  obtain ⟨a, cap, ev2⟩ := row_form rk
  simp only [List.cons.injEq, and_true] at ev2
  subst ev2
  have HC : Hid (∀ W, Below w.heap.size w W → Calls Try.prog 86 #[.agg #[.int .i64 x.1, .int .i64 x.2.1, .int .i64 x.2.2.1, .slice a x.2.2.2.1.length cap]] W fun e w' => e = .returned (.int .i64 (sndFault x)) ∧ Below W.heap.size W w') :=
    fun W hW => iSenderFault x _ W B (Sh.Rd.below hr hB hW) (Nat.le_trans hB hW.size) hT
  have HO : Hid (sndFault x = 0 → 0 ≤ x.2.1 ∧ x.2.1 ≤ 1000000 ∧ 0 ≤ x.2.2.1 ∧ x.2.2.1 ≤ x.2.1) := fun h => by obtain ⟨h1, h2, h3, _⟩ := snd_ok h; have := inD_yes h2; have := inD_yes h3; omega
  have HV : Hid (onwV x = if sndFault x = 0 then x.2.1 - x.2.2.1 else 0) := rfl
  clear hr rk hT hB
  generalize onwV x = V at *
  generalize sndFault x = F at *
  generalize x.1 = y0 at *
  generalize x.2.1 = y1 at *
  generalize x.2.2.1 = y2 at *
  generalize x.2.2.2.1.length = n at *
  have hv := HV.out
  clear HV
  by_cases hF : F = 0
  · obtain ⟨p0, p1, p2, p3⟩ := HO.out hF
    rw [if_pos hF] at hv
    have hF' : (F != 0) = false := by simp [hF]
    subst hv hF
    clear HO
    go_enter Try.func90, Try.ntmps90
    go_wp2_with fail
    refine (HC.out _ (by go_grown)).mono ?_
    rintro e w1 ⟨rfl, hb⟩
    have k1 := bx_new (w := w.alloc (.cells #[.int .i64 y0, .int .i64 y1, .int .i64 y2, .slice a n cap] 57)) hb
    have k0 : ∀ o, w1.cell? ⟨w.heap.size, o, none⟩ = (#[.int .i64 y0, .int .i64 y1, .int .i64 y2, .slice a n cap] : Array Value)[o]? := fun o => by rw [hb.cell (p := ⟨w.heap.size, o, none⟩) (by simp; omega)]; simp [go_sem]
    have f1 : ∀ o, w1.frozen? ⟨w.heap.size + 1, o, none⟩ = false := fun o => by rw [hb.frozen (p := ⟨w.heap.size + 1, o, none⟩) (by simp)]; simp [go_sem]
    simp only [World.size_alloc] at k1
    have HB : Hid (Below w.heap.size w w1) := Below.trans (by go_grown) (hb.mono (by simp; omega))
    have z1 : w.heap.size + 1 < w1.heap.size := by have := hb.size; simp at this; omega
    clear hb HC
    go_wp2_with fail
    refine bodyPost_ret (v := .agg #[.int .i64 0, .int .i64 (y1 - y2)]) (by simp [results, Try.results90, go_sem, k1]) rfl ⟨rfl, ?_⟩
    have hB1 := HB.out
    clear k1 k0 HB
    go_grown
  · rw [if_neg hF] at hv
    have hF' : (F != 0) = true := by simp [hF]
    subst hv
    clear HO hF
    go_enter Try.func90, Try.ntmps90
    go_wp2_with fail
    refine (HC.out _ (by go_grown)).mono ?_
    rintro e w1 ⟨rfl, hb⟩
    have k1 := bx_new (w := w.alloc (.cells #[.int .i64 y0, .int .i64 y1, .int .i64 y2, .slice a n cap] 57)) hb
    have k0 : ∀ o, w1.cell? ⟨w.heap.size, o, none⟩ = (#[.int .i64 y0, .int .i64 y1, .int .i64 y2, .slice a n cap] : Array Value)[o]? := fun o => by rw [hb.cell (p := ⟨w.heap.size, o, none⟩) (by simp; omega)]; simp [go_sem]
    have f1 : ∀ o, w1.frozen? ⟨w.heap.size + 1, o, none⟩ = false := fun o => by rw [hb.frozen (p := ⟨w.heap.size + 1, o, none⟩) (by simp)]; simp [go_sem]
    simp only [World.size_alloc] at k1
    have HB : Hid (Below w.heap.size w w1) := Below.trans (by go_grown) (hb.mono (by simp; omega))
    have z1 : w.heap.size + 1 < w1.heap.size := by have := hb.size; simp at this; omega
    clear hb HC
    go_wp2_with fail
    refine bodyPost_ret (v := .agg #[.int .i64 F, .int .i64 0]) (by simp [results, Try.results90, go_sem, k1]) rfl ⟨rfl, ?_⟩
    have hB1 := HB.out
    clear k1 k0 HB
    go_grown
end Go.Proofs.Ytebgibjokljlbaa
