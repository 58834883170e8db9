/- What the program answers of a sub: its fault; nothing that was in memory turns; no condition but that there are at most a million parts. -/
import Derived.Test.YtebgibjokljlbaaRows
import Derived.Deep.RegionHeld3
import Derived.Test.YtebgibjokljlbaaS01
import Derived.Test.YtebgibjokljlbaaS03
import Derived.Test.YtebgibjokljlbaaS04
import Derived.Test.YtebgibjokljlbaaS05
import Derived.Test.YtebgibjokljlbaaS11
import Derived.Test.YtebgibjokljlbaaS13
import Derived.Test.YtebgibjokljlbaaS18
import Derived.Test.YtebgibjokljlbaaS20
import Derived.Test.YtebgibjokljlbaaS21
namespace Go.Proofs.Ytebgibjokljlbaa
open Go.RowKit
set_option linter.unusedVariables false
set_option maxRecDepth 8000
set_option maxHeartbeats 1000000 in
theorem iSubIn (y0 y1 : Int) (y2 : Bool) (y3 y4 y5 s0 s1 s2 c0 c1 k0 k1 k2 : Int) (fl : List DFlight) (sp : List DSpan) (ua : Option Addr) (fn uc : Nat) (va : Option Addr) (sn vc : Nat) (w : World) :
    Calls Try.prog 85 #[.agg #[.int .i64 y0, .int .i64 y1, .bool y2, .int .i64 y3, .int .i64 y4, .int .i64 y5, .int .i64 s0, .int .i64 s1, .int .i64 s2, .slice ua fn uc, .int .i64 c0, .int .i64 c1, .slice va sn vc, .int .i64 k0, .int .i64 k1, .int .i64 k2]] w fun e w' => e = .returned (.bool (subHead (y0, y1, y2, y3, y4, y5, (s0, s1, s2, fl, ()), (c0, c1, sp, ()), (k0, k1, k2, ()), ()))) ∧ Below w.heap.size w w' := by
  obtain ⟨R, hR⟩ : ∃ R, R = subHead (y0, y1, y2, y3, y4, y5, (s0, s1, s2, fl, ()), (c0, c1, sp, ()), (k0, k1, k2, ()), ()) := ⟨_, rfl⟩
  rw [← hR]
  replace hR : R = (inD y0 0 2 && inD y1 1 4 && inD y3 0 1000000 && inD y4 0 1000000 && inD y5 0 1000000) := hR
  by_cases g1 : inD y0 0 2 = true
  · by_cases g2 : inD y1 1 4 = true
    · by_cases g3 : inD y3 0 1000000 = true
      · by_cases g4 : inD y4 0 1000000 = true
        · rw [g1, g2, g3, g4] at hR
          simp only [Bool.true_and] at hR
          subst hR
          go_enter Try.func85, Try.ntmps85
          go_wp2_with (go_at_call 68; refine (iInD _ _ _ _).mono ?_; rintro e w' ⟨rfl, hw⟩; subst w')
          go_ret
          exact ⟨rfl, by go_grown⟩
        · replace g4 : inD y4 0 1000000 = false := by simpa using g4
          rw [g4] at hR
          simp only [Bool.and_false, Bool.false_and] at hR
          subst hR
          go_enter Try.func85, Try.ntmps85
          go_wp2_with (go_at_call 68; refine (iInD _ _ _ _).mono ?_; rintro e w' ⟨rfl, hw⟩; subst w')
          go_ret
          exact ⟨rfl, by go_grown⟩
      · replace g3 : inD y3 0 1000000 = false := by simpa using g3
        rw [g3] at hR
        simp only [Bool.and_false, Bool.false_and] at hR
        subst hR
        go_enter Try.func85, Try.ntmps85
        go_wp2_with (go_at_call 68; refine (iInD _ _ _ _).mono ?_; rintro e w' ⟨rfl, hw⟩; subst w')
        go_ret
        exact ⟨rfl, by go_grown⟩
    · replace g2 : inD y1 1 4 = false := by simpa using g2
      rw [g2] at hR
      simp only [Bool.and_false, Bool.false_and] at hR
      subst hR
      go_enter Try.func85, Try.ntmps85
      go_wp2_with (go_at_call 68; refine (iInD _ _ _ _).mono ?_; rintro e w' ⟨rfl, hw⟩; subst w')
      go_ret
      exact ⟨rfl, by go_grown⟩
  · replace g1 : inD y0 0 2 = false := by simpa using g1
    rw [g1] at hR
    simp only [Bool.false_and] at hR
    subst hR
    go_enter Try.func85, Try.ntmps85
    go_wp2_with (go_at_call 68; refine (iInD _ _ _ _).mono ?_; rintro e w' ⟨rfl, hw⟩; subst w')
    go_ret
    exact ⟨rfl, by go_grown⟩
set_option maxHeartbeats 1000000 in
theorem iFits (y0 y1 : Int) (y2 : Bool) (y3 y4 y5 s0 s1 s2 c0 c1 k0 k1 k2 : Int) (fl : List DFlight) (sp : List DSpan) (ua : Option Addr) (fn uc : Nat) (va : Option Addr) (sn vc : Nat) (w : World) (hfn : fl.length = fn) (g : inD y1 1 4 = true) (hs : 0 ≤ s1) :
    Calls Try.prog 89 #[.agg #[.int .i64 y0, .int .i64 y1, .bool y2, .int .i64 y3, .int .i64 y4, .int .i64 y5, .int .i64 s0, .int .i64 s1, .int .i64 s2, .slice ua fn uc, .int .i64 c0, .int .i64 c1, .slice va sn vc, .int .i64 k0, .int .i64 k1, .int .i64 k2]] w fun e w' => e = .returned (.bool (!subForm (y0, y1, y2, y3, y4, y5, (s0, s1, s2, fl, ()), (c0, c1, sp, ()), (k0, k1, k2, ()), ()))) ∧ Below w.heap.size w w' := by
  have hy := inD_yes g
  obtain ⟨R, hR⟩ : ∃ R, R = !subForm (y0, y1, y2, y3, y4, y5, (s0, s1, s2, fl, ()), (c0, c1, sp, ()), (k0, k1, k2, ()), ()) := ⟨_, rfl⟩
  rw [← hR]
  replace hR : R = !((decide (y1 < 3) && decide (0 < s1)) || (decide (y1 = 4) && decide (0 < fl.length))) := hR
  rw [hfn] at hR
  have hR1 : Hid (y1 = 1 → R = (s1 == 0)) := fun h => by rw [hR, h, Bool.eq_iff_iff]; simp; omega
  have hR2 : Hid (y1 = 2 → R = (s1 == 0)) := fun h => by rw [hR, h, Bool.eq_iff_iff]; simp; omega
  have hR4 : Hid (y1 = 4 → R = ((fn : Int) == 0)) := fun h => by rw [hR, h, Bool.eq_iff_iff]; simp
  have hR3 : Hid (y1 = 3 → R = true) := fun h => by rw [hR, h]; simp
  clear hR hfn g
  by_cases a1 : y1 = 1
  · have h := hR1.out a1
    have a1' : (y1 == 1) = true := by simp [a1]
    subst h
    clear hR1 hR2 hR3 hR4 a1
    go_enter Try.func89, Try.ntmps89
    go_wp2_with fail
    go_ret
    exact ⟨rfl, by go_grown⟩
  · have a1' : (y1 == 1) = false := by simp [a1]
    by_cases a2 : y1 = 2
    · have h := hR2.out a2
      have a2' : (y1 == 2) = true := by simp [a2]
      subst h
      clear hR1 hR2 hR3 hR4 a1 a2
      go_enter Try.func89, Try.ntmps89
      go_wp2_with fail
      go_ret
      exact ⟨rfl, by go_grown⟩
    · have a2' : (y1 == 2) = false := by simp [a2]
      by_cases a4 : y1 = 4
      · have h := hR4.out a4
        have a4' : (y1 == 4) = true := by simp [a4]
        subst h
        clear hR1 hR2 hR3 hR4 a1 a2 a4
        go_enter Try.func89, Try.ntmps89
        go_wp2_with fail
        go_ret
        exact ⟨rfl, by go_grown⟩
      · have h := hR3.out (by omega)
        have a4' : (y1 == 4) = false := by simp [a4]
        subst h
        clear hR1 hR2 hR3 hR4 a1 a2 a4
        go_enter Try.func89, Try.ntmps89
        go_wp2_with fail
        go_ret
        exact ⟨rfl, by go_grown⟩
set_option maxHeartbeats 4000000 in
theorem iSubFault (x : DSub) (u v : Value) (w : World) (B : Nat) (hr : shSub.Rd w B x [.int .i64 x.1, .int .i64 x.2.1, .bool x.2.2.1, .int .i64 x.2.2.2.1, .int .i64 x.2.2.2.2.1, .int .i64 x.2.2.2.2.2.1, .int .i64 x.2.2.2.2.2.2.1.1, .int .i64 x.2.2.2.2.2.2.1.2.1, .int .i64 x.2.2.2.2.2.2.1.2.2.1, u, .int .i64 x.2.2.2.2.2.2.2.1.1, .int .i64 x.2.2.2.2.2.2.2.1.2.1, v, .int .i64 x.2.2.2.2.2.2.2.2.1.1, .int .i64 x.2.2.2.2.2.2.2.2.1.2.1, .int .i64 x.2.2.2.2.2.2.2.2.1.2.2.1]) (hB : B ≤ w.heap.size) (hT : totSub x ≤ 1048576) :
    Calls Try.prog 33 #[.agg #[.int .i64 x.1, .int .i64 x.2.1, .bool x.2.2.1, .int .i64 x.2.2.2.1, .int .i64 x.2.2.2.2.1, .int .i64 x.2.2.2.2.2.1, .int .i64 x.2.2.2.2.2.2.1.1, .int .i64 x.2.2.2.2.2.2.1.2.1, .int .i64 x.2.2.2.2.2.2.1.2.2.1, u, .int .i64 x.2.2.2.2.2.2.2.1.1, .int .i64 x.2.2.2.2.2.2.2.1.2.1, v, .int .i64 x.2.2.2.2.2.2.2.2.1.1, .int .i64 x.2.2.2.2.2.2.2.2.1.2.1, .int .i64 x.2.2.2.2.2.2.2.2.1.2.2.1]] w fun e w' => e = .returned (.int .i64 (subF x)) ∧ Below w.heap.size w w' := by
  obtain ⟨y0, y1, y2, y3, y4, y5, ⟨s0, s1, s2, fl, ⟨⟩⟩, ⟨c0, c1, sp, ⟨⟩⟩, ⟨k0, k1, k2, ⟨⟩⟩, ⟨⟩⟩ := x
  simp only at *
  obtain ⟨ua, uc, va, vc, rfl, rfl, rs, rc, hwf⟩ := rd_SubF hr
  have ht : totSender (s0, s1, s2, fl, ()) + totCatch (c0, c1, sp, ()) ≤ 1048576 := hT
  obtain ⟨fn, hfn⟩ : ∃ n, fl.length = n := ⟨_, rfl⟩
  obtain ⟨sn, hsn⟩ : ∃ n, sp.length = n := ⟨_, rfl⟩
  rw [hfn] at rs ⊢
  rw [hsn] at rc ⊢
  have H0 : Hid (∀ W, Calls Try.prog 85 #[.agg #[.int .i64 y0, .int .i64 y1, .bool y2, .int .i64 y3, .int .i64 y4, .int .i64 y5, .int .i64 s0, .int .i64 s1, .int .i64 s2, .slice ua fn uc, .int .i64 c0, .int .i64 c1, .slice va sn vc, .int .i64 k0, .int .i64 k1, .int .i64 k2]] W fun e w' => e = .returned (.bool (subHead (y0, y1, y2, y3, y4, y5, (s0, s1, s2, fl, ()), (c0, c1, sp, ()), (k0, k1, k2, ()), ()))) ∧ Below W.heap.size W w') := fun W => iSubIn y0 y1 y2 y3 y4 y5 s0 s1 s2 c0 c1 k0 k1 k2 fl sp ua fn uc va sn vc W
  have H1 : Hid (∀ W, Below w.heap.size w W → Calls Try.prog 86 #[.agg #[.int .i64 s0, .int .i64 s1, .int .i64 s2, .slice ua fn uc]] W fun e w' => e = .returned (.int .i64 (sndFault (s0, s1, s2, fl, ()))) ∧ Below W.heap.size W w') := fun W hW => iSenderFault (s0, s1, s2, fl, ()) _ W B (rs.below hB hW) (Nat.le_trans hB hW.size) (by omega)
  have H2 : Hid (∀ W, Below w.heap.size w W → Calls Try.prog 87 #[.agg #[.int .i64 c0, .int .i64 c1, .slice va sn vc]] W fun e w' => e = .returned (.int .i64 (caF (c0, c1, sp, ()))) ∧ Below W.heap.size W w') := fun W hW => iCatchFault (c0, c1, sp, ()) _ W B (rc.below hB hW) (Nat.le_trans hB hW.size) (by omega)
  have H3 : Hid (∀ W, Calls Try.prog 88 #[.agg #[.int .i64 k0, .int .i64 k1, .int .i64 k2]] W fun e w' => e = .returned (.int .i64 (ctF k0 k1 k2)) ∧ Below W.heap.size W w') := fun W => iControlFault k0 k1 k2 W
  have H4 : Hid (inD y1 1 4 = true → 0 ≤ s1 → ∀ W, Calls Try.prog 89 #[.agg #[.int .i64 y0, .int .i64 y1, .bool y2, .int .i64 y3, .int .i64 y4, .int .i64 y5, .int .i64 s0, .int .i64 s1, .int .i64 s2, .slice ua fn uc, .int .i64 c0, .int .i64 c1, .slice va sn vc, .int .i64 k0, .int .i64 k1, .int .i64 k2]] W fun e w' => e = .returned (.bool (!subForm (y0, y1, y2, y3, y4, y5, (s0, s1, s2, fl, ()), (c0, c1, sp, ()), (k0, k1, k2, ()), ()))) ∧ Below W.heap.size W w') := fun g hs W => iFits y0 y1 y2 y3 y4 y5 s0 s1 s2 c0 c1 k0 k1 k2 fl sp ua fn uc va sn vc W hfn g hs
  clear hr rs rc hwf hT ht hfn hsn
  by_cases hh : subHead (y0, y1, y2, y3, y4, y5, (s0, s1, s2, fl, ()), (c0, c1, sp, ()), (k0, k1, k2, ()), ()) = true
  · have g2 : inD y1 1 4 = true := (subHead_parts hh).2.1
    obtain ⟨R, hR⟩ : ∃ R, R = subF (y0, y1, y2, y3, y4, y5, (s0, s1, s2, fl, ()), (c0, c1, sp, ()), (k0, k1, k2, ()), ()) := ⟨_, rfl⟩
    rw [← hR]
    have F1 : Hid (¬ sndFault (s0, s1, s2, fl, ()) = 0 → R = sndFault (s0, s1, s2, fl, ())) := fun h => hR.trans (subF_s hh h)
    have F2 : Hid (sndFault (s0, s1, s2, fl, ()) = 0 → ¬ caF (c0, c1, sp, ()) = 0 → R = caF (c0, c1, sp, ())) := fun h h2 => hR.trans (subF_c hh h h2)
    have F3 : Hid (sndFault (s0, s1, s2, fl, ()) = 0 → caF (c0, c1, sp, ()) = 0 → ¬ ctF k0 k1 k2 = 0 → R = ctF k0 k1 k2) := fun h h2 h3 => hR.trans (subF_k hh h h2 h3)
    have F4 : Hid (sndFault (s0, s1, s2, fl, ()) = 0 → caF (c0, c1, sp, ()) = 0 → ctF k0 k1 k2 = 0 → subForm (y0, y1, y2, y3, y4, y5, (s0, s1, s2, fl, ()), (c0, c1, sp, ()), (k0, k1, k2, ()), ()) = true → R = 1) := fun h h2 h3 h4 => hR.trans (subF_f hh h h2 h3 h4)
    have F5 : Hid (sndFault (s0, s1, s2, fl, ()) = 0 → caF (c0, c1, sp, ()) = 0 → ctF k0 k1 k2 = 0 → subForm (y0, y1, y2, y3, y4, y5, (s0, s1, s2, fl, ()), (c0, c1, sp, ()), (k0, k1, k2, ()), ()) = false → R = 0) := fun h h2 h3 h4 => hR.trans (subF_o hh h h2 h3 h4)
    have FN : Hid (sndFault (s0, s1, s2, fl, ()) = 0 → 0 ≤ s1) := fun h => (inD_yes (snd_ok h).2.1).1
    have H5 : Hid (sndFault (s0, s1, s2, fl, ()) = 0 → ∀ W, Calls Try.prog 89 #[.agg #[.int .i64 y0, .int .i64 y1, .bool y2, .int .i64 y3, .int .i64 y4, .int .i64 y5, .int .i64 s0, .int .i64 s1, .int .i64 s2, .slice ua fn uc, .int .i64 c0, .int .i64 c1, .slice va sn vc, .int .i64 k0, .int .i64 k1, .int .i64 k2]] W fun e w' => e = .returned (.bool (!subForm (y0, y1, y2, y3, y4, y5, (s0, s1, s2, fl, ()), (c0, c1, sp, ()), (k0, k1, k2, ()), ()))) ∧ Below W.heap.size W w') := fun h => H4.out g2 (FN.out h)
    rw [hh] at H0
    clear hR hh g2 FN H4
    generalize sndFault (s0, s1, s2, fl, ()) = FS at *
    generalize caF (c0, c1, sp, ()) = FC at *
    generalize ctF k0 k1 k2 = FK at *
    generalize subForm (y0, y1, y2, y3, y4, y5, (s0, s1, s2, fl, ()), (c0, c1, sp, ()), (k0, k1, k2, ()), ()) = FT at *
    by_cases e1 : FS = 0
    · subst e1
      have H6 : Hid _ := H5.out rfl
      by_cases e2 : FC = 0
      · subst e2
        by_cases e3 : FK = 0
        · subst e3
          cases FT with
          | true =>
            have hR := F4.out rfl rfl rfl rfl
            subst hR
            clear F1 F2 F3 F4 F5 H5
            go_enter Try.func33, Try.ntmps33
            go_wp2_with fail
            refine (H0.out _).mono ?_
            rintro e w1 ⟨rfl, hb⟩
            have j0 := bx_new hb
            have z0 : w.heap.size < w1.heap.size := by have := hb.size; simp at this; omega
            have HB : Hid (Below w.heap.size w w1) := (bl_new hb).1
            clear hb
            go_wp2_with fail
            refine (H1.out _ HB.out).mono ?_
            rintro e w2 ⟨rfl, hb⟩
            replace j0 := bx_below j0 z0 hb
            replace z0 := Nat.lt_of_lt_of_le z0 hb.size
            replace HB : Hid (Below w.heap.size w w2) := HB.out.trans (hb.mono HB.out.size)
            clear hb
            go_wp2_with fail
            refine (H2.out _ HB.out).mono ?_
            rintro e w2 ⟨rfl, hb⟩
            replace j0 := bx_below j0 z0 hb
            replace z0 := Nat.lt_of_lt_of_le z0 hb.size
            replace HB : Hid (Below w.heap.size w w2) := HB.out.trans (hb.mono HB.out.size)
            clear hb
            go_wp2_with fail
            refine (H3.out _).mono ?_
            rintro e w2 ⟨rfl, hb⟩
            replace j0 := bx_below j0 z0 hb
            replace z0 := Nat.lt_of_lt_of_le z0 hb.size
            replace HB : Hid (Below w.heap.size w w2) := HB.out.trans (hb.mono HB.out.size)
            clear hb
            go_wp2_with fail
            refine (H6.out _).mono ?_
            rintro e w2 ⟨rfl, hb⟩
            replace j0 := bx_below j0 z0 hb
            replace z0 := Nat.lt_of_lt_of_le z0 hb.size
            replace HB : Hid (Below w.heap.size w w2) := HB.out.trans (hb.mono HB.out.size)
            clear hb
            go_wp2_with fail
            go_ret
            exact ⟨rfl, HB.out⟩
          | false =>
            have hR := F5.out rfl rfl rfl rfl
            subst hR
            clear F1 F2 F3 F4 F5 H5
            go_enter Try.func33, Try.ntmps33
            go_wp2_with fail
            refine (H0.out _).mono ?_
            rintro e w1 ⟨rfl, hb⟩
            have j0 := bx_new hb
            have z0 : w.heap.size < w1.heap.size := by have := hb.size; simp at this; omega
            have HB : Hid (Below w.heap.size w w1) := (bl_new hb).1
            clear hb
            go_wp2_with fail
            refine (H1.out _ HB.out).mono ?_
            rintro e w2 ⟨rfl, hb⟩
            replace j0 := bx_below j0 z0 hb
            replace z0 := Nat.lt_of_lt_of_le z0 hb.size
            replace HB : Hid (Below w.heap.size w w2) := HB.out.trans (hb.mono HB.out.size)
            clear hb
            go_wp2_with fail
            refine (H2.out _ HB.out).mono ?_
            rintro e w2 ⟨rfl, hb⟩
            replace j0 := bx_below j0 z0 hb
            replace z0 := Nat.lt_of_lt_of_le z0 hb.size
            replace HB : Hid (Below w.heap.size w w2) := HB.out.trans (hb.mono HB.out.size)
            clear hb
            go_wp2_with fail
            refine (H3.out _).mono ?_
            rintro e w2 ⟨rfl, hb⟩
            replace j0 := bx_below j0 z0 hb
            replace z0 := Nat.lt_of_lt_of_le z0 hb.size
            replace HB : Hid (Below w.heap.size w w2) := HB.out.trans (hb.mono HB.out.size)
            clear hb
            go_wp2_with fail
            refine (H6.out _).mono ?_
            rintro e w2 ⟨rfl, hb⟩
            replace j0 := bx_below j0 z0 hb
            replace z0 := Nat.lt_of_lt_of_le z0 hb.size
            replace HB : Hid (Below w.heap.size w w2) := HB.out.trans (hb.mono HB.out.size)
            clear hb
            go_wp2_with fail
            go_ret
            exact ⟨rfl, HB.out⟩
        · have e3' : (FK != 0) = true := by simp [e3]
          have hR := F3.out rfl rfl e3
          subst hR
          clear F1 F2 F3 F4 F5 e3 H5
          go_enter Try.func33, Try.ntmps33
          go_wp2_with fail
          refine (H0.out _).mono ?_
          rintro e w1 ⟨rfl, hb⟩
          have j0 := bx_new hb
          have z0 : w.heap.size < w1.heap.size := by have := hb.size; simp at this; omega
          have HB : Hid (Below w.heap.size w w1) := (bl_new hb).1
          clear hb
          go_wp2_with fail
          refine (H1.out _ HB.out).mono ?_
          rintro e w2 ⟨rfl, hb⟩
          replace j0 := bx_below j0 z0 hb
          replace z0 := Nat.lt_of_lt_of_le z0 hb.size
          replace HB : Hid (Below w.heap.size w w2) := HB.out.trans (hb.mono HB.out.size)
          clear hb
          go_wp2_with fail
          refine (H2.out _ HB.out).mono ?_
          rintro e w2 ⟨rfl, hb⟩
          replace j0 := bx_below j0 z0 hb
          replace z0 := Nat.lt_of_lt_of_le z0 hb.size
          replace HB : Hid (Below w.heap.size w w2) := HB.out.trans (hb.mono HB.out.size)
          clear hb
          go_wp2_with fail
          refine (H3.out _).mono ?_
          rintro e w2 ⟨rfl, hb⟩
          replace j0 := bx_below j0 z0 hb
          replace z0 := Nat.lt_of_lt_of_le z0 hb.size
          replace HB : Hid (Below w.heap.size w w2) := HB.out.trans (hb.mono HB.out.size)
          clear hb
          go_wp2_with fail
          go_ret
          exact ⟨rfl, HB.out⟩
      · have e2' : (FC != 0) = true := by simp [e2]
        have hR := F2.out rfl e2
        subst hR
        clear F1 F2 F3 F4 F5 e2 H5
        go_enter Try.func33, Try.ntmps33
        go_wp2_with fail
        refine (H0.out _).mono ?_
        rintro e w1 ⟨rfl, hb⟩
        have j0 := bx_new hb
        have z0 : w.heap.size < w1.heap.size := by have := hb.size; simp at this; omega
        have HB : Hid (Below w.heap.size w w1) := (bl_new hb).1
        clear hb
        go_wp2_with fail
        refine (H1.out _ HB.out).mono ?_
        rintro e w2 ⟨rfl, hb⟩
        replace j0 := bx_below j0 z0 hb
        replace z0 := Nat.lt_of_lt_of_le z0 hb.size
        replace HB : Hid (Below w.heap.size w w2) := HB.out.trans (hb.mono HB.out.size)
        clear hb
        go_wp2_with fail
        refine (H2.out _ HB.out).mono ?_
        rintro e w2 ⟨rfl, hb⟩
        replace j0 := bx_below j0 z0 hb
        replace z0 := Nat.lt_of_lt_of_le z0 hb.size
        replace HB : Hid (Below w.heap.size w w2) := HB.out.trans (hb.mono HB.out.size)
        clear hb
        go_wp2_with fail
        go_ret
        exact ⟨rfl, HB.out⟩
    · have e1' : (FS != 0) = true := by simp [e1]
      have hR := F1.out e1
      subst hR
      clear F1 F2 F3 F4 F5 e1 H5
      go_enter Try.func33, Try.ntmps33
      go_wp2_with fail
      refine (H0.out _).mono ?_
      rintro e w1 ⟨rfl, hb⟩
      have j0 := bx_new hb
      have z0 : w.heap.size < w1.heap.size := by have := hb.size; simp at this; omega
      have HB : Hid (Below w.heap.size w w1) := (bl_new hb).1
      clear hb
      go_wp2_with fail
      refine (H1.out _ HB.out).mono ?_
      rintro e w2 ⟨rfl, hb⟩
      replace j0 := bx_below j0 z0 hb
      replace z0 := Nat.lt_of_lt_of_le z0 hb.size
      replace HB : Hid (Below w.heap.size w w2) := HB.out.trans (hb.mono HB.out.size)
      clear hb
      go_wp2_with fail
      go_ret
      exact ⟨rfl, HB.out⟩
  · have hh' : subHead (y0, y1, y2, y3, y4, y5, (s0, s1, s2, fl, ()), (c0, c1, sp, ()), (k0, k1, k2, ()), ()) = false := by simpa using hh
    rw [subF_h hh']
    rw [hh'] at H0
    clear hh hh' H1 H2 H3 H4
    go_enter Try.func33, Try.ntmps33
    go_wp2_with fail
    refine (H0.out _).mono ?_
    rintro e w1 ⟨rfl, hb⟩
    have j0 := bx_new hb
    have z0 : w.heap.size < w1.heap.size := by have := hb.size; simp at this; omega
    have HB : Hid (Below w.heap.size w w1) := (bl_new hb).1
    clear hb
    go_wp2_with fail
    go_ret
    exact ⟨rfl, HB.out⟩
end Go.Proofs.Ytebgibjokljlbaa
