/- What the model answers of a sub: its fault; nothing that was in memory turns; no condition but that there are at most a million parts. -/
import Derived.Test.YtebgibjokljlbaaRows
import Derived.Deep.RegionHeld3
import Derived.Test.YtebgibjokljlbaaS01
import Derived.Test.YtebgibjokljlbaaS03
import Derived.Test.YtebgibjokljlbaaS04
import Derived.Test.YtebgibjokljlbaaS05
import Derived.Test.YtebgibjokljlbaaS06
import Derived.Test.YtebgibjokljlbaaS11
import Derived.Test.YtebgibjokljlbaaS12
import Derived.Test.YtebgibjokljlbaaS18
import Derived.Test.YtebgibjokljlbaaS21
namespace Go.Proofs.Ytebgibjokljlbaa
open Go.RowKit
set_option linter.unusedVariables false
set_option maxRecDepth 8000
set_option maxHeartbeats 4000000 in
theorem sL8Fault (y0 y1 : Int) (y2 : Bool) (y3 y4 y5 s0 s1 s2 : Int) (fl : List DFlight) (c0 c1 : Int) (sp : List DSpan) (k0 k1 k2 : Int) (ua : Option Addr) (fn uc : Nat) (va : Option Addr) (sn vc sb of : Nat) (w : World) (B : Nat) (hfn : fl.length = fn) (hsn : sp.length = sn)
    (hc : ∀ j, j < 16 → w.cell? ⟨sb, of + j, none⟩ = (#[.int .i64 y0, .int .i64 y1, .bool y2, .int .i64 y3, .int .i64 y4, .int .i64 y5, .int .i64 s0, .int .i64 s1, .int .i64 s2, .slice ua fn uc, .int .i64 c0, .int .i64 c1, .slice va sn vc, .int .i64 k0, .int .i64 k1, .int .i64 k2] : Array Value)[j]?) (rs : shFlights.Rd w B fl [.slice ua fn uc]) (rc : shSpans.Rd w B sp [.slice va sn vc]) (hB : B ≤ w.heap.size) (hT : totSub (y0, y1, y2, y3, y4, y5, (s0, s1, s2, fl, ()), (c0, c1, sp, ()), (k0, k1, k2, ()), ()) ≤ 1048576) :
    Calls Try.prog 81 #[.pointer (some ⟨sb, of, none⟩)] w fun e w' => e = .returned (.int .i64 (subF (y0, y1, y2, y3, y4, y5, (s0, s1, s2, fl, ()), (c0, c1, sp, ()), (k0, k1, k2, ()), ()))) ∧ Below w.heap.size w w' := by
  have x0 : w.cell? ⟨sb, of, none⟩ = some (.int .i64 y0) := hc 0 (by decide)
  have x1 : w.cell? ⟨sb, of + 1, none⟩ = some (.int .i64 y1) := hc 1 (by decide)
  have x3 : w.cell? ⟨sb, of + 3, none⟩ = some (.int .i64 y3) := hc 3 (by decide)
  have x4 : w.cell? ⟨sb, of + 4, none⟩ = some (.int .i64 y4) := hc 4 (by decide)
  have x5 : w.cell? ⟨sb, of + 5, none⟩ = some (.int .i64 y5) := hc 5 (by decide)
  have hsb : sb < w.heap.size := cell_lt x0
  have H1 : Hid (∀ W, Below w.heap.size w W → Calls Try.prog 119 #[.pointer (some ⟨sb, of + 6, none⟩)] W fun e w' => e = .returned (.int .i64 (sndFault (s0, s1, s2, fl, ()))) ∧ Below W.heap.size W w') := fun W hW =>
    sL5FaultO (s0, s1, s2, fl, ()) ua fn uc sb (of + 6) W B hfn ((hW.cell (p := ⟨sb, of + 6, none⟩) hsb).trans (hc 6 (by decide))) ((hW.cell (p := ⟨sb, of + 7, none⟩) hsb).trans (hc 7 (by decide))) ((hW.cell (p := ⟨sb, of + 8, none⟩) hsb).trans (hc 8 (by decide))) ((hW.cell (p := ⟨sb, of + 9, none⟩) hsb).trans (hc 9 (by decide))) (rs.below hB hW) (Nat.le_trans hB hW.size) (fun k hk => by have h : fl[k].2.2.1.length ≤ fsum totFlight fl := fsum_at totFlight hk; have h2 : fl.length + fsum totFlight fl + totCatch (c0, c1, sp, ()) ≤ 1048576 := hT; show fl[k].2.2.1.length ≤ 1048576; omega)
  have H2 : Hid (∀ W, Below w.heap.size w W → Calls Try.prog 120 #[.pointer (some ⟨sb, of + 10, none⟩)] W fun e w' => e = .returned (.int .i64 (caF (c0, c1, sp, ()))) ∧ Below W.heap.size W w') := fun W hW =>
    sL7FaultO (c0, c1, sp, ()) va sn vc sb (of + 10) W B hsn ((hW.cell (p := ⟨sb, of + 10, none⟩) hsb).trans (hc 10 (by decide))) ((hW.cell (p := ⟨sb, of + 11, none⟩) hsb).trans (hc 11 (by decide))) ((hW.cell (p := ⟨sb, of + 12, none⟩) hsb).trans (hc 12 (by decide))) (rc.below hB hW) (Nat.le_trans hB hW.size)
  have H3 : Hid (∀ W, Calls Try.prog 121 #[.agg #[.int .i64 k0, .int .i64 k1, .int .i64 k2]] W fun e w' => e = .returned (.int .i64 (ctF k0 k1 k2)) ∧ Below W.heap.size W w') := fun W => sControlFault k0 k1 k2 W
  have CB : Hid (∀ W, Below w.heap.size w W → W.cell? ⟨sb, of + 1, none⟩ = some (.int .i64 y1) ∧ W.cell? ⟨sb, of + 6 + 1, none⟩ = some (.int .i64 s1) ∧ W.cell? ⟨sb, of + 6 + 3, none⟩ = some (.slice ua fn uc) ∧ W.cell? ⟨sb, of + 13, none⟩ = some (.int .i64 k0) ∧ W.cell? ⟨sb, of + 13 + 1, none⟩ = some (.int .i64 k1) ∧ W.cell? ⟨sb, of + 13 + 2, none⟩ = some (.int .i64 k2)) := fun W hW =>
    ⟨(hW.cell (p := ⟨sb, of + 1, none⟩) hsb).trans x1, (hW.cell (p := ⟨sb, of + 7, none⟩) hsb).trans (hc 7 (by decide)), (hW.cell (p := ⟨sb, of + 9, none⟩) hsb).trans (hc 9 (by decide)), (hW.cell (p := ⟨sb, of + 13, none⟩) hsb).trans (hc 13 (by decide)), (hW.cell (p := ⟨sb, of + 14, none⟩) hsb).trans (hc 14 (by decide)), (hW.cell (p := ⟨sb, of + 15, none⟩) hsb).trans (hc 15 (by decide))⟩
  have hmx : fn ≤ 9223372036854775807 := by rw [← hfn]; exact row_max rs
  clear hc rs rc hB hT
  by_cases hh : subHead (y0, y1, y2, y3, y4, y5, (s0, s1, s2, fl, ()), (c0, c1, sp, ()), (k0, k1, k2, ()), ()) = true
  · obtain ⟨g1, g2, g3, g4, g5⟩ := subHead_parts hh
    replace g1 : inD y0 0 2 = true := g1
    replace g2 : inD y1 1 4 = true := g2
    replace g3 : inD y3 0 1000000 = true := g3
    replace g4 : inD y4 0 1000000 = true := g4
    replace g5 : inD y5 0 1000000 = true := g5
    obtain ⟨R, hR⟩ : ∃ R, R = subF (y0, y1, y2, y3, y4, y5, (s0, s1, s2, fl, ()), (c0, c1, sp, ()), (k0, k1, k2, ()), ()) := ⟨_, rfl⟩
    rw [← hR]
    have F1 : Hid (¬ sndFault (s0, s1, s2, fl, ()) = 0 → R = sndFault (s0, s1, s2, fl, ())) := fun h => hR.trans (subF_s hh h)
    have F2 : Hid (sndFault (s0, s1, s2, fl, ()) = 0 → ¬ caF (c0, c1, sp, ()) = 0 → R = caF (c0, c1, sp, ())) := fun h h2 => hR.trans (subF_c hh h h2)
    have F3 : Hid (sndFault (s0, s1, s2, fl, ()) = 0 → caF (c0, c1, sp, ()) = 0 → ¬ ctF k0 k1 k2 = 0 → R = ctF k0 k1 k2) := fun h h2 h3 => hR.trans (subF_k hh h h2 h3)
    have F4 : Hid (sndFault (s0, s1, s2, fl, ()) = 0 → caF (c0, c1, sp, ()) = 0 → ctF k0 k1 k2 = 0 → ((y1 < 3 ∧ 0 < s1) ∨ (y1 = 4 ∧ 0 < fn)) → R = 1) := fun h h2 h3 h4 => hR.trans (subF_f hh h h2 h3 (by show ((decide (y1 < 3) && decide (0 < s1)) || (decide (y1 = 4) && decide (0 < fl.length))) = true; rw [hfn]; simpa using h4))
    have F5 : Hid (sndFault (s0, s1, s2, fl, ()) = 0 → caF (c0, c1, sp, ()) = 0 → ctF k0 k1 k2 = 0 → ¬ ((y1 < 3 ∧ 0 < s1) ∨ (y1 = 4 ∧ 0 < fn)) → R = 0) := fun h h2 h3 h4 => hR.trans (subF_o hh h h2 h3 (by show ((decide (y1 < 3) && decide (0 < s1)) || (decide (y1 = 4) && decide (0 < fl.length))) = false; rw [hfn]; apply Bool.eq_false_iff.2; intro h; exact h4 (by simpa using h)))
    clear hR hh hfn hsn
    generalize sndFault (s0, s1, s2, fl, ()) = FS at *
    generalize caF (c0, c1, sp, ()) = FC at *
    generalize ctF k0 k1 k2 = FK at *
    by_cases e1 : FS = 0
    · subst e1
      by_cases e2 : FC = 0
      · subst e2
        by_cases e3 : FK = 0
        · subst e3
          by_cases a1 : y1 < 3
          · by_cases a2 : 0 < s1
            · have hR := F4.out rfl rfl rfl (Or.inl ⟨a1, a2⟩)
              subst hR
              clear F1 F2 F3 F4 F5
              go_enter Try.func81, Try.ntmps81
              go_wp2_with
                (first | (go_at_call 97; refine (sInD _ _ _ _).mono ?_; rintro e w' ⟨rfl, hw⟩; subst w') | (go_at_call 118; refine (sTickD _ _).mono ?_; rintro e w' ⟨rfl, hw⟩; subst w'))
              refine (H1.out _ (Below.refl _ _)).mono ?_
              rintro e w1 ⟨rfl, hb⟩
              have z0 : sb < w1.heap.size := Nat.lt_of_lt_of_le hsb hb.size
              have HB : Hid (Below w.heap.size w w1) := hb
              clear hb H1
              go_wp2_with fail
              refine (H2.out _ HB.out).mono ?_
              rintro e w2 ⟨rfl, hb⟩
              replace HB : Hid (Below w.heap.size w w2) := HB.out.trans (hb.mono HB.out.size)
              have d1 := (CB.out _ HB.out).1
              have d7 := (CB.out _ HB.out).2.1
              have d9 := (CB.out _ HB.out).2.2.1
              have d13 := (CB.out _ HB.out).2.2.2.1
              have d14 := (CB.out _ HB.out).2.2.2.2.1
              have d15 := (CB.out _ HB.out).2.2.2.2.2
              clear hb H2 CB x0 x1 x3 x4 x5
              go_wp2_with fail
              refine (H3.out _).mono ?_
              rintro e w3 ⟨rfl, hb⟩
              replace d1 := (hb.cell (p := ⟨sb, of + 1, none⟩) (Nat.lt_of_lt_of_le hsb HB.out.size)).trans d1
              replace d7 := (hb.cell (p := ⟨sb, of + 6 + 1, none⟩) (Nat.lt_of_lt_of_le hsb HB.out.size)).trans d7
              replace d9 := (hb.cell (p := ⟨sb, of + 6 + 3, none⟩) (Nat.lt_of_lt_of_le hsb HB.out.size)).trans d9
              replace HB : Hid (Below w.heap.size w w3) := HB.out.trans (hb.mono HB.out.size)
              clear hb H3 d13 d14 d15
              go_wp2_with fail
              go_ret
              exact ⟨rfl, HB.out⟩
            · have a2' : decide (0 < s1) = false := by simp; omega
              have a3' : (y1 == 4) = false := by simp; omega
              have hR := F5.out rfl rfl rfl (by omega)
              subst hR
              clear F1 F2 F3 F4 F5
              go_enter Try.func81, Try.ntmps81
              go_wp2_with
                (first | (go_at_call 97; refine (sInD _ _ _ _).mono ?_; rintro e w' ⟨rfl, hw⟩; subst w') | (go_at_call 118; refine (sTickD _ _).mono ?_; rintro e w' ⟨rfl, hw⟩; subst w'))
              refine (H1.out _ (Below.refl _ _)).mono ?_
              rintro e w1 ⟨rfl, hb⟩
              have z0 : sb < w1.heap.size := Nat.lt_of_lt_of_le hsb hb.size
              have HB : Hid (Below w.heap.size w w1) := hb
              clear hb H1
              go_wp2_with fail
              refine (H2.out _ HB.out).mono ?_
              rintro e w2 ⟨rfl, hb⟩
              replace HB : Hid (Below w.heap.size w w2) := HB.out.trans (hb.mono HB.out.size)
              have d1 := (CB.out _ HB.out).1
              have d7 := (CB.out _ HB.out).2.1
              have d9 := (CB.out _ HB.out).2.2.1
              have d13 := (CB.out _ HB.out).2.2.2.1
              have d14 := (CB.out _ HB.out).2.2.2.2.1
              have d15 := (CB.out _ HB.out).2.2.2.2.2
              clear hb H2 CB x0 x1 x3 x4 x5
              go_wp2_with fail
              refine (H3.out _).mono ?_
              rintro e w3 ⟨rfl, hb⟩
              replace d1 := (hb.cell (p := ⟨sb, of + 1, none⟩) (Nat.lt_of_lt_of_le hsb HB.out.size)).trans d1
              replace d7 := (hb.cell (p := ⟨sb, of + 6 + 1, none⟩) (Nat.lt_of_lt_of_le hsb HB.out.size)).trans d7
              replace d9 := (hb.cell (p := ⟨sb, of + 6 + 3, none⟩) (Nat.lt_of_lt_of_le hsb HB.out.size)).trans d9
              replace HB : Hid (Below w.heap.size w w3) := HB.out.trans (hb.mono HB.out.size)
              clear hb H3 d13 d14 d15
              go_wp2_with fail
              go_ret
              exact ⟨rfl, HB.out⟩
          · have a1' : decide (y1 < 3) = false := by simp; omega
            by_cases a3 : y1 = 4
            · have a3' : (y1 == 4) = true := by simp [a3]
              by_cases a4 : 0 < fn
              · have a4' : (0 : Int) < (fn : Int) := by omega
                have hR := F4.out rfl rfl rfl (Or.inr ⟨a3, a4⟩)
                subst hR
                clear F1 F2 F3 F4 F5 a3
                go_enter Try.func81, Try.ntmps81
                go_wp2_with
                  (first | (go_at_call 97; refine (sInD _ _ _ _).mono ?_; rintro e w' ⟨rfl, hw⟩; subst w') | (go_at_call 118; refine (sTickD _ _).mono ?_; rintro e w' ⟨rfl, hw⟩; subst w'))
                refine (H1.out _ (Below.refl _ _)).mono ?_
                rintro e w1 ⟨rfl, hb⟩
                have z0 : sb < w1.heap.size := Nat.lt_of_lt_of_le hsb hb.size
                have HB : Hid (Below w.heap.size w w1) := hb
                clear hb H1
                go_wp2_with fail
                refine (H2.out _ HB.out).mono ?_
                rintro e w2 ⟨rfl, hb⟩
                replace HB : Hid (Below w.heap.size w w2) := HB.out.trans (hb.mono HB.out.size)
                have d1 := (CB.out _ HB.out).1
                have d7 := (CB.out _ HB.out).2.1
                have d9 := (CB.out _ HB.out).2.2.1
                have d13 := (CB.out _ HB.out).2.2.2.1
                have d14 := (CB.out _ HB.out).2.2.2.2.1
                have d15 := (CB.out _ HB.out).2.2.2.2.2
                clear hb H2 CB x0 x1 x3 x4 x5
                go_wp2_with fail
                refine (H3.out _).mono ?_
                rintro e w3 ⟨rfl, hb⟩
                replace d1 := (hb.cell (p := ⟨sb, of + 1, none⟩) (Nat.lt_of_lt_of_le hsb HB.out.size)).trans d1
                replace d7 := (hb.cell (p := ⟨sb, of + 6 + 1, none⟩) (Nat.lt_of_lt_of_le hsb HB.out.size)).trans d7
                replace d9 := (hb.cell (p := ⟨sb, of + 6 + 3, none⟩) (Nat.lt_of_lt_of_le hsb HB.out.size)).trans d9
                replace HB : Hid (Below w.heap.size w w3) := HB.out.trans (hb.mono HB.out.size)
                clear hb H3 d13 d14 d15
                go_wp2_with fail
                go_ret
                exact ⟨rfl, HB.out⟩
              · have a4' : decide ((0 : Int) < (fn : Int)) = false := by simp; omega
                have hR := F5.out rfl rfl rfl (by omega)
                subst hR
                clear F1 F2 F3 F4 F5 a3
                go_enter Try.func81, Try.ntmps81
                go_wp2_with
                  (first | (go_at_call 97; refine (sInD _ _ _ _).mono ?_; rintro e w' ⟨rfl, hw⟩; subst w') | (go_at_call 118; refine (sTickD _ _).mono ?_; rintro e w' ⟨rfl, hw⟩; subst w'))
                refine (H1.out _ (Below.refl _ _)).mono ?_
                rintro e w1 ⟨rfl, hb⟩
                have z0 : sb < w1.heap.size := Nat.lt_of_lt_of_le hsb hb.size
                have HB : Hid (Below w.heap.size w w1) := hb
                clear hb H1
                go_wp2_with fail
                refine (H2.out _ HB.out).mono ?_
                rintro e w2 ⟨rfl, hb⟩
                replace HB : Hid (Below w.heap.size w w2) := HB.out.trans (hb.mono HB.out.size)
                have d1 := (CB.out _ HB.out).1
                have d7 := (CB.out _ HB.out).2.1
                have d9 := (CB.out _ HB.out).2.2.1
                have d13 := (CB.out _ HB.out).2.2.2.1
                have d14 := (CB.out _ HB.out).2.2.2.2.1
                have d15 := (CB.out _ HB.out).2.2.2.2.2
                clear hb H2 CB x0 x1 x3 x4 x5
                go_wp2_with fail
                refine (H3.out _).mono ?_
                rintro e w3 ⟨rfl, hb⟩
                replace d1 := (hb.cell (p := ⟨sb, of + 1, none⟩) (Nat.lt_of_lt_of_le hsb HB.out.size)).trans d1
                replace d7 := (hb.cell (p := ⟨sb, of + 6 + 1, none⟩) (Nat.lt_of_lt_of_le hsb HB.out.size)).trans d7
                replace d9 := (hb.cell (p := ⟨sb, of + 6 + 3, none⟩) (Nat.lt_of_lt_of_le hsb HB.out.size)).trans d9
                replace HB : Hid (Below w.heap.size w w3) := HB.out.trans (hb.mono HB.out.size)
                clear hb H3 d13 d14 d15
                go_wp2_with fail
                go_ret
                exact ⟨rfl, HB.out⟩
            · have a3' : (y1 == 4) = false := by simp [a3]
              have hR := F5.out rfl rfl rfl (by omega)
              subst hR
              clear F1 F2 F3 F4 F5 a3
              go_enter Try.func81, Try.ntmps81
              go_wp2_with
                (first | (go_at_call 97; refine (sInD _ _ _ _).mono ?_; rintro e w' ⟨rfl, hw⟩; subst w') | (go_at_call 118; refine (sTickD _ _).mono ?_; rintro e w' ⟨rfl, hw⟩; subst w'))
              refine (H1.out _ (Below.refl _ _)).mono ?_
              rintro e w1 ⟨rfl, hb⟩
              have z0 : sb < w1.heap.size := Nat.lt_of_lt_of_le hsb hb.size
              have HB : Hid (Below w.heap.size w w1) := hb
              clear hb H1
              go_wp2_with fail
              refine (H2.out _ HB.out).mono ?_
              rintro e w2 ⟨rfl, hb⟩
              replace HB : Hid (Below w.heap.size w w2) := HB.out.trans (hb.mono HB.out.size)
              have d1 := (CB.out _ HB.out).1
              have d7 := (CB.out _ HB.out).2.1
              have d9 := (CB.out _ HB.out).2.2.1
              have d13 := (CB.out _ HB.out).2.2.2.1
              have d14 := (CB.out _ HB.out).2.2.2.2.1
              have d15 := (CB.out _ HB.out).2.2.2.2.2
              clear hb H2 CB x0 x1 x3 x4 x5
              go_wp2_with fail
              refine (H3.out _).mono ?_
              rintro e w3 ⟨rfl, hb⟩
              replace d1 := (hb.cell (p := ⟨sb, of + 1, none⟩) (Nat.lt_of_lt_of_le hsb HB.out.size)).trans d1
              replace d7 := (hb.cell (p := ⟨sb, of + 6 + 1, none⟩) (Nat.lt_of_lt_of_le hsb HB.out.size)).trans d7
              replace d9 := (hb.cell (p := ⟨sb, of + 6 + 3, none⟩) (Nat.lt_of_lt_of_le hsb HB.out.size)).trans d9
              replace HB : Hid (Below w.heap.size w w3) := HB.out.trans (hb.mono HB.out.size)
              clear hb H3 d13 d14 d15
              go_wp2_with fail
              go_ret
              exact ⟨rfl, HB.out⟩
        · have e3' : (FK != 0) = true := by simp [e3]
          have hR := F3.out rfl rfl e3
          subst hR
          clear F1 F2 F3 F4 F5 e3
          go_enter Try.func81, Try.ntmps81
          go_wp2_with
            (first | (go_at_call 97; refine (sInD _ _ _ _).mono ?_; rintro e w' ⟨rfl, hw⟩; subst w') | (go_at_call 118; refine (sTickD _ _).mono ?_; rintro e w' ⟨rfl, hw⟩; subst w'))
          refine (H1.out _ (Below.refl _ _)).mono ?_
          rintro e w1 ⟨rfl, hb⟩
          have z0 : sb < w1.heap.size := Nat.lt_of_lt_of_le hsb hb.size
          have HB : Hid (Below w.heap.size w w1) := hb
          clear hb H1
          go_wp2_with fail
          refine (H2.out _ HB.out).mono ?_
          rintro e w2 ⟨rfl, hb⟩
          replace HB : Hid (Below w.heap.size w w2) := HB.out.trans (hb.mono HB.out.size)
          have d1 := (CB.out _ HB.out).1
          have d7 := (CB.out _ HB.out).2.1
          have d9 := (CB.out _ HB.out).2.2.1
          have d13 := (CB.out _ HB.out).2.2.2.1
          have d14 := (CB.out _ HB.out).2.2.2.2.1
          have d15 := (CB.out _ HB.out).2.2.2.2.2
          clear hb H2 CB x0 x1 x3 x4 x5
          go_wp2_with fail
          refine (H3.out _).mono ?_
          rintro e w3 ⟨rfl, hb⟩
          replace d1 := (hb.cell (p := ⟨sb, of + 1, none⟩) (Nat.lt_of_lt_of_le hsb HB.out.size)).trans d1
          replace d7 := (hb.cell (p := ⟨sb, of + 6 + 1, none⟩) (Nat.lt_of_lt_of_le hsb HB.out.size)).trans d7
          replace d9 := (hb.cell (p := ⟨sb, of + 6 + 3, none⟩) (Nat.lt_of_lt_of_le hsb HB.out.size)).trans d9
          replace HB : Hid (Below w.heap.size w w3) := HB.out.trans (hb.mono HB.out.size)
          clear hb H3 d13 d14 d15
          go_wp2_with fail
          go_ret
          exact ⟨rfl, HB.out⟩
      · have e2' : (FC != 0) = true := by simp [e2]
        have hR := F2.out rfl e2
        subst hR
        clear F1 F2 F3 F4 F5 e2
        go_enter Try.func81, Try.ntmps81
        go_wp2_with
          (first | (go_at_call 97; refine (sInD _ _ _ _).mono ?_; rintro e w' ⟨rfl, hw⟩; subst w') | (go_at_call 118; refine (sTickD _ _).mono ?_; rintro e w' ⟨rfl, hw⟩; subst w'))
        refine (H1.out _ (Below.refl _ _)).mono ?_
        rintro e w1 ⟨rfl, hb⟩
        have z0 : sb < w1.heap.size := Nat.lt_of_lt_of_le hsb hb.size
        have HB : Hid (Below w.heap.size w w1) := hb
        clear hb H1
        go_wp2_with fail
        refine (H2.out _ HB.out).mono ?_
        rintro e w2 ⟨rfl, hb⟩
        replace HB : Hid (Below w.heap.size w w2) := HB.out.trans (hb.mono HB.out.size)
        have d1 := (CB.out _ HB.out).1
        have d7 := (CB.out _ HB.out).2.1
        have d9 := (CB.out _ HB.out).2.2.1
        have d13 := (CB.out _ HB.out).2.2.2.1
        have d14 := (CB.out _ HB.out).2.2.2.2.1
        have d15 := (CB.out _ HB.out).2.2.2.2.2
        clear hb H2 CB x0 x1 x3 x4 x5
        go_wp2_with fail
        go_ret
        exact ⟨rfl, HB.out⟩
    · have e1' : (FS != 0) = true := by simp [e1]
      have hR := F1.out e1
      subst hR
      clear F1 F2 F3 F4 F5 e1
      go_enter Try.func81, Try.ntmps81
      go_wp2_with
        (first | (go_at_call 97; refine (sInD _ _ _ _).mono ?_; rintro e w' ⟨rfl, hw⟩; subst w') | (go_at_call 118; refine (sTickD _ _).mono ?_; rintro e w' ⟨rfl, hw⟩; subst w'))
      refine (H1.out _ (Below.refl _ _)).mono ?_
      rintro e w1 ⟨rfl, hb⟩
      have z0 : sb < w1.heap.size := Nat.lt_of_lt_of_le hsb hb.size
      have HB : Hid (Below w.heap.size w w1) := hb
      clear hb H1
      go_wp2_with fail
      go_ret
      exact ⟨rfl, HB.out⟩
  · have hh' : subHead (y0, y1, y2, y3, y4, y5, (s0, s1, s2, fl, ()), (c0, c1, sp, ()), (k0, k1, k2, ()), ()) = false := by simpa using hh
    have hq : (inD y0 0 2 && inD y1 1 4 && inD y3 0 1000000 && inD y4 0 1000000 && inD y5 0 1000000) = false := hh'
    by_cases g1 : inD y0 0 2 = true
    · by_cases g2 : inD y1 1 4 = true
      · by_cases g3 : inD y3 0 1000000 = true
        · by_cases g4 : inD y4 0 1000000 = true
          · replace g5 : inD y5 0 1000000 = false := by simpa [g1, g2, g3, g4] using hq
            clear hq
            have hR := subF_h hh'
            rw [hR]
            clear hR hh' hh H1 H2 H3
            go_enter Try.func81, Try.ntmps81
            go_wp2_with
              (first | (go_at_call 97; refine (sInD _ _ _ _).mono ?_; rintro e w' ⟨rfl, hw⟩; subst w') | (go_at_call 118; refine (sTickD _ _).mono ?_; rintro e w' ⟨rfl, hw⟩; subst w'))
            go_ret
            exact ⟨rfl, Below.refl _ _⟩
          · replace g4 : inD y4 0 1000000 = false := by simpa using g4
            clear hq
            have hR := subF_h hh'
            rw [hR]
            clear hR hh' hh H1 H2 H3
            go_enter Try.func81, Try.ntmps81
            go_wp2_with
              (first | (go_at_call 97; refine (sInD _ _ _ _).mono ?_; rintro e w' ⟨rfl, hw⟩; subst w') | (go_at_call 118; refine (sTickD _ _).mono ?_; rintro e w' ⟨rfl, hw⟩; subst w'))
            go_ret
            exact ⟨rfl, Below.refl _ _⟩
        · replace g3 : inD y3 0 1000000 = false := by simpa using g3
          clear hq
          have hR := subF_h hh'
          rw [hR]
          clear hR hh' hh H1 H2 H3
          go_enter Try.func81, Try.ntmps81
          go_wp2_with
            (first | (go_at_call 97; refine (sInD _ _ _ _).mono ?_; rintro e w' ⟨rfl, hw⟩; subst w') | (go_at_call 118; refine (sTickD _ _).mono ?_; rintro e w' ⟨rfl, hw⟩; subst w'))
          go_ret
          exact ⟨rfl, Below.refl _ _⟩
      · replace g2 : inD y1 1 4 = false := by simpa using g2
        clear hq
        have hR := subF_h hh'
        rw [hR]
        clear hR hh' hh H1 H2 H3
        go_enter Try.func81, Try.ntmps81
        go_wp2_with
          (first | (go_at_call 97; refine (sInD _ _ _ _).mono ?_; rintro e w' ⟨rfl, hw⟩; subst w') | (go_at_call 118; refine (sTickD _ _).mono ?_; rintro e w' ⟨rfl, hw⟩; subst w'))
        go_ret
        exact ⟨rfl, Below.refl _ _⟩
    · replace g1 : inD y0 0 2 = false := by simpa using g1
      clear hq
      have hR := subF_h hh'
      rw [hR]
      clear hR hh' hh H1 H2 H3
      go_enter Try.func81, Try.ntmps81
      go_wp2_with
        (first | (go_at_call 97; refine (sInD _ _ _ _).mono ?_; rintro e w' ⟨rfl, hw⟩; subst w') | (go_at_call 118; refine (sTickD _ _).mono ?_; rintro e w' ⟨rfl, hw⟩; subst w'))
      go_ret
      exact ⟨rfl, Below.refl _ _⟩
end Go.Proofs.Ytebgibjokljlbaa
namespace Go.Proofs.Ytebgibjokljlbaa
open Go.RowKit
set_option linter.unusedVariables false
set_option maxRecDepth 8000
end Go.Proofs.Ytebgibjokljlbaa
