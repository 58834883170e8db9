/- What the law's own helpers (measure, copy, compare) make of subs; no condition but that there are at most a million parts. -/
import Derived.Test.YtfpemobkkfobkaaGreatDoorRows
import Derived.Deep.DeepCutAuto
import Derived.Deep.RegionHeld3
import Derived.Test.YtfpemobkkfobkaaGreatDoorK01
import Derived.Test.YtfpemobkkfobkaaGreatDoorK02
import Derived.Test.YtfpemobkkfobkaaGreatDoorK03
namespace Go.Proofs.YtfpemobkkfobkaaGreatDoor
open Go.RowKit
set_option linter.unusedVariables false
set_option maxRecDepth 8000

abbrev shControl : Sh := .cons (.int .i64) (.cons (.int .i64) (.cons (.int .i64) .nil))
abbrev DControl : Type := Int × Int × Int × Unit
abbrev shSub : Sh := .cons (.int .i64) (.cons (.int .i64) (.cons .bool (.cons (.int .i64) (.cons (.int .i64) (.cons (.int .i64) (.cons shSender (.cons shCatch (.cons shControl .nil))))))))
abbrev DSub : Type := Int × Int × Bool × Int × Int × Int × DSender × DCatch × DControl × Unit
def totSub (x : DSub) : Nat := totSender x.2.2.2.2.2.2.1 + totCatch x.2.2.2.2.2.2.2.1
/-- The numbers of a sub beside its sender and catch fit. -/
def SubWf (x : DSub) : Prop := ((Lit.int .i64 x.1).wf = true ∧ (Lit.int .i64 x.2.1).wf = true ∧ (Lit.int .i64 x.2.2.2.1).wf = true ∧ (Lit.int .i64 x.2.2.2.2.1).wf = true ∧ (Lit.int .i64 x.2.2.2.2.2.1).wf = true) ∧
  (Lit.int .i64 x.2.2.2.2.2.2.2.2.1.1).wf = true ∧ (Lit.int .i64 x.2.2.2.2.2.2.2.2.1.2.1).wf = true ∧ (Lit.int .i64 x.2.2.2.2.2.2.2.2.1.2.2.1).wf = true

theorem rd_Sub {w : World} {B : Nat} {x : DSub} {cs : List Value} (h : shSub.Rd w B x cs) : ∃ u v, cs = [.int .i64 x.1, .int .i64 x.2.1, .bool x.2.2.1, .int .i64 x.2.2.2.1, .int .i64 x.2.2.2.2.1, .int .i64 x.2.2.2.2.2.1, .int .i64 x.2.2.2.2.2.2.1.1, .int .i64 x.2.2.2.2.2.2.1.2.1, .int .i64 x.2.2.2.2.2.2.1.2.2.1, u, .int .i64 x.2.2.2.2.2.2.2.1.1, .int .i64 x.2.2.2.2.2.2.2.1.2.1, v, .int .i64 x.2.2.2.2.2.2.2.2.1.1, .int .i64 x.2.2.2.2.2.2.2.2.1.2.1, .int .i64 x.2.2.2.2.2.2.2.2.1.2.2.1] ∧
    shSender.Rd w B x.2.2.2.2.2.2.1 [.int .i64 x.2.2.2.2.2.2.1.1, .int .i64 x.2.2.2.2.2.2.1.2.1, .int .i64 x.2.2.2.2.2.2.1.2.2.1, u] ∧
    shCatch.Rd w B x.2.2.2.2.2.2.2.1 [.int .i64 x.2.2.2.2.2.2.2.1.1, .int .i64 x.2.2.2.2.2.2.2.1.2.1, v] ∧ SubWf x := by
  obtain ⟨p0, q0, e0, ⟨g0, w0⟩, p1, q1, e1, ⟨g1, w1⟩, p2, q2, e2, g2, p3, q3, e3, ⟨g3, w3⟩, p4, q4, e4, ⟨g4, w4⟩, p5, q5, e5, ⟨g5, w5⟩, p6, q6, e6, h6, p7, q7, e7, h7, p8, q8, e8, h8, hz⟩ := h
  obtain ⟨r0, t0, a0, ⟨b0, d0⟩, r1, t1, a1, ⟨b1, d1⟩, r2, t2, a2, ⟨b2, d2⟩, hz2⟩ := h8
  have hz' : q8 = [] := hz
  have hz2' : t2 = [] := hz2
  obtain ⟨u, eu, -⟩ := rd_Sender h6
  obtain ⟨v, ev, -⟩ := rd_Catch h7
  rw [eu] at h6
  rw [ev] at h7
  refine ⟨u, v, ?_, h6, h7, ⟨w0, w1, w3, w4, w5⟩, d0, d1, d2⟩
  rw [e0, g0, e1, g1, e2, g2, e3, g3, e4, g4, e5, g5, e6, eu, e7, ev, e8, a0, b0, a1, b1, a2, b2, hz2', hz']
  rfl
/-- A sub in letters, what is read of it laid open: its flights as a row, its spans as a row. -/
theorem rd_SubF {w : World} {B : Nat} {y0 y1 : Int} {y2 : Bool} {y3 y4 y5 s0 s1 s2 : Int} {fl : List DFlight} {c0 c1 : Int} {sp : List DSpan} {k0 k1 k2 : Int} {u v : Value} (h : shSub.Rd w B (y0, y1, y2, y3, y4, y5, (s0, s1, s2, fl, ()), (c0, c1, sp, ()), (k0, k1, k2, ()), ()) [.int .i64 y0, .int .i64 y1, .bool y2, .int .i64 y3, .int .i64 y4, .int .i64 y5, .int .i64 s0, .int .i64 s1, .int .i64 s2, u, .int .i64 c0, .int .i64 c1, v, .int .i64 k0, .int .i64 k1, .int .i64 k2]) :
    ∃ ua uc va vc, u = .slice ua fl.length uc ∧ v = .slice va sp.length vc ∧ shSender.Rd w B (s0, s1, s2, fl, ()) [.int .i64 s0, .int .i64 s1, .int .i64 s2, u] ∧ shCatch.Rd w B (c0, c1, sp, ()) [.int .i64 c0, .int .i64 c1, v] ∧ SubWf (y0, y1, y2, y3, y4, y5, (s0, s1, s2, fl, ()), (c0, c1, sp, ()), (k0, k1, k2, ()), ()) := by
  obtain ⟨u', v', e, hs, hc, hw⟩ := rd_Sub h
  simp only [List.cons.injEq, and_true, true_and] at e
  obtain ⟨rfl, rfl⟩ := e
  obtain ⟨u2, e2, r2, -⟩ := rd_Sender hs
  simp only [List.cons.injEq, and_true, true_and] at e2
  obtain ⟨v2, e3, r3, -⟩ := rd_Catch hc
  simp only [List.cons.injEq, and_true, true_and] at e3
  obtain ⟨ua, uc, e4⟩ := row_form r2
  obtain ⟨va, vc, e5⟩ := row_form r3
  simp only [List.cons.injEq, and_true] at e4 e5
  exact ⟨ua, uc, va, vc, e2.trans e4, e3.trans e5, hs, hc, hw⟩
theorem rd_SubG {w : World} {B : Nat} {x : DSub} {u v : Value} (h : shSub.Rd w B x [.int .i64 x.1, .int .i64 x.2.1, .bool x.2.2.1, .int .i64 x.2.2.2.1, .int .i64 x.2.2.2.2.1, .int .i64 x.2.2.2.2.2.1, .int .i64 x.2.2.2.2.2.2.1.1, .int .i64 x.2.2.2.2.2.2.1.2.1, .int .i64 x.2.2.2.2.2.2.1.2.2.1, u, .int .i64 x.2.2.2.2.2.2.2.1.1, .int .i64 x.2.2.2.2.2.2.2.1.2.1, v, .int .i64 x.2.2.2.2.2.2.2.2.1.1, .int .i64 x.2.2.2.2.2.2.2.2.1.2.1, .int .i64 x.2.2.2.2.2.2.2.2.1.2.2.1]) : ∃ ua uc va vc, u = .slice ua x.2.2.2.2.2.2.1.2.2.2.1.length uc ∧ v = .slice va x.2.2.2.2.2.2.2.1.2.2.1.length vc := by
  obtain ⟨y0, y1, y2, y3, y4, y5, ⟨s0, s1, s2, fl, ⟨⟩⟩, ⟨c0, c1, sp, ⟨⟩⟩, ⟨k0, k1, k2, ⟨⟩⟩, ⟨⟩⟩ := x
  obtain ⟨ua, uc, va, vc, e1, e2, -⟩ := rd_SubF h
  exact ⟨ua, uc, va, vc, e1, e2⟩
/-- A sub is owned where its sender and its catch are, one behind the other. -/
theorem own_Sub {w : World} {lo mid hi : Nat} {y0 y1 : Int} {y2 : Bool} {y3 y4 y5 s0 s1 s2 : Int} {fl : List DFlight} {c0 c1 : Int} {sp : List DSpan} {k0 k1 k2 : Int} {u v : Value} (hs : Own w lo mid shSender (s0, s1, s2, fl, ()) [.int .i64 s0, .int .i64 s1, .int .i64 s2, u]) (hc : Own w mid hi shCatch (c0, c1, sp, ()) [.int .i64 c0, .int .i64 c1, v]) (hlm : lo ≤ mid) (hmh : mid ≤ hi) (hw : SubWf (y0, y1, y2, y3, y4, y5, (s0, s1, s2, fl, ()), (c0, c1, sp, ()), (k0, k1, k2, ()), ())) :
    Own w lo hi shSub (y0, y1, y2, y3, y4, y5, (s0, s1, s2, fl, ()), (c0, c1, sp, ()), (k0, k1, k2, ()), ()) [.int .i64 y0, .int .i64 y1, .bool y2, .int .i64 y3, .int .i64 y4, .int .i64 y5, .int .i64 s0, .int .i64 s1, .int .i64 s2, u, .int .i64 c0, .int .i64 c1, v, .int .i64 k0, .int .i64 k1, .int .i64 k2] := by
  obtain ⟨⟨w0, w1, w3, w4, w5⟩, d0, d1, d2⟩ := hw
  have hl : lo ≤ hi := Nat.le_trans hlm hmh
  have hK : Own w hi hi (.cons shControl .nil) ((k0, k1, k2, ()), ()) ([.int .i64 k0, .int .i64 k1, .int .i64 k2] ++ []) :=
    hOwnCons (hOwnCons (hOwnInt w hi hi d0) (hOwnCons (hOwnInt w hi hi d1) (hOwnCons (hOwnInt w hi hi d2) (hOwnNil _ _ _) (Nat.le_refl _) (Nat.le_refl _)) (Nat.le_refl _) (Nat.le_refl _)) (Nat.le_refl _) (Nat.le_refl _)) (hOwnNil w hi hi) (Nat.le_refl _) (Nat.le_refl _)
  have h1 := hOwnCons hs (hOwnCons hc hK hmh (Nat.le_refl _)) hlm hmh
  exact hOwnCons (hOwnInt w lo lo w0) (hOwnCons (hOwnInt w lo lo w1) (hOwnCons (hOwnBool w lo lo y2) (hOwnCons (hOwnInt w lo lo w3) (hOwnCons (hOwnInt w lo lo w4) (hOwnCons (hOwnInt w lo lo w5) h1 (Nat.le_refl _) hl) (Nat.le_refl _) hl) (Nat.le_refl _) hl) (Nat.le_refl _) hl) (Nat.le_refl _) hl) (Nat.le_refl _) hl

set_option maxHeartbeats 1000000 in
theorem lSzSub (x : DSub) (u v : Value) (left : Int) (w : World) (B : Nat) (hr : shSub.Rd w B x [.int .i64 x.1, .int .i64 x.2.1, .bool x.2.2.1, .int .i64 x.2.2.2.1, .int .i64 x.2.2.2.2.1, .int .i64 x.2.2.2.2.2.1, .int .i64 x.2.2.2.2.2.2.1.1, .int .i64 x.2.2.2.2.2.2.1.2.1, .int .i64 x.2.2.2.2.2.2.1.2.2.1, u, .int .i64 x.2.2.2.2.2.2.2.1.1, .int .i64 x.2.2.2.2.2.2.2.1.2.1, v, .int .i64 x.2.2.2.2.2.2.2.2.1.1, .int .i64 x.2.2.2.2.2.2.2.2.1.2.1, .int .i64 x.2.2.2.2.2.2.2.2.1.2.2.1]) (hB : B ≤ w.heap.size) (h0 : 0 ≤ left) (h1 : left ≤ 1048576) :
    Calls Tryz.prog 68 #[.agg #[.int .i64 x.1, .int .i64 x.2.1, .bool x.2.2.1, .int .i64 x.2.2.2.1, .int .i64 x.2.2.2.2.1, .int .i64 x.2.2.2.2.2.1, .int .i64 x.2.2.2.2.2.2.1.1, .int .i64 x.2.2.2.2.2.2.1.2.1, .int .i64 x.2.2.2.2.2.2.1.2.2.1, u, .int .i64 x.2.2.2.2.2.2.2.1.1, .int .i64 x.2.2.2.2.2.2.2.1.2.1, v, .int .i64 x.2.2.2.2.2.2.2.2.1.1, .int .i64 x.2.2.2.2.2.2.2.2.1.2.1, .int .i64 x.2.2.2.2.2.2.2.2.1.2.2.1], .int .i64 left] w fun e w' => e = .returned (.int .i64 (if left < totSub x then -1 else left - totSub x)) ∧ Below w.heap.size w w' := by
  obtain ⟨y0, y1, y2, y3, y4, y5, ⟨s0, s1, s2, fl, ⟨⟩⟩, ⟨c0, c1, sp, ⟨⟩⟩, ⟨k0, k1, k2, ⟨⟩⟩, ⟨⟩⟩ := x
  simp only at *
  obtain ⟨ua, uc, va, vc, rfl, rfl, rs, rc, hwf⟩ := rd_SubF hr
  have H1 : Hid (∀ W, Below w.heap.size w W → Calls Tryz.prog 87 #[.agg #[.int .i64 s0, .int .i64 s1, .int .i64 s2, .slice ua fl.length uc], .int .i64 left] W fun e w' => e = .returned (.int .i64 (if left < totSender (s0, s1, s2, fl, ()) then -1 else left - totSender (s0, s1, s2, fl, ()))) ∧ Below W.heap.size W w') := fun W hW => lSzSender (s0, s1, s2, fl, ()) _ left W B (rs.below hB hW) (Nat.le_trans hB hW.size) h0 h1
  have H2 : Hid (∀ (l : Int) W, 0 ≤ l → l ≤ 1048576 → Below w.heap.size w W → Calls Tryz.prog 88 #[.agg #[.int .i64 c0, .int .i64 c1, .slice va sp.length vc], .int .i64 l] W fun e w' => e = .returned (.int .i64 (if l < totCatch (c0, c1, sp, ()) then -1 else l - totCatch (c0, c1, sp, ()))) ∧ Below W.heap.size W w') := fun l W g0 g1 hW => lSzCatch (c0, c1, sp, ()) _ l W B (rc.below hB hW) (Nat.le_trans hB hW.size) g0 g1
  have ht : totSub (y0, y1, y2, y3, y4, y5, (s0, s1, s2, fl, ()), (c0, c1, sp, ()), (k0, k1, k2, ()), ()) = totSender (s0, s1, s2, fl, ()) + totCatch (c0, c1, sp, ()) := rfl
  rw [ht]
  clear hr rs rc hwf ht
  generalize totSender (s0, s1, s2, fl, ()) = NS at *
  generalize totCatch (c0, c1, sp, ()) = NC at *
  generalize fl.length = fn at *
  generalize sp.length = sn at *
  by_cases h : left < NS
  · rw [if_pos (by omega)]
    simp only [if_pos h] at H1
    go_enter Tryz.func68, Tryz.ntmps68
    go_wp2_with fail
    refine (H1.out _ (by go_grown)).mono ?_
    rintro e w1 ⟨rfl, hb⟩
    go_wp2_with fail
    go_ret
    exact ⟨rfl, Below.trans (by go_grown) (hb.mono (by simp))⟩
  · simp only [if_neg h] at H1
    have h2 : 0 ≤ left - (NS : Int) := by omega
    by_cases h3 : left - (NS : Int) < NC
    · rw [if_pos (by omega)]
      have H3 := H2.out (left - NS)
      simp only [if_pos h3] at H3
      have HC : Hid _ := H3
      clear H3 H2
      go_enter Tryz.func68, Tryz.ntmps68
      go_wp2_with fail
      refine (H1.out _ (by go_grown)).mono ?_
      rintro e w1 ⟨rfl, hb⟩
      have k0 := bx_new hb
      have HB : Hid (Below w.heap.size w w1) := Below.trans (by go_grown) (hb.mono (by simp))
      clear hb H1
      go_wp2_with fail
      refine (HC.out _ (by omega) (by omega) HB.out).mono ?_
      rintro e w2 ⟨rfl, hb⟩
      go_wp2_with fail
      go_ret
      exact ⟨rfl, HB.out.trans (hb.mono HB.out.size)⟩
    · rw [if_neg (by omega)]
      have H3 := H2.out (left - NS)
      simp only [if_neg h3] at H3
      have HC : Hid _ := H3
      have h4 : 0 ≤ left - (NS : Int) - (NC : Int) := by omega
      clear H3 H2
      go_enter Tryz.func68, Tryz.ntmps68
      go_wp2_with fail
      refine (H1.out _ (by go_grown)).mono ?_
      rintro e w1 ⟨rfl, hb⟩
      have k0 := bx_new hb
      have HB : Hid (Below w.heap.size w w1) := Below.trans (by go_grown) (hb.mono (by simp))
      clear hb H1
      go_wp2_with fail
      refine (HC.out _ (by omega) (by omega) HB.out).mono ?_
      rintro e w2 ⟨rfl, hb⟩
      go_wp2_with fail
      go_ret
      exact ⟨ret_int (by omega), HB.out.trans (hb.mono HB.out.size)⟩
set_option maxHeartbeats 4000000 in
theorem lToSub (x : DSub) (u v : Value) (w : World) (B : Nat) (hr : shSub.Rd w B x [.int .i64 x.1, .int .i64 x.2.1, .bool x.2.2.1, .int .i64 x.2.2.2.1, .int .i64 x.2.2.2.2.1, .int .i64 x.2.2.2.2.2.1, .int .i64 x.2.2.2.2.2.2.1.1, .int .i64 x.2.2.2.2.2.2.1.2.1, .int .i64 x.2.2.2.2.2.2.1.2.2.1, u, .int .i64 x.2.2.2.2.2.2.2.1.1, .int .i64 x.2.2.2.2.2.2.2.1.2.1, v, .int .i64 x.2.2.2.2.2.2.2.2.1.1, .int .i64 x.2.2.2.2.2.2.2.2.1.2.1, .int .i64 x.2.2.2.2.2.2.2.2.1.2.2.1]) (hB : B ≤ w.heap.size) (hT : totSub x ≤ 1048576) :
    Calls Tryz.prog 73 #[.agg #[.int .i64 x.1, .int .i64 x.2.1, .bool x.2.2.1, .int .i64 x.2.2.2.1, .int .i64 x.2.2.2.2.1, .int .i64 x.2.2.2.2.2.1, .int .i64 x.2.2.2.2.2.2.1.1, .int .i64 x.2.2.2.2.2.2.1.2.1, .int .i64 x.2.2.2.2.2.2.1.2.2.1, u, .int .i64 x.2.2.2.2.2.2.2.1.1, .int .i64 x.2.2.2.2.2.2.2.1.2.1, v, .int .i64 x.2.2.2.2.2.2.2.2.1.1, .int .i64 x.2.2.2.2.2.2.2.2.1.2.1, .int .i64 x.2.2.2.2.2.2.2.2.1.2.2.1]] w fun e w' => ∃ u2 v2, e = .returned (.agg #[.int .i64 x.1, .int .i64 x.2.1, .bool x.2.2.1, .int .i64 x.2.2.2.1, .int .i64 x.2.2.2.2.1, .int .i64 x.2.2.2.2.2.1, .int .i64 x.2.2.2.2.2.2.1.1, .int .i64 x.2.2.2.2.2.2.1.2.1, .int .i64 x.2.2.2.2.2.2.1.2.2.1, u2, .int .i64 x.2.2.2.2.2.2.2.1.1, .int .i64 x.2.2.2.2.2.2.2.1.2.1, v2, .int .i64 x.2.2.2.2.2.2.2.2.1.1, .int .i64 x.2.2.2.2.2.2.2.2.1.2.1, .int .i64 x.2.2.2.2.2.2.2.2.1.2.2.1]) ∧ Own w' w.heap.size w'.heap.size shSub x [.int .i64 x.1, .int .i64 x.2.1, .bool x.2.2.1, .int .i64 x.2.2.2.1, .int .i64 x.2.2.2.2.1, .int .i64 x.2.2.2.2.2.1, .int .i64 x.2.2.2.2.2.2.1.1, .int .i64 x.2.2.2.2.2.2.1.2.1, .int .i64 x.2.2.2.2.2.2.1.2.2.1, u2, .int .i64 x.2.2.2.2.2.2.2.1.1, .int .i64 x.2.2.2.2.2.2.2.1.2.1, v2, .int .i64 x.2.2.2.2.2.2.2.2.1.1, .int .i64 x.2.2.2.2.2.2.2.2.1.2.1, .int .i64 x.2.2.2.2.2.2.2.2.1.2.2.1] ∧ Below w.heap.size w w' := by
  obtain ⟨y0, y1, y2, y3, y4, y5, ⟨s0, s1, s2, fl, ⟨⟩⟩, ⟨c0, c1, sp, ⟨⟩⟩, ⟨k0, k1, k2, ⟨⟩⟩, ⟨⟩⟩ := x
  simp only at *
  obtain ⟨ua, uc, va, vc, rfl, rfl, rs, rc, hwf⟩ := rd_SubF hr
  have ht : totSender (s0, s1, s2, fl, ()) + totCatch (c0, c1, sp, ()) ≤ 1048576 := hT
  have H1 : Hid (∀ W, Below w.heap.size w W → Calls Tryz.prog 94 #[.agg #[.int .i64 s0, .int .i64 s1, .int .i64 s2, .slice ua fl.length uc]] W fun e w' => ∃ u, e = .returned (.agg #[.int .i64 s0, .int .i64 s1, .int .i64 s2, u]) ∧ Own w' W.heap.size w'.heap.size shSender (s0, s1, s2, fl, ()) [.int .i64 s0, .int .i64 s1, .int .i64 s2, u] ∧ Below W.heap.size W w') := fun W hW => lToSender (s0, s1, s2, fl, ()) _ W B (rs.below hB hW) (Nat.le_trans hB hW.size) (by omega)
  have H2 : Hid (∀ W, Below w.heap.size w W → Calls Tryz.prog 95 #[.agg #[.int .i64 c0, .int .i64 c1, .slice va sp.length vc]] W fun e w' => ∃ u, e = .returned (.agg #[.int .i64 c0, .int .i64 c1, u]) ∧ Own w' W.heap.size w'.heap.size shCatch (c0, c1, sp, ()) [.int .i64 c0, .int .i64 c1, u] ∧ Below W.heap.size W w') := fun W hW => lToCatch (c0, c1, sp, ()) _ W B (rc.below hB hW) (Nat.le_trans hB hW.size) (by omega)
  have HWF : Hid _ := hwf
  clear hr rs rc hwf ht hT hB
  go_enter Tryz.func73, Tryz.ntmps73
  go_wp2_with fail
  refine (H1.out _ (by go_grown)).mono ?_
  rintro e w1 ⟨u1, rfl, ho, hb⟩
  have j0 : ∀ o, w1.cell? ⟨w.heap.size, o, none⟩ = (#[.int .i64 y0, .int .i64 y1, .bool y2, .int .i64 y3, .int .i64 y4, .int .i64 y5, .int .i64 s0, .int .i64 s1, .int .i64 s2, .slice ua fl.length uc, .int .i64 c0, .int .i64 c1, .slice va sp.length vc, .int .i64 k0, .int .i64 k1, .int .i64 k2] : Array Value)[o]? := fun o => by rw [hb.cell (p := ⟨w.heap.size, o, none⟩) (by simp; omega)]; simp [go_sem]
  have j1 : ∀ o, w1.cell? ⟨w.heap.size + 1, o, none⟩ = (#[.int .i64 0, .int .i64 0, .bool false, .int .i64 0, .int .i64 0, .int .i64 0, .int .i64 0, .int .i64 0, .int .i64 0, .slice none 0 0, .int .i64 0, .int .i64 0, .slice none 0 0, .int .i64 0, .int .i64 0, .int .i64 0] : Array Value)[o]? := fun o => by rw [hb.cell (p := ⟨w.heap.size + 1, o, none⟩) (by simp)]; simp [go_sem]
  have j2 : ∀ o, w1.cell? ⟨w.heap.size + 1 + 1, o, none⟩ = (#[.int .i64 y0, .int .i64 y1, .bool y2, .int .i64 y3, .int .i64 y4, .int .i64 y5, .int .i64 0, .int .i64 0, .int .i64 0, .slice none 0 0, .int .i64 0, .int .i64 0, .slice none 0 0, .int .i64 0, .int .i64 0, .int .i64 0] : Array Value)[o]? := fun o => by
    rw [hb.cell (p := ⟨w.heap.size + 1 + 1, o, none⟩) (by simp)]
    match o with
    | 0 => simp [go_sem] | 1 => simp [go_sem] | 2 => simp [go_sem] | 3 => simp [go_sem] | 4 => simp [go_sem] | 5 => simp [go_sem] | 6 => simp [go_sem] | 7 => simp [go_sem] | 8 => simp [go_sem] | 9 => simp [go_sem] | 10 => simp [go_sem] | 11 => simp [go_sem] | 12 => simp [go_sem] | 13 => simp [go_sem] | 14 => simp [go_sem] | 15 => simp [go_sem]
    | o + 16 => simp [go_sem]
  have f1 : ∀ o, w1.frozen? ⟨w.heap.size + 1, o, none⟩ = false := fun o => by rw [hb.frozen (p := ⟨w.heap.size + 1, o, none⟩) (by simp)]; simp [go_sem]
  have f2 : ∀ o, w1.frozen? ⟨w.heap.size + 1 + 1, o, none⟩ = false := fun o => by rw [hb.frozen (p := ⟨w.heap.size + 1 + 1, o, none⟩) (by simp)]; simp [go_sem]
  have HB : Hid (Below w.heap.size w w1) := Below.trans (by go_grown) (hb.mono (by simp; omega))
  have HS : Hid (Own w1 (w.heap.size + 1 + 1 + 1) w1.heap.size shSender (s0, s1, s2, fl, ()) [.int .i64 s0, .int .i64 s1, .int .i64 s2, u1]) := Own.mono ho (by simp) (Nat.le_refl _)
  have z1 : w.heap.size + 1 + 1 < w1.heap.size := by have := hb.size; simp at this; omega
  obtain ⟨uu, eu, ru, -⟩ := rd_Sender (ho.rd (Nat.le_refl _))
  simp only [List.cons.injEq, and_true, true_and] at eu
  subst eu
  obtain ⟨qa, qc, eu⟩ := row_form ru
  simp only [List.cons.injEq, and_true] at eu
  subst eu
  clear ho hb H1 ru
  go_wp2_with fail
  refine (H2.out _ (by have h := HB.out; clear j0 j1 j2 f1 f2 HS; go_grown)).mono ?_
  rintro e w2 ⟨v1, rfl, ho, hb⟩
  have z2 : w1.heap.size ≤ w2.heap.size := by have := hb.size; simpa using this
  replace j0 : ∀ o, w2.cell? ⟨w.heap.size, o, none⟩ = (#[.int .i64 y0, .int .i64 y1, .bool y2, .int .i64 y3, .int .i64 y4, .int .i64 y5, .int .i64 s0, .int .i64 s1, .int .i64 s2, .slice ua fl.length uc, .int .i64 c0, .int .i64 c1, .slice va sp.length vc, .int .i64 k0, .int .i64 k1, .int .i64 k2] : Array Value)[o]? := fun o => (hb.cell (p := ⟨w.heap.size, o, none⟩) (by simp; omega)).trans ((bx_off (bx_off (bx_off (bx_off j0 (by omega)) (by omega)) (by omega)) (by omega)) o)
  replace j1 : ∀ o, w2.cell? ⟨w.heap.size + 1, o, none⟩ = _ := fun o => (hb.cell (p := ⟨w.heap.size + 1, o, none⟩) (by simp; omega)).trans ((bx_off (bx_off (bx_off (bx_off j1 (by omega)) (by omega)) (by omega)) (by omega)) o)
  replace j2 := bx_put (bx_put (bx_put (bx_put j2 (k := 6) (v := .int .i64 s0) (by simp)) (k := 7) (v := .int .i64 s1) (by simp)) (k := 8) (v := .int .i64 s2) (by simp)) (k := 9) (v := .slice qa fl.length qc) (by simp)
  simp only [List.setIfInBounds_toArray, List.set_cons_zero, List.set_cons_succ] at j2
  replace j2 : ∀ o, w2.cell? ⟨w.heap.size + 1 + 1, o, none⟩ = _ := fun o => (hb.cell (p := ⟨w.heap.size + 1 + 1, o, none⟩) (by simp; omega)).trans (j2 o)
  replace f1 : ∀ o, w2.frozen? ⟨w.heap.size + 1, o, none⟩ = false := fun o => by rw [hb.frozen (p := ⟨w.heap.size + 1, o, none⟩) (by simp; omega)]; simpa using f1 o
  replace f2 : ∀ o, w2.frozen? ⟨w.heap.size + 1 + 1, o, none⟩ = false := fun o => by rw [hb.frozen (p := ⟨w.heap.size + 1 + 1, o, none⟩) (by simp; omega)]; simpa using f2 o
  replace HS : Hid (Own w2 (w.heap.size + 1 + 1 + 1) w1.heap.size shSender (s0, s1, s2, fl, ()) [.int .i64 s0, .int .i64 s1, .int .i64 s2, .slice qa fl.length qc]) := Own.keep HS.out (fun b h1 h2 => by rw [hb.block b (by simpa using h2)]; repeat rw [Below.heap_setCell _ _ _ _ (by dsimp only; omega)])
  have HC : Hid (Own w2 w1.heap.size w2.heap.size shCatch (c0, c1, sp, ()) [.int .i64 c0, .int .i64 c1, v1]) := Own.mono ho (by simp) (Nat.le_refl _)
  replace HB : Hid (Below w.heap.size w w2) := (Below.setCell (Below.setCell (Below.setCell (Below.setCell HB.out (by dsimp only; omega) _) (by dsimp only; omega) _) (by dsimp only; omega) _) (by dsimp only; omega) _).trans (hb.mono (by simp; omega))
  obtain ⟨uu, eu, ru, -⟩ := rd_Catch (ho.rd (Nat.le_refl _))
  simp only [List.cons.injEq, and_true, true_and] at eu
  subst eu
  obtain ⟨ra, rc, eu⟩ := row_form ru
  simp only [List.cons.injEq, and_true] at eu
  subst eu
  clear ho hb H2 ru
  go_wp2_with fail
  refine (lToControl k0 k1 k2 _).mono ?_
  rintro e w3 ⟨rfl, hb⟩
  have z3 : w2.heap.size ≤ w3.heap.size := by have := hb.size; simpa using this
  replace j1 : ∀ o, w3.cell? ⟨w.heap.size + 1, o, none⟩ = _ := fun o => (hb.cell (p := ⟨w.heap.size + 1, o, none⟩) (by simp; omega)).trans ((bx_off (bx_off (bx_off j1 (by omega)) (by omega)) (by omega)) o)
  replace j2 := bx_put (bx_put (bx_put j2 (k := 10) (v := .int .i64 c0) (by simp)) (k := 11) (v := .int .i64 c1) (by simp)) (k := 12) (v := .slice ra sp.length rc) (by simp)
  simp only [List.setIfInBounds_toArray, List.set_cons_zero, List.set_cons_succ] at j2
  replace j2 : ∀ o, w3.cell? ⟨w.heap.size + 1 + 1, o, none⟩ = _ := fun o => (hb.cell (p := ⟨w.heap.size + 1 + 1, o, none⟩) (by simp; omega)).trans (j2 o)
  replace f1 : ∀ o, w3.frozen? ⟨w.heap.size + 1, o, none⟩ = false := fun o => by rw [hb.frozen (p := ⟨w.heap.size + 1, o, none⟩) (by simp; omega)]; simpa using f1 o
  replace f2 : ∀ o, w3.frozen? ⟨w.heap.size + 1 + 1, o, none⟩ = false := fun o => by rw [hb.frozen (p := ⟨w.heap.size + 1 + 1, o, none⟩) (by simp; omega)]; simpa using f2 o
  replace HS : Hid (Own w3 (w.heap.size + 1 + 1 + 1) w1.heap.size shSender (s0, s1, s2, fl, ()) [.int .i64 s0, .int .i64 s1, .int .i64 s2, .slice qa fl.length qc]) := Own.keep HS.out (fun b h1 h2 => by rw [hb.block b (by simp; omega)]; repeat rw [Below.heap_setCell _ _ _ _ (by dsimp only; omega)])
  replace HC : Hid (Own w3 w1.heap.size w2.heap.size shCatch (c0, c1, sp, ()) [.int .i64 c0, .int .i64 c1, .slice ra sp.length rc]) := Own.keep HC.out (fun b h1 h2 => by rw [hb.block b (by simp; omega)]; repeat rw [Below.heap_setCell _ _ _ _ (by dsimp only; omega)])
  replace HB : Hid (Below w.heap.size w w3) := (Below.setCell (Below.setCell (Below.setCell HB.out (by dsimp only; omega) _) (by dsimp only; omega) _) (by dsimp only; omega) _).trans (hb.mono (by simp; omega))
  clear hb j0
  go_wp2_with fail
  refine bodyPost_ret (v := .agg #[.int .i64 y0, .int .i64 y1, .bool y2, .int .i64 y3, .int .i64 y4, .int .i64 y5, .int .i64 s0, .int .i64 s1, .int .i64 s2, .slice qa fl.length qc, .int .i64 c0, .int .i64 c1, .slice ra sp.length rc, .int .i64 k0, .int .i64 k1, .int .i64 k2]) (by simp [results, Tryz.results73, go_sem, j1]) rfl ⟨_, _, rfl, ?_, ?_⟩
  · have h2 : Own w3 (w.heap.size + 1 + 1 + 1) w2.heap.size shSub (y0, y1, y2, y3, y4, y5, (s0, s1, s2, fl, ()), (c0, c1, sp, ()), (k0, k1, k2, ()), ()) [.int .i64 y0, .int .i64 y1, .bool y2, .int .i64 y3, .int .i64 y4, .int .i64 y5, .int .i64 s0, .int .i64 s1, .int .i64 s2, .slice qa fl.length qc, .int .i64 c0, .int .i64 c1, .slice ra sp.length rc, .int .i64 k0, .int .i64 k1, .int .i64 k2] := own_Sub HS.out HC.out (by omega) (by omega) HWF.out
    refine Own.mono (Own.keep h2 fun b hb hlt => ?_) (by omega) (by simp; omega)
    repeat rw [Below.heap_setCell _ _ _ _ (by dsimp only; omega)]
  · have hB1 := HB.out
    clear j1 j2 f1 f2 HS HC HB
    go_grown
set_option maxHeartbeats 4000000 in
theorem lEqSub (x : DSub) (u v u' v' : Value) (w : World) (B : Nat) (hr : shSub.Rd w B x [.int .i64 x.1, .int .i64 x.2.1, .bool x.2.2.1, .int .i64 x.2.2.2.1, .int .i64 x.2.2.2.2.1, .int .i64 x.2.2.2.2.2.1, .int .i64 x.2.2.2.2.2.2.1.1, .int .i64 x.2.2.2.2.2.2.1.2.1, .int .i64 x.2.2.2.2.2.2.1.2.2.1, u, .int .i64 x.2.2.2.2.2.2.2.1.1, .int .i64 x.2.2.2.2.2.2.2.1.2.1, v, .int .i64 x.2.2.2.2.2.2.2.2.1.1, .int .i64 x.2.2.2.2.2.2.2.2.1.2.1, .int .i64 x.2.2.2.2.2.2.2.2.1.2.2.1]) (hr' : shSub.Rd w B x [.int .i64 x.1, .int .i64 x.2.1, .bool x.2.2.1, .int .i64 x.2.2.2.1, .int .i64 x.2.2.2.2.1, .int .i64 x.2.2.2.2.2.1, .int .i64 x.2.2.2.2.2.2.1.1, .int .i64 x.2.2.2.2.2.2.1.2.1, .int .i64 x.2.2.2.2.2.2.1.2.2.1, u', .int .i64 x.2.2.2.2.2.2.2.1.1, .int .i64 x.2.2.2.2.2.2.2.1.2.1, v', .int .i64 x.2.2.2.2.2.2.2.2.1.1, .int .i64 x.2.2.2.2.2.2.2.2.1.2.1, .int .i64 x.2.2.2.2.2.2.2.2.1.2.2.1]) (hB : B ≤ w.heap.size) (hT : totSub x ≤ 1048576) :
    Calls Tryz.prog 85 #[.agg #[.int .i64 x.1, .int .i64 x.2.1, .bool x.2.2.1, .int .i64 x.2.2.2.1, .int .i64 x.2.2.2.2.1, .int .i64 x.2.2.2.2.2.1, .int .i64 x.2.2.2.2.2.2.1.1, .int .i64 x.2.2.2.2.2.2.1.2.1, .int .i64 x.2.2.2.2.2.2.1.2.2.1, u, .int .i64 x.2.2.2.2.2.2.2.1.1, .int .i64 x.2.2.2.2.2.2.2.1.2.1, v, .int .i64 x.2.2.2.2.2.2.2.2.1.1, .int .i64 x.2.2.2.2.2.2.2.2.1.2.1, .int .i64 x.2.2.2.2.2.2.2.2.1.2.2.1], .agg #[.int .i64 x.1, .int .i64 x.2.1, .bool x.2.2.1, .int .i64 x.2.2.2.1, .int .i64 x.2.2.2.2.1, .int .i64 x.2.2.2.2.2.1, .int .i64 x.2.2.2.2.2.2.1.1, .int .i64 x.2.2.2.2.2.2.1.2.1, .int .i64 x.2.2.2.2.2.2.1.2.2.1, u', .int .i64 x.2.2.2.2.2.2.2.1.1, .int .i64 x.2.2.2.2.2.2.2.1.2.1, v', .int .i64 x.2.2.2.2.2.2.2.2.1.1, .int .i64 x.2.2.2.2.2.2.2.2.1.2.1, .int .i64 x.2.2.2.2.2.2.2.2.1.2.2.1]] w fun e w' => e = .returned (.bool true) ∧ Below w.heap.size w w' := by
  obtain ⟨y0, y1, y2, y3, y4, y5, ⟨s0, s1, s2, fl, ⟨⟩⟩, ⟨c0, c1, sp, ⟨⟩⟩, ⟨k0, k1, k2, ⟨⟩⟩, ⟨⟩⟩ := x
  simp only at *
  obtain ⟨ua, uc, va, vc, rfl, rfl, rs, rc, hwf⟩ := rd_SubF hr
  obtain ⟨ua', uc', va', vc', rfl, rfl, rs', rc', -⟩ := rd_SubF hr'
  have ht : totSender (s0, s1, s2, fl, ()) + totCatch (c0, c1, sp, ()) ≤ 1048576 := hT
  have H1 : Hid (∀ W, Below w.heap.size w W → Calls Tryz.prog 115 #[.agg #[.int .i64 s0, .int .i64 s1, .int .i64 s2, .slice ua fl.length uc], .agg #[.int .i64 s0, .int .i64 s1, .int .i64 s2, .slice ua' fl.length uc']] W fun e w' => e = .returned (.bool true) ∧ Below W.heap.size W w') := fun W hW => lEqSender (s0, s1, s2, fl, ()) _ _ W B (rs.below hB hW) (rs'.below hB hW) (Nat.le_trans hB hW.size) (by omega)
  have H2 : Hid (∀ W, Below w.heap.size w W → Calls Tryz.prog 116 #[.agg #[.int .i64 c0, .int .i64 c1, .slice va sp.length vc], .agg #[.int .i64 c0, .int .i64 c1, .slice va' sp.length vc']] W fun e w' => e = .returned (.bool true) ∧ Below W.heap.size W w') := fun W hW => lEqCatch (c0, c1, sp, ()) _ _ W B (rc.below hB hW) (rc'.below hB hW) (Nat.le_trans hB hW.size) (by omega)
  clear hr hr' rs rc rs' rc' hwf ht hT
  generalize fl.length = fn at *
  generalize sp.length = sn at *
  go_enter Tryz.func85, Tryz.ntmps85
  go_wp2_with fail
  refine (H1.out _ (by go_grown)).mono ?_
  rintro e w1 ⟨rfl, hb⟩
  have j0 : ∀ o, w1.cell? ⟨w.heap.size, o, none⟩ = (#[.int .i64 y0, .int .i64 y1, .bool y2, .int .i64 y3, .int .i64 y4, .int .i64 y5, .int .i64 s0, .int .i64 s1, .int .i64 s2, .slice ua fn uc, .int .i64 c0, .int .i64 c1, .slice va sn vc, .int .i64 k0, .int .i64 k1, .int .i64 k2] : Array Value)[o]? := fun o => by rw [hb.cell (p := ⟨w.heap.size, o, none⟩) (by simp; omega)]; simp [go_sem]
  have j1 : ∀ o, w1.cell? ⟨w.heap.size + 1, o, none⟩ = (#[.int .i64 y0, .int .i64 y1, .bool y2, .int .i64 y3, .int .i64 y4, .int .i64 y5, .int .i64 s0, .int .i64 s1, .int .i64 s2, .slice ua' fn uc', .int .i64 c0, .int .i64 c1, .slice va' sn vc', .int .i64 k0, .int .i64 k1, .int .i64 k2] : Array Value)[o]? := fun o => by rw [hb.cell (p := ⟨w.heap.size + 1, o, none⟩) (by simp)]; simp [go_sem]
  have HB : Hid (Below w.heap.size w w1) := Below.trans (by go_grown) (hb.mono (by simp; omega))
  have z1 : w.heap.size + 1 < w1.heap.size := by have := hb.size; simp at this; omega
  clear hb H1
  go_wp2_with fail
  refine (H2.out _ HB.out).mono ?_
  rintro e w2 ⟨rfl, hb⟩
  replace j0 := bx_below j0 (by omega) hb
  replace j1 := bx_below j1 (by omega) hb
  replace HB : Hid (Below w.heap.size w w2) := HB.out.trans (hb.mono HB.out.size)
  clear hb H2
  go_wp2_with fail
  refine (lEqControl k0 k1 k2 _).mono ?_
  rintro e w3 ⟨rfl, hb⟩
  replace HB : Hid (Below w.heap.size w w3) := HB.out.trans (hb.mono HB.out.size)
  clear hb j0 j1
  go_wp2_with fail
  go_ret
  exact ⟨rfl, HB.out⟩
end Go.Proofs.YtfpemobkkfobkaaGreatDoor

/- A law's parameters opened: a sub; no condition. -/
namespace Go.Proofs.YtfpemobkkfobkaaGreatDoor
open Go.RowKit Go.ChangeShapes Go.WideShapes Go.ChangeAt
set_option linter.unusedVariables false
set_option maxRecDepth 8000

theorem fits_Sub : shSub.fits Tryz.prog (.inl 141) :=
  ⟨_, _, Tryz.underlying141, by kernel_rfl, rfl, by kernel_rfl, Tryz.underlying2, rfl, by kernel_rfl, Tryz.underlying2, rfl, by kernel_rfl, Tryz.underlying4, rfl, by kernel_rfl, Tryz.underlying2, rfl, by kernel_rfl, Tryz.underlying2, rfl, by kernel_rfl, Tryz.underlying2, rfl, by kernel_rfl,
    ⟨_, _, Tryz.underlying135, by kernel_rfl, rfl, by kernel_rfl, Tryz.underlying2, rfl, by kernel_rfl, Tryz.underlying2, rfl, by kernel_rfl, Tryz.underlying2, rfl, by kernel_rfl,
      ⟨_, Tryz.underlying133, by kernel_rfl, by decide, _, _, Tryz.underlying226, by kernel_rfl, rfl, by kernel_rfl, Tryz.underlying2, rfl, by kernel_rfl, Tryz.underlying2, rfl, by kernel_rfl, fits_u8, rfl, by kernel_rfl, Tryz.underlying2, rfl, by kernel_rfl, Tryz.underlying2, trivial⟩, trivial⟩, rfl, by kernel_rfl,
    ⟨_, _, Tryz.underlying138, by kernel_rfl, rfl, by kernel_rfl, Tryz.underlying2, rfl, by kernel_rfl, Tryz.underlying2, rfl, by kernel_rfl,
      ⟨_, Tryz.underlying136, by kernel_rfl, by decide, _, _, Tryz.underlying229, by kernel_rfl, rfl, by kernel_rfl, Tryz.underlying2, rfl, by kernel_rfl, Tryz.underlying2, trivial⟩, trivial⟩, rfl, by kernel_rfl,
    ⟨_, _, Tryz.underlying139, by kernel_rfl, rfl, by kernel_rfl, Tryz.underlying2, rfl, by kernel_rfl, Tryz.underlying2, rfl, by kernel_rfl, Tryz.underlying2, trivial⟩, trivial⟩
theorem open_Sub {H : Type} {enc : TypeId × Value → H} {w : World} {base : Nat} {v : Value} (o : Value.okWide Tryz.prog w .any base 141 v) (hx : ∃ n y, DataW.trod enc Tryz.prog w 0 (fun _ => true) true n 141 v.cells.toList = some y) :
    ∃ (g : DSub) (u1 u2 : Value), v = .agg #[.int .i64 g.1, .int .i64 g.2.1, .bool g.2.2.1, .int .i64 g.2.2.2.1, .int .i64 g.2.2.2.2.1, .int .i64 g.2.2.2.2.2.1, .int .i64 g.2.2.2.2.2.2.1.1, .int .i64 g.2.2.2.2.2.2.1.2.1, .int .i64 g.2.2.2.2.2.2.1.2.2.1, u1, .int .i64 g.2.2.2.2.2.2.2.1.1, .int .i64 g.2.2.2.2.2.2.2.1.2.1, u2, .int .i64 g.2.2.2.2.2.2.2.2.1.1, .int .i64 g.2.2.2.2.2.2.2.2.1.2.1, .int .i64 g.2.2.2.2.2.2.2.2.1.2.2.1] ∧ shSub.Rd w w.heap.size g [.int .i64 g.1, .int .i64 g.2.1, .bool g.2.2.1, .int .i64 g.2.2.2.1, .int .i64 g.2.2.2.2.1, .int .i64 g.2.2.2.2.2.1, .int .i64 g.2.2.2.2.2.2.1.1, .int .i64 g.2.2.2.2.2.2.1.2.1, .int .i64 g.2.2.2.2.2.2.1.2.2.1, u1, .int .i64 g.2.2.2.2.2.2.2.1.1, .int .i64 g.2.2.2.2.2.2.2.1.2.1, u2, .int .i64 g.2.2.2.2.2.2.2.2.1.1, .int .i64 g.2.2.2.2.2.2.2.2.1.2.1, .int .i64 g.2.2.2.2.2.2.2.2.1.2.2.1] := by
  obtain ⟨cs, rfl⟩ := val_agg Tryz.underlying141 o
  obtain ⟨g, hd⟩ := (open_sh (enc := enc) (P := Tryz.prog) (w := w) shSub).1 _ _ fits_Sub hx
  obtain ⟨u1, u2, e, -⟩ := rd_Sub hd
  obtain ⟨l⟩ := cs
  simp only [Value.cells] at e hd
  subst e
  exact ⟨g, _, _, rfl, hd⟩
end Go.Proofs.YtfpemobkkfobkaaGreatDoor

/- What is said of a sub, in plain words: its fault, its room, what is stale, what is left of it where it is closed, a new one; no condition. -/
namespace Go.Proofs.YtfpemobkkfobkaaGreatDoor
open Go.RowKit
set_option linter.unusedVariables false
set_option maxRecDepth 8000

abbrev DSub.snd (x : DSub) : DSender := x.2.2.2.2.2.2.1
abbrev DSub.cat (x : DSub) : DCatch := x.2.2.2.2.2.2.2.1
abbrev DSub.ctl (x : DSub) : DControl := x.2.2.2.2.2.2.2.2.1
def subHead (x : DSub) : Bool := inD x.1 0 2 && inD x.2.1 1 4 && inD x.2.2.2.1 0 1000000 && inD x.2.2.2.2.1 0 1000000 && inD x.2.2.2.2.2.1 0 1000000
def subForm (x : DSub) : Bool := (decide (x.2.1 < 3) && decide (0 < x.snd.2.1)) || (decide (x.2.1 = 4) && decide (0 < x.snd.2.2.2.1.length))
def subF (x : DSub) : Int := if subHead x = false then 3 else if sndFault x.snd = 0 then (if caF x.cat = 0 then (if ctF x.ctl.1 x.ctl.2.1 x.ctl.2.2.1 = 0 then (if subForm x = true then 1 else 0) else ctF x.ctl.1 x.ctl.2.1 x.ctl.2.2.1) else caF x.cat) else sndFault x.snd
theorem subF_h {x : DSub} (h : subHead x = false) : subF x = 3 := by unfold subF; rw [if_pos h]
theorem subF_s {x : DSub} (h : subHead x = true) (h1 : ¬ sndFault x.snd = 0) : subF x = sndFault x.snd := by unfold subF; rw [if_neg (by simp [h]), if_neg h1]
theorem subF_c {x : DSub} (h : subHead x = true) (h1 : sndFault x.snd = 0) (h2 : ¬ caF x.cat = 0) : subF x = caF x.cat := by unfold subF; rw [if_neg (by simp [h]), if_pos h1, if_neg h2]
theorem subF_k {x : DSub} (h : subHead x = true) (h1 : sndFault x.snd = 0) (h2 : caF x.cat = 0) (h3 : ¬ ctF x.ctl.1 x.ctl.2.1 x.ctl.2.2.1 = 0) : subF x = ctF x.ctl.1 x.ctl.2.1 x.ctl.2.2.1 := by unfold subF; rw [if_neg (by simp [h]), if_pos h1, if_pos h2, if_neg h3]
theorem subF_f {x : DSub} (h : subHead x = true) (h1 : sndFault x.snd = 0) (h2 : caF x.cat = 0) (h3 : ctF x.ctl.1 x.ctl.2.1 x.ctl.2.2.1 = 0) (h4 : subForm x = true) : subF x = 1 := by unfold subF; rw [if_neg (by simp [h]), if_pos h1, if_pos h2, if_pos h3, if_pos h4]
theorem subF_o {x : DSub} (h : subHead x = true) (h1 : sndFault x.snd = 0) (h2 : caF x.cat = 0) (h3 : ctF x.ctl.1 x.ctl.2.1 x.ctl.2.2.1 = 0) (h4 : subForm x = false) : subF x = 0 := by unfold subF; rw [if_neg (by simp [h]), if_pos h1, if_pos h2, if_pos h3, if_neg (by simp [h4])]
theorem sub_ok {x : DSub} (h : subF x = 0) : subHead x = true ∧ sndFault x.snd = 0 ∧ caF x.cat = 0 ∧ ctF x.ctl.1 x.ctl.2.1 x.ctl.2.2.1 = 0 ∧ subForm x = false := by
  unfold subF at h
  split at h
  · cases h
  · rename_i h0
    split at h
    · rename_i h1
      split at h
      · rename_i h2
        split at h
        · rename_i h3
          split at h
          · cases h
          · rename_i h4
            exact ⟨by simpa using h0, h1, h2, h3, by simpa using h4⟩
        · exact absurd h (by assumption)
      · exact absurd h (by assumption)
    · exact absurd h (by assumption)
theorem subHead_parts {x : DSub} (h : subHead x = true) : inD x.1 0 2 = true ∧ inD x.2.1 1 4 = true ∧ inD x.2.2.2.1 0 1000000 = true ∧ inD x.2.2.2.2.1 0 1000000 = true ∧ inD x.2.2.2.2.2.1 0 1000000 = true := by
  unfold subHead at h
  simp only [Bool.and_eq_true] at h
  exact ⟨h.1.1.1.1, h.1.1.1.2, h.1.1.2, h.1.2, h.2⟩
def zSub : DSub := (0, 0, false, 0, 0, 0, (0, 0, 0, [], ()), (0, 0, [], ()), (0, 0, 0, ()), ())
/-- How much room there is. -/
def roomV (x : DSub) : Int := if subF x = 0 then (if x.2.1 = 3 ∧ x.snd.2.2.2.1.length < 12 then max 0 (x.ctl.1 - (x.snd.2.1 - x.snd.2.2.1)) else 0) else 0
/-- How many flights were tried three times or more. -/
def stlL (l : List DFlight) : Nat := (l.filter fun f => decide (3 ≤ f.2.2.2.2.1)).length
def stlV (x : DSub) : Int := if subF x = 0 then (stlL x.snd.2.2.2.1 : Int) else 0
theorem stlL_le (l : List DFlight) : stlL l ≤ l.length := List.length_filter_le _ _
theorem stlL_step {l : List DFlight} {k : Nat} (hk : k < l.length) : stlL (l.take (k + 1)) = if 3 ≤ l[k].2.2.2.2.1 then stlL (l.take k) + 1 else stlL (l.take k) := by
  unfold stlL
  rw [List.take_succ_eq_append_getElem hk, List.filter_append, List.length_append]
  by_cases h : 3 ≤ l[k].2.2.2.2.1
  · rw [if_pos h]; simp [h]
  · rw [if_neg h]; simp [h]
/-- What is left of a sub that is closed. -/
def clsX (x : DSub) : DSub := (x.1, 4, x.2.2.1, x.2.2.2.1, x.2.2.2.2.1, x.2.2.2.2.2.1, (x.snd.1, x.snd.2.2.1, x.snd.2.2.1, [], ()), x.cat, x.ctl, ())
def clsV (x : DSub) : DSub := if subF x = 0 then clsX x else zSub
theorem sub_tot {x : DSub} (h : subF x = 0) : totSub x ≤ 1000 := by
  obtain ⟨-, h1, h2, -⟩ := sub_ok h
  have h3 : totSender x.snd ≤ 108 := snd_tot h1
  have h4 : x.cat.2.2.1.length ≤ 20 := (ca_ok h2).2.2.1
  have h5 : totCatch x.cat ≤ 20 := by unfold totCatch totSpans; exact h4
  show totSender x.snd + totCatch x.cat ≤ 1000
  omega
theorem cls_tot (x : DSub) : totSub (clsV x) ≤ 1048576 := by
  unfold clsV
  split
  · rename_i h
    obtain ⟨-, h1, h2, -⟩ := sub_ok h
    have h4 : x.cat.2.2.1.length ≤ 20 := (ca_ok h2).2.2.1
    have h5 : totCatch x.cat ≤ 20 := by unfold totCatch totSpans; exact h4
    show totSender (x.snd.1, x.snd.2.2.1, x.snd.2.2.1, [], ()) + totCatch x.cat ≤ 1048576
    have h6 : totSender (x.snd.1, x.snd.2.2.1, x.snd.2.2.1, [], ()) = 0 := by simp [totSender, totFlights, fsum]
    omega
  · decide
/-- A new sub. -/
def nwsC (p st no nw : Int) : Int := if (inD p 0 2 && inD no 0 1000000 && inD nw 0 1000000 && inD st 0 65535) = true then 0 else 3
def nwsV (p st : Int) (jn : Bool) (no nw : Int) : DSub := if nwsC p st no nw = 0 then (p, 1, jn, no, 0, nw, (st, 0, 0, [], ()), (0, 0, [], ()), (16, 64, 0, ()), ()) else zSub
theorem nws_tot (p st : Int) (jn : Bool) (no nw : Int) : totSub (nwsV p st jn no nw) ≤ 1048576 := by
  unfold nwsV
  split
  · show totSender (st, 0, 0, [], ()) + totCatch (0, 0, [], ()) ≤ 1048576
    have h6 : totSender (st, 0, 0, [], ()) = 0 := by simp [totSender, totFlights, fsum]
    have h7 : totCatch (0, 0, [], ()) = 0 := by simp [totCatch, totSpans]
    omega
  · decide
end Go.Proofs.YtfpemobkkfobkaaGreatDoor
