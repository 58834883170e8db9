/- What the law's own helpers (measure, copy, compare) make of subs; no condition but that there are at most a million parts. -/
import Derived.Test.YtcbgedlckcjjnaaRows
import Derived.Deep.DeepCutAuto
import Derived.Deep.RegionHeld3
import Derived.Test.YtcbgedlckcjjnaaK01
import Derived.Test.YtcbgedlckcjjnaaK02
import Derived.Test.YtcbgedlckcjjnaaK03
namespace Go.Proofs.Ytcbgedlckcjjnaa
open Go.RowKit
set_option linter.unusedVariables false
set_option maxRecDepth 8000

abbrev shControl : Sh := .cons (.int .i64) (.cons (.int .i64) (.cons (.int .i64) .nil))
abbrev DControl : Type := Int × Int × Int × Unit
abbrev shSub : Sh := .cons (.int .i64) (.cons (.int .i64) (.cons .bool (.cons (.int .i64) (.cons (.int .i64) (.cons (.int .i64) (.cons shSender (.cons shCatch (.cons shControl .nil))))))))
abbrev DSub : Type := Int × Int × Bool × Int × Int × Int × DSender × DCatch × DControl × Unit
def totSub (x : DSub) : Nat := totSender x.2.2.2.2.2.2.1 + totCatch x.2.2.2.2.2.2.2.1
/-- The numbers of a sub beside its sender and catch fit. -/
def SubWf (x : DSub) : Prop := ((Lit.int .i64 x.1).wf = true ∧ (Lit.int .i64 x.2.1).wf = true ∧ (Lit.int .i64 x.2.2.2.1).wf = true ∧ (Lit.int .i64 x.2.2.2.2.1).wf = true ∧ (Lit.int .i64 x.2.2.2.2.2.1).wf = true) ∧
  (Lit.int .i64 x.2.2.2.2.2.2.2.2.1.1).wf = true ∧ (Lit.int .i64 x.2.2.2.2.2.2.2.2.1.2.1).wf = true ∧ (Lit.int .i64 x.2.2.2.2.2.2.2.2.1.2.2.1).wf = true

theorem rd_Sub {w : World} {B : Nat} {x : DSub} {cs : List Value} (h : shSub.Rd w B x cs) : ∃ u v, cs = [.int .i64 x.1, .int .i64 x.2.1, .bool x.2.2.1, .int .i64 x.2.2.2.1, .int .i64 x.2.2.2.2.1, .int .i64 x.2.2.2.2.2.1, .int .i64 x.2.2.2.2.2.2.1.1, .int .i64 x.2.2.2.2.2.2.1.2.1, .int .i64 x.2.2.2.2.2.2.1.2.2.1, u, .int .i64 x.2.2.2.2.2.2.2.1.1, .int .i64 x.2.2.2.2.2.2.2.1.2.1, v, .int .i64 x.2.2.2.2.2.2.2.2.1.1, .int .i64 x.2.2.2.2.2.2.2.2.1.2.1, .int .i64 x.2.2.2.2.2.2.2.2.1.2.2.1] ∧
    shSender.Rd w B x.2.2.2.2.2.2.1 [.int .i64 x.2.2.2.2.2.2.1.1, .int .i64 x.2.2.2.2.2.2.1.2.1, .int .i64 x.2.2.2.2.2.2.1.2.2.1, u] ∧
    shCatch.Rd w B x.2.2.2.2.2.2.2.1 [.int .i64 x.2.2.2.2.2.2.2.1.1, .int .i64 x.2.2.2.2.2.2.2.1.2.1, v] ∧ SubWf x := by
  obtain ⟨p0, q0, e0, ⟨g0, w0⟩, p1, q1, e1, ⟨g1, w1⟩, p2, q2, e2, g2, p3, q3, e3, ⟨g3, w3⟩, p4, q4, e4, ⟨g4, w4⟩, p5, q5, e5, ⟨g5, w5⟩, p6, q6, e6, h6, p7, q7, e7, h7, p8, q8, e8, h8, hz⟩ := h
  obtain ⟨r0, t0, a0, ⟨b0, d0⟩, r1, t1, a1, ⟨b1, d1⟩, r2, t2, a2, ⟨b2, d2⟩, hz2⟩ := h8
  have hz' : q8 = [] := hz
  have hz2' : t2 = [] := hz2
  obtain ⟨u, eu, -⟩ := rd_Sender h6
  obtain ⟨v, ev, -⟩ := rd_Catch h7
  rw [eu] at h6
  rw [ev] at h7
  refine ⟨u, v, ?_, h6, h7, ⟨w0, w1, w3, w4, w5⟩, d0, d1, d2⟩
  rw [e0, g0, e1, g1, e2, g2, e3, g3, e4, g4, e5, g5, e6, eu, e7, ev, e8, a0, b0, a1, b1, a2, b2, hz2', hz']
  rfl
/-- A sub in letters, what is read of it laid open: its flights as a row, its spans as a row. -/
theorem rd_SubF {w : World} {B : Nat} {y0 y1 : Int} {y2 : Bool} {y3 y4 y5 s0 s1 s2 : Int} {fl : List DFlight} {c0 c1 : Int} {sp : List DSpan} {k0 k1 k2 : Int} {u v : Value} (h : shSub.Rd w B (y0, y1, y2, y3, y4, y5, (s0, s1, s2, fl, ()), (c0, c1, sp, ()), (k0, k1, k2, ()), ()) [.int .i64 y0, .int .i64 y1, .bool y2, .int .i64 y3, .int .i64 y4, .int .i64 y5, .int .i64 s0, .int .i64 s1, .int .i64 s2, u, .int .i64 c0, .int .i64 c1, v, .int .i64 k0, .int .i64 k1, .int .i64 k2]) :
    ∃ ua uc va vc, u = .slice ua fl.length uc ∧ v = .slice va sp.length vc ∧ shSender.Rd w B (s0, s1, s2, fl, ()) [.int .i64 s0, .int .i64 s1, .int .i64 s2, u] ∧ shCatch.Rd w B (c0, c1, sp, ()) [.int .i64 c0, .int .i64 c1, v] ∧ SubWf (y0, y1, y2, y3, y4, y5, (s0, s1, s2, fl, ()), (c0, c1, sp, ()), (k0, k1, k2, ()), ()) := by
  obtain ⟨u', v', e, hs, hc, hw⟩ := rd_Sub h
  simp only [List.cons.injEq, and_true, true_and] at e
  obtain ⟨rfl, rfl⟩ := e
  obtain ⟨u2, e2, r2, -⟩ := rd_Sender hs
  simp only [List.cons.injEq, and_true, true_and] at e2
  obtain ⟨v2, e3, r3, -⟩ := rd_Catch hc
  simp only [List.cons.injEq, and_true, true_and] at e3
  obtain ⟨ua, uc, e4⟩ := row_form r2
  obtain ⟨va, vc, e5⟩ := row_form r3
  simp only [List.cons.injEq, and_true] at e4 e5
  exact ⟨ua, uc, va, vc, e2.trans e4, e3.trans e5, hs, hc, hw⟩
theorem rd_SubG {w : World} {B : Nat} {x : DSub} {u v : Value} (h : shSub.Rd w B x [.int .i64 x.1, .int .i64 x.2.1, .bool x.2.2.1, .int .i64 x.2.2.2.1, .int .i64 x.2.2.2.2.1, .int .i64 x.2.2.2.2.2.1, .int .i64 x.2.2.2.2.2.2.1.1, .int .i64 x.2.2.2.2.2.2.1.2.1, .int .i64 x.2.2.2.2.2.2.1.2.2.1, u, .int .i64 x.2.2.2.2.2.2.2.1.1, .int .i64 x.2.2.2.2.2.2.2.1.2.1, v, .int .i64 x.2.2.2.2.2.2.2.2.1.1, .int .i64 x.2.2.2.2.2.2.2.2.1.2.1, .int .i64 x.2.2.2.2.2.2.2.2.1.2.2.1]) : ∃ ua uc va vc, u = .slice ua x.2.2.2.2.2.2.1.2.2.2.1.length uc ∧ v = .slice va x.2.2.2.2.2.2.2.1.2.2.1.length vc := by
  obtain ⟨y0, y1, y2, y3, y4, y5, ⟨s0, s1, s2, fl, ⟨⟩⟩, ⟨c0, c1, sp, ⟨⟩⟩, ⟨k0, k1, k2, ⟨⟩⟩, ⟨⟩⟩ := x
  obtain ⟨ua, uc, va, vc, e1, e2, -⟩ := rd_SubF h
  exact ⟨ua, uc, va, vc, e1, e2⟩
/-- A sub is owned where its sender and its catch are, one behind the other. -/
theorem own_Sub {w : World} {lo mid hi : Nat} {y0 y1 : Int} {y2 : Bool} {y3 y4 y5 s0 s1 s2 : Int} {fl : List DFlight} {c0 c1 : Int} {sp : List DSpan} {k0 k1 k2 : Int} {u v : Value} (hs : Own w lo mid shSender (s0, s1, s2, fl, ()) [.int .i64 s0, .int .i64 s1, .int .i64 s2, u]) (hc : Own w mid hi shCatch (c0, c1, sp, ()) [.int .i64 c0, .int .i64 c1, v]) (hlm : lo ≤ mid) (hmh : mid ≤ hi) (hw : SubWf (y0, y1, y2, y3, y4, y5, (s0, s1, s2, fl, ()), (c0, c1, sp, ()), (k0, k1, k2, ()), ())) :
    Own w lo hi shSub (y0, y1, y2, y3, y4, y5, (s0, s1, s2, fl, ()), (c0, c1, sp, ()), (k0, k1, k2, ()), ()) [.int .i64 y0, .int .i64 y1, .bool y2, .int .i64 y3, .int .i64 y4, .int .i64 y5, .int .i64 s0, .int .i64 s1, .int .i64 s2, u, .int .i64 c0, .int .i64 c1, v, .int .i64 k0, .int .i64 k1, .int .i64 k2] := by
  obtain ⟨⟨w0, w1, w3, w4, w5⟩, d0, d1, d2⟩ := hw
  have hl : lo ≤ hi := Nat.le_trans hlm hmh
  have hK : Own w hi hi (.cons shControl .nil) ((k0, k1, k2, ()), ()) ([.int .i64 k0, .int .i64 k1, .int .i64 k2] ++ []) :=
    hOwnCons (hOwnCons (hOwnInt w hi hi d0) (hOwnCons (hOwnInt w hi hi d1) (hOwnCons (hOwnInt w hi hi d2) (hOwnNil _ _ _) (Nat.le_refl _) (Nat.le_refl _)) (Nat.le_refl _) (Nat.le_refl _)) (Nat.le_refl _) (Nat.le_refl _)) (hOwnNil w hi hi) (Nat.le_refl _) (Nat.le_refl _)
  have h1 := hOwnCons hs (hOwnCons hc hK hmh (Nat.le_refl _)) hlm hmh
  exact hOwnCons (hOwnInt w lo lo w0) (hOwnCons (hOwnInt w lo lo w1) (hOwnCons (hOwnBool w lo lo y2) (hOwnCons (hOwnInt w lo lo w3) (hOwnCons (hOwnInt w lo lo w4) (hOwnCons (hOwnInt w lo lo w5) h1 (Nat.le_refl _) hl) (Nat.le_refl _) hl) (Nat.le_refl _) hl) (Nat.le_refl _) hl) (Nat.le_refl _) hl) (Nat.le_refl _) hl

set_option maxHeartbeats 4000000 in
theorem lEqSub (x : DSub) (u v u' v' : Value) (w : World) (B : Nat) (hr : shSub.Rd w B x [.int .i64 x.1, .int .i64 x.2.1, .bool x.2.2.1, .int .i64 x.2.2.2.1, .int .i64 x.2.2.2.2.1, .int .i64 x.2.2.2.2.2.1, .int .i64 x.2.2.2.2.2.2.1.1, .int .i64 x.2.2.2.2.2.2.1.2.1, .int .i64 x.2.2.2.2.2.2.1.2.2.1, u, .int .i64 x.2.2.2.2.2.2.2.1.1, .int .i64 x.2.2.2.2.2.2.2.1.2.1, v, .int .i64 x.2.2.2.2.2.2.2.2.1.1, .int .i64 x.2.2.2.2.2.2.2.2.1.2.1, .int .i64 x.2.2.2.2.2.2.2.2.1.2.2.1]) (hr' : shSub.Rd w B x [.int .i64 x.1, .int .i64 x.2.1, .bool x.2.2.1, .int .i64 x.2.2.2.1, .int .i64 x.2.2.2.2.1, .int .i64 x.2.2.2.2.2.1, .int .i64 x.2.2.2.2.2.2.1.1, .int .i64 x.2.2.2.2.2.2.1.2.1, .int .i64 x.2.2.2.2.2.2.1.2.2.1, u', .int .i64 x.2.2.2.2.2.2.2.1.1, .int .i64 x.2.2.2.2.2.2.2.1.2.1, v', .int .i64 x.2.2.2.2.2.2.2.2.1.1, .int .i64 x.2.2.2.2.2.2.2.2.1.2.1, .int .i64 x.2.2.2.2.2.2.2.2.1.2.2.1]) (hB : B ≤ w.heap.size) (hT : totSub x ≤ 1048576) :
    Calls Try.prog 55 #[.agg #[.int .i64 x.1, .int .i64 x.2.1, .bool x.2.2.1, .int .i64 x.2.2.2.1, .int .i64 x.2.2.2.2.1, .int .i64 x.2.2.2.2.2.1, .int .i64 x.2.2.2.2.2.2.1.1, .int .i64 x.2.2.2.2.2.2.1.2.1, .int .i64 x.2.2.2.2.2.2.1.2.2.1, u, .int .i64 x.2.2.2.2.2.2.2.1.1, .int .i64 x.2.2.2.2.2.2.2.1.2.1, v, .int .i64 x.2.2.2.2.2.2.2.2.1.1, .int .i64 x.2.2.2.2.2.2.2.2.1.2.1, .int .i64 x.2.2.2.2.2.2.2.2.1.2.2.1], .agg #[.int .i64 x.1, .int .i64 x.2.1, .bool x.2.2.1, .int .i64 x.2.2.2.1, .int .i64 x.2.2.2.2.1, .int .i64 x.2.2.2.2.2.1, .int .i64 x.2.2.2.2.2.2.1.1, .int .i64 x.2.2.2.2.2.2.1.2.1, .int .i64 x.2.2.2.2.2.2.1.2.2.1, u', .int .i64 x.2.2.2.2.2.2.2.1.1, .int .i64 x.2.2.2.2.2.2.2.1.2.1, v', .int .i64 x.2.2.2.2.2.2.2.2.1.1, .int .i64 x.2.2.2.2.2.2.2.2.1.2.1, .int .i64 x.2.2.2.2.2.2.2.2.1.2.2.1]] w fun e w' => e = .returned (.bool true) ∧ Below w.heap.size w w' := by
  obtain ⟨y0, y1, y2, y3, y4, y5, ⟨s0, s1, s2, fl, ⟨⟩⟩, ⟨c0, c1, sp, ⟨⟩⟩, ⟨k0, k1, k2, ⟨⟩⟩, ⟨⟩⟩ := x
  simp only at *
  obtain ⟨ua, uc, va, vc, rfl, rfl, rs, rc, hwf⟩ := rd_SubF hr
  obtain ⟨ua', uc', va', vc', rfl, rfl, rs', rc', -⟩ := rd_SubF hr'
  have ht : totSender (s0, s1, s2, fl, ()) + totCatch (c0, c1, sp, ()) ≤ 1048576 := hT
  have H1 : Hid (∀ W, Below w.heap.size w W → Calls Try.prog 57 #[.agg #[.int .i64 s0, .int .i64 s1, .int .i64 s2, .slice ua fl.length uc], .agg #[.int .i64 s0, .int .i64 s1, .int .i64 s2, .slice ua' fl.length uc']] W fun e w' => e = .returned (.bool true) ∧ Below W.heap.size W w') := fun W hW => lEqSender (s0, s1, s2, fl, ()) _ _ W B (rs.below hB hW) (rs'.below hB hW) (Nat.le_trans hB hW.size) (by omega)
  have H2 : Hid (∀ W, Below w.heap.size w W → Calls Try.prog 58 #[.agg #[.int .i64 c0, .int .i64 c1, .slice va sp.length vc], .agg #[.int .i64 c0, .int .i64 c1, .slice va' sp.length vc']] W fun e w' => e = .returned (.bool true) ∧ Below W.heap.size W w') := fun W hW => lEqCatch (c0, c1, sp, ()) _ _ W B (rc.below hB hW) (rc'.below hB hW) (Nat.le_trans hB hW.size) (by omega)
  clear hr hr' rs rc rs' rc' hwf ht hT
  generalize fl.length = fn at *
  generalize sp.length = sn at *
  go_enter Try.func55, Try.ntmps55
  go_wp2_with fail
  refine (H1.out _ (by go_grown)).mono ?_
  rintro e w1 ⟨rfl, hb⟩
  have j0 : ∀ o, w1.cell? ⟨w.heap.size, o, none⟩ = (#[.int .i64 y0, .int .i64 y1, .bool y2, .int .i64 y3, .int .i64 y4, .int .i64 y5, .int .i64 s0, .int .i64 s1, .int .i64 s2, .slice ua fn uc, .int .i64 c0, .int .i64 c1, .slice va sn vc, .int .i64 k0, .int .i64 k1, .int .i64 k2] : Array Value)[o]? := fun o => by rw [hb.cell (p := ⟨w.heap.size, o, none⟩) (by simp; omega)]; simp [go_sem]
  have j1 : ∀ o, w1.cell? ⟨w.heap.size + 1, o, none⟩ = (#[.int .i64 y0, .int .i64 y1, .bool y2, .int .i64 y3, .int .i64 y4, .int .i64 y5, .int .i64 s0, .int .i64 s1, .int .i64 s2, .slice ua' fn uc', .int .i64 c0, .int .i64 c1, .slice va' sn vc', .int .i64 k0, .int .i64 k1, .int .i64 k2] : Array Value)[o]? := fun o => by rw [hb.cell (p := ⟨w.heap.size + 1, o, none⟩) (by simp)]; simp [go_sem]
  have HB : Hid (Below w.heap.size w w1) := Below.trans (by go_grown) (hb.mono (by simp; omega))
  have z1 : w.heap.size + 1 < w1.heap.size := by have := hb.size; simp at this; omega
  clear hb H1
  go_wp2_with fail
  refine (H2.out _ HB.out).mono ?_
  rintro e w2 ⟨rfl, hb⟩
  replace j0 := bx_below j0 (by omega) hb
  replace j1 := bx_below j1 (by omega) hb
  replace HB : Hid (Below w.heap.size w w2) := HB.out.trans (hb.mono HB.out.size)
  clear hb H2
  go_wp2_with fail
  refine (lEqControl k0 k1 k2 _).mono ?_
  rintro e w3 ⟨rfl, hb⟩
  replace HB : Hid (Below w.heap.size w w3) := HB.out.trans (hb.mono HB.out.size)
  clear hb j0 j1
  go_wp2_with fail
  go_ret
  exact ⟨rfl, HB.out⟩
end Go.Proofs.Ytcbgedlckcjjnaa
