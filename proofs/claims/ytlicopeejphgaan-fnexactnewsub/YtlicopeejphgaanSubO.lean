/- Subs whose spans may begin at any place of their block: what is read, what is owned; no condition. -/
import Derived.Test.YtlicopeejphgaanRows
import Derived.Test.YtlicopeejphgaanBase
import Derived.Test.YtlicopeejphgaanMem
import Derived.Test.YtlicopeejphgaanHBase
import Derived.Test.YtlicopeejphgaanHFlight
import Derived.Test.YtlicopeejphgaanHSender
import Derived.Test.YtlicopeejphgaanHSpan
import Derived.Test.YtlicopeejphgaanHCatch
import Derived.Test.YtlicopeejphgaanHMark
import Derived.Test.YtlicopeejphgaanMSpan
import Derived.Test.YtlicopeejphgaanMCatch
import Derived.Test.YtlicopeejphgaanHSub
namespace Go.Proofs.Ytlicopeejphgaan
open Go.RowKit
set_option linter.unusedVariables false
set_option maxRecDepth 8000

abbrev shSubO : Sh := .cons (.int .i64) (.cons (.int .i64) (.cons .bool (.cons (.int .i64) (.cons (.int .i64) (.cons (.int .i64) (.cons shSender (.cons shCatchO (.cons shControl .nil))))))))
theorem rdO_Sub {w : World} {B : Nat} {x : DSub} {cs : List Value} (h : shSubO.Rd w B x cs) : shSub.Rd w B x cs := h
theorem Own.subO {w : World} {lo hi : Nat} {x : DSub} {cs : List Value} (h : Own w lo hi shSub x cs) : Own w lo hi shSubO x cs := by
  obtain ⟨bs, h, hn, hb⟩ := h
  obtain ⟨a0, r0, p0, q0, eb0, ec0, h0, a1, r1, p1, q1, eb1, ec1, h1, a2, r2, p2, q2, eb2, ec2, h2, a3, r3, p3, q3, eb3, ec3, h3, a4, r4, p4, q4, eb4, ec4, h4, a5, r5, p5, q5, eb5, ec5, h5, a6, r6, p6, q6, eb6, ec6, h6, a7, r7, p7, q7, eb7, ec7, h7, hz⟩ := h
  exact ⟨bs, ⟨a0, r0, p0, q0, eb0, ec0, h0, a1, r1, p1, q1, eb1, ec1, h1, a2, r2, p2, q2, eb2, ec2, h2, a3, r3, p3, q3, eb3, ec3, h3, a4, r4, p4, q4, eb4, ec4, h4, a5, r5, p5, q5, eb5, ec5, h5, a6, r6, p6, q6, eb6, ec6, h6, a7, r7, p7, q7, eb7, ec7, ow_CatchO h7, hz⟩, hn, hb⟩
/-- A sub is owned where its sender and its catch are, one behind the other. -/
theorem own_SubO {w : World} {lo mid hi : Nat} {y0 y1 : Int} {y2 : Bool} {y3 y4 y5 s0 s1 s2 : Int} {fl : List DFlight} {c0 c1 : Int} {sp : List DSpan} {k0 k1 k2 : Int} {u v : Value} (hs : Own w lo mid shSender (s0, s1, s2, fl, ()) [.int .i64 s0, .int .i64 s1, .int .i64 s2, u]) (hc : Own w mid hi shCatchO (c0, c1, sp, ()) [.int .i64 c0, .int .i64 c1, v]) (hlm : lo ≤ mid) (hmh : mid ≤ hi) (hw : SubWf (y0, y1, y2, y3, y4, y5, (s0, s1, s2, fl, ()), (c0, c1, sp, ()), (k0, k1, k2, ()), ())) :
    Own w lo hi shSubO (y0, y1, y2, y3, y4, y5, (s0, s1, s2, fl, ()), (c0, c1, sp, ()), (k0, k1, k2, ()), ()) [.int .i64 y0, .int .i64 y1, .bool y2, .int .i64 y3, .int .i64 y4, .int .i64 y5, .int .i64 s0, .int .i64 s1, .int .i64 s2, u, .int .i64 c0, .int .i64 c1, v, .int .i64 k0, .int .i64 k1, .int .i64 k2] := by
  obtain ⟨⟨w0, w1, w3, w4, w5⟩, d0, d1, d2⟩ := hw
  have hl : lo ≤ hi := Nat.le_trans hlm hmh
  have hK : Own w hi hi (.cons shControl .nil) ((k0, k1, k2, ()), ()) ([.int .i64 k0, .int .i64 k1, .int .i64 k2] ++ []) :=
    hOwnCons (hOwnCons (hOwnInt w hi hi d0) (hOwnCons (hOwnInt w hi hi d1) (hOwnCons (hOwnInt w hi hi d2) (hOwnNil _ _ _) (Nat.le_refl _) (Nat.le_refl _)) (Nat.le_refl _) (Nat.le_refl _)) (Nat.le_refl _) (Nat.le_refl _)) (hOwnNil w hi hi) (Nat.le_refl _) (Nat.le_refl _)
  have h1 := hOwnCons hs (hOwnCons hc hK hmh (Nat.le_refl _)) hlm hmh
  exact hOwnCons (hOwnInt w lo lo w0) (hOwnCons (hOwnInt w lo lo w1) (hOwnCons (hOwnBool w lo lo y2) (hOwnCons (hOwnInt w lo lo w3) (hOwnCons (hOwnInt w lo lo w4) (hOwnCons (hOwnInt w lo lo w5) h1 (Nat.le_refl _) hl) (Nat.le_refl _) hl) (Nat.le_refl _) hl) (Nat.le_refl _) hl) (Nat.le_refl _) hl) (Nat.le_refl _) hl
/-- A sub of nothing but numbers. -/
theorem own_Sub0 {w : World} {lo hi : Nat} {y0 y1 : Int} {y2 : Bool} {y3 y4 y5 s0 s1 s2 c0 c1 k0 k1 k2 : Int} (hl : lo ≤ hi) (hw : SubWf (y0, y1, y2, y3, y4, y5, (s0, s1, s2, [], ()), (c0, c1, [], ()), (k0, k1, k2, ()), ())) (w0 : (Lit.int .i64 s0).wf = true) (w1 : (Lit.int .i64 s1).wf = true) (w2 : (Lit.int .i64 s2).wf = true) (w3 : (Lit.int .i64 c0).wf = true) (w4 : (Lit.int .i64 c1).wf = true) :
    Own w lo hi shSubO (y0, y1, y2, y3, y4, y5, (s0, s1, s2, [], ()), (c0, c1, [], ()), (k0, k1, k2, ()), ()) [.int .i64 y0, .int .i64 y1, .bool y2, .int .i64 y3, .int .i64 y4, .int .i64 y5, .int .i64 s0, .int .i64 s1, .int .i64 s2, .slice none 0 0, .int .i64 c0, .int .i64 c1, .slice none 0 0, .int .i64 k0, .int .i64 k1, .int .i64 k2] := by
  have a0 : Own w lo lo shFlights [] [.slice none 0 0] := ⟨[], Or.inl ⟨rfl, rfl, rfl⟩, by simp, by simp⟩
  have b0 : Own w lo hi shSpansO [] [.slice none 0 0] := ⟨[], Or.inl ⟨rfl, rfl, none, 0, rfl, Nat.zero_le _, fun _ => rfl⟩, by simp, by simp⟩
  have a : Own w lo lo shSender (s0, s1, s2, [], ()) [.int .i64 s0, .int .i64 s1, .int .i64 s2, .slice none 0 0] := hOwnCons (hOwnInt w lo lo w0) (hOwnCons (hOwnInt w lo lo w1) (hOwnCons (hOwnInt w lo lo w2) (hOwnCons a0 (hOwnNil _ _ _) (Nat.le_refl _) (Nat.le_refl _)) (Nat.le_refl _) (Nat.le_refl _)) (Nat.le_refl _) (Nat.le_refl _)) (Nat.le_refl _) (Nat.le_refl _)
  have b : Own w lo hi shCatchO (c0, c1, [], ()) [.int .i64 c0, .int .i64 c1, .slice none 0 0] := hOwnCons (hOwnInt w lo lo w3) (hOwnCons (hOwnInt w lo lo w4) (hOwnCons b0 (hOwnNil _ _ _) hl (Nat.le_refl _)) (Nat.le_refl _) hl) (Nat.le_refl _) hl
  exact own_SubO a b (Nat.le_refl _) hl hw
end Go.Proofs.Ytlicopeejphgaan
