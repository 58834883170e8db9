/- Marks laid over subs, and what is held of them; no condition but on lengths. -/
import Derived.Test.YtlicopeejphgaanRows
import Derived.Test.YtlicopeejphgaanBase
import Derived.Test.YtlicopeejphgaanBytes
import Derived.Test.YtlicopeejphgaanMem
import Derived.Test.YtlicopeejphgaanMemRow
import Derived.Test.YtlicopeejphgaanHBase
import Derived.Test.YtlicopeejphgaanHMark
import Derived.Test.YtlicopeejphgaanHFlight
import Derived.Test.YtlicopeejphgaanMFlight
import Derived.Test.YtlicopeejphgaanHSender
import Derived.Test.YtlicopeejphgaanMSender
import Derived.Test.YtlicopeejphgaanHSpan
import Derived.Test.YtlicopeejphgaanMSpan
import Derived.Test.YtlicopeejphgaanHCatch
import Derived.Test.YtlicopeejphgaanMCatch
import Derived.Test.YtlicopeejphgaanBox
import Derived.Test.YtlicopeejphgaanSubBox
import Derived.Test.YtlicopeejphgaanHSub
import Derived.Test.YtlicopeejphgaanSubO
namespace Go.Proofs.Ytlicopeejphgaan
open Go.RowKit
set_option linter.unusedVariables false
set_option maxRecDepth 8000

def wtSub (x : DSub) : Nat := wtSender x.2.2.2.2.2.2.1 + wtCatch x.2.2.2.2.2.2.2.1
def mkSub (c : Int) (x : DSub) : DSub := (x.1, x.2.1, x.2.2.1, x.2.2.2.1, x.2.2.2.2.1, x.2.2.2.2.2.1, mkSender c x.2.2.2.2.2.2.1, mkCatch (c + (wtSender x.2.2.2.2.2.2.1 : Nat)) x.2.2.2.2.2.2.2.1, x.2.2.2.2.2.2.2.2.1, ())
theorem wtSub_le {x : DSub} (h : totSub x ≤ 1048576) : wtSender x.2.2.2.2.2.2.1 ≤ 1073741824 ∧ wtCatch x.2.2.2.2.2.2.2.1 ≤ 1073741824 := by
  unfold totSub at h
  exact ⟨wtSender_le (by omega), wtCatch_le (by omega)⟩
set_option maxHeartbeats 2000000 in
theorem lMarkSenderT (x : DSender) (v : Value) (c : Int) (w : World) (bs : List Nat) (hO : shSender.Ow w bs x [.int .i64 x.1, .int .i64 x.2.1, .int .i64 x.2.2.1, v]) (hnd : bs.Nodup) (hT : totSender x ≤ 1048576) (hc0 : 0 ≤ c) (hc1 : c ≤ 1073741824) :
    Calls Try.prog 96 #[.agg #[.int .i64 x.1, .int .i64 x.2.1, .int .i64 x.2.2.1, v], .int .i64 c] w fun e w' => e = .returned (.int .i64 (c + (wtSender x : Nat))) ∧ shSender.Ow w' bs (mkSender c x) [.int .i64 x.1, .int .i64 x.2.1, .int .i64 x.2.2.1, v] ∧ Touch bs w w' := by
  obtain ⟨vv, ev, hK, wf0, wf1, wf2⟩ := ow_Sender hO
  simp only [List.cons.injEq, and_true, true_and] at ev
  subst ev
  obtain ⟨va, vc, ev⟩ := row_form (Sh.Ow.rd (Nat.le_refl _) _ _ _ _ hK)
  simp only [List.cons.injEq, and_true] at ev
  subst ev
  have HW : Hid (wtSender x ≤ 1073741824) := wtSender_le hT
  have hlt : ∀ b ∈ bs, b < w.heap.size := Sh.Ow.lt _ _ _ _ hO
  have HK : Hid (∀ W, Below w.heap.size w W → shFlights.Ow W bs x.2.2.2.1 [.slice va x.2.2.2.1.length vc]) := fun W hW => Sh.Ow.keep _ _ _ _ (fun b hb => hW.block b (hlt b hb)) hK
  have HF : Hid (∀ W, shFlights.Ow W bs (mkL mkFlight wtFlight c x.2.2.2.1) [.slice va x.2.2.2.1.length vc] → shSender.Ow W bs (mkSender c x) [.int .i64 x.1, .int .i64 x.2.1, .int .i64 x.2.2.1, .slice va x.2.2.2.1.length vc]) := fun W h => mk_Sender h wf0 wf1 wf2
  have HC : Hid (∀ W, Below w.heap.size w W → Calls Try.prog 110 #[.slice va x.2.2.2.1.length vc, .int .i64 c] W fun e w' => e = .returned (.int .i64 (c + (wtSender x : Nat))) ∧ shFlights.Ow w' bs (mkL mkFlight wtFlight c x.2.2.2.1) [.slice va x.2.2.2.1.length vc] ∧ Touch bs W w') := fun W hW => lMarkFlights x.2.2.2.1 _ c W bs (HK.out W hW) hnd HW.out hc0 (by omega)
  clear hO hnd hT hlt hK wf0 wf1 wf2 HK
  obtain ⟨M, hM⟩ : ∃ M, M = mkSender c x := ⟨_, rfl⟩
  rw [← hM] at HF ⊢
  clear hM
  generalize wtSender x = wq at *
  generalize mkL mkFlight wtFlight c x.2.2.2.1 = ML at *
  generalize x.1 = y0 at *
  generalize x.2.1 = y1 at *
  generalize x.2.2.1 = y2 at *
  generalize x.2.2.2.1.length = n at *
  go_enter Try.func96, Try.ntmps96
  go_wp2_with fail
  refine (HC.out _ (by go_grown)).mono ?_
  rintro e w1 ⟨rfl, ho1, ht1⟩
  have HO1 : Hid (shSender.Ow w1 bs M [.int .i64 y0, .int .i64 y1, .int .i64 y2, .slice va n vc]) := HF.out w1 ho1
  have HW1 : Hid (Touch bs w w1) := (Touch.below ((Below.refl _ _).alloc (Nat.le_refl _) _)).trans ht1
  clear ho1 ht1
  go_wp2_with fail
  go_ret
  exact ⟨rfl, HO1.out, HW1.out⟩
set_option maxHeartbeats 2000000 in
theorem lMarkCatchT (x : DCatch) (v : Value) (c : Int) (w : World) (bs : List Nat) (hO : shCatchO.Ow w bs x [.int .i64 x.1, .int .i64 x.2.1, v]) (hnd : bs.Nodup) (hT : totCatch x ≤ 1048576) (hc0 : 0 ≤ c) (hc1 : c ≤ 1073741824) :
    Calls Try.prog 15 #[.agg #[.int .i64 x.1, .int .i64 x.2.1, v], .int .i64 c] w fun e w' => e = .returned (.int .i64 (c + (wtCatch x : Nat))) ∧ shCatchO.Ow w' bs (mkCatch c x) [.int .i64 x.1, .int .i64 x.2.1, v] ∧ Touch bs w w' := by
  obtain ⟨vv, ev, hK, wf0, wf1⟩ := ow_Catch hO
  simp only [List.cons.injEq, and_true, true_and] at ev
  subst ev
  obtain ⟨va, vc, ev⟩ := row_formO (Sh.Ow.rd (Nat.le_refl _) _ _ _ _ hK)
  simp only [List.cons.injEq, and_true] at ev
  subst ev
  have HW : Hid (wtCatch x ≤ 1073741824) := wtCatch_le hT
  have hlt : ∀ b ∈ bs, b < w.heap.size := Sh.Ow.lt _ _ _ _ hO
  have HK : Hid (∀ W, Below w.heap.size w W → shSpansO.Ow W bs x.2.2.1 [.slice va x.2.2.1.length vc]) := fun W hW => Sh.Ow.keep _ _ _ _ (fun b hb => hW.block b (hlt b hb)) hK
  have HF : Hid (∀ W, shSpansO.Ow W bs (mkL mkSpan wtSpan c x.2.2.1) [.slice va x.2.2.1.length vc] → shCatchO.Ow W bs (mkCatch c x) [.int .i64 x.1, .int .i64 x.2.1, .slice va x.2.2.1.length vc]) := fun W h => mk_Catch h wf0 wf1
  have HC : Hid (∀ W, Below w.heap.size w W → Calls Try.prog 48 #[.slice va x.2.2.1.length vc, .int .i64 c] W fun e w' => e = .returned (.int .i64 (c + (wtCatch x : Nat))) ∧ shSpansO.Ow w' bs (mkL mkSpan wtSpan c x.2.2.1) [.slice va x.2.2.1.length vc] ∧ Touch bs W w') := fun W hW => lMarkSpans x.2.2.1 _ c W bs (HK.out W hW) hnd HW.out hc0 (by omega)
  clear hO hnd hT hlt hK wf0 wf1 HK
  obtain ⟨M, hM⟩ : ∃ M, M = mkCatch c x := ⟨_, rfl⟩
  rw [← hM] at HF ⊢
  clear hM
  generalize wtCatch x = wq at *
  generalize mkL mkSpan wtSpan c x.2.2.1 = ML at *
  generalize x.1 = y0 at *
  generalize x.2.1 = y1 at *
  generalize x.2.2.1.length = n at *
  go_enter Try.func15, Try.ntmps15
  go_wp2_with fail
  refine (HC.out _ (by go_grown)).mono ?_
  rintro e w1 ⟨rfl, ho1, ht1⟩
  have HO1 : Hid (shCatchO.Ow w1 bs M [.int .i64 y0, .int .i64 y1, .slice va n vc]) := HF.out w1 ho1
  have HW1 : Hid (Touch bs w w1) := (Touch.below ((Below.refl _ _).alloc (Nat.le_refl _) _)).trans ht1
  clear ho1 ht1
  go_wp2_with fail
  go_ret
  exact ⟨rfl, HO1.out, HW1.out⟩
theorem wtS_le {x : DSender} (h : totSender x ≤ 1048576) : wtSender x ≤ 8388608 := by
  unfold wtSender; rw [wtFlight_sum]; unfold totSender totFlights at h; omega
theorem wtC_le {x : DCatch} (h : totCatch x ≤ 1048576) : wtCatch x ≤ 8388608 := by
  unfold wtCatch; rw [wtSpan_sum]; unfold totCatch totSpans at h; omega
theorem ow_Sub {w : World} {bs : List Nat} {x : DSub} {cs : List Value} (h : shSubO.Ow w bs x cs) : ∃ b1 b2 u v, bs = b1 ++ b2 ∧ cs = [.int .i64 x.1, .int .i64 x.2.1, .bool x.2.2.1, .int .i64 x.2.2.2.1, .int .i64 x.2.2.2.2.1, .int .i64 x.2.2.2.2.2.1, .int .i64 x.2.2.2.2.2.2.1.1, .int .i64 x.2.2.2.2.2.2.1.2.1, .int .i64 x.2.2.2.2.2.2.1.2.2.1, u, .int .i64 x.2.2.2.2.2.2.2.1.1, .int .i64 x.2.2.2.2.2.2.2.1.2.1, v, .int .i64 x.2.2.2.2.2.2.2.2.1.1, .int .i64 x.2.2.2.2.2.2.2.2.1.2.1, .int .i64 x.2.2.2.2.2.2.2.2.1.2.2.1] ∧ shSender.Ow w b1 x.2.2.2.2.2.2.1 [.int .i64 x.2.2.2.2.2.2.1.1, .int .i64 x.2.2.2.2.2.2.1.2.1, .int .i64 x.2.2.2.2.2.2.1.2.2.1, u] ∧ shCatchO.Ow w b2 x.2.2.2.2.2.2.2.1 [.int .i64 x.2.2.2.2.2.2.2.1.1, .int .i64 x.2.2.2.2.2.2.2.1.2.1, v] ∧ SubWf x := by
  obtain ⟨a0, r0, p0, q0, eb0, ec0, ⟨f0, g0, w0⟩, a1, r1, p1, q1, eb1, ec1, ⟨f1, g1, w1⟩, a2, r2, p2, q2, eb2, ec2, ⟨f2, g2⟩, a3, r3, p3, q3, eb3, ec3, ⟨f3, g3, w3⟩, a4, r4, p4, q4, eb4, ec4, ⟨f4, g4, w4⟩, a5, r5, p5, q5, eb5, ec5, ⟨f5, g5, w5⟩, a6, r6, p6, q6, eb6, ec6, h6, a7, r7, p7, q7, eb7, ec7, h7, a8, r8, p8, q8, eb8, ec8, h8, zb, zc⟩ := h
  obtain ⟨d0, e0, n0, o0, xb0, xc0, ⟨l0, m0, v0⟩, d1, e1, n1, o1, xb1, xc1, ⟨l1, m1, v1⟩, d2, e2, n2, o2, xb2, xc2, ⟨l2, m2, v2⟩, yb, yc⟩ := h8
  obtain ⟨u, eu, hu⟩ := ow_Sender h6
  obtain ⟨v, ev, hv⟩ := ow_Catch h7
  rw [eu] at h6
  rw [ev] at h7
  refine ⟨a6, a7, u, v, ?_, ?_, h6, h7, ⟨w0, w1, w3, w4, w5⟩, v0, v1, v2⟩
  · rw [eb0, f0, eb1, f1, eb2, f2, eb3, f3, eb4, f4, eb5, f5, eb6, eb7, eb8, xb0, l0, xb1, l1, xb2, l2, yb, zb]
    simp
  · rw [ec0, g0, ec1, g1, ec2, g2, ec3, g3, ec4, g4, ec5, g5, ec6, eu, ec7, ev, ec8, xc0, m0, xc1, m1, xc2, m2, yc, zc]
    rfl
theorem mk_Sub {w : World} {b1 b2 : List Nat} {y0 y1 : Int} {y2 : Bool} {y3 y4 y5 : Int} {S : DSender} {C : DCatch} {k0 k1 k2 s0 s1 s2 c0 c1 : Int} {u v : Value} (hs : shSender.Ow w b1 S [.int .i64 s0, .int .i64 s1, .int .i64 s2, u]) (hc : shCatchO.Ow w b2 C [.int .i64 c0, .int .i64 c1, v]) (w0 : (Lit.int .i64 y0).wf = true) (w1 : (Lit.int .i64 y1).wf = true) (w3 : (Lit.int .i64 y3).wf = true) (w4 : (Lit.int .i64 y4).wf = true) (w5 : (Lit.int .i64 y5).wf = true) (d0 : (Lit.int .i64 k0).wf = true) (d1 : (Lit.int .i64 k1).wf = true) (d2 : (Lit.int .i64 k2).wf = true) :
    shSubO.Ow w (b1 ++ b2) (y0, y1, y2, y3, y4, y5, S, C, (k0, k1, k2, ()), ()) [.int .i64 y0, .int .i64 y1, .bool y2, .int .i64 y3, .int .i64 y4, .int .i64 y5, .int .i64 s0, .int .i64 s1, .int .i64 s2, u, .int .i64 c0, .int .i64 c1, v, .int .i64 k0, .int .i64 k1, .int .i64 k2] := by
  have hK : shControl.Ow w [] (k0, k1, k2, ()) [.int .i64 k0, .int .i64 k1, .int .i64 k2] := ⟨[], [], [.int .i64 k0], [.int .i64 k1, .int .i64 k2], rfl, rfl, ⟨rfl, rfl, d0⟩, [], [], [.int .i64 k1], [.int .i64 k2], rfl, rfl, ⟨rfl, rfl, d1⟩, [], [], [.int .i64 k2], [], rfl, rfl, ⟨rfl, rfl, d2⟩, rfl, rfl⟩
  have h8 : (Sh.cons shControl .nil).Ow w [] ((k0, k1, k2, ()), ()) [.int .i64 k0, .int .i64 k1, .int .i64 k2] := ⟨[], [], _, [], rfl, rfl, hK, rfl, rfl⟩
  have h7 : (Sh.cons shCatchO (.cons shControl .nil)).Ow w b2 (C, (k0, k1, k2, ()), ()) ([.int .i64 c0, .int .i64 c1, v] ++ [.int .i64 k0, .int .i64 k1, .int .i64 k2]) := ⟨b2, [], _, _, (List.append_nil _).symm, rfl, hc, h8⟩
  have h6 : (Sh.cons shSender (.cons shCatchO (.cons shControl .nil))).Ow w (b1 ++ b2) (S, C, (k0, k1, k2, ()), ()) ([.int .i64 s0, .int .i64 s1, .int .i64 s2, u] ++ ([.int .i64 c0, .int .i64 c1, v] ++ [.int .i64 k0, .int .i64 k1, .int .i64 k2])) := ⟨b1, b2, _, _, rfl, rfl, hs, h7⟩
  exact ⟨[], _, [_], _, rfl, rfl, ⟨rfl, rfl, w0⟩, [], _, [_], _, rfl, rfl, ⟨rfl, rfl, w1⟩, [], _, [_], _, rfl, rfl, ⟨rfl, rfl⟩, [], _, [_], _, rfl, rfl, ⟨rfl, rfl, w3⟩, [], _, [_], _, rfl, rfl, ⟨rfl, rfl, w4⟩, [], _, [_], _, rfl, rfl, ⟨rfl, rfl, w5⟩, h6⟩
set_option maxHeartbeats 2000000 in
theorem lMarkSub (x : DSub) (u v : Value) (c : Int) (w : World) (lo hi : Nat) (ho : Own w lo hi shSubO x [.int .i64 x.1, .int .i64 x.2.1, .bool x.2.2.1, .int .i64 x.2.2.2.1, .int .i64 x.2.2.2.2.1, .int .i64 x.2.2.2.2.2.1, .int .i64 x.2.2.2.2.2.2.1.1, .int .i64 x.2.2.2.2.2.2.1.2.1, .int .i64 x.2.2.2.2.2.2.1.2.2.1, u, .int .i64 x.2.2.2.2.2.2.2.1.1, .int .i64 x.2.2.2.2.2.2.2.1.2.1, v, .int .i64 x.2.2.2.2.2.2.2.2.1.1, .int .i64 x.2.2.2.2.2.2.2.2.1.2.1, .int .i64 x.2.2.2.2.2.2.2.2.1.2.2.1]) (hT : totSub x ≤ 1048576) (hc0 : 0 ≤ c) (hc1 : c ≤ 1000000) :
    Calls Try.prog 71 #[.agg #[.int .i64 x.1, .int .i64 x.2.1, .bool x.2.2.1, .int .i64 x.2.2.2.1, .int .i64 x.2.2.2.2.1, .int .i64 x.2.2.2.2.2.1, .int .i64 x.2.2.2.2.2.2.1.1, .int .i64 x.2.2.2.2.2.2.1.2.1, .int .i64 x.2.2.2.2.2.2.1.2.2.1, u, .int .i64 x.2.2.2.2.2.2.2.1.1, .int .i64 x.2.2.2.2.2.2.2.1.2.1, v, .int .i64 x.2.2.2.2.2.2.2.2.1.1, .int .i64 x.2.2.2.2.2.2.2.2.1.2.1, .int .i64 x.2.2.2.2.2.2.2.2.1.2.2.1], .int .i64 c] w fun e w' => e = .returned (.int .i64 (c + (wtSub x : Nat))) ∧ Own w' lo hi shSubO (mkSub c x) [.int .i64 x.1, .int .i64 x.2.1, .bool x.2.2.1, .int .i64 x.2.2.2.1, .int .i64 x.2.2.2.2.1, .int .i64 x.2.2.2.2.2.1, .int .i64 x.2.2.2.2.2.2.1.1, .int .i64 x.2.2.2.2.2.2.1.2.1, .int .i64 x.2.2.2.2.2.2.1.2.2.1, u, .int .i64 x.2.2.2.2.2.2.2.1.1, .int .i64 x.2.2.2.2.2.2.2.1.2.1, v, .int .i64 x.2.2.2.2.2.2.2.2.1.1, .int .i64 x.2.2.2.2.2.2.2.2.1.2.1, .int .i64 x.2.2.2.2.2.2.2.2.1.2.2.1] ∧ Within lo hi w w' := by
  obtain ⟨bs, hO, hnd, hbd⟩ := ho
  obtain ⟨b1, b2, u', v', eb, ec, hs, hc, hwf⟩ := ow_Sub hO
  simp only [List.cons.injEq, and_true, true_and] at ec
  obtain ⟨rfl, rfl⟩ := ec
  subst eb
  obtain ⟨y0, y1, y2, y3, y4, y5, ⟨s0, s1, s2, fl, ⟨⟩⟩, ⟨c0, c1, sp, ⟨⟩⟩, ⟨k0, k1, k2, ⟨⟩⟩, ⟨⟩⟩ := x
  simp only at *
  have ht : totSender (s0, s1, s2, fl, ()) + totCatch (c0, c1, sp, ()) ≤ 1048576 := hT
  obtain ⟨q1, e1, r1, -⟩ := rd_Sender (Sh.Ow.rd (Nat.le_refl _) _ _ _ _ hs)
  simp only [List.cons.injEq, and_true, true_and] at e1
  subst e1
  obtain ⟨ua, uc, e1⟩ := row_form r1
  simp only [List.cons.injEq, and_true] at e1
  subst e1
  obtain ⟨q2, e2, r2, -⟩ := rd_CatchO (Sh.Ow.rd (Nat.le_refl _) _ _ _ _ hc)
  simp only [List.cons.injEq, and_true, true_and] at e2
  subst e2
  obtain ⟨va, vc, e2⟩ := row_formO r2
  simp only [List.cons.injEq, and_true] at e2
  subst e2
  obtain ⟨nd1, nd2, hdis⟩ := List.nodup_append.1 hnd
  have l1 : ∀ b ∈ b1, b < w.heap.size := Sh.Ow.lt _ _ _ _ hs
  have l2 : ∀ b ∈ b2, b < w.heap.size := Sh.Ow.lt _ _ _ _ hc
  have hw1 := wtS_le (x := (s0, s1, s2, fl, ())) (by omega)
  have hw2 := wtC_le (x := (c0, c1, sp, ())) (by omega)
  have HV : Hid ((wtSub (y0, y1, y2, y3, y4, y5, (s0, s1, s2, fl, ()), (c0, c1, sp, ()), (k0, k1, k2, ()), ()) : Nat) = wtSender (s0, s1, s2, fl, ()) + wtCatch (c0, c1, sp, ())) := rfl
  have H1 : Hid (∀ W, Below w.heap.size w W → Calls Try.prog 96 #[.agg #[.int .i64 s0, .int .i64 s1, .int .i64 s2, .slice ua fl.length uc], .int .i64 c] W fun e w' => e = .returned (.int .i64 (c + (wtSender (s0, s1, s2, fl, ()) : Nat))) ∧ shSender.Ow w' b1 (mkSender c (s0, s1, s2, fl, ())) [.int .i64 s0, .int .i64 s1, .int .i64 s2, .slice ua fl.length uc] ∧ Touch b1 W w') := fun W hW => lMarkSenderT (s0, s1, s2, fl, ()) _ c W b1 (Sh.Ow.keep _ _ _ _ (fun b hb => hW.block b (l1 b hb)) hs) nd1 (by omega) hc0 (by omega)
  have H2 : Hid (∀ W, (∀ b ∈ b2, W.heap[b]? = w.heap[b]?) → Calls Try.prog 15 #[.agg #[.int .i64 c0, .int .i64 c1, .slice va sp.length vc], .int .i64 (c + (wtSender (s0, s1, s2, fl, ()) : Nat))] W fun e w' => e = .returned (.int .i64 (c + (wtSender (s0, s1, s2, fl, ()) : Nat) + (wtCatch (c0, c1, sp, ()) : Nat))) ∧ shCatchO.Ow w' b2 (mkCatch (c + (wtSender (s0, s1, s2, fl, ()) : Nat)) (c0, c1, sp, ())) [.int .i64 c0, .int .i64 c1, .slice va sp.length vc] ∧ Touch b2 W w') := fun W hW => lMarkCatchT (c0, c1, sp, ()) _ _ W b2 (Sh.Ow.keep _ _ _ _ hW hc) nd2 (by omega) (by omega) (by omega)
  have HM : Hid (∀ W, shSender.Ow W b1 (mkSender c (s0, s1, s2, fl, ())) [.int .i64 s0, .int .i64 s1, .int .i64 s2, .slice ua fl.length uc] → shCatchO.Ow W b2 (mkCatch (c + (wtSender (s0, s1, s2, fl, ()) : Nat)) (c0, c1, sp, ())) [.int .i64 c0, .int .i64 c1, .slice va sp.length vc] → Own W lo hi shSubO (mkSub c (y0, y1, y2, y3, y4, y5, (s0, s1, s2, fl, ()), (c0, c1, sp, ()), (k0, k1, k2, ()), ())) [.int .i64 y0, .int .i64 y1, .bool y2, .int .i64 y3, .int .i64 y4, .int .i64 y5, .int .i64 s0, .int .i64 s1, .int .i64 s2, .slice ua fl.length uc, .int .i64 c0, .int .i64 c1, .slice va sp.length vc, .int .i64 k0, .int .i64 k1, .int .i64 k2]) := fun W h1 h2 => by
    obtain ⟨⟨a0, a1, a3, a4, a5⟩, d0, d1, d2⟩ := hwf
    exact ⟨b1 ++ b2, mk_Sub h1 h2 a0 a1 a3 a4 a5 d0 d1 d2, hnd, hbd⟩
  have HL1 : Hid _ := l1
  have HL2 : Hid _ := l2
  have HDS : Hid (∀ b ∈ b2, b ∉ b1) := fun b hb hb' => hdis b hb' b hb rfl
  have HBD : Hid (∀ b ∈ b1 ++ b2, lo ≤ b ∧ b < hi) := hbd
  clear hO hnd hbd hs hc hwf hT ht r1 r2 nd1 nd2 hdis l1 l2
  rw [HV.out]
  clear HV
  generalize wtSender (s0, s1, s2, fl, ()) = q1 at *
  generalize wtCatch (c0, c1, sp, ()) = q2 at *
  generalize mkSub c (y0, y1, y2, y3, y4, y5, (s0, s1, s2, fl, ()), (c0, c1, sp, ()), (k0, k1, k2, ()), ()) = MM at *
  generalize mkSender c (s0, s1, s2, fl, ()) = M1 at *
  generalize mkCatch (c + (q1 : Int)) (c0, c1, sp, ()) = M2 at *
  generalize fl.length = fn at *
  generalize sp.length = sn at *
  go_enter Try.func71, Try.ntmps71
  go_wp2_with fail
  refine (H1.out _ (by go_grown)).mono ?_
  rintro e w1 ⟨rfl, ho1, ht1⟩
  have j0 : ∀ o, w1.cell? ⟨w.heap.size, o, none⟩ = (#[.int .i64 y0, .int .i64 y1, .bool y2, .int .i64 y3, .int .i64 y4, .int .i64 y5, .int .i64 s0, .int .i64 s1, .int .i64 s2, .slice ua fn uc, .int .i64 c0, .int .i64 c1, .slice va sn vc, .int .i64 k0, .int .i64 k1, .int .i64 k2] : Array Value)[o]? := bx_keep (w := w.alloc (.cells #[.int .i64 y0, .int .i64 y1, .bool y2, .int .i64 y3, .int .i64 y4, .int .i64 y5, .int .i64 s0, .int .i64 s1, .int .i64 s2, .slice ua fn uc, .int .i64 c0, .int .i64 c1, .slice va sn vc, .int .i64 k0, .int .i64 k1, .int .i64 k2] 59)) (fun o => by simp [go_sem]) (ht1.block w.heap.size (by simp) (fun h => by have := HL1.out _ h; omega))
  have HO1 : Hid _ := ho1
  have HK1 : Hid (∀ b ∈ b2, w1.heap[b]? = w.heap[b]?) := fun b hb => (ht1.block b (by have := HL2.out b hb; simp; omega) (HDS.out b hb)).trans (Below.heap_alloc _ _ _ (HL2.out b hb))
  have HT1 : Hid (Within lo hi w w1) := (Within.below ((Below.refl _ _).alloc (Nat.le_refl _) _)).trans ⟨ht1.os, ht1.tape, ht1.output, ht1.size, fun b hb hn => ht1.block b hb fun hm => hn (HBD.out b (List.mem_append_left _ hm))⟩
  have z0 : w.heap.size < w1.heap.size := by have := ht1.size; simp at this; omega
  clear ho1 ht1 H1
  go_wp2_with fail
  refine (H2.out _ HK1.out).mono ?_
  rintro e w2 ⟨rfl, ho2, ht2⟩
  have HO2 : Hid (Own w2 lo hi shSubO MM [.int .i64 y0, .int .i64 y1, .bool y2, .int .i64 y3, .int .i64 y4, .int .i64 y5, .int .i64 s0, .int .i64 s1, .int .i64 s2, .slice ua fn uc, .int .i64 c0, .int .i64 c1, .slice va sn vc, .int .i64 k0, .int .i64 k1, .int .i64 k2]) := HM.out w2 (Sh.Ow.keep _ _ _ _ (fun b hb => ht2.block b (by have := HL1.out b hb; omega) (fun h => HDS.out b h hb)) HO1.out) ho2
  have HT2 : Hid (Within lo hi w w2) := HT1.out.trans ⟨ht2.os, ht2.tape, ht2.output, ht2.size, fun b hb hn => ht2.block b hb fun hm => hn (HBD.out b (List.mem_append_right _ hm))⟩
  clear ho2 ht2 H2 HM j0
  go_wp2_with fail
  go_ret
  exact ⟨ret_int (by omega), HO2.out, HT2.out⟩
set_option maxHeartbeats 2000000 in
theorem lHeldSub (x : DSub) (u v : Value) (c : Int) (w : World) (B : Nat) (hr : shSubO.Rd w B (mkSub c x) [.int .i64 x.1, .int .i64 x.2.1, .bool x.2.2.1, .int .i64 x.2.2.2.1, .int .i64 x.2.2.2.2.1, .int .i64 x.2.2.2.2.2.1, .int .i64 x.2.2.2.2.2.2.1.1, .int .i64 x.2.2.2.2.2.2.1.2.1, .int .i64 x.2.2.2.2.2.2.1.2.2.1, u, .int .i64 x.2.2.2.2.2.2.2.1.1, .int .i64 x.2.2.2.2.2.2.2.1.2.1, v, .int .i64 x.2.2.2.2.2.2.2.2.1.1, .int .i64 x.2.2.2.2.2.2.2.2.1.2.1, .int .i64 x.2.2.2.2.2.2.2.2.1.2.2.1]) (hB : B ≤ w.heap.size) (hT : totSub x ≤ 1048576) (hc0 : 0 ≤ c) (hc1 : c ≤ 1000000) :
    Calls Try.prog 72 #[.agg #[.int .i64 x.1, .int .i64 x.2.1, .bool x.2.2.1, .int .i64 x.2.2.2.1, .int .i64 x.2.2.2.2.1, .int .i64 x.2.2.2.2.2.1, .int .i64 x.2.2.2.2.2.2.1.1, .int .i64 x.2.2.2.2.2.2.1.2.1, .int .i64 x.2.2.2.2.2.2.1.2.2.1, u, .int .i64 x.2.2.2.2.2.2.2.1.1, .int .i64 x.2.2.2.2.2.2.2.1.2.1, v, .int .i64 x.2.2.2.2.2.2.2.2.1.1, .int .i64 x.2.2.2.2.2.2.2.2.1.2.1, .int .i64 x.2.2.2.2.2.2.2.2.1.2.2.1], .int .i64 c] w fun e w' => e = .returned (.int .i64 (c + (wtSub x : Nat))) ∧ Below w.heap.size w w' := by
  obtain ⟨y0, y1, y2, y3, y4, y5, ⟨s0, s1, s2, fl, ⟨⟩⟩, ⟨c0, c1, sp, ⟨⟩⟩, ⟨k0, k1, k2, ⟨⟩⟩, ⟨⟩⟩ := x
  simp only at *
  have ht : totSender (s0, s1, s2, fl, ()) + totCatch (c0, c1, sp, ()) ≤ 1048576 := hT
  obtain ⟨u', v', ec, rs, rc, -⟩ := rd_Sub (rdO_Sub hr)
  replace ec : [.int .i64 y0, .int .i64 y1, .bool y2, .int .i64 y3, .int .i64 y4, .int .i64 y5, .int .i64 s0, .int .i64 s1, .int .i64 s2, u, .int .i64 c0, .int .i64 c1, v, .int .i64 k0, .int .i64 k1, .int .i64 k2] = [.int .i64 y0, .int .i64 y1, .bool y2, .int .i64 y3, .int .i64 y4, .int .i64 y5, .int .i64 s0, .int .i64 s1, .int .i64 s2, u', .int .i64 c0, .int .i64 c1, v', .int .i64 k0, .int .i64 k1, .int .i64 k2] := ec
  simp only [List.cons.injEq, and_true, true_and] at ec
  obtain ⟨rfl, rfl⟩ := ec
  replace rs : shSender.Rd w B (mkSender c (s0, s1, s2, fl, ())) [.int .i64 s0, .int .i64 s1, .int .i64 s2, u] := rs
  replace rc : shCatchO.Rd w B (mkCatch (c + (wtSender (s0, s1, s2, fl, ()) : Nat)) (c0, c1, sp, ())) [.int .i64 c0, .int .i64 c1, v] := rc
  obtain ⟨q1, e1, r1, -⟩ := rd_Sender rs
  replace e1 : [.int .i64 s0, .int .i64 s1, .int .i64 s2, u] = [.int .i64 s0, .int .i64 s1, .int .i64 s2, q1] := e1
  simp only [List.cons.injEq, and_true, true_and] at e1
  subst e1
  obtain ⟨ua, uc, e1⟩ := row_form r1
  simp only [List.cons.injEq, and_true] at e1
  subst e1
  obtain ⟨q2, e2, r2, -⟩ := rd_CatchO rc
  replace e2 : [.int .i64 c0, .int .i64 c1, v] = [.int .i64 c0, .int .i64 c1, q2] := e2
  simp only [List.cons.injEq, and_true, true_and] at e2
  subst e2
  obtain ⟨va, vc, e2⟩ := row_formO r2
  simp only [List.cons.injEq, and_true] at e2
  subst e2
  have hw1 := wtS_le (x := (s0, s1, s2, fl, ())) (by omega)
  have hw2 := wtC_le (x := (c0, c1, sp, ())) (by omega)
  have HV : Hid ((wtSub (y0, y1, y2, y3, y4, y5, (s0, s1, s2, fl, ()), (c0, c1, sp, ()), (k0, k1, k2, ()), ()) : Nat) = wtSender (s0, s1, s2, fl, ()) + wtCatch (c0, c1, sp, ())) := rfl
  clear r1 r2 hr
  generalize (mkSender c (s0, s1, s2, fl, ())).2.2.2.1.length = fn at *
  generalize (mkCatch (c + (wtSender (s0, s1, s2, fl, ()) : Nat)) (c0, c1, sp, ())).2.2.1.length = sn at *
  have H1 : Hid (∀ W, Below w.heap.size w W → Calls Try.prog 97 #[.agg #[.int .i64 s0, .int .i64 s1, .int .i64 s2, .slice ua fn uc], .int .i64 c] W fun e w' => e = .returned (.int .i64 (c + (wtSender (s0, s1, s2, fl, ()) : Nat))) ∧ Below W.heap.size W w') := fun W hW => lHeldSender (s0, s1, s2, fl, ()) _ c W B (Sh.Rd.below (s := shSender) rs hB hW) (Nat.le_trans hB hW.size) (by omega) hc0 (by omega)
  have H2 : Hid (∀ W, Below w.heap.size w W → Calls Try.prog 49 #[.agg #[.int .i64 c0, .int .i64 c1, .slice va sn vc], .int .i64 (c + (wtSender (s0, s1, s2, fl, ()) : Nat))] W fun e w' => e = .returned (.int .i64 (c + (wtSender (s0, s1, s2, fl, ()) : Nat) + (wtCatch (c0, c1, sp, ()) : Nat))) ∧ Below W.heap.size W w') := fun W hW => lHeldCatch (c0, c1, sp, ()) _ _ W B (Sh.Rd.below (s := shCatchO) rc hB hW) (Nat.le_trans hB hW.size) (by omega) (by omega) (by omega)
  clear rs rc hT ht
  rw [HV.out]
  clear HV
  generalize wtSender (s0, s1, s2, fl, ()) = q1 at *
  generalize wtCatch (c0, c1, sp, ()) = q2 at *
  have p1 : 0 ≤ c + (q1 : Int) := by omega
  have p2 : 0 ≤ c + (q1 : Int) + (q2 : Int) := by omega
  go_enter Try.func72, Try.ntmps72
  go_wp2_with fail
  refine (H1.out _ (by go_grown)).mono ?_
  rintro e w1 ⟨rfl, hb⟩
  have j0 := bx_new hb
  have HB : Hid (Below w.heap.size w w1) := Below.trans (by go_grown) (hb.mono (by simp))
  clear hb H1
  go_wp2_with fail
  refine (H2.out _ HB.out).mono ?_
  rintro e w2 ⟨rfl, hb⟩
  go_wp2_with fail
  go_ret
  exact ⟨ret_int (by omega), HB.out.trans (hb.mono HB.out.size)⟩
end Go.Proofs.Ytlicopeejphgaan
