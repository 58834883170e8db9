/- Marks laid over values of type Sender, and what is held of them; no condition but on lengths. Written by hm.py. -/
import Derived.Test.YtlicopeejphgaanRows
import Derived.Test.YtlicopeejphgaanBase
import Derived.Test.YtlicopeejphgaanBytes
import Derived.Test.YtlicopeejphgaanMem
import Derived.Test.YtlicopeejphgaanMemOpen
import Derived.Test.YtlicopeejphgaanMemRow
import Derived.Test.YtlicopeejphgaanHBase
import Derived.Test.YtlicopeejphgaanHMark
import Derived.Test.YtlicopeejphgaanHSender
import Derived.Test.YtlicopeejphgaanMFlight
namespace Go.Proofs.Ytlicopeejphgaan
open Go.RowKit
set_option linter.unusedVariables false

theorem ow_Sender {w : World} {bs : List Nat} {x : DSender} {cs : List Value} (h : shSender.Ow w bs x cs) : ∃ v, cs = [.int .i64 x.1, .int .i64 x.2.1, .int .i64 x.2.2.1, v] ∧ shFlights.Ow w bs x.2.2.2.1 [v] ∧ (Lit.int .i64 x.1).wf = true ∧ (Lit.int .i64 x.2.1).wf = true ∧ (Lit.int .i64 x.2.2.1).wf = true := by
  obtain ⟨a0, r0, p0, q0, eb0, ec0, ⟨f0, g0, w0⟩, a1, r1, p1, q1, eb1, ec1, ⟨f1, g1, w1⟩, a2, r2, p2, q2, eb2, ec2, ⟨f2, g2, w2⟩, a3, r3, p3, q3, eb3, ec3, h3, zb, zc⟩ := h
  have l := Sh.Ow.len _ _ _ _ h3
  replace l : p3.length = 1 := l
  match p3, l, h3 with
  | [v], _, h3 =>
    have hb : bs = a3 := by rw [eb0, f0, eb1, f1, eb2, f2, eb3, zb]; simp
    refine ⟨v, by rw [ec0, g0, ec1, g1, ec2, g2, ec3, zc]; rfl, by rw [hb]; exact h3, w0, w1, w2⟩
theorem mk_Sender {w : World} {bs : List Nat} {y0 y1 y2 : Int} {d : List DFlight} {v : Value} (h : shFlights.Ow w bs d [v]) (w0 : (Lit.int .i64 y0).wf = true) (w1 : (Lit.int .i64 y1).wf = true) (w2 : (Lit.int .i64 y2).wf = true) : shSender.Ow w bs (y0, y1, y2, d, ()) [.int .i64 y0, .int .i64 y1, .int .i64 y2, v] :=
  ⟨[], bs, [.int .i64 y0], [.int .i64 y1, .int .i64 y2, v], rfl, rfl, ⟨rfl, rfl, w0⟩, ⟨[], bs, [.int .i64 y1], [.int .i64 y2, v], rfl, rfl, ⟨rfl, rfl, w1⟩, ⟨[], bs, [.int .i64 y2], [v], rfl, rfl, ⟨rfl, rfl, w2⟩, ⟨bs, [], [v], [], by simp, rfl, h, ⟨rfl, rfl⟩⟩⟩⟩⟩

def wtSender (x : DSender) : Nat := fsum wtFlight x.2.2.2.1
def mkSender (c : Int) (x : DSender) : DSender := (x.1, x.2.1, x.2.2.1, mkL mkFlight wtFlight c x.2.2.2.1, ())
theorem wtSender_le {x : DSender} (h : totSender x ≤ 1048576) : wtSender x ≤ 1073741824 := by
  unfold wtSender; rw [wtFlight_sum]; unfold totSender totFlights at h; omega

set_option maxHeartbeats 2000000 in
theorem lMarkSender (x : DSender) (v : Value) (c : Int) (w : World) (lo hi : Nat) (ho : Own w lo hi shSender x [.int .i64 x.1, .int .i64 x.2.1, .int .i64 x.2.2.1, v]) (hT : totSender x ≤ 1048576) (hc0 : 0 ≤ c) (hc1 : c ≤ 1073741824) :
    Calls Try.prog 96 #[.agg #[.int .i64 x.1, .int .i64 x.2.1, .int .i64 x.2.2.1, v], .int .i64 c] w fun e w' => e = .returned (.int .i64 (c + (wtSender x : Nat))) ∧ Own w' lo hi shSender (mkSender c x) [.int .i64 x.1, .int .i64 x.2.1, .int .i64 x.2.2.1, v] ∧ Within lo hi w w' := by
  obtain ⟨bs, hO, hnd, hbd⟩ := ho
  obtain ⟨vv, ev, hK, wf0, wf1, wf2⟩ := ow_Sender hO
  simp only [List.cons.injEq, and_true, true_and] at ev
  subst ev
  obtain ⟨va, vc, ev⟩ := row_form (Sh.Ow.rd (Nat.le_refl _) _ _ _ _ hK)
  simp only [List.cons.injEq, and_true] at ev
  subst ev
  have HW : Hid (wtSender x ≤ 1073741824) := wtSender_le hT
  have hlt : ∀ b ∈ bs, b < w.heap.size := Sh.Ow.lt _ _ _ _ hO
  have HK : Hid (∀ W, Below w.heap.size w W → shFlights.Ow W bs x.2.2.2.1 [.slice va x.2.2.2.1.length vc]) := fun W hW => Sh.Ow.keep _ _ _ _ (fun b hb => hW.block b (hlt b hb)) hK
  have HF : Hid (∀ W, shFlights.Ow W bs (mkL mkFlight wtFlight c x.2.2.2.1) [.slice va x.2.2.2.1.length vc] → shSender.Ow W bs (mkSender c x) [.int .i64 x.1, .int .i64 x.2.1, .int .i64 x.2.2.1, .slice va x.2.2.2.1.length vc]) := fun W h => mk_Sender h wf0 wf1 wf2
  have HND : Hid _ := hnd
  have HBD : Hid (∀ b ∈ bs, lo ≤ b ∧ b < hi) := hbd
  clear hO hnd hbd hT hlt hK wf0 wf1 wf2
  have HC : Hid (∀ W, Below w.heap.size w W → Calls Try.prog 110 #[.slice va x.2.2.2.1.length vc, .int .i64 c] W fun e w' => e = .returned (.int .i64 (c + (wtSender x : Nat))) ∧ shFlights.Ow w' bs (mkL mkFlight wtFlight c x.2.2.2.1) [.slice va x.2.2.2.1.length vc] ∧ Touch bs W w') := fun W hW => lMarkFlights x.2.2.2.1 _ c W bs (HK.out W hW) HND.out HW.out hc0 (by omega)
  have HND' : Hid (bs.Nodup) := HND.out
  clear HK HND
  obtain ⟨M, hM⟩ : ∃ M, M = mkSender c x := ⟨_, rfl⟩
  rw [← hM] at HF ⊢
  clear hM
  generalize wtSender x = wq at *
  generalize mkL mkFlight wtFlight c x.2.2.2.1 = ML at *
  generalize x.1 = y0 at *
  generalize x.2.1 = y1 at *
  generalize x.2.2.1 = y2 at *
  generalize x.2.2.2.1.length = n at *
  go_enter Try.func96, Try.ntmps96
  go_wp2_with fail
  refine (HC.out _ (by go_grown)).mono ?_
  rintro e w1 ⟨rfl, ho1, ht1⟩
  have HO1 : Hid (Own w1 lo hi shSender M [.int .i64 y0, .int .i64 y1, .int .i64 y2, .slice va n vc]) := ⟨bs, HF.out w1 ho1, HND'.out, HBD.out⟩
  have HW1 : Hid (Within lo hi w w1) := (Within.below ((Below.refl _ _).alloc (Nat.le_refl _) _)).trans ⟨ht1.os, ht1.tape, ht1.output, ht1.size, fun b hb hn => ht1.block b hb fun hm => hn (HBD.out b hm)⟩
  clear ho1 ht1
  go_wp2_with fail
  go_ret
  exact ⟨rfl, HO1.out, HW1.out⟩
set_option maxHeartbeats 2000000 in
theorem lHeldSender (x : DSender) (v : Value) (c : Int) (w : World) (B : Nat) (hr : shSender.Rd w B (mkSender c x) [.int .i64 x.1, .int .i64 x.2.1, .int .i64 x.2.2.1, v]) (hB : B ≤ w.heap.size) (hT : totSender x ≤ 1048576) (hc0 : 0 ≤ c) (hc1 : c ≤ 1073741824) :
    Calls Try.prog 97 #[.agg #[.int .i64 x.1, .int .i64 x.2.1, .int .i64 x.2.2.1, v], .int .i64 c] w fun e w' => e = .returned (.int .i64 (c + (wtSender x : Nat))) ∧ Below w.heap.size w w' := by
  obtain ⟨vv, ev, rk, -⟩ := rd_Sender hr
  replace ev : [.int .i64 x.1, .int .i64 x.2.1, .int .i64 x.2.2.1, v] = [.int .i64 x.1, .int .i64 x.2.1, .int .i64 x.2.2.1, vv] := ev
  simp only [List.cons.injEq, and_true, true_and] at ev
  subst ev
  replace rk : shFlights.Rd w B (mkL mkFlight wtFlight c x.2.2.2.1) [v] := rk
  obtain ⟨va, vc, ev⟩ := row_form rk
  rw [mkL_length] at ev
  simp only [List.cons.injEq, and_true] at ev
  subst ev
  have HC : Hid (∀ W, Below w.heap.size w W → Calls Try.prog 111 #[.slice va x.2.2.2.1.length vc, .int .i64 c] W fun e w' => e = .returned (.int .i64 (c + (wtSender x : Nat))) ∧ Below W.heap.size W w') := fun W hW => by
    refine (lHeldFlights x.2.2.2.1 _ c W B (rk.below hB hW) (wtSender_le hT) hc0 (by omega)).mono ?_
    rintro e w' ⟨rfl, hw⟩
    exact ⟨rfl, by rw [hw]; exact Below.refl _ _⟩
  clear hr rk hT hB
  generalize wtSender x = wq at *
  generalize x.1 = y0 at *
  generalize x.2.1 = y1 at *
  generalize x.2.2.1 = y2 at *
  generalize x.2.2.2.1.length = n at *
  have hp : 0 ≤ c + (wq : Int) := by omega
  go_enter Try.func97, Try.ntmps97
  go_wp2_with fail
  refine (HC.out _ (by go_grown)).mono ?_
  rintro e w1 ⟨rfl, hb⟩
  go_wp2_with fail
  go_ret
  exact ⟨rfl, Below.trans (by go_grown) (hb.mono (by simp))⟩
end Go.Proofs.Ytlicopeejphgaan
