/- Marks laid over values of type Catch, and what is held of them; no condition but on lengths. Written by hm.py. -/
import Derived.Test.YtlicopeejphgaanRows
import Derived.Test.YtlicopeejphgaanBase
import Derived.Test.YtlicopeejphgaanBytes
import Derived.Test.YtlicopeejphgaanMem
import Derived.Test.YtlicopeejphgaanMemOpen
import Derived.Test.YtlicopeejphgaanMemRow
import Derived.Test.YtlicopeejphgaanHBase
import Derived.Test.YtlicopeejphgaanHMark
import Derived.Test.YtlicopeejphgaanHCatch
import Derived.Test.YtlicopeejphgaanMSpan
namespace Go.Proofs.Ytlicopeejphgaan
open Go.RowKit
set_option linter.unusedVariables false

abbrev shCatchO : Sh := .cons (.int .i64) (.cons (.int .i64) (.cons shSpansO .nil))
theorem rdO_Catch {w : World} {B : Nat} {x : DCatch} {cs : List Value} (h : shCatchO.Rd w B x cs) : shCatch.Rd w B x cs := h
theorem rd_CatchO {w : World} {B : Nat} {x : DCatch} {cs : List Value} (h : shCatchO.Rd w B x cs) : ∃ v, cs = [.int .i64 x.1, .int .i64 x.2.1, v] ∧ shSpansO.Rd w B x.2.2.1 [v] ∧ (Lit.int .i64 x.1).wf = true ∧ (Lit.int .i64 x.2.1).wf = true := by
  obtain ⟨v, h1, h2, h3⟩ := rd_Catch (rdO_Catch h)
  exact ⟨v, h1, h2, h3⟩
theorem ow_CatchO {w : World} {bs : List Nat} {x : DCatch} {cs : List Value} (h : shCatch.Ow w bs x cs) : shCatchO.Ow w bs x cs := by
  obtain ⟨a0, r0, p0, q0, eb0, ec0, h0, a1, r1, p1, q1, eb1, ec1, h1, a2, r2, p2, q2, eb2, ec2, h2, hz⟩ := h
  exact ⟨a0, r0, p0, q0, eb0, ec0, h0, a1, r1, p1, q1, eb1, ec1, h1, a2, r2, p2, q2, eb2, ec2, ow_rowO h2, hz⟩
theorem Own.catO {w : World} {lo hi : Nat} {x : DCatch} {cs : List Value} (h : Own w lo hi shCatch x cs) : Own w lo hi shCatchO x cs := by
  obtain ⟨bs, h1, h2, h3⟩ := h
  exact ⟨bs, ow_CatchO h1, h2, h3⟩
theorem ow_Catch {w : World} {bs : List Nat} {x : DCatch} {cs : List Value} (h : shCatchO.Ow w bs x cs) : ∃ v, cs = [.int .i64 x.1, .int .i64 x.2.1, v] ∧ shSpansO.Ow w bs x.2.2.1 [v] ∧ (Lit.int .i64 x.1).wf = true ∧ (Lit.int .i64 x.2.1).wf = true := by
  obtain ⟨a0, r0, p0, q0, eb0, ec0, ⟨f0, g0, w0⟩, a1, r1, p1, q1, eb1, ec1, ⟨f1, g1, w1⟩, a2, r2, p2, q2, eb2, ec2, h2, zb, zc⟩ := h
  have l := Sh.Ow.len _ _ _ _ h2
  replace l : p2.length = 1 := l
  match p2, l, h2 with
  | [v], _, h2 =>
    have hb : bs = a2 := by rw [eb0, f0, eb1, f1, eb2, zb]; simp
    refine ⟨v, by rw [ec0, g0, ec1, g1, ec2, zc]; rfl, by rw [hb]; exact h2, w0, w1⟩
theorem mk_Catch {w : World} {bs : List Nat} {y0 y1 : Int} {d : List DSpan} {v : Value} (h : shSpansO.Ow w bs d [v]) (w0 : (Lit.int .i64 y0).wf = true) (w1 : (Lit.int .i64 y1).wf = true) : shCatchO.Ow w bs (y0, y1, d, ()) [.int .i64 y0, .int .i64 y1, v] :=
  ⟨[], bs, [.int .i64 y0], [.int .i64 y1, v], rfl, rfl, ⟨rfl, rfl, w0⟩, ⟨[], bs, [.int .i64 y1], [v], rfl, rfl, ⟨rfl, rfl, w1⟩, ⟨bs, [], [v], [], by simp, rfl, h, ⟨rfl, rfl⟩⟩⟩⟩

def wtCatch (x : DCatch) : Nat := fsum wtSpan x.2.2.1
def mkCatch (c : Int) (x : DCatch) : DCatch := (x.1, x.2.1, mkL mkSpan wtSpan c x.2.2.1, ())
theorem wtCatch_le {x : DCatch} (h : totCatch x ≤ 1048576) : wtCatch x ≤ 1073741824 := by
  unfold wtCatch; rw [wtSpan_sum]; unfold totCatch totSpans at h; omega

set_option maxHeartbeats 2000000 in
theorem lMarkCatch (x : DCatch) (v : Value) (c : Int) (w : World) (lo hi : Nat) (ho : Own w lo hi shCatchO x [.int .i64 x.1, .int .i64 x.2.1, v]) (hT : totCatch x ≤ 1048576) (hc0 : 0 ≤ c) (hc1 : c ≤ 1073741824) :
    Calls Try.prog 15 #[.agg #[.int .i64 x.1, .int .i64 x.2.1, v], .int .i64 c] w fun e w' => e = .returned (.int .i64 (c + (wtCatch x : Nat))) ∧ Own w' lo hi shCatchO (mkCatch c x) [.int .i64 x.1, .int .i64 x.2.1, v] ∧ Within lo hi w w' := by
  obtain ⟨bs, hO, hnd, hbd⟩ := ho
  obtain ⟨vv, ev, hK, wf0, wf1⟩ := ow_Catch hO
  simp only [List.cons.injEq, and_true, true_and] at ev
  subst ev
  obtain ⟨va, vc, ev⟩ := row_formO (Sh.Ow.rd (Nat.le_refl _) _ _ _ _ hK)
  simp only [List.cons.injEq, and_true] at ev
  subst ev
  have HW : Hid (wtCatch x ≤ 1073741824) := wtCatch_le hT
  have hlt : ∀ b ∈ bs, b < w.heap.size := Sh.Ow.lt _ _ _ _ hO
  have HK : Hid (∀ W, Below w.heap.size w W → shSpansO.Ow W bs x.2.2.1 [.slice va x.2.2.1.length vc]) := fun W hW => Sh.Ow.keep _ _ _ _ (fun b hb => hW.block b (hlt b hb)) hK
  have HF : Hid (∀ W, shSpansO.Ow W bs (mkL mkSpan wtSpan c x.2.2.1) [.slice va x.2.2.1.length vc] → shCatchO.Ow W bs (mkCatch c x) [.int .i64 x.1, .int .i64 x.2.1, .slice va x.2.2.1.length vc]) := fun W h => mk_Catch h wf0 wf1
  have HND : Hid _ := hnd
  have HBD : Hid (∀ b ∈ bs, lo ≤ b ∧ b < hi) := hbd
  clear hO hnd hbd hT hlt hK wf0 wf1
  have HC : Hid (∀ W, Below w.heap.size w W → Calls Try.prog 48 #[.slice va x.2.2.1.length vc, .int .i64 c] W fun e w' => e = .returned (.int .i64 (c + (wtCatch x : Nat))) ∧ shSpansO.Ow w' bs (mkL mkSpan wtSpan c x.2.2.1) [.slice va x.2.2.1.length vc] ∧ Touch bs W w') := fun W hW => lMarkSpans x.2.2.1 _ c W bs (HK.out W hW) HND.out HW.out hc0 (by omega)
  have HND' : Hid (bs.Nodup) := HND.out
  clear HK HND
  obtain ⟨M, hM⟩ : ∃ M, M = mkCatch c x := ⟨_, rfl⟩
  rw [← hM] at HF ⊢
  clear hM
  generalize wtCatch x = wq at *
  generalize mkL mkSpan wtSpan c x.2.2.1 = ML at *
  generalize x.1 = y0 at *
  generalize x.2.1 = y1 at *
  generalize x.2.2.1.length = n at *
  go_enter Try.func15, Try.ntmps15
  go_wp2_with fail
  refine (HC.out _ (by go_grown)).mono ?_
  rintro e w1 ⟨rfl, ho1, ht1⟩
  have HO1 : Hid (Own w1 lo hi shCatchO M [.int .i64 y0, .int .i64 y1, .slice va n vc]) := ⟨bs, HF.out w1 ho1, HND'.out, HBD.out⟩
  have HW1 : Hid (Within lo hi w w1) := (Within.below ((Below.refl _ _).alloc (Nat.le_refl _) _)).trans ⟨ht1.os, ht1.tape, ht1.output, ht1.size, fun b hb hn => ht1.block b hb fun hm => hn (HBD.out b hm)⟩
  clear ho1 ht1
  go_wp2_with fail
  go_ret
  exact ⟨rfl, HO1.out, HW1.out⟩
set_option maxHeartbeats 2000000 in
theorem lHeldCatch (x : DCatch) (v : Value) (c : Int) (w : World) (B : Nat) (hr : shCatchO.Rd w B (mkCatch c x) [.int .i64 x.1, .int .i64 x.2.1, v]) (hB : B ≤ w.heap.size) (hT : totCatch x ≤ 1048576) (hc0 : 0 ≤ c) (hc1 : c ≤ 1073741824) :
    Calls Try.prog 49 #[.agg #[.int .i64 x.1, .int .i64 x.2.1, v], .int .i64 c] w fun e w' => e = .returned (.int .i64 (c + (wtCatch x : Nat))) ∧ Below w.heap.size w w' := by
  obtain ⟨vv, ev, rk, -⟩ := rd_CatchO hr
  replace ev : [.int .i64 x.1, .int .i64 x.2.1, v] = [.int .i64 x.1, .int .i64 x.2.1, vv] := ev
  simp only [List.cons.injEq, and_true, true_and] at ev
  subst ev
  replace rk : shSpansO.Rd w B (mkL mkSpan wtSpan c x.2.2.1) [v] := rk
  obtain ⟨va, vc, ev⟩ := row_formO rk
  rw [mkL_length] at ev
  simp only [List.cons.injEq, and_true] at ev
  subst ev
  have HC : Hid (∀ W, Below w.heap.size w W → Calls Try.prog 84 #[.slice va x.2.2.1.length vc, .int .i64 c] W fun e w' => e = .returned (.int .i64 (c + (wtCatch x : Nat))) ∧ Below W.heap.size W w') := fun W hW => by
    refine (lHeldSpans x.2.2.1 _ c W B (rk.below hB hW) (wtCatch_le hT) hc0 (by omega)).mono ?_
    rintro e w' ⟨rfl, hw⟩
    exact ⟨rfl, by rw [hw]; exact Below.refl _ _⟩
  clear hr rk hT hB
  generalize wtCatch x = wq at *
  generalize x.1 = y0 at *
  generalize x.2.1 = y1 at *
  generalize x.2.2.1.length = n at *
  have hp : 0 ≤ c + (wq : Int) := by omega
  go_enter Try.func49, Try.ntmps49
  go_wp2_with fail
  refine (HC.out _ (by go_grown)).mono ?_
  rintro e w1 ⟨rfl, hb⟩
  go_wp2_with fail
  go_ret
  exact ⟨rfl, Below.trans (by go_grown) (hb.mono (by simp))⟩
set_option maxHeartbeats 2000000 in
theorem lMarkCatchResult (q : Int) (fr : Bool) (x : DCatch) (v : Value) (c : Int) (w : World) (lo hi : Nat) (ho : Own w lo hi shCatchO x [.int .i64 x.1, .int .i64 x.2.1, v]) (hhi : hi ≤ w.heap.size) (hT : totCatch x ≤ 1048576) (hc0 : 0 ≤ c) (hc1 : c ≤ 1073741824) :
    Calls Try.prog 16 #[.agg #[.int .i64 q, .bool fr, .int .i64 x.1, .int .i64 x.2.1, v], .int .i64 c] w fun e w' => e = .returned (.int .i64 (c + (wtCatch x : Nat))) ∧ Own w' lo hi shCatchO (mkCatch c x) [.int .i64 x.1, .int .i64 x.2.1, v] ∧ Within lo hi w w' := by
  obtain ⟨vv, ev, rk, -⟩ := rd_CatchO (ho.rd (Nat.le_refl _))
  simp only [List.cons.injEq, and_true, true_and] at ev
  subst ev
  obtain ⟨va, vc, ev⟩ := row_formO rk
  simp only [List.cons.injEq, and_true] at ev
  subst ev
  have HC : Hid (∀ W, Below w.heap.size w W → Calls Try.prog 15 #[.agg #[.int .i64 x.1, .int .i64 x.2.1, .slice va x.2.2.1.length vc], .int .i64 c] W fun e w' => e = .returned (.int .i64 (c + (wtCatch x : Nat))) ∧ Own w' lo hi shCatchO (mkCatch c x) [.int .i64 x.1, .int .i64 x.2.1, .slice va x.2.2.1.length vc] ∧ Within lo hi W w') := fun W hW => lMarkCatch x _ c W lo hi (Own.keep ho fun b h1 h2 => hW.block b (by omega)) hT hc0 hc1
  clear ho rk
  generalize mkCatch c x = M at *
  generalize wtCatch x = wq at *
  generalize x.1 = y0 at *
  generalize x.2.1 = y1 at *
  generalize x.2.2.1.length = n at *
  go_enter Try.func16, Try.ntmps16
  go_wp2_with fail
  refine (HC.out _ (by go_grown)).mono ?_
  rintro e w1 ⟨rfl, ho1, hw1⟩
  have HO1 : Hid _ := ho1
  have HW1 : Hid (Within lo hi w w1) := (Within.below ((Below.refl _ _).alloc (Nat.le_refl _) _)).trans hw1
  clear ho1 hw1
  go_wp2_with fail
  go_ret
  exact ⟨rfl, HO1.out, HW1.out⟩
set_option maxHeartbeats 2000000 in
theorem lHeldCatchResult (q : Int) (fr : Bool) (x : DCatch) (v : Value) (c : Int) (w : World) (B : Nat) (hr : shCatchO.Rd w B (mkCatch c x) [.int .i64 x.1, .int .i64 x.2.1, v]) (hB : B ≤ w.heap.size) (hT : totCatch x ≤ 1048576) (hc0 : 0 ≤ c) (hc1 : c ≤ 1073741824) :
    Calls Try.prog 17 #[.agg #[.int .i64 q, .bool fr, .int .i64 x.1, .int .i64 x.2.1, v], .int .i64 c] w fun e w' => e = .returned (.int .i64 (c + (wtCatch x : Nat))) ∧ Below w.heap.size w w' := by
  obtain ⟨vv, ev, rk, -⟩ := rd_CatchO hr
  replace ev : [.int .i64 x.1, .int .i64 x.2.1, v] = [.int .i64 x.1, .int .i64 x.2.1, vv] := ev
  simp only [List.cons.injEq, and_true, true_and] at ev
  subst ev
  replace rk : shSpansO.Rd w B (mkL mkSpan wtSpan c x.2.2.1) [v] := rk
  obtain ⟨va, vc, ev⟩ := row_formO rk
  rw [mkL_length] at ev
  simp only [List.cons.injEq, and_true] at ev
  subst ev
  have HC : Hid (∀ W, Below w.heap.size w W → Calls Try.prog 49 #[.agg #[.int .i64 x.1, .int .i64 x.2.1, .slice va x.2.2.1.length vc], .int .i64 c] W fun e w' => e = .returned (.int .i64 (c + (wtCatch x : Nat))) ∧ Below W.heap.size W w') := fun W hW => lHeldCatch x _ c W B (hr.below hB hW) (Nat.le_trans hB hW.size) hT hc0 hc1
  clear hr rk hT hB
  generalize wtCatch x = wq at *
  generalize x.1 = y0 at *
  generalize x.2.1 = y1 at *
  generalize x.2.2.1.length = n at *
  have hp : 0 ≤ c + (wq : Int) := by omega
  go_enter Try.func17, Try.ntmps17
  go_wp2_with fail
  refine (HC.out _ (by go_grown)).mono ?_
  rintro e w1 ⟨rfl, hb⟩
  go_wp2_with fail
  go_ret
  exact ⟨rfl, Below.trans (by go_grown) (hb.mono (by simp))⟩
set_option maxHeartbeats 2000000 in
theorem lEqCatchResult (q : Int) (fr : Bool) (x : DCatch) (v u : Value) (w : World) (B : Nat) (hr : shCatchO.Rd w B x [.int .i64 x.1, .int .i64 x.2.1, v]) (hr' : shCatchO.Rd w B x [.int .i64 x.1, .int .i64 x.2.1, u]) (hB : B ≤ w.heap.size) (hT : totCatch x ≤ 1048576) :
    Calls Try.prog 13 #[.agg #[.int .i64 q, .bool fr, .int .i64 x.1, .int .i64 x.2.1, v], .agg #[.int .i64 q, .bool fr, .int .i64 x.1, .int .i64 x.2.1, u]] w fun e w' => e = .returned (.bool true) ∧ Below w.heap.size w w' := by
  obtain ⟨vv, ev, rk, -⟩ := rd_CatchO hr
  simp only [List.cons.injEq, and_true, true_and] at ev
  subst ev
  obtain ⟨va, vc, ev⟩ := row_formO rk
  simp only [List.cons.injEq, and_true] at ev
  subst ev
  obtain ⟨vv, ev, rk', -⟩ := rd_CatchO hr'
  simp only [List.cons.injEq, and_true, true_and] at ev
  subst ev
  obtain ⟨ua, uc, ev⟩ := row_formO rk'
  simp only [List.cons.injEq, and_true] at ev
  subst ev
  have HC : Hid (∀ W, Below w.heap.size w W → Calls Try.prog 14 #[.agg #[.int .i64 x.1, .int .i64 x.2.1, .slice va x.2.2.1.length vc], .agg #[.int .i64 x.1, .int .i64 x.2.1, .slice ua x.2.2.1.length uc]] W fun e w' => e = .returned (.bool true) ∧ Below W.heap.size W w') := fun W hW => lEqCatch x _ _ W B (rdO_Catch (hr.below hB hW)) (rdO_Catch (hr'.below hB hW)) (Nat.le_trans hB hW.size) hT
  clear hr hr' rk rk' hT
  generalize x.1 = y0 at *
  generalize x.2.1 = y1 at *
  generalize x.2.2.1.length = n at *
  go_enter Try.func13, Try.ntmps13
  go_wp2_with fail
  refine (HC.out _ (by go_grown)).mono ?_
  rintro e w1 ⟨rfl, hb1⟩
  go_wp2_with fail
  go_ret
  exact ⟨rfl, Below.trans (by go_grown) (hb1.mono (by simp; omega))⟩
end Go.Proofs.Ytlicopeejphgaan
