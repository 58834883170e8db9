/- Proved: at every catch the program's CatchFault answers as its model does, and the catch is as it was; no condition. -/
import Derived.Test.YtmiomnpfjigojamRows
import Derived.WalkKit
import Derived.ProofKit
import Derived.OpenShut
import Derived.ShutString
import Derived.ChangeOld
import Derived.Below
import Derived.Test.YtmiomnpfjigojamBase
import Derived.Test.YtmiomnpfjigojamBytes
import Derived.Test.YtmiomnpfjigojamMem
import Derived.Test.YtmiomnpfjigojamMemOpen
import Derived.Test.YtmiomnpfjigojamMemRow
import Derived.Test.YtmiomnpfjigojamHBase
import Derived.Test.YtmiomnpfjigojamHSpan
import Derived.Test.YtmiomnpfjigojamHCatch
import Derived.Test.YtmiomnpfjigojamHOpen0
import Derived.Test.YtmiomnpfjigojamHOpenC
import Derived.Test.YtmiomnpfjigojamBox
import Derived.Test.YtmiomnpfjigojamNum
import Derived.Test.YtmiomnpfjigojamNumWalks
import Derived.Test.YtmiomnpfjigojamUnwrap
import Derived.Test.YtmiomnpfjigojamCatDef
import Derived.Test.YtmiomnpfjigojamCatSpec
import Derived.Test.YtmiomnpfjigojamCatImpl
namespace Go.Proofs.Ytmiomnpfjigojam.fnExactCatchFault
open Go.ChangeShapes Go.WideShapes Go.ChangeAt Go.RowKit
set_option linter.unusedVariables false

theorem own : ownKnob Try.prog.godebug = none := by kernel_rfl
theorem laidOut : laidOutB Try.prog = true := by kernel_rfl


set_option maxHeartbeats 2000000 in
set_option maxRecDepth 8000 in
theorem walk {H : Type} (enc : TypeId × Value → H) (v0 : Value) (w : World) (base : Nat)
    (o0 : Value.okWide Try.prog w .any base 43 v0) (t0 : ∃ n y, DataW.trod enc Try.prog w 0 (fun _ => true) true n 43 v0.cells.toList = some y) :
    Calls Try.prog 7 #[v0] w fun e w' => e = .returned (.bool true) ∧ Below w.heap.size w w' := by
  obtain ⟨g0, y0a, rfl, ho⟩ := open_Catch o0 t0
  obtain ⟨p0v, e5, r5, -⟩ := rd_Catch ho
  simp only [List.cons.injEq, and_true, true_and] at e5
  subst e5
  obtain ⟨p0a, p0ac, e5⟩ := row_form r5
  simp only [List.cons.injEq, and_true] at e5
  subst e5
  clear r5
  have P0 : Hid (shCatch.Rd w w.heap.size g0 [.int .i64 g0.1, .int .i64 g0.2.1, .slice p0a g0.2.2.1.length p0ac]) := ho
  clear ho
  clear o0 t0
  have HW : Hid (Below w.heap.size w w) := Below.refl _ _
  obtain ⟨T0, hT0⟩ : ∃ T : Nat, T = totCatch g0 := ⟨_, rfl⟩
  by_cases hbig0 : (1048576 : Int) < (T0 : Int)
  · go_enter Try.func7, Try.ntmps7
    go_wp2_with fail
    have c := fun W R hB => lSzCatch g0 (.slice p0a g0.2.2.1.length p0ac) 1048576 W w.heap.size R hB (by omega) (by omega)
    rw [← hT0, if_pos (show (1048576 : Int) < (T0 : Int) by omega)] at c
    refine (c _ (Sh.Rd.below (C := w.heap.size) P0.out (by first | omega | (simp; done) | (simp; omega)) (by first | exact Below.refl _ _ | go_grown | exact Below.drew (Below.refl _ _))) (by first | omega | (simp; done) | (simp; omega))).mono ?_
    rintro e w1 ⟨rfl, hb⟩
    clear c
    have B1_0 := bx_new hb
    obtain ⟨hb, S1_0⟩ := bl_new hb
    have Z1 : Hid (w.heap.size < w1.heap.size) := S1_0
    replace P0 : Hid (shCatch.Rd w1 w.heap.size g0 [.int .i64 g0.1, .int .i64 g0.2.1, .slice p0a g0.2.2.1.length p0ac]) := Sh.Rd.below P0.out (by have := Z1.out; omega) hb
    replace HW : Hid _ := HW.out.trans (hb.mono HW.out.size)
    clear hb
    go_wp2_with fail
    go_ret
    exact ⟨rfl, HW.out⟩
  · skip
    go_enter Try.func7, Try.ntmps7
    go_wp2_with fail
    have c := fun W R hB => lSzCatch g0 (.slice p0a g0.2.2.1.length p0ac) 1048576 W w.heap.size R hB (by omega) (by omega)
    rw [← hT0, if_neg (show ¬ ((1048576 : Int) < (T0 : Int)) by omega)] at c
    refine (c _ (Sh.Rd.below (C := w.heap.size) P0.out (by first | omega | (simp; done) | (simp; omega)) (by first | exact Below.refl _ _ | go_grown | exact Below.drew (Below.refl _ _))) (by first | omega | (simp; done) | (simp; omega))).mono ?_
    rintro e w1 ⟨rfl, hb⟩
    clear c
    have B1_0 := bx_new hb
    obtain ⟨hb, S1_0⟩ := bl_new hb
    have Z1 : Hid (w.heap.size < w1.heap.size) := S1_0
    replace P0 : Hid (shCatch.Rd w1 w.heap.size g0 [.int .i64 g0.1, .int .i64 g0.2.1, .slice p0a g0.2.2.1.length p0ac]) := Sh.Rd.below P0.out (by have := Z1.out; omega) hb
    replace HW : Hid _ := HW.out.trans (hb.mono HW.out.size)
    clear hb
    have hrest : ¬ ((1048576 : Int) - (T0 : Int) < 0) := by omega
    go_wp2_with fail
    refine (lToCatch g0 (.slice p0a g0.2.2.1.length p0ac) _ w.heap.size (Sh.Rd.below (C := w1.heap.size) P0.out (by have := Z1.out; first | omega | (simp; done) | (simp; omega)) (by first | exact Below.refl _ _ | go_grown | exact Below.drew (Below.refl _ _))) (by have := Z1.out; first | omega | (simp; done) | (simp; omega)) (by omega)).mono ?_
    rintro e w2 ⟨u2a, rfl, ho, hb⟩
    obtain ⟨q2v, e5, r5, -⟩ := rd_Catch (ho.rd (Nat.le_refl _))
    simp only [List.cons.injEq, and_true, true_and] at e5
    subst e5
    obtain ⟨q2a, q2ac, e5⟩ := row_form r5
    simp only [List.cons.injEq, and_true] at e5
    subst e5
    clear r5
    have X2 : Hid (Own w2 (w1.heap.size) w2.heap.size shCatch g0 [.int .i64 g0.1, .int .i64 g0.2.1, .slice q2a g0.2.2.1.length q2ac]) := Own.mono ho (by first | exact Nat.le_refl _ | (simp; done) | (simp; omega)) (Nat.le_refl _)
    clear ho
    have Z2 : Hid (w1.heap.size ≤ w2.heap.size) := hb.size
    replace B1_0 := bx_below B1_0 S1_0 hb
    replace S1_0 := Nat.lt_of_lt_of_le S1_0 hb.size
    replace P0 : Hid (shCatch.Rd w2 w.heap.size g0 [.int .i64 g0.1, .int .i64 g0.2.1, .slice p0a g0.2.2.1.length p0ac]) := Sh.Rd.below P0.out (by have := Z1.out; have := Z2.out; omega) hb
    replace HW : Hid _ := HW.out.trans (hb.mono HW.out.size)
    clear hb
    go_wp2_with fail
    refine (sCatchFault g0 (.slice q2a g0.2.2.1.length q2ac) _ _ (Sh.Rd.mono (by have := Z1.out; have := Z2.out; first | exact Nat.le_refl _ | omega | (simp; done) | (simp; omega)) _ _ _ (Sh.Rd.below (B := w2.heap.size) (C := w2.heap.size) (Own.rd X2.out (Nat.le_refl _)) (Nat.le_refl _) (by first | exact Below.refl _ _ | go_grown | exact Below.drew (Below.refl _ _)))) (Nat.le_refl _) (by omega)).mono ?_
    rintro e w3 ⟨rfl, hb⟩
    have Z3 : Hid (w2.heap.size ≤ w3.heap.size) := hb.size
    replace B1_0 := bx_below B1_0 S1_0 hb
    replace S1_0 := Nat.lt_of_lt_of_le S1_0 hb.size
    replace P0 : Hid (shCatch.Rd w3 w.heap.size g0 [.int .i64 g0.1, .int .i64 g0.2.1, .slice p0a g0.2.2.1.length p0ac]) := Sh.Rd.below P0.out (by have := Z1.out; have := Z2.out; have := Z3.out; omega) hb
    replace X2 : Hid _ := Own.below X2.out (by have := Z1.out; have := Z2.out; have := Z3.out; omega) hb
    replace HW : Hid _ := HW.out.trans (hb.mono HW.out.size)
    clear hb
    clear X2
    go_wp2_with fail
    refine (lToCatch g0 (.slice p0a g0.2.2.1.length p0ac) _ w.heap.size (Sh.Rd.below (C := w3.heap.size) P0.out (by have := Z1.out; have := Z2.out; have := Z3.out; first | omega | (simp; done) | (simp; omega)) (by first | exact Below.refl _ _ | go_grown | exact Below.drew (Below.refl _ _))) (by have := Z1.out; have := Z2.out; have := Z3.out; first | omega | (simp; done) | (simp; omega)) (by omega)).mono ?_
    rintro e w4 ⟨u4a, rfl, ho, hb⟩
    obtain ⟨q4v, e5, r5, -⟩ := rd_Catch (ho.rd (Nat.le_refl _))
    simp only [List.cons.injEq, and_true, true_and] at e5
    subst e5
    obtain ⟨q4a, q4ac, e5⟩ := row_form r5
    simp only [List.cons.injEq, and_true] at e5
    subst e5
    clear r5
    have X4 : Hid (Own w4 (w3.heap.size) w4.heap.size shCatch g0 [.int .i64 g0.1, .int .i64 g0.2.1, .slice q4a g0.2.2.1.length q4ac]) := Own.mono ho (by first | exact Nat.le_refl _ | (simp; done) | (simp; omega)) (Nat.le_refl _)
    clear ho
    have Z4 : Hid (w3.heap.size ≤ w4.heap.size) := hb.size
    replace B1_0 := bx_below B1_0 S1_0 hb
    replace S1_0 := Nat.lt_of_lt_of_le S1_0 hb.size
    replace P0 : Hid (shCatch.Rd w4 w.heap.size g0 [.int .i64 g0.1, .int .i64 g0.2.1, .slice p0a g0.2.2.1.length p0ac]) := Sh.Rd.below P0.out (by have := Z1.out; have := Z2.out; have := Z3.out; have := Z4.out; omega) hb
    replace HW : Hid _ := HW.out.trans (hb.mono HW.out.size)
    clear hb
    go_wp2_with fail
    refine (iCatchFault g0 (.slice q4a g0.2.2.1.length q4ac) _ _ (Sh.Rd.mono (by have := Z1.out; have := Z2.out; have := Z3.out; have := Z4.out; first | exact Nat.le_refl _ | omega | (simp; done) | (simp; omega)) _ _ _ (Sh.Rd.below (B := w4.heap.size) (C := w4.heap.size) (Own.rd X4.out (Nat.le_refl _)) (Nat.le_refl _) (by first | exact Below.refl _ _ | go_grown | exact Below.drew (Below.refl _ _)))) (Nat.le_refl _) (by omega)).mono ?_
    rintro e w5 ⟨rfl, hb⟩
    have B5_0 := bx_new hb
    obtain ⟨hb, S5_0⟩ := bl_new hb
    have Z5 : Hid (w4.heap.size < w5.heap.size) := S5_0
    replace B1_0 := bx_below B1_0 S1_0 hb
    replace S1_0 := Nat.lt_of_lt_of_le S1_0 hb.size
    replace P0 : Hid (shCatch.Rd w5 w.heap.size g0 [.int .i64 g0.1, .int .i64 g0.2.1, .slice p0a g0.2.2.1.length p0ac]) := Sh.Rd.below P0.out (by have := Z1.out; have := Z2.out; have := Z3.out; have := Z4.out; have := Z5.out; omega) hb
    replace X4 : Hid _ := Own.below X4.out (by have := Z1.out; have := Z2.out; have := Z3.out; have := Z4.out; have := Z5.out; omega) hb
    replace HW : Hid _ := HW.out.trans (hb.mono HW.out.size)
    clear hb
    go_wp2_with fail
    have HX : Hid (∀ W, Below w5.heap.size w5 W → shCatch.Rd W w5.heap.size g0 [.int .i64 g0.1, .int .i64 g0.2.1, .slice q4a g0.2.2.1.length q4ac]) := fun W hW => Sh.Rd.below (Own.rd X4.out (Nat.le_refl _)) (Nat.le_refl _) hW
    go_cut [26] (fun u wx => u = .bool false ∧ Below w5.heap.size w5 wx)
    case first =>
      go_region_with (first
        | (go_at_call 24; refine (lToCatch g0 (.slice p0a g0.2.2.1.length p0ac) _ w.heap.size (Sh.Rd.below (C := w5.heap.size) P0.out (by have := Z1.out; have := Z2.out; have := Z3.out; have := Z4.out; have := Z5.out; first | omega | (simp; done) | (simp; omega)) (by first | exact Below.refl _ _ | go_grown | exact Below.drew (Below.refl _ _))) (by have := Z1.out; have := Z2.out; have := Z3.out; have := Z4.out; have := Z5.out; first | omega | (simp; done) | (simp; omega)) (by omega)).mono ?_; rintro e w6 ⟨u6a, rfl, ho, hb⟩; obtain ⟨q6v, e5, r5, -⟩ := rd_Catch (ho.rd (Nat.le_refl _)); simp only [List.cons.injEq, and_true, true_and] at e5; subst e5; obtain ⟨q6a, q6ac, e5⟩ := row_form r5; simp only [List.cons.injEq, and_true] at e5; subst e5; clear r5; replace hb := bl_drew hb; have HB : Hid _ := hb; have HR : Hid (shCatch.Rd w6 w6.heap.size g0 [.int .i64 g0.1, .int .i64 g0.2.1, .slice q6a g0.2.2.1.length q6ac]) := Own.rd ho (Nat.le_refl _); replace B1_0 := bx_below B1_0 S1_0 hb; replace S1_0 := Nat.lt_of_lt_of_le S1_0 hb.size; replace B5_0 := bx_below B5_0 S5_0 hb; replace S5_0 := Nat.lt_of_lt_of_le S5_0 hb.size; clear ho hb)
        | (go_at_call 26; refine (lEqCatch g0 (.slice q4a g0.2.2.1.length q4ac) (.slice q6a g0.2.2.1.length q6ac) _ _ (Sh.Rd.mono HB.out.size _ _ _ (HX.out _ HB.out)) HR.out (Nat.le_refl _) (by omega)).mono ?_; rintro e w' ⟨rfl, hb⟩; have HC : Hid _ := hb; clear hb))
      all_goals (go_wp2_with fail; go_meet; exact ⟨rfl, HB.out.trans (HC.out.mono HB.out.size)⟩)
    case rest =>
    rename World => w6
    obtain ⟨rfl, hb⟩ := hcut
    clear HX
    have Z6 : Hid (w5.heap.size ≤ w6.heap.size) := hb.size
    replace B1_0 := bx_below B1_0 S1_0 hb
    replace S1_0 := Nat.lt_of_lt_of_le S1_0 hb.size
    replace B5_0 := bx_below B5_0 S5_0 hb
    replace S5_0 := Nat.lt_of_lt_of_le S5_0 hb.size
    replace P0 : Hid (shCatch.Rd w6 w.heap.size g0 [.int .i64 g0.1, .int .i64 g0.2.1, .slice p0a g0.2.2.1.length p0ac]) := Sh.Rd.below P0.out (by have := Z1.out; have := Z2.out; have := Z3.out; have := Z4.out; have := Z5.out; have := Z6.out; omega) hb
    replace X4 : Hid _ := Own.below X4.out (by have := Z1.out; have := Z2.out; have := Z3.out; have := Z4.out; have := Z5.out; have := Z6.out; omega) hb
    replace HW : Hid _ := HW.out.trans (hb.mono HW.out.size)
    clear hb
    go_wp2_with fail
    go_ret
    exact ⟨rfl, HW.out⟩

set_option maxRecDepth 100000 in
theorem lifted (os : Os) (started : os.Started) (H : Type) (enc : TypeId × Value → H) :
    ReturnsInHanded {} Try.checked os 7 .any (Rows.fnExactCatchFaultSpec.pre6 enc Try.prog Try.f7 Rows.fnExactCatchFaultRow.domain false) (Rows.fnExactCatchFaultSpec.post enc Try.prog Try.f7 false true false false) := by
  refine returnsInHanded_of_change (C := Try.checked) own started (by kernel_rfl) Try.func7
    (ChangeSpec.witness6 (enc := enc) (C := Try.checked) false ⟨#[], #[.agg #[.int .i64 0, .int .i64 0, .slice none 0 0]], []⟩ 8 (by kernel_rfl) (by kernel_rfl) (by kernel_rfl) (by kernel_rfl)) ?_
  intro W base args ds gs before hval0 hW hcnd _
  have hval : ∀ (j : Nat) t v, Try.f7.params[j]? = some t → args[j]? = some v → Value.okWide Try.prog W .any base t v := hval0
  have hW' := hW
  obtain ⟨p, q, hA0, hV, rfl, hfz, hnd⟩ := hW
  have hA : DataW.TrodAll enc Try.prog W 0 (fun _ => true) true Try.f7.params.toList args.toList ds p := hA0
  rw [Try.params7] at hA hval
  obtain ⟨v0, vs0, d0, ds0, p0, q0, hargs, rfl, rfl, h0, r0⟩ := trodAll_cons hA
  obtain ⟨rfl, rfl, rfl⟩ := trodAll_nil r0
  obtain rfl : args = #[v0] := by cases args; simp_all
  obtain ⟨rfl, rfl⟩ := trodVars_none hV
  have lt0 : ∀ x ∈ p0, x.block < W.heap.size := by obtain ⟨m, hm⟩ := h0; exact DataW.trod_lt m _ _ _ hm
  have t0 : ∃ n y, DataW.trod enc Try.prog W 0 (fun _ => true) true n 43 v0.cells.toList = some y := by obtain ⟨m, hm⟩ := h0; exact ⟨m, _, hm⟩
  refine (walk enc v0 W base (hval 0 43 v0 rfl rfl) t0).mono fun e W' ⟨he, bel⟩ => ?_
  subst he
  exact ⟨_, rfl, _, _, _, [], _, [], hW', trodAll_mk1 (shut_bool Try.underlying4 _), (trodAll_cons_mk (Below.trod laidOut (by kernel_rfl) (of_decide_eq_true (by kernel_rfl)) h0 bel lt0) trodAll_mk0), rfl, bel.frame _, fun h => by cases h⟩

theorem over : Rows.fnExactCatchFaultRow.holds Try.pinned (OpenSpec.ofChange Rows.fnExactCatchFaultSpec) :=
  OpenClaim.holds_of_wide 7 Try.f7 rfl rfl rfl rfl rfl rfl rfl ⟨rfl, rfl, rfl, rfl, rfl⟩ rfl rfl rfl rfl rfl (by kernel_rfl) Try.func7 (by kernel_rfl)
    (of_decide_eq_true (by kernel_rfl)) (by unfold Func.isWrapper; first | (rw [if_pos (by decide +kernel)]; kernel_rfl) | (rw [if_neg (by decide +kernel)]; exact ⟨rfl, rfl⟩))
    (fun os started H enc _ => lifted os started H enc)

theorem proved : Rows.FnExactCatchFaultSaid := over
#print axioms proved
end Go.Proofs.Ytmiomnpfjigojam.fnExactCatchFault

namespace Go.Proofs.Ytmiomnpfjigojam
theorem fnExactCatchFault_holds : Rows.FnExactCatchFaultSaid := fnExactCatchFault.proved
end Go.Proofs.Ytmiomnpfjigojam
