/- Proved: at every gather the program's MissingOf answers as its model does, code and number, and the gather is as it was; no condition. -/
import Derived.Test.YtlicopeejphgaajRows
import Derived.WalkKit
import Derived.ProofKit
import Derived.OpenShut
import Derived.ShutString
import Derived.ChangeOld
import Derived.Below
import Derived.Test.YtlicopeejphgaajBase
import Derived.Test.YtlicopeejphgaajBytes
import Derived.Test.YtlicopeejphgaajMem
import Derived.Test.YtlicopeejphgaajMemOpen
import Derived.Test.YtlicopeejphgaajMemRow
import Derived.Test.YtlicopeejphgaajGath
import Derived.Test.YtlicopeejphgaajImplGath
import Derived.Test.YtlicopeejphgaajGathLaw
import Derived.Test.YtlicopeejphgaajSpecGath
import Derived.Test.YtlicopeejphgaajGathOpen
import Derived.Test.YtlicopeejphgaajBox
import Derived.Test.YtlicopeejphgaajGathByte
import Derived.Test.YtlicopeejphgaajGathHold
import Derived.Test.YtlicopeejphgaajGathReach
import Derived.Test.YtlicopeejphgaajGathMiss
import Derived.Test.YtlicopeejphgaajGathMissS
namespace Go.Proofs.Ytlicopeejphgaaj.fnExactMissingOf
open Go.ChangeShapes Go.WideShapes Go.ChangeAt Go.RowKit
set_option linter.unusedVariables false

theorem own : ownKnob Try.prog.godebug = none := by kernel_rfl
theorem laidOut : laidOutB Try.prog = true := by kernel_rfl


set_option maxHeartbeats 2000000 in
theorem walk {H : Type} (enc : TypeId × Value → H) (v0 : Value) (w : World) (base : Nat)
    (o0 : Value.okWide Try.prog w .any base 25 v0) (t0 : ∃ n y, DataW.trod enc Try.prog w 0 (fun _ => true) true n 25 v0.cells.toList = some y) :
    Calls Try.prog 3 #[v0] w fun e w' => e = .returned (.bool true) ∧ Below w.heap.size w w' := by
  obtain ⟨g0, y0a, y0b, rfl, ho⟩ := open_gatv o0 t0
  obtain ⟨p0a, p0ac, p0b, p0bc, e5, -, -⟩ := rd_gt ho
  simp only [List.cons.injEq, and_true] at e5
  obtain ⟨rfl, rfl⟩ := e5
  have P0 : Hid (gtS.Rd w w.heap.size g0 [.slice p0a g0.1.length p0ac, .slice p0b g0.2.1.length p0bc]) := ho
  clear ho
  clear o0 t0
  have HW : Hid (Below w.heap.size w w) := Below.refl _ _
  obtain ⟨T0, hT0⟩ : ∃ T : Nat, T = gtTot g0 := ⟨_, rfl⟩
  by_cases hbig0 : (1048576 : Int) < (T0 : Int)
  · go_enter Try.func3, Try.ntmps3
    go_wp2_with fail
    have c := fun W R hB => lSzGather g0 (.slice p0a g0.1.length p0ac) (.slice p0b g0.2.1.length p0bc) 1048576 W w.heap.size R hB (by omega) (by omega)
    rw [← hT0, if_pos (show (1048576 : Int) < (T0 : Int) by omega)] at c
    refine (c _ (Sh.Rd.below (C := w.heap.size) P0.out (by first | omega | (simp; done) | (simp; omega)) (by first | exact Below.refl _ _ | go_grown | exact Below.drew (Below.refl _ _))) (by first | omega | (simp; done) | (simp; omega))).mono ?_
    rintro e w1 ⟨rfl, hb⟩
    clear c
    have B1_0 := bx_new hb
    obtain ⟨hb, S1_0⟩ := bl_new hb
    have Z1 : Hid (w.heap.size < w1.heap.size) := S1_0
    replace P0 : Hid (gtS.Rd w1 w.heap.size g0 [.slice p0a g0.1.length p0ac, .slice p0b g0.2.1.length p0bc]) := Sh.Rd.below P0.out (by have := Z1.out; omega) hb
    replace HW : Hid _ := HW.out.trans (hb.mono HW.out.size)
    clear hb
    go_wp2_with fail
    go_ret
    exact ⟨rfl, HW.out⟩
  · skip
    go_enter Try.func3, Try.ntmps3
    go_wp2_with fail
    have c := fun W R hB => lSzGather g0 (.slice p0a g0.1.length p0ac) (.slice p0b g0.2.1.length p0bc) 1048576 W w.heap.size R hB (by omega) (by omega)
    rw [← hT0, if_neg (show ¬ ((1048576 : Int) < (T0 : Int)) by omega)] at c
    refine (c _ (Sh.Rd.below (C := w.heap.size) P0.out (by first | omega | (simp; done) | (simp; omega)) (by first | exact Below.refl _ _ | go_grown | exact Below.drew (Below.refl _ _))) (by first | omega | (simp; done) | (simp; omega))).mono ?_
    rintro e w1 ⟨rfl, hb⟩
    clear c
    have B1_0 := bx_new hb
    obtain ⟨hb, S1_0⟩ := bl_new hb
    have Z1 : Hid (w.heap.size < w1.heap.size) := S1_0
    replace P0 : Hid (gtS.Rd w1 w.heap.size g0 [.slice p0a g0.1.length p0ac, .slice p0b g0.2.1.length p0bc]) := Sh.Rd.below P0.out (by have := Z1.out; omega) hb
    replace HW : Hid _ := HW.out.trans (hb.mono HW.out.size)
    clear hb
    have hrest : ¬ ((1048576 : Int) - (T0 : Int) < 0) := by omega
    go_wp2_with fail
    refine (lToGather g0 (.slice p0a g0.1.length p0ac) (.slice p0b g0.2.1.length p0bc) _ w.heap.size (Sh.Rd.below (C := w1.heap.size) P0.out (by have := Z1.out; first | omega | (simp; done) | (simp; omega)) (by first | exact Below.refl _ _ | go_grown | exact Below.drew (Below.refl _ _))) (by have := Z1.out; first | omega | (simp; done) | (simp; omega)) (by omega)).mono ?_
    rintro e w2 ⟨u2a, u2b, rfl, ho, hb⟩
    obtain ⟨q2a, q2ac, q2b, q2bc, e5, -, -⟩ := rd_gt (ho.rd (Nat.le_refl _))
    simp only [List.cons.injEq, and_true] at e5
    obtain ⟨rfl, rfl⟩ := e5
    have X2 : Hid (Own w2 w1.heap.size w2.heap.size gtS g0 [.slice q2a g0.1.length q2ac, .slice q2b g0.2.1.length q2bc]) := Own.mono ho (by first | exact Nat.le_refl _ | (simp; done) | (simp; omega)) (Nat.le_refl _)
    clear ho
    have Z2 : Hid (w1.heap.size ≤ w2.heap.size) := hb.size
    replace B1_0 := bx_below B1_0 S1_0 hb
    replace S1_0 := Nat.lt_of_lt_of_le S1_0 hb.size
    replace P0 : Hid (gtS.Rd w2 w.heap.size g0 [.slice p0a g0.1.length p0ac, .slice p0b g0.2.1.length p0bc]) := Sh.Rd.below P0.out (by have := Z1.out; have := Z2.out; omega) hb
    replace HW : Hid _ := HW.out.trans (hb.mono HW.out.size)
    clear hb
    go_wp2_with fail
    refine (sMissingOf g0 (.slice q2a g0.1.length q2ac) (.slice q2b g0.2.1.length q2bc) _ _ (Sh.Rd.mono (by have := Z1.out; have := Z2.out; first | exact Nat.le_refl _ | omega | (simp; done) | (simp; omega)) _ _ _ (Sh.Rd.below (B := w2.heap.size) (C := w2.heap.size) (Own.rd X2.out (Nat.le_refl _)) (Nat.le_refl _) (by first | exact Below.refl _ _ | go_grown | exact Below.drew (Below.refl _ _)))) (Nat.le_refl _) (by omega)).mono ?_
    rintro e w3 ⟨rfl, hb⟩
    have Z3 : Hid (w2.heap.size ≤ w3.heap.size) := hb.size
    replace B1_0 := bx_below B1_0 S1_0 hb
    replace S1_0 := Nat.lt_of_lt_of_le S1_0 hb.size
    replace P0 : Hid (gtS.Rd w3 w.heap.size g0 [.slice p0a g0.1.length p0ac, .slice p0b g0.2.1.length p0bc]) := Sh.Rd.below P0.out (by have := Z1.out; have := Z2.out; have := Z3.out; omega) hb
    replace X2 : Hid _ := Own.below X2.out (by have := Z1.out; have := Z2.out; have := Z3.out; omega) hb
    replace HW : Hid _ := HW.out.trans (hb.mono HW.out.size)
    clear hb
    clear X2
    go_wp2_with fail
    refine (lToGather g0 (.slice p0a g0.1.length p0ac) (.slice p0b g0.2.1.length p0bc) _ w.heap.size (Sh.Rd.below (C := w3.heap.size) P0.out (by have := Z1.out; have := Z2.out; have := Z3.out; first | omega | (simp; done) | (simp; omega)) (by first | exact Below.refl _ _ | go_grown | exact Below.drew (Below.refl _ _))) (by have := Z1.out; have := Z2.out; have := Z3.out; first | omega | (simp; done) | (simp; omega)) (by omega)).mono ?_
    rintro e w4 ⟨u4a, u4b, rfl, ho, hb⟩
    obtain ⟨q4a, q4ac, q4b, q4bc, e5, -, -⟩ := rd_gt (ho.rd (Nat.le_refl _))
    simp only [List.cons.injEq, and_true] at e5
    obtain ⟨rfl, rfl⟩ := e5
    have X4 : Hid (Own w4 w3.heap.size w4.heap.size gtS g0 [.slice q4a g0.1.length q4ac, .slice q4b g0.2.1.length q4bc]) := Own.mono ho (by first | exact Nat.le_refl _ | (simp; done) | (simp; omega)) (Nat.le_refl _)
    clear ho
    have B4_0 := bx_new hb
    obtain ⟨hb, S4_0⟩ := bl_new hb
    have Z4 : Hid (w3.heap.size < w4.heap.size) := S4_0
    replace B1_0 := bx_below B1_0 S1_0 hb
    replace S1_0 := Nat.lt_of_lt_of_le S1_0 hb.size
    replace P0 : Hid (gtS.Rd w4 w.heap.size g0 [.slice p0a g0.1.length p0ac, .slice p0b g0.2.1.length p0bc]) := Sh.Rd.below P0.out (by have := Z1.out; have := Z2.out; have := Z3.out; have := Z4.out; omega) hb
    replace HW : Hid _ := HW.out.trans (hb.mono HW.out.size)
    clear hb
    go_wp2_with fail
    refine (iMissingOf g0 (.slice q4a g0.1.length q4ac) (.slice q4b g0.2.1.length q4bc) _ _ (Sh.Rd.mono (by have := Z1.out; have := Z2.out; have := Z3.out; have := Z4.out; first | exact Nat.le_refl _ | omega | (simp; done) | (simp; omega)) _ _ _ (Sh.Rd.below (B := w4.heap.size) (C := w4.heap.size) (Own.rd X4.out (Nat.le_refl _)) (Nat.le_refl _) (by first | exact Below.refl _ _ | go_grown | exact Below.drew (Below.refl _ _)))) (Nat.le_refl _) (by omega)).mono ?_
    rintro e w5 ⟨rfl, hb⟩
    have B5_0 := bx_new hb
    obtain ⟨hb, S5_0⟩ := bl_new hb
    have Z5 : Hid (w4.heap.size < w5.heap.size) := S5_0
    replace B1_0 := bx_below B1_0 S1_0 hb
    replace S1_0 := Nat.lt_of_lt_of_le S1_0 hb.size
    replace B4_0 := bx_below B4_0 S4_0 hb
    replace S4_0 := Nat.lt_of_lt_of_le S4_0 hb.size
    replace P0 : Hid (gtS.Rd w5 w.heap.size g0 [.slice p0a g0.1.length p0ac, .slice p0b g0.2.1.length p0bc]) := Sh.Rd.below P0.out (by have := Z1.out; have := Z2.out; have := Z3.out; have := Z4.out; have := Z5.out; omega) hb
    replace X4 : Hid _ := Own.below X4.out (by have := Z1.out; have := Z2.out; have := Z3.out; have := Z4.out; have := Z5.out; omega) hb
    replace HW : Hid _ := HW.out.trans (hb.mono HW.out.size)
    clear hb
    go_wp2_with fail
    refine (lEqIntR _ _ _).mono ?_
    rintro e w6 ⟨rfl, hb⟩
    have B6_0 := bx_new hb
    obtain ⟨hb, S6_0⟩ := bl_new hb
    have Z6 : Hid (w5.heap.size < w6.heap.size) := S6_0
    replace B1_0 := bx_below B1_0 S1_0 hb
    replace S1_0 := Nat.lt_of_lt_of_le S1_0 hb.size
    replace B4_0 := bx_below B4_0 S4_0 hb
    replace S4_0 := Nat.lt_of_lt_of_le S4_0 hb.size
    replace B5_0 := bx_below B5_0 S5_0 hb
    replace S5_0 := Nat.lt_of_lt_of_le S5_0 hb.size
    replace P0 : Hid (gtS.Rd w6 w.heap.size g0 [.slice p0a g0.1.length p0ac, .slice p0b g0.2.1.length p0bc]) := Sh.Rd.below P0.out (by have := Z1.out; have := Z2.out; have := Z3.out; have := Z4.out; have := Z5.out; have := Z6.out; omega) hb
    replace X4 : Hid _ := Own.below X4.out (by have := Z1.out; have := Z2.out; have := Z3.out; have := Z4.out; have := Z5.out; have := Z6.out; omega) hb
    replace HW : Hid _ := HW.out.trans (hb.mono HW.out.size)
    clear hb
    go_wp2_with fail
    have HX : Hid (∀ W, Below w6.heap.size w6 W → gtS.Rd W w6.heap.size g0 [.slice q4a g0.1.length q4ac, .slice q4b g0.2.1.length q4bc]) := fun W hW => Sh.Rd.below (Own.rd X4.out (Nat.le_refl _)) (Nat.le_refl _) hW
    go_cut [27] (fun u wx => u = .bool false ∧ Below w6.heap.size w6 wx)
    case first =>
      go_region_with (first
        | (go_at_call 11; refine (lToGather g0 (.slice p0a g0.1.length p0ac) (.slice p0b g0.2.1.length p0bc) _ w.heap.size (Sh.Rd.below (C := w6.heap.size) P0.out (by have := Z1.out; have := Z2.out; have := Z3.out; have := Z4.out; have := Z5.out; have := Z6.out; first | omega | (simp; done) | (simp; omega)) (by first | exact Below.refl _ _ | go_grown | exact Below.drew (Below.refl _ _))) (by have := Z1.out; have := Z2.out; have := Z3.out; have := Z4.out; have := Z5.out; have := Z6.out; first | omega | (simp; done) | (simp; omega)) (by omega)).mono ?_; rintro e w7 ⟨u7a, u7b, rfl, ho, hb⟩; obtain ⟨q7a, q7ac, q7b, q7bc, e5, -, -⟩ := rd_gt (ho.rd (Nat.le_refl _)); simp only [List.cons.injEq, and_true] at e5; obtain ⟨rfl, rfl⟩ := e5; replace hb := bl_drew hb; have HB : Hid _ := hb; have HR : Hid (gtS.Rd w7 w7.heap.size g0 [.slice q7a g0.1.length q7ac, .slice q7b g0.2.1.length q7bc]) := Own.rd ho (Nat.le_refl _); replace B1_0 := bx_below B1_0 S1_0 hb; replace S1_0 := Nat.lt_of_lt_of_le S1_0 hb.size; replace B4_0 := bx_below B4_0 S4_0 hb; replace S4_0 := Nat.lt_of_lt_of_le S4_0 hb.size; replace B5_0 := bx_below B5_0 S5_0 hb; replace S5_0 := Nat.lt_of_lt_of_le S5_0 hb.size; replace B6_0 := bx_below B6_0 S6_0 hb; replace S6_0 := Nat.lt_of_lt_of_le S6_0 hb.size; clear ho hb)
        | (go_at_call 14; refine (lEqGather g0 (.slice q4a g0.1.length q4ac) (.slice q4b g0.2.1.length q4bc) (.slice q7a g0.1.length q7ac) (.slice q7b g0.2.1.length q7bc) _ _ (Sh.Rd.mono HB.out.size _ _ _ (HX.out _ HB.out)) HR.out (Nat.le_refl _) (by omega)).mono ?_; rintro e w' ⟨rfl, hb⟩; have HC : Hid _ := hb; clear hb))
      all_goals (go_wp2_with fail; go_meet; exact ⟨rfl, HB.out.trans (HC.out.mono HB.out.size)⟩)
    case rest =>
    rename World => w7
    obtain ⟨rfl, hb⟩ := hcut
    clear HX
    have Z7 : Hid (w6.heap.size ≤ w7.heap.size) := hb.size
    replace B1_0 := bx_below B1_0 S1_0 hb
    replace S1_0 := Nat.lt_of_lt_of_le S1_0 hb.size
    replace B4_0 := bx_below B4_0 S4_0 hb
    replace S4_0 := Nat.lt_of_lt_of_le S4_0 hb.size
    replace B5_0 := bx_below B5_0 S5_0 hb
    replace S5_0 := Nat.lt_of_lt_of_le S5_0 hb.size
    replace B6_0 := bx_below B6_0 S6_0 hb
    replace S6_0 := Nat.lt_of_lt_of_le S6_0 hb.size
    replace P0 : Hid (gtS.Rd w7 w.heap.size g0 [.slice p0a g0.1.length p0ac, .slice p0b g0.2.1.length p0bc]) := Sh.Rd.below P0.out (by have := Z1.out; have := Z2.out; have := Z3.out; have := Z4.out; have := Z5.out; have := Z6.out; have := Z7.out; omega) hb
    replace X4 : Hid _ := Own.below X4.out (by have := Z1.out; have := Z2.out; have := Z3.out; have := Z4.out; have := Z5.out; have := Z6.out; have := Z7.out; omega) hb
    replace HW : Hid _ := HW.out.trans (hb.mono HW.out.size)
    clear hb
    go_wp2_with fail
    go_ret
    exact ⟨rfl, HW.out⟩

set_option maxRecDepth 100000 in
theorem lifted (os : Os) (started : os.Started) (H : Type) (enc : TypeId × Value → H) :
    ReturnsInHanded {} Try.checked os 3 .any (Rows.fnExactMissingOfSpec.pre6 enc Try.prog Try.f3 Rows.fnExactMissingOfRow.domain false) (Rows.fnExactMissingOfSpec.post enc Try.prog Try.f3 false true false false) := by
  refine returnsInHanded_of_change (C := Try.checked) own started (by kernel_rfl) Try.func3
    (ChangeSpec.witness6 (enc := enc) (C := Try.checked) false ⟨#[], #[.agg #[.slice none 0 0, .slice none 0 0]], []⟩ 8 (by kernel_rfl) (by kernel_rfl) (by kernel_rfl) (by kernel_rfl)) ?_
  intro W base args ds gs before hval0 hW hcnd _
  have hval : ∀ (j : Nat) t v, Try.f3.params[j]? = some t → args[j]? = some v → Value.okWide Try.prog W .any base t v := hval0
  have hW' := hW
  obtain ⟨p, q, hA0, hV, rfl, hfz, hnd⟩ := hW
  have hA : DataW.TrodAll enc Try.prog W 0 (fun _ => true) true Try.f3.params.toList args.toList ds p := hA0
  rw [Try.params3] at hA hval
  obtain ⟨v0, vs0, d0, ds0, p0, q0, hargs, rfl, rfl, h0, r0⟩ := trodAll_cons hA
  obtain ⟨rfl, rfl, rfl⟩ := trodAll_nil r0
  obtain rfl : args = #[v0] := by cases args; simp_all
  obtain ⟨rfl, rfl⟩ := trodVars_none hV
  have lt0 : ∀ x ∈ p0, x.block < W.heap.size := by obtain ⟨m, hm⟩ := h0; exact DataW.trod_lt m _ _ _ hm
  have t0 : ∃ n y, DataW.trod enc Try.prog W 0 (fun _ => true) true n 25 v0.cells.toList = some y := by obtain ⟨m, hm⟩ := h0; exact ⟨m, _, hm⟩
  refine (walk enc v0 W base (hval 0 25 v0 rfl rfl) t0).mono fun e W' ⟨he, bel⟩ => ?_
  subst he
  exact ⟨_, rfl, _, _, _, [], _, [], hW', trodAll_mk1 (shut_bool Try.underlying4 _), (trodAll_cons_mk (Below.trod laidOut (by kernel_rfl) (of_decide_eq_true (by kernel_rfl)) h0 bel lt0) trodAll_mk0), rfl, bel.frame _, fun h => by cases h⟩

theorem over : Rows.fnExactMissingOfRow.holds Try.pinned (OpenSpec.ofChange Rows.fnExactMissingOfSpec) :=
  OpenClaim.holds_of_wide 3 Try.f3 rfl rfl rfl rfl rfl rfl rfl ⟨rfl, rfl, rfl, rfl, rfl⟩ rfl rfl rfl rfl rfl (by kernel_rfl) Try.func3 (by kernel_rfl)
    (of_decide_eq_true (by kernel_rfl)) (by unfold Func.isWrapper; first | (rw [if_pos (by decide +kernel)]; kernel_rfl) | (rw [if_neg (by decide +kernel)]; exact ⟨rfl, rfl⟩))
    (fun os started H enc _ => lifted os started H enc)

theorem proved : Rows.FnExactMissingOfSaid := over
#print axioms proved
end Go.Proofs.Ytlicopeejphgaaj.fnExactMissingOf

namespace Go.Proofs.Ytlicopeejphgaaj
theorem fnExactMissingOf_holds : Rows.FnExactMissingOfSaid := fnExactMissingOf.proved
end Go.Proofs.Ytlicopeejphgaaj
