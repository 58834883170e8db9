/- Proved: at every catch, place and size the program's TakeSpan answers as its model does, code, whether it is fresh, and catch; the catch is as it was; the answer owns its memory; no condition. -/
import Derived.Test.YtmiomnpfjigojanRows
import Derived.WalkKit
import Derived.ProofKit
import Derived.OpenShut
import Derived.ShutString
import Derived.ChangeOld
import Derived.Below
import Derived.Test.YtmiomnpfjigojanBase
import Derived.Test.YtmiomnpfjigojanBytes
import Derived.Test.YtmiomnpfjigojanMem
import Derived.Test.YtmiomnpfjigojanMemOpen
import Derived.Test.YtmiomnpfjigojanMemRow
import Derived.Test.YtmiomnpfjigojanHBase
import Derived.Test.YtmiomnpfjigojanHSpan
import Derived.Test.YtmiomnpfjigojanHCatch
import Derived.Test.YtmiomnpfjigojanHOpen0
import Derived.Test.YtmiomnpfjigojanHOpenC
import Derived.Test.YtmiomnpfjigojanBox
import Derived.Test.YtmiomnpfjigojanNum
import Derived.Test.YtmiomnpfjigojanNumWalks
import Derived.Test.YtmiomnpfjigojanUnwrap
import Derived.Test.YtmiomnpfjigojanCatDef
import Derived.Test.YtmiomnpfjigojanMemApp
import Derived.Test.YtmiomnpfjigojanHMark
import Derived.Test.YtmiomnpfjigojanMSpan
import Derived.Test.YtmiomnpfjigojanMCatch
import Derived.Test.YtmiomnpfjigojanSpanRow
import Derived.Test.YtmiomnpfjigojanCatSpec
import Derived.Test.YtmiomnpfjigojanCatImpl
import Derived.Test.YtmiomnpfjigojanCatCount
import Derived.Test.YtmiomnpfjigojanCatSort
import Derived.Test.YtmiomnpfjigojanCatTake
import Derived.Test.YtmiomnpfjigojanCatTake2
import Derived.Test.YtmiomnpfjigojanCatTakeS
import Derived.Test.YtmiomnpfjigojanCatTakeM
import Derived.Test.YtmiomnpfjigojanRegionU
import Derived.Test.YtmiomnpfjigojanRegionQ
import Derived.Test.YtmiomnpfjigojanCatTakeL
import Derived.Test.YtmiomnpfjigojanCatTakeT
namespace Go.Proofs.Ytmiomnpfjigojan.fnExactTakeSpan
open Go.ChangeShapes Go.WideShapes Go.ChangeAt Go.RowKit
set_option linter.unusedVariables false

theorem own : ownKnob Try.prog.godebug = none := by kernel_rfl
theorem laidOut : laidOutB Try.prog = true := by kernel_rfl


set_option maxHeartbeats 8000000 in
set_option maxRecDepth 8000 in
theorem walk {H : Type} (enc : TypeId × Value → H) (v0 : Value) (v1 : Value) (v2 : Value) (w : World) (base : Nat)
    (o0 : Value.okWide Try.prog w .any base 24 v0) (t0 : ∃ n y, DataW.trod enc Try.prog w 0 (fun _ => true) true n 24 v0.cells.toList = some y)
    (o1 : Value.okWide Try.prog w .any base 2 v1) (t1 : ∃ n y, DataW.trod enc Try.prog w 0 (fun _ => true) true n 2 v1.cells.toList = some y)
    (o2 : Value.okWide Try.prog w .any base 2 v2) (t2 : ∃ n y, DataW.trod enc Try.prog w 0 (fun _ => true) true n 2 v2.cells.toList = some y) :
    Calls Try.prog 3 #[v0, v1, v2] w fun e w' => e = .returned (.bool true) ∧ Below w.heap.size w w' := by
  obtain ⟨g0, y0a, rfl, ho⟩ := open_Catch o0 t0
  obtain ⟨p0v, e5, r5, -⟩ := rd_Catch ho
  simp only [List.cons.injEq, and_true, true_and] at e5
  subst e5
  obtain ⟨p0a, p0ac, e5⟩ := row_form r5
  simp only [List.cons.injEq, and_true] at e5
  subst e5
  clear r5
  have P0 : Hid (shCatch.Rd w w.heap.size g0 [.int .i64 g0.1, .int .i64 g0.2.1, .slice p0a g0.2.2.1.length p0ac]) := ho
  clear ho
  obtain ⟨x1, rfl, hwf1⟩ := open_i64v o1 t1
  have W1 : Hid _ := rd_i64 hwf1
  clear hwf1
  obtain ⟨x2, rfl, hwf2⟩ := open_i64v o2 t2
  have W2 : Hid _ := rd_i64 hwf2
  clear hwf2
  clear o0 t0 o1 t1 o2 t2
  have HW : Hid (Below w.heap.size w w) := Below.refl _ _
  obtain ⟨V, hV⟩ : ∃ V, V = tkV g0 x1 x2 := ⟨_, rfl⟩
  obtain ⟨C, hC⟩ : ∃ C, C = tkC g0 x1 x2 := ⟨_, rfl⟩
  obtain ⟨FR, hFR⟩ : ∃ C, C = tkB g0 x1 x2 := ⟨_, rfl⟩
  have VT : Hid (totCatch V ≤ 1048576) := by rw [hV]; exact tk_tot _ _ _
  have hVT : 0 ≤ (1 : Int) + ((wtCatch V : Nat) : Int) := by omega
  have CS : Hid (∀ (W : World) (B : Nat) (v : Value), shCatch.Rd W B g0 [.int .i64 g0.1, .int .i64 g0.2.1, v] → B ≤ W.heap.size → totCatch g0 ≤ 1048576 → Calls Try.prog 8 #[.agg #[.int .i64 g0.1, .int .i64 g0.2.1, v], .int .i64 x1, .int .i64 x2] W fun e w' => ∃ u, e = .returned (.agg #[.int .i64 C, .bool FR, .int .i64 V.1, .int .i64 V.2.1, u]) ∧ Own w' W.heap.size w'.heap.size shCatchO V [.int .i64 V.1, .int .i64 V.2.1, u] ∧ Below W.heap.size W w') := fun W B v h1 h2 h3 => by rw [hV, hC, hFR]; exact sTakeSpan g0 v x1 x2 W B h1 h2 h3
  have CI : Hid (∀ (W : World) (B : Nat) (v : Value), shCatch.Rd W B g0 [.int .i64 g0.1, .int .i64 g0.2.1, v] → B ≤ W.heap.size → totCatch g0 ≤ 1048576 → Calls Try.prog 10 #[.agg #[.int .i64 g0.1, .int .i64 g0.2.1, v], .int .i64 x1, .int .i64 x2] W fun e w' => ∃ u, e = .returned (.agg #[.int .i64 C, .bool FR, .int .i64 V.1, .int .i64 V.2.1, u]) ∧ Own w' W.heap.size w'.heap.size shCatchO V [.int .i64 V.1, .int .i64 V.2.1, u] ∧ Below W.heap.size W w') := fun W B v h1 h2 h3 => by rw [hV, hC, hFR]; exact iTakeSpan g0 v x1 x2 W B h1 h2 h3
  clear hV hC hFR
  obtain ⟨T0, hT0⟩ : ∃ T : Nat, T = totCatch g0 := ⟨_, rfl⟩
  by_cases hbig0 : (1048576 : Int) < (T0 : Int)
  · go_enter Try.func3, Try.ntmps3
    go_wp2_with fail
    have c := fun W R hB => lSzCatch g0 (.slice p0a g0.2.2.1.length p0ac) 1048576 W w.heap.size R hB (by omega) (by omega)
    rw [← hT0, if_pos (show (1048576 : Int) < (T0 : Int) by omega)] at c
    refine (c _ (Sh.Rd.below (C := w.heap.size) P0.out (by first | omega | (simp; done) | (simp; omega)) (by first | exact Below.refl _ _ | go_grown | exact Below.drew (Below.refl _ _))) (by first | omega | (simp; done) | (simp; omega))).mono ?_
    rintro e w1 ⟨rfl, hb⟩
    clear c
    have B1_0 := bx_new hb
    obtain ⟨hb, S1_0⟩ := bl_new hb
    have Z1 : Hid (w.heap.size < w1.heap.size) := S1_0
    replace P0 : Hid (shCatch.Rd w1 w.heap.size g0 [.int .i64 g0.1, .int .i64 g0.2.1, .slice p0a g0.2.2.1.length p0ac]) := Sh.Rd.below P0.out (by have := Z1.out; omega) hb
    replace HW : Hid _ := HW.out.trans (hb.mono HW.out.size)
    clear hb
    go_wp2_with fail
    go_ret
    exact ⟨rfl, HW.out⟩
  · skip
    go_enter Try.func3, Try.ntmps3
    go_wp2_with fail
    have c := fun W R hB => lSzCatch g0 (.slice p0a g0.2.2.1.length p0ac) 1048576 W w.heap.size R hB (by omega) (by omega)
    rw [← hT0, if_neg (show ¬ ((1048576 : Int) < (T0 : Int)) by omega)] at c
    refine (c _ (Sh.Rd.below (C := w.heap.size) P0.out (by first | omega | (simp; done) | (simp; omega)) (by first | exact Below.refl _ _ | go_grown | exact Below.drew (Below.refl _ _))) (by first | omega | (simp; done) | (simp; omega))).mono ?_
    rintro e w1 ⟨rfl, hb⟩
    clear c
    have B1_0 := bx_new hb
    obtain ⟨hb, S1_0⟩ := bl_new hb
    have Z1 : Hid (w.heap.size < w1.heap.size) := S1_0
    replace P0 : Hid (shCatch.Rd w1 w.heap.size g0 [.int .i64 g0.1, .int .i64 g0.2.1, .slice p0a g0.2.2.1.length p0ac]) := Sh.Rd.below P0.out (by have := Z1.out; omega) hb
    replace HW : Hid _ := HW.out.trans (hb.mono HW.out.size)
    clear hb
    have hrest : ¬ ((1048576 : Int) - (T0 : Int) < 0) := by omega
    go_wp2_with fail
    refine (lToCatch g0 (.slice p0a g0.2.2.1.length p0ac) _ w.heap.size (Sh.Rd.below (C := w1.heap.size) P0.out (by have := Z1.out; first | omega | (simp; done) | (simp; omega)) (by first | exact Below.refl _ _ | go_grown | exact Below.drew (Below.refl _ _))) (by have := Z1.out; first | omega | (simp; done) | (simp; omega)) (by omega)).mono ?_
    rintro e w2 ⟨u2a, rfl, ho, hb⟩
    obtain ⟨q2v, e5, r5, -⟩ := rd_Catch (ho.rd (Nat.le_refl _))
    simp only [List.cons.injEq, and_true, true_and] at e5
    subst e5
    obtain ⟨q2a, q2ac, e5⟩ := row_form r5
    simp only [List.cons.injEq, and_true] at e5
    subst e5
    clear r5
    have X2 : Hid (Own w2 (w1.heap.size) w2.heap.size shCatch g0 [.int .i64 g0.1, .int .i64 g0.2.1, .slice q2a g0.2.2.1.length q2ac]) := Own.mono ho (by first | exact Nat.le_refl _ | (simp; done) | (simp; omega)) (Nat.le_refl _)
    clear ho
    have Z2 : Hid (w1.heap.size ≤ w2.heap.size) := hb.size
    replace B1_0 := bx_below B1_0 S1_0 hb
    replace S1_0 := Nat.lt_of_lt_of_le S1_0 hb.size
    replace P0 : Hid (shCatch.Rd w2 w.heap.size g0 [.int .i64 g0.1, .int .i64 g0.2.1, .slice p0a g0.2.2.1.length p0ac]) := Sh.Rd.below P0.out (by have := Z1.out; have := Z2.out; omega) hb
    replace HW : Hid _ := HW.out.trans (hb.mono HW.out.size)
    clear hb
    go_wp2_with fail
    refine (CS.out _ _ (.slice q2a g0.2.2.1.length q2ac) (Sh.Rd.mono (by have := Z1.out; have := Z2.out; first | exact Nat.le_refl _ | omega | (simp; done) | (simp; omega)) _ _ _ (Sh.Rd.below (B := w2.heap.size) (C := w2.heap.size) (Own.rd X2.out (Nat.le_refl _)) (Nat.le_refl _) (by first | exact Below.refl _ _ | go_grown | exact Below.drew (Below.refl _ _)))) (Nat.le_refl _) (by omega)).mono ?_
    rintro e w3 ⟨u3a, rfl, ho, hb⟩
    obtain ⟨q3v, e5, r5, -⟩ := rd_CatchO (ho.rd (Nat.le_refl _))
    simp only [List.cons.injEq, and_true, true_and] at e5
    subst e5
    obtain ⟨q3a, q3ac, e5⟩ := row_formO r5
    simp only [List.cons.injEq, and_true] at e5
    subst e5
    clear r5
    have X3 : Hid (Own w3 (w2.heap.size) w3.heap.size shCatchO V [.int .i64 V.1, .int .i64 V.2.1, .slice q3a V.2.2.1.length q3ac]) := Own.mono ho (by first | exact Nat.le_refl _ | (simp; done) | (simp; omega)) (Nat.le_refl _)
    clear ho
    have Z3 : Hid (w2.heap.size ≤ w3.heap.size) := hb.size
    replace B1_0 := bx_below B1_0 S1_0 hb
    replace S1_0 := Nat.lt_of_lt_of_le S1_0 hb.size
    replace P0 : Hid (shCatch.Rd w3 w.heap.size g0 [.int .i64 g0.1, .int .i64 g0.2.1, .slice p0a g0.2.2.1.length p0ac]) := Sh.Rd.below P0.out (by have := Z1.out; have := Z2.out; have := Z3.out; omega) hb
    replace X2 : Hid _ := Own.below X2.out (by have := Z1.out; have := Z2.out; have := Z3.out; omega) hb
    replace HW : Hid _ := HW.out.trans (hb.mono HW.out.size)
    clear hb
    clear X2
    go_wp2_with fail
    refine (lToCatch g0 (.slice p0a g0.2.2.1.length p0ac) _ w.heap.size (Sh.Rd.below (C := w3.heap.size) P0.out (by have := Z1.out; have := Z2.out; have := Z3.out; first | omega | (simp; done) | (simp; omega)) (by first | exact Below.refl _ _ | go_grown | exact Below.drew (Below.refl _ _))) (by have := Z1.out; have := Z2.out; have := Z3.out; first | omega | (simp; done) | (simp; omega)) (by omega)).mono ?_
    rintro e w4 ⟨u4a, rfl, ho, hb⟩
    obtain ⟨q4v, e5, r5, -⟩ := rd_Catch (ho.rd (Nat.le_refl _))
    simp only [List.cons.injEq, and_true, true_and] at e5
    subst e5
    obtain ⟨q4a, q4ac, e5⟩ := row_form r5
    simp only [List.cons.injEq, and_true] at e5
    subst e5
    clear r5
    have X4 : Hid (Own w4 (w3.heap.size + 1) w4.heap.size shCatch g0 [.int .i64 g0.1, .int .i64 g0.2.1, .slice q4a g0.2.2.1.length q4ac]) := Own.mono ho (by first | exact Nat.le_refl _ | (simp; done) | (simp; omega)) (Nat.le_refl _)
    clear ho
    have B4_0 := bx_new hb
    obtain ⟨hb, S4_0⟩ := bl_new hb
    have Z4 : Hid (w3.heap.size < w4.heap.size) := S4_0
    replace B1_0 := bx_below B1_0 S1_0 hb
    replace S1_0 := Nat.lt_of_lt_of_le S1_0 hb.size
    replace P0 : Hid (shCatch.Rd w4 w.heap.size g0 [.int .i64 g0.1, .int .i64 g0.2.1, .slice p0a g0.2.2.1.length p0ac]) := Sh.Rd.below P0.out (by have := Z1.out; have := Z2.out; have := Z3.out; have := Z4.out; omega) hb
    replace X3 : Hid _ := Own.below X3.out (by have := Z1.out; have := Z2.out; have := Z3.out; have := Z4.out; omega) hb
    replace HW : Hid _ := HW.out.trans (hb.mono HW.out.size)
    clear hb
    go_wp2_with fail
    refine (CI.out _ _ (.slice q4a g0.2.2.1.length q4ac) (Sh.Rd.mono (by have := Z1.out; have := Z2.out; have := Z3.out; have := Z4.out; first | exact Nat.le_refl _ | omega | (simp; done) | (simp; omega)) _ _ _ (Sh.Rd.below (B := w4.heap.size) (C := w4.heap.size) (Own.rd X4.out (Nat.le_refl _)) (Nat.le_refl _) (by first | exact Below.refl _ _ | go_grown | exact Below.drew (Below.refl _ _)))) (Nat.le_refl _) (by omega)).mono ?_
    rintro e w5 ⟨u5a, rfl, ho, hb⟩
    obtain ⟨q5v, e5, r5, -⟩ := rd_CatchO (ho.rd (Nat.le_refl _))
    simp only [List.cons.injEq, and_true, true_and] at e5
    subst e5
    obtain ⟨q5a, q5ac, e5⟩ := row_formO r5
    simp only [List.cons.injEq, and_true] at e5
    subst e5
    clear r5
    have X5 : Hid (Own w5 (w4.heap.size + 1) w5.heap.size shCatchO V [.int .i64 V.1, .int .i64 V.2.1, .slice q5a V.2.2.1.length q5ac]) := Own.mono ho (by first | exact Nat.le_refl _ | (simp; done) | (simp; omega)) (Nat.le_refl _)
    clear ho
    have B5_0 := bx_new hb
    obtain ⟨hb, S5_0⟩ := bl_new hb
    have Z5 : Hid (w4.heap.size < w5.heap.size) := S5_0
    replace B1_0 := bx_below B1_0 S1_0 hb
    replace S1_0 := Nat.lt_of_lt_of_le S1_0 hb.size
    replace B4_0 := bx_below B4_0 S4_0 hb
    replace S4_0 := Nat.lt_of_lt_of_le S4_0 hb.size
    replace P0 : Hid (shCatch.Rd w5 w.heap.size g0 [.int .i64 g0.1, .int .i64 g0.2.1, .slice p0a g0.2.2.1.length p0ac]) := Sh.Rd.below P0.out (by have := Z1.out; have := Z2.out; have := Z3.out; have := Z4.out; have := Z5.out; omega) hb
    replace X3 : Hid _ := Own.below X3.out (by have := Z1.out; have := Z2.out; have := Z3.out; have := Z4.out; have := Z5.out; omega) hb
    replace X4 : Hid _ := Own.below X4.out (by have := Z1.out; have := Z2.out; have := Z3.out; have := Z4.out; have := Z5.out; omega) hb
    replace HW : Hid _ := HW.out.trans (hb.mono HW.out.size)
    clear hb
    go_wp2_with fail
    refine (lEqCatchResult C FR V (.slice q5a V.2.2.1.length q5ac) (.slice q3a V.2.2.1.length q3ac) _ _ (Sh.Rd.mono (by have := Z1.out; have := Z2.out; have := Z3.out; have := Z4.out; have := Z5.out; first | exact Nat.le_refl _ | omega | (simp; done) | (simp; omega)) _ _ _ (Sh.Rd.below (B := w5.heap.size) (C := w5.heap.size) (Own.rd X5.out (Nat.le_refl _)) (Nat.le_refl _) (by first | exact Below.refl _ _ | go_grown | exact Below.drew (Below.refl _ _)))) (Sh.Rd.mono (by have := Z1.out; have := Z2.out; have := Z3.out; have := Z4.out; have := Z5.out; first | exact Nat.le_refl _ | omega | (simp; done) | (simp; omega)) _ _ _ (Sh.Rd.below (B := w5.heap.size) (C := w5.heap.size) (Own.rd X3.out (Nat.le_refl _)) (Nat.le_refl _) (by first | exact Below.refl _ _ | go_grown | exact Below.drew (Below.refl _ _)))) (Nat.le_refl _) VT.out).mono ?_
    rintro e w6 ⟨rfl, hb⟩
    have B6_0 := bx_new hb
    obtain ⟨hb, S6_0⟩ := bl_new hb
    have Z6 : Hid (w5.heap.size < w6.heap.size) := S6_0
    replace B1_0 := bx_below B1_0 S1_0 hb
    replace S1_0 := Nat.lt_of_lt_of_le S1_0 hb.size
    replace B4_0 := bx_below B4_0 S4_0 hb
    replace S4_0 := Nat.lt_of_lt_of_le S4_0 hb.size
    replace B5_0 := bx_below B5_0 S5_0 hb
    replace S5_0 := Nat.lt_of_lt_of_le S5_0 hb.size
    replace P0 : Hid (shCatch.Rd w6 w.heap.size g0 [.int .i64 g0.1, .int .i64 g0.2.1, .slice p0a g0.2.2.1.length p0ac]) := Sh.Rd.below P0.out (by have := Z1.out; have := Z2.out; have := Z3.out; have := Z4.out; have := Z5.out; have := Z6.out; omega) hb
    replace X3 : Hid _ := Own.below X3.out (by have := Z1.out; have := Z2.out; have := Z3.out; have := Z4.out; have := Z5.out; have := Z6.out; omega) hb
    replace X4 : Hid _ := Own.below X4.out (by have := Z1.out; have := Z2.out; have := Z3.out; have := Z4.out; have := Z5.out; have := Z6.out; omega) hb
    replace X5 : Hid _ := Own.below X5.out (by have := Z1.out; have := Z2.out; have := Z3.out; have := Z4.out; have := Z5.out; have := Z6.out; omega) hb
    replace HW : Hid _ := HW.out.trans (hb.mono HW.out.size)
    clear hb
    go_wp2_with fail
    have HX : Hid (∀ W, Below w6.heap.size w6 W → shCatch.Rd W w6.heap.size g0 [.int .i64 g0.1, .int .i64 g0.2.1, .slice q4a g0.2.2.1.length q4ac]) := fun W hW => Sh.Rd.below (Own.rd X4.out (Nat.le_refl _)) (Nat.le_refl _) hW
    go_cut [39] (fun u wx => u = .bool false ∧ Below w6.heap.size w6 wx)
    case first =>
      go_region_with (first
        | (go_at_call 9; refine (lToCatch g0 (.slice p0a g0.2.2.1.length p0ac) _ w.heap.size (Sh.Rd.below (C := w6.heap.size) P0.out (by have := Z1.out; have := Z2.out; have := Z3.out; have := Z4.out; have := Z5.out; have := Z6.out; first | omega | (simp; done) | (simp; omega)) (by first | exact Below.refl _ _ | go_grown | exact Below.drew (Below.refl _ _))) (by have := Z1.out; have := Z2.out; have := Z3.out; have := Z4.out; have := Z5.out; have := Z6.out; first | omega | (simp; done) | (simp; omega)) (by omega)).mono ?_; rintro e w7 ⟨u7a, rfl, ho, hb⟩; obtain ⟨q7v, e5, r5, -⟩ := rd_Catch (ho.rd (Nat.le_refl _)); simp only [List.cons.injEq, and_true, true_and] at e5; subst e5; obtain ⟨q7a, q7ac, e5⟩ := row_form r5; simp only [List.cons.injEq, and_true] at e5; subst e5; clear r5; replace hb := bl_drew hb; have HB : Hid _ := hb; have HR : Hid (shCatch.Rd w7 w7.heap.size g0 [.int .i64 g0.1, .int .i64 g0.2.1, .slice q7a g0.2.2.1.length q7ac]) := Own.rd ho (Nat.le_refl _); replace B1_0 := bx_below B1_0 S1_0 hb; replace S1_0 := Nat.lt_of_lt_of_le S1_0 hb.size; replace B4_0 := bx_below B4_0 S4_0 hb; replace S4_0 := Nat.lt_of_lt_of_le S4_0 hb.size; replace B5_0 := bx_below B5_0 S5_0 hb; replace S5_0 := Nat.lt_of_lt_of_le S5_0 hb.size; replace B6_0 := bx_below B6_0 S6_0 hb; replace S6_0 := Nat.lt_of_lt_of_le S6_0 hb.size; clear ho hb)
        | (go_at_call 12; refine (lEqCatch g0 (.slice q4a g0.2.2.1.length q4ac) (.slice q7a g0.2.2.1.length q7ac) _ _ (Sh.Rd.mono HB.out.size _ _ _ (HX.out _ HB.out)) HR.out (Nat.le_refl _) (by omega)).mono ?_; rintro e w' ⟨rfl, hb⟩; have HC : Hid _ := hb; clear hb))
      all_goals (go_wp2_with fail; go_meet; exact ⟨rfl, HB.out.trans (HC.out.mono HB.out.size)⟩)
    case rest =>
    rename World => w7
    obtain ⟨rfl, hb⟩ := hcut
    clear HX
    have Z7 : Hid (w6.heap.size ≤ w7.heap.size) := hb.size
    replace B1_0 := bx_below B1_0 S1_0 hb
    replace S1_0 := Nat.lt_of_lt_of_le S1_0 hb.size
    replace B4_0 := bx_below B4_0 S4_0 hb
    replace S4_0 := Nat.lt_of_lt_of_le S4_0 hb.size
    replace B5_0 := bx_below B5_0 S5_0 hb
    replace S5_0 := Nat.lt_of_lt_of_le S5_0 hb.size
    replace B6_0 := bx_below B6_0 S6_0 hb
    replace S6_0 := Nat.lt_of_lt_of_le S6_0 hb.size
    replace P0 : Hid (shCatch.Rd w7 w.heap.size g0 [.int .i64 g0.1, .int .i64 g0.2.1, .slice p0a g0.2.2.1.length p0ac]) := Sh.Rd.below P0.out (by have := Z1.out; have := Z2.out; have := Z3.out; have := Z4.out; have := Z5.out; have := Z6.out; have := Z7.out; omega) hb
    replace X3 : Hid _ := Own.below X3.out (by have := Z1.out; have := Z2.out; have := Z3.out; have := Z4.out; have := Z5.out; have := Z6.out; have := Z7.out; omega) hb
    replace X4 : Hid _ := Own.below X4.out (by have := Z1.out; have := Z2.out; have := Z3.out; have := Z4.out; have := Z5.out; have := Z6.out; have := Z7.out; omega) hb
    replace X5 : Hid _ := Own.below X5.out (by have := Z1.out; have := Z2.out; have := Z3.out; have := Z4.out; have := Z5.out; have := Z6.out; have := Z7.out; omega) hb
    replace HW : Hid _ := HW.out.trans (hb.mono HW.out.size)
    clear hb
    go_wp2_with fail
    refine (lMarkCatch g0 (.slice q4a g0.2.2.1.length q4ac) (1) _ _ _ (Own.catO X4.out) (by omega) (by omega) (by omega)).mono ?_
    rintro e w8 ⟨rfl, ho, hw⟩
    have Z8 : Hid (w7.heap.size ≤ w8.heap.size) := hw.size
    replace B1_0 := bx_keep B1_0 (hw.block _ S1_0 (by have := Z1.out; have := Z2.out; have := Z3.out; have := Z4.out; have := Z5.out; have := Z6.out; have := Z7.out; have := Z8.out; omega))
    replace S1_0 := Nat.lt_of_lt_of_le S1_0 hw.size
    replace B4_0 := bx_keep B4_0 (hw.block _ S4_0 (by have := Z1.out; have := Z2.out; have := Z3.out; have := Z4.out; have := Z5.out; have := Z6.out; have := Z7.out; have := Z8.out; omega))
    replace S4_0 := Nat.lt_of_lt_of_le S4_0 hw.size
    replace B5_0 := bx_keep B5_0 (hw.block _ S5_0 (by have := Z1.out; have := Z2.out; have := Z3.out; have := Z4.out; have := Z5.out; have := Z6.out; have := Z7.out; have := Z8.out; omega))
    replace S5_0 := Nat.lt_of_lt_of_le S5_0 hw.size
    replace B6_0 := bx_keep B6_0 (hw.block _ S6_0 (by have := Z1.out; have := Z2.out; have := Z3.out; have := Z4.out; have := Z5.out; have := Z6.out; have := Z7.out; have := Z8.out; omega))
    replace S6_0 := Nat.lt_of_lt_of_le S6_0 hw.size
    replace P0 : Hid (shCatch.Rd w8 w.heap.size g0 [.int .i64 g0.1, .int .i64 g0.2.1, .slice p0a g0.2.2.1.length p0ac]) := Sh.Rd.keep (fun b hb => hw.block b (by have := Z1.out; have := Z2.out; have := Z3.out; have := Z4.out; have := Z5.out; have := Z6.out; have := Z7.out; have := Z8.out; omega) (by have := Z1.out; have := Z2.out; have := Z3.out; have := Z4.out; have := Z5.out; have := Z6.out; have := Z7.out; have := Z8.out; omega)) _ _ _ P0.out
    replace X3 : Hid _ := Own.keep X3.out (fun b h1 h2 => hw.block b (by have := Z1.out; have := Z2.out; have := Z3.out; have := Z4.out; have := Z5.out; have := Z6.out; have := Z7.out; have := Z8.out; omega) (by have := Z1.out; have := Z2.out; have := Z3.out; have := Z4.out; have := Z5.out; have := Z6.out; have := Z7.out; have := Z8.out; omega))
    replace X5 : Hid _ := Own.keep X5.out (fun b h1 h2 => hw.block b (by have := Z1.out; have := Z2.out; have := Z3.out; have := Z4.out; have := Z5.out; have := Z6.out; have := Z7.out; have := Z8.out; omega) (by have := Z1.out; have := Z2.out; have := Z3.out; have := Z4.out; have := Z5.out; have := Z6.out; have := Z7.out; have := Z8.out; omega))
    replace X4 : Hid _ := ho
    replace HW : Hid _ := within_below HW.out hw (by have := Z1.out; have := Z2.out; have := Z3.out; have := Z4.out; have := Z5.out; have := Z6.out; have := Z7.out; have := Z8.out; omega) HW.out.size
    clear ho hw
    clear X4
    have hk1 : 0 ≤ (1 : Int) + ((wtCatch g0 : Nat) : Int) := by omega
    have hk2 : decide ((1 : Int) + ((wtCatch g0 : Nat) : Int) < 0) = false := by simp; omega
    go_wp2_with fail
    refine (lEqCatchResult C FR V (.slice q5a V.2.2.1.length q5ac) (.slice q3a V.2.2.1.length q3ac) _ _ (Sh.Rd.mono (by have := Z1.out; have := Z2.out; have := Z3.out; have := Z4.out; have := Z5.out; have := Z6.out; have := Z7.out; have := Z8.out; first | exact Nat.le_refl _ | omega | (simp; done) | (simp; omega)) _ _ _ (Sh.Rd.below (B := w8.heap.size) (C := w8.heap.size) (Own.rd X5.out (Nat.le_refl _)) (Nat.le_refl _) (by first | exact Below.refl _ _ | go_grown | exact Below.drew (Below.refl _ _)))) (Sh.Rd.mono (by have := Z1.out; have := Z2.out; have := Z3.out; have := Z4.out; have := Z5.out; have := Z6.out; have := Z7.out; have := Z8.out; first | exact Nat.le_refl _ | omega | (simp; done) | (simp; omega)) _ _ _ (Sh.Rd.below (B := w8.heap.size) (C := w8.heap.size) (Own.rd X3.out (Nat.le_refl _)) (Nat.le_refl _) (by first | exact Below.refl _ _ | go_grown | exact Below.drew (Below.refl _ _)))) (Nat.le_refl _) VT.out).mono ?_
    rintro e w9 ⟨rfl, hb⟩
    have Z9 : Hid (w8.heap.size ≤ w9.heap.size) := hb.size
    replace B1_0 := bx_below B1_0 S1_0 hb
    replace S1_0 := Nat.lt_of_lt_of_le S1_0 hb.size
    replace B4_0 := bx_below B4_0 S4_0 hb
    replace S4_0 := Nat.lt_of_lt_of_le S4_0 hb.size
    replace B5_0 := bx_below B5_0 S5_0 hb
    replace S5_0 := Nat.lt_of_lt_of_le S5_0 hb.size
    replace B6_0 := bx_below B6_0 S6_0 hb
    replace S6_0 := Nat.lt_of_lt_of_le S6_0 hb.size
    replace P0 : Hid (shCatch.Rd w9 w.heap.size g0 [.int .i64 g0.1, .int .i64 g0.2.1, .slice p0a g0.2.2.1.length p0ac]) := Sh.Rd.below P0.out (by have := Z1.out; have := Z2.out; have := Z3.out; have := Z4.out; have := Z5.out; have := Z6.out; have := Z7.out; have := Z8.out; have := Z9.out; omega) hb
    replace X3 : Hid _ := Own.below X3.out (by have := Z1.out; have := Z2.out; have := Z3.out; have := Z4.out; have := Z5.out; have := Z6.out; have := Z7.out; have := Z8.out; have := Z9.out; omega) hb
    replace X5 : Hid _ := Own.below X5.out (by have := Z1.out; have := Z2.out; have := Z3.out; have := Z4.out; have := Z5.out; have := Z6.out; have := Z7.out; have := Z8.out; have := Z9.out; omega) hb
    replace HW : Hid _ := HW.out.trans (hb.mono HW.out.size)
    clear hb
    go_wp2_with fail
    refine (lMarkCatchResult C FR V (.slice q5a V.2.2.1.length q5ac) 1 _ _ _ X5.out (by first | exact Nat.le_refl _ | omega) VT.out (by omega) (by omega)).mono ?_
    rintro e w10 ⟨rfl, ho, hw⟩
    have Z10 : Hid (w9.heap.size ≤ w10.heap.size) := hw.size
    replace B1_0 := bx_keep B1_0 (hw.block _ S1_0 (by have := Z1.out; have := Z2.out; have := Z3.out; have := Z4.out; have := Z5.out; have := Z6.out; have := Z7.out; have := Z8.out; have := Z9.out; have := Z10.out; omega))
    replace S1_0 := Nat.lt_of_lt_of_le S1_0 hw.size
    replace B4_0 := bx_keep B4_0 (hw.block _ S4_0 (by have := Z1.out; have := Z2.out; have := Z3.out; have := Z4.out; have := Z5.out; have := Z6.out; have := Z7.out; have := Z8.out; have := Z9.out; have := Z10.out; omega))
    replace S4_0 := Nat.lt_of_lt_of_le S4_0 hw.size
    replace B5_0 := bx_keep B5_0 (hw.block _ S5_0 (by have := Z1.out; have := Z2.out; have := Z3.out; have := Z4.out; have := Z5.out; have := Z6.out; have := Z7.out; have := Z8.out; have := Z9.out; have := Z10.out; omega))
    replace S5_0 := Nat.lt_of_lt_of_le S5_0 hw.size
    replace B6_0 := bx_keep B6_0 (hw.block _ S6_0 (by have := Z1.out; have := Z2.out; have := Z3.out; have := Z4.out; have := Z5.out; have := Z6.out; have := Z7.out; have := Z8.out; have := Z9.out; have := Z10.out; omega))
    replace S6_0 := Nat.lt_of_lt_of_le S6_0 hw.size
    replace P0 : Hid (shCatch.Rd w10 w.heap.size g0 [.int .i64 g0.1, .int .i64 g0.2.1, .slice p0a g0.2.2.1.length p0ac]) := Sh.Rd.keep (fun b hb => hw.block b (by have := Z1.out; have := Z2.out; have := Z3.out; have := Z4.out; have := Z5.out; have := Z6.out; have := Z7.out; have := Z8.out; have := Z9.out; have := Z10.out; omega) (by have := Z1.out; have := Z2.out; have := Z3.out; have := Z4.out; have := Z5.out; have := Z6.out; have := Z7.out; have := Z8.out; have := Z9.out; have := Z10.out; omega)) _ _ _ P0.out
    replace X3 : Hid _ := Own.keep X3.out (fun b h1 h2 => hw.block b (by have := Z1.out; have := Z2.out; have := Z3.out; have := Z4.out; have := Z5.out; have := Z6.out; have := Z7.out; have := Z8.out; have := Z9.out; have := Z10.out; omega) (by have := Z1.out; have := Z2.out; have := Z3.out; have := Z4.out; have := Z5.out; have := Z6.out; have := Z7.out; have := Z8.out; have := Z9.out; have := Z10.out; omega))
    replace X5 : Hid _ := ho
    replace HW : Hid _ := within_below HW.out hw (by have := Z1.out; have := Z2.out; have := Z3.out; have := Z4.out; have := Z5.out; have := Z6.out; have := Z7.out; have := Z8.out; have := Z9.out; have := Z10.out; omega) HW.out.size
    clear ho hw
    go_wp2_with fail
    refine (lHeldCatchResult C FR V (.slice q5a V.2.2.1.length q5ac) 1 _ _ (Sh.Rd.mono (by have := Z1.out; have := Z2.out; have := Z3.out; have := Z4.out; have := Z5.out; have := Z6.out; have := Z7.out; have := Z8.out; have := Z9.out; have := Z10.out; first | exact Nat.le_refl _ | omega | (simp; done) | (simp; omega)) _ _ _ (Sh.Rd.below (B := w10.heap.size) (C := w10.heap.size) (Own.rd X5.out (Nat.le_refl _)) (Nat.le_refl _) (by first | exact Below.refl _ _ | go_grown | exact Below.drew (Below.refl _ _)))) (Nat.le_refl _) VT.out (by omega) (by omega)).mono ?_
    rintro e w11 ⟨rfl, hb⟩
    have Z11 : Hid (w10.heap.size ≤ w11.heap.size) := hb.size
    replace B1_0 := bx_below B1_0 S1_0 hb
    replace S1_0 := Nat.lt_of_lt_of_le S1_0 hb.size
    replace B4_0 := bx_below B4_0 S4_0 hb
    replace S4_0 := Nat.lt_of_lt_of_le S4_0 hb.size
    replace B5_0 := bx_below B5_0 S5_0 hb
    replace S5_0 := Nat.lt_of_lt_of_le S5_0 hb.size
    replace B6_0 := bx_below B6_0 S6_0 hb
    replace S6_0 := Nat.lt_of_lt_of_le S6_0 hb.size
    replace P0 : Hid (shCatch.Rd w11 w.heap.size g0 [.int .i64 g0.1, .int .i64 g0.2.1, .slice p0a g0.2.2.1.length p0ac]) := Sh.Rd.below P0.out (by have := Z1.out; have := Z2.out; have := Z3.out; have := Z4.out; have := Z5.out; have := Z6.out; have := Z7.out; have := Z8.out; have := Z9.out; have := Z10.out; have := Z11.out; omega) hb
    replace X3 : Hid _ := Own.below X3.out (by have := Z1.out; have := Z2.out; have := Z3.out; have := Z4.out; have := Z5.out; have := Z6.out; have := Z7.out; have := Z8.out; have := Z9.out; have := Z10.out; have := Z11.out; omega) hb
    replace X5 : Hid _ := Own.below X5.out (by have := Z1.out; have := Z2.out; have := Z3.out; have := Z4.out; have := Z5.out; have := Z6.out; have := Z7.out; have := Z8.out; have := Z9.out; have := Z10.out; have := Z11.out; omega) hb
    replace HW : Hid _ := HW.out.trans (hb.mono HW.out.size)
    clear hb
    go_wp2_with fail
    refine (lToCatch g0 (.slice p0a g0.2.2.1.length p0ac) _ w.heap.size (Sh.Rd.below (C := w11.heap.size) P0.out (by have := Z1.out; have := Z2.out; have := Z3.out; have := Z4.out; have := Z5.out; have := Z6.out; have := Z7.out; have := Z8.out; have := Z9.out; have := Z10.out; have := Z11.out; first | omega | (simp; done) | (simp; omega)) (by first | exact Below.refl _ _ | go_grown | exact Below.drew (Below.refl _ _))) (by have := Z1.out; have := Z2.out; have := Z3.out; have := Z4.out; have := Z5.out; have := Z6.out; have := Z7.out; have := Z8.out; have := Z9.out; have := Z10.out; have := Z11.out; first | omega | (simp; done) | (simp; omega)) (by omega)).mono ?_
    rintro e w12 ⟨u12a, rfl, ho, hb⟩
    obtain ⟨q12v, e5, r5, -⟩ := rd_Catch (ho.rd (Nat.le_refl _))
    simp only [List.cons.injEq, and_true, true_and] at e5
    subst e5
    obtain ⟨q12a, q12ac, e5⟩ := row_form r5
    simp only [List.cons.injEq, and_true] at e5
    subst e5
    clear r5
    have X12 : Hid (Own w12 (w11.heap.size) w12.heap.size shCatch g0 [.int .i64 g0.1, .int .i64 g0.2.1, .slice q12a g0.2.2.1.length q12ac]) := Own.mono ho (by first | exact Nat.le_refl _ | (simp; done) | (simp; omega)) (Nat.le_refl _)
    clear ho
    have Z12 : Hid (w11.heap.size ≤ w12.heap.size) := hb.size
    replace B1_0 := bx_below B1_0 S1_0 hb
    replace S1_0 := Nat.lt_of_lt_of_le S1_0 hb.size
    replace B4_0 := bx_below B4_0 S4_0 hb
    replace S4_0 := Nat.lt_of_lt_of_le S4_0 hb.size
    replace B5_0 := bx_below B5_0 S5_0 hb
    replace S5_0 := Nat.lt_of_lt_of_le S5_0 hb.size
    replace B6_0 := bx_below B6_0 S6_0 hb
    replace S6_0 := Nat.lt_of_lt_of_le S6_0 hb.size
    replace P0 : Hid (shCatch.Rd w12 w.heap.size g0 [.int .i64 g0.1, .int .i64 g0.2.1, .slice p0a g0.2.2.1.length p0ac]) := Sh.Rd.below P0.out (by have := Z1.out; have := Z2.out; have := Z3.out; have := Z4.out; have := Z5.out; have := Z6.out; have := Z7.out; have := Z8.out; have := Z9.out; have := Z10.out; have := Z11.out; have := Z12.out; omega) hb
    replace X3 : Hid _ := Own.below X3.out (by have := Z1.out; have := Z2.out; have := Z3.out; have := Z4.out; have := Z5.out; have := Z6.out; have := Z7.out; have := Z8.out; have := Z9.out; have := Z10.out; have := Z11.out; have := Z12.out; omega) hb
    replace X5 : Hid _ := Own.below X5.out (by have := Z1.out; have := Z2.out; have := Z3.out; have := Z4.out; have := Z5.out; have := Z6.out; have := Z7.out; have := Z8.out; have := Z9.out; have := Z10.out; have := Z11.out; have := Z12.out; omega) hb
    replace HW : Hid _ := HW.out.trans (hb.mono HW.out.size)
    clear hb
    go_wp2_with fail
    refine (CI.out _ _ (.slice q12a g0.2.2.1.length q12ac) (Sh.Rd.mono (by have := Z1.out; have := Z2.out; have := Z3.out; have := Z4.out; have := Z5.out; have := Z6.out; have := Z7.out; have := Z8.out; have := Z9.out; have := Z10.out; have := Z11.out; have := Z12.out; first | exact Nat.le_refl _ | omega | (simp; done) | (simp; omega)) _ _ _ (Sh.Rd.below (B := w12.heap.size) (C := w12.heap.size) (Own.rd X12.out (Nat.le_refl _)) (Nat.le_refl _) (by first | exact Below.refl _ _ | go_grown | exact Below.drew (Below.refl _ _)))) (Nat.le_refl _) (by omega)).mono ?_
    rintro e w13 ⟨u13a, rfl, ho, hb⟩
    obtain ⟨q13v, e5, r5, -⟩ := rd_CatchO (ho.rd (Nat.le_refl _))
    simp only [List.cons.injEq, and_true, true_and] at e5
    subst e5
    obtain ⟨q13a, q13ac, e5⟩ := row_formO r5
    simp only [List.cons.injEq, and_true] at e5
    subst e5
    clear r5
    have X13 : Hid (Own w13 (w12.heap.size) w13.heap.size shCatchO V [.int .i64 V.1, .int .i64 V.2.1, .slice q13a V.2.2.1.length q13ac]) := Own.mono ho (by first | exact Nat.le_refl _ | (simp; done) | (simp; omega)) (Nat.le_refl _)
    clear ho
    have Z13 : Hid (w12.heap.size ≤ w13.heap.size) := hb.size
    replace B1_0 := bx_below B1_0 S1_0 hb
    replace S1_0 := Nat.lt_of_lt_of_le S1_0 hb.size
    replace B4_0 := bx_below B4_0 S4_0 hb
    replace S4_0 := Nat.lt_of_lt_of_le S4_0 hb.size
    replace B5_0 := bx_below B5_0 S5_0 hb
    replace S5_0 := Nat.lt_of_lt_of_le S5_0 hb.size
    replace B6_0 := bx_below B6_0 S6_0 hb
    replace S6_0 := Nat.lt_of_lt_of_le S6_0 hb.size
    replace P0 : Hid (shCatch.Rd w13 w.heap.size g0 [.int .i64 g0.1, .int .i64 g0.2.1, .slice p0a g0.2.2.1.length p0ac]) := Sh.Rd.below P0.out (by have := Z1.out; have := Z2.out; have := Z3.out; have := Z4.out; have := Z5.out; have := Z6.out; have := Z7.out; have := Z8.out; have := Z9.out; have := Z10.out; have := Z11.out; have := Z12.out; have := Z13.out; omega) hb
    replace X3 : Hid _ := Own.below X3.out (by have := Z1.out; have := Z2.out; have := Z3.out; have := Z4.out; have := Z5.out; have := Z6.out; have := Z7.out; have := Z8.out; have := Z9.out; have := Z10.out; have := Z11.out; have := Z12.out; have := Z13.out; omega) hb
    replace X5 : Hid _ := Own.below X5.out (by have := Z1.out; have := Z2.out; have := Z3.out; have := Z4.out; have := Z5.out; have := Z6.out; have := Z7.out; have := Z8.out; have := Z9.out; have := Z10.out; have := Z11.out; have := Z12.out; have := Z13.out; omega) hb
    replace X12 : Hid _ := Own.below X12.out (by have := Z1.out; have := Z2.out; have := Z3.out; have := Z4.out; have := Z5.out; have := Z6.out; have := Z7.out; have := Z8.out; have := Z9.out; have := Z10.out; have := Z11.out; have := Z12.out; have := Z13.out; omega) hb
    replace HW : Hid _ := HW.out.trans (hb.mono HW.out.size)
    clear hb
    clear X12
    go_wp2_with fail
    refine (lEqCatchResult C FR V (.slice q13a V.2.2.1.length q13ac) (.slice q3a V.2.2.1.length q3ac) _ _ (Sh.Rd.mono (by have := Z1.out; have := Z2.out; have := Z3.out; have := Z4.out; have := Z5.out; have := Z6.out; have := Z7.out; have := Z8.out; have := Z9.out; have := Z10.out; have := Z11.out; have := Z12.out; have := Z13.out; first | exact Nat.le_refl _ | omega | (simp; done) | (simp; omega)) _ _ _ (Sh.Rd.below (B := w13.heap.size) (C := w13.heap.size) (Own.rd X13.out (Nat.le_refl _)) (Nat.le_refl _) (by first | exact Below.refl _ _ | go_grown | exact Below.drew (Below.refl _ _)))) (Sh.Rd.mono (by have := Z1.out; have := Z2.out; have := Z3.out; have := Z4.out; have := Z5.out; have := Z6.out; have := Z7.out; have := Z8.out; have := Z9.out; have := Z10.out; have := Z11.out; have := Z12.out; have := Z13.out; first | exact Nat.le_refl _ | omega | (simp; done) | (simp; omega)) _ _ _ (Sh.Rd.below (B := w13.heap.size) (C := w13.heap.size) (Own.rd X3.out (Nat.le_refl _)) (Nat.le_refl _) (by first | exact Below.refl _ _ | go_grown | exact Below.drew (Below.refl _ _)))) (Nat.le_refl _) VT.out).mono ?_
    rintro e w14 ⟨rfl, hb⟩
    have B14_0 := bx_new hb
    obtain ⟨hb, S14_0⟩ := bl_new hb
    have Z14 : Hid (w13.heap.size < w14.heap.size) := S14_0
    replace B1_0 := bx_below B1_0 S1_0 hb
    replace S1_0 := Nat.lt_of_lt_of_le S1_0 hb.size
    replace B4_0 := bx_below B4_0 S4_0 hb
    replace S4_0 := Nat.lt_of_lt_of_le S4_0 hb.size
    replace B5_0 := bx_below B5_0 S5_0 hb
    replace S5_0 := Nat.lt_of_lt_of_le S5_0 hb.size
    replace B6_0 := bx_below B6_0 S6_0 hb
    replace S6_0 := Nat.lt_of_lt_of_le S6_0 hb.size
    replace P0 : Hid (shCatch.Rd w14 w.heap.size g0 [.int .i64 g0.1, .int .i64 g0.2.1, .slice p0a g0.2.2.1.length p0ac]) := Sh.Rd.below P0.out (by have := Z1.out; have := Z2.out; have := Z3.out; have := Z4.out; have := Z5.out; have := Z6.out; have := Z7.out; have := Z8.out; have := Z9.out; have := Z10.out; have := Z11.out; have := Z12.out; have := Z13.out; have := Z14.out; omega) hb
    replace X3 : Hid _ := Own.below X3.out (by have := Z1.out; have := Z2.out; have := Z3.out; have := Z4.out; have := Z5.out; have := Z6.out; have := Z7.out; have := Z8.out; have := Z9.out; have := Z10.out; have := Z11.out; have := Z12.out; have := Z13.out; have := Z14.out; omega) hb
    replace X5 : Hid _ := Own.below X5.out (by have := Z1.out; have := Z2.out; have := Z3.out; have := Z4.out; have := Z5.out; have := Z6.out; have := Z7.out; have := Z8.out; have := Z9.out; have := Z10.out; have := Z11.out; have := Z12.out; have := Z13.out; have := Z14.out; omega) hb
    replace X13 : Hid _ := Own.below X13.out (by have := Z1.out; have := Z2.out; have := Z3.out; have := Z4.out; have := Z5.out; have := Z6.out; have := Z7.out; have := Z8.out; have := Z9.out; have := Z10.out; have := Z11.out; have := Z12.out; have := Z13.out; have := Z14.out; omega) hb
    replace HW : Hid _ := HW.out.trans (hb.mono HW.out.size)
    clear hb
    go_wp2_with fail
    refine (lHeldCatchResult C FR V (.slice q5a V.2.2.1.length q5ac) 1 _ _ (Sh.Rd.mono (by have := Z1.out; have := Z2.out; have := Z3.out; have := Z4.out; have := Z5.out; have := Z6.out; have := Z7.out; have := Z8.out; have := Z9.out; have := Z10.out; have := Z11.out; have := Z12.out; have := Z13.out; have := Z14.out; first | exact Nat.le_refl _ | omega | (simp; done) | (simp; omega)) _ _ _ (Sh.Rd.below (B := w14.heap.size) (C := w14.heap.size) (Own.rd X5.out (Nat.le_refl _)) (Nat.le_refl _) (by first | exact Below.refl _ _ | go_grown | exact Below.drew (Below.refl _ _)))) (Nat.le_refl _) VT.out (by omega) (by omega)).mono ?_
    rintro e w15 ⟨rfl, hb⟩
    have Z15 : Hid (w14.heap.size ≤ w15.heap.size) := hb.size
    replace B1_0 := bx_below B1_0 S1_0 hb
    replace S1_0 := Nat.lt_of_lt_of_le S1_0 hb.size
    replace B4_0 := bx_below B4_0 S4_0 hb
    replace S4_0 := Nat.lt_of_lt_of_le S4_0 hb.size
    replace B5_0 := bx_below B5_0 S5_0 hb
    replace S5_0 := Nat.lt_of_lt_of_le S5_0 hb.size
    replace B6_0 := bx_below B6_0 S6_0 hb
    replace S6_0 := Nat.lt_of_lt_of_le S6_0 hb.size
    replace B14_0 := bx_below B14_0 S14_0 hb
    replace S14_0 := Nat.lt_of_lt_of_le S14_0 hb.size
    replace P0 : Hid (shCatch.Rd w15 w.heap.size g0 [.int .i64 g0.1, .int .i64 g0.2.1, .slice p0a g0.2.2.1.length p0ac]) := Sh.Rd.below P0.out (by have := Z1.out; have := Z2.out; have := Z3.out; have := Z4.out; have := Z5.out; have := Z6.out; have := Z7.out; have := Z8.out; have := Z9.out; have := Z10.out; have := Z11.out; have := Z12.out; have := Z13.out; have := Z14.out; have := Z15.out; omega) hb
    replace X3 : Hid _ := Own.below X3.out (by have := Z1.out; have := Z2.out; have := Z3.out; have := Z4.out; have := Z5.out; have := Z6.out; have := Z7.out; have := Z8.out; have := Z9.out; have := Z10.out; have := Z11.out; have := Z12.out; have := Z13.out; have := Z14.out; have := Z15.out; omega) hb
    replace X5 : Hid _ := Own.below X5.out (by have := Z1.out; have := Z2.out; have := Z3.out; have := Z4.out; have := Z5.out; have := Z6.out; have := Z7.out; have := Z8.out; have := Z9.out; have := Z10.out; have := Z11.out; have := Z12.out; have := Z13.out; have := Z14.out; have := Z15.out; omega) hb
    replace X13 : Hid _ := Own.below X13.out (by have := Z1.out; have := Z2.out; have := Z3.out; have := Z4.out; have := Z5.out; have := Z6.out; have := Z7.out; have := Z8.out; have := Z9.out; have := Z10.out; have := Z11.out; have := Z12.out; have := Z13.out; have := Z14.out; have := Z15.out; omega) hb
    replace HW : Hid _ := HW.out.trans (hb.mono HW.out.size)
    clear hb
    go_wp2_with fail
    go_ret
    exact ⟨rfl, HW.out⟩

set_option maxRecDepth 100000 in
theorem lifted (os : Os) (started : os.Started) (H : Type) (enc : TypeId × Value → H) :
    ReturnsInHanded {} Try.checked os 3 .any (Rows.fnExactTakeSpanSpec.pre6 enc Try.prog Try.f3 Rows.fnExactTakeSpanRow.domain false) (Rows.fnExactTakeSpanSpec.post enc Try.prog Try.f3 false true false false) := by
  refine returnsInHanded_of_change (C := Try.checked) own started (by kernel_rfl) Try.func3
    (ChangeSpec.witness6 (enc := enc) (C := Try.checked) false ⟨#[], #[.agg #[.int .i64 0, .int .i64 0, .slice none 0 0], .int .i64 0, .int .i64 0], []⟩ 8 (by kernel_rfl) (by kernel_rfl) (by kernel_rfl) (by kernel_rfl)) ?_
  intro W base args ds gs before hval0 hW hcnd _
  have hval : ∀ (j : Nat) t v, Try.f3.params[j]? = some t → args[j]? = some v → Value.okWide Try.prog W .any base t v := hval0
  have hW' := hW
  obtain ⟨p, q, hA0, hV, rfl, hfz, hnd⟩ := hW
  have hA : DataW.TrodAll enc Try.prog W 0 (fun _ => true) true Try.f3.params.toList args.toList ds p := hA0
  rw [Try.params3] at hA hval
  obtain ⟨v0, vs0, d0, ds0, p0, q0, hargs, rfl, rfl, h0, r0⟩ := trodAll_cons hA
  obtain ⟨v1, vs1, d1, ds1, p1, q1, rfl, rfl, rfl, h1, r1⟩ := trodAll_cons r0
  obtain ⟨v2, vs2, d2, ds2, p2, q2, rfl, rfl, rfl, h2, r2⟩ := trodAll_cons r1
  obtain ⟨rfl, rfl, rfl⟩ := trodAll_nil r2
  obtain rfl : args = #[v0, v1, v2] := by cases args; simp_all
  obtain ⟨rfl, rfl⟩ := trodVars_none hV
  have lt0 : ∀ x ∈ p0, x.block < W.heap.size := by obtain ⟨m, hm⟩ := h0; exact DataW.trod_lt m _ _ _ hm
  have t0 : ∃ n y, DataW.trod enc Try.prog W 0 (fun _ => true) true n 24 v0.cells.toList = some y := by obtain ⟨m, hm⟩ := h0; exact ⟨m, _, hm⟩
  have lt1 : ∀ x ∈ p1, x.block < W.heap.size := by obtain ⟨m, hm⟩ := h1; exact DataW.trod_lt m _ _ _ hm
  have t1 : ∃ n y, DataW.trod enc Try.prog W 0 (fun _ => true) true n 2 v1.cells.toList = some y := by obtain ⟨m, hm⟩ := h1; exact ⟨m, _, hm⟩
  have lt2 : ∀ x ∈ p2, x.block < W.heap.size := by obtain ⟨m, hm⟩ := h2; exact DataW.trod_lt m _ _ _ hm
  have t2 : ∃ n y, DataW.trod enc Try.prog W 0 (fun _ => true) true n 2 v2.cells.toList = some y := by obtain ⟨m, hm⟩ := h2; exact ⟨m, _, hm⟩
  refine (walk enc v0 v1 v2 W base (hval 0 24 v0 rfl rfl) t0 (hval 1 2 v1 rfl rfl) t1 (hval 2 2 v2 rfl rfl) t2).mono fun e W' ⟨he, bel⟩ => ?_
  subst he
  exact ⟨_, rfl, _, _, _, [], _, [], hW', trodAll_mk1 (shut_bool Try.underlying4 _), (trodAll_cons_mk (Below.trod laidOut (by kernel_rfl) (of_decide_eq_true (by kernel_rfl)) h0 bel lt0) (trodAll_cons_mk (Below.trod laidOut (by kernel_rfl) (of_decide_eq_true (by kernel_rfl)) h1 bel lt1) (trodAll_cons_mk (Below.trod laidOut (by kernel_rfl) (of_decide_eq_true (by kernel_rfl)) h2 bel lt2) trodAll_mk0))), rfl, bel.frame _, fun h => by cases h⟩

theorem over : Rows.fnExactTakeSpanRow.holds Try.pinned (OpenSpec.ofChange Rows.fnExactTakeSpanSpec) :=
  OpenClaim.holds_of_wide 3 Try.f3 rfl rfl rfl rfl rfl rfl rfl ⟨rfl, rfl, rfl, rfl, rfl⟩ rfl rfl rfl rfl rfl (by kernel_rfl) Try.func3 (by kernel_rfl)
    (of_decide_eq_true (by kernel_rfl)) (by unfold Func.isWrapper; first | (rw [if_pos (by decide +kernel)]; kernel_rfl) | (rw [if_neg (by decide +kernel)]; exact ⟨rfl, rfl⟩))
    (fun os started H enc _ => lifted os started H enc)

theorem proved : Rows.FnExactTakeSpanSaid := over
#print axioms proved
end Go.Proofs.Ytmiomnpfjigojan.fnExactTakeSpan

namespace Go.Proofs.Ytmiomnpfjigojan
theorem fnExactTakeSpan_holds : Rows.FnExactTakeSpanSaid := fnExactTakeSpan.proved
end Go.Proofs.Ytmiomnpfjigojan
