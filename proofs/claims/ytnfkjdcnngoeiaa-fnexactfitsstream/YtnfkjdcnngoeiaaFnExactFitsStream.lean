/- Proved: at every gather and stream the program's FitsStream answers as its model does, and both are as they were; no condition. -/
import Derived.Test.YtnfkjdcnngoeiaaRows
import Derived.WalkKit
import Derived.ProofKit
import Derived.OpenShut
import Derived.ShutString
import Derived.ChangeOld
import Derived.Below
import Derived.Test.YtnfkjdcnngoeiaaBase
import Derived.Test.YtnfkjdcnngoeiaaBytes
import Derived.Test.YtnfkjdcnngoeiaaMem
import Derived.Test.YtnfkjdcnngoeiaaMemOpen
import Derived.Test.YtnfkjdcnngoeiaaMemRow
import Derived.Test.YtnfkjdcnngoeiaaGath
import Derived.Test.YtnfkjdcnngoeiaaImplGath
import Derived.Test.YtnfkjdcnngoeiaaGathLaw
import Derived.Test.YtnfkjdcnngoeiaaSpecGath
import Derived.Test.YtnfkjdcnngoeiaaGathOpen
import Derived.Test.YtnfkjdcnngoeiaaBox
import Derived.Test.YtnfkjdcnngoeiaaGathByte
import Derived.Test.YtnfkjdcnngoeiaaStr
import Derived.Test.YtnfkjdcnngoeiaaGathFits
import Derived.Test.YtnfkjdcnngoeiaaGathFit2
import Derived.Test.YtnfkjdcnngoeiaaGathFit3
import Derived.Test.YtnfkjdcnngoeiaaStand
import Derived.Test.YtnfkjdcnngoeiaaGathFit4
namespace Go.Proofs.Ytnfkjdcnngoeiaa.fnExactFitsStream
open Go.ChangeShapes Go.WideShapes Go.ChangeAt Go.RowKit
set_option linter.unusedVariables false

theorem own : ownKnob Try.prog.godebug = none := by kernel_rfl
theorem laidOut : laidOutB Try.prog = true := by kernel_rfl


set_option maxHeartbeats 2000000 in
theorem walk {H : Type} (enc : TypeId × Value → H) (v0 : Value) (v1 : Value) (w : World) (base : Nat)
    (o0 : Value.okWide Try.prog w .any base 25 v0) (t0 : ∃ n y, DataW.trod enc Try.prog w 0 (fun _ => true) true n 25 v0.cells.toList = some y)
    (o1 : Value.okWide Try.prog w .any base 22 v1) (t1 : ∃ n y, DataW.trod enc Try.prog w 0 (fun _ => true) true n 22 v1.cells.toList = some y) :
    Calls Try.prog 3 #[v0, v1] w fun e w' => e = .returned (.bool true) ∧ Below w.heap.size w w' := by
  obtain ⟨g0, y0a, y0b, rfl, ho⟩ := open_gatv o0 t0
  obtain ⟨p0a, p0ac, p0b, p0bc, e5, -, -⟩ := rd_gt ho
  simp only [List.cons.injEq, and_true] at e5
  obtain ⟨rfl, rfl⟩ := e5
  have P0 : Hid (gtS.Rd w w.heap.size g0 [.slice p0a g0.1.length p0ac, .slice p0b g0.2.1.length p0bc]) := ho
  clear ho
  obtain ⟨g1, ho⟩ := open_byv o1 t1
  obtain ⟨p1a, p1ac, e5, -, -, -⟩ := rd_bytes ho
  simp only [List.cons.injEq, and_true] at e5
  subst e5
  have P1 : Hid (u8s.Rd w w.heap.size g1 [.slice p1a g1.length p1ac]) := ho
  clear ho
  clear o0 t0 o1 t1
  have HW : Hid (Below w.heap.size w w) := Below.refl _ _
  have HS : Hid (gtTot g0 ≤ 1048576 → ∀ k (hk : k < g0.2.1.length), g0.2.1[k].2.1.length ≤ 1048576) := fun h k hk => by have := dsum_at hk; unfold gtTot pcsTot at h; omega
  by_cases hbig1 : 1048576 < g1.length
  · have M1 : Hid (g1.length ≤ maxLen) := by have h := P1.out; obtain ⟨_, _, _, h, _⟩ := h; exact Nat.le_trans h.1 h.2
    have M1x : g1.length ≤ 9223372036854775807 := M1.out
    go_enter Try.func3, Try.ntmps3
    go_wp2_with fail
    go_ret
    exact ⟨rfl, by go_grown⟩
  · skip
    obtain ⟨T0, hT0⟩ : ∃ T : Nat, T = gtTot g0 := ⟨_, rfl⟩
    by_cases hbig0 : (1048576 : Int) < (T0 : Int)
    · go_enter Try.func3, Try.ntmps3
      go_wp2_with fail
      have c := fun W R hB => lSzGather g0 (.slice p0a g0.1.length p0ac) (.slice p0b g0.2.1.length p0bc) 1048576 W w.heap.size R hB (by omega) (by omega)
      rw [← hT0, if_pos (show (1048576 : Int) < (T0 : Int) by omega)] at c
      refine (c _ (Sh.Rd.below (C := w.heap.size) P0.out (by first | omega | (simp; done) | (simp; omega)) (by first | exact Below.refl _ _ | go_grown | exact Below.drew (Below.refl _ _))) (by first | omega | (simp; done) | (simp; omega))).mono ?_
      rintro e w1 ⟨rfl, hb⟩
      clear c
      have B1_0 := bx_new hb
      obtain ⟨hb, S1_0⟩ := bl_new hb
      have Z1 : Hid (w.heap.size < w1.heap.size) := S1_0
      replace P0 : Hid (gtS.Rd w1 w.heap.size g0 [.slice p0a g0.1.length p0ac, .slice p0b g0.2.1.length p0bc]) := Sh.Rd.below P0.out (by have := Z1.out; omega) hb
      replace P1 : Hid (u8s.Rd w1 w.heap.size g1 [.slice p1a g1.length p1ac]) := Sh.Rd.below P1.out (by have := Z1.out; omega) hb
      replace HW : Hid _ := HW.out.trans (hb.mono HW.out.size)
      clear hb
      go_wp2_with fail
      go_ret
      exact ⟨rfl, HW.out⟩
    · skip
      go_enter Try.func3, Try.ntmps3
      go_wp2_with fail
      have c := fun W R hB => lSzGather g0 (.slice p0a g0.1.length p0ac) (.slice p0b g0.2.1.length p0bc) 1048576 W w.heap.size R hB (by omega) (by omega)
      rw [← hT0, if_neg (show ¬ ((1048576 : Int) < (T0 : Int)) by omega)] at c
      refine (c _ (Sh.Rd.below (C := w.heap.size) P0.out (by first | omega | (simp; done) | (simp; omega)) (by first | exact Below.refl _ _ | go_grown | exact Below.drew (Below.refl _ _))) (by first | omega | (simp; done) | (simp; omega))).mono ?_
      rintro e w1 ⟨rfl, hb⟩
      clear c
      have B1_0 := bx_new hb
      obtain ⟨hb, S1_0⟩ := bl_new hb
      have Z1 : Hid (w.heap.size < w1.heap.size) := S1_0
      replace P0 : Hid (gtS.Rd w1 w.heap.size g0 [.slice p0a g0.1.length p0ac, .slice p0b g0.2.1.length p0bc]) := Sh.Rd.below P0.out (by have := Z1.out; omega) hb
      replace P1 : Hid (u8s.Rd w1 w.heap.size g1 [.slice p1a g1.length p1ac]) := Sh.Rd.below P1.out (by have := Z1.out; omega) hb
      replace HW : Hid _ := HW.out.trans (hb.mono HW.out.size)
      clear hb
      have hrest : ¬ ((1048576 : Int) - (T0 : Int) < 0) := by omega
      go_wp2_with fail
      refine (lToGather g0 (.slice p0a g0.1.length p0ac) (.slice p0b g0.2.1.length p0bc) _ w.heap.size (Sh.Rd.below (C := w1.heap.size) P0.out (by have := Z1.out; first | omega | (simp; done) | (simp; omega)) (by first | exact Below.refl _ _ | go_grown | exact Below.drew (Below.refl _ _))) (by have := Z1.out; first | omega | (simp; done) | (simp; omega)) (by omega)).mono ?_
      rintro e w2 ⟨u2a, u2b, rfl, ho, hb⟩
      obtain ⟨q2a, q2ac, q2b, q2bc, e5, -, -⟩ := rd_gt (ho.rd (Nat.le_refl _))
      simp only [List.cons.injEq, and_true] at e5
      obtain ⟨rfl, rfl⟩ := e5
      have X2 : Hid (Own w2 w1.heap.size w2.heap.size gtS g0 [.slice q2a g0.1.length q2ac, .slice q2b g0.2.1.length q2bc]) := Own.mono ho (by first | exact Nat.le_refl _ | (simp; done) | (simp; omega)) (Nat.le_refl _)
      clear ho
      have Z2 : Hid (w1.heap.size ≤ w2.heap.size) := hb.size
      replace B1_0 := bx_below B1_0 S1_0 hb
      replace S1_0 := Nat.lt_of_lt_of_le S1_0 hb.size
      replace P0 : Hid (gtS.Rd w2 w.heap.size g0 [.slice p0a g0.1.length p0ac, .slice p0b g0.2.1.length p0bc]) := Sh.Rd.below P0.out (by have := Z1.out; have := Z2.out; omega) hb
      replace P1 : Hid (u8s.Rd w2 w.heap.size g1 [.slice p1a g1.length p1ac]) := Sh.Rd.below P1.out (by have := Z1.out; have := Z2.out; omega) hb
      replace HW : Hid _ := HW.out.trans (hb.mono HW.out.size)
      clear hb
      go_wp2_with fail
      refine (lToBytesO g1 (.slice p1a g1.length p1ac) _ w.heap.size (Sh.Rd.below (C := w2.heap.size) P1.out (by have := Z1.out; have := Z2.out; first | omega | (simp; done) | (simp; omega)) (by first | exact Below.refl _ _ | go_grown | exact Below.drew (Below.refl _ _))) (by omega)).mono ?_
      rintro e w3 ⟨u3a, rfl, ho, hb⟩
      obtain ⟨q3a, q3ac, e5, -, -, -⟩ := rd_bytes (ho.rd (Nat.le_refl _))
      simp only [List.cons.injEq, and_true] at e5
      subst e5
      have X3 : Hid (Own w3 w2.heap.size w3.heap.size u8s g1 [.slice q3a g1.length q3ac]) := Own.mono ho (by first | exact Nat.le_refl _ | (simp; done) | (simp; omega)) (Nat.le_refl _)
      clear ho
      have Z3 : Hid (w2.heap.size ≤ w3.heap.size) := hb.size
      replace B1_0 := bx_below B1_0 S1_0 hb
      replace S1_0 := Nat.lt_of_lt_of_le S1_0 hb.size
      replace P0 : Hid (gtS.Rd w3 w.heap.size g0 [.slice p0a g0.1.length p0ac, .slice p0b g0.2.1.length p0bc]) := Sh.Rd.below P0.out (by have := Z1.out; have := Z2.out; have := Z3.out; omega) hb
      replace P1 : Hid (u8s.Rd w3 w.heap.size g1 [.slice p1a g1.length p1ac]) := Sh.Rd.below P1.out (by have := Z1.out; have := Z2.out; have := Z3.out; omega) hb
      replace X2 : Hid _ := Own.below X2.out (by have := Z1.out; have := Z2.out; have := Z3.out; omega) hb
      replace HW : Hid _ := HW.out.trans (hb.mono HW.out.size)
      clear hb
      go_wp2_with fail
      refine (sFitsStream g0 (.slice q2a g0.1.length q2ac) (.slice q2b g0.2.1.length q2bc) g1 q3a q3ac _ _ (Sh.Rd.mono (by have := Z1.out; have := Z2.out; have := Z3.out; first | exact Nat.le_refl _ | omega | (simp; done) | (simp; omega)) _ _ _ (Sh.Rd.below (B := w3.heap.size) (C := w3.heap.size) (Own.rd X2.out (Nat.le_refl _)) (Nat.le_refl _) (by first | exact Below.refl _ _ | go_grown | exact Below.drew (Below.refl _ _)))) (Sh.Rd.mono (by have := Z1.out; have := Z2.out; have := Z3.out; first | exact Nat.le_refl _ | omega | (simp; done) | (simp; omega)) _ _ _ (Sh.Rd.below (B := w3.heap.size) (C := w3.heap.size) (Own.rd X3.out (Nat.le_refl _)) (Nat.le_refl _) (by first | exact Below.refl _ _ | go_grown | exact Below.drew (Below.refl _ _)))) (Nat.le_refl _) (by omega) (HS.out (by omega))).mono ?_
      rintro e w4 ⟨rfl, hb⟩
      have Z4 : Hid (w3.heap.size ≤ w4.heap.size) := hb.size
      replace B1_0 := bx_below B1_0 S1_0 hb
      replace S1_0 := Nat.lt_of_lt_of_le S1_0 hb.size
      replace P0 : Hid (gtS.Rd w4 w.heap.size g0 [.slice p0a g0.1.length p0ac, .slice p0b g0.2.1.length p0bc]) := Sh.Rd.below P0.out (by have := Z1.out; have := Z2.out; have := Z3.out; have := Z4.out; omega) hb
      replace P1 : Hid (u8s.Rd w4 w.heap.size g1 [.slice p1a g1.length p1ac]) := Sh.Rd.below P1.out (by have := Z1.out; have := Z2.out; have := Z3.out; have := Z4.out; omega) hb
      replace X2 : Hid _ := Own.below X2.out (by have := Z1.out; have := Z2.out; have := Z3.out; have := Z4.out; omega) hb
      replace X3 : Hid _ := Own.below X3.out (by have := Z1.out; have := Z2.out; have := Z3.out; have := Z4.out; omega) hb
      replace HW : Hid _ := HW.out.trans (hb.mono HW.out.size)
      clear hb
      clear X2
      clear X3
      go_wp2_with fail
      refine (lToGather g0 (.slice p0a g0.1.length p0ac) (.slice p0b g0.2.1.length p0bc) _ w.heap.size (Sh.Rd.below (C := w4.heap.size) P0.out (by have := Z1.out; have := Z2.out; have := Z3.out; have := Z4.out; first | omega | (simp; done) | (simp; omega)) (by first | exact Below.refl _ _ | go_grown | exact Below.drew (Below.refl _ _))) (by have := Z1.out; have := Z2.out; have := Z3.out; have := Z4.out; first | omega | (simp; done) | (simp; omega)) (by omega)).mono ?_
      rintro e w5 ⟨u5a, u5b, rfl, ho, hb⟩
      obtain ⟨q5a, q5ac, q5b, q5bc, e5, -, -⟩ := rd_gt (ho.rd (Nat.le_refl _))
      simp only [List.cons.injEq, and_true] at e5
      obtain ⟨rfl, rfl⟩ := e5
      have X5 : Hid (Own w5 w4.heap.size w5.heap.size gtS g0 [.slice q5a g0.1.length q5ac, .slice q5b g0.2.1.length q5bc]) := Own.mono ho (by first | exact Nat.le_refl _ | (simp; done) | (simp; omega)) (Nat.le_refl _)
      clear ho
      have Z5 : Hid (w4.heap.size ≤ w5.heap.size) := hb.size
      replace B1_0 := bx_below B1_0 S1_0 hb
      replace S1_0 := Nat.lt_of_lt_of_le S1_0 hb.size
      replace P0 : Hid (gtS.Rd w5 w.heap.size g0 [.slice p0a g0.1.length p0ac, .slice p0b g0.2.1.length p0bc]) := Sh.Rd.below P0.out (by have := Z1.out; have := Z2.out; have := Z3.out; have := Z4.out; have := Z5.out; omega) hb
      replace P1 : Hid (u8s.Rd w5 w.heap.size g1 [.slice p1a g1.length p1ac]) := Sh.Rd.below P1.out (by have := Z1.out; have := Z2.out; have := Z3.out; have := Z4.out; have := Z5.out; omega) hb
      replace HW : Hid _ := HW.out.trans (hb.mono HW.out.size)
      clear hb
      go_wp2_with fail
      refine (lToBytesO g1 (.slice p1a g1.length p1ac) _ w.heap.size (Sh.Rd.below (C := w5.heap.size) P1.out (by have := Z1.out; have := Z2.out; have := Z3.out; have := Z4.out; have := Z5.out; first | omega | (simp; done) | (simp; omega)) (by first | exact Below.refl _ _ | go_grown | exact Below.drew (Below.refl _ _))) (by omega)).mono ?_
      rintro e w6 ⟨u6a, rfl, ho, hb⟩
      obtain ⟨q6a, q6ac, e5, -, -, -⟩ := rd_bytes (ho.rd (Nat.le_refl _))
      simp only [List.cons.injEq, and_true] at e5
      subst e5
      have X6 : Hid (Own w6 w5.heap.size w6.heap.size u8s g1 [.slice q6a g1.length q6ac]) := Own.mono ho (by first | exact Nat.le_refl _ | (simp; done) | (simp; omega)) (Nat.le_refl _)
      clear ho
      have B6_0 := bx_new hb
      obtain ⟨hb, S6_0⟩ := bl_new hb
      have Z6 : Hid (w5.heap.size < w6.heap.size) := S6_0
      replace B1_0 := bx_below B1_0 S1_0 hb
      replace S1_0 := Nat.lt_of_lt_of_le S1_0 hb.size
      replace P0 : Hid (gtS.Rd w6 w.heap.size g0 [.slice p0a g0.1.length p0ac, .slice p0b g0.2.1.length p0bc]) := Sh.Rd.below P0.out (by have := Z1.out; have := Z2.out; have := Z3.out; have := Z4.out; have := Z5.out; have := Z6.out; omega) hb
      replace P1 : Hid (u8s.Rd w6 w.heap.size g1 [.slice p1a g1.length p1ac]) := Sh.Rd.below P1.out (by have := Z1.out; have := Z2.out; have := Z3.out; have := Z4.out; have := Z5.out; have := Z6.out; omega) hb
      replace X5 : Hid _ := Own.below X5.out (by have := Z1.out; have := Z2.out; have := Z3.out; have := Z4.out; have := Z5.out; have := Z6.out; omega) hb
      replace HW : Hid _ := HW.out.trans (hb.mono HW.out.size)
      clear hb
      go_wp2_with fail
      refine (iFitsStream g0 (.slice q5a g0.1.length q5ac) (.slice q5b g0.2.1.length q5bc) g1 q6a q6ac _ _ (Sh.Rd.mono (by have := Z1.out; have := Z2.out; have := Z3.out; have := Z4.out; have := Z5.out; have := Z6.out; first | exact Nat.le_refl _ | omega | (simp; done) | (simp; omega)) _ _ _ (Sh.Rd.below (B := w6.heap.size) (C := w6.heap.size) (Own.rd X5.out (Nat.le_refl _)) (Nat.le_refl _) (by first | exact Below.refl _ _ | go_grown | exact Below.drew (Below.refl _ _)))) (Sh.Rd.mono (by have := Z1.out; have := Z2.out; have := Z3.out; have := Z4.out; have := Z5.out; have := Z6.out; first | exact Nat.le_refl _ | omega | (simp; done) | (simp; omega)) _ _ _ (Sh.Rd.below (B := w6.heap.size) (C := w6.heap.size) (Own.rd X6.out (Nat.le_refl _)) (Nat.le_refl _) (by first | exact Below.refl _ _ | go_grown | exact Below.drew (Below.refl _ _)))) (Nat.le_refl _) (by omega)).mono ?_
      rintro e w7 ⟨rfl, hb⟩
      have Z7 : Hid (w6.heap.size ≤ w7.heap.size) := hb.size
      replace B1_0 := bx_below B1_0 S1_0 hb
      replace S1_0 := Nat.lt_of_lt_of_le S1_0 hb.size
      replace B6_0 := bx_below B6_0 S6_0 hb
      replace S6_0 := Nat.lt_of_lt_of_le S6_0 hb.size
      replace P0 : Hid (gtS.Rd w7 w.heap.size g0 [.slice p0a g0.1.length p0ac, .slice p0b g0.2.1.length p0bc]) := Sh.Rd.below P0.out (by have := Z1.out; have := Z2.out; have := Z3.out; have := Z4.out; have := Z5.out; have := Z6.out; have := Z7.out; omega) hb
      replace P1 : Hid (u8s.Rd w7 w.heap.size g1 [.slice p1a g1.length p1ac]) := Sh.Rd.below P1.out (by have := Z1.out; have := Z2.out; have := Z3.out; have := Z4.out; have := Z5.out; have := Z6.out; have := Z7.out; omega) hb
      replace X5 : Hid _ := Own.below X5.out (by have := Z1.out; have := Z2.out; have := Z3.out; have := Z4.out; have := Z5.out; have := Z6.out; have := Z7.out; omega) hb
      replace X6 : Hid _ := Own.below X6.out (by have := Z1.out; have := Z2.out; have := Z3.out; have := Z4.out; have := Z5.out; have := Z6.out; have := Z7.out; omega) hb
      replace HW : Hid _ := HW.out.trans (hb.mono HW.out.size)
      clear hb
      go_wp2_with fail
      have HX : Hid (∀ W, Below w7.heap.size w7 W → gtS.Rd W w7.heap.size g0 [.slice q5a g0.1.length q5ac, .slice q5b g0.2.1.length q5bc]) := fun W hW => Sh.Rd.below (Own.rd X5.out (Nat.le_refl _)) (Nat.le_refl _) hW
      go_cut [37] (fun u wx => u = .bool false ∧ Below w7.heap.size w7 wx)
      case first =>
        go_region_with (first
          | (go_at_call 6; refine (lToGather g0 (.slice p0a g0.1.length p0ac) (.slice p0b g0.2.1.length p0bc) _ w.heap.size (Sh.Rd.below (C := w7.heap.size) P0.out (by have := Z1.out; have := Z2.out; have := Z3.out; have := Z4.out; have := Z5.out; have := Z6.out; have := Z7.out; first | omega | (simp; done) | (simp; omega)) (by first | exact Below.refl _ _ | go_grown | exact Below.drew (Below.refl _ _))) (by have := Z1.out; have := Z2.out; have := Z3.out; have := Z4.out; have := Z5.out; have := Z6.out; have := Z7.out; first | omega | (simp; done) | (simp; omega)) (by omega)).mono ?_; rintro e w8 ⟨u8a, u8b, rfl, ho, hb⟩; obtain ⟨q8a, q8ac, q8b, q8bc, e5, -, -⟩ := rd_gt (ho.rd (Nat.le_refl _)); simp only [List.cons.injEq, and_true] at e5; obtain ⟨rfl, rfl⟩ := e5; replace hb := bl_drew hb; have HB : Hid _ := hb; have HR : Hid (gtS.Rd w8 w8.heap.size g0 [.slice q8a g0.1.length q8ac, .slice q8b g0.2.1.length q8bc]) := Own.rd ho (Nat.le_refl _); replace B1_0 := bx_below B1_0 S1_0 hb; replace S1_0 := Nat.lt_of_lt_of_le S1_0 hb.size; replace B6_0 := bx_below B6_0 S6_0 hb; replace S6_0 := Nat.lt_of_lt_of_le S6_0 hb.size; clear ho hb)
          | (go_at_call 9; refine (lEqGather g0 (.slice q5a g0.1.length q5ac) (.slice q5b g0.2.1.length q5bc) (.slice q8a g0.1.length q8ac) (.slice q8b g0.2.1.length q8bc) _ _ (Sh.Rd.mono HB.out.size _ _ _ (HX.out _ HB.out)) HR.out (Nat.le_refl _) (by omega)).mono ?_; rintro e w' ⟨rfl, hb⟩; have HC : Hid _ := hb; clear hb))
        all_goals (go_wp2_with fail; go_meet; exact ⟨rfl, HB.out.trans (HC.out.mono HB.out.size)⟩)
      case rest =>
      rename World => w8
      obtain ⟨rfl, hb⟩ := hcut
      clear HX
      have Z8 : Hid (w7.heap.size ≤ w8.heap.size) := hb.size
      replace B1_0 := bx_below B1_0 S1_0 hb
      replace S1_0 := Nat.lt_of_lt_of_le S1_0 hb.size
      replace B6_0 := bx_below B6_0 S6_0 hb
      replace S6_0 := Nat.lt_of_lt_of_le S6_0 hb.size
      replace P0 : Hid (gtS.Rd w8 w.heap.size g0 [.slice p0a g0.1.length p0ac, .slice p0b g0.2.1.length p0bc]) := Sh.Rd.below P0.out (by have := Z1.out; have := Z2.out; have := Z3.out; have := Z4.out; have := Z5.out; have := Z6.out; have := Z7.out; have := Z8.out; omega) hb
      replace P1 : Hid (u8s.Rd w8 w.heap.size g1 [.slice p1a g1.length p1ac]) := Sh.Rd.below P1.out (by have := Z1.out; have := Z2.out; have := Z3.out; have := Z4.out; have := Z5.out; have := Z6.out; have := Z7.out; have := Z8.out; omega) hb
      replace X5 : Hid _ := Own.below X5.out (by have := Z1.out; have := Z2.out; have := Z3.out; have := Z4.out; have := Z5.out; have := Z6.out; have := Z7.out; have := Z8.out; omega) hb
      replace X6 : Hid _ := Own.below X6.out (by have := Z1.out; have := Z2.out; have := Z3.out; have := Z4.out; have := Z5.out; have := Z6.out; have := Z7.out; have := Z8.out; omega) hb
      replace HW : Hid _ := HW.out.trans (hb.mono HW.out.size)
      clear hb
      go_wp2_with fail
      refine (lToBytesO g1 (.slice p1a g1.length p1ac) _ w.heap.size (Sh.Rd.below (C := w8.heap.size) P1.out (by have := Z1.out; have := Z2.out; have := Z3.out; have := Z4.out; have := Z5.out; have := Z6.out; have := Z7.out; have := Z8.out; first | omega | (simp; done) | (simp; omega)) (by first | exact Below.refl _ _ | go_grown | exact Below.drew (Below.refl _ _))) (by omega)).mono ?_
      rintro e w9 ⟨u9a, rfl, ho, hb⟩
      obtain ⟨q9a, q9ac, e5, -, -, -⟩ := rd_bytes (ho.rd (Nat.le_refl _))
      simp only [List.cons.injEq, and_true] at e5
      subst e5
      have X9 : Hid (Own w9 w8.heap.size w9.heap.size u8s g1 [.slice q9a g1.length q9ac]) := Own.mono ho (by first | exact Nat.le_refl _ | (simp; done) | (simp; omega)) (Nat.le_refl _)
      clear ho
      have Z9 : Hid (w8.heap.size ≤ w9.heap.size) := hb.size
      replace B1_0 := bx_below B1_0 S1_0 hb
      replace S1_0 := Nat.lt_of_lt_of_le S1_0 hb.size
      replace B6_0 := bx_below B6_0 S6_0 hb
      replace S6_0 := Nat.lt_of_lt_of_le S6_0 hb.size
      replace P0 : Hid (gtS.Rd w9 w.heap.size g0 [.slice p0a g0.1.length p0ac, .slice p0b g0.2.1.length p0bc]) := Sh.Rd.below P0.out (by have := Z1.out; have := Z2.out; have := Z3.out; have := Z4.out; have := Z5.out; have := Z6.out; have := Z7.out; have := Z8.out; have := Z9.out; omega) hb
      replace P1 : Hid (u8s.Rd w9 w.heap.size g1 [.slice p1a g1.length p1ac]) := Sh.Rd.below P1.out (by have := Z1.out; have := Z2.out; have := Z3.out; have := Z4.out; have := Z5.out; have := Z6.out; have := Z7.out; have := Z8.out; have := Z9.out; omega) hb
      replace X5 : Hid _ := Own.below X5.out (by have := Z1.out; have := Z2.out; have := Z3.out; have := Z4.out; have := Z5.out; have := Z6.out; have := Z7.out; have := Z8.out; have := Z9.out; omega) hb
      replace X6 : Hid _ := Own.below X6.out (by have := Z1.out; have := Z2.out; have := Z3.out; have := Z4.out; have := Z5.out; have := Z6.out; have := Z7.out; have := Z8.out; have := Z9.out; omega) hb
      replace HW : Hid _ := HW.out.trans (hb.mono HW.out.size)
      clear hb
      go_wp2_with fail
      refine (lEqBytesO g1 (.slice q6a g1.length q6ac) (.slice q9a g1.length q9ac) _ _ _ (Sh.Rd.mono (by have := Z1.out; have := Z2.out; have := Z3.out; have := Z4.out; have := Z5.out; have := Z6.out; have := Z7.out; have := Z8.out; have := Z9.out; first | exact Nat.le_refl _ | omega | (simp; done) | (simp; omega)) _ _ _ (Sh.Rd.below (B := w9.heap.size) (C := w9.heap.size) (Own.rd X6.out (Nat.le_refl _)) (Nat.le_refl _) (by first | exact Below.refl _ _ | go_grown | exact Below.drew (Below.refl _ _)))) (Sh.Rd.mono (by have := Z1.out; have := Z2.out; have := Z3.out; have := Z4.out; have := Z5.out; have := Z6.out; have := Z7.out; have := Z8.out; have := Z9.out; first | exact Nat.le_refl _ | omega | (simp; done) | (simp; omega)) _ _ _ (Sh.Rd.below (B := w9.heap.size) (C := w9.heap.size) (Own.rd X9.out (Nat.le_refl _)) (Nat.le_refl _) (by first | exact Below.refl _ _ | go_grown | exact Below.drew (Below.refl _ _)))) (by omega)).mono ?_
      rintro e w10 ⟨rfl, hb⟩
      have Z10 : Hid (w9.heap.size ≤ w10.heap.size) := hb.size
      replace B1_0 := bx_below B1_0 S1_0 hb
      replace S1_0 := Nat.lt_of_lt_of_le S1_0 hb.size
      replace B6_0 := bx_below B6_0 S6_0 hb
      replace S6_0 := Nat.lt_of_lt_of_le S6_0 hb.size
      replace P0 : Hid (gtS.Rd w10 w.heap.size g0 [.slice p0a g0.1.length p0ac, .slice p0b g0.2.1.length p0bc]) := Sh.Rd.below P0.out (by have := Z1.out; have := Z2.out; have := Z3.out; have := Z4.out; have := Z5.out; have := Z6.out; have := Z7.out; have := Z8.out; have := Z9.out; have := Z10.out; omega) hb
      replace P1 : Hid (u8s.Rd w10 w.heap.size g1 [.slice p1a g1.length p1ac]) := Sh.Rd.below P1.out (by have := Z1.out; have := Z2.out; have := Z3.out; have := Z4.out; have := Z5.out; have := Z6.out; have := Z7.out; have := Z8.out; have := Z9.out; have := Z10.out; omega) hb
      replace X5 : Hid _ := Own.below X5.out (by have := Z1.out; have := Z2.out; have := Z3.out; have := Z4.out; have := Z5.out; have := Z6.out; have := Z7.out; have := Z8.out; have := Z9.out; have := Z10.out; omega) hb
      replace X6 : Hid _ := Own.below X6.out (by have := Z1.out; have := Z2.out; have := Z3.out; have := Z4.out; have := Z5.out; have := Z6.out; have := Z7.out; have := Z8.out; have := Z9.out; have := Z10.out; omega) hb
      replace X9 : Hid _ := Own.below X9.out (by have := Z1.out; have := Z2.out; have := Z3.out; have := Z4.out; have := Z5.out; have := Z6.out; have := Z7.out; have := Z8.out; have := Z9.out; have := Z10.out; omega) hb
      replace HW : Hid _ := HW.out.trans (hb.mono HW.out.size)
      clear hb
      go_wp2_with fail
      go_ret
      exact ⟨rfl, HW.out⟩

set_option maxRecDepth 100000 in
theorem lifted (os : Os) (started : os.Started) (H : Type) (enc : TypeId × Value → H) :
    ReturnsInHanded {} Try.checked os 3 .any (Rows.fnExactFitsStreamSpec.pre6 enc Try.prog Try.f3 Rows.fnExactFitsStreamRow.domain false) (Rows.fnExactFitsStreamSpec.post enc Try.prog Try.f3 false true false false) := by
  refine returnsInHanded_of_change (C := Try.checked) own started (by kernel_rfl) Try.func3
    (ChangeSpec.witness6 (enc := enc) (C := Try.checked) false ⟨#[], #[.agg #[.slice none 0 0, .slice none 0 0], .slice none 0 0], []⟩ 8 (by kernel_rfl) (by kernel_rfl) (by kernel_rfl) (by kernel_rfl)) ?_
  intro W base args ds gs before hval0 hW hcnd _
  have hval : ∀ (j : Nat) t v, Try.f3.params[j]? = some t → args[j]? = some v → Value.okWide Try.prog W .any base t v := hval0
  have hW' := hW
  obtain ⟨p, q, hA0, hV, rfl, hfz, hnd⟩ := hW
  have hA : DataW.TrodAll enc Try.prog W 0 (fun _ => true) true Try.f3.params.toList args.toList ds p := hA0
  rw [Try.params3] at hA hval
  obtain ⟨v0, vs0, d0, ds0, p0, q0, hargs, rfl, rfl, h0, r0⟩ := trodAll_cons hA
  obtain ⟨v1, vs1, d1, ds1, p1, q1, rfl, rfl, rfl, h1, r1⟩ := trodAll_cons r0
  obtain ⟨rfl, rfl, rfl⟩ := trodAll_nil r1
  obtain rfl : args = #[v0, v1] := by cases args; simp_all
  obtain ⟨rfl, rfl⟩ := trodVars_none hV
  have lt0 : ∀ x ∈ p0, x.block < W.heap.size := by obtain ⟨m, hm⟩ := h0; exact DataW.trod_lt m _ _ _ hm
  have t0 : ∃ n y, DataW.trod enc Try.prog W 0 (fun _ => true) true n 25 v0.cells.toList = some y := by obtain ⟨m, hm⟩ := h0; exact ⟨m, _, hm⟩
  have lt1 : ∀ x ∈ p1, x.block < W.heap.size := by obtain ⟨m, hm⟩ := h1; exact DataW.trod_lt m _ _ _ hm
  have t1 : ∃ n y, DataW.trod enc Try.prog W 0 (fun _ => true) true n 22 v1.cells.toList = some y := by obtain ⟨m, hm⟩ := h1; exact ⟨m, _, hm⟩
  refine (walk enc v0 v1 W base (hval 0 25 v0 rfl rfl) t0 (hval 1 22 v1 rfl rfl) t1).mono fun e W' ⟨he, bel⟩ => ?_
  subst he
  exact ⟨_, rfl, _, _, _, [], _, [], hW', trodAll_mk1 (shut_bool Try.underlying4 _), (trodAll_cons_mk (Below.trod laidOut (by kernel_rfl) (of_decide_eq_true (by kernel_rfl)) h0 bel lt0) (trodAll_cons_mk (Below.trod laidOut (by kernel_rfl) (of_decide_eq_true (by kernel_rfl)) h1 bel lt1) trodAll_mk0)), rfl, bel.frame _, fun h => by cases h⟩

theorem over : Rows.fnExactFitsStreamRow.holds Try.pinned (OpenSpec.ofChange Rows.fnExactFitsStreamSpec) :=
  OpenClaim.holds_of_wide 3 Try.f3 rfl rfl rfl rfl rfl rfl rfl ⟨rfl, rfl, rfl, rfl, rfl⟩ rfl rfl rfl rfl rfl (by kernel_rfl) Try.func3 (by kernel_rfl)
    (of_decide_eq_true (by kernel_rfl)) (by unfold Func.isWrapper; first | (rw [if_pos (by decide +kernel)]; kernel_rfl) | (rw [if_neg (by decide +kernel)]; exact ⟨rfl, rfl⟩))
    (fun os started H enc _ => lifted os started H enc)

theorem proved : Rows.FnExactFitsStreamSaid := over
#print axioms proved
end Go.Proofs.Ytnfkjdcnngoeiaa.fnExactFitsStream

namespace Go.Proofs.Ytnfkjdcnngoeiaa
theorem fnExactFitsStream_holds : Rows.FnExactFitsStreamSaid := fnExactFitsStream.proved
end Go.Proofs.Ytnfkjdcnngoeiaa
