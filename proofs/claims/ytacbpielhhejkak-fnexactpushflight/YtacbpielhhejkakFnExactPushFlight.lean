/- Proved: at every sender, place, load and tick the program's PushFlight answers as its model does, code and sender; sender and load are as they were; the answer owns its memory; no condition. -/
import Derived.Test.YtacbpielhhejkakRows
import Derived.WalkKit
import Derived.ProofKit
import Derived.OpenShut
import Derived.ShutString
import Derived.ChangeOld
import Derived.Below
import Derived.Test.YtacbpielhhejkakBase
import Derived.Test.YtacbpielhhejkakBytes
import Derived.Test.YtacbpielhhejkakMem
import Derived.Test.YtacbpielhhejkakMemOpen
import Derived.Test.YtacbpielhhejkakMemRow
import Derived.Test.YtacbpielhhejkakHBase
import Derived.Test.YtacbpielhhejkakHFlight
import Derived.Test.YtacbpielhhejkakHSender
import Derived.Test.YtacbpielhhejkakHOpen
import Derived.Test.YtacbpielhhejkakBox
import Derived.Test.YtacbpielhhejkakNum
import Derived.Test.YtacbpielhhejkakNumWalks
import Derived.Test.YtacbpielhhejkakFlightDef
import Derived.Test.YtacbpielhhejkakSpecFlight
import Derived.Test.YtacbpielhhejkakSpecFlight2
import Derived.Test.YtacbpielhhejkakAppBytes
import Derived.Test.YtacbpielhhejkakApp
import Derived.Test.YtacbpielhhejkakMemApp
import Derived.Test.YtacbpielhhejkakSpecFlight3
import Derived.Test.YtacbpielhhejkakHMark
import Derived.Test.YtacbpielhhejkakMFlight
import Derived.Test.YtacbpielhhejkakMSender
import Derived.Test.YtacbpielhhejkakHBytes
import Derived.Test.YtacbpielhhejkakSpecFlight4
import Derived.Test.YtacbpielhhejkakImplFlight
import Derived.Test.YtacbpielhhejkakImplCopy
import Derived.Test.YtacbpielhhejkakImplFlight4
namespace Go.Proofs.Ytacbpielhhejkak.fnExactPushFlight
open Go.ChangeShapes Go.WideShapes Go.ChangeAt Go.RowKit
set_option linter.unusedVariables false

theorem own : ownKnob Try.prog.godebug = none := by kernel_rfl
theorem laidOut : laidOutB Try.prog = true := by kernel_rfl


set_option maxHeartbeats 8000000 in
set_option maxRecDepth 8000 in
theorem walk {H : Type} (enc : TypeId × Value → H) (v0 : Value) (v1 : Value) (v2 : Value) (v3 : Value) (w : World) (base : Nat)
    (o0 : Value.okWide Try.prog w .any base 30 v0) (t0 : ∃ n y, DataW.trod enc Try.prog w 0 (fun _ => true) true n 30 v0.cells.toList = some y)
    (o1 : Value.okWide Try.prog w .any base 2 v1) (t1 : ∃ n y, DataW.trod enc Try.prog w 0 (fun _ => true) true n 2 v1.cells.toList = some y)
    (o2 : Value.okWide Try.prog w .any base 44 v2) (t2 : ∃ n y, DataW.trod enc Try.prog w 0 (fun _ => true) true n 44 v2.cells.toList = some y)
    (o3 : Value.okWide Try.prog w .any base 2 v3) (t3 : ∃ n y, DataW.trod enc Try.prog w 0 (fun _ => true) true n 2 v3.cells.toList = some y) :
    Calls Try.prog 7 #[v0, v1, v2, v3] w fun e w' => e = .returned (.bool true) ∧ Below w.heap.size w w' := by
  obtain ⟨g0, y0a, rfl, ho⟩ := open_Sender o0 t0
  obtain ⟨p0v, e5, r5, -⟩ := rd_Sender ho
  simp only [List.cons.injEq, and_true, true_and] at e5
  subst e5
  obtain ⟨p0a, p0ac, e5⟩ := row_form r5
  simp only [List.cons.injEq, and_true] at e5
  subst e5
  clear r5
  have P0 : Hid (shSender.Rd w w.heap.size g0 [.int .i64 g0.1, .int .i64 g0.2.1, .int .i64 g0.2.2.1, .slice p0a g0.2.2.2.1.length p0ac]) := ho
  clear ho
  obtain ⟨x1, rfl, hwf1⟩ := open_i64v o1 t1
  have W1 : Hid _ := rd_i64 hwf1
  clear hwf1
  obtain ⟨g2, ho⟩ := open_byv o2 t2
  obtain ⟨p2a, p2ac, e5, -, -, -⟩ := rd_bytes ho
  simp only [List.cons.injEq, and_true] at e5
  subst e5
  have P2 : Hid (u8s.Rd w w.heap.size g2 [.slice p2a g2.length p2ac]) := ho
  clear ho
  obtain ⟨x3, rfl, hwf3⟩ := open_i64v o3 t3
  have W3 : Hid _ := rd_i64 hwf3
  clear hwf3
  clear o0 t0 o1 t1 o2 t2 o3 t3
  have HW : Hid (Below w.heap.size w w) := Below.refl _ _
  obtain ⟨V, hV⟩ : ∃ V, V = pshV g0 x1 g2 x3 := ⟨_, rfl⟩
  obtain ⟨C, hC⟩ : ∃ C, C = pshC g0 x1 g2 x3 := ⟨_, rfl⟩
  have VT : Hid (totSender V ≤ 1048576) := by rw [hV]; exact psh_tot _ _ _ _
  have hVT : 0 ≤ (1 : Int) + ((wtSender V : Nat) : Int) := by omega
  have CS : Hid (∀ (W : World) (B : Nat) (v : Value) (a : Option Addr) (cap : Nat), shSender.Rd W B g0 [.int .i64 g0.1, .int .i64 g0.2.1, .int .i64 g0.2.2.1, v] → u8s.Rd W B g2 [.slice a g2.length cap] → B ≤ W.heap.size → totSender g0 ≤ 1048576 → g2.length ≤ 1048576 → Calls Try.prog 24 #[.agg #[.int .i64 g0.1, .int .i64 g0.2.1, .int .i64 g0.2.2.1, v], .int .i64 x1, .slice a g2.length cap, .int .i64 x3] W fun e w' => ∃ u, e = .returned (.agg #[.int .i64 C, .int .i64 V.1, .int .i64 V.2.1, .int .i64 V.2.2.1, u]) ∧ Own w' W.heap.size w'.heap.size shSender V [.int .i64 V.1, .int .i64 V.2.1, .int .i64 V.2.2.1, u] ∧ Below W.heap.size W w') := fun W B v a cap h1 h2 h3 h4 h5 => by rw [hV, hC]; exact sPushFlight g0 v x1 g2 _ x3 W B h1 h2 h3 h4 h5 (WalkArith.wf_i64 W1.out) (WalkArith.wf_i64 W3.out)
  have CI : Hid (∀ (W : World) (B : Nat) (v : Value) (a : Option Addr) (cap : Nat), shSender.Rd W B g0 [.int .i64 g0.1, .int .i64 g0.2.1, .int .i64 g0.2.2.1, v] → u8s.Rd W B g2 [.slice a g2.length cap] → B ≤ W.heap.size → totSender g0 ≤ 1048576 → g2.length ≤ 1048576 → Calls Try.prog 26 #[.agg #[.int .i64 g0.1, .int .i64 g0.2.1, .int .i64 g0.2.2.1, v], .int .i64 x1, .slice a g2.length cap, .int .i64 x3] W fun e w' => ∃ u, e = .returned (.agg #[.int .i64 C, .int .i64 V.1, .int .i64 V.2.1, .int .i64 V.2.2.1, u]) ∧ Own w' W.heap.size w'.heap.size shSender V [.int .i64 V.1, .int .i64 V.2.1, .int .i64 V.2.2.1, u] ∧ Below W.heap.size W w') := fun W B v a cap h1 h2 h3 h4 h5 => by rw [hV, hC]; exact iPushFlight g0 v x1 g2 _ x3 W B h1 h2 h3 h4 h5 (WalkArith.wf_i64 W1.out) (WalkArith.wf_i64 W3.out)
  clear hV hC
  by_cases hbig2 : 1048576 < g2.length
  · have M2 : Hid (g2.length ≤ maxLen) := by have h := P2.out; obtain ⟨_, _, _, h, _⟩ := h; exact Nat.le_trans h.1 h.2
    have M2x : g2.length ≤ 9223372036854775807 := M2.out
    go_enter Try.func7, Try.ntmps7
    go_wp2_with fail
    go_ret
    exact ⟨rfl, by go_grown⟩
  · skip
    obtain ⟨T0, hT0⟩ : ∃ T : Nat, T = totSender g0 := ⟨_, rfl⟩
    by_cases hbig0 : (1048576 : Int) < (T0 : Int)
    · go_enter Try.func7, Try.ntmps7
      go_wp2_with fail
      have c := fun W R hB => lSzSender g0 (.slice p0a g0.2.2.2.1.length p0ac) 1048576 W w.heap.size R hB (by omega) (by omega)
      rw [← hT0, if_pos (show (1048576 : Int) < (T0 : Int) by omega)] at c
      refine (c _ (Sh.Rd.below (C := w.heap.size) P0.out (by first | omega | (simp; done) | (simp; omega)) (by first | exact Below.refl _ _ | go_grown | exact Below.drew (Below.refl _ _))) (by first | omega | (simp; done) | (simp; omega))).mono ?_
      rintro e w1 ⟨rfl, hb⟩
      clear c
      have B1_0 := bx_new hb
      obtain ⟨hb, S1_0⟩ := bl_new hb
      have Z1 : Hid (w.heap.size < w1.heap.size) := S1_0
      replace P0 : Hid (shSender.Rd w1 w.heap.size g0 [.int .i64 g0.1, .int .i64 g0.2.1, .int .i64 g0.2.2.1, .slice p0a g0.2.2.2.1.length p0ac]) := Sh.Rd.below P0.out (by have := Z1.out; omega) hb
      replace P2 : Hid (u8s.Rd w1 w.heap.size g2 [.slice p2a g2.length p2ac]) := Sh.Rd.below P2.out (by have := Z1.out; omega) hb
      replace HW : Hid _ := HW.out.trans (hb.mono HW.out.size)
      clear hb
      go_wp2_with fail
      go_ret
      exact ⟨rfl, HW.out⟩
    · skip
      go_enter Try.func7, Try.ntmps7
      go_wp2_with fail
      have c := fun W R hB => lSzSender g0 (.slice p0a g0.2.2.2.1.length p0ac) 1048576 W w.heap.size R hB (by omega) (by omega)
      rw [← hT0, if_neg (show ¬ ((1048576 : Int) < (T0 : Int)) by omega)] at c
      refine (c _ (Sh.Rd.below (C := w.heap.size) P0.out (by first | omega | (simp; done) | (simp; omega)) (by first | exact Below.refl _ _ | go_grown | exact Below.drew (Below.refl _ _))) (by first | omega | (simp; done) | (simp; omega))).mono ?_
      rintro e w1 ⟨rfl, hb⟩
      clear c
      have B1_0 := bx_new hb
      obtain ⟨hb, S1_0⟩ := bl_new hb
      have Z1 : Hid (w.heap.size < w1.heap.size) := S1_0
      replace P0 : Hid (shSender.Rd w1 w.heap.size g0 [.int .i64 g0.1, .int .i64 g0.2.1, .int .i64 g0.2.2.1, .slice p0a g0.2.2.2.1.length p0ac]) := Sh.Rd.below P0.out (by have := Z1.out; omega) hb
      replace P2 : Hid (u8s.Rd w1 w.heap.size g2 [.slice p2a g2.length p2ac]) := Sh.Rd.below P2.out (by have := Z1.out; omega) hb
      replace HW : Hid _ := HW.out.trans (hb.mono HW.out.size)
      clear hb
      have hrest : ¬ ((1048576 : Int) - (T0 : Int) < 0) := by omega
      go_wp2_with fail
      refine (lToSender g0 (.slice p0a g0.2.2.2.1.length p0ac) _ w.heap.size (Sh.Rd.below (C := w1.heap.size) P0.out (by have := Z1.out; first | omega | (simp; done) | (simp; omega)) (by first | exact Below.refl _ _ | go_grown | exact Below.drew (Below.refl _ _))) (by have := Z1.out; first | omega | (simp; done) | (simp; omega)) (by omega)).mono ?_
      rintro e w2 ⟨u2a, rfl, ho, hb⟩
      obtain ⟨q2v, e5, r5, -⟩ := rd_Sender (ho.rd (Nat.le_refl _))
      simp only [List.cons.injEq, and_true, true_and] at e5
      subst e5
      obtain ⟨q2a, q2ac, e5⟩ := row_form r5
      simp only [List.cons.injEq, and_true] at e5
      subst e5
      clear r5
      have X2 : Hid (Own w2 (w1.heap.size) w2.heap.size shSender g0 [.int .i64 g0.1, .int .i64 g0.2.1, .int .i64 g0.2.2.1, .slice q2a g0.2.2.2.1.length q2ac]) := Own.mono ho (by first | exact Nat.le_refl _ | (simp; done) | (simp; omega)) (Nat.le_refl _)
      clear ho
      have Z2 : Hid (w1.heap.size ≤ w2.heap.size) := hb.size
      replace B1_0 := bx_below B1_0 S1_0 hb
      replace S1_0 := Nat.lt_of_lt_of_le S1_0 hb.size
      replace P0 : Hid (shSender.Rd w2 w.heap.size g0 [.int .i64 g0.1, .int .i64 g0.2.1, .int .i64 g0.2.2.1, .slice p0a g0.2.2.2.1.length p0ac]) := Sh.Rd.below P0.out (by have := Z1.out; have := Z2.out; omega) hb
      replace P2 : Hid (u8s.Rd w2 w.heap.size g2 [.slice p2a g2.length p2ac]) := Sh.Rd.below P2.out (by have := Z1.out; have := Z2.out; omega) hb
      replace HW : Hid _ := HW.out.trans (hb.mono HW.out.size)
      clear hb
      go_wp2_with fail
      refine (lToBytesO g2 (.slice p2a g2.length p2ac) _ w.heap.size (Sh.Rd.below (C := w2.heap.size) P2.out (by have := Z1.out; have := Z2.out; first | omega | (simp; done) | (simp; omega)) (by first | exact Below.refl _ _ | go_grown | exact Below.drew (Below.refl _ _))) (by omega)).mono ?_
      rintro e w3 ⟨u3a, rfl, ho, hb⟩
      obtain ⟨q3a, q3ac, e5, -, -, -⟩ := rd_bytes (ho.rd (Nat.le_refl _))
      simp only [List.cons.injEq, and_true] at e5
      subst e5
      have X3 : Hid (Own w3 (w2.heap.size) w3.heap.size u8s g2 [.slice q3a g2.length q3ac]) := Own.mono ho (by first | exact Nat.le_refl _ | (simp; done) | (simp; omega)) (Nat.le_refl _)
      clear ho
      have Z3 : Hid (w2.heap.size ≤ w3.heap.size) := hb.size
      replace B1_0 := bx_below B1_0 S1_0 hb
      replace S1_0 := Nat.lt_of_lt_of_le S1_0 hb.size
      replace P0 : Hid (shSender.Rd w3 w.heap.size g0 [.int .i64 g0.1, .int .i64 g0.2.1, .int .i64 g0.2.2.1, .slice p0a g0.2.2.2.1.length p0ac]) := Sh.Rd.below P0.out (by have := Z1.out; have := Z2.out; have := Z3.out; omega) hb
      replace P2 : Hid (u8s.Rd w3 w.heap.size g2 [.slice p2a g2.length p2ac]) := Sh.Rd.below P2.out (by have := Z1.out; have := Z2.out; have := Z3.out; omega) hb
      replace X2 : Hid _ := Own.below X2.out (by have := Z1.out; have := Z2.out; have := Z3.out; omega) hb
      replace HW : Hid _ := HW.out.trans (hb.mono HW.out.size)
      clear hb
      go_wp2_with fail
      refine (CS.out _ _ (.slice q2a g0.2.2.2.1.length q2ac) q3a q3ac (Sh.Rd.mono (by have := Z1.out; have := Z2.out; have := Z3.out; first | exact Nat.le_refl _ | omega | (simp; done) | (simp; omega)) _ _ _ (Sh.Rd.below (B := w3.heap.size) (C := w3.heap.size) (Own.rd X2.out (Nat.le_refl _)) (Nat.le_refl _) (by first | exact Below.refl _ _ | go_grown | exact Below.drew (Below.refl _ _)))) (Sh.Rd.mono (by have := Z1.out; have := Z2.out; have := Z3.out; first | exact Nat.le_refl _ | omega | (simp; done) | (simp; omega)) _ _ _ (Sh.Rd.below (B := w3.heap.size) (C := w3.heap.size) (Own.rd X3.out (Nat.le_refl _)) (Nat.le_refl _) (by first | exact Below.refl _ _ | go_grown | exact Below.drew (Below.refl _ _)))) (Nat.le_refl _) (by omega) (by omega)).mono ?_
      rintro e w4 ⟨u4a, rfl, ho, hb⟩
      obtain ⟨q4v, e5, r5, -⟩ := rd_Sender (ho.rd (Nat.le_refl _))
      simp only [List.cons.injEq, and_true, true_and] at e5
      subst e5
      obtain ⟨q4a, q4ac, e5⟩ := row_form r5
      simp only [List.cons.injEq, and_true] at e5
      subst e5
      clear r5
      have X4 : Hid (Own w4 (w3.heap.size) w4.heap.size shSender V [.int .i64 V.1, .int .i64 V.2.1, .int .i64 V.2.2.1, .slice q4a V.2.2.2.1.length q4ac]) := Own.mono ho (by first | exact Nat.le_refl _ | (simp; done) | (simp; omega)) (Nat.le_refl _)
      clear ho
      have Z4 : Hid (w3.heap.size ≤ w4.heap.size) := hb.size
      replace B1_0 := bx_below B1_0 S1_0 hb
      replace S1_0 := Nat.lt_of_lt_of_le S1_0 hb.size
      replace P0 : Hid (shSender.Rd w4 w.heap.size g0 [.int .i64 g0.1, .int .i64 g0.2.1, .int .i64 g0.2.2.1, .slice p0a g0.2.2.2.1.length p0ac]) := Sh.Rd.below P0.out (by have := Z1.out; have := Z2.out; have := Z3.out; have := Z4.out; omega) hb
      replace P2 : Hid (u8s.Rd w4 w.heap.size g2 [.slice p2a g2.length p2ac]) := Sh.Rd.below P2.out (by have := Z1.out; have := Z2.out; have := Z3.out; have := Z4.out; omega) hb
      replace X2 : Hid _ := Own.below X2.out (by have := Z1.out; have := Z2.out; have := Z3.out; have := Z4.out; omega) hb
      replace X3 : Hid _ := Own.below X3.out (by have := Z1.out; have := Z2.out; have := Z3.out; have := Z4.out; omega) hb
      replace HW : Hid _ := HW.out.trans (hb.mono HW.out.size)
      clear hb
      clear X2
      clear X3
      go_wp2_with fail
      refine (lToSender g0 (.slice p0a g0.2.2.2.1.length p0ac) _ w.heap.size (Sh.Rd.below (C := w4.heap.size) P0.out (by have := Z1.out; have := Z2.out; have := Z3.out; have := Z4.out; first | omega | (simp; done) | (simp; omega)) (by first | exact Below.refl _ _ | go_grown | exact Below.drew (Below.refl _ _))) (by have := Z1.out; have := Z2.out; have := Z3.out; have := Z4.out; first | omega | (simp; done) | (simp; omega)) (by omega)).mono ?_
      rintro e w5 ⟨u5a, rfl, ho, hb⟩
      obtain ⟨q5v, e5, r5, -⟩ := rd_Sender (ho.rd (Nat.le_refl _))
      simp only [List.cons.injEq, and_true, true_and] at e5
      subst e5
      obtain ⟨q5a, q5ac, e5⟩ := row_form r5
      simp only [List.cons.injEq, and_true] at e5
      subst e5
      clear r5
      have X5 : Hid (Own w5 (w4.heap.size + 1) w5.heap.size shSender g0 [.int .i64 g0.1, .int .i64 g0.2.1, .int .i64 g0.2.2.1, .slice q5a g0.2.2.2.1.length q5ac]) := Own.mono ho (by first | exact Nat.le_refl _ | (simp; done) | (simp; omega)) (Nat.le_refl _)
      clear ho
      have B5_0 := bx_new hb
      obtain ⟨hb, S5_0⟩ := bl_new hb
      have Z5 : Hid (w4.heap.size < w5.heap.size) := S5_0
      replace B1_0 := bx_below B1_0 S1_0 hb
      replace S1_0 := Nat.lt_of_lt_of_le S1_0 hb.size
      replace P0 : Hid (shSender.Rd w5 w.heap.size g0 [.int .i64 g0.1, .int .i64 g0.2.1, .int .i64 g0.2.2.1, .slice p0a g0.2.2.2.1.length p0ac]) := Sh.Rd.below P0.out (by have := Z1.out; have := Z2.out; have := Z3.out; have := Z4.out; have := Z5.out; omega) hb
      replace P2 : Hid (u8s.Rd w5 w.heap.size g2 [.slice p2a g2.length p2ac]) := Sh.Rd.below P2.out (by have := Z1.out; have := Z2.out; have := Z3.out; have := Z4.out; have := Z5.out; omega) hb
      replace X4 : Hid _ := Own.below X4.out (by have := Z1.out; have := Z2.out; have := Z3.out; have := Z4.out; have := Z5.out; omega) hb
      replace HW : Hid _ := HW.out.trans (hb.mono HW.out.size)
      clear hb
      go_wp2_with fail
      refine (lToBytesO g2 (.slice p2a g2.length p2ac) _ w.heap.size (Sh.Rd.below (C := w5.heap.size) P2.out (by have := Z1.out; have := Z2.out; have := Z3.out; have := Z4.out; have := Z5.out; first | omega | (simp; done) | (simp; omega)) (by first | exact Below.refl _ _ | go_grown | exact Below.drew (Below.refl _ _))) (by omega)).mono ?_
      rintro e w6 ⟨u6a, rfl, ho, hb⟩
      obtain ⟨q6a, q6ac, e5, -, -, -⟩ := rd_bytes (ho.rd (Nat.le_refl _))
      simp only [List.cons.injEq, and_true] at e5
      subst e5
      have X6 : Hid (Own w6 (w5.heap.size + 1) w6.heap.size u8s g2 [.slice q6a g2.length q6ac]) := Own.mono ho (by first | exact Nat.le_refl _ | (simp; done) | (simp; omega)) (Nat.le_refl _)
      clear ho
      have B6_0 := bx_new hb
      obtain ⟨hb, S6_0⟩ := bl_new hb
      have Z6 : Hid (w5.heap.size < w6.heap.size) := S6_0
      replace B1_0 := bx_below B1_0 S1_0 hb
      replace S1_0 := Nat.lt_of_lt_of_le S1_0 hb.size
      replace B5_0 := bx_below B5_0 S5_0 hb
      replace S5_0 := Nat.lt_of_lt_of_le S5_0 hb.size
      replace P0 : Hid (shSender.Rd w6 w.heap.size g0 [.int .i64 g0.1, .int .i64 g0.2.1, .int .i64 g0.2.2.1, .slice p0a g0.2.2.2.1.length p0ac]) := Sh.Rd.below P0.out (by have := Z1.out; have := Z2.out; have := Z3.out; have := Z4.out; have := Z5.out; have := Z6.out; omega) hb
      replace P2 : Hid (u8s.Rd w6 w.heap.size g2 [.slice p2a g2.length p2ac]) := Sh.Rd.below P2.out (by have := Z1.out; have := Z2.out; have := Z3.out; have := Z4.out; have := Z5.out; have := Z6.out; omega) hb
      replace X4 : Hid _ := Own.below X4.out (by have := Z1.out; have := Z2.out; have := Z3.out; have := Z4.out; have := Z5.out; have := Z6.out; omega) hb
      replace X5 : Hid _ := Own.below X5.out (by have := Z1.out; have := Z2.out; have := Z3.out; have := Z4.out; have := Z5.out; have := Z6.out; omega) hb
      replace HW : Hid _ := HW.out.trans (hb.mono HW.out.size)
      clear hb
      go_wp2_with fail
      refine (CI.out _ _ (.slice q5a g0.2.2.2.1.length q5ac) q6a q6ac (Sh.Rd.mono (by have := Z1.out; have := Z2.out; have := Z3.out; have := Z4.out; have := Z5.out; have := Z6.out; first | exact Nat.le_refl _ | omega | (simp; done) | (simp; omega)) _ _ _ (Sh.Rd.below (B := w6.heap.size) (C := w6.heap.size) (Own.rd X5.out (Nat.le_refl _)) (Nat.le_refl _) (by first | exact Below.refl _ _ | go_grown | exact Below.drew (Below.refl _ _)))) (Sh.Rd.mono (by have := Z1.out; have := Z2.out; have := Z3.out; have := Z4.out; have := Z5.out; have := Z6.out; first | exact Nat.le_refl _ | omega | (simp; done) | (simp; omega)) _ _ _ (Sh.Rd.below (B := w6.heap.size) (C := w6.heap.size) (Own.rd X6.out (Nat.le_refl _)) (Nat.le_refl _) (by first | exact Below.refl _ _ | go_grown | exact Below.drew (Below.refl _ _)))) (Nat.le_refl _) (by omega) (by omega)).mono ?_
      rintro e w7 ⟨u7a, rfl, ho, hb⟩
      obtain ⟨q7v, e5, r5, -⟩ := rd_Sender (ho.rd (Nat.le_refl _))
      simp only [List.cons.injEq, and_true, true_and] at e5
      subst e5
      obtain ⟨q7a, q7ac, e5⟩ := row_form r5
      simp only [List.cons.injEq, and_true] at e5
      subst e5
      clear r5
      have X7 : Hid (Own w7 (w6.heap.size) w7.heap.size shSender V [.int .i64 V.1, .int .i64 V.2.1, .int .i64 V.2.2.1, .slice q7a V.2.2.2.1.length q7ac]) := Own.mono ho (by first | exact Nat.le_refl _ | (simp; done) | (simp; omega)) (Nat.le_refl _)
      clear ho
      have Z7 : Hid (w6.heap.size ≤ w7.heap.size) := hb.size
      replace B1_0 := bx_below B1_0 S1_0 hb
      replace S1_0 := Nat.lt_of_lt_of_le S1_0 hb.size
      replace B5_0 := bx_below B5_0 S5_0 hb
      replace S5_0 := Nat.lt_of_lt_of_le S5_0 hb.size
      replace B6_0 := bx_below B6_0 S6_0 hb
      replace S6_0 := Nat.lt_of_lt_of_le S6_0 hb.size
      replace P0 : Hid (shSender.Rd w7 w.heap.size g0 [.int .i64 g0.1, .int .i64 g0.2.1, .int .i64 g0.2.2.1, .slice p0a g0.2.2.2.1.length p0ac]) := Sh.Rd.below P0.out (by have := Z1.out; have := Z2.out; have := Z3.out; have := Z4.out; have := Z5.out; have := Z6.out; have := Z7.out; omega) hb
      replace P2 : Hid (u8s.Rd w7 w.heap.size g2 [.slice p2a g2.length p2ac]) := Sh.Rd.below P2.out (by have := Z1.out; have := Z2.out; have := Z3.out; have := Z4.out; have := Z5.out; have := Z6.out; have := Z7.out; omega) hb
      replace X4 : Hid _ := Own.below X4.out (by have := Z1.out; have := Z2.out; have := Z3.out; have := Z4.out; have := Z5.out; have := Z6.out; have := Z7.out; omega) hb
      replace X5 : Hid _ := Own.below X5.out (by have := Z1.out; have := Z2.out; have := Z3.out; have := Z4.out; have := Z5.out; have := Z6.out; have := Z7.out; omega) hb
      replace X6 : Hid _ := Own.below X6.out (by have := Z1.out; have := Z2.out; have := Z3.out; have := Z4.out; have := Z5.out; have := Z6.out; have := Z7.out; omega) hb
      replace HW : Hid _ := HW.out.trans (hb.mono HW.out.size)
      clear hb
      go_wp2_with fail
      refine (lEqSenderResult C V (.slice q7a V.2.2.2.1.length q7ac) (.slice q4a V.2.2.2.1.length q4ac) _ _ (Sh.Rd.mono (by have := Z1.out; have := Z2.out; have := Z3.out; have := Z4.out; have := Z5.out; have := Z6.out; have := Z7.out; first | exact Nat.le_refl _ | omega | (simp; done) | (simp; omega)) _ _ _ (Sh.Rd.below (B := w7.heap.size) (C := w7.heap.size) (Own.rd X7.out (Nat.le_refl _)) (Nat.le_refl _) (by first | exact Below.refl _ _ | go_grown | exact Below.drew (Below.refl _ _)))) (Sh.Rd.mono (by have := Z1.out; have := Z2.out; have := Z3.out; have := Z4.out; have := Z5.out; have := Z6.out; have := Z7.out; first | exact Nat.le_refl _ | omega | (simp; done) | (simp; omega)) _ _ _ (Sh.Rd.below (B := w7.heap.size) (C := w7.heap.size) (Own.rd X4.out (Nat.le_refl _)) (Nat.le_refl _) (by first | exact Below.refl _ _ | go_grown | exact Below.drew (Below.refl _ _)))) (Nat.le_refl _) VT.out).mono ?_
      rintro e w8 ⟨rfl, hb⟩
      have B8_0 := bx_new hb
      obtain ⟨hb, S8_0⟩ := bl_new hb
      have Z8 : Hid (w7.heap.size < w8.heap.size) := S8_0
      replace B1_0 := bx_below B1_0 S1_0 hb
      replace S1_0 := Nat.lt_of_lt_of_le S1_0 hb.size
      replace B5_0 := bx_below B5_0 S5_0 hb
      replace S5_0 := Nat.lt_of_lt_of_le S5_0 hb.size
      replace B6_0 := bx_below B6_0 S6_0 hb
      replace S6_0 := Nat.lt_of_lt_of_le S6_0 hb.size
      replace P0 : Hid (shSender.Rd w8 w.heap.size g0 [.int .i64 g0.1, .int .i64 g0.2.1, .int .i64 g0.2.2.1, .slice p0a g0.2.2.2.1.length p0ac]) := Sh.Rd.below P0.out (by have := Z1.out; have := Z2.out; have := Z3.out; have := Z4.out; have := Z5.out; have := Z6.out; have := Z7.out; have := Z8.out; omega) hb
      replace P2 : Hid (u8s.Rd w8 w.heap.size g2 [.slice p2a g2.length p2ac]) := Sh.Rd.below P2.out (by have := Z1.out; have := Z2.out; have := Z3.out; have := Z4.out; have := Z5.out; have := Z6.out; have := Z7.out; have := Z8.out; omega) hb
      replace X4 : Hid _ := Own.below X4.out (by have := Z1.out; have := Z2.out; have := Z3.out; have := Z4.out; have := Z5.out; have := Z6.out; have := Z7.out; have := Z8.out; omega) hb
      replace X5 : Hid _ := Own.below X5.out (by have := Z1.out; have := Z2.out; have := Z3.out; have := Z4.out; have := Z5.out; have := Z6.out; have := Z7.out; have := Z8.out; omega) hb
      replace X6 : Hid _ := Own.below X6.out (by have := Z1.out; have := Z2.out; have := Z3.out; have := Z4.out; have := Z5.out; have := Z6.out; have := Z7.out; have := Z8.out; omega) hb
      replace X7 : Hid _ := Own.below X7.out (by have := Z1.out; have := Z2.out; have := Z3.out; have := Z4.out; have := Z5.out; have := Z6.out; have := Z7.out; have := Z8.out; omega) hb
      replace HW : Hid _ := HW.out.trans (hb.mono HW.out.size)
      clear hb
      go_wp2_with fail
      have HX : Hid (∀ W, Below w8.heap.size w8 W → shSender.Rd W w8.heap.size g0 [.int .i64 g0.1, .int .i64 g0.2.1, .int .i64 g0.2.2.1, .slice q5a g0.2.2.2.1.length q5ac]) := fun W hW => Sh.Rd.below (Own.rd X5.out (Nat.le_refl _)) (Nat.le_refl _) hW
      go_cut [50] (fun u wx => u = .bool false ∧ Below w8.heap.size w8 wx)
      case first =>
        go_region_with (first
          | (go_at_call 16; refine (lToSender g0 (.slice p0a g0.2.2.2.1.length p0ac) _ w.heap.size (Sh.Rd.below (C := w8.heap.size) P0.out (by have := Z1.out; have := Z2.out; have := Z3.out; have := Z4.out; have := Z5.out; have := Z6.out; have := Z7.out; have := Z8.out; first | omega | (simp; done) | (simp; omega)) (by first | exact Below.refl _ _ | go_grown | exact Below.drew (Below.refl _ _))) (by have := Z1.out; have := Z2.out; have := Z3.out; have := Z4.out; have := Z5.out; have := Z6.out; have := Z7.out; have := Z8.out; first | omega | (simp; done) | (simp; omega)) (by omega)).mono ?_; rintro e w9 ⟨u9a, rfl, ho, hb⟩; obtain ⟨q9v, e5, r5, -⟩ := rd_Sender (ho.rd (Nat.le_refl _)); simp only [List.cons.injEq, and_true, true_and] at e5; subst e5; obtain ⟨q9a, q9ac, e5⟩ := row_form r5; simp only [List.cons.injEq, and_true] at e5; subst e5; clear r5; replace hb := bl_drew hb; have HB : Hid _ := hb; have HR : Hid (shSender.Rd w9 w9.heap.size g0 [.int .i64 g0.1, .int .i64 g0.2.1, .int .i64 g0.2.2.1, .slice q9a g0.2.2.2.1.length q9ac]) := Own.rd ho (Nat.le_refl _); replace B1_0 := bx_below B1_0 S1_0 hb; replace S1_0 := Nat.lt_of_lt_of_le S1_0 hb.size; replace B5_0 := bx_below B5_0 S5_0 hb; replace S5_0 := Nat.lt_of_lt_of_le S5_0 hb.size; replace B6_0 := bx_below B6_0 S6_0 hb; replace S6_0 := Nat.lt_of_lt_of_le S6_0 hb.size; replace B8_0 := bx_below B8_0 S8_0 hb; replace S8_0 := Nat.lt_of_lt_of_le S8_0 hb.size; clear ho hb)
          | (go_at_call 18; refine (lEqSender g0 (.slice q5a g0.2.2.2.1.length q5ac) (.slice q9a g0.2.2.2.1.length q9ac) _ _ (Sh.Rd.mono HB.out.size _ _ _ (HX.out _ HB.out)) HR.out (Nat.le_refl _) (by omega)).mono ?_; rintro e w' ⟨rfl, hb⟩; have HC : Hid _ := hb; clear hb))
        all_goals (go_wp2_with fail; go_meet; exact ⟨rfl, HB.out.trans (HC.out.mono HB.out.size)⟩)
      case rest =>
      rename World => w9
      obtain ⟨rfl, hb⟩ := hcut
      clear HX
      have Z9 : Hid (w8.heap.size ≤ w9.heap.size) := hb.size
      replace B1_0 := bx_below B1_0 S1_0 hb
      replace S1_0 := Nat.lt_of_lt_of_le S1_0 hb.size
      replace B5_0 := bx_below B5_0 S5_0 hb
      replace S5_0 := Nat.lt_of_lt_of_le S5_0 hb.size
      replace B6_0 := bx_below B6_0 S6_0 hb
      replace S6_0 := Nat.lt_of_lt_of_le S6_0 hb.size
      replace B8_0 := bx_below B8_0 S8_0 hb
      replace S8_0 := Nat.lt_of_lt_of_le S8_0 hb.size
      replace P0 : Hid (shSender.Rd w9 w.heap.size g0 [.int .i64 g0.1, .int .i64 g0.2.1, .int .i64 g0.2.2.1, .slice p0a g0.2.2.2.1.length p0ac]) := Sh.Rd.below P0.out (by have := Z1.out; have := Z2.out; have := Z3.out; have := Z4.out; have := Z5.out; have := Z6.out; have := Z7.out; have := Z8.out; have := Z9.out; omega) hb
      replace P2 : Hid (u8s.Rd w9 w.heap.size g2 [.slice p2a g2.length p2ac]) := Sh.Rd.below P2.out (by have := Z1.out; have := Z2.out; have := Z3.out; have := Z4.out; have := Z5.out; have := Z6.out; have := Z7.out; have := Z8.out; have := Z9.out; omega) hb
      replace X4 : Hid _ := Own.below X4.out (by have := Z1.out; have := Z2.out; have := Z3.out; have := Z4.out; have := Z5.out; have := Z6.out; have := Z7.out; have := Z8.out; have := Z9.out; omega) hb
      replace X5 : Hid _ := Own.below X5.out (by have := Z1.out; have := Z2.out; have := Z3.out; have := Z4.out; have := Z5.out; have := Z6.out; have := Z7.out; have := Z8.out; have := Z9.out; omega) hb
      replace X6 : Hid _ := Own.below X6.out (by have := Z1.out; have := Z2.out; have := Z3.out; have := Z4.out; have := Z5.out; have := Z6.out; have := Z7.out; have := Z8.out; have := Z9.out; omega) hb
      replace X7 : Hid _ := Own.below X7.out (by have := Z1.out; have := Z2.out; have := Z3.out; have := Z4.out; have := Z5.out; have := Z6.out; have := Z7.out; have := Z8.out; have := Z9.out; omega) hb
      replace HW : Hid _ := HW.out.trans (hb.mono HW.out.size)
      clear hb
      go_wp2_with fail
      refine (lToBytesO g2 (.slice p2a g2.length p2ac) _ w.heap.size (Sh.Rd.below (C := w9.heap.size) P2.out (by have := Z1.out; have := Z2.out; have := Z3.out; have := Z4.out; have := Z5.out; have := Z6.out; have := Z7.out; have := Z8.out; have := Z9.out; first | omega | (simp; done) | (simp; omega)) (by first | exact Below.refl _ _ | go_grown | exact Below.drew (Below.refl _ _))) (by omega)).mono ?_
      rintro e w10 ⟨u10a, rfl, ho, hb⟩
      obtain ⟨q10a, q10ac, e5, -, -, -⟩ := rd_bytes (ho.rd (Nat.le_refl _))
      simp only [List.cons.injEq, and_true] at e5
      subst e5
      have X10 : Hid (Own w10 (w9.heap.size) w10.heap.size u8s g2 [.slice q10a g2.length q10ac]) := Own.mono ho (by first | exact Nat.le_refl _ | (simp; done) | (simp; omega)) (Nat.le_refl _)
      clear ho
      have Z10 : Hid (w9.heap.size ≤ w10.heap.size) := hb.size
      replace B1_0 := bx_below B1_0 S1_0 hb
      replace S1_0 := Nat.lt_of_lt_of_le S1_0 hb.size
      replace B5_0 := bx_below B5_0 S5_0 hb
      replace S5_0 := Nat.lt_of_lt_of_le S5_0 hb.size
      replace B6_0 := bx_below B6_0 S6_0 hb
      replace S6_0 := Nat.lt_of_lt_of_le S6_0 hb.size
      replace B8_0 := bx_below B8_0 S8_0 hb
      replace S8_0 := Nat.lt_of_lt_of_le S8_0 hb.size
      replace P0 : Hid (shSender.Rd w10 w.heap.size g0 [.int .i64 g0.1, .int .i64 g0.2.1, .int .i64 g0.2.2.1, .slice p0a g0.2.2.2.1.length p0ac]) := Sh.Rd.below P0.out (by have := Z1.out; have := Z2.out; have := Z3.out; have := Z4.out; have := Z5.out; have := Z6.out; have := Z7.out; have := Z8.out; have := Z9.out; have := Z10.out; omega) hb
      replace P2 : Hid (u8s.Rd w10 w.heap.size g2 [.slice p2a g2.length p2ac]) := Sh.Rd.below P2.out (by have := Z1.out; have := Z2.out; have := Z3.out; have := Z4.out; have := Z5.out; have := Z6.out; have := Z7.out; have := Z8.out; have := Z9.out; have := Z10.out; omega) hb
      replace X4 : Hid _ := Own.below X4.out (by have := Z1.out; have := Z2.out; have := Z3.out; have := Z4.out; have := Z5.out; have := Z6.out; have := Z7.out; have := Z8.out; have := Z9.out; have := Z10.out; omega) hb
      replace X5 : Hid _ := Own.below X5.out (by have := Z1.out; have := Z2.out; have := Z3.out; have := Z4.out; have := Z5.out; have := Z6.out; have := Z7.out; have := Z8.out; have := Z9.out; have := Z10.out; omega) hb
      replace X6 : Hid _ := Own.below X6.out (by have := Z1.out; have := Z2.out; have := Z3.out; have := Z4.out; have := Z5.out; have := Z6.out; have := Z7.out; have := Z8.out; have := Z9.out; have := Z10.out; omega) hb
      replace X7 : Hid _ := Own.below X7.out (by have := Z1.out; have := Z2.out; have := Z3.out; have := Z4.out; have := Z5.out; have := Z6.out; have := Z7.out; have := Z8.out; have := Z9.out; have := Z10.out; omega) hb
      replace HW : Hid _ := HW.out.trans (hb.mono HW.out.size)
      clear hb
      go_wp2_with fail
      refine (lEqBytesO g2 (.slice q6a g2.length q6ac) (.slice q10a g2.length q10ac) _ _ _ (Sh.Rd.mono (by have := Z1.out; have := Z2.out; have := Z3.out; have := Z4.out; have := Z5.out; have := Z6.out; have := Z7.out; have := Z8.out; have := Z9.out; have := Z10.out; first | exact Nat.le_refl _ | omega | (simp; done) | (simp; omega)) _ _ _ (Sh.Rd.below (B := w10.heap.size) (C := w10.heap.size) (Own.rd X6.out (Nat.le_refl _)) (Nat.le_refl _) (by first | exact Below.refl _ _ | go_grown | exact Below.drew (Below.refl _ _)))) (Sh.Rd.mono (by have := Z1.out; have := Z2.out; have := Z3.out; have := Z4.out; have := Z5.out; have := Z6.out; have := Z7.out; have := Z8.out; have := Z9.out; have := Z10.out; first | exact Nat.le_refl _ | omega | (simp; done) | (simp; omega)) _ _ _ (Sh.Rd.below (B := w10.heap.size) (C := w10.heap.size) (Own.rd X10.out (Nat.le_refl _)) (Nat.le_refl _) (by first | exact Below.refl _ _ | go_grown | exact Below.drew (Below.refl _ _)))) (by omega)).mono ?_
      rintro e w11 ⟨rfl, hb⟩
      have Z11 : Hid (w10.heap.size ≤ w11.heap.size) := hb.size
      replace B1_0 := bx_below B1_0 S1_0 hb
      replace S1_0 := Nat.lt_of_lt_of_le S1_0 hb.size
      replace B5_0 := bx_below B5_0 S5_0 hb
      replace S5_0 := Nat.lt_of_lt_of_le S5_0 hb.size
      replace B6_0 := bx_below B6_0 S6_0 hb
      replace S6_0 := Nat.lt_of_lt_of_le S6_0 hb.size
      replace B8_0 := bx_below B8_0 S8_0 hb
      replace S8_0 := Nat.lt_of_lt_of_le S8_0 hb.size
      replace P0 : Hid (shSender.Rd w11 w.heap.size g0 [.int .i64 g0.1, .int .i64 g0.2.1, .int .i64 g0.2.2.1, .slice p0a g0.2.2.2.1.length p0ac]) := Sh.Rd.below P0.out (by have := Z1.out; have := Z2.out; have := Z3.out; have := Z4.out; have := Z5.out; have := Z6.out; have := Z7.out; have := Z8.out; have := Z9.out; have := Z10.out; have := Z11.out; omega) hb
      replace P2 : Hid (u8s.Rd w11 w.heap.size g2 [.slice p2a g2.length p2ac]) := Sh.Rd.below P2.out (by have := Z1.out; have := Z2.out; have := Z3.out; have := Z4.out; have := Z5.out; have := Z6.out; have := Z7.out; have := Z8.out; have := Z9.out; have := Z10.out; have := Z11.out; omega) hb
      replace X4 : Hid _ := Own.below X4.out (by have := Z1.out; have := Z2.out; have := Z3.out; have := Z4.out; have := Z5.out; have := Z6.out; have := Z7.out; have := Z8.out; have := Z9.out; have := Z10.out; have := Z11.out; omega) hb
      replace X5 : Hid _ := Own.below X5.out (by have := Z1.out; have := Z2.out; have := Z3.out; have := Z4.out; have := Z5.out; have := Z6.out; have := Z7.out; have := Z8.out; have := Z9.out; have := Z10.out; have := Z11.out; omega) hb
      replace X6 : Hid _ := Own.below X6.out (by have := Z1.out; have := Z2.out; have := Z3.out; have := Z4.out; have := Z5.out; have := Z6.out; have := Z7.out; have := Z8.out; have := Z9.out; have := Z10.out; have := Z11.out; omega) hb
      replace X7 : Hid _ := Own.below X7.out (by have := Z1.out; have := Z2.out; have := Z3.out; have := Z4.out; have := Z5.out; have := Z6.out; have := Z7.out; have := Z8.out; have := Z9.out; have := Z10.out; have := Z11.out; omega) hb
      replace X10 : Hid _ := Own.below X10.out (by have := Z1.out; have := Z2.out; have := Z3.out; have := Z4.out; have := Z5.out; have := Z6.out; have := Z7.out; have := Z8.out; have := Z9.out; have := Z10.out; have := Z11.out; omega) hb
      replace HW : Hid _ := HW.out.trans (hb.mono HW.out.size)
      clear hb
      go_wp2_with fail
      refine (lMarkSender g0 (.slice q5a g0.2.2.2.1.length q5ac) (1) _ _ _ X5.out (by omega) (by omega) (by omega)).mono ?_
      rintro e w12 ⟨rfl, ho, hw⟩
      have Z12 : Hid (w11.heap.size ≤ w12.heap.size) := hw.size
      replace B1_0 := bx_keep B1_0 (hw.block _ S1_0 (by have := Z1.out; have := Z2.out; have := Z3.out; have := Z4.out; have := Z5.out; have := Z6.out; have := Z7.out; have := Z8.out; have := Z9.out; have := Z10.out; have := Z11.out; have := Z12.out; omega))
      replace S1_0 := Nat.lt_of_lt_of_le S1_0 hw.size
      replace B5_0 := bx_keep B5_0 (hw.block _ S5_0 (by have := Z1.out; have := Z2.out; have := Z3.out; have := Z4.out; have := Z5.out; have := Z6.out; have := Z7.out; have := Z8.out; have := Z9.out; have := Z10.out; have := Z11.out; have := Z12.out; omega))
      replace S5_0 := Nat.lt_of_lt_of_le S5_0 hw.size
      replace B6_0 := bx_keep B6_0 (hw.block _ S6_0 (by have := Z1.out; have := Z2.out; have := Z3.out; have := Z4.out; have := Z5.out; have := Z6.out; have := Z7.out; have := Z8.out; have := Z9.out; have := Z10.out; have := Z11.out; have := Z12.out; omega))
      replace S6_0 := Nat.lt_of_lt_of_le S6_0 hw.size
      replace B8_0 := bx_keep B8_0 (hw.block _ S8_0 (by have := Z1.out; have := Z2.out; have := Z3.out; have := Z4.out; have := Z5.out; have := Z6.out; have := Z7.out; have := Z8.out; have := Z9.out; have := Z10.out; have := Z11.out; have := Z12.out; omega))
      replace S8_0 := Nat.lt_of_lt_of_le S8_0 hw.size
      replace P0 : Hid (shSender.Rd w12 w.heap.size g0 [.int .i64 g0.1, .int .i64 g0.2.1, .int .i64 g0.2.2.1, .slice p0a g0.2.2.2.1.length p0ac]) := Sh.Rd.keep (fun b hb => hw.block b (by have := Z1.out; have := Z2.out; have := Z3.out; have := Z4.out; have := Z5.out; have := Z6.out; have := Z7.out; have := Z8.out; have := Z9.out; have := Z10.out; have := Z11.out; have := Z12.out; omega) (by have := Z1.out; have := Z2.out; have := Z3.out; have := Z4.out; have := Z5.out; have := Z6.out; have := Z7.out; have := Z8.out; have := Z9.out; have := Z10.out; have := Z11.out; have := Z12.out; omega)) _ _ _ P0.out
      replace P2 : Hid (u8s.Rd w12 w.heap.size g2 [.slice p2a g2.length p2ac]) := Sh.Rd.keep (fun b hb => hw.block b (by have := Z1.out; have := Z2.out; have := Z3.out; have := Z4.out; have := Z5.out; have := Z6.out; have := Z7.out; have := Z8.out; have := Z9.out; have := Z10.out; have := Z11.out; have := Z12.out; omega) (by have := Z1.out; have := Z2.out; have := Z3.out; have := Z4.out; have := Z5.out; have := Z6.out; have := Z7.out; have := Z8.out; have := Z9.out; have := Z10.out; have := Z11.out; have := Z12.out; omega)) _ _ _ P2.out
      replace X4 : Hid _ := Own.keep X4.out (fun b h1 h2 => hw.block b (by have := Z1.out; have := Z2.out; have := Z3.out; have := Z4.out; have := Z5.out; have := Z6.out; have := Z7.out; have := Z8.out; have := Z9.out; have := Z10.out; have := Z11.out; have := Z12.out; omega) (by have := Z1.out; have := Z2.out; have := Z3.out; have := Z4.out; have := Z5.out; have := Z6.out; have := Z7.out; have := Z8.out; have := Z9.out; have := Z10.out; have := Z11.out; have := Z12.out; omega))
      replace X6 : Hid _ := Own.keep X6.out (fun b h1 h2 => hw.block b (by have := Z1.out; have := Z2.out; have := Z3.out; have := Z4.out; have := Z5.out; have := Z6.out; have := Z7.out; have := Z8.out; have := Z9.out; have := Z10.out; have := Z11.out; have := Z12.out; omega) (by have := Z1.out; have := Z2.out; have := Z3.out; have := Z4.out; have := Z5.out; have := Z6.out; have := Z7.out; have := Z8.out; have := Z9.out; have := Z10.out; have := Z11.out; have := Z12.out; omega))
      replace X7 : Hid _ := Own.keep X7.out (fun b h1 h2 => hw.block b (by have := Z1.out; have := Z2.out; have := Z3.out; have := Z4.out; have := Z5.out; have := Z6.out; have := Z7.out; have := Z8.out; have := Z9.out; have := Z10.out; have := Z11.out; have := Z12.out; omega) (by have := Z1.out; have := Z2.out; have := Z3.out; have := Z4.out; have := Z5.out; have := Z6.out; have := Z7.out; have := Z8.out; have := Z9.out; have := Z10.out; have := Z11.out; have := Z12.out; omega))
      replace X10 : Hid _ := Own.keep X10.out (fun b h1 h2 => hw.block b (by have := Z1.out; have := Z2.out; have := Z3.out; have := Z4.out; have := Z5.out; have := Z6.out; have := Z7.out; have := Z8.out; have := Z9.out; have := Z10.out; have := Z11.out; have := Z12.out; omega) (by have := Z1.out; have := Z2.out; have := Z3.out; have := Z4.out; have := Z5.out; have := Z6.out; have := Z7.out; have := Z8.out; have := Z9.out; have := Z10.out; have := Z11.out; have := Z12.out; omega))
      replace X5 : Hid _ := ho
      replace HW : Hid _ := within_below HW.out hw (by have := Z1.out; have := Z2.out; have := Z3.out; have := Z4.out; have := Z5.out; have := Z6.out; have := Z7.out; have := Z8.out; have := Z9.out; have := Z10.out; have := Z11.out; have := Z12.out; omega) HW.out.size
      clear ho hw
      clear X5
      go_wp2_with fail
      refine (lMarkBytesO g2 (.slice q6a g2.length q6ac) (1 + (wtSender g0 : Int)) _ _ _ X6.out (by omega) (by omega) (by first | omega | (have hwt := wtSender_le (x := g0) (by omega); omega))).mono ?_
      rintro e w13 ⟨rfl, ho, hw⟩
      have Z13 : Hid (w12.heap.size ≤ w13.heap.size) := hw.size
      replace B1_0 := bx_keep B1_0 (hw.block _ S1_0 (by have := Z1.out; have := Z2.out; have := Z3.out; have := Z4.out; have := Z5.out; have := Z6.out; have := Z7.out; have := Z8.out; have := Z9.out; have := Z10.out; have := Z11.out; have := Z12.out; have := Z13.out; omega))
      replace S1_0 := Nat.lt_of_lt_of_le S1_0 hw.size
      replace B5_0 := bx_keep B5_0 (hw.block _ S5_0 (by have := Z1.out; have := Z2.out; have := Z3.out; have := Z4.out; have := Z5.out; have := Z6.out; have := Z7.out; have := Z8.out; have := Z9.out; have := Z10.out; have := Z11.out; have := Z12.out; have := Z13.out; omega))
      replace S5_0 := Nat.lt_of_lt_of_le S5_0 hw.size
      replace B6_0 := bx_keep B6_0 (hw.block _ S6_0 (by have := Z1.out; have := Z2.out; have := Z3.out; have := Z4.out; have := Z5.out; have := Z6.out; have := Z7.out; have := Z8.out; have := Z9.out; have := Z10.out; have := Z11.out; have := Z12.out; have := Z13.out; omega))
      replace S6_0 := Nat.lt_of_lt_of_le S6_0 hw.size
      replace B8_0 := bx_keep B8_0 (hw.block _ S8_0 (by have := Z1.out; have := Z2.out; have := Z3.out; have := Z4.out; have := Z5.out; have := Z6.out; have := Z7.out; have := Z8.out; have := Z9.out; have := Z10.out; have := Z11.out; have := Z12.out; have := Z13.out; omega))
      replace S8_0 := Nat.lt_of_lt_of_le S8_0 hw.size
      replace P0 : Hid (shSender.Rd w13 w.heap.size g0 [.int .i64 g0.1, .int .i64 g0.2.1, .int .i64 g0.2.2.1, .slice p0a g0.2.2.2.1.length p0ac]) := Sh.Rd.keep (fun b hb => hw.block b (by have := Z1.out; have := Z2.out; have := Z3.out; have := Z4.out; have := Z5.out; have := Z6.out; have := Z7.out; have := Z8.out; have := Z9.out; have := Z10.out; have := Z11.out; have := Z12.out; have := Z13.out; omega) (by have := Z1.out; have := Z2.out; have := Z3.out; have := Z4.out; have := Z5.out; have := Z6.out; have := Z7.out; have := Z8.out; have := Z9.out; have := Z10.out; have := Z11.out; have := Z12.out; have := Z13.out; omega)) _ _ _ P0.out
      replace P2 : Hid (u8s.Rd w13 w.heap.size g2 [.slice p2a g2.length p2ac]) := Sh.Rd.keep (fun b hb => hw.block b (by have := Z1.out; have := Z2.out; have := Z3.out; have := Z4.out; have := Z5.out; have := Z6.out; have := Z7.out; have := Z8.out; have := Z9.out; have := Z10.out; have := Z11.out; have := Z12.out; have := Z13.out; omega) (by have := Z1.out; have := Z2.out; have := Z3.out; have := Z4.out; have := Z5.out; have := Z6.out; have := Z7.out; have := Z8.out; have := Z9.out; have := Z10.out; have := Z11.out; have := Z12.out; have := Z13.out; omega)) _ _ _ P2.out
      replace X4 : Hid _ := Own.keep X4.out (fun b h1 h2 => hw.block b (by have := Z1.out; have := Z2.out; have := Z3.out; have := Z4.out; have := Z5.out; have := Z6.out; have := Z7.out; have := Z8.out; have := Z9.out; have := Z10.out; have := Z11.out; have := Z12.out; have := Z13.out; omega) (by have := Z1.out; have := Z2.out; have := Z3.out; have := Z4.out; have := Z5.out; have := Z6.out; have := Z7.out; have := Z8.out; have := Z9.out; have := Z10.out; have := Z11.out; have := Z12.out; have := Z13.out; omega))
      replace X7 : Hid _ := Own.keep X7.out (fun b h1 h2 => hw.block b (by have := Z1.out; have := Z2.out; have := Z3.out; have := Z4.out; have := Z5.out; have := Z6.out; have := Z7.out; have := Z8.out; have := Z9.out; have := Z10.out; have := Z11.out; have := Z12.out; have := Z13.out; omega) (by have := Z1.out; have := Z2.out; have := Z3.out; have := Z4.out; have := Z5.out; have := Z6.out; have := Z7.out; have := Z8.out; have := Z9.out; have := Z10.out; have := Z11.out; have := Z12.out; have := Z13.out; omega))
      replace X10 : Hid _ := Own.keep X10.out (fun b h1 h2 => hw.block b (by have := Z1.out; have := Z2.out; have := Z3.out; have := Z4.out; have := Z5.out; have := Z6.out; have := Z7.out; have := Z8.out; have := Z9.out; have := Z10.out; have := Z11.out; have := Z12.out; have := Z13.out; omega) (by have := Z1.out; have := Z2.out; have := Z3.out; have := Z4.out; have := Z5.out; have := Z6.out; have := Z7.out; have := Z8.out; have := Z9.out; have := Z10.out; have := Z11.out; have := Z12.out; have := Z13.out; omega))
      replace X6 : Hid _ := ho
      replace HW : Hid _ := within_below HW.out hw (by have := Z1.out; have := Z2.out; have := Z3.out; have := Z4.out; have := Z5.out; have := Z6.out; have := Z7.out; have := Z8.out; have := Z9.out; have := Z10.out; have := Z11.out; have := Z12.out; have := Z13.out; omega) HW.out.size
      clear ho hw
      clear X6
      have hk1 : 0 ≤ (1 : Int) + ((wtSender g0 : Nat) : Int) + (g2.length : Int) := by omega
      have hk2 : decide ((1 : Int) + ((wtSender g0 : Nat) : Int) + (g2.length : Int) < 0) = false := by simp; omega
      go_wp2_with fail
      refine (lEqSenderResult C V (.slice q7a V.2.2.2.1.length q7ac) (.slice q4a V.2.2.2.1.length q4ac) _ _ (Sh.Rd.mono (by have := Z1.out; have := Z2.out; have := Z3.out; have := Z4.out; have := Z5.out; have := Z6.out; have := Z7.out; have := Z8.out; have := Z9.out; have := Z10.out; have := Z11.out; have := Z12.out; have := Z13.out; first | exact Nat.le_refl _ | omega | (simp; done) | (simp; omega)) _ _ _ (Sh.Rd.below (B := w13.heap.size) (C := w13.heap.size) (Own.rd X7.out (Nat.le_refl _)) (Nat.le_refl _) (by first | exact Below.refl _ _ | go_grown | exact Below.drew (Below.refl _ _)))) (Sh.Rd.mono (by have := Z1.out; have := Z2.out; have := Z3.out; have := Z4.out; have := Z5.out; have := Z6.out; have := Z7.out; have := Z8.out; have := Z9.out; have := Z10.out; have := Z11.out; have := Z12.out; have := Z13.out; first | exact Nat.le_refl _ | omega | (simp; done) | (simp; omega)) _ _ _ (Sh.Rd.below (B := w13.heap.size) (C := w13.heap.size) (Own.rd X4.out (Nat.le_refl _)) (Nat.le_refl _) (by first | exact Below.refl _ _ | go_grown | exact Below.drew (Below.refl _ _)))) (Nat.le_refl _) VT.out).mono ?_
      rintro e w14 ⟨rfl, hb⟩
      have Z14 : Hid (w13.heap.size ≤ w14.heap.size) := hb.size
      replace B1_0 := bx_below B1_0 S1_0 hb
      replace S1_0 := Nat.lt_of_lt_of_le S1_0 hb.size
      replace B5_0 := bx_below B5_0 S5_0 hb
      replace S5_0 := Nat.lt_of_lt_of_le S5_0 hb.size
      replace B6_0 := bx_below B6_0 S6_0 hb
      replace S6_0 := Nat.lt_of_lt_of_le S6_0 hb.size
      replace B8_0 := bx_below B8_0 S8_0 hb
      replace S8_0 := Nat.lt_of_lt_of_le S8_0 hb.size
      replace P0 : Hid (shSender.Rd w14 w.heap.size g0 [.int .i64 g0.1, .int .i64 g0.2.1, .int .i64 g0.2.2.1, .slice p0a g0.2.2.2.1.length p0ac]) := Sh.Rd.below P0.out (by have := Z1.out; have := Z2.out; have := Z3.out; have := Z4.out; have := Z5.out; have := Z6.out; have := Z7.out; have := Z8.out; have := Z9.out; have := Z10.out; have := Z11.out; have := Z12.out; have := Z13.out; have := Z14.out; omega) hb
      replace P2 : Hid (u8s.Rd w14 w.heap.size g2 [.slice p2a g2.length p2ac]) := Sh.Rd.below P2.out (by have := Z1.out; have := Z2.out; have := Z3.out; have := Z4.out; have := Z5.out; have := Z6.out; have := Z7.out; have := Z8.out; have := Z9.out; have := Z10.out; have := Z11.out; have := Z12.out; have := Z13.out; have := Z14.out; omega) hb
      replace X4 : Hid _ := Own.below X4.out (by have := Z1.out; have := Z2.out; have := Z3.out; have := Z4.out; have := Z5.out; have := Z6.out; have := Z7.out; have := Z8.out; have := Z9.out; have := Z10.out; have := Z11.out; have := Z12.out; have := Z13.out; have := Z14.out; omega) hb
      replace X7 : Hid _ := Own.below X7.out (by have := Z1.out; have := Z2.out; have := Z3.out; have := Z4.out; have := Z5.out; have := Z6.out; have := Z7.out; have := Z8.out; have := Z9.out; have := Z10.out; have := Z11.out; have := Z12.out; have := Z13.out; have := Z14.out; omega) hb
      replace X10 : Hid _ := Own.below X10.out (by have := Z1.out; have := Z2.out; have := Z3.out; have := Z4.out; have := Z5.out; have := Z6.out; have := Z7.out; have := Z8.out; have := Z9.out; have := Z10.out; have := Z11.out; have := Z12.out; have := Z13.out; have := Z14.out; omega) hb
      replace HW : Hid _ := HW.out.trans (hb.mono HW.out.size)
      clear hb
      go_wp2_with fail
      refine (lMarkSenderResult C V (.slice q7a V.2.2.2.1.length q7ac) 1 _ _ _ X7.out (by first | exact Nat.le_refl _ | omega) VT.out (by omega) (by omega)).mono ?_
      rintro e w15 ⟨rfl, ho, hw⟩
      have Z15 : Hid (w14.heap.size ≤ w15.heap.size) := hw.size
      replace B1_0 := bx_keep B1_0 (hw.block _ S1_0 (by have := Z1.out; have := Z2.out; have := Z3.out; have := Z4.out; have := Z5.out; have := Z6.out; have := Z7.out; have := Z8.out; have := Z9.out; have := Z10.out; have := Z11.out; have := Z12.out; have := Z13.out; have := Z14.out; have := Z15.out; omega))
      replace S1_0 := Nat.lt_of_lt_of_le S1_0 hw.size
      replace B5_0 := bx_keep B5_0 (hw.block _ S5_0 (by have := Z1.out; have := Z2.out; have := Z3.out; have := Z4.out; have := Z5.out; have := Z6.out; have := Z7.out; have := Z8.out; have := Z9.out; have := Z10.out; have := Z11.out; have := Z12.out; have := Z13.out; have := Z14.out; have := Z15.out; omega))
      replace S5_0 := Nat.lt_of_lt_of_le S5_0 hw.size
      replace B6_0 := bx_keep B6_0 (hw.block _ S6_0 (by have := Z1.out; have := Z2.out; have := Z3.out; have := Z4.out; have := Z5.out; have := Z6.out; have := Z7.out; have := Z8.out; have := Z9.out; have := Z10.out; have := Z11.out; have := Z12.out; have := Z13.out; have := Z14.out; have := Z15.out; omega))
      replace S6_0 := Nat.lt_of_lt_of_le S6_0 hw.size
      replace B8_0 := bx_keep B8_0 (hw.block _ S8_0 (by have := Z1.out; have := Z2.out; have := Z3.out; have := Z4.out; have := Z5.out; have := Z6.out; have := Z7.out; have := Z8.out; have := Z9.out; have := Z10.out; have := Z11.out; have := Z12.out; have := Z13.out; have := Z14.out; have := Z15.out; omega))
      replace S8_0 := Nat.lt_of_lt_of_le S8_0 hw.size
      replace P0 : Hid (shSender.Rd w15 w.heap.size g0 [.int .i64 g0.1, .int .i64 g0.2.1, .int .i64 g0.2.2.1, .slice p0a g0.2.2.2.1.length p0ac]) := Sh.Rd.keep (fun b hb => hw.block b (by have := Z1.out; have := Z2.out; have := Z3.out; have := Z4.out; have := Z5.out; have := Z6.out; have := Z7.out; have := Z8.out; have := Z9.out; have := Z10.out; have := Z11.out; have := Z12.out; have := Z13.out; have := Z14.out; have := Z15.out; omega) (by have := Z1.out; have := Z2.out; have := Z3.out; have := Z4.out; have := Z5.out; have := Z6.out; have := Z7.out; have := Z8.out; have := Z9.out; have := Z10.out; have := Z11.out; have := Z12.out; have := Z13.out; have := Z14.out; have := Z15.out; omega)) _ _ _ P0.out
      replace P2 : Hid (u8s.Rd w15 w.heap.size g2 [.slice p2a g2.length p2ac]) := Sh.Rd.keep (fun b hb => hw.block b (by have := Z1.out; have := Z2.out; have := Z3.out; have := Z4.out; have := Z5.out; have := Z6.out; have := Z7.out; have := Z8.out; have := Z9.out; have := Z10.out; have := Z11.out; have := Z12.out; have := Z13.out; have := Z14.out; have := Z15.out; omega) (by have := Z1.out; have := Z2.out; have := Z3.out; have := Z4.out; have := Z5.out; have := Z6.out; have := Z7.out; have := Z8.out; have := Z9.out; have := Z10.out; have := Z11.out; have := Z12.out; have := Z13.out; have := Z14.out; have := Z15.out; omega)) _ _ _ P2.out
      replace X4 : Hid _ := Own.keep X4.out (fun b h1 h2 => hw.block b (by have := Z1.out; have := Z2.out; have := Z3.out; have := Z4.out; have := Z5.out; have := Z6.out; have := Z7.out; have := Z8.out; have := Z9.out; have := Z10.out; have := Z11.out; have := Z12.out; have := Z13.out; have := Z14.out; have := Z15.out; omega) (by have := Z1.out; have := Z2.out; have := Z3.out; have := Z4.out; have := Z5.out; have := Z6.out; have := Z7.out; have := Z8.out; have := Z9.out; have := Z10.out; have := Z11.out; have := Z12.out; have := Z13.out; have := Z14.out; have := Z15.out; omega))
      replace X10 : Hid _ := Own.keep X10.out (fun b h1 h2 => hw.block b (by have := Z1.out; have := Z2.out; have := Z3.out; have := Z4.out; have := Z5.out; have := Z6.out; have := Z7.out; have := Z8.out; have := Z9.out; have := Z10.out; have := Z11.out; have := Z12.out; have := Z13.out; have := Z14.out; have := Z15.out; omega) (by have := Z1.out; have := Z2.out; have := Z3.out; have := Z4.out; have := Z5.out; have := Z6.out; have := Z7.out; have := Z8.out; have := Z9.out; have := Z10.out; have := Z11.out; have := Z12.out; have := Z13.out; have := Z14.out; have := Z15.out; omega))
      replace X7 : Hid _ := ho
      replace HW : Hid _ := within_below HW.out hw (by have := Z1.out; have := Z2.out; have := Z3.out; have := Z4.out; have := Z5.out; have := Z6.out; have := Z7.out; have := Z8.out; have := Z9.out; have := Z10.out; have := Z11.out; have := Z12.out; have := Z13.out; have := Z14.out; have := Z15.out; omega) HW.out.size
      clear ho hw
      go_wp2_with fail
      refine (lHeldSenderResult C V (.slice q7a V.2.2.2.1.length q7ac) 1 _ _ (Sh.Rd.mono (by have := Z1.out; have := Z2.out; have := Z3.out; have := Z4.out; have := Z5.out; have := Z6.out; have := Z7.out; have := Z8.out; have := Z9.out; have := Z10.out; have := Z11.out; have := Z12.out; have := Z13.out; have := Z14.out; have := Z15.out; first | exact Nat.le_refl _ | omega | (simp; done) | (simp; omega)) _ _ _ (Sh.Rd.below (B := w15.heap.size) (C := w15.heap.size) (Own.rd X7.out (Nat.le_refl _)) (Nat.le_refl _) (by first | exact Below.refl _ _ | go_grown | exact Below.drew (Below.refl _ _)))) (Nat.le_refl _) VT.out (by omega) (by omega)).mono ?_
      rintro e w16 ⟨rfl, hb⟩
      have Z16 : Hid (w15.heap.size ≤ w16.heap.size) := hb.size
      replace B1_0 := bx_below B1_0 S1_0 hb
      replace S1_0 := Nat.lt_of_lt_of_le S1_0 hb.size
      replace B5_0 := bx_below B5_0 S5_0 hb
      replace S5_0 := Nat.lt_of_lt_of_le S5_0 hb.size
      replace B6_0 := bx_below B6_0 S6_0 hb
      replace S6_0 := Nat.lt_of_lt_of_le S6_0 hb.size
      replace B8_0 := bx_below B8_0 S8_0 hb
      replace S8_0 := Nat.lt_of_lt_of_le S8_0 hb.size
      replace P0 : Hid (shSender.Rd w16 w.heap.size g0 [.int .i64 g0.1, .int .i64 g0.2.1, .int .i64 g0.2.2.1, .slice p0a g0.2.2.2.1.length p0ac]) := Sh.Rd.below P0.out (by have := Z1.out; have := Z2.out; have := Z3.out; have := Z4.out; have := Z5.out; have := Z6.out; have := Z7.out; have := Z8.out; have := Z9.out; have := Z10.out; have := Z11.out; have := Z12.out; have := Z13.out; have := Z14.out; have := Z15.out; have := Z16.out; omega) hb
      replace P2 : Hid (u8s.Rd w16 w.heap.size g2 [.slice p2a g2.length p2ac]) := Sh.Rd.below P2.out (by have := Z1.out; have := Z2.out; have := Z3.out; have := Z4.out; have := Z5.out; have := Z6.out; have := Z7.out; have := Z8.out; have := Z9.out; have := Z10.out; have := Z11.out; have := Z12.out; have := Z13.out; have := Z14.out; have := Z15.out; have := Z16.out; omega) hb
      replace X4 : Hid _ := Own.below X4.out (by have := Z1.out; have := Z2.out; have := Z3.out; have := Z4.out; have := Z5.out; have := Z6.out; have := Z7.out; have := Z8.out; have := Z9.out; have := Z10.out; have := Z11.out; have := Z12.out; have := Z13.out; have := Z14.out; have := Z15.out; have := Z16.out; omega) hb
      replace X7 : Hid _ := Own.below X7.out (by have := Z1.out; have := Z2.out; have := Z3.out; have := Z4.out; have := Z5.out; have := Z6.out; have := Z7.out; have := Z8.out; have := Z9.out; have := Z10.out; have := Z11.out; have := Z12.out; have := Z13.out; have := Z14.out; have := Z15.out; have := Z16.out; omega) hb
      replace X10 : Hid _ := Own.below X10.out (by have := Z1.out; have := Z2.out; have := Z3.out; have := Z4.out; have := Z5.out; have := Z6.out; have := Z7.out; have := Z8.out; have := Z9.out; have := Z10.out; have := Z11.out; have := Z12.out; have := Z13.out; have := Z14.out; have := Z15.out; have := Z16.out; omega) hb
      replace HW : Hid _ := HW.out.trans (hb.mono HW.out.size)
      clear hb
      go_wp2_with fail
      refine (lToSender g0 (.slice p0a g0.2.2.2.1.length p0ac) _ w.heap.size (Sh.Rd.below (C := w16.heap.size) P0.out (by have := Z1.out; have := Z2.out; have := Z3.out; have := Z4.out; have := Z5.out; have := Z6.out; have := Z7.out; have := Z8.out; have := Z9.out; have := Z10.out; have := Z11.out; have := Z12.out; have := Z13.out; have := Z14.out; have := Z15.out; have := Z16.out; first | omega | (simp; done) | (simp; omega)) (by first | exact Below.refl _ _ | go_grown | exact Below.drew (Below.refl _ _))) (by have := Z1.out; have := Z2.out; have := Z3.out; have := Z4.out; have := Z5.out; have := Z6.out; have := Z7.out; have := Z8.out; have := Z9.out; have := Z10.out; have := Z11.out; have := Z12.out; have := Z13.out; have := Z14.out; have := Z15.out; have := Z16.out; first | omega | (simp; done) | (simp; omega)) (by omega)).mono ?_
      rintro e w17 ⟨u17a, rfl, ho, hb⟩
      obtain ⟨q17v, e5, r5, -⟩ := rd_Sender (ho.rd (Nat.le_refl _))
      simp only [List.cons.injEq, and_true, true_and] at e5
      subst e5
      obtain ⟨q17a, q17ac, e5⟩ := row_form r5
      simp only [List.cons.injEq, and_true] at e5
      subst e5
      clear r5
      have X17 : Hid (Own w17 (w16.heap.size) w17.heap.size shSender g0 [.int .i64 g0.1, .int .i64 g0.2.1, .int .i64 g0.2.2.1, .slice q17a g0.2.2.2.1.length q17ac]) := Own.mono ho (by first | exact Nat.le_refl _ | (simp; done) | (simp; omega)) (Nat.le_refl _)
      clear ho
      have Z17 : Hid (w16.heap.size ≤ w17.heap.size) := hb.size
      replace B1_0 := bx_below B1_0 S1_0 hb
      replace S1_0 := Nat.lt_of_lt_of_le S1_0 hb.size
      replace B5_0 := bx_below B5_0 S5_0 hb
      replace S5_0 := Nat.lt_of_lt_of_le S5_0 hb.size
      replace B6_0 := bx_below B6_0 S6_0 hb
      replace S6_0 := Nat.lt_of_lt_of_le S6_0 hb.size
      replace B8_0 := bx_below B8_0 S8_0 hb
      replace S8_0 := Nat.lt_of_lt_of_le S8_0 hb.size
      replace P0 : Hid (shSender.Rd w17 w.heap.size g0 [.int .i64 g0.1, .int .i64 g0.2.1, .int .i64 g0.2.2.1, .slice p0a g0.2.2.2.1.length p0ac]) := Sh.Rd.below P0.out (by have := Z1.out; have := Z2.out; have := Z3.out; have := Z4.out; have := Z5.out; have := Z6.out; have := Z7.out; have := Z8.out; have := Z9.out; have := Z10.out; have := Z11.out; have := Z12.out; have := Z13.out; have := Z14.out; have := Z15.out; have := Z16.out; have := Z17.out; omega) hb
      replace P2 : Hid (u8s.Rd w17 w.heap.size g2 [.slice p2a g2.length p2ac]) := Sh.Rd.below P2.out (by have := Z1.out; have := Z2.out; have := Z3.out; have := Z4.out; have := Z5.out; have := Z6.out; have := Z7.out; have := Z8.out; have := Z9.out; have := Z10.out; have := Z11.out; have := Z12.out; have := Z13.out; have := Z14.out; have := Z15.out; have := Z16.out; have := Z17.out; omega) hb
      replace X4 : Hid _ := Own.below X4.out (by have := Z1.out; have := Z2.out; have := Z3.out; have := Z4.out; have := Z5.out; have := Z6.out; have := Z7.out; have := Z8.out; have := Z9.out; have := Z10.out; have := Z11.out; have := Z12.out; have := Z13.out; have := Z14.out; have := Z15.out; have := Z16.out; have := Z17.out; omega) hb
      replace X7 : Hid _ := Own.below X7.out (by have := Z1.out; have := Z2.out; have := Z3.out; have := Z4.out; have := Z5.out; have := Z6.out; have := Z7.out; have := Z8.out; have := Z9.out; have := Z10.out; have := Z11.out; have := Z12.out; have := Z13.out; have := Z14.out; have := Z15.out; have := Z16.out; have := Z17.out; omega) hb
      replace X10 : Hid _ := Own.below X10.out (by have := Z1.out; have := Z2.out; have := Z3.out; have := Z4.out; have := Z5.out; have := Z6.out; have := Z7.out; have := Z8.out; have := Z9.out; have := Z10.out; have := Z11.out; have := Z12.out; have := Z13.out; have := Z14.out; have := Z15.out; have := Z16.out; have := Z17.out; omega) hb
      replace HW : Hid _ := HW.out.trans (hb.mono HW.out.size)
      clear hb
      go_wp2_with fail
      refine (lToBytesO g2 (.slice p2a g2.length p2ac) _ w.heap.size (Sh.Rd.below (C := w17.heap.size) P2.out (by have := Z1.out; have := Z2.out; have := Z3.out; have := Z4.out; have := Z5.out; have := Z6.out; have := Z7.out; have := Z8.out; have := Z9.out; have := Z10.out; have := Z11.out; have := Z12.out; have := Z13.out; have := Z14.out; have := Z15.out; have := Z16.out; have := Z17.out; first | omega | (simp; done) | (simp; omega)) (by first | exact Below.refl _ _ | go_grown | exact Below.drew (Below.refl _ _))) (by omega)).mono ?_
      rintro e w18 ⟨u18a, rfl, ho, hb⟩
      obtain ⟨q18a, q18ac, e5, -, -, -⟩ := rd_bytes (ho.rd (Nat.le_refl _))
      simp only [List.cons.injEq, and_true] at e5
      subst e5
      have X18 : Hid (Own w18 (w17.heap.size) w18.heap.size u8s g2 [.slice q18a g2.length q18ac]) := Own.mono ho (by first | exact Nat.le_refl _ | (simp; done) | (simp; omega)) (Nat.le_refl _)
      clear ho
      have Z18 : Hid (w17.heap.size ≤ w18.heap.size) := hb.size
      replace B1_0 := bx_below B1_0 S1_0 hb
      replace S1_0 := Nat.lt_of_lt_of_le S1_0 hb.size
      replace B5_0 := bx_below B5_0 S5_0 hb
      replace S5_0 := Nat.lt_of_lt_of_le S5_0 hb.size
      replace B6_0 := bx_below B6_0 S6_0 hb
      replace S6_0 := Nat.lt_of_lt_of_le S6_0 hb.size
      replace B8_0 := bx_below B8_0 S8_0 hb
      replace S8_0 := Nat.lt_of_lt_of_le S8_0 hb.size
      replace P0 : Hid (shSender.Rd w18 w.heap.size g0 [.int .i64 g0.1, .int .i64 g0.2.1, .int .i64 g0.2.2.1, .slice p0a g0.2.2.2.1.length p0ac]) := Sh.Rd.below P0.out (by have := Z1.out; have := Z2.out; have := Z3.out; have := Z4.out; have := Z5.out; have := Z6.out; have := Z7.out; have := Z8.out; have := Z9.out; have := Z10.out; have := Z11.out; have := Z12.out; have := Z13.out; have := Z14.out; have := Z15.out; have := Z16.out; have := Z17.out; have := Z18.out; omega) hb
      replace P2 : Hid (u8s.Rd w18 w.heap.size g2 [.slice p2a g2.length p2ac]) := Sh.Rd.below P2.out (by have := Z1.out; have := Z2.out; have := Z3.out; have := Z4.out; have := Z5.out; have := Z6.out; have := Z7.out; have := Z8.out; have := Z9.out; have := Z10.out; have := Z11.out; have := Z12.out; have := Z13.out; have := Z14.out; have := Z15.out; have := Z16.out; have := Z17.out; have := Z18.out; omega) hb
      replace X4 : Hid _ := Own.below X4.out (by have := Z1.out; have := Z2.out; have := Z3.out; have := Z4.out; have := Z5.out; have := Z6.out; have := Z7.out; have := Z8.out; have := Z9.out; have := Z10.out; have := Z11.out; have := Z12.out; have := Z13.out; have := Z14.out; have := Z15.out; have := Z16.out; have := Z17.out; have := Z18.out; omega) hb
      replace X7 : Hid _ := Own.below X7.out (by have := Z1.out; have := Z2.out; have := Z3.out; have := Z4.out; have := Z5.out; have := Z6.out; have := Z7.out; have := Z8.out; have := Z9.out; have := Z10.out; have := Z11.out; have := Z12.out; have := Z13.out; have := Z14.out; have := Z15.out; have := Z16.out; have := Z17.out; have := Z18.out; omega) hb
      replace X10 : Hid _ := Own.below X10.out (by have := Z1.out; have := Z2.out; have := Z3.out; have := Z4.out; have := Z5.out; have := Z6.out; have := Z7.out; have := Z8.out; have := Z9.out; have := Z10.out; have := Z11.out; have := Z12.out; have := Z13.out; have := Z14.out; have := Z15.out; have := Z16.out; have := Z17.out; have := Z18.out; omega) hb
      replace X17 : Hid _ := Own.below X17.out (by have := Z1.out; have := Z2.out; have := Z3.out; have := Z4.out; have := Z5.out; have := Z6.out; have := Z7.out; have := Z8.out; have := Z9.out; have := Z10.out; have := Z11.out; have := Z12.out; have := Z13.out; have := Z14.out; have := Z15.out; have := Z16.out; have := Z17.out; have := Z18.out; omega) hb
      replace HW : Hid _ := HW.out.trans (hb.mono HW.out.size)
      clear hb
      go_wp2_with fail
      refine (CI.out _ _ (.slice q17a g0.2.2.2.1.length q17ac) q18a q18ac (Sh.Rd.mono (by have := Z1.out; have := Z2.out; have := Z3.out; have := Z4.out; have := Z5.out; have := Z6.out; have := Z7.out; have := Z8.out; have := Z9.out; have := Z10.out; have := Z11.out; have := Z12.out; have := Z13.out; have := Z14.out; have := Z15.out; have := Z16.out; have := Z17.out; have := Z18.out; first | exact Nat.le_refl _ | omega | (simp; done) | (simp; omega)) _ _ _ (Sh.Rd.below (B := w18.heap.size) (C := w18.heap.size) (Own.rd X17.out (Nat.le_refl _)) (Nat.le_refl _) (by first | exact Below.refl _ _ | go_grown | exact Below.drew (Below.refl _ _)))) (Sh.Rd.mono (by have := Z1.out; have := Z2.out; have := Z3.out; have := Z4.out; have := Z5.out; have := Z6.out; have := Z7.out; have := Z8.out; have := Z9.out; have := Z10.out; have := Z11.out; have := Z12.out; have := Z13.out; have := Z14.out; have := Z15.out; have := Z16.out; have := Z17.out; have := Z18.out; first | exact Nat.le_refl _ | omega | (simp; done) | (simp; omega)) _ _ _ (Sh.Rd.below (B := w18.heap.size) (C := w18.heap.size) (Own.rd X18.out (Nat.le_refl _)) (Nat.le_refl _) (by first | exact Below.refl _ _ | go_grown | exact Below.drew (Below.refl _ _)))) (Nat.le_refl _) (by omega) (by omega)).mono ?_
      rintro e w19 ⟨u19a, rfl, ho, hb⟩
      obtain ⟨q19v, e5, r5, -⟩ := rd_Sender (ho.rd (Nat.le_refl _))
      simp only [List.cons.injEq, and_true, true_and] at e5
      subst e5
      obtain ⟨q19a, q19ac, e5⟩ := row_form r5
      simp only [List.cons.injEq, and_true] at e5
      subst e5
      clear r5
      have X19 : Hid (Own w19 (w18.heap.size) w19.heap.size shSender V [.int .i64 V.1, .int .i64 V.2.1, .int .i64 V.2.2.1, .slice q19a V.2.2.2.1.length q19ac]) := Own.mono ho (by first | exact Nat.le_refl _ | (simp; done) | (simp; omega)) (Nat.le_refl _)
      clear ho
      have Z19 : Hid (w18.heap.size ≤ w19.heap.size) := hb.size
      replace B1_0 := bx_below B1_0 S1_0 hb
      replace S1_0 := Nat.lt_of_lt_of_le S1_0 hb.size
      replace B5_0 := bx_below B5_0 S5_0 hb
      replace S5_0 := Nat.lt_of_lt_of_le S5_0 hb.size
      replace B6_0 := bx_below B6_0 S6_0 hb
      replace S6_0 := Nat.lt_of_lt_of_le S6_0 hb.size
      replace B8_0 := bx_below B8_0 S8_0 hb
      replace S8_0 := Nat.lt_of_lt_of_le S8_0 hb.size
      replace P0 : Hid (shSender.Rd w19 w.heap.size g0 [.int .i64 g0.1, .int .i64 g0.2.1, .int .i64 g0.2.2.1, .slice p0a g0.2.2.2.1.length p0ac]) := Sh.Rd.below P0.out (by have := Z1.out; have := Z2.out; have := Z3.out; have := Z4.out; have := Z5.out; have := Z6.out; have := Z7.out; have := Z8.out; have := Z9.out; have := Z10.out; have := Z11.out; have := Z12.out; have := Z13.out; have := Z14.out; have := Z15.out; have := Z16.out; have := Z17.out; have := Z18.out; have := Z19.out; omega) hb
      replace P2 : Hid (u8s.Rd w19 w.heap.size g2 [.slice p2a g2.length p2ac]) := Sh.Rd.below P2.out (by have := Z1.out; have := Z2.out; have := Z3.out; have := Z4.out; have := Z5.out; have := Z6.out; have := Z7.out; have := Z8.out; have := Z9.out; have := Z10.out; have := Z11.out; have := Z12.out; have := Z13.out; have := Z14.out; have := Z15.out; have := Z16.out; have := Z17.out; have := Z18.out; have := Z19.out; omega) hb
      replace X4 : Hid _ := Own.below X4.out (by have := Z1.out; have := Z2.out; have := Z3.out; have := Z4.out; have := Z5.out; have := Z6.out; have := Z7.out; have := Z8.out; have := Z9.out; have := Z10.out; have := Z11.out; have := Z12.out; have := Z13.out; have := Z14.out; have := Z15.out; have := Z16.out; have := Z17.out; have := Z18.out; have := Z19.out; omega) hb
      replace X7 : Hid _ := Own.below X7.out (by have := Z1.out; have := Z2.out; have := Z3.out; have := Z4.out; have := Z5.out; have := Z6.out; have := Z7.out; have := Z8.out; have := Z9.out; have := Z10.out; have := Z11.out; have := Z12.out; have := Z13.out; have := Z14.out; have := Z15.out; have := Z16.out; have := Z17.out; have := Z18.out; have := Z19.out; omega) hb
      replace X10 : Hid _ := Own.below X10.out (by have := Z1.out; have := Z2.out; have := Z3.out; have := Z4.out; have := Z5.out; have := Z6.out; have := Z7.out; have := Z8.out; have := Z9.out; have := Z10.out; have := Z11.out; have := Z12.out; have := Z13.out; have := Z14.out; have := Z15.out; have := Z16.out; have := Z17.out; have := Z18.out; have := Z19.out; omega) hb
      replace X17 : Hid _ := Own.below X17.out (by have := Z1.out; have := Z2.out; have := Z3.out; have := Z4.out; have := Z5.out; have := Z6.out; have := Z7.out; have := Z8.out; have := Z9.out; have := Z10.out; have := Z11.out; have := Z12.out; have := Z13.out; have := Z14.out; have := Z15.out; have := Z16.out; have := Z17.out; have := Z18.out; have := Z19.out; omega) hb
      replace X18 : Hid _ := Own.below X18.out (by have := Z1.out; have := Z2.out; have := Z3.out; have := Z4.out; have := Z5.out; have := Z6.out; have := Z7.out; have := Z8.out; have := Z9.out; have := Z10.out; have := Z11.out; have := Z12.out; have := Z13.out; have := Z14.out; have := Z15.out; have := Z16.out; have := Z17.out; have := Z18.out; have := Z19.out; omega) hb
      replace HW : Hid _ := HW.out.trans (hb.mono HW.out.size)
      clear hb
      clear X17
      clear X18
      go_wp2_with fail
      refine (lEqSenderResult C V (.slice q19a V.2.2.2.1.length q19ac) (.slice q4a V.2.2.2.1.length q4ac) _ _ (Sh.Rd.mono (by have := Z1.out; have := Z2.out; have := Z3.out; have := Z4.out; have := Z5.out; have := Z6.out; have := Z7.out; have := Z8.out; have := Z9.out; have := Z10.out; have := Z11.out; have := Z12.out; have := Z13.out; have := Z14.out; have := Z15.out; have := Z16.out; have := Z17.out; have := Z18.out; have := Z19.out; first | exact Nat.le_refl _ | omega | (simp; done) | (simp; omega)) _ _ _ (Sh.Rd.below (B := w19.heap.size) (C := w19.heap.size) (Own.rd X19.out (Nat.le_refl _)) (Nat.le_refl _) (by first | exact Below.refl _ _ | go_grown | exact Below.drew (Below.refl _ _)))) (Sh.Rd.mono (by have := Z1.out; have := Z2.out; have := Z3.out; have := Z4.out; have := Z5.out; have := Z6.out; have := Z7.out; have := Z8.out; have := Z9.out; have := Z10.out; have := Z11.out; have := Z12.out; have := Z13.out; have := Z14.out; have := Z15.out; have := Z16.out; have := Z17.out; have := Z18.out; have := Z19.out; first | exact Nat.le_refl _ | omega | (simp; done) | (simp; omega)) _ _ _ (Sh.Rd.below (B := w19.heap.size) (C := w19.heap.size) (Own.rd X4.out (Nat.le_refl _)) (Nat.le_refl _) (by first | exact Below.refl _ _ | go_grown | exact Below.drew (Below.refl _ _)))) (Nat.le_refl _) VT.out).mono ?_
      rintro e w20 ⟨rfl, hb⟩
      have B20_0 := bx_new hb
      obtain ⟨hb, S20_0⟩ := bl_new hb
      have Z20 : Hid (w19.heap.size < w20.heap.size) := S20_0
      replace B1_0 := bx_below B1_0 S1_0 hb
      replace S1_0 := Nat.lt_of_lt_of_le S1_0 hb.size
      replace B5_0 := bx_below B5_0 S5_0 hb
      replace S5_0 := Nat.lt_of_lt_of_le S5_0 hb.size
      replace B6_0 := bx_below B6_0 S6_0 hb
      replace S6_0 := Nat.lt_of_lt_of_le S6_0 hb.size
      replace B8_0 := bx_below B8_0 S8_0 hb
      replace S8_0 := Nat.lt_of_lt_of_le S8_0 hb.size
      replace P0 : Hid (shSender.Rd w20 w.heap.size g0 [.int .i64 g0.1, .int .i64 g0.2.1, .int .i64 g0.2.2.1, .slice p0a g0.2.2.2.1.length p0ac]) := Sh.Rd.below P0.out (by have := Z1.out; have := Z2.out; have := Z3.out; have := Z4.out; have := Z5.out; have := Z6.out; have := Z7.out; have := Z8.out; have := Z9.out; have := Z10.out; have := Z11.out; have := Z12.out; have := Z13.out; have := Z14.out; have := Z15.out; have := Z16.out; have := Z17.out; have := Z18.out; have := Z19.out; have := Z20.out; omega) hb
      replace P2 : Hid (u8s.Rd w20 w.heap.size g2 [.slice p2a g2.length p2ac]) := Sh.Rd.below P2.out (by have := Z1.out; have := Z2.out; have := Z3.out; have := Z4.out; have := Z5.out; have := Z6.out; have := Z7.out; have := Z8.out; have := Z9.out; have := Z10.out; have := Z11.out; have := Z12.out; have := Z13.out; have := Z14.out; have := Z15.out; have := Z16.out; have := Z17.out; have := Z18.out; have := Z19.out; have := Z20.out; omega) hb
      replace X4 : Hid _ := Own.below X4.out (by have := Z1.out; have := Z2.out; have := Z3.out; have := Z4.out; have := Z5.out; have := Z6.out; have := Z7.out; have := Z8.out; have := Z9.out; have := Z10.out; have := Z11.out; have := Z12.out; have := Z13.out; have := Z14.out; have := Z15.out; have := Z16.out; have := Z17.out; have := Z18.out; have := Z19.out; have := Z20.out; omega) hb
      replace X7 : Hid _ := Own.below X7.out (by have := Z1.out; have := Z2.out; have := Z3.out; have := Z4.out; have := Z5.out; have := Z6.out; have := Z7.out; have := Z8.out; have := Z9.out; have := Z10.out; have := Z11.out; have := Z12.out; have := Z13.out; have := Z14.out; have := Z15.out; have := Z16.out; have := Z17.out; have := Z18.out; have := Z19.out; have := Z20.out; omega) hb
      replace X10 : Hid _ := Own.below X10.out (by have := Z1.out; have := Z2.out; have := Z3.out; have := Z4.out; have := Z5.out; have := Z6.out; have := Z7.out; have := Z8.out; have := Z9.out; have := Z10.out; have := Z11.out; have := Z12.out; have := Z13.out; have := Z14.out; have := Z15.out; have := Z16.out; have := Z17.out; have := Z18.out; have := Z19.out; have := Z20.out; omega) hb
      replace X19 : Hid _ := Own.below X19.out (by have := Z1.out; have := Z2.out; have := Z3.out; have := Z4.out; have := Z5.out; have := Z6.out; have := Z7.out; have := Z8.out; have := Z9.out; have := Z10.out; have := Z11.out; have := Z12.out; have := Z13.out; have := Z14.out; have := Z15.out; have := Z16.out; have := Z17.out; have := Z18.out; have := Z19.out; have := Z20.out; omega) hb
      replace HW : Hid _ := HW.out.trans (hb.mono HW.out.size)
      clear hb
      go_wp2_with fail
      refine (lHeldSenderResult C V (.slice q7a V.2.2.2.1.length q7ac) 1 _ _ (Sh.Rd.mono (by have := Z1.out; have := Z2.out; have := Z3.out; have := Z4.out; have := Z5.out; have := Z6.out; have := Z7.out; have := Z8.out; have := Z9.out; have := Z10.out; have := Z11.out; have := Z12.out; have := Z13.out; have := Z14.out; have := Z15.out; have := Z16.out; have := Z17.out; have := Z18.out; have := Z19.out; have := Z20.out; first | exact Nat.le_refl _ | omega | (simp; done) | (simp; omega)) _ _ _ (Sh.Rd.below (B := w20.heap.size) (C := w20.heap.size) (Own.rd X7.out (Nat.le_refl _)) (Nat.le_refl _) (by first | exact Below.refl _ _ | go_grown | exact Below.drew (Below.refl _ _)))) (Nat.le_refl _) VT.out (by omega) (by omega)).mono ?_
      rintro e w21 ⟨rfl, hb⟩
      have Z21 : Hid (w20.heap.size ≤ w21.heap.size) := hb.size
      replace B1_0 := bx_below B1_0 S1_0 hb
      replace S1_0 := Nat.lt_of_lt_of_le S1_0 hb.size
      replace B5_0 := bx_below B5_0 S5_0 hb
      replace S5_0 := Nat.lt_of_lt_of_le S5_0 hb.size
      replace B6_0 := bx_below B6_0 S6_0 hb
      replace S6_0 := Nat.lt_of_lt_of_le S6_0 hb.size
      replace B8_0 := bx_below B8_0 S8_0 hb
      replace S8_0 := Nat.lt_of_lt_of_le S8_0 hb.size
      replace B20_0 := bx_below B20_0 S20_0 hb
      replace S20_0 := Nat.lt_of_lt_of_le S20_0 hb.size
      replace P0 : Hid (shSender.Rd w21 w.heap.size g0 [.int .i64 g0.1, .int .i64 g0.2.1, .int .i64 g0.2.2.1, .slice p0a g0.2.2.2.1.length p0ac]) := Sh.Rd.below P0.out (by have := Z1.out; have := Z2.out; have := Z3.out; have := Z4.out; have := Z5.out; have := Z6.out; have := Z7.out; have := Z8.out; have := Z9.out; have := Z10.out; have := Z11.out; have := Z12.out; have := Z13.out; have := Z14.out; have := Z15.out; have := Z16.out; have := Z17.out; have := Z18.out; have := Z19.out; have := Z20.out; have := Z21.out; omega) hb
      replace P2 : Hid (u8s.Rd w21 w.heap.size g2 [.slice p2a g2.length p2ac]) := Sh.Rd.below P2.out (by have := Z1.out; have := Z2.out; have := Z3.out; have := Z4.out; have := Z5.out; have := Z6.out; have := Z7.out; have := Z8.out; have := Z9.out; have := Z10.out; have := Z11.out; have := Z12.out; have := Z13.out; have := Z14.out; have := Z15.out; have := Z16.out; have := Z17.out; have := Z18.out; have := Z19.out; have := Z20.out; have := Z21.out; omega) hb
      replace X4 : Hid _ := Own.below X4.out (by have := Z1.out; have := Z2.out; have := Z3.out; have := Z4.out; have := Z5.out; have := Z6.out; have := Z7.out; have := Z8.out; have := Z9.out; have := Z10.out; have := Z11.out; have := Z12.out; have := Z13.out; have := Z14.out; have := Z15.out; have := Z16.out; have := Z17.out; have := Z18.out; have := Z19.out; have := Z20.out; have := Z21.out; omega) hb
      replace X7 : Hid _ := Own.below X7.out (by have := Z1.out; have := Z2.out; have := Z3.out; have := Z4.out; have := Z5.out; have := Z6.out; have := Z7.out; have := Z8.out; have := Z9.out; have := Z10.out; have := Z11.out; have := Z12.out; have := Z13.out; have := Z14.out; have := Z15.out; have := Z16.out; have := Z17.out; have := Z18.out; have := Z19.out; have := Z20.out; have := Z21.out; omega) hb
      replace X10 : Hid _ := Own.below X10.out (by have := Z1.out; have := Z2.out; have := Z3.out; have := Z4.out; have := Z5.out; have := Z6.out; have := Z7.out; have := Z8.out; have := Z9.out; have := Z10.out; have := Z11.out; have := Z12.out; have := Z13.out; have := Z14.out; have := Z15.out; have := Z16.out; have := Z17.out; have := Z18.out; have := Z19.out; have := Z20.out; have := Z21.out; omega) hb
      replace X19 : Hid _ := Own.below X19.out (by have := Z1.out; have := Z2.out; have := Z3.out; have := Z4.out; have := Z5.out; have := Z6.out; have := Z7.out; have := Z8.out; have := Z9.out; have := Z10.out; have := Z11.out; have := Z12.out; have := Z13.out; have := Z14.out; have := Z15.out; have := Z16.out; have := Z17.out; have := Z18.out; have := Z19.out; have := Z20.out; have := Z21.out; omega) hb
      replace HW : Hid _ := HW.out.trans (hb.mono HW.out.size)
      clear hb
      go_wp2_with fail
      go_ret
      exact ⟨rfl, HW.out⟩

set_option maxRecDepth 100000 in
theorem lifted (os : Os) (started : os.Started) (H : Type) (enc : TypeId × Value → H) :
    ReturnsInHanded {} Try.checked os 7 .any (Rows.fnExactPushFlightSpec.pre6 enc Try.prog Try.f7 Rows.fnExactPushFlightRow.domain false) (Rows.fnExactPushFlightSpec.post enc Try.prog Try.f7 false true false false) := by
  refine returnsInHanded_of_change (C := Try.checked) own started (by kernel_rfl) Try.func7
    (ChangeSpec.witness6 (enc := enc) (C := Try.checked) false ⟨#[], #[.agg #[.int .i64 0, .int .i64 0, .int .i64 0, .slice none 0 0], .int .i64 0, .slice none 0 0, .int .i64 0], []⟩ 8 (by kernel_rfl) (by kernel_rfl) (by kernel_rfl) (by kernel_rfl)) ?_
  intro W base args ds gs before hval0 hW hcnd _
  have hval : ∀ (j : Nat) t v, Try.f7.params[j]? = some t → args[j]? = some v → Value.okWide Try.prog W .any base t v := hval0
  have hW' := hW
  obtain ⟨p, q, hA0, hV, rfl, hfz, hnd⟩ := hW
  have hA : DataW.TrodAll enc Try.prog W 0 (fun _ => true) true Try.f7.params.toList args.toList ds p := hA0
  rw [Try.params7] at hA hval
  obtain ⟨v0, vs0, d0, ds0, p0, q0, hargs, rfl, rfl, h0, r0⟩ := trodAll_cons hA
  obtain ⟨v1, vs1, d1, ds1, p1, q1, rfl, rfl, rfl, h1, r1⟩ := trodAll_cons r0
  obtain ⟨v2, vs2, d2, ds2, p2, q2, rfl, rfl, rfl, h2, r2⟩ := trodAll_cons r1
  obtain ⟨v3, vs3, d3, ds3, p3, q3, rfl, rfl, rfl, h3, r3⟩ := trodAll_cons r2
  obtain ⟨rfl, rfl, rfl⟩ := trodAll_nil r3
  obtain rfl : args = #[v0, v1, v2, v3] := by cases args; simp_all
  obtain ⟨rfl, rfl⟩ := trodVars_none hV
  have lt0 : ∀ x ∈ p0, x.block < W.heap.size := by obtain ⟨m, hm⟩ := h0; exact DataW.trod_lt m _ _ _ hm
  have t0 : ∃ n y, DataW.trod enc Try.prog W 0 (fun _ => true) true n 30 v0.cells.toList = some y := by obtain ⟨m, hm⟩ := h0; exact ⟨m, _, hm⟩
  have lt1 : ∀ x ∈ p1, x.block < W.heap.size := by obtain ⟨m, hm⟩ := h1; exact DataW.trod_lt m _ _ _ hm
  have t1 : ∃ n y, DataW.trod enc Try.prog W 0 (fun _ => true) true n 2 v1.cells.toList = some y := by obtain ⟨m, hm⟩ := h1; exact ⟨m, _, hm⟩
  have lt2 : ∀ x ∈ p2, x.block < W.heap.size := by obtain ⟨m, hm⟩ := h2; exact DataW.trod_lt m _ _ _ hm
  have t2 : ∃ n y, DataW.trod enc Try.prog W 0 (fun _ => true) true n 44 v2.cells.toList = some y := by obtain ⟨m, hm⟩ := h2; exact ⟨m, _, hm⟩
  have lt3 : ∀ x ∈ p3, x.block < W.heap.size := by obtain ⟨m, hm⟩ := h3; exact DataW.trod_lt m _ _ _ hm
  have t3 : ∃ n y, DataW.trod enc Try.prog W 0 (fun _ => true) true n 2 v3.cells.toList = some y := by obtain ⟨m, hm⟩ := h3; exact ⟨m, _, hm⟩
  refine (walk enc v0 v1 v2 v3 W base (hval 0 30 v0 rfl rfl) t0 (hval 1 2 v1 rfl rfl) t1 (hval 2 44 v2 rfl rfl) t2 (hval 3 2 v3 rfl rfl) t3).mono fun e W' ⟨he, bel⟩ => ?_
  subst he
  exact ⟨_, rfl, _, _, _, [], _, [], hW', trodAll_mk1 (shut_bool Try.underlying4 _), (trodAll_cons_mk (Below.trod laidOut (by kernel_rfl) (of_decide_eq_true (by kernel_rfl)) h0 bel lt0) (trodAll_cons_mk (Below.trod laidOut (by kernel_rfl) (of_decide_eq_true (by kernel_rfl)) h1 bel lt1) (trodAll_cons_mk (Below.trod laidOut (by kernel_rfl) (of_decide_eq_true (by kernel_rfl)) h2 bel lt2) (trodAll_cons_mk (Below.trod laidOut (by kernel_rfl) (of_decide_eq_true (by kernel_rfl)) h3 bel lt3) trodAll_mk0)))), rfl, bel.frame _, fun h => by cases h⟩

theorem over : Rows.fnExactPushFlightRow.holds Try.pinned (OpenSpec.ofChange Rows.fnExactPushFlightSpec) :=
  OpenClaim.holds_of_wide 7 Try.f7 rfl rfl rfl rfl rfl rfl rfl ⟨rfl, rfl, rfl, rfl, rfl⟩ rfl rfl rfl rfl rfl (by kernel_rfl) Try.func7 (by kernel_rfl)
    (of_decide_eq_true (by kernel_rfl)) (by unfold Func.isWrapper; first | (rw [if_pos (by decide +kernel)]; kernel_rfl) | (rw [if_neg (by decide +kernel)]; exact ⟨rfl, rfl⟩))
    (fun os started H enc _ => lifted os started H enc)

theorem proved : Rows.FnExactPushFlightSaid := over
#print axioms proved
end Go.Proofs.Ytacbpielhhejkak.fnExactPushFlight

namespace Go.Proofs.Ytacbpielhhejkak
theorem fnExactPushFlight_holds : Rows.FnExactPushFlightSaid := fnExactPushFlight.proved
end Go.Proofs.Ytacbpielhhejkak
