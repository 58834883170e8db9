/- Proved: at every path, number, bool, nonce and tick the program's NewSub answers as its model does, code and sub; the answer owns its memory; no condition. -/
import Derived.Test.YtlicopeejphgaanRows
import Derived.WalkKit
import Derived.ProofKit
import Derived.OpenShut
import Derived.ShutString
import Derived.ChangeOld
import Derived.Below
import Derived.Test.YtlicopeejphgaanBase
import Derived.Test.YtlicopeejphgaanBytes
import Derived.Test.YtlicopeejphgaanMem
import Derived.Test.YtlicopeejphgaanMemOpen
import Derived.Test.YtlicopeejphgaanMemRow
import Derived.Test.YtlicopeejphgaanHBase
import Derived.Test.YtlicopeejphgaanHFlight
import Derived.Test.YtlicopeejphgaanHSender
import Derived.Test.YtlicopeejphgaanHSpan
import Derived.Test.YtlicopeejphgaanHCatch
import Derived.Test.YtlicopeejphgaanHOpen0
import Derived.Test.YtlicopeejphgaanBox
import Derived.Test.YtlicopeejphgaanNum
import Derived.Test.YtlicopeejphgaanNumWalks
import Derived.Test.YtlicopeejphgaanUnwrap
import Derived.Test.YtlicopeejphgaanFlightDef
import Derived.Test.YtlicopeejphgaanCatDef
import Derived.Test.YtlicopeejphgaanCtrl
import Derived.Test.YtlicopeejphgaanCtrl2
import Derived.Test.YtlicopeejphgaanSubBox
import Derived.Test.YtlicopeejphgaanHSub
import Derived.Test.YtlicopeejphgaanHOpenS
import Derived.Test.YtlicopeejphgaanHSubV
import Derived.Test.YtlicopeejphgaanSubDef
import Derived.Test.YtlicopeejphgaanSpecFlight
import Derived.Test.YtlicopeejphgaanImplFlight
import Derived.Test.YtlicopeejphgaanCatSpec
import Derived.Test.YtlicopeejphgaanCatImpl
import Derived.Test.YtlicopeejphgaanSubSpec
import Derived.Test.YtlicopeejphgaanSubSpec2
import Derived.Test.YtlicopeejphgaanSubImpl
import Derived.Test.YtlicopeejphgaanHMark
import Derived.Test.YtlicopeejphgaanMemApp
import Derived.Test.YtlicopeejphgaanMSpan
import Derived.Test.YtlicopeejphgaanMCatch
import Derived.Test.YtlicopeejphgaanMFlight
import Derived.Test.YtlicopeejphgaanMSender
import Derived.Test.YtlicopeejphgaanSubSets
import Derived.Test.YtlicopeejphgaanSubO
import Derived.Test.YtlicopeejphgaanMSub
import Derived.Test.YtlicopeejphgaanMSubV
import Derived.Test.YtlicopeejphgaanSubNewS
import Derived.Test.YtlicopeejphgaanSubNewI
import Derived.Test.YtlicopeejphgaanSubV3
import Derived.Test.YtlicopeejphgaanHOpenB
namespace Go.Proofs.Ytlicopeejphgaan.fnExactNewSub
open Go.ChangeShapes Go.WideShapes Go.ChangeAt Go.RowKit
set_option linter.unusedVariables false

theorem own : ownKnob Try.prog.godebug = none := by kernel_rfl
theorem laidOut : laidOutB Try.prog = true := by kernel_rfl


set_option maxHeartbeats 16000000 in
set_option maxRecDepth 8000 in
theorem walk {H : Type} (enc : TypeId × Value → H) (v0 : Value) (v1 : Value) (v2 : Value) (v3 : Value) (v4 : Value) (w : World) (base : Nat)
    (o0 : Value.okWide Try.prog w .any base 2 v0) (t0 : ∃ n y, DataW.trod enc Try.prog w 0 (fun _ => true) true n 2 v0.cells.toList = some y)
    (o1 : Value.okWide Try.prog w .any base 2 v1) (t1 : ∃ n y, DataW.trod enc Try.prog w 0 (fun _ => true) true n 2 v1.cells.toList = some y)
    (o2 : Value.okWide Try.prog w .any base 4 v2) (t2 : ∃ n y, DataW.trod enc Try.prog w 0 (fun _ => true) true n 4 v2.cells.toList = some y)
    (o3 : Value.okWide Try.prog w .any base 2 v3) (t3 : ∃ n y, DataW.trod enc Try.prog w 0 (fun _ => true) true n 2 v3.cells.toList = some y)
    (o4 : Value.okWide Try.prog w .any base 2 v4) (t4 : ∃ n y, DataW.trod enc Try.prog w 0 (fun _ => true) true n 2 v4.cells.toList = some y) :
    Calls Try.prog 8 #[v0, v1, v2, v3, v4] w fun e w' => e = .returned (.bool true) ∧ Below w.heap.size w w' := by
  obtain ⟨x0, rfl, hwf0⟩ := open_i64v o0 t0
  have W0 : Hid _ := rd_i64 hwf0
  clear hwf0
  obtain ⟨x1, rfl, hwf1⟩ := open_i64v o1 t1
  have W1 : Hid _ := rd_i64 hwf1
  clear hwf1
  obtain ⟨x2, rfl⟩ := open_boolv o2 t2
  obtain ⟨x3, rfl, hwf3⟩ := open_i64v o3 t3
  have W3 : Hid _ := rd_i64 hwf3
  clear hwf3
  obtain ⟨x4, rfl, hwf4⟩ := open_i64v o4 t4
  have W4 : Hid _ := rd_i64 hwf4
  clear hwf4
  clear o0 t0 o1 t1 o2 t2 o3 t3 o4 t4
  have HW : Hid (Below w.heap.size w w) := Below.refl _ _
  obtain ⟨V, hV⟩ : ∃ V, V = nwsV x0 x1 x2 x3 x4 := ⟨_, rfl⟩
  obtain ⟨C, hC⟩ : ∃ C, C = nwsC x0 x1 x3 x4 := ⟨_, rfl⟩
  have VT : Hid (totSub V ≤ 1048576) := by rw [hV]; exact nws_tot _ _ _ _ _
  have hVT : 0 ≤ (1 : Int) + ((wtSub V : Nat) : Int) := by omega
  have CS : Hid (∀ (W : World), Calls Try.prog 30 #[.int .i64 x0, .int .i64 x1, .bool x2, .int .i64 x3, .int .i64 x4] W fun e w' => ∃ (va : Int) (vb : Int) (vc : Bool) (vd : Int) (ve : Int) (vf : Int) (vg : Int) (vh : Int) (vi : Int) (vj : Option Addr) (vq : Nat) (vr : Nat) (vk : Int) (vl : Int) (vm : Option Addr) (vs : Nat) (vt : Nat) (vn : Int) (vo : Int) (vp : Int), e = .returned (.agg #[.int .i64 C, .int .i64 va, .int .i64 vb, .bool vc, .int .i64 vd, .int .i64 ve, .int .i64 vf, .int .i64 vg, .int .i64 vh, .int .i64 vi, .slice vj vq vr, .int .i64 vk, .int .i64 vl, .slice vm vs vt, .int .i64 vn, .int .i64 vo, .int .i64 vp]) ∧ Own w' W.heap.size w'.heap.size shSubO V [.int .i64 va, .int .i64 vb, .bool vc, .int .i64 vd, .int .i64 ve, .int .i64 vf, .int .i64 vg, .int .i64 vh, .int .i64 vi, .slice vj vq vr, .int .i64 vk, .int .i64 vl, .slice vm vs vt, .int .i64 vn, .int .i64 vo, .int .i64 vp] ∧ Below W.heap.size W w') := fun W => by rw [hV, hC]; exact sNewSubV x0 x1 x2 x3 x4 W
  have CI : Hid (∀ (W : World), Calls Try.prog 31 #[.int .i64 x0, .int .i64 x1, .bool x2, .int .i64 x3, .int .i64 x4] W fun e w' => ∃ (va : Int) (vb : Int) (vc : Bool) (vd : Int) (ve : Int) (vf : Int) (vg : Int) (vh : Int) (vi : Int) (vj : Option Addr) (vq : Nat) (vr : Nat) (vk : Int) (vl : Int) (vm : Option Addr) (vs : Nat) (vt : Nat) (vn : Int) (vo : Int) (vp : Int), e = .returned (.agg #[.int .i64 C, .int .i64 va, .int .i64 vb, .bool vc, .int .i64 vd, .int .i64 ve, .int .i64 vf, .int .i64 vg, .int .i64 vh, .int .i64 vi, .slice vj vq vr, .int .i64 vk, .int .i64 vl, .slice vm vs vt, .int .i64 vn, .int .i64 vo, .int .i64 vp]) ∧ Own w' W.heap.size w'.heap.size shSubO V [.int .i64 va, .int .i64 vb, .bool vc, .int .i64 vd, .int .i64 ve, .int .i64 vf, .int .i64 vg, .int .i64 vh, .int .i64 vi, .slice vj vq vr, .int .i64 vk, .int .i64 vl, .slice vm vs vt, .int .i64 vn, .int .i64 vo, .int .i64 vp] ∧ Below W.heap.size W w') := fun W => by rw [hV, hC]; exact iNewSubV x0 x1 x2 x3 x4 W
  clear hV hC
  go_enter Try.func8, Try.ntmps8
  as_aux_lemma =>
  go_wp2_with fail
  refine (CS.out _).mono ?_
  rintro e w1 ⟨u1a, u1b, u1c, u1d, u1e, u1f, u1g, u1h, u1i, u1j, u1q, u1r, u1k, u1l, u1m, u1s, u1t, u1n, u1o, u1p, rfl, ho, hb⟩
  skip
  have X1 : Hid (Own w1 (w.heap.size) w1.heap.size shSubO V [.int .i64 u1a, .int .i64 u1b, .bool u1c, .int .i64 u1d, .int .i64 u1e, .int .i64 u1f, .int .i64 u1g, .int .i64 u1h, .int .i64 u1i, .slice u1j u1q u1r, .int .i64 u1k, .int .i64 u1l, .slice u1m u1s u1t, .int .i64 u1n, .int .i64 u1o, .int .i64 u1p]) := Own.mono ho (by first | exact Nat.le_refl _ | (simp; done) | (simp; omega)) (Nat.le_refl _)
  clear ho
  have Z1 : Hid (w.heap.size ≤ w1.heap.size) := hb.size
  replace HW : Hid _ := HW.out.trans (hb.mono HW.out.size)
  clear hb
  as_aux_lemma =>
  go_wp2_with fail
  refine (CI.out _).mono ?_
  rintro e w2 ⟨u2a, u2b, u2c, u2d, u2e, u2f, u2g, u2h, u2i, u2j, u2q, u2r, u2k, u2l, u2m, u2s, u2t, u2n, u2o, u2p, rfl, ho, hb⟩
  skip
  have X2 : Hid (Own w2 (w1.heap.size + 1) w2.heap.size shSubO V [.int .i64 u2a, .int .i64 u2b, .bool u2c, .int .i64 u2d, .int .i64 u2e, .int .i64 u2f, .int .i64 u2g, .int .i64 u2h, .int .i64 u2i, .slice u2j u2q u2r, .int .i64 u2k, .int .i64 u2l, .slice u2m u2s u2t, .int .i64 u2n, .int .i64 u2o, .int .i64 u2p]) := Own.mono ho (by first | exact Nat.le_refl _ | (simp; done) | (simp; omega)) (Nat.le_refl _)
  clear ho
  have B2_0 := bx_new hb
  obtain ⟨hb, S2_0⟩ := bl_new hb
  have Z2 : Hid (w1.heap.size < w2.heap.size) := S2_0
  replace X1 : Hid _ := Own.below X1.out (by have := Z1.out; have := Z2.out; omega) hb
  replace HW : Hid _ := HW.out.trans (hb.mono HW.out.size)
  clear hb
  as_aux_lemma =>
  go_upto_region 3 with fail
  as_aux_lemma =>
  go_wp2_with fail
  refine (lEqSubResultV C V u2a u2b u2c u2d u2e u2f u2g u2h u2i u2j u2q u2r u2k u2l u2m u2s u2t u2n u2o u2p u1a u1b u1c u1d u1e u1f u1g u1h u1i u1j u1q u1r u1k u1l u1m u1s u1t u1n u1o u1p _ _ (Sh.Rd.mono (by have := Z1.out; have := Z2.out; first | exact Nat.le_refl _ | omega | (simp; done) | (simp; omega)) _ _ _ (Sh.Rd.below (B := w2.heap.size) (C := w2.heap.size) (Own.rd X2.out (Nat.le_refl _)) (Nat.le_refl _) (by first | exact Below.refl _ _ | go_grown | exact Below.drew (Below.refl _ _)))) (Sh.Rd.mono (by have := Z1.out; have := Z2.out; first | exact Nat.le_refl _ | omega | (simp; done) | (simp; omega)) _ _ _ (Sh.Rd.below (B := w2.heap.size) (C := w2.heap.size) (Own.rd X1.out (Nat.le_refl _)) (Nat.le_refl _) (by first | exact Below.refl _ _ | go_grown | exact Below.drew (Below.refl _ _)))) (Nat.le_refl _) VT.out).mono ?_
  rintro e w3 ⟨rfl, hb⟩
  have B3_0 := bx_new hb
  obtain ⟨hb, S3_0⟩ := bl_new hb
  have Z3 : Hid (w2.heap.size < w3.heap.size) := S3_0
  replace B2_0 := bx_below B2_0 S2_0 hb
  replace S2_0 := Nat.lt_of_lt_of_le S2_0 hb.size
  replace X1 : Hid _ := Own.below X1.out (by have := Z1.out; have := Z2.out; have := Z3.out; omega) hb
  replace X2 : Hid _ := Own.below X2.out (by have := Z1.out; have := Z2.out; have := Z3.out; omega) hb
  replace HW : Hid _ := HW.out.trans (hb.mono HW.out.size)
  clear hb
  as_aux_lemma =>
  go_wp2_with fail
  refine (lMarkSubResultV C V u2a u2b u2c u2d u2e u2f u2g u2h u2i u2j u2q u2r u2k u2l u2m u2s u2t u2n u2o u2p 1 _ _ _ X2.out (by first | exact Nat.le_refl _ | omega) VT.out (by omega) (by omega)).mono ?_
  rintro e w4 ⟨rfl, ho, hw⟩
  have Z4 : Hid (w3.heap.size ≤ w4.heap.size) := hw.size
  replace B2_0 := bx_keep B2_0 (hw.block _ S2_0 (by have := Z1.out; have := Z2.out; have := Z3.out; have := Z4.out; omega))
  replace S2_0 := Nat.lt_of_lt_of_le S2_0 hw.size
  replace B3_0 := bx_keep B3_0 (hw.block _ S3_0 (by have := Z1.out; have := Z2.out; have := Z3.out; have := Z4.out; omega))
  replace S3_0 := Nat.lt_of_lt_of_le S3_0 hw.size
  replace X1 : Hid _ := Own.keep X1.out (fun b h1 h2 => hw.block b (by have := Z1.out; have := Z2.out; have := Z3.out; have := Z4.out; omega) (by have := Z1.out; have := Z2.out; have := Z3.out; have := Z4.out; omega))
  replace X2 : Hid _ := ho
  replace HW : Hid _ := within_below HW.out hw (by have := Z1.out; have := Z2.out; have := Z3.out; have := Z4.out; omega) HW.out.size
  clear ho hw
  as_aux_lemma =>
  go_wp2_with fail
  refine (lHeldSubResultV C V u2a u2b u2c u2d u2e u2f u2g u2h u2i u2j u2q u2r u2k u2l u2m u2s u2t u2n u2o u2p 1 _ _ (Sh.Rd.mono (by have := Z1.out; have := Z2.out; have := Z3.out; have := Z4.out; first | exact Nat.le_refl _ | omega | (simp; done) | (simp; omega)) _ _ _ (Sh.Rd.below (B := w4.heap.size) (C := w4.heap.size) (Own.rd X2.out (Nat.le_refl _)) (Nat.le_refl _) (by first | exact Below.refl _ _ | go_grown | exact Below.drew (Below.refl _ _)))) (Nat.le_refl _) VT.out (by omega) (by omega)).mono ?_
  rintro e w5 ⟨rfl, hb⟩
  have Z5 : Hid (w4.heap.size ≤ w5.heap.size) := hb.size
  replace B2_0 := bx_below B2_0 S2_0 hb
  replace S2_0 := Nat.lt_of_lt_of_le S2_0 hb.size
  replace B3_0 := bx_below B3_0 S3_0 hb
  replace S3_0 := Nat.lt_of_lt_of_le S3_0 hb.size
  replace X1 : Hid _ := Own.below X1.out (by have := Z1.out; have := Z2.out; have := Z3.out; have := Z4.out; have := Z5.out; omega) hb
  replace X2 : Hid _ := Own.below X2.out (by have := Z1.out; have := Z2.out; have := Z3.out; have := Z4.out; have := Z5.out; omega) hb
  replace HW : Hid _ := HW.out.trans (hb.mono HW.out.size)
  clear hb
  as_aux_lemma =>
  go_wp2_with fail
  refine (CI.out _).mono ?_
  rintro e w6 ⟨u6a, u6b, u6c, u6d, u6e, u6f, u6g, u6h, u6i, u6j, u6q, u6r, u6k, u6l, u6m, u6s, u6t, u6n, u6o, u6p, rfl, ho, hb⟩
  skip
  have X6 : Hid (Own w6 (w5.heap.size) w6.heap.size shSubO V [.int .i64 u6a, .int .i64 u6b, .bool u6c, .int .i64 u6d, .int .i64 u6e, .int .i64 u6f, .int .i64 u6g, .int .i64 u6h, .int .i64 u6i, .slice u6j u6q u6r, .int .i64 u6k, .int .i64 u6l, .slice u6m u6s u6t, .int .i64 u6n, .int .i64 u6o, .int .i64 u6p]) := Own.mono ho (by first | exact Nat.le_refl _ | (simp; done) | (simp; omega)) (Nat.le_refl _)
  clear ho
  have Z6 : Hid (w5.heap.size ≤ w6.heap.size) := hb.size
  replace B2_0 := bx_below B2_0 S2_0 hb
  replace S2_0 := Nat.lt_of_lt_of_le S2_0 hb.size
  replace B3_0 := bx_below B3_0 S3_0 hb
  replace S3_0 := Nat.lt_of_lt_of_le S3_0 hb.size
  replace X1 : Hid _ := Own.below X1.out (by have := Z1.out; have := Z2.out; have := Z3.out; have := Z4.out; have := Z5.out; have := Z6.out; omega) hb
  replace X2 : Hid _ := Own.below X2.out (by have := Z1.out; have := Z2.out; have := Z3.out; have := Z4.out; have := Z5.out; have := Z6.out; omega) hb
  replace HW : Hid _ := HW.out.trans (hb.mono HW.out.size)
  clear hb
  as_aux_lemma =>
  go_upto_region 14 with fail
  as_aux_lemma =>
  go_wp2_with fail
  refine (lEqSubResultV C V u6a u6b u6c u6d u6e u6f u6g u6h u6i u6j u6q u6r u6k u6l u6m u6s u6t u6n u6o u6p u1a u1b u1c u1d u1e u1f u1g u1h u1i u1j u1q u1r u1k u1l u1m u1s u1t u1n u1o u1p _ _ (Sh.Rd.mono (by have := Z1.out; have := Z2.out; have := Z3.out; have := Z4.out; have := Z5.out; have := Z6.out; first | exact Nat.le_refl _ | omega | (simp; done) | (simp; omega)) _ _ _ (Sh.Rd.below (B := w6.heap.size) (C := w6.heap.size) (Own.rd X6.out (Nat.le_refl _)) (Nat.le_refl _) (by first | exact Below.refl _ _ | go_grown | exact Below.drew (Below.refl _ _)))) (Sh.Rd.mono (by have := Z1.out; have := Z2.out; have := Z3.out; have := Z4.out; have := Z5.out; have := Z6.out; first | exact Nat.le_refl _ | omega | (simp; done) | (simp; omega)) _ _ _ (Sh.Rd.below (B := w6.heap.size) (C := w6.heap.size) (Own.rd X1.out (Nat.le_refl _)) (Nat.le_refl _) (by first | exact Below.refl _ _ | go_grown | exact Below.drew (Below.refl _ _)))) (Nat.le_refl _) VT.out).mono ?_
  rintro e w7 ⟨rfl, hb⟩
  have B7_0 := bx_new hb
  obtain ⟨hb, S7_0⟩ := bl_new hb
  have Z7 : Hid (w6.heap.size < w7.heap.size) := S7_0
  replace B2_0 := bx_below B2_0 S2_0 hb
  replace S2_0 := Nat.lt_of_lt_of_le S2_0 hb.size
  replace B3_0 := bx_below B3_0 S3_0 hb
  replace S3_0 := Nat.lt_of_lt_of_le S3_0 hb.size
  replace X1 : Hid _ := Own.below X1.out (by have := Z1.out; have := Z2.out; have := Z3.out; have := Z4.out; have := Z5.out; have := Z6.out; have := Z7.out; omega) hb
  replace X2 : Hid _ := Own.below X2.out (by have := Z1.out; have := Z2.out; have := Z3.out; have := Z4.out; have := Z5.out; have := Z6.out; have := Z7.out; omega) hb
  replace X6 : Hid _ := Own.below X6.out (by have := Z1.out; have := Z2.out; have := Z3.out; have := Z4.out; have := Z5.out; have := Z6.out; have := Z7.out; omega) hb
  replace HW : Hid _ := HW.out.trans (hb.mono HW.out.size)
  clear hb
  as_aux_lemma =>
  go_wp2_with fail
  refine (lHeldSubResultV C V u2a u2b u2c u2d u2e u2f u2g u2h u2i u2j u2q u2r u2k u2l u2m u2s u2t u2n u2o u2p 1 _ _ (Sh.Rd.mono (by have := Z1.out; have := Z2.out; have := Z3.out; have := Z4.out; have := Z5.out; have := Z6.out; have := Z7.out; first | exact Nat.le_refl _ | omega | (simp; done) | (simp; omega)) _ _ _ (Sh.Rd.below (B := w7.heap.size) (C := w7.heap.size) (Own.rd X2.out (Nat.le_refl _)) (Nat.le_refl _) (by first | exact Below.refl _ _ | go_grown | exact Below.drew (Below.refl _ _)))) (Nat.le_refl _) VT.out (by omega) (by omega)).mono ?_
  rintro e w8 ⟨rfl, hb⟩
  have Z8 : Hid (w7.heap.size ≤ w8.heap.size) := hb.size
  replace B2_0 := bx_below B2_0 S2_0 hb
  replace S2_0 := Nat.lt_of_lt_of_le S2_0 hb.size
  replace B3_0 := bx_below B3_0 S3_0 hb
  replace S3_0 := Nat.lt_of_lt_of_le S3_0 hb.size
  replace B7_0 := bx_below B7_0 S7_0 hb
  replace S7_0 := Nat.lt_of_lt_of_le S7_0 hb.size
  replace X1 : Hid _ := Own.below X1.out (by have := Z1.out; have := Z2.out; have := Z3.out; have := Z4.out; have := Z5.out; have := Z6.out; have := Z7.out; have := Z8.out; omega) hb
  replace X2 : Hid _ := Own.below X2.out (by have := Z1.out; have := Z2.out; have := Z3.out; have := Z4.out; have := Z5.out; have := Z6.out; have := Z7.out; have := Z8.out; omega) hb
  replace X6 : Hid _ := Own.below X6.out (by have := Z1.out; have := Z2.out; have := Z3.out; have := Z4.out; have := Z5.out; have := Z6.out; have := Z7.out; have := Z8.out; omega) hb
  replace HW : Hid _ := HW.out.trans (hb.mono HW.out.size)
  clear hb
  as_aux_lemma =>
  go_wp2_with fail
  go_ret
  exact ⟨rfl, HW.out⟩

set_option maxRecDepth 100000 in
theorem lifted (os : Os) (started : os.Started) (H : Type) (enc : TypeId × Value → H) :
    ReturnsInHanded {} Try.checked os 8 .any (Rows.fnExactNewSubSpec.pre6 enc Try.prog Try.f8 Rows.fnExactNewSubRow.domain false) (Rows.fnExactNewSubSpec.post enc Try.prog Try.f8 false true false false) := by
  refine returnsInHanded_of_change (C := Try.checked) own started (by kernel_rfl) Try.func8
    (ChangeSpec.witness6 (enc := enc) (C := Try.checked) false ⟨#[], #[.int .i64 0, .int .i64 0, .bool false, .int .i64 0, .int .i64 0], []⟩ 8 (by kernel_rfl) (by kernel_rfl) (by kernel_rfl) (by kernel_rfl)) ?_
  intro W base args ds gs before hval0 hW hcnd _
  have hval : ∀ (j : Nat) t v, Try.f8.params[j]? = some t → args[j]? = some v → Value.okWide Try.prog W .any base t v := hval0
  have hW' := hW
  obtain ⟨p, q, hA0, hV, rfl, hfz, hnd⟩ := hW
  have hA : DataW.TrodAll enc Try.prog W 0 (fun _ => true) true Try.f8.params.toList args.toList ds p := hA0
  rw [Try.params8] at hA hval
  obtain ⟨v0, vs0, d0, ds0, p0, q0, hargs, rfl, rfl, h0, r0⟩ := trodAll_cons hA
  obtain ⟨v1, vs1, d1, ds1, p1, q1, rfl, rfl, rfl, h1, r1⟩ := trodAll_cons r0
  obtain ⟨v2, vs2, d2, ds2, p2, q2, rfl, rfl, rfl, h2, r2⟩ := trodAll_cons r1
  obtain ⟨v3, vs3, d3, ds3, p3, q3, rfl, rfl, rfl, h3, r3⟩ := trodAll_cons r2
  obtain ⟨v4, vs4, d4, ds4, p4, q4, rfl, rfl, rfl, h4, r4⟩ := trodAll_cons r3
  obtain ⟨rfl, rfl, rfl⟩ := trodAll_nil r4
  obtain rfl : args = #[v0, v1, v2, v3, v4] := by cases args; simp_all
  obtain ⟨rfl, rfl⟩ := trodVars_none hV
  have lt0 : ∀ x ∈ p0, x.block < W.heap.size := by obtain ⟨m, hm⟩ := h0; exact DataW.trod_lt m _ _ _ hm
  have t0 : ∃ n y, DataW.trod enc Try.prog W 0 (fun _ => true) true n 2 v0.cells.toList = some y := by obtain ⟨m, hm⟩ := h0; exact ⟨m, _, hm⟩
  have lt1 : ∀ x ∈ p1, x.block < W.heap.size := by obtain ⟨m, hm⟩ := h1; exact DataW.trod_lt m _ _ _ hm
  have t1 : ∃ n y, DataW.trod enc Try.prog W 0 (fun _ => true) true n 2 v1.cells.toList = some y := by obtain ⟨m, hm⟩ := h1; exact ⟨m, _, hm⟩
  have lt2 : ∀ x ∈ p2, x.block < W.heap.size := by obtain ⟨m, hm⟩ := h2; exact DataW.trod_lt m _ _ _ hm
  have t2 : ∃ n y, DataW.trod enc Try.prog W 0 (fun _ => true) true n 4 v2.cells.toList = some y := by obtain ⟨m, hm⟩ := h2; exact ⟨m, _, hm⟩
  have lt3 : ∀ x ∈ p3, x.block < W.heap.size := by obtain ⟨m, hm⟩ := h3; exact DataW.trod_lt m _ _ _ hm
  have t3 : ∃ n y, DataW.trod enc Try.prog W 0 (fun _ => true) true n 2 v3.cells.toList = some y := by obtain ⟨m, hm⟩ := h3; exact ⟨m, _, hm⟩
  have lt4 : ∀ x ∈ p4, x.block < W.heap.size := by obtain ⟨m, hm⟩ := h4; exact DataW.trod_lt m _ _ _ hm
  have t4 : ∃ n y, DataW.trod enc Try.prog W 0 (fun _ => true) true n 2 v4.cells.toList = some y := by obtain ⟨m, hm⟩ := h4; exact ⟨m, _, hm⟩
  refine (walk enc v0 v1 v2 v3 v4 W base (hval 0 2 v0 rfl rfl) t0 (hval 1 2 v1 rfl rfl) t1 (hval 2 4 v2 rfl rfl) t2 (hval 3 2 v3 rfl rfl) t3 (hval 4 2 v4 rfl rfl) t4).mono fun e W' ⟨he, bel⟩ => ?_
  subst he
  exact ⟨_, rfl, _, _, _, [], _, [], hW', trodAll_mk1 (shut_bool Try.underlying4 _), (trodAll_cons_mk (Below.trod laidOut (by kernel_rfl) (of_decide_eq_true (by kernel_rfl)) h0 bel lt0) (trodAll_cons_mk (Below.trod laidOut (by kernel_rfl) (of_decide_eq_true (by kernel_rfl)) h1 bel lt1) (trodAll_cons_mk (Below.trod laidOut (by kernel_rfl) (of_decide_eq_true (by kernel_rfl)) h2 bel lt2) (trodAll_cons_mk (Below.trod laidOut (by kernel_rfl) (of_decide_eq_true (by kernel_rfl)) h3 bel lt3) (trodAll_cons_mk (Below.trod laidOut (by kernel_rfl) (of_decide_eq_true (by kernel_rfl)) h4 bel lt4) trodAll_mk0))))), rfl, bel.frame _, fun h => by cases h⟩

theorem over : Rows.fnExactNewSubRow.holds Try.pinned (OpenSpec.ofChange Rows.fnExactNewSubSpec) :=
  OpenClaim.holds_of_wide 8 Try.f8 rfl rfl rfl rfl rfl rfl rfl ⟨rfl, rfl, rfl, rfl, rfl⟩ rfl rfl rfl rfl rfl (by kernel_rfl) Try.func8 (by kernel_rfl)
    (of_decide_eq_true (by kernel_rfl)) (by unfold Func.isWrapper; first | (rw [if_pos (by decide +kernel)]; kernel_rfl) | (rw [if_neg (by decide +kernel)]; exact ⟨rfl, rfl⟩))
    (fun os started H enc _ => lifted os started H enc)

theorem proved : Rows.FnExactNewSubSaid := over
#print axioms proved
end Go.Proofs.Ytlicopeejphgaan.fnExactNewSub

namespace Go.Proofs.Ytlicopeejphgaan
theorem fnExactNewSub_holds : Rows.FnExactNewSubSaid := fnExactNewSub.proved
end Go.Proofs.Ytlicopeejphgaan
