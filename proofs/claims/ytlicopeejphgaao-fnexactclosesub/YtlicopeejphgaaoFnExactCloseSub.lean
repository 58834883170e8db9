/- Proved: at every sub the program's CloseSub answers as its model does, code and sub; the sub is as it was; the answer owns its memory; no condition. -/
import Derived.Test.YtlicopeejphgaaoRows
import Derived.WalkKit
import Derived.ProofKit
import Derived.OpenShut
import Derived.ShutString
import Derived.ChangeOld
import Derived.Below
import Derived.Test.YtlicopeejphgaaoBase
import Derived.Test.YtlicopeejphgaaoBytes
import Derived.Test.YtlicopeejphgaaoMem
import Derived.Test.YtlicopeejphgaaoMemOpen
import Derived.Test.YtlicopeejphgaaoMemRow
import Derived.Test.YtlicopeejphgaaoHBase
import Derived.Test.YtlicopeejphgaaoHFlight
import Derived.Test.YtlicopeejphgaaoHSender
import Derived.Test.YtlicopeejphgaaoHSpan
import Derived.Test.YtlicopeejphgaaoHCatch
import Derived.Test.YtlicopeejphgaaoHOpen0
import Derived.Test.YtlicopeejphgaaoBox
import Derived.Test.YtlicopeejphgaaoNum
import Derived.Test.YtlicopeejphgaaoNumWalks
import Derived.Test.YtlicopeejphgaaoUnwrap
import Derived.Test.YtlicopeejphgaaoFlightDef
import Derived.Test.YtlicopeejphgaaoCatDef
import Derived.Test.YtlicopeejphgaaoCtrl
import Derived.Test.YtlicopeejphgaaoCtrl2
import Derived.Test.YtlicopeejphgaaoSubBox
import Derived.Test.YtlicopeejphgaaoHSub
import Derived.Test.YtlicopeejphgaaoHOpenS
import Derived.Test.YtlicopeejphgaaoHSubV
import Derived.Test.YtlicopeejphgaaoSubDef
import Derived.Test.YtlicopeejphgaaoSpecFlight
import Derived.Test.YtlicopeejphgaaoImplFlight
import Derived.Test.YtlicopeejphgaaoCatSpec
import Derived.Test.YtlicopeejphgaaoCatImpl
import Derived.Test.YtlicopeejphgaaoSubSpec
import Derived.Test.YtlicopeejphgaaoSubSpec2
import Derived.Test.YtlicopeejphgaaoSubImpl
import Derived.Test.YtlicopeejphgaaoHMark
import Derived.Test.YtlicopeejphgaaoMemApp
import Derived.Test.YtlicopeejphgaaoMSpan
import Derived.Test.YtlicopeejphgaaoMCatch
import Derived.Test.YtlicopeejphgaaoMFlight
import Derived.Test.YtlicopeejphgaaoMSender
import Derived.Test.YtlicopeejphgaaoSubSets
import Derived.Test.YtlicopeejphgaaoSubO
import Derived.Test.YtlicopeejphgaaoMSub
import Derived.Test.YtlicopeejphgaaoMSubV
import Derived.Test.YtlicopeejphgaaoSpecFlight2
import Derived.Test.YtlicopeejphgaaoAppBytes
import Derived.Test.YtlicopeejphgaaoApp
import Derived.Test.YtlicopeejphgaaoSpecFlight3
import Derived.Test.YtlicopeejphgaaoImplCopy
import Derived.Test.YtlicopeejphgaaoSpanRow
import Derived.Test.YtlicopeejphgaaoCatCopy
import Derived.Test.YtlicopeejphgaaoSubCopy
import Derived.Test.YtlicopeejphgaaoAgg
import Derived.Test.YtlicopeejphgaaoSubClose0
import Derived.Test.YtlicopeejphgaaoSubCloseS
import Derived.Test.YtlicopeejphgaaoSubCloseI
import Derived.Test.YtlicopeejphgaaoSubV2
namespace Go.Proofs.Ytlicopeejphgaao.fnExactCloseSub
open Go.ChangeShapes Go.WideShapes Go.ChangeAt Go.RowKit
set_option linter.unusedVariables false

theorem own : ownKnob Try.prog.godebug = none := by kernel_rfl
theorem laidOut : laidOutB Try.prog = true := by kernel_rfl


set_option maxHeartbeats 16000000 in
set_option maxRecDepth 8000 in
theorem walk {H : Type} (enc : TypeId × Value → H) (v0 : Value) (w : World) (base : Nat)
    (o0 : Value.okWide Try.prog w .any base 31 v0) (t0 : ∃ n y, DataW.trod enc Try.prog w 0 (fun _ => true) true n 31 v0.cells.toList = some y) :
    Calls Try.prog 5 #[v0] w fun e w' => e = .returned (.bool true) ∧ Below w.heap.size w w' := by
  obtain ⟨g0, y0a, y0b, y0c, y0d, y0e, y0f, y0g, y0h, y0i, y0j, y0q, y0r, y0k, y0l, y0m, y0s, y0t, y0n, y0o, y0p, rfl, ho⟩ := open_SubV o0 t0
  skip
  have P0 : Hid (shSub.Rd w w.heap.size g0 [.int .i64 y0a, .int .i64 y0b, .bool y0c, .int .i64 y0d, .int .i64 y0e, .int .i64 y0f, .int .i64 y0g, .int .i64 y0h, .int .i64 y0i, .slice y0j y0q y0r, .int .i64 y0k, .int .i64 y0l, .slice y0m y0s y0t, .int .i64 y0n, .int .i64 y0o, .int .i64 y0p]) := ho
  clear ho
  clear o0 t0
  have HW : Hid (Below w.heap.size w w) := Below.refl _ _
  obtain ⟨V, hV⟩ : ∃ V, V = clsV g0 := ⟨_, rfl⟩
  obtain ⟨C, hC⟩ : ∃ C, C = subF g0 := ⟨_, rfl⟩
  have VT : Hid (totSub V ≤ 1048576) := by rw [hV]; exact cls_tot _
  have hVT : 0 ≤ (1 : Int) + ((wtSub V : Nat) : Int) := by omega
  have CS : Hid (∀ (W : World) (B : Nat) (ua : Int) (ub : Int) (uc : Bool) (ud : Int) (ue : Int) (uf : Int) (ug : Int) (uh : Int) (ui : Int) (uj : Option Addr) (uq : Nat) (ur : Nat) (uk : Int) (ul : Int) (um : Option Addr) (us : Nat) (ut : Nat) (un : Int) (uo : Int) (up : Int), shSub.Rd W B g0 [.int .i64 ua, .int .i64 ub, .bool uc, .int .i64 ud, .int .i64 ue, .int .i64 uf, .int .i64 ug, .int .i64 uh, .int .i64 ui, .slice uj uq ur, .int .i64 uk, .int .i64 ul, .slice um us ut, .int .i64 un, .int .i64 uo, .int .i64 up] → B ≤ W.heap.size → totSub g0 ≤ 1048576 → Calls Try.prog 16 #[.agg #[.int .i64 ua, .int .i64 ub, .bool uc, .int .i64 ud, .int .i64 ue, .int .i64 uf, .int .i64 ug, .int .i64 uh, .int .i64 ui, .slice uj uq ur, .int .i64 uk, .int .i64 ul, .slice um us ut, .int .i64 un, .int .i64 uo, .int .i64 up]] W fun e w' => ∃ (va : Int) (vb : Int) (vc : Bool) (vd : Int) (ve : Int) (vf : Int) (vg : Int) (vh : Int) (vi : Int) (vj : Option Addr) (vq : Nat) (vr : Nat) (vk : Int) (vl : Int) (vm : Option Addr) (vs : Nat) (vt : Nat) (vn : Int) (vo : Int) (vp : Int), e = .returned (.agg #[.int .i64 C, .int .i64 va, .int .i64 vb, .bool vc, .int .i64 vd, .int .i64 ve, .int .i64 vf, .int .i64 vg, .int .i64 vh, .int .i64 vi, .slice vj vq vr, .int .i64 vk, .int .i64 vl, .slice vm vs vt, .int .i64 vn, .int .i64 vo, .int .i64 vp]) ∧ Own w' W.heap.size w'.heap.size shSubO V [.int .i64 va, .int .i64 vb, .bool vc, .int .i64 vd, .int .i64 ve, .int .i64 vf, .int .i64 vg, .int .i64 vh, .int .i64 vi, .slice vj vq vr, .int .i64 vk, .int .i64 vl, .slice vm vs vt, .int .i64 vn, .int .i64 vo, .int .i64 vp] ∧ Below W.heap.size W w') := fun W B ua ub uc ud ue uf ug uh ui uj uq ur uk ul um us ut un uo up h1 h2 h3 => by rw [hV, hC]; exact sCloseSubV g0 ua ub uc ud ue uf ug uh ui uj uq ur uk ul um us ut un uo up W B h1 h2 h3
  have CI : Hid (∀ (W : World) (B : Nat) (ua : Int) (ub : Int) (uc : Bool) (ud : Int) (ue : Int) (uf : Int) (ug : Int) (uh : Int) (ui : Int) (uj : Option Addr) (uq : Nat) (ur : Nat) (uk : Int) (ul : Int) (um : Option Addr) (us : Nat) (ut : Nat) (un : Int) (uo : Int) (up : Int), shSub.Rd W B g0 [.int .i64 ua, .int .i64 ub, .bool uc, .int .i64 ud, .int .i64 ue, .int .i64 uf, .int .i64 ug, .int .i64 uh, .int .i64 ui, .slice uj uq ur, .int .i64 uk, .int .i64 ul, .slice um us ut, .int .i64 un, .int .i64 uo, .int .i64 up] → B ≤ W.heap.size → totSub g0 ≤ 1048576 → Calls Try.prog 17 #[.agg #[.int .i64 ua, .int .i64 ub, .bool uc, .int .i64 ud, .int .i64 ue, .int .i64 uf, .int .i64 ug, .int .i64 uh, .int .i64 ui, .slice uj uq ur, .int .i64 uk, .int .i64 ul, .slice um us ut, .int .i64 un, .int .i64 uo, .int .i64 up]] W fun e w' => ∃ (va : Int) (vb : Int) (vc : Bool) (vd : Int) (ve : Int) (vf : Int) (vg : Int) (vh : Int) (vi : Int) (vj : Option Addr) (vq : Nat) (vr : Nat) (vk : Int) (vl : Int) (vm : Option Addr) (vs : Nat) (vt : Nat) (vn : Int) (vo : Int) (vp : Int), e = .returned (.agg #[.int .i64 C, .int .i64 va, .int .i64 vb, .bool vc, .int .i64 vd, .int .i64 ve, .int .i64 vf, .int .i64 vg, .int .i64 vh, .int .i64 vi, .slice vj vq vr, .int .i64 vk, .int .i64 vl, .slice vm vs vt, .int .i64 vn, .int .i64 vo, .int .i64 vp]) ∧ Own w' W.heap.size w'.heap.size shSubO V [.int .i64 va, .int .i64 vb, .bool vc, .int .i64 vd, .int .i64 ve, .int .i64 vf, .int .i64 vg, .int .i64 vh, .int .i64 vi, .slice vj vq vr, .int .i64 vk, .int .i64 vl, .slice vm vs vt, .int .i64 vn, .int .i64 vo, .int .i64 vp] ∧ Below W.heap.size W w') := fun W B ua ub uc ud ue uf ug uh ui uj uq ur uk ul um us ut un uo up h1 h2 h3 => by rw [hV, hC]; exact iCloseSubV g0 ua ub uc ud ue uf ug uh ui uj uq ur uk ul um us ut un uo up W B h1 h2 h3
  clear hV hC
  obtain ⟨T0, hT0⟩ : ∃ T : Nat, T = totSub g0 := ⟨_, rfl⟩
  by_cases hbig0 : (1048576 : Int) < (T0 : Int)
  · go_enter Try.func5, Try.ntmps5
    as_aux_lemma =>
    go_wp2_with fail
    have c := fun W R hB => lSzSubV g0 y0a y0b y0c y0d y0e y0f y0g y0h y0i y0j y0q y0r y0k y0l y0m y0s y0t y0n y0o y0p 1048576 W w.heap.size R hB (by omega) (by omega)
    rw [← hT0, if_pos (show (1048576 : Int) < (T0 : Int) by omega)] at c
    refine (c _ (Sh.Rd.below (C := w.heap.size) P0.out (by first | omega | (simp; done) | (simp; omega)) (by first | exact Below.refl _ _ | go_grown | exact Below.drew (Below.refl _ _))) (by first | omega | (simp; done) | (simp; omega))).mono ?_
    rintro e w1 ⟨rfl, hb⟩
    clear c
    have B1_0 := bx_new hb
    obtain ⟨hb, S1_0⟩ := bl_new hb
    have Z1 : Hid (w.heap.size < w1.heap.size) := S1_0
    replace P0 : Hid (shSub.Rd w1 w.heap.size g0 [.int .i64 y0a, .int .i64 y0b, .bool y0c, .int .i64 y0d, .int .i64 y0e, .int .i64 y0f, .int .i64 y0g, .int .i64 y0h, .int .i64 y0i, .slice y0j y0q y0r, .int .i64 y0k, .int .i64 y0l, .slice y0m y0s y0t, .int .i64 y0n, .int .i64 y0o, .int .i64 y0p]) := Sh.Rd.below P0.out (by have := Z1.out; omega) hb
    replace HW : Hid _ := HW.out.trans (hb.mono HW.out.size)
    clear hb
    as_aux_lemma =>
    go_wp2_with fail
    go_ret
    exact ⟨rfl, HW.out⟩
  · skip
    go_enter Try.func5, Try.ntmps5
    as_aux_lemma =>
    go_wp2_with fail
    have c := fun W R hB => lSzSubV g0 y0a y0b y0c y0d y0e y0f y0g y0h y0i y0j y0q y0r y0k y0l y0m y0s y0t y0n y0o y0p 1048576 W w.heap.size R hB (by omega) (by omega)
    rw [← hT0, if_neg (show ¬ ((1048576 : Int) < (T0 : Int)) by omega)] at c
    refine (c _ (Sh.Rd.below (C := w.heap.size) P0.out (by first | omega | (simp; done) | (simp; omega)) (by first | exact Below.refl _ _ | go_grown | exact Below.drew (Below.refl _ _))) (by first | omega | (simp; done) | (simp; omega))).mono ?_
    rintro e w1 ⟨rfl, hb⟩
    clear c
    have B1_0 := bx_new hb
    obtain ⟨hb, S1_0⟩ := bl_new hb
    have Z1 : Hid (w.heap.size < w1.heap.size) := S1_0
    replace P0 : Hid (shSub.Rd w1 w.heap.size g0 [.int .i64 y0a, .int .i64 y0b, .bool y0c, .int .i64 y0d, .int .i64 y0e, .int .i64 y0f, .int .i64 y0g, .int .i64 y0h, .int .i64 y0i, .slice y0j y0q y0r, .int .i64 y0k, .int .i64 y0l, .slice y0m y0s y0t, .int .i64 y0n, .int .i64 y0o, .int .i64 y0p]) := Sh.Rd.below P0.out (by have := Z1.out; omega) hb
    replace HW : Hid _ := HW.out.trans (hb.mono HW.out.size)
    clear hb
    have hrest : ¬ ((1048576 : Int) - (T0 : Int) < 0) := by omega
    as_aux_lemma =>
    go_wp2_with fail
    refine (lToSubV g0 y0a y0b y0c y0d y0e y0f y0g y0h y0i y0j y0q y0r y0k y0l y0m y0s y0t y0n y0o y0p _ w.heap.size (Sh.Rd.below (C := w1.heap.size) P0.out (by have := Z1.out; first | omega | (simp; done) | (simp; omega)) (by first | exact Below.refl _ _ | go_grown | exact Below.drew (Below.refl _ _))) (by have := Z1.out; first | omega | (simp; done) | (simp; omega)) (by omega)).mono ?_
    rintro e w2 ⟨u2a, u2b, u2c, u2d, u2e, u2f, u2g, u2h, u2i, u2j, u2q, u2r, u2k, u2l, u2m, u2s, u2t, u2n, u2o, u2p, rfl, ho, hb⟩
    skip
    have X2 : Hid (Own w2 (w1.heap.size) w2.heap.size shSub g0 [.int .i64 u2a, .int .i64 u2b, .bool u2c, .int .i64 u2d, .int .i64 u2e, .int .i64 u2f, .int .i64 u2g, .int .i64 u2h, .int .i64 u2i, .slice u2j u2q u2r, .int .i64 u2k, .int .i64 u2l, .slice u2m u2s u2t, .int .i64 u2n, .int .i64 u2o, .int .i64 u2p]) := Own.mono ho (by first | exact Nat.le_refl _ | (simp; done) | (simp; omega)) (Nat.le_refl _)
    clear ho
    have Z2 : Hid (w1.heap.size ≤ w2.heap.size) := hb.size
    replace B1_0 := bx_below B1_0 S1_0 hb
    replace S1_0 := Nat.lt_of_lt_of_le S1_0 hb.size
    replace P0 : Hid (shSub.Rd w2 w.heap.size g0 [.int .i64 y0a, .int .i64 y0b, .bool y0c, .int .i64 y0d, .int .i64 y0e, .int .i64 y0f, .int .i64 y0g, .int .i64 y0h, .int .i64 y0i, .slice y0j y0q y0r, .int .i64 y0k, .int .i64 y0l, .slice y0m y0s y0t, .int .i64 y0n, .int .i64 y0o, .int .i64 y0p]) := Sh.Rd.below P0.out (by have := Z1.out; have := Z2.out; omega) hb
    replace HW : Hid _ := HW.out.trans (hb.mono HW.out.size)
    clear hb
    as_aux_lemma =>
    go_wp2_with fail
    refine (CS.out _ _ u2a u2b u2c u2d u2e u2f u2g u2h u2i u2j u2q u2r u2k u2l u2m u2s u2t u2n u2o u2p (Sh.Rd.mono (by have := Z1.out; have := Z2.out; first | exact Nat.le_refl _ | omega | (simp; done) | (simp; omega)) _ _ _ (Sh.Rd.below (B := w2.heap.size) (C := w2.heap.size) (Own.rd X2.out (Nat.le_refl _)) (Nat.le_refl _) (by first | exact Below.refl _ _ | go_grown | exact Below.drew (Below.refl _ _)))) (Nat.le_refl _) (by omega)).mono ?_
    rintro e w3 ⟨u3a, u3b, u3c, u3d, u3e, u3f, u3g, u3h, u3i, u3j, u3q, u3r, u3k, u3l, u3m, u3s, u3t, u3n, u3o, u3p, rfl, ho, hb⟩
    skip
    have X3 : Hid (Own w3 (w2.heap.size) w3.heap.size shSubO V [.int .i64 u3a, .int .i64 u3b, .bool u3c, .int .i64 u3d, .int .i64 u3e, .int .i64 u3f, .int .i64 u3g, .int .i64 u3h, .int .i64 u3i, .slice u3j u3q u3r, .int .i64 u3k, .int .i64 u3l, .slice u3m u3s u3t, .int .i64 u3n, .int .i64 u3o, .int .i64 u3p]) := Own.mono ho (by first | exact Nat.le_refl _ | (simp; done) | (simp; omega)) (Nat.le_refl _)
    clear ho
    have Z3 : Hid (w2.heap.size ≤ w3.heap.size) := hb.size
    replace B1_0 := bx_below B1_0 S1_0 hb
    replace S1_0 := Nat.lt_of_lt_of_le S1_0 hb.size
    replace P0 : Hid (shSub.Rd w3 w.heap.size g0 [.int .i64 y0a, .int .i64 y0b, .bool y0c, .int .i64 y0d, .int .i64 y0e, .int .i64 y0f, .int .i64 y0g, .int .i64 y0h, .int .i64 y0i, .slice y0j y0q y0r, .int .i64 y0k, .int .i64 y0l, .slice y0m y0s y0t, .int .i64 y0n, .int .i64 y0o, .int .i64 y0p]) := Sh.Rd.below P0.out (by have := Z1.out; have := Z2.out; have := Z3.out; omega) hb
    replace X2 : Hid _ := Own.below X2.out (by have := Z1.out; have := Z2.out; have := Z3.out; omega) hb
    replace HW : Hid _ := HW.out.trans (hb.mono HW.out.size)
    clear hb
    clear X2
    as_aux_lemma =>
    go_wp2_with fail
    refine (lToSubV g0 y0a y0b y0c y0d y0e y0f y0g y0h y0i y0j y0q y0r y0k y0l y0m y0s y0t y0n y0o y0p _ w.heap.size (Sh.Rd.below (C := w3.heap.size) P0.out (by have := Z1.out; have := Z2.out; have := Z3.out; first | omega | (simp; done) | (simp; omega)) (by first | exact Below.refl _ _ | go_grown | exact Below.drew (Below.refl _ _))) (by have := Z1.out; have := Z2.out; have := Z3.out; first | omega | (simp; done) | (simp; omega)) (by omega)).mono ?_
    rintro e w4 ⟨u4a, u4b, u4c, u4d, u4e, u4f, u4g, u4h, u4i, u4j, u4q, u4r, u4k, u4l, u4m, u4s, u4t, u4n, u4o, u4p, rfl, ho, hb⟩
    skip
    have X4 : Hid (Own w4 (w3.heap.size + 1) w4.heap.size shSub g0 [.int .i64 u4a, .int .i64 u4b, .bool u4c, .int .i64 u4d, .int .i64 u4e, .int .i64 u4f, .int .i64 u4g, .int .i64 u4h, .int .i64 u4i, .slice u4j u4q u4r, .int .i64 u4k, .int .i64 u4l, .slice u4m u4s u4t, .int .i64 u4n, .int .i64 u4o, .int .i64 u4p]) := Own.mono ho (by first | exact Nat.le_refl _ | (simp; done) | (simp; omega)) (Nat.le_refl _)
    clear ho
    have B4_0 := bx_new hb
    obtain ⟨hb, S4_0⟩ := bl_new hb
    have Z4 : Hid (w3.heap.size < w4.heap.size) := S4_0
    replace B1_0 := bx_below B1_0 S1_0 hb
    replace S1_0 := Nat.lt_of_lt_of_le S1_0 hb.size
    replace P0 : Hid (shSub.Rd w4 w.heap.size g0 [.int .i64 y0a, .int .i64 y0b, .bool y0c, .int .i64 y0d, .int .i64 y0e, .int .i64 y0f, .int .i64 y0g, .int .i64 y0h, .int .i64 y0i, .slice y0j y0q y0r, .int .i64 y0k, .int .i64 y0l, .slice y0m y0s y0t, .int .i64 y0n, .int .i64 y0o, .int .i64 y0p]) := Sh.Rd.below P0.out (by have := Z1.out; have := Z2.out; have := Z3.out; have := Z4.out; omega) hb
    replace X3 : Hid _ := Own.below X3.out (by have := Z1.out; have := Z2.out; have := Z3.out; have := Z4.out; omega) hb
    replace HW : Hid _ := HW.out.trans (hb.mono HW.out.size)
    clear hb
    as_aux_lemma =>
    go_wp2_with fail
    refine (CI.out _ _ u4a u4b u4c u4d u4e u4f u4g u4h u4i u4j u4q u4r u4k u4l u4m u4s u4t u4n u4o u4p (Sh.Rd.mono (by have := Z1.out; have := Z2.out; have := Z3.out; have := Z4.out; first | exact Nat.le_refl _ | omega | (simp; done) | (simp; omega)) _ _ _ (Sh.Rd.below (B := w4.heap.size) (C := w4.heap.size) (Own.rd X4.out (Nat.le_refl _)) (Nat.le_refl _) (by first | exact Below.refl _ _ | go_grown | exact Below.drew (Below.refl _ _)))) (Nat.le_refl _) (by omega)).mono ?_
    rintro e w5 ⟨u5a, u5b, u5c, u5d, u5e, u5f, u5g, u5h, u5i, u5j, u5q, u5r, u5k, u5l, u5m, u5s, u5t, u5n, u5o, u5p, rfl, ho, hb⟩
    skip
    have X5 : Hid (Own w5 (w4.heap.size + 1) w5.heap.size shSubO V [.int .i64 u5a, .int .i64 u5b, .bool u5c, .int .i64 u5d, .int .i64 u5e, .int .i64 u5f, .int .i64 u5g, .int .i64 u5h, .int .i64 u5i, .slice u5j u5q u5r, .int .i64 u5k, .int .i64 u5l, .slice u5m u5s u5t, .int .i64 u5n, .int .i64 u5o, .int .i64 u5p]) := Own.mono ho (by first | exact Nat.le_refl _ | (simp; done) | (simp; omega)) (Nat.le_refl _)
    clear ho
    have B5_0 := bx_new hb
    obtain ⟨hb, S5_0⟩ := bl_new hb
    have Z5 : Hid (w4.heap.size < w5.heap.size) := S5_0
    replace B1_0 := bx_below B1_0 S1_0 hb
    replace S1_0 := Nat.lt_of_lt_of_le S1_0 hb.size
    replace B4_0 := bx_below B4_0 S4_0 hb
    replace S4_0 := Nat.lt_of_lt_of_le S4_0 hb.size
    replace P0 : Hid (shSub.Rd w5 w.heap.size g0 [.int .i64 y0a, .int .i64 y0b, .bool y0c, .int .i64 y0d, .int .i64 y0e, .int .i64 y0f, .int .i64 y0g, .int .i64 y0h, .int .i64 y0i, .slice y0j y0q y0r, .int .i64 y0k, .int .i64 y0l, .slice y0m y0s y0t, .int .i64 y0n, .int .i64 y0o, .int .i64 y0p]) := Sh.Rd.below P0.out (by have := Z1.out; have := Z2.out; have := Z3.out; have := Z4.out; have := Z5.out; omega) hb
    replace X3 : Hid _ := Own.below X3.out (by have := Z1.out; have := Z2.out; have := Z3.out; have := Z4.out; have := Z5.out; omega) hb
    replace X4 : Hid _ := Own.below X4.out (by have := Z1.out; have := Z2.out; have := Z3.out; have := Z4.out; have := Z5.out; omega) hb
    replace HW : Hid _ := HW.out.trans (hb.mono HW.out.size)
    clear hb
    as_aux_lemma =>
    go_upto_region 8 with fail
    as_aux_lemma =>
    go_wp2_with fail
    refine (lEqSubResultV C V u5a u5b u5c u5d u5e u5f u5g u5h u5i u5j u5q u5r u5k u5l u5m u5s u5t u5n u5o u5p u3a u3b u3c u3d u3e u3f u3g u3h u3i u3j u3q u3r u3k u3l u3m u3s u3t u3n u3o u3p _ _ (Sh.Rd.mono (by have := Z1.out; have := Z2.out; have := Z3.out; have := Z4.out; have := Z5.out; first | exact Nat.le_refl _ | omega | (simp; done) | (simp; omega)) _ _ _ (Sh.Rd.below (B := w5.heap.size) (C := w5.heap.size) (Own.rd X5.out (Nat.le_refl _)) (Nat.le_refl _) (by first | exact Below.refl _ _ | go_grown | exact Below.drew (Below.refl _ _)))) (Sh.Rd.mono (by have := Z1.out; have := Z2.out; have := Z3.out; have := Z4.out; have := Z5.out; first | exact Nat.le_refl _ | omega | (simp; done) | (simp; omega)) _ _ _ (Sh.Rd.below (B := w5.heap.size) (C := w5.heap.size) (Own.rd X3.out (Nat.le_refl _)) (Nat.le_refl _) (by first | exact Below.refl _ _ | go_grown | exact Below.drew (Below.refl _ _)))) (Nat.le_refl _) VT.out).mono ?_
    rintro e w6 ⟨rfl, hb⟩
    have B6_0 := bx_new hb
    obtain ⟨hb, S6_0⟩ := bl_new hb
    have Z6 : Hid (w5.heap.size < w6.heap.size) := S6_0
    replace B1_0 := bx_below B1_0 S1_0 hb
    replace S1_0 := Nat.lt_of_lt_of_le S1_0 hb.size
    replace B4_0 := bx_below B4_0 S4_0 hb
    replace S4_0 := Nat.lt_of_lt_of_le S4_0 hb.size
    replace B5_0 := bx_below B5_0 S5_0 hb
    replace S5_0 := Nat.lt_of_lt_of_le S5_0 hb.size
    replace P0 : Hid (shSub.Rd w6 w.heap.size g0 [.int .i64 y0a, .int .i64 y0b, .bool y0c, .int .i64 y0d, .int .i64 y0e, .int .i64 y0f, .int .i64 y0g, .int .i64 y0h, .int .i64 y0i, .slice y0j y0q y0r, .int .i64 y0k, .int .i64 y0l, .slice y0m y0s y0t, .int .i64 y0n, .int .i64 y0o, .int .i64 y0p]) := Sh.Rd.below P0.out (by have := Z1.out; have := Z2.out; have := Z3.out; have := Z4.out; have := Z5.out; have := Z6.out; omega) hb
    replace X3 : Hid _ := Own.below X3.out (by have := Z1.out; have := Z2.out; have := Z3.out; have := Z4.out; have := Z5.out; have := Z6.out; omega) hb
    replace X4 : Hid _ := Own.below X4.out (by have := Z1.out; have := Z2.out; have := Z3.out; have := Z4.out; have := Z5.out; have := Z6.out; omega) hb
    replace X5 : Hid _ := Own.below X5.out (by have := Z1.out; have := Z2.out; have := Z3.out; have := Z4.out; have := Z5.out; have := Z6.out; omega) hb
    replace HW : Hid _ := HW.out.trans (hb.mono HW.out.size)
    clear hb
    as_aux_lemma =>
    go_wp2_with fail
    have HX : Hid (∀ W, Below w6.heap.size w6 W → shSub.Rd W w6.heap.size g0 [.int .i64 u4a, .int .i64 u4b, .bool u4c, .int .i64 u4d, .int .i64 u4e, .int .i64 u4f, .int .i64 u4g, .int .i64 u4h, .int .i64 u4i, .slice u4j u4q u4r, .int .i64 u4k, .int .i64 u4l, .slice u4m u4s u4t, .int .i64 u4n, .int .i64 u4o, .int .i64 u4p]) := fun W hW => Sh.Rd.below (Own.rd X4.out (Nat.le_refl _)) (Nat.le_refl _) hW
    go_cut [31] (fun u wx => u = .bool false ∧ Below w6.heap.size w6 wx)
    case first =>
      go_region_with (first
        | (go_at_call 10; refine (lToSubV g0 y0a y0b y0c y0d y0e y0f y0g y0h y0i y0j y0q y0r y0k y0l y0m y0s y0t y0n y0o y0p _ w.heap.size (Sh.Rd.below (C := w6.heap.size) P0.out (by have := Z1.out; have := Z2.out; have := Z3.out; have := Z4.out; have := Z5.out; have := Z6.out; first | omega | (simp; done) | (simp; omega)) (by first | exact Below.refl _ _ | go_grown | exact Below.drew (Below.refl _ _))) (by have := Z1.out; have := Z2.out; have := Z3.out; have := Z4.out; have := Z5.out; have := Z6.out; first | omega | (simp; done) | (simp; omega)) (by omega)).mono ?_; rintro e w7 ⟨u7a, u7b, u7c, u7d, u7e, u7f, u7g, u7h, u7i, u7j, u7q, u7r, u7k, u7l, u7m, u7s, u7t, u7n, u7o, u7p, rfl, ho, hb⟩; skip; replace hb := bl_drew hb; have HB : Hid _ := hb; have HR : Hid (shSub.Rd w7 w7.heap.size g0 [.int .i64 u7a, .int .i64 u7b, .bool u7c, .int .i64 u7d, .int .i64 u7e, .int .i64 u7f, .int .i64 u7g, .int .i64 u7h, .int .i64 u7i, .slice u7j u7q u7r, .int .i64 u7k, .int .i64 u7l, .slice u7m u7s u7t, .int .i64 u7n, .int .i64 u7o, .int .i64 u7p]) := Own.rd ho (Nat.le_refl _); replace B1_0 := bx_below B1_0 S1_0 hb; replace S1_0 := Nat.lt_of_lt_of_le S1_0 hb.size; replace B4_0 := bx_below B4_0 S4_0 hb; replace S4_0 := Nat.lt_of_lt_of_le S4_0 hb.size; replace B5_0 := bx_below B5_0 S5_0 hb; replace S5_0 := Nat.lt_of_lt_of_le S5_0 hb.size; replace B6_0 := bx_below B6_0 S6_0 hb; replace S6_0 := Nat.lt_of_lt_of_le S6_0 hb.size; clear ho hb)
        | (go_at_call 13; refine (lEqSubV g0 u4a u4b u4c u4d u4e u4f u4g u4h u4i u4j u4q u4r u4k u4l u4m u4s u4t u4n u4o u4p u7a u7b u7c u7d u7e u7f u7g u7h u7i u7j u7q u7r u7k u7l u7m u7s u7t u7n u7o u7p _ _ (Sh.Rd.mono HB.out.size _ _ _ (HX.out _ HB.out)) HR.out (Nat.le_refl _) (by omega)).mono ?_; rintro e w' ⟨rfl, hb⟩; have HC : Hid _ := hb; clear hb))
      all_goals (go_wp2_with fail; go_meet; exact ⟨rfl, HB.out.trans (HC.out.mono HB.out.size)⟩)
    case rest =>
    rename World => w7
    obtain ⟨rfl, hb⟩ := hcut
    clear HX
    have Z7 : Hid (w6.heap.size ≤ w7.heap.size) := hb.size
    replace B1_0 := bx_below B1_0 S1_0 hb
    replace S1_0 := Nat.lt_of_lt_of_le S1_0 hb.size
    replace B4_0 := bx_below B4_0 S4_0 hb
    replace S4_0 := Nat.lt_of_lt_of_le S4_0 hb.size
    replace B5_0 := bx_below B5_0 S5_0 hb
    replace S5_0 := Nat.lt_of_lt_of_le S5_0 hb.size
    replace B6_0 := bx_below B6_0 S6_0 hb
    replace S6_0 := Nat.lt_of_lt_of_le S6_0 hb.size
    replace P0 : Hid (shSub.Rd w7 w.heap.size g0 [.int .i64 y0a, .int .i64 y0b, .bool y0c, .int .i64 y0d, .int .i64 y0e, .int .i64 y0f, .int .i64 y0g, .int .i64 y0h, .int .i64 y0i, .slice y0j y0q y0r, .int .i64 y0k, .int .i64 y0l, .slice y0m y0s y0t, .int .i64 y0n, .int .i64 y0o, .int .i64 y0p]) := Sh.Rd.below P0.out (by have := Z1.out; have := Z2.out; have := Z3.out; have := Z4.out; have := Z5.out; have := Z6.out; have := Z7.out; omega) hb
    replace X3 : Hid _ := Own.below X3.out (by have := Z1.out; have := Z2.out; have := Z3.out; have := Z4.out; have := Z5.out; have := Z6.out; have := Z7.out; omega) hb
    replace X4 : Hid _ := Own.below X4.out (by have := Z1.out; have := Z2.out; have := Z3.out; have := Z4.out; have := Z5.out; have := Z6.out; have := Z7.out; omega) hb
    replace X5 : Hid _ := Own.below X5.out (by have := Z1.out; have := Z2.out; have := Z3.out; have := Z4.out; have := Z5.out; have := Z6.out; have := Z7.out; omega) hb
    replace HW : Hid _ := HW.out.trans (hb.mono HW.out.size)
    clear hb
    as_aux_lemma =>
    go_wp2_with fail
    refine (lMarkSubV g0 u4a u4b u4c u4d u4e u4f u4g u4h u4i u4j u4q u4r u4k u4l u4m u4s u4t u4n u4o u4p (1) _ _ _ (Own.subO X4.out) (by omega) (by omega) (by omega)).mono ?_
    rintro e w8 ⟨rfl, ho, hw⟩
    have Z8 : Hid (w7.heap.size ≤ w8.heap.size) := hw.size
    replace B1_0 := bx_keep B1_0 (hw.block _ S1_0 (by have := Z1.out; have := Z2.out; have := Z3.out; have := Z4.out; have := Z5.out; have := Z6.out; have := Z7.out; have := Z8.out; omega))
    replace S1_0 := Nat.lt_of_lt_of_le S1_0 hw.size
    replace B4_0 := bx_keep B4_0 (hw.block _ S4_0 (by have := Z1.out; have := Z2.out; have := Z3.out; have := Z4.out; have := Z5.out; have := Z6.out; have := Z7.out; have := Z8.out; omega))
    replace S4_0 := Nat.lt_of_lt_of_le S4_0 hw.size
    replace B5_0 := bx_keep B5_0 (hw.block _ S5_0 (by have := Z1.out; have := Z2.out; have := Z3.out; have := Z4.out; have := Z5.out; have := Z6.out; have := Z7.out; have := Z8.out; omega))
    replace S5_0 := Nat.lt_of_lt_of_le S5_0 hw.size
    replace B6_0 := bx_keep B6_0 (hw.block _ S6_0 (by have := Z1.out; have := Z2.out; have := Z3.out; have := Z4.out; have := Z5.out; have := Z6.out; have := Z7.out; have := Z8.out; omega))
    replace S6_0 := Nat.lt_of_lt_of_le S6_0 hw.size
    replace P0 : Hid (shSub.Rd w8 w.heap.size g0 [.int .i64 y0a, .int .i64 y0b, .bool y0c, .int .i64 y0d, .int .i64 y0e, .int .i64 y0f, .int .i64 y0g, .int .i64 y0h, .int .i64 y0i, .slice y0j y0q y0r, .int .i64 y0k, .int .i64 y0l, .slice y0m y0s y0t, .int .i64 y0n, .int .i64 y0o, .int .i64 y0p]) := Sh.Rd.keep (fun b hb => hw.block b (by have := Z1.out; have := Z2.out; have := Z3.out; have := Z4.out; have := Z5.out; have := Z6.out; have := Z7.out; have := Z8.out; omega) (by have := Z1.out; have := Z2.out; have := Z3.out; have := Z4.out; have := Z5.out; have := Z6.out; have := Z7.out; have := Z8.out; omega)) _ _ _ P0.out
    replace X3 : Hid _ := Own.keep X3.out (fun b h1 h2 => hw.block b (by have := Z1.out; have := Z2.out; have := Z3.out; have := Z4.out; have := Z5.out; have := Z6.out; have := Z7.out; have := Z8.out; omega) (by have := Z1.out; have := Z2.out; have := Z3.out; have := Z4.out; have := Z5.out; have := Z6.out; have := Z7.out; have := Z8.out; omega))
    replace X5 : Hid _ := Own.keep X5.out (fun b h1 h2 => hw.block b (by have := Z1.out; have := Z2.out; have := Z3.out; have := Z4.out; have := Z5.out; have := Z6.out; have := Z7.out; have := Z8.out; omega) (by have := Z1.out; have := Z2.out; have := Z3.out; have := Z4.out; have := Z5.out; have := Z6.out; have := Z7.out; have := Z8.out; omega))
    replace X4 : Hid _ := ho
    replace HW : Hid _ := within_below HW.out hw (by have := Z1.out; have := Z2.out; have := Z3.out; have := Z4.out; have := Z5.out; have := Z6.out; have := Z7.out; have := Z8.out; omega) HW.out.size
    clear ho hw
    clear X4
    have hk1 : 0 ≤ (1 : Int) + ((wtSub g0 : Nat) : Int) := by omega
    have hk2 : decide ((1 : Int) + ((wtSub g0 : Nat) : Int) < 0) = false := by simp; omega
    as_aux_lemma =>
    go_upto_region 14 with fail
    as_aux_lemma =>
    go_wp2_with fail
    refine (lEqSubResultV C V u5a u5b u5c u5d u5e u5f u5g u5h u5i u5j u5q u5r u5k u5l u5m u5s u5t u5n u5o u5p u3a u3b u3c u3d u3e u3f u3g u3h u3i u3j u3q u3r u3k u3l u3m u3s u3t u3n u3o u3p _ _ (Sh.Rd.mono (by have := Z1.out; have := Z2.out; have := Z3.out; have := Z4.out; have := Z5.out; have := Z6.out; have := Z7.out; have := Z8.out; first | exact Nat.le_refl _ | omega | (simp; done) | (simp; omega)) _ _ _ (Sh.Rd.below (B := w8.heap.size) (C := w8.heap.size) (Own.rd X5.out (Nat.le_refl _)) (Nat.le_refl _) (by first | exact Below.refl _ _ | go_grown | exact Below.drew (Below.refl _ _)))) (Sh.Rd.mono (by have := Z1.out; have := Z2.out; have := Z3.out; have := Z4.out; have := Z5.out; have := Z6.out; have := Z7.out; have := Z8.out; first | exact Nat.le_refl _ | omega | (simp; done) | (simp; omega)) _ _ _ (Sh.Rd.below (B := w8.heap.size) (C := w8.heap.size) (Own.rd X3.out (Nat.le_refl _)) (Nat.le_refl _) (by first | exact Below.refl _ _ | go_grown | exact Below.drew (Below.refl _ _)))) (Nat.le_refl _) VT.out).mono ?_
    rintro e w9 ⟨rfl, hb⟩
    have Z9 : Hid (w8.heap.size ≤ w9.heap.size) := hb.size
    replace B1_0 := bx_below B1_0 S1_0 hb
    replace S1_0 := Nat.lt_of_lt_of_le S1_0 hb.size
    replace B4_0 := bx_below B4_0 S4_0 hb
    replace S4_0 := Nat.lt_of_lt_of_le S4_0 hb.size
    replace B5_0 := bx_below B5_0 S5_0 hb
    replace S5_0 := Nat.lt_of_lt_of_le S5_0 hb.size
    replace B6_0 := bx_below B6_0 S6_0 hb
    replace S6_0 := Nat.lt_of_lt_of_le S6_0 hb.size
    replace P0 : Hid (shSub.Rd w9 w.heap.size g0 [.int .i64 y0a, .int .i64 y0b, .bool y0c, .int .i64 y0d, .int .i64 y0e, .int .i64 y0f, .int .i64 y0g, .int .i64 y0h, .int .i64 y0i, .slice y0j y0q y0r, .int .i64 y0k, .int .i64 y0l, .slice y0m y0s y0t, .int .i64 y0n, .int .i64 y0o, .int .i64 y0p]) := Sh.Rd.below P0.out (by have := Z1.out; have := Z2.out; have := Z3.out; have := Z4.out; have := Z5.out; have := Z6.out; have := Z7.out; have := Z8.out; have := Z9.out; omega) hb
    replace X3 : Hid _ := Own.below X3.out (by have := Z1.out; have := Z2.out; have := Z3.out; have := Z4.out; have := Z5.out; have := Z6.out; have := Z7.out; have := Z8.out; have := Z9.out; omega) hb
    replace X5 : Hid _ := Own.below X5.out (by have := Z1.out; have := Z2.out; have := Z3.out; have := Z4.out; have := Z5.out; have := Z6.out; have := Z7.out; have := Z8.out; have := Z9.out; omega) hb
    replace HW : Hid _ := HW.out.trans (hb.mono HW.out.size)
    clear hb
    as_aux_lemma =>
    go_wp2_with fail
    refine (lMarkSubResultV C V u5a u5b u5c u5d u5e u5f u5g u5h u5i u5j u5q u5r u5k u5l u5m u5s u5t u5n u5o u5p 1 _ _ _ X5.out (by first | exact Nat.le_refl _ | omega) VT.out (by omega) (by omega)).mono ?_
    rintro e w10 ⟨rfl, ho, hw⟩
    have Z10 : Hid (w9.heap.size ≤ w10.heap.size) := hw.size
    replace B1_0 := bx_keep B1_0 (hw.block _ S1_0 (by have := Z1.out; have := Z2.out; have := Z3.out; have := Z4.out; have := Z5.out; have := Z6.out; have := Z7.out; have := Z8.out; have := Z9.out; have := Z10.out; omega))
    replace S1_0 := Nat.lt_of_lt_of_le S1_0 hw.size
    replace B4_0 := bx_keep B4_0 (hw.block _ S4_0 (by have := Z1.out; have := Z2.out; have := Z3.out; have := Z4.out; have := Z5.out; have := Z6.out; have := Z7.out; have := Z8.out; have := Z9.out; have := Z10.out; omega))
    replace S4_0 := Nat.lt_of_lt_of_le S4_0 hw.size
    replace B5_0 := bx_keep B5_0 (hw.block _ S5_0 (by have := Z1.out; have := Z2.out; have := Z3.out; have := Z4.out; have := Z5.out; have := Z6.out; have := Z7.out; have := Z8.out; have := Z9.out; have := Z10.out; omega))
    replace S5_0 := Nat.lt_of_lt_of_le S5_0 hw.size
    replace B6_0 := bx_keep B6_0 (hw.block _ S6_0 (by have := Z1.out; have := Z2.out; have := Z3.out; have := Z4.out; have := Z5.out; have := Z6.out; have := Z7.out; have := Z8.out; have := Z9.out; have := Z10.out; omega))
    replace S6_0 := Nat.lt_of_lt_of_le S6_0 hw.size
    replace P0 : Hid (shSub.Rd w10 w.heap.size g0 [.int .i64 y0a, .int .i64 y0b, .bool y0c, .int .i64 y0d, .int .i64 y0e, .int .i64 y0f, .int .i64 y0g, .int .i64 y0h, .int .i64 y0i, .slice y0j y0q y0r, .int .i64 y0k, .int .i64 y0l, .slice y0m y0s y0t, .int .i64 y0n, .int .i64 y0o, .int .i64 y0p]) := Sh.Rd.keep (fun b hb => hw.block b (by have := Z1.out; have := Z2.out; have := Z3.out; have := Z4.out; have := Z5.out; have := Z6.out; have := Z7.out; have := Z8.out; have := Z9.out; have := Z10.out; omega) (by have := Z1.out; have := Z2.out; have := Z3.out; have := Z4.out; have := Z5.out; have := Z6.out; have := Z7.out; have := Z8.out; have := Z9.out; have := Z10.out; omega)) _ _ _ P0.out
    replace X3 : Hid _ := Own.keep X3.out (fun b h1 h2 => hw.block b (by have := Z1.out; have := Z2.out; have := Z3.out; have := Z4.out; have := Z5.out; have := Z6.out; have := Z7.out; have := Z8.out; have := Z9.out; have := Z10.out; omega) (by have := Z1.out; have := Z2.out; have := Z3.out; have := Z4.out; have := Z5.out; have := Z6.out; have := Z7.out; have := Z8.out; have := Z9.out; have := Z10.out; omega))
    replace X5 : Hid _ := ho
    replace HW : Hid _ := within_below HW.out hw (by have := Z1.out; have := Z2.out; have := Z3.out; have := Z4.out; have := Z5.out; have := Z6.out; have := Z7.out; have := Z8.out; have := Z9.out; have := Z10.out; omega) HW.out.size
    clear ho hw
    as_aux_lemma =>
    go_wp2_with fail
    refine (lHeldSubResultV C V u5a u5b u5c u5d u5e u5f u5g u5h u5i u5j u5q u5r u5k u5l u5m u5s u5t u5n u5o u5p 1 _ _ (Sh.Rd.mono (by have := Z1.out; have := Z2.out; have := Z3.out; have := Z4.out; have := Z5.out; have := Z6.out; have := Z7.out; have := Z8.out; have := Z9.out; have := Z10.out; first | exact Nat.le_refl _ | omega | (simp; done) | (simp; omega)) _ _ _ (Sh.Rd.below (B := w10.heap.size) (C := w10.heap.size) (Own.rd X5.out (Nat.le_refl _)) (Nat.le_refl _) (by first | exact Below.refl _ _ | go_grown | exact Below.drew (Below.refl _ _)))) (Nat.le_refl _) VT.out (by omega) (by omega)).mono ?_
    rintro e w11 ⟨rfl, hb⟩
    have Z11 : Hid (w10.heap.size ≤ w11.heap.size) := hb.size
    replace B1_0 := bx_below B1_0 S1_0 hb
    replace S1_0 := Nat.lt_of_lt_of_le S1_0 hb.size
    replace B4_0 := bx_below B4_0 S4_0 hb
    replace S4_0 := Nat.lt_of_lt_of_le S4_0 hb.size
    replace B5_0 := bx_below B5_0 S5_0 hb
    replace S5_0 := Nat.lt_of_lt_of_le S5_0 hb.size
    replace B6_0 := bx_below B6_0 S6_0 hb
    replace S6_0 := Nat.lt_of_lt_of_le S6_0 hb.size
    replace P0 : Hid (shSub.Rd w11 w.heap.size g0 [.int .i64 y0a, .int .i64 y0b, .bool y0c, .int .i64 y0d, .int .i64 y0e, .int .i64 y0f, .int .i64 y0g, .int .i64 y0h, .int .i64 y0i, .slice y0j y0q y0r, .int .i64 y0k, .int .i64 y0l, .slice y0m y0s y0t, .int .i64 y0n, .int .i64 y0o, .int .i64 y0p]) := Sh.Rd.below P0.out (by have := Z1.out; have := Z2.out; have := Z3.out; have := Z4.out; have := Z5.out; have := Z6.out; have := Z7.out; have := Z8.out; have := Z9.out; have := Z10.out; have := Z11.out; omega) hb
    replace X3 : Hid _ := Own.below X3.out (by have := Z1.out; have := Z2.out; have := Z3.out; have := Z4.out; have := Z5.out; have := Z6.out; have := Z7.out; have := Z8.out; have := Z9.out; have := Z10.out; have := Z11.out; omega) hb
    replace X5 : Hid _ := Own.below X5.out (by have := Z1.out; have := Z2.out; have := Z3.out; have := Z4.out; have := Z5.out; have := Z6.out; have := Z7.out; have := Z8.out; have := Z9.out; have := Z10.out; have := Z11.out; omega) hb
    replace HW : Hid _ := HW.out.trans (hb.mono HW.out.size)
    clear hb
    as_aux_lemma =>
    go_wp2_with fail
    refine (lToSubV g0 y0a y0b y0c y0d y0e y0f y0g y0h y0i y0j y0q y0r y0k y0l y0m y0s y0t y0n y0o y0p _ w.heap.size (Sh.Rd.below (C := w11.heap.size) P0.out (by have := Z1.out; have := Z2.out; have := Z3.out; have := Z4.out; have := Z5.out; have := Z6.out; have := Z7.out; have := Z8.out; have := Z9.out; have := Z10.out; have := Z11.out; first | omega | (simp; done) | (simp; omega)) (by first | exact Below.refl _ _ | go_grown | exact Below.drew (Below.refl _ _))) (by have := Z1.out; have := Z2.out; have := Z3.out; have := Z4.out; have := Z5.out; have := Z6.out; have := Z7.out; have := Z8.out; have := Z9.out; have := Z10.out; have := Z11.out; first | omega | (simp; done) | (simp; omega)) (by omega)).mono ?_
    rintro e w12 ⟨u12a, u12b, u12c, u12d, u12e, u12f, u12g, u12h, u12i, u12j, u12q, u12r, u12k, u12l, u12m, u12s, u12t, u12n, u12o, u12p, rfl, ho, hb⟩
    skip
    have X12 : Hid (Own w12 (w11.heap.size) w12.heap.size shSub g0 [.int .i64 u12a, .int .i64 u12b, .bool u12c, .int .i64 u12d, .int .i64 u12e, .int .i64 u12f, .int .i64 u12g, .int .i64 u12h, .int .i64 u12i, .slice u12j u12q u12r, .int .i64 u12k, .int .i64 u12l, .slice u12m u12s u12t, .int .i64 u12n, .int .i64 u12o, .int .i64 u12p]) := Own.mono ho (by first | exact Nat.le_refl _ | (simp; done) | (simp; omega)) (Nat.le_refl _)
    clear ho
    have Z12 : Hid (w11.heap.size ≤ w12.heap.size) := hb.size
    replace B1_0 := bx_below B1_0 S1_0 hb
    replace S1_0 := Nat.lt_of_lt_of_le S1_0 hb.size
    replace B4_0 := bx_below B4_0 S4_0 hb
    replace S4_0 := Nat.lt_of_lt_of_le S4_0 hb.size
    replace B5_0 := bx_below B5_0 S5_0 hb
    replace S5_0 := Nat.lt_of_lt_of_le S5_0 hb.size
    replace B6_0 := bx_below B6_0 S6_0 hb
    replace S6_0 := Nat.lt_of_lt_of_le S6_0 hb.size
    replace P0 : Hid (shSub.Rd w12 w.heap.size g0 [.int .i64 y0a, .int .i64 y0b, .bool y0c, .int .i64 y0d, .int .i64 y0e, .int .i64 y0f, .int .i64 y0g, .int .i64 y0h, .int .i64 y0i, .slice y0j y0q y0r, .int .i64 y0k, .int .i64 y0l, .slice y0m y0s y0t, .int .i64 y0n, .int .i64 y0o, .int .i64 y0p]) := Sh.Rd.below P0.out (by have := Z1.out; have := Z2.out; have := Z3.out; have := Z4.out; have := Z5.out; have := Z6.out; have := Z7.out; have := Z8.out; have := Z9.out; have := Z10.out; have := Z11.out; have := Z12.out; omega) hb
    replace X3 : Hid _ := Own.below X3.out (by have := Z1.out; have := Z2.out; have := Z3.out; have := Z4.out; have := Z5.out; have := Z6.out; have := Z7.out; have := Z8.out; have := Z9.out; have := Z10.out; have := Z11.out; have := Z12.out; omega) hb
    replace X5 : Hid _ := Own.below X5.out (by have := Z1.out; have := Z2.out; have := Z3.out; have := Z4.out; have := Z5.out; have := Z6.out; have := Z7.out; have := Z8.out; have := Z9.out; have := Z10.out; have := Z11.out; have := Z12.out; omega) hb
    replace HW : Hid _ := HW.out.trans (hb.mono HW.out.size)
    clear hb
    as_aux_lemma =>
    go_wp2_with fail
    refine (CI.out _ _ u12a u12b u12c u12d u12e u12f u12g u12h u12i u12j u12q u12r u12k u12l u12m u12s u12t u12n u12o u12p (Sh.Rd.mono (by have := Z1.out; have := Z2.out; have := Z3.out; have := Z4.out; have := Z5.out; have := Z6.out; have := Z7.out; have := Z8.out; have := Z9.out; have := Z10.out; have := Z11.out; have := Z12.out; first | exact Nat.le_refl _ | omega | (simp; done) | (simp; omega)) _ _ _ (Sh.Rd.below (B := w12.heap.size) (C := w12.heap.size) (Own.rd X12.out (Nat.le_refl _)) (Nat.le_refl _) (by first | exact Below.refl _ _ | go_grown | exact Below.drew (Below.refl _ _)))) (Nat.le_refl _) (by omega)).mono ?_
    rintro e w13 ⟨u13a, u13b, u13c, u13d, u13e, u13f, u13g, u13h, u13i, u13j, u13q, u13r, u13k, u13l, u13m, u13s, u13t, u13n, u13o, u13p, rfl, ho, hb⟩
    skip
    have X13 : Hid (Own w13 (w12.heap.size) w13.heap.size shSubO V [.int .i64 u13a, .int .i64 u13b, .bool u13c, .int .i64 u13d, .int .i64 u13e, .int .i64 u13f, .int .i64 u13g, .int .i64 u13h, .int .i64 u13i, .slice u13j u13q u13r, .int .i64 u13k, .int .i64 u13l, .slice u13m u13s u13t, .int .i64 u13n, .int .i64 u13o, .int .i64 u13p]) := Own.mono ho (by first | exact Nat.le_refl _ | (simp; done) | (simp; omega)) (Nat.le_refl _)
    clear ho
    have Z13 : Hid (w12.heap.size ≤ w13.heap.size) := hb.size
    replace B1_0 := bx_below B1_0 S1_0 hb
    replace S1_0 := Nat.lt_of_lt_of_le S1_0 hb.size
    replace B4_0 := bx_below B4_0 S4_0 hb
    replace S4_0 := Nat.lt_of_lt_of_le S4_0 hb.size
    replace B5_0 := bx_below B5_0 S5_0 hb
    replace S5_0 := Nat.lt_of_lt_of_le S5_0 hb.size
    replace B6_0 := bx_below B6_0 S6_0 hb
    replace S6_0 := Nat.lt_of_lt_of_le S6_0 hb.size
    replace P0 : Hid (shSub.Rd w13 w.heap.size g0 [.int .i64 y0a, .int .i64 y0b, .bool y0c, .int .i64 y0d, .int .i64 y0e, .int .i64 y0f, .int .i64 y0g, .int .i64 y0h, .int .i64 y0i, .slice y0j y0q y0r, .int .i64 y0k, .int .i64 y0l, .slice y0m y0s y0t, .int .i64 y0n, .int .i64 y0o, .int .i64 y0p]) := Sh.Rd.below P0.out (by have := Z1.out; have := Z2.out; have := Z3.out; have := Z4.out; have := Z5.out; have := Z6.out; have := Z7.out; have := Z8.out; have := Z9.out; have := Z10.out; have := Z11.out; have := Z12.out; have := Z13.out; omega) hb
    replace X3 : Hid _ := Own.below X3.out (by have := Z1.out; have := Z2.out; have := Z3.out; have := Z4.out; have := Z5.out; have := Z6.out; have := Z7.out; have := Z8.out; have := Z9.out; have := Z10.out; have := Z11.out; have := Z12.out; have := Z13.out; omega) hb
    replace X5 : Hid _ := Own.below X5.out (by have := Z1.out; have := Z2.out; have := Z3.out; have := Z4.out; have := Z5.out; have := Z6.out; have := Z7.out; have := Z8.out; have := Z9.out; have := Z10.out; have := Z11.out; have := Z12.out; have := Z13.out; omega) hb
    replace X12 : Hid _ := Own.below X12.out (by have := Z1.out; have := Z2.out; have := Z3.out; have := Z4.out; have := Z5.out; have := Z6.out; have := Z7.out; have := Z8.out; have := Z9.out; have := Z10.out; have := Z11.out; have := Z12.out; have := Z13.out; omega) hb
    replace HW : Hid _ := HW.out.trans (hb.mono HW.out.size)
    clear hb
    clear X12
    as_aux_lemma =>
    go_upto_region 25 with fail
    as_aux_lemma =>
    go_wp2_with fail
    refine (lEqSubResultV C V u13a u13b u13c u13d u13e u13f u13g u13h u13i u13j u13q u13r u13k u13l u13m u13s u13t u13n u13o u13p u3a u3b u3c u3d u3e u3f u3g u3h u3i u3j u3q u3r u3k u3l u3m u3s u3t u3n u3o u3p _ _ (Sh.Rd.mono (by have := Z1.out; have := Z2.out; have := Z3.out; have := Z4.out; have := Z5.out; have := Z6.out; have := Z7.out; have := Z8.out; have := Z9.out; have := Z10.out; have := Z11.out; have := Z12.out; have := Z13.out; first | exact Nat.le_refl _ | omega | (simp; done) | (simp; omega)) _ _ _ (Sh.Rd.below (B := w13.heap.size) (C := w13.heap.size) (Own.rd X13.out (Nat.le_refl _)) (Nat.le_refl _) (by first | exact Below.refl _ _ | go_grown | exact Below.drew (Below.refl _ _)))) (Sh.Rd.mono (by have := Z1.out; have := Z2.out; have := Z3.out; have := Z4.out; have := Z5.out; have := Z6.out; have := Z7.out; have := Z8.out; have := Z9.out; have := Z10.out; have := Z11.out; have := Z12.out; have := Z13.out; first | exact Nat.le_refl _ | omega | (simp; done) | (simp; omega)) _ _ _ (Sh.Rd.below (B := w13.heap.size) (C := w13.heap.size) (Own.rd X3.out (Nat.le_refl _)) (Nat.le_refl _) (by first | exact Below.refl _ _ | go_grown | exact Below.drew (Below.refl _ _)))) (Nat.le_refl _) VT.out).mono ?_
    rintro e w14 ⟨rfl, hb⟩
    have B14_0 := bx_new hb
    obtain ⟨hb, S14_0⟩ := bl_new hb
    have Z14 : Hid (w13.heap.size < w14.heap.size) := S14_0
    replace B1_0 := bx_below B1_0 S1_0 hb
    replace S1_0 := Nat.lt_of_lt_of_le S1_0 hb.size
    replace B4_0 := bx_below B4_0 S4_0 hb
    replace S4_0 := Nat.lt_of_lt_of_le S4_0 hb.size
    replace B5_0 := bx_below B5_0 S5_0 hb
    replace S5_0 := Nat.lt_of_lt_of_le S5_0 hb.size
    replace B6_0 := bx_below B6_0 S6_0 hb
    replace S6_0 := Nat.lt_of_lt_of_le S6_0 hb.size
    replace P0 : Hid (shSub.Rd w14 w.heap.size g0 [.int .i64 y0a, .int .i64 y0b, .bool y0c, .int .i64 y0d, .int .i64 y0e, .int .i64 y0f, .int .i64 y0g, .int .i64 y0h, .int .i64 y0i, .slice y0j y0q y0r, .int .i64 y0k, .int .i64 y0l, .slice y0m y0s y0t, .int .i64 y0n, .int .i64 y0o, .int .i64 y0p]) := Sh.Rd.below P0.out (by have := Z1.out; have := Z2.out; have := Z3.out; have := Z4.out; have := Z5.out; have := Z6.out; have := Z7.out; have := Z8.out; have := Z9.out; have := Z10.out; have := Z11.out; have := Z12.out; have := Z13.out; have := Z14.out; omega) hb
    replace X3 : Hid _ := Own.below X3.out (by have := Z1.out; have := Z2.out; have := Z3.out; have := Z4.out; have := Z5.out; have := Z6.out; have := Z7.out; have := Z8.out; have := Z9.out; have := Z10.out; have := Z11.out; have := Z12.out; have := Z13.out; have := Z14.out; omega) hb
    replace X5 : Hid _ := Own.below X5.out (by have := Z1.out; have := Z2.out; have := Z3.out; have := Z4.out; have := Z5.out; have := Z6.out; have := Z7.out; have := Z8.out; have := Z9.out; have := Z10.out; have := Z11.out; have := Z12.out; have := Z13.out; have := Z14.out; omega) hb
    replace X13 : Hid _ := Own.below X13.out (by have := Z1.out; have := Z2.out; have := Z3.out; have := Z4.out; have := Z5.out; have := Z6.out; have := Z7.out; have := Z8.out; have := Z9.out; have := Z10.out; have := Z11.out; have := Z12.out; have := Z13.out; have := Z14.out; omega) hb
    replace HW : Hid _ := HW.out.trans (hb.mono HW.out.size)
    clear hb
    as_aux_lemma =>
    go_wp2_with fail
    refine (lHeldSubResultV C V u5a u5b u5c u5d u5e u5f u5g u5h u5i u5j u5q u5r u5k u5l u5m u5s u5t u5n u5o u5p 1 _ _ (Sh.Rd.mono (by have := Z1.out; have := Z2.out; have := Z3.out; have := Z4.out; have := Z5.out; have := Z6.out; have := Z7.out; have := Z8.out; have := Z9.out; have := Z10.out; have := Z11.out; have := Z12.out; have := Z13.out; have := Z14.out; first | exact Nat.le_refl _ | omega | (simp; done) | (simp; omega)) _ _ _ (Sh.Rd.below (B := w14.heap.size) (C := w14.heap.size) (Own.rd X5.out (Nat.le_refl _)) (Nat.le_refl _) (by first | exact Below.refl _ _ | go_grown | exact Below.drew (Below.refl _ _)))) (Nat.le_refl _) VT.out (by omega) (by omega)).mono ?_
    rintro e w15 ⟨rfl, hb⟩
    have Z15 : Hid (w14.heap.size ≤ w15.heap.size) := hb.size
    replace B1_0 := bx_below B1_0 S1_0 hb
    replace S1_0 := Nat.lt_of_lt_of_le S1_0 hb.size
    replace B4_0 := bx_below B4_0 S4_0 hb
    replace S4_0 := Nat.lt_of_lt_of_le S4_0 hb.size
    replace B5_0 := bx_below B5_0 S5_0 hb
    replace S5_0 := Nat.lt_of_lt_of_le S5_0 hb.size
    replace B6_0 := bx_below B6_0 S6_0 hb
    replace S6_0 := Nat.lt_of_lt_of_le S6_0 hb.size
    replace B14_0 := bx_below B14_0 S14_0 hb
    replace S14_0 := Nat.lt_of_lt_of_le S14_0 hb.size
    replace P0 : Hid (shSub.Rd w15 w.heap.size g0 [.int .i64 y0a, .int .i64 y0b, .bool y0c, .int .i64 y0d, .int .i64 y0e, .int .i64 y0f, .int .i64 y0g, .int .i64 y0h, .int .i64 y0i, .slice y0j y0q y0r, .int .i64 y0k, .int .i64 y0l, .slice y0m y0s y0t, .int .i64 y0n, .int .i64 y0o, .int .i64 y0p]) := Sh.Rd.below P0.out (by have := Z1.out; have := Z2.out; have := Z3.out; have := Z4.out; have := Z5.out; have := Z6.out; have := Z7.out; have := Z8.out; have := Z9.out; have := Z10.out; have := Z11.out; have := Z12.out; have := Z13.out; have := Z14.out; have := Z15.out; omega) hb
    replace X3 : Hid _ := Own.below X3.out (by have := Z1.out; have := Z2.out; have := Z3.out; have := Z4.out; have := Z5.out; have := Z6.out; have := Z7.out; have := Z8.out; have := Z9.out; have := Z10.out; have := Z11.out; have := Z12.out; have := Z13.out; have := Z14.out; have := Z15.out; omega) hb
    replace X5 : Hid _ := Own.below X5.out (by have := Z1.out; have := Z2.out; have := Z3.out; have := Z4.out; have := Z5.out; have := Z6.out; have := Z7.out; have := Z8.out; have := Z9.out; have := Z10.out; have := Z11.out; have := Z12.out; have := Z13.out; have := Z14.out; have := Z15.out; omega) hb
    replace X13 : Hid _ := Own.below X13.out (by have := Z1.out; have := Z2.out; have := Z3.out; have := Z4.out; have := Z5.out; have := Z6.out; have := Z7.out; have := Z8.out; have := Z9.out; have := Z10.out; have := Z11.out; have := Z12.out; have := Z13.out; have := Z14.out; have := Z15.out; omega) hb
    replace HW : Hid _ := HW.out.trans (hb.mono HW.out.size)
    clear hb
    as_aux_lemma =>
    go_wp2_with fail
    go_ret
    exact ⟨rfl, HW.out⟩

set_option maxRecDepth 100000 in
theorem lifted (os : Os) (started : os.Started) (H : Type) (enc : TypeId × Value → H) :
    ReturnsInHanded {} Try.checked os 5 .any (Rows.fnExactCloseSubSpec.pre6 enc Try.prog Try.f5 Rows.fnExactCloseSubRow.domain false) (Rows.fnExactCloseSubSpec.post enc Try.prog Try.f5 false true false false) := by
  refine returnsInHanded_of_change (C := Try.checked) own started (by kernel_rfl) Try.func5
    (ChangeSpec.witness6 (enc := enc) (C := Try.checked) false ⟨#[], #[.agg #[.int .i64 0, .int .i64 0, .bool false, .int .i64 0, .int .i64 0, .int .i64 0, .int .i64 0, .int .i64 0, .int .i64 0, .slice none 0 0, .int .i64 0, .int .i64 0, .slice none 0 0, .int .i64 0, .int .i64 0, .int .i64 0]], []⟩ 8 (by kernel_rfl) (by kernel_rfl) (by kernel_rfl) (by kernel_rfl)) ?_
  intro W base args ds gs before hval0 hW hcnd _
  have hval : ∀ (j : Nat) t v, Try.f5.params[j]? = some t → args[j]? = some v → Value.okWide Try.prog W .any base t v := hval0
  have hW' := hW
  obtain ⟨p, q, hA0, hV, rfl, hfz, hnd⟩ := hW
  have hA : DataW.TrodAll enc Try.prog W 0 (fun _ => true) true Try.f5.params.toList args.toList ds p := hA0
  rw [Try.params5] at hA hval
  obtain ⟨v0, vs0, d0, ds0, p0, q0, hargs, rfl, rfl, h0, r0⟩ := trodAll_cons hA
  obtain ⟨rfl, rfl, rfl⟩ := trodAll_nil r0
  obtain rfl : args = #[v0] := by cases args; simp_all
  obtain ⟨rfl, rfl⟩ := trodVars_none hV
  have lt0 : ∀ x ∈ p0, x.block < W.heap.size := by obtain ⟨m, hm⟩ := h0; exact DataW.trod_lt m _ _ _ hm
  have t0 : ∃ n y, DataW.trod enc Try.prog W 0 (fun _ => true) true n 31 v0.cells.toList = some y := by obtain ⟨m, hm⟩ := h0; exact ⟨m, _, hm⟩
  refine (walk enc v0 W base (hval 0 31 v0 rfl rfl) t0).mono fun e W' ⟨he, bel⟩ => ?_
  subst he
  exact ⟨_, rfl, _, _, _, [], _, [], hW', trodAll_mk1 (shut_bool Try.underlying4 _), (trodAll_cons_mk (Below.trod laidOut (by kernel_rfl) (of_decide_eq_true (by kernel_rfl)) h0 bel lt0) trodAll_mk0), rfl, bel.frame _, fun h => by cases h⟩

theorem over : Rows.fnExactCloseSubRow.holds Try.pinned (OpenSpec.ofChange Rows.fnExactCloseSubSpec) :=
  OpenClaim.holds_of_wide 5 Try.f5 rfl rfl rfl rfl rfl rfl rfl ⟨rfl, rfl, rfl, rfl, rfl⟩ rfl rfl rfl rfl rfl (by kernel_rfl) Try.func5 (by kernel_rfl)
    (of_decide_eq_true (by kernel_rfl)) (by unfold Func.isWrapper; first | (rw [if_pos (by decide +kernel)]; kernel_rfl) | (rw [if_neg (by decide +kernel)]; exact ⟨rfl, rfl⟩))
    (fun os started H enc _ => lifted os started H enc)

theorem proved : Rows.FnExactCloseSubSaid := over
#print axioms proved
end Go.Proofs.Ytlicopeejphgaao.fnExactCloseSub

namespace Go.Proofs.Ytlicopeejphgaao
theorem fnExactCloseSub_holds : Rows.FnExactCloseSubSaid := fnExactCloseSub.proved
end Go.Proofs.Ytlicopeejphgaao
