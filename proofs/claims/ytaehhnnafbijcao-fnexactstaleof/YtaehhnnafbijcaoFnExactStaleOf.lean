/- Proved: at every sub the program's StaleOf answers as its model does, code and number, and the sub is as it was; no condition. -/
import Derived.Test.YtaehhnnafbijcaoRows
import Derived.WalkKit
import Derived.ProofKit
import Derived.OpenShut
import Derived.ShutString
import Derived.ChangeOld
import Derived.Below
import Derived.Test.YtaehhnnafbijcaoBase
import Derived.Test.YtaehhnnafbijcaoBytes
import Derived.Test.YtaehhnnafbijcaoMem
import Derived.Test.YtaehhnnafbijcaoMemOpen
import Derived.Test.YtaehhnnafbijcaoMemRow
import Derived.Test.YtaehhnnafbijcaoHBase
import Derived.Test.YtaehhnnafbijcaoHFlight
import Derived.Test.YtaehhnnafbijcaoHSender
import Derived.Test.YtaehhnnafbijcaoHSpan
import Derived.Test.YtaehhnnafbijcaoHCatch
import Derived.Test.YtaehhnnafbijcaoHOpen0
import Derived.Test.YtaehhnnafbijcaoBox
import Derived.Test.YtaehhnnafbijcaoNum
import Derived.Test.YtaehhnnafbijcaoNumWalks
import Derived.Test.YtaehhnnafbijcaoUnwrap
import Derived.Test.YtaehhnnafbijcaoFlightDef
import Derived.Test.YtaehhnnafbijcaoCatDef
import Derived.Test.YtaehhnnafbijcaoCtrl
import Derived.Test.YtaehhnnafbijcaoCtrl2
import Derived.Test.YtaehhnnafbijcaoSubBox
import Derived.Test.YtaehhnnafbijcaoHSub
import Derived.Test.YtaehhnnafbijcaoHOpenS
import Derived.Test.YtaehhnnafbijcaoHSubV
import Derived.Test.YtaehhnnafbijcaoSubDef
import Derived.Test.YtaehhnnafbijcaoSpecFlight
import Derived.Test.YtaehhnnafbijcaoImplFlight
import Derived.Test.YtaehhnnafbijcaoCatSpec
import Derived.Test.YtaehhnnafbijcaoCatImpl
import Derived.Test.YtaehhnnafbijcaoSubSpec
import Derived.Test.YtaehhnnafbijcaoSubSpec2
import Derived.Test.YtaehhnnafbijcaoSubImpl
import Derived.Test.YtaehhnnafbijcaoIter
import Derived.Test.YtaehhnnafbijcaoFlCells
import Derived.Test.YtaehhnnafbijcaoSubImpl2
import Derived.Test.YtaehhnnafbijcaoSubV1
namespace Go.Proofs.Ytaehhnnafbijcao.fnExactStaleOf
open Go.ChangeShapes Go.WideShapes Go.ChangeAt Go.RowKit
set_option linter.unusedVariables false

theorem own : ownKnob Try.prog.godebug = none := by kernel_rfl
theorem laidOut : laidOutB Try.prog = true := by kernel_rfl


set_option maxHeartbeats 8000000 in
set_option maxRecDepth 8000 in
theorem walk {H : Type} (enc : TypeId × Value → H) (v0 : Value) (w : World) (base : Nat)
    (o0 : Value.okWide Try.prog w .any base 31 v0) (t0 : ∃ n y, DataW.trod enc Try.prog w 0 (fun _ => true) true n 31 v0.cells.toList = some y) :
    Calls Try.prog 4 #[v0] w fun e w' => e = .returned (.bool true) ∧ Below w.heap.size w w' := by
  obtain ⟨g0, y0a, y0b, y0c, y0d, y0e, y0f, y0g, y0h, y0i, y0j, y0q, y0r, y0k, y0l, y0m, y0s, y0t, y0n, y0o, y0p, rfl, ho⟩ := open_SubV o0 t0
  skip
  have P0 : Hid (shSub.Rd w w.heap.size g0 [.int .i64 y0a, .int .i64 y0b, .bool y0c, .int .i64 y0d, .int .i64 y0e, .int .i64 y0f, .int .i64 y0g, .int .i64 y0h, .int .i64 y0i, .slice y0j y0q y0r, .int .i64 y0k, .int .i64 y0l, .slice y0m y0s y0t, .int .i64 y0n, .int .i64 y0o, .int .i64 y0p]) := ho
  clear ho
  clear o0 t0
  have HW : Hid (Below w.heap.size w w) := Below.refl _ _
  obtain ⟨T0, hT0⟩ : ∃ T : Nat, T = totSub g0 := ⟨_, rfl⟩
  by_cases hbig0 : (1048576 : Int) < (T0 : Int)
  · go_enter Try.func4, Try.ntmps4
    as_aux_lemma =>
    go_wp2_with fail
    have c := fun W R hB => lSzSubV g0 y0a y0b y0c y0d y0e y0f y0g y0h y0i y0j y0q y0r y0k y0l y0m y0s y0t y0n y0o y0p 1048576 W w.heap.size R hB (by omega) (by omega)
    rw [← hT0, if_pos (show (1048576 : Int) < (T0 : Int) by omega)] at c
    refine (c _ (Sh.Rd.below (C := w.heap.size) P0.out (by first | omega | (simp; done) | (simp; omega)) (by first | exact Below.refl _ _ | go_grown | exact Below.drew (Below.refl _ _))) (by first | omega | (simp; done) | (simp; omega))).mono ?_
    rintro e w1 ⟨rfl, hb⟩
    clear c
    have B1_0 := bx_new hb
    obtain ⟨hb, S1_0⟩ := bl_new hb
    have Z1 : Hid (w.heap.size < w1.heap.size) := S1_0
    replace P0 : Hid (shSub.Rd w1 w.heap.size g0 [.int .i64 y0a, .int .i64 y0b, .bool y0c, .int .i64 y0d, .int .i64 y0e, .int .i64 y0f, .int .i64 y0g, .int .i64 y0h, .int .i64 y0i, .slice y0j y0q y0r, .int .i64 y0k, .int .i64 y0l, .slice y0m y0s y0t, .int .i64 y0n, .int .i64 y0o, .int .i64 y0p]) := Sh.Rd.below P0.out (by have := Z1.out; omega) hb
    replace HW : Hid _ := HW.out.trans (hb.mono HW.out.size)
    clear hb
    as_aux_lemma =>
    go_wp2_with fail
    go_ret
    exact ⟨rfl, HW.out⟩
  · skip
    go_enter Try.func4, Try.ntmps4
    as_aux_lemma =>
    go_wp2_with fail
    have c := fun W R hB => lSzSubV g0 y0a y0b y0c y0d y0e y0f y0g y0h y0i y0j y0q y0r y0k y0l y0m y0s y0t y0n y0o y0p 1048576 W w.heap.size R hB (by omega) (by omega)
    rw [← hT0, if_neg (show ¬ ((1048576 : Int) < (T0 : Int)) by omega)] at c
    refine (c _ (Sh.Rd.below (C := w.heap.size) P0.out (by first | omega | (simp; done) | (simp; omega)) (by first | exact Below.refl _ _ | go_grown | exact Below.drew (Below.refl _ _))) (by first | omega | (simp; done) | (simp; omega))).mono ?_
    rintro e w1 ⟨rfl, hb⟩
    clear c
    have B1_0 := bx_new hb
    obtain ⟨hb, S1_0⟩ := bl_new hb
    have Z1 : Hid (w.heap.size < w1.heap.size) := S1_0
    replace P0 : Hid (shSub.Rd w1 w.heap.size g0 [.int .i64 y0a, .int .i64 y0b, .bool y0c, .int .i64 y0d, .int .i64 y0e, .int .i64 y0f, .int .i64 y0g, .int .i64 y0h, .int .i64 y0i, .slice y0j y0q y0r, .int .i64 y0k, .int .i64 y0l, .slice y0m y0s y0t, .int .i64 y0n, .int .i64 y0o, .int .i64 y0p]) := Sh.Rd.below P0.out (by have := Z1.out; omega) hb
    replace HW : Hid _ := HW.out.trans (hb.mono HW.out.size)
    clear hb
    have hrest : ¬ ((1048576 : Int) - (T0 : Int) < 0) := by omega
    as_aux_lemma =>
    go_wp2_with fail
    refine (lToSubV g0 y0a y0b y0c y0d y0e y0f y0g y0h y0i y0j y0q y0r y0k y0l y0m y0s y0t y0n y0o y0p _ w.heap.size (Sh.Rd.below (C := w1.heap.size) P0.out (by have := Z1.out; first | omega | (simp; done) | (simp; omega)) (by first | exact Below.refl _ _ | go_grown | exact Below.drew (Below.refl _ _))) (by have := Z1.out; first | omega | (simp; done) | (simp; omega)) (by omega)).mono ?_
    rintro e w2 ⟨u2a, u2b, u2c, u2d, u2e, u2f, u2g, u2h, u2i, u2j, u2q, u2r, u2k, u2l, u2m, u2s, u2t, u2n, u2o, u2p, rfl, ho, hb⟩
    skip
    have X2 : Hid (Own w2 (w1.heap.size) w2.heap.size shSub g0 [.int .i64 u2a, .int .i64 u2b, .bool u2c, .int .i64 u2d, .int .i64 u2e, .int .i64 u2f, .int .i64 u2g, .int .i64 u2h, .int .i64 u2i, .slice u2j u2q u2r, .int .i64 u2k, .int .i64 u2l, .slice u2m u2s u2t, .int .i64 u2n, .int .i64 u2o, .int .i64 u2p]) := Own.mono ho (by first | exact Nat.le_refl _ | (simp; done) | (simp; omega)) (Nat.le_refl _)
    clear ho
    have Z2 : Hid (w1.heap.size ≤ w2.heap.size) := hb.size
    replace B1_0 := bx_below B1_0 S1_0 hb
    replace S1_0 := Nat.lt_of_lt_of_le S1_0 hb.size
    replace P0 : Hid (shSub.Rd w2 w.heap.size g0 [.int .i64 y0a, .int .i64 y0b, .bool y0c, .int .i64 y0d, .int .i64 y0e, .int .i64 y0f, .int .i64 y0g, .int .i64 y0h, .int .i64 y0i, .slice y0j y0q y0r, .int .i64 y0k, .int .i64 y0l, .slice y0m y0s y0t, .int .i64 y0n, .int .i64 y0o, .int .i64 y0p]) := Sh.Rd.below P0.out (by have := Z1.out; have := Z2.out; omega) hb
    replace HW : Hid _ := HW.out.trans (hb.mono HW.out.size)
    clear hb
    as_aux_lemma =>
    go_wp2_with fail
    refine (sStaleOfV g0 u2a u2b u2c u2d u2e u2f u2g u2h u2i u2j u2q u2r u2k u2l u2m u2s u2t u2n u2o u2p _ _ (Sh.Rd.mono (by have := Z1.out; have := Z2.out; first | exact Nat.le_refl _ | omega | (simp; done) | (simp; omega)) _ _ _ (Sh.Rd.below (B := w2.heap.size) (C := w2.heap.size) (Own.rd X2.out (Nat.le_refl _)) (Nat.le_refl _) (by first | exact Below.refl _ _ | go_grown | exact Below.drew (Below.refl _ _)))) (Nat.le_refl _) (by omega)).mono ?_
    rintro e w3 ⟨rfl, hb⟩
    have Z3 : Hid (w2.heap.size ≤ w3.heap.size) := hb.size
    replace B1_0 := bx_below B1_0 S1_0 hb
    replace S1_0 := Nat.lt_of_lt_of_le S1_0 hb.size
    replace P0 : Hid (shSub.Rd w3 w.heap.size g0 [.int .i64 y0a, .int .i64 y0b, .bool y0c, .int .i64 y0d, .int .i64 y0e, .int .i64 y0f, .int .i64 y0g, .int .i64 y0h, .int .i64 y0i, .slice y0j y0q y0r, .int .i64 y0k, .int .i64 y0l, .slice y0m y0s y0t, .int .i64 y0n, .int .i64 y0o, .int .i64 y0p]) := Sh.Rd.below P0.out (by have := Z1.out; have := Z2.out; have := Z3.out; omega) hb
    replace X2 : Hid _ := Own.below X2.out (by have := Z1.out; have := Z2.out; have := Z3.out; omega) hb
    replace HW : Hid _ := HW.out.trans (hb.mono HW.out.size)
    clear hb
    clear X2
    as_aux_lemma =>
    go_wp2_with fail
    refine (lToSubV g0 y0a y0b y0c y0d y0e y0f y0g y0h y0i y0j y0q y0r y0k y0l y0m y0s y0t y0n y0o y0p _ w.heap.size (Sh.Rd.below (C := w3.heap.size) P0.out (by have := Z1.out; have := Z2.out; have := Z3.out; first | omega | (simp; done) | (simp; omega)) (by first | exact Below.refl _ _ | go_grown | exact Below.drew (Below.refl _ _))) (by have := Z1.out; have := Z2.out; have := Z3.out; first | omega | (simp; done) | (simp; omega)) (by omega)).mono ?_
    rintro e w4 ⟨u4a, u4b, u4c, u4d, u4e, u4f, u4g, u4h, u4i, u4j, u4q, u4r, u4k, u4l, u4m, u4s, u4t, u4n, u4o, u4p, rfl, ho, hb⟩
    skip
    have X4 : Hid (Own w4 (w3.heap.size + 1) w4.heap.size shSub g0 [.int .i64 u4a, .int .i64 u4b, .bool u4c, .int .i64 u4d, .int .i64 u4e, .int .i64 u4f, .int .i64 u4g, .int .i64 u4h, .int .i64 u4i, .slice u4j u4q u4r, .int .i64 u4k, .int .i64 u4l, .slice u4m u4s u4t, .int .i64 u4n, .int .i64 u4o, .int .i64 u4p]) := Own.mono ho (by first | exact Nat.le_refl _ | (simp; done) | (simp; omega)) (Nat.le_refl _)
    clear ho
    have B4_0 := bx_new hb
    obtain ⟨hb, S4_0⟩ := bl_new hb
    have Z4 : Hid (w3.heap.size < w4.heap.size) := S4_0
    replace B1_0 := bx_below B1_0 S1_0 hb
    replace S1_0 := Nat.lt_of_lt_of_le S1_0 hb.size
    replace P0 : Hid (shSub.Rd w4 w.heap.size g0 [.int .i64 y0a, .int .i64 y0b, .bool y0c, .int .i64 y0d, .int .i64 y0e, .int .i64 y0f, .int .i64 y0g, .int .i64 y0h, .int .i64 y0i, .slice y0j y0q y0r, .int .i64 y0k, .int .i64 y0l, .slice y0m y0s y0t, .int .i64 y0n, .int .i64 y0o, .int .i64 y0p]) := Sh.Rd.below P0.out (by have := Z1.out; have := Z2.out; have := Z3.out; have := Z4.out; omega) hb
    replace HW : Hid _ := HW.out.trans (hb.mono HW.out.size)
    clear hb
    as_aux_lemma =>
    go_wp2_with fail
    refine (iStaleOfV g0 u4a u4b u4c u4d u4e u4f u4g u4h u4i u4j u4q u4r u4k u4l u4m u4s u4t u4n u4o u4p _ _ (Sh.Rd.mono (by have := Z1.out; have := Z2.out; have := Z3.out; have := Z4.out; first | exact Nat.le_refl _ | omega | (simp; done) | (simp; omega)) _ _ _ (Sh.Rd.below (B := w4.heap.size) (C := w4.heap.size) (Own.rd X4.out (Nat.le_refl _)) (Nat.le_refl _) (by first | exact Below.refl _ _ | go_grown | exact Below.drew (Below.refl _ _)))) (Nat.le_refl _) (by omega)).mono ?_
    rintro e w5 ⟨rfl, hb⟩
    have B5_0 := bx_new hb
    obtain ⟨hb, S5_0⟩ := bl_new hb
    have Z5 : Hid (w4.heap.size < w5.heap.size) := S5_0
    replace B1_0 := bx_below B1_0 S1_0 hb
    replace S1_0 := Nat.lt_of_lt_of_le S1_0 hb.size
    replace B4_0 := bx_below B4_0 S4_0 hb
    replace S4_0 := Nat.lt_of_lt_of_le S4_0 hb.size
    replace P0 : Hid (shSub.Rd w5 w.heap.size g0 [.int .i64 y0a, .int .i64 y0b, .bool y0c, .int .i64 y0d, .int .i64 y0e, .int .i64 y0f, .int .i64 y0g, .int .i64 y0h, .int .i64 y0i, .slice y0j y0q y0r, .int .i64 y0k, .int .i64 y0l, .slice y0m y0s y0t, .int .i64 y0n, .int .i64 y0o, .int .i64 y0p]) := Sh.Rd.below P0.out (by have := Z1.out; have := Z2.out; have := Z3.out; have := Z4.out; have := Z5.out; omega) hb
    replace X4 : Hid _ := Own.below X4.out (by have := Z1.out; have := Z2.out; have := Z3.out; have := Z4.out; have := Z5.out; omega) hb
    replace HW : Hid _ := HW.out.trans (hb.mono HW.out.size)
    clear hb
    as_aux_lemma =>
    go_wp2_with fail
    refine (lEqIntR _ _ _).mono ?_
    rintro e w6 ⟨rfl, hb⟩
    have B6_0 := bx_new hb
    obtain ⟨hb, S6_0⟩ := bl_new hb
    have Z6 : Hid (w5.heap.size < w6.heap.size) := S6_0
    replace B1_0 := bx_below B1_0 S1_0 hb
    replace S1_0 := Nat.lt_of_lt_of_le S1_0 hb.size
    replace B4_0 := bx_below B4_0 S4_0 hb
    replace S4_0 := Nat.lt_of_lt_of_le S4_0 hb.size
    replace B5_0 := bx_below B5_0 S5_0 hb
    replace S5_0 := Nat.lt_of_lt_of_le S5_0 hb.size
    replace P0 : Hid (shSub.Rd w6 w.heap.size g0 [.int .i64 y0a, .int .i64 y0b, .bool y0c, .int .i64 y0d, .int .i64 y0e, .int .i64 y0f, .int .i64 y0g, .int .i64 y0h, .int .i64 y0i, .slice y0j y0q y0r, .int .i64 y0k, .int .i64 y0l, .slice y0m y0s y0t, .int .i64 y0n, .int .i64 y0o, .int .i64 y0p]) := Sh.Rd.below P0.out (by have := Z1.out; have := Z2.out; have := Z3.out; have := Z4.out; have := Z5.out; have := Z6.out; omega) hb
    replace X4 : Hid _ := Own.below X4.out (by have := Z1.out; have := Z2.out; have := Z3.out; have := Z4.out; have := Z5.out; have := Z6.out; omega) hb
    replace HW : Hid _ := HW.out.trans (hb.mono HW.out.size)
    clear hb
    as_aux_lemma =>
    go_wp2_with fail
    have HX : Hid (∀ W, Below w6.heap.size w6 W → shSub.Rd W w6.heap.size g0 [.int .i64 u4a, .int .i64 u4b, .bool u4c, .int .i64 u4d, .int .i64 u4e, .int .i64 u4f, .int .i64 u4g, .int .i64 u4h, .int .i64 u4i, .slice u4j u4q u4r, .int .i64 u4k, .int .i64 u4l, .slice u4m u4s u4t, .int .i64 u4n, .int .i64 u4o, .int .i64 u4p]) := fun W hW => Sh.Rd.below (Own.rd X4.out (Nat.le_refl _)) (Nat.le_refl _) hW
    go_cut [27] (fun u wx => u = .bool false ∧ Below w6.heap.size w6 wx)
    case first =>
      go_region_with (first
        | (go_at_call 9; refine (lToSubV g0 y0a y0b y0c y0d y0e y0f y0g y0h y0i y0j y0q y0r y0k y0l y0m y0s y0t y0n y0o y0p _ w.heap.size (Sh.Rd.below (C := w6.heap.size) P0.out (by have := Z1.out; have := Z2.out; have := Z3.out; have := Z4.out; have := Z5.out; have := Z6.out; first | omega | (simp; done) | (simp; omega)) (by first | exact Below.refl _ _ | go_grown | exact Below.drew (Below.refl _ _))) (by have := Z1.out; have := Z2.out; have := Z3.out; have := Z4.out; have := Z5.out; have := Z6.out; first | omega | (simp; done) | (simp; omega)) (by omega)).mono ?_; rintro e w7 ⟨u7a, u7b, u7c, u7d, u7e, u7f, u7g, u7h, u7i, u7j, u7q, u7r, u7k, u7l, u7m, u7s, u7t, u7n, u7o, u7p, rfl, ho, hb⟩; skip; replace hb := bl_drew hb; have HB : Hid _ := hb; have HR : Hid (shSub.Rd w7 w7.heap.size g0 [.int .i64 u7a, .int .i64 u7b, .bool u7c, .int .i64 u7d, .int .i64 u7e, .int .i64 u7f, .int .i64 u7g, .int .i64 u7h, .int .i64 u7i, .slice u7j u7q u7r, .int .i64 u7k, .int .i64 u7l, .slice u7m u7s u7t, .int .i64 u7n, .int .i64 u7o, .int .i64 u7p]) := Own.rd ho (Nat.le_refl _); replace B1_0 := bx_below B1_0 S1_0 hb; replace S1_0 := Nat.lt_of_lt_of_le S1_0 hb.size; replace B4_0 := bx_below B4_0 S4_0 hb; replace S4_0 := Nat.lt_of_lt_of_le S4_0 hb.size; replace B5_0 := bx_below B5_0 S5_0 hb; replace S5_0 := Nat.lt_of_lt_of_le S5_0 hb.size; replace B6_0 := bx_below B6_0 S6_0 hb; replace S6_0 := Nat.lt_of_lt_of_le S6_0 hb.size; clear ho hb)
        | (go_at_call 12; refine (lEqSubV g0 u4a u4b u4c u4d u4e u4f u4g u4h u4i u4j u4q u4r u4k u4l u4m u4s u4t u4n u4o u4p u7a u7b u7c u7d u7e u7f u7g u7h u7i u7j u7q u7r u7k u7l u7m u7s u7t u7n u7o u7p _ _ (Sh.Rd.mono HB.out.size _ _ _ (HX.out _ HB.out)) HR.out (Nat.le_refl _) (by omega)).mono ?_; rintro e w' ⟨rfl, hb⟩; have HC : Hid _ := hb; clear hb))
      all_goals (go_wp2_with fail; go_meet; exact ⟨rfl, HB.out.trans (HC.out.mono HB.out.size)⟩)
    case rest =>
    rename World => w7
    obtain ⟨rfl, hb⟩ := hcut
    clear HX
    have Z7 : Hid (w6.heap.size ≤ w7.heap.size) := hb.size
    replace B1_0 := bx_below B1_0 S1_0 hb
    replace S1_0 := Nat.lt_of_lt_of_le S1_0 hb.size
    replace B4_0 := bx_below B4_0 S4_0 hb
    replace S4_0 := Nat.lt_of_lt_of_le S4_0 hb.size
    replace B5_0 := bx_below B5_0 S5_0 hb
    replace S5_0 := Nat.lt_of_lt_of_le S5_0 hb.size
    replace B6_0 := bx_below B6_0 S6_0 hb
    replace S6_0 := Nat.lt_of_lt_of_le S6_0 hb.size
    replace P0 : Hid (shSub.Rd w7 w.heap.size g0 [.int .i64 y0a, .int .i64 y0b, .bool y0c, .int .i64 y0d, .int .i64 y0e, .int .i64 y0f, .int .i64 y0g, .int .i64 y0h, .int .i64 y0i, .slice y0j y0q y0r, .int .i64 y0k, .int .i64 y0l, .slice y0m y0s y0t, .int .i64 y0n, .int .i64 y0o, .int .i64 y0p]) := Sh.Rd.below P0.out (by have := Z1.out; have := Z2.out; have := Z3.out; have := Z4.out; have := Z5.out; have := Z6.out; have := Z7.out; omega) hb
    replace X4 : Hid _ := Own.below X4.out (by have := Z1.out; have := Z2.out; have := Z3.out; have := Z4.out; have := Z5.out; have := Z6.out; have := Z7.out; omega) hb
    replace HW : Hid _ := HW.out.trans (hb.mono HW.out.size)
    clear hb
    as_aux_lemma =>
    go_wp2_with fail
    go_ret
    exact ⟨rfl, HW.out⟩

set_option maxRecDepth 100000 in
theorem lifted (os : Os) (started : os.Started) (H : Type) (enc : TypeId × Value → H) :
    ReturnsInHanded {} Try.checked os 4 .any (Rows.fnExactStaleOfSpec.pre6 enc Try.prog Try.f4 Rows.fnExactStaleOfRow.domain false) (Rows.fnExactStaleOfSpec.post enc Try.prog Try.f4 false true false false) := by
  refine returnsInHanded_of_change (C := Try.checked) own started (by kernel_rfl) Try.func4
    (ChangeSpec.witness6 (enc := enc) (C := Try.checked) false ⟨#[], #[.agg #[.int .i64 0, .int .i64 0, .bool false, .int .i64 0, .int .i64 0, .int .i64 0, .int .i64 0, .int .i64 0, .int .i64 0, .slice none 0 0, .int .i64 0, .int .i64 0, .slice none 0 0, .int .i64 0, .int .i64 0, .int .i64 0]], []⟩ 8 (by kernel_rfl) (by kernel_rfl) (by kernel_rfl) (by kernel_rfl)) ?_
  intro W base args ds gs before hval0 hW hcnd _
  have hval : ∀ (j : Nat) t v, Try.f4.params[j]? = some t → args[j]? = some v → Value.okWide Try.prog W .any base t v := hval0
  have hW' := hW
  obtain ⟨p, q, hA0, hV, rfl, hfz, hnd⟩ := hW
  have hA : DataW.TrodAll enc Try.prog W 0 (fun _ => true) true Try.f4.params.toList args.toList ds p := hA0
  rw [Try.params4] at hA hval
  obtain ⟨v0, vs0, d0, ds0, p0, q0, hargs, rfl, rfl, h0, r0⟩ := trodAll_cons hA
  obtain ⟨rfl, rfl, rfl⟩ := trodAll_nil r0
  obtain rfl : args = #[v0] := by cases args; simp_all
  obtain ⟨rfl, rfl⟩ := trodVars_none hV
  have lt0 : ∀ x ∈ p0, x.block < W.heap.size := by obtain ⟨m, hm⟩ := h0; exact DataW.trod_lt m _ _ _ hm
  have t0 : ∃ n y, DataW.trod enc Try.prog W 0 (fun _ => true) true n 31 v0.cells.toList = some y := by obtain ⟨m, hm⟩ := h0; exact ⟨m, _, hm⟩
  refine (walk enc v0 W base (hval 0 31 v0 rfl rfl) t0).mono fun e W' ⟨he, bel⟩ => ?_
  subst he
  exact ⟨_, rfl, _, _, _, [], _, [], hW', trodAll_mk1 (shut_bool Try.underlying4 _), (trodAll_cons_mk (Below.trod laidOut (by kernel_rfl) (of_decide_eq_true (by kernel_rfl)) h0 bel lt0) trodAll_mk0), rfl, bel.frame _, fun h => by cases h⟩

theorem over : Rows.fnExactStaleOfRow.holds Try.pinned (OpenSpec.ofChange Rows.fnExactStaleOfSpec) :=
  OpenClaim.holds_of_wide 4 Try.f4 rfl rfl rfl rfl rfl rfl rfl ⟨rfl, rfl, rfl, rfl, rfl⟩ rfl rfl rfl rfl rfl (by kernel_rfl) Try.func4 (by kernel_rfl)
    (of_decide_eq_true (by kernel_rfl)) (by unfold Func.isWrapper; first | (rw [if_pos (by decide +kernel)]; kernel_rfl) | (rw [if_neg (by decide +kernel)]; exact ⟨rfl, rfl⟩))
    (fun os started H enc _ => lifted os started H enc)

theorem proved : Rows.FnExactStaleOfSaid := over
#print axioms proved
end Go.Proofs.Ytaehhnnafbijcao.fnExactStaleOf

namespace Go.Proofs.Ytaehhnnafbijcao
theorem fnExactStaleOf_holds : Rows.FnExactStaleOfSaid := fnExactStaleOf.proved
end Go.Proofs.Ytaehhnnafbijcao
