/- Proved: at every number the program's StartCatch answers as its model does, code and catch; the answer owns its memory; no condition. -/
import Derived.Test.YtmiomnpfjigojamRows
import Derived.WalkKit
import Derived.ProofKit
import Derived.OpenShut
import Derived.ShutString
import Derived.ChangeOld
import Derived.Below
import Derived.Test.YtmiomnpfjigojamBase
import Derived.Test.YtmiomnpfjigojamBytes
import Derived.Test.YtmiomnpfjigojamMem
import Derived.Test.YtmiomnpfjigojamMemOpen
import Derived.Test.YtmiomnpfjigojamMemRow
import Derived.Test.YtmiomnpfjigojamHBase
import Derived.Test.YtmiomnpfjigojamHSpan
import Derived.Test.YtmiomnpfjigojamHCatch
import Derived.Test.YtmiomnpfjigojamHOpen0
import Derived.Test.YtmiomnpfjigojamHOpenC
import Derived.Test.YtmiomnpfjigojamBox
import Derived.Test.YtmiomnpfjigojamNum
import Derived.Test.YtmiomnpfjigojamNumWalks
import Derived.Test.YtmiomnpfjigojamUnwrap
import Derived.Test.YtmiomnpfjigojamCatDef
import Derived.Test.YtmiomnpfjigojamMemApp
import Derived.Test.YtmiomnpfjigojamHMark
import Derived.Test.YtmiomnpfjigojamMSpan
import Derived.Test.YtmiomnpfjigojamMCatch
import Derived.Test.YtmiomnpfjigojamSpanRow
import Derived.Test.YtmiomnpfjigojamCatSpec
import Derived.Test.YtmiomnpfjigojamCatImpl
import Derived.Test.YtmiomnpfjigojamCatCount
import Derived.Test.YtmiomnpfjigojamCatSort
import Derived.Test.YtmiomnpfjigojamCatTake
import Derived.Test.YtmiomnpfjigojamCatTake2
namespace Go.Proofs.Ytmiomnpfjigojam.fnExactStartCatch
open Go.ChangeShapes Go.WideShapes Go.ChangeAt Go.RowKit
set_option linter.unusedVariables false

theorem own : ownKnob Try.prog.godebug = none := by kernel_rfl
theorem laidOut : laidOutB Try.prog = true := by kernel_rfl


set_option maxHeartbeats 2000000 in
set_option maxRecDepth 8000 in
theorem walk {H : Type} (enc : TypeId × Value → H) (v0 : Value) (w : World) (base : Nat)
    (o0 : Value.okWide Try.prog w .any base 2 v0) (t0 : ∃ n y, DataW.trod enc Try.prog w 0 (fun _ => true) true n 2 v0.cells.toList = some y) :
    Calls Try.prog 8 #[v0] w fun e w' => e = .returned (.bool true) ∧ Below w.heap.size w w' := by
  obtain ⟨x0, rfl, hwf0⟩ := open_i64v o0 t0
  have W0 : Hid _ := rd_i64 hwf0
  clear hwf0
  clear o0 t0
  have HW : Hid (Below w.heap.size w w) := Below.refl _ _
  obtain ⟨V, hV⟩ : ∃ V, V = stcV x0 := ⟨_, rfl⟩
  obtain ⟨C, hC⟩ : ∃ C, C = stcC x0 := ⟨_, rfl⟩
  obtain ⟨FR, hFR⟩ : ∃ C, C = false := ⟨_, rfl⟩
  have VT : Hid (totCatch V ≤ 1048576) := by rw [hV]; exact stc_tot _
  have hVT : 0 ≤ (1 : Int) + ((wtCatch V : Nat) : Int) := by omega
  have CS : Hid (∀ W, Calls Try.prog 27 #[.int .i64 x0] W fun e w' => ∃ u, e = .returned (.agg #[.int .i64 C, .bool FR, .int .i64 V.1, .int .i64 V.2.1, u]) ∧ Own w' W.heap.size w'.heap.size shCatchO V [.int .i64 V.1, .int .i64 V.2.1, u] ∧ Below W.heap.size W w') := fun W => by rw [hV, hC, hFR]; exact sStartCatch x0 W
  have CI : Hid (∀ W, Calls Try.prog 28 #[.int .i64 x0] W fun e w' => ∃ u, e = .returned (.agg #[.int .i64 C, .bool FR, .int .i64 V.1, .int .i64 V.2.1, u]) ∧ Own w' W.heap.size w'.heap.size shCatchO V [.int .i64 V.1, .int .i64 V.2.1, u] ∧ Below W.heap.size W w') := fun W => by rw [hV, hC, hFR]; exact iStartCatch x0 W
  clear hV hC hFR
  go_enter Try.func8, Try.ntmps8
  go_wp2_with fail
  refine (CS.out _).mono ?_
  rintro e w1 ⟨u1a, rfl, ho, hb⟩
  obtain ⟨q1v, e5, r5, -⟩ := rd_CatchO (ho.rd (Nat.le_refl _))
  simp only [List.cons.injEq, and_true, true_and] at e5
  subst e5
  obtain ⟨q1a, q1ac, e5⟩ := row_formO r5
  simp only [List.cons.injEq, and_true] at e5
  subst e5
  clear r5
  have X1 : Hid (Own w1 (w.heap.size) w1.heap.size shCatchO V [.int .i64 V.1, .int .i64 V.2.1, .slice q1a V.2.2.1.length q1ac]) := Own.mono ho (by first | exact Nat.le_refl _ | (simp; done) | (simp; omega)) (Nat.le_refl _)
  clear ho
  have Z1 : Hid (w.heap.size ≤ w1.heap.size) := hb.size
  replace HW : Hid _ := HW.out.trans (hb.mono HW.out.size)
  clear hb
  go_wp2_with fail
  refine (CI.out _).mono ?_
  rintro e w2 ⟨u2a, rfl, ho, hb⟩
  obtain ⟨q2v, e5, r5, -⟩ := rd_CatchO (ho.rd (Nat.le_refl _))
  simp only [List.cons.injEq, and_true, true_and] at e5
  subst e5
  obtain ⟨q2a, q2ac, e5⟩ := row_formO r5
  simp only [List.cons.injEq, and_true] at e5
  subst e5
  clear r5
  have X2 : Hid (Own w2 (w1.heap.size + 1) w2.heap.size shCatchO V [.int .i64 V.1, .int .i64 V.2.1, .slice q2a V.2.2.1.length q2ac]) := Own.mono ho (by first | exact Nat.le_refl _ | (simp; done) | (simp; omega)) (Nat.le_refl _)
  clear ho
  have B2_0 := bx_new hb
  obtain ⟨hb, S2_0⟩ := bl_new hb
  have Z2 : Hid (w1.heap.size < w2.heap.size) := S2_0
  replace X1 : Hid _ := Own.below X1.out (by have := Z1.out; have := Z2.out; omega) hb
  replace HW : Hid _ := HW.out.trans (hb.mono HW.out.size)
  clear hb
  go_wp2_with fail
  refine (lEqCatchResult C FR V (.slice q2a V.2.2.1.length q2ac) (.slice q1a V.2.2.1.length q1ac) _ _ (Sh.Rd.mono (by have := Z1.out; have := Z2.out; first | exact Nat.le_refl _ | omega | (simp; done) | (simp; omega)) _ _ _ (Sh.Rd.below (B := w2.heap.size) (C := w2.heap.size) (Own.rd X2.out (Nat.le_refl _)) (Nat.le_refl _) (by first | exact Below.refl _ _ | go_grown | exact Below.drew (Below.refl _ _)))) (Sh.Rd.mono (by have := Z1.out; have := Z2.out; first | exact Nat.le_refl _ | omega | (simp; done) | (simp; omega)) _ _ _ (Sh.Rd.below (B := w2.heap.size) (C := w2.heap.size) (Own.rd X1.out (Nat.le_refl _)) (Nat.le_refl _) (by first | exact Below.refl _ _ | go_grown | exact Below.drew (Below.refl _ _)))) (Nat.le_refl _) VT.out).mono ?_
  rintro e w3 ⟨rfl, hb⟩
  have B3_0 := bx_new hb
  obtain ⟨hb, S3_0⟩ := bl_new hb
  have Z3 : Hid (w2.heap.size < w3.heap.size) := S3_0
  replace B2_0 := bx_below B2_0 S2_0 hb
  replace S2_0 := Nat.lt_of_lt_of_le S2_0 hb.size
  replace X1 : Hid _ := Own.below X1.out (by have := Z1.out; have := Z2.out; have := Z3.out; omega) hb
  replace X2 : Hid _ := Own.below X2.out (by have := Z1.out; have := Z2.out; have := Z3.out; omega) hb
  replace HW : Hid _ := HW.out.trans (hb.mono HW.out.size)
  clear hb
  go_wp2_with fail
  refine (lMarkCatchResult C FR V (.slice q2a V.2.2.1.length q2ac) 1 _ _ _ X2.out (by first | exact Nat.le_refl _ | omega) VT.out (by omega) (by omega)).mono ?_
  rintro e w4 ⟨rfl, ho, hw⟩
  have Z4 : Hid (w3.heap.size ≤ w4.heap.size) := hw.size
  replace B2_0 := bx_keep B2_0 (hw.block _ S2_0 (by have := Z1.out; have := Z2.out; have := Z3.out; have := Z4.out; omega))
  replace S2_0 := Nat.lt_of_lt_of_le S2_0 hw.size
  replace B3_0 := bx_keep B3_0 (hw.block _ S3_0 (by have := Z1.out; have := Z2.out; have := Z3.out; have := Z4.out; omega))
  replace S3_0 := Nat.lt_of_lt_of_le S3_0 hw.size
  replace X1 : Hid _ := Own.keep X1.out (fun b h1 h2 => hw.block b (by have := Z1.out; have := Z2.out; have := Z3.out; have := Z4.out; omega) (by have := Z1.out; have := Z2.out; have := Z3.out; have := Z4.out; omega))
  replace X2 : Hid _ := ho
  replace HW : Hid _ := within_below HW.out hw (by have := Z1.out; have := Z2.out; have := Z3.out; have := Z4.out; omega) HW.out.size
  clear ho hw
  go_wp2_with fail
  refine (lHeldCatchResult C FR V (.slice q2a V.2.2.1.length q2ac) 1 _ _ (Sh.Rd.mono (by have := Z1.out; have := Z2.out; have := Z3.out; have := Z4.out; first | exact Nat.le_refl _ | omega | (simp; done) | (simp; omega)) _ _ _ (Sh.Rd.below (B := w4.heap.size) (C := w4.heap.size) (Own.rd X2.out (Nat.le_refl _)) (Nat.le_refl _) (by first | exact Below.refl _ _ | go_grown | exact Below.drew (Below.refl _ _)))) (Nat.le_refl _) VT.out (by omega) (by omega)).mono ?_
  rintro e w5 ⟨rfl, hb⟩
  have Z5 : Hid (w4.heap.size ≤ w5.heap.size) := hb.size
  replace B2_0 := bx_below B2_0 S2_0 hb
  replace S2_0 := Nat.lt_of_lt_of_le S2_0 hb.size
  replace B3_0 := bx_below B3_0 S3_0 hb
  replace S3_0 := Nat.lt_of_lt_of_le S3_0 hb.size
  replace X1 : Hid _ := Own.below X1.out (by have := Z1.out; have := Z2.out; have := Z3.out; have := Z4.out; have := Z5.out; omega) hb
  replace X2 : Hid _ := Own.below X2.out (by have := Z1.out; have := Z2.out; have := Z3.out; have := Z4.out; have := Z5.out; omega) hb
  replace HW : Hid _ := HW.out.trans (hb.mono HW.out.size)
  clear hb
  go_wp2_with fail
  refine (CI.out _).mono ?_
  rintro e w6 ⟨u6a, rfl, ho, hb⟩
  obtain ⟨q6v, e5, r5, -⟩ := rd_CatchO (ho.rd (Nat.le_refl _))
  simp only [List.cons.injEq, and_true, true_and] at e5
  subst e5
  obtain ⟨q6a, q6ac, e5⟩ := row_formO r5
  simp only [List.cons.injEq, and_true] at e5
  subst e5
  clear r5
  have X6 : Hid (Own w6 (w5.heap.size) w6.heap.size shCatchO V [.int .i64 V.1, .int .i64 V.2.1, .slice q6a V.2.2.1.length q6ac]) := Own.mono ho (by first | exact Nat.le_refl _ | (simp; done) | (simp; omega)) (Nat.le_refl _)
  clear ho
  have Z6 : Hid (w5.heap.size ≤ w6.heap.size) := hb.size
  replace B2_0 := bx_below B2_0 S2_0 hb
  replace S2_0 := Nat.lt_of_lt_of_le S2_0 hb.size
  replace B3_0 := bx_below B3_0 S3_0 hb
  replace S3_0 := Nat.lt_of_lt_of_le S3_0 hb.size
  replace X1 : Hid _ := Own.below X1.out (by have := Z1.out; have := Z2.out; have := Z3.out; have := Z4.out; have := Z5.out; have := Z6.out; omega) hb
  replace X2 : Hid _ := Own.below X2.out (by have := Z1.out; have := Z2.out; have := Z3.out; have := Z4.out; have := Z5.out; have := Z6.out; omega) hb
  replace HW : Hid _ := HW.out.trans (hb.mono HW.out.size)
  clear hb
  go_wp2_with fail
  refine (lEqCatchResult C FR V (.slice q6a V.2.2.1.length q6ac) (.slice q1a V.2.2.1.length q1ac) _ _ (Sh.Rd.mono (by have := Z1.out; have := Z2.out; have := Z3.out; have := Z4.out; have := Z5.out; have := Z6.out; first | exact Nat.le_refl _ | omega | (simp; done) | (simp; omega)) _ _ _ (Sh.Rd.below (B := w6.heap.size) (C := w6.heap.size) (Own.rd X6.out (Nat.le_refl _)) (Nat.le_refl _) (by first | exact Below.refl _ _ | go_grown | exact Below.drew (Below.refl _ _)))) (Sh.Rd.mono (by have := Z1.out; have := Z2.out; have := Z3.out; have := Z4.out; have := Z5.out; have := Z6.out; first | exact Nat.le_refl _ | omega | (simp; done) | (simp; omega)) _ _ _ (Sh.Rd.below (B := w6.heap.size) (C := w6.heap.size) (Own.rd X1.out (Nat.le_refl _)) (Nat.le_refl _) (by first | exact Below.refl _ _ | go_grown | exact Below.drew (Below.refl _ _)))) (Nat.le_refl _) VT.out).mono ?_
  rintro e w7 ⟨rfl, hb⟩
  have B7_0 := bx_new hb
  obtain ⟨hb, S7_0⟩ := bl_new hb
  have Z7 : Hid (w6.heap.size < w7.heap.size) := S7_0
  replace B2_0 := bx_below B2_0 S2_0 hb
  replace S2_0 := Nat.lt_of_lt_of_le S2_0 hb.size
  replace B3_0 := bx_below B3_0 S3_0 hb
  replace S3_0 := Nat.lt_of_lt_of_le S3_0 hb.size
  replace X1 : Hid _ := Own.below X1.out (by have := Z1.out; have := Z2.out; have := Z3.out; have := Z4.out; have := Z5.out; have := Z6.out; have := Z7.out; omega) hb
  replace X2 : Hid _ := Own.below X2.out (by have := Z1.out; have := Z2.out; have := Z3.out; have := Z4.out; have := Z5.out; have := Z6.out; have := Z7.out; omega) hb
  replace X6 : Hid _ := Own.below X6.out (by have := Z1.out; have := Z2.out; have := Z3.out; have := Z4.out; have := Z5.out; have := Z6.out; have := Z7.out; omega) hb
  replace HW : Hid _ := HW.out.trans (hb.mono HW.out.size)
  clear hb
  go_wp2_with fail
  refine (lHeldCatchResult C FR V (.slice q2a V.2.2.1.length q2ac) 1 _ _ (Sh.Rd.mono (by have := Z1.out; have := Z2.out; have := Z3.out; have := Z4.out; have := Z5.out; have := Z6.out; have := Z7.out; first | exact Nat.le_refl _ | omega | (simp; done) | (simp; omega)) _ _ _ (Sh.Rd.below (B := w7.heap.size) (C := w7.heap.size) (Own.rd X2.out (Nat.le_refl _)) (Nat.le_refl _) (by first | exact Below.refl _ _ | go_grown | exact Below.drew (Below.refl _ _)))) (Nat.le_refl _) VT.out (by omega) (by omega)).mono ?_
  rintro e w8 ⟨rfl, hb⟩
  have Z8 : Hid (w7.heap.size ≤ w8.heap.size) := hb.size
  replace B2_0 := bx_below B2_0 S2_0 hb
  replace S2_0 := Nat.lt_of_lt_of_le S2_0 hb.size
  replace B3_0 := bx_below B3_0 S3_0 hb
  replace S3_0 := Nat.lt_of_lt_of_le S3_0 hb.size
  replace B7_0 := bx_below B7_0 S7_0 hb
  replace S7_0 := Nat.lt_of_lt_of_le S7_0 hb.size
  replace X1 : Hid _ := Own.below X1.out (by have := Z1.out; have := Z2.out; have := Z3.out; have := Z4.out; have := Z5.out; have := Z6.out; have := Z7.out; have := Z8.out; omega) hb
  replace X2 : Hid _ := Own.below X2.out (by have := Z1.out; have := Z2.out; have := Z3.out; have := Z4.out; have := Z5.out; have := Z6.out; have := Z7.out; have := Z8.out; omega) hb
  replace X6 : Hid _ := Own.below X6.out (by have := Z1.out; have := Z2.out; have := Z3.out; have := Z4.out; have := Z5.out; have := Z6.out; have := Z7.out; have := Z8.out; omega) hb
  replace HW : Hid _ := HW.out.trans (hb.mono HW.out.size)
  clear hb
  go_wp2_with fail
  go_ret
  exact ⟨rfl, HW.out⟩

set_option maxRecDepth 100000 in
theorem lifted (os : Os) (started : os.Started) (H : Type) (enc : TypeId × Value → H) :
    ReturnsInHanded {} Try.checked os 8 .any (Rows.fnExactStartCatchSpec.pre6 enc Try.prog Try.f8 Rows.fnExactStartCatchRow.domain false) (Rows.fnExactStartCatchSpec.post enc Try.prog Try.f8 false true false false) := by
  refine returnsInHanded_of_change (C := Try.checked) own started (by kernel_rfl) Try.func8
    (ChangeSpec.witness6 (enc := enc) (C := Try.checked) false ⟨#[], #[.int .i64 0], []⟩ 8 (by kernel_rfl) (by kernel_rfl) (by kernel_rfl) (by kernel_rfl)) ?_
  intro W base args ds gs before hval0 hW hcnd _
  have hval : ∀ (j : Nat) t v, Try.f8.params[j]? = some t → args[j]? = some v → Value.okWide Try.prog W .any base t v := hval0
  have hW' := hW
  obtain ⟨p, q, hA0, hV, rfl, hfz, hnd⟩ := hW
  have hA : DataW.TrodAll enc Try.prog W 0 (fun _ => true) true Try.f8.params.toList args.toList ds p := hA0
  rw [Try.params8] at hA hval
  obtain ⟨v0, vs0, d0, ds0, p0, q0, hargs, rfl, rfl, h0, r0⟩ := trodAll_cons hA
  obtain ⟨rfl, rfl, rfl⟩ := trodAll_nil r0
  obtain rfl : args = #[v0] := by cases args; simp_all
  obtain ⟨rfl, rfl⟩ := trodVars_none hV
  have lt0 : ∀ x ∈ p0, x.block < W.heap.size := by obtain ⟨m, hm⟩ := h0; exact DataW.trod_lt m _ _ _ hm
  have t0 : ∃ n y, DataW.trod enc Try.prog W 0 (fun _ => true) true n 2 v0.cells.toList = some y := by obtain ⟨m, hm⟩ := h0; exact ⟨m, _, hm⟩
  refine (walk enc v0 W base (hval 0 2 v0 rfl rfl) t0).mono fun e W' ⟨he, bel⟩ => ?_
  subst he
  exact ⟨_, rfl, _, _, _, [], _, [], hW', trodAll_mk1 (shut_bool Try.underlying4 _), (trodAll_cons_mk (Below.trod laidOut (by kernel_rfl) (of_decide_eq_true (by kernel_rfl)) h0 bel lt0) trodAll_mk0), rfl, bel.frame _, fun h => by cases h⟩

theorem over : Rows.fnExactStartCatchRow.holds Try.pinned (OpenSpec.ofChange Rows.fnExactStartCatchSpec) :=
  OpenClaim.holds_of_wide 8 Try.f8 rfl rfl rfl rfl rfl rfl rfl ⟨rfl, rfl, rfl, rfl, rfl⟩ rfl rfl rfl rfl rfl (by kernel_rfl) Try.func8 (by kernel_rfl)
    (of_decide_eq_true (by kernel_rfl)) (by unfold Func.isWrapper; first | (rw [if_pos (by decide +kernel)]; kernel_rfl) | (rw [if_neg (by decide +kernel)]; exact ⟨rfl, rfl⟩))
    (fun os started H enc _ => lifted os started H enc)

theorem proved : Rows.FnExactStartCatchSaid := over
#print axioms proved
end Go.Proofs.Ytmiomnpfjigojam.fnExactStartCatch

namespace Go.Proofs.Ytmiomnpfjigojam
theorem fnExactStartCatch_holds : Rows.FnExactStartCatchSaid := fnExactStartCatch.proved
end Go.Proofs.Ytmiomnpfjigojam
