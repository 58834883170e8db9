/- Proved: at every control the program's CutControl answers as its model does, code and control; no condition. -/
import Derived.Test.YtabkmcniacmgcamRows
import Derived.WalkKit
import Derived.ProofKit
import Derived.OpenShut
import Derived.ShutString
import Derived.ChangeOld
import Derived.Below
import Derived.Test.YtabkmcniacmgcamBase
import Derived.Test.YtabkmcniacmgcamBytes
import Derived.Test.YtabkmcniacmgcamMem
import Derived.Test.YtabkmcniacmgcamMemOpen
import Derived.Test.YtabkmcniacmgcamInts
import Derived.Test.YtabkmcniacmgcamCOpen
import Derived.Test.YtabkmcniacmgcamBox
import Derived.Test.YtabkmcniacmgcamCtrl
import Derived.Test.YtabkmcniacmgcamCtrl2
namespace Go.Proofs.Ytabkmcniacmgcam.fnExactCutControl
open Go.ChangeShapes Go.WideShapes Go.ChangeAt Go.RowKit
set_option linter.unusedVariables false

theorem own : ownKnob Try.prog.godebug = none := by kernel_rfl
theorem laidOut : laidOutB Try.prog = true := by kernel_rfl


set_option maxHeartbeats 1000000 in
theorem walk {H : Type} (enc : TypeId × Value → H) (v0 : Value) (w : World) (base : Nat)
    (o0 : Value.okWide Try.prog w .any base 23 v0) (t0 : ∃ n y, DataW.trod enc Try.prog w 0 (fun _ => true) true n 23 v0.cells.toList = some y) :
    Calls Try.prog 4 #[v0] w fun e w' => e = .returned (.bool true) ∧ Below w.heap.size w w' := by
  obtain ⟨a, b, p, rfl⟩ := open_Control o0 t0
  clear o0 t0
  have HS : Hid (∀ W, Calls Try.prog 13 #[.agg #[.int .i64 a, .int .i64 b, .int .i64 p]] W fun e w' => e = .returned (.agg #[.int .i64 (ctF a b p), .int .i64 (if ctF a b p = 0 then halfW a else 0), .int .i64 (if ctF a b p = 0 then halfW a else 0), .int .i64 0]) ∧ Below W.heap.size W w') := fun W => sCutControl a b p W
  have HI : Hid (∀ W, Calls Try.prog 14 #[.agg #[.int .i64 a, .int .i64 b, .int .i64 p]] W fun e w' => e = .returned (.agg #[.int .i64 (ctF a b p), .int .i64 (if ctF a b p = 0 then halfW a else 0), .int .i64 (if ctF a b p = 0 then halfW a else 0), .int .i64 0]) ∧ Below W.heap.size W w') := fun W => iCutControl a b p W
  generalize (if ctF a b p = 0 then halfW a else 0) = v at *
  generalize ctF a b p = c at *
  go_enter Try.func4, Try.ntmps4
  go_wp2_with fail
  refine (lToControl _ _ _ _).mono ?_
  rintro e w1 ⟨rfl, hb1⟩
  have k0 := bx_new hb1
  obtain ⟨b1, z1⟩ := bl_new hb1
  clear hb1
  go_wp2_with fail
  refine (HS.out _).mono ?_
  rintro e w2 ⟨rfl, hb2⟩
  have k2 := bx_below k0 z1 hb2
  have b2 := b1.trans (hb2.mono b1.size)
  have z2 := Nat.lt_of_lt_of_le z1 hb2.size
  clear k0 hb2
  go_wp2_with fail
  refine (lToControl _ _ _ _).mono ?_
  rintro e w3 ⟨rfl, hb3⟩
  have j3 := bx_new hb3
  obtain ⟨c3, y3⟩ := bl_new hb3
  have k3 := bx_below k2 z2 c3
  have b3 := b2.trans (c3.mono b2.size)
  have z3 := Nat.lt_of_lt_of_le z2 c3.size
  clear k2 hb3 c3
  go_wp2_with fail
  refine (HI.out _).mono ?_
  rintro e w4 ⟨rfl, hb4⟩
  have j4 := bx_below j3 y3 hb4
  have b4 := b3.trans (hb4.mono b3.size)
  have y4 := Nat.lt_of_lt_of_le y3 hb4.size
  clear k3 j3 hb4
  go_wp2_with fail
  refine (lEqControlR _ _ _ _ _).mono ?_
  rintro e w5 ⟨rfl, hb5⟩
  obtain ⟨c5, y5⟩ := bl_new hb5
  have b5 := b4.trans (c5.mono b4.size)
  clear j4 hb5
  go_wp2_with fail
  go_ret
  exact ⟨rfl, b5⟩

set_option maxRecDepth 100000 in
theorem lifted (os : Os) (started : os.Started) (H : Type) (enc : TypeId × Value → H) :
    ReturnsInHanded {} Try.checked os 4 .any (Rows.fnExactCutControlSpec.pre6 enc Try.prog Try.f4 Rows.fnExactCutControlRow.domain false) (Rows.fnExactCutControlSpec.post enc Try.prog Try.f4 false true false false) := by
  refine returnsInHanded_of_change (C := Try.checked) own started (by kernel_rfl) Try.func4
    (ChangeSpec.witness6 (enc := enc) (C := Try.checked) false ⟨#[], #[.agg #[.int .i64 0, .int .i64 0, .int .i64 0]], []⟩ 8 (by kernel_rfl) (by kernel_rfl) (by kernel_rfl) (by kernel_rfl)) ?_
  intro W base args ds gs before hval0 hW hcnd _
  have hval : ∀ (j : Nat) t v, Try.f4.params[j]? = some t → args[j]? = some v → Value.okWide Try.prog W .any base t v := hval0
  have hW' := hW
  obtain ⟨p, q, hA0, hV, rfl, hfz, hnd⟩ := hW
  have hA : DataW.TrodAll enc Try.prog W 0 (fun _ => true) true Try.f4.params.toList args.toList ds p := hA0
  rw [Try.params4] at hA hval
  obtain ⟨v0, vs0, d0, ds0, p0, q0, hargs, rfl, rfl, h0, r0⟩ := trodAll_cons hA
  obtain ⟨rfl, rfl, rfl⟩ := trodAll_nil r0
  obtain rfl : args = #[v0] := by cases args; simp_all
  obtain ⟨rfl, rfl⟩ := trodVars_none hV
  have lt0 : ∀ x ∈ p0, x.block < W.heap.size := by obtain ⟨m, hm⟩ := h0; exact DataW.trod_lt m _ _ _ hm
  have t0 : ∃ n y, DataW.trod enc Try.prog W 0 (fun _ => true) true n 23 v0.cells.toList = some y := by obtain ⟨m, hm⟩ := h0; exact ⟨m, _, hm⟩
  refine (walk enc v0 W base (hval 0 23 v0 rfl rfl) t0).mono fun e W' ⟨he, bel⟩ => ?_
  subst he
  exact ⟨_, rfl, _, _, _, [], _, [], hW', trodAll_mk1 (shut_bool Try.underlying4 _), (trodAll_cons_mk (Below.trod laidOut (by kernel_rfl) (of_decide_eq_true (by kernel_rfl)) h0 bel lt0) trodAll_mk0), rfl, bel.frame _, fun h => by cases h⟩

theorem over : Rows.fnExactCutControlRow.holds Try.pinned (OpenSpec.ofChange Rows.fnExactCutControlSpec) :=
  OpenClaim.holds_of_wide 4 Try.f4 rfl rfl rfl rfl rfl rfl rfl ⟨rfl, rfl, rfl, rfl, rfl⟩ rfl rfl rfl rfl rfl (by kernel_rfl) Try.func4 (by kernel_rfl)
    (of_decide_eq_true (by kernel_rfl)) (by unfold Func.isWrapper; first | (rw [if_pos (by decide +kernel)]; kernel_rfl) | (rw [if_neg (by decide +kernel)]; exact ⟨rfl, rfl⟩))
    (fun os started H enc _ => lifted os started H enc)

theorem proved : Rows.FnExactCutControlSaid := over
#print axioms proved
end Go.Proofs.Ytabkmcniacmgcam.fnExactCutControl

namespace Go.Proofs.Ytabkmcniacmgcam
theorem fnExactCutControl_holds : Rows.FnExactCutControlSaid := fnExactCutControl.proved
end Go.Proofs.Ytabkmcniacmgcam
