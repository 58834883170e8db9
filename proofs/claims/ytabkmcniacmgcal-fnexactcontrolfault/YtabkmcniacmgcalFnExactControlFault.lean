/- Proved: at every control the program's ControlFault answers as its model does, and the control is as it was; no condition. -/
import Derived.Test.YtabkmcniacmgcalRows
import Derived.WalkKit
import Derived.ProofKit
import Derived.OpenShut
import Derived.ShutString
import Derived.ChangeOld
import Derived.Below
import Derived.Test.YtabkmcniacmgcalBase
import Derived.Test.YtabkmcniacmgcalBytes
import Derived.Test.YtabkmcniacmgcalMem
import Derived.Test.YtabkmcniacmgcalMemOpen
import Derived.Test.YtabkmcniacmgcalInts
import Derived.Test.YtabkmcniacmgcalCOpen
import Derived.Test.YtabkmcniacmgcalBox
import Derived.Test.YtabkmcniacmgcalCtrl
import Derived.Test.YtabkmcniacmgcalCtrl2
namespace Go.Proofs.Ytabkmcniacmgcal.fnExactControlFault
open Go.ChangeShapes Go.WideShapes Go.ChangeAt Go.RowKit
set_option linter.unusedVariables false

theorem own : ownKnob Try.prog.godebug = none := by kernel_rfl
theorem laidOut : laidOutB Try.prog = true := by kernel_rfl


set_option maxHeartbeats 1000000 in
set_option maxRecDepth 8000 in
theorem walk {H : Type} (enc : TypeId × Value → H) (v0 : Value) (w : World) (base : Nat)
    (o0 : Value.okWide Try.prog w .any base 52 v0) (t0 : ∃ n y, DataW.trod enc Try.prog w 0 (fun _ => true) true n 52 v0.cells.toList = some y) :
    Calls Try.prog 7 #[v0] w fun e w' => e = .returned (.bool true) ∧ Below w.heap.size w w' := by
  obtain ⟨a, b, p, rfl⟩ := open_Control o0 t0
  clear o0 t0
  go_enter Try.func7, Try.ntmps7
  go_wp2_with fail
  refine (lToControl _ _ _ _).mono ?_
  rintro e w1 ⟨rfl, hb1⟩
  have k0 := bx_new hb1
  obtain ⟨b1, z1⟩ := bl_new hb1
  clear hb1
  go_wp2_with fail
  refine (sControlFault _ _ _ _).mono ?_
  rintro e w2 ⟨rfl, hb2⟩
  have k2 := bx_below k0 z1 hb2
  have b2 := b1.trans (hb2.mono b1.size)
  have z2 := Nat.lt_of_lt_of_le z1 hb2.size
  clear k0 hb2
  go_wp2_with fail
  refine (lToControl _ _ _ _).mono ?_
  rintro e w3 ⟨rfl, hb3⟩
  have k3 := bx_below k2 z2 hb3
  have b3 := b2.trans (hb3.mono b2.size)
  have z3 := Nat.lt_of_lt_of_le z2 hb3.size
  clear k2 hb3
  go_wp2_with fail
  refine (iControlFault _ _ _ _).mono ?_
  rintro e w4 ⟨rfl, hb4⟩
  have b4 := b3.trans (hb4.mono b3.size)
  clear k3 hb4
  have hx : (ctF a b p != ctF a b p) = false := by simp
  generalize ctF a b p = F at *
  go_wp2_with fail
  go_ret
  exact ⟨rfl, b4⟩

set_option maxRecDepth 100000 in
theorem lifted (os : Os) (started : os.Started) (H : Type) (enc : TypeId × Value → H) :
    ReturnsInHanded {} Try.checked os 7 .any (Rows.fnExactControlFaultSpec.pre6 enc Try.prog Try.f7 Rows.fnExactControlFaultRow.domain false) (Rows.fnExactControlFaultSpec.post enc Try.prog Try.f7 false true false false) := by
  refine returnsInHanded_of_change (C := Try.checked) own started (by kernel_rfl) Try.func7
    (ChangeSpec.witness6 (enc := enc) (C := Try.checked) false ⟨#[], #[.agg #[.int .i64 0, .int .i64 0, .int .i64 0]], []⟩ 8 (by kernel_rfl) (by kernel_rfl) (by kernel_rfl) (by kernel_rfl)) ?_
  intro W base args ds gs before hval0 hW hcnd _
  have hval : ∀ (j : Nat) t v, Try.f7.params[j]? = some t → args[j]? = some v → Value.okWide Try.prog W .any base t v := hval0
  have hW' := hW
  obtain ⟨p, q, hA0, hV, rfl, hfz, hnd⟩ := hW
  have hA : DataW.TrodAll enc Try.prog W 0 (fun _ => true) true Try.f7.params.toList args.toList ds p := hA0
  rw [Try.params7] at hA hval
  obtain ⟨v0, vs0, d0, ds0, p0, q0, hargs, rfl, rfl, h0, r0⟩ := trodAll_cons hA
  obtain ⟨rfl, rfl, rfl⟩ := trodAll_nil r0
  obtain rfl : args = #[v0] := by cases args; simp_all
  obtain ⟨rfl, rfl⟩ := trodVars_none hV
  have lt0 : ∀ x ∈ p0, x.block < W.heap.size := by obtain ⟨m, hm⟩ := h0; exact DataW.trod_lt m _ _ _ hm
  have t0 : ∃ n y, DataW.trod enc Try.prog W 0 (fun _ => true) true n 52 v0.cells.toList = some y := by obtain ⟨m, hm⟩ := h0; exact ⟨m, _, hm⟩
  refine (walk enc v0 W base (hval 0 52 v0 rfl rfl) t0).mono fun e W' ⟨he, bel⟩ => ?_
  subst he
  exact ⟨_, rfl, _, _, _, [], _, [], hW', trodAll_mk1 (shut_bool Try.underlying4 _), (trodAll_cons_mk (Below.trod laidOut (by kernel_rfl) (of_decide_eq_true (by kernel_rfl)) h0 bel lt0) trodAll_mk0), rfl, bel.frame _, fun h => by cases h⟩

theorem over : Rows.fnExactControlFaultRow.holds Try.pinned (OpenSpec.ofChange Rows.fnExactControlFaultSpec) :=
  OpenClaim.holds_of_wide 7 Try.f7 rfl rfl rfl rfl rfl rfl rfl ⟨rfl, rfl, rfl, rfl, rfl⟩ rfl rfl rfl rfl rfl (by kernel_rfl) Try.func7 (by kernel_rfl)
    (of_decide_eq_true (by kernel_rfl)) (by unfold Func.isWrapper; first | (rw [if_pos (by decide +kernel)]; kernel_rfl) | (rw [if_neg (by decide +kernel)]; exact ⟨rfl, rfl⟩))
    (fun os started H enc _ => lifted os started H enc)

theorem proved : Rows.FnExactControlFaultSaid := over
#print axioms proved
end Go.Proofs.Ytabkmcniacmgcal.fnExactControlFault

namespace Go.Proofs.Ytabkmcniacmgcal
theorem fnExactControlFault_holds : Rows.FnExactControlFaultSaid := fnExactControlFault.proved
end Go.Proofs.Ytabkmcniacmgcal
