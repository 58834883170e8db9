/- Proved: at every number the program's StartControl answers as its model does, code and control; no condition. -/
import Derived.Test.YtabkmcniacmgcalRows
import Derived.WalkKit
import Derived.ProofKit
import Derived.OpenShut
import Derived.ShutString
import Derived.ChangeOld
import Derived.Below
import Derived.Test.YtabkmcniacmgcalBase
import Derived.Test.YtabkmcniacmgcalBytes
import Derived.Test.YtabkmcniacmgcalMem
import Derived.Test.YtabkmcniacmgcalMemOpen
import Derived.Test.YtabkmcniacmgcalInts
import Derived.Test.YtabkmcniacmgcalCOpen
import Derived.Test.YtabkmcniacmgcalBox
import Derived.Test.YtabkmcniacmgcalCtrl
import Derived.Test.YtabkmcniacmgcalCtrl2
namespace Go.Proofs.Ytabkmcniacmgcal.fnExactStartControl
open Go.ChangeShapes Go.WideShapes Go.ChangeAt Go.RowKit
set_option linter.unusedVariables false

theorem own : ownKnob Try.prog.godebug = none := by kernel_rfl
theorem laidOut : laidOutB Try.prog = true := by kernel_rfl


set_option maxHeartbeats 1000000 in
set_option maxRecDepth 8000 in
theorem walk {H : Type} (enc : TypeId × Value → H) (v0 : Value) (w : World) (base : Nat)
    (o0 : Value.okWide Try.prog w .any base 2 v0) (t0 : ∃ n y, DataW.trod enc Try.prog w 0 (fun _ => true) true n 2 v0.cells.toList = some y) :
    Calls Try.prog 8 #[v0] w fun e w' => e = .returned (.bool true) ∧ Below w.heap.size w w' := by
  obtain ⟨x, rfl, hx⟩ := open_i64C o0 t0
  clear o0 t0 hx
  go_enter Try.func8, Try.ntmps8
  have HS : Hid (∀ W, Calls Try.prog 31 #[.int .i64 x] W fun e w' => e = .returned (.agg #[.int .i64 (if winB x = true then 0 else 3), .int .i64 (if winB x = true then x else 0), .int .i64 (if winB x = true then 64 else 0), .int .i64 0]) ∧ Below W.heap.size W w') := fun W => sStartControl x W
  have HI : Hid (∀ W, Calls Try.prog 32 #[.int .i64 x] W fun e w' => e = .returned (.agg #[.int .i64 (if winB x = true then 0 else 3), .int .i64 (if winB x = true then x else 0), .int .i64 (if winB x = true then 64 else 0), .int .i64 0]) ∧ Below W.heap.size W w') := fun W => iStartControl x W
  generalize (if winB x = true then (0 : Int) else 3) = c at *
  generalize (if winB x = true then x else 0) = v at *
  generalize (if winB x = true then (64 : Int) else 0) = u at *
  go_wp2_with fail
  refine (HS.out _).mono ?_
  rintro e w1 ⟨rfl, hb1⟩
  have b1 := hb1
  clear hb1
  go_wp2_with fail
  refine (HI.out _).mono ?_
  rintro e w2 ⟨rfl, hb2⟩
  have k2 := bx_new hb2
  obtain ⟨c2, z2⟩ := bl_new hb2
  have b2 := b1.trans (c2.mono b1.size)
  clear hb2
  go_wp2_with fail
  refine (lEqControlR _ _ _ _ _).mono ?_
  rintro e w3 ⟨rfl, hb3⟩
  obtain ⟨c3, z3⟩ := bl_new hb3
  have b3 := b2.trans (c3.mono b2.size)
  clear hb3 k2
  go_wp2_with fail
  go_ret
  exact ⟨rfl, b3⟩

set_option maxRecDepth 100000 in
theorem lifted (os : Os) (started : os.Started) (H : Type) (enc : TypeId × Value → H) :
    ReturnsInHanded {} Try.checked os 8 .any (Rows.fnExactStartControlSpec.pre6 enc Try.prog Try.f8 Rows.fnExactStartControlRow.domain false) (Rows.fnExactStartControlSpec.post enc Try.prog Try.f8 false true false false) := by
  refine returnsInHanded_of_change (C := Try.checked) own started (by kernel_rfl) Try.func8
    (ChangeSpec.witness6 (enc := enc) (C := Try.checked) false ⟨#[], #[.int .i64 0], []⟩ 8 (by kernel_rfl) (by kernel_rfl) (by kernel_rfl) (by kernel_rfl)) ?_
  intro W base args ds gs before hval0 hW hcnd _
  have hval : ∀ (j : Nat) t v, Try.f8.params[j]? = some t → args[j]? = some v → Value.okWide Try.prog W .any base t v := hval0
  have hW' := hW
  obtain ⟨p, q, hA0, hV, rfl, hfz, hnd⟩ := hW
  have hA : DataW.TrodAll enc Try.prog W 0 (fun _ => true) true Try.f8.params.toList args.toList ds p := hA0
  rw [Try.params8] at hA hval
  obtain ⟨v0, vs0, d0, ds0, p0, q0, hargs, rfl, rfl, h0, r0⟩ := trodAll_cons hA
  obtain ⟨rfl, rfl, rfl⟩ := trodAll_nil r0
  obtain rfl : args = #[v0] := by cases args; simp_all
  obtain ⟨rfl, rfl⟩ := trodVars_none hV
  have lt0 : ∀ x ∈ p0, x.block < W.heap.size := by obtain ⟨m, hm⟩ := h0; exact DataW.trod_lt m _ _ _ hm
  have t0 : ∃ n y, DataW.trod enc Try.prog W 0 (fun _ => true) true n 2 v0.cells.toList = some y := by obtain ⟨m, hm⟩ := h0; exact ⟨m, _, hm⟩
  refine (walk enc v0 W base (hval 0 2 v0 rfl rfl) t0).mono fun e W' ⟨he, bel⟩ => ?_
  subst he
  exact ⟨_, rfl, _, _, _, [], _, [], hW', trodAll_mk1 (shut_bool Try.underlying4 _), (trodAll_cons_mk (Below.trod laidOut (by kernel_rfl) (of_decide_eq_true (by kernel_rfl)) h0 bel lt0) trodAll_mk0), rfl, bel.frame _, fun h => by cases h⟩

theorem over : Rows.fnExactStartControlRow.holds Try.pinned (OpenSpec.ofChange Rows.fnExactStartControlSpec) :=
  OpenClaim.holds_of_wide 8 Try.f8 rfl rfl rfl rfl rfl rfl rfl ⟨rfl, rfl, rfl, rfl, rfl⟩ rfl rfl rfl rfl rfl (by kernel_rfl) Try.func8 (by kernel_rfl)
    (of_decide_eq_true (by kernel_rfl)) (by unfold Func.isWrapper; first | (rw [if_pos (by decide +kernel)]; kernel_rfl) | (rw [if_neg (by decide +kernel)]; exact ⟨rfl, rfl⟩))
    (fun os started H enc _ => lifted os started H enc)

theorem proved : Rows.FnExactStartControlSaid := over
#print axioms proved
end Go.Proofs.Ytabkmcniacmgcal.fnExactStartControl

namespace Go.Proofs.Ytabkmcniacmgcal
theorem fnExactStartControl_holds : Rows.FnExactStartControlSaid := fnExactStartControl.proved
end Go.Proofs.Ytabkmcniacmgcal
