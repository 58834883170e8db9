/- Proved: at all bytes the program's SumBytes answers as its model does, and the bytes are as they were; no condition. -/
import Derived.Test.YtgoeefcbcgmhoahRows
import Derived.WalkKit
import Derived.ProofKit
import Derived.OpenShut
import Derived.ShutString
import Derived.ChangeOld
import Derived.Below
import Derived.Test.YtgoeefcbcgmhoahBase
import Derived.Test.YtgoeefcbcgmhoahBytes
import Derived.Test.YtgoeefcbcgmhoahAppBytes
import Derived.Test.YtgoeefcbcgmhoahSeg
import Derived.Test.YtgoeefcbcgmhoahOpenV
import Derived.Test.YtgoeefcbcgmhoahSpecPack
import Derived.Test.YtgoeefcbcgmhoahImplSum
namespace Go.Proofs.Ytgoeefcbcgmhoah.fnExactSumBytes
open Go.ChangeShapes Go.WideShapes Go.ChangeAt Go.RowKit
set_option linter.unusedVariables false

theorem own : ownKnob Try.prog.godebug = none := by kernel_rfl
theorem laidOut : laidOutB Try.prog = true := by kernel_rfl


set_option maxHeartbeats 1000000 in
theorem walk {H : Type} (enc : TypeId × Value → H) (v0 : Value) (w : World) (base : Nat)
    (o0 : Value.okWide Try.prog w .any base 27 v0) (t0 : ∃ n y, DataW.trod enc Try.prog w 0 (fun _ => true) true n 27 v0.cells.toList = some y) :
    Calls Try.prog 7 #[v0] w fun e w' => e = .returned (.bool true) ∧ Below w.heap.size w w' := by
  obtain ⟨a, n, cap, zs, rfl, hrow⟩ := open_bytesv o0 t0
  have hm : n ≤ maxLen := by
    rcases hrow with ⟨_, h, _⟩ | ⟨x, _, h1, h2, _⟩
    · omega
    · omega
  obtain ⟨hr, hl⟩ := hrow.rb
  generalize zs.take n = l at hr hl
  clear o0 t0 hrow
  by_cases hbig : 1048576 < n
  · go_enter Try.func7, Try.ntmps7
    go_wp2_with fail
    go_ret
    exact ⟨rfl, by go_grown⟩
  · go_enter Try.func7, Try.ntmps7
    go_wp2_with fail
    refine (lToByteS a n cap l w hl hr (by omega)).mono ?_
    rintro e w1 ⟨rfl, ho1, hb1⟩
    obtain ⟨a1, c1, e1, hr1⟩ := ho1.rb
    obtain ⟨e11, e12⟩ : some ⟨w.heap.size, 0, none⟩ = a1 ∧ n = c1 := by
      simp only [Value.slice.injEq] at e1; exact ⟨e1.1, e1.2.2⟩
    subst e11 e12
    have HR : Hid _ := hr
    clear hr ho1 e1
    go_wp2_with fail
    refine (sSumBytes _ n n l w1 hl hr1 (by omega)).mono ?_
    rintro e w2 ⟨rfl, hw⟩
    subst w2
    go_wp2_with fail
    refine (lToByteS a n cap l w1 hl (HR.out.below (Nat.le_refl _) hb1) (by omega)).mono ?_
    rintro e w2 ⟨rfl, ho2, hb2⟩
    obtain ⟨a2, c2, e2, hr2⟩ := ho2.rb
    obtain ⟨e21, e22⟩ : some ⟨w1.heap.size, 0, none⟩ = a2 ∧ n = c2 := by
      simp only [Value.slice.injEq] at e2; exact ⟨e2.1, e2.2.2⟩
    subst e21 e22
    clear ho2 e2 hr1
    go_wp2_with fail
    refine (iSumBytes _ n n l w2 hl hr2 (by omega)).mono ?_
    rintro e w3 ⟨rfl, hw⟩
    subst w3
    have hb12 : Below w.heap.size w w2 := hb1.trans (hb2.mono hb1.size)
    clear hb1 hb2
    go_wp2_with fail
    refine (lToByteS a n cap l w2 hl (HR.out.below (Nat.le_refl _) hb12) (by omega)).mono ?_
    rintro e w3 ⟨rfl, ho3, hb3⟩
    obtain ⟨a3, c3, e3, hr3⟩ := ho3.rb
    obtain ⟨e31, e32⟩ : some ⟨w2.heap.size, 0, none⟩ = a3 ∧ n = c3 := by
      simp only [Value.slice.injEq] at e3; exact ⟨e3.1, e3.2.2⟩
    subst e31 e32
    clear ho3 e3
    go_wp2_with fail
    refine (lEqByteS _ _ n n n l w3 hl (hr2.below (Nat.le_refl _) hb3) hr3 (by omega)).mono ?_
    rintro e w4 ⟨m, rfl, hw⟩
    subst w4
    go_wp2_with fail
    go_ret
    exact ⟨rfl, below_drewN (hb12.trans (hb3.mono hb12.size)) m⟩

set_option maxRecDepth 100000 in
theorem lifted (os : Os) (started : os.Started) (H : Type) (enc : TypeId × Value → H) :
    ReturnsInHanded {} Try.checked os 7 .any (Rows.fnExactSumBytesSpec.pre6 enc Try.prog Try.f7 Rows.fnExactSumBytesRow.domain false) (Rows.fnExactSumBytesSpec.post enc Try.prog Try.f7 false true false false) := by
  refine returnsInHanded_of_change (C := Try.checked) own started (by kernel_rfl) Try.func7
    (ChangeSpec.witness6 (enc := enc) (C := Try.checked) false ⟨#[], #[.slice none 0 0], []⟩ 8 (by kernel_rfl) (by kernel_rfl) (by kernel_rfl) (by kernel_rfl)) ?_
  intro W base args ds gs before hval0 hW hcnd _
  have hval : ∀ (j : Nat) t v, Try.f7.params[j]? = some t → args[j]? = some v → Value.okWide Try.prog W .any base t v := hval0
  have hW' := hW
  obtain ⟨p, q, hA0, hV, rfl, hfz, hnd⟩ := hW
  have hA : DataW.TrodAll enc Try.prog W 0 (fun _ => true) true Try.f7.params.toList args.toList ds p := hA0
  rw [Try.params7] at hA hval
  obtain ⟨v0, vs0, d0, ds0, p0, q0, hargs, rfl, rfl, h0, r0⟩ := trodAll_cons hA
  obtain ⟨rfl, rfl, rfl⟩ := trodAll_nil r0
  obtain rfl : args = #[v0] := by cases args; simp_all
  obtain ⟨rfl, rfl⟩ := trodVars_none hV
  have lt0 : ∀ x ∈ p0, x.block < W.heap.size := by obtain ⟨m, hm⟩ := h0; exact DataW.trod_lt m _ _ _ hm
  have t0 : ∃ n y, DataW.trod enc Try.prog W 0 (fun _ => true) true n 27 v0.cells.toList = some y := by obtain ⟨m, hm⟩ := h0; exact ⟨m, _, hm⟩
  refine (walk enc v0 W base (hval 0 27 v0 rfl rfl) t0).mono fun e W' ⟨he, bel⟩ => ?_
  subst he
  exact ⟨_, rfl, _, _, _, [], _, [], hW', trodAll_mk1 (shut_bool Try.underlying4 _), (trodAll_cons_mk (Below.trod laidOut (by kernel_rfl) (of_decide_eq_true (by kernel_rfl)) h0 bel lt0) trodAll_mk0), rfl, bel.frame _, fun h => by cases h⟩

theorem over : Rows.fnExactSumBytesRow.holds Try.pinned (OpenSpec.ofChange Rows.fnExactSumBytesSpec) :=
  OpenClaim.holds_of_wide 7 Try.f7 rfl rfl rfl rfl rfl rfl rfl ⟨rfl, rfl, rfl, rfl, rfl⟩ rfl rfl rfl rfl rfl (by kernel_rfl) Try.func7 (by kernel_rfl)
    (of_decide_eq_true (by kernel_rfl)) (by unfold Func.isWrapper; first | (rw [if_pos (by decide +kernel)]; kernel_rfl) | (rw [if_neg (by decide +kernel)]; exact ⟨rfl, rfl⟩))
    (fun os started H enc _ => lifted os started H enc)

theorem proved : Rows.FnExactSumBytesSaid := over
#print axioms proved
end Go.Proofs.Ytgoeefcbcgmhoah.fnExactSumBytes

namespace Go.Proofs.Ytgoeefcbcgmhoah
theorem fnExactSumBytes_holds : Rows.FnExactSumBytesSaid := fnExactSumBytes.proved
end Go.Proofs.Ytgoeefcbcgmhoah
