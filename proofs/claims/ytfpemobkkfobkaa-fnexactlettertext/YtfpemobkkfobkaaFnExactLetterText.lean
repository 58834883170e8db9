/- Proved: at all bytes the program's LetterText answers as its model does, code and text, and the bytes are as they were; no condition. -/
import Derived.Test.YtfpemobkkfobkaaRows
import Derived.WalkKit
import Derived.ProofKit
import Derived.OpenShut
import Derived.ShutString
import Derived.ChangeOld
import Derived.Below
import Derived.Test.YtfpemobkkfobkaaBase
import Derived.Test.YtfpemobkkfobkaaBytes
import Derived.Test.YtfpemobkkfobkaaAppBytes
import Derived.Test.YtfpemobkkfobkaaApp
import Derived.Test.YtfpemobkkfobkaaMem
import Derived.Test.YtfpemobkkfobkaaMemOpen
import Derived.Test.YtfpemobkkfobkaaMemRow
import Derived.Test.YtfpemobkkfobkaaHBase
import Derived.Test.YtfpemobkkfobkaaHOpen0
import Derived.Test.YtfpemobkkfobkaaByPar
import Derived.Test.YtfpemobkkfobkaaBox
import Derived.Test.YtfpemobkkfobkaaLetT
import Derived.Test.YtfpemobkkfobkaaLetT2
namespace Go.Proofs.Ytfpemobkkfobkaa.fnExactLetterText
open Go.ChangeShapes Go.WideShapes Go.ChangeAt Go.RowKit
set_option linter.unusedVariables false

theorem own : ownKnob Try.prog.godebug = none := by kernel_rfl
theorem laidOut : laidOutB Try.prog = true := by kernel_rfl


set_option maxHeartbeats 1000000 in
theorem walk {H : Type} (enc : TypeId × Value → H) (v0 : Value) (w : World) (base : Nat)
    (o0 : Value.okWide Try.prog w .any base 22 v0) (t0 : ∃ n y, DataW.trod enc Try.prog w 0 (fun _ => true) true n 22 v0.cells.toList = some y) :
    Calls Try.prog 3 #[v0] w fun e w' => e = .returned (.bool true) ∧ Below w.heap.size w w' := by
  obtain ⟨l, hR⟩ := open_byv o0 t0
  obtain ⟨a, n, cap, rfl, hl0, HR, -⟩ := open_by hR
  have hl := hl0.out
  clear o0 t0 hR hl0
  by_cases hbig : 1048576 < n
  · go_enter Try.func3, Try.ntmps3
    go_wp2_with fail
    go_ret
    exact ⟨rfl, by go_grown⟩
  · have HB : Hid (Below w.heap.size w w) := Below.refl _ _
    generalize hlc : ltC n = C at *
    generalize hls : ltS n l = S at *
    have HS : Hid (∀ (W : World) (a : Option Addr) (cap : Nat), RB W a l → Calls Try.prog 5 #[.slice a n cap] W fun e w' => e = .returned (.agg #[.int .i64 C, .string S]) ∧ Below W.heap.size W w') := fun W a cap h => by subst hlc hls; exact sLetterText a n cap l W hl h (by omega)
    have HI : Hid (∀ (W : World) (a : Option Addr) (cap : Nat), RB W a l → (a = none → cap = 0) → Calls Try.prog 7 #[.slice a n cap] W fun e w' => e = .returned (.agg #[.int .i64 C, .string S]) ∧ Below W.heap.size W w') := fun W a cap h hz => by subst hlc hls; exact iLetterText a n cap l W hl h hz (by omega)
    clear hlc hls
    go_enter Try.func3, Try.ntmps3
    go_wp2_with fail
    refine (lToByteS a n cap l _ hl (HR.out _ (by have := HB.out; go_grown)) (by omega)).mono ?_
    rintro e w1 ⟨rfl, ho1, hb⟩
    obtain ⟨a1, c1, e1, hr1, hz1⟩ := ho1.rbn
    obtain ⟨e11, e12⟩ : some ⟨_, 0, none⟩ = a1 ∧ n = c1 := by
      simp only [Value.slice.injEq] at e1; exact ⟨e1.1, e1.2.2⟩
    subst e11 e12
    clear ho1 e1 hz1
    replace HB : Hid (Below w.heap.size w w1) := HB.out.trans hb
    have H1 : Hid _ := hr1
    clear hb hr1
    go_wp2_with fail
    refine (HS.out _ _ _ H1.out).mono ?_
    rintro e w2 ⟨rfl, hb⟩
    replace HB : Hid (Below w.heap.size w w2) := HB.out.trans (hb.mono HB.out.size)
    clear hb H1
    go_wp2_with fail
    refine (lToByteS a n cap l _ hl (HR.out _ (HB.out.alloc HB.out.size _)) (by omega)).mono ?_
    rintro e w3 ⟨rfl, ho2, hb⟩
    obtain ⟨a2, c2, e2, hr2⟩ := ho2.rb
    obtain ⟨e21, e22⟩ : some ⟨_, 0, none⟩ = a2 ∧ n = c2 := by
      simp only [Value.slice.injEq] at e2; exact ⟨e2.1, e2.2.2⟩
    subst e21 e22
    clear ho2 e2
    have kS := bx_new hb
    obtain ⟨hb, zS⟩ := bl_new hb
    replace HB : Hid (Below w.heap.size w w3) := HB.out.trans (hb.mono HB.out.size)
    have H2 : Hid (RB w3 (some ⟨w2.heap.size + 1, 0, none⟩) l) := by have h := hr2; simp at h; exact h
    clear hb hr2
    go_wp2_with fail
    refine (HI.out _ _ _ H2.out (by simp)).mono ?_
    rintro e w4 ⟨rfl, hb⟩
    have kS := bx_below kS zS hb
    have zS := Nat.lt_of_lt_of_le zS hb.size
    replace HB : Hid (Below w.heap.size w w4) := HB.out.trans (hb.mono HB.out.size)
    have hr2 := H2.out.below (Nat.le_refl _) hb
    clear H2
    have H2 : Hid _ := hr2
    clear hb hr2 HS HI
    go_wp2_with fail
    refine (lEqTextResult C S _).mono ?_
    rintro e w5 ⟨rfl, hb⟩
    obtain ⟨hb, -⟩ := bl_new hb
    replace HB : Hid (Below w.heap.size w w5) := HB.out.trans (hb.mono HB.out.size)
    have hr2 := H2.out.below (Nat.le_refl _) hb
    clear H2
    have H2 : Hid _ := hr2
    clear hb hr2 kS zS
    go_wp2_with fail
    refine (lToByteS a n cap l _ hl (HR.out _ HB.out) (by omega)).mono ?_
    rintro e w6 ⟨rfl, ho3, hb⟩
    obtain ⟨a3, c3, e3, hr3⟩ := ho3.rb
    obtain ⟨e31, e32⟩ : some ⟨_, 0, none⟩ = a3 ∧ n = c3 := by
      simp only [Value.slice.injEq] at e3; exact ⟨e3.1, e3.2.2⟩
    subst e31 e32
    clear ho3 e3
    have hr2 := H2.out.below (Nat.le_refl _) hb
    replace HB : Hid (Below w.heap.size w w6) := HB.out.trans (hb.mono HB.out.size)
    clear hb H2
    go_wp2_with fail
    refine (lEqByteS _ _ n n n l w6 hl hr2 hr3 (by omega)).mono ?_
    rintro e w7 ⟨m, rfl, hw⟩
    subst w7
    go_wp2_with fail
    go_ret
    exact ⟨rfl, below_drewN HB.out m⟩

set_option maxRecDepth 100000 in
theorem lifted (os : Os) (started : os.Started) (H : Type) (enc : TypeId × Value → H) :
    ReturnsInHanded {} Try.checked os 3 .any (Rows.fnExactLetterTextSpec.pre6 enc Try.prog Try.f3 Rows.fnExactLetterTextRow.domain false) (Rows.fnExactLetterTextSpec.post enc Try.prog Try.f3 false true false false) := by
  refine returnsInHanded_of_change (C := Try.checked) own started (by kernel_rfl) Try.func3
    (ChangeSpec.witness6 (enc := enc) (C := Try.checked) false ⟨#[], #[.slice none 0 0], []⟩ 8 (by kernel_rfl) (by kernel_rfl) (by kernel_rfl) (by kernel_rfl)) ?_
  intro W base args ds gs before hval0 hW hcnd _
  have hval : ∀ (j : Nat) t v, Try.f3.params[j]? = some t → args[j]? = some v → Value.okWide Try.prog W .any base t v := hval0
  have hW' := hW
  obtain ⟨p, q, hA0, hV, rfl, hfz, hnd⟩ := hW
  have hA : DataW.TrodAll enc Try.prog W 0 (fun _ => true) true Try.f3.params.toList args.toList ds p := hA0
  rw [Try.params3] at hA hval
  obtain ⟨v0, vs0, d0, ds0, p0, q0, hargs, rfl, rfl, h0, r0⟩ := trodAll_cons hA
  obtain ⟨rfl, rfl, rfl⟩ := trodAll_nil r0
  obtain rfl : args = #[v0] := by cases args; simp_all
  obtain ⟨rfl, rfl⟩ := trodVars_none hV
  have lt0 : ∀ x ∈ p0, x.block < W.heap.size := by obtain ⟨m, hm⟩ := h0; exact DataW.trod_lt m _ _ _ hm
  have t0 : ∃ n y, DataW.trod enc Try.prog W 0 (fun _ => true) true n 22 v0.cells.toList = some y := by obtain ⟨m, hm⟩ := h0; exact ⟨m, _, hm⟩
  refine (walk enc v0 W base (hval 0 22 v0 rfl rfl) t0).mono fun e W' ⟨he, bel⟩ => ?_
  subst he
  exact ⟨_, rfl, _, _, _, [], _, [], hW', trodAll_mk1 (shut_bool Try.underlying4 _), (trodAll_cons_mk (Below.trod laidOut (by kernel_rfl) (of_decide_eq_true (by kernel_rfl)) h0 bel lt0) trodAll_mk0), rfl, bel.frame _, fun h => by cases h⟩

theorem over : Rows.fnExactLetterTextRow.holds Try.pinned (OpenSpec.ofChange Rows.fnExactLetterTextSpec) :=
  OpenClaim.holds_of_wide 3 Try.f3 rfl rfl rfl rfl rfl rfl rfl ⟨rfl, rfl, rfl, rfl, rfl⟩ rfl rfl rfl rfl rfl (by kernel_rfl) Try.func3 (by kernel_rfl)
    (of_decide_eq_true (by kernel_rfl)) (by unfold Func.isWrapper; first | (rw [if_pos (by decide +kernel)]; kernel_rfl) | (rw [if_neg (by decide +kernel)]; exact ⟨rfl, rfl⟩))
    (fun os started H enc _ => lifted os started H enc)

theorem proved : Rows.FnExactLetterTextSaid := over
#print axioms proved
end Go.Proofs.Ytfpemobkkfobkaa.fnExactLetterText

namespace Go.Proofs.Ytfpemobkkfobkaa
theorem fnExactLetterText_holds : Rows.FnExactLetterTextSaid := fnExactLetterText.proved
end Go.Proofs.Ytfpemobkkfobkaa
