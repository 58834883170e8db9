/- Proved: at every two numbers and every list the program's GainOf answers as its model does, code and number, and the list is as it was; no condition. -/
import Derived.Test.YtabkmcniacmgcamRows
import Derived.WalkKit
import Derived.ProofKit
import Derived.OpenShut
import Derived.ShutString
import Derived.ChangeOld
import Derived.Below
import Derived.Test.YtabkmcniacmgcamBase
import Derived.Test.YtabkmcniacmgcamBytes
import Derived.Test.YtabkmcniacmgcamMem
import Derived.Test.YtabkmcniacmgcamMemOpen
import Derived.Test.YtabkmcniacmgcamInts
import Derived.Test.YtabkmcniacmgcamCOpen
import Derived.Test.YtabkmcniacmgcamBox
import Derived.Test.YtabkmcniacmgcamCtrl
import Derived.Test.YtabkmcniacmgcamGain
namespace Go.Proofs.Ytabkmcniacmgcam.fnExactGainOf
open Go.ChangeShapes Go.WideShapes Go.ChangeAt Go.RowKit
set_option linter.unusedVariables false

theorem own : ownKnob Try.prog.godebug = none := by kernel_rfl
theorem laidOut : laidOutB Try.prog = true := by kernel_rfl


set_option maxHeartbeats 1000000 in
theorem walk {H : Type} (enc : TypeId × Value → H) (v0 : Value) (v1 : Value) (v2 : Value) (w : World) (base : Nat)
    (o0 : Value.okWide Try.prog w .any base 2 v0) (t0 : ∃ n y, DataW.trod enc Try.prog w 0 (fun _ => true) true n 2 v0.cells.toList = some y)
    (o1 : Value.okWide Try.prog w .any base 2 v1) (t1 : ∃ n y, DataW.trod enc Try.prog w 0 (fun _ => true) true n 2 v1.cells.toList = some y)
    (o2 : Value.okWide Try.prog w .any base 24 v2) (t2 : ∃ n y, DataW.trod enc Try.prog w 0 (fun _ => true) true n 24 v2.cells.toList = some y) :
    Calls Try.prog 6 #[v0, v1, v2] w fun e w' => e = .returned (.bool true) ∧ Below w.heap.size w w' := by
  obtain ⟨x, rfl, hx⟩ := open_i64C o0 t0
  obtain ⟨y, rfl, hy⟩ := open_i64C o1 t1
  obtain ⟨l, ad, cap, rfl, hm, ri⟩ := open_intsC o2 t2
  clear o0 t0 o1 t1 o2 t2 hx hy
  obtain ⟨n, hl⟩ : ∃ n, l.length = n := ⟨_, rfl⟩
  rw [hl] at hm ⊢
  by_cases hbig : 1048576 < n
  · clear ri
    go_enter Try.func6, Try.ntmps6
    go_wp2_with fail
    go_ret
    exact ⟨rfl, Below.refl _ _⟩
  · have HR : Hid (∀ W, Below w.heap.size w W → RI W ad l) := fun W h => ri.below (Nat.le_refl _) h
    have HS : Hid (∀ W a c, RI W a l → Calls Try.prog 17 #[.int .i64 x, .int .i64 y, .slice a n c] W fun e w' => e = .returned (.agg #[.int .i64 (gnC x y l), .int .i64 (gnV x y l)]) ∧ Below W.heap.size W w') := fun W a c h => sGainOf x y l a n c W hl h (by omega)
    have HI : Hid (∀ W a c, RI W a l → Calls Try.prog 18 #[.int .i64 x, .int .i64 y, .slice a n c] W fun e w' => e = .returned (.agg #[.int .i64 (gnC x y l), .int .i64 (gnV x y l)]) ∧ Below W.heap.size W w') := fun W a c h => iGainOf x y l a n c W hl h (by omega)
    have HLL : Hid (l.length = n) := hl
    clear ri hl
    generalize gnC x y l = C at *
    generalize gnV x y l = V at *
    go_enter Try.func6, Try.ntmps6
    go_wp2_with fail
    refine (lToInts ad n cap l _ HLL.out (HR.out _ (Below.refl _ _)) (by omega)).mono ?_
    rintro e w1 ⟨rfl, r1, b1⟩
    have Q1 : Hid _ := r1
    clear r1
    go_wp2_with fail
    refine (HS.out _ _ _ Q1.out).mono ?_
    rintro e w2 ⟨rfl, hb2⟩
    have b2 := b1.trans (hb2.mono b1.size)
    clear hb2 Q1
    go_wp2_with fail
    refine (lToInts ad n cap l _ HLL.out (HR.out _ (b2.alloc b2.size _)) (by omega)).mono ?_
    rintro e w3 ⟨rfl, r3, hb3⟩
    have k3 := bx_new hb3
    obtain ⟨c3, z3⟩ := bl_new hb3
    have b3 := b2.trans (c3.mono b2.size)
    simp only [World.size_alloc] at r3
    have Q3 : Hid _ := r3
    clear r3 hb3
    go_wp2_with fail
    refine (HI.out _ _ _ Q3.out).mono ?_
    rintro e w4 ⟨rfl, hb4⟩
    have k4 := bx_below k3 z3 hb4
    have b4 := b3.trans (hb4.mono b3.size)
    have z4 := Nat.lt_of_lt_of_le z3 hb4.size
    have Q4 : Hid _ := Q3.out.below (Nat.le_refl _) hb4
    clear k3 Q3 hb4
    go_wp2_with fail
    refine (lEqIntC _ _ _).mono ?_
    rintro e w5 ⟨rfl, hb5⟩
    obtain ⟨c5, z5⟩ := bl_new hb5
    have b5 := b4.trans (c5.mono b4.size)
    have Q5 : Hid _ := Q4.out.below (Nat.le_refl _) c5
    clear k4 Q4 hb5
    go_wp2_with fail
    refine (lToInts ad n cap l _ HLL.out (HR.out _ b5) (by omega)).mono ?_
    rintro e w6 ⟨rfl, r6, hb6⟩
    have b6 := b5.trans (hb6.mono b5.size)
    have Q6 : Hid _ := Q5.out.below (Nat.le_refl _) hb6
    have R6 : Hid _ := r6
    clear Q5 hb6 r6
    go_wp2_with fail
    refine (lEqInts _ _ n n n l _ HLL.out Q6.out R6.out (by omega)).mono ?_
    rintro e w7 ⟨m, rfl, hw⟩
    subst w7
    go_wp2_with fail
    go_ret
    exact ⟨rfl, below_drewN b6 m⟩

set_option maxRecDepth 100000 in
theorem lifted (os : Os) (started : os.Started) (H : Type) (enc : TypeId × Value → H) :
    ReturnsInHanded {} Try.checked os 6 .any (Rows.fnExactGainOfSpec.pre6 enc Try.prog Try.f6 Rows.fnExactGainOfRow.domain false) (Rows.fnExactGainOfSpec.post enc Try.prog Try.f6 false true false false) := by
  refine returnsInHanded_of_change (C := Try.checked) own started (by kernel_rfl) Try.func6
    (ChangeSpec.witness6 (enc := enc) (C := Try.checked) false ⟨#[], #[.int .i64 0, .int .i64 0, .slice none 0 0], []⟩ 8 (by kernel_rfl) (by kernel_rfl) (by kernel_rfl) (by kernel_rfl)) ?_
  intro W base args ds gs before hval0 hW hcnd _
  have hval : ∀ (j : Nat) t v, Try.f6.params[j]? = some t → args[j]? = some v → Value.okWide Try.prog W .any base t v := hval0
  have hW' := hW
  obtain ⟨p, q, hA0, hV, rfl, hfz, hnd⟩ := hW
  have hA : DataW.TrodAll enc Try.prog W 0 (fun _ => true) true Try.f6.params.toList args.toList ds p := hA0
  rw [Try.params6] at hA hval
  obtain ⟨v0, vs0, d0, ds0, p0, q0, hargs, rfl, rfl, h0, r0⟩ := trodAll_cons hA
  obtain ⟨v1, vs1, d1, ds1, p1, q1, rfl, rfl, rfl, h1, r1⟩ := trodAll_cons r0
  obtain ⟨v2, vs2, d2, ds2, p2, q2, rfl, rfl, rfl, h2, r2⟩ := trodAll_cons r1
  obtain ⟨rfl, rfl, rfl⟩ := trodAll_nil r2
  obtain rfl : args = #[v0, v1, v2] := by cases args; simp_all
  obtain ⟨rfl, rfl⟩ := trodVars_none hV
  have lt0 : ∀ x ∈ p0, x.block < W.heap.size := by obtain ⟨m, hm⟩ := h0; exact DataW.trod_lt m _ _ _ hm
  have t0 : ∃ n y, DataW.trod enc Try.prog W 0 (fun _ => true) true n 2 v0.cells.toList = some y := by obtain ⟨m, hm⟩ := h0; exact ⟨m, _, hm⟩
  have lt1 : ∀ x ∈ p1, x.block < W.heap.size := by obtain ⟨m, hm⟩ := h1; exact DataW.trod_lt m _ _ _ hm
  have t1 : ∃ n y, DataW.trod enc Try.prog W 0 (fun _ => true) true n 2 v1.cells.toList = some y := by obtain ⟨m, hm⟩ := h1; exact ⟨m, _, hm⟩
  have lt2 : ∀ x ∈ p2, x.block < W.heap.size := by obtain ⟨m, hm⟩ := h2; exact DataW.trod_lt m _ _ _ hm
  have t2 : ∃ n y, DataW.trod enc Try.prog W 0 (fun _ => true) true n 24 v2.cells.toList = some y := by obtain ⟨m, hm⟩ := h2; exact ⟨m, _, hm⟩
  refine (walk enc v0 v1 v2 W base (hval 0 2 v0 rfl rfl) t0 (hval 1 2 v1 rfl rfl) t1 (hval 2 24 v2 rfl rfl) t2).mono fun e W' ⟨he, bel⟩ => ?_
  subst he
  exact ⟨_, rfl, _, _, _, [], _, [], hW', trodAll_mk1 (shut_bool Try.underlying4 _), (trodAll_cons_mk (Below.trod laidOut (by kernel_rfl) (of_decide_eq_true (by kernel_rfl)) h0 bel lt0) (trodAll_cons_mk (Below.trod laidOut (by kernel_rfl) (of_decide_eq_true (by kernel_rfl)) h1 bel lt1) (trodAll_cons_mk (Below.trod laidOut (by kernel_rfl) (of_decide_eq_true (by kernel_rfl)) h2 bel lt2) trodAll_mk0))), rfl, bel.frame _, fun h => by cases h⟩

theorem over : Rows.fnExactGainOfRow.holds Try.pinned (OpenSpec.ofChange Rows.fnExactGainOfSpec) :=
  OpenClaim.holds_of_wide 6 Try.f6 rfl rfl rfl rfl rfl rfl rfl ⟨rfl, rfl, rfl, rfl, rfl⟩ rfl rfl rfl rfl rfl (by kernel_rfl) Try.func6 (by kernel_rfl)
    (of_decide_eq_true (by kernel_rfl)) (by unfold Func.isWrapper; first | (rw [if_pos (by decide +kernel)]; kernel_rfl) | (rw [if_neg (by decide +kernel)]; exact ⟨rfl, rfl⟩))
    (fun os started H enc _ => lifted os started H enc)

theorem proved : Rows.FnExactGainOfSaid := over
#print axioms proved
end Go.Proofs.Ytabkmcniacmgcam.fnExactGainOf

namespace Go.Proofs.Ytabkmcniacmgcam
theorem fnExactGainOf_holds : Rows.FnExactGainOfSaid := fnExactGainOf.proved
end Go.Proofs.Ytabkmcniacmgcam
