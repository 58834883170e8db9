/- Proved: at every list of numbers the program's MixOf answers as its model does, and the list is as it was; no condition. -/
import Derived.Test.YthgdbbbdmhhjaajRows
import Derived.WalkKit
import Derived.ProofKit
import Derived.OpenShut
import Derived.ShutString
import Derived.ChangeOld
import Derived.Below
import Derived.Test.YthgdbbbdmhhjaajBase
import Derived.Test.YthgdbbbdmhhjaajNum
import Derived.Test.YthgdbbbdmhhjaajNumWalks
import Derived.Test.YthgdbbbdmhhjaajInts
import Derived.Test.YthgdbbbdmhhjaajMixDef
import Derived.Test.YthgdbbbdmhhjaajMix
import Derived.Test.YthgdbbbdmhhjaajMix2
import Derived.Test.YthgdbbbdmhhjaajMix3
namespace Go.Proofs.Ythgdbbbdmhhjaaj.fnExactMixOf
open Go.ChangeShapes Go.WideShapes Go.ChangeAt Go.RowKit
open Go.ChangeMaps (open_string shut_string)
set_option linter.unusedVariables false

theorem own : ownKnob Try.prog.godebug = none := by kernel_rfl
theorem laidOut : laidOutB Try.prog = true := by kernel_rfl

/-- WHAT THE WALK IS TOLD OF A SLICE OF INTEGERS THAT CAME IN: it is nil; or it leads to a row of 'cap' cells, the numbers 'zs' (the first 'len' are its elements, the rest its spare room), each fitting its kind. -/
def IsRow (k : IntKind) (w : World) (a : Option Addr) (len cap : Nat) (zs : List Int) : Prop :=
  (a = none ∧ len = 0 ∧ cap = 0 ∧ zs = []) ∨
  ∃ x, a = some x ∧ len ≤ cap ∧ cap ≤ maxLen ∧ zs.length = cap ∧ (∀ i, i < zs.length → w.cell? (x.add i) = some (.int k (zs.getD i 0))) ∧ ∀ n ∈ zs, (Lit.int k n).wf = true

theorem walk (a0 : Option Addr) (len0 cap0 : Nat) (z0 : List Int) (w : World) (w0 : IsRow .i64 w a0 len0 cap0 z0) :
    Calls Try.prog 5 #[.slice a0 len0 cap0] w fun e w' => e = .returned (.bool true) ∧ Below w.heap.size w w' := by
  have r0 : BRow .i64 w a0 len0 cap0 z0 := w0
  by_cases hbig : 1048576 < len0
  · clear r0 w0
    go_enter Try.func5, Try.ntmps5
    go_wp2
    go_ret
    exact ⟨rfl, by go_grown⟩
  · obtain ⟨ri, hl⟩ := r0.ri
    generalize z0.take len0 = l at *
    clear r0 w0
    have HR : Hid (∀ W, Below w.heap.size w W → RI W a0 l) := fun W h => ri.below (Nat.le_refl _) h
    clear ri
    go_enter Try.func5, Try.ntmps5
    go_wp2_with fail
    refine (lToInts a0 len0 cap0 l _ hl (HR.out _ (Below.refl _ _)) (by omega)).mono ?_
    rintro e w1 ⟨rfl, r1, b1⟩
    go_wp2_with fail
    refine (sMixOf _ len0 len0 l _ hl r1 (by omega)).mono ?_
    rintro e w2 ⟨rfl, hw⟩
    subst w2
    clear r1
    go_wp2_with fail
    refine (lToInts a0 len0 cap0 l _ hl (HR.out _ b1) (by omega)).mono ?_
    rintro e w3 ⟨rfl, r3, b3⟩
    have b13 := b1.trans (b3.mono b1.size)
    go_wp2_with fail
    refine (iMixOf _ len0 len0 l _ hl r3 (by omega)).mono ?_
    rintro e w4 ⟨rfl, b4⟩
    have r4 := r3.below (Nat.le_refl _) b4
    have b14 := b13.trans (b4.mono b13.size)
    clear r3
    go_wp2_with fail
    refine (lToInts a0 len0 cap0 l _ hl (HR.out _ b14) (by omega)).mono ?_
    rintro e w5 ⟨rfl, r5, b5⟩
    have r45 := r4.below (Nat.le_refl _) b5
    have b15 := b14.trans (b5.mono b14.size)
    go_wp2_with fail
    refine (lEqInts _ _ len0 len0 len0 l _ hl r45 r5 (by omega)).mono ?_
    rintro e w6 ⟨m, rfl, hw⟩
    subst w6
    go_wp2_with fail
    go_ret
    exact ⟨rfl, below_drewN b15 m⟩

set_option maxRecDepth 100000 in
theorem lifted (os : Os) (started : os.Started) (H : Type) (enc : TypeId × Value → H) :
    ReturnsInHanded {} Try.checked os 5 .any (Rows.fnExactMixOfSpec.pre6 enc Try.prog Try.f5 Rows.fnExactMixOfRow.domain false) (Rows.fnExactMixOfSpec.post enc Try.prog Try.f5 false true false false) := by
  refine returnsInHanded_of_change (C := Try.checked) own started (by kernel_rfl) Try.func5
    (ChangeSpec.witness6 (enc := enc) (C := Try.checked) false ⟨#[], #[.slice none 0 0], []⟩ 8 (by kernel_rfl) (by kernel_rfl) (by kernel_rfl) (by kernel_rfl)) ?_
  intro W base args ds gs before hval0 hW hcnd _
  have hval : ∀ (j : Nat) t v, Try.f5.params[j]? = some t → args[j]? = some v → Value.okWide Try.prog W .any base t v := hval0
  have hW' := hW
  obtain ⟨p, q, hA0, hV, rfl, hfz, hnd⟩ := hW
  have hA : DataW.TrodAll enc Try.prog W 0 (fun _ => true) true Try.f5.params.toList args.toList ds p := hA0
  rw [Try.params5] at hA hval
  obtain ⟨v0, vs0, d0, ds0, p0, q0, hargs, rfl, rfl, h0, r0⟩ := trodAll_cons hA
  obtain ⟨rfl, rfl, rfl⟩ := trodAll_nil r0
  obtain rfl : args = #[v0] := by cases args; simp_all
  obtain ⟨rfl, rfl⟩ := trodVars_none hV
  obtain ⟨a0, len0, cap0, rfl⟩ := okWide_slice Try.underlying41 (hval 0 41 v0 rfl rfl)
  have k0 := h0
  have lt0 : ∀ x ∈ p0, x.block < W.heap.size := by obtain ⟨m, hm⟩ := k0; exact DataW.trod_lt m _ _ _ hm
  obtain ⟨z0, w0⟩ : ∃ zs, IsRow .i64 W a0 len0 cap0 zs := by
    obtain ⟨fuel, hf⟩ := h0
    rcases open_ints Try.underlying41 Try.underlying2 (by kernel_rfl) hf with ⟨hcs, _⟩ | ⟨x, l, c, zs, hcs, _, hl, hm, hz, _, hcell, hwz⟩
    · simp [Value.cells] at hcs
      obtain ⟨rfl, rfl, rfl⟩ := hcs
      exact ⟨[], .inl ⟨rfl, rfl, rfl, rfl⟩⟩
    · simp [Value.cells] at hcs
      obtain ⟨rfl, rfl, rfl⟩ := hcs
      exact ⟨zs, .inr ⟨_, rfl, hl, hm, by simpa using hz, hcell, hwz⟩⟩
  clear hA0 hval0
  refine (walk a0 len0 cap0 z0 W w0).mono fun e W' ⟨he, bel⟩ => ?_
  subst he
  exact ⟨_, rfl, _, _, _, [], _, [], hW', trodAll_mk1 (shut_bool Try.underlying4 _), (trodAll_cons_mk (Below.trod laidOut (by kernel_rfl) (of_decide_eq_true (by kernel_rfl)) k0 bel lt0) trodAll_mk0), rfl, bel.frame _, fun h => by cases h⟩

theorem over : Rows.fnExactMixOfRow.holds Try.pinned (OpenSpec.ofChange Rows.fnExactMixOfSpec) :=
  OpenClaim.holds_of_wide 5 Try.f5 rfl rfl rfl rfl rfl rfl rfl ⟨rfl, rfl, rfl, rfl, rfl⟩ rfl rfl rfl rfl rfl (by kernel_rfl) Try.func5 (by kernel_rfl)
    (of_decide_eq_true (by kernel_rfl)) (by unfold Func.isWrapper; first | (rw [if_pos (by decide +kernel)]; kernel_rfl) | (rw [if_neg (by decide +kernel)]; exact ⟨rfl, rfl⟩))
    (fun os started H enc _ => lifted os started H enc)

theorem proved : Rows.FnExactMixOfSaid := over
#print axioms proved
end Go.Proofs.Ythgdbbbdmhhjaaj.fnExactMixOf

namespace Go.Proofs.Ythgdbbbdmhhjaaj
theorem fnExactMixOf_holds : Rows.FnExactMixOfSaid := fnExactMixOf.proved
end Go.Proofs.Ythgdbbbdmhhjaaj
