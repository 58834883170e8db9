/- Proved: at every number and all bytes the program's SumLoad answers as its model does, and the bytes are as they were; no condition. -/
import Derived.Test.YtgoeefcbcgmhoahRows
import Derived.WalkKit
import Derived.ProofKit
import Derived.OpenShut
import Derived.ShutString
import Derived.ChangeOld
import Derived.Below
import Derived.Test.YtgoeefcbcgmhoahBase
import Derived.Test.YtgoeefcbcgmhoahNum
import Derived.Test.YtgoeefcbcgmhoahNumWalks
import Derived.Test.YtgoeefcbcgmhoahBytes
import Derived.Test.YtgoeefcbcgmhoahAppBytes
import Derived.Test.YtgoeefcbcgmhoahApp
import Derived.Test.YtgoeefcbcgmhoahSeg
import Derived.Test.YtgoeefcbcgmhoahOpenV
import Derived.Test.YtgoeefcbcgmhoahLaw
import Derived.Test.YtgoeefcbcgmhoahSpecPack
import Derived.Test.YtgoeefcbcgmhoahImplSum
import Derived.Test.YtgoeefcbcgmhoahSpecLoad
import Derived.Test.YtgoeefcbcgmhoahWriter
import Derived.Test.YtgoeefcbcgmhoahImplLoad
namespace Go.Proofs.Ytgoeefcbcgmhoah.fnExactSumLoad
open Go.ChangeShapes Go.WideShapes Go.ChangeAt Go.RowKit
set_option linter.unusedVariables false

theorem own : ownKnob Try.prog.godebug = none := by kernel_rfl
theorem laidOut : laidOutB Try.prog = true := by kernel_rfl


set_option maxHeartbeats 2000000 in
theorem walk {H : Type} (enc : TypeId × Value → H) (v0 : Value) (v1 : Value) (w : World) (base : Nat)
    (o0 : Value.okWide Try.prog w .any base 2 v0) (t0 : ∃ n y, DataW.trod enc Try.prog w 0 (fun _ => true) true n 2 v0.cells.toList = some y)
    (o1 : Value.okWide Try.prog w .any base 27 v1) (t1 : ∃ n y, DataW.trod enc Try.prog w 0 (fun _ => true) true n 27 v1.cells.toList = some y) :
    Calls Try.prog 8 #[v0, v1] w fun e w' => e = .returned (.bool true) ∧ Below w.heap.size w w' := by
  obtain ⟨x0, rfl, hwf0⟩ := open_i64v o0 t0
  obtain ⟨pa1, n1, pc1, zs1, rfl, hrow⟩ := open_bytesv o1 t1
  obtain ⟨hr, hl⟩ := hrow.rb
  obtain ⟨mx1, hn⟩ := hrow.small
  generalize zs1.take n1 = l1 at hr hl
  subst hl
  have M1 : Hid _ := hn
  have P1 : Hid _ := hr
  have Q1 : Hid _ := hr
  clear hrow hr hn
  clear o0 t0 o1 t1 hwf0
  have HW : Hid (Below w.heap.size w w) := Below.refl _ _
  by_cases hbig1 : 1048576 < l1.length
  · go_enter Try.func8, Try.ntmps8
    go_wp2_with fail
    go_ret
    exact ⟨rfl, by go_grown⟩
  · skip
    go_enter Try.func8, Try.ntmps8
    go_wp2_with fail
    refine (lToBytes pa1 _ pc1 l1 _ rfl ?_ (by omega)).mono ?_
    · first | exact P1.out | exact RB.below P1.out (Nat.le_refl _) (by go_grown) | exact RB.below P1.out (Nat.le_refl _) (Below.drew (Below.refl _ _))
    rintro e w1 ⟨v, rfl, ho, hb⟩
    obtain ⟨a1, c1, rfl, hr, hn⟩ := ho.rbn
    have R1 : Hid _ := hr
    have N1 : Hid _ := hn
    clear ho hr hn
    have Z1 : Hid (w.heap.size ≤ w1.heap.size) := hb.size
    replace P1 : Hid _ := RB.below P1.out (Nat.le_refl _) hb
    replace HW : Hid _ := HW.out.trans (hb.mono HW.out.size)
    clear hb
    go_wp2_with fail
    refine (sSumLoad x0 a1 _ c1 l1 _ rfl ?_ N1.out (by omega)).mono ?_
    · first | exact R1.out | exact RB.below R1.out (Nat.le_refl _) (by go_grown) | exact RB.below R1.out (Nat.le_refl _) (Below.drew (Below.refl _ _))
    rintro e w2 ⟨rfl, hb⟩
    have Z2 : Hid (w1.heap.size ≤ w2.heap.size) := hb.size
    replace P1 : Hid _ := RB.below P1.out (Nat.le_refl _) hb
    replace R1 : Hid _ := RB.below R1.out (Nat.le_refl _) hb
    replace HW : Hid _ := HW.out.trans (hb.mono HW.out.size)
    clear hb
    go_wp2_with fail
    refine (lToBytes pa1 _ pc1 l1 _ rfl ?_ (by omega)).mono ?_
    · first | exact P1.out | exact RB.below P1.out (Nat.le_refl _) (by go_grown) | exact RB.below P1.out (Nat.le_refl _) (Below.drew (Below.refl _ _))
    rintro e w3 ⟨v, rfl, ho, hb⟩
    obtain ⟨a3, c3, rfl, hr, hn⟩ := ho.rbn
    have R3 : Hid _ := hr
    have N3 : Hid _ := hn
    clear ho hr hn
    have Z3 : Hid (w2.heap.size ≤ w3.heap.size) := hb.size
    replace P1 : Hid _ := RB.below P1.out (Nat.le_refl _) hb
    replace R1 : Hid _ := RB.below R1.out (Nat.le_refl _) hb
    replace HW : Hid _ := HW.out.trans (hb.mono HW.out.size)
    clear hb
    go_wp2_with fail
    refine (iSumLoad x0 a3 _ c3 l1 _ rfl ?_ N3.out (by omega)).mono ?_
    · first | exact R3.out | exact RB.below R3.out (Nat.le_refl _) (by go_grown) | exact RB.below R3.out (Nat.le_refl _) (Below.drew (Below.refl _ _))
    rintro e w4 ⟨rfl, hb⟩
    have Z4 : Hid (w3.heap.size ≤ w4.heap.size) := hb.size
    replace P1 : Hid _ := RB.below P1.out (Nat.le_refl _) hb
    replace R1 : Hid _ := RB.below R1.out (Nat.le_refl _) hb
    replace R3 : Hid _ := RB.below R3.out (Nat.le_refl _) hb
    replace HW : Hid _ := HW.out.trans (hb.mono HW.out.size)
    clear hb
    go_wp2_with fail
    refine (lToBytes pa1 _ pc1 l1 _ rfl ?_ (by omega)).mono ?_
    · first | exact P1.out | exact RB.below P1.out (Nat.le_refl _) (by go_grown) | exact RB.below P1.out (Nat.le_refl _) (Below.drew (Below.refl _ _))
    rintro e w5 ⟨v, rfl, ho, hb⟩
    obtain ⟨a5, c5, rfl, hr, hn⟩ := ho.rbn
    have R5 : Hid _ := hr
    have N5 : Hid _ := hn
    clear ho hr hn
    have Z5 : Hid (w4.heap.size ≤ w5.heap.size) := hb.size
    replace P1 : Hid _ := RB.below P1.out (Nat.le_refl _) hb
    replace R1 : Hid _ := RB.below R1.out (Nat.le_refl _) hb
    replace R3 : Hid _ := RB.below R3.out (Nat.le_refl _) hb
    replace HW : Hid _ := HW.out.trans (hb.mono HW.out.size)
    clear hb
    go_wp2_with fail
    refine (lEqBytes a3 a5 _ c3 c5 l1 _ rfl ?_ ?_ (by omega)).mono ?_
    · first | exact R3.out | exact RB.below R3.out (Nat.le_refl _) (by go_grown) | exact RB.below R3.out (Nat.le_refl _) (Below.drew (Below.refl _ _))
    · first | exact R5.out | exact RB.below R5.out (Nat.le_refl _) (by go_grown) | exact RB.below R5.out (Nat.le_refl _) (Below.drew (Below.refl _ _))
    rintro e w6 ⟨rfl, hb⟩
    have Z6 : Hid (w5.heap.size ≤ w6.heap.size) := hb.size
    replace P1 : Hid _ := RB.below P1.out (Nat.le_refl _) hb
    replace R1 : Hid _ := RB.below R1.out (Nat.le_refl _) hb
    replace R3 : Hid _ := RB.below R3.out (Nat.le_refl _) hb
    replace R5 : Hid _ := RB.below R5.out (Nat.le_refl _) hb
    replace HW : Hid _ := HW.out.trans (hb.mono HW.out.size)
    clear hb
    go_wp2_with fail
    go_ret
    exact ⟨rfl, HW.out⟩

set_option maxRecDepth 100000 in
theorem lifted (os : Os) (started : os.Started) (H : Type) (enc : TypeId × Value → H) :
    ReturnsInHanded {} Try.checked os 8 .any (Rows.fnExactSumLoadSpec.pre6 enc Try.prog Try.f8 Rows.fnExactSumLoadRow.domain false) (Rows.fnExactSumLoadSpec.post enc Try.prog Try.f8 false true false false) := by
  refine returnsInHanded_of_change (C := Try.checked) own started (by kernel_rfl) Try.func8
    (ChangeSpec.witness6 (enc := enc) (C := Try.checked) false ⟨#[], #[.int .i64 0, .slice none 0 0], []⟩ 8 (by kernel_rfl) (by kernel_rfl) (by kernel_rfl) (by kernel_rfl)) ?_
  intro W base args ds gs before hval0 hW hcnd _
  have hval : ∀ (j : Nat) t v, Try.f8.params[j]? = some t → args[j]? = some v → Value.okWide Try.prog W .any base t v := hval0
  have hW' := hW
  obtain ⟨p, q, hA0, hV, rfl, hfz, hnd⟩ := hW
  have hA : DataW.TrodAll enc Try.prog W 0 (fun _ => true) true Try.f8.params.toList args.toList ds p := hA0
  rw [Try.params8] at hA hval
  obtain ⟨v0, vs0, d0, ds0, p0, q0, hargs, rfl, rfl, h0, r0⟩ := trodAll_cons hA
  obtain ⟨v1, vs1, d1, ds1, p1, q1, rfl, rfl, rfl, h1, r1⟩ := trodAll_cons r0
  obtain ⟨rfl, rfl, rfl⟩ := trodAll_nil r1
  obtain rfl : args = #[v0, v1] := by cases args; simp_all
  obtain ⟨rfl, rfl⟩ := trodVars_none hV
  have lt0 : ∀ x ∈ p0, x.block < W.heap.size := by obtain ⟨m, hm⟩ := h0; exact DataW.trod_lt m _ _ _ hm
  have t0 : ∃ n y, DataW.trod enc Try.prog W 0 (fun _ => true) true n 2 v0.cells.toList = some y := by obtain ⟨m, hm⟩ := h0; exact ⟨m, _, hm⟩
  have lt1 : ∀ x ∈ p1, x.block < W.heap.size := by obtain ⟨m, hm⟩ := h1; exact DataW.trod_lt m _ _ _ hm
  have t1 : ∃ n y, DataW.trod enc Try.prog W 0 (fun _ => true) true n 27 v1.cells.toList = some y := by obtain ⟨m, hm⟩ := h1; exact ⟨m, _, hm⟩
  refine (walk enc v0 v1 W base (hval 0 2 v0 rfl rfl) t0 (hval 1 27 v1 rfl rfl) t1).mono fun e W' ⟨he, bel⟩ => ?_
  subst he
  exact ⟨_, rfl, _, _, _, [], _, [], hW', trodAll_mk1 (shut_bool Try.underlying4 _), (trodAll_cons_mk (Below.trod laidOut (by kernel_rfl) (of_decide_eq_true (by kernel_rfl)) h0 bel lt0) (trodAll_cons_mk (Below.trod laidOut (by kernel_rfl) (of_decide_eq_true (by kernel_rfl)) h1 bel lt1) trodAll_mk0)), rfl, bel.frame _, fun h => by cases h⟩

theorem over : Rows.fnExactSumLoadRow.holds Try.pinned (OpenSpec.ofChange Rows.fnExactSumLoadSpec) :=
  OpenClaim.holds_of_wide 8 Try.f8 rfl rfl rfl rfl rfl rfl rfl ⟨rfl, rfl, rfl, rfl, rfl⟩ rfl rfl rfl rfl rfl (by kernel_rfl) Try.func8 (by kernel_rfl)
    (of_decide_eq_true (by kernel_rfl)) (by unfold Func.isWrapper; first | (rw [if_pos (by decide +kernel)]; kernel_rfl) | (rw [if_neg (by decide +kernel)]; exact ⟨rfl, rfl⟩))
    (fun os started H enc _ => lifted os started H enc)

theorem proved : Rows.FnExactSumLoadSaid := over
#print axioms proved
end Go.Proofs.Ytgoeefcbcgmhoah.fnExactSumLoad

namespace Go.Proofs.Ytgoeefcbcgmhoah
theorem fnExactSumLoad_holds : Rows.FnExactSumLoadSaid := fnExactSumLoad.proved
end Go.Proofs.Ytgoeefcbcgmhoah
