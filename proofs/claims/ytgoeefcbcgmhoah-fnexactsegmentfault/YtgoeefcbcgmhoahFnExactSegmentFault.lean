/- Proved: at every segment the program's SegmentFault answers as its model does, and the segment is as it was; no condition. -/
import Derived.Test.YtgoeefcbcgmhoahRows
import Derived.WalkKit
import Derived.ProofKit
import Derived.OpenShut
import Derived.ShutString
import Derived.ChangeOld
import Derived.Below
import Derived.Test.YtgoeefcbcgmhoahBase
import Derived.Test.YtgoeefcbcgmhoahBytes
import Derived.Test.YtgoeefcbcgmhoahSeg
import Derived.Test.YtgoeefcbcgmhoahOpenV
import Derived.Test.YtgoeefcbcgmhoahSpecSeg
import Derived.Test.YtgoeefcbcgmhoahImplSeg
namespace Go.Proofs.Ytgoeefcbcgmhoah.fnExactSegmentFault
open Go.ChangeShapes Go.WideShapes Go.ChangeAt Go.RowKit
set_option linter.unusedVariables false

theorem own : ownKnob Try.prog.godebug = none := by kernel_rfl
theorem laidOut : laidOutB Try.prog = true := by kernel_rfl


set_option maxHeartbeats 1000000 in
theorem walk {H : Type} (enc : TypeId × Value → H) (v0 : Value) (w : World) (base : Nat)
    (o0 : Value.okWide Try.prog w .any base 29 v0) (t0 : ∃ n y, DataW.trod enc Try.prog w 0 (fun _ => true) true n 29 v0.cells.toList = some y) :
    Calls Try.prog 4 #[v0] w fun e w' => e = .returned (.bool true) ∧ Below w.heap.size w w' := by
  obtain ⟨s, a, cap, zs, rfl, hwf, hrow, hr⟩ := open_segv o0 t0
  have hm : s.load.length ≤ maxLen := by
    rcases hrow with ⟨_, h, _⟩ | ⟨x, _, h1, h2, _⟩
    · omega
    · omega
  clear o0 t0 hwf hrow
  by_cases hbig : (1048576 : Int) < s.load.length
  · have c := fun w => lSzSegment s a s.load.length cap 1048576 w hm (by omega) (by omega)
    rw [if_pos hbig] at c
    go_enter Try.func4, Try.ntmps4
    go_wp2_with fail
    refine (c _).mono ?_
    rintro e w1 ⟨rfl, hb1⟩
    go_wp2_with fail
    go_ret
    exact ⟨rfl, Below.trans (by go_grown) (hb1.mono (by simp))⟩
  · have c := fun w => lSzSegment s a s.load.length cap 1048576 w hm (by omega) (by omega)
    rw [if_neg hbig] at c
    go_enter Try.func4, Try.ntmps4
    go_wp2_with fail
    refine (c _).mono ?_
    rintro e w1 ⟨rfl, hb1⟩
    obtain ⟨hc1, hf1⟩ := bcell hb1
    have hz1 := hb1.size
    simp at hz1
    have HA : Hid _ := hb1
    have hw : Hid (Below w.heap.size w w1) := Below.trans (by go_grown) (hb1.mono (by simp))
    clear hb1 c
    go_wp2_with fail
    refine (lToSegment s a s.load.length cap w1 rfl (hr.below (Nat.le_refl _) hw.out) (by omega)).mono ?_
    rintro e w2 ⟨v2, rfl, ho2, hb2⟩
    obtain ⟨a2, cap2, rfl, -⟩ := ho2.rb
    clear hc1 hf1 ho2
    have hz2 := hb2.size
    replace HA : Hid _ := HA.out.trans (hb2.mono (by simp; omega))
    clear hb2
    go_wp2_with fail
    refine (sSegmentFault s a2 s.load.length cap2 w2).mono ?_
    rintro e w3 ⟨rfl, hb3⟩
    have hz3 := hb3.size
    replace HA : Hid _ := HA.out.trans (hb3.mono (by simp; omega))
    clear hb3 hw
    obtain ⟨hc3, hf3⟩ := bcell HA.out
    have hw : Hid (Below w.heap.size w w3) := Below.trans (by go_grown) (HA.out.mono (by simp))
    go_wp2_with fail
    refine (lToSegment s a s.load.length cap w3 rfl (hr.below (Nat.le_refl _) hw.out) (by omega)).mono ?_
    rintro e w4 ⟨v4, rfl, ho4, hb4⟩
    obtain ⟨a4, cap4, rfl, hr4⟩ := ho4.rb
    clear hc3 hf3 ho4
    have hz4 := hb4.size
    replace HA : Hid _ := HA.out.trans (hb4.mono (by simp; omega))
    clear hb4
    have HR4 : Hid _ := hr4
    clear hr4
    go_wp2_with fail
    refine (iSegmentFault s a4 s.load.length cap4 _).mono ?_
    rintro e w5 ⟨rfl, hb5⟩
    have hz5 := hb5.size
    simp at hz5
    replace HA : Hid _ := HA.out.trans (Below.trans ((Below.refl _ _).alloc (by simp; omega) _) (hb5.mono (by simp; omega)))
    obtain ⟨hc5, hf5⟩ := bcell HA.out
    obtain ⟨hd5, he5⟩ := bcell hb5
    replace HR4 : Hid (RB w5 a4 s.load) := HR4.out.below (Nat.le_refl _) (Below.trans (by go_grown) (hb5.mono (by simp)))
    clear hb5 hw
    have hw : Hid (Below w.heap.size w w5) := Below.trans (by go_grown) (HA.out.mono (by simp))
    have y1 : w.heap.size < w5.heap.size := by omega
    have y2 : w4.heap.size < w5.heap.size := by omega
    go_wp2_with fail
    go_region_with (first
      | (go_at_call 14; refine (lToSegment s a s.load.length cap _ rfl ?_ (by omega)).mono ?_; exact hr.below (Nat.le_refl _) hw.out.drew; rintro e w6 ⟨v6, rfl, ho6, hb6⟩; obtain ⟨a6, cap6, rfl, hr6⟩ := ho6.rb; have hc6 : ∀ b o, b < w5.heap.size → w6.cell? ⟨b, o, none⟩ = w5.cell? ⟨b, o, none⟩ := fun b o h => hb6.cell (p := ⟨b, o, none⟩) h; have hz6 := hb6.size; simp at hz6; have HB6 : Hid _ := hb6; have HR6 : Hid _ := hr6; clear hb6 hr6 ho6)
      | (go_at_call 16; refine (lEqSegment s a4 a6 s.load.length cap4 cap6 _ rfl ?_ ?_ (by omega)).mono ?_; exact HR4.out.below (Nat.le_refl _) (Below.drew (Below.refl _ _) |>.trans HB6.out); exact HR6.out; rintro e w7 ⟨rfl, hb7⟩))
    all_goals (go_wp2; go_ret; exact ⟨rfl, (hw.out.drew.trans (HB6.out.mono hw.out.size)).trans (hb7.mono (by omega))⟩)

set_option maxRecDepth 100000 in
theorem lifted (os : Os) (started : os.Started) (H : Type) (enc : TypeId × Value → H) :
    ReturnsInHanded {} Try.checked os 4 .any (Rows.fnExactSegmentFaultSpec.pre6 enc Try.prog Try.f4 Rows.fnExactSegmentFaultRow.domain false) (Rows.fnExactSegmentFaultSpec.post enc Try.prog Try.f4 false true false false) := by
  refine returnsInHanded_of_change (C := Try.checked) own started (by kernel_rfl) Try.func4
    (ChangeSpec.witness6 (enc := enc) (C := Try.checked) false ⟨#[], #[.agg #[.int .i64 0, .int .i64 0, .bool false, .bool false, .bool false, .int .i64 0, .int .i64 0, .int .i64 0, .int .i64 0, .int .i64 0, .int .i64 0, .slice none 0 0]], []⟩ 8 (by kernel_rfl) (by kernel_rfl) (by kernel_rfl) (by kernel_rfl)) ?_
  intro W base args ds gs before hval0 hW hcnd _
  have hval : ∀ (j : Nat) t v, Try.f4.params[j]? = some t → args[j]? = some v → Value.okWide Try.prog W .any base t v := hval0
  have hW' := hW
  obtain ⟨p, q, hA0, hV, rfl, hfz, hnd⟩ := hW
  have hA : DataW.TrodAll enc Try.prog W 0 (fun _ => true) true Try.f4.params.toList args.toList ds p := hA0
  rw [Try.params4] at hA hval
  obtain ⟨v0, vs0, d0, ds0, p0, q0, hargs, rfl, rfl, h0, r0⟩ := trodAll_cons hA
  obtain ⟨rfl, rfl, rfl⟩ := trodAll_nil r0
  obtain rfl : args = #[v0] := by cases args; simp_all
  obtain ⟨rfl, rfl⟩ := trodVars_none hV
  have lt0 : ∀ x ∈ p0, x.block < W.heap.size := by obtain ⟨m, hm⟩ := h0; exact DataW.trod_lt m _ _ _ hm
  have t0 : ∃ n y, DataW.trod enc Try.prog W 0 (fun _ => true) true n 29 v0.cells.toList = some y := by obtain ⟨m, hm⟩ := h0; exact ⟨m, _, hm⟩
  refine (walk enc v0 W base (hval 0 29 v0 rfl rfl) t0).mono fun e W' ⟨he, bel⟩ => ?_
  subst he
  exact ⟨_, rfl, _, _, _, [], _, [], hW', trodAll_mk1 (shut_bool Try.underlying4 _), (trodAll_cons_mk (Below.trod laidOut (by kernel_rfl) (of_decide_eq_true (by kernel_rfl)) h0 bel lt0) trodAll_mk0), rfl, bel.frame _, fun h => by cases h⟩

theorem over : Rows.fnExactSegmentFaultRow.holds Try.pinned (OpenSpec.ofChange Rows.fnExactSegmentFaultSpec) :=
  OpenClaim.holds_of_wide 4 Try.f4 rfl rfl rfl rfl rfl rfl rfl ⟨rfl, rfl, rfl, rfl, rfl⟩ rfl rfl rfl rfl rfl (by kernel_rfl) Try.func4 (by kernel_rfl)
    (of_decide_eq_true (by kernel_rfl)) (by unfold Func.isWrapper; first | (rw [if_pos (by decide +kernel)]; kernel_rfl) | (rw [if_neg (by decide +kernel)]; exact ⟨rfl, rfl⟩))
    (fun os started H enc _ => lifted os started H enc)

theorem proved : Rows.FnExactSegmentFaultSaid := over
#print axioms proved
end Go.Proofs.Ytgoeefcbcgmhoah.fnExactSegmentFault

namespace Go.Proofs.Ytgoeefcbcgmhoah
theorem fnExactSegmentFault_holds : Rows.FnExactSegmentFaultSaid := fnExactSegmentFault.proved
end Go.Proofs.Ytgoeefcbcgmhoah
