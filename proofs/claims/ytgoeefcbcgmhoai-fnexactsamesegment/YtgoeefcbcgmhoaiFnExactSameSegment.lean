/- Proved: at every two segments the program's SameSegment answers as its model does, and both are as they were; no condition. -/
import Derived.Test.YtgoeefcbcgmhoaiRows
import Derived.WalkKit
import Derived.ProofKit
import Derived.OpenShut
import Derived.ShutString
import Derived.ChangeOld
import Derived.Below
import Derived.Test.YtgoeefcbcgmhoaiBase
import Derived.Test.YtgoeefcbcgmhoaiBytes
import Derived.Test.YtgoeefcbcgmhoaiSeg
import Derived.Test.YtgoeefcbcgmhoaiOpenV
import Derived.Test.YtgoeefcbcgmhoaiLaw
import Derived.Test.YtgoeefcbcgmhoaiStr
import Derived.Test.YtgoeefcbcgmhoaiSameDef
import Derived.Test.YtgoeefcbcgmhoaiSameSpec
import Derived.Test.YtgoeefcbcgmhoaiSameImpl
namespace Go.Proofs.Ytgoeefcbcgmhoai.fnExactSameSegment
open Go.ChangeShapes Go.WideShapes Go.ChangeAt Go.RowKit
set_option linter.unusedVariables false

theorem own : ownKnob Try.prog.godebug = none := by kernel_rfl
theorem laidOut : laidOutB Try.prog = true := by kernel_rfl


set_option maxHeartbeats 2000000 in
theorem walk {H : Type} (enc : TypeId × Value → H) (v0 : Value) (v1 : Value) (w : World) (base : Nat)
    (o0 : Value.okWide Try.prog w .any base 24 v0) (t0 : ∃ n y, DataW.trod enc Try.prog w 0 (fun _ => true) true n 24 v0.cells.toList = some y)
    (o1 : Value.okWide Try.prog w .any base 24 v1) (t1 : ∃ n y, DataW.trod enc Try.prog w 0 (fun _ => true) true n 24 v1.cells.toList = some y) :
    Calls Try.prog 4 #[v0, v1] w fun e w' => e = .returned (.bool true) ∧ Below w.heap.size w w' := by
  obtain ⟨s0, pa0, pc0, zs0, rfl, hwf0, hrow, hr⟩ := open_segv o0 t0
  obtain ⟨mx0, hn⟩ := hrow.small
  have M0 : Hid _ := hn
  have P0 : Hid _ := hr
  have Q0 : Hid _ := hr
  clear hrow hr hn
  obtain ⟨s1, pa1, pc1, zs1, rfl, hwf1, hrow, hr⟩ := open_segv o1 t1
  obtain ⟨mx1, hn⟩ := hrow.small
  have M1 : Hid _ := hn
  have P1 : Hid _ := hr
  have Q1 : Hid _ := hr
  clear hrow hr hn
  clear o0 t0 o1 t1 hwf0 hwf1
  have HW : Hid (Below w.heap.size w w) := Below.refl _ _
  by_cases hbig0 : (1048576 : Int) < (s0.load.length : Int)
  · go_enter Try.func4, Try.ntmps4
    go_wp2_with fail
    have c := fun w => lSzSegment s0 pa0 _ pc0 (1048576) w mx0 (by omega) (by omega)
    rw [if_pos (show ((1048576 : Int) < (s0.load.length : Int)) by omega)] at c
    refine (c _).mono ?_
    rintro e w1 ⟨rfl, hb⟩
    clear c
    obtain ⟨B1, B1b, hb, S1b⟩ := box_new2 hb
    have S1 : w.heap.size < w1.heap.size := by omega
    have Z1 : Hid (w.heap.size + 1 < w1.heap.size) := S1b
    replace P0 : Hid _ := RB.below P0.out (Nat.le_refl _) hb
    replace P1 : Hid _ := RB.below P1.out (Nat.le_refl _) hb
    replace HW : Hid _ := HW.out.trans (hb.mono HW.out.size)
    clear hb
    go_wp2_with fail
    go_ret
    exact ⟨rfl, HW.out⟩
  · skip
    by_cases hbig1 : (1048576 - (s0.load.length : Int) : Int) < (s1.load.length : Int)
    · go_enter Try.func4, Try.ntmps4
      go_wp2_with fail
      have c := fun w => lSzSegment s0 pa0 _ pc0 (1048576) w mx0 (by omega) (by omega)
      rw [if_neg (show ¬ ((1048576 : Int) < (s0.load.length : Int)) by omega)] at c
      refine (c _).mono ?_
      rintro e w1 ⟨rfl, hb⟩
      clear c
      obtain ⟨B1, B1b, hb, S1b⟩ := box_new2 hb
      have S1 : w.heap.size < w1.heap.size := by omega
      have Z1 : Hid (w.heap.size + 1 < w1.heap.size) := S1b
      replace P0 : Hid _ := RB.below P0.out (Nat.le_refl _) hb
      replace P1 : Hid _ := RB.below P1.out (Nat.le_refl _) hb
      replace HW : Hid _ := HW.out.trans (hb.mono HW.out.size)
      clear hb
      go_wp2_with fail
      have c := fun w => lSzSegment s1 pa1 _ pc1 (1048576 - (s0.load.length : Int)) w mx1 (by omega) (by omega)
      rw [if_pos (show ((1048576 - (s0.load.length : Int) : Int) < (s1.load.length : Int)) by omega)] at c
      refine (c _).mono ?_
      rintro e w2 ⟨rfl, hb⟩
      clear c
      have Z2 : Hid (w1.heap.size ≤ w2.heap.size) := hb.size
      replace B1 := box_below B1 S1 hb
      replace S1 := Nat.lt_of_lt_of_le S1 hb.size
      replace B1b := box_below B1b S1b hb
      replace S1b := Nat.lt_of_lt_of_le S1b hb.size
      replace P0 : Hid _ := RB.below P0.out (Nat.le_refl _) hb
      replace P1 : Hid _ := RB.below P1.out (Nat.le_refl _) hb
      replace HW : Hid _ := HW.out.trans (hb.mono HW.out.size)
      clear hb
      go_wp2_with fail
      go_ret
      exact ⟨rfl, HW.out⟩
    · skip
      go_enter Try.func4, Try.ntmps4
      go_wp2_with fail
      have c := fun w => lSzSegment s0 pa0 _ pc0 (1048576) w mx0 (by omega) (by omega)
      rw [if_neg (show ¬ ((1048576 : Int) < (s0.load.length : Int)) by omega)] at c
      refine (c _).mono ?_
      rintro e w1 ⟨rfl, hb⟩
      clear c
      obtain ⟨B1, B1b, hb, S1b⟩ := box_new2 hb
      have S1 : w.heap.size < w1.heap.size := by omega
      have Z1 : Hid (w.heap.size + 1 < w1.heap.size) := S1b
      replace P0 : Hid _ := RB.below P0.out (Nat.le_refl _) hb
      replace P1 : Hid _ := RB.below P1.out (Nat.le_refl _) hb
      replace HW : Hid _ := HW.out.trans (hb.mono HW.out.size)
      clear hb
      go_wp2_with fail
      have c := fun w => lSzSegment s1 pa1 _ pc1 (1048576 - (s0.load.length : Int)) w mx1 (by omega) (by omega)
      rw [if_neg (show ¬ ((1048576 - (s0.load.length : Int) : Int) < (s1.load.length : Int)) by omega)] at c
      refine (c _).mono ?_
      rintro e w2 ⟨rfl, hb⟩
      clear c
      have Z2 : Hid (w1.heap.size ≤ w2.heap.size) := hb.size
      replace B1 := box_below B1 S1 hb
      replace S1 := Nat.lt_of_lt_of_le S1 hb.size
      replace B1b := box_below B1b S1b hb
      replace S1b := Nat.lt_of_lt_of_le S1b hb.size
      replace P0 : Hid _ := RB.below P0.out (Nat.le_refl _) hb
      replace P1 : Hid _ := RB.below P1.out (Nat.le_refl _) hb
      replace HW : Hid _ := HW.out.trans (hb.mono HW.out.size)
      clear hb
      go_wp2_with fail
      go_cut [6] (fun u wx => u = .bool (sameS s0 s1 (eqS s0.load s1.load)) ∧ Below w2.heap.size w2 wx)
      case first =>
        go_region_with (first
          | (go_at_call_of 7 (s0.path); refine (lToSegment s0 pa0 _ pc0 _ rfl ?_ (by omega)).mono ?_; exact RB.below P0.out (Nat.le_refl _) (Below.drew (Below.refl _ _)); rintro e w3 ⟨v, rfl, ho, hb⟩; obtain ⟨a3, c3, rfl, hr, hn⟩ := ho.rbn; have R3 : Hid _ := hr; have N3 : Hid _ := hn; replace hb := below_drew hb; have HB3 : Hid _ := hb; replace B1 := box_below B1 S1 hb; replace S1 := Nat.lt_of_lt_of_le S1 hb.size; replace B1b := box_below B1b S1b hb; replace S1b := Nat.lt_of_lt_of_le S1b hb.size; clear ho hr hn hb)
          | (go_at_call_of 7 (s1.path); refine (lToSegment s1 pa1 _ pc1 _ rfl ?_ (by omega)).mono ?_; exact RB.below P1.out (Nat.le_refl _) HB3.out; rintro e w4 ⟨v, rfl, ho, hb⟩; obtain ⟨a4, c4, rfl, hr, hn⟩ := ho.rbn; have R4 : Hid _ := hr; have N4 : Hid _ := hn; replace R3 : Hid _ := RB.below R3.out (Nat.le_refl _) hb; have HB4 : Hid _ := hb; replace B1 := box_below B1 S1 hb; replace S1 := Nat.lt_of_lt_of_le S1 hb.size; replace B1b := box_below B1b S1b hb; replace S1b := Nat.lt_of_lt_of_le S1b hb.size; clear ho hr hn hb)
          | (go_at_call 12; refine (sSame s0 s1 a3 a4 _ _ c3 c4 _ rfl rfl ?_ ?_).mono ?_; exact R3.out; exact R4.out; rintro e w' ⟨rfl, hb⟩; have HC : Hid _ := hb; clear hb))
        all_goals (go_wp2_with fail; go_meet; exact ⟨rfl, (HB3.out.trans (HB4.out.mono HB3.out.size)).trans (HC.out.mono (Nat.le_trans HB3.out.size HB4.out.size))⟩)
      case rest =>
      rename World => w4
      obtain ⟨rfl, hb⟩ := hcut
      have Z4 : Hid (w2.heap.size ≤ w4.heap.size) := hb.size
      replace B1 := box_below B1 S1 hb
      replace S1 := Nat.lt_of_lt_of_le S1 hb.size
      replace B1b := box_below B1b S1b hb
      replace S1b := Nat.lt_of_lt_of_le S1b hb.size
      replace P0 : Hid _ := RB.below P0.out (Nat.le_refl _) hb
      replace P1 : Hid _ := RB.below P1.out (Nat.le_refl _) hb
      replace HW : Hid _ := HW.out.trans (hb.mono HW.out.size)
      clear hb
      go_wp2_with fail
      refine (lToSegment s0 pa0 _ pc0 _ rfl ?_ (by omega)).mono ?_
      · first | exact P0.out | exact RB.below P0.out (Nat.le_refl _) (by go_grown) | exact RB.below P0.out (Nat.le_refl _) (Below.drew (Below.refl _ _))
      rintro e w5 ⟨v, rfl, ho, hb⟩
      obtain ⟨a5, c5, rfl, hr, hn⟩ := ho.rbn
      have R5 : Hid _ := hr
      have N5 : Hid _ := hn
      clear ho hr hn
      have Z5 : Hid (w4.heap.size ≤ w5.heap.size) := hb.size
      replace B1 := box_below B1 S1 hb
      replace S1 := Nat.lt_of_lt_of_le S1 hb.size
      replace B1b := box_below B1b S1b hb
      replace S1b := Nat.lt_of_lt_of_le S1b hb.size
      replace P0 : Hid _ := RB.below P0.out (Nat.le_refl _) hb
      replace P1 : Hid _ := RB.below P1.out (Nat.le_refl _) hb
      replace HW : Hid _ := HW.out.trans (hb.mono HW.out.size)
      clear hb
      go_wp2_with fail
      refine (lToSegment s1 pa1 _ pc1 _ rfl ?_ (by omega)).mono ?_
      · first | exact P1.out | exact RB.below P1.out (Nat.le_refl _) (by go_grown) | exact RB.below P1.out (Nat.le_refl _) (Below.drew (Below.refl _ _))
      rintro e w6 ⟨v, rfl, ho, hb⟩
      obtain ⟨a6, c6, rfl, hr, hn⟩ := ho.rbn
      have R6 : Hid _ := hr
      have N6 : Hid _ := hn
      clear ho hr hn
      have B6 := box_new hb
      obtain ⟨hb, S6⟩ := below_new hb
      have Z6 : Hid (w5.heap.size < w6.heap.size) := S6
      replace B1 := box_below B1 S1 hb
      replace S1 := Nat.lt_of_lt_of_le S1 hb.size
      replace B1b := box_below B1b S1b hb
      replace S1b := Nat.lt_of_lt_of_le S1b hb.size
      replace P0 : Hid _ := RB.below P0.out (Nat.le_refl _) hb
      replace P1 : Hid _ := RB.below P1.out (Nat.le_refl _) hb
      replace R5 : Hid _ := RB.below R5.out (Nat.le_refl _) hb
      replace HW : Hid _ := HW.out.trans (hb.mono HW.out.size)
      clear hb
      go_wp2_with fail
      refine (iSame s0 s1 a5 a6 _ _ c5 c6 _ rfl rfl ?_ ?_).mono ?_
      · first | exact R5.out | exact RB.below R5.out (Nat.le_refl _) (by go_grown) | exact RB.below R5.out (Nat.le_refl _) (Below.drew (Below.refl _ _))
      · first | exact R6.out | exact RB.below R6.out (Nat.le_refl _) (by go_grown) | exact RB.below R6.out (Nat.le_refl _) (Below.drew (Below.refl _ _))
      rintro e w7 ⟨rfl, hb⟩
      have B7 := box_new hb
      obtain ⟨hb, S7⟩ := below_new hb
      have Z7 : Hid (w6.heap.size < w7.heap.size) := S7
      replace B1 := box_below B1 S1 hb
      replace S1 := Nat.lt_of_lt_of_le S1 hb.size
      replace B1b := box_below B1b S1b hb
      replace S1b := Nat.lt_of_lt_of_le S1b hb.size
      replace B6 := box_below B6 S6 hb
      replace S6 := Nat.lt_of_lt_of_le S6 hb.size
      replace P0 : Hid _ := RB.below P0.out (Nat.le_refl _) hb
      replace P1 : Hid _ := RB.below P1.out (Nat.le_refl _) hb
      replace R5 : Hid _ := RB.below R5.out (Nat.le_refl _) hb
      replace R6 : Hid _ := RB.below R6.out (Nat.le_refl _) hb
      replace HW : Hid _ := HW.out.trans (hb.mono HW.out.size)
      clear hb
      go_wp2_with fail
      go_cut [39] (fun u wx => u = .bool false ∧ Below w7.heap.size w7 wx)
      case first =>
        go_region_with (first
          | (go_at_call 7; refine (lToSegment s0 pa0 _ pc0 _ rfl ?_ (by omega)).mono ?_; exact RB.below P0.out (Nat.le_refl _) (Below.drew (Below.refl _ _)); rintro e w8 ⟨v, rfl, ho, hb⟩; obtain ⟨a8, c8, rfl, hr, hn⟩ := ho.rbn; have R8 : Hid _ := hr; replace hb := below_drew hb; have HB : Hid _ := hb; replace B1 := box_below B1 S1 hb; replace S1 := Nat.lt_of_lt_of_le S1 hb.size; replace B1b := box_below B1b S1b hb; replace S1b := Nat.lt_of_lt_of_le S1b hb.size; replace B6 := box_below B6 S6 hb; replace S6 := Nat.lt_of_lt_of_le S6 hb.size; replace B7 := box_below B7 S7 hb; replace S7 := Nat.lt_of_lt_of_le S7 hb.size; clear ho hr hn hb)
          | (go_at_call 9; refine (lEqSegment s0 a5 a8 _ c5 c8 _ rfl ?_ ?_ (by omega)).mono ?_; exact RB.below R5.out (Nat.le_refl _) HB.out; exact R8.out; rintro e w' ⟨rfl, hb⟩; have HC : Hid _ := hb; clear hb))
        all_goals (go_wp2_with fail; go_meet; exact ⟨rfl, HB.out.trans (HC.out.mono HB.out.size)⟩)
      case rest =>
      rename World => w8
      obtain ⟨rfl, hb⟩ := hcut
      have Z8 : Hid (w7.heap.size ≤ w8.heap.size) := hb.size
      replace B1 := box_below B1 S1 hb
      replace S1 := Nat.lt_of_lt_of_le S1 hb.size
      replace B1b := box_below B1b S1b hb
      replace S1b := Nat.lt_of_lt_of_le S1b hb.size
      replace B6 := box_below B6 S6 hb
      replace S6 := Nat.lt_of_lt_of_le S6 hb.size
      replace B7 := box_below B7 S7 hb
      replace S7 := Nat.lt_of_lt_of_le S7 hb.size
      replace P0 : Hid _ := RB.below P0.out (Nat.le_refl _) hb
      replace P1 : Hid _ := RB.below P1.out (Nat.le_refl _) hb
      replace R5 : Hid _ := RB.below R5.out (Nat.le_refl _) hb
      replace R6 : Hid _ := RB.below R6.out (Nat.le_refl _) hb
      replace HW : Hid _ := HW.out.trans (hb.mono HW.out.size)
      clear hb
      go_wp2_with fail
      go_cut [44] (fun u wx => u = .bool false ∧ Below w8.heap.size w8 wx)
      case first =>
        go_region_with (first
          | (go_at_call 7; refine (lToSegment s1 pa1 _ pc1 _ rfl ?_ (by omega)).mono ?_; exact RB.below P1.out (Nat.le_refl _) (Below.drew (Below.refl _ _)); rintro e w9 ⟨v, rfl, ho, hb⟩; obtain ⟨a9, c9, rfl, hr, hn⟩ := ho.rbn; have R9 : Hid _ := hr; replace hb := below_drew hb; have HB : Hid _ := hb; replace B1 := box_below B1 S1 hb; replace S1 := Nat.lt_of_lt_of_le S1 hb.size; replace B1b := box_below B1b S1b hb; replace S1b := Nat.lt_of_lt_of_le S1b hb.size; replace B6 := box_below B6 S6 hb; replace S6 := Nat.lt_of_lt_of_le S6 hb.size; replace B7 := box_below B7 S7 hb; replace S7 := Nat.lt_of_lt_of_le S7 hb.size; clear ho hr hn hb)
          | (go_at_call 9; refine (lEqSegment s1 a6 a9 _ c6 c9 _ rfl ?_ ?_ (by omega)).mono ?_; exact RB.below R6.out (Nat.le_refl _) HB.out; exact R9.out; rintro e w' ⟨rfl, hb⟩; have HC : Hid _ := hb; clear hb))
        all_goals (go_wp2_with fail; go_meet; exact ⟨rfl, HB.out.trans (HC.out.mono HB.out.size)⟩)
      case rest =>
      rename World => w9
      obtain ⟨rfl, hb⟩ := hcut
      have Z9 : Hid (w8.heap.size ≤ w9.heap.size) := hb.size
      replace B1 := box_below B1 S1 hb
      replace S1 := Nat.lt_of_lt_of_le S1 hb.size
      replace B1b := box_below B1b S1b hb
      replace S1b := Nat.lt_of_lt_of_le S1b hb.size
      replace B6 := box_below B6 S6 hb
      replace S6 := Nat.lt_of_lt_of_le S6 hb.size
      replace B7 := box_below B7 S7 hb
      replace S7 := Nat.lt_of_lt_of_le S7 hb.size
      replace P0 : Hid _ := RB.below P0.out (Nat.le_refl _) hb
      replace P1 : Hid _ := RB.below P1.out (Nat.le_refl _) hb
      replace R5 : Hid _ := RB.below R5.out (Nat.le_refl _) hb
      replace R6 : Hid _ := RB.below R6.out (Nat.le_refl _) hb
      replace HW : Hid _ := HW.out.trans (hb.mono HW.out.size)
      clear hb
      go_wp2_with fail
      go_ret
      exact ⟨rfl, HW.out⟩

set_option maxRecDepth 100000 in
theorem lifted (os : Os) (started : os.Started) (H : Type) (enc : TypeId × Value → H) :
    ReturnsInHanded {} Try.checked os 4 .any (Rows.fnExactSameSegmentSpec.pre6 enc Try.prog Try.f4 Rows.fnExactSameSegmentRow.domain false) (Rows.fnExactSameSegmentSpec.post enc Try.prog Try.f4 false true false false) := by
  refine returnsInHanded_of_change (C := Try.checked) own started (by kernel_rfl) Try.func4
    (ChangeSpec.witness6 (enc := enc) (C := Try.checked) false ⟨#[], #[.agg #[.int .i64 0, .int .i64 0, .bool false, .bool false, .bool false, .int .i64 0, .int .i64 0, .int .i64 0, .int .i64 0, .int .i64 0, .int .i64 0, .slice none 0 0], .agg #[.int .i64 0, .int .i64 0, .bool false, .bool false, .bool false, .int .i64 0, .int .i64 0, .int .i64 0, .int .i64 0, .int .i64 0, .int .i64 0, .slice none 0 0]], []⟩ 8 (by kernel_rfl) (by kernel_rfl) (by kernel_rfl) (by kernel_rfl)) ?_
  intro W base args ds gs before hval0 hW hcnd _
  have hval : ∀ (j : Nat) t v, Try.f4.params[j]? = some t → args[j]? = some v → Value.okWide Try.prog W .any base t v := hval0
  have hW' := hW
  obtain ⟨p, q, hA0, hV, rfl, hfz, hnd⟩ := hW
  have hA : DataW.TrodAll enc Try.prog W 0 (fun _ => true) true Try.f4.params.toList args.toList ds p := hA0
  rw [Try.params4] at hA hval
  obtain ⟨v0, vs0, d0, ds0, p0, q0, hargs, rfl, rfl, h0, r0⟩ := trodAll_cons hA
  obtain ⟨v1, vs1, d1, ds1, p1, q1, rfl, rfl, rfl, h1, r1⟩ := trodAll_cons r0
  obtain ⟨rfl, rfl, rfl⟩ := trodAll_nil r1
  obtain rfl : args = #[v0, v1] := by cases args; simp_all
  obtain ⟨rfl, rfl⟩ := trodVars_none hV
  have lt0 : ∀ x ∈ p0, x.block < W.heap.size := by obtain ⟨m, hm⟩ := h0; exact DataW.trod_lt m _ _ _ hm
  have t0 : ∃ n y, DataW.trod enc Try.prog W 0 (fun _ => true) true n 24 v0.cells.toList = some y := by obtain ⟨m, hm⟩ := h0; exact ⟨m, _, hm⟩
  have lt1 : ∀ x ∈ p1, x.block < W.heap.size := by obtain ⟨m, hm⟩ := h1; exact DataW.trod_lt m _ _ _ hm
  have t1 : ∃ n y, DataW.trod enc Try.prog W 0 (fun _ => true) true n 24 v1.cells.toList = some y := by obtain ⟨m, hm⟩ := h1; exact ⟨m, _, hm⟩
  refine (walk enc v0 v1 W base (hval 0 24 v0 rfl rfl) t0 (hval 1 24 v1 rfl rfl) t1).mono fun e W' ⟨he, bel⟩ => ?_
  subst he
  exact ⟨_, rfl, _, _, _, [], _, [], hW', trodAll_mk1 (shut_bool Try.underlying4 _), (trodAll_cons_mk (Below.trod laidOut (by kernel_rfl) (of_decide_eq_true (by kernel_rfl)) h0 bel lt0) (trodAll_cons_mk (Below.trod laidOut (by kernel_rfl) (of_decide_eq_true (by kernel_rfl)) h1 bel lt1) trodAll_mk0)), rfl, bel.frame _, fun h => by cases h⟩

theorem over : Rows.fnExactSameSegmentRow.holds Try.pinned (OpenSpec.ofChange Rows.fnExactSameSegmentSpec) :=
  OpenClaim.holds_of_wide 4 Try.f4 rfl rfl rfl rfl rfl rfl rfl ⟨rfl, rfl, rfl, rfl, rfl⟩ rfl rfl rfl rfl rfl (by kernel_rfl) Try.func4 (by kernel_rfl)
    (of_decide_eq_true (by kernel_rfl)) (by unfold Func.isWrapper; first | (rw [if_pos (by decide +kernel)]; kernel_rfl) | (rw [if_neg (by decide +kernel)]; exact ⟨rfl, rfl⟩))
    (fun os started H enc _ => lifted os started H enc)

theorem proved : Rows.FnExactSameSegmentSaid := over
#print axioms proved
end Go.Proofs.Ytgoeefcbcgmhoai.fnExactSameSegment

namespace Go.Proofs.Ytgoeefcbcgmhoai
theorem fnExactSameSegment_holds : Rows.FnExactSameSegmentSaid := fnExactSameSegment.proved
end Go.Proofs.Ytgoeefcbcgmhoai
