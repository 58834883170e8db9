/- What the program's own functions of chapter 2 answer: the fault of a segment, the sum of bytes; nothing that was in memory turns; no condition but on lengths. -/
import Derived.Test.YtlfncadngcjdjaaRows
import Derived.Test.YtlfncadngcjdjaaBase
import Derived.Test.YtlfncadngcjdjaaBytes
import Derived.Test.YtlfncadngcjdjaaSeg
import Derived.Test.YtlfncadngcjdjaaSegFS
namespace Go.Proofs.Ytlfncadngcjdjaa
open Go.RowKit
set_option linter.unusedVariables false

theorem iInB9 (v low high : Int) (w : World) :
    Calls Try.prog 51 #[.int .i64 v, .int .i64 low, .int .i64 high] w fun e w' => e = .returned (.bool (inB9 v low high)) ∧ w' = w := by
  by_cases h : low ≤ v
  · go_enter Try.func51, Try.ntmps51
    go_wp2
    go_ret
    exact ⟨ret_bool (by simp [inB9, h]), rfl⟩
  · have h' : decide (low ≤ v) = false := by simp; omega
    go_enter Try.func51, Try.ntmps51
    go_wp2
    go_ret
    exact ⟨ret_bool (by simp [inB9, h']), rfl⟩
set_option maxHeartbeats 4000000 in
theorem iNumbers9 (s : Seg) (a : Option Addr) (n cap : Nat) (w : World) :
    Calls Try.prog 71 #[.agg #[.int .i64 s.path, .int .i64 s.frm, .bool s.syn, .bool s.ackd, .bool s.rst, .int .i64 s.seq, .int .i64 s.ack, .int .i64 s.fin, .int .i64 s.opt, .int .i64 s.a, .int .i64 s.b, .slice a n cap]] w fun e w' => e = .returned (.bool (rangeOk9 s)) ∧ Below w.heap.size w w' := by
  cases h0 : inB9 s.path 0 2
  case false =>
    go_enter Try.func71, Try.ntmps71
    go_wp2_with (go_at_call 51; refine (iInB9 _ _ _ _).mono ?_; rintro e w' ⟨rfl, hw⟩; subst w')
    go_ret
    exact ⟨ret_bool (by simp [rangeOk9, *]), by go_grown⟩
  cases h1 : inB9 s.frm 0 1
  case false =>
    go_enter Try.func71, Try.ntmps71
    go_wp2_with (go_at_call 51; refine (iInB9 _ _ _ _).mono ?_; rintro e w' ⟨rfl, hw⟩; subst w')
    go_ret
    exact ⟨ret_bool (by simp [rangeOk9, *]), by go_grown⟩
  cases h2 : inB9 s.seq 0 65535
  case false =>
    go_enter Try.func71, Try.ntmps71
    go_wp2_with (go_at_call 51; refine (iInB9 _ _ _ _).mono ?_; rintro e w' ⟨rfl, hw⟩; subst w')
    go_ret
    exact ⟨ret_bool (by simp [rangeOk9, *]), by go_grown⟩
  cases h3 : inB9 s.ack 0 65535
  case false =>
    go_enter Try.func71, Try.ntmps71
    go_wp2_with (go_at_call 51; refine (iInB9 _ _ _ _).mono ?_; rintro e w' ⟨rfl, hw⟩; subst w')
    go_ret
    exact ⟨ret_bool (by simp [rangeOk9, *]), by go_grown⟩
  cases h4 : inB9 s.fin 0 1000
  case false =>
    go_enter Try.func71, Try.ntmps71
    go_wp2_with (go_at_call 51; refine (iInB9 _ _ _ _).mono ?_; rintro e w' ⟨rfl, hw⟩; subst w')
    go_ret
    exact ⟨ret_bool (by simp [rangeOk9, *]), by go_grown⟩
  cases h5 : inB9 s.a 0 1000000
  case false =>
    go_enter Try.func71, Try.ntmps71
    go_wp2_with (go_at_call 51; refine (iInB9 _ _ _ _).mono ?_; rintro e w' ⟨rfl, hw⟩; subst w')
    go_ret
    exact ⟨ret_bool (by simp [rangeOk9, *]), by go_grown⟩
  go_enter Try.func71, Try.ntmps71
  go_wp2_with (go_at_call 51; refine (iInB9 _ _ _ _).mono ?_; rintro e w' ⟨rfl, hw⟩; subst w')
  go_ret
  exact ⟨ret_bool (by simp [rangeOk9, *]), by go_grown⟩
def optOk9 (s : Seg) : Bool := if s.opt = 0 then (s.a == 0 && s.b == 0) else inB9 s.opt 0 4
set_option maxHeartbeats 1000000 in
theorem iOption9 (s : Seg) (a : Option Addr) (n cap : Nat) (w : World) :
    Calls Try.prog 72 #[.agg #[.int .i64 s.path, .int .i64 s.frm, .bool s.syn, .bool s.ackd, .bool s.rst, .int .i64 s.seq, .int .i64 s.ack, .int .i64 s.fin, .int .i64 s.opt, .int .i64 s.a, .int .i64 s.b, .slice a n cap]] w fun e w' => e = .returned (.bool (optOk9 s)) ∧ Below w.heap.size w w' := by
  by_cases h0 : s.opt = 0
  · by_cases h1 : s.a = 0
    · skip
      go_enter Try.func72, Try.ntmps72
      go_wp2_with (go_at_call 51; refine (iInB9 _ _ _ _).mono ?_; rintro e w' ⟨rfl, hw⟩; subst w')
      go_ret
      exact ⟨ret_bool (by simp [optOk9, *]), by go_grown⟩
    · skip
      go_enter Try.func72, Try.ntmps72
      go_wp2_with (go_at_call 51; refine (iInB9 _ _ _ _).mono ?_; rintro e w' ⟨rfl, hw⟩; subst w')
      go_ret
      exact ⟨ret_bool (by simp [optOk9, *]), by go_grown⟩
  · skip
    go_enter Try.func72, Try.ntmps72
    go_wp2_with (go_at_call 51; refine (iInB9 _ _ _ _).mono ?_; rintro e w' ⟨rfl, hw⟩; subst w')
    go_ret
    exact ⟨ret_bool (by simp [optOk9, *]), by go_grown⟩
theorem optOk_form9 (s : Seg) (n : Nat) : formOk9 s n = (optOk9 s && !((s.syn || s.rst) && decide (0 < n))) := by
  unfold formOk9 optOk9
  by_cases h : s.opt = 0
  · rw [if_pos h, h]
    simp only [inB9, bne]
    cases (s.a == 0) <;> cases (s.b == 0) <;> cases s.syn <;> cases s.rst <;> cases decide (0 < n) <;> rfl
  · rw [if_neg h]
    have : (s.opt == 0) = false := by simp [h]
    rw [this]; simp [Bool.and_comm]
theorem fault_of9 (s : Seg) (n : Nat) : segFault s n = if rangeOk9 s = false then 3 else if optOk9 s = false then 1 else if ((s.syn || s.rst) && decide (0 < n)) = true then 1 else if 8 < n then 2 else 0 := by
  unfold segFault
  rw [optOk_form9]
  cases rangeOk9 s <;> cases optOk9 s <;> cases ((s.syn || s.rst) && decide (0 < n)) <;> rfl
set_option maxHeartbeats 1000000 in
theorem iSegmentFault (s : Seg) (a : Option Addr) (n cap : Nat) (w : World) :
    Calls Try.prog 43 #[.agg #[.int .i64 s.path, .int .i64 s.frm, .bool s.syn, .bool s.ackd, .bool s.rst, .int .i64 s.seq, .int .i64 s.ack, .int .i64 s.fin, .int .i64 s.opt, .int .i64 s.a, .int .i64 s.b, .slice a n cap]] w fun e w' => e = .returned (.int .i64 (segFault s n)) ∧ Below w.heap.size w w' := by
  have HF : Hid _ := fault_of9 s n
  cases h0 : rangeOk9 s
  case false =>
    have HV : Hid (segFault s n = 3) := by rw [HF.out, if_pos h0]; trivial
    go_enter Try.func43, Try.ntmps43
    go_wp2_with fail
    refine (iNumbers9 s a n cap _).mono ?_
    rintro e w1 ⟨rfl, hb1⟩
    have hz := hb1.size
    simp at hz
    obtain ⟨hc, hf⟩ := bcell hb1
    have z1 : w.heap.size < w1.heap.size := by omega
    have HB : Hid _ := hb1
    clear hb1 hz
    go_wp2_with fail
    go_ret
    exact ⟨ret_int HV.out.symm, Below.trans (by go_grown) (HB.out.mono (by simp))⟩
  have hF := HF.out
  rw [h0, if_neg (by decide)] at hF
  cases h1 : optOk9 s
  case false =>
    have HV : Hid (segFault s n = 1) := by rw [hF, if_pos h1]; trivial
    clear hF
    go_enter Try.func43, Try.ntmps43
    go_wp2_with fail
    refine (iNumbers9 s a n cap _).mono ?_
    rintro e w1 ⟨rfl, hb1⟩
    have hz := hb1.size
    simp at hz
    obtain ⟨hc, hf⟩ := bcell hb1
    have z1 : w.heap.size < w1.heap.size := by omega
    have HB : Hid _ := hb1
    clear hb1 hz
    go_wp2_with fail
    refine (iOption9 s a n cap _).mono ?_
    rintro e w2 ⟨rfl, hb2⟩
    have hz2 := hb2.size
    obtain ⟨hc2, hf2⟩ := bcell hb2
    have z2 : w.heap.size < w2.heap.size := by omega
    have HB2 : Hid _ := hb2
    clear hb2 hz2
    go_wp2_with fail
    go_ret
    refine ⟨ret_int HV.out.symm, ?_⟩
    exact Below.trans (by go_grown) ((HB.out.trans (HB2.out.mono (by simp at *; omega))).mono (by simp))
  rw [h1, if_neg (by decide)] at hF
  have HF2 : Hid _ := hF
  clear hF HF
  go_enter Try.func43, Try.ntmps43
  go_wp2_with fail
  refine (iNumbers9 s a n cap _).mono ?_
  rintro e w1 ⟨rfl, hb1⟩
  have hz := hb1.size
  simp at hz
  obtain ⟨hc, hf⟩ := bcell hb1
  have z1 : w.heap.size < w1.heap.size := by omega
  have HB : Hid _ := hb1
  clear hb1 hz
  go_wp2_with fail
  refine (iOption9 s a n cap _).mono ?_
  rintro e w2 ⟨rfl, hb2⟩
  have hz2 := hb2.size
  obtain ⟨hc2, hf2⟩ := bcell hb2
  have z2 : w.heap.size < w2.heap.size := by omega
  have HB2 : Hid _ := hb2
  clear hb2 hz2
  rcases Bool.eq_false_or_eq_true s.syn with h2 | h2
  · by_cases hn : 0 < n
    · have HV : Hid (segFault s n = 1) := by rw [HF2.out, h2, if_pos (by simpa using hn)]; trivial
      go_wp2_with fail
      go_ret
      refine ⟨ret_int HV.out.symm, ?_⟩
      exact Below.trans (by go_grown) ((HB.out.trans (HB2.out.mono (by simp at *; omega))).mono (by simp))
    · have HV : Hid (segFault s n = 0) := by rw [HF2.out, h2, if_neg (by simpa using hn), if_neg (by omega)]; trivial
      go_wp2_with fail
      go_ret
      refine ⟨ret_int HV.out.symm, ?_⟩
      exact Below.trans (by go_grown) ((HB.out.trans (HB2.out.mono (by simp at *; omega))).mono (by simp))
  · rcases Bool.eq_false_or_eq_true s.rst with h3 | h3
    · by_cases hn : 0 < n
      · have HV : Hid (segFault s n = 1) := by rw [HF2.out, h3, if_pos (by simpa using hn)]; trivial
        go_wp2_with fail
        go_ret
        refine ⟨ret_int HV.out.symm, ?_⟩
        exact Below.trans (by go_grown) ((HB.out.trans (HB2.out.mono (by simp at *; omega))).mono (by simp))
      · have HV : Hid (segFault s n = 0) := by rw [HF2.out, h3, if_neg (by simpa using hn), if_neg (by omega)]; trivial
        go_wp2_with fail
        go_ret
        refine ⟨ret_int HV.out.symm, ?_⟩
        exact Below.trans (by go_grown) ((HB.out.trans (HB2.out.mono (by simp at *; omega))).mono (by simp))
    · by_cases hn : 8 < n
      · have HV : Hid (segFault s n = 2) := by rw [HF2.out, h2, h3, if_neg (by simp), if_pos hn]; trivial
        go_wp2_with fail
        go_ret
        refine ⟨ret_int HV.out.symm, ?_⟩
        exact Below.trans (by go_grown) ((HB.out.trans (HB2.out.mono (by simp at *; omega))).mono (by simp))
      · have HV : Hid (segFault s n = 0) := by rw [HF2.out, h2, h3, if_neg (by simp), if_neg hn]; trivial
        go_wp2_with fail
        go_ret
        refine ⟨ret_int HV.out.symm, ?_⟩
        exact Below.trans (by go_grown) ((HB.out.trans (HB2.out.mono (by simp at *; omega))).mono (by simp))
end Go.Proofs.Ytlfncadngcjdjaa
