/- What the draws of chapter 1's model give: whole numbers within their kind; nothing that was in memory turns; no condition. -/
import Derived.Test.YtdcbkphaoeckmaaRows
import Derived.Test.YtdcbkphaoeckmaaBase
import Derived.Test.YtdcbkphaoeckmaaDraws
namespace Go.Proofs.Ytdcbkphaoeckmaa
open Go.RowKit
set_option linter.unusedVariables false

theorem sNumber (sb : Nat) (a : Option Addr) (len cap : Nat) (zs : List Int) (K : Int) (w : World)
    (hs : Src w sb (.slice a len cap) K) (hr : BRow .u8 w a len cap zs) (hl : RowLt sb a zs) (hK : K ≤ 900000) :
    Calls Try.prog 23 #[.pointer (some ⟨sb, 0, none⟩)] w fun e w' => ∃ r, e = .returned (.int .i64 r) ∧ (Lit.int .i64 r).wf = true ∧ Below sb w w' ∧ Src w' sb (.slice a len cap) (K + 5) := by
  go_enter Try.func23, Try.ntmps23
  go_wp2_with fail
  refine (sNext sb a len cap zs K 90 w hs hr hl (by omega) (by omega)).mono ?_
  rintro e w1 ⟨r1, rfl, p1, q1, st1, sr1⟩
  have hr1 := hr.below hl (st1.below (Nat.le_refl _))
  go_wp2_with fail
  refine (sNext sb a len cap zs _ 9 w1 sr1 hr1 hl (by omega) (by omega)).mono ?_
  rintro e w2 ⟨r2, rfl, p2, q2, st2, sr2⟩
  have hr2 := hr1.below hl (st2.below (Nat.le_refl _))
  go_wp2_with fail
  refine (sNext sb a len cap zs _ 256 w2 sr2 hr2 hl (by omega) (by omega)).mono ?_
  rintro e w3 ⟨r3, rfl, p3, q3, st3, sr3⟩
  have hr3 := hr2.below hl (st3.below (Nat.le_refl _))
  go_wp2_with fail
  refine (sNext sb a len cap zs _ 256 w3 sr3 hr3 hl (by omega) (by omega)).mono ?_
  rintro e w4 ⟨r4, rfl, p4, q4, st4, sr4⟩
  have hr4 := hr3.below hl (st4.below (Nat.le_refl _))
  go_wp2_with fail
  have hp := sPickL sb a len cap zs _ [r1, 65535 - r2, r3 * 256 + r4, 32768, 32767, -1, 9223372036854775807, -9223372036854775808] 2 w4 sr4 hr4 hl (by omega) (by simp) (by simp)
  simp only [List.length_cons, List.length_nil, List.map_cons, List.map_nil, Nat.zero_add, Nat.reduceAdd] at hp
  refine hp.mono ?_
  clear hp
  rintro e w5 ⟨r, rfl, hm, hb, sr5⟩
  go_wp2_with fail
  go_ret
  refine ⟨r, rfl, ?_, (((st1.below (Nat.le_refl _)).trans (st2.below (Nat.le_refl _))).trans (st3.below (Nat.le_refl _))).trans ((st4.below (Nat.le_refl _)).trans hb), sr5.mono (by omega)⟩
  simp only [List.mem_cons, List.not_mem_nil, or_false] at hm
  refine WalkArith.wf_i64 ?_
  omega

set_option maxHeartbeats 400000 in
theorem dUnwrapNear (a : Option Addr) (len cap : Nat) (zs : List Int) (w : World) (hr : BRow .u8 w a len cap zs) (hl : RowLt w.heap.size a zs) :
    Calls Try.prog 6 #[.slice a len cap] w fun e w' => ∃ x near, e = .returned (.tuple #[.int .i64 x, .int .i64 near]) ∧ (Lit.int .i64 x).wf = true ∧ -1 ≤ near ∧ near ≤ 1000000001 ∧ Below w.heap.size w w' := by
  go_enter Try.func6, Try.ntmps6
  go_wp2_with fail
  refine (sSource _ _ _ _).mono ?_
  rintro e w0 ⟨rfl, hw0⟩
  obtain ⟨s0, r0, b0⟩ := draw_start 46 hr hl
  rw [← hw0] at s0 r0 b0
  clear hw0
  generalize hsb : w.heap.size = sb at *
  have Hsb : Hid (w.heap.size = sb) := hsb
  clear hsb
  go_wp2_with fail
  refine (sNext sb a len cap zs _ 200 w0 s0 r0 hl (by omega) (by omega)).mono ?_
  rintro e w1 ⟨x1, rfl, p1, q1, st1, s1⟩
  have r1 := r0.below hl (st1.below (Nat.le_refl _))
  go_wp2_with fail
  refine (sNext sb a len cap zs _ 20 w1 s1 r1 hl (by omega) (by omega)).mono ?_
  rintro e w2 ⟨x2, rfl, p2, q2, st2, s2⟩
  have r2 := r1.below hl (st2.below (Nat.le_refl _))
  go_wp2_with fail
  have hp := sPickL sb a len cap zs _ [x1, 65530 + x2, 1000000000, 1000000001, -1] 2 w2 s2 r2 hl (by omega) (by simp) (by simp)
  simp only [List.length_cons, List.length_nil, List.map_cons, List.map_nil, Nat.zero_add, Nat.reduceAdd] at hp
  refine hp.mono ?_
  clear hp
  rintro e w3 ⟨near, rfl, hm, b3, s3⟩
  simp only [List.mem_cons, List.not_mem_nil, or_false] at hm
  have n0 : -1 ≤ near := by omega
  have n1 : near ≤ 1000000001 := by omega
  clear hm
  have r3 := r2.below hl b3
  go_wp2_with fail
  refine (sNext sb a len cap zs _ 40 w3 s3 r3 hl (by omega) (by omega)).mono ?_
  rintro e w4 ⟨x4, rfl, p4, q4, st4, s4⟩
  have r4 := r3.below hl (st4.below (Nat.le_refl _))
  go_wp2_with fail
  refine (sNumber sb a len cap zs _ w4 s4 r4 hl (by omega)).mono ?_
  rintro e w5 ⟨x5, rfl, f5, b5, s5⟩
  have r5 := r4.below hl b5
  go_wp2_with fail
  have hp := sPickL sb a len cap zs _ [near + x4 - 20, x5] 2 w5 s5 r5 hl (by omega) (by simp) (by simp)
  simp only [List.length_cons, List.length_nil, List.map_cons, List.map_nil, Nat.zero_add, Nat.reduceAdd] at hp
  refine hp.mono ?_
  clear hp
  rintro e w6 ⟨x, rfl, hm, b6, s6⟩
  go_wp2_with fail
  go_ret2
  refine ⟨x, near, rfl, ?_, n0, n1, by rw [Hsb.out]; exact ((((b0.trans (st1.below (Nat.le_refl _))).trans (st2.below (Nat.le_refl _))).trans b3).trans ((st4.below (Nat.le_refl _)).trans b5)).trans b6⟩
  simp only [List.mem_cons, List.not_mem_nil, or_false] at hm
  rcases hm with rfl | rfl
  · exact WalkArith.wf_i64 (by omega)
  · exact f5

theorem dTwo (a : Option Addr) (len cap : Nat) (zs : List Int) (w : World) (hr : BRow .u8 w a len cap zs) (hl : RowLt w.heap.size a zs) :
    Calls Try.prog 24 #[.slice a len cap] w fun e w' => ∃ x y, e = .returned (.tuple #[.int .i64 x, .int .i64 y]) ∧ (Lit.int .i64 x).wf = true ∧ (Lit.int .i64 y).wf = true ∧ Below w.heap.size w w' := by
  go_enter Try.func24, Try.ntmps24
  go_wp2_with fail
  refine (sSource _ _ _ _).mono ?_
  rintro e w0 ⟨rfl, hw0⟩
  obtain ⟨s0, r0, b0⟩ := draw_start 46 hr hl
  rw [← hw0] at s0 r0 b0
  clear hw0
  generalize hsb : w.heap.size = sb at *
  have Hsb : Hid (w.heap.size = sb) := hsb
  clear hsb
  go_wp2_with fail
  refine (sNumber sb a len cap zs _ w0 s0 r0 hl (by omega)).mono ?_
  rintro e w1 ⟨x1, rfl, f1, b1, s1⟩
  have r1 := r0.below hl b1
  go_wp2_with fail
  refine (sNumber sb a len cap zs _ w1 s1 r1 hl (by omega)).mono ?_
  rintro e w2 ⟨x2, rfl, f2, b2, s2⟩
  go_wp2_with fail
  go_ret2
  exact ⟨x1, x2, rfl, f1, f2, by rw [Hsb.out]; exact (b0.trans b1).trans b2⟩
theorem dAhead (a : Option Addr) (len cap : Nat) (zs : List Int) (w : World) (hr : BRow .u8 w a len cap zs) (hl : RowLt w.heap.size a zs) :
    Calls Try.prog 8 #[.slice a len cap] w fun e w' => ∃ x y, e = .returned (.tuple #[.int .i64 x, .int .i64 y]) ∧ (Lit.int .i64 x).wf = true ∧ (Lit.int .i64 y).wf = true ∧ Below w.heap.size w w' := by
  go_enter Try.func8, Try.ntmps8
  go_wp2_with fail
  refine (dTwo a len cap zs w hr hl).mono ?_
  rintro e w1 ⟨x, y, rfl, fx, fy, b⟩
  go_wp2_with fail
  go_ret2
  exact ⟨x, y, rfl, fx, fy, b⟩
set_option maxHeartbeats 400000 in
theorem dInSpan (a : Option Addr) (len cap : Nat) (zs : List Int) (w : World) (hr : BRow .u8 w a len cap zs) (hl : RowLt w.heap.size a zs) :
    Calls Try.prog 15 #[.slice a len cap] w fun e w' => ∃ x y z, e = .returned (.tuple #[.int .i64 x, .int .i64 y, .int .i64 z]) ∧ (Lit.int .i64 x).wf = true ∧ (Lit.int .i64 y).wf = true ∧ -1 ≤ z ∧ z ≤ 65536 ∧ Below w.heap.size w w' := by
  go_enter Try.func15, Try.ntmps15
  go_wp2_with fail
  refine (sSource _ _ _ _).mono ?_
  rintro e w0 ⟨rfl, hw0⟩
  obtain ⟨s0, r0, b0⟩ := draw_start 46 hr hl
  rw [← hw0] at s0 r0 b0
  clear hw0
  generalize hsb : w.heap.size = sb at *
  have Hsb : Hid (w.heap.size = sb) := hsb
  clear hsb
  go_wp2_with fail
  refine (sNumber sb a len cap zs _ w0 s0 r0 hl (by omega)).mono ?_
  rintro e w1 ⟨x1, rfl, f1, b1, s1⟩
  have r1 := r0.below hl b1
  go_wp2_with fail
  refine (sNumber sb a len cap zs _ w1 s1 r1 hl (by omega)).mono ?_
  rintro e w2 ⟨x2, rfl, f2, b2, s2⟩
  have r2 := r1.below hl b2
  go_wp2_with fail
  refine (sNext sb a len cap zs _ 99 w2 s2 r2 hl (by omega) (by omega)).mono ?_
  rintro e w3 ⟨x3, rfl, p3, q3, st3, s3⟩
  have r3 := r2.below hl (st3.below (Nat.le_refl _))
  go_wp2_with fail
  have hp := sPickL sb a len cap zs _ [x3, 65536, 0, -1, 40000] 2 w3 s3 r3 hl (by omega) (by simp) (by simp)
  simp only [List.length_cons, List.length_nil, List.map_cons, List.map_nil, Nat.zero_add, Nat.reduceAdd] at hp
  refine hp.mono ?_
  clear hp
  rintro e w4 ⟨z, rfl, hm, b4, s4⟩
  go_wp2_with fail
  go_ret3
  simp only [List.mem_cons, List.not_mem_nil, or_false] at hm
  exact ⟨x1, x2, z, rfl, f1, f2, by omega, by omega, by rw [Hsb.out]; exact (b0.trans b1).trans ((b2.trans (st3.below (Nat.le_refl _))).trans b4)⟩
end Go.Proofs.Ytdcbkphaoeckmaa
