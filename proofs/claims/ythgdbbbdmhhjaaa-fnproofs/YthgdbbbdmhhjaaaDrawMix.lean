/- What the draws of chapter 4's model give: keys, nonces and proofs, whole numbers in their bounds; nothing that was in memory turns; no condition. -/
import Derived.Test.YthgdbbbdmhhjaaaRows
import Derived.Test.YthgdbbbdmhhjaaaBase
import Derived.Test.YthgdbbbdmhhjaaaDraws
import Derived.Deep.RegionHeld3
import Derived.Test.YthgdbbbdmhhjaaaMixDef
import Derived.Test.YthgdbbbdmhhjaaaMix3
namespace Go.Proofs.Ythgdbbbdmhhjaaa
open Go.RowKit
set_option linter.unusedVariables false

theorem dKey (sb : Nat) (a : Option Addr) (len cap : Nat) (zs : List Int) (K : Int) (w : World)
    (hs : Src w sb (.slice a len cap) K) (hr : BRow .u8 w a len cap zs) (hl : RowLt sb a zs) (hK : K ≤ 900000) :
    Calls Try.prog 106 #[.pointer (some ⟨sb, 0, none⟩)] w fun e w' => ∃ r, e = .returned (.int .i64 r) ∧ -1 ≤ r ∧ r ≤ 1000000 ∧ Below sb w w' ∧ Src w' sb (.slice a len cap) (K + 3) := by
  go_enter Try.func106, Try.ntmps106
  go_wp2_with fail
  refine (sNext sb a len cap zs K 90 w hs hr hl (by omega) (by omega)).mono ?_
  rintro e w1 ⟨r1, rfl, p1, q1, st1, sr1⟩
  have hr1 := hr.below hl (st1.below (Nat.le_refl _))
  go_wp2_with fail
  refine (sNext sb a len cap zs _ 9 w1 sr1 hr1 hl (by omega) (by omega)).mono ?_
  rintro e w2 ⟨r2, rfl, p2, q2, st2, sr2⟩
  have hr2 := hr1.below hl (st2.below (Nat.le_refl _))
  go_wp2_with fail
  have hp := sPickL sb a len cap zs _ [1 + r1, 999999 - r2, 5, 0, 1000000, -1] 2 w2 sr2 hr2 hl (by omega) (by simp) (by simp)
  simp only [List.length_cons, List.length_nil, List.map_cons, List.map_nil, Nat.zero_add, Nat.reduceAdd] at hp
  refine hp.mono ?_
  clear hp
  rintro e w5 ⟨r, rfl, hm, hb, sr5⟩
  go_wp2_with fail
  go_ret
  simp only [List.mem_cons, List.not_mem_nil, or_false] at hm
  exact ⟨r, rfl, by omega, by omega, ((st1.below (Nat.le_refl _)).trans (st2.below (Nat.le_refl _))).trans hb, sr5.mono (by omega)⟩
set_option maxHeartbeats 400000 in
theorem dProofOf (a : Option Addr) (len cap : Nat) (zs : List Int) (w : World) (hr : BRow .u8 w a len cap zs) (hl : RowLt w.heap.size a zs) :
    Calls Try.prog 91 #[.slice a len cap] w fun e w' => ∃ x y z, e = .returned (.tuple #[.int .i64 x, .int .i64 y, .int .i64 z]) ∧ -1 ≤ x ∧ x ≤ 1000000 ∧ -1 ≤ y ∧ y ≤ 1000000 ∧ -1 ≤ z ∧ z ≤ 1000001 ∧ Below w.heap.size w w' := by
  go_enter Try.func91, Try.ntmps91
  go_wp2_with fail
  refine (sSource _ _ _ _).mono ?_
  rintro e w0 ⟨rfl, hw0⟩
  obtain ⟨s0, r0, b0⟩ := draw_start 110 hr hl
  rw [← hw0] at s0 r0 b0
  clear hw0
  generalize hsb : w.heap.size = sb at *
  have Hsb : Hid (w.heap.size = sb) := hsb
  clear hsb
  go_wp2_with fail
  refine (dKey sb a len cap zs _ w0 s0 r0 hl (by omega)).mono ?_
  rintro e w1 ⟨x1, rfl, p1, q1, b1, s1⟩
  have r1 := r0.below hl b1
  go_wp2_with fail
  refine (dKey sb a len cap zs _ w1 s1 r1 hl (by omega)).mono ?_
  rintro e w2 ⟨x2, rfl, p2, q2, b2, s2⟩
  have r2 := r1.below hl b2
  go_wp2_with fail
  refine (sNext sb a len cap zs _ 99 w2 s2 r2 hl (by omega) (by omega)).mono ?_
  rintro e w3 ⟨x3, rfl, p3, q3, st3, s3⟩
  have r3 := r2.below hl (st3.below (Nat.le_refl _))
  go_wp2_with fail
  have hp := sPickL sb a len cap zs _ [x3, 1000000, 1000001, -1] 2 w3 s3 r3 hl (by omega) (by simp) (by simp)
  simp only [List.length_cons, List.length_nil, List.map_cons, List.map_nil, Nat.zero_add, Nat.reduceAdd] at hp
  refine hp.mono ?_
  clear hp
  rintro e w4 ⟨z, rfl, hm, b4, s4⟩
  go_wp2_with fail
  go_ret3
  simp only [List.mem_cons, List.not_mem_nil, or_false] at hm
  exact ⟨x1, x2, z, rfl, p1, q1, p2, q2, by omega, by omega, by rw [Hsb.out]; exact ((b0.trans b1).trans b2).trans ((st3.below (Nat.le_refl _)).trans b4)⟩
set_option maxHeartbeats 400000 in
theorem dGoodProof (a : Option Addr) (len cap : Nat) (zs : List Int) (w : World) (hr : BRow .u8 w a len cap zs) (hl : RowLt w.heap.size a zs) :
    Calls Try.prog 43 #[.slice a len cap] w fun e w' => ∃ x y z p, e = .returned (.tuple #[.int .i64 x, .int .i64 y, .int .i64 z, .int .i64 p]) ∧ -1 ≤ x ∧ x ≤ 1000000 ∧ -1 ≤ y ∧ y ≤ 1000000 ∧ -1 ≤ z ∧ z ≤ 1000001 ∧ 0 ≤ p ∧ p ≤ 1000000 ∧ Below w.heap.size w w' := by
  have hfd : ∀ (c v : Int) (w : World), (Instr.field 27 (.agg #[.int .i64 c, .int .i64 v]) 1).run Try.prog w = .ok (.int .i64 v) w := by intro c v w; kernel_rfl
  go_enter Try.func43, Try.ntmps43
  go_wp2_with fail
  refine (sSource _ _ _ _).mono ?_
  rintro e w0 ⟨rfl, hw0⟩
  obtain ⟨s0, r0, b0⟩ := draw_start 110 hr hl
  rw [← hw0] at s0 r0 b0
  clear hw0
  generalize hsb : w.heap.size = sb at *
  have Hsb : Hid (w.heap.size = sb) := hsb
  clear hsb
  have hsz := s0.lt
  go_wp2_with fail
  refine (dProofOf a len cap zs w0 r0 r0.lt).mono ?_
  rintro e w1 ⟨x, y, z, rfl, x0, x1, y0, y1, z0, z1, b1⟩
  have s1 : Src w1 sb (.slice a len cap) 0 := s0.below b1
  have r1 := r0.below hl (b1.mono (by omega))
  have b01 := b0.trans (b1.mono (by omega))
  go_wp2_with fail
  refine (sProofOf x y z w1).mono ?_
  rintro e w2 ⟨rfl, b2⟩
  have hp1 := b1.size
  have s2 : Src w2 sb (.slice a len cap) 0 := s1.below b2
  have r2 := r1.below hl (b2.mono (by omega))
  have b02 := b01.trans (b2.mono (by omega))
  have hpb := prfV_bd x y z
  obtain ⟨pb0, pb1⟩ := hpb
  generalize prfV x y z = p at *
  generalize prfC x y z = c at *
  go_wp2_with fail
  have hp := sPickL sb a len cap zs _ [p, p, p + 1, 0] 2 w2 s2 r2 hl (by omega) (by simp) (by simp)
  simp only [List.length_cons, List.length_nil, List.map_cons, List.map_nil, Nat.zero_add, Nat.reduceAdd] at hp
  refine hp.mono ?_
  clear hp
  rintro e w4 ⟨q, rfl, hm, b4, s4⟩
  go_wp2_with fail
  simp only [List.mem_cons, List.not_mem_nil, or_false] at hm
  exact bodyPost_ret (v := .tuple #[.int .i64 x, .int .i64 y, .int .i64 z, .int .i64 q]) (by simp [results, Try.results43, go_sem]) rfl ⟨x, y, z, q, rfl, x0, x1, y0, y1, z0, z1, by omega, by omega, by rw [Hsb.out]; exact b02.trans b4⟩
end Go.Proofs.Ythgdbbbdmhhjaaa
