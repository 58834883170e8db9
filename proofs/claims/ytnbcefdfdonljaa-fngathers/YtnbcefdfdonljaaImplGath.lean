/- What the program's GatherFault and its helpers answer; what was in memory stays; no condition but that lengths are below 2^47. -/
import Derived.Test.YtnbcefdfdonljaaRows
import Derived.Test.YtnbcefdfdonljaaBase
import Derived.Test.YtnbcefdfdonljaaBytes
import Derived.Test.YtnbcefdfdonljaaMem
import Derived.Test.YtnbcefdfdonljaaGath
namespace Go.Proofs.Ytnbcefdfdonljaa
open Go.RowKit
set_option linter.unusedVariables false

theorem iPieceEnd (a : Int) (ad : Option Addr) (n c : Nat) (w : World) (h0 : -4611686018427387904 ≤ a) (h1 : a ≤ 4611686018427387904) (hn : n ≤ 281474976710656) :
    Calls Try.prog 45 #[.agg #[.int .i64 a, .slice ad n c]] w fun e w' => e = .returned (.int .i64 (a + n)) ∧ Below w.heap.size w w' := by
  go_enter Try.func45, Try.ntmps45
  go_wp2_with fail
  go_ret
  exact ⟨rfl, by go_grown⟩

theorem iLeaves (a : Int) (ad : Option Addr) (n c : Nat) (w : World) (hn : n ≤ 9223372036854775807) :
    Calls Try.prog 41 #[.int .i64 a, .slice ad n c] w fun e w' => e = .returned (.bool (decide (a < 0 ∨ 400 - (n : Int) < a))) ∧ Below w.heap.size w w' := by
  by_cases h : a < 0
  · go_enter Try.func41, Try.ntmps41
    go_wp2_with fail
    go_ret
    exact ⟨ret_bool (by simp [h]), by go_grown⟩
  · go_enter Try.func41, Try.ntmps41
    go_wp2_with fail
    go_ret
    exact ⟨ret_bool (by simp; omega), by go_grown⟩

theorem iPieceFault (a : Int) (ad : Option Addr) (n c : Nat) (e0 : Int) (w : World) (hn : n ≤ 9223372036854775807) :
    Calls Try.prog 46 #[.agg #[.int .i64 a, .slice ad n c], .int .i64 e0] w fun e w' => e = .returned (.int .i64 (pcFault a n e0)) ∧ Below w.heap.size w w' := by
  by_cases hz : n = 0
  · subst hz
    go_enter Try.func46, Try.ntmps46
    go_wp2_with fail
    go_ret
    exact ⟨rfl, by go_grown⟩
  · have c1 := fun w => iLeaves a ad n c w hn
    by_cases h1 : a < 0 ∨ 400 - (n : Int) < a
    · simp only [h1, decide_true] at c1
      have e1 : pcFault a n e0 = 3 := by unfold pcFault; rw [if_neg hz, if_pos h1]
      rw [e1]
      clear e1
      go_enter Try.func46, Try.ntmps46
      go_wp2_with (go_at_call 41; refine (c1 _).mono ?_; rintro e w1 ⟨rfl, hb1⟩)
      go_ret
      exact ⟨rfl, Below.trans (by go_grown) (hb1.mono (by simp))⟩
    · simp only [h1, decide_false] at c1
      by_cases h2 : a ≤ e0
      · have e1 : pcFault a n e0 = 1 := by unfold pcFault; rw [if_neg hz, if_neg h1, if_pos h2]
        rw [e1]
        clear e1
        go_enter Try.func46, Try.ntmps46
        go_wp2_with fail
        refine (c1 _).mono ?_
        rintro e w1 ⟨rfl, hb1⟩
        have k0 : ∀ o, w1.cell? ⟨w.heap.size, o, none⟩ = (#[.int .i64 a, .slice ad n c] : Array Value)[o]? := fun o => by rw [(bcell hb1).1 _ o (by simp)]; simp [go_sem]
        have HB : Hid _ := hb1
        clear hb1
        go_wp2_with fail
        go_ret
        exact ⟨rfl, Below.trans (by go_grown) (HB.out.mono (by simp))⟩
      · have e1 : pcFault a n e0 = 0 := by unfold pcFault; rw [if_neg hz, if_neg h1, if_neg h2]
        rw [e1]
        clear e1
        go_enter Try.func46, Try.ntmps46
        go_wp2_with fail
        refine (c1 _).mono ?_
        rintro e w1 ⟨rfl, hb1⟩
        have k0 : ∀ o, w1.cell? ⟨w.heap.size, o, none⟩ = (#[.int .i64 a, .slice ad n c] : Array Value)[o]? := fun o => by rw [(bcell hb1).1 _ o (by simp)]; simp [go_sem]
        have HB : Hid _ := hb1
        clear hb1
        go_wp2_with fail
        go_ret
        exact ⟨rfl, Below.trans (by go_grown) (HB.out.mono (by simp))⟩

set_option maxHeartbeats 1000000 in
theorem iGatherFault (g : Gt) (cs : List Value) (w : World) (hr : gtS.Rd w w.heap.size g cs) :
    Calls Try.prog 12 #[.agg cs.toArray] w fun e w' => e = .returned (.int .i64 (gtFault g)) ∧ Below w.heap.size w w' := by
  obtain ⟨a1, c1, a2, c2, rfl, r1, r2⟩ := rd_gt hr
  obtain ⟨_, _, e1, _, _, m1⟩ := rd_bytes r1
  obtain ⟨_, _, e2, m2, _, hp⟩ := rd_pcs r2
  simp only [List.cons.injEq, Value.slice.injEq, and_true, true_and] at e1 e2
  obtain ⟨rfl, rfl⟩ := e1
  obtain ⟨rfl, rfl⟩ := e2
  unfold maxLen at m1 m2
  obtain ⟨done, ps, _⟩ := g
  simp only at *
  by_cases hm : 400 < done.length ∨ 40 < ps.length
  · have e3 : gtFault (done, ps, ()) = 2 := by unfold gtFault; rw [if_pos hm]
    rw [e3]
    by_cases hm1 : 400 < done.length
    · go_enter Try.func12, Try.ntmps12
      go_wp2_with fail
      go_ret
      exact ⟨rfl, by go_grown⟩
    · have hm2 : 40 < ps.length := by omega
      go_enter Try.func12, Try.ntmps12
      go_wp2_with fail
      go_ret
      exact ⟨rfl, by go_grown⟩
  · have e3 : gtFault (done, ps, ()) = pcsFault done.length ps := by unfold gtFault; rw [if_neg hm]
    rw [e3]
    have hm1 : done.length ≤ 400 := by omega
    have hm2 : ps.length ≤ 40 := by omega
    clear e3 hm
    go_enter Try.func12, Try.ntmps12
    go_wp2_with fail
    go_loopw [3, 23] (fun t i wr => ∃ (k : Nat) (e0 : Int), k ≤ ps.length ∧ i = .int .i64 k ∧ t = .int .i64 e0 ∧ pcsFault done.length ps = pcsFault e0 (ps.drop k) ∧ Below w.heap.size w wr) (fun _ i _ => ps.length - (intOf i).toNat)
    case atStart => exact ⟨0, done.length, Nat.zero_le _, rfl, rfl, rfl, by go_grown⟩
    case round =>
      obtain ⟨k, e0, hk, rfl, rfl, hq, hbl⟩ := hrel
      by_cases hlt : k < ps.length
      · obtain ⟨b, off, ad, c, rfl, hb, x0, x1, r3, hw⟩ := hp k hlt
        obtain ⟨_, _, e3, _, _, m3⟩ := rd_bytes r3
        have y0 : wr.cell? ⟨b, off + k * 2, none⟩ = some (.int .i64 ps[k].1) := (hbl.cell (p := ⟨b, off + k * 2, none⟩) hb).trans x0
        have y1 : wr.cell? ⟨b, off + k * 2 + 1, none⟩ = some (.slice ad ps[k].2.1.length c) := (hbl.cell (p := ⟨b, off + k * 2 + 1, none⟩) hb).trans x1
        rw [pcsFault_at e0 hlt] at hq
        unfold maxLen at m3
        clear x0 x1 r3 e3 hp r1 r2 hr
        generalize ps[k].1 = at' at *
        generalize ps[k].2.1.length = n at *
        have HQ : Hid _ := hq
        have HB : Hid _ := hbl
        clear hq hbl
        go_wp2_with fail
        refine (iPieceFault at' ad n c e0 _ (by omega)).mono ?_
        rintro e w1 ⟨rfl, hb1⟩
        have k0 : ∀ o, w1.cell? ⟨wr.heap.size, o, none⟩ = (#[.int .i64 at', .slice ad n c] : Array Value)[o]? := fun o => by rw [(bcell hb1).1 _ o (by simp)]; simp [go_sem]
        have HB1 : Hid (Below w.heap.size w w1) := (HB.out.trans ((Below.refl _ _ |>.alloc HB.out.size _).trans (hb1.mono (by simp; have := HB.out.size; omega))))
        clear hb1
        by_cases hf : pcFault at' n e0 = 0
        · obtain ⟨f1, f2, f3, f4⟩ := pcFault_ok hf
          replace HQ : Hid (pcsFault done.length ps = pcsFault (at' + n) (ps.drop (k + 1))) := by have := HQ.out; rw [if_neg (by simp [hf])] at this; exact this
          rw [hf]
          clear hf
          go_wp2_with fail
          refine (iPieceEnd at' ad n c _ (by omega) (by omega) (by omega)).mono ?_
          rintro e w2 ⟨rfl, hb2⟩
          have HB2 : Hid (Below w.heap.size w w2) := HB1.out.trans (hb2.mono HB1.out.size)
          clear hb2
          go_wp2_with fail
          go_roundw
          case rel => exact ⟨k + 1, at' + n, by omega, by go_num, rfl, HQ.out, HB2.out⟩
          case measure => simp [intOf]; omega
        · replace HQ : Hid (pcsFault done.length ps = pcFault at' n e0) := by have := HQ.out; rw [if_pos (by simpa using hf)] at this; exact this
          have hf2 : (pcFault at' n e0 == 0) = false := by simpa using hf
          generalize pcFault at' n e0 = f at *
          go_wp2_with fail
          go_ret
          exact ⟨ret_int HQ.out.symm, HB1.out⟩
      · obtain rfl : k = ps.length := by omega
        rw [pcsFault_end] at hq
        have HQ : Hid _ := hq
        clear hq hp r1 r2 hr
        go_wp2_with fail
        go_ret
        exact ⟨ret_int HQ.out.symm, hbl⟩
end Go.Proofs.Ytnbcefdfdonljaa
