/- What the model's GatherFault and its helpers answer; what was in memory stays; no condition but that each piece has at most a million bytes. -/
import Derived.Test.YtnbcefdfdonljaaRows
import Derived.Test.YtnbcefdfdonljaaBase
import Derived.Test.YtnbcefdfdonljaaBytes
import Derived.Test.YtnbcefdfdonljaaMem
import Derived.Test.YtnbcefdfdonljaaGath
namespace Go.Proofs.Ytnbcefdfdonljaa
open Go.RowKit
set_option linter.unusedVariables false

theorem sInG (v low high : Int) (w : World) : Calls Try.prog 97 #[.int .i64 v, .int .i64 low, .int .i64 high] w fun e w' => e = .returned (.bool (decide (low ≤ v ∧ v ≤ high))) ∧ w' = w := by
  by_cases h : low ≤ v
  · go_enter Try.func97, Try.ntmps97
    go_wp2
    go_ret
    exact ⟨ret_bool (by simp [h]), rfl⟩
  · go_enter Try.func97, Try.ntmps97
    go_wp2
    go_ret
    exact ⟨ret_bool (by simp; omega), rfl⟩

theorem sPlace (a : Int) (n : Nat) (w : World) (hn : n ≤ 1048576) : Calls Try.prog 55 #[.int .i64 a, .int .i64 n] w fun e w' => e = .returned (.bool (decide (0 ≤ a ∧ a + n ≤ 400))) ∧ w' = w := by
  have c := fun w => sInG a 0 400 w
  by_cases h : 0 ≤ a ∧ a ≤ 400
  · have hd : decide (0 ≤ a ∧ a ≤ 400) = true := by simp [h]
    rw [hd] at c
    have h1 := h.1
    have h2 := h.2
    clear h hd
    go_enter Try.func55, Try.ntmps55
    go_wp2_with (go_at_call 97; refine (c _).mono ?_; rintro e w' ⟨rfl, hw⟩; subst w')
    go_ret
    exact ⟨ret_bool (by simp [h1]), rfl⟩
  · have hd : decide (0 ≤ a ∧ a ≤ 400) = false := by simp only [decide_eq_false_iff_not]; exact h
    rw [hd] at c
    have HF : Hid (decide (0 ≤ a ∧ a + n ≤ 400) = false) := by show _ = _; simp only [decide_eq_false_iff_not]; omega
    clear h hd
    go_enter Try.func55, Try.ntmps55
    go_wp2_with (go_at_call 97; refine (c _).mono ?_; rintro e w' ⟨rfl, hw⟩; subst w')
    go_ret
    exact ⟨ret_bool HF.out.symm, rfl⟩

theorem pcFault_1 {a : Int} {n : Nat} {e : Int} (h : n = 0) : pcFault a n e = 1 := by unfold pcFault; rw [if_pos h]
theorem pcFault_3 {a : Int} {n : Nat} {e : Int} (h : n ≠ 0) (h2 : ¬ (0 ≤ a ∧ a + n ≤ 400)) : pcFault a n e = 3 := by unfold pcFault; rw [if_neg h, if_pos (by omega)]
theorem pcFault_1' {a : Int} {n : Nat} {e : Int} (h : n ≠ 0) (h2 : 0 ≤ a ∧ a + n ≤ 400) (h3 : a ≤ e) : pcFault a n e = 1 := by unfold pcFault; rw [if_neg h, if_neg (by omega), if_pos h3]
theorem pcFault_0 {a : Int} {n : Nat} {e : Int} (h : n ≠ 0) (h2 : 0 ≤ a ∧ a + n ≤ 400) (h3 : ¬ a ≤ e) : pcFault a n e = 0 := by unfold pcFault; rw [if_neg h, if_neg (by omega), if_neg h3]

set_option maxHeartbeats 2000000 in
theorem sL3FaultO (g : Gt) (v1 v2 : Value) (p of : Nat) (w : World) (B : Nat) (hr : gtS.Rd w B g [v1, v2]) (hB : B ≤ w.heap.size) (hT : ∀ k (hk : k < g.2.1.length), g.2.1[k].2.1.length ≤ 1048576)
    (hx1 : w.cell? ⟨p, of, none⟩ = some v1) (hx2 : w.cell? ⟨p, of + 1, none⟩ = some v2) :
    Calls Try.prog 51 #[.pointer (some ⟨p, of, none⟩)] w fun e w' => e = .returned (.int .i64 (gtFault g)) ∧ Below w.heap.size w w' := by
  obtain ⟨a1, c1, a2, c2, e0, r1, r2⟩ := rd_gt hr
  simp only [List.cons.injEq, and_true] at e0
  obtain ⟨rfl, rfl⟩ := e0
  obtain ⟨_, _, e1, -, -, m1⟩ := rd_bytes r1
  obtain ⟨_, _, e2, m2, -, -⟩ := rd_pcs r2
  clear e1 e2
  unfold maxLen at m1 m2
  obtain ⟨done, ps, _⟩ := g
  simp only at *
  have hpl : p < w.heap.size := cell_lt hx1
  have HR : Hid (∀ W, Below w.heap.size w W → pcsS.Rd W B ps [.slice a2 ps.length c2]) := fun W hW => r2.below hB hW
  have HT : Hid _ := hT
  clear hr r1 r2 hT
  by_cases hm : 400 < done.length ∨ 40 < ps.length
  · have e3 : gtFault (done, ps, ()) = 2 := by unfold gtFault; rw [if_pos hm]
    rw [e3]
    by_cases hm1 : 400 < done.length
    · go_enter Try.func51, Try.ntmps51
      go_wp2_with fail
      go_ret
      exact ⟨rfl, Below.refl _ _⟩
    · have hm2 : 40 < ps.length := by omega
      go_enter Try.func51, Try.ntmps51
      go_wp2_with fail
      go_ret
      exact ⟨rfl, Below.refl _ _⟩
  · have e3 : gtFault (done, ps, ()) = pcsFault done.length ps := by unfold gtFault; rw [if_neg hm]
    rw [e3]
    have hm1 : done.length ≤ 400 := by omega
    have hm2 : ps.length ≤ 40 := by omega
    clear e3 hm
    go_enter Try.func51, Try.ntmps51
    go_wp2_with fail
    go_loopw [3, 4] (fun t i wr => ∃ (k : Nat) (e0 : Int), k ≤ ps.length ∧ i = .int .i64 k ∧ t = .int .i64 e0 ∧ pcsFault done.length ps = pcsFault e0 (ps.drop k) ∧ Below w.heap.size w wr) (fun _ i _ => ps.length - (intOf i).toNat)
    case atStart => exact ⟨0, done.length, Nat.zero_le _, rfl, rfl, rfl, Below.refl _ _⟩
    case round =>
      obtain ⟨k, e0, hk, rfl, rfl, hq, hbl⟩ := hrel
      have q1 := (hbl.cell (p := ⟨p, of, none⟩) hpl).trans hx1
      have q2 := (hbl.cell (p := ⟨p, of + 1, none⟩) hpl).trans hx2
      clear hx1 hx2
      by_cases hlt : k < ps.length
      · obtain ⟨_, _, e1, -, -, hp⟩ := rd_pcs (HR.out wr hbl)
        obtain ⟨b, off, ad, c, ha, hb, y0, y1, r3, hw⟩ := hp k hlt
        simp only [List.cons.injEq, Value.slice.injEq, and_true, true_and] at e1
        rw [← e1.1] at ha
        subst ha
        have m4 := HT.out k hlt
        rw [pcsFault_at e0 hlt] at hq
        clear hp r3 e1
        generalize ps[k].1 = at' at *
        generalize ps[k].2.1.length = n at *
        have HQ : Hid _ := hq
        have HB : Hid _ := hbl
        have HB1 : Hid (Below w.heap.size w (wr.alloc (.cells #[.int .i64 at', .slice ad n c] 87))) := hbl.alloc hbl.size _
        have c1 := fun w => sPlace at' n w m4
        clear hq hbl
        by_cases hz : n = 0
        · replace HQ : Hid (pcsFault done.length ps = 1) := by have := HQ.out; rw [pcFault_1 hz, if_pos (by decide)] at this; exact this
          subst hz
          go_wp2_with fail
          go_ret
          exact ⟨ret_int HQ.out.symm, HB1.out⟩
        · have hz2 : ((n : Int) == 0) = false := by simpa using hz
          by_cases h1 : 0 ≤ at' ∧ at' + n ≤ 400
          · simp only [h1, and_self, decide_true] at c1
            obtain ⟨h1a, h1b⟩ := h1
            by_cases h2 : at' ≤ e0
            · replace HQ : Hid (pcsFault done.length ps = 1) := by have := HQ.out; rw [pcFault_1' hz ⟨h1a, h1b⟩ h2, if_pos (by decide)] at this; exact this
              go_wp2_with (go_at_call 55; refine (c1 _).mono ?_; rintro e w' ⟨rfl, hw⟩; subst w')
              go_ret
              exact ⟨ret_int HQ.out.symm, HB1.out⟩
            · replace HQ : Hid (pcsFault done.length ps = pcsFault (at' + n) (ps.drop (k + 1))) := by have := HQ.out; rw [pcFault_0 hz ⟨h1a, h1b⟩ h2, if_neg (by decide)] at this; exact this
              go_wp2_with (go_at_call 55; refine (c1 _).mono ?_; rintro e w' ⟨rfl, hw⟩; subst w')
              go_roundw
              case rel => exact ⟨k + 1, at' + n, by omega, by go_num, rfl, HQ.out, HB1.out⟩
              case measure => simp [intOf]; omega
          · simp only [h1, decide_false] at c1
            replace HQ : Hid (pcsFault done.length ps = 3) := by have := HQ.out; rw [pcFault_3 hz h1, if_pos (by decide)] at this; exact this
            go_wp2_with (go_at_call 55; refine (c1 _).mono ?_; rintro e w' ⟨rfl, hw⟩; subst w')
            go_ret
            exact ⟨ret_int HQ.out.symm, HB1.out⟩
      · obtain rfl : k = ps.length := by omega
        rw [pcsFault_end] at hq
        have HQ : Hid _ := hq
        clear hq
        go_wp2_with fail
        go_ret
        exact ⟨ret_int HQ.out.symm, hbl⟩

theorem sL3Fault (g : Gt) (v1 v2 : Value) (p : Nat) (w : World) (B : Nat) (hr : gtS.Rd w B g [v1, v2]) (hB : B ≤ w.heap.size) (hT : ∀ k (hk : k < g.2.1.length), g.2.1[k].2.1.length ≤ 1048576)
    (hp : ∀ o, w.cell? ⟨p, o, none⟩ = (#[v1, v2] : Array Value)[o]?) :
    Calls Try.prog 51 #[.pointer (some ⟨p, 0, none⟩)] w fun e w' => e = .returned (.int .i64 (gtFault g)) ∧ Below w.heap.size w w' := sL3FaultO g v1 v2 p 0 w B hr hB hT (hp 0) (hp 1)

end Go.Proofs.Ytnbcefdfdonljaa
