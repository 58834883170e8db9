/- Answers that hold a slice of numbers: compared, marked, held against the marks; no condition but on lengths. -/
import Derived.Test.YtacbpielhhejkalRows
import Derived.Test.YtacbpielhhejkalBase
import Derived.Test.YtacbpielhhejkalMem
import Derived.Test.YtacbpielhhejkalHBase
import Derived.Test.YtacbpielhhejkalHMark
import Derived.Test.YtacbpielhhejkalInts
import Derived.Test.YtacbpielhhejkalIntsOwn
namespace Go.Proofs.Ytacbpielhhejkal
open Go.RowKit
set_option linter.unusedVariables false

set_option maxHeartbeats 1000000 in
theorem lEqIntsResult (q : Int) (x : List Int) (v u : Value) (w : World) (B : Nat) (hr : i64s.Rd w B x [v]) (hr' : i64s.Rd w B x [u]) (hB : B ≤ w.heap.size) (hT : x.length ≤ 1048576) :
    Calls Try.prog 11 #[.agg #[.int .i64 q, v], .agg #[.int .i64 q, u]] w fun e w' => e = .returned (.bool true) ∧ Below w.heap.size w w' := by
  obtain ⟨va, vc, ev, -⟩ := rd_ints hr
  simp only [List.cons.injEq, and_true] at ev
  subst ev
  obtain ⟨ua, uc, ev, -⟩ := rd_ints hr'
  simp only [List.cons.injEq, and_true] at ev
  subst ev
  have HC : Hid (∀ W, Below w.heap.size w W → Calls Try.prog 35 #[.slice va x.length vc, .slice ua x.length uc] W fun e w' => e = .returned (.bool true) ∧ Below W.heap.size W w') := fun W hW => by
    obtain ⟨_, _, e1, r1⟩ := rd_ints (hr.below hB hW)
    simp only [List.cons.injEq, Value.slice.injEq, and_true, true_and] at e1
    obtain ⟨rfl, rfl⟩ := e1
    obtain ⟨_, _, e1, r2⟩ := rd_ints (hr'.below hB hW)
    simp only [List.cons.injEq, Value.slice.injEq, and_true, true_and] at e1
    obtain ⟨rfl, rfl⟩ := e1
    refine (lEqInts _ _ _ _ _ x W rfl r1 r2 (by omega)).mono ?_
    rintro e w' ⟨m, rfl, rfl⟩
    exact ⟨rfl, below_drewN (Below.refl _ _) m⟩
  clear hr hr' hT
  generalize x.length = n at *
  go_enter Try.func11, Try.ntmps11
  go_wp2_with fail
  refine (HC.out _ (by go_grown)).mono ?_
  rintro e w1 ⟨rfl, hb1⟩
  go_wp2_with fail
  go_ret
  exact ⟨rfl, Below.trans (by go_grown) (hb1.mono (by simp; omega))⟩
set_option maxHeartbeats 1000000 in
theorem lMarkIntsResult (q : Int) (x : List Int) (v : Value) (c : Int) (w : World) (lo hi : Nat) (ho : Own w lo hi i64s x [v]) (hhi : hi ≤ w.heap.size) (hT : x.length ≤ 1048576) (hc0 : 0 ≤ c) (hc1 : c ≤ 1073741824) :
    Calls Try.prog 14 #[.agg #[.int .i64 q, v], .int .i64 c] w fun e w' => e = .returned (.int .i64 (c + (x.length : Nat))) ∧ Own w' lo hi i64s (marksI c x.length) [v] ∧ Within lo hi w w' := by
  obtain ⟨va, vc, ev, -⟩ := rd_ints (ho.rd (Nat.le_refl _))
  simp only [List.cons.injEq, and_true] at ev
  subst ev
  have HC : Hid (∀ W, Below w.heap.size w W → Calls Try.prog 38 #[.slice va x.length vc, .int .i64 c] W fun e w' => e = .returned (.int .i64 (c + (x.length : Nat))) ∧ Own w' lo hi i64s (marksI c x.length) [.slice va x.length vc] ∧ Within lo hi W w') := fun W hW => lMarkIntsO x _ c W lo hi (ho.below hhi hW) (by omega) hc0 (by omega)
  clear ho hT
  generalize x.length = n at *
  go_enter Try.func14, Try.ntmps14
  go_wp2_with fail
  refine (HC.out _ (by go_grown)).mono ?_
  rintro e w1 ⟨rfl, ho1, hw1⟩
  have HO1 : Hid _ := ho1
  have HW1 : Hid (Within lo hi w w1) := (Within.below ((Below.refl _ _).alloc (Nat.le_refl _) _)).trans hw1
  clear ho1 hw1
  go_wp2_with fail
  go_ret
  exact ⟨rfl, HO1.out, HW1.out⟩
set_option maxHeartbeats 1000000 in
theorem lHeldIntsResult (q : Int) (x : List Int) (v : Value) (c : Int) (w : World) (B : Nat) (hr : i64s.Rd w B (marksI c x.length) [v]) (hB : B ≤ w.heap.size) (hT : x.length ≤ 1048576) (hc0 : 0 ≤ c) (hc1 : c ≤ 1073741824) :
    Calls Try.prog 15 #[.agg #[.int .i64 q, v], .int .i64 c] w fun e w' => e = .returned (.int .i64 (c + (x.length : Nat))) ∧ Below w.heap.size w w' := by
  obtain ⟨va, vc, ev, -⟩ := rd_ints hr
  rw [marksI_length] at ev
  simp only [List.cons.injEq, and_true] at ev
  subst ev
  have HC : Hid (∀ W, Below w.heap.size w W → Calls Try.prog 39 #[.slice va x.length vc, .int .i64 c] W fun e w' => e = .returned (.int .i64 (c + (x.length : Nat))) ∧ Below W.heap.size W w') := fun W hW => by
    obtain ⟨_, _, e1, r1⟩ := rd_ints (hr.below hB hW)
    rw [marksI_length] at e1
    simp only [List.cons.injEq, Value.slice.injEq, and_true, true_and] at e1
    obtain ⟨rfl, rfl⟩ := e1
    refine (lHeldInts va _ vc c W r1 (by omega) hc0 (by omega)).mono ?_
    rintro e w' ⟨rfl, hw⟩
    exact ⟨rfl, by rw [hw]; exact Below.refl _ _⟩
  clear hr hT
  generalize x.length = n at *
  have hp : 0 ≤ c + (n : Int) := by omega
  go_enter Try.func15, Try.ntmps15
  go_wp2_with fail
  refine (HC.out _ (by go_grown)).mono ?_
  rintro e w1 ⟨rfl, hb⟩
  go_wp2_with fail
  go_ret
  exact ⟨rfl, Below.trans (by go_grown) (hb.mono (by simp))⟩
end Go.Proofs.Ytacbpielhhejkal
