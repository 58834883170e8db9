/- What the law's own helpers (hold against the marks, mark, compare) make of answers that hold a gather; no condition but on lengths. -/
import Derived.Test.YtfeneeacchpfeaiRows
import Derived.Test.YtfeneeacchpfeaiBase
import Derived.Test.YtfeneeacchpfeaiBytes
import Derived.Test.YtfeneeacchpfeaiMem
import Derived.Test.YtfeneeacchpfeaiMemOpen
import Derived.Test.YtfeneeacchpfeaiMemRow
import Derived.Test.YtfeneeacchpfeaiGath
import Derived.Test.YtfeneeacchpfeaiGathLaw
import Derived.Test.YtfeneeacchpfeaiPMap
import Derived.Test.YtfeneeacchpfeaiPRun
import Derived.Test.YtfeneeacchpfeaiPutDef
import Derived.Test.YtfeneeacchpfeaiPLast
import Derived.Test.YtfeneeacchpfeaiPMark
import Derived.Test.YtfeneeacchpfeaiGathMark
import Derived.Test.YtfeneeacchpfeaiBox
namespace Go.Proofs.Ytfeneeacchpfeai
open Go.RowKit Go.Maps
set_option linter.unusedVariables false

set_option maxHeartbeats 2000000 in
theorem lHeldGather (g : Gt) (v1 v2 : Value) (c : Int) (w : World) (B : Nat) (hr : gtS.Rd w B (markG c g) [v1, v2]) (hB : B ≤ w.heap.size) (hT : gtTot g ≤ 1048576) (hc0 : 0 ≤ c) (hc1 : c ≤ 1073741824) :
    Calls Try.prog 55 #[.agg #[v1, v2], .int .i64 c] w fun e w' => e = .returned (.int .i64 (c + gtTot g)) ∧ Below w.heap.size w w' := by
  obtain ⟨a1, c1, a2, c2, e0, r1, r2⟩ := rd_gt hr
  simp only [List.cons.injEq, and_true] at e0
  obtain ⟨rfl, rfl⟩ := e0
  have l1 : (markG c g).1.length = g.1.length := marks_length _ _
  have l2 : (markG c g).2.1.length = g.2.1.length := markP_length _ _
  rw [l1] at r1 ⊢
  rw [l2] at r2 ⊢
  have t1 : g.1.length ≤ 1048576 := by unfold gtTot at hT; omega
  have t2 : pcsTot g.2.1 ≤ 1048576 := by unfold gtTot at hT; omega
  have HG : Hid (c + (g.1.length : Int) + pcsTot g.2.1 = c + gtTot g) := by show _ = _; unfold gtTot; omega
  have H1 : Hid (∀ W, Below w.heap.size w W → RB W a1 (marks c g.1.length)) := fun W hW => by
    obtain ⟨_, _, e1, q1, -, -⟩ := rd_bytes (r1.below hB hW)
    rw [l1] at e1
    simp only [List.cons.injEq, Value.slice.injEq, and_true, true_and] at e1
    obtain ⟨rfl, rfl⟩ := e1
    exact q1
  have H2 : Hid (∀ W, Below w.heap.size w W → pcsS.Rd W B (markP (c + g.1.length) g.2.1) [.slice a2 g.2.1.length c2]) := fun W hW => r2.below hB hW
  clear hr r1 r2 hT l1 l2
  obtain ⟨done, ps, _⟩ := g
  simp only at *
  have p1 : 0 ≤ c + (done.length : Int) := by omega
  have p2 : 0 ≤ c + (done.length : Int) + (pcsTot ps : Int) := by omega
  go_enter Try.func55, Try.ntmps55
  go_wp2_with fail
  refine (lHeldByteS a1 _ c1 c _ (H1.out _ (by go_grown)) (by omega) hc0 (by omega)).mono ?_
  rintro e w1 ⟨rfl, hw1⟩
  subst w1
  go_wp2_with fail
  refine (lHeldPieceS ps a2 _ c2 (c + done.length) _ B rfl (H2.out _ (by go_grown)) (by omega) (by omega) (by omega)).mono ?_
  rintro e w1 ⟨rfl, hw1⟩
  subst w1
  go_wp2_with fail
  go_ret
  exact ⟨ret_int HG.out, by go_grown⟩

set_option maxHeartbeats 2000000 in
theorem lMarkGatherR (k : Int) (g : Gt) (v1 v2 : Value) (c : Int) (w : World) (lo hi : Nat) (ho : Own w lo hi gtS g [v1, v2]) (hhi : hi ≤ w.heap.size) (hT : gtTot g ≤ 1048576) (hc0 : 0 ≤ c) (hc1 : c ≤ 1073741824) :
    Calls Try.prog 30 #[.agg #[.int .i64 k, v1, v2], .int .i64 c] w fun e w' => e = .returned (.int .i64 (c + gtTot g)) ∧ Own w' lo hi gtS (markG c g) [v1, v2] ∧ Within lo hi w w' := by
  obtain ⟨a1, c1, a2, c2, e0, -, -⟩ := rd_gt (ho.rd (Nat.le_refl _))
  simp only [List.cons.injEq, and_true] at e0
  obtain ⟨rfl, rfl⟩ := e0
  have HO : Hid (∀ W, Below w.heap.size w W → Own W lo hi gtS g [.slice a1 g.1.length c1, .slice a2 g.2.1.length c2]) := fun W hW => ho.below hhi hW
  clear ho
  generalize g.1.length = n1 at *
  generalize g.2.1.length = n2 at *
  go_enter Try.func30, Try.ntmps30
  go_wp2_with fail
  refine (lMarkGather g _ _ c _ lo hi (HO.out _ (by go_grown)) hT hc0 hc1).mono ?_
  rintro e w1 ⟨rfl, ho1, hw1⟩
  have HO1 : Hid _ := ho1
  have HW1 : Hid (Within lo hi w w1) := (Within.below ((Below.refl _ _).alloc (Nat.le_refl _) _)).trans hw1
  clear ho1 hw1
  go_wp2_with fail
  go_ret
  exact ⟨rfl, HO1.out, HW1.out⟩

set_option maxHeartbeats 2000000 in
theorem lHeldGatherR (k : Int) (g : Gt) (v1 v2 : Value) (c : Int) (w : World) (B : Nat) (hr : gtS.Rd w B (markG c g) [v1, v2]) (hB : B ≤ w.heap.size) (hT : gtTot g ≤ 1048576) (hc0 : 0 ≤ c) (hc1 : c ≤ 1073741824) :
    Calls Try.prog 31 #[.agg #[.int .i64 k, v1, v2], .int .i64 c] w fun e w' => e = .returned (.int .i64 (c + gtTot g)) ∧ Below w.heap.size w w' := by
  obtain ⟨a1, c1, a2, c2, e0, -, -⟩ := rd_gt hr
  simp only [List.cons.injEq, and_true] at e0
  obtain ⟨rfl, rfl⟩ := e0
  have HR : Hid (∀ W, Below w.heap.size w W → gtS.Rd W B (markG c g) [.slice a1 (markG c g).1.length c1, .slice a2 (markG c g).2.1.length c2]) := fun W hW => hr.below hB hW
  clear hr
  generalize (markG c g).1.length = n1 at *
  generalize (markG c g).2.1.length = n2 at *
  have p2 : 0 ≤ c + (gtTot g : Int) := by omega
  go_enter Try.func31, Try.ntmps31
  go_wp2_with fail
  refine (lHeldGather g _ _ c _ B (HR.out _ (by go_grown)) (by simp; omega) hT hc0 hc1).mono ?_
  rintro e w1 ⟨rfl, hb1⟩
  go_wp2_with fail
  go_ret
  exact ⟨rfl, Below.trans (by go_grown) (hb1.mono (by simp))⟩

set_option maxHeartbeats 2000000 in
theorem lEqGatherR (k : Int) (g : Gt) (v1 v2 u1 u2 : Value) (w : World) (B : Nat) (hr : gtS.Rd w B g [v1, v2]) (hr' : gtS.Rd w B g [u1, u2]) (hB : B ≤ w.heap.size) (hT : gtTot g ≤ 1048576) :
    Calls Try.prog 26 #[.agg #[.int .i64 k, v1, v2], .agg #[.int .i64 k, u1, u2]] w fun e w' => e = .returned (.bool true) ∧ Below w.heap.size w w' := by
  obtain ⟨a1, c1, a2, c2, e0, -, -⟩ := rd_gt hr
  simp only [List.cons.injEq, and_true] at e0
  obtain ⟨rfl, rfl⟩ := e0
  obtain ⟨b1, d1, b2, d2, e0, -, -⟩ := rd_gt hr'
  simp only [List.cons.injEq, and_true] at e0
  obtain ⟨rfl, rfl⟩ := e0
  have HC : Hid (∀ W, Below w.heap.size w W → Calls Try.prog 22 #[.agg #[.slice a1 g.1.length c1, .slice a2 g.2.1.length c2], .agg #[.slice b1 g.1.length d1, .slice b2 g.2.1.length d2]] W fun e w' => e = .returned (.bool true) ∧ Below W.heap.size W w') :=
    fun W hW => lEqGather g _ _ _ _ W B (hr.below hB hW) (hr'.below hB hW) (Nat.le_trans hB hW.size) hT
  clear hr hr'
  generalize g.1.length = n1 at *
  generalize g.2.1.length = n2 at *
  go_enter Try.func26, Try.ntmps26
  go_wp2_with fail
  refine (HC.out _ (by go_grown)).mono ?_
  rintro e w1 ⟨rfl, hb1⟩
  go_wp2_with fail
  go_ret
  exact ⟨rfl, Below.trans (by go_grown) (hb1.mono (by simp; omega))⟩
end Go.Proofs.Ytfeneeacchpfeai
