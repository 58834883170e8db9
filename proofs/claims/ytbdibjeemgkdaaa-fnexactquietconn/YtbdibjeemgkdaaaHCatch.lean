/- What the law's own helpers (measure, copy, compare) make of values of type Catch; no condition but that there are at most a million parts. Written by hl.py. -/
import Derived.Test.YtbdibjeemgkdaaaRows
import Derived.Test.YtbdibjeemgkdaaaBase
import Derived.Test.YtbdibjeemgkdaaaBytes
import Derived.Test.YtbdibjeemgkdaaaMem
import Derived.Test.YtbdibjeemgkdaaaMemOpen
import Derived.Test.YtbdibjeemgkdaaaMemRow
import Derived.Test.YtbdibjeemgkdaaaHBase
import Derived.Test.YtbdibjeemgkdaaaHSpan
import Derived.Deep.DeepCutAuto
import Derived.Deep.RegionHeld3
namespace Go.Proofs.Ytbdibjeemgkdaaa
open Go.RowKit
set_option linter.unusedVariables false

abbrev shCatch : Sh := .cons (.int .i64) (.cons (.int .i64) (.cons shSpans (.nil)))
abbrev DCatch : Type := Int × Int × (List DSpan) × Unit
def totCatch (x : DCatch) : Nat := totSpans x.2.2.1

theorem rd_Catch {w : World} {B : Nat} {x : DCatch} {cs : List Value} (h : shCatch.Rd w B x cs) : ∃ v, cs = [.int .i64 x.1, .int .i64 x.2.1, v] ∧ shSpans.Rd w B x.2.2.1 [v] ∧ (Lit.int .i64 x.1).wf = true ∧ (Lit.int .i64 x.2.1).wf = true := by
  obtain ⟨p0, q0, e0, ⟨g0, w0⟩, p1, q1, e1, ⟨g1, w1⟩, p2, q2, e2, h2, hz⟩ := h
  have hz' : q2 = [] := hz
  have l := Sh.Rd.len _ _ _ h2
  replace l : p2.length = 1 := l
  match p2, l, h2 with
  | [v], _, h2 =>
    refine ⟨v, ?_, h2, w0, w1⟩
    rw [e0, g0, e1, g1, e2, hz']
    rfl

set_option maxHeartbeats 1000000 in
theorem lSzCatch (x : DCatch) (v : Value) (left : Int) (w : World) (B : Nat) (hr : shCatch.Rd w B x [.int .i64 x.1, .int .i64 x.2.1, v]) (hB : B ≤ w.heap.size) (h0 : 0 ≤ left) (h1 : left ≤ 1048576) :
    Calls Try.prog 43 #[.agg #[.int .i64 x.1, .int .i64 x.2.1, v], .int .i64 left] w fun e w' => e = .returned (.int .i64 (if left < totCatch x then -1 else left - totCatch x)) ∧ Below w.heap.size w w' := by
  obtain ⟨vv, ev, rk, wf0, wf1⟩ := rd_Catch hr
  simp only [List.cons.injEq, and_true, true_and] at ev
  subst ev
  have HC : Hid (∀ W, Below w.heap.size w W → Calls Try.prog 65 #[v, .int .i64 left] W fun e w' => e = .returned (.int .i64 (if left < totCatch x then -1 else left - totCatch x)) ∧ Below W.heap.size W w') := fun W hW => lSzSpans x.2.2.1 v left W B (rk.below hB hW) (Nat.le_trans hB hW.size) h0 h1
  obtain ⟨va, vc, ev2⟩ := row_form rk
  simp only [List.cons.injEq, and_true] at ev2
  subst ev2
  clear hr rk
  generalize totCatch x = N at *
  generalize x.1 = y0 at *
  generalize x.2.1 = y1 at *
  generalize x.2.2.1.length = n at *
  by_cases h : left < N
  · rw [if_pos h] at HC ⊢
    go_enter Try.func43, Try.ntmps43
    go_wp2_with fail
    refine (HC.out _ (by go_grown)).mono ?_
    rintro e w1 ⟨rfl, hb⟩
    go_wp2_with fail
    go_ret
    exact ⟨rfl, Below.trans (by go_grown) (hb.mono (by simp))⟩
  · rw [if_neg h] at HC ⊢
    have h2 : 0 ≤ left - (N : Int) := by omega
    go_enter Try.func43, Try.ntmps43
    go_wp2_with fail
    refine (HC.out _ (by go_grown)).mono ?_
    rintro e w1 ⟨rfl, hb⟩
    go_wp2_with fail
    go_ret
    exact ⟨rfl, Below.trans (by go_grown) (hb.mono (by simp))⟩

set_option maxHeartbeats 2000000 in
theorem lToCatch (x : DCatch) (v : Value) (w : World) (B : Nat) (hr : shCatch.Rd w B x [.int .i64 x.1, .int .i64 x.2.1, v]) (hB : B ≤ w.heap.size) (hT : totCatch x ≤ 1048576) :
    Calls Try.prog 48 #[.agg #[.int .i64 x.1, .int .i64 x.2.1, v]] w fun e w' => ∃ u, e = .returned (.agg #[.int .i64 x.1, .int .i64 x.2.1, u]) ∧ Own w' w.heap.size w'.heap.size shCatch x [.int .i64 x.1, .int .i64 x.2.1, u] ∧ Below w.heap.size w w' := by
  obtain ⟨vv, ev, rk, wf0, wf1⟩ := rd_Catch hr
  simp only [List.cons.injEq, and_true, true_and] at ev
  subst ev
  have HC : Hid (∀ W, Below w.heap.size w W → Calls Try.prog 71 #[v] W fun e w' => ∃ u, e = .returned u ∧ Own w' W.heap.size w'.heap.size shSpans x.2.2.1 [u] ∧ Below W.heap.size W w') := fun W hW => lToSpans x.2.2.1 v W B (rk.below hB hW) (Nat.le_trans hB hW.size) hT
  obtain ⟨va, vc, ev2⟩ := row_form rk
  simp only [List.cons.injEq, and_true] at ev2
  subst ev2
  have HWF0 : Hid _ := wf0
  have HWF1 : Hid _ := wf1
  clear hr rk hT hB wf0 wf1
  obtain ⟨y0, y1, d, _⟩ := x
  simp only at *
  go_enter Try.func48, Try.ntmps48
  go_wp2_with fail
  refine (HC.out _ (by go_grown)).mono ?_
  rintro e w1 ⟨u, rfl, ho, hb1⟩
  obtain ⟨ua, uc, eu⟩ := row_form (ho.rd (Nat.le_refl _))
  simp only [List.cons.injEq, and_true] at eu
  subst eu
  have hz := hb1.size
  simp at hz
  simp only [World.size_alloc] at ho
  obtain ⟨hc, hf⟩ := bcell hb1
  have z1 : w.heap.size < w1.heap.size := by omega
  have z2 : w.heap.size + 1 < w1.heap.size := by omega
  have z3 : w.heap.size + 1 + 1 < w1.heap.size := by omega
  have HB : Hid _ := hb1
  have HO : Hid (Own w1 (w.heap.size + 1 + 1 + 1) w1.heap.size shSpans d [.slice ua d.length uc]) := ho
  clear hb1 ho hz HC
  go_wp2_with fail
  have hB1 : Below w.heap.size w w1 := Below.trans (by go_grown) (HB.out.mono (by simp; omega))
  refine bodyPost_ret (v := .agg #[.int .i64 y0, .int .i64 y1, .slice ua d.length uc]) (by simp [results, Try.results48, go_sem, hc]) rfl ⟨_, rfl, ?_, ?_⟩
  · have h2 : Own w1 (w.heap.size + 1 + 1 + 1) w1.heap.size shCatch (y0, y1, d, ()) [.int .i64 y0, .int .i64 y1, .slice ua d.length uc] := hOwnCons (hOwnInt w1 _ (w.heap.size + 1 + 1 + 1) HWF0.out) (hOwnCons (hOwnInt w1 _ (w.heap.size + 1 + 1 + 1) HWF1.out) (hOwnCons HO.out (hOwnNil _ _ _) (by omega) (Nat.le_refl _)) (Nat.le_refl _) (by omega)) (Nat.le_refl _) (by omega)
    refine Own.mono (Own.keep h2 fun b hb hlt => ?_) (by omega) (by simp)
    repeat rw [Below.heap_setCell _ _ _ _ (by dsimp only; omega)]
  · clear hc hf HO HB
    go_grown

set_option maxHeartbeats 2000000 in
theorem lEqCatch (x : DCatch) (v u : Value) (w : World) (B : Nat) (hr : shCatch.Rd w B x [.int .i64 x.1, .int .i64 x.2.1, v]) (hr' : shCatch.Rd w B x [.int .i64 x.1, .int .i64 x.2.1, u]) (hB : B ≤ w.heap.size) (hT : totCatch x ≤ 1048576) :
    Calls Try.prog 62 #[.agg #[.int .i64 x.1, .int .i64 x.2.1, v], .agg #[.int .i64 x.1, .int .i64 x.2.1, u]] w fun e w' => e = .returned (.bool true) ∧ Below w.heap.size w w' := by
  obtain ⟨vv, ev, rk, wf0, wf1⟩ := rd_Catch hr
  simp only [List.cons.injEq, and_true, true_and] at ev
  subst ev
  obtain ⟨vv, ev, rk', -⟩ := rd_Catch hr'
  simp only [List.cons.injEq, and_true, true_and] at ev
  subst ev
  have HC : Hid (∀ W, Below w.heap.size w W → Calls Try.prog 81 #[v, u] W fun e w' => e = .returned (.bool true) ∧ Below W.heap.size W w') := fun W hW => lEqSpans x.2.2.1 v u W B (rk.below hB hW) (rk'.below hB hW) (Nat.le_trans hB hW.size) hT
  obtain ⟨va, vc, ev2⟩ := row_form rk
  simp only [List.cons.injEq, and_true] at ev2
  subst ev2
  obtain ⟨ua, uc, ev2⟩ := row_form rk'
  simp only [List.cons.injEq, and_true] at ev2
  subst ev2
  clear hr hr' rk rk' hT wf0 wf1
  generalize x.1 = y0 at *
  generalize x.2.1 = y1 at *
  generalize x.2.2.1.length = n at *
  go_enter Try.func62, Try.ntmps62
  go_wp2_with fail
  refine (HC.out _ (by go_grown)).mono ?_
  rintro e w1 ⟨rfl, hb1⟩
  have HB1 : Hid (Below w.heap.size w w1) := Below.trans (by go_grown) (hb1.mono (by simp; omega))
  have k0 : ∀ o, w1.cell? ⟨w.heap.size, o, none⟩ = (#[.int .i64 y0, .int .i64 y1, .slice va n vc] : Array Value)[o]? := fun o => by rw [(bcell hb1).1 _ o (by simp; omega)]; simp [go_sem]
  have k1 : ∀ o, w1.cell? ⟨w.heap.size + 1, o, none⟩ = (#[.int .i64 y0, .int .i64 y1, .slice ua n uc] : Array Value)[o]? := fun o => by rw [(bcell hb1).1 _ o (by simp)]; simp [go_sem]
  clear hb1 HC
  go_wp2_with fail
  go_ret
  exact ⟨rfl, HB1.out⟩
end Go.Proofs.Ytbdibjeemgkdaaa
