/- What the law's own helpers (measure, copy, compare) make of values of type Sender; no condition but that there are at most a million parts. Written by hl.py. -/
import Derived.Test.YtbdibjeemgkdaaaRows
import Derived.Test.YtbdibjeemgkdaaaBase
import Derived.Test.YtbdibjeemgkdaaaBytes
import Derived.Test.YtbdibjeemgkdaaaMem
import Derived.Test.YtbdibjeemgkdaaaMemOpen
import Derived.Test.YtbdibjeemgkdaaaMemRow
import Derived.Test.YtbdibjeemgkdaaaHBase
import Derived.Test.YtbdibjeemgkdaaaHFlight
import Derived.Deep.DeepCutAuto
import Derived.Deep.RegionHeld3
namespace Go.Proofs.Ytbdibjeemgkdaaa
open Go.RowKit
set_option linter.unusedVariables false

abbrev shSender : Sh := .cons (.int .i64) (.cons (.int .i64) (.cons (.int .i64) (.cons shFlights (.nil))))
abbrev DSender : Type := Int × Int × Int × (List DFlight) × Unit
def totSender (x : DSender) : Nat := totFlights x.2.2.2.1

theorem rd_Sender {w : World} {B : Nat} {x : DSender} {cs : List Value} (h : shSender.Rd w B x cs) : ∃ v, cs = [.int .i64 x.1, .int .i64 x.2.1, .int .i64 x.2.2.1, v] ∧ shFlights.Rd w B x.2.2.2.1 [v] ∧ (Lit.int .i64 x.1).wf = true ∧ (Lit.int .i64 x.2.1).wf = true ∧ (Lit.int .i64 x.2.2.1).wf = true := by
  obtain ⟨p0, q0, e0, ⟨g0, w0⟩, p1, q1, e1, ⟨g1, w1⟩, p2, q2, e2, ⟨g2, w2⟩, p3, q3, e3, h3, hz⟩ := h
  have hz' : q3 = [] := hz
  have l := Sh.Rd.len _ _ _ h3
  replace l : p3.length = 1 := l
  match p3, l, h3 with
  | [v], _, h3 =>
    refine ⟨v, ?_, h3, w0, w1, w2⟩
    rw [e0, g0, e1, g1, e2, g2, e3, hz']
    rfl

set_option maxHeartbeats 1000000 in
theorem lSzSender (x : DSender) (v : Value) (left : Int) (w : World) (B : Nat) (hr : shSender.Rd w B x [.int .i64 x.1, .int .i64 x.2.1, .int .i64 x.2.2.1, v]) (hB : B ≤ w.heap.size) (h0 : 0 ≤ left) (h1 : left ≤ 1048576) :
    Calls Try.prog 42 #[.agg #[.int .i64 x.1, .int .i64 x.2.1, .int .i64 x.2.2.1, v], .int .i64 left] w fun e w' => e = .returned (.int .i64 (if left < totSender x then -1 else left - totSender x)) ∧ Below w.heap.size w w' := by
  obtain ⟨vv, ev, rk, wf0, wf1, wf2⟩ := rd_Sender hr
  simp only [List.cons.injEq, and_true, true_and] at ev
  subst ev
  have HC : Hid (∀ W, Below w.heap.size w W → Calls Try.prog 64 #[v, .int .i64 left] W fun e w' => e = .returned (.int .i64 (if left < totSender x then -1 else left - totSender x)) ∧ Below W.heap.size W w') := fun W hW => lSzFlights x.2.2.2.1 v left W B (rk.below hB hW) (Nat.le_trans hB hW.size) h0 h1
  obtain ⟨va, vc, ev2⟩ := row_form rk
  simp only [List.cons.injEq, and_true] at ev2
  subst ev2
  clear hr rk
  generalize totSender x = N at *
  generalize x.1 = y0 at *
  generalize x.2.1 = y1 at *
  generalize x.2.2.1 = y2 at *
  generalize x.2.2.2.1.length = n at *
  by_cases h : left < N
  · rw [if_pos h] at HC ⊢
    go_enter Try.func42, Try.ntmps42
    go_wp2_with fail
    refine (HC.out _ (by go_grown)).mono ?_
    rintro e w1 ⟨rfl, hb⟩
    go_wp2_with fail
    go_ret
    exact ⟨rfl, Below.trans (by go_grown) (hb.mono (by simp))⟩
  · rw [if_neg h] at HC ⊢
    have h2 : 0 ≤ left - (N : Int) := by omega
    go_enter Try.func42, Try.ntmps42
    go_wp2_with fail
    refine (HC.out _ (by go_grown)).mono ?_
    rintro e w1 ⟨rfl, hb⟩
    go_wp2_with fail
    go_ret
    exact ⟨rfl, Below.trans (by go_grown) (hb.mono (by simp))⟩

set_option maxHeartbeats 2000000 in
theorem lToSender (x : DSender) (v : Value) (w : World) (B : Nat) (hr : shSender.Rd w B x [.int .i64 x.1, .int .i64 x.2.1, .int .i64 x.2.2.1, v]) (hB : B ≤ w.heap.size) (hT : totSender x ≤ 1048576) :
    Calls Try.prog 47 #[.agg #[.int .i64 x.1, .int .i64 x.2.1, .int .i64 x.2.2.1, v]] w fun e w' => ∃ u, e = .returned (.agg #[.int .i64 x.1, .int .i64 x.2.1, .int .i64 x.2.2.1, u]) ∧ Own w' w.heap.size w'.heap.size shSender x [.int .i64 x.1, .int .i64 x.2.1, .int .i64 x.2.2.1, u] ∧ Below w.heap.size w w' := by
  obtain ⟨vv, ev, rk, wf0, wf1, wf2⟩ := rd_Sender hr
  simp only [List.cons.injEq, and_true, true_and] at ev
  subst ev
  have HC : Hid (∀ W, Below w.heap.size w W → Calls Try.prog 70 #[v] W fun e w' => ∃ u, e = .returned u ∧ Own w' W.heap.size w'.heap.size shFlights x.2.2.2.1 [u] ∧ Below W.heap.size W w') := fun W hW => lToFlights x.2.2.2.1 v W B (rk.below hB hW) (Nat.le_trans hB hW.size) hT
  obtain ⟨va, vc, ev2⟩ := row_form rk
  simp only [List.cons.injEq, and_true] at ev2
  subst ev2
  have HWF0 : Hid _ := wf0
  have HWF1 : Hid _ := wf1
  have HWF2 : Hid _ := wf2
  clear hr rk hT hB wf0 wf1 wf2
  obtain ⟨y0, y1, y2, d, _⟩ := x
  simp only at *
  go_enter Try.func47, Try.ntmps47
  go_wp2_with fail
  refine (HC.out _ (by go_grown)).mono ?_
  rintro e w1 ⟨u, rfl, ho, hb1⟩
  obtain ⟨ua, uc, eu⟩ := row_form (ho.rd (Nat.le_refl _))
  simp only [List.cons.injEq, and_true] at eu
  subst eu
  have hz := hb1.size
  simp at hz
  simp only [World.size_alloc] at ho
  obtain ⟨hc, hf⟩ := bcell hb1
  have z1 : w.heap.size < w1.heap.size := by omega
  have z2 : w.heap.size + 1 < w1.heap.size := by omega
  have z3 : w.heap.size + 1 + 1 < w1.heap.size := by omega
  have HB : Hid _ := hb1
  have HO : Hid (Own w1 (w.heap.size + 1 + 1 + 1) w1.heap.size shFlights d [.slice ua d.length uc]) := ho
  clear hb1 ho hz HC
  go_wp2_with fail
  have hB1 : Below w.heap.size w w1 := Below.trans (by go_grown) (HB.out.mono (by simp; omega))
  refine bodyPost_ret (v := .agg #[.int .i64 y0, .int .i64 y1, .int .i64 y2, .slice ua d.length uc]) (by simp [results, Try.results47, go_sem, hc]) rfl ⟨_, rfl, ?_, ?_⟩
  · have h2 : Own w1 (w.heap.size + 1 + 1 + 1) w1.heap.size shSender (y0, y1, y2, d, ()) [.int .i64 y0, .int .i64 y1, .int .i64 y2, .slice ua d.length uc] := hOwnCons (hOwnInt w1 _ (w.heap.size + 1 + 1 + 1) HWF0.out) (hOwnCons (hOwnInt w1 _ (w.heap.size + 1 + 1 + 1) HWF1.out) (hOwnCons (hOwnInt w1 _ (w.heap.size + 1 + 1 + 1) HWF2.out) (hOwnCons HO.out (hOwnNil _ _ _) (by omega) (Nat.le_refl _)) (Nat.le_refl _) (by omega)) (Nat.le_refl _) (by omega)) (Nat.le_refl _) (by omega)
    refine Own.mono (Own.keep h2 fun b hb hlt => ?_) (by omega) (by simp)
    repeat rw [Below.heap_setCell _ _ _ _ (by dsimp only; omega)]
  · clear hc hf HO HB
    go_grown

set_option maxHeartbeats 2000000 in
theorem lEqSender (x : DSender) (v u : Value) (w : World) (B : Nat) (hr : shSender.Rd w B x [.int .i64 x.1, .int .i64 x.2.1, .int .i64 x.2.2.1, v]) (hr' : shSender.Rd w B x [.int .i64 x.1, .int .i64 x.2.1, .int .i64 x.2.2.1, u]) (hB : B ≤ w.heap.size) (hT : totSender x ≤ 1048576) :
    Calls Try.prog 61 #[.agg #[.int .i64 x.1, .int .i64 x.2.1, .int .i64 x.2.2.1, v], .agg #[.int .i64 x.1, .int .i64 x.2.1, .int .i64 x.2.2.1, u]] w fun e w' => e = .returned (.bool true) ∧ Below w.heap.size w w' := by
  obtain ⟨vv, ev, rk, wf0, wf1, wf2⟩ := rd_Sender hr
  simp only [List.cons.injEq, and_true, true_and] at ev
  subst ev
  obtain ⟨vv, ev, rk', -⟩ := rd_Sender hr'
  simp only [List.cons.injEq, and_true, true_and] at ev
  subst ev
  have HC : Hid (∀ W, Below w.heap.size w W → Calls Try.prog 80 #[v, u] W fun e w' => e = .returned (.bool true) ∧ Below W.heap.size W w') := fun W hW => lEqFlights x.2.2.2.1 v u W B (rk.below hB hW) (rk'.below hB hW) (Nat.le_trans hB hW.size) hT
  obtain ⟨va, vc, ev2⟩ := row_form rk
  simp only [List.cons.injEq, and_true] at ev2
  subst ev2
  obtain ⟨ua, uc, ev2⟩ := row_form rk'
  simp only [List.cons.injEq, and_true] at ev2
  subst ev2
  clear hr hr' rk rk' hT wf0 wf1 wf2
  generalize x.1 = y0 at *
  generalize x.2.1 = y1 at *
  generalize x.2.2.1 = y2 at *
  generalize x.2.2.2.1.length = n at *
  go_enter Try.func61, Try.ntmps61
  go_wp2_with fail
  refine (HC.out _ (by go_grown)).mono ?_
  rintro e w1 ⟨rfl, hb1⟩
  have HB1 : Hid (Below w.heap.size w w1) := Below.trans (by go_grown) (hb1.mono (by simp; omega))
  have k0 : ∀ o, w1.cell? ⟨w.heap.size, o, none⟩ = (#[.int .i64 y0, .int .i64 y1, .int .i64 y2, .slice va n vc] : Array Value)[o]? := fun o => by rw [(bcell hb1).1 _ o (by simp; omega)]; simp [go_sem]
  have k1 : ∀ o, w1.cell? ⟨w.heap.size + 1, o, none⟩ = (#[.int .i64 y0, .int .i64 y1, .int .i64 y2, .slice ua n uc] : Array Value)[o]? := fun o => by rw [(bcell hb1).1 _ o (by simp)]; simp [go_sem]
  clear hb1 HC
  go_wp2_with fail
  go_ret
  exact ⟨rfl, HB1.out⟩
end Go.Proofs.Ytbdibjeemgkdaaa
