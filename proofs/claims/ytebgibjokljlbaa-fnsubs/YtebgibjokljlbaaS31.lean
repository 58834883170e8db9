/- Slices of whole numbers of the call's own: compared, marked, held against the marks; answers that hold one; no condition but on lengths. -/
import Derived.Test.YtebgibjokljlbaaRows
import Derived.WalkSmall
import Derived.Maps.AppendAt
import Derived.RangeFuncNested
import Derived.RangeFuncBound
import Derived.RangeFuncCalls
import Derived.RangeFuncLeaves
import Derived.RangeFuncBox
import Derived.Shelf.Abstract
import Derived.Shelf.RegionOpen
import Derived.WalkKit
import Derived.OwnWalkIn
import Derived.TacticsInMore
import Derived.LoopNIn
import Derived.LoopIn
import Derived.Test.YtebgibjokljlbaaS01
import Derived.Test.YtebgibjokljlbaaS03
import Derived.Test.YtebgibjokljlbaaS04
import Derived.Test.YtebgibjokljlbaaS05
import Derived.Test.YtebgibjokljlbaaS06
import Derived.Test.YtebgibjokljlbaaS20
import Derived.Test.YtebgibjokljlbaaS29
namespace Go.Proofs.Ytebgibjokljlbaa
open Go.RowKit
set_option linter.unusedVariables false
end Go.Proofs.Ytebgibjokljlbaa
namespace Go.Proofs.Ytebgibjokljlbaa
open Go.RowKit
set_option linter.unusedVariables false
end Go.Proofs.Ytebgibjokljlbaa
namespace Go.Proofs.Ytebgibjokljlbaa
open Go.RowKit Go.Shelf
set_option linter.unusedVariables false
attribute [local go_sem] Oper.semAt_some
theorem fl_cells {w : World} {B : Nat} {l : List DFlight} {a : Option Addr} {n cap : Nat} (h : shFlights.Rd w B l [.slice a n cap]) :
    ∃ (VA : Fin l.length → Option Addr) (VN VC : Fin l.length → Nat), FlCells w B a l.length (fun k => l[k].1) (fun k => l[k].2.1) (fun k => l[k].2.2.2.1) (fun k => l[k].2.2.2.2.1) VA VN VC ∧ (∀ k, VN k = l[k].2.2.1.length) ∧
      (∀ k, shFlight.Rd w B l[k] [.int .i64 l[k].1, .int .i64 l[k].2.1, .slice (VA k) (VN k) (VC k), .int .i64 l[k].2.2.2.1, .int .i64 l[k].2.2.2.2.1]) := by
  have h1 : ∀ k : Fin l.length, ∃ t : Option Addr × Nat × Nat, (∃ b off, a = some ⟨b, off, none⟩ ∧ b < B ∧ w.cell? ⟨b, off + k.1 * 5, none⟩ = some (.int .i64 l[k].1) ∧ w.cell? ⟨b, off + k.1 * 5 + 1, none⟩ = some (.int .i64 l[k].2.1) ∧ w.cell? ⟨b, off + k.1 * 5 + 2, none⟩ = some (.slice t.1 t.2.1 t.2.2) ∧ w.cell? ⟨b, off + k.1 * 5 + 3, none⟩ = some (.int .i64 l[k].2.2.2.1) ∧ w.cell? ⟨b, off + k.1 * 5 + 4, none⟩ = some (.int .i64 l[k].2.2.2.2.1)) ∧ t.2.1 = l[k].2.2.1.length ∧ shFlight.Rd w B l[k] [.int .i64 l[k].1, .int .i64 l[k].2.1, .slice t.1 t.2.1 t.2.2, .int .i64 l[k].2.2.2.1, .int .i64 l[k].2.2.2.2.1] := fun k => by
    obtain ⟨b, off, v, ha, hb, q0, q1, q2, q3, q4, r3⟩ := at_Flights h k.1 k.2
    obtain ⟨vv, ev, rk, -⟩ := rd_Flight r3
    simp only [List.cons.injEq, and_true, true_and] at ev
    subst ev
    obtain ⟨va, vc, ev2⟩ := row_form rk
    simp only [List.cons.injEq, and_true] at ev2
    subst ev2
    exact ⟨(va, _, vc), ⟨b, off, ha, hb, q0, q1, q2, q3, q4⟩, rfl, r3⟩
  obtain ⟨f, hf⟩ := Classical.axiomOfChoice h1
  exact ⟨fun k => (f k).1, fun k => (f k).2.1, fun k => (f k).2.2, ⟨fun k => (hf k).1⟩, fun k => (hf k).2.1, fun k => (hf k).2.2⟩
theorem bx_two {w : World} {b : Nat} {x0 x1 u v : Value} (h : ∀ o, w.cell? ⟨b, o, none⟩ = (#[x0, x1] : Array Value)[o]?) : ∀ o, ((w.setCell ⟨b, 0, none⟩ u).setCell ⟨b, 1, none⟩ v).cell? ⟨b, o, none⟩ = (#[u, v] : Array Value)[o]? := fun o => by
  have h0 : w.cell? ⟨b, 0, none⟩ = some x0 := h 0
  have h1 : (w.setCell ⟨b, 0, none⟩ u).cell? ⟨b, 1, none⟩ = some x1 := by rw [World.cell?_setCell_other _ _ _ _ (by simp)]; exact h 1
  match o with
  | 0 => rw [World.cell?_setCell_other _ _ _ _ (by simp), World.cell?_setCell_same _ _ _ h0]; rfl
  | 1 => rw [World.cell?_setCell_same _ _ _ h1]; rfl
  | o + 2 => rw [World.cell?_setCell_other _ _ _ _ (by simp), World.cell?_setCell_other _ _ _ _ (by simp), h]; simp
theorem FlCells.mono {W : World} {n₀ n₁ : Nat} {a : Option Addr} {len : Nat} {Z0 Z1 Z3 Z4 : Fin len → Int} {VA : Fin len → Option Addr} {VN VC : Fin len → Nat} (h : FlCells W n₀ a len Z0 Z1 Z3 Z4 VA VN VC) (hb : n₀ ≤ n₁) : FlCells W n₁ a len Z0 Z1 Z3 Z4 VA VN VC := ⟨fun k => by
  obtain ⟨b, off, ha, hlt, h⟩ := h.at_ k
  exact ⟨b, off, ha, Nat.lt_of_lt_of_le hlt hb, h⟩⟩
theorem kpF_b {n₀ Bf : Nat} {w : World} (hn : n₀ ≤ w.heap.size) (hf : Bf < w.heap.size) (W : World) (l : Nat) (o o' : Obj) (hl : w.heap.size ≤ l) (h : W.heap[l]? = some o) (h1 : o.isCells = false) (h2 : o.isWalk = false) : KpF n₀ Bf W (W.putObj l o') :=
  ⟨belowK_b hn W l o o' hl h h1 h2, (grownBy_putObj' W l o').block Bf (by have := (Array.getElem?_eq_some_iff.1 h).1; omega) (fun e => by cases e; omega)⟩
end Go.Proofs.Ytebgibjokljlbaa
