/- One field of a flight of the call's own set in place: what the row holds then; no condition. -/
import Derived.Test.YteaddhldleeaiaaRows
import Derived.Test.YteaddhldleeaiaaBase
import Derived.Test.YteaddhldleeaiaaMem
import Derived.Test.YteaddhldleeaiaaMemRow
import Derived.Test.YteaddhldleeaiaaHBase
import Derived.Test.YteaddhldleeaiaaHFlight
import Derived.Test.YteaddhldleeaiaaHMark
import Derived.Test.YteaddhldleeaiaaMFlight
namespace Go.Proofs.Yteaddhldleeaiaa
open Go.RowKit
set_option linter.unusedVariables false

theorem fl_at {w : World} {lo hi : Nat} {l : List DFlight} {a : Option Addr} {n cap : Nat} (h : Own w lo hi shFlights l [.slice a n cap]) (k : Nat) (hk : k < l.length) :
    ∃ pg v, a = some ⟨pg, 0, none⟩ ∧ lo ≤ pg ∧ pg < hi ∧ w.cell? ⟨pg, k * 5 + 3, none⟩ = some (.int .i64 l[k].2.2.2.1) ∧ w.cell? ⟨pg, k * 5 + 4, none⟩ = some (.int .i64 l[k].2.2.2.2.1) ∧ w.cell? ⟨pg, k * 5 + 2, none⟩ = some v ∧ (∀ o, w.frozen? ⟨pg, o, none⟩ = false) ∧
      (∀ y, (Lit.int .i64 y).wf = true → Own (w.setCell ⟨pg, k * 5 + 3, none⟩ (.int .i64 y)) lo hi shFlights (l.set k (l[k].1, l[k].2.1, l[k].2.2.1, y, l[k].2.2.2.2.1, ())) [.slice a n cap]) ∧
      (∀ y, (Lit.int .i64 y).wf = true → Own (w.setCell ⟨pg, k * 5 + 4, none⟩ (.int .i64 y)) lo hi shFlights (l.set k (l[k].1, l[k].2.1, l[k].2.2.1, l[k].2.2.2.1, y, ())) [.slice a n cap]) := by
  obtain ⟨bs, hO, hnd, hbd⟩ := h
  obtain ⟨pg, cur, bk, ea, g1, g2, g3, g4, g5, g6, UPD⟩ := ow_elem hO hnd k hk
  obtain ⟨v, ec, hK, wf0, wf1, wf3, wf4⟩ := ow_Flight g5
  replace g3 : k * 5 + 5 ≤ cur.size := g3
  replace ec : chunk cur.toList 5 k = _ := ec
  have cell : ∀ j, j < 5 → w.cell? ⟨pg, k * 5 + j, none⟩ = (chunk cur.toList 5 k)[j]? := fun j hj => by
    rw [chunk_get hj, cell_of_heap g2, ← Array.getElem?_toList]
  have fz : ∀ o, w.frozen? ⟨pg, o, none⟩ = false := fun o => by simp [World.frozen?, g2]
  refine ⟨pg, v, ea, (hbd pg g1).1, (hbd pg g1).2, by rw [cell 3 (by decide), ec]; rfl, by rw [cell 4 (by decide), ec]; rfl, by rw [cell 2 (by decide), ec]; rfl, fz, fun y hy => ?_, fun y hy => ?_⟩
  · refine ⟨bs, UPD _ (cur.setIfInBounds (k * 5 + 3) (.int .i64 y)) _ (heap_set g2) (by simp) (fun i hi => ?_) ?_ (fun b hb h1 h2 => ?_), hnd, hbd⟩
    · show chunk _ 5 i = chunk _ 5 i
      rw [chunk_set1 (sz := 5) (k := k) (by decide) g3, if_neg hi]
    · show shFlight.Ow _ bk _ (chunk _ 5 k)
      rw [chunk_set1 (sz := 5) (k := k) (by decide) g3, if_pos rfl, ec]
      exact mk_Flight (Sh.Ow.keep _ _ _ _ (fun b hb => Below.heap_setCell _ _ _ _ (by dsimp only; exact (g6 b hb).2)) hK) wf0 wf1 hy wf4
    · exact Below.heap_setCell _ _ _ _ (by dsimp only; exact h1)
  · refine ⟨bs, UPD _ (cur.setIfInBounds (k * 5 + 4) (.int .i64 y)) _ (heap_set g2) (by simp) (fun i hi => ?_) ?_ (fun b hb h1 h2 => ?_), hnd, hbd⟩
    · show chunk _ 5 i = chunk _ 5 i
      rw [chunk_set1 (sz := 5) (k := k) (by decide) g3, if_neg hi]
    · show shFlight.Ow _ bk _ (chunk _ 5 k)
      rw [chunk_set1 (sz := 5) (k := k) (by decide) g3, if_pos rfl, ec]
      exact mk_Flight (Sh.Ow.keep _ _ _ _ (fun b hb => Below.heap_setCell _ _ _ _ (by dsimp only; exact (g6 b hb).2)) hK) wf0 wf1 wf3 hy
    · exact Below.heap_setCell _ _ _ _ (by dsimp only; exact h1)
end Go.Proofs.Yteaddhldleeaiaa
