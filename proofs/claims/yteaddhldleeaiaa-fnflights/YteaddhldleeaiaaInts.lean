/- Slices of whole numbers: what a slice that is read holds, and what the law's own helpers (copy, compare) make of them; no condition but that there are at most a million. -/
import Derived.Test.YteaddhldleeaiaaRows
import Derived.Test.YteaddhldleeaiaaBase
import Derived.WalkSmall
import Derived.Maps.AppendAt
namespace Go.Proofs.Yteaddhldleeaiaa
open Go.RowKit
set_option linter.unusedVariables false

theorem info_i64 : (Try.prog.info? 2).map (fun i => (i.zero, i.size, i.bytes)) = some (some (.int .i64 0), 1, 8) := by kernel_rfl

/-- The slice that begins at a reads as the numbers l. -/
structure RI (w : World) (a : Option Addr) (l : List Int) : Prop where
  mem : l = [] ∨ ∃ b off, a = some ⟨b, off, none⟩ ∧ ∀ i, i < l.length → w.cell? ⟨b, off + i, none⟩ = some (.int .i64 (l.getD i 0))

theorem RI.below {w w' : World} {a : Option Addr} {l : List Int} (h : RI w a l) {B : Nat} (hB : w.heap.size ≤ B) (hb : Below B w w') : RI w' a l := by
  refine ⟨?_⟩
  rcases h.mem with e | ⟨b, off, rfl, hc⟩
  · exact Or.inl e
  · refine Or.inr ⟨b, off, rfl, fun i hi => ?_⟩
    have hlt := cell_lt (hc i hi)
    rw [hb.cell (p := ⟨b, off + i, none⟩) (by simp at hlt ⊢; omega)]
    exact hc i hi
theorem RI.keep {w w' : World} {b off : Nat} {l : List Int} (h : RI w (some ⟨b, off, none⟩) l) (hk : w'.heap[b]? = w.heap[b]?) : RI w' (some ⟨b, off, none⟩) l := by
  refine ⟨?_⟩
  rcases h.mem with e | ⟨b', off', e, hc⟩
  · exact Or.inl e
  · simp only [Option.some.injEq, Addr.mk.injEq, and_true] at e
    obtain ⟨rfl, rfl⟩ := e
    exact Or.inr ⟨b, off, rfl, fun i hi => (World.cell?_of_block (w := w) (a := ⟨b, off + i, none⟩) hk).trans (hc i hi)⟩

theorem RI.nil (w : World) (a : Option Addr) : RI w a [] := ⟨Or.inl rfl⟩

theorem BRow.ri {w : World} {a : Option Addr} {len cap : Nat} {zs : List Int} (h : BRow .i64 w a len cap zs) : RI w a (zs.take len) ∧ (zs.take len).length = len := by
  have hlen : (zs.take len).length = len := by
    rcases h with ⟨_, rfl, _, rfl⟩ | ⟨x, rfl, h1, h2, h3, h4, h5⟩
    · rfl
    · rw [List.length_take]; omega
  refine ⟨⟨?_⟩, hlen⟩
  · by_cases hz : len = 0
    · left; subst hz; simp
    · right
      rcases h with ⟨_, h, _⟩ | ⟨x, rfl, h1, h2, h3, h4, h5⟩
      · omega
      · obtain ⟨b, off, spot⟩ := x
        have hc := h4 0 (by omega)
        have hspot : spot = none := by simpa [Addr.add] using World.cell?_spot hc
        subst hspot
        refine ⟨b, off, rfl, fun i hi => ?_⟩
        rw [hlen] at hi
        have := h4 i (by omega)
        rw [add_none] at this
        rw [this]
        simp [hi]

theorem ri_two (w : World) (b : Nat) (x y : Int) (t : TypeId) (hb : b = w.heap.size) : RI (w.alloc (.cells #[.int .i64 x, .int .i64 y] t)) (some ⟨b, 0, none⟩) [x, y] := by
  subst hb
  refine ⟨Or.inr ⟨_, _, rfl, fun i hi => ?_⟩⟩
  rw [World.cell?_alloc_new]
  match i, hi with
  | 0, _ => rfl
  | 1, _ => rfl
theorem ri_three (w : World) (b : Nat) (x y z : Int) (t : TypeId) (hb : b = w.heap.size) : RI (w.alloc (.cells #[.int .i64 x, .int .i64 y, .int .i64 z] t)) (some ⟨b, 0, none⟩) [x, y, z] := by
  subst hb
  refine ⟨Or.inr ⟨_, _, rfl, fun i hi => ?_⟩⟩
  rw [World.cell?_alloc_new]
  match i, hi with
  | 0, _ => rfl
  | 1, _ => rfl
  | 2, _ => rfl

theorem set_nextI {l : List Int} {k n : Nat} (hl : l.length = n) (hk : k < n) :
    (l.take k ++ List.replicate (n - k) 0).set k (l.getD k 0) = l.take (k + 1) ++ List.replicate (n - (k + 1)) 0 := by
  have h1 : (l.take k).length = k := by rw [List.length_take]; omega
  rw [List.set_append_right _ _ (by omega), h1, Nat.sub_self, show n - k = (n - (k + 1)) + 1 by omega, List.replicate_succ, List.set_cons_zero,
    List.take_succ_eq_append_getElem (by omega), List.append_assoc, List.getD_eq_getElem?_getD, List.getElem?_eq_getElem (by omega)]
  rfl


end Go.Proofs.Yteaddhldleeaiaa
