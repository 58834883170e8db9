/- What lies behind an owned row of spans, up to its room: cells that are there and are not frozen; no condition. -/
import Derived.Test.YtioehciabgdbaaaRows
import Derived.Test.YtioehciabgdbaaaBase
import Derived.Test.YtioehciabgdbaaaMem
import Derived.Test.YtioehciabgdbaaaHBase
import Derived.Test.YtioehciabgdbaaaHSpan
import Derived.Test.YtioehciabgdbaaaMSpan
import Derived.Test.YtioehciabgdbaaaSpanRow
namespace Go.Proofs.Ytioehciabgdbaaa
open Go.RowKit
set_option linter.unusedVariables false

/-- The room behind a row of spans is there; its block lies at base or above. -/
def Spare (w : World) (base : Nat) (v : Value) : Prop := ∀ a n cap, v = .slice (some a) n cap → ∃ g off, a = ⟨g, off, none⟩ ∧ base ≤ g ∧ g < w.heap.size ∧ ∀ j, n * 2 + j < cap * 2 → (w.cell? ⟨g, off + n * 2 + j, none⟩).isSome = true ∧ w.frozen? ⟨g, off + n * 2 + j, none⟩ = false
theorem Spare.none_ (w : World) (base n cap : Nat) : Spare w base (.slice none n cap) := fun a n cap h => by cases h
theorem Spare.keep {w w' : World} {base : Nat} {v : Value} (h : Spare w base v) (hs : w.heap.size ≤ w'.heap.size) (hk : ∀ g, base ≤ g → g < w.heap.size → w'.heap[g]? = w.heap[g]?) : Spare w' base v := fun a n cap e => by
  obtain ⟨g, off, rfl, h1, h2, h3⟩ := h a n cap e
  refine ⟨g, off, rfl, h1, by omega, fun j hj => ?_⟩
  rw [World.cell?_of_block (w := w) (a := ⟨g, _, none⟩) (hk g h1 h2), World.frozen?_of_block (w := w) (a := ⟨g, _, none⟩) (hk g h1 h2)]
  exact h3 j hj
theorem Spare.mono {w : World} {base base' : Nat} {v : Value} (h : Spare w base v) (hb : base' ≤ base) : Spare w base' v := fun a n cap e => by
  obtain ⟨g, off, e2, h1, h2⟩ := h a n cap e
  exact ⟨g, off, e2, by omega, h2⟩
theorem sp_block {w : World} {g : Nat} {cur : Array Value} {t : TypeId} (h : w.heap[g]? = some (.cells cur t (0, 0))) {i : Nat} (hi : i < cur.size) : (w.cell? ⟨g, i, none⟩).isSome = true ∧ w.frozen? ⟨g, i, none⟩ = false := by
  constructor
  · simp [World.cell?, h, hi]
  · simp [World.frozen?, h]
theorem OS.spare {w : World} {base : Nat} {v : Value} {l : List DSpan} (h : OS w base v l) : Spare w base v := fun a n cap e => by
  obtain ⟨h1, ⟨e1, hz⟩ | ⟨g', cap', cur, e1, hg, hh, hc, hm, hs, ht⟩⟩ := h.own
  · rw [e] at e1; cases e1
  · rw [e] at e1
    simp only [Value.slice.injEq, Option.some.injEq] at e1
    obtain ⟨rfl, rfl, rfl⟩ := e1
    refine ⟨g', 0, rfl, hg, heap_lt hh, fun j hj => ?_⟩
    rw [Nat.zero_add]
    exact sp_block hh (by omega)
theorem OS.tailSpare {w : World} {base g n cap : Nat} {f : DSpan} {r : List DSpan} (h : OS w base (.slice (some ⟨g, 0, none⟩) n cap) (f :: r)) : Spare w base (.slice (if cap = 1 then some ⟨g, 0, none⟩ else some ⟨g, 2, none⟩) (n - 1) (cap - 1)) := by
  obtain ⟨g0, o0, e0, h1, h2, h3⟩ := h.spare ⟨g, 0, none⟩ n cap rfl
  simp only [Addr.mk.injEq, and_true] at e0
  obtain ⟨rfl, rfl⟩ := e0
  have hn : n = r.length + 1 := by
    obtain ⟨a, c, e, -⟩ := h.rs
    simp only [Value.slice.injEq] at e
    have := e.2.1
    simpa using this
  have hnc : n ≤ cap := by
    obtain ⟨a, c, e, -, -, q, -⟩ := h.rs
    simp only [Value.slice.injEq] at e
    have := e.2.2
    have := e.2.1
    omega
  intro a' n' cap' e
  by_cases hc : cap = 1
  · rw [if_pos hc] at e
    simp only [Value.slice.injEq, Option.some.injEq] at e
    obtain ⟨rfl, rfl, rfl⟩ := e
    exact ⟨g, 0, rfl, h1, h2, fun j hj => by omega⟩
  · rw [if_neg hc] at e
    simp only [Value.slice.injEq, Option.some.injEq] at e
    obtain ⟨rfl, rfl, rfl⟩ := e
    refine ⟨g, 2, rfl, h1, h2, fun j hj => ?_⟩
    have := h3 j (by omega)
    rw [show 2 + (n - 1) * 2 + j = 0 + n * 2 + j by omega]
    exact this
end Go.Proofs.Ytioehciabgdbaaa
