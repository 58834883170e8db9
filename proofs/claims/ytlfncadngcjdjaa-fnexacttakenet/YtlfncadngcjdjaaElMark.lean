/- One element of a row of structs that the call owns, changed in place cell by cell; no condition. -/
import Derived.Test.YtlfncadngcjdjaaRows
import Derived.Test.YtlfncadngcjdjaaBase
import Derived.Test.YtlfncadngcjdjaaBytes
import Derived.Test.YtlfncadngcjdjaaMem
import Derived.Test.YtlfncadngcjdjaaMemOpen
import Derived.Test.YtlfncadngcjdjaaMemRow
import Derived.Test.YtlfncadngcjdjaaHBase
import Derived.Test.YtlfncadngcjdjaaHMark
namespace Go.Proofs.Ytlfncadngcjdjaa
open Go.RowKit
set_option linter.unusedVariables false

/-- In W block pg is as cur0 was, but that element k (of m cells) has the cells L. -/
structure El (W : World) (pg : Nat) (t : TypeId) (m k : Nat) (cur0 : Array Value) (L : List Value) : Prop where
  ex : ∃ cur, W.heap[pg]? = some (.cells cur t (0, 0)) ∧ cur.size = cur0.size ∧ (∀ i, i ≠ k → chunk cur.toList m i = chunk cur0.toList m i) ∧ chunk cur.toList m k = L
theorem El.of {W : World} {pg : Nat} {t : TypeId} {m k : Nat} {cur0 : Array Value} {L : List Value} (h : W.heap[pg]? = some (.cells cur0 t (0, 0))) (hc : chunk cur0.toList m k = L) : El W pg t m k cur0 L := ⟨cur0, h, rfl, fun _ _ => rfl, hc⟩
theorem El.set {W : World} {pg : Nat} {t : TypeId} {m k : Nat} {cur0 : Array Value} {L : List Value} (h : El W pg t m k cur0 L) (hk : k * m + m ≤ cur0.size) {A j : Nat} (hA : A = k * m + j) (hj : j < m) (v : Value) : El (W.setCell ⟨pg, A, none⟩ v) pg t m k cur0 (L.set j v) := by
  obtain ⟨cur, h1, h2, h3, h4⟩ := h
  subst hA
  refine ⟨cur.setIfInBounds (k * m + j) v, heap_set h1, by simp [h2], fun i hi => ?_, ?_⟩
  · rw [chunk_set1 hj (by omega), if_neg hi]; exact h3 i hi
  · rw [chunk_set1 hj (by omega), if_pos rfl, h4]
theorem El.cell {W : World} {pg : Nat} {t : TypeId} {m k : Nat} {cur0 : Array Value} {L : List Value} (h : El W pg t m k cur0 L) {A j : Nat} (hA : A = k * m + j) (hj : j < m) : W.cell? ⟨pg, A, none⟩ = L[j]? := by
  obtain ⟨cur, h1, h2, h3, h4⟩ := h
  subst hA
  rw [cell_of_heap h1, ← h4, chunk_get hj, Array.getElem?_toList]
theorem El.frozen {W : World} {pg : Nat} {t : TypeId} {m k : Nat} {cur0 : Array Value} {L : List Value} (h : El W pg t m k cur0 L) : ∀ o, W.frozen? ⟨pg, o, none⟩ = false := fun o => by
  obtain ⟨cur, h1, _⟩ := h
  simp [World.frozen?, h1]
theorem El.keep {W W' : World} {pg : Nat} {t : TypeId} {m k : Nat} {cur0 : Array Value} {L : List Value} (h : El W pg t m k cur0 L) (hb : W'.heap[pg]? = W.heap[pg]?) : El W' pg t m k cur0 L := by
  obtain ⟨cur, h1, r⟩ := h
  exact ⟨cur, hb.trans h1, r⟩
/-- Nothing but block pg has turned, and none is new. -/
structure On1 (pg : Nat) (w w' : World) : Prop where
  os : w'.os = w.os
  tape : w'.tape = w.tape
  output : w'.output = w.output
  size : w'.heap.size = w.heap.size
  block : ∀ b, b ≠ pg → w'.heap[b]? = w.heap[b]?
theorem On1.refl (pg : Nat) (w : World) : On1 pg w w := ⟨rfl, rfl, rfl, rfl, fun _ _ => rfl⟩
theorem On1.set {pg : Nat} {w w' : World} (h : On1 pg w w') (A : Nat) (v : Value) : On1 pg w (w'.setCell ⟨pg, A, none⟩ v) := by
  have g := grown_set (w := w') (a := ⟨pg, A, none⟩) (v := v)
  exact ⟨g.os.trans h.os, g.tape.trans h.tape, g.output.trans h.output, (by simp; exact h.size), fun b hb => (Below.heap_setCell _ _ _ _ (by dsimp only; exact hb)).trans (h.block b hb)⟩
theorem On1.touch {pg : Nat} {bs : List Nat} {w w' : World} (h : On1 pg w w') (hm : pg ∈ bs) : Touch bs w w' := ⟨h.os, h.tape, h.output, Nat.le_of_eq h.size.symm, fun b _ hn => h.block b fun e => hn (e ▸ hm)⟩
end Go.Proofs.Ytlfncadngcjdjaa
