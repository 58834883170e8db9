/- Many cells of one block set: what is read, and what stays; no condition. -/
import Derived.Test.YtlicopeejphgaanRows
import Derived.Test.YtlicopeejphgaanBase
import Derived.Test.YtlicopeejphgaanSubBox
namespace Go.Proofs.Ytlicopeejphgaan
open Go.RowKit
set_option linter.unusedVariables false

/-- Cells of one block set one after another, from place k on. -/
def setsW (w : World) (b : Nat) : Nat → List Value → World
  | _, [] => w
  | k, v :: vs => setsW (w.setCell ⟨b, k, none⟩ v) b (k + 1) vs
theorem setsW_cells {b : Nat} : ∀ (vs : List Value) (w : World) (k : Nat) (L : List Value), (∀ o, w.cell? ⟨b, o, none⟩ = L[o]?) → k + vs.length ≤ L.length → ∀ o, (setsW w b k vs).cell? ⟨b, o, none⟩ = (L.take k ++ (vs ++ L.drop (k + vs.length)))[o]?
  | [], w, k, L, h, hk => by intro o; simp only [setsW, List.length_nil, Nat.add_zero, List.nil_append, List.take_append_drop]; exact h o
  | v :: vs, w, k, L, h, hk => by
    intro o
    simp only [List.length_cons] at hk
    have hk2 : k < L.length := by omega
    have h2 : ∀ o, (w.setCell ⟨b, k, none⟩ v).cell? ⟨b, o, none⟩ = (L.set k v)[o]? := fun o => by
      have := bx_put (A := L.toArray) (v := v) (fun o => by rw [h o]; simp) (by simpa using hk2) o
      rw [this]
      simp
    have h3 := setsW_cells vs (w.setCell ⟨b, k, none⟩ v) (k + 1) (L.set k v) h2 (by rw [List.length_set]; omega) o
    have e1 : (L.set k v).take (k + 1) = L.take k ++ [v] := by
      rw [List.take_set, List.take_succ_eq_append_getElem hk2, List.set_append_right _ _ (by simp; omega)]
      simp [Nat.min_eq_left (Nat.le_of_lt hk2)]
    have e2 : (L.set k v).drop (k + 1 + vs.length) = L.drop (k + (vs.length + 1)) := by
      rw [List.drop_set_of_lt (by omega)]; congr 1; omega
    rw [show setsW w b k (v :: vs) = setsW (w.setCell ⟨b, k, none⟩ v) b (k + 1) vs from rfl, h3, e1, e2]
    simp
theorem setsW_all {b : Nat} {w : World} {A : Array Value} (vs : List Value) (h : ∀ o, w.cell? ⟨b, o, none⟩ = A[o]?) (hn : vs.length = A.size) : ∀ o, (setsW w b 0 vs).cell? ⟨b, o, none⟩ = vs.toArray[o]? := fun o => by
  have := setsW_cells vs w 0 A.toList (fun o => by rw [h o]; simp) (by simp [hn]) o
  rw [this, Nat.zero_add, List.drop_eq_nil_of_le (by simp [hn])]
  simp
theorem setsW_below {b B : Nat} (hB : B ≤ b) : ∀ (vs : List Value) (w w0 : World) (k : Nat), Below B w0 w → Below B w0 (setsW w b k vs)
  | [], _, _, _, h => h
  | v :: vs, w, w0, k, h => setsW_below hB vs _ w0 (k + 1) (h.setCell (p := ⟨b, k, none⟩) hB v)
theorem setsW_heap {b g : Nat} (hg : g ≠ b) : ∀ (vs : List Value) (w : World) (k : Nat), (setsW w b k vs).heap[g]? = w.heap[g]?
  | [], _, _ => rfl
  | v :: vs, w, k => (setsW_heap hg vs (w.setCell ⟨b, k, none⟩ v) (k + 1)).trans (Below.heap_setCell _ _ _ _ (by dsimp only; exact hg))
theorem setsW_size {b : Nat} : ∀ (vs : List Value) (w : World) (k : Nat), (setsW w b k vs).heap.size = w.heap.size
  | [], _, _ => rfl
  | v :: vs, w, k => (setsW_size vs (w.setCell ⟨b, k, none⟩ v) (k + 1)).trans (by simp)
end Go.Proofs.Ytlicopeejphgaan
