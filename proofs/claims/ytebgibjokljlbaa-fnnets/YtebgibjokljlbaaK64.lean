/- Small laws for regions whose loads are of two boxes: what is kept of them over calls, new boxes and stores elsewhere; no condition. -/
import Derived.Test.YtebgibjokljlbaaRows
import Derived.Deep.MidRow
import Derived.Test.YtebgibjokljlbaaK01
import Derived.Test.YtebgibjokljlbaaK02
import Derived.Test.YtebgibjokljlbaaK03
import Derived.Test.YtebgibjokljlbaaK10
namespace Go.Proofs.Ytebgibjokljlbaa
open Go.RowKit
set_option linter.unusedVariables false

/-- Two boxes are as they were, and all that was there before. -/
structure SB2 (w : World) (m b0 b1 : Nat) (A X : Array Value) (w' : World) : Prop where
  bl : Below w.heap.size w w'
  sz : w.heap.size + m ≤ w'.heap.size
  k0 : ∀ o, w'.cell? ⟨b0, o, none⟩ = A[o]?
  k1 : ∀ o, w'.cell? ⟨b1, o, none⟩ = X[o]?
theorem SB2.below {w wc wn : World} {m b0 b1 : Nat} {A X : Array Value} (h : SB2 w m b0 b1 A X wc) (hb : Below wc.heap.size wc wn) (h0 : b0 < w.heap.size + m) (h1 : b1 < w.heap.size + m) : SB2 w m b0 b1 A X wn :=
  ⟨h.bl.trans (hb.mono h.bl.size), Nat.le_trans h.sz hb.size, bx_below h.k0 (Nat.lt_of_lt_of_le h0 h.sz) hb, bx_below h.k1 (Nat.lt_of_lt_of_le h1 h.sz) hb⟩
theorem SB2.drew {w wc : World} {m b0 b1 : Nat} {A X : Array Value} (h : SB2 w m b0 b1 A X wc) : SB2 w m b0 b1 A X wc.drew := ⟨h.bl.drew, h.sz, h.k0, h.k1⟩
theorem SB2.set {w wc : World} {m b0 b1 : Nat} {A X : Array Value} (h : SB2 w m b0 b1 A X wc) {g k : Nat} {v : Value} (hg : w.heap.size ≤ g) (h0 : b0 ≠ g) (h1 : b1 ≠ g) : SB2 w m b0 b1 A X (wc.setCell ⟨g, k, none⟩ v) :=
  ⟨h.bl.setCell (p := ⟨g, k, none⟩) hg _, by simpa using h.sz, fun o => by rw [← h.k0 o]; exact World.cell?_of_block (Below.heap_setCell _ _ _ _ (by dsimp only; exact h0)), fun o => by rw [← h.k1 o]; exact World.cell?_of_block (Below.heap_setCell _ _ _ _ (by dsimp only; exact h1))⟩
theorem SB2.sets {w wc : World} {m b0 b1 : Nat} {A X : Array Value} (h : SB2 w m b0 b1 A X wc) {g k : Nat} {vs : List Value} (hg : w.heap.size ≤ g) (h0 : b0 ≠ g) (h1 : b1 ≠ g) : SB2 w m b0 b1 A X (wc.setCells g k vs) :=
  ⟨setCells_below hg _ _ _ _ h.bl, by rw [setCells_size]; exact h.sz, bx_setOff h.k0 h0, bx_setOff h.k1 h1⟩
theorem SB2.alloc {w wc : World} {m b0 b1 : Nat} {A X : Array Value} (h : SB2 w m b0 b1 A X wc) (o : Obj) (h0 : b0 < w.heap.size + m) (h1 : b1 < w.heap.size + m) : SB2 w m b0 b1 A X (wc.alloc o) :=
  h.below ((Below.refl _ _).alloc (Nat.le_refl _) _) h0 h1
theorem bx_setC {w : World} {b g k : Nat} {v : Value} {A : Array Value} (h : ∀ o, w.cell? ⟨b, o, none⟩ = A[o]?) (hne : b ≠ g) : ∀ o, (w.setCell ⟨g, k, none⟩ v).cell? ⟨b, o, none⟩ = A[o]? := fun o => by rw [← h o]; exact World.cell?_of_block (Below.heap_setCell _ _ _ _ (by dsimp only; exact hne))
theorem fx_setC {w : World} {b g k : Nat} {v : Value} (h : ∀ o, w.frozen? ⟨b, o, none⟩ = false) : ∀ o, (w.setCell ⟨g, k, none⟩ v).frozen? ⟨b, o, none⟩ = false := fun o => by rw [World.frozen?_setCell]; exact h o
/-- Two boxes, the answer's box Z, and a new one G. -/
structure KB (w : World) (A X Z G : Array Value) (g : Nat) (W : World) : Prop where
  sb : SB2 w 3 w.heap.size (w.heap.size + 1) A X W
  lo : w.heap.size + 3 ≤ g
  lt : g < W.heap.size
  kg : ∀ o, W.cell? ⟨g, o, none⟩ = G[o]?
  fg : ∀ o, W.frozen? ⟨g, o, none⟩ = false
  kr : ∀ o, W.cell? ⟨w.heap.size + 2, o, none⟩ = Z[o]?
  fr : ∀ o, W.frozen? ⟨w.heap.size + 2, o, none⟩ = false
theorem bx_sub {w : World} {b k : Nat} {X : Array Value} {cs : List Value} (h : ∀ o, w.cell? ⟨b, o, none⟩ = X[o]?) (hx : ∀ j v, cs[j]? = some v → X[k + j]? = some v) : w.rangeAt b k cs := fun j v hv => by
  rw [h (k + j)]; exact hx j v hv
theorem sub4 {X : Array Value} {k : Nat} {a b c d : Value} (h0 : X[k]? = some a) (h1 : X[k + 1]? = some b) (h2 : X[k + 2]? = some c) (h3 : X[k + 3]? = some d) : ∀ j v, [a, b, c, d][j]? = some v → X[k + j]? = some v := fun j v hv => by
  match j, hv with
  | 0, hv => simpa using h0.trans hv
  | 1, hv => simpa using h1.trans hv
  | 2, hv => simpa using h2.trans hv
  | 3, hv => simpa using h3.trans hv
  | n + 4, hv => simp at hv
theorem sub3 {X : Array Value} {k : Nat} {a b c : Value} (h0 : X[k]? = some a) (h1 : X[k + 1]? = some b) (h2 : X[k + 2]? = some c) : ∀ j v, [a, b, c][j]? = some v → X[k + j]? = some v := fun j v hv => by
  match j, hv with
  | 0, hv => simpa using h0.trans hv
  | 1, hv => simpa using h1.trans hv
  | 2, hv => simpa using h2.trans hv
  | n + 3, hv => simp at hv
theorem fldI (a b : Value) (w : World) : Sem.run Try.prog (Instr.field 35 (.agg #[a, b]) 1) w = .ok b w := by
  simp [Instr.field, asAgg, part, go_sem]
theorem fldI0 (a b : Value) (w : World) : Sem.run Try.prog (Instr.field 35 (.agg #[a, b]) 0) w = .ok a w := by
  simp [Instr.field, asAgg, part, go_sem]
end Go.Proofs.Ytebgibjokljlbaa
