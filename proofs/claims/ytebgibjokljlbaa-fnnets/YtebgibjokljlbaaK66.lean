/- Nets that were made: their parts, one behind the other; a segment put behind; no condition. Written by mknet4.py. -/
import Derived.Test.YtebgibjokljlbaaRows
import Derived.Deep.RegionHeld3
import Derived.Deep.DeepCutAuto
import Derived.Deep.DeepMust
import Derived.Deep.MidRow
import Derived.Test.YtebgibjokljlbaaK01
import Derived.Test.YtebgibjokljlbaaK02
import Derived.Test.YtebgibjokljlbaaK03
import Derived.Test.YtebgibjokljlbaaK10
import Derived.Test.YtebgibjokljlbaaK17
import Derived.Test.YtebgibjokljlbaaK20
import Derived.Test.YtebgibjokljlbaaK42
import Derived.Test.YtebgibjokljlbaaK43
import Derived.Test.YtebgibjokljlbaaK55
import Derived.Test.YtebgibjokljlbaaK56
import Derived.Test.YtebgibjokljlbaaK57
import Derived.Test.YtebgibjokljlbaaK64
namespace Go.Proofs.Ytebgibjokljlbaa
open Go.RowKit
set_option linter.unusedVariables false
set_option maxRecDepth 8000
theorem arr12 {A : Array Value} (h : A.size = 12) : ∃ e0 e1 e2 e3 e4 e5 e6 e7 e8 e9 e10 e11, A = #[e0, e1, e2, e3, e4, e5, e6, e7, e8, e9, e10, e11] := by
  obtain ⟨l⟩ := A
  rw [List.size_toArray] at h
  rcases l with _ | ⟨e0, l⟩
  · simp at h
  rcases l with _ | ⟨e1, l⟩
  · simp at h
  rcases l with _ | ⟨e2, l⟩
  · simp at h
  rcases l with _ | ⟨e3, l⟩
  · simp at h
  rcases l with _ | ⟨e4, l⟩
  · simp at h
  rcases l with _ | ⟨e5, l⟩
  · simp at h
  rcases l with _ | ⟨e6, l⟩
  · simp at h
  rcases l with _ | ⟨e7, l⟩
  · simp at h
  rcases l with _ | ⟨e8, l⟩
  · simp at h
  rcases l with _ | ⟨e9, l⟩
  · simp at h
  rcases l with _ | ⟨e10, l⟩
  · simp at h
  rcases l with _ | ⟨e11, l⟩
  · simp at h
  rcases l with _ | ⟨y, l⟩
  · exact ⟨e0, e1, e2, e3, e4, e5, e6, e7, e8, e9, e10, e11, rfl⟩
  · simp at h
theorem bxC {C : Nat} {w w' : World} {b : Nat} {A : Array Value} (h : ∀ o, w.cell? ⟨b, o, none⟩ = A[o]?) (hb : Below C w w') (hlt : b < C) : ∀ o, w'.cell? ⟨b, o, none⟩ = A[o]? := fun o => (hb.cell (p := ⟨b, o, none⟩) hlt).trans (h o)
theorem fxC {C : Nat} {w w' : World} {b : Nat} (h : ∀ o, w.frozen? ⟨b, o, none⟩ = false) (hb : Below C w w') (hlt : b < C) : ∀ o, w'.frozen? ⟨b, o, none⟩ = false := fun o => (hb.frozen (p := ⟨b, o, none⟩) hlt).trans (h o)
theorem al_at (w : World) (o : Obj) : (w.alloc o).heap[w.heap.size]? = some o := by
  have e : (w.alloc o).heap = w.heap.push o := rfl
  rw [e]; simp
theorem own_segs0 (w : World) (lo hi : Nat) : Own w lo hi shSegms [] [.slice none 0 0] := ⟨[], Or.inl ⟨rfl, rfl, rfl⟩, by simp, by simp⟩
theorem info_NT : (Try.prog.info? 44).map (·.size) = some 2 := by kernel_rfl
theorem info_SZ : (Try.prog.info? 48).map (fun i => (i.zero, i.size, i.bytes)) = some (some (.agg #[.int .i64 0, .int .i64 0, .bool false, .bool false, .bool false, .int .i64 0, .int .i64 0, .int .i64 0, .int .i64 0, .int .i64 0, .int .i64 0, .slice none 0 0]), 12, 96) := by kernel_rfl
/-- A net that was made: its bools, then its segments. -/
def NetP (t : TypeId) (w : World) (lo : Nat) (bag : List DSegm) (dead : List Bool) (N : Array Value) : Prop := ∃ (m : Nat) (a a' : Option Addr) (c c' : Nat), N = #[.slice a bag.length c, .slice a' dead.length c'] ∧ Own w lo m (bls t) dead [.slice a' dead.length c'] ∧ Own w m w.heap.size shSegms bag [.slice a bag.length c] ∧ lo ≤ m ∧ m ≤ w.heap.size
theorem NetP.own {t : TypeId} {w : World} {lo : Nat} {bag : List DSegm} {dead : List Bool} {N : Array Value} (h : NetP t w lo bag dead N) : Own w lo w.heap.size (shNetT t) (bag, dead, ()) N.toList := by
  obtain ⟨m, a, a', c, c', e, h1, h2, l1, l2⟩ := h
  rw [e]
  exact own_Net' h1 h2 l1 l2
theorem NetP.keep {t : TypeId} {W W' : World} {lo lo' : Nat} {bag : List DSegm} {dead : List Bool} {N : Array Value} (h : NetP t W lo bag dead N) (hl : lo' ≤ lo) (hk : ∀ b, lo ≤ b → W'.heap[b]? = W.heap[b]?) (hz : W'.heap.size = W.heap.size) : NetP t W' lo' bag dead N := by
  obtain ⟨m, a, a', c, c', e, h1, h2, l1, l2⟩ := h
  refine ⟨m, a, a', c, c', e, (h1.keep fun b h1 _ => hk b h1).mono hl (Nat.le_refl _), ?_, by omega, by omega⟩
  rw [hz]
  exact h2.keep fun b h1 _ => hk b (by omega)
theorem NetP.size {t : TypeId} {w : World} {lo : Nat} {bag : List DSegm} {dead : List Bool} {N : Array Value} (h : NetP t w lo bag dead N) : N.size = 2 := by
  obtain ⟨m, a, a', c, c', e, -⟩ := h
  rw [e]; rfl
theorem NetP.one {t : TypeId} {w : World} {lo : Nat} {bag : List DSegm} {dead : List Bool} {N : Array Value} (h : NetP t w lo bag dead N) : N.all (·.oneCell') = true := by
  obtain ⟨m, a, a', c, c', e, -⟩ := h
  rw [e]; simp [Value.oneCell']
theorem own_dead (w : World) (t : TypeId) {dead : List Bool} (h : dead.length = 3) : Own (w.alloc (.cells (arr3 dead) t)) w.heap.size (w.heap.size + 1) (bls t) dead [.slice (some ⟨w.heap.size, 0, none⟩) 3 3] := by
  refine ⟨[w.heap.size], Or.inr ⟨w.heap.size, 3, arr3 dead, [[], [], []], by rw [h], rfl, al_at w _, by omega, by decide, rfl, by rw [h]; rfl, fun i hi => ?_⟩, by simp, by simp⟩
  rw [h] at hi
  have e := list3 h
  match i, hi with
  | 0, _ => refine ⟨rfl, ?_⟩; show [Value.bool (dead.getD 0 false)] = _; rw [List.getD_eq_getElem?_getD, List.getElem?_eq_getElem (by omega)]; rfl
  | 1, _ => refine ⟨rfl, ?_⟩; show [Value.bool (dead.getD 1 false)] = _; rw [List.getD_eq_getElem?_getD, List.getElem?_eq_getElem (by omega)]; rfl
  | 2, _ => refine ⟨rfl, ?_⟩; show [Value.bool (dead.getD 2 false)] = _; rw [List.getD_eq_getElem?_getD, List.getElem?_eq_getElem (by omega)]; rfl
theorem putN_le (dead : List Bool) (l : List DSegm) (k : Nat) : (putN dead [] (l.take k)).length ≤ 60 := putN_len _ _ (by simp)
end Go.Proofs.Ytebgibjokljlbaa
