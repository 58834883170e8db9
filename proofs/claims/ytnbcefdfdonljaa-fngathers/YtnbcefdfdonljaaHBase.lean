/- Helpers of the laws, for data of any shape: the bytes of a struct by uniform contracts, sums over a list, the form of a row; no condition. -/
import Derived.Test.YtnbcefdfdonljaaRows
import Derived.Test.YtnbcefdfdonljaaBase
import Derived.Test.YtnbcefdfdonljaaBytes
import Derived.Test.YtnbcefdfdonljaaMem
import Derived.Test.YtnbcefdfdonljaaMemOpen
import Derived.Test.YtnbcefdfdonljaaMemRow
namespace Go.Proofs.Ytnbcefdfdonljaa
open Go.RowKit
set_option linter.unusedVariables false

def fsum {α : Type} (f : α → Nat) (l : List α) : Nat := (l.map f).sum
theorem fsum_take {α : Type} {f : α → Nat} {l : List α} {k : Nat} (hk : k < l.length) : fsum f (l.take (k + 1)) = fsum f (l.take k) + f l[k] := by
  unfold fsum
  rw [List.take_succ_eq_append_getElem hk, List.map_append, List.sum_append]
  simp only [List.map_cons, List.map_nil, List.sum_cons, List.sum_nil, Nat.add_zero]
theorem fsum_le {α : Type} {f : α → Nat} (l : List α) (k : Nat) : fsum f (l.take k) ≤ fsum f l := by
  have h : fsum f l = fsum f (l.take k) + fsum f (l.drop k) := by
    unfold fsum
    rw [← List.sum_append, ← List.map_append, List.take_append_drop]
  omega
theorem fsum_at {α : Type} (f : α → Nat) {l : List α} {k : Nat} (hk : k < l.length) : f l[k] ≤ fsum f l := by
  have := fsum_take (f := f) hk; have := fsum_le (f := f) l (k + 1); omega

theorem row_form {w : World} {B : Nat} {t : TypeId} {e : Sh} {l : List e.El} {cs : List Value} (h : (Sh.row t e).Rd w B l cs) : ∃ a cap, cs = [.slice a l.length cap] := by
  obtain ⟨a, cap, h1, _⟩ := h; exact ⟨a, cap, h1⟩
theorem row_max {w : World} {B : Nat} {t : TypeId} {e : Sh} {l : List e.El} {cs : List Value} (h : (Sh.row t e).Rd w B l cs) : l.length ≤ 9223372036854775807 := by
  obtain ⟨a, cap, _, h2, _⟩ := h; exact Nat.le_trans h2.1 h2.2
theorem addr_ne (b : Nat) {i j : Nat} (h : i ≠ j) : (⟨b, i, none⟩ : Addr) ≠ ⟨b, j, none⟩ := by intro e; simp only [Addr.mk.injEq] at e; omega

theorem hOwnSlot {w : World} {lo hi : Nat} {t : TypeId} {e : Sh} {l : List e.El} {g n cap : Nat} (h : Own w lo hi (.row t e) l [.slice (some ⟨g, 0, none⟩) n cap]) :
    (∀ j, j < n * e.sz → ∃ old, w.cell? ⟨g, j, none⟩ = some old) ∧ (∀ j, w.frozen? ⟨g, j, none⟩ = false) ∧ lo ≤ g ∧ g < hi ∧ n = l.length ∧ n ≤ cap := by
  obtain ⟨bs, h1, h2, h3⟩ := h
  rcases h1 with ⟨_, h1, _⟩ | ⟨g', cap', cur, F, e1, rfl, g3, g4, g5, g6, g7, g8⟩
  · simp at h1
  · simp only [List.cons.injEq, Value.slice.injEq, Option.some.injEq, Addr.mk.injEq, and_true] at e1
    obtain ⟨rfl, rfl, rfl⟩ := e1
    have := h3 g (by simp)
    refine ⟨fun j hj => ?_, fun j => by simp [World.frozen?, g3], this.1, this.2, rfl, g4⟩
    have hle : l.length * e.sz ≤ cap * e.sz := Nat.mul_le_mul_right _ g4
    exact ⟨cur[j]'(by omega), by rw [cell_of_heap g3, Array.getElem?_eq_getElem]⟩
theorem hOwnCons {w : World} {lo mid hi : Nat} {f r : Sh} {d1 : f.El} {d2 : r.El} {c1 c2 : List Value} (h1 : Own w lo mid f d1 c1) (h2 : Own w mid hi r d2 c2) (hlm : lo ≤ mid) (hmh : mid ≤ hi) : Own w lo hi (.cons f r) (d1, d2) (c1 ++ c2) := by
  obtain ⟨b1, x1, x2, x3⟩ := h1
  obtain ⟨b2, y1, y2, y3⟩ := h2
  refine ⟨b1 ++ b2, ⟨b1, b2, c1, c2, rfl, rfl, x1, y1⟩, ?_, fun b hb => ?_⟩
  · rw [List.nodup_append]
    refine ⟨x2, y2, fun a ha b hb e => ?_⟩
    have := x3 a ha; have := y3 b hb; omega
  · rcases List.mem_append.1 hb with hb | hb
    · have := x3 b hb; omega
    · have := y3 b hb; omega
theorem hOwnNil (w : World) (lo hi : Nat) : Own w lo hi .nil () [] := ⟨[], ⟨rfl, rfl⟩, by simp, by simp⟩
theorem hOwnInt (w : World) (lo hi : Nat) {k : IntKind} {n : Int} (h : (Lit.int k n).wf = true) : Own w lo hi (.int k) n [.int k n] := ⟨[], ⟨rfl, rfl, h⟩, by simp, by simp⟩
theorem hOwnBool (w : World) (lo hi : Nat) (b : Bool) : Own w lo hi .bool b [.bool b] := ⟨[], ⟨rfl, rfl⟩, by simp, by simp⟩

/-- The types of the rows that a shape owns. -/
def Sh.types : Sh → List TypeId
  | .int _ => []
  | .bool => []
  | .row t e => t :: e.types
  | .rowO t e => t :: e.types
  | .nil => []
  | .cons f r => f.types ++ r.types
theorem Sh.Ow.ty {w : World} : ∀ (s : Sh) (bs : List Nat) (d : s.El) (cs : List Value), s.Ow w bs d cs → ∀ b ∈ bs, ∃ cur t, w.heap[b]? = some (.cells cur t (0, 0)) ∧ t ∈ s.types
  | .int _, bs, _, _, h => by rw [h.1]; simp
  | .bool, bs, _, _, h => by rw [h.1]; simp
  | .row t e, bs, l, cs, h => by
    rcases h with h | ⟨g, cap, cur, F, h1, h2, h3, h4, h5, h6, h7, h8⟩
    · rw [h.1]; simp
    · subst h2
      intro b hb
      rcases List.mem_cons.1 hb with rfl | hb
      · exact ⟨cur, t, h3, by simp [Sh.types]⟩
      · obtain ⟨i, hi, hb⟩ := mem_flatten_getD hb
        obtain ⟨c, t', q1, q2⟩ := Sh.Ow.ty e _ _ _ (h8 i (by omega)) b hb
        exact ⟨c, t', q1, by simp [Sh.types, q2]⟩
  | .rowO t e, bs, l, cs, h => by
    rcases h with h | ⟨g, off, cap, cur, F, h1, h2, h3, h4, h5, h6, h7, h8⟩
    · rw [h.1]; simp
    · subst h2
      intro b hb
      rcases List.mem_cons.1 hb with rfl | hb
      · exact ⟨cur, t, h3, by simp [Sh.types]⟩
      · obtain ⟨i, hi, hb⟩ := mem_flatten_getD hb
        obtain ⟨c, t', q1, q2⟩ := Sh.Ow.ty e _ _ _ (h8 i (by omega)) b hb
        exact ⟨c, t', q1, by simp [Sh.types, q2]⟩
  | .nil, bs, _, _, h => by rw [h.1]; simp
  | .cons f r, bs, d, cs, ⟨b1, b2, c1, c2, h1, h2, h3, h4⟩ => by
    subst h1
    intro b hb
    rcases List.mem_append.1 hb with hb | hb
    · obtain ⟨c, t', q1, q2⟩ := Sh.Ow.ty f _ _ _ h3 b hb
      exact ⟨c, t', q1, by simp [Sh.types, q2]⟩
    · obtain ⟨c, t', q1, q2⟩ := Sh.Ow.ty r _ _ _ h4 b hb
      exact ⟨c, t', q1, by simp [Sh.types, q2]⟩
/-- What is owned stays owned where a box of another type among its blocks is written. -/
theorem Own.off {w w' : World} {lo hi : Nat} {s : Sh} {d : s.El} {cs : List Value} (h : Own w lo hi s d cs) {q : Nat} {cur : Array Value} {t : TypeId} (hq : w.heap[q]? = some (.cells cur t (0, 0))) (ht : t ∉ s.types) (hk : ∀ b, lo ≤ b → b < hi → b ≠ q → w'.heap[b]? = w.heap[b]?) : Own w' lo hi s d cs := by
  obtain ⟨bs, h1, h2, h3⟩ := h
  refine ⟨bs, Sh.Ow.keep s bs d cs (fun b hb => hk b (h3 b hb).1 (h3 b hb).2 fun e => ?_) h1, h2, h3⟩
  subst e
  obtain ⟨c, t', q1, q2⟩ := Sh.Ow.ty s bs d cs h1 b hb
  rw [hq] at q1
  simp only [Option.some.injEq, Obj.cells.injEq] at q1
  exact ht (q1.2.1 ▸ q2)
theorem Own.blk {w : World} {lo hi : Nat} {t : TypeId} {e : Sh} {l : List e.El} {v : Value} (h : Own w lo hi (.row t e) l [v]) {b : Nat} (hb : v.ownBlock = some b) : lo ≤ b ∧ b < hi := by
  obtain ⟨v', xs, F, e1, ho, _, _, _, _, hv⟩ := h.row_to
  simp only [List.cons.injEq, and_true] at e1
  subst e1
  exact ⟨(ho.lt b hb).1, hv b hb⟩

end Go.Proofs.Ytnbcefdfdonljaa
