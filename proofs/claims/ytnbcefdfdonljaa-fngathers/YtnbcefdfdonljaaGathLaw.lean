/- What the law's own helpers (measure, copy, compare) make of gathers; no condition but that there are at most a million bytes and pieces. -/
import Derived.Test.YtnbcefdfdonljaaRows
import Derived.Test.YtnbcefdfdonljaaBase
import Derived.Test.YtnbcefdfdonljaaBytes
import Derived.Test.YtnbcefdfdonljaaMem
import Derived.Test.YtnbcefdfdonljaaMemOpen
import Derived.Test.YtnbcefdfdonljaaMemRow
import Derived.Test.YtnbcefdfdonljaaGath
import Derived.Deep.DeepCutAuto
namespace Go.Proofs.Ytnbcefdfdonljaa
open Go.RowKit
set_option linter.unusedVariables false

def dsum (ps : List Pc) : Nat := (ps.map fun p => p.2.1.length).sum
def pcsTot (ps : List Pc) : Nat := ps.length + dsum ps
def gtTot (g : Gt) : Nat := g.1.length + pcsTot g.2.1
theorem dsum_take {ps : List Pc} {k : Nat} (hk : k < ps.length) : dsum (ps.take (k + 1)) = dsum (ps.take k) + ps[k].2.1.length := by
  unfold dsum
  rw [List.take_succ_eq_append_getElem hk, List.map_append, List.sum_append]
  simp only [List.map_cons, List.map_nil, List.sum_cons, List.sum_nil, Nat.add_zero]
theorem dsum_le (ps : List Pc) (k : Nat) : dsum (ps.take k) ≤ dsum ps := by
  have h : dsum ps = dsum (ps.take k) + dsum (ps.drop k) := by
    unfold dsum
    rw [← List.sum_append, ← List.map_append, List.take_append_drop]
  omega
theorem dsum_at {ps : List Pc} {k : Nat} (hk : k < ps.length) : ps[k].2.1.length ≤ dsum ps := by
  have := dsum_take hk; have := dsum_le ps (k + 1); omega

theorem Own.slot {w : World} {lo hi : Nat} {t : TypeId} {e : Sh} {l : List e.El} {g n cap : Nat} (h : Own w lo hi (.row t e) l [.slice (some ⟨g, 0, none⟩) n cap]) :
    (∀ j, j < n * e.sz → ∃ old, w.cell? ⟨g, j, none⟩ = some old) ∧ (∀ j, w.frozen? ⟨g, j, none⟩ = false) ∧ lo ≤ g ∧ g < hi ∧ n = l.length ∧ n ≤ cap := by
  obtain ⟨bs, h1, h2, h3⟩ := h
  rcases h1 with ⟨_, h1, _⟩ | ⟨g', cap', cur, F, e1, rfl, g3, g4, g5, g6, g7, g8⟩
  · simp at h1
  · simp only [List.cons.injEq, Value.slice.injEq, Option.some.injEq, Addr.mk.injEq, and_true] at e1
    obtain ⟨rfl, rfl, rfl⟩ := e1
    have := h3 g (by simp)
    refine ⟨fun j hj => ?_, fun j => by simp [World.frozen?, g3], this.1, this.2, rfl, g4⟩
    have hle : l.length * e.sz ≤ cap * e.sz := Nat.mul_le_mul_right _ g4
    exact ⟨cur[j]'(by omega), by rw [cell_of_heap g3, Array.getElem?_eq_getElem]⟩

theorem Own.cons {w : World} {lo mid hi : Nat} {f r : Sh} {d1 : f.El} {d2 : r.El} {c1 c2 : List Value} (h1 : Own w lo mid f d1 c1) (h2 : Own w mid hi r d2 c2) (hlm : lo ≤ mid) (hmh : mid ≤ hi) : Own w lo hi (.cons f r) (d1, d2) (c1 ++ c2) := by
  obtain ⟨b1, x1, x2, x3⟩ := h1
  obtain ⟨b2, y1, y2, y3⟩ := h2
  refine ⟨b1 ++ b2, ⟨b1, b2, c1, c2, rfl, rfl, x1, y1⟩, ?_, fun b hb => ?_⟩
  · rw [List.nodup_append]
    refine ⟨x2, y2, fun a ha b hb e => ?_⟩
    have := x3 a ha; have := y3 b hb; omega
  · rcases List.mem_append.1 hb with hb | hb
    · have := x3 b hb; omega
    · have := y3 b hb; omega
theorem Own.nil (w : World) (lo hi : Nat) : Own w lo hi .nil () [] := ⟨[], ⟨rfl, rfl⟩, by simp, by simp⟩
theorem Own.int (w : World) (lo hi : Nat) {k : IntKind} {n : Int} (h : (Lit.int k n).wf = true) : Own w lo hi (.int k) n [.int k n] := ⟨[], ⟨rfl, rfl, h⟩, by simp, by simp⟩
theorem wf_i64' {n : Int} (h : -9223372036854775808 ≤ n ∧ n ≤ 9223372036854775807) : (Lit.int .i64 n).wf = true := by
  simp [Lit.wf, IntKind.min, IntKind.max, IntKind.signed, IntKind.bits]; omega





end Go.Proofs.Ytnbcefdfdonljaa
