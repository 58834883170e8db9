/- What the program makes of spans that are taken: copied, sorted, joined, compared; nothing that was in memory turns; no condition but that there are at most a hundred thousand. -/
import Derived.Test.YtmiomnpfjigojamRows
import Derived.Test.YtmiomnpfjigojamBase
import Derived.Test.YtmiomnpfjigojamMem
import Derived.Test.YtmiomnpfjigojamHBase
import Derived.Test.YtmiomnpfjigojamHSpan
import Derived.Test.YtmiomnpfjigojamHCatch
import Derived.Test.YtmiomnpfjigojamMSpan
import Derived.Test.YtmiomnpfjigojamSpanRow
import Derived.Test.YtmiomnpfjigojamCatDef
import Derived.Test.YtmiomnpfjigojamCatImpl
import Derived.Test.YtmiomnpfjigojamCatCount
import Derived.Test.YtmiomnpfjigojamCatSort
import Derived.Test.YtmiomnpfjigojamBox
import Derived.Shelf.SlicesQ.Equal
import Derived.Laws.StructEq
namespace Go.Proofs.Ytmiomnpfjigojam
open Go.RowKit Go.Shelf
set_option linter.unusedVariables false
set_option maxRecDepth 8000

/-! ### Plain facts -/
theorem SpL.pw : ∀ {l : List DSpan}, SpL l → l.Pairwise fun a b => a.1 ≤ b.1
  | [], _ => List.Pairwise.nil
  | s :: l, h => List.Pairwise.cons (fun t ht => by have := h.all t ht; have := h.head; omega) (SpL.pw h.tail)
theorem SpL.uniq : ∀ {l : List DSpan}, SpL l → ∀ a ∈ l, ∀ b ∈ l, a.1 = b.1 → a = b
  | [], _, a, ha, _, _, _ => by simp at ha
  | s :: l, h, a, ha, b, hb, e => by
    have hh := h.head
    rcases List.mem_cons.1 ha with h1 | h1
    · rcases List.mem_cons.1 hb with h2 | h2
      · rw [h1, h2]
      · have := h.all b h2; rw [h1] at e; omega
    · rcases List.mem_cons.1 hb with h2 | h2
      · have := h.all a h1; rw [h2] at e; omega
      · exact SpL.uniq h.tail a h1 b h2 e
theorem sort_same {l l' : List DSpan} (h : SpL l) (hp : l'.Perm l) (hs : l'.Pairwise fun a b => a.1 ≤ b.1) : l' = l :=
  List.Perm.eq_of_pairwise (le := fun a b : DSpan => a.1 ≤ b.1) (fun a b ha hb h1 h2 => h.uniq a (hp.mem_iff.1 ha) b hb (by omega)) hs h.pw hp
theorem sort_ins {l l' : List DSpan} {a b : Int} (hab : a ≤ b) (h : SpL l) (hp : l'.Perm (l ++ [(a, b, ())])) (hs : l'.Pairwise fun a b => a.1 ≤ b.1) : joinT l' = insS a b l := by
  obtain ⟨p, q, rfl⟩ := List.append_of_mem (hp.mem_iff.2 (by simp : (a, b, ()) ∈ l ++ [(a, b, ())]))
  have h1 : (p ++ q).Perm l := by
    have := (List.perm_middle (a := (a, b, ())) (l₁ := p) (l₂ := q)).symm.trans (hp.trans (List.perm_append_comm (l₁ := l) (l₂ := [(a, b, ())])))
    exact this.cons_inv
  rw [List.pairwise_append, List.pairwise_cons] at hs
  obtain ⟨s1, ⟨s2, s3⟩, s4⟩ := hs
  have hpq : p ++ q = l := sort_same h h1 (by
    rw [List.pairwise_append]
    exact ⟨s1, s3, fun x hx y hy => s4 x hx y (List.mem_cons_of_mem _ hy)⟩)
  subst hpq
  exact joinT_ins hab h (fun t ht => s4 t ht (a, b, ()) (by simp)) (fun t ht => s2 t ht)
def JR (l : List DSpan) (k : Nat) (J : List DSpan) : Prop := (k = 0 ∧ J = []) ∨ ∃ front c, J = front ++ [c] ∧ front ++ joinG c (l.drop k) = joinT l
theorem JR.first {l : List DSpan} (hk : 0 < l.length) : JR l 1 ([] ++ [l[0]]) := by
  refine Or.inr ⟨[], l[0], rfl, ?_⟩
  cases l with
  | nil => simp at hk
  | cons s l => rfl
theorem JR.join {l front : List DSpan} {c : DSpan} {k : Nat} (hk : k < l.length) (h : front ++ joinG c (l.drop k) = joinT l) (hle : l[k].1 ≤ c.2.1) : JR l (k + 1) (front ++ [(c.1, max c.2.1 l[k].2.1, ())]) := by
  refine Or.inr ⟨front, _, rfl, ?_⟩
  rw [← h, List.drop_eq_getElem_cons hk, joinG, if_pos hle]
theorem JR.more {l front : List DSpan} {c : DSpan} {k : Nat} (hk : k < l.length) (h : front ++ joinG c (l.drop k) = joinT l) (hle : ¬ l[k].1 ≤ c.2.1) : JR l (k + 1) ((front ++ [c]) ++ [l[k]]) := by
  refine Or.inr ⟨front ++ [c], l[k], rfl, ?_⟩
  rw [← h, List.drop_eq_getElem_cons hk, joinG, if_neg hle, List.append_assoc]
  rfl
theorem JR.end_ {l J : List DSpan} (h : JR l l.length J) : J = joinT l := by
  rcases h with ⟨h0, rfl⟩ | ⟨front, c, rfl, h⟩
  · have : l = [] := List.length_eq_zero_iff.1 h0
    subst this; rfl
  · rw [List.drop_length] at h; exact h
theorem cellsS_set {front : List DSpan} {c : DSpan} {v : Int} : (cellsS (front ++ [c])).set (front.length * 2 + 1) (.int .i64 v) = cellsS (front ++ [(c.1, v, ())]) := by
  rw [cellsS_app, cellsS_app, List.set_append_right _ _ (by rw [cellsS_len]; omega), cellsS_len, show front.length * 2 + 1 - front.length * 2 = 1 by omega]
  rfl
/-- The end of the last span of a row of the call's own stored. -/
theorem OS.last {w : World} {base g n cap : Nat} {front : List DSpan} {c : DSpan} {v : Int} (h : OS w base (.slice (some ⟨g, 0, none⟩) n cap) (front ++ [c])) (hv : (Lit.int .i64 v).wf = true) :
    OS (w.setCell ⟨g, front.length * 2 + 1, none⟩ (.int .i64 v)) base (.slice (some ⟨g, 0, none⟩) n cap) (front ++ [(c.1, v, ())]) := by
  have hn : n = (front ++ [c]).length := by
    obtain ⟨a, cp, e, _⟩ := h.rs
    simp only [Value.slice.injEq] at e; exact e.2.1
  have hw := h.wf
  have ho := h.own
  subst hn
  have := (ho.stored (front.length * 2 + 1) (.int .i64 v)).1
  rw [cellsS_set] at this
  refine ⟨by simpa using this, fun s hs => ?_⟩
  rcases List.mem_append.1 hs with hs | hs
  · exact hw s (List.mem_append_left _ hs)
  · simp only [List.mem_singleton] at hs; subst hs
    exact ⟨(hw c (by simp)).1, hv⟩
/-- The form of a row of the call's own that is not empty. -/
theorem OS.some_ {w : World} {base : Nat} {v : Value} {l : List DSpan} (h : OS w base v l) (hl : 0 < l.length) : ∃ g cap, v = .slice (some ⟨g, 0, none⟩) l.length cap ∧ base ≤ g ∧ g < w.heap.size ∧ l.length ≤ cap ∧ cap ≤ maxLen := by
  obtain ⟨h1, ⟨e, hz⟩ | ⟨g, cap, cur, e, hg, hh, hc, hm, _⟩⟩ := h.own
  · omega
  · exact ⟨g, cap, e, hg, heap_lt hh, hc, hm⟩
theorem OS.cell {w : World} {base g n cap : Nat} {l : List DSpan} (h : OS w base (.slice (some ⟨g, 0, none⟩) n cap) l) {i : Nat} (hi : i < l.length) : w.cell? ⟨g, i * 2, none⟩ = some (.int .i64 l[i].1) ∧ w.cell? ⟨g, i * 2 + 1, none⟩ = some (.int .i64 l[i].2.1) ∧ ∀ j, w.frozen? ⟨g, j, none⟩ = false := by
  have hn : n = l.length := by
    obtain ⟨a, cp, e, _⟩ := h.rs
    simp only [Value.slice.injEq] at e; exact e.2.1
  have ho := h.own
  subst hn
  refine ⟨?_, ?_, fun j => ho.frozenAt j⟩
  · rw [ho.cellAt (i * 2) (by omega)]; exact (cellsS_get hi).1
  · rw [ho.cellAt (i * 2 + 1) (by omega)]; exact (cellsS_get hi).2
theorem rs_lit (w : World) (H : Nat) (hH : w.heap.size = H) (a b : Int) (h1 : (Lit.int .i64 a).wf = true) (h2 : (Lit.int .i64 b).wf = true) : RS (w.alloc (.cells #[.int .i64 a, .int .i64 b] 71)) (some ⟨H, 0, none⟩) [(a, b, ())] := by
  subst hH
  have h := OS.lit w [(a, b, ())] (fun s hs => by simp only [List.mem_singleton] at hs; subst hs; exact ⟨h1, h2⟩) (by simp)
  obtain ⟨ad, cp, e, rs, _⟩ := h.rs
  simp only [Value.slice.injEq] at e
  rw [← e.1] at rs
  exact rs
theorem os_none (w : World) (H : Nat) (hH : w.heap.size = H) : OS (w.alloc (.cells #[] 71)) H (.slice (some ⟨H, 0, none⟩) 0 0) [] := by
  subst hH
  exact OS.lit w [] (fun s hs => by simp at hs) (by simp)

end Go.Proofs.Ytmiomnpfjigojam
