/- Slices of bytes: what a slice that is read holds, what a slice of the call's own holds, and what the law's own helpers (copy, compare, mark, hold against the marks, measure) make of them. -/
import Derived.Test.YtnbcefdfdonljaaRows
import Derived.Test.YtnbcefdfdonljaaBase
import Derived.WalkSmall
import Derived.Maps.AppendAt
namespace Go.Proofs.Ytnbcefdfdonljaa
open Go.RowKit
set_option linter.unusedVariables false

theorem info_u8 : (Try.prog.info? 5).map (fun i => (i.zero, i.size, i.bytes)) = some (some (.int .u8 0), 1, 1) := by kernel_rfl

/-- The slice that begins at a reads as the bytes l. -/
structure RB (w : World) (a : Option Addr) (l : List Int) : Prop where
  bd : ∀ x ∈ l, 0 ≤ x ∧ x ≤ 255
  mem : l = [] ∨ ∃ b off, a = some ⟨b, off, none⟩ ∧ ∀ i, i < l.length → w.cell? ⟨b, off + i, none⟩ = some (.int .u8 (l.getD i 0))

theorem RB.below {w w' : World} {a : Option Addr} {l : List Int} (h : RB w a l) {B : Nat} (hB : w.heap.size ≤ B) (hb : Below B w w') : RB w' a l := by
  refine ⟨h.bd, ?_⟩
  rcases h.mem with e | ⟨b, off, rfl, hc⟩
  · exact Or.inl e
  · refine Or.inr ⟨b, off, rfl, fun i hi => ?_⟩
    have hlt := cell_lt (hc i hi)
    rw [hb.cell (p := ⟨b, off + i, none⟩) (by simp at hlt ⊢; omega)]
    exact hc i hi

theorem RB.nil (w : World) (a : Option Addr) : RB w a [] := ⟨by simp, Or.inl rfl⟩

theorem getD_bd {l : List Int} (h : ∀ x ∈ l, 0 ≤ x ∧ x ≤ 255) (i : Nat) (hi : i < l.length) : 0 ≤ l.getD i 0 ∧ l.getD i 0 ≤ 255 := by
  rw [List.getD_eq_getElem?_getD, List.getElem?_eq_getElem hi]; exact h _ (List.getElem_mem hi)

theorem BRow.rb {w : World} {a : Option Addr} {len cap : Nat} {zs : List Int} (h : BRow .u8 w a len cap zs) : RB w a (zs.take len) ∧ (zs.take len).length = len := by
  have hlen : (zs.take len).length = len := by
    rcases h with ⟨_, rfl, _, rfl⟩ | ⟨x, rfl, h1, h2, h3, h4, h5⟩
    · rfl
    · rw [List.length_take]; omega
  refine ⟨⟨?_, ?_⟩, hlen⟩
  · rcases h with ⟨_, rfl, _, rfl⟩ | ⟨x, rfl, h1, h2, h3, h4, h5⟩
    · simp
    · intro y hy; exact bounds_u8 (h5 y (List.mem_of_mem_take hy))
  · by_cases hz : len = 0
    · left; subst hz; simp
    · right
      obtain ⟨b, off, rfl, hc⟩ := h.byte (by omega)
      refine ⟨b, off, rfl, fun i hi => ?_⟩
      rw [hlen] at hi
      rw [(hc i hi).1]
      simp [hi]

/-- The slice v owns, from block base on, the bytes l. -/
structure OB (w : World) (base : Nat) (v : Value) (l : List Int) : Prop where
  own : w.ownsRow base 5 1 v l.length (l.map (Value.int .u8))
  bd : ∀ x ∈ l, 0 ≤ x ∧ x ≤ 255

theorem OB.rb {w : World} {base : Nat} {v : Value} {l : List Int} (h : OB w base v l) : ∃ a cap, v = .slice a l.length cap ∧ RB w a l := by
  have h0 := h.own
  obtain ⟨h1, ⟨rfl, hz⟩ | ⟨g, cap, cur, rfl, hg, hh, hc, hm, hs, ht⟩⟩ := h.own
  · have : l = [] := List.length_eq_zero_iff.1 hz
    subst this
    exact ⟨none, 0, rfl, RB.nil _ _⟩
  · refine ⟨_, cap, rfl, h.bd, ?_⟩
    by_cases hz : l = []
    · exact Or.inl hz
    · refine Or.inr ⟨g, 0, rfl, fun i hi => ?_⟩
      have := h0.cellAt i (by omega)
      rw [Nat.zero_add, this, List.getElem?_map, List.getD_eq_getElem?_getD, List.getElem?_eq_getElem hi]
      rfl

/-- The same, and a slice that is nil has no room. -/
theorem OB.rbn {w : World} {base : Nat} {v : Value} {l : List Int} (h : OB w base v l) : ∃ a cap, v = .slice a l.length cap ∧ RB w a l ∧ (a = none → cap = 0) := by
  obtain ⟨a, cap, rfl, hr⟩ := h.rb
  refine ⟨a, cap, rfl, hr, ?_⟩
  rintro rfl
  obtain ⟨_, ⟨e, _⟩ | ⟨g, c, cur, e, _⟩⟩ := h.own
  · simp only [Value.slice.injEq] at e; exact e.2.2
  · simp at e

theorem OB.mono {w : World} {base base' : Nat} {v : Value} {l : List Int} (h : OB w base v l) (hB : base' ≤ base) : OB w base' v l := by
  refine ⟨?_, h.bd⟩
  obtain ⟨h1, h2 | ⟨g, cap, cur, e, hg, r⟩⟩ := h.own
  · exact ⟨h1, Or.inl h2⟩
  · exact ⟨h1, Or.inr ⟨g, cap, cur, e, by omega, r⟩⟩

/-- What is owned stays owned where its block stays. -/
theorem OB.below {w w' : World} {base B : Nat} {v : Value} {l : List Int} (h : OB w base v l) (hB : w.heap.size ≤ B) (hb : Below B w w') : OB w' base v l := by
  refine ⟨?_, h.bd⟩
  obtain ⟨h1, h2 | ⟨g, cap, cur, e, hg, hh, r⟩⟩ := h.own
  · exact ⟨h1, Or.inl h2⟩
  · have hlt : g < w.heap.size := by
      apply Classical.byContradiction; intro hn
      rw [Array.getElem?_eq_none (by omega)] at hh; cases hh
    exact ⟨h1, Or.inr ⟨g, cap, cur, e, hg, by rw [hb.block g (by omega)]; exact hh, r⟩⟩

/-- What is owned stays owned where its own block stays. -/
theorem OB.keep {w w' : World} {base g n cap : Nat} {l : List Int} (h : OB w base (.slice (some ⟨g, 0, none⟩) n cap) l) (hb : w'.heap[g]? = w.heap[g]?) : OB w' base (.slice (some ⟨g, 0, none⟩) n cap) l := by
  refine ⟨?_, h.bd⟩
  obtain ⟨h1, ⟨h2, _⟩ | ⟨g', cap', cur, e, hg, hh, r⟩⟩ := h.own
  · cases h2
  · simp only [Value.slice.injEq, Option.some.injEq, Addr.mk.injEq, and_true] at e
    obtain ⟨rfl, e2, rfl⟩ := e
    exact ⟨h1, Or.inr ⟨g, cap, cur, by rw [e2], hg, by rw [hb]; exact hh, r⟩⟩

/-- What is owned stays owned where all blocks from its base on stay. -/
theorem OB.keeps {w w' : World} {base : Nat} {v : Value} {l : List Int} (h : OB w base v l) (hb : ∀ g, base ≤ g → w'.heap[g]? = w.heap[g]?) : OB w' base v l := by
  refine ⟨?_, h.bd⟩
  obtain ⟨h1, h2 | ⟨g, cap, cur, e, hg, hh, r⟩⟩ := h.own
  · exact ⟨h1, Or.inl h2⟩
  · exact ⟨h1, Or.inr ⟨g, cap, cur, e, hg, by rw [hb g hg]; exact hh, r⟩⟩

theorem set_next {l : List Int} {k n : Nat} (hl : l.length = n) (hk : k < n) :
    (l.take k ++ List.replicate (n - k) 0).set k (l.getD k 0) = l.take (k + 1) ++ List.replicate (n - (k + 1)) 0 := by
  have h1 : (l.take k).length = k := by rw [List.length_take]; omega
  rw [List.set_append_right _ _ (by omega), h1, Nat.sub_self, show n - k = (n - (k + 1)) + 1 by omega, List.replicate_succ, List.set_cons_zero,
    List.take_succ_eq_append_getElem (by omega), List.append_assoc, List.getD_eq_getElem?_getD, List.getElem?_eq_getElem (by omega)]
  rfl



/-- The marks from k on, n of them. -/
def marks (k : Int) (n : Nat) : List Int := (List.range n).map fun (i : Nat) => (k + (i : Int)) % 256

theorem marks_length (k : Int) (n : Nat) : (marks k n).length = n := by simp [marks]
theorem marks_getD (k : Int) (n i : Nat) (h : i < n) : (marks k n).getD i 0 = (k + i) % 256 := by
  simp [marks, List.getElem?_range h]
theorem marks_bd (k : Int) (n : Nat) : ∀ x ∈ marks k n, 0 ≤ x ∧ x ≤ 255 := by
  intro x hx
  obtain ⟨i, _, rfl⟩ := List.mem_map.1 hx
  omega
theorem marks_succ (k : Int) (n : Nat) : marks k (n + 1) = marks k n ++ [(k + n) % 256] := by
  simp [marks, List.range_succ]

theorem set_mark {l : List Int} {c : Int} {k : Nat} (hk : k < l.length) : (marks c k ++ l.drop k).set k ((c + k) % 256) = marks c (k + 1) ++ l.drop (k + 1) := by
  have h1 := marks_length c k
  rw [List.set_append_right _ _ (by omega), h1, Nat.sub_self, List.drop_eq_getElem_cons hk, List.set_cons_zero, marks_succ, List.append_assoc]
  rfl

theorem u8w (n : Int) : IntKind.u8.wrap n = n % 256 := by
  simp only [IntKind.wrap, IntKind.bits, IntKind.signed]; simp




end Go.Proofs.Ytnbcefdfdonljaa
