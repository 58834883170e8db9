/- Slices of whole numbers of the call's own: compared, marked, held against the marks; answers that hold one; no condition but on lengths. -/
import Derived.Test.YteaddhldleeaiaaRows
import Derived.Test.YteaddhldleeaiaaBase
import Derived.Test.YteaddhldleeaiaaBytes
import Derived.Test.YteaddhldleeaiaaMem
import Derived.Test.YteaddhldleeaiaaMemOpen
import Derived.Test.YteaddhldleeaiaaMemRow
import Derived.Test.YteaddhldleeaiaaHBase
import Derived.Test.YteaddhldleeaiaaHMark
import Derived.Test.YteaddhldleeaiaaInts
namespace Go.Proofs.Yteaddhldleeaiaa
open Go.RowKit
set_option linter.unusedVariables false

abbrev i64s : Sh := .row 2 (.int .i64)
/-- The slice v owns, from block base on, the numbers l. -/
structure OI (w : World) (base : Nat) (v : Value) (l : List Int) : Prop where
  own : w.ownsRow base 2 1 v l.length (l.map (Value.int .i64))
  wf : ∀ x ∈ l, (Lit.int .i64 x).wf = true

theorem rd_ints {w : World} {B : Nat} {l : List Int} {cs : List Value} (h : i64s.Rd w B l cs) : ∃ a cap, cs = [.slice a l.length cap] ∧ RI w a l := by
  obtain ⟨a, cap, h1, h2, h3, b, off, h4, h5⟩ := h
  refine ⟨a, cap, h1, ⟨?_⟩⟩
  by_cases hl : l = []
  · exact Or.inl hl
  · refine Or.inr ⟨b, off, (h4 hl).1, fun i hi => ?_⟩
    obtain ⟨cs', g1, g2, g3, g4⟩ := h5 i hi
    have := g2 0 (by decide)
    rw [g3] at this
    rw [List.getD_eq_getElem?_getD, List.getElem?_eq_getElem hi]
    simpa [Sh.sz] using this

theorem own_ints {w : World} {base hi : Nat} {v : Value} {l : List Int} (h : OI w base v l) (hh : w.heap.size ≤ hi) : Own w base hi i64s l [v] := by
  obtain ⟨h1, ⟨rfl, hz⟩ | ⟨g, cap, cur, rfl, hg, hh', hc, hm, hs, ht⟩⟩ := h.own
  · have : l = [] := List.length_eq_zero_iff.1 hz
    subst this
    exact ⟨[], Or.inl ⟨rfl, rfl, rfl⟩, by simp, by simp⟩
  · refine ⟨[g], Or.inr ⟨g, cap, cur, List.replicate l.length [], rfl, by simp, hh', hc, hm, by simpa [Sh.sz] using hs, by simp, fun i hi => ?_⟩, by simp, fun b hb => ?_⟩
    · refine ⟨by simp [List.getD_eq_getElem?_getD, hi], ?_, ?_⟩
      · have e : (cur.toList.take (l.length * 1))[i]? = some (.int .i64 l[i]) := by rw [ht, List.getElem?_map, List.getElem?_eq_getElem hi]; rfl
        rw [List.getElem?_take_of_lt (by omega)] at e
        have hlt : i < cur.toList.length := by
          apply Classical.byContradiction; intro hn
          rw [List.getElem?_eq_none (by omega)] at e; cases e
        show (cur.toList.drop (i * 1)).take 1 = _
        rw [Nat.mul_one, List.drop_eq_getElem_cons hlt]
        rw [List.getElem?_eq_getElem hlt] at e
        simpa using e
      · exact h.wf _ (List.getElem_mem hi)
    · simp at hb; subst hb
      exact ⟨hg, Nat.lt_of_lt_of_le (heap_lt hh') hh⟩

theorem take_drop_ints {cur : List Value} {n : Nat} {l : List Int} (hl : l.length = n) (h : ∀ i (hi : i < l.length), (cur.drop i).take 1 = [.int .i64 l[i]]) : cur.take n = l.map (Value.int .i64) := by
  apply List.ext_getElem?
  intro i
  by_cases hi : i < n
  · rw [List.getElem?_take_of_lt hi, List.getElem?_map, List.getElem?_eq_getElem (l := l) (by omega)]
    have := congrArg (fun x => x[0]?) (h i (by omega))
    simpa using this
  · rw [List.getElem?_eq_none (by rw [List.length_take]; omega), List.getElem?_eq_none (by simp; omega)]

theorem ints_oi {w : World} {bs : List Nat} {l : List Int} {cs : List Value} (h : i64s.Ow w bs l cs) : ∃ v, cs = [v] ∧ OI w 0 v l ∧ (∀ b, v.ownBlock = some b → b ∈ bs) ∧ (∀ b ∈ bs, v.ownBlock = some b) := by
  rcases h with ⟨rfl, rfl, rfl⟩ | ⟨g, cap, cur, F, rfl, rfl, h3, h4, h5, h6, h7, h8⟩
  · exact ⟨_, rfl, ⟨⟨rfl, Or.inl ⟨rfl, rfl⟩⟩, by simp⟩, by simp [Value.ownBlock], by simp⟩
  · have hF : F.flatten = [] := by
      apply List.eq_nil_iff_forall_not_mem.2
      intro b hb
      obtain ⟨i, hi, hb⟩ := mem_flatten_getD hb
      have := (h8 i (by omega)).1
      rw [this] at hb; simp at hb
    have key : ∀ i (hi : i < l.length), (cur.toList.drop i).take 1 = [.int .i64 l[i]] := fun i hi => by
      have := (h8 i hi).2.1
      simpa [Sh.sz] using this
    refine ⟨_, rfl, ⟨⟨by simp, Or.inr ⟨g, cap, cur, rfl, Nat.zero_le _, h3, h4, h5, by simpa [Sh.sz] using h6, ?_⟩⟩, ?_⟩, ?_, ?_⟩
    · rw [Nat.mul_one]; exact take_drop_ints rfl key
    · intro x hx
      obtain ⟨i, hi, rfl⟩ := List.getElem_of_mem hx
      exact (h8 i hi).2.2
    · intro b hb; simp [Value.ownBlock] at hb; simp [hb]
    · intro b hb; rw [hF] at hb; simp at hb; subst hb; rfl


def marksI (k : Int) (n : Nat) : List Int := (List.range n).map fun (i : Nat) => k + (i : Int)
theorem marksI_length (k : Int) (n : Nat) : (marksI k n).length = n := by simp [marksI]
theorem marksI_getD (k : Int) (n i : Nat) (h : i < n) : (marksI k n).getD i 0 = k + i := by
  simp [marksI, List.getElem?_range h]
theorem marksI_succ (k : Int) (n : Nat) : marksI k (n + 1) = marksI k n ++ [k + n] := by
  simp [marksI, List.range_succ]
theorem set_markI {l : List Int} {c : Int} {k : Nat} (hk : k < l.length) : (marksI c k ++ l.drop k).set k (c + k) = marksI c (k + 1) ++ l.drop (k + 1) := by
  have h1 := marksI_length c k
  rw [List.set_append_right _ _ (by omega), h1, Nat.sub_self, List.drop_eq_getElem_cons hk, List.set_cons_zero, marksI_succ, List.append_assoc]
  rfl
theorem marksI_wf {c : Int} {n : Nat} (h0 : 0 ≤ c) (h1 : c ≤ 1099511627776) (hn : n ≤ 1073741824) : ∀ x ∈ marksI c n, (Lit.int .i64 x).wf = true := by
  intro x hx
  obtain ⟨i, hi, rfl⟩ := List.mem_map.1 hx
  have := List.mem_range.1 hi
  exact WalkArith.wf_i64 (by omega)

end Go.Proofs.Yteaddhldleeaiaa
