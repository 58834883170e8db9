/- A row of segments of the call's own, element by element with its blocks and cells: taken apart and put together; no condition. -/
import Derived.Test.YtlfncadngcjdjaaRows
import Derived.Test.YtlfncadngcjdjaaBase
import Derived.Test.YtlfncadngcjdjaaBytes
import Derived.Test.YtlfncadngcjdjaaMem
import Derived.Test.YtlfncadngcjdjaaMemOpen
import Derived.Test.YtlfncadngcjdjaaMemRow
import Derived.Test.YtlfncadngcjdjaaHBase
import Derived.Test.YtlfncadngcjdjaaHMark
import Derived.Test.YtlfncadngcjdjaaMemApp
import Derived.Test.YtlfncadngcjdjaaBox
import Derived.Test.YtlfncadngcjdjaaSubBox
import Derived.Test.YtlfncadngcjdjaaAgg
import Derived.Test.YtlfncadngcjdjaaMSegs
import Derived.Test.YtlfncadngcjdjaaHSegs
import Derived.Test.YtlfncadngcjdjaaHBool
import Derived.Test.YtlfncadngcjdjaaNetSeg
import Derived.Test.YtlfncadngcjdjaaNetSpF
import Derived.Test.YtlfncadngcjdjaaNetBx
import Derived.Test.YtlfncadngcjdjaaNetR
import Derived.Deep.MidRow
import Derived.Maps.AppendAt
namespace Go.Proofs.Ytlfncadngcjdjaa
open Go.RowKit
set_option linter.unusedVariables false
set_option maxRecDepth 8000
abbrev El3 : Type := DSegm × List Nat × List Value
structure RowT (w : World) (lo hi : Nat) (v : Value) (T : List El3) : Prop where
  own : w.ownsRow lo 31 12 v T.length (T.map (·.2.2)).flatten
  hv : ∀ b, v.ownBlock = some b → b < hi
  el : ∀ x ∈ T, shSegm.Ow w x.2.1 x.1 x.2.2
  nd : (T.map (·.2.1)).flatten.Nodup
  rg : ∀ b ∈ (T.map (·.2.1)).flatten, lo ≤ b ∧ b < hi ∧ v.ownBlock ≠ some b
theorem chunk_flat : ∀ (L : List (List Value)) (i : Nat) (h : i < L.length), (∀ c ∈ L, c.length = 12) → chunk L.flatten 12 i = L[i]
  | [], i, h, _ => by simp at h
  | c :: r, 0, h, hc => by
    have := hc c (by simp)
    simp [chunk, this]
  | c :: r, i + 1, h, hc => by
    have h1 := hc c (by simp)
    have ih := chunk_flat r i (by simpa using h) (fun d hd => hc d (List.mem_cons_of_mem _ hd))
    rw [List.getElem_cons_succ, ← ih]
    unfold chunk
    rw [List.flatten_cons, List.drop_append, List.drop_of_length_le (by omega), List.nil_append, h1, show (i + 1) * 12 - 12 = i * 12 by omega]
theorem flat_chunk (xs : List Value) : ∀ (n : Nat), ((List.range n).map fun i => chunk xs 12 i).flatten = xs.take (n * 12)
  | 0 => by simp
  | n + 1 => by
    rw [List.range_succ, List.map_append, List.flatten_append, flat_chunk xs n]
    simp only [List.map_cons, List.map_nil, List.flatten_cons, List.flatten_nil, List.append_nil]
    unfold chunk
    rw [Nat.succ_mul, ← List.take_add]
theorem Own.rowT {w : World} {lo hi : Nat} {l : List DSegm} {v : Value} (h : Own w lo hi shSegms l [v]) : ∃ T : List El3, T.map (·.1) = l ∧ RowT w lo hi v T := by
  obtain ⟨v', xs, F, e1, ho, hF, hnd, hb, hel, hv⟩ := h.row_to
  simp only [List.cons.injEq, and_true] at e1
  subst e1
  have hx : xs.length = l.length * 12 := ho.1
  refine ⟨(List.range l.length).map fun i => (l.getD i zSg, F.getD i [], chunk xs 12 i), ?_, ?_, hv, ?_, ?_, ?_⟩
  · rw [List.map_map]
    apply List.ext_getElem (by simp)
    intro i h1 h2
    simp [List.getD_eq_getElem?_getD, h2]
  · rw [List.length_map, List.length_range, List.map_map]
    have : ((List.range l.length).map ((fun x : El3 => x.2.2) ∘ fun i => (l.getD i zSg, F.getD i [], chunk xs 12 i))).flatten = xs := by
      have h := flat_chunk xs l.length
      rw [List.take_of_length_le (by omega)] at h
      exact h
    rw [this]; exact ho
  · intro x hx
    obtain ⟨i, hi, rfl⟩ := List.mem_map.1 hx
    rw [List.mem_range] at hi
    have h := hel i hi
    have e : l.getD i zSg = l[i] := by rw [List.getD_eq_getElem?_getD, List.getElem?_eq_getElem hi]; rfl
    rw [e]
    exact h
  · rw [List.map_map]
    have : (List.range l.length).map ((fun x : El3 => x.2.1) ∘ fun i => (l.getD i zSg, F.getD i [], chunk xs 12 i)) = F := by
      apply List.ext_getElem (by simp [hF])
      intro i h1 h2
      simp [List.getD_eq_getElem?_getD, h2]
    rw [this]; exact hnd
  · rw [List.map_map]
    have : (List.range l.length).map ((fun x : El3 => x.2.1) ∘ fun i => (l.getD i zSg, F.getD i [], chunk xs 12 i)) = F := by
      apply List.ext_getElem (by simp [hF])
      intro i h1 h2
      simp [List.getD_eq_getElem?_getD, h2]
    rw [this]; exact hb
theorem RowT.len {w : World} {lo hi : Nat} {v : Value} {T : List El3} (h : RowT w lo hi v T) : ∀ c ∈ T.map (·.2.2), c.length = 12 := fun c hc => by
  obtain ⟨x, hx, rfl⟩ := List.mem_map.1 hc
  exact Sh.Ow.len _ _ _ _ (h.el x hx)
theorem RowT.to {w : World} {lo hi : Nat} {v : Value} {T : List El3} (h : RowT w lo hi v T) : Own w lo hi shSegms (T.map (·.1)) [v] := by
  refine Own.row_of (e := shSegm) (xs := (T.map (·.2.2)).flatten) (by rw [List.length_map]; exact h.own) h.hv (T.map (·.2.1)) (by simp) h.nd h.rg fun i hi => ?_
  have hi2 : i < T.length := by simpa using hi
  have e1 : (T.map (·.2.1)).getD i [] = T[i].2.1 := by rw [List.getD_eq_getElem?_getD, List.getElem?_eq_getElem (by simpa using hi2)]; simp
  have e2 : chunk (T.map (·.2.2)).flatten shSegm.sz i = T[i].2.2 := by
    have := chunk_flat (T.map (·.2.2)) i (by simpa using hi2) h.len
    rw [List.getElem_map] at this
    exact this
  rw [e1, e2, List.getElem_map]
  exact h.el _ (List.getElem_mem hi2)
theorem RowT.range {w : World} {lo hi : Nat} {g n cap : Nat} {T : List El3} (h : RowT w lo hi (.slice (some ⟨g, 0, none⟩) n cap) T) {k : Nat} (hk : k < T.length) : w.rangeAt g (k * 12) T[k].2.2 := fun j u hj => by
  have hl : T[k].2.2.length = 12 := h.len _ (List.mem_map.2 ⟨_, List.getElem_mem hk, rfl⟩)
  have hj12 : j < 12 := by have := (List.getElem?_eq_some_iff.1 hj).1; omega
  have hc := chunk_flat (T.map (·.2.2)) k (by simpa using hk) h.len
  rw [List.getElem_map] at hc
  have h1 := chunk_get (xs := (T.map (·.2.2)).flatten) (sz := 12) (i := k) hj12
  rw [hc, hj] at h1
  obtain ⟨hx, ⟨e, -⟩ | ⟨g', cap', cur, e, -, hh, hcp, -, hs, ht⟩⟩ := h.own
  · simp at e
  · simp only [Value.slice.injEq, Option.some.injEq, Addr.mk.injEq, and_true] at e
    obtain ⟨rfl, -, -⟩ := e
    rw [cell_of_heap hh, ← Array.getElem?_toList]
    rw [← ht, List.getElem?_take] at h1
    split at h1
    · exact h1.symm
    · simp at h1
theorem RowT.some' {w : World} {lo hi : Nat} {a : Option Addr} {n cap : Nat} {T : List El3} (h : RowT w lo hi (.slice a n cap) T) (hl : 0 < T.length) : ∃ g, a = some ⟨g, 0, none⟩ ∧ lo ≤ g ∧ g < hi := by
  obtain ⟨hx, ⟨e, hz⟩ | ⟨g, cap', cur, e, hg, -⟩⟩ := h.own
  · omega
  · simp only [Value.slice.injEq] at e
    exact ⟨g, e.1, hg, h.hv g (by rw [e.1]; rfl)⟩
theorem flat_sub {α : Type} : ∀ {L M : List (List α)}, L.Sublist M → L.flatten.Sublist M.flatten
  | _, _, .slnil => by simp
  | _, _, .cons a h => by
    rw [List.flatten_cons]
    exact (flat_sub h).trans (List.sublist_append_right _ _)
  | _, _, .cons_cons a h => by
    rw [List.flatten_cons, List.flatten_cons]
    exact List.Sublist.append (List.Sublist.refl _) (flat_sub h)
/-- The elements of a row that is left, some of them in a new row. -/
theorem RowT.sub {w w' : World} {lo hi lo' base hi' : Nat} {v v' : Value} {T T' : List El3} (h : RowT w lo hi v T) (hs : T'.Sublist T) (ho : w'.ownsRow base 31 12 v' T'.length (T'.map (·.2.2)).flatten) (hv' : ∀ b, v'.ownBlock = some b → b < hi') (hk : ∀ b, lo ≤ b → b < hi → v.ownBlock ≠ some b → w'.heap[b]? = w.heap[b]?) (hl : lo' ≤ lo) (hb : lo' ≤ base) (hh : hi ≤ hi') (hn : ∀ b, v'.ownBlock = some b → (lo ≤ b ∧ b < hi) → v.ownBlock = some b) : RowT w' lo' hi' v' T' := by
  have hsub : ((T'.map (·.2.1)).flatten).Sublist ((T.map (·.2.1)).flatten) := flat_sub (hs.map _)
  refine ⟨?_, hv', fun x hx => ?_, hsub.nodup h.nd, fun b hb2 => ?_⟩
  · obtain ⟨q1, q2 | ⟨g, cap, cur, e, hg, r⟩⟩ := ho
    · exact ⟨q1, Or.inl q2⟩
    · exact ⟨q1, Or.inr ⟨g, cap, cur, e, Nat.le_trans hb hg, r⟩⟩
  · refine Sh.Ow.keep _ _ _ _ (fun b hbx => ?_) (h.el x (hs.subset hx))
    have := h.rg b (List.mem_flatten.2 ⟨x.2.1, List.mem_map.2 ⟨x, hs.subset hx, rfl⟩, hbx⟩)
    exact hk b this.1 this.2.1 this.2.2
  · have := h.rg b (hsub.subset hb2)
    exact ⟨by omega, by omega, fun e => this.2.2 (hn b e ⟨this.1, this.2.1⟩)⟩
theorem lst12 {c : List Value} (h : c.length = 12) : ∃ e0 e1 e2 e3 e4 e5 e6 e7 e8 e9 e10 e11, c = [e0, e1, e2, e3, e4, e5, e6, e7, e8, e9, e10, e11] := by
  match c, h with
  | [e0, e1, e2, e3, e4, e5, e6, e7, e8, e9, e10, e11], _ => exact ⟨e0, e1, e2, e3, e4, e5, e6, e7, e8, e9, e10, e11, rfl⟩
theorem ow_path {w : World} {bs : List Nat} {x : DSegm} {cs : List Value} (h : shSegm.Ow w bs x cs) : cs[0]? = some (.int .i64 x.1) := seg_path (Sh.Ow.rd (Nat.le_refl _) _ _ _ _ h)
theorem ow_one {w : World} {bs : List Nat} {x : DSegm} {cs : List Value} (h : shSegm.Ow w bs x cs) : ∀ u ∈ cs, u.oneCell' = true := rd_one _ _ _ (Sh.Ow.rd (Nat.le_refl _) _ _ _ _ h)
end Go.Proofs.Ytlfncadngcjdjaa
