/- Blocks and their types; a box that is as it was; no condition. -/
import Derived.Test.YtebgibjokljlbaaRows
import Derived.Deep.RegionHeld3
import Derived.Deep.DeepCutAuto
import Derived.Deep.DeepMust
import Derived.Deep.MidRow
import Derived.Maps.AppendAt
import Derived.Lib.AppendZeros
import Derived.Lib.AppendZerosOnto
import Derived.Test.YtebgibjokljlbaaK01
import Derived.Test.YtebgibjokljlbaaK02
import Derived.Test.YtebgibjokljlbaaK03
import Derived.Test.YtebgibjokljlbaaK10
import Derived.Test.YtebgibjokljlbaaK17
import Derived.Test.YtebgibjokljlbaaK20
import Derived.Test.YtebgibjokljlbaaK42
import Derived.Test.YtebgibjokljlbaaK43
import Derived.Test.YtebgibjokljlbaaK55
import Derived.Test.YtebgibjokljlbaaK56
import Derived.Test.YtebgibjokljlbaaK57
import Derived.Test.YtebgibjokljlbaaK64
import Derived.Test.YtebgibjokljlbaaK66
import Derived.Test.YtebgibjokljlbaaK67
import Derived.Test.YtebgibjokljlbaaK93
namespace Go.Proofs.Ytebgibjokljlbaa
open Go.RowKit
set_option linter.unusedVariables false
set_option maxRecDepth 8000
theorem sets_tyN {g : Nat} {t : TypeId} : ∀ (vs : List Value) (w : World) (k : Nat), (∃ cur, w.heap[g]? = some (.cells cur t (0, 0))) → ∃ cur, (w.setCells g k vs).heap[g]? = some (.cells cur t (0, 0))
  | [], _, _, h => h
  | v :: vs, w, k, ⟨cur, h⟩ => sets_tyN vs (w.setCell ⟨g, k, none⟩ v) (k + 1) ⟨_, heap_set h⟩
theorem al_tyN (W : World) (A : Array Value) (t : TypeId) (vs : List Value) : ∃ cur, ((W.alloc (.cells A t)).setCells W.heap.size 0 vs).heap[W.heap.size]? = some (.cells cur t (0, 0)) := sets_tyN vs _ 0 ⟨A, al_at W _⟩
/-- A box is as it was, and all below a place. -/
structure SB1 (wr : World) (lo p : Nat) (Q : Array Value) (w' : World) : Prop where
  bl : Below lo wr w'
  sz : wr.heap.size ≤ w'.heap.size
  k0 : ∀ o, w'.cell? ⟨p, o, none⟩ = Q[o]?
theorem SB1.below {wr wc wn : World} {lo p : Nat} {Q : Array Value} (h : SB1 wr lo p Q wc) (hb : Below wc.heap.size wc wn) (h0 : p < wr.heap.size) (h1 : lo ≤ wr.heap.size) : SB1 wr lo p Q wn :=
  ⟨h.bl.trans (hb.mono (Nat.le_trans h1 h.sz)), Nat.le_trans h.sz hb.size, bx_below h.k0 (Nat.lt_of_lt_of_le h0 h.sz) hb⟩
theorem SB1.drew {wr wc : World} {lo p : Nat} {Q : Array Value} (h : SB1 wr lo p Q wc) : SB1 wr lo p Q wc.drew := ⟨h.bl.drew, h.sz, h.k0⟩
theorem SB1.alloc {wr wc : World} {lo p : Nat} {Q : Array Value} (h : SB1 wr lo p Q wc) (o : Obj) (h0 : p < wr.heap.size) (h1 : lo ≤ wr.heap.size) : SB1 wr lo p Q (wc.alloc o) := h.below ((Below.refl _ _).alloc (Nat.le_refl _) _) h0 h1
theorem ty_frz {w : World} {p : Nat} {t : TypeId} (h : ∃ cur, w.heap[p]? = some (.cells cur t (0, 0))) : ∀ o, w.frozen? ⟨p, o, none⟩ = false := fun o => by obtain ⟨cur, h⟩ := h; simp [World.frozen?, h]
theorem ty_below {w w' : World} {p : Nat} {t : TypeId} (h : ∃ cur, w.heap[p]? = some (.cells cur t (0, 0))) (hb : w'.heap[p]? = w.heap[p]?) : ∃ cur, w'.heap[p]? = some (.cells cur t (0, 0)) := by obtain ⟨cur, h⟩ := h; exact ⟨cur, hb.trans h⟩
theorem ty_ne {w : World} {lo hi p : Nat} {l : List DSegm} {v : Value} (h : Own w lo hi shSegms l [v]) (ht : ∃ cur, w.heap[p]? = some (.cells cur 44 (0, 0))) : v.ownBlock ≠ some p := fun e => by
  obtain ⟨c, h1⟩ := Own.bty h e
  obtain ⟨c', h2⟩ := ht
  rw [h1] at h2
  simp at h2
theorem own_setp {w : World} {lo hi p k : Nat} {v : Value} {l : List DSegm} {cs : List Value} (h : Own w lo hi shSegms l cs) (ht : ∃ cur, w.heap[p]? = some (.cells cur 44 (0, 0))) : Own (w.setCell ⟨p, k, none⟩ v) lo hi shSegms l cs := by
  obtain ⟨c, h1⟩ := ht
  exact Own.off h h1 (by decide) (fun b _ _ hne => Below.heap_setCell _ _ _ _ (by dsimp only; exact hne))
theorem own_some {w : World} {lo hi : Nat} {l : List DSegm} {a : Option Addr} {n c : Nat} (h : Own w lo hi shSegms l [.slice a n c]) (hl : 0 < l.length) : ∃ g, a = some ⟨g, 0, none⟩ := by
  obtain ⟨bs, h1, -⟩ := h
  rcases h1 with ⟨_, _, e⟩ | ⟨g, cap, cur, F, e1, -⟩
  · rw [e] at hl; simp at hl
  · simp only [List.cons.injEq, Value.slice.injEq, and_true] at e1
    exact ⟨g, e1.1⟩
end Go.Proofs.Ytebgibjokljlbaa

/- A row of segments of the call's own, element by element with its blocks and cells: taken apart and put together; no condition. -/
namespace Go.Proofs.Ytebgibjokljlbaa
open Go.RowKit
set_option linter.unusedVariables false
set_option maxRecDepth 8000
abbrev El3 : Type := DSegm × List Nat × List Value
structure RowT (w : World) (lo hi : Nat) (v : Value) (T : List El3) : Prop where
  own : w.ownsRow lo 48 12 v T.length (T.map (·.2.2)).flatten
  hv : ∀ b, v.ownBlock = some b → b < hi
  el : ∀ x ∈ T, shSegm.Ow w x.2.1 x.1 x.2.2
  nd : (T.map (·.2.1)).flatten.Nodup
  rg : ∀ b ∈ (T.map (·.2.1)).flatten, lo ≤ b ∧ b < hi ∧ v.ownBlock ≠ some b
theorem chunk_flat : ∀ (L : List (List Value)) (i : Nat) (h : i < L.length), (∀ c ∈ L, c.length = 12) → chunk L.flatten 12 i = L[i]
  | [], i, h, _ => by simp at h
  | c :: r, 0, h, hc => by
    have := hc c (by simp)
    simp [chunk, this]
  | c :: r, i + 1, h, hc => by
    have h1 := hc c (by simp)
    have ih := chunk_flat r i (by simpa using h) (fun d hd => hc d (List.mem_cons_of_mem _ hd))
    rw [List.getElem_cons_succ, ← ih]
    unfold chunk
    rw [List.flatten_cons, List.drop_append, List.drop_of_length_le (by omega), List.nil_append, h1, show (i + 1) * 12 - 12 = i * 12 by omega]
theorem flat_chunk (xs : List Value) : ∀ (n : Nat), ((List.range n).map fun i => chunk xs 12 i).flatten = xs.take (n * 12)
  | 0 => by simp
  | n + 1 => by
    rw [List.range_succ, List.map_append, List.flatten_append, flat_chunk xs n]
    simp only [List.map_cons, List.map_nil, List.flatten_cons, List.flatten_nil, List.append_nil]
    unfold chunk
    rw [Nat.succ_mul, ← List.take_add]
theorem Own.rowT {w : World} {lo hi : Nat} {l : List DSegm} {v : Value} (h : Own w lo hi shSegms l [v]) : ∃ T : List El3, T.map (·.1) = l ∧ RowT w lo hi v T := by
  obtain ⟨v', xs, F, e1, ho, hF, hnd, hb, hel, hv⟩ := h.row_to
  simp only [List.cons.injEq, and_true] at e1
  subst e1
  have hx : xs.length = l.length * 12 := ho.1
  refine ⟨(List.range l.length).map fun i => (l.getD i zSg, F.getD i [], chunk xs 12 i), ?_, ?_, hv, ?_, ?_, ?_⟩
  · rw [List.map_map]
    apply List.ext_getElem (by simp)
    intro i h1 h2
    simp [List.getD_eq_getElem?_getD, h2]
  · rw [List.length_map, List.length_range, List.map_map]
    have : ((List.range l.length).map ((fun x : El3 => x.2.2) ∘ fun i => (l.getD i zSg, F.getD i [], chunk xs 12 i))).flatten = xs := by
      have h := flat_chunk xs l.length
      rw [List.take_of_length_le (by omega)] at h
      exact h
    rw [this]; exact ho
  · intro x hx
    obtain ⟨i, hi, rfl⟩ := List.mem_map.1 hx
    rw [List.mem_range] at hi
    have h := hel i hi
    have e : l.getD i zSg = l[i] := by rw [List.getD_eq_getElem?_getD, List.getElem?_eq_getElem hi]; rfl
    rw [e]
    exact h
  · rw [List.map_map]
    have : (List.range l.length).map ((fun x : El3 => x.2.1) ∘ fun i => (l.getD i zSg, F.getD i [], chunk xs 12 i)) = F := by
      apply List.ext_getElem (by simp [hF])
      intro i h1 h2
      simp [List.getD_eq_getElem?_getD, h2]
    rw [this]; exact hnd
  · rw [List.map_map]
    have : (List.range l.length).map ((fun x : El3 => x.2.1) ∘ fun i => (l.getD i zSg, F.getD i [], chunk xs 12 i)) = F := by
      apply List.ext_getElem (by simp [hF])
      intro i h1 h2
      simp [List.getD_eq_getElem?_getD, h2]
    rw [this]; exact hb
theorem RowT.len {w : World} {lo hi : Nat} {v : Value} {T : List El3} (h : RowT w lo hi v T) : ∀ c ∈ T.map (·.2.2), c.length = 12 := fun c hc => by
  obtain ⟨x, hx, rfl⟩ := List.mem_map.1 hc
  exact Sh.Ow.len _ _ _ _ (h.el x hx)
theorem RowT.to {w : World} {lo hi : Nat} {v : Value} {T : List El3} (h : RowT w lo hi v T) : Own w lo hi shSegms (T.map (·.1)) [v] := by
  refine Own.row_of (e := shSegm) (xs := (T.map (·.2.2)).flatten) (by rw [List.length_map]; exact h.own) h.hv (T.map (·.2.1)) (by simp) h.nd h.rg fun i hi => ?_
  have hi2 : i < T.length := by simpa using hi
  have e1 : (T.map (·.2.1)).getD i [] = T[i].2.1 := by rw [List.getD_eq_getElem?_getD, List.getElem?_eq_getElem (by simpa using hi2)]; simp
  have e2 : chunk (T.map (·.2.2)).flatten shSegm.sz i = T[i].2.2 := by
    have := chunk_flat (T.map (·.2.2)) i (by simpa using hi2) h.len
    rw [List.getElem_map] at this
    exact this
  rw [e1, e2, List.getElem_map]
  exact h.el _ (List.getElem_mem hi2)
theorem RowT.range {w : World} {lo hi : Nat} {g n cap : Nat} {T : List El3} (h : RowT w lo hi (.slice (some ⟨g, 0, none⟩) n cap) T) {k : Nat} (hk : k < T.length) : w.rangeAt g (k * 12) T[k].2.2 := fun j u hj => by
  have hl : T[k].2.2.length = 12 := h.len _ (List.mem_map.2 ⟨_, List.getElem_mem hk, rfl⟩)
  have hj12 : j < 12 := by have := (List.getElem?_eq_some_iff.1 hj).1; omega
  have hc := chunk_flat (T.map (·.2.2)) k (by simpa using hk) h.len
  rw [List.getElem_map] at hc
  have h1 := chunk_get (xs := (T.map (·.2.2)).flatten) (sz := 12) (i := k) hj12
  rw [hc, hj] at h1
  obtain ⟨hx, ⟨e, -⟩ | ⟨g', cap', cur, e, -, hh, hcp, -, hs, ht⟩⟩ := h.own
  · simp at e
  · simp only [Value.slice.injEq, Option.some.injEq, Addr.mk.injEq, and_true] at e
    obtain ⟨rfl, -, -⟩ := e
    rw [cell_of_heap hh, ← Array.getElem?_toList]
    rw [← ht, List.getElem?_take] at h1
    split at h1
    · exact h1.symm
    · simp at h1
theorem RowT.some' {w : World} {lo hi : Nat} {a : Option Addr} {n cap : Nat} {T : List El3} (h : RowT w lo hi (.slice a n cap) T) (hl : 0 < T.length) : ∃ g, a = some ⟨g, 0, none⟩ ∧ lo ≤ g ∧ g < hi := by
  obtain ⟨hx, ⟨e, hz⟩ | ⟨g, cap', cur, e, hg, -⟩⟩ := h.own
  · omega
  · simp only [Value.slice.injEq] at e
    exact ⟨g, e.1, hg, h.hv g (by rw [e.1]; rfl)⟩
theorem flat_sub {α : Type} : ∀ {L M : List (List α)}, L.Sublist M → L.flatten.Sublist M.flatten
  | _, _, .slnil => by simp
  | _, _, .cons a h => by
    rw [List.flatten_cons]
    exact (flat_sub h).trans (List.sublist_append_right _ _)
  | _, _, .cons_cons a h => by
    rw [List.flatten_cons, List.flatten_cons]
    exact List.Sublist.append (List.Sublist.refl _) (flat_sub h)
/-- The elements of a row that is left, some of them in a new row. -/
theorem RowT.sub {w w' : World} {lo hi lo' base hi' : Nat} {v v' : Value} {T T' : List El3} (h : RowT w lo hi v T) (hs : T'.Sublist T) (ho : w'.ownsRow base 48 12 v' T'.length (T'.map (·.2.2)).flatten) (hv' : ∀ b, v'.ownBlock = some b → b < hi') (hk : ∀ b, lo ≤ b → b < hi → v.ownBlock ≠ some b → w'.heap[b]? = w.heap[b]?) (hl : lo' ≤ lo) (hb : lo' ≤ base) (hh : hi ≤ hi') (hn : ∀ b, v'.ownBlock = some b → (lo ≤ b ∧ b < hi) → v.ownBlock = some b) : RowT w' lo' hi' v' T' := by
  have hsub : ((T'.map (·.2.1)).flatten).Sublist ((T.map (·.2.1)).flatten) := flat_sub (hs.map _)
  refine ⟨?_, hv', fun x hx => ?_, hsub.nodup h.nd, fun b hb2 => ?_⟩
  · obtain ⟨q1, q2 | ⟨g, cap, cur, e, hg, r⟩⟩ := ho
    · exact ⟨q1, Or.inl q2⟩
    · exact ⟨q1, Or.inr ⟨g, cap, cur, e, Nat.le_trans hb hg, r⟩⟩
  · refine Sh.Ow.keep _ _ _ _ (fun b hbx => ?_) (h.el x (hs.subset hx))
    have := h.rg b (List.mem_flatten.2 ⟨x.2.1, List.mem_map.2 ⟨x, hs.subset hx, rfl⟩, hbx⟩)
    exact hk b this.1 this.2.1 this.2.2
  · have := h.rg b (hsub.subset hb2)
    exact ⟨by omega, by omega, fun e => this.2.2 (hn b e ⟨this.1, this.2.1⟩)⟩
theorem lst12 {c : List Value} (h : c.length = 12) : ∃ e0 e1 e2 e3 e4 e5 e6 e7 e8 e9 e10 e11, c = [e0, e1, e2, e3, e4, e5, e6, e7, e8, e9, e10, e11] := by
  match c, h with
  | [e0, e1, e2, e3, e4, e5, e6, e7, e8, e9, e10, e11], _ => exact ⟨e0, e1, e2, e3, e4, e5, e6, e7, e8, e9, e10, e11, rfl⟩
theorem ow_path {w : World} {bs : List Nat} {x : DSegm} {cs : List Value} (h : shSegm.Ow w bs x cs) : cs[0]? = some (.int .i64 x.1) := seg_path (Sh.Ow.rd (Nat.le_refl _) _ _ _ _ h)
theorem ow_one {w : World} {bs : List Nat} {x : DSegm} {cs : List Value} (h : shSegm.Ow w bs x cs) : ∀ u ∈ cs, u.oneCell' = true := rd_one _ _ _ (Sh.Ow.rd (Nat.le_refl _) _ _ _ _ h)
end Go.Proofs.Ytebgibjokljlbaa

/- Two rows of segments put together by the library (slices.Concat): what is read of it is the one row and then the other; nothing that was in memory turns; the condition is that there are at most a few million. -/
namespace Go.Proofs.Ytebgibjokljlbaa
open Go.RowKit
set_option linter.unusedVariables false
set_option maxRecDepth 8000

/-- All cells of a row that is read. -/
theorem rd_news {w : World} {B : Nat} {t : TypeId} {e : Sh} {l : List e.El} {a : Option Addr} {n cap : Nat} (h : (Sh.row t e).Rd w B l [.slice a n cap]) :
    n = l.length ∧ (a = none → n = 0 ∧ cap = 0) ∧ ∃ news : List Value, news.length = n * e.sz ∧ (∀ ad, a = some ad → ∀ j u, news[j]? = some u → w.cell? (ad.add j) = some u) ∧ (∀ u ∈ news, u.oneCell' = true) ∧ ∀ i (h : i < l.length), e.Rd w B l[i] (chunk news e.sz i) := by
  obtain ⟨a', cap', h1, h2, h3, b, off, h4, h5⟩ := h
  simp only [List.cons.injEq, Value.slice.injEq, and_true] at h1
  obtain ⟨rfl, rfl, rfl⟩ := h1
  refine ⟨rfl, fun ha => ⟨by have := h3 ha; omega, h3 ha⟩, ?_⟩
  have key : ∀ k, k ≤ l.length → ∃ news : List Value, news.length = k * e.sz ∧ (∀ j u, news[j]? = some u → w.cell? ⟨b, off + j, none⟩ = some u) ∧ (∀ u ∈ news, u.oneCell' = true) ∧ ∀ i (hi : i < k) (h : i < l.length), e.Rd w B l[i] (chunk news e.sz i) := by
    intro k
    induction k with
    | zero => intro _; exact ⟨[], by simp, by simp, by simp, fun i hi => by omega⟩
    | succ k ih =>
      intro hk
      obtain ⟨news, g1, g2, g3, g4⟩ := ih (by omega)
      obtain ⟨cs, c1, c2, c3⟩ := h5 k (by omega)
      refine ⟨news ++ cs, by rw [List.length_append, g1, c1, Nat.succ_mul], fun j u hj => ?_, fun u hu => ?_, fun i hi h => ?_⟩
      · by_cases hlt : j < news.length
        · rw [List.getElem?_append_left hlt] at hj; exact g2 j u hj
        · rw [List.getElem?_append_right (by omega)] at hj
          have hj2 : j - news.length < e.sz := by
            have := (List.getElem?_eq_some_iff.1 hj).1; omega
          have := c2 (j - news.length) hj2
          rw [hj, g1, show off + k * e.sz + (j - k * e.sz) = off + j by omega] at this
          exact this
      · rcases List.mem_append.1 hu with hu | hu
        · exact g3 u hu
        · exact rd_one _ _ _ c3 u hu
      · by_cases hik : i < k
        · rw [chunk_app_lt g1 hik]; exact g4 i hik h
        · obtain rfl : i = k := by omega
          rw [chunk_app_eq g1 c1]; exact c3
  obtain ⟨news, g1, g2, g3, g4⟩ := key l.length (Nat.le_refl _)
  refine ⟨news, g1, fun ad ha j u hj => ?_, g3, fun i hi => g4 i hi hi⟩
  have hl : l ≠ [] := by
    intro e; subst e
    simp at g1; subst g1; simp at hj
  obtain ⟨q1, -⟩ := h4 hl
  rw [q1] at ha
  simp only [Option.some.injEq] at ha
  subst ha
  rw [add_none]; exact g2 j u hj
/-- A row of the call's own is read as what its elements are read as. -/
theorem rd_own {w : World} {base B : Nat} {t : TypeId} {e : Sh} {l : List e.El} {v : Value} {xs : List Value} (ho : w.ownsRow base t e.sz v l.length xs) (hv : ∀ b, v.ownBlock = some b → b < B) (hel : ∀ i (h : i < l.length), e.Rd w B l[i] (chunk xs e.sz i)) : (Sh.row t e).Rd w B l [v] := by
  obtain ⟨hx, ⟨rfl, hz⟩ | ⟨g, cap, cur, rfl, hg, hh, hc, hm, hs, ht⟩⟩ := ho
  · have : l = [] := List.length_eq_zero_iff.1 hz
    subst this
    exact ⟨none, 0, rfl, ⟨Nat.le_refl _, by decide⟩, fun _ => rfl, 0, 0, fun h => absurd rfl h, fun i h => by simp at h⟩
  · refine ⟨_, cap, rfl, ⟨hc, hm⟩, fun h => by simp at h, g, 0, fun _ => ⟨rfl, hv g rfl⟩, fun i hi => ⟨chunk xs e.sz i, chunk_len hx hi, fun j hj => ?_, hel i hi⟩⟩
    rw [chunk_get hj, Nat.zero_add, cell_of_heap hh, ← ht, List.getElem?_take, if_pos, Array.getElem?_toList]
    have : (i + 1) * e.sz ≤ l.length * e.sz := Nat.mul_le_mul_right _ hi
    rw [Nat.succ_mul] at this
    omega
theorem ownsRow_below {w w' : World} {base : Nat} {t : TypeId} {size : Nat} {v : Value} {n : Nat} {xs : List Value} (h : w.ownsRow base t size v n xs) (hk : ∀ b, v.ownBlock = some b → w'.heap[b]? = w.heap[b]?) : w'.ownsRow base t size v n xs := by
  obtain ⟨hx, ⟨rfl, hz⟩ | ⟨g, cap, cur, rfl, hg, hh, r⟩⟩ := h
  · exact ⟨hx, Or.inl ⟨rfl, hz⟩⟩
  · exact ⟨hx, Or.inr ⟨g, cap, cur, rfl, hg, (hk g rfl).trans hh, r⟩⟩

theorem ownsRow_form {w : World} {base : Nat} {t : TypeId} {size : Nat} {v : Value} {n : Nat} {xs : List Value} (h : w.ownsRow base t size v n xs) : ∃ a c, v = .slice a n c := by
  rcases h.2 with ⟨rfl, q⟩ | ⟨g, cp, cu, rfl, -⟩
  · exact ⟨none, 0, by rw [q]⟩
  · exact ⟨_, _, rfl⟩
/-- A row appended to a row of the call's own, cell by cell. -/
theorem app_row {ops : Array Oper} {rest : List Oper} {o : Oper} {a : Act} {Q : Exit → Act → World → Prop} (w : World) (hgd : o.guard = none) (s x : Operand)
    (ho : o.op = .call { callee := .builtin .append, args := #[s, x], argTypes := #[41, 41] }) (base : Nat) (v : Value) (n : Nat) (xs : List Value) (hs : a.eval s = v) (hown : w.ownsRow base 48 12 v n xs)
    (ad : Option Addr) (m c : Nat) (news : List Value) (hx : a.eval x = .slice ad m c) (hnil : ad = none → m = 0 ∧ c = 0) (hl : news.length = m * 12) (hnews : ∀ q, ad = some q → ∀ j u, news[j]? = some u → w.cell? (q.add j) = some u) (h1 : ∀ u ∈ news, u.oneCell' = true)
    (hn : n + m ≤ 8388608) (hb : base ≤ w.heap.size)
    (h : ∀ va vc w', w'.ownsRow base 48 12 (.slice va (n + m) vc) (n + m) (xs ++ news) → Below base w w' → w.grownBy w' v.ownBlock → wpList Try.prog ops Q rest (a.put o.dst (.slice va (n + m) vc)) w') :
    wpList Try.prog ops Q (o :: rest) a w := by
  obtain ⟨i0, hi, hz0, hz1, hz2⟩ := info_parts info_SZ
  cases ad with
  | none =>
    obtain ⟨rfl, rfl⟩ := hnil rfl
    have e : news = [] := List.length_eq_zero_iff.1 (by simpa using hl)
    subst e
    refine wpList_plain hgd fun K hK => ?_
    have hrun := run_append_owned_none (P := Try.prog) w base 41 o.type 48 i0 12 Try.underlying41 hi v n _ hown
    unfold Oper.wp execOp
    simp only [ho, resolve, invoke, builtin, Sem.run_bind, Sem.run_pure, Result.andThen_ok, List.map_toArray, List.map_cons, List.map_nil, hs, hx, hrun]
    obtain ⟨va, vc, e⟩ := ownsRow_form hown
    subst e
    exact hK _ _ (h va vc w (by rw [List.append_nil]; exact hown) (Below.refl _ _) (World.grownBy.refl _ _))
  | some ad =>
    refine wpList_append_own_at _ hgd s x 41 ho base 48 i0 _ 12 96 Try.underlying41 hi hz0 hz1 hz2 rfl (by decide) v n xs hs hown ad m c news hx hl (hnews ad rfl) h1 (by unfold maxLen; omega) (by omega) hb ?_
    intro v' w' q1 q2 _ _
    obtain ⟨va, vc, e⟩ := ownsRow_form q1
    subst e
    exact h va vc w' q1 ((Below.refl _ _).grown q2 hb (fun k hk => (hown.lt k hk).1)) q2

set_option maxHeartbeats 2000000 in
theorem iGrow0 (m : Nat) (hm : m ≤ 8388608) (w : World) :
    Calls Try.prog 104 #[.slice none 0 0, .int .i64 m] w fun e w' => ∃ v, e = .returned v ∧ w'.ownsRow w.heap.size 48 12 v 0 [] ∧ (∃ a c, v = .slice a 0 c) ∧ Below w.heap.size w w' := by
  by_cases h0 : m = 0
  · subst h0
    go_enter Try.func104, Try.ntmps104
    go_wp2
    go_ret
    exact ⟨_, rfl, ⟨rfl, Or.inl ⟨rfl, rfl⟩⟩, ⟨_, _, rfl⟩, Below.refl _ _⟩
  · obtain ⟨i0, hi, hz0, hz1, hz2⟩ := info_parts info_SZ
    have h1 : ¬ ((m : Int) < 0) := by omega
    have h4 : (m : Int) > 0 := by omega
    obtain ⟨G, hG⟩ : ∃ G, G = grownCap w m 0 48 := ⟨_, rfl⟩
    have hGn : m ≤ G := by rw [hG]; exact grownCap_ge w _ _ _
    have hG63 : G ≤ 9223372036854775807 := by
      have := grownCap_le_maxLen w m 0 48 (by unfold maxLen; omega)
      rw [← hG] at this; unfold maxLen at this; omega
    have hold : (Builtin.firstCells i0.size 0 (.slice none 0 0)).run Try.prog w.drew = .ok ([] : List Value).toArray w.drew := run_firstCells_none w.drew i0.size 0 0 0
    have hrz : ∀ ty, (Builtin.append_ #[41, 3] ty #[.slice none 0 0, .int .i64 (m : Int)]).run Try.prog w =
        .ok (.slice (some ⟨w.heap.size, 0, none⟩) m G) (w.drew.alloc (.cells (([] : List Value).toArray ++ Builtin.zeroCells (Value.agg #[.int .i64 0, .int .i64 0, .bool false, .bool false, .bool false, .int .i64 0, .int .i64 0, .int .i64 0, .int .i64 0, .int .i64 0, .int .i64 0, .slice none 0 0]).cells m ++ Builtin.zeroCells (Value.agg #[.int .i64 0, .int .i64 0, .bool false, .bool false, .bool false, .int .i64 0, .int .i64 0, .int .i64 0, .int .i64 0, .int .i64 0, .int .i64 0, .slice none 0 0]).cells (G - m)) 48)) := fun ty => by
      have h := Lib.run_append_grow_zeros (P := Try.prog) w 41 3 ty 48 i0 _ .i64 .i64 Try.underlying41 Try.underlying3 hi hz0 none 0 0 [] hold m (by omega) (by rw [hz1]; decide) (by omega) (by omega) (by rw [hz2]; omega) (by rw [Nat.zero_add, hz2]; exact growslice_fits (by omega) (by omega))
      rw [Nat.zero_add, ← hG] at h
      exact h
    have hsz : (([] : List Value).toArray ++ Builtin.zeroCells (Value.agg #[.int .i64 0, .int .i64 0, .bool false, .bool false, .bool false, .int .i64 0, .int .i64 0, .int .i64 0, .int .i64 0, .int .i64 0, .int .i64 0, .slice none 0 0]).cells m ++ Builtin.zeroCells (Value.agg #[.int .i64 0, .int .i64 0, .bool false, .bool false, .bool false, .int .i64 0, .int .i64 0, .int .i64 0, .int .i64 0, .int .i64 0, .int .i64 0, .slice none 0 0]).cells (G - m)).size = G * 12 := by
      simp only [Array.size_append, List.size_toArray, size_zeroCells, List.length_nil]
      show 0 + m * 12 + (G - m) * 12 = G * 12
      omega
    generalize ([] : List Value).toArray ++ Builtin.zeroCells (Value.agg #[.int .i64 0, .int .i64 0, .bool false, .bool false, .bool false, .int .i64 0, .int .i64 0, .int .i64 0, .int .i64 0, .int .i64 0, .int .i64 0, .slice none 0 0]).cells m ++ Builtin.zeroCells (Value.agg #[.int .i64 0, .int .i64 0, .bool false, .bool false, .bool false, .int .i64 0, .int .i64 0, .int .i64 0, .int .i64 0, .int .i64 0, .int .i64 0, .slice none 0 0]).cells (G - m) = ZZ at hrz hsz
    have HO : Hid ((w.drew.alloc (.cells ZZ 48)).ownsRow w.heap.size 48 12 (.slice (some ⟨w.heap.size, 0, none⟩) 0 G) 0 []) := World.ownsRow_made w.drew ZZ G (Nat.le_refl _) (by unfold maxLen; omega) hsz
    have HB : Hid (Below w.heap.size w (w.drew.alloc (.cells ZZ 48))) := ((Below.refl _ _).drew).alloc (Nat.le_refl _) _
    clear hold hG hsz hi hz0 hz1 hz2
    go_enter Try.func104, Try.ntmps104
    go_wp2_with (at_builtin; refine Lib.wpList_append_run _ rfl _ _ _ _ rfl _ _ rfl rfl _ _ (hrz _) ?_)
    go_ret
    exact ⟨_, rfl, HO.out, ⟨_, _, rfl⟩, HB.out⟩

set_option maxHeartbeats 4000000 in
theorem iConcat (l1 l2 : List DSegm) (v1 v2 : Value) (s : Nat) (w : World) (B : Nat) (h1 : shSegms.Rd w B l1 [v1]) (h2 : shSegms.Rd w B l2 [v2]) (hB : B ≤ w.heap.size) (ks : ∀ o, w.cell? ⟨s, o, none⟩ = (#[v1, v2] : Array Value)[o]?) (hs : s < w.heap.size) (hl1 : l1.length ≤ 1048576) (hl2 : l2.length ≤ 1048576) :
    Calls Try.prog 63 #[.slice (some ⟨s, 0, none⟩) 2 2] w fun e w' => ∃ v, e = .returned v ∧ shSegms.Rd w' w'.heap.size (l1 ++ l2) [v] ∧ Below w.heap.size w w' := by
  obtain ⟨a1, c1, ev⟩ := row_form h1
  simp only [List.cons.injEq, and_true] at ev
  subst ev
  obtain ⟨a2, c2, ev⟩ := row_form h2
  simp only [List.cons.injEq, and_true] at ev
  subst ev
  obtain ⟨-, nil1, news1, g1, f1, o1, e1⟩ := rd_news h1
  obtain ⟨-, nil2, news2, g2, f2, o2, e2⟩ := rd_news h2
  have HE : Hid (∀ (W : World) (v : Value), Below w.heap.size w W → W.ownsRow w.heap.size 48 12 v (l1.length + l2.length) ([] ++ news1 ++ news2) → shSegms.Rd W W.heap.size (l1 ++ l2) [v]) := fun W v hW ho => by
    refine rd_own (e := shSegm) (xs := news1 ++ news2) (base := w.heap.size) (by rw [List.length_append]; exact ho) (fun b e => (ho.lt b e).2) fun i hi => ?_
    have g1' : news1.length = l1.length * shSegm.sz := g1
    by_cases hlt : i < l1.length
    · rw [List.getElem_append_left hlt, chunk_app_lt g1' hlt]
      exact Sh.Rd.mono (Nat.le_trans hB hW.size) _ _ _ (Sh.Rd.below (e1 i hlt) hB hW)
    · have hlt2 : i - l1.length < l2.length := by rw [List.length_append] at hi; omega
      rw [List.getElem_append_right (by omega)]
      have hc : chunk (news1 ++ news2) shSegm.sz i = chunk news2 shSegm.sz (i - l1.length) := by
        unfold chunk
        have hge : news1.length ≤ i * shSegm.sz := by rw [g1']; exact Nat.mul_le_mul_right _ (by omega)
        rw [List.drop_append, List.drop_of_length_le hge, List.nil_append, g1', ← Nat.sub_mul]
      rw [hc]
      exact Sh.Rd.mono (Nat.le_trans hB hW.size) _ _ _ (Sh.Rd.below (e2 _ hlt2) hB hW)
  have HF1 : Hid (∀ W, Below w.heap.size w W → ∀ q, a1 = some q → ∀ j u, news1[j]? = some u → W.cell? (q.add j) = some u) := fun W hW q hq j u hu => by
    have hc := f1 q hq j u hu
    exact (hW.cell (p := q.add j) (cell_lt hc)).trans hc
  have HF2 : Hid (∀ W, Below w.heap.size w W → ∀ q, a2 = some q → ∀ j u, news2[j]? = some u → W.cell? (q.add j) = some u) := fun W hW q hq j u hu => by
    have hc := f2 q hq j u hu
    exact (hW.cell (p := q.add j) (cell_lt hc)).trans hc
  have HG1 : Hid (news1.length = l1.length * 12) := g1
  have HG2 : Hid (news2.length = l2.length * 12) := g2
  have HN1 : Hid _ := nil1
  have HN2 : Hid _ := nil2
  have HO1 : Hid _ := o1
  have HO2 : Hid _ := o2
  clear h1 h2 g1 g2 f1 f2 o1 o2 e1 e2 nil1 nil2
  generalize l1.length = n1 at *
  generalize l2.length = n2 at *
  have hs1 : 0 ≤ (n1 : Int) + (n2 : Int) := by omega
  go_enter Try.func63, Try.ntmps63
  go_upto_region 3 with fail
  go_loop [3, 11] (fun q i => ∃ k : Nat, k ≤ 2 ∧ i = .int .i64 k ∧ q = .int .i64 (if k = 0 then 0 else if k = 1 then (n1 : Int) else (n1 : Int) + n2)) (fun _ i => 2 - (intOf i).toNat)
  case atStart => exact ⟨0, by omega, rfl, rfl⟩
  case round =>
    obtain ⟨k, hk, rfl, rfl⟩ := hrel
    rcases (show k = 0 ∨ k = 1 ∨ k = 2 by omega) with rfl | rfl | rfl
    · simp only [if_true]
      go_wp2_with fail
      go_round
      case rel => exact ⟨1, by omega, by go_num, by go_num⟩
      case measure => simp [intOf]
    · simp only [show ¬ ((1 : Nat) = 0) by omega, if_true, if_false]
      go_wp2_with fail
      go_round
      case rel => exact ⟨2, by omega, by go_num, by go_num⟩
      case measure => simp [intOf]
    · simp only [show ¬ ((2 : Nat) = 0) by omega, show ¬ ((2 : Nat) = 1) by omega, if_false]
      go_wp2_with fail
      have hcast : (n1 : Int) + (n2 : Int) = ((n1 + n2 : Nat) : Int) := by omega
      rw [hcast]
      clear hcast
      refine (iGrow0 (n1 + n2) (by omega) _).mono ?_
      rintro e w1 ⟨v, rfl, ho, ⟨va, vc, rfl⟩, hb⟩
      replace ks := bx_below ks hs hb
      have zs : s < w1.heap.size := Nat.lt_of_lt_of_le hs hb.size
      have HB : Hid (Below w.heap.size w w1) := hb
      have HO : Hid (w1.ownsRow w.heap.size 48 12 (.slice va 0 vc) 0 []) := ho
      clear hb ho
      go_upto_region 11 with fail
      go_loopw [6, 27] (fun q i wr => ∃ (k m : Nat) (xs : List Value) (va : Option Addr) (vc : Nat), k ≤ 2 ∧ i = .int .i64 k ∧ q = .slice va m vc ∧ (∀ o, wr.cell? ⟨s, o, none⟩ = (#[.slice a1 n1 c1, .slice a2 n2 c2] : Array Value)[o]?) ∧ Hid (wr.ownsRow w.heap.size 48 12 (.slice va m vc) m xs) ∧ Hid (Below w.heap.size w wr) ∧ Hid (k = 0 → m = 0 ∧ xs = []) ∧ Hid (k = 1 → m = n1 ∧ xs = [] ++ news1) ∧ Hid (k = 2 → m = n1 + n2 ∧ xs = [] ++ news1 ++ news2)) (fun _ i _ => 2 - (intOf i).toNat)
      case atStart => exact ⟨0, 0, [], va, vc, by omega, rfl, rfl, ks, HO, HB, (fun _ => ⟨rfl, rfl⟩ : (0 : Nat) = 0 → _), (fun h => by omega : (0 : Nat) = 1 → _), (fun h => by omega : (0 : Nat) = 2 → _)⟩
      case round =>
        clear ks HO HB
        obtain ⟨k, m, xs, va, vc, hk, rfl, rfl, ks, HO, HB, E0, E1, E2⟩ := hrel
        rcases (show k = 0 ∨ k = 1 ∨ k = 2 by omega) with rfl | rfl | rfl
        · obtain ⟨rfl, rfl⟩ := E0.out rfl
          clear E0 E1 E2
          go_wp2_with (at_builtin; refine app_row _ rfl _ _ rfl w.heap.size _ 0 [] (by rfl) HO.out a1 n1 c1 news1 (by rfl) HN1.out HG1.out (HF1.out _ HB.out) HO1.out (by omega) HB.out.size ?_; intro a3 c3 w3 ho3 hb3 hg3)
          have HB3 : Hid (Below w.heap.size w w3) := HB.out.trans hb3
          have ks3 : ∀ o, w3.cell? ⟨s, o, none⟩ = (#[.slice a1 n1 c1, .slice a2 n2 c2] : Array Value)[o]? := bxC ks hb3 hs
          go_roundw
          case rel => exact ⟨1, n1, _, a3, c3, by omega, by go_num, rfl, ks3, by rw [Nat.zero_add] at ho3; exact ho3, HB3, (fun h => by omega : (1 : Nat) = 0 → _), (fun _ => ⟨rfl, rfl⟩ : (1 : Nat) = 1 → _), (fun h => by omega : (1 : Nat) = 2 → _)⟩
          case measure => simp [intOf]
        · obtain ⟨em, ex⟩ := E1.out rfl
          replace em := em.symm
          subst em
          replace HO : Hid (wr.ownsRow w.heap.size 48 12 (.slice va n1 vc) n1 ([] ++ news1)) := by have h := HO.out; rw [ex] at h; exact h
          clear E0 E1 E2 ex
          go_wp2_with (at_builtin; refine app_row _ rfl _ _ rfl w.heap.size _ n1 ([] ++ news1) (by rfl) HO.out a2 n2 c2 news2 (by rfl) HN2.out HG2.out (HF2.out _ HB.out) HO2.out (by omega) HB.out.size ?_; intro a3 c3 w3 ho3 hb3 hg3)
          have HB3 : Hid (Below w.heap.size w w3) := HB.out.trans hb3
          have ks3 : ∀ o, w3.cell? ⟨s, o, none⟩ = (#[.slice a1 n1 c1, .slice a2 n2 c2] : Array Value)[o]? := bxC ks hb3 hs
          go_roundw
          case rel => exact ⟨2, _, _, a3, c3, by omega, by go_num, rfl, ks3, ho3, HB3, (fun h => by omega : (2 : Nat) = 0 → _), (fun h => by omega : (2 : Nat) = 1 → _), (fun _ => ⟨rfl, rfl⟩ : (2 : Nat) = 2 → _)⟩
          case measure => simp [intOf]
        · obtain ⟨em, ex⟩ := E2.out rfl
          subst em
          replace HO : Hid (wr.ownsRow w.heap.size 48 12 (.slice va (n1 + n2) vc) (n1 + n2) ([] ++ news1 ++ news2)) := by have h := HO.out; rw [ex] at h; exact h
          clear E0 E1 E2 ex
          go_wp2_with fail
          go_ret
          exact ⟨_, rfl, HE.out _ _ HB.out HO.out, HB.out⟩
end Go.Proofs.Ytebgibjokljlbaa

/- What asks for a place in a net, and the program's copy of a net; nothing that was in memory turns; no condition but that there are at most a million parts. Written by mknet7.py. -/
namespace Go.Proofs.Ytebgibjokljlbaa
open Go.RowKit
set_option linter.unusedVariables false
set_option maxRecDepth 8000
def inP (at' : Int) (n : Nat) : Bool := inB9 at' 0 ((n : Int) - 1)
theorem inP_iff (x : Int) (n : Nat) : inP x n = true ↔ 0 ≤ x ∧ x < n := by unfold inP; rw [inB_iff9]; omega
def askF (bag : List DSegm) (dead : List Bool) (at' : Int) : Int := if netF bag dead ≠ 0 then netF bag dead else if inP at' bag.length = true then 0 else 4
theorem iPlaceS (x : Int) (a : Option Addr) (n cap : Nat) (hn : n ≤ 9223372036854775807) (w : World) :
    Calls Try.prog 107 #[.int .i64 x, .slice a n cap] w fun e w' => e = .returned (.bool (inP x n)) ∧ w' = w := by
  by_cases h : 0 ≤ x
  · by_cases h2 : x < n
    · have h2' : decide (x < (n : Int)) = true := by simp [h2]
      rw [(inP_iff x n).2 ⟨h, h2⟩]
      go_enter Try.func107, Try.ntmps107
      go_wp2_with fail
      go_ret
      exact ⟨rfl, rfl⟩
    · have h2' : decide (x < (n : Int)) = false := by simp; omega
      have e : inP x n = false := by cases e : inP x n with | false => rfl | true => have := (inP_iff x n).1 e; omega
      rw [e]
      go_enter Try.func107, Try.ntmps107
      go_wp2_with fail
      go_ret
      exact ⟨rfl, rfl⟩
  · have e : inP x n = false := by cases e : inP x n with | false => rfl | true => have := (inP_iff x n).1 e; omega
    rw [e]
    go_enter Try.func107, Try.ntmps107
    go_wp2_with fail
    go_ret
    exact ⟨rfl, rfl⟩
set_option maxHeartbeats 1000000 in
theorem iPlaceFault (t : TypeId) (bag : List DSegm) (dead : List Bool) (x : Int) (vb vd : Value) (w : World) (B : Nat) (hb : shSegms.Rd w B bag [vb]) (hd : (bls t).Rd w B dead [vd]) (hB : B ≤ w.heap.size) :
    Calls Try.prog 70 #[.agg #[vb, vd], .int .i64 x] w fun e w' => e = .returned (.int .i64 (askF bag dead x)) ∧ Below w.heap.size w w' := by
  have HC : Hid (∀ W, Below w.heap.size w W → Calls Try.prog 23 #[.agg #[vb, vd]] W fun e w' => e = .returned (.int .i64 (netF bag dead)) ∧ Below W.heap.size W w') := fun W hW => iNetFault t bag dead vb vd W B (hb.below hB hW) (hd.below hB hW) (Nat.le_trans hB hW.size)
  obtain ⟨a, cap, ev⟩ := row_form hb
  simp only [List.cons.injEq, and_true] at ev
  subst ev
  obtain ⟨da, dcap, rfl, hdm, -⟩ := rd_bls hd
  have hmx : bag.length ≤ 9223372036854775807 := row_max hb
  obtain ⟨R, hR⟩ : ∃ R, R = askF bag dead x := ⟨_, rfl⟩
  rw [← hR]
  have HR : Hid (R = if netF bag dead ≠ 0 then netF bag dead else if inP x bag.length = true then 0 else 4) := hR
  have HPL : Hid (∀ W, Calls Try.prog 107 #[.int .i64 x, .slice a bag.length cap] W fun e w' => e = .returned (.bool (inP x bag.length)) ∧ w' = W) := fun W => iPlaceS x a _ cap hmx W
  clear hb hd hR hdm hmx
  generalize netF bag dead = F at *
  generalize inP x bag.length = pl at *
  generalize bag.length = n at *
  generalize dead.length = m at *
  go_enter Try.func70, Try.ntmps70
  go_wp2_with fail
  refine (HC.out _ ((Below.refl _ _).alloc (Nat.le_refl _) _)).mono ?_
  rintro e w1 ⟨rfl, hb1⟩
  have k0 := bx_new hb1
  have HB : Hid (Below w.heap.size w w1) := (bl_new hb1).1
  clear hb1 HC
  have hr := HR.out
  by_cases hF : F = 0
  · subst hF
    rw [if_neg (by simp)] at hr
    go_wp2_with fail
    refine (HPL.out _).mono ?_
    rintro e w2 ⟨rfl, hw2⟩
    subst hw2
    cases pl with
    | true =>
      rw [if_pos rfl] at hr
      subst hr
      clear HR
      go_wp2_with fail
      go_ret
      exact ⟨rfl, HB.out⟩
    | false =>
      rw [if_neg (by simp)] at hr
      subst hr
      clear HR
      go_wp2_with fail
      go_ret
      exact ⟨rfl, HB.out⟩
  · rw [if_pos hF] at hr
    have h1 : (F != 0) = true := by simp [hF]
    have h2 : (F == 0) = false := by simp [hF]
    subst hr
    clear HR
    go_wp2_with fail
    go_ret
    exact ⟨rfl, HB.out⟩
set_option maxHeartbeats 2000000 in
theorem iCopyNet (t : TypeId) (bag : List DSegm) (dead : List Bool) (vb vd : Value) (w : World) (B : Nat) (hb : shSegms.Rd w B bag [vb]) (hd : (bls t).Rd w B dead [vd]) (hB : B ≤ w.heap.size) (hF : netF bag dead = 0) :
    Calls Try.prog 71 #[.agg #[vb, vd]] w fun e w' => ∃ N : Array Value, e = .returned (.agg N) ∧ NetP 104 w' w.heap.size bag dead N ∧ Below w.heap.size w w' := by
  obtain ⟨h60, h3, hok⟩ := netF_ok hF
  have HC : Hid (∀ W, Below w.heap.size w W → Calls Try.prog 61 #[.agg (arr3 dead), vb] W fun e w' => ∃ N : Array Value, e = .returned (.agg N) ∧ NetP 104 w' W.heap.size bag dead N ∧ Below W.heap.size W w') := fun W hW => by have h := iCarriedBy dead bag vb W B (hb.below hB hW) (Nat.le_trans hB hW.size) h3 (by omega) (fun x hx => by have := (sgF_ok (hok x hx).1).2.2; omega) (fun x hx => ⟨(sgF_ok (hok x hx).1).1, (sgF_ok (hok x hx).1).2.1⟩); rw [putN_bag hF] at h; exact h
  have HD : Hid (∀ W, Below w.heap.size w W → Calls Try.prog 62 #[vd] W fun e w' => e = .returned (.agg (arr3 dead)) ∧ Below W.heap.size W w') := fun W hW => iDeadOf t dead vd W B (hd.below hB hW) (Nat.le_trans hB hW.size) h3
  obtain ⟨a, cap, ev⟩ := row_form hb
  simp only [List.cons.injEq, and_true] at ev
  subst ev
  obtain ⟨da, dcap, rfl, hdm, -⟩ := rd_bls hd
  rw [h3] at HD ⊢
  clear hb hd hdm hok h60 hF
  have HBN : Hid (∀ (W : World) (lo : Nat) (N : Array Value), NetP 104 W lo bag dead N → N.size = 2 ∧ N.all (·.oneCell') = true) := fun W lo N h => ⟨h.size, h.one⟩
  generalize arr3 dead = D at *
  generalize bag.length = n at *
  have HWA : Hid (Below w.heap.size w ((w.alloc (.cells #[.slice a n cap, .slice da 3 dcap] 44)).alloc (.cells #[.slice none 0 0, .slice none 0 0] 44)) ∧ ((w.alloc (.cells #[.slice a n cap, .slice da 3 dcap] 44)).alloc (.cells #[.slice none 0 0, .slice none 0 0] 44)).heap.size = w.heap.size + 2 ∧ (∀ o, ((w.alloc (.cells #[.slice a n cap, .slice da 3 dcap] 44)).alloc (.cells #[.slice none 0 0, .slice none 0 0] 44)).cell? ⟨w.heap.size, o, none⟩ = (#[.slice a n cap, .slice da 3 dcap] : Array Value)[o]?) ∧ (∀ o, ((w.alloc (.cells #[.slice a n cap, .slice da 3 dcap] 44)).alloc (.cells #[.slice none 0 0, .slice none 0 0] 44)).cell? ⟨w.heap.size + 1, o, none⟩ = (#[.slice none 0 0, .slice none 0 0] : Array Value)[o]?) ∧ (∀ o, ((w.alloc (.cells #[.slice a n cap, .slice da 3 dcap] 44)).alloc (.cells #[.slice none 0 0, .slice none 0 0] 44)).frozen? ⟨w.heap.size + 1, o, none⟩ = false)) := ⟨((Below.refl _ _).alloc (Nat.le_refl _) _).alloc (by simp) _, by simp, fun o => by simp [go_sem], fun o => by simp [go_sem], fun o => by simp [go_sem]⟩
  go_enter Try.func71, Try.ntmps71
  go_upto_region 1 with fail
  generalize hWW : ((w.alloc (.cells #[.slice a n cap, .slice da 3 dcap] 44)).alloc (.cells #[.slice none 0 0, .slice none 0 0] 44)) = W1 at HWA ⊢
  clear hWW
  obtain ⟨hb, hsz, kA, kR, fR⟩ := HWA.out
  have HB : Hid (Below w.heap.size w W1) := hb
  have zA : w.heap.size < W1.heap.size := by omega
  have zR : w.heap.size + 1 < W1.heap.size := by omega
  clear HWA hb hsz
  refine wp_region_noPanic ?_
  refine Goes.start (S := fun w' => Below W1.heap.size W1 w') (z := 6) (by kernel_rfl) ?_
  refine Goes.take (i := 0) (oi := ?oi11) (x := ?vx11) ?ho11 (by kernel_rfl) (by kernel_rfl) (by kernel_rfl) (by kernel_rfl) (fun _ _ _ h => h) (Or.inl ⟨?hw11, ?hy11⟩) (Below.drew (Below.refl _ _)) ?rest11
  case ho11 => (simp only [List.getElem?_toArray, List.getElem?_cons_zero] <;> rfl)
  case hw11 => rfl
  case hy11 => (intro w' hSw; have j0 := bx_below kA zA hSw; go_simp; (try with_reducible rfl))
  case rest11 =>
  (try simp only [Act.put, List.setIfInBounds_toArray, List.set_cons_zero, List.set_cons_succ])
  refine Goes.take (i := 1) (oi := ?oi12) (x := ?vx12) ?ho12 (by kernel_rfl) (by kernel_rfl) (by kernel_rfl) (by kernel_rfl) (fun _ _ _ h => h) (Or.inl ⟨?hw12, ?hy12⟩) (Below.drew (Below.refl _ _)) ?rest12
  case ho12 => (simp only [List.getElem?_toArray, List.getElem?_cons_succ, List.getElem?_cons_zero] <;> rfl)
  case hw12 => rfl
  case hy12 => (intro w' hSw; have j0 := bx_below kA zA hSw; go_simp; (try with_reducible rfl))
  case rest12 =>
  (try simp only [Act.put, List.setIfInBounds_toArray, List.set_cons_zero, List.set_cons_succ])
  refine Goes.take (i := 3) (oi := ?oi13) (x := ?vx13) ?ho13 (by kernel_rfl) (by kernel_rfl) (by kernel_rfl) (by kernel_rfl) (fun _ _ _ h => h) (Or.inl ⟨?hw13, ?hy13⟩) (Below.drew (Below.refl _ _)) ?rest13
  case ho13 => (simp only [List.getElem?_toArray, List.getElem?_cons_succ, List.getElem?_cons_zero] <;> rfl)
  case hw13 => rfl
  case hy13 => (intro w' hSw; have j0 := bx_below kA zA hSw; go_simp; (try with_reducible rfl))
  case rest13 =>
  (try simp only [Act.put, List.setIfInBounds_toArray, List.set_cons_zero, List.set_cons_succ])
  refine Goes.take (i := 4) (oi := ?oi14) (x := ?vx14) ?ho14 (by kernel_rfl) (by kernel_rfl) (by kernel_rfl) (by kernel_rfl) (fun _ _ _ h => h) (Or.inl ⟨?hw14, ?hy14⟩) (Below.drew (Below.refl _ _)) ?rest14
  case ho14 => (simp only [List.getElem?_toArray, List.getElem?_cons_succ, List.getElem?_cons_zero] <;> rfl)
  case hw14 => rfl
  case hy14 => (intro w' hSw; have j0 := bx_below kA zA hSw; go_simp; (try with_reducible rfl))
  case rest14 =>
  (try simp only [Act.put, List.setIfInBounds_toArray, List.set_cons_zero, List.set_cons_succ])
  refine Goes.all (rs := [2]) (by kernel_rfl) (by simp) ?_
  refine Ups.cons (i := 2) (o := ?oo15) ?ho15 (fun KK hKK => ?stp15) Ups.nil
  case ho15 => (simp only [List.getElem?_toArray, List.getElem?_cons_succ, List.getElem?_cons_zero] <;> rfl)
  case stp15 =>
  go_simp
  go_at_call 62
  refine (HD.out _ (HB.out.trans (Below.drew ((Below.refl _ _).mono HB.out.size)))).mono ?_
  rintro e w2 ⟨rfl, hbq⟩
  replace hbq := (Below.drew (Below.refl W1.heap.size W1)).trans hbq
  have HS15 : Hid (Below W1.heap.size W1 w2) := hbq
  clear hbq
  dsimp only
  refine hKK.out _ _ (Or.inr HS15.out) ?_
  clear hKK KK
  (try simp only [Act.put, List.setIfInBounds_toArray, List.set_cons_zero, List.set_cons_succ])
  refine Goes.all (rs := [5]) (by kernel_rfl) (by simp) ?_
  refine Ups.cons (i := 5) (o := ?oo16) ?ho16 (fun KK hKK => ?stp16) Ups.nil
  case ho16 => (simp only [List.getElem?_toArray, List.getElem?_cons_succ, List.getElem?_cons_zero] <;> rfl)
  case stp16 =>
  go_simp
  go_at_call 61
  refine (HC.out _ (HB.out.trans (HS15.out.mono HB.out.size))).mono ?_
  rintro e w3 ⟨N, rfl, hnp, hbq⟩
  have HBQ : Hid (Below W1.heap.size W1 w3) := HS15.out.trans (hbq.mono HS15.out.size)
  obtain ⟨hNz, hN1⟩ := HBN.out _ _ _ hnp
  have hz3 : W1.heap.size ≤ w2.heap.size := HS15.out.size
  have HNP : Hid (NetP 104 w3 w2.heap.size bag dead N) := hnp
  have HIN : Hid ((Try.prog.info? 44).map (·.size) = some N.size) := by show _ = _; rw [hNz]; exact info_NT
  have HONE : Hid (N.all (·.oneCell') = true) := hN1
  have kR3 := bx_below kR zR HBQ.out
  have fR3 := bxF fR HBQ.out zR
  have HTH : Hid (w3.there (w.heap.size + 1) 0 N.size) := bx_there kR3 fR3 (by rw [hNz]; rfl)
  have HKR : Hid (∀ o, (w3.setCells (w.heap.size + 1) 0 N.toList).cell? ⟨w.heap.size + 1, o, none⟩ = N[o]?) := bx_setCells kR3 (by rw [hNz]; rfl)
  clear hnp hbq hNz hN1 kR3 fR3
  dsimp only
  refine hKK.out _ _ (Or.inr HBQ.out) ?_
  clear hKK KK
  (try simp only [Act.put, List.setIfInBounds_toArray, List.set_cons_zero, List.set_cons_succ])
  refine Goes.all (rs := [6]) (by kernel_rfl) (by simp) ?_
  refine Ups.cons (i := 6) (o := ?oo17) ?ho17 (fun KK hKK => ?stp17) Ups.nil
  case ho17 => (simp only [List.getElem?_toArray, List.getElem?_cons_succ, List.getElem?_cons_zero] <;> rfl)
  case stp17 =>
  rw [if_pos (by rfl)]
  refine wp_store_mid 44 _ _ rfl _ _ N (by rfl) (by rfl) HTH.out HIN.out HONE.out ?_
  refine hKK.out _ _ (Or.inl rfl) ?_
  clear hKK KK
  (try simp only [Act.put])
  refine Goes.done (by kernel_rfl) ?_ _
  refine NoPanic.normal ?_
  go_wp2_with fail
  refine bodyPost_ret (results_box Try.results71 _ _ _ N _ (by rfl) HKR.out Try.underlying44 rfl (by exact HIN.out)) rfl ⟨N, rfl, ?_, ?_⟩
  · exact NetP.keep HNP.out (by omega) (fun b hb => setCells_block (by omega) _ _ _) (by rw [setCells_size])
  · exact setCells_below (by omega) _ _ _ _ (HB.out.trans (HBQ.out.mono HB.out.size))
end Go.Proofs.Ytebgibjokljlbaa

/- Plain facts of what is put into nets; no condition. -/
namespace Go.Proofs.Ytebgibjokljlbaa
open Go.RowKit
set_option linter.unusedVariables false
def firstF : List DSegm → Int
  | [] => 0
  | x :: r => if sgF x ≠ 0 then sgF x else firstF r
theorem firstF_drop {l : List DSegm} {k : Nat} (hk : k < l.length) : firstF (l.drop k) = if sgF l[k] ≠ 0 then sgF l[k] else firstF (l.drop (k + 1)) := by
  rw [List.drop_eq_getElem_cons hk]; rfl
theorem firstF_ok : ∀ {l : List DSegm}, firstF l = 0 → ∀ x ∈ l, sgF x = 0
  | [], _, x, hx => by simp at hx
  | y :: r, h, x, hx => by
    unfold firstF at h
    by_cases h1 : sgF y = 0
    · rw [if_neg (by simp [h1])] at h
      rcases List.mem_cons.1 hx with rfl | hx
      · exact h1
      · exact firstF_ok h x hx
    · rw [if_pos h1] at h; exact absurd h h1
theorem tot_mem {l : List DSegm} {x : DSegm} (h : x ∈ l) : totSegm x ≤ totSegms l := by
  obtain ⟨i, hi, rfl⟩ := List.getElem_of_mem h
  have := fsum_at totSegm hi
  unfold totSegms; omega
theorem totSegms_app (l r : List DSegm) : totSegms (l ++ r) = totSegms l + totSegms r := by
  unfold totSegms fsum
  rw [List.length_append, List.map_append, List.sum_append]; omega
theorem putN_tot {dead : List Bool} : ∀ (l acc : List DSegm), totSegms (putN dead acc l) ≤ totSegms acc + totSegms l
  | [], acc => by show totSegms acc ≤ _; omega
  | x :: r, acc => by
    have h := putN_tot (dead := dead) r (put1 dead acc x)
    have e : putN dead acc (x :: r) = putN dead (put1 dead acc x) r := rfl
    have e2 : totSegms (x :: r) = totSegms [x] + totSegms r := totSegms_app [x] r
    rw [e, e2]
    unfold put1 at h
    split at h
    · rw [totSegms_app] at h; unfold put1; rename_i hc; rw [if_pos hc]; omega
    · unfold put1; rename_i hc; rw [if_neg hc]; omega
def putV (g : DNet) (l : List DSegm) : DNR := if netF g.1 g.2.1 ≠ 0 then badN (netF g.1 g.2.1) else if firstF l ≠ 0 then badN (firstF l) else (0, zSg, (putN g.2.1 g.1 l, g.2.1, ()), ())
theorem putV_tot {g : DNet} {l : List DSegm} (h : totNet g + totSegms l ≤ 1048576) : totNR (putV g l) ≤ 1048576 := by
  unfold putV
  split
  · rw [tot_badN]; omega
  · split
    · rw [tot_badN]; omega
    · unfold totNet at h
      have := putN_tot (dead := g.2.1) l g.1
      show 0 + (totSegms (putN g.2.1 g.1 l) + g.2.1.length) ≤ _
      omega
theorem wf_small {x : Int} (h0 : 0 ≤ x) (h1 : x ≤ 10) : (Lit.int .i64 x).wf = true := by
  have : x = 0 ∨ x = 1 ∨ x = 2 ∨ x = 3 ∨ x = 4 ∨ x = 5 ∨ x = 6 ∨ x = 7 ∨ x = 8 ∨ x = 9 ∨ x = 10 := by omega
  rcases this with h | h | h | h | h | h | h | h | h | h | h <;> (subst h; decide)
theorem sgF_bd (x : DSegm) : 0 ≤ sgF x ∧ sgF x ≤ 10 := by
  unfold sgF segFault; repeat' split
  all_goals omega
theorem carF_bd (dead : List Bool) : ∀ (l : List DSegm), 0 ≤ carF dead l ∧ carF dead l ≤ 10
  | [] => by unfold carF; omega
  | x :: r => by
    have := sgF_bd x; have := carF_bd dead r
    unfold carF; repeat' split
    all_goals omega
theorem netF_bd (bag : List DSegm) (dead : List Bool) : 0 ≤ netF bag dead ∧ netF bag dead ≤ 10 := by
  have := carF_bd dead bag
  unfold netF; repeat' split
  all_goals omega
theorem netF_wf (bag : List DSegm) (dead : List Bool) : (Lit.int .i64 (netF bag dead)).wf = true := wf_small (netF_bd _ _).1 (netF_bd _ _).2
theorem sgF_wf (x : DSegm) : (Lit.int .i64 (sgF x)).wf = true := wf_small (sgF_bd x).1 (sgF_bd x).2
theorem askF_bd (bag : List DSegm) (dead : List Bool) (x : Int) : 0 ≤ askF bag dead x ∧ askF bag dead x ≤ 10 := by
  have := netF_bd bag dead
  unfold askF; repeat' split
  all_goals omega
theorem askF_wf (bag : List DSegm) (dead : List Bool) (x : Int) : (Lit.int .i64 (askF bag dead x)).wf = true := wf_small (askF_bd _ _ _).1 (askF_bd _ _ _).2
theorem askF_ok {bag : List DSegm} {dead : List Bool} {x : Int} (h : askF bag dead x = 0) : netF bag dead = 0 ∧ 0 ≤ x ∧ x < bag.length := by
  unfold askF at h
  by_cases h1 : netF bag dead = 0
  · rw [if_neg (by simp [h1])] at h
    by_cases h2 : inP x bag.length = true
    · exact ⟨h1, (inP_iff _ _).1 h2⟩
    · rw [if_neg h2] at h; simp at h
  · rw [if_pos h1] at h; exact absurd h h1
end Go.Proofs.Ytebgibjokljlbaa
