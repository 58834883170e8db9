/- One segment gone from a row of the call's own: in its place by the library (slices.Delete), or in a new row; what is told and what is left own their memory; no condition. -/
import Derived.Test.YtlfncadngcjdjaaRows
import Derived.Test.YtlfncadngcjdjaaBase
import Derived.Test.YtlfncadngcjdjaaBytes
import Derived.Test.YtlfncadngcjdjaaMem
import Derived.Test.YtlfncadngcjdjaaMemOpen
import Derived.Test.YtlfncadngcjdjaaMemRow
import Derived.Test.YtlfncadngcjdjaaHBase
import Derived.Test.YtlfncadngcjdjaaHMark
import Derived.Test.YtlfncadngcjdjaaMemApp
import Derived.Test.YtlfncadngcjdjaaBox
import Derived.Test.YtlfncadngcjdjaaSubBox
import Derived.Test.YtlfncadngcjdjaaAgg
import Derived.Test.YtlfncadngcjdjaaMSegs
import Derived.Test.YtlfncadngcjdjaaHSegs
import Derived.Test.YtlfncadngcjdjaaHSegT
import Derived.Test.YtlfncadngcjdjaaHBool
import Derived.Test.YtlfncadngcjdjaaHNet
import Derived.Test.YtlfncadngcjdjaaNetSeg
import Derived.Test.YtlfncadngcjdjaaNetSpF
import Derived.Test.YtlfncadngcjdjaaNetBx
import Derived.Test.YtlfncadngcjdjaaNetR
import Derived.Test.YtlfncadngcjdjaaNetRow
import Derived.Test.YtlfncadngcjdjaaNetCat
import Derived.Deep.MidRow
import Derived.Deep.RegionLaw
import Derived.Deep.DeepMust
import Derived.Lib.SliceRun
import Derived.Maps.AppendAt
namespace Go.Proofs.Ytlfncadngcjdjaa
open Go.RowKit
set_option linter.unusedVariables false
set_option maxRecDepth 8000
/-- A row, its elements and their blocks, exactly. -/
theorem RowT.ow {w : World} {lo hi : Nat} {g n c : Nat} {T : List El3} (h : RowT w lo hi (.slice (some ⟨g, 0, none⟩) n c) T) : shSegms.Ow w (g :: (T.map (·.2.1)).flatten) (T.map (·.1)) [.slice (some ⟨g, 0, none⟩) n c] := by
  obtain ⟨hx, ⟨e, -⟩ | ⟨g', cap, cur, e, hg, hh, hc, hm, hs, ht⟩⟩ := h.own
  · simp at e
  · simp only [Value.slice.injEq, Option.some.injEq, Addr.mk.injEq, and_true] at e
    obtain ⟨rfl, rfl, rfl⟩ := e
    refine Or.inr ⟨g, c, cur, T.map (·.2.1), by rw [List.length_map], rfl, hh, by rw [List.length_map]; exact hc, hm, hs, by simp, fun i hi => ?_⟩
    have hi2 : i < T.length := by simpa using hi
    have e1 : (T.map (·.2.1)).getD i [] = T[i].2.1 := by rw [List.getD_eq_getElem?_getD, List.getElem?_eq_getElem (by simpa using hi2)]; simp
    have e2 : chunk (T.map (·.2.2)).flatten 12 i = T[i].2.2 := by
      have := chunk_flat (T.map (·.2.2)) i (by simpa using hi2) h.len
      rw [List.getElem_map] at this
      exact this
    have e3 : chunk cur.toList 12 i = T[i].2.2 := by rw [← e2, ← ht]; exact (chunk_take hi2).symm
    rw [e1, List.getElem_map]
    show Sh.Ow _ _ _ _ (chunk cur.toList 12 i)
    rw [e3]
    exact h.el _ (List.getElem_mem hi2)
theorem map_split {α : Type} (f : El3 → List α) {T : List El3} {k : Nat} (hk : k < T.length) : (T.map f).flatten = ((T.take k).map f).flatten ++ (f T[k] ++ ((T.drop (k + 1)).map f).flatten) := by
  have e1 : T = T.take k ++ T[k] :: T.drop (k + 1) := by rw [← List.drop_eq_getElem_cons hk, List.take_append_drop]
  have e2 := (congrArg (List.map f) e1).trans (by rw [List.map_append, List.map_cons])
  rw [e2, List.flatten_append, List.flatten_cons]
theorem flat_split {T : List El3} {k : Nat} (hk : k < T.length) : (T.map (·.2.1)).flatten.Perm (T[k].2.1 ++ ((T.eraseIdx k).map (·.2.1)).flatten) := by
  have e2 : (T.map (·.2.1)).flatten = ((T.take k).map (·.2.1)).flatten ++ (T[k].2.1 ++ ((T.drop (k + 1)).map (·.2.1)).flatten) := map_split (·.2.1) hk
  rw [e2, List.eraseIdx_eq_take_drop_succ, List.map_append, List.flatten_append]
  rw [← List.append_assoc, ← List.append_assoc]
  exact List.Perm.append_right _ List.perm_append_comm
/-- What is taken and what is left, together. -/
theorem own_take {t : TypeId} {w : World} {dlo lo hi g n c k : Nat} {T : List El3} {dead : List Bool} {u : Value} (hk : k < T.length) (hR : RowT w lo hi (.slice (some ⟨g, 0, none⟩) n c) (T.eraseIdx k)) (hx : shSegm.Ow w T[k].2.1 T[k].1 T[k].2.2) (hnd : (T.map (·.2.1)).flatten.Nodup) (hrg : ∀ b ∈ T[k].2.1, lo ≤ b ∧ b < hi ∧ b ≠ g) (xd : Own w dlo lo (bls t) dead [u]) (l1 : dlo ≤ lo) (l2 : lo ≤ hi) :
    Own w dlo hi (shNR t) (0, T[k].1, ((T.eraseIdx k).map (·.1), dead, ()), ()) (.int .i64 0 :: (T[k].2.2 ++ [.slice (some ⟨g, 0, none⟩) n c, u])) := by
  obtain ⟨bd, k1, k2, k3⟩ := xd
  have how := hR.ow
  have hp := (flat_split hk).nodup hnd
  obtain ⟨n1, n2, n3⟩ := List.nodup_append.1 hp
  have hg := hR.hv g rfl
  have hg0 : lo ≤ g := (hR.own.lt g rfl).1
  refine ⟨T[k].2.1 ++ ((g :: ((T.eraseIdx k).map (·.2.1)).flatten) ++ bd), ?_, ?_, ?_⟩
  · refine ⟨[], _, [.int .i64 0], _, rfl, rfl, ⟨rfl, rfl, (by decide : (Lit.int .i64 0).wf = true)⟩, T[k].2.1, _, T[k].2.2, [.slice (some ⟨g, 0, none⟩) n c, u], rfl, rfl, hx, _, [], [.slice (some ⟨g, 0, none⟩) n c, u], [], (List.append_nil _).symm, rfl, mk_Net how k1, rfl, rfl⟩
  · refine List.nodup_append.2 ⟨n1, List.nodup_append.2 ⟨List.nodup_cons.2 ⟨fun hm => (hR.rg g hm).2.2 rfl, n2⟩, k2, fun a ha b hb e => ?_⟩, fun a ha b hb e => ?_⟩
    · subst e
      have hb2 := k3 a hb
      rcases List.mem_cons.1 ha with rfl | ha
      · omega
      · have := hR.rg a ha; omega
    · subst e
      have ha2 := hrg a ha
      rcases List.mem_append.1 hb with hb | hb
      · rcases List.mem_cons.1 hb with rfl | hb
        · exact ha2.2.2 rfl
        · exact n3 a ha a hb rfl
      · have := k3 a hb; omega
  · intro b hb
    rcases List.mem_append.1 hb with hb | hb
    · have := hrg b hb; omega
    · rcases List.mem_append.1 hb with hb | hb
      · rcases List.mem_cons.1 hb with rfl | hb
        · omega
        · have := hR.rg b hb; omega
      · have := k3 b hb; omega
theorem run_clear1 {P : Program} (w : World) (t e ty : TypeId) (z : Value) (ht : P.underlying t = some (.slice e)) (hv : ∀ w, (zeroValue e).run P w = .ok z w) (h1 : ∀ v ∈ z.cells.toList, v.oneCell' = true) (b o c : Nat)
    (hc : ∀ j, j < z.cells.toList.length → (w.cell? ⟨b, o + j, none⟩).isSome = true) (hf : ∀ j, j < z.cells.toList.length → w.frozen? ⟨b, o + j, none⟩ = false) :
    (Builtin.clear_ #[t] ty #[.slice (some ⟨b, o, none⟩) 1 c]).run P w = .ok (.tuple #[]) (w.setCells b o z.cells.toList) := by
  have hzc : (Builtin.zeroCells z.cells 1).toList = z.cells.toList := by
    apply List.ext_getElem
    · simp [Builtin.zeroCells]
    · intro i h1 h2
      have h3 : i < z.cells.size := by simpa using h2
      simp [Builtin.zeroCells, Nat.mod_eq_of_lt h3, getElem!_pos z.cells i h3]
  have hst := run_storeCells_cells (P := P) b o z.cells.toList 0 w (by simpa using hc) (by simpa using hf) h1
  simp only [Nat.add_zero] at hst
  simp [Builtin.clear_, run_underlying ht, hv, hzc, hst]
theorem setL_take {A M C z : List Value} (hM : M.length = 12) (hz : z.length = 12) : (setL (setL (A ++ (M ++ C)) A.length C) (A.length + C.length) z).take (A.length + C.length) = A ++ C := by
  apply List.ext_getElem?
  intro j
  rw [List.getElem?_take]
  by_cases hj : j < A.length + C.length
  · rw [if_pos hj, setL_get _ _ _ _ (by rw [setL_length]; simp; omega), if_neg (by omega), setL_get _ _ _ _ (by simp)]
    by_cases h1 : A.length ≤ j
    · rw [if_pos ⟨h1, hj⟩, List.getElem?_append_right h1]
    · rw [if_neg (by omega), List.getElem?_append_left (by omega), List.getElem?_append_left (by omega)]
  · rw [if_neg hj, List.getElem?_eq_none (by simp; omega)]
theorem ownsRow_cut {w : World} {base g n cap m : Nat} {t : TypeId} {size : Nat} {xs : List Value} (h : w.ownsRow base t size (.slice (some ⟨g, 0, none⟩) n cap) n xs) (hm : m ≤ n) : w.ownsRow base t size (.slice (some ⟨g, 0, none⟩) m cap) m (xs.take (m * size)) := by
  have hle : m * size ≤ n * size := Nat.mul_le_mul_right _ hm
  obtain ⟨hx, ⟨e, -⟩ | ⟨g', cap', cur, e, hg, hh, hc, hmx, hs, ht⟩⟩ := h
  · simp at e
  · simp only [Value.slice.injEq, Option.some.injEq, Addr.mk.injEq, and_true] at e
    obtain ⟨rfl, -, rfl⟩ := e
    refine ⟨by rw [List.length_take, hx]; omega, Or.inr ⟨g, cap, cur, rfl, hg, hh, Nat.le_trans hm hc, hmx, hs, ?_⟩⟩
    rw [← ht, List.take_take, Nat.min_eq_left hle]
/-- The rows of a list of elements: what is ahead, the one, what is behind. -/
theorem cells_split {T : List El3} {k : Nat} (hk : k < T.length) : (T.map (·.2.2)).flatten = ((T.take k).map (·.2.2)).flatten ++ (T[k].2.2 ++ ((T.drop (k + 1)).map (·.2.2)).flatten) := map_split (·.2.2) hk
theorem flat_len12 : ∀ (L : List (List Value)), (∀ c ∈ L, c.length = 12) → L.flatten.length = L.length * 12
  | [], _ => rfl
  | c :: r, h => by
    have := flat_len12 r (fun d hd => h d (List.mem_cons_of_mem _ hd))
    rw [List.flatten_cons, List.length_append, this, h c (by simp), List.length_cons]; omega
theorem RowT.lens {w : World} {lo hi : Nat} {v : Value} {T : List El3} (h : RowT w lo hi v T) {k : Nat} (hk : k < T.length) : ((T.take k).map (·.2.2)).flatten.length = k * 12 ∧ ((T.drop (k + 1)).map (·.2.2)).flatten.length = (T.length - (k + 1)) * 12 ∧ T[k].2.2.length = 12 := by
  have hl := h.len
  refine ⟨?_, ?_, hl _ (List.mem_map.2 ⟨_, List.getElem_mem hk, rfl⟩)⟩
  · rw [flat_len12 _ (fun c hc => hl c (by obtain ⟨x, hx, rfl⟩ := List.mem_map.1 hc; exact List.mem_map.2 ⟨x, List.mem_of_mem_take hx, rfl⟩)), List.length_map, List.length_take, Nat.min_eq_left (by omega)]
  · rw [flat_len12 _ (fun c hc => hl c (by obtain ⟨x, hx, rfl⟩ := List.mem_map.1 hc; exact List.mem_map.2 ⟨x, List.mem_of_mem_drop hx, rfl⟩)), List.length_map, List.length_drop]
end Go.Proofs.Ytlfncadngcjdjaa
