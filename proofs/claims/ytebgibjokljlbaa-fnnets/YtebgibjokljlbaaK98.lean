/- One segment gone from a row of the call's own: in its place by the library (slices.Delete), or in a new row; what is told and what is left own their memory; no condition. -/
import Derived.Test.YtebgibjokljlbaaRows
import Derived.Deep.MidRow
import Derived.Deep.RegionLaw
import Derived.Deep.DeepMust
import Derived.Lib.SliceRun
import Derived.Maps.AppendAt
import Derived.Shelf.RegionOpen
import Derived.Shelf.RegionOpenPlain
import Derived.Deep.RegionHeld3
import Derived.Deep.DeepCutAuto
import Derived.Test.YtebgibjokljlbaaK01
import Derived.Test.YtebgibjokljlbaaK02
import Derived.Test.YtebgibjokljlbaaK03
import Derived.Test.YtebgibjokljlbaaK10
import Derived.Test.YtebgibjokljlbaaK17
import Derived.Test.YtebgibjokljlbaaK20
import Derived.Test.YtebgibjokljlbaaK42
import Derived.Test.YtebgibjokljlbaaK43
import Derived.Test.YtebgibjokljlbaaK55
import Derived.Test.YtebgibjokljlbaaK56
import Derived.Test.YtebgibjokljlbaaK57
import Derived.Test.YtebgibjokljlbaaK64
import Derived.Test.YtebgibjokljlbaaK66
import Derived.Test.YtebgibjokljlbaaK67
import Derived.Test.YtebgibjokljlbaaK93
import Derived.Test.YtebgibjokljlbaaK94
namespace Go.Proofs.Ytebgibjokljlbaa
open Go.RowKit
set_option linter.unusedVariables false
set_option maxRecDepth 8000
/-- A row, its elements and their blocks, exactly. -/
theorem RowT.ow {w : World} {lo hi : Nat} {g n c : Nat} {T : List El3} (h : RowT w lo hi (.slice (some ⟨g, 0, none⟩) n c) T) : shSegms.Ow w (g :: (T.map (·.2.1)).flatten) (T.map (·.1)) [.slice (some ⟨g, 0, none⟩) n c] := by
  obtain ⟨hx, ⟨e, -⟩ | ⟨g', cap, cur, e, hg, hh, hc, hm, hs, ht⟩⟩ := h.own
  · simp at e
  · simp only [Value.slice.injEq, Option.some.injEq, Addr.mk.injEq, and_true] at e
    obtain ⟨rfl, rfl, rfl⟩ := e
    refine Or.inr ⟨g, c, cur, T.map (·.2.1), by rw [List.length_map], rfl, hh, by rw [List.length_map]; exact hc, hm, hs, by simp, fun i hi => ?_⟩
    have hi2 : i < T.length := by simpa using hi
    have e1 : (T.map (·.2.1)).getD i [] = T[i].2.1 := by rw [List.getD_eq_getElem?_getD, List.getElem?_eq_getElem (by simpa using hi2)]; simp
    have e2 : chunk (T.map (·.2.2)).flatten 12 i = T[i].2.2 := by
      have := chunk_flat (T.map (·.2.2)) i (by simpa using hi2) h.len
      rw [List.getElem_map] at this
      exact this
    have e3 : chunk cur.toList 12 i = T[i].2.2 := by rw [← e2, ← ht]; exact (chunk_take hi2).symm
    rw [e1, List.getElem_map]
    show Sh.Ow _ _ _ _ (chunk cur.toList 12 i)
    rw [e3]
    exact h.el _ (List.getElem_mem hi2)
theorem map_split {α : Type} (f : El3 → List α) {T : List El3} {k : Nat} (hk : k < T.length) : (T.map f).flatten = ((T.take k).map f).flatten ++ (f T[k] ++ ((T.drop (k + 1)).map f).flatten) := by
  have e1 : T = T.take k ++ T[k] :: T.drop (k + 1) := by rw [← List.drop_eq_getElem_cons hk, List.take_append_drop]
  have e2 := (congrArg (List.map f) e1).trans (by rw [List.map_append, List.map_cons])
  rw [e2, List.flatten_append, List.flatten_cons]
theorem flat_split {T : List El3} {k : Nat} (hk : k < T.length) : (T.map (·.2.1)).flatten.Perm (T[k].2.1 ++ ((T.eraseIdx k).map (·.2.1)).flatten) := by
  have e2 : (T.map (·.2.1)).flatten = ((T.take k).map (·.2.1)).flatten ++ (T[k].2.1 ++ ((T.drop (k + 1)).map (·.2.1)).flatten) := map_split (·.2.1) hk
  rw [e2, List.eraseIdx_eq_take_drop_succ, List.map_append, List.flatten_append]
  rw [← List.append_assoc, ← List.append_assoc]
  exact List.Perm.append_right _ List.perm_append_comm
/-- What is taken and what is left, together. -/
theorem own_take {t : TypeId} {w : World} {dlo lo hi g n c k : Nat} {T : List El3} {dead : List Bool} {u : Value} (hk : k < T.length) (hR : RowT w lo hi (.slice (some ⟨g, 0, none⟩) n c) (T.eraseIdx k)) (hx : shSegm.Ow w T[k].2.1 T[k].1 T[k].2.2) (hnd : (T.map (·.2.1)).flatten.Nodup) (hrg : ∀ b ∈ T[k].2.1, lo ≤ b ∧ b < hi ∧ b ≠ g) (xd : Own w dlo lo (bls t) dead [u]) (l1 : dlo ≤ lo) (l2 : lo ≤ hi) :
    Own w dlo hi (shNR t) (0, T[k].1, ((T.eraseIdx k).map (·.1), dead, ()), ()) (.int .i64 0 :: (T[k].2.2 ++ [.slice (some ⟨g, 0, none⟩) n c, u])) := by
  obtain ⟨bd, k1, k2, k3⟩ := xd
  have how := hR.ow
  have hp := (flat_split hk).nodup hnd
  obtain ⟨n1, n2, n3⟩ := List.nodup_append.1 hp
  have hg := hR.hv g rfl
  have hg0 : lo ≤ g := (hR.own.lt g rfl).1
  refine ⟨T[k].2.1 ++ ((g :: ((T.eraseIdx k).map (·.2.1)).flatten) ++ bd), ?_, ?_, ?_⟩
  · refine ⟨[], _, [.int .i64 0], _, rfl, rfl, ⟨rfl, rfl, (by decide : (Lit.int .i64 0).wf = true)⟩, T[k].2.1, _, T[k].2.2, [.slice (some ⟨g, 0, none⟩) n c, u], rfl, rfl, hx, _, [], [.slice (some ⟨g, 0, none⟩) n c, u], [], (List.append_nil _).symm, rfl, mk_Net how k1, rfl, rfl⟩
  · refine List.nodup_append.2 ⟨n1, List.nodup_append.2 ⟨List.nodup_cons.2 ⟨fun hm => (hR.rg g hm).2.2 rfl, n2⟩, k2, fun a ha b hb e => ?_⟩, fun a ha b hb e => ?_⟩
    · subst e
      have hb2 := k3 a hb
      rcases List.mem_cons.1 ha with rfl | ha
      · omega
      · have := hR.rg a ha; omega
    · subst e
      have ha2 := hrg a ha
      rcases List.mem_append.1 hb with hb | hb
      · rcases List.mem_cons.1 hb with rfl | hb
        · exact ha2.2.2 rfl
        · exact n3 a ha a hb rfl
      · have := k3 a hb; omega
  · intro b hb
    rcases List.mem_append.1 hb with hb | hb
    · have := hrg b hb; omega
    · rcases List.mem_append.1 hb with hb | hb
      · rcases List.mem_cons.1 hb with rfl | hb
        · omega
        · have := hR.rg b hb; omega
      · have := k3 b hb; omega
theorem run_clear1 {P : Program} (w : World) (t e ty : TypeId) (z : Value) (ht : P.underlying t = some (.slice e)) (hv : ∀ w, (zeroValue e).run P w = .ok z w) (h1 : ∀ v ∈ z.cells.toList, v.oneCell' = true) (b o c : Nat)
    (hc : ∀ j, j < z.cells.toList.length → (w.cell? ⟨b, o + j, none⟩).isSome = true) (hf : ∀ j, j < z.cells.toList.length → w.frozen? ⟨b, o + j, none⟩ = false) :
    (Builtin.clear_ #[t] ty #[.slice (some ⟨b, o, none⟩) 1 c]).run P w = .ok (.tuple #[]) (w.setCells b o z.cells.toList) := by
  have hzc : (Builtin.zeroCells z.cells 1).toList = z.cells.toList := by
    apply List.ext_getElem
    · simp [Builtin.zeroCells]
    · intro i h1 h2
      have h3 : i < z.cells.size := by simpa using h2
      simp [Builtin.zeroCells, Nat.mod_eq_of_lt h3, getElem!_pos z.cells i h3]
  have hst := run_storeCells_cells (P := P) b o z.cells.toList 0 w (by simpa using hc) (by simpa using hf) h1
  simp only [Nat.add_zero] at hst
  simp [Builtin.clear_, run_underlying ht, hv, hzc, hst]
theorem setL_take {A M C z : List Value} (hM : M.length = 12) (hz : z.length = 12) : (setL (setL (A ++ (M ++ C)) A.length C) (A.length + C.length) z).take (A.length + C.length) = A ++ C := by
  apply List.ext_getElem?
  intro j
  rw [List.getElem?_take]
  by_cases hj : j < A.length + C.length
  · rw [if_pos hj, setL_get _ _ _ _ (by rw [setL_length]; simp; omega), if_neg (by omega), setL_get _ _ _ _ (by simp)]
    by_cases h1 : A.length ≤ j
    · rw [if_pos ⟨h1, hj⟩, List.getElem?_append_right h1]
    · rw [if_neg (by omega), List.getElem?_append_left (by omega), List.getElem?_append_left (by omega)]
  · rw [if_neg hj, List.getElem?_eq_none (by simp; omega)]
theorem ownsRow_cut {w : World} {base g n cap m : Nat} {t : TypeId} {size : Nat} {xs : List Value} (h : w.ownsRow base t size (.slice (some ⟨g, 0, none⟩) n cap) n xs) (hm : m ≤ n) : w.ownsRow base t size (.slice (some ⟨g, 0, none⟩) m cap) m (xs.take (m * size)) := by
  have hle : m * size ≤ n * size := Nat.mul_le_mul_right _ hm
  obtain ⟨hx, ⟨e, -⟩ | ⟨g', cap', cur, e, hg, hh, hc, hmx, hs, ht⟩⟩ := h
  · simp at e
  · simp only [Value.slice.injEq, Option.some.injEq, Addr.mk.injEq, and_true] at e
    obtain ⟨rfl, -, rfl⟩ := e
    refine ⟨by rw [List.length_take, hx]; omega, Or.inr ⟨g, cap, cur, rfl, hg, hh, Nat.le_trans hm hc, hmx, hs, ?_⟩⟩
    rw [← ht, List.take_take, Nat.min_eq_left hle]
/-- The rows of a list of elements: what is ahead, the one, what is behind. -/
theorem cells_split {T : List El3} {k : Nat} (hk : k < T.length) : (T.map (·.2.2)).flatten = ((T.take k).map (·.2.2)).flatten ++ (T[k].2.2 ++ ((T.drop (k + 1)).map (·.2.2)).flatten) := map_split (·.2.2) hk
theorem flat_len12 : ∀ (L : List (List Value)), (∀ c ∈ L, c.length = 12) → L.flatten.length = L.length * 12
  | [], _ => rfl
  | c :: r, h => by
    have := flat_len12 r (fun d hd => h d (List.mem_cons_of_mem _ hd))
    rw [List.flatten_cons, List.length_append, this, h c (by simp), List.length_cons]; omega
theorem RowT.lens {w : World} {lo hi : Nat} {v : Value} {T : List El3} (h : RowT w lo hi v T) {k : Nat} (hk : k < T.length) : ((T.take k).map (·.2.2)).flatten.length = k * 12 ∧ ((T.drop (k + 1)).map (·.2.2)).flatten.length = (T.length - (k + 1)) * 12 ∧ T[k].2.2.length = 12 := by
  have hl := h.len
  refine ⟨?_, ?_, hl _ (List.mem_map.2 ⟨_, List.getElem_mem hk, rfl⟩)⟩
  · rw [flat_len12 _ (fun c hc => hl c (by obtain ⟨x, hx, rfl⟩ := List.mem_map.1 hc; exact List.mem_map.2 ⟨x, List.mem_of_mem_take hx, rfl⟩)), List.length_map, List.length_take, Nat.min_eq_left (by omega)]
  · rw [flat_len12 _ (fun c hc => hl c (by obtain ⟨x, hx, rfl⟩ := List.mem_map.1 hc; exact List.mem_map.2 ⟨x, List.mem_of_mem_drop hx, rfl⟩)), List.length_map, List.length_drop]
end Go.Proofs.Ytebgibjokljlbaa

/- One segment gone from a row in its place: slices.Delete; nothing else turns; no condition. -/
namespace Go.Proofs.Ytebgibjokljlbaa
open Go.RowKit
set_option linter.unusedVariables false
set_option maxRecDepth 8000
abbrev zAg : Value := .agg #[.int .i64 0, .int .i64 0, .bool false, .bool false, .bool false, .int .i64 0, .int .i64 0, .int .i64 0, .int .i64 0, .int .i64 0, .int .i64 0, .slice none 0 0]
theorem zero_SG (w : World) : (zeroValue 48).run Try.prog w = .ok zAg w := by
  obtain ⟨i0, hi, hz0, hz1, hz2⟩ := info_parts info_SZ
  simp [zeroValue, typeInfo, hi, hz0]
theorem setCells_owns {w : World} {base g n cap off : Nat} {xs vs : List Value} (h : w.ownsRow base 48 12 (.slice (some ⟨g, 0, none⟩) n cap) n xs) : (w.setCells g off vs).ownsRow base 48 12 (.slice (some ⟨g, 0, none⟩) n cap) n (setL xs off vs) := by
  have := (setRow_owns (w := w) vs w xs off h).1
  rwa [setRow_cellsN] at this
set_option maxHeartbeats 2000000 in
theorem iDelete {w : World} {lo hi g m cap k : Nat} {T : List El3} (hR : RowT w lo hi (.slice (some ⟨g, 0, none⟩) (m + 1) cap) T) (hT : T.length = m + 1) (hkm : k ≤ m) :
    Calls Try.prog 72 #[.slice (some ⟨g, 0, none⟩) (m + 1) cap, .int .i64 k, .int .i64 ((k : Int) + 1)] w fun e w' => e = .returned (.slice (some ⟨g, 0, none⟩) m cap) ∧ RowT w' lo hi (.slice (some ⟨g, 0, none⟩) m cap) (T.eraseIdx k) ∧ (∀ b, b ≠ g → w'.heap[b]? = w.heap[b]?) ∧ w'.heap.size = w.heap.size ∧ Below lo w w' := by
  obtain ⟨i0, hi0, hz0, hz1, hz2⟩ := info_parts info_SZ
  have hk : k < T.length := by omega
  have hown := hR.own
  rw [hT] at hown
  obtain ⟨lA, lC, lM⟩ := hR.lens hk
  have hcap : m + 1 ≤ cap ∧ cap ≤ 9223372036854775807 := by
    obtain ⟨-, ⟨e, -⟩ | ⟨g', cap', cur, e, -, -, q1, q2, -⟩⟩ := hown
    · simp at e
    · simp only [Value.slice.injEq] at e
      obtain ⟨-, -, rfl⟩ := e
      unfold maxLen at q2
      exact ⟨q1, q2⟩
  obtain ⟨hc1, hc2⟩ := hcap
  have hg0 : lo ≤ g := (hown.lt g rfl).1
  have hgw : g < w.heap.size := (hown.lt g rfl).2
  have hone : ∀ u ∈ ((T.drop (k + 1)).map (·.2.2)).flatten, u.oneCell' = true := fun u hu => by
    obtain ⟨c, hc, hu⟩ := List.mem_flatten.1 hu
    obtain ⟨x, hx, rfl⟩ := List.mem_map.1 hc
    exact ow_one (hR.el x (List.mem_of_mem_drop hx)) u hu
  have hsp := cells_split hk
  have hcell : ∀ j, j < (m + 1) * 12 → w.cell? ⟨g, j, none⟩ = (T.map (·.2.2)).flatten[j]? := fun j hj => hown.cellAt j hj
  have hfz : ∀ j, w.frozen? ⟨g, j, none⟩ = false := fun j => hown.frozenAt j
  have hxl : (T.map (·.2.2)).flatten.length = (m + 1) * 12 := hown.1
  obtain ⟨q, hq⟩ : ∃ q, q = m - k := ⟨_, rfl⟩
  have lC' : ((T.drop (k + 1)).map (·.2.2)).flatten.length = q * 12 := by rw [lC, hT, hq]; congr 1; omega
  have hEI : ((T.eraseIdx k).map (·.2.2)).flatten = ((T.take k).map (·.2.2)).flatten ++ ((T.drop (k + 1)).map (·.2.2)).flatten := by rw [List.eraseIdx_eq_take_drop_succ, List.map_append, List.flatten_append]
  have hEL : (T.eraseIdx k).length = m := by rw [List.length_eraseIdx_of_lt hk, hT]; omega
  rw [hsp] at hown hxl hcell
  generalize hAA : ((T.take k).map (·.2.2)).flatten = AA at *
  generalize hCC : ((T.drop (k + 1)).map (·.2.2)).flatten = CC at *
  generalize hMM : T[k].2.2 = MM at *
  obtain ⟨W1, hW1⟩ : ∃ W1, W1 = w.drew.setCells g (k * 12) CC := ⟨_, rfl⟩
  obtain ⟨W2, hW2⟩ : ∃ W2, W2 = W1.setCells g (m * 12) zAg.cells.toList := ⟨_, rfl⟩
  have hownd : w.drew.ownsRow lo 48 12 (.slice (some ⟨g, 0, none⟩) (m + 1) cap) (m + 1) (AA ++ (MM ++ CC)) := hown
  have hown1 : W1.ownsRow lo 48 12 (.slice (some ⟨g, 0, none⟩) (m + 1) cap) (m + 1) (setL (AA ++ (MM ++ CC)) (k * 12) CC) := by rw [hW1]; exact setCells_owns hownd
  have hown2 : W2.ownsRow lo 48 12 (.slice (some ⟨g, 0, none⟩) (m + 1) cap) (m + 1) (setL (setL (AA ++ (MM ++ CC)) (k * 12) CC) (m * 12) zAg.cells.toList) := by rw [hW2]; exact setCells_owns hown1
  have hkq : k + q = m := by omega
  have hfin : W2.ownsRow lo 48 12 (.slice (some ⟨g, 0, none⟩) m cap) m (AA ++ CC) := by
    have h := ownsRow_cut hown2 (m := m) (by omega)
    have e : (setL (setL (AA ++ (MM ++ CC)) (k * 12) CC) (m * 12) zAg.cells.toList).take (m * 12) = AA ++ CC := by
      have h2 := setL_take (A := AA) (M := MM) (C := CC) (z := zAg.cells.toList) lM rfl
      rw [lA, lC', ← Nat.add_mul, hkq] at h2
      exact h2
    rw [e] at h
    exact h
  have hblk : ∀ b, b ≠ g → W2.heap[b]? = w.heap[b]? := fun b hb => by
    rw [hW2, setCells_block hb, hW1, setCells_block hb]; rfl
  have hsz2 : W2.heap.size = w.heap.size := by rw [hW2, setCells_size, hW1, setCells_size]; rfl
  have hbl : Below lo w W2 := by
    rw [hW2, hW1]
    exact setCells_below hg0 _ _ _ _ (setCells_below hg0 _ _ _ _ ((Below.refl _ _).drew))
  have HPOST : Hid (RowT W2 lo hi (.slice (some ⟨g, 0, none⟩) m cap) (T.eraseIdx k) ∧ (∀ b, b ≠ g → W2.heap[b]? = w.heap[b]?) ∧ W2.heap.size = w.heap.size ∧ Below lo w W2) := by
    refine ⟨RowT.sub hR (List.eraseIdx_sublist T k) (base := lo) (by rw [hEL, hEI]; exact hfin) (fun b e => hR.hv b e) (fun b h1 h2 h3 => hblk b fun e => h3 (by rw [e]; rfl)) (Nat.le_refl _) (Nat.le_refl _) (Nat.le_refl _) (fun b e _ => e), hblk, hsz2, hbl⟩
  obtain ⟨A, hA, hsrc⟩ : ∃ A : Addr, (if cap = k + 1 then some (⟨g, 0, none⟩ : Addr) else some ⟨g, (k + 1) * 12, none⟩) = some A ∧ Hid (∀ j u, CC[j]? = some u → w.drew.cell? (A.add j) = some u) := by
    by_cases h : cap = k + 1
    · refine ⟨⟨g, 0, none⟩, by rw [if_pos h], fun j u hu => ?_⟩
      have h0 : CC = [] := List.length_eq_zero_iff.1 (by rw [lC']; omega)
      rw [h0] at hu; simp at hu
    · refine ⟨⟨g, (k + 1) * 12, none⟩, by rw [if_neg h], fun j u hu => ?_⟩
      have hj : j < q * 12 := by rw [← lC']; exact (List.getElem?_eq_some_iff.1 hu).1
      rw [add_none]
      show w.cell? ⟨g, (k + 1) * 12 + j, none⟩ = some u
      rw [hcell _ (by omega), List.getElem?_append_right (by omega), List.getElem?_append_right (by omega), lA, lM, show (k + 1) * 12 + j - k * 12 - 12 = j by omega]
      exact hu
  have s1 : Hid (CC.length = q * 12) := lC'
  have s2 : Hid (∀ u ∈ CC, u.oneCell' = true) := hone
  have s3 : Hid (∀ j, j < CC.length → (w.drew.cell? ⟨g, 0 + k * 12 + j, none⟩).isSome = true ∧ w.drew.frozen? ⟨g, 0 + k * 12 + j, none⟩ = false) := fun j hj => by
    rw [lC'] at hj
    refine ⟨?_, hfz _⟩
    show (w.cell? ⟨g, 0 + k * 12 + j, none⟩).isSome = true
    rw [hcell _ (by omega), List.getElem?_eq_getElem (by omega)]; rfl
  have hW : Hid (W1 = w.drew.setCells g (0 + k * 12) CC) := by rw [hW1, Nat.zero_add]; rfl
  have hcl : ∀ ty c, (Builtin.clear_ #[41] ty #[.slice (some ⟨g, m * 12, none⟩) 1 c]).run Try.prog W1 = .ok (.tuple #[]) W2 := fun ty c => by
    rw [hW2]
    refine run_clear1 W1 _ 48 ty zAg Try.underlying41 zero_SG (by simp [Value.cells, Value.oneCell']) g (m * 12) c (fun j hj => ?_) (fun j hj => hown1.frozenAt _)
    have hj2 : j < 12 := hj
    rw [hown1.cellAt _ (by omega), List.getElem?_eq_getElem (by rw [setL_length, hxl]; omega)]; rfl
  have hwr : IntKind.i64.wrap ((k : Int) + 1) = (k : Int) + 1 := by rw [IntKind.wrap_i64]; omega
  have i1 : (0 : Int) ≤ (k : Int) + 1 := by omega
  have i2 : (k : Int) + 1 ≤ (m : Int) + 1 := by omega
  have i3 : ((k : Int) + 1).toNat = k + 1 := by omega
  have i4 : k ≤ k + 1 := by omega
  have i5 : k + 1 ≤ m + 1 := by omega
  have i6 : ((k : Int) == (k : Int) + 1) = false := by simp; omega
  have i7 : (k : Int) ≤ (cap : Int) := by omega
  have i8 : (k : Int) + 1 ≤ (cap : Int) := by omega
  have i9 : m + 1 - (k + 1) = q := by omega
  have i10 : ¬ cap = m := by omega
  have i11 : (m : Int) + 1 ≤ (cap : Int) := by omega
  have i12 : m + 1 - m = 1 := by omega
  have HQ : Hid _ := hkq
  have mixed : Try.prog.follows Departure.mixedOrders = true := by kernel_rfl
  clear hW1 hW2 hown hown1 hown2 hownd hfin hcell hfz hxl hblk hsz2 hbl hsp hone lA lC lC' lM hEI hEL hR hAA hCC hMM hq hkq hT hk
  go_enter Try.func72, Try.ntmps72
  go_wp2_with fail
  go_region_law_o (refine step_append_room rfl (.tmp 22) (.tmp 25) 41 rfl 48 i0 12 Try.underlying41 hi0 hz1 g 0 k cap (by simp [Act.eval, Act.put]) A q (cap - (k + 1)) CC (by simp [Act.eval, Act.put]) s1.out hsrc.out s2.out (by have := HQ.out; omega) s3.out ?_; rw [← hW.out, HQ.out])
  go_wp2_with fail
  go_ret
  exact ⟨rfl, HPOST.out⟩
end Go.Proofs.Ytebgibjokljlbaa

/- TakeNet by the program, and plain facts; nothing that was in memory turns; the condition is that there are at most a million parts. Written by mknet16.py. -/
namespace Go.Proofs.Ytebgibjokljlbaa
open Go.RowKit
set_option linter.unusedVariables false
set_option maxRecDepth 8000
def takV (g : DNet) (x : Int) : DNR := if askF g.1 g.2.1 x ≠ 0 then badN (askF g.1 g.2.1 x) else (0, g.1.getD x.toNat zSg, (g.1.eraseIdx x.toNat, g.2.1, ()), ())
theorem tot_erase : ∀ (l : List DSegm) (k : Nat), k < l.length → totSegm (l.getD k zSg) + totSegms (l.eraseIdx k) ≤ totSegms l
  | [], k, h => by simp at h
  | x :: r, 0, _ => by
    have e2 : totSegms (x :: r) = totSegms [x] + totSegms r := totSegms_app [x] r
    have e3 : totSegms [x] = 1 + totSegm x := by simp [totSegms, fsum]
    show totSegm x + totSegms r ≤ _
    omega
  | x :: r, k + 1, h => by
    have ih := tot_erase r k (by simpa using h)
    have e1 : totSegms (x :: r.eraseIdx k) = totSegms [x] + totSegms (r.eraseIdx k) := totSegms_app [x] _
    have e2 : totSegms (x :: r) = totSegms [x] + totSegms r := totSegms_app [x] r
    show totSegm (r.getD k zSg) + totSegms (x :: r.eraseIdx k) ≤ _
    omega
theorem takV_tot {g : DNet} (x : Int) (h : totNet g ≤ 1048576) : totNR (takV g x) ≤ 1048576 := by
  unfold takV
  by_cases h1 : askF g.1 g.2.1 x = 0
  · rw [if_neg (by simp [h1])]
    obtain ⟨hN, h0, hn⟩ := askF_ok h1
    unfold totNet at h
    have := tot_erase g.1 x.toNat (by omega)
    show totSegm (g.1.getD x.toNat zSg) + (totSegms (g.1.eraseIdx x.toNat) + g.2.1.length) ≤ _
    omega
  · rw [if_pos h1, tot_badN]; omega
theorem RowT.below {w w' : World} {lo hi C : Nat} {v : Value} {T : List El3} (h : RowT w lo hi v T) (hb : Below C w w') (hc : hi ≤ C) : RowT w' lo hi v T :=
  ⟨ownsRow_below h.own (fun b e => hb.block b (Nat.lt_of_lt_of_le (h.hv b e) hc)), h.hv, fun x hx => Sh.Ow.keep _ _ _ _ (fun b hbx => hb.block b (by have := h.rg b (List.mem_flatten.2 ⟨x.2.1, List.mem_map.2 ⟨x, hx, rfl⟩, hbx⟩); omega)) (h.el x hx), h.nd, h.rg⟩
theorem RowT.setp {w : World} {lo hi p k : Nat} {u v : Value} {T : List El3} (h : RowT w lo hi v T) (hp : hi ≤ p) : RowT (w.setCell ⟨p, k, none⟩ u) lo hi v T :=
  ⟨ownsRow_below h.own (fun b e => Below.heap_setCell _ _ _ _ (by dsimp only; have := h.hv b e; omega)), h.hv, fun x hx => Sh.Ow.keep _ _ _ _ (fun b hbx => Below.heap_setCell _ _ _ _ (by dsimp only; have := h.rg b (List.mem_flatten.2 ⟨x.2.1, List.mem_map.2 ⟨x, hx, rfl⟩, hbx⟩); omega)) (h.el x hx), h.nd, h.rg⟩
theorem fx_blk {w w' : World} {b : Nat} (h : ∀ o, w.frozen? ⟨b, o, none⟩ = false) (hk : w'.heap[b]? = w.heap[b]?) : ∀ o, w'.frozen? ⟨b, o, none⟩ = false := fun o => by rw [← h o]; simp [World.frozen?, hk]
theorem map_erase {T : List El3} {k : Nat} : (T.eraseIdx k).map (·.1) = (T.map (·.1)).eraseIdx k := by
  rw [List.eraseIdx_eq_take_drop_succ, List.eraseIdx_eq_take_drop_succ, List.map_append, List.map_take, List.map_drop]
set_option maxHeartbeats 8000000 in
theorem iTakeNetA (x0 : DNet) (A : Array Value) (x1 : Int) (w : World) (B : Nat) (hr : shNet.Rd w B x0 A.toList) (hT : totNet x0 ≤ 1048576) (hB : B ≤ w.heap.size) :
    Calls Try.prog 24 #[.agg A, .int .i64 x1] w fun e w' => ∃ N : Array Value, e = .returned (.agg N) ∧ Own w' w.heap.size w'.heap.size (shNR 104) (takV x0 x1) N.toList ∧ Below w.heap.size w w' := by
  obtain ⟨bag, dead, ⟨⟩⟩ := x0
  obtain ⟨a, cap, da, dcap, eA, rb, rdd⟩ := rd_Net hr
  have a0 : A[0]? = some (.slice a bag.length cap) := get_of eA 0
  have a1 : A[1]? = some (.slice da dead.length dcap) := get_of eA 1
  have HRb : Hid (∀ W, Below w.heap.size w W → shSegms.Rd W B bag [.slice a bag.length cap]) := fun W hW => Sh.Rd.below rb hB hW
  have HRd : Hid (∀ W, Below w.heap.size w W → (bls 4).Rd W B dead [.slice da dead.length dcap]) := fun W hW => Sh.Rd.below rdd hB hW
  have eA2 := arr_of eA
  have HA2 : Hid (A = #[.slice a bag.length cap, .slice da dead.length dcap]) := eA2
  have HIA : Hid ((Try.prog.info? 44).map (·.size) = some A.toList.length) := by show _ = _; rw [eA]; exact info_NT
  have ht : totSegms bag + dead.length ≤ 1048576 := hT
  have HAK : Hid (∀ W, Below w.heap.size w W → Calls Try.prog 70 #[.agg A, .int .i64 x1] W fun e w' => e = .returned (.int .i64 (askF bag dead x1)) ∧ Below W.heap.size W w') := fun W hW => by rw [HA2.out]; exact iPlaceFault _ bag dead x1 _ _ W B (HRb.out W hW) (HRd.out W hW) (Nat.le_trans hB hW.size)
  obtain ⟨V, hV⟩ : ∃ V, V = takV (bag, dead, ()) x1 := ⟨_, rfl⟩
  rw [← hV]
  have HV : Hid (V = if askF bag dead x1 ≠ 0 then badN (askF bag dead x1) else (0, bag.getD x1.toNat zSg, (bag.eraseIdx x1.toNat, dead, ()), ())) := hV
  have HWF : Hid _ := askF_wf bag dead x1
  have hmx : bag.length ≤ 1048576 := by unfold totSegms at ht; omega
  have HRA : Hid (∀ W, Below w.heap.size w W → shNet.Rd W B (bag, dead, ()) A.toList) := fun W hW => Sh.Rd.below hr hB hW
  clear hV eA eA2 rb rdd hr hT
  have HWA : Hid (Below w.heap.size w ((w.alloc (.cells A 44)).alloc (.cells #[.int .i64 0, .int .i64 0, .int .i64 0, .bool false, .bool false, .bool false, .int .i64 0, .int .i64 0, .int .i64 0, .int .i64 0, .int .i64 0, .int .i64 0, .slice none 0 0, .slice none 0 0, .slice none 0 0] 50)) ∧ ((w.alloc (.cells A 44)).alloc (.cells #[.int .i64 0, .int .i64 0, .int .i64 0, .bool false, .bool false, .bool false, .int .i64 0, .int .i64 0, .int .i64 0, .int .i64 0, .int .i64 0, .int .i64 0, .slice none 0 0, .slice none 0 0, .slice none 0 0] 50)).heap.size = w.heap.size + 2 ∧ (∀ o, ((w.alloc (.cells A 44)).alloc (.cells #[.int .i64 0, .int .i64 0, .int .i64 0, .bool false, .bool false, .bool false, .int .i64 0, .int .i64 0, .int .i64 0, .int .i64 0, .int .i64 0, .int .i64 0, .slice none 0 0, .slice none 0 0, .slice none 0 0] 50)).cell? ⟨w.heap.size, o, none⟩ = (A : Array Value)[o]?) ∧ (∀ o, ((w.alloc (.cells A 44)).alloc (.cells #[.int .i64 0, .int .i64 0, .int .i64 0, .bool false, .bool false, .bool false, .int .i64 0, .int .i64 0, .int .i64 0, .int .i64 0, .int .i64 0, .int .i64 0, .slice none 0 0, .slice none 0 0, .slice none 0 0] 50)).cell? ⟨w.heap.size + 1, o, none⟩ = (#[.int .i64 0, .int .i64 0, .int .i64 0, .bool false, .bool false, .bool false, .int .i64 0, .int .i64 0, .int .i64 0, .int .i64 0, .int .i64 0, .int .i64 0, .slice none 0 0, .slice none 0 0, .slice none 0 0] : Array Value)[o]?) ∧ (∀ o, ((w.alloc (.cells A 44)).alloc (.cells #[.int .i64 0, .int .i64 0, .int .i64 0, .bool false, .bool false, .bool false, .int .i64 0, .int .i64 0, .int .i64 0, .int .i64 0, .int .i64 0, .int .i64 0, .slice none 0 0, .slice none 0 0, .slice none 0 0] 50)).frozen? ⟨w.heap.size + 1, o, none⟩ = false)) := ⟨(((Below.refl _ _).alloc (Nat.le_refl _) _).alloc (by simp) _), by simp, fun o => by simp [go_sem], fun o => by simp [go_sem], fun o => by simp [go_sem]⟩
  go_enter Try.func24, Try.ntmps24
  go_upto_region 1 with fail
  generalize hWW : ((w.alloc (.cells A 44)).alloc (.cells #[.int .i64 0, .int .i64 0, .int .i64 0, .bool false, .bool false, .bool false, .int .i64 0, .int .i64 0, .int .i64 0, .int .i64 0, .int .i64 0, .int .i64 0, .slice none 0 0, .slice none 0 0, .slice none 0 0] 50)) = W1 at HWA ⊢
  clear hWW
  obtain ⟨hb, hsz, kA, kR, fR⟩ := HWA.out
  clear HWA
  have HB : Hid (Below w.heap.size w W1) := hb
  have zA : w.heap.size < W1.heap.size := by omega
  have zR : w.heap.size + 1 < W1.heap.size := by omega
  clear hb hsz
  go_wp2_with (refine wpList_load_mid rfl 44 _ rfl _ _ (by rfl) A.toList _ (bx_range kA) Try.underlying44 rfl HIA.out ?_)
  refine (HAK.out _ HB.out).mono ?_
  rintro e w2 ⟨rfl, hb⟩
  replace kA := bx_below kA zA hb
  replace zA := Nat.lt_of_lt_of_le zA hb.size
  replace kR := bx_below kR zR hb
  replace fR := bxF fR hb zR
  replace zR := Nat.lt_of_lt_of_le zR hb.size
  replace HB : Hid (Below w.heap.size w w2) := HB.out.trans (hb.mono HB.out.size)
  clear hb
  have hv := HV.out
  clear HV
  by_cases hF : askF bag dead x1 = 0
  · rw [if_neg (by simp [hF])] at hv
    obtain ⟨hN0, hx0, hxn⟩ := askF_ok hF
    obtain ⟨h60, h3, hok⟩ := netF_ok hN0
    have HOK : Hid (∀ x ∈ bag, totSegm x ≤ 8 ∧ sgF x = 0) := fun x hx => by have := sgF_ok (hok x hx).1; exact ⟨by omega, (hok x hx).1⟩
    rw [hF]
    obtain ⟨k, hk⟩ : ∃ k : Nat, x1 = k := ⟨x1.toNat, by omega⟩
    have hkn : k < bag.length := by omega
    have HD3 : Hid (dead.length = 3) := h3
    have HCP : Hid (∀ W, Below w.heap.size w W → Calls Try.prog 71 #[.agg A] W fun e w' => ∃ N : Array Value, e = .returned (.agg N) ∧ NetP 104 w' W.heap.size bag dead N ∧ Below W.heap.size W w') := fun W hW => by rw [HA2.out]; exact iCopyNet _ bag dead _ _ W B (HRb.out W hW) (HRd.out W hW) (Nat.le_trans hB hW.size) hN0
    have HN00 : Hid (netF bag dead = 0) := hN0
    clear hok HAK hF hN0
    have e1 : x1.toNat = k := by omega
    rw [e1] at hv
    obtain ⟨m1, hnb⟩ : ∃ m1, bag.length = m1 + 1 := ⟨bag.length - 1, by omega⟩
    have HNB : Hid (bag.length = m1 + 1) := hnb
    clear HRb HRd HA2 HRA HN00 HOK e1
    rw [hnb] at a0 h60 hmx hkn
    rw [HD3.out] at a1
    subst hk
    go_wp2_with (refine wpList_load_mid rfl 44 _ rfl _ _ (by rfl) A.toList _ (bx_range kA) Try.underlying44 rfl HIA.out ?_)
    refine (HCP.out _ HB.out).mono ?_
    rintro e u1 ⟨N, rfl, hnp, hb⟩
    have hz1 := hb.size
    have hNz := hnp.size
    have HNZ : Hid (N.size = 2) := hNz
    have HIN : Hid ((Try.prog.info? 44).map (·.size) = some N.size) := by show _ = _; rw [hNz]; exact info_NT
    have HONE : Hid (N.all (·.oneCell') = true) := hnp.one
    obtain ⟨m, va, da', vc, dc, eN, xd, xo, lm, lh⟩ := hnp
    rw [HD3.out] at eN xd
    have HEN : Hid _ := eN
    obtain ⟨w0, ew0⟩ : ∃ x, x = w2.heap.size := ⟨_, rfl⟩
    have hwz0 : w.heap.size + 2 ≤ w0 := by omega
    have hm1 : w0 ≤ m := by omega
    obtain ⟨hh, ehh⟩ : ∃ x, x = u1.heap.size := ⟨_, rfl⟩
    have XD : Hid (Own u1 w0 m (bls 104) dead [.slice da' 3 dc]) := by rw [ew0]; exact xd
    have XO : Hid (Own u1 m hh shSegms bag [.slice va bag.length vc]) := by rw [ehh]; exact xo
    have lh2 : m ≤ hh := by rw [ehh]; exact lh
    have lh3 : hh ≤ u1.heap.size := by omega
    clear hNz eN xd xo ew0 HCP lm lh
    replace kA := bx_below kA zA hb
    replace zA := Nat.lt_of_lt_of_le zA hb.size
    replace kR := bx_below kR zR hb
    replace fR := bxF fR hb zR
    replace zR := Nat.lt_of_lt_of_le zR hb.size
    replace HB : Hid (Below w.heap.size w u1) := HB.out.trans (hb.mono HB.out.size)
    clear hb
    clear ehh
    have HTH : Hid ((u1.alloc (.cells #[.slice none 0 0, .slice none 0 0] 44)).there u1.heap.size 0 N.size) := bx_there (bx_al _ _ _) (fx_al _ _ _) (by rw [HNZ.out]; rfl)
    have HWN : Hid (Below u1.heap.size u1 ((u1.alloc (.cells #[.slice none 0 0, .slice none 0 0] 44)).setCells u1.heap.size 0 N.toList) ∧ u1.heap.size < ((u1.alloc (.cells #[.slice none 0 0, .slice none 0 0] 44)).setCells u1.heap.size 0 N.toList).heap.size ∧ (∀ o, ((u1.alloc (.cells #[.slice none 0 0, .slice none 0 0] 44)).setCells u1.heap.size 0 N.toList).cell? ⟨u1.heap.size, o, none⟩ = N[o]?) ∧ (∀ o, ((u1.alloc (.cells #[.slice none 0 0, .slice none 0 0] 44)).setCells u1.heap.size 0 N.toList).frozen? ⟨u1.heap.size, o, none⟩ = false) ∧ (∃ cur, ((u1.alloc (.cells #[.slice none 0 0, .slice none 0 0] 44)).setCells u1.heap.size 0 N.toList).heap[u1.heap.size]? = some (.cells cur 44 (0, 0)))) := ⟨setCells_below (Nat.le_refl _) _ _ _ _ ((Below.refl _ _).alloc (Nat.le_refl _) _), by rw [setCells_size]; simp, bx_setCells (bx_al u1 _ _) (by rw [HNZ.out]; rfl), fx_sets (fx_al _ _ _), al_tyN _ _ _ _⟩
    go_upto_region 5 with (refine wpList_store_mid rfl 44 _ _ rfl _ _ N (by rfl) (by rfl) HTH.out HIN.out HONE.out ?_)
    generalize hWW : ((u1.alloc (.cells #[.slice none 0 0, .slice none 0 0] 44)).setCells u1.heap.size 0 N.toList) = u2 at HWN ⊢
    clear hWW HTH HIN HONE HNZ
    obtain ⟨hb, zQ, kQ, fQ, tQ⟩ := HWN.out
    clear HWN
    replace XD : Hid (Own u2 w0 m (bls 104) dead [.slice da' 3 dc]) := Own.below XD.out (by omega) hb
    replace XO : Hid (Own u2 m hh shSegms bag [.slice va bag.length vc]) := Own.below XO.out (by omega) hb
    obtain ⟨q, hq⟩ : ∃ q, q = u1.heap.size := ⟨_, rfl⟩
    have hqh : hh ≤ q := by omega
    replace kA := bx_below kA zA hb
    replace zA := Nat.lt_of_lt_of_le zA hb.size
    replace kR := bx_below kR zR hb
    replace fR := bxF fR hb zR
    replace zR := Nat.lt_of_lt_of_le zR hb.size
    replace HB : Hid (Below w.heap.size w u2) := HB.out.trans (hb.mono HB.out.size)
    clear hb
    rw [← hq] at zQ kQ fQ tQ ⊢
    have TQ : Hid _ := tQ
    clear hq lh3 hz1 tQ
    rw [HEN.out] at kQ
    clear HEN
    rw [hnb] at XO kQ
    clear hnb
    obtain ⟨T, hTb, hRT⟩ := Own.rowT XO.out
    have hTl : T.length = m1 + 1 := by rw [← HNB.out, ← hTb]; simp
    obtain ⟨g, hg, hg1, hg2⟩ := hRT.some' (by omega)
    subst hg
    have hkT : k < T.length := by omega
    have hgd : bag.getD k zSg = T[k].1 := by rw [← hTb, List.getD_eq_getElem?_getD, List.getElem?_eq_getElem (by simpa using hkT)]; simp
    have HV2 : Hid (V = (0, T[k].1, ((T.eraseIdx k).map (·.1), dead, ()), ())) := by show _ = _; rw [hv, hgd, map_erase, hTb]
    have hrg := hRT.range hkT
    have hlen := (hRT.lens hkT).2.2
    have HELR : Hid (∀ b ∈ T[k].2.1, m ≤ b ∧ b < hh ∧ b ≠ g) := fun b hb => by have := hRT.rg b (List.mem_flatten.2 ⟨T[k].2.1, List.mem_map.2 ⟨_, List.getElem_mem hkT, rfl⟩, hb⟩); exact ⟨this.1, this.2.1, fun e => this.2.2 (by rw [e]; rfl)⟩
    have hel := hRT.el _ (List.getElem_mem hkT)
    have HONX0 := ow_one hel
    have HND : Hid _ := hRT.nd
    have hle := hRT.own.1
    have HRT : Hid (RowT u2 m hh (.slice (some ⟨g, 0, none⟩) (m1 + 1) vc) T) := hRT
    obtain ⟨cs, hcs⟩ : ∃ cs, cs = T[k].2.2 := ⟨_, rfl⟩
    rw [← hcs] at hrg hlen HONX0
    obtain ⟨e0, e1, e2, e3, e4, e5, e6, e7, e8, e9, e10, e11, hce⟩ := lst12 hlen
    have HCS : Hid (T[k].2.2 = [e0, e1, e2, e3, e4, e5, e6, e7, e8, e9, e10, e11]) := by show _ = _; rw [← hcs, hce]
    obtain ⟨cA, hcA⟩ : ∃ c : Array Value, c = #[e0, e1, e2, e3, e4, e5, e6, e7, e8, e9, e10, e11] := ⟨_, rfl⟩
    have HLX : Hid (cA.size = 12) := by show _ = _; rw [hcA]; rfl
    have HIX2 : Hid ((Try.prog.info? 48).map (·.size) = some cA.size) := by show _ = _; rw [HLX.out]; exact info_SG12
    have HIX : Hid ((Try.prog.info? 48).map (·.size) = some cs.length) := by show _ = _; rw [hlen]; exact info_SG12
    have HIX3 : Hid ((Try.prog.info? 48).map (·.size) = some cA.toList.length) := by show _ = _; rw [Array.length_toList]; exact HIX2.out
    have HONX : Hid (cA.all (·.oneCell') = true) := by show _ = _; rw [show cA = cs.toArray by rw [hcA, hce]]; exact all_oneCell_toArray HONX0
    have HCA : Hid (cs.toArray = cA) := by show _ = _; rw [hcA, hce]
    have HG : Hid (u2.rangeAt g (k * 12) cs) := hrg
    clear hTb hRT hgd hrg hlen hel HONX0 hle hce XO hcs hv
    have hkc : (k : Int) < (m1 : Int) + 1 := by omega
    have hk0 : (0 : Int) ≤ (k : Int) := by omega
    have hwr : IntKind.i64.wrap ((k : Int) + 1) = (k : Int) + 1 := by rw [IntKind.wrap_i64]; omega
    have lXD : m ≤ u2.heap.size := by omega
    have hhu : hh ≤ u2.heap.size := by omega
    have HTH : Hid ((u2.alloc (.cells #[.int .i64 0, .int .i64 0, .bool false, .bool false, .bool false, .int .i64 0, .int .i64 0, .int .i64 0, .int .i64 0, .int .i64 0, .int .i64 0, .slice none 0 0] 48)).there u2.heap.size 0 cA.size) := bx_there (bx_al _ _ _) (fx_al _ _ _) (by rw [HLX.out]; rfl)
    have HWN : Hid (Below u2.heap.size u2 ((u2.alloc (.cells #[.int .i64 0, .int .i64 0, .bool false, .bool false, .bool false, .int .i64 0, .int .i64 0, .int .i64 0, .int .i64 0, .int .i64 0, .int .i64 0, .slice none 0 0] 48)).setCells u2.heap.size 0 cA.toList) ∧ u2.heap.size < ((u2.alloc (.cells #[.int .i64 0, .int .i64 0, .bool false, .bool false, .bool false, .int .i64 0, .int .i64 0, .int .i64 0, .int .i64 0, .int .i64 0, .int .i64 0, .slice none 0 0] 48)).setCells u2.heap.size 0 cA.toList).heap.size ∧ (∀ o, ((u2.alloc (.cells #[.int .i64 0, .int .i64 0, .bool false, .bool false, .bool false, .int .i64 0, .int .i64 0, .int .i64 0, .int .i64 0, .int .i64 0, .int .i64 0, .slice none 0 0] 48)).setCells u2.heap.size 0 cA.toList).cell? ⟨u2.heap.size, o, none⟩ = cA[o]?) ∧ (∀ o, ((u2.alloc (.cells #[.int .i64 0, .int .i64 0, .bool false, .bool false, .bool false, .int .i64 0, .int .i64 0, .int .i64 0, .int .i64 0, .int .i64 0, .int .i64 0, .slice none 0 0] 48)).setCells u2.heap.size 0 cA.toList).frozen? ⟨u2.heap.size, o, none⟩ = false)) := ⟨setCells_below (Nat.le_refl _) _ _ _ _ ((Below.refl _ _).alloc (Nat.le_refl _) _), by rw [setCells_size]; simp, bx_setCells (bx_al u2 _ _) (by rw [HLX.out]; rfl), fx_sets (fx_al _ _ _)⟩
    go_upto_region 6 with (first | (refine wpList_load_mid rfl 48 _ rfl _ _ (by rfl) cs _ HG.out Try.underlying48 rfl HIX.out ?_) | (refine wpList_store_mid rfl 48 _ _ rfl _ _ cA (by rfl) (by rw [← HCA.out]; rfl) HTH.out HIX2.out HONX.out ?_))
    generalize hWW : ((u2.alloc (.cells #[.int .i64 0, .int .i64 0, .bool false, .bool false, .bool false, .int .i64 0, .int .i64 0, .int .i64 0, .int .i64 0, .int .i64 0, .int .i64 0, .slice none 0 0] 48)).setCells u2.heap.size 0 cA.toList) = u3 at HWN ⊢
    clear hWW HTH
    obtain ⟨hb, zP, kP, fP⟩ := HWN.out
    clear HWN
    obtain ⟨bP, hq⟩ : ∃ q, q = u2.heap.size := ⟨_, rfl⟩
    rw [← hq] at zP kP fP ⊢
    have lAP : w.heap.size < bP := by rw [hq]; exact zA
    have lRP : w.heap.size + 1 < bP := by rw [hq]; exact zR
    have lQP : q < bP := by rw [hq]; exact zQ
    have lXDP : m ≤ bP := by omega
    have lwP : w.heap.size ≤ bP := by rw [hq]; exact HB.out.size
    clear hq
    replace kA := bx_below kA zA hb
    replace zA := Nat.lt_of_lt_of_le zA hb.size
    replace kR := bx_below kR zR hb
    replace fR := bxF fR hb zR
    replace zR := Nat.lt_of_lt_of_le zR hb.size
    replace kQ := bx_below kQ zQ hb
    replace fQ := bxF fQ hb zQ
    replace zQ := Nat.lt_of_lt_of_le zQ hb.size
    replace XD : Hid (Own u3 w0 m (bls 104) dead [.slice da' 3 dc]) := Own.below XD.out (by omega) hb
    replace lXD : m ≤ u3.heap.size := Nat.le_trans lXD hb.size
    replace HRT : Hid (RowT u3 m hh (.slice (some ⟨g, 0, none⟩) (m1 + 1) vc) T) := RowT.below HRT.out hb hhu
    replace HB : Hid (Below w.heap.size w u3) := HB.out.trans (hb.mono HB.out.size)
    clear hb
    clear HG HONX HIX HIX2
    go_wp2_with fail
    refine (iDelete HRT.out hTl (by omega)).mono ?_
    rintro e u4 ⟨rfl, hRT4, hblk, hsz, hbl⟩
    replace kR : ∀ o, u4.cell? ⟨w.heap.size + 1, o, none⟩ = (#[.int .i64 0, .int .i64 0, .int .i64 0, .bool false, .bool false, .bool false, .int .i64 0, .int .i64 0, .int .i64 0, .int .i64 0, .int .i64 0, .int .i64 0, .slice none 0 0, .slice none 0 0, .slice none 0 0] : Array Value)[o]? := bx_keep kR (hblk (w.heap.size + 1) (by omega))
    replace fR := fx_blk fR (hblk (w.heap.size + 1) (by omega))
    replace kQ : ∀ o, u4.cell? ⟨q, o, none⟩ = (#[.slice (some ⟨g, 0, none⟩) (m1 + 1) vc, .slice da' 3 dc] : Array Value)[o]? := bx_keep kQ (hblk (q) (by omega))
    replace fQ := fx_blk fQ (hblk (q) (by omega))
    replace kP : ∀ o, u4.cell? ⟨bP, o, none⟩ = cA[o]? := bx_keep kP (hblk (bP) (by omega))
    replace fP := fx_blk fP (hblk (bP) (by omega))
    have el4 : Hid (shSegm.Ow u4 T[k].2.1 T[k].1 T[k].2.2) := Sh.Ow.keep _ _ _ _ (fun b hb => hblk b (HELR.out b hb).2.2) (HRT.out.el _ (List.getElem_mem hkT))
    replace XD : Hid (Own u4 w0 m (bls 104) dead [.slice da' 3 dc]) := Own.below XD.out (Nat.le_refl _) hbl
    have HRT4 : Hid _ := hRT4
    replace HB : Hid (Below w.heap.size w u4) := HB.out.trans (hbl.mono (by omega))
    have zQ4 : q < u4.heap.size := by omega
    have zP4 : bP < u4.heap.size := by omega
    clear hRT4 hblk hbl HRT kA zA zR zQ zP
    go_upto_region 7 with fail
    replace kQ := bx_put kQ (k := 0) (v := .slice (some ⟨g, 0, none⟩) m1 vc) (by simp)
    simp only [List.setIfInBounds_toArray, List.set_cons_zero] at kQ
    replace kR : ∀ o, (u4.setCell ⟨q, 0, none⟩ (.slice (some ⟨g, 0, none⟩) m1 vc)).cell? ⟨w.heap.size + 1, o, none⟩ = (#[.int .i64 0, .int .i64 0, .int .i64 0, .bool false, .bool false, .bool false, .int .i64 0, .int .i64 0, .int .i64 0, .int .i64 0, .int .i64 0, .int .i64 0, .slice none 0 0, .slice none 0 0, .slice none 0 0] : Array Value)[o]? := bx_setC kR (by omega)
    replace fR : ∀ o, (u4.setCell ⟨q, 0, none⟩ (.slice (some ⟨g, 0, none⟩) m1 vc)).frozen? ⟨w.heap.size + 1, o, none⟩ = false := fx_setC fR
    replace kP : ∀ o, (u4.setCell ⟨q, 0, none⟩ (.slice (some ⟨g, 0, none⟩) m1 vc)).cell? ⟨bP, o, none⟩ = cA[o]? := bx_setC kP (by omega)
    have HR5 : Hid (RowT (u4.setCell ⟨q, 0, none⟩ (.slice (some ⟨g, 0, none⟩) m1 vc)) m hh (.slice (some ⟨g, 0, none⟩) m1 vc) (T.eraseIdx k)) := RowT.setp HRT4.out hqh
    have el5 : Hid (shSegm.Ow (u4.setCell ⟨q, 0, none⟩ (.slice (some ⟨g, 0, none⟩) m1 vc)) T[k].2.1 T[k].1 T[k].2.2) := Sh.Ow.keep _ _ _ _ (fun b hb => Below.heap_setCell _ _ _ _ (by dsimp only; have := (HELR.out b hb).2.1; omega)) el4.out
    replace XD : Hid (Own (u4.setCell ⟨q, 0, none⟩ (.slice (some ⟨g, 0, none⟩) m1 vc)) w0 m (bls 104) dead [.slice da' 3 dc]) := Own.keep XD.out (fun b h1 h2 => Below.heap_setCell _ _ _ _ (by dsimp only; omega))
    replace HB : Hid (Below w.heap.size w (u4.setCell ⟨q, 0, none⟩ (.slice (some ⟨g, 0, none⟩) m1 vc))) := Below.setCell (p := ⟨q, 0, none⟩) HB.out (show w.heap.size ≤ q by omega) _
    have hz5 : hh ≤ (u4.setCell ⟨q, 0, none⟩ (.slice (some ⟨g, 0, none⟩) m1 vc)).heap.size := by simp; omega
    generalize hWW : u4.setCell ⟨q, 0, none⟩ (.slice (some ⟨g, 0, none⟩) m1 vc) = u5 at kQ kR fR kP HR5 el5 XD HB hz5 ⊢
    clear hWW HRT4 el4 zQ4 zP4 hsz fQ fP
    have HO : Hid (Own u5 w0 u5.heap.size (shNR 104) (0, T[k].1, ((T.eraseIdx k).map (·.1), dead, ()), ()) (.int .i64 0 :: ([e0, e1, e2, e3, e4, e5, e6, e7, e8, e9, e10, e11] ++ [.slice (some ⟨g, 0, none⟩) m1 vc, .slice da' 3 dc]))) := by have h := Own.mono (own_take hkT HR5.out el5.out HND.out HELR.out XD.out hm1 lh2) (Nat.le_refl _) hz5; rw [HCS.out] at h; exact h
    clear HR5 el5 XD HND HELR HCS
    obtain ⟨N15, hN⟩ : ∃ N : Array Value, N = #[.int .i64 0, e0, e1, e2, e3, e4, e5, e6, e7, e8, e9, e10, e11, .slice (some ⟨g, 0, none⟩) m1 vc, .slice da' 3 dc] := ⟨_, rfl⟩
    have HN15 : Hid _ := hN
    have hNz : N15.size = 15 := by rw [hN]; rfl
    have HNZ15 : Hid (N15.size = 15) := hNz
    have HIN15 : Hid ((Try.prog.info? 50).map (·.size) = some N15.size) := by show _ = _; rw [hNz]; exact info_NR
    have HONE15 : Hid (N15.all (·.oneCell') = true) := rd_all (s := shNR 104) (by rw [hN]; exact HO.out.rd (Nat.le_refl _))
    clear hN hNz
    have HTH : Hid (u5.there (w.heap.size + 1) 0 N15.size) := bx_there kR fR (by rw [HNZ15.out]; rfl)
    have HKR : Hid (∀ o, (u5.setCells (w.heap.size + 1) 0 N15.toList).cell? ⟨w.heap.size + 1, o, none⟩ = N15[o]?) := bx_setCells kR (by rw [HNZ15.out]; rfl)
    subst hcA
    go_wp2_with (first | (refine wpList_load_mid rfl 44 _ rfl _ _ (by rfl) [.slice (some ⟨g, 0, none⟩) m1 vc, .slice da' 3 dc] _ (bx_range kQ) Try.underlying44 rfl info_NT ?_) | (refine wpList_load_mid rfl 48 _ rfl _ _ (by rfl) [e0, e1, e2, e3, e4, e5, e6, e7, e8, e9, e10, e11] _ (bx_range kP) Try.underlying48 rfl info_SG12 ?_) | (refine wpList_store_mid rfl 50 _ _ rfl _ _ N15 (by rfl) (by rw [HN15.out]; rfl) HTH.out HIN15.out HONE15.out ?_))
    refine bodyPost_ret (results_box Try.results24 _ _ _ N15 _ (by rfl) HKR.out Try.underlying50 rfl (by exact HIN15.out)) rfl ⟨N15, rfl, ?_, ?_⟩
    · rw [setCells_size, HN15.out, HV2.out]
      exact (Own.keep HO.out (fun b h1 h2 => setCells_block (by omega) _ _ _)).mono (by omega) (Nat.le_refl _)
    · exact setCells_below (by omega) _ _ _ _ HB.out
  · rw [if_pos hF] at hv
    have h1 : (askF bag dead x1 != 0) = true := by simp [hF]
    have h2 : (askF bag dead x1 == 0) = false := by simp [hF]
    clear HAK
    generalize askF bag dead x1 = q at *
    obtain ⟨N15, hN⟩ : ∃ N : Array Value, N = #[.int .i64 q, .int .i64 0, .int .i64 0, .bool false, .bool false, .bool false, .int .i64 0, .int .i64 0, .int .i64 0, .int .i64 0, .int .i64 0, .int .i64 0, .slice none 0 0, .slice none 0 0, .slice none 0 0] := ⟨_, rfl⟩
    have HN15 : Hid _ := hN
    have hNz : N15.size = 15 := by rw [hN]; rfl
    have HNZ15 : Hid (N15.size = 15) := hNz
    have HIN15 : Hid ((Try.prog.info? 50).map (·.size) = some N15.size) := by show _ = _; rw [hNz]; exact info_NR
    have HONE15 : Hid (N15.all (·.oneCell') = true) := by show _ = _; rw [hN]; simp [Value.oneCell']
    clear hN hNz
    have HTH : Hid (w2.there (w.heap.size + 1) 0 N15.size) := bx_there kR fR (by rw [HNZ15.out]; rfl)
    have HKR : Hid (∀ o, (w2.setCells (w.heap.size + 1) 0 N15.toList).cell? ⟨w.heap.size + 1, o, none⟩ = N15[o]?) := bx_setCells kR (by rw [HNZ15.out]; rfl)
    go_wp2_with (first | (refine wpList_store_mid rfl 50 _ _ rfl _ _ N15 (by rfl) (by rw [HN15.out]; rfl) HTH.out HIN15.out HONE15.out ?_))
    refine bodyPost_ret (results_box Try.results24 _ _ _ N15 _ (by rfl) HKR.out Try.underlying50 rfl (by exact HIN15.out)) rfl ⟨N15, rfl, ?_, ?_⟩
    · rw [setCells_size, HN15.out]
      exact (Own.keep (by rw [hv]; exact own_badN _ w2 (w.heap.size + 2) w2.heap.size HWF.out (by omega)) (fun b h1 h2 => setCells_block (by omega) _ _ _)).mono (by omega) (Nat.le_refl _)
    · exact setCells_below (by omega) _ _ _ _ HB.out
end Go.Proofs.Ytebgibjokljlbaa

/- The model's l12Take and TakeNet; nothing that was in memory turns; the condition is that there are at most a million parts. Written by mknet17.py. -/
namespace Go.Proofs.Ytebgibjokljlbaa
open Go.RowKit
set_option linter.unusedVariables false
set_option maxRecDepth 8000
theorem run_app_row (w : World) (ty : TypeId) (base : Nat) (v : Value) (n : Nat) (xs : List Value) (hown : w.ownsRow base 48 12 v n xs)
    (ad : Option Addr) (m c : Nat) (news : List Value) (hnil : ad = none → m = 0 ∧ c = 0) (hl : news.length = m * 12) (hnews : ∀ q, ad = some q → ∀ j u, news[j]? = some u → w.cell? (q.add j) = some u) (h1 : ∀ u ∈ news, u.oneCell' = true) (hn : n + m ≤ 8388608) (hb : base ≤ w.heap.size) :
    ∃ va vc w', (Builtin.append_ #[41, 41] ty #[v, .slice ad m c]).run Try.prog w = .ok (.slice va (n + m) vc) w' ∧ w'.ownsRow base 48 12 (.slice va (n + m) vc) (n + m) (xs ++ news) ∧ Below base w w' ∧ (v ≠ Value.slice none 0 0 → Value.slice va (n + m) vc ≠ Value.slice none 0 0) := by
  obtain ⟨i0, hi, hz0, hz1, hz2⟩ := info_parts info_SZ
  cases ad with
  | none =>
    obtain ⟨rfl, rfl⟩ := hnil rfl
    have e : news = [] := List.length_eq_zero_iff.1 (by simpa using hl)
    subst e
    have hrun := run_append_owned_none (P := Try.prog) w base 41 ty 48 i0 12 Try.underlying41 hi v n _ hown
    obtain ⟨va, vc, e⟩ := ownsRow_form hown
    subst e
    exact ⟨va, vc, w, hrun, by rw [List.append_nil]; exact hown, Below.refl _ _, fun h => h⟩
  | some ad =>
    obtain ⟨v', w', q0, q1, q2, q3, q4⟩ := run_append_own_at (P := Try.prog) w base 41 ty 48 i0 _ 12 96 Try.underlying41 hi hz0 hz1 hz2 rfl (by decide) v n xs hown ad m c news hl (hnews ad rfl) h1 (by unfold maxLen; omega) (by omega) hb
    obtain ⟨va, vc, e⟩ := ownsRow_form q1
    subst e
    exact ⟨va, vc, w', q0, q1, (Below.refl _ _).grown q2 hb (fun k hk => (hown.lt k hk).1), fun h e => h (q3.1 e).1⟩
theorem app_row_st {ops : Array Oper} {o : Oper} {a : Act} {Q : Exit → Act → World → Prop} {K : Act → World → Prop} {E : Prop} (w : World) (hgd : o.guard = none) (s x : Operand)
    (ho : o.op = .call { callee := .builtin .append, args := #[s, x], argTypes := #[41, 41] }) (base : Nat) (v : Value) (n : Nat) (xs : List Value) (hs : a.eval s = v) (hown : w.ownsRow base 48 12 v n xs)
    (ad : Option Addr) (m c : Nat) (news : List Value) (hx : a.eval x = .slice ad m c) (hnil : ad = none → m = 0 ∧ c = 0) (hl : news.length = m * 12) (hnews : ∀ q, ad = some q → ∀ j u, news[j]? = some u → w.cell? (q.add j) = some u) (h1 : ∀ u ∈ news, u.oneCell' = true) (hn : n + m ≤ 8388608) (hb : base ≤ w.heap.size)
    (hK : ∀ va vc w', w'.ownsRow base 48 12 (.slice va (n + m) vc) (n + m) (xs ++ news) → Below base w w' → (v ≠ Value.slice none 0 0 → Value.slice va (n + m) vc ≠ Value.slice none 0 0) → K (a.put o.dst (.slice va (n + m) vc)) w') :
    if Region.wanted o (yielded ops a.tmps) = true then Oper.wp Try.prog o a w K Q else E := by
  have hw : Region.wanted o (yielded ops a.tmps) = true := by simp [Region.wanted, hgd]
  rw [if_pos hw]
  obtain ⟨va, vc, w', hr, q1, q2, q3⟩ := run_app_row w o.type base v n xs hown ad m c news hnil hl hnews h1 hn hb
  unfold Oper.wp execOp
  simp only [ho, resolve, invoke, builtin, Sem.run_bind, Sem.run_pure, Result.andThen_ok, List.map_toArray, List.map_cons, List.map_nil, hs, hx, hr]
  exact hK va vc w' q1 q2 q3
theorem own_nn {w : World} {base : Nat} {a : Option Addr} {n c : Nat} {xs : List Value} (h : w.ownsRow base 48 12 (.slice a n c) n xs) (hn : Value.slice a n c ≠ .slice none 0 0) : ∃ g, a = some ⟨g, 0, none⟩ := by
  rcases h.2 with ⟨e, -⟩ | ⟨g, cp, cu, e, -⟩
  · exact absurd e hn
  · simp only [Value.slice.injEq] at e; exact ⟨g, e.1⟩
theorem RowT.offb {w w' : World} {lo hi p : Nat} {v : Value} {T : List El3} (h : RowT w lo hi v T) (hv : v.ownBlock ≠ some p) (hn : ∀ b ∈ (T.map (·.2.1)).flatten, b ≠ p) (hk : ∀ b, b ≠ p → w'.heap[b]? = w.heap[b]?) : RowT w' lo hi v T :=
  ⟨ownsRow_below h.own (fun b e => hk b (fun e2 => hv (e2 ▸ e))), h.hv, fun x hx => Sh.Ow.keep _ _ _ _ (fun b hbx => hk b (hn b (List.mem_flatten.2 ⟨x.2.1, List.mem_map.2 ⟨x, hx, rfl⟩, hbx⟩))) (h.el x hx), h.nd, h.rg⟩
end Go.Proofs.Ytebgibjokljlbaa

/- The model's TakeNet; nothing that was in memory turns; the condition is that there are at most a million parts. Written by mknet18.py. -/
namespace Go.Proofs.Ytebgibjokljlbaa
open Go.RowKit
set_option linter.unusedVariables false
set_option maxRecDepth 8000
end Go.Proofs.Ytebgibjokljlbaa
