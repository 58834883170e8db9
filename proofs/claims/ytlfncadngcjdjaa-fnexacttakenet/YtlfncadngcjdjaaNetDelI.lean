/- One segment gone from a row in its place: slices.Delete; nothing else turns; no condition. -/
import Derived.Test.YtlfncadngcjdjaaRows
import Derived.Test.YtlfncadngcjdjaaBase
import Derived.Test.YtlfncadngcjdjaaBytes
import Derived.Test.YtlfncadngcjdjaaMem
import Derived.Test.YtlfncadngcjdjaaMemOpen
import Derived.Test.YtlfncadngcjdjaaMemRow
import Derived.Test.YtlfncadngcjdjaaHBase
import Derived.Test.YtlfncadngcjdjaaMemApp
import Derived.Test.YtlfncadngcjdjaaAgg
import Derived.Test.YtlfncadngcjdjaaMSegs
import Derived.Test.YtlfncadngcjdjaaHSegT
import Derived.Test.YtlfncadngcjdjaaNetSeg
import Derived.Test.YtlfncadngcjdjaaNetBx
import Derived.Test.YtlfncadngcjdjaaNetRow
import Derived.Test.YtlfncadngcjdjaaNetDel
import Derived.Deep.RegionLaw
import Derived.Deep.DeepMust
import Derived.Lib.SliceRun
import Derived.Shelf.RegionOpen
import Derived.Shelf.RegionOpenPlain
namespace Go.Proofs.Ytlfncadngcjdjaa
open Go.RowKit
set_option linter.unusedVariables false
set_option maxRecDepth 8000
abbrev zAg : Value := .agg #[.int .i64 0, .int .i64 0, .bool false, .bool false, .bool false, .int .i64 0, .int .i64 0, .int .i64 0, .int .i64 0, .int .i64 0, .int .i64 0, .slice none 0 0]
theorem zero_SG (w : World) : (zeroValue 31).run Try.prog w = .ok zAg w := by
  obtain ⟨i0, hi, hz0, hz1, hz2⟩ := info_parts info_SZ
  simp [zeroValue, typeInfo, hi, hz0]
theorem setCells_owns {w : World} {base g n cap off : Nat} {xs vs : List Value} (h : w.ownsRow base 31 12 (.slice (some ⟨g, 0, none⟩) n cap) n xs) : (w.setCells g off vs).ownsRow base 31 12 (.slice (some ⟨g, 0, none⟩) n cap) n (setL xs off vs) := by
  have := (setRow_owns (w := w) vs w xs off h).1
  rwa [setRow_cellsN] at this
set_option maxHeartbeats 2000000 in
theorem iDelete {w : World} {lo hi g m cap k : Nat} {T : List El3} (hR : RowT w lo hi (.slice (some ⟨g, 0, none⟩) (m + 1) cap) T) (hT : T.length = m + 1) (hkm : k ≤ m) :
    Calls Try.prog 55 #[.slice (some ⟨g, 0, none⟩) (m + 1) cap, .int .i64 k, .int .i64 ((k : Int) + 1)] w fun e w' => e = .returned (.slice (some ⟨g, 0, none⟩) m cap) ∧ RowT w' lo hi (.slice (some ⟨g, 0, none⟩) m cap) (T.eraseIdx k) ∧ (∀ b, b ≠ g → w'.heap[b]? = w.heap[b]?) ∧ w'.heap.size = w.heap.size ∧ Below lo w w' := by
  obtain ⟨i0, hi0, hz0, hz1, hz2⟩ := info_parts info_SZ
  have hk : k < T.length := by omega
  have hown := hR.own
  rw [hT] at hown
  obtain ⟨lA, lC, lM⟩ := hR.lens hk
  have hcap : m + 1 ≤ cap ∧ cap ≤ 9223372036854775807 := by
    obtain ⟨-, ⟨e, -⟩ | ⟨g', cap', cur, e, -, -, q1, q2, -⟩⟩ := hown
    · simp at e
    · simp only [Value.slice.injEq] at e
      obtain ⟨-, -, rfl⟩ := e
      unfold maxLen at q2
      exact ⟨q1, q2⟩
  obtain ⟨hc1, hc2⟩ := hcap
  have hg0 : lo ≤ g := (hown.lt g rfl).1
  have hgw : g < w.heap.size := (hown.lt g rfl).2
  have hone : ∀ u ∈ ((T.drop (k + 1)).map (·.2.2)).flatten, u.oneCell' = true := fun u hu => by
    obtain ⟨c, hc, hu⟩ := List.mem_flatten.1 hu
    obtain ⟨x, hx, rfl⟩ := List.mem_map.1 hc
    exact ow_one (hR.el x (List.mem_of_mem_drop hx)) u hu
  have hsp := cells_split hk
  have hcell : ∀ j, j < (m + 1) * 12 → w.cell? ⟨g, j, none⟩ = (T.map (·.2.2)).flatten[j]? := fun j hj => hown.cellAt j hj
  have hfz : ∀ j, w.frozen? ⟨g, j, none⟩ = false := fun j => hown.frozenAt j
  have hxl : (T.map (·.2.2)).flatten.length = (m + 1) * 12 := hown.1
  obtain ⟨q, hq⟩ : ∃ q, q = m - k := ⟨_, rfl⟩
  have lC' : ((T.drop (k + 1)).map (·.2.2)).flatten.length = q * 12 := by rw [lC, hT, hq]; congr 1; omega
  have hEI : ((T.eraseIdx k).map (·.2.2)).flatten = ((T.take k).map (·.2.2)).flatten ++ ((T.drop (k + 1)).map (·.2.2)).flatten := by rw [List.eraseIdx_eq_take_drop_succ, List.map_append, List.flatten_append]
  have hEL : (T.eraseIdx k).length = m := by rw [List.length_eraseIdx_of_lt hk, hT]; omega
  rw [hsp] at hown hxl hcell
  generalize hAA : ((T.take k).map (·.2.2)).flatten = AA at *
  generalize hCC : ((T.drop (k + 1)).map (·.2.2)).flatten = CC at *
  generalize hMM : T[k].2.2 = MM at *
  obtain ⟨W1, hW1⟩ : ∃ W1, W1 = w.drew.setCells g (k * 12) CC := ⟨_, rfl⟩
  obtain ⟨W2, hW2⟩ : ∃ W2, W2 = W1.setCells g (m * 12) zAg.cells.toList := ⟨_, rfl⟩
  have hownd : w.drew.ownsRow lo 31 12 (.slice (some ⟨g, 0, none⟩) (m + 1) cap) (m + 1) (AA ++ (MM ++ CC)) := hown
  have hown1 : W1.ownsRow lo 31 12 (.slice (some ⟨g, 0, none⟩) (m + 1) cap) (m + 1) (setL (AA ++ (MM ++ CC)) (k * 12) CC) := by rw [hW1]; exact setCells_owns hownd
  have hown2 : W2.ownsRow lo 31 12 (.slice (some ⟨g, 0, none⟩) (m + 1) cap) (m + 1) (setL (setL (AA ++ (MM ++ CC)) (k * 12) CC) (m * 12) zAg.cells.toList) := by rw [hW2]; exact setCells_owns hown1
  have hkq : k + q = m := by omega
  have hfin : W2.ownsRow lo 31 12 (.slice (some ⟨g, 0, none⟩) m cap) m (AA ++ CC) := by
    have h := ownsRow_cut hown2 (m := m) (by omega)
    have e : (setL (setL (AA ++ (MM ++ CC)) (k * 12) CC) (m * 12) zAg.cells.toList).take (m * 12) = AA ++ CC := by
      have h2 := setL_take (A := AA) (M := MM) (C := CC) (z := zAg.cells.toList) lM rfl
      rw [lA, lC', ← Nat.add_mul, hkq] at h2
      exact h2
    rw [e] at h
    exact h
  have hblk : ∀ b, b ≠ g → W2.heap[b]? = w.heap[b]? := fun b hb => by
    rw [hW2, setCells_block hb, hW1, setCells_block hb]; rfl
  have hsz2 : W2.heap.size = w.heap.size := by rw [hW2, setCells_size, hW1, setCells_size]; rfl
  have hbl : Below lo w W2 := by
    rw [hW2, hW1]
    exact setCells_below hg0 _ _ _ _ (setCells_below hg0 _ _ _ _ ((Below.refl _ _).drew))
  have HPOST : Hid (RowT W2 lo hi (.slice (some ⟨g, 0, none⟩) m cap) (T.eraseIdx k) ∧ (∀ b, b ≠ g → W2.heap[b]? = w.heap[b]?) ∧ W2.heap.size = w.heap.size ∧ Below lo w W2) := by
    refine ⟨RowT.sub hR (List.eraseIdx_sublist T k) (base := lo) (by rw [hEL, hEI]; exact hfin) (fun b e => hR.hv b e) (fun b h1 h2 h3 => hblk b fun e => h3 (by rw [e]; rfl)) (Nat.le_refl _) (Nat.le_refl _) (Nat.le_refl _) (fun b e _ => e), hblk, hsz2, hbl⟩
  obtain ⟨A, hA, hsrc⟩ : ∃ A : Addr, (if cap = k + 1 then some (⟨g, 0, none⟩ : Addr) else some ⟨g, (k + 1) * 12, none⟩) = some A ∧ Hid (∀ j u, CC[j]? = some u → w.drew.cell? (A.add j) = some u) := by
    by_cases h : cap = k + 1
    · refine ⟨⟨g, 0, none⟩, by rw [if_pos h], fun j u hu => ?_⟩
      have h0 : CC = [] := List.length_eq_zero_iff.1 (by rw [lC']; omega)
      rw [h0] at hu; simp at hu
    · refine ⟨⟨g, (k + 1) * 12, none⟩, by rw [if_neg h], fun j u hu => ?_⟩
      have hj : j < q * 12 := by rw [← lC']; exact (List.getElem?_eq_some_iff.1 hu).1
      rw [add_none]
      show w.cell? ⟨g, (k + 1) * 12 + j, none⟩ = some u
      rw [hcell _ (by omega), List.getElem?_append_right (by omega), List.getElem?_append_right (by omega), lA, lM, show (k + 1) * 12 + j - k * 12 - 12 = j by omega]
      exact hu
  have s1 : Hid (CC.length = q * 12) := lC'
  have s2 : Hid (∀ u ∈ CC, u.oneCell' = true) := hone
  have s3 : Hid (∀ j, j < CC.length → (w.drew.cell? ⟨g, 0 + k * 12 + j, none⟩).isSome = true ∧ w.drew.frozen? ⟨g, 0 + k * 12 + j, none⟩ = false) := fun j hj => by
    rw [lC'] at hj
    refine ⟨?_, hfz _⟩
    show (w.cell? ⟨g, 0 + k * 12 + j, none⟩).isSome = true
    rw [hcell _ (by omega), List.getElem?_eq_getElem (by omega)]; rfl
  have hW : Hid (W1 = w.drew.setCells g (0 + k * 12) CC) := by rw [hW1, Nat.zero_add]; rfl
  have hcl : ∀ ty c, (Builtin.clear_ #[24] ty #[.slice (some ⟨g, m * 12, none⟩) 1 c]).run Try.prog W1 = .ok (.tuple #[]) W2 := fun ty c => by
    rw [hW2]
    refine run_clear1 W1 _ 31 ty zAg Try.underlying24 zero_SG (by simp [Value.cells, Value.oneCell']) g (m * 12) c (fun j hj => ?_) (fun j hj => hown1.frozenAt _)
    have hj2 : j < 12 := hj
    rw [hown1.cellAt _ (by omega), List.getElem?_eq_getElem (by rw [setL_length, hxl]; omega)]; rfl
  have hwr : IntKind.i64.wrap ((k : Int) + 1) = (k : Int) + 1 := by rw [IntKind.wrap_i64]; omega
  have i1 : (0 : Int) ≤ (k : Int) + 1 := by omega
  have i2 : (k : Int) + 1 ≤ (m : Int) + 1 := by omega
  have i3 : ((k : Int) + 1).toNat = k + 1 := by omega
  have i4 : k ≤ k + 1 := by omega
  have i5 : k + 1 ≤ m + 1 := by omega
  have i6 : ((k : Int) == (k : Int) + 1) = false := by simp; omega
  have i7 : (k : Int) ≤ (cap : Int) := by omega
  have i8 : (k : Int) + 1 ≤ (cap : Int) := by omega
  have i9 : m + 1 - (k + 1) = q := by omega
  have i10 : ¬ cap = m := by omega
  have i11 : (m : Int) + 1 ≤ (cap : Int) := by omega
  have i12 : m + 1 - m = 1 := by omega
  have HQ : Hid _ := hkq
  have mixed : Try.prog.follows Departure.mixedOrders = true := by kernel_rfl
  clear hW1 hW2 hown hown1 hown2 hownd hfin hcell hfz hxl hblk hsz2 hbl hsp hone lA lC lC' lM hEI hEL hR hAA hCC hMM hq hkq hT hk
  go_enter Try.func55, Try.ntmps55
  go_wp2_with fail
  go_region_law_o (refine step_append_room rfl (.tmp 22) (.tmp 25) 24 rfl 31 i0 12 Try.underlying24 hi0 hz1 g 0 k cap (by simp [Act.eval, Act.put]) A q (cap - (k + 1)) CC (by simp [Act.eval, Act.put]) s1.out hsrc.out s2.out (by have := HQ.out; omega) s3.out ?_; rw [← hW.out, HQ.out])
  go_wp2_with fail
  go_ret
  exact ⟨rfl, HPOST.out⟩
end Go.Proofs.Ytlfncadngcjdjaa
