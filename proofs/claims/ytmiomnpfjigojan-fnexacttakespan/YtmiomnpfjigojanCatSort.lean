/- Spans sorted by the place at which they begin: the library's sort by its contract over this program; no condition but that there are at most a million. -/
import Derived.Test.YtmiomnpfjigojanRows
import Derived.Test.YtmiomnpfjigojanBase
import Derived.Test.YtmiomnpfjigojanMem
import Derived.Test.YtmiomnpfjigojanHBase
import Derived.Test.YtmiomnpfjigojanHSpan
import Derived.Test.YtmiomnpfjigojanSpanRow
import Derived.Shelf.SlSortCmp.WholeK
namespace Go.Proofs.Ytmiomnpfjigojan
open Go.RowKit Go.Shelf Go.Sort
set_option linter.unusedVariables false
set_option maxRecDepth 8000

def laySort_ren : Go.Shelf.Ren := ⟨fun | 6 => 51 | 15 => 59 | 14 => 58 | 28 => 70 | 29 => 71 | 20 => 62 | 21 => 63 | 22 => 64 | 23 => 65 | 24 => 66 | 25 => 67 | 26 => 68 | 27 => 69 | 46 => 73 | 47 => 74 | 48 => 75 | 49 => 76 | 50 => 77 | 57 => 78 | n => n, fun | 22 => 26 | 24 => 59 | 25 => 71 | 3 => 3 | 39 => 76 | 0 => 0 | 53 => 88 | 55 => 90 | 4 => 4 | 46 => 81 | 45 => 80 | 50 => 85 | 5 => 5 | 9 => 9 | 66 => 91 | 70 => 95 | 76 => 97 | 77 => 98 | n => n, fun | n => n⟩
theorem laySort : Go.Proofs.SlLaysF0.n6 Try.prog laySort_ren := {
  mixed := by kernel_rfl,
  f6 := ⟨Try.f51.name, by decide, Try.func51.trans (congrArg some (by kernel_rfl))⟩,
  f14 := ⟨Try.f58.name, by decide, Try.func58.trans (congrArg some (by kernel_rfl))⟩,
  f15 := Try.func59.trans (congrArg some (by kernel_rfl)),
  f20 := ⟨Try.f62.name, by decide, Try.func62.trans (congrArg some (by kernel_rfl))⟩,
  f21 := ⟨Try.f63.name, by decide, Try.func63.trans (congrArg some (by kernel_rfl))⟩,
  f22 := ⟨Try.f64.name, by decide, Try.func64.trans (congrArg some (by kernel_rfl))⟩,
  f23 := ⟨Try.f65.name, by decide, Try.func65.trans (congrArg some (by kernel_rfl))⟩,
  f24 := ⟨Try.f66.name, by decide, Try.func66.trans (congrArg some (by kernel_rfl))⟩,
  f25 := ⟨Try.f67.name, by decide, Try.func67.trans (congrArg some (by kernel_rfl))⟩,
  f26 := ⟨Try.f68.name, by decide, Try.func68.trans (congrArg some (by kernel_rfl))⟩,
  f27 := ⟨Try.f69.name, by decide, Try.func69.trans (congrArg some (by kernel_rfl))⟩,
  f28 := Try.func70.trans (congrArg some (by kernel_rfl)),
  f29 := Try.func71.trans (congrArg some (by kernel_rfl)),
  f46 := ⟨Try.f73.name, by decide, Try.func73.trans (congrArg some (by kernel_rfl))⟩,
  f47 := Try.func74.trans (congrArg some (by kernel_rfl)),
  f48 := Try.func75.trans (congrArg some (by kernel_rfl)),
  f49 := ⟨Try.f76.name, by decide, Try.func76.trans (congrArg some (by kernel_rfl))⟩,
  f50 := ⟨Try.f77.name, by decide, Try.func77.trans (congrArg some (by kernel_rfl))⟩,
  f57 := ⟨Try.f78.name, by decide, Try.func78.trans (congrArg some (by kernel_rfl))⟩,
  t0 := Try.underlying0,
  a0 := Try.isAgg0,
  z0 := Try.sizeOf0,
  v0 := Try.zeroValue0,
  t3 := Try.underlying3,
  a3 := Try.isAgg3,
  z3 := Try.sizeOf3,
  v3 := Try.zeroValue3,
  t4 := Try.underlying4,
  a4 := Try.isAgg4,
  z4 := Try.sizeOf4,
  v4 := Try.zeroValue4,
  t5 := Try.underlying5,
  a5 := Try.isAgg5,
  z5 := Try.sizeOf5,
  v5 := Try.zeroValue5,
  t9 := Try.underlying9,
  a9 := Try.isAgg9,
  z9 := Try.sizeOf9,
  v9 := Try.zeroValue9,
  t22 := Try.underlying26,
  a22 := Try.isAgg26,
  z22 := Try.sizeOf26,
  v22 := Try.zeroValue26,
  t25 := Try.underlying71,
  a25 := Try.isAgg71,
  z25 := Try.sizeOf71,
  v25 := Try.zeroValue71,
  t39 := Try.underlying76,
  a39 := Try.isAgg76,
  z39 := Try.sizeOf76,
  v39 := Try.zeroValue76,
  t45 := Try.underlying80,
  a45 := Try.isAgg80,
  z45 := Try.sizeOf80,
  v45 := Try.zeroValue80,
  t46 := Try.underlying81,
  a46 := Try.isAgg81,
  z46 := Try.sizeOf81,
  v46 := Try.zeroValue81,
  t50 := Try.underlying85,
  a50 := Try.isAgg85,
  z50 := Try.sizeOf85,
  v50 := Try.zeroValue85,
  t53 := Try.underlying88,
  a53 := Try.isAgg88,
  z53 := Try.sizeOf88,
  v53 := Try.zeroValue88,
  t55 := Try.underlying90,
  a55 := Try.isAgg90,
  z55 := Try.sizeOf90,
  v55 := Try.zeroValue90,
  t66 := Try.underlying91,
  a66 := Try.isAgg91,
  z66 := Try.sizeOf91,
  v66 := Try.zeroValue91,
  t70 := Try.underlying95,
  a70 := Try.isAgg95,
  z70 := Try.sizeOf95,
  v70 := Try.zeroValue95,
  t76 := Try.underlying97,
  a76 := Try.isAgg97,
  z76 := Try.sizeOf97,
  v76 := Try.zeroValue97,
  t77 := Try.underlying98,
  a77 := Try.isAgg98,
  z77 := Try.sizeOf98,
  v77 := Try.zeroValue98 }
theorem iIsNaN (x : Int) (w : World) : Calls Try.prog 72 #[.int .i64 x] w fun e w' => e = .returned (.bool false) ∧ w' = w := by
  go_enter Try.func72, Try.ntmps72
  go_wp2
  go_ret
  exact ⟨ret_bool (by simp), rfl⟩
theorem iCompare (x y : Int) (w : World) : Calls Try.prog 60 #[.int .i64 x, .int .i64 y] w fun e w' => e = .returned (.int .i64 (Lib.compareInt x y)) ∧ w' = w := by
  unfold Lib.compareInt
  by_cases h1 : x < y
  · rw [if_pos h1]
    go_enter Try.func60, Try.ntmps60
    go_wp2_with (go_at_call 72; refine (iIsNaN _ _).mono ?_; rintro e w' ⟨rfl, hw⟩; subst w')
    go_ret
    exact ⟨rfl, rfl⟩
  · rw [if_neg h1]
    by_cases h2 : x > y
    · rw [if_pos h2]
      go_enter Try.func60, Try.ntmps60
      go_wp2_with (go_at_call 72; refine (iIsNaN _ _).mono ?_; rintro e w' ⟨rfl, hw⟩; subst w')
      go_ret
      exact ⟨rfl, rfl⟩
    · rw [if_neg h2]
      go_enter Try.func60, Try.ntmps60
      go_wp2_with (go_at_call 72; refine (iIsNaN _ _).mono ?_; rintro e w' ⟨rfl, hw⟩; subst w')
      go_ret
      exact ⟨rfl, rfl⟩

/-- A span's two cells. -/
def encS (x : DSpan) : List Value := [.int .i64 x.1, .int .i64 x.2.1]
def cmpS (x y : DSpan) : Int := Lib.compareInt x.1 y.1
set_option maxHeartbeats 1000000 in
theorem iCompareSpans (x y : DSpan) (W : World) : Calls Try.prog 52 #[.agg #[.int .i64 x.1, .int .i64 x.2.1], .agg #[.int .i64 y.1, .int .i64 y.2.1]] W fun e w' => e = .returned (.int .i64 (cmpS x y)) ∧ ∃ q os', w' = grow (W.drewN q) os' := by
  have hcon := fun W' => iCompare x.1 y.1 W'
  unfold cmpS
  generalize Lib.compareInt x.1 y.1 = r at hcon ⊢
  go_enter Try.func52, Try.ntmps52
  go_wp2_with (go_at_call 60; refine (hcon _).mono ?_; rintro e w' ⟨rfl, hw⟩; subst w')
  go_ret
  exact ⟨rfl, 0, _, by rw [alloc_eq_grow, alloc_eq_grow, grow_grow]; rfl⟩
theorem cmpLaysS (blk off size : Nat) (w : World) : CmpLays Try.prog 52 #[] encS 2 cmpS blk off size w := fun _ _ _ _ x y => iCompareSpans x y _
theorem ltS (x y : DSpan) : ltOf cmpS x y = decide (x.1 < y.1) := by
  unfold ltOf cmpS Lib.compareInt
  by_cases h1 : x.1 < y.1
  · simp [h1]
  · by_cases h2 : y.1 < x.1 <;> simp [h1, h2]
theorem swoS : SWO (ltOf cmpS) where
  irrefl x := by rw [ltS]; simp
  trans x y z h1 h2 := by rw [ltS] at *; simp at *; omega
  ntrans x y z h1 h2 := by rw [ltS] at *; simp at *; omega

theorem toArr! {l : List DSpan} {i : Nat} (h : i < l.length) : l.toArray[i]! = l[i] := by
  rw [getElem!_pos l.toArray i (by simpa using h)]; simp
theorem flat_cells {d : Array DSpan} {t : Nat} (ht : t < d.size * 2) : some (flatK encS 2 d)[t]! = (cellsS d.toList)[t]? := by
  rw [get_flatK _ _ _ _ ht]
  have hi : t / 2 < d.toList.length := by simp; omega
  obtain ⟨g1, g2⟩ := cellsS_get hi
  have e0 : d[t / 2]! = d.toList[t / 2] := by rw [getElem!_pos d (t / 2) (by omega)]; simp
  rw [e0]
  rcases Nat.mod_two_eq_zero_or_one t with e | e
  · rw [e]
    conv => rhs; rw [show t = t / 2 * 2 by omega]
    rw [g1]; rfl
  · rw [e]
    conv => rhs; rw [show t = t / 2 * 2 + 1 by omega]
    rw [g2]; rfl
/-- The row behind the sort. -/
theorem sorted_os {w : World} {base g n cap : Nat} {l : List DSpan} (h : OS w base (.slice (some ⟨g, 0, none⟩) n cap) l) {d : Array DSpan} (hd : d.toList.Perm l) (m : Nat) (os : Array Obj) :
    OS (sortWorldK encS 2 w g 0 m d os) base (.slice (some ⟨g, 0, none⟩) n cap) d.toList ∧ (∀ b, b < w.heap.size → b ≠ g → (sortWorldK encS 2 w g 0 m d os).heap[b]? = w.heap[b]?) ∧ w.heap.size ≤ (sortWorldK encS 2 w g 0 m d os).heap.size := by
  obtain ⟨h1, ⟨e, _⟩ | ⟨g', cap', cur, e, hg, hh, hc, hm, hs, ht⟩⟩ := h.own
  · simp at e
  · simp only [Value.slice.injEq, Option.some.injEq, Addr.mk.injEq, and_true] at e
    obtain ⟨rfl, rfl, rfl⟩ := e
    have hlen : d.size = l.length := by rw [← Array.length_toList]; exact hd.length_eq
    have hgl := heap_lt hh
    have hsz : (putRowK encS 2 (Sort.ahead w m) g 0 d).heap.size = w.heap.size := by simp [putRowK, putRow, mapBlock, Sort.ahead]
    have hnew : (sortWorldK encS 2 w g 0 m d os).heap[g]? = some (.cells (putCells id 0 (flatK encS 2 d) cur) 59 (0, 0)) := by
      unfold sortWorldK
      rw [heap_grow_old _ _ (by rw [hsz]; exact hgl)]
      simp [putRowK, putRow, mapBlock, Sort.ahead, Array.getElem?_modify, hh, onCells]
    have hold : ∀ b, b < w.heap.size → b ≠ g → (sortWorldK encS 2 w g 0 m d os).heap[b]? = w.heap[b]? := by
      intro b hb hne
      unfold sortWorldK
      rw [heap_grow_old _ _ (by rw [hsz]; exact hb)]
      simp [putRowK, putRow, mapBlock, Sort.ahead, Array.getElem?_modify, Ne.symm hne]
    refine ⟨⟨⟨cellsS_len _, Or.inr ⟨g, cap, _, ?_, hg, hnew, ?_, hm, ?_, ?_⟩⟩, fun s hs' => h.wf s (hd.mem_iff.1 hs')⟩, hold, ?_⟩
    · simp [hlen]
    · simp [hlen]; exact hc
    · simp [putCells, hs]
    · apply List.ext_getElem?
      intro t
      have hcs : l.length * 2 ≤ cur.size := by rw [hs]; omega
      by_cases hlt : t < d.size * 2
      · have hl2 : t < d.toList.length * 2 := by simpa using hlt
        rw [List.getElem?_take_of_lt hl2, ← flat_cells hlt, Array.getElem?_toList]
        have ht2 : t < cur.size := by omega
        have hf : t < (flatK encS 2 d).size := by simpa using hlt
        simp only [putCells, Array.getElem?_mapIdx, Array.getElem?_eq_getElem ht2, Option.map_some, Nat.zero_le, Nat.zero_add, true_and, hf, if_true, Nat.sub_zero, id]
      · rw [List.getElem?_eq_none (by rw [List.length_take]; simp; omega), List.getElem?_eq_none (by rw [cellsS_len]; simp; omega)]
    · unfold sortWorldK; rw [size_grow, hsz]; omega
set_option maxHeartbeats 1000000 in
/-- The sort over a row of the call's own. -/
theorem iSortSpans (l : List DSpan) (g n cap base : Nat) (w : World) (h : OS w base (.slice (some ⟨g, 0, none⟩) n cap) l) (hn : l.length ≤ 1000000) :
    Calls Try.prog 51 #[.slice (some ⟨g, 0, none⟩) n cap, .func (.func 52) #[] #[]] w fun e w' => e = .returned (.tuple #[]) ∧
      ∃ l' : List DSpan, l'.Perm l ∧ (l'.Pairwise fun a b => a.1 ≤ b.1) ∧ OS w' base (.slice (some ⟨g, 0, none⟩) n cap) l' ∧ Below base w w' ∧ (∀ b, b < w.heap.size → b ≠ g → w'.heap[b]? = w.heap[b]?) := by
  have hnl : n = l.length := by
    obtain ⟨a, cp, e, _⟩ := h.rs
    simp only [Value.slice.injEq] at e; exact e.2.1
  have hgb := h.own.lt g rfl
  have eg : ∀ args w, (callFunc 52 args).run Try.prog w = .ok (.enter 52 args) w := enters_of Try.func52 (by kernel_rfl) rfl
  have hH : HoldsK encS 2 w g 0 l.toArray := by
    intro j hj
    have hj2 : j < l.toArray.size * 2 := by simpa using hj
    have hj3 : j < n * 2 := by rw [hnl]; simpa using hj2
    refine ⟨?_, ?_⟩
    · rw [Nat.zero_add]
      subst hnl
      rw [h.own.cellAt j hj3]
      exact (flat_cells (d := l.toArray) hj2).symm
    · rw [Nat.zero_add]
      subst hnl
      exact h.own.frozenAt j
  have hcon := AnyQ.slices_SortFunc laySort 2 Try.isAgg59 Try.sizeOf59 encS (fun _ => rfl) (fun x v hv => by simp [encS] at hv; rcases hv with rfl | rfl <;> rfl) cmpS swoS 52 #[] g 0 cap l.toArray w eg (cmpLaysS g 0 l.toArray.size w) hH hgb.2 (by simp; omega)
  change Calls Try.prog 51 _ _ _ at hcon
  have e0 : l.toArray.size = n := by simp [hnl]
  rw [e0] at hcon
  refine hcon.mono ?_
  rintro e w' ⟨rfl, d', m, os, hp, hs, rfl⟩
  have hsz : d'.size = n := by rw [hp.1]; exact e0
  have hperm : d'.toList.Perm l := by
    have h3 := hp.2.2
    rw [Array.extract_eq_self_of_le (by omega), Array.extract_eq_self_of_le (by omega)] at h3
    simpa using h3
  obtain ⟨q1, q2, q3⟩ := sorted_os h hperm m os
  refine ⟨rfl, d'.toList, hperm, ?_, q1, ⟨rfl, rfl, rfl, q3, fun b hb => q2 b (by omega) (by omega)⟩, q2⟩
  rw [List.pairwise_iff_getElem]
  intro i j hi hj hij
  have hi' : i < d'.size := by simpa using hi
  have hj' : j < d'.size := by simpa using hj
  have := hs i j (Nat.zero_le _) hij (by omega)
  rw [ltS] at this
  simp only [decide_eq_false_iff_not, getElem!_pos d' i hi', getElem!_pos d' j hj'] at this
  simpa using this
end Go.Proofs.Ytmiomnpfjigojan
