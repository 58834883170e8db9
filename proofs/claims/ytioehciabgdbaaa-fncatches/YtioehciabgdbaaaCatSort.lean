/- Spans sorted by the place at which they begin: the library's sort by its contract over this program; no condition but that there are at most a million. -/
import Derived.Test.YtioehciabgdbaaaRows
import Derived.Test.YtioehciabgdbaaaBase
import Derived.Test.YtioehciabgdbaaaMem
import Derived.Test.YtioehciabgdbaaaHBase
import Derived.Test.YtioehciabgdbaaaHSpan
import Derived.Test.YtioehciabgdbaaaSpanRow
import Derived.Shelf.SlSortCmp.WholeK
namespace Go.Proofs.Ytioehciabgdbaaa
open Go.RowKit Go.Shelf Go.Sort
set_option linter.unusedVariables false
set_option maxRecDepth 8000

def laySort_ren : Go.Shelf.Ren := ⟨fun | 6 => 129 | 15 => 153 | 14 => 152 | 28 => 179 | 29 => 180 | 20 => 171 | 21 => 172 | 22 => 173 | 23 => 174 | 24 => 175 | 25 => 176 | 26 => 177 | 27 => 178 | 46 => 188 | 47 => 189 | 48 => 190 | 49 => 191 | 50 => 192 | 57 => 193 | n => n, fun | 22 => 55 | 24 => 129 | 25 => 174 | 3 => 3 | 39 => 196 | 0 => 0 | 53 => 217 | 55 => 219 | 4 => 4 | 46 => 210 | 45 => 209 | 50 => 214 | 5 => 5 | 9 => 9 | 66 => 222 | 70 => 226 | 76 => 229 | 77 => 230 | n => n, fun | n => n⟩
theorem laySort : Go.Proofs.SlLaysF0.n6 Try.prog laySort_ren := {
  mixed := by kernel_rfl,
  f6 := ⟨Try.f129.name, by decide, Try.func129.trans (congrArg some (by kernel_rfl))⟩,
  f14 := ⟨Try.f152.name, by decide, Try.func152.trans (congrArg some (by kernel_rfl))⟩,
  f15 := Try.func153.trans (congrArg some (by kernel_rfl)),
  f20 := ⟨Try.f171.name, by decide, Try.func171.trans (congrArg some (by kernel_rfl))⟩,
  f21 := ⟨Try.f172.name, by decide, Try.func172.trans (congrArg some (by kernel_rfl))⟩,
  f22 := ⟨Try.f173.name, by decide, Try.func173.trans (congrArg some (by kernel_rfl))⟩,
  f23 := ⟨Try.f174.name, by decide, Try.func174.trans (congrArg some (by kernel_rfl))⟩,
  f24 := ⟨Try.f175.name, by decide, Try.func175.trans (congrArg some (by kernel_rfl))⟩,
  f25 := ⟨Try.f176.name, by decide, Try.func176.trans (congrArg some (by kernel_rfl))⟩,
  f26 := ⟨Try.f177.name, by decide, Try.func177.trans (congrArg some (by kernel_rfl))⟩,
  f27 := ⟨Try.f178.name, by decide, Try.func178.trans (congrArg some (by kernel_rfl))⟩,
  f28 := Try.func179.trans (congrArg some (by kernel_rfl)),
  f29 := Try.func180.trans (congrArg some (by kernel_rfl)),
  f46 := ⟨Try.f188.name, by decide, Try.func188.trans (congrArg some (by kernel_rfl))⟩,
  f47 := Try.func189.trans (congrArg some (by kernel_rfl)),
  f48 := Try.func190.trans (congrArg some (by kernel_rfl)),
  f49 := ⟨Try.f191.name, by decide, Try.func191.trans (congrArg some (by kernel_rfl))⟩,
  f50 := ⟨Try.f192.name, by decide, Try.func192.trans (congrArg some (by kernel_rfl))⟩,
  f57 := ⟨Try.f193.name, by decide, Try.func193.trans (congrArg some (by kernel_rfl))⟩,
  t0 := Try.underlying0,
  a0 := Try.isAgg0,
  z0 := Try.sizeOf0,
  v0 := Try.zeroValue0,
  t3 := Try.underlying3,
  a3 := Try.isAgg3,
  z3 := Try.sizeOf3,
  v3 := Try.zeroValue3,
  t4 := Try.underlying4,
  a4 := Try.isAgg4,
  z4 := Try.sizeOf4,
  v4 := Try.zeroValue4,
  t5 := Try.underlying5,
  a5 := Try.isAgg5,
  z5 := Try.sizeOf5,
  v5 := Try.zeroValue5,
  t9 := Try.underlying9,
  a9 := Try.isAgg9,
  z9 := Try.sizeOf9,
  v9 := Try.zeroValue9,
  t22 := Try.underlying55,
  a22 := Try.isAgg55,
  z22 := Try.sizeOf55,
  v22 := Try.zeroValue55,
  t25 := Try.underlying174,
  a25 := Try.isAgg174,
  z25 := Try.sizeOf174,
  v25 := Try.zeroValue174,
  t39 := Try.underlying196,
  a39 := Try.isAgg196,
  z39 := Try.sizeOf196,
  v39 := Try.zeroValue196,
  t45 := Try.underlying209,
  a45 := Try.isAgg209,
  z45 := Try.sizeOf209,
  v45 := Try.zeroValue209,
  t46 := Try.underlying210,
  a46 := Try.isAgg210,
  z46 := Try.sizeOf210,
  v46 := Try.zeroValue210,
  t50 := Try.underlying214,
  a50 := Try.isAgg214,
  z50 := Try.sizeOf214,
  v50 := Try.zeroValue214,
  t53 := Try.underlying217,
  a53 := Try.isAgg217,
  z53 := Try.sizeOf217,
  v53 := Try.zeroValue217,
  t55 := Try.underlying219,
  a55 := Try.isAgg219,
  z55 := Try.sizeOf219,
  v55 := Try.zeroValue219,
  t66 := Try.underlying222,
  a66 := Try.isAgg222,
  z66 := Try.sizeOf222,
  v66 := Try.zeroValue222,
  t70 := Try.underlying226,
  a70 := Try.isAgg226,
  z70 := Try.sizeOf226,
  v70 := Try.zeroValue226,
  t76 := Try.underlying229,
  a76 := Try.isAgg229,
  z76 := Try.sizeOf229,
  v76 := Try.zeroValue229,
  t77 := Try.underlying230,
  a77 := Try.isAgg230,
  z77 := Try.sizeOf230,
  v77 := Try.zeroValue230 }
theorem iIsNaN (x : Int) (w : World) : Calls Try.prog 181 #[.int .i64 x] w fun e w' => e = .returned (.bool false) ∧ w' = w := by
  go_enter Try.func181, Try.ntmps181
  go_wp2
  go_ret
  exact ⟨ret_bool (by simp), rfl⟩
theorem iCompare (x y : Int) (w : World) : Calls Try.prog 154 #[.int .i64 x, .int .i64 y] w fun e w' => e = .returned (.int .i64 (Lib.compareInt x y)) ∧ w' = w := by
  unfold Lib.compareInt
  by_cases h1 : x < y
  · rw [if_pos h1]
    go_enter Try.func154, Try.ntmps154
    go_wp2_with (go_at_call 181; refine (iIsNaN _ _).mono ?_; rintro e w' ⟨rfl, hw⟩; subst w')
    go_ret
    exact ⟨rfl, rfl⟩
  · rw [if_neg h1]
    by_cases h2 : x > y
    · rw [if_pos h2]
      go_enter Try.func154, Try.ntmps154
      go_wp2_with (go_at_call 181; refine (iIsNaN _ _).mono ?_; rintro e w' ⟨rfl, hw⟩; subst w')
      go_ret
      exact ⟨rfl, rfl⟩
    · rw [if_neg h2]
      go_enter Try.func154, Try.ntmps154
      go_wp2_with (go_at_call 181; refine (iIsNaN _ _).mono ?_; rintro e w' ⟨rfl, hw⟩; subst w')
      go_ret
      exact ⟨rfl, rfl⟩

/-- A span's two cells. -/
def encS (x : DSpan) : List Value := [.int .i64 x.1, .int .i64 x.2.1]
def cmpS (x y : DSpan) : Int := Lib.compareInt x.1 y.1
set_option maxHeartbeats 1000000 in
theorem iCompareSpans (x y : DSpan) (W : World) : Calls Try.prog 130 #[.agg #[.int .i64 x.1, .int .i64 x.2.1], .agg #[.int .i64 y.1, .int .i64 y.2.1]] W fun e w' => e = .returned (.int .i64 (cmpS x y)) ∧ ∃ q os', w' = grow (W.drewN q) os' := by
  have hcon := fun W' => iCompare x.1 y.1 W'
  unfold cmpS
  generalize Lib.compareInt x.1 y.1 = r at hcon ⊢
  go_enter Try.func130, Try.ntmps130
  go_wp2_with (go_at_call 154; refine (hcon _).mono ?_; rintro e w' ⟨rfl, hw⟩; subst w')
  go_ret
  exact ⟨rfl, 0, _, by rw [alloc_eq_grow, alloc_eq_grow, grow_grow]; rfl⟩
theorem cmpLaysS (blk off size : Nat) (w : World) : CmpLays Try.prog 130 #[] encS 2 cmpS blk off size w := fun _ _ _ _ x y => iCompareSpans x y _
theorem ltS (x y : DSpan) : ltOf cmpS x y = decide (x.1 < y.1) := by
  unfold ltOf cmpS Lib.compareInt
  by_cases h1 : x.1 < y.1
  · simp [h1]
  · by_cases h2 : y.1 < x.1 <;> simp [h1, h2]
theorem swoS : SWO (ltOf cmpS) where
  irrefl x := by rw [ltS]; simp
  trans x y z h1 h2 := by rw [ltS] at *; simp at *; omega
  ntrans x y z h1 h2 := by rw [ltS] at *; simp at *; omega

theorem toArr! {l : List DSpan} {i : Nat} (h : i < l.length) : l.toArray[i]! = l[i] := by
  rw [getElem!_pos l.toArray i (by simpa using h)]; simp
theorem flat_cells {d : Array DSpan} {t : Nat} (ht : t < d.size * 2) : some (flatK encS 2 d)[t]! = (cellsS d.toList)[t]? := by
  rw [get_flatK _ _ _ _ ht]
  have hi : t / 2 < d.toList.length := by simp; omega
  obtain ⟨g1, g2⟩ := cellsS_get hi
  have e0 : d[t / 2]! = d.toList[t / 2] := by rw [getElem!_pos d (t / 2) (by omega)]; simp
  rw [e0]
  rcases Nat.mod_two_eq_zero_or_one t with e | e
  · rw [e]
    conv => rhs; rw [show t = t / 2 * 2 by omega]
    rw [g1]; rfl
  · rw [e]
    conv => rhs; rw [show t = t / 2 * 2 + 1 by omega]
    rw [g2]; rfl
/-- The row behind the sort. -/
theorem sorted_os {w : World} {base g n cap : Nat} {l : List DSpan} (h : OS w base (.slice (some ⟨g, 0, none⟩) n cap) l) {d : Array DSpan} (hd : d.toList.Perm l) (m : Nat) (os : Array Obj) :
    OS (sortWorldK encS 2 w g 0 m d os) base (.slice (some ⟨g, 0, none⟩) n cap) d.toList ∧ (∀ b, b < w.heap.size → b ≠ g → (sortWorldK encS 2 w g 0 m d os).heap[b]? = w.heap[b]?) ∧ w.heap.size ≤ (sortWorldK encS 2 w g 0 m d os).heap.size := by
  obtain ⟨h1, ⟨e, _⟩ | ⟨g', cap', cur, e, hg, hh, hc, hm, hs, ht⟩⟩ := h.own
  · simp at e
  · simp only [Value.slice.injEq, Option.some.injEq, Addr.mk.injEq, and_true] at e
    obtain ⟨rfl, rfl, rfl⟩ := e
    have hlen : d.size = l.length := by rw [← Array.length_toList]; exact hd.length_eq
    have hgl := heap_lt hh
    have hsz : (putRowK encS 2 (Sort.ahead w m) g 0 d).heap.size = w.heap.size := by simp [putRowK, putRow, mapBlock, Sort.ahead]
    have hnew : (sortWorldK encS 2 w g 0 m d os).heap[g]? = some (.cells (putCells id 0 (flatK encS 2 d) cur) 129 (0, 0)) := by
      unfold sortWorldK
      rw [heap_grow_old _ _ (by rw [hsz]; exact hgl)]
      simp [putRowK, putRow, mapBlock, Sort.ahead, Array.getElem?_modify, hh, onCells]
    have hold : ∀ b, b < w.heap.size → b ≠ g → (sortWorldK encS 2 w g 0 m d os).heap[b]? = w.heap[b]? := by
      intro b hb hne
      unfold sortWorldK
      rw [heap_grow_old _ _ (by rw [hsz]; exact hb)]
      simp [putRowK, putRow, mapBlock, Sort.ahead, Array.getElem?_modify, Ne.symm hne]
    refine ⟨⟨⟨cellsS_len _, Or.inr ⟨g, cap, _, ?_, hg, hnew, ?_, hm, ?_, ?_⟩⟩, fun s hs' => h.wf s (hd.mem_iff.1 hs')⟩, hold, ?_⟩
    · simp [hlen]
    · simp [hlen]; exact hc
    · simp [putCells, hs]
    · apply List.ext_getElem?
      intro t
      have hcs : l.length * 2 ≤ cur.size := by rw [hs]; omega
      by_cases hlt : t < d.size * 2
      · have hl2 : t < d.toList.length * 2 := by simpa using hlt
        rw [List.getElem?_take_of_lt hl2, ← flat_cells hlt, Array.getElem?_toList]
        have ht2 : t < cur.size := by omega
        have hf : t < (flatK encS 2 d).size := by simpa using hlt
        simp only [putCells, Array.getElem?_mapIdx, Array.getElem?_eq_getElem ht2, Option.map_some, Nat.zero_le, Nat.zero_add, true_and, hf, if_true, Nat.sub_zero, id]
      · rw [List.getElem?_eq_none (by rw [List.length_take]; simp; omega), List.getElem?_eq_none (by rw [cellsS_len]; simp; omega)]
    · unfold sortWorldK; rw [size_grow, hsz]; omega
set_option maxHeartbeats 1000000 in
/-- The sort over a row of the call's own. -/
theorem iSortSpans (l : List DSpan) (g n cap base : Nat) (w : World) (h : OS w base (.slice (some ⟨g, 0, none⟩) n cap) l) (hn : l.length ≤ 1000000) :
    Calls Try.prog 129 #[.slice (some ⟨g, 0, none⟩) n cap, .func (.func 130) #[] #[]] w fun e w' => e = .returned (.tuple #[]) ∧
      ∃ l' : List DSpan, l'.Perm l ∧ (l'.Pairwise fun a b => a.1 ≤ b.1) ∧ OS w' base (.slice (some ⟨g, 0, none⟩) n cap) l' ∧ Below base w w' ∧ (∀ b, b < w.heap.size → b ≠ g → w'.heap[b]? = w.heap[b]?) := by
  have hnl : n = l.length := by
    obtain ⟨a, cp, e, _⟩ := h.rs
    simp only [Value.slice.injEq] at e; exact e.2.1
  have hgb := h.own.lt g rfl
  have eg : ∀ args w, (callFunc 130 args).run Try.prog w = .ok (.enter 130 args) w := enters_of Try.func130 (by kernel_rfl) rfl
  have hH : HoldsK encS 2 w g 0 l.toArray := by
    intro j hj
    have hj2 : j < l.toArray.size * 2 := by simpa using hj
    have hj3 : j < n * 2 := by rw [hnl]; simpa using hj2
    refine ⟨?_, ?_⟩
    · rw [Nat.zero_add]
      subst hnl
      rw [h.own.cellAt j hj3]
      exact (flat_cells (d := l.toArray) hj2).symm
    · rw [Nat.zero_add]
      subst hnl
      exact h.own.frozenAt j
  have hcon := AnyQ.slices_SortFunc laySort 2 Try.isAgg129 Try.sizeOf129 encS (fun _ => rfl) (fun x v hv => by simp [encS] at hv; rcases hv with rfl | rfl <;> rfl) cmpS swoS 130 #[] g 0 cap l.toArray w eg (cmpLaysS g 0 l.toArray.size w) hH hgb.2 (by simp; omega)
  change Calls Try.prog 129 _ _ _ at hcon
  have e0 : l.toArray.size = n := by simp [hnl]
  rw [e0] at hcon
  refine hcon.mono ?_
  rintro e w' ⟨rfl, d', m, os, hp, hs, rfl⟩
  have hsz : d'.size = n := by rw [hp.1]; exact e0
  have hperm : d'.toList.Perm l := by
    have h3 := hp.2.2
    rw [Array.extract_eq_self_of_le (by omega), Array.extract_eq_self_of_le (by omega)] at h3
    simpa using h3
  obtain ⟨q1, q2, q3⟩ := sorted_os h hperm m os
  refine ⟨rfl, d'.toList, hperm, ?_, q1, ⟨rfl, rfl, rfl, q3, fun b hb => q2 b (by omega) (by omega)⟩, q2⟩
  rw [List.pairwise_iff_getElem]
  intro i j hi hj hij
  have hi' : i < d'.size := by simpa using hi
  have hj' : j < d'.size := by simpa using hj
  have := hs i j (Nat.zero_le _) hij (by omega)
  rw [ltS] at this
  simp only [decide_eq_false_iff_not, getElem!_pos d' i hi', getElem!_pos d' j hj'] at this
  simpa using this
end Go.Proofs.Ytioehciabgdbaaa
