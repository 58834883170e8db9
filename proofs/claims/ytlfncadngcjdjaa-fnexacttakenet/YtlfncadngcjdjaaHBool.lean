/- What the law's own helpers (measure, copy, compare, mark, hold) make of rows of bools; no condition but that there are at most a million parts. -/
import Derived.Test.YtlfncadngcjdjaaRows
import Derived.Test.YtlfncadngcjdjaaBase
import Derived.Test.YtlfncadngcjdjaaBytes
import Derived.Test.YtlfncadngcjdjaaMem
import Derived.Test.YtlfncadngcjdjaaMemOpen
import Derived.Test.YtlfncadngcjdjaaMemRow
import Derived.Test.YtlfncadngcjdjaaHBase
import Derived.Test.YtlfncadngcjdjaaHMark
import Derived.Deep.DeepCutAuto
namespace Go.Proofs.Ytlfncadngcjdjaa
open Go.RowKit
set_option linter.unusedVariables false
set_option maxRecDepth 8000

abbrev bls (t : TypeId) : Sh := .row t .bool
theorem rd_bls {w : World} {B : Nat} {t : TypeId} {l : List Bool} {v : Value} (h : (bls t).Rd w B l [v]) : ∃ a cap, v = .slice a l.length cap ∧ l.length ≤ 9223372036854775807 ∧ ∃ b off, (l ≠ [] → a = some ⟨b, off, none⟩ ∧ b < B) ∧ ∀ i (h : i < l.length), w.cell? ⟨b, off + i, none⟩ = some (.bool l[i]) := by
  have hm : l.length ≤ 9223372036854775807 := row_max h
  obtain ⟨a, cap, h1, h2, h3, b, off, h4, h5⟩ := h
  simp only [List.cons.injEq, and_true] at h1
  refine ⟨a, cap, h1, hm, b, off, h4, fun i hi => ?_⟩
  obtain ⟨cs', g1, g2, g3⟩ := h5 i hi
  have g3' : cs' = [.bool l[i]] := g3
  have := g2 0 (by decide)
  rw [g3'] at this
  simpa [Sh.sz] using this
theorem bls_t {w : World} {B : Nat} {t t' : TypeId} {l : List Bool} {cs : List Value} (h : (bls t).Rd w B l cs) : (bls t').Rd w B l cs := h

theorem lSzBools (t : TypeId) (l : List Bool) (v : Value) (left : Int) (w : World) (B : Nat) (hr : (bls t).Rd w B l [v]) (h0 : 0 ≤ left) (h1 : left ≤ 1048576) :
    Calls Try.prog 58 #[v, .int .i64 left] w fun e w' => e = .returned (.int .i64 (if left < (l.length : Nat) then -1 else left - (l.length : Nat))) ∧ Below w.heap.size w w' := by
  obtain ⟨a, cap, rfl, hm, -⟩ := rd_bls hr
  clear hr
  generalize l.length = n at *
  by_cases h : left < n
  · rw [if_pos h]
    have h2 : left - (n : Int) < 0 := by omega
    go_enter Try.func58, Try.ntmps58
    go_wp2
    go_ret
    exact ⟨rfl, Below.refl _ _⟩
  · rw [if_neg h]
    have h2 : 0 ≤ left - (n : Int) := by omega
    go_enter Try.func58, Try.ntmps58
    go_wp2
    go_ret
    exact ⟨rfl, Below.refl _ _⟩

theorem info_bool : (Try.prog.info? 4).map (fun i => (i.zero, i.size, i.bytes)) = some (some (.bool false), 1, 1) := by kernel_rfl
set_option maxHeartbeats 2000000 in
theorem lToBools (t : TypeId) (l : List Bool) (v : Value) (w : World) (B : Nat) (hr : (bls t).Rd w B l [v]) (hB : B ≤ w.heap.size) (hT : l.length ≤ 1048576) :
    Calls Try.prog 24 #[v] w fun e w' => ∃ u, e = .returned u ∧ Own w' w.heap.size w'.heap.size (bls 4) l [u] ∧ Below w.heap.size w w' := by
  obtain ⟨i0, hi, hz0, hz1, hz2⟩ := info_parts info_bool
  obtain ⟨a, cap, rfl, hm, b, off, hne, hc⟩ := rd_bls hr
  clear hr
  obtain ⟨n, hn⟩ : ∃ n, l.length = n := ⟨_, rfl⟩
  have hn1 : n ≤ 1048576 := by omega
  have HC : Hid (∀ W, Below w.heap.size w W → ∀ i (h : i < l.length), a = some ⟨b, off, none⟩ ∧ W.cell? ⟨b, off + i, none⟩ = some (.bool l[i])) := fun W hW i h => by
    have q := hne (by intro e; subst e; simp at h)
    exact ⟨q.1, (hW.cell (p := ⟨b, off + i, none⟩) (by show b < _; omega)).trans (hc i h)⟩
  rw [hn]
  have HN : Hid (l.length = n) := hn
  clear hn hc hne hT hm
  go_enter Try.func24, Try.ntmps24
  go_wp2_with (at_make; refine wpList_make_full w rfl _ _ 25 rfl w.heap.size 4 i0 (.bool false) 1 Try.underlying25 hi hz0 hz1 .i64 .i64 _ _ n (by rfl) (by rfl) rfl rfl (by rw [hz2]; omega) (by unfold maxLen; omega) (Nat.le_refl _) ?_; intro w1 hown hgr)
  have hb1 : Below w.heap.size w w1 := (Below.refl _ _).grown hgr (Nat.le_refl _) (by intro k hk; cases hk)
  have hown0 : Own w1 w.heap.size w1.heap.size (bls 4) (l.take 0 ++ List.replicate (n - 0) false) [.slice (some ⟨w.heap.size, 0, none⟩) n n] := by
    have h := Own.made (e := .bool) (z := .bool false) rfl hown
    exact h.tight
  have HO0 : Hid _ := hown0
  have HB0 : Hid _ := hb1
  clear hown hgr hown0 hb1 hi hz0 hz1 hz2
  go_loopw [4] (fun i wr => ∃ k : Nat, k ≤ n ∧ i = .int .i64 k ∧ Own wr w.heap.size wr.heap.size (bls 4) (l.take k ++ List.replicate (n - k) false) [.slice (some ⟨w.heap.size, 0, none⟩) n n] ∧ Below w.heap.size w wr) (fun i _ => n - (intOf i).toNat)
  case atStart => exact ⟨0, Nat.zero_le _, rfl, HO0.out, HB0.out⟩
  case round =>
    obtain ⟨k, hk, rfl, hown, hbl⟩ := hrel
    clear HO0 HB0
    by_cases hlt : k < n
    · have hkl : k < l.length := by have := HN.out; omega
      obtain ⟨ha, hck⟩ := HC.out wr hbl k hkl
      subst ha
      have hlen : (l.take k ++ List.replicate (n - k) false).length = n := by have := HN.out; simp; omega
      have o3 := hown.stored (k := k) (by rw [hlen]; exact hlt) (hOwnBool wr wr.heap.size wr.heap.size l[k]) (Nat.le_refl _)
      rw [set_step HN.out hlt] at o3
      obtain ⟨sl, fz, -⟩ := hOwnSlot hown
      obtain ⟨old, hold⟩ := sl k (by show k < n * 1; omega)
      have hfz := fz k
      have o4 := o3.1
      have e1 : setRow wr w.heap.size (k * Sh.bool.sz) [.bool l[k]] = wr.setCell ⟨w.heap.size, k, none⟩ (.bool l[k]) := by show wr.setCell ⟨w.heap.size, k * 1, none⟩ _ = _; rw [Nat.mul_one]
      rw [e1] at o4
      have HR : Hid (Own (wr.setCell ⟨w.heap.size, k, none⟩ (.bool l[k])) w.heap.size (wr.setCell ⟨w.heap.size, k, none⟩ (.bool l[k])).heap.size (bls 4) (l.take (k + 1) ++ List.replicate (n - (k + 1)) false) [.slice (some ⟨w.heap.size, 0, none⟩) n n]) := o4.tight
      have HR2 : Hid (Below w.heap.size w (wr.setCell ⟨w.heap.size, k, none⟩ (.bool l[k]))) := hbl.setCell (by simp) _
      clear o3 o4 e1 sl fz hown hbl hlen
      generalize l[k] = x at *
      go_wp2
      go_roundw
      case rel => exact ⟨k + 1, by omega, by go_num, HR.out, HR2.out⟩
      case measure => simp [intOf]; omega
    · obtain rfl : k = n := by omega
      go_wp2
      go_ret
      refine ⟨_, rfl, ?_, hbl⟩
      have e : l.take k ++ List.replicate (k - k) false = l := by rw [Nat.sub_self, List.take_of_length_le (by have := HN.out; omega)]; simp
      rw [e] at hown
      exact hown

set_option maxHeartbeats 1000000 in
theorem lEqBools (t t' : TypeId) (l : List Bool) (v u : Value) (w : World) (B : Nat) (hr : (bls t).Rd w B l [v]) (hr' : (bls t').Rd w B l [u]) (hB : B ≤ w.heap.size) (hT : l.length ≤ 1048576) :
    Calls Try.prog 27 #[v, u] w fun e w' => e = .returned (.bool true) ∧ Below w.heap.size w w' := by
  obtain ⟨a, cap, rfl, hm, b, off, hne, hc⟩ := rd_bls hr
  obtain ⟨a', cap', rfl, -, b', off', hne', hc'⟩ := rd_bls hr'
  clear hr hr'
  have HC : Hid (∀ i (h : i < l.length), a = some ⟨b, off, none⟩ ∧ a' = some ⟨b', off', none⟩ ∧ w.cell? ⟨b, off + i, none⟩ = some (.bool l[i]) ∧ w.cell? ⟨b', off' + i, none⟩ = some (.bool l[i])) := fun i h => by
    have q := hne (by intro e; subst e; simp at h)
    have q' := hne' (by intro e; subst e; simp at h)
    exact ⟨q.1, q'.1, hc i h, hc' i h⟩
  obtain ⟨n, hn⟩ : ∃ n, l.length = n := ⟨_, rfl⟩
  rw [hn] at hm ⊢
  have HN : Hid (l.length = n) := hn
  clear hn hc hne hc' hne' hT
  go_enter Try.func27, Try.ntmps27
  go_wp2
  go_loopw [5] (fun i wr => ∃ (k m : Nat), k ≤ n ∧ i = .int .i64 k ∧ wr = w.drewN m) (fun i _ => n - (intOf i).toNat)
  case atStart => exact ⟨0, 0, Nat.zero_le _, rfl, rfl⟩
  case round =>
    obtain ⟨k, m, hk, rfl, rfl⟩ := hrel
    by_cases hlt : k < n
    · have hkl : k < l.length := by have := HN.out; omega
      obtain ⟨ha, ha', c1, c2⟩ := HC.out k hkl
      subst ha ha'
      generalize l[k] = x at *
      go_wp2
      go_quiet (fail)
      go_wp2
      go_roundw
      case rel => exact ⟨k + 1, _, by omega, by go_num, rfl⟩
      case measure => simp [intOf]; omega
    · obtain rfl : k = n := by omega
      go_wp2
      go_ret
      exact ⟨rfl, below_drewN (Below.refl _ _) m⟩

/-- The marks from c on. -/
def markB (c : Int) (n : Nat) : List Bool := (List.range n).map fun (i : Nat) => (c + (i : Int)) % 3 == 0
theorem markB_length (c : Int) (n : Nat) : (markB c n).length = n := by simp [markB]
theorem markB_get (c : Int) (n i : Nat) (h : i < (markB c n).length) : (markB c n)[i] = ((c + i) % 3 == 0) := by simp [markB]
theorem markB_succ (c : Int) (n : Nat) : markB c (n + 1) = markB c n ++ [(c + n) % 3 == 0] := by simp [markB, List.range_succ]
theorem set_markB {l : List Bool} {c : Int} {k : Nat} (hk : k < l.length) : (markB c k ++ l.drop k).set k ((c + k) % 3 == 0) = markB c (k + 1) ++ l.drop (k + 1) := by
  have h1 := markB_length c k
  rw [List.set_append_right _ _ (by omega), h1, Nat.sub_self, List.drop_eq_getElem_cons hk, List.set_cons_zero, markB_succ, List.append_assoc]
  rfl

set_option maxHeartbeats 1000000 in
theorem lHeldBools (t : TypeId) (n : Nat) (v : Value) (c : Int) (w : World) (B : Nat) (hr : (bls t).Rd w B (markB c n) [v]) (hn : n ≤ 1073741824) (hc0 : 0 ≤ c) (hc1 : c ≤ 1099511627776) :
    Calls Try.prog 84 #[v, .int .i64 c] w fun e w' => e = .returned (.int .i64 (c + n)) ∧ w' = w := by
  obtain ⟨a, cap, rfl, hm, b, off, hne, hc⟩ := rd_bls hr
  rw [markB_length]
  have HC : Hid (∀ i, i < n → a = some ⟨b, off, none⟩ ∧ w.cell? ⟨b, off + i, none⟩ = some (.bool ((c + i) % 3 == 0))) := fun i h => by
    have hl := markB_length c n
    have q := hne (by intro e; rw [e] at hl; simp at hl; omega)
    have q2 := hc i (by omega)
    rw [markB_get] at q2
    exact ⟨q.1, q2⟩
  clear hr hm hne hc
  go_enter Try.func84, Try.ntmps84
  go_wp2
  go_loop [1, 5] (fun t i => ∃ k : Nat, k ≤ n ∧ i = .int .i64 k ∧ t = .int .i64 (c + k)) (fun _ i => n - (intOf i).toNat)
  case atStart => exact ⟨0, Nat.zero_le _, rfl, by go_num⟩
  case round =>
    obtain ⟨k, hk, rfl, rfl⟩ := hrel
    by_cases hlt : k < n
    · obtain ⟨ha, hck⟩ := HC.out k hlt
      subst ha
      have hk0 : 0 ≤ c + (k : Int) := by omega
      have ht : (c + (k : Int)).tmod 3 = (c + (k : Int)) % 3 := Int.tmod_eq_emod_of_nonneg hk0
      go_wp2
      go_round
      case rel => exact ⟨k + 1, by omega, by go_num, by go_num⟩
      case measure => simp [intOf]; omega
    · obtain rfl : k = n := by omega
      go_wp2
      go_ret
      exact ⟨rfl, rfl⟩

set_option maxHeartbeats 1000000 in
theorem lMarkBools (t : TypeId) (l : List Bool) (v : Value) (c : Int) (w : World) (bs : List Nat) (ho : (bls t).Ow w bs l [v]) (hT : l.length ≤ 1073741824) (hc0 : 0 ≤ c) (hc1 : c ≤ 1099511627776) :
    Calls Try.prog 28 #[v, .int .i64 c] w fun e w' => e = .returned (.int .i64 (c + (l.length : Nat))) ∧ (bls t).Ow w' bs (markB c l.length) [v] ∧ Touch bs w w' := by
  rcases ho with ⟨e1, e2, e3⟩ | ⟨g, cap, cur, F, e1, e2, h3, h4, h5, h6, h7, h8⟩
  · simp only [List.cons.injEq, and_true] at e2
    subst e1 e2 e3
    have HO : Hid ((bls t).Ow w [] (markB c 0) [.slice none 0 0]) := Or.inl ⟨rfl, rfl, rfl⟩
    go_enter Try.func28, Try.ntmps28
    go_wp2
    refine wp_loop_rounds 1 ?_
    rw [rounds_succ]
    go_wp2
    go_ret
    exact ⟨by simp, HO.out, Touch.refl _ _⟩
  · simp only [List.cons.injEq, and_true] at e1
    subst e1 e2
    have hF : ∀ i, i < l.length → F.getD i [] = [] := fun i hi => (h8 i hi).1
    have hFl : F.flatten = [] := by
      rw [List.flatten_eq_nil_iff]
      intro x hx
      obtain ⟨i, hi, rfl⟩ := List.getElem_of_mem hx
      have := hF i (by omega)
      rwa [List.getD_eq_getElem?_getD, List.getElem?_eq_getElem hi] at this
    have hcl : ∀ i (h : i < l.length), cur[i]? = some (.bool l[i]) := fun i h => by
      obtain ⟨-, q⟩ := h8 i h
      have hq : ((cur.toList.drop (i * 1)).take 1) = [.bool l[i]] := q
      have q2 := congrArg (·[0]?) hq
      simpa [List.getElem?_take, List.getElem?_drop] using q2
    obtain ⟨n, hn⟩ : ∃ n, l.length = n := ⟨_, rfl⟩
    have hn1 : n ≤ 1073741824 := by omega
    have hsz : n ≤ cur.size := by rw [h6, ← hn]; show l.length ≤ cap * 1; omega
    have HEND : Hid (∀ (w' : World) (cur' : Array Value), w'.heap[g]? = some (.cells cur' t (0, 0)) → cur'.size = cur.size → (∀ i, i < n → cur'[i]? = some (.bool ((c + i) % 3 == 0))) → (bls t).Ow w' (g :: F.flatten) (markB c n) [.slice (some ⟨g, 0, none⟩) n cap]) := fun w' cur' q1 q2 q3 => by
      refine Or.inr ⟨g, cap, cur', F, ?_, rfl, q1, ?_, h5, by rw [q2]; exact h6, by rw [markB_length, ← hn]; exact h7, fun i hi => ?_⟩
      · rw [markB_length]
      · rw [markB_length, ← hn]; exact h4
      · rw [markB_length] at hi
        refine ⟨hF i (by omega), ?_⟩
        rw [markB_get]
        show ((cur'.toList.drop (i * 1)).take 1) = [.bool ((c + i) % 3 == 0)]
        have := q3 i hi
        rw [Nat.mul_one]
        apply List.ext_getElem?
        intro j
        cases j with
        | zero => simpa [List.getElem?_take, List.getElem?_drop] using this
        | succ j => simp [List.getElem?_take]
    rw [hn]
    clear h8 hF hFl hcl h4 h5 h6 h7 hT hn
    go_enter Try.func28, Try.ntmps28
    go_wp2
    go_loopw [1, 5] (fun q i wr => ∃ (k : Nat) (cur' : Array Value), k ≤ n ∧ i = .int .i64 k ∧ q = .int .i64 (c + k) ∧ wr.heap[g]? = some (.cells cur' t (0, 0)) ∧ cur'.size = cur.size ∧ Hid (∀ i, i < k → cur'[i]? = some (.bool ((c + i) % 3 == 0))) ∧ Touch (g :: F.flatten) w wr) (fun _ i _ => n - (intOf i).toNat)
    case atStart => exact ⟨0, cur, Nat.zero_le _, rfl, by go_num, h3, rfl, (fun i h => by omega), Touch.refl _ _⟩
    case round =>
      obtain ⟨k, cur', hk, rfl, rfl, hg, hs, hel, htc⟩ := hrel
      by_cases hlt : k < n
      · have hold : wr.cell? ⟨g, k, none⟩ = some cur'[k] := by rw [cell_of_heap hg, Array.getElem?_eq_getElem]
        have hfz : wr.frozen? ⟨g, k, none⟩ = false := by simp [World.frozen?, hg]
        have HR : Hid ((wr.setCell ⟨g, k, none⟩ (.bool ((c + k) % 3 == 0))).heap[g]? = some (.cells (cur'.setIfInBounds k (.bool ((c + k) % 3 == 0))) t (0, 0)) ∧ (cur'.setIfInBounds k (.bool ((c + k) % 3 == 0))).size = cur.size ∧ (∀ i, i < k + 1 → (cur'.setIfInBounds k (.bool ((c + k) % 3 == 0)))[i]? = some (.bool ((c + i) % 3 == 0))) ∧ Touch (g :: F.flatten) w (wr.setCell ⟨g, k, none⟩ (.bool ((c + k) % 3 == 0)))) := by
          refine ⟨heap_set hg, by simp [hs], fun i hi => ?_, htc.trans (Touch.grown grown_set (by intro x e; simp at e; simp [e]))⟩
          by_cases e : i = k
          · subst e; simp [Array.getElem?_setIfInBounds]; omega
          · rw [Array.getElem?_setIfInBounds, if_neg (by omega)]; exact hel.out i (by omega)
        have hk0 : 0 ≤ c + (k : Int) := by omega
        have ht : (c + (k : Int)).tmod 3 = (c + (k : Int)) % 3 := Int.tmod_eq_emod_of_nonneg hk0
        generalize cur'[k] = old at *
        clear hg htc
        go_wp2
        go_roundw
        case rel => exact ⟨k + 1, _, by omega, by go_num, by go_num, HR.out.1, HR.out.2.1, HR.out.2.2.1, HR.out.2.2.2⟩
        case measure => simp [intOf]; omega
      · obtain rfl : k = n := by omega
        go_wp2
        go_ret
        exact ⟨rfl, HEND.out _ _ hg hs hel.out, htc⟩
end Go.Proofs.Ytlfncadngcjdjaa
