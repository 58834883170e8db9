/- Slices of whole numbers of the call's own: compared, marked, held against the marks; answers that hold one; no condition but on lengths. -/
import Derived.Test.YtacbpielhhejkalRows
import Derived.Test.YtacbpielhhejkalBase
import Derived.Test.YtacbpielhhejkalBytes
import Derived.Test.YtacbpielhhejkalMem
import Derived.Test.YtacbpielhhejkalMemOpen
import Derived.Test.YtacbpielhhejkalMemRow
import Derived.Test.YtacbpielhhejkalHBase
import Derived.Test.YtacbpielhhejkalHMark
import Derived.Test.YtacbpielhhejkalInts
namespace Go.Proofs.Ytacbpielhhejkal
open Go.RowKit
set_option linter.unusedVariables false

abbrev i64s : Sh := .row 2 (.int .i64)
/-- The slice v owns, from block base on, the numbers l. -/
structure OI (w : World) (base : Nat) (v : Value) (l : List Int) : Prop where
  own : w.ownsRow base 2 1 v l.length (l.map (Value.int .i64))
  wf : ∀ x ∈ l, (Lit.int .i64 x).wf = true

theorem rd_ints {w : World} {B : Nat} {l : List Int} {cs : List Value} (h : i64s.Rd w B l cs) : ∃ a cap, cs = [.slice a l.length cap] ∧ RI w a l := by
  obtain ⟨a, cap, h1, h2, h3, b, off, h4, h5⟩ := h
  refine ⟨a, cap, h1, ⟨?_⟩⟩
  by_cases hl : l = []
  · exact Or.inl hl
  · refine Or.inr ⟨b, off, (h4 hl).1, fun i hi => ?_⟩
    obtain ⟨cs', g1, g2, g3, g4⟩ := h5 i hi
    have := g2 0 (by decide)
    rw [g3] at this
    rw [List.getD_eq_getElem?_getD, List.getElem?_eq_getElem hi]
    simpa [Sh.sz] using this

theorem own_ints {w : World} {base hi : Nat} {v : Value} {l : List Int} (h : OI w base v l) (hh : w.heap.size ≤ hi) : Own w base hi i64s l [v] := by
  obtain ⟨h1, ⟨rfl, hz⟩ | ⟨g, cap, cur, rfl, hg, hh', hc, hm, hs, ht⟩⟩ := h.own
  · have : l = [] := List.length_eq_zero_iff.1 hz
    subst this
    exact ⟨[], Or.inl ⟨rfl, rfl, rfl⟩, by simp, by simp⟩
  · refine ⟨[g], Or.inr ⟨g, cap, cur, List.replicate l.length [], rfl, by simp, hh', hc, hm, by simpa [Sh.sz] using hs, by simp, fun i hi => ?_⟩, by simp, fun b hb => ?_⟩
    · refine ⟨by simp [List.getD_eq_getElem?_getD, hi], ?_, ?_⟩
      · have e : (cur.toList.take (l.length * 1))[i]? = some (.int .i64 l[i]) := by rw [ht, List.getElem?_map, List.getElem?_eq_getElem hi]; rfl
        rw [List.getElem?_take_of_lt (by omega)] at e
        have hlt : i < cur.toList.length := by
          apply Classical.byContradiction; intro hn
          rw [List.getElem?_eq_none (by omega)] at e; cases e
        show (cur.toList.drop (i * 1)).take 1 = _
        rw [Nat.mul_one, List.drop_eq_getElem_cons hlt]
        rw [List.getElem?_eq_getElem hlt] at e
        simpa using e
      · exact h.wf _ (List.getElem_mem hi)
    · simp at hb; subst hb
      exact ⟨hg, Nat.lt_of_lt_of_le (heap_lt hh') hh⟩

theorem take_drop_ints {cur : List Value} {n : Nat} {l : List Int} (hl : l.length = n) (h : ∀ i (hi : i < l.length), (cur.drop i).take 1 = [.int .i64 l[i]]) : cur.take n = l.map (Value.int .i64) := by
  apply List.ext_getElem?
  intro i
  by_cases hi : i < n
  · rw [List.getElem?_take_of_lt hi, List.getElem?_map, List.getElem?_eq_getElem (l := l) (by omega)]
    have := congrArg (fun x => x[0]?) (h i (by omega))
    simpa using this
  · rw [List.getElem?_eq_none (by rw [List.length_take]; omega), List.getElem?_eq_none (by simp; omega)]

theorem ints_oi {w : World} {bs : List Nat} {l : List Int} {cs : List Value} (h : i64s.Ow w bs l cs) : ∃ v, cs = [v] ∧ OI w 0 v l ∧ (∀ b, v.ownBlock = some b → b ∈ bs) ∧ (∀ b ∈ bs, v.ownBlock = some b) := by
  rcases h with ⟨rfl, rfl, rfl⟩ | ⟨g, cap, cur, F, rfl, rfl, h3, h4, h5, h6, h7, h8⟩
  · exact ⟨_, rfl, ⟨⟨rfl, Or.inl ⟨rfl, rfl⟩⟩, by simp⟩, by simp [Value.ownBlock], by simp⟩
  · have hF : F.flatten = [] := by
      apply List.eq_nil_iff_forall_not_mem.2
      intro b hb
      obtain ⟨i, hi, hb⟩ := mem_flatten_getD hb
      have := (h8 i (by omega)).1
      rw [this] at hb; simp at hb
    have key : ∀ i (hi : i < l.length), (cur.toList.drop i).take 1 = [.int .i64 l[i]] := fun i hi => by
      have := (h8 i hi).2.1
      simpa [Sh.sz] using this
    refine ⟨_, rfl, ⟨⟨by simp, Or.inr ⟨g, cap, cur, rfl, Nat.zero_le _, h3, h4, h5, by simpa [Sh.sz] using h6, ?_⟩⟩, ?_⟩, ?_, ?_⟩
    · rw [Nat.mul_one]; exact take_drop_ints rfl key
    · intro x hx
      obtain ⟨i, hi, rfl⟩ := List.getElem_of_mem hx
      exact (h8 i hi).2.2
    · intro b hb; simp [Value.ownBlock] at hb; simp [hb]
    · intro b hb; rw [hF] at hb; simp at hb; subst hb; rfl


def marksI (k : Int) (n : Nat) : List Int := (List.range n).map fun (i : Nat) => k + (i : Int)
theorem marksI_length (k : Int) (n : Nat) : (marksI k n).length = n := by simp [marksI]
theorem marksI_getD (k : Int) (n i : Nat) (h : i < n) : (marksI k n).getD i 0 = k + i := by
  simp [marksI, List.getElem?_range h]
theorem marksI_succ (k : Int) (n : Nat) : marksI k (n + 1) = marksI k n ++ [k + n] := by
  simp [marksI, List.range_succ]
theorem set_markI {l : List Int} {c : Int} {k : Nat} (hk : k < l.length) : (marksI c k ++ l.drop k).set k (c + k) = marksI c (k + 1) ++ l.drop (k + 1) := by
  have h1 := marksI_length c k
  rw [List.set_append_right _ _ (by omega), h1, Nat.sub_self, List.drop_eq_getElem_cons hk, List.set_cons_zero, marksI_succ, List.append_assoc]
  rfl
theorem marksI_wf {c : Int} {n : Nat} (h0 : 0 ≤ c) (h1 : c ≤ 1099511627776) (hn : n ≤ 1073741824) : ∀ x ∈ marksI c n, (Lit.int .i64 x).wf = true := by
  intro x hx
  obtain ⟨i, hi, rfl⟩ := List.mem_map.1 hx
  have := List.mem_range.1 hi
  exact WalkArith.wf_i64 (by omega)

set_option maxHeartbeats 400000 in
theorem lHeldInts (a : Option Addr) (n cap : Nat) (c : Int) (w : World) (ha : RI w a (marksI c n)) (hn : n ≤ 1073741824) (hc0 : 0 ≤ c) (hc1 : c ≤ 1099511627776) :
    Calls Try.prog 39 #[.slice a n cap, .int .i64 c] w fun e w' => e = .returned (.int .i64 (c + n)) ∧ w' = w := by
  go_enter Try.func39, Try.ntmps39
  go_wp2
  go_loop [1, 5] (fun t i => ∃ k : Nat, k ≤ n ∧ i = .int .i64 k ∧ t = .int .i64 (c + k)) (fun _ i => n - (intOf i).toNat)
  case atStart => exact ⟨0, Nat.zero_le _, rfl, by go_num⟩
  case round =>
    obtain ⟨k, hk, rfl, rfl⟩ := hrel
    by_cases hlt : k < n
    · rcases ha.mem with e | ⟨b1, off1, rfl, hc1'⟩
      · have := marksI_length c n; rw [e] at this; simp at this; omega
      · have c1 := hc1' k (by rw [marksI_length]; omega)
        rw [marksI_getD c n k hlt] at c1
        clear hc1' ha
        go_wp2
        go_round
        case rel => exact ⟨k + 1, by omega, by go_num, by go_num⟩
        case measure => simp [intOf]; omega
    · obtain rfl : k = n := by omega
      clear ha
      go_wp2
      go_ret
      exact ⟨rfl, rfl⟩
set_option maxHeartbeats 400000 in
theorem lMarkIntsS (base g n cap : Nat) (c : Int) (l : List Int) (w : World) (hl : l.length = n) (ho : OI w base (.slice (some ⟨g, 0, none⟩) n cap) l) (hn : n ≤ 1073741824) (hc0 : 0 ≤ c) (hc1 : c ≤ 1099511627776) :
    Calls Try.prog 38 #[.slice (some ⟨g, 0, none⟩) n cap, .int .i64 c] w fun e w' => e = .returned (.int .i64 (c + n)) ∧ OI w' base (.slice (some ⟨g, 0, none⟩) n cap) (marksI c n) ∧ w.grownBy w' (some g) := by
  go_enter Try.func38, Try.ntmps38
  go_wp2
  go_loopw [1, 5] (fun t i wr => ∃ k : Nat, k ≤ n ∧ i = .int .i64 k ∧ t = .int .i64 (c + k) ∧ wr.ownsRow base 2 1 (.slice (some ⟨g, 0, none⟩) n cap) n ((marksI c k ++ l.drop k).map (Value.int .i64)) ∧ w.grownBy wr (some g)) (fun _ i _ => n - (intOf i).toNat)
  case atStart => exact ⟨0, Nat.zero_le _, rfl, by go_num, by have := ho.own; rw [hl] at this; exact this, World.grownBy.refl _ _⟩
  case round =>
    obtain ⟨k, hk, rfl, rfl, hown, hgr⟩ := hrel
    by_cases hlt : k < n
    · have hst := hown.stored k (.int .i64 (c + k))
      have hfz := hown.frozenAt k
      obtain ⟨old, hold⟩ : ∃ old, wr.cell? ⟨g, k, none⟩ = some old := by
        rw [hown.cellAt k (by omega)]
        exact ⟨_, List.getElem?_eq_getElem (by simp [marksI_length]; omega)⟩
      have R : (wr.setCell ⟨g, k, none⟩ (.int .i64 (c + k))).ownsRow base 2 1 (.slice (some ⟨g, 0, none⟩) n cap) n ((marksI c (k + 1) ++ l.drop (k + 1)).map (Value.int .i64)) := by
        have := hst.1
        rw [← List.map_set, set_markI (by omega)] at this
        exact this
      have R2 : w.grownBy (wr.setCell ⟨g, k, none⟩ (.int .i64 (c + k))) (some g) := by
        have h2 := hst.2
        exact ⟨h2.os.trans hgr.os, h2.tape.trans hgr.tape, h2.output.trans hgr.output, Nat.le_trans hgr.size h2.size, fun j hj hne => (h2.block j (Nat.lt_of_lt_of_le hj hgr.size) hne).trans (hgr.block j hj hne)⟩
      have HR : Hid _ := R
      have HR2 : Hid _ := R2
      clear hst hown hgr R R2 ho
      go_wp2
      go_roundw
      case rel => exact ⟨k + 1, by omega, by go_num, by go_num, HR.out, HR2.out⟩
      case measure => simp [intOf]; omega
    · obtain rfl : k = n := by omega
      go_wp2
      go_ret
      refine ⟨rfl, ⟨?_, marksI_wf hc0 hc1 (by omega)⟩, hgr⟩
      rw [List.drop_of_length_le (by omega), List.append_nil] at hown
      rw [marksI_length]; exact hown
theorem lMarkInts0 (a : Option Addr) (cap : Nat) (c : Int) (w : World) :
    Calls Try.prog 38 #[.slice a 0 cap, .int .i64 c] w fun e w' => e = .returned (.int .i64 c) ∧ w' = w := by
  go_enter Try.func38, Try.ntmps38
  go_wp2
  refine wp_loop_rounds 1 ?_
  rw [rounds_succ]
  go_wp2
  go_ret
  exact ⟨rfl, rfl⟩
theorem lMarkIntsO (l : List Int) (v : Value) (c : Int) (w : World) (lo hi : Nat) (ho : Own w lo hi i64s l [v]) (hn : l.length ≤ 1073741824) (hc0 : 0 ≤ c) (hc1 : c ≤ 1099511627776) :
    Calls Try.prog 38 #[v, .int .i64 c] w fun e w' => e = .returned (.int .i64 (c + (l.length : Nat))) ∧ Own w' lo hi i64s (marksI c l.length) [v] ∧ Within lo hi w w' := by
  obtain ⟨bs, h1, h2, h3⟩ := ho
  obtain ⟨vv, e, hoi, hb1, hb2⟩ := ints_oi h1
  simp only [List.cons.injEq, and_true] at e
  subst e
  have hoi' := hoi
  obtain ⟨g1, ⟨rfl, hz⟩ | ⟨g, cap, cur, rfl, r⟩⟩ := hoi.own
  · have : l = [] := List.length_eq_zero_iff.1 hz
    subst this
    refine (lMarkInts0 none 0 c w).mono ?_
    rintro e w' ⟨rfl, rfl⟩
    exact ⟨by simp, ⟨[], Or.inl ⟨rfl, rfl, rfl⟩, by simp, by simp⟩, Within.refl _ _ _⟩
  · refine (lMarkIntsS 0 g l.length cap c l w rfl hoi' hn hc0 hc1).mono ?_
    rintro e w1 ⟨rfl, ho1, hg1⟩
    obtain ⟨bs1, q1, q2, q3⟩ := own_ints ho1 (Nat.le_refl _)
    obtain ⟨v', e', -, -, q4⟩ := ints_oi q1
    simp only [List.cons.injEq, and_true] at e'
    subst e'
    have hin : ∀ b, (Value.slice (some ⟨g, 0, none⟩) l.length cap).ownBlock = some b → lo ≤ b ∧ b < hi := fun b hb => h3 b (hb1 b hb)
    exact ⟨rfl, ⟨bs1, q1, q2, fun b hb => hin b (q4 b hb)⟩, Within.grown hg1 fun x e => hin x e⟩
end Go.Proofs.Ytacbpielhhejkal
