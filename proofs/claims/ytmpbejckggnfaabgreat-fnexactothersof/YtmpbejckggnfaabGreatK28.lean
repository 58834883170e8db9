/- Slices of whole numbers of the call's own: compared, marked, held against the marks; answers that hold one; no condition but on lengths. -/
import Derived.Test.YtmpbejckggnfaabGreatRows
import Derived.RangeFuncNested
import Derived.RangeFuncBound
import Derived.RangeFuncCalls
import Derived.RangeFuncLeaves
import Derived.RangeFuncBox
import Derived.Shelf.Abstract
import Derived.Shelf.RegionOpen
import Derived.WalkKit
import Derived.OwnWalkIn
import Derived.TacticsInMore
import Derived.LoopNIn
import Derived.LoopIn
import Derived.Maps.AppendAt
import Derived.Deep.MidRow
import Derived.WalkSmall
import Derived.Test.YtmpbejckggnfaabGreatK01
import Derived.Test.YtmpbejckggnfaabGreatK02
import Derived.Test.YtmpbejckggnfaabGreatK03
import Derived.Test.YtmpbejckggnfaabGreatK04
import Derived.Test.YtmpbejckggnfaabGreatK09
import Derived.Test.YtmpbejckggnfaabGreatK10
import Derived.Test.YtmpbejckggnfaabGreatK11
import Derived.Test.YtmpbejckggnfaabGreatK12
import Derived.Test.YtmpbejckggnfaabGreatK13
import Derived.Test.YtmpbejckggnfaabGreatK14
import Derived.Test.YtmpbejckggnfaabGreatK15
import Derived.Test.YtmpbejckggnfaabGreatK16
import Derived.Test.YtmpbejckggnfaabGreatK17
import Derived.Test.YtmpbejckggnfaabGreatK20
import Derived.Test.YtmpbejckggnfaabGreatK21
namespace Go.Proofs.YtmpbejckggnfaabGreat
open Go.RowKit
set_option linter.unusedVariables false

abbrev i64s : Sh := .row 2 (.int .i64)
/-- The slice v owns, from block base on, the numbers l. -/
structure OI (w : World) (base : Nat) (v : Value) (l : List Int) : Prop where
  own : w.ownsRow base 2 1 v l.length (l.map (Value.int .i64))
  wf : ∀ x ∈ l, (Lit.int .i64 x).wf = true

theorem rd_ints {w : World} {B : Nat} {l : List Int} {cs : List Value} (h : i64s.Rd w B l cs) : ∃ a cap, cs = [.slice a l.length cap] ∧ RI w a l := by
  obtain ⟨a, cap, h1, h2, h3, b, off, h4, h5⟩ := h
  refine ⟨a, cap, h1, ⟨?_⟩⟩
  by_cases hl : l = []
  · exact Or.inl hl
  · refine Or.inr ⟨b, off, (h4 hl).1, fun i hi => ?_⟩
    obtain ⟨cs', g1, g2, g3, g4⟩ := h5 i hi
    have := g2 0 (by decide)
    rw [g3] at this
    rw [List.getD_eq_getElem?_getD, List.getElem?_eq_getElem hi]
    simpa [Sh.sz] using this

theorem own_ints {w : World} {base hi : Nat} {v : Value} {l : List Int} (h : OI w base v l) (hh : w.heap.size ≤ hi) : Own w base hi i64s l [v] := by
  obtain ⟨h1, ⟨rfl, hz⟩ | ⟨g, cap, cur, rfl, hg, hh', hc, hm, hs, ht⟩⟩ := h.own
  · have : l = [] := List.length_eq_zero_iff.1 hz
    subst this
    exact ⟨[], Or.inl ⟨rfl, rfl, rfl⟩, by simp, by simp⟩
  · refine ⟨[g], Or.inr ⟨g, cap, cur, List.replicate l.length [], rfl, by simp, hh', hc, hm, by simpa [Sh.sz] using hs, by simp, fun i hi => ?_⟩, by simp, fun b hb => ?_⟩
    · refine ⟨by simp [List.getD_eq_getElem?_getD, hi], ?_, ?_⟩
      · have e : (cur.toList.take (l.length * 1))[i]? = some (.int .i64 l[i]) := by rw [ht, List.getElem?_map, List.getElem?_eq_getElem hi]; rfl
        rw [List.getElem?_take_of_lt (by omega)] at e
        have hlt : i < cur.toList.length := by
          apply Classical.byContradiction; intro hn
          rw [List.getElem?_eq_none (by omega)] at e; cases e
        show (cur.toList.drop (i * 1)).take 1 = _
        rw [Nat.mul_one, List.drop_eq_getElem_cons hlt]
        rw [List.getElem?_eq_getElem hlt] at e
        simpa using e
      · exact h.wf _ (List.getElem_mem hi)
    · simp at hb; subst hb
      exact ⟨hg, Nat.lt_of_lt_of_le (heap_lt hh') hh⟩

theorem take_drop_ints {cur : List Value} {n : Nat} {l : List Int} (hl : l.length = n) (h : ∀ i (hi : i < l.length), (cur.drop i).take 1 = [.int .i64 l[i]]) : cur.take n = l.map (Value.int .i64) := by
  apply List.ext_getElem?
  intro i
  by_cases hi : i < n
  · rw [List.getElem?_take_of_lt hi, List.getElem?_map, List.getElem?_eq_getElem (l := l) (by omega)]
    have := congrArg (fun x => x[0]?) (h i (by omega))
    simpa using this
  · rw [List.getElem?_eq_none (by rw [List.length_take]; omega), List.getElem?_eq_none (by simp; omega)]

theorem ints_oi {w : World} {bs : List Nat} {l : List Int} {cs : List Value} (h : i64s.Ow w bs l cs) : ∃ v, cs = [v] ∧ OI w 0 v l ∧ (∀ b, v.ownBlock = some b → b ∈ bs) ∧ (∀ b ∈ bs, v.ownBlock = some b) := by
  rcases h with ⟨rfl, rfl, rfl⟩ | ⟨g, cap, cur, F, rfl, rfl, h3, h4, h5, h6, h7, h8⟩
  · exact ⟨_, rfl, ⟨⟨rfl, Or.inl ⟨rfl, rfl⟩⟩, by simp⟩, by simp [Value.ownBlock], by simp⟩
  · have hF : F.flatten = [] := by
      apply List.eq_nil_iff_forall_not_mem.2
      intro b hb
      obtain ⟨i, hi, hb⟩ := mem_flatten_getD hb
      have := (h8 i (by omega)).1
      rw [this] at hb; simp at hb
    have key : ∀ i (hi : i < l.length), (cur.toList.drop i).take 1 = [.int .i64 l[i]] := fun i hi => by
      have := (h8 i hi).2.1
      simpa [Sh.sz] using this
    refine ⟨_, rfl, ⟨⟨by simp, Or.inr ⟨g, cap, cur, rfl, Nat.zero_le _, h3, h4, h5, by simpa [Sh.sz] using h6, ?_⟩⟩, ?_⟩, ?_, ?_⟩
    · rw [Nat.mul_one]; exact take_drop_ints rfl key
    · intro x hx
      obtain ⟨i, hi, rfl⟩ := List.getElem_of_mem hx
      exact (h8 i hi).2.2
    · intro b hb; simp [Value.ownBlock] at hb; simp [hb]
    · intro b hb; rw [hF] at hb; simp at hb; subst hb; rfl


def marksI (k : Int) (n : Nat) : List Int := (List.range n).map fun (i : Nat) => k + (i : Int)
theorem marksI_length (k : Int) (n : Nat) : (marksI k n).length = n := by simp [marksI]
theorem marksI_getD (k : Int) (n i : Nat) (h : i < n) : (marksI k n).getD i 0 = k + i := by
  simp [marksI, List.getElem?_range h]
theorem marksI_succ (k : Int) (n : Nat) : marksI k (n + 1) = marksI k n ++ [k + n] := by
  simp [marksI, List.range_succ]
theorem set_markI {l : List Int} {c : Int} {k : Nat} (hk : k < l.length) : (marksI c k ++ l.drop k).set k (c + k) = marksI c (k + 1) ++ l.drop (k + 1) := by
  have h1 := marksI_length c k
  rw [List.set_append_right _ _ (by omega), h1, Nat.sub_self, List.drop_eq_getElem_cons hk, List.set_cons_zero, marksI_succ, List.append_assoc]
  rfl
theorem marksI_wf {c : Int} {n : Nat} (h0 : 0 ≤ c) (h1 : c ≤ 1099511627776) (hn : n ≤ 1073741824) : ∀ x ∈ marksI c n, (Lit.int .i64 x).wf = true := by
  intro x hx
  obtain ⟨i, hi, rfl⟩ := List.mem_map.1 hx
  have := List.mem_range.1 hi
  exact WalkArith.wf_i64 (by omega)

set_option maxHeartbeats 400000 in
theorem lHeldInts (a : Option Addr) (n cap : Nat) (c : Int) (w : World) (ha : RI w a (marksI c n)) (hn : n ≤ 1073741824) (hc0 : 0 ≤ c) (hc1 : c ≤ 1099511627776) :
    Calls Tryz.prog 49 #[.slice a n cap, .int .i64 c] w fun e w' => e = .returned (.int .i64 (c + n)) ∧ w' = w := by
  go_enter Tryz.func49, Tryz.ntmps49
  go_wp2
  go_loop [1, 5] (fun t i => ∃ k : Nat, k ≤ n ∧ i = .int .i64 k ∧ t = .int .i64 (c + k)) (fun _ i => n - (intOf i).toNat)
  case atStart => exact ⟨0, Nat.zero_le _, rfl, by go_num⟩
  case round =>
    obtain ⟨k, hk, rfl, rfl⟩ := hrel
    by_cases hlt : k < n
    · rcases ha.mem with e | ⟨b1, off1, rfl, hc1'⟩
      · have := marksI_length c n; rw [e] at this; simp at this; omega
      · have c1 := hc1' k (by rw [marksI_length]; omega)
        rw [marksI_getD c n k hlt] at c1
        clear hc1' ha
        go_wp2
        go_round
        case rel => exact ⟨k + 1, by omega, by go_num, by go_num⟩
        case measure => simp [intOf]; omega
    · obtain rfl : k = n := by omega
      clear ha
      go_wp2
      go_ret
      exact ⟨rfl, rfl⟩
set_option maxHeartbeats 400000 in
theorem lMarkIntsS (base g n cap : Nat) (c : Int) (l : List Int) (w : World) (hl : l.length = n) (ho : OI w base (.slice (some ⟨g, 0, none⟩) n cap) l) (hn : n ≤ 1073741824) (hc0 : 0 ≤ c) (hc1 : c ≤ 1099511627776) :
    Calls Tryz.prog 48 #[.slice (some ⟨g, 0, none⟩) n cap, .int .i64 c] w fun e w' => e = .returned (.int .i64 (c + n)) ∧ OI w' base (.slice (some ⟨g, 0, none⟩) n cap) (marksI c n) ∧ w.grownBy w' (some g) := by
  go_enter Tryz.func48, Tryz.ntmps48
  go_wp2
  go_loopw [1, 5] (fun t i wr => ∃ k : Nat, k ≤ n ∧ i = .int .i64 k ∧ t = .int .i64 (c + k) ∧ wr.ownsRow base 2 1 (.slice (some ⟨g, 0, none⟩) n cap) n ((marksI c k ++ l.drop k).map (Value.int .i64)) ∧ w.grownBy wr (some g)) (fun _ i _ => n - (intOf i).toNat)
  case atStart => exact ⟨0, Nat.zero_le _, rfl, by go_num, by have := ho.own; rw [hl] at this; exact this, World.grownBy.refl _ _⟩
  case round =>
    obtain ⟨k, hk, rfl, rfl, hown, hgr⟩ := hrel
    by_cases hlt : k < n
    · have hst := hown.stored k (.int .i64 (c + k))
      have hfz := hown.frozenAt k
      obtain ⟨old, hold⟩ : ∃ old, wr.cell? ⟨g, k, none⟩ = some old := by
        rw [hown.cellAt k (by omega)]
        exact ⟨_, List.getElem?_eq_getElem (by simp [marksI_length]; omega)⟩
      have R : (wr.setCell ⟨g, k, none⟩ (.int .i64 (c + k))).ownsRow base 2 1 (.slice (some ⟨g, 0, none⟩) n cap) n ((marksI c (k + 1) ++ l.drop (k + 1)).map (Value.int .i64)) := by
        have := hst.1
        rw [← List.map_set, set_markI (by omega)] at this
        exact this
      have R2 : w.grownBy (wr.setCell ⟨g, k, none⟩ (.int .i64 (c + k))) (some g) := by
        have h2 := hst.2
        exact ⟨h2.os.trans hgr.os, h2.tape.trans hgr.tape, h2.output.trans hgr.output, Nat.le_trans hgr.size h2.size, fun j hj hne => (h2.block j (Nat.lt_of_lt_of_le hj hgr.size) hne).trans (hgr.block j hj hne)⟩
      have HR : Hid _ := R
      have HR2 : Hid _ := R2
      clear hst hown hgr R R2 ho
      go_wp2
      go_roundw
      case rel => exact ⟨k + 1, by omega, by go_num, by go_num, HR.out, HR2.out⟩
      case measure => simp [intOf]; omega
    · obtain rfl : k = n := by omega
      go_wp2
      go_ret
      refine ⟨rfl, ⟨?_, marksI_wf hc0 hc1 (by omega)⟩, hgr⟩
      rw [List.drop_of_length_le (by omega), List.append_nil] at hown
      rw [marksI_length]; exact hown
theorem lMarkInts0 (a : Option Addr) (cap : Nat) (c : Int) (w : World) :
    Calls Tryz.prog 48 #[.slice a 0 cap, .int .i64 c] w fun e w' => e = .returned (.int .i64 c) ∧ w' = w := by
  go_enter Tryz.func48, Tryz.ntmps48
  go_wp2
  refine wp_loop_rounds 1 ?_
  rw [rounds_succ]
  go_wp2
  go_ret
  exact ⟨rfl, rfl⟩
theorem lMarkIntsO (l : List Int) (v : Value) (c : Int) (w : World) (lo hi : Nat) (ho : Own w lo hi i64s l [v]) (hn : l.length ≤ 1073741824) (hc0 : 0 ≤ c) (hc1 : c ≤ 1099511627776) :
    Calls Tryz.prog 48 #[v, .int .i64 c] w fun e w' => e = .returned (.int .i64 (c + (l.length : Nat))) ∧ Own w' lo hi i64s (marksI c l.length) [v] ∧ Within lo hi w w' := by
  obtain ⟨bs, h1, h2, h3⟩ := ho
  obtain ⟨vv, e, hoi, hb1, hb2⟩ := ints_oi h1
  simp only [List.cons.injEq, and_true] at e
  subst e
  have hoi' := hoi
  obtain ⟨g1, ⟨rfl, hz⟩ | ⟨g, cap, cur, rfl, r⟩⟩ := hoi.own
  · have : l = [] := List.length_eq_zero_iff.1 hz
    subst this
    refine (lMarkInts0 none 0 c w).mono ?_
    rintro e w' ⟨rfl, rfl⟩
    exact ⟨by simp, ⟨[], Or.inl ⟨rfl, rfl, rfl⟩, by simp, by simp⟩, Within.refl _ _ _⟩
  · refine (lMarkIntsS 0 g l.length cap c l w rfl hoi' hn hc0 hc1).mono ?_
    rintro e w1 ⟨rfl, ho1, hg1⟩
    obtain ⟨bs1, q1, q2, q3⟩ := own_ints ho1 (Nat.le_refl _)
    obtain ⟨v', e', -, -, q4⟩ := ints_oi q1
    simp only [List.cons.injEq, and_true] at e'
    subst e'
    have hin : ∀ b, (Value.slice (some ⟨g, 0, none⟩) l.length cap).ownBlock = some b → lo ≤ b ∧ b < hi := fun b hb => h3 b (hb1 b hb)
    exact ⟨rfl, ⟨bs1, q1, q2, fun b hb => hin b (q4 b hb)⟩, Within.grown hg1 fun x e => hin x e⟩
end Go.Proofs.YtmpbejckggnfaabGreat

/- Answers that hold a slice of numbers: compared, marked, held against the marks; no condition but on lengths. -/
namespace Go.Proofs.YtmpbejckggnfaabGreat
open Go.RowKit
set_option linter.unusedVariables false

set_option maxHeartbeats 1000000 in
theorem lEqIntsResult (q : Int) (x : List Int) (v u : Value) (w : World) (B : Nat) (hr : i64s.Rd w B x [v]) (hr' : i64s.Rd w B x [u]) (hB : B ≤ w.heap.size) (hT : x.length ≤ 1048576) :
    Calls Tryz.prog 19 #[.agg #[.int .i64 q, v], .agg #[.int .i64 q, u]] w fun e w' => e = .returned (.bool true) ∧ Below w.heap.size w w' := by
  obtain ⟨va, vc, ev, -⟩ := rd_ints hr
  simp only [List.cons.injEq, and_true] at ev
  subst ev
  obtain ⟨ua, uc, ev, -⟩ := rd_ints hr'
  simp only [List.cons.injEq, and_true] at ev
  subst ev
  have HC : Hid (∀ W, Below w.heap.size w W → Calls Tryz.prog 47 #[.slice va x.length vc, .slice ua x.length uc] W fun e w' => e = .returned (.bool true) ∧ Below W.heap.size W w') := fun W hW => by
    obtain ⟨_, _, e1, r1⟩ := rd_ints (hr.below hB hW)
    simp only [List.cons.injEq, Value.slice.injEq, and_true, true_and] at e1
    obtain ⟨rfl, rfl⟩ := e1
    obtain ⟨_, _, e1, r2⟩ := rd_ints (hr'.below hB hW)
    simp only [List.cons.injEq, Value.slice.injEq, and_true, true_and] at e1
    obtain ⟨rfl, rfl⟩ := e1
    refine (lEqInts _ _ _ _ _ x W rfl r1 r2 (by omega)).mono ?_
    rintro e w' ⟨m, rfl, rfl⟩
    exact ⟨rfl, below_drewN (Below.refl _ _) m⟩
  clear hr hr' hT
  generalize x.length = n at *
  go_enter Tryz.func19, Tryz.ntmps19
  go_wp2_with fail
  refine (HC.out _ (by go_grown)).mono ?_
  rintro e w1 ⟨rfl, hb1⟩
  go_wp2_with fail
  go_ret
  exact ⟨rfl, Below.trans (by go_grown) (hb1.mono (by simp; omega))⟩
set_option maxHeartbeats 1000000 in
theorem lMarkIntsResult (q : Int) (x : List Int) (v : Value) (c : Int) (w : World) (lo hi : Nat) (ho : Own w lo hi i64s x [v]) (hhi : hi ≤ w.heap.size) (hT : x.length ≤ 1048576) (hc0 : 0 ≤ c) (hc1 : c ≤ 1073741824) :
    Calls Tryz.prog 20 #[.agg #[.int .i64 q, v], .int .i64 c] w fun e w' => e = .returned (.int .i64 (c + (x.length : Nat))) ∧ Own w' lo hi i64s (marksI c x.length) [v] ∧ Within lo hi w w' := by
  obtain ⟨va, vc, ev, -⟩ := rd_ints (ho.rd (Nat.le_refl _))
  simp only [List.cons.injEq, and_true] at ev
  subst ev
  have HC : Hid (∀ W, Below w.heap.size w W → Calls Tryz.prog 48 #[.slice va x.length vc, .int .i64 c] W fun e w' => e = .returned (.int .i64 (c + (x.length : Nat))) ∧ Own w' lo hi i64s (marksI c x.length) [.slice va x.length vc] ∧ Within lo hi W w') := fun W hW => lMarkIntsO x _ c W lo hi (ho.below hhi hW) (by omega) hc0 (by omega)
  clear ho hT
  generalize x.length = n at *
  go_enter Tryz.func20, Tryz.ntmps20
  go_wp2_with fail
  refine (HC.out _ (by go_grown)).mono ?_
  rintro e w1 ⟨rfl, ho1, hw1⟩
  have HO1 : Hid _ := ho1
  have HW1 : Hid (Within lo hi w w1) := (Within.below ((Below.refl _ _).alloc (Nat.le_refl _) _)).trans hw1
  clear ho1 hw1
  go_wp2_with fail
  go_ret
  exact ⟨rfl, HO1.out, HW1.out⟩
set_option maxHeartbeats 1000000 in
theorem lHeldIntsResult (q : Int) (x : List Int) (v : Value) (c : Int) (w : World) (B : Nat) (hr : i64s.Rd w B (marksI c x.length) [v]) (hB : B ≤ w.heap.size) (hT : x.length ≤ 1048576) (hc0 : 0 ≤ c) (hc1 : c ≤ 1073741824) :
    Calls Tryz.prog 21 #[.agg #[.int .i64 q, v], .int .i64 c] w fun e w' => e = .returned (.int .i64 (c + (x.length : Nat))) ∧ Below w.heap.size w w' := by
  obtain ⟨va, vc, ev, -⟩ := rd_ints hr
  rw [marksI_length] at ev
  simp only [List.cons.injEq, and_true] at ev
  subst ev
  have HC : Hid (∀ W, Below w.heap.size w W → Calls Tryz.prog 49 #[.slice va x.length vc, .int .i64 c] W fun e w' => e = .returned (.int .i64 (c + (x.length : Nat))) ∧ Below W.heap.size W w') := fun W hW => by
    obtain ⟨_, _, e1, r1⟩ := rd_ints (hr.below hB hW)
    rw [marksI_length] at e1
    simp only [List.cons.injEq, Value.slice.injEq, and_true, true_and] at e1
    obtain ⟨rfl, rfl⟩ := e1
    refine (lHeldInts va _ vc c W r1 (by omega) hc0 (by omega)).mono ?_
    rintro e w' ⟨rfl, hw⟩
    exact ⟨rfl, by rw [hw]; exact Below.refl _ _⟩
  clear hr hT
  generalize x.length = n at *
  have hp : 0 ≤ c + (n : Int) := by omega
  go_enter Tryz.func21, Tryz.ntmps21
  go_wp2_with fail
  refine (HC.out _ (by go_grown)).mono ?_
  rintro e w1 ⟨rfl, hb⟩
  go_wp2_with fail
  go_ret
  exact ⟨rfl, Below.trans (by go_grown) (hb.mono (by simp))⟩
end Go.Proofs.YtmpbejckggnfaabGreat

/- What the law's own helpers (compare, mark, hold against the marks) make of an answer that holds numbers; an answer stands as one value; no condition but that there are at most a million parts. -/
namespace Go.Proofs.YtmpbejckggnfaabGreat
open Go.RowKit
set_option linter.unusedVariables false
set_option maxRecDepth 8000

abbrev shIR : Sh := .cons (.int .i64) (.cons i64s .nil)
abbrev DIR : Type := Int × List Int × Unit
def totIR (x : DIR) : Nat := x.2.1.length
def wtIR (x : DIR) : Nat := x.2.1.length
def mkIR (c : Int) : DIR → DIR
  | (q, l, _) => (q, marksI c l.length, ())
theorem wtIR_le {x : DIR} (h : totIR x ≤ 1048576) : wtIR x ≤ 16777216 := by unfold totIR at h; unfold wtIR; omega
theorem rd_IR {w : World} {B : Nat} {q : Int} {l : List Int} {N : Array Value} (h : shIR.Rd w B (q, l, ()) N.toList) : ∃ v, N = #[.int .i64 q, v] ∧ i64s.Rd w B l [v] := by
  obtain ⟨p0, q0, e0, ⟨g0, w0⟩, p1, q1, e1, h1, hz⟩ := h
  have hz' : q1 = [] := hz
  have hl : p1.length = 1 := Sh.Rd.len _ _ _ h1
  match p1, hl with
  | [v], _ =>
    refine ⟨v, ?_, h1⟩
    have e : N.toList = [.int .i64 q, v] := by rw [e0, g0, e1, hz']; rfl
    rw [arr_of e]
theorem ow_IR {w : World} {lo hi : Nat} {q : Int} {l : List Int} {N : Array Value} (h : Own w lo hi shIR (q, l, ()) N.toList) : ∃ v, N = #[.int .i64 q, v] ∧ Own w lo hi i64s l [v] ∧ (Lit.int .i64 q).wf = true := by
  obtain ⟨bs, ⟨a0, r0, p0, q0, eb0, ec0, ⟨f0, g0, w0⟩, a1, r1, p1, q1, eb1, ec1, h1, zb, zc⟩, hn, hb⟩ := h
  have eb : bs = a1 := by rw [eb0, f0, eb1, zb]; simp
  subst eb
  have hl : p1.length = 1 := Sh.Ow.len _ _ _ _ h1
  match p1, hl with
  | [v], _ =>
    refine ⟨v, ?_, ⟨bs, h1, hn, hb⟩, w0⟩
    have e : N.toList = [.int .i64 q, v] := by rw [ec0, g0, ec1, zc]; rfl
    rw [arr_of e]
theorem mk_IR {w : World} {lo hi : Nat} {q : Int} {l : List Int} {v : Value} (h : Own w lo hi i64s l [v]) (hq : (Lit.int .i64 q).wf = true) : Own w lo hi shIR (q, l, ()) [.int .i64 q, v] := by
  obtain ⟨bs, h1, hn, hb⟩ := h
  exact ⟨bs, ⟨[], bs, [_], [v], rfl, rfl, ⟨rfl, rfl, hq⟩, bs, [], [v], [], (List.append_nil _).symm, rfl, h1, rfl, rfl⟩, hn, hb⟩
theorem lEqIR (x : DIR) (N N' : Array Value) (w : World) (B : Nat) (hr : shIR.Rd w B x N.toList) (hr' : shIR.Rd w B x N'.toList) (hB : B ≤ w.heap.size) (hT : totIR x ≤ 1048576) :
    Calls Tryz.prog 19 #[.agg N, .agg N'] w fun e w' => e = .returned (.bool true) ∧ Below w.heap.size w w' := by
  obtain ⟨q, l, ⟨⟩⟩ := x
  obtain ⟨v, rfl, h1⟩ := rd_IR hr
  obtain ⟨u, rfl, h2⟩ := rd_IR hr'
  exact lEqIntsResult q l v u w B h1 h2 hB hT
theorem lHeldIR (x : DIR) (N : Array Value) (c : Int) (w : World) (B : Nat) (hr : shIR.Rd w B (mkIR c x) N.toList) (hB : B ≤ w.heap.size) (hT : totIR x ≤ 1048576) (hc0 : 0 ≤ c) (hc1 : c ≤ 16777216) :
    Calls Tryz.prog 21 #[.agg N, .int .i64 c] w fun e w' => e = .returned (.int .i64 (c + (wtIR x : Nat))) ∧ Below w.heap.size w w' := by
  obtain ⟨q, l, ⟨⟩⟩ := x
  obtain ⟨v, rfl, h1⟩ := rd_IR hr
  exact lHeldIntsResult q l v c w B h1 hB hT hc0 (by omega)
theorem lMarkIR (x : DIR) (N : Array Value) (c : Int) (w : World) (lo hi : Nat) (ho : Own w lo hi shIR x N.toList) (hhi : hi ≤ w.heap.size) (hT : totIR x ≤ 1048576) (hc0 : 0 ≤ c) (hc1 : c ≤ 16777216) :
    Calls Tryz.prog 20 #[.agg N, .int .i64 c] w fun e w' => e = .returned (.int .i64 (c + (wtIR x : Nat))) ∧ Own w' lo hi shIR (mkIR c x) N.toList ∧ Within lo hi w w' := by
  obtain ⟨q, l, ⟨⟩⟩ := x
  obtain ⟨v, rfl, h1, hq⟩ := ow_IR ho
  refine (lMarkIntsResult q l v c w lo hi h1 hhi hT hc0 (by omega)).mono ?_
  rintro e w' ⟨rfl, ho2, hw⟩
  exact ⟨rfl, mk_IR ho2 hq, hw⟩
end Go.Proofs.YtmpbejckggnfaabGreat

/- The windows of the other paths that are open, by program and model; the answer owns its memory; nothing that was there turns; no condition but that there are at most a million parts. -/
namespace Go.Proofs.YtmpbejckggnfaabGreat
open Go.RowKit
set_option linter.unusedVariables false
set_option maxRecDepth 8000

theorem infoI64M : (Tryz.prog.info? 2).map (fun i => (i.zero, i.size, i.bytes)) = some (some (.int .i64 0), 1, 8) := by kernel_rfl
theorem app_intM {ops : Array Oper} {rest : List Oper} {o : Oper} {a : Act} {Q : Exit → Act → World → Prop} (w : World) (hgd : o.guard = none) (s x : Operand)
    (ho : o.op = .call { callee := .builtin .append, args := #[s, x], argTypes := #[47, 47] }) (base : Nat) (v : Value) (n : Nat) (xs : List Value) (hs : a.eval s = v)
    (hown : w.ownsRow base 2 1 v n xs) (y : Int) (hx : a.eval x = .slice (some ⟨w.heap.size, 0, none⟩) 1 1) (hn : n ≤ 1048576) (hb : base ≤ w.heap.size)
    (h : ∀ v' w', w'.ownsRow base 2 1 v' (n + 1) (xs ++ [.int .i64 y]) → Below base w w' → wpList Tryz.prog ops Q rest (a.put o.dst v') w') :
    wpList Tryz.prog ops Q (o :: rest) a (w.alloc (.cells #[.int .i64 y] 2)) := by
  obtain ⟨i0, hi, hz0, hz1, hz2⟩ := info_parts infoI64M
  refine wpList_append_own _ hgd s x 47 ho base 2 i0 (.int .i64 0) 1 8 Tryz.underlying47 hi hz0 hz1 hz2 rfl (by decide) v n xs hs (hown.alloc _) ⟨w.heap.size, 0, none⟩ 1 1 [.int .i64 y] hx rfl ?_ ?_ ?_ ?_ ?_ ?_
  · exact cell_one_new _ _ _
  · intro u hu; simp at hu; subst hu; rfl
  · unfold maxLen; omega
  · omega
  · simp; omega
  · intro v' w' h1 h2 _
    refine h v' w' h1 ?_
    have hba : Below base w (w.alloc (.cells #[.int .i64 y] 2)) := (Below.refl _ _).alloc hb _
    exact hba.grown h2 (by simp; omega) (fun k hk => (hown.lt k hk).1)
theorem own_formM {w : World} {base : Nat} {t : TypeId} {sz : Nat} {v : Value} {n : Nat} {xs : List Value} (h : w.ownsRow base t sz v n xs) : ∃ a cap, v = .slice a n cap := by
  obtain ⟨_, ⟨e, hz⟩ | ⟨g, cap, cur, e, _⟩⟩ := h
  · exact ⟨none, 0, by rw [e, hz]⟩
  · exact ⟨_, cap, e⟩
def othB (p : Int) (x : DSub) : Bool := decide (x.2.1 = 3) && !decide (x.1 = p)
def winD (x : DSub) : Int := x.2.2.2.2.2.2.2.2.1.1
def othL (p : Int) (l : List DSub) : List Int := (l.filter (othB p)).map winD
theorem oth_step (p : Int) {l : List DSub} {k : Nat} (hk : k < l.length) : othL p (l.take (k + 1)) = if othB p l[k] = true then othL p (l.take k) ++ [winD l[k]] else othL p (l.take k) := by
  unfold othL
  rw [List.take_succ_eq_append_getElem hk, List.filter_append, List.map_append]
  by_cases h : othB p l[k] = true
  · rw [if_pos h, List.filter_cons_of_pos h]; rfl
  · rw [if_neg h, List.filter_cons_of_neg h]; simp
theorem oth_len (p : Int) (l : List DSub) : (othL p l).length ≤ l.length := by unfold othL; rw [List.length_map]; exact List.length_filter_le _ _
theorem oth_mem {p : Int} {l : List DSub} {y : Int} (h : y ∈ othL p l) : ∃ x ∈ l, y = winD x := by
  unfold othL at h
  obtain ⟨x, hx, rfl⟩ := List.mem_map.1 h
  exact ⟨x, (List.mem_filter.1 hx).1, rfl⟩
def othV (c : DConn) (p : Int) : DIR := if connF c = 0 then (0, othL p c.subs, ()) else (connF c, [], ())
theorem othV_tot {c : DConn} {p : Int} (h : totConn c ≤ 1048576) : totIR (othV c p) ≤ 1048576 := by
  unfold othV
  split
  · have h1 := oth_len p c.subs
    have h2 : c.2.2.2.2.2.1.length + gtTot c.2.2.2.2.2.2.2.2.2.1 + (c.subs.length + fsum totSub c.subs) ≤ 1048576 := h
    show (othL p c.subs).length ≤ _
    omega
  · exact Nat.zero_le _
theorem sub_win {w : World} {B : Nat} {x : DSub} {cs : List Value} (hr : shSub.Rd w B x cs) : cs[13]? = some (.int .i64 (winD x)) ∧ (Lit.int .i64 (winD x)).wf = true := by
  obtain ⟨u, v, e, -, -, hw⟩ := rd_Sub hr
  exact ⟨by rw [e]; rfl, hw.2.1⟩
theorem subs_win {w : World} {B : Nat} {c : DConn} {A : Array Value} (hr : shConn.Rd w B c A.toList) : ∀ y ∈ c.subs, (Lit.int .i64 (winD y)).wf = true := fun y hy => by
  obtain ⟨k, hk, rfl⟩ := List.getElem_of_mem hy
  obtain ⟨cs, b, off, n, cap, -, -, -, -, hs, -⟩ := sub_of hr hk
  exact (sub_win hs).2
set_option maxHeartbeats 2000000 in
theorem sL10Others (c : DConn) (A : Array Value) (cb of : Nat) (p : Int) (w : World) (B : Nat) (h : ConnAt w B c A cb of) :
    Calls Tryz.prog 44 #[.pointer (some ⟨cb, of, none⟩), .int .i64 p] w fun e w' => ∃ u, e = .returned u ∧ Own w' w.heap.size w'.heap.size i64s (othL p c.subs) [u] ∧ Below w.heap.size w w' := by
  have HWF : Hid (∀ y ∈ c.subs, (Lit.int .i64 (winD y)).wf = true) := subs_win h.rd
  obtain ⟨y0, y1, y2, y3, y4, d5, y6, y7, y8, d9, y10, y11, l, ⟨⟩⟩ := c
  obtain ⟨a5, c5, a9, c9, a9', c9', a12, c12, eA, -, -, r12, -⟩ := rd_Conn h.rd
  have hT := h.tot
  have x13 : w.cell? ⟨cb, of + 13, none⟩ = some (.slice a12 l.length c12) := h.at_ 13 _ (by rw [eA]; rfl)
  have hmx : l.length ≤ 1048576 := by have h2 : d5.length + gtTot d9 + totSubs l ≤ 1048576 := hT; unfold totSubs at h2; omega
  have hcb := h.lt
  obtain ⟨n, hn⟩ : ∃ n, l.length = n := ⟨_, rfl⟩
  have HRd : Hid (∀ W, Below w.heap.size w W → shSubs.Rd W B l [.slice a12 n c12]) := fun W hW => by show shSubs.Rd _ _ _ _; rw [← hn]; exact Sh.Rd.below (s := shSubs) r12 h.hB hW
  have hBw := h.hB
  rw [hn] at x13 hmx
  have CB : Hid (∀ W, Below w.heap.size w W → W.cell? ⟨cb, of + 13, none⟩ = some (.slice a12 n c12)) := fun W hW => (hW.cell (p := ⟨cb, of + 13, none⟩) hcb).trans x13
  have HN : Hid (l.length = n) := hn
  show Calls _ _ _ _ fun e w' => ∃ u, e = .returned u ∧ Own w' w.heap.size w'.heap.size i64s (othL p l) [u] ∧ _
  have HD : Hid (∀ k, (othL p (l.take k)).length ≤ 1048576) := fun k => by have h1 := oth_len p (l.take k); rw [List.length_take] at h1; omega
  replace HWF : Hid (∀ y ∈ l, (Lit.int .i64 (winD y)).wf = true) := HWF
  clear h eA r12 hT hn x13
  go_enter Tryz.func44, Tryz.ntmps44
  go_wp2_with fail
  go_loopw [5, 6] (fun t i wr => ∃ (k : Nat) (va : Option Addr) (vn vc : Nat), k ≤ n ∧ i = .int .i64 k ∧ t = .slice va vn vc ∧ Hid (wr.ownsRow w.heap.size 2 1 (.slice va vn vc) (othL p (l.take k)).length ((othL p (l.take k)).map (Value.int .i64))) ∧ Hid (Below w.heap.size w wr)) (fun _ i _ => n - (intOf i).toNat)
  case atStart => exact ⟨0, _, _, _, Nat.zero_le _, rfl, rfl, World.ownsRow_made w #[] 0 (Nat.le_refl _) (by decide) rfl, (by show Below _ _ _; go_grown)⟩
  case round =>
    obtain ⟨k, va, vn, vc, hk, rfl, rfl, HO, HB⟩ := hrel
    have d13 := CB.out _ HB.out
    by_cases hlt : k < n
    · have hkl : k < l.length := by have := HN.out; omega
      have hki : (k : Int) < (n : Int) := by omega
      have hk0 : (0 : Int) ≤ (k : Int) := by omega
      obtain ⟨b, off, cs, ha, hb, hlen, hrg, hrs, q0, q1, -⟩ := sub_at (HRd.out wr HB.out) k hkl
      subst ha
      have q13 : wr.cell? ⟨b, off + k * 16 + 13, none⟩ = some (.int .i64 (winD l[k])) := hrg 13 _ (sub_win hrs).1
      have HST : Hid _ := oth_step p hkl
      have hob : othB p l[k] = (decide (l[k].2.1 = 3) && !decide (l[k].1 = p)) := rfl
      have HOB : Hid _ := hob
      clear hrg hrs hlen hob
      generalize othB p l[k] = ob at *
      generalize winD l[k] = z at *
      generalize l[k].1 = pa at *
      generalize l[k].2.1 = st at *
      by_cases h3 : st = 3
      · have e3 : (st == 3) = true := by simp [h3]
        by_cases hp : pa = p
        · have ep : (pa != p) = false := by simp [hp]
          have hf : ob = false := by rw [HOB.out, h3, hp]; simp
          subst hf
          clear h3 hp HOB
          go_wp2_with fail
          go_roundw
          case rel => exact ⟨k + 1, va, vn, vc, by omega, by go_num, rfl, (by show World.ownsRow _ _ _ _ _ _ _; rw [HST.out, if_neg (by simp)]; exact HO.out), HB⟩
          case measure => simp [intOf]; omega
        · have ep : (pa != p) = true := by simp [hp]
          have hf : ob = true := by rw [HOB.out, h3]; simp [hp]
          subst hf
          have hsz := HB.out.size
          have hdl := HD.out k
          clear h3 hp HOB
          go_wp2_with (at_builtin; refine app_intM wr rfl _ _ rfl w.heap.size (.slice va vn vc) _ _ (by rfl) HO.out _ (by rfl) hdl hsz ?_; intro v5 w5 ho5 hb5; obtain ⟨va5, vc5, hv5⟩ := own_formM ho5; subst hv5; have HO5 : Hid _ := ho5; have HB5 : Hid (Below w.heap.size w w5) := HB.out.trans hb5; clear ho5 hb5)
          go_roundw
          case rel => exact ⟨k + 1, va5, _, vc5, by omega, by go_num, rfl, (by show World.ownsRow _ _ _ _ _ _ _; rw [HST.out, if_pos rfl, List.length_append, List.map_append]; exact HO5.out), HB5⟩
          case measure => simp [intOf]; omega
      · have e3 : (st == 3) = false := by simp [h3]
        have hf : ob = false := by rw [HOB.out]; simp [h3]
        subst hf
        clear h3 HOB
        go_wp2_with fail
        go_roundw
        case rel => exact ⟨k + 1, va, vn, vc, by omega, by go_num, rfl, (by show World.ownsRow _ _ _ _ _ _ _; rw [HST.out, if_neg (by simp)]; exact HO.out), HB⟩
        case measure => simp [intOf]; omega
    · obtain rfl : k = n := by omega
      go_wp2_with fail
      go_ret
      refine ⟨_, rfl, ?_, HB.out⟩
      have h := HO.out
      rw [← HN.out, List.take_length] at h
      exact own_ints ⟨h, fun y hy => by obtain ⟨x, hx, rfl⟩ := oth_mem hy; exact HWF.out x hx⟩ (Nat.le_refl _)
theorem info_IsR : (Tryz.prog.info? 49).map (·.size) = some 2 := by kernel_rfl
set_option maxHeartbeats 2000000 in
theorem sOthersOf (c : DConn) (A : Array Value) (p : Int) (w : World) (B : Nat) (hr : shConn.Rd w B c A.toList) (hB : B ≤ w.heap.size) (hT : totConn c ≤ 1048576) :
    Calls Tryz.prog 17 #[.agg A, .int .i64 p] w fun e w' => ∃ N : Array Value, e = .returned (.agg N) ∧ Own w' w.heap.size w'.heap.size shIR (othV c p) N.toList ∧ Below w.heap.size w w' := by
  have HAT : Hid (∀ W, Below w.heap.size w W → (∀ o, W.cell? ⟨w.heap.size, o, none⟩ = A[o]?) → ConnAt W B c A w.heap.size 0) := fun W hW hk => ConnAt.of (bx_range hk) (Sh.Rd.below hr hB hW) (Nat.le_trans hB hW.size) hT
  have HF : Hid (∀ W, Below w.heap.size w W → (∀ o, W.cell? ⟨w.heap.size, o, none⟩ = A[o]?) → Calls Tryz.prog 25 #[.pointer (some ⟨w.heap.size, 0, none⟩)] W fun e w' => e = .returned (.int .i64 (connF c)) ∧ Below W.heap.size W w') := fun W hW hk => sL9Fault c A w.heap.size 0 W B (HAT.out W hW hk)
  have H2 : Hid (∀ W, Below w.heap.size w W → (∀ o, W.cell? ⟨w.heap.size, o, none⟩ = A[o]?) → Calls Tryz.prog 44 #[.pointer (some ⟨w.heap.size, 0, none⟩), .int .i64 p] W fun e w' => ∃ u, e = .returned u ∧ Own w' W.heap.size w'.heap.size i64s (othL p c.subs) [u] ∧ Below W.heap.size W w') := fun W hW hk => sL10Others c A w.heap.size 0 p W B (HAT.out W hW hk)
  have HW : Hid ((Lit.int .i64 (connF c)).wf = true) := connF_wf c
  unfold othV
  clear hr HAT
  by_cases hF : connF c = 0
  case neg =>
    rw [if_neg hF]
    have hF' : (connF c != 0) = true := by simp [hF]
    clear hF H2
    generalize connF c = F at *
    go_enter Tryz.func17, Tryz.ntmps17
    go_wp2_with fail
    refine (HF.out _ (by go_grown) (fun o => by simp [go_sem])).mono ?_
    rintro e w1 ⟨rfl, hb⟩
    obtain ⟨k0, kR, fR, hb1, z0⟩ := two_boxes hb
    have HB : Hid (Below w.heap.size w w1) := hb1
    clear hb hb1
    go_wp2_with fail
    refine bodyPost_ret (results_box Tryz.results17 _ _ _ #[.int .i64 F, .slice none 0 0] _ (by rfl) (bx2c kR) Tryz.underlying49 rfl info_IsR) rfl ⟨_, rfl, mk_IR ⟨[], Or.inl ⟨rfl, rfl, rfl⟩, by simp, by simp⟩ HW.out, ?_⟩
    exact Below.setCell (Below.setCell HB.out (by dsimp only; omega) _) (by dsimp only; omega) _
  rw [if_pos hF]
  rw [hF] at HF
  clear hF HW
  generalize othL p c.subs = OL at *
  go_enter Tryz.func17, Tryz.ntmps17
  go_wp2_with fail
  refine (HF.out _ (by go_grown) (fun o => by simp [go_sem])).mono ?_
  rintro e w1 ⟨rfl, hb⟩
  obtain ⟨k0, kR, fR, hb1, z0⟩ := two_boxes hb
  have HB : Hid (Below w.heap.size w w1) := hb1
  clear hb hb1
  go_wp2_with fail
  refine (H2.out _ HB.out k0).mono ?_
  rintro e w2 ⟨u, rfl, ho, hb⟩
  obtain ⟨ua, uc, eu, -⟩ := rd_ints (ho.rd (Nat.le_refl _))
  simp only [List.cons.injEq, and_true] at eu
  subst eu
  have HO : Hid _ := ho
  replace kR := bx_below kR z0 hb
  replace fR := bxF fR hb z0
  have hz2 := hb.size
  replace HB : Hid (Below w.heap.size w w2) := HB.out.trans (hb.mono HB.out.size)
  clear hb ho k0
  generalize OL.length = on at *
  go_wp2_with fail
  refine bodyPost_ret (results_box Tryz.results17 _ _ _ #[.int .i64 0, .slice ua on uc] _ (by rfl) (bx2c kR) Tryz.underlying49 rfl info_IsR) rfl ⟨_, rfl, mk_IR (Own.mono (Own.keep HO.out (fun b h1 h2 => by repeat rw [Below.heap_setCell _ _ _ _ (by dsimp only; omega)])) (by omega) (by simp)) (by decide), ?_⟩
  exact Below.setCell (Below.setCell HB.out (by dsimp only; omega) _) (by dsimp only; omega) _
end Go.Proofs.YtmpbejckggnfaabGreat

/- The windows of the other paths that are open, by the program: ranged over by its own iterator; the answer owns its memory; nothing that was there turns; no condition but that there are at most a million parts. -/
namespace Go.Proofs.YtmpbejckggnfaabGreat
open Go.RowKit
set_option linter.unusedVariables false
set_option maxRecDepth 8000
attribute [local go_sem] Oper.semAt_some

set_option maxHeartbeats 1000000 in
theorem iBeside1 (X : Array Value) (pa st p : Int) (pb : Nat) (w : World) (x0 : X[0]? = some (.int .i64 pa)) (x1 : X[1]? = some (.int .i64 st)) (hc : w.cell? ⟨pb, 0, none⟩ = some (.int .i64 p)) :
    Calls Tryz.prog 75 #[.agg X, .pointer (some ⟨pb, 0, none⟩)] w fun e w' => e = .returned (.bool (decide (st = 3) && !decide (pa = p))) ∧ Below w.heap.size w w' := by
  have hl := cell_lt hc
  have hc' : (w.alloc (.cells X 70)).cell? ⟨pb, 0, none⟩ = some (.int .i64 p) := by rw [World.cell?_alloc_lt _ _ _ hl]; exact hc
  by_cases h3 : st = 3
  · have e3 : (st == 3) = true := by simp [h3]
    by_cases hp : pa = p
    · have ep : (pa != p) = false := by simp [hp]
      have hR : (decide (st = 3) && !decide (pa = p)) = false := by simp [hp]
      rw [hR]
      clear h3 hp hR
      go_enter Tryz.func75, Tryz.ntmps75
      go_wp2_with fail
      go_ret
      exact ⟨rfl, by go_grown⟩
    · have ep : (pa != p) = true := by simp [hp]
      have hR : (decide (st = 3) && !decide (pa = p)) = true := by simp [h3, hp]
      rw [hR]
      clear h3 hp hR
      go_enter Tryz.func75, Tryz.ntmps75
      go_wp2_with fail
      go_ret
      exact ⟨rfl, by go_grown⟩
  · have e3 : (st == 3) = false := by simp [h3]
    have hR : (decide (st = 3) && !decide (pa = p)) = false := by simp [h3]
    rw [hR]
    clear h3 hR
    go_enter Tryz.func75, Tryz.ntmps75
    go_wp2_with fail
    go_ret
    exact ⟨rfl, by go_grown⟩
theorem sb_cells2 {w : World} {B : Nat} {l : List DSub} {a : Option Addr} {n cap : Nat} (h : shSubs.Rd w B l [.slice a n cap]) (hn : l.length = n) :
    ∃ VS : Fin n → List Value, SbCells w B a n VS ∧ ∀ k : Fin n, (VS k)[0]? = some (.int .i64 (l.getD k.1 zSubA).1) ∧ (VS k)[1]? = some (.int .i64 (l.getD k.1 zSubA).2.1) ∧ (VS k)[13]? = some (.int .i64 (winD (l.getD k.1 zSubA))) := by
  have h1 : ∀ k : Fin n, ∃ cs : List Value, (∃ b off, a = some ⟨b, off, none⟩ ∧ b < B ∧ w.rangeAt b (off + k.1 * 16) cs ∧ cs.length = 16 ∧ ∀ v ∈ cs, v.oneCell' = true) ∧ cs[0]? = some (.int .i64 (l.getD k.1 zSubA).1) ∧ cs[1]? = some (.int .i64 (l.getD k.1 zSubA).2.1) ∧ cs[13]? = some (.int .i64 (winD (l.getD k.1 zSubA))) := fun k => by
    have hk : k.1 < l.length := by have := k.2; omega
    obtain ⟨b, off, cs, ha, hb, hl, hrg, hr, -⟩ := sub_at h k.1 hk
    have hg : l.getD k.1 zSubA = l[k.1] := by rw [List.getD_eq_getElem?_getD, List.getElem?_eq_getElem hk]; rfl
    rw [hg]
    obtain ⟨x0, x1, -⟩ := sub_cells hr
    exact ⟨cs, ⟨b, off, ha, hb, hrg, hl, rd_one _ _ _ hr⟩, x0, x1, (sub_win hr).1⟩
  obtain ⟨f, hf⟩ := Classical.axiomOfChoice h1
  exact ⟨f, ⟨fun k => (hf k).1⟩, fun k => (hf k).2⟩
theorem oth_so (p : Int) (l : List DSub) (n : Nat) (hn : l.length = n) : ∀ k, k ≤ n → (soUp (fun i : Fin n => othB p (l.getD i.1 zSubA)) k).map (fun i => winD (l.getD i.1 zSubA)) = othL p (l.take k)
  | 0, _ => by simp [soUp, othL]
  | k + 1, h => by
    have hk : k < l.length := by omega
    have hg : l.getD k zSubA = l[k] := by rw [List.getD_eq_getElem?_getD, List.getElem?_eq_getElem hk]; rfl
    rw [oth_step p hk, ← oth_so p l n hn k (by omega)]
    by_cases hq : othB p l[k] = true
    · rw [if_pos hq, soUp_yes _ (show k < n by omega) (by show othB p (l.getD k zSubA) = true; rw [hg]; exact hq)]
      simp only [List.map_append, List.map_cons, List.map_nil, hg]
    · rw [if_neg hq, soUp_no _ (show k < n by omega) (by show othB p (l.getD k zSubA) = false; rw [hg]; simpa using hq)]
theorem keeps_sets {b : Nat} : ∀ (vs : List Value) (k : Nat) (W : World), KeepsOthers W (W.setCells b k vs)
  | [], _, W => KeepsOthers.refl W
  | v :: vs, k, W => (KeepsOthers.setCell W ⟨b, k, none⟩ v).trans (keeps_sets vs (k + 1) _)
theorem heap_sets {b : Nat} {t : TypeId} : ∀ (vs : List Value) (k : Nat) (W : World) (cur : Array Value), W.heap[b]? = some (.cells cur t (0, 0)) → ∃ cur', (W.setCells b k vs).heap[b]? = some (.cells cur' t (0, 0))
  | [], _, W, cur, h => ⟨cur, h⟩
  | v :: vs, k, W, cur, h => heap_sets vs (k + 1) _ _ (heap_setCell_same W b k cur _ _ h)
theorem cell_heap {W : World} {b o : Nat} {t : TypeId} {cur : Array Value} (h : W.heap[b]? = some (.cells cur t (0, 0))) : W.cell? ⟨b, o, none⟩ = cur[o]? := by simp [World.cell?, h]
theorem blk_grownS {W W' : World} {b : Nat} {t : TypeId} {cur : Array Value} {row : Option Nat} (h : W.heap[b]? = some (.cells cur t (0, 0))) (hg : W.grownBy W' row) (hr : row ≠ some b) : W'.heap[b]? = some (.cells cur t (0, 0)) :=
  (hg.block b (heap_lt h) (fun e => hr e.symm)).trans h
theorem ownsRow_keep {W W' : World} {base : Nat} {t : TypeId} {sz : Nat} {v : Value} {n : Nat} {xs : List Value} (h : W.ownsRow base t sz v n xs) (hb : ∀ g, g < W.heap.size → W'.heap[g]? = W.heap[g]?) : W'.ownsRow base t sz v n xs := by
  obtain ⟨h1, h2 | ⟨g, cap, cur, rfl, hg, hh, r⟩⟩ := h
  · exact ⟨h1, Or.inl h2⟩
  · exact ⟨h1, Or.inr ⟨g, cap, cur, rfl, hg, by rw [hb g (heap_lt hh)]; exact hh, r⟩⟩
set_option maxRecDepth 100000 in
set_option maxHeartbeats 4000000 in
theorem iWindows (l : List DSub) (a : Option Addr) (n cap : Nat) (p : Int) (w : World) (B : Nat) (hr : shSubs.Rd w B l [.slice a n cap]) (hB : B ≤ w.heap.size) (hn : l.length = n) (hm : n ≤ 1048576) (hwf : ∀ y ∈ l, (Lit.int .i64 (winD y)).wf = true) :
    Calls Tryz.prog 46 #[.slice a n cap, .int .i64 p] w fun e w' => ∃ u, e = .returned u ∧ Own w' w.heap.size w'.heap.size i64s (othL p l) [u] ∧ Below w.heap.size w w' := by
  have HCS : ∃ VS : Fin n → List Value, SbCells w B a n VS ∧ ∀ k : Fin n, (VS k)[0]? = some (.int .i64 (l.getD k.1 zSubA).1) ∧ (VS k)[1]? = some (.int .i64 (l.getD k.1 zSubA).2.1) ∧ (VS k)[13]? = some (.int .i64 (winD (l.getD k.1 zSubA))) := sb_cells2 hr hn
  obtain ⟨VS, hcs, hvs⟩ := HCS
  obtain ⟨VW, hVW⟩ : ∃ VW : Fin n → Int, VW = fun i => winD (l.getD i.1 zSubA) := ⟨_, rfl⟩
  have HSO : Hid ((soUp (fun i : Fin n => othB p (l.getD i.1 zSubA)) n).map VW = othL p l) := by
    show _ = _
    rw [hVW, oth_so p l n hn n (Nat.le_refl _), ← hn, List.take_length]
  have HV13 : Hid (∀ k : Fin n, (VS k).toArray[13]? = some (.int .i64 (VW k))) := fun k => by rw [hVW, List.getElem?_toArray]; exact (hvs k).2.2
  have HQ : Hid (∀ (k : Fin n) (pb : Nat) (W : World), W.cell? ⟨pb, 0, none⟩ = some (.int .i64 p) → Calls Tryz.prog 75 (#[.agg (VS k).toArray] ++ #[.pointer (some ⟨pb, 0, none⟩)]) W fun e w' => e = .returned (.bool (othB p (l.getD k.1 zSubA))) ∧ Below W.heap.size W w') := fun k pb W hc => iBeside1 (VS k).toArray _ _ p pb W (by rw [List.getElem?_toArray]; exact (hvs k).1) (by rw [List.getElem?_toArray]; exact (hvs k).2.1) hc
  have HWF : Hid (∀ y ∈ othL p l, (Lit.int .i64 y).wf = true) := fun y hy => by obtain ⟨x, hx, rfl⟩ := oth_mem hy; exact hwf x hx
  have H16 : Hid (∀ k : Fin n, (VS k).length = 16 ∧ ∀ v ∈ VS k, v.oneCell' = true) := fun k => by obtain ⟨b, off, -, -, -, h1, h2⟩ := hcs.at_ k; exact ⟨h1, h2⟩
  clear hr hvs hVW hwf
  generalize othL p l = OL at *
  generalize hPP : (fun i : Fin n => othB p (l.getD i.1 zSubA)) = PP at *
  have HPP : Hid (∀ k : Fin n, othB p (l.getD k.1 zSubA) = PP k) := fun k => by rw [← hPP]
  clear hPP
  refine (callsIn_wide (n := 6)).1 ?_
  refine callsIn_of_wp_marks Tryz.func46 rfl trivial ?_ rfl
  simp only [Tryz.ntmps46, List.size_toArray, List.length_cons, List.length_nil, Nat.reduceAdd, Nat.reduceSub, Array.replicate_succ, Array.replicate_zero, List.push_toArray, List.append_toArray, List.nil_append, List.cons_append]
  gi_wp2_with (refine ⟨trivial, ?_⟩; gi_at_call 76; refine (those_inS _ _ _ _ _ _ _).mono ?_; rintro e w' ⟨rfl, rfl⟩)
  obtain ⟨w1, hw1⟩ : ∃ w1, w1 = w.alloc (.cells #[.int .i64 p] 2) := ⟨_, rfl⟩
  have hz1 : w1.heap.size = w.heap.size + 1 := by rw [hw1]; simp
  have c1 : w1.cell? ⟨w.heap.size, 0, none⟩ = some (.int .i64 p) := by rw [hw1]; simp [go_sem]
  have HB1 : Hid (Below w.heap.size w w1) := by rw [hw1]; exact (Below.refl _ _).alloc (Nat.le_refl _) _
  (try simp only [World.size_alloc])
  rw [← hw1, ← hz1]
  have hlt1 : w.heap.size < w1.heap.size := by omega
  clear hw1 hz1
  have bO := ((Boxed.new w1 47 (.slice none 0 0)).alloc (.cells #[.slice a n cap] 121)).alloc (.cells #[(.func (.func 75) #[] #[.pointer (some ⟨w.heap.size, 0, none⟩)])] 118)
  have bL := (Boxed.new (w1.alloc (.cells #[.slice none 0 0] 47)) 121 (.slice a n cap)).alloc (.cells #[(.func (.func 75) #[] #[.pointer (some ⟨w.heap.size, 0, none⟩)])] 118)
  have bF := Boxed.new ((w1.alloc (.cells #[.slice none 0 0] 47)).alloc (.cells #[.slice a n cap] 121)) 118 (.func (.func 75) #[] #[.pointer (some ⟨w.heap.size, 0, none⟩)])
  rw [World.size_alloc] at bL
  rw [World.size_alloc, World.size_alloc] at bF
  have hB5 : Below w1.heap.size w1 (((w1.alloc (.cells #[.slice none 0 0] 47)).alloc (.cells #[.slice a n cap] 121)).alloc (.cells #[(.func (.func 75) #[] #[.pointer (some ⟨w.heap.size, 0, none⟩)])] 118)) := (((Below.refl _ w1).alloc (Nat.le_refl _) _).alloc (by simp) _).alloc (by simp; omega) _
  obtain ⟨W5, hW5⟩ : ∃ W5, W5 = ((w1.alloc (.cells #[.slice none 0 0] 47)).alloc (.cells #[.slice a n cap] 121)).alloc (.cells #[(.func (.func 75) #[] #[.pointer (some ⟨w.heap.size, 0, none⟩)])] 118) := ⟨_, rfl⟩
  have hz5 : W5.heap.size = w1.heap.size + 1 + 1 + 1 := by rw [hW5]; simp
  rw [← hW5] at bO bL bF hB5 ⊢
  clear hW5
  have hI : OwnFrom W5.heap.size (fun (pre : List (Fin n)) (W : World) => ((∃ v, Boxed W w1.heap.size 47 v ∧ W.ownsRow w1.heap.size 2 1 v pre.length (pre.map (fun i => Value.int .i64 (VW i))) ∧ True) ∧ Boxed W (w1.heap.size + 1 + 1) 118 (.func (.func 75) #[] #[.pointer (some ⟨w.heap.size, 0, none⟩)])) ∧ Below w1.heap.size w1 W) :=
    OwnFrom.and (OwnFrom.and (Go.Own.from (holdsRow_own w1.heap.size w1.heap.size 47 2 1 (fun pre : List (Fin n) => pre.length) (fun pre => pre.map (fun i => Value.int .i64 (VW i))) (fun _ _ => True)) _) (Go.Own.from (boxed_own _ _ _) _)) (ownFrom_below (Nat.le_refl _) (by omega))
  obtain ⟨i0, hi, hz0, hzz1, hz2⟩ := info_parts infoI64M
  refine wpIn_rangeFunc_ownH rfl (by decide) (gf := 111) (lb := #[.pointer (some ⟨w1.heap.size + 1, 0, none⟩), .pointer (some ⟨w1.heap.size + 1 + 1, 0, none⟩)]) rfl trivial (enters_of Tryz.func111 (by kernel_rfl) rfl)
    (those_stopsS _ (by decide) (w1.heap.size + 1) (w1.heap.size + 1 + 1) w1.heap.size a n cap hm VS 75 (enters_of Tryz.func75 (by kernel_rfl) rfl) #[.pointer (some ⟨w.heap.size, 0, none⟩)] PP W5 (by omega) (by omega) (by omega) bL.cell bF.cell
      ((SbCells.below hcs ((HB1.out.trans (hB5.mono HB1.out.size)).mono hB)).mono (by omega))
      (fun W' k hW' => callsIn_wide.2 (by have h := HQ.out k w.heap.size W' (((hB5.trans hW').cell (p := ⟨w.heap.size, 0, none⟩) (by dsimp only; omega)).trans c1); rw [HPP.out k] at h; exact h)))
    KpF.trans (kpF_bU (by omega) (by omega)) (Below.refl _ _) (fun _ => rfl)
    (fun pre W => ((∃ v, Boxed W w1.heap.size 47 v ∧ W.ownsRow w1.heap.size 2 1 v pre.length (pre.map (fun i => Value.int .i64 (VW i))) ∧ True) ∧ Boxed W (w1.heap.size + 1 + 1) 118 (.func (.func 75) #[] #[.pointer (some ⟨w.heap.size, 0, none⟩)])) ∧ Below w1.heap.size w1 W)
    (fun _ _ _ => False) hI (fun _ _ _ _ _ hs _ _ => hs) ⟨⟨⟨_, bO, World.ownsRow_nil _ _ _ _, trivial⟩, bF⟩, hB5⟩
    (fun x a' W => ∃ Bx cur, w1.heap.size + 1 + 1 + 1 ≤ Bx ∧ W.heap[Bx]? = some (.cells cur 70 (0, 0)) ∧ cur[13]? = some (.int .i64 (VW x)) ∧ a' = (?fa : Fin n → Nat → Act) x Bx)
    ?hax ?assign ?body ?done ?stop
  case assign =>
    rintro lr pre x W K ⟨⟨⟨v, hv, hrow, -⟩, hbf⟩, hB⟩ hK
    obtain ⟨hl16, hone⟩ := H16.out x
    have hst : (Instr.storeAt 70 (.pointer (some ⟨W.heap.size, 0, none⟩)) (.agg (VS x).toArray)).run Tryz.prog (W.alloc (.cells #[.int .i64 0, .int .i64 0, .bool false, .int .i64 0, .int .i64 0, .int .i64 0, .int .i64 0, .int .i64 0, .int .i64 0, .slice none 0 0, .int .i64 0, .int .i64 0, .slice none 0 0, .int .i64 0, .int .i64 0, .int .i64 0] 70)) = .ok () ((W.alloc (.cells #[.int .i64 0, .int .i64 0, .bool false, .int .i64 0, .int .i64 0, .int .i64 0, .int .i64 0, .int .i64 0, .int .i64 0, .slice none 0 0, .int .i64 0, .int .i64 0, .slice none 0 0, .int .i64 0, .int .i64 0, .int .i64 0] 70)).setCells W.heap.size 0 (VS x).toArray.toList) :=
      run_storeAt_mid _ _ _ _ _ (bx_there (bx_al _ _ _) (fx_al _ _ _) (by rw [List.size_toArray, hl16]; rfl)) (by rw [List.size_toArray, hl16]; kernel_rfl) (all_oneCell_toArray hone)
    have hblk : ∀ g, g < W.heap.size → (((W.alloc (.cells #[.int .i64 0, .int .i64 0, .bool false, .int .i64 0, .int .i64 0, .int .i64 0, .int .i64 0, .int .i64 0, .int .i64 0, .slice none 0 0, .int .i64 0, .int .i64 0, .slice none 0 0, .int .i64 0, .int .i64 0, .int .i64 0] 70)).setCells W.heap.size 0 (VS x).toArray.toList)).heap[g]? = W.heap[g]? := fun g hg => (setCells_block (by omega) _ _ _).trans (Below.heap_alloc _ _ _ hg)
    have kX : ∀ o, (((W.alloc (.cells #[.int .i64 0, .int .i64 0, .bool false, .int .i64 0, .int .i64 0, .int .i64 0, .int .i64 0, .int .i64 0, .int .i64 0, .slice none 0 0, .int .i64 0, .int .i64 0, .slice none 0 0, .int .i64 0, .int .i64 0, .int .i64 0] 70)).setCells W.heap.size 0 (VS x).toArray.toList)).cell? ⟨W.heap.size, o, none⟩ = (VS x).toArray[o]? := bx_setCells (bx_al W _ _) (by rw [List.size_toArray, hl16]; rfl)
    have hKO : KeepsOthers W ((W.alloc (.cells #[.int .i64 0, .int .i64 0, .bool false, .int .i64 0, .int .i64 0, .int .i64 0, .int .i64 0, .int .i64 0, .int .i64 0, .slice none 0 0, .int .i64 0, .int .i64 0, .slice none 0 0, .int .i64 0, .int .i64 0, .int .i64 0] 70)).setCells W.heap.size 0 (VS x).toArray.toList) := (KeepsOthers.alloc W _).trans (keeps_sets _ _ _)
    have hBB : Below W.heap.size W ((W.alloc (.cells #[.int .i64 0, .int .i64 0, .bool false, .int .i64 0, .int .i64 0, .int .i64 0, .int .i64 0, .int .i64 0, .int .i64 0, .slice none 0 0, .int .i64 0, .int .i64 0, .slice none 0 0, .int .i64 0, .int .i64 0, .int .i64 0] 70)).setCells W.heap.size 0 (VS x).toArray.toList) := setCells_below (Nat.le_refl _) _ _ _ _ ((Below.refl _ _).alloc (Nat.le_refl _) _)
    obtain ⟨cur, hcur⟩ := heap_sets (b := W.heap.size) (t := 70) (VS x).toArray.toList 0 (W.alloc (.cells #[.int .i64 0, .int .i64 0, .bool false, .int .i64 0, .int .i64 0, .int .i64 0, .int .i64 0, .int .i64 0, .int .i64 0, .slice none 0 0, .int .i64 0, .int .i64 0, .slice none 0 0, .int .i64 0, .int .i64 0, .int .i64 0] 70)) _ (World.alloc_heap_new W _)
    have hc13 : cur[13]? = some (.int .i64 (VW x)) := (cell_heap hcur).symm.trans ((kX 13).trans (HV13.out x))
    have hszW := hB.size
    have hz3 : w1.heap.size + 1 + 1 < W.heap.size := hbf.lt
    gi_wp2_with (refine wpListIn_st (by rfl) 70 _ _ rfl _ _ (by rfl) _ (by rfl) _ hst ?_)
    refine hK _ _ (hKO.from _) ⟨hBB.mono hB.size, hblk _ hbf.lt⟩ ⟨⟨⟨v, (hblk _ hv.lt).trans hv, ownsRow_keep hrow hblk, trivial⟩, (hblk _ hbf.lt).trans hbf⟩, hB.trans (hBB.mono hB.size)⟩ ⟨W.heap.size, cur, by omega, hcur, hc13, ?_⟩
    generalize W.heap.size = Bx
    rfl
  case hax =>
    intro x a' s W W' row hs hg hr
    obtain ⟨Bx, cur, h1, h2, h3, h4⟩ := hs
    exact ⟨Bx, cur, h1, blk_grownS h2 hg (fun e => by have h9 := hr Bx e; first | exact absurd h2 (by simp [h9]) | (obtain ⟨-, o, ho, hc⟩ := h9; rw [h2] at ho; cases ho; cases hc)), h3, h4⟩
  case body =>
    rintro lr pre x a' W hlr hrr ⟨⟨⟨v, hv, hrow, -⟩, hbf⟩, hB⟩ ⟨Bx, cur, hBx, hqx, hq13, rfl⟩ hlt
    have q13 : W.cell? ⟨Bx, 13, none⟩ = some (.int .i64 (VW x)) := (cell_heap hqx).trans hq13
    have hszW := hB.size
    have hc := hv.cell
    gi_wp2_with (gi_at_builtin; refine wpListIn_append_own _ rfl _ _ 47 rfl w1.heap.size 2 i0 (.int .i64 0) 1 8 Tryz.underlying47 hi hz0 hzz1 hz2 rfl (by decide) _ _ _ rfl (hrow.alloc _) ⟨W.heap.size, 0, none⟩ 1 1 [.int .i64 (VW x)] rfl rfl (cell_one_new _ _ _) (by simp [Value.oneCell']) (by unfold maxLen; omega) (by omega) (by have := hB.size; simp; omega) ?_; intro v' w3 hown' hgrow _; obtain ⟨g', cap', rfl⟩ := ownsRow_succ hown'; obtain ⟨hv1, hv2, hr2, hk2, hb2⟩ := hv.appended (by decide) hrow hB.size (Nat.le_refl _) hown' hgrow; have hc1 := hv1.cell; have hf1 := hv1.frozen)
    have hnr : some (w1.heap.size + 1 + 1) ≠ v.ownBlock := hbf.not_row (by decide) hrow
    have hbf3 : Boxed w3 (w1.heap.size + 1 + 1) 118 (.func (.func 75) #[] #[.pointer (some ⟨w.heap.size, 0, none⟩)]) := (hbf.alloc (.cells #[.int .i64 (VW x)] 2)).kept hgrow hnr
    have hbf' := fun u => hbf3.other (B' := w1.heap.size) (by omega) u
    exact ⟨hk2.from _, ⟨hb2, ((show _ = _ from hbf' _).trans (show _ = _ from hbf).symm)⟩, ⟨⟨_, hv2, by simpa using hr2, trivial⟩, hbf' _⟩, hB.trans hb2⟩
  case done =>
    rintro D ys W hD rfl ⟨⟨⟨v, hv, hrow, -⟩, hbf⟩, hB⟩ hK
    obtain ⟨va, vc, hvf⟩ := own_formM hrow
    subst hvf
    have hc := hv.cell
    have HR : Hid (W.ownsRow w1.heap.size 2 1 (.slice va (soUp PP n).length vc) OL.length (OL.map (Value.int .i64))) := by
      rw [← HSO.out, List.length_map, List.map_map]; exact hrow
    clear hrow hbf hI
    generalize (soUp PP n).length = dn at *
    gi_wp2
    have hDl : w1.heap.size ≤ D := by omega
    refine ⟨by simp, .inl ⟨_, _, rfl, run_takeDeferred hK, ?_⟩⟩
    refine ⟨.slice va dn vc, by simp [results, Tryz.results46, go_sem], _, rfl, ?_, (HB1.out.trans (hB.mono HB1.out.size)).trans (belowK_b (w := w) (Nat.le_refl _) W D _ _ (by omega) hK rfl rfl)⟩
    exact Own.mono (own_ints ⟨ownsRow_putObj HR.out _ hK rfl, HWF.out⟩ (Nat.le_refl _)) (by omega) (Nat.le_refl _)
  case stop =>
    rintro D c pre W _ _ h _
    exact h.elim
set_option maxHeartbeats 2000000 in
theorem iOthersOf (c : DConn) (A : Array Value) (p : Int) (w : World) (B : Nat) (hr : shConn.Rd w B c A.toList) (hB : B ≤ w.heap.size) (hT : totConn c ≤ 1048576) :
    Calls Tryz.prog 18 #[.agg A, .int .i64 p] w fun e w' => ∃ N : Array Value, e = .returned (.agg N) ∧ Own w' w.heap.size w'.heap.size shIR (othV c p) N.toList ∧ Below w.heap.size w w' := by
  have HI : Hid ((Tryz.prog.info? 40).map (·.size) = some A.toList.length) := by show _ = _; rw [Array.length_toList, rd_size hr]; exact (by kernel_rfl : (Tryz.prog.info? 40).map (·.size) = some 14)
  have HRGX : Hid (∀ W : World, (∀ o, W.cell? ⟨w.heap.size, o, none⟩ = A[o]?) → Hid (W.rangeAt w.heap.size 0 A.toList)) := fun W hk => bx_range hk
  have HF : Hid (∀ W, Below w.heap.size w W → Calls Tryz.prog 45 #[.agg A] W fun e w' => e = .returned (.int .i64 (connF c)) ∧ Below W.heap.size W w') := fun W hW => iConnFault c A W B (Sh.Rd.below hr hB hW) (Nat.le_trans hB hW.size) hT
  have HS : ∃ a12 n c12, A[13]? = some (.slice a12 n c12) ∧ ∀ W, Below w.heap.size w W → Calls Tryz.prog 46 #[.slice a12 n c12, .int .i64 p] W fun e w' => ∃ u, e = .returned u ∧ Own w' W.heap.size w'.heap.size i64s (othL p c.subs) [u] ∧ Below W.heap.size W w' := by
    have hwf := subs_win hr
    obtain ⟨y0, y1, y2, y3, y4, d5, y6, y7, y8, d9, y10, y11, l, ⟨⟩⟩ := c
    obtain ⟨a5, c5, a9, c9, a9', c9', a12, c12, eA, -, -, r12, -⟩ := rd_Conn hr
    have h2 : d5.length + gtTot d9 + totSubs l ≤ 1048576 := hT
    exact ⟨a12, l.length, c12, get_of eA 13, fun W hW => iWindows l a12 l.length c12 p W B (Sh.Rd.below (s := shSubs) r12 hB hW) (Nat.le_trans hB hW.size) rfl (by unfold totSubs at h2; omega) hwf⟩
  obtain ⟨a12, n, c12, a13, hwin⟩ := HS
  have H2 : Hid _ := hwin
  have HW : Hid ((Lit.int .i64 (connF c)).wf = true) := connF_wf c
  unfold othV
  clear hr hwin
  by_cases hF : connF c = 0
  case neg =>
    rw [if_neg hF]
    have hF' : (connF c != 0) = true := by simp [hF]
    clear hF H2
    generalize connF c = F at *
    go_enter Tryz.func18, Tryz.ntmps18
    go_upto_region 1 with fail
    have HRG := HRGX.out ((w.alloc (.cells A 40)).alloc (.cells #[.int .i64 0, .slice none 0 0] 49)) (fun o => by simp [go_sem])
    go_wp2_with (refine wpList_load_mid rfl 40 _ rfl _ _ (by rfl) A.toList _ HRG.out Tryz.underlying40 rfl HI.out ?_)
    refine (HF.out _ (by go_grown)).mono ?_
    rintro e w1 ⟨rfl, hb⟩
    obtain ⟨k0, kR, fR, hb1, z0⟩ := two_boxes hb
    have HB : Hid (Below w.heap.size w w1) := hb1
    clear hb hb1
    go_wp2_with fail
    refine bodyPost_ret (results_box Tryz.results18 _ _ _ #[.int .i64 F, .slice none 0 0] _ (by rfl) (bx2c kR) Tryz.underlying49 rfl info_IsR) rfl ⟨_, rfl, mk_IR ⟨[], Or.inl ⟨rfl, rfl, rfl⟩, by simp, by simp⟩ HW.out, ?_⟩
    exact Below.setCell (Below.setCell HB.out (by dsimp only; omega) _) (by dsimp only; omega) _
  rw [if_pos hF]
  rw [hF] at HF
  clear hF HW
  generalize othL p c.subs = OL at *
  go_enter Tryz.func18, Tryz.ntmps18
  go_upto_region 1 with fail
  have HRG := HRGX.out ((w.alloc (.cells A 40)).alloc (.cells #[.int .i64 0, .slice none 0 0] 49)) (fun o => by simp [go_sem])
  go_wp2_with (refine wpList_load_mid rfl 40 _ rfl _ _ (by rfl) A.toList _ HRG.out Tryz.underlying40 rfl HI.out ?_)
  refine (HF.out _ (by go_grown)).mono ?_
  rintro e w1 ⟨rfl, hb⟩
  obtain ⟨k0, kR, fR, hb1, z0⟩ := two_boxes hb
  have HB : Hid (Below w.heap.size w w1) := hb1
  clear hb hb1
  go_wp2_with fail
  refine (H2.out _ HB.out).mono ?_
  rintro e w2 ⟨u, rfl, ho, hb⟩
  obtain ⟨ua, uc, eu, -⟩ := rd_ints (ho.rd (Nat.le_refl _))
  simp only [List.cons.injEq, and_true] at eu
  subst eu
  have HO : Hid _ := ho
  replace kR := bx_below kR z0 hb
  replace fR := bxF fR hb z0
  have hz2 := hb.size
  replace HB : Hid (Below w.heap.size w w2) := HB.out.trans (hb.mono HB.out.size)
  clear hb ho k0
  generalize OL.length = on at *
  go_wp2_with fail
  refine bodyPost_ret (results_box Tryz.results18 _ _ _ #[.int .i64 0, .slice ua on uc] _ (by rfl) (bx2c kR) Tryz.underlying49 rfl info_IsR) rfl ⟨_, rfl, mk_IR (Own.mono (Own.keep HO.out (fun b h1 h2 => by repeat rw [Below.heap_setCell _ _ _ _ (by dsimp only; omega)])) (by omega) (by simp)) (by decide), ?_⟩
  exact Below.setCell (Below.setCell HB.out (by dsimp only; omega) _) (by dsimp only; omega) _
end Go.Proofs.YtmpbejckggnfaabGreat
