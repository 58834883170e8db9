/- Slices of whole numbers of the call's own: compared, marked, held against the marks; answers that hold one; no condition but on lengths. -/
import Derived.Test.YteaddhldleeaiaaGreatRows
import Derived.Test.YteaddhldleeaiaaGreatK01
import Derived.Test.YteaddhldleeaiaaGreatK10
import Derived.Test.YteaddhldleeaiaaGreatK17
import Derived.Test.YteaddhldleeaiaaGreatK21
namespace Go.Proofs.YteaddhldleeaiaaGreat
open Go.RowKit
set_option linter.unusedVariables false

abbrev i64s : Sh := .row 2 (.int .i64)
/-- The slice v owns, from block base on, the numbers l. -/
structure OI (w : World) (base : Nat) (v : Value) (l : List Int) : Prop where
  own : w.ownsRow base 2 1 v l.length (l.map (Value.int .i64))
  wf : ∀ x ∈ l, (Lit.int .i64 x).wf = true

theorem rd_intsO {w : World} {B : Nat} {l : List Int} {cs : List Value} (h : i64s.Rd w B l cs) : ∃ a cap, cs = [.slice a l.length cap] ∧ RI w a l := by
  obtain ⟨a, cap, h1, h2, h3, b, off, h4, h5⟩ := h
  refine ⟨a, cap, h1, ⟨?_⟩⟩
  by_cases hl : l = []
  · exact Or.inl hl
  · refine Or.inr ⟨b, off, (h4 hl).1, fun i hi => ?_⟩
    obtain ⟨cs', g1, g2, g3, g4⟩ := h5 i hi
    have := g2 0 (by decide)
    rw [g3] at this
    rw [List.getD_eq_getElem?_getD, List.getElem?_eq_getElem hi]
    simpa [Sh.sz] using this

theorem own_ints {w : World} {base hi : Nat} {v : Value} {l : List Int} (h : OI w base v l) (hh : w.heap.size ≤ hi) : Own w base hi i64s l [v] := by
  obtain ⟨h1, ⟨rfl, hz⟩ | ⟨g, cap, cur, rfl, hg, hh', hc, hm, hs, ht⟩⟩ := h.own
  · have : l = [] := List.length_eq_zero_iff.1 hz
    subst this
    exact ⟨[], Or.inl ⟨rfl, rfl, rfl⟩, by simp, by simp⟩
  · refine ⟨[g], Or.inr ⟨g, cap, cur, List.replicate l.length [], rfl, by simp, hh', hc, hm, by simpa [Sh.sz] using hs, by simp, fun i hi => ?_⟩, by simp, fun b hb => ?_⟩
    · refine ⟨by simp [List.getD_eq_getElem?_getD, hi], ?_, ?_⟩
      · have e : (cur.toList.take (l.length * 1))[i]? = some (.int .i64 l[i]) := by rw [ht, List.getElem?_map, List.getElem?_eq_getElem hi]; rfl
        rw [List.getElem?_take_of_lt (by omega)] at e
        have hlt : i < cur.toList.length := by
          apply Classical.byContradiction; intro hn
          rw [List.getElem?_eq_none (by omega)] at e; cases e
        show (cur.toList.drop (i * 1)).take 1 = _
        rw [Nat.mul_one, List.drop_eq_getElem_cons hlt]
        rw [List.getElem?_eq_getElem hlt] at e
        simpa using e
      · exact h.wf _ (List.getElem_mem hi)
    · simp at hb; subst hb
      exact ⟨hg, Nat.lt_of_lt_of_le (heap_lt hh') hh⟩

theorem take_drop_ints {cur : List Value} {n : Nat} {l : List Int} (hl : l.length = n) (h : ∀ i (hi : i < l.length), (cur.drop i).take 1 = [.int .i64 l[i]]) : cur.take n = l.map (Value.int .i64) := by
  apply List.ext_getElem?
  intro i
  by_cases hi : i < n
  · rw [List.getElem?_take_of_lt hi, List.getElem?_map, List.getElem?_eq_getElem (l := l) (by omega)]
    have := congrArg (fun x => x[0]?) (h i (by omega))
    simpa using this
  · rw [List.getElem?_eq_none (by rw [List.length_take]; omega), List.getElem?_eq_none (by simp; omega)]

theorem ints_oi {w : World} {bs : List Nat} {l : List Int} {cs : List Value} (h : i64s.Ow w bs l cs) : ∃ v, cs = [v] ∧ OI w 0 v l ∧ (∀ b, v.ownBlock = some b → b ∈ bs) ∧ (∀ b ∈ bs, v.ownBlock = some b) := by
  rcases h with ⟨rfl, rfl, rfl⟩ | ⟨g, cap, cur, F, rfl, rfl, h3, h4, h5, h6, h7, h8⟩
  · exact ⟨_, rfl, ⟨⟨rfl, Or.inl ⟨rfl, rfl⟩⟩, by simp⟩, by simp [Value.ownBlock], by simp⟩
  · have hF : F.flatten = [] := by
      apply List.eq_nil_iff_forall_not_mem.2
      intro b hb
      obtain ⟨i, hi, hb⟩ := mem_flatten_getD hb
      have := (h8 i (by omega)).1
      rw [this] at hb; simp at hb
    have key : ∀ i (hi : i < l.length), (cur.toList.drop i).take 1 = [.int .i64 l[i]] := fun i hi => by
      have := (h8 i hi).2.1
      simpa [Sh.sz] using this
    refine ⟨_, rfl, ⟨⟨by simp, Or.inr ⟨g, cap, cur, rfl, Nat.zero_le _, h3, h4, h5, by simpa [Sh.sz] using h6, ?_⟩⟩, ?_⟩, ?_, ?_⟩
    · rw [Nat.mul_one]; exact take_drop_ints rfl key
    · intro x hx
      obtain ⟨i, hi, rfl⟩ := List.getElem_of_mem hx
      exact (h8 i hi).2.2
    · intro b hb; simp [Value.ownBlock] at hb; simp [hb]
    · intro b hb; rw [hF] at hb; simp at hb; subst hb; rfl


def marksI (k : Int) (n : Nat) : List Int := (List.range n).map fun (i : Nat) => k + (i : Int)
theorem marksI_length (k : Int) (n : Nat) : (marksI k n).length = n := by simp [marksI]
theorem marksI_getD (k : Int) (n i : Nat) (h : i < n) : (marksI k n).getD i 0 = k + i := by
  simp [marksI, List.getElem?_range h]
theorem marksI_succ (k : Int) (n : Nat) : marksI k (n + 1) = marksI k n ++ [k + n] := by
  simp [marksI, List.range_succ]
theorem set_markI {l : List Int} {c : Int} {k : Nat} (hk : k < l.length) : (marksI c k ++ l.drop k).set k (c + k) = marksI c (k + 1) ++ l.drop (k + 1) := by
  have h1 := marksI_length c k
  rw [List.set_append_right _ _ (by omega), h1, Nat.sub_self, List.drop_eq_getElem_cons hk, List.set_cons_zero, marksI_succ, List.append_assoc]
  rfl
theorem marksI_wf {c : Int} {n : Nat} (h0 : 0 ≤ c) (h1 : c ≤ 1099511627776) (hn : n ≤ 1073741824) : ∀ x ∈ marksI c n, (Lit.int .i64 x).wf = true := by
  intro x hx
  obtain ⟨i, hi, rfl⟩ := List.mem_map.1 hx
  have := List.mem_range.1 hi
  exact WalkArith.wf_i64 (by omega)

set_option maxHeartbeats 400000 in
theorem lHeldInts (a : Option Addr) (n cap : Nat) (c : Int) (w : World) (ha : RI w a (marksI c n)) (hn : n ≤ 1073741824) (hc0 : 0 ≤ c) (hc1 : c ≤ 1099511627776) :
    Calls Tryz.prog 39 #[.slice a n cap, .int .i64 c] w fun e w' => e = .returned (.int .i64 (c + n)) ∧ w' = w := by
  go_enter Tryz.func39, Tryz.ntmps39
  go_wp2
  go_loop [1, 5] (fun t i => ∃ k : Nat, k ≤ n ∧ i = .int .i64 k ∧ t = .int .i64 (c + k)) (fun _ i => n - (intOf i).toNat)
  case atStart => exact ⟨0, Nat.zero_le _, rfl, by go_num⟩
  case round =>
    obtain ⟨k, hk, rfl, rfl⟩ := hrel
    by_cases hlt : k < n
    · rcases ha.mem with e | ⟨b1, off1, rfl, hc1'⟩
      · have := marksI_length c n; rw [e] at this; simp at this; omega
      · have c1 := hc1' k (by rw [marksI_length]; omega)
        rw [marksI_getD c n k hlt] at c1
        clear hc1' ha
        go_wp2
        go_round
        case rel => exact ⟨k + 1, by omega, by go_num, by go_num⟩
        case measure => simp [intOf]; omega
    · obtain rfl : k = n := by omega
      clear ha
      go_wp2
      go_ret
      exact ⟨rfl, rfl⟩
set_option maxHeartbeats 400000 in
theorem lMarkIntsS (base g n cap : Nat) (c : Int) (l : List Int) (w : World) (hl : l.length = n) (ho : OI w base (.slice (some ⟨g, 0, none⟩) n cap) l) (hn : n ≤ 1073741824) (hc0 : 0 ≤ c) (hc1 : c ≤ 1099511627776) :
    Calls Tryz.prog 38 #[.slice (some ⟨g, 0, none⟩) n cap, .int .i64 c] w fun e w' => e = .returned (.int .i64 (c + n)) ∧ OI w' base (.slice (some ⟨g, 0, none⟩) n cap) (marksI c n) ∧ w.grownBy w' (some g) := by
  go_enter Tryz.func38, Tryz.ntmps38
  go_wp2
  go_loopw [1, 5] (fun t i wr => ∃ k : Nat, k ≤ n ∧ i = .int .i64 k ∧ t = .int .i64 (c + k) ∧ wr.ownsRow base 2 1 (.slice (some ⟨g, 0, none⟩) n cap) n ((marksI c k ++ l.drop k).map (Value.int .i64)) ∧ w.grownBy wr (some g)) (fun _ i _ => n - (intOf i).toNat)
  case atStart => exact ⟨0, Nat.zero_le _, rfl, by go_num, by have := ho.own; rw [hl] at this; exact this, World.grownBy.refl _ _⟩
  case round =>
    obtain ⟨k, hk, rfl, rfl, hown, hgr⟩ := hrel
    by_cases hlt : k < n
    · have hst := hown.stored k (.int .i64 (c + k))
      have hfz := hown.frozenAt k
      obtain ⟨old, hold⟩ : ∃ old, wr.cell? ⟨g, k, none⟩ = some old := by
        rw [hown.cellAt k (by omega)]
        exact ⟨_, List.getElem?_eq_getElem (by simp [marksI_length]; omega)⟩
      have R : (wr.setCell ⟨g, k, none⟩ (.int .i64 (c + k))).ownsRow base 2 1 (.slice (some ⟨g, 0, none⟩) n cap) n ((marksI c (k + 1) ++ l.drop (k + 1)).map (Value.int .i64)) := by
        have := hst.1
        rw [← List.map_set, set_markI (by omega)] at this
        exact this
      have R2 : w.grownBy (wr.setCell ⟨g, k, none⟩ (.int .i64 (c + k))) (some g) := by
        have h2 := hst.2
        exact ⟨h2.os.trans hgr.os, h2.tape.trans hgr.tape, h2.output.trans hgr.output, Nat.le_trans hgr.size h2.size, fun j hj hne => (h2.block j (Nat.lt_of_lt_of_le hj hgr.size) hne).trans (hgr.block j hj hne)⟩
      have HR : Hid _ := R
      have HR2 : Hid _ := R2
      clear hst hown hgr R R2 ho
      go_wp2
      go_roundw
      case rel => exact ⟨k + 1, by omega, by go_num, by go_num, HR.out, HR2.out⟩
      case measure => simp [intOf]; omega
    · obtain rfl : k = n := by omega
      go_wp2
      go_ret
      refine ⟨rfl, ⟨?_, marksI_wf hc0 hc1 (by omega)⟩, hgr⟩
      rw [List.drop_of_length_le (by omega), List.append_nil] at hown
      rw [marksI_length]; exact hown
theorem lMarkInts0 (a : Option Addr) (cap : Nat) (c : Int) (w : World) :
    Calls Tryz.prog 38 #[.slice a 0 cap, .int .i64 c] w fun e w' => e = .returned (.int .i64 c) ∧ w' = w := by
  go_enter Tryz.func38, Tryz.ntmps38
  go_wp2
  refine wp_loop_rounds 1 ?_
  rw [rounds_succ]
  go_wp2
  go_ret
  exact ⟨rfl, rfl⟩
theorem lMarkIntsO (l : List Int) (v : Value) (c : Int) (w : World) (lo hi : Nat) (ho : Own w lo hi i64s l [v]) (hn : l.length ≤ 1073741824) (hc0 : 0 ≤ c) (hc1 : c ≤ 1099511627776) :
    Calls Tryz.prog 38 #[v, .int .i64 c] w fun e w' => e = .returned (.int .i64 (c + (l.length : Nat))) ∧ Own w' lo hi i64s (marksI c l.length) [v] ∧ Within lo hi w w' := by
  obtain ⟨bs, h1, h2, h3⟩ := ho
  obtain ⟨vv, e, hoi, hb1, hb2⟩ := ints_oi h1
  simp only [List.cons.injEq, and_true] at e
  subst e
  have hoi' := hoi
  obtain ⟨g1, ⟨rfl, hz⟩ | ⟨g, cap, cur, rfl, r⟩⟩ := hoi.own
  · have : l = [] := List.length_eq_zero_iff.1 hz
    subst this
    refine (lMarkInts0 none 0 c w).mono ?_
    rintro e w' ⟨rfl, rfl⟩
    exact ⟨by simp, ⟨[], Or.inl ⟨rfl, rfl, rfl⟩, by simp, by simp⟩, Within.refl _ _ _⟩
  · refine (lMarkIntsS 0 g l.length cap c l w rfl hoi' hn hc0 hc1).mono ?_
    rintro e w1 ⟨rfl, ho1, hg1⟩
    obtain ⟨bs1, q1, q2, q3⟩ := own_ints ho1 (Nat.le_refl _)
    obtain ⟨v', e', -, -, q4⟩ := ints_oi q1
    simp only [List.cons.injEq, and_true] at e'
    subst e'
    have hin : ∀ b, (Value.slice (some ⟨g, 0, none⟩) l.length cap).ownBlock = some b → lo ≤ b ∧ b < hi := fun b hb => h3 b (hb1 b hb)
    exact ⟨rfl, ⟨bs1, q1, q2, fun b hb => hin b (q4 b hb)⟩, Within.grown hg1 fun x e => hin x e⟩
end Go.Proofs.YteaddhldleeaiaaGreat

/- Answers that hold a slice of numbers: compared, marked, held against the marks; no condition but on lengths. -/
namespace Go.Proofs.YteaddhldleeaiaaGreat
open Go.RowKit
set_option linter.unusedVariables false

set_option maxHeartbeats 1000000 in
theorem lEqIntsResult (q : Int) (x : List Int) (v u : Value) (w : World) (B : Nat) (hr : i64s.Rd w B x [v]) (hr' : i64s.Rd w B x [u]) (hB : B ≤ w.heap.size) (hT : x.length ≤ 1048576) :
    Calls Tryz.prog 9 #[.agg #[.int .i64 q, v], .agg #[.int .i64 q, u]] w fun e w' => e = .returned (.bool true) ∧ Below w.heap.size w w' := by
  obtain ⟨va, vc, ev, -⟩ := rd_intsO hr
  simp only [List.cons.injEq, and_true] at ev
  subst ev
  obtain ⟨ua, uc, ev, -⟩ := rd_intsO hr'
  simp only [List.cons.injEq, and_true] at ev
  subst ev
  have HC : Hid (∀ W, Below w.heap.size w W → Calls Tryz.prog 29 #[.slice va x.length vc, .slice ua x.length uc] W fun e w' => e = .returned (.bool true) ∧ Below W.heap.size W w') := fun W hW => by
    obtain ⟨_, _, e1, r1⟩ := rd_intsO (hr.below hB hW)
    simp only [List.cons.injEq, Value.slice.injEq, and_true, true_and] at e1
    obtain ⟨rfl, rfl⟩ := e1
    obtain ⟨_, _, e1, r2⟩ := rd_intsO (hr'.below hB hW)
    simp only [List.cons.injEq, Value.slice.injEq, and_true, true_and] at e1
    obtain ⟨rfl, rfl⟩ := e1
    refine (lEqInts _ _ _ _ _ x W rfl r1 r2 (by omega)).mono ?_
    rintro e w' ⟨m, rfl, rfl⟩
    exact ⟨rfl, below_drewN (Below.refl _ _) m⟩
  clear hr hr' hT
  generalize x.length = n at *
  go_enter Tryz.func9, Tryz.ntmps9
  go_wp2_with fail
  refine (HC.out _ (by go_grown)).mono ?_
  rintro e w1 ⟨rfl, hb1⟩
  go_wp2_with fail
  go_ret
  exact ⟨rfl, Below.trans (by go_grown) (hb1.mono (by simp; omega))⟩
set_option maxHeartbeats 1000000 in
theorem lMarkIntsResult (q : Int) (x : List Int) (v : Value) (c : Int) (w : World) (lo hi : Nat) (ho : Own w lo hi i64s x [v]) (hhi : hi ≤ w.heap.size) (hT : x.length ≤ 1048576) (hc0 : 0 ≤ c) (hc1 : c ≤ 1073741824) :
    Calls Tryz.prog 12 #[.agg #[.int .i64 q, v], .int .i64 c] w fun e w' => e = .returned (.int .i64 (c + (x.length : Nat))) ∧ Own w' lo hi i64s (marksI c x.length) [v] ∧ Within lo hi w w' := by
  obtain ⟨va, vc, ev, -⟩ := rd_intsO (ho.rd (Nat.le_refl _))
  simp only [List.cons.injEq, and_true] at ev
  subst ev
  have HC : Hid (∀ W, Below w.heap.size w W → Calls Tryz.prog 38 #[.slice va x.length vc, .int .i64 c] W fun e w' => e = .returned (.int .i64 (c + (x.length : Nat))) ∧ Own w' lo hi i64s (marksI c x.length) [.slice va x.length vc] ∧ Within lo hi W w') := fun W hW => lMarkIntsO x _ c W lo hi (ho.below hhi hW) (by omega) hc0 (by omega)
  clear ho hT
  generalize x.length = n at *
  go_enter Tryz.func12, Tryz.ntmps12
  go_wp2_with fail
  refine (HC.out _ (by go_grown)).mono ?_
  rintro e w1 ⟨rfl, ho1, hw1⟩
  have HO1 : Hid _ := ho1
  have HW1 : Hid (Within lo hi w w1) := (Within.below ((Below.refl _ _).alloc (Nat.le_refl _) _)).trans hw1
  clear ho1 hw1
  go_wp2_with fail
  go_ret
  exact ⟨rfl, HO1.out, HW1.out⟩
set_option maxHeartbeats 1000000 in
theorem lHeldIntsResult (q : Int) (x : List Int) (v : Value) (c : Int) (w : World) (B : Nat) (hr : i64s.Rd w B (marksI c x.length) [v]) (hB : B ≤ w.heap.size) (hT : x.length ≤ 1048576) (hc0 : 0 ≤ c) (hc1 : c ≤ 1073741824) :
    Calls Tryz.prog 13 #[.agg #[.int .i64 q, v], .int .i64 c] w fun e w' => e = .returned (.int .i64 (c + (x.length : Nat))) ∧ Below w.heap.size w w' := by
  obtain ⟨va, vc, ev, -⟩ := rd_intsO hr
  rw [marksI_length] at ev
  simp only [List.cons.injEq, and_true] at ev
  subst ev
  have HC : Hid (∀ W, Below w.heap.size w W → Calls Tryz.prog 39 #[.slice va x.length vc, .int .i64 c] W fun e w' => e = .returned (.int .i64 (c + (x.length : Nat))) ∧ Below W.heap.size W w') := fun W hW => by
    obtain ⟨_, _, e1, r1⟩ := rd_intsO (hr.below hB hW)
    rw [marksI_length] at e1
    simp only [List.cons.injEq, Value.slice.injEq, and_true, true_and] at e1
    obtain ⟨rfl, rfl⟩ := e1
    refine (lHeldInts va _ vc c W r1 (by omega) hc0 (by omega)).mono ?_
    rintro e w' ⟨rfl, hw⟩
    exact ⟨rfl, by rw [hw]; exact Below.refl _ _⟩
  clear hr hT
  generalize x.length = n at *
  have hp : 0 ≤ c + (n : Int) := by omega
  go_enter Tryz.func13, Tryz.ntmps13
  go_wp2_with fail
  refine (HC.out _ (by go_grown)).mono ?_
  rintro e w1 ⟨rfl, hb⟩
  go_wp2_with fail
  go_ret
  exact ⟨rfl, Below.trans (by go_grown) (hb.mono (by simp))⟩
end Go.Proofs.YteaddhldleeaiaaGreat

/- What the law's own helpers (compare, mark, hold against the marks) make of an answer that holds numbers; an answer stands as one value; no condition but that there are at most a million parts. -/
namespace Go.Proofs.YteaddhldleeaiaaGreat
open Go.RowKit
set_option linter.unusedVariables false
set_option maxRecDepth 8000

abbrev shIR : Sh := .cons (.int .i64) (.cons i64s .nil)
abbrev DIR : Type := Int × List Int × Unit
def totIR (x : DIR) : Nat := x.2.1.length
def wtIR (x : DIR) : Nat := x.2.1.length
def mkIR (c : Int) : DIR → DIR
  | (q, l, _) => (q, marksI c l.length, ())
theorem wtIR_le {x : DIR} (h : totIR x ≤ 1048576) : wtIR x ≤ 16777216 := by unfold totIR at h; unfold wtIR; omega
theorem rd_IR {w : World} {B : Nat} {q : Int} {l : List Int} {N : Array Value} (h : shIR.Rd w B (q, l, ()) N.toList) : ∃ v, N = #[.int .i64 q, v] ∧ i64s.Rd w B l [v] := by
  obtain ⟨p0, q0, e0, ⟨g0, w0⟩, p1, q1, e1, h1, hz⟩ := h
  have hz' : q1 = [] := hz
  have hl : p1.length = 1 := Sh.Rd.len _ _ _ h1
  match p1, hl with
  | [v], _ =>
    refine ⟨v, ?_, h1⟩
    have e : N.toList = [.int .i64 q, v] := by rw [e0, g0, e1, hz']; rfl
    rw [arr_of e]
theorem ow_IR {w : World} {lo hi : Nat} {q : Int} {l : List Int} {N : Array Value} (h : Own w lo hi shIR (q, l, ()) N.toList) : ∃ v, N = #[.int .i64 q, v] ∧ Own w lo hi i64s l [v] ∧ (Lit.int .i64 q).wf = true := by
  obtain ⟨bs, ⟨a0, r0, p0, q0, eb0, ec0, ⟨f0, g0, w0⟩, a1, r1, p1, q1, eb1, ec1, h1, zb, zc⟩, hn, hb⟩ := h
  have eb : bs = a1 := by rw [eb0, f0, eb1, zb]; simp
  subst eb
  have hl : p1.length = 1 := Sh.Ow.len _ _ _ _ h1
  match p1, hl with
  | [v], _ =>
    refine ⟨v, ?_, ⟨bs, h1, hn, hb⟩, w0⟩
    have e : N.toList = [.int .i64 q, v] := by rw [ec0, g0, ec1, zc]; rfl
    rw [arr_of e]
theorem mk_IR {w : World} {lo hi : Nat} {q : Int} {l : List Int} {v : Value} (h : Own w lo hi i64s l [v]) (hq : (Lit.int .i64 q).wf = true) : Own w lo hi shIR (q, l, ()) [.int .i64 q, v] := by
  obtain ⟨bs, h1, hn, hb⟩ := h
  exact ⟨bs, ⟨[], bs, [_], [v], rfl, rfl, ⟨rfl, rfl, hq⟩, bs, [], [v], [], (List.append_nil _).symm, rfl, h1, rfl, rfl⟩, hn, hb⟩
theorem lEqIR (x : DIR) (N N' : Array Value) (w : World) (B : Nat) (hr : shIR.Rd w B x N.toList) (hr' : shIR.Rd w B x N'.toList) (hB : B ≤ w.heap.size) (hT : totIR x ≤ 1048576) :
    Calls Tryz.prog 9 #[.agg N, .agg N'] w fun e w' => e = .returned (.bool true) ∧ Below w.heap.size w w' := by
  obtain ⟨q, l, ⟨⟩⟩ := x
  obtain ⟨v, rfl, h1⟩ := rd_IR hr
  obtain ⟨u, rfl, h2⟩ := rd_IR hr'
  exact lEqIntsResult q l v u w B h1 h2 hB hT
theorem lHeldIR (x : DIR) (N : Array Value) (c : Int) (w : World) (B : Nat) (hr : shIR.Rd w B (mkIR c x) N.toList) (hB : B ≤ w.heap.size) (hT : totIR x ≤ 1048576) (hc0 : 0 ≤ c) (hc1 : c ≤ 16777216) :
    Calls Tryz.prog 13 #[.agg N, .int .i64 c] w fun e w' => e = .returned (.int .i64 (c + (wtIR x : Nat))) ∧ Below w.heap.size w w' := by
  obtain ⟨q, l, ⟨⟩⟩ := x
  obtain ⟨v, rfl, h1⟩ := rd_IR hr
  exact lHeldIntsResult q l v c w B h1 hB hT hc0 (by omega)
theorem lMarkIR (x : DIR) (N : Array Value) (c : Int) (w : World) (lo hi : Nat) (ho : Own w lo hi shIR x N.toList) (hhi : hi ≤ w.heap.size) (hT : totIR x ≤ 1048576) (hc0 : 0 ≤ c) (hc1 : c ≤ 16777216) :
    Calls Tryz.prog 12 #[.agg N, .int .i64 c] w fun e w' => e = .returned (.int .i64 (c + (wtIR x : Nat))) ∧ Own w' lo hi shIR (mkIR c x) N.toList ∧ Within lo hi w w' := by
  obtain ⟨q, l, ⟨⟩⟩ := x
  obtain ⟨v, rfl, h1, hq⟩ := ow_IR ho
  refine (lMarkIntsResult q l v c w lo hi h1 hhi hT hc0 (by omega)).mono ?_
  rintro e w' ⟨rfl, ho2, hw⟩
  exact ⟨rfl, mk_IR ho2 hq, hw⟩
end Go.Proofs.YteaddhldleeaiaaGreat
