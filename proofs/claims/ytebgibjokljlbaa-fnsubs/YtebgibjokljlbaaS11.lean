/- Rows of spans: what a slice that is read holds, what a slice of the call's own holds, and what append makes of it; no condition but that there are at most a million. -/
import Derived.Test.YtebgibjokljlbaaRows
import Derived.Deep.RegionHeld3
import Derived.Test.YtebgibjokljlbaaS01
import Derived.Test.YtebgibjokljlbaaS03
import Derived.Test.YtebgibjokljlbaaS04
namespace Go.Proofs.Ytebgibjokljlbaa
open Go.RowKit
set_option linter.unusedVariables false
set_option maxRecDepth 8000
def cellsS : List DSpan → List Value
  | [] => []
  | s :: l => .int .i64 s.1 :: .int .i64 s.2.1 :: cellsS l
theorem cellsS_app : ∀ (l m : List DSpan), cellsS (l ++ m) = cellsS l ++ cellsS m
  | [], m => rfl
  | s :: l, m => by show _ :: _ :: cellsS (l ++ m) = _; rw [cellsS_app l m]; rfl
theorem cellsS_len : ∀ (l : List DSpan), (cellsS l).length = l.length * 2
  | [] => rfl
  | s :: l => by show (cellsS l).length + 1 + 1 = (l.length + 1) * 2; rw [cellsS_len l]; omega
theorem cellsS_get : ∀ {l : List DSpan} {i : Nat} (h : i < l.length), (cellsS l)[i * 2]? = some (.int .i64 l[i].1) ∧ (cellsS l)[i * 2 + 1]? = some (.int .i64 l[i].2.1)
  | s :: l, 0, _ => ⟨rfl, rfl⟩
  | s :: l, i + 1, h => by
    have := cellsS_get (l := l) (i := i) (by simpa using h)
    rw [show (i + 1) * 2 = i * 2 + 1 + 1 by omega]
    exact this
theorem cellsS_one (l : List DSpan) : ∀ u ∈ cellsS l, u.oneCell' = true := by
  induction l with
  | nil => simp [cellsS]
  | cons s l ih =>
    intro u hu
    simp only [cellsS, List.mem_cons] at hu
    rcases hu with rfl | rfl | hu
    · rfl
    · rfl
    · exact ih u hu
theorem cellsS_at {l : List DSpan} {j : Nat} {u : Value} (h : (cellsS l)[j]? = some u) : ∃ i, ∃ hi : i < l.length, (j = i * 2 ∧ u = .int .i64 l[i].1) ∨ (j = i * 2 + 1 ∧ u = .int .i64 l[i].2.1) := by
  have hj : j < (cellsS l).length := by
    apply Classical.byContradiction; intro hn
    rw [List.getElem?_eq_none (by omega)] at h; cases h
  rw [cellsS_len] at hj
  have hi : j / 2 < l.length := by omega
  obtain ⟨g1, g2⟩ := cellsS_get hi
  refine ⟨j / 2, hi, ?_⟩
  rcases Nat.mod_two_eq_zero_or_one j with e | e
  · left
    have e2 : j = j / 2 * 2 := by omega
    rw [← e2, h] at g1
    exact ⟨e2, Option.some.inj g1⟩
  · right
    have e2 : j = j / 2 * 2 + 1 := by omega
    rw [← e2, h] at g2
    exact ⟨e2, Option.some.inj g2⟩
def WfS (l : List DSpan) : Prop := ∀ s ∈ l, (Lit.int .i64 s.1).wf = true ∧ (Lit.int .i64 s.2.1).wf = true
theorem WfS.app {l m : List DSpan} (h : WfS l) (k : WfS m) : WfS (l ++ m) := fun s hs => by
  rcases List.mem_append.1 hs with hs | hs
  · exact h s hs
  · exact k s hs
theorem WfS.drop {l : List DSpan} (h : WfS l) (k : Nat) : WfS (l.drop k) := fun s hs => h s (List.mem_of_mem_drop hs)
theorem WfS.take {l : List DSpan} (h : WfS l) (k : Nat) : WfS (l.take k) := fun s hs => h s (List.mem_of_mem_take hs)
structure RS (w : World) (a : Option Addr) (l : List DSpan) : Prop where
  wf : WfS l
  mem : l = [] ∨ ∃ b off, a = some ⟨b, off, none⟩ ∧ ∀ i (h : i < l.length), w.cell? ⟨b, off + i * 2, none⟩ = some (.int .i64 l[i].1) ∧ w.cell? ⟨b, off + i * 2 + 1, none⟩ = some (.int .i64 l[i].2.1)
theorem RS.nil (w : World) (a : Option Addr) : RS w a [] := ⟨fun s hs => by simp at hs, Or.inl rfl⟩
theorem RS.below {w w' : World} {a : Option Addr} {l : List DSpan} (h : RS w a l) (hb : Below w.heap.size w w') : RS w' a l := by
  refine ⟨h.wf, ?_⟩
  rcases h.mem with e | ⟨b, off, rfl, hc⟩
  · exact Or.inl e
  · refine Or.inr ⟨b, off, rfl, fun i hi => ?_⟩
    have hlt := cell_lt (hc i hi).1
    exact ⟨(hb.cell (p := ⟨b, off + i * 2, none⟩) hlt).trans (hc i hi).1, (hb.cell (p := ⟨b, off + i * 2 + 1, none⟩) hlt).trans (hc i hi).2⟩
theorem RS.of_rd {w : World} {B : Nat} {l : List DSpan} {a : Option Addr} {n cap : Nat} (h : shSpans.Rd w B l [.slice a n cap]) : RS w a l := by
  by_cases hl : l = []
  · subst hl; exact RS.nil _ _
  · obtain ⟨b, off, ha, -⟩ := at_Spans h 0 (List.length_pos_iff.2 hl)
    refine ⟨fun s hs => ?_, Or.inr ⟨b, off, ha, fun i hi => ?_⟩⟩
    · obtain ⟨i, hi, rfl⟩ := List.getElem_of_mem hs
      obtain ⟨_, _, _, _, _, _, h1, h2⟩ := at_Spans h i hi
      exact ⟨h1, h2⟩
    · obtain ⟨b', off', ha', _, h1, h2, _⟩ := at_Spans h i hi
      rw [ha] at ha'
      simp only [Option.some.injEq, Addr.mk.injEq, and_true] at ha'
      obtain ⟨rfl, rfl⟩ := ha'
      exact ⟨h1, h2⟩
theorem RS.rd {w : World} {B : Nat} {l : List DSpan} {a : Option Addr} {cap : Nat} (h : RS w a l) (hn : a = none → cap = 0) (hm : l.length ≤ cap ∧ cap ≤ maxLen) (hB : w.heap.size ≤ B) : shSpans.Rd w B l [.slice a l.length cap] := by
  rcases h.mem with e | ⟨b, off, rfl, hc⟩
  · subst e
    exact ⟨a, cap, rfl, hm, hn, 0, 0, fun h => absurd rfl h, fun i hi => by simp at hi⟩
  · refine ⟨_, cap, rfl, hm, hn, b, off, fun hl => ⟨rfl, ?_⟩, fun i hi => ⟨[.int .i64 l[i].1, .int .i64 l[i].2.1], rfl, fun j hj => ?_, ?_⟩⟩
    · have := cell_lt (hc 0 (List.length_pos_iff.2 hl)).1
      simp at this; omega
    · have hj : j < 2 := hj
      have h2 : j = 0 ∨ j = 1 := by omega
      rcases h2 with rfl | rfl
      · exact (hc i hi).1
      · exact (hc i hi).2
    · have := h.wf _ (List.getElem_mem hi)
      exact ⟨_, _, rfl, ⟨rfl, this.1⟩, _, _, rfl, ⟨rfl, this.2⟩, rfl⟩
theorem RS.drop {w : World} {b off : Nat} {l : List DSpan} (h : RS w (some ⟨b, off, none⟩) l) (k : Nat) : RS w (some ⟨b, off + k * 2, none⟩) (l.drop k) := by
  refine ⟨h.wf.drop k, ?_⟩
  rcases h.mem with e | ⟨b', off', e, hc⟩
  · left; subst e; simp
  · right
    simp only [Option.some.injEq, Addr.mk.injEq, and_true] at e
    obtain ⟨rfl, rfl⟩ := e
    refine ⟨b, off + k * 2, rfl, fun i hi => ?_⟩
    have := hc (k + i) (by simp at hi; omega)
    rw [show off + (k + i) * 2 = off + k * 2 + i * 2 by omega] at this
    simpa using this
theorem RS.take {w : World} {a : Option Addr} {l : List DSpan} (h : RS w a l) (k : Nat) : RS w a (l.take k) := by
  refine ⟨h.wf.take k, ?_⟩
  rcases h.mem with e | ⟨b, off, rfl, hc⟩
  · left; subst e; simp
  · right
    refine ⟨b, off, rfl, fun i hi => ?_⟩
    have := hc i (by simp at hi; omega)
    simpa using this
structure OS (w : World) (base : Nat) (v : Value) (l : List DSpan) : Prop where
  own : w.ownsRow base 172 2 v l.length (cellsS l)
  wf : WfS l
theorem OS.nil (w : World) (base : Nat) : OS w base (.slice none 0 0) [] := ⟨World.ownsRow_nil _ _ _ _, fun s hs => by simp at hs⟩
theorem OS.rs {w : World} {base : Nat} {v : Value} {l : List DSpan} (h : OS w base v l) : ∃ a cap, v = .slice a l.length cap ∧ RS w a l ∧ (a = none → cap = 0) ∧ l.length ≤ cap ∧ cap ≤ maxLen := by
  have h0 := h.own
  obtain ⟨h1, ⟨rfl, hz⟩ | ⟨g, cap, cur, rfl, hg, hh, hc, hm, hs, ht⟩⟩ := h.own
  · have : l = [] := List.length_eq_zero_iff.1 hz
    subst this
    exact ⟨none, 0, rfl, RS.nil _ _, fun _ => rfl, Nat.le_refl _, Nat.zero_le _⟩
  · refine ⟨_, cap, rfl, ⟨h.wf, Or.inr ⟨g, 0, rfl, fun i hi => ?_⟩⟩, by simp, hc, hm⟩
    rw [Nat.zero_add, h0.cellAt (i * 2) (by omega), h0.cellAt (i * 2 + 1) (by omega)]
    exact cellsS_get hi
theorem OS.mono {w : World} {base base' : Nat} {v : Value} {l : List DSpan} (h : OS w base v l) (hB : base' ≤ base) : OS w base' v l := by
  refine ⟨?_, h.wf⟩
  obtain ⟨h1, h2 | ⟨g, cap, cur, e, hg, r⟩⟩ := h.own
  · exact ⟨h1, Or.inl h2⟩
  · exact ⟨h1, Or.inr ⟨g, cap, cur, e, by omega, r⟩⟩
theorem OS.keeps {w w' : World} {base : Nat} {v : Value} {l : List DSpan} (h : OS w base v l) (hb : ∀ g, base ≤ g → g < w.heap.size → w'.heap[g]? = w.heap[g]?) : OS w' base v l := by
  refine ⟨?_, h.wf⟩
  obtain ⟨h1, h2 | ⟨g, cap, cur, e, hg, hh, r⟩⟩ := h.own
  · exact ⟨h1, Or.inl h2⟩
  · exact ⟨h1, Or.inr ⟨g, cap, cur, e, hg, by rw [hb g hg (heap_lt hh)]; exact hh, r⟩⟩
theorem OS.below {w w' : World} {base : Nat} {v : Value} {l : List DSpan} (h : OS w base v l) (hb : Below w.heap.size w w') : OS w' base v l := h.keeps fun g _ h2 => hb.block g h2
theorem OS.keep {w w' : World} {base : Nat} {v : Value} {l : List DSpan} (h : OS w base v l) (hb : ∀ g, v.ownBlock = some g → w'.heap[g]? = w.heap[g]?) : OS w' base v l := by
  refine ⟨?_, h.wf⟩
  obtain ⟨h1, h2 | ⟨g, cap, cur, e, hg, hh, r⟩⟩ := h.own
  · exact ⟨h1, Or.inl h2⟩
  · exact ⟨h1, Or.inr ⟨g, cap, cur, e, hg, by rw [hb g (by rw [e]; rfl)]; exact hh, r⟩⟩
theorem OS.lit (w : World) (l : List DSpan) (hw : WfS l) (hn : l.length ≤ 1000000) : OS (w.alloc (.cells (cellsS l).toArray 172)) w.heap.size (.slice (some ⟨w.heap.size, 0, none⟩) l.length l.length) l := by
  refine ⟨?_, hw⟩
  refine ⟨cellsS_len l, Or.inr ⟨w.heap.size, l.length, (cellsS l).toArray, rfl, Nat.le_refl _, heap_alloc_new w _, Nat.le_refl _, by unfold maxLen; omega, by simp [cellsS_len], ?_⟩⟩
  rw [← cellsS_len]; simp
theorem chunk_cellsS {l : List DSpan} {i : Nat} (h : i < l.length) : ((cellsS l).drop (i * 2)).take 2 = [.int .i64 l[i].1, .int .i64 l[i].2.1] := by
  obtain ⟨g1, g2⟩ := cellsS_get h
  have hl := cellsS_len l
  have h1 : i * 2 < (cellsS l).length := by omega
  have h2 : i * 2 + 1 < (cellsS l).length := by omega
  rw [List.drop_eq_getElem_cons h1, List.drop_eq_getElem_cons h2]
  rw [List.getElem?_eq_getElem h1] at g1
  rw [List.getElem?_eq_getElem h2] at g2
  simp only [Option.some.injEq] at g1 g2
  simp [g1, g2]
theorem OS.ownO {w : World} {base hi : Nat} {a : Option Addr} {n cap : Nat} {l : List DSpan} (h : OS w base (.slice a n cap) l) (hh : w.heap.size ≤ hi) (k : Nat) (hk : k ≤ l.length) :
    ∃ g, a = some ⟨g, 0, none⟩ ∧ Own w base hi shSpansO (l.drop k) [.slice (some ⟨g, k * 2, none⟩) (l.length - k) (cap - k)] ∨ (l = [] ∧ a = none ∧ n = 0 ∧ cap = 0) := by
  obtain ⟨h1, ⟨e, hz⟩ | ⟨g, cap', cur, e, hg, hhp, hc, hm, hs, ht⟩⟩ := h.own
  · simp only [Value.slice.injEq] at e
    obtain ⟨rfl, rfl, rfl⟩ := e
    exact ⟨0, Or.inr ⟨List.length_eq_zero_iff.1 hz, rfl, rfl, rfl⟩⟩
  · simp only [Value.slice.injEq] at e
    obtain ⟨rfl, rfl, rfl⟩ := e
    refine ⟨g, Or.inl ⟨rfl, ⟨[g], ?_, by simp, fun b hb => by simp at hb; subst hb; exact ⟨hg, Nat.lt_of_lt_of_le (heap_lt hhp) hh⟩⟩⟩⟩
    refine Or.inr ⟨g, k * 2, cap - k, cur, List.replicate (l.drop k).length [], ?_, ?_, hhp, ?_, by omega, ?_, by simp, fun i hi' => ?_⟩
    · simp
    · have : (List.replicate (l.drop k).length ([] : List Nat)).flatten = [] := by simp
      rw [this]
    · simp; omega
    · show k * 2 + (l.drop k).length * 2 ≤ cur.size
      rw [hs, List.length_drop]; omega
    · have hi2 : k + i < l.length := by simp at hi'; omega
      have e1 : (List.replicate (l.drop k).length ([] : List Nat)).getD i [] = [] := by
        rw [List.getD_eq_getElem?_getD, List.getElem?_replicate]; split <;> rfl
      rw [e1]
      show shSpan.Ow w [] _ ((cur.toList.drop (k * 2 + i * 2)).take 2)
      have e2 : (cur.toList.drop (k * 2 + i * 2)).take 2 = ((cellsS l).drop ((k + i) * 2)).take 2 := by
        rw [← ht, List.drop_take, List.take_take, show k * 2 + i * 2 = (k + i) * 2 by omega]
        congr 1
        omega
      rw [e2, chunk_cellsS hi2]
      have e3 : (l.drop k)[i] = l[k + i] := by simp
      rw [e3]
      have := h.wf _ (List.getElem_mem hi2)
      exact mk_Span this.1 this.2
theorem OS.ownAll {w : World} {base hi : Nat} {v : Value} {l : List DSpan} (h : OS w base v l) (hh : w.heap.size ≤ hi) : Own w base hi shSpansO l [v] := by
  obtain ⟨a, cap, rfl, _⟩ := h.rs
  obtain ⟨g, ⟨rfl, ho⟩ | ⟨rfl, rfl, _, rfl⟩⟩ := h.ownO hh 0 (Nat.zero_le _)
  · simpa using ho
  · exact ⟨[], Or.inl ⟨rfl, rfl, none, 0, rfl, Nat.zero_le _, fun _ => rfl⟩, by simp, by simp⟩
theorem run_appS (ty : TypeId) (w : World) (base : Nat) (v : Value) (l : List DSpan) (hown : OS w base v l) (ad : Option Addr) (l2 : List DSpan) (n2 cap2 : Nat) (hn2 : l2.length = n2) (hr : RS w ad l2) (hnil : ad = none → cap2 = 0) (hn : l.length + n2 ≤ 1000000) (hb : base ≤ w.heap.size) :
    ∃ v' w', (Builtin.append_ #[58, 58] ty #[v, .slice ad n2 cap2]).run Try.prog w = .ok v' w' ∧ OS w' base v' (l ++ l2) ∧ Below base w w' ∧ w.grownBy w' v.ownBlock ∧ (v'.ownBlock = v.ownBlock ∨ v'.ownBlock = some w.heap.size) := by
  obtain ⟨i0, hi, hz0, hz1, hz2⟩ := info_parts info_Span
  cases ad with
  | none =>
    have e1 := hnil rfl
    have e2 : l2 = [] := by
      rcases hr.mem with e | ⟨b, off, e, _⟩
      · exact e
      · cases e
    subst e1 e2
    simp at hn2
    subst hn2
    have hrun := run_append_owned_none (P := Try.prog) w base 58 ty 172 i0 2 Try.underlying58 hi v l.length _ hown.own
    exact ⟨v, w, hrun, by rw [List.append_nil]; exact hown, Below.refl _ _, World.grownBy.refl _ _, Or.inl rfl⟩
  | some ad =>
    obtain ⟨v', w', hrun, h1, h2, _, h4⟩ := run_append_own_at (P := Try.prog) w base 58 ty 172 i0 (.agg #[.int .i64 0, .int .i64 0]) 2 16 Try.underlying58 hi hz0 hz1 hz2 rfl (by decide) v l.length _ hown.own ad n2 cap2 (cellsS l2) (by rw [cellsS_len, hn2]) (by
      intro j u hj
      obtain ⟨i, hi', hu⟩ := cellsS_at hj
      rcases hr.mem with e | ⟨b, off, e, hc⟩
      · rw [e] at hi'; simp at hi'
      · cases e
        rw [add_none]
        rcases hu with ⟨rfl, rfl⟩ | ⟨rfl, rfl⟩
        · exact (hc i hi').1
        · exact (hc i hi').2) (cellsS_one l2) (by unfold maxLen; omega) (by omega) hb
    refine ⟨v', w', hrun, ⟨?_, hown.wf.app hr.wf⟩, (Below.refl _ _).grown h2 hb (fun k hk => (hown.own.lt k hk).1), h2, h4⟩
    rw [List.length_append, hn2, cellsS_app]; exact h1
section
variable {ops : Array Oper} {rest : List Oper} {o : Oper} {a : Act} {Q : Exit → Act → World → Prop} {K : Act → World → Prop} {E : Prop}
theorem app_plS (w : World) (hgd : o.guard = none) (s x : Operand) (ho : o.op = .call { callee := .builtin .append, args := #[s, x], argTypes := #[58, 58] })
    (base : Nat) (v : Value) (l : List DSpan) (hs : a.eval s = v) (hown : OS w base v l) (ad : Option Addr) (l2 : List DSpan) (n2 cap2 : Nat) (hn2 : l2.length = n2) (hx : a.eval x = .slice ad n2 cap2) (hr : RS w ad l2) (hnil : ad = none → cap2 = 0) (hn : l.length + n2 ≤ 1000000) (hb : base ≤ w.heap.size)
    (h : ∀ v' w', OS w' base v' (l ++ l2) → Below base w w' → w.grownBy w' v.ownBlock → (v'.ownBlock = v.ownBlock ∨ v'.ownBlock = some w.heap.size) → wpList Try.prog ops Q rest (a.put o.dst v') w') :
    wpList Try.prog ops Q (o :: rest) a w := by
  obtain ⟨v', w', hrun, h1, h2, h3, h4⟩ := run_appS o.type w base v l hown ad l2 n2 cap2 hn2 hr hnil hn hb
  refine wpList_plain hgd fun K hK => ?_
  unfold Oper.wp execOp
  simp only [ho, resolve, invoke, builtin, Sem.run_bind, Sem.run_pure, Result.andThen_ok, List.map_toArray, List.map_cons, List.map_nil, hs, hx, hrun]
  exact hK _ _ (h v' w' h1 h2 h3 h4)
theorem app_stS (w : World) (hgd : o.guard = none) (s x : Operand) (ho : o.op = .call { callee := .builtin .append, args := #[s, x], argTypes := #[58, 58] })
    (base : Nat) (v : Value) (l : List DSpan) (hs : a.eval s = v) (hown : OS w base v l) (ad : Option Addr) (l2 : List DSpan) (n2 cap2 : Nat) (hn2 : l2.length = n2) (hx : a.eval x = .slice ad n2 cap2) (hr : RS w ad l2) (hnil : ad = none → cap2 = 0) (hn : l.length + n2 ≤ 1000000) (hb : base ≤ w.heap.size)
    (h : ∀ v' w', OS w' base v' (l ++ l2) → Below base w w' → w.grownBy w' v.ownBlock → (v'.ownBlock = v.ownBlock ∨ v'.ownBlock = some w.heap.size) → K (a.put o.dst v') w') :
    if Region.wanted o (yielded ops a.tmps) = true then Oper.wp Try.prog o a w K Q else E := by
  have hw : Region.wanted o (yielded ops a.tmps) = true := by simp [Region.wanted, hgd]
  rw [if_pos hw]
  obtain ⟨v', w', hrun, h1, h2, h3, h4⟩ := run_appS o.type w base v l hown ad l2 n2 cap2 hn2 hr hnil hn hb
  unfold Oper.wp execOp
  simp only [ho, resolve, invoke, builtin, Sem.run_bind, Sem.run_pure, Result.andThen_ok, List.map_toArray, List.map_cons, List.map_nil, hs, hx, hrun]
  exact h v' w' h1 h2 h3 h4
end
end Go.Proofs.Ytebgibjokljlbaa
namespace Go.Proofs.Ytebgibjokljlbaa
open Go.RowKit
set_option linter.unusedVariables false
def Spare (w : World) (base : Nat) (v : Value) : Prop := ∀ a n cap, v = .slice (some a) n cap → ∃ g off, a = ⟨g, off, none⟩ ∧ base ≤ g ∧ g < w.heap.size ∧ ∀ j, n * 2 + j < cap * 2 → (w.cell? ⟨g, off + n * 2 + j, none⟩).isSome = true ∧ w.frozen? ⟨g, off + n * 2 + j, none⟩ = false
theorem Spare.none_ (w : World) (base n cap : Nat) : Spare w base (.slice none n cap) := fun a n cap h => by cases h
theorem Spare.keep {w w' : World} {base : Nat} {v : Value} (h : Spare w base v) (hs : w.heap.size ≤ w'.heap.size) (hk : ∀ g, base ≤ g → g < w.heap.size → w'.heap[g]? = w.heap[g]?) : Spare w' base v := fun a n cap e => by
  obtain ⟨g, off, rfl, h1, h2, h3⟩ := h a n cap e
  refine ⟨g, off, rfl, h1, by omega, fun j hj => ?_⟩
  rw [World.cell?_of_block (w := w) (a := ⟨g, _, none⟩) (hk g h1 h2), World.frozen?_of_block (w := w) (a := ⟨g, _, none⟩) (hk g h1 h2)]
  exact h3 j hj
theorem Spare.mono {w : World} {base base' : Nat} {v : Value} (h : Spare w base v) (hb : base' ≤ base) : Spare w base' v := fun a n cap e => by
  obtain ⟨g, off, e2, h1, h2⟩ := h a n cap e
  exact ⟨g, off, e2, by omega, h2⟩
theorem sp_block {w : World} {g : Nat} {cur : Array Value} {t : TypeId} (h : w.heap[g]? = some (.cells cur t (0, 0))) {i : Nat} (hi : i < cur.size) : (w.cell? ⟨g, i, none⟩).isSome = true ∧ w.frozen? ⟨g, i, none⟩ = false := by
  constructor
  · simp [World.cell?, h, hi]
  · simp [World.frozen?, h]
theorem OS.spare {w : World} {base : Nat} {v : Value} {l : List DSpan} (h : OS w base v l) : Spare w base v := fun a n cap e => by
  obtain ⟨h1, ⟨e1, hz⟩ | ⟨g', cap', cur, e1, hg, hh, hc, hm, hs, ht⟩⟩ := h.own
  · rw [e] at e1; cases e1
  · rw [e] at e1
    simp only [Value.slice.injEq, Option.some.injEq] at e1
    obtain ⟨rfl, rfl, rfl⟩ := e1
    refine ⟨g', 0, rfl, hg, heap_lt hh, fun j hj => ?_⟩
    rw [Nat.zero_add]
    exact sp_block hh (by omega)
theorem OS.tailSpare {w : World} {base g n cap : Nat} {f : DSpan} {r : List DSpan} (h : OS w base (.slice (some ⟨g, 0, none⟩) n cap) (f :: r)) : Spare w base (.slice (if cap = 1 then some ⟨g, 0, none⟩ else some ⟨g, 2, none⟩) (n - 1) (cap - 1)) := by
  obtain ⟨g0, o0, e0, h1, h2, h3⟩ := h.spare ⟨g, 0, none⟩ n cap rfl
  simp only [Addr.mk.injEq, and_true] at e0
  obtain ⟨rfl, rfl⟩ := e0
  have hn : n = r.length + 1 := by
    obtain ⟨a, c, e, -⟩ := h.rs
    simp only [Value.slice.injEq] at e
    have := e.2.1
    simpa using this
  have hnc : n ≤ cap := by
    obtain ⟨a, c, e, -, -, q, -⟩ := h.rs
    simp only [Value.slice.injEq] at e
    have := e.2.2
    have := e.2.1
    omega
  intro a' n' cap' e
  by_cases hc : cap = 1
  · rw [if_pos hc] at e
    simp only [Value.slice.injEq, Option.some.injEq] at e
    obtain ⟨rfl, rfl, rfl⟩ := e
    exact ⟨g, 0, rfl, h1, h2, fun j hj => by omega⟩
  · rw [if_neg hc] at e
    simp only [Value.slice.injEq, Option.some.injEq] at e
    obtain ⟨rfl, rfl, rfl⟩ := e
    refine ⟨g, 2, rfl, h1, h2, fun j hj => ?_⟩
    have := h3 j (by omega)
    rw [show 2 + (n - 1) * 2 + j = 0 + n * 2 + j by omega]
    exact this
end Go.Proofs.Ytebgibjokljlbaa
namespace Go.Proofs.Ytebgibjokljlbaa
open Go.RowKit
set_option linter.unusedVariables false
def inC (v lo hi : Int) : Bool := decide (lo ≤ v) && decide (v ≤ hi)
theorem inC_yes {v lo hi : Int} (h : inC v lo hi = true) : lo ≤ v ∧ v ≤ hi := by unfold inC at h; simpa using h
theorem inC_mk {v lo hi : Int} (h1 : lo ≤ v) (h2 : v ≤ hi) : inC v lo hi = true := by unfold inC; simp [h1, h2]
def spF (s : DSpan) (e : Int) : Int := if 1000100 < s.2.1 then 3 else if s.1 ≤ e ∨ s.2.1 ≤ s.1 then 1 else 0
def spsF : Int → List DSpan → Int
  | _, [] => 0
  | e, s :: l => if spF s e = 0 then spsF s.2.1 l else spF s e
def caHead (x : DCatch) : Bool := inC x.1 0 65535 && inC x.2.1 0 1000000
def caF (x : DCatch) : Int := if caHead x = false then 3 else if 20 < x.2.2.1.length then 2 else spsF x.2.1 x.2.2.1
theorem spsF_at {l : List DSpan} {k : Nat} (e : Int) (hk : k < l.length) : spsF e (l.drop k) = if spF l[k] e = 0 then spsF l[k].2.1 (l.drop (k + 1)) else spF l[k] e := by
  rw [List.drop_eq_getElem_cons hk]; rfl
theorem spsF_end {l : List DSpan} (e : Int) : spsF e (l.drop l.length) = 0 := by rw [List.drop_length]; rfl
theorem caF_head {x : DCatch} (h : caHead x = false) : caF x = 3 := by unfold caF; rw [if_pos h]
theorem caF_many {x : DCatch} (h : caHead x = true) (h2 : 20 < x.2.2.1.length) : caF x = 2 := by unfold caF; rw [if_neg (by simp [h]), if_pos h2]
theorem caF_sps {x : DCatch} (h : caHead x = true) (h2 : ¬ 20 < x.2.2.1.length) : caF x = spsF x.2.1 x.2.2.1 := by unfold caF; rw [if_neg (by simp [h]), if_neg h2]
theorem spF_r {s : DSpan} {e : Int} (h : 1000100 < s.2.1) : spF s e = 3 := by unfold spF; rw [if_pos h]
theorem spF_f {s : DSpan} {e : Int} (h : ¬ 1000100 < s.2.1) (h2 : s.1 ≤ e ∨ s.2.1 ≤ s.1) : spF s e = 1 := by unfold spF; rw [if_neg h, if_pos h2]
theorem spF_ok {s : DSpan} {e : Int} (h : ¬ 1000100 < s.2.1) (h2 : ¬ (s.1 ≤ e ∨ s.2.1 ≤ s.1)) : spF s e = 0 := by unfold spF; rw [if_neg h, if_neg h2]
theorem spF_parts {s : DSpan} {e : Int} (h : spF s e = 0) : e < s.1 ∧ s.1 < s.2.1 ∧ s.2.1 ≤ 1000100 := by
  unfold spF at h
  split at h
  · omega
  · split at h
    · omega
    · omega
theorem ca_ok {x : DCatch} (h : caF x = 0) : (0 ≤ x.1 ∧ x.1 ≤ 65535) ∧ (0 ≤ x.2.1 ∧ x.2.1 ≤ 1000000) ∧ x.2.2.1.length ≤ 20 ∧ spsF x.2.1 x.2.2.1 = 0 := by
  unfold caF at h
  split at h
  · omega
  · rename_i hh
    split at h
    · omega
    · have : caHead x = true := by simpa using hh
      unfold caHead at this
      simp only [Bool.and_eq_true] at this
      exact ⟨inC_yes this.1, inC_yes this.2, by omega, h⟩
def SpL : List DSpan → Prop
  | [] => True
  | [s] => s.1 ≤ s.2.1
  | s :: t :: l => s.1 ≤ s.2.1 ∧ s.2.1 < t.1 ∧ SpL (t :: l)
theorem SpL.head {s : DSpan} {l : List DSpan} (h : SpL (s :: l)) : s.1 ≤ s.2.1 := by
  cases l with
  | nil => exact h
  | cons t l => exact h.1
theorem SpL.tail {s : DSpan} {l : List DSpan} (h : SpL (s :: l)) : SpL l := by
  cases l with
  | nil => trivial
  | cons t l => exact h.2.2
theorem SpL.next {s t : DSpan} {l : List DSpan} (h : SpL (s :: t :: l)) : s.2.1 < t.1 := h.2.1
theorem SpL.cons {s : DSpan} {l : List DSpan} (h : s.1 ≤ s.2.1) (hl : SpL l) (hn : ∀ t l', l = t :: l' → s.2.1 < t.1) : SpL (s :: l) := by
  cases l with
  | nil => exact h
  | cons t l => exact ⟨h, hn t l rfl, hl⟩
theorem SpL.all {s : DSpan} : ∀ {l : List DSpan}, SpL (s :: l) → ∀ t ∈ l, s.2.1 < t.1
  | [], _, t, ht => by simp at ht
  | u :: l, h, t, ht => by
    rcases List.mem_cons.1 ht with rfl | ht
    · exact h.next
    · have h1 := SpL.all h.tail t ht
      have h2 := h.next
      have h3 := h.tail.head
      omega
theorem SpL.le : ∀ {l : List DSpan}, SpL l → ∀ t ∈ l, t.1 ≤ t.2.1
  | [], _, t, ht => by simp at ht
  | u :: l, h, t, ht => by
    rcases List.mem_cons.1 ht with rfl | ht
    · exact h.head
    · exact SpL.le h.tail t ht
def insS (a b : Int) : List DSpan → List DSpan
  | [] => [(a, b, ())]
  | s :: l => if s.2.1 < a then s :: insS a b l else if b < s.1 then (a, b, ()) :: s :: l else insS (min a s.1) (max b s.2.1) l
theorem insS_lt {a b : Int} {s : DSpan} {l : List DSpan} (h : s.2.1 < a) : insS a b (s :: l) = s :: insS a b l := by simp [insS, h]
theorem insS_gt {a b : Int} {s : DSpan} {l : List DSpan} (h : ¬ s.2.1 < a) (h2 : b < s.1) : insS a b (s :: l) = (a, b, ()) :: s :: l := by simp [insS, h, h2]
theorem insS_mid {a b : Int} {s : DSpan} {l : List DSpan} (h : ¬ s.2.1 < a) (h2 : ¬ b < s.1) : insS a b (s :: l) = insS (min a s.1) (max b s.2.1) l := by simp [insS, h, h2]
theorem insS_gtall {a b : Int} (hab : a ≤ b) : ∀ {l : List DSpan}, SpL l → (∀ t ∈ l, b < t.1) → insS a b l = (a, b, ()) :: l
  | [], _, _ => rfl
  | s :: l, h, hl => by
    have h1 := hl s (by simp)
    have h2 := h.head
    exact insS_gt (by omega) h1
theorem insS_self {s : DSpan} {l : List DSpan} (h : SpL (s :: l)) : insS s.1 s.2.1 l = s :: l := insS_gtall h.head h.tail (h.all)
theorem insS_from {a b e : Int} : ∀ {l : List DSpan}, e < a → (∀ t ∈ l, e < t.1) → ∀ t ∈ insS a b l, e < t.1
  | [], ha, _, t, ht => by simp [insS] at ht; subst ht; exact ha
  | s :: l, ha, hl, t, ht => by
    have hs := hl s (by simp)
    have hl' : ∀ t ∈ l, e < t.1 := fun t h => hl t (by simp [h])
    by_cases h1 : s.2.1 < a
    · rw [insS_lt h1] at ht
      rcases List.mem_cons.1 ht with rfl | ht
      · exact hs
      · exact insS_from ha hl' t ht
    · by_cases h2 : b < s.1
      · rw [insS_gt h1 h2] at ht
        rcases List.mem_cons.1 ht with rfl | ht
        · exact ha
        · exact hl t ht
      · rw [insS_mid h1 h2] at ht
        exact insS_from (by omega) hl' t ht
theorem insS_to {a b e : Int} : ∀ {l : List DSpan}, b ≤ e → (∀ t ∈ l, t.2.1 ≤ e) → ∀ t ∈ insS a b l, t.2.1 ≤ e
  | [], ha, _, t, ht => by simp [insS] at ht; subst ht; exact ha
  | s :: l, ha, hl, t, ht => by
    have hs := hl s (by simp)
    have hl' : ∀ t ∈ l, t.2.1 ≤ e := fun t h => hl t (by simp [h])
    by_cases h1 : s.2.1 < a
    · rw [insS_lt h1] at ht
      rcases List.mem_cons.1 ht with rfl | ht
      · exact hs
      · exact insS_to ha hl' t ht
    · by_cases h2 : b < s.1
      · rw [insS_gt h1 h2] at ht
        rcases List.mem_cons.1 ht with rfl | ht
        · exact ha
        · exact hl t ht
      · rw [insS_mid h1 h2] at ht
        exact insS_to (by omega) hl' t ht
theorem insS_len {a b : Int} : ∀ (l : List DSpan), (insS a b l).length ≤ l.length + 1
  | [] => by simp [insS]
  | s :: l => by
    by_cases h1 : s.2.1 < a
    · rw [insS_lt h1]; have := insS_len (a := a) (b := b) l; simp; omega
    · by_cases h2 : b < s.1
      · rw [insS_gt h1 h2]; simp
      · rw [insS_mid h1 h2]; have := insS_len (a := min a s.1) (b := max b s.2.1) l; simp; omega
theorem insS_ne {a b : Int} : ∀ (l : List DSpan), insS a b l ≠ []
  | [] => by simp [insS]
  | s :: l => by
    by_cases h1 : s.2.1 < a
    · rw [insS_lt h1]; simp
    · by_cases h2 : b < s.1
      · rw [insS_gt h1 h2]; simp
      · rw [insS_mid h1 h2]; exact insS_ne l
theorem insS_sp : ∀ {l : List DSpan} {a b : Int}, a ≤ b → SpL l → SpL (insS a b l)
  | [], a, b, hab, _ => hab
  | s :: l, a, b, hab, h => by
    have hs := h.head
    by_cases h1 : s.2.1 < a
    · rw [insS_lt h1]
      refine SpL.cons hs (insS_sp hab h.tail) fun t l' e => ?_
      exact insS_from (e := s.2.1) h1 h.all t (by rw [e]; simp)
    · by_cases h2 : b < s.1
      · rw [insS_gt h1 h2]
        exact ⟨hab, h2, h⟩
      · rw [insS_mid h1 h2]
        exact insS_sp (by omega) h.tail
def seenL (k : Int) (l : List DSpan) : Prop := ∃ s ∈ l, s.1 ≤ k ∧ k < s.2.1
theorem insS_covers {k : Int} : ∀ {l : List DSpan} {a b : Int}, a ≤ k → k < b → seenL k (insS a b l)
  | [], a, b, h1, h2 => ⟨(a, b, ()), by simp [insS], h1, h2⟩
  | s :: l, a, b, h1, h2 => by
    by_cases h3 : s.2.1 < a
    · rw [insS_lt h3]
      obtain ⟨t, ht, h⟩ := insS_covers (l := l) h1 h2
      exact ⟨t, by simp [ht], h⟩
    · by_cases h4 : b < s.1
      · rw [insS_gt h3 h4]
        exact ⟨(a, b, ()), by simp, h1, h2⟩
      · rw [insS_mid h3 h4]
        exact insS_covers (by omega) (by omega)
theorem insS_same : ∀ {l : List DSpan} {a b : Int}, a < b → SpL l → (∀ k, a ≤ k → k < b → seenL k l) → insS a b l = l
  | [], a, b, hab, _, hs => by obtain ⟨t, ht, _⟩ := hs a (by omega) hab; simp at ht
  | s :: l, a, b, hab, h, hs => by
    have hl := h.all
    have hlh := h.head
    have key : ∀ k, a ≤ k → k < b → (s.1 ≤ k ∧ k < s.2.1) ∨ (seenL k l ∧ s.2.1 < k) := by
      intro k h1 h2
      obtain ⟨t, ht, h3⟩ := hs k h1 h2
      rcases List.mem_cons.1 ht with rfl | ht
      · exact Or.inl h3
      · have := hl t ht
        exact Or.inr ⟨⟨t, ht, h3⟩, by omega⟩
    by_cases h1 : s.2.1 < a
    · rw [insS_lt h1, insS_same hab h.tail]
      intro k q1 q2
      rcases key k q1 q2 with q | q
      · omega
      · exact q.1
    · have ha : s.1 ≤ a ∧ a < s.2.1 := by
        rcases key a (by omega) hab with q | q
        · exact q
        · omega
      have hb : b ≤ s.2.1 := by
        apply Classical.byContradiction; intro hn
        rcases key s.2.1 (by omega) (by omega) with q | q <;> omega
      rw [insS_mid h1 (by omega), show min a s.1 = s.1 by omega, show max b s.2.1 = s.2.1 by omega]
      exact insS_self h
theorem fresh_iff {l : List DSpan} {a b : Int} (hab : a < b) (h : SpL l) : insS a b l ≠ l ↔ ∃ k, a ≤ k ∧ k < b ∧ ¬ seenL k l := by
  constructor
  · intro hne
    apply Classical.byContradiction; intro hn
    apply hne
    refine insS_same hab h fun k h1 h2 => ?_
    apply Classical.byContradiction; intro hk
    exact hn ⟨k, h1, h2, hk⟩
  · rintro ⟨k, h1, h2, h3⟩ e
    apply h3
    rw [← e]
    exact insS_covers h1 h2
def joinG : DSpan → List DSpan → List DSpan
  | c, [] => [c]
  | c, s :: l => if s.1 ≤ c.2.1 then joinG (c.1, max c.2.1 s.2.1, ()) l else c :: joinG s l
def joinT : List DSpan → List DSpan
  | [] => []
  | s :: l => joinG s l
def mrgS (a b : Int) : List DSpan → List DSpan × Int × Int
  | [] => ([], a, b)
  | s :: l => if s.2.1 < a ∨ b < s.1 then (s :: (mrgS a b l).1, (mrgS a b l).2) else mrgS (min a s.1) (max b s.2.1) l
def putS (a b : Int) : List DSpan → List DSpan
  | [] => [(a, b, ())]
  | s :: l => if s.1 < a then s :: putS a b l else (a, b, ()) :: s :: l
theorem mrgS_none {a b : Int} : ∀ {l : List DSpan}, (∀ t ∈ l, b < t.1) → mrgS a b l = (l, a, b)
  | [], _ => rfl
  | s :: l, h => by
    have h1 := h s (by simp)
    rw [mrgS, if_pos (Or.inr h1), mrgS_none fun t ht => h t (by simp [ht])]
theorem mrgS_from {e : Int} : ∀ {l : List DSpan} {a b : Int}, e < a → (∀ t ∈ l, e < t.1) → e < (mrgS a b l).2.1
  | [], a, b, h, _ => h
  | s :: l, a, b, h, hl => by
    have h1 := hl s (by simp)
    have h2 : ∀ t ∈ l, e < t.1 := fun t ht => hl t (by simp [ht])
    rw [mrgS]
    split
    · exact mrgS_from h h2
    · exact mrgS_from (by omega) h2
theorem mrgS_to : ∀ {l : List DSpan} {a b : Int}, b ≤ (mrgS a b l).2.2
  | [], a, b => Int.le_refl _
  | s :: l, a, b => by
    rw [mrgS]
    split
    · exact mrgS_to
    · exact Int.le_trans (by omega) (mrgS_to (l := l) (a := min a s.1) (b := max b s.2.1))
theorem putS_ins : ∀ {l : List DSpan} {a b : Int}, a ≤ b → SpL l → putS (mrgS a b l).2.1 (mrgS a b l).2.2 (mrgS a b l).1 = insS a b l
  | [], a, b, _, _ => rfl
  | s :: l, a, b, hab, h => by
    have hs := h.head
    by_cases h1 : s.2.1 < a
    · rw [insS_lt h1, mrgS, if_pos (Or.inl h1)]
      show putS (mrgS a b l).2.1 (mrgS a b l).2.2 (s :: (mrgS a b l).1) = _
      have h2 := mrgS_from (b := b) (e := s.2.1) h1 h.all
      rw [putS, if_pos (by omega), putS_ins hab h.tail]
    · by_cases h2 : b < s.1
      · rw [insS_gt h1 h2, mrgS_none]
        · show putS a b (s :: l) = _
          rw [putS, if_neg (by omega)]
        · intro t ht
          rcases List.mem_cons.1 ht with rfl | ht
          · exact h2
          · have := h.all t ht; omega
      · rw [insS_mid h1 h2, mrgS, if_neg (by omega)]
        exact putS_ins (by omega) h.tail
theorem insS_head {e : Int} : ∀ {l : List DSpan} {a a' b : Int}, a ≤ e → a' ≤ e → a ≤ b → a' ≤ b → SpL l → (∀ t ∈ l, e < t.1) → ∃ x r, insS a b l = (a, x, ()) :: r ∧ insS a' b l = (a', x, ()) :: r ∧ b ≤ x
  | [], a, a', b, _, _, _, _, _, _ => ⟨b, [], rfl, rfl, Int.le_refl _⟩
  | s :: l, a, a', b, h1, h2, h3, h4, h, hl => by
    have hs := hl s (by simp)
    have hle := h.head
    have hl' : ∀ t ∈ l, e < t.1 := fun t ht => hl t (by simp [ht])
    by_cases h5 : b < s.1
    · exact ⟨b, s :: l, insS_gt (by omega) h5, insS_gt (by omega) h5, Int.le_refl _⟩
    · rw [insS_mid (by omega) h5, insS_mid (by omega) h5, show min a s.1 = a by omega, show min a' s.1 = a' by omega]
      obtain ⟨x, r, q1, q2, q3⟩ := insS_head (b := max b s.2.1) h1 h2 (by omega) (by omega) h.tail hl'
      exact ⟨x, r, q1, q2, by omega⟩
def modS (a b next : Int) (l : List DSpan) : List DSpan := if next < (mrgS a b l).2.2 then putS (mrgS a b l).2.1 (mrgS a b l).2.2 (mrgS a b l).1 else (mrgS a b l).1
def modN (next : Int) (l : List DSpan) : Int × List DSpan :=
  match l with
  | [] => (next, [])
  | s :: r => if s.1 ≤ next then (s.2.1, r) else (next, s :: r)
theorem modS_ins {a b next : Int} {l : List DSpan} (ha : 0 ≤ a) (hab : a < b) (hn : 0 ≤ next) (h : SpL ((0, next, ()) :: l)) : ∃ s r, insS a b ((0, next, ()) :: l) = s :: r ∧ s.1 = 0 ∧ modN next (modS a b next l) = (s.2.1, r) := by
  have hl := h.all
  have ht := h.tail
  replace hl : ∀ t ∈ l, next < t.1 := hl
  by_cases h1 : next < a
  · refine ⟨(0, next, ()), insS a b l, insS_lt h1, rfl, ?_⟩
    have h2 := mrgS_to (l := l) (a := a) (b := b)
    unfold modS
    rw [if_pos (by omega), putS_ins (by omega) ht]
    have h3 := insS_from (b := b) (e := next) h1 hl
    cases hi : insS a b l with
    | nil => exact absurd hi (insS_ne l)
    | cons s r =>
      have := h3 s (by rw [hi]; simp)
      unfold modN
      simp only
      rw [if_neg (by omega)]
  · have e1 : insS a b ((0, next, ()) :: l) = insS 0 (max b next) l := by
      rw [insS_mid (by exact h1) (by show ¬ b < 0; omega)]
      show insS (min a 0) (max b next) l = _
      rw [show min a 0 = 0 by omega]
    rw [e1]
    by_cases h2 : b ≤ next
    · rw [show max b next = next by omega]
      refine ⟨(0, next, ()), l, insS_self h, rfl, ?_⟩
      have h3 := mrgS_none (a := a) (b := b) (l := l) fun t ht => by have := hl t ht; omega
      unfold modS
      rw [h3]
      simp only
      rw [if_neg (by omega)]
      unfold modN
      cases l with
      | nil => rfl
      | cons s r =>
        have := hl s (by simp)
        simp only
        rw [if_neg (by omega)]
    · rw [show max b next = b by omega]
      obtain ⟨x, r, q1, q2, q3⟩ := insS_head (e := next) (a := 0) (a' := a) (b := b) hn (by omega) (by omega) (by omega) ht hl
      refine ⟨(0, x, ()), r, q1, rfl, ?_⟩
      have h3 := mrgS_to (l := l) (a := a) (b := b)
      unfold modS
      rw [if_pos (by omega), putS_ins (by omega) ht, q2]
      unfold modN
      simp only
      rw [if_pos (by omega)]
theorem sps_sp : ∀ {l : List DSpan} {e : Int}, spsF e l = 0 → SpL l ∧ (∀ t ∈ l, e < t.1 ∧ t.1 < t.2.1 ∧ t.2.1 ≤ 1000100)
  | [], e, _ => ⟨trivial, by simp⟩
  | s :: l, e, h => by
    have hs : spF s e = 0 := by
      apply Classical.byContradiction; intro hn
      rw [spsF, if_neg hn] at h
      exact hn h
    rw [spsF, if_pos hs] at h
    obtain ⟨q1, q2⟩ := sps_sp h
    have hp := spF_parts hs
    refine ⟨SpL.cons (by omega) q1 fun t l' e' => (q2 t (by rw [e']; simp)).1, fun t ht => ?_⟩
    rcases List.mem_cons.1 ht with rfl | ht
    · exact hp
    · have := q2 t ht
      omega
theorem sp_sps : ∀ {l : List DSpan} {e : Int}, SpL l → (∀ t ∈ l, e < t.1 ∧ t.1 < t.2.1 ∧ t.2.1 ≤ 1000100) → spsF e l = 0
  | [], e, _, _ => rfl
  | s :: l, e, h, hl => by
    have h1 := hl s (by simp)
    rw [spsF, if_pos (spF_ok (by omega) (by omega))]
    refine sp_sps h.tail fun t ht => ?_
    have h2 := hl t (by simp [ht])
    have h3 := h.all t ht
    omega
def allS (x : DCatch) : List DSpan := (0, x.2.1, ()) :: x.2.2.1
theorem allS_sp {x : DCatch} (h : caF x = 0) : SpL (allS x) := by
  obtain ⟨_, h2, _, h4⟩ := ca_ok h
  obtain ⟨q1, q2⟩ := sps_sp h4
  exact SpL.cons h2.1 q1 fun t l' e => (q2 t (by rw [e]; simp)).1
def aftS (x : DCatch) (at' size : Int) : List DSpan := if 0 < size then insS at' (at' + size) (allS x) else allS x
def tkR (at' size : Int) : Bool := inC at' 0 1000000 && inC size 0 100 && decide (at' + size ≤ 1000000)
def zCat : DCatch := (0, 0, [], ())
def tkC (x : DCatch) (at' size : Int) : Int := if caF x = 0 then (if tkR at' size = true then (if 20 < (aftS x at' size).tail.length then 2 else 0) else 3) else caF x
def tkB (x : DCatch) (at' size : Int) : Bool := if tkC x at' size = 0 then decide (aftS x at' size ≠ allS x) else false
def tkV (x : DCatch) (at' size : Int) : DCatch := if tkC x at' size = 0 then (x.1, ((aftS x at' size).headD (0, 0, ())).2.1, (aftS x at' size).tail, ()) else zCat
theorem tk_f {x : DCatch} {a z : Int} (h : ¬ caF x = 0) : tkC x a z = caF x ∧ tkB x a z = false ∧ tkV x a z = zCat := by
  have e : tkC x a z = caF x := by unfold tkC; rw [if_neg h]
  exact ⟨e, by unfold tkB; rw [e, if_neg h], by unfold tkV; rw [e, if_neg h]⟩
theorem tk_r {x : DCatch} {a z : Int} (h : caF x = 0) (h2 : tkR a z = false) : tkC x a z = 3 ∧ tkB x a z = false ∧ tkV x a z = zCat := by
  have e : tkC x a z = 3 := by unfold tkC; rw [if_pos h, if_neg (by simp [h2])]
  exact ⟨e, by unfold tkB; rw [e, if_neg (by decide)], by unfold tkV; rw [e, if_neg (by decide)]⟩
theorem tk_m {x : DCatch} {a z : Int} (h : caF x = 0) (h2 : tkR a z = true) (h3 : 20 < (aftS x a z).tail.length) : tkC x a z = 2 ∧ tkB x a z = false ∧ tkV x a z = zCat := by
  have e : tkC x a z = 2 := by unfold tkC; rw [if_pos h, if_pos h2, if_pos h3]
  exact ⟨e, by unfold tkB; rw [e, if_neg (by decide)], by unfold tkV; rw [e, if_neg (by decide)]⟩
theorem tk_ok {x : DCatch} {a z : Int} (h : caF x = 0) (h2 : tkR a z = true) (h3 : ¬ 20 < (aftS x a z).tail.length) : tkC x a z = 0 ∧ tkB x a z = decide (aftS x a z ≠ allS x) ∧ tkV x a z = (x.1, ((aftS x a z).headD (0, 0, ())).2.1, (aftS x a z).tail, ()) := by
  have e : tkC x a z = 0 := by unfold tkC; rw [if_pos h, if_pos h2, if_neg h3]
  exact ⟨e, by unfold tkB; rw [e, if_pos rfl], by unfold tkV; rw [e, if_pos rfl]⟩
theorem tkR_yes {a z : Int} (h : tkR a z = true) : 0 ≤ a ∧ a ≤ 1000000 ∧ 0 ≤ z ∧ z ≤ 100 ∧ a + z ≤ 1000000 := by
  unfold tkR at h
  simp only [Bool.and_eq_true, decide_eq_true_eq] at h
  have h1 := inC_yes h.1.1
  have h2 := inC_yes h.1.2
  omega
end Go.Proofs.Ytebgibjokljlbaa
namespace Go.Proofs.Ytebgibjokljlbaa
open Go.RowKit
set_option linter.unusedVariables false
def inI (s : DSpan) (k : Int) : Bool := decide (s.1 ≤ k) && decide (k < s.2.1)
def sn : List DSpan → Int → Bool
  | [], _ => false
  | s :: l, k => inI s k || sn l k
def cnt (N : Nat) (l : List DSpan) : Nat := (List.range N).countP fun k : Nat => sn l (k : Int)
theorem insS_strict {a b : Int} (hab : a < b) : ∀ {l : List DSpan}, (∀ t ∈ l, t.1 < t.2.1) → ∀ t ∈ insS a b l, t.1 < t.2.1
  | [], _, t, ht => by simp [insS] at ht; subst ht; exact hab
  | s :: l, hl, t, ht => by
    have hs := hl s (by simp)
    have hl' : ∀ t ∈ l, t.1 < t.2.1 := fun t h => hl t (by simp [h])
    by_cases h1 : s.2.1 < a
    · rw [insS_lt h1] at ht
      rcases List.mem_cons.1 ht with rfl | ht
      · exact hs
      · exact insS_strict hab hl' t ht
    · by_cases h2 : b < s.1
      · rw [insS_gt h1 h2] at ht
        rcases List.mem_cons.1 ht with rfl | ht
        · exact hab
        · exact hl t ht
      · rw [insS_mid h1 h2] at ht
        exact insS_strict (by omega) hl' t ht
theorem ins_split {next : Int} {l : List DSpan} {a b : Int} (h0 : 0 ≤ a) (hab : a < b) (hn : 0 ≤ next) (h : SpL ((0, next, ()) :: l)) (hl : ∀ t ∈ l, t.1 < t.2.1) :
    ∃ n r, insS a b ((0, next, ()) :: l) = (0, n, ()) :: r ∧ next ≤ n ∧ (∀ t ∈ r, t.1 < t.2.1) := by
  by_cases h1 : next < a
  · exact ⟨next, insS a b l, insS_lt h1, Int.le_refl _, insS_strict hab hl⟩
  · have e : insS a b ((0, next, ()) :: l) = insS 0 (max b next) l := by
      rw [insS_mid (by exact h1) (by show ¬ b < 0; omega)]
      show insS (min a 0) (max b next) l = _
      rw [show min a 0 = 0 by omega]
    have hl0 : ∀ t ∈ l, next < t.1 := SpL.all h
    obtain ⟨x, r, q1, -, q3⟩ := insS_head (e := next) (a := 0) (a' := 0) (b := max b next) hn hn (by omega) (by omega) h.tail hl0
    refine ⟨x, r, e.trans q1, by omega, fun t ht => ?_⟩
    exact insS_strict (a := 0) (b := max b next) (by omega) hl t (by rw [q1]; simp [ht])
def ToB (x : DCatch) : Prop := ∀ t ∈ x.2.2.1, t.2.1 ≤ 1000000
theorem tk_code {x : DCatch} {a z : Int} (h : tkC x a z = 0) : caF x = 0 ∧ tkR a z = true ∧ (aftS x a z).tail.length ≤ 20 := by
  unfold tkC at h
  split at h
  · rename_i h0
    split at h
    · rename_i h1
      split at h
      · cases h
      · exact ⟨h0, h1, by omega⟩
    · cases h
  · contradiction
theorem tk_all {x : DCatch} {a z : Int} (h : tkC x a z = 0) (hT : ToB x) : allS (tkV x a z) = aftS x a z ∧ (tkV x a z).1 = x.1 ∧ x.2.1 ≤ (tkV x a z).2.1 ∧ caF (tkV x a z) = 0 ∧ ToB (tkV x a z) := by
  obtain ⟨h0, h1, h2⟩ := tk_code h
  obtain ⟨g1, g2, g3, g4⟩ := ca_ok h0
  obtain ⟨s1, s2⟩ := sps_sp g4
  obtain ⟨r1, r2, r3, r4, r5⟩ := tkR_yes h1
  have hsp := allS_sp h0
  have hv := (tk_ok h0 h1 (by omega)).2.2
  by_cases hz : 0 < z
  · have ea : aftS x a z = insS a (a + z) (allS x) := if_pos hz
    obtain ⟨n, r, e1, e2, e3⟩ := ins_split (next := x.2.1) (l := x.2.2.1) (a := a) (b := a + z) r1 (by omega) g2.1 hsp (fun t ht => (s2 t ht).2.1)
    have ea2 : aftS x a z = (0, n, ()) :: r := ea.trans e1
    have hq : ∀ t ∈ insS a (a + z) (allS x), t.2.1 ≤ 1000000 := insS_to (by omega) fun t ht => by
      rcases List.mem_cons.1 ht with rfl | ht
      · exact g2.2
      · exact hT t ht
    have hs3 : SpL ((0, n, ()) :: r) := by rw [← ea2, ea]; exact insS_sp (by omega) hsp
    have hn1 : n ≤ 1000000 := hq (0, n, ()) (by rw [← ea, ea2]; simp)
    have hr1 : ∀ t ∈ r, t.2.1 ≤ 1000000 := fun t ht => hq t (by rw [← ea, ea2]; simp [ht])
    have ev : tkV x a z = (x.1, n, r, ()) := by rw [hv, ea2]; rfl
    rw [ev, ea2]
    rw [ea2] at h2
    refine ⟨rfl, rfl, e2, ?_, hr1⟩
    have hh : caHead (x.1, n, r, ()) = true := by
      show (inC x.1 0 65535 && inC n 0 1000000) = true
      rw [inC_mk g1.1 g1.2, inC_mk (by omega) hn1]; rfl
    rw [caF_sps hh (by show ¬ 20 < r.length; simpa using h2)]
    exact sp_sps hs3.tail fun t ht => ⟨SpL.all hs3 t ht, e3 t ht, by have := hr1 t ht; omega⟩
  · have ea : aftS x a z = allS x := if_neg hz
    have ev : tkV x a z = x := by rw [hv, ea]; rfl
    rw [ev, ea]
    exact ⟨rfl, rfl, Int.le_refl _, h0, hT⟩
end Go.Proofs.Ytebgibjokljlbaa
