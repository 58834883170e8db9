/- Rows of spans: what a slice that is read holds, what a slice of the call's own holds, and what append makes of it; no condition but that there are at most a million. -/
import Derived.Test.YtioehciabgdbaaaRows
import Derived.Test.YtioehciabgdbaaaBase
import Derived.Test.YtioehciabgdbaaaBytes
import Derived.Test.YtioehciabgdbaaaMem
import Derived.Test.YtioehciabgdbaaaMemOpen
import Derived.Test.YtioehciabgdbaaaMemRow
import Derived.Test.YtioehciabgdbaaaMemApp
import Derived.Test.YtioehciabgdbaaaHBase
import Derived.Test.YtioehciabgdbaaaHSpan
import Derived.Test.YtioehciabgdbaaaHMark
import Derived.Test.YtioehciabgdbaaaMSpan
import Derived.Deep.RegionHeld3
namespace Go.Proofs.Ytioehciabgdbaaa
open Go.RowKit
set_option linter.unusedVariables false
set_option maxRecDepth 8000

/-- The cells of spans. -/
def cellsS : List DSpan → List Value
  | [] => []
  | s :: l => .int .i64 s.1 :: .int .i64 s.2.1 :: cellsS l
theorem cellsS_app : ∀ (l m : List DSpan), cellsS (l ++ m) = cellsS l ++ cellsS m
  | [], m => rfl
  | s :: l, m => by show _ :: _ :: cellsS (l ++ m) = _; rw [cellsS_app l m]; rfl
theorem cellsS_len : ∀ (l : List DSpan), (cellsS l).length = l.length * 2
  | [] => rfl
  | s :: l => by show (cellsS l).length + 1 + 1 = (l.length + 1) * 2; rw [cellsS_len l]; omega
theorem cellsS_get : ∀ {l : List DSpan} {i : Nat} (h : i < l.length), (cellsS l)[i * 2]? = some (.int .i64 l[i].1) ∧ (cellsS l)[i * 2 + 1]? = some (.int .i64 l[i].2.1)
  | s :: l, 0, _ => ⟨rfl, rfl⟩
  | s :: l, i + 1, h => by
    have := cellsS_get (l := l) (i := i) (by simpa using h)
    rw [show (i + 1) * 2 = i * 2 + 1 + 1 by omega]
    exact this
theorem cellsS_one (l : List DSpan) : ∀ u ∈ cellsS l, u.oneCell' = true := by
  induction l with
  | nil => simp [cellsS]
  | cons s l ih =>
    intro u hu
    simp only [cellsS, List.mem_cons] at hu
    rcases hu with rfl | rfl | hu
    · rfl
    · rfl
    · exact ih u hu
theorem cellsS_at {l : List DSpan} {j : Nat} {u : Value} (h : (cellsS l)[j]? = some u) : ∃ i, ∃ hi : i < l.length, (j = i * 2 ∧ u = .int .i64 l[i].1) ∨ (j = i * 2 + 1 ∧ u = .int .i64 l[i].2.1) := by
  have hj : j < (cellsS l).length := by
    apply Classical.byContradiction; intro hn
    rw [List.getElem?_eq_none (by omega)] at h; cases h
  rw [cellsS_len] at hj
  have hi : j / 2 < l.length := by omega
  obtain ⟨g1, g2⟩ := cellsS_get hi
  refine ⟨j / 2, hi, ?_⟩
  rcases Nat.mod_two_eq_zero_or_one j with e | e
  · left
    have e2 : j = j / 2 * 2 := by omega
    rw [← e2, h] at g1
    exact ⟨e2, Option.some.inj g1⟩
  · right
    have e2 : j = j / 2 * 2 + 1 := by omega
    rw [← e2, h] at g2
    exact ⟨e2, Option.some.inj g2⟩

def WfS (l : List DSpan) : Prop := ∀ s ∈ l, (Lit.int .i64 s.1).wf = true ∧ (Lit.int .i64 s.2.1).wf = true
theorem WfS.app {l m : List DSpan} (h : WfS l) (k : WfS m) : WfS (l ++ m) := fun s hs => by
  rcases List.mem_append.1 hs with hs | hs
  · exact h s hs
  · exact k s hs
theorem WfS.drop {l : List DSpan} (h : WfS l) (k : Nat) : WfS (l.drop k) := fun s hs => h s (List.mem_of_mem_drop hs)
theorem WfS.take {l : List DSpan} (h : WfS l) (k : Nat) : WfS (l.take k) := fun s hs => h s (List.mem_of_mem_take hs)
theorem wfS_of {l : List DSpan} (h : ∀ t ∈ l, -4611686018427387904 ≤ t.1 ∧ t.1 ≤ 4611686018427387904 ∧ -4611686018427387904 ≤ t.2.1 ∧ t.2.1 ≤ 4611686018427387904) : WfS l := fun s hs => by
  have := h s hs
  exact ⟨WalkArith.wf_i64 (by omega), WalkArith.wf_i64 (by omega)⟩

/-- The slice that begins at a reads as the spans l. -/
structure RS (w : World) (a : Option Addr) (l : List DSpan) : Prop where
  wf : WfS l
  mem : l = [] ∨ ∃ b off, a = some ⟨b, off, none⟩ ∧ ∀ i (h : i < l.length), w.cell? ⟨b, off + i * 2, none⟩ = some (.int .i64 l[i].1) ∧ w.cell? ⟨b, off + i * 2 + 1, none⟩ = some (.int .i64 l[i].2.1)
theorem RS.nil (w : World) (a : Option Addr) : RS w a [] := ⟨fun s hs => by simp at hs, Or.inl rfl⟩
theorem RS.below {w w' : World} {a : Option Addr} {l : List DSpan} (h : RS w a l) (hb : Below w.heap.size w w') : RS w' a l := by
  refine ⟨h.wf, ?_⟩
  rcases h.mem with e | ⟨b, off, rfl, hc⟩
  · exact Or.inl e
  · refine Or.inr ⟨b, off, rfl, fun i hi => ?_⟩
    have hlt := cell_lt (hc i hi).1
    exact ⟨(hb.cell (p := ⟨b, off + i * 2, none⟩) hlt).trans (hc i hi).1, (hb.cell (p := ⟨b, off + i * 2 + 1, none⟩) hlt).trans (hc i hi).2⟩
theorem RS.of_rd {w : World} {B : Nat} {l : List DSpan} {a : Option Addr} {n cap : Nat} (h : shSpans.Rd w B l [.slice a n cap]) : RS w a l := by
  by_cases hl : l = []
  · subst hl; exact RS.nil _ _
  · obtain ⟨b, off, ha, -⟩ := at_Spans h 0 (List.length_pos_iff.2 hl)
    refine ⟨fun s hs => ?_, Or.inr ⟨b, off, ha, fun i hi => ?_⟩⟩
    · obtain ⟨i, hi, rfl⟩ := List.getElem_of_mem hs
      obtain ⟨_, _, _, _, _, _, h1, h2⟩ := at_Spans h i hi
      exact ⟨h1, h2⟩
    · obtain ⟨b', off', ha', _, h1, h2, _⟩ := at_Spans h i hi
      rw [ha] at ha'
      simp only [Option.some.injEq, Addr.mk.injEq, and_true] at ha'
      obtain ⟨rfl, rfl⟩ := ha'
      exact ⟨h1, h2⟩
theorem RS.rd {w : World} {B : Nat} {l : List DSpan} {a : Option Addr} {cap : Nat} (h : RS w a l) (hn : a = none → cap = 0) (hm : l.length ≤ cap ∧ cap ≤ maxLen) (hB : w.heap.size ≤ B) : shSpans.Rd w B l [.slice a l.length cap] := by
  rcases h.mem with e | ⟨b, off, rfl, hc⟩
  · subst e
    exact ⟨a, cap, rfl, hm, hn, 0, 0, fun h => absurd rfl h, fun i hi => by simp at hi⟩
  · refine ⟨_, cap, rfl, hm, hn, b, off, fun hl => ⟨rfl, ?_⟩, fun i hi => ⟨[.int .i64 l[i].1, .int .i64 l[i].2.1], rfl, fun j hj => ?_, ?_⟩⟩
    · have := cell_lt (hc 0 (List.length_pos_iff.2 hl)).1
      simp at this; omega
    · have hj : j < 2 := hj
      have h2 : j = 0 ∨ j = 1 := by omega
      rcases h2 with rfl | rfl
      · exact (hc i hi).1
      · exact (hc i hi).2
    · have := h.wf _ (List.getElem_mem hi)
      exact ⟨_, _, rfl, ⟨rfl, this.1⟩, _, _, rfl, ⟨rfl, this.2⟩, rfl⟩
theorem RS.drop {w : World} {b off : Nat} {l : List DSpan} (h : RS w (some ⟨b, off, none⟩) l) (k : Nat) : RS w (some ⟨b, off + k * 2, none⟩) (l.drop k) := by
  refine ⟨h.wf.drop k, ?_⟩
  rcases h.mem with e | ⟨b', off', e, hc⟩
  · left; subst e; simp
  · right
    simp only [Option.some.injEq, Addr.mk.injEq, and_true] at e
    obtain ⟨rfl, rfl⟩ := e
    refine ⟨b, off + k * 2, rfl, fun i hi => ?_⟩
    have := hc (k + i) (by simp at hi; omega)
    rw [show off + (k + i) * 2 = off + k * 2 + i * 2 by omega] at this
    simpa using this
theorem RS.take {w : World} {a : Option Addr} {l : List DSpan} (h : RS w a l) (k : Nat) : RS w a (l.take k) := by
  refine ⟨h.wf.take k, ?_⟩
  rcases h.mem with e | ⟨b, off, rfl, hc⟩
  · left; subst e; simp
  · right
    refine ⟨b, off, rfl, fun i hi => ?_⟩
    have := hc i (by simp at hi; omega)
    simpa using this

/-- The slice v owns, from block base on, the spans l. -/
structure OS (w : World) (base : Nat) (v : Value) (l : List DSpan) : Prop where
  own : w.ownsRow base 129 2 v l.length (cellsS l)
  wf : WfS l
theorem OS.nil (w : World) (base : Nat) : OS w base (.slice none 0 0) [] := ⟨World.ownsRow_nil _ _ _ _, fun s hs => by simp at hs⟩
theorem OS.rs {w : World} {base : Nat} {v : Value} {l : List DSpan} (h : OS w base v l) : ∃ a cap, v = .slice a l.length cap ∧ RS w a l ∧ (a = none → cap = 0) ∧ l.length ≤ cap ∧ cap ≤ maxLen := by
  have h0 := h.own
  obtain ⟨h1, ⟨rfl, hz⟩ | ⟨g, cap, cur, rfl, hg, hh, hc, hm, hs, ht⟩⟩ := h.own
  · have : l = [] := List.length_eq_zero_iff.1 hz
    subst this
    exact ⟨none, 0, rfl, RS.nil _ _, fun _ => rfl, Nat.le_refl _, Nat.zero_le _⟩
  · refine ⟨_, cap, rfl, ⟨h.wf, Or.inr ⟨g, 0, rfl, fun i hi => ?_⟩⟩, by simp, hc, hm⟩
    rw [Nat.zero_add, h0.cellAt (i * 2) (by omega), h0.cellAt (i * 2 + 1) (by omega)]
    exact cellsS_get hi
theorem OS.mono {w : World} {base base' : Nat} {v : Value} {l : List DSpan} (h : OS w base v l) (hB : base' ≤ base) : OS w base' v l := by
  refine ⟨?_, h.wf⟩
  obtain ⟨h1, h2 | ⟨g, cap, cur, e, hg, r⟩⟩ := h.own
  · exact ⟨h1, Or.inl h2⟩
  · exact ⟨h1, Or.inr ⟨g, cap, cur, e, by omega, r⟩⟩
theorem OS.keeps {w w' : World} {base : Nat} {v : Value} {l : List DSpan} (h : OS w base v l) (hb : ∀ g, base ≤ g → g < w.heap.size → w'.heap[g]? = w.heap[g]?) : OS w' base v l := by
  refine ⟨?_, h.wf⟩
  obtain ⟨h1, h2 | ⟨g, cap, cur, e, hg, hh, r⟩⟩ := h.own
  · exact ⟨h1, Or.inl h2⟩
  · exact ⟨h1, Or.inr ⟨g, cap, cur, e, hg, by rw [hb g hg (heap_lt hh)]; exact hh, r⟩⟩
theorem OS.below {w w' : World} {base : Nat} {v : Value} {l : List DSpan} (h : OS w base v l) (hb : Below w.heap.size w w') : OS w' base v l := h.keeps fun g _ h2 => hb.block g h2
theorem OS.keep {w w' : World} {base : Nat} {v : Value} {l : List DSpan} (h : OS w base v l) (hb : ∀ g, v.ownBlock = some g → w'.heap[g]? = w.heap[g]?) : OS w' base v l := by
  refine ⟨?_, h.wf⟩
  obtain ⟨h1, h2 | ⟨g, cap, cur, e, hg, hh, r⟩⟩ := h.own
  · exact ⟨h1, Or.inl h2⟩
  · exact ⟨h1, Or.inr ⟨g, cap, cur, e, hg, by rw [hb g (by rw [e]; rfl)]; exact hh, r⟩⟩
/-- A literal of spans. -/
theorem OS.lit (w : World) (l : List DSpan) (hw : WfS l) (hn : l.length ≤ 1000000) : OS (w.alloc (.cells (cellsS l).toArray 129)) w.heap.size (.slice (some ⟨w.heap.size, 0, none⟩) l.length l.length) l := by
  refine ⟨?_, hw⟩
  refine ⟨cellsS_len l, Or.inr ⟨w.heap.size, l.length, (cellsS l).toArray, rfl, Nat.le_refl _, heap_alloc_new w _, Nat.le_refl _, by unfold maxLen; omega, by simp [cellsS_len], ?_⟩⟩
  rw [← cellsS_len]; simp
theorem chunk_cellsS {l : List DSpan} {i : Nat} (h : i < l.length) : ((cellsS l).drop (i * 2)).take 2 = [.int .i64 l[i].1, .int .i64 l[i].2.1] := by
  obtain ⟨g1, g2⟩ := cellsS_get h
  have hl := cellsS_len l
  have h1 : i * 2 < (cellsS l).length := by omega
  have h2 : i * 2 + 1 < (cellsS l).length := by omega
  rw [List.drop_eq_getElem_cons h1, List.drop_eq_getElem_cons h2]
  rw [List.getElem?_eq_getElem h1] at g1
  rw [List.getElem?_eq_getElem h2] at g2
  simp only [Option.some.injEq] at g1 g2
  simp [g1, g2]
/-- What is owned, from its element k on, as a row that begins at a place. -/
theorem OS.ownO {w : World} {base hi : Nat} {a : Option Addr} {n cap : Nat} {l : List DSpan} (h : OS w base (.slice a n cap) l) (hh : w.heap.size ≤ hi) (k : Nat) (hk : k ≤ l.length) :
    ∃ g, a = some ⟨g, 0, none⟩ ∧ Own w base hi shSpansO (l.drop k) [.slice (some ⟨g, k * 2, none⟩) (l.length - k) (cap - k)] ∨ (l = [] ∧ a = none ∧ n = 0 ∧ cap = 0) := by
  obtain ⟨h1, ⟨e, hz⟩ | ⟨g, cap', cur, e, hg, hhp, hc, hm, hs, ht⟩⟩ := h.own
  · simp only [Value.slice.injEq] at e
    obtain ⟨rfl, rfl, rfl⟩ := e
    exact ⟨0, Or.inr ⟨List.length_eq_zero_iff.1 hz, rfl, rfl, rfl⟩⟩
  · simp only [Value.slice.injEq] at e
    obtain ⟨rfl, rfl, rfl⟩ := e
    refine ⟨g, Or.inl ⟨rfl, ⟨[g], ?_, by simp, fun b hb => by simp at hb; subst hb; exact ⟨hg, Nat.lt_of_lt_of_le (heap_lt hhp) hh⟩⟩⟩⟩
    refine Or.inr ⟨g, k * 2, cap - k, cur, List.replicate (l.drop k).length [], ?_, ?_, hhp, ?_, by omega, ?_, by simp, fun i hi' => ?_⟩
    · simp
    · have : (List.replicate (l.drop k).length ([] : List Nat)).flatten = [] := by simp
      rw [this]
    · simp; omega
    · show k * 2 + (l.drop k).length * 2 ≤ cur.size
      rw [hs, List.length_drop]; omega
    · have hi2 : k + i < l.length := by simp at hi'; omega
      have e1 : (List.replicate (l.drop k).length ([] : List Nat)).getD i [] = [] := by
        rw [List.getD_eq_getElem?_getD, List.getElem?_replicate]; split <;> rfl
      rw [e1]
      show shSpan.Ow w [] _ ((cur.toList.drop (k * 2 + i * 2)).take 2)
      have e2 : (cur.toList.drop (k * 2 + i * 2)).take 2 = ((cellsS l).drop ((k + i) * 2)).take 2 := by
        rw [← ht, List.drop_take, List.take_take, show k * 2 + i * 2 = (k + i) * 2 by omega]
        congr 1
        omega
      rw [e2, chunk_cellsS hi2]
      have e3 : (l.drop k)[i] = l[k + i] := by simp
      rw [e3]
      have := h.wf _ (List.getElem_mem hi2)
      exact mk_Span this.1 this.2
theorem OS.ownAll {w : World} {base hi : Nat} {v : Value} {l : List DSpan} (h : OS w base v l) (hh : w.heap.size ≤ hi) : Own w base hi shSpansO l [v] := by
  obtain ⟨a, cap, rfl, _⟩ := h.rs
  obtain ⟨g, ⟨rfl, ho⟩ | ⟨rfl, rfl, _, rfl⟩⟩ := h.ownO hh 0 (Nat.zero_le _)
  · simpa using ho
  · exact ⟨[], Or.inl ⟨rfl, rfl, none, 0, rfl, Nat.zero_le _, fun _ => rfl⟩, by simp, by simp⟩

/-- What is appended. -/
theorem run_appS (ty : TypeId) (w : World) (base : Nat) (v : Value) (l : List DSpan) (hown : OS w base v l) (ad : Option Addr) (l2 : List DSpan) (n2 cap2 : Nat) (hn2 : l2.length = n2) (hr : RS w ad l2) (hnil : ad = none → cap2 = 0) (hn : l.length + n2 ≤ 1000000) (hb : base ≤ w.heap.size) :
    ∃ v' w', (Builtin.append_ #[55, 55] ty #[v, .slice ad n2 cap2]).run Try.prog w = .ok v' w' ∧ OS w' base v' (l ++ l2) ∧ Below base w w' ∧ w.grownBy w' v.ownBlock ∧ (v'.ownBlock = v.ownBlock ∨ v'.ownBlock = some w.heap.size) := by
  obtain ⟨i0, hi, hz0, hz1, hz2⟩ := info_parts info_Span
  cases ad with
  | none =>
    have e1 := hnil rfl
    have e2 : l2 = [] := by
      rcases hr.mem with e | ⟨b, off, e, _⟩
      · exact e
      · cases e
    subst e1 e2
    simp at hn2
    subst hn2
    have hrun := run_append_owned_none (P := Try.prog) w base 55 ty 129 i0 2 Try.underlying55 hi v l.length _ hown.own
    exact ⟨v, w, hrun, by rw [List.append_nil]; exact hown, Below.refl _ _, World.grownBy.refl _ _, Or.inl rfl⟩
  | some ad =>
    obtain ⟨v', w', hrun, h1, h2, _, h4⟩ := run_append_own_at (P := Try.prog) w base 55 ty 129 i0 (.agg #[.int .i64 0, .int .i64 0]) 2 16 Try.underlying55 hi hz0 hz1 hz2 rfl (by decide) v l.length _ hown.own ad n2 cap2 (cellsS l2) (by rw [cellsS_len, hn2]) (by
      intro j u hj
      obtain ⟨i, hi', hu⟩ := cellsS_at hj
      rcases hr.mem with e | ⟨b, off, e, hc⟩
      · rw [e] at hi'; simp at hi'
      · cases e
        rw [add_none]
        rcases hu with ⟨rfl, rfl⟩ | ⟨rfl, rfl⟩
        · exact (hc i hi').1
        · exact (hc i hi').2) (cellsS_one l2) (by unfold maxLen; omega) (by omega) hb
    refine ⟨v', w', hrun, ⟨?_, hown.wf.app hr.wf⟩, (Below.refl _ _).grown h2 hb (fun k hk => (hown.own.lt k hk).1), h2, h4⟩
    rw [List.length_append, hn2, cellsS_app]; exact h1

section
variable {ops : Array Oper} {rest : List Oper} {o : Oper} {a : Act} {Q : Exit → Act → World → Prop} {K : Act → World → Prop} {E : Prop}
/-- In a plain row of operations. -/
theorem app_plS (w : World) (hgd : o.guard = none) (s x : Operand) (ho : o.op = .call { callee := .builtin .append, args := #[s, x], argTypes := #[55, 55] })
    (base : Nat) (v : Value) (l : List DSpan) (hs : a.eval s = v) (hown : OS w base v l) (ad : Option Addr) (l2 : List DSpan) (n2 cap2 : Nat) (hn2 : l2.length = n2) (hx : a.eval x = .slice ad n2 cap2) (hr : RS w ad l2) (hnil : ad = none → cap2 = 0) (hn : l.length + n2 ≤ 1000000) (hb : base ≤ w.heap.size)
    (h : ∀ v' w', OS w' base v' (l ++ l2) → Below base w w' → w.grownBy w' v.ownBlock → (v'.ownBlock = v.ownBlock ∨ v'.ownBlock = some w.heap.size) → wpList Try.prog ops Q rest (a.put o.dst v') w') :
    wpList Try.prog ops Q (o :: rest) a w := by
  obtain ⟨v', w', hrun, h1, h2, h3, h4⟩ := run_appS o.type w base v l hown ad l2 n2 cap2 hn2 hr hnil hn hb
  refine wpList_plain hgd fun K hK => ?_
  unfold Oper.wp execOp
  simp only [ho, resolve, invoke, builtin, Sem.run_bind, Sem.run_pure, Result.andThen_ok, List.map_toArray, List.map_cons, List.map_nil, hs, hx, hrun]
  exact hK _ _ (h v' w' h1 h2 h3 h4)
/-- At a step of a region that draws its order. -/
theorem app_stS (w : World) (hgd : o.guard = none) (s x : Operand) (ho : o.op = .call { callee := .builtin .append, args := #[s, x], argTypes := #[55, 55] })
    (base : Nat) (v : Value) (l : List DSpan) (hs : a.eval s = v) (hown : OS w base v l) (ad : Option Addr) (l2 : List DSpan) (n2 cap2 : Nat) (hn2 : l2.length = n2) (hx : a.eval x = .slice ad n2 cap2) (hr : RS w ad l2) (hnil : ad = none → cap2 = 0) (hn : l.length + n2 ≤ 1000000) (hb : base ≤ w.heap.size)
    (h : ∀ v' w', OS w' base v' (l ++ l2) → Below base w w' → w.grownBy w' v.ownBlock → (v'.ownBlock = v.ownBlock ∨ v'.ownBlock = some w.heap.size) → K (a.put o.dst v') w') :
    if Region.wanted o (yielded ops a.tmps) = true then Oper.wp Try.prog o a w K Q else E := by
  have hw : Region.wanted o (yielded ops a.tmps) = true := by simp [Region.wanted, hgd]
  rw [if_pos hw]
  obtain ⟨v', w', hrun, h1, h2, h3, h4⟩ := run_appS o.type w base v l hown ad l2 n2 cap2 hn2 hr hnil hn hb
  unfold Oper.wp execOp
  simp only [ho, resolve, invoke, builtin, Sem.run_bind, Sem.run_pure, Result.andThen_ok, List.map_toArray, List.map_cons, List.map_nil, hs, hx, hrun]
  exact h v' w' h1 h2 h3 h4
end
end Go.Proofs.Ytioehciabgdbaaa
