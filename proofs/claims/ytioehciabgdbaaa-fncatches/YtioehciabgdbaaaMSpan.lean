/- Marks laid over spans, and what is held of them; no condition but on lengths. -/
import Derived.Test.YtioehciabgdbaaaRows
import Derived.Test.YtioehciabgdbaaaBase
import Derived.Test.YtioehciabgdbaaaBytes
import Derived.Test.YtioehciabgdbaaaMem
import Derived.Test.YtioehciabgdbaaaMemOpen
import Derived.Test.YtioehciabgdbaaaMemRow
import Derived.Test.YtioehciabgdbaaaHBase
import Derived.Test.YtioehciabgdbaaaHMark
import Derived.Test.YtioehciabgdbaaaHSpan
namespace Go.Proofs.Ytioehciabgdbaaa
open Go.RowKit
set_option linter.unusedVariables false

/-! ### Rows that begin at a place of their block -/
def chunkO (xs : List Value) (off sz i : Nat) : List Value := (xs.drop (off + i * sz)).take sz
theorem chunkO_get {xs : List Value} {off sz i j : Nat} (hj : j < sz) : (chunkO xs off sz i)[j]? = xs[off + i * sz + j]? := by
  unfold chunkO; rw [List.getElem?_take_of_lt hj, List.getElem?_drop]
theorem chunkO_ext {xs ys : List Value} {off sz i : Nat} (h : ∀ k, k < sz → xs[off + i * sz + k]? = ys[off + i * sz + k]?) : chunkO xs off sz i = chunkO ys off sz i := by
  apply List.ext_getElem?
  intro k
  by_cases hk : k < sz
  · rw [chunkO_get hk, chunkO_get hk, h k hk]
  · rw [List.getElem?_eq_none (by unfold chunkO; simp; omega), List.getElem?_eq_none (by unfold chunkO; simp; omega)]
theorem chunkO_set1 {cur : Array Value} {off sz k j i : Nat} {v : Value} (hj : j < sz) (hk : off + k * sz + sz ≤ cur.size) : chunkO (cur.setIfInBounds (off + k * sz + j) v).toList off sz i = if i = k then (chunkO cur.toList off sz k).set j v else chunkO cur.toList off sz i := by
  rw [Array.toList_setIfInBounds]
  split
  · rename_i e; subst e
    apply List.ext_getElem?
    intro q
    by_cases hq : q < sz
    · rw [chunkO_get hq]
      by_cases e : q = j
      · subst e
        rw [List.getElem?_set_self (by simp; omega), List.getElem?_set_self (by unfold chunkO; simp; omega)]
      · rw [List.getElem?_set_ne (by omega), List.getElem?_set_ne (by omega), chunkO_get hq]
    · rw [List.getElem?_eq_none (by unfold chunkO; simp; omega), List.getElem?_eq_none (by unfold chunkO; simp; omega)]
  · rename_i hne
    refine chunkO_ext fun q hq => ?_
    rw [List.getElem?_set_ne]
    intro e
    rcases Nat.lt_or_gt_of_ne hne with h | h
    · have : i * sz + sz ≤ k * sz := by rw [← Nat.succ_mul]; exact Nat.mul_le_mul_right _ h
      omega
    · have : k * sz + sz ≤ i * sz := by rw [← Nat.succ_mul]; exact Nat.mul_le_mul_right _ h
      omega
theorem ow_elemO {w : World} {bs : List Nat} {t : TypeId} {e : Sh} {l : List e.El} {a : Option Addr} {n cap : Nat} (h : (Sh.rowO t e).Ow w bs l [.slice a n cap]) (hnd : bs.Nodup) (k : Nat) (hk : k < l.length) :
    ∃ pg off cur bk, a = some ⟨pg, off, none⟩ ∧ pg ∈ bs ∧ w.heap[pg]? = some (.cells cur t (0, 0)) ∧ off + k * e.sz + e.sz ≤ cur.size ∧ List.Nodup bk ∧ e.Ow w bk l[k] (chunkO cur.toList off e.sz k) ∧ (∀ b ∈ bk, b ∈ bs ∧ b ≠ pg) ∧
      ∀ (w' : World) (cur' : Array Value) (d' : e.El), w'.heap[pg]? = some (.cells cur' t (0, 0)) → cur'.size = cur.size → (∀ i, i ≠ k → chunkO cur'.toList off e.sz i = chunkO cur.toList off e.sz i) → e.Ow w' bk d' (chunkO cur'.toList off e.sz k) →
        (∀ b ∈ bs, b ≠ pg → b ∉ bk → w'.heap[b]? = w.heap[b]?) → (Sh.rowO t e).Ow w' bs (l.set k d') [.slice a n cap] := by
  rcases h with ⟨_, rfl, _⟩ | ⟨g, off, cap', cur, F, e1, rfl, h3, h4, h5, h6, h7, h8⟩
  · simp at hk
  · simp only [List.cons.injEq, Value.slice.injEq, and_true] at e1
    obtain ⟨rfl, rfl, rfl⟩ := e1
    obtain ⟨hg1, hg2⟩ := List.nodup_cons.1 hnd
    have hle : off + k * e.sz + e.sz ≤ cur.size := by
      have : k * e.sz + e.sz ≤ l.length * e.sz := by rw [← Nat.succ_mul]; exact Nat.mul_le_mul_right _ hk
      omega
    have hkF : k < F.length := by omega
    have hpw := List.pairwise_flatten.1 hg2
    refine ⟨g, off, cur, F.getD k [], rfl, by simp, h3, hle, ?_, h8 k hk, fun b hb => ⟨List.mem_cons_of_mem _ (getD_mem_flatten hb), fun e' => hg1 (e' ▸ getD_mem_flatten hb)⟩, ?_⟩
    · rw [List.getD_eq_getElem?_getD, List.getElem?_eq_getElem hkF]
      exact hpw.1 _ (List.getElem_mem hkF)
    · intro w' cur' d' q1 q2 q3 q4 q5
      refine Or.inr ⟨g, off, cap, cur', F, by rw [List.length_set], rfl, q1, by rw [List.length_set]; exact h4, h5, by rw [q2, List.length_set]; exact h6, by rw [List.length_set]; exact h7, fun i hi' => ?_⟩
      have hi2 : i < l.length := by simpa using hi'
      show Sh.Ow _ e _ _ (chunkO cur'.toList off e.sz i)
      by_cases ei : i = k
      · subst ei
        rw [List.getElem_set_self]; exact q4
      · rw [List.getElem_set_ne (by omega), q3 i ei]
        refine Sh.Ow.keep _ _ _ _ (fun b hbm => ?_) (h8 i hi2)
        refine q5 b (List.mem_cons_of_mem _ (getD_mem_flatten hbm)) (fun e' => hg1 (e' ▸ getD_mem_flatten hbm)) fun hb' => ?_
        have hi4 : i < F.length := by omega
        rcases Nat.lt_or_gt_of_ne ei with hlt | hlt
        · exact List.pairwise_iff_getElem.1 hpw.2 i k hi4 hkF hlt b (by simpa [List.getD_eq_getElem?_getD, List.getElem?_eq_getElem hi4] using hbm) b (by simpa [List.getD_eq_getElem?_getD, List.getElem?_eq_getElem hkF] using hb') rfl
        · exact List.pairwise_iff_getElem.1 hpw.2 k i hkF hi4 hlt b (by simpa [List.getD_eq_getElem?_getD, List.getElem?_eq_getElem hkF] using hb') b (by simpa [List.getD_eq_getElem?_getD, List.getElem?_eq_getElem hi4] using hbm) rfl
theorem row_formO {w : World} {B : Nat} {t : TypeId} {e : Sh} {l : List e.El} {cs : List Value} (h : (Sh.rowO t e).Rd w B l cs) : ∃ a cap, cs = [.slice a l.length cap] := by
  obtain ⟨a, cap, h1, _⟩ := h; exact ⟨a, cap, h1⟩
theorem ow_rowO {w : World} {bs : List Nat} {t : TypeId} {e : Sh} {l : List e.El} {cs : List Value} (h : (Sh.row t e).Ow w bs l cs) : (Sh.rowO t e).Ow w bs l cs := by
  rcases h with ⟨h1, h2, h3⟩ | ⟨g, cap, cur, F, h1, h2, h3, h4, h5, h6, h7, h8⟩
  · exact Or.inl ⟨h1, h3, none, 0, h2, Nat.zero_le _, fun _ => rfl⟩
  · refine Or.inr ⟨g, 0, cap, cur, F, h1, h2, h3, h4, h5, ?_, h7, fun i hi => ?_⟩
    · rw [h6, Nat.zero_add]; exact Nat.mul_le_mul_right _ h4
    · rw [Nat.zero_add]; exact h8 i hi
abbrev shSpansO : Sh := .rowO 129 shSpan
theorem rdO_Spans {w : World} {B : Nat} {l : List DSpan} {cs : List Value} (h : shSpansO.Rd w B l cs) : shSpans.Rd w B l cs := h

theorem ow_Span {w : World} {bs : List Nat} {x : DSpan} {cs : List Value} (h : shSpan.Ow w bs x cs) : bs = [] ∧ cs = [.int .i64 x.1, .int .i64 x.2.1] ∧ (Lit.int .i64 x.1).wf = true ∧ (Lit.int .i64 x.2.1).wf = true := by
  obtain ⟨a0, r0, p0, q0, eb0, ec0, ⟨f0, g0, w0⟩, a1, r1, p1, q1, eb1, ec1, ⟨f1, g1, w1⟩, zb, zc⟩ := h
  exact ⟨by rw [eb0, f0, eb1, f1, zb]; rfl, by rw [ec0, g0, ec1, g1, zc]; rfl, w0, w1⟩
theorem mk_Span {w : World} {y0 y1 : Int} (w0 : (Lit.int .i64 y0).wf = true) (w1 : (Lit.int .i64 y1).wf = true) : shSpan.Ow w [] (y0, y1, ()) [.int .i64 y0, .int .i64 y1] :=
  ⟨[], [], [.int .i64 y0], [.int .i64 y1], rfl, rfl, ⟨rfl, rfl, w0⟩, ⟨[], [], [.int .i64 y1], [], rfl, rfl, ⟨rfl, rfl, w1⟩, ⟨rfl, rfl⟩⟩⟩

def wtSpan (x : DSpan) : Nat := 2
def mkSpan (c : Int) (x : DSpan) : DSpan := (c, c + 1, ())
theorem wtSpan_sum : ∀ (l : List DSpan), fsum wtSpan l = 2 * l.length
  | [] => rfl
  | x :: l => by rw [fsum_cons, wtSpan_sum l, List.length_cons]; show 2 + 2 * l.length = _; omega


end Go.Proofs.Ytioehciabgdbaaa
