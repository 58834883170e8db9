/- What the law's own helpers (measure, copy, compare) make of values of type Flight and slices of them; no condition but that there are at most a million parts. Written by hl.py. -/
import Derived.Test.YtebgibjokljlbaaRows
import Derived.Deep.DeepCutAuto
import Derived.Deep.RegionHeld3
import Derived.WalkSmall
import Derived.Maps.AppendAt
import Derived.Test.YtebgibjokljlbaaS01
namespace Go.Proofs.Ytebgibjokljlbaa
open Go.RowKit
set_option linter.unusedVariables false
abbrev shFlight : Sh := .cons (.int .i64) (.cons (.int .i64) (.cons u8s (.cons (.int .i64) (.cons (.int .i64) (.nil)))))
abbrev DFlight : Type := Int × Int × List Int × Int × Int × Unit
def totFlight (x : DFlight) : Nat := x.2.2.1.length
theorem rd_Flight {w : World} {B : Nat} {x : DFlight} {cs : List Value} (h : shFlight.Rd w B x cs) : ∃ v, cs = [.int .i64 x.1, .int .i64 x.2.1, v, .int .i64 x.2.2.2.1, .int .i64 x.2.2.2.2.1] ∧ u8s.Rd w B x.2.2.1 [v] ∧ (Lit.int .i64 x.1).wf = true ∧ (Lit.int .i64 x.2.1).wf = true ∧ (Lit.int .i64 x.2.2.2.1).wf = true ∧ (Lit.int .i64 x.2.2.2.2.1).wf = true := by
  obtain ⟨p0, q0, e0, ⟨g0, w0⟩, p1, q1, e1, ⟨g1, w1⟩, p2, q2, e2, h2, p3, q3, e3, ⟨g3, w3⟩, p4, q4, e4, ⟨g4, w4⟩, hz⟩ := h
  have hz' : q4 = [] := hz
  have l := Sh.Rd.len _ _ _ h2
  replace l : p2.length = 1 := l
  match p2, l, h2 with
  | [v], _, h2 =>
    refine ⟨v, ?_, h2, w0, w1, w3, w4⟩
    rw [e0, g0, e1, g1, e2, e3, g3, e4, g4, hz']
    rfl
abbrev shFlights : Sh := .row 118 shFlight
def totFlights (l : List DFlight) : Nat := l.length + fsum totFlight l
theorem at_Flights {w : World} {B : Nat} {l : List DFlight} {a : Option Addr} {n cap : Nat} (h : shFlights.Rd w B l [.slice a n cap]) (k : Nat) (hk : k < l.length) : ∃ b off v, a = some ⟨b, off, none⟩ ∧ b < B ∧ w.cell? ⟨b, off + k * 5, none⟩ = some (.int .i64 l[k].1) ∧ w.cell? ⟨b, off + k * 5 + 1, none⟩ = some (.int .i64 l[k].2.1) ∧ w.cell? ⟨b, off + k * 5 + 2, none⟩ = some (v) ∧ w.cell? ⟨b, off + k * 5 + 3, none⟩ = some (.int .i64 l[k].2.2.2.1) ∧ w.cell? ⟨b, off + k * 5 + 4, none⟩ = some (.int .i64 l[k].2.2.2.2.1) ∧ shFlight.Rd w B l[k] [.int .i64 l[k].1, .int .i64 l[k].2.1, v, .int .i64 l[k].2.2.2.1, .int .i64 l[k].2.2.2.2.1] := by
  obtain ⟨a', cap', h1, h2, h3, b, off, h4, h5⟩ := h
  simp only [List.cons.injEq, Value.slice.injEq, and_true] at h1
  obtain ⟨rfl, -, -⟩ := h1
  obtain ⟨ea, hb⟩ := h4 (by intro e; subst e; simp at hk)
  obtain ⟨cs', g1, g2, g3⟩ := h5 k hk
  obtain ⟨v, e, -⟩ := rd_Flight g3
  subst e
  refine ⟨b, off, v, ea, hb, ?_, ?_, ?_, ?_, ?_, g3⟩
  · have := g2 0 (by decide); simpa [Sh.sz] using this
  · have := g2 1 (by decide); simpa [Sh.sz] using this
  · have := g2 2 (by decide); simpa [Sh.sz] using this
  · have := g2 3 (by decide); simpa [Sh.sz] using this
  · have := g2 4 (by decide); simpa [Sh.sz] using this
end Go.Proofs.Ytebgibjokljlbaa
namespace Go.Proofs.Ytebgibjokljlbaa
open Go.RowKit
set_option linter.unusedVariables false
abbrev shSender : Sh := .cons (.int .i64) (.cons (.int .i64) (.cons (.int .i64) (.cons shFlights (.nil))))
abbrev DSender : Type := Int × Int × Int × (List DFlight) × Unit
def totSender (x : DSender) : Nat := totFlights x.2.2.2.1
theorem rd_Sender {w : World} {B : Nat} {x : DSender} {cs : List Value} (h : shSender.Rd w B x cs) : ∃ v, cs = [.int .i64 x.1, .int .i64 x.2.1, .int .i64 x.2.2.1, v] ∧ shFlights.Rd w B x.2.2.2.1 [v] ∧ (Lit.int .i64 x.1).wf = true ∧ (Lit.int .i64 x.2.1).wf = true ∧ (Lit.int .i64 x.2.2.1).wf = true := by
  obtain ⟨p0, q0, e0, ⟨g0, w0⟩, p1, q1, e1, ⟨g1, w1⟩, p2, q2, e2, ⟨g2, w2⟩, p3, q3, e3, h3, hz⟩ := h
  have hz' : q3 = [] := hz
  have l := Sh.Rd.len _ _ _ h3
  replace l : p3.length = 1 := l
  match p3, l, h3 with
  | [v], _, h3 =>
    refine ⟨v, ?_, h3, w0, w1, w2⟩
    rw [e0, g0, e1, g1, e2, g2, e3, hz']
    rfl
end Go.Proofs.Ytebgibjokljlbaa
namespace Go.Proofs.Ytebgibjokljlbaa
open Go.RowKit
set_option linter.unusedVariables false
abbrev shSpan : Sh := .cons (.int .i64) (.cons (.int .i64) .nil)
abbrev DSpan : Type := Int × Int × Unit
abbrev shSpans : Sh := .row 172 shSpan
def totSpans (l : List DSpan) : Nat := l.length
theorem rd_Span {w : World} {B : Nat} {x : DSpan} {cs : List Value} (h : shSpan.Rd w B x cs) : cs = [.int .i64 x.1, .int .i64 x.2.1] ∧ (Lit.int .i64 x.1).wf = true ∧ (Lit.int .i64 x.2.1).wf = true := by
  obtain ⟨p0, q0, e0, ⟨g0, w0⟩, p1, q1, e1, ⟨g1, w1⟩, hz⟩ := h
  have hz' : q1 = [] := hz
  refine ⟨?_, w0, w1⟩
  rw [e0, g0, e1, g1, hz']
  rfl
theorem at_Spans {w : World} {B : Nat} {l : List DSpan} {a : Option Addr} {n cap : Nat} (h : shSpans.Rd w B l [.slice a n cap]) (k : Nat) (hk : k < l.length) : ∃ b off, a = some ⟨b, off, none⟩ ∧ b < B ∧ w.cell? ⟨b, off + k * 2, none⟩ = some (.int .i64 l[k].1) ∧ w.cell? ⟨b, off + k * 2 + 1, none⟩ = some (.int .i64 l[k].2.1) ∧ (Lit.int .i64 l[k].1).wf = true ∧ (Lit.int .i64 l[k].2.1).wf = true := by
  obtain ⟨a', cap', h1, h2, h3, b, off, h4, h5⟩ := h
  simp only [List.cons.injEq, Value.slice.injEq, and_true] at h1
  obtain ⟨rfl, -, -⟩ := h1
  obtain ⟨ea, hb⟩ := h4 (by intro e; subst e; simp at hk)
  obtain ⟨cs', g1, g2, g3⟩ := h5 k hk
  obtain ⟨e, w0, w1⟩ := rd_Span g3
  subst e
  refine ⟨b, off, ea, hb, ?_, ?_, w0, w1⟩
  · have := g2 0 (by decide); simpa [Sh.sz] using this
  · have := g2 1 (by decide); simpa [Sh.sz] using this
theorem info_Span : (Try.prog.info? 172).map (fun i => (i.zero, i.size, i.bytes)) = some (some (.agg #[.int .i64 0, .int .i64 0]), 2, 16) := by kernel_rfl
end Go.Proofs.Ytebgibjokljlbaa
namespace Go.Proofs.Ytebgibjokljlbaa
open Go.RowKit
set_option linter.unusedVariables false
abbrev shCatch : Sh := .cons (.int .i64) (.cons (.int .i64) (.cons shSpans (.nil)))
abbrev DCatch : Type := Int × Int × (List DSpan) × Unit
def totCatch (x : DCatch) : Nat := totSpans x.2.2.1
theorem rd_Catch {w : World} {B : Nat} {x : DCatch} {cs : List Value} (h : shCatch.Rd w B x cs) : ∃ v, cs = [.int .i64 x.1, .int .i64 x.2.1, v] ∧ shSpans.Rd w B x.2.2.1 [v] ∧ (Lit.int .i64 x.1).wf = true ∧ (Lit.int .i64 x.2.1).wf = true := by
  obtain ⟨p0, q0, e0, ⟨g0, w0⟩, p1, q1, e1, ⟨g1, w1⟩, p2, q2, e2, h2, hz⟩ := h
  have hz' : q2 = [] := hz
  have l := Sh.Rd.len _ _ _ h2
  replace l : p2.length = 1 := l
  match p2, l, h2 with
  | [v], _, h2 =>
    refine ⟨v, ?_, h2, w0, w1⟩
    rw [e0, g0, e1, g1, e2, hz']
    rfl
end Go.Proofs.Ytebgibjokljlbaa
namespace Go.Proofs.Ytebgibjokljlbaa
open Go.RowKit
set_option linter.unusedVariables false
theorem Sh.Ow.one {w : World} : ∀ (s : Sh) (bs : List Nat) (d : s.El) (cs : List Value), s.Ow w bs d cs → ∀ u ∈ cs, u.oneCell' = true
  | .int _, _, _, _, h => by rw [h.2.1]; intro u hu; simp at hu; subst hu; rfl
  | .bool, _, _, _, h => by rw [h.2]; intro u hu; simp at hu; subst hu; rfl
  | .row _ e, _, l, cs, h => by
    rcases h with h | ⟨g, cap, cur, F, h1, _⟩
    · rw [h.2.1]; intro u hu; simp at hu; subst hu; rfl
    · rw [h1]; intro u hu; simp at hu; subst hu; rfl
  | .rowO _ e, _, l, cs, h => by
    rcases h with ⟨_, _, a, cap, h1, _⟩ | ⟨g, off, cap, cur, F, h1, _⟩
    · rw [h1]; intro u hu; simp at hu; subst hu; rfl
    · rw [h1]; intro u hu; simp at hu; subst hu; rfl
  | .nil, _, _, _, h => by rw [h.2]; simp
  | .cons f r, _, d, cs, ⟨b1, b2, c1, c2, _, h1, h2, h3⟩ => by
    rw [h1]
    intro u hu
    rcases List.mem_append.1 hu with hu | hu
    · exact Sh.Ow.one f _ _ _ h2 u hu
    · exact Sh.Ow.one r _ _ _ h3 u hu
theorem cells_new (w : World) (cs : List Value) (t : TypeId) : ∀ j u, cs[j]? = some u → (w.alloc (.cells cs.toArray t)).cell? ((⟨w.heap.size, 0, none⟩ : Addr).add j) = some u := by
  intro j u hj
  rw [add_none]
  simp [hj]
theorem chunk_app_lt {xs ys : List Value} {sz n i : Nat} (hx : xs.length = n * sz) (hi : i < n) : chunk (xs ++ ys) sz i = chunk xs sz i := by
  have hle : i * sz + sz ≤ n * sz := by rw [← Nat.succ_mul]; exact Nat.mul_le_mul_right _ hi
  refine chunk_ext fun k hk => ?_
  rw [List.getElem?_append_left (by omega)]
theorem chunk_app_eq {xs ys : List Value} {sz n : Nat} (hx : xs.length = n * sz) (hy : ys.length = sz) : chunk (xs ++ ys) sz n = ys := by
  unfold chunk
  rw [List.drop_append_of_le_length (by omega), List.drop_of_length_le (by omega), List.nil_append, List.take_of_length_le (by omega)]
theorem run_app_elem (T t : TypeId) (e : Sh) (z : Value) (bytes : Nat) (hT : Try.prog.underlying T = some (.slice t)) (hinfo : (Try.prog.info? t).map (fun i => (i.zero, i.size, i.bytes)) = some (some z, e.sz, bytes)) (hzs : z.cells.size = e.sz) (hsz : 0 < e.sz) (hby : bytes ≤ 1000) (ty : TypeId)
    (w : World) (lo hi lo2 hi2 : Nat) (l : List e.El) (v : Value) (h : Own w lo hi (.row t e) l [v]) (d : e.El) (cs : List Value) (hd : Own w lo2 hi2 e d cs) (h1 : lo ≤ hi) (h2 : hi ≤ lo2) (h3 : hi2 ≤ w.heap.size) (hn : l.length ≤ 1048576) (hlo : lo ≤ w.heap.size) :
    ∃ v' w', (Builtin.append_ #[T, T] ty #[v, .slice (some ⟨w.heap.size, 0, none⟩) 1 1]).run Try.prog (w.alloc (.cells cs.toArray t)) = .ok v' w' ∧ Own w' lo w'.heap.size (.row t e) (l ++ [d]) [v'] ∧ Below lo w w' ∧
      (∀ b, b < w.heap.size → v.ownBlock ≠ some b → w'.heap[b]? = w.heap[b]?) ∧ w.heap.size < w'.heap.size := by
  obtain ⟨i0, hi0, hz0, hz1, hz2⟩ := info_parts hinfo
  obtain ⟨v0, xs, F, e1, ho, hF, hnd, hb, hel, hv⟩ := h.row_to
  simp only [List.cons.injEq, and_true] at e1
  subst e1
  obtain ⟨bs, d1, d2, d3⟩ := hd
  have hlen : cs.length = e.sz := Sh.Ow.len _ _ _ _ d1
  obtain ⟨v', w', hrun, r1, r2, _, r4⟩ := run_append_own_at (P := Try.prog) (w.alloc (.cells cs.toArray t)) lo T ty t i0 z e.sz bytes hT hi0 hz0 hz1 hz2 hzs hsz v l.length xs (ho.alloc _) ⟨w.heap.size, 0, none⟩ 1 1 cs (by rw [hlen]; omega) (cells_new w cs t) (Sh.Ow.one _ _ _ _ d1) (by unfold maxLen; omega)
    (by have : (l.length + 1) * bytes ≤ (l.length + 1) * 1000 := Nat.mul_le_mul_left _ hby
        omega) (by simp; omega)
  have hkeep : ∀ b, b < w.heap.size → v.ownBlock ≠ some b → w'.heap[b]? = w.heap[b]? := fun b hb' hne => by
    rw [r2.block b (by simp; omega) (fun e => hne e.symm)]
    exact (World.grownBy_alloc w _ none).block b hb' (by simp)
  have hsize : w.heap.size < w'.heap.size := by have := r2.size; simp at this; omega
  refine ⟨v', w', hrun, ?_, ?_, hkeep, hsize⟩
  · have hvb : ∀ b ∈ F.flatten ++ bs, lo ≤ b ∧ b < w.heap.size ∧ v.ownBlock ≠ some b := by
      intro b hm
      rcases List.mem_append.1 hm with hm | hm
      · obtain ⟨i, hi', hbi⟩ := mem_flatten_getD hm
        exact ⟨(hb b hm).1, Sh.Ow.lt _ _ _ _ (hel i (by omega)) b hbi, (hb b hm).2.2⟩
      · have := d3 b hm
        refine ⟨by omega, by omega, fun e => ?_⟩
        have := hv b e; omega
    have hfl : (F ++ [bs]).flatten = F.flatten ++ bs := by simp
    refine Own.row_of (l := l ++ [d]) (xs := xs ++ cs) (by simpa using r1) (fun b hbv => ?_) (F ++ [bs]) (by simp [hF]) ?_ ?_ (fun i hi' => ?_)
    · rcases r4 with r4 | r4
      · have hbw := (ho.lt b (r4 ▸ hbv)).2; omega
      · rw [r4] at hbv; simp at hbv
        have := (r1.lt b (by rw [r4]; simp [hbv])).2
        omega
    · rw [hfl, List.nodup_append]
      refine ⟨hnd, d2, fun a ha b hb' e => ?_⟩
      have := (hb a ha).2.1; have := (d3 b hb').1; omega
    · rw [hfl]
      intro b hm
      obtain ⟨g1, g2, g3⟩ := hvb b hm
      refine ⟨g1, by omega, fun e => ?_⟩
      rcases r4 with r4 | r4
      · exact g3 (r4 ▸ e)
      · rw [r4] at e; simp at e; omega
    · have hi2' : i < l.length + 1 := by simpa using hi'
      have hgd : (F ++ [bs]).getD i [] = if i < l.length then F.getD i [] else bs := by
        simp only [List.getD_eq_getElem?_getD]
        split
        · rw [List.getElem?_append_left (by omega)]
        · rw [List.getElem?_append_right (by omega), show i - F.length = 0 by omega]; rfl
      rw [hgd]
      by_cases hlt : i < l.length
      · rw [if_pos hlt, chunk_app_lt ho.1 hlt, List.getElem_append_left hlt]
        refine Sh.Ow.keep _ _ _ _ (fun b hbm => ?_) (hel i hlt)
        obtain ⟨g1, g2, g3⟩ := hvb b (List.mem_append_left _ (getD_mem_flatten hbm))
        exact hkeep b g2 g3
      · have hie : i = l.length := by omega
        subst hie
        rw [if_neg hlt, chunk_app_eq ho.1 hlen, List.getElem_append_right (Nat.le_refl _)]
        simp only [Nat.sub_self, List.getElem_cons_zero]
        refine Sh.Ow.keep _ _ _ _ (fun b hbm => ?_) d1
        obtain ⟨g1, g2, g3⟩ := hvb b (List.mem_append_right _ hbm)
        exact hkeep b g2 g3
  · refine ⟨r2.os.trans rfl, r2.tape.trans rfl, r2.output.trans rfl, by omega, fun k hk => hkeep k (by omega) fun e => ?_⟩
    have := (ho.lt k e).1; omega
theorem app_elem {ops : Array Oper} {rest : List Oper} {o : Oper} {a : Act} {Q : Exit → Act → World → Prop} (w : World) (hgd : o.guard = none) (s x : Operand) (T t : TypeId) (ho : o.op = .call { callee := .builtin .append, args := #[s, x], argTypes := #[T, T] })
    (e : Sh) (z : Value) (bytes : Nat) (hT : Try.prog.underlying T = some (.slice t)) (hinfo : (Try.prog.info? t).map (fun i => (i.zero, i.size, i.bytes)) = some (some z, e.sz, bytes)) (hzs : z.cells.size = e.sz) (hsz : 0 < e.sz) (hby : bytes ≤ 1000)
    (lo hi lo2 hi2 : Nat) (l : List e.El) (v : Value) (hs : a.eval s = v) (hx : a.eval x = .slice (some ⟨w.heap.size, 0, none⟩) 1 1) (h : Own w lo hi (.row t e) l [v]) (d : e.El) (cs : List Value) (hd : Own w lo2 hi2 e d cs) (h1 : lo ≤ hi) (h2 : hi ≤ lo2) (h3 : hi2 ≤ w.heap.size) (hn : l.length ≤ 1048576) (hlo : lo ≤ w.heap.size)
    (hK : ∀ v' w', Own w' lo w'.heap.size (.row t e) (l ++ [d]) [v'] → Below lo w w' → (∀ b, b < w.heap.size → v.ownBlock ≠ some b → w'.heap[b]? = w.heap[b]?) → w.heap.size < w'.heap.size → wpList Try.prog ops Q rest (a.put o.dst v') w') :
    wpList Try.prog ops Q (o :: rest) a (w.alloc (.cells cs.toArray t)) := by
  obtain ⟨v', w', hrun, r1, r2, r3, r4⟩ := run_app_elem T t e z bytes hT hinfo hzs hsz hby o.type w lo hi lo2 hi2 l v h d cs hd h1 h2 h3 hn hlo
  refine wpList_plain hgd fun K hK' => ?_
  unfold Oper.wp execOp
  simp only [ho, resolve, invoke, builtin, Sem.run_bind, Sem.run_pure, Result.andThen_ok, List.map_toArray, List.map_cons, List.map_nil, hs, hx, hrun]
  exact hK' _ _ (hK v' w' r1 r2 r3 r4)
theorem app_elem_at {ops : Array Oper} {rest : List Oper} {o : Oper} {a : Act} {Q : Exit → Act → World → Prop} (w : World) (H : Nat) (hH : H = w.heap.size) (hgd : o.guard = none) (s x : Operand) (T t : TypeId) (ho : o.op = .call { callee := .builtin .append, args := #[s, x], argTypes := #[T, T] })
    (e : Sh) (z : Value) (bytes : Nat) (hT : Try.prog.underlying T = some (.slice t)) (hinfo : (Try.prog.info? t).map (fun i => (i.zero, i.size, i.bytes)) = some (some z, e.sz, bytes)) (hzs : z.cells.size = e.sz) (hsz : 0 < e.sz) (hby : bytes ≤ 1000)
    (lo hi lo2 hi2 : Nat) (l : List e.El) (v : Value) (hs : a.eval s = v) (hx : a.eval x = .slice (some ⟨H, 0, none⟩) 1 1) (h : Own w lo hi (.row t e) l [v]) (d : e.El) (cs : List Value) (hd : Own w lo2 hi2 e d cs) (h1 : lo ≤ hi) (h2 : hi ≤ lo2) (h3 : hi2 ≤ w.heap.size) (hn : l.length ≤ 1048576) (hlo : lo ≤ w.heap.size)
    (hK : ∀ v' w', Own w' lo w'.heap.size (.row t e) (l ++ [d]) [v'] → Below lo w w' → (∀ b, b < w.heap.size → v.ownBlock ≠ some b → w'.heap[b]? = w.heap[b]?) → w.heap.size < w'.heap.size → wpList Try.prog ops Q rest (a.put o.dst v') w') :
    wpList Try.prog ops Q (o :: rest) a (w.alloc (.cells cs.toArray t)) := by
  subst hH
  exact app_elem w hgd s x T t ho e z bytes hT hinfo hzs hsz hby lo hi lo2 hi2 l v hs hx h d cs hd h1 h2 h3 hn hlo hK
theorem app_elem_st {ops : Array Oper} {o : Oper} {a : Act} {Q : Exit → Act → World → Prop} {K : Act → World → Prop} {E : Prop} (w : World) (hgd : o.guard = none) (s x : Operand) (T t : TypeId) (ho : o.op = .call { callee := .builtin .append, args := #[s, x], argTypes := #[T, T] })
    (e : Sh) (z : Value) (bytes : Nat) (hT : Try.prog.underlying T = some (.slice t)) (hinfo : (Try.prog.info? t).map (fun i => (i.zero, i.size, i.bytes)) = some (some z, e.sz, bytes)) (hzs : z.cells.size = e.sz) (hsz : 0 < e.sz) (hby : bytes ≤ 1000)
    (lo hi lo2 hi2 : Nat) (l : List e.El) (v : Value) (hs : a.eval s = v) (nb : Nat) (hnb : nb = w.heap.size) (hx : a.eval x = .slice (some ⟨nb, 0, none⟩) 1 1) (h : Own w lo hi (.row t e) l [v]) (d : e.El) (cs : List Value) (hd : Own w lo2 hi2 e d cs) (h1 : lo ≤ hi) (h2 : hi ≤ lo2) (h3 : hi2 ≤ w.heap.size) (hn : l.length ≤ 1048576) (hlo : lo ≤ w.heap.size)
    (hK : ∀ v' w', Own w' lo w'.heap.size (.row t e) (l ++ [d]) [v'] → Below lo w w' → (∀ b, b < w.heap.size → v.ownBlock ≠ some b → w'.heap[b]? = w.heap[b]?) → w.heap.size < w'.heap.size → K (a.put o.dst v') w') :
    if Region.wanted o (yielded ops a.tmps) = true then Oper.wp Try.prog o a (w.alloc (.cells cs.toArray t)) K Q else E := by
  subst hnb
  have hw : Region.wanted o (yielded ops a.tmps) = true := by simp [Region.wanted, hgd]
  rw [if_pos hw]
  obtain ⟨v', w', hrun, r1, r2, r3, r4⟩ := run_app_elem T t e z bytes hT hinfo hzs hsz hby o.type w lo hi lo2 hi2 l v h d cs hd h1 h2 h3 hn hlo
  unfold Oper.wp execOp
  simp only [ho, resolve, invoke, builtin, Sem.run_bind, Sem.run_pure, Result.andThen_ok, List.map_toArray, List.map_cons, List.map_nil, hs, hx, hrun]
  exact hK v' w' r1 r2 r3 r4
end Go.Proofs.Ytebgibjokljlbaa
namespace Go.Proofs.Ytebgibjokljlbaa
open Go.RowKit
set_option linter.unusedVariables false
structure Within (lo hi : Nat) (w w' : World) : Prop where
  os : w'.os = w.os
  tape : w'.tape = w.tape
  output : w'.output = w.output
  size : w.heap.size ≤ w'.heap.size
  block : ∀ b, b < w.heap.size → ¬ (lo ≤ b ∧ b < hi) → w'.heap[b]? = w.heap[b]?
theorem Within.refl (lo hi : Nat) (w : World) : Within lo hi w w := ⟨rfl, rfl, rfl, Nat.le_refl _, fun _ _ _ => rfl⟩
theorem Within.trans {lo hi : Nat} {a b c : World} (h : Within lo hi a b) (k : Within lo hi b c) : Within lo hi a c :=
  ⟨k.os.trans h.os, k.tape.trans h.tape, k.output.trans h.output, Nat.le_trans h.size k.size, fun x hx hn => (k.block x (Nat.lt_of_lt_of_le hx h.size) hn).trans (h.block x hx hn)⟩
theorem Within.below {lo hi : Nat} {a b : World} (h : Below a.heap.size a b) : Within lo hi a b := ⟨h.os, h.tape, h.output, h.size, fun x hx _ => h.block x hx⟩
theorem Within.grown {lo hi : Nat} {a b : World} {g : Option Nat} (h : a.grownBy b g) (hg : ∀ x, g = some x → lo ≤ x ∧ x < hi) : Within lo hi a b :=
  ⟨h.os, h.tape, h.output, h.size, fun x hx hn => h.block x hx fun e => hn (hg x e.symm)⟩
theorem Within.mono {lo hi lo' hi' : Nat} {a b : World} (h : Within lo hi a b) (h1 : lo' ≤ lo) (h2 : hi ≤ hi') : Within lo' hi' a b :=
  ⟨h.os, h.tape, h.output, h.size, fun x hx hn => h.block x hx fun e => hn ⟨by omega, by omega⟩⟩
structure Touch (bs : List Nat) (w w' : World) : Prop where
  os : w'.os = w.os
  tape : w'.tape = w.tape
  output : w'.output = w.output
  size : w.heap.size ≤ w'.heap.size
  block : ∀ b, b < w.heap.size → b ∉ bs → w'.heap[b]? = w.heap[b]?
theorem Touch.refl (bs : List Nat) (w : World) : Touch bs w w := ⟨rfl, rfl, rfl, Nat.le_refl _, fun _ _ _ => rfl⟩
theorem Touch.trans {bs : List Nat} {a b c : World} (h : Touch bs a b) (k : Touch bs b c) : Touch bs a c :=
  ⟨k.os.trans h.os, k.tape.trans h.tape, k.output.trans h.output, Nat.le_trans h.size k.size, fun x hx hn => (k.block x (Nat.lt_of_lt_of_le hx h.size) hn).trans (h.block x hx hn)⟩
theorem Touch.mono {bs bs' : List Nat} {a b : World} (h : Touch bs a b) (hs : ∀ x ∈ bs, x ∈ bs') : Touch bs' a b := ⟨h.os, h.tape, h.output, h.size, fun x hx hn => h.block x hx fun hm => hn (hs x hm)⟩
theorem Touch.grown {bs : List Nat} {a b : World} {g : Option Nat} (h : a.grownBy b g) (hg : ∀ x, g = some x → x ∈ bs) : Touch bs a b :=
  ⟨h.os, h.tape, h.output, h.size, fun x hx hn => h.block x hx fun e => hn (hg x e.symm)⟩
theorem Touch.below {bs : List Nat} {a b : World} (h : Below a.heap.size a b) : Touch bs a b := ⟨h.os, h.tape, h.output, h.size, fun x hx _ => h.block x hx⟩
theorem heap_set {w : World} {g off : Nat} {cur : Array Value} {v : Value} {t : TypeId} (h : w.heap[g]? = some (.cells cur t (0, 0))) : (w.setCell ⟨g, off, none⟩ v).heap[g]? = some (.cells (cur.setIfInBounds off v) t (0, 0)) := heap_setCell_same w g off cur _ _ h
end Go.Proofs.Ytebgibjokljlbaa
namespace Go.Proofs.Ytebgibjokljlbaa
open Go.RowKit
set_option linter.unusedVariables false
theorem ow_Flight {w : World} {bs : List Nat} {x : DFlight} {cs : List Value} (h : shFlight.Ow w bs x cs) : ∃ v, cs = [.int .i64 x.1, .int .i64 x.2.1, v, .int .i64 x.2.2.2.1, .int .i64 x.2.2.2.2.1] ∧ u8s.Ow w bs x.2.2.1 [v] ∧ (Lit.int .i64 x.1).wf = true ∧ (Lit.int .i64 x.2.1).wf = true ∧ (Lit.int .i64 x.2.2.2.1).wf = true ∧ (Lit.int .i64 x.2.2.2.2.1).wf = true := by
  obtain ⟨a0, r0, p0, q0, eb0, ec0, ⟨f0, g0, w0⟩, a1, r1, p1, q1, eb1, ec1, ⟨f1, g1, w1⟩, a2, r2, p2, q2, eb2, ec2, h2, a3, r3, p3, q3, eb3, ec3, ⟨f3, g3, w3⟩, a4, r4, p4, q4, eb4, ec4, ⟨f4, g4, w4⟩, zb, zc⟩ := h
  have l := Sh.Ow.len _ _ _ _ h2
  replace l : p2.length = 1 := l
  match p2, l, h2 with
  | [v], _, h2 =>
    have hb : bs = a2 := by rw [eb0, f0, eb1, f1, eb2, eb3, f3, eb4, f4, zb]; simp
    refine ⟨v, by rw [ec0, g0, ec1, g1, ec2, ec3, g3, ec4, g4, zc]; rfl, by rw [hb]; exact h2, w0, w1, w3, w4⟩
end Go.Proofs.Ytebgibjokljlbaa
namespace Go.Proofs.Ytebgibjokljlbaa
open Go.RowKit
set_option linter.unusedVariables false
theorem ow_Sender {w : World} {bs : List Nat} {x : DSender} {cs : List Value} (h : shSender.Ow w bs x cs) : ∃ v, cs = [.int .i64 x.1, .int .i64 x.2.1, .int .i64 x.2.2.1, v] ∧ shFlights.Ow w bs x.2.2.2.1 [v] ∧ (Lit.int .i64 x.1).wf = true ∧ (Lit.int .i64 x.2.1).wf = true ∧ (Lit.int .i64 x.2.2.1).wf = true := by
  obtain ⟨a0, r0, p0, q0, eb0, ec0, ⟨f0, g0, w0⟩, a1, r1, p1, q1, eb1, ec1, ⟨f1, g1, w1⟩, a2, r2, p2, q2, eb2, ec2, ⟨f2, g2, w2⟩, a3, r3, p3, q3, eb3, ec3, h3, zb, zc⟩ := h
  have l := Sh.Ow.len _ _ _ _ h3
  replace l : p3.length = 1 := l
  match p3, l, h3 with
  | [v], _, h3 =>
    have hb : bs = a3 := by rw [eb0, f0, eb1, f1, eb2, f2, eb3, zb]; simp
    refine ⟨v, by rw [ec0, g0, ec1, g1, ec2, g2, ec3, zc]; rfl, by rw [hb]; exact h3, w0, w1, w2⟩
end Go.Proofs.Ytebgibjokljlbaa
namespace Go.Proofs.Ytebgibjokljlbaa
open Go.RowKit
set_option linter.unusedVariables false
theorem row_formO {w : World} {B : Nat} {t : TypeId} {e : Sh} {l : List e.El} {cs : List Value} (h : (Sh.rowO t e).Rd w B l cs) : ∃ a cap, cs = [.slice a l.length cap] := by
  obtain ⟨a, cap, h1, _⟩ := h; exact ⟨a, cap, h1⟩
abbrev shSpansO : Sh := .rowO 172 shSpan
theorem rdO_Spans {w : World} {B : Nat} {l : List DSpan} {cs : List Value} (h : shSpansO.Rd w B l cs) : shSpans.Rd w B l cs := h
theorem mk_Span {w : World} {y0 y1 : Int} (w0 : (Lit.int .i64 y0).wf = true) (w1 : (Lit.int .i64 y1).wf = true) : shSpan.Ow w [] (y0, y1, ()) [.int .i64 y0, .int .i64 y1] :=
  ⟨[], [], [.int .i64 y0], [.int .i64 y1], rfl, rfl, ⟨rfl, rfl, w0⟩, ⟨[], [], [.int .i64 y1], [], rfl, rfl, ⟨rfl, rfl, w1⟩, ⟨rfl, rfl⟩⟩⟩
end Go.Proofs.Ytebgibjokljlbaa
namespace Go.Proofs.Ytebgibjokljlbaa
open Go.RowKit
set_option linter.unusedVariables false
abbrev shCatchO : Sh := .cons (.int .i64) (.cons (.int .i64) (.cons shSpansO .nil))
theorem rdO_Catch {w : World} {B : Nat} {x : DCatch} {cs : List Value} (h : shCatchO.Rd w B x cs) : shCatch.Rd w B x cs := h
theorem rd_CatchO {w : World} {B : Nat} {x : DCatch} {cs : List Value} (h : shCatchO.Rd w B x cs) : ∃ v, cs = [.int .i64 x.1, .int .i64 x.2.1, v] ∧ shSpansO.Rd w B x.2.2.1 [v] ∧ (Lit.int .i64 x.1).wf = true ∧ (Lit.int .i64 x.2.1).wf = true := by
  obtain ⟨v, h1, h2, h3⟩ := rd_Catch (rdO_Catch h)
  exact ⟨v, h1, h2, h3⟩
theorem mk_Catch {w : World} {bs : List Nat} {y0 y1 : Int} {d : List DSpan} {v : Value} (h : shSpansO.Ow w bs d [v]) (w0 : (Lit.int .i64 y0).wf = true) (w1 : (Lit.int .i64 y1).wf = true) : shCatchO.Ow w bs (y0, y1, d, ()) [.int .i64 y0, .int .i64 y1, v] :=
  ⟨[], bs, [.int .i64 y0], [.int .i64 y1, v], rfl, rfl, ⟨rfl, rfl, w0⟩, ⟨[], bs, [.int .i64 y1], [v], rfl, rfl, ⟨rfl, rfl, w1⟩, ⟨bs, [], [v], [], by simp, rfl, h, ⟨rfl, rfl⟩⟩⟩⟩
end Go.Proofs.Ytebgibjokljlbaa
