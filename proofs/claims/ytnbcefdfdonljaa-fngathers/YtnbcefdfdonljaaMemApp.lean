/- One element appended to a row of structs that the call itself made: the row owns one element more; nothing else turns; no condition but that there are at most a million. -/
import Derived.Test.YtnbcefdfdonljaaRows
import Derived.Test.YtnbcefdfdonljaaBase
import Derived.Test.YtnbcefdfdonljaaBytes
import Derived.Test.YtnbcefdfdonljaaMem
import Derived.Test.YtnbcefdfdonljaaMemOpen
import Derived.Test.YtnbcefdfdonljaaMemRow
import Derived.WalkSmall
import Derived.Maps.AppendAt
namespace Go.Proofs.Ytnbcefdfdonljaa
open Go.RowKit
set_option linter.unusedVariables false

theorem Sh.Ow.one {w : World} : ∀ (s : Sh) (bs : List Nat) (d : s.El) (cs : List Value), s.Ow w bs d cs → ∀ u ∈ cs, u.oneCell' = true
  | .int _, _, _, _, h => by rw [h.2.1]; intro u hu; simp at hu; subst hu; rfl
  | .bool, _, _, _, h => by rw [h.2]; intro u hu; simp at hu; subst hu; rfl
  | .row _ e, _, l, cs, h => by
    rcases h with h | ⟨g, cap, cur, F, h1, _⟩
    · rw [h.2.1]; intro u hu; simp at hu; subst hu; rfl
    · rw [h1]; intro u hu; simp at hu; subst hu; rfl
  | .rowO _ e, _, l, cs, h => by
    rcases h with ⟨_, _, a, cap, h1, _⟩ | ⟨g, off, cap, cur, F, h1, _⟩
    · rw [h1]; intro u hu; simp at hu; subst hu; rfl
    · rw [h1]; intro u hu; simp at hu; subst hu; rfl
  | .nil, _, _, _, h => by rw [h.2]; simp
  | .cons f r, _, d, cs, ⟨b1, b2, c1, c2, _, h1, h2, h3⟩ => by
    rw [h1]
    intro u hu
    rcases List.mem_append.1 hu with hu | hu
    · exact Sh.Ow.one f _ _ _ h2 u hu
    · exact Sh.Ow.one r _ _ _ h3 u hu

theorem cells_new (w : World) (cs : List Value) (t : TypeId) : ∀ j u, cs[j]? = some u → (w.alloc (.cells cs.toArray t)).cell? ((⟨w.heap.size, 0, none⟩ : Addr).add j) = some u := by
  intro j u hj
  rw [add_none]
  simp [hj]

theorem chunk_app_lt {xs ys : List Value} {sz n i : Nat} (hx : xs.length = n * sz) (hi : i < n) : chunk (xs ++ ys) sz i = chunk xs sz i := by
  have hle : i * sz + sz ≤ n * sz := by rw [← Nat.succ_mul]; exact Nat.mul_le_mul_right _ hi
  refine chunk_ext fun k hk => ?_
  rw [List.getElem?_append_left (by omega)]
theorem chunk_app_eq {xs ys : List Value} {sz n : Nat} (hx : xs.length = n * sz) (hy : ys.length = sz) : chunk (xs ++ ys) sz n = ys := by
  unfold chunk
  rw [List.drop_append_of_le_length (by omega), List.drop_of_length_le (by omega), List.nil_append, List.take_of_length_le (by omega)]

/-- What an append of one element makes of the row. -/
theorem run_app_elem (T t : TypeId) (e : Sh) (z : Value) (bytes : Nat) (hT : Try.prog.underlying T = some (.slice t)) (hinfo : (Try.prog.info? t).map (fun i => (i.zero, i.size, i.bytes)) = some (some z, e.sz, bytes)) (hzs : z.cells.size = e.sz) (hsz : 0 < e.sz) (hby : bytes ≤ 1000) (ty : TypeId)
    (w : World) (lo hi lo2 hi2 : Nat) (l : List e.El) (v : Value) (h : Own w lo hi (.row t e) l [v]) (d : e.El) (cs : List Value) (hd : Own w lo2 hi2 e d cs) (h1 : lo ≤ hi) (h2 : hi ≤ lo2) (h3 : hi2 ≤ w.heap.size) (hn : l.length ≤ 1048576) (hlo : lo ≤ w.heap.size) :
    ∃ v' w', (Builtin.append_ #[T, T] ty #[v, .slice (some ⟨w.heap.size, 0, none⟩) 1 1]).run Try.prog (w.alloc (.cells cs.toArray t)) = .ok v' w' ∧ Own w' lo w'.heap.size (.row t e) (l ++ [d]) [v'] ∧ Below lo w w' ∧
      (∀ b, b < w.heap.size → v.ownBlock ≠ some b → w'.heap[b]? = w.heap[b]?) ∧ w.heap.size < w'.heap.size := by
  obtain ⟨i0, hi0, hz0, hz1, hz2⟩ := info_parts hinfo
  obtain ⟨v0, xs, F, e1, ho, hF, hnd, hb, hel, hv⟩ := h.row_to
  simp only [List.cons.injEq, and_true] at e1
  subst e1
  obtain ⟨bs, d1, d2, d3⟩ := hd
  have hlen : cs.length = e.sz := Sh.Ow.len _ _ _ _ d1
  obtain ⟨v', w', hrun, r1, r2, _, r4⟩ := run_append_own_at (P := Try.prog) (w.alloc (.cells cs.toArray t)) lo T ty t i0 z e.sz bytes hT hi0 hz0 hz1 hz2 hzs hsz v l.length xs (ho.alloc _) ⟨w.heap.size, 0, none⟩ 1 1 cs (by rw [hlen]; omega) (cells_new w cs t) (Sh.Ow.one _ _ _ _ d1) (by unfold maxLen; omega)
    (by have : (l.length + 1) * bytes ≤ (l.length + 1) * 1000 := Nat.mul_le_mul_left _ hby
        omega) (by simp; omega)
  have hkeep : ∀ b, b < w.heap.size → v.ownBlock ≠ some b → w'.heap[b]? = w.heap[b]? := fun b hb' hne => by
    rw [r2.block b (by simp; omega) (fun e => hne e.symm)]
    exact (World.grownBy_alloc w _ none).block b hb' (by simp)
  have hsize : w.heap.size < w'.heap.size := by have := r2.size; simp at this; omega
  refine ⟨v', w', hrun, ?_, ?_, hkeep, hsize⟩
  · have hvb : ∀ b ∈ F.flatten ++ bs, lo ≤ b ∧ b < w.heap.size ∧ v.ownBlock ≠ some b := by
      intro b hm
      rcases List.mem_append.1 hm with hm | hm
      · obtain ⟨i, hi', hbi⟩ := mem_flatten_getD hm
        exact ⟨(hb b hm).1, Sh.Ow.lt _ _ _ _ (hel i (by omega)) b hbi, (hb b hm).2.2⟩
      · have := d3 b hm
        refine ⟨by omega, by omega, fun e => ?_⟩
        have := hv b e; omega
    have hfl : (F ++ [bs]).flatten = F.flatten ++ bs := by simp
    refine Own.row_of (l := l ++ [d]) (xs := xs ++ cs) (by simpa using r1) (fun b hbv => ?_) (F ++ [bs]) (by simp [hF]) ?_ ?_ (fun i hi' => ?_)
    · rcases r4 with r4 | r4
      · have hbw := (ho.lt b (r4 ▸ hbv)).2; omega
      · rw [r4] at hbv; simp at hbv
        -- the new row lies behind the element's cells
        have := (r1.lt b (by rw [r4]; simp [hbv])).2
        omega
    · rw [hfl, List.nodup_append]
      refine ⟨hnd, d2, fun a ha b hb' e => ?_⟩
      have := (hb a ha).2.1; have := (d3 b hb').1; omega
    · rw [hfl]
      intro b hm
      obtain ⟨g1, g2, g3⟩ := hvb b hm
      refine ⟨g1, by omega, fun e => ?_⟩
      rcases r4 with r4 | r4
      · exact g3 (r4 ▸ e)
      · rw [r4] at e; simp at e; omega
    · have hi2' : i < l.length + 1 := by simpa using hi'
      have hgd : (F ++ [bs]).getD i [] = if i < l.length then F.getD i [] else bs := by
        simp only [List.getD_eq_getElem?_getD]
        split
        · rw [List.getElem?_append_left (by omega)]
        · rw [List.getElem?_append_right (by omega), show i - F.length = 0 by omega]; rfl
      rw [hgd]
      by_cases hlt : i < l.length
      · rw [if_pos hlt, chunk_app_lt ho.1 hlt, List.getElem_append_left hlt]
        refine Sh.Ow.keep _ _ _ _ (fun b hbm => ?_) (hel i hlt)
        obtain ⟨g1, g2, g3⟩ := hvb b (List.mem_append_left _ (getD_mem_flatten hbm))
        exact hkeep b g2 g3
      · have hie : i = l.length := by omega
        subst hie
        rw [if_neg hlt, chunk_app_eq ho.1 hlen, List.getElem_append_right (Nat.le_refl _)]
        simp only [Nat.sub_self, List.getElem_cons_zero]
        refine Sh.Ow.keep _ _ _ _ (fun b hbm => ?_) d1
        obtain ⟨g1, g2, g3⟩ := hvb b (List.mem_append_right _ hbm)
        exact hkeep b g2 g3
  · refine ⟨r2.os.trans rfl, r2.tape.trans rfl, r2.output.trans rfl, by omega, fun k hk => hkeep k (by omega) fun e => ?_⟩
    have := (ho.lt k e).1; omega

theorem app_elem {ops : Array Oper} {rest : List Oper} {o : Oper} {a : Act} {Q : Exit → Act → World → Prop} (w : World) (hgd : o.guard = none) (s x : Operand) (T t : TypeId) (ho : o.op = .call { callee := .builtin .append, args := #[s, x], argTypes := #[T, T] })
    (e : Sh) (z : Value) (bytes : Nat) (hT : Try.prog.underlying T = some (.slice t)) (hinfo : (Try.prog.info? t).map (fun i => (i.zero, i.size, i.bytes)) = some (some z, e.sz, bytes)) (hzs : z.cells.size = e.sz) (hsz : 0 < e.sz) (hby : bytes ≤ 1000)
    (lo hi lo2 hi2 : Nat) (l : List e.El) (v : Value) (hs : a.eval s = v) (hx : a.eval x = .slice (some ⟨w.heap.size, 0, none⟩) 1 1) (h : Own w lo hi (.row t e) l [v]) (d : e.El) (cs : List Value) (hd : Own w lo2 hi2 e d cs) (h1 : lo ≤ hi) (h2 : hi ≤ lo2) (h3 : hi2 ≤ w.heap.size) (hn : l.length ≤ 1048576) (hlo : lo ≤ w.heap.size)
    (hK : ∀ v' w', Own w' lo w'.heap.size (.row t e) (l ++ [d]) [v'] → Below lo w w' → (∀ b, b < w.heap.size → v.ownBlock ≠ some b → w'.heap[b]? = w.heap[b]?) → w.heap.size < w'.heap.size → wpList Try.prog ops Q rest (a.put o.dst v') w') :
    wpList Try.prog ops Q (o :: rest) a (w.alloc (.cells cs.toArray t)) := by
  obtain ⟨v', w', hrun, r1, r2, r3, r4⟩ := run_app_elem T t e z bytes hT hinfo hzs hsz hby o.type w lo hi lo2 hi2 l v h d cs hd h1 h2 h3 hn hlo
  refine wpList_plain hgd fun K hK' => ?_
  unfold Oper.wp execOp
  simp only [ho, resolve, invoke, builtin, Sem.run_bind, Sem.run_pure, Result.andThen_ok, List.map_toArray, List.map_cons, List.map_nil, hs, hx, hrun]
  exact hK' _ _ (hK v' w' r1 r2 r3 r4)

/-- The same, where the new element lies told by a letter. -/
theorem app_elem_at {ops : Array Oper} {rest : List Oper} {o : Oper} {a : Act} {Q : Exit → Act → World → Prop} (w : World) (H : Nat) (hH : H = w.heap.size) (hgd : o.guard = none) (s x : Operand) (T t : TypeId) (ho : o.op = .call { callee := .builtin .append, args := #[s, x], argTypes := #[T, T] })
    (e : Sh) (z : Value) (bytes : Nat) (hT : Try.prog.underlying T = some (.slice t)) (hinfo : (Try.prog.info? t).map (fun i => (i.zero, i.size, i.bytes)) = some (some z, e.sz, bytes)) (hzs : z.cells.size = e.sz) (hsz : 0 < e.sz) (hby : bytes ≤ 1000)
    (lo hi lo2 hi2 : Nat) (l : List e.El) (v : Value) (hs : a.eval s = v) (hx : a.eval x = .slice (some ⟨H, 0, none⟩) 1 1) (h : Own w lo hi (.row t e) l [v]) (d : e.El) (cs : List Value) (hd : Own w lo2 hi2 e d cs) (h1 : lo ≤ hi) (h2 : hi ≤ lo2) (h3 : hi2 ≤ w.heap.size) (hn : l.length ≤ 1048576) (hlo : lo ≤ w.heap.size)
    (hK : ∀ v' w', Own w' lo w'.heap.size (.row t e) (l ++ [d]) [v'] → Below lo w w' → (∀ b, b < w.heap.size → v.ownBlock ≠ some b → w'.heap[b]? = w.heap[b]?) → w.heap.size < w'.heap.size → wpList Try.prog ops Q rest (a.put o.dst v') w') :
    wpList Try.prog ops Q (o :: rest) a (w.alloc (.cells cs.toArray t)) := by
  subst hH
  exact app_elem w hgd s x T t ho e z bytes hT hinfo hzs hsz hby lo hi lo2 hi2 l v hs hx h d cs hd h1 h2 h3 hn hlo hK

theorem app_elem_st {ops : Array Oper} {o : Oper} {a : Act} {Q : Exit → Act → World → Prop} {K : Act → World → Prop} {E : Prop} (w : World) (hgd : o.guard = none) (s x : Operand) (T t : TypeId) (ho : o.op = .call { callee := .builtin .append, args := #[s, x], argTypes := #[T, T] })
    (e : Sh) (z : Value) (bytes : Nat) (hT : Try.prog.underlying T = some (.slice t)) (hinfo : (Try.prog.info? t).map (fun i => (i.zero, i.size, i.bytes)) = some (some z, e.sz, bytes)) (hzs : z.cells.size = e.sz) (hsz : 0 < e.sz) (hby : bytes ≤ 1000)
    (lo hi lo2 hi2 : Nat) (l : List e.El) (v : Value) (hs : a.eval s = v) (nb : Nat) (hnb : nb = w.heap.size) (hx : a.eval x = .slice (some ⟨nb, 0, none⟩) 1 1) (h : Own w lo hi (.row t e) l [v]) (d : e.El) (cs : List Value) (hd : Own w lo2 hi2 e d cs) (h1 : lo ≤ hi) (h2 : hi ≤ lo2) (h3 : hi2 ≤ w.heap.size) (hn : l.length ≤ 1048576) (hlo : lo ≤ w.heap.size)
    (hK : ∀ v' w', Own w' lo w'.heap.size (.row t e) (l ++ [d]) [v'] → Below lo w w' → (∀ b, b < w.heap.size → v.ownBlock ≠ some b → w'.heap[b]? = w.heap[b]?) → w.heap.size < w'.heap.size → K (a.put o.dst v') w') :
    if Region.wanted o (yielded ops a.tmps) = true then Oper.wp Try.prog o a (w.alloc (.cells cs.toArray t)) K Q else E := by
  subst hnb
  have hw : Region.wanted o (yielded ops a.tmps) = true := by simp [Region.wanted, hgd]
  rw [if_pos hw]
  obtain ⟨v', w', hrun, r1, r2, r3, r4⟩ := run_app_elem T t e z bytes hT hinfo hzs hsz hby o.type w lo hi lo2 hi2 l v h d cs hd h1 h2 h3 hn hlo
  unfold Oper.wp execOp
  simp only [ho, resolve, invoke, builtin, Sem.run_bind, Sem.run_pure, Result.andThen_ok, List.map_toArray, List.map_cons, List.map_nil, hs, hx, hrun]
  exact hK v' w' r1 r2 r3 r4
end Go.Proofs.Ytnbcefdfdonljaa
