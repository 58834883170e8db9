/- A row that is a part of something greater, grown by one element: what else is owned there stays; parts in another order; no condition. -/
import Derived.Test.YtnbcefdfdonljaaBase
import Derived.Test.YtnbcefdfdonljaaBytes
import Derived.Test.YtnbcefdfdonljaaMem
import Derived.Test.YtnbcefdfdonljaaMemRow
import Derived.Test.YtnbcefdfdonljaaMemApp
import Derived.Maps.AppendAt
namespace Go.Proofs.Ytnbcefdfdonljaa
open Go.RowKit Go.ChangeShapes Go.WideShapes Go.ChangeAt
set_option linter.unusedVariables false

theorem Ow.row_ofP {w : World} {p : Nat → Prop} {t : TypeId} {e : Sh} {l : List e.El} {v : Value} {xs : List Value} {lo : Nat} (ho : w.ownsRow lo t e.sz v l.length xs) (hv : ∀ b, v.ownBlock = some b → p b) (F : List (List Nat)) (hF : F.length = l.length)
    (hnd : F.flatten.Nodup) (hb : ∀ b ∈ F.flatten, p b ∧ v.ownBlock ≠ some b) (hel : ∀ i (h : i < l.length), e.Ow w (F.getD i []) l[i] (chunk xs e.sz i)) : ∃ bs, (Sh.row t e).Ow w bs l [v] ∧ bs.Nodup ∧ ∀ b ∈ bs, p b := by
  obtain ⟨h1, ⟨rfl, hz⟩ | ⟨g, cap, cur, rfl, hg, hh, hc, hm, hs, ht⟩⟩ := ho
  · have e1 : l = [] := List.length_eq_zero_iff.1 hz
    exact ⟨[], Or.inl ⟨rfl, rfl, e1⟩, by simp, by simp⟩
  · refine ⟨g :: F.flatten, Or.inr ⟨g, cap, cur, F, rfl, rfl, hh, hc, hm, hs, hF, fun i hi => ?_⟩, ?_, ?_⟩
    · have := hel i hi
      rw [← ht, chunk_take hi] at this
      exact this
    · refine List.nodup_cons.2 ⟨fun hmem => ?_, hnd⟩
      exact (hb g hmem).2 rfl
    · intro b hbm
      rcases List.mem_cons.1 hbm with rfl | hbm
      · exact hv b rfl
      · exact (hb b hbm).1
theorem Ow.row_toP {w : World} {bs : List Nat} {t : TypeId} {e : Sh} {l : List e.El} {v : Value} (h : (Sh.row t e).Ow w bs l [v]) (hnd : bs.Nodup) :
    ∃ xs F, w.ownsRow 0 t e.sz v l.length xs ∧ F.length = l.length ∧ List.Nodup (List.flatten F) ∧ (∀ b ∈ List.flatten F, b ∈ bs ∧ v.ownBlock ≠ some b) ∧ (∀ i (h : i < l.length), e.Ow w (List.getD F i []) l[i] (chunk xs e.sz i)) ∧ (∀ b, v.ownBlock = some b → b ∈ bs) := by
  rcases h with ⟨rfl, e1, rfl⟩ | ⟨g, cap, cur, F, e1, rfl, g3, g4, g5, g6, g7, g8⟩
  · simp only [List.cons.injEq, and_true] at e1
    subst e1
    exact ⟨[], [], ⟨by simp, Or.inl ⟨rfl, rfl⟩⟩, rfl, by simp, by simp, fun i hi => by simp at hi, by simp [Value.ownBlock]⟩
  · simp only [List.cons.injEq, and_true] at e1
    subst e1
    obtain ⟨h2a, h2b⟩ := List.nodup_cons.1 hnd
    refine ⟨cur.toList.take (l.length * e.sz), F, ⟨?_, Or.inr ⟨g, cap, cur, rfl, Nat.zero_le _, g3, g4, g5, g6, rfl⟩⟩, g7, h2b, fun b hb => ⟨List.mem_cons_of_mem _ hb, ?_⟩, fun i hi => ?_, ?_⟩
    · have : l.length * e.sz ≤ cap * e.sz := Nat.mul_le_mul_right _ g4
      simp; omega
    · intro e0
      simp [Value.ownBlock] at e0
      subst e0
      exact h2a hb
    · rw [chunk_take hi]; exact g8 i hi
    · intro b hb
      simp [Value.ownBlock] at hb
      subst hb
      simp

/-- What an append of one element makes of a row, block by block. -/
theorem run_app_ow (T t : TypeId) (e : Sh) (z : Value) (bytes : Nat) (hT : Try.prog.underlying T = some (.slice t)) (hinfo : (Try.prog.info? t).map (fun i => (i.zero, i.size, i.bytes)) = some (some z, e.sz, bytes)) (hzs : z.cells.size = e.sz) (hsz : 0 < e.sz) (hby : bytes ≤ 1000) (ty : TypeId)
    (w : World) (ba bd : List Nat) (l : List e.El) (v : Value) (h : (Sh.row t e).Ow w ba l [v]) (hna : ba.Nodup) (d : e.El) (cs : List Value) (d1 : e.Ow w bd d cs) (d2 : bd.Nodup) (hdis : ∀ b ∈ bd, b ∉ ba) (hn : l.length ≤ 1048576) :
    ∃ v' w', (Builtin.append_ #[T, T] ty #[v, .slice (some ⟨w.heap.size, 0, none⟩) 1 1]).run Try.prog (w.alloc (.cells cs.toArray t)) = .ok v' w' ∧ (∃ bs, (Sh.row t e).Ow w' bs (l ++ [d]) [v'] ∧ bs.Nodup ∧ ∀ b ∈ bs, b ∈ ba ∨ b ∈ bd ∨ w.heap.size ≤ b) ∧
      (∀ b, b < w.heap.size → v.ownBlock ≠ some b → w'.heap[b]? = w.heap[b]?) ∧ (∀ b, v.ownBlock = some b → b ∈ ba) ∧ w.heap.size < w'.heap.size ∧ w'.os = w.os ∧ w'.tape = w.tape ∧ w'.output = w.output := by
  obtain ⟨i0, hi0, hz0, hz1, hz2⟩ := info_parts hinfo
  have hlta := Sh.Ow.lt _ _ _ _ h
  have hltd := Sh.Ow.lt _ _ _ _ d1
  obtain ⟨xs, F, ho, hF, hnd, hb, hel, hv⟩ := Ow.row_toP h hna
  have hlen : cs.length = e.sz := Sh.Ow.len _ _ _ _ d1
  obtain ⟨v', w', hrun, r1, r2, _, r4⟩ := run_append_own_at (P := Try.prog) (w.alloc (.cells cs.toArray t)) 0 T ty t i0 z e.sz bytes hT hi0 hz0 hz1 hz2 hzs hsz v l.length xs (ho.alloc _) ⟨w.heap.size, 0, none⟩ 1 1 cs (by rw [hlen]; omega) (cells_new w cs t) (Sh.Ow.one _ _ _ _ d1) (by unfold maxLen; omega)
    (by have : (l.length + 1) * bytes ≤ (l.length + 1) * 1000 := Nat.mul_le_mul_left _ hby
        omega) (by simp)
  have hkeep : ∀ b, b < w.heap.size → v.ownBlock ≠ some b → w'.heap[b]? = w.heap[b]? := fun b hb' hne => by
    rw [r2.block b (by simp; omega) (fun e => hne e.symm)]
    exact (World.grownBy_alloc w _ none).block b hb' (by simp)
  have hsize : w.heap.size < w'.heap.size := by have := r2.size; simp at this; omega
  refine ⟨v', w', hrun, ?_, hkeep, hv, hsize, r2.os.trans rfl, r2.tape.trans rfl, r2.output.trans rfl⟩
  have hvb : ∀ b ∈ F.flatten ++ bd, b < w.heap.size ∧ v.ownBlock ≠ some b := by
    intro b hm
    rcases List.mem_append.1 hm with hm | hm
    · exact ⟨hlta b (hb b hm).1, (hb b hm).2⟩
    · exact ⟨hltd b hm, fun e => hdis b hm (hv b e)⟩
  have hfl : (F ++ [bd]).flatten = F.flatten ++ bd := by simp
  refine Ow.row_ofP (l := l ++ [d]) (xs := xs ++ cs) (by simpa using r1) (fun b hbv => ?_) (F ++ [bd]) (by simp [hF]) ?_ ?_ (fun i hi' => ?_)
  · rcases r4 with r4 | r4
    · exact Or.inl (hv b (r4 ▸ hbv))
    · rw [r4] at hbv; simp at hbv
      exact Or.inr (Or.inr (by omega))
  · rw [hfl, List.nodup_append]
    refine ⟨hnd, d2, fun a ha b hb' e => ?_⟩
    subst e
    exact hdis a hb' (hb a ha).1
  · rw [hfl]
    intro b hm
    obtain ⟨g2, g3⟩ := hvb b hm
    refine ⟨?_, fun e => ?_⟩
    · rcases List.mem_append.1 hm with hm | hm
      · exact Or.inl (hb b hm).1
      · exact Or.inr (Or.inl hm)
    · rcases r4 with r4 | r4
      · exact g3 (r4 ▸ e)
      · rw [r4] at e; simp at e; omega
  · have hi2' : i < l.length + 1 := by simpa using hi'
    have hgd : (F ++ [bd]).getD i [] = if i < l.length then F.getD i [] else bd := by
      simp only [List.getD_eq_getElem?_getD]
      split
      · rw [List.getElem?_append_left (by omega)]
      · rw [List.getElem?_append_right (by omega), show i - F.length = 0 by omega]; rfl
    rw [hgd]
    by_cases hlt : i < l.length
    · rw [if_pos hlt, chunk_app_lt ho.1 hlt, List.getElem_append_left hlt]
      refine Sh.Ow.keep _ _ _ _ (fun b hbm => ?_) (hel i hlt)
      obtain ⟨g2, g3⟩ := hvb b (List.mem_append_left _ (getD_mem_flatten hbm))
      exact hkeep b g2 g3
    · have hie : i = l.length := by omega
      subst hie
      rw [if_neg hlt, chunk_app_eq ho.1 hlen, List.getElem_append_right (Nat.le_refl _)]
      simp only [Nat.sub_self, List.getElem_cons_zero]
      refine Sh.Ow.keep _ _ _ _ (fun b hbm => ?_) d1
      obtain ⟨g2, g3⟩ := hvb b (List.mem_append_right _ hbm)
      exact hkeep b g2 g3

/-- The row is the first part of something greater. -/
theorem run_app_fst (T t : TypeId) (e r : Sh) (z : Value) (bytes : Nat) (hT : Try.prog.underlying T = some (.slice t)) (hinfo : (Try.prog.info? t).map (fun i => (i.zero, i.size, i.bytes)) = some (some z, e.sz, bytes)) (hzs : z.cells.size = e.sz) (hsz : 0 < e.sz) (hby : bytes ≤ 1000) (ty : TypeId)
    (w : World) (lo hi lo2 hi2 : Nat) (l : List e.El) (y : r.El) (v : Value) (cr : List Value) (h : Own w lo hi (.cons (.row t e) r) (l, y) (v :: cr)) (d : e.El) (cs : List Value) (hd : Own w lo2 hi2 e d cs) (h1 : lo ≤ hi) (h2 : hi ≤ lo2) (h3 : hi2 ≤ w.heap.size) (hn : l.length ≤ 1048576) (hlo : lo ≤ w.heap.size) :
    ∃ v' w', (Builtin.append_ #[T, T] ty #[v, .slice (some ⟨w.heap.size, 0, none⟩) 1 1]).run Try.prog (w.alloc (.cells cs.toArray t)) = .ok v' w' ∧ Own w' lo w'.heap.size (.cons (.row t e) r) (l ++ [d], y) (v' :: cr) ∧ Below lo w w' ∧
      (∀ b, b < w.heap.size → ¬ (lo ≤ b ∧ b < hi) → w'.heap[b]? = w.heap[b]?) ∧ w.heap.size < w'.heap.size := by
  obtain ⟨bs, ⟨b1, b2, c1, c2, rfl, ec, o1, o2⟩, hnd, hrg⟩ := h
  have l1 : c1.length = 1 := Sh.Ow.len _ _ _ _ o1
  match c1, l1 with
  | [v0], _ =>
    simp only [List.cons_append, List.nil_append, List.cons.injEq] at ec
    obtain ⟨rfl, rfl⟩ := ec
    obtain ⟨bd, d1, d2, d3⟩ := hd
    obtain ⟨n1, n2, n3⟩ := List.nodup_append.1 hnd
    obtain ⟨v', w', hrun, ⟨bs', q1, q2, q3⟩, hk, hvb, hs, e1, e2, e3⟩ := run_app_ow T t e z bytes hT hinfo hzs hsz hby ty w b1 bd l v o1 n1 d cs d1 d2 (fun b hb hb' => by have := d3 b hb; have := hrg b (List.mem_append_left _ hb'); omega) hn
    have hlt2 := Sh.Ow.lt _ _ _ _ o2
    have hkeep : ∀ b, b < w.heap.size → ¬ (lo ≤ b ∧ b < hi) → w'.heap[b]? = w.heap[b]? := fun b hb hn => hk b hb fun e => hn (hrg b (List.mem_append_left _ (hvb b e)))
    refine ⟨v', w', hrun, ?_, ⟨e1, e2, e3, Nat.le_of_lt hs |> Nat.le_trans (by omega), fun b hb => hkeep b (by omega) (by omega)⟩, hkeep, hs⟩
    refine ⟨bs' ++ b2, ⟨bs', b2, [v'], cr, rfl, rfl, q1, Sh.Ow.keep _ _ _ _ (fun b hb => hk b (hlt2 b hb) fun e => n3 b (hvb b e) b hb rfl) o2⟩, ?_, ?_⟩
    · rw [List.nodup_append]
      refine ⟨q2, n2, fun a ha b hb e => ?_⟩
      subst e
      rcases q3 a ha with h | h | h
      · exact n3 a h a hb rfl
      · have := d3 a h; have := hrg a (List.mem_append_right _ hb); omega
      · have := hlt2 a hb; omega
    · intro b hb
      rcases List.mem_append.1 hb with hb | hb
      · refine ⟨?_, Sh.Ow.lt _ _ _ _ q1 b hb⟩
        rcases q3 b hb with h | h | h
        · exact (hrg b (List.mem_append_left _ h)).1
        · have := d3 b h; omega
        · omega
      · have := hrg b (List.mem_append_right _ hb)
        have := hlt2 b hb
        exact ⟨by omega, by omega⟩
theorem app_fst {ops : Array Oper} {rest : List Oper} {o : Oper} {a : Act} {Q : Exit → Act → World → Prop} (w : World) (hgd : o.guard = none) (s x : Operand) (T t : TypeId) (ho : o.op = .call { callee := .builtin .append, args := #[s, x], argTypes := #[T, T] })
    (e r : Sh) (z : Value) (bytes : Nat) (hT : Try.prog.underlying T = some (.slice t)) (hinfo : (Try.prog.info? t).map (fun i => (i.zero, i.size, i.bytes)) = some (some z, e.sz, bytes)) (hzs : z.cells.size = e.sz) (hsz : 0 < e.sz) (hby : bytes ≤ 1000)
    (lo hi lo2 hi2 : Nat) (l : List e.El) (y : r.El) (v : Value) (cr : List Value) (hs : a.eval s = v) (nb : Nat) (hnb : nb = w.heap.size) (hx : a.eval x = .slice (some ⟨nb, 0, none⟩) 1 1) (h : Own w lo hi (.cons (.row t e) r) (l, y) (v :: cr)) (d : e.El) (cs : List Value) (hd : Own w lo2 hi2 e d cs) (h1 : lo ≤ hi) (h2 : hi ≤ lo2) (h3 : hi2 ≤ w.heap.size) (hn : l.length ≤ 1048576) (hlo : lo ≤ w.heap.size)
    (hK : ∀ v' w', Own w' lo w'.heap.size (.cons (.row t e) r) (l ++ [d], y) (v' :: cr) → Below lo w w' → (∀ b, b < w.heap.size → ¬ (lo ≤ b ∧ b < hi) → w'.heap[b]? = w.heap[b]?) → w.heap.size < w'.heap.size → wpList Try.prog ops Q rest (a.put o.dst v') w') :
    wpList Try.prog ops Q (o :: rest) a (w.alloc (.cells cs.toArray t)) := by
  subst hnb
  obtain ⟨v', w', hrun, r1, r2, r3, r4⟩ := run_app_fst T t e r z bytes hT hinfo hzs hsz hby o.type w lo hi lo2 hi2 l y v cr h d cs hd h1 h2 h3 hn hlo
  refine wpList_plain hgd fun K hK' => ?_
  unfold Oper.wp execOp
  simp only [ho, resolve, invoke, builtin, Sem.run_bind, Sem.run_pure, Result.andThen_ok, List.map_toArray, List.map_cons, List.map_nil, hs, hx, hrun]
  exact hK' _ _ (hK v' w' r1 r2 r3 r4)
theorem app_fst_st {ops : Array Oper} {o : Oper} {a : Act} {Q : Exit → Act → World → Prop} {K : Act → World → Prop} {E : Prop} (w : World) (hgd : o.guard = none) (s x : Operand) (T t : TypeId) (ho : o.op = .call { callee := .builtin .append, args := #[s, x], argTypes := #[T, T] })
    (e r : Sh) (z : Value) (bytes : Nat) (hT : Try.prog.underlying T = some (.slice t)) (hinfo : (Try.prog.info? t).map (fun i => (i.zero, i.size, i.bytes)) = some (some z, e.sz, bytes)) (hzs : z.cells.size = e.sz) (hsz : 0 < e.sz) (hby : bytes ≤ 1000)
    (lo hi lo2 hi2 : Nat) (l : List e.El) (y : r.El) (v : Value) (cr : List Value) (hs : a.eval s = v) (nb : Nat) (hnb : nb = w.heap.size) (hx : a.eval x = .slice (some ⟨nb, 0, none⟩) 1 1) (h : Own w lo hi (.cons (.row t e) r) (l, y) (v :: cr)) (d : e.El) (cs : List Value) (hd : Own w lo2 hi2 e d cs) (h1 : lo ≤ hi) (h2 : hi ≤ lo2) (h3 : hi2 ≤ w.heap.size) (hn : l.length ≤ 1048576) (hlo : lo ≤ w.heap.size)
    (hK : ∀ v' w', Own w' lo w'.heap.size (.cons (.row t e) r) (l ++ [d], y) (v' :: cr) → Below lo w w' → (∀ b, b < w.heap.size → ¬ (lo ≤ b ∧ b < hi) → w'.heap[b]? = w.heap[b]?) → w.heap.size < w'.heap.size → K (a.put o.dst v') w') :
    if Region.wanted o (yielded ops a.tmps) = true then Oper.wp Try.prog o a (w.alloc (.cells cs.toArray t)) K Q else E := by
  subst hnb
  have hw : Region.wanted o (yielded ops a.tmps) = true := by simp [Region.wanted, hgd]
  rw [if_pos hw]
  obtain ⟨v', w', hrun, r1, r2, r3, r4⟩ := run_app_fst T t e r z bytes hT hinfo hzs hsz hby o.type w lo hi lo2 hi2 l y v cr h d cs hd h1 h2 h3 hn hlo
  unfold Oper.wp execOp
  simp only [ho, resolve, invoke, builtin, Sem.run_bind, Sem.run_pure, Result.andThen_ok, List.map_toArray, List.map_cons, List.map_nil, hs, hx, hrun]
  exact hK v' w' r1 r2 r3 r4
/-- Two rows, the other one first. -/
theorem Own.swap {w : World} {lo hi : Nat} {t t' : TypeId} {e e' r : Sh} {l : List e.El} {l' : List e'.El} {y : r.El} {v u : Value} {cr : List Value} (h : Own w lo hi (.cons (.row t e) (.cons (.row t' e') r)) (l, l', y) (v :: u :: cr)) : Own w lo hi (.cons (.row t' e') (.cons (.row t e) r)) (l', l, y) (u :: v :: cr) := by
  obtain ⟨bs, ⟨b1, b2, c1, c2, rfl, ec, o1, b3, b4, c3, c4, rfl, ec2, o2, o3⟩, hnd, hrg⟩ := h
  have l1 : c1.length = 1 := Sh.Ow.len _ _ _ _ o1
  have l3 : c3.length = 1 := Sh.Ow.len _ _ _ _ o2
  match c1, l1, c3, l3 with
  | [v0], _, [u0], _ =>
    subst ec2
    simp only [List.cons_append, List.nil_append, List.cons.injEq] at ec
    obtain ⟨rfl, rfl, rfl⟩ := ec
    refine ⟨b3 ++ (b1 ++ b4), ⟨b3, b1 ++ b4, [u], v :: cr, rfl, rfl, o2, b1, b4, [v], cr, rfl, rfl, o1, o3⟩, ?_, fun b hb => hrg b ?_⟩
    · have hp : (b3 ++ (b1 ++ b4)).Perm (b1 ++ (b3 ++ b4)) := by
        rw [← List.append_assoc, ← List.append_assoc]
        exact List.Perm.append_right _ List.perm_append_comm
      exact hp.nodup_iff.2 hnd
    · simp only [List.mem_append] at hb ⊢
      rcases hb with h | h | h
      · exact Or.inr (Or.inl h)
      · exact Or.inl h
      · exact Or.inr (Or.inr h)
end Go.Proofs.Ytnbcefdfdonljaa
