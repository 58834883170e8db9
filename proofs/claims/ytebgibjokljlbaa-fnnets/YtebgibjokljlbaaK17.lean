/- What turns where marks are laid over data of the call's own, block by block; an element of a row changed in place; no condition. -/
import Derived.Test.YtebgibjokljlbaaRows
import Derived.WalkSmall
import Derived.Maps.AppendAt
import Derived.Test.YtebgibjokljlbaaK01
namespace Go.Proofs.Ytebgibjokljlbaa
open Go.RowKit
set_option linter.unusedVariables false

/-- Nothing but blocks from lo on, below hi, has turned, and none is new. -/
structure Within (lo hi : Nat) (w w' : World) : Prop where
  os : w'.os = w.os
  tape : w'.tape = w.tape
  output : w'.output = w.output
  size : w.heap.size ≤ w'.heap.size
  block : ∀ b, b < w.heap.size → ¬ (lo ≤ b ∧ b < hi) → w'.heap[b]? = w.heap[b]?
theorem Within.refl (lo hi : Nat) (w : World) : Within lo hi w w := ⟨rfl, rfl, rfl, Nat.le_refl _, fun _ _ _ => rfl⟩
theorem Within.trans {lo hi : Nat} {a b c : World} (h : Within lo hi a b) (k : Within lo hi b c) : Within lo hi a c :=
  ⟨k.os.trans h.os, k.tape.trans h.tape, k.output.trans h.output, Nat.le_trans h.size k.size, fun x hx hn => (k.block x (Nat.lt_of_lt_of_le hx h.size) hn).trans (h.block x hx hn)⟩
theorem Within.below {lo hi : Nat} {a b : World} (h : Below a.heap.size a b) : Within lo hi a b := ⟨h.os, h.tape, h.output, h.size, fun x hx _ => h.block x hx⟩
theorem Within.grown {lo hi : Nat} {a b : World} {g : Option Nat} (h : a.grownBy b g) (hg : ∀ x, g = some x → lo ≤ x ∧ x < hi) : Within lo hi a b :=
  ⟨h.os, h.tape, h.output, h.size, fun x hx hn => h.block x hx fun e => hn (hg x e.symm)⟩
theorem Within.mono {lo hi lo' hi' : Nat} {a b : World} (h : Within lo hi a b) (h1 : lo' ≤ lo) (h2 : hi ≤ hi') : Within lo' hi' a b :=
  ⟨h.os, h.tape, h.output, h.size, fun x hx hn => h.block x hx fun e => hn ⟨by omega, by omega⟩⟩

theorem ob_ow {w : World} {base : Nat} {v : Value} {l : List Int} (h : OB w base v l) : ∃ bs, u8s.Ow w bs l [v] ∧ bs.Nodup ∧ ∀ b ∈ bs, v.ownBlock = some b := by
  obtain ⟨bs, h1, h2, h3⟩ := own_bytes h (Nat.le_refl _)
  obtain ⟨v', e, -, -, h4⟩ := bytes_ob h1
  simp only [List.cons.injEq, and_true] at e
  subst e
  exact ⟨bs, h1, h2, h4⟩

/-- The one block of bytes of the call's own. -/
theorem bytes_fp {w : World} {bs : List Nat} {l : List Int} {v : Value} (h : u8s.Ow w bs l [v]) : bs = v.ownBlock.toList := by
  rcases h with ⟨rfl, e, rfl⟩ | ⟨g, cap, cur, F, e, rfl, h3, h4, h5, h6, h7, h8⟩
  · simp only [List.cons.injEq, and_true] at e; subst e; rfl
  · simp only [List.cons.injEq, and_true] at e; subst e
    have hF : F.flatten = [] := by
      apply List.eq_nil_iff_forall_not_mem.2
      intro b hb
      obtain ⟨i, hi, hb⟩ := mem_flatten_getD hb
      have := (h8 i (by omega)).1
      rw [this] at hb; simp at hb
    rw [hF]; rfl

/-- Nothing but the blocks bs has turned. -/
structure Touch (bs : List Nat) (w w' : World) : Prop where
  os : w'.os = w.os
  tape : w'.tape = w.tape
  output : w'.output = w.output
  size : w.heap.size ≤ w'.heap.size
  block : ∀ b, b < w.heap.size → b ∉ bs → w'.heap[b]? = w.heap[b]?
theorem Touch.refl (bs : List Nat) (w : World) : Touch bs w w := ⟨rfl, rfl, rfl, Nat.le_refl _, fun _ _ _ => rfl⟩
theorem Touch.trans {bs : List Nat} {a b c : World} (h : Touch bs a b) (k : Touch bs b c) : Touch bs a c :=
  ⟨k.os.trans h.os, k.tape.trans h.tape, k.output.trans h.output, Nat.le_trans h.size k.size, fun x hx hn => (k.block x (Nat.lt_of_lt_of_le hx h.size) hn).trans (h.block x hx hn)⟩
theorem Touch.mono {bs bs' : List Nat} {a b : World} (h : Touch bs a b) (hs : ∀ x ∈ bs, x ∈ bs') : Touch bs' a b := ⟨h.os, h.tape, h.output, h.size, fun x hx hn => h.block x hx fun hm => hn (hs x hm)⟩
theorem Touch.grown {bs : List Nat} {a b : World} {g : Option Nat} (h : a.grownBy b g) (hg : ∀ x, g = some x → x ∈ bs) : Touch bs a b :=
  ⟨h.os, h.tape, h.output, h.size, fun x hx hn => h.block x hx fun e => hn (hg x e.symm)⟩
theorem Touch.below {bs : List Nat} {a b : World} (h : Below a.heap.size a b) : Touch bs a b := ⟨h.os, h.tape, h.output, h.size, fun x hx _ => h.block x hx⟩

theorem grown_set {w : World} {a : Addr} {v : Value} : w.grownBy (w.setCell a v) (some a.block) :=
  ⟨rfl, rfl, rfl, by simp, fun j _ hne => Below.heap_setCell _ _ _ _ (fun e => hne (by rw [e]))⟩


theorem heap_set {w : World} {g off : Nat} {cur : Array Value} {v : Value} {t : TypeId} (h : w.heap[g]? = some (.cells cur t (0, 0))) : (w.setCell ⟨g, off, none⟩ v).heap[g]? = some (.cells (cur.setIfInBounds off v) t (0, 0)) := heap_setCell_same w g off cur _ _ h

theorem chunk_set1 {cur : Array Value} {sz k j i : Nat} {v : Value} (hj : j < sz) (hk : k * sz + sz ≤ cur.size) : chunk (cur.setIfInBounds (k * sz + j) v).toList sz i = if i = k then (chunk cur.toList sz k).set j v else chunk cur.toList sz i := by
  rw [Array.toList_setIfInBounds]
  split
  · rename_i e; subst e
    apply List.ext_getElem?
    intro q
    by_cases hq : q < sz
    · rw [chunk_get hq]
      by_cases e : q = j
      · subst e
        rw [List.getElem?_set_self (by simp; omega), List.getElem?_set_self (by unfold chunk; simp; omega)]
      · rw [List.getElem?_set_ne (by omega), List.getElem?_set_ne (by omega), chunk_get hq]
    · rw [List.getElem?_eq_none (by unfold chunk; simp; omega), List.getElem?_eq_none (by unfold chunk; simp; omega)]
  · rename_i hne
    refine chunk_ext fun q hq => ?_
    rw [List.getElem?_set_ne]
    intro e
    rcases Nat.lt_or_gt_of_ne hne with h | h
    · have : i * sz + sz ≤ k * sz := by rw [← Nat.succ_mul]; exact Nat.mul_le_mul_right _ h
      omega
    · have : k * sz + sz ≤ i * sz := by rw [← Nat.succ_mul]; exact Nat.mul_le_mul_right _ h
      omega

theorem ow_elem {w : World} {bs : List Nat} {t : TypeId} {e : Sh} {l : List e.El} {a : Option Addr} {n cap : Nat} (h : (Sh.row t e).Ow w bs l [.slice a n cap]) (hnd : bs.Nodup) (k : Nat) (hk : k < l.length) :
    ∃ pg cur bk, a = some ⟨pg, 0, none⟩ ∧ pg ∈ bs ∧ w.heap[pg]? = some (.cells cur t (0, 0)) ∧ k * e.sz + e.sz ≤ cur.size ∧ List.Nodup bk ∧ e.Ow w bk l[k] (chunk cur.toList e.sz k) ∧ (∀ b ∈ bk, b ∈ bs ∧ b ≠ pg) ∧
      ∀ (w' : World) (cur' : Array Value) (d' : e.El), w'.heap[pg]? = some (.cells cur' t (0, 0)) → cur'.size = cur.size → (∀ i, i ≠ k → chunk cur'.toList e.sz i = chunk cur.toList e.sz i) → e.Ow w' bk d' (chunk cur'.toList e.sz k) →
        (∀ b ∈ bs, b ≠ pg → b ∉ bk → w'.heap[b]? = w.heap[b]?) → (Sh.row t e).Ow w' bs (l.set k d') [.slice a n cap] := by
  rcases h with ⟨_, _, rfl⟩ | ⟨g, cap', cur, F, e1, rfl, h3, h4, h5, h6, h7, h8⟩
  · simp at hk
  · simp only [List.cons.injEq, Value.slice.injEq, and_true] at e1
    obtain ⟨rfl, rfl, rfl⟩ := e1
    obtain ⟨hg1, hg2⟩ := List.nodup_cons.1 hnd
    have hle : k * e.sz + e.sz ≤ cur.size := by
      rw [h6, ← Nat.succ_mul]; exact Nat.mul_le_mul_right _ (by omega)
    have hkF : k < F.length := by omega
    have hpw := List.pairwise_flatten.1 hg2
    refine ⟨g, cur, F.getD k [], rfl, by simp, h3, hle, ?_, h8 k hk, fun b hb => ⟨List.mem_cons_of_mem _ (getD_mem_flatten hb), fun e' => hg1 (e' ▸ getD_mem_flatten hb)⟩, ?_⟩
    · rw [List.getD_eq_getElem?_getD, List.getElem?_eq_getElem hkF]
      exact hpw.1 _ (List.getElem_mem hkF)
    · intro w' cur' d' q1 q2 q3 q4 q5
      refine Or.inr ⟨g, cap, cur', F, by rw [List.length_set], rfl, q1, by rw [List.length_set]; exact h4, h5, by rw [q2]; exact h6, by rw [List.length_set]; exact h7, fun i hi' => ?_⟩
      have hi2 : i < l.length := by simpa using hi'
      show Sh.Ow _ e _ _ (chunk cur'.toList e.sz i)
      by_cases ei : i = k
      · subst ei
        rw [List.getElem_set_self]; exact q4
      · rw [List.getElem_set_ne (by omega), q3 i ei]
        refine Sh.Ow.keep _ _ _ _ (fun b hbm => ?_) (h8 i hi2)
        refine q5 b (List.mem_cons_of_mem _ (getD_mem_flatten hbm)) (fun e' => hg1 (e' ▸ getD_mem_flatten hbm)) fun hb' => ?_
        have hi4 : i < F.length := by omega
        rcases Nat.lt_or_gt_of_ne ei with hlt | hlt
        · exact List.pairwise_iff_getElem.1 hpw.2 i k hi4 hkF hlt b (by simpa [List.getD_eq_getElem?_getD, List.getElem?_eq_getElem hi4] using hbm) b (by simpa [List.getD_eq_getElem?_getD, List.getElem?_eq_getElem hkF] using hb') rfl
        · exact List.pairwise_iff_getElem.1 hpw.2 k i hkF hi4 hlt b (by simpa [List.getD_eq_getElem?_getD, List.getElem?_eq_getElem hkF] using hb') b (by simpa [List.getD_eq_getElem?_getD, List.getElem?_eq_getElem hi4] using hbm) rfl

/-- Marks over a list, element by element. -/
def mkL {α : Type} (mk : Int → α → α) (wt : α → Nat) : Int → List α → List α
  | _, [] => []
  | c, x :: l => mk c x :: mkL mk wt (c + wt x) l
theorem mkL_length {α : Type} {mk : Int → α → α} {wt : α → Nat} : ∀ (l : List α) (c : Int), (mkL mk wt c l).length = l.length
  | [], _ => rfl
  | x :: l, c => by show (mkL mk wt _ l).length + 1 = _; rw [mkL_length l]; rfl
theorem fsum_cons {α : Type} (f : α → Nat) (x : α) (l : List α) : fsum f (x :: l) = f x + fsum f l := by simp [fsum]
theorem fsum_nil {α : Type} (f : α → Nat) : fsum f [] = 0 := rfl
theorem mkL_append {α : Type} {mk : Int → α → α} {wt : α → Nat} : ∀ (p q : List α) (c : Int), mkL mk wt c (p ++ q) = mkL mk wt c p ++ mkL mk wt (c + fsum wt p) q
  | [], q, c => by simp [mkL, fsum]
  | x :: p, q, c => by
    show _ :: mkL mk wt _ (p ++ q) = _
    rw [mkL_append p q, fsum_cons]
    show _ = _ :: (mkL mk wt _ p ++ _)
    congr 3
    omega
theorem mkL_step {α : Type} {mk : Int → α → α} {wt : α → Nat} {l : List α} {k : Nat} (c : Int) (hk : k < l.length) : (mkL mk wt c (l.take k) ++ l.drop k).set k (mk (c + fsum wt (l.take k)) l[k]) = mkL mk wt c (l.take (k + 1)) ++ l.drop (k + 1) := by
  have h1 : (mkL mk wt c (l.take k)).length = k := by rw [mkL_length]; simp; omega
  rw [List.set_append_right _ _ (by omega), h1, Nat.sub_self, List.drop_eq_getElem_cons hk, List.set_cons_zero, List.take_succ_eq_append_getElem hk, mkL_append, List.append_assoc]
  rfl
theorem mkL_at {α : Type} {mk : Int → α → α} {wt : α → Nat} {l : List α} {k : Nat} (c : Int) (hk : k < l.length) (h : k < (mkL mk wt c l).length) : (mkL mk wt c l)[k] = mk (c + fsum wt (l.take k)) l[k] := by
  have h1 : (mkL mk wt c (l.take k)).length = k := by rw [mkL_length]; simp; omega
  have e : l = l.take k ++ l[k] :: l.drop (k + 1) := by rw [← List.drop_eq_getElem_cons hk, List.take_append_drop]
  have e2 : mkL mk wt c l = mkL mk wt c (l.take k) ++ mkL mk wt (c + fsum wt (l.take k)) (l[k] :: l.drop (k + 1)) := by conv => lhs; rw [e]; rw [mkL_append]
  have : (mkL mk wt c l)[k]? = some (mk (c + fsum wt (l.take k)) l[k]) := by
    rw [e2, List.getElem?_append_right (by omega), h1, Nat.sub_self]; rfl
  rw [List.getElem?_eq_getElem h] at this
  exact Option.some.inj this
theorem fsum_add {α : Type} (c : Nat) (f : α → Nat) : ∀ (l : List α), fsum (fun x => c + f x) l = c * l.length + fsum f l
  | [] => by simp [fsum]
  | x :: l => by rw [fsum_cons, fsum_cons, fsum_add c f l, List.length_cons, Nat.mul_succ]; omega

theorem within_below {B lo hi : Nat} {w c w' : World} (h : Below B w c) (k : Within lo hi c w') (h1 : B ≤ lo) (h2 : B ≤ c.heap.size) : Below B w w' :=
  ⟨k.os.trans h.os, k.tape.trans h.tape, k.output.trans h.output, Nat.le_trans h.size k.size, fun b hb => (k.block b (by omega) (by omega)).trans (h.block b hb)⟩
end Go.Proofs.Ytebgibjokljlbaa

/- One element appended to a row of structs that the call itself made: the row owns one element more; nothing else turns; no condition but that there are at most a million. -/
namespace Go.Proofs.Ytebgibjokljlbaa
open Go.RowKit
set_option linter.unusedVariables false

theorem Sh.Ow.one {w : World} : ∀ (s : Sh) (bs : List Nat) (d : s.El) (cs : List Value), s.Ow w bs d cs → ∀ u ∈ cs, u.oneCell' = true
  | .int _, _, _, _, h => by rw [h.2.1]; intro u hu; simp at hu; subst hu; rfl
  | .bool, _, _, _, h => by rw [h.2]; intro u hu; simp at hu; subst hu; rfl
  | .row _ e, _, l, cs, h => by
    rcases h with h | ⟨g, cap, cur, F, h1, _⟩
    · rw [h.2.1]; intro u hu; simp at hu; subst hu; rfl
    · rw [h1]; intro u hu; simp at hu; subst hu; rfl
  | .rowO _ e, _, l, cs, h => by
    rcases h with ⟨_, _, a, cap, h1, _⟩ | ⟨g, off, cap, cur, F, h1, _⟩
    · rw [h1]; intro u hu; simp at hu; subst hu; rfl
    · rw [h1]; intro u hu; simp at hu; subst hu; rfl
  | .nil, _, _, _, h => by rw [h.2]; simp
  | .cons f r, _, d, cs, ⟨b1, b2, c1, c2, _, h1, h2, h3⟩ => by
    rw [h1]
    intro u hu
    rcases List.mem_append.1 hu with hu | hu
    · exact Sh.Ow.one f _ _ _ h2 u hu
    · exact Sh.Ow.one r _ _ _ h3 u hu

theorem cells_new (w : World) (cs : List Value) (t : TypeId) : ∀ j u, cs[j]? = some u → (w.alloc (.cells cs.toArray t)).cell? ((⟨w.heap.size, 0, none⟩ : Addr).add j) = some u := by
  intro j u hj
  rw [add_none]
  simp [hj]

theorem chunk_app_lt {xs ys : List Value} {sz n i : Nat} (hx : xs.length = n * sz) (hi : i < n) : chunk (xs ++ ys) sz i = chunk xs sz i := by
  have hle : i * sz + sz ≤ n * sz := by rw [← Nat.succ_mul]; exact Nat.mul_le_mul_right _ hi
  refine chunk_ext fun k hk => ?_
  rw [List.getElem?_append_left (by omega)]
theorem chunk_app_eq {xs ys : List Value} {sz n : Nat} (hx : xs.length = n * sz) (hy : ys.length = sz) : chunk (xs ++ ys) sz n = ys := by
  unfold chunk
  rw [List.drop_append_of_le_length (by omega), List.drop_of_length_le (by omega), List.nil_append, List.take_of_length_le (by omega)]

/-- What an append of one element makes of the row. -/
theorem run_app_elem (T t : TypeId) (e : Sh) (z : Value) (bytes : Nat) (hT : Try.prog.underlying T = some (.slice t)) (hinfo : (Try.prog.info? t).map (fun i => (i.zero, i.size, i.bytes)) = some (some z, e.sz, bytes)) (hzs : z.cells.size = e.sz) (hsz : 0 < e.sz) (hby : bytes ≤ 1000) (ty : TypeId)
    (w : World) (lo hi lo2 hi2 : Nat) (l : List e.El) (v : Value) (h : Own w lo hi (.row t e) l [v]) (d : e.El) (cs : List Value) (hd : Own w lo2 hi2 e d cs) (h1 : lo ≤ hi) (h2 : hi ≤ lo2) (h3 : hi2 ≤ w.heap.size) (hn : l.length ≤ 1048576) (hlo : lo ≤ w.heap.size) :
    ∃ v' w', (Builtin.append_ #[T, T] ty #[v, .slice (some ⟨w.heap.size, 0, none⟩) 1 1]).run Try.prog (w.alloc (.cells cs.toArray t)) = .ok v' w' ∧ Own w' lo w'.heap.size (.row t e) (l ++ [d]) [v'] ∧ Below lo w w' ∧
      (∀ b, b < w.heap.size → v.ownBlock ≠ some b → w'.heap[b]? = w.heap[b]?) ∧ w.heap.size < w'.heap.size := by
  obtain ⟨i0, hi0, hz0, hz1, hz2⟩ := info_parts hinfo
  obtain ⟨v0, xs, F, e1, ho, hF, hnd, hb, hel, hv⟩ := h.row_to
  simp only [List.cons.injEq, and_true] at e1
  subst e1
  obtain ⟨bs, d1, d2, d3⟩ := hd
  have hlen : cs.length = e.sz := Sh.Ow.len _ _ _ _ d1
  obtain ⟨v', w', hrun, r1, r2, _, r4⟩ := run_append_own_at (P := Try.prog) (w.alloc (.cells cs.toArray t)) lo T ty t i0 z e.sz bytes hT hi0 hz0 hz1 hz2 hzs hsz v l.length xs (ho.alloc _) ⟨w.heap.size, 0, none⟩ 1 1 cs (by rw [hlen]; omega) (cells_new w cs t) (Sh.Ow.one _ _ _ _ d1) (by unfold maxLen; omega)
    (by have : (l.length + 1) * bytes ≤ (l.length + 1) * 1000 := Nat.mul_le_mul_left _ hby
        omega) (by simp; omega)
  have hkeep : ∀ b, b < w.heap.size → v.ownBlock ≠ some b → w'.heap[b]? = w.heap[b]? := fun b hb' hne => by
    rw [r2.block b (by simp; omega) (fun e => hne e.symm)]
    exact (World.grownBy_alloc w _ none).block b hb' (by simp)
  have hsize : w.heap.size < w'.heap.size := by have := r2.size; simp at this; omega
  refine ⟨v', w', hrun, ?_, ?_, hkeep, hsize⟩
  · have hvb : ∀ b ∈ F.flatten ++ bs, lo ≤ b ∧ b < w.heap.size ∧ v.ownBlock ≠ some b := by
      intro b hm
      rcases List.mem_append.1 hm with hm | hm
      · obtain ⟨i, hi', hbi⟩ := mem_flatten_getD hm
        exact ⟨(hb b hm).1, Sh.Ow.lt _ _ _ _ (hel i (by omega)) b hbi, (hb b hm).2.2⟩
      · have := d3 b hm
        refine ⟨by omega, by omega, fun e => ?_⟩
        have := hv b e; omega
    have hfl : (F ++ [bs]).flatten = F.flatten ++ bs := by simp
    refine Own.row_of (l := l ++ [d]) (xs := xs ++ cs) (by simpa using r1) (fun b hbv => ?_) (F ++ [bs]) (by simp [hF]) ?_ ?_ (fun i hi' => ?_)
    · rcases r4 with r4 | r4
      · have hbw := (ho.lt b (r4 ▸ hbv)).2; omega
      · rw [r4] at hbv; simp at hbv
        -- the new row lies behind the element's cells
        have := (r1.lt b (by rw [r4]; simp [hbv])).2
        omega
    · rw [hfl, List.nodup_append]
      refine ⟨hnd, d2, fun a ha b hb' e => ?_⟩
      have := (hb a ha).2.1; have := (d3 b hb').1; omega
    · rw [hfl]
      intro b hm
      obtain ⟨g1, g2, g3⟩ := hvb b hm
      refine ⟨g1, by omega, fun e => ?_⟩
      rcases r4 with r4 | r4
      · exact g3 (r4 ▸ e)
      · rw [r4] at e; simp at e; omega
    · have hi2' : i < l.length + 1 := by simpa using hi'
      have hgd : (F ++ [bs]).getD i [] = if i < l.length then F.getD i [] else bs := by
        simp only [List.getD_eq_getElem?_getD]
        split
        · rw [List.getElem?_append_left (by omega)]
        · rw [List.getElem?_append_right (by omega), show i - F.length = 0 by omega]; rfl
      rw [hgd]
      by_cases hlt : i < l.length
      · rw [if_pos hlt, chunk_app_lt ho.1 hlt, List.getElem_append_left hlt]
        refine Sh.Ow.keep _ _ _ _ (fun b hbm => ?_) (hel i hlt)
        obtain ⟨g1, g2, g3⟩ := hvb b (List.mem_append_left _ (getD_mem_flatten hbm))
        exact hkeep b g2 g3
      · have hie : i = l.length := by omega
        subst hie
        rw [if_neg hlt, chunk_app_eq ho.1 hlen, List.getElem_append_right (Nat.le_refl _)]
        simp only [Nat.sub_self, List.getElem_cons_zero]
        refine Sh.Ow.keep _ _ _ _ (fun b hbm => ?_) d1
        obtain ⟨g1, g2, g3⟩ := hvb b (List.mem_append_right _ hbm)
        exact hkeep b g2 g3
  · refine ⟨r2.os.trans rfl, r2.tape.trans rfl, r2.output.trans rfl, by omega, fun k hk => hkeep k (by omega) fun e => ?_⟩
    have := (ho.lt k e).1; omega

theorem app_elem {ops : Array Oper} {rest : List Oper} {o : Oper} {a : Act} {Q : Exit → Act → World → Prop} (w : World) (hgd : o.guard = none) (s x : Operand) (T t : TypeId) (ho : o.op = .call { callee := .builtin .append, args := #[s, x], argTypes := #[T, T] })
    (e : Sh) (z : Value) (bytes : Nat) (hT : Try.prog.underlying T = some (.slice t)) (hinfo : (Try.prog.info? t).map (fun i => (i.zero, i.size, i.bytes)) = some (some z, e.sz, bytes)) (hzs : z.cells.size = e.sz) (hsz : 0 < e.sz) (hby : bytes ≤ 1000)
    (lo hi lo2 hi2 : Nat) (l : List e.El) (v : Value) (hs : a.eval s = v) (hx : a.eval x = .slice (some ⟨w.heap.size, 0, none⟩) 1 1) (h : Own w lo hi (.row t e) l [v]) (d : e.El) (cs : List Value) (hd : Own w lo2 hi2 e d cs) (h1 : lo ≤ hi) (h2 : hi ≤ lo2) (h3 : hi2 ≤ w.heap.size) (hn : l.length ≤ 1048576) (hlo : lo ≤ w.heap.size)
    (hK : ∀ v' w', Own w' lo w'.heap.size (.row t e) (l ++ [d]) [v'] → Below lo w w' → (∀ b, b < w.heap.size → v.ownBlock ≠ some b → w'.heap[b]? = w.heap[b]?) → w.heap.size < w'.heap.size → wpList Try.prog ops Q rest (a.put o.dst v') w') :
    wpList Try.prog ops Q (o :: rest) a (w.alloc (.cells cs.toArray t)) := by
  obtain ⟨v', w', hrun, r1, r2, r3, r4⟩ := run_app_elem T t e z bytes hT hinfo hzs hsz hby o.type w lo hi lo2 hi2 l v h d cs hd h1 h2 h3 hn hlo
  refine wpList_plain hgd fun K hK' => ?_
  unfold Oper.wp execOp
  simp only [ho, resolve, invoke, builtin, Sem.run_bind, Sem.run_pure, Result.andThen_ok, List.map_toArray, List.map_cons, List.map_nil, hs, hx, hrun]
  exact hK' _ _ (hK v' w' r1 r2 r3 r4)

/-- The same, where the new element lies told by a letter. -/
theorem app_elem_at {ops : Array Oper} {rest : List Oper} {o : Oper} {a : Act} {Q : Exit → Act → World → Prop} (w : World) (H : Nat) (hH : H = w.heap.size) (hgd : o.guard = none) (s x : Operand) (T t : TypeId) (ho : o.op = .call { callee := .builtin .append, args := #[s, x], argTypes := #[T, T] })
    (e : Sh) (z : Value) (bytes : Nat) (hT : Try.prog.underlying T = some (.slice t)) (hinfo : (Try.prog.info? t).map (fun i => (i.zero, i.size, i.bytes)) = some (some z, e.sz, bytes)) (hzs : z.cells.size = e.sz) (hsz : 0 < e.sz) (hby : bytes ≤ 1000)
    (lo hi lo2 hi2 : Nat) (l : List e.El) (v : Value) (hs : a.eval s = v) (hx : a.eval x = .slice (some ⟨H, 0, none⟩) 1 1) (h : Own w lo hi (.row t e) l [v]) (d : e.El) (cs : List Value) (hd : Own w lo2 hi2 e d cs) (h1 : lo ≤ hi) (h2 : hi ≤ lo2) (h3 : hi2 ≤ w.heap.size) (hn : l.length ≤ 1048576) (hlo : lo ≤ w.heap.size)
    (hK : ∀ v' w', Own w' lo w'.heap.size (.row t e) (l ++ [d]) [v'] → Below lo w w' → (∀ b, b < w.heap.size → v.ownBlock ≠ some b → w'.heap[b]? = w.heap[b]?) → w.heap.size < w'.heap.size → wpList Try.prog ops Q rest (a.put o.dst v') w') :
    wpList Try.prog ops Q (o :: rest) a (w.alloc (.cells cs.toArray t)) := by
  subst hH
  exact app_elem w hgd s x T t ho e z bytes hT hinfo hzs hsz hby lo hi lo2 hi2 l v hs hx h d cs hd h1 h2 h3 hn hlo hK

theorem app_elem_st {ops : Array Oper} {o : Oper} {a : Act} {Q : Exit → Act → World → Prop} {K : Act → World → Prop} {E : Prop} (w : World) (hgd : o.guard = none) (s x : Operand) (T t : TypeId) (ho : o.op = .call { callee := .builtin .append, args := #[s, x], argTypes := #[T, T] })
    (e : Sh) (z : Value) (bytes : Nat) (hT : Try.prog.underlying T = some (.slice t)) (hinfo : (Try.prog.info? t).map (fun i => (i.zero, i.size, i.bytes)) = some (some z, e.sz, bytes)) (hzs : z.cells.size = e.sz) (hsz : 0 < e.sz) (hby : bytes ≤ 1000)
    (lo hi lo2 hi2 : Nat) (l : List e.El) (v : Value) (hs : a.eval s = v) (nb : Nat) (hnb : nb = w.heap.size) (hx : a.eval x = .slice (some ⟨nb, 0, none⟩) 1 1) (h : Own w lo hi (.row t e) l [v]) (d : e.El) (cs : List Value) (hd : Own w lo2 hi2 e d cs) (h1 : lo ≤ hi) (h2 : hi ≤ lo2) (h3 : hi2 ≤ w.heap.size) (hn : l.length ≤ 1048576) (hlo : lo ≤ w.heap.size)
    (hK : ∀ v' w', Own w' lo w'.heap.size (.row t e) (l ++ [d]) [v'] → Below lo w w' → (∀ b, b < w.heap.size → v.ownBlock ≠ some b → w'.heap[b]? = w.heap[b]?) → w.heap.size < w'.heap.size → K (a.put o.dst v') w') :
    if Region.wanted o (yielded ops a.tmps) = true then Oper.wp Try.prog o a (w.alloc (.cells cs.toArray t)) K Q else E := by
  subst hnb
  have hw : Region.wanted o (yielded ops a.tmps) = true := by simp [Region.wanted, hgd]
  rw [if_pos hw]
  obtain ⟨v', w', hrun, r1, r2, r3, r4⟩ := run_app_elem T t e z bytes hT hinfo hzs hsz hby o.type w lo hi lo2 hi2 l v h d cs hd h1 h2 h3 hn hlo
  unfold Oper.wp execOp
  simp only [ho, resolve, invoke, builtin, Sem.run_bind, Sem.run_pure, Result.andThen_ok, List.map_toArray, List.map_cons, List.map_nil, hs, hx, hrun]
  exact hK v' w' r1 r2 r3 r4
end Go.Proofs.Ytebgibjokljlbaa

/- One element of a row of structs that the call owns, changed in place cell by cell; no condition. -/
namespace Go.Proofs.Ytebgibjokljlbaa
open Go.RowKit
set_option linter.unusedVariables false

/-- In W block pg is as cur0 was, but that element k (of m cells) has the cells L. -/
structure El (W : World) (pg : Nat) (t : TypeId) (m k : Nat) (cur0 : Array Value) (L : List Value) : Prop where
  ex : ∃ cur, W.heap[pg]? = some (.cells cur t (0, 0)) ∧ cur.size = cur0.size ∧ (∀ i, i ≠ k → chunk cur.toList m i = chunk cur0.toList m i) ∧ chunk cur.toList m k = L
theorem El.of {W : World} {pg : Nat} {t : TypeId} {m k : Nat} {cur0 : Array Value} {L : List Value} (h : W.heap[pg]? = some (.cells cur0 t (0, 0))) (hc : chunk cur0.toList m k = L) : El W pg t m k cur0 L := ⟨cur0, h, rfl, fun _ _ => rfl, hc⟩
theorem El.set {W : World} {pg : Nat} {t : TypeId} {m k : Nat} {cur0 : Array Value} {L : List Value} (h : El W pg t m k cur0 L) (hk : k * m + m ≤ cur0.size) {A j : Nat} (hA : A = k * m + j) (hj : j < m) (v : Value) : El (W.setCell ⟨pg, A, none⟩ v) pg t m k cur0 (L.set j v) := by
  obtain ⟨cur, h1, h2, h3, h4⟩ := h
  subst hA
  refine ⟨cur.setIfInBounds (k * m + j) v, heap_set h1, by simp [h2], fun i hi => ?_, ?_⟩
  · rw [chunk_set1 hj (by omega), if_neg hi]; exact h3 i hi
  · rw [chunk_set1 hj (by omega), if_pos rfl, h4]
theorem El.cell {W : World} {pg : Nat} {t : TypeId} {m k : Nat} {cur0 : Array Value} {L : List Value} (h : El W pg t m k cur0 L) {A j : Nat} (hA : A = k * m + j) (hj : j < m) : W.cell? ⟨pg, A, none⟩ = L[j]? := by
  obtain ⟨cur, h1, h2, h3, h4⟩ := h
  subst hA
  rw [cell_of_heap h1, ← h4, chunk_get hj, Array.getElem?_toList]
theorem El.frozen {W : World} {pg : Nat} {t : TypeId} {m k : Nat} {cur0 : Array Value} {L : List Value} (h : El W pg t m k cur0 L) : ∀ o, W.frozen? ⟨pg, o, none⟩ = false := fun o => by
  obtain ⟨cur, h1, _⟩ := h
  simp [World.frozen?, h1]
theorem El.keep {W W' : World} {pg : Nat} {t : TypeId} {m k : Nat} {cur0 : Array Value} {L : List Value} (h : El W pg t m k cur0 L) (hb : W'.heap[pg]? = W.heap[pg]?) : El W' pg t m k cur0 L := by
  obtain ⟨cur, h1, r⟩ := h
  exact ⟨cur, hb.trans h1, r⟩
/-- Nothing but block pg has turned, and none is new. -/
structure On1 (pg : Nat) (w w' : World) : Prop where
  os : w'.os = w.os
  tape : w'.tape = w.tape
  output : w'.output = w.output
  size : w'.heap.size = w.heap.size
  block : ∀ b, b ≠ pg → w'.heap[b]? = w.heap[b]?
theorem On1.refl (pg : Nat) (w : World) : On1 pg w w := ⟨rfl, rfl, rfl, rfl, fun _ _ => rfl⟩
theorem On1.set {pg : Nat} {w w' : World} (h : On1 pg w w') (A : Nat) (v : Value) : On1 pg w (w'.setCell ⟨pg, A, none⟩ v) := by
  have g := grown_set (w := w') (a := ⟨pg, A, none⟩) (v := v)
  exact ⟨g.os.trans h.os, g.tape.trans h.tape, g.output.trans h.output, (by simp; exact h.size), fun b hb => (Below.heap_setCell _ _ _ _ (by dsimp only; exact hb)).trans (h.block b hb)⟩
theorem On1.touch {pg : Nat} {bs : List Nat} {w w' : World} (h : On1 pg w w') (hm : pg ∈ bs) : Touch bs w w' := ⟨h.os, h.tape, h.output, Nat.le_of_eq h.size.symm, fun b _ hn => h.block b fun e => hn (e ▸ hm)⟩
end Go.Proofs.Ytebgibjokljlbaa
