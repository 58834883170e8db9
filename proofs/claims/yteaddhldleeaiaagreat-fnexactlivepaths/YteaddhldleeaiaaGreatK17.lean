/- What turns where marks are laid over data of the call's own, block by block; an element of a row changed in place; no condition. -/
import Derived.Test.YteaddhldleeaiaaGreatRows
import Derived.WalkSmall
import Derived.Maps.AppendAt
import Derived.Test.YteaddhldleeaiaaGreatK01
import Derived.Test.YteaddhldleeaiaaGreatK02
import Derived.Test.YteaddhldleeaiaaGreatK03
import Derived.Test.YteaddhldleeaiaaGreatK04
namespace Go.Proofs.YteaddhldleeaiaaGreat
open Go.RowKit
set_option linter.unusedVariables false

/-- Nothing but blocks from lo on, below hi, has turned, and none is new. -/
structure Within (lo hi : Nat) (w w' : World) : Prop where
  os : w'.os = w.os
  tape : w'.tape = w.tape
  output : w'.output = w.output
  size : w.heap.size ≤ w'.heap.size
  block : ∀ b, b < w.heap.size → ¬ (lo ≤ b ∧ b < hi) → w'.heap[b]? = w.heap[b]?
theorem Within.refl (lo hi : Nat) (w : World) : Within lo hi w w := ⟨rfl, rfl, rfl, Nat.le_refl _, fun _ _ _ => rfl⟩
theorem Within.trans {lo hi : Nat} {a b c : World} (h : Within lo hi a b) (k : Within lo hi b c) : Within lo hi a c :=
  ⟨k.os.trans h.os, k.tape.trans h.tape, k.output.trans h.output, Nat.le_trans h.size k.size, fun x hx hn => (k.block x (Nat.lt_of_lt_of_le hx h.size) hn).trans (h.block x hx hn)⟩
theorem Within.below {lo hi : Nat} {a b : World} (h : Below a.heap.size a b) : Within lo hi a b := ⟨h.os, h.tape, h.output, h.size, fun x hx _ => h.block x hx⟩
theorem Within.grown {lo hi : Nat} {a b : World} {g : Option Nat} (h : a.grownBy b g) (hg : ∀ x, g = some x → lo ≤ x ∧ x < hi) : Within lo hi a b :=
  ⟨h.os, h.tape, h.output, h.size, fun x hx hn => h.block x hx fun e => hn (hg x e.symm)⟩
theorem Within.mono {lo hi lo' hi' : Nat} {a b : World} (h : Within lo hi a b) (h1 : lo' ≤ lo) (h2 : hi ≤ hi') : Within lo' hi' a b :=
  ⟨h.os, h.tape, h.output, h.size, fun x hx hn => h.block x hx fun e => hn ⟨by omega, by omega⟩⟩

theorem ob_ow {w : World} {base : Nat} {v : Value} {l : List Int} (h : OB w base v l) : ∃ bs, u8s.Ow w bs l [v] ∧ bs.Nodup ∧ ∀ b ∈ bs, v.ownBlock = some b := by
  obtain ⟨bs, h1, h2, h3⟩ := own_bytes h (Nat.le_refl _)
  obtain ⟨v', e, -, -, h4⟩ := bytes_ob h1
  simp only [List.cons.injEq, and_true] at e
  subst e
  exact ⟨bs, h1, h2, h4⟩

/-- The one block of bytes of the call's own. -/
theorem bytes_fp {w : World} {bs : List Nat} {l : List Int} {v : Value} (h : u8s.Ow w bs l [v]) : bs = v.ownBlock.toList := by
  rcases h with ⟨rfl, e, rfl⟩ | ⟨g, cap, cur, F, e, rfl, h3, h4, h5, h6, h7, h8⟩
  · simp only [List.cons.injEq, and_true] at e; subst e; rfl
  · simp only [List.cons.injEq, and_true] at e; subst e
    have hF : F.flatten = [] := by
      apply List.eq_nil_iff_forall_not_mem.2
      intro b hb
      obtain ⟨i, hi, hb⟩ := mem_flatten_getD hb
      have := (h8 i (by omega)).1
      rw [this] at hb; simp at hb
    rw [hF]; rfl

/-- Nothing but the blocks bs has turned. -/
structure Touch (bs : List Nat) (w w' : World) : Prop where
  os : w'.os = w.os
  tape : w'.tape = w.tape
  output : w'.output = w.output
  size : w.heap.size ≤ w'.heap.size
  block : ∀ b, b < w.heap.size → b ∉ bs → w'.heap[b]? = w.heap[b]?
theorem Touch.refl (bs : List Nat) (w : World) : Touch bs w w := ⟨rfl, rfl, rfl, Nat.le_refl _, fun _ _ _ => rfl⟩
theorem Touch.trans {bs : List Nat} {a b c : World} (h : Touch bs a b) (k : Touch bs b c) : Touch bs a c :=
  ⟨k.os.trans h.os, k.tape.trans h.tape, k.output.trans h.output, Nat.le_trans h.size k.size, fun x hx hn => (k.block x (Nat.lt_of_lt_of_le hx h.size) hn).trans (h.block x hx hn)⟩
theorem Touch.mono {bs bs' : List Nat} {a b : World} (h : Touch bs a b) (hs : ∀ x ∈ bs, x ∈ bs') : Touch bs' a b := ⟨h.os, h.tape, h.output, h.size, fun x hx hn => h.block x hx fun hm => hn (hs x hm)⟩
theorem Touch.grown {bs : List Nat} {a b : World} {g : Option Nat} (h : a.grownBy b g) (hg : ∀ x, g = some x → x ∈ bs) : Touch bs a b :=
  ⟨h.os, h.tape, h.output, h.size, fun x hx hn => h.block x hx fun e => hn (hg x e.symm)⟩
theorem Touch.below {bs : List Nat} {a b : World} (h : Below a.heap.size a b) : Touch bs a b := ⟨h.os, h.tape, h.output, h.size, fun x hx _ => h.block x hx⟩

theorem grown_set {w : World} {a : Addr} {v : Value} : w.grownBy (w.setCell a v) (some a.block) :=
  ⟨rfl, rfl, rfl, by simp, fun j _ hne => Below.heap_setCell _ _ _ _ (fun e => hne (by rw [e]))⟩


theorem heap_set {w : World} {g off : Nat} {cur : Array Value} {v : Value} {t : TypeId} (h : w.heap[g]? = some (.cells cur t (0, 0))) : (w.setCell ⟨g, off, none⟩ v).heap[g]? = some (.cells (cur.setIfInBounds off v) t (0, 0)) := heap_setCell_same w g off cur _ _ h

theorem chunk_set1 {cur : Array Value} {sz k j i : Nat} {v : Value} (hj : j < sz) (hk : k * sz + sz ≤ cur.size) : chunk (cur.setIfInBounds (k * sz + j) v).toList sz i = if i = k then (chunk cur.toList sz k).set j v else chunk cur.toList sz i := by
  rw [Array.toList_setIfInBounds]
  split
  · rename_i e; subst e
    apply List.ext_getElem?
    intro q
    by_cases hq : q < sz
    · rw [chunk_get hq]
      by_cases e : q = j
      · subst e
        rw [List.getElem?_set_self (by simp; omega), List.getElem?_set_self (by unfold chunk; simp; omega)]
      · rw [List.getElem?_set_ne (by omega), List.getElem?_set_ne (by omega), chunk_get hq]
    · rw [List.getElem?_eq_none (by unfold chunk; simp; omega), List.getElem?_eq_none (by unfold chunk; simp; omega)]
  · rename_i hne
    refine chunk_ext fun q hq => ?_
    rw [List.getElem?_set_ne]
    intro e
    rcases Nat.lt_or_gt_of_ne hne with h | h
    · have : i * sz + sz ≤ k * sz := by rw [← Nat.succ_mul]; exact Nat.mul_le_mul_right _ h
      omega
    · have : k * sz + sz ≤ i * sz := by rw [← Nat.succ_mul]; exact Nat.mul_le_mul_right _ h
      omega

theorem ow_elem {w : World} {bs : List Nat} {t : TypeId} {e : Sh} {l : List e.El} {a : Option Addr} {n cap : Nat} (h : (Sh.row t e).Ow w bs l [.slice a n cap]) (hnd : bs.Nodup) (k : Nat) (hk : k < l.length) :
    ∃ pg cur bk, a = some ⟨pg, 0, none⟩ ∧ pg ∈ bs ∧ w.heap[pg]? = some (.cells cur t (0, 0)) ∧ k * e.sz + e.sz ≤ cur.size ∧ List.Nodup bk ∧ e.Ow w bk l[k] (chunk cur.toList e.sz k) ∧ (∀ b ∈ bk, b ∈ bs ∧ b ≠ pg) ∧
      ∀ (w' : World) (cur' : Array Value) (d' : e.El), w'.heap[pg]? = some (.cells cur' t (0, 0)) → cur'.size = cur.size → (∀ i, i ≠ k → chunk cur'.toList e.sz i = chunk cur.toList e.sz i) → e.Ow w' bk d' (chunk cur'.toList e.sz k) →
        (∀ b ∈ bs, b ≠ pg → b ∉ bk → w'.heap[b]? = w.heap[b]?) → (Sh.row t e).Ow w' bs (l.set k d') [.slice a n cap] := by
  rcases h with ⟨_, _, rfl⟩ | ⟨g, cap', cur, F, e1, rfl, h3, h4, h5, h6, h7, h8⟩
  · simp at hk
  · simp only [List.cons.injEq, Value.slice.injEq, and_true] at e1
    obtain ⟨rfl, rfl, rfl⟩ := e1
    obtain ⟨hg1, hg2⟩ := List.nodup_cons.1 hnd
    have hle : k * e.sz + e.sz ≤ cur.size := by
      rw [h6, ← Nat.succ_mul]; exact Nat.mul_le_mul_right _ (by omega)
    have hkF : k < F.length := by omega
    have hpw := List.pairwise_flatten.1 hg2
    refine ⟨g, cur, F.getD k [], rfl, by simp, h3, hle, ?_, h8 k hk, fun b hb => ⟨List.mem_cons_of_mem _ (getD_mem_flatten hb), fun e' => hg1 (e' ▸ getD_mem_flatten hb)⟩, ?_⟩
    · rw [List.getD_eq_getElem?_getD, List.getElem?_eq_getElem hkF]
      exact hpw.1 _ (List.getElem_mem hkF)
    · intro w' cur' d' q1 q2 q3 q4 q5
      refine Or.inr ⟨g, cap, cur', F, by rw [List.length_set], rfl, q1, by rw [List.length_set]; exact h4, h5, by rw [q2]; exact h6, by rw [List.length_set]; exact h7, fun i hi' => ?_⟩
      have hi2 : i < l.length := by simpa using hi'
      show Sh.Ow _ e _ _ (chunk cur'.toList e.sz i)
      by_cases ei : i = k
      · subst ei
        rw [List.getElem_set_self]; exact q4
      · rw [List.getElem_set_ne (by omega), q3 i ei]
        refine Sh.Ow.keep _ _ _ _ (fun b hbm => ?_) (h8 i hi2)
        refine q5 b (List.mem_cons_of_mem _ (getD_mem_flatten hbm)) (fun e' => hg1 (e' ▸ getD_mem_flatten hbm)) fun hb' => ?_
        have hi4 : i < F.length := by omega
        rcases Nat.lt_or_gt_of_ne ei with hlt | hlt
        · exact List.pairwise_iff_getElem.1 hpw.2 i k hi4 hkF hlt b (by simpa [List.getD_eq_getElem?_getD, List.getElem?_eq_getElem hi4] using hbm) b (by simpa [List.getD_eq_getElem?_getD, List.getElem?_eq_getElem hkF] using hb') rfl
        · exact List.pairwise_iff_getElem.1 hpw.2 k i hkF hi4 hlt b (by simpa [List.getD_eq_getElem?_getD, List.getElem?_eq_getElem hkF] using hb') b (by simpa [List.getD_eq_getElem?_getD, List.getElem?_eq_getElem hi4] using hbm) rfl

/-- Marks over a list, element by element. -/
def mkL {α : Type} (mk : Int → α → α) (wt : α → Nat) : Int → List α → List α
  | _, [] => []
  | c, x :: l => mk c x :: mkL mk wt (c + wt x) l
theorem mkL_length {α : Type} {mk : Int → α → α} {wt : α → Nat} : ∀ (l : List α) (c : Int), (mkL mk wt c l).length = l.length
  | [], _ => rfl
  | x :: l, c => by show (mkL mk wt _ l).length + 1 = _; rw [mkL_length l]; rfl
theorem fsum_cons {α : Type} (f : α → Nat) (x : α) (l : List α) : fsum f (x :: l) = f x + fsum f l := by simp [fsum]
theorem fsum_nil {α : Type} (f : α → Nat) : fsum f [] = 0 := rfl
theorem mkL_append {α : Type} {mk : Int → α → α} {wt : α → Nat} : ∀ (p q : List α) (c : Int), mkL mk wt c (p ++ q) = mkL mk wt c p ++ mkL mk wt (c + fsum wt p) q
  | [], q, c => by simp [mkL, fsum]
  | x :: p, q, c => by
    show _ :: mkL mk wt _ (p ++ q) = _
    rw [mkL_append p q, fsum_cons]
    show _ = _ :: (mkL mk wt _ p ++ _)
    congr 3
    omega
theorem mkL_step {α : Type} {mk : Int → α → α} {wt : α → Nat} {l : List α} {k : Nat} (c : Int) (hk : k < l.length) : (mkL mk wt c (l.take k) ++ l.drop k).set k (mk (c + fsum wt (l.take k)) l[k]) = mkL mk wt c (l.take (k + 1)) ++ l.drop (k + 1) := by
  have h1 : (mkL mk wt c (l.take k)).length = k := by rw [mkL_length]; simp; omega
  rw [List.set_append_right _ _ (by omega), h1, Nat.sub_self, List.drop_eq_getElem_cons hk, List.set_cons_zero, List.take_succ_eq_append_getElem hk, mkL_append, List.append_assoc]
  rfl
theorem mkL_at {α : Type} {mk : Int → α → α} {wt : α → Nat} {l : List α} {k : Nat} (c : Int) (hk : k < l.length) (h : k < (mkL mk wt c l).length) : (mkL mk wt c l)[k] = mk (c + fsum wt (l.take k)) l[k] := by
  have h1 : (mkL mk wt c (l.take k)).length = k := by rw [mkL_length]; simp; omega
  have e : l = l.take k ++ l[k] :: l.drop (k + 1) := by rw [← List.drop_eq_getElem_cons hk, List.take_append_drop]
  have e2 : mkL mk wt c l = mkL mk wt c (l.take k) ++ mkL mk wt (c + fsum wt (l.take k)) (l[k] :: l.drop (k + 1)) := by conv => lhs; rw [e]; rw [mkL_append]
  have : (mkL mk wt c l)[k]? = some (mk (c + fsum wt (l.take k)) l[k]) := by
    rw [e2, List.getElem?_append_right (by omega), h1, Nat.sub_self]; rfl
  rw [List.getElem?_eq_getElem h] at this
  exact Option.some.inj this
theorem fsum_add {α : Type} (c : Nat) (f : α → Nat) : ∀ (l : List α), fsum (fun x => c + f x) l = c * l.length + fsum f l
  | [] => by simp [fsum]
  | x :: l => by rw [fsum_cons, fsum_cons, fsum_add c f l, List.length_cons, Nat.mul_succ]; omega

theorem lMarkBytesW (l : List Int) (v : Value) (c : Int) (w : World) (bs : List Nat) (ho : u8s.Ow w bs l [v]) (hnd : bs.Nodup) (hT : l.length ≤ 1073741824) (hc0 : 0 ≤ c) (hc1 : c ≤ 1099511627776) :
    Calls Tryz.prog 59 #[v, .int .i64 c] w fun e w' => e = .returned (.int .i64 (c + (l.length : Nat))) ∧ u8s.Ow w' bs (marks c l.length) [v] ∧ Touch bs w w' := by
  obtain ⟨vv, e, hob, hb1, hb2⟩ := bytes_ob ho
  simp only [List.cons.injEq, and_true] at e
  subst e
  have hfp := bytes_fp ho
  refine (lMark 0 v c l w hob hT hc0 (by omega)).mono ?_
  rintro e w1 ⟨rfl, ho1, hg1⟩
  obtain ⟨bs1, q1, q2, q3⟩ := ob_ow ho1
  refine ⟨rfl, ?_, Touch.grown hg1 fun x e => hb1 x e⟩
  have := bytes_fp q1
  rw [hfp, ← this]; exact q1
theorem within_below {B lo hi : Nat} {w c w' : World} (h : Below B w c) (k : Within lo hi c w') (h1 : B ≤ lo) (h2 : B ≤ c.heap.size) : Below B w w' :=
  ⟨k.os.trans h.os, k.tape.trans h.tape, k.output.trans h.output, Nat.le_trans h.size k.size, fun b hb => (k.block b (by omega) (by omega)).trans (h.block b hb)⟩
theorem lMarkBytesO (l : List Int) (v : Value) (c : Int) (w : World) (lo hi : Nat) (ho : Own w lo hi u8s l [v]) (hn : l.length ≤ 1073741824) (hc0 : 0 ≤ c) (hc1 : c ≤ 4611686018427387904) :
    Calls Tryz.prog 59 #[v, .int .i64 c] w fun e w' => e = .returned (.int .i64 (c + l.length)) ∧ Own w' lo hi u8s (marks c l.length) [v] ∧ Within lo hi w w' := by
  obtain ⟨bs, h1, h2, h3⟩ := ho
  obtain ⟨vv, e, hob, hb1, hb2⟩ := bytes_ob h1
  simp only [List.cons.injEq, and_true] at e
  subst e
  refine (lMark 0 v c l w hob hn hc0 hc1).mono ?_
  rintro e w1 ⟨rfl, ho1, hg1⟩
  obtain ⟨bs1, q1, q2, q3⟩ := ob_ow ho1
  exact ⟨rfl, ⟨bs1, q1, q2, fun b hb => h3 b (hb1 b (q3 b hb))⟩, Within.grown hg1 fun x e => h3 x (hb1 x e)⟩
end Go.Proofs.YteaddhldleeaiaaGreat

/- One element appended to a row of structs that the call itself made: the row owns one element more; nothing else turns; no condition but that there are at most a million. -/
namespace Go.Proofs.YteaddhldleeaiaaGreat
open Go.RowKit
set_option linter.unusedVariables false

theorem Sh.Ow.one {w : World} : ∀ (s : Sh) (bs : List Nat) (d : s.El) (cs : List Value), s.Ow w bs d cs → ∀ u ∈ cs, u.oneCell' = true
  | .int _, _, _, _, h => by rw [h.2.1]; intro u hu; simp at hu; subst hu; rfl
  | .bool, _, _, _, h => by rw [h.2]; intro u hu; simp at hu; subst hu; rfl
  | .row _ e, _, l, cs, h => by
    rcases h with h | ⟨g, cap, cur, F, h1, _⟩
    · rw [h.2.1]; intro u hu; simp at hu; subst hu; rfl
    · rw [h1]; intro u hu; simp at hu; subst hu; rfl
  | .rowO _ e, _, l, cs, h => by
    rcases h with ⟨_, _, a, cap, h1, _⟩ | ⟨g, off, cap, cur, F, h1, _⟩
    · rw [h1]; intro u hu; simp at hu; subst hu; rfl
    · rw [h1]; intro u hu; simp at hu; subst hu; rfl
  | .nil, _, _, _, h => by rw [h.2]; simp
  | .cons f r, _, d, cs, ⟨b1, b2, c1, c2, _, h1, h2, h3⟩ => by
    rw [h1]
    intro u hu
    rcases List.mem_append.1 hu with hu | hu
    · exact Sh.Ow.one f _ _ _ h2 u hu
    · exact Sh.Ow.one r _ _ _ h3 u hu

theorem cells_new (w : World) (cs : List Value) (t : TypeId) : ∀ j u, cs[j]? = some u → (w.alloc (.cells cs.toArray t)).cell? ((⟨w.heap.size, 0, none⟩ : Addr).add j) = some u := by
  intro j u hj
  rw [add_none]
  simp [hj]

theorem chunk_app_lt {xs ys : List Value} {sz n i : Nat} (hx : xs.length = n * sz) (hi : i < n) : chunk (xs ++ ys) sz i = chunk xs sz i := by
  have hle : i * sz + sz ≤ n * sz := by rw [← Nat.succ_mul]; exact Nat.mul_le_mul_right _ hi
  refine chunk_ext fun k hk => ?_
  rw [List.getElem?_append_left (by omega)]
theorem chunk_app_eq {xs ys : List Value} {sz n : Nat} (hx : xs.length = n * sz) (hy : ys.length = sz) : chunk (xs ++ ys) sz n = ys := by
  unfold chunk
  rw [List.drop_append_of_le_length (by omega), List.drop_of_length_le (by omega), List.nil_append, List.take_of_length_le (by omega)]

/-- What an append of one element makes of the row. -/
theorem run_app_elem (T t : TypeId) (e : Sh) (z : Value) (bytes : Nat) (hT : Tryz.prog.underlying T = some (.slice t)) (hinfo : (Tryz.prog.info? t).map (fun i => (i.zero, i.size, i.bytes)) = some (some z, e.sz, bytes)) (hzs : z.cells.size = e.sz) (hsz : 0 < e.sz) (hby : bytes ≤ 1000) (ty : TypeId)
    (w : World) (lo hi lo2 hi2 : Nat) (l : List e.El) (v : Value) (h : Own w lo hi (.row t e) l [v]) (d : e.El) (cs : List Value) (hd : Own w lo2 hi2 e d cs) (h1 : lo ≤ hi) (h2 : hi ≤ lo2) (h3 : hi2 ≤ w.heap.size) (hn : l.length ≤ 1048576) (hlo : lo ≤ w.heap.size) :
    ∃ v' w', (Builtin.append_ #[T, T] ty #[v, .slice (some ⟨w.heap.size, 0, none⟩) 1 1]).run Tryz.prog (w.alloc (.cells cs.toArray t)) = .ok v' w' ∧ Own w' lo w'.heap.size (.row t e) (l ++ [d]) [v'] ∧ Below lo w w' ∧
      (∀ b, b < w.heap.size → v.ownBlock ≠ some b → w'.heap[b]? = w.heap[b]?) ∧ w.heap.size < w'.heap.size := by
  obtain ⟨i0, hi0, hz0, hz1, hz2⟩ := info_parts hinfo
  obtain ⟨v0, xs, F, e1, ho, hF, hnd, hb, hel, hv⟩ := h.row_to
  simp only [List.cons.injEq, and_true] at e1
  subst e1
  obtain ⟨bs, d1, d2, d3⟩ := hd
  have hlen : cs.length = e.sz := Sh.Ow.len _ _ _ _ d1
  obtain ⟨v', w', hrun, r1, r2, _, r4⟩ := run_append_own_at (P := Tryz.prog) (w.alloc (.cells cs.toArray t)) lo T ty t i0 z e.sz bytes hT hi0 hz0 hz1 hz2 hzs hsz v l.length xs (ho.alloc _) ⟨w.heap.size, 0, none⟩ 1 1 cs (by rw [hlen]; omega) (cells_new w cs t) (Sh.Ow.one _ _ _ _ d1) (by unfold maxLen; omega)
    (by have : (l.length + 1) * bytes ≤ (l.length + 1) * 1000 := Nat.mul_le_mul_left _ hby
        omega) (by simp; omega)
  have hkeep : ∀ b, b < w.heap.size → v.ownBlock ≠ some b → w'.heap[b]? = w.heap[b]? := fun b hb' hne => by
    rw [r2.block b (by simp; omega) (fun e => hne e.symm)]
    exact (World.grownBy_alloc w _ none).block b hb' (by simp)
  have hsize : w.heap.size < w'.heap.size := by have := r2.size; simp at this; omega
  refine ⟨v', w', hrun, ?_, ?_, hkeep, hsize⟩
  · have hvb : ∀ b ∈ F.flatten ++ bs, lo ≤ b ∧ b < w.heap.size ∧ v.ownBlock ≠ some b := by
      intro b hm
      rcases List.mem_append.1 hm with hm | hm
      · obtain ⟨i, hi', hbi⟩ := mem_flatten_getD hm
        exact ⟨(hb b hm).1, Sh.Ow.lt _ _ _ _ (hel i (by omega)) b hbi, (hb b hm).2.2⟩
      · have := d3 b hm
        refine ⟨by omega, by omega, fun e => ?_⟩
        have := hv b e; omega
    have hfl : (F ++ [bs]).flatten = F.flatten ++ bs := by simp
    refine Own.row_of (l := l ++ [d]) (xs := xs ++ cs) (by simpa using r1) (fun b hbv => ?_) (F ++ [bs]) (by simp [hF]) ?_ ?_ (fun i hi' => ?_)
    · rcases r4 with r4 | r4
      · have hbw := (ho.lt b (r4 ▸ hbv)).2; omega
      · rw [r4] at hbv; simp at hbv
        -- the new row lies behind the element's cells
        have := (r1.lt b (by rw [r4]; simp [hbv])).2
        omega
    · rw [hfl, List.nodup_append]
      refine ⟨hnd, d2, fun a ha b hb' e => ?_⟩
      have := (hb a ha).2.1; have := (d3 b hb').1; omega
    · rw [hfl]
      intro b hm
      obtain ⟨g1, g2, g3⟩ := hvb b hm
      refine ⟨g1, by omega, fun e => ?_⟩
      rcases r4 with r4 | r4
      · exact g3 (r4 ▸ e)
      · rw [r4] at e; simp at e; omega
    · have hi2' : i < l.length + 1 := by simpa using hi'
      have hgd : (F ++ [bs]).getD i [] = if i < l.length then F.getD i [] else bs := by
        simp only [List.getD_eq_getElem?_getD]
        split
        · rw [List.getElem?_append_left (by omega)]
        · rw [List.getElem?_append_right (by omega), show i - F.length = 0 by omega]; rfl
      rw [hgd]
      by_cases hlt : i < l.length
      · rw [if_pos hlt, chunk_app_lt ho.1 hlt, List.getElem_append_left hlt]
        refine Sh.Ow.keep _ _ _ _ (fun b hbm => ?_) (hel i hlt)
        obtain ⟨g1, g2, g3⟩ := hvb b (List.mem_append_left _ (getD_mem_flatten hbm))
        exact hkeep b g2 g3
      · have hie : i = l.length := by omega
        subst hie
        rw [if_neg hlt, chunk_app_eq ho.1 hlen, List.getElem_append_right (Nat.le_refl _)]
        simp only [Nat.sub_self, List.getElem_cons_zero]
        refine Sh.Ow.keep _ _ _ _ (fun b hbm => ?_) d1
        obtain ⟨g1, g2, g3⟩ := hvb b (List.mem_append_right _ hbm)
        exact hkeep b g2 g3
  · refine ⟨r2.os.trans rfl, r2.tape.trans rfl, r2.output.trans rfl, by omega, fun k hk => hkeep k (by omega) fun e => ?_⟩
    have := (ho.lt k e).1; omega

theorem app_elem {ops : Array Oper} {rest : List Oper} {o : Oper} {a : Act} {Q : Exit → Act → World → Prop} (w : World) (hgd : o.guard = none) (s x : Operand) (T t : TypeId) (ho : o.op = .call { callee := .builtin .append, args := #[s, x], argTypes := #[T, T] })
    (e : Sh) (z : Value) (bytes : Nat) (hT : Tryz.prog.underlying T = some (.slice t)) (hinfo : (Tryz.prog.info? t).map (fun i => (i.zero, i.size, i.bytes)) = some (some z, e.sz, bytes)) (hzs : z.cells.size = e.sz) (hsz : 0 < e.sz) (hby : bytes ≤ 1000)
    (lo hi lo2 hi2 : Nat) (l : List e.El) (v : Value) (hs : a.eval s = v) (hx : a.eval x = .slice (some ⟨w.heap.size, 0, none⟩) 1 1) (h : Own w lo hi (.row t e) l [v]) (d : e.El) (cs : List Value) (hd : Own w lo2 hi2 e d cs) (h1 : lo ≤ hi) (h2 : hi ≤ lo2) (h3 : hi2 ≤ w.heap.size) (hn : l.length ≤ 1048576) (hlo : lo ≤ w.heap.size)
    (hK : ∀ v' w', Own w' lo w'.heap.size (.row t e) (l ++ [d]) [v'] → Below lo w w' → (∀ b, b < w.heap.size → v.ownBlock ≠ some b → w'.heap[b]? = w.heap[b]?) → w.heap.size < w'.heap.size → wpList Tryz.prog ops Q rest (a.put o.dst v') w') :
    wpList Tryz.prog ops Q (o :: rest) a (w.alloc (.cells cs.toArray t)) := by
  obtain ⟨v', w', hrun, r1, r2, r3, r4⟩ := run_app_elem T t e z bytes hT hinfo hzs hsz hby o.type w lo hi lo2 hi2 l v h d cs hd h1 h2 h3 hn hlo
  refine wpList_plain hgd fun K hK' => ?_
  unfold Oper.wp execOp
  simp only [ho, resolve, invoke, builtin, Sem.run_bind, Sem.run_pure, Result.andThen_ok, List.map_toArray, List.map_cons, List.map_nil, hs, hx, hrun]
  exact hK' _ _ (hK v' w' r1 r2 r3 r4)

/-- The same, where the new element lies told by a letter. -/
theorem app_elem_at {ops : Array Oper} {rest : List Oper} {o : Oper} {a : Act} {Q : Exit → Act → World → Prop} (w : World) (H : Nat) (hH : H = w.heap.size) (hgd : o.guard = none) (s x : Operand) (T t : TypeId) (ho : o.op = .call { callee := .builtin .append, args := #[s, x], argTypes := #[T, T] })
    (e : Sh) (z : Value) (bytes : Nat) (hT : Tryz.prog.underlying T = some (.slice t)) (hinfo : (Tryz.prog.info? t).map (fun i => (i.zero, i.size, i.bytes)) = some (some z, e.sz, bytes)) (hzs : z.cells.size = e.sz) (hsz : 0 < e.sz) (hby : bytes ≤ 1000)
    (lo hi lo2 hi2 : Nat) (l : List e.El) (v : Value) (hs : a.eval s = v) (hx : a.eval x = .slice (some ⟨H, 0, none⟩) 1 1) (h : Own w lo hi (.row t e) l [v]) (d : e.El) (cs : List Value) (hd : Own w lo2 hi2 e d cs) (h1 : lo ≤ hi) (h2 : hi ≤ lo2) (h3 : hi2 ≤ w.heap.size) (hn : l.length ≤ 1048576) (hlo : lo ≤ w.heap.size)
    (hK : ∀ v' w', Own w' lo w'.heap.size (.row t e) (l ++ [d]) [v'] → Below lo w w' → (∀ b, b < w.heap.size → v.ownBlock ≠ some b → w'.heap[b]? = w.heap[b]?) → w.heap.size < w'.heap.size → wpList Tryz.prog ops Q rest (a.put o.dst v') w') :
    wpList Tryz.prog ops Q (o :: rest) a (w.alloc (.cells cs.toArray t)) := by
  subst hH
  exact app_elem w hgd s x T t ho e z bytes hT hinfo hzs hsz hby lo hi lo2 hi2 l v hs hx h d cs hd h1 h2 h3 hn hlo hK

theorem app_elem_st {ops : Array Oper} {o : Oper} {a : Act} {Q : Exit → Act → World → Prop} {K : Act → World → Prop} {E : Prop} (w : World) (hgd : o.guard = none) (s x : Operand) (T t : TypeId) (ho : o.op = .call { callee := .builtin .append, args := #[s, x], argTypes := #[T, T] })
    (e : Sh) (z : Value) (bytes : Nat) (hT : Tryz.prog.underlying T = some (.slice t)) (hinfo : (Tryz.prog.info? t).map (fun i => (i.zero, i.size, i.bytes)) = some (some z, e.sz, bytes)) (hzs : z.cells.size = e.sz) (hsz : 0 < e.sz) (hby : bytes ≤ 1000)
    (lo hi lo2 hi2 : Nat) (l : List e.El) (v : Value) (hs : a.eval s = v) (nb : Nat) (hnb : nb = w.heap.size) (hx : a.eval x = .slice (some ⟨nb, 0, none⟩) 1 1) (h : Own w lo hi (.row t e) l [v]) (d : e.El) (cs : List Value) (hd : Own w lo2 hi2 e d cs) (h1 : lo ≤ hi) (h2 : hi ≤ lo2) (h3 : hi2 ≤ w.heap.size) (hn : l.length ≤ 1048576) (hlo : lo ≤ w.heap.size)
    (hK : ∀ v' w', Own w' lo w'.heap.size (.row t e) (l ++ [d]) [v'] → Below lo w w' → (∀ b, b < w.heap.size → v.ownBlock ≠ some b → w'.heap[b]? = w.heap[b]?) → w.heap.size < w'.heap.size → K (a.put o.dst v') w') :
    if Region.wanted o (yielded ops a.tmps) = true then Oper.wp Tryz.prog o a (w.alloc (.cells cs.toArray t)) K Q else E := by
  subst hnb
  have hw : Region.wanted o (yielded ops a.tmps) = true := by simp [Region.wanted, hgd]
  rw [if_pos hw]
  obtain ⟨v', w', hrun, r1, r2, r3, r4⟩ := run_app_elem T t e z bytes hT hinfo hzs hsz hby o.type w lo hi lo2 hi2 l v h d cs hd h1 h2 h3 hn hlo
  unfold Oper.wp execOp
  simp only [ho, resolve, invoke, builtin, Sem.run_bind, Sem.run_pure, Result.andThen_ok, List.map_toArray, List.map_cons, List.map_nil, hs, hx, hrun]
  exact hK v' w' r1 r2 r3 r4
end Go.Proofs.YteaddhldleeaiaaGreat

/- Marks laid over spans, and what is held of them; no condition but on lengths. -/
namespace Go.Proofs.YteaddhldleeaiaaGreat
open Go.RowKit
set_option linter.unusedVariables false

/-! ### Rows that begin at a place of their block -/
def chunkO (xs : List Value) (off sz i : Nat) : List Value := (xs.drop (off + i * sz)).take sz
theorem chunkO_get {xs : List Value} {off sz i j : Nat} (hj : j < sz) : (chunkO xs off sz i)[j]? = xs[off + i * sz + j]? := by
  unfold chunkO; rw [List.getElem?_take_of_lt hj, List.getElem?_drop]
theorem chunkO_ext {xs ys : List Value} {off sz i : Nat} (h : ∀ k, k < sz → xs[off + i * sz + k]? = ys[off + i * sz + k]?) : chunkO xs off sz i = chunkO ys off sz i := by
  apply List.ext_getElem?
  intro k
  by_cases hk : k < sz
  · rw [chunkO_get hk, chunkO_get hk, h k hk]
  · rw [List.getElem?_eq_none (by unfold chunkO; simp; omega), List.getElem?_eq_none (by unfold chunkO; simp; omega)]
theorem chunkO_set1 {cur : Array Value} {off sz k j i : Nat} {v : Value} (hj : j < sz) (hk : off + k * sz + sz ≤ cur.size) : chunkO (cur.setIfInBounds (off + k * sz + j) v).toList off sz i = if i = k then (chunkO cur.toList off sz k).set j v else chunkO cur.toList off sz i := by
  rw [Array.toList_setIfInBounds]
  split
  · rename_i e; subst e
    apply List.ext_getElem?
    intro q
    by_cases hq : q < sz
    · rw [chunkO_get hq]
      by_cases e : q = j
      · subst e
        rw [List.getElem?_set_self (by simp; omega), List.getElem?_set_self (by unfold chunkO; simp; omega)]
      · rw [List.getElem?_set_ne (by omega), List.getElem?_set_ne (by omega), chunkO_get hq]
    · rw [List.getElem?_eq_none (by unfold chunkO; simp; omega), List.getElem?_eq_none (by unfold chunkO; simp; omega)]
  · rename_i hne
    refine chunkO_ext fun q hq => ?_
    rw [List.getElem?_set_ne]
    intro e
    rcases Nat.lt_or_gt_of_ne hne with h | h
    · have : i * sz + sz ≤ k * sz := by rw [← Nat.succ_mul]; exact Nat.mul_le_mul_right _ h
      omega
    · have : k * sz + sz ≤ i * sz := by rw [← Nat.succ_mul]; exact Nat.mul_le_mul_right _ h
      omega
theorem ow_elemO {w : World} {bs : List Nat} {t : TypeId} {e : Sh} {l : List e.El} {a : Option Addr} {n cap : Nat} (h : (Sh.rowO t e).Ow w bs l [.slice a n cap]) (hnd : bs.Nodup) (k : Nat) (hk : k < l.length) :
    ∃ pg off cur bk, a = some ⟨pg, off, none⟩ ∧ pg ∈ bs ∧ w.heap[pg]? = some (.cells cur t (0, 0)) ∧ off + k * e.sz + e.sz ≤ cur.size ∧ List.Nodup bk ∧ e.Ow w bk l[k] (chunkO cur.toList off e.sz k) ∧ (∀ b ∈ bk, b ∈ bs ∧ b ≠ pg) ∧
      ∀ (w' : World) (cur' : Array Value) (d' : e.El), w'.heap[pg]? = some (.cells cur' t (0, 0)) → cur'.size = cur.size → (∀ i, i ≠ k → chunkO cur'.toList off e.sz i = chunkO cur.toList off e.sz i) → e.Ow w' bk d' (chunkO cur'.toList off e.sz k) →
        (∀ b ∈ bs, b ≠ pg → b ∉ bk → w'.heap[b]? = w.heap[b]?) → (Sh.rowO t e).Ow w' bs (l.set k d') [.slice a n cap] := by
  rcases h with ⟨_, rfl, _⟩ | ⟨g, off, cap', cur, F, e1, rfl, h3, h4, h5, h6, h7, h8⟩
  · simp at hk
  · simp only [List.cons.injEq, Value.slice.injEq, and_true] at e1
    obtain ⟨rfl, rfl, rfl⟩ := e1
    obtain ⟨hg1, hg2⟩ := List.nodup_cons.1 hnd
    have hle : off + k * e.sz + e.sz ≤ cur.size := by
      have : k * e.sz + e.sz ≤ l.length * e.sz := by rw [← Nat.succ_mul]; exact Nat.mul_le_mul_right _ hk
      omega
    have hkF : k < F.length := by omega
    have hpw := List.pairwise_flatten.1 hg2
    refine ⟨g, off, cur, F.getD k [], rfl, by simp, h3, hle, ?_, h8 k hk, fun b hb => ⟨List.mem_cons_of_mem _ (getD_mem_flatten hb), fun e' => hg1 (e' ▸ getD_mem_flatten hb)⟩, ?_⟩
    · rw [List.getD_eq_getElem?_getD, List.getElem?_eq_getElem hkF]
      exact hpw.1 _ (List.getElem_mem hkF)
    · intro w' cur' d' q1 q2 q3 q4 q5
      refine Or.inr ⟨g, off, cap, cur', F, by rw [List.length_set], rfl, q1, by rw [List.length_set]; exact h4, h5, by rw [q2, List.length_set]; exact h6, by rw [List.length_set]; exact h7, fun i hi' => ?_⟩
      have hi2 : i < l.length := by simpa using hi'
      show Sh.Ow _ e _ _ (chunkO cur'.toList off e.sz i)
      by_cases ei : i = k
      · subst ei
        rw [List.getElem_set_self]; exact q4
      · rw [List.getElem_set_ne (by omega), q3 i ei]
        refine Sh.Ow.keep _ _ _ _ (fun b hbm => ?_) (h8 i hi2)
        refine q5 b (List.mem_cons_of_mem _ (getD_mem_flatten hbm)) (fun e' => hg1 (e' ▸ getD_mem_flatten hbm)) fun hb' => ?_
        have hi4 : i < F.length := by omega
        rcases Nat.lt_or_gt_of_ne ei with hlt | hlt
        · exact List.pairwise_iff_getElem.1 hpw.2 i k hi4 hkF hlt b (by simpa [List.getD_eq_getElem?_getD, List.getElem?_eq_getElem hi4] using hbm) b (by simpa [List.getD_eq_getElem?_getD, List.getElem?_eq_getElem hkF] using hb') rfl
        · exact List.pairwise_iff_getElem.1 hpw.2 k i hkF hi4 hlt b (by simpa [List.getD_eq_getElem?_getD, List.getElem?_eq_getElem hkF] using hb') b (by simpa [List.getD_eq_getElem?_getD, List.getElem?_eq_getElem hi4] using hbm) rfl
theorem row_formO {w : World} {B : Nat} {t : TypeId} {e : Sh} {l : List e.El} {cs : List Value} (h : (Sh.rowO t e).Rd w B l cs) : ∃ a cap, cs = [.slice a l.length cap] := by
  obtain ⟨a, cap, h1, _⟩ := h; exact ⟨a, cap, h1⟩
theorem ow_rowO {w : World} {bs : List Nat} {t : TypeId} {e : Sh} {l : List e.El} {cs : List Value} (h : (Sh.row t e).Ow w bs l cs) : (Sh.rowO t e).Ow w bs l cs := by
  rcases h with ⟨h1, h2, h3⟩ | ⟨g, cap, cur, F, h1, h2, h3, h4, h5, h6, h7, h8⟩
  · exact Or.inl ⟨h1, h3, none, 0, h2, Nat.zero_le _, fun _ => rfl⟩
  · refine Or.inr ⟨g, 0, cap, cur, F, h1, h2, h3, h4, h5, ?_, h7, fun i hi => ?_⟩
    · rw [h6, Nat.zero_add]; exact Nat.mul_le_mul_right _ h4
    · rw [Nat.zero_add]; exact h8 i hi
abbrev shSpansO : Sh := .rowO 167 shSpan
theorem rdO_Spans {w : World} {B : Nat} {l : List DSpan} {cs : List Value} (h : shSpansO.Rd w B l cs) : shSpans.Rd w B l cs := h

theorem ow_Span {w : World} {bs : List Nat} {x : DSpan} {cs : List Value} (h : shSpan.Ow w bs x cs) : bs = [] ∧ cs = [.int .i64 x.1, .int .i64 x.2.1] ∧ (Lit.int .i64 x.1).wf = true ∧ (Lit.int .i64 x.2.1).wf = true := by
  obtain ⟨a0, r0, p0, q0, eb0, ec0, ⟨f0, g0, w0⟩, a1, r1, p1, q1, eb1, ec1, ⟨f1, g1, w1⟩, zb, zc⟩ := h
  exact ⟨by rw [eb0, f0, eb1, f1, zb]; rfl, by rw [ec0, g0, ec1, g1, zc]; rfl, w0, w1⟩
theorem mk_Span {w : World} {y0 y1 : Int} (w0 : (Lit.int .i64 y0).wf = true) (w1 : (Lit.int .i64 y1).wf = true) : shSpan.Ow w [] (y0, y1, ()) [.int .i64 y0, .int .i64 y1] :=
  ⟨[], [], [.int .i64 y0], [.int .i64 y1], rfl, rfl, ⟨rfl, rfl, w0⟩, ⟨[], [], [.int .i64 y1], [], rfl, rfl, ⟨rfl, rfl, w1⟩, ⟨rfl, rfl⟩⟩⟩

def wtSpan (x : DSpan) : Nat := 2
def mkSpan (c : Int) (x : DSpan) : DSpan := (c, c + 1, ())
theorem wtSpan_sum : ∀ (l : List DSpan), fsum wtSpan l = 2 * l.length
  | [] => rfl
  | x :: l => by rw [fsum_cons, wtSpan_sum l, List.length_cons]; show 2 + 2 * l.length = _; omega

set_option maxHeartbeats 4000000 in
theorem lMarkSpans (l : List DSpan) (v : Value) (c : Int) (w : World) (bs : List Nat) (ho : shSpansO.Ow w bs l [v]) (hnd : bs.Nodup) (hT : fsum wtSpan l ≤ 1073741824) (hc0 : 0 ≤ c) (hc1 : c ≤ 549755813888) :
    Calls Tryz.prog 83 #[v, .int .i64 c] w fun e w' => e = .returned (.int .i64 (c + (fsum wtSpan l : Nat))) ∧ shSpansO.Ow w' bs (mkL mkSpan wtSpan c l) [v] ∧ Touch bs w w' := by
  obtain ⟨a, cap, ev⟩ := row_formO (Sh.Ow.rd (Nat.le_refl _) _ _ _ _ ho)
  simp only [List.cons.injEq, and_true] at ev
  subst ev
  have HND : Hid _ := hnd
  have HT : Hid (∀ k, fsum wtSpan (l.take k) ≤ 1073741824) := fun k => by have := fsum_le (f := wtSpan) l k; omega
  have hn2 : l.length ≤ 1073741824 := by rw [wtSpan_sum] at hT; omega
  obtain ⟨N, hN⟩ : ∃ n, l.length = n := ⟨_, rfl⟩
  rw [hN] at ho hn2 ⊢
  have HN : Hid (l.length = N) := hN
  have H0 : Hid (shSpansO.Ow w bs (mkL mkSpan wtSpan c (l.take 0) ++ l.drop 0) [.slice a N cap]) := by
    show shSpansO.Ow w bs _ _
    simpa [mkL] using ho
  clear hnd ho hN hT
  go_enter Tryz.func83, Tryz.ntmps83
  go_wp2_with fail
  go_loopw [1, 5] (fun t i wr => ∃ (k : Nat) (x : Int), k ≤ N ∧ i = .int .i64 k ∧ t = .int .i64 x ∧ Hid (x = c + (fsum wtSpan (l.take k) : Nat)) ∧ 0 ≤ x ∧ x ≤ 1099511627776 ∧ Hid (shSpansO.Ow wr bs (mkL mkSpan wtSpan c (l.take k) ++ l.drop k) [.slice a N cap]) ∧ Hid (Touch bs w wr)) (fun _ i _ => N - (intOf i).toNat)
  case atStart => exact ⟨0, c, Nat.zero_le _, rfl, rfl, (by simp [fsum] : c = c + (fsum wtSpan (l.take 0) : Nat)), hc0, by omega, H0, Touch.refl _ _⟩
  case round =>
    obtain ⟨k, x, hk, rfl, rfl, hx, hx0, hx1, HO, HW⟩ := hrel
    clear H0
    by_cases hlt : k < N
    · have hkp : k < l.length := by have := HN.out; omega
      have hlen : (mkL mkSpan wtSpan c (l.take k)).length = k := by rw [mkL_length]; simp; omega
      have hkl : k < (mkL mkSpan wtSpan c (l.take k) ++ l.drop k).length := by simp [hlen]; omega
      have hel : (mkL mkSpan wtSpan c (l.take k) ++ l.drop k)[k] = l[k] := by
        rw [List.getElem_append_right (by omega)]
        simp [hlen]
      obtain ⟨pg, off, cur, bk, ea, g1, g2, g3, g4, g5, g6, UPD⟩ := ow_elemO HO.out HND.out k hkl
      subst ea
      rw [hel] at g5
      obtain ⟨eb, ec, wf0, wf1⟩ := ow_Span g5
      subst eb
      replace g3 : off + k * 2 + 2 ≤ cur.size := g3
      have hpt := fsum_take (f := wtSpan) hkp
      have hle := HT.out (k + 1)
      have hwt : wtSpan l[k] = 2 := rfl
      have HST : Hid ((mkL mkSpan wtSpan c (l.take k) ++ l.drop k).set k (mkSpan x l[k]) = mkL mkSpan wtSpan c (l.take (k + 1)) ++ l.drop (k + 1)) := by
        show _ = _
        rw [hx.out]; exact mkL_step c hkp
      have HX2 : Hid (x + 1 + 1 = c + (fsum wtSpan (l.take (k + 1)) : Nat)) := by have := hx.out; show _ = _; omega
      have hxx : x + 1 + 1 ≤ 1099511627776 := by have := hx.out; omega
      have c0 : wr.cell? ⟨pg, off + k * 2, none⟩ = some (.int .i64 l[k].1) := by
        have h := congrArg (fun l => l[0]?) ec
        replace h : (chunkO cur.toList off 2 k)[0]? = _ := h
        rw [chunkO_get (by decide)] at h
        rw [cell_of_heap g2, ← Array.getElem?_toList]; simpa using h
      have c1 : wr.cell? ⟨pg, off + k * 2 + 1, none⟩ = some (.int .i64 l[k].2.1) := by
        have h := congrArg (fun l => l[1]?) ec
        replace h : (chunkO cur.toList off 2 k)[1]? = _ := h
        rw [chunkO_get (by decide)] at h
        rw [cell_of_heap g2, ← Array.getElem?_toList]; simpa using h
      have fz : ∀ o, wr.frozen? ⟨pg, o, none⟩ = false := fun o => by simp [World.frozen?, g2]
      have fz0 := fz (off + k * 2)
      have fz1 := fz (off + k * 2 + 1)
      have hs1 : (wr.setCell ⟨pg, off + k * 2, none⟩ (.int .i64 x)).cell? ⟨pg, off + k * 2 + 1, none⟩ = some (.int .i64 l[k].2.1) := by rw [World.cell?_setCell_other _ _ _ _ (by simp)]; exact c1
      have hf1 : (wr.setCell ⟨pg, off + k * 2, none⟩ (.int .i64 x)).frozen? ⟨pg, off + k * 2 + 1, none⟩ = false := by simp only [World.frozen?_setCell]; exact fz1
      have HF : Hid (shSpansO.Ow ((wr.setCell ⟨pg, off + k * 2, none⟩ (.int .i64 x)).setCell ⟨pg, off + k * 2 + 1, none⟩ (.int .i64 (x + 1))) bs ((mkL mkSpan wtSpan c (l.take k) ++ l.drop k).set k (x, x + 1, ())) [.slice (some ⟨pg, off, none⟩) N cap]) := by
        refine UPD _ ((cur.setIfInBounds (off + k * 2 + 0) (.int .i64 x)).setIfInBounds (off + k * 2 + 1) (.int .i64 (x + 1))) _ (heap_set (heap_set g2)) (by simp) (fun i hi => ?_) ?_ (fun b hb h1 h2 => ?_)
        · show chunkO _ off 2 i = chunkO _ off 2 i
          rw [chunkO_set1 (sz := 2) (k := k) (by decide) (by have := g3; simp; omega), if_neg hi, chunkO_set1 (sz := 2) (k := k) (by decide) (by have := g3; simp; omega), if_neg hi]
        · show shSpan.Ow _ [] _ (chunkO _ off 2 k)
          have ec' : chunkO cur.toList off 2 k = _ := ec
          rw [chunkO_set1 (sz := 2) (k := k) (by decide) (by have := g3; simp; omega), if_pos rfl, chunkO_set1 (sz := 2) (k := k) (by decide) (by have := g3; simp; omega), if_pos rfl, ec']
          exact mk_Span (WalkArith.wf_i64 (by omega)) (WalkArith.wf_i64 (by omega))
        · repeat rw [Below.heap_setCell _ _ _ _ (by dsimp only; exact h1)]
      have HWb : Hid (Touch bs w ((wr.setCell ⟨pg, off + k * 2, none⟩ (.int .i64 x)).setCell ⟨pg, off + k * 2 + 1, none⟩ (.int .i64 (x + 1)))) := Touch.trans (Touch.trans HW.out (Touch.grown grown_set (fun y e => by simp at e; exact e ▸ g1))) (Touch.grown grown_set (fun y e => by simp at e; exact e ▸ g1))
      have HME : Hid (mkSpan x l[k] = (x, x + 1, ())) := rfl
      rw [HME.out] at HST
      clear UPD hel ec HME g1 g2 g3 g4 g5 g6 hpt hle hwt hlen hkl HO HW wf0 wf1 fz
      generalize l[k].1 = z0 at *
      generalize l[k].2.1 = z1 at *
      go_wp2_with fail
      go_roundw
      case rel => exact ⟨k + 1, x + 1 + 1, by omega, by go_num, rfl, HX2, by omega, hxx, (by show shSpansO.Ow _ bs _ _; rw [← HST.out]; exact HF.out), HWb⟩
      case measure => simp [intOf]; omega
    · obtain rfl : k = N := by omega
      go_wp2_with fail
      go_ret
      refine ⟨ret_int (by have := hx.out; rw [← HN.out, List.take_length] at this; exact this), ?_, HW.out⟩
      have h := HO.out
      rw [← HN.out, List.take_length, List.drop_length, List.append_nil] at h
      rw [← HN.out]; exact h

end Go.Proofs.YteaddhldleeaiaaGreat

/- Marks laid over values of type Catch, and what is held of them; no condition but on lengths. Written by hm.py. -/
namespace Go.Proofs.YteaddhldleeaiaaGreat
open Go.RowKit
set_option linter.unusedVariables false

abbrev shCatchO : Sh := .cons (.int .i64) (.cons (.int .i64) (.cons shSpansO .nil))
theorem rdO_Catch {w : World} {B : Nat} {x : DCatch} {cs : List Value} (h : shCatchO.Rd w B x cs) : shCatch.Rd w B x cs := h
theorem rd_CatchO {w : World} {B : Nat} {x : DCatch} {cs : List Value} (h : shCatchO.Rd w B x cs) : ∃ v, cs = [.int .i64 x.1, .int .i64 x.2.1, v] ∧ shSpansO.Rd w B x.2.2.1 [v] ∧ (Lit.int .i64 x.1).wf = true ∧ (Lit.int .i64 x.2.1).wf = true := by
  obtain ⟨v, h1, h2, h3⟩ := rd_Catch (rdO_Catch h)
  exact ⟨v, h1, h2, h3⟩
theorem ow_CatchO {w : World} {bs : List Nat} {x : DCatch} {cs : List Value} (h : shCatch.Ow w bs x cs) : shCatchO.Ow w bs x cs := by
  obtain ⟨a0, r0, p0, q0, eb0, ec0, h0, a1, r1, p1, q1, eb1, ec1, h1, a2, r2, p2, q2, eb2, ec2, h2, hz⟩ := h
  exact ⟨a0, r0, p0, q0, eb0, ec0, h0, a1, r1, p1, q1, eb1, ec1, h1, a2, r2, p2, q2, eb2, ec2, ow_rowO h2, hz⟩
theorem Own.catO {w : World} {lo hi : Nat} {x : DCatch} {cs : List Value} (h : Own w lo hi shCatch x cs) : Own w lo hi shCatchO x cs := by
  obtain ⟨bs, h1, h2, h3⟩ := h
  exact ⟨bs, ow_CatchO h1, h2, h3⟩
theorem ow_Catch {w : World} {bs : List Nat} {x : DCatch} {cs : List Value} (h : shCatchO.Ow w bs x cs) : ∃ v, cs = [.int .i64 x.1, .int .i64 x.2.1, v] ∧ shSpansO.Ow w bs x.2.2.1 [v] ∧ (Lit.int .i64 x.1).wf = true ∧ (Lit.int .i64 x.2.1).wf = true := by
  obtain ⟨a0, r0, p0, q0, eb0, ec0, ⟨f0, g0, w0⟩, a1, r1, p1, q1, eb1, ec1, ⟨f1, g1, w1⟩, a2, r2, p2, q2, eb2, ec2, h2, zb, zc⟩ := h
  have l := Sh.Ow.len _ _ _ _ h2
  replace l : p2.length = 1 := l
  match p2, l, h2 with
  | [v], _, h2 =>
    have hb : bs = a2 := by rw [eb0, f0, eb1, f1, eb2, zb]; simp
    refine ⟨v, by rw [ec0, g0, ec1, g1, ec2, zc]; rfl, by rw [hb]; exact h2, w0, w1⟩
theorem mk_Catch {w : World} {bs : List Nat} {y0 y1 : Int} {d : List DSpan} {v : Value} (h : shSpansO.Ow w bs d [v]) (w0 : (Lit.int .i64 y0).wf = true) (w1 : (Lit.int .i64 y1).wf = true) : shCatchO.Ow w bs (y0, y1, d, ()) [.int .i64 y0, .int .i64 y1, v] :=
  ⟨[], bs, [.int .i64 y0], [.int .i64 y1, v], rfl, rfl, ⟨rfl, rfl, w0⟩, ⟨[], bs, [.int .i64 y1], [v], rfl, rfl, ⟨rfl, rfl, w1⟩, ⟨bs, [], [v], [], by simp, rfl, h, ⟨rfl, rfl⟩⟩⟩⟩

def wtCatch (x : DCatch) : Nat := fsum wtSpan x.2.2.1
def mkCatch (c : Int) (x : DCatch) : DCatch := (x.1, x.2.1, mkL mkSpan wtSpan c x.2.2.1, ())
theorem wtCatch_le {x : DCatch} (h : totCatch x ≤ 1048576) : wtCatch x ≤ 1073741824 := by
  unfold wtCatch; rw [wtSpan_sum]; unfold totCatch totSpans at h; omega

end Go.Proofs.YteaddhldleeaiaaGreat

/- Marks laid over values of type Flight, and what is held of them; no condition but on lengths. Written by hm.py. -/
namespace Go.Proofs.YteaddhldleeaiaaGreat
open Go.RowKit
set_option linter.unusedVariables false

theorem ow_Flight {w : World} {bs : List Nat} {x : DFlight} {cs : List Value} (h : shFlight.Ow w bs x cs) : ∃ v, cs = [.int .i64 x.1, .int .i64 x.2.1, v, .int .i64 x.2.2.2.1, .int .i64 x.2.2.2.2.1] ∧ u8s.Ow w bs x.2.2.1 [v] ∧ (Lit.int .i64 x.1).wf = true ∧ (Lit.int .i64 x.2.1).wf = true ∧ (Lit.int .i64 x.2.2.2.1).wf = true ∧ (Lit.int .i64 x.2.2.2.2.1).wf = true := by
  obtain ⟨a0, r0, p0, q0, eb0, ec0, ⟨f0, g0, w0⟩, a1, r1, p1, q1, eb1, ec1, ⟨f1, g1, w1⟩, a2, r2, p2, q2, eb2, ec2, h2, a3, r3, p3, q3, eb3, ec3, ⟨f3, g3, w3⟩, a4, r4, p4, q4, eb4, ec4, ⟨f4, g4, w4⟩, zb, zc⟩ := h
  have l := Sh.Ow.len _ _ _ _ h2
  replace l : p2.length = 1 := l
  match p2, l, h2 with
  | [v], _, h2 =>
    have hb : bs = a2 := by rw [eb0, f0, eb1, f1, eb2, eb3, f3, eb4, f4, zb]; simp
    refine ⟨v, by rw [ec0, g0, ec1, g1, ec2, ec3, g3, ec4, g4, zc]; rfl, by rw [hb]; exact h2, w0, w1, w3, w4⟩
theorem mk_Flight {w : World} {bs : List Nat} {y0 y1 y3 y4 : Int} {d : List Int} {v : Value} (h : u8s.Ow w bs d [v]) (w0 : (Lit.int .i64 y0).wf = true) (w1 : (Lit.int .i64 y1).wf = true) (w3 : (Lit.int .i64 y3).wf = true) (w4 : (Lit.int .i64 y4).wf = true) : shFlight.Ow w bs (y0, y1, d, y3, y4, ()) [.int .i64 y0, .int .i64 y1, v, .int .i64 y3, .int .i64 y4] :=
  ⟨[], bs, [.int .i64 y0], [.int .i64 y1, v, .int .i64 y3, .int .i64 y4], rfl, rfl, ⟨rfl, rfl, w0⟩, ⟨[], bs, [.int .i64 y1], [v, .int .i64 y3, .int .i64 y4], rfl, rfl, ⟨rfl, rfl, w1⟩, ⟨bs, [], [v], [.int .i64 y3, .int .i64 y4], by simp, rfl, h, ⟨[], [], [.int .i64 y3], [.int .i64 y4], rfl, rfl, ⟨rfl, rfl, w3⟩, ⟨[], [], [.int .i64 y4], [], rfl, rfl, ⟨rfl, rfl, w4⟩, ⟨rfl, rfl⟩⟩⟩⟩⟩⟩

def wtFlight (x : DFlight) : Nat := 4 + x.2.2.1.length
def mkFlight (c : Int) (x : DFlight) : DFlight := (c, c + 1, marks (c + 1 + 1) x.2.2.1.length, c + 1 + 1 + (x.2.2.1.length : Nat), c + 1 + 1 + (x.2.2.1.length : Nat) + 1, ())
theorem wtFlight_sum (l : List DFlight) : fsum wtFlight l = 4 * l.length + fsum totFlight l := fsum_add 4 totFlight l

set_option maxHeartbeats 4000000 in
theorem lMarkFlights (l : List DFlight) (v : Value) (c : Int) (w : World) (bs : List Nat) (ho : shFlights.Ow w bs l [v]) (hnd : bs.Nodup) (hT : fsum wtFlight l ≤ 1073741824) (hc0 : 0 ≤ c) (hc1 : c ≤ 549755813888) :
    Calls Tryz.prog 82 #[v, .int .i64 c] w fun e w' => e = .returned (.int .i64 (c + (fsum wtFlight l : Nat))) ∧ shFlights.Ow w' bs (mkL mkFlight wtFlight c l) [v] ∧ Touch bs w w' := by
  obtain ⟨a, cap, ev⟩ := row_form (Sh.Ow.rd (Nat.le_refl _) _ _ _ _ ho)
  simp only [List.cons.injEq, and_true] at ev
  subst ev
  have HND : Hid _ := hnd
  have HT : Hid (∀ k, fsum wtFlight (l.take k) ≤ 1073741824) := fun k => by have := fsum_le (f := wtFlight) l k; omega
  have hn2 : l.length ≤ 1073741824 := by rw [wtFlight_sum] at hT; omega
  obtain ⟨N, hN⟩ : ∃ n, l.length = n := ⟨_, rfl⟩
  rw [hN] at ho hn2 ⊢
  have HN : Hid (l.length = N) := hN
  have H0 : Hid (shFlights.Ow w bs (mkL mkFlight wtFlight c (l.take 0) ++ l.drop 0) [.slice a N cap]) := by
    show shFlights.Ow w bs _ _
    simpa [mkL] using ho
  clear hnd ho hN hT
  go_enter Tryz.func82, Tryz.ntmps82
  go_wp2_with fail
  go_loopw [1, 5] (fun t i wr => ∃ (k : Nat) (x : Int), k ≤ N ∧ i = .int .i64 k ∧ t = .int .i64 x ∧ Hid (x = c + (fsum wtFlight (l.take k) : Nat)) ∧ 0 ≤ x ∧ x ≤ 1099511627776 ∧ Hid (shFlights.Ow wr bs (mkL mkFlight wtFlight c (l.take k) ++ l.drop k) [.slice a N cap]) ∧ Hid (Touch bs w wr)) (fun _ i _ => N - (intOf i).toNat)
  case atStart => exact ⟨0, c, Nat.zero_le _, rfl, rfl, (by simp [fsum] : c = c + (fsum wtFlight (l.take 0) : Nat)), hc0, by omega, H0, Touch.refl _ _⟩
  case round =>
    obtain ⟨k, x, hk, rfl, rfl, hx, hx0, hx1, HO, HW⟩ := hrel
    clear H0
    by_cases hlt : k < N
    · have hkp : k < l.length := by have := HN.out; omega
      have hlen : (mkL mkFlight wtFlight c (l.take k)).length = k := by rw [mkL_length]; simp; omega
      have hkl : k < (mkL mkFlight wtFlight c (l.take k) ++ l.drop k).length := by simp [hlen]; omega
      have hel : (mkL mkFlight wtFlight c (l.take k) ++ l.drop k)[k] = l[k] := by
        rw [List.getElem_append_right (by omega)]
        simp [hlen]
      obtain ⟨pg, cur, bk, ea, g1, g2, g3, g4, g5, g6, UPD⟩ := ow_elem HO.out HND.out k hkl
      subst ea
      rw [hel] at g5
      obtain ⟨v, ec, hK, wf0, wf1, wf3, wf4⟩ := ow_Flight g5
      obtain ⟨va, vc, ev⟩ := row_form (Sh.Ow.rd (Nat.le_refl _) _ _ _ _ hK)
      simp only [List.cons.injEq, and_true] at ev
      subst ev
      have hpt := fsum_take (f := wtFlight) hkp
      have hle := HT.out (k + 1)
      have hwt : wtFlight l[k] = 4 + l[k].2.2.1.length := rfl
      have HST : Hid ((mkL mkFlight wtFlight c (l.take k) ++ l.drop k).set k (mkFlight x l[k]) = mkL mkFlight wtFlight c (l.take (k + 1)) ++ l.drop (k + 1)) := by
        show _ = _
        rw [hx.out]; exact mkL_step c hkp
      have HX2 : Hid (x + 1 + 1 + (l[k].2.2.1.length : Int) + 1 + 1 = c + (fsum wtFlight (l.take (k + 1)) : Nat)) := by have := hx.out; show _ = _; omega
      have hxx : x + 1 + 1 + (l[k].2.2.1.length : Int) + 1 + 1 ≤ 1099511627776 := by have := hx.out; omega
      have hdl : l[k].2.2.1.length ≤ 1073741824 := by omega
      replace hK : u8s.Ow wr bk l[k].2.2.1 [.slice va l[k].2.2.1.length vc] := hK
      have c0 : wr.cell? ⟨pg, k * 5, none⟩ = some (.int .i64 l[k].1) := by
        have h := congrArg (fun l => l[0]?) ec
        replace h : (chunk cur.toList 5 k)[0]? = _ := h
        rw [chunk_get (by decide)] at h
        rw [cell_of_heap g2, ← Array.getElem?_toList]; simpa using h
      have c1 : wr.cell? ⟨pg, k * 5 + 1, none⟩ = some (.int .i64 l[k].2.1) := by
        have h := congrArg (fun l => l[1]?) ec
        replace h : (chunk cur.toList 5 k)[1]? = _ := h
        rw [chunk_get (by decide)] at h
        rw [cell_of_heap g2, ← Array.getElem?_toList]; simpa using h
      have c2 : wr.cell? ⟨pg, k * 5 + 2, none⟩ = some (.slice va l[k].2.2.1.length vc) := by
        have h := congrArg (fun l => l[2]?) ec
        replace h : (chunk cur.toList 5 k)[2]? = _ := h
        rw [chunk_get (by decide)] at h
        rw [cell_of_heap g2, ← Array.getElem?_toList]; simpa using h
      have c3 : wr.cell? ⟨pg, k * 5 + 3, none⟩ = some (.int .i64 l[k].2.2.2.1) := by
        have h := congrArg (fun l => l[3]?) ec
        replace h : (chunk cur.toList 5 k)[3]? = _ := h
        rw [chunk_get (by decide)] at h
        rw [cell_of_heap g2, ← Array.getElem?_toList]; simpa using h
      have c4 : wr.cell? ⟨pg, k * 5 + 4, none⟩ = some (.int .i64 l[k].2.2.2.2.1) := by
        have h := congrArg (fun l => l[4]?) ec
        replace h : (chunk cur.toList 5 k)[4]? = _ := h
        rw [chunk_get (by decide)] at h
        rw [cell_of_heap g2, ← Array.getElem?_toList]; simpa using h
      have fz : ∀ o, wr.frozen? ⟨pg, o, none⟩ = false := fun o => by simp [World.frozen?, g2]
      have fz0 := fz (k * 5)
      have fz1 := fz (k * 5 + 1)
      have hs1 : (wr.setCell ⟨pg, k * 5, none⟩ (.int .i64 x)).cell? ⟨pg, k * 5 + 1, none⟩ = some (.int .i64 l[k].2.1) := by rw [World.cell?_setCell_other _ _ _ _ (by simp)]; exact c1
      have hf1 : (wr.setCell ⟨pg, k * 5, none⟩ (.int .i64 x)).frozen? ⟨pg, k * 5 + 1, none⟩ = false := by simp only [World.frozen?_setCell]; exact fz1
      have ck : ((wr.setCell ⟨pg, k * 5, none⟩ (.int .i64 x)).setCell ⟨pg, k * 5 + 1, none⟩ (.int .i64 (x + 1))).cell? ⟨pg, k * 5 + 2, none⟩ = some (.slice va l[k].2.2.1.length vc) := by rw [World.cell?_setCell_other _ _ _ _ (by simp), World.cell?_setCell_other _ _ _ _ (by simp)]; exact c2
      have HA : Hid (((wr.setCell ⟨pg, k * 5, none⟩ (.int .i64 x)).setCell ⟨pg, k * 5 + 1, none⟩ (.int .i64 (x + 1))).heap[pg]? = some (.cells ((cur.setIfInBounds (k * 5 + 0) (.int .i64 (x))).setIfInBounds (k * 5 + 1) (.int .i64 (x + 1))) 165 (0, 0))) := heap_set (heap_set (g2))
      have HKa : Hid (u8s.Ow ((wr.setCell ⟨pg, k * 5, none⟩ (.int .i64 x)).setCell ⟨pg, k * 5 + 1, none⟩ (.int .i64 (x + 1))) bk l[k].2.2.1 [.slice va l[k].2.2.1.length vc]) := Sh.Ow.keep _ _ _ _ (fun b hb => by repeat rw [Below.heap_setCell _ _ _ _ (by dsimp only; exact (g6 b hb).2)]) hK
      have HWa : Hid (Touch bs w ((wr.setCell ⟨pg, k * 5, none⟩ (.int .i64 x)).setCell ⟨pg, k * 5 + 1, none⟩ (.int .i64 (x + 1)))) := Touch.trans (Touch.trans (HW.out) (Touch.grown grown_set (fun y e => by simp at e; exact e ▸ g1))) (Touch.grown grown_set (fun y e => by simp at e; exact e ▸ g1))
      have HSa : Hid (∀ b, b ≠ pg → ((wr.setCell ⟨pg, k * 5, none⟩ (.int .i64 x)).setCell ⟨pg, k * 5 + 1, none⟩ (.int .i64 (x + 1))).heap[b]? = wr.heap[b]?) := fun b hb => by repeat rw [Below.heap_setCell _ _ _ _ (by dsimp only; exact hb)]
      have HPG : Hid (pg ∉ bk) := fun h => (g6 pg h).2 rfl
      have HG1 : Hid _ := g1
      have HG6 : Hid _ := g6
      have HBK : Hid _ := g4
      have HPL : Hid (pg < ((wr.setCell ⟨pg, k * 5, none⟩ (.int .i64 x)).setCell ⟨pg, k * 5 + 1, none⟩ (.int .i64 (x + 1))).heap.size) := by show _ < _; have := heap_lt g2; simpa using this
      have HBL : Hid (∀ b ∈ bs, b < wr.heap.size) := Sh.Ow.lt _ _ _ _ HO.out
      have HSZ : Hid (((wr.setCell ⟨pg, k * 5, none⟩ (.int .i64 x)).setCell ⟨pg, k * 5 + 1, none⟩ (.int .i64 (x + 1))).heap.size = wr.heap.size) := by show _ = _; simp
      have HEC : Hid (chunk cur.toList 5 k = _) := ec
      have HG3 : Hid (k * 5 + 5 ≤ cur.size) := g3
      have HU : Hid _ := UPD
      have HME : Hid (mkFlight x l[k] = (x, x + 1, marks (x + 1 + 1) l[k].2.2.1.length, x + 1 + 1 + (l[k].2.2.1.length : Nat), x + 1 + 1 + (l[k].2.2.1.length : Nat) + 1, ())) := rfl
      rw [HME.out] at HST
      clear UPD hel ec hK HME g1 g2 g3 g4 g5 g6 hpt hle hwt hlen hkl HO HW wf0 wf1 wf3 wf4
      generalize l[k].1 = z0 at *
      generalize l[k].2.1 = z1 at *
      generalize l[k].2.2.2.1 = z3 at *
      generalize l[k].2.2.2.2.1 = z4 at *
      generalize l[k].2.2.1 = d at *
      generalize hn : d.length = n at *
      have HD : Hid (d.length = n) := hn
      clear hn
      go_wp2_with fail
      refine (lMarkBytesW d _ (x + 1 + 1) _ bk HKa.out HBK.out (by have := HD.out; omega) (by omega) (by omega)).mono ?_
      rintro e w1 ⟨rfl, ho1, ht1⟩
      rw [HD.out] at ho1 ⊢
      have HB1 : Hid (w1.heap[pg]? = some (.cells ((cur.setIfInBounds (k * 5 + 0) (.int .i64 (x))).setIfInBounds (k * 5 + 1) (.int .i64 (x + 1))) 165 (0, 0))) := by show _ = _; rw [ht1.block pg HPL.out HPG.out]; exact HA.out
      have d_ : ∀ o, w1.cell? ⟨pg, o, none⟩ = ((wr.setCell ⟨pg, k * 5, none⟩ (.int .i64 x)).setCell ⟨pg, k * 5 + 1, none⟩ (.int .i64 (x + 1))).cell? ⟨pg, o, none⟩ := fun o => World.cell?_of_block (w := ((wr.setCell ⟨pg, k * 5, none⟩ (.int .i64 x)).setCell ⟨pg, k * 5 + 1, none⟩ (.int .i64 (x + 1)))) (a := ⟨pg, o, none⟩) (ht1.block pg HPL.out HPG.out)
      have fy : ∀ o, w1.frozen? ⟨pg, o, none⟩ = false := fun o => by simp [World.frozen?, HB1.out]
      have e3 : w1.cell? ⟨pg, k * 5 + 3, none⟩ = some (.int .i64 z3) := by rw [d_ (k * 5 + 3), World.cell?_setCell_other _ _ _ _ (by simp), World.cell?_setCell_other _ _ _ _ (by simp)]; exact c3
      have fy3 := fy (k * 5 + 3)
      have e4 : w1.cell? ⟨pg, k * 5 + 4, none⟩ = some (.int .i64 z4) := by rw [d_ (k * 5 + 4), World.cell?_setCell_other _ _ _ _ (by simp), World.cell?_setCell_other _ _ _ _ (by simp)]; exact c4
      have fy4 := fy (k * 5 + 4)
      have es4 : (w1.setCell ⟨pg, k * 5 + 3, none⟩ (.int .i64 (x + 1 + 1 + (n : Int)))).cell? ⟨pg, k * 5 + 4, none⟩ = some (.int .i64 z4) := by rw [World.cell?_setCell_other _ _ _ _ (by simp)]; exact e4
      have ef4 : (w1.setCell ⟨pg, k * 5 + 3, none⟩ (.int .i64 (x + 1 + 1 + (n : Int)))).frozen? ⟨pg, k * 5 + 4, none⟩ = false := by simp only [World.frozen?_setCell]; exact fy4
      have HF : Hid (shFlights.Ow ((w1.setCell ⟨pg, k * 5 + 3, none⟩ (.int .i64 (x + 1 + 1 + (n : Int)))).setCell ⟨pg, k * 5 + 4, none⟩ (.int .i64 (x + 1 + 1 + (n : Int) + 1))) bs ((mkL mkFlight wtFlight c (l.take k) ++ l.drop k).set k (x, x + 1, marks (x + 1 + 1) n, x + 1 + 1 + (n : Nat), x + 1 + 1 + (n : Nat) + 1, ())) [.slice (some ⟨pg, 0, none⟩) N cap]) := by
        refine HU.out _ ((((cur.setIfInBounds (k * 5 + 0) (.int .i64 (x))).setIfInBounds (k * 5 + 1) (.int .i64 (x + 1))).setIfInBounds (k * 5 + 3) (.int .i64 (x + 1 + 1 + (n : Int)))).setIfInBounds (k * 5 + 4) (.int .i64 (x + 1 + 1 + (n : Int) + 1))) _ (heap_set (heap_set (HB1.out))) (by simp) (fun i hi => ?_) ?_ (fun b hb h1 h2 => ?_)
        · show chunk _ 5 i = chunk _ 5 i
          rw [chunk_set1 (sz := 5) (k := k) (by decide) (by have := HG3.out; simp; omega), if_neg hi, chunk_set1 (sz := 5) (k := k) (by decide) (by have := HG3.out; simp; omega), if_neg hi, chunk_set1 (sz := 5) (k := k) (by decide) (by have := HG3.out; simp; omega), if_neg hi, chunk_set1 (sz := 5) (k := k) (by decide) (by have := HG3.out; simp; omega), if_neg hi]
        · show shFlight.Ow _ bk _ (chunk _ 5 k)
          rw [chunk_set1 (sz := 5) (k := k) (by decide) (by have := HG3.out; simp; omega), if_pos rfl, chunk_set1 (sz := 5) (k := k) (by decide) (by have := HG3.out; simp; omega), if_pos rfl, chunk_set1 (sz := 5) (k := k) (by decide) (by have := HG3.out; simp; omega), if_pos rfl, chunk_set1 (sz := 5) (k := k) (by decide) (by have := HG3.out; simp; omega), if_pos rfl, HEC.out]
          refine mk_Flight (Sh.Ow.keep _ _ _ _ (fun b hb => by repeat rw [Below.heap_setCell _ _ _ _ (by dsimp only; exact (HG6.out b hb).2)]) ho1) (WalkArith.wf_i64 (by omega)) (WalkArith.wf_i64 (by omega)) (WalkArith.wf_i64 (by omega)) (WalkArith.wf_i64 (by omega))
        · repeat rw [Below.heap_setCell _ _ _ _ (by dsimp only; exact h1)]
          rw [ht1.block b (by rw [HSZ.out]; exact HBL.out b hb) h2]
          exact HSa.out b h1
      have HWb : Hid (Touch bs w ((w1.setCell ⟨pg, k * 5 + 3, none⟩ (.int .i64 (x + 1 + 1 + (n : Int)))).setCell ⟨pg, k * 5 + 4, none⟩ (.int .i64 (x + 1 + 1 + (n : Int) + 1)))) := Touch.trans (Touch.trans (Touch.trans HWa.out (Touch.mono ht1 fun y hy => (HG6.out y hy).1)) (Touch.grown grown_set (fun y e => by simp at e; exact e ▸ HG1.out))) (Touch.grown grown_set (fun y e => by simp at e; exact e ▸ HG1.out))
      clear ho1 ht1 d_ fy
      go_wp2_with fail
      go_roundw
      case rel => exact ⟨k + 1, x + 1 + 1 + (n : Int) + 1 + 1, by omega, by go_num, rfl, HX2, by omega, hxx, (by show shFlights.Ow _ bs _ _; rw [← HST.out]; exact HF.out), HWb⟩
      case measure => simp [intOf]; omega
    · obtain rfl : k = N := by omega
      go_wp2_with fail
      go_ret
      refine ⟨ret_int (by have := hx.out; rw [← HN.out, List.take_length] at this; exact this), ?_, HW.out⟩
      have h := HO.out
      rw [← HN.out, List.take_length, List.drop_length, List.append_nil] at h
      rw [← HN.out]; exact h

end Go.Proofs.YteaddhldleeaiaaGreat

/- Marks laid over values of type Sender, and what is held of them; no condition but on lengths. Written by hm.py. -/
namespace Go.Proofs.YteaddhldleeaiaaGreat
open Go.RowKit
set_option linter.unusedVariables false

theorem ow_Sender {w : World} {bs : List Nat} {x : DSender} {cs : List Value} (h : shSender.Ow w bs x cs) : ∃ v, cs = [.int .i64 x.1, .int .i64 x.2.1, .int .i64 x.2.2.1, v] ∧ shFlights.Ow w bs x.2.2.2.1 [v] ∧ (Lit.int .i64 x.1).wf = true ∧ (Lit.int .i64 x.2.1).wf = true ∧ (Lit.int .i64 x.2.2.1).wf = true := by
  obtain ⟨a0, r0, p0, q0, eb0, ec0, ⟨f0, g0, w0⟩, a1, r1, p1, q1, eb1, ec1, ⟨f1, g1, w1⟩, a2, r2, p2, q2, eb2, ec2, ⟨f2, g2, w2⟩, a3, r3, p3, q3, eb3, ec3, h3, zb, zc⟩ := h
  have l := Sh.Ow.len _ _ _ _ h3
  replace l : p3.length = 1 := l
  match p3, l, h3 with
  | [v], _, h3 =>
    have hb : bs = a3 := by rw [eb0, f0, eb1, f1, eb2, f2, eb3, zb]; simp
    refine ⟨v, by rw [ec0, g0, ec1, g1, ec2, g2, ec3, zc]; rfl, by rw [hb]; exact h3, w0, w1, w2⟩
theorem mk_Sender {w : World} {bs : List Nat} {y0 y1 y2 : Int} {d : List DFlight} {v : Value} (h : shFlights.Ow w bs d [v]) (w0 : (Lit.int .i64 y0).wf = true) (w1 : (Lit.int .i64 y1).wf = true) (w2 : (Lit.int .i64 y2).wf = true) : shSender.Ow w bs (y0, y1, y2, d, ()) [.int .i64 y0, .int .i64 y1, .int .i64 y2, v] :=
  ⟨[], bs, [.int .i64 y0], [.int .i64 y1, .int .i64 y2, v], rfl, rfl, ⟨rfl, rfl, w0⟩, ⟨[], bs, [.int .i64 y1], [.int .i64 y2, v], rfl, rfl, ⟨rfl, rfl, w1⟩, ⟨[], bs, [.int .i64 y2], [v], rfl, rfl, ⟨rfl, rfl, w2⟩, ⟨bs, [], [v], [], by simp, rfl, h, ⟨rfl, rfl⟩⟩⟩⟩⟩

def wtSender (x : DSender) : Nat := fsum wtFlight x.2.2.2.1
def mkSender (c : Int) (x : DSender) : DSender := (x.1, x.2.1, x.2.2.1, mkL mkFlight wtFlight c x.2.2.2.1, ())
theorem wtSender_le {x : DSender} (h : totSender x ≤ 1048576) : wtSender x ≤ 1073741824 := by
  unfold wtSender; rw [wtFlight_sum]; unfold totSender totFlights at h; omega

end Go.Proofs.YteaddhldleeaiaaGreat

/- Subs whose spans may begin at any place of their block: what is read, what is owned; no condition. -/
namespace Go.Proofs.YteaddhldleeaiaaGreat
open Go.RowKit
set_option linter.unusedVariables false
set_option maxRecDepth 8000

abbrev shSubO : Sh := .cons (.int .i64) (.cons (.int .i64) (.cons .bool (.cons (.int .i64) (.cons (.int .i64) (.cons (.int .i64) (.cons shSender (.cons shCatchO (.cons shControl .nil))))))))
theorem rdO_Sub {w : World} {B : Nat} {x : DSub} {cs : List Value} (h : shSubO.Rd w B x cs) : shSub.Rd w B x cs := h
theorem Own.subO {w : World} {lo hi : Nat} {x : DSub} {cs : List Value} (h : Own w lo hi shSub x cs) : Own w lo hi shSubO x cs := by
  obtain ⟨bs, h, hn, hb⟩ := h
  obtain ⟨a0, r0, p0, q0, eb0, ec0, h0, a1, r1, p1, q1, eb1, ec1, h1, a2, r2, p2, q2, eb2, ec2, h2, a3, r3, p3, q3, eb3, ec3, h3, a4, r4, p4, q4, eb4, ec4, h4, a5, r5, p5, q5, eb5, ec5, h5, a6, r6, p6, q6, eb6, ec6, h6, a7, r7, p7, q7, eb7, ec7, h7, hz⟩ := h
  exact ⟨bs, ⟨a0, r0, p0, q0, eb0, ec0, h0, a1, r1, p1, q1, eb1, ec1, h1, a2, r2, p2, q2, eb2, ec2, h2, a3, r3, p3, q3, eb3, ec3, h3, a4, r4, p4, q4, eb4, ec4, h4, a5, r5, p5, q5, eb5, ec5, h5, a6, r6, p6, q6, eb6, ec6, h6, a7, r7, p7, q7, eb7, ec7, ow_CatchO h7, hz⟩, hn, hb⟩
/-- A sub is owned where its sender and its catch are, one behind the other. -/
theorem own_SubO {w : World} {lo mid hi : Nat} {y0 y1 : Int} {y2 : Bool} {y3 y4 y5 s0 s1 s2 : Int} {fl : List DFlight} {c0 c1 : Int} {sp : List DSpan} {k0 k1 k2 : Int} {u v : Value} (hs : Own w lo mid shSender (s0, s1, s2, fl, ()) [.int .i64 s0, .int .i64 s1, .int .i64 s2, u]) (hc : Own w mid hi shCatchO (c0, c1, sp, ()) [.int .i64 c0, .int .i64 c1, v]) (hlm : lo ≤ mid) (hmh : mid ≤ hi) (hw : SubWf (y0, y1, y2, y3, y4, y5, (s0, s1, s2, fl, ()), (c0, c1, sp, ()), (k0, k1, k2, ()), ())) :
    Own w lo hi shSubO (y0, y1, y2, y3, y4, y5, (s0, s1, s2, fl, ()), (c0, c1, sp, ()), (k0, k1, k2, ()), ()) [.int .i64 y0, .int .i64 y1, .bool y2, .int .i64 y3, .int .i64 y4, .int .i64 y5, .int .i64 s0, .int .i64 s1, .int .i64 s2, u, .int .i64 c0, .int .i64 c1, v, .int .i64 k0, .int .i64 k1, .int .i64 k2] := by
  obtain ⟨⟨w0, w1, w3, w4, w5⟩, d0, d1, d2⟩ := hw
  have hl : lo ≤ hi := Nat.le_trans hlm hmh
  have hK : Own w hi hi (.cons shControl .nil) ((k0, k1, k2, ()), ()) ([.int .i64 k0, .int .i64 k1, .int .i64 k2] ++ []) :=
    hOwnCons (hOwnCons (hOwnInt w hi hi d0) (hOwnCons (hOwnInt w hi hi d1) (hOwnCons (hOwnInt w hi hi d2) (hOwnNil _ _ _) (Nat.le_refl _) (Nat.le_refl _)) (Nat.le_refl _) (Nat.le_refl _)) (Nat.le_refl _) (Nat.le_refl _)) (hOwnNil w hi hi) (Nat.le_refl _) (Nat.le_refl _)
  have h1 := hOwnCons hs (hOwnCons hc hK hmh (Nat.le_refl _)) hlm hmh
  exact hOwnCons (hOwnInt w lo lo w0) (hOwnCons (hOwnInt w lo lo w1) (hOwnCons (hOwnBool w lo lo y2) (hOwnCons (hOwnInt w lo lo w3) (hOwnCons (hOwnInt w lo lo w4) (hOwnCons (hOwnInt w lo lo w5) h1 (Nat.le_refl _) hl) (Nat.le_refl _) hl) (Nat.le_refl _) hl) (Nat.le_refl _) hl) (Nat.le_refl _) hl) (Nat.le_refl _) hl
/-- A sub of nothing but numbers. -/
theorem own_Sub0 {w : World} {lo hi : Nat} {y0 y1 : Int} {y2 : Bool} {y3 y4 y5 s0 s1 s2 c0 c1 k0 k1 k2 : Int} (hl : lo ≤ hi) (hw : SubWf (y0, y1, y2, y3, y4, y5, (s0, s1, s2, [], ()), (c0, c1, [], ()), (k0, k1, k2, ()), ())) (w0 : (Lit.int .i64 s0).wf = true) (w1 : (Lit.int .i64 s1).wf = true) (w2 : (Lit.int .i64 s2).wf = true) (w3 : (Lit.int .i64 c0).wf = true) (w4 : (Lit.int .i64 c1).wf = true) :
    Own w lo hi shSubO (y0, y1, y2, y3, y4, y5, (s0, s1, s2, [], ()), (c0, c1, [], ()), (k0, k1, k2, ()), ()) [.int .i64 y0, .int .i64 y1, .bool y2, .int .i64 y3, .int .i64 y4, .int .i64 y5, .int .i64 s0, .int .i64 s1, .int .i64 s2, .slice none 0 0, .int .i64 c0, .int .i64 c1, .slice none 0 0, .int .i64 k0, .int .i64 k1, .int .i64 k2] := by
  have a0 : Own w lo lo shFlights [] [.slice none 0 0] := ⟨[], Or.inl ⟨rfl, rfl, rfl⟩, by simp, by simp⟩
  have b0 : Own w lo hi shSpansO [] [.slice none 0 0] := ⟨[], Or.inl ⟨rfl, rfl, none, 0, rfl, Nat.zero_le _, fun _ => rfl⟩, by simp, by simp⟩
  have a : Own w lo lo shSender (s0, s1, s2, [], ()) [.int .i64 s0, .int .i64 s1, .int .i64 s2, .slice none 0 0] := hOwnCons (hOwnInt w lo lo w0) (hOwnCons (hOwnInt w lo lo w1) (hOwnCons (hOwnInt w lo lo w2) (hOwnCons a0 (hOwnNil _ _ _) (Nat.le_refl _) (Nat.le_refl _)) (Nat.le_refl _) (Nat.le_refl _)) (Nat.le_refl _) (Nat.le_refl _)) (Nat.le_refl _) (Nat.le_refl _)
  have b : Own w lo hi shCatchO (c0, c1, [], ()) [.int .i64 c0, .int .i64 c1, .slice none 0 0] := hOwnCons (hOwnInt w lo lo w3) (hOwnCons (hOwnInt w lo lo w4) (hOwnCons b0 (hOwnNil _ _ _) hl (Nat.le_refl _)) (Nat.le_refl _) hl) (Nat.le_refl _) hl
  exact own_SubO a b (Nat.le_refl _) hl hw
end Go.Proofs.YteaddhldleeaiaaGreat

/- One element of a row of structs that the call owns, changed in place cell by cell; no condition. -/
namespace Go.Proofs.YteaddhldleeaiaaGreat
open Go.RowKit
set_option linter.unusedVariables false

/-- In W block pg is as cur0 was, but that element k (of m cells) has the cells L. -/
structure El (W : World) (pg : Nat) (t : TypeId) (m k : Nat) (cur0 : Array Value) (L : List Value) : Prop where
  ex : ∃ cur, W.heap[pg]? = some (.cells cur t (0, 0)) ∧ cur.size = cur0.size ∧ (∀ i, i ≠ k → chunk cur.toList m i = chunk cur0.toList m i) ∧ chunk cur.toList m k = L
theorem El.of {W : World} {pg : Nat} {t : TypeId} {m k : Nat} {cur0 : Array Value} {L : List Value} (h : W.heap[pg]? = some (.cells cur0 t (0, 0))) (hc : chunk cur0.toList m k = L) : El W pg t m k cur0 L := ⟨cur0, h, rfl, fun _ _ => rfl, hc⟩
theorem El.set {W : World} {pg : Nat} {t : TypeId} {m k : Nat} {cur0 : Array Value} {L : List Value} (h : El W pg t m k cur0 L) (hk : k * m + m ≤ cur0.size) {A j : Nat} (hA : A = k * m + j) (hj : j < m) (v : Value) : El (W.setCell ⟨pg, A, none⟩ v) pg t m k cur0 (L.set j v) := by
  obtain ⟨cur, h1, h2, h3, h4⟩ := h
  subst hA
  refine ⟨cur.setIfInBounds (k * m + j) v, heap_set h1, by simp [h2], fun i hi => ?_, ?_⟩
  · rw [chunk_set1 hj (by omega), if_neg hi]; exact h3 i hi
  · rw [chunk_set1 hj (by omega), if_pos rfl, h4]
theorem El.cell {W : World} {pg : Nat} {t : TypeId} {m k : Nat} {cur0 : Array Value} {L : List Value} (h : El W pg t m k cur0 L) {A j : Nat} (hA : A = k * m + j) (hj : j < m) : W.cell? ⟨pg, A, none⟩ = L[j]? := by
  obtain ⟨cur, h1, h2, h3, h4⟩ := h
  subst hA
  rw [cell_of_heap h1, ← h4, chunk_get hj, Array.getElem?_toList]
theorem El.frozen {W : World} {pg : Nat} {t : TypeId} {m k : Nat} {cur0 : Array Value} {L : List Value} (h : El W pg t m k cur0 L) : ∀ o, W.frozen? ⟨pg, o, none⟩ = false := fun o => by
  obtain ⟨cur, h1, _⟩ := h
  simp [World.frozen?, h1]
theorem El.keep {W W' : World} {pg : Nat} {t : TypeId} {m k : Nat} {cur0 : Array Value} {L : List Value} (h : El W pg t m k cur0 L) (hb : W'.heap[pg]? = W.heap[pg]?) : El W' pg t m k cur0 L := by
  obtain ⟨cur, h1, r⟩ := h
  exact ⟨cur, hb.trans h1, r⟩
/-- Nothing but block pg has turned, and none is new. -/
structure On1 (pg : Nat) (w w' : World) : Prop where
  os : w'.os = w.os
  tape : w'.tape = w.tape
  output : w'.output = w.output
  size : w'.heap.size = w.heap.size
  block : ∀ b, b ≠ pg → w'.heap[b]? = w.heap[b]?
theorem On1.refl (pg : Nat) (w : World) : On1 pg w w := ⟨rfl, rfl, rfl, rfl, fun _ _ => rfl⟩
theorem On1.set {pg : Nat} {w w' : World} (h : On1 pg w w') (A : Nat) (v : Value) : On1 pg w (w'.setCell ⟨pg, A, none⟩ v) := by
  have g := grown_set (w := w') (a := ⟨pg, A, none⟩) (v := v)
  exact ⟨g.os.trans h.os, g.tape.trans h.tape, g.output.trans h.output, (by simp; exact h.size), fun b hb => (Below.heap_setCell _ _ _ _ (by dsimp only; exact hb)).trans (h.block b hb)⟩
theorem On1.touch {pg : Nat} {bs : List Nat} {w w' : World} (h : On1 pg w w') (hm : pg ∈ bs) : Touch bs w w' := ⟨h.os, h.tape, h.output, Nat.le_of_eq h.size.symm, fun b _ hn => h.block b fun e => hn (e ▸ hm)⟩
end Go.Proofs.YteaddhldleeaiaaGreat

/- Marks laid over subs, and what is held of them; no condition but on lengths. -/
namespace Go.Proofs.YteaddhldleeaiaaGreat
open Go.RowKit
set_option linter.unusedVariables false
set_option maxRecDepth 8000

def wtSub (x : DSub) : Nat := wtSender x.2.2.2.2.2.2.1 + wtCatch x.2.2.2.2.2.2.2.1
def mkSub (c : Int) (x : DSub) : DSub := (x.1, x.2.1, x.2.2.1, x.2.2.2.1, x.2.2.2.2.1, x.2.2.2.2.2.1, mkSender c x.2.2.2.2.2.2.1, mkCatch (c + (wtSender x.2.2.2.2.2.2.1 : Nat)) x.2.2.2.2.2.2.2.1, x.2.2.2.2.2.2.2.2.1, ())
theorem wtSub_le {x : DSub} (h : totSub x ≤ 1048576) : wtSender x.2.2.2.2.2.2.1 ≤ 1073741824 ∧ wtCatch x.2.2.2.2.2.2.2.1 ≤ 1073741824 := by
  unfold totSub at h
  exact ⟨wtSender_le (by omega), wtCatch_le (by omega)⟩
theorem wtS_le {x : DSender} (h : totSender x ≤ 1048576) : wtSender x ≤ 8388608 := by
  unfold wtSender; rw [wtFlight_sum]; unfold totSender totFlights at h; omega
theorem wtC_le {x : DCatch} (h : totCatch x ≤ 1048576) : wtCatch x ≤ 8388608 := by
  unfold wtCatch; rw [wtSpan_sum]; unfold totCatch totSpans at h; omega
theorem ow_Sub {w : World} {bs : List Nat} {x : DSub} {cs : List Value} (h : shSubO.Ow w bs x cs) : ∃ b1 b2 u v, bs = b1 ++ b2 ∧ cs = [.int .i64 x.1, .int .i64 x.2.1, .bool x.2.2.1, .int .i64 x.2.2.2.1, .int .i64 x.2.2.2.2.1, .int .i64 x.2.2.2.2.2.1, .int .i64 x.2.2.2.2.2.2.1.1, .int .i64 x.2.2.2.2.2.2.1.2.1, .int .i64 x.2.2.2.2.2.2.1.2.2.1, u, .int .i64 x.2.2.2.2.2.2.2.1.1, .int .i64 x.2.2.2.2.2.2.2.1.2.1, v, .int .i64 x.2.2.2.2.2.2.2.2.1.1, .int .i64 x.2.2.2.2.2.2.2.2.1.2.1, .int .i64 x.2.2.2.2.2.2.2.2.1.2.2.1] ∧ shSender.Ow w b1 x.2.2.2.2.2.2.1 [.int .i64 x.2.2.2.2.2.2.1.1, .int .i64 x.2.2.2.2.2.2.1.2.1, .int .i64 x.2.2.2.2.2.2.1.2.2.1, u] ∧ shCatchO.Ow w b2 x.2.2.2.2.2.2.2.1 [.int .i64 x.2.2.2.2.2.2.2.1.1, .int .i64 x.2.2.2.2.2.2.2.1.2.1, v] ∧ SubWf x := by
  obtain ⟨a0, r0, p0, q0, eb0, ec0, ⟨f0, g0, w0⟩, a1, r1, p1, q1, eb1, ec1, ⟨f1, g1, w1⟩, a2, r2, p2, q2, eb2, ec2, ⟨f2, g2⟩, a3, r3, p3, q3, eb3, ec3, ⟨f3, g3, w3⟩, a4, r4, p4, q4, eb4, ec4, ⟨f4, g4, w4⟩, a5, r5, p5, q5, eb5, ec5, ⟨f5, g5, w5⟩, a6, r6, p6, q6, eb6, ec6, h6, a7, r7, p7, q7, eb7, ec7, h7, a8, r8, p8, q8, eb8, ec8, h8, zb, zc⟩ := h
  obtain ⟨d0, e0, n0, o0, xb0, xc0, ⟨l0, m0, v0⟩, d1, e1, n1, o1, xb1, xc1, ⟨l1, m1, v1⟩, d2, e2, n2, o2, xb2, xc2, ⟨l2, m2, v2⟩, yb, yc⟩ := h8
  obtain ⟨u, eu, hu⟩ := ow_Sender h6
  obtain ⟨v, ev, hv⟩ := ow_Catch h7
  rw [eu] at h6
  rw [ev] at h7
  refine ⟨a6, a7, u, v, ?_, ?_, h6, h7, ⟨w0, w1, w3, w4, w5⟩, v0, v1, v2⟩
  · rw [eb0, f0, eb1, f1, eb2, f2, eb3, f3, eb4, f4, eb5, f5, eb6, eb7, eb8, xb0, l0, xb1, l1, xb2, l2, yb, zb]
    simp
  · rw [ec0, g0, ec1, g1, ec2, g2, ec3, g3, ec4, g4, ec5, g5, ec6, eu, ec7, ev, ec8, xc0, m0, xc1, m1, xc2, m2, yc, zc]
    rfl
theorem mk_Sub {w : World} {b1 b2 : List Nat} {y0 y1 : Int} {y2 : Bool} {y3 y4 y5 : Int} {S : DSender} {C : DCatch} {k0 k1 k2 s0 s1 s2 c0 c1 : Int} {u v : Value} (hs : shSender.Ow w b1 S [.int .i64 s0, .int .i64 s1, .int .i64 s2, u]) (hc : shCatchO.Ow w b2 C [.int .i64 c0, .int .i64 c1, v]) (w0 : (Lit.int .i64 y0).wf = true) (w1 : (Lit.int .i64 y1).wf = true) (w3 : (Lit.int .i64 y3).wf = true) (w4 : (Lit.int .i64 y4).wf = true) (w5 : (Lit.int .i64 y5).wf = true) (d0 : (Lit.int .i64 k0).wf = true) (d1 : (Lit.int .i64 k1).wf = true) (d2 : (Lit.int .i64 k2).wf = true) :
    shSubO.Ow w (b1 ++ b2) (y0, y1, y2, y3, y4, y5, S, C, (k0, k1, k2, ()), ()) [.int .i64 y0, .int .i64 y1, .bool y2, .int .i64 y3, .int .i64 y4, .int .i64 y5, .int .i64 s0, .int .i64 s1, .int .i64 s2, u, .int .i64 c0, .int .i64 c1, v, .int .i64 k0, .int .i64 k1, .int .i64 k2] := by
  have hK : shControl.Ow w [] (k0, k1, k2, ()) [.int .i64 k0, .int .i64 k1, .int .i64 k2] := ⟨[], [], [.int .i64 k0], [.int .i64 k1, .int .i64 k2], rfl, rfl, ⟨rfl, rfl, d0⟩, [], [], [.int .i64 k1], [.int .i64 k2], rfl, rfl, ⟨rfl, rfl, d1⟩, [], [], [.int .i64 k2], [], rfl, rfl, ⟨rfl, rfl, d2⟩, rfl, rfl⟩
  have h8 : (Sh.cons shControl .nil).Ow w [] ((k0, k1, k2, ()), ()) [.int .i64 k0, .int .i64 k1, .int .i64 k2] := ⟨[], [], _, [], rfl, rfl, hK, rfl, rfl⟩
  have h7 : (Sh.cons shCatchO (.cons shControl .nil)).Ow w b2 (C, (k0, k1, k2, ()), ()) ([.int .i64 c0, .int .i64 c1, v] ++ [.int .i64 k0, .int .i64 k1, .int .i64 k2]) := ⟨b2, [], _, _, (List.append_nil _).symm, rfl, hc, h8⟩
  have h6 : (Sh.cons shSender (.cons shCatchO (.cons shControl .nil))).Ow w (b1 ++ b2) (S, C, (k0, k1, k2, ()), ()) ([.int .i64 s0, .int .i64 s1, .int .i64 s2, u] ++ ([.int .i64 c0, .int .i64 c1, v] ++ [.int .i64 k0, .int .i64 k1, .int .i64 k2])) := ⟨b1, b2, _, _, rfl, rfl, hs, h7⟩
  exact ⟨[], _, [_], _, rfl, rfl, ⟨rfl, rfl, w0⟩, [], _, [_], _, rfl, rfl, ⟨rfl, rfl, w1⟩, [], _, [_], _, rfl, rfl, ⟨rfl, rfl⟩, [], _, [_], _, rfl, rfl, ⟨rfl, rfl, w3⟩, [], _, [_], _, rfl, rfl, ⟨rfl, rfl, w4⟩, [], _, [_], _, rfl, rfl, ⟨rfl, rfl, w5⟩, h6⟩
end Go.Proofs.YteaddhldleeaiaaGreat
