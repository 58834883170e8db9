/- What turns where marks are laid over data of the call's own, block by block; an element of a row changed in place; no condition. -/
import Derived.Test.YtnbcefdfdonljaaRows
import Derived.Test.YtnbcefdfdonljaaBase
import Derived.Test.YtnbcefdfdonljaaBytes
import Derived.Test.YtnbcefdfdonljaaMem
import Derived.Test.YtnbcefdfdonljaaMemOpen
import Derived.Test.YtnbcefdfdonljaaMemRow
import Derived.Test.YtnbcefdfdonljaaHBase
namespace Go.Proofs.Ytnbcefdfdonljaa
open Go.RowKit
set_option linter.unusedVariables false

/-- Nothing but blocks from lo on, below hi, has turned, and none is new. -/
structure Within (lo hi : Nat) (w w' : World) : Prop where
  os : w'.os = w.os
  tape : w'.tape = w.tape
  output : w'.output = w.output
  size : w.heap.size ≤ w'.heap.size
  block : ∀ b, b < w.heap.size → ¬ (lo ≤ b ∧ b < hi) → w'.heap[b]? = w.heap[b]?
theorem Within.refl (lo hi : Nat) (w : World) : Within lo hi w w := ⟨rfl, rfl, rfl, Nat.le_refl _, fun _ _ _ => rfl⟩
theorem Within.trans {lo hi : Nat} {a b c : World} (h : Within lo hi a b) (k : Within lo hi b c) : Within lo hi a c :=
  ⟨k.os.trans h.os, k.tape.trans h.tape, k.output.trans h.output, Nat.le_trans h.size k.size, fun x hx hn => (k.block x (Nat.lt_of_lt_of_le hx h.size) hn).trans (h.block x hx hn)⟩
theorem Within.below {lo hi : Nat} {a b : World} (h : Below a.heap.size a b) : Within lo hi a b := ⟨h.os, h.tape, h.output, h.size, fun x hx _ => h.block x hx⟩
theorem Within.grown {lo hi : Nat} {a b : World} {g : Option Nat} (h : a.grownBy b g) (hg : ∀ x, g = some x → lo ≤ x ∧ x < hi) : Within lo hi a b :=
  ⟨h.os, h.tape, h.output, h.size, fun x hx hn => h.block x hx fun e => hn (hg x e.symm)⟩
theorem Within.mono {lo hi lo' hi' : Nat} {a b : World} (h : Within lo hi a b) (h1 : lo' ≤ lo) (h2 : hi ≤ hi') : Within lo' hi' a b :=
  ⟨h.os, h.tape, h.output, h.size, fun x hx hn => h.block x hx fun e => hn ⟨by omega, by omega⟩⟩

theorem ob_ow {w : World} {base : Nat} {v : Value} {l : List Int} (h : OB w base v l) : ∃ bs, u8s.Ow w bs l [v] ∧ bs.Nodup ∧ ∀ b ∈ bs, v.ownBlock = some b := by
  obtain ⟨bs, h1, h2, h3⟩ := own_bytes h (Nat.le_refl _)
  obtain ⟨v', e, -, -, h4⟩ := bytes_ob h1
  simp only [List.cons.injEq, and_true] at e
  subst e
  exact ⟨bs, h1, h2, h4⟩

/-- The one block of bytes of the call's own. -/
theorem bytes_fp {w : World} {bs : List Nat} {l : List Int} {v : Value} (h : u8s.Ow w bs l [v]) : bs = v.ownBlock.toList := by
  rcases h with ⟨rfl, e, rfl⟩ | ⟨g, cap, cur, F, e, rfl, h3, h4, h5, h6, h7, h8⟩
  · simp only [List.cons.injEq, and_true] at e; subst e; rfl
  · simp only [List.cons.injEq, and_true] at e; subst e
    have hF : F.flatten = [] := by
      apply List.eq_nil_iff_forall_not_mem.2
      intro b hb
      obtain ⟨i, hi, hb⟩ := mem_flatten_getD hb
      have := (h8 i (by omega)).1
      rw [this] at hb; simp at hb
    rw [hF]; rfl

/-- Nothing but the blocks bs has turned. -/
structure Touch (bs : List Nat) (w w' : World) : Prop where
  os : w'.os = w.os
  tape : w'.tape = w.tape
  output : w'.output = w.output
  size : w.heap.size ≤ w'.heap.size
  block : ∀ b, b < w.heap.size → b ∉ bs → w'.heap[b]? = w.heap[b]?
theorem Touch.refl (bs : List Nat) (w : World) : Touch bs w w := ⟨rfl, rfl, rfl, Nat.le_refl _, fun _ _ _ => rfl⟩
theorem Touch.trans {bs : List Nat} {a b c : World} (h : Touch bs a b) (k : Touch bs b c) : Touch bs a c :=
  ⟨k.os.trans h.os, k.tape.trans h.tape, k.output.trans h.output, Nat.le_trans h.size k.size, fun x hx hn => (k.block x (Nat.lt_of_lt_of_le hx h.size) hn).trans (h.block x hx hn)⟩
theorem Touch.mono {bs bs' : List Nat} {a b : World} (h : Touch bs a b) (hs : ∀ x ∈ bs, x ∈ bs') : Touch bs' a b := ⟨h.os, h.tape, h.output, h.size, fun x hx hn => h.block x hx fun hm => hn (hs x hm)⟩
theorem Touch.grown {bs : List Nat} {a b : World} {g : Option Nat} (h : a.grownBy b g) (hg : ∀ x, g = some x → x ∈ bs) : Touch bs a b :=
  ⟨h.os, h.tape, h.output, h.size, fun x hx hn => h.block x hx fun e => hn (hg x e.symm)⟩
theorem Touch.below {bs : List Nat} {a b : World} (h : Below a.heap.size a b) : Touch bs a b := ⟨h.os, h.tape, h.output, h.size, fun x hx _ => h.block x hx⟩

theorem grown_set {w : World} {a : Addr} {v : Value} : w.grownBy (w.setCell a v) (some a.block) :=
  ⟨rfl, rfl, rfl, by simp, fun j _ hne => Below.heap_setCell _ _ _ _ (fun e => hne (by rw [e]))⟩


theorem heap_set {w : World} {g off : Nat} {cur : Array Value} {v : Value} {t : TypeId} (h : w.heap[g]? = some (.cells cur t (0, 0))) : (w.setCell ⟨g, off, none⟩ v).heap[g]? = some (.cells (cur.setIfInBounds off v) t (0, 0)) := heap_setCell_same w g off cur _ _ h

theorem chunk_set1 {cur : Array Value} {sz k j i : Nat} {v : Value} (hj : j < sz) (hk : k * sz + sz ≤ cur.size) : chunk (cur.setIfInBounds (k * sz + j) v).toList sz i = if i = k then (chunk cur.toList sz k).set j v else chunk cur.toList sz i := by
  rw [Array.toList_setIfInBounds]
  split
  · rename_i e; subst e
    apply List.ext_getElem?
    intro q
    by_cases hq : q < sz
    · rw [chunk_get hq]
      by_cases e : q = j
      · subst e
        rw [List.getElem?_set_self (by simp; omega), List.getElem?_set_self (by unfold chunk; simp; omega)]
      · rw [List.getElem?_set_ne (by omega), List.getElem?_set_ne (by omega), chunk_get hq]
    · rw [List.getElem?_eq_none (by unfold chunk; simp; omega), List.getElem?_eq_none (by unfold chunk; simp; omega)]
  · rename_i hne
    refine chunk_ext fun q hq => ?_
    rw [List.getElem?_set_ne]
    intro e
    rcases Nat.lt_or_gt_of_ne hne with h | h
    · have : i * sz + sz ≤ k * sz := by rw [← Nat.succ_mul]; exact Nat.mul_le_mul_right _ h
      omega
    · have : k * sz + sz ≤ i * sz := by rw [← Nat.succ_mul]; exact Nat.mul_le_mul_right _ h
      omega

theorem ow_elem {w : World} {bs : List Nat} {t : TypeId} {e : Sh} {l : List e.El} {a : Option Addr} {n cap : Nat} (h : (Sh.row t e).Ow w bs l [.slice a n cap]) (hnd : bs.Nodup) (k : Nat) (hk : k < l.length) :
    ∃ pg cur bk, a = some ⟨pg, 0, none⟩ ∧ pg ∈ bs ∧ w.heap[pg]? = some (.cells cur t (0, 0)) ∧ k * e.sz + e.sz ≤ cur.size ∧ List.Nodup bk ∧ e.Ow w bk l[k] (chunk cur.toList e.sz k) ∧ (∀ b ∈ bk, b ∈ bs ∧ b ≠ pg) ∧
      ∀ (w' : World) (cur' : Array Value) (d' : e.El), w'.heap[pg]? = some (.cells cur' t (0, 0)) → cur'.size = cur.size → (∀ i, i ≠ k → chunk cur'.toList e.sz i = chunk cur.toList e.sz i) → e.Ow w' bk d' (chunk cur'.toList e.sz k) →
        (∀ b ∈ bs, b ≠ pg → b ∉ bk → w'.heap[b]? = w.heap[b]?) → (Sh.row t e).Ow w' bs (l.set k d') [.slice a n cap] := by
  rcases h with ⟨_, _, rfl⟩ | ⟨g, cap', cur, F, e1, rfl, h3, h4, h5, h6, h7, h8⟩
  · simp at hk
  · simp only [List.cons.injEq, Value.slice.injEq, and_true] at e1
    obtain ⟨rfl, rfl, rfl⟩ := e1
    obtain ⟨hg1, hg2⟩ := List.nodup_cons.1 hnd
    have hle : k * e.sz + e.sz ≤ cur.size := by
      rw [h6, ← Nat.succ_mul]; exact Nat.mul_le_mul_right _ (by omega)
    have hkF : k < F.length := by omega
    have hpw := List.pairwise_flatten.1 hg2
    refine ⟨g, cur, F.getD k [], rfl, by simp, h3, hle, ?_, h8 k hk, fun b hb => ⟨List.mem_cons_of_mem _ (getD_mem_flatten hb), fun e' => hg1 (e' ▸ getD_mem_flatten hb)⟩, ?_⟩
    · rw [List.getD_eq_getElem?_getD, List.getElem?_eq_getElem hkF]
      exact hpw.1 _ (List.getElem_mem hkF)
    · intro w' cur' d' q1 q2 q3 q4 q5
      refine Or.inr ⟨g, cap, cur', F, by rw [List.length_set], rfl, q1, by rw [List.length_set]; exact h4, h5, by rw [q2]; exact h6, by rw [List.length_set]; exact h7, fun i hi' => ?_⟩
      have hi2 : i < l.length := by simpa using hi'
      show Sh.Ow _ e _ _ (chunk cur'.toList e.sz i)
      by_cases ei : i = k
      · subst ei
        rw [List.getElem_set_self]; exact q4
      · rw [List.getElem_set_ne (by omega), q3 i ei]
        refine Sh.Ow.keep _ _ _ _ (fun b hbm => ?_) (h8 i hi2)
        refine q5 b (List.mem_cons_of_mem _ (getD_mem_flatten hbm)) (fun e' => hg1 (e' ▸ getD_mem_flatten hbm)) fun hb' => ?_
        have hi4 : i < F.length := by omega
        rcases Nat.lt_or_gt_of_ne ei with hlt | hlt
        · exact List.pairwise_iff_getElem.1 hpw.2 i k hi4 hkF hlt b (by simpa [List.getD_eq_getElem?_getD, List.getElem?_eq_getElem hi4] using hbm) b (by simpa [List.getD_eq_getElem?_getD, List.getElem?_eq_getElem hkF] using hb') rfl
        · exact List.pairwise_iff_getElem.1 hpw.2 k i hkF hi4 hlt b (by simpa [List.getD_eq_getElem?_getD, List.getElem?_eq_getElem hkF] using hb') b (by simpa [List.getD_eq_getElem?_getD, List.getElem?_eq_getElem hi4] using hbm) rfl

/-- Marks over a list, element by element. -/
def mkL {α : Type} (mk : Int → α → α) (wt : α → Nat) : Int → List α → List α
  | _, [] => []
  | c, x :: l => mk c x :: mkL mk wt (c + wt x) l
theorem mkL_length {α : Type} {mk : Int → α → α} {wt : α → Nat} : ∀ (l : List α) (c : Int), (mkL mk wt c l).length = l.length
  | [], _ => rfl
  | x :: l, c => by show (mkL mk wt _ l).length + 1 = _; rw [mkL_length l]; rfl
theorem fsum_cons {α : Type} (f : α → Nat) (x : α) (l : List α) : fsum f (x :: l) = f x + fsum f l := by simp [fsum]
theorem fsum_nil {α : Type} (f : α → Nat) : fsum f [] = 0 := rfl
theorem mkL_append {α : Type} {mk : Int → α → α} {wt : α → Nat} : ∀ (p q : List α) (c : Int), mkL mk wt c (p ++ q) = mkL mk wt c p ++ mkL mk wt (c + fsum wt p) q
  | [], q, c => by simp [mkL, fsum]
  | x :: p, q, c => by
    show _ :: mkL mk wt _ (p ++ q) = _
    rw [mkL_append p q, fsum_cons]
    show _ = _ :: (mkL mk wt _ p ++ _)
    congr 3
    omega
theorem mkL_step {α : Type} {mk : Int → α → α} {wt : α → Nat} {l : List α} {k : Nat} (c : Int) (hk : k < l.length) : (mkL mk wt c (l.take k) ++ l.drop k).set k (mk (c + fsum wt (l.take k)) l[k]) = mkL mk wt c (l.take (k + 1)) ++ l.drop (k + 1) := by
  have h1 : (mkL mk wt c (l.take k)).length = k := by rw [mkL_length]; simp; omega
  rw [List.set_append_right _ _ (by omega), h1, Nat.sub_self, List.drop_eq_getElem_cons hk, List.set_cons_zero, List.take_succ_eq_append_getElem hk, mkL_append, List.append_assoc]
  rfl
theorem mkL_at {α : Type} {mk : Int → α → α} {wt : α → Nat} {l : List α} {k : Nat} (c : Int) (hk : k < l.length) (h : k < (mkL mk wt c l).length) : (mkL mk wt c l)[k] = mk (c + fsum wt (l.take k)) l[k] := by
  have h1 : (mkL mk wt c (l.take k)).length = k := by rw [mkL_length]; simp; omega
  have e : l = l.take k ++ l[k] :: l.drop (k + 1) := by rw [← List.drop_eq_getElem_cons hk, List.take_append_drop]
  have e2 : mkL mk wt c l = mkL mk wt c (l.take k) ++ mkL mk wt (c + fsum wt (l.take k)) (l[k] :: l.drop (k + 1)) := by conv => lhs; rw [e]; rw [mkL_append]
  have : (mkL mk wt c l)[k]? = some (mk (c + fsum wt (l.take k)) l[k]) := by
    rw [e2, List.getElem?_append_right (by omega), h1, Nat.sub_self]; rfl
  rw [List.getElem?_eq_getElem h] at this
  exact Option.some.inj this
theorem fsum_add {α : Type} (c : Nat) (f : α → Nat) : ∀ (l : List α), fsum (fun x => c + f x) l = c * l.length + fsum f l
  | [] => by simp [fsum]
  | x :: l => by rw [fsum_cons, fsum_cons, fsum_add c f l, List.length_cons, Nat.mul_succ]; omega

theorem within_below {B lo hi : Nat} {w c w' : World} (h : Below B w c) (k : Within lo hi c w') (h1 : B ≤ lo) (h2 : B ≤ c.heap.size) : Below B w w' :=
  ⟨k.os.trans h.os, k.tape.trans h.tape, k.output.trans h.output, Nat.le_trans h.size k.size, fun b hb => (k.block b (by omega) (by omega)).trans (h.block b hb)⟩
end Go.Proofs.Ytnbcefdfdonljaa
