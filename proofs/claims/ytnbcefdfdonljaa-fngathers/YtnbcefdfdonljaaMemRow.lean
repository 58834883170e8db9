/- Rows of structs that the call itself made: born, an element stored, one more behind them; what is owned then; no condition. -/
import Derived.Test.YtnbcefdfdonljaaBase
import Derived.Test.YtnbcefdfdonljaaBytes
import Derived.Test.YtnbcefdfdonljaaMem
import Derived.Test.YtnbcefdfdonljaaMemOpen
import Derived.WalkSmall
import Derived.Maps.AppendAt
namespace Go.Proofs.Ytnbcefdfdonljaa
open Go.RowKit
set_option linter.unusedVariables false

/-- The cells of element i. -/
def chunk (xs : List Value) (sz i : Nat) : List Value := (xs.drop (i * sz)).take sz

theorem chunk_take {xs : List Value} {sz n i : Nat} (hi : i < n) : chunk (xs.take (n * sz)) sz i = chunk xs sz i := by
  unfold chunk
  rw [List.drop_take, List.take_take]
  congr 1
  have : i * sz + sz ≤ n * sz := by rw [← Nat.succ_mul]; exact Nat.mul_le_mul_right _ hi
  omega

theorem Own.row_of {w : World} {lo hi : Nat} {t : TypeId} {e : Sh} {l : List e.El} {v : Value} {xs : List Value} (ho : w.ownsRow lo t e.sz v l.length xs) (hv : ∀ b, v.ownBlock = some b → b < hi) (F : List (List Nat)) (hF : F.length = l.length)
    (hnd : F.flatten.Nodup) (hb : ∀ b ∈ F.flatten, lo ≤ b ∧ b < hi ∧ v.ownBlock ≠ some b) (hel : ∀ i (h : i < l.length), e.Ow w (F.getD i []) l[i] (chunk xs e.sz i)) : Own w lo hi (.row t e) l [v] := by
  obtain ⟨h1, ⟨rfl, hz⟩ | ⟨g, cap, cur, rfl, hg, hh, hc, hm, hs, ht⟩⟩ := ho
  · have e1 : l = [] := List.length_eq_zero_iff.1 hz
    exact ⟨[], Or.inl ⟨rfl, rfl, e1⟩, by simp, by simp⟩
  · refine ⟨g :: F.flatten, Or.inr ⟨g, cap, cur, F, rfl, rfl, hh, hc, hm, hs, hF, fun i hi => ?_⟩, ?_, ?_⟩
    · have := hel i hi
      rw [← ht, chunk_take hi] at this
      exact this
    · refine List.nodup_cons.2 ⟨fun hmem => ?_, hnd⟩
      exact (hb g hmem).2.2 rfl
    · intro b hbm
      rcases List.mem_cons.1 hbm with rfl | hbm
      · exact ⟨hg, hv b rfl⟩
      · exact ⟨(hb b hbm).1, (hb b hbm).2.1⟩

theorem Own.row_to {w : World} {lo hi : Nat} {t : TypeId} {e : Sh} {l : List e.El} {cs : List Value} (h : Own w lo hi (.row t e) l cs) :
    ∃ v xs F, cs = [v] ∧ w.ownsRow lo t e.sz v l.length xs ∧ F.length = l.length ∧ List.Nodup (List.flatten F) ∧ (∀ b ∈ List.flatten F, lo ≤ b ∧ b < hi ∧ v.ownBlock ≠ some b) ∧ (∀ i (h : i < l.length), e.Ow w (List.getD F i []) l[i] (chunk xs e.sz i)) ∧ (∀ b, v.ownBlock = some b → b < hi) := by
  obtain ⟨bs, h1, h2, h3⟩ := h
  rcases h1 with ⟨rfl, rfl, rfl⟩ | ⟨g, cap, cur, F, rfl, rfl, g3, g4, g5, g6, g7, g8⟩
  · exact ⟨_, [], [], rfl, ⟨by simp, Or.inl ⟨rfl, rfl⟩⟩, rfl, by simp, by simp, fun i hi => by simp at hi, by simp [Value.ownBlock]⟩
  · obtain ⟨h2a, h2b⟩ := List.nodup_cons.1 h2
    refine ⟨_, cur.toList.take (l.length * e.sz), F, rfl, ⟨?_, Or.inr ⟨g, cap, cur, rfl, (h3 g (by simp)).1, g3, g4, g5, g6, rfl⟩⟩, g7, h2b, fun b hb => ⟨(h3 b (by simp [hb])).1, (h3 b (by simp [hb])).2, ?_⟩, fun i hi => ?_, ?_⟩
    · have : l.length * e.sz ≤ cap * e.sz := Nat.mul_le_mul_right _ g4
      simp; omega
    · intro e0
      simp [Value.ownBlock] at e0
      subst e0
      exact h2a hb
    · rw [chunk_take hi]; exact g8 i hi
    · intro b hb
      simp [Value.ownBlock] at hb
      subst hb
      exact (h3 g (by simp)).2

/-! ### Stores -/
def setRow (w : World) (g off : Nat) : List Value → World
  | [] => w
  | v :: vs => setRow (w.setCell ⟨g, off, none⟩ v) g (off + 1) vs
def setL (xs : List Value) (off : Nat) : List Value → List Value
  | [] => xs
  | v :: vs => setL (xs.set off v) (off + 1) vs

theorem setL_length : ∀ (vs xs : List Value) (off : Nat), (setL xs off vs).length = xs.length
  | [], _, _ => rfl
  | v :: vs, xs, off => by show (setL _ _ vs).length = _; rw [setL_length vs]; simp
theorem setL_get : ∀ (vs xs : List Value) (off j : Nat), off + vs.length ≤ xs.length → (setL xs off vs)[j]? = if off ≤ j ∧ j < off + vs.length then vs[j - off]? else xs[j]?
  | [], xs, off, j, h => by
    show xs[j]? = _
    rw [if_neg (by simp)]
  | v :: vs, xs, off, j, h => by
    show (setL (xs.set off v) (off + 1) vs)[j]? = _
    simp only [List.length_cons] at h
    rw [setL_get vs _ _ _ (by simp; omega)]
    by_cases h1 : off + 1 ≤ j ∧ j < off + 1 + vs.length
    · rw [if_pos h1, if_pos (by simp; omega), show j - off = (j - (off + 1)) + 1 by omega, List.getElem?_cons_succ]
    · rw [if_neg h1]
      by_cases h2 : j = off
      · subst h2
        rw [if_pos (by simp), List.getElem?_set_self (by omega)]; simp
      · rw [if_neg (by simp; omega), List.getElem?_set_ne (by omega)]

theorem chunk_get {xs : List Value} {sz i j : Nat} (hj : j < sz) : (chunk xs sz i)[j]? = xs[i * sz + j]? := by
  unfold chunk; rw [List.getElem?_take_of_lt hj, List.getElem?_drop]
theorem chunk_len {xs : List Value} {sz i n : Nat} (hx : xs.length = n * sz) (hi : i < n) : (chunk xs sz i).length = sz := by
  have : i * sz + sz ≤ n * sz := by rw [← Nat.succ_mul]; exact Nat.mul_le_mul_right _ hi
  unfold chunk; simp; omega
theorem chunk_ext {xs ys : List Value} {sz i j : Nat} (h : ∀ k, k < sz → xs[i * sz + k]? = ys[j * sz + k]?) : chunk xs sz i = chunk ys sz j := by
  apply List.ext_getElem?
  intro k
  by_cases hk : k < sz
  · rw [chunk_get hk, chunk_get hk, h k hk]
  · rw [List.getElem?_eq_none (by unfold chunk; simp; omega), List.getElem?_eq_none (by unfold chunk; simp; omega)]
theorem chunk_setL {xs vs : List Value} {sz n k i : Nat} (hx : xs.length = n * sz) (hk : k < n) (hv : vs.length = sz) : chunk (setL xs (k * sz) vs) sz i = if i = k then vs else chunk xs sz i := by
  have hle : k * sz + sz ≤ n * sz := by rw [← Nat.succ_mul]; exact Nat.mul_le_mul_right _ hk
  split
  · rename_i e; subst e
    apply List.ext_getElem?
    intro j
    by_cases hj : j < sz
    · rw [chunk_get hj, setL_get _ _ _ _ (by omega), if_pos (by omega)]; congr 1; omega
    · rw [List.getElem?_eq_none (by unfold chunk; simp; omega), List.getElem?_eq_none (by omega)]
  · rename_i hne
    refine chunk_ext fun j hj => ?_
    rw [setL_get _ _ _ _ (by omega), if_neg]
    rintro ⟨h1, h2⟩
    rcases Nat.lt_or_gt_of_ne hne with h | h
    · have : i * sz + sz ≤ k * sz := by rw [← Nat.succ_mul]; exact Nat.mul_le_mul_right _ h
      omega
    · have : k * sz + sz ≤ i * sz := by rw [← Nat.succ_mul]; exact Nat.mul_le_mul_right _ h
      omega

theorem setRow_owns {w : World} {base g n cap : Nat} {t : TypeId} {size : Nat} : ∀ (vs : List Value) (w : World) (xs : List Value) (off : Nat), w.ownsRow base t size (.slice (some ⟨g, 0, none⟩) n cap) n xs →
    (setRow w g off vs).ownsRow base t size (.slice (some ⟨g, 0, none⟩) n cap) n (setL xs off vs) ∧ w.grownBy (setRow w g off vs) (some g)
  | [], w, xs, off, h => ⟨h, World.grownBy.refl _ _⟩
  | v :: vs, w, xs, off, h => by
    have h1 := h.stored off v
    have h2 := setRow_owns vs (w := w) (w.setCell ⟨g, off, none⟩ v) (xs.set off v) (off + 1) h1.1
    refine ⟨h2.1, ?_⟩
    have a := h1.2
    have b := h2.2
    exact ⟨b.os.trans a.os, b.tape.trans a.tape, b.output.trans a.output, Nat.le_trans a.size b.size, fun j hj hne => (b.block j (Nat.lt_of_lt_of_le hj a.size) hne).trans (a.block j hj hne)⟩

theorem setRow_size : ∀ (vs : List Value) (w : World) (g off : Nat), (setRow w g off vs).heap.size = w.heap.size
  | [], w, g, off => rfl
  | v :: vs, w, g, off => by show (setRow _ g _ vs).heap.size = _; rw [setRow_size vs]; simp

theorem getD_set {F : List (List Nat)} {k i : Nat} {b : List Nat} (hk : k < F.length) : (F.set k b).getD i [] = if i = k then b else F.getD i [] := by
  simp only [List.getD_eq_getElem?_getD]
  split
  · rename_i e; subst e; rw [List.getElem?_set_self hk]; rfl
  · rename_i h; rw [List.getElem?_set_ne (by omega)]

theorem mem_flatten_set {F : List (List Nat)} {k : Nat} {b : List Nat} {x : Nat} (h : x ∈ (F.set k b).flatten) : x ∈ b ∨ x ∈ F.flatten := by
  obtain ⟨y, hy, hx⟩ := List.mem_flatten.1 h
  rcases List.mem_or_eq_of_mem_set hy with h | rfl
  · exact Or.inr (List.mem_flatten.2 ⟨y, h, hx⟩)
  · exact Or.inl hx

theorem nodup_set : ∀ {F : List (List Nat)} {k : Nat} {b : List Nat}, F.flatten.Nodup → b.Nodup → (∀ x ∈ b, x ∉ F.flatten) → (F.set k b).flatten.Nodup
  | [], k, b, _, _, _ => by simp
  | f :: F, 0, b, h, hb, hd => by
    simp only [List.flatten_cons] at h hd
    rw [List.set_cons_zero, List.flatten_cons]
    rw [List.nodup_append] at h ⊢
    refine ⟨hb, h.2.1, fun x hx y hy e => ?_⟩
    subst e
    exact hd x hx (List.mem_append_right _ hy)
  | f :: F, k + 1, b, h, hb, hd => by
    simp only [List.flatten_cons] at h hd
    rw [List.set_cons_succ, List.flatten_cons]
    rw [List.nodup_append] at h ⊢
    refine ⟨h.1, nodup_set h.2.1 hb (fun x hx hm => hd x hx (List.mem_append_right _ hm)), fun x hx y hy e => ?_⟩
    subst e
    rcases mem_flatten_set hy with hy | hy
    · exact hd x hy (List.mem_append_left _ hx)
    · exact h.2.2 x hx x hy rfl

/-- An element stored whole: the row owns what the element owns. -/
theorem Own.stored {w : World} {lo hi hi' : Nat} {t : TypeId} {e : Sh} {l : List e.El} {g n cap : Nat} (h : Own w lo hi (.row t e) l [.slice (some ⟨g, 0, none⟩) n cap]) {k : Nat} (hk : k < l.length) {d : e.El} {vs : List Value} (hd : Own w hi hi' e d vs) (hh : hi ≤ hi') :
    Own (setRow w g (k * e.sz) vs) lo hi' (.row t e) (l.set k d) [.slice (some ⟨g, 0, none⟩) n cap] ∧ w.grownBy (setRow w g (k * e.sz) vs) (some g) ∧ lo ≤ g ∧ g < hi := by
  obtain ⟨v, xs, F, e1, ho, hF, hnd, hb, hel, hv⟩ := h.row_to
  simp only [List.cons.injEq, and_true] at e1
  subst e1
  obtain ⟨bs, d1, d2, d3⟩ := hd
  have hn : n = l.length := by
    obtain ⟨_, ⟨e2, _⟩ | ⟨g', c', cur, e2, _⟩⟩ := ho
    · simp at e2
    · simp only [Value.slice.injEq] at e2; exact e2.2.1
  subst hn
  have hg1 : lo ≤ g := (ho.lt g rfl).1
  have hg2 : g < hi := hv g rfl
  obtain ⟨ho2, hgr⟩ := setRow_owns (w := w) vs w xs (k * e.sz) ho
  have hlen : vs.length = e.sz := Sh.Ow.len _ _ _ _ d1
  have hkeep : ∀ b, b ≠ g → b < w.heap.size → (setRow w g (k * e.sz) vs).heap[b]? = w.heap[b]? := fun b hne hlt => hgr.block b hlt (by simpa using hne)
  refine ⟨?_, hgr, hg1, hg2⟩
  refine Own.row_of (l := l.set k d) (xs := setL xs (k * e.sz) vs) (by simpa using ho2) (fun b hbv => ?_) (F.set k bs) (by simp [hF]) (nodup_set hnd d2 fun x hx hm => ?_) (fun b hm => ?_) (fun i hi2 => ?_)
  · have := hv b hbv; omega
  · have := (hb x hm).2.1; have := (d3 x hx).1; omega
  · rcases mem_flatten_set hm with hm | hm
    · have := d3 b hm
      refine ⟨by omega, by omega, ?_⟩
      intro e0; simp [Value.ownBlock] at e0; omega
    · have := hb b hm
      exact ⟨this.1, by omega, this.2.2⟩
  · have hi3 : i < l.length := by simpa using hi2
    rw [getD_set (by omega), chunk_setL ho.1 hk hlen]
    by_cases e0 : i = k
    · subst e0
      rw [if_pos rfl, if_pos rfl]
      simp only [List.getElem_set_self]
      refine Sh.Ow.keep _ _ _ _ (fun b hbm => hkeep b ?_ (Sh.Ow.lt _ _ _ _ d1 b hbm)) d1
      have := (d3 b hbm).1; omega
    · rw [if_neg e0, if_neg e0]
      rw [List.getElem_set_ne (by omega)]
      refine Sh.Ow.keep _ _ _ _ (fun b hbm => hkeep b ?_ (Sh.Ow.lt _ _ _ _ (hel i hi3) b hbm)) (hel i hi3)
      have := (hb b (getD_mem_flatten hbm)).2.2
      intro e1; subst e1; exact this rfl

/-! ### A row that is made -/
def Sh.zcells : Sh → List Value
  | .int k => [.int k 0]
  | .bool => [.bool false]
  | .row _ _ => [.slice none 0 0]
  | .rowO _ _ => [.slice none 0 0]
  | .nil => []
  | .cons f r => f.zcells ++ r.zcells

theorem wf_zero (k : IntKind) : (Lit.int k 0).wf = true := by cases k <;> decide
theorem zero_ow (w : World) : ∀ (s : Sh), s.Ow w [] s.zero s.zcells
  | .int k => ⟨rfl, rfl, wf_zero k⟩
  | .bool => ⟨rfl, rfl⟩
  | .row _ _ => Or.inl ⟨rfl, rfl, rfl⟩
  | .rowO _ _ => Or.inl ⟨rfl, rfl, none, 0, rfl, Nat.zero_le _, fun _ => rfl⟩
  | .nil => ⟨rfl, rfl⟩
  | .cons f r => ⟨[], [], _, _, rfl, rfl, zero_ow w f, zero_ow w r⟩

theorem zcells_len (s : Sh) : s.zcells.length = s.sz := Sh.Ow.len s [] s.zero s.zcells (zero_ow default s)

theorem chunk_made {z : Array Value} {n i sz : Nat} (hz : z.size = sz) (hi : i < n) : chunk (madeCells z (n * sz)).toList sz i = z.toList := by
  have hle : i * sz + sz ≤ n * sz := by rw [← Nat.succ_mul]; exact Nat.mul_le_mul_right _ hi
  apply List.ext_getElem?
  intro j
  by_cases hj : j < sz
  · rw [chunk_get hj]
    have hlt : i * sz + j < n * sz := by omega
    have hm : (i * sz + j) % sz = j := by rw [Nat.mul_comm, Nat.mul_add_mod, Nat.mod_eq_of_lt hj]
    simp [madeCells, hlt, hz, hm, hj]
  · rw [List.getElem?_eq_none (by unfold chunk; simp; omega), List.getElem?_eq_none (by simp; omega)]

theorem Own.made {w : World} {g n : Nat} {t : TypeId} {e : Sh} {z : Value} (hz : z.cells.toList = e.zcells) (ho : w.ownsRow g t e.sz (.slice (some ⟨g, 0, none⟩) n n) n (madeCells z.cells (n * e.sz)).toList) :
    Own w g (g + 1) (.row t e) (List.replicate n e.zero) [.slice (some ⟨g, 0, none⟩) n n] := by
  have hfl : (List.replicate n ([] : List Nat)).flatten = [] := by
    apply List.eq_nil_iff_forall_not_mem.2
    intro b hb
    obtain ⟨y, hy, hb⟩ := List.mem_flatten.1 hb
    rw [List.eq_of_mem_replicate hy] at hb; simp at hb
  refine Own.row_of (l := List.replicate n e.zero) (xs := (madeCells z.cells (n * e.sz)).toList) (by simpa using ho) (fun b hb => ?_) (List.replicate n []) (by simp) (by rw [hfl]; simp) (by rw [hfl]; simp) (fun i hi => ?_)
  · simp [Value.ownBlock] at hb; omega
  · have hi' : i < n := by simpa using hi
    have hsz : z.cells.size = e.sz := by rw [← zcells_len e, ← hz]; simp
    rw [chunk_made hsz hi', hz]
    have e1 : (List.replicate n ([] : List Nat)).getD i [] = [] := by simp [List.getD_eq_getElem?_getD, hi']
    rw [e1]
    simp only [List.getElem_replicate]
    exact zero_ow w e

theorem set_step {α : Type} {l : List α} {z : α} {k n : Nat} (hl : l.length = n) (hk : k < n) :
    (l.take k ++ List.replicate (n - k) z).set k l[k] = l.take (k + 1) ++ List.replicate (n - (k + 1)) z := by
  have h1 : (l.take k).length = k := by rw [List.length_take]; omega
  rw [List.set_append_right _ _ (by omega), h1, Nat.sub_self, show n - k = (n - (k + 1)) + 1 by omega, List.replicate_succ, List.set_cons_zero,
    List.take_succ_eq_append_getElem (by omega), List.append_assoc]
  rfl
end Go.Proofs.Ytnbcefdfdonljaa
