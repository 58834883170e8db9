/- Data of any shape in memory: numbers, bools, slices and structs, one in another: what is read, what is owned (block by block), and what stays of both; no condition. -/
import Derived.Test.YtnbcefdfdonljaaBase
import Derived.Test.YtnbcefdfdonljaaBytes
import Derived.Deep.Slices
import Derived.ChangeArms
namespace Go.Proofs.Ytnbcefdfdonljaa
open Go.RowKit Go.ChangeShapes Go.WideShapes Go.ChangeAt
set_option linter.unusedVariables false

/-- Shapes of data: a struct is a row of fields. -/
inductive Sh where
  | int (k : IntKind)
  | bool
  | row (t : TypeId) (e : Sh)
  | rowO (t : TypeId) (e : Sh)
  | nil
  | cons (f r : Sh)

@[reducible] def Sh.El : Sh → Type
  | .int _ => Int
  | .bool => Bool
  | .row _ e => List e.El
  | .rowO _ e => List e.El
  | .nil => Unit
  | .cons f r => f.El × r.El

/-- How many cells one takes. -/
def Sh.sz : Sh → Nat
  | .int _ => 1
  | .bool => 1
  | .row _ _ => 1
  | .rowO _ _ => 1
  | .nil => 0
  | .cons f r => f.sz + r.sz

/-- Cells cs read as d; all that they lead to lies below block B. -/
def Sh.Rd (w : World) (B : Nat) : (s : Sh) → s.El → List Value → Prop
  | .int k, n, cs => cs = [.int k n] ∧ (Lit.int k n).wf = true
  | .bool, b, cs => cs = [.bool b]
  | .row _ e, l, cs => ∃ a cap, cs = [.slice a l.length cap] ∧ (l.length ≤ cap ∧ cap ≤ maxLen) ∧ (a = none → cap = 0) ∧ ∃ b off, (l ≠ [] → a = some ⟨b, off, none⟩ ∧ b < B) ∧
      ∀ i (h : i < l.length), ∃ cs', cs'.length = e.sz ∧ (∀ j, j < e.sz → w.cell? ⟨b, off + i * e.sz + j, none⟩ = cs'[j]?) ∧ Sh.Rd w B e l[i] cs'
  | .rowO _ e, l, cs => ∃ a cap, cs = [.slice a l.length cap] ∧ (l.length ≤ cap ∧ cap ≤ maxLen) ∧ (a = none → cap = 0) ∧ ∃ b off, (l ≠ [] → a = some ⟨b, off, none⟩ ∧ b < B) ∧
      ∀ i (h : i < l.length), ∃ cs', cs'.length = e.sz ∧ (∀ j, j < e.sz → w.cell? ⟨b, off + i * e.sz + j, none⟩ = cs'[j]?) ∧ Sh.Rd w B e l[i] cs'
  | .nil, _, cs => cs = []
  | .cons f r, d, cs => ∃ c1 c2, cs = c1 ++ c2 ∧ Sh.Rd w B f d.1 c1 ∧ Sh.Rd w B r d.2 c2

/-- Cells cs own d: its memory is just the blocks bs. -/
def Sh.Ow (w : World) : (s : Sh) → List Nat → s.El → List Value → Prop
  | .int k, bs, n, cs => bs = [] ∧ cs = [.int k n] ∧ (Lit.int k n).wf = true
  | .bool, bs, b, cs => bs = [] ∧ cs = [.bool b]
  | .row t e, bs, l, cs => (bs = [] ∧ cs = [.slice none 0 0] ∧ l = []) ∨
      ∃ g cap cur F, cs = [.slice (some ⟨g, 0, none⟩) l.length cap] ∧ bs = g :: List.flatten F ∧ w.heap[g]? = some (.cells cur t (0, 0)) ∧ l.length ≤ cap ∧ cap ≤ maxLen ∧ cur.size = cap * e.sz ∧ F.length = l.length ∧
        ∀ i (h : i < l.length), Sh.Ow w e (F.getD i []) l[i] ((cur.toList.drop (i * e.sz)).take e.sz)
  | .rowO t e, bs, l, cs => (bs = [] ∧ l = [] ∧ ∃ a cap, cs = [.slice a 0 cap] ∧ cap ≤ maxLen ∧ (a = none → cap = 0)) ∨
      ∃ g off cap cur F, cs = [.slice (some ⟨g, off, none⟩) l.length cap] ∧ bs = g :: List.flatten F ∧ w.heap[g]? = some (.cells cur t (0, 0)) ∧ l.length ≤ cap ∧ cap ≤ maxLen ∧ off + l.length * e.sz ≤ cur.size ∧ F.length = l.length ∧
        ∀ i (h : i < l.length), Sh.Ow w e (F.getD i []) l[i] ((cur.toList.drop (off + i * e.sz)).take e.sz)
  | .nil, bs, _, cs => bs = [] ∧ cs = []
  | .cons f r, bs, d, cs => ∃ b1 b2 c1 c2, bs = b1 ++ b2 ∧ cs = c1 ++ c2 ∧ Sh.Ow w f b1 d.1 c1 ∧ Sh.Ow w r b2 d.2 c2

theorem Sh.Rd.keep {w w' : World} {B : Nat} (hk : ∀ b, b < B → w'.heap[b]? = w.heap[b]?) : ∀ (s : Sh) (d : s.El) (cs : List Value), s.Rd w B d cs → s.Rd w' B d cs
  | .int _, _, _, h => h
  | .bool, _, _, h => h
  | .row _ e, l, cs, ⟨a, cap, h1, h2, h3, b, off, h4, h5⟩ => ⟨a, cap, h1, h2, h3, b, off, h4, fun i hi => by
      obtain ⟨cs', g1, g2, g3⟩ := h5 i hi
      have hb := (h4 (by intro e; subst e; simp at hi)).2
      exact ⟨cs', g1, fun j hj => (World.cell?_of_block (w := w) (a := ⟨b, off + i * e.sz + j, none⟩) (hk b hb)).trans (g2 j hj), Sh.Rd.keep hk e _ _ g3⟩⟩
  | .rowO _ e, l, cs, ⟨a, cap, h1, h2, h3, b, off, h4, h5⟩ => ⟨a, cap, h1, h2, h3, b, off, h4, fun i hi => by
      obtain ⟨cs', g1, g2, g3⟩ := h5 i hi
      have hb := (h4 (by intro e; subst e; simp at hi)).2
      exact ⟨cs', g1, fun j hj => (World.cell?_of_block (w := w) (a := ⟨b, off + i * e.sz + j, none⟩) (hk b hb)).trans (g2 j hj), Sh.Rd.keep hk e _ _ g3⟩⟩
  | .nil, _, _, h => h
  | .cons f r, d, cs, ⟨c1, c2, h1, h2, h3⟩ => ⟨c1, c2, h1, Sh.Rd.keep hk f _ _ h2, Sh.Rd.keep hk r _ _ h3⟩

theorem Sh.Rd.mono {w : World} {B B' : Nat} (hB : B ≤ B') : ∀ (s : Sh) (d : s.El) (cs : List Value), s.Rd w B d cs → s.Rd w B' d cs
  | .int _, _, _, h => h
  | .bool, _, _, h => h
  | .row _ e, l, cs, ⟨a, cap, h1, h2, h3, b, off, h4, h5⟩ => ⟨a, cap, h1, h2, h3, b, off, fun hl => ⟨(h4 hl).1, Nat.lt_of_lt_of_le (h4 hl).2 hB⟩, fun i hi => by
      obtain ⟨cs', g1, g2, g3⟩ := h5 i hi
      exact ⟨cs', g1, g2, Sh.Rd.mono hB e _ _ g3⟩⟩
  | .rowO _ e, l, cs, ⟨a, cap, h1, h2, h3, b, off, h4, h5⟩ => ⟨a, cap, h1, h2, h3, b, off, fun hl => ⟨(h4 hl).1, Nat.lt_of_lt_of_le (h4 hl).2 hB⟩, fun i hi => by
      obtain ⟨cs', g1, g2, g3⟩ := h5 i hi
      exact ⟨cs', g1, g2, Sh.Rd.mono hB e _ _ g3⟩⟩
  | .nil, _, _, h => h
  | .cons f r, d, cs, ⟨c1, c2, h1, h2, h3⟩ => ⟨c1, c2, h1, Sh.Rd.mono hB f _ _ h2, Sh.Rd.mono hB r _ _ h3⟩

theorem Sh.Rd.below {w w' : World} {B C : Nat} {s : Sh} {d : s.El} {cs : List Value} (h : s.Rd w B d cs) (hB : B ≤ C) (hb : Below C w w') : s.Rd w' B d cs :=
  Sh.Rd.keep (fun b hlt => hb.block b (Nat.lt_of_lt_of_le hlt hB)) s d cs h

theorem Sh.Rd.len {w : World} {B : Nat} : ∀ (s : Sh) (d : s.El) (cs : List Value), s.Rd w B d cs → cs.length = s.sz
  | .int _, _, _, h => by rw [h.1]; rfl
  | .bool, _, _, h => by rw [h]; rfl
  | .row _ e, l, cs, ⟨a, cap, h1, _⟩ => by rw [h1]; rfl
  | .rowO _ e, l, cs, ⟨a, cap, h1, _⟩ => by rw [h1]; rfl
  | .nil, _, _, h => by rw [h]; rfl
  | .cons f r, d, cs, ⟨c1, c2, h1, h2, h3⟩ => by rw [h1, List.length_append, Sh.Rd.len f _ _ h2, Sh.Rd.len r _ _ h3]; rfl

theorem getD_mem_flatten {F : List (List Nat)} {i b : Nat} (h : b ∈ F.getD i []) : b ∈ F.flatten := by
  rw [List.getD_eq_getElem?_getD] at h
  cases hi : F[i]? with
  | none => rw [hi] at h; simp at h
  | some x =>
    rw [hi] at h
    exact List.mem_flatten.2 ⟨x, List.mem_of_getElem? hi, h⟩

theorem Sh.Ow.keep {w w' : World} : ∀ (s : Sh) (bs : List Nat) (d : s.El) (cs : List Value), (∀ b ∈ bs, w'.heap[b]? = w.heap[b]?) → s.Ow w bs d cs → s.Ow w' bs d cs
  | .int _, _, _, _, _, h => h
  | .bool, _, _, _, _, h => h
  | .row t e, bs, l, cs, hk, h => by
    rcases h with h | ⟨g, cap, cur, F, h1, h2, h3, h4, h5, h6, h7, h8⟩
    · exact Or.inl h
    · subst h2
      exact Or.inr ⟨g, cap, cur, F, h1, rfl, by rw [hk g (by simp)]; exact h3, h4, h5, h6, h7, fun i hi => Sh.Ow.keep e _ _ _ (fun b hb => hk b (List.mem_cons_of_mem _ (getD_mem_flatten hb))) (h8 i hi)⟩
  | .rowO t e, bs, l, cs, hk, h => by
    rcases h with h | ⟨g, off, cap, cur, F, h1, h2, h3, h4, h5, h6, h7, h8⟩
    · exact Or.inl h
    · subst h2
      exact Or.inr ⟨g, off, cap, cur, F, h1, rfl, by rw [hk g (by simp)]; exact h3, h4, h5, h6, h7, fun i hi => Sh.Ow.keep e _ _ _ (fun b hb => hk b (List.mem_cons_of_mem _ (getD_mem_flatten hb))) (h8 i hi)⟩
  | .nil, _, _, _, _, h => h
  | .cons f r, bs, d, cs, hk, ⟨b1, b2, c1, c2, h1, h2, h3, h4⟩ => by
    subst h1
    exact ⟨b1, b2, c1, c2, rfl, h2, Sh.Ow.keep f _ _ _ (fun b hb => hk b (List.mem_append_left _ hb)) h3, Sh.Ow.keep r _ _ _ (fun b hb => hk b (List.mem_append_right _ hb)) h4⟩

theorem heap_lt {w : World} {g : Nat} {o : Obj} (h : w.heap[g]? = some o) : g < w.heap.size := by
  apply Classical.byContradiction; intro hn
  rw [Array.getElem?_eq_none (by omega)] at h; cases h

theorem mem_flatten_getD {F : List (List Nat)} {b : Nat} (h : b ∈ F.flatten) : ∃ i, i < F.length ∧ b ∈ F.getD i [] := by
  obtain ⟨x, hx, hb⟩ := List.mem_flatten.1 h
  obtain ⟨i, hi, rfl⟩ := List.getElem_of_mem hx
  exact ⟨i, hi, by rw [List.getD_eq_getElem?_getD, List.getElem?_eq_getElem hi]; exact hb⟩

theorem Sh.Ow.lt {w : World} : ∀ (s : Sh) (bs : List Nat) (d : s.El) (cs : List Value), s.Ow w bs d cs → ∀ b ∈ bs, b < w.heap.size
  | .int _, bs, _, _, h => by rw [h.1]; simp
  | .bool, bs, _, _, h => by rw [h.1]; simp
  | .row t e, bs, l, cs, h => by
    rcases h with h | ⟨g, cap, cur, F, h1, h2, h3, h4, h5, h6, h7, h8⟩
    · rw [h.1]; simp
    · subst h2
      intro b hb
      rcases List.mem_cons.1 hb with rfl | hb
      · exact heap_lt h3
      · obtain ⟨i, hi, hb⟩ := mem_flatten_getD hb
        exact Sh.Ow.lt e _ _ _ (h8 i (by omega)) b hb
  | .rowO t e, bs, l, cs, h => by
    rcases h with h | ⟨g, off, cap, cur, F, h1, h2, h3, h4, h5, h6, h7, h8⟩
    · rw [h.1]; simp
    · subst h2
      intro b hb
      rcases List.mem_cons.1 hb with rfl | hb
      · exact heap_lt h3
      · obtain ⟨i, hi, hb⟩ := mem_flatten_getD hb
        exact Sh.Ow.lt e _ _ _ (h8 i (by omega)) b hb
  | .nil, bs, _, _, h => by rw [h.1]; simp
  | .cons f r, bs, d, cs, ⟨b1, b2, c1, c2, h1, h2, h3, h4⟩ => by
    subst h1
    intro b hb
    rcases List.mem_append.1 hb with hb | hb
    · exact Sh.Ow.lt f _ _ _ h3 b hb
    · exact Sh.Ow.lt r _ _ _ h4 b hb

theorem Sh.Ow.len {w : World} : ∀ (s : Sh) (bs : List Nat) (d : s.El) (cs : List Value), s.Ow w bs d cs → cs.length = s.sz
  | .int _, _, _, _, h => by rw [h.2.1]; rfl
  | .bool, _, _, _, h => by rw [h.2]; rfl
  | .row _ e, _, l, cs, h => by
    rcases h with h | ⟨g, cap, cur, F, h1, _⟩
    · rw [h.2.1]; rfl
    · rw [h1]; rfl
  | .rowO _ e, _, l, cs, h => by
    rcases h with ⟨_, _, a, cap, h1, _⟩ | ⟨g, off, cap, cur, F, h1, _⟩
    · rw [h1]; rfl
    · rw [h1]; rfl
  | .nil, _, _, _, h => by rw [h.2]; rfl
  | .cons f r, _, d, cs, ⟨b1, b2, c1, c2, _, h1, h2, h3⟩ => by rw [h1, List.length_append, Sh.Ow.len f _ _ _ h2, Sh.Ow.len r _ _ _ h3]; rfl

theorem cell_of_heap {w : World} {g : Nat} {cur : Array Value} {t : TypeId} {fz : Nat × Nat} (h : w.heap[g]? = some (.cells cur t fz)) (o : Nat) : w.cell? ⟨g, o, none⟩ = cur[o]? := by simp [World.cell?, h]

/-- What is owned reads. -/
theorem Sh.Ow.rd {w : World} {B : Nat} (hB : w.heap.size ≤ B) : ∀ (s : Sh) (bs : List Nat) (d : s.El) (cs : List Value), s.Ow w bs d cs → s.Rd w B d cs
  | .int _, _, _, _, h => h.2
  | .bool, _, _, _, h => h.2
  | .row t e, bs, l, cs, h => by
    rcases h with ⟨_, h1, rfl⟩ | ⟨g, cap, cur, F, h1, h2, h3, h4, h5, h6, h7, h8⟩
    · exact ⟨none, 0, h1, ⟨Nat.le_refl _, Nat.zero_le _⟩, fun _ => rfl, 0, 0, fun h => absurd rfl h, fun i hi => by simp at hi⟩
    · refine ⟨some ⟨g, 0, none⟩, cap, h1, ⟨h4, h5⟩, fun h => (by cases h), g, 0, fun _ => ⟨rfl, Nat.lt_of_lt_of_le (heap_lt h3) hB⟩, fun i hi => ⟨_, ?_, ?_, Sh.Ow.rd hB e _ _ _ (h8 i hi)⟩⟩
      · exact Sh.Ow.len _ _ _ _ (h8 i hi)
      · intro j hj
        rw [cell_of_heap h3, List.getElem?_take_of_lt hj, List.getElem?_drop, ← Array.getElem?_toList]
        congr 1; omega
  | .rowO t e, bs, l, cs, h => by
    rcases h with ⟨_, rfl, a, cap, h1, hm, hn⟩ | ⟨g, off, cap, cur, F, h1, h2, h3, h4, h5, h6, h7, h8⟩
    · exact ⟨a, cap, h1, ⟨Nat.zero_le _, hm⟩, hn, 0, 0, fun h => absurd rfl h, fun i hi => by simp at hi⟩
    · refine ⟨some ⟨g, off, none⟩, cap, h1, ⟨h4, h5⟩, fun h => (by cases h), g, off, fun _ => ⟨rfl, Nat.lt_of_lt_of_le (heap_lt h3) hB⟩, fun i hi => ⟨_, ?_, ?_, Sh.Ow.rd hB e _ _ _ (h8 i hi)⟩⟩
      · exact Sh.Ow.len _ _ _ _ (h8 i hi)
      · intro j hj
        rw [cell_of_heap h3, List.getElem?_take_of_lt hj, List.getElem?_drop, ← Array.getElem?_toList]
  | .nil, _, _, _, h => h.2
  | .cons f r, _, d, cs, ⟨b1, b2, c1, c2, _, h1, h2, h3⟩ => ⟨c1, c2, h1, Sh.Ow.rd hB f _ _ _ h2, Sh.Ow.rd hB r _ _ _ h3⟩

/-- Owned, block by block, all of them from lo on and below hi. -/
structure Own (w : World) (lo hi : Nat) (s : Sh) (d : s.El) (cs : List Value) : Prop where
  ex : ∃ bs, s.Ow w bs d cs ∧ bs.Nodup ∧ ∀ b ∈ bs, lo ≤ b ∧ b < hi

theorem Own.keep {w w' : World} {lo hi : Nat} {s : Sh} {d : s.El} {cs : List Value} (h : Own w lo hi s d cs) (hk : ∀ b, lo ≤ b → b < hi → w'.heap[b]? = w.heap[b]?) : Own w' lo hi s d cs := by
  obtain ⟨bs, h1, h2, h3⟩ := h
  exact ⟨bs, Sh.Ow.keep s bs d cs (fun b hb => hk b (h3 b hb).1 (h3 b hb).2) h1, h2, h3⟩
theorem Own.below {w w' : World} {lo hi C : Nat} {s : Sh} {d : s.El} {cs : List Value} (h : Own w lo hi s d cs) (hC : hi ≤ C) (hb : Below C w w') : Own w' lo hi s d cs := h.keep (fun b _ h2 => hb.block b (by omega))
theorem Own.mono {w : World} {lo hi lo' hi' : Nat} {s : Sh} {d : s.El} {cs : List Value} (h : Own w lo hi s d cs) (h1 : lo' ≤ lo) (h2 : hi ≤ hi') : Own w lo' hi' s d cs := by
  obtain ⟨bs, g1, g2, g3⟩ := h
  exact ⟨bs, g1, g2, fun b hb => ⟨Nat.le_trans h1 (g3 b hb).1, Nat.lt_of_lt_of_le (g3 b hb).2 h2⟩⟩
theorem Own.tight {w : World} {lo hi : Nat} {s : Sh} {d : s.El} {cs : List Value} (h : Own w lo hi s d cs) : Own w lo w.heap.size s d cs := by
  obtain ⟨bs, g1, g2, g3⟩ := h
  exact ⟨bs, g1, g2, fun b hb => ⟨(g3 b hb).1, Sh.Ow.lt _ _ _ _ g1 b hb⟩⟩
theorem Own.rd {w : World} {lo hi B : Nat} {s : Sh} {d : s.El} {cs : List Value} (h : Own w lo hi s d cs) (hB : w.heap.size ≤ B) : s.Rd w B d cs := by
  obtain ⟨bs, g1, _⟩ := h
  exact Sh.Ow.rd hB s bs d cs g1

/-! ### Bytes -/
abbrev u8s : Sh := .row 5 (.int .u8)

theorem wf_u8 {x : Int} (h0 : 0 ≤ x) (h1 : x ≤ 255) : (Lit.int .u8 x).wf = true := by
  simp [Lit.wf, IntKind.min, IntKind.max, IntKind.bits, IntKind.signed]; omega

theorem rd_bytes {w : World} {B : Nat} {l : List Int} {cs : List Value} (h : u8s.Rd w B l cs) : ∃ a cap, cs = [.slice a l.length cap] ∧ RB w a l ∧ (a = none → cap = 0) ∧ l.length ≤ maxLen := by
  obtain ⟨a, cap, h1, h2, h3, b, off, h4, h5⟩ := h
  have key : ∀ i (hi : i < l.length), w.cell? ⟨b, off + i, none⟩ = some (.int .u8 l[i]) ∧ (Lit.int .u8 l[i]).wf = true := by
    intro i hi
    obtain ⟨cs', g1, g2, g3, g4⟩ := h5 i hi
    have := g2 0 (by decide)
    rw [g3] at this
    exact ⟨by simpa [Sh.sz] using this, g4⟩
  refine ⟨a, cap, h1, ⟨?_, ?_⟩, h3, Nat.le_trans h2.1 h2.2⟩
  · intro x hx
    obtain ⟨i, hi, rfl⟩ := List.getElem_of_mem hx
    exact bounds_u8 (key i hi).2
  · by_cases hl : l = []
    · exact Or.inl hl
    · refine Or.inr ⟨b, off, (h4 hl).1, fun i hi => ?_⟩
      rw [(key i hi).1, List.getD_eq_getElem?_getD, List.getElem?_eq_getElem hi]; rfl

theorem rd_cap {w : World} {B : Nat} {t : TypeId} {e : Sh} {l : List e.El} {a : Option Addr} {n cap : Nat} (h : (Sh.row t e).Rd w B l [.slice a n cap]) : l.length = n ∧ n ≤ cap ∧ cap ≤ maxLen ∧ (a = none → cap = 0) := by
  obtain ⟨a', cap', h1, h2, h3, _⟩ := h
  simp only [List.cons.injEq, Value.slice.injEq, and_true] at h1
  obtain ⟨rfl, rfl, rfl⟩ := h1
  exact ⟨rfl, h2.1, h2.2, h3⟩

theorem bytes_rd {w : World} {B : Nat} {a : Option Addr} {cap : Nat} {l : List Int} (h : RB w a l) (hn : a = none → cap = 0) (hm : l.length ≤ cap ∧ cap ≤ maxLen) (hB : w.heap.size ≤ B) : u8s.Rd w B l [.slice a l.length cap] := by
  rcases h.mem with e | ⟨b, off, rfl, hc⟩
  · subst e
    exact ⟨a, cap, rfl, hm, hn, 0, 0, fun h => absurd rfl h, fun i hi => by simp at hi⟩
  · refine ⟨_, cap, rfl, hm, hn, b, off, fun hl => ⟨rfl, ?_⟩, fun i hi => ⟨[.int .u8 l[i]], rfl, fun j hj => ?_, rfl, ?_⟩⟩
    · have := cell_lt (hc 0 (List.length_pos_iff.2 hl))
      simp at this; omega
    · have hj : j < 1 := hj
      have : j = 0 := by omega
      subst this
      show w.cell? ⟨b, off + i * 1 + 0, none⟩ = _
      rw [show off + i * 1 + 0 = off + i by omega, hc i hi, List.getD_eq_getElem?_getD, List.getElem?_eq_getElem hi]; rfl
    · have := h.bd _ (List.getElem_mem hi)
      exact wf_u8 this.1 this.2

theorem own_bytes {w : World} {base hi : Nat} {v : Value} {l : List Int} (h : OB w base v l) (hh : w.heap.size ≤ hi) : Own w base hi u8s l [v] := by
  obtain ⟨h1, ⟨rfl, hz⟩ | ⟨g, cap, cur, rfl, hg, hh', hc, hm, hs, ht⟩⟩ := h.own
  · have : l = [] := List.length_eq_zero_iff.1 hz
    subst this
    exact ⟨[], Or.inl ⟨rfl, rfl, rfl⟩, by simp, by simp⟩
  · refine ⟨[g], Or.inr ⟨g, cap, cur, List.replicate l.length [], rfl, by simp, hh', hc, hm, by simpa [Sh.sz] using hs, by simp, fun i hi => ?_⟩, by simp, fun b hb => ?_⟩
    · refine ⟨by simp [List.getD_eq_getElem?_getD, hi], ?_, ?_⟩
      · have e : (cur.toList.take (l.length * 1))[i]? = some (.int .u8 l[i]) := by rw [ht, List.getElem?_map, List.getElem?_eq_getElem hi]; rfl
        rw [List.getElem?_take_of_lt (by omega)] at e
        have hlt : i < cur.toList.length := by
          apply Classical.byContradiction; intro hn
          rw [List.getElem?_eq_none (by omega)] at e; cases e
        show (cur.toList.drop (i * 1)).take 1 = _
        rw [Nat.mul_one, List.drop_eq_getElem_cons hlt]
        rw [List.getElem?_eq_getElem hlt] at e
        simpa using e
      · have := h.bd _ (List.getElem_mem hi)
        exact wf_u8 this.1 this.2
    · simp at hb; subst hb
      exact ⟨hg, Nat.lt_of_lt_of_le (heap_lt hh') hh⟩

theorem take_drop_cells {cur : List Value} {n : Nat} {l : List Int} (hl : l.length = n) (h : ∀ i (hi : i < l.length), (cur.drop i).take 1 = [.int .u8 l[i]]) : cur.take n = l.map (Value.int .u8) := by
  apply List.ext_getElem?
  intro i
  by_cases hi : i < n
  · rw [List.getElem?_take_of_lt hi, List.getElem?_map, List.getElem?_eq_getElem (l := l) (by omega)]
    have := congrArg (fun x => x[0]?) (h i (by omega))
    simpa using this
  · rw [List.getElem?_eq_none (by rw [List.length_take]; omega), List.getElem?_eq_none (by simp; omega)]

/-- What is owned of bytes: the elder form, and its one block. -/
theorem bytes_ob {w : World} {bs : List Nat} {l : List Int} {cs : List Value} (h : u8s.Ow w bs l cs) : ∃ v, cs = [v] ∧ OB w 0 v l ∧ (∀ b, v.ownBlock = some b → b ∈ bs) ∧ (∀ b ∈ bs, v.ownBlock = some b) := by
  rcases h with ⟨rfl, rfl, rfl⟩ | ⟨g, cap, cur, F, rfl, rfl, h3, h4, h5, h6, h7, h8⟩
  · exact ⟨_, rfl, ⟨⟨rfl, Or.inl ⟨rfl, rfl⟩⟩, by simp⟩, by simp [Value.ownBlock], by simp⟩
  · have hF : F.flatten = [] := by
      apply List.eq_nil_iff_forall_not_mem.2
      intro b hb
      obtain ⟨i, hi, hb⟩ := mem_flatten_getD hb
      have := (h8 i (by omega)).1
      rw [this] at hb; simp at hb
    have key : ∀ i (hi : i < l.length), (cur.toList.drop i).take 1 = [.int .u8 l[i]] := fun i hi => by
      have := (h8 i hi).2.1
      simpa [Sh.sz] using this
    refine ⟨_, rfl, ⟨⟨by simp, Or.inr ⟨g, cap, cur, rfl, Nat.zero_le _, h3, h4, h5, by simpa [Sh.sz] using h6, ?_⟩⟩, ?_⟩, ?_, ?_⟩
    · rw [Nat.mul_one]; exact take_drop_cells rfl key
    · intro x hx
      obtain ⟨i, hi, rfl⟩ := List.getElem_of_mem hx
      exact bounds_u8 (h8 i hi).2.2
    · intro b hb; simp [Value.ownBlock] at hb; simp [hb]
    · intro b hb; rw [hF] at hb; simp at hb; subst hb; rfl

theorem OB.rebase {w : World} {base base' : Nat} {v : Value} {l : List Int} (h : OB w base v l) (hb : ∀ b, v.ownBlock = some b → base' ≤ b) : OB w base' v l := by
  refine ⟨?_, h.bd⟩
  obtain ⟨h1, h2 | ⟨g, cap, cur, rfl, hg, r⟩⟩ := h.own
  · exact ⟨h1, Or.inl h2⟩
  · exact ⟨h1, Or.inr ⟨g, cap, cur, rfl, hb g rfl, r⟩⟩
theorem Own.ob {w : World} {lo hi : Nat} {l : List Int} {cs : List Value} (h : Own w lo hi u8s l cs) : ∃ v, cs = [v] ∧ OB w lo v l ∧ ∀ b, v.ownBlock = some b → lo ≤ b ∧ b < hi := by
  obtain ⟨bs, h1, h2, h3⟩ := h
  obtain ⟨v, rfl, ho, h4, _⟩ := bytes_ob h1
  exact ⟨v, rfl, ho.rebase fun b hb => (h3 b (h4 b hb)).1, fun b hb => h3 b (h4 b hb)⟩
end Go.Proofs.Ytnbcefdfdonljaa
