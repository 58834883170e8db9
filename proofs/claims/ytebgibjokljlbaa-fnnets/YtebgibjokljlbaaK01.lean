/- Plain facts on memory that the walks share: a row of numbers that came in, what a call leaves of old memory; no condition. -/
import Derived.WalkKit
import Derived.ProofKit
import Derived.Handy
import Derived.Below
import Derived.OpenShut
import Derived.Deep.RegionWith
import Derived.Deep.QuietTactic
import Derived.BigQuiet
import Derived.Test.YtebgibjokljlbaaRows
import Derived.WalkSmall
import Derived.Maps.AppendAt
import Derived.Deep.Slices
import Derived.ChangeArms
namespace Go.Proofs.Ytebgibjokljlbaa
open Go.RowKit

theorem add_block (x : Addr) (i : Nat) : (x.add i).block = x.block := by unfold Addr.add; split <;> rfl
theorem add_none (b off i : Nat) : Addr.add ⟨b, off, none⟩ i = ⟨b, off + i, none⟩ := by
  unfold Addr.add; split
  · subst_vars; rfl
  · rfl

/-- A slice of integers that came in: it is nil, or it leads to a row of 'cap' cells, the numbers zs, each fitting its kind. -/
def BRow (k : IntKind) (w : World) (a : Option Addr) (len cap : Nat) (zs : List Int) : Prop :=
  (a = none ∧ len = 0 ∧ cap = 0 ∧ zs = []) ∨
  ∃ x, a = some x ∧ len ≤ cap ∧ cap ≤ maxLen ∧ zs.length = cap ∧ (∀ i, i < zs.length → w.cell? (x.add i) = some (.int k (zs.getD i 0))) ∧ ∀ n ∈ zs, (Lit.int k n).wf = true

/-- The row lies below block B. -/
def RowLt (B : Nat) (a : Option Addr) (zs : List Int) : Prop := ∀ x, a = some x → 0 < zs.length → x.block < B

theorem BRow.below {k : IntKind} {B : Nat} {w w' : World} {a : Option Addr} {len cap : Nat} {zs : List Int} (h : BRow k w a len cap zs) (hl : RowLt B a zs) (hb : Below B w w') : BRow k w' a len cap zs := by
  rcases h with h | ⟨x, rfl, h1, h2, h3, h4, h5⟩
  · exact Or.inl h
  · refine Or.inr ⟨x, rfl, h1, h2, h3, fun i hi => ?_, h5⟩
    rw [hb.cell (p := x.add i) (by rw [add_block]; exact hl x rfl (by omega))]
    exact h4 i hi

theorem RowLt.mono {B B' : Nat} {a : Option Addr} {zs : List Int} (h : RowLt B a zs) (hB : B ≤ B') : RowLt B' a zs := fun x e g => Nat.lt_of_lt_of_le (h x e g) hB

theorem cell_lt {w : World} {a : Addr} {v : Value} (h : w.cell? a = some v) : a.block < w.heap.size := by
  apply Classical.byContradiction
  intro hn
  have e : w.heap[a.block]? = none := Array.getElem?_eq_none (by omega)
  unfold World.cell? at h
  rw [e] at h
  simp at h

theorem BRow.lt {k : IntKind} {w : World} {a : Option Addr} {len cap : Nat} {zs : List Int} (h : BRow k w a len cap zs) : RowLt w.heap.size a zs := by
  intro x e g
  rcases h with ⟨h, _⟩ | ⟨x', e', h1, h2, h3, h4, h5⟩
  · rw [h] at e; cases e
  · rw [e'] at e; cases e
    have := cell_lt (h4 0 g)
    rwa [add_block] at this

/-- Behind a call that leaves old memory alone every old cell and mark reads as before. -/
theorem bcell {W w1 : World} (hb : Below W.heap.size W w1) : (∀ b o, b < W.heap.size → w1.cell? ⟨b, o, none⟩ = W.cell? ⟨b, o, none⟩) ∧ (∀ b o, b < W.heap.size → w1.frozen? ⟨b, o, none⟩ = W.frozen? ⟨b, o, none⟩) :=
  ⟨fun b o h => hb.cell (p := ⟨b, o, none⟩) h, fun b o h => hb.frozen (p := ⟨b, o, none⟩) h⟩

/-- The same where what stays reaches up to a block B. -/
theorem bcellB {B : Nat} {W w1 : World} (hb : Below B W w1) : (∀ b o, b < B → w1.cell? ⟨b, o, none⟩ = W.cell? ⟨b, o, none⟩) ∧ (∀ b o, b < B → w1.frozen? ⟨b, o, none⟩ = W.frozen? ⟨b, o, none⟩) :=
  ⟨fun b o h => hb.cell (p := ⟨b, o, none⟩) h, fun b o h => hb.frozen (p := ⟨b, o, none⟩) h⟩

theorem ret_int {k : IntKind} {a b : Int} (h : a = b) : Ending.returned (.int k a) = .returned (.int k b) := by rw [h]
theorem ret_bool {a b : Bool} (h : a = b) : Ending.returned (.bool a) = .returned (.bool b) := by rw [h]

/-- A byte of a row, at a place below its length, at the very address. -/
theorem BRow.byte {w : World} {a : Option Addr} {len cap : Nat} {zs : List Int} (h : BRow .u8 w a len cap zs) (hp : 0 < len) :
    ∃ b off, a = some ⟨b, off, none⟩ ∧ ∀ i, i < len → w.cell? ⟨b, off + i, none⟩ = some (.int .u8 (zs.getD i 0)) ∧ 0 ≤ zs.getD i 0 ∧ zs.getD i 0 ≤ 255 := by
  rcases h with ⟨_, h, _⟩ | ⟨x, rfl, h1, h2, h3, h4, h5⟩
  · omega
  · obtain ⟨b, off, spot⟩ := x
    have hc := h4 0 (by omega)
    have hspot : spot = none := by simpa [Addr.add] using World.cell?_spot hc
    subst hspot
    refine ⟨b, off, rfl, fun i hi => ?_⟩
    have hi' : i < zs.length := by omega
    have hwf := h5 (zs.getD i 0) (by rw [List.getD_eq_getElem?_getD, List.getElem?_eq_getElem hi']; exact List.getElem_mem hi')
    have hbd := bounds_u8 hwf
    exact ⟨by have := h4 i hi'; rwa [add_none] at this, by omega, by omega⟩
end Go.Proofs.Ytebgibjokljlbaa

/- Slices of bytes: what a slice that is read holds, what a slice of the call's own holds, and what the law's own helpers (copy, compare, mark, hold against the marks, measure) make of them. -/
namespace Go.Proofs.Ytebgibjokljlbaa
open Go.RowKit
set_option linter.unusedVariables false

theorem info_u8 : (Try.prog.info? 5).map (fun i => (i.zero, i.size, i.bytes)) = some (some (.int .u8 0), 1, 1) := by kernel_rfl

/-- The slice that begins at a reads as the bytes l. -/
structure RB (w : World) (a : Option Addr) (l : List Int) : Prop where
  bd : ∀ x ∈ l, 0 ≤ x ∧ x ≤ 255
  mem : l = [] ∨ ∃ b off, a = some ⟨b, off, none⟩ ∧ ∀ i, i < l.length → w.cell? ⟨b, off + i, none⟩ = some (.int .u8 (l.getD i 0))

theorem RB.below {w w' : World} {a : Option Addr} {l : List Int} (h : RB w a l) {B : Nat} (hB : w.heap.size ≤ B) (hb : Below B w w') : RB w' a l := by
  refine ⟨h.bd, ?_⟩
  rcases h.mem with e | ⟨b, off, rfl, hc⟩
  · exact Or.inl e
  · refine Or.inr ⟨b, off, rfl, fun i hi => ?_⟩
    have hlt := cell_lt (hc i hi)
    rw [hb.cell (p := ⟨b, off + i, none⟩) (by simp at hlt ⊢; omega)]
    exact hc i hi

theorem RB.nil (w : World) (a : Option Addr) : RB w a [] := ⟨by simp, Or.inl rfl⟩

theorem getD_bd {l : List Int} (h : ∀ x ∈ l, 0 ≤ x ∧ x ≤ 255) (i : Nat) (hi : i < l.length) : 0 ≤ l.getD i 0 ∧ l.getD i 0 ≤ 255 := by
  rw [List.getD_eq_getElem?_getD, List.getElem?_eq_getElem hi]; exact h _ (List.getElem_mem hi)

theorem BRow.rb {w : World} {a : Option Addr} {len cap : Nat} {zs : List Int} (h : BRow .u8 w a len cap zs) : RB w a (zs.take len) ∧ (zs.take len).length = len := by
  have hlen : (zs.take len).length = len := by
    rcases h with ⟨_, rfl, _, rfl⟩ | ⟨x, rfl, h1, h2, h3, h4, h5⟩
    · rfl
    · rw [List.length_take]; omega
  refine ⟨⟨?_, ?_⟩, hlen⟩
  · rcases h with ⟨_, rfl, _, rfl⟩ | ⟨x, rfl, h1, h2, h3, h4, h5⟩
    · simp
    · intro y hy; exact bounds_u8 (h5 y (List.mem_of_mem_take hy))
  · by_cases hz : len = 0
    · left; subst hz; simp
    · right
      obtain ⟨b, off, rfl, hc⟩ := h.byte (by omega)
      refine ⟨b, off, rfl, fun i hi => ?_⟩
      rw [hlen] at hi
      rw [(hc i hi).1]
      simp [hi]

/-- The slice v owns, from block base on, the bytes l. -/
structure OB (w : World) (base : Nat) (v : Value) (l : List Int) : Prop where
  own : w.ownsRow base 5 1 v l.length (l.map (Value.int .u8))
  bd : ∀ x ∈ l, 0 ≤ x ∧ x ≤ 255

theorem OB.rb {w : World} {base : Nat} {v : Value} {l : List Int} (h : OB w base v l) : ∃ a cap, v = .slice a l.length cap ∧ RB w a l := by
  have h0 := h.own
  obtain ⟨h1, ⟨rfl, hz⟩ | ⟨g, cap, cur, rfl, hg, hh, hc, hm, hs, ht⟩⟩ := h.own
  · have : l = [] := List.length_eq_zero_iff.1 hz
    subst this
    exact ⟨none, 0, rfl, RB.nil _ _⟩
  · refine ⟨_, cap, rfl, h.bd, ?_⟩
    by_cases hz : l = []
    · exact Or.inl hz
    · refine Or.inr ⟨g, 0, rfl, fun i hi => ?_⟩
      have := h0.cellAt i (by omega)
      rw [Nat.zero_add, this, List.getElem?_map, List.getD_eq_getElem?_getD, List.getElem?_eq_getElem hi]
      rfl

/-- The same, and a slice that is nil has no room. -/
theorem OB.rbn {w : World} {base : Nat} {v : Value} {l : List Int} (h : OB w base v l) : ∃ a cap, v = .slice a l.length cap ∧ RB w a l ∧ (a = none → cap = 0) := by
  obtain ⟨a, cap, rfl, hr⟩ := h.rb
  refine ⟨a, cap, rfl, hr, ?_⟩
  rintro rfl
  obtain ⟨_, ⟨e, _⟩ | ⟨g, c, cur, e, _⟩⟩ := h.own
  · simp only [Value.slice.injEq] at e; exact e.2.2
  · simp at e

theorem OB.mono {w : World} {base base' : Nat} {v : Value} {l : List Int} (h : OB w base v l) (hB : base' ≤ base) : OB w base' v l := by
  refine ⟨?_, h.bd⟩
  obtain ⟨h1, h2 | ⟨g, cap, cur, e, hg, r⟩⟩ := h.own
  · exact ⟨h1, Or.inl h2⟩
  · exact ⟨h1, Or.inr ⟨g, cap, cur, e, by omega, r⟩⟩

/-- What is owned stays owned where its block stays. -/
theorem OB.below {w w' : World} {base B : Nat} {v : Value} {l : List Int} (h : OB w base v l) (hB : w.heap.size ≤ B) (hb : Below B w w') : OB w' base v l := by
  refine ⟨?_, h.bd⟩
  obtain ⟨h1, h2 | ⟨g, cap, cur, e, hg, hh, r⟩⟩ := h.own
  · exact ⟨h1, Or.inl h2⟩
  · have hlt : g < w.heap.size := by
      apply Classical.byContradiction; intro hn
      rw [Array.getElem?_eq_none (by omega)] at hh; cases hh
    exact ⟨h1, Or.inr ⟨g, cap, cur, e, hg, by rw [hb.block g (by omega)]; exact hh, r⟩⟩

/-- What is owned stays owned where its own block stays. -/
theorem OB.keep {w w' : World} {base g n cap : Nat} {l : List Int} (h : OB w base (.slice (some ⟨g, 0, none⟩) n cap) l) (hb : w'.heap[g]? = w.heap[g]?) : OB w' base (.slice (some ⟨g, 0, none⟩) n cap) l := by
  refine ⟨?_, h.bd⟩
  obtain ⟨h1, ⟨h2, _⟩ | ⟨g', cap', cur, e, hg, hh, r⟩⟩ := h.own
  · cases h2
  · simp only [Value.slice.injEq, Option.some.injEq, Addr.mk.injEq, and_true] at e
    obtain ⟨rfl, e2, rfl⟩ := e
    exact ⟨h1, Or.inr ⟨g, cap, cur, by rw [e2], hg, by rw [hb]; exact hh, r⟩⟩

/-- What is owned stays owned where all blocks from its base on stay. -/
theorem OB.keeps {w w' : World} {base : Nat} {v : Value} {l : List Int} (h : OB w base v l) (hb : ∀ g, base ≤ g → w'.heap[g]? = w.heap[g]?) : OB w' base v l := by
  refine ⟨?_, h.bd⟩
  obtain ⟨h1, h2 | ⟨g, cap, cur, e, hg, hh, r⟩⟩ := h.own
  · exact ⟨h1, Or.inl h2⟩
  · exact ⟨h1, Or.inr ⟨g, cap, cur, e, hg, by rw [hb g hg]; exact hh, r⟩⟩

theorem set_next {l : List Int} {k n : Nat} (hl : l.length = n) (hk : k < n) :
    (l.take k ++ List.replicate (n - k) 0).set k (l.getD k 0) = l.take (k + 1) ++ List.replicate (n - (k + 1)) 0 := by
  have h1 : (l.take k).length = k := by rw [List.length_take]; omega
  rw [List.set_append_right _ _ (by omega), h1, Nat.sub_self, show n - k = (n - (k + 1)) + 1 by omega, List.replicate_succ, List.set_cons_zero,
    List.take_succ_eq_append_getElem (by omega), List.append_assoc, List.getD_eq_getElem?_getD, List.getElem?_eq_getElem (by omega)]
  rfl



/-- The marks from k on, n of them. -/
def marks (k : Int) (n : Nat) : List Int := (List.range n).map fun (i : Nat) => (k + (i : Int)) % 256

theorem marks_length (k : Int) (n : Nat) : (marks k n).length = n := by simp [marks]
theorem marks_getD (k : Int) (n i : Nat) (h : i < n) : (marks k n).getD i 0 = (k + i) % 256 := by
  simp [marks, List.getElem?_range h]
theorem marks_bd (k : Int) (n : Nat) : ∀ x ∈ marks k n, 0 ≤ x ∧ x ≤ 255 := by
  intro x hx
  obtain ⟨i, _, rfl⟩ := List.mem_map.1 hx
  omega
theorem marks_succ (k : Int) (n : Nat) : marks k (n + 1) = marks k n ++ [(k + n) % 256] := by
  simp [marks, List.range_succ]

theorem set_mark {l : List Int} {c : Int} {k : Nat} (hk : k < l.length) : (marks c k ++ l.drop k).set k ((c + k) % 256) = marks c (k + 1) ++ l.drop (k + 1) := by
  have h1 := marks_length c k
  rw [List.set_append_right _ _ (by omega), h1, Nat.sub_self, List.drop_eq_getElem_cons hk, List.set_cons_zero, marks_succ, List.append_assoc]
  rfl

theorem u8w (n : Int) : IntKind.u8.wrap n = n % 256 := by
  simp only [IntKind.wrap, IntKind.bits, IntKind.signed]; simp




end Go.Proofs.Ytebgibjokljlbaa

/- Data of any shape in memory: numbers, bools, slices and structs, one in another: what is read, what is owned (block by block), and what stays of both; no condition. -/
namespace Go.Proofs.Ytebgibjokljlbaa
open Go.RowKit Go.ChangeShapes Go.WideShapes Go.ChangeAt
set_option linter.unusedVariables false

/-- Shapes of data: a struct is a row of fields. -/
inductive Sh where
  | int (k : IntKind)
  | bool
  | row (t : TypeId) (e : Sh)
  | rowO (t : TypeId) (e : Sh)
  | nil
  | cons (f r : Sh)

@[reducible] def Sh.El : Sh → Type
  | .int _ => Int
  | .bool => Bool
  | .row _ e => List e.El
  | .rowO _ e => List e.El
  | .nil => Unit
  | .cons f r => f.El × r.El

/-- How many cells one takes. -/
def Sh.sz : Sh → Nat
  | .int _ => 1
  | .bool => 1
  | .row _ _ => 1
  | .rowO _ _ => 1
  | .nil => 0
  | .cons f r => f.sz + r.sz

/-- Cells cs read as d; all that they lead to lies below block B. -/
def Sh.Rd (w : World) (B : Nat) : (s : Sh) → s.El → List Value → Prop
  | .int k, n, cs => cs = [.int k n] ∧ (Lit.int k n).wf = true
  | .bool, b, cs => cs = [.bool b]
  | .row _ e, l, cs => ∃ a cap, cs = [.slice a l.length cap] ∧ (l.length ≤ cap ∧ cap ≤ maxLen) ∧ (a = none → cap = 0) ∧ ∃ b off, (l ≠ [] → a = some ⟨b, off, none⟩ ∧ b < B) ∧
      ∀ i (h : i < l.length), ∃ cs', cs'.length = e.sz ∧ (∀ j, j < e.sz → w.cell? ⟨b, off + i * e.sz + j, none⟩ = cs'[j]?) ∧ Sh.Rd w B e l[i] cs'
  | .rowO _ e, l, cs => ∃ a cap, cs = [.slice a l.length cap] ∧ (l.length ≤ cap ∧ cap ≤ maxLen) ∧ (a = none → cap = 0) ∧ ∃ b off, (l ≠ [] → a = some ⟨b, off, none⟩ ∧ b < B) ∧
      ∀ i (h : i < l.length), ∃ cs', cs'.length = e.sz ∧ (∀ j, j < e.sz → w.cell? ⟨b, off + i * e.sz + j, none⟩ = cs'[j]?) ∧ Sh.Rd w B e l[i] cs'
  | .nil, _, cs => cs = []
  | .cons f r, d, cs => ∃ c1 c2, cs = c1 ++ c2 ∧ Sh.Rd w B f d.1 c1 ∧ Sh.Rd w B r d.2 c2

/-- Cells cs own d: its memory is just the blocks bs. -/
def Sh.Ow (w : World) : (s : Sh) → List Nat → s.El → List Value → Prop
  | .int k, bs, n, cs => bs = [] ∧ cs = [.int k n] ∧ (Lit.int k n).wf = true
  | .bool, bs, b, cs => bs = [] ∧ cs = [.bool b]
  | .row t e, bs, l, cs => (bs = [] ∧ cs = [.slice none 0 0] ∧ l = []) ∨
      ∃ g cap cur F, cs = [.slice (some ⟨g, 0, none⟩) l.length cap] ∧ bs = g :: List.flatten F ∧ w.heap[g]? = some (.cells cur t (0, 0)) ∧ l.length ≤ cap ∧ cap ≤ maxLen ∧ cur.size = cap * e.sz ∧ F.length = l.length ∧
        ∀ i (h : i < l.length), Sh.Ow w e (F.getD i []) l[i] ((cur.toList.drop (i * e.sz)).take e.sz)
  | .rowO t e, bs, l, cs => (bs = [] ∧ l = [] ∧ ∃ a cap, cs = [.slice a 0 cap] ∧ cap ≤ maxLen ∧ (a = none → cap = 0)) ∨
      ∃ g off cap cur F, cs = [.slice (some ⟨g, off, none⟩) l.length cap] ∧ bs = g :: List.flatten F ∧ w.heap[g]? = some (.cells cur t (0, 0)) ∧ l.length ≤ cap ∧ cap ≤ maxLen ∧ off + l.length * e.sz ≤ cur.size ∧ F.length = l.length ∧
        ∀ i (h : i < l.length), Sh.Ow w e (F.getD i []) l[i] ((cur.toList.drop (off + i * e.sz)).take e.sz)
  | .nil, bs, _, cs => bs = [] ∧ cs = []
  | .cons f r, bs, d, cs => ∃ b1 b2 c1 c2, bs = b1 ++ b2 ∧ cs = c1 ++ c2 ∧ Sh.Ow w f b1 d.1 c1 ∧ Sh.Ow w r b2 d.2 c2

theorem Sh.Rd.keep {w w' : World} {B : Nat} (hk : ∀ b, b < B → w'.heap[b]? = w.heap[b]?) : ∀ (s : Sh) (d : s.El) (cs : List Value), s.Rd w B d cs → s.Rd w' B d cs
  | .int _, _, _, h => h
  | .bool, _, _, h => h
  | .row _ e, l, cs, ⟨a, cap, h1, h2, h3, b, off, h4, h5⟩ => ⟨a, cap, h1, h2, h3, b, off, h4, fun i hi => by
      obtain ⟨cs', g1, g2, g3⟩ := h5 i hi
      have hb := (h4 (by intro e; subst e; simp at hi)).2
      exact ⟨cs', g1, fun j hj => (World.cell?_of_block (w := w) (a := ⟨b, off + i * e.sz + j, none⟩) (hk b hb)).trans (g2 j hj), Sh.Rd.keep hk e _ _ g3⟩⟩
  | .rowO _ e, l, cs, ⟨a, cap, h1, h2, h3, b, off, h4, h5⟩ => ⟨a, cap, h1, h2, h3, b, off, h4, fun i hi => by
      obtain ⟨cs', g1, g2, g3⟩ := h5 i hi
      have hb := (h4 (by intro e; subst e; simp at hi)).2
      exact ⟨cs', g1, fun j hj => (World.cell?_of_block (w := w) (a := ⟨b, off + i * e.sz + j, none⟩) (hk b hb)).trans (g2 j hj), Sh.Rd.keep hk e _ _ g3⟩⟩
  | .nil, _, _, h => h
  | .cons f r, d, cs, ⟨c1, c2, h1, h2, h3⟩ => ⟨c1, c2, h1, Sh.Rd.keep hk f _ _ h2, Sh.Rd.keep hk r _ _ h3⟩

theorem Sh.Rd.mono {w : World} {B B' : Nat} (hB : B ≤ B') : ∀ (s : Sh) (d : s.El) (cs : List Value), s.Rd w B d cs → s.Rd w B' d cs
  | .int _, _, _, h => h
  | .bool, _, _, h => h
  | .row _ e, l, cs, ⟨a, cap, h1, h2, h3, b, off, h4, h5⟩ => ⟨a, cap, h1, h2, h3, b, off, fun hl => ⟨(h4 hl).1, Nat.lt_of_lt_of_le (h4 hl).2 hB⟩, fun i hi => by
      obtain ⟨cs', g1, g2, g3⟩ := h5 i hi
      exact ⟨cs', g1, g2, Sh.Rd.mono hB e _ _ g3⟩⟩
  | .rowO _ e, l, cs, ⟨a, cap, h1, h2, h3, b, off, h4, h5⟩ => ⟨a, cap, h1, h2, h3, b, off, fun hl => ⟨(h4 hl).1, Nat.lt_of_lt_of_le (h4 hl).2 hB⟩, fun i hi => by
      obtain ⟨cs', g1, g2, g3⟩ := h5 i hi
      exact ⟨cs', g1, g2, Sh.Rd.mono hB e _ _ g3⟩⟩
  | .nil, _, _, h => h
  | .cons f r, d, cs, ⟨c1, c2, h1, h2, h3⟩ => ⟨c1, c2, h1, Sh.Rd.mono hB f _ _ h2, Sh.Rd.mono hB r _ _ h3⟩

theorem Sh.Rd.below {w w' : World} {B C : Nat} {s : Sh} {d : s.El} {cs : List Value} (h : s.Rd w B d cs) (hB : B ≤ C) (hb : Below C w w') : s.Rd w' B d cs :=
  Sh.Rd.keep (fun b hlt => hb.block b (Nat.lt_of_lt_of_le hlt hB)) s d cs h

theorem Sh.Rd.len {w : World} {B : Nat} : ∀ (s : Sh) (d : s.El) (cs : List Value), s.Rd w B d cs → cs.length = s.sz
  | .int _, _, _, h => by rw [h.1]; rfl
  | .bool, _, _, h => by rw [h]; rfl
  | .row _ e, l, cs, ⟨a, cap, h1, _⟩ => by rw [h1]; rfl
  | .rowO _ e, l, cs, ⟨a, cap, h1, _⟩ => by rw [h1]; rfl
  | .nil, _, _, h => by rw [h]; rfl
  | .cons f r, d, cs, ⟨c1, c2, h1, h2, h3⟩ => by rw [h1, List.length_append, Sh.Rd.len f _ _ h2, Sh.Rd.len r _ _ h3]; rfl

theorem getD_mem_flatten {F : List (List Nat)} {i b : Nat} (h : b ∈ F.getD i []) : b ∈ F.flatten := by
  rw [List.getD_eq_getElem?_getD] at h
  cases hi : F[i]? with
  | none => rw [hi] at h; simp at h
  | some x =>
    rw [hi] at h
    exact List.mem_flatten.2 ⟨x, List.mem_of_getElem? hi, h⟩

theorem Sh.Ow.keep {w w' : World} : ∀ (s : Sh) (bs : List Nat) (d : s.El) (cs : List Value), (∀ b ∈ bs, w'.heap[b]? = w.heap[b]?) → s.Ow w bs d cs → s.Ow w' bs d cs
  | .int _, _, _, _, _, h => h
  | .bool, _, _, _, _, h => h
  | .row t e, bs, l, cs, hk, h => by
    rcases h with h | ⟨g, cap, cur, F, h1, h2, h3, h4, h5, h6, h7, h8⟩
    · exact Or.inl h
    · subst h2
      exact Or.inr ⟨g, cap, cur, F, h1, rfl, by rw [hk g (by simp)]; exact h3, h4, h5, h6, h7, fun i hi => Sh.Ow.keep e _ _ _ (fun b hb => hk b (List.mem_cons_of_mem _ (getD_mem_flatten hb))) (h8 i hi)⟩
  | .rowO t e, bs, l, cs, hk, h => by
    rcases h with h | ⟨g, off, cap, cur, F, h1, h2, h3, h4, h5, h6, h7, h8⟩
    · exact Or.inl h
    · subst h2
      exact Or.inr ⟨g, off, cap, cur, F, h1, rfl, by rw [hk g (by simp)]; exact h3, h4, h5, h6, h7, fun i hi => Sh.Ow.keep e _ _ _ (fun b hb => hk b (List.mem_cons_of_mem _ (getD_mem_flatten hb))) (h8 i hi)⟩
  | .nil, _, _, _, _, h => h
  | .cons f r, bs, d, cs, hk, ⟨b1, b2, c1, c2, h1, h2, h3, h4⟩ => by
    subst h1
    exact ⟨b1, b2, c1, c2, rfl, h2, Sh.Ow.keep f _ _ _ (fun b hb => hk b (List.mem_append_left _ hb)) h3, Sh.Ow.keep r _ _ _ (fun b hb => hk b (List.mem_append_right _ hb)) h4⟩

theorem heap_lt {w : World} {g : Nat} {o : Obj} (h : w.heap[g]? = some o) : g < w.heap.size := by
  apply Classical.byContradiction; intro hn
  rw [Array.getElem?_eq_none (by omega)] at h; cases h

theorem mem_flatten_getD {F : List (List Nat)} {b : Nat} (h : b ∈ F.flatten) : ∃ i, i < F.length ∧ b ∈ F.getD i [] := by
  obtain ⟨x, hx, hb⟩ := List.mem_flatten.1 h
  obtain ⟨i, hi, rfl⟩ := List.getElem_of_mem hx
  exact ⟨i, hi, by rw [List.getD_eq_getElem?_getD, List.getElem?_eq_getElem hi]; exact hb⟩

theorem Sh.Ow.lt {w : World} : ∀ (s : Sh) (bs : List Nat) (d : s.El) (cs : List Value), s.Ow w bs d cs → ∀ b ∈ bs, b < w.heap.size
  | .int _, bs, _, _, h => by rw [h.1]; simp
  | .bool, bs, _, _, h => by rw [h.1]; simp
  | .row t e, bs, l, cs, h => by
    rcases h with h | ⟨g, cap, cur, F, h1, h2, h3, h4, h5, h6, h7, h8⟩
    · rw [h.1]; simp
    · subst h2
      intro b hb
      rcases List.mem_cons.1 hb with rfl | hb
      · exact heap_lt h3
      · obtain ⟨i, hi, hb⟩ := mem_flatten_getD hb
        exact Sh.Ow.lt e _ _ _ (h8 i (by omega)) b hb
  | .rowO t e, bs, l, cs, h => by
    rcases h with h | ⟨g, off, cap, cur, F, h1, h2, h3, h4, h5, h6, h7, h8⟩
    · rw [h.1]; simp
    · subst h2
      intro b hb
      rcases List.mem_cons.1 hb with rfl | hb
      · exact heap_lt h3
      · obtain ⟨i, hi, hb⟩ := mem_flatten_getD hb
        exact Sh.Ow.lt e _ _ _ (h8 i (by omega)) b hb
  | .nil, bs, _, _, h => by rw [h.1]; simp
  | .cons f r, bs, d, cs, ⟨b1, b2, c1, c2, h1, h2, h3, h4⟩ => by
    subst h1
    intro b hb
    rcases List.mem_append.1 hb with hb | hb
    · exact Sh.Ow.lt f _ _ _ h3 b hb
    · exact Sh.Ow.lt r _ _ _ h4 b hb

theorem Sh.Ow.len {w : World} : ∀ (s : Sh) (bs : List Nat) (d : s.El) (cs : List Value), s.Ow w bs d cs → cs.length = s.sz
  | .int _, _, _, _, h => by rw [h.2.1]; rfl
  | .bool, _, _, _, h => by rw [h.2]; rfl
  | .row _ e, _, l, cs, h => by
    rcases h with h | ⟨g, cap, cur, F, h1, _⟩
    · rw [h.2.1]; rfl
    · rw [h1]; rfl
  | .rowO _ e, _, l, cs, h => by
    rcases h with ⟨_, _, a, cap, h1, _⟩ | ⟨g, off, cap, cur, F, h1, _⟩
    · rw [h1]; rfl
    · rw [h1]; rfl
  | .nil, _, _, _, h => by rw [h.2]; rfl
  | .cons f r, _, d, cs, ⟨b1, b2, c1, c2, _, h1, h2, h3⟩ => by rw [h1, List.length_append, Sh.Ow.len f _ _ _ h2, Sh.Ow.len r _ _ _ h3]; rfl

theorem cell_of_heap {w : World} {g : Nat} {cur : Array Value} {t : TypeId} {fz : Nat × Nat} (h : w.heap[g]? = some (.cells cur t fz)) (o : Nat) : w.cell? ⟨g, o, none⟩ = cur[o]? := by simp [World.cell?, h]

/-- What is owned reads. -/
theorem Sh.Ow.rd {w : World} {B : Nat} (hB : w.heap.size ≤ B) : ∀ (s : Sh) (bs : List Nat) (d : s.El) (cs : List Value), s.Ow w bs d cs → s.Rd w B d cs
  | .int _, _, _, _, h => h.2
  | .bool, _, _, _, h => h.2
  | .row t e, bs, l, cs, h => by
    rcases h with ⟨_, h1, rfl⟩ | ⟨g, cap, cur, F, h1, h2, h3, h4, h5, h6, h7, h8⟩
    · exact ⟨none, 0, h1, ⟨Nat.le_refl _, Nat.zero_le _⟩, fun _ => rfl, 0, 0, fun h => absurd rfl h, fun i hi => by simp at hi⟩
    · refine ⟨some ⟨g, 0, none⟩, cap, h1, ⟨h4, h5⟩, fun h => (by cases h), g, 0, fun _ => ⟨rfl, Nat.lt_of_lt_of_le (heap_lt h3) hB⟩, fun i hi => ⟨_, ?_, ?_, Sh.Ow.rd hB e _ _ _ (h8 i hi)⟩⟩
      · exact Sh.Ow.len _ _ _ _ (h8 i hi)
      · intro j hj
        rw [cell_of_heap h3, List.getElem?_take_of_lt hj, List.getElem?_drop, ← Array.getElem?_toList]
        congr 1; omega
  | .rowO t e, bs, l, cs, h => by
    rcases h with ⟨_, rfl, a, cap, h1, hm, hn⟩ | ⟨g, off, cap, cur, F, h1, h2, h3, h4, h5, h6, h7, h8⟩
    · exact ⟨a, cap, h1, ⟨Nat.zero_le _, hm⟩, hn, 0, 0, fun h => absurd rfl h, fun i hi => by simp at hi⟩
    · refine ⟨some ⟨g, off, none⟩, cap, h1, ⟨h4, h5⟩, fun h => (by cases h), g, off, fun _ => ⟨rfl, Nat.lt_of_lt_of_le (heap_lt h3) hB⟩, fun i hi => ⟨_, ?_, ?_, Sh.Ow.rd hB e _ _ _ (h8 i hi)⟩⟩
      · exact Sh.Ow.len _ _ _ _ (h8 i hi)
      · intro j hj
        rw [cell_of_heap h3, List.getElem?_take_of_lt hj, List.getElem?_drop, ← Array.getElem?_toList]
  | .nil, _, _, _, h => h.2
  | .cons f r, _, d, cs, ⟨b1, b2, c1, c2, _, h1, h2, h3⟩ => ⟨c1, c2, h1, Sh.Ow.rd hB f _ _ _ h2, Sh.Ow.rd hB r _ _ _ h3⟩

/-- Owned, block by block, all of them from lo on and below hi. -/
structure Own (w : World) (lo hi : Nat) (s : Sh) (d : s.El) (cs : List Value) : Prop where
  ex : ∃ bs, s.Ow w bs d cs ∧ bs.Nodup ∧ ∀ b ∈ bs, lo ≤ b ∧ b < hi

theorem Own.keep {w w' : World} {lo hi : Nat} {s : Sh} {d : s.El} {cs : List Value} (h : Own w lo hi s d cs) (hk : ∀ b, lo ≤ b → b < hi → w'.heap[b]? = w.heap[b]?) : Own w' lo hi s d cs := by
  obtain ⟨bs, h1, h2, h3⟩ := h
  exact ⟨bs, Sh.Ow.keep s bs d cs (fun b hb => hk b (h3 b hb).1 (h3 b hb).2) h1, h2, h3⟩
theorem Own.below {w w' : World} {lo hi C : Nat} {s : Sh} {d : s.El} {cs : List Value} (h : Own w lo hi s d cs) (hC : hi ≤ C) (hb : Below C w w') : Own w' lo hi s d cs := h.keep (fun b _ h2 => hb.block b (by omega))
theorem Own.mono {w : World} {lo hi lo' hi' : Nat} {s : Sh} {d : s.El} {cs : List Value} (h : Own w lo hi s d cs) (h1 : lo' ≤ lo) (h2 : hi ≤ hi') : Own w lo' hi' s d cs := by
  obtain ⟨bs, g1, g2, g3⟩ := h
  exact ⟨bs, g1, g2, fun b hb => ⟨Nat.le_trans h1 (g3 b hb).1, Nat.lt_of_lt_of_le (g3 b hb).2 h2⟩⟩
theorem Own.tight {w : World} {lo hi : Nat} {s : Sh} {d : s.El} {cs : List Value} (h : Own w lo hi s d cs) : Own w lo w.heap.size s d cs := by
  obtain ⟨bs, g1, g2, g3⟩ := h
  exact ⟨bs, g1, g2, fun b hb => ⟨(g3 b hb).1, Sh.Ow.lt _ _ _ _ g1 b hb⟩⟩
theorem Own.rd {w : World} {lo hi B : Nat} {s : Sh} {d : s.El} {cs : List Value} (h : Own w lo hi s d cs) (hB : w.heap.size ≤ B) : s.Rd w B d cs := by
  obtain ⟨bs, g1, _⟩ := h
  exact Sh.Ow.rd hB s bs d cs g1

/-! ### Bytes -/
abbrev u8s : Sh := .row 5 (.int .u8)

theorem wf_u8 {x : Int} (h0 : 0 ≤ x) (h1 : x ≤ 255) : (Lit.int .u8 x).wf = true := by
  simp [Lit.wf, IntKind.min, IntKind.max, IntKind.bits, IntKind.signed]; omega

theorem rd_bytes {w : World} {B : Nat} {l : List Int} {cs : List Value} (h : u8s.Rd w B l cs) : ∃ a cap, cs = [.slice a l.length cap] ∧ RB w a l ∧ (a = none → cap = 0) ∧ l.length ≤ maxLen := by
  obtain ⟨a, cap, h1, h2, h3, b, off, h4, h5⟩ := h
  have key : ∀ i (hi : i < l.length), w.cell? ⟨b, off + i, none⟩ = some (.int .u8 l[i]) ∧ (Lit.int .u8 l[i]).wf = true := by
    intro i hi
    obtain ⟨cs', g1, g2, g3, g4⟩ := h5 i hi
    have := g2 0 (by decide)
    rw [g3] at this
    exact ⟨by simpa [Sh.sz] using this, g4⟩
  refine ⟨a, cap, h1, ⟨?_, ?_⟩, h3, Nat.le_trans h2.1 h2.2⟩
  · intro x hx
    obtain ⟨i, hi, rfl⟩ := List.getElem_of_mem hx
    exact bounds_u8 (key i hi).2
  · by_cases hl : l = []
    · exact Or.inl hl
    · refine Or.inr ⟨b, off, (h4 hl).1, fun i hi => ?_⟩
      rw [(key i hi).1, List.getD_eq_getElem?_getD, List.getElem?_eq_getElem hi]; rfl

theorem rd_cap {w : World} {B : Nat} {t : TypeId} {e : Sh} {l : List e.El} {a : Option Addr} {n cap : Nat} (h : (Sh.row t e).Rd w B l [.slice a n cap]) : l.length = n ∧ n ≤ cap ∧ cap ≤ maxLen ∧ (a = none → cap = 0) := by
  obtain ⟨a', cap', h1, h2, h3, _⟩ := h
  simp only [List.cons.injEq, Value.slice.injEq, and_true] at h1
  obtain ⟨rfl, rfl, rfl⟩ := h1
  exact ⟨rfl, h2.1, h2.2, h3⟩

theorem bytes_rd {w : World} {B : Nat} {a : Option Addr} {cap : Nat} {l : List Int} (h : RB w a l) (hn : a = none → cap = 0) (hm : l.length ≤ cap ∧ cap ≤ maxLen) (hB : w.heap.size ≤ B) : u8s.Rd w B l [.slice a l.length cap] := by
  rcases h.mem with e | ⟨b, off, rfl, hc⟩
  · subst e
    exact ⟨a, cap, rfl, hm, hn, 0, 0, fun h => absurd rfl h, fun i hi => by simp at hi⟩
  · refine ⟨_, cap, rfl, hm, hn, b, off, fun hl => ⟨rfl, ?_⟩, fun i hi => ⟨[.int .u8 l[i]], rfl, fun j hj => ?_, rfl, ?_⟩⟩
    · have := cell_lt (hc 0 (List.length_pos_iff.2 hl))
      simp at this; omega
    · have hj : j < 1 := hj
      have : j = 0 := by omega
      subst this
      show w.cell? ⟨b, off + i * 1 + 0, none⟩ = _
      rw [show off + i * 1 + 0 = off + i by omega, hc i hi, List.getD_eq_getElem?_getD, List.getElem?_eq_getElem hi]; rfl
    · have := h.bd _ (List.getElem_mem hi)
      exact wf_u8 this.1 this.2

theorem own_bytes {w : World} {base hi : Nat} {v : Value} {l : List Int} (h : OB w base v l) (hh : w.heap.size ≤ hi) : Own w base hi u8s l [v] := by
  obtain ⟨h1, ⟨rfl, hz⟩ | ⟨g, cap, cur, rfl, hg, hh', hc, hm, hs, ht⟩⟩ := h.own
  · have : l = [] := List.length_eq_zero_iff.1 hz
    subst this
    exact ⟨[], Or.inl ⟨rfl, rfl, rfl⟩, by simp, by simp⟩
  · refine ⟨[g], Or.inr ⟨g, cap, cur, List.replicate l.length [], rfl, by simp, hh', hc, hm, by simpa [Sh.sz] using hs, by simp, fun i hi => ?_⟩, by simp, fun b hb => ?_⟩
    · refine ⟨by simp [List.getD_eq_getElem?_getD, hi], ?_, ?_⟩
      · have e : (cur.toList.take (l.length * 1))[i]? = some (.int .u8 l[i]) := by rw [ht, List.getElem?_map, List.getElem?_eq_getElem hi]; rfl
        rw [List.getElem?_take_of_lt (by omega)] at e
        have hlt : i < cur.toList.length := by
          apply Classical.byContradiction; intro hn
          rw [List.getElem?_eq_none (by omega)] at e; cases e
        show (cur.toList.drop (i * 1)).take 1 = _
        rw [Nat.mul_one, List.drop_eq_getElem_cons hlt]
        rw [List.getElem?_eq_getElem hlt] at e
        simpa using e
      · have := h.bd _ (List.getElem_mem hi)
        exact wf_u8 this.1 this.2
    · simp at hb; subst hb
      exact ⟨hg, Nat.lt_of_lt_of_le (heap_lt hh') hh⟩

theorem take_drop_cells {cur : List Value} {n : Nat} {l : List Int} (hl : l.length = n) (h : ∀ i (hi : i < l.length), (cur.drop i).take 1 = [.int .u8 l[i]]) : cur.take n = l.map (Value.int .u8) := by
  apply List.ext_getElem?
  intro i
  by_cases hi : i < n
  · rw [List.getElem?_take_of_lt hi, List.getElem?_map, List.getElem?_eq_getElem (l := l) (by omega)]
    have := congrArg (fun x => x[0]?) (h i (by omega))
    simpa using this
  · rw [List.getElem?_eq_none (by rw [List.length_take]; omega), List.getElem?_eq_none (by simp; omega)]

/-- What is owned of bytes: the elder form, and its one block. -/
theorem bytes_ob {w : World} {bs : List Nat} {l : List Int} {cs : List Value} (h : u8s.Ow w bs l cs) : ∃ v, cs = [v] ∧ OB w 0 v l ∧ (∀ b, v.ownBlock = some b → b ∈ bs) ∧ (∀ b ∈ bs, v.ownBlock = some b) := by
  rcases h with ⟨rfl, rfl, rfl⟩ | ⟨g, cap, cur, F, rfl, rfl, h3, h4, h5, h6, h7, h8⟩
  · exact ⟨_, rfl, ⟨⟨rfl, Or.inl ⟨rfl, rfl⟩⟩, by simp⟩, by simp [Value.ownBlock], by simp⟩
  · have hF : F.flatten = [] := by
      apply List.eq_nil_iff_forall_not_mem.2
      intro b hb
      obtain ⟨i, hi, hb⟩ := mem_flatten_getD hb
      have := (h8 i (by omega)).1
      rw [this] at hb; simp at hb
    have key : ∀ i (hi : i < l.length), (cur.toList.drop i).take 1 = [.int .u8 l[i]] := fun i hi => by
      have := (h8 i hi).2.1
      simpa [Sh.sz] using this
    refine ⟨_, rfl, ⟨⟨by simp, Or.inr ⟨g, cap, cur, rfl, Nat.zero_le _, h3, h4, h5, by simpa [Sh.sz] using h6, ?_⟩⟩, ?_⟩, ?_, ?_⟩
    · rw [Nat.mul_one]; exact take_drop_cells rfl key
    · intro x hx
      obtain ⟨i, hi, rfl⟩ := List.getElem_of_mem hx
      exact bounds_u8 (h8 i hi).2.2
    · intro b hb; simp [Value.ownBlock] at hb; simp [hb]
    · intro b hb; rw [hF] at hb; simp at hb; subst hb; rfl

theorem OB.rebase {w : World} {base base' : Nat} {v : Value} {l : List Int} (h : OB w base v l) (hb : ∀ b, v.ownBlock = some b → base' ≤ b) : OB w base' v l := by
  refine ⟨?_, h.bd⟩
  obtain ⟨h1, h2 | ⟨g, cap, cur, rfl, hg, r⟩⟩ := h.own
  · exact ⟨h1, Or.inl h2⟩
  · exact ⟨h1, Or.inr ⟨g, cap, cur, rfl, hb g rfl, r⟩⟩
theorem Own.ob {w : World} {lo hi : Nat} {l : List Int} {cs : List Value} (h : Own w lo hi u8s l cs) : ∃ v, cs = [v] ∧ OB w lo v l ∧ ∀ b, v.ownBlock = some b → lo ≤ b ∧ b < hi := by
  obtain ⟨bs, h1, h2, h3⟩ := h
  obtain ⟨v, rfl, ho, h4, _⟩ := bytes_ob h1
  exact ⟨v, rfl, ho.rebase fun b hb => (h3 b (h4 b hb)).1, fun b hb => h3 b (h4 b hb)⟩
end Go.Proofs.Ytebgibjokljlbaa

/- A parameter of a law that reads, of whatever shape, opened: there is a datum that its cells read as; no condition. -/
namespace Go.Proofs.Ytebgibjokljlbaa
open Go.RowKit Go.ChangeShapes Go.WideShapes Go.ChangeAt
set_option linter.unusedVariables false

def Sh.zero : (s : Sh) → s.El
  | .int _ => (0 : Int)
  | .bool => false
  | .row _ _ => []
  | .rowO _ _ => []
  | .nil => ()
  | .cons f r => (f.zero, r.zero)
instance (s : Sh) : Inhabited s.El := ⟨s.zero⟩

abbrev Rds {H : Type} (enc : TypeId × Value → H) (P : Program) (w : World) (t : TypeId) (cs : List Value) : Prop := ∃ n y, DataW.trod enc P w 0 (fun _ => true) true n t cs = some y

/-- The shape is that of a type (or of a struct's last fields, from a cell on). -/
def Sh.fits (P : Program) : Sh → TypeId ⊕ (List Field × Nat) → Prop
  | .int k, .inl t => P.underlying t = some (.int k)
  | .bool, .inl t => P.underlying t = some .bool
  | .row _ s, .inl t => ∃ e, P.underlying t = some (.slice e) ∧ P.cellsOf e = s.sz ∧ 0 < s.sz ∧ s.fits P (.inl e)
  | .cons f r, .inl t => ∃ fd fs, P.underlying t = some (.struct ⟨fd :: fs⟩) ∧ P.cellsOf t = f.sz + r.sz ∧ fd.offset = 0 ∧ P.cellsOf fd.type = f.sz ∧ f.fits P (.inl fd.type) ∧ r.fits P (.inr (fs, f.sz))
  | .cons f r, .inr (fd :: fs, off) => fd.offset = off ∧ P.cellsOf fd.type = f.sz ∧ f.fits P (.inl fd.type) ∧ r.fits P (.inr (fs, off + f.sz))
  | .nil, .inr ([], _) => True
  | _, _ => False

theorem open_sh {H : Type} {enc : TypeId × Value → H} {P : Program} {w : World} : ∀ (s : Sh),
    (∀ t cs, s.fits P (.inl t) → Rds enc P w t cs → ∃ d, s.Rd w w.heap.size d cs) ∧
    (∀ (fs : List Field) (off : Nat) (cs : List Value), s.fits P (.inr (fs, off)) → cs.length = off + s.sz → (∀ fd ∈ fs, Rds enc P w fd.type ((cs.drop fd.offset).take (P.cellsOf fd.type))) → ∃ d, s.Rd w w.heap.size d (cs.drop off)) := by
  intro s
  induction s with
  | int k =>
    refine ⟨fun t cs hf ⟨n, y, h⟩ => ?_, fun fs off cs hf => ?_⟩
    · obtain ⟨z, h1, _, h2⟩ := DataW.trod_int hf h
      exact ⟨z, h1, h2⟩
    · cases fs <;> exact absurd hf (by simp [Sh.fits])
  | bool =>
    refine ⟨fun t cs hf ⟨n, y, h⟩ => ?_, fun fs off cs hf => ?_⟩
    · obtain ⟨b, h1, _⟩ := DataW.trod_bool hf h
      exact ⟨b, h1⟩
    · cases fs <;> exact absurd hf (by simp [Sh.fits])
  | nil =>
    refine ⟨fun t cs hf => absurd hf (by simp [Sh.fits]), fun fs off cs hf hl _ => ⟨(), ?_⟩⟩
    show cs.drop off = []
    exact List.drop_of_length_le (by rw [hl]; exact Nat.le_refl _)
  | rowO t0 e ih => exact ⟨fun t cs hf => absurd hf (by simp [Sh.fits]), fun fs off cs hf => absurd hf (by simp [Sh.fits])⟩
  | row t0 e ih =>
    refine ⟨fun t cs hf ⟨n, y, h⟩ => ?_, fun fs off cs hf => ?_⟩
    · obtain ⟨te, hu, hc, hp, hfe⟩ := hf
      rcases Go.Deep.open_slice hu h with ⟨rfl, _⟩ | ⟨a, len, cap, m, n', D, Pl, rfl, _, hl, hm, hmm, _, hx⟩
      · exact ⟨[], none, 0, rfl, ⟨Nat.le_refl _, Nat.zero_le _⟩, fun _ => rfl, 0, 0, fun h => absurd rfl h, fun i hi => by simp at hi⟩
      · simp only [if_true] at hmm
        have each : ∀ i, i < len → ∃ q : e.El × List Value, w.cells? 0 (a.add (i * P.cellsOf te)) (P.cellsOf te) = some q.2 ∧ e.Rd w w.heap.size q.1 q.2 := by
          intro i hi
          obtain ⟨cs', h1, h2⟩ := hx i (by omega)
          obtain ⟨d, hd⟩ := ih.1 te cs' hfe ⟨n', _, h2⟩
          exact ⟨(d, cs'), h1, hd⟩
        obtain ⟨q, hq⟩ := Go.Deep.choose_lt (α := e.El × List Value) each
        have hsp : 0 < len → a = ⟨a.block, a.off, none⟩ ∧ a.block < w.heap.size := by
          intro hlen
          obtain ⟨_, hlen', hcell⟩ := World.cells?_some (hq 0 hlen).1
          have h0 := hcell 0 (by omega)
          have hs := World.cell?_spot (h0.trans (List.getElem?_eq_getElem (by omega)))
          have hb := cell_lt (h0.trans (List.getElem?_eq_getElem (by omega)))
          simp only [Go.Deep.add_add] at hs hb
          rw [add_block] at hb
          refine ⟨?_, hb⟩
          obtain ⟨b, o, sp⟩ := a
          have : sp = none := by simpa [Addr.add] using hs
          rw [this]
        refine ⟨(List.range len).map fun i => (q i).1, some a, cap, ?_, ?_, fun h => (by cases h), a.block, a.off, fun hne => ?_, fun i hi => ⟨(q i).2, ?_, fun j hj => ?_, ?_⟩⟩
        · simp
        · exact ⟨by simp; exact hl, hm⟩
        · have hlen : 0 < len := by
            rcases Nat.eq_zero_or_pos len with h0 | h0
            · subst h0; exact absurd rfl hne
            · exact h0
          exact ⟨congrArg some (hsp hlen).1, (hsp hlen).2⟩
        · obtain ⟨_, hlen', _⟩ := World.cells?_some (hq i (by simpa using hi)).1
          rw [hlen', hc]
        · obtain ⟨_, hlen', hcell⟩ := World.cells?_some (hq i (by simpa using hi)).1
          have h0 := hcell j (by omega)
          simp only [Go.Deep.add_add] at h0
          rw [(hsp (by simp at hi; omega)).1, add_none] at h0
          rw [← h0]
          show w.cell? ⟨a.block, a.off + i * e.sz + j, none⟩ = _
          rw [hc, Nat.add_assoc]
        · have := (hq i (by simpa using hi)).2
          simpa using this
    · cases fs <;> exact absurd hf (by simp [Sh.fits])
  | cons f r ihf ihr =>
    have step : ∀ (fd : Field) (fs : List Field) (off : Nat) (cs : List Value), fd.offset = off → P.cellsOf fd.type = f.sz → f.fits P (.inl fd.type) → r.fits P (.inr (fs, off + f.sz)) → cs.length = off + (f.sz + r.sz) →
        (∀ fd' ∈ fd :: fs, Rds enc P w fd'.type ((cs.drop fd'.offset).take (P.cellsOf fd'.type))) → ∃ d, (Sh.cons f r).Rd w w.heap.size d (cs.drop off) := by
      intro fd fs off cs h1 h2 h3 h4 hl hall
      obtain ⟨d1, hd1⟩ := ihf.1 fd.type _ h3 (hall fd (by simp))
      obtain ⟨d2, hd2⟩ := ihr.2 fs (off + f.sz) cs h4 (by omega) (fun fd' hfd' => hall fd' (by simp [hfd']))
      refine ⟨(d1, d2), _, _, ?_, hd1, hd2⟩
      rw [h1, h2, ← List.drop_drop, List.take_append_drop]
    refine ⟨fun t cs hf hr => ?_, fun fs off cs hf hl hall => ?_⟩
    · obtain ⟨fd, fs, hu, hct, h1, h2, h3, h4⟩ := hf
      obtain ⟨n, y, h⟩ := hr
      obtain ⟨xs, n', _, _, hlen, hxl, hx⟩ := DataW.trod_struct hu h
      have hall : ∀ fd' ∈ fd :: fs, Rds enc P w fd'.type ((cs.drop fd'.offset).take (P.cellsOf fd'.type)) := by
        intro fd' hmem
        obtain ⟨i, hi, he⟩ := List.getElem_of_mem hmem
        have := hx i fd' (by rw [← Array.getElem?_toList]; show (fd :: fs)[i]? = _; rw [List.getElem?_eq_getElem hi, he])
        have hxi : i < xs.length := by rw [hxl]; exact hi
        rw [List.getElem?_eq_getElem hxi] at this
        exact ⟨n', _, this⟩
      have := step fd fs 0 cs h1 h2 h3 (by rw [Nat.zero_add]; exact h4) (by rw [hlen, hct]; omega) hall
      simpa using this
    · cases fs with
      | nil => exact absurd hf (by simp [Sh.fits])
      | cons fd fs =>
        obtain ⟨h1, h2, h3, h4⟩ := hf
        exact step fd fs off cs h1 h2 h3 h4 hl hall
end Go.Proofs.Ytebgibjokljlbaa

/- Rows of structs that the call itself made: born, an element stored, one more behind them; what is owned then; no condition. -/
namespace Go.Proofs.Ytebgibjokljlbaa
open Go.RowKit
set_option linter.unusedVariables false

/-- The cells of element i. -/
def chunk (xs : List Value) (sz i : Nat) : List Value := (xs.drop (i * sz)).take sz

theorem chunk_take {xs : List Value} {sz n i : Nat} (hi : i < n) : chunk (xs.take (n * sz)) sz i = chunk xs sz i := by
  unfold chunk
  rw [List.drop_take, List.take_take]
  congr 1
  have : i * sz + sz ≤ n * sz := by rw [← Nat.succ_mul]; exact Nat.mul_le_mul_right _ hi
  omega

theorem Own.row_of {w : World} {lo hi : Nat} {t : TypeId} {e : Sh} {l : List e.El} {v : Value} {xs : List Value} (ho : w.ownsRow lo t e.sz v l.length xs) (hv : ∀ b, v.ownBlock = some b → b < hi) (F : List (List Nat)) (hF : F.length = l.length)
    (hnd : F.flatten.Nodup) (hb : ∀ b ∈ F.flatten, lo ≤ b ∧ b < hi ∧ v.ownBlock ≠ some b) (hel : ∀ i (h : i < l.length), e.Ow w (F.getD i []) l[i] (chunk xs e.sz i)) : Own w lo hi (.row t e) l [v] := by
  obtain ⟨h1, ⟨rfl, hz⟩ | ⟨g, cap, cur, rfl, hg, hh, hc, hm, hs, ht⟩⟩ := ho
  · have e1 : l = [] := List.length_eq_zero_iff.1 hz
    exact ⟨[], Or.inl ⟨rfl, rfl, e1⟩, by simp, by simp⟩
  · refine ⟨g :: F.flatten, Or.inr ⟨g, cap, cur, F, rfl, rfl, hh, hc, hm, hs, hF, fun i hi => ?_⟩, ?_, ?_⟩
    · have := hel i hi
      rw [← ht, chunk_take hi] at this
      exact this
    · refine List.nodup_cons.2 ⟨fun hmem => ?_, hnd⟩
      exact (hb g hmem).2.2 rfl
    · intro b hbm
      rcases List.mem_cons.1 hbm with rfl | hbm
      · exact ⟨hg, hv b rfl⟩
      · exact ⟨(hb b hbm).1, (hb b hbm).2.1⟩

theorem Own.row_to {w : World} {lo hi : Nat} {t : TypeId} {e : Sh} {l : List e.El} {cs : List Value} (h : Own w lo hi (.row t e) l cs) :
    ∃ v xs F, cs = [v] ∧ w.ownsRow lo t e.sz v l.length xs ∧ F.length = l.length ∧ List.Nodup (List.flatten F) ∧ (∀ b ∈ List.flatten F, lo ≤ b ∧ b < hi ∧ v.ownBlock ≠ some b) ∧ (∀ i (h : i < l.length), e.Ow w (List.getD F i []) l[i] (chunk xs e.sz i)) ∧ (∀ b, v.ownBlock = some b → b < hi) := by
  obtain ⟨bs, h1, h2, h3⟩ := h
  rcases h1 with ⟨rfl, rfl, rfl⟩ | ⟨g, cap, cur, F, rfl, rfl, g3, g4, g5, g6, g7, g8⟩
  · exact ⟨_, [], [], rfl, ⟨by simp, Or.inl ⟨rfl, rfl⟩⟩, rfl, by simp, by simp, fun i hi => by simp at hi, by simp [Value.ownBlock]⟩
  · obtain ⟨h2a, h2b⟩ := List.nodup_cons.1 h2
    refine ⟨_, cur.toList.take (l.length * e.sz), F, rfl, ⟨?_, Or.inr ⟨g, cap, cur, rfl, (h3 g (by simp)).1, g3, g4, g5, g6, rfl⟩⟩, g7, h2b, fun b hb => ⟨(h3 b (by simp [hb])).1, (h3 b (by simp [hb])).2, ?_⟩, fun i hi => ?_, ?_⟩
    · have : l.length * e.sz ≤ cap * e.sz := Nat.mul_le_mul_right _ g4
      simp; omega
    · intro e0
      simp [Value.ownBlock] at e0
      subst e0
      exact h2a hb
    · rw [chunk_take hi]; exact g8 i hi
    · intro b hb
      simp [Value.ownBlock] at hb
      subst hb
      exact (h3 g (by simp)).2

/-! ### Stores -/
def setRow (w : World) (g off : Nat) : List Value → World
  | [] => w
  | v :: vs => setRow (w.setCell ⟨g, off, none⟩ v) g (off + 1) vs
def setL (xs : List Value) (off : Nat) : List Value → List Value
  | [] => xs
  | v :: vs => setL (xs.set off v) (off + 1) vs

theorem setL_length : ∀ (vs xs : List Value) (off : Nat), (setL xs off vs).length = xs.length
  | [], _, _ => rfl
  | v :: vs, xs, off => by show (setL _ _ vs).length = _; rw [setL_length vs]; simp
theorem setL_get : ∀ (vs xs : List Value) (off j : Nat), off + vs.length ≤ xs.length → (setL xs off vs)[j]? = if off ≤ j ∧ j < off + vs.length then vs[j - off]? else xs[j]?
  | [], xs, off, j, h => by
    show xs[j]? = _
    rw [if_neg (by simp)]
  | v :: vs, xs, off, j, h => by
    show (setL (xs.set off v) (off + 1) vs)[j]? = _
    simp only [List.length_cons] at h
    rw [setL_get vs _ _ _ (by simp; omega)]
    by_cases h1 : off + 1 ≤ j ∧ j < off + 1 + vs.length
    · rw [if_pos h1, if_pos (by simp; omega), show j - off = (j - (off + 1)) + 1 by omega, List.getElem?_cons_succ]
    · rw [if_neg h1]
      by_cases h2 : j = off
      · subst h2
        rw [if_pos (by simp), List.getElem?_set_self (by omega)]; simp
      · rw [if_neg (by simp; omega), List.getElem?_set_ne (by omega)]

theorem chunk_get {xs : List Value} {sz i j : Nat} (hj : j < sz) : (chunk xs sz i)[j]? = xs[i * sz + j]? := by
  unfold chunk; rw [List.getElem?_take_of_lt hj, List.getElem?_drop]
theorem chunk_len {xs : List Value} {sz i n : Nat} (hx : xs.length = n * sz) (hi : i < n) : (chunk xs sz i).length = sz := by
  have : i * sz + sz ≤ n * sz := by rw [← Nat.succ_mul]; exact Nat.mul_le_mul_right _ hi
  unfold chunk; simp; omega
theorem chunk_ext {xs ys : List Value} {sz i j : Nat} (h : ∀ k, k < sz → xs[i * sz + k]? = ys[j * sz + k]?) : chunk xs sz i = chunk ys sz j := by
  apply List.ext_getElem?
  intro k
  by_cases hk : k < sz
  · rw [chunk_get hk, chunk_get hk, h k hk]
  · rw [List.getElem?_eq_none (by unfold chunk; simp; omega), List.getElem?_eq_none (by unfold chunk; simp; omega)]
theorem chunk_setL {xs vs : List Value} {sz n k i : Nat} (hx : xs.length = n * sz) (hk : k < n) (hv : vs.length = sz) : chunk (setL xs (k * sz) vs) sz i = if i = k then vs else chunk xs sz i := by
  have hle : k * sz + sz ≤ n * sz := by rw [← Nat.succ_mul]; exact Nat.mul_le_mul_right _ hk
  split
  · rename_i e; subst e
    apply List.ext_getElem?
    intro j
    by_cases hj : j < sz
    · rw [chunk_get hj, setL_get _ _ _ _ (by omega), if_pos (by omega)]; congr 1; omega
    · rw [List.getElem?_eq_none (by unfold chunk; simp; omega), List.getElem?_eq_none (by omega)]
  · rename_i hne
    refine chunk_ext fun j hj => ?_
    rw [setL_get _ _ _ _ (by omega), if_neg]
    rintro ⟨h1, h2⟩
    rcases Nat.lt_or_gt_of_ne hne with h | h
    · have : i * sz + sz ≤ k * sz := by rw [← Nat.succ_mul]; exact Nat.mul_le_mul_right _ h
      omega
    · have : k * sz + sz ≤ i * sz := by rw [← Nat.succ_mul]; exact Nat.mul_le_mul_right _ h
      omega

theorem setRow_owns {w : World} {base g n cap : Nat} {t : TypeId} {size : Nat} : ∀ (vs : List Value) (w : World) (xs : List Value) (off : Nat), w.ownsRow base t size (.slice (some ⟨g, 0, none⟩) n cap) n xs →
    (setRow w g off vs).ownsRow base t size (.slice (some ⟨g, 0, none⟩) n cap) n (setL xs off vs) ∧ w.grownBy (setRow w g off vs) (some g)
  | [], w, xs, off, h => ⟨h, World.grownBy.refl _ _⟩
  | v :: vs, w, xs, off, h => by
    have h1 := h.stored off v
    have h2 := setRow_owns vs (w := w) (w.setCell ⟨g, off, none⟩ v) (xs.set off v) (off + 1) h1.1
    refine ⟨h2.1, ?_⟩
    have a := h1.2
    have b := h2.2
    exact ⟨b.os.trans a.os, b.tape.trans a.tape, b.output.trans a.output, Nat.le_trans a.size b.size, fun j hj hne => (b.block j (Nat.lt_of_lt_of_le hj a.size) hne).trans (a.block j hj hne)⟩

theorem setRow_size : ∀ (vs : List Value) (w : World) (g off : Nat), (setRow w g off vs).heap.size = w.heap.size
  | [], w, g, off => rfl
  | v :: vs, w, g, off => by show (setRow _ g _ vs).heap.size = _; rw [setRow_size vs]; simp

theorem getD_set {F : List (List Nat)} {k i : Nat} {b : List Nat} (hk : k < F.length) : (F.set k b).getD i [] = if i = k then b else F.getD i [] := by
  simp only [List.getD_eq_getElem?_getD]
  split
  · rename_i e; subst e; rw [List.getElem?_set_self hk]; rfl
  · rename_i h; rw [List.getElem?_set_ne (by omega)]

theorem mem_flatten_set {F : List (List Nat)} {k : Nat} {b : List Nat} {x : Nat} (h : x ∈ (F.set k b).flatten) : x ∈ b ∨ x ∈ F.flatten := by
  obtain ⟨y, hy, hx⟩ := List.mem_flatten.1 h
  rcases List.mem_or_eq_of_mem_set hy with h | rfl
  · exact Or.inr (List.mem_flatten.2 ⟨y, h, hx⟩)
  · exact Or.inl hx

theorem nodup_set : ∀ {F : List (List Nat)} {k : Nat} {b : List Nat}, F.flatten.Nodup → b.Nodup → (∀ x ∈ b, x ∉ F.flatten) → (F.set k b).flatten.Nodup
  | [], k, b, _, _, _ => by simp
  | f :: F, 0, b, h, hb, hd => by
    simp only [List.flatten_cons] at h hd
    rw [List.set_cons_zero, List.flatten_cons]
    rw [List.nodup_append] at h ⊢
    refine ⟨hb, h.2.1, fun x hx y hy e => ?_⟩
    subst e
    exact hd x hx (List.mem_append_right _ hy)
  | f :: F, k + 1, b, h, hb, hd => by
    simp only [List.flatten_cons] at h hd
    rw [List.set_cons_succ, List.flatten_cons]
    rw [List.nodup_append] at h ⊢
    refine ⟨h.1, nodup_set h.2.1 hb (fun x hx hm => hd x hx (List.mem_append_right _ hm)), fun x hx y hy e => ?_⟩
    subst e
    rcases mem_flatten_set hy with hy | hy
    · exact hd x hy (List.mem_append_left _ hx)
    · exact h.2.2 x hx x hy rfl

/-- An element stored whole: the row owns what the element owns. -/
theorem Own.stored {w : World} {lo hi hi' : Nat} {t : TypeId} {e : Sh} {l : List e.El} {g n cap : Nat} (h : Own w lo hi (.row t e) l [.slice (some ⟨g, 0, none⟩) n cap]) {k : Nat} (hk : k < l.length) {d : e.El} {vs : List Value} (hd : Own w hi hi' e d vs) (hh : hi ≤ hi') :
    Own (setRow w g (k * e.sz) vs) lo hi' (.row t e) (l.set k d) [.slice (some ⟨g, 0, none⟩) n cap] ∧ w.grownBy (setRow w g (k * e.sz) vs) (some g) ∧ lo ≤ g ∧ g < hi := by
  obtain ⟨v, xs, F, e1, ho, hF, hnd, hb, hel, hv⟩ := h.row_to
  simp only [List.cons.injEq, and_true] at e1
  subst e1
  obtain ⟨bs, d1, d2, d3⟩ := hd
  have hn : n = l.length := by
    obtain ⟨_, ⟨e2, _⟩ | ⟨g', c', cur, e2, _⟩⟩ := ho
    · simp at e2
    · simp only [Value.slice.injEq] at e2; exact e2.2.1
  subst hn
  have hg1 : lo ≤ g := (ho.lt g rfl).1
  have hg2 : g < hi := hv g rfl
  obtain ⟨ho2, hgr⟩ := setRow_owns (w := w) vs w xs (k * e.sz) ho
  have hlen : vs.length = e.sz := Sh.Ow.len _ _ _ _ d1
  have hkeep : ∀ b, b ≠ g → b < w.heap.size → (setRow w g (k * e.sz) vs).heap[b]? = w.heap[b]? := fun b hne hlt => hgr.block b hlt (by simpa using hne)
  refine ⟨?_, hgr, hg1, hg2⟩
  refine Own.row_of (l := l.set k d) (xs := setL xs (k * e.sz) vs) (by simpa using ho2) (fun b hbv => ?_) (F.set k bs) (by simp [hF]) (nodup_set hnd d2 fun x hx hm => ?_) (fun b hm => ?_) (fun i hi2 => ?_)
  · have := hv b hbv; omega
  · have := (hb x hm).2.1; have := (d3 x hx).1; omega
  · rcases mem_flatten_set hm with hm | hm
    · have := d3 b hm
      refine ⟨by omega, by omega, ?_⟩
      intro e0; simp [Value.ownBlock] at e0; omega
    · have := hb b hm
      exact ⟨this.1, by omega, this.2.2⟩
  · have hi3 : i < l.length := by simpa using hi2
    rw [getD_set (by omega), chunk_setL ho.1 hk hlen]
    by_cases e0 : i = k
    · subst e0
      rw [if_pos rfl, if_pos rfl]
      simp only [List.getElem_set_self]
      refine Sh.Ow.keep _ _ _ _ (fun b hbm => hkeep b ?_ (Sh.Ow.lt _ _ _ _ d1 b hbm)) d1
      have := (d3 b hbm).1; omega
    · rw [if_neg e0, if_neg e0]
      rw [List.getElem_set_ne (by omega)]
      refine Sh.Ow.keep _ _ _ _ (fun b hbm => hkeep b ?_ (Sh.Ow.lt _ _ _ _ (hel i hi3) b hbm)) (hel i hi3)
      have := (hb b (getD_mem_flatten hbm)).2.2
      intro e1; subst e1; exact this rfl

/-! ### A row that is made -/
def Sh.zcells : Sh → List Value
  | .int k => [.int k 0]
  | .bool => [.bool false]
  | .row _ _ => [.slice none 0 0]
  | .rowO _ _ => [.slice none 0 0]
  | .nil => []
  | .cons f r => f.zcells ++ r.zcells

theorem wf_zero (k : IntKind) : (Lit.int k 0).wf = true := by cases k <;> decide
theorem zero_ow (w : World) : ∀ (s : Sh), s.Ow w [] s.zero s.zcells
  | .int k => ⟨rfl, rfl, wf_zero k⟩
  | .bool => ⟨rfl, rfl⟩
  | .row _ _ => Or.inl ⟨rfl, rfl, rfl⟩
  | .rowO _ _ => Or.inl ⟨rfl, rfl, none, 0, rfl, Nat.zero_le _, fun _ => rfl⟩
  | .nil => ⟨rfl, rfl⟩
  | .cons f r => ⟨[], [], _, _, rfl, rfl, zero_ow w f, zero_ow w r⟩

theorem zcells_len (s : Sh) : s.zcells.length = s.sz := Sh.Ow.len s [] s.zero s.zcells (zero_ow default s)

theorem chunk_made {z : Array Value} {n i sz : Nat} (hz : z.size = sz) (hi : i < n) : chunk (madeCells z (n * sz)).toList sz i = z.toList := by
  have hle : i * sz + sz ≤ n * sz := by rw [← Nat.succ_mul]; exact Nat.mul_le_mul_right _ hi
  apply List.ext_getElem?
  intro j
  by_cases hj : j < sz
  · rw [chunk_get hj]
    have hlt : i * sz + j < n * sz := by omega
    have hm : (i * sz + j) % sz = j := by rw [Nat.mul_comm, Nat.mul_add_mod, Nat.mod_eq_of_lt hj]
    simp [madeCells, hlt, hz, hm, hj]
  · rw [List.getElem?_eq_none (by unfold chunk; simp; omega), List.getElem?_eq_none (by simp; omega)]

theorem Own.made {w : World} {g n : Nat} {t : TypeId} {e : Sh} {z : Value} (hz : z.cells.toList = e.zcells) (ho : w.ownsRow g t e.sz (.slice (some ⟨g, 0, none⟩) n n) n (madeCells z.cells (n * e.sz)).toList) :
    Own w g (g + 1) (.row t e) (List.replicate n e.zero) [.slice (some ⟨g, 0, none⟩) n n] := by
  have hfl : (List.replicate n ([] : List Nat)).flatten = [] := by
    apply List.eq_nil_iff_forall_not_mem.2
    intro b hb
    obtain ⟨y, hy, hb⟩ := List.mem_flatten.1 hb
    rw [List.eq_of_mem_replicate hy] at hb; simp at hb
  refine Own.row_of (l := List.replicate n e.zero) (xs := (madeCells z.cells (n * e.sz)).toList) (by simpa using ho) (fun b hb => ?_) (List.replicate n []) (by simp) (by rw [hfl]; simp) (by rw [hfl]; simp) (fun i hi => ?_)
  · simp [Value.ownBlock] at hb; omega
  · have hi' : i < n := by simpa using hi
    have hsz : z.cells.size = e.sz := by rw [← zcells_len e, ← hz]; simp
    rw [chunk_made hsz hi', hz]
    have e1 : (List.replicate n ([] : List Nat)).getD i [] = [] := by simp [List.getD_eq_getElem?_getD, hi']
    rw [e1]
    simp only [List.getElem_replicate]
    exact zero_ow w e

theorem set_step {α : Type} {l : List α} {z : α} {k n : Nat} (hl : l.length = n) (hk : k < n) :
    (l.take k ++ List.replicate (n - k) z).set k l[k] = l.take (k + 1) ++ List.replicate (n - (k + 1)) z := by
  have h1 : (l.take k).length = k := by rw [List.length_take]; omega
  rw [List.set_append_right _ _ (by omega), h1, Nat.sub_self, show n - k = (n - (k + 1)) + 1 by omega, List.replicate_succ, List.set_cons_zero,
    List.take_succ_eq_append_getElem (by omega), List.append_assoc]
  rfl
end Go.Proofs.Ytebgibjokljlbaa

/- Helpers of the laws, for data of any shape: the bytes of a struct by uniform contracts, sums over a list, the form of a row; no condition. -/
namespace Go.Proofs.Ytebgibjokljlbaa
open Go.RowKit
set_option linter.unusedVariables false

def fsum {α : Type} (f : α → Nat) (l : List α) : Nat := (l.map f).sum
theorem fsum_take {α : Type} {f : α → Nat} {l : List α} {k : Nat} (hk : k < l.length) : fsum f (l.take (k + 1)) = fsum f (l.take k) + f l[k] := by
  unfold fsum
  rw [List.take_succ_eq_append_getElem hk, List.map_append, List.sum_append]
  simp only [List.map_cons, List.map_nil, List.sum_cons, List.sum_nil, Nat.add_zero]
theorem fsum_le {α : Type} {f : α → Nat} (l : List α) (k : Nat) : fsum f (l.take k) ≤ fsum f l := by
  have h : fsum f l = fsum f (l.take k) + fsum f (l.drop k) := by
    unfold fsum
    rw [← List.sum_append, ← List.map_append, List.take_append_drop]
  omega
theorem fsum_at {α : Type} (f : α → Nat) {l : List α} {k : Nat} (hk : k < l.length) : f l[k] ≤ fsum f l := by
  have := fsum_take (f := f) hk; have := fsum_le (f := f) l (k + 1); omega

theorem row_form {w : World} {B : Nat} {t : TypeId} {e : Sh} {l : List e.El} {cs : List Value} (h : (Sh.row t e).Rd w B l cs) : ∃ a cap, cs = [.slice a l.length cap] := by
  obtain ⟨a, cap, h1, _⟩ := h; exact ⟨a, cap, h1⟩
theorem row_max {w : World} {B : Nat} {t : TypeId} {e : Sh} {l : List e.El} {cs : List Value} (h : (Sh.row t e).Rd w B l cs) : l.length ≤ 9223372036854775807 := by
  obtain ⟨a, cap, _, h2, _⟩ := h; exact Nat.le_trans h2.1 h2.2
theorem addr_ne (b : Nat) {i j : Nat} (h : i ≠ j) : (⟨b, i, none⟩ : Addr) ≠ ⟨b, j, none⟩ := by intro e; simp only [Addr.mk.injEq] at e; omega

theorem hOwnSlot {w : World} {lo hi : Nat} {t : TypeId} {e : Sh} {l : List e.El} {g n cap : Nat} (h : Own w lo hi (.row t e) l [.slice (some ⟨g, 0, none⟩) n cap]) :
    (∀ j, j < n * e.sz → ∃ old, w.cell? ⟨g, j, none⟩ = some old) ∧ (∀ j, w.frozen? ⟨g, j, none⟩ = false) ∧ lo ≤ g ∧ g < hi ∧ n = l.length ∧ n ≤ cap := by
  obtain ⟨bs, h1, h2, h3⟩ := h
  rcases h1 with ⟨_, h1, _⟩ | ⟨g', cap', cur, F, e1, rfl, g3, g4, g5, g6, g7, g8⟩
  · simp at h1
  · simp only [List.cons.injEq, Value.slice.injEq, Option.some.injEq, Addr.mk.injEq, and_true] at e1
    obtain ⟨rfl, rfl, rfl⟩ := e1
    have := h3 g (by simp)
    refine ⟨fun j hj => ?_, fun j => by simp [World.frozen?, g3], this.1, this.2, rfl, g4⟩
    have hle : l.length * e.sz ≤ cap * e.sz := Nat.mul_le_mul_right _ g4
    exact ⟨cur[j]'(by omega), by rw [cell_of_heap g3, Array.getElem?_eq_getElem]⟩
theorem hOwnCons {w : World} {lo mid hi : Nat} {f r : Sh} {d1 : f.El} {d2 : r.El} {c1 c2 : List Value} (h1 : Own w lo mid f d1 c1) (h2 : Own w mid hi r d2 c2) (hlm : lo ≤ mid) (hmh : mid ≤ hi) : Own w lo hi (.cons f r) (d1, d2) (c1 ++ c2) := by
  obtain ⟨b1, x1, x2, x3⟩ := h1
  obtain ⟨b2, y1, y2, y3⟩ := h2
  refine ⟨b1 ++ b2, ⟨b1, b2, c1, c2, rfl, rfl, x1, y1⟩, ?_, fun b hb => ?_⟩
  · rw [List.nodup_append]
    refine ⟨x2, y2, fun a ha b hb e => ?_⟩
    have := x3 a ha; have := y3 b hb; omega
  · rcases List.mem_append.1 hb with hb | hb
    · have := x3 b hb; omega
    · have := y3 b hb; omega
theorem hOwnNil (w : World) (lo hi : Nat) : Own w lo hi .nil () [] := ⟨[], ⟨rfl, rfl⟩, by simp, by simp⟩
theorem hOwnInt (w : World) (lo hi : Nat) {k : IntKind} {n : Int} (h : (Lit.int k n).wf = true) : Own w lo hi (.int k) n [.int k n] := ⟨[], ⟨rfl, rfl, h⟩, by simp, by simp⟩
theorem hOwnBool (w : World) (lo hi : Nat) (b : Bool) : Own w lo hi .bool b [.bool b] := ⟨[], ⟨rfl, rfl⟩, by simp, by simp⟩

/-- The types of the rows that a shape owns. -/
def Sh.types : Sh → List TypeId
  | .int _ => []
  | .bool => []
  | .row t e => t :: e.types
  | .rowO t e => t :: e.types
  | .nil => []
  | .cons f r => f.types ++ r.types
theorem Sh.Ow.ty {w : World} : ∀ (s : Sh) (bs : List Nat) (d : s.El) (cs : List Value), s.Ow w bs d cs → ∀ b ∈ bs, ∃ cur t, w.heap[b]? = some (.cells cur t (0, 0)) ∧ t ∈ s.types
  | .int _, bs, _, _, h => by rw [h.1]; simp
  | .bool, bs, _, _, h => by rw [h.1]; simp
  | .row t e, bs, l, cs, h => by
    rcases h with h | ⟨g, cap, cur, F, h1, h2, h3, h4, h5, h6, h7, h8⟩
    · rw [h.1]; simp
    · subst h2
      intro b hb
      rcases List.mem_cons.1 hb with rfl | hb
      · exact ⟨cur, t, h3, by simp [Sh.types]⟩
      · obtain ⟨i, hi, hb⟩ := mem_flatten_getD hb
        obtain ⟨c, t', q1, q2⟩ := Sh.Ow.ty e _ _ _ (h8 i (by omega)) b hb
        exact ⟨c, t', q1, by simp [Sh.types, q2]⟩
  | .rowO t e, bs, l, cs, h => by
    rcases h with h | ⟨g, off, cap, cur, F, h1, h2, h3, h4, h5, h6, h7, h8⟩
    · rw [h.1]; simp
    · subst h2
      intro b hb
      rcases List.mem_cons.1 hb with rfl | hb
      · exact ⟨cur, t, h3, by simp [Sh.types]⟩
      · obtain ⟨i, hi, hb⟩ := mem_flatten_getD hb
        obtain ⟨c, t', q1, q2⟩ := Sh.Ow.ty e _ _ _ (h8 i (by omega)) b hb
        exact ⟨c, t', q1, by simp [Sh.types, q2]⟩
  | .nil, bs, _, _, h => by rw [h.1]; simp
  | .cons f r, bs, d, cs, ⟨b1, b2, c1, c2, h1, h2, h3, h4⟩ => by
    subst h1
    intro b hb
    rcases List.mem_append.1 hb with hb | hb
    · obtain ⟨c, t', q1, q2⟩ := Sh.Ow.ty f _ _ _ h3 b hb
      exact ⟨c, t', q1, by simp [Sh.types, q2]⟩
    · obtain ⟨c, t', q1, q2⟩ := Sh.Ow.ty r _ _ _ h4 b hb
      exact ⟨c, t', q1, by simp [Sh.types, q2]⟩
/-- What is owned stays owned where a box of another type among its blocks is written. -/
theorem Own.off {w w' : World} {lo hi : Nat} {s : Sh} {d : s.El} {cs : List Value} (h : Own w lo hi s d cs) {q : Nat} {cur : Array Value} {t : TypeId} (hq : w.heap[q]? = some (.cells cur t (0, 0))) (ht : t ∉ s.types) (hk : ∀ b, lo ≤ b → b < hi → b ≠ q → w'.heap[b]? = w.heap[b]?) : Own w' lo hi s d cs := by
  obtain ⟨bs, h1, h2, h3⟩ := h
  refine ⟨bs, Sh.Ow.keep s bs d cs (fun b hb => hk b (h3 b hb).1 (h3 b hb).2 fun e => ?_) h1, h2, h3⟩
  subst e
  obtain ⟨c, t', q1, q2⟩ := Sh.Ow.ty s bs d cs h1 b hb
  rw [hq] at q1
  simp only [Option.some.injEq, Obj.cells.injEq] at q1
  exact ht (q1.2.1 ▸ q2)
theorem Own.blk {w : World} {lo hi : Nat} {t : TypeId} {e : Sh} {l : List e.El} {v : Value} (h : Own w lo hi (.row t e) l [v]) {b : Nat} (hb : v.ownBlock = some b) : lo ≤ b ∧ b < hi := by
  obtain ⟨v', xs, F, e1, ho, _, _, _, _, hv⟩ := h.row_to
  simp only [List.cons.injEq, and_true] at e1
  subst e1
  exact ⟨(ho.lt b hb).1, hv b hb⟩

end Go.Proofs.Ytebgibjokljlbaa
