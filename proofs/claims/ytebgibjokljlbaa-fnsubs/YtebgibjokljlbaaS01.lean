/- Plain facts on memory that the walks share: a row of numbers that came in, what a call leaves of old memory; no condition. -/
import Derived.WalkKit
import Derived.ProofKit
import Derived.Handy
import Derived.Below
import Derived.OpenShut
import Derived.Deep.RegionWith
import Derived.Deep.QuietTactic
import Derived.BigQuiet
import Derived.Test.YtebgibjokljlbaaRows
import Derived.WalkSmall
import Derived.Maps.AppendAt
import Derived.Deep.Slices
import Derived.ChangeArms
namespace Go.Proofs.Ytebgibjokljlbaa
open Go.RowKit
theorem add_block (x : Addr) (i : Nat) : (x.add i).block = x.block := by unfold Addr.add; split <;> rfl
theorem add_none (b off i : Nat) : Addr.add ⟨b, off, none⟩ i = ⟨b, off + i, none⟩ := by
  unfold Addr.add; split
  · subst_vars; rfl
  · rfl
def BRow (k : IntKind) (w : World) (a : Option Addr) (len cap : Nat) (zs : List Int) : Prop :=
  (a = none ∧ len = 0 ∧ cap = 0 ∧ zs = []) ∨
  ∃ x, a = some x ∧ len ≤ cap ∧ cap ≤ maxLen ∧ zs.length = cap ∧ (∀ i, i < zs.length → w.cell? (x.add i) = some (.int k (zs.getD i 0))) ∧ ∀ n ∈ zs, (Lit.int k n).wf = true
def RowLt (B : Nat) (a : Option Addr) (zs : List Int) : Prop := ∀ x, a = some x → 0 < zs.length → x.block < B
theorem BRow.below {k : IntKind} {B : Nat} {w w' : World} {a : Option Addr} {len cap : Nat} {zs : List Int} (h : BRow k w a len cap zs) (hl : RowLt B a zs) (hb : Below B w w') : BRow k w' a len cap zs := by
  rcases h with h | ⟨x, rfl, h1, h2, h3, h4, h5⟩
  · exact Or.inl h
  · refine Or.inr ⟨x, rfl, h1, h2, h3, fun i hi => ?_, h5⟩
    rw [hb.cell (p := x.add i) (by rw [add_block]; exact hl x rfl (by omega))]
    exact h4 i hi
theorem RowLt.mono {B B' : Nat} {a : Option Addr} {zs : List Int} (h : RowLt B a zs) (hB : B ≤ B') : RowLt B' a zs := fun x e g => Nat.lt_of_lt_of_le (h x e g) hB
theorem cell_lt {w : World} {a : Addr} {v : Value} (h : w.cell? a = some v) : a.block < w.heap.size := by
  apply Classical.byContradiction
  intro hn
  have e : w.heap[a.block]? = none := Array.getElem?_eq_none (by omega)
  unfold World.cell? at h
  rw [e] at h
  simp at h
theorem BRow.lt {k : IntKind} {w : World} {a : Option Addr} {len cap : Nat} {zs : List Int} (h : BRow k w a len cap zs) : RowLt w.heap.size a zs := by
  intro x e g
  rcases h with ⟨h, _⟩ | ⟨x', e', h1, h2, h3, h4, h5⟩
  · rw [h] at e; cases e
  · rw [e'] at e; cases e
    have := cell_lt (h4 0 g)
    rwa [add_block] at this
theorem bcell {W w1 : World} (hb : Below W.heap.size W w1) : (∀ b o, b < W.heap.size → w1.cell? ⟨b, o, none⟩ = W.cell? ⟨b, o, none⟩) ∧ (∀ b o, b < W.heap.size → w1.frozen? ⟨b, o, none⟩ = W.frozen? ⟨b, o, none⟩) :=
  ⟨fun b o h => hb.cell (p := ⟨b, o, none⟩) h, fun b o h => hb.frozen (p := ⟨b, o, none⟩) h⟩
theorem bcellB {B : Nat} {W w1 : World} (hb : Below B W w1) : (∀ b o, b < B → w1.cell? ⟨b, o, none⟩ = W.cell? ⟨b, o, none⟩) ∧ (∀ b o, b < B → w1.frozen? ⟨b, o, none⟩ = W.frozen? ⟨b, o, none⟩) :=
  ⟨fun b o h => hb.cell (p := ⟨b, o, none⟩) h, fun b o h => hb.frozen (p := ⟨b, o, none⟩) h⟩
theorem ret_int {k : IntKind} {a b : Int} (h : a = b) : Ending.returned (.int k a) = .returned (.int k b) := by rw [h]
theorem ret_bool {a b : Bool} (h : a = b) : Ending.returned (.bool a) = .returned (.bool b) := by rw [h]
theorem BRow.byte {w : World} {a : Option Addr} {len cap : Nat} {zs : List Int} (h : BRow .u8 w a len cap zs) (hp : 0 < len) :
    ∃ b off, a = some ⟨b, off, none⟩ ∧ ∀ i, i < len → w.cell? ⟨b, off + i, none⟩ = some (.int .u8 (zs.getD i 0)) ∧ 0 ≤ zs.getD i 0 ∧ zs.getD i 0 ≤ 255 := by
  rcases h with ⟨_, h, _⟩ | ⟨x, rfl, h1, h2, h3, h4, h5⟩
  · omega
  · obtain ⟨b, off, spot⟩ := x
    have hc := h4 0 (by omega)
    have hspot : spot = none := by simpa [Addr.add] using World.cell?_spot hc
    subst hspot
    refine ⟨b, off, rfl, fun i hi => ?_⟩
    have hi' : i < zs.length := by omega
    have hwf := h5 (zs.getD i 0) (by rw [List.getD_eq_getElem?_getD, List.getElem?_eq_getElem hi']; exact List.getElem_mem hi')
    have hbd := bounds_u8 hwf
    exact ⟨by have := h4 i hi'; rwa [add_none] at this, by omega, by omega⟩
end Go.Proofs.Ytebgibjokljlbaa
namespace Go.Proofs.Ytebgibjokljlbaa
open Go.RowKit
set_option linter.unusedVariables false
theorem info_u8 : (Try.prog.info? 5).map (fun i => (i.zero, i.size, i.bytes)) = some (some (.int .u8 0), 1, 1) := by kernel_rfl
structure RB (w : World) (a : Option Addr) (l : List Int) : Prop where
  bd : ∀ x ∈ l, 0 ≤ x ∧ x ≤ 255
  mem : l = [] ∨ ∃ b off, a = some ⟨b, off, none⟩ ∧ ∀ i, i < l.length → w.cell? ⟨b, off + i, none⟩ = some (.int .u8 (l.getD i 0))
theorem RB.below {w w' : World} {a : Option Addr} {l : List Int} (h : RB w a l) {B : Nat} (hB : w.heap.size ≤ B) (hb : Below B w w') : RB w' a l := by
  refine ⟨h.bd, ?_⟩
  rcases h.mem with e | ⟨b, off, rfl, hc⟩
  · exact Or.inl e
  · refine Or.inr ⟨b, off, rfl, fun i hi => ?_⟩
    have hlt := cell_lt (hc i hi)
    rw [hb.cell (p := ⟨b, off + i, none⟩) (by simp at hlt ⊢; omega)]
    exact hc i hi
theorem RB.nil (w : World) (a : Option Addr) : RB w a [] := ⟨by simp, Or.inl rfl⟩
theorem BRow.rb {w : World} {a : Option Addr} {len cap : Nat} {zs : List Int} (h : BRow .u8 w a len cap zs) : RB w a (zs.take len) ∧ (zs.take len).length = len := by
  have hlen : (zs.take len).length = len := by
    rcases h with ⟨_, rfl, _, rfl⟩ | ⟨x, rfl, h1, h2, h3, h4, h5⟩
    · rfl
    · rw [List.length_take]; omega
  refine ⟨⟨?_, ?_⟩, hlen⟩
  · rcases h with ⟨_, rfl, _, rfl⟩ | ⟨x, rfl, h1, h2, h3, h4, h5⟩
    · simp
    · intro y hy; exact bounds_u8 (h5 y (List.mem_of_mem_take hy))
  · by_cases hz : len = 0
    · left; subst hz; simp
    · right
      obtain ⟨b, off, rfl, hc⟩ := h.byte (by omega)
      refine ⟨b, off, rfl, fun i hi => ?_⟩
      rw [hlen] at hi
      rw [(hc i hi).1]
      simp [hi]
structure OB (w : World) (base : Nat) (v : Value) (l : List Int) : Prop where
  own : w.ownsRow base 5 1 v l.length (l.map (Value.int .u8))
  bd : ∀ x ∈ l, 0 ≤ x ∧ x ≤ 255
theorem OB.rb {w : World} {base : Nat} {v : Value} {l : List Int} (h : OB w base v l) : ∃ a cap, v = .slice a l.length cap ∧ RB w a l := by
  have h0 := h.own
  obtain ⟨h1, ⟨rfl, hz⟩ | ⟨g, cap, cur, rfl, hg, hh, hc, hm, hs, ht⟩⟩ := h.own
  · have : l = [] := List.length_eq_zero_iff.1 hz
    subst this
    exact ⟨none, 0, rfl, RB.nil _ _⟩
  · refine ⟨_, cap, rfl, h.bd, ?_⟩
    by_cases hz : l = []
    · exact Or.inl hz
    · refine Or.inr ⟨g, 0, rfl, fun i hi => ?_⟩
      have := h0.cellAt i (by omega)
      rw [Nat.zero_add, this, List.getElem?_map, List.getD_eq_getElem?_getD, List.getElem?_eq_getElem hi]
      rfl
theorem OB.rbn {w : World} {base : Nat} {v : Value} {l : List Int} (h : OB w base v l) : ∃ a cap, v = .slice a l.length cap ∧ RB w a l ∧ (a = none → cap = 0) := by
  obtain ⟨a, cap, rfl, hr⟩ := h.rb
  refine ⟨a, cap, rfl, hr, ?_⟩
  rintro rfl
  obtain ⟨_, ⟨e, _⟩ | ⟨g, c, cur, e, _⟩⟩ := h.own
  · simp only [Value.slice.injEq] at e; exact e.2.2
  · simp at e
theorem OB.mono {w : World} {base base' : Nat} {v : Value} {l : List Int} (h : OB w base v l) (hB : base' ≤ base) : OB w base' v l := by
  refine ⟨?_, h.bd⟩
  obtain ⟨h1, h2 | ⟨g, cap, cur, e, hg, r⟩⟩ := h.own
  · exact ⟨h1, Or.inl h2⟩
  · exact ⟨h1, Or.inr ⟨g, cap, cur, e, by omega, r⟩⟩
theorem OB.below {w w' : World} {base B : Nat} {v : Value} {l : List Int} (h : OB w base v l) (hB : w.heap.size ≤ B) (hb : Below B w w') : OB w' base v l := by
  refine ⟨?_, h.bd⟩
  obtain ⟨h1, h2 | ⟨g, cap, cur, e, hg, hh, r⟩⟩ := h.own
  · exact ⟨h1, Or.inl h2⟩
  · have hlt : g < w.heap.size := by
      apply Classical.byContradiction; intro hn
      rw [Array.getElem?_eq_none (by omega)] at hh; cases hh
    exact ⟨h1, Or.inr ⟨g, cap, cur, e, hg, by rw [hb.block g (by omega)]; exact hh, r⟩⟩
theorem OB.keep {w w' : World} {base g n cap : Nat} {l : List Int} (h : OB w base (.slice (some ⟨g, 0, none⟩) n cap) l) (hb : w'.heap[g]? = w.heap[g]?) : OB w' base (.slice (some ⟨g, 0, none⟩) n cap) l := by
  refine ⟨?_, h.bd⟩
  obtain ⟨h1, ⟨h2, _⟩ | ⟨g', cap', cur, e, hg, hh, r⟩⟩ := h.own
  · cases h2
  · simp only [Value.slice.injEq, Option.some.injEq, Addr.mk.injEq, and_true] at e
    obtain ⟨rfl, e2, rfl⟩ := e
    exact ⟨h1, Or.inr ⟨g, cap, cur, by rw [e2], hg, by rw [hb]; exact hh, r⟩⟩
theorem OB.keeps {w w' : World} {base : Nat} {v : Value} {l : List Int} (h : OB w base v l) (hb : ∀ g, base ≤ g → w'.heap[g]? = w.heap[g]?) : OB w' base v l := by
  refine ⟨?_, h.bd⟩
  obtain ⟨h1, h2 | ⟨g, cap, cur, e, hg, hh, r⟩⟩ := h.own
  · exact ⟨h1, Or.inl h2⟩
  · exact ⟨h1, Or.inr ⟨g, cap, cur, e, hg, by rw [hb g hg]; exact hh, r⟩⟩
theorem u8w (n : Int) : IntKind.u8.wrap n = n % 256 := by
  simp only [IntKind.wrap, IntKind.bits, IntKind.signed]; simp
end Go.Proofs.Ytebgibjokljlbaa
namespace Go.Proofs.Ytebgibjokljlbaa
open Go.RowKit Go.ChangeShapes Go.WideShapes Go.ChangeAt
set_option linter.unusedVariables false
inductive Sh where
  | int (k : IntKind)
  | bool
  | row (t : TypeId) (e : Sh)
  | rowO (t : TypeId) (e : Sh)
  | nil
  | cons (f r : Sh)
@[reducible] def Sh.El : Sh → Type
  | .int _ => Int
  | .bool => Bool
  | .row _ e => List e.El
  | .rowO _ e => List e.El
  | .nil => Unit
  | .cons f r => f.El × r.El
def Sh.sz : Sh → Nat
  | .int _ => 1
  | .bool => 1
  | .row _ _ => 1
  | .rowO _ _ => 1
  | .nil => 0
  | .cons f r => f.sz + r.sz
def Sh.Rd (w : World) (B : Nat) : (s : Sh) → s.El → List Value → Prop
  | .int k, n, cs => cs = [.int k n] ∧ (Lit.int k n).wf = true
  | .bool, b, cs => cs = [.bool b]
  | .row _ e, l, cs => ∃ a cap, cs = [.slice a l.length cap] ∧ (l.length ≤ cap ∧ cap ≤ maxLen) ∧ (a = none → cap = 0) ∧ ∃ b off, (l ≠ [] → a = some ⟨b, off, none⟩ ∧ b < B) ∧
      ∀ i (h : i < l.length), ∃ cs', cs'.length = e.sz ∧ (∀ j, j < e.sz → w.cell? ⟨b, off + i * e.sz + j, none⟩ = cs'[j]?) ∧ Sh.Rd w B e l[i] cs'
  | .rowO _ e, l, cs => ∃ a cap, cs = [.slice a l.length cap] ∧ (l.length ≤ cap ∧ cap ≤ maxLen) ∧ (a = none → cap = 0) ∧ ∃ b off, (l ≠ [] → a = some ⟨b, off, none⟩ ∧ b < B) ∧
      ∀ i (h : i < l.length), ∃ cs', cs'.length = e.sz ∧ (∀ j, j < e.sz → w.cell? ⟨b, off + i * e.sz + j, none⟩ = cs'[j]?) ∧ Sh.Rd w B e l[i] cs'
  | .nil, _, cs => cs = []
  | .cons f r, d, cs => ∃ c1 c2, cs = c1 ++ c2 ∧ Sh.Rd w B f d.1 c1 ∧ Sh.Rd w B r d.2 c2
def Sh.Ow (w : World) : (s : Sh) → List Nat → s.El → List Value → Prop
  | .int k, bs, n, cs => bs = [] ∧ cs = [.int k n] ∧ (Lit.int k n).wf = true
  | .bool, bs, b, cs => bs = [] ∧ cs = [.bool b]
  | .row t e, bs, l, cs => (bs = [] ∧ cs = [.slice none 0 0] ∧ l = []) ∨
      ∃ g cap cur F, cs = [.slice (some ⟨g, 0, none⟩) l.length cap] ∧ bs = g :: List.flatten F ∧ w.heap[g]? = some (.cells cur t (0, 0)) ∧ l.length ≤ cap ∧ cap ≤ maxLen ∧ cur.size = cap * e.sz ∧ F.length = l.length ∧
        ∀ i (h : i < l.length), Sh.Ow w e (F.getD i []) l[i] ((cur.toList.drop (i * e.sz)).take e.sz)
  | .rowO t e, bs, l, cs => (bs = [] ∧ l = [] ∧ ∃ a cap, cs = [.slice a 0 cap] ∧ cap ≤ maxLen ∧ (a = none → cap = 0)) ∨
      ∃ g off cap cur F, cs = [.slice (some ⟨g, off, none⟩) l.length cap] ∧ bs = g :: List.flatten F ∧ w.heap[g]? = some (.cells cur t (0, 0)) ∧ l.length ≤ cap ∧ cap ≤ maxLen ∧ off + l.length * e.sz ≤ cur.size ∧ F.length = l.length ∧
        ∀ i (h : i < l.length), Sh.Ow w e (F.getD i []) l[i] ((cur.toList.drop (off + i * e.sz)).take e.sz)
  | .nil, bs, _, cs => bs = [] ∧ cs = []
  | .cons f r, bs, d, cs => ∃ b1 b2 c1 c2, bs = b1 ++ b2 ∧ cs = c1 ++ c2 ∧ Sh.Ow w f b1 d.1 c1 ∧ Sh.Ow w r b2 d.2 c2
theorem Sh.Rd.keep {w w' : World} {B : Nat} (hk : ∀ b, b < B → w'.heap[b]? = w.heap[b]?) : ∀ (s : Sh) (d : s.El) (cs : List Value), s.Rd w B d cs → s.Rd w' B d cs
  | .int _, _, _, h => h
  | .bool, _, _, h => h
  | .row _ e, l, cs, ⟨a, cap, h1, h2, h3, b, off, h4, h5⟩ => ⟨a, cap, h1, h2, h3, b, off, h4, fun i hi => by
      obtain ⟨cs', g1, g2, g3⟩ := h5 i hi
      have hb := (h4 (by intro e; subst e; simp at hi)).2
      exact ⟨cs', g1, fun j hj => (World.cell?_of_block (w := w) (a := ⟨b, off + i * e.sz + j, none⟩) (hk b hb)).trans (g2 j hj), Sh.Rd.keep hk e _ _ g3⟩⟩
  | .rowO _ e, l, cs, ⟨a, cap, h1, h2, h3, b, off, h4, h5⟩ => ⟨a, cap, h1, h2, h3, b, off, h4, fun i hi => by
      obtain ⟨cs', g1, g2, g3⟩ := h5 i hi
      have hb := (h4 (by intro e; subst e; simp at hi)).2
      exact ⟨cs', g1, fun j hj => (World.cell?_of_block (w := w) (a := ⟨b, off + i * e.sz + j, none⟩) (hk b hb)).trans (g2 j hj), Sh.Rd.keep hk e _ _ g3⟩⟩
  | .nil, _, _, h => h
  | .cons f r, d, cs, ⟨c1, c2, h1, h2, h3⟩ => ⟨c1, c2, h1, Sh.Rd.keep hk f _ _ h2, Sh.Rd.keep hk r _ _ h3⟩
theorem Sh.Rd.mono {w : World} {B B' : Nat} (hB : B ≤ B') : ∀ (s : Sh) (d : s.El) (cs : List Value), s.Rd w B d cs → s.Rd w B' d cs
  | .int _, _, _, h => h
  | .bool, _, _, h => h
  | .row _ e, l, cs, ⟨a, cap, h1, h2, h3, b, off, h4, h5⟩ => ⟨a, cap, h1, h2, h3, b, off, fun hl => ⟨(h4 hl).1, Nat.lt_of_lt_of_le (h4 hl).2 hB⟩, fun i hi => by
      obtain ⟨cs', g1, g2, g3⟩ := h5 i hi
      exact ⟨cs', g1, g2, Sh.Rd.mono hB e _ _ g3⟩⟩
  | .rowO _ e, l, cs, ⟨a, cap, h1, h2, h3, b, off, h4, h5⟩ => ⟨a, cap, h1, h2, h3, b, off, fun hl => ⟨(h4 hl).1, Nat.lt_of_lt_of_le (h4 hl).2 hB⟩, fun i hi => by
      obtain ⟨cs', g1, g2, g3⟩ := h5 i hi
      exact ⟨cs', g1, g2, Sh.Rd.mono hB e _ _ g3⟩⟩
  | .nil, _, _, h => h
  | .cons f r, d, cs, ⟨c1, c2, h1, h2, h3⟩ => ⟨c1, c2, h1, Sh.Rd.mono hB f _ _ h2, Sh.Rd.mono hB r _ _ h3⟩
theorem Sh.Rd.below {w w' : World} {B C : Nat} {s : Sh} {d : s.El} {cs : List Value} (h : s.Rd w B d cs) (hB : B ≤ C) (hb : Below C w w') : s.Rd w' B d cs :=
  Sh.Rd.keep (fun b hlt => hb.block b (Nat.lt_of_lt_of_le hlt hB)) s d cs h
theorem Sh.Rd.len {w : World} {B : Nat} : ∀ (s : Sh) (d : s.El) (cs : List Value), s.Rd w B d cs → cs.length = s.sz
  | .int _, _, _, h => by rw [h.1]; rfl
  | .bool, _, _, h => by rw [h]; rfl
  | .row _ e, l, cs, ⟨a, cap, h1, _⟩ => by rw [h1]; rfl
  | .rowO _ e, l, cs, ⟨a, cap, h1, _⟩ => by rw [h1]; rfl
  | .nil, _, _, h => by rw [h]; rfl
  | .cons f r, d, cs, ⟨c1, c2, h1, h2, h3⟩ => by rw [h1, List.length_append, Sh.Rd.len f _ _ h2, Sh.Rd.len r _ _ h3]; rfl
theorem getD_mem_flatten {F : List (List Nat)} {i b : Nat} (h : b ∈ F.getD i []) : b ∈ F.flatten := by
  rw [List.getD_eq_getElem?_getD] at h
  cases hi : F[i]? with
  | none => rw [hi] at h; simp at h
  | some x =>
    rw [hi] at h
    exact List.mem_flatten.2 ⟨x, List.mem_of_getElem? hi, h⟩
theorem Sh.Ow.keep {w w' : World} : ∀ (s : Sh) (bs : List Nat) (d : s.El) (cs : List Value), (∀ b ∈ bs, w'.heap[b]? = w.heap[b]?) → s.Ow w bs d cs → s.Ow w' bs d cs
  | .int _, _, _, _, _, h => h
  | .bool, _, _, _, _, h => h
  | .row t e, bs, l, cs, hk, h => by
    rcases h with h | ⟨g, cap, cur, F, h1, h2, h3, h4, h5, h6, h7, h8⟩
    · exact Or.inl h
    · subst h2
      exact Or.inr ⟨g, cap, cur, F, h1, rfl, by rw [hk g (by simp)]; exact h3, h4, h5, h6, h7, fun i hi => Sh.Ow.keep e _ _ _ (fun b hb => hk b (List.mem_cons_of_mem _ (getD_mem_flatten hb))) (h8 i hi)⟩
  | .rowO t e, bs, l, cs, hk, h => by
    rcases h with h | ⟨g, off, cap, cur, F, h1, h2, h3, h4, h5, h6, h7, h8⟩
    · exact Or.inl h
    · subst h2
      exact Or.inr ⟨g, off, cap, cur, F, h1, rfl, by rw [hk g (by simp)]; exact h3, h4, h5, h6, h7, fun i hi => Sh.Ow.keep e _ _ _ (fun b hb => hk b (List.mem_cons_of_mem _ (getD_mem_flatten hb))) (h8 i hi)⟩
  | .nil, _, _, _, _, h => h
  | .cons f r, bs, d, cs, hk, ⟨b1, b2, c1, c2, h1, h2, h3, h4⟩ => by
    subst h1
    exact ⟨b1, b2, c1, c2, rfl, h2, Sh.Ow.keep f _ _ _ (fun b hb => hk b (List.mem_append_left _ hb)) h3, Sh.Ow.keep r _ _ _ (fun b hb => hk b (List.mem_append_right _ hb)) h4⟩
theorem heap_lt {w : World} {g : Nat} {o : Obj} (h : w.heap[g]? = some o) : g < w.heap.size := by
  apply Classical.byContradiction; intro hn
  rw [Array.getElem?_eq_none (by omega)] at h; cases h
theorem mem_flatten_getD {F : List (List Nat)} {b : Nat} (h : b ∈ F.flatten) : ∃ i, i < F.length ∧ b ∈ F.getD i [] := by
  obtain ⟨x, hx, hb⟩ := List.mem_flatten.1 h
  obtain ⟨i, hi, rfl⟩ := List.getElem_of_mem hx
  exact ⟨i, hi, by rw [List.getD_eq_getElem?_getD, List.getElem?_eq_getElem hi]; exact hb⟩
theorem Sh.Ow.lt {w : World} : ∀ (s : Sh) (bs : List Nat) (d : s.El) (cs : List Value), s.Ow w bs d cs → ∀ b ∈ bs, b < w.heap.size
  | .int _, bs, _, _, h => by rw [h.1]; simp
  | .bool, bs, _, _, h => by rw [h.1]; simp
  | .row t e, bs, l, cs, h => by
    rcases h with h | ⟨g, cap, cur, F, h1, h2, h3, h4, h5, h6, h7, h8⟩
    · rw [h.1]; simp
    · subst h2
      intro b hb
      rcases List.mem_cons.1 hb with rfl | hb
      · exact heap_lt h3
      · obtain ⟨i, hi, hb⟩ := mem_flatten_getD hb
        exact Sh.Ow.lt e _ _ _ (h8 i (by omega)) b hb
  | .rowO t e, bs, l, cs, h => by
    rcases h with h | ⟨g, off, cap, cur, F, h1, h2, h3, h4, h5, h6, h7, h8⟩
    · rw [h.1]; simp
    · subst h2
      intro b hb
      rcases List.mem_cons.1 hb with rfl | hb
      · exact heap_lt h3
      · obtain ⟨i, hi, hb⟩ := mem_flatten_getD hb
        exact Sh.Ow.lt e _ _ _ (h8 i (by omega)) b hb
  | .nil, bs, _, _, h => by rw [h.1]; simp
  | .cons f r, bs, d, cs, ⟨b1, b2, c1, c2, h1, h2, h3, h4⟩ => by
    subst h1
    intro b hb
    rcases List.mem_append.1 hb with hb | hb
    · exact Sh.Ow.lt f _ _ _ h3 b hb
    · exact Sh.Ow.lt r _ _ _ h4 b hb
theorem Sh.Ow.len {w : World} : ∀ (s : Sh) (bs : List Nat) (d : s.El) (cs : List Value), s.Ow w bs d cs → cs.length = s.sz
  | .int _, _, _, _, h => by rw [h.2.1]; rfl
  | .bool, _, _, _, h => by rw [h.2]; rfl
  | .row _ e, _, l, cs, h => by
    rcases h with h | ⟨g, cap, cur, F, h1, _⟩
    · rw [h.2.1]; rfl
    · rw [h1]; rfl
  | .rowO _ e, _, l, cs, h => by
    rcases h with ⟨_, _, a, cap, h1, _⟩ | ⟨g, off, cap, cur, F, h1, _⟩
    · rw [h1]; rfl
    · rw [h1]; rfl
  | .nil, _, _, _, h => by rw [h.2]; rfl
  | .cons f r, _, d, cs, ⟨b1, b2, c1, c2, _, h1, h2, h3⟩ => by rw [h1, List.length_append, Sh.Ow.len f _ _ _ h2, Sh.Ow.len r _ _ _ h3]; rfl
theorem cell_of_heap {w : World} {g : Nat} {cur : Array Value} {t : TypeId} {fz : Nat × Nat} (h : w.heap[g]? = some (.cells cur t fz)) (o : Nat) : w.cell? ⟨g, o, none⟩ = cur[o]? := by simp [World.cell?, h]
theorem Sh.Ow.rd {w : World} {B : Nat} (hB : w.heap.size ≤ B) : ∀ (s : Sh) (bs : List Nat) (d : s.El) (cs : List Value), s.Ow w bs d cs → s.Rd w B d cs
  | .int _, _, _, _, h => h.2
  | .bool, _, _, _, h => h.2
  | .row t e, bs, l, cs, h => by
    rcases h with ⟨_, h1, rfl⟩ | ⟨g, cap, cur, F, h1, h2, h3, h4, h5, h6, h7, h8⟩
    · exact ⟨none, 0, h1, ⟨Nat.le_refl _, Nat.zero_le _⟩, fun _ => rfl, 0, 0, fun h => absurd rfl h, fun i hi => by simp at hi⟩
    · refine ⟨some ⟨g, 0, none⟩, cap, h1, ⟨h4, h5⟩, fun h => (by cases h), g, 0, fun _ => ⟨rfl, Nat.lt_of_lt_of_le (heap_lt h3) hB⟩, fun i hi => ⟨_, ?_, ?_, Sh.Ow.rd hB e _ _ _ (h8 i hi)⟩⟩
      · exact Sh.Ow.len _ _ _ _ (h8 i hi)
      · intro j hj
        rw [cell_of_heap h3, List.getElem?_take_of_lt hj, List.getElem?_drop, ← Array.getElem?_toList]
        congr 1; omega
  | .rowO t e, bs, l, cs, h => by
    rcases h with ⟨_, rfl, a, cap, h1, hm, hn⟩ | ⟨g, off, cap, cur, F, h1, h2, h3, h4, h5, h6, h7, h8⟩
    · exact ⟨a, cap, h1, ⟨Nat.zero_le _, hm⟩, hn, 0, 0, fun h => absurd rfl h, fun i hi => by simp at hi⟩
    · refine ⟨some ⟨g, off, none⟩, cap, h1, ⟨h4, h5⟩, fun h => (by cases h), g, off, fun _ => ⟨rfl, Nat.lt_of_lt_of_le (heap_lt h3) hB⟩, fun i hi => ⟨_, ?_, ?_, Sh.Ow.rd hB e _ _ _ (h8 i hi)⟩⟩
      · exact Sh.Ow.len _ _ _ _ (h8 i hi)
      · intro j hj
        rw [cell_of_heap h3, List.getElem?_take_of_lt hj, List.getElem?_drop, ← Array.getElem?_toList]
  | .nil, _, _, _, h => h.2
  | .cons f r, _, d, cs, ⟨b1, b2, c1, c2, _, h1, h2, h3⟩ => ⟨c1, c2, h1, Sh.Ow.rd hB f _ _ _ h2, Sh.Ow.rd hB r _ _ _ h3⟩
structure Own (w : World) (lo hi : Nat) (s : Sh) (d : s.El) (cs : List Value) : Prop where
  ex : ∃ bs, s.Ow w bs d cs ∧ bs.Nodup ∧ ∀ b ∈ bs, lo ≤ b ∧ b < hi
theorem Own.keep {w w' : World} {lo hi : Nat} {s : Sh} {d : s.El} {cs : List Value} (h : Own w lo hi s d cs) (hk : ∀ b, lo ≤ b → b < hi → w'.heap[b]? = w.heap[b]?) : Own w' lo hi s d cs := by
  obtain ⟨bs, h1, h2, h3⟩ := h
  exact ⟨bs, Sh.Ow.keep s bs d cs (fun b hb => hk b (h3 b hb).1 (h3 b hb).2) h1, h2, h3⟩
theorem Own.below {w w' : World} {lo hi C : Nat} {s : Sh} {d : s.El} {cs : List Value} (h : Own w lo hi s d cs) (hC : hi ≤ C) (hb : Below C w w') : Own w' lo hi s d cs := h.keep (fun b _ h2 => hb.block b (by omega))
theorem Own.mono {w : World} {lo hi lo' hi' : Nat} {s : Sh} {d : s.El} {cs : List Value} (h : Own w lo hi s d cs) (h1 : lo' ≤ lo) (h2 : hi ≤ hi') : Own w lo' hi' s d cs := by
  obtain ⟨bs, g1, g2, g3⟩ := h
  exact ⟨bs, g1, g2, fun b hb => ⟨Nat.le_trans h1 (g3 b hb).1, Nat.lt_of_lt_of_le (g3 b hb).2 h2⟩⟩
theorem Own.tight {w : World} {lo hi : Nat} {s : Sh} {d : s.El} {cs : List Value} (h : Own w lo hi s d cs) : Own w lo w.heap.size s d cs := by
  obtain ⟨bs, g1, g2, g3⟩ := h
  exact ⟨bs, g1, g2, fun b hb => ⟨(g3 b hb).1, Sh.Ow.lt _ _ _ _ g1 b hb⟩⟩
theorem Own.rd {w : World} {lo hi B : Nat} {s : Sh} {d : s.El} {cs : List Value} (h : Own w lo hi s d cs) (hB : w.heap.size ≤ B) : s.Rd w B d cs := by
  obtain ⟨bs, g1, _⟩ := h
  exact Sh.Ow.rd hB s bs d cs g1
abbrev u8s : Sh := .row 5 (.int .u8)
theorem wf_u8 {x : Int} (h0 : 0 ≤ x) (h1 : x ≤ 255) : (Lit.int .u8 x).wf = true := by
  simp [Lit.wf, IntKind.min, IntKind.max, IntKind.bits, IntKind.signed]; omega
theorem rd_bytes {w : World} {B : Nat} {l : List Int} {cs : List Value} (h : u8s.Rd w B l cs) : ∃ a cap, cs = [.slice a l.length cap] ∧ RB w a l ∧ (a = none → cap = 0) ∧ l.length ≤ maxLen := by
  obtain ⟨a, cap, h1, h2, h3, b, off, h4, h5⟩ := h
  have key : ∀ i (hi : i < l.length), w.cell? ⟨b, off + i, none⟩ = some (.int .u8 l[i]) ∧ (Lit.int .u8 l[i]).wf = true := by
    intro i hi
    obtain ⟨cs', g1, g2, g3, g4⟩ := h5 i hi
    have := g2 0 (by decide)
    rw [g3] at this
    exact ⟨by simpa [Sh.sz] using this, g4⟩
  refine ⟨a, cap, h1, ⟨?_, ?_⟩, h3, Nat.le_trans h2.1 h2.2⟩
  · intro x hx
    obtain ⟨i, hi, rfl⟩ := List.getElem_of_mem hx
    exact bounds_u8 (key i hi).2
  · by_cases hl : l = []
    · exact Or.inl hl
    · refine Or.inr ⟨b, off, (h4 hl).1, fun i hi => ?_⟩
      rw [(key i hi).1, List.getD_eq_getElem?_getD, List.getElem?_eq_getElem hi]; rfl
theorem rd_cap {w : World} {B : Nat} {t : TypeId} {e : Sh} {l : List e.El} {a : Option Addr} {n cap : Nat} (h : (Sh.row t e).Rd w B l [.slice a n cap]) : l.length = n ∧ n ≤ cap ∧ cap ≤ maxLen ∧ (a = none → cap = 0) := by
  obtain ⟨a', cap', h1, h2, h3, _⟩ := h
  simp only [List.cons.injEq, Value.slice.injEq, and_true] at h1
  obtain ⟨rfl, rfl, rfl⟩ := h1
  exact ⟨rfl, h2.1, h2.2, h3⟩
theorem own_bytes {w : World} {base hi : Nat} {v : Value} {l : List Int} (h : OB w base v l) (hh : w.heap.size ≤ hi) : Own w base hi u8s l [v] := by
  obtain ⟨h1, ⟨rfl, hz⟩ | ⟨g, cap, cur, rfl, hg, hh', hc, hm, hs, ht⟩⟩ := h.own
  · have : l = [] := List.length_eq_zero_iff.1 hz
    subst this
    exact ⟨[], Or.inl ⟨rfl, rfl, rfl⟩, by simp, by simp⟩
  · refine ⟨[g], Or.inr ⟨g, cap, cur, List.replicate l.length [], rfl, by simp, hh', hc, hm, by simpa [Sh.sz] using hs, by simp, fun i hi => ?_⟩, by simp, fun b hb => ?_⟩
    · refine ⟨by simp [List.getD_eq_getElem?_getD, hi], ?_, ?_⟩
      · have e : (cur.toList.take (l.length * 1))[i]? = some (.int .u8 l[i]) := by rw [ht, List.getElem?_map, List.getElem?_eq_getElem hi]; rfl
        rw [List.getElem?_take_of_lt (by omega)] at e
        have hlt : i < cur.toList.length := by
          apply Classical.byContradiction; intro hn
          rw [List.getElem?_eq_none (by omega)] at e; cases e
        show (cur.toList.drop (i * 1)).take 1 = _
        rw [Nat.mul_one, List.drop_eq_getElem_cons hlt]
        rw [List.getElem?_eq_getElem hlt] at e
        simpa using e
      · have := h.bd _ (List.getElem_mem hi)
        exact wf_u8 this.1 this.2
    · simp at hb; subst hb
      exact ⟨hg, Nat.lt_of_lt_of_le (heap_lt hh') hh⟩
theorem take_drop_cells {cur : List Value} {n : Nat} {l : List Int} (hl : l.length = n) (h : ∀ i (hi : i < l.length), (cur.drop i).take 1 = [.int .u8 l[i]]) : cur.take n = l.map (Value.int .u8) := by
  apply List.ext_getElem?
  intro i
  by_cases hi : i < n
  · rw [List.getElem?_take_of_lt hi, List.getElem?_map, List.getElem?_eq_getElem (l := l) (by omega)]
    have := congrArg (fun x => x[0]?) (h i (by omega))
    simpa using this
  · rw [List.getElem?_eq_none (by rw [List.length_take]; omega), List.getElem?_eq_none (by simp; omega)]
theorem bytes_ob {w : World} {bs : List Nat} {l : List Int} {cs : List Value} (h : u8s.Ow w bs l cs) : ∃ v, cs = [v] ∧ OB w 0 v l ∧ (∀ b, v.ownBlock = some b → b ∈ bs) ∧ (∀ b ∈ bs, v.ownBlock = some b) := by
  rcases h with ⟨rfl, rfl, rfl⟩ | ⟨g, cap, cur, F, rfl, rfl, h3, h4, h5, h6, h7, h8⟩
  · exact ⟨_, rfl, ⟨⟨rfl, Or.inl ⟨rfl, rfl⟩⟩, by simp⟩, by simp [Value.ownBlock], by simp⟩
  · have hF : F.flatten = [] := by
      apply List.eq_nil_iff_forall_not_mem.2
      intro b hb
      obtain ⟨i, hi, hb⟩ := mem_flatten_getD hb
      have := (h8 i (by omega)).1
      rw [this] at hb; simp at hb
    have key : ∀ i (hi : i < l.length), (cur.toList.drop i).take 1 = [.int .u8 l[i]] := fun i hi => by
      have := (h8 i hi).2.1
      simpa [Sh.sz] using this
    refine ⟨_, rfl, ⟨⟨by simp, Or.inr ⟨g, cap, cur, rfl, Nat.zero_le _, h3, h4, h5, by simpa [Sh.sz] using h6, ?_⟩⟩, ?_⟩, ?_, ?_⟩
    · rw [Nat.mul_one]; exact take_drop_cells rfl key
    · intro x hx
      obtain ⟨i, hi, rfl⟩ := List.getElem_of_mem hx
      exact bounds_u8 (h8 i hi).2.2
    · intro b hb; simp [Value.ownBlock] at hb; simp [hb]
    · intro b hb; rw [hF] at hb; simp at hb; subst hb; rfl
theorem OB.rebase {w : World} {base base' : Nat} {v : Value} {l : List Int} (h : OB w base v l) (hb : ∀ b, v.ownBlock = some b → base' ≤ b) : OB w base' v l := by
  refine ⟨?_, h.bd⟩
  obtain ⟨h1, h2 | ⟨g, cap, cur, rfl, hg, r⟩⟩ := h.own
  · exact ⟨h1, Or.inl h2⟩
  · exact ⟨h1, Or.inr ⟨g, cap, cur, rfl, hb g rfl, r⟩⟩
theorem Own.ob {w : World} {lo hi : Nat} {l : List Int} {cs : List Value} (h : Own w lo hi u8s l cs) : ∃ v, cs = [v] ∧ OB w lo v l ∧ ∀ b, v.ownBlock = some b → lo ≤ b ∧ b < hi := by
  obtain ⟨bs, h1, h2, h3⟩ := h
  obtain ⟨v, rfl, ho, h4, _⟩ := bytes_ob h1
  exact ⟨v, rfl, ho.rebase fun b hb => (h3 b (h4 b hb)).1, fun b hb => h3 b (h4 b hb)⟩
end Go.Proofs.Ytebgibjokljlbaa
namespace Go.Proofs.Ytebgibjokljlbaa
open Go.RowKit Go.ChangeShapes Go.WideShapes Go.ChangeAt
set_option linter.unusedVariables false
def Sh.zero : (s : Sh) → s.El
  | .int _ => (0 : Int)
  | .bool => false
  | .row _ _ => []
  | .rowO _ _ => []
  | .nil => ()
  | .cons f r => (f.zero, r.zero)
instance (s : Sh) : Inhabited s.El := ⟨s.zero⟩
end Go.Proofs.Ytebgibjokljlbaa
namespace Go.Proofs.Ytebgibjokljlbaa
open Go.RowKit
set_option linter.unusedVariables false
def chunk (xs : List Value) (sz i : Nat) : List Value := (xs.drop (i * sz)).take sz
theorem chunk_take {xs : List Value} {sz n i : Nat} (hi : i < n) : chunk (xs.take (n * sz)) sz i = chunk xs sz i := by
  unfold chunk
  rw [List.drop_take, List.take_take]
  congr 1
  have : i * sz + sz ≤ n * sz := by rw [← Nat.succ_mul]; exact Nat.mul_le_mul_right _ hi
  omega
theorem Own.row_of {w : World} {lo hi : Nat} {t : TypeId} {e : Sh} {l : List e.El} {v : Value} {xs : List Value} (ho : w.ownsRow lo t e.sz v l.length xs) (hv : ∀ b, v.ownBlock = some b → b < hi) (F : List (List Nat)) (hF : F.length = l.length)
    (hnd : F.flatten.Nodup) (hb : ∀ b ∈ F.flatten, lo ≤ b ∧ b < hi ∧ v.ownBlock ≠ some b) (hel : ∀ i (h : i < l.length), e.Ow w (F.getD i []) l[i] (chunk xs e.sz i)) : Own w lo hi (.row t e) l [v] := by
  obtain ⟨h1, ⟨rfl, hz⟩ | ⟨g, cap, cur, rfl, hg, hh, hc, hm, hs, ht⟩⟩ := ho
  · have e1 : l = [] := List.length_eq_zero_iff.1 hz
    exact ⟨[], Or.inl ⟨rfl, rfl, e1⟩, by simp, by simp⟩
  · refine ⟨g :: F.flatten, Or.inr ⟨g, cap, cur, F, rfl, rfl, hh, hc, hm, hs, hF, fun i hi => ?_⟩, ?_, ?_⟩
    · have := hel i hi
      rw [← ht, chunk_take hi] at this
      exact this
    · refine List.nodup_cons.2 ⟨fun hmem => ?_, hnd⟩
      exact (hb g hmem).2.2 rfl
    · intro b hbm
      rcases List.mem_cons.1 hbm with rfl | hbm
      · exact ⟨hg, hv b rfl⟩
      · exact ⟨(hb b hbm).1, (hb b hbm).2.1⟩
theorem Own.row_to {w : World} {lo hi : Nat} {t : TypeId} {e : Sh} {l : List e.El} {cs : List Value} (h : Own w lo hi (.row t e) l cs) :
    ∃ v xs F, cs = [v] ∧ w.ownsRow lo t e.sz v l.length xs ∧ F.length = l.length ∧ List.Nodup (List.flatten F) ∧ (∀ b ∈ List.flatten F, lo ≤ b ∧ b < hi ∧ v.ownBlock ≠ some b) ∧ (∀ i (h : i < l.length), e.Ow w (List.getD F i []) l[i] (chunk xs e.sz i)) ∧ (∀ b, v.ownBlock = some b → b < hi) := by
  obtain ⟨bs, h1, h2, h3⟩ := h
  rcases h1 with ⟨rfl, rfl, rfl⟩ | ⟨g, cap, cur, F, rfl, rfl, g3, g4, g5, g6, g7, g8⟩
  · exact ⟨_, [], [], rfl, ⟨by simp, Or.inl ⟨rfl, rfl⟩⟩, rfl, by simp, by simp, fun i hi => by simp at hi, by simp [Value.ownBlock]⟩
  · obtain ⟨h2a, h2b⟩ := List.nodup_cons.1 h2
    refine ⟨_, cur.toList.take (l.length * e.sz), F, rfl, ⟨?_, Or.inr ⟨g, cap, cur, rfl, (h3 g (by simp)).1, g3, g4, g5, g6, rfl⟩⟩, g7, h2b, fun b hb => ⟨(h3 b (by simp [hb])).1, (h3 b (by simp [hb])).2, ?_⟩, fun i hi => ?_, ?_⟩
    · have : l.length * e.sz ≤ cap * e.sz := Nat.mul_le_mul_right _ g4
      simp; omega
    · intro e0
      simp [Value.ownBlock] at e0
      subst e0
      exact h2a hb
    · rw [chunk_take hi]; exact g8 i hi
    · intro b hb
      simp [Value.ownBlock] at hb
      subst hb
      exact (h3 g (by simp)).2
theorem chunk_get {xs : List Value} {sz i j : Nat} (hj : j < sz) : (chunk xs sz i)[j]? = xs[i * sz + j]? := by
  unfold chunk; rw [List.getElem?_take_of_lt hj, List.getElem?_drop]
theorem chunk_ext {xs ys : List Value} {sz i j : Nat} (h : ∀ k, k < sz → xs[i * sz + k]? = ys[j * sz + k]?) : chunk xs sz i = chunk ys sz j := by
  apply List.ext_getElem?
  intro k
  by_cases hk : k < sz
  · rw [chunk_get hk, chunk_get hk, h k hk]
  · rw [List.getElem?_eq_none (by unfold chunk; simp; omega), List.getElem?_eq_none (by unfold chunk; simp; omega)]
def Sh.zcells : Sh → List Value
  | .int k => [.int k 0]
  | .bool => [.bool false]
  | .row _ _ => [.slice none 0 0]
  | .rowO _ _ => [.slice none 0 0]
  | .nil => []
  | .cons f r => f.zcells ++ r.zcells
theorem wf_zero (k : IntKind) : (Lit.int k 0).wf = true := by cases k <;> decide
theorem zero_ow (w : World) : ∀ (s : Sh), s.Ow w [] s.zero s.zcells
  | .int k => ⟨rfl, rfl, wf_zero k⟩
  | .bool => ⟨rfl, rfl⟩
  | .row _ _ => Or.inl ⟨rfl, rfl, rfl⟩
  | .rowO _ _ => Or.inl ⟨rfl, rfl, none, 0, rfl, Nat.zero_le _, fun _ => rfl⟩
  | .nil => ⟨rfl, rfl⟩
  | .cons f r => ⟨[], [], _, _, rfl, rfl, zero_ow w f, zero_ow w r⟩
theorem zcells_len (s : Sh) : s.zcells.length = s.sz := Sh.Ow.len s [] s.zero s.zcells (zero_ow default s)
theorem chunk_made {z : Array Value} {n i sz : Nat} (hz : z.size = sz) (hi : i < n) : chunk (madeCells z (n * sz)).toList sz i = z.toList := by
  have hle : i * sz + sz ≤ n * sz := by rw [← Nat.succ_mul]; exact Nat.mul_le_mul_right _ hi
  apply List.ext_getElem?
  intro j
  by_cases hj : j < sz
  · rw [chunk_get hj]
    have hlt : i * sz + j < n * sz := by omega
    have hm : (i * sz + j) % sz = j := by rw [Nat.mul_comm, Nat.mul_add_mod, Nat.mod_eq_of_lt hj]
    simp [madeCells, hlt, hz, hm, hj]
  · rw [List.getElem?_eq_none (by unfold chunk; simp; omega), List.getElem?_eq_none (by simp; omega)]
theorem Own.made {w : World} {g n : Nat} {t : TypeId} {e : Sh} {z : Value} (hz : z.cells.toList = e.zcells) (ho : w.ownsRow g t e.sz (.slice (some ⟨g, 0, none⟩) n n) n (madeCells z.cells (n * e.sz)).toList) :
    Own w g (g + 1) (.row t e) (List.replicate n e.zero) [.slice (some ⟨g, 0, none⟩) n n] := by
  have hfl : (List.replicate n ([] : List Nat)).flatten = [] := by
    apply List.eq_nil_iff_forall_not_mem.2
    intro b hb
    obtain ⟨y, hy, hb⟩ := List.mem_flatten.1 hb
    rw [List.eq_of_mem_replicate hy] at hb; simp at hb
  refine Own.row_of (l := List.replicate n e.zero) (xs := (madeCells z.cells (n * e.sz)).toList) (by simpa using ho) (fun b hb => ?_) (List.replicate n []) (by simp) (by rw [hfl]; simp) (by rw [hfl]; simp) (fun i hi => ?_)
  · simp [Value.ownBlock] at hb; omega
  · have hi' : i < n := by simpa using hi
    have hsz : z.cells.size = e.sz := by rw [← zcells_len e, ← hz]; simp
    rw [chunk_made hsz hi', hz]
    have e1 : (List.replicate n ([] : List Nat)).getD i [] = [] := by simp [List.getD_eq_getElem?_getD, hi']
    rw [e1]
    simp only [List.getElem_replicate]
    exact zero_ow w e
end Go.Proofs.Ytebgibjokljlbaa
namespace Go.Proofs.Ytebgibjokljlbaa
open Go.RowKit
set_option linter.unusedVariables false
def fsum {α : Type} (f : α → Nat) (l : List α) : Nat := (l.map f).sum
theorem fsum_take {α : Type} {f : α → Nat} {l : List α} {k : Nat} (hk : k < l.length) : fsum f (l.take (k + 1)) = fsum f (l.take k) + f l[k] := by
  unfold fsum
  rw [List.take_succ_eq_append_getElem hk, List.map_append, List.sum_append]
  simp only [List.map_cons, List.map_nil, List.sum_cons, List.sum_nil, Nat.add_zero]
theorem fsum_le {α : Type} {f : α → Nat} (l : List α) (k : Nat) : fsum f (l.take k) ≤ fsum f l := by
  have h : fsum f l = fsum f (l.take k) + fsum f (l.drop k) := by
    unfold fsum
    rw [← List.sum_append, ← List.map_append, List.take_append_drop]
  omega
theorem fsum_at {α : Type} (f : α → Nat) {l : List α} {k : Nat} (hk : k < l.length) : f l[k] ≤ fsum f l := by
  have := fsum_take (f := f) hk; have := fsum_le (f := f) l (k + 1); omega
theorem row_form {w : World} {B : Nat} {t : TypeId} {e : Sh} {l : List e.El} {cs : List Value} (h : (Sh.row t e).Rd w B l cs) : ∃ a cap, cs = [.slice a l.length cap] := by
  obtain ⟨a, cap, h1, _⟩ := h; exact ⟨a, cap, h1⟩
theorem row_max {w : World} {B : Nat} {t : TypeId} {e : Sh} {l : List e.El} {cs : List Value} (h : (Sh.row t e).Rd w B l cs) : l.length ≤ 9223372036854775807 := by
  obtain ⟨a, cap, _, h2, _⟩ := h; exact Nat.le_trans h2.1 h2.2
theorem hOwnCons {w : World} {lo mid hi : Nat} {f r : Sh} {d1 : f.El} {d2 : r.El} {c1 c2 : List Value} (h1 : Own w lo mid f d1 c1) (h2 : Own w mid hi r d2 c2) (hlm : lo ≤ mid) (hmh : mid ≤ hi) : Own w lo hi (.cons f r) (d1, d2) (c1 ++ c2) := by
  obtain ⟨b1, x1, x2, x3⟩ := h1
  obtain ⟨b2, y1, y2, y3⟩ := h2
  refine ⟨b1 ++ b2, ⟨b1, b2, c1, c2, rfl, rfl, x1, y1⟩, ?_, fun b hb => ?_⟩
  · rw [List.nodup_append]
    refine ⟨x2, y2, fun a ha b hb e => ?_⟩
    have := x3 a ha; have := y3 b hb; omega
  · rcases List.mem_append.1 hb with hb | hb
    · have := x3 b hb; omega
    · have := y3 b hb; omega
theorem hOwnNil (w : World) (lo hi : Nat) : Own w lo hi .nil () [] := ⟨[], ⟨rfl, rfl⟩, by simp, by simp⟩
theorem hOwnInt (w : World) (lo hi : Nat) {k : IntKind} {n : Int} (h : (Lit.int k n).wf = true) : Own w lo hi (.int k) n [.int k n] := ⟨[], ⟨rfl, rfl, h⟩, by simp, by simp⟩
theorem hOwnBool (w : World) (lo hi : Nat) (b : Bool) : Own w lo hi .bool b [.bool b] := ⟨[], ⟨rfl, rfl⟩, by simp, by simp⟩
def Sh.types : Sh → List TypeId
  | .int _ => []
  | .bool => []
  | .row t e => t :: e.types
  | .rowO t e => t :: e.types
  | .nil => []
  | .cons f r => f.types ++ r.types
theorem Sh.Ow.ty {w : World} : ∀ (s : Sh) (bs : List Nat) (d : s.El) (cs : List Value), s.Ow w bs d cs → ∀ b ∈ bs, ∃ cur t, w.heap[b]? = some (.cells cur t (0, 0)) ∧ t ∈ s.types
  | .int _, bs, _, _, h => by rw [h.1]; simp
  | .bool, bs, _, _, h => by rw [h.1]; simp
  | .row t e, bs, l, cs, h => by
    rcases h with h | ⟨g, cap, cur, F, h1, h2, h3, h4, h5, h6, h7, h8⟩
    · rw [h.1]; simp
    · subst h2
      intro b hb
      rcases List.mem_cons.1 hb with rfl | hb
      · exact ⟨cur, t, h3, by simp [Sh.types]⟩
      · obtain ⟨i, hi, hb⟩ := mem_flatten_getD hb
        obtain ⟨c, t', q1, q2⟩ := Sh.Ow.ty e _ _ _ (h8 i (by omega)) b hb
        exact ⟨c, t', q1, by simp [Sh.types, q2]⟩
  | .rowO t e, bs, l, cs, h => by
    rcases h with h | ⟨g, off, cap, cur, F, h1, h2, h3, h4, h5, h6, h7, h8⟩
    · rw [h.1]; simp
    · subst h2
      intro b hb
      rcases List.mem_cons.1 hb with rfl | hb
      · exact ⟨cur, t, h3, by simp [Sh.types]⟩
      · obtain ⟨i, hi, hb⟩ := mem_flatten_getD hb
        obtain ⟨c, t', q1, q2⟩ := Sh.Ow.ty e _ _ _ (h8 i (by omega)) b hb
        exact ⟨c, t', q1, by simp [Sh.types, q2]⟩
  | .nil, bs, _, _, h => by rw [h.1]; simp
  | .cons f r, bs, d, cs, ⟨b1, b2, c1, c2, h1, h2, h3, h4⟩ => by
    subst h1
    intro b hb
    rcases List.mem_append.1 hb with hb | hb
    · obtain ⟨c, t', q1, q2⟩ := Sh.Ow.ty f _ _ _ h3 b hb
      exact ⟨c, t', q1, by simp [Sh.types, q2]⟩
    · obtain ⟨c, t', q1, q2⟩ := Sh.Ow.ty r _ _ _ h4 b hb
      exact ⟨c, t', q1, by simp [Sh.types, q2]⟩
theorem Own.off {w w' : World} {lo hi : Nat} {s : Sh} {d : s.El} {cs : List Value} (h : Own w lo hi s d cs) {q : Nat} {cur : Array Value} {t : TypeId} (hq : w.heap[q]? = some (.cells cur t (0, 0))) (ht : t ∉ s.types) (hk : ∀ b, lo ≤ b → b < hi → b ≠ q → w'.heap[b]? = w.heap[b]?) : Own w' lo hi s d cs := by
  obtain ⟨bs, h1, h2, h3⟩ := h
  refine ⟨bs, Sh.Ow.keep s bs d cs (fun b hb => hk b (h3 b hb).1 (h3 b hb).2 fun e => ?_) h1, h2, h3⟩
  subst e
  obtain ⟨c, t', q1, q2⟩ := Sh.Ow.ty s bs d cs h1 b hb
  rw [hq] at q1
  simp only [Option.some.injEq, Obj.cells.injEq] at q1
  exact ht (q1.2.1 ▸ q2)
theorem Own.blk {w : World} {lo hi : Nat} {t : TypeId} {e : Sh} {l : List e.El} {v : Value} (h : Own w lo hi (.row t e) l [v]) {b : Nat} (hb : v.ownBlock = some b) : lo ≤ b ∧ b < hi := by
  obtain ⟨v', xs, F, e1, ho, _, _, _, _, hv⟩ := h.row_to
  simp only [List.cons.injEq, and_true] at e1
  subst e1
  exact ⟨(ho.lt b hb).1, hv b hb⟩
end Go.Proofs.Ytebgibjokljlbaa
