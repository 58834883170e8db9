/- What stays in memory over a call: boxes of the law's own, rows of bytes that are read or owned; also where the call writes one row of the call's own; no condition. -/
import Derived.Test.YtmiomnpfjigojaaRows
import Derived.Test.YtmiomnpfjigojaaBase
import Derived.Test.YtmiomnpfjigojaaBytes
import Derived.Test.YtmiomnpfjigojaaSeg
import Derived.Deep.DeepCutAuto
namespace Go.Proofs.Ytmiomnpfjigojaa
open Go.RowKit
set_option linter.unusedVariables false

/-- A box (a block of cells, cs) lies at block b. -/
theorem box_below {w w' : World} {b : Nat} {cs : Array Value} (h : ∀ o, w.cell? ⟨b, o, none⟩ = cs[o]?) (hb : b < w.heap.size) (k : Below w.heap.size w w') : ∀ o, w'.cell? ⟨b, o, none⟩ = cs[o]? :=
  fun o => (k.cell (p := ⟨b, o, none⟩) hb).trans (h o)
theorem box_lo {B : Nat} {w w' : World} {b : Nat} {cs : Array Value} (h : ∀ o, w.cell? ⟨b, o, none⟩ = cs[o]?) (hb : b < B) (k : Below B w w') : ∀ o, w'.cell? ⟨b, o, none⟩ = cs[o]? :=
  fun o => (k.cell (p := ⟨b, o, none⟩) hb).trans (h o)
theorem box_new {w w' : World} {cs : Array Value} {t : TypeId} (k : Below (w.alloc (.cells cs t)).heap.size (w.alloc (.cells cs t)) w') : ∀ o, w'.cell? ⟨w.heap.size, o, none⟩ = cs[o]? :=
  fun o => (k.cell (p := ⟨w.heap.size, o, none⟩) (by simp)).trans (by simp)
theorem below_new {w w' : World} {O : Obj} (k : Below (w.alloc O).heap.size (w.alloc O) w') : Below w.heap.size w w' ∧ w.heap.size < w'.heap.size := by
  refine ⟨((Below.refl _ _).alloc (Nat.le_refl _) _).trans (k.mono (by simp)), ?_⟩
  have := k.size
  simp at this
  omega
theorem box_new2 {w w' : World} {A B : Array Value} {t u : TypeId} (k : Below ((w.alloc (.cells A t)).alloc (.cells B u)).heap.size ((w.alloc (.cells A t)).alloc (.cells B u)) w') :
    (∀ o, w'.cell? ⟨w.heap.size, o, none⟩ = A[o]?) ∧ (∀ o, w'.cell? ⟨w.heap.size + 1, o, none⟩ = B[o]?) ∧ Below w.heap.size w w' ∧ w.heap.size + 1 < w'.heap.size := by
  have hz := k.size
  simp at hz
  refine ⟨fun o => ?_, fun o => ?_, ?_, by omega⟩
  · rw [k.cell (p := ⟨w.heap.size, o, none⟩) (by simp; omega)]; simp
  · rw [k.cell (p := ⟨w.heap.size + 1, o, none⟩) (by simp)]; simp
  · exact (((Below.refl _ _).alloc (Nat.le_refl _) _).alloc (by simp) _).trans (k.mono (by simp; omega))
theorem BRow.small {k : IntKind} {w : World} {a : Option Addr} {len cap : Nat} {zs : List Int} (h : BRow k w a len cap zs) : len ≤ maxLen ∧ (a = none → cap = 0) := by
  rcases h with ⟨h0, h1, h2, _⟩ | ⟨x, h0, h1, h2, _⟩
  · exact ⟨by omega, fun _ => h2⟩
  · exact ⟨by omega, fun e => by rw [h0] at e; cases e⟩
theorem below_drew {w w' : World} (k : Below w.drew.heap.size w.drew w') : Below w.heap.size w w' := (Below.drew (Below.refl _ _)).trans k

theorem grown_cell {w w' : World} {g : Option Nat} (hg : w.grownBy w' g) {b : Nat} (o : Nat) (hb : b < w.heap.size) (hne : g ≠ some b) : w'.cell? ⟨b, o, none⟩ = w.cell? ⟨b, o, none⟩ :=
  World.cell?_of_block (w := w) (hg.block b hb (fun e => hne e.symm))
theorem grown_box {w w' : World} {g : Option Nat} (hg : w.grownBy w' g) {b : Nat} {cs : Array Value} (h : ∀ o, w.cell? ⟨b, o, none⟩ = cs[o]?) (hb : b < w.heap.size) (hne : g ≠ some b) : ∀ o, w'.cell? ⟨b, o, none⟩ = cs[o]? :=
  fun o => (grown_cell hg o hb hne).trans (h o)
theorem RB.lt {w : World} {a : Option Addr} {l : List Int} (h : RB w a l) : l = [] ∨ ∃ b off, a = some ⟨b, off, none⟩ ∧ b < w.heap.size := by
  rcases h.mem with e | ⟨b, off, rfl, hc⟩
  · exact Or.inl e
  · by_cases hl : l = []
    · exact Or.inl hl
    · have hp : 0 < l.length := List.length_pos_iff.2 hl
      exact Or.inr ⟨b, off, rfl, cell_lt (hc 0 hp)⟩
theorem RB.grown {w w' : World} {g : Option Nat} {a : Option Addr} {l : List Int} (h : RB w a l) (hg : w.grownBy w' g) (hne : ∀ b off, a = some ⟨b, off, none⟩ → l ≠ [] → g ≠ some b) : RB w' a l := by
  refine ⟨h.bd, ?_⟩
  rcases h.mem with e | ⟨b, off, rfl, hc⟩
  · exact Or.inl e
  · by_cases hl : l = []
    · exact Or.inl hl
    · exact Or.inr ⟨b, off, rfl, fun i hi => (grown_cell hg (off + i) (cell_lt (hc i hi)) (hne b off rfl hl)).trans (hc i hi)⟩
/-- Bytes that lie below block B stay where a block from B on is written. -/
theorem RB.grownLo {w0 w w' : World} {g : Option Nat} {a : Option Addr} {l : List Int} (h0 : RB w0 a l) (h : RB w a l) (hg : w.grownBy w' g) {B : Nat} (hB : w0.heap.size ≤ B) (hgB : ∀ b, g = some b → B ≤ b) : RB w' a l := by
  refine h.grown hg ?_
  rintro b off rfl hl e
  rcases h0.lt with e0 | ⟨b', off', e0, hlt⟩
  · exact hl e0
  · simp only [Option.some.injEq, Addr.mk.injEq, and_true] at e0
    have := hgB b e
    omega
theorem OB.at {w : World} {base : Nat} {v : Value} {l : List Int} (h : OB w base v l) : ∀ b, v.ownBlock = some b → base ≤ b ∧ b < w.heap.size := fun b e => h.own.lt b e
theorem OB.grown {w w' : World} {g : Option Nat} {base : Nat} {v : Value} {l : List Int} (h : OB w base v l) (hg : w.grownBy w' g) (hne : ∀ b, v.ownBlock = some b → g ≠ some b) : OB w' base v l := by
  refine ⟨?_, h.bd⟩
  obtain ⟨h1, h2 | ⟨b, cap, cur, e, hbase, hh, r⟩⟩ := h.own
  · exact ⟨h1, Or.inl h2⟩
  · have hlt : b < w.heap.size := by
      apply Classical.byContradiction; intro hn
      rw [Array.getElem?_eq_none (by omega)] at hh; cases hh
    subst e
    exact ⟨h1, Or.inr ⟨b, cap, cur, rfl, hbase, by rw [hg.block b hlt (fun e => hne b rfl e.symm)]; exact hh, r⟩⟩
theorem rb_one {w : World} {y : Int} (hy : 0 ≤ y ∧ y ≤ 255) : RB (w.alloc (.cells #[.int .u8 y] 5)) (some ⟨w.heap.size, 0, none⟩) [y] := by
  refine ⟨fun z hz => ?_, Or.inr ⟨w.heap.size, 0, rfl, fun i hi => ?_⟩⟩
  · simp at hz; subst hz; exact hy
  · simp at hi; subst hi; simp

theorem OB.nilrow (w : World) (base : Nat) : OB w base (.slice none 0 0) [] := ⟨⟨rfl, Or.inl ⟨rfl, rfl⟩⟩, by simp⟩
theorem ne_lt {w : World} {base : Nat} {v : Value} {l : List Int} (h : OB w base v l) {m : Nat} (hm : w.heap.size ≤ m) : v.ownBlock ≠ some m := fun e => by have := (OB.at h _ e).2; omega
theorem ne_hat {v v' : Value} {k m : Nat} (hat : v'.ownBlock = v.ownBlock ∨ v'.ownBlock = some k) (h : v.ownBlock ≠ some m) (hk : k ≠ m) : v'.ownBlock ≠ some m := fun e => by
  rcases hat with h1 | h1
  · exact h (h1 ▸ e)
  · rw [h1] at e; exact hk (by simpa using e)
theorem RB.grownAt {w w' : World} {g : Option Nat} {m : Nat} {l : List Int} (h : RB w (some ⟨m, 0, none⟩) l) (hg : w.grownBy w' g) (hne : g ≠ some m) : RB w' (some ⟨m, 0, none⟩) l :=
  h.grown hg (by rintro b off e _ rfl; cases e; exact hne rfl)
/-- A call that writes only a row of the call's own, from block B on, leaves all below B. -/
theorem below_grown {w0 w w' : World} {g : Option Nat} {B : Nat} (h : Below B w0 w) (hB : B ≤ w.heap.size) (hg : w.grownBy w' g) (hgB : ∀ b, g = some b → B ≤ b) : Below B w0 w' := h.grown hg hB hgB
theorem OB.rbx {w : World} {base : Nat} {a : Option Addr} {n cap : Nat} {l : List Int} (h : OB w base (.slice a n cap) l) : RB w a l := by
  obtain ⟨a', cap', e, hr⟩ := h.rb
  simp only [Value.slice.injEq] at e
  rw [e.1]; exact hr
theorem below_same {w w' : World} (h : w' = w) : Below w.heap.size w w' := by rw [h]; exact Below.refl _ _
theorem below_drawn {w w' : World} {m : Nat} (h : w' = w.drewN m) : Below w.heap.size w w' := by rw [h]; exact below_drewN (Below.refl _ _) m

end Go.Proofs.Ytmiomnpfjigojaa
