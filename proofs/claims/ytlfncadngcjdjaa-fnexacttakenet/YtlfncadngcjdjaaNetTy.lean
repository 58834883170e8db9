/- Blocks and their types; a box that is as it was; no condition. -/
import Derived.Test.YtlfncadngcjdjaaRows
import Derived.Test.YtlfncadngcjdjaaBase
import Derived.Test.YtlfncadngcjdjaaBytes
import Derived.Test.YtlfncadngcjdjaaMem
import Derived.Test.YtlfncadngcjdjaaMemOpen
import Derived.Test.YtlfncadngcjdjaaMemRow
import Derived.Test.YtlfncadngcjdjaaHBase
import Derived.Test.YtlfncadngcjdjaaHMark
import Derived.Test.YtlfncadngcjdjaaBox
import Derived.Test.YtlfncadngcjdjaaSubBox
import Derived.Test.YtlfncadngcjdjaaAgg
import Derived.Test.YtlfncadngcjdjaaElMark
import Derived.Test.YtlfncadngcjdjaaMSegs
import Derived.Test.YtlfncadngcjdjaaRegionU
import Derived.Test.YtlfncadngcjdjaaHSegs
import Derived.Test.YtlfncadngcjdjaaAppBytes
import Derived.Test.YtlfncadngcjdjaaApp
import Derived.Test.YtlfncadngcjdjaaMemApp
import Derived.Test.YtlfncadngcjdjaaSeg
import Derived.Test.YtlfncadngcjdjaaSegFS
import Derived.Test.YtlfncadngcjdjaaSegFI
import Derived.Test.YtlfncadngcjdjaaStrip
import Derived.Test.YtlfncadngcjdjaaRegS
import Derived.Test.YtlfncadngcjdjaaHBool
import Derived.Test.YtlfncadngcjdjaaHSegT
import Derived.Test.YtlfncadngcjdjaaNetSeg
import Derived.Test.YtlfncadngcjdjaaNetDef
import Derived.Test.YtlfncadngcjdjaaNetSpF
import Derived.Test.YtlfncadngcjdjaaNetImF
import Derived.Test.YtlfncadngcjdjaaHNet
import Derived.Test.YtlfncadngcjdjaaNetBx
import Derived.Test.YtlfncadngcjdjaaNetSpC
import Derived.Deep.RegionHeld3
import Derived.Deep.DeepCutAuto
import Derived.Deep.DeepMust
import Derived.Deep.MidRow
namespace Go.Proofs.Ytlfncadngcjdjaa
open Go.RowKit
set_option linter.unusedVariables false
set_option maxRecDepth 8000
theorem sets_tyN {g : Nat} {t : TypeId} : ∀ (vs : List Value) (w : World) (k : Nat), (∃ cur, w.heap[g]? = some (.cells cur t (0, 0))) → ∃ cur, (w.setCells g k vs).heap[g]? = some (.cells cur t (0, 0))
  | [], _, _, h => h
  | v :: vs, w, k, ⟨cur, h⟩ => sets_tyN vs (w.setCell ⟨g, k, none⟩ v) (k + 1) ⟨_, heap_set h⟩
theorem al_tyN (W : World) (A : Array Value) (t : TypeId) (vs : List Value) : ∃ cur, ((W.alloc (.cells A t)).setCells W.heap.size 0 vs).heap[W.heap.size]? = some (.cells cur t (0, 0)) := sets_tyN vs _ 0 ⟨A, al_at W _⟩
/-- A box is as it was, and all below a place. -/
structure SB1 (wr : World) (lo p : Nat) (Q : Array Value) (w' : World) : Prop where
  bl : Below lo wr w'
  sz : wr.heap.size ≤ w'.heap.size
  k0 : ∀ o, w'.cell? ⟨p, o, none⟩ = Q[o]?
theorem SB1.below {wr wc wn : World} {lo p : Nat} {Q : Array Value} (h : SB1 wr lo p Q wc) (hb : Below wc.heap.size wc wn) (h0 : p < wr.heap.size) (h1 : lo ≤ wr.heap.size) : SB1 wr lo p Q wn :=
  ⟨h.bl.trans (hb.mono (Nat.le_trans h1 h.sz)), Nat.le_trans h.sz hb.size, bx_below h.k0 (Nat.lt_of_lt_of_le h0 h.sz) hb⟩
theorem SB1.drew {wr wc : World} {lo p : Nat} {Q : Array Value} (h : SB1 wr lo p Q wc) : SB1 wr lo p Q wc.drew := ⟨h.bl.drew, h.sz, h.k0⟩
theorem SB1.alloc {wr wc : World} {lo p : Nat} {Q : Array Value} (h : SB1 wr lo p Q wc) (o : Obj) (h0 : p < wr.heap.size) (h1 : lo ≤ wr.heap.size) : SB1 wr lo p Q (wc.alloc o) := h.below ((Below.refl _ _).alloc (Nat.le_refl _) _) h0 h1
theorem ty_frz {w : World} {p : Nat} {t : TypeId} (h : ∃ cur, w.heap[p]? = some (.cells cur t (0, 0))) : ∀ o, w.frozen? ⟨p, o, none⟩ = false := fun o => by obtain ⟨cur, h⟩ := h; simp [World.frozen?, h]
theorem ty_below {w w' : World} {p : Nat} {t : TypeId} (h : ∃ cur, w.heap[p]? = some (.cells cur t (0, 0))) (hb : w'.heap[p]? = w.heap[p]?) : ∃ cur, w'.heap[p]? = some (.cells cur t (0, 0)) := by obtain ⟨cur, h⟩ := h; exact ⟨cur, hb.trans h⟩
theorem ty_ne {w : World} {lo hi p : Nat} {l : List DSegm} {v : Value} (h : Own w lo hi shSegms l [v]) (ht : ∃ cur, w.heap[p]? = some (.cells cur 27 (0, 0))) : v.ownBlock ≠ some p := fun e => by
  obtain ⟨c, h1⟩ := Own.bty h e
  obtain ⟨c', h2⟩ := ht
  rw [h1] at h2
  simp at h2
theorem own_setp {w : World} {lo hi p k : Nat} {v : Value} {l : List DSegm} {cs : List Value} (h : Own w lo hi shSegms l cs) (ht : ∃ cur, w.heap[p]? = some (.cells cur 27 (0, 0))) : Own (w.setCell ⟨p, k, none⟩ v) lo hi shSegms l cs := by
  obtain ⟨c, h1⟩ := ht
  exact Own.off h h1 (by decide) (fun b _ _ hne => Below.heap_setCell _ _ _ _ (by dsimp only; exact hne))
theorem own_some {w : World} {lo hi : Nat} {l : List DSegm} {a : Option Addr} {n c : Nat} (h : Own w lo hi shSegms l [.slice a n c]) (hl : 0 < l.length) : ∃ g, a = some ⟨g, 0, none⟩ := by
  obtain ⟨bs, h1, -⟩ := h
  rcases h1 with ⟨_, _, e⟩ | ⟨g, cap, cur, F, e1, -⟩
  · rw [e] at hl; simp at hl
  · simp only [List.cons.injEq, Value.slice.injEq, and_true] at e1
    exact ⟨g, e1.1⟩
end Go.Proofs.Ytlfncadngcjdjaa
