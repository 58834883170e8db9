/- Structs of any number of cells as one value: what a load and a store of one whole makes of memory; no condition. -/
import Derived.Test.YtnbcefdfdonljaaRows
import Derived.Test.YtnbcefdfdonljaaBase
import Derived.Test.YtnbcefdfdonljaaBytes
import Derived.Test.YtnbcefdfdonljaaMem
import Derived.Test.YtnbcefdfdonljaaMemOpen
import Derived.Test.YtnbcefdfdonljaaMemRow
import Derived.Test.YtnbcefdfdonljaaHBase
import Derived.Test.YtnbcefdfdonljaaBox
import Derived.Test.YtnbcefdfdonljaaSubBox
import Derived.Deep.MidRow
namespace Go.Proofs.Ytnbcefdfdonljaa
open Go.RowKit
set_option linter.unusedVariables false

/-- Every cell of what reads is one cell. -/
theorem rd_one {w : World} {B : Nat} : ∀ (s : Sh) (d : s.El) (cs : List Value), s.Rd w B d cs → ∀ v ∈ cs, v.oneCell' = true
  | .int k, d, cs, h => by rw [h.1]; intro v hv; simp at hv; subst hv; rfl
  | .bool, d, cs, h => by have h' : cs = [.bool d] := h; rw [h']; intro v hv; simp at hv; subst hv; rfl
  | .row _ e, d, cs, ⟨a, cap, h1, _⟩ => by rw [h1]; intro v hv; simp at hv; subst hv; rfl
  | .rowO _ e, d, cs, ⟨a, cap, h1, _⟩ => by rw [h1]; intro v hv; simp at hv; subst hv; rfl
  | .nil, d, cs, h => by have h' : cs = [] := h; rw [h']; intro v hv; simp at hv
  | .cons f r, d, cs, ⟨c1, c2, h1, h2, h3⟩ => by
    subst h1
    intro v hv
    rcases List.mem_append.1 hv with hv | hv
    · exact rd_one f _ _ h2 v hv
    · exact rd_one r _ _ h3 v hv
theorem rd_all {w : World} {B : Nat} {s : Sh} {d : s.El} {A : Array Value} (h : s.Rd w B d A.toList) : A.all (·.oneCell') = true :=
  Array.all_eq_true_iff_forall_mem.2 (fun v hv => rd_one s d _ h v (by simpa using hv))
theorem rd_size {w : World} {B : Nat} {s : Sh} {d : s.El} {A : Array Value} (h : s.Rd w B d A.toList) : A.size = s.sz := by
  have := Sh.Rd.len s d _ h
  simpa using this

theorem bx_range {w : World} {b : Nat} {A : Array Value} (h : ∀ o, w.cell? ⟨b, o, none⟩ = A[o]?) : w.rangeAt b 0 A.toList := fun j v hv => by
  rw [Nat.zero_add, h j, ← Array.getElem?_toList]; exact hv
theorem bx_there {w : World} {b n : Nat} {A : Array Value} (h : ∀ o, w.cell? ⟨b, o, none⟩ = A[o]?) (hf : ∀ o, w.frozen? ⟨b, o, none⟩ = false) (hn : n = A.size) : w.there b 0 n := fun j hj => by
  refine ⟨?_, hf _⟩
  rw [Nat.zero_add, h j, Array.getElem?_eq_getElem (by omega)]; rfl
theorem setCells_block {b g : Nat} (hg : g ≠ b) : ∀ (vs : List Value) (w : World) (k : Nat), (w.setCells b k vs).heap[g]? = w.heap[g]?
  | [], _, _ => rfl
  | v :: vs, w, k => (setCells_block hg vs (w.setCell ⟨b, k, none⟩ v) (k + 1)).trans (Below.heap_setCell _ _ _ _ (by dsimp only; exact hg))
theorem setCells_size {b : Nat} : ∀ (vs : List Value) (w : World) (k : Nat), (w.setCells b k vs).heap.size = w.heap.size
  | [], _, _ => rfl
  | v :: vs, w, k => (setCells_size vs (w.setCell ⟨b, k, none⟩ v) (k + 1)).trans (by simp)
theorem setCells_below {b B : Nat} (hB : B ≤ b) : ∀ (vs : List Value) (w w0 : World) (k : Nat), Below B w0 w → Below B w0 (w.setCells b k vs)
  | [], _, _, _, h => h
  | v :: vs, w, w0, k, h => setCells_below hB vs _ w0 (k + 1) (h.setCell (p := ⟨b, k, none⟩) hB v)
/-- A box that is stored whole. -/
theorem bx_setCells {w : World} {b : Nat} {A A' : Array Value} (h : ∀ o, w.cell? ⟨b, o, none⟩ = A[o]?) (hs : A'.size = A.size) : ∀ o, (w.setCells b 0 A'.toList).cell? ⟨b, o, none⟩ = A'[o]? := fun o => by
  by_cases ho : o < A'.size
  · have := World.cell?_setCells_in b A'.toList 0 w (fun j hj => by
      rw [Nat.zero_add, h j, Array.getElem?_eq_getElem (by simp at hj; omega)]; rfl) o (by simpa using ho)
    rw [Nat.zero_add] at this
    rw [this, Array.getElem?_eq_getElem ho]
    simp
  · rw [World.cell?_setCells_out b A'.toList 0 w ⟨b, o, none⟩ (fun _ _ => Or.inr (by simp; omega)), h o, Array.getElem?_eq_none (by omega), Array.getElem?_eq_none (by omega)]
theorem bx_setOff {w : World} {b b' k : Nat} {vs : List Value} {A : Array Value} (h : ∀ o, w.cell? ⟨b, o, none⟩ = A[o]?) (hne : b ≠ b') : ∀ o, (w.setCells b' k vs).cell? ⟨b, o, none⟩ = A[o]? := fun o => by
  rw [World.cell?_setCells_out b' vs k w ⟨b, o, none⟩ (fun e _ => absurd e hne)]; exact h o
theorem fx_sets {w : World} {b b' k : Nat} {vs : List Value} (h : ∀ o, w.frozen? ⟨b, o, none⟩ = false) : ∀ o, (w.setCells b' k vs).frozen? ⟨b, o, none⟩ = false := fun o => by
  rw [World.frozen?_setCells]; exact h o
theorem bx_al (w : World) (A : Array Value) (t : TypeId) : ∀ o, (w.alloc (.cells A t)).cell? ⟨w.heap.size, o, none⟩ = A[o]? := fun o => by simp [go_sem]
theorem fx_al (w : World) (A : Array Value) (t : TypeId) : ∀ o, (w.alloc (.cells A t)).frozen? ⟨w.heap.size, o, none⟩ = false := fun o => by simp [go_sem]
/-- Element k of a row that reads: its cells lie there as one range. -/
theorem row_at {w : World} {B : Nat} {t : TypeId} {e : Sh} {l : List e.El} {a : Option Addr} {n cap : Nat} (h : (Sh.row t e).Rd w B l [.slice a n cap]) (k : Nat) (hk : k < l.length) :
    ∃ b off cs, a = some ⟨b, off, none⟩ ∧ b < B ∧ cs.length = e.sz ∧ w.rangeAt b (off + k * e.sz) cs ∧ e.Rd w B l[k] cs := by
  obtain ⟨a', cap', h1, h2, h3, b, off, h4, h5⟩ := h
  simp only [List.cons.injEq, Value.slice.injEq, and_true] at h1
  obtain ⟨rfl, rfl, rfl⟩ := h1
  obtain ⟨ea, hb⟩ := h4 (by intro e; subst e; simp at hk)
  obtain ⟨cs, g1, g2, g3⟩ := h5 k hk
  refine ⟨b, off, cs, ea, hb, g1, fun j v hv => ?_, g3⟩
  have hj : j < cs.length := (List.getElem?_eq_some_iff.1 hv).1
  rw [g2 j (by omega)]; exact hv
theorem range_below {w w' : World} {C b o : Nat} {cs : List Value} (h : w.rangeAt b o cs) (hb : Below C w w') (hlt : b < C) : w'.rangeAt b o cs := fun j v hv => by
  rw [hb.cell (p := ⟨b, o + j, none⟩) hlt]; exact h j v hv
/-- What is read of a box that holds the answer. -/
theorem results_box {P : Program} {fn : Func} {p : Tmp} {ty : TypeId} (h : fn.results = #[.cell p ty]) (tmps : Array Value) (w : World) (b : Nat) (A : Array Value) (d : TypeDesc)
    (hp : tmps.getD p undef = .pointer (some ⟨b, 0, none⟩)) (hj : ∀ o, w.cell? ⟨b, o, none⟩ = A[o]?) (hu : P.underlying ty = some d) (hd : d.isRow = true) (hi : (P.info? ty).map (·.size) = some A.size) :
    (results fn tmps).run P w = .ok (.agg A) w := by
  have hp' : tmps[p]?.getD undef = .pointer (some ⟨b, 0, none⟩) := by simpa using hp
  simp [results, h, hp', asAddr, run_loadVar_mid w b 0 ty A.toList d (bx_range hj) hu hd (by simpa using hi)]
theorem get_of {A : Array Value} {l : List Value} (h : A.toList = l) (j : Nat) : A[j]? = l[j]? := by rw [← h, Array.getElem?_toList]
theorem arr_of {A : Array Value} {l : List Value} (h : A.toList = l) : A = l.toArray := by rw [← h]
end Go.Proofs.Ytnbcefdfdonljaa
