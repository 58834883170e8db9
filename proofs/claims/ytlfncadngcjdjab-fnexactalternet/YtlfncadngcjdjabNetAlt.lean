/- A byte of a segment in a row of the call's own is turned; no condition. Written by mknet14.py. -/
import Derived.Test.YtlfncadngcjdjabRows
import Derived.Test.YtlfncadngcjdjabBase
import Derived.Test.YtlfncadngcjdjabBytes
import Derived.Test.YtlfncadngcjdjabMem
import Derived.Test.YtlfncadngcjdjabMemOpen
import Derived.Test.YtlfncadngcjdjabMemRow
import Derived.Test.YtlfncadngcjdjabHBase
import Derived.Test.YtlfncadngcjdjabHMark
import Derived.Test.YtlfncadngcjdjabBox
import Derived.Test.YtlfncadngcjdjabSubBox
import Derived.Test.YtlfncadngcjdjabAgg
import Derived.Test.YtlfncadngcjdjabElMark
import Derived.Test.YtlfncadngcjdjabMSegs
import Derived.Test.YtlfncadngcjdjabRegionU
import Derived.Test.YtlfncadngcjdjabHSegs
import Derived.Test.YtlfncadngcjdjabAppBytes
import Derived.Test.YtlfncadngcjdjabApp
import Derived.Test.YtlfncadngcjdjabMemApp
import Derived.Test.YtlfncadngcjdjabSeg
import Derived.Test.YtlfncadngcjdjabSegFS
import Derived.Test.YtlfncadngcjdjabSegFI
import Derived.Test.YtlfncadngcjdjabStrip
import Derived.Test.YtlfncadngcjdjabRegS
import Derived.Test.YtlfncadngcjdjabHBool
import Derived.Test.YtlfncadngcjdjabHSegT
import Derived.Test.YtlfncadngcjdjabNetSeg
import Derived.Test.YtlfncadngcjdjabNetDef
import Derived.Test.YtlfncadngcjdjabNetSpF
import Derived.Test.YtlfncadngcjdjabNetImF
import Derived.Test.YtlfncadngcjdjabHNet
import Derived.Test.YtlfncadngcjdjabNetBx
import Derived.Test.YtlfncadngcjdjabNetDef2
import Derived.Test.YtlfncadngcjdjabNetR
import Derived.Deep.RegionHeld3
import Derived.Deep.DeepCutAuto
import Derived.Deep.DeepMust
import Derived.Deep.MidRow
namespace Go.Proofs.Ytlfncadngcjdjab
open Go.RowKit
set_option linter.unusedVariables false
set_option maxRecDepth 8000
def ldOf : DSegm → List Int
  | (_, _, _, _, _, _, _, _, _, _, _, ld, _) => ld
def altSg : DSegm → Nat → Int → DSegm
  | (y0, y1, y2, y3, y4, y5, y6, y7, y8, y9, y10, ld, _), p, v => (y0, y1, y2, y3, y4, y5, y6, y7, y8, y9, y10, ld.set p v, ())
theorem tot_ld (x : DSegm) : totSegm x = (ldOf x).length := rfl
theorem tot_alt (x : DSegm) (p : Nat) (v : Int) : totSegm (altSg x p v) = totSegm x := by
  obtain ⟨y0, y1, y2, y3, y4, y5, y6, y7, y8, y9, y10, ld, ⟨⟩⟩ := x
  show (ld.set p v).length = ld.length
  simp
theorem seg_load {w : World} {B : Nat} {x : DSegm} {cs : List Value} (h : shSegm.Rd w B x cs) : ∃ la lc, cs[11]? = some (.slice la (ldOf x).length lc) := by
  obtain ⟨y0, y1, y2, y3, y4, y5, y6, y7, y8, y9, y10, ld, ⟨⟩⟩ := x
  obtain ⟨u, e, r, -⟩ := rd_Segm h
  obtain ⟨la, lc, e2⟩ := row_form r
  simp only [List.cons.injEq, and_true] at e2
  subst e2
  exact ⟨la, lc, by rw [e]; rfl⟩
theorem bytes_set {w : World} {bs : List Nat} {l : List Int} {g n c i : Nat} {v : Int} (h : u8s.Ow w bs l [.slice (some ⟨g, 0, none⟩) n c]) (hi : i < l.length) (hv : (Lit.int .u8 v).wf = true) : (w.cell? ⟨g, i, none⟩ = some (.int .u8 l[i]) ∧ (∀ o, w.frozen? ⟨g, o, none⟩ = false)) ∧ g ∈ bs ∧ bs.Nodup ∧ u8s.Ow (w.setCell ⟨g, i, none⟩ (.int .u8 v)) bs (l.set i v) [.slice (some ⟨g, 0, none⟩) n c] := by
  rcases h with ⟨_, e, _⟩ | ⟨g', cap, cur, F, e1, rfl, h3, h4, h5, h6, h7, h8⟩
  · simp at e
  · simp only [List.cons.injEq, Value.slice.injEq, Option.some.injEq, Addr.mk.injEq, and_true] at e1
    obtain ⟨rfl, rfl, rfl⟩ := e1
    have hF : F.flatten = [] := by
      rw [List.flatten_eq_nil_iff]
      intro x hx
      obtain ⟨j, hj, rfl⟩ := List.getElem_of_mem hx
      have := (h8 j (by omega)).1
      rwa [List.getD_eq_getElem?_getD, List.getElem?_eq_getElem hj] at this
    have hsz : l.length ≤ cur.size := by rw [h6]; show l.length ≤ c * 1; omega
    have hcell : ∀ j (hj : j < l.length), cur[j]? = some (.int .u8 l[j]) := fun j hj => by
      obtain ⟨-, q, -⟩ := h8 j hj
      have hq : ((cur.toList.drop (j * 1)).take 1) = [.int .u8 l[j]] := q
      have q2 := congrArg (·[0]?) hq
      simpa [List.getElem?_take, List.getElem?_drop] using q2
    refine ⟨⟨by rw [cell_of_heap h3]; exact hcell i hi, fun o => by simp [World.frozen?, h3]⟩, by simp, by rw [hF]; simp, Or.inr ⟨g, c, cur.setIfInBounds i (.int .u8 v), F, by rw [List.length_set], rfl, heap_set h3, by rw [List.length_set]; exact h4, h5, by simpa using h6, by rw [List.length_set]; exact h7, fun j hj => ?_⟩⟩
    have hj2 : j < l.length := by simpa using hj
    refine ⟨(h8 j hj2).1, ?_, ?_⟩
    · show (((cur.setIfInBounds i (.int .u8 v)).toList.drop (j * 1)).take 1) = [.int .u8 (l.set i v)[j]]
      apply List.ext_getElem?
      intro q
      cases q with
      | zero =>
        have h1 := hcell j hj2
        by_cases e : i = j
        · subst e
          simp [List.getElem?_drop, List.getElem?_set]
          omega
        · simp [List.getElem?_drop, e]
          rw [← Array.getElem?_toList] at h1
          simpa using h1
      | succ q => simp [List.getElem?_take]
    · by_cases e : i = j
      · subst e; rw [List.getElem_set_self]; exact hv
      · rw [List.getElem_set_ne (by omega)]; exact (h8 j hj2).2.2
/-- A byte of element k turned in its place. -/
theorem own_alter {w : World} {lo hi : Nat} {bag : List DSegm} {a : Option Addr} {n c k p : Nat} (h : Own w lo hi shSegms bag [.slice a n c]) (hk : k < bag.length) (hp : p < (ldOf bag[k]).length) :
    ∃ g lb lc, a = some ⟨g, 0, none⟩ ∧ w.cell? ⟨g, k * 12 + 11, none⟩ = some (.slice (some ⟨lb, 0, none⟩) (ldOf bag[k]).length lc) ∧ w.cell? ⟨lb, p, none⟩ = some (.int .u8 (ldOf bag[k])[p]) ∧ (∀ o, w.frozen? ⟨lb, o, none⟩ = false) ∧ (lo ≤ lb ∧ lb < hi) ∧ (lo ≤ g ∧ g < hi) ∧
      ∀ v, (Lit.int .u8 v).wf = true → Own (w.setCell ⟨lb, p, none⟩ (.int .u8 v)) lo hi shSegms (bag.set k (altSg bag[k] p v)) [.slice a n c] := by
  obtain ⟨bs, h1, h2, h3⟩ := h
  obtain ⟨pg, cur, bk, ea, hpg, hcur, hsz, hbn, hel, hbk, hset⟩ := ow_elem h1 h2 k hk
  generalize bag[k] = x at *
  obtain ⟨y0, y1, y2, y3, y4, y5, y6, y7, y8, y9, y10, ld, ⟨⟩⟩ := x
  obtain ⟨u, ecs, hu⟩ := ow_Segm hel
  obtain ⟨-, -, -, w0, w1, w5, w6, w7, w8, w9, w10⟩ := rd_Segm (Sh.Ow.rd (Nat.le_refl _) _ _ _ _ hel)
  have hl0 : 0 < ld.length := Nat.lt_of_le_of_lt (Nat.zero_le _) hp
  obtain ⟨la, lc, e2⟩ := row_form (Sh.Ow.rd (Nat.le_refl _) _ _ _ _ hu)
  simp only [List.cons.injEq, and_true] at e2
  subst e2
  obtain ⟨lb, elb⟩ : ∃ lb, la = some ⟨lb, 0, none⟩ := by
    rcases hu with ⟨_, _, e⟩ | ⟨g, cap', cur', F, e1, -⟩
    · rw [e] at hl0; simp at hl0
    · simp only [List.cons.injEq, Value.slice.injEq, and_true] at e1
      exact ⟨g, e1.1⟩
  subst elb
  have hcell : w.cell? ⟨pg, k * 12 + 11, none⟩ = some (.slice (some ⟨lb, 0, none⟩) ld.length lc) := by
    rw [cell_of_heap hcur, ← Array.getElem?_toList]
    have q := chunk_get (xs := cur.toList) (sz := 12) (i := k) (j := 11) (by decide)
    rw [← q]
    have e3 : chunk cur.toList 12 k = _ := ecs
    rw [e3]; rfl
  obtain ⟨⟨c1, c2⟩, c3, -, -⟩ := bytes_set (v := 0) hu hp (by decide)
  refine ⟨pg, lb, lc, ea, hcell, c1, c2, h3 lb (hbk lb c3).1, h3 pg hpg, fun v hv => ⟨bs, ?_, h2, h3⟩⟩
  obtain ⟨-, -, -, c4⟩ := bytes_set hu hp hv
  have hne : lb ≠ pg := (hbk lb c3).2
  refine hset _ cur _ ((Below.heap_setCell _ _ _ _ (by dsimp only; exact Ne.symm hne)).trans hcur) rfl (fun i _ => rfl) ?_ (fun b hb h1 h2 => Below.heap_setCell _ _ _ _ (by dsimp only; intro e; subst e; exact h2 c3))
  have e3 : chunk cur.toList shSegm.sz k = _ := ecs
  rw [e3]
  exact mk_Segm c4 w0 w1 w5 w6 w7 w8 w9 w10
theorem xor_wf (a b : Int) : (Lit.int .u8 (bits .xor .u8 a b)).wf = true := by
  have h : 0 ≤ bits .xor .u8 a b ∧ bits .xor .u8 a b ≤ 255 := by unfold bits; rw [u8w]; omega
  generalize bits .xor .u8 a b = x at h
  simp [Lit.wf, IntKind.min, IntKind.max, IntKind.signed, IntKind.bits]
  omega
end Go.Proofs.Ytlfncadngcjdjab
