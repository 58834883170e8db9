/- What a gather becomes whose bytes all lie in the first N places, when more of them are put: no fault, and they lie there still; a part of a stream can be read; no condition. -/
import Derived.Test.YtnbcefdfdonljaaRows
import Derived.Test.YtnbcefdfdonljaaBase
import Derived.Test.YtnbcefdfdonljaaBytes
import Derived.Test.YtnbcefdfdonljaaMem
import Derived.Test.YtnbcefdfdonljaaGath
import Derived.Test.YtnbcefdfdonljaaGathByte
import Derived.Test.YtnbcefdfdonljaaPMap
import Derived.Test.YtnbcefdfdonljaaPRun
import Derived.Test.YtnbcefdfdonljaaPPlaces
import Derived.Test.YtnbcefdfdonljaaPutDef
import Derived.Test.YtnbcefdfdonljaaPutFacts
import Derived.Test.YtnbcefdfdonljaaPImpl
import Derived.Test.YtnbcefdfdonljaaPieFacts
namespace Go.Proofs.Ytnbcefdfdonljaa
open Go.RowKit
set_option linter.unusedVariables false

theorem end_len : ∀ (ps : List Pc) (e : Int), pcsFault e ps = 0 → e + 2 * ps.length ≤ endOf e ps
  | [], e, _ => by simp [endOf]
  | p :: ps, e, h => by
    unfold pcsFault at h
    split at h
    · contradiction
    · rename_i hp
      obtain ⟨h1, h2, h3, h4⟩ := pcFault_ok (by simpa using hp)
      have ih := end_len ps _ h
      show _ ≤ endOf (p.1 + p.2.1.length) ps
      simp only [List.length_cons]
      push_cast
      omega
theorem pcsTo_stay {mm : Int → Option Int} {d j : Nat} (h : ∀ y : Int, ((d + j : Nat) : Int) ≤ y → mm y = none) : ∀ i, pcsTo mm d (j + i) = pcsTo mm d j
  | 0 => rfl
  | i + 1 => by
    have := pcsTo_stay h i
    rw [show j + (i + 1) = (j + i) + 1 by omega, pcsTo_none (h _ (by omega)), this]
theorem put_in {g : Gt} {N : Nat} (hN : N ≤ 60) (hF : gtFault g = 0) (hi : ∀ y : Int, (N : Int) ≤ y → gtByte g y = none) {x : Int} {l : List Int} (hx0 : 0 ≤ x) (hx1 : x + l.length ≤ N) {d : Nat} (hd : FirstGap (putM (gtByte g) x l) d) :
    gtFault (putG (putM (gtByte g) x l) d) = 0 ∧ ∀ y : Int, (N : Int) ≤ y → gtByte (putG (putM (gtByte g) x l) d) y = none := by
  have hm : ∀ y : Int, (N : Int) ≤ y → putM (gtByte g) x l y = none := fun y hy => by
    unfold putM; rw [hi y hy]; simp only; rw [if_neg (by omega)]
  have hlo : ∀ y, y < 0 → putM (gtByte g) x l y = none := fun y hy => by
    unfold putM; rw [gt_lo hF hy]; simp only; rw [if_neg (by omega)]
  have hdN : d ≤ N := by
    apply Classical.byContradiction; intro hn
    have := hd.all N (by omega)
    rw [hm _ (Int.le_refl _)] at this; cases this
  have hst := pcsTo_stay (mm := putM (gtByte g) x l) (d := d) (j := N - d) (fun y hy => hm y (by omega)) (400 - N)
  rw [show N - d + (400 - N) = 400 - d by omega] at hst
  obtain ⟨i1, i2, -⟩ := pcsTo_facts hd.gap (N - d) (by omega)
  have i3 := end_len _ _ i1
  have h40 : (putG (putM (gtByte g) x l) d).2.1.length ≤ 40 := by
    show (pcsTo _ d (400 - d)).length ≤ 40
    rw [hst]; omega
  exact ⟨putG_fault hd h40, fun y hy => by rw [putG_byte hd hlo (fun z hz => hm z (by omega)), hm y hy]⟩
theorem rb_part {w : World} {b off : Nat} {l : List Int} (h : RB w (some ⟨b, off, none⟩) l) (a n : Nat) (hle : a + n ≤ l.length) : RB w (some ⟨b, off + a, none⟩) ((l.drop a).take n) := by
  refine ⟨fun x hx => h.bd x (List.mem_of_mem_drop (List.mem_of_mem_take hx)), ?_⟩
  rcases h.mem with e | ⟨b', off', e, hc⟩
  · subst e; simp
  · cases e
    refine Or.inr ⟨b, off + a, rfl, fun i hi => ?_⟩
    have hi2 : i < n := by simp at hi; omega
    rw [show off + a + i = off + (a + i) by omega, hc (a + i) (by omega), List.getD_eq_getElem?_getD, List.getD_eq_getElem?_getD, List.getElem?_take_of_lt hi2, List.getElem?_drop]
theorem part_rd {w : World} {base b n cap : Nat} {S : List Int} (h : OB w base (.slice (some ⟨b, 0, none⟩) n cap) S) {x m : Nat} (hx : x + m ≤ n) {B : Nat} (hB : w.heap.size ≤ B) : u8s.Rd w B ((S.drop x).take m) [.slice (some ⟨b, x, none⟩) m (cap - x)] ∧ ((S.drop x).take m).length = m := by
  obtain ⟨a', c', e, hr⟩ := h.rb
  simp only [Value.slice.injEq] at e
  obtain ⟨rfl, rfl, rfl⟩ := e
  have hl : ((S.drop x).take m).length = m := by simp; omega
  obtain ⟨-, ⟨e, -⟩ | ⟨g, cp, cur, e, -, -, h3, h4, -⟩⟩ := h.own
  · cases e
  · simp only [Value.slice.injEq] at e
    obtain ⟨-, -, rfl⟩ := e
    have r := rb_part hr x m hx
    rw [Nat.zero_add] at r
    have := bytes_rd (cap := cap - x) r (by intro e; cases e) ⟨by omega, by omega⟩ hB
    rw [hl] at this
    exact ⟨this, hl⟩
end Go.Proofs.Ytnbcefdfdonljaa
