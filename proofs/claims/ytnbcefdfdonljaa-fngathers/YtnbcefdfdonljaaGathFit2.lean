/- A gather without a fault fits a stream just where what is Done is its beginning and each piece is what the stream has there; no condition. -/
import Derived.Test.YtnbcefdfdonljaaRows
import Derived.Test.YtnbcefdfdonljaaBase
import Derived.Test.YtnbcefdfdonljaaBytes
import Derived.Test.YtnbcefdfdonljaaMem
import Derived.Test.YtnbcefdfdonljaaGath
import Derived.Test.YtnbcefdfdonljaaImplGath
import Derived.Test.YtnbcefdfdonljaaSpecGath
import Derived.Test.YtnbcefdfdonljaaGathByte
import Derived.Test.YtnbcefdfdonljaaGathFits
namespace Go.Proofs.Ytnbcefdfdonljaa
open Go.RowKit
set_option linter.unusedVariables false

theorem pcsByte_in : ∀ (ps : List Pc) (e : Int), pcsFault e ps = 0 → ∀ i (hi : i < ps.length) (x : Int), ps[i].1 ≤ x → x ≤ ps[i].1 + ps[i].2.1.length - 1 → pcsByte ps x = some (ps[i].2.1.getD (x - ps[i].1).toNat 0) ∧ e < x
  | [], e, h, i, hi, x, _, _ => by simp at hi
  | p :: ps, e, h, i, hi, x, h1, h2 => by
    have h0 : (if pcFault p.1 p.2.1.length e ≠ 0 then pcFault p.1 p.2.1.length e else pcsFault (p.1 + p.2.1.length) ps) = 0 := h
    by_cases hz : pcFault p.1 p.2.1.length e = 0
    · rw [if_neg (by simp [hz])] at h0
      obtain ⟨z1, z2, z3, z4⟩ := pcFault_ok hz
      match i with
      | 0 =>
        have h1' : p.1 ≤ x := h1
        have h2' : x ≤ p.1 + p.2.1.length - 1 := h2
        refine ⟨?_, by omega⟩
        show (if p.1 ≤ x ∧ x ≤ p.1 + p.2.1.length - 1 then _ else _) = _
        rw [if_pos ⟨h1', h2'⟩]; rfl
      | i + 1 =>
        obtain ⟨q1, q2⟩ := pcsByte_in ps _ h0 i (by simpa using hi) x h1 h2
        refine ⟨?_, by omega⟩
        show (if p.1 ≤ x ∧ x ≤ p.1 + p.2.1.length - 1 then _ else pcsByte ps x) = _
        rw [if_neg (by omega), q1]; rfl
    · rw [if_pos hz] at h0; exact absurd h0 hz

theorem pcsByte_of : ∀ (ps : List Pc) (x b : Int), pcsByte ps x = some b → ∃ i, ∃ hi : i < ps.length, ps[i].1 ≤ x ∧ x ≤ ps[i].1 + ps[i].2.1.length - 1 ∧ b = ps[i].2.1.getD (x - ps[i].1).toNat 0
  | [], x, b, h => by cases h
  | p :: ps, x, b, h => by
    have h0 : (if p.1 ≤ x ∧ x ≤ p.1 + p.2.1.length - 1 then some (p.2.1.getD (x - p.1).toNat 0) else pcsByte ps x) = some b := h
    by_cases hc : p.1 ≤ x ∧ x ≤ p.1 + p.2.1.length - 1
    · rw [if_pos hc] at h0
      exact ⟨0, by simp, hc.1, hc.2, by simpa using h0.symm⟩
    · rw [if_neg hc] at h0
      obtain ⟨i, hi, r⟩ := pcsByte_of ps x b h0
      exact ⟨i + 1, by simpa using hi, r⟩

theorem fitAt_some {g : Gt} {l : List Int} {k : Nat} {b : Int} (h : fitAt g l k = true) (hb : gtByte g k = some b) : k < l.length ∧ l.getD k 0 = b := by
  unfold fitAt at h
  rw [hb] at h
  simpa using h

theorem pcsFault_of {g : Gt} (h : gtFault g = 0) : pcsFault g.1.length g.2.1 = 0 := by
  unfold gtFault at h
  split at h
  · omega
  · exact h

theorem fit_pre {g : Gt} {l : List Int} (hF : gtFault g = 0) (h : FitP g l) : g.1.length ≤ l.length ∧ l.take g.1.length = g.1 := by
  obtain ⟨d1, d2, d3⟩ := gtFault_ok hF
  have key : ∀ j (hj : j < g.1.length), j < l.length ∧ l.getD j 0 = g.1.getD j 0 := by
    intro j hj
    refine fitAt_some (h j (by omega)) ?_
    unfold gtByte
    rw [if_pos (by omega)]; simp
  have hle : g.1.length ≤ l.length := by
    rcases Nat.eq_zero_or_pos g.1.length with h0 | h0
    · omega
    · have := (key (g.1.length - 1) (by omega)).1; omega
  refine ⟨hle, List.ext_getElem (by simp; omega) fun j h1 h2 => ?_⟩
  have := (key j h2).2
  rw [List.getElem_take]
  simpa [List.getD_eq_getElem?_getD, List.getElem?_eq_getElem h2, List.getElem?_eq_getElem (show j < l.length by omega)] using this

theorem fit_pc {g : Gt} {l : List Int} (hF : gtFault g = 0) (h : FitP g l) (i : Nat) (hi : i < g.2.1.length) : g.2.1[i].1 + g.2.1[i].2.1.length ≤ l.length ∧ (l.drop g.2.1[i].1.toNat).take g.2.1[i].2.1.length = g.2.1[i].2.1 := by
  obtain ⟨d1, d2, d3⟩ := gtFault_ok hF
  obtain ⟨o1, o2, o3⟩ := d3 i hi
  have key : ∀ j (hj : j < g.2.1[i].2.1.length), g.2.1[i].1.toNat + j < l.length ∧ l.getD (g.2.1[i].1.toNat + j) 0 = g.2.1[i].2.1.getD j 0 := by
    intro j hj
    refine fitAt_some (h _ (by omega)) ?_
    obtain ⟨q1, q2⟩ := pcsByte_in _ _ (pcsFault_of hF) i hi (g.2.1[i].1 + j) (by omega) (by omega)
    have e1 : ((g.2.1[i].1.toNat + j : Nat) : Int) = g.2.1[i].1 + j := by omega
    unfold gtByte
    rw [e1, if_neg (by omega), q1]
    congr 2; omega
  have hle : g.2.1[i].1 + g.2.1[i].2.1.length ≤ l.length := by
    have := (key (g.2.1[i].2.1.length - 1) (by omega)).1; omega
  refine ⟨hle, List.ext_getElem (by simp; omega) fun j h1 h2 => ?_⟩
  have := (key j h2).2
  rw [List.getElem_take, List.getElem_drop]
  simpa [List.getD_eq_getElem?_getD, List.getElem?_eq_getElem h2, List.getElem?_eq_getElem (show g.2.1[i].1.toNat + j < l.length by omega)] using this

theorem fit_of {g : Gt} {l : List Int} (hF : gtFault g = 0) (hp : g.1.length ≤ l.length ∧ l.take g.1.length = g.1)
    (hq : ∀ i (hi : i < g.2.1.length), g.2.1[i].1 + g.2.1[i].2.1.length ≤ l.length ∧ (l.drop g.2.1[i].1.toNat).take g.2.1[i].2.1.length = g.2.1[i].2.1) : FitP g l := by
  obtain ⟨d1, d2, d3⟩ := gtFault_ok hF
  intro k hk
  unfold fitAt
  cases hb : gtByte g k with
  | none => rfl
  | some b =>
    simp only
    unfold gtByte at hb
    by_cases hin : 0 ≤ (k : Int) ∧ (k : Int) ≤ (g.1.length : Int) - 1
    · rw [if_pos hin] at hb
      simp at hb
      have hk2 : k < g.1.length := by omega
      have : (l.take g.1.length)[k]? = g.1[k]? := by rw [hp.2]
      rw [List.getElem?_take_of_lt hk2] at this
      simp [List.getD_eq_getElem?_getD, this, hb]; omega
    · rw [if_neg hin] at hb
      obtain ⟨i, hi, r1, r2, r3⟩ := pcsByte_of _ _ _ hb
      obtain ⟨s1, s2⟩ := hq i hi
      obtain ⟨o1, o2, o3⟩ := d3 i hi
      obtain ⟨j, hj⟩ : ∃ j : Nat, (k : Int) = g.2.1[i].1 + j := ⟨((k : Int) - g.2.1[i].1).toNat, by omega⟩
      have hjl : j < g.2.1[i].2.1.length := by omega
      have : ((l.drop g.2.1[i].1.toNat).take g.2.1[i].2.1.length)[j]? = g.2.1[i].2.1[j]? := by rw [s2]
      rw [List.getElem?_take_of_lt hjl, List.getElem?_drop, show g.2.1[i].1.toNat + j = k by omega] at this
      rw [show ((k : Int) - g.2.1[i].1).toNat = j by omega] at r3
      simp [List.getD_eq_getElem?_getD, this, r3]; omega
end Go.Proofs.Ytnbcefdfdonljaa
