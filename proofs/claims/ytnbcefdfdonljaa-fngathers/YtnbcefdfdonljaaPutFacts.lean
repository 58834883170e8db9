/- The gather of the bytes at each place has just these bytes, and no fault but in how many pieces it has; no condition. -/
import Derived.Test.YtnbcefdfdonljaaRows
import Derived.Test.YtnbcefdfdonljaaBase
import Derived.Test.YtnbcefdfdonljaaBytes
import Derived.Test.YtnbcefdfdonljaaMem
import Derived.Test.YtnbcefdfdonljaaGath
import Derived.Test.YtnbcefdfdonljaaImplGath
import Derived.Test.YtnbcefdfdonljaaSpecGath
import Derived.Test.YtnbcefdfdonljaaGathByte
import Derived.Test.YtnbcefdfdonljaaPMap
import Derived.Test.YtnbcefdfdonljaaPRun
import Derived.Test.YtnbcefdfdonljaaPPlaces
import Derived.Test.YtnbcefdfdonljaaPutDef
namespace Go.Proofs.Ytnbcefdfdonljaa
open Go.RowKit Go.Maps
set_option linter.unusedVariables false

/-- Where the pieces behind e end. -/
def endOf : Int → List Pc → Int
  | e, [] => e
  | _, p :: ps => endOf (p.1 + p.2.1.length) ps
theorem endOf_snoc : ∀ (ps : List Pc) (p : Pc) (e : Int), endOf e (ps ++ [p]) = p.1 + p.2.1.length
  | [], p, e => rfl
  | q :: ps, p, e => endOf_snoc ps p _
theorem pcsFault_snoc : ∀ (ps : List Pc) (p : Pc) (e : Int), pcsFault e ps = 0 → pcFault p.1 p.2.1.length (endOf e ps) = 0 → pcsFault e (ps ++ [p]) = 0
  | [], p, e, _, h => by
    show (if pcFault p.1 p.2.1.length e ≠ 0 then _ else pcsFault _ []) = 0
    have h' : pcFault p.1 p.2.1.length e = 0 := h
    rw [if_neg (by simp [h'])]; rfl
  | q :: ps, p, e, h1, h2 => by
    have h0 : (if pcFault q.1 q.2.1.length e ≠ 0 then pcFault q.1 q.2.1.length e else pcsFault (q.1 + q.2.1.length) ps) = 0 := h1
    by_cases hz : pcFault q.1 q.2.1.length e = 0
    · rw [if_neg (by simp [hz])] at h0
      show (if pcFault q.1 q.2.1.length e ≠ 0 then _ else pcsFault _ (ps ++ [p])) = 0
      rw [if_neg (by simp [hz])]
      exact pcsFault_snoc ps p _ h0 h2
    · rw [if_pos hz] at h0; exact absurd h0 hz
theorem pcsFault_init : ∀ (ps : List Pc) (p : Pc) (e : Int), pcsFault e (ps ++ [p]) = 0 → pcsFault e ps = 0 ∧ pcFault p.1 p.2.1.length (endOf e ps) = 0
  | [], p, e, h => by
    have h0 : (if pcFault p.1 p.2.1.length e ≠ 0 then pcFault p.1 p.2.1.length e else pcsFault (p.1 + p.2.1.length) []) = 0 := h
    by_cases hz : pcFault p.1 p.2.1.length e = 0
    · exact ⟨rfl, hz⟩
    · rw [if_pos hz] at h0; exact absurd h0 hz
  | q :: ps, p, e, h => by
    have h0 : (if pcFault q.1 q.2.1.length e ≠ 0 then pcFault q.1 q.2.1.length e else pcsFault (q.1 + q.2.1.length) (ps ++ [p])) = 0 := h
    by_cases hz : pcFault q.1 q.2.1.length e = 0
    · rw [if_neg (by simp [hz])] at h0
      obtain ⟨r1, r2⟩ := pcsFault_init ps p _ h0
      refine ⟨?_, r2⟩
      show (if pcFault q.1 q.2.1.length e ≠ 0 then _ else pcsFault _ ps) = 0
      rw [if_neg (by simp [hz])]; exact r1
    · rw [if_pos hz] at h0; exact absurd h0 hz
theorem pcFault_mk {a : Int} {n : Nat} {e : Int} (h1 : 0 < n) (h2 : 0 ≤ a) (h3 : a + n ≤ 400) (h4 : e < a) : pcFault a n e = 0 := by
  unfold pcFault
  rw [if_neg (by omega), if_neg (by omega), if_neg (by omega)]

/-- The pieces that are found: no fault, and the bytes that are there. -/
theorem pcsTo_facts {mm : Int → Option Int} {d : Nat} (hgap : d < 400 → mm d = none) : ∀ (j : Nat), d + j ≤ 400 →
    pcsFault d (pcsTo mm d j) = 0 ∧ endOf d (pcsTo mm d j) ≤ ((d + j : Nat) : Int) ∧
    (0 < j → mm (((d + j : Nat) : Int) - 1) = none → endOf d (pcsTo mm d j) < ((d + j : Nat) : Int)) ∧
    (0 < j → (mm (((d + j : Nat) : Int) - 1)).isSome = true → ∃ P0 p, pcsTo mm d j = P0 ++ [p] ∧ p.1 + p.2.1.length = ((d + j : Nat) : Int)) ∧
    (∀ y : Int, pcsByte (pcsTo mm d j) y = if (d : Int) ≤ y ∧ y < ((d + j : Nat) : Int) then mm y else none)
  | 0, hj => by
    refine ⟨rfl, ?_, fun h => absurd h (by omega), fun h => absurd h (by omega), fun y => ?_⟩
    · show (d : Int) ≤ _; omega
    · show none = _; rw [if_neg (by omega)]
  | j + 1, hj => by
    obtain ⟨i1, i2, i3, i4, i5⟩ := pcsTo_facts hgap j (by omega)
    have e1 : (((d + (j + 1) : Nat) : Int) - 1) = ((d + j : Nat) : Int) := by omega
    rw [e1]
    cases hm : mm ((d + j : Nat) : Int) with
    | none =>
      rw [pcsTo_none hm]
      refine ⟨i1, by omega, fun _ _ => by omega, fun _ h => (by cases h), fun y => ?_⟩
      rw [i5 y]
      by_cases h1 : (d : Int) ≤ y ∧ y < ((d + j : Nat) : Int)
      · rw [if_pos h1, if_pos (by omega)]
      · rw [if_neg h1]
        by_cases h2 : y = ((d + j : Nat) : Int)
        · subst h2; rw [if_pos (by omega), hm]
        · rw [if_neg (by omega)]
    | some b =>
      have hj0 : 0 < j := by
        apply Classical.byContradiction; intro hn
        have : j = 0 := by omega
        subst this
        have := hgap (by omega)
        rw [show ((d + 0 : Nat) : Int) = (d : Int) by simp, this] at hm; cases hm
      have hst : pcsTo mm d (j + 1) = if (mm (((d + j : Nat) : Int) - 1)).isSome = true then addLast (pcsTo mm d j) b else pcsTo mm d j ++ [(((d + j : Nat) : Int), [b], ())] := by
        show stepP mm (d + j) _ = _
        unfold stepP
        rw [hm]
        simp only
        by_cases hs : (mm (((d + j : Nat) : Int) - 1)).isSome = true
        · rw [if_pos ⟨by omega, hs⟩, if_pos hs]
        · rw [if_neg (fun h => hs h.2), if_neg hs]
      by_cases hs : (mm (((d + j : Nat) : Int) - 1)).isSome = true
      · rw [if_pos hs] at hst
        obtain ⟨P0, p, hP, hend⟩ := i4 hj0 hs
        rw [hP, addLast_snoc] at hst
        rw [hP] at i1 i5
        obtain ⟨f1, f2⟩ := pcsFault_init _ _ _ i1
        obtain ⟨g1, g2, g3, g4⟩ := pcFault_ok f2
        rw [hst]
        have hl : (p.2.1 ++ [b]).length = p.2.1.length + 1 := by simp
        refine ⟨pcsFault_snoc _ _ _ f1 (pcFault_mk (by simp) g2 (by simp only; rw [hl]; omega) g4), ?_, fun _ h => (by cases h), fun _ _ => ⟨P0, _, rfl, by simp only; rw [hl]; omega⟩, fun y => ?_⟩
        · rw [endOf_snoc]; simp only; rw [hl]; omega
        · have h5 := i5 y
          rw [pcsByte_snoc] at h5 ⊢
          simp only at h5 ⊢
          rw [hl]
          cases hb0 : pcsByte P0 y with
          | some c =>
            rw [hb0] at h5
            simp only at h5 ⊢
            by_cases h1 : (d : Int) ≤ y ∧ y < ((d + j : Nat) : Int)
            · rw [if_pos h1] at h5; rw [if_pos (by omega)]; exact h5
            · rw [if_neg h1] at h5; cases h5
          | none =>
            rw [hb0] at h5
            simp only at h5 ⊢
            by_cases hy : y = ((d + j : Nat) : Int)
            · subst hy
              rw [if_pos (by omega), if_pos (by omega), hm, show (((d + j : Nat) : Int) - p.1).toNat = p.2.1.length by omega]
              simp
            · by_cases h1 : p.1 ≤ y ∧ y ≤ p.1 + p.2.1.length - 1
              · rw [if_pos h1] at h5
                rw [if_pos (by omega)]
                have hlt : (y - p.1).toNat < p.2.1.length := by omega
                have hge : (p.2.1 ++ [b]).getD (y - p.1).toNat 0 = p.2.1.getD (y - p.1).toNat 0 := by simp [List.getD_eq_getElem?_getD, List.getElem?_append_left hlt]
                rw [hge, h5]
                by_cases h2 : (d : Int) ≤ y ∧ y < ((d + j : Nat) : Int)
                · rw [if_pos h2, if_pos (by omega)]
                · rw [if_neg h2, if_neg (by omega)]
              · rw [if_neg h1] at h5
                rw [if_neg (by omega)]
                by_cases h2 : (d : Int) ≤ y ∧ y < ((d + j : Nat) : Int)
                · rw [if_pos h2] at h5; rw [if_pos (by omega)]; exact h5
                · rw [if_neg (by omega)]
      · rw [if_neg hs] at hst
        have hno : mm (((d + j : Nat) : Int) - 1) = none := by
          cases h : mm (((d + j : Nat) : Int) - 1) with
          | none => rfl
          | some c => rw [h] at hs; exact absurd rfl hs
        have hlt := i3 hj0 hno
        rw [hst]
        refine ⟨pcsFault_snoc _ _ _ i1 (pcFault_mk (by simp) (by simp only; omega) (by simp; omega) hlt), ?_, fun _ h => (by cases h), fun _ _ => ⟨_, _, rfl, by simp; omega⟩, fun y => ?_⟩
        · rw [endOf_snoc]; simp; omega
        · rw [pcsByte_snoc, i5 y]
          by_cases h1 : (d : Int) ≤ y ∧ y < ((d + j : Nat) : Int)
          · rw [if_pos h1]
            cases hmy : mm y with
            | some c =>
              simp only
              rw [if_pos (by omega)]
            | none =>
              simp only
              rw [if_neg (by simp; omega), if_pos (by omega)]
          · rw [if_neg h1]
            simp only
            by_cases hy : y = ((d + j : Nat) : Int)
            · subst hy
              rw [if_pos (by simp), if_pos (by omega), hm]; simp
            · rw [if_neg (by simp; omega), if_neg (by omega)]

/-- The gather of the bytes at each place has just these. -/
theorem putG_byte {mm : Int → Option Int} {d : Nat} (h : FirstGap mm d) (hlo : ∀ y, y < 0 → mm y = none) (hhi : ∀ y, 400 ≤ y → mm y = none) (y : Int) : gtByte (putG mm d) y = mm y := by
  obtain ⟨i1, i2, i3, i4, i5⟩ := pcsTo_facts h.gap (400 - d) (by have := h.le; omega)
  have hle := h.le
  unfold gtByte putG
  simp only
  rw [runL_len]
  by_cases h1 : 0 ≤ y ∧ y ≤ (d : Int) - 1
  · rw [if_pos h1]
    have hs := h.all y.toNat (by omega)
    rw [show ((y.toNat : Nat) : Int) = y by omega] at hs
    obtain ⟨c, hc⟩ := Option.isSome_iff_exists.1 hs
    have hlt : y.toNat < d := by omega
    rw [hc]
    simp [runL, List.getElem?_range hlt, show ((y.toNat : Nat) : Int) = y by omega, hc]
  · rw [if_neg h1, i5 y]
    by_cases h2 : (d : Int) ≤ y ∧ y < ((d + (400 - d) : Nat) : Int)
    · rw [if_pos h2]
    · rw [if_neg h2]
      by_cases h3 : y < 0
      · exact (hlo y h3).symm
      · exact (hhi y (by omega)).symm
theorem putG_fault {mm : Int → Option Int} {d : Nat} (h : FirstGap mm d) (h40 : (putG mm d).2.1.length ≤ 40) : gtFault (putG mm d) = 0 := by
  obtain ⟨i1, -⟩ := pcsTo_facts h.gap (400 - d) (by have := h.le; omega)
  have hle := h.le
  unfold gtFault
  rw [if_neg (by unfold putG at h40 ⊢; simp only at h40 ⊢; rw [runL_len]; omega)]
  unfold putG
  simp only
  rw [runL_len]; exact i1
end Go.Proofs.Ytnbcefdfdonljaa
