/- Pieces of one stream put together: no fault, what is there is the stream's; all of it put: it is the stream; no condition but that it has at most 60 bytes. -/
import Derived.Test.YtnbcefdfdonljaaRows
import Derived.Test.YtnbcefdfdonljaaBase
import Derived.Test.YtnbcefdfdonljaaBytes
import Derived.Test.YtnbcefdfdonljaaMem
import Derived.Test.YtnbcefdfdonljaaGath
import Derived.Test.YtnbcefdfdonljaaGathLaw
import Derived.Test.YtnbcefdfdonljaaGathByte
import Derived.Test.YtnbcefdfdonljaaGathHold
import Derived.Test.YtnbcefdfdonljaaGathFits
import Derived.Test.YtnbcefdfdonljaaGathFit2
import Derived.Test.YtnbcefdfdonljaaPMap
import Derived.Test.YtnbcefdfdonljaaPRun
import Derived.Test.YtnbcefdfdonljaaPutDef
import Derived.Test.YtnbcefdfdonljaaPutFacts
import Derived.Test.YtnbcefdfdonljaaPImpl
import Derived.Test.YtnbcefdfdonljaaPieFacts
import Derived.Test.YtnbcefdfdonljaaStrFacts
namespace Go.Proofs.Ytnbcefdfdonljaa
open Go.RowKit
set_option linter.unusedVariables false

/-- No fault, and what is there is the stream's. -/
def inS (S : List Int) (g : Gt) : Prop := gtFault g = 0 ∧ ∀ (y c : Int), gtByte g y = some c → 0 ≤ y ∧ y < S.length ∧ S.getD y.toNat 0 = c
theorem inS_0 (S : List Int) : inS S ([], [], ()) := by
  refine ⟨by decide, fun y c h => ?_⟩
  unfold gtByte pcsByte at h
  rw [if_neg (by simp; omega)] at h
  cases h
theorem drop_getD {S l : List Int} {x m j : Nat} (hl : l = (S.drop x).take m) (hj : j < m) (hx : x + m ≤ S.length) : l.getD j 0 = S.getD (x + j) 0 := by
  subst hl
  rw [List.getD_eq_getElem?_getD, List.getD_eq_getElem?_getD, List.getElem?_take_of_lt hj, List.getElem?_drop]
theorem inS_put {S l : List Int} {g : Gt} {x m : Nat} (hS : S.length ≤ 60) (h : inS S g) (hx : x + m ≤ S.length) (hl : l = (S.drop x).take m) :
    putC g x l = 0 ∧ inS S (putV g x l) ∧ ∀ p : Int, (x : Int) ≤ p → p < ((x + m : Nat) : Int) → hasB (putV g x l) p = true := by
  have hlen : l.length = m := by subst hl; simp; omega
  obtain ⟨d, hd⟩ := gap_ex (putM (gtByte g) x l)
  have hge := gapOf_eq hd
  have hi : ∀ y : Int, (S.length : Int) ≤ y → gtByte g y = none := fun y hy => by
    cases hq : gtByte g y with
    | none => rfl
    | some c => have := (h.2 y c hq).2.1; omega
  obtain ⟨p1, p2⟩ := put_in hS h.1 hi (x := (x : Int)) (l := l) (by omega) (by omega) hd
  have hc : putC g x l = 0 := by
    unfold putC
    rw [if_neg (by simp [h.1]), if_neg (by omega), hge, if_neg (by have := (gtFault_ok p1).2.1; omega)]
  obtain ⟨q1, q2, -⟩ := put_all hc
  refine ⟨hc, ⟨q1, fun y c hy => ?_⟩, fun p hp1 hp2 => ?_⟩
  · rw [q2] at hy
    unfold putM at hy
    cases hq : gtByte g y with
    | some c' => rw [hq] at hy; simp only [Option.some.injEq] at hy; subst hy; exact h.2 y _ hq
    | none =>
      rw [hq] at hy
      simp only at hy
      by_cases hh : (x : Int) ≤ y ∧ y ≤ x + l.length - 1
      · rw [if_pos hh] at hy
        simp only [Option.some.injEq] at hy
        refine ⟨by omega, by omega, ?_⟩
        rw [← hy, drop_getD hl (by omega) hx]
        congr 1
        omega
      · rw [if_neg hh] at hy; cases hy
  · unfold hasB
    rw [if_neg (by simp [q1]), q2, put_some]
    simp; right; omega
theorem inS_fits {S : List Int} {g : Gt} (h : inS S g) : FitP g S := fun k hk => by
  unfold fitAt
  cases hq : gtByte g k with
  | none => rfl
  | some c =>
    obtain ⟨h1, h2, h3⟩ := h.2 k c hq
    have h4 : S.getD k 0 = c := by simpa using h3
    simp only [h4]
    simp
    omega
theorem inS_fitsV {S : List Int} {g : Gt} (h : inS S g) : fitsV g S = true := by unfold fitsV; rw [if_neg (by simp [h.1]), fitAll_yes (inS_fits h)]
theorem inS_done {S : List Int} {g : Gt} (h : inS S g) : g.1.length ≤ S.length ∧ S.take g.1.length = g.1 := fit_pre h.1 (inS_fits h)
theorem inS_all {S : List Int} {g : Gt} (hS : S.length ≤ 60) (h : inS S g) : putC g 0 S = 0 ∧ (putV g 0 S).1 = S ∧ holdV (putV g 0 S) = 0 ∧ gtFault (putV g 0 S) = 0 := by
  obtain ⟨hc, hi, hb⟩ := inS_put (x := 0) (m := S.length) (l := S) hS h (by omega) (by simp)
  have hc' : putC g 0 S = 0 := hc
  have hi' : inS S (putV g 0 S) := hi
  obtain ⟨-, q2, -⟩ := put_all hc'
  have hfg : FirstGap (putM (gtByte g) 0 S) S.length := by
    refine ⟨by omega, fun k hk => ?_, fun hk => ?_⟩
    · have := hb (k : Int) (by omega) (by omega)
      unfold hasB at this
      have h1 : gtFault (putV g 0 S) = 0 := hi'.1
      have h2 : hasB (putV g 0 S) k = true := this
      unfold hasB at h2
      rw [if_neg (by simp [h1]), q2] at h2
      exact h2
    · rw [← q2]
      cases hq : gtByte (putV g 0 S) (S.length : Int) with
      | none => rfl
      | some c => have := (hi'.2 _ _ hq).2.1; omega
  have ev : putV g 0 S = putG (putM (gtByte g) 0 S) S.length := by unfold putV; rw [if_neg (by simp [hc']), gapOf_eq hfg]
  have hl : (putV g 0 S).1.length = S.length := by rw [ev]; exact runL_len _ _ _
  obtain ⟨-, ht⟩ := inS_done hi'
  rw [hl, List.take_of_length_le (Nat.le_refl _)] at ht
  refine ⟨hc', ht.symm, ?_, hi'.1⟩
  have hst := pcsTo_stay (mm := putM (gtByte g) 0 S) (d := S.length) (j := 0) (fun y hy => by
    rw [← q2]
    cases hq : gtByte (putV g 0 S) y with
    | none => rfl
    | some c => have := (hi'.2 _ _ hq).2.1; omega) (400 - S.length)
  have hp : (putV g 0 S).2.1 = [] := by
    rw [ev]
    show pcsTo _ _ (400 - S.length) = []
    rw [Nat.zero_add] at hst
    rw [hst]; rfl
  unfold holdV
  rw [if_neg (by simp [hi'.1]), hp]
  rfl
end Go.Proofs.Ytnbcefdfdonljaa
