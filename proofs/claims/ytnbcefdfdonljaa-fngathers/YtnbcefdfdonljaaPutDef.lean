/- What a gather is, made of the bytes at each place: what is Done, and the pieces, as they are found place by place; no condition. -/
import Derived.Test.YtnbcefdfdonljaaRows
import Derived.Test.YtnbcefdfdonljaaBase
import Derived.Test.YtnbcefdfdonljaaBytes
import Derived.Test.YtnbcefdfdonljaaAppBytes
import Derived.Test.YtnbcefdfdonljaaMem
import Derived.Test.YtnbcefdfdonljaaGath
import Derived.Test.YtnbcefdfdonljaaImplGath
import Derived.Test.YtnbcefdfdonljaaSpecGath
import Derived.Test.YtnbcefdfdonljaaGathByte
import Derived.Test.YtnbcefdfdonljaaPMap
import Derived.Test.YtnbcefdfdonljaaPRun
namespace Go.Proofs.Ytnbcefdfdonljaa
open Go.RowKit Go.Maps
set_option linter.unusedVariables false

/-- One byte more in the last piece. -/
def addLast : List Pc → Int → List Pc
  | [], _ => []
  | [p], b => [(p.1, p.2.1 ++ [b], ())]
  | p :: q :: ps, b => p :: addLast (q :: ps) b
/-- Place k looked at. -/
def stepP (mm : Int → Option Int) (k : Nat) (P : List Pc) : List Pc := match mm k with
  | none => P
  | some b => if 0 < k ∧ (mm ((k : Int) - 1)).isSome = true then addLast P b else P ++ [((k : Int), [b], ())]
/-- The pieces that are found from place d on, j places on. -/
def pcsTo (mm : Int → Option Int) (d : Nat) : Nat → List Pc
  | 0 => []
  | j + 1 => stepP mm (d + j) (pcsTo mm d j)

theorem addLast_snoc (P : List Pc) (p : Pc) (b : Int) : addLast (P ++ [p]) b = P ++ [(p.1, p.2.1 ++ [b], ())] := by
  induction P with
  | nil => rfl
  | cons q P ih =>
    cases P with
    | nil => rfl
    | cons r P => show q :: addLast (r :: P ++ [p]) b = _; rw [ih]; rfl

theorem pcsTo_none {mm : Int → Option Int} {d j : Nat} (h : mm ((d + j : Nat) : Int) = none) : pcsTo mm d (j + 1) = pcsTo mm d j := by
  show stepP mm (d + j) _ = _
  unfold stepP; rw [h]

theorem runL_one {mm : Int → Option Int} {x c : Int} (h : mm x = some c) : runL mm x 1 = [c] := by simp [runL, h]

/-- A whole run is one piece. -/
theorem pcsTo_run {mm : Int → Option Int} {d i : Nat} (hi : d + i ≠ 0 → mm (((d + i : Nat) : Int) - 1) = none) : ∀ (j : Nat), (∀ k : Nat, k < j + 1 → (mm (((d + i : Nat) : Int) + k)).isSome = true) → pcsTo mm d (i + (j + 1)) = pcsTo mm d i ++ [(((d + i : Nat) : Int), runL mm ((d + i : Nat) : Int) (j + 1), ())]
  | 0, h => by
    have h0 := h 0 (by omega)
    obtain ⟨c, hc⟩ := Option.isSome_iff_exists.1 h0
    have hc' : mm ((d + i : Nat) : Int) = some c := by simpa using hc
    show stepP mm (d + i) (pcsTo mm d i) = _
    unfold stepP
    rw [hc', runL_one hc']
    simp only
    rw [if_neg]
    rintro ⟨h1, h2⟩
    rw [hi (by omega)] at h2; cases h2
  | j + 1, h => by
    have ih := pcsTo_run hi j (fun k hk => h k (by omega))
    obtain ⟨c, hc⟩ := Option.isSome_iff_exists.1 (h (j + 1) (by omega))
    have hp := h j (by omega)
    have e1 : ((d + (i + (j + 1)) : Nat) : Int) = ((d + i : Nat) : Int) + ((j + 1 : Nat) : Int) := by omega
    have e2 : ((d + (i + (j + 1)) : Nat) : Int) - 1 = ((d + i : Nat) : Int) + (j : Nat) := by omega
    show stepP mm (d + (i + (j + 1))) (pcsTo mm d (i + (j + 1))) = _
    unfold stepP
    rw [ih, e2, e1, hc]
    simp only
    rw [if_pos ⟨by omega, hp⟩, addLast_snoc, runL_succ mm _ (j + 1), hc]
    rfl

/-- d is where the first byte is missing. -/
structure FirstGap (mm : Int → Option Int) (d : Nat) : Prop where
  le : d ≤ 400
  all : ∀ k : Nat, k < d → (mm k).isSome = true
  gap : d < 400 → mm d = none
theorem FirstGap.uniq {mm : Int → Option Int} {d d' : Nat} (h : FirstGap mm d) (h' : FirstGap mm d') : d = d' := by
  rcases Nat.lt_trichotomy d d' with hlt | rfl | hlt
  · have := h'.all d hlt
    rw [h.gap (by have := h'.le; omega)] at this; cases this
  · rfl
  · have := h.all d' hlt
    rw [h'.gap (by have := h.le; omega)] at this; cases this
/-- The gather of those bytes. -/
def putG (mm : Int → Option Int) (d : Nat) : Gt := (runL mm 0 d, pcsTo mm d (400 - d), ())

theorem addLast_length (P : List Pc) (b : Int) : (addLast P b).length = P.length := by
  induction P with
  | nil => rfl
  | cons q P ih =>
    cases P with
    | nil => rfl
    | cons r P => show (addLast (r :: P) b).length + 1 = _; rw [ih]; rfl
theorem pcsTo_length (mm : Int → Option Int) (d : Nat) : ∀ j, (pcsTo mm d j).length ≤ j
  | 0 => Nat.le_refl _
  | j + 1 => by
    have ih := pcsTo_length mm d j
    show (stepP mm (d + j) (pcsTo mm d j)).length ≤ _
    unfold stepP
    split
    · omega
    · split
      · rw [addLast_length]; omega
      · simp; omega
end Go.Proofs.Ytnbcefdfdonljaa
