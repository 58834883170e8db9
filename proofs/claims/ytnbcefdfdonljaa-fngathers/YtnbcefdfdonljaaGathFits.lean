/- What FitsStream answers, of the program and of its model; what was in memory stays; no condition but that there are at most a million bytes. -/
import Derived.Test.YtnbcefdfdonljaaRows
import Derived.Test.YtnbcefdfdonljaaBase
import Derived.Test.YtnbcefdfdonljaaBytes
import Derived.Test.YtnbcefdfdonljaaMem
import Derived.Test.YtnbcefdfdonljaaGath
import Derived.Test.YtnbcefdfdonljaaImplGath
import Derived.Test.YtnbcefdfdonljaaSpecGath
import Derived.Test.YtnbcefdfdonljaaGathByte
import Derived.Test.YtnbcefdfdonljaaStr
import Derived.Test.YtnbcefdfdonljaaBox
import Derived.Deep.DeepCutAuto
import Derived.Deep.RegionHeld3
namespace Go.Proofs.Ytnbcefdfdonljaa
open Go.RowKit
set_option linter.unusedVariables false

/-- The stream has at k what the gather has there (if it has a byte). -/
def fitAt (g : Gt) (l : List Int) (k : Nat) : Bool := match gtByte g k with
  | none => true
  | some b => decide (k < l.length) && (l.getD k 0 == b)
/-- .. at all places. -/
def FitP (g : Gt) (l : List Int) : Prop := ∀ k, k < 400 → fitAt g l k = true
noncomputable def fitAll (g : Gt) (l : List Int) : Bool := @decide (FitP g l) (Classical.propDecidable _)
noncomputable def fitsV (g : Gt) (l : List Int) : Bool := if gtFault g ≠ 0 then false else fitAll g l

theorem fitAll_no {g : Gt} {l : List Int} {k : Nat} (hk : k < 400) (h : fitAt g l k = false) : fitAll g l = false := by
  refine (@decide_eq_false_iff_not (FitP g l) (Classical.propDecidable _)).2 ?_
  intro hh
  rw [hh k hk] at h; cases h
theorem fitAll_yes {g : Gt} {l : List Int} (h : FitP g l) : fitAll g l = true := (@decide_eq_true_iff (FitP g l) (Classical.propDecidable _)).2 h
theorem fitAll_at {g : Gt} {l : List Int} (h : fitAll g l = true) : FitP g l := (@decide_eq_true_iff (FitP g l) (Classical.propDecidable _)).1 h

end Go.Proofs.Ytnbcefdfdonljaa
