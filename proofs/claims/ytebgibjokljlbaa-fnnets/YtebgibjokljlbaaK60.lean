/- Bytes made a string and held against another: what the conversion gives, and bytes.Equal; memory is as it was; no condition. -/
import Derived.Test.YtebgibjokljlbaaRows
import Derived.Laws.BytesArg
import Derived.Test.YtebgibjokljlbaaK01
namespace Go.Proofs.Ytebgibjokljlbaa
open Go.RowKit
set_option linter.unusedVariables false

/-- The two rows of bytes are the same string. -/
def eqS (l l' : List Int) : Bool := (strOfNums l).toList == (strOfNums l').toList

theorem cv_str (a : Option Addr) (n cap : Nat) (l : List Int) (w : World) (hl : l.length = n) (hr : RB w a l) :
    (convert 22 9 (.slice a n cap)).run Try.prog w = .ok (.string (strOfNums l)) w := by
  rcases hr.mem with e | ⟨b, off, rfl, hc⟩
  · subst e
    simp at hl
    subst hl
    cases a with
    | none => exact run_convert_bytes_nil w _ _ Try.underlying22 Try.underlying5 0 cap _ Try.underlying9
    | some x =>
      rw [run_convert_bytes_string w _ _ _ _ 0 cap Try.underlying22 Try.underlying5 Try.underlying9, run_bytesToString w x 0 cap [] (run_loadCells_list (P := Try.prog) w x [] (by simp))]
      rfl
  · exact run_convert_bytes_arg w _ _ Try.underlying22 Try.underlying5 b off n cap l hl (fun i hi => hc i (by omega)) _ Try.underlying9

theorem bEqual (a b : Option Addr) (n m cap cap' : Nat) (l l' : List Int) (w : World) (hl : l.length = n) (hl' : l'.length = m) (ha : RB w a l) (hb : RB w b l') :
    Calls Try.prog 74 #[.slice a n cap, .slice b m cap'] w fun e w' => e = .returned (.bool (eqS l l')) ∧ w' = w := by
  have h1 := cv_str a n cap l w hl ha
  have h2 := cv_str b m cap' l' w hl' hb
  go_enter Try.func74, Try.ntmps74
  go_wp2
  go_ret
  exact ⟨rfl, rfl⟩
end Go.Proofs.Ytebgibjokljlbaa
