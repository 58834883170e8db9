/- What is said of a sub, in plain words: its fault, its room, what is stale, what is left of it where it is closed, a new one; no condition. -/
import Derived.Test.YtbdibjeemgkdaaaRows
import Derived.Test.YtbdibjeemgkdaaaBase
import Derived.Test.YtbdibjeemgkdaaaMem
import Derived.Test.YtbdibjeemgkdaaaHBase
import Derived.Test.YtbdibjeemgkdaaaHFlight
import Derived.Test.YtbdibjeemgkdaaaHSender
import Derived.Test.YtbdibjeemgkdaaaHSpan
import Derived.Test.YtbdibjeemgkdaaaHCatch
import Derived.Test.YtbdibjeemgkdaaaFlightDef
import Derived.Test.YtbdibjeemgkdaaaCatDef
import Derived.Test.YtbdibjeemgkdaaaCtrl
import Derived.Test.YtbdibjeemgkdaaaHSub
namespace Go.Proofs.Ytbdibjeemgkdaaa
open Go.RowKit
set_option linter.unusedVariables false
set_option maxRecDepth 8000

abbrev DSub.snd (x : DSub) : DSender := x.2.2.2.2.2.2.1
abbrev DSub.cat (x : DSub) : DCatch := x.2.2.2.2.2.2.2.1
abbrev DSub.ctl (x : DSub) : DControl := x.2.2.2.2.2.2.2.2.1
def subHead (x : DSub) : Bool := inD x.1 0 2 && inD x.2.1 1 4 && inD x.2.2.2.1 0 1000000 && inD x.2.2.2.2.1 0 1000000 && inD x.2.2.2.2.2.1 0 1000000
def subForm (x : DSub) : Bool := (decide (x.2.1 < 3) && decide (0 < x.snd.2.1)) || (decide (x.2.1 = 4) && decide (0 < x.snd.2.2.2.1.length))
def subF (x : DSub) : Int := if subHead x = false then 3 else if sndFault x.snd = 0 then (if caF x.cat = 0 then (if ctF x.ctl.1 x.ctl.2.1 x.ctl.2.2.1 = 0 then (if subForm x = true then 1 else 0) else ctF x.ctl.1 x.ctl.2.1 x.ctl.2.2.1) else caF x.cat) else sndFault x.snd
theorem subF_h {x : DSub} (h : subHead x = false) : subF x = 3 := by unfold subF; rw [if_pos h]
theorem subF_s {x : DSub} (h : subHead x = true) (h1 : ¬ sndFault x.snd = 0) : subF x = sndFault x.snd := by unfold subF; rw [if_neg (by simp [h]), if_neg h1]
theorem subF_c {x : DSub} (h : subHead x = true) (h1 : sndFault x.snd = 0) (h2 : ¬ caF x.cat = 0) : subF x = caF x.cat := by unfold subF; rw [if_neg (by simp [h]), if_pos h1, if_neg h2]
theorem subF_k {x : DSub} (h : subHead x = true) (h1 : sndFault x.snd = 0) (h2 : caF x.cat = 0) (h3 : ¬ ctF x.ctl.1 x.ctl.2.1 x.ctl.2.2.1 = 0) : subF x = ctF x.ctl.1 x.ctl.2.1 x.ctl.2.2.1 := by unfold subF; rw [if_neg (by simp [h]), if_pos h1, if_pos h2, if_neg h3]
theorem subF_f {x : DSub} (h : subHead x = true) (h1 : sndFault x.snd = 0) (h2 : caF x.cat = 0) (h3 : ctF x.ctl.1 x.ctl.2.1 x.ctl.2.2.1 = 0) (h4 : subForm x = true) : subF x = 1 := by unfold subF; rw [if_neg (by simp [h]), if_pos h1, if_pos h2, if_pos h3, if_pos h4]
theorem subF_o {x : DSub} (h : subHead x = true) (h1 : sndFault x.snd = 0) (h2 : caF x.cat = 0) (h3 : ctF x.ctl.1 x.ctl.2.1 x.ctl.2.2.1 = 0) (h4 : subForm x = false) : subF x = 0 := by unfold subF; rw [if_neg (by simp [h]), if_pos h1, if_pos h2, if_pos h3, if_neg (by simp [h4])]
theorem sub_ok {x : DSub} (h : subF x = 0) : subHead x = true ∧ sndFault x.snd = 0 ∧ caF x.cat = 0 ∧ ctF x.ctl.1 x.ctl.2.1 x.ctl.2.2.1 = 0 ∧ subForm x = false := by
  unfold subF at h
  split at h
  · cases h
  · rename_i h0
    split at h
    · rename_i h1
      split at h
      · rename_i h2
        split at h
        · rename_i h3
          split at h
          · cases h
          · rename_i h4
            exact ⟨by simpa using h0, h1, h2, h3, by simpa using h4⟩
        · exact absurd h (by assumption)
      · exact absurd h (by assumption)
    · exact absurd h (by assumption)
theorem subHead_parts {x : DSub} (h : subHead x = true) : inD x.1 0 2 = true ∧ inD x.2.1 1 4 = true ∧ inD x.2.2.2.1 0 1000000 = true ∧ inD x.2.2.2.2.1 0 1000000 = true ∧ inD x.2.2.2.2.2.1 0 1000000 = true := by
  unfold subHead at h
  simp only [Bool.and_eq_true] at h
  exact ⟨h.1.1.1.1, h.1.1.1.2, h.1.1.2, h.1.2, h.2⟩
def zSub : DSub := (0, 0, false, 0, 0, 0, (0, 0, 0, [], ()), (0, 0, [], ()), (0, 0, 0, ()), ())
/-- How much room there is. -/
def roomV (x : DSub) : Int := if subF x = 0 then (if x.2.1 = 3 ∧ x.snd.2.2.2.1.length < 12 then max 0 (x.ctl.1 - (x.snd.2.1 - x.snd.2.2.1)) else 0) else 0
/-- How many flights were tried three times or more. -/
def stlL (l : List DFlight) : Nat := (l.filter fun f => decide (3 ≤ f.2.2.2.2.1)).length
def stlV (x : DSub) : Int := if subF x = 0 then (stlL x.snd.2.2.2.1 : Int) else 0
theorem stlL_le (l : List DFlight) : stlL l ≤ l.length := List.length_filter_le _ _
theorem stlL_step {l : List DFlight} {k : Nat} (hk : k < l.length) : stlL (l.take (k + 1)) = if 3 ≤ l[k].2.2.2.2.1 then stlL (l.take k) + 1 else stlL (l.take k) := by
  unfold stlL
  rw [List.take_succ_eq_append_getElem hk, List.filter_append, List.length_append]
  by_cases h : 3 ≤ l[k].2.2.2.2.1
  · rw [if_pos h]; simp [h]
  · rw [if_neg h]; simp [h]
/-- What is left of a sub that is closed. -/
def clsX (x : DSub) : DSub := (x.1, 4, x.2.2.1, x.2.2.2.1, x.2.2.2.2.1, x.2.2.2.2.2.1, (x.snd.1, x.snd.2.2.1, x.snd.2.2.1, [], ()), x.cat, x.ctl, ())
def clsV (x : DSub) : DSub := if subF x = 0 then clsX x else zSub
theorem sub_tot {x : DSub} (h : subF x = 0) : totSub x ≤ 1000 := by
  obtain ⟨-, h1, h2, -⟩ := sub_ok h
  have h3 : totSender x.snd ≤ 108 := snd_tot h1
  have h4 : x.cat.2.2.1.length ≤ 20 := (ca_ok h2).2.2.1
  have h5 : totCatch x.cat ≤ 20 := by unfold totCatch totSpans; exact h4
  show totSender x.snd + totCatch x.cat ≤ 1000
  omega
theorem cls_tot (x : DSub) : totSub (clsV x) ≤ 1048576 := by
  unfold clsV
  split
  · rename_i h
    obtain ⟨-, h1, h2, -⟩ := sub_ok h
    have h4 : x.cat.2.2.1.length ≤ 20 := (ca_ok h2).2.2.1
    have h5 : totCatch x.cat ≤ 20 := by unfold totCatch totSpans; exact h4
    show totSender (x.snd.1, x.snd.2.2.1, x.snd.2.2.1, [], ()) + totCatch x.cat ≤ 1048576
    have h6 : totSender (x.snd.1, x.snd.2.2.1, x.snd.2.2.1, [], ()) = 0 := by simp [totSender, totFlights, fsum]
    omega
  · decide
/-- A new sub. -/
def nwsC (p st no nw : Int) : Int := if (inD p 0 2 && inD no 0 1000000 && inD nw 0 1000000 && inD st 0 65535) = true then 0 else 3
def nwsV (p st : Int) (jn : Bool) (no nw : Int) : DSub := if nwsC p st no nw = 0 then (p, 1, jn, no, 0, nw, (st, 0, 0, [], ()), (0, 0, [], ()), (16, 64, 0, ()), ()) else zSub
theorem nws_tot (p st : Int) (jn : Bool) (no nw : Int) : totSub (nwsV p st jn no nw) ≤ 1048576 := by
  unfold nwsV
  split
  · show totSender (st, 0, 0, [], ()) + totCatch (0, 0, [], ()) ≤ 1048576
    have h6 : totSender (st, 0, 0, [], ()) = 0 := by simp [totSender, totFlights, fsum]
    have h7 : totCatch (0, 0, [], ()) = 0 := by simp [totCatch, totSpans]
    omega
  · decide
end Go.Proofs.Ytbdibjeemgkdaaa
