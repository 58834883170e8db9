/- What standsAt of the program answers: whether bytes lie in a stream at a place; memory is as it was; for a place within a million and bytes that are there. -/
import Derived.Test.YtnfkjdcnngoeiaaRows
import Derived.Test.YtnfkjdcnngoeiaaBase
import Derived.Test.YtnfkjdcnngoeiaaBytes
import Derived.Test.YtnfkjdcnngoeiaaStr
import Derived.Test.YtnfkjdcnngoeiaaBox
import Derived.Test.YtnfkjdcnngoeiaaGathFit3
import Derived.Deep.DeepCutAuto
namespace Go.Proofs.Ytnfkjdcnngoeiaa
open Go.RowKit
set_option linter.unusedVariables false

/-- The bytes d lie in l from p on. -/
def stV (l : List Int) (p : Int) (d : List Int) : Bool := decide (p + d.length ≤ l.length ∧ (l.drop p.toNat).take d.length = d)
theorem stV_iff {l d : List Int} {p : Int} : stV l p d = true ↔ (p + d.length ≤ l.length ∧ (l.drop p.toNat).take d.length = d) := by unfold stV; simp only [decide_eq_true_eq]
set_option maxHeartbeats 1000000 in
theorem iStandsAt (l d : List Int) (a ad : Option Addr) (cap c : Nat) (p : Int) (w : World) (ha : RB w a l) (hd : RB w ad d) (h0 : 0 < d.length) (h1 : 0 ≤ p) (h2 : p + d.length ≤ 1000000) (h3 : l.length ≤ cap) (h4 : cap ≤ 9223372036854775807) :
    Calls Try.prog 18 #[.slice a l.length cap, .int .i64 p, .slice ad d.length c] w fun e w' => e = .returned (.bool (stV l p d)) ∧ w' = w := by
  obtain ⟨V, hV⟩ : ∃ V, V = stV l p d := ⟨_, rfl⟩
  rw [← hV]
  obtain ⟨m, rfl⟩ : ∃ m : Nat, p = m := ⟨p.toNat, by omega⟩
  by_cases h : (m : Int) + (d.length : Int) ≤ l.length
  · rcases ha.mem with e | ⟨b3, off3, rfl, hc3⟩
    · subst e; simp at h; omega
    have rs := ha.sub m d.length (by omega)
    have HEq : Hid (∀ C, Calls Try.prog 26 #[.slice (some ⟨b3, off3 + m, none⟩) d.length C, .slice ad d.length c] w fun e w' => e = .returned (.bool V) ∧ w' = w) := by
      intro C
      refine (bEqualI (some ⟨b3, off3 + m, none⟩) ad d.length d.length C c _ d w (by simp; omega) rfl rs hd).mono ?_
      rintro e w' ⟨rfl, rfl⟩
      refine ⟨ret_bool ?_, rfl⟩
      rw [hV]
      unfold stV
      simp only [h, true_and, Int.toNat_natCast]
    have i1 : (m : Int) ≤ (m : Int) + (d.length : Int) := by omega
    have i2 : (m : Int) + (d.length : Int) ≤ (cap : Int) := by omega
    have i3 : m + d.length - m = d.length := by omega
    have i4 : (0 : Int) ≤ (m : Int) := by omega
    clear hV rs hc3 ha hd
    go_enter Try.func18, Try.ntmps18
    go_wp2_with fail
    refine (HEq.out _).mono ?_
    rintro e w1 ⟨rfl, hw⟩
    subst w1
    go_wp2_with fail
    go_ret
    exact ⟨rfl, rfl⟩
  · have hF : V = false := by rw [hV]; unfold stV; simp [h]
    subst hF
    have h1d : (l.length : Int) < (m : Int) + (d.length : Int) := by omega
    clear hV ha hd
    go_enter Try.func18, Try.ntmps18
    go_wp2_with fail
    go_ret
    exact ⟨rfl, rfl⟩
end Go.Proofs.Ytnfkjdcnngoeiaa
