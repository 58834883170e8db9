/- Plain facts on whole numbers that go round at 65536: what is left of a number, how far one is ahead of another; no condition. -/
import Derived.WalkKit
import Derived.Handy
import Derived.Laws.BitsAllLaws
import Derived.Test.YtnbcefdfdonljaaBase
namespace Go.Proofs.Ytnbcefdfdonljaa
open Go.RowKit

/-- What 65536 leaves of n. -/
def wrp (n : Int) : Int := n % 65536
/-- How far b is ahead of a. -/
def ahd (a b : Int) : Int := if 32768 ≤ (b - a) % 65536 then (b - a) % 65536 - 65536 else (b - a) % 65536
/-- How many steps lead from a up to b. -/
def stp (a b : Int) : Int := (b - a) % 65536

theorem wrp_bd (n : Int) : 0 ≤ wrp n ∧ wrp n ≤ 65535 := by unfold wrp; omega
theorem stp_bd (a b : Int) : 0 ≤ stp a b ∧ stp a b ≤ 65535 := by unfold stp; omega
theorem ahd_bd (a b : Int) : -32768 ≤ ahd a b ∧ ahd a b ≤ 32767 := by unfold ahd; split <;> omega

theorem w16 (n : Int) : wrap64 (IntKind.u16.wrap n) = n % 65536 := by
  rw [IntKind.wrap_u16]; unfold wrap64; omega
theorem wrp_w16 (n : Int) : wrap64 (IntKind.u16.wrap n) = wrp n := w16 n
theorem i16w (n : Int) : IntKind.i16.wrap n = (n + 32768) % 65536 - 32768 := by
  simp only [IntKind.wrap, IntKind.bits, IntKind.signed]; simp; omega
theorem add_16 (a n : Int) : wrap64 (IntKind.u16.wrap (IntKind.u16.wrap a + IntKind.u16.wrap n)) = wrp (a + n) := by
  simp only [IntKind.wrap_u16, wrp]; unfold wrap64; omega
theorem sub_16 (a b : Int) : wrap64 (IntKind.u16.wrap (IntKind.u16.wrap b - IntKind.u16.wrap a)) = stp a b := by
  simp only [IntKind.wrap_u16, stp]; unfold wrap64; omega
theorem ahd_16 (a b : Int) : wrap64 (IntKind.i16.wrap (IntKind.u16.wrap (wrap64 (wrap64 (IntKind.u16.wrap b) - wrap64 (IntKind.u16.wrap a))))) = ahd a b := by
  simp only [i16w, IntKind.wrap_u16, ahd]; unfold wrap64; split <;> omega
theorem ahd_stp (a b : Int) : ahd a b = if 32768 ≤ stp a b then stp a b - 65536 else stp a b := rfl
theorem ahd_hi {a b : Int} (h : 32768 ≤ stp a b) : stp a b - 65536 = ahd a b := by rw [ahd_stp, if_pos h]
theorem ahd_lo {a b : Int} (h : ¬ 32768 ≤ stp a b) : stp a b = ahd a b := by rw [ahd_stp, if_neg h]
end Go.Proofs.Ytnbcefdfdonljaa
