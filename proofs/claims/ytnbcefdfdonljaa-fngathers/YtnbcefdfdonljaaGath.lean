/- Gathers: pieces of a stream as data, what a gather that is read holds piece by piece, and its faults as a function; no condition. -/
import Derived.Test.YtnbcefdfdonljaaRows
import Derived.Test.YtnbcefdfdonljaaBase
import Derived.Test.YtnbcefdfdonljaaBytes
import Derived.Test.YtnbcefdfdonljaaMem
namespace Go.Proofs.Ytnbcefdfdonljaa
open Go.RowKit
set_option linter.unusedVariables false

abbrev pcS : Sh := .cons (.int .i64) (.cons u8s .nil)
abbrev pcsS : Sh := .row 87 pcS
abbrev gtS : Sh := .cons u8s (.cons pcsS .nil)
abbrev Pc : Type := Int × List Int × Unit
abbrev Gt : Type := List Int × List Pc × Unit

theorem rd_i64G {n : Int} (h : (Lit.int .i64 n).wf = true) : -9223372036854775808 ≤ n ∧ n ≤ 9223372036854775807 := by
  simp [Lit.wf, IntKind.min, IntKind.max, IntKind.signed, IntKind.bits] at h; omega

theorem rd_pcs {w : World} {B : Nat} {ps : List Pc} {cs : List Value} (h : pcsS.Rd w B ps cs) : ∃ a cap, cs = [.slice a ps.length cap] ∧ ps.length ≤ maxLen ∧ (a = none → cap = 0) ∧
    ∀ i (hi : i < ps.length), ∃ b off ad c, a = some ⟨b, off, none⟩ ∧ b < B ∧ w.cell? ⟨b, off + i * 2, none⟩ = some (.int .i64 ps[i].1) ∧ w.cell? ⟨b, off + i * 2 + 1, none⟩ = some (.slice ad ps[i].2.1.length c) ∧
      u8s.Rd w B ps[i].2.1 [.slice ad ps[i].2.1.length c] ∧ (-9223372036854775808 ≤ ps[i].1 ∧ ps[i].1 ≤ 9223372036854775807) := by
  obtain ⟨a, cap, h1, h2, h3, b, off, h4, h5⟩ := h
  refine ⟨a, cap, h1, Nat.le_trans h2.1 h2.2, h3, fun i hi => ?_⟩
  obtain ⟨ea, hb⟩ := h4 (by intro e; subst e; simp at hi)
  obtain ⟨cs', g1, g2, c1, c2, g3, ⟨g4, g5⟩, c3, c4, g6, g7, g8⟩ := h5 i hi
  obtain ⟨ad, c, g9, g10⟩ := g7
  have g8' : c4 = [] := g8
  subst g8' g4 g6 g3
  subst g9
  refine ⟨b, off, ad, c, ea, hb, ?_, ?_, ⟨ad, c, rfl, g10⟩, rd_i64G g5⟩
  · have := g2 0 (by decide)
    simpa [Sh.sz] using this
  · have := g2 1 (by decide)
    simpa [Sh.sz] using this

theorem rd_gt {w : World} {B : Nat} {g : Gt} {cs : List Value} (h : gtS.Rd w B g cs) : ∃ a1 c1 a2 c2, cs = [.slice a1 g.1.length c1, .slice a2 g.2.1.length c2] ∧
    u8s.Rd w B g.1 [.slice a1 g.1.length c1] ∧ pcsS.Rd w B g.2.1 [.slice a2 g.2.1.length c2] := by
  obtain ⟨x1, x2, e1, ⟨a1, c1, e2, r1⟩, x3, x4, e3, ⟨a2, c2, e4, r2⟩, r3⟩ := h
  have r3' : x4 = [] := r3
  subst r3' e2 e4 e3 e1
  exact ⟨a1, c1, a2, c2, rfl, ⟨a1, c1, rfl, r1⟩, ⟨a2, c2, rfl, r2⟩⟩

/-- The fault of one piece, behind what ends at e. -/
def pcFault (at' : Int) (n : Nat) (e : Int) : Int := if n = 0 then 1 else if at' < 0 ∨ 400 - (n : Int) < at' then 3 else if at' ≤ e then 1 else 0
/-- The fault of the pieces behind e. -/
def pcsFault : Int → List Pc → Int
  | _, [] => 0
  | e, p :: ps => if pcFault p.1 p.2.1.length e ≠ 0 then pcFault p.1 p.2.1.length e else pcsFault (p.1 + p.2.1.length) ps
def gtFault (g : Gt) : Int := if 400 < g.1.length ∨ 40 < g.2.1.length then 2 else pcsFault g.1.length g.2.1

theorem pcsFault_at {ps : List Pc} {k : Nat} (e : Int) (hk : k < ps.length) : pcsFault e (ps.drop k) = if pcFault ps[k].1 ps[k].2.1.length e ≠ 0 then pcFault ps[k].1 ps[k].2.1.length e else pcsFault (ps[k].1 + ps[k].2.1.length) (ps.drop (k + 1)) := by
  rw [List.drop_eq_getElem_cons hk]; rfl
theorem pcsFault_end {ps : List Pc} (e : Int) : pcsFault e (ps.drop ps.length) = 0 := by rw [List.drop_length]; rfl
theorem pcFault_ok {a : Int} {n : Nat} {e : Int} (h : pcFault a n e = 0) : 0 < n ∧ 0 ≤ a ∧ a + n ≤ 400 ∧ e < a := by
  unfold pcFault at h
  split at h
  · omega
  · split at h
    · omega
    · split at h
      · omega
      · omega
end Go.Proofs.Ytnbcefdfdonljaa
