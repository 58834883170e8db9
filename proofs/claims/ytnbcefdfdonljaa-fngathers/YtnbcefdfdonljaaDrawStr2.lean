/- What the draw for PutPiece gives, when its walk ends; no condition. -/
import Derived.Test.YtnbcefdfdonljaaRows
import Derived.Test.YtnbcefdfdonljaaBase
import Derived.Test.YtnbcefdfdonljaaBytes
import Derived.Test.YtnbcefdfdonljaaMem
import Derived.Test.YtnbcefdfdonljaaGath
import Derived.Test.YtnbcefdfdonljaaDraws
import Derived.Test.YtnbcefdfdonljaaDrawsD
import Derived.Test.YtnbcefdfdonljaaBox
import Derived.Test.YtnbcefdfdonljaaAgg
import Derived.Test.YtnbcefdfdonljaaStrFacts
import Derived.Test.YtnbcefdfdonljaaDrawStr0
import Derived.Test.YtnbcefdfdonljaaDrawStr1
namespace Go.Proofs.Ytnbcefdfdonljaa
open Go.RowKit
set_option linter.unusedVariables false

theorem Strm.keepB {W W' : World} {lo sn sc bs : Nat} {g : Gt} {a1 a2 : Option Addr} {n1 c1 n2 c2 : Nat} {ss : List Int} (h : Strm W lo g a1 n1 c1 a2 n2 c2 ss bs sn sc) (hk : ∀ b, lo ≤ b → b < W.heap.size → W'.heap[b]? = W.heap[b]?) (hs : W.heap.size ≤ W'.heap.size) : Strm W' lo g a1 n1 c1 a2 n2 c2 ss bs sn sc := by
  obtain ⟨q1, q2⟩ := h.ob.own.lt bs rfl
  exact ⟨Own.mono (Own.keep h.own fun b h1 h2 => hk b h1 h2) (Nat.le_refl _) hs, h.ob.keep (hk bs q1 q2), h.len, h.few, h.small⟩
theorem Strm.dr {W W' : World} {sb lo sn sc bs : Nat} {g : Gt} {a1 a2 : Option Addr} {n1 c1 n2 c2 : Nat} {ss : List Int} (h : Strm W lo g a1 n1 c1 a2 n2 c2 ss bs sn sc) (hd : Dr sb W W') (hs : sb < lo) : Strm W' lo g a1 n1 c1 a2 n2 c2 ss bs sn sc := h.keepB (fun b h1 h2 => hd.block b h2 (by omega)) hd.size
theorem Strm.part {W : World} {lo sn sc bs : Nat} {g : Gt} {a1 a2 : Option Addr} {n1 c1 n2 c2 : Nat} {ss : List Int} (h : Strm W lo g a1 n1 c1 a2 n2 c2 ss bs sn sc) {x m : Nat} (hx : x + m ≤ sn) : RB W (some ⟨bs, x, none⟩) ((ss.drop x).take m) ∧ ((ss.drop x).take m).length = m ∧ sn ≤ sc := by
  obtain ⟨h1, h2⟩ := part_rd h.ob hx (Nat.le_refl _)
  obtain ⟨q, c, e, r, -, -⟩ := rd_bytes h1
  simp only [List.cons.injEq, Value.slice.injEq, and_true] at e
  obtain ⟨e1, -⟩ := e
  subst e1
  obtain ⟨-, ⟨e, -⟩ | ⟨g', cp, cur, e, -, -, h3, -, -⟩⟩ := h.ob.own
  · cases e
  · simp only [Value.slice.injEq] at e
    obtain ⟨-, e2, rfl⟩ := e
    exact ⟨r, h2, by omega⟩
/-- What the draw for PutPiece gives. -/
structure PieD (W : World) (g : Gt) (a1 : Option Addr) (n1 c1 : Nat) (a2 : Option Addr) (n2 c2 : Nat) (dl : List Int) (da : Option Addr) (m dc : Nat) : Prop where
  rg : gtS.Rd W W.heap.size g [.slice a1 n1 c1, .slice a2 n2 c2]
  rl : u8s.Rd W W.heap.size dl [.slice da m dc]
  len : dl.length = m ∧ m ≤ 45
  few : g.2.1.length ≤ 41 ∧ g.1.length ≤ 401
  small : ∀ k (hk : k < g.2.1.length), g.2.1[k].2.1.length ≤ 400
theorem pie_end {w W1 w5 W V : World} {sb base sn sc bs : Nat} {NN N2 : Array Value} {g : Gt} {a1 a2 : Option Addr} {n1 c1 n2 c2 : Nat} {ss dl : List Int} {v : Value} {m : Nat}
    (kR : ∀ o, V.cell? ⟨w.heap.size, o, none⟩ = (#[.slice none 0 0, .slice none 0 0] : Array Value)[o]?) (hN : NN = N2) (hz : NN.size = 2) (hB : Below w.heap.size w W1) (hD : Dr sb W1 w5) (hE : Dr sb w5 W) (hV : Below base W V) (hS : Strm W W1.heap.size g a1 n1 c1 a2 n2 c2 ss bs sn sc)
    (ho : OB V base v dl) (hl : dl.length = m ∧ m ≤ 45) (h1 : w.heap.size ≤ sb) (h2 : w.heap.size < W1.heap.size) (h3 : sb < W1.heap.size) (h4 : W.heap.size ≤ base ∨ w5.heap.size ≤ base) (h5 : bs < w5.heap.size) (hO5 : Own W W1.heap.size w5.heap.size gtS g [.slice a1 n1 c1, .slice a2 n2 c2]) :
    ∃ WZ da dc, V.setCells w.heap.size 0 NN.toList = WZ ∧ v = .slice da m dc ∧ (∀ o, WZ.cell? ⟨w.heap.size, o, none⟩ = N2[o]?) ∧ PieD WZ g a1 n1 c1 a2 n2 c2 dl da m dc ∧ Below w.heap.size w WZ := by
  subst hN
  have hw5 := hE.size
  have hbase : w5.heap.size ≤ base := by rcases h4 with h | h <;> omega
  have hWV : Below w5.heap.size W V := hV.mono hbase
  have hz5 := hD.size
  have ho' : OB (V.setCells w.heap.size 0 NN.toList) base v dl := ho.keeps fun b hb => setCells_block (by omega) _ _ _
  obtain ⟨da, dc, rfl, r1, r2⟩ := ho'.rbn
  obtain ⟨e1, e2⟩ := hl
  have hcap : dl.length ≤ dc ∧ dc ≤ maxLen := by
    obtain ⟨-, ⟨e, hz0⟩ | ⟨g', cp, cur, e, -, -, q3, q4, -⟩⟩ := ho.own
    · simp only [Value.slice.injEq] at e
      exact ⟨by omega, by have := e.2.2; omega⟩
    · simp only [Value.slice.injEq] at e
      obtain ⟨-, -, rfl⟩ := e
      exact ⟨q3, q4⟩
  have hrl := bytes_rd r1 r2 hcap (Nat.le_refl _)
  rw [e1] at hrl
  have hOV : Own (V.setCells w.heap.size 0 NN.toList) W1.heap.size w5.heap.size gtS g [.slice a1 n1 c1, .slice a2 n2 c2] := (hO5.below (Nat.le_refl _) hWV).keep fun b q1 q2 => setCells_block (by omega) _ _ _
  refine ⟨_, da, dc, rfl, by rw [e1], bx_setCells kR (A' := NN) (by rw [hz]; rfl), ⟨hOV.rd (Nat.le_refl _), hrl, ⟨e1, e2⟩, hS.few, hS.small⟩, setCells_below (Nat.le_refl _) _ _ _ _ ?_⟩
  exact hB.trans (((((hD.trans hE).below (Nat.le_of_lt h3)).mono h1)).trans (hWV.mono (by omega)))
end Go.Proofs.Ytnbcefdfdonljaa
