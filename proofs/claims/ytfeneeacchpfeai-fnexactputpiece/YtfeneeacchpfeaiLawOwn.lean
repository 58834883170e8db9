/- Marks laid over bytes of the law's own, and what stays of all else; how great what PutPiece answers is; no condition but on lengths. -/
import Derived.Test.YtfeneeacchpfeaiRows
import Derived.Test.YtfeneeacchpfeaiBase
import Derived.Test.YtfeneeacchpfeaiBytes
import Derived.Test.YtfeneeacchpfeaiMem
import Derived.Test.YtfeneeacchpfeaiMemOpen
import Derived.Test.YtfeneeacchpfeaiMemRow
import Derived.Test.YtfeneeacchpfeaiGath
import Derived.Test.YtfeneeacchpfeaiGathLaw
import Derived.Test.YtfeneeacchpfeaiPMap
import Derived.Test.YtfeneeacchpfeaiPRun
import Derived.Test.YtfeneeacchpfeaiPutDef
import Derived.Test.YtfeneeacchpfeaiPLast
import Derived.Test.YtfeneeacchpfeaiPMark
import Derived.Test.YtfeneeacchpfeaiPImpl
import Derived.Test.YtfeneeacchpfeaiBox
namespace Go.Proofs.Ytfeneeacchpfeai
open Go.RowKit Go.Maps
set_option linter.unusedVariables false

theorem lMarkBytesO (l : List Int) (v : Value) (c : Int) (w : World) (lo hi : Nat) (ho : Own w lo hi u8s l [v]) (hn : l.length ≤ 1073741824) (hc0 : 0 ≤ c) (hc1 : c ≤ 4611686018427387904) :
    Calls Try.prog 29 #[v, .int .i64 c] w fun e w' => e = .returned (.int .i64 (c + l.length)) ∧ Own w' lo hi u8s (marks c l.length) [v] ∧ Within lo hi w w' := by
  obtain ⟨bs, h1, h2, h3⟩ := ho
  obtain ⟨vv, e, hob, hb1, hb2⟩ := bytes_ob h1
  simp only [List.cons.injEq, and_true] at e
  subst e
  refine (lMark 0 v c l w hob hn hc0 hc1).mono ?_
  rintro e w1 ⟨rfl, ho1, hg1⟩
  obtain ⟨bs1, q1, q2, q3⟩ := ob_ow ho1
  exact ⟨rfl, ⟨bs1, q1, q2, fun b hb => h3 b (hb1 b (q3 b hb))⟩, Within.grown hg1 fun x e => h3 x (hb1 x e)⟩
theorem within_below {B lo hi : Nat} {w c w' : World} (h : Below B w c) (k : Within lo hi c w') (h1 : B ≤ lo) (h2 : B ≤ c.heap.size) : Below B w w' :=
  ⟨k.os.trans h.os, k.tape.trans h.tape, k.output.trans h.output, Nat.le_trans h.size k.size, fun b hb => (k.block b (by omega) (by omega)).trans (h.block b hb)⟩
theorem gapOf_le (mm : Int → Option Int) : gapOf mm ≤ 400 := by
  unfold gapOf
  by_cases h : ∃ d, FirstGap mm d
  · rw [dif_pos h]; exact (Classical.choose_spec h).le
  · rw [dif_neg h]; omega
theorem dsum_all {ps : List Pc} {n : Nat} (h : ∀ p ∈ ps, p.2.1.length ≤ n) : dsum ps ≤ ps.length * n := by
  induction ps with
  | nil => simp [dsum]
  | cons p ps ih =>
    have h1 := h p (by simp)
    have h2 := ih fun q hq => h q (by simp [hq])
    have e : dsum (p :: ps) = p.2.1.length + dsum ps := by simp [dsum]
    rw [e, List.length_cons, Nat.succ_mul]; omega
theorem putV_tot (g : Gt) (x : Int) (l : List Int) : gtTot (putV g x l) ≤ 1048576 := by
  unfold putV
  split
  · simp [gtTot, pcsTot, dsum]
  · have hd := gapOf_le (putM (gtByte g) x l)
    generalize gapOf (putM (gtByte g) x l) = d at *
    unfold gtTot pcsTot putG
    simp only
    rw [runL_len]
    have h1 := pcsTo_length (putM (gtByte g) x l) d (400 - d)
    have h2 := dsum_all (pcsTo_data (putM (gtByte g) x l) d (400 - d))
    have h3 : (pcsTo (putM (gtByte g) x l) d (400 - d)).length * (400 - d) ≤ 400 * 400 := Nat.mul_le_mul (by omega) (by omega)
    omega
end Go.Proofs.Ytfeneeacchpfeai
