/- What the law's own helpers (measure, copy, compare, mark, hold) make of nets; no condition but that there are at most a million parts. -/
import Derived.Test.YtebgibjokljlbaaRows
import Derived.Deep.DeepCutAuto
import Derived.Deep.MidRow
import Derived.Test.YtebgibjokljlbaaK01
import Derived.Test.YtebgibjokljlbaaK02
import Derived.Test.YtebgibjokljlbaaK03
import Derived.Test.YtebgibjokljlbaaK10
import Derived.Test.YtebgibjokljlbaaK17
import Derived.Test.YtebgibjokljlbaaK20
import Derived.Test.YtebgibjokljlbaaK55
import Derived.Test.YtebgibjokljlbaaK56
namespace Go.Proofs.Ytebgibjokljlbaa
open Go.RowKit Go.ChangeShapes Go.WideShapes Go.ChangeAt
set_option linter.unusedVariables false
set_option maxRecDepth 8000

abbrev shNetT (t : TypeId) : Sh := .cons shSegms (.cons (bls t) .nil)
abbrev shNet : Sh := shNetT 4
abbrev DNet : Type := List DSegm × List Bool × Unit
def totNet (x : DNet) : Nat := totSegms x.1 + x.2.1.length
def wtNet (x : DNet) : Nat := fsum wtSegm x.1 + x.2.1.length
def mkNet (c : Int) : DNet → DNet
  | (l, d, _) => (mkL mkSegm wtSegm c l, markB (c + (fsum wtSegm l : Nat)) d.length, ())
theorem wtSegmN : ∀ (l : List DSegm), fsum wtSegm l = 11 * l.length + fsum totSegm l
  | [] => rfl
  | x :: r => by
    have h := wtSegmN r
    have e : wtSegm x = 11 + totSegm x := rfl
    rw [fsum_cons, fsum_cons, List.length_cons, e, h]; omega
theorem wtNet_le {x : DNet} (h : totNet x ≤ 1048576) : wtNet x ≤ 12582912 := by
  unfold totNet totSegms at h
  unfold wtNet
  have := wtSegmN x.1
  omega
theorem rd_Net {w : World} {B : Nat} {t : TypeId} {l : List DSegm} {d : List Bool} {cs : List Value} (h : (shNetT t).Rd w B (l, d, ()) cs) : ∃ a c a' c', cs = [.slice a l.length c, .slice a' d.length c'] ∧ shSegms.Rd w B l [.slice a l.length c] ∧ (bls t).Rd w B d [.slice a' d.length c'] := by
  obtain ⟨p0, q0, e0, h0, p1, q1, e1, h1, hz⟩ := h
  have hz' : q1 = [] := hz
  obtain ⟨a, c, f0⟩ := row_form h0
  subst f0
  obtain ⟨a', c', f1⟩ := row_form h1
  subst f1
  exact ⟨a, c, a', c', by rw [e0, e1, hz']; rfl, h0, h1⟩
theorem ow_Net {w : World} {bs : List Nat} {t : TypeId} {l : List DSegm} {d : List Bool} {cs : List Value} (h : (shNetT t).Ow w bs (l, d, ()) cs) : ∃ b1 b2 a c a' c', bs = b1 ++ b2 ∧ cs = [.slice a l.length c, .slice a' d.length c'] ∧ shSegms.Ow w b1 l [.slice a l.length c] ∧ (bls t).Ow w b2 d [.slice a' d.length c'] := by
  obtain ⟨a0, r0, p0, q0, eb0, ec0, h0, a1, r1, p1, q1, eb1, ec1, h1, zb, zc⟩ := h
  obtain ⟨a, c, f0⟩ := row_form (Sh.Ow.rd (Nat.le_refl _) _ _ _ _ h0)
  subst f0
  obtain ⟨a', c', f1⟩ := row_form (Sh.Ow.rd (Nat.le_refl _) _ _ _ _ h1)
  subst f1
  exact ⟨a0, a1, a, c, a', c', by rw [eb0, eb1, zb]; simp, by rw [ec0, ec1, zc]; rfl, h0, h1⟩
theorem mk_Net {w : World} {b1 b2 : List Nat} {t : TypeId} {l : List DSegm} {d : List Bool} {v u : Value} (h1 : shSegms.Ow w b1 l [v]) (h2 : (bls t).Ow w b2 d [u]) : (shNetT t).Ow w (b1 ++ b2) (l, d, ()) [v, u] :=
  ⟨b1, b2, [v], [u], rfl, rfl, h1, b2, [], [u], [], by simp, rfl, h2, rfl, rfl⟩
theorem own_Net {w : World} {lo mid hi : Nat} {t : TypeId} {l : List DSegm} {d : List Bool} {v u : Value} (h1 : Own w lo mid shSegms l [v]) (h2 : Own w mid hi (bls t) d [u]) (hlm : lo ≤ mid) (hmh : mid ≤ hi) : Own w lo hi (shNetT t) (l, d, ()) [v, u] :=
  hOwnCons h1 (hOwnCons h2 (hOwnNil _ hi hi) hmh (Nat.le_refl _)) hlm hmh
/-- The same, the bools ahead. -/
theorem own_Net' {w : World} {lo mid hi : Nat} {t : TypeId} {l : List DSegm} {d : List Bool} {v u : Value} (h2 : Own w lo mid (bls t) d [u]) (h1 : Own w mid hi shSegms l [v]) (hlm : lo ≤ mid) (hmh : mid ≤ hi) : Own w lo hi (shNetT t) (l, d, ()) [v, u] := by
  obtain ⟨b1, k1, n1, r1⟩ := h1
  obtain ⟨b2, k2, n2, r2⟩ := h2
  refine ⟨b1 ++ b2, mk_Net k1 k2, List.nodup_append.2 ⟨n1, n2, fun a ha b hb e => ?_⟩, fun b hb => ?_⟩
  · subst e
    have := r1 a ha; have := r2 a hb; omega
  · rcases List.mem_append.1 hb with h | h
    · have := r1 b h; omega
    · have := r2 b h; omega





end Go.Proofs.Ytebgibjokljlbaa

/- NetFault of nets that stand as arrays; no condition. -/
namespace Go.Proofs.Ytebgibjokljlbaa
open Go.RowKit
set_option linter.unusedVariables false
theorem iNetFaultA (x : DNet) (A : Array Value) (w : World) (B : Nat) (hr : shNet.Rd w B x A.toList) (hB : B ≤ w.heap.size) (hT : totNet x ≤ 1048576) :
    Calls Try.prog 23 #[.agg A] w fun e w' => e = .returned (.int .i64 (netF x.1 x.2.1)) ∧ Below w.heap.size w w' := by
  obtain ⟨l, d, ⟨⟩⟩ := x
  obtain ⟨a, c, a1, c1, eA, r1, r2⟩ := rd_Net hr
  rw [arr_of eA]
  exact iNetFault _ l d _ _ w B r1 r2 hB
end Go.Proofs.Ytebgibjokljlbaa
