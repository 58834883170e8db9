/- Segments as cells: what reads, what is owned; marks over a row of segments of the call's own; no condition but that there are at most a million parts. Written by mkm1.py. -/
import Derived.Test.YtebgibjokljlbaaRows
import Derived.Deep.DeepCutAuto
import Derived.Deep.RegionHeld3
import Derived.Deep.MidRow
import Derived.Test.YtebgibjokljlbaaK01
import Derived.Test.YtebgibjokljlbaaK02
import Derived.Test.YtebgibjokljlbaaK03
import Derived.Test.YtebgibjokljlbaaK10
import Derived.Test.YtebgibjokljlbaaK17
namespace Go.Proofs.Ytebgibjokljlbaa
open Go.RowKit
set_option linter.unusedVariables false
set_option maxRecDepth 8000

abbrev shSegm : Sh := .cons (.int .i64) (.cons (.int .i64) (.cons .bool (.cons .bool (.cons .bool (.cons (.int .i64) (.cons (.int .i64) (.cons (.int .i64) (.cons (.int .i64) (.cons (.int .i64) (.cons (.int .i64) (.cons u8s .nil)))))))))))
abbrev DSegm : Type := Int × Int × Bool × Bool × Bool × Int × Int × Int × Int × Int × Int × List Int × Unit
abbrev shSegms : Sh := .row 48 shSegm
def wtSegm : DSegm → Nat
  | (_, _, _, _, _, _, _, _, _, _, _, ld, _) => 11 + ld.length
def mkSegm (c : Int) : DSegm → DSegm
  | (_, _, _, _, _, _, _, _, _, _, _, ld, _) => (c, c + 1, (c + 1 + 1) % 3 == 0, (c + 1 + 1 + 1) % 3 == 0, (c + 1 + 1 + 1 + 1) % 3 == 0, c + 1 + 1 + 1 + 1 + 1, c + 1 + 1 + 1 + 1 + 1 + 1, c + 1 + 1 + 1 + 1 + 1 + 1 + 1, c + 1 + 1 + 1 + 1 + 1 + 1 + 1 + 1, c + 1 + 1 + 1 + 1 + 1 + 1 + 1 + 1 + 1, c + 1 + 1 + 1 + 1 + 1 + 1 + 1 + 1 + 1 + 1, marks (c + 1 + 1 + 1 + 1 + 1 + 1 + 1 + 1 + 1 + 1 + 1) ld.length, ())
theorem rd_Segm {w : World} {B : Nat} {y0 : Int} {y1 : Int} {y2 : Bool} {y3 : Bool} {y4 : Bool} {y5 : Int} {y6 : Int} {y7 : Int} {y8 : Int} {y9 : Int} {y10 : Int} {ld : List Int} {cs : List Value} (h : shSegm.Rd w B (y0, y1, y2, y3, y4, y5, y6, y7, y8, y9, y10, ld, ()) cs) : ∃ u, cs = [.int .i64 (y0), .int .i64 (y1), .bool (y2), .bool (y3), .bool (y4), .int .i64 (y5), .int .i64 (y6), .int .i64 (y7), .int .i64 (y8), .int .i64 (y9), .int .i64 (y10), u] ∧ u8s.Rd w B ld [u] ∧ (Lit.int .i64 y0).wf = true ∧ (Lit.int .i64 y1).wf = true ∧ (Lit.int .i64 y5).wf = true ∧ (Lit.int .i64 y6).wf = true ∧ (Lit.int .i64 y7).wf = true ∧ (Lit.int .i64 y8).wf = true ∧ (Lit.int .i64 y9).wf = true ∧ (Lit.int .i64 y10).wf = true := by
  obtain ⟨p0, q0, e0, ⟨g0, w0⟩, p1, q1, e1, ⟨g1, w1⟩, p2, q2, e2, g2, p3, q3, e3, g3, p4, q4, e4, g4, p5, q5, e5, ⟨g5, w5⟩, p6, q6, e6, ⟨g6, w6⟩, p7, q7, e7, ⟨g7, w7⟩, p8, q8, e8, ⟨g8, w8⟩, p9, q9, e9, ⟨g9, w9⟩, p10, q10, e10, ⟨g10, w10⟩, p11, q11, e11, hL, hz⟩ := h
  have hz' : q11 = [] := hz
  obtain ⟨a, k, f⟩ := row_form hL
  subst f
  refine ⟨_, ?_, hL, w0, w1, w5, w6, w7, w8, w9, w10⟩
  rw [e0, g0, e1, g1, e2, g2, e3, g3, e4, g4, e5, g5, e6, g6, e7, g7, e8, g8, e9, g9, e10, g10, e11, hz']
  rfl
theorem ow_Segm {w : World} {bs : List Nat} {y0 : Int} {y1 : Int} {y2 : Bool} {y3 : Bool} {y4 : Bool} {y5 : Int} {y6 : Int} {y7 : Int} {y8 : Int} {y9 : Int} {y10 : Int} {ld : List Int} {cs : List Value} (h : shSegm.Ow w bs (y0, y1, y2, y3, y4, y5, y6, y7, y8, y9, y10, ld, ()) cs) : ∃ u, cs = [.int .i64 (y0), .int .i64 (y1), .bool (y2), .bool (y3), .bool (y4), .int .i64 (y5), .int .i64 (y6), .int .i64 (y7), .int .i64 (y8), .int .i64 (y9), .int .i64 (y10), u] ∧ u8s.Ow w bs ld [u] := by
  obtain ⟨a0, r0, p0, q0, eb0, ec0, ⟨f0, g0, w0⟩, a1, r1, p1, q1, eb1, ec1, ⟨f1, g1, w1⟩, a2, r2, p2, q2, eb2, ec2, ⟨f2, g2⟩, a3, r3, p3, q3, eb3, ec3, ⟨f3, g3⟩, a4, r4, p4, q4, eb4, ec4, ⟨f4, g4⟩, a5, r5, p5, q5, eb5, ec5, ⟨f5, g5, w5⟩, a6, r6, p6, q6, eb6, ec6, ⟨f6, g6, w6⟩, a7, r7, p7, q7, eb7, ec7, ⟨f7, g7, w7⟩, a8, r8, p8, q8, eb8, ec8, ⟨f8, g8, w8⟩, a9, r9, p9, q9, eb9, ec9, ⟨f9, g9, w9⟩, a10, r10, p10, q10, eb10, ec10, ⟨f10, g10, w10⟩, aL, rL, pL, qL, ebL, ecL, hL, zb, zc⟩ := h
  have l : pL.length = 1 := Sh.Ow.len _ _ _ _ hL
  match pL, l with
  | [u], _ =>
    have eb : bs = aL := by rw [eb0, f0, eb1, f1, eb2, f2, eb3, f3, eb4, f4, eb5, f5, eb6, f6, eb7, f7, eb8, f8, eb9, f9, eb10, f10, ebL, zb]; simp
    subst eb
    refine ⟨u, ?_, hL⟩
    rw [ec0, g0, ec1, g1, ec2, g2, ec3, g3, ec4, g4, ec5, g5, ec6, g6, ec7, g7, ec8, g8, ec9, g9, ec10, g10, ecL, zc]
    rfl
theorem mk_Segm {w : World} {bs : List Nat} {y0 : Int} {y1 : Int} {y2 : Bool} {y3 : Bool} {y4 : Bool} {y5 : Int} {y6 : Int} {y7 : Int} {y8 : Int} {y9 : Int} {y10 : Int} {ld : List Int} {u : Value} (hL : u8s.Ow w bs ld [u]) (w0 : (Lit.int .i64 y0).wf = true) (w1 : (Lit.int .i64 y1).wf = true) (w5 : (Lit.int .i64 y5).wf = true) (w6 : (Lit.int .i64 y6).wf = true) (w7 : (Lit.int .i64 y7).wf = true) (w8 : (Lit.int .i64 y8).wf = true) (w9 : (Lit.int .i64 y9).wf = true) (w10 : (Lit.int .i64 y10).wf = true) : shSegm.Ow w bs (y0, y1, y2, y3, y4, y5, y6, y7, y8, y9, y10, ld, ()) [.int .i64 (y0), .int .i64 (y1), .bool (y2), .bool (y3), .bool (y4), .int .i64 (y5), .int .i64 (y6), .int .i64 (y7), .int .i64 (y8), .int .i64 (y9), .int .i64 (y10), u] :=
  ⟨[], bs, [_], _, rfl, rfl, ⟨rfl, rfl, w0⟩, [], bs, [_], _, rfl, rfl, ⟨rfl, rfl, w1⟩, [], bs, [_], _, rfl, rfl, ⟨rfl, rfl⟩, [], bs, [_], _, rfl, rfl, ⟨rfl, rfl⟩, [], bs, [_], _, rfl, rfl, ⟨rfl, rfl⟩, [], bs, [_], _, rfl, rfl, ⟨rfl, rfl, w5⟩, [], bs, [_], _, rfl, rfl, ⟨rfl, rfl, w6⟩, [], bs, [_], _, rfl, rfl, ⟨rfl, rfl, w7⟩, [], bs, [_], _, rfl, rfl, ⟨rfl, rfl, w8⟩, [], bs, [_], _, rfl, rfl, ⟨rfl, rfl, w9⟩, [], bs, [_], _, rfl, rfl, ⟨rfl, rfl, w10⟩, bs, [], [u], [], (List.append_nil _).symm, rfl, hL, rfl, rfl⟩
theorem wtSegm_sum : ∀ (l : List DSegm), l.length ≤ fsum wtSegm l
  | [] => Nat.le_refl _
  | x :: l => by
    obtain ⟨y0, y1, y2, y3, y4, y5, y6, y7, y8, y9, y10, ld, ⟨⟩⟩ := x
    rw [fsum_cons, List.length_cons]
    have := wtSegm_sum l
    have h : wtSegm (y0, y1, y2, y3, y4, y5, y6, y7, y8, y9, y10, ld, PUnit.unit) = 11 + ld.length := rfl
    omega
end Go.Proofs.Ytebgibjokljlbaa

/- What compares segments and rows of them; no condition but that there are at most a million parts. Written by mkm1.py. -/
namespace Go.Proofs.Ytebgibjokljlbaa
open Go.RowKit
set_option linter.unusedVariables false
set_option maxRecDepth 8000

def totSegm : DSegm → Nat
  | (_, _, _, _, _, _, _, _, _, _, _, ld, _) => ld.length
def totSegms (l : List DSegm) : Nat := l.length + fsum totSegm l
end Go.Proofs.Ytebgibjokljlbaa

/- What the law's own helpers (compare, mark, hold against the marks) make of an answer that holds a segment; an answer stands as one value; no condition but that there are at most a million parts. -/
namespace Go.Proofs.Ytebgibjokljlbaa
open Go.RowKit
set_option linter.unusedVariables false
set_option maxRecDepth 8000

abbrev shSR : Sh := .cons (.int .i64) (.cons shSegm .nil)
abbrev DSR : Type := Int × DSegm × Unit
def totSR (x : DSR) : Nat := totSegm x.2.1
def wtSR (x : DSR) : Nat := totSegm x.2.1
def mkSegA (c : Int) : DSegm → DSegm
  | (y0, y1, y2, y3, y4, y5, y6, y7, y8, y9, y10, ld, _) => (y0, y1, y2, y3, y4, y5, y6, y7, y8, y9, y10, marks c ld.length, ())
def mkSR (c : Int) : DSR → DSR
  | (q, s, _) => (q, mkSegA c s, ())
theorem wtSR_le {x : DSR} (h : totSR x ≤ 1048576) : wtSR x ≤ 16777216 := by unfold totSR at h; unfold wtSR; omega
theorem rd_SR {w : World} {B : Nat} {q : Int} {s : DSegm} {cs : List Value} (h : shSR.Rd w B (q, s, ()) cs) : ∃ S : List Value, cs = .int .i64 q :: S ∧ S.length = 12 ∧ shSegm.Rd w B s S ∧ (Lit.int .i64 q).wf = true := by
  obtain ⟨p0, q0, e0, ⟨g0, w0⟩, p1, q1, e1, h1, hz⟩ := h
  have hz' : q1 = [] := hz
  have hl : p1.length = 12 := Sh.Rd.len _ _ _ h1
  refine ⟨p1, ?_, hl, h1, w0⟩
  rw [e0, g0, e1, hz']
  simp
theorem sr_range {w : World} {b : Nat} {N : Array Value} {q : Value} {S : List Value} (h : N.toList = q :: S) (hc : ∀ o, w.cell? ⟨b, o, none⟩ = N[o]?) : w.rangeAt b 1 S := fun j v hv => by
  rw [hc (1 + j), Nat.add_comm 1 j, get_of h, List.getElem?_cons_succ]
  exact hv
theorem info_SG : (Try.prog.info? 48).map (·.size) = some 12 := by kernel_rfl
theorem ow_SR {w : World} {bs : List Nat} {q : Int} {s : DSegm} {cs : List Value} (h : shSR.Ow w bs (q, s, ()) cs) :
    ∃ S : List Value, cs = .int .i64 q :: S ∧ S.length = 12 ∧ shSegm.Ow w bs s S ∧ (∀ (W : World) (s' : DSegm), shSegm.Ow W bs s' S → shSR.Ow W bs (q, s', ()) cs) := by
  obtain ⟨a0, r0, p0, q0, eb0, ec0, ⟨f0, g0, w0⟩, a1, r1, p1, q1, eb1, ec1, h1, zb, zc⟩ := h
  have eb : bs = a1 := by rw [eb0, f0, eb1, zb]; simp
  subst eb
  refine ⟨p1, ?_, Sh.Ow.len _ _ _ _ h1, h1, fun W s' k => ⟨a0, r0, p0, q0, eb0, ec0, ⟨f0, g0, w0⟩, bs, r1, p1, q1, eb1, ec1, k, zb, zc⟩⟩
  rw [ec0, g0, ec1, zc]
  simp
end Go.Proofs.Ytebgibjokljlbaa
