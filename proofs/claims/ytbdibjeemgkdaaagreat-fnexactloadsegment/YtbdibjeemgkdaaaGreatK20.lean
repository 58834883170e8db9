/- Segments as cells: what reads, what is owned; marks over a row of segments of the call's own; no condition but that there are at most a million parts. Written by mkm1.py. -/
import Derived.Test.YtbdibjeemgkdaaaGreatRows
import Derived.Deep.DeepCutAuto
import Derived.Deep.RegionHeld3
import Derived.Deep.MidRow
import Derived.Test.YtbdibjeemgkdaaaGreatK01
import Derived.Test.YtbdibjeemgkdaaaGreatK02
import Derived.Test.YtbdibjeemgkdaaaGreatK03
import Derived.Test.YtbdibjeemgkdaaaGreatK10
import Derived.Test.YtbdibjeemgkdaaaGreatK11
import Derived.Test.YtbdibjeemgkdaaaGreatK17
import Derived.Test.YtbdibjeemgkdaaaGreatK19
namespace Go.Proofs.YtbdibjeemgkdaaaGreat
open Go.RowKit
set_option linter.unusedVariables false
set_option maxRecDepth 8000

abbrev shSegm : Sh := .cons (.int .i64) (.cons (.int .i64) (.cons .bool (.cons .bool (.cons .bool (.cons (.int .i64) (.cons (.int .i64) (.cons (.int .i64) (.cons (.int .i64) (.cons (.int .i64) (.cons (.int .i64) (.cons u8s .nil)))))))))))
abbrev DSegm : Type := Int × Int × Bool × Bool × Bool × Int × Int × Int × Int × Int × Int × List Int × Unit
abbrev shSegms : Sh := .row 31 shSegm
def wtSegm : DSegm → Nat
  | (_, _, _, _, _, _, _, _, _, _, _, ld, _) => 11 + ld.length
def mkSegm (c : Int) : DSegm → DSegm
  | (_, _, _, _, _, _, _, _, _, _, _, ld, _) => (c, c + 1, (c + 1 + 1) % 3 == 0, (c + 1 + 1 + 1) % 3 == 0, (c + 1 + 1 + 1 + 1) % 3 == 0, c + 1 + 1 + 1 + 1 + 1, c + 1 + 1 + 1 + 1 + 1 + 1, c + 1 + 1 + 1 + 1 + 1 + 1 + 1, c + 1 + 1 + 1 + 1 + 1 + 1 + 1 + 1, c + 1 + 1 + 1 + 1 + 1 + 1 + 1 + 1 + 1, c + 1 + 1 + 1 + 1 + 1 + 1 + 1 + 1 + 1 + 1, marks (c + 1 + 1 + 1 + 1 + 1 + 1 + 1 + 1 + 1 + 1 + 1) ld.length, ())
theorem rd_Segm {w : World} {B : Nat} {y0 : Int} {y1 : Int} {y2 : Bool} {y3 : Bool} {y4 : Bool} {y5 : Int} {y6 : Int} {y7 : Int} {y8 : Int} {y9 : Int} {y10 : Int} {ld : List Int} {cs : List Value} (h : shSegm.Rd w B (y0, y1, y2, y3, y4, y5, y6, y7, y8, y9, y10, ld, ()) cs) : ∃ u, cs = [.int .i64 (y0), .int .i64 (y1), .bool (y2), .bool (y3), .bool (y4), .int .i64 (y5), .int .i64 (y6), .int .i64 (y7), .int .i64 (y8), .int .i64 (y9), .int .i64 (y10), u] ∧ u8s.Rd w B ld [u] ∧ (Lit.int .i64 y0).wf = true ∧ (Lit.int .i64 y1).wf = true ∧ (Lit.int .i64 y5).wf = true ∧ (Lit.int .i64 y6).wf = true ∧ (Lit.int .i64 y7).wf = true ∧ (Lit.int .i64 y8).wf = true ∧ (Lit.int .i64 y9).wf = true ∧ (Lit.int .i64 y10).wf = true := by
  obtain ⟨p0, q0, e0, ⟨g0, w0⟩, p1, q1, e1, ⟨g1, w1⟩, p2, q2, e2, g2, p3, q3, e3, g3, p4, q4, e4, g4, p5, q5, e5, ⟨g5, w5⟩, p6, q6, e6, ⟨g6, w6⟩, p7, q7, e7, ⟨g7, w7⟩, p8, q8, e8, ⟨g8, w8⟩, p9, q9, e9, ⟨g9, w9⟩, p10, q10, e10, ⟨g10, w10⟩, p11, q11, e11, hL, hz⟩ := h
  have hz' : q11 = [] := hz
  obtain ⟨a, k, f⟩ := row_form hL
  subst f
  refine ⟨_, ?_, hL, w0, w1, w5, w6, w7, w8, w9, w10⟩
  rw [e0, g0, e1, g1, e2, g2, e3, g3, e4, g4, e5, g5, e6, g6, e7, g7, e8, g8, e9, g9, e10, g10, e11, hz']
  rfl
theorem ow_Segm {w : World} {bs : List Nat} {y0 : Int} {y1 : Int} {y2 : Bool} {y3 : Bool} {y4 : Bool} {y5 : Int} {y6 : Int} {y7 : Int} {y8 : Int} {y9 : Int} {y10 : Int} {ld : List Int} {cs : List Value} (h : shSegm.Ow w bs (y0, y1, y2, y3, y4, y5, y6, y7, y8, y9, y10, ld, ()) cs) : ∃ u, cs = [.int .i64 (y0), .int .i64 (y1), .bool (y2), .bool (y3), .bool (y4), .int .i64 (y5), .int .i64 (y6), .int .i64 (y7), .int .i64 (y8), .int .i64 (y9), .int .i64 (y10), u] ∧ u8s.Ow w bs ld [u] := by
  obtain ⟨a0, r0, p0, q0, eb0, ec0, ⟨f0, g0, w0⟩, a1, r1, p1, q1, eb1, ec1, ⟨f1, g1, w1⟩, a2, r2, p2, q2, eb2, ec2, ⟨f2, g2⟩, a3, r3, p3, q3, eb3, ec3, ⟨f3, g3⟩, a4, r4, p4, q4, eb4, ec4, ⟨f4, g4⟩, a5, r5, p5, q5, eb5, ec5, ⟨f5, g5, w5⟩, a6, r6, p6, q6, eb6, ec6, ⟨f6, g6, w6⟩, a7, r7, p7, q7, eb7, ec7, ⟨f7, g7, w7⟩, a8, r8, p8, q8, eb8, ec8, ⟨f8, g8, w8⟩, a9, r9, p9, q9, eb9, ec9, ⟨f9, g9, w9⟩, a10, r10, p10, q10, eb10, ec10, ⟨f10, g10, w10⟩, aL, rL, pL, qL, ebL, ecL, hL, zb, zc⟩ := h
  have l : pL.length = 1 := Sh.Ow.len _ _ _ _ hL
  match pL, l with
  | [u], _ =>
    have eb : bs = aL := by rw [eb0, f0, eb1, f1, eb2, f2, eb3, f3, eb4, f4, eb5, f5, eb6, f6, eb7, f7, eb8, f8, eb9, f9, eb10, f10, ebL, zb]; simp
    subst eb
    refine ⟨u, ?_, hL⟩
    rw [ec0, g0, ec1, g1, ec2, g2, ec3, g3, ec4, g4, ec5, g5, ec6, g6, ec7, g7, ec8, g8, ec9, g9, ec10, g10, ecL, zc]
    rfl
theorem mk_Segm {w : World} {bs : List Nat} {y0 : Int} {y1 : Int} {y2 : Bool} {y3 : Bool} {y4 : Bool} {y5 : Int} {y6 : Int} {y7 : Int} {y8 : Int} {y9 : Int} {y10 : Int} {ld : List Int} {u : Value} (hL : u8s.Ow w bs ld [u]) (w0 : (Lit.int .i64 y0).wf = true) (w1 : (Lit.int .i64 y1).wf = true) (w5 : (Lit.int .i64 y5).wf = true) (w6 : (Lit.int .i64 y6).wf = true) (w7 : (Lit.int .i64 y7).wf = true) (w8 : (Lit.int .i64 y8).wf = true) (w9 : (Lit.int .i64 y9).wf = true) (w10 : (Lit.int .i64 y10).wf = true) : shSegm.Ow w bs (y0, y1, y2, y3, y4, y5, y6, y7, y8, y9, y10, ld, ()) [.int .i64 (y0), .int .i64 (y1), .bool (y2), .bool (y3), .bool (y4), .int .i64 (y5), .int .i64 (y6), .int .i64 (y7), .int .i64 (y8), .int .i64 (y9), .int .i64 (y10), u] :=
  ⟨[], bs, [_], _, rfl, rfl, ⟨rfl, rfl, w0⟩, [], bs, [_], _, rfl, rfl, ⟨rfl, rfl, w1⟩, [], bs, [_], _, rfl, rfl, ⟨rfl, rfl⟩, [], bs, [_], _, rfl, rfl, ⟨rfl, rfl⟩, [], bs, [_], _, rfl, rfl, ⟨rfl, rfl⟩, [], bs, [_], _, rfl, rfl, ⟨rfl, rfl, w5⟩, [], bs, [_], _, rfl, rfl, ⟨rfl, rfl, w6⟩, [], bs, [_], _, rfl, rfl, ⟨rfl, rfl, w7⟩, [], bs, [_], _, rfl, rfl, ⟨rfl, rfl, w8⟩, [], bs, [_], _, rfl, rfl, ⟨rfl, rfl, w9⟩, [], bs, [_], _, rfl, rfl, ⟨rfl, rfl, w10⟩, bs, [], [u], [], (List.append_nil _).symm, rfl, hL, rfl, rfl⟩
theorem wtSegm_sum : ∀ (l : List DSegm), l.length ≤ fsum wtSegm l
  | [] => Nat.le_refl _
  | x :: l => by
    obtain ⟨y0, y1, y2, y3, y4, y5, y6, y7, y8, y9, y10, ld, ⟨⟩⟩ := x
    rw [fsum_cons, List.length_cons]
    have := wtSegm_sum l
    have h : wtSegm (y0, y1, y2, y3, y4, y5, y6, y7, y8, y9, y10, ld, PUnit.unit) = 11 + ld.length := rfl
    omega
end Go.Proofs.YtbdibjeemgkdaaaGreat

/- What compares segments and rows of them; no condition but that there are at most a million parts. Written by mkm1.py. -/
namespace Go.Proofs.YtbdibjeemgkdaaaGreat
open Go.RowKit
set_option linter.unusedVariables false
set_option maxRecDepth 8000

def totSegm : DSegm → Nat
  | (_, _, _, _, _, _, _, _, _, _, _, ld, _) => ld.length
def totSegms (l : List DSegm) : Nat := l.length + fsum totSegm l
set_option maxHeartbeats 4000000 in
theorem lEqSegmA (x : DSegm) (A A' : Array Value) (w : World) (B : Nat) (hr : shSegm.Rd w B x A.toList) (hr' : shSegm.Rd w B x A'.toList) (hB : B ≤ w.heap.size) (hT : totSegm x ≤ 1048576) :
    Calls Tryz.prog 30 #[.agg A, .agg A'] w fun e w' => e = .returned (.bool true) ∧ Below w.heap.size w w' := by
  obtain ⟨y0, y1, y2, y3, y4, y5, y6, y7, y8, y9, y10, ld, ⟨⟩⟩ := x
  obtain ⟨u, eA, r, -⟩ := rd_Segm hr
  obtain ⟨u', eB, r', -⟩ := rd_Segm hr'
  obtain ⟨la, lc, e1⟩ := row_form r
  simp only [List.cons.injEq, and_true] at e1
  subst e1
  obtain ⟨ka, kc, e1⟩ := row_form r'
  simp only [List.cons.injEq, and_true] at e1
  subst e1
  have ht : ld.length ≤ 1048576 := hT
  have H1 : Hid (∀ W, Below w.heap.size w W → Calls Tryz.prog 31 #[.slice la ld.length lc, .slice ka ld.length kc] W fun e w' => e = .returned (.bool true) ∧ Below W.heap.size W w') := fun W hW => lEqBytes ld (.slice la ld.length lc) (.slice ka ld.length kc) W B (Sh.Rd.below r hB hW) (Sh.Rd.below r' hB hW) (Nat.le_trans hB hW.size) ht
  generalize ld.length = n at *
  have a0 : A[0]? = some (.int .i64 y0) := get_of eA 0
  have a1 : A[1]? = some (.int .i64 y1) := get_of eA 1
  have a2 : A[2]? = some (.bool y2) := get_of eA 2
  have a3 : A[3]? = some (.bool y3) := get_of eA 3
  have a4 : A[4]? = some (.bool y4) := get_of eA 4
  have a5 : A[5]? = some (.int .i64 y5) := get_of eA 5
  have a6 : A[6]? = some (.int .i64 y6) := get_of eA 6
  have a7 : A[7]? = some (.int .i64 y7) := get_of eA 7
  have a8 : A[8]? = some (.int .i64 y8) := get_of eA 8
  have a9 : A[9]? = some (.int .i64 y9) := get_of eA 9
  have a10 : A[10]? = some (.int .i64 y10) := get_of eA 10
  have a11 : A[11]? = some (.slice la n lc) := get_of eA 11
  have b0 : A'[0]? = some (.int .i64 y0) := get_of eB 0
  have b1 : A'[1]? = some (.int .i64 y1) := get_of eB 1
  have b2 : A'[2]? = some (.bool y2) := get_of eB 2
  have b3 : A'[3]? = some (.bool y3) := get_of eB 3
  have b4 : A'[4]? = some (.bool y4) := get_of eB 4
  have b5 : A'[5]? = some (.int .i64 y5) := get_of eB 5
  have b6 : A'[6]? = some (.int .i64 y6) := get_of eB 6
  have b7 : A'[7]? = some (.int .i64 y7) := get_of eB 7
  have b8 : A'[8]? = some (.int .i64 y8) := get_of eB 8
  have b9 : A'[9]? = some (.int .i64 y9) := get_of eB 9
  have b10 : A'[10]? = some (.int .i64 y10) := get_of eB 10
  have b11 : A'[11]? = some (.slice ka n kc) := get_of eB 11
  clear hr hr' hT eA eB r r'
  go_enter Tryz.func30, Tryz.ntmps30
  go_wp2_with fail
  refine (H1.out _ (by go_grown)).mono ?_
  rintro e w1 ⟨rfl, hb⟩
  have HB : Hid (Below w.heap.size w w1) := Below.trans (by go_grown) (hb.mono (by simp; omega))
  clear hb H1
  go_wp2_with fail
  go_ret
  exact ⟨rfl, HB.out⟩
end Go.Proofs.YtbdibjeemgkdaaaGreat

/- What the law's own helpers (compare, mark, hold against the marks) make of an answer that holds a segment; an answer stands as one value; no condition but that there are at most a million parts. -/
namespace Go.Proofs.YtbdibjeemgkdaaaGreat
open Go.RowKit
set_option linter.unusedVariables false
set_option maxRecDepth 8000

abbrev shSR : Sh := .cons (.int .i64) (.cons shSegm .nil)
abbrev DSR : Type := Int × DSegm × Unit
def totSR (x : DSR) : Nat := totSegm x.2.1
def wtSR (x : DSR) : Nat := totSegm x.2.1
def mkSegA (c : Int) : DSegm → DSegm
  | (y0, y1, y2, y3, y4, y5, y6, y7, y8, y9, y10, ld, _) => (y0, y1, y2, y3, y4, y5, y6, y7, y8, y9, y10, marks c ld.length, ())
def mkSR (c : Int) : DSR → DSR
  | (q, s, _) => (q, mkSegA c s, ())
theorem wtSR_le {x : DSR} (h : totSR x ≤ 1048576) : wtSR x ≤ 16777216 := by unfold totSR at h; unfold wtSR; omega
theorem rd_SR {w : World} {B : Nat} {q : Int} {s : DSegm} {cs : List Value} (h : shSR.Rd w B (q, s, ()) cs) : ∃ S : List Value, cs = .int .i64 q :: S ∧ S.length = 12 ∧ shSegm.Rd w B s S ∧ (Lit.int .i64 q).wf = true := by
  obtain ⟨p0, q0, e0, ⟨g0, w0⟩, p1, q1, e1, h1, hz⟩ := h
  have hz' : q1 = [] := hz
  have hl : p1.length = 12 := Sh.Rd.len _ _ _ h1
  refine ⟨p1, ?_, hl, h1, w0⟩
  rw [e0, g0, e1, hz']
  simp
theorem sr_range {w : World} {b : Nat} {N : Array Value} {q : Value} {S : List Value} (h : N.toList = q :: S) (hc : ∀ o, w.cell? ⟨b, o, none⟩ = N[o]?) : w.rangeAt b 1 S := fun j v hv => by
  rw [hc (1 + j), Nat.add_comm 1 j, get_of h, List.getElem?_cons_succ]
  exact hv
theorem info_SG : (Tryz.prog.info? 31).map (·.size) = some 12 := by kernel_rfl
theorem ow_SR {w : World} {bs : List Nat} {q : Int} {s : DSegm} {cs : List Value} (h : shSR.Ow w bs (q, s, ()) cs) :
    ∃ S : List Value, cs = .int .i64 q :: S ∧ S.length = 12 ∧ shSegm.Ow w bs s S ∧ (∀ (W : World) (s' : DSegm), shSegm.Ow W bs s' S → shSR.Ow W bs (q, s', ()) cs) := by
  obtain ⟨a0, r0, p0, q0, eb0, ec0, ⟨f0, g0, w0⟩, a1, r1, p1, q1, eb1, ec1, h1, zb, zc⟩ := h
  have eb : bs = a1 := by rw [eb0, f0, eb1, zb]; simp
  subst eb
  refine ⟨p1, ?_, Sh.Ow.len _ _ _ _ h1, h1, fun W s' k => ⟨a0, r0, p0, q0, eb0, ec0, ⟨f0, g0, w0⟩, bs, r1, p1, q1, eb1, ec1, k, zb, zc⟩⟩
  rw [ec0, g0, ec1, zc]
  simp
set_option maxHeartbeats 1000000 in
theorem lMarkSegA (x : DSegm) (A : Array Value) (c : Int) (w : World) (bs : List Nat) (hO : shSegm.Ow w bs x A.toList) (hnd : bs.Nodup) (hT : totSegm x ≤ 1048576) (hc0 : 0 ≤ c) (hc1 : c ≤ 16777216) :
    Calls Tryz.prog 37 #[.agg A, .int .i64 c] w fun e w' => e = .returned (.int .i64 (c + (totSegm x : Nat))) ∧ shSegm.Ow w' bs (mkSegA c x) A.toList ∧ Touch bs w w' := by
  obtain ⟨y0, y1, y2, y3, y4, y5, y6, y7, y8, y9, y10, ld, ⟨⟩⟩ := x
  obtain ⟨u, eA, hu⟩ := ow_Segm hO
  obtain ⟨uu, eA', r, f0, f1, f5, f6, f7, f8, f9, f10⟩ := rd_Segm (Sh.Ow.rd (Nat.le_refl w.heap.size) _ _ _ _ hO)
  have ht : ld.length ≤ 1048576 := hT
  have a11 : A[11]? = some u := get_of eA 11
  have lb : ∀ b ∈ bs, b < w.heap.size := Sh.Ow.lt _ _ _ _ hu
  show Calls _ _ _ _ fun e w' => e = .returned (.int .i64 (c + (ld.length : Nat))) ∧ shSegm.Ow w' bs (y0, y1, y2, y3, y4, y5, y6, y7, y8, y9, y10, marks c ld.length, ()) A.toList ∧ Touch bs w w'
  have HM : Hid (∀ W, u8s.Ow W bs (marks c ld.length) [u] → shSegm.Ow W bs (y0, y1, y2, y3, y4, y5, y6, y7, y8, y9, y10, marks c ld.length, ()) A.toList) := fun W k => by show shSegm.Ow _ _ _ _; rw [eA]; exact mk_Segm k f0 f1 f5 f6 f7 f8 f9 f10
  have HL : Hid _ := lb
  obtain ⟨la, lc, e1⟩ := row_form (Sh.Ow.rd (Nat.le_refl _) _ _ _ _ hu)
  simp only [List.cons.injEq, and_true] at e1
  subst e1
  have H1 : Hid (∀ W, Below w.heap.size w W → Calls Tryz.prog 34 #[.slice la ld.length lc, .int .i64 c] W fun e w' => e = .returned (.int .i64 (c + (ld.length : Nat))) ∧ u8s.Ow w' bs (marks c ld.length) [.slice la ld.length lc] ∧ Touch bs W w') := fun W hW => lMarkBytesW ld _ c W bs (Sh.Ow.keep _ _ _ _ (fun b hb => hW.block b (lb b hb)) hu) hnd (by omega) hc0 (by omega)
  clear hO hnd hT eA eA' r f0 f1 f5 f6 f7 f8 f9 f10 hu lb
  generalize hm : marks c ld.length = M at *
  generalize ld.length = n at *
  clear hm
  go_enter Tryz.func37, Tryz.ntmps37
  go_wp2_with fail
  refine (H1.out _ (by go_grown)).mono ?_
  rintro e w1 ⟨rfl, ho1, ht1⟩
  have HO1 : Hid _ := HM.out _ ho1
  have HT1 : Hid (Touch bs w w1) := (Touch.below ((Below.refl _ _).alloc (Nat.le_refl _) _)).trans ht1
  clear ho1 ht1 H1 HM
  go_wp2_with fail
  go_ret
  exact ⟨rfl, HO1.out, HT1.out⟩
set_option maxHeartbeats 1000000 in
theorem lHeldSegA (x : DSegm) (A : Array Value) (c : Int) (w : World) (B : Nat) (hr : shSegm.Rd w B (mkSegA c x) A.toList) (hB : B ≤ w.heap.size) (hT : totSegm x ≤ 1048576) (hc0 : 0 ≤ c) (hc1 : c ≤ 16777216) :
    Calls Tryz.prog 38 #[.agg A, .int .i64 c] w fun e w' => e = .returned (.int .i64 (c + (totSegm x : Nat))) ∧ Below w.heap.size w w' := by
  obtain ⟨y0, y1, y2, y3, y4, y5, y6, y7, y8, y9, y10, ld, ⟨⟩⟩ := x
  obtain ⟨u, eA, r, -⟩ := rd_Segm hr
  have ht : ld.length ≤ 1048576 := hT
  have a11 : A[11]? = some u := get_of eA 11
  show Calls _ _ _ _ fun e w' => e = .returned (.int .i64 (c + (ld.length : Nat))) ∧ Below w.heap.size w w'
  obtain ⟨la, lc, e1⟩ := row_form r
  simp only [List.cons.injEq, and_true] at e1
  subst e1
  rw [marks_length] at r a11
  have H1 : Hid (∀ W, Below w.heap.size w W → Calls Tryz.prog 68 #[.slice la ld.length lc, .int .i64 c] W fun e w' => e = .returned (.int .i64 (c + (ld.length : Nat))) ∧ w' = W) := fun W hW => lHeldBytesW ld _ c W B (Sh.Rd.below r hB hW) (by omega) hc0 (by omega)
  have p1 : 0 ≤ c + (ld.length : Int) := by omega
  clear hr hT eA r
  generalize ld.length = n at *
  go_enter Tryz.func38, Tryz.ntmps38
  go_wp2_with fail
  refine (H1.out _ (by go_grown)).mono ?_
  rintro e w1 ⟨rfl, hw⟩
  subst w1
  go_wp2_with fail
  go_ret
  exact ⟨rfl, (Below.refl _ _).alloc (Nat.le_refl _) _⟩
set_option maxHeartbeats 2000000 in
theorem lEqSR (x : DSR) (N N' : Array Value) (w : World) (B : Nat) (hr : shSR.Rd w B x N.toList) (hr' : shSR.Rd w B x N'.toList) (hB : B ≤ w.heap.size) (hT : totSR x ≤ 1048576) :
    Calls Tryz.prog 9 #[.agg N, .agg N'] w fun e w' => e = .returned (.bool true) ∧ Below w.heap.size w w' := by
  obtain ⟨q, s, ⟨⟩⟩ := x
  obtain ⟨C, eN, hl, h1, -⟩ := rd_SR hr
  obtain ⟨C', eN', hl', h1', -⟩ := rd_SR hr'
  have n0 : N[0]? = some (.int .i64 q) := get_of eN 0
  have m0 : N'[0]? = some (.int .i64 q) := get_of eN' 0
  have HE : Hid (∀ W, Below w.heap.size w W → Calls Tryz.prog 30 #[.agg C.toArray, .agg C'.toArray] W fun e w' => e = .returned (.bool true) ∧ Below W.heap.size W w') := fun W hW => lEqSegmA s _ _ W B (Sh.Rd.below (s := shSegm) h1 hB hW) (Sh.Rd.below (s := shSegm) h1' hB hW) (Nat.le_trans hB hW.size) hT
  have HR0 : Hid (∀ W : World, (∀ o, W.cell? ⟨w.heap.size, o, none⟩ = N[o]?) → W.rangeAt w.heap.size 1 C) := fun W h => sr_range eN h
  have HR1 : Hid (∀ W : World, (∀ o, W.cell? ⟨w.heap.size + 1, o, none⟩ = N'[o]?) → W.rangeAt (w.heap.size + 1) 1 C') := fun W h => sr_range eN' h
  have HI : Hid ((Tryz.prog.info? 31).map (·.size) = some C.length) := by show _ = _; rw [hl]; exact info_SG
  have HI' : Hid ((Tryz.prog.info? 31).map (·.size) = some C'.length) := by show _ = _; rw [hl']; exact info_SG
  clear hr hr' hT eN eN' hl hl' h1 h1'
  go_enter Tryz.func9, Tryz.ntmps9
  go_upto_region 3 with fail
  have r0 : Hid (((w.alloc (.cells N 33)).alloc (.cells N' 33)).rangeAt w.heap.size 1 C) := HR0.out _ (fun o => by simp [go_sem])
  have r1 : Hid (((w.alloc (.cells N 33)).alloc (.cells N' 33)).rangeAt (w.heap.size + 1) 1 C') := HR1.out _ (fun o => by simp [go_sem])
  go_wp2_with (first | (refine wpList_load_mid rfl 31 _ rfl _ _ (by rfl) C _ r0.out Tryz.underlying31 rfl HI.out ?_) | (refine wpList_load_mid rfl 31 _ rfl _ _ (by rfl) C' _ r1.out Tryz.underlying31 rfl HI'.out ?_))
  refine (HE.out _ (by go_grown)).mono ?_
  rintro e w1 ⟨rfl, hb⟩
  have HB : Hid (Below w.heap.size w w1) := Below.trans (((Below.refl _ _).alloc (Nat.le_refl _) _).alloc (by simp) _) (hb.mono (by simp; omega))
  clear hb HE HR0 HR1
  go_wp2_with fail
  go_ret
  exact ⟨rfl, HB.out⟩
set_option maxHeartbeats 2000000 in
theorem lHeldSR (x : DSR) (N : Array Value) (c : Int) (w : World) (B : Nat) (hr : shSR.Rd w B (mkSR c x) N.toList) (hB : B ≤ w.heap.size) (hT : totSR x ≤ 1048576) (hc0 : 0 ≤ c) (hc1 : c ≤ 16777216) :
    Calls Tryz.prog 13 #[.agg N, .int .i64 c] w fun e w' => e = .returned (.int .i64 (c + (wtSR x : Nat))) ∧ Below w.heap.size w w' := by
  obtain ⟨q, s, ⟨⟩⟩ := x
  obtain ⟨C, eN, hl, h1, -⟩ := rd_SR hr
  have HV : Hid (c + (totSegm s : Nat) = c + (wtSR (q, s, PUnit.unit) : Nat)) := rfl
  have HE : Hid (∀ W, Below w.heap.size w W → Calls Tryz.prog 38 #[.agg C.toArray, .int .i64 c] W fun e w' => e = .returned (.int .i64 (c + (totSegm s : Nat))) ∧ Below W.heap.size W w') := fun W hW => lHeldSegA s _ c W B (Sh.Rd.below h1 hB hW) (Nat.le_trans hB hW.size) hT hc0 hc1
  have HR0 : Hid ((w.alloc (.cells N 33)).rangeAt w.heap.size 1 C) := sr_range eN (bx_al w _ _)
  have HI : Hid ((Tryz.prog.info? 31).map (·.size) = some C.length) := by show _ = _; rw [hl]; exact info_SG
  have p1 : 0 ≤ c + (totSegm s : Int) := by omega
  clear hr hT eN hl h1
  rw [← HV.out]
  clear HV
  generalize totSegm s = q1 at *
  go_enter Tryz.func13, Tryz.ntmps13
  go_wp2_with (refine wpList_load_mid rfl 31 _ rfl _ _ (by rfl) C _ HR0.out Tryz.underlying31 rfl HI.out ?_)
  refine (HE.out _ (by go_grown)).mono ?_
  rintro e w1 ⟨rfl, hb⟩
  have HB : Hid (Below w.heap.size w w1) := (bl_new hb).1
  clear hb HE HR0
  go_wp2_with fail
  go_ret
  exact ⟨rfl, HB.out⟩
set_option maxHeartbeats 2000000 in
theorem lMarkSR (x : DSR) (N : Array Value) (c : Int) (w : World) (lo hi : Nat) (ho : Own w lo hi shSR x N.toList) (hT : totSR x ≤ 1048576) (hc0 : 0 ≤ c) (hc1 : c ≤ 16777216) :
    Calls Tryz.prog 12 #[.agg N, .int .i64 c] w fun e w' => e = .returned (.int .i64 (c + (wtSR x : Nat))) ∧ Own w' lo hi shSR (mkSR c x) N.toList ∧ Within lo hi w w' := by
  obtain ⟨bs, hO, hnd, hbd⟩ := ho
  obtain ⟨q, s, ⟨⟩⟩ := x
  obtain ⟨C, eN, hl, h1, HMK⟩ := ow_SR hO
  have lb : ∀ b ∈ bs, b < w.heap.size := Sh.Ow.lt _ _ _ _ h1
  have HV : Hid (c + (totSegm s : Nat) = c + (wtSR (q, s, PUnit.unit) : Nat)) := rfl
  have H1 : Hid (∀ W, Below w.heap.size w W → Calls Tryz.prog 37 #[.agg C.toArray, .int .i64 c] W fun e w' => e = .returned (.int .i64 (c + (totSegm s : Nat))) ∧ shSegm.Ow w' bs (mkSegA c s) C ∧ Touch bs W w') := fun W hW => lMarkSegA s C.toArray c W bs (Sh.Ow.keep _ _ _ _ (fun b hb => hW.block b (lb b hb)) h1) hnd hT hc0 hc1
  have HM : Hid (∀ W, shSegm.Ow W bs (mkSegA c s) C → Own W lo hi shSR (mkSR c (q, s, PUnit.unit)) N.toList) := fun W k1 => ⟨bs, HMK W _ k1, hnd, hbd⟩
  have HBD : Hid (∀ b ∈ bs, lo ≤ b ∧ b < hi) := hbd
  have HR0 : Hid ((w.alloc (.cells N 33)).rangeAt w.heap.size 1 C) := sr_range eN (bx_al w _ _)
  have HI : Hid ((Tryz.prog.info? 31).map (·.size) = some C.length) := by show _ = _; rw [hl]; exact info_SG
  clear hO hnd hbd h1 HMK eN hl hT lb
  rw [← HV.out]
  clear HV
  generalize mkSR c (q, s, PUnit.unit) = MM at *
  generalize mkSegA c s = M1 at *
  generalize totSegm s = q1 at *
  go_enter Tryz.func12, Tryz.ntmps12
  go_wp2_with (refine wpList_load_mid rfl 31 _ rfl _ _ (by rfl) C _ HR0.out Tryz.underlying31 rfl HI.out ?_)
  refine (H1.out _ (by go_grown)).mono ?_
  rintro e w1 ⟨rfl, ho1, ht1⟩
  have HO1 : Hid _ := HM.out _ ho1
  have HT1 : Hid (Within lo hi w w1) := (Within.below ((Below.refl _ _).alloc (Nat.le_refl _) _)).trans ⟨ht1.os, ht1.tape, ht1.output, ht1.size, fun b hb hn => ht1.block b hb fun hm => hn (HBD.out b hm)⟩
  clear ho1 ht1 H1 HR0 HM
  go_wp2_with fail
  go_ret
  exact ⟨rfl, HO1.out, HT1.out⟩
end Go.Proofs.YtbdibjeemgkdaaaGreat

/- What compares answers of conns, and marks them; an answer stands as one value; no condition but that there are at most a million parts. -/
namespace Go.Proofs.YtbdibjeemgkdaaaGreat
open Go.RowKit
set_option linter.unusedVariables false
set_option maxRecDepth 8000

abbrev shCR : Sh := .cons (.int .i64) (.cons shConnO (.cons shSegms (.cons u8s (.cons .bool .nil))))
abbrev DCR : Type := Int × DConn × List DSegm × List Int × Bool × Unit
def totCR (x : DCR) : Nat := totConn x.2.1 + totSegms x.2.2.1 + x.2.2.2.1.length
theorem rd_CR {w : World} {B : Nat} {q : Int} {c : DConn} {sl : List DSegm} {dl : List Int} {e : Bool} {cs : List Value} (h : shCR.Rd w B (q, c, sl, dl, e, ()) cs) :
    ∃ (C : List Value) (sa : Option Addr) (sc : Nat) (da : Option Addr) (dc : Nat), cs = .int .i64 q :: (C ++ [.slice sa sl.length sc, .slice da dl.length dc, .bool e]) ∧ C.length = 14 ∧ shConnO.Rd w B c C ∧ shSegms.Rd w B sl [.slice sa sl.length sc] ∧ u8s.Rd w B dl [.slice da dl.length dc] ∧ (Lit.int .i64 q).wf = true := by
  obtain ⟨p0, q0, e0, ⟨g0, w0⟩, p1, q1, e1, h1, p2, q2, e2, h2, p3, q3, e3, h3, p4, q4, e4, g4, hz⟩ := h
  have hz' : q4 = [] := hz
  have hl : p1.length = 14 := Sh.Rd.len _ _ _ h1
  obtain ⟨sa, sc, f2⟩ := row_form h2
  subst f2
  obtain ⟨da, dc, f3⟩ := row_form h3
  subst f3
  refine ⟨p1, sa, sc, da, dc, ?_, hl, h1, h2, h3, w0⟩
  rw [e0, g0, e1, e2, e3, e4, g4, hz']
  rfl
theorem cr_get {N : Array Value} {q : Int} {C : List Value} {s d : Value} {e : Bool} (h : N.toList = .int .i64 q :: (C ++ [s, d, .bool e])) (hl : C.length = 14) : N[0]? = some (.int .i64 q) ∧ N[15]? = some s ∧ N[16]? = some d ∧ N[17]? = some (.bool e) := by
  refine ⟨get_of h 0, ?_, ?_, ?_⟩ <;> rw [get_of h, List.getElem?_cons_succ, List.getElem?_append_right (by omega), hl] <;> rfl
theorem cr_range {w : World} {b : Nat} {N : Array Value} {q : Int} {C : List Value} {s d : Value} {e : Bool} (h : N.toList = .int .i64 q :: (C ++ [s, d, .bool e])) (hc : ∀ o, w.cell? ⟨b, o, none⟩ = N[o]?) : w.rangeAt b 1 C := fun j v hv => by
  rw [hc (1 + j), Nat.add_comm 1 j, get_of h, List.getElem?_cons_succ, List.getElem?_append_left (List.getElem?_eq_some_iff.1 hv).1]
  exact hv
theorem info_CN : (Tryz.prog.info? 40).map (·.size) = some 14 := by kernel_rfl
theorem totSegm_wt (x : DSegm) : wtSegm x = 11 + totSegm x := rfl
theorem wtSegms_le : ∀ (l : List DSegm), fsum wtSegm l = 11 * l.length + fsum totSegm l
  | [] => rfl
  | x :: l => by rw [fsum_cons, fsum_cons, List.length_cons, wtSegms_le l, totSegm_wt]; omega
theorem wtConn_le {x : DConn} (h : totConn x ≤ 1048576) : wtConn x ≤ 16777216 := by
  obtain ⟨y0, y1, y2, y3, y4, d5, y6, y7, y8, d9, y10, y11, d12, ⟨⟩⟩ := x
  have ht : d5.length + gtTot d9 + (d12.length + fsum totSub d12) ≤ 1048576 := h
  have hw9 := wtGt_tot d9
  have hws := wtSubs_le d12
  show d5.length + wtGt d9 + fsum wtSubE d12 ≤ 16777216
  omega
def wtCR (x : DCR) : Nat := wtConn x.2.1 + fsum wtSegm x.2.2.1 + x.2.2.2.1.length
def mkCR (c : Int) : DCR → DCR
  | (q, x, sl, dl, e, _) => (q, mkConn c x, mkL mkSegm wtSegm (c + (wtConn x : Nat)) sl, marks (c + (wtConn x : Nat) + (fsum wtSegm sl : Nat)) dl.length, e, ())
theorem ow_CR {w : World} {bs : List Nat} {q : Int} {x : DConn} {sl : List DSegm} {dl : List Int} {e : Bool} {cs : List Value} (h : shCR.Ow w bs (q, x, sl, dl, e, ()) cs) :
    ∃ b1 b2 b3 C s d, bs = b1 ++ (b2 ++ b3) ∧ cs = .int .i64 q :: (C ++ [s, d, .bool e]) ∧ C.length = 14 ∧ shConnO.Ow w b1 x C ∧ shSegms.Ow w b2 sl [s] ∧ u8s.Ow w b3 dl [d] ∧
      (∀ (W : World) (x' : DConn) (sl' : List DSegm) (dl' : List Int), shConnO.Ow W b1 x' C → shSegms.Ow W b2 sl' [s] → u8s.Ow W b3 dl' [d] → shCR.Ow W bs (q, x', sl', dl', e, ()) cs) := by
  obtain ⟨a0, r0, p0, q0, eb0, ec0, ⟨f0, g0, w0⟩, a1, r1, p1, q1, eb1, ec1, h1, a2, r2, p2, q2, eb2, ec2, h2, a3, r3, p3, q3, eb3, ec3, h3, a4, r4, p4, q4, eb4, ec4, ⟨f4, g4⟩, zb, zc⟩ := h
  have l1 : p1.length = 14 := Sh.Ow.len _ _ _ _ h1
  have l2 : p2.length = 1 := Sh.Ow.len _ _ _ _ h2
  have l3 : p3.length = 1 := Sh.Ow.len _ _ _ _ h3
  match p2, l2, p3, l3 with
  | [s], _, [d], _ =>
    refine ⟨a1, a2, a3, p1, s, d, ?_, ?_, l1, h1, h2, h3, fun W x' sl' dl' k1 k2 k3 => ?_⟩
    · rw [eb0, f0, eb1, eb2, eb3, eb4, f4, zb]
      simp
    · rw [ec0, g0, ec1, ec2, ec3, ec4, g4, zc]
      rfl
    · exact ⟨a0, r0, p0, q0, eb0, ec0, ⟨f0, g0, w0⟩, a1, r1, p1, q1, eb1, ec1, k1, a2, r2, [s], q2, eb2, ec2, k2, a3, r3, [d], q3, eb3, ec3, k3, a4, r4, p4, q4, eb4, ec4, ⟨f4, g4⟩, zb, zc⟩
end Go.Proofs.YtbdibjeemgkdaaaGreat
