/- Values of type Conn, a value as one of 14 cells: what is read, what is owned, and what the law's own helpers (measure, copy, compare) make of them; no condition but that there are at most a million parts. Written by mkc.py. -/
import Derived.Test.YtcbgedlckcjjnaaRows
import Derived.Deep.DeepCutAuto
import Derived.Deep.RegionHeld3
import Derived.Deep.MidRow
import Derived.Test.YtcbgedlckcjjnaaK01
import Derived.Test.YtcbgedlckcjjnaaK02
import Derived.Test.YtcbgedlckcjjnaaK03
import Derived.Test.YtcbgedlckcjjnaaK04
import Derived.Test.YtcbgedlckcjjnaaK09
import Derived.Test.YtcbgedlckcjjnaaK10
namespace Go.Proofs.Ytcbgedlckcjjnaa
open Go.RowKit
set_option linter.unusedVariables false
set_option maxRecDepth 8000

abbrev shConn : Sh := .cons (.int .i64) (.cons (.int .i64) (.cons (.int .i64) (.cons .bool (.cons .bool (.cons u8s (.cons .bool (.cons (.int .i64) (.cons .bool (.cons gtS (.cons (.int .i64) (.cons (.int .i64) (.cons shSubs (.nil)))))))))))))
abbrev DConn : Type := Int × Int × Int × Bool × Bool × (List Int) × Bool × Int × Bool × (Gt) × Int × Int × (List DSub) × Unit
def totConn (x : DConn) : Nat := x.2.2.2.2.2.1.length + gtTot x.2.2.2.2.2.2.2.2.2.1 + totSubs x.2.2.2.2.2.2.2.2.2.2.2.2.1
/-- The numbers of one fit. -/
def ConnWf (x : DConn) : Prop := (Lit.int .i64 x.1).wf = true ∧ (Lit.int .i64 x.2.1).wf = true ∧ (Lit.int .i64 x.2.2.1).wf = true ∧ (Lit.int .i64 x.2.2.2.2.2.2.2.1).wf = true ∧ (Lit.int .i64 x.2.2.2.2.2.2.2.2.2.2.1).wf = true ∧ (Lit.int .i64 x.2.2.2.2.2.2.2.2.2.2.2.1).wf = true
theorem rd_Conn {w : World} {B : Nat} {y0 : Int} {y1 : Int} {y2 : Int} {y3 : Bool} {y4 : Bool} {d5 : (List Int)} {y6 : Bool} {y7 : Int} {y8 : Bool} {d9 : (Gt)} {y10 : Int} {y11 : Int} {d12 : (List DSub)} {cs : List Value} (h : shConn.Rd w B (y0, y1, y2, y3, y4, d5, y6, y7, y8, d9, y10, y11, d12, ()) cs) : ∃ (a5xa : Option Addr) (a5xc : Nat) (a9xa : Option Addr) (a9xc : Nat) (a9ya : Option Addr) (a9yc : Nat) (a12xa : Option Addr) (a12xc : Nat), cs = [.int .i64 y0, .int .i64 y1, .int .i64 y2, .bool y3, .bool y4, .slice a5xa d5.length a5xc, .bool y6, .int .i64 y7, .bool y8, .slice a9xa d9.1.length a9xc, .slice a9ya d9.2.1.length a9yc, .int .i64 y10, .int .i64 y11, .slice a12xa d12.length a12xc] ∧ u8s.Rd w B d5 [.slice a5xa d5.length a5xc] ∧ gtS.Rd w B d9 [.slice a9xa d9.1.length a9xc, .slice a9ya d9.2.1.length a9yc] ∧ shSubs.Rd w B d12 [.slice a12xa d12.length a12xc] ∧ ConnWf (y0, y1, y2, y3, y4, d5, y6, y7, y8, d9, y10, y11, d12, ()) := by
  obtain ⟨p0, q0, e0, ⟨g0, w0⟩, p1, q1, e1, ⟨g1, w1⟩, p2, q2, e2, ⟨g2, w2⟩, p3, q3, e3, g3, p4, q4, e4, g4, p5, q5, e5, h5, p6, q6, e6, g6, p7, q7, e7, ⟨g7, w7⟩, p8, q8, e8, g8, p9, q9, e9, h9, p10, q10, e10, ⟨g10, w10⟩, p11, q11, e11, ⟨g11, w11⟩, p12, q12, e12, h12, hz⟩ := h
  have hz' : q12 = [] := hz
  obtain ⟨a5xa, a5xc, f5⟩ := row_form h5
  subst f5
  obtain ⟨a9xa, a9xc, a9ya, a9yc, f9, -, -⟩ := rd_gt h9
  subst f9
  obtain ⟨a12xa, a12xc, f12⟩ := row_form h12
  subst f12
  refine ⟨a5xa, a5xc, a9xa, a9xc, a9ya, a9yc, a12xa, a12xc, ?_, h5, h9, h12, w0, w1, w2, w7, w10, w11⟩
  rw [e0, g0, e1, g1, e2, g2, e3, g3, e4, g4, e5, e6, g6, e7, g7, e8, g8, e9, e10, g10, e11, g11, e12, hz']
  rfl
theorem own_Conn {w : World} {lo hi m5 m9 : Nat} {y0 : Int} {y1 : Int} {y2 : Int} {y3 : Bool} {y4 : Bool} {d5 : (List Int)} {y6 : Bool} {y7 : Int} {y8 : Bool} {d9 : (Gt)} {y10 : Int} {y11 : Int} {d12 : (List DSub)} {a5xa : Option Addr} {a5xc : Nat} {a9xa : Option Addr} {a9xc : Nat} {a9ya : Option Addr} {a9yc : Nat} {a12xa : Option Addr} {a12xc : Nat} (h5 : Own w lo m5 u8s d5 [.slice a5xa d5.length a5xc]) (h9 : Own w m5 m9 gtS d9 [.slice a9xa d9.1.length a9xc, .slice a9ya d9.2.1.length a9yc]) (h12 : Own w m9 hi shSubs d12 [.slice a12xa d12.length a12xc]) (l0 : lo ≤ m5) (l1 : m5 ≤ m9) (l2 : m9 ≤ hi) (hw : ConnWf (y0, y1, y2, y3, y4, d5, y6, y7, y8, d9, y10, y11, d12, ())) : Own w lo hi shConn (y0, y1, y2, y3, y4, d5, y6, y7, y8, d9, y10, y11, d12, ()) [.int .i64 y0, .int .i64 y1, .int .i64 y2, .bool y3, .bool y4, .slice a5xa d5.length a5xc, .bool y6, .int .i64 y7, .bool y8, .slice a9xa d9.1.length a9xc, .slice a9ya d9.2.1.length a9yc, .int .i64 y10, .int .i64 y11, .slice a12xa d12.length a12xc] := by
  obtain ⟨w0, w1, w2, w7, w10, w11⟩ := hw
  have LE3 : hi ≤ hi := Nat.le_refl _
  have LE0 : lo ≤ hi := by omega
  have LE1 : m5 ≤ hi := by omega
  have LE2 : m9 ≤ hi := by omega
  exact hOwnCons (hOwnInt w lo lo w0) (hOwnCons (hOwnInt w lo lo w1) (hOwnCons (hOwnInt w lo lo w2) (hOwnCons (hOwnBool w lo lo y3) (hOwnCons (hOwnBool w lo lo y4) (hOwnCons h5 (hOwnCons (hOwnBool w m5 m5 y6) (hOwnCons (hOwnInt w m5 m5 w7) (hOwnCons (hOwnBool w m5 m5 y8) (hOwnCons h9 (hOwnCons (hOwnInt w m9 m9 w10) (hOwnCons (hOwnInt w m9 m9 w11) (hOwnCons h12 (hOwnNil w hi hi) l2 LE3) (Nat.le_refl _) LE2) (Nat.le_refl _) LE2) l1 LE2) (Nat.le_refl _) LE1) (Nat.le_refl _) LE1) (Nat.le_refl _) LE1) l0 LE1) (Nat.le_refl _) LE0) (Nat.le_refl _) LE0) (Nat.le_refl _) LE0) (Nat.le_refl _) LE0) (Nat.le_refl _) LE0



set_option maxHeartbeats 8000000 in
theorem lEqConn (x : DConn) (A A' : Array Value) (w : World) (B : Nat) (hr : shConn.Rd w B x A.toList) (hr' : shConn.Rd w B x A'.toList) (hB : B ≤ w.heap.size) (hT : totConn x ≤ 1048576) :
    Calls Try.prog 39 #[.agg A, .agg A'] w fun e w' => e = .returned (.bool true) ∧ Below w.heap.size w w' := by
  obtain ⟨y0, y1, y2, y3, y4, d5, y6, y7, y8, d9, y10, y11, d12, ⟨⟩⟩ := x
  obtain ⟨a5xa, a5xc, a9xa, a9xc, a9ya, a9yc, a12xa, a12xc, eA, r5, r9, r12, -⟩ := rd_Conn hr
  obtain ⟨b5xa, b5xc, b9xa, b9xc, b9ya, b9yc, b12xa, b12xc, eB, s5, s9, s12, -⟩ := rd_Conn hr'
  obtain ⟨n5xn, hn5x⟩ : ∃ n, d5.length = n := ⟨_, rfl⟩
  obtain ⟨n9xn, hn9x⟩ : ∃ n, d9.1.length = n := ⟨_, rfl⟩
  obtain ⟨n9yn, hn9y⟩ : ∃ n, d9.2.1.length = n := ⟨_, rfl⟩
  obtain ⟨n12xn, hn12x⟩ : ∃ n, d12.length = n := ⟨_, rfl⟩
  simp only [hn5x, hn9x, hn9y, hn12x] at eA eB r5 r9 r12 s5 s9 s12
  have a0 : A[0]? = some (.int .i64 y0) := get_of eA 0
  have a1 : A[1]? = some (.int .i64 y1) := get_of eA 1
  have a2 : A[2]? = some (.int .i64 y2) := get_of eA 2
  have a3 : A[3]? = some (.bool y3) := get_of eA 3
  have a4 : A[4]? = some (.bool y4) := get_of eA 4
  have a5 : A[5]? = some (.slice a5xa n5xn a5xc) := get_of eA 5
  have a6 : A[6]? = some (.bool y6) := get_of eA 6
  have a7 : A[7]? = some (.int .i64 y7) := get_of eA 7
  have a8 : A[8]? = some (.bool y8) := get_of eA 8
  have a9 : A[9]? = some (.slice a9xa n9xn a9xc) := get_of eA 9
  have a10 : A[10]? = some (.slice a9ya n9yn a9yc) := get_of eA 10
  have a11 : A[11]? = some (.int .i64 y10) := get_of eA 11
  have a12 : A[12]? = some (.int .i64 y11) := get_of eA 12
  have a13 : A[13]? = some (.slice a12xa n12xn a12xc) := get_of eA 13
  have b0 : A'[0]? = some (.int .i64 y0) := get_of eB 0
  have b1 : A'[1]? = some (.int .i64 y1) := get_of eB 1
  have b2 : A'[2]? = some (.int .i64 y2) := get_of eB 2
  have b3 : A'[3]? = some (.bool y3) := get_of eB 3
  have b4 : A'[4]? = some (.bool y4) := get_of eB 4
  have b5 : A'[5]? = some (.slice b5xa n5xn b5xc) := get_of eB 5
  have b6 : A'[6]? = some (.bool y6) := get_of eB 6
  have b7 : A'[7]? = some (.int .i64 y7) := get_of eB 7
  have b8 : A'[8]? = some (.bool y8) := get_of eB 8
  have b9 : A'[9]? = some (.slice b9xa n9xn b9xc) := get_of eB 9
  have b10 : A'[10]? = some (.slice b9ya n9yn b9yc) := get_of eB 10
  have b11 : A'[11]? = some (.int .i64 y10) := get_of eB 11
  have b12 : A'[12]? = some (.int .i64 y11) := get_of eB 12
  have b13 : A'[13]? = some (.slice b12xa n12xn b12xc) := get_of eB 13
  have ht : d5.length + gtTot d9 + totSubs d12 ≤ 1048576 := hT
  have H5 : Hid (∀ W, Below w.heap.size w W → Calls Try.prog 13 #[.slice a5xa n5xn a5xc, .slice b5xa n5xn b5xc] W fun e w' => e = .returned (.bool true) ∧ Below W.heap.size W w') := fun W hW => lEqBytes d5 (.slice a5xa n5xn a5xc) (.slice b5xa n5xn b5xc) W B (Sh.Rd.below r5 hB hW) (Sh.Rd.below s5 hB hW) (Nat.le_trans hB hW.size) (by omega)
  have H9 : Hid (∀ W, Below w.heap.size w W → Calls Try.prog 47 #[.agg #[.slice a9xa n9xn a9xc, .slice a9ya n9yn a9yc], .agg #[.slice b9xa n9xn b9xc, .slice b9ya n9yn b9yc]] W fun e w' => e = .returned (.bool true) ∧ Below W.heap.size W w') := fun W hW => lEqGather d9 (.slice a9xa n9xn a9xc) (.slice a9ya n9yn a9yc) (.slice b9xa n9xn b9xc) (.slice b9ya n9yn b9yc) W B (Sh.Rd.below r9 hB hW) (Sh.Rd.below s9 hB hW) (Nat.le_trans hB hW.size) (by omega)
  have H12 : Hid (∀ W, Below w.heap.size w W → Calls Try.prog 48 #[.slice a12xa n12xn a12xc, .slice b12xa n12xn b12xc] W fun e w' => e = .returned (.bool true) ∧ Below W.heap.size W w') := fun W hW => lEqSubs d12 (.slice a12xa n12xn a12xc) (.slice b12xa n12xn b12xc) W B (Sh.Rd.below r12 hB hW) (Sh.Rd.below s12 hB hW) (Nat.le_trans hB hW.size) (by omega)
  clear hr hr' ht hT eA eB r5 r9 r12 s5 s9 s12 hn5x hn9x hn9y hn12x
  go_enter Try.func39, Try.ntmps39
  go_wp2_with fail
  refine (H5.out _ (by go_grown)).mono ?_
  rintro e w1 ⟨rfl, hb⟩
  have k0 : ∀ o, w1.cell? ⟨w.heap.size, o, none⟩ = A[o]? := fun o => by rw [hb.cell (p := ⟨w.heap.size, o, none⟩) (by simp; omega)]; simp [go_sem]
  have k1 : ∀ o, w1.cell? ⟨w.heap.size + 1, o, none⟩ = A'[o]? := fun o => by rw [hb.cell (p := ⟨w.heap.size + 1, o, none⟩) (by simp)]; simp [go_sem]
  have HB : Hid (Below w.heap.size w w1) := Below.trans (by go_grown) (hb.mono (by simp; omega))
  have z1 : w.heap.size + 1 < w1.heap.size := by have := hb.size; simp at this; omega
  clear hb H5
  go_wp2_with fail
  refine (H9.out _ HB.out).mono ?_
  rintro e w2 ⟨rfl, hb⟩
  replace k0 := bx_below k0 (by omega) hb
  replace k1 := bx_below k1 z1 hb
  replace z1 := Nat.lt_of_lt_of_le z1 hb.size
  replace HB : Hid (Below w.heap.size w w2) := HB.out.trans (hb.mono HB.out.size)
  clear hb H9
  go_wp2_with fail
  refine (H12.out _ HB.out).mono ?_
  rintro e w3 ⟨rfl, hb⟩
  replace k0 := bx_below k0 (by omega) hb
  replace k1 := bx_below k1 z1 hb
  replace z1 := Nat.lt_of_lt_of_le z1 hb.size
  replace HB : Hid (Below w.heap.size w w3) := HB.out.trans (hb.mono HB.out.size)
  clear hb H12
  go_wp2_with fail
  go_ret
  exact ⟨rfl, HB.out⟩
end Go.Proofs.Ytcbgedlckcjjnaa
