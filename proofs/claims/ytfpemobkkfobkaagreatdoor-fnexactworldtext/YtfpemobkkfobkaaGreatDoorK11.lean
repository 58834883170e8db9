/- Values of type Conn, a value as one of 14 cells: what is read, what is owned, and what the law's own helpers (measure, copy, compare) make of them; no condition but that there are at most a million parts. Written by mkc.py. -/
import Derived.Test.YtfpemobkkfobkaaGreatDoorRows
import Derived.Deep.DeepCutAuto
import Derived.Deep.RegionHeld3
import Derived.Deep.MidRow
import Derived.Test.YtfpemobkkfobkaaGreatDoorK01
import Derived.Test.YtfpemobkkfobkaaGreatDoorK02
import Derived.Test.YtfpemobkkfobkaaGreatDoorK03
import Derived.Test.YtfpemobkkfobkaaGreatDoorK04
import Derived.Test.YtfpemobkkfobkaaGreatDoorK09
import Derived.Test.YtfpemobkkfobkaaGreatDoorK10
namespace Go.Proofs.YtfpemobkkfobkaaGreatDoor
open Go.RowKit
set_option linter.unusedVariables false
set_option maxRecDepth 8000

abbrev shConn : Sh := .cons (.int .i64) (.cons (.int .i64) (.cons (.int .i64) (.cons .bool (.cons .bool (.cons u8s (.cons .bool (.cons (.int .i64) (.cons .bool (.cons gtS (.cons (.int .i64) (.cons (.int .i64) (.cons shSubs (.nil)))))))))))))
abbrev DConn : Type := Int × Int × Int × Bool × Bool × (List Int) × Bool × Int × Bool × (Gt) × Int × Int × (List DSub) × Unit
def totConn (x : DConn) : Nat := x.2.2.2.2.2.1.length + gtTot x.2.2.2.2.2.2.2.2.2.1 + totSubs x.2.2.2.2.2.2.2.2.2.2.2.2.1
/-- The numbers of one fit. -/
def ConnWf (x : DConn) : Prop := (Lit.int .i64 x.1).wf = true ∧ (Lit.int .i64 x.2.1).wf = true ∧ (Lit.int .i64 x.2.2.1).wf = true ∧ (Lit.int .i64 x.2.2.2.2.2.2.2.1).wf = true ∧ (Lit.int .i64 x.2.2.2.2.2.2.2.2.2.2.1).wf = true ∧ (Lit.int .i64 x.2.2.2.2.2.2.2.2.2.2.2.1).wf = true
theorem rd_Conn {w : World} {B : Nat} {y0 : Int} {y1 : Int} {y2 : Int} {y3 : Bool} {y4 : Bool} {d5 : (List Int)} {y6 : Bool} {y7 : Int} {y8 : Bool} {d9 : (Gt)} {y10 : Int} {y11 : Int} {d12 : (List DSub)} {cs : List Value} (h : shConn.Rd w B (y0, y1, y2, y3, y4, d5, y6, y7, y8, d9, y10, y11, d12, ()) cs) : ∃ (a5xa : Option Addr) (a5xc : Nat) (a9xa : Option Addr) (a9xc : Nat) (a9ya : Option Addr) (a9yc : Nat) (a12xa : Option Addr) (a12xc : Nat), cs = [.int .i64 y0, .int .i64 y1, .int .i64 y2, .bool y3, .bool y4, .slice a5xa d5.length a5xc, .bool y6, .int .i64 y7, .bool y8, .slice a9xa d9.1.length a9xc, .slice a9ya d9.2.1.length a9yc, .int .i64 y10, .int .i64 y11, .slice a12xa d12.length a12xc] ∧ u8s.Rd w B d5 [.slice a5xa d5.length a5xc] ∧ gtS.Rd w B d9 [.slice a9xa d9.1.length a9xc, .slice a9ya d9.2.1.length a9yc] ∧ shSubs.Rd w B d12 [.slice a12xa d12.length a12xc] ∧ ConnWf (y0, y1, y2, y3, y4, d5, y6, y7, y8, d9, y10, y11, d12, ()) := by
  obtain ⟨p0, q0, e0, ⟨g0, w0⟩, p1, q1, e1, ⟨g1, w1⟩, p2, q2, e2, ⟨g2, w2⟩, p3, q3, e3, g3, p4, q4, e4, g4, p5, q5, e5, h5, p6, q6, e6, g6, p7, q7, e7, ⟨g7, w7⟩, p8, q8, e8, g8, p9, q9, e9, h9, p10, q10, e10, ⟨g10, w10⟩, p11, q11, e11, ⟨g11, w11⟩, p12, q12, e12, h12, hz⟩ := h
  have hz' : q12 = [] := hz
  obtain ⟨a5xa, a5xc, f5⟩ := row_form h5
  subst f5
  obtain ⟨a9xa, a9xc, a9ya, a9yc, f9, -, -⟩ := rd_gt h9
  subst f9
  obtain ⟨a12xa, a12xc, f12⟩ := row_form h12
  subst f12
  refine ⟨a5xa, a5xc, a9xa, a9xc, a9ya, a9yc, a12xa, a12xc, ?_, h5, h9, h12, w0, w1, w2, w7, w10, w11⟩
  rw [e0, g0, e1, g1, e2, g2, e3, g3, e4, g4, e5, e6, g6, e7, g7, e8, g8, e9, e10, g10, e11, g11, e12, hz']
  rfl
theorem own_Conn {w : World} {lo hi m5 m9 : Nat} {y0 : Int} {y1 : Int} {y2 : Int} {y3 : Bool} {y4 : Bool} {d5 : (List Int)} {y6 : Bool} {y7 : Int} {y8 : Bool} {d9 : (Gt)} {y10 : Int} {y11 : Int} {d12 : (List DSub)} {a5xa : Option Addr} {a5xc : Nat} {a9xa : Option Addr} {a9xc : Nat} {a9ya : Option Addr} {a9yc : Nat} {a12xa : Option Addr} {a12xc : Nat} (h5 : Own w lo m5 u8s d5 [.slice a5xa d5.length a5xc]) (h9 : Own w m5 m9 gtS d9 [.slice a9xa d9.1.length a9xc, .slice a9ya d9.2.1.length a9yc]) (h12 : Own w m9 hi shSubs d12 [.slice a12xa d12.length a12xc]) (l0 : lo ≤ m5) (l1 : m5 ≤ m9) (l2 : m9 ≤ hi) (hw : ConnWf (y0, y1, y2, y3, y4, d5, y6, y7, y8, d9, y10, y11, d12, ())) : Own w lo hi shConn (y0, y1, y2, y3, y4, d5, y6, y7, y8, d9, y10, y11, d12, ()) [.int .i64 y0, .int .i64 y1, .int .i64 y2, .bool y3, .bool y4, .slice a5xa d5.length a5xc, .bool y6, .int .i64 y7, .bool y8, .slice a9xa d9.1.length a9xc, .slice a9ya d9.2.1.length a9yc, .int .i64 y10, .int .i64 y11, .slice a12xa d12.length a12xc] := by
  obtain ⟨w0, w1, w2, w7, w10, w11⟩ := hw
  have LE3 : hi ≤ hi := Nat.le_refl _
  have LE0 : lo ≤ hi := by omega
  have LE1 : m5 ≤ hi := by omega
  have LE2 : m9 ≤ hi := by omega
  exact hOwnCons (hOwnInt w lo lo w0) (hOwnCons (hOwnInt w lo lo w1) (hOwnCons (hOwnInt w lo lo w2) (hOwnCons (hOwnBool w lo lo y3) (hOwnCons (hOwnBool w lo lo y4) (hOwnCons h5 (hOwnCons (hOwnBool w m5 m5 y6) (hOwnCons (hOwnInt w m5 m5 w7) (hOwnCons (hOwnBool w m5 m5 y8) (hOwnCons h9 (hOwnCons (hOwnInt w m9 m9 w10) (hOwnCons (hOwnInt w m9 m9 w11) (hOwnCons h12 (hOwnNil w hi hi) l2 LE3) (Nat.le_refl _) LE2) (Nat.le_refl _) LE2) l1 LE2) (Nat.le_refl _) LE1) (Nat.le_refl _) LE1) (Nat.le_refl _) LE1) l0 LE1) (Nat.le_refl _) LE0) (Nat.le_refl _) LE0) (Nat.le_refl _) LE0) (Nat.le_refl _) LE0) (Nat.le_refl _) LE0

set_option maxHeartbeats 4000000 in
theorem lSzConn (x : DConn) (A : Array Value) (left : Int) (w : World) (B : Nat) (hr : shConn.Rd w B x A.toList) (hB : B ≤ w.heap.size) (h0 : 0 ≤ left) (h1 : left ≤ 1048576) :
    Calls Tryz.prog 26 #[.agg A, .int .i64 left] w fun e w' => e = .returned (.int .i64 (if left < totConn x then -1 else left - totConn x)) ∧ Below w.heap.size w w' := by
  obtain ⟨y0, y1, y2, y3, y4, d5, y6, y7, y8, d9, y10, y11, d12, ⟨⟩⟩ := x
  obtain ⟨a5xa, a5xc, a9xa, a9xc, a9ya, a9yc, a12xa, a12xc, eA, r5, r9, r12, -⟩ := rd_Conn hr
  obtain ⟨n5xn, hn5x⟩ : ∃ n, d5.length = n := ⟨_, rfl⟩
  obtain ⟨n9xn, hn9x⟩ : ∃ n, d9.1.length = n := ⟨_, rfl⟩
  obtain ⟨n9yn, hn9y⟩ : ∃ n, d9.2.1.length = n := ⟨_, rfl⟩
  obtain ⟨n12xn, hn12x⟩ : ∃ n, d12.length = n := ⟨_, rfl⟩
  simp only [hn5x, hn9x, hn9y, hn12x] at eA r5 r9 r12
  have a5 : A[5]? = some (.slice a5xa n5xn a5xc) := get_of eA 5
  have a9 : A[9]? = some (.slice a9xa n9xn a9xc) := get_of eA 9
  have a10 : A[10]? = some (.slice a9ya n9yn a9yc) := get_of eA 10
  have a13 : A[13]? = some (.slice a12xa n12xn a12xc) := get_of eA 13
  have H5 : Hid (∀ (l : Int) W, 0 ≤ l → l ≤ 1048576 → Below w.heap.size w W → Calls Tryz.prog 28 #[.slice a5xa n5xn a5xc, .int .i64 l] W fun e w' => e = .returned (.int .i64 (if l < ((d5.length : Nat) : Int) then -1 else l - ((d5.length : Nat) : Int))) ∧ Below W.heap.size W w') := fun l W g0 g1 hW => lSzBytes d5 (.slice a5xa n5xn a5xc) l W B (Sh.Rd.below r5 hB hW) (Nat.le_trans hB hW.size) g0 g1
  have H9 : Hid (∀ (l : Int) W, 0 ≤ l → l ≤ 1048576 → Below w.heap.size w W → Calls Tryz.prog 47 #[.agg #[.slice a9xa n9xn a9xc, .slice a9ya n9yn a9yc], .int .i64 l] W fun e w' => e = .returned (.int .i64 (if l < ((gtTot d9 : Nat) : Int) then -1 else l - ((gtTot d9 : Nat) : Int))) ∧ Below W.heap.size W w') := fun l W g0 g1 hW => lSzGather d9 (.slice a9xa n9xn a9xc) (.slice a9ya n9yn a9yc) l W B (Sh.Rd.below r9 hB hW) (Nat.le_trans hB hW.size) g0 g1
  have H12 : Hid (∀ (l : Int) W, 0 ≤ l → l ≤ 1048576 → Below w.heap.size w W → Calls Tryz.prog 48 #[.slice a12xa n12xn a12xc, .int .i64 l] W fun e w' => e = .returned (.int .i64 (if l < ((totSubs d12 : Nat) : Int) then -1 else l - ((totSubs d12 : Nat) : Int))) ∧ Below W.heap.size W w') := fun l W g0 g1 hW => lSzSubs d12 (.slice a12xa n12xn a12xc) l W B (Sh.Rd.below r12 hB hW) (Nat.le_trans hB hW.size) g0 g1
  have ht : totConn (y0, y1, y2, y3, y4, d5, y6, y7, y8, d9, y10, y11, d12, ()) = d5.length + gtTot d9 + totSubs d12 := rfl
  rw [ht]
  clear hr eA ht r5 r9 r12 hn5x hn9x hn9y hn12x
  generalize d5.length = N5 at *
  generalize gtTot d9 = N9 at *
  generalize totSubs d12 = N12 at *
  have G5 := H5.out (left)
  by_cases c5 : left < (N5 : Int)
  · simp only [if_pos c5] at G5
    have K5 : Hid _ := G5
    clear G5
    rw [if_pos (by omega)]
    clear H5 H9 H12
    go_enter Tryz.func26, Tryz.ntmps26
    go_wp2_with fail
    refine (K5.out _ (by omega) (by omega) (by go_grown)).mono ?_
    rintro e w1 ⟨rfl, hb⟩
    have k0 := bx_new hb
    obtain ⟨hb, z0⟩ := bl_new hb
    have HB : Hid (Below w.heap.size w w1) := hb
    clear hb
    go_wp2_with fail
    go_ret
    exact ⟨ret_int (by omega), HB.out⟩
  · simp only [if_neg c5] at G5
    have K5 : Hid _ := G5
    clear G5
    have s5 : ¬ (left - (N5 : Int) < 0) := by omega
    have G9 := H9.out (left - (N5 : Int))
    by_cases c9 : left - (N5 : Int) < (N9 : Int)
    · simp only [if_pos c9] at G9
      have K9 : Hid _ := G9
      clear G9
      rw [if_pos (by omega)]
      clear H5 H9 H12
      go_enter Tryz.func26, Tryz.ntmps26
      go_wp2_with fail
      refine (K5.out _ (by omega) (by omega) (by go_grown)).mono ?_
      rintro e w1 ⟨rfl, hb⟩
      have k0 := bx_new hb
      obtain ⟨hb, z0⟩ := bl_new hb
      have HB : Hid (Below w.heap.size w w1) := hb
      clear hb
      go_wp2_with fail
      refine (K9.out _ (by omega) (by omega) HB.out).mono ?_
      rintro e w2 ⟨rfl, hb⟩
      replace k0 := bx_below k0 z0 hb
      replace z0 := Nat.lt_of_lt_of_le z0 hb.size
      replace HB : Hid (Below w.heap.size w w2) := HB.out.trans (hb.mono HB.out.size)
      clear hb
      go_wp2_with fail
      go_ret
      exact ⟨ret_int (by omega), HB.out⟩
    · simp only [if_neg c9] at G9
      have K9 : Hid _ := G9
      clear G9
      have s9 : ¬ (left - (N5 : Int) - (N9 : Int) < 0) := by omega
      have G12 := H12.out (left - (N5 : Int) - (N9 : Int))
      by_cases c12 : left - (N5 : Int) - (N9 : Int) < (N12 : Int)
      · simp only [if_pos c12] at G12
        have K12 : Hid _ := G12
        clear G12
        rw [if_pos (by omega)]
        clear H5 H9 H12
        go_enter Tryz.func26, Tryz.ntmps26
        go_wp2_with fail
        refine (K5.out _ (by omega) (by omega) (by go_grown)).mono ?_
        rintro e w1 ⟨rfl, hb⟩
        have k0 := bx_new hb
        obtain ⟨hb, z0⟩ := bl_new hb
        have HB : Hid (Below w.heap.size w w1) := hb
        clear hb
        go_wp2_with fail
        refine (K9.out _ (by omega) (by omega) HB.out).mono ?_
        rintro e w2 ⟨rfl, hb⟩
        replace k0 := bx_below k0 z0 hb
        replace z0 := Nat.lt_of_lt_of_le z0 hb.size
        replace HB : Hid (Below w.heap.size w w2) := HB.out.trans (hb.mono HB.out.size)
        clear hb
        go_wp2_with fail
        refine (K12.out _ (by omega) (by omega) HB.out).mono ?_
        rintro e w3 ⟨rfl, hb⟩
        replace k0 := bx_below k0 z0 hb
        replace z0 := Nat.lt_of_lt_of_le z0 hb.size
        replace HB : Hid (Below w.heap.size w w3) := HB.out.trans (hb.mono HB.out.size)
        clear hb
        go_wp2_with fail
        go_ret
        exact ⟨ret_int (by omega), HB.out⟩
      · simp only [if_neg c12] at G12
        have K12 : Hid _ := G12
        clear G12
        have s12 : ¬ (left - (N5 : Int) - (N9 : Int) - (N12 : Int) < 0) := by omega
        rw [if_neg (by omega)]
        clear H5 H9 H12
        go_enter Tryz.func26, Tryz.ntmps26
        go_wp2_with fail
        refine (K5.out _ (by omega) (by omega) (by go_grown)).mono ?_
        rintro e w1 ⟨rfl, hb⟩
        have k0 := bx_new hb
        obtain ⟨hb, z0⟩ := bl_new hb
        have HB : Hid (Below w.heap.size w w1) := hb
        clear hb
        go_wp2_with fail
        refine (K9.out _ (by omega) (by omega) HB.out).mono ?_
        rintro e w2 ⟨rfl, hb⟩
        replace k0 := bx_below k0 z0 hb
        replace z0 := Nat.lt_of_lt_of_le z0 hb.size
        replace HB : Hid (Below w.heap.size w w2) := HB.out.trans (hb.mono HB.out.size)
        clear hb
        go_wp2_with fail
        refine (K12.out _ (by omega) (by omega) HB.out).mono ?_
        rintro e w3 ⟨rfl, hb⟩
        replace k0 := bx_below k0 z0 hb
        replace z0 := Nat.lt_of_lt_of_le z0 hb.size
        replace HB : Hid (Below w.heap.size w w3) := HB.out.trans (hb.mono HB.out.size)
        clear hb
        go_wp2_with fail
        go_ret
        exact ⟨ret_int (by omega), HB.out⟩

theorem info_ConnI : (Tryz.prog.info? 79).map (·.size) = some 14 := by kernel_rfl
set_option maxHeartbeats 8000000 in
theorem lToConn (x : DConn) (A : Array Value) (w : World) (B : Nat) (hr : shConn.Rd w B x A.toList) (hB : B ≤ w.heap.size) (hT : totConn x ≤ 1048576) :
    Calls Tryz.prog 34 #[.agg A] w fun e w' => ∃ A', e = .returned (.agg A') ∧ Own w' w.heap.size w'.heap.size shConn x A'.toList ∧ Below w.heap.size w w' := by
  obtain ⟨y0, y1, y2, y3, y4, d5, y6, y7, y8, d9, y10, y11, d12, ⟨⟩⟩ := x
  obtain ⟨a5xa, a5xc, a9xa, a9xc, a9ya, a9yc, a12xa, a12xc, eA, r5, r9, r12, hwf⟩ := rd_Conn hr
  obtain ⟨n5xn, hn5x⟩ : ∃ n, d5.length = n := ⟨_, rfl⟩
  obtain ⟨n9xn, hn9x⟩ : ∃ n, d9.1.length = n := ⟨_, rfl⟩
  obtain ⟨n9yn, hn9y⟩ : ∃ n, d9.2.1.length = n := ⟨_, rfl⟩
  obtain ⟨n12xn, hn12x⟩ : ∃ n, d12.length = n := ⟨_, rfl⟩
  simp only [hn5x, hn9x, hn9y, hn12x] at eA r5 r9 r12
  have a0 : A[0]? = some (.int .i64 y0) := get_of eA 0
  have a1 : A[1]? = some (.int .i64 y1) := get_of eA 1
  have a2 : A[2]? = some (.int .i64 y2) := get_of eA 2
  have a3 : A[3]? = some (.bool y3) := get_of eA 3
  have a4 : A[4]? = some (.bool y4) := get_of eA 4
  have a5 : A[5]? = some (.slice a5xa n5xn a5xc) := get_of eA 5
  have a6 : A[6]? = some (.bool y6) := get_of eA 6
  have a7 : A[7]? = some (.int .i64 y7) := get_of eA 7
  have a8 : A[8]? = some (.bool y8) := get_of eA 8
  have a9 : A[9]? = some (.slice a9xa n9xn a9xc) := get_of eA 9
  have a10 : A[10]? = some (.slice a9ya n9yn a9yc) := get_of eA 10
  have a11 : A[11]? = some (.int .i64 y10) := get_of eA 11
  have a12 : A[12]? = some (.int .i64 y11) := get_of eA 12
  have a13 : A[13]? = some (.slice a12xa n12xn a12xc) := get_of eA 13
  have ht : d5.length + gtTot d9 + totSubs d12 ≤ 1048576 := hT
  have H5 : Hid (∀ W, Below w.heap.size w W → Calls Tryz.prog 36 #[.slice a5xa n5xn a5xc] W fun e w' => ∃ u, e = .returned (u) ∧ Own w' W.heap.size w'.heap.size u8s d5 [u] ∧ Below W.heap.size W w') := fun W hW => lToBytes d5 (.slice a5xa n5xn a5xc) W B (Sh.Rd.below r5 hB hW) (Nat.le_trans hB hW.size) (by omega)
  have H9 : Hid (∀ W, Below w.heap.size w W → Calls Tryz.prog 55 #[.agg #[.slice a9xa n9xn a9xc, .slice a9ya n9yn a9yc]] W fun e w' => ∃ u1 u2, e = .returned (.agg #[u1, u2]) ∧ Own w' W.heap.size w'.heap.size gtS d9 [u1, u2] ∧ Below W.heap.size W w') := fun W hW => lToGather d9 (.slice a9xa n9xn a9xc) (.slice a9ya n9yn a9yc) W B (Sh.Rd.below r9 hB hW) (Nat.le_trans hB hW.size) (by omega)
  have H12 : Hid (∀ W, Below w.heap.size w W → Calls Tryz.prog 56 #[.slice a12xa n12xn a12xc] W fun e w' => ∃ u, e = .returned (u) ∧ Own w' W.heap.size w'.heap.size shSubs d12 [u] ∧ Below W.heap.size W w') := fun W hW => lToSubs d12 (.slice a12xa n12xn a12xc) W B (Sh.Rd.below r12 hB hW) (Nat.le_trans hB hW.size) (by omega)
  have HWF : Hid _ := hwf
  have HN5x : Hid (d5.length = n5xn) := hn5x
  have HN9x : Hid (d9.1.length = n9xn) := hn9x
  have HN9y : Hid (d9.2.1.length = n9yn) := hn9y
  have HN12x : Hid (d12.length = n12xn) := hn12x
  clear hr hwf ht hT hB eA r5 r9 r12 hn5x hn9x hn9y hn12x
  go_enter Tryz.func34, Tryz.ntmps34
  go_wp2_with fail
  refine (H5.out _ (by go_grown)).mono ?_
  rintro e w1 ⟨u, rfl, ho, hb⟩
  have j0 : ∀ o, w1.cell? ⟨w.heap.size, o, none⟩ = A[o]? := fun o => by rw [hb.cell (p := ⟨w.heap.size, o, none⟩) (by simp; omega)]; simp [go_sem]
  have j1 : ∀ o, w1.cell? ⟨w.heap.size + 1, o, none⟩ = (#[.int .i64 0, .int .i64 0, .int .i64 0, .bool false, .bool false, .slice none 0 0, .bool false, .int .i64 0, .bool false, .slice none 0 0, .slice none 0 0, .int .i64 0, .int .i64 0, .slice none 0 0] : Array Value)[o]? := fun o => by rw [hb.cell (p := ⟨w.heap.size + 1, o, none⟩) (by simp)]; simp [go_sem]
  have j2 : ∀ o, w1.cell? ⟨w.heap.size + 1 + 1, o, none⟩ = (#[.int .i64 y0, .int .i64 y1, .int .i64 y2, .bool y3, .bool y4, .slice none 0 0, .bool false, .int .i64 0, .bool false, .slice none 0 0, .slice none 0 0, .int .i64 0, .int .i64 0, .slice none 0 0] : Array Value)[o]? := fun o => by
    rw [hb.cell (p := ⟨w.heap.size + 1 + 1, o, none⟩) (by simp)]
    match o with
    | 0 => simp [go_sem] | 1 => simp [go_sem] | 2 => simp [go_sem] | 3 => simp [go_sem] | 4 => simp [go_sem] | 5 => simp [go_sem] | 6 => simp [go_sem] | 7 => simp [go_sem] | 8 => simp [go_sem] | 9 => simp [go_sem] | 10 => simp [go_sem] | 11 => simp [go_sem] | 12 => simp [go_sem] | 13 => simp [go_sem]
    | o + 14 => simp [go_sem]
  have f1 : ∀ o, w1.frozen? ⟨w.heap.size + 1, o, none⟩ = false := fun o => by rw [hb.frozen (p := ⟨w.heap.size + 1, o, none⟩) (by simp)]; simp [go_sem]
  have f2 : ∀ o, w1.frozen? ⟨w.heap.size + 1 + 1, o, none⟩ = false := fun o => by rw [hb.frozen (p := ⟨w.heap.size + 1 + 1, o, none⟩) (by simp)]; simp [go_sem]
  have HB : Hid (Below w.heap.size w w1) := Below.trans (by go_grown) (hb.mono (by simp; omega))
  have z1 : w.heap.size + 1 + 1 < w1.heap.size := by have := hb.size; simp at this; omega
  have HO5 : Hid (Own w1 (w.heap.size + 1 + 1 + 1) w1.heap.size u8s d5 [u]) := Own.mono ho (by simp) (Nat.le_refl _)
  obtain ⟨b5xa, b5xc, eu⟩ := row_form (ho.rd (Nat.le_refl _))
  simp only [List.cons.injEq, and_true, HN5x.out] at eu
  subst eu
  clear ho hb H5
  go_wp2_with fail
  refine (H9.out _ (by have h := HB.out; clear j0 j1 j2 f1 f2 HO5; go_grown)).mono ?_
  rintro e w2 ⟨u1, u2, rfl, ho, hb⟩
  have z2 : w1.heap.size ≤ w2.heap.size := by have := hb.size; simpa using this
  have zz2 : w.heap.size + 1 + 1 < w2.heap.size := by omega
  replace j0 : ∀ o, w2.cell? ⟨w.heap.size, o, none⟩ = A[o]? := fun o => (hb.cell (p := ⟨w.heap.size, o, none⟩) (by simp; omega)).trans ((bx_off (bx_off (bx_off (bx_off j0 (by omega)) (by omega)) (by omega)) (by omega)) o)
  replace j1 : ∀ o, w2.cell? ⟨w.heap.size + 1, o, none⟩ = _ := fun o => (hb.cell (p := ⟨w.heap.size + 1, o, none⟩) (by simp; omega)).trans ((bx_off (bx_off (bx_off (bx_off j1 (by omega)) (by omega)) (by omega)) (by omega)) o)
  replace j2 := (bx_put (bx_put (bx_put (bx_put j2 (k := 5) (v := .slice b5xa n5xn b5xc) (by simp)) (k := 6) (v := .bool y6) (by simp)) (k := 7) (v := .int .i64 y7) (by simp)) (k := 8) (v := .bool y8) (by simp))
  simp only [List.setIfInBounds_toArray, List.set_cons_zero, List.set_cons_succ] at j2
  replace j2 : ∀ o, w2.cell? ⟨w.heap.size + 1 + 1, o, none⟩ = _ := fun o => (hb.cell (p := ⟨w.heap.size + 1 + 1, o, none⟩) (by simp; omega)).trans (j2 o)
  replace f1 : ∀ o, w2.frozen? ⟨w.heap.size + 1, o, none⟩ = false := fun o => by rw [hb.frozen (p := ⟨w.heap.size + 1, o, none⟩) (by simp; omega)]; simpa using f1 o
  replace f2 : ∀ o, w2.frozen? ⟨w.heap.size + 1 + 1, o, none⟩ = false := fun o => by rw [hb.frozen (p := ⟨w.heap.size + 1 + 1, o, none⟩) (by simp; omega)]; simpa using f2 o
  replace HO5 : Hid (Own w2 (w.heap.size + 1 + 1 + 1) w1.heap.size u8s d5 [.slice b5xa n5xn b5xc]) := Own.keep HO5.out (fun b h1 h2 => by rw [hb.block b (by simp; omega)]; repeat rw [Below.heap_setCell _ _ _ _ (by dsimp only; omega)])
  have HO9 : Hid (Own w2 w1.heap.size w2.heap.size gtS d9 [u1, u2]) := Own.mono ho (by simp) (Nat.le_refl _)
  replace HB : Hid (Below w.heap.size w w2) := (Below.setCell (Below.setCell (Below.setCell (Below.setCell HB.out (by dsimp only; omega) _) (by dsimp only; omega) _) (by dsimp only; omega) _) (by dsimp only; omega) _).trans (hb.mono (by simp; omega))
  obtain ⟨b9xa, b9xc, b9ya, b9yc, eu, -, -⟩ := rd_gt (ho.rd (Nat.le_refl _))
  simp only [List.cons.injEq, and_true, HN9x.out, HN9y.out] at eu
  obtain ⟨rfl, rfl⟩ := eu
  clear ho hb H9
  go_wp2_with fail
  refine (H12.out _ (by have h := HB.out; clear j0 j1 j2 f1 f2 HO5 HO9; go_grown)).mono ?_
  rintro e w3 ⟨u, rfl, ho, hb⟩
  have z3 : w2.heap.size ≤ w3.heap.size := by have := hb.size; simpa using this
  have zz3 : w.heap.size + 1 + 1 < w3.heap.size := by omega
  replace j0 : ∀ o, w3.cell? ⟨w.heap.size, o, none⟩ = A[o]? := fun o => (hb.cell (p := ⟨w.heap.size, o, none⟩) (by simp; omega)).trans ((bx_off (bx_off (bx_off (bx_off j0 (by omega)) (by omega)) (by omega)) (by omega)) o)
  replace j1 : ∀ o, w3.cell? ⟨w.heap.size + 1, o, none⟩ = _ := fun o => (hb.cell (p := ⟨w.heap.size + 1, o, none⟩) (by simp; omega)).trans ((bx_off (bx_off (bx_off (bx_off j1 (by omega)) (by omega)) (by omega)) (by omega)) o)
  replace j2 := (bx_put (bx_put (bx_put (bx_put j2 (k := 9) (v := .slice b9xa n9xn b9xc) (by simp)) (k := 10) (v := .slice b9ya n9yn b9yc) (by simp)) (k := 11) (v := .int .i64 y10) (by simp)) (k := 12) (v := .int .i64 y11) (by simp))
  simp only [List.setIfInBounds_toArray, List.set_cons_zero, List.set_cons_succ] at j2
  replace j2 : ∀ o, w3.cell? ⟨w.heap.size + 1 + 1, o, none⟩ = _ := fun o => (hb.cell (p := ⟨w.heap.size + 1 + 1, o, none⟩) (by simp; omega)).trans (j2 o)
  replace f1 : ∀ o, w3.frozen? ⟨w.heap.size + 1, o, none⟩ = false := fun o => by rw [hb.frozen (p := ⟨w.heap.size + 1, o, none⟩) (by simp; omega)]; simpa using f1 o
  replace f2 : ∀ o, w3.frozen? ⟨w.heap.size + 1 + 1, o, none⟩ = false := fun o => by rw [hb.frozen (p := ⟨w.heap.size + 1 + 1, o, none⟩) (by simp; omega)]; simpa using f2 o
  replace HO5 : Hid (Own w3 (w.heap.size + 1 + 1 + 1) w1.heap.size u8s d5 [.slice b5xa n5xn b5xc]) := Own.keep HO5.out (fun b h1 h2 => by rw [hb.block b (by simp; omega)]; repeat rw [Below.heap_setCell _ _ _ _ (by dsimp only; omega)])
  replace HO9 : Hid (Own w3 (w1.heap.size) w2.heap.size gtS d9 [.slice b9xa n9xn b9xc, .slice b9ya n9yn b9yc]) := Own.keep HO9.out (fun b h1 h2 => by rw [hb.block b (by simp; omega)]; repeat rw [Below.heap_setCell _ _ _ _ (by dsimp only; omega)])
  have HO12 : Hid (Own w3 w2.heap.size w3.heap.size shSubs d12 [u]) := Own.mono ho (by simp) (Nat.le_refl _)
  replace HB : Hid (Below w.heap.size w w3) := (Below.setCell (Below.setCell (Below.setCell (Below.setCell HB.out (by dsimp only; omega) _) (by dsimp only; omega) _) (by dsimp only; omega) _) (by dsimp only; omega) _).trans (hb.mono (by simp; omega))
  obtain ⟨b12xa, b12xc, eu⟩ := row_form (ho.rd (Nat.le_refl _))
  simp only [List.cons.injEq, and_true, HN12x.out] at eu
  subst eu
  clear ho hb H12
  have q2 := (bx_put j2 (k := 13) (v := .slice b12xa n12xn b12xc) (by simp))
  simp only [List.setIfInBounds_toArray, List.set_cons_zero, List.set_cons_succ] at q2
  have q1 : ∀ o, (w3.setCell ⟨w.heap.size + 1 + 1, 13, none⟩ (.slice b12xa n12xn b12xc)).cell? ⟨w.heap.size + 1, o, none⟩ = _ := (bx_off j1 (by omega))
  have g1 : ∀ o, (w3.setCell ⟨w.heap.size + 1 + 1, 13, none⟩ (.slice b12xa n12xn b12xc)).frozen? ⟨w.heap.size + 1, o, none⟩ = false := fun o => by simpa using f1 o
  obtain ⟨L, hL⟩ : ∃ L : List Value, L = [.int .i64 y0, .int .i64 y1, .int .i64 y2, .bool y3, .bool y4, .slice b5xa n5xn b5xc, .bool y6, .int .i64 y7, .bool y8, .slice b9xa n9xn b9xc, .slice b9ya n9yn b9yc, .int .i64 y10, .int .i64 y11, .slice b12xa n12xn b12xc] := ⟨_, rfl⟩
  have HL : Hid _ := hL
  have HRG : Hid ((w3.setCell ⟨w.heap.size + 1 + 1, 13, none⟩ (.slice b12xa n12xn b12xc)).rangeAt (w.heap.size + 1 + 1) 0 L) := by rw [hL]; exact bx_range (A := #[.int .i64 y0, .int .i64 y1, .int .i64 y2, .bool y3, .bool y4, .slice b5xa n5xn b5xc, .bool y6, .int .i64 y7, .bool y8, .slice b9xa n9xn b9xc, .slice b9ya n9yn b9yc, .int .i64 y10, .int .i64 y11, .slice b12xa n12xn b12xc]) q2
  have HTH : Hid ((w3.setCell ⟨w.heap.size + 1 + 1, 13, none⟩ (.slice b12xa n12xn b12xc)).there (w.heap.size + 1) 0 L.toArray.size) := by rw [hL]; exact bx_there q1 g1 rfl
  have HI1 : Hid ((Tryz.prog.info? 79).map (·.size) = some L.length) := by rw [hL]; exact info_ConnI
  have HI2 : Hid ((Tryz.prog.info? 79).map (·.size) = some L.toArray.size) := by rw [hL]; exact info_ConnI
  have HONE : Hid (L.toArray.all (·.oneCell') = true) := by show _ = _; rw [hL]; simp [Value.oneCell']
  have HRES : Hid (∀ o, ((w3.setCell ⟨w.heap.size + 1 + 1, 13, none⟩ (.slice b12xa n12xn b12xc)).setCells (w.heap.size + 1) 0 L.toArray.toList).cell? ⟨w.heap.size + 1, o, none⟩ = L.toArray[o]?) := bx_setCells (A' := L.toArray) q1 (by rw [hL]; rfl)
  have HX5 : Hid (Own ((w3.setCell ⟨w.heap.size + 1 + 1, 13, none⟩ (.slice b12xa n12xn b12xc)).setCells (w.heap.size + 1) 0 L.toArray.toList) (w.heap.size + 1 + 1 + 1) w1.heap.size u8s d5 [.slice b5xa n5xn b5xc]) := Own.keep HO5.out (fun b h1 h2 => by rw [setCells_block (by omega)]; repeat rw [Below.heap_setCell _ _ _ _ (by dsimp only; omega)])
  have HX9 : Hid (Own ((w3.setCell ⟨w.heap.size + 1 + 1, 13, none⟩ (.slice b12xa n12xn b12xc)).setCells (w.heap.size + 1) 0 L.toArray.toList) (w1.heap.size) w2.heap.size gtS d9 [.slice b9xa n9xn b9xc, .slice b9ya n9yn b9yc]) := Own.keep HO9.out (fun b h1 h2 => by rw [setCells_block (by omega)]; repeat rw [Below.heap_setCell _ _ _ _ (by dsimp only; omega)])
  have HX12 : Hid (Own ((w3.setCell ⟨w.heap.size + 1 + 1, 13, none⟩ (.slice b12xa n12xn b12xc)).setCells (w.heap.size + 1) 0 L.toArray.toList) (w2.heap.size) w3.heap.size shSubs d12 [.slice b12xa n12xn b12xc]) := Own.keep HO12.out (fun b h1 h2 => by rw [setCells_block (by omega)]; repeat rw [Below.heap_setCell _ _ _ _ (by dsimp only; omega)])
  have HBX : Hid (Below w.heap.size w ((w3.setCell ⟨w.heap.size + 1 + 1, 13, none⟩ (.slice b12xa n12xn b12xc)).setCells (w.heap.size + 1) 0 L.toArray.toList)) := setCells_below (by omega) _ _ _ _ (Below.setCell HB.out (by dsimp only; omega) _)
  have HSZ : Hid (((w3.setCell ⟨w.heap.size + 1 + 1, 13, none⟩ (.slice b12xa n12xn b12xc)).setCells (w.heap.size + 1) 0 L.toArray.toList).heap.size = w3.heap.size) := by show _ = _; rw [setCells_size]; simp
  clear q1 q2 g1 hL
  go_upto_region 15 with fail
  generalize hWX : (w3.setCell ⟨w.heap.size + 1 + 1, 13, none⟩ (.slice b12xa n12xn b12xc)) = WX at HRG HTH HRES HX5 HX9 HX12 HBX HSZ ⊢
  clear hWX j0 j1 j2 f1 f2 HB HO5 HO9 HO12
  clear a0 a1 a2 a3 a4 a5 a6 a7 a8 a9 a10 a11 a12 a13
  go_wp2_with (first | (refine wpList_load_mid rfl 79 _ rfl _ _ (by rfl) L _ HRG.out Tryz.underlying79 rfl HI1.out ?_) | (refine wpList_store_mid rfl 79 _ _ rfl _ _ L.toArray (by rfl) (by rfl) HTH.out HI2.out HONE.out ?_))
  refine bodyPost_ret (results_box Tryz.results34 _ _ _ L.toArray _ (by rfl) HRES.out Tryz.underlying79 rfl HI2.out) rfl ⟨_, rfl, ?_, HBX.out⟩
  rw [HSZ.out]
  refine Own.mono (lo := w.heap.size + 1 + 1 + 1) (hi := w3.heap.size) ?_ (by omega) (Nat.le_refl _)
  have eL := HL.out
  subst eL
  have E5x := HN5x.out
  subst E5x
  have E9x := HN9x.out
  subst E9x
  have E9y := HN9y.out
  subst E9y
  have E12x := HN12x.out
  subst E12x
  exact own_Conn HX5.out HX9.out HX12.out (by omega) (by omega) (by omega) HWF.out

set_option maxHeartbeats 8000000 in
theorem lEqConn (x : DConn) (A A' : Array Value) (w : World) (B : Nat) (hr : shConn.Rd w B x A.toList) (hr' : shConn.Rd w B x A'.toList) (hB : B ≤ w.heap.size) (hT : totConn x ≤ 1048576) :
    Calls Tryz.prog 44 #[.agg A, .agg A'] w fun e w' => e = .returned (.bool true) ∧ Below w.heap.size w w' := by
  obtain ⟨y0, y1, y2, y3, y4, d5, y6, y7, y8, d9, y10, y11, d12, ⟨⟩⟩ := x
  obtain ⟨a5xa, a5xc, a9xa, a9xc, a9ya, a9yc, a12xa, a12xc, eA, r5, r9, r12, -⟩ := rd_Conn hr
  obtain ⟨b5xa, b5xc, b9xa, b9xc, b9ya, b9yc, b12xa, b12xc, eB, s5, s9, s12, -⟩ := rd_Conn hr'
  obtain ⟨n5xn, hn5x⟩ : ∃ n, d5.length = n := ⟨_, rfl⟩
  obtain ⟨n9xn, hn9x⟩ : ∃ n, d9.1.length = n := ⟨_, rfl⟩
  obtain ⟨n9yn, hn9y⟩ : ∃ n, d9.2.1.length = n := ⟨_, rfl⟩
  obtain ⟨n12xn, hn12x⟩ : ∃ n, d12.length = n := ⟨_, rfl⟩
  simp only [hn5x, hn9x, hn9y, hn12x] at eA eB r5 r9 r12 s5 s9 s12
  have a0 : A[0]? = some (.int .i64 y0) := get_of eA 0
  have a1 : A[1]? = some (.int .i64 y1) := get_of eA 1
  have a2 : A[2]? = some (.int .i64 y2) := get_of eA 2
  have a3 : A[3]? = some (.bool y3) := get_of eA 3
  have a4 : A[4]? = some (.bool y4) := get_of eA 4
  have a5 : A[5]? = some (.slice a5xa n5xn a5xc) := get_of eA 5
  have a6 : A[6]? = some (.bool y6) := get_of eA 6
  have a7 : A[7]? = some (.int .i64 y7) := get_of eA 7
  have a8 : A[8]? = some (.bool y8) := get_of eA 8
  have a9 : A[9]? = some (.slice a9xa n9xn a9xc) := get_of eA 9
  have a10 : A[10]? = some (.slice a9ya n9yn a9yc) := get_of eA 10
  have a11 : A[11]? = some (.int .i64 y10) := get_of eA 11
  have a12 : A[12]? = some (.int .i64 y11) := get_of eA 12
  have a13 : A[13]? = some (.slice a12xa n12xn a12xc) := get_of eA 13
  have b0 : A'[0]? = some (.int .i64 y0) := get_of eB 0
  have b1 : A'[1]? = some (.int .i64 y1) := get_of eB 1
  have b2 : A'[2]? = some (.int .i64 y2) := get_of eB 2
  have b3 : A'[3]? = some (.bool y3) := get_of eB 3
  have b4 : A'[4]? = some (.bool y4) := get_of eB 4
  have b5 : A'[5]? = some (.slice b5xa n5xn b5xc) := get_of eB 5
  have b6 : A'[6]? = some (.bool y6) := get_of eB 6
  have b7 : A'[7]? = some (.int .i64 y7) := get_of eB 7
  have b8 : A'[8]? = some (.bool y8) := get_of eB 8
  have b9 : A'[9]? = some (.slice b9xa n9xn b9xc) := get_of eB 9
  have b10 : A'[10]? = some (.slice b9ya n9yn b9yc) := get_of eB 10
  have b11 : A'[11]? = some (.int .i64 y10) := get_of eB 11
  have b12 : A'[12]? = some (.int .i64 y11) := get_of eB 12
  have b13 : A'[13]? = some (.slice b12xa n12xn b12xc) := get_of eB 13
  have ht : d5.length + gtTot d9 + totSubs d12 ≤ 1048576 := hT
  have H5 : Hid (∀ W, Below w.heap.size w W → Calls Tryz.prog 46 #[.slice a5xa n5xn a5xc, .slice b5xa n5xn b5xc] W fun e w' => e = .returned (.bool true) ∧ Below W.heap.size W w') := fun W hW => lEqBytes d5 (.slice a5xa n5xn a5xc) (.slice b5xa n5xn b5xc) W B (Sh.Rd.below r5 hB hW) (Sh.Rd.below s5 hB hW) (Nat.le_trans hB hW.size) (by omega)
  have H9 : Hid (∀ W, Below w.heap.size w W → Calls Tryz.prog 64 #[.agg #[.slice a9xa n9xn a9xc, .slice a9ya n9yn a9yc], .agg #[.slice b9xa n9xn b9xc, .slice b9ya n9yn b9yc]] W fun e w' => e = .returned (.bool true) ∧ Below W.heap.size W w') := fun W hW => lEqGather d9 (.slice a9xa n9xn a9xc) (.slice a9ya n9yn a9yc) (.slice b9xa n9xn b9xc) (.slice b9ya n9yn b9yc) W B (Sh.Rd.below r9 hB hW) (Sh.Rd.below s9 hB hW) (Nat.le_trans hB hW.size) (by omega)
  have H12 : Hid (∀ W, Below w.heap.size w W → Calls Tryz.prog 65 #[.slice a12xa n12xn a12xc, .slice b12xa n12xn b12xc] W fun e w' => e = .returned (.bool true) ∧ Below W.heap.size W w') := fun W hW => lEqSubs d12 (.slice a12xa n12xn a12xc) (.slice b12xa n12xn b12xc) W B (Sh.Rd.below r12 hB hW) (Sh.Rd.below s12 hB hW) (Nat.le_trans hB hW.size) (by omega)
  clear hr hr' ht hT eA eB r5 r9 r12 s5 s9 s12 hn5x hn9x hn9y hn12x
  go_enter Tryz.func44, Tryz.ntmps44
  go_wp2_with fail
  refine (H5.out _ (by go_grown)).mono ?_
  rintro e w1 ⟨rfl, hb⟩
  have k0 : ∀ o, w1.cell? ⟨w.heap.size, o, none⟩ = A[o]? := fun o => by rw [hb.cell (p := ⟨w.heap.size, o, none⟩) (by simp; omega)]; simp [go_sem]
  have k1 : ∀ o, w1.cell? ⟨w.heap.size + 1, o, none⟩ = A'[o]? := fun o => by rw [hb.cell (p := ⟨w.heap.size + 1, o, none⟩) (by simp)]; simp [go_sem]
  have HB : Hid (Below w.heap.size w w1) := Below.trans (by go_grown) (hb.mono (by simp; omega))
  have z1 : w.heap.size + 1 < w1.heap.size := by have := hb.size; simp at this; omega
  clear hb H5
  go_wp2_with fail
  refine (H9.out _ HB.out).mono ?_
  rintro e w2 ⟨rfl, hb⟩
  replace k0 := bx_below k0 (by omega) hb
  replace k1 := bx_below k1 z1 hb
  replace z1 := Nat.lt_of_lt_of_le z1 hb.size
  replace HB : Hid (Below w.heap.size w w2) := HB.out.trans (hb.mono HB.out.size)
  clear hb H9
  go_wp2_with fail
  refine (H12.out _ HB.out).mono ?_
  rintro e w3 ⟨rfl, hb⟩
  replace k0 := bx_below k0 (by omega) hb
  replace k1 := bx_below k1 z1 hb
  replace z1 := Nat.lt_of_lt_of_le z1 hb.size
  replace HB : Hid (Below w.heap.size w w3) := HB.out.trans (hb.mono HB.out.size)
  clear hb H12
  go_wp2_with fail
  go_ret
  exact ⟨rfl, HB.out⟩
end Go.Proofs.YtfpemobkkfobkaaGreatDoor

/- What is said of a conn, in plain words: its fault; no condition. -/
namespace Go.Proofs.YtfpemobkkfobkaaGreatDoor
open Go.RowKit
set_option linter.unusedVariables false
set_option maxRecDepth 8000

abbrev DConn.side (c : DConn) : Int := c.1
abbrev DConn.key (c : DConn) : Int := c.2.1
abbrev DConn.peer (c : DConn) : Int := c.2.2.1
abbrev DConn.plain (c : DConn) : Bool := c.2.2.2.1
abbrev DConn.free (c : DConn) : Bool := c.2.2.2.2.1
abbrev DConn.wrote (c : DConn) : List Int := c.2.2.2.2.2.1
abbrev DConn.fin (c : DConn) : Bool := c.2.2.2.2.2.2.1
abbrev DConn.acked (c : DConn) : Int := c.2.2.2.2.2.2.2.1
abbrev DConn.finDone (c : DConn) : Bool := c.2.2.2.2.2.2.2.2.1
abbrev DConn.inn (c : DConn) : Gt := c.2.2.2.2.2.2.2.2.2.1
abbrev DConn.finIn (c : DConn) : Int := c.2.2.2.2.2.2.2.2.2.2.1
abbrev DConn.given (c : DConn) : Int := c.2.2.2.2.2.2.2.2.2.2.2.1
abbrev DConn.subs (c : DConn) : List DSub := c.2.2.2.2.2.2.2.2.2.2.2.2.1

def keyD (k : Int) : Bool := inD k 1 999999
def keysD (c : DConn) : Bool := inD c.side 0 1 && keyD c.key && (decide (c.peer = 0) || keyD c.peer)
def outBad (c : DConn) : Bool := c.finDone && (!c.fin || !decide (c.acked = (c.wrote.length : Int)))
/-- No byte lies behind the end. -/
def endsD (F : Int) (g : Gt) : Bool := decide (F < 0) || (decide ((g.1.length : Int) ≤ F) && g.2.1.all fun p => decide (p.1 + (p.2.1.length : Int) ≤ F))
/-- The fault of the subs behind those that stand ahead. -/
def subsFrom : List DSub → List DSub → Int
  | _, [] => 0
  | pre, x :: xs => if subF x ≠ 0 then subF x else if (pre.any fun y => decide (y.1 = x.1)) = true then 7 else if x.2.2.1 ≠ decide (0 < pre.length) then 1 else subsFrom (pre ++ [x]) xs
def subsF (l : List DSub) : Int := subsFrom [] l
theorem subs_at {l : List DSub} {k : Nat} (hk : k < l.length) : subsFrom (l.take k) (l.drop k) = if subF l[k] ≠ 0 then subF l[k] else if ((l.take k).any fun y => decide (y.1 = l[k].1)) = true then 7 else if l[k].2.2.1 ≠ decide (0 < k) then 1 else subsFrom (l.take (k + 1)) (l.drop (k + 1)) := by
  have h : (l.take k).length = k := by rw [List.length_take]; omega
  rw [List.drop_eq_getElem_cons hk, subsFrom, h, List.take_succ_eq_append_getElem hk]
theorem subs_end {l : List DSub} : subsFrom (l.take l.length) (l.drop l.length) = 0 := by rw [List.drop_length]; rfl
def formD (c : DConn) : Bool := (decide (1 < c.subs.length) && (c.plain || decide ((c.subs.head?.map fun x => x.2.1) = some 1))) || (c.free && decide (c.subs.length < 2))
def strD (s : Int) (l : List DSub) : Bool := l.any fun x => decide (x.2.1 = 2 - s)
def connF (c : DConn) : Int :=
  if keysD c = false then 3 else if 300 < c.wrote.length then 2 else if inD c.acked 0 c.wrote.length = false then 3 else if outBad c = true then 1 else if gtFault c.inn ≠ 0 then gtFault c.inn
  else if (inD c.finIn (-1) 400 && inD c.given 0 c.inn.1.length) = false then 3 else if endsD c.finIn c.inn = false then 1 else if subsF c.subs ≠ 0 then subsF c.subs else if formD c = true then 1 else if strD c.side c.subs = true then 1 else 0
/-- A conn without a fault: what that says. -/
theorem conn_ok {c : DConn} (h : connF c = 0) : keysD c = true ∧ c.wrote.length ≤ 300 ∧ inD c.acked 0 c.wrote.length = true ∧ outBad c = false ∧ gtFault c.inn = 0 ∧ inD c.finIn (-1) 400 = true ∧ inD c.given 0 c.inn.1.length = true ∧ endsD c.finIn c.inn = true ∧ subsF c.subs = 0 ∧ formD c = false ∧ strD c.side c.subs = false := by
  unfold connF at h
  split at h
  · cases h
  rename_i h1
  split at h
  · cases h
  rename_i h2
  split at h
  · cases h
  rename_i h3
  split at h
  · cases h
  rename_i h4
  split at h
  · rename_i h5; exact absurd h h5
  rename_i h5
  split at h
  · cases h
  rename_i h6
  split at h
  · cases h
  rename_i h7
  split at h
  · rename_i h8; exact absurd h h8
  rename_i h8
  split at h
  · cases h
  rename_i h9
  split at h
  · cases h
  rename_i h10
  have h6' : inD c.finIn (-1) 400 = true ∧ inD c.given 0 c.inn.1.length = true := by simpa using h6
  exact ⟨by simpa using h1, by omega, by simpa using h3, by simpa using h4, by simpa using h5, h6'.1, h6'.2, by simpa using h7, by simpa using h8, by simpa using h9, by simpa using h10⟩
theorem pcs_in : ∀ {e : Int} {ps : List Pc}, pcsFault e ps = 0 → ∀ p ∈ ps, 0 < p.2.1.length ∧ 0 ≤ p.1 ∧ p.1 + p.2.1.length ≤ 400
  | _, [], _, _, hp => by cases hp
  | e, q :: ps, h, p, hp => by
    unfold pcsFault at h
    split at h
    · rename_i h0; exact absurd h h0
    rename_i h0
    have h0' : pcFault q.1 q.2.1.length e = 0 := by simpa using h0
    rcases List.mem_cons.1 hp with rfl | hp
    · have := pcFault_ok h0'; exact ⟨this.1, this.2.1, this.2.2.1⟩
    · exact pcs_in h p hp
theorem gt_in {g : Gt} (h : gtFault g = 0) : g.1.length ≤ 400 ∧ g.2.1.length ≤ 40 ∧ ∀ p ∈ g.2.1, 0 < p.2.1.length ∧ 0 ≤ p.1 ∧ p.1 + p.2.1.length ≤ 400 := by
  unfold gtFault at h
  split at h
  · cases h
  · rename_i h0
    exact ⟨by omega, by omega, pcs_in h⟩
end Go.Proofs.YtfpemobkkfobkaaGreatDoor
