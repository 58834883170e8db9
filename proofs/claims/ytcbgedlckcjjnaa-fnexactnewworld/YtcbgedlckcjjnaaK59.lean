/- Values of type World, a value as one of 6 cells: what is read, what is owned, and what the law's own helpers (measure, copy, compare) make of them; no condition but that there are at most a million parts. Written by mkc.py. -/
import Derived.Test.YtcbgedlckcjjnaaRows
import Derived.Deep.DeepCutAuto
import Derived.Deep.RegionHeld3
import Derived.Deep.MidRow
import Derived.Test.YtcbgedlckcjjnaaK01
import Derived.Test.YtcbgedlckcjjnaaK02
import Derived.Test.YtcbgedlckcjjnaaK03
import Derived.Test.YtcbgedlckcjjnaaK04
import Derived.Test.YtcbgedlckcjjnaaK09
import Derived.Test.YtcbgedlckcjjnaaK10
import Derived.Test.YtcbgedlckcjjnaaK11
import Derived.Test.YtcbgedlckcjjnaaK20
import Derived.Test.YtcbgedlckcjjnaaK55
import Derived.Test.YtcbgedlckcjjnaaK57
import Derived.Test.YtcbgedlckcjjnaaK58
namespace Go.Proofs.Ytcbgedlckcjjnaa
open Go.RowKit
set_option linter.unusedVariables false
set_option maxRecDepth 8000

abbrev shWorld : Sh := .cons (.int .i64) (.cons shConns (.cons shNet (.cons shBss (.cons (bls 4) (.nil)))))
abbrev DWorld : Type := Int × (List DConn) × (DNet) × (List (List Int)) × (List Bool) × Unit
def totWorld (x : DWorld) : Nat := totConns x.2.1 + totNet x.2.2.1 + totBss x.2.2.2.1 + x.2.2.2.2.1.length
/-- The numbers of one fit. -/
def WorldWf (x : DWorld) : Prop := (Lit.int .i64 x.1).wf = true
theorem rd_World {w : World} {B : Nat} {y0 : Int} {d1 : (List DConn)} {d2 : (DNet)} {d3 : (List (List Int))} {d4 : (List Bool)} {cs : List Value} (h : shWorld.Rd w B (y0, d1, d2, d3, d4, ()) cs) : ∃ (a1xa : Option Addr) (a1xc : Nat) (a2xa : Option Addr) (a2xc : Nat) (a2ya : Option Addr) (a2yc : Nat) (a3xa : Option Addr) (a3xc : Nat) (a4xa : Option Addr) (a4xc : Nat), cs = [.int .i64 y0, .slice a1xa d1.length a1xc, .slice a2xa d2.1.length a2xc, .slice a2ya d2.2.1.length a2yc, .slice a3xa d3.length a3xc, .slice a4xa d4.length a4xc] ∧ shConns.Rd w B d1 [.slice a1xa d1.length a1xc] ∧ shNet.Rd w B d2 [.slice a2xa d2.1.length a2xc, .slice a2ya d2.2.1.length a2yc] ∧ shBss.Rd w B d3 [.slice a3xa d3.length a3xc] ∧ (bls 4).Rd w B d4 [.slice a4xa d4.length a4xc] ∧ WorldWf (y0, d1, d2, d3, d4, ()) := by
  obtain ⟨p0, q0, e0, ⟨g0, w0⟩, p1, q1, e1, h1, p2, q2, e2, h2, p3, q3, e3, h3, p4, q4, e4, h4, hz⟩ := h
  have hz' : q4 = [] := hz
  obtain ⟨a1xa, a1xc, f1⟩ := row_form h1
  subst f1
  obtain ⟨a2xa, a2xc, a2ya, a2yc, f2, -, -⟩ := rd_NetD h2
  subst f2
  obtain ⟨a3xa, a3xc, f3⟩ := row_form h3
  subst f3
  obtain ⟨a4xa, a4xc, f4⟩ := row_form h4
  subst f4
  refine ⟨a1xa, a1xc, a2xa, a2xc, a2ya, a2yc, a3xa, a3xc, a4xa, a4xc, ?_, h1, h2, h3, h4, w0⟩
  rw [e0, g0, e1, e2, e3, e4, hz']
  rfl
theorem own_World {w : World} {lo hi m1 m2 m3 : Nat} {y0 : Int} {d1 : (List DConn)} {d2 : (DNet)} {d3 : (List (List Int))} {d4 : (List Bool)} {a1xa : Option Addr} {a1xc : Nat} {a2xa : Option Addr} {a2xc : Nat} {a2ya : Option Addr} {a2yc : Nat} {a3xa : Option Addr} {a3xc : Nat} {a4xa : Option Addr} {a4xc : Nat} (h1 : Own w lo m1 shConns d1 [.slice a1xa d1.length a1xc]) (h2 : Own w m1 m2 shNet d2 [.slice a2xa d2.1.length a2xc, .slice a2ya d2.2.1.length a2yc]) (h3 : Own w m2 m3 shBss d3 [.slice a3xa d3.length a3xc]) (h4 : Own w m3 hi (bls 4) d4 [.slice a4xa d4.length a4xc]) (l0 : lo ≤ m1) (l1 : m1 ≤ m2) (l2 : m2 ≤ m3) (l3 : m3 ≤ hi) (hw : WorldWf (y0, d1, d2, d3, d4, ())) : Own w lo hi shWorld (y0, d1, d2, d3, d4, ()) [.int .i64 y0, .slice a1xa d1.length a1xc, .slice a2xa d2.1.length a2xc, .slice a2ya d2.2.1.length a2yc, .slice a3xa d3.length a3xc, .slice a4xa d4.length a4xc] := by
  have w0 := hw
  have LE4 : hi ≤ hi := Nat.le_refl _
  have LE0 : lo ≤ hi := by omega
  have LE1 : m1 ≤ hi := by omega
  have LE2 : m2 ≤ hi := by omega
  have LE3 : m3 ≤ hi := by omega
  exact hOwnCons (hOwnInt w lo lo w0) (hOwnCons h1 (hOwnCons h2 (hOwnCons h3 (hOwnCons h4 (hOwnNil w hi hi) l3 LE4) l2 LE3) l1 LE2) l0 LE1) (Nat.le_refl _) LE0



set_option maxHeartbeats 8000000 in
theorem lEqWorld (x : DWorld) (A A' : Array Value) (w : World) (B : Nat) (hr : shWorld.Rd w B x A.toList) (hr' : shWorld.Rd w B x A'.toList) (hB : B ≤ w.heap.size) (hT : totWorld x ≤ 1048576) :
    Calls Try.prog 14 #[.agg A, .agg A'] w fun e w' => e = .returned (.bool true) ∧ Below w.heap.size w w' := by
  obtain ⟨y0, d1, d2, d3, d4, ⟨⟩⟩ := x
  obtain ⟨a1xa, a1xc, a2xa, a2xc, a2ya, a2yc, a3xa, a3xc, a4xa, a4xc, eA, r1, r2, r3, r4, -⟩ := rd_World hr
  obtain ⟨b1xa, b1xc, b2xa, b2xc, b2ya, b2yc, b3xa, b3xc, b4xa, b4xc, eB, s1, s2, s3, s4, -⟩ := rd_World hr'
  obtain ⟨n1xn, hn1x⟩ : ∃ n, d1.length = n := ⟨_, rfl⟩
  obtain ⟨n2xn, hn2x⟩ : ∃ n, d2.1.length = n := ⟨_, rfl⟩
  obtain ⟨n2yn, hn2y⟩ : ∃ n, d2.2.1.length = n := ⟨_, rfl⟩
  obtain ⟨n3xn, hn3x⟩ : ∃ n, d3.length = n := ⟨_, rfl⟩
  obtain ⟨n4xn, hn4x⟩ : ∃ n, d4.length = n := ⟨_, rfl⟩
  simp only [hn1x, hn2x, hn2y, hn3x, hn4x] at eA eB r1 r2 r3 r4 s1 s2 s3 s4
  have a0 : A[0]? = some (.int .i64 y0) := get_of eA 0
  have a1 : A[1]? = some (.slice a1xa n1xn a1xc) := get_of eA 1
  have a2 : A[2]? = some (.slice a2xa n2xn a2xc) := get_of eA 2
  have a3 : A[3]? = some (.slice a2ya n2yn a2yc) := get_of eA 3
  have a4 : A[4]? = some (.slice a3xa n3xn a3xc) := get_of eA 4
  have a5 : A[5]? = some (.slice a4xa n4xn a4xc) := get_of eA 5
  have b0 : A'[0]? = some (.int .i64 y0) := get_of eB 0
  have b1 : A'[1]? = some (.slice b1xa n1xn b1xc) := get_of eB 1
  have b2 : A'[2]? = some (.slice b2xa n2xn b2xc) := get_of eB 2
  have b3 : A'[3]? = some (.slice b2ya n2yn b2yc) := get_of eB 3
  have b4 : A'[4]? = some (.slice b3xa n3xn b3xc) := get_of eB 4
  have b5 : A'[5]? = some (.slice b4xa n4xn b4xc) := get_of eB 5
  have ht : totConns d1 + totNet d2 + totBss d3 + d4.length ≤ 1048576 := hT
  have H1 : Hid (∀ W, Below w.heap.size w W → Calls Try.prog 26 #[.slice a1xa n1xn a1xc, .slice b1xa n1xn b1xc] W fun e w' => e = .returned (.bool true) ∧ Below W.heap.size W w') := fun W hW => lEqConns d1 (.slice a1xa n1xn a1xc) (.slice b1xa n1xn b1xc) W B (Sh.Rd.below r1 hB hW) (Sh.Rd.below s1 hB hW) (Nat.le_trans hB hW.size) (by omega)
  have H2 : Hid (∀ W, Below w.heap.size w W → Calls Try.prog 27 #[.agg #[.slice a2xa n2xn a2xc, .slice a2ya n2yn a2yc], .agg #[.slice b2xa n2xn b2xc, .slice b2ya n2yn b2yc]] W fun e w' => e = .returned (.bool true) ∧ Below W.heap.size W w') := fun W hW => lEqNetU d2 (.slice a2xa n2xn a2xc) (.slice a2ya n2yn a2yc) (.slice b2xa n2xn b2xc) (.slice b2ya n2yn b2yc) W B (Sh.Rd.below r2 hB hW) (Sh.Rd.below s2 hB hW) (Nat.le_trans hB hW.size) (by omega)
  have H3 : Hid (∀ W, Below w.heap.size w W → Calls Try.prog 28 #[.slice a3xa n3xn a3xc, .slice b3xa n3xn b3xc] W fun e w' => e = .returned (.bool true) ∧ Below W.heap.size W w') := fun W hW => lEqBss d3 (.slice a3xa n3xn a3xc) (.slice b3xa n3xn b3xc) W B (Sh.Rd.below r3 hB hW) (Sh.Rd.below s3 hB hW) (Nat.le_trans hB hW.size) (by omega)
  have H4 : Hid (∀ W, Below w.heap.size w W → Calls Try.prog 29 #[.slice a4xa n4xn a4xc, .slice b4xa n4xn b4xc] W fun e w' => e = .returned (.bool true) ∧ Below W.heap.size W w') := fun W hW => lEqBoolsU d4 (.slice a4xa n4xn a4xc) (.slice b4xa n4xn b4xc) W B (Sh.Rd.below r4 hB hW) (Sh.Rd.below s4 hB hW) (Nat.le_trans hB hW.size) (by omega)
  clear hr hr' ht hT eA eB r1 r2 r3 r4 s1 s2 s3 s4 hn1x hn2x hn2y hn3x hn4x
  go_enter Try.func14, Try.ntmps14
  go_wp2_with fail
  refine (H1.out _ (by go_grown)).mono ?_
  rintro e w1 ⟨rfl, hb⟩
  have k0 : ∀ o, w1.cell? ⟨w.heap.size, o, none⟩ = A[o]? := fun o => by rw [hb.cell (p := ⟨w.heap.size, o, none⟩) (by simp; omega)]; simp [go_sem]
  have k1 : ∀ o, w1.cell? ⟨w.heap.size + 1, o, none⟩ = A'[o]? := fun o => by rw [hb.cell (p := ⟨w.heap.size + 1, o, none⟩) (by simp)]; simp [go_sem]
  have HB : Hid (Below w.heap.size w w1) := Below.trans (by go_grown) (hb.mono (by simp; omega))
  have z1 : w.heap.size + 1 < w1.heap.size := by have := hb.size; simp at this; omega
  clear hb H1
  go_wp2_with fail
  refine (H2.out _ HB.out).mono ?_
  rintro e w2 ⟨rfl, hb⟩
  replace k0 := bx_below k0 (by omega) hb
  replace k1 := bx_below k1 z1 hb
  replace z1 := Nat.lt_of_lt_of_le z1 hb.size
  replace HB : Hid (Below w.heap.size w w2) := HB.out.trans (hb.mono HB.out.size)
  clear hb H2
  go_wp2_with fail
  refine (H3.out _ HB.out).mono ?_
  rintro e w3 ⟨rfl, hb⟩
  replace k0 := bx_below k0 (by omega) hb
  replace k1 := bx_below k1 z1 hb
  replace z1 := Nat.lt_of_lt_of_le z1 hb.size
  replace HB : Hid (Below w.heap.size w w3) := HB.out.trans (hb.mono HB.out.size)
  clear hb H3
  go_wp2_with fail
  refine (H4.out _ HB.out).mono ?_
  rintro e w4 ⟨rfl, hb⟩
  replace k0 := bx_below k0 (by omega) hb
  replace k1 := bx_below k1 z1 hb
  replace z1 := Nat.lt_of_lt_of_le z1 hb.size
  replace HB : Hid (Below w.heap.size w w4) := HB.out.trans (hb.mono HB.out.size)
  clear hb H4
  go_wp2_with fail
  go_ret
  exact ⟨rfl, HB.out⟩
end Go.Proofs.Ytcbgedlckcjjnaa
