/- What program and model make of a sub that is closed: the answer owns its memory; nothing that was in memory turns; no condition but that there are at most a million parts. Written by mkclose.py. -/
import Derived.Test.YtebgibjokljlbaaRows
import Derived.Deep.RegionHeld3
import Derived.Test.YtebgibjokljlbaaS01
import Derived.Test.YtebgibjokljlbaaS03
import Derived.Test.YtebgibjokljlbaaS04
import Derived.Test.YtebgibjokljlbaaS05
import Derived.Test.YtebgibjokljlbaaS11
import Derived.Test.YtebgibjokljlbaaS13
import Derived.Test.YtebgibjokljlbaaS18
import Derived.Test.YtebgibjokljlbaaS21
import Derived.Test.YtebgibjokljlbaaS23
import Derived.Test.YtebgibjokljlbaaS24
import Derived.Test.YtebgibjokljlbaaS25
import Derived.Test.YtebgibjokljlbaaS26
namespace Go.Proofs.Ytebgibjokljlbaa
open Go.RowKit
set_option linter.unusedVariables false
set_option maxRecDepth 8000
set_option maxHeartbeats 1000000 in
theorem sL8Close (y0 y1 : Int) (y2 : Bool) (y3 y4 y5 s0 s1 s2 c0 c1 k0 k1 k2 : Int) (u v : Value) (sb : Nat) (w : World) (hc : ∀ o, w.cell? ⟨sb, o, none⟩ = (#[.int .i64 y0, .int .i64 y1, .bool y2, .int .i64 y3, .int .i64 y4, .int .i64 y5, .int .i64 s0, .int .i64 s1, .int .i64 s2, u, .int .i64 c0, .int .i64 c1, v, .int .i64 k0, .int .i64 k1, .int .i64 k2] : Array Value)[o]?) (hf : ∀ o, w.frozen? ⟨sb, o, none⟩ = false) :
    Calls Try.prog 83 #[.pointer (some ⟨sb, 0, none⟩)] w fun e w' => e = .returned (.tuple #[]) ∧ w' = ((w.setCell ⟨sb, 1, none⟩ (.int .i64 4)).setCell ⟨sb, 9, none⟩ (.slice none 0 0)).setCell ⟨sb, 7, none⟩ (.int .i64 s2) := by
  have x1 : w.cell? ⟨sb, 1, none⟩ = some (.int .i64 y1) := hc 1
  have x7 : w.cell? ⟨sb, 7, none⟩ = some (.int .i64 s1) := hc 7
  have x8 : w.cell? ⟨sb, 8, none⟩ = some (.int .i64 s2) := hc 8
  have x9 : w.cell? ⟨sb, 9, none⟩ = some u := hc 9
  clear hc
  go_enter Try.func83, Try.ntmps83
  go_wp2_with fail
  exact ⟨rfl, .tuple #[], by simp [results, Try.results83], rfl, rfl⟩
theorem sCloseRes {tmps : Array Value} {w : World} {b : Nat} {q y0 y1 : Int} {y2 : Bool} {y3 y4 y5 s0 s1 s2 c0 c1 k0 k1 k2 : Int} {ua : Option Addr} {fn uc : Nat} {va : Option Addr} {sn vc : Nat} (ht : tmps[2]? = some (.pointer (some ⟨b, 0, none⟩))) (hj : ∀ o, w.cell? ⟨b, o, none⟩ = (#[.int .i64 q, .int .i64 y0, .int .i64 y1, .bool y2, .int .i64 y3, .int .i64 y4, .int .i64 y5, .int .i64 s0, .int .i64 s1, .int .i64 s2, .slice ua fn uc, .int .i64 c0, .int .i64 c1, .slice va sn vc, .int .i64 k0, .int .i64 k1, .int .i64 k2] : Array Value)[o]?) :
    (results Try.f31 tmps).run Try.prog w = .ok (.agg #[.int .i64 q, .int .i64 y0, .int .i64 y1, .bool y2, .int .i64 y3, .int .i64 y4, .int .i64 y5, .int .i64 s0, .int .i64 s1, .int .i64 s2, .slice ua fn uc, .int .i64 c0, .int .i64 c1, .slice va sn vc, .int .i64 k0, .int .i64 k1, .int .i64 k2]) w := by
  simp [results, Try.results31, ht, go_sem, hj]
set_option maxHeartbeats 2000000 in
theorem sCloseNo (y0 y1 : Int) (y2 : Bool) (y3 y4 y5 s0 s1 s2 c0 c1 k0 k1 k2 : Int) (fl : List DFlight) (sp : List DSpan) (ua : Option Addr) (fn uc : Nat) (va : Option Addr) (sn vc : Nat) (w : World) (F : Int) (hF : ¬ F = 0) (HC : Hid (∀ W sb, Below w.heap.size w W → (∀ o, W.cell? ⟨sb, o, none⟩ = (#[.int .i64 y0, .int .i64 y1, .bool y2, .int .i64 y3, .int .i64 y4, .int .i64 y5, .int .i64 s0, .int .i64 s1, .int .i64 s2, .slice ua fn uc, .int .i64 c0, .int .i64 c1, .slice va sn vc, .int .i64 k0, .int .i64 k1, .int .i64 k2] : Array Value)[o]?) → Calls Try.prog 81 #[.pointer (some ⟨sb, 0, none⟩)] W fun e w' => e = .returned (.int .i64 F) ∧ Below W.heap.size W w')) :
    Calls Try.prog 31 #[.agg #[.int .i64 y0, .int .i64 y1, .bool y2, .int .i64 y3, .int .i64 y4, .int .i64 y5, .int .i64 s0, .int .i64 s1, .int .i64 s2, .slice ua fn uc, .int .i64 c0, .int .i64 c1, .slice va sn vc, .int .i64 k0, .int .i64 k1, .int .i64 k2]] w fun e w' => e = .returned (.agg #[.int .i64 F, .int .i64 0, .int .i64 0, .bool false, .int .i64 0, .int .i64 0, .int .i64 0, .int .i64 0, .int .i64 0, .int .i64 0, .slice none 0 0, .int .i64 0, .int .i64 0, .slice none 0 0, .int .i64 0, .int .i64 0, .int .i64 0]) ∧ Below w.heap.size w w' := by
  have hF' : (F != 0) = true := by simp [hF]
  clear hF
  go_enter Try.func31, Try.ntmps31
  go_wp2_with fail
  refine (HC.out _ w.heap.size (by go_grown) (fun o => by simp [go_sem])).mono ?_
  rintro e w1 ⟨rfl, hb⟩
  have j1 : ∀ o, w1.cell? ⟨w.heap.size + 1, o, none⟩ = (#[.int .i64 0, .int .i64 0, .int .i64 0, .bool false, .int .i64 0, .int .i64 0, .int .i64 0, .int .i64 0, .int .i64 0, .int .i64 0, .slice none 0 0, .int .i64 0, .int .i64 0, .slice none 0 0, .int .i64 0, .int .i64 0, .int .i64 0] : Array Value)[o]? := fun o => by rw [hb.cell (p := ⟨w.heap.size + 1, o, none⟩) (by simp)]; simp [go_sem]
  have f1 : ∀ o, w1.frozen? ⟨w.heap.size + 1, o, none⟩ = false := fun o => by rw [hb.frozen (p := ⟨w.heap.size + 1, o, none⟩) (by simp)]; simp [go_sem]
  have z1 : w.heap.size + 1 < w1.heap.size := by have := hb.size; simp at this; omega
  have HB : Hid (Below w.heap.size w w1) := Below.trans (by go_grown) (hb.mono (by simp; omega))
  clear hb HC
  have HJ := setsW_all (w := w1) [.int .i64 F, .int .i64 0, .int .i64 0, .bool false, .int .i64 0, .int .i64 0, .int .i64 0, .int .i64 0, .int .i64 0, .int .i64 0, .slice none 0 0, .int .i64 0, .int .i64 0, .slice none 0 0, .int .i64 0, .int .i64 0, .int .i64 0] j1 (by simp)
  have HX : Hid (Below w.heap.size w (setsW w1 (w.heap.size + 1) 0 [.int .i64 F, .int .i64 0, .int .i64 0, .bool false, .int .i64 0, .int .i64 0, .int .i64 0, .int .i64 0, .int .i64 0, .int .i64 0, .slice none 0 0, .int .i64 0, .int .i64 0, .slice none 0 0, .int .i64 0, .int .i64 0, .int .i64 0])) := setsW_below (Nat.le_succ _) _ _ _ _ HB.out
  have HE : Hid (setsW w1 (w.heap.size + 1) 0 [.int .i64 F, .int .i64 0, .int .i64 0, .bool false, .int .i64 0, .int .i64 0, .int .i64 0, .int .i64 0, .int .i64 0, .int .i64 0, .slice none 0 0, .int .i64 0, .int .i64 0, .slice none 0 0, .int .i64 0, .int .i64 0, .int .i64 0] = (((((((((((((((((w1.setCell ⟨w.heap.size + 1, 0, none⟩ (.int .i64 F)).setCell ⟨w.heap.size + 1, 1, none⟩ (.int .i64 0)).setCell ⟨w.heap.size + 1, 2, none⟩ (.int .i64 0)).setCell ⟨w.heap.size + 1, 3, none⟩ (.bool false)).setCell ⟨w.heap.size + 1, 4, none⟩ (.int .i64 0)).setCell ⟨w.heap.size + 1, 5, none⟩ (.int .i64 0)).setCell ⟨w.heap.size + 1, 6, none⟩ (.int .i64 0)).setCell ⟨w.heap.size + 1, 7, none⟩ (.int .i64 0)).setCell ⟨w.heap.size + 1, 8, none⟩ (.int .i64 0)).setCell ⟨w.heap.size + 1, 9, none⟩ (.int .i64 0)).setCell ⟨w.heap.size + 1, 10, none⟩ (.slice none 0 0)).setCell ⟨w.heap.size + 1, 11, none⟩ (.int .i64 0)).setCell ⟨w.heap.size + 1, 12, none⟩ (.int .i64 0)).setCell ⟨w.heap.size + 1, 13, none⟩ (.slice none 0 0)).setCell ⟨w.heap.size + 1, 14, none⟩ (.int .i64 0)).setCell ⟨w.heap.size + 1, 15, none⟩ (.int .i64 0)).setCell ⟨w.heap.size + 1, 16, none⟩ (.int .i64 0))) := by show _ = _; simp only [setsW, Nat.reduceAdd]
  have HJJ : Hid _ := HJ
  clear HJ HB
  go_wp2_with fail
  rw [← HE.out]
  have j9 := HJJ.out
  clear HE HJJ j1 f1
  generalize setsW w1 (w.heap.size + 1) 0 [.int .i64 F, .int .i64 0, .int .i64 0, .bool false, .int .i64 0, .int .i64 0, .int .i64 0, .int .i64 0, .int .i64 0, .int .i64 0, .slice none 0 0, .int .i64 0, .int .i64 0, .slice none 0 0, .int .i64 0, .int .i64 0, .int .i64 0] = X at *
  exact bodyPost_ret (sCloseRes (by rfl) j9) rfl ⟨rfl, HX.out⟩
set_option maxHeartbeats 20000000 in
theorem sCloseOk (y0 y1 : Int) (y2 : Bool) (y3 y4 y5 s0 s1 s2 c0 c1 k0 k1 k2 : Int) (fl : List DFlight) (sp : List DSpan) (ua : Option Addr) (fn uc : Nat) (va : Option Addr) (sn vc : Nat) (w : World) (F : Int) (hF : F = 0) (HC : Hid (∀ W sb, Below w.heap.size w W → (∀ o, W.cell? ⟨sb, o, none⟩ = (#[.int .i64 y0, .int .i64 y1, .bool y2, .int .i64 y3, .int .i64 y4, .int .i64 y5, .int .i64 s0, .int .i64 s1, .int .i64 s2, .slice ua fn uc, .int .i64 c0, .int .i64 c1, .slice va sn vc, .int .i64 k0, .int .i64 k1, .int .i64 k2] : Array Value)[o]?) → Calls Try.prog 81 #[.pointer (some ⟨sb, 0, none⟩)] W fun e w' => e = .returned (.int .i64 F) ∧ Below W.heap.size W w'))
    (H2 : Hid (∀ W, Below w.heap.size w W → Calls Try.prog 82 #[.agg #[.int .i64 y0, .int .i64 y1, .bool y2, .int .i64 y3, .int .i64 y4, .int .i64 y5, .int .i64 s0, .int .i64 s1, .int .i64 s2, .slice ua fn uc, .int .i64 c0, .int .i64 c1, .slice va sn vc, .int .i64 k0, .int .i64 k1, .int .i64 k2]] W fun e w' => ∃ qa qc ra rc m, e = .returned (.agg #[.int .i64 y0, .int .i64 y1, .bool y2, .int .i64 y3, .int .i64 y4, .int .i64 y5, .int .i64 s0, .int .i64 s1, .int .i64 s2, .slice qa fn qc, .int .i64 c0, .int .i64 c1, .slice ra sn rc, .int .i64 k0, .int .i64 k1, .int .i64 k2]) ∧ SubOw w' W.heap.size w'.heap.size fl sp s0 s1 s2 c0 c1 qa fn qc ra sn rc m ∧ Below W.heap.size W w')) :
    Calls Try.prog 31 #[.agg #[.int .i64 y0, .int .i64 y1, .bool y2, .int .i64 y3, .int .i64 y4, .int .i64 y5, .int .i64 s0, .int .i64 s1, .int .i64 s2, .slice ua fn uc, .int .i64 c0, .int .i64 c1, .slice va sn vc, .int .i64 k0, .int .i64 k1, .int .i64 k2]] w fun e w' => ∃ ra rc, e = .returned (.agg #[.int .i64 0, .int .i64 y0, .int .i64 4, .bool y2, .int .i64 y3, .int .i64 y4, .int .i64 y5, .int .i64 s0, .int .i64 s2, .int .i64 s2, .slice none 0 0, .int .i64 c0, .int .i64 c1, .slice ra sn rc, .int .i64 k0, .int .i64 k1, .int .i64 k2]) ∧ Own w' w.heap.size w'.heap.size shCatchO (c0, c1, sp, ()) [.int .i64 c0, .int .i64 c1, .slice ra sn rc] ∧ Below w.heap.size w w' := by
  subst hF
  go_enter Try.func31, Try.ntmps31
  go_wp2_with fail
  refine (HC.out _ w.heap.size (by go_grown) (fun o => by simp [go_sem])).mono ?_
  rintro e w1 ⟨rfl, hb⟩
  have j0 : ∀ o, w1.cell? ⟨w.heap.size, o, none⟩ = (#[.int .i64 y0, .int .i64 y1, .bool y2, .int .i64 y3, .int .i64 y4, .int .i64 y5, .int .i64 s0, .int .i64 s1, .int .i64 s2, .slice ua fn uc, .int .i64 c0, .int .i64 c1, .slice va sn vc, .int .i64 k0, .int .i64 k1, .int .i64 k2] : Array Value)[o]? := fun o => by rw [hb.cell (p := ⟨w.heap.size, o, none⟩) (by simp; omega)]; simp [go_sem]
  have j1 : ∀ o, w1.cell? ⟨w.heap.size + 1, o, none⟩ = (#[.int .i64 0, .int .i64 0, .int .i64 0, .bool false, .int .i64 0, .int .i64 0, .int .i64 0, .int .i64 0, .int .i64 0, .int .i64 0, .slice none 0 0, .int .i64 0, .int .i64 0, .slice none 0 0, .int .i64 0, .int .i64 0, .int .i64 0] : Array Value)[o]? := fun o => by rw [hb.cell (p := ⟨w.heap.size + 1, o, none⟩) (by simp)]; simp [go_sem]
  have f1 : ∀ o, w1.frozen? ⟨w.heap.size + 1, o, none⟩ = false := fun o => by rw [hb.frozen (p := ⟨w.heap.size + 1, o, none⟩) (by simp)]; simp [go_sem]
  have z1 : w.heap.size + 1 < w1.heap.size := by have := hb.size; simp at this; omega
  have HB : Hid (Below w.heap.size w w1) := Below.trans (by go_grown) (hb.mono (by simp; omega))
  clear hb HC
  go_wp2_with fail
  refine (H2.out _ HB.out).mono ?_
  rintro e w2 ⟨qa, qc, ra, rc, m, rfl, hsw, hb⟩
  replace j1 := bx_below j1 z1 hb
  replace f1 := bxF f1 hb z1
  have z2 : w1.heap.size ≤ w2.heap.size := hb.size
  have HS : Hid _ := hsw
  replace HB : Hid (Below w.heap.size w w2) := HB.out.trans (hb.mono HB.out.size)
  clear hb H2 hsw j0
  go_wp2_with fail
  obtain ⟨W3, hW3⟩ : ∃ W3, W3 = w2.alloc (.cells #[.int .i64 y0, .int .i64 y1, .bool y2, .int .i64 y3, .int .i64 y4, .int .i64 y5, .int .i64 s0, .int .i64 s1, .int .i64 s2, .slice qa fn qc, .int .i64 c0, .int .i64 c1, .slice ra sn rc, .int .i64 k0, .int .i64 k1, .int .i64 k2] 64) := ⟨_, rfl⟩
  rw [← hW3]
  have hb3 : Below w2.heap.size w2 W3 := by rw [hW3]; exact (Below.refl _ _).alloc (Nat.le_refl _) _
  have j2 : ∀ o, W3.cell? ⟨w2.heap.size, o, none⟩ = (#[.int .i64 y0, .int .i64 y1, .bool y2, .int .i64 y3, .int .i64 y4, .int .i64 y5, .int .i64 s0, .int .i64 s1, .int .i64 s2, .slice qa fn qc, .int .i64 c0, .int .i64 c1, .slice ra sn rc, .int .i64 k0, .int .i64 k1, .int .i64 k2] : Array Value)[o]? := fun o => by rw [hW3]; simp [go_sem]
  have f2 : ∀ o, W3.frozen? ⟨w2.heap.size, o, none⟩ = false := fun o => by rw [hW3]; simp [go_sem]
  have z3 : w2.heap.size < W3.heap.size := by rw [hW3]; simp
  replace j1 := bx_below j1 (by omega) hb3
  replace f1 := bxF f1 hb3 (by omega)
  replace HB : Hid (Below w.heap.size w W3) := HB.out.trans (hb3.mono HB.out.size)
  have HO : Hid (Own W3 m w2.heap.size shCatchO (c0, c1, sp, ()) [.int .i64 c0, .int .i64 c1, .slice ra sn rc]) := Own.below HS.out.c (Nat.le_refl _) hb3
  have hm1 : w1.heap.size ≤ m := HS.out.lm
  have hm2 : m ≤ w2.heap.size := HS.out.mh
  clear hW3 hb3 HS
  generalize hXB : w2.heap.size = XB at *
  clear hXB
  refine (sL8Close y0 y1 y2 y3 y4 y5 s0 s1 s2 c0 c1 k0 k1 k2 _ _ XB W3 j2 f2).mono ?_
  rintro e w4 ⟨rfl, hw4⟩
  replace j2 := bx_put (bx_put (bx_put j2 (k := 1) (v := .int .i64 4) (by simp)) (k := 9) (v := .slice none 0 0) (by simp)) (k := 7) (v := .int .i64 s2) (by simp)
  simp only [List.setIfInBounds_toArray, List.set_cons_zero, List.set_cons_succ] at j2
  replace j1 := bx_off (bx_off (bx_off j1 (b' := XB) (k := 1) (v := .int .i64 4) (by omega)) (b' := XB) (k := 9) (v := .slice none 0 0) (by omega)) (b' := XB) (k := 7) (v := .int .i64 s2) (by omega)
  have HO4 : Hid (Own w4 m XB shCatchO (c0, c1, sp, ()) [.int .i64 c0, .int .i64 c1, .slice ra sn rc]) := by
    rw [hw4]
    exact Own.keep HO.out (fun b h1 h2 => by repeat rw [Below.heap_setCell _ _ _ _ (by dsimp only; omega)])
  replace HB : Hid (Below w.heap.size w w4) := by
    rw [hw4]
    exact Below.setCell (Below.setCell (Below.setCell HB.out (by dsimp only; omega) _) (by dsimp only; omega) _) (by dsimp only; omega) _
  have z4 : w4.heap.size = W3.heap.size := by rw [hw4]; simp
  replace f1 : ∀ o, w4.frozen? ⟨w.heap.size + 1, o, none⟩ = false := fun o => by rw [hw4]; simpa using f1 o
  rw [← hw4] at j1 j2
  have z5 : XB < w4.heap.size := by omega
  have z6 : XB ≤ w4.heap.size := by omega
  clear hw4 HO f2 z3 z4
  have HJ := setsW_all (w := w4) [.int .i64 0, .int .i64 y0, .int .i64 4, .bool y2, .int .i64 y3, .int .i64 y4, .int .i64 y5, .int .i64 s0, .int .i64 s2, .int .i64 s2, .slice none 0 0, .int .i64 c0, .int .i64 c1, .slice ra sn rc, .int .i64 k0, .int .i64 k1, .int .i64 k2] j1 (by simp)
  have HX : Hid (Below w.heap.size w (setsW w4 (w.heap.size + 1) 0 [.int .i64 0, .int .i64 y0, .int .i64 4, .bool y2, .int .i64 y3, .int .i64 y4, .int .i64 y5, .int .i64 s0, .int .i64 s2, .int .i64 s2, .slice none 0 0, .int .i64 c0, .int .i64 c1, .slice ra sn rc, .int .i64 k0, .int .i64 k1, .int .i64 k2])) := setsW_below (Nat.le_succ _) _ _ _ _ HB.out
  have HY : Hid (Own (setsW w4 (w.heap.size + 1) 0 [.int .i64 0, .int .i64 y0, .int .i64 4, .bool y2, .int .i64 y3, .int .i64 y4, .int .i64 y5, .int .i64 s0, .int .i64 s2, .int .i64 s2, .slice none 0 0, .int .i64 c0, .int .i64 c1, .slice ra sn rc, .int .i64 k0, .int .i64 k1, .int .i64 k2]) m XB shCatchO (c0, c1, sp, ()) [.int .i64 c0, .int .i64 c1, .slice ra sn rc]) := Own.keep HO4.out (fun b h1 h2 => setsW_heap (by omega) _ _ _)
  have HZ : Hid (XB ≤ (setsW w4 (w.heap.size + 1) 0 [.int .i64 0, .int .i64 y0, .int .i64 4, .bool y2, .int .i64 y3, .int .i64 y4, .int .i64 y5, .int .i64 s0, .int .i64 s2, .int .i64 s2, .slice none 0 0, .int .i64 c0, .int .i64 c1, .slice ra sn rc, .int .i64 k0, .int .i64 k1, .int .i64 k2]).heap.size) := by rw [setsW_size]; exact z6
  have HE : Hid (setsW w4 (w.heap.size + 1) 0 [.int .i64 0, .int .i64 y0, .int .i64 4, .bool y2, .int .i64 y3, .int .i64 y4, .int .i64 y5, .int .i64 s0, .int .i64 s2, .int .i64 s2, .slice none 0 0, .int .i64 c0, .int .i64 c1, .slice ra sn rc, .int .i64 k0, .int .i64 k1, .int .i64 k2] = (((((((((((((((((w4.setCell ⟨w.heap.size + 1, 0, none⟩ (.int .i64 0)).setCell ⟨w.heap.size + 1, 1, none⟩ (.int .i64 y0)).setCell ⟨w.heap.size + 1, 2, none⟩ (.int .i64 4)).setCell ⟨w.heap.size + 1, 3, none⟩ (.bool y2)).setCell ⟨w.heap.size + 1, 4, none⟩ (.int .i64 y3)).setCell ⟨w.heap.size + 1, 5, none⟩ (.int .i64 y4)).setCell ⟨w.heap.size + 1, 6, none⟩ (.int .i64 y5)).setCell ⟨w.heap.size + 1, 7, none⟩ (.int .i64 s0)).setCell ⟨w.heap.size + 1, 8, none⟩ (.int .i64 s2)).setCell ⟨w.heap.size + 1, 9, none⟩ (.int .i64 s2)).setCell ⟨w.heap.size + 1, 10, none⟩ (.slice none 0 0)).setCell ⟨w.heap.size + 1, 11, none⟩ (.int .i64 c0)).setCell ⟨w.heap.size + 1, 12, none⟩ (.int .i64 c1)).setCell ⟨w.heap.size + 1, 13, none⟩ (.slice ra sn rc)).setCell ⟨w.heap.size + 1, 14, none⟩ (.int .i64 k0)).setCell ⟨w.heap.size + 1, 15, none⟩ (.int .i64 k1)).setCell ⟨w.heap.size + 1, 16, none⟩ (.int .i64 k2))) := by show _ = _; simp only [setsW, Nat.reduceAdd]
  have HJJ : Hid _ := HJ
  clear HJ HO4 HB
  go_wp2_with fail
  rw [← HE.out]
  have j9 := HJJ.out
  clear HE HJJ j1 j2 f1
  generalize setsW w4 (w.heap.size + 1) 0 [.int .i64 0, .int .i64 y0, .int .i64 4, .bool y2, .int .i64 y3, .int .i64 y4, .int .i64 y5, .int .i64 s0, .int .i64 s2, .int .i64 s2, .slice none 0 0, .int .i64 c0, .int .i64 c1, .slice ra sn rc, .int .i64 k0, .int .i64 k1, .int .i64 k2] = X at *
  exact bodyPost_ret (sCloseRes (by rfl) j9) rfl ⟨ra, rc, rfl, Own.mono HY.out (by omega) HZ.out, HX.out⟩
theorem sCloseSub (x : DSub) (u v : Value) (w : World) (B : Nat) (hr : shSub.Rd w B x [.int .i64 x.1, .int .i64 x.2.1, .bool x.2.2.1, .int .i64 x.2.2.2.1, .int .i64 x.2.2.2.2.1, .int .i64 x.2.2.2.2.2.1, .int .i64 x.2.2.2.2.2.2.1.1, .int .i64 x.2.2.2.2.2.2.1.2.1, .int .i64 x.2.2.2.2.2.2.1.2.2.1, u, .int .i64 x.2.2.2.2.2.2.2.1.1, .int .i64 x.2.2.2.2.2.2.2.1.2.1, v, .int .i64 x.2.2.2.2.2.2.2.2.1.1, .int .i64 x.2.2.2.2.2.2.2.2.1.2.1, .int .i64 x.2.2.2.2.2.2.2.2.1.2.2.1]) (hB : B ≤ w.heap.size) (hT : totSub x ≤ 1048576) :
    Calls Try.prog 31 #[.agg #[.int .i64 x.1, .int .i64 x.2.1, .bool x.2.2.1, .int .i64 x.2.2.2.1, .int .i64 x.2.2.2.2.1, .int .i64 x.2.2.2.2.2.1, .int .i64 x.2.2.2.2.2.2.1.1, .int .i64 x.2.2.2.2.2.2.1.2.1, .int .i64 x.2.2.2.2.2.2.1.2.2.1, u, .int .i64 x.2.2.2.2.2.2.2.1.1, .int .i64 x.2.2.2.2.2.2.2.1.2.1, v, .int .i64 x.2.2.2.2.2.2.2.2.1.1, .int .i64 x.2.2.2.2.2.2.2.2.1.2.1, .int .i64 x.2.2.2.2.2.2.2.2.1.2.2.1]] w fun e w' => ∃ u2 v2, e = .returned (.agg #[.int .i64 (subF x), .int .i64 (clsV x).1, .int .i64 (clsV x).2.1, .bool (clsV x).2.2.1, .int .i64 (clsV x).2.2.2.1, .int .i64 (clsV x).2.2.2.2.1, .int .i64 (clsV x).2.2.2.2.2.1, .int .i64 (clsV x).2.2.2.2.2.2.1.1, .int .i64 (clsV x).2.2.2.2.2.2.1.2.1, .int .i64 (clsV x).2.2.2.2.2.2.1.2.2.1, u2, .int .i64 (clsV x).2.2.2.2.2.2.2.1.1, .int .i64 (clsV x).2.2.2.2.2.2.2.1.2.1, v2, .int .i64 (clsV x).2.2.2.2.2.2.2.2.1.1, .int .i64 (clsV x).2.2.2.2.2.2.2.2.1.2.1, .int .i64 (clsV x).2.2.2.2.2.2.2.2.1.2.2.1]) ∧ Own w' w.heap.size w'.heap.size shSubO (clsV x) [.int .i64 (clsV x).1, .int .i64 (clsV x).2.1, .bool (clsV x).2.2.1, .int .i64 (clsV x).2.2.2.1, .int .i64 (clsV x).2.2.2.2.1, .int .i64 (clsV x).2.2.2.2.2.1, .int .i64 (clsV x).2.2.2.2.2.2.1.1, .int .i64 (clsV x).2.2.2.2.2.2.1.2.1, .int .i64 (clsV x).2.2.2.2.2.2.1.2.2.1, u2, .int .i64 (clsV x).2.2.2.2.2.2.2.1.1, .int .i64 (clsV x).2.2.2.2.2.2.2.1.2.1, v2, .int .i64 (clsV x).2.2.2.2.2.2.2.2.1.1, .int .i64 (clsV x).2.2.2.2.2.2.2.2.1.2.1, .int .i64 (clsV x).2.2.2.2.2.2.2.2.1.2.2.1] ∧ Below w.heap.size w w' := by
  obtain ⟨y0, y1, y2, y3, y4, y5, ⟨s0, s1, s2, fl, ⟨⟩⟩, ⟨c0, c1, sp, ⟨⟩⟩, ⟨k0, k1, k2, ⟨⟩⟩, ⟨⟩⟩ := x
  simp only at *
  obtain ⟨ua, uc, va, vc, rfl, rfl, rs0, rc0, hwf⟩ := rd_SubF hr
  obtain ⟨fn, hfn⟩ : ∃ n, fl.length = n := ⟨_, rfl⟩
  obtain ⟨sn, hsn⟩ : ∃ n, sp.length = n := ⟨_, rfl⟩
  rw [hfn] at rs0 hr ⊢
  rw [hsn] at rc0 hr ⊢
  obtain ⟨q1, e1, rs, -⟩ := rd_Sender rs0
  obtain ⟨q2, e2, rc, -⟩ := rd_Catch rc0
  simp only [List.cons.injEq, and_true, true_and] at e1 e2
  subst e1 e2
  have HC : Hid (∀ W sb, Below w.heap.size w W → (∀ o, W.cell? ⟨sb, o, none⟩ = (#[.int .i64 y0, .int .i64 y1, .bool y2, .int .i64 y3, .int .i64 y4, .int .i64 y5, .int .i64 s0, .int .i64 s1, .int .i64 s2, .slice ua fn uc, .int .i64 c0, .int .i64 c1, .slice va sn vc, .int .i64 k0, .int .i64 k1, .int .i64 k2] : Array Value)[o]?) → Calls Try.prog 81 #[.pointer (some ⟨sb, 0, none⟩)] W fun e w' => e = .returned (.int .i64 (subF (y0, y1, y2, y3, y4, y5, (s0, s1, s2, fl, ()), (c0, c1, sp, ()), (k0, k1, k2, ()), ()))) ∧ Below W.heap.size W w') :=
    fun W sb hW hc => sL8Fault y0 y1 y2 y3 y4 y5 s0 s1 s2 fl c0 c1 sp k0 k1 k2 ua fn uc va sn vc sb 0 W B hfn hsn (fun j _ => by rw [Nat.zero_add]; exact hc j) (Sh.Rd.below (s := shFlights) rs hB hW) (Sh.Rd.below (s := shSpans) rc hB hW) (Nat.le_trans hB hW.size) hT
  by_cases hF : subF (y0, y1, y2, y3, y4, y5, (s0, s1, s2, fl, ()), (c0, c1, sp, ()), (k0, k1, k2, ()), ()) = 0
  · rw [clsV_o hF]
    refine (sCloseOk y0 y1 y2 y3 y4 y5 s0 s1 s2 c0 c1 k0 k1 k2 fl sp ua fn uc va sn vc w _ hF HC (fun W hW => sL8Copy y0 y1 y2 y3 y4 y5 s0 s1 s2 c0 c1 k0 k1 k2 fl sp ua fn uc va sn vc W B ((SubIn.of rs0 rc0 hfn hsn hB (sub_ok hF).2.1 (sub_ok hF).2.2.1).below hW))).mono ?_
    rintro e w' ⟨ra, rc, rfl, hc, hb⟩
    obtain ⟨q1, e1, -, g0, g1, g2⟩ := rd_Sender rs0
    obtain ⟨⟨a0, a1, a3, a4, a5⟩, d0, d1, d2⟩ := hwf
    have a : Own w' w.heap.size w.heap.size shSender (s0, s2, s2, [], ()) [.int .i64 s0, .int .i64 s2, .int .i64 s2, .slice none 0 0] := own_snd0 w' _ _ (Nat.le_refl _) g0 g2 g2
    have b := own_SubO (y0 := y0) (y1 := 4) (y2 := y2) (y3 := y3) (y4 := y4) (y5 := y5) (k0 := k0) (k1 := k1) (k2 := k2) a hc (Nat.le_refl _) hb.size ⟨⟨a0, (by show (Lit.int .i64 (4 : Int)).wf = true; decide), a3, a4, a5⟩, d0, d1, d2⟩
    rw [hF]
    exact ⟨_, _, rfl, b, hb⟩
  · rw [clsV_f hF]
    refine (sCloseNo y0 y1 y2 y3 y4 y5 s0 s1 s2 c0 c1 k0 k1 k2 fl sp ua fn uc va sn vc w _ hF HC).mono ?_
    rintro e w' ⟨rfl, hb⟩
    exact ⟨_, _, rfl, zSub_own _ _ _ hb.size, hb⟩
end Go.Proofs.Ytebgibjokljlbaa
