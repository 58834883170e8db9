/- What program and model make of a sub that is closed: the answer owns its memory; nothing that was in memory turns; no condition but that there are at most a million parts. Written by mkclose.py. -/
import Derived.Test.YtebgibjokljlbaaRows
import Derived.Deep.RegionHeld3
import Derived.Test.YtebgibjokljlbaaS01
import Derived.Test.YtebgibjokljlbaaS03
import Derived.Test.YtebgibjokljlbaaS04
import Derived.Test.YtebgibjokljlbaaS05
import Derived.Test.YtebgibjokljlbaaS11
import Derived.Test.YtebgibjokljlbaaS13
import Derived.Test.YtebgibjokljlbaaS18
import Derived.Test.YtebgibjokljlbaaS21
import Derived.Test.YtebgibjokljlbaaS23
import Derived.Test.YtebgibjokljlbaaS24
import Derived.Test.YtebgibjokljlbaaS25
import Derived.Test.YtebgibjokljlbaaS26
namespace Go.Proofs.Ytebgibjokljlbaa
open Go.RowKit
set_option linter.unusedVariables false
set_option maxRecDepth 8000
set_option maxHeartbeats 1000000 in
theorem iClosePath (y0 y1 : Int) (y2 : Bool) (y3 y4 y5 s0 s1 s2 c0 c1 k0 k1 k2 : Int) (u v : Value) (sb : Nat) (w : World) (hc : ∀ o, w.cell? ⟨sb, o, none⟩ = (#[.int .i64 y0, .int .i64 y1, .bool y2, .int .i64 y3, .int .i64 y4, .int .i64 y5, .int .i64 s0, .int .i64 s1, .int .i64 s2, u, .int .i64 c0, .int .i64 c1, v, .int .i64 k0, .int .i64 k1, .int .i64 k2] : Array Value)[o]?) (hf : ∀ o, w.frozen? ⟨sb, o, none⟩ = false) :
    Calls Try.prog 80 #[.pointer (some ⟨sb, 0, none⟩)] w fun e w' => e = .returned (.tuple #[]) ∧ w' = ((w.setCell ⟨sb, 1, none⟩ (.int .i64 4)).setCell ⟨sb, 9, none⟩ (.slice none 0 0)).setCell ⟨sb, 7, none⟩ (.int .i64 s2) := by
  have x1 : w.cell? ⟨sb, 1, none⟩ = some (.int .i64 y1) := hc 1
  have x7 : w.cell? ⟨sb, 7, none⟩ = some (.int .i64 s1) := hc 7
  have x8 : w.cell? ⟨sb, 8, none⟩ = some (.int .i64 s2) := hc 8
  have x9 : w.cell? ⟨sb, 9, none⟩ = some u := hc 9
  clear hc
  go_enter Try.func80, Try.ntmps80
  go_wp2_with fail
  exact ⟨rfl, .tuple #[], by simp [results, Try.results80], rfl, rfl⟩
theorem iCloseRes {tmps : Array Value} {w : World} {b : Nat} {q y0 y1 : Int} {y2 : Bool} {y3 y4 y5 s0 s1 s2 c0 c1 k0 k1 k2 : Int} {ua : Option Addr} {fn uc : Nat} {va : Option Addr} {sn vc : Nat} (ht : tmps[2]? = some (.pointer (some ⟨b, 0, none⟩))) (hj : ∀ o, w.cell? ⟨b, o, none⟩ = (#[.int .i64 q, .int .i64 y0, .int .i64 y1, .bool y2, .int .i64 y3, .int .i64 y4, .int .i64 y5, .int .i64 s0, .int .i64 s1, .int .i64 s2, .slice ua fn uc, .int .i64 c0, .int .i64 c1, .slice va sn vc, .int .i64 k0, .int .i64 k1, .int .i64 k2] : Array Value)[o]?) :
    (results Try.f30 tmps).run Try.prog w = .ok (.agg #[.int .i64 q, .int .i64 y0, .int .i64 y1, .bool y2, .int .i64 y3, .int .i64 y4, .int .i64 y5, .int .i64 s0, .int .i64 s1, .int .i64 s2, .slice ua fn uc, .int .i64 c0, .int .i64 c1, .slice va sn vc, .int .i64 k0, .int .i64 k1, .int .i64 k2]) w := by
  simp [results, Try.results30, ht, go_sem, hj]
set_option maxHeartbeats 2000000 in
theorem iCloseNo (y0 y1 : Int) (y2 : Bool) (y3 y4 y5 s0 s1 s2 c0 c1 k0 k1 k2 : Int) (fl : List DFlight) (sp : List DSpan) (ua : Option Addr) (fn uc : Nat) (va : Option Addr) (sn vc : Nat) (w : World) (F : Int) (hF : ¬ F = 0) (HC : Hid (∀ W, Below w.heap.size w W → Calls Try.prog 33 #[.agg #[.int .i64 y0, .int .i64 y1, .bool y2, .int .i64 y3, .int .i64 y4, .int .i64 y5, .int .i64 s0, .int .i64 s1, .int .i64 s2, .slice ua fn uc, .int .i64 c0, .int .i64 c1, .slice va sn vc, .int .i64 k0, .int .i64 k1, .int .i64 k2]] W fun e w' => e = .returned (.int .i64 F) ∧ Below W.heap.size W w')) :
    Calls Try.prog 30 #[.agg #[.int .i64 y0, .int .i64 y1, .bool y2, .int .i64 y3, .int .i64 y4, .int .i64 y5, .int .i64 s0, .int .i64 s1, .int .i64 s2, .slice ua fn uc, .int .i64 c0, .int .i64 c1, .slice va sn vc, .int .i64 k0, .int .i64 k1, .int .i64 k2]] w fun e w' => e = .returned (.agg #[.int .i64 F, .int .i64 0, .int .i64 0, .bool false, .int .i64 0, .int .i64 0, .int .i64 0, .int .i64 0, .int .i64 0, .int .i64 0, .slice none 0 0, .int .i64 0, .int .i64 0, .slice none 0 0, .int .i64 0, .int .i64 0, .int .i64 0]) ∧ Below w.heap.size w w' := by
  have hF' : (F != 0) = true := by simp [hF]
  clear hF
  go_enter Try.func30, Try.ntmps30
  go_wp2_with fail
  refine (HC.out _ (by go_grown)).mono ?_
  rintro e w1 ⟨rfl, hb⟩
  have j1 : ∀ o, w1.cell? ⟨w.heap.size + 1, o, none⟩ = (#[.int .i64 0, .int .i64 0, .int .i64 0, .bool false, .int .i64 0, .int .i64 0, .int .i64 0, .int .i64 0, .int .i64 0, .int .i64 0, .slice none 0 0, .int .i64 0, .int .i64 0, .slice none 0 0, .int .i64 0, .int .i64 0, .int .i64 0] : Array Value)[o]? := fun o => by rw [hb.cell (p := ⟨w.heap.size + 1, o, none⟩) (by simp)]; simp [go_sem]
  have f1 : ∀ o, w1.frozen? ⟨w.heap.size + 1, o, none⟩ = false := fun o => by rw [hb.frozen (p := ⟨w.heap.size + 1, o, none⟩) (by simp)]; simp [go_sem]
  have z1 : w.heap.size + 1 < w1.heap.size := by have := hb.size; simp at this; omega
  have HB : Hid (Below w.heap.size w w1) := Below.trans (by go_grown) (hb.mono (by simp; omega))
  clear hb HC
  have HJ := setsW_all (w := w1) [.int .i64 F, .int .i64 0, .int .i64 0, .bool false, .int .i64 0, .int .i64 0, .int .i64 0, .int .i64 0, .int .i64 0, .int .i64 0, .slice none 0 0, .int .i64 0, .int .i64 0, .slice none 0 0, .int .i64 0, .int .i64 0, .int .i64 0] j1 (by simp)
  have HX : Hid (Below w.heap.size w (setsW w1 (w.heap.size + 1) 0 [.int .i64 F, .int .i64 0, .int .i64 0, .bool false, .int .i64 0, .int .i64 0, .int .i64 0, .int .i64 0, .int .i64 0, .int .i64 0, .slice none 0 0, .int .i64 0, .int .i64 0, .slice none 0 0, .int .i64 0, .int .i64 0, .int .i64 0])) := setsW_below (Nat.le_succ _) _ _ _ _ HB.out
  have HE : Hid (setsW w1 (w.heap.size + 1) 0 [.int .i64 F, .int .i64 0, .int .i64 0, .bool false, .int .i64 0, .int .i64 0, .int .i64 0, .int .i64 0, .int .i64 0, .int .i64 0, .slice none 0 0, .int .i64 0, .int .i64 0, .slice none 0 0, .int .i64 0, .int .i64 0, .int .i64 0] = (((((((((((((((((w1.setCell ⟨w.heap.size + 1, 0, none⟩ (.int .i64 F)).setCell ⟨w.heap.size + 1, 1, none⟩ (.int .i64 0)).setCell ⟨w.heap.size + 1, 2, none⟩ (.int .i64 0)).setCell ⟨w.heap.size + 1, 3, none⟩ (.bool false)).setCell ⟨w.heap.size + 1, 4, none⟩ (.int .i64 0)).setCell ⟨w.heap.size + 1, 5, none⟩ (.int .i64 0)).setCell ⟨w.heap.size + 1, 6, none⟩ (.int .i64 0)).setCell ⟨w.heap.size + 1, 7, none⟩ (.int .i64 0)).setCell ⟨w.heap.size + 1, 8, none⟩ (.int .i64 0)).setCell ⟨w.heap.size + 1, 9, none⟩ (.int .i64 0)).setCell ⟨w.heap.size + 1, 10, none⟩ (.slice none 0 0)).setCell ⟨w.heap.size + 1, 11, none⟩ (.int .i64 0)).setCell ⟨w.heap.size + 1, 12, none⟩ (.int .i64 0)).setCell ⟨w.heap.size + 1, 13, none⟩ (.slice none 0 0)).setCell ⟨w.heap.size + 1, 14, none⟩ (.int .i64 0)).setCell ⟨w.heap.size + 1, 15, none⟩ (.int .i64 0)).setCell ⟨w.heap.size + 1, 16, none⟩ (.int .i64 0))) := by show _ = _; simp only [setsW, Nat.reduceAdd]
  have HJJ : Hid _ := HJ
  clear HJ HB
  go_wp2_with fail
  rw [← HE.out]
  have j9 := HJJ.out
  clear HE HJJ j1 f1
  generalize setsW w1 (w.heap.size + 1) 0 [.int .i64 F, .int .i64 0, .int .i64 0, .bool false, .int .i64 0, .int .i64 0, .int .i64 0, .int .i64 0, .int .i64 0, .int .i64 0, .slice none 0 0, .int .i64 0, .int .i64 0, .slice none 0 0, .int .i64 0, .int .i64 0, .int .i64 0] = X at *
  exact bodyPost_ret (iCloseRes (by rfl) j9) rfl ⟨rfl, HX.out⟩
set_option maxHeartbeats 20000000 in
theorem iCloseOk (y0 y1 : Int) (y2 : Bool) (y3 y4 y5 s0 s1 s2 c0 c1 k0 k1 k2 : Int) (fl : List DFlight) (sp : List DSpan) (ua : Option Addr) (fn uc : Nat) (va : Option Addr) (sn vc : Nat) (w : World) (F : Int) (hF : F = 0) (HC : Hid (∀ W, Below w.heap.size w W → Calls Try.prog 33 #[.agg #[.int .i64 y0, .int .i64 y1, .bool y2, .int .i64 y3, .int .i64 y4, .int .i64 y5, .int .i64 s0, .int .i64 s1, .int .i64 s2, .slice ua fn uc, .int .i64 c0, .int .i64 c1, .slice va sn vc, .int .i64 k0, .int .i64 k1, .int .i64 k2]] W fun e w' => e = .returned (.int .i64 F) ∧ Below W.heap.size W w'))
    (H2 : Hid (∀ W, Below w.heap.size w W → Calls Try.prog 78 #[.agg #[.int .i64 y0, .int .i64 y1, .bool y2, .int .i64 y3, .int .i64 y4, .int .i64 y5, .int .i64 s0, .int .i64 s1, .int .i64 s2, .slice ua fn uc, .int .i64 c0, .int .i64 c1, .slice va sn vc, .int .i64 k0, .int .i64 k1, .int .i64 k2]] W fun e w' => ∃ qa qc ra rc m, e = .returned (.pointer (some ⟨W.heap.size, 0, none⟩)) ∧ (∀ o, w'.cell? ⟨W.heap.size, o, none⟩ = (#[.int .i64 y0, .int .i64 y1, .bool y2, .int .i64 y3, .int .i64 y4, .int .i64 y5, .int .i64 s0, .int .i64 s1, .int .i64 s2, .slice qa fn qc, .int .i64 c0, .int .i64 c1, .slice ra sn rc, .int .i64 k0, .int .i64 k1, .int .i64 k2] : Array Value)[o]?) ∧ (∀ o, w'.frozen? ⟨W.heap.size, o, none⟩ = false) ∧ SubOw w' (W.heap.size + 1) w'.heap.size fl sp s0 s1 s2 c0 c1 qa fn qc ra sn rc m ∧ W.heap.size < w'.heap.size ∧ Below W.heap.size W w')) :
    Calls Try.prog 30 #[.agg #[.int .i64 y0, .int .i64 y1, .bool y2, .int .i64 y3, .int .i64 y4, .int .i64 y5, .int .i64 s0, .int .i64 s1, .int .i64 s2, .slice ua fn uc, .int .i64 c0, .int .i64 c1, .slice va sn vc, .int .i64 k0, .int .i64 k1, .int .i64 k2]] w fun e w' => ∃ ra rc, e = .returned (.agg #[.int .i64 0, .int .i64 y0, .int .i64 4, .bool y2, .int .i64 y3, .int .i64 y4, .int .i64 y5, .int .i64 s0, .int .i64 s2, .int .i64 s2, .slice none 0 0, .int .i64 c0, .int .i64 c1, .slice ra sn rc, .int .i64 k0, .int .i64 k1, .int .i64 k2]) ∧ Own w' w.heap.size w'.heap.size shCatchO (c0, c1, sp, ()) [.int .i64 c0, .int .i64 c1, .slice ra sn rc] ∧ Below w.heap.size w w' := by
  subst hF
  go_enter Try.func30, Try.ntmps30
  go_wp2_with fail
  refine (HC.out _ (by go_grown)).mono ?_
  rintro e w1 ⟨rfl, hb⟩
  have j0 : ∀ o, w1.cell? ⟨w.heap.size, o, none⟩ = (#[.int .i64 y0, .int .i64 y1, .bool y2, .int .i64 y3, .int .i64 y4, .int .i64 y5, .int .i64 s0, .int .i64 s1, .int .i64 s2, .slice ua fn uc, .int .i64 c0, .int .i64 c1, .slice va sn vc, .int .i64 k0, .int .i64 k1, .int .i64 k2] : Array Value)[o]? := fun o => by rw [hb.cell (p := ⟨w.heap.size, o, none⟩) (by simp; omega)]; simp [go_sem]
  have j1 : ∀ o, w1.cell? ⟨w.heap.size + 1, o, none⟩ = (#[.int .i64 0, .int .i64 0, .int .i64 0, .bool false, .int .i64 0, .int .i64 0, .int .i64 0, .int .i64 0, .int .i64 0, .int .i64 0, .slice none 0 0, .int .i64 0, .int .i64 0, .slice none 0 0, .int .i64 0, .int .i64 0, .int .i64 0] : Array Value)[o]? := fun o => by rw [hb.cell (p := ⟨w.heap.size + 1, o, none⟩) (by simp)]; simp [go_sem]
  have f1 : ∀ o, w1.frozen? ⟨w.heap.size + 1, o, none⟩ = false := fun o => by rw [hb.frozen (p := ⟨w.heap.size + 1, o, none⟩) (by simp)]; simp [go_sem]
  have z1 : w.heap.size + 1 < w1.heap.size := by have := hb.size; simp at this; omega
  have HB : Hid (Below w.heap.size w w1) := Below.trans (by go_grown) (hb.mono (by simp; omega))
  clear hb HC
  go_wp2_with fail
  refine (H2.out _ HB.out).mono ?_
  rintro e W3 ⟨qa, qc, ra, rc, m, rfl, j2, f2, hsw, z3, hb⟩
  replace j1 := bx_below j1 z1 hb
  replace f1 := bxF f1 hb z1
  have HO : Hid (Own W3 m W3.heap.size shCatchO (c0, c1, sp, ()) [.int .i64 c0, .int .i64 c1, .slice ra sn rc]) := hsw.c
  have hm1 : w1.heap.size + 1 ≤ m := hsw.lm
  have hm2 : m ≤ W3.heap.size := hsw.mh
  replace HB : Hid (Below w.heap.size w W3) := HB.out.trans (hb.mono HB.out.size)
  clear hb H2 hsw j0
  generalize hXB : w1.heap.size = XB at *
  clear hXB
  go_wp2_with fail
  refine (iClosePath y0 y1 y2 y3 y4 y5 s0 s1 s2 c0 c1 k0 k1 k2 _ _ XB W3 j2 f2).mono ?_
  rintro e w4 ⟨rfl, hw4⟩
  replace j2 := bx_put (bx_put (bx_put j2 (k := 1) (v := .int .i64 4) (by simp)) (k := 9) (v := .slice none 0 0) (by simp)) (k := 7) (v := .int .i64 s2) (by simp)
  simp only [List.setIfInBounds_toArray, List.set_cons_zero, List.set_cons_succ] at j2
  replace j1 := bx_off (bx_off (bx_off j1 (b' := XB) (k := 1) (v := .int .i64 4) (by omega)) (b' := XB) (k := 9) (v := .slice none 0 0) (by omega)) (b' := XB) (k := 7) (v := .int .i64 s2) (by omega)
  have HO4 : Hid (Own w4 m W3.heap.size shCatchO (c0, c1, sp, ()) [.int .i64 c0, .int .i64 c1, .slice ra sn rc]) := by
    rw [hw4]
    exact Own.keep HO.out (fun b h1 h2 => by repeat rw [Below.heap_setCell _ _ _ _ (by dsimp only; omega)])
  replace HB : Hid (Below w.heap.size w w4) := by
    rw [hw4]
    exact Below.setCell (Below.setCell (Below.setCell HB.out (by dsimp only; omega) _) (by dsimp only; omega) _) (by dsimp only; omega) _
  have z4 : w4.heap.size = W3.heap.size := by rw [hw4]; simp
  replace f1 : ∀ o, w4.frozen? ⟨w.heap.size + 1, o, none⟩ = false := fun o => by rw [hw4]; simpa using f1 o
  rw [← hw4] at j1 j2
  have z5 : XB < w4.heap.size := by omega
  have z6 : W3.heap.size ≤ w4.heap.size := by omega
  clear hw4 HO f2 z3 z4
  have HRG : Hid (w4.rangeAt XB 0 [.int .i64 y0, .int .i64 4, .bool y2, .int .i64 y3, .int .i64 y4, .int .i64 y5, .int .i64 s0, .int .i64 s2, .int .i64 s2, .slice none 0 0, .int .i64 c0, .int .i64 c1, .slice ra sn rc, .int .i64 k0, .int .i64 k1, .int .i64 k2]) := bx_range (A := #[.int .i64 y0, .int .i64 4, .bool y2, .int .i64 y3, .int .i64 y4, .int .i64 y5, .int .i64 s0, .int .i64 s2, .int .i64 s2, .slice none 0 0, .int .i64 c0, .int .i64 c1, .slice ra sn rc, .int .i64 k0, .int .i64 k1, .int .i64 k2]) j2
  have HI16 : Hid ((Try.prog.info? 64).map (·.size) = some ([.int .i64 y0, .int .i64 4, .bool y2, .int .i64 y3, .int .i64 y4, .int .i64 y5, .int .i64 s0, .int .i64 s2, .int .i64 s2, .slice none 0 0, .int .i64 c0, .int .i64 c1, .slice ra sn rc, .int .i64 k0, .int .i64 k1, .int .i64 k2] : List Value).length) := (by kernel_rfl : (Try.prog.info? 64).map (·.size) = some 16)
  obtain ⟨N, hN⟩ : ∃ N : Array Value, N = #[.int .i64 0, .int .i64 y0, .int .i64 4, .bool y2, .int .i64 y3, .int .i64 y4, .int .i64 y5, .int .i64 s0, .int .i64 s2, .int .i64 s2, .slice none 0 0, .int .i64 c0, .int .i64 c1, .slice ra sn rc, .int .i64 k0, .int .i64 k1, .int .i64 k2] := ⟨_, rfl⟩
  have HN : Hid _ := hN
  have hz : N.size = 17 := by rw [hN]; rfl
  have HTH : Hid (w4.there (w.heap.size + 1) 0 N.size) := bx_there j1 f1 (by rw [hz]; rfl)
  have HI17 : Hid ((Try.prog.info? 69).map (·.size) = some N.size) := by show _ = _; rw [hz]; exact (by kernel_rfl : (Try.prog.info? 69).map (·.size) = some 17)
  have HONE : Hid (N.all (·.oneCell') = true) := by show _ = _; rw [hN]; simp [Value.oneCell']
  have HJ : Hid (∀ o, (w4.setCells (w.heap.size + 1) 0 N.toList).cell? ⟨w.heap.size + 1, o, none⟩ = N[o]?) := bx_setCells j1 (by rw [hz]; rfl)
  have HX : Hid (Below w.heap.size w (w4.setCells (w.heap.size + 1) 0 N.toList)) := setCells_below (Nat.le_succ _) _ _ _ _ HB.out
  have HY : Hid (Own (w4.setCells (w.heap.size + 1) 0 N.toList) m W3.heap.size shCatchO (c0, c1, sp, ()) [.int .i64 c0, .int .i64 c1, .slice ra sn rc]) := Own.keep HO4.out (fun b h1 h2 => setCells_block (by omega) _ _ _)
  have HZ : Hid (W3.heap.size ≤ (w4.setCells (w.heap.size + 1) 0 N.toList).heap.size) := by show _ ≤ _; rw [setCells_size]; exact z6
  have HM : Hid (w.heap.size ≤ m) := by show _ ≤ _; omega
  clear HO4 HB j1 j2 f1 hN hz
  go_wp2_with (first | (refine wpList_load_mid rfl 64 _ rfl _ _ (by rfl) [.int .i64 y0, .int .i64 4, .bool y2, .int .i64 y3, .int .i64 y4, .int .i64 y5, .int .i64 s0, .int .i64 s2, .int .i64 s2, .slice none 0 0, .int .i64 c0, .int .i64 c1, .slice ra sn rc, .int .i64 k0, .int .i64 k1, .int .i64 k2] _ HRG.out Try.underlying64 rfl HI16.out ?_) | (refine wpList_store_mid rfl 69 _ _ rfl _ _ N (by rfl) (by rw [HN.out]; rfl) HTH.out HI17.out HONE.out ?_))
  have hN := HN.out
  refine bodyPost_ret (results_box Try.results30 _ _ _ N _ (by rfl) HJ.out Try.underlying69 rfl HI17.out) rfl ⟨ra, rc, by rw [hN], Own.mono HY.out HM.out HZ.out, HX.out⟩
theorem iCloseSub (x : DSub) (u v : Value) (w : World) (B : Nat) (hr : shSub.Rd w B x [.int .i64 x.1, .int .i64 x.2.1, .bool x.2.2.1, .int .i64 x.2.2.2.1, .int .i64 x.2.2.2.2.1, .int .i64 x.2.2.2.2.2.1, .int .i64 x.2.2.2.2.2.2.1.1, .int .i64 x.2.2.2.2.2.2.1.2.1, .int .i64 x.2.2.2.2.2.2.1.2.2.1, u, .int .i64 x.2.2.2.2.2.2.2.1.1, .int .i64 x.2.2.2.2.2.2.2.1.2.1, v, .int .i64 x.2.2.2.2.2.2.2.2.1.1, .int .i64 x.2.2.2.2.2.2.2.2.1.2.1, .int .i64 x.2.2.2.2.2.2.2.2.1.2.2.1]) (hB : B ≤ w.heap.size) (hT : totSub x ≤ 1048576) :
    Calls Try.prog 30 #[.agg #[.int .i64 x.1, .int .i64 x.2.1, .bool x.2.2.1, .int .i64 x.2.2.2.1, .int .i64 x.2.2.2.2.1, .int .i64 x.2.2.2.2.2.1, .int .i64 x.2.2.2.2.2.2.1.1, .int .i64 x.2.2.2.2.2.2.1.2.1, .int .i64 x.2.2.2.2.2.2.1.2.2.1, u, .int .i64 x.2.2.2.2.2.2.2.1.1, .int .i64 x.2.2.2.2.2.2.2.1.2.1, v, .int .i64 x.2.2.2.2.2.2.2.2.1.1, .int .i64 x.2.2.2.2.2.2.2.2.1.2.1, .int .i64 x.2.2.2.2.2.2.2.2.1.2.2.1]] w fun e w' => ∃ u2 v2, e = .returned (.agg #[.int .i64 (subF x), .int .i64 (clsV x).1, .int .i64 (clsV x).2.1, .bool (clsV x).2.2.1, .int .i64 (clsV x).2.2.2.1, .int .i64 (clsV x).2.2.2.2.1, .int .i64 (clsV x).2.2.2.2.2.1, .int .i64 (clsV x).2.2.2.2.2.2.1.1, .int .i64 (clsV x).2.2.2.2.2.2.1.2.1, .int .i64 (clsV x).2.2.2.2.2.2.1.2.2.1, u2, .int .i64 (clsV x).2.2.2.2.2.2.2.1.1, .int .i64 (clsV x).2.2.2.2.2.2.2.1.2.1, v2, .int .i64 (clsV x).2.2.2.2.2.2.2.2.1.1, .int .i64 (clsV x).2.2.2.2.2.2.2.2.1.2.1, .int .i64 (clsV x).2.2.2.2.2.2.2.2.1.2.2.1]) ∧ Own w' w.heap.size w'.heap.size shSubO (clsV x) [.int .i64 (clsV x).1, .int .i64 (clsV x).2.1, .bool (clsV x).2.2.1, .int .i64 (clsV x).2.2.2.1, .int .i64 (clsV x).2.2.2.2.1, .int .i64 (clsV x).2.2.2.2.2.1, .int .i64 (clsV x).2.2.2.2.2.2.1.1, .int .i64 (clsV x).2.2.2.2.2.2.1.2.1, .int .i64 (clsV x).2.2.2.2.2.2.1.2.2.1, u2, .int .i64 (clsV x).2.2.2.2.2.2.2.1.1, .int .i64 (clsV x).2.2.2.2.2.2.2.1.2.1, v2, .int .i64 (clsV x).2.2.2.2.2.2.2.2.1.1, .int .i64 (clsV x).2.2.2.2.2.2.2.2.1.2.1, .int .i64 (clsV x).2.2.2.2.2.2.2.2.1.2.2.1] ∧ Below w.heap.size w w' := by
  obtain ⟨y0, y1, y2, y3, y4, y5, ⟨s0, s1, s2, fl, ⟨⟩⟩, ⟨c0, c1, sp, ⟨⟩⟩, ⟨k0, k1, k2, ⟨⟩⟩, ⟨⟩⟩ := x
  simp only at *
  obtain ⟨ua, uc, va, vc, rfl, rfl, rs0, rc0, hwf⟩ := rd_SubF hr
  obtain ⟨fn, hfn⟩ : ∃ n, fl.length = n := ⟨_, rfl⟩
  obtain ⟨sn, hsn⟩ : ∃ n, sp.length = n := ⟨_, rfl⟩
  rw [hfn] at rs0 hr ⊢
  rw [hsn] at rc0 hr ⊢
  have HC : Hid (∀ W, Below w.heap.size w W → Calls Try.prog 33 #[.agg #[.int .i64 y0, .int .i64 y1, .bool y2, .int .i64 y3, .int .i64 y4, .int .i64 y5, .int .i64 s0, .int .i64 s1, .int .i64 s2, .slice ua fn uc, .int .i64 c0, .int .i64 c1, .slice va sn vc, .int .i64 k0, .int .i64 k1, .int .i64 k2]] W fun e w' => e = .returned (.int .i64 (subF (y0, y1, y2, y3, y4, y5, (s0, s1, s2, fl, ()), (c0, c1, sp, ()), (k0, k1, k2, ()), ()))) ∧ Below W.heap.size W w') := fun W hW => iSubFault (y0, y1, y2, y3, y4, y5, (s0, s1, s2, fl, ()), (c0, c1, sp, ()), (k0, k1, k2, ()), ()) _ _ W B (Sh.Rd.below (s := shSub) hr hB hW) (Nat.le_trans hB hW.size) hT
  by_cases hF : subF (y0, y1, y2, y3, y4, y5, (s0, s1, s2, fl, ()), (c0, c1, sp, ()), (k0, k1, k2, ()), ()) = 0
  · rw [clsV_o hF]
    refine (iCloseOk y0 y1 y2 y3 y4 y5 s0 s1 s2 c0 c1 k0 k1 k2 fl sp ua fn uc va sn vc w _ hF HC (fun W hW => iCopySub y0 y1 y2 y3 y4 y5 s0 s1 s2 c0 c1 k0 k1 k2 fl sp ua fn uc va sn vc W B ((SubIn.of rs0 rc0 hfn hsn hB (sub_ok hF).2.1 (sub_ok hF).2.2.1).below hW))).mono ?_
    rintro e w' ⟨ra, rc, rfl, hc, hb⟩
    obtain ⟨q1, e1, -, g0, g1, g2⟩ := rd_Sender rs0
    obtain ⟨⟨a0, a1, a3, a4, a5⟩, d0, d1, d2⟩ := hwf
    have a : Own w' w.heap.size w.heap.size shSender (s0, s2, s2, [], ()) [.int .i64 s0, .int .i64 s2, .int .i64 s2, .slice none 0 0] := own_snd0 w' _ _ (Nat.le_refl _) g0 g2 g2
    have b := own_SubO (y0 := y0) (y1 := 4) (y2 := y2) (y3 := y3) (y4 := y4) (y5 := y5) (k0 := k0) (k1 := k1) (k2 := k2) a hc (Nat.le_refl _) hb.size ⟨⟨a0, (by show (Lit.int .i64 (4 : Int)).wf = true; decide), a3, a4, a5⟩, d0, d1, d2⟩
    rw [hF]
    exact ⟨_, _, rfl, b, hb⟩
  · rw [clsV_f hF]
    refine (iCloseNo y0 y1 y2 y3 y4 y5 s0 s1 s2 c0 c1 k0 k1 k2 fl sp ua fn uc va sn vc w _ hF HC).mono ?_
    rintro e w' ⟨rfl, hb⟩
    exact ⟨_, _, rfl, zSub_own _ _ _ hb.size, hb⟩
end Go.Proofs.Ytebgibjokljlbaa
