/- What the program and its model answer where a control is cut or falls, and the law's own helpers on controls; nothing that was in memory turns; no condition. -/
import Derived.Test.YtabkmcniacmgcabRows
import Derived.Test.YtabkmcniacmgcabBase
import Derived.Test.YtabkmcniacmgcabBox
import Derived.Test.YtabkmcniacmgcabCtrl
namespace Go.Proofs.Ytabkmcniacmgcab
open Go.RowKit
set_option linter.unusedVariables false

theorem bf_below {w w' : World} {b : Nat} (h : ∀ o, w.frozen? ⟨b, o, none⟩ = false) (hb : b < w.heap.size) (k : Below w.heap.size w w') : ∀ o, w'.frozen? ⟨b, o, none⟩ = false :=
  fun o => (k.frozen (p := ⟨b, o, none⟩) hb).trans (h o)
set_option maxHeartbeats 1000000 in
theorem iCutControl (a b p : Int) (w : World) :
    Calls Try.prog 22 #[.agg #[.int .i64 a, .int .i64 b, .int .i64 p]] w fun e w' => e = .returned (.agg #[.int .i64 (ctF a b p), .int .i64 (if ctF a b p = 0 then halfW a else 0), .int .i64 (if ctF a b p = 0 then halfW a else 0), .int .i64 0]) ∧ Below w.heap.size w w' := by
  have HC : Hid (∀ W, Calls Try.prog 24 #[.agg #[.int .i64 a, .int .i64 b, .int .i64 p]] W fun e w' => e = .returned (.int .i64 (ctF a b p)) ∧ Below W.heap.size W w') := fun W => iControlFault a b p W
  generalize hF : ctF a b p = F at *
  by_cases h0 : F = 0
  · subst h0
    obtain ⟨⟨ha0, ha1⟩, ⟨hb0, hb1⟩, hp0, hp1⟩ := ctF_ok hF
    clear hF
    simp only [if_true]
    have HH : Hid (∀ W, Calls Try.prog 59 #[.agg #[.int .i64 a, .int .i64 b, .int .i64 p]] W fun e w' => e = .returned (.int .i64 (halfW a)) ∧ Below W.heap.size W w') := fun W => iHalf a b p W ha0 ha1
    generalize halfW a = h at *
    go_enter Try.func22, Try.ntmps22
    go_wp2_with fail
    refine (HC.out _).mono ?_
    rintro e w1 ⟨rfl, hb⟩
    have k1 := bx_new (w := w.alloc (.cells #[.int .i64 a, .int .i64 b, .int .i64 p] 48)) hb
    have k0 : ∀ o, w1.cell? ⟨w.heap.size, o, none⟩ = (#[.int .i64 a, .int .i64 b, .int .i64 p] : Array Value)[o]? := fun o => by rw [hb.cell (p := ⟨w.heap.size, o, none⟩) (by simp; omega)]; simp [go_sem]
    have f1 : ∀ o, w1.frozen? ⟨w.heap.size + 1, o, none⟩ = false := fun o => by rw [hb.frozen (p := ⟨w.heap.size + 1, o, none⟩) (by simp)]; simp [go_sem]
    simp only [World.size_alloc] at k1
    have HB : Hid (Below w.heap.size w w1) := Below.trans (by go_grown) (hb.mono (by simp; omega))
    have z1 : w.heap.size + 1 < w1.heap.size := by have := hb.size; simp at this; omega
    have z0 : w.heap.size < w1.heap.size := by omega
    clear hb HC
    go_wp2_with fail
    refine (HH.out _).mono ?_
    rintro e w2 ⟨rfl, hb⟩
    replace k0 := bx_below k0 z0 hb
    replace k1 := bx_below k1 z1 hb
    replace f1 := bf_below f1 z1 hb
    replace HB : Hid (Below w.heap.size w _) := HB.out.trans (hb.mono HB.out.size)
    replace z0 := Nat.lt_of_lt_of_le z0 hb.size
    replace z1 := Nat.lt_of_lt_of_le z1 hb.size
    clear hb
    go_wp2_with fail
    refine bodyPost_ret (v := .agg #[.int .i64 0, .int .i64 h, .int .i64 h, .int .i64 0]) (by simp [results, Try.results22, go_sem, k1]) rfl ⟨rfl, ?_⟩
    have hB1 := HB.out
    clear k1 k0 f1 HB
    go_grown
  · have h0' : (F != 0) = true := by simp [h0]
    simp only [h0, if_false]
    clear hF h0
    go_enter Try.func22, Try.ntmps22
    go_wp2_with fail
    refine (HC.out _).mono ?_
    rintro e w1 ⟨rfl, hb⟩
    have k1 := bx_new (w := w.alloc (.cells #[.int .i64 a, .int .i64 b, .int .i64 p] 48)) hb
    have k0 : ∀ o, w1.cell? ⟨w.heap.size, o, none⟩ = (#[.int .i64 a, .int .i64 b, .int .i64 p] : Array Value)[o]? := fun o => by rw [hb.cell (p := ⟨w.heap.size, o, none⟩) (by simp; omega)]; simp [go_sem]
    have f1 : ∀ o, w1.frozen? ⟨w.heap.size + 1, o, none⟩ = false := fun o => by rw [hb.frozen (p := ⟨w.heap.size + 1, o, none⟩) (by simp)]; simp [go_sem]
    simp only [World.size_alloc] at k1
    have HB : Hid (Below w.heap.size w w1) := Below.trans (by go_grown) (hb.mono (by simp; omega))
    have z1 : w.heap.size + 1 < w1.heap.size := by have := hb.size; simp at this; omega
    have z0 : w.heap.size < w1.heap.size := by omega
    clear hb HC
    go_wp2_with fail
    refine bodyPost_ret (v := .agg #[.int .i64 F, .int .i64 0, .int .i64 0, .int .i64 0]) (by simp [results, Try.results22, go_sem, k1]) rfl ⟨rfl, ?_⟩
    have hB1 := HB.out
    clear k1 k0 f1 HB
    go_grown
set_option maxHeartbeats 1000000 in
theorem iFallControl (a b p : Int) (w : World) :
    Calls Try.prog 23 #[.agg #[.int .i64 a, .int .i64 b, .int .i64 p]] w fun e w' => e = .returned (.agg #[.int .i64 (ctF a b p), .int .i64 (if ctF a b p = 0 then 8 else 0), .int .i64 (if ctF a b p = 0 then halfW a else 0), .int .i64 0]) ∧ Below w.heap.size w w' := by
  have HC : Hid (∀ W, Calls Try.prog 24 #[.agg #[.int .i64 a, .int .i64 b, .int .i64 p]] W fun e w' => e = .returned (.int .i64 (ctF a b p)) ∧ Below W.heap.size W w') := fun W => iControlFault a b p W
  generalize hF : ctF a b p = F at *
  by_cases h0 : F = 0
  · subst h0
    obtain ⟨⟨ha0, ha1⟩, ⟨hb0, hb1⟩, hp0, hp1⟩ := ctF_ok hF
    clear hF
    simp only [if_true]
    have HH : Hid (∀ W, Calls Try.prog 59 #[.agg #[.int .i64 a, .int .i64 b, .int .i64 p]] W fun e w' => e = .returned (.int .i64 (halfW a)) ∧ Below W.heap.size W w') := fun W => iHalf a b p W ha0 ha1
    generalize halfW a = h at *
    go_enter Try.func23, Try.ntmps23
    go_wp2_with fail
    refine (HC.out _).mono ?_
    rintro e w1 ⟨rfl, hb⟩
    have k1 := bx_new (w := w.alloc (.cells #[.int .i64 a, .int .i64 b, .int .i64 p] 48)) hb
    have k0 : ∀ o, w1.cell? ⟨w.heap.size, o, none⟩ = (#[.int .i64 a, .int .i64 b, .int .i64 p] : Array Value)[o]? := fun o => by rw [hb.cell (p := ⟨w.heap.size, o, none⟩) (by simp; omega)]; simp [go_sem]
    have f1 : ∀ o, w1.frozen? ⟨w.heap.size + 1, o, none⟩ = false := fun o => by rw [hb.frozen (p := ⟨w.heap.size + 1, o, none⟩) (by simp)]; simp [go_sem]
    simp only [World.size_alloc] at k1
    have HB : Hid (Below w.heap.size w w1) := Below.trans (by go_grown) (hb.mono (by simp; omega))
    have z1 : w.heap.size + 1 < w1.heap.size := by have := hb.size; simp at this; omega
    have z0 : w.heap.size < w1.heap.size := by omega
    clear hb HC
    go_wp2_with fail
    refine (HH.out _).mono ?_
    rintro e w2 ⟨rfl, hb⟩
    replace k0 := bx_below k0 z0 hb
    replace k1 := bx_below k1 z1 hb
    replace f1 := bf_below f1 z1 hb
    replace HB : Hid (Below w.heap.size w _) := HB.out.trans (hb.mono HB.out.size)
    replace z0 := Nat.lt_of_lt_of_le z0 hb.size
    replace z1 := Nat.lt_of_lt_of_le z1 hb.size
    clear hb
    go_wp2_with fail
    refine bodyPost_ret (v := .agg #[.int .i64 0, .int .i64 8, .int .i64 h, .int .i64 0]) (by simp [results, Try.results23, go_sem, k1]) rfl ⟨rfl, ?_⟩
    have hB1 := HB.out
    clear k1 k0 f1 HB
    go_grown
  · have h0' : (F != 0) = true := by simp [h0]
    simp only [h0, if_false]
    clear hF h0
    go_enter Try.func23, Try.ntmps23
    go_wp2_with fail
    refine (HC.out _).mono ?_
    rintro e w1 ⟨rfl, hb⟩
    have k1 := bx_new (w := w.alloc (.cells #[.int .i64 a, .int .i64 b, .int .i64 p] 48)) hb
    have k0 : ∀ o, w1.cell? ⟨w.heap.size, o, none⟩ = (#[.int .i64 a, .int .i64 b, .int .i64 p] : Array Value)[o]? := fun o => by rw [hb.cell (p := ⟨w.heap.size, o, none⟩) (by simp; omega)]; simp [go_sem]
    have f1 : ∀ o, w1.frozen? ⟨w.heap.size + 1, o, none⟩ = false := fun o => by rw [hb.frozen (p := ⟨w.heap.size + 1, o, none⟩) (by simp)]; simp [go_sem]
    simp only [World.size_alloc] at k1
    have HB : Hid (Below w.heap.size w w1) := Below.trans (by go_grown) (hb.mono (by simp; omega))
    have z1 : w.heap.size + 1 < w1.heap.size := by have := hb.size; simp at this; omega
    have z0 : w.heap.size < w1.heap.size := by omega
    clear hb HC
    go_wp2_with fail
    refine bodyPost_ret (v := .agg #[.int .i64 F, .int .i64 0, .int .i64 0, .int .i64 0]) (by simp [results, Try.results23, go_sem, k1]) rfl ⟨rfl, ?_⟩
    have hB1 := HB.out
    clear k1 k0 f1 HB
    go_grown
end Go.Proofs.Ytabkmcniacmgcab
