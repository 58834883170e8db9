/- What program and model make of a new sub; nothing that was in memory turns; no condition. -/
import Derived.Test.YtlicopeejphgaanRows
import Derived.Test.YtlicopeejphgaanBase
import Derived.Test.YtlicopeejphgaanBytes
import Derived.Test.YtlicopeejphgaanMem
import Derived.Test.YtlicopeejphgaanHBase
import Derived.Test.YtlicopeejphgaanHFlight
import Derived.Test.YtlicopeejphgaanHSender
import Derived.Test.YtlicopeejphgaanHSpan
import Derived.Test.YtlicopeejphgaanHCatch
import Derived.Test.YtlicopeejphgaanFlightDef
import Derived.Test.YtlicopeejphgaanSpecFlight
import Derived.Test.YtlicopeejphgaanImplFlight
import Derived.Test.YtlicopeejphgaanCatDef
import Derived.Test.YtlicopeejphgaanCatImpl
import Derived.Test.YtlicopeejphgaanCtrl
import Derived.Test.YtlicopeejphgaanBox
import Derived.Test.YtlicopeejphgaanSubBox
import Derived.Test.YtlicopeejphgaanSubSets
import Derived.Test.YtlicopeejphgaanHSub
import Derived.Test.YtlicopeejphgaanSubO
import Derived.Test.YtlicopeejphgaanSubDef
import Derived.Deep.RegionHeld3
namespace Go.Proofs.Ytlicopeejphgaan
open Go.RowKit
set_option linter.unusedVariables false
set_option maxRecDepth 8000

theorem sL6StartN (w : World) : Calls Try.prog 95 #[] w fun e w' => e = .returned (.agg #[.int .i64 16, .int .i64 64, .int .i64 0]) ∧ Below w.heap.size w w' := by
  go_enter Try.func95, Try.ntmps95
  go_wp2_with fail
  go_returns
  exact ⟨rfl, by go_grown⟩
set_option maxHeartbeats 2000000 in
theorem sL8New (p st : Int) (jn : Bool) (no nw : Int) (w : World) :
    Calls Try.prog 66 #[.int .i64 p, .int .i64 st, .bool jn, .int .i64 no, .int .i64 nw] w fun e w' => e = .returned (.agg #[.int .i64 p, .int .i64 1, .bool jn, .int .i64 no, .int .i64 0, .int .i64 nw, .int .i64 st, .int .i64 0, .int .i64 0, .slice none 0 0, .int .i64 0, .int .i64 0, .slice none 0 0, .int .i64 16, .int .i64 64, .int .i64 0]) ∧ Below w.heap.size w w' := by
  go_enter Try.func66, Try.ntmps66
  go_wp2_with fail
  refine (sL6StartN _).mono ?_
  rintro e w1 ⟨rfl, hb⟩
  have j1 : ∀ o, w1.cell? ⟨w.heap.size, o, none⟩ = (#[.int .i64 0, .int .i64 0, .bool false, .int .i64 0, .int .i64 0, .int .i64 0, .int .i64 0, .int .i64 0, .int .i64 0, .slice none 0 0, .int .i64 0, .int .i64 0, .slice none 0 0, .int .i64 0, .int .i64 0, .int .i64 0] : Array Value)[o]? := bx_new hb
  have f1 : ∀ o, w1.frozen? ⟨w.heap.size, o, none⟩ = false := fun o => by rw [hb.frozen (p := ⟨w.heap.size, o, none⟩) (by simp)]; simp [go_sem]
  have z1 : w.heap.size < w1.heap.size := by have := hb.size; simp at this; omega
  have HB : Hid (Below w.heap.size w w1) := (bl_new hb).1
  clear hb
  have HJ := setsW_all (w := w1) [.int .i64 p, .int .i64 1, .bool jn, .int .i64 no, .int .i64 0, .int .i64 nw, .int .i64 st, .int .i64 0, .int .i64 0, .slice none 0 0, .int .i64 0, .int .i64 0, .slice none 0 0, .int .i64 16, .int .i64 64, .int .i64 0] j1 (by simp)
  have HX : Hid (Below w.heap.size w (setsW w1 w.heap.size 0 [.int .i64 p, .int .i64 1, .bool jn, .int .i64 no, .int .i64 0, .int .i64 nw, .int .i64 st, .int .i64 0, .int .i64 0, .slice none 0 0, .int .i64 0, .int .i64 0, .slice none 0 0, .int .i64 16, .int .i64 64, .int .i64 0])) := setsW_below (Nat.le_refl _) _ _ _ _ HB.out
  have HE : Hid (setsW w1 w.heap.size 0 [.int .i64 p, .int .i64 1, .bool jn, .int .i64 no, .int .i64 0, .int .i64 nw, .int .i64 st, .int .i64 0, .int .i64 0, .slice none 0 0, .int .i64 0, .int .i64 0, .slice none 0 0, .int .i64 16, .int .i64 64, .int .i64 0] = ((((((((((((((((w1.setCell ⟨w.heap.size, 0, none⟩ (.int .i64 p)).setCell ⟨w.heap.size, 1, none⟩ (.int .i64 1)).setCell ⟨w.heap.size, 2, none⟩ (.bool jn)).setCell ⟨w.heap.size, 3, none⟩ (.int .i64 no)).setCell ⟨w.heap.size, 4, none⟩ (.int .i64 0)).setCell ⟨w.heap.size, 5, none⟩ (.int .i64 nw)).setCell ⟨w.heap.size, 6, none⟩ (.int .i64 st)).setCell ⟨w.heap.size, 7, none⟩ (.int .i64 0)).setCell ⟨w.heap.size, 8, none⟩ (.int .i64 0)).setCell ⟨w.heap.size, 9, none⟩ (.slice none 0 0)).setCell ⟨w.heap.size, 10, none⟩ (.int .i64 0)).setCell ⟨w.heap.size, 11, none⟩ (.int .i64 0)).setCell ⟨w.heap.size, 12, none⟩ (.slice none 0 0)).setCell ⟨w.heap.size, 13, none⟩ (.int .i64 16)).setCell ⟨w.heap.size, 14, none⟩ (.int .i64 64)).setCell ⟨w.heap.size, 15, none⟩ (.int .i64 0))) := by show _ = _; simp only [setsW, Nat.reduceAdd]
  have HJJ : Hid _ := HJ
  clear HJ HB
  go_wp2_with fail
  rw [← HE.out]
  have j9 := HJJ.out
  clear HE HJJ j1 f1
  generalize setsW w1 w.heap.size 0 [.int .i64 p, .int .i64 1, .bool jn, .int .i64 no, .int .i64 0, .int .i64 nw, .int .i64 st, .int .i64 0, .int .i64 0, .slice none 0 0, .int .i64 0, .int .i64 0, .slice none 0 0, .int .i64 16, .int .i64 64, .int .i64 0] = X at *
  exact bodyPost_ret (v := .agg #[.int .i64 p, .int .i64 1, .bool jn, .int .i64 no, .int .i64 0, .int .i64 nw, .int .i64 st, .int .i64 0, .int .i64 0, .slice none 0 0, .int .i64 0, .int .i64 0, .slice none 0 0, .int .i64 16, .int .i64 64, .int .i64 0]) (by simp [results, Try.results66, go_sem, j9]) rfl ⟨rfl, HX.out⟩
set_option maxHeartbeats 4000000 in
theorem sNewNo (p st : Int) (jn : Bool) (no nw : Int) (w : World) (h : (inD p 0 2 && inD no 0 1000000 && inD nw 0 1000000 && inD st 0 65535) = false) :
    Calls Try.prog 30 #[.int .i64 p, .int .i64 st, .bool jn, .int .i64 no, .int .i64 nw] w fun e w' => e = .returned (.agg #[.int .i64 3, .int .i64 0, .int .i64 0, .bool false, .int .i64 0, .int .i64 0, .int .i64 0, .int .i64 0, .int .i64 0, .int .i64 0, .slice none 0 0, .int .i64 0, .int .i64 0, .slice none 0 0, .int .i64 0, .int .i64 0, .int .i64 0]) ∧ Below w.heap.size w w' := by
  by_cases g1 : inD p 0 2 = true
  · by_cases g2 : inD no 0 1000000 = true
    · by_cases g3 : inD nw 0 1000000 = true
      · have g4 : inD st 0 65535 = false := by simpa [g1, g2, g3] using h
        clear h
        go_enter Try.func30, Try.ntmps30
        go_wp2_with (first | (go_at_call 38; refine (sInD _ _ _ _).mono ?_; rintro e w' ⟨rfl, hw⟩; subst w') | (go_at_call 37; refine (sTickD _ _).mono ?_; rintro e w' ⟨rfl, hw⟩; subst w') | (go_at_call 65; refine (sNumD _ _).mono ?_; rintro e w' ⟨rfl, hw⟩; subst w'))
        go_returns
        exact ⟨rfl, by go_grown⟩
      · replace g3 : inD nw 0 1000000 = false := by simpa using g3
        clear h
        go_enter Try.func30, Try.ntmps30
        go_wp2_with (first | (go_at_call 38; refine (sInD _ _ _ _).mono ?_; rintro e w' ⟨rfl, hw⟩; subst w') | (go_at_call 37; refine (sTickD _ _).mono ?_; rintro e w' ⟨rfl, hw⟩; subst w') | (go_at_call 65; refine (sNumD _ _).mono ?_; rintro e w' ⟨rfl, hw⟩; subst w'))
        go_returns
        exact ⟨rfl, by go_grown⟩
    · replace g2 : inD no 0 1000000 = false := by simpa using g2
      clear h
      go_enter Try.func30, Try.ntmps30
      go_wp2_with (first | (go_at_call 38; refine (sInD _ _ _ _).mono ?_; rintro e w' ⟨rfl, hw⟩; subst w') | (go_at_call 37; refine (sTickD _ _).mono ?_; rintro e w' ⟨rfl, hw⟩; subst w') | (go_at_call 65; refine (sNumD _ _).mono ?_; rintro e w' ⟨rfl, hw⟩; subst w'))
      go_returns
      exact ⟨rfl, by go_grown⟩
  · replace g1 : inD p 0 2 = false := by simpa using g1
    clear h
    go_enter Try.func30, Try.ntmps30
    go_wp2_with (first | (go_at_call 38; refine (sInD _ _ _ _).mono ?_; rintro e w' ⟨rfl, hw⟩; subst w') | (go_at_call 37; refine (sTickD _ _).mono ?_; rintro e w' ⟨rfl, hw⟩; subst w') | (go_at_call 65; refine (sNumD _ _).mono ?_; rintro e w' ⟨rfl, hw⟩; subst w'))
    go_returns
    exact ⟨rfl, by go_grown⟩
set_option maxHeartbeats 4000000 in
theorem sNewOk (p st : Int) (jn : Bool) (no nw : Int) (w : World) (g1 : inD p 0 2 = true) (g2 : inD no 0 1000000 = true) (g3 : inD nw 0 1000000 = true) (g4 : inD st 0 65535 = true) :
    Calls Try.prog 30 #[.int .i64 p, .int .i64 st, .bool jn, .int .i64 no, .int .i64 nw] w fun e w' => e = .returned (.agg #[.int .i64 0, .int .i64 p, .int .i64 1, .bool jn, .int .i64 no, .int .i64 0, .int .i64 nw, .int .i64 st, .int .i64 0, .int .i64 0, .slice none 0 0, .int .i64 0, .int .i64 0, .slice none 0 0, .int .i64 16, .int .i64 64, .int .i64 0]) ∧ Below w.heap.size w w' := by
  go_enter Try.func30, Try.ntmps30
  go_wp2_with (first | (go_at_call 38; refine (sInD _ _ _ _).mono ?_; rintro e w' ⟨rfl, hw⟩; subst w') | (go_at_call 37; refine (sTickD _ _).mono ?_; rintro e w' ⟨rfl, hw⟩; subst w') | (go_at_call 65; refine (sNumD _ _).mono ?_; rintro e w' ⟨rfl, hw⟩; subst w'))
  refine (sL8New p st jn no nw _).mono ?_
  rintro e w1 ⟨rfl, hb⟩
  have j1 : ∀ o, w1.cell? ⟨w.heap.size, o, none⟩ = (#[.int .i64 0, .int .i64 0, .int .i64 0, .bool false, .int .i64 0, .int .i64 0, .int .i64 0, .int .i64 0, .int .i64 0, .int .i64 0, .slice none 0 0, .int .i64 0, .int .i64 0, .slice none 0 0, .int .i64 0, .int .i64 0, .int .i64 0] : Array Value)[o]? := bx_new hb
  have f1 : ∀ o, w1.frozen? ⟨w.heap.size, o, none⟩ = false := fun o => by rw [hb.frozen (p := ⟨w.heap.size, o, none⟩) (by simp)]; simp [go_sem]
  have z1 : w.heap.size < w1.heap.size := by have := hb.size; simp at this; omega
  have HB : Hid (Below w.heap.size w w1) := (bl_new hb).1
  clear hb
  have HJ := setsW_all (w := w1) [.int .i64 0, .int .i64 p, .int .i64 1, .bool jn, .int .i64 no, .int .i64 0, .int .i64 nw, .int .i64 st, .int .i64 0, .int .i64 0, .slice none 0 0, .int .i64 0, .int .i64 0, .slice none 0 0, .int .i64 16, .int .i64 64, .int .i64 0] j1 (by simp)
  have HX : Hid (Below w.heap.size w (setsW w1 w.heap.size 0 [.int .i64 0, .int .i64 p, .int .i64 1, .bool jn, .int .i64 no, .int .i64 0, .int .i64 nw, .int .i64 st, .int .i64 0, .int .i64 0, .slice none 0 0, .int .i64 0, .int .i64 0, .slice none 0 0, .int .i64 16, .int .i64 64, .int .i64 0])) := setsW_below (Nat.le_refl _) _ _ _ _ HB.out
  have HE : Hid (setsW w1 w.heap.size 0 [.int .i64 0, .int .i64 p, .int .i64 1, .bool jn, .int .i64 no, .int .i64 0, .int .i64 nw, .int .i64 st, .int .i64 0, .int .i64 0, .slice none 0 0, .int .i64 0, .int .i64 0, .slice none 0 0, .int .i64 16, .int .i64 64, .int .i64 0] = (((((((((((((((((w1.setCell ⟨w.heap.size, 0, none⟩ (.int .i64 0)).setCell ⟨w.heap.size, 1, none⟩ (.int .i64 p)).setCell ⟨w.heap.size, 2, none⟩ (.int .i64 1)).setCell ⟨w.heap.size, 3, none⟩ (.bool jn)).setCell ⟨w.heap.size, 4, none⟩ (.int .i64 no)).setCell ⟨w.heap.size, 5, none⟩ (.int .i64 0)).setCell ⟨w.heap.size, 6, none⟩ (.int .i64 nw)).setCell ⟨w.heap.size, 7, none⟩ (.int .i64 st)).setCell ⟨w.heap.size, 8, none⟩ (.int .i64 0)).setCell ⟨w.heap.size, 9, none⟩ (.int .i64 0)).setCell ⟨w.heap.size, 10, none⟩ (.slice none 0 0)).setCell ⟨w.heap.size, 11, none⟩ (.int .i64 0)).setCell ⟨w.heap.size, 12, none⟩ (.int .i64 0)).setCell ⟨w.heap.size, 13, none⟩ (.slice none 0 0)).setCell ⟨w.heap.size, 14, none⟩ (.int .i64 16)).setCell ⟨w.heap.size, 15, none⟩ (.int .i64 64)).setCell ⟨w.heap.size, 16, none⟩ (.int .i64 0))) := by show _ = _; simp only [setsW, Nat.reduceAdd]
  have HJJ : Hid _ := HJ
  clear HJ HB
  go_wp2_with fail
  rw [← HE.out]
  have j9 := HJJ.out
  clear HE HJJ j1 f1
  generalize setsW w1 w.heap.size 0 [.int .i64 0, .int .i64 p, .int .i64 1, .bool jn, .int .i64 no, .int .i64 0, .int .i64 nw, .int .i64 st, .int .i64 0, .int .i64 0, .slice none 0 0, .int .i64 0, .int .i64 0, .slice none 0 0, .int .i64 16, .int .i64 64, .int .i64 0] = X at *
  exact bodyPost_ret (v := .agg #[.int .i64 0, .int .i64 p, .int .i64 1, .bool jn, .int .i64 no, .int .i64 0, .int .i64 nw, .int .i64 st, .int .i64 0, .int .i64 0, .slice none 0 0, .int .i64 0, .int .i64 0, .slice none 0 0, .int .i64 16, .int .i64 64, .int .i64 0]) (by simp [results, Try.results30, go_sem, j9]) rfl ⟨rfl, HX.out⟩
end Go.Proofs.Ytlicopeejphgaan
