/- What program and model make of a new sub; nothing that was in memory turns; no condition. -/
import Derived.Test.YtbdibjeemgkdaaaGreatDoorRows
import Derived.Deep.RegionHeld3
import Derived.Test.YtbdibjeemgkdaaaGreatDoorK01
import Derived.Test.YtbdibjeemgkdaaaGreatDoorK02
import Derived.Test.YtbdibjeemgkdaaaGreatDoorK03
import Derived.Test.YtbdibjeemgkdaaaGreatDoorK04
import Derived.Test.YtbdibjeemgkdaaaGreatDoorK05
import Derived.Test.YtbdibjeemgkdaaaGreatDoorK06
import Derived.Test.YtbdibjeemgkdaaaGreatDoorK17
namespace Go.Proofs.YtbdibjeemgkdaaaGreatDoor
open Go.RowKit
set_option linter.unusedVariables false
set_option maxRecDepth 8000

theorem sL6StartN (w : World) : Calls Tryz.prog 92 #[] w fun e w' => e = .returned (.agg #[.int .i64 16, .int .i64 64, .int .i64 0]) ∧ Below w.heap.size w w' := by
  go_enter Tryz.func92, Tryz.ntmps92
  go_wp2_with fail
  go_returns
  exact ⟨rfl, by go_grown⟩
set_option maxHeartbeats 2000000 in
theorem sL8New (p st : Int) (jn : Bool) (no nw : Int) (w : World) :
    Calls Tryz.prog 54 #[.int .i64 p, .int .i64 st, .bool jn, .int .i64 no, .int .i64 nw] w fun e w' => e = .returned (.agg #[.int .i64 p, .int .i64 1, .bool jn, .int .i64 no, .int .i64 0, .int .i64 nw, .int .i64 st, .int .i64 0, .int .i64 0, .slice none 0 0, .int .i64 0, .int .i64 0, .slice none 0 0, .int .i64 16, .int .i64 64, .int .i64 0]) ∧ Below w.heap.size w w' := by
  go_enter Tryz.func54, Tryz.ntmps54
  go_wp2_with fail
  refine (sL6StartN _).mono ?_
  rintro e w1 ⟨rfl, hb⟩
  have j1 : ∀ o, w1.cell? ⟨w.heap.size, o, none⟩ = (#[.int .i64 0, .int .i64 0, .bool false, .int .i64 0, .int .i64 0, .int .i64 0, .int .i64 0, .int .i64 0, .int .i64 0, .slice none 0 0, .int .i64 0, .int .i64 0, .slice none 0 0, .int .i64 0, .int .i64 0, .int .i64 0] : Array Value)[o]? := bx_new hb
  have f1 : ∀ o, w1.frozen? ⟨w.heap.size, o, none⟩ = false := fun o => by rw [hb.frozen (p := ⟨w.heap.size, o, none⟩) (by simp)]; simp [go_sem]
  have z1 : w.heap.size < w1.heap.size := by have := hb.size; simp at this; omega
  have HB : Hid (Below w.heap.size w w1) := (bl_new hb).1
  clear hb
  have HJ := setsW_all (w := w1) [.int .i64 p, .int .i64 1, .bool jn, .int .i64 no, .int .i64 0, .int .i64 nw, .int .i64 st, .int .i64 0, .int .i64 0, .slice none 0 0, .int .i64 0, .int .i64 0, .slice none 0 0, .int .i64 16, .int .i64 64, .int .i64 0] j1 (by simp)
  have HX : Hid (Below w.heap.size w (setsW w1 w.heap.size 0 [.int .i64 p, .int .i64 1, .bool jn, .int .i64 no, .int .i64 0, .int .i64 nw, .int .i64 st, .int .i64 0, .int .i64 0, .slice none 0 0, .int .i64 0, .int .i64 0, .slice none 0 0, .int .i64 16, .int .i64 64, .int .i64 0])) := setsW_below (Nat.le_refl _) _ _ _ _ HB.out
  have HE : Hid (setsW w1 w.heap.size 0 [.int .i64 p, .int .i64 1, .bool jn, .int .i64 no, .int .i64 0, .int .i64 nw, .int .i64 st, .int .i64 0, .int .i64 0, .slice none 0 0, .int .i64 0, .int .i64 0, .slice none 0 0, .int .i64 16, .int .i64 64, .int .i64 0] = ((((((((((((((((w1.setCell ⟨w.heap.size, 0, none⟩ (.int .i64 p)).setCell ⟨w.heap.size, 1, none⟩ (.int .i64 1)).setCell ⟨w.heap.size, 2, none⟩ (.bool jn)).setCell ⟨w.heap.size, 3, none⟩ (.int .i64 no)).setCell ⟨w.heap.size, 4, none⟩ (.int .i64 0)).setCell ⟨w.heap.size, 5, none⟩ (.int .i64 nw)).setCell ⟨w.heap.size, 6, none⟩ (.int .i64 st)).setCell ⟨w.heap.size, 7, none⟩ (.int .i64 0)).setCell ⟨w.heap.size, 8, none⟩ (.int .i64 0)).setCell ⟨w.heap.size, 9, none⟩ (.slice none 0 0)).setCell ⟨w.heap.size, 10, none⟩ (.int .i64 0)).setCell ⟨w.heap.size, 11, none⟩ (.int .i64 0)).setCell ⟨w.heap.size, 12, none⟩ (.slice none 0 0)).setCell ⟨w.heap.size, 13, none⟩ (.int .i64 16)).setCell ⟨w.heap.size, 14, none⟩ (.int .i64 64)).setCell ⟨w.heap.size, 15, none⟩ (.int .i64 0))) := by show _ = _; simp only [setsW, Nat.reduceAdd]
  have HJJ : Hid _ := HJ
  clear HJ HB
  go_wp2_with fail
  rw [← HE.out]
  have j9 := HJJ.out
  clear HE HJJ j1 f1
  generalize setsW w1 w.heap.size 0 [.int .i64 p, .int .i64 1, .bool jn, .int .i64 no, .int .i64 0, .int .i64 nw, .int .i64 st, .int .i64 0, .int .i64 0, .slice none 0 0, .int .i64 0, .int .i64 0, .slice none 0 0, .int .i64 16, .int .i64 64, .int .i64 0] = X at *
  exact bodyPost_ret (v := .agg #[.int .i64 p, .int .i64 1, .bool jn, .int .i64 no, .int .i64 0, .int .i64 nw, .int .i64 st, .int .i64 0, .int .i64 0, .slice none 0 0, .int .i64 0, .int .i64 0, .slice none 0 0, .int .i64 16, .int .i64 64, .int .i64 0]) (by simp [results, Tryz.results54, go_sem, j9]) rfl ⟨rfl, HX.out⟩
end Go.Proofs.YtbdibjeemgkdaaaGreatDoor

/- What the program makes of a new sub; nothing that was in memory turns; no condition. -/
namespace Go.Proofs.YtbdibjeemgkdaaaGreatDoor
open Go.RowKit
set_option linter.unusedVariables false
set_option maxRecDepth 8000

theorem iStartCatchN (w : World) : Calls Tryz.prog 100 #[.int .i64 0] w fun e w' => e = .returned (.agg #[.int .i64 0, .bool false, .int .i64 0, .int .i64 0, .slice none 0 0]) ∧ Below w.heap.size w w' := by
  have h : inD 0 0 65535 = true := by decide
  go_enter Tryz.func100, Tryz.ntmps100
  go_wp2_with (go_at_call 143; refine (iInD _ _ _ _).mono ?_; rintro e w' ⟨rfl, hw⟩; subst w')
  go_returns
  exact ⟨rfl, by go_grown⟩
set_option maxHeartbeats 1000000 in
theorem iMayBegin (p no nw : Int) (w : World) : Calls Tryz.prog 96 #[.int .i64 p, .int .i64 no, .int .i64 nw] w fun e w' => e = .returned (.bool (inD p 0 2 && inD no 0 1000000 && inD nw 0 1000000)) ∧ w' = w := by
  by_cases g1 : inD p 0 2 = true
  · by_cases g2 : inD no 0 1000000 = true
    · rw [g1, g2]
      simp only [Bool.true_and]
      by_cases g3 : inD nw 0 1000000 = true
      · rw [g3]
        go_enter Tryz.func96, Tryz.ntmps96
        go_wp2_with (go_at_call 143; refine (iInD _ _ _ _).mono ?_; rintro e w' ⟨rfl, hw⟩; subst w')
        go_ret
        exact ⟨rfl, rfl⟩
      · replace g3 : inD nw 0 1000000 = false := by simpa using g3
        rw [g3]
        go_enter Tryz.func96, Tryz.ntmps96
        go_wp2_with (go_at_call 143; refine (iInD _ _ _ _).mono ?_; rintro e w' ⟨rfl, hw⟩; subst w')
        go_ret
        exact ⟨rfl, rfl⟩
    · replace g2 : inD no 0 1000000 = false := by simpa using g2
      rw [g1, g2]
      simp only [Bool.and_false, Bool.false_and]
      go_enter Tryz.func96, Tryz.ntmps96
      go_wp2_with (go_at_call 143; refine (iInD _ _ _ _).mono ?_; rintro e w' ⟨rfl, hw⟩; subst w')
      go_ret
      exact ⟨rfl, rfl⟩
  · replace g1 : inD p 0 2 = false := by simpa using g1
    rw [g1]
    simp only [Bool.false_and]
    go_enter Tryz.func96, Tryz.ntmps96
    go_wp2_with (go_at_call 143; refine (iInD _ _ _ _).mono ?_; rintro e w' ⟨rfl, hw⟩; subst w')
    go_ret
    exact ⟨rfl, rfl⟩
theorem fldC8 (c0 c1 c2 c3 c4 : Value) (w : World) : Sem.run Tryz.prog (Instr.field 154 (.agg #[c0, c1, c2, c3, c4]) 2) w = .ok (.agg #[c2, c3, c4]) w := by
  simp [Instr.field, asAgg, part, go_sem]
theorem fldK8 (c0 c1 c2 c3 : Value) (w : World) : Sem.run Tryz.prog (Instr.field 157 (.agg #[c0, c1, c2, c3]) 1) w = .ok (.agg #[c1, c2, c3]) w := by
  simp [Instr.field, asAgg, part, go_sem]
set_option maxHeartbeats 4000000 in
theorem iNewNo (p st : Int) (jn : Bool) (no nw : Int) (w : World) (h : (inD p 0 2 && inD no 0 1000000 && inD nw 0 1000000) = false) :
    Calls Tryz.prog 58 #[.int .i64 p, .int .i64 st, .bool jn, .int .i64 no, .int .i64 nw] w fun e w' => e = .returned (.agg #[.int .i64 3, .int .i64 0, .int .i64 0, .bool false, .int .i64 0, .int .i64 0, .int .i64 0, .int .i64 0, .int .i64 0, .int .i64 0, .slice none 0 0, .int .i64 0, .int .i64 0, .slice none 0 0, .int .i64 0, .int .i64 0, .int .i64 0]) ∧ Below w.heap.size w w' := by
  go_enter Tryz.func58, Tryz.ntmps58
  go_wp2_with (go_at_call 96; refine (iMayBegin _ _ _ _).mono ?_; rintro e w' ⟨rfl, hw⟩; subst w')
  go_returns
  exact ⟨rfl, by go_grown⟩
set_option maxHeartbeats 4000000 in
theorem iNewNo2 (p st : Int) (jn : Bool) (no nw : Int) (w : World) (g1 : inD p 0 2 = true) (g2 : inD no 0 1000000 = true) (g3 : inD nw 0 1000000 = true) (g4 : inD st 0 65535 = false) :
    Calls Tryz.prog 58 #[.int .i64 p, .int .i64 st, .bool jn, .int .i64 no, .int .i64 nw] w fun e w' => e = .returned (.agg #[.int .i64 3, .int .i64 0, .int .i64 0, .bool false, .int .i64 0, .int .i64 0, .int .i64 0, .int .i64 0, .int .i64 0, .int .i64 0, .slice none 0 0, .int .i64 0, .int .i64 0, .slice none 0 0, .int .i64 0, .int .i64 0, .int .i64 0]) ∧ Below w.heap.size w w' := by
  have HC : Hid (∀ W, Calls Tryz.prog 99 #[.int .i64 st] W fun e w' => e = .returned (.agg #[.int .i64 3, .int .i64 0, .int .i64 0, .int .i64 0, .slice none 0 0]) ∧ Below W.heap.size W w') := fun W => by have h := iStartSender st W; rw [if_neg (by simp [g4]), if_neg (by simp [g4])] at h; exact h
  have hg : (inD p 0 2 && inD no 0 1000000 && inD nw 0 1000000) = true := by simp [g1, g2, g3]
  go_enter Tryz.func58, Tryz.ntmps58
  go_wp2_with (go_at_call 96; refine (iMayBegin _ _ _ _).mono ?_; rintro e w' ⟨rfl, hw⟩; subst w')
  refine (HC.out _).mono ?_
  rintro e w1 ⟨rfl, hb⟩
  have j1 : ∀ o, w1.cell? ⟨w.heap.size, o, none⟩ = (#[.int .i64 0, .int .i64 0, .int .i64 0, .bool false, .int .i64 0, .int .i64 0, .int .i64 0, .int .i64 0, .int .i64 0, .int .i64 0, .slice none 0 0, .int .i64 0, .int .i64 0, .slice none 0 0, .int .i64 0, .int .i64 0, .int .i64 0] : Array Value)[o]? := bx_new hb
  have f1 : ∀ o, w1.frozen? ⟨w.heap.size, o, none⟩ = false := fun o => by rw [hb.frozen (p := ⟨w.heap.size, o, none⟩) (by simp)]; simp [go_sem]
  have z1 : w.heap.size < w1.heap.size := by have := hb.size; simp at this; omega
  have HB : Hid (Below w.heap.size w w1) := (bl_new hb).1
  clear hb HC
  go_upto_region 4 with fail
  obtain ⟨W2, hW2⟩ : ∃ W2, W2 = w1.alloc (.cells #[.int .i64 3, .int .i64 0, .int .i64 0, .int .i64 0, .slice none 0 0] 151) := ⟨_, rfl⟩
  rw [← hW2]
  have hb2 : Below w1.heap.size w1 W2 := by rw [hW2]; exact (Below.refl _ _).alloc (Nat.le_refl _) _
  have x0 : W2.cell? ⟨w1.heap.size, 0, none⟩ = some (.int .i64 3) := by rw [hW2]; simp [go_sem]
  replace j1 := bx_below j1 z1 hb2
  replace f1 := bxF f1 hb2 z1
  replace HB : Hid (Below w.heap.size w W2) := HB.out.trans (hb2.mono HB.out.size)
  have zX : w1.heap.size < W2.heap.size := by rw [hW2]; simp
  replace z1 : w.heap.size < W2.heap.size := by omega
  clear hW2 hb2
  generalize w1.heap.size = XB at *
  go_wp2_with fail
  have HJ := setsW_all (w := W2) [.int .i64 3, .int .i64 0, .int .i64 0, .bool false, .int .i64 0, .int .i64 0, .int .i64 0, .int .i64 0, .int .i64 0, .int .i64 0, .slice none 0 0, .int .i64 0, .int .i64 0, .slice none 0 0, .int .i64 0, .int .i64 0, .int .i64 0] j1 (by simp)
  have HX : Hid (Below w.heap.size w (setsW W2 w.heap.size 0 [.int .i64 3, .int .i64 0, .int .i64 0, .bool false, .int .i64 0, .int .i64 0, .int .i64 0, .int .i64 0, .int .i64 0, .int .i64 0, .slice none 0 0, .int .i64 0, .int .i64 0, .slice none 0 0, .int .i64 0, .int .i64 0, .int .i64 0])) := setsW_below (Nat.le_refl _) _ _ _ _ HB.out
  have HE : Hid (setsW W2 w.heap.size 0 [.int .i64 3, .int .i64 0, .int .i64 0, .bool false, .int .i64 0, .int .i64 0, .int .i64 0, .int .i64 0, .int .i64 0, .int .i64 0, .slice none 0 0, .int .i64 0, .int .i64 0, .slice none 0 0, .int .i64 0, .int .i64 0, .int .i64 0] = (((((((((((((((((W2.setCell ⟨w.heap.size, 0, none⟩ (.int .i64 3)).setCell ⟨w.heap.size, 1, none⟩ (.int .i64 0)).setCell ⟨w.heap.size, 2, none⟩ (.int .i64 0)).setCell ⟨w.heap.size, 3, none⟩ (.bool false)).setCell ⟨w.heap.size, 4, none⟩ (.int .i64 0)).setCell ⟨w.heap.size, 5, none⟩ (.int .i64 0)).setCell ⟨w.heap.size, 6, none⟩ (.int .i64 0)).setCell ⟨w.heap.size, 7, none⟩ (.int .i64 0)).setCell ⟨w.heap.size, 8, none⟩ (.int .i64 0)).setCell ⟨w.heap.size, 9, none⟩ (.int .i64 0)).setCell ⟨w.heap.size, 10, none⟩ (.slice none 0 0)).setCell ⟨w.heap.size, 11, none⟩ (.int .i64 0)).setCell ⟨w.heap.size, 12, none⟩ (.int .i64 0)).setCell ⟨w.heap.size, 13, none⟩ (.slice none 0 0)).setCell ⟨w.heap.size, 14, none⟩ (.int .i64 0)).setCell ⟨w.heap.size, 15, none⟩ (.int .i64 0)).setCell ⟨w.heap.size, 16, none⟩ (.int .i64 0))) := by show _ = _; simp only [setsW, Nat.reduceAdd]
  rw [← HE.out]
  clear HE j1 f1
  generalize setsW W2 w.heap.size 0 [.int .i64 3, .int .i64 0, .int .i64 0, .bool false, .int .i64 0, .int .i64 0, .int .i64 0, .int .i64 0, .int .i64 0, .int .i64 0, .slice none 0 0, .int .i64 0, .int .i64 0, .slice none 0 0, .int .i64 0, .int .i64 0, .int .i64 0] = X at *
  exact bodyPost_ret (v := .agg #[.int .i64 3, .int .i64 0, .int .i64 0, .bool false, .int .i64 0, .int .i64 0, .int .i64 0, .int .i64 0, .int .i64 0, .int .i64 0, .slice none 0 0, .int .i64 0, .int .i64 0, .slice none 0 0, .int .i64 0, .int .i64 0, .int .i64 0]) (by simp [results, Tryz.results58, go_sem, HJ]) rfl ⟨rfl, HX.out⟩
set_option maxHeartbeats 8000000 in
theorem iNewOk (p st : Int) (jn : Bool) (no nw : Int) (w : World) (g1 : inD p 0 2 = true) (g2 : inD no 0 1000000 = true) (g3 : inD nw 0 1000000 = true) (g4 : inD st 0 65535 = true) :
    Calls Tryz.prog 58 #[.int .i64 p, .int .i64 st, .bool jn, .int .i64 no, .int .i64 nw] w fun e w' => e = .returned (.agg #[.int .i64 0, .int .i64 p, .int .i64 1, .bool jn, .int .i64 no, .int .i64 0, .int .i64 nw, .int .i64 st, .int .i64 0, .int .i64 0, .slice none 0 0, .int .i64 0, .int .i64 0, .slice none 0 0, .int .i64 16, .int .i64 64, .int .i64 0]) ∧ Below w.heap.size w w' := by
  have HC : Hid (∀ W, Calls Tryz.prog 99 #[.int .i64 st] W fun e w' => e = .returned (.agg #[.int .i64 0, .int .i64 st, .int .i64 0, .int .i64 0, .slice none 0 0]) ∧ Below W.heap.size W w') := fun W => by have h := iStartSender st W; rw [if_pos g4, if_pos g4] at h; exact h
  have HK : Hid (∀ W, Calls Tryz.prog 101 #[.int .i64 16] W fun e w' => e = .returned (.agg #[.int .i64 0, .int .i64 16, .int .i64 64, .int .i64 0]) ∧ Below W.heap.size W w') := fun W => by have h := iStartControl 16 W; rw [if_pos (by decide), if_pos (by decide), if_pos (by decide)] at h; exact h
  have hg : (inD p 0 2 && inD no 0 1000000 && inD nw 0 1000000) = true := by simp [g1, g2, g3]
  go_enter Tryz.func58, Tryz.ntmps58
  go_wp2_with (go_at_call 96; refine (iMayBegin _ _ _ _).mono ?_; rintro e w' ⟨rfl, hw⟩; subst w')
  refine (HC.out _).mono ?_
  rintro e w1 ⟨rfl, hb⟩
  have j1 : ∀ o, w1.cell? ⟨w.heap.size, o, none⟩ = (#[.int .i64 0, .int .i64 0, .int .i64 0, .bool false, .int .i64 0, .int .i64 0, .int .i64 0, .int .i64 0, .int .i64 0, .int .i64 0, .slice none 0 0, .int .i64 0, .int .i64 0, .slice none 0 0, .int .i64 0, .int .i64 0, .int .i64 0] : Array Value)[o]? := bx_new hb
  have f1 : ∀ o, w1.frozen? ⟨w.heap.size, o, none⟩ = false := fun o => by rw [hb.frozen (p := ⟨w.heap.size, o, none⟩) (by simp)]; simp [go_sem]
  have z1 : w.heap.size < w1.heap.size := by have := hb.size; simp at this; omega
  have HB : Hid (Below w.heap.size w w1) := (bl_new hb).1
  clear hb HC
  have hf1 := fldC8
  have hf2 := fldK8
  go_wp2_with fail
  obtain ⟨W2, hW2⟩ : ∃ W2, W2 = w1.alloc (.cells #[.int .i64 0, .int .i64 st, .int .i64 0, .int .i64 0, .slice none 0 0] 151) := ⟨_, rfl⟩
  rw [← hW2]
  have hb2 : Below w1.heap.size w1 W2 := by rw [hW2]; exact (Below.refl _ _).alloc (Nat.le_refl _) _
  have x1 : W2.cell? ⟨w1.heap.size, 1, none⟩ = some (.int .i64 st) := by rw [hW2]; simp [go_sem]
  have x2 : W2.cell? ⟨w1.heap.size, 2, none⟩ = some (.int .i64 0) := by rw [hW2]; simp [go_sem]
  have x3 : W2.cell? ⟨w1.heap.size, 3, none⟩ = some (.int .i64 0) := by rw [hW2]; simp [go_sem]
  have x4 : W2.cell? ⟨w1.heap.size, 4, none⟩ = some (.slice none 0 0) := by rw [hW2]; simp [go_sem]
  have zX : w1.heap.size < W2.heap.size := by rw [hW2]; simp
  replace j1 := bx_below j1 z1 hb2
  replace f1 := bxF f1 hb2 z1
  replace HB : Hid (Below w.heap.size w W2) := HB.out.trans (hb2.mono HB.out.size)
  have hn : w.heap.size ≠ w1.heap.size := by omega
  have hn' : w1.heap.size ≠ w.heap.size := by omega
  replace z1 : w.heap.size < W2.heap.size := by omega
  clear hW2 hb2
  generalize w1.heap.size = XB at *
  go_region_held3 (fun w' => w'.cell? ⟨XB, 1, none⟩ = some (.int .i64 st) ∧ w'.cell? ⟨XB, 2, none⟩ = some (.int .i64 0) ∧ w'.cell? ⟨XB, 3, none⟩ = some (.int .i64 0) ∧ w'.cell? ⟨XB, 4, none⟩ = some (.slice none 0 0)) (first | go_keep)
    (first | (go_at_call 100; refine (iStartCatchN _).mono ?_; rintro e wz ⟨rfl, hb⟩; (first | (replace hb := bl_drew hb) | skip); replace j1 := bx_below j1 z1 hb; replace f1 := bxF f1 hb z1; replace x1 := (hb.cell (p := ⟨XB, 1, none⟩) zX).trans x1; replace x2 := (hb.cell (p := ⟨XB, 2, none⟩) zX).trans x2; replace x3 := (hb.cell (p := ⟨XB, 3, none⟩) zX).trans x3; replace x4 := (hb.cell (p := ⟨XB, 4, none⟩) zX).trans x4; replace HB : Hid _ := HB.out.trans (hb.mono HB.out.size); replace z1 := Nat.lt_of_lt_of_le z1 hb.size; replace zX := Nat.lt_of_lt_of_le zX hb.size; clear hb) | (go_at_call 101; refine (HK.out _).mono ?_; rintro e wz ⟨rfl, hb⟩; (first | (replace hb := bl_drew hb) | skip); replace j1 := bx_below j1 z1 hb; replace f1 := bxF f1 hb z1; replace x1 := (hb.cell (p := ⟨XB, 1, none⟩) zX).trans x1; replace x2 := (hb.cell (p := ⟨XB, 2, none⟩) zX).trans x2; replace x3 := (hb.cell (p := ⟨XB, 3, none⟩) zX).trans x3; replace x4 := (hb.cell (p := ⟨XB, 4, none⟩) zX).trans x4; replace HB : Hid _ := HB.out.trans (hb.mono HB.out.size); replace z1 := Nat.lt_of_lt_of_le z1 hb.size; replace zX := Nat.lt_of_lt_of_le zX hb.size; clear hb))
  all_goals (go_wp2_with fail)
  all_goals (
    have HJ := setsW_all (w := wz) [.int .i64 0, .int .i64 p, .int .i64 1, .bool jn, .int .i64 no, .int .i64 0, .int .i64 nw, .int .i64 st, .int .i64 0, .int .i64 0, .slice none 0 0, .int .i64 0, .int .i64 0, .slice none 0 0, .int .i64 16, .int .i64 64, .int .i64 0] j1 (by simp)
    have HX : Hid (Below w.heap.size w (setsW wz w.heap.size 0 [.int .i64 0, .int .i64 p, .int .i64 1, .bool jn, .int .i64 no, .int .i64 0, .int .i64 nw, .int .i64 st, .int .i64 0, .int .i64 0, .slice none 0 0, .int .i64 0, .int .i64 0, .slice none 0 0, .int .i64 16, .int .i64 64, .int .i64 0])) := setsW_below (Nat.le_refl _) _ _ _ _ HB.out
    have HE : Hid (setsW wz w.heap.size 0 [.int .i64 0, .int .i64 p, .int .i64 1, .bool jn, .int .i64 no, .int .i64 0, .int .i64 nw, .int .i64 st, .int .i64 0, .int .i64 0, .slice none 0 0, .int .i64 0, .int .i64 0, .slice none 0 0, .int .i64 16, .int .i64 64, .int .i64 0] = (((((((((((((((((wz.setCell ⟨w.heap.size, 0, none⟩ (.int .i64 0)).setCell ⟨w.heap.size, 1, none⟩ (.int .i64 p)).setCell ⟨w.heap.size, 2, none⟩ (.int .i64 1)).setCell ⟨w.heap.size, 3, none⟩ (.bool jn)).setCell ⟨w.heap.size, 4, none⟩ (.int .i64 no)).setCell ⟨w.heap.size, 5, none⟩ (.int .i64 0)).setCell ⟨w.heap.size, 6, none⟩ (.int .i64 nw)).setCell ⟨w.heap.size, 7, none⟩ (.int .i64 st)).setCell ⟨w.heap.size, 8, none⟩ (.int .i64 0)).setCell ⟨w.heap.size, 9, none⟩ (.int .i64 0)).setCell ⟨w.heap.size, 10, none⟩ (.slice none 0 0)).setCell ⟨w.heap.size, 11, none⟩ (.int .i64 0)).setCell ⟨w.heap.size, 12, none⟩ (.int .i64 0)).setCell ⟨w.heap.size, 13, none⟩ (.slice none 0 0)).setCell ⟨w.heap.size, 14, none⟩ (.int .i64 16)).setCell ⟨w.heap.size, 15, none⟩ (.int .i64 64)).setCell ⟨w.heap.size, 16, none⟩ (.int .i64 0))) := (by show _ = _; simp only [setsW, Nat.reduceAdd])
    rw [← HE.out]
    clear HE j1 f1
    generalize setsW wz w.heap.size 0 [.int .i64 0, .int .i64 p, .int .i64 1, .bool jn, .int .i64 no, .int .i64 0, .int .i64 nw, .int .i64 st, .int .i64 0, .int .i64 0, .slice none 0 0, .int .i64 0, .int .i64 0, .slice none 0 0, .int .i64 16, .int .i64 64, .int .i64 0] = X at *
    exact bodyPost_ret (v := .agg #[.int .i64 0, .int .i64 p, .int .i64 1, .bool jn, .int .i64 no, .int .i64 0, .int .i64 nw, .int .i64 st, .int .i64 0, .int .i64 0, .slice none 0 0, .int .i64 0, .int .i64 0, .slice none 0 0, .int .i64 16, .int .i64 64, .int .i64 0]) (by simp [results, Tryz.results58, go_sem, HJ]) rfl ⟨rfl, HX.out⟩)
end Go.Proofs.YtbdibjeemgkdaaaGreatDoor
