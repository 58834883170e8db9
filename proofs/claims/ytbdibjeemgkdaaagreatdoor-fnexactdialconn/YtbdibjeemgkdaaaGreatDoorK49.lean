/- Whether a path may be asked for, where it begins and how it is asked for, by program and model; nothing that was in memory turns; no condition. Written by mkdial.py. -/
import Derived.Test.YtbdibjeemgkdaaaGreatDoorRows
import Derived.Deep.RegionHeld3
import Derived.Deep.DeepCutAuto
import Derived.Deep.DeepMust
import Derived.Deep.MidRow
import Derived.Test.YtbdibjeemgkdaaaGreatDoorK01
import Derived.Test.YtbdibjeemgkdaaaGreatDoorK02
import Derived.Test.YtbdibjeemgkdaaaGreatDoorK03
import Derived.Test.YtbdibjeemgkdaaaGreatDoorK04
import Derived.Test.YtbdibjeemgkdaaaGreatDoorK05
import Derived.Test.YtbdibjeemgkdaaaGreatDoorK06
import Derived.Test.YtbdibjeemgkdaaaGreatDoorK09
import Derived.Test.YtbdibjeemgkdaaaGreatDoorK10
import Derived.Test.YtbdibjeemgkdaaaGreatDoorK11
import Derived.Test.YtbdibjeemgkdaaaGreatDoorK12
import Derived.Test.YtbdibjeemgkdaaaGreatDoorK13
import Derived.Test.YtbdibjeemgkdaaaGreatDoorK14
import Derived.Test.YtbdibjeemgkdaaaGreatDoorK15
import Derived.Test.YtbdibjeemgkdaaaGreatDoorK16
import Derived.Test.YtbdibjeemgkdaaaGreatDoorK20
import Derived.Test.YtbdibjeemgkdaaaGreatDoorK21
import Derived.Test.YtbdibjeemgkdaaaGreatDoorK25
import Derived.Test.YtbdibjeemgkdaaaGreatDoorK48
namespace Go.Proofs.YtbdibjeemgkdaaaGreatDoor
open Go.RowKit
set_option linter.unusedVariables false
set_option maxRecDepth 8000

set_option maxHeartbeats 1000000 in
theorem iMayJoin (A : Array Value) (pl : Bool) (pe st : Int) (b off n cap : Nat) (w : World) (x2 : A[2]? = some (.int .i64 pe)) (x3 : A[3]? = some (.bool pl)) (x13 : A[13]? = some (.slice (some ⟨b, off, none⟩) n cap)) (hn : 0 < n) (hm : n ≤ 1048576) (hb : b < w.heap.size) (q1 : w.cell? ⟨b, off + 1, none⟩ = some (.int .i64 st)) :
    Calls Tryz.prog 97 #[.agg A] w fun e w' => e = .returned (.bool ((!pl && decide (pe ≠ 0)) && decide (st = 3))) ∧ Below w.heap.size w w' := by
  have hb0 := hb
  clear hb
  have hnI : (0 : Int) < (n : Int) := by omega
  cases pl
  case true =>
    show Calls _ _ _ _ fun e w' => e = .returned (.bool false) ∧ _
    have HWA : Hid (Below w.heap.size w (w.alloc (.cells A 35)) ∧ (w.alloc (.cells A 35)).heap.size = w.heap.size + 1 ∧ (∀ o, (w.alloc (.cells A 35)).cell? ⟨w.heap.size, o, none⟩ = (A : Array Value)[o]?)) := ⟨((Below.refl _ _).alloc (Nat.le_refl _) _), by simp, fun o => by simp [go_sem]⟩
    go_enter Tryz.func97, Tryz.ntmps97
    go_upto_region 1 with fail
    generalize hWW : (w.alloc (.cells A 35)) = W1 at HWA ⊢
    clear hWW
    obtain ⟨hb, hsz, kA⟩ := HWA.out
    clear HWA
    have HB : Hid (Below w.heap.size w W1) := hb
    have zA : w.heap.size < W1.heap.size := by omega
    clear hb hsz
    have y1 : W1.cell? ⟨b, off + 1, none⟩ = some (.int .i64 st) := (HB.out.cell (p := ⟨b, off + 1, none⟩) hb0).trans q1
    go_wp2_with fail
    go_ret
    exact ⟨rfl, HB.out⟩
  by_cases h2 : pe = 0
  case pos =>
    have e : ((!false && decide (pe ≠ 0)) && decide (st = 3)) = false := by simp [h2]
    rw [e]
    have h2' : (pe != 0) = false := by simp [h2]
    clear e h2
    have HWA : Hid (Below w.heap.size w (w.alloc (.cells A 35)) ∧ (w.alloc (.cells A 35)).heap.size = w.heap.size + 1 ∧ (∀ o, (w.alloc (.cells A 35)).cell? ⟨w.heap.size, o, none⟩ = (A : Array Value)[o]?)) := ⟨((Below.refl _ _).alloc (Nat.le_refl _) _), by simp, fun o => by simp [go_sem]⟩
    go_enter Tryz.func97, Tryz.ntmps97
    go_upto_region 1 with fail
    generalize hWW : (w.alloc (.cells A 35)) = W1 at HWA ⊢
    clear hWW
    obtain ⟨hb, hsz, kA⟩ := HWA.out
    clear HWA
    have HB : Hid (Below w.heap.size w W1) := hb
    have zA : w.heap.size < W1.heap.size := by omega
    clear hb hsz
    have y1 : W1.cell? ⟨b, off + 1, none⟩ = some (.int .i64 st) := (HB.out.cell (p := ⟨b, off + 1, none⟩) hb0).trans q1
    go_wp2_with fail
    go_ret
    exact ⟨rfl, HB.out⟩
  have h2' : (pe != 0) = true := by simp [h2]
  by_cases h3 : st = 3
  case pos =>
    have e : ((!false && decide (pe ≠ 0)) && decide (st = 3)) = true := by simp [h2, h3]
    rw [e]
    have h3' : (st == 3) = true := by simp [h3]
    clear e h2 h3
    have HWA : Hid (Below w.heap.size w (w.alloc (.cells A 35)) ∧ (w.alloc (.cells A 35)).heap.size = w.heap.size + 1 ∧ (∀ o, (w.alloc (.cells A 35)).cell? ⟨w.heap.size, o, none⟩ = (A : Array Value)[o]?)) := ⟨((Below.refl _ _).alloc (Nat.le_refl _) _), by simp, fun o => by simp [go_sem]⟩
    go_enter Tryz.func97, Tryz.ntmps97
    go_upto_region 1 with fail
    generalize hWW : (w.alloc (.cells A 35)) = W1 at HWA ⊢
    clear hWW
    obtain ⟨hb, hsz, kA⟩ := HWA.out
    clear HWA
    have HB : Hid (Below w.heap.size w W1) := hb
    have zA : w.heap.size < W1.heap.size := by omega
    clear hb hsz
    have y1 : W1.cell? ⟨b, off + 1, none⟩ = some (.int .i64 st) := (HB.out.cell (p := ⟨b, off + 1, none⟩) hb0).trans q1
    go_wp2_with fail
    go_ret
    exact ⟨rfl, HB.out⟩
  case neg =>
    have e : ((!false && decide (pe ≠ 0)) && decide (st = 3)) = false := by simp [h2, h3]
    rw [e]
    have h3' : (st == 3) = false := by simp [h3]
    clear e h2 h3
    have HWA : Hid (Below w.heap.size w (w.alloc (.cells A 35)) ∧ (w.alloc (.cells A 35)).heap.size = w.heap.size + 1 ∧ (∀ o, (w.alloc (.cells A 35)).cell? ⟨w.heap.size, o, none⟩ = (A : Array Value)[o]?)) := ⟨((Below.refl _ _).alloc (Nat.le_refl _) _), by simp, fun o => by simp [go_sem]⟩
    go_enter Tryz.func97, Tryz.ntmps97
    go_upto_region 1 with fail
    generalize hWW : (w.alloc (.cells A 35)) = W1 at HWA ⊢
    clear hWW
    obtain ⟨hb, hsz, kA⟩ := HWA.out
    clear HWA
    have HB : Hid (Below w.heap.size w W1) := hb
    have zA : w.heap.size < W1.heap.size := by omega
    clear hb hsz
    have y1 : W1.cell? ⟨b, off + 1, none⟩ = some (.int .i64 st) := (HB.out.cell (p := ⟨b, off + 1, none⟩) hb0).trans q1
    go_wp2_with fail
    go_ret
    exact ⟨rfl, HB.out⟩
theorem iHasPathD (a : Option Addr) (n cap : Nat) (p PL : Int) (w : World) (h : Calls Tryz.prog 50 #[.slice a n cap, .int .i64 p] w fun e w' => e = .returned (.int .i64 PL) ∧ Below w.heap.size w w') :
    Calls Tryz.prog 98 #[.slice a n cap, .int .i64 p] w fun e w' => e = .returned (.bool (decide (0 ≤ PL))) ∧ Below w.heap.size w w' := by
  go_enter Tryz.func98, Tryz.ntmps98
  go_wp2_with fail
  refine h.mono ?_
  rintro e w1 ⟨rfl, hb⟩
  go_wp2_with fail
  go_ret
  exact ⟨rfl, hb⟩
set_option maxHeartbeats 2000000 in
theorem iMayDial (A : Array Value) (p no nw C sd PL : Int) (MB MJ : Bool) (a13 : Option Addr) (n cap : Nat) (w : World) (hA : A.size = 14) (x0 : A[0]? = some (.int .i64 sd)) (x13 : A[13]? = some (.slice a13 n cap)) (hm : n ≤ 1048576) (hF : ∀ W, Below w.heap.size w W → Calls Tryz.prog 86 #[.agg A] W fun e w' => e = .returned (.int .i64 C) ∧ Below W.heap.size W w') (hMB : (inD p 0 2 && inD no 0 1000000 && inD nw 0 1000000) = MB) (hJ : 0 < n → ∀ W, Below w.heap.size w W → Calls Tryz.prog 97 #[.agg A] W fun e w' => e = .returned (.bool MJ) ∧ Below W.heap.size W w') (hH : ∀ W, Below w.heap.size w W → Calls Tryz.prog 98 #[.slice a13 n cap, .int .i64 p] W fun e w' => e = .returned (.bool (decide (0 ≤ PL))) ∧ Below W.heap.size W w') :
    Calls Tryz.prog 57 #[.agg A, .int .i64 p, .int .i64 no, .int .i64 nw] w fun e w' => e = .returned (if C = 0 then (if MB = true then (if sd = 0 ∧ (n = 0 ∨ MJ = true) then (if PL < 0 then .nilIface else .iface 128 (.agg #[.int .i64 7])) else .iface 128 (.agg #[.int .i64 10])) else .iface 128 (.agg #[.int .i64 3])) else .iface 128 (.agg #[.int .i64 C])) ∧ Below w.heap.size w w' := by
  have HI : Hid ((Tryz.prog.info? 35).map (·.size) = some A.toList.length) := by show _ = _; rw [Array.length_toList, hA]; exact (by kernel_rfl : (Tryz.prog.info? 35).map (·.size) = some 14)
  have HF : Hid _ := hF
  have HJ : Hid _ := hJ
  have HH : Hid _ := hH
  have HMB : Hid (∀ W, Calls Tryz.prog 96 #[.int .i64 p, .int .i64 no, .int .i64 nw] W fun e w' => e = .returned (.bool MB) ∧ w' = W) := fun W => by have h := iMayBegin p no nw W; rw [hMB] at h; exact h
  clear hA hF hJ hH hMB
  by_cases hC : C = 0
  case neg =>
    rw [if_neg hC]
    have hC' : (C != 0) = true := by simp [hC]
    clear hC
    have HWA : Hid (Below w.heap.size w (w.alloc (.cells A 35)) ∧ (w.alloc (.cells A 35)).heap.size = w.heap.size + 1 ∧ (∀ o, (w.alloc (.cells A 35)).cell? ⟨w.heap.size, o, none⟩ = (A : Array Value)[o]?)) := ⟨((Below.refl _ _).alloc (Nat.le_refl _) _), by simp, fun o => by simp [go_sem]⟩
    go_enter Tryz.func57, Tryz.ntmps57
    go_upto_region 1 with fail
    generalize hWW : (w.alloc (.cells A 35)) = W1 at HWA ⊢
    clear hWW
    obtain ⟨hb, hsz, kA⟩ := HWA.out
    clear HWA
    have HB : Hid (Below w.heap.size w W1) := hb
    have zA : w.heap.size < W1.heap.size := by omega
    clear hb hsz
    go_wp2_with (first | (refine wpList_load_mid rfl 35 _ rfl _ _ (by rfl) A.toList _ (bx_range kA) Tryz.underlying35 rfl HI.out ?_))
    refine (HF.out _ HB.out).mono ?_
    rintro e W2 ⟨rfl, hb⟩
    replace kA := bx_below kA zA hb
    replace zA := Nat.lt_of_lt_of_le zA hb.size
    replace HB : Hid (Below w.heap.size w W2) := HB.out.trans (hb.mono HB.out.size)
    clear hb
    clear HF
    go_wp2_with fail
    go_ret
    exact ⟨rfl, HB.out⟩
  rw [if_pos hC]
  subst hC
  cases MB
  case false =>
    rw [if_neg (by simp)]
    have HWA : Hid (Below w.heap.size w (w.alloc (.cells A 35)) ∧ (w.alloc (.cells A 35)).heap.size = w.heap.size + 1 ∧ (∀ o, (w.alloc (.cells A 35)).cell? ⟨w.heap.size, o, none⟩ = (A : Array Value)[o]?)) := ⟨((Below.refl _ _).alloc (Nat.le_refl _) _), by simp, fun o => by simp [go_sem]⟩
    go_enter Tryz.func57, Tryz.ntmps57
    go_upto_region 1 with fail
    generalize hWW : (w.alloc (.cells A 35)) = W1 at HWA ⊢
    clear hWW
    obtain ⟨hb, hsz, kA⟩ := HWA.out
    clear HWA
    have HB : Hid (Below w.heap.size w W1) := hb
    have zA : w.heap.size < W1.heap.size := by omega
    clear hb hsz
    go_wp2_with (first | (refine wpList_load_mid rfl 35 _ rfl _ _ (by rfl) A.toList _ (bx_range kA) Tryz.underlying35 rfl HI.out ?_))
    refine (HF.out _ HB.out).mono ?_
    rintro e W2 ⟨rfl, hb⟩
    replace kA := bx_below kA zA hb
    replace zA := Nat.lt_of_lt_of_le zA hb.size
    replace HB : Hid (Below w.heap.size w W2) := HB.out.trans (hb.mono HB.out.size)
    clear hb
    clear HF
    go_wp2_with fail
    refine (HMB.out _).mono ?_
    rintro e w' ⟨rfl, hw⟩
    subst w'
    clear HMB
    go_wp2_with fail
    go_ret
    exact ⟨rfl, HB.out⟩
  rw [if_pos rfl]
  by_cases hs : sd = 0
  case neg =>
    rw [if_neg (fun h => hs h.1)]
    have hs' : (sd != 0) = true := by simp [hs]
    clear hs
    have HWA : Hid (Below w.heap.size w (w.alloc (.cells A 35)) ∧ (w.alloc (.cells A 35)).heap.size = w.heap.size + 1 ∧ (∀ o, (w.alloc (.cells A 35)).cell? ⟨w.heap.size, o, none⟩ = (A : Array Value)[o]?)) := ⟨((Below.refl _ _).alloc (Nat.le_refl _) _), by simp, fun o => by simp [go_sem]⟩
    go_enter Tryz.func57, Tryz.ntmps57
    go_upto_region 1 with fail
    generalize hWW : (w.alloc (.cells A 35)) = W1 at HWA ⊢
    clear hWW
    obtain ⟨hb, hsz, kA⟩ := HWA.out
    clear HWA
    have HB : Hid (Below w.heap.size w W1) := hb
    have zA : w.heap.size < W1.heap.size := by omega
    clear hb hsz
    go_wp2_with (first | (refine wpList_load_mid rfl 35 _ rfl _ _ (by rfl) A.toList _ (bx_range kA) Tryz.underlying35 rfl HI.out ?_))
    refine (HF.out _ HB.out).mono ?_
    rintro e W2 ⟨rfl, hb⟩
    replace kA := bx_below kA zA hb
    replace zA := Nat.lt_of_lt_of_le zA hb.size
    replace HB : Hid (Below w.heap.size w W2) := HB.out.trans (hb.mono HB.out.size)
    clear hb
    clear HF
    go_wp2_with fail
    refine (HMB.out _).mono ?_
    rintro e w' ⟨rfl, hw⟩
    subst w'
    clear HMB
    go_wp2_with fail
    go_ret
    exact ⟨rfl, HB.out⟩
  have hs' : (sd != 0) = false := by simp [hs]
  by_cases hn0 : 0 < n
  case neg =>
    rw [if_pos ⟨hs, Or.inl (by omega)⟩]
    have hn1 : ¬ ((0 : Int) < (n : Int)) := by omega
    have hn2 : decide ((0 : Int) < (n : Int)) = false := decide_eq_false hn1
    have hn3 : decide (0 < n) = false := decide_eq_false hn0
    by_cases hp : PL < 0
    case pos =>
      rw [if_pos hp]
      have hp' : decide (0 ≤ PL) = false := decide_eq_false (by omega)
      clear hs hp
      have HWA : Hid (Below w.heap.size w (w.alloc (.cells A 35)) ∧ (w.alloc (.cells A 35)).heap.size = w.heap.size + 1 ∧ (∀ o, (w.alloc (.cells A 35)).cell? ⟨w.heap.size, o, none⟩ = (A : Array Value)[o]?)) := ⟨((Below.refl _ _).alloc (Nat.le_refl _) _), by simp, fun o => by simp [go_sem]⟩
      go_enter Tryz.func57, Tryz.ntmps57
      go_upto_region 1 with fail
      generalize hWW : (w.alloc (.cells A 35)) = W1 at HWA ⊢
      clear hWW
      obtain ⟨hb, hsz, kA⟩ := HWA.out
      clear HWA
      have HB : Hid (Below w.heap.size w W1) := hb
      have zA : w.heap.size < W1.heap.size := by omega
      clear hb hsz
      go_wp2_with (first | (refine wpList_load_mid rfl 35 _ rfl _ _ (by rfl) A.toList _ (bx_range kA) Tryz.underlying35 rfl HI.out ?_))
      refine (HF.out _ HB.out).mono ?_
      rintro e W2 ⟨rfl, hb⟩
      replace kA := bx_below kA zA hb
      replace zA := Nat.lt_of_lt_of_le zA hb.size
      replace HB : Hid (Below w.heap.size w W2) := HB.out.trans (hb.mono HB.out.size)
      clear hb
      clear HF
      go_wp2_with fail
      refine (HMB.out _).mono ?_
      rintro e w' ⟨rfl, hw⟩
      subst w'
      clear HMB
      go_wp2_with fail
      refine (HH.out _ HB.out).mono ?_
      rintro e W4 ⟨rfl, hb⟩
      replace kA := bx_below kA zA hb
      replace zA := Nat.lt_of_lt_of_le zA hb.size
      replace HB : Hid (Below w.heap.size w W4) := HB.out.trans (hb.mono HB.out.size)
      clear hb
      go_wp2_with fail
      go_ret
      exact ⟨rfl, HB.out⟩
    case neg =>
      rw [if_neg hp]
      have hp' : decide (0 ≤ PL) = true := decide_eq_true (by omega)
      clear hs hp
      have HWA : Hid (Below w.heap.size w (w.alloc (.cells A 35)) ∧ (w.alloc (.cells A 35)).heap.size = w.heap.size + 1 ∧ (∀ o, (w.alloc (.cells A 35)).cell? ⟨w.heap.size, o, none⟩ = (A : Array Value)[o]?)) := ⟨((Below.refl _ _).alloc (Nat.le_refl _) _), by simp, fun o => by simp [go_sem]⟩
      go_enter Tryz.func57, Tryz.ntmps57
      go_upto_region 1 with fail
      generalize hWW : (w.alloc (.cells A 35)) = W1 at HWA ⊢
      clear hWW
      obtain ⟨hb, hsz, kA⟩ := HWA.out
      clear HWA
      have HB : Hid (Below w.heap.size w W1) := hb
      have zA : w.heap.size < W1.heap.size := by omega
      clear hb hsz
      go_wp2_with (first | (refine wpList_load_mid rfl 35 _ rfl _ _ (by rfl) A.toList _ (bx_range kA) Tryz.underlying35 rfl HI.out ?_))
      refine (HF.out _ HB.out).mono ?_
      rintro e W2 ⟨rfl, hb⟩
      replace kA := bx_below kA zA hb
      replace zA := Nat.lt_of_lt_of_le zA hb.size
      replace HB : Hid (Below w.heap.size w W2) := HB.out.trans (hb.mono HB.out.size)
      clear hb
      clear HF
      go_wp2_with fail
      refine (HMB.out _).mono ?_
      rintro e w' ⟨rfl, hw⟩
      subst w'
      clear HMB
      go_wp2_with fail
      refine (HH.out _ HB.out).mono ?_
      rintro e W4 ⟨rfl, hb⟩
      replace kA := bx_below kA zA hb
      replace zA := Nat.lt_of_lt_of_le zA hb.size
      replace HB : Hid (Below w.heap.size w W4) := HB.out.trans (hb.mono HB.out.size)
      clear hb
      go_wp2_with fail
      go_ret
      exact ⟨rfl, HB.out⟩
  have hn1 : (0 : Int) < (n : Int) := by omega
  have hn2 : decide ((0 : Int) < (n : Int)) = true := decide_eq_true hn1
  have hn3 : decide (0 < n) = true := decide_eq_true hn0
  cases MJ
  case false =>
    rw [if_neg (by rintro ⟨-, h | h⟩; omega; cases h)]
    clear hs
    have HWA : Hid (Below w.heap.size w (w.alloc (.cells A 35)) ∧ (w.alloc (.cells A 35)).heap.size = w.heap.size + 1 ∧ (∀ o, (w.alloc (.cells A 35)).cell? ⟨w.heap.size, o, none⟩ = (A : Array Value)[o]?)) := ⟨((Below.refl _ _).alloc (Nat.le_refl _) _), by simp, fun o => by simp [go_sem]⟩
    go_enter Tryz.func57, Tryz.ntmps57
    go_upto_region 1 with fail
    generalize hWW : (w.alloc (.cells A 35)) = W1 at HWA ⊢
    clear hWW
    obtain ⟨hb, hsz, kA⟩ := HWA.out
    clear HWA
    have HB : Hid (Below w.heap.size w W1) := hb
    have zA : w.heap.size < W1.heap.size := by omega
    clear hb hsz
    go_wp2_with (first | (refine wpList_load_mid rfl 35 _ rfl _ _ (by rfl) A.toList _ (bx_range kA) Tryz.underlying35 rfl HI.out ?_))
    refine (HF.out _ HB.out).mono ?_
    rintro e W2 ⟨rfl, hb⟩
    replace kA := bx_below kA zA hb
    replace zA := Nat.lt_of_lt_of_le zA hb.size
    replace HB : Hid (Below w.heap.size w W2) := HB.out.trans (hb.mono HB.out.size)
    clear hb
    clear HF
    go_wp2_with fail
    refine (HMB.out _).mono ?_
    rintro e w' ⟨rfl, hw⟩
    subst w'
    clear HMB
    go_upto_region 7 with (first | (refine Go.BigFrame.wpList_want (by rfl) fun KK hKK => wp_load_mid 35 _ rfl _ _ (by rfl) A.toList _ (bx_range kA) Tryz.underlying35 rfl HI.out (hKK _ _ ?_); clear hKK KK) | (refine wpList_load_mid rfl 35 _ rfl _ _ (by rfl) A.toList _ (bx_range kA) Tryz.underlying35 rfl HI.out ?_) | (go_at_call 97; refine (HJ.out hn0 _ HB.out).mono ?_; rintro e W3 ⟨rfl, hb⟩; replace kA := bx_below kA zA hb; replace zA := Nat.lt_of_lt_of_le zA hb.size; replace HB : Hid (Below w.heap.size w W3) := HB.out.trans (hb.mono HB.out.size); clear hb))
    go_wp2_with fail
    go_ret
    exact ⟨rfl, HB.out⟩
  rw [if_pos ⟨hs, Or.inr rfl⟩]
  by_cases hp : PL < 0
  case pos =>
    rw [if_pos hp]
    have hp' : decide (0 ≤ PL) = false := decide_eq_false (by omega)
    clear hs hp
    have HWA : Hid (Below w.heap.size w (w.alloc (.cells A 35)) ∧ (w.alloc (.cells A 35)).heap.size = w.heap.size + 1 ∧ (∀ o, (w.alloc (.cells A 35)).cell? ⟨w.heap.size, o, none⟩ = (A : Array Value)[o]?)) := ⟨((Below.refl _ _).alloc (Nat.le_refl _) _), by simp, fun o => by simp [go_sem]⟩
    go_enter Tryz.func57, Tryz.ntmps57
    go_upto_region 1 with fail
    generalize hWW : (w.alloc (.cells A 35)) = W1 at HWA ⊢
    clear hWW
    obtain ⟨hb, hsz, kA⟩ := HWA.out
    clear HWA
    have HB : Hid (Below w.heap.size w W1) := hb
    have zA : w.heap.size < W1.heap.size := by omega
    clear hb hsz
    go_wp2_with (first | (refine wpList_load_mid rfl 35 _ rfl _ _ (by rfl) A.toList _ (bx_range kA) Tryz.underlying35 rfl HI.out ?_))
    refine (HF.out _ HB.out).mono ?_
    rintro e W2 ⟨rfl, hb⟩
    replace kA := bx_below kA zA hb
    replace zA := Nat.lt_of_lt_of_le zA hb.size
    replace HB : Hid (Below w.heap.size w W2) := HB.out.trans (hb.mono HB.out.size)
    clear hb
    clear HF
    go_wp2_with fail
    refine (HMB.out _).mono ?_
    rintro e w' ⟨rfl, hw⟩
    subst w'
    clear HMB
    go_upto_region 8 with (first | (refine Go.BigFrame.wpList_want (by rfl) fun KK hKK => wp_load_mid 35 _ rfl _ _ (by rfl) A.toList _ (bx_range kA) Tryz.underlying35 rfl HI.out (hKK _ _ ?_); clear hKK KK) | (refine wpList_load_mid rfl 35 _ rfl _ _ (by rfl) A.toList _ (bx_range kA) Tryz.underlying35 rfl HI.out ?_) | (go_at_call 97; refine (HJ.out hn0 _ HB.out).mono ?_; rintro e W3 ⟨rfl, hb⟩; replace kA := bx_below kA zA hb; replace zA := Nat.lt_of_lt_of_le zA hb.size; replace HB : Hid (Below w.heap.size w W3) := HB.out.trans (hb.mono HB.out.size); clear hb))
    go_wp2_with fail
    refine (HH.out _ HB.out).mono ?_
    rintro e W4 ⟨rfl, hb⟩
    replace kA := bx_below kA zA hb
    replace zA := Nat.lt_of_lt_of_le zA hb.size
    replace HB : Hid (Below w.heap.size w W4) := HB.out.trans (hb.mono HB.out.size)
    clear hb
    go_wp2_with fail
    go_ret
    exact ⟨rfl, HB.out⟩
  case neg =>
    rw [if_neg hp]
    have hp' : decide (0 ≤ PL) = true := decide_eq_true (by omega)
    clear hs hp
    have HWA : Hid (Below w.heap.size w (w.alloc (.cells A 35)) ∧ (w.alloc (.cells A 35)).heap.size = w.heap.size + 1 ∧ (∀ o, (w.alloc (.cells A 35)).cell? ⟨w.heap.size, o, none⟩ = (A : Array Value)[o]?)) := ⟨((Below.refl _ _).alloc (Nat.le_refl _) _), by simp, fun o => by simp [go_sem]⟩
    go_enter Tryz.func57, Tryz.ntmps57
    go_upto_region 1 with fail
    generalize hWW : (w.alloc (.cells A 35)) = W1 at HWA ⊢
    clear hWW
    obtain ⟨hb, hsz, kA⟩ := HWA.out
    clear HWA
    have HB : Hid (Below w.heap.size w W1) := hb
    have zA : w.heap.size < W1.heap.size := by omega
    clear hb hsz
    go_wp2_with (first | (refine wpList_load_mid rfl 35 _ rfl _ _ (by rfl) A.toList _ (bx_range kA) Tryz.underlying35 rfl HI.out ?_))
    refine (HF.out _ HB.out).mono ?_
    rintro e W2 ⟨rfl, hb⟩
    replace kA := bx_below kA zA hb
    replace zA := Nat.lt_of_lt_of_le zA hb.size
    replace HB : Hid (Below w.heap.size w W2) := HB.out.trans (hb.mono HB.out.size)
    clear hb
    clear HF
    go_wp2_with fail
    refine (HMB.out _).mono ?_
    rintro e w' ⟨rfl, hw⟩
    subst w'
    clear HMB
    go_upto_region 8 with (first | (refine Go.BigFrame.wpList_want (by rfl) fun KK hKK => wp_load_mid 35 _ rfl _ _ (by rfl) A.toList _ (bx_range kA) Tryz.underlying35 rfl HI.out (hKK _ _ ?_); clear hKK KK) | (refine wpList_load_mid rfl 35 _ rfl _ _ (by rfl) A.toList _ (bx_range kA) Tryz.underlying35 rfl HI.out ?_) | (go_at_call 97; refine (HJ.out hn0 _ HB.out).mono ?_; rintro e W3 ⟨rfl, hb⟩; replace kA := bx_below kA zA hb; replace zA := Nat.lt_of_lt_of_le zA hb.size; replace HB : Hid (Below w.heap.size w W3) := HB.out.trans (hb.mono HB.out.size); clear hb))
    go_wp2_with fail
    refine (HH.out _ HB.out).mono ?_
    rintro e W4 ⟨rfl, hb⟩
    replace kA := bx_below kA zA hb
    replace zA := Nat.lt_of_lt_of_le zA hb.size
    replace HB : Hid (Below w.heap.size w W4) := HB.out.trans (hb.mono HB.out.size)
    clear hb
    go_wp2_with fail
    go_ret
    exact ⟨rfl, HB.out⟩
end Go.Proofs.YtbdibjeemgkdaaaGreatDoor
