/- DialConn of the model; the answer owns its memory; nothing that was in memory turns; no condition but that there are at most a million parts. Written by mkdial4.py. -/
import Derived.Test.YtbdibjeemgkdaaaGreatDoorRows
import Derived.Deep.RegionHeld3
import Derived.Deep.DeepCutAuto
import Derived.Deep.DeepMust
import Derived.Deep.CutRange
import Derived.Deep.MidRow
import Derived.Test.YtbdibjeemgkdaaaGreatDoorK01
import Derived.Test.YtbdibjeemgkdaaaGreatDoorK02
import Derived.Test.YtbdibjeemgkdaaaGreatDoorK03
import Derived.Test.YtbdibjeemgkdaaaGreatDoorK04
import Derived.Test.YtbdibjeemgkdaaaGreatDoorK05
import Derived.Test.YtbdibjeemgkdaaaGreatDoorK09
import Derived.Test.YtbdibjeemgkdaaaGreatDoorK10
import Derived.Test.YtbdibjeemgkdaaaGreatDoorK11
import Derived.Test.YtbdibjeemgkdaaaGreatDoorK12
import Derived.Test.YtbdibjeemgkdaaaGreatDoorK13
import Derived.Test.YtbdibjeemgkdaaaGreatDoorK16
import Derived.Test.YtbdibjeemgkdaaaGreatDoorK17
import Derived.Test.YtbdibjeemgkdaaaGreatDoorK18
import Derived.Test.YtbdibjeemgkdaaaGreatDoorK19
import Derived.Test.YtbdibjeemgkdaaaGreatDoorK20
import Derived.Test.YtbdibjeemgkdaaaGreatDoorK21
import Derived.Test.YtbdibjeemgkdaaaGreatDoorK25
import Derived.Test.YtbdibjeemgkdaaaGreatDoorK30
import Derived.Test.YtbdibjeemgkdaaaGreatDoorK31
import Derived.Test.YtbdibjeemgkdaaaGreatDoorK32
import Derived.Test.YtbdibjeemgkdaaaGreatDoorK33
import Derived.Test.YtbdibjeemgkdaaaGreatDoorK47
import Derived.Test.YtbdibjeemgkdaaaGreatDoorK51
namespace Go.Proofs.YtbdibjeemgkdaaaGreatDoor
open Go.RowKit
set_option linter.unusedVariables false
set_option maxRecDepth 8000

set_option maxHeartbeats 2000000 in
theorem sDialC (A : Array Value) (p no nw : Int) (w : World) (C : Int) (hC : C ≠ 0) (hF0 : ∀ W, Below w.heap.size w W → (∀ o, W.cell? ⟨w.heap.size, o, none⟩ = A[o]?) → Calls Tryz.prog 29 #[.pointer (some ⟨w.heap.size, 0, none⟩)] W fun e w' => e = .returned (.int .i64 C) ∧ Below W.heap.size W w') :
    Calls Tryz.prog 24 #[.agg A, .int .i64 p, .int .i64 no, .int .i64 nw] w fun e w' => e = .returned (.agg (bad18 C)) ∧ Below w.heap.size w w' := by
  have hC' : (C != 0) = true := by simp [hC]
  have HF : Hid _ := hF0
  clear hC hF0
  obtain ⟨N, hN⟩ : ∃ N : Array Value, N = bad18 C := ⟨_, rfl⟩
  have HN : Hid _ := hN
  have hNz : N.size = 18 := by rw [hN]; rfl
  have HIN : Hid ((Tryz.prog.info? 38).map (·.size) = some N.size) := by show _ = _; rw [hNz]; exact info_R18
  have HONE : Hid (N.all (·.oneCell') = true) := by show _ = _; rw [hN]; exact bad_one _
  have HNZ : Hid _ := hNz
  rw [← hN]
  clear hN hNz
  have HWA : Hid (Below w.heap.size w ((w.alloc (.cells A 35)).alloc (.cells #[.int .i64 0, .int .i64 0, .int .i64 0, .int .i64 0, .bool false, .bool false, .slice none 0 0, .bool false, .int .i64 0, .bool false, .slice none 0 0, .slice none 0 0, .int .i64 0, .int .i64 0, .slice none 0 0, .slice none 0 0, .slice none 0 0, .bool false] 38)) ∧ ((w.alloc (.cells A 35)).alloc (.cells #[.int .i64 0, .int .i64 0, .int .i64 0, .int .i64 0, .bool false, .bool false, .slice none 0 0, .bool false, .int .i64 0, .bool false, .slice none 0 0, .slice none 0 0, .int .i64 0, .int .i64 0, .slice none 0 0, .slice none 0 0, .slice none 0 0, .bool false] 38)).heap.size = w.heap.size + 2 ∧ (∀ o, ((w.alloc (.cells A 35)).alloc (.cells #[.int .i64 0, .int .i64 0, .int .i64 0, .int .i64 0, .bool false, .bool false, .slice none 0 0, .bool false, .int .i64 0, .bool false, .slice none 0 0, .slice none 0 0, .int .i64 0, .int .i64 0, .slice none 0 0, .slice none 0 0, .slice none 0 0, .bool false] 38)).cell? ⟨w.heap.size, o, none⟩ = (A : Array Value)[o]?) ∧ (∀ o, ((w.alloc (.cells A 35)).alloc (.cells #[.int .i64 0, .int .i64 0, .int .i64 0, .int .i64 0, .bool false, .bool false, .slice none 0 0, .bool false, .int .i64 0, .bool false, .slice none 0 0, .slice none 0 0, .int .i64 0, .int .i64 0, .slice none 0 0, .slice none 0 0, .slice none 0 0, .bool false] 38)).cell? ⟨w.heap.size + 1, o, none⟩ = (#[.int .i64 0, .int .i64 0, .int .i64 0, .int .i64 0, .bool false, .bool false, .slice none 0 0, .bool false, .int .i64 0, .bool false, .slice none 0 0, .slice none 0 0, .int .i64 0, .int .i64 0, .slice none 0 0, .slice none 0 0, .slice none 0 0, .bool false] : Array Value)[o]?) ∧ (∀ o, ((w.alloc (.cells A 35)).alloc (.cells #[.int .i64 0, .int .i64 0, .int .i64 0, .int .i64 0, .bool false, .bool false, .slice none 0 0, .bool false, .int .i64 0, .bool false, .slice none 0 0, .slice none 0 0, .int .i64 0, .int .i64 0, .slice none 0 0, .slice none 0 0, .slice none 0 0, .bool false] 38)).frozen? ⟨w.heap.size + 1, o, none⟩ = false)) := ⟨(((Below.refl _ _).alloc (Nat.le_refl _) _).alloc (by simp) _), by simp, fun o => by simp [go_sem], fun o => by simp [go_sem], fun o => by simp [go_sem]⟩
  go_enter Tryz.func24, Tryz.ntmps24
  go_upto_region 1 with fail
  generalize hWW : ((w.alloc (.cells A 35)).alloc (.cells #[.int .i64 0, .int .i64 0, .int .i64 0, .int .i64 0, .bool false, .bool false, .slice none 0 0, .bool false, .int .i64 0, .bool false, .slice none 0 0, .slice none 0 0, .int .i64 0, .int .i64 0, .slice none 0 0, .slice none 0 0, .slice none 0 0, .bool false] 38)) = W1 at HWA ⊢
  clear hWW
  obtain ⟨hb, hsz, kA, kR, fR⟩ := HWA.out
  clear HWA
  have HB : Hid (Below w.heap.size w W1) := hb
  have zA : w.heap.size < W1.heap.size := by omega
  have zR : w.heap.size + 1 < W1.heap.size := by omega
  clear hb hsz
  go_wp2_with fail
  refine (HF.out _ HB.out kA).mono ?_
  rintro e W2 ⟨rfl, hb⟩
  replace kA := bx_below kA zA hb
  replace zA := Nat.lt_of_lt_of_le zA hb.size
  replace kR := bx_below kR zR hb
  replace fR := bxF fR hb zR
  replace zR := Nat.lt_of_lt_of_le zR hb.size
  replace HB : Hid (Below w.heap.size w W2) := HB.out.trans (hb.mono HB.out.size)
  clear hb
  clear HF
  go_wp2_with fail
  refine (sBad9 C _).mono ?_
  rintro e W4 ⟨rfl, hb⟩
  replace kA := bx_below kA zA hb
  replace zA := Nat.lt_of_lt_of_le zA hb.size
  replace kR := bx_below kR zR hb
  replace fR := bxF fR hb zR
  replace zR := Nat.lt_of_lt_of_le zR hb.size
  replace HB : Hid (Below w.heap.size w W4) := HB.out.trans (hb.mono HB.out.size)
  clear hb
  rw [← HN.out]
  have HTH : Hid (W4.there (w.heap.size + 1) 0 N.size) := bx_there kR fR (by rw [HNZ.out]; rfl)
  have kF : Hid (∀ o, (W4.setCells (w.heap.size + 1) 0 N.toList).cell? ⟨w.heap.size + 1, o, none⟩ = N[o]?) := bx_setCells kR (by rw [HNZ.out]; rfl)
  go_wp2_with (refine wpList_store_mid rfl 38 _ _ rfl _ _ N (by rfl) (by rfl) HTH.out HIN.out HONE.out ?_)
  refine bodyPost_ret (results_box Tryz.results24 _ _ _ N _ (by rfl) kF.out Tryz.underlying38 rfl HIN.out) rfl ⟨rfl, ?_⟩
  exact setCells_below (by omega) _ _ _ _ HB.out
set_option maxHeartbeats 2000000 in
theorem sDial3 (A : Array Value) (p no nw : Int) (w : World) (b1 b2 b3 : Bool) (h1 : inD p 0 2 = b1) (h2 : inD no 0 1000000 = b2) (h3 : inD nw 0 1000000 = b3) (hb : (b1 && b2 && b3) = false) (hF0 : ∀ W, Below w.heap.size w W → (∀ o, W.cell? ⟨w.heap.size, o, none⟩ = A[o]?) → Calls Tryz.prog 29 #[.pointer (some ⟨w.heap.size, 0, none⟩)] W fun e w' => e = .returned (.int .i64 0) ∧ Below W.heap.size W w') :
    Calls Tryz.prog 24 #[.agg A, .int .i64 p, .int .i64 no, .int .i64 nw] w fun e w' => e = .returned (.agg (bad18 3)) ∧ Below w.heap.size w w' := by
  have HP1 : Hid _ := h1
  have HP2 : Hid _ := h2
  have HP3 : Hid _ := h3
  have HF : Hid _ := hF0
  clear h1 h2 h3 hF0
  obtain ⟨N, hN⟩ : ∃ N : Array Value, N = bad18 3 := ⟨_, rfl⟩
  have HN : Hid _ := hN
  have hNz : N.size = 18 := by rw [hN]; rfl
  have HIN : Hid ((Tryz.prog.info? 38).map (·.size) = some N.size) := by show _ = _; rw [hNz]; exact info_R18
  have HONE : Hid (N.all (·.oneCell') = true) := by show _ = _; rw [hN]; exact bad_one _
  have HNZ : Hid _ := hNz
  rw [← hN]
  clear hN hNz
  cases b1
  case false =>
    clear hb
    have HWA : Hid (Below w.heap.size w ((w.alloc (.cells A 35)).alloc (.cells #[.int .i64 0, .int .i64 0, .int .i64 0, .int .i64 0, .bool false, .bool false, .slice none 0 0, .bool false, .int .i64 0, .bool false, .slice none 0 0, .slice none 0 0, .int .i64 0, .int .i64 0, .slice none 0 0, .slice none 0 0, .slice none 0 0, .bool false] 38)) ∧ ((w.alloc (.cells A 35)).alloc (.cells #[.int .i64 0, .int .i64 0, .int .i64 0, .int .i64 0, .bool false, .bool false, .slice none 0 0, .bool false, .int .i64 0, .bool false, .slice none 0 0, .slice none 0 0, .int .i64 0, .int .i64 0, .slice none 0 0, .slice none 0 0, .slice none 0 0, .bool false] 38)).heap.size = w.heap.size + 2 ∧ (∀ o, ((w.alloc (.cells A 35)).alloc (.cells #[.int .i64 0, .int .i64 0, .int .i64 0, .int .i64 0, .bool false, .bool false, .slice none 0 0, .bool false, .int .i64 0, .bool false, .slice none 0 0, .slice none 0 0, .int .i64 0, .int .i64 0, .slice none 0 0, .slice none 0 0, .slice none 0 0, .bool false] 38)).cell? ⟨w.heap.size, o, none⟩ = (A : Array Value)[o]?) ∧ (∀ o, ((w.alloc (.cells A 35)).alloc (.cells #[.int .i64 0, .int .i64 0, .int .i64 0, .int .i64 0, .bool false, .bool false, .slice none 0 0, .bool false, .int .i64 0, .bool false, .slice none 0 0, .slice none 0 0, .int .i64 0, .int .i64 0, .slice none 0 0, .slice none 0 0, .slice none 0 0, .bool false] 38)).cell? ⟨w.heap.size + 1, o, none⟩ = (#[.int .i64 0, .int .i64 0, .int .i64 0, .int .i64 0, .bool false, .bool false, .slice none 0 0, .bool false, .int .i64 0, .bool false, .slice none 0 0, .slice none 0 0, .int .i64 0, .int .i64 0, .slice none 0 0, .slice none 0 0, .slice none 0 0, .bool false] : Array Value)[o]?) ∧ (∀ o, ((w.alloc (.cells A 35)).alloc (.cells #[.int .i64 0, .int .i64 0, .int .i64 0, .int .i64 0, .bool false, .bool false, .slice none 0 0, .bool false, .int .i64 0, .bool false, .slice none 0 0, .slice none 0 0, .int .i64 0, .int .i64 0, .slice none 0 0, .slice none 0 0, .slice none 0 0, .bool false] 38)).frozen? ⟨w.heap.size + 1, o, none⟩ = false)) := ⟨(((Below.refl _ _).alloc (Nat.le_refl _) _).alloc (by simp) _), by simp, fun o => by simp [go_sem], fun o => by simp [go_sem], fun o => by simp [go_sem]⟩
    go_enter Tryz.func24, Tryz.ntmps24
    go_upto_region 1 with fail
    generalize hWW : ((w.alloc (.cells A 35)).alloc (.cells #[.int .i64 0, .int .i64 0, .int .i64 0, .int .i64 0, .bool false, .bool false, .slice none 0 0, .bool false, .int .i64 0, .bool false, .slice none 0 0, .slice none 0 0, .int .i64 0, .int .i64 0, .slice none 0 0, .slice none 0 0, .slice none 0 0, .bool false] 38)) = W1 at HWA ⊢
    clear hWW
    obtain ⟨hb, hsz, kA, kR, fR⟩ := HWA.out
    clear HWA
    have HB : Hid (Below w.heap.size w W1) := hb
    have zA : w.heap.size < W1.heap.size := by omega
    have zR : w.heap.size + 1 < W1.heap.size := by omega
    clear hb hsz
    go_wp2_with fail
    refine (HF.out _ HB.out kA).mono ?_
    rintro e W2 ⟨rfl, hb⟩
    replace kA := bx_below kA zA hb
    replace zA := Nat.lt_of_lt_of_le zA hb.size
    replace kR := bx_below kR zR hb
    replace fR := bxF fR hb zR
    replace zR := Nat.lt_of_lt_of_le zR hb.size
    replace HB : Hid (Below w.heap.size w W2) := HB.out.trans (hb.mono HB.out.size)
    clear hb
    clear HF
    go_wp2_with (first | (go_at_call 52; refine (sInD _ _ _ _).mono ?_; rintro e w' ⟨rfl, hw⟩; subst w'; rw [HP1.out]) | (go_at_call 53; refine (sTickD _ _).mono ?_; rintro e w' ⟨rfl, hw⟩; subst w'; first | rw [HP2.out] | rw [HP3.out]))
    refine (sBad9 3 _).mono ?_
    rintro e W4 ⟨rfl, hb⟩
    replace kA := bx_below kA zA hb
    replace zA := Nat.lt_of_lt_of_le zA hb.size
    replace kR := bx_below kR zR hb
    replace fR := bxF fR hb zR
    replace zR := Nat.lt_of_lt_of_le zR hb.size
    replace HB : Hid (Below w.heap.size w W4) := HB.out.trans (hb.mono HB.out.size)
    clear hb
    rw [← HN.out]
    have HTH : Hid (W4.there (w.heap.size + 1) 0 N.size) := bx_there kR fR (by rw [HNZ.out]; rfl)
    have kF : Hid (∀ o, (W4.setCells (w.heap.size + 1) 0 N.toList).cell? ⟨w.heap.size + 1, o, none⟩ = N[o]?) := bx_setCells kR (by rw [HNZ.out]; rfl)
    go_wp2_with (refine wpList_store_mid rfl 38 _ _ rfl _ _ N (by rfl) (by rfl) HTH.out HIN.out HONE.out ?_)
    refine bodyPost_ret (results_box Tryz.results24 _ _ _ N _ (by rfl) kF.out Tryz.underlying38 rfl HIN.out) rfl ⟨rfl, ?_⟩
    exact setCells_below (by omega) _ _ _ _ HB.out
  cases b2
  case false =>
    clear hb
    have HWA : Hid (Below w.heap.size w ((w.alloc (.cells A 35)).alloc (.cells #[.int .i64 0, .int .i64 0, .int .i64 0, .int .i64 0, .bool false, .bool false, .slice none 0 0, .bool false, .int .i64 0, .bool false, .slice none 0 0, .slice none 0 0, .int .i64 0, .int .i64 0, .slice none 0 0, .slice none 0 0, .slice none 0 0, .bool false] 38)) ∧ ((w.alloc (.cells A 35)).alloc (.cells #[.int .i64 0, .int .i64 0, .int .i64 0, .int .i64 0, .bool false, .bool false, .slice none 0 0, .bool false, .int .i64 0, .bool false, .slice none 0 0, .slice none 0 0, .int .i64 0, .int .i64 0, .slice none 0 0, .slice none 0 0, .slice none 0 0, .bool false] 38)).heap.size = w.heap.size + 2 ∧ (∀ o, ((w.alloc (.cells A 35)).alloc (.cells #[.int .i64 0, .int .i64 0, .int .i64 0, .int .i64 0, .bool false, .bool false, .slice none 0 0, .bool false, .int .i64 0, .bool false, .slice none 0 0, .slice none 0 0, .int .i64 0, .int .i64 0, .slice none 0 0, .slice none 0 0, .slice none 0 0, .bool false] 38)).cell? ⟨w.heap.size, o, none⟩ = (A : Array Value)[o]?) ∧ (∀ o, ((w.alloc (.cells A 35)).alloc (.cells #[.int .i64 0, .int .i64 0, .int .i64 0, .int .i64 0, .bool false, .bool false, .slice none 0 0, .bool false, .int .i64 0, .bool false, .slice none 0 0, .slice none 0 0, .int .i64 0, .int .i64 0, .slice none 0 0, .slice none 0 0, .slice none 0 0, .bool false] 38)).cell? ⟨w.heap.size + 1, o, none⟩ = (#[.int .i64 0, .int .i64 0, .int .i64 0, .int .i64 0, .bool false, .bool false, .slice none 0 0, .bool false, .int .i64 0, .bool false, .slice none 0 0, .slice none 0 0, .int .i64 0, .int .i64 0, .slice none 0 0, .slice none 0 0, .slice none 0 0, .bool false] : Array Value)[o]?) ∧ (∀ o, ((w.alloc (.cells A 35)).alloc (.cells #[.int .i64 0, .int .i64 0, .int .i64 0, .int .i64 0, .bool false, .bool false, .slice none 0 0, .bool false, .int .i64 0, .bool false, .slice none 0 0, .slice none 0 0, .int .i64 0, .int .i64 0, .slice none 0 0, .slice none 0 0, .slice none 0 0, .bool false] 38)).frozen? ⟨w.heap.size + 1, o, none⟩ = false)) := ⟨(((Below.refl _ _).alloc (Nat.le_refl _) _).alloc (by simp) _), by simp, fun o => by simp [go_sem], fun o => by simp [go_sem], fun o => by simp [go_sem]⟩
    go_enter Tryz.func24, Tryz.ntmps24
    go_upto_region 1 with fail
    generalize hWW : ((w.alloc (.cells A 35)).alloc (.cells #[.int .i64 0, .int .i64 0, .int .i64 0, .int .i64 0, .bool false, .bool false, .slice none 0 0, .bool false, .int .i64 0, .bool false, .slice none 0 0, .slice none 0 0, .int .i64 0, .int .i64 0, .slice none 0 0, .slice none 0 0, .slice none 0 0, .bool false] 38)) = W1 at HWA ⊢
    clear hWW
    obtain ⟨hb, hsz, kA, kR, fR⟩ := HWA.out
    clear HWA
    have HB : Hid (Below w.heap.size w W1) := hb
    have zA : w.heap.size < W1.heap.size := by omega
    have zR : w.heap.size + 1 < W1.heap.size := by omega
    clear hb hsz
    go_wp2_with fail
    refine (HF.out _ HB.out kA).mono ?_
    rintro e W2 ⟨rfl, hb⟩
    replace kA := bx_below kA zA hb
    replace zA := Nat.lt_of_lt_of_le zA hb.size
    replace kR := bx_below kR zR hb
    replace fR := bxF fR hb zR
    replace zR := Nat.lt_of_lt_of_le zR hb.size
    replace HB : Hid (Below w.heap.size w W2) := HB.out.trans (hb.mono HB.out.size)
    clear hb
    clear HF
    go_wp2_with (first | (go_at_call 52; refine (sInD _ _ _ _).mono ?_; rintro e w' ⟨rfl, hw⟩; subst w'; rw [HP1.out]) | (go_at_call 53; refine (sTickD _ _).mono ?_; rintro e w' ⟨rfl, hw⟩; subst w'; first | rw [HP2.out] | rw [HP3.out]))
    refine (sBad9 3 _).mono ?_
    rintro e W4 ⟨rfl, hb⟩
    replace kA := bx_below kA zA hb
    replace zA := Nat.lt_of_lt_of_le zA hb.size
    replace kR := bx_below kR zR hb
    replace fR := bxF fR hb zR
    replace zR := Nat.lt_of_lt_of_le zR hb.size
    replace HB : Hid (Below w.heap.size w W4) := HB.out.trans (hb.mono HB.out.size)
    clear hb
    rw [← HN.out]
    have HTH : Hid (W4.there (w.heap.size + 1) 0 N.size) := bx_there kR fR (by rw [HNZ.out]; rfl)
    have kF : Hid (∀ o, (W4.setCells (w.heap.size + 1) 0 N.toList).cell? ⟨w.heap.size + 1, o, none⟩ = N[o]?) := bx_setCells kR (by rw [HNZ.out]; rfl)
    go_wp2_with (refine wpList_store_mid rfl 38 _ _ rfl _ _ N (by rfl) (by rfl) HTH.out HIN.out HONE.out ?_)
    refine bodyPost_ret (results_box Tryz.results24 _ _ _ N _ (by rfl) kF.out Tryz.underlying38 rfl HIN.out) rfl ⟨rfl, ?_⟩
    exact setCells_below (by omega) _ _ _ _ HB.out
  cases b3
  case false =>
    clear hb
    have HWA : Hid (Below w.heap.size w ((w.alloc (.cells A 35)).alloc (.cells #[.int .i64 0, .int .i64 0, .int .i64 0, .int .i64 0, .bool false, .bool false, .slice none 0 0, .bool false, .int .i64 0, .bool false, .slice none 0 0, .slice none 0 0, .int .i64 0, .int .i64 0, .slice none 0 0, .slice none 0 0, .slice none 0 0, .bool false] 38)) ∧ ((w.alloc (.cells A 35)).alloc (.cells #[.int .i64 0, .int .i64 0, .int .i64 0, .int .i64 0, .bool false, .bool false, .slice none 0 0, .bool false, .int .i64 0, .bool false, .slice none 0 0, .slice none 0 0, .int .i64 0, .int .i64 0, .slice none 0 0, .slice none 0 0, .slice none 0 0, .bool false] 38)).heap.size = w.heap.size + 2 ∧ (∀ o, ((w.alloc (.cells A 35)).alloc (.cells #[.int .i64 0, .int .i64 0, .int .i64 0, .int .i64 0, .bool false, .bool false, .slice none 0 0, .bool false, .int .i64 0, .bool false, .slice none 0 0, .slice none 0 0, .int .i64 0, .int .i64 0, .slice none 0 0, .slice none 0 0, .slice none 0 0, .bool false] 38)).cell? ⟨w.heap.size, o, none⟩ = (A : Array Value)[o]?) ∧ (∀ o, ((w.alloc (.cells A 35)).alloc (.cells #[.int .i64 0, .int .i64 0, .int .i64 0, .int .i64 0, .bool false, .bool false, .slice none 0 0, .bool false, .int .i64 0, .bool false, .slice none 0 0, .slice none 0 0, .int .i64 0, .int .i64 0, .slice none 0 0, .slice none 0 0, .slice none 0 0, .bool false] 38)).cell? ⟨w.heap.size + 1, o, none⟩ = (#[.int .i64 0, .int .i64 0, .int .i64 0, .int .i64 0, .bool false, .bool false, .slice none 0 0, .bool false, .int .i64 0, .bool false, .slice none 0 0, .slice none 0 0, .int .i64 0, .int .i64 0, .slice none 0 0, .slice none 0 0, .slice none 0 0, .bool false] : Array Value)[o]?) ∧ (∀ o, ((w.alloc (.cells A 35)).alloc (.cells #[.int .i64 0, .int .i64 0, .int .i64 0, .int .i64 0, .bool false, .bool false, .slice none 0 0, .bool false, .int .i64 0, .bool false, .slice none 0 0, .slice none 0 0, .int .i64 0, .int .i64 0, .slice none 0 0, .slice none 0 0, .slice none 0 0, .bool false] 38)).frozen? ⟨w.heap.size + 1, o, none⟩ = false)) := ⟨(((Below.refl _ _).alloc (Nat.le_refl _) _).alloc (by simp) _), by simp, fun o => by simp [go_sem], fun o => by simp [go_sem], fun o => by simp [go_sem]⟩
    go_enter Tryz.func24, Tryz.ntmps24
    go_upto_region 1 with fail
    generalize hWW : ((w.alloc (.cells A 35)).alloc (.cells #[.int .i64 0, .int .i64 0, .int .i64 0, .int .i64 0, .bool false, .bool false, .slice none 0 0, .bool false, .int .i64 0, .bool false, .slice none 0 0, .slice none 0 0, .int .i64 0, .int .i64 0, .slice none 0 0, .slice none 0 0, .slice none 0 0, .bool false] 38)) = W1 at HWA ⊢
    clear hWW
    obtain ⟨hb, hsz, kA, kR, fR⟩ := HWA.out
    clear HWA
    have HB : Hid (Below w.heap.size w W1) := hb
    have zA : w.heap.size < W1.heap.size := by omega
    have zR : w.heap.size + 1 < W1.heap.size := by omega
    clear hb hsz
    go_wp2_with fail
    refine (HF.out _ HB.out kA).mono ?_
    rintro e W2 ⟨rfl, hb⟩
    replace kA := bx_below kA zA hb
    replace zA := Nat.lt_of_lt_of_le zA hb.size
    replace kR := bx_below kR zR hb
    replace fR := bxF fR hb zR
    replace zR := Nat.lt_of_lt_of_le zR hb.size
    replace HB : Hid (Below w.heap.size w W2) := HB.out.trans (hb.mono HB.out.size)
    clear hb
    clear HF
    go_wp2_with (first | (go_at_call 52; refine (sInD _ _ _ _).mono ?_; rintro e w' ⟨rfl, hw⟩; subst w'; rw [HP1.out]) | (go_at_call 53; refine (sTickD _ _).mono ?_; rintro e w' ⟨rfl, hw⟩; subst w'; first | rw [HP2.out] | rw [HP3.out]))
    refine (sBad9 3 _).mono ?_
    rintro e W4 ⟨rfl, hb⟩
    replace kA := bx_below kA zA hb
    replace zA := Nat.lt_of_lt_of_le zA hb.size
    replace kR := bx_below kR zR hb
    replace fR := bxF fR hb zR
    replace zR := Nat.lt_of_lt_of_le zR hb.size
    replace HB : Hid (Below w.heap.size w W4) := HB.out.trans (hb.mono HB.out.size)
    clear hb
    rw [← HN.out]
    have HTH : Hid (W4.there (w.heap.size + 1) 0 N.size) := bx_there kR fR (by rw [HNZ.out]; rfl)
    have kF : Hid (∀ o, (W4.setCells (w.heap.size + 1) 0 N.toList).cell? ⟨w.heap.size + 1, o, none⟩ = N[o]?) := bx_setCells kR (by rw [HNZ.out]; rfl)
    go_wp2_with (refine wpList_store_mid rfl 38 _ _ rfl _ _ N (by rfl) (by rfl) HTH.out HIN.out HONE.out ?_)
    refine bodyPost_ret (results_box Tryz.results24 _ _ _ N _ (by rfl) kF.out Tryz.underlying38 rfl HIN.out) rfl ⟨rfl, ?_⟩
    exact setCells_below (by omega) _ _ _ _ HB.out
  cases hb
set_option maxHeartbeats 2000000 in
theorem sDial10a (A : Array Value) (p no nw : Int) (w : World) (h1 : inD p 0 2 = true) (h2 : inD no 0 1000000 = true) (h3 : inD nw 0 1000000 = true) (x0 : A[0]? = some (.int .i64 1)) (hF0 : ∀ W, Below w.heap.size w W → (∀ o, W.cell? ⟨w.heap.size, o, none⟩ = A[o]?) → Calls Tryz.prog 29 #[.pointer (some ⟨w.heap.size, 0, none⟩)] W fun e w' => e = .returned (.int .i64 0) ∧ Below W.heap.size W w') :
    Calls Tryz.prog 24 #[.agg A, .int .i64 p, .int .i64 no, .int .i64 nw] w fun e w' => e = .returned (.agg (bad18 10)) ∧ Below w.heap.size w w' := by
  have HP1 : Hid _ := h1
  have HP2 : Hid _ := h2
  have HP3 : Hid _ := h3
  have HF : Hid _ := hF0
  clear h1 h2 h3 hF0
  obtain ⟨N, hN⟩ : ∃ N : Array Value, N = bad18 10 := ⟨_, rfl⟩
  have HN : Hid _ := hN
  have hNz : N.size = 18 := by rw [hN]; rfl
  have HIN : Hid ((Tryz.prog.info? 38).map (·.size) = some N.size) := by show _ = _; rw [hNz]; exact info_R18
  have HONE : Hid (N.all (·.oneCell') = true) := by show _ = _; rw [hN]; exact bad_one _
  have HNZ : Hid _ := hNz
  rw [← hN]
  clear hN hNz
  have HWA : Hid (Below w.heap.size w ((w.alloc (.cells A 35)).alloc (.cells #[.int .i64 0, .int .i64 0, .int .i64 0, .int .i64 0, .bool false, .bool false, .slice none 0 0, .bool false, .int .i64 0, .bool false, .slice none 0 0, .slice none 0 0, .int .i64 0, .int .i64 0, .slice none 0 0, .slice none 0 0, .slice none 0 0, .bool false] 38)) ∧ ((w.alloc (.cells A 35)).alloc (.cells #[.int .i64 0, .int .i64 0, .int .i64 0, .int .i64 0, .bool false, .bool false, .slice none 0 0, .bool false, .int .i64 0, .bool false, .slice none 0 0, .slice none 0 0, .int .i64 0, .int .i64 0, .slice none 0 0, .slice none 0 0, .slice none 0 0, .bool false] 38)).heap.size = w.heap.size + 2 ∧ (∀ o, ((w.alloc (.cells A 35)).alloc (.cells #[.int .i64 0, .int .i64 0, .int .i64 0, .int .i64 0, .bool false, .bool false, .slice none 0 0, .bool false, .int .i64 0, .bool false, .slice none 0 0, .slice none 0 0, .int .i64 0, .int .i64 0, .slice none 0 0, .slice none 0 0, .slice none 0 0, .bool false] 38)).cell? ⟨w.heap.size, o, none⟩ = (A : Array Value)[o]?) ∧ (∀ o, ((w.alloc (.cells A 35)).alloc (.cells #[.int .i64 0, .int .i64 0, .int .i64 0, .int .i64 0, .bool false, .bool false, .slice none 0 0, .bool false, .int .i64 0, .bool false, .slice none 0 0, .slice none 0 0, .int .i64 0, .int .i64 0, .slice none 0 0, .slice none 0 0, .slice none 0 0, .bool false] 38)).cell? ⟨w.heap.size + 1, o, none⟩ = (#[.int .i64 0, .int .i64 0, .int .i64 0, .int .i64 0, .bool false, .bool false, .slice none 0 0, .bool false, .int .i64 0, .bool false, .slice none 0 0, .slice none 0 0, .int .i64 0, .int .i64 0, .slice none 0 0, .slice none 0 0, .slice none 0 0, .bool false] : Array Value)[o]?) ∧ (∀ o, ((w.alloc (.cells A 35)).alloc (.cells #[.int .i64 0, .int .i64 0, .int .i64 0, .int .i64 0, .bool false, .bool false, .slice none 0 0, .bool false, .int .i64 0, .bool false, .slice none 0 0, .slice none 0 0, .int .i64 0, .int .i64 0, .slice none 0 0, .slice none 0 0, .slice none 0 0, .bool false] 38)).frozen? ⟨w.heap.size + 1, o, none⟩ = false)) := ⟨(((Below.refl _ _).alloc (Nat.le_refl _) _).alloc (by simp) _), by simp, fun o => by simp [go_sem], fun o => by simp [go_sem], fun o => by simp [go_sem]⟩
  go_enter Tryz.func24, Tryz.ntmps24
  go_upto_region 1 with fail
  generalize hWW : ((w.alloc (.cells A 35)).alloc (.cells #[.int .i64 0, .int .i64 0, .int .i64 0, .int .i64 0, .bool false, .bool false, .slice none 0 0, .bool false, .int .i64 0, .bool false, .slice none 0 0, .slice none 0 0, .int .i64 0, .int .i64 0, .slice none 0 0, .slice none 0 0, .slice none 0 0, .bool false] 38)) = W1 at HWA ⊢
  clear hWW
  obtain ⟨hb, hsz, kA, kR, fR⟩ := HWA.out
  clear HWA
  have HB : Hid (Below w.heap.size w W1) := hb
  have zA : w.heap.size < W1.heap.size := by omega
  have zR : w.heap.size + 1 < W1.heap.size := by omega
  clear hb hsz
  go_wp2_with fail
  refine (HF.out _ HB.out kA).mono ?_
  rintro e W2 ⟨rfl, hb⟩
  replace kA := bx_below kA zA hb
  replace zA := Nat.lt_of_lt_of_le zA hb.size
  replace kR := bx_below kR zR hb
  replace fR := bxF fR hb zR
  replace zR := Nat.lt_of_lt_of_le zR hb.size
  replace HB : Hid (Below w.heap.size w W2) := HB.out.trans (hb.mono HB.out.size)
  clear hb
  clear HF
  go_wp2_with (first | (go_at_call 52; refine (sInD _ _ _ _).mono ?_; rintro e w' ⟨rfl, hw⟩; subst w'; rw [HP1.out]) | (go_at_call 53; refine (sTickD _ _).mono ?_; rintro e w' ⟨rfl, hw⟩; subst w'; first | rw [HP2.out] | rw [HP3.out]))
  refine (sBad9 10 _).mono ?_
  rintro e W4 ⟨rfl, hb⟩
  replace kA := bx_below kA zA hb
  replace zA := Nat.lt_of_lt_of_le zA hb.size
  replace kR := bx_below kR zR hb
  replace fR := bxF fR hb zR
  replace zR := Nat.lt_of_lt_of_le zR hb.size
  replace HB : Hid (Below w.heap.size w W4) := HB.out.trans (hb.mono HB.out.size)
  clear hb
  rw [← HN.out]
  have HTH : Hid (W4.there (w.heap.size + 1) 0 N.size) := bx_there kR fR (by rw [HNZ.out]; rfl)
  have kF : Hid (∀ o, (W4.setCells (w.heap.size + 1) 0 N.toList).cell? ⟨w.heap.size + 1, o, none⟩ = N[o]?) := bx_setCells kR (by rw [HNZ.out]; rfl)
  go_wp2_with (refine wpList_store_mid rfl 38 _ _ rfl _ _ N (by rfl) (by rfl) HTH.out HIN.out HONE.out ?_)
  refine bodyPost_ret (results_box Tryz.results24 _ _ _ N _ (by rfl) kF.out Tryz.underlying38 rfl HIN.out) rfl ⟨rfl, ?_⟩
  exact setCells_below (by omega) _ _ _ _ HB.out
set_option maxHeartbeats 2000000 in
theorem sDial10b (A : Array Value) (p no nw : Int) (w : World) (h1 : inD p 0 2 = true) (h2 : inD no 0 1000000 = true) (h3 : inD nw 0 1000000 = true) (pl : Bool) (pe st : Int) (b off n cap : Nat) (x0 : A[0]? = some (.int .i64 0)) (x2 : A[2]? = some (.int .i64 pe)) (x3 : A[3]? = some (.bool pl)) (x13 : A[13]? = some (.slice (some ⟨b, off, none⟩) n cap)) (hn : 0 < n) (hm : n ≤ 1048576) (hb : b < w.heap.size) (q1 : w.cell? ⟨b, off + 1, none⟩ = some (.int .i64 st)) (hbad : ((!pl && decide (pe ≠ 0)) && decide (st = 3)) = false) (hF0 : ∀ W, Below w.heap.size w W → (∀ o, W.cell? ⟨w.heap.size, o, none⟩ = A[o]?) → Calls Tryz.prog 29 #[.pointer (some ⟨w.heap.size, 0, none⟩)] W fun e w' => e = .returned (.int .i64 0) ∧ Below W.heap.size W w') :
    Calls Tryz.prog 24 #[.agg A, .int .i64 p, .int .i64 no, .int .i64 nw] w fun e w' => e = .returned (.agg (bad18 10)) ∧ Below w.heap.size w w' := by
  have HP1 : Hid _ := h1
  have HP2 : Hid _ := h2
  have HP3 : Hid _ := h3
  have HF : Hid _ := hF0
  clear h1 h2 h3 hF0
  have hb0 := hb
  clear hb
  have hn1 : (0 : Int) < (n : Int) := by omega
  have hn2 : decide ((0 : Int) < (n : Int)) = true := decide_eq_true hn1
  have hn3 : decide (0 < n) = true := decide_eq_true hn
  obtain ⟨N, hN⟩ : ∃ N : Array Value, N = bad18 10 := ⟨_, rfl⟩
  have HN : Hid _ := hN
  have hNz : N.size = 18 := by rw [hN]; rfl
  have HIN : Hid ((Tryz.prog.info? 38).map (·.size) = some N.size) := by show _ = _; rw [hNz]; exact info_R18
  have HONE : Hid (N.all (·.oneCell') = true) := by show _ = _; rw [hN]; exact bad_one _
  have HNZ : Hid _ := hNz
  rw [← hN]
  clear hN hNz
  cases pl
  case true =>
    clear hbad
    have HWA : Hid (Below w.heap.size w ((w.alloc (.cells A 35)).alloc (.cells #[.int .i64 0, .int .i64 0, .int .i64 0, .int .i64 0, .bool false, .bool false, .slice none 0 0, .bool false, .int .i64 0, .bool false, .slice none 0 0, .slice none 0 0, .int .i64 0, .int .i64 0, .slice none 0 0, .slice none 0 0, .slice none 0 0, .bool false] 38)) ∧ ((w.alloc (.cells A 35)).alloc (.cells #[.int .i64 0, .int .i64 0, .int .i64 0, .int .i64 0, .bool false, .bool false, .slice none 0 0, .bool false, .int .i64 0, .bool false, .slice none 0 0, .slice none 0 0, .int .i64 0, .int .i64 0, .slice none 0 0, .slice none 0 0, .slice none 0 0, .bool false] 38)).heap.size = w.heap.size + 2 ∧ (∀ o, ((w.alloc (.cells A 35)).alloc (.cells #[.int .i64 0, .int .i64 0, .int .i64 0, .int .i64 0, .bool false, .bool false, .slice none 0 0, .bool false, .int .i64 0, .bool false, .slice none 0 0, .slice none 0 0, .int .i64 0, .int .i64 0, .slice none 0 0, .slice none 0 0, .slice none 0 0, .bool false] 38)).cell? ⟨w.heap.size, o, none⟩ = (A : Array Value)[o]?) ∧ (∀ o, ((w.alloc (.cells A 35)).alloc (.cells #[.int .i64 0, .int .i64 0, .int .i64 0, .int .i64 0, .bool false, .bool false, .slice none 0 0, .bool false, .int .i64 0, .bool false, .slice none 0 0, .slice none 0 0, .int .i64 0, .int .i64 0, .slice none 0 0, .slice none 0 0, .slice none 0 0, .bool false] 38)).cell? ⟨w.heap.size + 1, o, none⟩ = (#[.int .i64 0, .int .i64 0, .int .i64 0, .int .i64 0, .bool false, .bool false, .slice none 0 0, .bool false, .int .i64 0, .bool false, .slice none 0 0, .slice none 0 0, .int .i64 0, .int .i64 0, .slice none 0 0, .slice none 0 0, .slice none 0 0, .bool false] : Array Value)[o]?) ∧ (∀ o, ((w.alloc (.cells A 35)).alloc (.cells #[.int .i64 0, .int .i64 0, .int .i64 0, .int .i64 0, .bool false, .bool false, .slice none 0 0, .bool false, .int .i64 0, .bool false, .slice none 0 0, .slice none 0 0, .int .i64 0, .int .i64 0, .slice none 0 0, .slice none 0 0, .slice none 0 0, .bool false] 38)).frozen? ⟨w.heap.size + 1, o, none⟩ = false)) := ⟨(((Below.refl _ _).alloc (Nat.le_refl _) _).alloc (by simp) _), by simp, fun o => by simp [go_sem], fun o => by simp [go_sem], fun o => by simp [go_sem]⟩
    go_enter Tryz.func24, Tryz.ntmps24
    go_upto_region 1 with fail
    generalize hWW : ((w.alloc (.cells A 35)).alloc (.cells #[.int .i64 0, .int .i64 0, .int .i64 0, .int .i64 0, .bool false, .bool false, .slice none 0 0, .bool false, .int .i64 0, .bool false, .slice none 0 0, .slice none 0 0, .int .i64 0, .int .i64 0, .slice none 0 0, .slice none 0 0, .slice none 0 0, .bool false] 38)) = W1 at HWA ⊢
    clear hWW
    obtain ⟨hb, hsz, kA, kR, fR⟩ := HWA.out
    clear HWA
    have HB : Hid (Below w.heap.size w W1) := hb
    have zA : w.heap.size < W1.heap.size := by omega
    have zR : w.heap.size + 1 < W1.heap.size := by omega
    clear hb hsz
    go_wp2_with fail
    refine (HF.out _ HB.out kA).mono ?_
    rintro e W2 ⟨rfl, hb⟩
    replace kA := bx_below kA zA hb
    replace zA := Nat.lt_of_lt_of_le zA hb.size
    replace kR := bx_below kR zR hb
    replace fR := bxF fR hb zR
    replace zR := Nat.lt_of_lt_of_le zR hb.size
    replace HB : Hid (Below w.heap.size w W2) := HB.out.trans (hb.mono HB.out.size)
    clear hb
    clear HF
    have y1 : W2.cell? ⟨b, off + 1, none⟩ = some (.int .i64 st) := (HB.out.cell (p := ⟨b, off + 1, none⟩) hb0).trans q1
    go_wp2_with (first | (go_at_call 52; refine (sInD _ _ _ _).mono ?_; rintro e w' ⟨rfl, hw⟩; subst w'; rw [HP1.out]) | (go_at_call 53; refine (sTickD _ _).mono ?_; rintro e w' ⟨rfl, hw⟩; subst w'; first | rw [HP2.out] | rw [HP3.out]))
    refine (sBad9 10 _).mono ?_
    rintro e W4 ⟨rfl, hb⟩
    replace kA := bx_below kA zA hb
    replace zA := Nat.lt_of_lt_of_le zA hb.size
    replace kR := bx_below kR zR hb
    replace fR := bxF fR hb zR
    replace zR := Nat.lt_of_lt_of_le zR hb.size
    replace HB : Hid (Below w.heap.size w W4) := HB.out.trans (hb.mono HB.out.size)
    clear hb
    rw [← HN.out]
    have HTH : Hid (W4.there (w.heap.size + 1) 0 N.size) := bx_there kR fR (by rw [HNZ.out]; rfl)
    have kF : Hid (∀ o, (W4.setCells (w.heap.size + 1) 0 N.toList).cell? ⟨w.heap.size + 1, o, none⟩ = N[o]?) := bx_setCells kR (by rw [HNZ.out]; rfl)
    go_wp2_with (refine wpList_store_mid rfl 38 _ _ rfl _ _ N (by rfl) (by rfl) HTH.out HIN.out HONE.out ?_)
    refine bodyPost_ret (results_box Tryz.results24 _ _ _ N _ (by rfl) kF.out Tryz.underlying38 rfl HIN.out) rfl ⟨rfl, ?_⟩
    exact setCells_below (by omega) _ _ _ _ HB.out
  by_cases hp : pe = 0
  case pos =>
    have hp' : (pe == 0) = true := by simp [hp]
    clear hbad hp
    have HWA : Hid (Below w.heap.size w ((w.alloc (.cells A 35)).alloc (.cells #[.int .i64 0, .int .i64 0, .int .i64 0, .int .i64 0, .bool false, .bool false, .slice none 0 0, .bool false, .int .i64 0, .bool false, .slice none 0 0, .slice none 0 0, .int .i64 0, .int .i64 0, .slice none 0 0, .slice none 0 0, .slice none 0 0, .bool false] 38)) ∧ ((w.alloc (.cells A 35)).alloc (.cells #[.int .i64 0, .int .i64 0, .int .i64 0, .int .i64 0, .bool false, .bool false, .slice none 0 0, .bool false, .int .i64 0, .bool false, .slice none 0 0, .slice none 0 0, .int .i64 0, .int .i64 0, .slice none 0 0, .slice none 0 0, .slice none 0 0, .bool false] 38)).heap.size = w.heap.size + 2 ∧ (∀ o, ((w.alloc (.cells A 35)).alloc (.cells #[.int .i64 0, .int .i64 0, .int .i64 0, .int .i64 0, .bool false, .bool false, .slice none 0 0, .bool false, .int .i64 0, .bool false, .slice none 0 0, .slice none 0 0, .int .i64 0, .int .i64 0, .slice none 0 0, .slice none 0 0, .slice none 0 0, .bool false] 38)).cell? ⟨w.heap.size, o, none⟩ = (A : Array Value)[o]?) ∧ (∀ o, ((w.alloc (.cells A 35)).alloc (.cells #[.int .i64 0, .int .i64 0, .int .i64 0, .int .i64 0, .bool false, .bool false, .slice none 0 0, .bool false, .int .i64 0, .bool false, .slice none 0 0, .slice none 0 0, .int .i64 0, .int .i64 0, .slice none 0 0, .slice none 0 0, .slice none 0 0, .bool false] 38)).cell? ⟨w.heap.size + 1, o, none⟩ = (#[.int .i64 0, .int .i64 0, .int .i64 0, .int .i64 0, .bool false, .bool false, .slice none 0 0, .bool false, .int .i64 0, .bool false, .slice none 0 0, .slice none 0 0, .int .i64 0, .int .i64 0, .slice none 0 0, .slice none 0 0, .slice none 0 0, .bool false] : Array Value)[o]?) ∧ (∀ o, ((w.alloc (.cells A 35)).alloc (.cells #[.int .i64 0, .int .i64 0, .int .i64 0, .int .i64 0, .bool false, .bool false, .slice none 0 0, .bool false, .int .i64 0, .bool false, .slice none 0 0, .slice none 0 0, .int .i64 0, .int .i64 0, .slice none 0 0, .slice none 0 0, .slice none 0 0, .bool false] 38)).frozen? ⟨w.heap.size + 1, o, none⟩ = false)) := ⟨(((Below.refl _ _).alloc (Nat.le_refl _) _).alloc (by simp) _), by simp, fun o => by simp [go_sem], fun o => by simp [go_sem], fun o => by simp [go_sem]⟩
    go_enter Tryz.func24, Tryz.ntmps24
    go_upto_region 1 with fail
    generalize hWW : ((w.alloc (.cells A 35)).alloc (.cells #[.int .i64 0, .int .i64 0, .int .i64 0, .int .i64 0, .bool false, .bool false, .slice none 0 0, .bool false, .int .i64 0, .bool false, .slice none 0 0, .slice none 0 0, .int .i64 0, .int .i64 0, .slice none 0 0, .slice none 0 0, .slice none 0 0, .bool false] 38)) = W1 at HWA ⊢
    clear hWW
    obtain ⟨hb, hsz, kA, kR, fR⟩ := HWA.out
    clear HWA
    have HB : Hid (Below w.heap.size w W1) := hb
    have zA : w.heap.size < W1.heap.size := by omega
    have zR : w.heap.size + 1 < W1.heap.size := by omega
    clear hb hsz
    go_wp2_with fail
    refine (HF.out _ HB.out kA).mono ?_
    rintro e W2 ⟨rfl, hb⟩
    replace kA := bx_below kA zA hb
    replace zA := Nat.lt_of_lt_of_le zA hb.size
    replace kR := bx_below kR zR hb
    replace fR := bxF fR hb zR
    replace zR := Nat.lt_of_lt_of_le zR hb.size
    replace HB : Hid (Below w.heap.size w W2) := HB.out.trans (hb.mono HB.out.size)
    clear hb
    clear HF
    have y1 : W2.cell? ⟨b, off + 1, none⟩ = some (.int .i64 st) := (HB.out.cell (p := ⟨b, off + 1, none⟩) hb0).trans q1
    go_wp2_with (first | (go_at_call 52; refine (sInD _ _ _ _).mono ?_; rintro e w' ⟨rfl, hw⟩; subst w'; rw [HP1.out]) | (go_at_call 53; refine (sTickD _ _).mono ?_; rintro e w' ⟨rfl, hw⟩; subst w'; first | rw [HP2.out] | rw [HP3.out]))
    refine (sBad9 10 _).mono ?_
    rintro e W4 ⟨rfl, hb⟩
    replace kA := bx_below kA zA hb
    replace zA := Nat.lt_of_lt_of_le zA hb.size
    replace kR := bx_below kR zR hb
    replace fR := bxF fR hb zR
    replace zR := Nat.lt_of_lt_of_le zR hb.size
    replace HB : Hid (Below w.heap.size w W4) := HB.out.trans (hb.mono HB.out.size)
    clear hb
    rw [← HN.out]
    have HTH : Hid (W4.there (w.heap.size + 1) 0 N.size) := bx_there kR fR (by rw [HNZ.out]; rfl)
    have kF : Hid (∀ o, (W4.setCells (w.heap.size + 1) 0 N.toList).cell? ⟨w.heap.size + 1, o, none⟩ = N[o]?) := bx_setCells kR (by rw [HNZ.out]; rfl)
    go_wp2_with (refine wpList_store_mid rfl 38 _ _ rfl _ _ N (by rfl) (by rfl) HTH.out HIN.out HONE.out ?_)
    refine bodyPost_ret (results_box Tryz.results24 _ _ _ N _ (by rfl) kF.out Tryz.underlying38 rfl HIN.out) rfl ⟨rfl, ?_⟩
    exact setCells_below (by omega) _ _ _ _ HB.out
  have hp' : (pe == 0) = false := by simp [hp]
  have hs' : (st != 3) = true := by simp [hp] at hbad; simp [hbad]
  clear hbad hp
  have HWA : Hid (Below w.heap.size w ((w.alloc (.cells A 35)).alloc (.cells #[.int .i64 0, .int .i64 0, .int .i64 0, .int .i64 0, .bool false, .bool false, .slice none 0 0, .bool false, .int .i64 0, .bool false, .slice none 0 0, .slice none 0 0, .int .i64 0, .int .i64 0, .slice none 0 0, .slice none 0 0, .slice none 0 0, .bool false] 38)) ∧ ((w.alloc (.cells A 35)).alloc (.cells #[.int .i64 0, .int .i64 0, .int .i64 0, .int .i64 0, .bool false, .bool false, .slice none 0 0, .bool false, .int .i64 0, .bool false, .slice none 0 0, .slice none 0 0, .int .i64 0, .int .i64 0, .slice none 0 0, .slice none 0 0, .slice none 0 0, .bool false] 38)).heap.size = w.heap.size + 2 ∧ (∀ o, ((w.alloc (.cells A 35)).alloc (.cells #[.int .i64 0, .int .i64 0, .int .i64 0, .int .i64 0, .bool false, .bool false, .slice none 0 0, .bool false, .int .i64 0, .bool false, .slice none 0 0, .slice none 0 0, .int .i64 0, .int .i64 0, .slice none 0 0, .slice none 0 0, .slice none 0 0, .bool false] 38)).cell? ⟨w.heap.size, o, none⟩ = (A : Array Value)[o]?) ∧ (∀ o, ((w.alloc (.cells A 35)).alloc (.cells #[.int .i64 0, .int .i64 0, .int .i64 0, .int .i64 0, .bool false, .bool false, .slice none 0 0, .bool false, .int .i64 0, .bool false, .slice none 0 0, .slice none 0 0, .int .i64 0, .int .i64 0, .slice none 0 0, .slice none 0 0, .slice none 0 0, .bool false] 38)).cell? ⟨w.heap.size + 1, o, none⟩ = (#[.int .i64 0, .int .i64 0, .int .i64 0, .int .i64 0, .bool false, .bool false, .slice none 0 0, .bool false, .int .i64 0, .bool false, .slice none 0 0, .slice none 0 0, .int .i64 0, .int .i64 0, .slice none 0 0, .slice none 0 0, .slice none 0 0, .bool false] : Array Value)[o]?) ∧ (∀ o, ((w.alloc (.cells A 35)).alloc (.cells #[.int .i64 0, .int .i64 0, .int .i64 0, .int .i64 0, .bool false, .bool false, .slice none 0 0, .bool false, .int .i64 0, .bool false, .slice none 0 0, .slice none 0 0, .int .i64 0, .int .i64 0, .slice none 0 0, .slice none 0 0, .slice none 0 0, .bool false] 38)).frozen? ⟨w.heap.size + 1, o, none⟩ = false)) := ⟨(((Below.refl _ _).alloc (Nat.le_refl _) _).alloc (by simp) _), by simp, fun o => by simp [go_sem], fun o => by simp [go_sem], fun o => by simp [go_sem]⟩
  go_enter Tryz.func24, Tryz.ntmps24
  go_upto_region 1 with fail
  generalize hWW : ((w.alloc (.cells A 35)).alloc (.cells #[.int .i64 0, .int .i64 0, .int .i64 0, .int .i64 0, .bool false, .bool false, .slice none 0 0, .bool false, .int .i64 0, .bool false, .slice none 0 0, .slice none 0 0, .int .i64 0, .int .i64 0, .slice none 0 0, .slice none 0 0, .slice none 0 0, .bool false] 38)) = W1 at HWA ⊢
  clear hWW
  obtain ⟨hb, hsz, kA, kR, fR⟩ := HWA.out
  clear HWA
  have HB : Hid (Below w.heap.size w W1) := hb
  have zA : w.heap.size < W1.heap.size := by omega
  have zR : w.heap.size + 1 < W1.heap.size := by omega
  clear hb hsz
  go_wp2_with fail
  refine (HF.out _ HB.out kA).mono ?_
  rintro e W2 ⟨rfl, hb⟩
  replace kA := bx_below kA zA hb
  replace zA := Nat.lt_of_lt_of_le zA hb.size
  replace kR := bx_below kR zR hb
  replace fR := bxF fR hb zR
  replace zR := Nat.lt_of_lt_of_le zR hb.size
  replace HB : Hid (Below w.heap.size w W2) := HB.out.trans (hb.mono HB.out.size)
  clear hb
  clear HF
  have y1 : W2.cell? ⟨b, off + 1, none⟩ = some (.int .i64 st) := (HB.out.cell (p := ⟨b, off + 1, none⟩) hb0).trans q1
  go_wp2_with (first | (go_at_call 52; refine (sInD _ _ _ _).mono ?_; rintro e w' ⟨rfl, hw⟩; subst w'; rw [HP1.out]) | (go_at_call 53; refine (sTickD _ _).mono ?_; rintro e w' ⟨rfl, hw⟩; subst w'; first | rw [HP2.out] | rw [HP3.out]))
  refine (sBad9 10 _).mono ?_
  rintro e W4 ⟨rfl, hb⟩
  replace kA := bx_below kA zA hb
  replace zA := Nat.lt_of_lt_of_le zA hb.size
  replace kR := bx_below kR zR hb
  replace fR := bxF fR hb zR
  replace zR := Nat.lt_of_lt_of_le zR hb.size
  replace HB : Hid (Below w.heap.size w W4) := HB.out.trans (hb.mono HB.out.size)
  clear hb
  rw [← HN.out]
  have HTH : Hid (W4.there (w.heap.size + 1) 0 N.size) := bx_there kR fR (by rw [HNZ.out]; rfl)
  have kF : Hid (∀ o, (W4.setCells (w.heap.size + 1) 0 N.toList).cell? ⟨w.heap.size + 1, o, none⟩ = N[o]?) := bx_setCells kR (by rw [HNZ.out]; rfl)
  go_wp2_with (refine wpList_store_mid rfl 38 _ _ rfl _ _ N (by rfl) (by rfl) HTH.out HIN.out HONE.out ?_)
  refine bodyPost_ret (results_box Tryz.results24 _ _ _ N _ (by rfl) kF.out Tryz.underlying38 rfl HIN.out) rfl ⟨rfl, ?_⟩
  exact setCells_below (by omega) _ _ _ _ HB.out
set_option maxHeartbeats 2000000 in
theorem sDial7 (A : Array Value) (p no nw : Int) (w : World) (h1 : inD p 0 2 = true) (h2 : inD no 0 1000000 = true) (h3 : inD nw 0 1000000 = true) (pl : Bool) (pe st0 : Int) (a13 : Option Addr) (n cap : Nat) (x0 : A[0]? = some (.int .i64 0)) (x2 : A[2]? = some (.int .i64 pe)) (x3 : A[3]? = some (.bool pl)) (x13 : A[13]? = some (.slice a13 n cap)) (hm : n ≤ 1048576) (hok : n = 0 ∨ (pl = false ∧ pe ≠ 0 ∧ st0 = 3 ∧ ∃ b off, a13 = some ⟨b, off, none⟩ ∧ b < w.heap.size ∧ w.cell? ⟨b, off + 1, none⟩ = some (.int .i64 st0))) (PL : Int) (hp : 0 ≤ PL) (hF0 : ∀ W, Below w.heap.size w W → (∀ o, W.cell? ⟨w.heap.size, o, none⟩ = A[o]?) → Calls Tryz.prog 29 #[.pointer (some ⟨w.heap.size, 0, none⟩)] W fun e w' => e = .returned (.int .i64 0) ∧ Below W.heap.size W w') (hO : ∀ W, Below w.heap.size w W → (∀ o, W.cell? ⟨w.heap.size, o, none⟩ = A[o]?) → Calls Tryz.prog 47 #[.pointer (some ⟨w.heap.size, 0, none⟩), .int .i64 p] W fun e w' => e = .returned (.int .i64 PL) ∧ w' = W) :
    Calls Tryz.prog 24 #[.agg A, .int .i64 p, .int .i64 no, .int .i64 nw] w fun e w' => e = .returned (.agg (bad18 7)) ∧ Below w.heap.size w w' := by
  have HP1 : Hid _ := h1
  have HP2 : Hid _ := h2
  have HP3 : Hid _ := h3
  have HF : Hid _ := hF0
  clear h1 h2 h3 hF0
  have HO : Hid _ := hO
  clear hO
  have hp1 : decide (0 ≤ PL) = true := decide_eq_true hp
  obtain ⟨N, hN⟩ : ∃ N : Array Value, N = bad18 7 := ⟨_, rfl⟩
  have HN : Hid _ := hN
  have hNz : N.size = 18 := by rw [hN]; rfl
  have HIN : Hid ((Tryz.prog.info? 38).map (·.size) = some N.size) := by show _ = _; rw [hNz]; exact info_R18
  have HONE : Hid (N.all (·.oneCell') = true) := by show _ = _; rw [hN]; exact bad_one _
  have HNZ : Hid _ := hNz
  rw [← hN]
  clear hN hNz
  by_cases hn0 : n = 0
  case pos =>
    clear hok
    have hn1 : ¬ ((0 : Int) < (n : Int)) := by omega
    have hn2 : decide ((0 : Int) < (n : Int)) = false := decide_eq_false hn1
    have hn3 : decide (0 < n) = false := decide_eq_false (by omega)
    have HWA : Hid (Below w.heap.size w ((w.alloc (.cells A 35)).alloc (.cells #[.int .i64 0, .int .i64 0, .int .i64 0, .int .i64 0, .bool false, .bool false, .slice none 0 0, .bool false, .int .i64 0, .bool false, .slice none 0 0, .slice none 0 0, .int .i64 0, .int .i64 0, .slice none 0 0, .slice none 0 0, .slice none 0 0, .bool false] 38)) ∧ ((w.alloc (.cells A 35)).alloc (.cells #[.int .i64 0, .int .i64 0, .int .i64 0, .int .i64 0, .bool false, .bool false, .slice none 0 0, .bool false, .int .i64 0, .bool false, .slice none 0 0, .slice none 0 0, .int .i64 0, .int .i64 0, .slice none 0 0, .slice none 0 0, .slice none 0 0, .bool false] 38)).heap.size = w.heap.size + 2 ∧ (∀ o, ((w.alloc (.cells A 35)).alloc (.cells #[.int .i64 0, .int .i64 0, .int .i64 0, .int .i64 0, .bool false, .bool false, .slice none 0 0, .bool false, .int .i64 0, .bool false, .slice none 0 0, .slice none 0 0, .int .i64 0, .int .i64 0, .slice none 0 0, .slice none 0 0, .slice none 0 0, .bool false] 38)).cell? ⟨w.heap.size, o, none⟩ = (A : Array Value)[o]?) ∧ (∀ o, ((w.alloc (.cells A 35)).alloc (.cells #[.int .i64 0, .int .i64 0, .int .i64 0, .int .i64 0, .bool false, .bool false, .slice none 0 0, .bool false, .int .i64 0, .bool false, .slice none 0 0, .slice none 0 0, .int .i64 0, .int .i64 0, .slice none 0 0, .slice none 0 0, .slice none 0 0, .bool false] 38)).cell? ⟨w.heap.size + 1, o, none⟩ = (#[.int .i64 0, .int .i64 0, .int .i64 0, .int .i64 0, .bool false, .bool false, .slice none 0 0, .bool false, .int .i64 0, .bool false, .slice none 0 0, .slice none 0 0, .int .i64 0, .int .i64 0, .slice none 0 0, .slice none 0 0, .slice none 0 0, .bool false] : Array Value)[o]?) ∧ (∀ o, ((w.alloc (.cells A 35)).alloc (.cells #[.int .i64 0, .int .i64 0, .int .i64 0, .int .i64 0, .bool false, .bool false, .slice none 0 0, .bool false, .int .i64 0, .bool false, .slice none 0 0, .slice none 0 0, .int .i64 0, .int .i64 0, .slice none 0 0, .slice none 0 0, .slice none 0 0, .bool false] 38)).frozen? ⟨w.heap.size + 1, o, none⟩ = false)) := ⟨(((Below.refl _ _).alloc (Nat.le_refl _) _).alloc (by simp) _), by simp, fun o => by simp [go_sem], fun o => by simp [go_sem], fun o => by simp [go_sem]⟩
    go_enter Tryz.func24, Tryz.ntmps24
    go_upto_region 1 with fail
    generalize hWW : ((w.alloc (.cells A 35)).alloc (.cells #[.int .i64 0, .int .i64 0, .int .i64 0, .int .i64 0, .bool false, .bool false, .slice none 0 0, .bool false, .int .i64 0, .bool false, .slice none 0 0, .slice none 0 0, .int .i64 0, .int .i64 0, .slice none 0 0, .slice none 0 0, .slice none 0 0, .bool false] 38)) = W1 at HWA ⊢
    clear hWW
    obtain ⟨hb, hsz, kA, kR, fR⟩ := HWA.out
    clear HWA
    have HB : Hid (Below w.heap.size w W1) := hb
    have zA : w.heap.size < W1.heap.size := by omega
    have zR : w.heap.size + 1 < W1.heap.size := by omega
    clear hb hsz
    go_wp2_with fail
    refine (HF.out _ HB.out kA).mono ?_
    rintro e W2 ⟨rfl, hb⟩
    replace kA := bx_below kA zA hb
    replace zA := Nat.lt_of_lt_of_le zA hb.size
    replace kR := bx_below kR zR hb
    replace fR := bxF fR hb zR
    replace zR := Nat.lt_of_lt_of_le zR hb.size
    replace HB : Hid (Below w.heap.size w W2) := HB.out.trans (hb.mono HB.out.size)
    clear hb
    clear HF
    go_wp2_with (first | (go_at_call 52; refine (sInD _ _ _ _).mono ?_; rintro e w' ⟨rfl, hw⟩; subst w'; rw [HP1.out]) | (go_at_call 53; refine (sTickD _ _).mono ?_; rintro e w' ⟨rfl, hw⟩; subst w'; first | rw [HP2.out] | rw [HP3.out]))
    refine (HO.out _ HB.out kA).mono ?_
    rintro e w' ⟨rfl, hw⟩
    subst w'
    go_wp2_with fail
    refine (sBad9 7 _).mono ?_
    rintro e W4 ⟨rfl, hb⟩
    replace kA := bx_below kA zA hb
    replace zA := Nat.lt_of_lt_of_le zA hb.size
    replace kR := bx_below kR zR hb
    replace fR := bxF fR hb zR
    replace zR := Nat.lt_of_lt_of_le zR hb.size
    replace HB : Hid (Below w.heap.size w W4) := HB.out.trans (hb.mono HB.out.size)
    clear hb
    rw [← HN.out]
    have HTH : Hid (W4.there (w.heap.size + 1) 0 N.size) := bx_there kR fR (by rw [HNZ.out]; rfl)
    have kF : Hid (∀ o, (W4.setCells (w.heap.size + 1) 0 N.toList).cell? ⟨w.heap.size + 1, o, none⟩ = N[o]?) := bx_setCells kR (by rw [HNZ.out]; rfl)
    go_wp2_with (refine wpList_store_mid rfl 38 _ _ rfl _ _ N (by rfl) (by rfl) HTH.out HIN.out HONE.out ?_)
    refine bodyPost_ret (results_box Tryz.results24 _ _ _ N _ (by rfl) kF.out Tryz.underlying38 rfl HIN.out) rfl ⟨rfl, ?_⟩
    exact setCells_below (by omega) _ _ _ _ HB.out
  replace hok := hok.resolve_left hn0
  obtain ⟨rfl, hpe, rfl, b, off, rfl, hb0, q1⟩ := hok
  have hpe' : (pe == 0) = false := by simp [hpe]
  clear hpe
  have hn1 : (0 : Int) < (n : Int) := by omega
  have hn2 : decide ((0 : Int) < (n : Int)) = true := decide_eq_true hn1
  have hn3 : decide (0 < n) = true := decide_eq_true (by omega)
  have HWA : Hid (Below w.heap.size w ((w.alloc (.cells A 35)).alloc (.cells #[.int .i64 0, .int .i64 0, .int .i64 0, .int .i64 0, .bool false, .bool false, .slice none 0 0, .bool false, .int .i64 0, .bool false, .slice none 0 0, .slice none 0 0, .int .i64 0, .int .i64 0, .slice none 0 0, .slice none 0 0, .slice none 0 0, .bool false] 38)) ∧ ((w.alloc (.cells A 35)).alloc (.cells #[.int .i64 0, .int .i64 0, .int .i64 0, .int .i64 0, .bool false, .bool false, .slice none 0 0, .bool false, .int .i64 0, .bool false, .slice none 0 0, .slice none 0 0, .int .i64 0, .int .i64 0, .slice none 0 0, .slice none 0 0, .slice none 0 0, .bool false] 38)).heap.size = w.heap.size + 2 ∧ (∀ o, ((w.alloc (.cells A 35)).alloc (.cells #[.int .i64 0, .int .i64 0, .int .i64 0, .int .i64 0, .bool false, .bool false, .slice none 0 0, .bool false, .int .i64 0, .bool false, .slice none 0 0, .slice none 0 0, .int .i64 0, .int .i64 0, .slice none 0 0, .slice none 0 0, .slice none 0 0, .bool false] 38)).cell? ⟨w.heap.size, o, none⟩ = (A : Array Value)[o]?) ∧ (∀ o, ((w.alloc (.cells A 35)).alloc (.cells #[.int .i64 0, .int .i64 0, .int .i64 0, .int .i64 0, .bool false, .bool false, .slice none 0 0, .bool false, .int .i64 0, .bool false, .slice none 0 0, .slice none 0 0, .int .i64 0, .int .i64 0, .slice none 0 0, .slice none 0 0, .slice none 0 0, .bool false] 38)).cell? ⟨w.heap.size + 1, o, none⟩ = (#[.int .i64 0, .int .i64 0, .int .i64 0, .int .i64 0, .bool false, .bool false, .slice none 0 0, .bool false, .int .i64 0, .bool false, .slice none 0 0, .slice none 0 0, .int .i64 0, .int .i64 0, .slice none 0 0, .slice none 0 0, .slice none 0 0, .bool false] : Array Value)[o]?) ∧ (∀ o, ((w.alloc (.cells A 35)).alloc (.cells #[.int .i64 0, .int .i64 0, .int .i64 0, .int .i64 0, .bool false, .bool false, .slice none 0 0, .bool false, .int .i64 0, .bool false, .slice none 0 0, .slice none 0 0, .int .i64 0, .int .i64 0, .slice none 0 0, .slice none 0 0, .slice none 0 0, .bool false] 38)).frozen? ⟨w.heap.size + 1, o, none⟩ = false)) := ⟨(((Below.refl _ _).alloc (Nat.le_refl _) _).alloc (by simp) _), by simp, fun o => by simp [go_sem], fun o => by simp [go_sem], fun o => by simp [go_sem]⟩
  go_enter Tryz.func24, Tryz.ntmps24
  go_upto_region 1 with fail
  generalize hWW : ((w.alloc (.cells A 35)).alloc (.cells #[.int .i64 0, .int .i64 0, .int .i64 0, .int .i64 0, .bool false, .bool false, .slice none 0 0, .bool false, .int .i64 0, .bool false, .slice none 0 0, .slice none 0 0, .int .i64 0, .int .i64 0, .slice none 0 0, .slice none 0 0, .slice none 0 0, .bool false] 38)) = W1 at HWA ⊢
  clear hWW
  obtain ⟨hb, hsz, kA, kR, fR⟩ := HWA.out
  clear HWA
  have HB : Hid (Below w.heap.size w W1) := hb
  have zA : w.heap.size < W1.heap.size := by omega
  have zR : w.heap.size + 1 < W1.heap.size := by omega
  clear hb hsz
  go_wp2_with fail
  refine (HF.out _ HB.out kA).mono ?_
  rintro e W2 ⟨rfl, hb⟩
  replace kA := bx_below kA zA hb
  replace zA := Nat.lt_of_lt_of_le zA hb.size
  replace kR := bx_below kR zR hb
  replace fR := bxF fR hb zR
  replace zR := Nat.lt_of_lt_of_le zR hb.size
  replace HB : Hid (Below w.heap.size w W2) := HB.out.trans (hb.mono HB.out.size)
  clear hb
  clear HF
  have yc1 : W2.cell? ⟨b, off + 1, none⟩ = some (.int .i64 3) := (HB.out.cell (p := ⟨b, off + 1, none⟩) hb0).trans q1
  go_wp2_with (first | (go_at_call 52; refine (sInD _ _ _ _).mono ?_; rintro e w' ⟨rfl, hw⟩; subst w'; rw [HP1.out]) | (go_at_call 53; refine (sTickD _ _).mono ?_; rintro e w' ⟨rfl, hw⟩; subst w'; first | rw [HP2.out] | rw [HP3.out]))
  refine (HO.out _ HB.out kA).mono ?_
  rintro e w' ⟨rfl, hw⟩
  subst w'
  go_wp2_with fail
  refine (sBad9 7 _).mono ?_
  rintro e W4 ⟨rfl, hb⟩
  replace kA := bx_below kA zA hb
  replace zA := Nat.lt_of_lt_of_le zA hb.size
  replace kR := bx_below kR zR hb
  replace fR := bxF fR hb zR
  replace zR := Nat.lt_of_lt_of_le zR hb.size
  replace HB : Hid (Below w.heap.size w W4) := HB.out.trans (hb.mono HB.out.size)
  clear hb
  rw [← HN.out]
  have HTH : Hid (W4.there (w.heap.size + 1) 0 N.size) := bx_there kR fR (by rw [HNZ.out]; rfl)
  have kF : Hid (∀ o, (W4.setCells (w.heap.size + 1) 0 N.toList).cell? ⟨w.heap.size + 1, o, none⟩ = N[o]?) := bx_setCells kR (by rw [HNZ.out]; rfl)
  go_wp2_with (refine wpList_store_mid rfl 38 _ _ rfl _ _ N (by rfl) (by rfl) HTH.out HIN.out HONE.out ?_)
  refine bodyPost_ret (results_box Tryz.results24 _ _ _ N _ (by rfl) kF.out Tryz.underlying38 rfl HIN.out) rfl ⟨rfl, ?_⟩
  exact setCells_below (by omega) _ _ _ _ HB.out
set_option maxHeartbeats 8000000 in
theorem sDialOk (c : DConn) (A : Array Value) (p no nw : Int) (w : World) (st : Int) (jn : Bool) (B : Nat) (hr : shConn.Rd w B c A.toList) (hB : B ≤ w.heap.size) (hT : totConn c ≤ 1048576) (hF : connF c = 0) (hjn : jn = decide (0 < c.subs.length)) (g0 g1 : Int) (g2 g3 g4 : Bool) (g5 g6 g7 g8 g9 g10 : Int) (hgw : SRWf0 (g0, g1, g2, g3, g4, g5, g6, g7, g8, g9, g10, [], ())) (w0 : (Lit.int .i64 p).wf = true) (w1 : (Lit.int .i64 st).wf = true) (w2 : (Lit.int .i64 no).wf = true) (w3 : (Lit.int .i64 nw).wf = true) (h1 : inD p 0 2 = true) (h2 : inD no 0 1000000 = true) (h3 : inD nw 0 1000000 = true) (st0 : Int) (a13 : Option Addr) (cap : Nat) (x0 : A[0]? = some (.int .i64 0)) (x13 : A[13]? = some (.slice a13 c.subs.length cap)) (hok : c.subs.length = 0 ∨ (c.2.2.2.1 = false ∧ c.2.2.1 ≠ 0 ∧ st0 = 3 ∧ ∃ b off, a13 = some ⟨b, off, none⟩ ∧ b < w.heap.size ∧ w.cell? ⟨b, off + 1, none⟩ = some (.int .i64 st0))) (PL : Int) (hp : PL < 0) (hF0 : ∀ W, Below w.heap.size w W → (∀ o, W.cell? ⟨w.heap.size, o, none⟩ = A[o]?) → Calls Tryz.prog 29 #[.pointer (some ⟨w.heap.size, 0, none⟩)] W fun e w' => e = .returned (.int .i64 0) ∧ Below W.heap.size W w') (hO : ∀ W, Below w.heap.size w W → (∀ o, W.cell? ⟨w.heap.size, o, none⟩ = A[o]?) → Calls Tryz.prog 47 #[.pointer (some ⟨w.heap.size, 0, none⟩), .int .i64 p] W fun e w' => e = .returned (.int .i64 PL) ∧ w' = W)
    (hST : ∀ W, Below w.heap.size w W → Calls Tryz.prog 55 #[.int .i64 c.2.1, .int .i64 p] W fun e w' => e = .returned (.int .i64 st) ∧ Below W.heap.size W w')
    (hNS : ∀ W, Below w.heap.size w W → Calls Tryz.prog 54 #[.int .i64 p, .int .i64 st, .bool jn, .int .i64 no, .int .i64 nw] W fun e w' => e = .returned (.agg #[.int .i64 p, .int .i64 1, .bool jn, .int .i64 no, .int .i64 0, .int .i64 nw, .int .i64 st, .int .i64 0, .int .i64 0, .slice none 0 0, .int .i64 0, .int .i64 0, .slice none 0 0, .int .i64 16, .int .i64 64, .int .i64 0]) ∧ Below W.heap.size W w')
    (hAK : ∀ (W : World) (cb sb : Nat), cb < W.heap.size → sb < W.heap.size → W.cell? ⟨cb, 0, none⟩ = some (.int .i64 c.1) → W.cell? ⟨cb, 0 + 1, none⟩ = some (.int .i64 c.2.1) → W.cell? ⟨cb, 0 + 2, none⟩ = some (.int .i64 c.2.2.1) → W.cell? ⟨sb, 0, none⟩ = some (.int .i64 p) → W.cell? ⟨sb, 0 + 2, none⟩ = some (.bool jn) → W.cell? ⟨sb, 0 + 3, none⟩ = some (.int .i64 no) → W.cell? ⟨sb, 0 + 6, none⟩ = some (.int .i64 st) → Calls Tryz.prog 56 #[.pointer (some ⟨cb, 0, none⟩), .pointer (some ⟨sb, 0, none⟩)] W fun e w' => e = .returned (.agg #[.int .i64 g0, .int .i64 g1, .bool g2, .bool g3, .bool g4, .int .i64 g5, .int .i64 g6, .int .i64 g7, .int .i64 g8, .int .i64 g9, .int .i64 g10, .slice none 0 0]) ∧ Below W.heap.size W w') :
    Calls Tryz.prog 24 #[.agg A, .int .i64 p, .int .i64 no, .int .i64 nw] w fun e w' => ∃ N : Array Value, e = .returned (.agg N) ∧ Own w' w.heap.size w'.heap.size shCR (0, diaC c (newX p st jn no nw), [(g0, g1, g2, g3, g4, g5, g6, g7, g8, g9, g10, [], ())], [], false, ()) N.toList ∧ Below w.heap.size w w' := by
  have hA : A.size = 14 := rd_size hr
  have HI : Hid ((Tryz.prog.info? 35).map (·.size) = some A.toList.length) := by show _ = _; rw [Array.length_toList, hA]; exact (by kernel_rfl : (Tryz.prog.info? 35).map (·.size) = some 14)
  have HCP : Hid (∀ W, Below w.heap.size w W → Calls Tryz.prog 31 #[.agg A] W fun e w' => ∃ N : Array Value, e = .returned (.agg N) ∧ CopP w' W.heap.size c N ∧ Below W.heap.size W w') := fun W hW => sL9CopyS c A W B (Sh.Rd.below hr hB hW) (Nat.le_trans hB hW.size) hT hF
  have HP1 : Hid _ := h1
  have HP2 : Hid _ := h2
  have HP3 : Hid _ := h3
  have HF : Hid _ := hF0
  clear h1 h2 h3 hF0
  have HO : Hid _ := hO
  have HST : Hid _ := hST
  have HNS : Hid _ := hNS
  have HAK : Hid _ := hAK
  have HGW : Hid _ := hgw
  have HW0 : Hid _ := w0
  have HW1 : Hid _ := w1
  have HW2 : Hid _ := w2
  have HW3 : Hid _ := w3
  have hfew : c.subs.length ≤ 3 := subs_few (conn_ok hF).2.2.2.2.2.2.2.2.1
  have hp1 : decide (0 ≤ PL) = false := decide_eq_false (by omega)
  clear hO hST hNS hAK hgw w0 w1 w2 w3 hA hF
  obtain ⟨y0, y1, y2, y3, y4, d5, y6, y7, y8, d9, y10, y11, l, ⟨⟩⟩ := c
  obtain ⟨a5, c5, a9, c9, a9', c9', a12, c12, eA, -⟩ := rd_Conn hr
  replace hfew : l.length ≤ 3 := hfew
  obtain ⟨n, hn⟩ : ∃ n, l.length = n := ⟨_, rfl⟩
  have HLEN : Hid (l.length = n) := hn
  have x1 : A[1]? = some (.int .i64 y1) := get_of eA 1
  have x2 : A[2]? = some (.int .i64 y2) := get_of eA 2
  have x3 : A[3]? = some (.bool y3) := get_of eA 3
  replace x13 : A[13]? = some (.slice a13 n cap) := by rw [← hn]; exact x13
  replace hok : n = 0 ∨ (y3 = false ∧ y2 ≠ 0 ∧ st0 = 3 ∧ ∃ b off, a13 = some ⟨b, off, none⟩ ∧ b < w.heap.size ∧ w.cell? ⟨b, off + 1, none⟩ = some (.int .i64 st0)) := by rw [← hn]; exact hok
  replace hjn : jn = decide (0 < n) := by rw [hjn, ← hn]
  rw [hn] at hfew
  have hj1 : decide (0 < n) = jn := hjn.symm
  have hj2 : decide ((0 : Int) < (n : Int)) = jn := by rw [hjn]; simp
  clear hr eA hT hn hjn
  obtain ⟨XA, hXA⟩ : ∃ S : Array Value, S = #[.int .i64 p, .int .i64 1, .bool jn, .int .i64 no, .int .i64 0, .int .i64 nw, .int .i64 st, .int .i64 0, .int .i64 0, .slice none 0 0, .int .i64 0, .int .i64 0, .slice none 0 0, .int .i64 16, .int .i64 64, .int .i64 0] := ⟨_, rfl⟩
  have HXA : Hid _ := hXA
  have HXZ : Hid (XA.size = 16) := by show _ = _; rw [hXA]; rfl
  have HIXA : Hid ((Tryz.prog.info? 94).map (·.size) = some XA.size) := by show _ = _; rw [HXZ.out]; exact (by kernel_rfl : (Tryz.prog.info? 94).map (·.size) = some 16)
  have HONX : Hid (XA.all (·.oneCell') = true) := by show _ = _; rw [hXA]; simp [Value.oneCell']
  have HIXX : Hid ((Tryz.prog.info? 94).map (·.size) = some [Value.int .i64 p, .int .i64 1, .bool jn, .int .i64 no, .int .i64 0, .int .i64 nw, .int .i64 st, .int .i64 0, .int .i64 0, .slice none 0 0, .int .i64 0, .int .i64 0, .slice none 0 0, .int .i64 16, .int .i64 64, .int .i64 0].length) := (by kernel_rfl : (Tryz.prog.info? 94).map (·.size) = some 16)
  clear hXA
  show Calls _ _ _ _ fun e w' => ∃ N : Array Value, e = .returned (.agg N) ∧ Own w' w.heap.size w'.heap.size shCR (0, (y0, y1, y2, y3, y4, d5, y6, y7, y8, d9, y10, y11, (l ++ [newX p st jn no nw]), ()), [(g0, g1, g2, g3, g4, g5, g6, g7, g8, g9, g10, [], ())], [], false, ()) N.toList ∧ _
  have HWA : Hid (Below w.heap.size w ((w.alloc (.cells A 35)).alloc (.cells #[.int .i64 0, .int .i64 0, .int .i64 0, .int .i64 0, .bool false, .bool false, .slice none 0 0, .bool false, .int .i64 0, .bool false, .slice none 0 0, .slice none 0 0, .int .i64 0, .int .i64 0, .slice none 0 0, .slice none 0 0, .slice none 0 0, .bool false] 38)) ∧ ((w.alloc (.cells A 35)).alloc (.cells #[.int .i64 0, .int .i64 0, .int .i64 0, .int .i64 0, .bool false, .bool false, .slice none 0 0, .bool false, .int .i64 0, .bool false, .slice none 0 0, .slice none 0 0, .int .i64 0, .int .i64 0, .slice none 0 0, .slice none 0 0, .slice none 0 0, .bool false] 38)).heap.size = w.heap.size + 2 ∧ (∀ o, ((w.alloc (.cells A 35)).alloc (.cells #[.int .i64 0, .int .i64 0, .int .i64 0, .int .i64 0, .bool false, .bool false, .slice none 0 0, .bool false, .int .i64 0, .bool false, .slice none 0 0, .slice none 0 0, .int .i64 0, .int .i64 0, .slice none 0 0, .slice none 0 0, .slice none 0 0, .bool false] 38)).cell? ⟨w.heap.size, o, none⟩ = (A : Array Value)[o]?) ∧ (∀ o, ((w.alloc (.cells A 35)).alloc (.cells #[.int .i64 0, .int .i64 0, .int .i64 0, .int .i64 0, .bool false, .bool false, .slice none 0 0, .bool false, .int .i64 0, .bool false, .slice none 0 0, .slice none 0 0, .int .i64 0, .int .i64 0, .slice none 0 0, .slice none 0 0, .slice none 0 0, .bool false] 38)).cell? ⟨w.heap.size + 1, o, none⟩ = (#[.int .i64 0, .int .i64 0, .int .i64 0, .int .i64 0, .bool false, .bool false, .slice none 0 0, .bool false, .int .i64 0, .bool false, .slice none 0 0, .slice none 0 0, .int .i64 0, .int .i64 0, .slice none 0 0, .slice none 0 0, .slice none 0 0, .bool false] : Array Value)[o]?) ∧ (∀ o, ((w.alloc (.cells A 35)).alloc (.cells #[.int .i64 0, .int .i64 0, .int .i64 0, .int .i64 0, .bool false, .bool false, .slice none 0 0, .bool false, .int .i64 0, .bool false, .slice none 0 0, .slice none 0 0, .int .i64 0, .int .i64 0, .slice none 0 0, .slice none 0 0, .slice none 0 0, .bool false] 38)).frozen? ⟨w.heap.size + 1, o, none⟩ = false)) := ⟨(((Below.refl _ _).alloc (Nat.le_refl _) _).alloc (by simp) _), by simp, fun o => by simp [go_sem], fun o => by simp [go_sem], fun o => by simp [go_sem]⟩
  go_enter Tryz.func24, Tryz.ntmps24
  go_upto_region 1 with fail
  generalize hWW : ((w.alloc (.cells A 35)).alloc (.cells #[.int .i64 0, .int .i64 0, .int .i64 0, .int .i64 0, .bool false, .bool false, .slice none 0 0, .bool false, .int .i64 0, .bool false, .slice none 0 0, .slice none 0 0, .int .i64 0, .int .i64 0, .slice none 0 0, .slice none 0 0, .slice none 0 0, .bool false] 38)) = W1 at HWA ⊢
  clear hWW
  obtain ⟨hb, hsz, kA, kR, fR⟩ := HWA.out
  clear HWA
  have HB : Hid (Below w.heap.size w W1) := hb
  have zA : w.heap.size < W1.heap.size := by omega
  have zR : w.heap.size + 1 < W1.heap.size := by omega
  clear hb hsz
  go_wp2_with fail
  refine (HF.out _ HB.out kA).mono ?_
  rintro e W2 ⟨rfl, hb⟩
  replace kA := bx_below kA zA hb
  replace zA := Nat.lt_of_lt_of_le zA hb.size
  replace kR := bx_below kR zR hb
  replace fR := bxF fR hb zR
  replace zR := Nat.lt_of_lt_of_le zR hb.size
  replace HB : Hid (Below w.heap.size w W2) := HB.out.trans (hb.mono HB.out.size)
  clear hb
  clear HF
  go_upto_region 6 with (first | (go_at_call 52; refine (sInD _ _ _ _).mono ?_; rintro e w' ⟨rfl, hw⟩; subst w'; rw [HP1.out]) | (go_at_call 53; refine (sTickD _ _).mono ?_; rintro e w' ⟨rfl, hw⟩; subst w'; first | rw [HP2.out] | rw [HP3.out]))
  go_cut [56] (fun u wx => u = .bool false ∧ wx = W2)
  case first =>
    by_cases hn0 : n = 0
    case pos =>
      have hn3 : decide (0 < n) = false := decide_eq_false (by omega)
      clear hok hj1 hj2
      go_wp2_with fail
      go_meet
      exact ⟨rfl, rfl⟩
    replace hok := hok.resolve_left hn0
    obtain ⟨hy3, hpe, rfl, b, off, rfl, hb0, q1⟩ := hok
    rw [hy3] at x3
    clear hy3
    have hpe' : (y2 == 0) = false := by simp [hpe]
    have hn1 : (0 : Int) < (n : Int) := by omega
    have hn3 : decide (0 < n) = true := decide_eq_true (by omega)
    have yc1 : W2.cell? ⟨b, off + 1, none⟩ = some (.int .i64 3) := (HB.out.cell (p := ⟨b, off + 1, none⟩) hb0).trans q1
    clear hpe hj1 hj2
    go_wp2_with fail
    go_meet
    exact ⟨rfl, rfl⟩
  case rest =>
  rename World => wx
  obtain ⟨rfl, hwx⟩ := hcut
  subst wx
  clear hok
  go_wp2_with (first | (go_at_call 52; refine (sInD _ _ _ _).mono ?_; rintro e w' ⟨rfl, hw⟩; subst w'; rw [HP1.out]) | (go_at_call 53; refine (sTickD _ _).mono ?_; rintro e w' ⟨rfl, hw⟩; subst w'; first | rw [HP2.out] | rw [HP3.out]))
  refine (HO.out _ HB.out kA).mono ?_
  rintro e w' ⟨rfl, hw⟩
  subst w'
  go_wp2_with (refine wpList_load_mid rfl 35 _ rfl _ _ (by rfl) A.toList _ (bx_range kA) Tryz.underlying35 rfl HI.out ?_)
  refine (HCP.out _ HB.out).mono ?_
  rintro e W6 ⟨M, rfl, hcp, hb⟩
  have hoc := hcp.own
  have HMZ : Hid (M.size = 14) := rd_size (s := shConnO) (hoc.rd (Nat.le_refl _))
  have HIM : Hid ((Tryz.prog.info? 35).map (·.size) = some M.size) := by show _ = _; rw [HMZ.out]; exact (by kernel_rfl : (Tryz.prog.info? 35).map (·.size) = some 14)
  have HONM : Hid (M.all (·.oneCell') = true) := rd_all (s := shConnO) (hoc.rd (Nat.le_refl _))
  clear hoc
  obtain ⟨m5, m9, v5, v9, v10, v13, hMN, h5, h9, h12, l0, l1, l2, hwf⟩ := hcp
  have HMN : Hid (M = #[.int .i64 y0, .int .i64 y1, .int .i64 y2, .bool y3, .bool y4, v5, .bool y6, .int .i64 y7, .bool y8, v9, v10, .int .i64 y10, .int .i64 y11, v13]) := hMN
  have HWF : Hid _ := hwf
  obtain ⟨va, vc, hv13⟩ := row_form (h12.rd (Nat.le_refl _))
  simp only [List.cons.injEq, and_true] at hv13
  obtain ⟨t12, et12⟩ : ∃ x, x = W6.heap.size := ⟨_, rfl⟩
  obtain ⟨lo, hlo⟩ : ∃ x, x = W2.heap.size := ⟨_, rfl⟩
  rw [← hlo] at h5 l0
  rw [← et12] at h12 l2
  have lAL : w.heap.size < lo := by rw [hlo]; exact zA
  have lRL : w.heap.size + 1 < lo := by rw [hlo]; exact zR
  replace kA := bx_below kA zA hb
  replace zA := Nat.lt_of_lt_of_le zA hb.size
  replace kR := bx_below kR zR hb
  replace fR := bxF fR hb zR
  replace zR := Nat.lt_of_lt_of_le zR hb.size
  replace HB : Hid (Below w.heap.size w W6) := HB.out.trans (hb.mono HB.out.size)
  clear hb
  have X5 : Hid (Own W6 lo m5 u8s d5 [v5]) := h5
  have X9 : Hid (Own W6 m5 m9 gtS d9 [v9, v10]) := h9
  have X12 : Hid (Own W6 m9 t12 shSubsO l [v13]) := h12
  have lX5 : m5 ≤ W6.heap.size := by omega
  have lX9 : m9 ≤ W6.heap.size := by omega
  have lX12 : t12 ≤ W6.heap.size := by omega
  have HOB : Hid (∀ b, v13.ownBlock = some b → b < t12) := by obtain ⟨v', xs, F, e1, -, -, -, -, -, hv⟩ := Own.row_to (e := shSubO) h12; simp only [List.cons.injEq, and_true] at e1; subst e1; exact hv
  clear h5 h9 h12 hwf hMN hlo
  have HV13 : Hid (v13 = .slice va n vc) := by rw [← HLEN.out]; exact hv13
  clear hv13
  have hv := HV13.out
  subst hv
  clear HV13
  have HTH : Hid ((W6.alloc (.cells #[.int .i64 0, .int .i64 0, .int .i64 0, .bool false, .bool false, .slice none 0 0, .bool false, .int .i64 0, .bool false, .slice none 0 0, .slice none 0 0, .int .i64 0, .int .i64 0, .slice none 0 0] 35)).there W6.heap.size 0 M.size) := bx_there (bx_al _ _ _) (fx_al _ _ _) (by rw [HMZ.out]; rfl)
  have HWN : Hid (Below W6.heap.size W6 ((W6.alloc (.cells #[.int .i64 0, .int .i64 0, .int .i64 0, .bool false, .bool false, .slice none 0 0, .bool false, .int .i64 0, .bool false, .slice none 0 0, .slice none 0 0, .int .i64 0, .int .i64 0, .slice none 0 0] 35)).setCells W6.heap.size 0 M.toList) ∧ W6.heap.size < ((W6.alloc (.cells #[.int .i64 0, .int .i64 0, .int .i64 0, .bool false, .bool false, .slice none 0 0, .bool false, .int .i64 0, .bool false, .slice none 0 0, .slice none 0 0, .int .i64 0, .int .i64 0, .slice none 0 0] 35)).setCells W6.heap.size 0 M.toList).heap.size ∧ (∀ o, ((W6.alloc (.cells #[.int .i64 0, .int .i64 0, .int .i64 0, .bool false, .bool false, .slice none 0 0, .bool false, .int .i64 0, .bool false, .slice none 0 0, .slice none 0 0, .int .i64 0, .int .i64 0, .slice none 0 0] 35)).setCells W6.heap.size 0 M.toList).cell? ⟨W6.heap.size, o, none⟩ = M[o]?) ∧ (∀ o, ((W6.alloc (.cells #[.int .i64 0, .int .i64 0, .int .i64 0, .bool false, .bool false, .slice none 0 0, .bool false, .int .i64 0, .bool false, .slice none 0 0, .slice none 0 0, .int .i64 0, .int .i64 0, .slice none 0 0] 35)).setCells W6.heap.size 0 M.toList).frozen? ⟨W6.heap.size, o, none⟩ = false) ∧ (∃ cur, ((W6.alloc (.cells #[.int .i64 0, .int .i64 0, .int .i64 0, .bool false, .bool false, .slice none 0 0, .bool false, .int .i64 0, .bool false, .slice none 0 0, .slice none 0 0, .int .i64 0, .int .i64 0, .slice none 0 0] 35)).setCells W6.heap.size 0 M.toList).heap[W6.heap.size]? = some (.cells cur 35 (0, 0)))) := ⟨setCells_below (Nat.le_refl _) _ _ _ _ ((Below.refl _ _).alloc (Nat.le_refl _) _), by rw [setCells_size]; simp, bx_setCells (bx_al W6 _ _) (by rw [HMZ.out]; rfl), fx_sets (fx_al _ _ _), al_ty _ _ _ _⟩
  go_upto_region 11 with (first | (refine wpList_store_mid rfl 35 _ _ rfl _ _ M (by rfl) (by rfl) HTH.out HIM.out HONM.out ?_))
  generalize hWW : ((W6.alloc (.cells #[.int .i64 0, .int .i64 0, .int .i64 0, .bool false, .bool false, .slice none 0 0, .bool false, .int .i64 0, .bool false, .slice none 0 0, .slice none 0 0, .int .i64 0, .int .i64 0, .slice none 0 0] 35)).setCells W6.heap.size 0 M.toList) = W7 at HWN ⊢
  clear hWW HTH
  obtain ⟨hb, zD, kD, fD, tD⟩ := HWN.out
  clear HWN
  obtain ⟨bD, hq⟩ : ∃ q, q = W6.heap.size := ⟨_, rfl⟩
  rw [← hq] at zD kD fD tD ⊢
  have lAD : w.heap.size < bD := by rw [hq]; exact zA
  have lRD : w.heap.size + 1 < bD := by rw [hq]; exact zR
  have lX5D : m5 ≤ bD := by omega
  have lX9D : m9 ≤ bD := by omega
  have lX12D : t12 ≤ bD := by omega
  have lwD : w.heap.size ≤ bD := by rw [hq]; exact HB.out.size
  clear hq
  replace kA := bx_below kA zA hb
  replace zA := Nat.lt_of_lt_of_le zA hb.size
  replace kR := bx_below kR zR hb
  replace fR := bxF fR hb zR
  replace zR := Nat.lt_of_lt_of_le zR hb.size
  replace X5 : Hid (Own W7 lo m5 u8s d5 [v5]) := Own.below X5.out (by omega) hb
  replace lX5 : m5 ≤ W7.heap.size := Nat.le_trans lX5 hb.size
  replace X9 : Hid (Own W7 m5 m9 gtS d9 [v9, v10]) := Own.below X9.out (by omega) hb
  replace lX9 : m9 ≤ W7.heap.size := Nat.le_trans lX9 hb.size
  replace X12 : Hid (Own W7 m9 t12 shSubsO l [.slice va n vc]) := Own.below X12.out (by omega) hb
  replace lX12 : t12 ≤ W7.heap.size := Nat.le_trans lX12 hb.size
  replace HB : Hid (Below w.heap.size w W7) := HB.out.trans (hb.mono HB.out.size)
  clear hb
  rw [HMN.out] at kD
  clear HMN HMZ HIM HONM
  have HB0 : Hid (Below w.heap.size w W7) := HB.out
  have kA0 := kA
  have zA0 := zA
  simp only [Act.put]
  go_cut [11] (fun u wx => ∃ q, u = .pointer (some ⟨q, 0, none⟩) ∧ Hid (Below W7.heap.size W7 wx ∧ W7.heap.size ≤ q ∧ q < wx.heap.size ∧ (∀ o, wx.cell? ⟨q, o, none⟩ = XA[o]?)))
  case first =>
    refine wp_region_noPanic ?_
    refine Goes.start (S := fun w' => Below W7.heap.size W7 w') (z := 13) (by kernel_rfl) ?_
    have hbd : Below W7.heap.size W7 W7.drew := Below.drew (Below.refl _ _)
    generalize hWW : W7.drew = U0 at hbd ⊢
    clear hWW
    have HSU0 : Hid (Below W7.heap.size W7 U0) := hbd
    clear hbd
    refine Goes.take (i := 0) (oi := ?oi11) (x := ?vx11) ?ho11 (by kernel_rfl) (by kernel_rfl) (by kernel_rfl) (by kernel_rfl) (fun _ _ _ h => h) (Or.inl ⟨?hw11, ?hy11⟩) HSU0.out ?rest11
    case ho11 => (simp only [List.getElem?_toArray, List.getElem?_cons_zero] <;> rfl)
    case hw11 => rfl
    case hy11 => (intro w' hSw; have jA := fun o => (hSw.cell (p := ⟨w.heap.size, o, none⟩) zA0).trans (kA0 o); go_simp; (try with_reducible rfl))
    case rest11 =>
    (try simp only [Act.put, List.setIfInBounds_toArray, List.set_cons_zero, List.set_cons_succ])
    refine Goes.take (i := 1) (oi := ?oi12) (x := ?vx12) ?ho12 (by kernel_rfl) (by kernel_rfl) (by kernel_rfl) (by kernel_rfl) (fun _ _ _ h => h) (Or.inl ⟨?hw12, ?hy12⟩) HSU0.out ?rest12
    case ho12 => (simp only [List.getElem?_toArray, List.getElem?_cons_succ, List.getElem?_cons_zero] <;> rfl)
    case hw12 => rfl
    case hy12 => (intro w' hSw; have jA := fun o => (hSw.cell (p := ⟨w.heap.size, o, none⟩) zA0).trans (kA0 o); go_simp; (try with_reducible rfl))
    case rest12 =>
    (try simp only [Act.put, List.setIfInBounds_toArray, List.set_cons_zero, List.set_cons_succ])
    refine Goes.take (i := 2) (oi := ?oi13) (x := ?vx13) ?ho13 (by kernel_rfl) (by kernel_rfl) (by kernel_rfl) (by kernel_rfl) (fun _ _ _ h => h) (Or.inl ⟨?hw13, ?hy13⟩) HSU0.out ?rest13
    case ho13 => (simp only [List.getElem?_toArray, List.getElem?_cons_succ, List.getElem?_cons_zero] <;> rfl)
    case hw13 => rfl
    case hy13 => (intro w' hSw; have jA := fun o => (hSw.cell (p := ⟨w.heap.size, o, none⟩) zA0).trans (kA0 o); go_simp; (try with_reducible rfl))
    case rest13 =>
    (try simp only [Act.put, List.setIfInBounds_toArray, List.set_cons_zero, List.set_cons_succ])
    refine Goes.take (i := 3) (oi := ?oi14) (x := ?vx14) ?ho14 (by kernel_rfl) (by kernel_rfl) (by kernel_rfl) (by kernel_rfl) (fun _ _ _ h => h) (Or.inl ⟨?hw14, ?hy14⟩) HSU0.out ?rest14
    case ho14 => (simp only [List.getElem?_toArray, List.getElem?_cons_succ, List.getElem?_cons_zero] <;> rfl)
    case hw14 => rfl
    case hy14 => (intro w' hSw; have jA := fun o => (hSw.cell (p := ⟨w.heap.size, o, none⟩) zA0).trans (kA0 o); go_simp; (try with_reducible rfl))
    case rest14 =>
    (try simp only [Act.put, List.setIfInBounds_toArray, List.set_cons_zero, List.set_cons_succ])
    refine Goes.take (i := 5) (oi := ?oi15) (x := ?vx15) ?ho15 (by kernel_rfl) (by kernel_rfl) (by kernel_rfl) (by kernel_rfl) (fun _ _ _ h => h) (Or.inl ⟨?hw15, ?hy15⟩) HSU0.out ?rest15
    case ho15 => (simp only [List.getElem?_toArray, List.getElem?_cons_succ, List.getElem?_cons_zero] <;> rfl)
    case hw15 => rfl
    case hy15 => (intro w' hSw; have jA := fun o => (hSw.cell (p := ⟨w.heap.size, o, none⟩) zA0).trans (kA0 o); go_simp; (try with_reducible rfl))
    case rest15 =>
    (try simp only [Act.put, List.setIfInBounds_toArray, List.set_cons_zero, List.set_cons_succ])
    refine Goes.take (i := 6) (oi := ?oi16) (x := ?vx16) ?ho16 (by kernel_rfl) (by kernel_rfl) (by kernel_rfl) (by kernel_rfl) (fun _ _ _ h => h) (Or.inl ⟨?hw16, ?hy16⟩) HSU0.out ?rest16
    case ho16 => (simp only [List.getElem?_toArray, List.getElem?_cons_succ, List.getElem?_cons_zero] <;> rfl)
    case hw16 => rfl
    case hy16 => (intro w' hSw; have jA := fun o => (hSw.cell (p := ⟨w.heap.size, o, none⟩) zA0).trans (kA0 o); go_simp; (try with_reducible rfl))
    case rest16 =>
    (try simp only [Act.put, List.setIfInBounds_toArray, List.set_cons_zero, List.set_cons_succ])
    refine Goes.take (i := 7) (oi := ?oi17) (x := ?vx17) ?ho17 (by kernel_rfl) (by kernel_rfl) (by kernel_rfl) (by kernel_rfl) (fun _ _ _ h => h) (Or.inl ⟨?hw17, ?hy17⟩) HSU0.out ?rest17
    case ho17 => (simp only [List.getElem?_toArray, List.getElem?_cons_succ, List.getElem?_cons_zero] <;> rfl)
    case hw17 => rfl
    case hy17 => (intro w' hSw; have jA := fun o => (hSw.cell (p := ⟨w.heap.size, o, none⟩) zA0).trans (kA0 o); go_simp; (try with_reducible rfl))
    case rest17 =>
    (try simp only [Act.put, List.setIfInBounds_toArray, List.set_cons_zero, List.set_cons_succ])
    refine Goes.take (i := 8) (oi := ?oi18) (x := ?vx18) ?ho18 (by kernel_rfl) (by kernel_rfl) (by kernel_rfl) (by kernel_rfl) (fun _ _ _ h => h) (Or.inl ⟨?hw18, ?hy18⟩) HSU0.out ?rest18
    case ho18 => (simp only [List.getElem?_toArray, List.getElem?_cons_succ, List.getElem?_cons_zero] <;> rfl)
    case hw18 => rfl
    case hy18 => (intro w' hSw; have jA := fun o => (hSw.cell (p := ⟨w.heap.size, o, none⟩) zA0).trans (kA0 o); go_simp; (try with_reducible rfl))
    case rest18 =>
    (try simp only [Act.put, List.setIfInBounds_toArray, List.set_cons_zero, List.set_cons_succ])
    refine Goes.take (i := 9) (oi := ?oi19) (x := ?vx19) ?ho19 (by kernel_rfl) (by kernel_rfl) (by kernel_rfl) (by kernel_rfl) (fun _ _ _ h => h) (Or.inl ⟨?hw19, ?hy19⟩) HSU0.out ?rest19
    case ho19 => (simp only [List.getElem?_toArray, List.getElem?_cons_succ, List.getElem?_cons_zero] <;> rfl)
    case hw19 => rfl
    case hy19 => (intro w' hSw; have jA := fun o => (hSw.cell (p := ⟨w.heap.size, o, none⟩) zA0).trans (kA0 o); go_simp; (try with_reducible rfl))
    case rest19 =>
    (try simp only [Act.put, List.setIfInBounds_toArray, List.set_cons_zero, List.set_cons_succ])
    refine Goes.take (i := 10) (oi := ?oi20) (x := ?vx20) ?ho20 (by kernel_rfl) (by kernel_rfl) (by kernel_rfl) (by kernel_rfl) (fun _ _ _ h => h) (Or.inl ⟨?hw20, ?hy20⟩) HSU0.out ?rest20
    case ho20 => (simp only [List.getElem?_toArray, List.getElem?_cons_succ, List.getElem?_cons_zero] <;> rfl)
    case hw20 => rfl
    case hy20 => (intro w' hSw; have jA := fun o => (hSw.cell (p := ⟨w.heap.size, o, none⟩) zA0).trans (kA0 o); go_simp; (try with_reducible rfl))
    case rest20 =>
    (try simp only [Act.put, List.setIfInBounds_toArray, List.set_cons_zero, List.set_cons_succ])
    refine Goes.all (rs := [4, 12]) (by kernel_rfl) (by simp) ?_
    refine (Ups.cons (i := 4) (o := ?oo21) ?ho21 (fun KK hKK => ?stp21) (Ups.cons (i := 12) (o := ?oo22) ?ho22 (fun KK hKK => ?stp22) Ups.nil))
    case ho21 => (simp only [List.getElem?_toArray, List.getElem?_cons_succ, List.getElem?_cons_zero] <;> rfl)
    case ho22 => (simp only [List.getElem?_toArray, List.getElem?_cons_succ, List.getElem?_cons_zero] <;> rfl)
    case stp21 =>
      go_simp
      go_at_call 55
      refine (HST.out _ (HB0.out.trans (HSU0.out.mono HB0.out.size))).mono ?_
      rintro e U1 ⟨rfl, hb⟩
      have HSU1 : Hid (Below W7.heap.size W7 U1) := HSU0.out.trans (hb.mono HSU0.out.size)
      clear hb
      dsimp only
      refine hKK.out _ _ (Or.inr HSU1.out) ?_
      clear hKK KK
      (try simp only [Act.put, List.setIfInBounds_toArray, List.set_cons_zero, List.set_cons_succ])
      refine Goes.all (rs := [11, 12]) (by kernel_rfl) (by simp) ?_
      refine (Ups.cons (i := 11) (o := ?oo23) ?ho23 (fun KK hKK => ?stp23) (Ups.cons (i := 12) (o := ?oo24) ?ho24 (fun KK hKK => ?stp24) Ups.nil))
      case ho23 => (simp only [List.getElem?_toArray, List.getElem?_cons_succ, List.getElem?_cons_zero] <;> rfl)
      case ho24 => (simp only [List.getElem?_toArray, List.getElem?_cons_succ, List.getElem?_cons_zero] <;> rfl)
      case stp23 =>
        go_simp
        go_at_call 54
        refine (HNS.out _ (HB0.out.trans (HSU1.out.mono HB0.out.size))).mono ?_
        rintro e U2 ⟨rfl, hb⟩
        have HSU2 : Hid (Below W7.heap.size W7 U2) := HSU1.out.trans (hb.mono HSU1.out.size)
        clear hb
        dsimp only
        refine hKK.out _ _ (Or.inr HSU2.out) ?_
        clear hKK KK
        (try simp only [Act.put, List.setIfInBounds_toArray, List.set_cons_zero, List.set_cons_succ])
        refine Goes.all (rs := [12]) (by kernel_rfl) (by simp) ?_
        refine (Ups.cons (i := 12) (o := ?oo25) ?ho25 (fun KK hKK => ?stp25) Ups.nil)
        case ho25 => (simp only [List.getElem?_toArray, List.getElem?_cons_succ, List.getElem?_cons_zero] <;> rfl)
        case stp25 =>
          go_simp
          have hb : Below U2.heap.size U2 (U2.alloc (.cells #[.int .i64 0, .int .i64 0, .bool false, .int .i64 0, .int .i64 0, .int .i64 0, .int .i64 0, .int .i64 0, .int .i64 0, .slice none 0 0, .int .i64 0, .int .i64 0, .slice none 0 0, .int .i64 0, .int .i64 0, .int .i64 0] 94)) := (Below.refl _ _).alloc (Nat.le_refl _) _
          have HSU3 : Hid (Below W7.heap.size W7 (U2.alloc (.cells #[.int .i64 0, .int .i64 0, .bool false, .int .i64 0, .int .i64 0, .int .i64 0, .int .i64 0, .int .i64 0, .int .i64 0, .slice none 0 0, .int .i64 0, .int .i64 0, .slice none 0 0, .int .i64 0, .int .i64 0, .int .i64 0] 94))) := HSU2.out.trans (hb.mono HSU2.out.size)
          refine hKK.out _ _ (Or.inr HSU3.out) ?_
          clear hKK KK
          (try simp only [Act.put, List.setIfInBounds_toArray, List.set_cons_zero, List.set_cons_succ])
          have kP : ∀ o, (U2.alloc (.cells #[.int .i64 0, .int .i64 0, .bool false, .int .i64 0, .int .i64 0, .int .i64 0, .int .i64 0, .int .i64 0, .int .i64 0, .slice none 0 0, .int .i64 0, .int .i64 0, .slice none 0 0, .int .i64 0, .int .i64 0, .int .i64 0] 94)).cell? ⟨U2.heap.size, o, none⟩ = (#[.int .i64 0, .int .i64 0, .bool false, .int .i64 0, .int .i64 0, .int .i64 0, .int .i64 0, .int .i64 0, .int .i64 0, .slice none 0 0, .int .i64 0, .int .i64 0, .slice none 0 0, .int .i64 0, .int .i64 0, .int .i64 0] : Array Value)[o]? := bx_al U2 _ _
          have fP : ∀ o, (U2.alloc (.cells #[.int .i64 0, .int .i64 0, .bool false, .int .i64 0, .int .i64 0, .int .i64 0, .int .i64 0, .int .i64 0, .int .i64 0, .slice none 0 0, .int .i64 0, .int .i64 0, .slice none 0 0, .int .i64 0, .int .i64 0, .int .i64 0] 94)).frozen? ⟨U2.heap.size, o, none⟩ = false := fx_al U2 _ _
          have zP : U2.heap.size < (U2.alloc (.cells #[.int .i64 0, .int .i64 0, .bool false, .int .i64 0, .int .i64 0, .int .i64 0, .int .i64 0, .int .i64 0, .int .i64 0, .slice none 0 0, .int .i64 0, .int .i64 0, .slice none 0 0, .int .i64 0, .int .i64 0, .int .i64 0] 94)).heap.size := by simp
          generalize hWW : (U2.alloc (.cells #[.int .i64 0, .int .i64 0, .bool false, .int .i64 0, .int .i64 0, .int .i64 0, .int .i64 0, .int .i64 0, .int .i64 0, .slice none 0 0, .int .i64 0, .int .i64 0, .slice none 0 0, .int .i64 0, .int .i64 0, .int .i64 0] 94)) = U3 at hb kP fP zP HSU3 ⊢
          clear hWW hb
          obtain ⟨bP, hq⟩ : ∃ q, q = U2.heap.size := ⟨_, rfl⟩
          rw [← hq] at kP fP zP ⊢
          have lP : W7.heap.size ≤ bP := by rw [hq]; exact HSU2.out.size
          clear hq
          refine Goes.all (rs := [13]) (by kernel_rfl) (by simp) ?_
          refine (Ups.cons (i := 13) (o := ?oo26) ?ho26 (fun KK hKK => ?stp26) Ups.nil)
          case ho26 => (simp only [List.getElem?_toArray, List.getElem?_cons_succ, List.getElem?_cons_zero] <;> rfl)
          case stp26 =>
          rw [if_pos (by rfl)]
          refine wp_store_mid 94 _ _ rfl _ _ XA (by rfl) (by rw [HXA.out]; rfl) (bx_there kP fP (by rw [HXZ.out]; rfl)) HIXA.out HONX.out ?_
          refine hKK.out _ _ (Or.inl rfl) ?_
          clear hKK KK
          (try simp only [Act.put])
          refine Goes.done (by kernel_rfl) ?_ _
          refine NoPanic.normal ?_
          go_wp2_with fail
          go_meet
          exact ⟨bP, rfl, ⟨setCells_below lP _ _ _ _ HSU3.out, lP, by rw [setCells_size]; exact zP, bx_setCells kP (by rw [HXZ.out]; rfl)⟩⟩
      case stp24 =>
        go_simp
        have hb : Below U1.heap.size U1 (U1.alloc (.cells #[.int .i64 0, .int .i64 0, .bool false, .int .i64 0, .int .i64 0, .int .i64 0, .int .i64 0, .int .i64 0, .int .i64 0, .slice none 0 0, .int .i64 0, .int .i64 0, .slice none 0 0, .int .i64 0, .int .i64 0, .int .i64 0] 94)) := (Below.refl _ _).alloc (Nat.le_refl _) _
        have HSU4 : Hid (Below W7.heap.size W7 (U1.alloc (.cells #[.int .i64 0, .int .i64 0, .bool false, .int .i64 0, .int .i64 0, .int .i64 0, .int .i64 0, .int .i64 0, .int .i64 0, .slice none 0 0, .int .i64 0, .int .i64 0, .slice none 0 0, .int .i64 0, .int .i64 0, .int .i64 0] 94))) := HSU1.out.trans (hb.mono HSU1.out.size)
        refine hKK.out _ _ (Or.inr HSU4.out) ?_
        clear hKK KK
        (try simp only [Act.put, List.setIfInBounds_toArray, List.set_cons_zero, List.set_cons_succ])
        have kP : ∀ o, (U1.alloc (.cells #[.int .i64 0, .int .i64 0, .bool false, .int .i64 0, .int .i64 0, .int .i64 0, .int .i64 0, .int .i64 0, .int .i64 0, .slice none 0 0, .int .i64 0, .int .i64 0, .slice none 0 0, .int .i64 0, .int .i64 0, .int .i64 0] 94)).cell? ⟨U1.heap.size, o, none⟩ = (#[.int .i64 0, .int .i64 0, .bool false, .int .i64 0, .int .i64 0, .int .i64 0, .int .i64 0, .int .i64 0, .int .i64 0, .slice none 0 0, .int .i64 0, .int .i64 0, .slice none 0 0, .int .i64 0, .int .i64 0, .int .i64 0] : Array Value)[o]? := bx_al U1 _ _
        have fP : ∀ o, (U1.alloc (.cells #[.int .i64 0, .int .i64 0, .bool false, .int .i64 0, .int .i64 0, .int .i64 0, .int .i64 0, .int .i64 0, .int .i64 0, .slice none 0 0, .int .i64 0, .int .i64 0, .slice none 0 0, .int .i64 0, .int .i64 0, .int .i64 0] 94)).frozen? ⟨U1.heap.size, o, none⟩ = false := fx_al U1 _ _
        have zP : U1.heap.size < (U1.alloc (.cells #[.int .i64 0, .int .i64 0, .bool false, .int .i64 0, .int .i64 0, .int .i64 0, .int .i64 0, .int .i64 0, .int .i64 0, .slice none 0 0, .int .i64 0, .int .i64 0, .slice none 0 0, .int .i64 0, .int .i64 0, .int .i64 0] 94)).heap.size := by simp
        generalize hWW : (U1.alloc (.cells #[.int .i64 0, .int .i64 0, .bool false, .int .i64 0, .int .i64 0, .int .i64 0, .int .i64 0, .int .i64 0, .int .i64 0, .slice none 0 0, .int .i64 0, .int .i64 0, .slice none 0 0, .int .i64 0, .int .i64 0, .int .i64 0] 94)) = U4 at hb kP fP zP HSU4 ⊢
        clear hWW hb
        obtain ⟨bP, hq⟩ : ∃ q, q = U1.heap.size := ⟨_, rfl⟩
        rw [← hq] at kP fP zP ⊢
        have lP : W7.heap.size ≤ bP := by rw [hq]; exact HSU1.out.size
        clear hq
        refine Goes.all (rs := [11]) (by kernel_rfl) (by simp) ?_
        refine (Ups.cons (i := 11) (o := ?oo27) ?ho27 (fun KK hKK => ?stp27) Ups.nil)
        case ho27 => (simp only [List.getElem?_toArray, List.getElem?_cons_succ, List.getElem?_cons_zero] <;> rfl)
        case stp27 =>
          go_simp
          go_at_call 54
          refine (HNS.out _ (HB0.out.trans (HSU4.out.mono HB0.out.size))).mono ?_
          rintro e U5 ⟨rfl, hb⟩
          have HSU5 : Hid (Below W7.heap.size W7 U5) := HSU4.out.trans (hb.mono HSU4.out.size)
          replace kP := bx_below kP zP hb
          replace fP := bxF fP hb zP
          replace zP := Nat.lt_of_lt_of_le zP hb.size
          clear hb
          dsimp only
          refine hKK.out _ _ (Or.inr HSU5.out) ?_
          clear hKK KK
          (try simp only [Act.put, List.setIfInBounds_toArray, List.set_cons_zero, List.set_cons_succ])
          refine Goes.all (rs := [13]) (by kernel_rfl) (by simp) ?_
          refine (Ups.cons (i := 13) (o := ?oo28) ?ho28 (fun KK hKK => ?stp28) Ups.nil)
          case ho28 => (simp only [List.getElem?_toArray, List.getElem?_cons_succ, List.getElem?_cons_zero] <;> rfl)
          case stp28 =>
          rw [if_pos (by rfl)]
          refine wp_store_mid 94 _ _ rfl _ _ XA (by rfl) (by rw [HXA.out]; rfl) (bx_there kP fP (by rw [HXZ.out]; rfl)) HIXA.out HONX.out ?_
          refine hKK.out _ _ (Or.inl rfl) ?_
          clear hKK KK
          (try simp only [Act.put])
          refine Goes.done (by kernel_rfl) ?_ _
          refine NoPanic.normal ?_
          go_wp2_with fail
          go_meet
          exact ⟨bP, rfl, ⟨setCells_below lP _ _ _ _ HSU5.out, lP, by rw [setCells_size]; exact zP, bx_setCells kP (by rw [HXZ.out]; rfl)⟩⟩
    case stp22 =>
      go_simp
      have hb : Below U0.heap.size U0 (U0.alloc (.cells #[.int .i64 0, .int .i64 0, .bool false, .int .i64 0, .int .i64 0, .int .i64 0, .int .i64 0, .int .i64 0, .int .i64 0, .slice none 0 0, .int .i64 0, .int .i64 0, .slice none 0 0, .int .i64 0, .int .i64 0, .int .i64 0] 94)) := (Below.refl _ _).alloc (Nat.le_refl _) _
      have HSU6 : Hid (Below W7.heap.size W7 (U0.alloc (.cells #[.int .i64 0, .int .i64 0, .bool false, .int .i64 0, .int .i64 0, .int .i64 0, .int .i64 0, .int .i64 0, .int .i64 0, .slice none 0 0, .int .i64 0, .int .i64 0, .slice none 0 0, .int .i64 0, .int .i64 0, .int .i64 0] 94))) := HSU0.out.trans (hb.mono HSU0.out.size)
      refine hKK.out _ _ (Or.inr HSU6.out) ?_
      clear hKK KK
      (try simp only [Act.put, List.setIfInBounds_toArray, List.set_cons_zero, List.set_cons_succ])
      have kP : ∀ o, (U0.alloc (.cells #[.int .i64 0, .int .i64 0, .bool false, .int .i64 0, .int .i64 0, .int .i64 0, .int .i64 0, .int .i64 0, .int .i64 0, .slice none 0 0, .int .i64 0, .int .i64 0, .slice none 0 0, .int .i64 0, .int .i64 0, .int .i64 0] 94)).cell? ⟨U0.heap.size, o, none⟩ = (#[.int .i64 0, .int .i64 0, .bool false, .int .i64 0, .int .i64 0, .int .i64 0, .int .i64 0, .int .i64 0, .int .i64 0, .slice none 0 0, .int .i64 0, .int .i64 0, .slice none 0 0, .int .i64 0, .int .i64 0, .int .i64 0] : Array Value)[o]? := bx_al U0 _ _
      have fP : ∀ o, (U0.alloc (.cells #[.int .i64 0, .int .i64 0, .bool false, .int .i64 0, .int .i64 0, .int .i64 0, .int .i64 0, .int .i64 0, .int .i64 0, .slice none 0 0, .int .i64 0, .int .i64 0, .slice none 0 0, .int .i64 0, .int .i64 0, .int .i64 0] 94)).frozen? ⟨U0.heap.size, o, none⟩ = false := fx_al U0 _ _
      have zP : U0.heap.size < (U0.alloc (.cells #[.int .i64 0, .int .i64 0, .bool false, .int .i64 0, .int .i64 0, .int .i64 0, .int .i64 0, .int .i64 0, .int .i64 0, .slice none 0 0, .int .i64 0, .int .i64 0, .slice none 0 0, .int .i64 0, .int .i64 0, .int .i64 0] 94)).heap.size := by simp
      generalize hWW : (U0.alloc (.cells #[.int .i64 0, .int .i64 0, .bool false, .int .i64 0, .int .i64 0, .int .i64 0, .int .i64 0, .int .i64 0, .int .i64 0, .slice none 0 0, .int .i64 0, .int .i64 0, .slice none 0 0, .int .i64 0, .int .i64 0, .int .i64 0] 94)) = U6 at hb kP fP zP HSU6 ⊢
      clear hWW hb
      obtain ⟨bP, hq⟩ : ∃ q, q = U0.heap.size := ⟨_, rfl⟩
      rw [← hq] at kP fP zP ⊢
      have lP : W7.heap.size ≤ bP := by rw [hq]; exact HSU0.out.size
      clear hq
      refine Goes.all (rs := [4]) (by kernel_rfl) (by simp) ?_
      refine (Ups.cons (i := 4) (o := ?oo29) ?ho29 (fun KK hKK => ?stp29) Ups.nil)
      case ho29 => (simp only [List.getElem?_toArray, List.getElem?_cons_succ, List.getElem?_cons_zero] <;> rfl)
      case stp29 =>
        go_simp
        go_at_call 55
        refine (HST.out _ (HB0.out.trans (HSU6.out.mono HB0.out.size))).mono ?_
        rintro e U7 ⟨rfl, hb⟩
        have HSU7 : Hid (Below W7.heap.size W7 U7) := HSU6.out.trans (hb.mono HSU6.out.size)
        replace kP := bx_below kP zP hb
        replace fP := bxF fP hb zP
        replace zP := Nat.lt_of_lt_of_le zP hb.size
        clear hb
        dsimp only
        refine hKK.out _ _ (Or.inr HSU7.out) ?_
        clear hKK KK
        (try simp only [Act.put, List.setIfInBounds_toArray, List.set_cons_zero, List.set_cons_succ])
        refine Goes.all (rs := [11]) (by kernel_rfl) (by simp) ?_
        refine (Ups.cons (i := 11) (o := ?oo30) ?ho30 (fun KK hKK => ?stp30) Ups.nil)
        case ho30 => (simp only [List.getElem?_toArray, List.getElem?_cons_succ, List.getElem?_cons_zero] <;> rfl)
        case stp30 =>
          go_simp
          go_at_call 54
          refine (HNS.out _ (HB0.out.trans (HSU7.out.mono HB0.out.size))).mono ?_
          rintro e U8 ⟨rfl, hb⟩
          have HSU8 : Hid (Below W7.heap.size W7 U8) := HSU7.out.trans (hb.mono HSU7.out.size)
          replace kP := bx_below kP zP hb
          replace fP := bxF fP hb zP
          replace zP := Nat.lt_of_lt_of_le zP hb.size
          clear hb
          dsimp only
          refine hKK.out _ _ (Or.inr HSU8.out) ?_
          clear hKK KK
          (try simp only [Act.put, List.setIfInBounds_toArray, List.set_cons_zero, List.set_cons_succ])
          refine Goes.all (rs := [13]) (by kernel_rfl) (by simp) ?_
          refine (Ups.cons (i := 13) (o := ?oo31) ?ho31 (fun KK hKK => ?stp31) Ups.nil)
          case ho31 => (simp only [List.getElem?_toArray, List.getElem?_cons_succ, List.getElem?_cons_zero] <;> rfl)
          case stp31 =>
          rw [if_pos (by rfl)]
          refine wp_store_mid 94 _ _ rfl _ _ XA (by rfl) (by rw [HXA.out]; rfl) (bx_there kP fP (by rw [HXZ.out]; rfl)) HIXA.out HONX.out ?_
          refine hKK.out _ _ (Or.inl rfl) ?_
          clear hKK KK
          (try simp only [Act.put])
          refine Goes.done (by kernel_rfl) ?_ _
          refine NoPanic.normal ?_
          go_wp2_with fail
          go_meet
          exact ⟨bP, rfl, ⟨setCells_below lP _ _ _ _ HSU8.out, lP, by rw [setCells_size]; exact zP, bx_setCells kP (by rw [HXZ.out]; rfl)⟩⟩
  case rest =>
  rename World => W8
  obtain ⟨q, rfl, hcut⟩ := hcut
  obtain ⟨hb, lqq, zX, kX⟩ := hcut.out
  clear hcut HB0 kA0 zA0 HST HNS
  rw [HXA.out] at kX
  have lAX : w.heap.size < q := by omega
  have lRX : w.heap.size + 1 < q := by omega
  have lDX : bD < q := by omega
  have lt12 : t12 ≤ q := by omega
  replace kA := bx_below kA zA hb
  replace zA := Nat.lt_of_lt_of_le zA hb.size
  replace kR := bx_below kR zR hb
  replace fR := bxF fR hb zR
  replace zR := Nat.lt_of_lt_of_le zR hb.size
  replace kD := bx_below kD zD hb
  replace tD : ∃ cur, W8.heap[bD]? = some (.cells cur 35 (0, 0)) := by obtain ⟨cur, h⟩ := tD; exact ⟨cur, (hb.block _ zD).trans h⟩
  replace fD := bxF fD hb zD
  replace zD := Nat.lt_of_lt_of_le zD hb.size
  replace X5 : Hid (Own W8 lo m5 u8s d5 [v5]) := Own.below X5.out (by omega) hb
  replace lX5 : m5 ≤ W8.heap.size := Nat.le_trans lX5 hb.size
  replace X9 : Hid (Own W8 m5 m9 gtS d9 [v9, v10]) := Own.below X9.out (by omega) hb
  replace lX9 : m9 ≤ W8.heap.size := Nat.le_trans lX9 hb.size
  replace X12 : Hid (Own W8 m9 t12 shSubsO l [.slice va n vc]) := Own.below X12.out (by omega) hb
  replace lX12 : t12 ≤ W8.heap.size := Nat.le_trans lX12 hb.size
  replace HB : Hid (Below w.heap.size w W8) := HB.out.trans (hb.mono HB.out.size)
  clear hb
  clear lqq HXA HXZ HIXA HONX
  go_upto_region 13 with (first | (refine wpList_load_mid rfl 94 _ rfl _ _ (by rfl) [.int .i64 p, .int .i64 1, .bool jn, .int .i64 no, .int .i64 0, .int .i64 nw, .int .i64 st, .int .i64 0, .int .i64 0, .slice none 0 0, .int .i64 0, .int .i64 0, .slice none 0 0, .int .i64 16, .int .i64 64, .int .i64 0] _ (bx_range (A := #[.int .i64 p, .int .i64 1, .bool jn, .int .i64 no, .int .i64 0, .int .i64 nw, .int .i64 st, .int .i64 0, .int .i64 0, .slice none 0 0, .int .i64 0, .int .i64 0, .slice none 0 0, .int .i64 16, .int .i64 64, .int .i64 0]) kX) Tryz.underlying94 rfl HIXX.out ?_) | (at_builtin; go_loud (refine app_elem W8 rfl _ _ 33 94 rfl shSubO (.agg #[.int .i64 0, .int .i64 0, .bool false, .int .i64 0, .int .i64 0, .int .i64 0, .int .i64 0, .int .i64 0, .int .i64 0, .slice none 0 0, .int .i64 0, .int .i64 0, .slice none 0 0, .int .i64 0, .int .i64 0, .int .i64 0]) 160 Tryz.underlying33 info_S16 rfl (by decide) (by decide) m9 t12 W8.heap.size W8.heap.size l (.slice va n vc) (by rfl) (by rfl) X12.out (newX p st jn no nw) [.int .i64 p, .int .i64 1, .bool jn, .int .i64 no, .int .i64 0, .int .i64 nw, .int .i64 st, .int .i64 0, .int .i64 0, .slice none 0 0, .int .i64 0, .int .i64 0, .slice none 0 0, .int .i64 16, .int .i64 64, .int .i64 0] (own_newX (Nat.le_refl _) HW0.out HW1.out HW2.out HW3.out) l2 (by omega) (Nat.le_refl _) (by rw [HLEN.out]; omega) (by omega) ?_; intro v3 w8 ho3 hb3 hk3 hs3; obtain ⟨va3, vc3, hv3⟩ := row_form (ho3.rd (Nat.le_refl _)); simp only [List.cons.injEq, and_true, List.length_append, List.length_cons, List.length_nil, HLEN.out] at hv3; subst hv3; have HX3 : Hid (Own w8 m9 w8.heap.size shSubsO (l ++ [newX p st jn no nw]) [.slice va3 (n + 1) vc3] ∧ Below m9 W8 w8 ∧ W8.heap.size < w8.heap.size ∧ w8.heap[q]? = W8.heap[q]?) := ⟨ho3, hb3, hs3, hk3 q zX (fun e => (by have := HOB.out q e; omega))⟩; have hbk : w8.heap[bD]? = W8.heap[bD]? := hk3 bD zD (fun e => (by have := HOB.out bD e; omega)); replace tD : ∃ cur, w8.heap[bD]? = some (.cells cur 35 (0, 0)) := (by obtain ⟨cur, h⟩ := tD; exact ⟨cur, hbk.trans h⟩); replace kD := bx_keep kD hbk; replace fD := fx_keepD fD hbk; clear ho3 hb3 hk3 hs3 hbk)))
  obtain ⟨ho3, hb3, hs3, hkX⟩ := HX3.out
  clear HX3 HOB X12 lX12 lX12D
  have hz8 := hb3.size
  replace kX := bx_keep kX hkX
  clear hkX
  replace zX : q < w8.heap.size := by omega
  replace X5 : Hid (Own w8 lo m5 u8s d5 [v5]) := Own.below X5.out l1 hb3
  replace X9 : Hid (Own w8 m5 m9 gtS d9 [v9, v10]) := Own.below X9.out (Nat.le_refl _) hb3
  replace lX5 : m5 ≤ w8.heap.size := by omega
  replace lX9 : m9 ≤ w8.heap.size := by omega
  have X13 : Hid (Own w8 m9 w8.heap.size shSubsO (l ++ [newX p st jn no nw]) [.slice va3 (n + 1) vc3]) := ho3
  clear ho3
  replace kA := bxB kA hb3 (by omega)
  replace zA : w.heap.size < w8.heap.size := by omega
  replace kR := bxB kR hb3 (by omega)
  replace fR := bxF fR hb3 (by omega)
  replace zR : w.heap.size + 1 < w8.heap.size := by omega
  replace zD : bD < w8.heap.size := by omega
  replace HB : Hid (Below w.heap.size w w8) := HB.out.trans (hb3.mono (by omega))
  clear hb3 hs3 hz8
  obtain ⟨cur, htD⟩ := tD
  replace X13 : Hid (Own (w8.setCell ⟨bD, 13, none⟩ (.slice va3 (n + 1) vc3)) m9 (w8.setCell ⟨bD, 13, none⟩ (.slice va3 (n + 1) vc3)).heap.size shSubsO (l ++ [newX p st jn no nw]) [.slice va3 (n + 1) vc3]) := by have h : (w8.setCell ⟨bD, 13, none⟩ (.slice va3 (n + 1) vc3)).heap.size = w8.heap.size := (by simp); show Own _ _ _ _ _ _; rw [h]; exact Own.off X13.out htD (by decide) (fun b h1 h2 h3 => Below.heap_setCell _ _ _ _ (by dsimp only; omega))
  clear htD
  replace kD := bx_put kD (k := 13) (v := .slice va3 (n + 1) vc3) (by simp)
  simp only [List.setIfInBounds_toArray, List.set_cons_zero, List.set_cons_succ] at kD
  replace kA : ∀ o, (w8.setCell ⟨bD, 13, none⟩ (.slice va3 (n + 1) vc3)).cell? ⟨w.heap.size, o, none⟩ = (A)[o]? := bx_setC kA (by omega)
  replace zA : w.heap.size < (w8.setCell ⟨bD, 13, none⟩ (.slice va3 (n + 1) vc3)).heap.size := by have h : (w8.setCell ⟨bD, 13, none⟩ (.slice va3 (n + 1) vc3)).heap.size = w8.heap.size := (by simp); omega
  replace kR : ∀ o, (w8.setCell ⟨bD, 13, none⟩ (.slice va3 (n + 1) vc3)).cell? ⟨w.heap.size + 1, o, none⟩ = (#[.int .i64 0, .int .i64 0, .int .i64 0, .int .i64 0, .bool false, .bool false, .slice none 0 0, .bool false, .int .i64 0, .bool false, .slice none 0 0, .slice none 0 0, .int .i64 0, .int .i64 0, .slice none 0 0, .slice none 0 0, .slice none 0 0, .bool false] : Array Value)[o]? := bx_setC kR (by omega)
  replace fR : ∀ o, (w8.setCell ⟨bD, 13, none⟩ (.slice va3 (n + 1) vc3)).frozen? ⟨w.heap.size + 1, o, none⟩ = false := fx_setC fR
  replace zR : w.heap.size + 1 < (w8.setCell ⟨bD, 13, none⟩ (.slice va3 (n + 1) vc3)).heap.size := by have h : (w8.setCell ⟨bD, 13, none⟩ (.slice va3 (n + 1) vc3)).heap.size = w8.heap.size := (by simp); omega
  replace fD : ∀ o, (w8.setCell ⟨bD, 13, none⟩ (.slice va3 (n + 1) vc3)).frozen? ⟨bD, o, none⟩ = false := fx_setC fD
  replace zD : bD < (w8.setCell ⟨bD, 13, none⟩ (.slice va3 (n + 1) vc3)).heap.size := by have h : (w8.setCell ⟨bD, 13, none⟩ (.slice va3 (n + 1) vc3)).heap.size = w8.heap.size := (by simp); omega
  replace kX : ∀ o, (w8.setCell ⟨bD, 13, none⟩ (.slice va3 (n + 1) vc3)).cell? ⟨q, o, none⟩ = (#[.int .i64 p, .int .i64 1, .bool jn, .int .i64 no, .int .i64 0, .int .i64 nw, .int .i64 st, .int .i64 0, .int .i64 0, .slice none 0 0, .int .i64 0, .int .i64 0, .slice none 0 0, .int .i64 16, .int .i64 64, .int .i64 0] : Array Value)[o]? := bx_setC kX (by omega)
  replace zX : q < (w8.setCell ⟨bD, 13, none⟩ (.slice va3 (n + 1) vc3)).heap.size := by have h : (w8.setCell ⟨bD, 13, none⟩ (.slice va3 (n + 1) vc3)).heap.size = w8.heap.size := (by simp); omega
  replace X5 : Hid (Own (w8.setCell ⟨bD, 13, none⟩ (.slice va3 (n + 1) vc3)) lo m5 u8s d5 [v5]) := Own.keep X5.out (fun b h1 h2 => Below.heap_setCell _ _ _ _ (by dsimp only; omega))
  replace lX5 : m5 ≤ (w8.setCell ⟨bD, 13, none⟩ (.slice va3 (n + 1) vc3)).heap.size := by have h : (w8.setCell ⟨bD, 13, none⟩ (.slice va3 (n + 1) vc3)).heap.size = w8.heap.size := (by simp); omega
  replace X9 : Hid (Own (w8.setCell ⟨bD, 13, none⟩ (.slice va3 (n + 1) vc3)) m5 m9 gtS d9 [v9, v10]) := Own.keep X9.out (fun b h1 h2 => Below.heap_setCell _ _ _ _ (by dsimp only; omega))
  replace lX9 : m9 ≤ (w8.setCell ⟨bD, 13, none⟩ (.slice va3 (n + 1) vc3)).heap.size := by have h : (w8.setCell ⟨bD, 13, none⟩ (.slice va3 (n + 1) vc3)).heap.size = w8.heap.size := (by simp); omega
  replace HB : Hid (Below w.heap.size w (w8.setCell ⟨bD, 13, none⟩ (.slice va3 (n + 1) vc3))) := Below.setCell (p := ⟨bD, 13, none⟩) HB.out (by dsimp only; omega) _
  generalize hWW : (w8.setCell ⟨bD, 13, none⟩ (.slice va3 (n + 1) vc3)) = W9 at kA zA kR zR fR kD zD fD kX zX X5 lX5 X9 lX9 X13 HB ⊢
  clear hWW
  obtain ⟨t13, et13⟩ : ∃ x, x = W9.heap.size := ⟨_, rfl⟩
  rw [← et13] at X13
  have lX13 : t13 ≤ W9.heap.size := by omega
  have lm9 : m9 ≤ t13 := by omega
  have lz : ∀ x : Nat, x < W9.heap.size → x < t13 := fun x h => by omega
  have lDt := lz _ zD
  have lRt := lz _ zR
  clear et13 lz
  have HID : Hid ((Tryz.prog.info? 35).map (·.size) = some [Value.int .i64 y0, .int .i64 y1, .int .i64 y2, .bool y3, .bool y4, v5, .bool y6, .int .i64 y7, .bool y8, v9, v10, .int .i64 y10, .int .i64 y11, .slice va3 (n + 1) vc3].length) := (by kernel_rfl : (Tryz.prog.info? 35).map (·.size) = some 14)
  have kD0 := kD
  have zD0 := zD
  refine wp_region_noPanic ?_
  refine Goes.start (S := fun w' => Below W9.heap.size W9 w') (z := 4) (by kernel_rfl) ?_
  have hb : Below W9.heap.size W9 W9.drew := Below.drew (Below.refl _ _)
  generalize hWW : W9.drew = W10 at hb ⊢
  clear hWW
  have HS0 : Hid (Below W9.heap.size W9 W10) := hb
  replace kA := bx_below kA zA hb
  replace zA := Nat.lt_of_lt_of_le zA hb.size
  replace kR := bx_below kR zR hb
  replace fR := bxF fR hb zR
  replace zR := Nat.lt_of_lt_of_le zR hb.size
  replace kD := bx_below kD zD hb
  replace fD := bxF fD hb zD
  replace zD := Nat.lt_of_lt_of_le zD hb.size
  replace kX := bx_below kX zX hb
  replace zX := Nat.lt_of_lt_of_le zX hb.size
  replace X5 : Hid (Own W10 lo m5 u8s d5 [v5]) := Own.below X5.out (by omega) hb
  replace lX5 : m5 ≤ W10.heap.size := Nat.le_trans lX5 hb.size
  replace X9 : Hid (Own W10 m5 m9 gtS d9 [v9, v10]) := Own.below X9.out (by omega) hb
  replace lX9 : m9 ≤ W10.heap.size := Nat.le_trans lX9 hb.size
  replace X13 : Hid (Own W10 m9 t13 shSubsO (l ++ [newX p st jn no nw]) [.slice va3 (n + 1) vc3]) := Own.below X13.out (by omega) hb
  replace lX13 : t13 ≤ W10.heap.size := Nat.le_trans lX13 hb.size
  replace HB : Hid (Below w.heap.size w W10) := HB.out.trans (hb.mono HB.out.size)
  clear hb
  refine Goes.take (i := 0) (oi := ?oi111) (x := .agg ([.int .i64 y0, .int .i64 y1, .int .i64 y2, .bool y3, .bool y4, v5, .bool y6, .int .i64 y7, .bool y8, v9, v10, .int .i64 y10, .int .i64 y11, .slice va3 (n + 1) vc3]).toArray) ?ho111 (by kernel_rfl) (by kernel_rfl) (by kernel_rfl) (by kernel_rfl) (fun _ _ _ h => h) ?hy111 HS0.out ?rest111
  case ho111 => (simp only [List.getElem?_toArray, List.getElem?_cons_zero] <;> rfl)
  case hy111 => exact yieldsIf_load_mid (by rfl) 35 _ rfl (bD) (0) (by rfl) ([.int .i64 y0, .int .i64 y1, .int .i64 y2, .bool y3, .bool y4, v5, .bool y6, .int .i64 y7, .bool y8, v9, v10, .int .i64 y10, .int .i64 y11, .slice va3 (n + 1) vc3]) _ (fun w' hSw => bx_range (A := #[.int .i64 y0, .int .i64 y1, .int .i64 y2, .bool y3, .bool y4, v5, .bool y6, .int .i64 y7, .bool y8, v9, v10, .int .i64 y10, .int .i64 y11, .slice va3 (n + 1) vc3]) (fun o => (hSw.cell (p := ⟨bD, o, none⟩) zD0).trans (kD0 o))) Tryz.underlying35 rfl HID.out
  case rest111 =>
  (try simp only [Act.put, List.setIfInBounds_toArray, List.set_cons_zero, List.set_cons_succ])
  refine Goes.all (rs := [1]) (by kernel_rfl) (by simp) ?_
  refine Ups.cons (i := 1) (o := ?oo112) ?ho112 (fun KK hKK => ?stp112) Ups.nil
  case ho112 => (simp only [List.getElem?_toArray, List.getElem?_cons_succ, List.getElem?_cons_zero] <;> rfl)
  case stp112 =>
  go_simp
  go_at_call 56
  refine (HAK.out _ bD q zD zX (kD 0) (kD 1) (kD 2) (kX 0) (kX 2) (kX 3) (kX 6)).mono ?_
  rintro e W11 ⟨rfl, hb⟩
  have HS1 : Hid (Below W9.heap.size W9 W11) := HS0.out.trans (hb.mono HS0.out.size)
  replace kA := bx_below kA zA hb
  replace zA := Nat.lt_of_lt_of_le zA hb.size
  replace kR := bx_below kR zR hb
  replace fR := bxF fR hb zR
  replace zR := Nat.lt_of_lt_of_le zR hb.size
  replace kD := bx_below kD zD hb
  replace fD := bxF fD hb zD
  replace zD := Nat.lt_of_lt_of_le zD hb.size
  replace kX := bx_below kX zX hb
  replace zX := Nat.lt_of_lt_of_le zX hb.size
  replace X5 : Hid (Own W11 lo m5 u8s d5 [v5]) := Own.below X5.out (by omega) hb
  replace lX5 : m5 ≤ W11.heap.size := Nat.le_trans lX5 hb.size
  replace X9 : Hid (Own W11 m5 m9 gtS d9 [v9, v10]) := Own.below X9.out (by omega) hb
  replace lX9 : m9 ≤ W11.heap.size := Nat.le_trans lX9 hb.size
  replace X13 : Hid (Own W11 m9 t13 shSubsO (l ++ [newX p st jn no nw]) [.slice va3 (n + 1) vc3]) := Own.below X13.out (by omega) hb
  replace lX13 : t13 ≤ W11.heap.size := Nat.le_trans lX13 hb.size
  replace HB : Hid (Below w.heap.size w W11) := HB.out.trans (hb.mono HB.out.size)
  clear hb
  dsimp only
  refine hKK.out _ _ (Or.inr HS1.out) ?_
  clear hKK KK
  (try simp only [Act.put, List.setIfInBounds_toArray, List.set_cons_zero, List.set_cons_succ])
  refine Goes.all (rs := [2]) (by kernel_rfl) (by simp) ?_
  refine Ups.cons (i := 2) (o := ?oo113) ?ho113 (fun KK hKK => ?stp113) Ups.nil
  case ho113 => (simp only [List.getElem?_toArray, List.getElem?_cons_succ, List.getElem?_cons_zero] <;> rfl)
  case stp113 =>
  go_simp
  have hb : Below W11.heap.size W11 (W11.alloc (.cells #[.int .i64 g0, .int .i64 g1, .bool g2, .bool g3, .bool g4, .int .i64 g5, .int .i64 g6, .int .i64 g7, .int .i64 g8, .int .i64 g9, .int .i64 g10, .slice none 0 0] 55)) := (Below.refl _ _).alloc (Nat.le_refl _) _
  have HS2 : Hid (Below W9.heap.size W9 (W11.alloc (.cells #[.int .i64 g0, .int .i64 g1, .bool g2, .bool g3, .bool g4, .int .i64 g5, .int .i64 g6, .int .i64 g7, .int .i64 g8, .int .i64 g9, .int .i64 g10, .slice none 0 0] 55))) := HS1.out.trans (hb.mono HS1.out.size)
  refine hKK.out _ _ (Or.inr HS2.out) ?_
  clear hKK KK
  (try simp only [Act.put, List.setIfInBounds_toArray, List.set_cons_zero, List.set_cons_succ])
  have hsg := own_seg1 W11 (g2 := g2) (g3 := g3) (g4 := g4) HGW.out
  have hsz : (W11.alloc (.cells #[.int .i64 g0, .int .i64 g1, .bool g2, .bool g3, .bool g4, .int .i64 g5, .int .i64 g6, .int .i64 g7, .int .i64 g8, .int .i64 g9, .int .i64 g10, .slice none 0 0] 55)).heap.size = W11.heap.size + 1 := by simp
  generalize hWW : (W11.alloc (.cells #[.int .i64 g0, .int .i64 g1, .bool g2, .bool g3, .bool g4, .int .i64 g5, .int .i64 g6, .int .i64 g7, .int .i64 g8, .int .i64 g9, .int .i64 g10, .slice none 0 0] 55)) = W12 at hb HS2 hsg hsz ⊢
  clear hWW
  obtain ⟨bS, hbS⟩ : ∃ q, q = W11.heap.size := ⟨_, rfl⟩
  rw [← hbS] at hsg hsz ⊢
  have lt : t13 ≤ bS := by rw [hbS]; exact lX13
  clear hbS
  replace kA := bx_below kA zA hb
  replace zA := Nat.lt_of_lt_of_le zA hb.size
  replace kR := bx_below kR zR hb
  replace fR := bxF fR hb zR
  replace zR := Nat.lt_of_lt_of_le zR hb.size
  replace kD := bx_below kD zD hb
  replace fD := bxF fD hb zD
  replace zD := Nat.lt_of_lt_of_le zD hb.size
  replace kX := bx_below kX zX hb
  replace zX := Nat.lt_of_lt_of_le zX hb.size
  replace X5 : Hid (Own W12 lo m5 u8s d5 [v5]) := Own.below X5.out (by omega) hb
  replace lX5 : m5 ≤ W12.heap.size := Nat.le_trans lX5 hb.size
  replace X9 : Hid (Own W12 m5 m9 gtS d9 [v9, v10]) := Own.below X9.out (by omega) hb
  replace lX9 : m9 ≤ W12.heap.size := Nat.le_trans lX9 hb.size
  replace X13 : Hid (Own W12 m9 t13 shSubsO (l ++ [newX p st jn no nw]) [.slice va3 (n + 1) vc3]) := Own.below X13.out (by omega) hb
  replace lX13 : t13 ≤ W12.heap.size := Nat.le_trans lX13 hb.size
  replace HB : Hid (Below w.heap.size w W12) := HB.out.trans (hb.mono HB.out.size)
  clear hb
  have XS : Hid (Own W12 bS W12.heap.size shSegms [(g0, g1, g2, g3, g4, g5, g6, g7, g8, g9, g10, [], ())] [.slice (some ⟨bS, 0, none⟩) 1 1]) := by rw [hsz]; exact hsg
  clear hsg
  obtain ⟨N, hN⟩ : ∃ N : Array Value, N = #[.int .i64 0, .int .i64 y0, .int .i64 y1, .int .i64 y2, .bool y3, .bool y4, v5, .bool y6, .int .i64 y7, .bool y8, v9, v10, .int .i64 y10, .int .i64 y11, .slice va3 (n + 1) vc3, .slice (some ⟨bS, 0, none⟩) 1 1, .slice none 0 0, .bool false] := ⟨_, rfl⟩
  have HN : Hid _ := hN
  have hNz : N.size = 18 := by rw [hN]; rfl
  have HIN : Hid ((Tryz.prog.info? 38).map (·.size) = some N.size) := by show _ = _; rw [hNz]; exact info_R18
  have HNZ : Hid _ := hNz
  have HRES : Hid (Own W12 lo W12.heap.size shCR (0, (y0, y1, y2, y3, y4, d5, y6, y7, y8, d9, y10, y11, (l ++ [newX p st jn no nw]), ()), [(g0, g1, g2, g3, g4, g5, g6, g7, g8, g9, g10, [], ())], [], false, ()) N.toList) := by show Own _ _ _ _ _ _; rw [hN]; exact own_CRs (mi := bS) (by omega) (by omega) (Own.mono (own_ConnO9 X5.out X9.out X13.out l0 l1 lm9 HWF.out) (Nat.le_refl _) lt) XS.out
  have HONE : Hid (N.all (·.oneCell') = true) := rd_all (s := shCR) (HRES.out.rd (Nat.le_refl _))
  have HTH : Hid (W12.there (w.heap.size + 1) 0 N.size) := bx_there kR fR (by rw [HNZ.out]; rfl)
  have kF : Hid (∀ o, (W12.setCells (w.heap.size + 1) 0 N.toList).cell? ⟨w.heap.size + 1, o, none⟩ = N[o]?) := bx_setCells kR (by rw [HNZ.out]; rfl)
  clear hN hNz
  refine Goes.take (i := 3) (oi := ?oi114) (x := ?vx114) ?ho114 (by kernel_rfl) (by kernel_rfl) (by kernel_rfl) (by kernel_rfl) (fun _ _ _ h => h) (Or.inl ⟨?hw114, ?hy114⟩) HS2.out ?rest114
  case ho114 => (simp only [List.getElem?_toArray, List.getElem?_cons_succ, List.getElem?_cons_zero] <;> rfl)
  case hw114 => rfl
  case hy114 => (intro w' hSw; go_simp; (try with_reducible rfl))
  case rest114 =>
  (try simp only [Act.put, List.setIfInBounds_toArray, List.set_cons_zero, List.set_cons_succ])
  refine Goes.all (rs := [4]) (by kernel_rfl) (by simp) ?_
  refine Ups.cons (i := 4) (o := ?oo115) ?ho115 (fun KK hKK => ?stp115) Ups.nil
  case ho115 => (simp only [List.getElem?_toArray, List.getElem?_cons_succ, List.getElem?_cons_zero] <;> rfl)
  case stp115 =>
  rw [if_pos (by rfl)]
  refine wp_store_mid 38 _ _ rfl _ _ N (by rfl) (by rw [HN.out]; rfl) HTH.out HIN.out HONE.out ?_
  refine hKK.out _ _ (Or.inl rfl) ?_
  clear hKK KK
  (try simp only [Act.put])
  refine Goes.done (by kernel_rfl) ?_ _
  refine NoPanic.normal ?_
  go_wp2_with fail
  refine bodyPost_ret (results_box Tryz.results24 _ _ _ N _ (by rfl) kF.out Tryz.underlying38 rfl HIN.out) rfl ⟨N, rfl, ?_, ?_⟩
  · refine Own.mono (Own.keep HRES.out fun b hb hlt => setCells_block (by omega) _ _ _) (by omega) (by rw [setCells_size]; omega)
  · exact setCells_below (by omega) _ _ _ _ HB.out
end Go.Proofs.YtbdibjeemgkdaaaGreatDoor
