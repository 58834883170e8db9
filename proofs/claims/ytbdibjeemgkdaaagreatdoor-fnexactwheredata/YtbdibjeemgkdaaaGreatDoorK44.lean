/- WhereData by program and model; nothing that was in memory turns; no condition but that there are at most a million parts and errors' own variable is as it is laid. Written by mkwhere.py. -/
import Derived.Test.YtbdibjeemgkdaaaGreatDoorRows
import Derived.Deep.RegionHeld3
import Derived.Deep.DeepCutAuto
import Derived.Deep.DeepMust
import Derived.Deep.CutRange
import Derived.Deep.MidRow
import Derived.Test.YtbdibjeemgkdaaaGreatDoorK01
import Derived.Test.YtbdibjeemgkdaaaGreatDoorK02
import Derived.Test.YtbdibjeemgkdaaaGreatDoorK03
import Derived.Test.YtbdibjeemgkdaaaGreatDoorK04
import Derived.Test.YtbdibjeemgkdaaaGreatDoorK05
import Derived.Test.YtbdibjeemgkdaaaGreatDoorK06
import Derived.Test.YtbdibjeemgkdaaaGreatDoorK09
import Derived.Test.YtbdibjeemgkdaaaGreatDoorK10
import Derived.Test.YtbdibjeemgkdaaaGreatDoorK11
import Derived.Test.YtbdibjeemgkdaaaGreatDoorK12
import Derived.Test.YtbdibjeemgkdaaaGreatDoorK13
import Derived.Test.YtbdibjeemgkdaaaGreatDoorK14
import Derived.Test.YtbdibjeemgkdaaaGreatDoorK15
import Derived.Test.YtbdibjeemgkdaaaGreatDoorK16
import Derived.Test.YtbdibjeemgkdaaaGreatDoorK17
import Derived.Test.YtbdibjeemgkdaaaGreatDoorK20
import Derived.Test.YtbdibjeemgkdaaaGreatDoorK21
import Derived.Test.YtbdibjeemgkdaaaGreatDoorK25
import Derived.Test.YtbdibjeemgkdaaaGreatDoorK39
import Derived.Test.YtbdibjeemgkdaaaGreatDoorK43
namespace Go.Proofs.YtbdibjeemgkdaaaGreatDoor
open Go.RowKit
set_option linter.unusedVariables false
set_option maxRecDepth 8000

theorem ErrLaid.belowW {w W : World} (h : ErrLaid w) (hb : Below w.heap.size w W) : ErrLaid W := by
  have hlt : 0 < w.heap.size := by
    rcases Nat.eq_zero_or_pos w.heap.size with h0 | h1
    · unfold ErrLaid at h; simp [World.cell?, h0] at h
    · exact h1
  unfold ErrLaid at *
  rw [hb.cell (p := ⟨0, 0, none⟩) hlt]; exact h
theorem iMayPlace (A SG : Array Value) (C1 C2 : Int) (w : World) (hA : A.size = 14) (hS : SG.size = 12) (hF : ∀ W, Below w.heap.size w W → Calls Tryz.prog 86 #[.agg A] W fun e w' => e = .returned (.int .i64 C1) ∧ Below W.heap.size W w') (hG : ∀ W, Below w.heap.size w W → Calls Tryz.prog 87 #[.agg SG] W fun e w' => e = .returned (.int .i64 C2) ∧ Below W.heap.size W w') :
    Calls Tryz.prog 49 #[.agg A, .agg SG] w fun e w' => e = .returned (if C1 = 0 then (if C2 = 0 then .nilIface else .iface 128 (.agg #[.int .i64 C2])) else .iface 128 (.agg #[.int .i64 C1])) ∧ Below w.heap.size w w' := by
  have HI : Hid ((Tryz.prog.info? 35).map (·.size) = some A.toList.length) := by show _ = _; rw [Array.length_toList, hA]; exact (by kernel_rfl : (Tryz.prog.info? 35).map (·.size) = some 14)
  have HIS : Hid ((Tryz.prog.info? 55).map (·.size) = some SG.toList.length) := by show _ = _; rw [Array.length_toList, hS]; exact (by kernel_rfl : (Tryz.prog.info? 55).map (·.size) = some 12)
  have HF : Hid _ := hF
  have HG : Hid _ := hG
  clear hA hS hF hG
  by_cases h1 : C1 = 0
  case neg =>
    rw [if_neg h1]
    have h1' : (C1 != 0) = true := by simp [h1]
    clear h1
    have HWA : Hid (Below w.heap.size w ((w.alloc (.cells A 35)).alloc (.cells SG 55)) ∧ ((w.alloc (.cells A 35)).alloc (.cells SG 55)).heap.size = w.heap.size + 2 ∧ (∀ o, ((w.alloc (.cells A 35)).alloc (.cells SG 55)).cell? ⟨w.heap.size, o, none⟩ = (A : Array Value)[o]?) ∧ (∀ o, ((w.alloc (.cells A 35)).alloc (.cells SG 55)).cell? ⟨w.heap.size + 1, o, none⟩ = (SG : Array Value)[o]?)) := ⟨(((Below.refl _ _).alloc (Nat.le_refl _) _).alloc (by simp) _), by simp, fun o => by simp [go_sem], fun o => by simp [go_sem]⟩
    go_enter Tryz.func49, Tryz.ntmps49
    go_upto_region 1 with fail
    generalize hWW : ((w.alloc (.cells A 35)).alloc (.cells SG 55)) = W1 at HWA ⊢
    clear hWW
    obtain ⟨hb, hsz, kA, kS⟩ := HWA.out
    clear HWA
    have HB : Hid (Below w.heap.size w W1) := hb
    have zA : w.heap.size < W1.heap.size := by omega
    have zS : w.heap.size + 1 < W1.heap.size := by omega
    clear hb hsz
    go_wp2_with (first | (refine wpList_load_mid rfl 35 _ rfl _ _ (by rfl) A.toList _ (bx_range kA) Tryz.underlying35 rfl HI.out ?_))
    refine (HF.out _ HB.out).mono ?_
    rintro e W2 ⟨rfl, hb⟩
    replace kA := bx_below kA zA hb
    replace zA := Nat.lt_of_lt_of_le zA hb.size
    replace kS := bx_below kS zS hb
    replace zS := Nat.lt_of_lt_of_le zS hb.size
    replace HB : Hid (Below w.heap.size w W2) := HB.out.trans (hb.mono HB.out.size)
    clear hb
    go_wp2_with fail
    go_ret
    exact ⟨rfl, HB.out⟩
  rw [if_pos h1]
  subst h1
  by_cases h2 : C2 = 0
  case neg =>
    rw [if_neg h2]
    have h2' : (C2 != 0) = true := by simp [h2]
    clear h2
    have HWA : Hid (Below w.heap.size w ((w.alloc (.cells A 35)).alloc (.cells SG 55)) ∧ ((w.alloc (.cells A 35)).alloc (.cells SG 55)).heap.size = w.heap.size + 2 ∧ (∀ o, ((w.alloc (.cells A 35)).alloc (.cells SG 55)).cell? ⟨w.heap.size, o, none⟩ = (A : Array Value)[o]?) ∧ (∀ o, ((w.alloc (.cells A 35)).alloc (.cells SG 55)).cell? ⟨w.heap.size + 1, o, none⟩ = (SG : Array Value)[o]?)) := ⟨(((Below.refl _ _).alloc (Nat.le_refl _) _).alloc (by simp) _), by simp, fun o => by simp [go_sem], fun o => by simp [go_sem]⟩
    go_enter Tryz.func49, Tryz.ntmps49
    go_upto_region 1 with fail
    generalize hWW : ((w.alloc (.cells A 35)).alloc (.cells SG 55)) = W1 at HWA ⊢
    clear hWW
    obtain ⟨hb, hsz, kA, kS⟩ := HWA.out
    clear HWA
    have HB : Hid (Below w.heap.size w W1) := hb
    have zA : w.heap.size < W1.heap.size := by omega
    have zS : w.heap.size + 1 < W1.heap.size := by omega
    clear hb hsz
    go_wp2_with (first | (refine wpList_load_mid rfl 35 _ rfl _ _ (by rfl) A.toList _ (bx_range kA) Tryz.underlying35 rfl HI.out ?_))
    refine (HF.out _ HB.out).mono ?_
    rintro e W2 ⟨rfl, hb⟩
    replace kA := bx_below kA zA hb
    replace zA := Nat.lt_of_lt_of_le zA hb.size
    replace kS := bx_below kS zS hb
    replace zS := Nat.lt_of_lt_of_le zS hb.size
    replace HB : Hid (Below w.heap.size w W2) := HB.out.trans (hb.mono HB.out.size)
    clear hb
    go_wp2_with (first | (refine wpList_load_mid rfl 55 _ rfl _ _ (by rfl) SG.toList _ (bx_range kS) Tryz.underlying55 rfl HIS.out ?_))
    refine (HG.out _ HB.out).mono ?_
    rintro e W3 ⟨rfl, hb⟩
    replace kA := bx_below kA zA hb
    replace zA := Nat.lt_of_lt_of_le zA hb.size
    replace kS := bx_below kS zS hb
    replace zS := Nat.lt_of_lt_of_le zS hb.size
    replace HB : Hid (Below w.heap.size w W3) := HB.out.trans (hb.mono HB.out.size)
    clear hb
    go_wp2_with fail
    go_ret
    exact ⟨rfl, HB.out⟩
  case pos =>
    rw [if_pos h2]
    subst h2
    have HWA : Hid (Below w.heap.size w ((w.alloc (.cells A 35)).alloc (.cells SG 55)) ∧ ((w.alloc (.cells A 35)).alloc (.cells SG 55)).heap.size = w.heap.size + 2 ∧ (∀ o, ((w.alloc (.cells A 35)).alloc (.cells SG 55)).cell? ⟨w.heap.size, o, none⟩ = (A : Array Value)[o]?) ∧ (∀ o, ((w.alloc (.cells A 35)).alloc (.cells SG 55)).cell? ⟨w.heap.size + 1, o, none⟩ = (SG : Array Value)[o]?)) := ⟨(((Below.refl _ _).alloc (Nat.le_refl _) _).alloc (by simp) _), by simp, fun o => by simp [go_sem], fun o => by simp [go_sem]⟩
    go_enter Tryz.func49, Tryz.ntmps49
    go_upto_region 1 with fail
    generalize hWW : ((w.alloc (.cells A 35)).alloc (.cells SG 55)) = W1 at HWA ⊢
    clear hWW
    obtain ⟨hb, hsz, kA, kS⟩ := HWA.out
    clear HWA
    have HB : Hid (Below w.heap.size w W1) := hb
    have zA : w.heap.size < W1.heap.size := by omega
    have zS : w.heap.size + 1 < W1.heap.size := by omega
    clear hb hsz
    go_wp2_with (first | (refine wpList_load_mid rfl 35 _ rfl _ _ (by rfl) A.toList _ (bx_range kA) Tryz.underlying35 rfl HI.out ?_))
    refine (HF.out _ HB.out).mono ?_
    rintro e W2 ⟨rfl, hb⟩
    replace kA := bx_below kA zA hb
    replace zA := Nat.lt_of_lt_of_le zA hb.size
    replace kS := bx_below kS zS hb
    replace zS := Nat.lt_of_lt_of_le zS hb.size
    replace HB : Hid (Below w.heap.size w W2) := HB.out.trans (hb.mono HB.out.size)
    clear hb
    go_wp2_with (first | (refine wpList_load_mid rfl 55 _ rfl _ _ (by rfl) SG.toList _ (bx_range kS) Tryz.underlying55 rfl HIS.out ?_))
    refine (HG.out _ HB.out).mono ?_
    rintro e W3 ⟨rfl, hb⟩
    replace kA := bx_below kA zA hb
    replace zA := Nat.lt_of_lt_of_le zA hb.size
    replace kS := bx_below kS zS hb
    replace zS := Nat.lt_of_lt_of_le zS hb.size
    replace HB : Hid (Below w.heap.size w W3) := HB.out.trans (hb.mono HB.out.size)
    clear hb
    go_wp2_with fail
    go_ret
    exact ⟨rfl, HB.out⟩
set_option maxHeartbeats 1000000 in
theorem iMapped (SG : Array Value) (a b SU : Int) (la : Option Addr) (ln lc : Nat) (w : World) (g9 : SG[9]? = some (.int .i64 a)) (g10 : SG[10]? = some (.int .i64 b)) (g11 : SG[11]? = some (.slice la ln lc)) (ha : 0 ≤ a ∧ a ≤ 1000000000) (hU : ∀ W, Below w.heap.size w W → Calls Tryz.prog 142 #[.int .i64 (a / 1000), .slice la ln lc] W fun e w' => e = .returned (.int .i64 SU) ∧ Below W.heap.size W w') :
    Calls Tryz.prog 91 #[.agg SG] w fun e w' => e = .returned (.agg (if b = SU then #[.int .i64 0, .int .i64 (a / 1000)] else #[.int .i64 6, .int .i64 0])) ∧ Below w.heap.size w w' := by
  have HU : Hid _ := hU
  clear hU
  have hq1 : a.tdiv 1000 = a / 1000 := Int.tdiv_eq_ediv_of_nonneg ha.1
  have hq2 : IntKind.i64.wrap (a / 1000) = a / 1000 := by simp only [IntKind.wrap, IntKind.bits, IntKind.signed]; simp; omega
  have hq3 : IntKind.i64.wrap (a.tdiv 1000) = a / 1000 := by rw [hq1]; exact hq2
  by_cases h : b = SU
  case pos =>
    rw [if_pos h]
    have HH : Hid ((b != SU) = false) := by show _ = _; simp [h]
    clear h
    have HWA : Hid (Below w.heap.size w ((w.alloc (.cells SG 55)).alloc (.cells #[.int .i64 0, .int .i64 0] 53)) ∧ ((w.alloc (.cells SG 55)).alloc (.cells #[.int .i64 0, .int .i64 0] 53)).heap.size = w.heap.size + 2 ∧ (∀ o, ((w.alloc (.cells SG 55)).alloc (.cells #[.int .i64 0, .int .i64 0] 53)).cell? ⟨w.heap.size, o, none⟩ = (SG : Array Value)[o]?) ∧ (∀ o, ((w.alloc (.cells SG 55)).alloc (.cells #[.int .i64 0, .int .i64 0] 53)).cell? ⟨w.heap.size + 1, o, none⟩ = (#[.int .i64 0, .int .i64 0] : Array Value)[o]?) ∧ (∀ o, ((w.alloc (.cells SG 55)).alloc (.cells #[.int .i64 0, .int .i64 0] 53)).frozen? ⟨w.heap.size + 1, o, none⟩ = false)) := ⟨(((Below.refl _ _).alloc (Nat.le_refl _) _).alloc (by simp) _), by simp, fun o => by simp [go_sem], fun o => by simp [go_sem], fun o => by simp [go_sem]⟩
    go_enter Tryz.func91, Tryz.ntmps91
    go_upto_region 1 with fail
    generalize hWW : ((w.alloc (.cells SG 55)).alloc (.cells #[.int .i64 0, .int .i64 0] 53)) = W1 at HWA ⊢
    clear hWW
    obtain ⟨hb, hsz, kS, kR, fR⟩ := HWA.out
    clear HWA
    have HB : Hid (Below w.heap.size w W1) := hb
    have zS : w.heap.size < W1.heap.size := by omega
    have zR : w.heap.size + 1 < W1.heap.size := by omega
    clear hb hsz
    go_upto_region 2 with fail
    have HB0 : Hid (Below w.heap.size w W1) := HB.out
    have kS0 := kS
    have zS0 := zS
    refine wp_region_noPanic ?_
    refine Goes.start (S := fun w' => Below W1.heap.size W1 w') (z := 100) (by kernel_rfl) ?_
    have hb : Below W1.heap.size W1 W1.drew := Below.drew (Below.refl _ _)
    generalize hWW : W1.drew = W2 at hb ⊢
    clear hWW
    have HS0 : Hid (Below W1.heap.size W1 W2) := hb
    replace kS := bx_below kS zS hb
    replace zS := Nat.lt_of_lt_of_le zS hb.size
    replace kR := bx_below kR zR hb
    replace fR := bxF fR hb zR
    replace zR := Nat.lt_of_lt_of_le zR hb.size
    replace HB : Hid (Below w.heap.size w W2) := HB.out.trans (hb.mono HB.out.size)
    clear hb
    refine Goes.take (i := 0) (oi := ?oi11) (x := ?vx11) ?ho11 (by kernel_rfl) (by kernel_rfl) (by kernel_rfl) (by kernel_rfl) (fun _ _ _ h => h) (Or.inl ⟨?hw11, ?hy11⟩) HS0.out ?rest11
    case ho11 => (simp only [List.getElem?_toArray, List.getElem?_cons_zero] <;> rfl)
    case hw11 => rfl
    case hy11 => (intro w' hSw; have jS := fun o => (hSw.cell (p := ⟨w.heap.size, o, none⟩) zS0).trans (kS0 o); go_simp; (try with_reducible rfl))
    case rest11 =>
    (try simp only [Act.put, List.setIfInBounds_toArray, List.set_cons_zero, List.set_cons_succ])
    refine Goes.take (i := 1) (oi := ?oi12) (x := ?vx12) ?ho12 (by kernel_rfl) (by kernel_rfl) (by kernel_rfl) (by kernel_rfl) (fun _ _ _ h => h) (Or.inl ⟨?hw12, ?hy12⟩) HS0.out ?rest12
    case ho12 => (simp only [List.getElem?_toArray, List.getElem?_cons_succ, List.getElem?_cons_zero] <;> rfl)
    case hw12 => rfl
    case hy12 => (intro w' hSw; have jS := fun o => (hSw.cell (p := ⟨w.heap.size, o, none⟩) zS0).trans (kS0 o); go_simp; (try with_reducible rfl))
    case rest12 =>
    (try simp only [Act.put, List.setIfInBounds_toArray, List.set_cons_zero, List.set_cons_succ])
    refine Goes.take (i := 2) (oi := ?oi13) (x := ?vx13) ?ho13 (by kernel_rfl) (by kernel_rfl) (by kernel_rfl) (by kernel_rfl) (fun _ _ _ h => h) (Or.inl ⟨?hw13, ?hy13⟩) HS0.out ?rest13
    case ho13 => (simp only [List.getElem?_toArray, List.getElem?_cons_succ, List.getElem?_cons_zero] <;> rfl)
    case hw13 => rfl
    case hy13 => (intro w' hSw; have jS := fun o => (hSw.cell (p := ⟨w.heap.size, o, none⟩) zS0).trans (kS0 o); go_simp; (try with_reducible rfl))
    case rest13 =>
    (try simp only [Act.put, List.setIfInBounds_toArray, List.set_cons_zero, List.set_cons_succ])
    refine Goes.take (i := 3) (oi := ?oi14) (x := ?vx14) ?ho14 (by kernel_rfl) (by kernel_rfl) (by kernel_rfl) (by kernel_rfl) (fun _ _ _ h => h) (Or.inl ⟨?hw14, ?hy14⟩) HS0.out ?rest14
    case ho14 => (simp only [List.getElem?_toArray, List.getElem?_cons_succ, List.getElem?_cons_zero] <;> rfl)
    case hw14 => rfl
    case hy14 => (intro w' hSw; have jS := fun o => (hSw.cell (p := ⟨w.heap.size, o, none⟩) zS0).trans (kS0 o); go_simp; (try with_reducible rfl))
    case rest14 =>
    (try simp only [Act.put, List.setIfInBounds_toArray, List.set_cons_zero, List.set_cons_succ])
    refine Goes.take (i := 4) (oi := ?oi15) (x := ?vx15) ?ho15 (by kernel_rfl) (by kernel_rfl) (by kernel_rfl) (by kernel_rfl) (fun _ _ _ h => h) (Or.inl ⟨?hw15, ?hy15⟩) HS0.out ?rest15
    case ho15 => (simp only [List.getElem?_toArray, List.getElem?_cons_succ, List.getElem?_cons_zero] <;> rfl)
    case hw15 => rfl
    case hy15 => (intro w' hSw; have jS := fun o => (hSw.cell (p := ⟨w.heap.size, o, none⟩) zS0).trans (kS0 o); go_simp; (try with_reducible rfl))
    case rest15 =>
    (try simp only [Act.put, List.setIfInBounds_toArray, List.set_cons_zero, List.set_cons_succ])
    refine Goes.all (rs := [5]) (by kernel_rfl) (by simp) ?_
    refine Ups.cons (i := 5) (o := ?oo16) ?ho16 (fun KK hKK => ?stp16) Ups.nil
    case ho16 => (simp only [List.getElem?_toArray, List.getElem?_cons_succ, List.getElem?_cons_zero] <;> rfl)
    case stp16 =>
    go_simp
    go_at_call 142
    refine (HU.out _ HB.out).mono ?_
    rintro e W3 ⟨rfl, hb⟩
    have HS1 : Hid (Below W1.heap.size W1 W3) := HS0.out.trans (hb.mono HS0.out.size)
    replace kS := bx_below kS zS hb
    replace zS := Nat.lt_of_lt_of_le zS hb.size
    replace kR := bx_below kR zR hb
    replace fR := bxF fR hb zR
    replace zR := Nat.lt_of_lt_of_le zR hb.size
    replace HB : Hid (Below w.heap.size w W3) := HB.out.trans (hb.mono HB.out.size)
    clear hb
    dsimp only
    refine hKK.out _ _ (Or.inr HS1.out) ?_
    clear hKK KK
    (try simp only [Act.put, List.setIfInBounds_toArray, List.set_cons_zero, List.set_cons_succ])
    refine Goes.take (i := 6) (oi := ?oi17) (x := ?vx17) ?ho17 (by kernel_rfl) (by kernel_rfl) (by kernel_rfl) (by kernel_rfl) (fun _ _ _ h => h) (Or.inl ⟨?hw17, ?hy17⟩) HS1.out ?rest17
    case ho17 => (simp only [List.getElem?_toArray, List.getElem?_cons_succ, List.getElem?_cons_zero] <;> rfl)
    case hw17 => rfl
    case hy17 => (intro w' hSw; have jS := fun o => (hSw.cell (p := ⟨w.heap.size, o, none⟩) zS0).trans (kS0 o); go_simp; (try with_reducible rfl))
    case rest17 =>
    (try simp only [Act.put, List.setIfInBounds_toArray, List.set_cons_zero, List.set_cons_succ])
    refine Goes.done (by kernel_rfl) ?_ _
    refine NoPanic.normal ?_
    clear HS0 HS1 HB0 kS0 zS0 HU
    have h' := HH.out
    go_wp2_with fail
    refine bodyPost_ret (results_box Tryz.results91 _ _ _ #[.int .i64 0, .int .i64 (a / 1000)] _ (by rfl) (bx2c kR) Tryz.underlying53 rfl info_IntR) rfl ⟨rfl, ?_⟩
    exact Below.setCell (Below.setCell HB.out (by dsimp only; omega) _) (by dsimp only; omega) _
  case neg =>
    rw [if_neg h]
    have HH : Hid ((b != SU) = true) := by show _ = _; simp [h]
    clear h
    have HWA : Hid (Below w.heap.size w ((w.alloc (.cells SG 55)).alloc (.cells #[.int .i64 0, .int .i64 0] 53)) ∧ ((w.alloc (.cells SG 55)).alloc (.cells #[.int .i64 0, .int .i64 0] 53)).heap.size = w.heap.size + 2 ∧ (∀ o, ((w.alloc (.cells SG 55)).alloc (.cells #[.int .i64 0, .int .i64 0] 53)).cell? ⟨w.heap.size, o, none⟩ = (SG : Array Value)[o]?) ∧ (∀ o, ((w.alloc (.cells SG 55)).alloc (.cells #[.int .i64 0, .int .i64 0] 53)).cell? ⟨w.heap.size + 1, o, none⟩ = (#[.int .i64 0, .int .i64 0] : Array Value)[o]?) ∧ (∀ o, ((w.alloc (.cells SG 55)).alloc (.cells #[.int .i64 0, .int .i64 0] 53)).frozen? ⟨w.heap.size + 1, o, none⟩ = false)) := ⟨(((Below.refl _ _).alloc (Nat.le_refl _) _).alloc (by simp) _), by simp, fun o => by simp [go_sem], fun o => by simp [go_sem], fun o => by simp [go_sem]⟩
    go_enter Tryz.func91, Tryz.ntmps91
    go_upto_region 1 with fail
    generalize hWW : ((w.alloc (.cells SG 55)).alloc (.cells #[.int .i64 0, .int .i64 0] 53)) = W1 at HWA ⊢
    clear hWW
    obtain ⟨hb, hsz, kS, kR, fR⟩ := HWA.out
    clear HWA
    have HB : Hid (Below w.heap.size w W1) := hb
    have zS : w.heap.size < W1.heap.size := by omega
    have zR : w.heap.size + 1 < W1.heap.size := by omega
    clear hb hsz
    go_upto_region 2 with fail
    have HB0 : Hid (Below w.heap.size w W1) := HB.out
    have kS0 := kS
    have zS0 := zS
    refine wp_region_noPanic ?_
    refine Goes.start (S := fun w' => Below W1.heap.size W1 w') (z := 100) (by kernel_rfl) ?_
    have hb : Below W1.heap.size W1 W1.drew := Below.drew (Below.refl _ _)
    generalize hWW : W1.drew = W2 at hb ⊢
    clear hWW
    have HS0 : Hid (Below W1.heap.size W1 W2) := hb
    replace kS := bx_below kS zS hb
    replace zS := Nat.lt_of_lt_of_le zS hb.size
    replace kR := bx_below kR zR hb
    replace fR := bxF fR hb zR
    replace zR := Nat.lt_of_lt_of_le zR hb.size
    replace HB : Hid (Below w.heap.size w W2) := HB.out.trans (hb.mono HB.out.size)
    clear hb
    refine Goes.take (i := 0) (oi := ?oi11) (x := ?vx11) ?ho11 (by kernel_rfl) (by kernel_rfl) (by kernel_rfl) (by kernel_rfl) (fun _ _ _ h => h) (Or.inl ⟨?hw11, ?hy11⟩) HS0.out ?rest11
    case ho11 => (simp only [List.getElem?_toArray, List.getElem?_cons_zero] <;> rfl)
    case hw11 => rfl
    case hy11 => (intro w' hSw; have jS := fun o => (hSw.cell (p := ⟨w.heap.size, o, none⟩) zS0).trans (kS0 o); go_simp; (try with_reducible rfl))
    case rest11 =>
    (try simp only [Act.put, List.setIfInBounds_toArray, List.set_cons_zero, List.set_cons_succ])
    refine Goes.take (i := 1) (oi := ?oi12) (x := ?vx12) ?ho12 (by kernel_rfl) (by kernel_rfl) (by kernel_rfl) (by kernel_rfl) (fun _ _ _ h => h) (Or.inl ⟨?hw12, ?hy12⟩) HS0.out ?rest12
    case ho12 => (simp only [List.getElem?_toArray, List.getElem?_cons_succ, List.getElem?_cons_zero] <;> rfl)
    case hw12 => rfl
    case hy12 => (intro w' hSw; have jS := fun o => (hSw.cell (p := ⟨w.heap.size, o, none⟩) zS0).trans (kS0 o); go_simp; (try with_reducible rfl))
    case rest12 =>
    (try simp only [Act.put, List.setIfInBounds_toArray, List.set_cons_zero, List.set_cons_succ])
    refine Goes.take (i := 2) (oi := ?oi13) (x := ?vx13) ?ho13 (by kernel_rfl) (by kernel_rfl) (by kernel_rfl) (by kernel_rfl) (fun _ _ _ h => h) (Or.inl ⟨?hw13, ?hy13⟩) HS0.out ?rest13
    case ho13 => (simp only [List.getElem?_toArray, List.getElem?_cons_succ, List.getElem?_cons_zero] <;> rfl)
    case hw13 => rfl
    case hy13 => (intro w' hSw; have jS := fun o => (hSw.cell (p := ⟨w.heap.size, o, none⟩) zS0).trans (kS0 o); go_simp; (try with_reducible rfl))
    case rest13 =>
    (try simp only [Act.put, List.setIfInBounds_toArray, List.set_cons_zero, List.set_cons_succ])
    refine Goes.take (i := 3) (oi := ?oi14) (x := ?vx14) ?ho14 (by kernel_rfl) (by kernel_rfl) (by kernel_rfl) (by kernel_rfl) (fun _ _ _ h => h) (Or.inl ⟨?hw14, ?hy14⟩) HS0.out ?rest14
    case ho14 => (simp only [List.getElem?_toArray, List.getElem?_cons_succ, List.getElem?_cons_zero] <;> rfl)
    case hw14 => rfl
    case hy14 => (intro w' hSw; have jS := fun o => (hSw.cell (p := ⟨w.heap.size, o, none⟩) zS0).trans (kS0 o); go_simp; (try with_reducible rfl))
    case rest14 =>
    (try simp only [Act.put, List.setIfInBounds_toArray, List.set_cons_zero, List.set_cons_succ])
    refine Goes.take (i := 4) (oi := ?oi15) (x := ?vx15) ?ho15 (by kernel_rfl) (by kernel_rfl) (by kernel_rfl) (by kernel_rfl) (fun _ _ _ h => h) (Or.inl ⟨?hw15, ?hy15⟩) HS0.out ?rest15
    case ho15 => (simp only [List.getElem?_toArray, List.getElem?_cons_succ, List.getElem?_cons_zero] <;> rfl)
    case hw15 => rfl
    case hy15 => (intro w' hSw; have jS := fun o => (hSw.cell (p := ⟨w.heap.size, o, none⟩) zS0).trans (kS0 o); go_simp; (try with_reducible rfl))
    case rest15 =>
    (try simp only [Act.put, List.setIfInBounds_toArray, List.set_cons_zero, List.set_cons_succ])
    refine Goes.all (rs := [5]) (by kernel_rfl) (by simp) ?_
    refine Ups.cons (i := 5) (o := ?oo16) ?ho16 (fun KK hKK => ?stp16) Ups.nil
    case ho16 => (simp only [List.getElem?_toArray, List.getElem?_cons_succ, List.getElem?_cons_zero] <;> rfl)
    case stp16 =>
    go_simp
    go_at_call 142
    refine (HU.out _ HB.out).mono ?_
    rintro e W3 ⟨rfl, hb⟩
    have HS1 : Hid (Below W1.heap.size W1 W3) := HS0.out.trans (hb.mono HS0.out.size)
    replace kS := bx_below kS zS hb
    replace zS := Nat.lt_of_lt_of_le zS hb.size
    replace kR := bx_below kR zR hb
    replace fR := bxF fR hb zR
    replace zR := Nat.lt_of_lt_of_le zR hb.size
    replace HB : Hid (Below w.heap.size w W3) := HB.out.trans (hb.mono HB.out.size)
    clear hb
    dsimp only
    refine hKK.out _ _ (Or.inr HS1.out) ?_
    clear hKK KK
    (try simp only [Act.put, List.setIfInBounds_toArray, List.set_cons_zero, List.set_cons_succ])
    refine Goes.take (i := 6) (oi := ?oi17) (x := ?vx17) ?ho17 (by kernel_rfl) (by kernel_rfl) (by kernel_rfl) (by kernel_rfl) (fun _ _ _ h => h) (Or.inl ⟨?hw17, ?hy17⟩) HS1.out ?rest17
    case ho17 => (simp only [List.getElem?_toArray, List.getElem?_cons_succ, List.getElem?_cons_zero] <;> rfl)
    case hw17 => rfl
    case hy17 => (intro w' hSw; have jS := fun o => (hSw.cell (p := ⟨w.heap.size, o, none⟩) zS0).trans (kS0 o); go_simp; (try with_reducible rfl))
    case rest17 =>
    (try simp only [Act.put, List.setIfInBounds_toArray, List.set_cons_zero, List.set_cons_succ])
    refine Goes.done (by kernel_rfl) ?_ _
    refine NoPanic.normal ?_
    clear HS0 HS1 HB0 kS0 zS0 HU
    have h' := HH.out
    go_wp2_with fail
    refine bodyPost_ret (results_box Tryz.results91 _ _ _ #[.int .i64 6, .int .i64 0] _ (by rfl) (bx2c kR) Tryz.underlying53 rfl info_IntR) rfl ⟨rfl, ?_⟩
    exact Below.setCell (Below.setCell HB.out (by dsimp only; omega) _) (by dsimp only; omega) _
set_option maxHeartbeats 2000000 in
theorem iPlaceOfLoad0 (A X SG : Array Value) (pl : Bool) (c0 c1 sq op pC pV : Int) (cv : Value) (M : Array Value) (a13 : Option Addr) (n c13 : Nat) (w : World) (hA : A.size = 14) (hX : X.size = 16) (hS : SG.size = 12) (hM : M.size = 2) (hMO : M.all (·.oneCell') = true) (x3 : A[3]? = some (.bool pl)) (x13 : A[13]? = some (.slice a13 n c13)) (hn : n ≤ 1048576) (x10 : X[10]? = some (.int .i64 c0)) (x11 : X[11]? = some (.int .i64 c1)) (x12 : X[12]? = some cv) (g5 : SG[5]? = some (.int .i64 sq)) (g8 : SG[8]? = some (.int .i64 op)) (hP : ∀ W, Below w.heap.size w W → Calls Tryz.prog 90 #[.agg #[.int .i64 c0, .int .i64 c1, cv], .int .i64 sq] W fun e w' => e = .returned (.agg #[.int .i64 pC, .int .i64 pV]) ∧ Below W.heap.size W w') (hMP : ∀ W, Below w.heap.size w W → Calls Tryz.prog 91 #[.agg SG] W fun e w' => e = .returned (.agg M) ∧ Below W.heap.size W w') :
    Calls Tryz.prog 51 #[.agg A, .agg X, .agg SG] w fun e w' => e = .returned (.agg (if pC = 0 then (if pl = true then #[.int .i64 pC, .int .i64 pV] else if op = 4 then M else if 1 < n then #[.int .i64 10, .int .i64 0] else #[.int .i64 pC, .int .i64 pV]) else #[.int .i64 pC, .int .i64 pV])) ∧ Below w.heap.size w w' := by
  have HI : Hid ((Tryz.prog.info? 35).map (·.size) = some A.toList.length) := by show _ = _; rw [Array.length_toList, hA]; exact (by kernel_rfl : (Tryz.prog.info? 35).map (·.size) = some 14)
  have HIX : Hid ((Tryz.prog.info? 94).map (·.size) = some X.toList.length) := by show _ = _; rw [Array.length_toList, hX]; exact (by kernel_rfl : (Tryz.prog.info? 94).map (·.size) = some 16)
  have HIS : Hid ((Tryz.prog.info? 55).map (·.size) = some SG.toList.length) := by show _ = _; rw [Array.length_toList, hS]; exact (by kernel_rfl : (Tryz.prog.info? 55).map (·.size) = some 12)
  have HP : Hid _ := hP
  have HMP : Hid _ := hMP
  have HMZ : Hid (M.size = 2) := hM
  have HMO : Hid _ := hMO
  have HIC : Hid ((Tryz.prog.info? 90).map (·.size) = some [Value.int .i64 c0, .int .i64 c1, cv].length) := (by kernel_rfl : (Tryz.prog.info? 90).map (·.size) = some 3)
  obtain ⟨Q, hQ⟩ : ∃ Q : Array Value, Q = #[.int .i64 pC, .int .i64 pV] := ⟨_, rfl⟩
  have HQE : Hid _ := hQ
  have HQZ : Hid (Q.size = 2) := by show _ = _; rw [hQ]; rfl
  have HIQ : Hid ((Tryz.prog.info? 53).map (·.size) = some Q.size) := by show _ = _; rw [HQZ.out]; exact info_IntR
  have HIQ' : Hid ((Tryz.prog.info? 53).map (·.size) = some Q.toList.length) := by show _ = _; rw [Array.length_toList]; exact HIQ.out
  have HONQ : Hid (Q.all (·.oneCell') = true) := by show _ = _; rw [hQ]; simp [Value.oneCell']
  have q0 : Q[0]? = some (.int .i64 pC) := by rw [hQ]; rfl
  rw [← hQ]
  clear hA hX hS hP hMP hM hMO hQ
  by_cases h0 : pC = 0
  case neg =>
    rw [if_neg h0]
    have h0' : (pC != 0) = true := by simp [h0]
    clear h0
    have HWA : Hid (Below w.heap.size w ((((w.alloc (.cells A 35)).alloc (.cells X 94)).alloc (.cells SG 55)).alloc (.cells #[.int .i64 0, .int .i64 0] 53)) ∧ ((((w.alloc (.cells A 35)).alloc (.cells X 94)).alloc (.cells SG 55)).alloc (.cells #[.int .i64 0, .int .i64 0] 53)).heap.size = w.heap.size + 4 ∧ (∀ o, ((((w.alloc (.cells A 35)).alloc (.cells X 94)).alloc (.cells SG 55)).alloc (.cells #[.int .i64 0, .int .i64 0] 53)).cell? ⟨w.heap.size, o, none⟩ = (A : Array Value)[o]?) ∧ (∀ o, ((((w.alloc (.cells A 35)).alloc (.cells X 94)).alloc (.cells SG 55)).alloc (.cells #[.int .i64 0, .int .i64 0] 53)).cell? ⟨w.heap.size + 1, o, none⟩ = (X : Array Value)[o]?) ∧ (∀ o, ((((w.alloc (.cells A 35)).alloc (.cells X 94)).alloc (.cells SG 55)).alloc (.cells #[.int .i64 0, .int .i64 0] 53)).cell? ⟨w.heap.size + 2, o, none⟩ = (SG : Array Value)[o]?) ∧ (∀ o, ((((w.alloc (.cells A 35)).alloc (.cells X 94)).alloc (.cells SG 55)).alloc (.cells #[.int .i64 0, .int .i64 0] 53)).cell? ⟨w.heap.size + 3, o, none⟩ = (#[.int .i64 0, .int .i64 0] : Array Value)[o]?) ∧ (∀ o, ((((w.alloc (.cells A 35)).alloc (.cells X 94)).alloc (.cells SG 55)).alloc (.cells #[.int .i64 0, .int .i64 0] 53)).frozen? ⟨w.heap.size + 3, o, none⟩ = false)) := ⟨(((((Below.refl _ _).alloc (Nat.le_refl _) _).alloc (by simp) _).alloc (by simp; omega) _).alloc (by simp; omega) _), by simp, fun o => by simp [go_sem], fun o => by simp [go_sem], fun o => by simp [go_sem], fun o => by simp [go_sem], fun o => by simp [go_sem]⟩
    go_enter Tryz.func51, Tryz.ntmps51
    go_upto_region 1 with fail
    generalize hWW : ((((w.alloc (.cells A 35)).alloc (.cells X 94)).alloc (.cells SG 55)).alloc (.cells #[.int .i64 0, .int .i64 0] 53)) = W1 at HWA ⊢
    clear hWW
    obtain ⟨hb, hsz, kA, kX, kS, kR, fR⟩ := HWA.out
    clear HWA
    have HB : Hid (Below w.heap.size w W1) := hb
    have zA : w.heap.size < W1.heap.size := by omega
    have zX : w.heap.size + 1 < W1.heap.size := by omega
    have zS : w.heap.size + 2 < W1.heap.size := by omega
    have zR : w.heap.size + 3 < W1.heap.size := by omega
    clear hb hsz
    go_wp2_with (refine wpList_load_mid rfl 90 _ rfl _ _ (by rfl) [.int .i64 c0, .int .i64 c1, cv] _ (bx_sub kX (sub3 x10 x11 x12)) Tryz.underlying90 rfl HIC.out ?_)
    refine (HP.out _ HB.out).mono ?_
    rintro e W2 ⟨rfl, hb⟩
    replace kA := bx_below kA zA hb
    replace zA := Nat.lt_of_lt_of_le zA hb.size
    replace kX := bx_below kX zX hb
    replace zX := Nat.lt_of_lt_of_le zX hb.size
    replace kS := bx_below kS zS hb
    replace zS := Nat.lt_of_lt_of_le zS hb.size
    replace kR := bx_below kR zR hb
    replace fR := bxF fR hb zR
    replace zR := Nat.lt_of_lt_of_le zR hb.size
    replace HB : Hid (Below w.heap.size w W2) := HB.out.trans (hb.mono HB.out.size)
    clear hb
    clear HP
    rw [← HQE.out]
    have HTH : Hid ((W2.alloc (.cells #[.int .i64 0, .int .i64 0] 53)).there W2.heap.size 0 Q.size) := bx_there (bx_al _ _ _) (fx_al _ _ _) (by rw [HQZ.out]; rfl)
    have HWN : Hid (Below W2.heap.size W2 ((W2.alloc (.cells #[.int .i64 0, .int .i64 0] 53)).setCells W2.heap.size 0 Q.toList) ∧ W2.heap.size < ((W2.alloc (.cells #[.int .i64 0, .int .i64 0] 53)).setCells W2.heap.size 0 Q.toList).heap.size ∧ (∀ o, ((W2.alloc (.cells #[.int .i64 0, .int .i64 0] 53)).setCells W2.heap.size 0 Q.toList).cell? ⟨W2.heap.size, o, none⟩ = Q[o]?) ∧ (∀ o, ((W2.alloc (.cells #[.int .i64 0, .int .i64 0] 53)).setCells W2.heap.size 0 Q.toList).frozen? ⟨W2.heap.size, o, none⟩ = false)) := ⟨setCells_below (Nat.le_refl _) _ _ _ _ ((Below.refl _ _).alloc (Nat.le_refl _) _), by rw [setCells_size]; simp, bx_setCells (bx_al W2 _ _) (by rw [HQZ.out]; rfl), fx_sets (fx_al _ _ _)⟩
    go_upto_region 2 with (first | (refine wpList_store_mid rfl 53 _ _ rfl _ _ Q (by rfl) (by rfl) HTH.out HIQ.out HONQ.out ?_))
    generalize hWW : ((W2.alloc (.cells #[.int .i64 0, .int .i64 0] 53)).setCells W2.heap.size 0 Q.toList) = W3 at HWN ⊢
    clear hWW HTH
    obtain ⟨hb, zP, kP, fP⟩ := HWN.out
    clear HWN
    obtain ⟨bP, hq⟩ : ∃ q, q = W2.heap.size := ⟨_, rfl⟩
    rw [← hq] at zP kP fP ⊢
    have lAP : w.heap.size < bP := by rw [hq]; exact zA
    have lXP : w.heap.size + 1 < bP := by rw [hq]; exact zX
    have lSP : w.heap.size + 2 < bP := by rw [hq]; exact zS
    have lRP : w.heap.size + 3 < bP := by rw [hq]; exact zR
    have lwP : w.heap.size ≤ bP := by rw [hq]; exact HB.out.size
    clear hq
    replace kA := bx_below kA zA hb
    replace zA := Nat.lt_of_lt_of_le zA hb.size
    replace kX := bx_below kX zX hb
    replace zX := Nat.lt_of_lt_of_le zX hb.size
    replace kS := bx_below kS zS hb
    replace zS := Nat.lt_of_lt_of_le zS hb.size
    replace kR := bx_below kR zR hb
    replace fR := bxF fR hb zR
    replace zR := Nat.lt_of_lt_of_le zR hb.size
    replace HB : Hid (Below w.heap.size w W3) := HB.out.trans (hb.mono HB.out.size)
    clear hb
    obtain ⟨N, hN⟩ : ∃ N : Array Value, N = Q := ⟨_, rfl⟩
    have HN : Hid _ := hN
    have hNz : N.size = 2 := by rw [hN]; exact HQZ.out
    have HIN : Hid ((Tryz.prog.info? 53).map (·.size) = some N.size) := by show _ = _; rw [hNz]; exact info_IntR
    have HONE : Hid (N.all (·.oneCell') = true) := by show _ = _; rw [hN]; exact HONQ.out
    have HNZ : Hid _ := hNz
    clear hN hNz
    have HTH : Hid (W3.there (w.heap.size + 3) 0 N.size) := bx_there kR fR (by rw [HNZ.out]; rfl)
    have kQ : Hid (∀ o, (W3.setCells (w.heap.size + 3) 0 N.toList).cell? ⟨w.heap.size + 3, o, none⟩ = N[o]?) := bx_setCells kR (by rw [HNZ.out]; rfl)
    go_wp2_with (first | (refine wpList_load_mid rfl 53 _ rfl _ _ (by rfl) Q.toList _ (bx_range kP) Tryz.underlying53 rfl HIQ'.out ?_) | (refine wpList_store_mid rfl 53 _ _ rfl _ _ N (by rfl) (by rw [HN.out]; rfl) HTH.out HIN.out HONE.out ?_))
    refine bodyPost_ret (results_box Tryz.results51 _ _ _ N _ (by rfl) kQ.out Tryz.underlying53 rfl HIN.out) rfl ⟨by rw [HN.out], ?_⟩
    exact setCells_below (by omega) _ _ _ _ HB.out
  rw [if_pos h0]
  have h0' : (pC != 0) = false := by simp [h0]
  clear h0
  cases pl
  case true =>
    rw [if_pos rfl]
    have HWA : Hid (Below w.heap.size w ((((w.alloc (.cells A 35)).alloc (.cells X 94)).alloc (.cells SG 55)).alloc (.cells #[.int .i64 0, .int .i64 0] 53)) ∧ ((((w.alloc (.cells A 35)).alloc (.cells X 94)).alloc (.cells SG 55)).alloc (.cells #[.int .i64 0, .int .i64 0] 53)).heap.size = w.heap.size + 4 ∧ (∀ o, ((((w.alloc (.cells A 35)).alloc (.cells X 94)).alloc (.cells SG 55)).alloc (.cells #[.int .i64 0, .int .i64 0] 53)).cell? ⟨w.heap.size, o, none⟩ = (A : Array Value)[o]?) ∧ (∀ o, ((((w.alloc (.cells A 35)).alloc (.cells X 94)).alloc (.cells SG 55)).alloc (.cells #[.int .i64 0, .int .i64 0] 53)).cell? ⟨w.heap.size + 1, o, none⟩ = (X : Array Value)[o]?) ∧ (∀ o, ((((w.alloc (.cells A 35)).alloc (.cells X 94)).alloc (.cells SG 55)).alloc (.cells #[.int .i64 0, .int .i64 0] 53)).cell? ⟨w.heap.size + 2, o, none⟩ = (SG : Array Value)[o]?) ∧ (∀ o, ((((w.alloc (.cells A 35)).alloc (.cells X 94)).alloc (.cells SG 55)).alloc (.cells #[.int .i64 0, .int .i64 0] 53)).cell? ⟨w.heap.size + 3, o, none⟩ = (#[.int .i64 0, .int .i64 0] : Array Value)[o]?) ∧ (∀ o, ((((w.alloc (.cells A 35)).alloc (.cells X 94)).alloc (.cells SG 55)).alloc (.cells #[.int .i64 0, .int .i64 0] 53)).frozen? ⟨w.heap.size + 3, o, none⟩ = false)) := ⟨(((((Below.refl _ _).alloc (Nat.le_refl _) _).alloc (by simp) _).alloc (by simp; omega) _).alloc (by simp; omega) _), by simp, fun o => by simp [go_sem], fun o => by simp [go_sem], fun o => by simp [go_sem], fun o => by simp [go_sem], fun o => by simp [go_sem]⟩
    go_enter Tryz.func51, Tryz.ntmps51
    go_upto_region 1 with fail
    generalize hWW : ((((w.alloc (.cells A 35)).alloc (.cells X 94)).alloc (.cells SG 55)).alloc (.cells #[.int .i64 0, .int .i64 0] 53)) = W1 at HWA ⊢
    clear hWW
    obtain ⟨hb, hsz, kA, kX, kS, kR, fR⟩ := HWA.out
    clear HWA
    have HB : Hid (Below w.heap.size w W1) := hb
    have zA : w.heap.size < W1.heap.size := by omega
    have zX : w.heap.size + 1 < W1.heap.size := by omega
    have zS : w.heap.size + 2 < W1.heap.size := by omega
    have zR : w.heap.size + 3 < W1.heap.size := by omega
    clear hb hsz
    go_wp2_with (refine wpList_load_mid rfl 90 _ rfl _ _ (by rfl) [.int .i64 c0, .int .i64 c1, cv] _ (bx_sub kX (sub3 x10 x11 x12)) Tryz.underlying90 rfl HIC.out ?_)
    refine (HP.out _ HB.out).mono ?_
    rintro e W2 ⟨rfl, hb⟩
    replace kA := bx_below kA zA hb
    replace zA := Nat.lt_of_lt_of_le zA hb.size
    replace kX := bx_below kX zX hb
    replace zX := Nat.lt_of_lt_of_le zX hb.size
    replace kS := bx_below kS zS hb
    replace zS := Nat.lt_of_lt_of_le zS hb.size
    replace kR := bx_below kR zR hb
    replace fR := bxF fR hb zR
    replace zR := Nat.lt_of_lt_of_le zR hb.size
    replace HB : Hid (Below w.heap.size w W2) := HB.out.trans (hb.mono HB.out.size)
    clear hb
    clear HP
    rw [← HQE.out]
    have HTH : Hid ((W2.alloc (.cells #[.int .i64 0, .int .i64 0] 53)).there W2.heap.size 0 Q.size) := bx_there (bx_al _ _ _) (fx_al _ _ _) (by rw [HQZ.out]; rfl)
    have HWN : Hid (Below W2.heap.size W2 ((W2.alloc (.cells #[.int .i64 0, .int .i64 0] 53)).setCells W2.heap.size 0 Q.toList) ∧ W2.heap.size < ((W2.alloc (.cells #[.int .i64 0, .int .i64 0] 53)).setCells W2.heap.size 0 Q.toList).heap.size ∧ (∀ o, ((W2.alloc (.cells #[.int .i64 0, .int .i64 0] 53)).setCells W2.heap.size 0 Q.toList).cell? ⟨W2.heap.size, o, none⟩ = Q[o]?) ∧ (∀ o, ((W2.alloc (.cells #[.int .i64 0, .int .i64 0] 53)).setCells W2.heap.size 0 Q.toList).frozen? ⟨W2.heap.size, o, none⟩ = false)) := ⟨setCells_below (Nat.le_refl _) _ _ _ _ ((Below.refl _ _).alloc (Nat.le_refl _) _), by rw [setCells_size]; simp, bx_setCells (bx_al W2 _ _) (by rw [HQZ.out]; rfl), fx_sets (fx_al _ _ _)⟩
    go_upto_region 2 with (first | (refine wpList_store_mid rfl 53 _ _ rfl _ _ Q (by rfl) (by rfl) HTH.out HIQ.out HONQ.out ?_))
    generalize hWW : ((W2.alloc (.cells #[.int .i64 0, .int .i64 0] 53)).setCells W2.heap.size 0 Q.toList) = W3 at HWN ⊢
    clear hWW HTH
    obtain ⟨hb, zP, kP, fP⟩ := HWN.out
    clear HWN
    obtain ⟨bP, hq⟩ : ∃ q, q = W2.heap.size := ⟨_, rfl⟩
    rw [← hq] at zP kP fP ⊢
    have lAP : w.heap.size < bP := by rw [hq]; exact zA
    have lXP : w.heap.size + 1 < bP := by rw [hq]; exact zX
    have lSP : w.heap.size + 2 < bP := by rw [hq]; exact zS
    have lRP : w.heap.size + 3 < bP := by rw [hq]; exact zR
    have lwP : w.heap.size ≤ bP := by rw [hq]; exact HB.out.size
    clear hq
    replace kA := bx_below kA zA hb
    replace zA := Nat.lt_of_lt_of_le zA hb.size
    replace kX := bx_below kX zX hb
    replace zX := Nat.lt_of_lt_of_le zX hb.size
    replace kS := bx_below kS zS hb
    replace zS := Nat.lt_of_lt_of_le zS hb.size
    replace kR := bx_below kR zR hb
    replace fR := bxF fR hb zR
    replace zR := Nat.lt_of_lt_of_le zR hb.size
    replace HB : Hid (Below w.heap.size w W3) := HB.out.trans (hb.mono HB.out.size)
    clear hb
    obtain ⟨N, hN⟩ : ∃ N : Array Value, N = Q := ⟨_, rfl⟩
    have HN : Hid _ := hN
    have hNz : N.size = 2 := by rw [hN]; exact HQZ.out
    have HIN : Hid ((Tryz.prog.info? 53).map (·.size) = some N.size) := by show _ = _; rw [hNz]; exact info_IntR
    have HONE : Hid (N.all (·.oneCell') = true) := by show _ = _; rw [hN]; exact HONQ.out
    have HNZ : Hid _ := hNz
    clear hN hNz
    have HTH : Hid (W3.there (w.heap.size + 3) 0 N.size) := bx_there kR fR (by rw [HNZ.out]; rfl)
    have kQ : Hid (∀ o, (W3.setCells (w.heap.size + 3) 0 N.toList).cell? ⟨w.heap.size + 3, o, none⟩ = N[o]?) := bx_setCells kR (by rw [HNZ.out]; rfl)
    go_wp2_with (first | (refine wpList_load_mid rfl 53 _ rfl _ _ (by rfl) Q.toList _ (bx_range kP) Tryz.underlying53 rfl HIQ'.out ?_) | (refine wpList_store_mid rfl 53 _ _ rfl _ _ N (by rfl) (by rw [HN.out]; rfl) HTH.out HIN.out HONE.out ?_))
    refine bodyPost_ret (results_box Tryz.results51 _ _ _ N _ (by rfl) kQ.out Tryz.underlying53 rfl HIN.out) rfl ⟨by rw [HN.out], ?_⟩
    exact setCells_below (by omega) _ _ _ _ HB.out
  rw [if_neg (by simp)]
  by_cases h4 : op = 4
  case pos =>
    rw [if_pos h4]
    have h4' : (op == 4) = true := by simp [h4]
    clear h4
    have HWA : Hid (Below w.heap.size w ((((w.alloc (.cells A 35)).alloc (.cells X 94)).alloc (.cells SG 55)).alloc (.cells #[.int .i64 0, .int .i64 0] 53)) ∧ ((((w.alloc (.cells A 35)).alloc (.cells X 94)).alloc (.cells SG 55)).alloc (.cells #[.int .i64 0, .int .i64 0] 53)).heap.size = w.heap.size + 4 ∧ (∀ o, ((((w.alloc (.cells A 35)).alloc (.cells X 94)).alloc (.cells SG 55)).alloc (.cells #[.int .i64 0, .int .i64 0] 53)).cell? ⟨w.heap.size, o, none⟩ = (A : Array Value)[o]?) ∧ (∀ o, ((((w.alloc (.cells A 35)).alloc (.cells X 94)).alloc (.cells SG 55)).alloc (.cells #[.int .i64 0, .int .i64 0] 53)).cell? ⟨w.heap.size + 1, o, none⟩ = (X : Array Value)[o]?) ∧ (∀ o, ((((w.alloc (.cells A 35)).alloc (.cells X 94)).alloc (.cells SG 55)).alloc (.cells #[.int .i64 0, .int .i64 0] 53)).cell? ⟨w.heap.size + 2, o, none⟩ = (SG : Array Value)[o]?) ∧ (∀ o, ((((w.alloc (.cells A 35)).alloc (.cells X 94)).alloc (.cells SG 55)).alloc (.cells #[.int .i64 0, .int .i64 0] 53)).cell? ⟨w.heap.size + 3, o, none⟩ = (#[.int .i64 0, .int .i64 0] : Array Value)[o]?) ∧ (∀ o, ((((w.alloc (.cells A 35)).alloc (.cells X 94)).alloc (.cells SG 55)).alloc (.cells #[.int .i64 0, .int .i64 0] 53)).frozen? ⟨w.heap.size + 3, o, none⟩ = false)) := ⟨(((((Below.refl _ _).alloc (Nat.le_refl _) _).alloc (by simp) _).alloc (by simp; omega) _).alloc (by simp; omega) _), by simp, fun o => by simp [go_sem], fun o => by simp [go_sem], fun o => by simp [go_sem], fun o => by simp [go_sem], fun o => by simp [go_sem]⟩
    go_enter Tryz.func51, Tryz.ntmps51
    go_upto_region 1 with fail
    generalize hWW : ((((w.alloc (.cells A 35)).alloc (.cells X 94)).alloc (.cells SG 55)).alloc (.cells #[.int .i64 0, .int .i64 0] 53)) = W1 at HWA ⊢
    clear hWW
    obtain ⟨hb, hsz, kA, kX, kS, kR, fR⟩ := HWA.out
    clear HWA
    have HB : Hid (Below w.heap.size w W1) := hb
    have zA : w.heap.size < W1.heap.size := by omega
    have zX : w.heap.size + 1 < W1.heap.size := by omega
    have zS : w.heap.size + 2 < W1.heap.size := by omega
    have zR : w.heap.size + 3 < W1.heap.size := by omega
    clear hb hsz
    go_wp2_with (refine wpList_load_mid rfl 90 _ rfl _ _ (by rfl) [.int .i64 c0, .int .i64 c1, cv] _ (bx_sub kX (sub3 x10 x11 x12)) Tryz.underlying90 rfl HIC.out ?_)
    refine (HP.out _ HB.out).mono ?_
    rintro e W2 ⟨rfl, hb⟩
    replace kA := bx_below kA zA hb
    replace zA := Nat.lt_of_lt_of_le zA hb.size
    replace kX := bx_below kX zX hb
    replace zX := Nat.lt_of_lt_of_le zX hb.size
    replace kS := bx_below kS zS hb
    replace zS := Nat.lt_of_lt_of_le zS hb.size
    replace kR := bx_below kR zR hb
    replace fR := bxF fR hb zR
    replace zR := Nat.lt_of_lt_of_le zR hb.size
    replace HB : Hid (Below w.heap.size w W2) := HB.out.trans (hb.mono HB.out.size)
    clear hb
    clear HP
    rw [← HQE.out]
    have HTH : Hid ((W2.alloc (.cells #[.int .i64 0, .int .i64 0] 53)).there W2.heap.size 0 Q.size) := bx_there (bx_al _ _ _) (fx_al _ _ _) (by rw [HQZ.out]; rfl)
    have HWN : Hid (Below W2.heap.size W2 ((W2.alloc (.cells #[.int .i64 0, .int .i64 0] 53)).setCells W2.heap.size 0 Q.toList) ∧ W2.heap.size < ((W2.alloc (.cells #[.int .i64 0, .int .i64 0] 53)).setCells W2.heap.size 0 Q.toList).heap.size ∧ (∀ o, ((W2.alloc (.cells #[.int .i64 0, .int .i64 0] 53)).setCells W2.heap.size 0 Q.toList).cell? ⟨W2.heap.size, o, none⟩ = Q[o]?) ∧ (∀ o, ((W2.alloc (.cells #[.int .i64 0, .int .i64 0] 53)).setCells W2.heap.size 0 Q.toList).frozen? ⟨W2.heap.size, o, none⟩ = false)) := ⟨setCells_below (Nat.le_refl _) _ _ _ _ ((Below.refl _ _).alloc (Nat.le_refl _) _), by rw [setCells_size]; simp, bx_setCells (bx_al W2 _ _) (by rw [HQZ.out]; rfl), fx_sets (fx_al _ _ _)⟩
    go_upto_region 2 with (first | (refine wpList_store_mid rfl 53 _ _ rfl _ _ Q (by rfl) (by rfl) HTH.out HIQ.out HONQ.out ?_))
    generalize hWW : ((W2.alloc (.cells #[.int .i64 0, .int .i64 0] 53)).setCells W2.heap.size 0 Q.toList) = W3 at HWN ⊢
    clear hWW HTH
    obtain ⟨hb, zP, kP, fP⟩ := HWN.out
    clear HWN
    obtain ⟨bP, hq⟩ : ∃ q, q = W2.heap.size := ⟨_, rfl⟩
    rw [← hq] at zP kP fP ⊢
    have lAP : w.heap.size < bP := by rw [hq]; exact zA
    have lXP : w.heap.size + 1 < bP := by rw [hq]; exact zX
    have lSP : w.heap.size + 2 < bP := by rw [hq]; exact zS
    have lRP : w.heap.size + 3 < bP := by rw [hq]; exact zR
    have lwP : w.heap.size ≤ bP := by rw [hq]; exact HB.out.size
    clear hq
    replace kA := bx_below kA zA hb
    replace zA := Nat.lt_of_lt_of_le zA hb.size
    replace kX := bx_below kX zX hb
    replace zX := Nat.lt_of_lt_of_le zX hb.size
    replace kS := bx_below kS zS hb
    replace zS := Nat.lt_of_lt_of_le zS hb.size
    replace kR := bx_below kR zR hb
    replace fR := bxF fR hb zR
    replace zR := Nat.lt_of_lt_of_le zR hb.size
    replace HB : Hid (Below w.heap.size w W3) := HB.out.trans (hb.mono HB.out.size)
    clear hb
    go_wp2_with (first | (refine wpList_load_mid rfl 55 _ rfl _ _ (by rfl) SG.toList _ (bx_range kS) Tryz.underlying55 rfl HIS.out ?_))
    refine (HMP.out _ HB.out).mono ?_
    rintro e W4 ⟨rfl, hb⟩
    replace kA := bx_below kA zA hb
    replace zA := Nat.lt_of_lt_of_le zA hb.size
    replace kX := bx_below kX zX hb
    replace zX := Nat.lt_of_lt_of_le zX hb.size
    replace kS := bx_below kS zS hb
    replace zS := Nat.lt_of_lt_of_le zS hb.size
    replace kR := bx_below kR zR hb
    replace fR := bxF fR hb zR
    replace zR := Nat.lt_of_lt_of_le zR hb.size
    replace kP := bx_below kP zP hb
    replace fP := bxF fP hb zP
    replace zP := Nat.lt_of_lt_of_le zP hb.size
    replace HB : Hid (Below w.heap.size w W4) := HB.out.trans (hb.mono HB.out.size)
    clear hb
    obtain ⟨N, hN⟩ : ∃ N : Array Value, N = M := ⟨_, rfl⟩
    have HN : Hid _ := hN
    have hNz : N.size = 2 := by rw [hN]; exact HMZ.out
    have HIN : Hid ((Tryz.prog.info? 53).map (·.size) = some N.size) := by show _ = _; rw [hNz]; exact info_IntR
    have HONE : Hid (N.all (·.oneCell') = true) := by show _ = _; rw [hN]; exact HMO.out
    have HNZ : Hid _ := hNz
    clear hN hNz
    have HTH : Hid (W4.there (w.heap.size + 3) 0 N.size) := bx_there kR fR (by rw [HNZ.out]; rfl)
    have kQ : Hid (∀ o, (W4.setCells (w.heap.size + 3) 0 N.toList).cell? ⟨w.heap.size + 3, o, none⟩ = N[o]?) := bx_setCells kR (by rw [HNZ.out]; rfl)
    go_wp2_with (first | (refine wpList_store_mid rfl 53 _ _ rfl _ _ N (by rfl) (by rw [HN.out]; rfl) HTH.out HIN.out HONE.out ?_))
    refine bodyPost_ret (results_box Tryz.results51 _ _ _ N _ (by rfl) kQ.out Tryz.underlying53 rfl HIN.out) rfl ⟨by rw [HN.out], ?_⟩
    exact setCells_below (by omega) _ _ _ _ HB.out
  rw [if_neg h4]
  have h4' : (op == 4) = false := by simp [h4]
  clear h4
  by_cases h1 : 1 < n
  case pos =>
    rw [if_pos h1]
    have h1' : (1 : Int) < (n : Int) := by omega
    have h1'' : decide ((1 : Int) < (n : Int)) = true := decide_eq_true h1'
    clear h1
    have HWA : Hid (Below w.heap.size w ((((w.alloc (.cells A 35)).alloc (.cells X 94)).alloc (.cells SG 55)).alloc (.cells #[.int .i64 0, .int .i64 0] 53)) ∧ ((((w.alloc (.cells A 35)).alloc (.cells X 94)).alloc (.cells SG 55)).alloc (.cells #[.int .i64 0, .int .i64 0] 53)).heap.size = w.heap.size + 4 ∧ (∀ o, ((((w.alloc (.cells A 35)).alloc (.cells X 94)).alloc (.cells SG 55)).alloc (.cells #[.int .i64 0, .int .i64 0] 53)).cell? ⟨w.heap.size, o, none⟩ = (A : Array Value)[o]?) ∧ (∀ o, ((((w.alloc (.cells A 35)).alloc (.cells X 94)).alloc (.cells SG 55)).alloc (.cells #[.int .i64 0, .int .i64 0] 53)).cell? ⟨w.heap.size + 1, o, none⟩ = (X : Array Value)[o]?) ∧ (∀ o, ((((w.alloc (.cells A 35)).alloc (.cells X 94)).alloc (.cells SG 55)).alloc (.cells #[.int .i64 0, .int .i64 0] 53)).cell? ⟨w.heap.size + 2, o, none⟩ = (SG : Array Value)[o]?) ∧ (∀ o, ((((w.alloc (.cells A 35)).alloc (.cells X 94)).alloc (.cells SG 55)).alloc (.cells #[.int .i64 0, .int .i64 0] 53)).cell? ⟨w.heap.size + 3, o, none⟩ = (#[.int .i64 0, .int .i64 0] : Array Value)[o]?) ∧ (∀ o, ((((w.alloc (.cells A 35)).alloc (.cells X 94)).alloc (.cells SG 55)).alloc (.cells #[.int .i64 0, .int .i64 0] 53)).frozen? ⟨w.heap.size + 3, o, none⟩ = false)) := ⟨(((((Below.refl _ _).alloc (Nat.le_refl _) _).alloc (by simp) _).alloc (by simp; omega) _).alloc (by simp; omega) _), by simp, fun o => by simp [go_sem], fun o => by simp [go_sem], fun o => by simp [go_sem], fun o => by simp [go_sem], fun o => by simp [go_sem]⟩
    go_enter Tryz.func51, Tryz.ntmps51
    go_upto_region 1 with fail
    generalize hWW : ((((w.alloc (.cells A 35)).alloc (.cells X 94)).alloc (.cells SG 55)).alloc (.cells #[.int .i64 0, .int .i64 0] 53)) = W1 at HWA ⊢
    clear hWW
    obtain ⟨hb, hsz, kA, kX, kS, kR, fR⟩ := HWA.out
    clear HWA
    have HB : Hid (Below w.heap.size w W1) := hb
    have zA : w.heap.size < W1.heap.size := by omega
    have zX : w.heap.size + 1 < W1.heap.size := by omega
    have zS : w.heap.size + 2 < W1.heap.size := by omega
    have zR : w.heap.size + 3 < W1.heap.size := by omega
    clear hb hsz
    go_wp2_with (refine wpList_load_mid rfl 90 _ rfl _ _ (by rfl) [.int .i64 c0, .int .i64 c1, cv] _ (bx_sub kX (sub3 x10 x11 x12)) Tryz.underlying90 rfl HIC.out ?_)
    refine (HP.out _ HB.out).mono ?_
    rintro e W2 ⟨rfl, hb⟩
    replace kA := bx_below kA zA hb
    replace zA := Nat.lt_of_lt_of_le zA hb.size
    replace kX := bx_below kX zX hb
    replace zX := Nat.lt_of_lt_of_le zX hb.size
    replace kS := bx_below kS zS hb
    replace zS := Nat.lt_of_lt_of_le zS hb.size
    replace kR := bx_below kR zR hb
    replace fR := bxF fR hb zR
    replace zR := Nat.lt_of_lt_of_le zR hb.size
    replace HB : Hid (Below w.heap.size w W2) := HB.out.trans (hb.mono HB.out.size)
    clear hb
    clear HP
    rw [← HQE.out]
    have HTH : Hid ((W2.alloc (.cells #[.int .i64 0, .int .i64 0] 53)).there W2.heap.size 0 Q.size) := bx_there (bx_al _ _ _) (fx_al _ _ _) (by rw [HQZ.out]; rfl)
    have HWN : Hid (Below W2.heap.size W2 ((W2.alloc (.cells #[.int .i64 0, .int .i64 0] 53)).setCells W2.heap.size 0 Q.toList) ∧ W2.heap.size < ((W2.alloc (.cells #[.int .i64 0, .int .i64 0] 53)).setCells W2.heap.size 0 Q.toList).heap.size ∧ (∀ o, ((W2.alloc (.cells #[.int .i64 0, .int .i64 0] 53)).setCells W2.heap.size 0 Q.toList).cell? ⟨W2.heap.size, o, none⟩ = Q[o]?) ∧ (∀ o, ((W2.alloc (.cells #[.int .i64 0, .int .i64 0] 53)).setCells W2.heap.size 0 Q.toList).frozen? ⟨W2.heap.size, o, none⟩ = false)) := ⟨setCells_below (Nat.le_refl _) _ _ _ _ ((Below.refl _ _).alloc (Nat.le_refl _) _), by rw [setCells_size]; simp, bx_setCells (bx_al W2 _ _) (by rw [HQZ.out]; rfl), fx_sets (fx_al _ _ _)⟩
    go_upto_region 2 with (first | (refine wpList_store_mid rfl 53 _ _ rfl _ _ Q (by rfl) (by rfl) HTH.out HIQ.out HONQ.out ?_))
    generalize hWW : ((W2.alloc (.cells #[.int .i64 0, .int .i64 0] 53)).setCells W2.heap.size 0 Q.toList) = W3 at HWN ⊢
    clear hWW HTH
    obtain ⟨hb, zP, kP, fP⟩ := HWN.out
    clear HWN
    obtain ⟨bP, hq⟩ : ∃ q, q = W2.heap.size := ⟨_, rfl⟩
    rw [← hq] at zP kP fP ⊢
    have lAP : w.heap.size < bP := by rw [hq]; exact zA
    have lXP : w.heap.size + 1 < bP := by rw [hq]; exact zX
    have lSP : w.heap.size + 2 < bP := by rw [hq]; exact zS
    have lRP : w.heap.size + 3 < bP := by rw [hq]; exact zR
    have lwP : w.heap.size ≤ bP := by rw [hq]; exact HB.out.size
    clear hq
    replace kA := bx_below kA zA hb
    replace zA := Nat.lt_of_lt_of_le zA hb.size
    replace kX := bx_below kX zX hb
    replace zX := Nat.lt_of_lt_of_le zX hb.size
    replace kS := bx_below kS zS hb
    replace zS := Nat.lt_of_lt_of_le zS hb.size
    replace kR := bx_below kR zR hb
    replace fR := bxF fR hb zR
    replace zR := Nat.lt_of_lt_of_le zR hb.size
    replace HB : Hid (Below w.heap.size w W3) := HB.out.trans (hb.mono HB.out.size)
    clear hb
    obtain ⟨N, hN⟩ : ∃ N : Array Value, N = #[.int .i64 10, .int .i64 0] := ⟨_, rfl⟩
    have HN : Hid _ := hN
    have hNz : N.size = 2 := by rw [hN]; rfl
    have HIN : Hid ((Tryz.prog.info? 53).map (·.size) = some N.size) := by show _ = _; rw [hNz]; exact info_IntR
    have HONE : Hid (N.all (·.oneCell') = true) := by show _ = _; rw [hN]; simp [Value.oneCell']
    have HNZ : Hid _ := hNz
    clear hN hNz
    have HTH : Hid (W3.there (w.heap.size + 3) 0 N.size) := bx_there kR fR (by rw [HNZ.out]; rfl)
    have kQ : Hid (∀ o, (W3.setCells (w.heap.size + 3) 0 N.toList).cell? ⟨w.heap.size + 3, o, none⟩ = N[o]?) := bx_setCells kR (by rw [HNZ.out]; rfl)
    go_wp2_with (first | (refine wpList_store_mid rfl 53 _ _ rfl _ _ N (by rfl) (by rw [HN.out]; rfl) HTH.out HIN.out HONE.out ?_))
    refine bodyPost_ret (results_box Tryz.results51 _ _ _ N _ (by rfl) kQ.out Tryz.underlying53 rfl HIN.out) rfl ⟨by rw [HN.out], ?_⟩
    exact setCells_below (by omega) _ _ _ _ HB.out
  case neg =>
    rw [if_neg h1]
    have h1' : ¬ ((1 : Int) < (n : Int)) := by omega
    have h1'' : decide ((1 : Int) < (n : Int)) = false := decide_eq_false h1'
    clear h1
    have HWA : Hid (Below w.heap.size w ((((w.alloc (.cells A 35)).alloc (.cells X 94)).alloc (.cells SG 55)).alloc (.cells #[.int .i64 0, .int .i64 0] 53)) ∧ ((((w.alloc (.cells A 35)).alloc (.cells X 94)).alloc (.cells SG 55)).alloc (.cells #[.int .i64 0, .int .i64 0] 53)).heap.size = w.heap.size + 4 ∧ (∀ o, ((((w.alloc (.cells A 35)).alloc (.cells X 94)).alloc (.cells SG 55)).alloc (.cells #[.int .i64 0, .int .i64 0] 53)).cell? ⟨w.heap.size, o, none⟩ = (A : Array Value)[o]?) ∧ (∀ o, ((((w.alloc (.cells A 35)).alloc (.cells X 94)).alloc (.cells SG 55)).alloc (.cells #[.int .i64 0, .int .i64 0] 53)).cell? ⟨w.heap.size + 1, o, none⟩ = (X : Array Value)[o]?) ∧ (∀ o, ((((w.alloc (.cells A 35)).alloc (.cells X 94)).alloc (.cells SG 55)).alloc (.cells #[.int .i64 0, .int .i64 0] 53)).cell? ⟨w.heap.size + 2, o, none⟩ = (SG : Array Value)[o]?) ∧ (∀ o, ((((w.alloc (.cells A 35)).alloc (.cells X 94)).alloc (.cells SG 55)).alloc (.cells #[.int .i64 0, .int .i64 0] 53)).cell? ⟨w.heap.size + 3, o, none⟩ = (#[.int .i64 0, .int .i64 0] : Array Value)[o]?) ∧ (∀ o, ((((w.alloc (.cells A 35)).alloc (.cells X 94)).alloc (.cells SG 55)).alloc (.cells #[.int .i64 0, .int .i64 0] 53)).frozen? ⟨w.heap.size + 3, o, none⟩ = false)) := ⟨(((((Below.refl _ _).alloc (Nat.le_refl _) _).alloc (by simp) _).alloc (by simp; omega) _).alloc (by simp; omega) _), by simp, fun o => by simp [go_sem], fun o => by simp [go_sem], fun o => by simp [go_sem], fun o => by simp [go_sem], fun o => by simp [go_sem]⟩
    go_enter Tryz.func51, Tryz.ntmps51
    go_upto_region 1 with fail
    generalize hWW : ((((w.alloc (.cells A 35)).alloc (.cells X 94)).alloc (.cells SG 55)).alloc (.cells #[.int .i64 0, .int .i64 0] 53)) = W1 at HWA ⊢
    clear hWW
    obtain ⟨hb, hsz, kA, kX, kS, kR, fR⟩ := HWA.out
    clear HWA
    have HB : Hid (Below w.heap.size w W1) := hb
    have zA : w.heap.size < W1.heap.size := by omega
    have zX : w.heap.size + 1 < W1.heap.size := by omega
    have zS : w.heap.size + 2 < W1.heap.size := by omega
    have zR : w.heap.size + 3 < W1.heap.size := by omega
    clear hb hsz
    go_wp2_with (refine wpList_load_mid rfl 90 _ rfl _ _ (by rfl) [.int .i64 c0, .int .i64 c1, cv] _ (bx_sub kX (sub3 x10 x11 x12)) Tryz.underlying90 rfl HIC.out ?_)
    refine (HP.out _ HB.out).mono ?_
    rintro e W2 ⟨rfl, hb⟩
    replace kA := bx_below kA zA hb
    replace zA := Nat.lt_of_lt_of_le zA hb.size
    replace kX := bx_below kX zX hb
    replace zX := Nat.lt_of_lt_of_le zX hb.size
    replace kS := bx_below kS zS hb
    replace zS := Nat.lt_of_lt_of_le zS hb.size
    replace kR := bx_below kR zR hb
    replace fR := bxF fR hb zR
    replace zR := Nat.lt_of_lt_of_le zR hb.size
    replace HB : Hid (Below w.heap.size w W2) := HB.out.trans (hb.mono HB.out.size)
    clear hb
    clear HP
    rw [← HQE.out]
    have HTH : Hid ((W2.alloc (.cells #[.int .i64 0, .int .i64 0] 53)).there W2.heap.size 0 Q.size) := bx_there (bx_al _ _ _) (fx_al _ _ _) (by rw [HQZ.out]; rfl)
    have HWN : Hid (Below W2.heap.size W2 ((W2.alloc (.cells #[.int .i64 0, .int .i64 0] 53)).setCells W2.heap.size 0 Q.toList) ∧ W2.heap.size < ((W2.alloc (.cells #[.int .i64 0, .int .i64 0] 53)).setCells W2.heap.size 0 Q.toList).heap.size ∧ (∀ o, ((W2.alloc (.cells #[.int .i64 0, .int .i64 0] 53)).setCells W2.heap.size 0 Q.toList).cell? ⟨W2.heap.size, o, none⟩ = Q[o]?) ∧ (∀ o, ((W2.alloc (.cells #[.int .i64 0, .int .i64 0] 53)).setCells W2.heap.size 0 Q.toList).frozen? ⟨W2.heap.size, o, none⟩ = false)) := ⟨setCells_below (Nat.le_refl _) _ _ _ _ ((Below.refl _ _).alloc (Nat.le_refl _) _), by rw [setCells_size]; simp, bx_setCells (bx_al W2 _ _) (by rw [HQZ.out]; rfl), fx_sets (fx_al _ _ _)⟩
    go_upto_region 2 with (first | (refine wpList_store_mid rfl 53 _ _ rfl _ _ Q (by rfl) (by rfl) HTH.out HIQ.out HONQ.out ?_))
    generalize hWW : ((W2.alloc (.cells #[.int .i64 0, .int .i64 0] 53)).setCells W2.heap.size 0 Q.toList) = W3 at HWN ⊢
    clear hWW HTH
    obtain ⟨hb, zP, kP, fP⟩ := HWN.out
    clear HWN
    obtain ⟨bP, hq⟩ : ∃ q, q = W2.heap.size := ⟨_, rfl⟩
    rw [← hq] at zP kP fP ⊢
    have lAP : w.heap.size < bP := by rw [hq]; exact zA
    have lXP : w.heap.size + 1 < bP := by rw [hq]; exact zX
    have lSP : w.heap.size + 2 < bP := by rw [hq]; exact zS
    have lRP : w.heap.size + 3 < bP := by rw [hq]; exact zR
    have lwP : w.heap.size ≤ bP := by rw [hq]; exact HB.out.size
    clear hq
    replace kA := bx_below kA zA hb
    replace zA := Nat.lt_of_lt_of_le zA hb.size
    replace kX := bx_below kX zX hb
    replace zX := Nat.lt_of_lt_of_le zX hb.size
    replace kS := bx_below kS zS hb
    replace zS := Nat.lt_of_lt_of_le zS hb.size
    replace kR := bx_below kR zR hb
    replace fR := bxF fR hb zR
    replace zR := Nat.lt_of_lt_of_le zR hb.size
    replace HB : Hid (Below w.heap.size w W3) := HB.out.trans (hb.mono HB.out.size)
    clear hb
    obtain ⟨N, hN⟩ : ∃ N : Array Value, N = Q := ⟨_, rfl⟩
    have HN : Hid _ := hN
    have hNz : N.size = 2 := by rw [hN]; exact HQZ.out
    have HIN : Hid ((Tryz.prog.info? 53).map (·.size) = some N.size) := by show _ = _; rw [hNz]; exact info_IntR
    have HONE : Hid (N.all (·.oneCell') = true) := by show _ = _; rw [hN]; exact HONQ.out
    have HNZ : Hid _ := hNz
    clear hN hNz
    have HTH : Hid (W3.there (w.heap.size + 3) 0 N.size) := bx_there kR fR (by rw [HNZ.out]; rfl)
    have kQ : Hid (∀ o, (W3.setCells (w.heap.size + 3) 0 N.toList).cell? ⟨w.heap.size + 3, o, none⟩ = N[o]?) := bx_setCells kR (by rw [HNZ.out]; rfl)
    go_wp2_with (first | (refine wpList_load_mid rfl 53 _ rfl _ _ (by rfl) Q.toList _ (bx_range kP) Tryz.underlying53 rfl HIQ'.out ?_) | (refine wpList_store_mid rfl 53 _ _ rfl _ _ N (by rfl) (by rw [HN.out]; rfl) HTH.out HIN.out HONE.out ?_))
    refine bodyPost_ret (results_box Tryz.results51 _ _ _ N _ (by rfl) kQ.out Tryz.underlying53 rfl HIN.out) rfl ⟨by rw [HN.out], ?_⟩
    exact setCells_below (by omega) _ _ _ _ HB.out
set_option maxHeartbeats 2000000 in
theorem iWhereBad (A SG : Array Value) (w : World) (hA : A.size = 14) (hS : SG.size = 12) (C : Int) (hE : ErrLaid w) (hM : ∀ W, Below w.heap.size w W → Calls Tryz.prog 49 #[.agg A, .agg SG] W fun e w' => e = .returned (.iface 128 (.agg #[.int .i64 C])) ∧ Below W.heap.size W w') :
    Calls Tryz.prog 21 #[.agg A, .agg SG] w fun e w' => e = .returned (.agg #[.int .i64 C, .int .i64 0]) ∧ Below w.heap.size w w' := by
  have HI : Hid ((Tryz.prog.info? 35).map (·.size) = some A.toList.length) := by show _ = _; rw [Array.length_toList, hA]; exact (by kernel_rfl : (Tryz.prog.info? 35).map (·.size) = some 14)
  have HIS : Hid ((Tryz.prog.info? 55).map (·.size) = some SG.toList.length) := by show _ = _; rw [Array.length_toList, hS]; exact (by kernel_rfl : (Tryz.prog.info? 55).map (·.size) = some 12)
  have HM : Hid _ := hM
  have HCO : Hid (∀ W, Below w.heap.size w W → Calls Tryz.prog 35 #[.iface 128 (.agg #[.int .i64 C])] W fun e w' => e = .returned (.int .i64 C) ∧ Below W.heap.size W w') := fun W hW => dCode C W (ErrLaid.belowW hE hW)
  clear hA hS hM hE
  have HWA : Hid (Below w.heap.size w (((w.alloc (.cells A 35)).alloc (.cells SG 55)).alloc (.cells #[.int .i64 0, .int .i64 0] 53)) ∧ (((w.alloc (.cells A 35)).alloc (.cells SG 55)).alloc (.cells #[.int .i64 0, .int .i64 0] 53)).heap.size = w.heap.size + 3 ∧ (∀ o, (((w.alloc (.cells A 35)).alloc (.cells SG 55)).alloc (.cells #[.int .i64 0, .int .i64 0] 53)).cell? ⟨w.heap.size, o, none⟩ = (A : Array Value)[o]?) ∧ (∀ o, (((w.alloc (.cells A 35)).alloc (.cells SG 55)).alloc (.cells #[.int .i64 0, .int .i64 0] 53)).cell? ⟨w.heap.size + 1, o, none⟩ = (SG : Array Value)[o]?) ∧ (∀ o, (((w.alloc (.cells A 35)).alloc (.cells SG 55)).alloc (.cells #[.int .i64 0, .int .i64 0] 53)).cell? ⟨w.heap.size + 2, o, none⟩ = (#[.int .i64 0, .int .i64 0] : Array Value)[o]?) ∧ (∀ o, (((w.alloc (.cells A 35)).alloc (.cells SG 55)).alloc (.cells #[.int .i64 0, .int .i64 0] 53)).frozen? ⟨w.heap.size + 2, o, none⟩ = false)) := ⟨((((Below.refl _ _).alloc (Nat.le_refl _) _).alloc (by simp) _).alloc (by simp; omega) _), by simp, fun o => by simp [go_sem], fun o => by simp [go_sem], fun o => by simp [go_sem], fun o => by simp [go_sem]⟩
  go_enter Tryz.func21, Tryz.ntmps21
  go_upto_region 1 with fail
  generalize hWW : (((w.alloc (.cells A 35)).alloc (.cells SG 55)).alloc (.cells #[.int .i64 0, .int .i64 0] 53)) = W1 at HWA ⊢
  clear hWW
  obtain ⟨hb, hsz, kA, kS, kR, fR⟩ := HWA.out
  clear HWA
  have HB : Hid (Below w.heap.size w W1) := hb
  have zA : w.heap.size < W1.heap.size := by omega
  have zS : w.heap.size + 1 < W1.heap.size := by omega
  have zR : w.heap.size + 2 < W1.heap.size := by omega
  clear hb hsz
  go_wp2_with (first | (refine wpList_load_mid rfl 35 _ rfl _ _ (by rfl) A.toList _ (bx_range kA) Tryz.underlying35 rfl HI.out ?_) | (refine wpList_load_mid rfl 55 _ rfl _ _ (by rfl) SG.toList _ (bx_range kS) Tryz.underlying55 rfl HIS.out ?_))
  refine (HM.out _ HB.out).mono ?_
  rintro e W2 ⟨rfl, hb⟩
  replace kA := bx_below kA zA hb
  replace zA := Nat.lt_of_lt_of_le zA hb.size
  replace kS := bx_below kS zS hb
  replace zS := Nat.lt_of_lt_of_le zS hb.size
  replace kR := bx_below kR zR hb
  replace fR := bxF fR hb zR
  replace zR := Nat.lt_of_lt_of_le zR hb.size
  replace HB : Hid (Below w.heap.size w W2) := HB.out.trans (hb.mono HB.out.size)
  clear hb
  clear HM
  go_wp2_with fail
  refine (HCO.out _ HB.out).mono ?_
  rintro e W3 ⟨rfl, hb⟩
  replace kA := bx_below kA zA hb
  replace zA := Nat.lt_of_lt_of_le zA hb.size
  replace kS := bx_below kS zS hb
  replace zS := Nat.lt_of_lt_of_le zS hb.size
  replace kR := bx_below kR zR hb
  replace fR := bxF fR hb zR
  replace zR := Nat.lt_of_lt_of_le zR hb.size
  replace HB : Hid (Below w.heap.size w W3) := HB.out.trans (hb.mono HB.out.size)
  clear hb
  obtain ⟨N, hN⟩ : ∃ N : Array Value, N = #[.int .i64 C, .int .i64 0] := ⟨_, rfl⟩
  have HN : Hid _ := hN
  have hNz : N.size = 2 := by rw [hN]; rfl
  have HIN : Hid ((Tryz.prog.info? 53).map (·.size) = some N.size) := by show _ = _; rw [hNz]; exact info_IntR
  have HONE : Hid (N.all (·.oneCell') = true) := by show _ = _; rw [hN]; simp [Value.oneCell']
  have HNZ : Hid _ := hNz
  clear hN hNz
  have HTH : Hid (W3.there (w.heap.size + 2) 0 N.size) := bx_there kR fR (by rw [HNZ.out]; rfl)
  have kQ : Hid (∀ o, (W3.setCells (w.heap.size + 2) 0 N.toList).cell? ⟨w.heap.size + 2, o, none⟩ = N[o]?) := bx_setCells kR (by rw [HNZ.out]; rfl)
  go_wp2_with (first | (refine wpList_store_mid rfl 53 _ _ rfl _ _ N (by rfl) (by rw [HN.out]; rfl) HTH.out HIN.out HONE.out ?_))
  refine bodyPost_ret (results_box Tryz.results21 _ _ _ N _ (by rfl) kQ.out Tryz.underlying53 rfl HIN.out) rfl ⟨by rw [HN.out], ?_⟩
  exact setCells_below (by omega) _ _ _ _ HB.out
set_option maxHeartbeats 2000000 in
theorem iWhere4 (A SG : Array Value) (w : World) (hA : A.size = 14) (hS : SG.size = 12) (pa : Int) (a13 : Option Addr) (n c13 : Nat) (x13 : A[13]? = some (.slice a13 n c13)) (g0 : SG[0]? = some (.int .i64 pa)) (PL : Int) (hM : ∀ W, Below w.heap.size w W → Calls Tryz.prog 49 #[.agg A, .agg SG] W fun e w' => e = .returned (.nilIface) ∧ Below W.heap.size W w') (hPO : ∀ W, Below w.heap.size w W → Calls Tryz.prog 50 #[.slice a13 n c13, .int .i64 pa] W fun e w' => e = .returned (.int .i64 PL) ∧ Below W.heap.size W w') (hp : PL < 0) :
    Calls Tryz.prog 21 #[.agg A, .agg SG] w fun e w' => e = .returned (.agg #[.int .i64 4, .int .i64 0]) ∧ Below w.heap.size w w' := by
  have HI : Hid ((Tryz.prog.info? 35).map (·.size) = some A.toList.length) := by show _ = _; rw [Array.length_toList, hA]; exact (by kernel_rfl : (Tryz.prog.info? 35).map (·.size) = some 14)
  have HIS : Hid ((Tryz.prog.info? 55).map (·.size) = some SG.toList.length) := by show _ = _; rw [Array.length_toList, hS]; exact (by kernel_rfl : (Tryz.prog.info? 55).map (·.size) = some 12)
  have HM : Hid _ := hM
  have HPO : Hid _ := hPO
  have hp' : decide (PL < 0) = true := decide_eq_true hp
  clear hA hS hM hPO
  have HWA : Hid (Below w.heap.size w (((w.alloc (.cells A 35)).alloc (.cells SG 55)).alloc (.cells #[.int .i64 0, .int .i64 0] 53)) ∧ (((w.alloc (.cells A 35)).alloc (.cells SG 55)).alloc (.cells #[.int .i64 0, .int .i64 0] 53)).heap.size = w.heap.size + 3 ∧ (∀ o, (((w.alloc (.cells A 35)).alloc (.cells SG 55)).alloc (.cells #[.int .i64 0, .int .i64 0] 53)).cell? ⟨w.heap.size, o, none⟩ = (A : Array Value)[o]?) ∧ (∀ o, (((w.alloc (.cells A 35)).alloc (.cells SG 55)).alloc (.cells #[.int .i64 0, .int .i64 0] 53)).cell? ⟨w.heap.size + 1, o, none⟩ = (SG : Array Value)[o]?) ∧ (∀ o, (((w.alloc (.cells A 35)).alloc (.cells SG 55)).alloc (.cells #[.int .i64 0, .int .i64 0] 53)).cell? ⟨w.heap.size + 2, o, none⟩ = (#[.int .i64 0, .int .i64 0] : Array Value)[o]?) ∧ (∀ o, (((w.alloc (.cells A 35)).alloc (.cells SG 55)).alloc (.cells #[.int .i64 0, .int .i64 0] 53)).frozen? ⟨w.heap.size + 2, o, none⟩ = false)) := ⟨((((Below.refl _ _).alloc (Nat.le_refl _) _).alloc (by simp) _).alloc (by simp; omega) _), by simp, fun o => by simp [go_sem], fun o => by simp [go_sem], fun o => by simp [go_sem], fun o => by simp [go_sem]⟩
  go_enter Tryz.func21, Tryz.ntmps21
  go_upto_region 1 with fail
  generalize hWW : (((w.alloc (.cells A 35)).alloc (.cells SG 55)).alloc (.cells #[.int .i64 0, .int .i64 0] 53)) = W1 at HWA ⊢
  clear hWW
  obtain ⟨hb, hsz, kA, kS, kR, fR⟩ := HWA.out
  clear HWA
  have HB : Hid (Below w.heap.size w W1) := hb
  have zA : w.heap.size < W1.heap.size := by omega
  have zS : w.heap.size + 1 < W1.heap.size := by omega
  have zR : w.heap.size + 2 < W1.heap.size := by omega
  clear hb hsz
  go_wp2_with (first | (refine wpList_load_mid rfl 35 _ rfl _ _ (by rfl) A.toList _ (bx_range kA) Tryz.underlying35 rfl HI.out ?_) | (refine wpList_load_mid rfl 55 _ rfl _ _ (by rfl) SG.toList _ (bx_range kS) Tryz.underlying55 rfl HIS.out ?_))
  refine (HM.out _ HB.out).mono ?_
  rintro e W2 ⟨rfl, hb⟩
  replace kA := bx_below kA zA hb
  replace zA := Nat.lt_of_lt_of_le zA hb.size
  replace kS := bx_below kS zS hb
  replace zS := Nat.lt_of_lt_of_le zS hb.size
  replace kR := bx_below kR zR hb
  replace fR := bxF fR hb zR
  replace zR := Nat.lt_of_lt_of_le zR hb.size
  replace HB : Hid (Below w.heap.size w W2) := HB.out.trans (hb.mono HB.out.size)
  clear hb
  clear HM
  go_wp2_with fail
  refine (HPO.out _ HB.out).mono ?_
  rintro e W3 ⟨rfl, hb⟩
  replace kA := bx_below kA zA hb
  replace zA := Nat.lt_of_lt_of_le zA hb.size
  replace kS := bx_below kS zS hb
  replace zS := Nat.lt_of_lt_of_le zS hb.size
  replace kR := bx_below kR zR hb
  replace fR := bxF fR hb zR
  replace zR := Nat.lt_of_lt_of_le zR hb.size
  replace HB : Hid (Below w.heap.size w W3) := HB.out.trans (hb.mono HB.out.size)
  clear hb
  obtain ⟨N, hN⟩ : ∃ N : Array Value, N = #[.int .i64 4, .int .i64 0] := ⟨_, rfl⟩
  have HN : Hid _ := hN
  have hNz : N.size = 2 := by rw [hN]; rfl
  have HIN : Hid ((Tryz.prog.info? 53).map (·.size) = some N.size) := by show _ = _; rw [hNz]; exact info_IntR
  have HONE : Hid (N.all (·.oneCell') = true) := by show _ = _; rw [hN]; simp [Value.oneCell']
  have HNZ : Hid _ := hNz
  clear hN hNz
  have HTH : Hid (W3.there (w.heap.size + 2) 0 N.size) := bx_there kR fR (by rw [HNZ.out]; rfl)
  have kQ : Hid (∀ o, (W3.setCells (w.heap.size + 2) 0 N.toList).cell? ⟨w.heap.size + 2, o, none⟩ = N[o]?) := bx_setCells kR (by rw [HNZ.out]; rfl)
  go_wp2_with (first | (refine wpList_store_mid rfl 53 _ _ rfl _ _ N (by rfl) (by rw [HN.out]; rfl) HTH.out HIN.out HONE.out ?_))
  refine bodyPost_ret (results_box Tryz.results21 _ _ _ N _ (by rfl) kQ.out Tryz.underlying53 rfl HIN.out) rfl ⟨by rw [HN.out], ?_⟩
  exact setCells_below (by omega) _ _ _ _ HB.out
set_option maxHeartbeats 4000000 in
theorem iWhereOk (A SG : Array Value) (w : World) (hA : A.size = 14) (hS : SG.size = 12) (pa : Int) (a13 : Option Addr) (n c13 : Nat) (x13 : A[13]? = some (.slice a13 n c13)) (g0 : SG[0]? = some (.int .i64 pa)) (PL : Int) (hM : ∀ W, Below w.heap.size w W → Calls Tryz.prog 49 #[.agg A, .agg SG] W fun e w' => e = .returned (.nilIface) ∧ Below W.heap.size W w') (hPO : ∀ W, Below w.heap.size w W → Calls Tryz.prog 50 #[.slice a13 n c13, .int .i64 pa] W fun e w' => e = .returned (.int .i64 PL) ∧ Below W.heap.size W w') (k b off : Nat) (hPL : PL = (k : Int)) (ha13 : a13 = some ⟨b, off, none⟩) (hk : k < n) (hn : n ≤ 1048576) (hb : b < w.heap.size) (cs16 : List Value) (h16 : cs16.length = 16) (hrg : w.rangeAt b (off + k * 16) cs16) (M : Array Value) (hMZ : M.size = 2) (hMO : M.all (·.oneCell') = true) (hLO : ∀ W, Below w.heap.size w W → Calls Tryz.prog 51 #[.agg A, .agg cs16.toArray, .agg SG] W fun e w' => e = .returned (.agg M) ∧ Below W.heap.size W w') :
    Calls Tryz.prog 21 #[.agg A, .agg SG] w fun e w' => e = .returned (.agg M) ∧ Below w.heap.size w w' := by
  have HI : Hid ((Tryz.prog.info? 35).map (·.size) = some A.toList.length) := by show _ = _; rw [Array.length_toList, hA]; exact (by kernel_rfl : (Tryz.prog.info? 35).map (·.size) = some 14)
  have HIS : Hid ((Tryz.prog.info? 55).map (·.size) = some SG.toList.length) := by show _ = _; rw [Array.length_toList, hS]; exact (by kernel_rfl : (Tryz.prog.info? 55).map (·.size) = some 12)
  have HIX : Hid ((Tryz.prog.info? 94).map (·.size) = some cs16.length) := by show _ = _; rw [h16]; exact (by kernel_rfl : (Tryz.prog.info? 94).map (·.size) = some 16)
  subst hPL ha13
  have HM : Hid _ := hM
  have HPO : Hid _ := hPO
  have HLO : Hid _ := hLO
  have HRG : Hid _ := hrg
  have HMZ : Hid (M.size = 2) := hMZ
  have HMO : Hid _ := hMO
  have hbB := hb
  have hkI : (k : Int) < (n : Int) := by omega
  have hk0 : (0 : Int) ≤ (k : Int) := by omega
  have hp' : decide ((k : Int) < 0) = false := decide_eq_false (by omega)
  have hp'' : ¬ ((k : Int) < 0) := by omega
  clear hA hS hM hPO hLO hrg hMZ hMO hb h16
  have HWA : Hid (Below w.heap.size w (((w.alloc (.cells A 35)).alloc (.cells SG 55)).alloc (.cells #[.int .i64 0, .int .i64 0] 53)) ∧ (((w.alloc (.cells A 35)).alloc (.cells SG 55)).alloc (.cells #[.int .i64 0, .int .i64 0] 53)).heap.size = w.heap.size + 3 ∧ (∀ o, (((w.alloc (.cells A 35)).alloc (.cells SG 55)).alloc (.cells #[.int .i64 0, .int .i64 0] 53)).cell? ⟨w.heap.size, o, none⟩ = (A : Array Value)[o]?) ∧ (∀ o, (((w.alloc (.cells A 35)).alloc (.cells SG 55)).alloc (.cells #[.int .i64 0, .int .i64 0] 53)).cell? ⟨w.heap.size + 1, o, none⟩ = (SG : Array Value)[o]?) ∧ (∀ o, (((w.alloc (.cells A 35)).alloc (.cells SG 55)).alloc (.cells #[.int .i64 0, .int .i64 0] 53)).cell? ⟨w.heap.size + 2, o, none⟩ = (#[.int .i64 0, .int .i64 0] : Array Value)[o]?) ∧ (∀ o, (((w.alloc (.cells A 35)).alloc (.cells SG 55)).alloc (.cells #[.int .i64 0, .int .i64 0] 53)).frozen? ⟨w.heap.size + 2, o, none⟩ = false)) := ⟨((((Below.refl _ _).alloc (Nat.le_refl _) _).alloc (by simp) _).alloc (by simp; omega) _), by simp, fun o => by simp [go_sem], fun o => by simp [go_sem], fun o => by simp [go_sem], fun o => by simp [go_sem]⟩
  go_enter Tryz.func21, Tryz.ntmps21
  go_upto_region 1 with fail
  generalize hWW : (((w.alloc (.cells A 35)).alloc (.cells SG 55)).alloc (.cells #[.int .i64 0, .int .i64 0] 53)) = W1 at HWA ⊢
  clear hWW
  obtain ⟨hb, hsz, kA, kS, kR, fR⟩ := HWA.out
  clear HWA
  have HB : Hid (Below w.heap.size w W1) := hb
  have zA : w.heap.size < W1.heap.size := by omega
  have zS : w.heap.size + 1 < W1.heap.size := by omega
  have zR : w.heap.size + 2 < W1.heap.size := by omega
  clear hb hsz
  go_wp2_with (first | (refine wpList_load_mid rfl 35 _ rfl _ _ (by rfl) A.toList _ (bx_range kA) Tryz.underlying35 rfl HI.out ?_) | (refine wpList_load_mid rfl 55 _ rfl _ _ (by rfl) SG.toList _ (bx_range kS) Tryz.underlying55 rfl HIS.out ?_))
  refine (HM.out _ HB.out).mono ?_
  rintro e W2 ⟨rfl, hb⟩
  replace kA := bx_below kA zA hb
  replace zA := Nat.lt_of_lt_of_le zA hb.size
  replace kS := bx_below kS zS hb
  replace zS := Nat.lt_of_lt_of_le zS hb.size
  replace kR := bx_below kR zR hb
  replace fR := bxF fR hb zR
  replace zR := Nat.lt_of_lt_of_le zR hb.size
  replace HB : Hid (Below w.heap.size w W2) := HB.out.trans (hb.mono HB.out.size)
  clear hb
  clear HM
  go_wp2_with fail
  refine (HPO.out _ HB.out).mono ?_
  rintro e W3 ⟨rfl, hb⟩
  replace kA := bx_below kA zA hb
  replace zA := Nat.lt_of_lt_of_le zA hb.size
  replace kS := bx_below kS zS hb
  replace zS := Nat.lt_of_lt_of_le zS hb.size
  replace kR := bx_below kR zR hb
  replace fR := bxF fR hb zR
  replace zR := Nat.lt_of_lt_of_le zR hb.size
  replace HB : Hid (Below w.heap.size w W3) := HB.out.trans (hb.mono HB.out.size)
  clear hb
  go_upto_region 6 with fail
  have HB0 : Hid (Below w.heap.size w W3) := HB.out
  have kA0 := kA
  have zA0 := zA
  have kS0 := kS
  have zS0 := zS
  refine wp_region_noPanic ?_
  refine Goes.start (S := fun w' => Below W3.heap.size W3 w') (z := 8) (by kernel_rfl) ?_
  have hb : Below W3.heap.size W3 W3.drew := Below.drew (Below.refl _ _)
  generalize hWW : W3.drew = W4 at hb ⊢
  clear hWW
  have HS0 : Hid (Below W3.heap.size W3 W4) := hb
  replace kA := bx_below kA zA hb
  replace zA := Nat.lt_of_lt_of_le zA hb.size
  replace kS := bx_below kS zS hb
  replace zS := Nat.lt_of_lt_of_le zS hb.size
  replace kR := bx_below kR zR hb
  replace fR := bxF fR hb zR
  replace zR := Nat.lt_of_lt_of_le zR hb.size
  replace HB : Hid (Below w.heap.size w W4) := HB.out.trans (hb.mono HB.out.size)
  clear hb
  refine Goes.take (i := 0) (oi := ?oi11) (x := .agg (A.toList).toArray) ?ho11 (by kernel_rfl) (by kernel_rfl) (by kernel_rfl) (by kernel_rfl) (fun _ _ _ h => h) ?hy11 HS0.out ?rest11
  case ho11 => (simp only [List.getElem?_toArray, List.getElem?_cons_zero] <;> rfl)
  case hy11 => exact yieldsIf_load_mid (by rfl) 35 _ rfl (w.heap.size) (0) (by rfl) (A.toList) _ (fun w' hSw => bx_range (fun o => (hSw.cell (p := ⟨w.heap.size, o, none⟩) zA0).trans (kA0 o))) Tryz.underlying35 rfl HI.out
  case rest11 =>
  (try simp only [Act.put, List.setIfInBounds_toArray, List.set_cons_zero, List.set_cons_succ])
  refine Goes.take (i := 1) (oi := ?oi12) (x := ?vx12) ?ho12 (by kernel_rfl) (by kernel_rfl) (by kernel_rfl) (by kernel_rfl) (fun _ _ _ h => h) (Or.inl ⟨?hw12, ?hy12⟩) HS0.out ?rest12
  case ho12 => (simp only [List.getElem?_toArray, List.getElem?_cons_succ, List.getElem?_cons_zero] <;> rfl)
  case hw12 => rfl
  case hy12 => (intro w' hSw; have jA := fun o => (hSw.cell (p := ⟨w.heap.size, o, none⟩) zA0).trans (kA0 o); go_simp; (try with_reducible rfl))
  case rest12 =>
  (try simp only [Act.put, List.setIfInBounds_toArray, List.set_cons_zero, List.set_cons_succ])
  refine Goes.take (i := 2) (oi := ?oi13) (x := ?vx13) ?ho13 (by kernel_rfl) (by kernel_rfl) (by kernel_rfl) (by kernel_rfl) (fun _ _ _ h => h) (Or.inl ⟨?hw13, ?hy13⟩) HS0.out ?rest13
  case ho13 => (simp only [List.getElem?_toArray, List.getElem?_cons_succ, List.getElem?_cons_zero] <;> rfl)
  case hw13 => rfl
  case hy13 => (intro w' hSw; have jA := fun o => (hSw.cell (p := ⟨w.heap.size, o, none⟩) zA0).trans (kA0 o); go_simp; (try with_reducible rfl))
  case rest13 =>
  (try simp only [Act.put, List.setIfInBounds_toArray, List.set_cons_zero, List.set_cons_succ])
  refine Goes.take (i := 3) (oi := ?oi14) (x := ?vx14) ?ho14 (by kernel_rfl) (by kernel_rfl) (by kernel_rfl) (by kernel_rfl) (fun _ _ _ h => h) (Or.inl ⟨?hw14, ?hy14⟩) HS0.out ?rest14
  case ho14 => (simp only [List.getElem?_toArray, List.getElem?_cons_succ, List.getElem?_cons_zero] <;> rfl)
  case hw14 => rfl
  case hy14 => (intro w' hSw; have jA := fun o => (hSw.cell (p := ⟨w.heap.size, o, none⟩) zA0).trans (kA0 o); go_simp; (try with_reducible rfl))
  case rest14 =>
  (try simp only [Act.put, List.setIfInBounds_toArray, List.set_cons_zero, List.set_cons_succ])
  refine Goes.take (i := 4) (oi := ?oi15) (x := ?vx15) ?ho15 (by kernel_rfl) (by kernel_rfl) (by kernel_rfl) (by kernel_rfl) (fun _ _ _ h => h) (Or.inl ⟨?hw15, ?hy15⟩) HS0.out ?rest15
  case ho15 => (simp only [List.getElem?_toArray, List.getElem?_cons_succ, List.getElem?_cons_zero] <;> rfl)
  case hw15 => rfl
  case hy15 => (intro w' hSw; have jA := fun o => (hSw.cell (p := ⟨w.heap.size, o, none⟩) zA0).trans (kA0 o); go_simp; (try with_reducible rfl))
  case rest15 =>
  (try simp only [Act.put, List.setIfInBounds_toArray, List.set_cons_zero, List.set_cons_succ])
  refine Goes.take (i := 5) (oi := ?oi16) (x := .agg (cs16).toArray) ?ho16 (by kernel_rfl) (by kernel_rfl) (by kernel_rfl) (by kernel_rfl) (fun _ _ _ h => h) ?hy16 HS0.out ?rest16
  case ho16 => (simp only [List.getElem?_toArray, List.getElem?_cons_succ, List.getElem?_cons_zero] <;> rfl)
  case hy16 => exact yieldsIf_load_mid (by rfl) 94 _ rfl (b) (off + k * 16) (by rfl) (cs16) _ (fun w' hSw => range_below HRG.out (HB0.out.trans (hSw.mono HB0.out.size)) hbB) Tryz.underlying94 rfl HIX.out
  case rest16 =>
  (try simp only [Act.put, List.setIfInBounds_toArray, List.set_cons_zero, List.set_cons_succ])
  refine Goes.take (i := 6) (oi := ?oi17) (x := .agg (SG.toList).toArray) ?ho17 (by kernel_rfl) (by kernel_rfl) (by kernel_rfl) (by kernel_rfl) (fun _ _ _ h => h) ?hy17 HS0.out ?rest17
  case ho17 => (simp only [List.getElem?_toArray, List.getElem?_cons_succ, List.getElem?_cons_zero] <;> rfl)
  case hy17 => exact yieldsIf_load_mid (by rfl) 55 _ rfl (w.heap.size + 1) (0) (by rfl) (SG.toList) _ (fun w' hSw => bx_range (fun o => (hSw.cell (p := ⟨w.heap.size + 1, o, none⟩) zS0).trans (kS0 o))) Tryz.underlying55 rfl HIS.out
  case rest17 =>
  (try simp only [Act.put, List.setIfInBounds_toArray, List.set_cons_zero, List.set_cons_succ])
  refine Goes.all (rs := [7]) (by kernel_rfl) (by simp) ?_
  refine Ups.cons (i := 7) (o := ?oo18) ?ho18 (fun KK hKK => ?stp18) Ups.nil
  case ho18 => (simp only [List.getElem?_toArray, List.getElem?_cons_succ, List.getElem?_cons_zero] <;> rfl)
  case stp18 =>
  go_simp
  go_at_call 51
  refine (HLO.out _ HB.out).mono ?_
  rintro e W5 ⟨rfl, hb⟩
  have HS1 : Hid (Below W3.heap.size W3 W5) := HS0.out.trans (hb.mono HS0.out.size)
  replace kA := bx_below kA zA hb
  replace zA := Nat.lt_of_lt_of_le zA hb.size
  replace kS := bx_below kS zS hb
  replace zS := Nat.lt_of_lt_of_le zS hb.size
  replace kR := bx_below kR zR hb
  replace fR := bxF fR hb zR
  replace zR := Nat.lt_of_lt_of_le zR hb.size
  replace HB : Hid (Below w.heap.size w W5) := HB.out.trans (hb.mono HB.out.size)
  clear hb
  dsimp only
  refine hKK.out _ _ (Or.inr HS1.out) ?_
  clear hKK KK
  (try simp only [Act.put, List.setIfInBounds_toArray, List.set_cons_zero, List.set_cons_succ])
  obtain ⟨N, hN⟩ : ∃ N : Array Value, N = M := ⟨_, rfl⟩
  have HN : Hid _ := hN
  have hNz : N.size = 2 := by rw [hN]; exact HMZ.out
  have HIN : Hid ((Tryz.prog.info? 53).map (·.size) = some N.size) := by show _ = _; rw [hNz]; exact info_IntR
  have HONE : Hid (N.all (·.oneCell') = true) := by show _ = _; rw [hN]; exact HMO.out
  have HNZ : Hid _ := hNz
  clear hN hNz
  have HTH : Hid (W5.there (w.heap.size + 2) 0 N.size) := bx_there kR fR (by rw [HNZ.out]; rfl)
  have kQ : Hid (∀ o, (W5.setCells (w.heap.size + 2) 0 N.toList).cell? ⟨w.heap.size + 2, o, none⟩ = N[o]?) := bx_setCells kR (by rw [HNZ.out]; rfl)
  refine Goes.all (rs := [8]) (by kernel_rfl) (by simp) ?_
  refine Ups.cons (i := 8) (o := ?oo19) ?ho19 (fun KK hKK => ?stp19) Ups.nil
  case ho19 => (simp only [List.getElem?_toArray, List.getElem?_cons_succ, List.getElem?_cons_zero] <;> rfl)
  case stp19 =>
  rw [if_pos (by rfl)]
  refine wp_store_mid 53 _ _ rfl _ _ N (by rfl) (by rw [HN.out]; rfl) HTH.out HIN.out HONE.out ?_
  refine hKK.out _ _ (Or.inl rfl) ?_
  clear hKK KK
  (try simp only [Act.put])
  refine Goes.done (by kernel_rfl) ?_ _
  refine NoPanic.normal ?_
  go_wp2_with fail
  refine bodyPost_ret (results_box Tryz.results21 _ _ _ N _ (by rfl) kQ.out Tryz.underlying53 rfl HIN.out) rfl ⟨by rw [HN.out], ?_⟩
  exact setCells_below (by omega) _ _ _ _ HB.out
end Go.Proofs.YtbdibjeemgkdaaaGreatDoor
