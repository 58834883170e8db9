/- Whether a world is safe: SafeWorld, of the program and of its model; nothing that was in memory turns; no condition but that there are at most a million parts. Written by mkaud10.py. -/
import Derived.Test.YtnfkjdcnngoeiabGreatRows
import Derived.Recover
import Derived.Deep.RegionHeld3
import Derived.Deep.DeepCutAuto
import Derived.Deep.MidRow
import Derived.Deep.QuietTactic
import Derived.BigQuiet
import Derived.Test.YtnfkjdcnngoeiabGreatK01
import Derived.Test.YtnfkjdcnngoeiabGreatK02
import Derived.Test.YtnfkjdcnngoeiabGreatK03
import Derived.Test.YtnfkjdcnngoeiabGreatK05
import Derived.Test.YtnfkjdcnngoeiabGreatK10
import Derived.Test.YtnfkjdcnngoeiabGreatK11
import Derived.Test.YtnfkjdcnngoeiabGreatK12
import Derived.Test.YtnfkjdcnngoeiabGreatK14
import Derived.Test.YtnfkjdcnngoeiabGreatK58
import Derived.Test.YtnfkjdcnngoeiabGreatK59
import Derived.Test.YtnfkjdcnngoeiabGreatK60
import Derived.Test.YtnfkjdcnngoeiabGreatK61
import Derived.Test.YtnfkjdcnngoeiabGreatK62
import Derived.Test.YtnfkjdcnngoeiabGreatK64
import Derived.Test.YtnfkjdcnngoeiabGreatK79
import Derived.Test.YtnfkjdcnngoeiabGreatK80
import Derived.Test.YtnfkjdcnngoeiabGreatK81
import Derived.Test.YtnfkjdcnngoeiabGreatK82
namespace Go.Proofs.YtnfkjdcnngoeiabGreat
open Go.RowKit
set_option linter.unusedVariables false
set_option maxRecDepth 8000

/-- All that is wanted of the side k is right. -/
noncomputable def rgtV (x : DWorld) (k : Nat) : Nat → Bool
  | 0 => preV (x.cn (1 - k)) (x.gt k) (x.en k)
  | 1 => heldV (x.cn k) (x.cn (1 - k))
  | 2 => fliV (x.cn k)
  | _ => knoV (x.cn k) (x.cn (1 - k))
noncomputable def allR (x : DWorld) (k : Nat) : Bool := rgtV x k 0 && (rgtV x k 1 && (rgtV x k 2 && rgtV x k 3))
noncomputable def safeW (x : DWorld) : Bool := decide (worldF x = 0) && (allR x 0 && allR x 1)
theorem allB_four (bs : Nat → Bool) : allB bs 4 = (bs 0 && (bs 1 && (bs 2 && bs 3))) := by
  unfold allB
  have e : List.range 4 = [0, 1, 2, 3] := rfl
  rw [e]
  simp [List.all_cons]
theorem safe_no {x : DWorld} {k : Nat} (hk : k < 2) (h : (decide (worldF x = 0) && allR x k) = false) : safeW x = false := by
  unfold safeW
  have e : k = 0 ∨ k = 1 := by omega
  rcases e with rfl | rfl
  · rw [← Bool.and_assoc, h, Bool.false_and]
  · rw [Bool.and_comm (allR x 0), ← Bool.and_assoc, h, Bool.false_and]
theorem safe_yes {x : DWorld} (h : ∀ k, k < 2 → (decide (worldF x = 0) && allR x k) = true) : safeW x = true := by
  have h0 := h 0 (by omega)
  have h1 := h 1 (by omega)
  simp only [Bool.and_eq_true] at h0 h1
  unfold safeW
  simp [h0.1, h0.2, h1.2]
def rgtF : Nat → Nat
  | 0 => 36
  | 1 => 37
  | 2 => 38
  | _ => 39
theorem fnRgt (k : Nat) (hk : k < 4) (args : Array Value) (W : World) : Sem.run Tryz.prog (callFunc (rgtF k) args) W = .ok (.enter (rgtF k) args) W := by
  have e : k = 0 ∨ k = 1 ∨ k = 2 ∨ k = 3 := by omega
  rcases e with rfl | rfl | rfl | rfl <;> simp [go_sem, rgtF]
theorem iRgt (x : DWorld) (k : Nat) (hk : k < 2) (A : Array Value) (wb cap : Nat) (w : World) (B : Nat) (hr : shWorld.Rd w B x A.toList) (hB : B ≤ w.heap.size) (hT : totWorld x ≤ 1048576) (hwb : wb < w.heap.size) (hc : ∀ j, j < 4 → w.cell? ⟨wb, j, none⟩ = some (.func (.func (rgtF j)) #[] #[])) :
    Calls Tryz.prog 52 #[.agg A, .int .i64 k, .slice (some ⟨wb, 0, none⟩) 4 cap] w fun e w' => e = .returned (.bool (decide (worldF x = 0) && allR x k)) ∧ Below w.heap.size w w' := by
  have h := iIsRight x A k wb 0 4 cap rgtF (rgtV x k) w B hr hB hT hwb (by omega) (fun j hj => by rw [Nat.zero_add]; exact hc j hj) (fun j hj => fnRgt j hj) (fun q q' hqq hs j hj W V hW hv => by
    have e1 : q = k := by omega
    have e2 : q' = 1 - k := by omega
    subst e1 e2
    have hBW := Nat.le_trans hB hW.size
    have e : j = 0 ∨ j = 1 ∨ j = 2 ∨ j = 3 := by omega
    rcases e with rfl | rfl | rfl | rfl
    · exact iWantPrefix _ _ _ _ V W B hv hBW
    · exact iWantHeld _ _ _ _ V W B hv hBW
    · exact iWantFlights _ _ _ _ V W B hv hBW
    · exact iWantKnown _ _ _ _ V W B hv hBW
    )
  have hin : inD (k : Int) 0 1 = true := inD_mk (by omega) (by omega)
  rw [hin, Bool.and_true, allB_four] at h
  exact h
set_option maxHeartbeats 4000000 in
theorem iAreRight (x : DWorld) (A : Array Value) (wb cap : Nat) (w : World) (B : Nat) (hr : shWorld.Rd w B x A.toList) (hB : B ≤ w.heap.size) (hT : totWorld x ≤ 1048576) (hwb : wb < w.heap.size) (hc : ∀ j, j < 4 → w.cell? ⟨wb, j, none⟩ = some (.func (.func (rgtF j)) #[] #[])) :
    Calls Tryz.prog 35 #[.agg A, .slice (some ⟨wb, 0, none⟩) 4 cap] w fun e w' => e = .returned (.bool (safeW x)) ∧ Below w.heap.size w w' := by
  obtain ⟨R, hR⟩ : ∃ R, R = safeW x := ⟨_, rfl⟩
  rw [← hR]
  have HR : Hid _ := hR
  have HI : Hid ((Tryz.prog.info? 37).map (·.size) = some A.toList.length) := by show _ = _; rw [Array.length_toList, rd_size hr]; exact (by kernel_rfl : (Tryz.prog.info? 37).map (·.size) = some 6)
  have HRG : Hid (∀ k : Nat, k < 2 → ∀ W, Below w.heap.size w W → Calls Tryz.prog 52 #[.agg A, .int .i64 (k : Int), .slice (some ⟨wb, 0, none⟩) 4 cap] W fun e w' => e = .returned (.bool (decide (worldF x = 0) && allR x k)) ∧ Below W.heap.size W w') := fun k hk W hW => iRgt x k hk A wb cap W B (Sh.Rd.below hr hB hW) (Nat.le_trans hB hW.size) hT (Nat.lt_of_lt_of_le hwb hW.size) (fun j hj => (hW.cell (p := ⟨wb, j, none⟩) hwb).trans (hc j hj))
  clear hR hr hB hT hwb hc
  have HWA : Hid (Below w.heap.size w (w.alloc (.cells A 37)) ∧ (w.alloc (.cells A 37)).heap.size = w.heap.size + 1 ∧ (∀ o, (w.alloc (.cells A 37)).cell? ⟨w.heap.size, o, none⟩ = A[o]?)) := ⟨(Below.refl _ _).alloc (Nat.le_refl _) _, by simp, fun o => by simp [go_sem]⟩
  go_enter Tryz.func35, Tryz.ntmps35
  go_upto_region 1 with fail
  generalize hWW : w.alloc (.cells A 37) = W1 at HWA ⊢
  clear hWW
  obtain ⟨hb, hsz, kA⟩ := HWA.out
  clear HWA
  have HB : Hid (Below w.heap.size w W1) := hb
  have zA : w.heap.size < W1.heap.size := by omega
  clear hb hsz
  have HK : Hid ((∀ o, W1.cell? ⟨w.heap.size, o, none⟩ = A[o]?) ∧ w.heap.size < W1.heap.size) := ⟨kA, zA⟩
  go_wp2_with fail
  clear kA zA
  go_loopw [6] (fun i wr => ∃ k : Nat, k ≤ 2 ∧ i = .int .i64 k ∧ Hid (∀ q, q < k → (decide (worldF x = 0) && allR x q) = true) ∧ Hid (Below w.heap.size w wr) ∧ Hid ((∀ o, wr.cell? ⟨w.heap.size, o, none⟩ = A[o]?) ∧ w.heap.size < wr.heap.size)) (fun i _ => 2 - (intOf i).toNat)
  case atStart => exact ⟨0, by omega, rfl, fun q hq => absurd hq (Nat.not_lt_zero _), HB, HK⟩
  case round =>
    clear HB HK
    obtain ⟨k, hk, rfl, HQ, HB, HK⟩ := hrel
    obtain ⟨kA, zA⟩ := HK.out
    clear HK
    by_cases hlt : k < 2
    · have hk0 : (0 : Int) ≤ (k : Int) := by omega
      have hk1 : (k : Int) < 2 := by omega
      have HC : Hid (Calls Tryz.prog 52 #[.agg A, .int .i64 (k : Int), .slice (some ⟨wb, 0, none⟩) 4 cap] wr fun e w' => e = .returned (.bool (decide (worldF x = 0) && allR x k)) ∧ Below wr.heap.size wr w') := HRG.out k hlt wr HB.out
      have HJ : Hid (k < 2) := hlt
      clear hlt
      go_wp2_with (refine wpList_load_mid rfl 37 _ rfl _ _ (by rfl) A.toList _ (bx_range kA) Tryz.underlying37 rfl HI.out ?_)
      cases hv : (decide (worldF x = 0) && allR x k) with
      | false =>
        rw [hv] at HC
        refine Calls.mono HC.out ?_
        rintro e W2 ⟨rfl, hb⟩
        replace HB : Hid (Below w.heap.size w W2) := HB.out.trans (hb.mono HB.out.size)
        have HR' : Hid (R = false) := by show _ = _; rw [HR.out]; exact safe_no HJ.out hv
        clear hb HC hv HR HRG HQ kA zA
        go_wp2_with fail
        go_ret
        exact ⟨ret_bool (by rw [HR'.out]), HB.out⟩
      | true =>
        rw [hv] at HC
        refine Calls.mono HC.out ?_
        rintro e W2 ⟨rfl, hb⟩
        replace kA := bx_below kA zA hb
        replace zA := Nat.lt_of_lt_of_le zA hb.size
        replace HB : Hid (Below w.heap.size w W2) := HB.out.trans (hb.mono HB.out.size)
        have HQ2 : Hid (∀ q, q < k + 1 → (decide (worldF x = 0) && allR x q) = true) := fun q hq => (Nat.lt_or_eq_of_le (Nat.le_of_lt_succ hq)).elim (fun h => HQ.out q h) (fun h => by rw [h]; exact hv)
        have HK : Hid ((∀ o, W2.cell? ⟨w.heap.size, o, none⟩ = A[o]?) ∧ w.heap.size < W2.heap.size) := ⟨kA, zA⟩
        clear hb HC hv HQ kA zA
        go_wp2_with fail
        go_roundw
        case rel => exact ⟨k + 1, HJ.out, by go_num, HQ2, HB, HK⟩
        case measure => simp [intOf]; have := HJ.out; omega
    · obtain rfl : k = 2 := by omega
      have HR' : Hid (R = true) := by show _ = _; rw [HR.out]; exact safe_yes HQ.out
      clear HR HRG HQ kA zA
      go_wp2_with fail
      go_ret
      exact ⟨ret_bool (by rw [HR'.out]), HB.out⟩
set_option maxHeartbeats 2000000 in
theorem iSafeWorld (x : DWorld) (A : Array Value) (w : World) (B : Nat) (hr : shWorld.Rd w B x A.toList) (hB : B ≤ w.heap.size) (hT : totWorld x ≤ 1048576) :
    Calls Tryz.prog 9 #[.agg A] w fun e w' => e = .returned (.bool (safeW x)) ∧ Below w.heap.size w w' := by
  have HI : Hid ((Tryz.prog.info? 37).map (·.size) = some A.toList.length) := by show _ = _; rw [Array.length_toList, rd_size hr]; exact (by kernel_rfl : (Tryz.prog.info? 37).map (·.size) = some 6)
  have HC : Hid (∀ (W : World) (wb cap : Nat), Below w.heap.size w W → wb < W.heap.size → (∀ j, j < 4 → W.cell? ⟨wb, j, none⟩ = some (.func (.func (rgtF j)) #[] #[])) → Calls Tryz.prog 35 #[.agg A, .slice (some ⟨wb, 0, none⟩) 4 cap] W fun e w' => e = .returned (.bool (safeW x)) ∧ Below W.heap.size W w') := fun W wb cap hW hwb hc => iAreRight x A wb cap W B (Sh.Rd.below hr hB hW) (Nat.le_trans hB hW.size) hT hwb hc
  clear hr hB hT
  generalize safeW x = R at *
  have HWA : Hid (Below w.heap.size w (w.alloc (.cells A 37)) ∧ (w.alloc (.cells A 37)).heap.size = w.heap.size + 1 ∧ (∀ o, (w.alloc (.cells A 37)).cell? ⟨w.heap.size, o, none⟩ = A[o]?)) := ⟨(Below.refl _ _).alloc (Nat.le_refl _) _, by simp, fun o => by simp [go_sem]⟩
  go_enter Tryz.func9, Tryz.ntmps9
  go_upto_region 1 with fail
  generalize hWW : w.alloc (.cells A 37) = W1 at HWA ⊢
  clear hWW
  obtain ⟨hb, hsz, kA⟩ := HWA.out
  clear HWA
  have HB : Hid (Below w.heap.size w W1) := hb
  have zA : w.heap.size < W1.heap.size := by omega
  clear hb hsz
  go_wp2_with (first | (refine wpList_load_mid rfl 37 _ rfl _ _ (by rfl) A.toList _ (bx_range kA) Tryz.underlying37 rfl HI.out ?_))
  refine (HC.out _ W1.heap.size _ (HB.out.trans ((Below.refl W1.heap.size W1).alloc (Nat.le_refl _) _ |>.mono HB.out.size)) (by simp) (fun j hj => by have e : j = 0 ∨ j = 1 ∨ j = 2 ∨ j = 3 := (by omega); rcases e with rfl | rfl | rfl | rfl <;> simp [go_sem, rgtF])).mono ?_
  rintro e W2 ⟨rfl, hb⟩
  have HB2 : Hid (Below w.heap.size w W2) := HB.out.trans (((Below.refl W1.heap.size W1).alloc (Nat.le_refl _) _).trans (hb.mono (by simp)) |>.mono HB.out.size)
  clear hb HC HB HI kA zA
  go_wp2_with fail
  go_ret
  exact ⟨rfl, HB2.out⟩
set_option maxHeartbeats 8000000 in
theorem sSafeWorld (x : DWorld) (A : Array Value) (w : World) (B : Nat) (hr : shWorld.Rd w B x A.toList) (hB : B ≤ w.heap.size) (hT : totWorld x ≤ 1048576) :
    Calls Tryz.prog 7 #[.agg A] w fun e w' => e = .returned (.bool (safeW x)) ∧ Below w.heap.size w w' := by
  obtain ⟨R, hR⟩ : ∃ R, R = safeW x := ⟨_, rfl⟩
  rw [← hR]
  have HR : Hid _ := hR
  have HWF : Hid (∀ W, Below w.heap.size w W → (∀ o, W.cell? ⟨w.heap.size, o, none⟩ = A[o]?) → w.heap.size < W.heap.size → Calls Tryz.prog 26 #[.pointer (some ⟨w.heap.size, 0, none⟩)] W fun e w' => e = .returned (.int .i64 (worldF x)) ∧ Below W.heap.size W w') := fun W hW hk hl => sL13Fault x A w.heap.size W B (Sh.Rd.below hr hB hW) hk hl (Nat.le_trans hB hW.size) hT
  by_cases h0 : worldF x = 0
  case neg =>
    have HR' : Hid (R = false) := by show _ = _; rw [hR]; unfold safeW; rw [decide_eq_false h0, Bool.false_and]
    have h0' : (worldF x != 0) = true := by simp [h0]
    clear hr hB hT hR HR h0
    generalize worldF x = F at *
    have HWA : Hid (Below w.heap.size w (w.alloc (.cells A 37)) ∧ (w.alloc (.cells A 37)).heap.size = w.heap.size + 1 ∧ (∀ o, (w.alloc (.cells A 37)).cell? ⟨w.heap.size, o, none⟩ = A[o]?)) := ⟨(Below.refl _ _).alloc (Nat.le_refl _) _, by simp, fun o => by simp [go_sem]⟩
    go_enter Tryz.func7, Tryz.ntmps7
    go_upto_region 1 with fail
    generalize hWW : w.alloc (.cells A 37) = W1 at HWA ⊢
    clear hWW
    obtain ⟨hb, hsz, kA⟩ := HWA.out
    clear HWA
    have HB : Hid (Below w.heap.size w W1) := hb
    have zA : w.heap.size < W1.heap.size := by omega
    clear hb hsz
    go_wp2_with (go_at_call 26; refine (HWF.out _ HB.out kA zA).mono ?_; rintro e W2 ⟨rfl, hb⟩; replace kA := bx_below kA zA hb; replace zA := Nat.lt_of_lt_of_le zA hb.size; replace HB : Hid (Below w.heap.size w W2) := HB.out.trans (hb.mono HB.out.size); clear hb)
    go_ret
    exact ⟨ret_bool (by rw [HR'.out]), HB.out⟩
  have h0' : (worldF x != 0) = false := by simp [h0]
  have HCP : Hid (∀ k : Nat, k < 2 → ∀ W, Below w.heap.size w W → (∀ o, W.cell? ⟨w.heap.size, o, none⟩ = A[o]?) → Calls Tryz.prog 27 #[.pointer (some ⟨w.heap.size, 0, none⟩), .int .i64 (k : Int)] W fun e w' => e = .returned (.bool (rgtV x k 0)) ∧ Below W.heap.size W w') := fun k hk W hW hc => sPrefixW x A k (1 - k) w.heap.size W B (Sh.Rd.below hr hB hW) hc (Nat.le_trans hB hW.size) h0 hT (by omega)
  have HCH : Hid (∀ k : Nat, k < 2 → ∀ W, Below w.heap.size w W → (∀ o, W.cell? ⟨w.heap.size, o, none⟩ = A[o]?) → Calls Tryz.prog 28 #[.pointer (some ⟨w.heap.size, 0, none⟩), .int .i64 (k : Int)] W fun e w' => e = .returned (.bool (rgtV x k 1)) ∧ Below W.heap.size W w') := fun k hk W hW hc => sHeldW x A k (1 - k) w.heap.size W B (Sh.Rd.below hr hB hW) hc (Nat.le_trans hB hW.size) h0 hT (by omega)
  have HCK : Hid (∀ k : Nat, k < 2 → ∀ W, Below w.heap.size w W → (∀ o, W.cell? ⟨w.heap.size, o, none⟩ = A[o]?) → Calls Tryz.prog 30 #[.pointer (some ⟨w.heap.size, 0, none⟩), .int .i64 (k : Int)] W fun e w' => e = .returned (.bool (rgtV x k 3)) ∧ Below W.heap.size W w') := fun k hk W hW hc => sKnownW x A k (1 - k) w.heap.size W B (Sh.Rd.below hr hB hW) hc (Nat.le_trans hB hW.size) h0 hT (by omega)
  obtain ⟨sb, so, sc, a1, hcf⟩ : ∃ sb so sc, A[1]? = some (.slice (some ⟨sb, so, none⟩) 2 sc) ∧ ∀ k : Nat, k < 2 → ∀ W, Below w.heap.size w W → Calls Tryz.prog 29 #[.pointer (some ⟨sb, so + k * 14, none⟩)] W fun e w' => e = .returned (.bool (rgtV x k 2)) ∧ Below W.heap.size W w' := by
    obtain ⟨sb, so, sc, na, nc, da, dc, gb, go, gc, eb, eo, ec, h⟩ := wo_all hr h0 hT
    refine ⟨sb, so, sc, by rw [h.eA]; rfl, fun k hk W hW => ?_⟩
    obtain ⟨C, c0, rc⟩ := h.cs k hk
    exact sL14Flights (x.cn k) C sb (so + k * 14) W B ((ConnAt.of c0 rc hB (h.tot k hk)).below hW) (h.ok k hk)
  have HCF : Hid _ := hcf
  have HNO : Hid (∀ k, k < 2 → allR x k = false → safeW x = false) := fun k hk h => safe_no hk (by rw [h, Bool.and_false])
  have HYE : Hid ((∀ k, k < 2 → allR x k = true) → safeW x = true) := fun h => safe_yes fun k hk => by rw [h k hk, decide_eq_true h0]; rfl
  clear hr hB hT hR hcf
  rw [h0] at HWF h0'
  clear h0
  have HWA : Hid (Below w.heap.size w (w.alloc (.cells A 37)) ∧ (w.alloc (.cells A 37)).heap.size = w.heap.size + 1 ∧ (∀ o, (w.alloc (.cells A 37)).cell? ⟨w.heap.size, o, none⟩ = A[o]?)) := ⟨(Below.refl _ _).alloc (Nat.le_refl _) _, by simp, fun o => by simp [go_sem]⟩
  go_enter Tryz.func7, Tryz.ntmps7
  go_upto_region 1 with fail
  generalize hWW : w.alloc (.cells A 37) = W1 at HWA ⊢
  clear hWW
  obtain ⟨hb, hsz, kA⟩ := HWA.out
  clear HWA
  have HB : Hid (Below w.heap.size w W1) := hb
  have zA : w.heap.size < W1.heap.size := by omega
  clear hb hsz
  go_wp2_with (go_at_call 26; refine (HWF.out _ HB.out kA zA).mono ?_; rintro e W2 ⟨rfl, hb⟩; replace kA := bx_below kA zA hb; replace zA := Nat.lt_of_lt_of_le zA hb.size; replace HB : Hid (Below w.heap.size w W2) := HB.out.trans (hb.mono HB.out.size); clear hb)
  clear HWF h0'
  have HK : Hid ((∀ o, W2.cell? ⟨w.heap.size, o, none⟩ = A[o]?) ∧ w.heap.size < W2.heap.size) := ⟨kA, zA⟩
  clear kA zA
  go_loopw [3] (fun i wr => ∃ k : Nat, k ≤ 2 ∧ i = .int .i64 k ∧ Hid (∀ q, q < k → allR x q = true) ∧ Hid (Below w.heap.size w wr) ∧ Hid ((∀ o, wr.cell? ⟨w.heap.size, o, none⟩ = A[o]?) ∧ w.heap.size < wr.heap.size)) (fun i _ => 2 - (intOf i).toNat)
  case atStart => exact ⟨0, by omega, rfl, fun q hq => absurd hq (Nat.not_lt_zero _), HB, HK⟩
  case round =>
    clear HB HK
    obtain ⟨k, hk, rfl, HQ, HB, HK⟩ := hrel
    obtain ⟨kA, zA⟩ := HK.out
    clear HK
    by_cases hlt : k < 2
    · have hk0 : (0 : Int) ≤ (k : Int) := by omega
      have hk1 : (k : Int) < 2 := by omega
      have CP : Hid _ := HCP.out k hlt
      have CH : Hid _ := HCH.out k hlt
      have CF : Hid _ := HCF.out k hlt
      have CK : Hid _ := HCK.out k hlt
      have HJ : Hid (k < 2) := hlt
      have HAL : Hid (allR x k = (rgtV x k 0 && (rgtV x k 1 && (rgtV x k 2 && rgtV x k 3)))) := rfl
      clear hlt
      generalize rgtV x k 0 = q0 at *
      generalize rgtV x k 1 = q1 at *
      generalize rgtV x k 2 = q2 at *
      generalize rgtV x k 3 = q3 at *
      cases q0
      case false =>
        have HR' : Hid (R = false) := by show _ = _; rw [HR.out]; exact HNO.out k HJ.out (by rw [HAL.out]; simp)
        clear HR HNO HYE HAL HQ
        go_wp2_with (first | (go_at_call 27; refine (CP.out _ HB.out kA).mono ?_; rintro e W3 ⟨rfl, hb⟩; replace kA := bx_below kA zA hb; replace zA := Nat.lt_of_lt_of_le zA hb.size; replace HB : Hid (Below w.heap.size w W3) := HB.out.trans (hb.mono HB.out.size); clear hb))
        go_ret
        exact ⟨ret_bool (by rw [HR'.out]), HB.out⟩
      cases q1
      case false =>
        have HR' : Hid (R = false) := by show _ = _; rw [HR.out]; exact HNO.out k HJ.out (by rw [HAL.out]; simp)
        clear HR HNO HYE HAL HQ
        go_wp2_with (first | (go_at_call 27; refine (CP.out _ HB.out kA).mono ?_; rintro e W3 ⟨rfl, hb⟩; replace kA := bx_below kA zA hb; replace zA := Nat.lt_of_lt_of_le zA hb.size; replace HB : Hid (Below w.heap.size w W3) := HB.out.trans (hb.mono HB.out.size); clear hb) | (go_at_call 28; refine (CH.out _ HB.out kA).mono ?_; rintro e W3 ⟨rfl, hb⟩; replace kA := bx_below kA zA hb; replace zA := Nat.lt_of_lt_of_le zA hb.size; replace HB : Hid (Below w.heap.size w W3) := HB.out.trans (hb.mono HB.out.size); clear hb))
        go_ret
        exact ⟨ret_bool (by rw [HR'.out]), HB.out⟩
      cases q2
      case false =>
        have HR' : Hid (R = false) := by show _ = _; rw [HR.out]; exact HNO.out k HJ.out (by rw [HAL.out]; simp)
        clear HR HNO HYE HAL HQ
        go_wp2_with (first | (go_at_call 27; refine (CP.out _ HB.out kA).mono ?_; rintro e W3 ⟨rfl, hb⟩; replace kA := bx_below kA zA hb; replace zA := Nat.lt_of_lt_of_le zA hb.size; replace HB : Hid (Below w.heap.size w W3) := HB.out.trans (hb.mono HB.out.size); clear hb) | (go_at_call 28; refine (CH.out _ HB.out kA).mono ?_; rintro e W3 ⟨rfl, hb⟩; replace kA := bx_below kA zA hb; replace zA := Nat.lt_of_lt_of_le zA hb.size; replace HB : Hid (Below w.heap.size w W3) := HB.out.trans (hb.mono HB.out.size); clear hb) | (go_at_call 29; refine (CF.out _ HB.out).mono ?_; rintro e W3 ⟨rfl, hb⟩; replace kA := bx_below kA zA hb; replace zA := Nat.lt_of_lt_of_le zA hb.size; replace HB : Hid (Below w.heap.size w W3) := HB.out.trans (hb.mono HB.out.size); clear hb))
        go_ret
        exact ⟨ret_bool (by rw [HR'.out]), HB.out⟩
      cases q3
      case false =>
        have HR' : Hid (R = false) := by show _ = _; rw [HR.out]; exact HNO.out k HJ.out (by rw [HAL.out]; simp)
        clear HR HNO HYE HAL HQ
        go_wp2_with (first | (go_at_call 27; refine (CP.out _ HB.out kA).mono ?_; rintro e W3 ⟨rfl, hb⟩; replace kA := bx_below kA zA hb; replace zA := Nat.lt_of_lt_of_le zA hb.size; replace HB : Hid (Below w.heap.size w W3) := HB.out.trans (hb.mono HB.out.size); clear hb) | (go_at_call 28; refine (CH.out _ HB.out kA).mono ?_; rintro e W3 ⟨rfl, hb⟩; replace kA := bx_below kA zA hb; replace zA := Nat.lt_of_lt_of_le zA hb.size; replace HB : Hid (Below w.heap.size w W3) := HB.out.trans (hb.mono HB.out.size); clear hb) | (go_at_call 29; refine (CF.out _ HB.out).mono ?_; rintro e W3 ⟨rfl, hb⟩; replace kA := bx_below kA zA hb; replace zA := Nat.lt_of_lt_of_le zA hb.size; replace HB : Hid (Below w.heap.size w W3) := HB.out.trans (hb.mono HB.out.size); clear hb) | (go_at_call 30; refine (CK.out _ HB.out kA).mono ?_; rintro e W3 ⟨rfl, hb⟩; replace kA := bx_below kA zA hb; replace zA := Nat.lt_of_lt_of_le zA hb.size; replace HB : Hid (Below w.heap.size w W3) := HB.out.trans (hb.mono HB.out.size); clear hb))
        go_ret
        exact ⟨ret_bool (by rw [HR'.out]), HB.out⟩
      have HQ2 : Hid (∀ q, q < k + 1 → allR x q = true) := fun q hq => (Nat.lt_or_eq_of_le (Nat.le_of_lt_succ hq)).elim (fun h => HQ.out q h) (fun h => by rw [h, HAL.out]; rfl)
      clear HQ HAL
      go_wp2_with (first | (go_at_call 27; refine (CP.out _ HB.out kA).mono ?_; rintro e W3 ⟨rfl, hb⟩; replace kA := bx_below kA zA hb; replace zA := Nat.lt_of_lt_of_le zA hb.size; replace HB : Hid (Below w.heap.size w W3) := HB.out.trans (hb.mono HB.out.size); clear hb) | (go_at_call 28; refine (CH.out _ HB.out kA).mono ?_; rintro e W3 ⟨rfl, hb⟩; replace kA := bx_below kA zA hb; replace zA := Nat.lt_of_lt_of_le zA hb.size; replace HB : Hid (Below w.heap.size w W3) := HB.out.trans (hb.mono HB.out.size); clear hb) | (go_at_call 29; refine (CF.out _ HB.out).mono ?_; rintro e W3 ⟨rfl, hb⟩; replace kA := bx_below kA zA hb; replace zA := Nat.lt_of_lt_of_le zA hb.size; replace HB : Hid (Below w.heap.size w W3) := HB.out.trans (hb.mono HB.out.size); clear hb) | (go_at_call 30; refine (CK.out _ HB.out kA).mono ?_; rintro e W3 ⟨rfl, hb⟩; replace kA := bx_below kA zA hb; replace zA := Nat.lt_of_lt_of_le zA hb.size; replace HB : Hid (Below w.heap.size w W3) := HB.out.trans (hb.mono HB.out.size); clear hb))
      have HK : Hid _ := And.intro kA zA
      clear kA zA
      go_roundw
      case rel => exact ⟨k + 1, HJ.out, by go_num, HQ2, HB, HK⟩
      case measure => simp [intOf]; have := HJ.out; omega
    · obtain rfl : k = 2 := by omega
      have HR' : Hid (R = true) := by show _ = _; rw [HR.out]; exact HYE.out HQ.out
      clear HR HNO HYE HQ HCP HCH HCF HCK
      go_wp2_with fail
      go_ret
      exact ⟨ret_bool (by rw [HR'.out]), HB.out⟩
end Go.Proofs.YtnfkjdcnngoeiabGreat
