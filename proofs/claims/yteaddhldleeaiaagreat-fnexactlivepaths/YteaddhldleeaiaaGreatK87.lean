/- LivePaths of the program; the answer owns its memory; nothing that was in memory turns; no condition but that there are at most a million parts. Written by mkrun2.py. -/
import Derived.Test.YteaddhldleeaiaaGreatRows
import Derived.Recover
import Derived.WalkSmall
import Derived.Maps.AppendAt
import Derived.Deep.RegionHeld3
import Derived.Deep.DeepCutAuto
import Derived.Deep.MidRow
import Derived.Deep.QuietTactic
import Derived.BigQuiet
import Derived.Test.YteaddhldleeaiaaGreatK01
import Derived.Test.YteaddhldleeaiaaGreatK02
import Derived.Test.YteaddhldleeaiaaGreatK03
import Derived.Test.YteaddhldleeaiaaGreatK05
import Derived.Test.YteaddhldleeaiaaGreatK10
import Derived.Test.YteaddhldleeaiaaGreatK11
import Derived.Test.YteaddhldleeaiaaGreatK12
import Derived.Test.YteaddhldleeaiaaGreatK14
import Derived.Test.YteaddhldleeaiaaGreatK16
import Derived.Test.YteaddhldleeaiaaGreatK58
import Derived.Test.YteaddhldleeaiaaGreatK59
import Derived.Test.YteaddhldleeaiaaGreatK60
import Derived.Test.YteaddhldleeaiaaGreatK61
import Derived.Test.YteaddhldleeaiaaGreatK62
import Derived.Test.YteaddhldleeaiaaGreatK64
import Derived.Test.YteaddhldleeaiaaGreatK79
import Derived.Test.YteaddhldleeaiaaGreatK86
namespace Go.Proofs.YteaddhldleeaiaaGreat
open Go.RowKit
set_option linter.unusedVariables false
set_option maxRecDepth 8000

set_option maxHeartbeats 8000000 in
theorem iLivePaths (x : DWorld) (A : Array Value) (w : World) (B : Nat) (hr : shWorld.Rd w B x A.toList) (hB : B ≤ w.heap.size) (hT : totWorld x ≤ 1048576) (hwf : (Lit.int .i64 (worldF x)).wf = true) :
    Calls Tryz.prog 8 #[.agg A] w fun e w' => ∃ N : Array Value, e = .returned (.agg N) ∧ Own w' w.heap.size w'.heap.size shIR (livV x) N.toList ∧ Below w.heap.size w w' := by
  have HW : Hid ((Lit.int .i64 (worldF x)).wf = true) := hwf
  have HI : Hid ((Tryz.prog.info? 40).map (·.size) = some A.toList.length) := by show _ = _; rw [Array.length_toList, rd_size hr]; exact (by kernel_rfl : (Tryz.prog.info? 40).map (·.size) = some 6)
  have HWF : Hid (∀ W, Below w.heap.size w W → Calls Tryz.prog 27 #[.agg A] W fun e w' => e = .returned (.int .i64 (worldF x)) ∧ Below W.heap.size W w') := fun W hW => iWorldFault x A W B (Sh.Rd.below hr hB hW) (Nat.le_trans hB hW.size) hT
  by_cases h0 : worldF x = 0
  case neg =>
    have e : livV x = (worldF x, [], ()) := if_neg h0
    rw [e]
    have h0' : (worldF x != 0) = true := by simp [h0]
    clear hr hB hT h0 hwf e
    generalize worldF x = F at *
    have HWA : Hid (Below w.heap.size w ((w.alloc (.cells A 40)).alloc (.cells #[.int .i64 0, .slice none 0 0] 33)) ∧ ((w.alloc (.cells A 40)).alloc (.cells #[.int .i64 0, .slice none 0 0] 33)).heap.size = w.heap.size + 2 ∧ (∀ o, ((w.alloc (.cells A 40)).alloc (.cells #[.int .i64 0, .slice none 0 0] 33)).cell? ⟨w.heap.size, o, none⟩ = A[o]?) ∧ (∀ o, ((w.alloc (.cells A 40)).alloc (.cells #[.int .i64 0, .slice none 0 0] 33)).cell? ⟨w.heap.size + 1, o, none⟩ = (#[.int .i64 0, .slice none 0 0] : Array Value)[o]?) ∧ (∀ o, ((w.alloc (.cells A 40)).alloc (.cells #[.int .i64 0, .slice none 0 0] 33)).frozen? ⟨w.heap.size + 1, o, none⟩ = false)) := ⟨((Below.refl _ _).alloc (Nat.le_refl _) _).alloc (by simp) _, by simp, fun o => by simp [go_sem], fun o => by simp [go_sem], fun o => by simp [go_sem]⟩
    go_enter Tryz.func8, Tryz.ntmps8
    go_upto_region 1 with fail
    generalize hWW : ((w.alloc (.cells A 40)).alloc (.cells #[.int .i64 0, .slice none 0 0] 33)) = W1 at HWA ⊢
    clear hWW
    obtain ⟨hb, hsz, kA, kR, fR⟩ := HWA.out
    clear HWA
    have HB : Hid (Below w.heap.size w W1) := hb
    have zA : w.heap.size < W1.heap.size := by omega
    have zR : w.heap.size + 1 < W1.heap.size := by omega
    clear hb hsz
    go_wp2_with (first | (refine wpList_load_mid rfl 40 _ rfl _ _ (by rfl) A.toList _ (bx_range kA) Tryz.underlying40 rfl HI.out ?_))
    refine (HWF.out _ HB.out).mono ?_
    rintro e W2 ⟨rfl, hb⟩
    replace kA := bx_below kA zA hb
    replace zA := Nat.lt_of_lt_of_le zA hb.size
    replace kR := bx_below kR zR hb
    replace fR := bxF fR hb zR
    replace zR := Nat.lt_of_lt_of_le zR hb.size
    replace HB : Hid (Below w.heap.size w W2) := HB.out.trans (hb.mono HB.out.size)
    clear hb
    clear HWF
    go_wp2_with fail
    refine bodyPost_ret (results_box Tryz.results8 _ _ _ #[.int .i64 F, .slice none 0 0] _ (by rfl) (bx2c kR) Tryz.underlying33 rfl info_IsL) rfl ⟨_, rfl, mk_IR ⟨[], Or.inl ⟨rfl, rfl, rfl⟩, by simp, by simp⟩ HW.out, ?_⟩
    exact Below.setCell (Below.setCell HB.out (by dsimp only; omega) _) (by dsimp only; omega) _
  have e : livV x = (0, livL x 3, ()) := if_pos h0
  rw [e]
  have h0' : (worldF x != 0) = false := by simp [h0]
  clear HW hwf e
  obtain ⟨sb, so, sc, na, nc, da, dc, gb, go, gc, eb, eo, ec, h⟩ := wo_all hr h0 hT
  obtain ⟨db, dof, ddc, a3, hdb, hdd⟩ := wo_dead hr h0
  have a1 : A[1]? = some (.slice (some ⟨sb, so, none⟩) 2 sc) := by rw [h.eA]; rfl
  have HDC : Hid (∀ W, Below w.heap.size w W → ∀ k, k < 3 → W.cell? ⟨db, dof + k, none⟩ = some (.bool (x.2.2.1.2.1.getD k false))) := fun W hW k hk => (hW.cell (p := ⟨db, dof + k, none⟩) (Nat.lt_of_lt_of_le hdb hB)).trans (hdd k hk)
  obtain ⟨C0, c0, rc0⟩ := h.cs 0 (by omega)
  obtain ⟨C1, c1, rc1⟩ := h.cs 1 (by omega)
  have hsB := Nat.lt_of_lt_of_le h.sl hB
  have HO0 : Hid (∀ (k : Nat) W, Below w.heap.size w W → Calls Tryz.prog 28 #[.agg C0, .int .i64 (k : Int)] W fun e w' => e = .returned (.bool (opnOn (x.cn 0) k)) ∧ Below W.heap.size W w') := fun k W hW => iIsOpenOn (x.cn 0) C0 k W B (Sh.Rd.below rc0 hB hW) (Nat.le_trans hB hW.size) (h.tot 0 (by omega))
  have HO1 : Hid (∀ (k : Nat) W, Below w.heap.size w W → Calls Tryz.prog 28 #[.agg C1, .int .i64 (k : Int)] W fun e w' => e = .returned (.bool (opnOn (x.cn 1) k)) ∧ Below W.heap.size W w') := fun k W hW => iIsOpenOn (x.cn 1) C1 k W B (Sh.Rd.below rc1 hB hW) (Nat.le_trans hB hW.size) (h.tot 1 (by omega))
  have HR0 : Hid (∀ W, Below w.heap.size w W → W.rangeAt sb so C0.toList) := fun W hW => range_below (by simpa using c0) hW hsB
  have HR1 : Hid (∀ W, Below w.heap.size w W → W.rangeAt sb (so + 14) C1.toList) := fun W hW => range_below (by simpa using c1) hW hsB
  have HJ0 : Hid ((Tryz.prog.info? 65).map (·.size) = some C0.toList.length) := by show _ = _; rw [Array.length_toList, rd_size rc0]; exact (by kernel_rfl : (Tryz.prog.info? 65).map (·.size) = some 14)
  have HJ1 : Hid ((Tryz.prog.info? 65).map (·.size) = some C1.toList.length) := by show _ = _; rw [Array.length_toList, rd_size rc1]; exact (by kernel_rfl : (Tryz.prog.info? 65).map (·.size) = some 14)
  have HLN : Hid (∀ k, k ≤ 3 → (livL x k).length ≤ 1000) := fun k hk => by have := liv_len x k; omega
  have HWL : Hid (∀ y ∈ livL x 3, (Lit.int .i64 y).wf = true) := fun y hy => by have := liv_mem x 3 y hy; exact WalkArith.wf_i64 (by omega)
  have HYE : Hid (∀ k, livB x k = true → livL x (k + 1) = livL x k ++ [(k : Int)]) := fun k h => liv_yes h
  have HNO : Hid (∀ k, livB x k = false → livL x (k + 1) = livL x k) := fun k h => liv_no h
  have HDF : Hid (∀ k, livB x k = (!(x.2.2.1.2.1.getD k false) && (opnOn (x.cn 0) k && opnOn (x.cn 1) k))) := fun k => rfl
  clear hr hB hT h c0 c1 rc0 rc1 hsB hdd hdb
  have HWA : Hid (Below w.heap.size w ((w.alloc (.cells A 40)).alloc (.cells #[.int .i64 0, .slice none 0 0] 33)) ∧ ((w.alloc (.cells A 40)).alloc (.cells #[.int .i64 0, .slice none 0 0] 33)).heap.size = w.heap.size + 2 ∧ (∀ o, ((w.alloc (.cells A 40)).alloc (.cells #[.int .i64 0, .slice none 0 0] 33)).cell? ⟨w.heap.size, o, none⟩ = A[o]?) ∧ (∀ o, ((w.alloc (.cells A 40)).alloc (.cells #[.int .i64 0, .slice none 0 0] 33)).cell? ⟨w.heap.size + 1, o, none⟩ = (#[.int .i64 0, .slice none 0 0] : Array Value)[o]?) ∧ (∀ o, ((w.alloc (.cells A 40)).alloc (.cells #[.int .i64 0, .slice none 0 0] 33)).frozen? ⟨w.heap.size + 1, o, none⟩ = false)) := ⟨((Below.refl _ _).alloc (Nat.le_refl _) _).alloc (by simp) _, by simp, fun o => by simp [go_sem], fun o => by simp [go_sem], fun o => by simp [go_sem]⟩
  go_enter Tryz.func8, Tryz.ntmps8
  go_upto_region 1 with fail
  generalize hWW : ((w.alloc (.cells A 40)).alloc (.cells #[.int .i64 0, .slice none 0 0] 33)) = W1 at HWA ⊢
  clear hWW
  obtain ⟨hb, hsz, kA, kR, fR⟩ := HWA.out
  clear HWA
  have HB : Hid (Below w.heap.size w W1) := hb
  have zA : w.heap.size < W1.heap.size := by omega
  have zR : w.heap.size + 1 < W1.heap.size := by omega
  clear hb hsz
  go_wp2_with (first | (refine wpList_load_mid rfl 40 _ rfl _ _ (by rfl) A.toList _ (bx_range kA) Tryz.underlying40 rfl HI.out ?_))
  refine (HWF.out _ HB.out).mono ?_
  rintro e W2 ⟨rfl, hb⟩
  replace kA := bx_below kA zA hb
  replace zA := Nat.lt_of_lt_of_le zA hb.size
  replace kR := bx_below kR zR hb
  replace fR := bxF fR hb zR
  replace zR := Nat.lt_of_lt_of_le zR hb.size
  replace HB : Hid (Below w.heap.size w W2) := HB.out.trans (hb.mono HB.out.size)
  clear hb
  clear HWF HI
  rw [h0]
  clear h0 h0'
  obtain ⟨m, hm⟩ : ∃ q, q = W2.heap.size := ⟨_, rfl⟩
  have hm1 : w.heap.size + 1 < m := by omega
  have zm : m ≤ W2.heap.size := by omega
  clear hm
  have HNIL : Hid (W2.ownsRow m 2 1 (.slice none 0 0) (livL x 0).length ((livL x 0).map (Value.int .i64))) := ⟨rfl, Or.inl ⟨rfl, rfl⟩⟩
  have HK : Hid ((∀ o, W2.cell? ⟨w.heap.size, o, none⟩ = A[o]?) ∧ (∀ o, W2.cell? ⟨w.heap.size + 1, o, none⟩ = (#[.int .i64 0, .slice none 0 0] : Array Value)[o]?) ∧ (∀ o, W2.frozen? ⟨w.heap.size + 1, o, none⟩ = false) ∧ m ≤ W2.heap.size) := ⟨kA, kR, fR, zm⟩
  go_wp2_with fail
  clear kA zA kR fR zR zm
  go_loopw [12, 4] (fun i a wr => ∃ (k : Nat) (va : Option Addr) (vn vc : Nat), k ≤ 3 ∧ i = .int .i64 k ∧ a = .slice va vn vc ∧ Hid (wr.ownsRow m 2 1 (.slice va vn vc) (livL x k).length ((livL x k).map (Value.int .i64))) ∧ Hid (Below w.heap.size w wr) ∧ Hid ((∀ o, wr.cell? ⟨w.heap.size, o, none⟩ = A[o]?) ∧ (∀ o, wr.cell? ⟨w.heap.size + 1, o, none⟩ = (#[.int .i64 0, .slice none 0 0] : Array Value)[o]?) ∧ (∀ o, wr.frozen? ⟨w.heap.size + 1, o, none⟩ = false) ∧ m ≤ wr.heap.size)) (fun i _ _ => 3 - (intOf i).toNat)
  case atStart => exact ⟨0, none, 0, 0, by omega, rfl, rfl, HNIL, HB, HK⟩
  case round =>
    clear HB HK HNIL
    obtain ⟨k, va, vn, vc, hk, rfl, rfl, HO, HB, HK⟩ := hrel
    obtain ⟨kA, kR, fR, zm⟩ := HK.out
    have zA : w.heap.size < wr.heap.size := by omega
    have zR : w.heap.size + 1 < wr.heap.size := by omega
    clear HK
    by_cases hlt : k < 3
    · have hk0 : (0 : Int) ≤ (k : Int) := by omega
      have hk1 : (k : Int) < 3 := by omega
      have c3 := HDC.out wr HB.out k hlt
      have Q0 : Hid _ := HO0.out k
      have Q1 : Hid _ := HO1.out k
      have HAL : Hid _ := HDF.out k
      have YE : Hid _ := HYE.out k
      have NO : Hid _ := HNO.out k
      have hdl := HLN.out k (by omega)
      generalize x.2.2.1.2.1.getD k false = d at *
      generalize opnOn (x.cn 0) k = o0 at *
      generalize opnOn (x.cn 1) k = o1 at *
      clear hlt
      cases d
      case true =>
        clear Q0 Q1 HR0 HR1
        go_wp2_with fail
        go_roundw
        case rel => exact ⟨k + 1, va, vn, vc, by omega, by go_num, rfl, (by show World.ownsRow _ _ _ _ _ _ _; rw [NO.out (by rw [HAL.out]; rfl)]; exact HO.out), HB, ⟨kA, kR, fR, zm⟩⟩
        case measure => simp [intOf]; omega
      cases o0
      case false =>
        clear Q1 HR1
        go_wp2_with (first | (go_at_call 28; refine (Q0.out _ HB.out).mono ?_; rintro e W3 ⟨rfl, hb⟩; replace kA := bx_below kA zA hb; replace kR := bx_below kR zR hb; replace fR := bxF fR hb zR; replace zA := Nat.lt_of_lt_of_le zA hb.size; replace zR := Nat.lt_of_lt_of_le zR hb.size; replace HO : Hid _ := own_belR HO.out hb; replace zm := Nat.le_trans zm hb.size; replace HB : Hid (Below w.heap.size w W3) := HB.out.trans (hb.mono HB.out.size); clear Q0 hb) | (refine wpList_load_mid rfl 65 _ rfl _ _ (by rfl) C0.toList _ (HR0.out _ HB.out) Tryz.underlying65 rfl HJ0.out ?_) | (refine Go.BigFrame.wpList_want (by rfl) fun KK hKK => wp_load_mid 65 _ rfl _ _ (by rfl) C0.toList _ (HR0.out _ HB.out) Tryz.underlying65 rfl HJ0.out (hKK _ _ ?_); clear hKK KK))
        go_roundw
        case rel => exact ⟨k + 1, va, vn, vc, by omega, by go_num, rfl, (by show World.ownsRow _ _ _ _ _ _ _; rw [NO.out (by rw [HAL.out]; rfl)]; exact HO.out), HB, ⟨kA, kR, fR, zm⟩⟩
        case measure => simp [intOf]; omega
      cases o1
      case false =>
        go_wp2_with (first | (go_at_call 28; refine (Q0.out _ HB.out).mono ?_; rintro e W3 ⟨rfl, hb⟩; replace kA := bx_below kA zA hb; replace kR := bx_below kR zR hb; replace fR := bxF fR hb zR; replace zA := Nat.lt_of_lt_of_le zA hb.size; replace zR := Nat.lt_of_lt_of_le zR hb.size; replace HO : Hid _ := own_belR HO.out hb; replace zm := Nat.le_trans zm hb.size; replace HB : Hid (Below w.heap.size w W3) := HB.out.trans (hb.mono HB.out.size); clear Q0 hb) | (go_at_call 28; refine (Q1.out _ HB.out).mono ?_; rintro e W3 ⟨rfl, hb⟩; replace kA := bx_below kA zA hb; replace kR := bx_below kR zR hb; replace fR := bxF fR hb zR; replace zA := Nat.lt_of_lt_of_le zA hb.size; replace zR := Nat.lt_of_lt_of_le zR hb.size; replace HO : Hid _ := own_belR HO.out hb; replace zm := Nat.le_trans zm hb.size; replace HB : Hid (Below w.heap.size w W3) := HB.out.trans (hb.mono HB.out.size); clear Q1 hb) | (refine wpList_load_mid rfl 65 _ rfl _ _ (by rfl) C0.toList _ (HR0.out _ HB.out) Tryz.underlying65 rfl HJ0.out ?_) | (refine Go.BigFrame.wpList_want (by rfl) fun KK hKK => wp_load_mid 65 _ rfl _ _ (by rfl) C0.toList _ (HR0.out _ HB.out) Tryz.underlying65 rfl HJ0.out (hKK _ _ ?_); clear hKK KK) | (refine wpList_load_mid rfl 65 _ rfl _ _ (by rfl) C1.toList _ (HR1.out _ HB.out) Tryz.underlying65 rfl HJ1.out ?_) | (refine Go.BigFrame.wpList_want (by rfl) fun KK hKK => wp_load_mid 65 _ rfl _ _ (by rfl) C1.toList _ (HR1.out _ HB.out) Tryz.underlying65 rfl HJ1.out (hKK _ _ ?_); clear hKK KK))
        go_roundw
        case rel => exact ⟨k + 1, va, vn, vc, by omega, by go_num, rfl, (by show World.ownsRow _ _ _ _ _ _ _; rw [NO.out (by rw [HAL.out]; rfl)]; exact HO.out), HB, ⟨kA, kR, fR, zm⟩⟩
        case measure => simp [intOf]; omega
      go_upto_region 9 with (first | (go_at_call 28; refine (Q0.out _ HB.out).mono ?_; rintro e W3 ⟨rfl, hb⟩; replace kA := bx_below kA zA hb; replace kR := bx_below kR zR hb; replace fR := bxF fR hb zR; replace zA := Nat.lt_of_lt_of_le zA hb.size; replace zR := Nat.lt_of_lt_of_le zR hb.size; replace HO : Hid _ := own_belR HO.out hb; replace zm := Nat.le_trans zm hb.size; replace HB : Hid (Below w.heap.size w W3) := HB.out.trans (hb.mono HB.out.size); clear Q0 hb) | (go_at_call 28; refine (Q1.out _ HB.out).mono ?_; rintro e W3 ⟨rfl, hb⟩; replace kA := bx_below kA zA hb; replace kR := bx_below kR zR hb; replace fR := bxF fR hb zR; replace zA := Nat.lt_of_lt_of_le zA hb.size; replace zR := Nat.lt_of_lt_of_le zR hb.size; replace HO : Hid _ := own_belR HO.out hb; replace zm := Nat.le_trans zm hb.size; replace HB : Hid (Below w.heap.size w W3) := HB.out.trans (hb.mono HB.out.size); clear Q1 hb) | (refine wpList_load_mid rfl 65 _ rfl _ _ (by rfl) C0.toList _ (HR0.out _ HB.out) Tryz.underlying65 rfl HJ0.out ?_) | (refine Go.BigFrame.wpList_want (by rfl) fun KK hKK => wp_load_mid 65 _ rfl _ _ (by rfl) C0.toList _ (HR0.out _ HB.out) Tryz.underlying65 rfl HJ0.out (hKK _ _ ?_); clear hKK KK) | (refine wpList_load_mid rfl 65 _ rfl _ _ (by rfl) C1.toList _ (HR1.out _ HB.out) Tryz.underlying65 rfl HJ1.out ?_) | (refine Go.BigFrame.wpList_want (by rfl) fun KK hKK => wp_load_mid 65 _ rfl _ _ (by rfl) C1.toList _ (HR1.out _ HB.out) Tryz.underlying65 rfl HJ1.out (hKK _ _ ?_); clear hKK KK))
      go_wp2_with (first | (at_builtin; refine app_intR _ rfl _ _ rfl m (.slice va vn vc) _ _ (by rfl) HO.out (k : Int) (by rfl) hdl zm ?_; intro v5 w5 ho5 hb5; obtain ⟨va5, vc5, hv5⟩ := own_formR ho5; subst hv5; have HO5 : Hid _ := ho5; replace kA := bxCR kA hb5 (by omega); replace kR := bxCR kR hb5 (by omega); replace fR := bxF fR hb5 (by omega); replace zm := Nat.le_trans zm hb5.size; replace HB : Hid (Below w.heap.size w w5) := HB.out.trans (hb5.mono (by omega)); clear ho5 hb5))
      go_roundw
      case rel => exact ⟨k + 1, va5, _, vc5, by omega, by go_num, rfl, (by show World.ownsRow _ _ _ _ _ _ _; rw [YE.out (by rw [HAL.out]; rfl), List.length_append, List.map_append]; exact HO5.out), HB, ⟨kA, kR, fR, zm⟩⟩
      case measure => simp [intOf]; omega
    · obtain rfl : k = 3 := by omega
      have HFIN : Hid (Own wr m wr.heap.size i64s (livL x 3) [.slice va vn vc]) := own_ints ⟨HO.out, HWL.out⟩ (Nat.le_refl _)
      clear HO HO0 HO1 HDC HR0 HR1 HYE HNO HDF
      go_wp2_with fail
      refine bodyPost_ret (results_box Tryz.results8 _ _ _ #[.int .i64 0, .slice va vn vc] _ (by rfl) (bx2c kR) Tryz.underlying33 rfl info_IsL) rfl ⟨_, rfl, mk_IR (Own.mono (Own.keep HFIN.out (fun b h1 h2 => by repeat rw [Below.heap_setCell _ _ _ _ (by dsimp only; omega)])) (by omega) (by simp)) (by decide), ?_⟩
      exact Below.setCell (Below.setCell HB.out (by dsimp only; omega) _) (by dsimp only; omega) _
end Go.Proofs.YteaddhldleeaiaaGreat

/- LivePaths of the model; the answer owns its memory; nothing that was in memory turns; no condition but that there are at most a million parts. Written by mkrun2.py. -/
namespace Go.Proofs.YteaddhldleeaiaaGreat
open Go.RowKit
set_option linter.unusedVariables false
set_option maxRecDepth 8000

set_option maxHeartbeats 8000000 in
theorem sLivePaths (x : DWorld) (A : Array Value) (w : World) (B : Nat) (hr : shWorld.Rd w B x A.toList) (hB : B ≤ w.heap.size) (hT : totWorld x ≤ 1048576) (hwf : (Lit.int .i64 (worldF x)).wf = true) :
    Calls Tryz.prog 6 #[.agg A] w fun e w' => ∃ N : Array Value, e = .returned (.agg N) ∧ Own w' w.heap.size w'.heap.size shIR (livV x) N.toList ∧ Below w.heap.size w w' := by
  have HW : Hid ((Lit.int .i64 (worldF x)).wf = true) := hwf
  have HWF : Hid (∀ W, Below w.heap.size w W → (∀ o, W.cell? ⟨w.heap.size, o, none⟩ = A[o]?) → w.heap.size < W.heap.size → Calls Tryz.prog 21 #[.pointer (some ⟨w.heap.size, 0, none⟩)] W fun e w' => e = .returned (.int .i64 (worldF x)) ∧ Below W.heap.size W w') := fun W hW hk hl => sL13Fault x A w.heap.size W B (Sh.Rd.below hr hB hW) hk hl (Nat.le_trans hB hW.size) hT
  by_cases h0 : worldF x = 0
  case neg =>
    have e : livV x = (worldF x, [], ()) := if_neg h0
    rw [e]
    have h0' : (worldF x != 0) = true := by simp [h0]
    clear hr hB hT h0 hwf e
    generalize worldF x = F at *
    have HWA : Hid (Below w.heap.size w ((w.alloc (.cells A 40)).alloc (.cells #[.int .i64 0, .slice none 0 0] 33)) ∧ ((w.alloc (.cells A 40)).alloc (.cells #[.int .i64 0, .slice none 0 0] 33)).heap.size = w.heap.size + 2 ∧ (∀ o, ((w.alloc (.cells A 40)).alloc (.cells #[.int .i64 0, .slice none 0 0] 33)).cell? ⟨w.heap.size, o, none⟩ = A[o]?) ∧ (∀ o, ((w.alloc (.cells A 40)).alloc (.cells #[.int .i64 0, .slice none 0 0] 33)).cell? ⟨w.heap.size + 1, o, none⟩ = (#[.int .i64 0, .slice none 0 0] : Array Value)[o]?) ∧ (∀ o, ((w.alloc (.cells A 40)).alloc (.cells #[.int .i64 0, .slice none 0 0] 33)).frozen? ⟨w.heap.size + 1, o, none⟩ = false)) := ⟨((Below.refl _ _).alloc (Nat.le_refl _) _).alloc (by simp) _, by simp, fun o => by simp [go_sem], fun o => by simp [go_sem], fun o => by simp [go_sem]⟩
    go_enter Tryz.func6, Tryz.ntmps6
    go_upto_region 1 with fail
    generalize hWW : ((w.alloc (.cells A 40)).alloc (.cells #[.int .i64 0, .slice none 0 0] 33)) = W1 at HWA ⊢
    clear hWW
    obtain ⟨hb, hsz, kA, kR, fR⟩ := HWA.out
    clear HWA
    have HB : Hid (Below w.heap.size w W1) := hb
    have zA : w.heap.size < W1.heap.size := by omega
    have zR : w.heap.size + 1 < W1.heap.size := by omega
    clear hb hsz
    go_wp2_with fail
    refine (HWF.out _ HB.out kA zA).mono ?_
    rintro e W2 ⟨rfl, hb⟩
    replace kA := bx_below kA zA hb
    replace zA := Nat.lt_of_lt_of_le zA hb.size
    replace kR := bx_below kR zR hb
    replace fR := bxF fR hb zR
    replace zR := Nat.lt_of_lt_of_le zR hb.size
    replace HB : Hid (Below w.heap.size w W2) := HB.out.trans (hb.mono HB.out.size)
    clear hb
    clear HWF
    go_wp2_with fail
    refine bodyPost_ret (results_box Tryz.results6 _ _ _ #[.int .i64 F, .slice none 0 0] _ (by rfl) (bx2c kR) Tryz.underlying33 rfl info_IsL) rfl ⟨_, rfl, mk_IR ⟨[], Or.inl ⟨rfl, rfl, rfl⟩, by simp, by simp⟩ HW.out, ?_⟩
    exact Below.setCell (Below.setCell HB.out (by dsimp only; omega) _) (by dsimp only; omega) _
  have e : livV x = (0, livL x 3, ()) := if_pos h0
  rw [e]
  have h0' : (worldF x != 0) = false := by simp [h0]
  clear HW hwf e
  obtain ⟨sb, so, sc, na, nc, da, dc, gb, go, gc, eb, eo, ec, h⟩ := wo_all hr h0 hT
  obtain ⟨db, dof, ddc, a3, hdb, hdd⟩ := wo_dead hr h0
  have a1 : A[1]? = some (.slice (some ⟨sb, so, none⟩) 2 sc) := by rw [h.eA]; rfl
  have HDC : Hid (∀ W, Below w.heap.size w W → ∀ k, k < 3 → W.cell? ⟨db, dof + k, none⟩ = some (.bool (x.2.2.1.2.1.getD k false))) := fun W hW k hk => (hW.cell (p := ⟨db, dof + k, none⟩) (Nat.lt_of_lt_of_le hdb hB)).trans (hdd k hk)
  obtain ⟨C0, c0, rc0⟩ := h.cs 0 (by omega)
  obtain ⟨C1, c1, rc1⟩ := h.cs 1 (by omega)
  have hsB := Nat.lt_of_lt_of_le h.sl hB
  have HO0 : Hid (∀ (k : Nat) W, Below w.heap.size w W → Calls Tryz.prog 22 #[.pointer (some ⟨sb, so, none⟩), .int .i64 (k : Int)] W fun e w' => e = .returned (.int .i64 (placeD (x.cn 0).subs k)) ∧ w' = W) := fun k W hW => by
    have hq := sL9On (x.cn 0) C0 sb (so + 0 * 14) k W B ((ConnAt.of c0 rc0 hB (h.tot 0 (by omega))).below hW)
    simpa using hq
  obtain ⟨a5, q5, a9, q9, a10, q10, s0, t0, hC0⟩ := cn_all rc0
  have y0 : w.cell? ⟨sb, so + 13, none⟩ = some (.slice s0 (x.cn 0).subs.length t0) := by have e := c0 13 _ (show C0.toList[13]? = some (.slice s0 (x.cn 0).subs.length t0) by rw [Array.getElem?_toList, hC0.eA]; rfl); simpa using e
  have HY0 : Hid (∀ W, Below w.heap.size w W → W.cell? ⟨sb, so + 13, none⟩ = some (.slice s0 (x.cn 0).subs.length t0)) := fun W hW => (hW.cell (p := ⟨sb, so + 13, none⟩) hsB).trans y0
  have HS0 : Hid (∀ (k q : Nat), placeD (x.cn 0).subs k = (q : Int) → ∀ (hq : q < (x.cn 0).subs.length), ∃ sp of, s0 = some ⟨sp, of, none⟩ ∧ ∀ W, Below w.heap.size w W → W.cell? ⟨sp, of + q * 16 + 1, none⟩ = some (.int .i64 (stOn (x.cn 0) k))) := fun k q e hq => by
    obtain ⟨sp, of, cs, e1, hsp, -, -, -, -, q1, -⟩ := sub_at hC0.subs q hq
    refine ⟨sp, of, e1, fun W hW => (hW.cell (p := ⟨sp, of + q * 16 + 1, none⟩) (Nat.lt_of_lt_of_le hsp hB)).trans ?_⟩
    rw [q1]; unfold stOn; rw [e, Int.toNat_natCast, List.getElem?_eq_getElem hq]; rfl
  have HO1 : Hid (∀ (k : Nat) W, Below w.heap.size w W → Calls Tryz.prog 22 #[.pointer (some ⟨sb, so + 14, none⟩), .int .i64 (k : Int)] W fun e w' => e = .returned (.int .i64 (placeD (x.cn 1).subs k)) ∧ w' = W) := fun k W hW => by
    have hq := sL9On (x.cn 1) C1 sb (so + 1 * 14) k W B ((ConnAt.of c1 rc1 hB (h.tot 1 (by omega))).below hW)
    simpa using hq
  obtain ⟨a5, q5, a9, q9, a10, q10, s1, t1, hC1⟩ := cn_all rc1
  have y1 : w.cell? ⟨sb, so + 14 + 13, none⟩ = some (.slice s1 (x.cn 1).subs.length t1) := by have e := c1 13 _ (show C1.toList[13]? = some (.slice s1 (x.cn 1).subs.length t1) by rw [Array.getElem?_toList, hC1.eA]; rfl); simpa using e
  have HY1 : Hid (∀ W, Below w.heap.size w W → W.cell? ⟨sb, so + 14 + 13, none⟩ = some (.slice s1 (x.cn 1).subs.length t1)) := fun W hW => (hW.cell (p := ⟨sb, so + 14 + 13, none⟩) hsB).trans y1
  have HS1 : Hid (∀ (k q : Nat), placeD (x.cn 1).subs k = (q : Int) → ∀ (hq : q < (x.cn 1).subs.length), ∃ sp of, s1 = some ⟨sp, of, none⟩ ∧ ∀ W, Below w.heap.size w W → W.cell? ⟨sp, of + q * 16 + 1, none⟩ = some (.int .i64 (stOn (x.cn 1) k))) := fun k q e hq => by
    obtain ⟨sp, of, cs, e1, hsp, -, -, -, -, q1, -⟩ := sub_at hC1.subs q hq
    refine ⟨sp, of, e1, fun W hW => (hW.cell (p := ⟨sp, of + q * 16 + 1, none⟩) (Nat.lt_of_lt_of_le hsp hB)).trans ?_⟩
    rw [q1]; unfold stOn; rw [e, Int.toNat_natCast, List.getElem?_eq_getElem hq]; rfl
  have HLN : Hid (∀ k, k ≤ 3 → (livL x k).length ≤ 1000) := fun k hk => by have := liv_len x k; omega
  have HWL : Hid (∀ y ∈ livL x 3, (Lit.int .i64 y).wf = true) := fun y hy => by have := liv_mem x 3 y hy; exact WalkArith.wf_i64 (by omega)
  have HYE : Hid (∀ k, livB x k = true → livL x (k + 1) = livL x k ++ [(k : Int)]) := fun k h => liv_yes h
  have HNO : Hid (∀ k, livB x k = false → livL x (k + 1) = livL x k) := fun k h => liv_no h
  have HDF : Hid (∀ k, livB x k = (!(x.2.2.1.2.1.getD k false) && (opnOn (x.cn 0) k && opnOn (x.cn 1) k))) := fun k => rfl
  have HPB : Hid (∀ (j : Nat) (k : Nat), placeD (x.cn j).subs k = -1 ∨ ∃ q : Nat, placeD (x.cn j).subs k = q ∧ q < (x.cn j).subs.length) := fun j k => place_bdR _ _
  have HOP : Hid (∀ (j : Nat) (k : Nat), opnOn (x.cn j) k = (decide (0 ≤ placeD (x.cn j).subs k) && decide (stOn (x.cn j) k = 3))) := fun j k => rfl
  clear hr hB hT h c0 c1 rc0 rc1 hsB hdd hdb hC0 hC1 y0 y1
  have HWA : Hid (Below w.heap.size w ((w.alloc (.cells A 40)).alloc (.cells #[.int .i64 0, .slice none 0 0] 33)) ∧ ((w.alloc (.cells A 40)).alloc (.cells #[.int .i64 0, .slice none 0 0] 33)).heap.size = w.heap.size + 2 ∧ (∀ o, ((w.alloc (.cells A 40)).alloc (.cells #[.int .i64 0, .slice none 0 0] 33)).cell? ⟨w.heap.size, o, none⟩ = A[o]?) ∧ (∀ o, ((w.alloc (.cells A 40)).alloc (.cells #[.int .i64 0, .slice none 0 0] 33)).cell? ⟨w.heap.size + 1, o, none⟩ = (#[.int .i64 0, .slice none 0 0] : Array Value)[o]?) ∧ (∀ o, ((w.alloc (.cells A 40)).alloc (.cells #[.int .i64 0, .slice none 0 0] 33)).frozen? ⟨w.heap.size + 1, o, none⟩ = false)) := ⟨((Below.refl _ _).alloc (Nat.le_refl _) _).alloc (by simp) _, by simp, fun o => by simp [go_sem], fun o => by simp [go_sem], fun o => by simp [go_sem]⟩
  go_enter Tryz.func6, Tryz.ntmps6
  go_upto_region 1 with fail
  generalize hWW : ((w.alloc (.cells A 40)).alloc (.cells #[.int .i64 0, .slice none 0 0] 33)) = W1 at HWA ⊢
  clear hWW
  obtain ⟨hb, hsz, kA, kR, fR⟩ := HWA.out
  clear HWA
  have HB : Hid (Below w.heap.size w W1) := hb
  have zA : w.heap.size < W1.heap.size := by omega
  have zR : w.heap.size + 1 < W1.heap.size := by omega
  clear hb hsz
  go_wp2_with fail
  refine (HWF.out _ HB.out kA zA).mono ?_
  rintro e W2 ⟨rfl, hb⟩
  replace kA := bx_below kA zA hb
  replace zA := Nat.lt_of_lt_of_le zA hb.size
  replace kR := bx_below kR zR hb
  replace fR := bxF fR hb zR
  replace zR := Nat.lt_of_lt_of_le zR hb.size
  replace HB : Hid (Below w.heap.size w W2) := HB.out.trans (hb.mono HB.out.size)
  clear hb
  clear HWF
  rw [h0]
  clear h0 h0'
  go_upto_region 5 with fail
  have k4 : ∀ o, (W2.alloc (.cells #[.int .i64 0, .slice none 0 0] 33)).cell? ⟨W2.heap.size, o, none⟩ = (#[.int .i64 0, .slice none 0 0] : Array Value)[o]? := bx_al W2 _ _
  have f4 : ∀ o, (W2.alloc (.cells #[.int .i64 0, .slice none 0 0] 33)).frozen? ⟨W2.heap.size, o, none⟩ = false := fx_al W2 _ _
  have hb : Below W2.heap.size W2 (W2.alloc (.cells #[.int .i64 0, .slice none 0 0] 33)) := (Below.refl _ _).alloc (Nat.le_refl _) _
  have zn : W2.heap.size < (W2.alloc (.cells #[.int .i64 0, .slice none 0 0] 33)).heap.size := by simp
  generalize hWW : (W2.alloc (.cells #[.int .i64 0, .slice none 0 0] 33)) = W4 at k4 f4 hb zn ⊢
  clear hWW
  obtain ⟨b4, eb4⟩ : ∃ q, q = W2.heap.size := ⟨_, rfl⟩
  have zR4 : w.heap.size + 1 < b4 := by omega
  replace kA := bx_below kA zA hb
  replace kR := bx_below kR zR hb
  replace fR := bxF fR hb zR
  replace HB : Hid (Below w.heap.size w W4) := HB.out.trans (hb.mono HB.out.size)
  rw [← eb4] at k4 f4 zn ⊢
  clear hb eb4 zA zR
  obtain ⟨m, hm⟩ : ∃ q, q = W4.heap.size := ⟨_, rfl⟩
  have zm : m ≤ W4.heap.size := by omega
  have hm4 : b4 < m := by omega
  clear hm
  have HNIL : Hid (W4.ownsRow m 2 1 (.slice none 0 0) (livL x 0).length ((livL x 0).map (Value.int .i64))) := ⟨rfl, Or.inl ⟨rfl, rfl⟩⟩
  have HK : Hid ((∀ o, W4.cell? ⟨w.heap.size, o, none⟩ = A[o]?) ∧ (∀ o, W4.cell? ⟨w.heap.size + 1, o, none⟩ = (#[.int .i64 0, .slice none 0 0] : Array Value)[o]?) ∧ (∀ o, W4.frozen? ⟨w.heap.size + 1, o, none⟩ = false) ∧ (∀ o, W4.cell? ⟨b4, o, none⟩ = (#[.int .i64 0, .slice none 0 0] : Array Value)[o]?) ∧ (∀ o, W4.frozen? ⟨b4, o, none⟩ = false) ∧ m ≤ W4.heap.size) := ⟨kA, kR, fR, k4, f4, zm⟩
  go_upto_region 6 with fail
  clear kA kR fR k4 f4 zm zn
  go_loopw [5] (fun i wr => ∃ (k : Nat) (va : Option Addr) (vn vc : Nat), k ≤ 3 ∧ i = .int .i64 k ∧ Hid (wr.ownsRow m 2 1 (.slice va vn vc) (livL x k).length ((livL x k).map (Value.int .i64))) ∧ Hid (Below w.heap.size w wr) ∧ Hid ((∀ o, wr.cell? ⟨w.heap.size, o, none⟩ = A[o]?) ∧ (∀ o, wr.cell? ⟨w.heap.size + 1, o, none⟩ = (#[.int .i64 0, .slice none 0 0] : Array Value)[o]?) ∧ (∀ o, wr.frozen? ⟨w.heap.size + 1, o, none⟩ = false) ∧ (∀ o, wr.cell? ⟨b4, o, none⟩ = (#[.int .i64 0, .slice va vn vc] : Array Value)[o]?) ∧ (∀ o, wr.frozen? ⟨b4, o, none⟩ = false) ∧ m ≤ wr.heap.size)) (fun i _ => 3 - (intOf i).toNat)
  case atStart => exact ⟨0, none, 0, 0, by omega, rfl, HNIL, HB, HK⟩
  case round =>
    clear HB HK HNIL
    obtain ⟨k, va, vn, vc, hk, rfl, HO, HB, HK⟩ := hrel
    obtain ⟨kA, kR, fR, k4, f4, zm⟩ := HK.out
    clear HK
    by_cases hlt : k < 3
    · have hk0 : (0 : Int) ≤ (k : Int) := by omega
      have hk1 : (k : Int) < 3 := by omega
      have c3 := HDC.out wr HB.out k hlt
      have Q0 : Hid _ := HO0.out k
      have Q1 : Hid _ := HO1.out k
      have HAL : Hid _ := HDF.out k
      have YE : Hid _ := HYE.out k
      have NO : Hid _ := HNO.out k
      have hdl := HLN.out k (by omega)
      have y0 := HY0.out wr HB.out
      have y1 := HY1.out wr HB.out
      have y1' : wr.cell? ⟨sb, so + 27, none⟩ = some (.slice s1 (x.cn 1).subs.length t1) := y1
      have p0 : Hid _ := HPB.out 0 k
      have p1 : Hid _ := HPB.out 1 k
      have S0 : Hid _ := HS0.out k
      have S1 : Hid _ := HS1.out k
      have hq0 := HOP.out 0 k
      have hq1 := HOP.out 1 k
      rw [hq0, hq1] at HAL
      clear hq0 hq1
      generalize x.2.2.1.2.1.getD k false = d at *
      generalize placeD (x.cn 0).subs k = pa at *
      generalize placeD (x.cn 1).subs k = pb at *
      generalize stOn (x.cn 0) k = ta at *
      generalize stOn (x.cn 1) k = tb at *
      generalize (x.cn 0).subs.length = la at *
      generalize (x.cn 1).subs.length = lb at *
      clear hlt
      cases d
      case true =>
        have HF : Hid (livB x k = false) := by show _ = _; rw [HAL.out]; rfl
        clear HAL YE S0 S1
        go_upto_region 9 with (go_at_call 22; refine (Q0.out _ HB.out).mono ?_; rintro e W3 ⟨rfl, hw3⟩; subst W3)
        go_upto_region 10 with (go_at_call 22; refine (Q1.out _ HB.out).mono ?_; rintro e W3 ⟨rfl, hw3⟩; subst W3)
        go_wp2_with fail
        go_roundw
        case rel => exact ⟨k + 1, va, vn, vc, by omega, by go_num, (by show World.ownsRow _ _ _ _ _ _ _; rw [NO.out HF.out]; exact HO.out), HB, ⟨kA, kR, fR, k4, f4, zm⟩⟩
        case measure => simp [intOf]; omega
      rcases p0.out with rfl | ⟨qa, rfl, ha⟩
      · have HF : Hid (livB x k = false) := by show _ = _; rw [HAL.out]; rfl
        clear HAL YE S0 S1
        go_upto_region 9 with (go_at_call 22; refine (Q0.out _ HB.out).mono ?_; rintro e W3 ⟨rfl, hw3⟩; subst W3)
        go_upto_region 10 with (go_at_call 22; refine (Q1.out _ HB.out).mono ?_; rintro e W3 ⟨rfl, hw3⟩; subst W3)
        go_wp2_with fail
        go_roundw
        case rel => exact ⟨k + 1, va, vn, vc, by omega, by go_num, (by show World.ownsRow _ _ _ _ _ _ _; rw [NO.out HF.out]; exact HO.out), HB, ⟨kA, kR, fR, k4, f4, zm⟩⟩
        case measure => simp [intOf]; omega
      rcases p1.out with rfl | ⟨qb, rfl, hb⟩
      · have HF : Hid (livB x k = false) := by show _ = _; rw [HAL.out]; rw [show decide ((0 : Int) ≤ -1) = false from rfl]; simp
        have ga : (0 : Int) ≤ (qa : Int) := by omega
        clear HAL YE S0 S1
        go_upto_region 9 with (go_at_call 22; refine (Q0.out _ HB.out).mono ?_; rintro e W3 ⟨rfl, hw3⟩; subst W3)
        go_upto_region 10 with (go_at_call 22; refine (Q1.out _ HB.out).mono ?_; rintro e W3 ⟨rfl, hw3⟩; subst W3)
        go_wp2_with fail
        go_roundw
        case rel => exact ⟨k + 1, va, vn, vc, by omega, by go_num, (by show World.ownsRow _ _ _ _ _ _ _; rw [NO.out HF.out]; exact HO.out), HB, ⟨kA, kR, fR, k4, f4, zm⟩⟩
        case measure => simp [intOf]; omega
      have ga : (0 : Int) ≤ (qa : Int) := by omega
      have gb : (0 : Int) ≤ (qb : Int) := by omega
      have ga2 : (qa : Int) < (la : Int) := by omega
      have gb2 : (qb : Int) < (lb : Int) := by omega
      obtain ⟨spa, ofa, rfl, ua⟩ := S0.out qa rfl ha
      obtain ⟨spb, ofb, rfl, ub⟩ := S1.out qb rfl hb
      have va1 := ua wr HB.out
      have vb1 := ub wr HB.out
      clear ua ub S0 S1 ha hb
      by_cases ea : ta = 3
      case neg =>
        have eaq : (ta == 3) = false := by simp [ea]
        have HF : Hid (livB x k = false) := by show _ = _; rw [HAL.out]; simp [ea]
        clear HAL YE
        go_upto_region 9 with (go_at_call 22; refine (Q0.out _ HB.out).mono ?_; rintro e W3 ⟨rfl, hw3⟩; subst W3)
        go_upto_region 10 with (go_at_call 22; refine (Q1.out _ HB.out).mono ?_; rintro e W3 ⟨rfl, hw3⟩; subst W3)
        go_wp2_with fail
        go_roundw
        case rel => exact ⟨k + 1, va, vn, vc, by omega, by go_num, (by show World.ownsRow _ _ _ _ _ _ _; rw [NO.out HF.out]; exact HO.out), HB, ⟨kA, kR, fR, k4, f4, zm⟩⟩
        case measure => simp [intOf]; omega
      by_cases eb : tb = 3
      case neg =>
        have eaq : (ta == 3) = true := by simp [ea]
        have ebq : (tb == 3) = false := by simp [eb]
        have HF : Hid (livB x k = false) := by show _ = _; rw [HAL.out]; simp [eb]
        clear HAL YE
        go_upto_region 9 with (go_at_call 22; refine (Q0.out _ HB.out).mono ?_; rintro e W3 ⟨rfl, hw3⟩; subst W3)
        go_upto_region 10 with (go_at_call 22; refine (Q1.out _ HB.out).mono ?_; rintro e W3 ⟨rfl, hw3⟩; subst W3)
        go_wp2_with fail
        go_roundw
        case rel => exact ⟨k + 1, va, vn, vc, by omega, by go_num, (by show World.ownsRow _ _ _ _ _ _ _; rw [NO.out HF.out]; exact HO.out), HB, ⟨kA, kR, fR, k4, f4, zm⟩⟩
        case measure => simp [intOf]; omega
      have HF : Hid (livB x k = true) := by show _ = _; rw [HAL.out]; simp [ea, eb]
      have eaq : (ta == 3) = true := by simp [ea]
      have ebq : (tb == 3) = true := by simp [eb]
      clear HAL NO ea eb
      go_upto_region 9 with (go_at_call 22; refine (Q0.out _ HB.out).mono ?_; rintro e W3 ⟨rfl, hw3⟩; subst W3)
      go_upto_region 10 with (go_at_call 22; refine (Q1.out _ HB.out).mono ?_; rintro e W3 ⟨rfl, hw3⟩; subst W3)
      go_upto_region 11 with fail
      go_wp2_with (first | (at_builtin; refine app_intR _ rfl _ _ rfl m (.slice va vn vc) _ _ (by rfl) HO.out (k : Int) (by rfl) hdl zm ?_; intro v5 w5 ho5 hb5; obtain ⟨va5, vc5, hv5⟩ := own_formR ho5; subst hv5; have HO5 : Hid _ := ho5; have H5 : Hid (Below m wr w5) := hb5; have k4' := bxCR k4 hb5 hm4; have f4' := bxF f4 hb5 hm4; clear ho5 hb5))
      have zb5 : b4 < w5.heap.size := by have := H5.out.size; omega
      have k4x := bx_put k4' (k := 1) (v := .slice va5 ((livL x k).length + 1) vc5) (by simp)
      simp only [List.setIfInBounds_toArray, List.set_cons_zero, List.set_cons_succ] at k4x
      have f4x : ∀ o, (w5.setCell ⟨b4, 1, none⟩ (.slice va5 ((livL x k).length + 1) vc5)).frozen? ⟨b4, o, none⟩ = false := fx_setC f4'
      have kAx : ∀ o, (w5.setCell ⟨b4, 1, none⟩ (.slice va5 ((livL x k).length + 1) vc5)).cell? ⟨w.heap.size, o, none⟩ = A[o]? := bx_setC (bxCR kA H5.out (by omega)) (by omega)
      have kRx : ∀ o, (w5.setCell ⟨b4, 1, none⟩ (.slice va5 ((livL x k).length + 1) vc5)).cell? ⟨w.heap.size + 1, o, none⟩ = (#[.int .i64 0, .slice none 0 0] : Array Value)[o]? := bx_setC (bxCR kR H5.out (by omega)) (by omega)
      have fRx : ∀ o, (w5.setCell ⟨b4, 1, none⟩ (.slice va5 ((livL x k).length + 1) vc5)).frozen? ⟨w.heap.size + 1, o, none⟩ = false := fx_setC (bxF fR H5.out (by omega))
      have HOx : Hid ((w5.setCell ⟨b4, 1, none⟩ (.slice va5 ((livL x k).length + 1) vc5)).ownsRow m 2 1 (.slice va5 ((livL x k).length + 1) vc5) (livL x (k + 1)).length ((livL x (k + 1)).map (Value.int .i64))) := by show World.ownsRow _ _ _ _ _ _ _; rw [YE.out HF.out, List.length_append, List.map_append]; exact own_setR HO5.out hm4
      have HBx : Hid (Below w.heap.size w (w5.setCell ⟨b4, 1, none⟩ (.slice va5 ((livL x k).length + 1) vc5))) := Below.setCell (p := ⟨b4, 1, none⟩) (HB.out.trans (H5.out.mono (by omega))) (by dsimp only; omega) _
      have zx : m ≤ (w5.setCell ⟨b4, 1, none⟩ (.slice va5 ((livL x k).length + 1) vc5)).heap.size := by have := H5.out.size; simp; omega
      go_roundw
      case rel => exact ⟨k + 1, va5, _, vc5, by omega, by go_num, HOx, HBx, ⟨kAx, kRx, fRx, k4x, f4x, zx⟩⟩
      case measure => simp [intOf]; omega
    · obtain rfl : k = 3 := by omega
      have HFIN : Hid (Own wr m wr.heap.size i64s (livL x 3) [.slice va vn vc]) := own_ints ⟨HO.out, HWL.out⟩ (Nat.le_refl _)
      clear HO HO0 HO1 HDC HY0 HY1 HS0 HS1 HPB HOP HYE HNO HDF
      go_wp2_with fail
      refine bodyPost_ret (results_box Tryz.results6 _ _ _ #[.int .i64 0, .slice va vn vc] _ (by rfl) (bx2c kR) Tryz.underlying33 rfl info_IsL) rfl ⟨_, rfl, mk_IR (Own.mono (Own.keep HFIN.out (fun b h1 h2 => by repeat rw [Below.heap_setCell _ _ _ _ (by dsimp only; omega)])) (by omega) (by simp)) (by decide), ?_⟩
      exact Below.setCell (Below.setCell HB.out (by dsimp only; omega) _) (by dsimp only; omega) _
end Go.Proofs.YteaddhldleeaiaaGreat
