/- PutNet by program and model; nothing that was in memory turns; the condition is that there are at most a million parts. Written by mknet8.py. -/
import Derived.Test.YtebgibjokljlbaaRows
import Derived.Deep.RegionHeld3
import Derived.Deep.DeepCutAuto
import Derived.Deep.DeepMust
import Derived.Deep.MidRow
import Derived.Test.YtebgibjokljlbaaK01
import Derived.Test.YtebgibjokljlbaaK02
import Derived.Test.YtebgibjokljlbaaK03
import Derived.Test.YtebgibjokljlbaaK10
import Derived.Test.YtebgibjokljlbaaK17
import Derived.Test.YtebgibjokljlbaaK20
import Derived.Test.YtebgibjokljlbaaK42
import Derived.Test.YtebgibjokljlbaaK43
import Derived.Test.YtebgibjokljlbaaK55
import Derived.Test.YtebgibjokljlbaaK56
import Derived.Test.YtebgibjokljlbaaK57
import Derived.Test.YtebgibjokljlbaaK64
import Derived.Test.YtebgibjokljlbaaK66
import Derived.Test.YtebgibjokljlbaaK67
import Derived.Test.YtebgibjokljlbaaK93
import Derived.Test.YtebgibjokljlbaaK94
namespace Go.Proofs.Ytebgibjokljlbaa
open Go.RowKit
set_option linter.unusedVariables false
set_option maxRecDepth 8000
set_option maxHeartbeats 8000000 in
theorem iPutNetA (x0 : DNet) (A : Array Value) (l : List DSegm) (v : Value) (w : World) (B : Nat) (hr : shNet.Rd w B x0 A.toList) (hT : totNet x0 ≤ 1048576) (hl : shSegms.Rd w B l [v]) (hlT : totSegms l ≤ 1048576) (hB : B ≤ w.heap.size) :
    Calls Try.prog 20 #[.agg A, v] w fun e w' => ∃ N : Array Value, e = .returned (.agg N) ∧ Own w' w.heap.size w'.heap.size (shNR 104) (putV x0 l) N.toList ∧ Below w.heap.size w w' := by
  obtain ⟨bag, dead, ⟨⟩⟩ := x0
  obtain ⟨a, cap, da, dcap, eA, rb, rdd⟩ := rd_Net hr
  have a0 : A[0]? = some (.slice a bag.length cap) := get_of eA 0
  have a1 : A[1]? = some (.slice da dead.length dcap) := get_of eA 1
  have HRb : Hid (∀ W, Below w.heap.size w W → shSegms.Rd W B bag [.slice a bag.length cap]) := fun W hW => Sh.Rd.below rb hB hW
  have HRd : Hid (∀ W, Below w.heap.size w W → (bls 4).Rd W B dead [.slice da dead.length dcap]) := fun W hW => Sh.Rd.below rdd hB hW
  have eA2 := arr_of eA
  have HA2 : Hid (A = #[.slice a bag.length cap, .slice da dead.length dcap]) := eA2
  have HIA : Hid ((Try.prog.info? 44).map (·.size) = some A.toList.length) := by show _ = _; rw [eA]; exact info_NT
  have ht : totSegms bag + dead.length ≤ 1048576 := hT
  obtain ⟨la, lcap, ev⟩ := row_form hl
  simp only [List.cons.injEq, and_true] at ev
  subst ev
  have hln : l.length ≤ 1048576 := by unfold totSegms at hlT; omega
  obtain ⟨n, hn⟩ : ∃ n, l.length = n := ⟨_, rfl⟩
  have HN : Hid (l.length = n) := hn
  have HRl : Hid (∀ W, Below w.heap.size w W → shSegms.Rd W B l [.slice la n lcap]) := fun W hW => by have h := Sh.Rd.below hl hB hW; rw [hn] at h; exact h
  have HLT : Hid (∀ k (hk : k < l.length), totSegm l[k] ≤ 1048576) := fun k hk => Nat.le_trans (tot_mem (List.getElem_mem hk)) hlT
  rw [hn] at hln ⊢
  have HNF : Hid (∀ W, Below w.heap.size w W → Calls Try.prog 23 #[.agg A] W fun e w' => e = .returned (.int .i64 (netF bag dead)) ∧ Below W.heap.size W w') := fun W hW => by rw [HA2.out]; exact iNetFault _ bag dead _ _ W B (HRb.out W hW) (HRd.out W hW) (Nat.le_trans hB hW.size)
  obtain ⟨V, hV⟩ : ∃ V, V = putV (bag, dead, ()) l := ⟨_, rfl⟩
  rw [← hV]
  have HV : Hid (V = if netF bag dead ≠ 0 then badN (netF bag dead) else if firstF l ≠ 0 then badN (firstF l) else (0, zSg, (putN dead bag l, dead, ()), ())) := hV
  have HWF : Hid _ := netF_wf bag dead
  clear hV eA eA2 rb rdd hr hT hl hn
  have HWA : Hid (Below w.heap.size w ((w.alloc (.cells A 44)).alloc (.cells #[.int .i64 0, .int .i64 0, .int .i64 0, .bool false, .bool false, .bool false, .int .i64 0, .int .i64 0, .int .i64 0, .int .i64 0, .int .i64 0, .int .i64 0, .slice none 0 0, .slice none 0 0, .slice none 0 0] 50)) ∧ ((w.alloc (.cells A 44)).alloc (.cells #[.int .i64 0, .int .i64 0, .int .i64 0, .bool false, .bool false, .bool false, .int .i64 0, .int .i64 0, .int .i64 0, .int .i64 0, .int .i64 0, .int .i64 0, .slice none 0 0, .slice none 0 0, .slice none 0 0] 50)).heap.size = w.heap.size + 2 ∧ (∀ o, ((w.alloc (.cells A 44)).alloc (.cells #[.int .i64 0, .int .i64 0, .int .i64 0, .bool false, .bool false, .bool false, .int .i64 0, .int .i64 0, .int .i64 0, .int .i64 0, .int .i64 0, .int .i64 0, .slice none 0 0, .slice none 0 0, .slice none 0 0] 50)).cell? ⟨w.heap.size, o, none⟩ = (A : Array Value)[o]?) ∧ (∀ o, ((w.alloc (.cells A 44)).alloc (.cells #[.int .i64 0, .int .i64 0, .int .i64 0, .bool false, .bool false, .bool false, .int .i64 0, .int .i64 0, .int .i64 0, .int .i64 0, .int .i64 0, .int .i64 0, .slice none 0 0, .slice none 0 0, .slice none 0 0] 50)).cell? ⟨w.heap.size + 1, o, none⟩ = (#[.int .i64 0, .int .i64 0, .int .i64 0, .bool false, .bool false, .bool false, .int .i64 0, .int .i64 0, .int .i64 0, .int .i64 0, .int .i64 0, .int .i64 0, .slice none 0 0, .slice none 0 0, .slice none 0 0] : Array Value)[o]?) ∧ (∀ o, ((w.alloc (.cells A 44)).alloc (.cells #[.int .i64 0, .int .i64 0, .int .i64 0, .bool false, .bool false, .bool false, .int .i64 0, .int .i64 0, .int .i64 0, .int .i64 0, .int .i64 0, .int .i64 0, .slice none 0 0, .slice none 0 0, .slice none 0 0] 50)).frozen? ⟨w.heap.size + 1, o, none⟩ = false)) := ⟨(((Below.refl _ _).alloc (Nat.le_refl _) _).alloc (by simp) _), by simp, fun o => by simp [go_sem], fun o => by simp [go_sem], fun o => by simp [go_sem]⟩
  go_enter Try.func20, Try.ntmps20
  go_upto_region 1 with fail
  generalize hWW : ((w.alloc (.cells A 44)).alloc (.cells #[.int .i64 0, .int .i64 0, .int .i64 0, .bool false, .bool false, .bool false, .int .i64 0, .int .i64 0, .int .i64 0, .int .i64 0, .int .i64 0, .int .i64 0, .slice none 0 0, .slice none 0 0, .slice none 0 0] 50)) = W1 at HWA ⊢
  clear hWW
  obtain ⟨hb, hsz, kA, kR, fR⟩ := HWA.out
  clear HWA
  have HB : Hid (Below w.heap.size w W1) := hb
  have zA : w.heap.size < W1.heap.size := by omega
  have zR : w.heap.size + 1 < W1.heap.size := by omega
  clear hb hsz
  go_wp2_with (refine wpList_load_mid rfl 44 _ rfl _ _ (by rfl) A.toList _ (bx_range kA) Try.underlying44 rfl HIA.out ?_)
  refine (HNF.out _ HB.out).mono ?_
  rintro e w2 ⟨rfl, hb⟩
  replace kA := bx_below kA zA hb
  replace zA := Nat.lt_of_lt_of_le zA hb.size
  replace kR := bx_below kR zR hb
  replace fR := bxF fR hb zR
  replace zR := Nat.lt_of_lt_of_le zR hb.size
  replace HB : Hid (Below w.heap.size w w2) := HB.out.trans (hb.mono HB.out.size)
  clear hb
  have hv := HV.out
  by_cases hF : netF bag dead = 0
  · rw [if_neg (by simp [hF])] at hv
    obtain ⟨h60, h3, hok⟩ := netF_ok hF
    have HPA : Hid (putN dead [] (bag ++ l) = putN dead bag l) := putN_two hF
    have HOK : Hid (∀ x ∈ bag, totSegm x ≤ 1048576 ∧ 0 ≤ x.1 ∧ x.1 ≤ 2) := fun x hx => by have := sgF_ok (hok x hx).1; omega
    rw [h3] at a1 HRd
    have HF0 : Hid (firstF (l.drop 0) = firstF l) := rfl
    rw [hF]
    clear hok HNF HA2
    generalize hC : firstF l = C at *
    have HC : Hid (firstF l = C) := hC
    clear hC
    go_upto_region 5 with fail
    go_loopw [17] (fun i wr => ∃ k : Nat, k ≤ n ∧ i = .int .i64 k ∧ Hid (firstF (l.drop k) = C) ∧ (∀ o, wr.cell? ⟨w.heap.size, o, none⟩ = A[o]?) ∧ w.heap.size < wr.heap.size ∧ (∀ o, wr.cell? ⟨w.heap.size + 1, o, none⟩ = (#[.int .i64 0, .int .i64 0, .int .i64 0, .bool false, .bool false, .bool false, .int .i64 0, .int .i64 0, .int .i64 0, .int .i64 0, .int .i64 0, .int .i64 0, .slice none 0 0, .slice none 0 0, .slice none 0 0] : Array Value)[o]?) ∧ w.heap.size + 1 < wr.heap.size ∧ (∀ o, wr.frozen? ⟨w.heap.size + 1, o, none⟩ = false) ∧ Hid (Below w.heap.size w wr)) (fun i _ => n - (intOf i).toNat)
    case atStart => exact ⟨0, Nat.zero_le _, rfl, HF0, kA, zA, kR, zR, fR, HB⟩
    case round =>
      clear HF0 kA zA kR zR fR HB
      obtain ⟨k, hk, rfl, HF, kA, zA, kR, zR, fR, HB⟩ := hrel
      by_cases hlt : k < n
      · have hkl : k < l.length := by have := HN.out; omega
        obtain ⟨b, off, cs, ha, hb, hlen, hrg, hrs⟩ := row_at (HRl.out wr HB.out) k hkl
        subst ha
        replace hlen : cs.length = 12 := hlen
        replace hrg : wr.rangeAt b (off + k * 12) cs := hrg
        have HST : Hid _ := HF.out.symm.trans (firstF_drop hkl)
        have HCF : Hid (∀ W, Calls Try.prog 60 #[.agg cs.toArray] W fun e w' => e = .returned (.int .i64 (sgF l[k])) ∧ Below W.heap.size W w') := fun W => iSegF l[k] cs.toArray W hrs
        have HIX : Hid ((Try.prog.info? 48).map (·.size) = some cs.length) := by show _ = _; rw [hlen]; exact info_SG12
        have HIX2 : Hid ((Try.prog.info? 48).map (·.size) = some cs.toArray.size) := by show _ = _; rw [List.size_toArray]; exact HIX.out
        have HIX3 : Hid ((Try.prog.info? 48).map (·.size) = some cs.toArray.toList.length) := HIX
        have HONX : Hid (cs.toArray.all (·.oneCell') = true) := all_oneCell_toArray (rd_one _ _ _ hrs)
        have HLX : Hid (cs.toArray.size = 12) := by show _ = _; rw [List.size_toArray]; exact hlen
        have HG : Hid (wr.rangeAt b (off + k * 12) cs) := hrg
        have HSW : Hid _ := sgF_wf l[k]
        clear hrs hlen hrg HF
        generalize l[k] = x at *
        have hk0 : (0 : Int) ≤ (k : Int) := by omega
        have hkn : (k : Int) < (n : Int) := by omega
        have HTH : Hid ((wr.alloc (.cells #[.int .i64 0, .int .i64 0, .bool false, .bool false, .bool false, .int .i64 0, .int .i64 0, .int .i64 0, .int .i64 0, .int .i64 0, .int .i64 0, .slice none 0 0] 48)).there wr.heap.size 0 cs.toArray.size) := bx_there (bx_al _ _ _) (fx_al _ _ _) (by rw [HLX.out]; rfl)
        have HWN : Hid (Below wr.heap.size wr ((wr.alloc (.cells #[.int .i64 0, .int .i64 0, .bool false, .bool false, .bool false, .int .i64 0, .int .i64 0, .int .i64 0, .int .i64 0, .int .i64 0, .int .i64 0, .slice none 0 0] 48)).setCells wr.heap.size 0 cs.toArray.toList) ∧ wr.heap.size < ((wr.alloc (.cells #[.int .i64 0, .int .i64 0, .bool false, .bool false, .bool false, .int .i64 0, .int .i64 0, .int .i64 0, .int .i64 0, .int .i64 0, .int .i64 0, .slice none 0 0] 48)).setCells wr.heap.size 0 cs.toArray.toList).heap.size ∧ (∀ o, ((wr.alloc (.cells #[.int .i64 0, .int .i64 0, .bool false, .bool false, .bool false, .int .i64 0, .int .i64 0, .int .i64 0, .int .i64 0, .int .i64 0, .int .i64 0, .slice none 0 0] 48)).setCells wr.heap.size 0 cs.toArray.toList).cell? ⟨wr.heap.size, o, none⟩ = cs.toArray[o]?) ∧ (∀ o, ((wr.alloc (.cells #[.int .i64 0, .int .i64 0, .bool false, .bool false, .bool false, .int .i64 0, .int .i64 0, .int .i64 0, .int .i64 0, .int .i64 0, .int .i64 0, .slice none 0 0] 48)).setCells wr.heap.size 0 cs.toArray.toList).frozen? ⟨wr.heap.size, o, none⟩ = false)) := ⟨setCells_below (Nat.le_refl _) _ _ _ _ ((Below.refl _ _).alloc (Nat.le_refl _) _), by rw [setCells_size]; simp, bx_setCells (bx_al wr _ _) (by rw [HLX.out]; rfl), fx_sets (fx_al _ _ _)⟩
        go_upto_region 7 with (first | (refine wpList_load_mid rfl 48 _ rfl _ _ (by rfl) cs _ HG.out Try.underlying48 rfl HIX.out ?_) | (refine wpList_store_mid rfl 48 _ _ rfl _ _ cs.toArray (by rfl) (by rfl) HTH.out HIX2.out HONX.out ?_))
        generalize hWW : ((wr.alloc (.cells #[.int .i64 0, .int .i64 0, .bool false, .bool false, .bool false, .int .i64 0, .int .i64 0, .int .i64 0, .int .i64 0, .int .i64 0, .int .i64 0, .slice none 0 0] 48)).setCells wr.heap.size 0 cs.toArray.toList) = V1 at HWN ⊢
        clear hWW HTH
        obtain ⟨hb, zP, kP, fP⟩ := HWN.out
        clear HWN
        obtain ⟨bP, hq⟩ : ∃ q, q = wr.heap.size := ⟨_, rfl⟩
        rw [← hq] at zP kP fP ⊢
        have lAP : w.heap.size < bP := by rw [hq]; exact zA
        have lRP : w.heap.size + 1 < bP := by rw [hq]; exact zR
        have lwP : w.heap.size ≤ bP := by rw [hq]; exact HB.out.size
        clear hq
        replace kA := bx_below kA zA hb
        replace zA := Nat.lt_of_lt_of_le zA hb.size
        replace kR := bx_below kR zR hb
        replace fR := bxF fR hb zR
        replace zR := Nat.lt_of_lt_of_le zR hb.size
        replace HB : Hid (Below w.heap.size w V1) := HB.out.trans (hb.mono HB.out.size)
        clear hb
        clear HG HONX HIX HIX2
        go_wp2_with (refine wpList_load_mid rfl 48 _ rfl _ _ (by rfl) cs.toArray.toList _ (bx_range kP) Try.underlying48 rfl HIX3.out ?_)
        refine (HCF.out _).mono ?_
        rintro e V2 ⟨rfl, hb⟩
        replace kA := bx_below kA zA hb
        replace zA := Nat.lt_of_lt_of_le zA hb.size
        replace kR := bx_below kR zR hb
        replace fR := bxF fR hb zR
        replace zR := Nat.lt_of_lt_of_le zR hb.size
        replace kP := bx_below kP zP hb
        replace fP := bxF fP hb zP
        replace zP := Nat.lt_of_lt_of_le zP hb.size
        replace HB : Hid (Below w.heap.size w V2) := HB.out.trans (hb.mono HB.out.size)
        clear hb
        have hst := HST.out
        by_cases hs : sgF x = 0
        · rw [if_neg (by simp [hs])] at hst
          have HF2 : Hid (firstF (l.drop (k + 1)) = C) := hst.symm
          rw [hs]
          clear HST hst HCF kP zP fP
          go_wp2_with fail
          go_roundw
          case rel => exact ⟨k + 1, by omega, by go_num, HF2, kA, zA, kR, zR, fR, HB⟩
          case measure => simp [intOf]; omega
        · rw [if_pos hs] at hst
          have hs' : (sgF x != 0) = true := by simp [hs]
          have hs2 : (sgF x == 0) = false := by simp [hs]
          have HV2 : Hid (V = badN (sgF x)) := by show _ = _; rw [hv, hst, if_pos hs]
          clear HST hst HCF
          generalize sgF x = q at *
          obtain ⟨N15, hN⟩ : ∃ N : Array Value, N = #[.int .i64 q, .int .i64 0, .int .i64 0, .bool false, .bool false, .bool false, .int .i64 0, .int .i64 0, .int .i64 0, .int .i64 0, .int .i64 0, .int .i64 0, .slice none 0 0, .slice none 0 0, .slice none 0 0] := ⟨_, rfl⟩
          have HN15 : Hid _ := hN
          have hNz : N15.size = 15 := by rw [hN]; rfl
          have HNZ15 : Hid (N15.size = 15) := hNz
          have HIN15 : Hid ((Try.prog.info? 50).map (·.size) = some N15.size) := by show _ = _; rw [hNz]; exact info_NR
          have HONE15 : Hid (N15.all (·.oneCell') = true) := by show _ = _; rw [hN]; simp [Value.oneCell']
          clear hN hNz
          have HTH : Hid (V2.there (w.heap.size + 1) 0 N15.size) := bx_there kR fR (by rw [HNZ15.out]; rfl)
          have HKR : Hid (∀ o, (V2.setCells (w.heap.size + 1) 0 N15.toList).cell? ⟨w.heap.size + 1, o, none⟩ = N15[o]?) := bx_setCells kR (by rw [HNZ15.out]; rfl)
          go_wp2_with (first | (refine wpList_store_mid rfl 50 _ _ rfl _ _ N15 (by rfl) (by rw [HN15.out]; rfl) HTH.out HIN15.out HONE15.out ?_))
          refine bodyPost_ret (results_box Try.results20 _ _ _ N15 _ (by rfl) HKR.out Try.underlying50 rfl (by exact HIN15.out)) rfl ⟨N15, rfl, ?_, ?_⟩
          · rw [setCells_size, HN15.out]
            exact (Own.keep (by rw [HV2.out]; exact own_badN _ V2 (w.heap.size + 2) V2.heap.size HSW.out (by omega)) (fun b h1 h2 => setCells_block (by omega) _ _ _)).mono (by omega) (Nat.le_refl _)
          · exact setCells_below (by omega) _ _ _ _ HB.out
      · obtain rfl : k = n := by omega
        have hC : C = 0 := by have h := HF.out; rw [List.drop_of_length_le (by have := HN.out; omega)] at h; exact h.symm
        have HV2 : Hid (V = (0, zSg, (putN dead bag l, dead, ()), ())) := by show _ = _; rw [hv, if_neg (by simp [hC])]
        have HLK : Hid (∀ x ∈ l, totSegm x ≤ 1048576 ∧ 0 ≤ x.1 ∧ x.1 ≤ 2) := fun x hx => by have := sgF_ok (firstF_ok (HC.out.trans hC) x hx); omega
        have HDO : Hid (∀ W, Below wr.heap.size wr W → Calls Try.prog 62 #[.slice da 3 dcap] W fun e w' => e = .returned (.agg (arr3 dead)) ∧ Below W.heap.size W w') := fun W hW => iDeadOf _ dead _ W B (HRd.out W (HB.out.trans (hW.mono HB.out.size))) (Nat.le_trans hB (Nat.le_trans HB.out.size hW.size)) h3
        have HCA : Hid (∀ (W : World) (s : Nat), Below wr.heap.size wr W → (∀ o, W.cell? ⟨s, o, none⟩ = (#[.slice a bag.length cap, .slice la k lcap] : Array Value)[o]?) → s < W.heap.size → Calls Try.prog 63 #[.slice (some ⟨s, 0, none⟩) 2 2] W fun e w' => ∃ v, e = .returned v ∧ shSegms.Rd w' w'.heap.size (bag ++ l) [v] ∧ Below W.heap.size W w') := fun W s hW ks hs => iConcat bag l _ _ s W B (HRb.out W (HB.out.trans (hW.mono HB.out.size))) (HRl.out W (HB.out.trans (hW.mono HB.out.size))) (Nat.le_trans hB (Nat.le_trans HB.out.size hW.size)) ks hs (by omega) (by rw [HN.out]; omega)
        have HCB : Hid (∀ (W : World) (v : Value), shSegms.Rd W W.heap.size (bag ++ l) [v] → Calls Try.prog 61 #[.agg (arr3 dead), v] W fun e w' => ∃ N : Array Value, e = .returned (.agg N) ∧ NetP 104 w' W.heap.size (putN dead bag l) dead N ∧ Below W.heap.size W w') := fun W v hv => by have h := iCarriedBy dead (bag ++ l) v W W.heap.size hv (Nat.le_refl _) h3 (by rw [List.length_append, HN.out]; omega) (fun x hx => by rcases List.mem_append.1 hx with h | h; exact (HOK.out x h).1; exact (HLK.out x h).1) (fun x hx => by rcases List.mem_append.1 hx with h | h; exact (HOK.out x h).2; exact (HLK.out x h).2); rw [HPA.out] at h; exact h
        have HVF : Hid (∀ (W : World) (v : Value) , shSegms.Rd W W.heap.size (bag ++ l) [v] → ∃ a c, v = .slice a (bag ++ l).length c) := fun W v h => by obtain ⟨a, c, e⟩ := row_form h; simp only [List.cons.injEq, and_true] at e; exact ⟨a, c, e⟩
        clear HF hv HC HPA HOK HLK HRb HRd HRl HLT
        generalize arr3 dead = D at *
        have HD3 : Hid (dead.length = 3) := h3
        generalize (bag ++ l).length = nl at *
        generalize bag.length = nb at *
        clear h3
        go_upto_region 11 with fail
        refine wp_region_noPanic ?_
        refine Goes.start (S := fun w' => Below wr.heap.size wr w') (z := 10) (by kernel_rfl) ?_
        refine Goes.take (i := 0) (oi := ?oi11) (x := ?vx11) ?ho11 (by kernel_rfl) (by kernel_rfl) (by kernel_rfl) (by kernel_rfl) (fun _ _ _ h => h) (Or.inl ⟨?hw11, ?hy11⟩) (Below.drew (Below.refl _ _)) ?rest11
        case ho11 => (simp only [List.getElem?_toArray, List.getElem?_cons_zero] <;> rfl)
        case hw11 => rfl
        case hy11 => (intro w' hSw; have j0 := bx_below kA zA hSw; go_simp; (try with_reducible rfl))
        case rest11 =>
        (try simp only [Act.put, List.setIfInBounds_toArray, List.set_cons_zero, List.set_cons_succ])
        refine Goes.take (i := 1) (oi := ?oi12) (x := ?vx12) ?ho12 (by kernel_rfl) (by kernel_rfl) (by kernel_rfl) (by kernel_rfl) (fun _ _ _ h => h) (Or.inl ⟨?hw12, ?hy12⟩) (Below.drew (Below.refl _ _)) ?rest12
        case ho12 => (simp only [List.getElem?_toArray, List.getElem?_cons_succ, List.getElem?_cons_zero] <;> rfl)
        case hw12 => rfl
        case hy12 => (intro w' hSw; have j0 := bx_below kA zA hSw; go_simp; (try with_reducible rfl))
        case rest12 =>
        (try simp only [Act.put, List.setIfInBounds_toArray, List.set_cons_zero, List.set_cons_succ])
        refine Goes.take (i := 3) (oi := ?oi13) (x := ?vx13) ?ho13 (by kernel_rfl) (by kernel_rfl) (by kernel_rfl) (by kernel_rfl) (fun _ _ _ h => h) (Or.inl ⟨?hw13, ?hy13⟩) (Below.drew (Below.refl _ _)) ?rest13
        case ho13 => (simp only [List.getElem?_toArray, List.getElem?_cons_succ, List.getElem?_cons_zero] <;> rfl)
        case hw13 => rfl
        case hy13 => (intro w' hSw; have j0 := bx_below kA zA hSw; go_simp; (try with_reducible rfl))
        case rest13 =>
        (try simp only [Act.put, List.setIfInBounds_toArray, List.set_cons_zero, List.set_cons_succ])
        refine Goes.take (i := 4) (oi := ?oi14) (x := ?vx14) ?ho14 (by kernel_rfl) (by kernel_rfl) (by kernel_rfl) (by kernel_rfl) (fun _ _ _ h => h) (Or.inl ⟨?hw14, ?hy14⟩) (Below.drew (Below.refl _ _)) ?rest14
        case ho14 => (simp only [List.getElem?_toArray, List.getElem?_cons_succ, List.getElem?_cons_zero] <;> rfl)
        case hw14 => rfl
        case hy14 => (intro w' hSw; have j0 := bx_below kA zA hSw; go_simp; (try with_reducible rfl))
        case rest14 =>
        (try simp only [Act.put, List.setIfInBounds_toArray, List.set_cons_zero, List.set_cons_succ])
        refine Goes.take (i := 5) (oi := ?oi15) (x := ?vx15) ?ho15 (by kernel_rfl) (by kernel_rfl) (by kernel_rfl) (by kernel_rfl) (fun _ _ _ h => h) (Or.inl ⟨?hw15, ?hy15⟩) (Below.drew (Below.refl _ _)) ?rest15
        case ho15 => (simp only [List.getElem?_toArray, List.getElem?_cons_succ, List.getElem?_cons_zero] <;> rfl)
        case hw15 => rfl
        case hy15 => (intro w' hSw; have j0 := bx_below kA zA hSw; go_simp; (try with_reducible rfl))
        case rest15 =>
        (try simp only [Act.put, List.setIfInBounds_toArray, List.set_cons_zero, List.set_cons_succ])
        refine Goes.all (rs := [2, 6]) (by kernel_rfl) (by simp) ?_
        refine Ups.cons (i := 2) (o := ?ooA) ?hoA (fun KK hKK => ?stpA) (Ups.cons (i := 6) (o := ?ooB) ?hoB (fun KK hKK => ?stpB) Ups.nil)
        case hoA => (simp only [List.getElem?_toArray, List.getElem?_cons_succ, List.getElem?_cons_zero] <;> rfl)
        case hoB => (simp only [List.getElem?_toArray, List.getElem?_cons_succ, List.getElem?_cons_zero] <;> rfl)
        case stpA =>
          go_simp
          go_at_call 62
          refine (HDO.out _ (Below.drew (Below.refl _ _))).mono ?_
          rintro e u1 ⟨rfl, hbq⟩
          have HQ1 : Hid (Below wr.heap.size wr u1) := (Below.drew (Below.refl wr.heap.size wr)).trans hbq
          clear hbq HDO
          dsimp only
          refine hKK.out _ _ (Or.inr HQ1.out) ?_
          clear hKK KK
          (try simp only [Act.put, List.setIfInBounds_toArray, List.set_cons_zero, List.set_cons_succ])
          refine Goes.all (rs := [6]) (by kernel_rfl) (by simp) ?_
          refine Ups.cons (i := 6) (o := ?oo21) ?ho21 (fun KK hKK => ?stp21) Ups.nil
          case ho21 => (simp only [List.getElem?_toArray, List.getElem?_cons_succ, List.getElem?_cons_zero] <;> rfl)
          case stp21 =>
          go_simp
          have ks := bx_al u1 #[.slice a nb cap, .slice la k lcap] 41
          have zs : u1.heap.size < (u1.alloc (.cells #[.slice a nb cap, .slice la k lcap] 41)).heap.size := by simp
          have HQ2 : Hid (Below wr.heap.size wr (u1.alloc (.cells #[.slice a nb cap, .slice la k lcap] 41))) := HQ1.out.alloc HQ1.out.size _
          obtain ⟨s, hs⟩ : ∃ s, s = u1.heap.size := ⟨_, rfl⟩
          rw [← hs] at ks zs ⊢
          generalize hU : u1.alloc (.cells #[.slice a nb cap, .slice la k lcap] 41) = u2 at ks zs HQ2 ⊢
          clear hU hs
          refine hKK.out _ _ (Or.inr HQ2.out) ?_
          clear hKK KK
          (try simp only [Act.put, List.setIfInBounds_toArray, List.set_cons_zero, List.set_cons_succ])
          refine Goes.all (rs := [7]) (by kernel_rfl) (by simp) ?_
          refine Ups.cons (i := 7) (o := ?oo22) ?ho22 (fun KK hKK => ?stp22) Ups.nil
          case ho22 => (simp only [List.getElem?_toArray, List.getElem?_cons_succ, List.getElem?_cons_zero] <;> rfl)
          case stp22 =>
          go_simp
          go_at_call 63
          refine (HCA.out _ s HQ2.out ks zs).mono ?_
          rintro e u3 ⟨v3, rfl, hv3, hbq⟩
          have HQ3 : Hid (Below wr.heap.size wr u3) := HQ2.out.trans (hbq.mono HQ2.out.size)
          obtain ⟨va, vc, rfl⟩ := HVF.out _ _ hv3
          have HV3 : Hid _ := hv3
          clear hbq hv3 HCA ks zs
          dsimp only
          refine hKK.out _ _ (Or.inr HQ3.out) ?_
          clear hKK KK
          (try simp only [Act.put, List.setIfInBounds_toArray, List.set_cons_zero, List.set_cons_succ])
          refine Goes.all (rs := [8]) (by kernel_rfl) (by simp) ?_
          refine Ups.cons (i := 8) (o := ?oo23) ?ho23 (fun KK hKK => ?stp23) Ups.nil
          case ho23 => (simp only [List.getElem?_toArray, List.getElem?_cons_succ, List.getElem?_cons_zero] <;> rfl)
          case stp23 =>
          go_simp
          go_at_call 61
          refine (HCB.out _ _ HV3.out).mono ?_
          rintro e u4 ⟨N, rfl, hnp, hbq⟩
          have HQ4 : Hid (Below wr.heap.size wr u4) := HQ3.out.trans (hbq.mono HQ3.out.size)
          have hz4 := HQ3.out.size
          have HO : Hid (Own u4 u3.heap.size u4.heap.size (shNR 104) (0, zSg, (putN dead bag l, dead, ()), ()) (.int .i64 0 :: (zSc ++ N.toList))) := own_okN hnp hbq.size
          obtain ⟨m5, a5, a6, c5, c6, e5, -⟩ := hnp
          obtain ⟨np, hnp2⟩ : ∃ np, (putN dead bag l).length = np := ⟨_, rfl⟩
          rw [HD3.out, hnp2] at e5
          subst e5
          clear hnp2
          have kR4 := bx_below kR zR HQ4.out
          have fR4 := bxF fR HQ4.out zR
          clear hbq HCB
          obtain ⟨N15, hN⟩ : ∃ N : Array Value, N = #[.int .i64 0, .int .i64 0, .int .i64 0, .bool false, .bool false, .bool false, .int .i64 0, .int .i64 0, .int .i64 0, .int .i64 0, .int .i64 0, .int .i64 0, .slice none 0 0, .slice a5 np c5, .slice a6 3 c6] := ⟨_, rfl⟩
          have HN15 : Hid _ := hN
          have hNz : N15.size = 15 := by rw [hN]; rfl
          have HNZ15 : Hid (N15.size = 15) := hNz
          have HIN15 : Hid ((Try.prog.info? 50).map (·.size) = some N15.size) := by show _ = _; rw [hNz]; exact info_NR
          have HONE15 : Hid (N15.all (·.oneCell') = true) := by show _ = _; rw [hN]; simp [Value.oneCell']
          clear hN hNz
          have HTH : Hid (u4.there (w.heap.size + 1) 0 N15.size) := bx_there kR4 fR4 (by rw [HNZ15.out]; rfl)
          have HKR : Hid (∀ o, (u4.setCells (w.heap.size + 1) 0 N15.toList).cell? ⟨w.heap.size + 1, o, none⟩ = N15[o]?) := bx_setCells kR4 (by rw [HNZ15.out]; rfl)
          clear kR4 fR4
          dsimp only
          refine hKK.out _ _ (Or.inr HQ4.out) ?_
          clear hKK KK
          (try simp only [Act.put, List.setIfInBounds_toArray, List.set_cons_zero, List.set_cons_succ])
          refine Goes.take (i := 9) (oi := ?oi24) (x := ?vx24) ?ho24 (by kernel_rfl) (by kernel_rfl) (by kernel_rfl) (by kernel_rfl) (fun _ _ _ h => h) (Or.inl ⟨?hw24, ?hy24⟩) HQ4.out ?rest24
          case ho24 => (simp only [List.getElem?_toArray, List.getElem?_cons_succ, List.getElem?_cons_zero] <;> rfl)
          case hw24 => rfl
          case hy24 => (intro w' hSw; go_simp; (try with_reducible rfl))
          case rest24 =>
          (try simp only [Act.put, List.setIfInBounds_toArray, List.set_cons_zero, List.set_cons_succ])
          refine Goes.all (rs := [10]) (by kernel_rfl) (by simp) ?_
          refine Ups.cons (i := 10) (o := ?oo25) ?ho25 (fun KK hKK => ?stp25) Ups.nil
          case ho25 => (simp only [List.getElem?_toArray, List.getElem?_cons_succ, List.getElem?_cons_zero] <;> rfl)
          case stp25 =>
          rw [if_pos (by rfl)]
          refine wp_store_mid 50 _ _ rfl _ _ N15 (by rfl) (by rw [HN15.out]; rfl) HTH.out HIN15.out HONE15.out ?_
          refine hKK.out _ _ (Or.inl rfl) ?_
          clear hKK KK
          (try simp only [Act.put])
          refine Goes.done (by kernel_rfl) ?_ _
          refine NoPanic.normal ?_
          go_wp2_with fail
          refine bodyPost_ret (results_box Try.results20 _ _ _ N15 _ (by rfl) HKR.out Try.underlying50 rfl (by exact HIN15.out)) rfl ⟨N15, rfl, ?_, ?_⟩
          · rw [setCells_size, HN15.out, HV2.out]
            exact (Own.keep HO.out (fun b h1 h2 => setCells_block (by omega) _ _ _)).mono (by omega) (Nat.le_refl _)
          · exact setCells_below (by omega) _ _ _ _ (HB.out.trans (HQ4.out.mono HB.out.size))
        case stpB =>
          go_simp
          have ks : ∀ o, (wr.alloc (.cells #[.slice a nb cap, .slice la k lcap] 41)).drew.cell? ⟨wr.heap.size, o, none⟩ = (#[.slice a nb cap, .slice la k lcap] : Array Value)[o]? := bx_al wr _ _
          have zs : wr.heap.size < (wr.alloc (.cells #[.slice a nb cap, .slice la k lcap] 41)).drew.heap.size := by show _ < (wr.alloc _).heap.size; simp
          have HQ0 : Hid (Below wr.heap.size wr (wr.alloc (.cells #[.slice a nb cap, .slice la k lcap] 41)).drew) := Below.drew ((Below.refl _ _).alloc (Nat.le_refl _) _)
          obtain ⟨s, hs⟩ : ∃ s, s = wr.heap.size := ⟨_, rfl⟩
          generalize hU : (wr.alloc (.cells #[.slice a nb cap, .slice la k lcap] 41)).drew = u0 at ks zs HQ0 ⊢
          rw [← hs] at ks zs ⊢
          clear hU hs
          refine hKK.out _ _ (Or.inr HQ0.out) ?_
          clear hKK KK
          (try simp only [Act.put, List.setIfInBounds_toArray, List.set_cons_zero, List.set_cons_succ])
          refine Goes.all (rs := [2]) (by kernel_rfl) (by simp) ?_
          refine Ups.cons (i := 2) (o := ?oo61) ?ho61 (fun KK hKK => ?stp61) Ups.nil
          case ho61 => (simp only [List.getElem?_toArray, List.getElem?_cons_succ, List.getElem?_cons_zero] <;> rfl)
          case stp61 =>
          go_simp
          go_at_call 62
          refine (HDO.out _ HQ0.out).mono ?_
          rintro e u2 ⟨rfl, hbq⟩
          have HQ2 : Hid (Below wr.heap.size wr u2) := HQ0.out.trans (hbq.mono HQ0.out.size)
          replace ks := bx_below ks zs hbq
          replace zs := Nat.lt_of_lt_of_le zs hbq.size
          clear hbq HDO
          dsimp only
          refine hKK.out _ _ (Or.inr HQ2.out) ?_
          clear hKK KK
          (try simp only [Act.put, List.setIfInBounds_toArray, List.set_cons_zero, List.set_cons_succ])
          refine Goes.all (rs := [7]) (by kernel_rfl) (by simp) ?_
          refine Ups.cons (i := 7) (o := ?oo62) ?ho62 (fun KK hKK => ?stp62) Ups.nil
          case ho62 => (simp only [List.getElem?_toArray, List.getElem?_cons_succ, List.getElem?_cons_zero] <;> rfl)
          case stp62 =>
          go_simp
          go_at_call 63
          refine (HCA.out _ s HQ2.out ks zs).mono ?_
          rintro e u3 ⟨v3, rfl, hv3, hbq⟩
          have HQ3 : Hid (Below wr.heap.size wr u3) := HQ2.out.trans (hbq.mono HQ2.out.size)
          obtain ⟨va, vc, rfl⟩ := HVF.out _ _ hv3
          have HV3 : Hid _ := hv3
          clear hbq hv3 HCA ks zs
          dsimp only
          refine hKK.out _ _ (Or.inr HQ3.out) ?_
          clear hKK KK
          (try simp only [Act.put, List.setIfInBounds_toArray, List.set_cons_zero, List.set_cons_succ])
          refine Goes.all (rs := [8]) (by kernel_rfl) (by simp) ?_
          refine Ups.cons (i := 8) (o := ?oo63) ?ho63 (fun KK hKK => ?stp63) Ups.nil
          case ho63 => (simp only [List.getElem?_toArray, List.getElem?_cons_succ, List.getElem?_cons_zero] <;> rfl)
          case stp63 =>
          go_simp
          go_at_call 61
          refine (HCB.out _ _ HV3.out).mono ?_
          rintro e u4 ⟨N, rfl, hnp, hbq⟩
          have HQ4 : Hid (Below wr.heap.size wr u4) := HQ3.out.trans (hbq.mono HQ3.out.size)
          have hz4 := HQ3.out.size
          have HO : Hid (Own u4 u3.heap.size u4.heap.size (shNR 104) (0, zSg, (putN dead bag l, dead, ()), ()) (.int .i64 0 :: (zSc ++ N.toList))) := own_okN hnp hbq.size
          obtain ⟨m5, a5, a6, c5, c6, e5, -⟩ := hnp
          obtain ⟨np, hnp2⟩ : ∃ np, (putN dead bag l).length = np := ⟨_, rfl⟩
          rw [HD3.out, hnp2] at e5
          subst e5
          clear hnp2
          have kR4 := bx_below kR zR HQ4.out
          have fR4 := bxF fR HQ4.out zR
          clear hbq HCB
          obtain ⟨N15, hN⟩ : ∃ N : Array Value, N = #[.int .i64 0, .int .i64 0, .int .i64 0, .bool false, .bool false, .bool false, .int .i64 0, .int .i64 0, .int .i64 0, .int .i64 0, .int .i64 0, .int .i64 0, .slice none 0 0, .slice a5 np c5, .slice a6 3 c6] := ⟨_, rfl⟩
          have HN15 : Hid _ := hN
          have hNz : N15.size = 15 := by rw [hN]; rfl
          have HNZ15 : Hid (N15.size = 15) := hNz
          have HIN15 : Hid ((Try.prog.info? 50).map (·.size) = some N15.size) := by show _ = _; rw [hNz]; exact info_NR
          have HONE15 : Hid (N15.all (·.oneCell') = true) := by show _ = _; rw [hN]; simp [Value.oneCell']
          clear hN hNz
          have HTH : Hid (u4.there (w.heap.size + 1) 0 N15.size) := bx_there kR4 fR4 (by rw [HNZ15.out]; rfl)
          have HKR : Hid (∀ o, (u4.setCells (w.heap.size + 1) 0 N15.toList).cell? ⟨w.heap.size + 1, o, none⟩ = N15[o]?) := bx_setCells kR4 (by rw [HNZ15.out]; rfl)
          clear kR4 fR4
          dsimp only
          refine hKK.out _ _ (Or.inr HQ4.out) ?_
          clear hKK KK
          (try simp only [Act.put, List.setIfInBounds_toArray, List.set_cons_zero, List.set_cons_succ])
          refine Goes.take (i := 9) (oi := ?oi64) (x := ?vx64) ?ho64 (by kernel_rfl) (by kernel_rfl) (by kernel_rfl) (by kernel_rfl) (fun _ _ _ h => h) (Or.inl ⟨?hw64, ?hy64⟩) HQ4.out ?rest64
          case ho64 => (simp only [List.getElem?_toArray, List.getElem?_cons_succ, List.getElem?_cons_zero] <;> rfl)
          case hw64 => rfl
          case hy64 => (intro w' hSw; go_simp; (try with_reducible rfl))
          case rest64 =>
          (try simp only [Act.put, List.setIfInBounds_toArray, List.set_cons_zero, List.set_cons_succ])
          refine Goes.all (rs := [10]) (by kernel_rfl) (by simp) ?_
          refine Ups.cons (i := 10) (o := ?oo65) ?ho65 (fun KK hKK => ?stp65) Ups.nil
          case ho65 => (simp only [List.getElem?_toArray, List.getElem?_cons_succ, List.getElem?_cons_zero] <;> rfl)
          case stp65 =>
          rw [if_pos (by rfl)]
          refine wp_store_mid 50 _ _ rfl _ _ N15 (by rfl) (by rw [HN15.out]; rfl) HTH.out HIN15.out HONE15.out ?_
          refine hKK.out _ _ (Or.inl rfl) ?_
          clear hKK KK
          (try simp only [Act.put])
          refine Goes.done (by kernel_rfl) ?_ _
          refine NoPanic.normal ?_
          go_wp2_with fail
          refine bodyPost_ret (results_box Try.results20 _ _ _ N15 _ (by rfl) HKR.out Try.underlying50 rfl (by exact HIN15.out)) rfl ⟨N15, rfl, ?_, ?_⟩
          · rw [setCells_size, HN15.out, HV2.out]
            exact (Own.keep HO.out (fun b h1 h2 => setCells_block (by omega) _ _ _)).mono (by omega) (Nat.le_refl _)
          · exact setCells_below (by omega) _ _ _ _ (HB.out.trans (HQ4.out.mono HB.out.size))
  · rw [if_pos hF] at hv
    have h1 : (netF bag dead != 0) = true := by simp [hF]
    have h2 : (netF bag dead == 0) = false := by simp [hF]
    clear HNF
    generalize netF bag dead = q at *
    obtain ⟨N15, hN⟩ : ∃ N : Array Value, N = #[.int .i64 q, .int .i64 0, .int .i64 0, .bool false, .bool false, .bool false, .int .i64 0, .int .i64 0, .int .i64 0, .int .i64 0, .int .i64 0, .int .i64 0, .slice none 0 0, .slice none 0 0, .slice none 0 0] := ⟨_, rfl⟩
    have HN15 : Hid _ := hN
    have hNz : N15.size = 15 := by rw [hN]; rfl
    have HNZ15 : Hid (N15.size = 15) := hNz
    have HIN15 : Hid ((Try.prog.info? 50).map (·.size) = some N15.size) := by show _ = _; rw [hNz]; exact info_NR
    have HONE15 : Hid (N15.all (·.oneCell') = true) := by show _ = _; rw [hN]; simp [Value.oneCell']
    clear hN hNz
    have HTH : Hid (w2.there (w.heap.size + 1) 0 N15.size) := bx_there kR fR (by rw [HNZ15.out]; rfl)
    have HKR : Hid (∀ o, (w2.setCells (w.heap.size + 1) 0 N15.toList).cell? ⟨w.heap.size + 1, o, none⟩ = N15[o]?) := bx_setCells kR (by rw [HNZ15.out]; rfl)
    go_wp2_with (first | (refine wpList_store_mid rfl 50 _ _ rfl _ _ N15 (by rfl) (by rw [HN15.out]; rfl) HTH.out HIN15.out HONE15.out ?_))
    refine bodyPost_ret (results_box Try.results20 _ _ _ N15 _ (by rfl) HKR.out Try.underlying50 rfl (by exact HIN15.out)) rfl ⟨N15, rfl, ?_, ?_⟩
    · rw [setCells_size, HN15.out]
      exact (Own.keep (by rw [hv]; exact own_badN _ w2 (w.heap.size + 2) w2.heap.size HWF.out (by omega)) (fun b h1 h2 => setCells_block (by omega) _ _ _)).mono (by omega) (Nat.le_refl _)
    · exact setCells_below (by omega) _ _ _ _ HB.out
end Go.Proofs.Ytebgibjokljlbaa

/- The model's l12Put and PutNet; nothing that was in memory turns; the condition is that there are at most a million parts. Written by mknet9.py. -/
namespace Go.Proofs.Ytebgibjokljlbaa
open Go.RowKit
set_option linter.unusedVariables false
set_option maxRecDepth 8000
set_option maxHeartbeats 8000000 in
theorem sL12Put (dead : List Bool) (acc0 l : List DSegm) (p : Nat) (va0 da : Option Addr) (vc0 dc : Nat) (v : Value) (w : World) (B dlo lo hi : Nat) (kQ : ∀ o, w.cell? ⟨p, o, none⟩ = (#[.slice va0 acc0.length vc0, .slice da dead.length dc] : Array Value)[o]?) (tQ : ∃ cur, w.heap[p]? = some (.cells cur 44 (0, 0))) (zQ : p < w.heap.size)
    (xd : Own w dlo lo (bls 4) dead [.slice da dead.length dc]) (xo : Own w lo hi shSegms acc0 [.slice va0 acc0.length vc0]) (l1 : lo ≤ hi) (l2 : hi ≤ p) (l3 : dlo ≤ lo) (hr : shSegms.Rd w B l [v]) (hB : B ≤ lo) (h3 : dead.length = 3) (h60 : acc0.length ≤ 60) (hn1 : l.length ≤ 1048576) (hT : ∀ x ∈ l, totSegm x ≤ 1048576) (hP : ∀ x ∈ l, 0 ≤ x.1 ∧ x.1 ≤ 2) :
    Calls Try.prog 67 #[.pointer (some ⟨p, 0, none⟩), v] w fun e w' => ∃ va vc, e = .returned (.tuple #[]) ∧ (∀ o, w'.cell? ⟨p, o, none⟩ = (#[.slice va (putN dead acc0 l).length vc, .slice da dead.length dc] : Array Value)[o]?) ∧ p < w'.heap.size ∧ Own w' dlo lo (bls 4) dead [.slice da dead.length dc] ∧ Own w' lo w'.heap.size shSegms (putN dead acc0 l) [.slice va (putN dead acc0 l).length vc] ∧ Below lo w w' := by
  obtain ⟨la, cap, ev⟩ := row_form hr
  simp only [List.cons.injEq, and_true] at ev
  subst ev
  obtain ⟨n, hn⟩ : ∃ n, l.length = n := ⟨_, rfl⟩
  have HN : Hid (l.length = n) := hn
  have hlw : lo ≤ w.heap.size := by omega
  have HRl : Hid (∀ W, Below lo w W → shSegms.Rd W B l [.slice la n cap]) := fun W hW => by have h := Sh.Rd.below hr hB hW; rw [hn] at h; exact h
  have HT : Hid (∀ k (hk : k < l.length), totSegm l[k] ≤ 1048576 ∧ 0 ≤ l[k].1 ∧ l[k].1 ≤ 2) := fun k hk => ⟨hT _ (List.getElem_mem hk), hP _ (List.getElem_mem hk)⟩
  rw [hn] at hn1 ⊢
  obtain ⟨-, db, doff, hda, hdb, -⟩ := dead_at (xd.rd (Nat.le_refl _)) h3
  subst hda
  rw [h3] at kQ xd ⊢
  have XD : Hid (Own w dlo lo (bls 4) dead [.slice (some ⟨db, doff, none⟩) 3 dc]) := xd
  have HDC : Hid (∀ W, Own W dlo lo (bls 4) dead [.slice (some ⟨db, doff, none⟩) 3 dc] → ∀ p, p < 3 → W.cell? ⟨db, doff + p, none⟩ = some (.bool (dead.getD p false))) := fun W h p hp => by
    obtain ⟨-, db', doff', e, -, hc⟩ := dead_at (h.rd (Nat.le_refl _)) h3
    simp only [Option.some.injEq, Addr.mk.injEq, and_true] at e
    obtain ⟨rfl, rfl⟩ := e
    exact hc p hp
  have XO : Hid (Own w lo w.heap.size shSegms acc0 [.slice va0 acc0.length vc0]) := Own.mono xo (Nat.le_refl _) (by omega)
  have TQ : Hid (∃ cur, w.heap[p]? = some (.cells cur 44 (0, 0))) := tQ
  have HG0 : Hid (∀ W, Below lo w W → ∀ va vc acc, putN dead acc0 l = acc → (∀ o, W.cell? ⟨p, o, none⟩ = (#[.slice va acc.length vc, .slice (some ⟨db, doff, none⟩) 3 dc] : Array Value)[o]?) → p < W.heap.size → Own W dlo lo (bls 4) dead [.slice (some ⟨db, doff, none⟩) 3 dc] → Own W lo W.heap.size shSegms acc [.slice va acc.length vc] → ∃ va vc, (∀ o, W.cell? ⟨p, o, none⟩ = (#[.slice va (putN dead acc0 l).length vc, .slice (some ⟨db, doff, none⟩) 3 dc] : Array Value)[o]?) ∧ p < W.heap.size ∧ Own W dlo lo (bls 4) dead [.slice (some ⟨db, doff, none⟩) 3 dc] ∧ Own W lo W.heap.size shSegms (putN dead acc0 l) [.slice va (putN dead acc0 l).length vc] ∧ Below lo w W) := fun W h1 va vc acc e k z x1 x2 => by subst e; exact ⟨va, vc, k, z, x1, x2, h1⟩
  clear hr hT hP hn xd xo tQ h3 hdb
  go_enter Try.func67, Try.ntmps67
  go_upto_region 1 with fail
  go_loopw [4] (fun i wr => ∃ (k : Nat) (acc : List DSegm) (va : Option Addr) (vc : Nat), k ≤ n ∧ i = .int .i64 k ∧ Hid (putN dead acc0 (l.take k) = acc) ∧ acc.length ≤ 60 ∧ (∀ o, wr.cell? ⟨p, o, none⟩ = (#[.slice va acc.length vc, .slice (some ⟨db, doff, none⟩) 3 dc] : Array Value)[o]?) ∧ Hid (∃ cur, wr.heap[p]? = some (.cells cur 44 (0, 0))) ∧ p < wr.heap.size ∧ Hid (Own wr dlo lo (bls 4) dead [.slice (some ⟨db, doff, none⟩) 3 dc]) ∧ Hid (Own wr lo wr.heap.size shSegms acc [.slice va acc.length vc]) ∧ Hid (Below lo w wr)) (fun i _ => n - (intOf i).toNat)
  case atStart => exact ⟨0, acc0, va0, vc0, Nat.zero_le _, rfl, (rfl : putN dead acc0 (l.take 0) = acc0), h60, kQ, TQ, zQ, XD, XO, Below.refl _ _⟩
  case round =>
    clear h60 kQ TQ zQ XD XO
    obtain ⟨k, acc, va, vc, hk, rfl, HA, h60, kQ, TQ, zQ, XD, XO, HB⟩ := hrel
    by_cases hlt : k < n
    · have hkl : k < l.length := by have := HN.out; omega
      obtain ⟨b, off, cs, ha, hb, hlen, hrg, hrs⟩ := row_at (HRl.out wr HB.out) k hkl
      subst ha
      replace hlen : cs.length = 12 := hlen
      replace hrg : wr.rangeAt b (off + k * 12) cs := hrg
      have HTK : Hid (putN dead acc0 (l.take (k + 1)) = put1 dead acc l[k]) := by show _ = _; rw [putN_take hkl, HA.out]
      obtain ⟨ht, p0, p1⟩ := HT.out k hkl
      have HIX : Hid ((Try.prog.info? 48).map (·.size) = some cs.length) := by show _ = _; rw [hlen]; exact info_SG12
      have HCG : Hid (∀ W, Below lo wr W → Calls Try.prog 106 #[.agg cs.toArray] W fun e w' => ∃ N : Array Value, e = .returned (.agg N) ∧ Own w' W.heap.size w'.heap.size shSegm l[k] N.toList ∧ Below W.heap.size W w') := fun W hW => sCopyA l[k] cs.toArray W B (Sh.Rd.below (s := shSegm) hrs hB hW) ht
      have hc0 : wr.cell? ⟨b, off + k * 12, none⟩ = some (.int .i64 l[k].1) := by have := hrg 0 _ (seg_path hrs); simpa using this
      have HG : Hid (wr.rangeAt b (off + k * 12) cs) := hrg
      have HDD : Hid (deadAt dead l[k] = dead.getD l[k].1.toNat false) := rfl
      clear hrs hlen hrg ht HA
      generalize l[k] = x at *
      have hk0 : (0 : Int) ≤ (k : Int) := by omega
      have hkn : (k : Int) < (n : Int) := by omega
      have hblo : b < lo := by omega
      obtain ⟨pn, hpn⟩ : ∃ pn : Nat, x.1 = pn := ⟨x.1.toNat, by omega⟩
      rw [hpn] at hc0
      have q0 : (0 : Int) ≤ (pn : Int) := by omega
      have q1 : (pn : Int) < 3 := by omega
      have hDp : wr.cell? ⟨db, doff + pn, none⟩ = some (.bool (deadAt dead x)) := by rw [HDC.out wr XD.out pn (by omega), HDD.out, hpn]; rfl
      clear HDD hpn p0 p1
      obtain ⟨m, hm⟩ : ∃ m, acc.length = m := ⟨_, rfl⟩
      have HM : Hid (acc.length = m) := hm
      rw [hm] at kQ XO h60
      clear hm
      have hzlo : lo ≤ wr.heap.size := by omega
      have HKQ : Hid _ := kQ
      by_cases h6 : m < 60
      · have h6' : decide ((m : Int) < 60) = true := by simp; omega
        cases hdx : deadAt dead x with
        | true =>
          rw [hdx] at hDp
          go_wp2_with fail
          go_quiet (fail)
          go_wp2_with fail
          go_roundw
          case rel => exact ⟨k + 1, acc, va, vc, by omega, by go_num, HTK.out.trans (by unfold put1; rw [if_neg (by simp [hdx])]), by rw [HM.out]; exact h60, by rw [HM.out]; exact HKQ.out, TQ, zQ, Own.keep XD.out (fun b _ _ => rfl), by rw [HM.out]; exact Own.keep XO.out (fun b _ _ => rfl), below_drewN HB.out _⟩
          case measure => simp [intOf]; omega
        | false =>
          rw [hdx] at hDp
          have HTK2 : Hid (putN dead acc0 (l.take (k + 1)) = acc ++ [x]) := HTK.out.trans (by unfold put1; rw [if_pos ⟨hdx, by rw [HM.out]; exact h6⟩])
          go_wp2_with fail
          go_quiet (fail)
          go_upto_region 4 with fail
          clear HKQ HTK hDp hc0 hdx
          have hbd : Below wr.heap.size wr (wr.drewN nq) := below_drewN (Below.refl _ _) nq
          have hzd : (wr.drewN nq).heap.size = wr.heap.size := rfl
          generalize hV : wr.drewN nq = V at hbd hzd ⊢
          clear hV
          replace kQ := bx_below kQ zQ hbd
          replace TQ : Hid (∃ cur, V.heap[p]? = some (.cells cur 44 (0, 0))) := ty_below TQ.out (hbd.block p zQ)
          replace XD : Hid (Own V dlo lo (bls 4) dead [.slice (some ⟨db, doff, none⟩) 3 dc]) := Own.below XD.out (by omega) hbd
          replace XO : Hid (Own V lo V.heap.size shSegms acc [.slice va m vc]) := by rw [hzd]; exact Own.below XO.out (Nat.le_refl _) hbd
          replace HB : Hid (Below lo w V) := HB.out.trans (hbd.mono (by omega))
          have HCG2 : Hid (∀ W, Below lo V W → Calls Try.prog 106 #[.agg cs.toArray] W fun e w' => ∃ N : Array Value, e = .returned (.agg N) ∧ Own w' W.heap.size w'.heap.size shSegm x N.toList ∧ Below W.heap.size W w') := fun W hW => HCG.out W ((hbd.mono (by omega)).trans hW)
          replace HG : Hid (V.rangeAt b (off + k * 12) cs) := range_below HG.out hbd (by omega)
          have zV : p < V.heap.size := by omega
          have zL : lo ≤ V.heap.size := by omega
          clear HCG hbd hzd zQ hzlo
          have HS : Hid (SB1 V lo p #[.slice va m vc, .slice (some ⟨db, doff, none⟩) 3 dc] V) := ⟨Below.refl _ _, Nat.le_refl _, kQ⟩
          clear kQ
          refine wp_region_noPanic ?_
          refine Goes.start (S := SB1 V lo p #[.slice va m vc, .slice (some ⟨db, doff, none⟩) 3 dc]) (z := 14) (by kernel_rfl) ?_
          refine Goes.take (i := 0) (oi := ?oi11) (x := ?vx11) ?ho11 (by kernel_rfl) (by kernel_rfl) (by kernel_rfl) (by kernel_rfl) (fun _ _ _ h => h) (Or.inl ⟨?hw11, ?hy11⟩) HS.out.drew ?rest11
          case ho11 => (simp only [List.getElem?_toArray, List.getElem?_cons_zero] <;> rfl)
          case hw11 => rfl
          case hy11 => (intro w' hSw; have j0 := hSw.k0; go_simp; (try with_reducible rfl))
          case rest11 =>
          (try simp only [Act.put, List.setIfInBounds_toArray, List.set_cons_zero, List.set_cons_succ])
          refine Goes.take (i := 1) (oi := ?oi12) (x := ?vx12) ?ho12 (by kernel_rfl) (by kernel_rfl) (by kernel_rfl) (by kernel_rfl) (fun _ _ _ h => h) (Or.inl ⟨?hw12, ?hy12⟩) HS.out.drew ?rest12
          case ho12 => (simp only [List.getElem?_toArray, List.getElem?_cons_succ, List.getElem?_cons_zero] <;> rfl)
          case hw12 => rfl
          case hy12 => (intro w' hSw; have j0 := hSw.k0; go_simp; (try with_reducible rfl))
          case rest12 =>
          (try simp only [Act.put, List.setIfInBounds_toArray, List.set_cons_zero, List.set_cons_succ])
          refine Goes.take (i := 2) (oi := ?oi13) (x := ?vx13) ?ho13 (by kernel_rfl) (by kernel_rfl) (by kernel_rfl) (by kernel_rfl) (fun _ _ _ h => h) (Or.inl ⟨?hw13, ?hy13⟩) HS.out.drew ?rest13
          case ho13 => (simp only [List.getElem?_toArray, List.getElem?_cons_succ, List.getElem?_cons_zero] <;> rfl)
          case hw13 => rfl
          case hy13 => (intro w' hSw; have j0 := hSw.k0; go_simp; (try with_reducible rfl))
          case rest13 =>
          (try simp only [Act.put, List.setIfInBounds_toArray, List.set_cons_zero, List.set_cons_succ])
          refine Goes.take (i := 3) (oi := ?oi14) (x := ?vx14) ?ho14 (by kernel_rfl) (by kernel_rfl) (by kernel_rfl) (by kernel_rfl) (fun _ _ _ h => h) (Or.inl ⟨?hw14, ?hy14⟩) HS.out.drew ?rest14
          case ho14 => (simp only [List.getElem?_toArray, List.getElem?_cons_succ, List.getElem?_cons_zero] <;> rfl)
          case hw14 => rfl
          case hy14 => (intro w' hSw; have j0 := hSw.k0; go_simp; (try with_reducible rfl))
          case rest14 =>
          (try simp only [Act.put, List.setIfInBounds_toArray, List.set_cons_zero, List.set_cons_succ])
          refine Goes.take (i := 4) (oi := ?oi15) (x := ?vx15) ?ho15 (by kernel_rfl) (by kernel_rfl) (by kernel_rfl) (by kernel_rfl) (fun _ _ _ h => h) (Or.inl ⟨?hw15, ?hy15⟩) HS.out.drew ?rest15
          case ho15 => (simp only [List.getElem?_toArray, List.getElem?_cons_succ, List.getElem?_cons_zero] <;> rfl)
          case hw15 => rfl
          case hy15 => (intro w' hSw; have j0 := hSw.k0; go_simp; (try with_reducible rfl))
          case rest15 =>
          (try simp only [Act.put, List.setIfInBounds_toArray, List.set_cons_zero, List.set_cons_succ])
          refine Goes.take (i := 5) (oi := ?oi16) (x := ?vx16) ?ho16 (by kernel_rfl) (by kernel_rfl) (by kernel_rfl) (by kernel_rfl) (fun _ _ _ h => h) (Or.inl ⟨?hw16, ?hy16⟩) HS.out.drew ?rest16
          case ho16 => (simp only [List.getElem?_toArray, List.getElem?_cons_succ, List.getElem?_cons_zero] <;> rfl)
          case hw16 => rfl
          case hy16 => (intro w' hSw; have j0 := hSw.k0; go_simp; (try with_reducible rfl))
          case rest16 =>
          (try simp only [Act.put, List.setIfInBounds_toArray, List.set_cons_zero, List.set_cons_succ])
          refine Goes.take (i := 6) (oi := ?oi17) (x := ?vx17) ?ho17 (by kernel_rfl) (by kernel_rfl) (by kernel_rfl) (by kernel_rfl) (fun _ _ _ h => h) (Or.inl ⟨?hw17, ?hy17⟩) HS.out.drew ?rest17
          case ho17 => (simp only [List.getElem?_toArray, List.getElem?_cons_succ, List.getElem?_cons_zero] <;> rfl)
          case hw17 => rfl
          case hy17 => (intro w' hSw; have j0 := hSw.k0; go_simp; (try with_reducible rfl))
          case rest17 =>
          (try simp only [Act.put, List.setIfInBounds_toArray, List.set_cons_zero, List.set_cons_succ])
          refine Goes.take (i := 7) (oi := ?oi18) (x := ?vx18) ?ho18 (by kernel_rfl) (by kernel_rfl) (by kernel_rfl) (by kernel_rfl) (fun _ _ _ h => h) (Or.inl ⟨?hw18, ?hy18⟩) HS.out.drew ?rest18
          case ho18 => (simp only [List.getElem?_toArray, List.getElem?_cons_succ, List.getElem?_cons_zero] <;> rfl)
          case hw18 => rfl
          case hy18 => (intro w' hSw; have j0 := hSw.k0; go_simp; (try with_reducible rfl))
          case rest18 =>
          (try simp only [Act.put, List.setIfInBounds_toArray, List.set_cons_zero, List.set_cons_succ])
          refine Goes.take (i := 8) (oi := ?oi19) (x := .agg (cs).toArray) ?ho19 (by kernel_rfl) (by kernel_rfl) (by kernel_rfl) (by kernel_rfl) (fun _ _ _ h => h) ?hy19 HS.out.drew ?rest19
          case ho19 => (simp only [List.getElem?_toArray, List.getElem?_cons_succ, List.getElem?_cons_zero] <;> rfl)
          case hy19 => exact yieldsIf_load_mid (by rfl) 48 _ rfl (b) (off + k * 12) (by rfl) (cs) _ (fun w' hSw => range_below HG.out hSw.bl hblo) Try.underlying48 rfl HIX.out
          case rest19 =>
          (try simp only [Act.put, List.setIfInBounds_toArray, List.set_cons_zero, List.set_cons_succ])
          refine Goes.all (rs := [9]) (by kernel_rfl) (by simp) ?_
          refine Ups.cons (i := 9) (o := ?oo20) ?ho20 (fun KK hKK => ?stp20) Ups.nil
          case ho20 => (simp only [List.getElem?_toArray, List.getElem?_cons_succ, List.getElem?_cons_zero] <;> rfl)
          case stp20 =>
          go_simp
          go_at_call 106
          refine (HCG2.out _ HS.out.drew.bl).mono ?_
          rintro e w2 ⟨N, rfl, ho2, hbq⟩
          have HS6 : Hid (SB1 V lo p #[.slice va m vc, .slice (some ⟨db, doff, none⟩) 3 dc] w2) := SB1.below HS.out.drew hbq zV zL
          replace hbq := (Below.drew (Below.refl V.heap.size V)).trans hbq
          have HE1 : Hid (Own w2 V.heap.size w2.heap.size shSegm x N.toList) := ho2
          have HNZ : Hid (N.size = 12) := rd_size (s := shSegm) (ho2.rd (Nat.le_refl _))
          have HOW : Hid (Own w2 lo V.heap.size shSegms acc [.slice va m vc]) := Own.below XO.out (Nat.le_refl _) hbq
          replace XD : Hid (Own w2 dlo lo (bls 4) dead [.slice (some ⟨db, doff, none⟩) 3 dc]) := Own.below XD.out zL hbq
          replace TQ : Hid (∃ cur, w2.heap[p]? = some (.cells cur 44 (0, 0))) := ty_below TQ.out (hbq.block p zV)
          have hz2 := hbq.size
          clear ho2 hbq XO HCG2
          dsimp only
          refine hKK.out _ _ (Or.inr HS6.out) ?_
          clear hKK KK
          (try simp only [Act.put, List.setIfInBounds_toArray, List.set_cons_zero, List.set_cons_succ])
          obtain ⟨e0, e1, e2, e3, e4, e5, e6, e7, e8, e9, e10, e11, hN⟩ := arr12 HNZ.out
          subst hN
          refine Goes.all (rs := [10]) (by kernel_rfl) (by simp) ?_
          refine Ups.cons (i := 10) (o := ?oo21) ?ho21 (fun KK hKK => ?stp21) Ups.nil
          case ho21 => (simp only [List.getElem?_toArray, List.getElem?_cons_succ, List.getElem?_cons_zero] <;> rfl)
          case stp21 =>
          go_simp
          refine hKK.out _ _ (Or.inr (SB1.alloc HS6.out _ zV zL)) ?_
          clear hKK KK
          (try simp only [Act.put, List.setIfInBounds_toArray, List.set_cons_zero, List.set_cons_succ])
          refine Goes.all (rs := [11]) (by kernel_rfl) (by simp) ?_
          refine Ups.cons (i := 11) (o := ?oo22) ?ho22 (fun KK hKK => ?stp22) Ups.nil
          case ho22 => (simp only [List.getElem?_toArray, List.getElem?_cons_succ, List.getElem?_cons_zero] <;> rfl)
          case stp22 =>
          refine app_elem_st w2 (by rfl) _ _ 41 48 (by rfl) shSegm (.agg #[.int .i64 0, .int .i64 0, .bool false, .bool false, .bool false, .int .i64 0, .int .i64 0, .int .i64 0, .int .i64 0, .int .i64 0, .int .i64 0, .slice none 0 0]) 96 Try.underlying41 info_SZ rfl (by decide) (by decide) lo V.heap.size V.heap.size w2.heap.size acc (.slice va m vc) (by rfl) w2.heap.size rfl (by rfl) HOW.out x [e0, e1, e2, e3, e4, e5, e6, e7, e8, e9, e10, e11] HE1.out zL (Nat.le_refl _) (Nat.le_refl _) (by rw [HM.out]; omega) (by omega) ?_
          intro v3 w3' ho3 hb3 hk3 hs3
          obtain ⟨va3, vc3, hv3⟩ := row_form (ho3.rd (Nat.le_refl _))
          simp only [List.cons.injEq, and_true, List.length_append, List.length_cons, List.length_nil, HM.out] at hv3
          subst hv3
          have HO3 : Hid (Own w3' lo w3'.heap.size shSegms (acc ++ [x]) [.slice va3 (m + 1) vc3]) := ho3
          have hblk := hk3 p (by omega) (ty_ne HOW.out TQ.out)
          have HS9 : Hid (SB1 V lo p #[.slice va m vc, .slice (some ⟨db, doff, none⟩) 3 dc] w3') := ⟨HS6.out.bl.trans hb3, Nat.le_trans HS6.out.sz (Nat.le_of_lt hs3), fun o => (World.cell?_of_block hblk).trans (HS6.out.k0 o)⟩
          replace XD : Hid (Own w3' dlo lo (bls 4) dead [.slice (some ⟨db, doff, none⟩) 3 dc]) := Own.below XD.out (Nat.le_refl _) hb3
          replace TQ : Hid (∃ cur, w3'.heap[p]? = some (.cells cur 44 (0, 0))) := ty_below TQ.out hblk
          have fQ := ty_frz TQ.out
          have hz3 : p < w3'.heap.size := by omega
          clear ho3 hb3 hk3 HOW HE1 hs3 hblk
          refine hKK.out _ _ (Or.inr HS9.out) ?_
          clear hKK KK
          (try simp only [Act.put, List.setIfInBounds_toArray, List.set_cons_zero, List.set_cons_succ])
          refine Goes.all (rs := [12]) (by kernel_rfl) (by simp) ?_
          refine Ups.cons (i := 12) (o := ?oo23) ?ho23 (fun KK hKK => ?stp23) Ups.nil
          case ho23 => (simp only [List.getElem?_toArray, List.getElem?_cons_succ, List.getElem?_cons_zero] <;> rfl)
          case stp23 =>
          go_simp
          refine hKK.out _ _ (Or.inr HS9.out) ?_
          clear hKK KK
          (try simp only [Act.put, List.setIfInBounds_toArray, List.set_cons_zero, List.set_cons_succ])
          refine Goes.take (i := 13) (oi := ?oi24) (x := ?vx24) ?ho24 (by kernel_rfl) (by kernel_rfl) (by kernel_rfl) (by kernel_rfl) (fun _ _ _ h => h) (Or.inl ⟨?hw24, ?hy24⟩) HS9.out ?rest24
          case ho24 => (simp only [List.getElem?_toArray, List.getElem?_cons_succ, List.getElem?_cons_zero] <;> rfl)
          case hw24 => rfl
          case hy24 => (intro w' hSw; have j0 := hSw.k0; go_simp; (try with_reducible rfl))
          case rest24 =>
          (try simp only [Act.put, List.setIfInBounds_toArray, List.set_cons_zero, List.set_cons_succ])
          refine Goes.all (rs := [14]) (by kernel_rfl) (by simp) ?_
          refine Ups.cons (i := 14) (o := ?oo25) ?ho25 (fun KK hKK => ?stp25) Ups.nil
          case ho25 => (simp only [List.getElem?_toArray, List.getElem?_cons_succ, List.getElem?_cons_zero] <;> rfl)
          case stp25 =>
          have kQ := HS9.out.k0
          go_simp
          refine hKK.out _ _ (Or.inl rfl) ?_
          clear hKK KK
          (try simp only [Act.put])
          refine Goes.done (by kernel_rfl) ?_ _
          refine NoPanic.normal ?_
          go_wp2_with fail
          replace kQ := bx_put kQ (k := 0) (v := .slice va3 (m + 1) vc3) (by simp)
          simp only [List.setIfInBounds_toArray, List.set_cons_zero] at kQ
          go_roundw
          case rel => exact ⟨k + 1, acc ++ [x], va3, vc3, by omega, by go_num, HTK2, by rw [List.length_append, List.length_singleton, HM.out]; omega, by rw [List.length_append, List.length_singleton, HM.out]; exact kQ, (by obtain ⟨c, h⟩ := TQ.out; exact ⟨_, heap_set h⟩ : ∃ cur, _), by simp; omega, Own.keep XD.out (fun b h1 h2 => Below.heap_setCell _ _ _ _ (by dsimp only; omega)), by rw [List.length_append, List.length_singleton, HM.out]; exact Own.mono (own_setp HO3.out TQ.out) (Nat.le_refl _) (by simp), Below.setCell (p := ⟨p, 0, none⟩) (HB.out.trans HS9.out.bl) (show lo ≤ p by omega) _⟩
          case measure => simp [intOf]; omega
      · have h6' : decide ((m : Int) < 60) = false := by simp; omega
        go_wp2_with fail
        go_quiet (fail)
        go_wp2_with fail
        go_roundw
        case rel => exact ⟨k + 1, acc, va, vc, by omega, by go_num, HTK.out.trans (by unfold put1; rw [if_neg (by rw [HM.out]; omega)]), by rw [HM.out]; exact h60, by rw [HM.out]; exact HKQ.out, TQ, zQ, Own.keep XD.out (fun b _ _ => rfl), by rw [HM.out]; exact Own.keep XO.out (fun b _ _ => rfl), below_drewN HB.out _⟩
        case measure => simp [intOf]; omega
    · obtain rfl : k = n := by omega
      have HA2 : Hid (putN dead acc0 l = acc) := by have h := HA.out; rw [← HN.out, List.take_length] at h; exact h
      have HEND := HG0.out wr HB.out va vc acc HA2.out kQ zQ XD.out XO.out
      have HE : Hid _ := HEND
      clear HEND HG0
      go_wp2_with fail
      obtain ⟨va', vc', hh⟩ := HE.out
      exact ⟨rfl, .tuple #[], by simp [results, Try.results67], va', vc', rfl, hh⟩
set_option maxHeartbeats 8000000 in
theorem sPutNetA (x0 : DNet) (A : Array Value) (l : List DSegm) (v : Value) (w : World) (B : Nat) (hr : shNet.Rd w B x0 A.toList) (hT : totNet x0 ≤ 1048576) (hl : shSegms.Rd w B l [v]) (hlT : totSegms l ≤ 1048576) (hB : B ≤ w.heap.size) :
    Calls Try.prog 21 #[.agg A, v] w fun e w' => ∃ N : Array Value, e = .returned (.agg N) ∧ Own w' w.heap.size w'.heap.size (shNR 4) (putV x0 l) N.toList ∧ Below w.heap.size w w' := by
  obtain ⟨bag, dead, ⟨⟩⟩ := x0
  obtain ⟨a, cap, da, dcap, eA, rb, rdd⟩ := rd_Net hr
  have a0 : A[0]? = some (.slice a bag.length cap) := get_of eA 0
  have a1 : A[1]? = some (.slice da dead.length dcap) := get_of eA 1
  have HRb : Hid (∀ W, Below w.heap.size w W → shSegms.Rd W B bag [.slice a bag.length cap]) := fun W hW => Sh.Rd.below rb hB hW
  have HRd : Hid (∀ W, Below w.heap.size w W → (bls 4).Rd W B dead [.slice da dead.length dcap]) := fun W hW => Sh.Rd.below rdd hB hW
  have eA2 := arr_of eA
  have HA2 : Hid (A = #[.slice a bag.length cap, .slice da dead.length dcap]) := eA2
  have HIA : Hid ((Try.prog.info? 44).map (·.size) = some A.toList.length) := by show _ = _; rw [eA]; exact info_NT
  have ht : totSegms bag + dead.length ≤ 1048576 := hT
  obtain ⟨la, lcap, ev⟩ := row_form hl
  simp only [List.cons.injEq, and_true] at ev
  subst ev
  have hln : l.length ≤ 1048576 := by unfold totSegms at hlT; omega
  obtain ⟨n, hn⟩ : ∃ n, l.length = n := ⟨_, rfl⟩
  have HN : Hid (l.length = n) := hn
  have HRl : Hid (∀ W, Below w.heap.size w W → shSegms.Rd W B l [.slice la n lcap]) := fun W hW => by have h := Sh.Rd.below hl hB hW; rw [hn] at h; exact h
  rw [hn] at hln ⊢
  have HNF : Hid (∀ W (p : Nat), Below w.heap.size w W → (∀ o, W.cell? ⟨p, o, none⟩ = A[o]?) → p < W.heap.size → Calls Try.prog 64 #[.pointer (some ⟨p, 0, none⟩)] W fun e w' => e = .returned (.int .i64 (netF bag dead)) ∧ Below W.heap.size W w') := fun W p hW k hp => sL12Fault _ bag dead p _ _ W B (by rw [HA2.out] at k; exact k) hp (HRb.out W hW) (HRd.out W hW) (Nat.le_trans hB hW.size)
  obtain ⟨V, hV⟩ : ∃ V, V = putV (bag, dead, ()) l := ⟨_, rfl⟩
  rw [← hV]
  have HV : Hid (V = if netF bag dead ≠ 0 then badN (netF bag dead) else if firstF l ≠ 0 then badN (firstF l) else (0, zSg, (putN dead bag l, dead, ()), ())) := hV
  have HWF : Hid _ := netF_wf bag dead
  clear hV eA eA2 rb rdd hr hT hl hn
  have HWA : Hid (Below w.heap.size w ((w.alloc (.cells A 44)).alloc (.cells #[.int .i64 0, .int .i64 0, .int .i64 0, .bool false, .bool false, .bool false, .int .i64 0, .int .i64 0, .int .i64 0, .int .i64 0, .int .i64 0, .int .i64 0, .slice none 0 0, .slice none 0 0, .slice none 0 0] 50)) ∧ ((w.alloc (.cells A 44)).alloc (.cells #[.int .i64 0, .int .i64 0, .int .i64 0, .bool false, .bool false, .bool false, .int .i64 0, .int .i64 0, .int .i64 0, .int .i64 0, .int .i64 0, .int .i64 0, .slice none 0 0, .slice none 0 0, .slice none 0 0] 50)).heap.size = w.heap.size + 2 ∧ (∀ o, ((w.alloc (.cells A 44)).alloc (.cells #[.int .i64 0, .int .i64 0, .int .i64 0, .bool false, .bool false, .bool false, .int .i64 0, .int .i64 0, .int .i64 0, .int .i64 0, .int .i64 0, .int .i64 0, .slice none 0 0, .slice none 0 0, .slice none 0 0] 50)).cell? ⟨w.heap.size, o, none⟩ = (A : Array Value)[o]?) ∧ (∀ o, ((w.alloc (.cells A 44)).alloc (.cells #[.int .i64 0, .int .i64 0, .int .i64 0, .bool false, .bool false, .bool false, .int .i64 0, .int .i64 0, .int .i64 0, .int .i64 0, .int .i64 0, .int .i64 0, .slice none 0 0, .slice none 0 0, .slice none 0 0] 50)).cell? ⟨w.heap.size + 1, o, none⟩ = (#[.int .i64 0, .int .i64 0, .int .i64 0, .bool false, .bool false, .bool false, .int .i64 0, .int .i64 0, .int .i64 0, .int .i64 0, .int .i64 0, .int .i64 0, .slice none 0 0, .slice none 0 0, .slice none 0 0] : Array Value)[o]?) ∧ (∀ o, ((w.alloc (.cells A 44)).alloc (.cells #[.int .i64 0, .int .i64 0, .int .i64 0, .bool false, .bool false, .bool false, .int .i64 0, .int .i64 0, .int .i64 0, .int .i64 0, .int .i64 0, .int .i64 0, .slice none 0 0, .slice none 0 0, .slice none 0 0] 50)).frozen? ⟨w.heap.size + 1, o, none⟩ = false)) := ⟨(((Below.refl _ _).alloc (Nat.le_refl _) _).alloc (by simp) _), by simp, fun o => by simp [go_sem], fun o => by simp [go_sem], fun o => by simp [go_sem]⟩
  go_enter Try.func21, Try.ntmps21
  go_upto_region 1 with fail
  generalize hWW : ((w.alloc (.cells A 44)).alloc (.cells #[.int .i64 0, .int .i64 0, .int .i64 0, .bool false, .bool false, .bool false, .int .i64 0, .int .i64 0, .int .i64 0, .int .i64 0, .int .i64 0, .int .i64 0, .slice none 0 0, .slice none 0 0, .slice none 0 0] 50)) = W1 at HWA ⊢
  clear hWW
  obtain ⟨hb, hsz, kA, kR, fR⟩ := HWA.out
  clear HWA
  have HB : Hid (Below w.heap.size w W1) := hb
  have zA : w.heap.size < W1.heap.size := by omega
  have zR : w.heap.size + 1 < W1.heap.size := by omega
  clear hb hsz
  go_wp2_with fail
  refine (HNF.out _ _ HB.out kA zA).mono ?_
  rintro e w2 ⟨rfl, hb⟩
  replace kA := bx_below kA zA hb
  replace zA := Nat.lt_of_lt_of_le zA hb.size
  replace kR := bx_below kR zR hb
  replace fR := bxF fR hb zR
  replace zR := Nat.lt_of_lt_of_le zR hb.size
  replace HB : Hid (Below w.heap.size w w2) := HB.out.trans (hb.mono HB.out.size)
  clear hb
  have hv := HV.out
  by_cases hF : netF bag dead = 0
  · rw [if_neg (by simp [hF])] at hv
    obtain ⟨h60, h3, hok⟩ := netF_ok hF
    have HOK : Hid (∀ x ∈ bag, totSegm x ≤ 1048576) := fun x hx => by have := sgF_ok (hok x hx).1; omega
    have HCP : Hid (∀ W, Below w.heap.size w W → Calls Try.prog 66 #[.agg A] W fun e w' => ∃ N : Array Value, e = .returned (.agg N) ∧ NetP 4 w' W.heap.size bag dead N ∧ Below W.heap.size W w') := fun W hW => by rw [HA2.out]; exact sL12Copy _ bag dead _ _ W B (HRb.out W hW) (HRd.out W hW) (Nat.le_trans hB hW.size) h3 (by omega) HOK.out
    have HF0 : Hid (firstF (l.drop 0) = firstF l) := rfl
    rw [hF]
    clear hok HNF HA2 HRb HRd HOK
    generalize hC : firstF l = C at *
    have HC : Hid (firstF l = C) := hC
    clear hC
    go_upto_region 5 with fail
    go_loopw [6] (fun i wr => ∃ k : Nat, k ≤ n ∧ i = .int .i64 k ∧ Hid (firstF (l.drop k) = C) ∧ (∀ o, wr.cell? ⟨w.heap.size, o, none⟩ = A[o]?) ∧ w.heap.size < wr.heap.size ∧ (∀ o, wr.cell? ⟨w.heap.size + 1, o, none⟩ = (#[.int .i64 0, .int .i64 0, .int .i64 0, .bool false, .bool false, .bool false, .int .i64 0, .int .i64 0, .int .i64 0, .int .i64 0, .int .i64 0, .int .i64 0, .slice none 0 0, .slice none 0 0, .slice none 0 0] : Array Value)[o]?) ∧ w.heap.size + 1 < wr.heap.size ∧ (∀ o, wr.frozen? ⟨w.heap.size + 1, o, none⟩ = false) ∧ Hid (Below w.heap.size w wr)) (fun i _ => n - (intOf i).toNat)
    case atStart => exact ⟨0, Nat.zero_le _, rfl, HF0, kA, zA, kR, zR, fR, HB⟩
    case round =>
      clear HF0 kA zA kR zR fR HB
      obtain ⟨k, hk, rfl, HF, kA, zA, kR, zR, fR, HB⟩ := hrel
      by_cases hlt : k < n
      · have hkl : k < l.length := by have := HN.out; omega
        obtain ⟨b, off, cs, ha, hb, hlen, hrg, hrs⟩ := row_at (HRl.out wr HB.out) k hkl
        subst ha
        replace hlen : cs.length = 12 := hlen
        replace hrg : wr.rangeAt b (off + k * 12) cs := hrg
        have HST : Hid _ := HF.out.symm.trans (firstF_drop hkl)
        have HCF : Hid (∀ W, Calls Try.prog 65 #[.agg cs.toArray] W fun e w' => e = .returned (.int .i64 (sgF l[k])) ∧ Below W.heap.size W w') := fun W => sSegF l[k] cs.toArray W hrs
        have HIX : Hid ((Try.prog.info? 48).map (·.size) = some cs.length) := by show _ = _; rw [hlen]; exact info_SG12
        have HG : Hid (wr.rangeAt b (off + k * 12) cs) := hrg
        have HSW : Hid _ := sgF_wf l[k]
        clear hrs hlen hrg HF
        generalize l[k] = x at *
        have hk0 : (0 : Int) ≤ (k : Int) := by omega
        have hkn : (k : Int) < (n : Int) := by omega
        go_wp2_with (refine wpList_load_mid rfl 48 _ rfl _ _ (by rfl) cs _ HG.out Try.underlying48 rfl HIX.out ?_)
        refine (HCF.out _).mono ?_
        rintro e V2 ⟨rfl, hb⟩
        replace kA := bx_below kA zA hb
        replace zA := Nat.lt_of_lt_of_le zA hb.size
        replace kR := bx_below kR zR hb
        replace fR := bxF fR hb zR
        replace zR := Nat.lt_of_lt_of_le zR hb.size
        replace HB : Hid (Below w.heap.size w V2) := HB.out.trans (hb.mono HB.out.size)
        clear hb
        have hst := HST.out
        by_cases hs : sgF x = 0
        · rw [if_neg (by simp [hs])] at hst
          have HF2 : Hid (firstF (l.drop (k + 1)) = C) := hst.symm
          rw [hs]
          clear HST hst HCF
          go_wp2_with fail
          go_roundw
          case rel => exact ⟨k + 1, by omega, by go_num, HF2, kA, zA, kR, zR, fR, HB⟩
          case measure => simp [intOf]; omega
        · rw [if_pos hs] at hst
          have hs' : (sgF x != 0) = true := by simp [hs]
          have hs2 : (sgF x == 0) = false := by simp [hs]
          have HV2 : Hid (V = badN (sgF x)) := by show _ = _; rw [hv, hst, if_pos hs]
          clear HST hst HCF
          generalize sgF x = q at *
          obtain ⟨N15, hN⟩ : ∃ N : Array Value, N = #[.int .i64 q, .int .i64 0, .int .i64 0, .bool false, .bool false, .bool false, .int .i64 0, .int .i64 0, .int .i64 0, .int .i64 0, .int .i64 0, .int .i64 0, .slice none 0 0, .slice none 0 0, .slice none 0 0] := ⟨_, rfl⟩
          have HN15 : Hid _ := hN
          have hNz : N15.size = 15 := by rw [hN]; rfl
          have HNZ15 : Hid (N15.size = 15) := hNz
          have HIN15 : Hid ((Try.prog.info? 50).map (·.size) = some N15.size) := by show _ = _; rw [hNz]; exact info_NR
          have HONE15 : Hid (N15.all (·.oneCell') = true) := by show _ = _; rw [hN]; simp [Value.oneCell']
          clear hN hNz
          have HTH : Hid (V2.there (w.heap.size + 1) 0 N15.size) := bx_there kR fR (by rw [HNZ15.out]; rfl)
          have HKR : Hid (∀ o, (V2.setCells (w.heap.size + 1) 0 N15.toList).cell? ⟨w.heap.size + 1, o, none⟩ = N15[o]?) := bx_setCells kR (by rw [HNZ15.out]; rfl)
          go_wp2_with (first | (refine wpList_store_mid rfl 50 _ _ rfl _ _ N15 (by rfl) (by rw [HN15.out]; rfl) HTH.out HIN15.out HONE15.out ?_))
          refine bodyPost_ret (results_box Try.results21 _ _ _ N15 _ (by rfl) HKR.out Try.underlying50 rfl (by exact HIN15.out)) rfl ⟨N15, rfl, ?_, ?_⟩
          · rw [setCells_size, HN15.out]
            exact (Own.keep (by rw [HV2.out]; exact own_badN _ V2 (w.heap.size + 2) V2.heap.size HSW.out (by omega)) (fun b h1 h2 => setCells_block (by omega) _ _ _)).mono (by omega) (Nat.le_refl _)
          · exact setCells_below (by omega) _ _ _ _ HB.out
      · obtain rfl : k = n := by omega
        have hC : C = 0 := by have h := HF.out; rw [List.drop_of_length_le (by have := HN.out; omega)] at h; exact h.symm
        have HV2 : Hid (V = (0, zSg, (putN dead bag l, dead, ()), ())) := by show _ = _; rw [hv, if_neg (by simp [hC])]
        have HLK : Hid (∀ x ∈ l, totSegm x ≤ 1048576 ∧ 0 ≤ x.1 ∧ x.1 ≤ 2) := fun x hx => by have := sgF_ok (firstF_ok (HC.out.trans hC) x hx); omega
        have HD3 : Hid (dead.length = 3) := h3
        have zR0 : w.heap.size + 1 < wr.heap.size := zR
        clear HF hv HC hC h3
        go_wp2_with (refine wpList_load_mid rfl 44 _ rfl _ _ (by rfl) A.toList _ (bx_range kA) Try.underlying44 rfl HIA.out ?_)
        refine (HCP.out _ HB.out).mono ?_
        rintro e u1 ⟨N, rfl, hnp, hb⟩
        have hz1 := hb.size
        have hNz := hnp.size
        have HNZ : Hid (N.size = 2) := hNz
        have HIN : Hid ((Try.prog.info? 44).map (·.size) = some N.size) := by show _ = _; rw [hNz]; exact info_NT
        have HONE : Hid (N.all (·.oneCell') = true) := hnp.one
        obtain ⟨m, va, da', vc, dc, eN, xd, xo, lm, lh⟩ := hnp
        have HEN : Hid _ := eN
        have hm1 : wr.heap.size ≤ m := lm
        obtain ⟨hh, ehh⟩ : ∃ x, x = u1.heap.size := ⟨_, rfl⟩
        have HXD0 : Hid (Own u1 wr.heap.size m (bls 4) dead [.slice da' dead.length dc]) := xd
        have HXO0 : Hid (Own u1 m hh shSegms bag [.slice va bag.length vc]) := by rw [ehh]; exact xo
        have lh2 : m ≤ hh := by rw [ehh]; exact lh
        have lh3 : hh ≤ u1.heap.size := by omega
        clear hNz eN xd xo
        replace kA := bx_below kA zA hb
        replace zA := Nat.lt_of_lt_of_le zA hb.size
        replace kR := bx_below kR zR hb
        replace fR := bxF fR hb zR
        replace zR := Nat.lt_of_lt_of_le zR hb.size
        replace HB : Hid (Below w.heap.size w u1) := HB.out.trans (hb.mono HB.out.size)
        clear hb
        clear ehh
        have HTH : Hid ((u1.alloc (.cells #[.slice none 0 0, .slice none 0 0] 44)).there u1.heap.size 0 N.size) := bx_there (bx_al _ _ _) (fx_al _ _ _) (by rw [HNZ.out]; rfl)
        have HWN : Hid (Below u1.heap.size u1 ((u1.alloc (.cells #[.slice none 0 0, .slice none 0 0] 44)).setCells u1.heap.size 0 N.toList) ∧ u1.heap.size < ((u1.alloc (.cells #[.slice none 0 0, .slice none 0 0] 44)).setCells u1.heap.size 0 N.toList).heap.size ∧ (∀ o, ((u1.alloc (.cells #[.slice none 0 0, .slice none 0 0] 44)).setCells u1.heap.size 0 N.toList).cell? ⟨u1.heap.size, o, none⟩ = N[o]?) ∧ (∃ cur, ((u1.alloc (.cells #[.slice none 0 0, .slice none 0 0] 44)).setCells u1.heap.size 0 N.toList).heap[u1.heap.size]? = some (.cells cur 44 (0, 0)))) := ⟨setCells_below (Nat.le_refl _) _ _ _ _ ((Below.refl _ _).alloc (Nat.le_refl _) _), by rw [setCells_size]; simp, bx_setCells (bx_al u1 _ _) (by rw [HNZ.out]; rfl), al_tyN _ _ _ _⟩
        go_upto_region 11 with (refine wpList_store_mid rfl 44 _ _ rfl _ _ N (by rfl) (by rfl) HTH.out HIN.out HONE.out ?_)
        generalize hWW : ((u1.alloc (.cells #[.slice none 0 0, .slice none 0 0] 44)).setCells u1.heap.size 0 N.toList) = u2 at HWN ⊢
        clear hWW HTH
        obtain ⟨hb, zQ, kQ, tQ⟩ := HWN.out
        clear HWN
        replace HXD0 : Hid (Own u2 wr.heap.size m (bls 4) dead [.slice da' dead.length dc]) := Own.below HXD0.out (by omega) hb
        replace HXO0 : Hid (Own u2 m hh shSegms bag [.slice va bag.length vc]) := Own.below HXO0.out (by omega) hb
        obtain ⟨q, hq⟩ : ∃ q, q = u1.heap.size := ⟨_, rfl⟩
        have hqh : hh ≤ q := by omega
        replace kA := bx_below kA zA hb
        replace zA := Nat.lt_of_lt_of_le zA hb.size
        replace kR := bx_below kR zR hb
        replace fR := bxF fR hb zR
        replace zR := Nat.lt_of_lt_of_le zR hb.size
        replace HB : Hid (Below w.heap.size w u2) := HB.out.trans (hb.mono HB.out.size)
        clear hb
        rw [← hq] at zQ kQ tQ ⊢
        have zRm : w.heap.size + 1 < m := by omega
        clear hq lh3 hz1
        rw [HEN.out] at kQ
        go_wp2_with fail
        refine (sL12Put dead bag l q va da' vc dc _ u2 B wr.heap.size m hh kQ tQ zQ HXD0.out HXO0.out lh2 hqh hm1 (HRl.out _ HB.out) (by omega) HD3.out (by omega) (by rw [HN.out]; omega) (fun x hx => (HLK.out x hx).1) (fun x hx => (HLK.out x hx).2)).mono ?_
        rintro e u3 ⟨va3, vc3, rfl, kQ3, zQ3, xd3, xo3, hb3⟩
        replace kR := bxC kR hb3 zRm
        replace fR := fxC fR hb3 zRm
        replace HB : Hid (Below w.heap.size w u3) := HB.out.trans (hb3.mono (by omega))
        have HO : Hid (Own u3 wr.heap.size u3.heap.size (shNR 4) (0, zSg, (putN dead bag l, dead, ()), ()) (.int .i64 0 :: (zSc ++ [.slice va3 (putN dead bag l).length vc3, .slice da' dead.length dc]))) := own_NR (by decide) (own_zSg u3 _ wr.heap.size) (own_Net' xd3 xo3 hm1 (by omega)) (Nat.le_refl _) (by omega)
        have hzz : w.heap.size + 2 ≤ wr.heap.size := by omega
        clear xd3 xo3 hb3 kQ kA zA
        rw [HD3.out] at kQ3 HO
        obtain ⟨np, hnp⟩ : ∃ np, (putN dead bag l).length = np := ⟨_, rfl⟩
        rw [hnp] at kQ3 HO
        clear hnp
        obtain ⟨N2, hN2⟩ : ∃ N : Array Value, N = #[.slice va3 np vc3, .slice da' 3 dc] := ⟨_, rfl⟩
        obtain ⟨N15, hN⟩ : ∃ N : Array Value, N = #[.int .i64 0, .int .i64 0, .int .i64 0, .bool false, .bool false, .bool false, .int .i64 0, .int .i64 0, .int .i64 0, .int .i64 0, .int .i64 0, .int .i64 0, .slice none 0 0, .slice va3 np vc3, .slice da' 3 dc] := ⟨_, rfl⟩
        have HN15 : Hid _ := hN
        have hNz : N15.size = 15 := by rw [hN]; rfl
        have HNZ15 : Hid (N15.size = 15) := hNz
        have HIN15 : Hid ((Try.prog.info? 50).map (·.size) = some N15.size) := by show _ = _; rw [hNz]; exact info_NR
        have HONE15 : Hid (N15.all (·.oneCell') = true) := by show _ = _; rw [hN]; simp [Value.oneCell']
        clear hN hNz
        have HTH : Hid (u3.there (w.heap.size + 1) 0 N15.size) := bx_there kR fR (by rw [HNZ15.out]; rfl)
        have HKR : Hid (∀ o, (u3.setCells (w.heap.size + 1) 0 N15.toList).cell? ⟨w.heap.size + 1, o, none⟩ = N15[o]?) := bx_setCells kR (by rw [HNZ15.out]; rfl)
        go_wp2_with (first | (refine wpList_load_mid rfl 44 _ rfl _ _ (by rfl) [.slice va3 np vc3, .slice da' 3 dc] _ (bx_range kQ3) Try.underlying44 rfl info_NT ?_) | (refine wpList_store_mid rfl 50 _ _ rfl _ _ N15 (by rfl) (by rw [HN15.out]; rfl) HTH.out HIN15.out HONE15.out ?_))
        refine bodyPost_ret (results_box Try.results21 _ _ _ N15 _ (by rfl) HKR.out Try.underlying50 rfl (by exact HIN15.out)) rfl ⟨N15, rfl, ?_, ?_⟩
        · rw [setCells_size, HN15.out]
          exact (Own.keep (by rw [HV2.out]; exact HO.out) (fun b h1 h2 => setCells_block (by omega) _ _ _)).mono (by omega) (Nat.le_refl _)
        · exact setCells_below (by omega) _ _ _ _ HB.out
  · rw [if_pos hF] at hv
    have h1 : (netF bag dead != 0) = true := by simp [hF]
    have h2 : (netF bag dead == 0) = false := by simp [hF]
    clear HNF
    generalize netF bag dead = q at *
    obtain ⟨N15, hN⟩ : ∃ N : Array Value, N = #[.int .i64 q, .int .i64 0, .int .i64 0, .bool false, .bool false, .bool false, .int .i64 0, .int .i64 0, .int .i64 0, .int .i64 0, .int .i64 0, .int .i64 0, .slice none 0 0, .slice none 0 0, .slice none 0 0] := ⟨_, rfl⟩
    have HN15 : Hid _ := hN
    have hNz : N15.size = 15 := by rw [hN]; rfl
    have HNZ15 : Hid (N15.size = 15) := hNz
    have HIN15 : Hid ((Try.prog.info? 50).map (·.size) = some N15.size) := by show _ = _; rw [hNz]; exact info_NR
    have HONE15 : Hid (N15.all (·.oneCell') = true) := by show _ = _; rw [hN]; simp [Value.oneCell']
    clear hN hNz
    have HTH : Hid (w2.there (w.heap.size + 1) 0 N15.size) := bx_there kR fR (by rw [HNZ15.out]; rfl)
    have HKR : Hid (∀ o, (w2.setCells (w.heap.size + 1) 0 N15.toList).cell? ⟨w.heap.size + 1, o, none⟩ = N15[o]?) := bx_setCells kR (by rw [HNZ15.out]; rfl)
    go_wp2_with (first | (refine wpList_store_mid rfl 50 _ _ rfl _ _ N15 (by rfl) (by rw [HN15.out]; rfl) HTH.out HIN15.out HONE15.out ?_))
    refine bodyPost_ret (results_box Try.results21 _ _ _ N15 _ (by rfl) HKR.out Try.underlying50 rfl (by exact HIN15.out)) rfl ⟨N15, rfl, ?_, ?_⟩
    · rw [setCells_size, HN15.out]
      exact (Own.keep (by rw [hv]; exact own_badN _ w2 (w.heap.size + 2) w2.heap.size HWF.out (by omega)) (fun b h1 h2 => setCells_block (by omega) _ _ _)).mono (by omega) (Nat.le_refl _)
    · exact setCells_below (by omega) _ _ _ _ HB.out
end Go.Proofs.Ytebgibjokljlbaa
