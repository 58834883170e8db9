/- PutNet by program and model; nothing that was in memory turns; the condition is that there are at most a million parts. Written by mknet8.py. -/
import Derived.Test.YtlfncadngcjdjabRows
import Derived.Test.YtlfncadngcjdjabBase
import Derived.Test.YtlfncadngcjdjabBytes
import Derived.Test.YtlfncadngcjdjabMem
import Derived.Test.YtlfncadngcjdjabMemOpen
import Derived.Test.YtlfncadngcjdjabMemRow
import Derived.Test.YtlfncadngcjdjabHBase
import Derived.Test.YtlfncadngcjdjabHMark
import Derived.Test.YtlfncadngcjdjabBox
import Derived.Test.YtlfncadngcjdjabSubBox
import Derived.Test.YtlfncadngcjdjabAgg
import Derived.Test.YtlfncadngcjdjabElMark
import Derived.Test.YtlfncadngcjdjabMSegs
import Derived.Test.YtlfncadngcjdjabRegionU
import Derived.Test.YtlfncadngcjdjabHSegs
import Derived.Test.YtlfncadngcjdjabAppBytes
import Derived.Test.YtlfncadngcjdjabApp
import Derived.Test.YtlfncadngcjdjabMemApp
import Derived.Test.YtlfncadngcjdjabSeg
import Derived.Test.YtlfncadngcjdjabSegFS
import Derived.Test.YtlfncadngcjdjabSegFI
import Derived.Test.YtlfncadngcjdjabStrip
import Derived.Test.YtlfncadngcjdjabRegS
import Derived.Test.YtlfncadngcjdjabHBool
import Derived.Test.YtlfncadngcjdjabHSegT
import Derived.Test.YtlfncadngcjdjabNetSeg
import Derived.Test.YtlfncadngcjdjabNetDef
import Derived.Test.YtlfncadngcjdjabNetSpF
import Derived.Test.YtlfncadngcjdjabNetImF
import Derived.Test.YtlfncadngcjdjabHNet
import Derived.Test.YtlfncadngcjdjabSegR
import Derived.Test.YtlfncadngcjdjabNetBx
import Derived.Test.YtlfncadngcjdjabNetR
import Derived.Test.YtlfncadngcjdjabNetImC
import Derived.Test.YtlfncadngcjdjabNetSpC
import Derived.Test.YtlfncadngcjdjabRegionQ
import Derived.Test.YtlfncadngcjdjabNetAsk
import Derived.Test.YtlfncadngcjdjabNetDef2
import Derived.Test.YtlfncadngcjdjabNetCat
import Derived.Deep.RegionHeld3
import Derived.Deep.DeepCutAuto
import Derived.Deep.DeepMust
import Derived.Deep.MidRow
namespace Go.Proofs.Ytlfncadngcjdjab
open Go.RowKit
set_option linter.unusedVariables false
set_option maxRecDepth 8000
set_option maxHeartbeats 8000000 in
theorem iPutNetA (x0 : DNet) (A : Array Value) (l : List DSegm) (v : Value) (w : World) (B : Nat) (hr : shNet.Rd w B x0 A.toList) (hT : totNet x0 ≤ 1048576) (hl : shSegms.Rd w B l [v]) (hlT : totSegms l ≤ 1048576) (hB : B ≤ w.heap.size) :
    Calls Try.prog 30 #[.agg A, v] w fun e w' => ∃ N : Array Value, e = .returned (.agg N) ∧ Own w' w.heap.size w'.heap.size (shNR 65) (putV x0 l) N.toList ∧ Below w.heap.size w w' := by
  obtain ⟨bag, dead, ⟨⟩⟩ := x0
  obtain ⟨a, cap, da, dcap, eA, rb, rdd⟩ := rd_Net hr
  have a0 : A[0]? = some (.slice a bag.length cap) := get_of eA 0
  have a1 : A[1]? = some (.slice da dead.length dcap) := get_of eA 1
  have HRb : Hid (∀ W, Below w.heap.size w W → shSegms.Rd W B bag [.slice a bag.length cap]) := fun W hW => Sh.Rd.below rb hB hW
  have HRd : Hid (∀ W, Below w.heap.size w W → (bls 4).Rd W B dead [.slice da dead.length dcap]) := fun W hW => Sh.Rd.below rdd hB hW
  have eA2 := arr_of eA
  have HA2 : Hid (A = #[.slice a bag.length cap, .slice da dead.length dcap]) := eA2
  have HIA : Hid ((Try.prog.info? 32).map (·.size) = some A.toList.length) := by show _ = _; rw [eA]; exact info_NT
  have ht : totSegms bag + dead.length ≤ 1048576 := hT
  obtain ⟨la, lcap, ev⟩ := row_form hl
  simp only [List.cons.injEq, and_true] at ev
  subst ev
  have hln : l.length ≤ 1048576 := by unfold totSegms at hlT; omega
  obtain ⟨n, hn⟩ : ∃ n, l.length = n := ⟨_, rfl⟩
  have HN : Hid (l.length = n) := hn
  have HRl : Hid (∀ W, Below w.heap.size w W → shSegms.Rd W B l [.slice la n lcap]) := fun W hW => by have h := Sh.Rd.below hl hB hW; rw [hn] at h; exact h
  have HLT : Hid (∀ k (hk : k < l.length), totSegm l[k] ≤ 1048576) := fun k hk => Nat.le_trans (tot_mem (List.getElem_mem hk)) hlT
  rw [hn] at hln ⊢
  have HNF : Hid (∀ W, Below w.heap.size w W → Calls Try.prog 47 #[.agg A] W fun e w' => e = .returned (.int .i64 (netF bag dead)) ∧ Below W.heap.size W w') := fun W hW => by rw [HA2.out]; exact iNetFault _ bag dead _ _ W B (HRb.out W hW) (HRd.out W hW) (Nat.le_trans hB hW.size)
  obtain ⟨V, hV⟩ : ∃ V, V = putV (bag, dead, ()) l := ⟨_, rfl⟩
  rw [← hV]
  have HV : Hid (V = if netF bag dead ≠ 0 then badN (netF bag dead) else if firstF l ≠ 0 then badN (firstF l) else (0, zSg, (putN dead bag l, dead, ()), ())) := hV
  have HWF : Hid _ := netF_wf bag dead
  clear hV eA eA2 rb rdd hr hT hl hn
  have HWA : Hid (Below w.heap.size w ((w.alloc (.cells A 32)).alloc (.cells #[.int .i64 0, .int .i64 0, .int .i64 0, .bool false, .bool false, .bool false, .int .i64 0, .int .i64 0, .int .i64 0, .int .i64 0, .int .i64 0, .int .i64 0, .slice none 0 0, .slice none 0 0, .slice none 0 0] 34)) ∧ ((w.alloc (.cells A 32)).alloc (.cells #[.int .i64 0, .int .i64 0, .int .i64 0, .bool false, .bool false, .bool false, .int .i64 0, .int .i64 0, .int .i64 0, .int .i64 0, .int .i64 0, .int .i64 0, .slice none 0 0, .slice none 0 0, .slice none 0 0] 34)).heap.size = w.heap.size + 2 ∧ (∀ o, ((w.alloc (.cells A 32)).alloc (.cells #[.int .i64 0, .int .i64 0, .int .i64 0, .bool false, .bool false, .bool false, .int .i64 0, .int .i64 0, .int .i64 0, .int .i64 0, .int .i64 0, .int .i64 0, .slice none 0 0, .slice none 0 0, .slice none 0 0] 34)).cell? ⟨w.heap.size, o, none⟩ = (A : Array Value)[o]?) ∧ (∀ o, ((w.alloc (.cells A 32)).alloc (.cells #[.int .i64 0, .int .i64 0, .int .i64 0, .bool false, .bool false, .bool false, .int .i64 0, .int .i64 0, .int .i64 0, .int .i64 0, .int .i64 0, .int .i64 0, .slice none 0 0, .slice none 0 0, .slice none 0 0] 34)).cell? ⟨w.heap.size + 1, o, none⟩ = (#[.int .i64 0, .int .i64 0, .int .i64 0, .bool false, .bool false, .bool false, .int .i64 0, .int .i64 0, .int .i64 0, .int .i64 0, .int .i64 0, .int .i64 0, .slice none 0 0, .slice none 0 0, .slice none 0 0] : Array Value)[o]?) ∧ (∀ o, ((w.alloc (.cells A 32)).alloc (.cells #[.int .i64 0, .int .i64 0, .int .i64 0, .bool false, .bool false, .bool false, .int .i64 0, .int .i64 0, .int .i64 0, .int .i64 0, .int .i64 0, .int .i64 0, .slice none 0 0, .slice none 0 0, .slice none 0 0] 34)).frozen? ⟨w.heap.size + 1, o, none⟩ = false)) := ⟨(((Below.refl _ _).alloc (Nat.le_refl _) _).alloc (by simp) _), by simp, fun o => by simp [go_sem], fun o => by simp [go_sem], fun o => by simp [go_sem]⟩
  go_enter Try.func30, Try.ntmps30
  go_upto_region 1 with fail
  generalize hWW : ((w.alloc (.cells A 32)).alloc (.cells #[.int .i64 0, .int .i64 0, .int .i64 0, .bool false, .bool false, .bool false, .int .i64 0, .int .i64 0, .int .i64 0, .int .i64 0, .int .i64 0, .int .i64 0, .slice none 0 0, .slice none 0 0, .slice none 0 0] 34)) = W1 at HWA ⊢
  clear hWW
  obtain ⟨hb, hsz, kA, kR, fR⟩ := HWA.out
  clear HWA
  have HB : Hid (Below w.heap.size w W1) := hb
  have zA : w.heap.size < W1.heap.size := by omega
  have zR : w.heap.size + 1 < W1.heap.size := by omega
  clear hb hsz
  go_wp2_with (refine wpList_load_mid rfl 32 _ rfl _ _ (by rfl) A.toList _ (bx_range kA) Try.underlying32 rfl HIA.out ?_)
  refine (HNF.out _ HB.out).mono ?_
  rintro e w2 ⟨rfl, hb⟩
  replace kA := bx_below kA zA hb
  replace zA := Nat.lt_of_lt_of_le zA hb.size
  replace kR := bx_below kR zR hb
  replace fR := bxF fR hb zR
  replace zR := Nat.lt_of_lt_of_le zR hb.size
  replace HB : Hid (Below w.heap.size w w2) := HB.out.trans (hb.mono HB.out.size)
  clear hb
  have hv := HV.out
  by_cases hF : netF bag dead = 0
  · rw [if_neg (by simp [hF])] at hv
    obtain ⟨h60, h3, hok⟩ := netF_ok hF
    have HPA : Hid (putN dead [] (bag ++ l) = putN dead bag l) := putN_two hF
    have HOK : Hid (∀ x ∈ bag, totSegm x ≤ 1048576 ∧ 0 ≤ x.1 ∧ x.1 ≤ 2) := fun x hx => by have := sgF_ok (hok x hx).1; omega
    rw [h3] at a1 HRd
    have HF0 : Hid (firstF (l.drop 0) = firstF l) := rfl
    rw [hF]
    clear hok HNF HA2
    generalize hC : firstF l = C at *
    have HC : Hid (firstF l = C) := hC
    clear hC
    go_upto_region 5 with fail
    go_loopw [17] (fun i wr => ∃ k : Nat, k ≤ n ∧ i = .int .i64 k ∧ Hid (firstF (l.drop k) = C) ∧ (∀ o, wr.cell? ⟨w.heap.size, o, none⟩ = A[o]?) ∧ w.heap.size < wr.heap.size ∧ (∀ o, wr.cell? ⟨w.heap.size + 1, o, none⟩ = (#[.int .i64 0, .int .i64 0, .int .i64 0, .bool false, .bool false, .bool false, .int .i64 0, .int .i64 0, .int .i64 0, .int .i64 0, .int .i64 0, .int .i64 0, .slice none 0 0, .slice none 0 0, .slice none 0 0] : Array Value)[o]?) ∧ w.heap.size + 1 < wr.heap.size ∧ (∀ o, wr.frozen? ⟨w.heap.size + 1, o, none⟩ = false) ∧ Hid (Below w.heap.size w wr)) (fun i _ => n - (intOf i).toNat)
    case atStart => exact ⟨0, Nat.zero_le _, rfl, HF0, kA, zA, kR, zR, fR, HB⟩
    case round =>
      clear HF0 kA zA kR zR fR HB
      obtain ⟨k, hk, rfl, HF, kA, zA, kR, zR, fR, HB⟩ := hrel
      by_cases hlt : k < n
      · have hkl : k < l.length := by have := HN.out; omega
        obtain ⟨b, off, cs, ha, hb, hlen, hrg, hrs⟩ := row_at (HRl.out wr HB.out) k hkl
        subst ha
        replace hlen : cs.length = 12 := hlen
        replace hrg : wr.rangeAt b (off + k * 12) cs := hrg
        have HST : Hid _ := HF.out.symm.trans (firstF_drop hkl)
        have HCF : Hid (∀ W, Calls Try.prog 53 #[.agg cs.toArray] W fun e w' => e = .returned (.int .i64 (sgF l[k])) ∧ Below W.heap.size W w') := fun W => iSegF l[k] cs.toArray W hrs
        have HIX : Hid ((Try.prog.info? 29).map (·.size) = some cs.length) := by show _ = _; rw [hlen]; exact info_SG12
        have HIX2 : Hid ((Try.prog.info? 29).map (·.size) = some cs.toArray.size) := by show _ = _; rw [List.size_toArray]; exact HIX.out
        have HIX3 : Hid ((Try.prog.info? 29).map (·.size) = some cs.toArray.toList.length) := HIX
        have HONX : Hid (cs.toArray.all (·.oneCell') = true) := all_oneCell_toArray (rd_one _ _ _ hrs)
        have HLX : Hid (cs.toArray.size = 12) := by show _ = _; rw [List.size_toArray]; exact hlen
        have HG : Hid (wr.rangeAt b (off + k * 12) cs) := hrg
        have HSW : Hid _ := sgF_wf l[k]
        clear hrs hlen hrg HF
        generalize l[k] = x at *
        have hk0 : (0 : Int) ≤ (k : Int) := by omega
        have hkn : (k : Int) < (n : Int) := by omega
        have HTH : Hid ((wr.alloc (.cells #[.int .i64 0, .int .i64 0, .bool false, .bool false, .bool false, .int .i64 0, .int .i64 0, .int .i64 0, .int .i64 0, .int .i64 0, .int .i64 0, .slice none 0 0] 29)).there wr.heap.size 0 cs.toArray.size) := bx_there (bx_al _ _ _) (fx_al _ _ _) (by rw [HLX.out]; rfl)
        have HWN : Hid (Below wr.heap.size wr ((wr.alloc (.cells #[.int .i64 0, .int .i64 0, .bool false, .bool false, .bool false, .int .i64 0, .int .i64 0, .int .i64 0, .int .i64 0, .int .i64 0, .int .i64 0, .slice none 0 0] 29)).setCells wr.heap.size 0 cs.toArray.toList) ∧ wr.heap.size < ((wr.alloc (.cells #[.int .i64 0, .int .i64 0, .bool false, .bool false, .bool false, .int .i64 0, .int .i64 0, .int .i64 0, .int .i64 0, .int .i64 0, .int .i64 0, .slice none 0 0] 29)).setCells wr.heap.size 0 cs.toArray.toList).heap.size ∧ (∀ o, ((wr.alloc (.cells #[.int .i64 0, .int .i64 0, .bool false, .bool false, .bool false, .int .i64 0, .int .i64 0, .int .i64 0, .int .i64 0, .int .i64 0, .int .i64 0, .slice none 0 0] 29)).setCells wr.heap.size 0 cs.toArray.toList).cell? ⟨wr.heap.size, o, none⟩ = cs.toArray[o]?) ∧ (∀ o, ((wr.alloc (.cells #[.int .i64 0, .int .i64 0, .bool false, .bool false, .bool false, .int .i64 0, .int .i64 0, .int .i64 0, .int .i64 0, .int .i64 0, .int .i64 0, .slice none 0 0] 29)).setCells wr.heap.size 0 cs.toArray.toList).frozen? ⟨wr.heap.size, o, none⟩ = false)) := ⟨setCells_below (Nat.le_refl _) _ _ _ _ ((Below.refl _ _).alloc (Nat.le_refl _) _), by rw [setCells_size]; simp, bx_setCells (bx_al wr _ _) (by rw [HLX.out]; rfl), fx_sets (fx_al _ _ _)⟩
        go_upto_region 7 with (first | (refine wpList_load_mid rfl 29 _ rfl _ _ (by rfl) cs _ HG.out Try.underlying29 rfl HIX.out ?_) | (refine wpList_store_mid rfl 29 _ _ rfl _ _ cs.toArray (by rfl) (by rfl) HTH.out HIX2.out HONX.out ?_))
        generalize hWW : ((wr.alloc (.cells #[.int .i64 0, .int .i64 0, .bool false, .bool false, .bool false, .int .i64 0, .int .i64 0, .int .i64 0, .int .i64 0, .int .i64 0, .int .i64 0, .slice none 0 0] 29)).setCells wr.heap.size 0 cs.toArray.toList) = V1 at HWN ⊢
        clear hWW HTH
        obtain ⟨hb, zP, kP, fP⟩ := HWN.out
        clear HWN
        obtain ⟨bP, hq⟩ : ∃ q, q = wr.heap.size := ⟨_, rfl⟩
        rw [← hq] at zP kP fP ⊢
        have lAP : w.heap.size < bP := by rw [hq]; exact zA
        have lRP : w.heap.size + 1 < bP := by rw [hq]; exact zR
        have lwP : w.heap.size ≤ bP := by rw [hq]; exact HB.out.size
        clear hq
        replace kA := bx_below kA zA hb
        replace zA := Nat.lt_of_lt_of_le zA hb.size
        replace kR := bx_below kR zR hb
        replace fR := bxF fR hb zR
        replace zR := Nat.lt_of_lt_of_le zR hb.size
        replace HB : Hid (Below w.heap.size w V1) := HB.out.trans (hb.mono HB.out.size)
        clear hb
        clear HG HONX HIX HIX2
        go_wp2_with (refine wpList_load_mid rfl 29 _ rfl _ _ (by rfl) cs.toArray.toList _ (bx_range kP) Try.underlying29 rfl HIX3.out ?_)
        refine (HCF.out _).mono ?_
        rintro e V2 ⟨rfl, hb⟩
        replace kA := bx_below kA zA hb
        replace zA := Nat.lt_of_lt_of_le zA hb.size
        replace kR := bx_below kR zR hb
        replace fR := bxF fR hb zR
        replace zR := Nat.lt_of_lt_of_le zR hb.size
        replace kP := bx_below kP zP hb
        replace fP := bxF fP hb zP
        replace zP := Nat.lt_of_lt_of_le zP hb.size
        replace HB : Hid (Below w.heap.size w V2) := HB.out.trans (hb.mono HB.out.size)
        clear hb
        have hst := HST.out
        by_cases hs : sgF x = 0
        · rw [if_neg (by simp [hs])] at hst
          have HF2 : Hid (firstF (l.drop (k + 1)) = C) := hst.symm
          rw [hs]
          clear HST hst HCF kP zP fP
          go_wp2_with fail
          go_roundw
          case rel => exact ⟨k + 1, by omega, by go_num, HF2, kA, zA, kR, zR, fR, HB⟩
          case measure => simp [intOf]; omega
        · rw [if_pos hs] at hst
          have hs' : (sgF x != 0) = true := by simp [hs]
          have hs2 : (sgF x == 0) = false := by simp [hs]
          have HV2 : Hid (V = badN (sgF x)) := by show _ = _; rw [hv, hst, if_pos hs]
          clear HST hst HCF
          generalize sgF x = q at *
          obtain ⟨N15, hN⟩ : ∃ N : Array Value, N = #[.int .i64 q, .int .i64 0, .int .i64 0, .bool false, .bool false, .bool false, .int .i64 0, .int .i64 0, .int .i64 0, .int .i64 0, .int .i64 0, .int .i64 0, .slice none 0 0, .slice none 0 0, .slice none 0 0] := ⟨_, rfl⟩
          have HN15 : Hid _ := hN
          have hNz : N15.size = 15 := by rw [hN]; rfl
          have HNZ15 : Hid (N15.size = 15) := hNz
          have HIN15 : Hid ((Try.prog.info? 34).map (·.size) = some N15.size) := by show _ = _; rw [hNz]; exact info_NR
          have HONE15 : Hid (N15.all (·.oneCell') = true) := by show _ = _; rw [hN]; simp [Value.oneCell']
          clear hN hNz
          have HTH : Hid (V2.there (w.heap.size + 1) 0 N15.size) := bx_there kR fR (by rw [HNZ15.out]; rfl)
          have HKR : Hid (∀ o, (V2.setCells (w.heap.size + 1) 0 N15.toList).cell? ⟨w.heap.size + 1, o, none⟩ = N15[o]?) := bx_setCells kR (by rw [HNZ15.out]; rfl)
          go_wp2_with (first | (refine wpList_store_mid rfl 34 _ _ rfl _ _ N15 (by rfl) (by rw [HN15.out]; rfl) HTH.out HIN15.out HONE15.out ?_))
          refine bodyPost_ret (results_box Try.results30 _ _ _ N15 _ (by rfl) HKR.out Try.underlying34 rfl (by exact HIN15.out)) rfl ⟨N15, rfl, ?_, ?_⟩
          · rw [setCells_size, HN15.out]
            exact (Own.keep (by rw [HV2.out]; exact own_badN _ V2 (w.heap.size + 2) V2.heap.size HSW.out (by omega)) (fun b h1 h2 => setCells_block (by omega) _ _ _)).mono (by omega) (Nat.le_refl _)
          · exact setCells_below (by omega) _ _ _ _ HB.out
      · obtain rfl : k = n := by omega
        have hC : C = 0 := by have h := HF.out; rw [List.drop_of_length_le (by have := HN.out; omega)] at h; exact h.symm
        have HV2 : Hid (V = (0, zSg, (putN dead bag l, dead, ()), ())) := by show _ = _; rw [hv, if_neg (by simp [hC])]
        have HLK : Hid (∀ x ∈ l, totSegm x ≤ 1048576 ∧ 0 ≤ x.1 ∧ x.1 ≤ 2) := fun x hx => by have := sgF_ok (firstF_ok (HC.out.trans hC) x hx); omega
        have HDO : Hid (∀ W, Below wr.heap.size wr W → Calls Try.prog 48 #[.slice da 3 dcap] W fun e w' => e = .returned (.agg (arr3 dead)) ∧ Below W.heap.size W w') := fun W hW => iDeadOf _ dead _ W B (HRd.out W (HB.out.trans (hW.mono HB.out.size))) (Nat.le_trans hB (Nat.le_trans HB.out.size hW.size)) h3
        have HCA : Hid (∀ (W : World) (s : Nat), Below wr.heap.size wr W → (∀ o, W.cell? ⟨s, o, none⟩ = (#[.slice a bag.length cap, .slice la k lcap] : Array Value)[o]?) → s < W.heap.size → Calls Try.prog 54 #[.slice (some ⟨s, 0, none⟩) 2 2] W fun e w' => ∃ v, e = .returned v ∧ shSegms.Rd w' w'.heap.size (bag ++ l) [v] ∧ Below W.heap.size W w') := fun W s hW ks hs => iConcat bag l _ _ s W B (HRb.out W (HB.out.trans (hW.mono HB.out.size))) (HRl.out W (HB.out.trans (hW.mono HB.out.size))) (Nat.le_trans hB (Nat.le_trans HB.out.size hW.size)) ks hs (by omega) (by rw [HN.out]; omega)
        have HCB : Hid (∀ (W : World) (v : Value), shSegms.Rd W W.heap.size (bag ++ l) [v] → Calls Try.prog 49 #[.agg (arr3 dead), v] W fun e w' => ∃ N : Array Value, e = .returned (.agg N) ∧ NetP 65 w' W.heap.size (putN dead bag l) dead N ∧ Below W.heap.size W w') := fun W v hv => by have h := iCarriedBy dead (bag ++ l) v W W.heap.size hv (Nat.le_refl _) h3 (by rw [List.length_append, HN.out]; omega) (fun x hx => by rcases List.mem_append.1 hx with h | h; exact (HOK.out x h).1; exact (HLK.out x h).1) (fun x hx => by rcases List.mem_append.1 hx with h | h; exact (HOK.out x h).2; exact (HLK.out x h).2); rw [HPA.out] at h; exact h
        have HVF : Hid (∀ (W : World) (v : Value) , shSegms.Rd W W.heap.size (bag ++ l) [v] → ∃ a c, v = .slice a (bag ++ l).length c) := fun W v h => by obtain ⟨a, c, e⟩ := row_form h; simp only [List.cons.injEq, and_true] at e; exact ⟨a, c, e⟩
        clear HF hv HC HPA HOK HLK HRb HRd HRl HLT
        generalize arr3 dead = D at *
        have HD3 : Hid (dead.length = 3) := h3
        generalize (bag ++ l).length = nl at *
        generalize bag.length = nb at *
        clear h3
        go_upto_region 11 with fail
        refine wp_region_noPanic ?_
        refine Goes.start (S := fun w' => Below wr.heap.size wr w') (z := 10) (by kernel_rfl) ?_
        refine Goes.take (i := 0) (oi := ?oi11) (x := ?vx11) ?ho11 (by kernel_rfl) (by kernel_rfl) (by kernel_rfl) (by kernel_rfl) (fun _ _ _ h => h) (Or.inl ⟨?hw11, ?hy11⟩) (Below.drew (Below.refl _ _)) ?rest11
        case ho11 => (simp only [List.getElem?_toArray, List.getElem?_cons_zero] <;> rfl)
        case hw11 => rfl
        case hy11 => (intro w' hSw; have j0 := bx_below kA zA hSw; go_simp; (try with_reducible rfl))
        case rest11 =>
        (try simp only [Act.put, List.setIfInBounds_toArray, List.set_cons_zero, List.set_cons_succ])
        refine Goes.take (i := 1) (oi := ?oi12) (x := ?vx12) ?ho12 (by kernel_rfl) (by kernel_rfl) (by kernel_rfl) (by kernel_rfl) (fun _ _ _ h => h) (Or.inl ⟨?hw12, ?hy12⟩) (Below.drew (Below.refl _ _)) ?rest12
        case ho12 => (simp only [List.getElem?_toArray, List.getElem?_cons_succ, List.getElem?_cons_zero] <;> rfl)
        case hw12 => rfl
        case hy12 => (intro w' hSw; have j0 := bx_below kA zA hSw; go_simp; (try with_reducible rfl))
        case rest12 =>
        (try simp only [Act.put, List.setIfInBounds_toArray, List.set_cons_zero, List.set_cons_succ])
        refine Goes.take (i := 3) (oi := ?oi13) (x := ?vx13) ?ho13 (by kernel_rfl) (by kernel_rfl) (by kernel_rfl) (by kernel_rfl) (fun _ _ _ h => h) (Or.inl ⟨?hw13, ?hy13⟩) (Below.drew (Below.refl _ _)) ?rest13
        case ho13 => (simp only [List.getElem?_toArray, List.getElem?_cons_succ, List.getElem?_cons_zero] <;> rfl)
        case hw13 => rfl
        case hy13 => (intro w' hSw; have j0 := bx_below kA zA hSw; go_simp; (try with_reducible rfl))
        case rest13 =>
        (try simp only [Act.put, List.setIfInBounds_toArray, List.set_cons_zero, List.set_cons_succ])
        refine Goes.take (i := 4) (oi := ?oi14) (x := ?vx14) ?ho14 (by kernel_rfl) (by kernel_rfl) (by kernel_rfl) (by kernel_rfl) (fun _ _ _ h => h) (Or.inl ⟨?hw14, ?hy14⟩) (Below.drew (Below.refl _ _)) ?rest14
        case ho14 => (simp only [List.getElem?_toArray, List.getElem?_cons_succ, List.getElem?_cons_zero] <;> rfl)
        case hw14 => rfl
        case hy14 => (intro w' hSw; have j0 := bx_below kA zA hSw; go_simp; (try with_reducible rfl))
        case rest14 =>
        (try simp only [Act.put, List.setIfInBounds_toArray, List.set_cons_zero, List.set_cons_succ])
        refine Goes.take (i := 5) (oi := ?oi15) (x := ?vx15) ?ho15 (by kernel_rfl) (by kernel_rfl) (by kernel_rfl) (by kernel_rfl) (fun _ _ _ h => h) (Or.inl ⟨?hw15, ?hy15⟩) (Below.drew (Below.refl _ _)) ?rest15
        case ho15 => (simp only [List.getElem?_toArray, List.getElem?_cons_succ, List.getElem?_cons_zero] <;> rfl)
        case hw15 => rfl
        case hy15 => (intro w' hSw; have j0 := bx_below kA zA hSw; go_simp; (try with_reducible rfl))
        case rest15 =>
        (try simp only [Act.put, List.setIfInBounds_toArray, List.set_cons_zero, List.set_cons_succ])
        refine Goes.all (rs := [2, 6]) (by kernel_rfl) (by simp) ?_
        refine Ups.cons (i := 2) (o := ?ooA) ?hoA (fun KK hKK => ?stpA) (Ups.cons (i := 6) (o := ?ooB) ?hoB (fun KK hKK => ?stpB) Ups.nil)
        case hoA => (simp only [List.getElem?_toArray, List.getElem?_cons_succ, List.getElem?_cons_zero] <;> rfl)
        case hoB => (simp only [List.getElem?_toArray, List.getElem?_cons_succ, List.getElem?_cons_zero] <;> rfl)
        case stpA =>
          go_simp
          go_at_call 48
          refine (HDO.out _ (Below.drew (Below.refl _ _))).mono ?_
          rintro e u1 ⟨rfl, hbq⟩
          have HQ1 : Hid (Below wr.heap.size wr u1) := (Below.drew (Below.refl wr.heap.size wr)).trans hbq
          clear hbq HDO
          dsimp only
          refine hKK.out _ _ (Or.inr HQ1.out) ?_
          clear hKK KK
          (try simp only [Act.put, List.setIfInBounds_toArray, List.set_cons_zero, List.set_cons_succ])
          refine Goes.all (rs := [6]) (by kernel_rfl) (by simp) ?_
          refine Ups.cons (i := 6) (o := ?oo21) ?ho21 (fun KK hKK => ?stp21) Ups.nil
          case ho21 => (simp only [List.getElem?_toArray, List.getElem?_cons_succ, List.getElem?_cons_zero] <;> rfl)
          case stp21 =>
          go_simp
          have ks := bx_al u1 #[.slice a nb cap, .slice la k lcap] 30
          have zs : u1.heap.size < (u1.alloc (.cells #[.slice a nb cap, .slice la k lcap] 30)).heap.size := by simp
          have HQ2 : Hid (Below wr.heap.size wr (u1.alloc (.cells #[.slice a nb cap, .slice la k lcap] 30))) := HQ1.out.alloc HQ1.out.size _
          obtain ⟨s, hs⟩ : ∃ s, s = u1.heap.size := ⟨_, rfl⟩
          rw [← hs] at ks zs ⊢
          generalize hU : u1.alloc (.cells #[.slice a nb cap, .slice la k lcap] 30) = u2 at ks zs HQ2 ⊢
          clear hU hs
          refine hKK.out _ _ (Or.inr HQ2.out) ?_
          clear hKK KK
          (try simp only [Act.put, List.setIfInBounds_toArray, List.set_cons_zero, List.set_cons_succ])
          refine Goes.all (rs := [7]) (by kernel_rfl) (by simp) ?_
          refine Ups.cons (i := 7) (o := ?oo22) ?ho22 (fun KK hKK => ?stp22) Ups.nil
          case ho22 => (simp only [List.getElem?_toArray, List.getElem?_cons_succ, List.getElem?_cons_zero] <;> rfl)
          case stp22 =>
          go_simp
          go_at_call 54
          refine (HCA.out _ s HQ2.out ks zs).mono ?_
          rintro e u3 ⟨v3, rfl, hv3, hbq⟩
          have HQ3 : Hid (Below wr.heap.size wr u3) := HQ2.out.trans (hbq.mono HQ2.out.size)
          obtain ⟨va, vc, rfl⟩ := HVF.out _ _ hv3
          have HV3 : Hid _ := hv3
          clear hbq hv3 HCA ks zs
          dsimp only
          refine hKK.out _ _ (Or.inr HQ3.out) ?_
          clear hKK KK
          (try simp only [Act.put, List.setIfInBounds_toArray, List.set_cons_zero, List.set_cons_succ])
          refine Goes.all (rs := [8]) (by kernel_rfl) (by simp) ?_
          refine Ups.cons (i := 8) (o := ?oo23) ?ho23 (fun KK hKK => ?stp23) Ups.nil
          case ho23 => (simp only [List.getElem?_toArray, List.getElem?_cons_succ, List.getElem?_cons_zero] <;> rfl)
          case stp23 =>
          go_simp
          go_at_call 49
          refine (HCB.out _ _ HV3.out).mono ?_
          rintro e u4 ⟨N, rfl, hnp, hbq⟩
          have HQ4 : Hid (Below wr.heap.size wr u4) := HQ3.out.trans (hbq.mono HQ3.out.size)
          have hz4 := HQ3.out.size
          have HO : Hid (Own u4 u3.heap.size u4.heap.size (shNR 65) (0, zSg, (putN dead bag l, dead, ()), ()) (.int .i64 0 :: (zSc ++ N.toList))) := own_okN hnp hbq.size
          obtain ⟨m5, a5, a6, c5, c6, e5, -⟩ := hnp
          obtain ⟨np, hnp2⟩ : ∃ np, (putN dead bag l).length = np := ⟨_, rfl⟩
          rw [HD3.out, hnp2] at e5
          subst e5
          clear hnp2
          have kR4 := bx_below kR zR HQ4.out
          have fR4 := bxF fR HQ4.out zR
          clear hbq HCB
          obtain ⟨N15, hN⟩ : ∃ N : Array Value, N = #[.int .i64 0, .int .i64 0, .int .i64 0, .bool false, .bool false, .bool false, .int .i64 0, .int .i64 0, .int .i64 0, .int .i64 0, .int .i64 0, .int .i64 0, .slice none 0 0, .slice a5 np c5, .slice a6 3 c6] := ⟨_, rfl⟩
          have HN15 : Hid _ := hN
          have hNz : N15.size = 15 := by rw [hN]; rfl
          have HNZ15 : Hid (N15.size = 15) := hNz
          have HIN15 : Hid ((Try.prog.info? 34).map (·.size) = some N15.size) := by show _ = _; rw [hNz]; exact info_NR
          have HONE15 : Hid (N15.all (·.oneCell') = true) := by show _ = _; rw [hN]; simp [Value.oneCell']
          clear hN hNz
          have HTH : Hid (u4.there (w.heap.size + 1) 0 N15.size) := bx_there kR4 fR4 (by rw [HNZ15.out]; rfl)
          have HKR : Hid (∀ o, (u4.setCells (w.heap.size + 1) 0 N15.toList).cell? ⟨w.heap.size + 1, o, none⟩ = N15[o]?) := bx_setCells kR4 (by rw [HNZ15.out]; rfl)
          clear kR4 fR4
          dsimp only
          refine hKK.out _ _ (Or.inr HQ4.out) ?_
          clear hKK KK
          (try simp only [Act.put, List.setIfInBounds_toArray, List.set_cons_zero, List.set_cons_succ])
          refine Goes.take (i := 9) (oi := ?oi24) (x := ?vx24) ?ho24 (by kernel_rfl) (by kernel_rfl) (by kernel_rfl) (by kernel_rfl) (fun _ _ _ h => h) (Or.inl ⟨?hw24, ?hy24⟩) HQ4.out ?rest24
          case ho24 => (simp only [List.getElem?_toArray, List.getElem?_cons_succ, List.getElem?_cons_zero] <;> rfl)
          case hw24 => rfl
          case hy24 => (intro w' hSw; go_simp; (try with_reducible rfl))
          case rest24 =>
          (try simp only [Act.put, List.setIfInBounds_toArray, List.set_cons_zero, List.set_cons_succ])
          refine Goes.all (rs := [10]) (by kernel_rfl) (by simp) ?_
          refine Ups.cons (i := 10) (o := ?oo25) ?ho25 (fun KK hKK => ?stp25) Ups.nil
          case ho25 => (simp only [List.getElem?_toArray, List.getElem?_cons_succ, List.getElem?_cons_zero] <;> rfl)
          case stp25 =>
          rw [if_pos (by rfl)]
          refine wp_store_mid 34 _ _ rfl _ _ N15 (by rfl) (by rw [HN15.out]; rfl) HTH.out HIN15.out HONE15.out ?_
          refine hKK.out _ _ (Or.inl rfl) ?_
          clear hKK KK
          (try simp only [Act.put])
          refine Goes.done (by kernel_rfl) ?_ _
          refine NoPanic.normal ?_
          go_wp2_with fail
          refine bodyPost_ret (results_box Try.results30 _ _ _ N15 _ (by rfl) HKR.out Try.underlying34 rfl (by exact HIN15.out)) rfl ⟨N15, rfl, ?_, ?_⟩
          · rw [setCells_size, HN15.out, HV2.out]
            exact (Own.keep HO.out (fun b h1 h2 => setCells_block (by omega) _ _ _)).mono (by omega) (Nat.le_refl _)
          · exact setCells_below (by omega) _ _ _ _ (HB.out.trans (HQ4.out.mono HB.out.size))
        case stpB =>
          go_simp
          have ks : ∀ o, (wr.alloc (.cells #[.slice a nb cap, .slice la k lcap] 30)).drew.cell? ⟨wr.heap.size, o, none⟩ = (#[.slice a nb cap, .slice la k lcap] : Array Value)[o]? := bx_al wr _ _
          have zs : wr.heap.size < (wr.alloc (.cells #[.slice a nb cap, .slice la k lcap] 30)).drew.heap.size := by show _ < (wr.alloc _).heap.size; simp
          have HQ0 : Hid (Below wr.heap.size wr (wr.alloc (.cells #[.slice a nb cap, .slice la k lcap] 30)).drew) := Below.drew ((Below.refl _ _).alloc (Nat.le_refl _) _)
          obtain ⟨s, hs⟩ : ∃ s, s = wr.heap.size := ⟨_, rfl⟩
          generalize hU : (wr.alloc (.cells #[.slice a nb cap, .slice la k lcap] 30)).drew = u0 at ks zs HQ0 ⊢
          rw [← hs] at ks zs ⊢
          clear hU hs
          refine hKK.out _ _ (Or.inr HQ0.out) ?_
          clear hKK KK
          (try simp only [Act.put, List.setIfInBounds_toArray, List.set_cons_zero, List.set_cons_succ])
          refine Goes.all (rs := [2]) (by kernel_rfl) (by simp) ?_
          refine Ups.cons (i := 2) (o := ?oo61) ?ho61 (fun KK hKK => ?stp61) Ups.nil
          case ho61 => (simp only [List.getElem?_toArray, List.getElem?_cons_succ, List.getElem?_cons_zero] <;> rfl)
          case stp61 =>
          go_simp
          go_at_call 48
          refine (HDO.out _ HQ0.out).mono ?_
          rintro e u2 ⟨rfl, hbq⟩
          have HQ2 : Hid (Below wr.heap.size wr u2) := HQ0.out.trans (hbq.mono HQ0.out.size)
          replace ks := bx_below ks zs hbq
          replace zs := Nat.lt_of_lt_of_le zs hbq.size
          clear hbq HDO
          dsimp only
          refine hKK.out _ _ (Or.inr HQ2.out) ?_
          clear hKK KK
          (try simp only [Act.put, List.setIfInBounds_toArray, List.set_cons_zero, List.set_cons_succ])
          refine Goes.all (rs := [7]) (by kernel_rfl) (by simp) ?_
          refine Ups.cons (i := 7) (o := ?oo62) ?ho62 (fun KK hKK => ?stp62) Ups.nil
          case ho62 => (simp only [List.getElem?_toArray, List.getElem?_cons_succ, List.getElem?_cons_zero] <;> rfl)
          case stp62 =>
          go_simp
          go_at_call 54
          refine (HCA.out _ s HQ2.out ks zs).mono ?_
          rintro e u3 ⟨v3, rfl, hv3, hbq⟩
          have HQ3 : Hid (Below wr.heap.size wr u3) := HQ2.out.trans (hbq.mono HQ2.out.size)
          obtain ⟨va, vc, rfl⟩ := HVF.out _ _ hv3
          have HV3 : Hid _ := hv3
          clear hbq hv3 HCA ks zs
          dsimp only
          refine hKK.out _ _ (Or.inr HQ3.out) ?_
          clear hKK KK
          (try simp only [Act.put, List.setIfInBounds_toArray, List.set_cons_zero, List.set_cons_succ])
          refine Goes.all (rs := [8]) (by kernel_rfl) (by simp) ?_
          refine Ups.cons (i := 8) (o := ?oo63) ?ho63 (fun KK hKK => ?stp63) Ups.nil
          case ho63 => (simp only [List.getElem?_toArray, List.getElem?_cons_succ, List.getElem?_cons_zero] <;> rfl)
          case stp63 =>
          go_simp
          go_at_call 49
          refine (HCB.out _ _ HV3.out).mono ?_
          rintro e u4 ⟨N, rfl, hnp, hbq⟩
          have HQ4 : Hid (Below wr.heap.size wr u4) := HQ3.out.trans (hbq.mono HQ3.out.size)
          have hz4 := HQ3.out.size
          have HO : Hid (Own u4 u3.heap.size u4.heap.size (shNR 65) (0, zSg, (putN dead bag l, dead, ()), ()) (.int .i64 0 :: (zSc ++ N.toList))) := own_okN hnp hbq.size
          obtain ⟨m5, a5, a6, c5, c6, e5, -⟩ := hnp
          obtain ⟨np, hnp2⟩ : ∃ np, (putN dead bag l).length = np := ⟨_, rfl⟩
          rw [HD3.out, hnp2] at e5
          subst e5
          clear hnp2
          have kR4 := bx_below kR zR HQ4.out
          have fR4 := bxF fR HQ4.out zR
          clear hbq HCB
          obtain ⟨N15, hN⟩ : ∃ N : Array Value, N = #[.int .i64 0, .int .i64 0, .int .i64 0, .bool false, .bool false, .bool false, .int .i64 0, .int .i64 0, .int .i64 0, .int .i64 0, .int .i64 0, .int .i64 0, .slice none 0 0, .slice a5 np c5, .slice a6 3 c6] := ⟨_, rfl⟩
          have HN15 : Hid _ := hN
          have hNz : N15.size = 15 := by rw [hN]; rfl
          have HNZ15 : Hid (N15.size = 15) := hNz
          have HIN15 : Hid ((Try.prog.info? 34).map (·.size) = some N15.size) := by show _ = _; rw [hNz]; exact info_NR
          have HONE15 : Hid (N15.all (·.oneCell') = true) := by show _ = _; rw [hN]; simp [Value.oneCell']
          clear hN hNz
          have HTH : Hid (u4.there (w.heap.size + 1) 0 N15.size) := bx_there kR4 fR4 (by rw [HNZ15.out]; rfl)
          have HKR : Hid (∀ o, (u4.setCells (w.heap.size + 1) 0 N15.toList).cell? ⟨w.heap.size + 1, o, none⟩ = N15[o]?) := bx_setCells kR4 (by rw [HNZ15.out]; rfl)
          clear kR4 fR4
          dsimp only
          refine hKK.out _ _ (Or.inr HQ4.out) ?_
          clear hKK KK
          (try simp only [Act.put, List.setIfInBounds_toArray, List.set_cons_zero, List.set_cons_succ])
          refine Goes.take (i := 9) (oi := ?oi64) (x := ?vx64) ?ho64 (by kernel_rfl) (by kernel_rfl) (by kernel_rfl) (by kernel_rfl) (fun _ _ _ h => h) (Or.inl ⟨?hw64, ?hy64⟩) HQ4.out ?rest64
          case ho64 => (simp only [List.getElem?_toArray, List.getElem?_cons_succ, List.getElem?_cons_zero] <;> rfl)
          case hw64 => rfl
          case hy64 => (intro w' hSw; go_simp; (try with_reducible rfl))
          case rest64 =>
          (try simp only [Act.put, List.setIfInBounds_toArray, List.set_cons_zero, List.set_cons_succ])
          refine Goes.all (rs := [10]) (by kernel_rfl) (by simp) ?_
          refine Ups.cons (i := 10) (o := ?oo65) ?ho65 (fun KK hKK => ?stp65) Ups.nil
          case ho65 => (simp only [List.getElem?_toArray, List.getElem?_cons_succ, List.getElem?_cons_zero] <;> rfl)
          case stp65 =>
          rw [if_pos (by rfl)]
          refine wp_store_mid 34 _ _ rfl _ _ N15 (by rfl) (by rw [HN15.out]; rfl) HTH.out HIN15.out HONE15.out ?_
          refine hKK.out _ _ (Or.inl rfl) ?_
          clear hKK KK
          (try simp only [Act.put])
          refine Goes.done (by kernel_rfl) ?_ _
          refine NoPanic.normal ?_
          go_wp2_with fail
          refine bodyPost_ret (results_box Try.results30 _ _ _ N15 _ (by rfl) HKR.out Try.underlying34 rfl (by exact HIN15.out)) rfl ⟨N15, rfl, ?_, ?_⟩
          · rw [setCells_size, HN15.out, HV2.out]
            exact (Own.keep HO.out (fun b h1 h2 => setCells_block (by omega) _ _ _)).mono (by omega) (Nat.le_refl _)
          · exact setCells_below (by omega) _ _ _ _ (HB.out.trans (HQ4.out.mono HB.out.size))
  · rw [if_pos hF] at hv
    have h1 : (netF bag dead != 0) = true := by simp [hF]
    have h2 : (netF bag dead == 0) = false := by simp [hF]
    clear HNF
    generalize netF bag dead = q at *
    obtain ⟨N15, hN⟩ : ∃ N : Array Value, N = #[.int .i64 q, .int .i64 0, .int .i64 0, .bool false, .bool false, .bool false, .int .i64 0, .int .i64 0, .int .i64 0, .int .i64 0, .int .i64 0, .int .i64 0, .slice none 0 0, .slice none 0 0, .slice none 0 0] := ⟨_, rfl⟩
    have HN15 : Hid _ := hN
    have hNz : N15.size = 15 := by rw [hN]; rfl
    have HNZ15 : Hid (N15.size = 15) := hNz
    have HIN15 : Hid ((Try.prog.info? 34).map (·.size) = some N15.size) := by show _ = _; rw [hNz]; exact info_NR
    have HONE15 : Hid (N15.all (·.oneCell') = true) := by show _ = _; rw [hN]; simp [Value.oneCell']
    clear hN hNz
    have HTH : Hid (w2.there (w.heap.size + 1) 0 N15.size) := bx_there kR fR (by rw [HNZ15.out]; rfl)
    have HKR : Hid (∀ o, (w2.setCells (w.heap.size + 1) 0 N15.toList).cell? ⟨w.heap.size + 1, o, none⟩ = N15[o]?) := bx_setCells kR (by rw [HNZ15.out]; rfl)
    go_wp2_with (first | (refine wpList_store_mid rfl 34 _ _ rfl _ _ N15 (by rfl) (by rw [HN15.out]; rfl) HTH.out HIN15.out HONE15.out ?_))
    refine bodyPost_ret (results_box Try.results30 _ _ _ N15 _ (by rfl) HKR.out Try.underlying34 rfl (by exact HIN15.out)) rfl ⟨N15, rfl, ?_, ?_⟩
    · rw [setCells_size, HN15.out]
      exact (Own.keep (by rw [hv]; exact own_badN _ w2 (w.heap.size + 2) w2.heap.size HWF.out (by omega)) (fun b h1 h2 => setCells_block (by omega) _ _ _)).mono (by omega) (Nat.le_refl _)
    · exact setCells_below (by omega) _ _ _ _ HB.out
end Go.Proofs.Ytlfncadngcjdjab
