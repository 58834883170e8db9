/- The model's TakeNet; nothing that was in memory turns; the condition is that there are at most a million parts. Written by mknet18.py. -/
import Derived.Test.YtlfncadngcjdjaaRows
import Derived.Test.YtlfncadngcjdjaaBase
import Derived.Test.YtlfncadngcjdjaaBytes
import Derived.Test.YtlfncadngcjdjaaMem
import Derived.Test.YtlfncadngcjdjaaMemOpen
import Derived.Test.YtlfncadngcjdjaaMemRow
import Derived.Test.YtlfncadngcjdjaaHBase
import Derived.Test.YtlfncadngcjdjaaHMark
import Derived.Test.YtlfncadngcjdjaaBox
import Derived.Test.YtlfncadngcjdjaaSubBox
import Derived.Test.YtlfncadngcjdjaaAgg
import Derived.Test.YtlfncadngcjdjaaElMark
import Derived.Test.YtlfncadngcjdjaaMSegs
import Derived.Test.YtlfncadngcjdjaaRegionU
import Derived.Test.YtlfncadngcjdjaaHSegs
import Derived.Test.YtlfncadngcjdjaaAppBytes
import Derived.Test.YtlfncadngcjdjaaApp
import Derived.Test.YtlfncadngcjdjaaMemApp
import Derived.Test.YtlfncadngcjdjaaSeg
import Derived.Test.YtlfncadngcjdjaaSegFS
import Derived.Test.YtlfncadngcjdjaaSegFI
import Derived.Test.YtlfncadngcjdjaaStrip
import Derived.Test.YtlfncadngcjdjaaRegS
import Derived.Test.YtlfncadngcjdjaaHBool
import Derived.Test.YtlfncadngcjdjaaHSegT
import Derived.Test.YtlfncadngcjdjaaNetSeg
import Derived.Test.YtlfncadngcjdjaaNetDef
import Derived.Test.YtlfncadngcjdjaaNetSpF
import Derived.Test.YtlfncadngcjdjaaNetImF
import Derived.Test.YtlfncadngcjdjaaHNet
import Derived.Test.YtlfncadngcjdjaaSegR
import Derived.Test.YtlfncadngcjdjaaNetBx
import Derived.Test.YtlfncadngcjdjaaNetR
import Derived.Test.YtlfncadngcjdjaaNetImC
import Derived.Test.YtlfncadngcjdjaaNetSpC
import Derived.Test.YtlfncadngcjdjaaRegionQ
import Derived.Test.YtlfncadngcjdjaaNetAsk
import Derived.Test.YtlfncadngcjdjaaNetDef2
import Derived.Test.YtlfncadngcjdjaaNetTy
import Derived.Test.YtlfncadngcjdjaaNetRow
import Derived.Test.YtlfncadngcjdjaaNetCat
import Derived.Test.YtlfncadngcjdjaaNetDel
import Derived.Test.YtlfncadngcjdjaaNetTake
import Derived.Test.YtlfncadngcjdjaaNetTakeS
import Derived.Deep.RegionHeld3
import Derived.Deep.DeepCutAuto
import Derived.Deep.DeepMust
import Derived.Deep.MidRow
namespace Go.Proofs.Ytlfncadngcjdjaa
open Go.RowKit
set_option linter.unusedVariables false
set_option maxRecDepth 8000
set_option maxHeartbeats 8000000 in
theorem sTakeNetA (x0 : DNet) (A : Array Value) (x1 : Int) (w : World) (B : Nat) (hr : shNet.Rd w B x0 A.toList) (hT : totNet x0 ≤ 1048576) (hB : B ≤ w.heap.size) :
    Calls Try.prog 36 #[.agg A, .int .i64 x1] w fun e w' => ∃ N : Array Value, e = .returned (.agg N) ∧ Own w' w.heap.size w'.heap.size (shNR 4) (takV x0 x1) N.toList ∧ Below w.heap.size w w' := by
  obtain ⟨bag, dead, ⟨⟩⟩ := x0
  obtain ⟨a, cap, da, dcap, eA, rb, rdd⟩ := rd_Net hr
  have a0 : A[0]? = some (.slice a bag.length cap) := get_of eA 0
  have a1 : A[1]? = some (.slice da dead.length dcap) := get_of eA 1
  have HRb : Hid (∀ W, Below w.heap.size w W → shSegms.Rd W B bag [.slice a bag.length cap]) := fun W hW => Sh.Rd.below rb hB hW
  have HRd : Hid (∀ W, Below w.heap.size w W → (bls 4).Rd W B dead [.slice da dead.length dcap]) := fun W hW => Sh.Rd.below rdd hB hW
  have eA2 := arr_of eA
  have HA2 : Hid (A = #[.slice a bag.length cap, .slice da dead.length dcap]) := eA2
  have HIA : Hid ((Try.prog.info? 27).map (·.size) = some A.toList.length) := by show _ = _; rw [eA]; exact info_NT
  have ht : totSegms bag + dead.length ≤ 1048576 := hT
  have HAK : Hid (∀ W (p : Nat), Below w.heap.size w W → (∀ o, W.cell? ⟨p, o, none⟩ = A[o]?) → p < W.heap.size → Calls Try.prog 66 #[.pointer (some ⟨p, 0, none⟩), .int .i64 x1] W fun e w' => e = .returned (.int .i64 (askF bag dead x1)) ∧ Below W.heap.size W w') := fun W p hW k hp => sL12Asked _ bag dead x1 p _ _ W B (by rw [HA2.out] at k; exact k) hp (HRb.out W hW) (HRd.out W hW) (Nat.le_trans hB hW.size)
  obtain ⟨V, hV⟩ : ∃ V, V = takV (bag, dead, ()) x1 := ⟨_, rfl⟩
  rw [← hV]
  have HV : Hid (V = if askF bag dead x1 ≠ 0 then badN (askF bag dead x1) else (0, bag.getD x1.toNat zSg, (bag.eraseIdx x1.toNat, dead, ()), ())) := hV
  have HWF : Hid _ := askF_wf bag dead x1
  have hmx : bag.length ≤ 1048576 := by unfold totSegms at ht; omega
  have HRA : Hid (∀ W, Below w.heap.size w W → shNet.Rd W B (bag, dead, ()) A.toList) := fun W hW => Sh.Rd.below hr hB hW
  clear hV eA eA2 rb rdd hr hT
  have HWA : Hid (Below w.heap.size w ((w.alloc (.cells A 27)).alloc (.cells #[.int .i64 0, .int .i64 0, .int .i64 0, .bool false, .bool false, .bool false, .int .i64 0, .int .i64 0, .int .i64 0, .int .i64 0, .int .i64 0, .int .i64 0, .slice none 0 0, .slice none 0 0, .slice none 0 0] 33)) ∧ ((w.alloc (.cells A 27)).alloc (.cells #[.int .i64 0, .int .i64 0, .int .i64 0, .bool false, .bool false, .bool false, .int .i64 0, .int .i64 0, .int .i64 0, .int .i64 0, .int .i64 0, .int .i64 0, .slice none 0 0, .slice none 0 0, .slice none 0 0] 33)).heap.size = w.heap.size + 2 ∧ (∀ o, ((w.alloc (.cells A 27)).alloc (.cells #[.int .i64 0, .int .i64 0, .int .i64 0, .bool false, .bool false, .bool false, .int .i64 0, .int .i64 0, .int .i64 0, .int .i64 0, .int .i64 0, .int .i64 0, .slice none 0 0, .slice none 0 0, .slice none 0 0] 33)).cell? ⟨w.heap.size, o, none⟩ = (A : Array Value)[o]?) ∧ (∀ o, ((w.alloc (.cells A 27)).alloc (.cells #[.int .i64 0, .int .i64 0, .int .i64 0, .bool false, .bool false, .bool false, .int .i64 0, .int .i64 0, .int .i64 0, .int .i64 0, .int .i64 0, .int .i64 0, .slice none 0 0, .slice none 0 0, .slice none 0 0] 33)).cell? ⟨w.heap.size + 1, o, none⟩ = (#[.int .i64 0, .int .i64 0, .int .i64 0, .bool false, .bool false, .bool false, .int .i64 0, .int .i64 0, .int .i64 0, .int .i64 0, .int .i64 0, .int .i64 0, .slice none 0 0, .slice none 0 0, .slice none 0 0] : Array Value)[o]?) ∧ (∀ o, ((w.alloc (.cells A 27)).alloc (.cells #[.int .i64 0, .int .i64 0, .int .i64 0, .bool false, .bool false, .bool false, .int .i64 0, .int .i64 0, .int .i64 0, .int .i64 0, .int .i64 0, .int .i64 0, .slice none 0 0, .slice none 0 0, .slice none 0 0] 33)).frozen? ⟨w.heap.size + 1, o, none⟩ = false)) := ⟨(((Below.refl _ _).alloc (Nat.le_refl _) _).alloc (by simp) _), by simp, fun o => by simp [go_sem], fun o => by simp [go_sem], fun o => by simp [go_sem]⟩
  go_enter Try.func36, Try.ntmps36
  go_upto_region 1 with fail
  generalize hWW : ((w.alloc (.cells A 27)).alloc (.cells #[.int .i64 0, .int .i64 0, .int .i64 0, .bool false, .bool false, .bool false, .int .i64 0, .int .i64 0, .int .i64 0, .int .i64 0, .int .i64 0, .int .i64 0, .slice none 0 0, .slice none 0 0, .slice none 0 0] 33)) = W1 at HWA ⊢
  clear hWW
  obtain ⟨hb, hsz, kA, kR, fR⟩ := HWA.out
  clear HWA
  have HB : Hid (Below w.heap.size w W1) := hb
  have zA : w.heap.size < W1.heap.size := by omega
  have zR : w.heap.size + 1 < W1.heap.size := by omega
  clear hb hsz
  go_wp2_with fail
  refine (HAK.out _ _ HB.out kA zA).mono ?_
  rintro e w2 ⟨rfl, hb⟩
  replace kA := bx_below kA zA hb
  replace zA := Nat.lt_of_lt_of_le zA hb.size
  replace kR := bx_below kR zR hb
  replace fR := bxF fR hb zR
  replace zR := Nat.lt_of_lt_of_le zR hb.size
  replace HB : Hid (Below w.heap.size w w2) := HB.out.trans (hb.mono HB.out.size)
  clear hb
  have hv := HV.out
  clear HV
  by_cases hF : askF bag dead x1 = 0
  · rw [if_neg (by simp [hF])] at hv
    obtain ⟨hN0, hx0, hxn⟩ := askF_ok hF
    obtain ⟨h60, h3, hok⟩ := netF_ok hN0
    have HOK : Hid (∀ x ∈ bag, totSegm x ≤ 8 ∧ sgF x = 0) := fun x hx => by have := sgF_ok (hok x hx).1; exact ⟨by omega, (hok x hx).1⟩
    rw [hF]
    obtain ⟨k, hk⟩ : ∃ k : Nat, x1 = k := ⟨x1.toNat, by omega⟩
    have hkn : k < bag.length := by omega
    have HD3 : Hid (dead.length = 3) := h3
    have HCP : Hid (∀ W, Below w.heap.size w W → Calls Try.prog 49 #[.agg A] W fun e w' => ∃ N : Array Value, e = .returned (.agg N) ∧ NetP 4 w' W.heap.size bag dead N ∧ Below W.heap.size W w') := fun W hW => by rw [HA2.out]; exact sL12Copy _ bag dead _ _ W B (HRb.out W hW) (HRd.out W hW) (Nat.le_trans hB hW.size) h3 (by omega) (fun x hx => by have := (HOK.out x hx).1; omega)
    have HN00 : Hid (netF bag dead = 0) := hN0
    clear hok HAK hF hN0
    have e1 : x1.toNat = k := by omega
    rw [e1] at hv
    obtain ⟨m1, hnb⟩ : ∃ m1, bag.length = m1 + 1 := ⟨bag.length - 1, by omega⟩
    have HNB : Hid (bag.length = m1 + 1) := hnb
    clear HRb HRd HA2 HRA HN00 HOK e1
    rw [hnb] at a0 h60 hmx hkn
    rw [HD3.out] at a1
    subst hk
    go_wp2_with (refine wpList_load_mid rfl 27 _ rfl _ _ (by rfl) A.toList _ (bx_range kA) Try.underlying27 rfl HIA.out ?_)
    refine (HCP.out _ HB.out).mono ?_
    rintro e u1 ⟨N, rfl, hnp, hb⟩
    have hz1 := hb.size
    obtain ⟨m, va, da', vc, dc, eN, xd, xo, lm, lh⟩ := hnp
    rw [HD3.out] at eN xd
    rw [hnb] at eN xo
    subst eN
    obtain ⟨w0, ew0⟩ : ∃ x, x = w2.heap.size := ⟨_, rfl⟩
    have hwz0 : w.heap.size + 2 ≤ w0 := by omega
    have hm1 : w0 ≤ m := by omega
    obtain ⟨hh, ehh⟩ : ∃ x, x = u1.heap.size := ⟨_, rfl⟩
    have XD : Hid (Own u1 w0 m (bls 4) dead [.slice da' 3 dc]) := by rw [ew0]; exact xd
    have xo2 : Own u1 m hh shSegms bag [.slice va (m1 + 1) vc] := by rw [ehh]; exact xo
    have lh2 : m ≤ hh := by rw [ehh]; exact lh
    have lh3 : hh ≤ u1.heap.size := by omega
    clear xd xo ew0 HCP lm lh hnb
    obtain ⟨T, hTb, hRT⟩ := Own.rowT xo2
    have hTl : T.length = m1 + 1 := by rw [← HNB.out, ← hTb]; simp
    obtain ⟨g, hg, hg1, hg2⟩ := hRT.some' (by omega)
    subst hg
    have hkT : k < T.length := by omega
    have hgd : bag.getD k zSg = T[k].1 := by rw [← hTb, List.getD_eq_getElem?_getD, List.getElem?_eq_getElem (by simpa using hkT)]; simp
    have HV2 : Hid (V = (0, T[k].1, ((T.eraseIdx k).map (·.1), dead, ()), ())) := by show _ = _; rw [hv, hgd, map_erase, hTb]
    have hlen := (hRT.lens hkT).2.2
    have HELR : Hid (∀ b ∈ T[k].2.1, m ≤ b ∧ b < hh) := fun b hb => by have := hRT.rg b (List.mem_flatten.2 ⟨T[k].2.1, List.mem_map.2 ⟨_, List.getElem_mem hkT, rfl⟩, hb⟩); exact ⟨this.1, this.2.1⟩
    have HALR : Hid (∀ b ∈ ((T.eraseIdx k).map (·.2.1)).flatten, m ≤ b ∧ b < hh) := fun b hb => by have := hRT.rg b ((flat_sub ((List.eraseIdx_sublist T k).map _)).subset hb); exact ⟨this.1, this.2.1⟩
    have hone := ow_one (hRT.el _ (List.getElem_mem hkT))
    have HND : Hid _ := hRT.nd
    have HRT : Hid (RowT u1 m hh (.slice (some ⟨g, 0, none⟩) (m1 + 1) vc) T) := hRT
    obtain ⟨e0, e1, e2, e3, e4, e5, e6, e7, e8, e9, e10, e11, hce⟩ := lst12 hlen
    have HCS : Hid (T[k].2.2 = [e0, e1, e2, e3, e4, e5, e6, e7, e8, e9, e10, e11]) := hce
    obtain ⟨cA, hcA⟩ : ∃ c : Array Value, c = T[k].2.2.toArray := ⟨_, rfl⟩
    have HCA : Hid (cA = T[k].2.2.toArray) := hcA
    have HCL : Hid (cA.toList = [e0, e1, e2, e3, e4, e5, e6, e7, e8, e9, e10, e11]) := by show _ = _; rw [hcA, hce]
    have HLX : Hid (cA.size = 12) := by show _ = _; rw [hcA, List.size_toArray]; exact hlen
    have HIX2 : Hid ((Try.prog.info? 31).map (·.size) = some cA.size) := by show _ = _; rw [HLX.out]; exact info_SG12
    have HONX : Hid (cA.all (·.oneCell') = true) := by show _ = _; rw [hcA]; exact all_oneCell_toArray hone
    clear hTb hRT hgd hlen hone hce xo2 hv hcA
    obtain ⟨PA, hPA⟩ : ∃ N : Array Value, N = #[.int .i64 0, .int .i64 0, .int .i64 0, .bool false, .bool false, .bool false, .int .i64 0, .int .i64 0, .int .i64 0, .int .i64 0, .int .i64 0, .int .i64 0, .slice none 0 0, .slice (some ⟨g, 0, none⟩) (m1 + 1) vc, .slice da' 3 dc] := ⟨_, rfl⟩
    have HPA : Hid _ := hPA
    have HPZ : Hid (PA.size = 15) := by show _ = _; rw [hPA]; rfl
    have hP13 : PA[13]? = some (.slice (some ⟨g, 0, none⟩) (m1 + 1) vc) := by rw [hPA]; rfl
    have HP13 : Hid _ := hP13
    have HPI : Hid ((Try.prog.info? 33).map (·.size) = some PA.size) := by show _ = _; rw [HPZ.out]; exact info_NR
    have HPO : Hid (PA.all (·.oneCell') = true) := by show _ = _; rw [hPA]; simp [Value.oneCell']
    clear hPA hP13
    have hhu : hh ≤ u1.heap.size := lh3
    replace kA := bx_below kA zA hb
    replace zA := Nat.lt_of_lt_of_le zA hb.size
    replace kR := bx_below kR zR hb
    replace fR := bxF fR hb zR
    replace zR := Nat.lt_of_lt_of_le zR hb.size
    replace HB : Hid (Below w.heap.size w u1) := HB.out.trans (hb.mono HB.out.size)
    clear hb
    clear ehh
    have lXD : m ≤ u1.heap.size := by omega
    have HTH : Hid ((u1.alloc (.cells #[.int .i64 0, .int .i64 0, .int .i64 0, .bool false, .bool false, .bool false, .int .i64 0, .int .i64 0, .int .i64 0, .int .i64 0, .int .i64 0, .int .i64 0, .slice none 0 0, .slice none 0 0, .slice none 0 0] 33)).there u1.heap.size 0 PA.size) := bx_there (bx_al _ _ _) (fx_al _ _ _) (by rw [HPZ.out]; rfl)
    have HWN : Hid (Below u1.heap.size u1 ((u1.alloc (.cells #[.int .i64 0, .int .i64 0, .int .i64 0, .bool false, .bool false, .bool false, .int .i64 0, .int .i64 0, .int .i64 0, .int .i64 0, .int .i64 0, .int .i64 0, .slice none 0 0, .slice none 0 0, .slice none 0 0] 33)).setCells u1.heap.size 0 PA.toList) ∧ u1.heap.size < ((u1.alloc (.cells #[.int .i64 0, .int .i64 0, .int .i64 0, .bool false, .bool false, .bool false, .int .i64 0, .int .i64 0, .int .i64 0, .int .i64 0, .int .i64 0, .int .i64 0, .slice none 0 0, .slice none 0 0, .slice none 0 0] 33)).setCells u1.heap.size 0 PA.toList).heap.size ∧ (∀ o, ((u1.alloc (.cells #[.int .i64 0, .int .i64 0, .int .i64 0, .bool false, .bool false, .bool false, .int .i64 0, .int .i64 0, .int .i64 0, .int .i64 0, .int .i64 0, .int .i64 0, .slice none 0 0, .slice none 0 0, .slice none 0 0] 33)).setCells u1.heap.size 0 PA.toList).cell? ⟨u1.heap.size, o, none⟩ = PA[o]?) ∧ (∀ o, ((u1.alloc (.cells #[.int .i64 0, .int .i64 0, .int .i64 0, .bool false, .bool false, .bool false, .int .i64 0, .int .i64 0, .int .i64 0, .int .i64 0, .int .i64 0, .int .i64 0, .slice none 0 0, .slice none 0 0, .slice none 0 0] 33)).setCells u1.heap.size 0 PA.toList).frozen? ⟨u1.heap.size, o, none⟩ = false)) := ⟨setCells_below (Nat.le_refl _) _ _ _ _ ((Below.refl _ _).alloc (Nat.le_refl _) _), by rw [setCells_size]; simp, bx_setCells (bx_al u1 _ _) (by rw [HPZ.out]; rfl), fx_sets (fx_al _ _ _)⟩
    go_upto_region 5 with (first | (refine wpList_store_mid rfl 33 _ _ rfl _ _ PA (by rfl) (by rw [HPA.out]; rfl) HTH.out HPI.out HPO.out ?_))
    generalize hWW : ((u1.alloc (.cells #[.int .i64 0, .int .i64 0, .int .i64 0, .bool false, .bool false, .bool false, .int .i64 0, .int .i64 0, .int .i64 0, .int .i64 0, .int .i64 0, .int .i64 0, .slice none 0 0, .slice none 0 0, .slice none 0 0] 33)).setCells u1.heap.size 0 PA.toList) = u2 at HWN ⊢
    clear hWW HTH
    obtain ⟨hb, zP, kP, fP⟩ := HWN.out
    clear HWN
    obtain ⟨bP, hq⟩ : ∃ q, q = u1.heap.size := ⟨_, rfl⟩
    have hhP : hh ≤ bP := by omega
    rw [← hq] at zP kP fP ⊢
    have lAP : w.heap.size < bP := by rw [hq]; exact zA
    have lRP : w.heap.size + 1 < bP := by rw [hq]; exact zR
    have lXDP : m ≤ bP := by omega
    have lwP : w.heap.size ≤ bP := by rw [hq]; exact HB.out.size
    clear hq
    replace kA := bx_below kA zA hb
    replace zA := Nat.lt_of_lt_of_le zA hb.size
    replace kR := bx_below kR zR hb
    replace fR := bxF fR hb zR
    replace zR := Nat.lt_of_lt_of_le zR hb.size
    replace XD : Hid (Own u2 w0 m (bls 4) dead [.slice da' 3 dc]) := Own.below XD.out (by omega) hb
    replace lXD : m ≤ u2.heap.size := Nat.le_trans lXD hb.size
    replace HRT : Hid (RowT u2 m hh (.slice (some ⟨g, 0, none⟩) (m1 + 1) vc) T) := RowT.below HRT.out hb hhu
    replace HB : Hid (Below w.heap.size w u2) := HB.out.trans (hb.mono HB.out.size)
    clear hb
    go_wp2_with fail
    refine (sL12Take HRT.out hTl (by omega) (by omega) kP fP zP HPZ.out HP13.out hhP).mono ?_
    rintro e u3 ⟨g', vc', rfl, kP3, fP3, hRT3, hgg, hz3, hbk, hbl⟩
    rw [← HCA.out]
    have hgP : bP < g' := by omega
    rw [HPA.out] at kP3
    simp only [List.setIfInBounds_toArray, List.set_cons_zero, List.set_cons_succ] at kP3
    have el3 : Hid (shSegm.Ow u3 T[k].2.1 T[k].1 T[k].2.2) := Sh.Ow.keep _ _ _ _ (fun b hb => hbk b (by have := (HELR.out b hb).2; omega) (by have := (HELR.out b hb).2; omega)) (HRT.out.el _ (List.getElem_mem hkT))
    replace XD : Hid (Own u3 w0 m (bls 4) dead [.slice da' 3 dc]) := Own.below XD.out (Nat.le_refl _) hbl
    replace kR : ∀ o, u3.cell? ⟨w.heap.size + 1, o, none⟩ = (#[.int .i64 0, .int .i64 0, .int .i64 0, .bool false, .bool false, .bool false, .int .i64 0, .int .i64 0, .int .i64 0, .int .i64 0, .int .i64 0, .int .i64 0, .slice none 0 0, .slice none 0 0, .slice none 0 0] : Array Value)[o]? := bx_keep kR (hbk (w.heap.size + 1) zR (by omega))
    replace fR := fx_blk fR (hbk (w.heap.size + 1) zR (by omega))
    have HRT3 : Hid _ := hRT3
    replace HB : Hid (Below w.heap.size w u3) := HB.out.trans (hbl.mono (by omega))
    have zz2 : bP < u3.heap.size := by omega
    have HTH1 : Hid (u3.there bP 1 cA.size) := fun j hj => by
      rw [HLX.out] at hj
      refine ⟨?_, fP3 _⟩
      rw [kP3, Array.getElem?_eq_getElem (by simp; omega)]; rfl
    clear hRT3 hbk hbl HRT kA zA
    have hk4 : ∀ o, (u3.setCells bP 1 cA.toList).cell? ⟨bP, o, none⟩ = (#[.int .i64 0, e0, e1, e2, e3, e4, e5, e6, e7, e8, e9, e10, e11, .slice (some ⟨g', 0, none⟩) m1 vc', .slice da' 3 dc] : Array Value)[o]? := by
      rw [HCL.out]
      have h := (bx_put (bx_put (bx_put (bx_put (bx_put (bx_put (bx_put (bx_put (bx_put (bx_put (bx_put (bx_put kP3 (k := 1) (v := e0) (by simp)) (k := 2) (v := e1) (by simp)) (k := 3) (v := e2) (by simp)) (k := 4) (v := e3) (by simp)) (k := 5) (v := e4) (by simp)) (k := 6) (v := e5) (by simp)) (k := 7) (v := e6) (by simp)) (k := 8) (v := e7) (by simp)) (k := 9) (v := e8) (by simp)) (k := 10) (v := e9) (by simp)) (k := 11) (v := e10) (by simp)) (k := 12) (v := e11) (by simp))
      simp only [List.setIfInBounds_toArray, List.set_cons_zero, List.set_cons_succ] at h
      exact h
    have HR4 : Hid (RowT (u3.setCells bP 1 cA.toList) m (u3.setCells bP 1 cA.toList).heap.size (.slice (some ⟨g', 0, none⟩) m1 vc') (T.eraseIdx k)) := by show RowT _ _ _ _ _; rw [setCells_size]; exact RowT.offb HRT3.out (by intro e; simp only [Value.ownBlock, Option.some.injEq] at e; omega) (fun b hb => by have := (HALR.out b hb).2; omega) (fun b h => setCells_block h _ _ _)
    have el4 : Hid (shSegm.Ow (u3.setCells bP 1 cA.toList) T[k].2.1 T[k].1 T[k].2.2) := Sh.Ow.keep _ _ _ _ (fun b hb => setCells_block (by have := (HELR.out b hb).2; omega) _ _ _) el3.out
    replace XD : Hid (Own (u3.setCells bP 1 cA.toList) w0 m (bls 4) dead [.slice da' 3 dc]) := Own.keep XD.out (fun b h1 h2 => setCells_block (by omega) _ _ _)
    replace kR : ∀ o, (u3.setCells bP 1 cA.toList).cell? ⟨w.heap.size + 1, o, none⟩ = (#[.int .i64 0, .int .i64 0, .int .i64 0, .bool false, .bool false, .bool false, .int .i64 0, .int .i64 0, .int .i64 0, .int .i64 0, .int .i64 0, .int .i64 0, .slice none 0 0, .slice none 0 0, .slice none 0 0] : Array Value)[o]? := bx_setOff kR (by omega)
    replace fR : ∀ o, (u3.setCells bP 1 cA.toList).frozen? ⟨w.heap.size + 1, o, none⟩ = false := fx_sets fR
    have HB4 : Hid (Below w.heap.size w (u3.setCells bP 1 cA.toList)) := setCells_below (by omega) _ _ _ _ HB.out
    have hz4 : u3.heap.size = (u3.setCells bP 1 cA.toList).heap.size := (setCells_size _ _ _).symm
    have hcA12 := HLX.out
    go_upto_region 6 with (refine wpList_store_mid rfl 31 _ _ rfl _ _ cA (by rfl) (by rfl) HTH1.out HIX2.out HONX.out ?_)
    generalize hWW : u3.setCells bP 1 cA.toList = u4 at hk4 HR4 el4 XD kR fR HB4 hz4 ⊢
    clear hWW HRT3 el3 kP3 fP3 HTH1 HB kP fP zP hcA12
    have HB := HB4
    clear HB4
    have HO : Hid (Own u4 w0 u4.heap.size (shNR 4) (0, T[k].1, ((T.eraseIdx k).map (·.1), dead, ()), ()) (.int .i64 0 :: ([e0, e1, e2, e3, e4, e5, e6, e7, e8, e9, e10, e11] ++ [.slice (some ⟨g', 0, none⟩) m1 vc', .slice da' 3 dc]))) := by have h := own_take hkT HR4.out el4.out HND.out (fun b hb => by have := HELR.out b hb; omega) XD.out hm1 (by omega); rw [HCS.out] at h; exact h
    clear HR4 el4 XD HND HELR HCS HALR
    obtain ⟨N15, hN⟩ : ∃ N : Array Value, N = #[.int .i64 0, e0, e1, e2, e3, e4, e5, e6, e7, e8, e9, e10, e11, .slice (some ⟨g', 0, none⟩) m1 vc', .slice da' 3 dc] := ⟨_, rfl⟩
    have HN15 : Hid _ := hN
    have hNz : N15.size = 15 := by rw [hN]; rfl
    have HNZ15 : Hid (N15.size = 15) := hNz
    have HIN15 : Hid ((Try.prog.info? 33).map (·.size) = some N15.size) := by show _ = _; rw [hNz]; exact info_NR
    have HONE15 : Hid (N15.all (·.oneCell') = true) := rd_all (s := shNR 4) (by rw [hN]; exact HO.out.rd (Nat.le_refl _))
    clear hN hNz
    rw [← HN15.out] at hk4
    have HIN16 : Hid ((Try.prog.info? 33).map (·.size) = some N15.toList.length) := by show _ = _; rw [Array.length_toList]; exact HIN15.out
    have HTH : Hid (u4.there (w.heap.size + 1) 0 N15.size) := bx_there kR fR (by rw [HNZ15.out]; rfl)
    have HKR : Hid (∀ o, (u4.setCells (w.heap.size + 1) 0 N15.toList).cell? ⟨w.heap.size + 1, o, none⟩ = N15[o]?) := bx_setCells kR (by rw [HNZ15.out]; rfl)
    go_wp2_with (first | (refine wpList_load_mid rfl 33 _ rfl _ _ (by rfl) N15.toList _ (bx_range hk4) Try.underlying33 rfl HIN16.out ?_) | (refine wpList_store_mid rfl 33 _ _ rfl _ _ N15 (by rfl) (by rfl) HTH.out HIN15.out HONE15.out ?_))
    refine bodyPost_ret (results_box Try.results36 _ _ _ N15 _ (by rfl) HKR.out Try.underlying33 rfl (by exact HIN15.out)) rfl ⟨N15, rfl, ?_, ?_⟩
    · rw [setCells_size, HN15.out, HV2.out]
      exact (Own.keep HO.out (fun b h1 h2 => setCells_block (by omega) _ _ _)).mono (by omega) (Nat.le_refl _)
    · exact setCells_below (by omega) _ _ _ _ HB.out
  · rw [if_pos hF] at hv
    have h1 : (askF bag dead x1 != 0) = true := by simp [hF]
    have h2 : (askF bag dead x1 == 0) = false := by simp [hF]
    clear HAK
    generalize askF bag dead x1 = q at *
    obtain ⟨N15, hN⟩ : ∃ N : Array Value, N = #[.int .i64 q, .int .i64 0, .int .i64 0, .bool false, .bool false, .bool false, .int .i64 0, .int .i64 0, .int .i64 0, .int .i64 0, .int .i64 0, .int .i64 0, .slice none 0 0, .slice none 0 0, .slice none 0 0] := ⟨_, rfl⟩
    have HN15 : Hid _ := hN
    have hNz : N15.size = 15 := by rw [hN]; rfl
    have HNZ15 : Hid (N15.size = 15) := hNz
    have HIN15 : Hid ((Try.prog.info? 33).map (·.size) = some N15.size) := by show _ = _; rw [hNz]; exact info_NR
    have HONE15 : Hid (N15.all (·.oneCell') = true) := by show _ = _; rw [hN]; simp [Value.oneCell']
    clear hN hNz
    have HTH : Hid (w2.there (w.heap.size + 1) 0 N15.size) := bx_there kR fR (by rw [HNZ15.out]; rfl)
    have HKR : Hid (∀ o, (w2.setCells (w.heap.size + 1) 0 N15.toList).cell? ⟨w.heap.size + 1, o, none⟩ = N15[o]?) := bx_setCells kR (by rw [HNZ15.out]; rfl)
    go_wp2_with (first | (refine wpList_store_mid rfl 33 _ _ rfl _ _ N15 (by rfl) (by rw [HN15.out]; rfl) HTH.out HIN15.out HONE15.out ?_))
    refine bodyPost_ret (results_box Try.results36 _ _ _ N15 _ (by rfl) HKR.out Try.underlying33 rfl (by exact HIN15.out)) rfl ⟨N15, rfl, ?_, ?_⟩
    · rw [setCells_size, HN15.out]
      exact (Own.keep (by rw [hv]; exact own_badN _ w2 (w.heap.size + 2) w2.heap.size HWF.out (by omega)) (fun b h1 h2 => setCells_block (by omega) _ _ _)).mono (by omega) (Nat.le_refl _)
    · exact setCells_below (by omega) _ _ _ _ HB.out
end Go.Proofs.Ytlfncadngcjdjaa
