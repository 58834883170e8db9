/- AlterNet by program and model; nothing that was in memory turns; the condition is that there are at most a million parts. Written by mknet15.py. -/
import Derived.Test.YtlfncadngcjdjabRows
import Derived.Test.YtlfncadngcjdjabBase
import Derived.Test.YtlfncadngcjdjabBytes
import Derived.Test.YtlfncadngcjdjabMem
import Derived.Test.YtlfncadngcjdjabMemOpen
import Derived.Test.YtlfncadngcjdjabMemRow
import Derived.Test.YtlfncadngcjdjabHBase
import Derived.Test.YtlfncadngcjdjabHMark
import Derived.Test.YtlfncadngcjdjabBox
import Derived.Test.YtlfncadngcjdjabSubBox
import Derived.Test.YtlfncadngcjdjabAgg
import Derived.Test.YtlfncadngcjdjabElMark
import Derived.Test.YtlfncadngcjdjabMSegs
import Derived.Test.YtlfncadngcjdjabRegionU
import Derived.Test.YtlfncadngcjdjabHSegs
import Derived.Test.YtlfncadngcjdjabAppBytes
import Derived.Test.YtlfncadngcjdjabApp
import Derived.Test.YtlfncadngcjdjabMemApp
import Derived.Test.YtlfncadngcjdjabSeg
import Derived.Test.YtlfncadngcjdjabSegFS
import Derived.Test.YtlfncadngcjdjabSegFI
import Derived.Test.YtlfncadngcjdjabStrip
import Derived.Test.YtlfncadngcjdjabRegS
import Derived.Test.YtlfncadngcjdjabHBool
import Derived.Test.YtlfncadngcjdjabHSegT
import Derived.Test.YtlfncadngcjdjabNetSeg
import Derived.Test.YtlfncadngcjdjabNetDef
import Derived.Test.YtlfncadngcjdjabNetSpF
import Derived.Test.YtlfncadngcjdjabNetImF
import Derived.Test.YtlfncadngcjdjabHNet
import Derived.Test.YtlfncadngcjdjabSegR
import Derived.Test.YtlfncadngcjdjabNetBx
import Derived.Test.YtlfncadngcjdjabNetR
import Derived.Test.YtlfncadngcjdjabNetImC
import Derived.Test.YtlfncadngcjdjabNetSpC
import Derived.Test.YtlfncadngcjdjabRegionQ
import Derived.Test.YtlfncadngcjdjabNetAsk
import Derived.Test.YtlfncadngcjdjabNetDef2
import Derived.Test.YtlfncadngcjdjabNetTy
import Derived.Test.YtlfncadngcjdjabNetStrip
import Derived.Test.YtlfncadngcjdjabNetAlt
import Derived.Deep.RegionHeld3
import Derived.Deep.DeepCutAuto
import Derived.Deep.DeepMust
import Derived.Deep.MidRow
namespace Go.Proofs.Ytlfncadngcjdjab
open Go.RowKit
set_option linter.unusedVariables false
set_option maxRecDepth 8000
def altX (x : DSegm) (p : Nat) (m : Int) : DSegm := altSg x p (bits .xor .u8 ((ldOf x).getD p 0) m)
def altV (g : DNet) (x1 x2 x3 : Int) : DNR := if askF g.1 g.2.1 x1 ≠ 0 then badN (askF g.1 g.2.1 x1) else if (inP x2 (ldOf (g.1.getD x1.toNat zSg)).length && inB9 x3 1 255) = false then badN 3 else (0, zSg, (g.1.set x1.toNat (altX (g.1.getD x1.toNat zSg) x2.toNat x3), g.2.1, ()), ())
theorem altV_tot {g : DNet} (x1 x2 x3 : Int) (h : totNet g ≤ 1048576) : totNR (altV g x1 x2 x3) ≤ 1048576 := by
  unfold altV
  split
  · rw [tot_badN]; omega
  · split
    · rw [tot_badN]; omega
    · unfold totNet at h
      have := tot_set g.1 x1.toNat (altX (g.1.getD x1.toNat zSg) x2.toNat x3) (Nat.le_of_eq (tot_alt _ _ _))
      show 0 + (totSegms (g.1.set x1.toNat (altX (g.1.getD x1.toNat zSg) x2.toNat x3)) + g.2.1.length) ≤ _
      omega
set_option maxHeartbeats 8000000 in
theorem iAlterNetA (x0 : DNet) (A : Array Value) (x1 : Int) (x2 : Int) (x3 : Int) (w : World) (B : Nat) (hr : shNet.Rd w B x0 A.toList) (hT : totNet x0 ≤ 1048576) (hB : B ≤ w.heap.size) :
    Calls Try.prog 19 #[.agg A, .int .i64 x1, .int .i64 x2, .int .i64 x3] w fun e w' => ∃ N : Array Value, e = .returned (.agg N) ∧ Own w' w.heap.size w'.heap.size (shNR 65) (altV x0 x1 x2 x3) N.toList ∧ Below w.heap.size w w' := by
  obtain ⟨bag, dead, ⟨⟩⟩ := x0
  obtain ⟨a, cap, da, dcap, eA, rb, rdd⟩ := rd_Net hr
  have a0 : A[0]? = some (.slice a bag.length cap) := get_of eA 0
  have a1 : A[1]? = some (.slice da dead.length dcap) := get_of eA 1
  have HRb : Hid (∀ W, Below w.heap.size w W → shSegms.Rd W B bag [.slice a bag.length cap]) := fun W hW => Sh.Rd.below rb hB hW
  have HRd : Hid (∀ W, Below w.heap.size w W → (bls 4).Rd W B dead [.slice da dead.length dcap]) := fun W hW => Sh.Rd.below rdd hB hW
  have eA2 := arr_of eA
  have HA2 : Hid (A = #[.slice a bag.length cap, .slice da dead.length dcap]) := eA2
  have HIA : Hid ((Try.prog.info? 32).map (·.size) = some A.toList.length) := by show _ = _; rw [eA]; exact info_NT
  have ht : totSegms bag + dead.length ≤ 1048576 := hT
  have HAK : Hid (∀ W, Below w.heap.size w W → Calls Try.prog 29 #[.agg A, .int .i64 x1] W fun e w' => e = .returned (.int .i64 (askF bag dead x1)) ∧ Below W.heap.size W w') := fun W hW => by rw [HA2.out]; exact iPlaceFault _ bag dead x1 _ _ W B (HRb.out W hW) (HRd.out W hW) (Nat.le_trans hB hW.size)
  obtain ⟨V, hV⟩ : ∃ V, V = altV (bag, dead, ()) x1 x2 x3 := ⟨_, rfl⟩
  rw [← hV]
  have HV : Hid (V = if askF bag dead x1 ≠ 0 then badN (askF bag dead x1) else if (inP x2 (ldOf (bag.getD x1.toNat zSg)).length && inB9 x3 1 255) = false then badN 3 else (0, zSg, (bag.set x1.toNat (altX (bag.getD x1.toNat zSg) x2.toNat x3), dead, ()), ())) := hV
  have HWF : Hid _ := askF_wf bag dead x1
  have hmx : bag.length ≤ 1048576 := by unfold totSegms at ht; omega
  have HRA : Hid (∀ W, Below w.heap.size w W → shNet.Rd W B (bag, dead, ()) A.toList) := fun W hW => Sh.Rd.below hr hB hW
  clear hV eA eA2 rb rdd hr hT
  have HWA : Hid (Below w.heap.size w ((w.alloc (.cells A 32)).alloc (.cells #[.int .i64 0, .int .i64 0, .int .i64 0, .bool false, .bool false, .bool false, .int .i64 0, .int .i64 0, .int .i64 0, .int .i64 0, .int .i64 0, .int .i64 0, .slice none 0 0, .slice none 0 0, .slice none 0 0] 34)) ∧ ((w.alloc (.cells A 32)).alloc (.cells #[.int .i64 0, .int .i64 0, .int .i64 0, .bool false, .bool false, .bool false, .int .i64 0, .int .i64 0, .int .i64 0, .int .i64 0, .int .i64 0, .int .i64 0, .slice none 0 0, .slice none 0 0, .slice none 0 0] 34)).heap.size = w.heap.size + 2 ∧ (∀ o, ((w.alloc (.cells A 32)).alloc (.cells #[.int .i64 0, .int .i64 0, .int .i64 0, .bool false, .bool false, .bool false, .int .i64 0, .int .i64 0, .int .i64 0, .int .i64 0, .int .i64 0, .int .i64 0, .slice none 0 0, .slice none 0 0, .slice none 0 0] 34)).cell? ⟨w.heap.size, o, none⟩ = (A : Array Value)[o]?) ∧ (∀ o, ((w.alloc (.cells A 32)).alloc (.cells #[.int .i64 0, .int .i64 0, .int .i64 0, .bool false, .bool false, .bool false, .int .i64 0, .int .i64 0, .int .i64 0, .int .i64 0, .int .i64 0, .int .i64 0, .slice none 0 0, .slice none 0 0, .slice none 0 0] 34)).cell? ⟨w.heap.size + 1, o, none⟩ = (#[.int .i64 0, .int .i64 0, .int .i64 0, .bool false, .bool false, .bool false, .int .i64 0, .int .i64 0, .int .i64 0, .int .i64 0, .int .i64 0, .int .i64 0, .slice none 0 0, .slice none 0 0, .slice none 0 0] : Array Value)[o]?) ∧ (∀ o, ((w.alloc (.cells A 32)).alloc (.cells #[.int .i64 0, .int .i64 0, .int .i64 0, .bool false, .bool false, .bool false, .int .i64 0, .int .i64 0, .int .i64 0, .int .i64 0, .int .i64 0, .int .i64 0, .slice none 0 0, .slice none 0 0, .slice none 0 0] 34)).frozen? ⟨w.heap.size + 1, o, none⟩ = false)) := ⟨(((Below.refl _ _).alloc (Nat.le_refl _) _).alloc (by simp) _), by simp, fun o => by simp [go_sem], fun o => by simp [go_sem], fun o => by simp [go_sem]⟩
  go_enter Try.func19, Try.ntmps19
  go_upto_region 1 with fail
  generalize hWW : ((w.alloc (.cells A 32)).alloc (.cells #[.int .i64 0, .int .i64 0, .int .i64 0, .bool false, .bool false, .bool false, .int .i64 0, .int .i64 0, .int .i64 0, .int .i64 0, .int .i64 0, .int .i64 0, .slice none 0 0, .slice none 0 0, .slice none 0 0] 34)) = W1 at HWA ⊢
  clear hWW
  obtain ⟨hb, hsz, kA, kR, fR⟩ := HWA.out
  clear HWA
  have HB : Hid (Below w.heap.size w W1) := hb
  have zA : w.heap.size < W1.heap.size := by omega
  have zR : w.heap.size + 1 < W1.heap.size := by omega
  clear hb hsz
  go_wp2_with (refine wpList_load_mid rfl 32 _ rfl _ _ (by rfl) A.toList _ (bx_range kA) Try.underlying32 rfl HIA.out ?_)
  refine (HAK.out _ HB.out).mono ?_
  rintro e w2 ⟨rfl, hb⟩
  replace kA := bx_below kA zA hb
  replace zA := Nat.lt_of_lt_of_le zA hb.size
  replace kR := bx_below kR zR hb
  replace fR := bxF fR hb zR
  replace zR := Nat.lt_of_lt_of_le zR hb.size
  replace HB : Hid (Below w.heap.size w w2) := HB.out.trans (hb.mono HB.out.size)
  clear hb
  have hv := HV.out
  clear HV
  by_cases hF : askF bag dead x1 = 0
  · rw [if_neg (by simp [hF])] at hv
    obtain ⟨hN0, hx0, hxn⟩ := askF_ok hF
    obtain ⟨h60, h3, hok⟩ := netF_ok hN0
    have HOK : Hid (∀ x ∈ bag, totSegm x ≤ 8 ∧ sgF x = 0) := fun x hx => by have := sgF_ok (hok x hx).1; exact ⟨by omega, (hok x hx).1⟩
    rw [hF]
    obtain ⟨k, hk⟩ : ∃ k : Nat, x1 = k := ⟨x1.toNat, by omega⟩
    have hkn : k < bag.length := by omega
    have HD3 : Hid (dead.length = 3) := h3
    have HCP : Hid (∀ W, Below w.heap.size w W → Calls Try.prog 40 #[.agg A] W fun e w' => ∃ N : Array Value, e = .returned (.agg N) ∧ NetP 65 w' W.heap.size bag dead N ∧ Below W.heap.size W w') := fun W hW => by rw [HA2.out]; exact iCopyNet _ bag dead _ _ W B (HRb.out W hW) (HRd.out W hW) (Nat.le_trans hB hW.size) hN0
    have HN00 : Hid (netF bag dead = 0) := hN0
    clear hok HAK hF hN0
    have e1 : x1.toNat = k := by omega
    rw [e1] at hv
    obtain ⟨b, off, cs, ha, hb0, hlen, hrg, hrs⟩ := row_at (HRb.out w (Below.refl _ _)) k hkn
    subst ha
    replace hlen : cs.length = 12 := hlen
    replace hrg : w.rangeAt b (off + k * 12) cs := hrg
    have ht8 := (HOK.out bag[k] (List.getElem_mem hkn)).1
    have hgd : bag.getD k zSg = bag[k] := by rw [List.getD_eq_getElem?_getD, List.getElem?_eq_getElem hkn]; rfl
    rw [hgd] at hv
    obtain ⟨la, lc, hc11⟩ := seg_load hrs
    have hbw : b < w.heap.size := by omega
    rw [tot_ld] at ht8
    have HC11 : Hid (∀ W, Below w.heap.size w W → W.cell? ⟨b, off + k * 12 + 11, none⟩ = some (.slice la (ldOf bag[k]).length lc)) := fun W hW => (hW.cell (p := ⟨b, off + k * 12 + 11, none⟩) hbw).trans (hrg 11 _ hc11)
    have HAL : Hid (∀ (W : World) (lo hi n c : Nat) (a : Option Addr) (p : Nat), Own W lo hi shSegms bag [.slice a n c] → p < (ldOf bag[k]).length → ∃ g lb lc y, a = some ⟨g, 0, none⟩ ∧ W.cell? ⟨g, k * 12 + 11, none⟩ = some (.slice (some ⟨lb, 0, none⟩) (ldOf bag[k]).length lc) ∧ W.cell? ⟨lb, p, none⟩ = some (.int .u8 y) ∧ (∀ o, W.frozen? ⟨lb, o, none⟩ = false) ∧ (lo ≤ lb ∧ lb < hi) ∧ (lo ≤ g ∧ g < hi) ∧ Own (W.setCell ⟨lb, p, none⟩ (.int .u8 (bits .xor .u8 y x3))) lo hi shSegms (bag.set k (altX bag[k] p x3)) [.slice a n c]) := fun W lo hi n c a p h hp => by
      obtain ⟨g, lb, lc, q1, q2, q3, q4, q5, q6, q7⟩ := own_alter h hkn hp
      have e : (ldOf bag[k]).getD p 0 = (ldOf bag[k])[p] := by rw [List.getD_eq_getElem?_getD, List.getElem?_eq_getElem hp]; rfl
      refine ⟨g, lb, lc, _, q1, q2, q3, q4, q5, q6, ?_⟩
      have q8 := q7 _ (xor_wf (ldOf bag[k])[p] x3)
      unfold altX
      rw [e]
      exact q8
    clear hrs hlen hrg hc11 HOK hgd e1
    generalize bag[k] = sx at *
    obtain ⟨ln, hln⟩ : ∃ ln, (ldOf sx).length = ln := ⟨_, rfl⟩
    rw [hln] at hv HC11 HAL ht8
    obtain ⟨nb, hnb⟩ : ∃ nb, bag.length = nb := ⟨_, rfl⟩
    have HNB : Hid (bag.length = nb) := hnb
    clear HRb HRd HA2 HRA hln HN00
    rw [hnb] at a0 h60 hmx hkn
    rw [HD3.out] at a1
    subst hk
    have hkc : (k : Int) < (nb : Int) := by omega
    have hk0 : (0 : Int) ≤ (k : Int) := by omega
    have hcb := HC11.out _ HB.out
    have HPL : Hid (∀ W, Calls Try.prog 43 #[.int .i64 x2, .slice la ln lc] W fun e w' => e = .returned (.bool (inP x2 ln)) ∧ w' = W) := fun W => iPlaceB x2 la ln lc (by omega) W
    have HMK : Hid (∀ W, Calls Try.prog 44 #[.int .i64 x3, .int .i64 1, .int .i64 255] W fun e w' => e = .returned (.bool (inB9 x3 1 255)) ∧ w' = W) := fun W => iInB9 x3 1 255 W
    go_wp2_with fail
    refine (HPL.out _).mono ?_
    rintro e w3 ⟨rfl, hw3⟩
    subst w3
    clear HPL
    cases hP : inP x2 ln with
    | false =>
      rw [if_pos (by rw [hP]; rfl)] at hv
      clear HMK HAL HCP HC11
      obtain ⟨N15, hN⟩ : ∃ N : Array Value, N = #[.int .i64 3, .int .i64 0, .int .i64 0, .bool false, .bool false, .bool false, .int .i64 0, .int .i64 0, .int .i64 0, .int .i64 0, .int .i64 0, .int .i64 0, .slice none 0 0, .slice none 0 0, .slice none 0 0] := ⟨_, rfl⟩
      have HN15 : Hid _ := hN
      have hNz : N15.size = 15 := by rw [hN]; rfl
      have HNZ15 : Hid (N15.size = 15) := hNz
      have HIN15 : Hid ((Try.prog.info? 34).map (·.size) = some N15.size) := by show _ = _; rw [hNz]; exact info_NR
      have HONE15 : Hid (N15.all (·.oneCell') = true) := by show _ = _; rw [hN]; simp [Value.oneCell']
      clear hN hNz
      have HTH : Hid (w2.there (w.heap.size + 1) 0 N15.size) := bx_there kR fR (by rw [HNZ15.out]; rfl)
      have HKR : Hid (∀ o, (w2.setCells (w.heap.size + 1) 0 N15.toList).cell? ⟨w.heap.size + 1, o, none⟩ = N15[o]?) := bx_setCells kR (by rw [HNZ15.out]; rfl)
      go_wp2_with (first | (refine wpList_store_mid rfl 34 _ _ rfl _ _ N15 (by rfl) (by rw [HN15.out]; rfl) HTH.out HIN15.out HONE15.out ?_))
      refine bodyPost_ret (results_box Try.results19 _ _ _ N15 _ (by rfl) HKR.out Try.underlying34 rfl (by exact HIN15.out)) rfl ⟨N15, rfl, ?_, ?_⟩
      · rw [setCells_size, HN15.out]
        exact (Own.keep (by rw [hv]; exact own_badN _ w2 (w.heap.size + 2) w2.heap.size (by decide) (by omega)) (fun b h1 h2 => setCells_block (by omega) _ _ _)).mono (by omega) (Nat.le_refl _)
      · exact setCells_below (by omega) _ _ _ _ HB.out
    | true =>
      go_wp2_with fail
      refine (HMK.out _).mono ?_
      rintro e w3 ⟨rfl, hw3⟩
      subst w3
      clear HMK
      cases hM : inB9 x3 1 255 with
      | false =>
        rw [if_pos (by rw [hM]; simp)] at hv
        clear HAL HCP HC11
        obtain ⟨N15, hN⟩ : ∃ N : Array Value, N = #[.int .i64 3, .int .i64 0, .int .i64 0, .bool false, .bool false, .bool false, .int .i64 0, .int .i64 0, .int .i64 0, .int .i64 0, .int .i64 0, .int .i64 0, .slice none 0 0, .slice none 0 0, .slice none 0 0] := ⟨_, rfl⟩
        have HN15 : Hid _ := hN
        have hNz : N15.size = 15 := by rw [hN]; rfl
        have HNZ15 : Hid (N15.size = 15) := hNz
        have HIN15 : Hid ((Try.prog.info? 34).map (·.size) = some N15.size) := by show _ = _; rw [hNz]; exact info_NR
        have HONE15 : Hid (N15.all (·.oneCell') = true) := by show _ = _; rw [hN]; simp [Value.oneCell']
        clear hN hNz
        have HTH : Hid (w2.there (w.heap.size + 1) 0 N15.size) := bx_there kR fR (by rw [HNZ15.out]; rfl)
        have HKR : Hid (∀ o, (w2.setCells (w.heap.size + 1) 0 N15.toList).cell? ⟨w.heap.size + 1, o, none⟩ = N15[o]?) := bx_setCells kR (by rw [HNZ15.out]; rfl)
        go_wp2_with (first | (refine wpList_store_mid rfl 34 _ _ rfl _ _ N15 (by rfl) (by rw [HN15.out]; rfl) HTH.out HIN15.out HONE15.out ?_))
        refine bodyPost_ret (results_box Try.results19 _ _ _ N15 _ (by rfl) HKR.out Try.underlying34 rfl (by exact HIN15.out)) rfl ⟨N15, rfl, ?_, ?_⟩
        · rw [setCells_size, HN15.out]
          exact (Own.keep (by rw [hv]; exact own_badN _ w2 (w.heap.size + 2) w2.heap.size (by decide) (by omega)) (fun b h1 h2 => setCells_block (by omega) _ _ _)).mono (by omega) (Nat.le_refl _)
        · exact setCells_below (by omega) _ _ _ _ HB.out
      | true =>
        rw [if_neg (by rw [hP, hM]; simp)] at hv
        obtain ⟨px0, px1⟩ := (inP_iff x2 ln).1 hP
        obtain ⟨m1, m2⟩ := (inB_iff9 x3 1 255).1 hM
        obtain ⟨pn, hpn⟩ : ∃ pn : Nat, x2 = pn := ⟨x2.toNat, by omega⟩
        have e2 : x2.toNat = pn := by omega
        rw [e2] at hv
        subst hpn
        have hpl : pn < ln := by omega
        have hwm : IntKind.u8.wrap x3 = x3 := by rw [u8w]; omega
        have HWM : Hid _ := hwm
        clear hP hM e2 HC11 hcb hwm
        go_wp2_with (refine wpList_load_mid rfl 32 _ rfl _ _ (by rfl) A.toList _ (bx_range kA) Try.underlying32 rfl HIA.out ?_)
        refine (HCP.out _ HB.out).mono ?_
        rintro e u1 ⟨N, rfl, hnp, hb⟩
        have hz1 := hb.size
        have hNz := hnp.size
        have HNZ : Hid (N.size = 2) := hNz
        have HIN : Hid ((Try.prog.info? 32).map (·.size) = some N.size) := by show _ = _; rw [hNz]; exact info_NT
        have HONE : Hid (N.all (·.oneCell') = true) := hnp.one
        obtain ⟨m, va, da', vc, dc, eN, xd, xo, lm, lh⟩ := hnp
        rw [HD3.out] at eN xd
        have HEN : Hid _ := eN
        obtain ⟨w0, ew0⟩ : ∃ x, x = w2.heap.size := ⟨_, rfl⟩
        have hwz0 : w.heap.size + 2 ≤ w0 := by omega
        have hm1 : w0 ≤ m := by omega
        obtain ⟨hh, ehh⟩ : ∃ x, x = u1.heap.size := ⟨_, rfl⟩
        have XD : Hid (Own u1 w0 m (bls 65) dead [.slice da' 3 dc]) := by rw [ew0]; exact xd
        have XO : Hid (Own u1 m hh shSegms bag [.slice va bag.length vc]) := by rw [ehh]; exact xo
        have lh2 : m ≤ hh := by rw [ehh]; exact lh
        have lh3 : hh ≤ u1.heap.size := by omega
        clear hNz eN xd xo ew0 HCP lm lh
        replace kA := bx_below kA zA hb
        replace zA := Nat.lt_of_lt_of_le zA hb.size
        replace kR := bx_below kR zR hb
        replace fR := bxF fR hb zR
        replace zR := Nat.lt_of_lt_of_le zR hb.size
        replace HB : Hid (Below w.heap.size w u1) := HB.out.trans (hb.mono HB.out.size)
        clear hb
        clear ehh
        have HTH : Hid ((u1.alloc (.cells #[.slice none 0 0, .slice none 0 0] 32)).there u1.heap.size 0 N.size) := bx_there (bx_al _ _ _) (fx_al _ _ _) (by rw [HNZ.out]; rfl)
        have HWN : Hid (Below u1.heap.size u1 ((u1.alloc (.cells #[.slice none 0 0, .slice none 0 0] 32)).setCells u1.heap.size 0 N.toList) ∧ u1.heap.size < ((u1.alloc (.cells #[.slice none 0 0, .slice none 0 0] 32)).setCells u1.heap.size 0 N.toList).heap.size ∧ (∀ o, ((u1.alloc (.cells #[.slice none 0 0, .slice none 0 0] 32)).setCells u1.heap.size 0 N.toList).cell? ⟨u1.heap.size, o, none⟩ = N[o]?) ∧ (∀ o, ((u1.alloc (.cells #[.slice none 0 0, .slice none 0 0] 32)).setCells u1.heap.size 0 N.toList).frozen? ⟨u1.heap.size, o, none⟩ = false) ∧ (∃ cur, ((u1.alloc (.cells #[.slice none 0 0, .slice none 0 0] 32)).setCells u1.heap.size 0 N.toList).heap[u1.heap.size]? = some (.cells cur 32 (0, 0)))) := ⟨setCells_below (Nat.le_refl _) _ _ _ _ ((Below.refl _ _).alloc (Nat.le_refl _) _), by rw [setCells_size]; simp, bx_setCells (bx_al u1 _ _) (by rw [HNZ.out]; rfl), fx_sets (fx_al _ _ _), al_tyN _ _ _ _⟩
        go_upto_region 7 with (refine wpList_store_mid rfl 32 _ _ rfl _ _ N (by rfl) (by rfl) HTH.out HIN.out HONE.out ?_)
        generalize hWW : ((u1.alloc (.cells #[.slice none 0 0, .slice none 0 0] 32)).setCells u1.heap.size 0 N.toList) = u2 at HWN ⊢
        clear hWW HTH HIN HONE HNZ
        obtain ⟨hb, zQ, kQ, fQ, tQ⟩ := HWN.out
        clear HWN
        replace XD : Hid (Own u2 w0 m (bls 65) dead [.slice da' 3 dc]) := Own.below XD.out (by omega) hb
        replace XO : Hid (Own u2 m hh shSegms bag [.slice va bag.length vc]) := Own.below XO.out (by omega) hb
        obtain ⟨q, hq⟩ : ∃ q, q = u1.heap.size := ⟨_, rfl⟩
        have hqh : hh ≤ q := by omega
        replace kA := bx_below kA zA hb
        replace zA := Nat.lt_of_lt_of_le zA hb.size
        replace kR := bx_below kR zR hb
        replace fR := bxF fR hb zR
        replace zR := Nat.lt_of_lt_of_le zR hb.size
        replace HB : Hid (Below w.heap.size w u2) := HB.out.trans (hb.mono HB.out.size)
        clear hb
        rw [← hq] at zQ kQ fQ tQ ⊢
        have TQ : Hid _ := tQ
        clear hq lh3 hz1 tQ
        rw [HEN.out] at kQ
        clear HEN
        rw [hnb] at XO kQ
        clear hnb
        obtain ⟨g, lb, lc2, yb, eg, c1, c2, fb, ⟨lb1, lb2⟩, ⟨lg1, lg2⟩, hnew⟩ := HAL.out u2 m hh nb vc va pn XO.out hpl
        subst eg
        have hwm := HWM.out
        obtain ⟨X, hX⟩ : ∃ X, bits .xor .u8 yb x3 = X := ⟨_, rfl⟩
        rw [hX] at hnew
        have HO3 : Hid (Own (u2.setCell ⟨lb, pn, none⟩ (.int .u8 X)) m hh shSegms (bag.set k (altX sx pn x3)) [.slice (some ⟨g, 0, none⟩) nb vc]) := hnew
        clear hnew HAL
        have kQ3 : ∀ o, (u2.setCell ⟨lb, pn, none⟩ (.int .u8 X)).cell? ⟨q, o, none⟩ = (#[.slice (some ⟨g, 0, none⟩) nb vc, .slice da' 3 dc] : Array Value)[o]? := bx_setC kQ (by omega)
        have kR3 : ∀ o, (u2.setCell ⟨lb, pn, none⟩ (.int .u8 X)).cell? ⟨w.heap.size + 1, o, none⟩ = (#[.int .i64 0, .int .i64 0, .int .i64 0, .bool false, .bool false, .bool false, .int .i64 0, .int .i64 0, .int .i64 0, .int .i64 0, .int .i64 0, .int .i64 0, .slice none 0 0, .slice none 0 0, .slice none 0 0] : Array Value)[o]? := bx_setC kR (by omega)
        have fR3 : ∀ o, (u2.setCell ⟨lb, pn, none⟩ (.int .u8 X)).frozen? ⟨w.heap.size + 1, o, none⟩ = false := fx_setC fR
        have XD3 : Hid (Own (u2.setCell ⟨lb, pn, none⟩ (.int .u8 X)) w0 m (bls 65) dead [.slice da' 3 dc]) := Own.keep XD.out (fun b h1 h2 => Below.heap_setCell _ _ _ _ (by dsimp only; omega))
        have HB3 : Hid (Below w.heap.size w (u2.setCell ⟨lb, pn, none⟩ (.int .u8 X))) := Below.setCell (p := ⟨lb, pn, none⟩) HB.out (show w.heap.size ≤ lb by omega) _
        have hz3 : hh ≤ (u2.setCell ⟨lb, pn, none⟩ (.int .u8 X)).heap.size := by simp; omega
        have hpc : (pn : Int) < (ln : Int) := by omega
        have hp0 : (0 : Int) ≤ (pn : Int) := by omega
        go_upto_region 8 with fail
        generalize hWW : u2.setCell ⟨lb, pn, none⟩ (.int .u8 X) = u4 at kQ3 kR3 fR3 XD3 HO3 HB3 hz3 ⊢
        clear hWW kQ kR fR HB XO XD c1 c2 fb hX
        have kQ := kQ3
        have kR := kR3
        have fR := fR3
        have HB := HB3
        clear kQ3 kR3 fR3 HB3
        have HO : Hid (Own u4 w0 u4.heap.size (shNR 65) (0, zSg, (bag.set k (altX sx pn x3), dead, ()), ()) (.int .i64 0 :: (zSc ++ [.slice (some ⟨g, 0, none⟩) nb vc, .slice da' 3 dc]))) := own_NR (by decide) (own_zSg u4 _ w0) (own_Net' XD3.out (Own.mono HO3.out (Nat.le_refl _) hz3) hm1 (by omega)) (Nat.le_refl _) (by omega)
        clear HO3 XD3
        obtain ⟨N15, hN⟩ : ∃ N : Array Value, N = #[.int .i64 0, .int .i64 0, .int .i64 0, .bool false, .bool false, .bool false, .int .i64 0, .int .i64 0, .int .i64 0, .int .i64 0, .int .i64 0, .int .i64 0, .slice none 0 0, .slice (some ⟨g, 0, none⟩) nb vc, .slice da' 3 dc] := ⟨_, rfl⟩
        have HN15 : Hid _ := hN
        have hNz : N15.size = 15 := by rw [hN]; rfl
        have HNZ15 : Hid (N15.size = 15) := hNz
        have HIN15 : Hid ((Try.prog.info? 34).map (·.size) = some N15.size) := by show _ = _; rw [hNz]; exact info_NR
        have HONE15 : Hid (N15.all (·.oneCell') = true) := by show _ = _; rw [hN]; simp [Value.oneCell']
        clear hN hNz
        have HTH : Hid (u4.there (w.heap.size + 1) 0 N15.size) := bx_there kR fR (by rw [HNZ15.out]; rfl)
        have HKR : Hid (∀ o, (u4.setCells (w.heap.size + 1) 0 N15.toList).cell? ⟨w.heap.size + 1, o, none⟩ = N15[o]?) := bx_setCells kR (by rw [HNZ15.out]; rfl)
        go_wp2_with (first | (refine wpList_load_mid rfl 32 _ rfl _ _ (by rfl) [.slice (some ⟨g, 0, none⟩) nb vc, .slice da' 3 dc] _ (bx_range kQ) Try.underlying32 rfl info_NT ?_) | (refine wpList_store_mid rfl 34 _ _ rfl _ _ N15 (by rfl) (by rw [HN15.out]; rfl) HTH.out HIN15.out HONE15.out ?_))
        refine bodyPost_ret (results_box Try.results19 _ _ _ N15 _ (by rfl) HKR.out Try.underlying34 rfl (by exact HIN15.out)) rfl ⟨N15, rfl, ?_, ?_⟩
        · rw [setCells_size, HN15.out]
          exact (Own.keep (by rw [hv]; exact HO.out) (fun b h1 h2 => setCells_block (by omega) _ _ _)).mono (by omega) (Nat.le_refl _)
        · exact setCells_below (by omega) _ _ _ _ HB.out
  · rw [if_pos hF] at hv
    have h1 : (askF bag dead x1 != 0) = true := by simp [hF]
    have h2 : (askF bag dead x1 == 0) = false := by simp [hF]
    clear HAK
    generalize askF bag dead x1 = q at *
    obtain ⟨N15, hN⟩ : ∃ N : Array Value, N = #[.int .i64 q, .int .i64 0, .int .i64 0, .bool false, .bool false, .bool false, .int .i64 0, .int .i64 0, .int .i64 0, .int .i64 0, .int .i64 0, .int .i64 0, .slice none 0 0, .slice none 0 0, .slice none 0 0] := ⟨_, rfl⟩
    have HN15 : Hid _ := hN
    have hNz : N15.size = 15 := by rw [hN]; rfl
    have HNZ15 : Hid (N15.size = 15) := hNz
    have HIN15 : Hid ((Try.prog.info? 34).map (·.size) = some N15.size) := by show _ = _; rw [hNz]; exact info_NR
    have HONE15 : Hid (N15.all (·.oneCell') = true) := by show _ = _; rw [hN]; simp [Value.oneCell']
    clear hN hNz
    have HTH : Hid (w2.there (w.heap.size + 1) 0 N15.size) := bx_there kR fR (by rw [HNZ15.out]; rfl)
    have HKR : Hid (∀ o, (w2.setCells (w.heap.size + 1) 0 N15.toList).cell? ⟨w.heap.size + 1, o, none⟩ = N15[o]?) := bx_setCells kR (by rw [HNZ15.out]; rfl)
    go_wp2_with (first | (refine wpList_store_mid rfl 34 _ _ rfl _ _ N15 (by rfl) (by rw [HN15.out]; rfl) HTH.out HIN15.out HONE15.out ?_))
    refine bodyPost_ret (results_box Try.results19 _ _ _ N15 _ (by rfl) HKR.out Try.underlying34 rfl (by exact HIN15.out)) rfl ⟨N15, rfl, ?_, ?_⟩
    · rw [setCells_size, HN15.out]
      exact (Own.keep (by rw [hv]; exact own_badN _ w2 (w.heap.size + 2) w2.heap.size HWF.out (by omega)) (fun b h1 h2 => setCells_block (by omega) _ _ _)).mono (by omega) (Nat.le_refl _)
    · exact setCells_below (by omega) _ _ _ _ HB.out
set_option maxHeartbeats 8000000 in
theorem sAlterNetA (x0 : DNet) (A : Array Value) (x1 : Int) (x2 : Int) (x3 : Int) (w : World) (B : Nat) (hr : shNet.Rd w B x0 A.toList) (hT : totNet x0 ≤ 1048576) (hB : B ≤ w.heap.size) :
    Calls Try.prog 18 #[.agg A, .int .i64 x1, .int .i64 x2, .int .i64 x3] w fun e w' => ∃ N : Array Value, e = .returned (.agg N) ∧ Own w' w.heap.size w'.heap.size (shNR 4) (altV x0 x1 x2 x3) N.toList ∧ Below w.heap.size w w' := by
  obtain ⟨bag, dead, ⟨⟩⟩ := x0
  obtain ⟨a, cap, da, dcap, eA, rb, rdd⟩ := rd_Net hr
  have a0 : A[0]? = some (.slice a bag.length cap) := get_of eA 0
  have a1 : A[1]? = some (.slice da dead.length dcap) := get_of eA 1
  have HRb : Hid (∀ W, Below w.heap.size w W → shSegms.Rd W B bag [.slice a bag.length cap]) := fun W hW => Sh.Rd.below rb hB hW
  have HRd : Hid (∀ W, Below w.heap.size w W → (bls 4).Rd W B dead [.slice da dead.length dcap]) := fun W hW => Sh.Rd.below rdd hB hW
  have eA2 := arr_of eA
  have HA2 : Hid (A = #[.slice a bag.length cap, .slice da dead.length dcap]) := eA2
  have HIA : Hid ((Try.prog.info? 32).map (·.size) = some A.toList.length) := by show _ = _; rw [eA]; exact info_NT
  have ht : totSegms bag + dead.length ≤ 1048576 := hT
  have HAK : Hid (∀ W (p : Nat), Below w.heap.size w W → (∀ o, W.cell? ⟨p, o, none⟩ = A[o]?) → p < W.heap.size → Calls Try.prog 24 #[.pointer (some ⟨p, 0, none⟩), .int .i64 x1] W fun e w' => e = .returned (.int .i64 (askF bag dead x1)) ∧ Below W.heap.size W w') := fun W p hW k hp => sL12Asked _ bag dead x1 p _ _ W B (by rw [HA2.out] at k; exact k) hp (HRb.out W hW) (HRd.out W hW) (Nat.le_trans hB hW.size)
  obtain ⟨V, hV⟩ : ∃ V, V = altV (bag, dead, ()) x1 x2 x3 := ⟨_, rfl⟩
  rw [← hV]
  have HV : Hid (V = if askF bag dead x1 ≠ 0 then badN (askF bag dead x1) else if (inP x2 (ldOf (bag.getD x1.toNat zSg)).length && inB9 x3 1 255) = false then badN 3 else (0, zSg, (bag.set x1.toNat (altX (bag.getD x1.toNat zSg) x2.toNat x3), dead, ()), ())) := hV
  have HWF : Hid _ := askF_wf bag dead x1
  have hmx : bag.length ≤ 1048576 := by unfold totSegms at ht; omega
  have HRA : Hid (∀ W, Below w.heap.size w W → shNet.Rd W B (bag, dead, ()) A.toList) := fun W hW => Sh.Rd.below hr hB hW
  clear hV eA eA2 rb rdd hr hT
  have HWA : Hid (Below w.heap.size w ((w.alloc (.cells A 32)).alloc (.cells #[.int .i64 0, .int .i64 0, .int .i64 0, .bool false, .bool false, .bool false, .int .i64 0, .int .i64 0, .int .i64 0, .int .i64 0, .int .i64 0, .int .i64 0, .slice none 0 0, .slice none 0 0, .slice none 0 0] 34)) ∧ ((w.alloc (.cells A 32)).alloc (.cells #[.int .i64 0, .int .i64 0, .int .i64 0, .bool false, .bool false, .bool false, .int .i64 0, .int .i64 0, .int .i64 0, .int .i64 0, .int .i64 0, .int .i64 0, .slice none 0 0, .slice none 0 0, .slice none 0 0] 34)).heap.size = w.heap.size + 2 ∧ (∀ o, ((w.alloc (.cells A 32)).alloc (.cells #[.int .i64 0, .int .i64 0, .int .i64 0, .bool false, .bool false, .bool false, .int .i64 0, .int .i64 0, .int .i64 0, .int .i64 0, .int .i64 0, .int .i64 0, .slice none 0 0, .slice none 0 0, .slice none 0 0] 34)).cell? ⟨w.heap.size, o, none⟩ = (A : Array Value)[o]?) ∧ (∀ o, ((w.alloc (.cells A 32)).alloc (.cells #[.int .i64 0, .int .i64 0, .int .i64 0, .bool false, .bool false, .bool false, .int .i64 0, .int .i64 0, .int .i64 0, .int .i64 0, .int .i64 0, .int .i64 0, .slice none 0 0, .slice none 0 0, .slice none 0 0] 34)).cell? ⟨w.heap.size + 1, o, none⟩ = (#[.int .i64 0, .int .i64 0, .int .i64 0, .bool false, .bool false, .bool false, .int .i64 0, .int .i64 0, .int .i64 0, .int .i64 0, .int .i64 0, .int .i64 0, .slice none 0 0, .slice none 0 0, .slice none 0 0] : Array Value)[o]?) ∧ (∀ o, ((w.alloc (.cells A 32)).alloc (.cells #[.int .i64 0, .int .i64 0, .int .i64 0, .bool false, .bool false, .bool false, .int .i64 0, .int .i64 0, .int .i64 0, .int .i64 0, .int .i64 0, .int .i64 0, .slice none 0 0, .slice none 0 0, .slice none 0 0] 34)).frozen? ⟨w.heap.size + 1, o, none⟩ = false)) := ⟨(((Below.refl _ _).alloc (Nat.le_refl _) _).alloc (by simp) _), by simp, fun o => by simp [go_sem], fun o => by simp [go_sem], fun o => by simp [go_sem]⟩
  go_enter Try.func18, Try.ntmps18
  go_upto_region 1 with fail
  generalize hWW : ((w.alloc (.cells A 32)).alloc (.cells #[.int .i64 0, .int .i64 0, .int .i64 0, .bool false, .bool false, .bool false, .int .i64 0, .int .i64 0, .int .i64 0, .int .i64 0, .int .i64 0, .int .i64 0, .slice none 0 0, .slice none 0 0, .slice none 0 0] 34)) = W1 at HWA ⊢
  clear hWW
  obtain ⟨hb, hsz, kA, kR, fR⟩ := HWA.out
  clear HWA
  have HB : Hid (Below w.heap.size w W1) := hb
  have zA : w.heap.size < W1.heap.size := by omega
  have zR : w.heap.size + 1 < W1.heap.size := by omega
  clear hb hsz
  go_wp2_with fail
  refine (HAK.out _ _ HB.out kA zA).mono ?_
  rintro e w2 ⟨rfl, hb⟩
  replace kA := bx_below kA zA hb
  replace zA := Nat.lt_of_lt_of_le zA hb.size
  replace kR := bx_below kR zR hb
  replace fR := bxF fR hb zR
  replace zR := Nat.lt_of_lt_of_le zR hb.size
  replace HB : Hid (Below w.heap.size w w2) := HB.out.trans (hb.mono HB.out.size)
  clear hb
  have hv := HV.out
  clear HV
  by_cases hF : askF bag dead x1 = 0
  · rw [if_neg (by simp [hF])] at hv
    obtain ⟨hN0, hx0, hxn⟩ := askF_ok hF
    obtain ⟨h60, h3, hok⟩ := netF_ok hN0
    have HOK : Hid (∀ x ∈ bag, totSegm x ≤ 8 ∧ sgF x = 0) := fun x hx => by have := sgF_ok (hok x hx).1; exact ⟨by omega, (hok x hx).1⟩
    rw [hF]
    obtain ⟨k, hk⟩ : ∃ k : Nat, x1 = k := ⟨x1.toNat, by omega⟩
    have hkn : k < bag.length := by omega
    have HD3 : Hid (dead.length = 3) := h3
    have HCP : Hid (∀ W, Below w.heap.size w W → Calls Try.prog 25 #[.agg A] W fun e w' => ∃ N : Array Value, e = .returned (.agg N) ∧ NetP 4 w' W.heap.size bag dead N ∧ Below W.heap.size W w') := fun W hW => by rw [HA2.out]; exact sL12Copy _ bag dead _ _ W B (HRb.out W hW) (HRd.out W hW) (Nat.le_trans hB hW.size) h3 (by omega) (fun x hx => by have := (HOK.out x hx).1; omega)
    have HN00 : Hid (netF bag dead = 0) := hN0
    clear hok HAK hF hN0
    have e1 : x1.toNat = k := by omega
    rw [e1] at hv
    obtain ⟨b, off, cs, ha, hb0, hlen, hrg, hrs⟩ := row_at (HRb.out w (Below.refl _ _)) k hkn
    subst ha
    replace hlen : cs.length = 12 := hlen
    replace hrg : w.rangeAt b (off + k * 12) cs := hrg
    have ht8 := (HOK.out bag[k] (List.getElem_mem hkn)).1
    have hgd : bag.getD k zSg = bag[k] := by rw [List.getD_eq_getElem?_getD, List.getElem?_eq_getElem hkn]; rfl
    rw [hgd] at hv
    obtain ⟨la, lc, hc11⟩ := seg_load hrs
    have hbw : b < w.heap.size := by omega
    rw [tot_ld] at ht8
    have HC11 : Hid (∀ W, Below w.heap.size w W → W.cell? ⟨b, off + k * 12 + 11, none⟩ = some (.slice la (ldOf bag[k]).length lc)) := fun W hW => (hW.cell (p := ⟨b, off + k * 12 + 11, none⟩) hbw).trans (hrg 11 _ hc11)
    have HAL : Hid (∀ (W : World) (lo hi n c : Nat) (a : Option Addr) (p : Nat), Own W lo hi shSegms bag [.slice a n c] → p < (ldOf bag[k]).length → ∃ g lb lc y, a = some ⟨g, 0, none⟩ ∧ W.cell? ⟨g, k * 12 + 11, none⟩ = some (.slice (some ⟨lb, 0, none⟩) (ldOf bag[k]).length lc) ∧ W.cell? ⟨lb, p, none⟩ = some (.int .u8 y) ∧ (∀ o, W.frozen? ⟨lb, o, none⟩ = false) ∧ (lo ≤ lb ∧ lb < hi) ∧ (lo ≤ g ∧ g < hi) ∧ Own (W.setCell ⟨lb, p, none⟩ (.int .u8 (bits .xor .u8 y x3))) lo hi shSegms (bag.set k (altX bag[k] p x3)) [.slice a n c]) := fun W lo hi n c a p h hp => by
      obtain ⟨g, lb, lc, q1, q2, q3, q4, q5, q6, q7⟩ := own_alter h hkn hp
      have e : (ldOf bag[k]).getD p 0 = (ldOf bag[k])[p] := by rw [List.getD_eq_getElem?_getD, List.getElem?_eq_getElem hp]; rfl
      refine ⟨g, lb, lc, _, q1, q2, q3, q4, q5, q6, ?_⟩
      have q8 := q7 _ (xor_wf (ldOf bag[k])[p] x3)
      unfold altX
      rw [e]
      exact q8
    clear hrs hlen hrg hc11 HOK hgd e1
    generalize bag[k] = sx at *
    obtain ⟨ln, hln⟩ : ∃ ln, (ldOf sx).length = ln := ⟨_, rfl⟩
    rw [hln] at hv HC11 HAL ht8
    obtain ⟨nb, hnb⟩ : ∃ nb, bag.length = nb := ⟨_, rfl⟩
    have HNB : Hid (bag.length = nb) := hnb
    clear HRb HRd HA2 HRA hln HN00
    rw [hnb] at a0 h60 hmx hkn
    rw [HD3.out] at a1
    subst hk
    have hkc : (k : Int) < (nb : Int) := by omega
    have hk0 : (0 : Int) ≤ (k : Int) := by omega
    have hcb := HC11.out _ HB.out
    have HPL : Hid (∀ W, Calls Try.prog 42 #[.int .i64 x2, .int .i64 0, .int .i64 ((ln : Int) - 1)] W fun e w' => e = .returned (.bool (inP x2 ln)) ∧ w' = W) := fun W => sInB9 x2 0 ((ln : Int) - 1) W
    have HMK : Hid (∀ W, Calls Try.prog 42 #[.int .i64 x3, .int .i64 1, .int .i64 255] W fun e w' => e = .returned (.bool (inB9 x3 1 255)) ∧ w' = W) := fun W => sInB9 x3 1 255 W
    go_wp2_with fail
    refine (HPL.out _).mono ?_
    rintro e w3 ⟨rfl, hw3⟩
    subst w3
    clear HPL
    cases hP : inP x2 ln with
    | false =>
      rw [if_pos (by rw [hP]; rfl)] at hv
      clear HMK HAL HCP HC11
      obtain ⟨N15, hN⟩ : ∃ N : Array Value, N = #[.int .i64 3, .int .i64 0, .int .i64 0, .bool false, .bool false, .bool false, .int .i64 0, .int .i64 0, .int .i64 0, .int .i64 0, .int .i64 0, .int .i64 0, .slice none 0 0, .slice none 0 0, .slice none 0 0] := ⟨_, rfl⟩
      have HN15 : Hid _ := hN
      have hNz : N15.size = 15 := by rw [hN]; rfl
      have HNZ15 : Hid (N15.size = 15) := hNz
      have HIN15 : Hid ((Try.prog.info? 34).map (·.size) = some N15.size) := by show _ = _; rw [hNz]; exact info_NR
      have HONE15 : Hid (N15.all (·.oneCell') = true) := by show _ = _; rw [hN]; simp [Value.oneCell']
      clear hN hNz
      have HTH : Hid (w2.there (w.heap.size + 1) 0 N15.size) := bx_there kR fR (by rw [HNZ15.out]; rfl)
      have HKR : Hid (∀ o, (w2.setCells (w.heap.size + 1) 0 N15.toList).cell? ⟨w.heap.size + 1, o, none⟩ = N15[o]?) := bx_setCells kR (by rw [HNZ15.out]; rfl)
      go_wp2_with (first | (refine wpList_store_mid rfl 34 _ _ rfl _ _ N15 (by rfl) (by rw [HN15.out]; rfl) HTH.out HIN15.out HONE15.out ?_))
      refine bodyPost_ret (results_box Try.results18 _ _ _ N15 _ (by rfl) HKR.out Try.underlying34 rfl (by exact HIN15.out)) rfl ⟨N15, rfl, ?_, ?_⟩
      · rw [setCells_size, HN15.out]
        exact (Own.keep (by rw [hv]; exact own_badN _ w2 (w.heap.size + 2) w2.heap.size (by decide) (by omega)) (fun b h1 h2 => setCells_block (by omega) _ _ _)).mono (by omega) (Nat.le_refl _)
      · exact setCells_below (by omega) _ _ _ _ HB.out
    | true =>
      go_wp2_with fail
      refine (HMK.out _).mono ?_
      rintro e w3 ⟨rfl, hw3⟩
      subst w3
      clear HMK
      cases hM : inB9 x3 1 255 with
      | false =>
        rw [if_pos (by rw [hM]; simp)] at hv
        clear HAL HCP HC11
        obtain ⟨N15, hN⟩ : ∃ N : Array Value, N = #[.int .i64 3, .int .i64 0, .int .i64 0, .bool false, .bool false, .bool false, .int .i64 0, .int .i64 0, .int .i64 0, .int .i64 0, .int .i64 0, .int .i64 0, .slice none 0 0, .slice none 0 0, .slice none 0 0] := ⟨_, rfl⟩
        have HN15 : Hid _ := hN
        have hNz : N15.size = 15 := by rw [hN]; rfl
        have HNZ15 : Hid (N15.size = 15) := hNz
        have HIN15 : Hid ((Try.prog.info? 34).map (·.size) = some N15.size) := by show _ = _; rw [hNz]; exact info_NR
        have HONE15 : Hid (N15.all (·.oneCell') = true) := by show _ = _; rw [hN]; simp [Value.oneCell']
        clear hN hNz
        have HTH : Hid (w2.there (w.heap.size + 1) 0 N15.size) := bx_there kR fR (by rw [HNZ15.out]; rfl)
        have HKR : Hid (∀ o, (w2.setCells (w.heap.size + 1) 0 N15.toList).cell? ⟨w.heap.size + 1, o, none⟩ = N15[o]?) := bx_setCells kR (by rw [HNZ15.out]; rfl)
        go_wp2_with (first | (refine wpList_store_mid rfl 34 _ _ rfl _ _ N15 (by rfl) (by rw [HN15.out]; rfl) HTH.out HIN15.out HONE15.out ?_))
        refine bodyPost_ret (results_box Try.results18 _ _ _ N15 _ (by rfl) HKR.out Try.underlying34 rfl (by exact HIN15.out)) rfl ⟨N15, rfl, ?_, ?_⟩
        · rw [setCells_size, HN15.out]
          exact (Own.keep (by rw [hv]; exact own_badN _ w2 (w.heap.size + 2) w2.heap.size (by decide) (by omega)) (fun b h1 h2 => setCells_block (by omega) _ _ _)).mono (by omega) (Nat.le_refl _)
        · exact setCells_below (by omega) _ _ _ _ HB.out
      | true =>
        rw [if_neg (by rw [hP, hM]; simp)] at hv
        obtain ⟨px0, px1⟩ := (inP_iff x2 ln).1 hP
        obtain ⟨m1, m2⟩ := (inB_iff9 x3 1 255).1 hM
        obtain ⟨pn, hpn⟩ : ∃ pn : Nat, x2 = pn := ⟨x2.toNat, by omega⟩
        have e2 : x2.toNat = pn := by omega
        rw [e2] at hv
        subst hpn
        have hpl : pn < ln := by omega
        have hwm : IntKind.u8.wrap x3 = x3 := by rw [u8w]; omega
        have HWM : Hid _ := hwm
        clear hP hM e2 HC11 hcb hwm
        go_wp2_with (refine wpList_load_mid rfl 32 _ rfl _ _ (by rfl) A.toList _ (bx_range kA) Try.underlying32 rfl HIA.out ?_)
        refine (HCP.out _ HB.out).mono ?_
        rintro e u1 ⟨N, rfl, hnp, hb⟩
        have hz1 := hb.size
        have hNz := hnp.size
        have HNZ : Hid (N.size = 2) := hNz
        have HIN : Hid ((Try.prog.info? 32).map (·.size) = some N.size) := by show _ = _; rw [hNz]; exact info_NT
        have HONE : Hid (N.all (·.oneCell') = true) := hnp.one
        obtain ⟨m, va, da', vc, dc, eN, xd, xo, lm, lh⟩ := hnp
        rw [HD3.out] at eN xd
        have HEN : Hid _ := eN
        obtain ⟨w0, ew0⟩ : ∃ x, x = w2.heap.size := ⟨_, rfl⟩
        have hwz0 : w.heap.size + 2 ≤ w0 := by omega
        have hm1 : w0 ≤ m := by omega
        obtain ⟨hh, ehh⟩ : ∃ x, x = u1.heap.size := ⟨_, rfl⟩
        have XD : Hid (Own u1 w0 m (bls 4) dead [.slice da' 3 dc]) := by rw [ew0]; exact xd
        have XO : Hid (Own u1 m hh shSegms bag [.slice va bag.length vc]) := by rw [ehh]; exact xo
        have lh2 : m ≤ hh := by rw [ehh]; exact lh
        have lh3 : hh ≤ u1.heap.size := by omega
        clear hNz eN xd xo ew0 HCP lm lh
        replace kA := bx_below kA zA hb
        replace zA := Nat.lt_of_lt_of_le zA hb.size
        replace kR := bx_below kR zR hb
        replace fR := bxF fR hb zR
        replace zR := Nat.lt_of_lt_of_le zR hb.size
        replace HB : Hid (Below w.heap.size w u1) := HB.out.trans (hb.mono HB.out.size)
        clear hb
        clear ehh
        have HTH : Hid ((u1.alloc (.cells #[.slice none 0 0, .slice none 0 0] 32)).there u1.heap.size 0 N.size) := bx_there (bx_al _ _ _) (fx_al _ _ _) (by rw [HNZ.out]; rfl)
        have HWN : Hid (Below u1.heap.size u1 ((u1.alloc (.cells #[.slice none 0 0, .slice none 0 0] 32)).setCells u1.heap.size 0 N.toList) ∧ u1.heap.size < ((u1.alloc (.cells #[.slice none 0 0, .slice none 0 0] 32)).setCells u1.heap.size 0 N.toList).heap.size ∧ (∀ o, ((u1.alloc (.cells #[.slice none 0 0, .slice none 0 0] 32)).setCells u1.heap.size 0 N.toList).cell? ⟨u1.heap.size, o, none⟩ = N[o]?) ∧ (∀ o, ((u1.alloc (.cells #[.slice none 0 0, .slice none 0 0] 32)).setCells u1.heap.size 0 N.toList).frozen? ⟨u1.heap.size, o, none⟩ = false) ∧ (∃ cur, ((u1.alloc (.cells #[.slice none 0 0, .slice none 0 0] 32)).setCells u1.heap.size 0 N.toList).heap[u1.heap.size]? = some (.cells cur 32 (0, 0)))) := ⟨setCells_below (Nat.le_refl _) _ _ _ _ ((Below.refl _ _).alloc (Nat.le_refl _) _), by rw [setCells_size]; simp, bx_setCells (bx_al u1 _ _) (by rw [HNZ.out]; rfl), fx_sets (fx_al _ _ _), al_tyN _ _ _ _⟩
        go_upto_region 7 with (refine wpList_store_mid rfl 32 _ _ rfl _ _ N (by rfl) (by rfl) HTH.out HIN.out HONE.out ?_)
        generalize hWW : ((u1.alloc (.cells #[.slice none 0 0, .slice none 0 0] 32)).setCells u1.heap.size 0 N.toList) = u2 at HWN ⊢
        clear hWW HTH HIN HONE HNZ
        obtain ⟨hb, zQ, kQ, fQ, tQ⟩ := HWN.out
        clear HWN
        replace XD : Hid (Own u2 w0 m (bls 4) dead [.slice da' 3 dc]) := Own.below XD.out (by omega) hb
        replace XO : Hid (Own u2 m hh shSegms bag [.slice va bag.length vc]) := Own.below XO.out (by omega) hb
        obtain ⟨q, hq⟩ : ∃ q, q = u1.heap.size := ⟨_, rfl⟩
        have hqh : hh ≤ q := by omega
        replace kA := bx_below kA zA hb
        replace zA := Nat.lt_of_lt_of_le zA hb.size
        replace kR := bx_below kR zR hb
        replace fR := bxF fR hb zR
        replace zR := Nat.lt_of_lt_of_le zR hb.size
        replace HB : Hid (Below w.heap.size w u2) := HB.out.trans (hb.mono HB.out.size)
        clear hb
        rw [← hq] at zQ kQ fQ tQ ⊢
        have TQ : Hid _ := tQ
        clear hq lh3 hz1 tQ
        rw [HEN.out] at kQ
        clear HEN
        rw [hnb] at XO kQ
        clear hnb
        obtain ⟨g, lb, lc2, yb, eg, c1, c2, fb, ⟨lb1, lb2⟩, ⟨lg1, lg2⟩, hnew⟩ := HAL.out u2 m hh nb vc va pn XO.out hpl
        subst eg
        have hwm := HWM.out
        obtain ⟨X, hX⟩ : ∃ X, bits .xor .u8 yb x3 = X := ⟨_, rfl⟩
        rw [hX] at hnew
        have HO3 : Hid (Own (u2.setCell ⟨lb, pn, none⟩ (.int .u8 X)) m hh shSegms (bag.set k (altX sx pn x3)) [.slice (some ⟨g, 0, none⟩) nb vc]) := hnew
        clear hnew HAL
        have kQ3 : ∀ o, (u2.setCell ⟨lb, pn, none⟩ (.int .u8 X)).cell? ⟨q, o, none⟩ = (#[.slice (some ⟨g, 0, none⟩) nb vc, .slice da' 3 dc] : Array Value)[o]? := bx_setC kQ (by omega)
        have kR3 : ∀ o, (u2.setCell ⟨lb, pn, none⟩ (.int .u8 X)).cell? ⟨w.heap.size + 1, o, none⟩ = (#[.int .i64 0, .int .i64 0, .int .i64 0, .bool false, .bool false, .bool false, .int .i64 0, .int .i64 0, .int .i64 0, .int .i64 0, .int .i64 0, .int .i64 0, .slice none 0 0, .slice none 0 0, .slice none 0 0] : Array Value)[o]? := bx_setC kR (by omega)
        have fR3 : ∀ o, (u2.setCell ⟨lb, pn, none⟩ (.int .u8 X)).frozen? ⟨w.heap.size + 1, o, none⟩ = false := fx_setC fR
        have XD3 : Hid (Own (u2.setCell ⟨lb, pn, none⟩ (.int .u8 X)) w0 m (bls 4) dead [.slice da' 3 dc]) := Own.keep XD.out (fun b h1 h2 => Below.heap_setCell _ _ _ _ (by dsimp only; omega))
        have HB3 : Hid (Below w.heap.size w (u2.setCell ⟨lb, pn, none⟩ (.int .u8 X))) := Below.setCell (p := ⟨lb, pn, none⟩) HB.out (show w.heap.size ≤ lb by omega) _
        have hz3 : hh ≤ (u2.setCell ⟨lb, pn, none⟩ (.int .u8 X)).heap.size := by simp; omega
        have hpc : (pn : Int) < (ln : Int) := by omega
        have hp0 : (0 : Int) ≤ (pn : Int) := by omega
        refine wp_region_noPanic ?_
        refine Goes.start (S := fun w' => Below u2.heap.size u2 w') (z := 20) (by kernel_rfl) ?_
        refine Goes.take (i := 0) (oi := ?oi11) (x := ?vx11) ?ho11 (by kernel_rfl) (by kernel_rfl) (by kernel_rfl) (by kernel_rfl) (fun _ _ _ h => h) (Or.inl ⟨?hw11, ?hy11⟩) (Below.drew (Below.refl _ _)) ?rest11
        case ho11 => (simp only [List.getElem?_toArray, List.getElem?_cons_zero] <;> rfl)
        case hw11 => rfl
        case hy11 => (intro w' hSw; have j0 := bx_below kQ zQ hSw; have j1 := (hSw.cell (p := ⟨g, k * 12 + 11, none⟩) (show g < u2.heap.size by omega)).trans c1; have j2 := (hSw.cell (p := ⟨lb, pn, none⟩) (show lb < u2.heap.size by omega)).trans c2; go_simp; (try with_reducible rfl))
        case rest11 =>
        (try simp only [Act.put, List.setIfInBounds_toArray, List.set_cons_zero, List.set_cons_succ])
        refine Goes.take (i := 1) (oi := ?oi12) (x := ?vx12) ?ho12 (by kernel_rfl) (by kernel_rfl) (by kernel_rfl) (by kernel_rfl) (fun _ _ _ h => h) (Or.inl ⟨?hw12, ?hy12⟩) (Below.drew (Below.refl _ _)) ?rest12
        case ho12 => (simp only [List.getElem?_toArray, List.getElem?_cons_succ, List.getElem?_cons_zero] <;> rfl)
        case hw12 => rfl
        case hy12 => (intro w' hSw; have j0 := bx_below kQ zQ hSw; have j1 := (hSw.cell (p := ⟨g, k * 12 + 11, none⟩) (show g < u2.heap.size by omega)).trans c1; have j2 := (hSw.cell (p := ⟨lb, pn, none⟩) (show lb < u2.heap.size by omega)).trans c2; go_simp; (try with_reducible rfl))
        case rest12 =>
        (try simp only [Act.put, List.setIfInBounds_toArray, List.set_cons_zero, List.set_cons_succ])
        refine Goes.take (i := 2) (oi := ?oi13) (x := ?vx13) ?ho13 (by kernel_rfl) (by kernel_rfl) (by kernel_rfl) (by kernel_rfl) (fun _ _ _ h => h) (Or.inl ⟨?hw13, ?hy13⟩) (Below.drew (Below.refl _ _)) ?rest13
        case ho13 => (simp only [List.getElem?_toArray, List.getElem?_cons_succ, List.getElem?_cons_zero] <;> rfl)
        case hw13 => rfl
        case hy13 => (intro w' hSw; have j0 := bx_below kQ zQ hSw; have j1 := (hSw.cell (p := ⟨g, k * 12 + 11, none⟩) (show g < u2.heap.size by omega)).trans c1; have j2 := (hSw.cell (p := ⟨lb, pn, none⟩) (show lb < u2.heap.size by omega)).trans c2; go_simp; (try with_reducible rfl))
        case rest13 =>
        (try simp only [Act.put, List.setIfInBounds_toArray, List.set_cons_zero, List.set_cons_succ])
        refine Goes.take (i := 3) (oi := ?oi14) (x := ?vx14) ?ho14 (by kernel_rfl) (by kernel_rfl) (by kernel_rfl) (by kernel_rfl) (fun _ _ _ h => h) (Or.inl ⟨?hw14, ?hy14⟩) (Below.drew (Below.refl _ _)) ?rest14
        case ho14 => (simp only [List.getElem?_toArray, List.getElem?_cons_succ, List.getElem?_cons_zero] <;> rfl)
        case hw14 => rfl
        case hy14 => (intro w' hSw; have j0 := bx_below kQ zQ hSw; have j1 := (hSw.cell (p := ⟨g, k * 12 + 11, none⟩) (show g < u2.heap.size by omega)).trans c1; have j2 := (hSw.cell (p := ⟨lb, pn, none⟩) (show lb < u2.heap.size by omega)).trans c2; go_simp; (try with_reducible rfl))
        case rest14 =>
        (try simp only [Act.put, List.setIfInBounds_toArray, List.set_cons_zero, List.set_cons_succ])
        refine Goes.take (i := 4) (oi := ?oi15) (x := ?vx15) ?ho15 (by kernel_rfl) (by kernel_rfl) (by kernel_rfl) (by kernel_rfl) (fun _ _ _ h => h) (Or.inl ⟨?hw15, ?hy15⟩) (Below.drew (Below.refl _ _)) ?rest15
        case ho15 => (simp only [List.getElem?_toArray, List.getElem?_cons_succ, List.getElem?_cons_zero] <;> rfl)
        case hw15 => rfl
        case hy15 => (intro w' hSw; have j0 := bx_below kQ zQ hSw; have j1 := (hSw.cell (p := ⟨g, k * 12 + 11, none⟩) (show g < u2.heap.size by omega)).trans c1; have j2 := (hSw.cell (p := ⟨lb, pn, none⟩) (show lb < u2.heap.size by omega)).trans c2; go_simp; (try with_reducible rfl))
        case rest15 =>
        (try simp only [Act.put, List.setIfInBounds_toArray, List.set_cons_zero, List.set_cons_succ])
        refine Goes.take (i := 5) (oi := ?oi16) (x := ?vx16) ?ho16 (by kernel_rfl) (by kernel_rfl) (by kernel_rfl) (by kernel_rfl) (fun _ _ _ h => h) (Or.inl ⟨?hw16, ?hy16⟩) (Below.drew (Below.refl _ _)) ?rest16
        case ho16 => (simp only [List.getElem?_toArray, List.getElem?_cons_succ, List.getElem?_cons_zero] <;> rfl)
        case hw16 => rfl
        case hy16 => (intro w' hSw; have j0 := bx_below kQ zQ hSw; have j1 := (hSw.cell (p := ⟨g, k * 12 + 11, none⟩) (show g < u2.heap.size by omega)).trans c1; have j2 := (hSw.cell (p := ⟨lb, pn, none⟩) (show lb < u2.heap.size by omega)).trans c2; go_simp; (try with_reducible rfl))
        case rest16 =>
        (try simp only [Act.put, List.setIfInBounds_toArray, List.set_cons_zero, List.set_cons_succ])
        refine Goes.take (i := 6) (oi := ?oi17) (x := ?vx17) ?ho17 (by kernel_rfl) (by kernel_rfl) (by kernel_rfl) (by kernel_rfl) (fun _ _ _ h => h) (Or.inl ⟨?hw17, ?hy17⟩) (Below.drew (Below.refl _ _)) ?rest17
        case ho17 => (simp only [List.getElem?_toArray, List.getElem?_cons_succ, List.getElem?_cons_zero] <;> rfl)
        case hw17 => rfl
        case hy17 => (intro w' hSw; have j0 := bx_below kQ zQ hSw; have j1 := (hSw.cell (p := ⟨g, k * 12 + 11, none⟩) (show g < u2.heap.size by omega)).trans c1; have j2 := (hSw.cell (p := ⟨lb, pn, none⟩) (show lb < u2.heap.size by omega)).trans c2; go_simp; (try with_reducible rfl))
        case rest17 =>
        (try simp only [Act.put, List.setIfInBounds_toArray, List.set_cons_zero, List.set_cons_succ])
        refine Goes.take (i := 7) (oi := ?oi18) (x := ?vx18) ?ho18 (by kernel_rfl) (by kernel_rfl) (by kernel_rfl) (by kernel_rfl) (fun _ _ _ h => h) (Or.inl ⟨?hw18, ?hy18⟩) (Below.drew (Below.refl _ _)) ?rest18
        case ho18 => (simp only [List.getElem?_toArray, List.getElem?_cons_succ, List.getElem?_cons_zero] <;> rfl)
        case hw18 => rfl
        case hy18 => (intro w' hSw; have j0 := bx_below kQ zQ hSw; have j1 := (hSw.cell (p := ⟨g, k * 12 + 11, none⟩) (show g < u2.heap.size by omega)).trans c1; have j2 := (hSw.cell (p := ⟨lb, pn, none⟩) (show lb < u2.heap.size by omega)).trans c2; go_simp; (try with_reducible rfl))
        case rest18 =>
        (try simp only [Act.put, List.setIfInBounds_toArray, List.set_cons_zero, List.set_cons_succ])
        refine Goes.take (i := 8) (oi := ?oi19) (x := ?vx19) ?ho19 (by kernel_rfl) (by kernel_rfl) (by kernel_rfl) (by kernel_rfl) (fun _ _ _ h => h) (Or.inl ⟨?hw19, ?hy19⟩) (Below.drew (Below.refl _ _)) ?rest19
        case ho19 => (simp only [List.getElem?_toArray, List.getElem?_cons_succ, List.getElem?_cons_zero] <;> rfl)
        case hw19 => rfl
        case hy19 => (intro w' hSw; have j0 := bx_below kQ zQ hSw; have j1 := (hSw.cell (p := ⟨g, k * 12 + 11, none⟩) (show g < u2.heap.size by omega)).trans c1; have j2 := (hSw.cell (p := ⟨lb, pn, none⟩) (show lb < u2.heap.size by omega)).trans c2; go_simp; (try with_reducible rfl))
        case rest19 =>
        (try simp only [Act.put, List.setIfInBounds_toArray, List.set_cons_zero, List.set_cons_succ])
        refine Goes.take (i := 9) (oi := ?oi20) (x := ?vx20) ?ho20 (by kernel_rfl) (by kernel_rfl) (by kernel_rfl) (by kernel_rfl) (fun _ _ _ h => h) (Or.inl ⟨?hw20, ?hy20⟩) (Below.drew (Below.refl _ _)) ?rest20
        case ho20 => (simp only [List.getElem?_toArray, List.getElem?_cons_succ, List.getElem?_cons_zero] <;> rfl)
        case hw20 => rfl
        case hy20 => (intro w' hSw; have j0 := bx_below kQ zQ hSw; have j1 := (hSw.cell (p := ⟨g, k * 12 + 11, none⟩) (show g < u2.heap.size by omega)).trans c1; have j2 := (hSw.cell (p := ⟨lb, pn, none⟩) (show lb < u2.heap.size by omega)).trans c2; go_simp; (try with_reducible rfl))
        case rest20 =>
        (try simp only [Act.put, List.setIfInBounds_toArray, List.set_cons_zero, List.set_cons_succ])
        refine Goes.take (i := 10) (oi := ?oi21) (x := ?vx21) ?ho21 (by kernel_rfl) (by kernel_rfl) (by kernel_rfl) (by kernel_rfl) (fun _ _ _ h => h) (Or.inl ⟨?hw21, ?hy21⟩) (Below.drew (Below.refl _ _)) ?rest21
        case ho21 => (simp only [List.getElem?_toArray, List.getElem?_cons_succ, List.getElem?_cons_zero] <;> rfl)
        case hw21 => rfl
        case hy21 => (intro w' hSw; have j0 := bx_below kQ zQ hSw; have j1 := (hSw.cell (p := ⟨g, k * 12 + 11, none⟩) (show g < u2.heap.size by omega)).trans c1; have j2 := (hSw.cell (p := ⟨lb, pn, none⟩) (show lb < u2.heap.size by omega)).trans c2; go_simp; (try with_reducible rfl))
        case rest21 =>
        (try simp only [Act.put, List.setIfInBounds_toArray, List.set_cons_zero, List.set_cons_succ])
        refine Goes.take (i := 11) (oi := ?oi22) (x := ?vx22) ?ho22 (by kernel_rfl) (by kernel_rfl) (by kernel_rfl) (by kernel_rfl) (fun _ _ _ h => h) (Or.inl ⟨?hw22, ?hy22⟩) (Below.drew (Below.refl _ _)) ?rest22
        case ho22 => (simp only [List.getElem?_toArray, List.getElem?_cons_succ, List.getElem?_cons_zero] <;> rfl)
        case hw22 => rfl
        case hy22 => (intro w' hSw; have j0 := bx_below kQ zQ hSw; have j1 := (hSw.cell (p := ⟨g, k * 12 + 11, none⟩) (show g < u2.heap.size by omega)).trans c1; have j2 := (hSw.cell (p := ⟨lb, pn, none⟩) (show lb < u2.heap.size by omega)).trans c2; go_simp; (try with_reducible rfl))
        case rest22 =>
        (try simp only [Act.put, List.setIfInBounds_toArray, List.set_cons_zero, List.set_cons_succ])
        refine Goes.take (i := 12) (oi := ?oi23) (x := ?vx23) ?ho23 (by kernel_rfl) (by kernel_rfl) (by kernel_rfl) (by kernel_rfl) (fun _ _ _ h => h) (Or.inl ⟨?hw23, ?hy23⟩) (Below.drew (Below.refl _ _)) ?rest23
        case ho23 => (simp only [List.getElem?_toArray, List.getElem?_cons_succ, List.getElem?_cons_zero] <;> rfl)
        case hw23 => rfl
        case hy23 => (intro w' hSw; have j0 := bx_below kQ zQ hSw; have j1 := (hSw.cell (p := ⟨g, k * 12 + 11, none⟩) (show g < u2.heap.size by omega)).trans c1; have j2 := (hSw.cell (p := ⟨lb, pn, none⟩) (show lb < u2.heap.size by omega)).trans c2; go_simp; (try with_reducible rfl))
        case rest23 =>
        (try simp only [Act.put, List.setIfInBounds_toArray, List.set_cons_zero, List.set_cons_succ])
        refine Goes.take (i := 13) (oi := ?oi24) (x := ?vx24) ?ho24 (by kernel_rfl) (by kernel_rfl) (by kernel_rfl) (by kernel_rfl) (fun _ _ _ h => h) (Or.inl ⟨?hw24, ?hy24⟩) (Below.drew (Below.refl _ _)) ?rest24
        case ho24 => (simp only [List.getElem?_toArray, List.getElem?_cons_succ, List.getElem?_cons_zero] <;> rfl)
        case hw24 => rfl
        case hy24 => (intro w' hSw; have j0 := bx_below kQ zQ hSw; have j1 := (hSw.cell (p := ⟨g, k * 12 + 11, none⟩) (show g < u2.heap.size by omega)).trans c1; have j2 := (hSw.cell (p := ⟨lb, pn, none⟩) (show lb < u2.heap.size by omega)).trans c2; go_simp; (try with_reducible rfl))
        case rest24 =>
        (try simp only [Act.put, List.setIfInBounds_toArray, List.set_cons_zero, List.set_cons_succ])
        refine Goes.take (i := 14) (oi := ?oi25) (x := ?vx25) ?ho25 (by kernel_rfl) (by kernel_rfl) (by kernel_rfl) (by kernel_rfl) (fun _ _ _ h => h) (Or.inl ⟨?hw25, ?hy25⟩) (Below.drew (Below.refl _ _)) ?rest25
        case ho25 => (simp only [List.getElem?_toArray, List.getElem?_cons_succ, List.getElem?_cons_zero] <;> rfl)
        case hw25 => rfl
        case hy25 => (intro w' hSw; have j0 := bx_below kQ zQ hSw; have j1 := (hSw.cell (p := ⟨g, k * 12 + 11, none⟩) (show g < u2.heap.size by omega)).trans c1; have j2 := (hSw.cell (p := ⟨lb, pn, none⟩) (show lb < u2.heap.size by omega)).trans c2; go_simp; (try with_reducible rfl))
        case rest25 =>
        (try simp only [Act.put, List.setIfInBounds_toArray, List.set_cons_zero, List.set_cons_succ])
        refine Goes.take (i := 15) (oi := ?oi26) (x := ?vx26) ?ho26 (by kernel_rfl) (by kernel_rfl) (by kernel_rfl) (by kernel_rfl) (fun _ _ _ h => h) (Or.inl ⟨?hw26, ?hy26⟩) (Below.drew (Below.refl _ _)) ?rest26
        case ho26 => (simp only [List.getElem?_toArray, List.getElem?_cons_succ, List.getElem?_cons_zero] <;> rfl)
        case hw26 => rfl
        case hy26 => (intro w' hSw; have j0 := bx_below kQ zQ hSw; have j1 := (hSw.cell (p := ⟨g, k * 12 + 11, none⟩) (show g < u2.heap.size by omega)).trans c1; have j2 := (hSw.cell (p := ⟨lb, pn, none⟩) (show lb < u2.heap.size by omega)).trans c2; go_simp; (try with_reducible rfl))
        case rest26 =>
        (try simp only [Act.put, List.setIfInBounds_toArray, List.set_cons_zero, List.set_cons_succ])
        refine Goes.take (i := 16) (oi := ?oi27) (x := ?vx27) ?ho27 (by kernel_rfl) (by kernel_rfl) (by kernel_rfl) (by kernel_rfl) (fun _ _ _ h => h) (Or.inl ⟨?hw27, ?hy27⟩) (Below.drew (Below.refl _ _)) ?rest27
        case ho27 => (simp only [List.getElem?_toArray, List.getElem?_cons_succ, List.getElem?_cons_zero] <;> rfl)
        case hw27 => rfl
        case hy27 => (intro w' hSw; have j0 := bx_below kQ zQ hSw; have j1 := (hSw.cell (p := ⟨g, k * 12 + 11, none⟩) (show g < u2.heap.size by omega)).trans c1; have j2 := (hSw.cell (p := ⟨lb, pn, none⟩) (show lb < u2.heap.size by omega)).trans c2; go_simp; (try with_reducible rfl))
        case rest27 =>
        (try simp only [Act.put, List.setIfInBounds_toArray, List.set_cons_zero, List.set_cons_succ])
        refine Goes.take (i := 17) (oi := ?oi28) (x := ?vx28) ?ho28 (by kernel_rfl) (by kernel_rfl) (by kernel_rfl) (by kernel_rfl) (fun _ _ _ h => h) (Or.inl ⟨?hw28, ?hy28⟩) (Below.drew (Below.refl _ _)) ?rest28
        case ho28 => (simp only [List.getElem?_toArray, List.getElem?_cons_succ, List.getElem?_cons_zero] <;> rfl)
        case hw28 => rfl
        case hy28 => (intro w' hSw; have j0 := bx_below kQ zQ hSw; have j1 := (hSw.cell (p := ⟨g, k * 12 + 11, none⟩) (show g < u2.heap.size by omega)).trans c1; have j2 := (hSw.cell (p := ⟨lb, pn, none⟩) (show lb < u2.heap.size by omega)).trans c2; go_simp; (try with_reducible rfl))
        case rest28 =>
        (try simp only [Act.put, List.setIfInBounds_toArray, List.set_cons_zero, List.set_cons_succ])
        refine Goes.take (i := 18) (oi := ?oi29) (x := ?vx29) ?ho29 (by kernel_rfl) (by kernel_rfl) (by kernel_rfl) (by kernel_rfl) (fun _ _ _ h => h) (Or.inl ⟨?hw29, ?hy29⟩) (Below.drew (Below.refl _ _)) ?rest29
        case ho29 => (simp only [List.getElem?_toArray, List.getElem?_cons_succ, List.getElem?_cons_zero] <;> rfl)
        case hw29 => rfl
        case hy29 => (intro w' hSw; have j0 := bx_below kQ zQ hSw; have j1 := (hSw.cell (p := ⟨g, k * 12 + 11, none⟩) (show g < u2.heap.size by omega)).trans c1; have j2 := (hSw.cell (p := ⟨lb, pn, none⟩) (show lb < u2.heap.size by omega)).trans c2; go_simp; (try with_reducible rfl))
        case rest29 =>
        (try simp only [Act.put, List.setIfInBounds_toArray, List.set_cons_zero, List.set_cons_succ])
        refine Goes.take (i := 19) (oi := ?oi30) (x := ?vx30) ?ho30 (by kernel_rfl) (by kernel_rfl) (by kernel_rfl) (by kernel_rfl) (fun _ _ _ h => h) (Or.inl ⟨?hw30, ?hy30⟩) (Below.drew (Below.refl _ _)) ?rest30
        case ho30 => (simp only [List.getElem?_toArray, List.getElem?_cons_succ, List.getElem?_cons_zero] <;> rfl)
        case hw30 => rfl
        case hy30 => (intro w' hSw; have j0 := bx_below kQ zQ hSw; have j1 := (hSw.cell (p := ⟨g, k * 12 + 11, none⟩) (show g < u2.heap.size by omega)).trans c1; have j2 := (hSw.cell (p := ⟨lb, pn, none⟩) (show lb < u2.heap.size by omega)).trans c2; go_simp; (try with_reducible rfl))
        case rest30 =>
        (try simp only [Act.put, List.setIfInBounds_toArray, List.set_cons_zero, List.set_cons_succ])
        refine Goes.all (rs := [20]) (by kernel_rfl) (by simp) ?_
        refine Ups.cons (i := 20) (o := ?oo31) ?ho31 (fun KK hKK => ?stp31) Ups.nil
        case ho31 => (simp only [List.getElem?_toArray, List.getElem?_cons_succ, List.getElem?_cons_zero] <;> rfl)
        case stp31 =>
        go_simp
        refine hKK.out _ _ (Or.inl rfl) ?_
        clear hKK KK
        (try simp only [Act.put])
        refine Goes.done (by kernel_rfl) ?_ _
        refine NoPanic.normal ?_
        replace kQ3 : ∀ o, ((u2.setCell ⟨lb, pn, none⟩ (.int .u8 X)).drew).cell? ⟨q, o, none⟩ = (#[.slice (some ⟨g, 0, none⟩) nb vc, .slice da' 3 dc] : Array Value)[o]? := kQ3
        replace kR3 : ∀ o, ((u2.setCell ⟨lb, pn, none⟩ (.int .u8 X)).drew).cell? ⟨w.heap.size + 1, o, none⟩ = (#[.int .i64 0, .int .i64 0, .int .i64 0, .bool false, .bool false, .bool false, .int .i64 0, .int .i64 0, .int .i64 0, .int .i64 0, .int .i64 0, .int .i64 0, .slice none 0 0, .slice none 0 0, .slice none 0 0] : Array Value)[o]? := kR3
        replace fR3 : ∀ o, ((u2.setCell ⟨lb, pn, none⟩ (.int .u8 X)).drew).frozen? ⟨w.heap.size + 1, o, none⟩ = false := fR3
        replace XD3 : Hid (Own ((u2.setCell ⟨lb, pn, none⟩ (.int .u8 X)).drew) w0 m (bls 4) dead [.slice da' 3 dc]) := Own.keep XD3.out (fun b h1 h2 => rfl)
        replace HO3 : Hid (Own ((u2.setCell ⟨lb, pn, none⟩ (.int .u8 X)).drew) m hh shSegms (bag.set k (altX sx pn x3)) [.slice (some ⟨g, 0, none⟩) nb vc]) := Own.keep HO3.out (fun b h1 h2 => rfl)
        replace HB3 : Hid (Below w.heap.size w ((u2.setCell ⟨lb, pn, none⟩ (.int .u8 X)).drew)) := ⟨HB3.out.os, HB3.out.tape, HB3.out.output, HB3.out.size, HB3.out.block⟩
        replace hz3 : hh ≤ ((u2.setCell ⟨lb, pn, none⟩ (.int .u8 X)).drew).heap.size := hz3
        generalize hWW : (u2.setCell ⟨lb, pn, none⟩ (.int .u8 X)).drew = u4 at kQ3 kR3 fR3 XD3 HO3 HB3 hz3 ⊢
        clear hWW kQ kR fR HB XO XD c1 c2 fb hX
        have kQ := kQ3
        have kR := kR3
        have fR := fR3
        have HB := HB3
        clear kQ3 kR3 fR3 HB3
        have HO : Hid (Own u4 w0 u4.heap.size (shNR 4) (0, zSg, (bag.set k (altX sx pn x3), dead, ()), ()) (.int .i64 0 :: (zSc ++ [.slice (some ⟨g, 0, none⟩) nb vc, .slice da' 3 dc]))) := own_NR (by decide) (own_zSg u4 _ w0) (own_Net' XD3.out (Own.mono HO3.out (Nat.le_refl _) hz3) hm1 (by omega)) (Nat.le_refl _) (by omega)
        clear HO3 XD3
        obtain ⟨N15, hN⟩ : ∃ N : Array Value, N = #[.int .i64 0, .int .i64 0, .int .i64 0, .bool false, .bool false, .bool false, .int .i64 0, .int .i64 0, .int .i64 0, .int .i64 0, .int .i64 0, .int .i64 0, .slice none 0 0, .slice (some ⟨g, 0, none⟩) nb vc, .slice da' 3 dc] := ⟨_, rfl⟩
        have HN15 : Hid _ := hN
        have hNz : N15.size = 15 := by rw [hN]; rfl
        have HNZ15 : Hid (N15.size = 15) := hNz
        have HIN15 : Hid ((Try.prog.info? 34).map (·.size) = some N15.size) := by show _ = _; rw [hNz]; exact info_NR
        have HONE15 : Hid (N15.all (·.oneCell') = true) := by show _ = _; rw [hN]; simp [Value.oneCell']
        clear hN hNz
        have HTH : Hid (u4.there (w.heap.size + 1) 0 N15.size) := bx_there kR fR (by rw [HNZ15.out]; rfl)
        have HKR : Hid (∀ o, (u4.setCells (w.heap.size + 1) 0 N15.toList).cell? ⟨w.heap.size + 1, o, none⟩ = N15[o]?) := bx_setCells kR (by rw [HNZ15.out]; rfl)
        go_wp2_with (first | (refine wpList_load_mid rfl 32 _ rfl _ _ (by rfl) [.slice (some ⟨g, 0, none⟩) nb vc, .slice da' 3 dc] _ (bx_range kQ) Try.underlying32 rfl info_NT ?_) | (refine wpList_store_mid rfl 34 _ _ rfl _ _ N15 (by rfl) (by rw [HN15.out]; rfl) HTH.out HIN15.out HONE15.out ?_))
        refine bodyPost_ret (results_box Try.results18 _ _ _ N15 _ (by rfl) HKR.out Try.underlying34 rfl (by exact HIN15.out)) rfl ⟨N15, rfl, ?_, ?_⟩
        · rw [setCells_size, HN15.out]
          exact (Own.keep (by rw [hv]; exact HO.out) (fun b h1 h2 => setCells_block (by omega) _ _ _)).mono (by omega) (Nat.le_refl _)
        · exact setCells_below (by omega) _ _ _ _ HB.out
  · rw [if_pos hF] at hv
    have h1 : (askF bag dead x1 != 0) = true := by simp [hF]
    have h2 : (askF bag dead x1 == 0) = false := by simp [hF]
    clear HAK
    generalize askF bag dead x1 = q at *
    obtain ⟨N15, hN⟩ : ∃ N : Array Value, N = #[.int .i64 q, .int .i64 0, .int .i64 0, .bool false, .bool false, .bool false, .int .i64 0, .int .i64 0, .int .i64 0, .int .i64 0, .int .i64 0, .int .i64 0, .slice none 0 0, .slice none 0 0, .slice none 0 0] := ⟨_, rfl⟩
    have HN15 : Hid _ := hN
    have hNz : N15.size = 15 := by rw [hN]; rfl
    have HNZ15 : Hid (N15.size = 15) := hNz
    have HIN15 : Hid ((Try.prog.info? 34).map (·.size) = some N15.size) := by show _ = _; rw [hNz]; exact info_NR
    have HONE15 : Hid (N15.all (·.oneCell') = true) := by show _ = _; rw [hN]; simp [Value.oneCell']
    clear hN hNz
    have HTH : Hid (w2.there (w.heap.size + 1) 0 N15.size) := bx_there kR fR (by rw [HNZ15.out]; rfl)
    have HKR : Hid (∀ o, (w2.setCells (w.heap.size + 1) 0 N15.toList).cell? ⟨w.heap.size + 1, o, none⟩ = N15[o]?) := bx_setCells kR (by rw [HNZ15.out]; rfl)
    go_wp2_with (first | (refine wpList_store_mid rfl 34 _ _ rfl _ _ N15 (by rfl) (by rw [HN15.out]; rfl) HTH.out HIN15.out HONE15.out ?_))
    refine bodyPost_ret (results_box Try.results18 _ _ _ N15 _ (by rfl) HKR.out Try.underlying34 rfl (by exact HIN15.out)) rfl ⟨N15, rfl, ?_, ?_⟩
    · rw [setCells_size, HN15.out]
      exact (Own.keep (by rw [hv]; exact own_badN _ w2 (w.heap.size + 2) w2.heap.size HWF.out (by omega)) (fun b h1 h2 => setCells_block (by omega) _ _ _)).mono (by omega) (Nat.le_refl _)
    · exact setCells_below (by omega) _ _ _ _ HB.out
end Go.Proofs.Ytlfncadngcjdjab
