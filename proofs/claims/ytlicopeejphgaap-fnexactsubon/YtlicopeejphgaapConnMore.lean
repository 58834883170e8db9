/- Where a path stands at a conn, and how far what came in is done, by program and model; nothing that was in memory turns; no condition but that there are at most a million parts. -/
import Derived.Test.YtlicopeejphgaapRows
import Derived.Test.YtlicopeejphgaapBase
import Derived.Test.YtlicopeejphgaapBytes
import Derived.Test.YtlicopeejphgaapMem
import Derived.Test.YtlicopeejphgaapHBase
import Derived.Test.YtlicopeejphgaapHFlight
import Derived.Test.YtlicopeejphgaapHSender
import Derived.Test.YtlicopeejphgaapHSpan
import Derived.Test.YtlicopeejphgaapHCatch
import Derived.Test.YtlicopeejphgaapFlightDef
import Derived.Test.YtlicopeejphgaapImplFlight
import Derived.Test.YtlicopeejphgaapCatDef
import Derived.Test.YtlicopeejphgaapCtrl
import Derived.Test.YtlicopeejphgaapHSub
import Derived.Test.YtlicopeejphgaapSubDef
import Derived.Test.YtlicopeejphgaapSubImpl
import Derived.Test.YtlicopeejphgaapHSubA
import Derived.Test.YtlicopeejphgaapHSubs
import Derived.Test.YtlicopeejphgaapGath
import Derived.Test.YtlicopeejphgaapGathLaw
import Derived.Test.YtlicopeejphgaapImplGath
import Derived.Test.YtlicopeejphgaapAgg
import Derived.Test.YtlicopeejphgaapRegionU
import Derived.Test.YtlicopeejphgaapRegionQ
import Derived.Test.YtlicopeejphgaapBox
import Derived.Test.YtlicopeejphgaapSubBox
import Derived.Test.YtlicopeejphgaapHConn
import Derived.Test.YtlicopeejphgaapConnDef
import Derived.Test.YtlicopeejphgaapSubSpec
import Derived.Test.YtlicopeejphgaapConnSpec
import Derived.Test.YtlicopeejphgaapConnImpl
import Derived.Test.YtlicopeejphgaapConnImpl2
import Derived.Test.YtlicopeejphgaapIter
import Derived.Test.YtlicopeejphgaapIterSub
import Derived.Test.YtlicopeejphgaapConnImplF
import Derived.Test.YtlicopeejphgaapConnSpecF
import Derived.Test.YtlicopeejphgaapConnSpec3
import Derived.Deep.RegionHeld3
import Derived.Deep.DeepCutAuto
import Derived.Deep.CutRange
import Derived.Deep.QuietTactic
import Derived.BigQuiet
namespace Go.Proofs.Ytlicopeejphgaap
open Go.RowKit
set_option linter.unusedVariables false
set_option maxRecDepth 8000

theorem two_boxes {w w1 : World} {A Z : Array Value} {t t' : TypeId} (hb : Below ((w.alloc (.cells A t)).alloc (.cells Z t')).heap.size ((w.alloc (.cells A t)).alloc (.cells Z t')) w1) :
    (∀ o, w1.cell? ⟨w.heap.size, o, none⟩ = A[o]?) ∧ (∀ o, w1.cell? ⟨w.heap.size + 1, o, none⟩ = Z[o]?) ∧ (∀ o, w1.frozen? ⟨w.heap.size + 1, o, none⟩ = false) ∧ Below w.heap.size w w1 ∧ w.heap.size + 1 < w1.heap.size := by
  refine ⟨fun o => ?_, fun o => ?_, fun o => ?_, ?_, ?_⟩
  · rw [hb.cell (p := ⟨w.heap.size, o, none⟩) (by simp; omega)]; simp [go_sem]
  · rw [hb.cell (p := ⟨w.heap.size + 1, o, none⟩) (by simp)]; simp [go_sem]
  · rw [hb.frozen (p := ⟨w.heap.size + 1, o, none⟩) (by simp)]; simp [go_sem]
  · exact Below.trans (((Below.refl _ _).alloc (Nat.le_refl _) _).alloc (by simp) _) (hb.mono (by simp; omega))
  · have := hb.size; simp at this; omega
theorem bx2c {w : World} {b : Nat} {x0 x1 u v : Value} (h : ∀ o, w.cell? ⟨b, o, none⟩ = (#[x0, x1] : Array Value)[o]?) : ∀ o, ((w.setCell ⟨b, 0, none⟩ u).setCell ⟨b, 1, none⟩ v).cell? ⟨b, o, none⟩ = (#[u, v] : Array Value)[o]? := by
  have h2 := bx_put (bx_put h (k := 0) (v := u) (by simp)) (k := 1) (v := v) (by simp)
  simpa using h2
theorem info_IntR : (Try.prog.info? 44).map (·.size) = some 2 := by kernel_rfl
def subOnC (c : DConn) (p : Int) : Int := if connF c = 0 then (if placeD c.subs p < 0 then 4 else 0) else connF c
def subOnV (c : DConn) (p : Int) : Int := if connF c = 0 then (if placeD c.subs p < 0 then 0 else placeD c.subs p) else 0
/-- How far what came in is done; the end counts as one more. -/
def dackD (c : DConn) : Int := if c.finIn = (c.inn.1.length : Int) then (c.inn.1.length : Int) + 1 else (c.inn.1.length : Int)
def dackV (c : DConn) : Int := if connF c = 0 then dackD c else 0
set_option maxHeartbeats 1000000 in
theorem sL9On (c : DConn) (A : Array Value) (cb of : Nat) (p : Int) (w : World) (B : Nat) (h : ConnAt w B c A cb of) :
    Calls Try.prog 33 #[.pointer (some ⟨cb, of, none⟩), .int .i64 p] w fun e w' => e = .returned (.int .i64 (placeD c.subs p)) ∧ w' = w := by
  obtain ⟨y0, y1, y2, y3, y4, d5, y6, y7, y8, d9, y10, y11, l, ⟨⟩⟩ := c
  obtain ⟨a5, c5, a9, c9, a9', c9', a12, c12, eA, -, -, r12, -⟩ := rd_Conn h.rd
  have hT := h.tot
  have x13 : w.cell? ⟨cb, of + 13, none⟩ = some (.slice a12 l.length c12) := h.at_ 13 _ (by rw [eA]; rfl)
  have hmx : l.length ≤ 1048576 := by have h2 : d5.length + gtTot d9 + totSubs l ≤ 1048576 := hT; unfold totSubs at h2; omega
  obtain ⟨R, hR⟩ : ∃ R, R = placeD l p := ⟨_, rfl⟩
  have HR : Hid _ := hR
  show Calls _ _ _ _ fun e w' => e = .returned (.int .i64 (placeD l p)) ∧ _
  rw [← hR]
  obtain ⟨n, hn⟩ : ∃ n, l.length = n := ⟨_, rfl⟩
  have HRd : Hid (shSubs.Rd w B l [.slice a12 n c12]) := by rw [← hn]; exact r12
  rw [hn] at x13 hmx
  have HN : Hid (l.length = n) := hn
  clear h eA r12 hT hR hn
  go_enter Try.func33, Try.ntmps33
  go_wp2_with fail
  go_loopw [5] (fun i wr => ∃ (k : Nat), k ≤ n ∧ i = .int .i64 k ∧ Hid (∀ j (hj : j < l.length), j < k → l[j].1 ≠ p) ∧ wr = w) (fun i _ => n - (intOf i).toNat)
  case atStart => exact ⟨0, Nat.zero_le _, rfl, fun j _ h => absurd h (Nat.not_lt_zero _), rfl⟩
  case round =>
    obtain ⟨k, hk, rfl, HQ, hw⟩ := hrel
    subst wr
    by_cases hlt : k < n
    · have hkl : k < l.length := by have := HN.out; omega
      have hki : (k : Int) < (n : Int) := by omega
      have hk0 : (0 : Int) ≤ (k : Int) := by omega
      obtain ⟨b, off, cs, ha, -, -, -, -, q0, -, -⟩ := sub_at (HRd.out : shSubs.Rd w B l [.slice a12 n c12]) k hkl
      subst ha
      by_cases he : l[k].1 = p
      · have hRk : R = k := by rw [HR.out]; exact place_at hkl HQ.out he
        have he' : (l[k].1 == p) = true := by simp [he]
        subst hRk
        clear HQ he
        generalize l[k].1 = pk at *
        go_wp2_with fail
        go_ret
        exact ⟨rfl, rfl⟩
      · have HQ2 : Hid (∀ j (hj : j < l.length), j < k + 1 → l[j].1 ≠ p) := fun j hj hjk => by
          by_cases e : j = k
          · subst e; exact he
          · exact HQ.out j hj (by omega)
        have he' : (l[k].1 == p) = false := by simp [he]
        clear HQ he
        go_wp2_with fail
        go_roundw
        case rel => exact ⟨k + 1, by omega, by go_num, HQ2, by first | trivial | rfl⟩
        case measure => simp [intOf]; omega
    · obtain rfl : k = n := by omega
      have hR0 : R = -1 := by rw [HR.out]; exact place_no (fun j hj => HQ.out j hj (by have := HN.out; omega))
      subst hR0
      go_wp2_with fail
      go_ret
      exact ⟨rfl, rfl⟩
set_option maxHeartbeats 1000000 in
theorem sSubOn (c : DConn) (A : Array Value) (p : Int) (w : World) (B : Nat) (hr : shConn.Rd w B c A.toList) (hB : B ≤ w.heap.size) (hT : totConn c ≤ 1048576) :
    Calls Try.prog 11 #[.agg A, .int .i64 p] w fun e w' => e = .returned (.agg #[.int .i64 (subOnC c p), .int .i64 (subOnV c p)]) ∧ Below w.heap.size w w' := by
  have hz : A.size = 14 := rd_size hr
  have HI : Hid ((Try.prog.info? 28).map (·.size) = some A.toList.length) := by show _ = _; rw [Array.length_toList, hz]; exact (by kernel_rfl : (Try.prog.info? 28).map (·.size) = some 14)
  have HRGX : Hid (∀ W : World, (∀ o, W.cell? ⟨w.heap.size, o, none⟩ = A[o]?) → Hid (W.rangeAt w.heap.size 0 A.toList)) := fun W hk => bx_range hk
  have HAT : Hid (∀ W, Below w.heap.size w W → (∀ o, W.cell? ⟨w.heap.size, o, none⟩ = A[o]?) → ConnAt W B c A w.heap.size 0) := fun W hW hk => ConnAt.of (bx_range hk) (Sh.Rd.below hr hB hW) (Nat.le_trans hB hW.size) hT
  have HF : Hid (∀ W, Below w.heap.size w W → (∀ o, W.cell? ⟨w.heap.size, o, none⟩ = A[o]?) → Calls Try.prog 32 #[.pointer (some ⟨w.heap.size, 0, none⟩)] W fun e w' => e = .returned (.int .i64 (connF c)) ∧ Below W.heap.size W w') := fun W hW hk => sL9Fault c A w.heap.size 0 W B (HAT.out W hW hk)
  have H2 : Hid (∀ W, Below w.heap.size w W → (∀ o, W.cell? ⟨w.heap.size, o, none⟩ = A[o]?) → Calls Try.prog 33 #[.pointer (some ⟨w.heap.size, 0, none⟩), .int .i64 p] W fun e w' => e = .returned (.int .i64 (placeD c.subs p)) ∧ w' = W) := fun W hW hk => sL9On c A w.heap.size 0 p W B (HAT.out W hW hk)
  obtain ⟨RC, hRC⟩ : ∃ R, R = subOnC c p := ⟨_, rfl⟩
  obtain ⟨RV, hRV⟩ : ∃ R, R = subOnV c p := ⟨_, rfl⟩
  rw [← hRC, ← hRV]
  have HC : Hid _ := hRC
  have HV : Hid _ := hRV
  unfold subOnV at HV
  unfold subOnC at HC
  clear hr hRC hRV HAT hz
  generalize connF c = F at *
  generalize placeD c.subs p = PL at *
  by_cases hF : F = 0
  case neg =>
    have e1 : F = RC := by rw [HC.out, if_neg hF]
    have e2 : RV = 0 := by rw [HV.out, if_neg hF]
    subst e1 e2
    have hF' : (F != 0) = true := by simp [hF]
    clear hF HC HV H2
    go_enter Try.func11, Try.ntmps11
    go_wp2_with fail
    refine (HF.out _ (by go_grown) (fun o => by simp [go_sem])).mono ?_
    rintro e w1 ⟨rfl, hb⟩
    obtain ⟨k0, kR, fR, hb1, z0⟩ := two_boxes hb
    have HB : Hid (Below w.heap.size w w1) := hb1
    clear hb hb1
    go_wp2_with fail
    refine bodyPost_ret (results_box Try.results11 _ _ _ #[.int .i64 F, .int .i64 0] _ (by rfl) (bx2c kR) Try.underlying44 rfl info_IntR) rfl ⟨rfl, ?_⟩
    exact Below.setCell (Below.setCell HB.out (by dsimp only; omega) _) (by dsimp only; omega) _
  subst hF
  have hc := HC.out
  have hv := HV.out
  rw [if_pos rfl] at hc hv
  clear HC HV
  by_cases hP : PL < 0
  · rw [if_pos hP] at hc hv
    subst hc hv
    go_enter Try.func11, Try.ntmps11
    go_wp2_with fail
    refine (HF.out _ (by go_grown) (fun o => by simp [go_sem])).mono ?_
    rintro e w1 ⟨rfl, hb⟩
    obtain ⟨k0, kR, fR, hb1, z0⟩ := two_boxes hb
    have HB : Hid (Below w.heap.size w w1) := hb1
    clear hb hb1
    go_wp2_with fail
    refine (H2.out _ HB.out k0).mono ?_
    rintro e w2 ⟨rfl, hw⟩
    subst w2
    go_wp2_with fail
    refine bodyPost_ret (results_box Try.results11 _ _ _ #[.int .i64 4, .int .i64 0] _ (by rfl) (bx2c kR) Try.underlying44 rfl info_IntR) rfl ⟨rfl, ?_⟩
    exact Below.setCell (Below.setCell HB.out (by dsimp only; omega) _) (by dsimp only; omega) _
  · rw [if_neg hP] at hc hv
    have hv' := hv.symm
    subst hc hv'
    go_enter Try.func11, Try.ntmps11
    go_wp2_with fail
    refine (HF.out _ (by go_grown) (fun o => by simp [go_sem])).mono ?_
    rintro e w1 ⟨rfl, hb⟩
    obtain ⟨k0, kR, fR, hb1, z0⟩ := two_boxes hb
    have HB : Hid (Below w.heap.size w w1) := hb1
    clear hb hb1
    go_wp2_with fail
    refine (H2.out _ HB.out k0).mono ?_
    rintro e w2 ⟨rfl, hw⟩
    subst w2
    go_wp2_with fail
    refine bodyPost_ret (results_box Try.results11 _ _ _ #[.int .i64 0, .int .i64 PL] _ (by rfl) (bx2c kR) Try.underlying44 rfl info_IntR) rfl ⟨rfl, ?_⟩
    exact Below.setCell (Below.setCell HB.out (by dsimp only; omega) _) (by dsimp only; omega) _
set_option maxHeartbeats 1000000 in
theorem iSubOn (c : DConn) (A : Array Value) (p : Int) (w : World) (B : Nat) (hr : shConn.Rd w B c A.toList) (hB : B ≤ w.heap.size) (hT : totConn c ≤ 1048576) :
    Calls Try.prog 13 #[.agg A, .int .i64 p] w fun e w' => e = .returned (.agg #[.int .i64 (subOnC c p), .int .i64 (subOnV c p)]) ∧ Below w.heap.size w w' := by
  have hz : A.size = 14 := rd_size hr
  have HI : Hid ((Try.prog.info? 28).map (·.size) = some A.toList.length) := by show _ = _; rw [Array.length_toList, hz]; exact (by kernel_rfl : (Try.prog.info? 28).map (·.size) = some 14)
  have HRGX : Hid (∀ W : World, (∀ o, W.cell? ⟨w.heap.size, o, none⟩ = A[o]?) → Hid (W.rangeAt w.heap.size 0 A.toList)) := fun W hk => bx_range hk
  have HAT : Hid (∀ W, Below w.heap.size w W → (∀ o, W.cell? ⟨w.heap.size, o, none⟩ = A[o]?) → ConnAt W B c A w.heap.size 0) := fun W hW hk => ConnAt.of (bx_range hk) (Sh.Rd.below hr hB hW) (Nat.le_trans hB hW.size) hT
  have HF : Hid (∀ W, Below w.heap.size w W → Calls Try.prog 37 #[.agg A] W fun e w' => e = .returned (.int .i64 (connF c)) ∧ Below W.heap.size W w') := fun W hW => iConnFault c A W B (Sh.Rd.below hr hB hW) (Nat.le_trans hB hW.size) hT
  have HS : Hid (∃ a12 n c12, A[13]? = some (.slice a12 n c12) ∧ ∀ W, Below w.heap.size w W → Calls Try.prog 38 #[.slice a12 n c12, .int .i64 p] W fun e w' => e = .returned (.int .i64 (placeD c.subs p)) ∧ Below W.heap.size W w') := by
    obtain ⟨y0, y1, y2, y3, y4, d5, y6, y7, y8, d9, y10, y11, l, ⟨⟩⟩ := c
    obtain ⟨a5, c5, a9, c9, a9', c9', a12, c12, eA, -, -, r12, -⟩ := rd_Conn hr
    have h2 : d5.length + gtTot d9 + totSubs l ≤ 1048576 := hT
    exact ⟨a12, l.length, c12, get_of eA 13, fun W hW => iPlaceOn l a12 l.length c12 p W B (Sh.Rd.below (s := shSubs) r12 hB hW) (Nat.le_trans hB hW.size) rfl (by unfold totSubs at h2; omega)⟩
  obtain ⟨a12, n, c12, a13, hpl⟩ := HS.out
  have H2 : Hid _ := hpl
  clear HS hpl
  obtain ⟨RC, hRC⟩ : ∃ R, R = subOnC c p := ⟨_, rfl⟩
  obtain ⟨RV, hRV⟩ : ∃ R, R = subOnV c p := ⟨_, rfl⟩
  rw [← hRC, ← hRV]
  have HC : Hid _ := hRC
  have HV : Hid _ := hRV
  unfold subOnV at HV
  unfold subOnC at HC
  clear hr hRC hRV HAT hz
  generalize connF c = F at *
  generalize placeD c.subs p = PL at *
  by_cases hF : F = 0
  case neg =>
    have e1 : F = RC := by rw [HC.out, if_neg hF]
    have e2 : RV = 0 := by rw [HV.out, if_neg hF]
    subst e1 e2
    have hF' : (F != 0) = true := by simp [hF]
    clear hF HC HV H2
    go_enter Try.func13, Try.ntmps13
    go_upto_region 1 with fail
    have HRG := HRGX.out ((w.alloc (.cells A 28)).alloc (.cells #[.int .i64 0, .int .i64 0] 44)) (fun o => by simp [go_sem])
    go_wp2_with (refine wpList_load_mid rfl 28 _ rfl _ _ (by rfl) A.toList _ HRG.out Try.underlying28 rfl HI.out ?_)
    refine (HF.out _ (by go_grown)).mono ?_
    rintro e w1 ⟨rfl, hb⟩
    obtain ⟨k0, kR, fR, hb1, z0⟩ := two_boxes hb
    have HB : Hid (Below w.heap.size w w1) := hb1
    clear hb hb1
    replace HRG := HRGX.out _ k0
    go_wp2_with fail
    refine bodyPost_ret (results_box Try.results13 _ _ _ #[.int .i64 F, .int .i64 0] _ (by rfl) (bx2c kR) Try.underlying44 rfl info_IntR) rfl ⟨rfl, ?_⟩
    exact Below.setCell (Below.setCell HB.out (by dsimp only; omega) _) (by dsimp only; omega) _
  subst hF
  have hc := HC.out
  have hv := HV.out
  rw [if_pos rfl] at hc hv
  clear HC HV
  by_cases hP : PL < 0
  · rw [if_pos hP] at hc hv
    subst hc hv
    go_enter Try.func13, Try.ntmps13
    go_upto_region 1 with fail
    have HRG := HRGX.out ((w.alloc (.cells A 28)).alloc (.cells #[.int .i64 0, .int .i64 0] 44)) (fun o => by simp [go_sem])
    go_wp2_with (refine wpList_load_mid rfl 28 _ rfl _ _ (by rfl) A.toList _ HRG.out Try.underlying28 rfl HI.out ?_)
    refine (HF.out _ (by go_grown)).mono ?_
    rintro e w1 ⟨rfl, hb⟩
    obtain ⟨k0, kR, fR, hb1, z0⟩ := two_boxes hb
    have HB : Hid (Below w.heap.size w w1) := hb1
    clear hb hb1
    replace HRG := HRGX.out _ k0
    go_wp2_with fail
    refine (H2.out _ HB.out).mono ?_
    rintro e w2 ⟨rfl, hb⟩
    replace kR := bx_below kR z0 hb
    replace fR := bxF fR hb z0
    replace z0 := Nat.lt_of_lt_of_le z0 hb.size
    replace HB : Hid (Below w.heap.size w w2) := HB.out.trans (hb.mono HB.out.size)
    clear hb
    go_wp2_with fail
    refine bodyPost_ret (results_box Try.results13 _ _ _ #[.int .i64 4, .int .i64 0] _ (by rfl) (bx2c kR) Try.underlying44 rfl info_IntR) rfl ⟨rfl, ?_⟩
    exact Below.setCell (Below.setCell HB.out (by dsimp only; omega) _) (by dsimp only; omega) _
  · rw [if_neg hP] at hc hv
    have hv' := hv.symm
    subst hc hv'
    go_enter Try.func13, Try.ntmps13
    go_upto_region 1 with fail
    have HRG := HRGX.out ((w.alloc (.cells A 28)).alloc (.cells #[.int .i64 0, .int .i64 0] 44)) (fun o => by simp [go_sem])
    go_wp2_with (refine wpList_load_mid rfl 28 _ rfl _ _ (by rfl) A.toList _ HRG.out Try.underlying28 rfl HI.out ?_)
    refine (HF.out _ (by go_grown)).mono ?_
    rintro e w1 ⟨rfl, hb⟩
    obtain ⟨k0, kR, fR, hb1, z0⟩ := two_boxes hb
    have HB : Hid (Below w.heap.size w w1) := hb1
    clear hb hb1
    replace HRG := HRGX.out _ k0
    go_wp2_with fail
    refine (H2.out _ HB.out).mono ?_
    rintro e w2 ⟨rfl, hb⟩
    replace kR := bx_below kR z0 hb
    replace fR := bxF fR hb z0
    replace z0 := Nat.lt_of_lt_of_le z0 hb.size
    replace HB : Hid (Below w.heap.size w w2) := HB.out.trans (hb.mono HB.out.size)
    clear hb
    go_wp2_with fail
    refine bodyPost_ret (results_box Try.results13 _ _ _ #[.int .i64 0, .int .i64 PL] _ (by rfl) (bx2c kR) Try.underlying44 rfl info_IntR) rfl ⟨rfl, ?_⟩
    exact Below.setCell (Below.setCell HB.out (by dsimp only; omega) _) (by dsimp only; omega) _
end Go.Proofs.Ytlicopeejphgaap
