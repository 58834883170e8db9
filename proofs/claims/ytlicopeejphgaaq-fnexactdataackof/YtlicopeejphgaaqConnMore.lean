/- Where a path stands at a conn, and how far what came in is done, by program and model; nothing that was in memory turns; no condition but that there are at most a million parts. -/
import Derived.Test.YtlicopeejphgaaqRows
import Derived.Test.YtlicopeejphgaaqBase
import Derived.Test.YtlicopeejphgaaqBytes
import Derived.Test.YtlicopeejphgaaqMem
import Derived.Test.YtlicopeejphgaaqHBase
import Derived.Test.YtlicopeejphgaaqHFlight
import Derived.Test.YtlicopeejphgaaqHSender
import Derived.Test.YtlicopeejphgaaqHSpan
import Derived.Test.YtlicopeejphgaaqHCatch
import Derived.Test.YtlicopeejphgaaqFlightDef
import Derived.Test.YtlicopeejphgaaqImplFlight
import Derived.Test.YtlicopeejphgaaqCatDef
import Derived.Test.YtlicopeejphgaaqCtrl
import Derived.Test.YtlicopeejphgaaqHSub
import Derived.Test.YtlicopeejphgaaqSubDef
import Derived.Test.YtlicopeejphgaaqSubImpl
import Derived.Test.YtlicopeejphgaaqHSubA
import Derived.Test.YtlicopeejphgaaqHSubs
import Derived.Test.YtlicopeejphgaaqGath
import Derived.Test.YtlicopeejphgaaqGathLaw
import Derived.Test.YtlicopeejphgaaqImplGath
import Derived.Test.YtlicopeejphgaaqAgg
import Derived.Test.YtlicopeejphgaaqRegionU
import Derived.Test.YtlicopeejphgaaqRegionQ
import Derived.Test.YtlicopeejphgaaqBox
import Derived.Test.YtlicopeejphgaaqSubBox
import Derived.Test.YtlicopeejphgaaqHConn
import Derived.Test.YtlicopeejphgaaqConnDef
import Derived.Test.YtlicopeejphgaaqSubSpec
import Derived.Test.YtlicopeejphgaaqConnSpec
import Derived.Test.YtlicopeejphgaaqConnImpl
import Derived.Test.YtlicopeejphgaaqConnImpl2
import Derived.Test.YtlicopeejphgaaqIter
import Derived.Test.YtlicopeejphgaaqIterSub
import Derived.Test.YtlicopeejphgaaqConnImplF
import Derived.Test.YtlicopeejphgaaqConnSpecF
import Derived.Test.YtlicopeejphgaaqConnSpec3
import Derived.Deep.RegionHeld3
import Derived.Deep.DeepCutAuto
import Derived.Deep.CutRange
import Derived.Deep.QuietTactic
import Derived.BigQuiet
namespace Go.Proofs.Ytlicopeejphgaaq
open Go.RowKit
set_option linter.unusedVariables false
set_option maxRecDepth 8000

theorem two_boxes {w w1 : World} {A Z : Array Value} {t t' : TypeId} (hb : Below ((w.alloc (.cells A t)).alloc (.cells Z t')).heap.size ((w.alloc (.cells A t)).alloc (.cells Z t')) w1) :
    (∀ o, w1.cell? ⟨w.heap.size, o, none⟩ = A[o]?) ∧ (∀ o, w1.cell? ⟨w.heap.size + 1, o, none⟩ = Z[o]?) ∧ (∀ o, w1.frozen? ⟨w.heap.size + 1, o, none⟩ = false) ∧ Below w.heap.size w w1 ∧ w.heap.size + 1 < w1.heap.size := by
  refine ⟨fun o => ?_, fun o => ?_, fun o => ?_, ?_, ?_⟩
  · rw [hb.cell (p := ⟨w.heap.size, o, none⟩) (by simp; omega)]; simp [go_sem]
  · rw [hb.cell (p := ⟨w.heap.size + 1, o, none⟩) (by simp)]; simp [go_sem]
  · rw [hb.frozen (p := ⟨w.heap.size + 1, o, none⟩) (by simp)]; simp [go_sem]
  · exact Below.trans (((Below.refl _ _).alloc (Nat.le_refl _) _).alloc (by simp) _) (hb.mono (by simp; omega))
  · have := hb.size; simp at this; omega
theorem bx2c {w : World} {b : Nat} {x0 x1 u v : Value} (h : ∀ o, w.cell? ⟨b, o, none⟩ = (#[x0, x1] : Array Value)[o]?) : ∀ o, ((w.setCell ⟨b, 0, none⟩ u).setCell ⟨b, 1, none⟩ v).cell? ⟨b, o, none⟩ = (#[u, v] : Array Value)[o]? := by
  have h2 := bx_put (bx_put h (k := 0) (v := u) (by simp)) (k := 1) (v := v) (by simp)
  simpa using h2
theorem info_IntR : (Try.prog.info? 31).map (·.size) = some 2 := by kernel_rfl
def subOnC (c : DConn) (p : Int) : Int := if connF c = 0 then (if placeD c.subs p < 0 then 4 else 0) else connF c
def subOnV (c : DConn) (p : Int) : Int := if connF c = 0 then (if placeD c.subs p < 0 then 0 else placeD c.subs p) else 0
/-- How far what came in is done; the end counts as one more. -/
def dackD (c : DConn) : Int := if c.finIn = (c.inn.1.length : Int) then (c.inn.1.length : Int) + 1 else (c.inn.1.length : Int)
def dackV (c : DConn) : Int := if connF c = 0 then dackD c else 0
theorem sL9DataAck (c : DConn) (A : Array Value) (cb of : Nat) (w : World) (B : Nat) (h : ConnAt w B c A cb of) :
    Calls Try.prog 14 #[.pointer (some ⟨cb, of, none⟩)] w fun e w' => e = .returned (.int .i64 (dackD c)) ∧ Below w.heap.size w w' := by
  obtain ⟨y0, y1, y2, y3, y4, d5, y6, y7, y8, ⟨dn, ps, ⟨⟩⟩, y10, y11, l, ⟨⟩⟩ := c
  obtain ⟨a5, c5, a9, c9, a9', c9', a12, c12, eA, -, -, -, -⟩ := rd_Conn h.rd
  have hT : d5.length + (dn.length + pcsTot ps) + totSubs l ≤ 1048576 := h.tot
  have x9 : w.cell? ⟨cb, of + 9, none⟩ = some (.slice a9 dn.length c9) := h.at_ 9 _ (by rw [eA]; rfl)
  have x11 : w.cell? ⟨cb, of + 11, none⟩ = some (.int .i64 y10) := h.at_ 11 _ (by rw [eA]; rfl)
  have hm : dn.length ≤ 1048576 := by omega
  show Calls _ _ _ _ fun e w' => e = .returned (.int .i64 (if y10 = (dn.length : Int) then (dn.length : Int) + 1 else (dn.length : Int))) ∧ _
  clear h eA hT
  generalize dn.length = n at *
  by_cases he : y10 = (n : Int)
  · rw [if_pos he]
    have he' : (y10 == (n : Int)) = true := by simp [he]
    clear he
    go_enter Try.func14, Try.ntmps14
    go_wp2_with fail
    go_ret
    exact ⟨rfl, Below.refl _ _⟩
  · rw [if_neg he]
    have he' : (y10 == (n : Int)) = false := by simp [he]
    clear he
    go_enter Try.func14, Try.ntmps14
    go_wp2_with fail
    go_ret
    exact ⟨rfl, Below.refl _ _⟩
set_option maxHeartbeats 1000000 in
theorem iDataAck (c : DConn) (A : Array Value) (w : World) (B : Nat) (hr : shConn.Rd w B c A.toList) (hB : B ≤ w.heap.size) (hT : totConn c ≤ 1048576) :
    Calls Try.prog 19 #[.agg A] w fun e w' => e = .returned (.int .i64 (dackD c)) ∧ Below w.heap.size w w' := by
  have hz : A.size = 14 := rd_size hr
  have HI : Hid ((Try.prog.info? 38).map (·.size) = some A.toList.length) := by show _ = _; rw [Array.length_toList, hz]; exact (by kernel_rfl : (Try.prog.info? 38).map (·.size) = some 14)
  obtain ⟨y0, y1, y2, y3, y4, d5, y6, y7, y8, ⟨dn, ps, ⟨⟩⟩, y10, y11, l, ⟨⟩⟩ := c
  obtain ⟨a5, c5, a9, c9, a9', c9', a12, c12, eA, -, -, -, -⟩ := rd_Conn hr
  have hT2 : d5.length + (dn.length + pcsTot ps) + totSubs l ≤ 1048576 := hT
  have x9 : A[9]? = some (.slice a9 dn.length c9) := get_of eA 9
  have x11 : A[11]? = some (.int .i64 y10) := get_of eA 11
  have hm : dn.length ≤ 1048576 := by omega
  have HC : Hid (∀ W, Calls Try.prog 37 #[.agg A] W fun e w' => e = .returned (.int .i64 (dn.length : Int)) ∧ Below W.heap.size W w') := fun W => iDoneIn A dn.length a9 c9 x9 hm W
  show Calls _ _ _ _ fun e w' => e = .returned (.int .i64 (if y10 = (dn.length : Int) then (dn.length : Int) + 1 else (dn.length : Int))) ∧ _
  clear hr eA hT hT2 hz
  generalize dn.length = n at *
  have HRG : Hid ((w.alloc (.cells A 38)).rangeAt w.heap.size 0 A.toList) := bx_range (bx_al w A _)
  by_cases he : y10 = (n : Int)
  · rw [if_pos he]
    have he' : (y10 == (n : Int)) = true := by simp [he]
    clear he
    go_enter Try.func19, Try.ntmps19
    go_wp2_with (refine wpList_load_mid rfl 38 _ rfl _ _ (by rfl) A.toList _ HRG.out Try.underlying38 rfl HI.out ?_)
    refine (HC.out _).mono ?_
    rintro e w1 ⟨rfl, hb⟩
    have k0 := bx_new hb
    go_wp2_with fail
    go_ret
    exact ⟨rfl, (bl_new hb).1⟩
  · rw [if_neg he]
    have he' : (y10 == (n : Int)) = false := by simp [he]
    clear he
    go_enter Try.func19, Try.ntmps19
    go_wp2_with (refine wpList_load_mid rfl 38 _ rfl _ _ (by rfl) A.toList _ HRG.out Try.underlying38 rfl HI.out ?_)
    refine (HC.out _).mono ?_
    rintro e w1 ⟨rfl, hb⟩
    have k0 := bx_new hb
    go_wp2_with fail
    go_ret
    exact ⟨rfl, (bl_new hb).1⟩
set_option maxHeartbeats 1000000 in
theorem sDataAckOf (c : DConn) (A : Array Value) (w : World) (B : Nat) (hr : shConn.Rd w B c A.toList) (hB : B ≤ w.heap.size) (hT : totConn c ≤ 1048576) :
    Calls Try.prog 5 #[.agg A] w fun e w' => e = .returned (.agg #[.int .i64 (connF c), .int .i64 (dackV c)]) ∧ Below w.heap.size w w' := by
  have hz : A.size = 14 := rd_size hr
  have HI : Hid ((Try.prog.info? 38).map (·.size) = some A.toList.length) := by show _ = _; rw [Array.length_toList, hz]; exact (by kernel_rfl : (Try.prog.info? 38).map (·.size) = some 14)
  have HRGX : Hid (∀ W : World, (∀ o, W.cell? ⟨w.heap.size, o, none⟩ = A[o]?) → Hid (W.rangeAt w.heap.size 0 A.toList)) := fun W hk => bx_range hk
  have HAT : Hid (∀ W, Below w.heap.size w W → (∀ o, W.cell? ⟨w.heap.size, o, none⟩ = A[o]?) → ConnAt W B c A w.heap.size 0) := fun W hW hk => ConnAt.of (bx_range hk) (Sh.Rd.below hr hB hW) (Nat.le_trans hB hW.size) hT
  have HF : Hid (∀ W, Below w.heap.size w W → (∀ o, W.cell? ⟨w.heap.size, o, none⟩ = A[o]?) → Calls Try.prog 13 #[.pointer (some ⟨w.heap.size, 0, none⟩)] W fun e w' => e = .returned (.int .i64 (connF c)) ∧ Below W.heap.size W w') := fun W hW hk => sL9Fault c A w.heap.size 0 W B (HAT.out W hW hk)
  have H2 : Hid (∀ W, Below w.heap.size w W → (∀ o, W.cell? ⟨w.heap.size, o, none⟩ = A[o]?) → Calls Try.prog 14 #[.pointer (some ⟨w.heap.size, 0, none⟩)] W fun e w' => e = .returned (.int .i64 (dackD c)) ∧ Below W.heap.size W w') := fun W hW hk => sL9DataAck c A w.heap.size 0 W B (HAT.out W hW hk)
  obtain ⟨RC, hRC⟩ : ∃ R, R = connF c := ⟨_, rfl⟩
  obtain ⟨RV, hRV⟩ : ∃ R, R = dackV c := ⟨_, rfl⟩
  rw [← hRC, ← hRV]
  have HC : Hid _ := hRC
  have HV : Hid _ := hRV
  unfold dackV at HV
  clear hr hRC hRV HAT hz
  generalize connF c = F at *
  generalize dackD c = DA at *
  by_cases hF : F = 0
  case neg =>
    have e1 : F = RC := by rw [HC.out]
    have e2 : RV = 0 := by rw [HV.out, if_neg hF]
    subst e1 e2
    have hF' : (F != 0) = true := by simp [hF]
    clear hF HC HV H2
    go_enter Try.func5, Try.ntmps5
    go_wp2_with fail
    refine (HF.out _ (by go_grown) (fun o => by simp [go_sem])).mono ?_
    rintro e w1 ⟨rfl, hb⟩
    obtain ⟨k0, kR, fR, hb1, z0⟩ := two_boxes hb
    have HB : Hid (Below w.heap.size w w1) := hb1
    clear hb hb1
    go_wp2_with fail
    refine bodyPost_ret (results_box Try.results5 _ _ _ #[.int .i64 F, .int .i64 0] _ (by rfl) (bx2c kR) Try.underlying31 rfl info_IntR) rfl ⟨rfl, ?_⟩
    exact Below.setCell (Below.setCell HB.out (by dsimp only; omega) _) (by dsimp only; omega) _
  subst hF
  have hc : RC = 0 := HC.out
  have hv : RV = DA := by rw [HV.out, if_pos rfl]
  subst hc
  have hv' : DA = RV := hv.symm
  subst hv'
  clear HC HV
  go_enter Try.func5, Try.ntmps5
  go_wp2_with fail
  refine (HF.out _ (by go_grown) (fun o => by simp [go_sem])).mono ?_
  rintro e w1 ⟨rfl, hb⟩
  obtain ⟨k0, kR, fR, hb1, z0⟩ := two_boxes hb
  have HB : Hid (Below w.heap.size w w1) := hb1
  clear hb hb1
  go_wp2_with fail
  refine (H2.out _ HB.out k0).mono ?_
  rintro e w2 ⟨rfl, hb⟩
  replace kR := bx_below kR z0 hb
  replace fR := bxF fR hb z0
  replace z0 := Nat.lt_of_lt_of_le z0 hb.size
  replace HB : Hid (Below w.heap.size w w2) := HB.out.trans (hb.mono HB.out.size)
  clear hb
  go_wp2_with fail
  refine bodyPost_ret (results_box Try.results5 _ _ _ #[.int .i64 0, .int .i64 DA] _ (by rfl) (bx2c kR) Try.underlying31 rfl info_IntR) rfl ⟨rfl, ?_⟩
  exact Below.setCell (Below.setCell HB.out (by dsimp only; omega) _) (by dsimp only; omega) _
set_option maxHeartbeats 1000000 in
theorem iDataAckOf (c : DConn) (A : Array Value) (w : World) (B : Nat) (hr : shConn.Rd w B c A.toList) (hB : B ≤ w.heap.size) (hT : totConn c ≤ 1048576) :
    Calls Try.prog 7 #[.agg A] w fun e w' => e = .returned (.agg #[.int .i64 (connF c), .int .i64 (dackV c)]) ∧ Below w.heap.size w w' := by
  have hz : A.size = 14 := rd_size hr
  have HI : Hid ((Try.prog.info? 38).map (·.size) = some A.toList.length) := by show _ = _; rw [Array.length_toList, hz]; exact (by kernel_rfl : (Try.prog.info? 38).map (·.size) = some 14)
  have HRGX : Hid (∀ W : World, (∀ o, W.cell? ⟨w.heap.size, o, none⟩ = A[o]?) → Hid (W.rangeAt w.heap.size 0 A.toList)) := fun W hk => bx_range hk
  have HAT : Hid (∀ W, Below w.heap.size w W → (∀ o, W.cell? ⟨w.heap.size, o, none⟩ = A[o]?) → ConnAt W B c A w.heap.size 0) := fun W hW hk => ConnAt.of (bx_range hk) (Sh.Rd.below hr hB hW) (Nat.le_trans hB hW.size) hT
  have HF : Hid (∀ W, Below w.heap.size w W → Calls Try.prog 18 #[.agg A] W fun e w' => e = .returned (.int .i64 (connF c)) ∧ Below W.heap.size W w') := fun W hW => iConnFault c A W B (Sh.Rd.below hr hB hW) (Nat.le_trans hB hW.size) hT
  have H2 : Hid (∀ W, Below w.heap.size w W → Calls Try.prog 19 #[.agg A] W fun e w' => e = .returned (.int .i64 (dackD c)) ∧ Below W.heap.size W w') := fun W hW => iDataAck c A W B (Sh.Rd.below hr hB hW) (Nat.le_trans hB hW.size) hT
  obtain ⟨RC, hRC⟩ : ∃ R, R = connF c := ⟨_, rfl⟩
  obtain ⟨RV, hRV⟩ : ∃ R, R = dackV c := ⟨_, rfl⟩
  rw [← hRC, ← hRV]
  have HC : Hid _ := hRC
  have HV : Hid _ := hRV
  unfold dackV at HV
  clear hr hRC hRV HAT hz
  generalize connF c = F at *
  generalize dackD c = DA at *
  by_cases hF : F = 0
  case neg =>
    have e1 : F = RC := by rw [HC.out]
    have e2 : RV = 0 := by rw [HV.out, if_neg hF]
    subst e1 e2
    have hF' : (F != 0) = true := by simp [hF]
    clear hF HC HV H2
    go_enter Try.func7, Try.ntmps7
    go_upto_region 1 with fail
    have HRG := HRGX.out ((w.alloc (.cells A 38)).alloc (.cells #[.int .i64 0, .int .i64 0] 31)) (fun o => by simp [go_sem])
    go_wp2_with (refine wpList_load_mid rfl 38 _ rfl _ _ (by rfl) A.toList _ HRG.out Try.underlying38 rfl HI.out ?_)
    refine (HF.out _ (by go_grown)).mono ?_
    rintro e w1 ⟨rfl, hb⟩
    obtain ⟨k0, kR, fR, hb1, z0⟩ := two_boxes hb
    have HB : Hid (Below w.heap.size w w1) := hb1
    clear hb hb1
    replace HRG := HRGX.out _ k0
    go_wp2_with fail
    refine bodyPost_ret (results_box Try.results7 _ _ _ #[.int .i64 F, .int .i64 0] _ (by rfl) (bx2c kR) Try.underlying31 rfl info_IntR) rfl ⟨rfl, ?_⟩
    exact Below.setCell (Below.setCell HB.out (by dsimp only; omega) _) (by dsimp only; omega) _
  subst hF
  have hc : RC = 0 := HC.out
  have hv : RV = DA := by rw [HV.out, if_pos rfl]
  subst hc
  have hv' : DA = RV := hv.symm
  subst hv'
  clear HC HV
  go_enter Try.func7, Try.ntmps7
  go_upto_region 1 with fail
  have HRG := HRGX.out ((w.alloc (.cells A 38)).alloc (.cells #[.int .i64 0, .int .i64 0] 31)) (fun o => by simp [go_sem])
  go_wp2_with (refine wpList_load_mid rfl 38 _ rfl _ _ (by rfl) A.toList _ HRG.out Try.underlying38 rfl HI.out ?_)
  refine (HF.out _ (by go_grown)).mono ?_
  rintro e w1 ⟨rfl, hb⟩
  obtain ⟨k0, kR, fR, hb1, z0⟩ := two_boxes hb
  have HB : Hid (Below w.heap.size w w1) := hb1
  clear hb hb1
  replace HRG := HRGX.out _ k0
  go_wp2_with (refine wpList_load_mid rfl 38 _ rfl _ _ (by rfl) A.toList _ HRG.out Try.underlying38 rfl HI.out ?_)
  refine (H2.out _ HB.out).mono ?_
  rintro e w2 ⟨rfl, hb⟩
  replace kR := bx_below kR z0 hb
  replace fR := bxF fR hb z0
  replace z0 := Nat.lt_of_lt_of_le z0 hb.size
  replace HB : Hid (Below w.heap.size w w2) := HB.out.trans (hb.mono HB.out.size)
  clear hb
  go_wp2_with fail
  refine bodyPost_ret (results_box Try.results7 _ _ _ #[.int .i64 0, .int .i64 DA] _ (by rfl) (bx2c kR) Try.underlying31 rfl info_IntR) rfl ⟨rfl, ?_⟩
  exact Below.setCell (Below.setCell HB.out (by dsimp only; omega) _) (by dsimp only; omega) _
end Go.Proofs.Ytlicopeejphgaaq
