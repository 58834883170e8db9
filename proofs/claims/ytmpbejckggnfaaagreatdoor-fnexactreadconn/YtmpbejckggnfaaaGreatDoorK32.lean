/- CloseConn by program and model; the answer owns its memory; nothing that was in memory turns; no condition but that there are at most a million parts and errors' own variable is as it is laid. Written by mkclose9.py. -/
import Derived.Test.YtmpbejckggnfaaaGreatDoorRows
import Derived.Deep.RegionHeld3
import Derived.Deep.DeepCutAuto
import Derived.Deep.DeepMust
import Derived.Deep.MidRow
import Derived.Test.YtmpbejckggnfaaaGreatDoorK01
import Derived.Test.YtmpbejckggnfaaaGreatDoorK02
import Derived.Test.YtmpbejckggnfaaaGreatDoorK03
import Derived.Test.YtmpbejckggnfaaaGreatDoorK04
import Derived.Test.YtmpbejckggnfaaaGreatDoorK09
import Derived.Test.YtmpbejckggnfaaaGreatDoorK10
import Derived.Test.YtmpbejckggnfaaaGreatDoorK11
import Derived.Test.YtmpbejckggnfaaaGreatDoorK12
import Derived.Test.YtmpbejckggnfaaaGreatDoorK13
import Derived.Test.YtmpbejckggnfaaaGreatDoorK16
import Derived.Test.YtmpbejckggnfaaaGreatDoorK17
import Derived.Test.YtmpbejckggnfaaaGreatDoorK18
import Derived.Test.YtmpbejckggnfaaaGreatDoorK19
import Derived.Test.YtmpbejckggnfaaaGreatDoorK20
import Derived.Test.YtmpbejckggnfaaaGreatDoorK21
import Derived.Test.YtmpbejckggnfaaaGreatDoorK25
import Derived.Test.YtmpbejckggnfaaaGreatDoorK30
import Derived.Test.YtmpbejckggnfaaaGreatDoorK31
namespace Go.Proofs.YtmpbejckggnfaaaGreatDoor
open Go.RowKit
set_option linter.unusedVariables false
set_option maxRecDepth 8000

theorem ErrLaid.below {w W : World} (h : ErrLaid w) (hb : Below w.heap.size w W) : ErrLaid W := by
  have hlt : 0 < w.heap.size := by
    rcases Nat.eq_zero_or_pos w.heap.size with h0 | h1
    · unfold ErrLaid at h; simp [World.cell?, h0] at h
    · exact h1
  unfold ErrLaid at *
  rw [hb.cell (p := ⟨0, 0, none⟩) hlt]; exact h
def zC : DConn := (0, 0, 0, false, false, [], false, 0, false, ([], [], ()), 0, 0, [], ())
def badR (q : Int) : DCR := (q, zC, [], [], false, ())
def bad18 (q : Int) : Array Value := #[.int .i64 q, .int .i64 0, .int .i64 0, .int .i64 0, .bool false, .bool false, .slice none 0 0, .bool false, .int .i64 0, .bool false, .slice none 0 0, .slice none 0 0, .int .i64 0, .int .i64 0, .slice none 0 0, .slice none 0 0, .slice none 0 0, .bool false]
def finC (c : DConn) : DConn := (c.1, c.2.1, c.2.2.1, c.2.2.2.1, c.2.2.2.2.1, c.2.2.2.2.2.1, true, c.2.2.2.2.2.2.2.1, c.2.2.2.2.2.2.2.2.1, c.2.2.2.2.2.2.2.2.2.1, c.2.2.2.2.2.2.2.2.2.2.1, c.2.2.2.2.2.2.2.2.2.2.2.1, c.2.2.2.2.2.2.2.2.2.2.2.2.1, ())
/-- What CloseConn answers. -/
def cloV (c : DConn) : DCR := if connF c = 0 then (if c.2.2.2.2.2.2.1 = true then badR 10 else (0, finC c, [], [], false, ())) else badR (connF c)
theorem badR_tot (q : Int) : totCR (badR q) = 0 := rfl
theorem cloV_tot {c : DConn} (h : totConn c ≤ 1048576) : totCR (cloV c) ≤ 1048576 := by
  unfold cloV
  split
  · split
    · rw [badR_tot]; omega
    · have e : totCR (0, finC c, [], [], false, ()) = totConn c := by unfold totCR totConn finC; simp [totSegms, fsum]
      rw [e]; exact h
  · rw [badR_tot]; omega
theorem wtCR_le {x : DCR} (h : totCR x ≤ 1048576) : wtCR x ≤ 16777216 := by
  obtain ⟨q, ⟨y0, y1, y2, y3, y4, d5, y6, y7, y8, d9, y10, y11, d12, ⟨⟩⟩, sl, dl, e, ⟨⟩⟩ := x
  have ht : (d5.length + gtTot d9 + (d12.length + fsum totSub d12)) + (sl.length + fsum totSegm sl) + dl.length ≤ 1048576 := h
  have hw9 := wtGt_tot d9
  have hws := wtSubs_le d12
  have hsg := wtSegms_le sl
  show (d5.length + wtGt d9 + fsum wtSubE d12) + fsum wtSegm sl + dl.length ≤ 16777216
  omega
theorem info_R18 : (Tryz.prog.info? 63).map (·.size) = some 18 := by kernel_rfl
theorem bad_one (q : Int) : (bad18 q).all (·.oneCell') = true := by unfold bad18; simp [Value.oneCell']
theorem own_sg0 (w : World) (lo hi : Nat) : Own w lo hi shSegms [] [.slice none 0 0] := ⟨[], Or.inl ⟨rfl, rfl, rfl⟩, by simp, by simp⟩
theorem own_by0 (w : World) (lo hi : Nat) : Own w lo hi u8s [] [.slice none 0 0] := ⟨[], Or.inl ⟨rfl, rfl, rfl⟩, by simp, by simp⟩
theorem own_CR {w : World} {lo hi : Nat} {q : Int} {c : DConn} {C : List Value} (hl : lo ≤ hi) (hq : (Lit.int .i64 q).wf = true) (h : Own w lo hi shConnO c C) : Own w lo hi shCR (q, c, [], [], false, ()) (.int .i64 q :: (C ++ [.slice none 0 0, .slice none 0 0, .bool false])) :=
  hOwnCons (hOwnInt w lo lo hq) (hOwnCons h (hOwnCons (own_sg0 w hi hi) (hOwnCons (own_by0 w hi hi) (hOwnCons (hOwnBool w hi hi false) (hOwnNil w hi hi) (Nat.le_refl _) (Nat.le_refl _)) (Nat.le_refl _) (Nat.le_refl _)) (Nat.le_refl _) (Nat.le_refl _)) hl (Nat.le_refl _)) (Nat.le_refl _) hl
theorem own_zC (w : World) (lo hi : Nat) (hl : lo ≤ hi) : Own w lo hi shConnO zC [.int .i64 0, .int .i64 0, .int .i64 0, .bool false, .bool false, .slice none 0 0, .bool false, .int .i64 0, .bool false, .slice none 0 0, .slice none 0 0, .int .i64 0, .int .i64 0, .slice none 0 0] := by
  have z : (Lit.int .i64 0).wf = true := by decide
  exact own_ConnO9 (own_by0 w lo lo) (hOwnCons (own_by0 w lo lo) (hOwnCons (own_pcs0 w lo lo) (hOwnNil w lo lo) (Nat.le_refl _) (Nat.le_refl _)) (Nat.le_refl _) (Nat.le_refl _)) (own_subs0 w lo hi) (Nat.le_refl _) (Nat.le_refl _) hl ⟨z, z, z, z, z, z⟩
theorem own_bad (w : World) (lo hi : Nat) (hl : lo ≤ hi) {q : Int} (hq : (Lit.int .i64 q).wf = true) : Own w lo hi shCR (badR q) (bad18 q).toList := own_CR hl hq (own_zC w lo hi hl)
/-- A conn that owns, by its cells; and the same with another Fin. -/
theorem own_fin {w : World} {lo hi : Nat} {y0 y1 y2 : Int} {y3 y4 : Bool} {d5 : List Int} {y6 : Bool} {y7 : Int} {y8 : Bool} {d9 : Gt} {y10 y11 : Int} {d12 : List DSub} {cs : List Value} (h : Own w lo hi shConnO (y0, y1, y2, y3, y4, d5, y6, y7, y8, d9, y10, y11, d12, ()) cs) (hw : ConnWf (y0, y1, y2, y3, y4, d5, y6, y7, y8, d9, y10, y11, d12, ())) (f : Bool) : ∃ u v1 v2 s, cs = [.int .i64 y0, .int .i64 y1, .int .i64 y2, .bool y3, .bool y4, u, .bool y6, .int .i64 y7, .bool y8, v1, v2, .int .i64 y10, .int .i64 y11, s] ∧ Own w lo hi shConnO (y0, y1, y2, y3, y4, d5, f, y7, y8, d9, y10, y11, d12, ()) [.int .i64 y0, .int .i64 y1, .int .i64 y2, .bool y3, .bool y4, u, .bool f, .int .i64 y7, .bool y8, v1, v2, .int .i64 y10, .int .i64 y11, s] ∧ u.oneCell' = true ∧ v1.oneCell' = true ∧ v2.oneCell' = true ∧ s.oneCell' = true := by
  have hall := rd_one _ _ _ (h.rd (Nat.le_refl _))
  obtain ⟨bs, ho, hnd, hb⟩ := h
  obtain ⟨b1, b2, b3, u, v1, v2, s, e1, e2, h5, h9, h12, -⟩ := ow_ConnO ho
  obtain ⟨w0, w1, w2, w7, w10, w11⟩ := hw
  subst e1
  subst e2
  refine ⟨u, v1, v2, s, rfl, ⟨_, ?_, hnd, hb⟩, hall _ (by simp), hall _ (by simp), hall _ (by simp), hall _ (by simp)⟩
  exact ⟨[], _, _, _, rfl, rfl, ⟨rfl, rfl, w0⟩, [], _, _, _, rfl, rfl, ⟨rfl, rfl, w1⟩, [], _, _, _, rfl, rfl, ⟨rfl, rfl, w2⟩, [], _, _, _, rfl, rfl, ⟨rfl, rfl⟩, [], _, _, _, rfl, rfl, ⟨rfl, rfl⟩, b1, _, [u], _, rfl, rfl, h5, [], _, _, _, rfl, rfl, ⟨rfl, rfl⟩, [], _, _, _, rfl, rfl, ⟨rfl, rfl, w7⟩, [], _, _, _, rfl, rfl, ⟨rfl, rfl⟩, b2, _, [v1, v2], _, rfl, rfl, h9, [], _, _, _, rfl, rfl, ⟨rfl, rfl, w10⟩, [], _, _, _, rfl, rfl, ⟨rfl, rfl, w11⟩, b3, [], [s], [], (List.append_nil _).symm, rfl, h12, rfl, rfl⟩
theorem conn_fin {w : World} {B : Nat} {c : DConn} {A : Array Value} (hr : shConn.Rd w B c A.toList) : A[6]? = some (.bool c.2.2.2.2.2.2.1) ∧ ConnWf c := by
  obtain ⟨y0, y1, y2, y3, y4, d5, y6, y7, y8, d9, y10, y11, l, ⟨⟩⟩ := c
  obtain ⟨a5, c5, a9, c9, a9', c9', a12, c12, eA, -, -, -, hw⟩ := rd_Conn hr
  exact ⟨get_of eA 6, hw⟩
theorem iMayCloseC (A : Array Value) (C : Int) (hC : C ≠ 0) (w : World) (hA : A.size = 14) (HF : ∀ W, Below w.heap.size w W → Calls Tryz.prog 48 #[.agg A] W fun e w' => e = .returned (.int .i64 C) ∧ Below W.heap.size W w') :
    Calls Tryz.prog 77 #[.agg A] w fun e w' => e = .returned (.iface 128 (.agg #[.int .i64 C])) ∧ Below w.heap.size w w' := by
  have hC' : (C != 0) = true := by simp [hC]
  have HFX : Hid _ := HF
  clear hC HF
  have HRGX : Hid (∀ W : World, (∀ o, W.cell? ⟨w.heap.size, o, none⟩ = A[o]?) → Hid (W.rangeAt w.heap.size 0 A.toList)) := fun W hk => bx_range hk
  have HI : Hid ((Tryz.prog.info? 29).map (·.size) = some A.toList.length) := by show _ = _; rw [Array.length_toList, hA]; exact (by kernel_rfl : (Tryz.prog.info? 29).map (·.size) = some 14)
  clear hA
  go_enter Tryz.func77, Tryz.ntmps77
  go_upto_region 1 with fail
  have HRG := HRGX.out (w.alloc (.cells A 29)) (bx_al _ _ _)
  go_wp2_with (refine wpList_load_mid rfl 29 _ rfl _ _ (by rfl) A.toList _ HRG.out Tryz.underlying29 rfl HI.out ?_)
  refine (HFX.out _ (by go_grown)).mono ?_
  rintro e w1 ⟨rfl, hb⟩
  have k0 := bx_new hb
  have HB : Hid (Below w.heap.size w w1) := (bl_new hb).1
  clear hb HRG HFX
  go_wp2_with fail
  go_ret
  exact ⟨rfl, HB.out⟩
theorem iMayClose0 (A : Array Value) (f : Bool) (w : World) (hA : A.size = 14) (h6 : A[6]? = some (.bool f)) (HF : ∀ W, Below w.heap.size w W → Calls Tryz.prog 48 #[.agg A] W fun e w' => e = .returned (.int .i64 0) ∧ Below W.heap.size W w') :
    Calls Tryz.prog 77 #[.agg A] w fun e w' => e = .returned (if f = true then .iface 128 (.agg #[.int .i64 10]) else .nilIface) ∧ Below w.heap.size w w' := by
  have HFX : Hid _ := HF
  clear HF
  have HRGX : Hid (∀ W : World, (∀ o, W.cell? ⟨w.heap.size, o, none⟩ = A[o]?) → Hid (W.rangeAt w.heap.size 0 A.toList)) := fun W hk => bx_range hk
  have HI : Hid ((Tryz.prog.info? 29).map (·.size) = some A.toList.length) := by show _ = _; rw [Array.length_toList, hA]; exact (by kernel_rfl : (Tryz.prog.info? 29).map (·.size) = some 14)
  clear hA
  cases f
  case false =>
    go_enter Tryz.func77, Tryz.ntmps77
    go_upto_region 1 with fail
    have HRG := HRGX.out (w.alloc (.cells A 29)) (bx_al _ _ _)
    go_wp2_with (refine wpList_load_mid rfl 29 _ rfl _ _ (by rfl) A.toList _ HRG.out Tryz.underlying29 rfl HI.out ?_)
    refine (HFX.out _ (by go_grown)).mono ?_
    rintro e w1 ⟨rfl, hb⟩
    have k0 := bx_new hb
    have HB : Hid (Below w.heap.size w w1) := (bl_new hb).1
    clear hb HRG HFX
    go_wp2_with fail
    go_ret
    exact ⟨rfl, HB.out⟩
  case true =>
    go_enter Tryz.func77, Tryz.ntmps77
    go_upto_region 1 with fail
    have HRG := HRGX.out (w.alloc (.cells A 29)) (bx_al _ _ _)
    go_wp2_with (refine wpList_load_mid rfl 29 _ rfl _ _ (by rfl) A.toList _ HRG.out Tryz.underlying29 rfl HI.out ?_)
    refine (HFX.out _ (by go_grown)).mono ?_
    rintro e w1 ⟨rfl, hb⟩
    have k0 := bx_new hb
    have HB : Hid (Below w.heap.size w w1) := (bl_new hb).1
    clear hb HRG HFX
    go_wp2_with fail
    go_ret
    exact ⟨rfl, HB.out⟩
set_option maxHeartbeats 2000000 in
theorem iCloseBad (A : Array Value) (C : Int) (w : World) (hA : A.size = 14) (hE : ErrLaid w) (hM : ∀ W, Below w.heap.size w W → Calls Tryz.prog 77 #[.agg A] W fun e w' => e = .returned (.iface 128 (.agg #[.int .i64 C])) ∧ Below W.heap.size W w') :
    Calls Tryz.prog 33 #[.agg A] w fun e w' => e = .returned (.agg (bad18 C)) ∧ Below w.heap.size w w' := by
  have HM : Hid _ := hM
  have HCO : Hid (∀ W, Below w.heap.size w W → Calls Tryz.prog 43 #[.iface 128 (.agg #[.int .i64 C])] W fun e w' => e = .returned (.int .i64 C) ∧ Below W.heap.size W w') := fun W hW => dCode C W (ErrLaid.below hE hW)
  clear hM hE
  have HRGX : Hid (∀ W : World, (∀ o, W.cell? ⟨w.heap.size, o, none⟩ = A[o]?) → Hid (W.rangeAt w.heap.size 0 A.toList)) := fun W hk => bx_range hk
  have HI : Hid ((Tryz.prog.info? 29).map (·.size) = some A.toList.length) := by show _ = _; rw [Array.length_toList, hA]; exact (by kernel_rfl : (Tryz.prog.info? 29).map (·.size) = some 14)
  clear hA
  obtain ⟨N, hN⟩ : ∃ N : Array Value, N = bad18 C := ⟨_, rfl⟩
  have HN : Hid _ := hN
  have hNz : N.size = 18 := by rw [hN]; rfl
  have HIN : Hid ((Tryz.prog.info? 63).map (·.size) = some N.size) := by show _ = _; rw [hNz]; exact info_R18
  have HONE : Hid (N.all (·.oneCell') = true) := by show _ = _; rw [hN]; exact bad_one _
  have HNZ : Hid _ := hNz
  rw [← hN]
  clear hN hNz
  go_enter Tryz.func33, Tryz.ntmps33
  go_upto_region 1 with fail
  have HRG := HRGX.out ((w.alloc (.cells A 29)).alloc (.cells #[.int .i64 0, .int .i64 0, .int .i64 0, .int .i64 0, .bool false, .bool false, .slice none 0 0, .bool false, .int .i64 0, .bool false, .slice none 0 0, .slice none 0 0, .int .i64 0, .int .i64 0, .slice none 0 0, .slice none 0 0, .slice none 0 0, .bool false] 63)) (fun o => by simp [go_sem])
  go_wp2_with (refine wpList_load_mid rfl 29 _ rfl _ _ (by rfl) A.toList _ HRG.out Tryz.underlying29 rfl HI.out ?_)
  refine (HM.out _ (by go_grown)).mono ?_
  rintro e w1 ⟨rfl, hb⟩
  obtain ⟨k0, kR, fR, hb1, z0⟩ := two_boxes hb
  have HB : Hid (Below w.heap.size w w1) := hb1
  clear hb hb1 HRG HM
  go_wp2_with fail
  refine (HCO.out _ HB.out).mono ?_
  rintro e W4 ⟨rfl, hb⟩
  replace kR := bx_below kR z0 hb
  replace fR := bxF fR hb z0
  replace HB : Hid (Below w.heap.size w W4) := HB.out.trans (hb.mono HB.out.size)
  clear hb HCO
  have HTH : Hid (W4.there (w.heap.size + 1) 0 N.size) := bx_there kR fR (by rw [HNZ.out]; rfl)
  have kF : Hid (∀ o, (W4.setCells (w.heap.size + 1) 0 N.toList).cell? ⟨w.heap.size + 1, o, none⟩ = N[o]?) := bx_setCells kR (by rw [HNZ.out]; rfl)
  go_wp2_with (refine wpList_store_mid rfl 63 _ _ rfl _ _ N (by rfl) (by rw [HN.out]; rfl) HTH.out HIN.out HONE.out ?_)
  refine bodyPost_ret (results_box Tryz.results33 _ _ _ N _ (by rfl) kF.out Tryz.underlying63 rfl HIN.out) rfl ⟨rfl, ?_⟩
  exact setCells_below (by omega) _ _ _ _ HB.out
set_option maxHeartbeats 4000000 in
theorem iCloseOk (c : DConn) (A : Array Value) (w : World) (B : Nat) (hr : shConn.Rd w B c A.toList) (hB : B ≤ w.heap.size) (hT : totConn c ≤ 1048576) (hF : connF c = 0) (hM : ∀ W, Below w.heap.size w W → Calls Tryz.prog 77 #[.agg A] W fun e w' => e = .returned (.nilIface) ∧ Below W.heap.size W w') :
    Calls Tryz.prog 33 #[.agg A] w fun e w' => ∃ N : Array Value, e = .returned (.agg N) ∧ Own w' w.heap.size w'.heap.size shCR (0, finC c, [], [], false, ()) N.toList ∧ Below w.heap.size w w' := by
  have HM : Hid _ := hM
  have hwf := (conn_fin hr).2
  have HCP : Hid (∀ W, Below w.heap.size w W → Calls Tryz.prog 67 #[.agg A] W fun e w' => ∃ N : Array Value, e = .returned (.agg N) ∧ Own w' W.heap.size w'.heap.size shConnO c N.toList ∧ Below W.heap.size W w') := fun W hW => iCopyConn c A W B (Sh.Rd.below hr hB hW) (Nat.le_trans hB hW.size) hT hF
  have hA : A.size = 14 := rd_size hr
  clear hM hr hF
  have HRGX : Hid (∀ W : World, (∀ o, W.cell? ⟨w.heap.size, o, none⟩ = A[o]?) → Hid (W.rangeAt w.heap.size 0 A.toList)) := fun W hk => bx_range hk
  have HI : Hid ((Tryz.prog.info? 29).map (·.size) = some A.toList.length) := by show _ = _; rw [Array.length_toList, hA]; exact (by kernel_rfl : (Tryz.prog.info? 29).map (·.size) = some 14)
  clear hA
  obtain ⟨y0, y1, y2, y3, y4, d5, y6, y7, y8, d9, y10, y11, d12, ⟨⟩⟩ := c
  have HWF : Hid _ := hwf
  clear hwf hT
  show Calls _ _ _ _ fun e w' => ∃ N : Array Value, e = .returned (.agg N) ∧ Own w' w.heap.size w'.heap.size shCR (0, (y0, y1, y2, y3, y4, d5, true, y7, y8, d9, y10, y11, d12, ()), [], [], false, ()) N.toList ∧ _
  go_enter Tryz.func33, Tryz.ntmps33
  go_upto_region 1 with fail
  have HRG := HRGX.out ((w.alloc (.cells A 29)).alloc (.cells #[.int .i64 0, .int .i64 0, .int .i64 0, .int .i64 0, .bool false, .bool false, .slice none 0 0, .bool false, .int .i64 0, .bool false, .slice none 0 0, .slice none 0 0, .int .i64 0, .int .i64 0, .slice none 0 0, .slice none 0 0, .slice none 0 0, .bool false] 63)) (fun o => by simp [go_sem])
  go_wp2_with (refine wpList_load_mid rfl 29 _ rfl _ _ (by rfl) A.toList _ HRG.out Tryz.underlying29 rfl HI.out ?_)
  refine (HM.out _ (by go_grown)).mono ?_
  rintro e w1 ⟨rfl, hb⟩
  obtain ⟨k0, kR, fR, hb1, z0⟩ := two_boxes hb
  have HB : Hid (Below w.heap.size w w1) := hb1
  clear hb hb1 HRG HM
  have HRG2 : Hid (w1.rangeAt w.heap.size 0 A.toList) := bx_range k0
  go_wp2_with (refine wpList_load_mid rfl 29 _ rfl _ _ (by rfl) A.toList _ HRG2.out Tryz.underlying29 rfl HI.out ?_)
  refine (HCP.out _ HB.out).mono ?_
  rintro e w2 ⟨M, rfl, ho2, hb⟩
  have z2 : w.heap.size + 1 < w2.heap.size := Nat.lt_of_lt_of_le z0 hb.size
  replace kR := bx_below kR z0 hb
  replace fR := bxF fR hb z0
  replace ho2 : Own w2 (w.heap.size + 1 + 1) w2.heap.size shConnO (y0, y1, y2, y3, y4, d5, y6, y7, y8, d9, y10, y11, d12, ()) M.toList := Own.mono ho2 z0 (Nat.le_refl _)
  replace HB : Hid (Below w.heap.size w w2) := HB.out.trans (hb.mono HB.out.size)
  clear hb HCP HRG2 k0 z0
  obtain ⟨u, v1, v2, s, hM, hoF, o1, o2, o3, o4⟩ := own_fin ho2 HWF.out true
  have hMz : M.size = 14 := rd_size (s := shConnO) (ho2.rd (Nat.le_refl _))
  have HMN : Hid (M = #[.int .i64 y0, .int .i64 y1, .int .i64 y2, .bool y3, .bool y4, u, .bool y6, .int .i64 y7, .bool y8, v1, v2, .int .i64 y10, .int .i64 y11, s]) := arr_of hM
  have HIM : Hid ((Tryz.prog.info? 29).map (·.size) = some M.size) := by show _ = _; rw [hMz]; exact (by kernel_rfl : (Tryz.prog.info? 29).map (·.size) = some 14)
  have HONM : Hid (M.all (·.oneCell') = true) := rd_all (ho2.rd (Nat.le_refl _))
  have HTM : Hid ((w2.alloc (.cells #[.int .i64 0, .int .i64 0, .int .i64 0, .bool false, .bool false, .slice none 0 0, .bool false, .int .i64 0, .bool false, .slice none 0 0, .slice none 0 0, .int .i64 0, .int .i64 0, .slice none 0 0] 29)).there w2.heap.size 0 M.size) := bx_there (bx_al _ _ _) (fx_al _ _ _) (by rw [hMz]; rfl)
  have HW5 : Hid (Below w2.heap.size w2 ((w2.alloc (.cells #[.int .i64 0, .int .i64 0, .int .i64 0, .bool false, .bool false, .slice none 0 0, .bool false, .int .i64 0, .bool false, .slice none 0 0, .slice none 0 0, .int .i64 0, .int .i64 0, .slice none 0 0] 29)).setCells w2.heap.size 0 M.toList) ∧ w2.heap.size < ((w2.alloc (.cells #[.int .i64 0, .int .i64 0, .int .i64 0, .bool false, .bool false, .slice none 0 0, .bool false, .int .i64 0, .bool false, .slice none 0 0, .slice none 0 0, .int .i64 0, .int .i64 0, .slice none 0 0] 29)).setCells w2.heap.size 0 M.toList).heap.size ∧ (∀ o, ((w2.alloc (.cells #[.int .i64 0, .int .i64 0, .int .i64 0, .bool false, .bool false, .slice none 0 0, .bool false, .int .i64 0, .bool false, .slice none 0 0, .slice none 0 0, .int .i64 0, .int .i64 0, .slice none 0 0] 29)).setCells w2.heap.size 0 M.toList).cell? ⟨w2.heap.size, o, none⟩ = M[o]?) ∧ (∀ o, ((w2.alloc (.cells #[.int .i64 0, .int .i64 0, .int .i64 0, .bool false, .bool false, .slice none 0 0, .bool false, .int .i64 0, .bool false, .slice none 0 0, .slice none 0 0, .int .i64 0, .int .i64 0, .slice none 0 0] 29)).setCells w2.heap.size 0 M.toList).frozen? ⟨w2.heap.size, o, none⟩ = false)) := ⟨setCells_below (Nat.le_refl _) _ _ _ _ ((Below.refl _ _).alloc (Nat.le_refl _) _), by rw [setCells_size]; simp, bx_setCells (bx_al w2 _ _) (by rw [hMz]; rfl), fx_sets (fx_al _ _ _)⟩
  clear ho2 hM hMz
  go_upto_region 5 with (refine wpList_store_mid rfl 29 _ _ rfl _ _ M (by rfl) (by rfl) HTM.out HIM.out HONM.out ?_)
  generalize hW5 : ((w2.alloc (.cells #[.int .i64 0, .int .i64 0, .int .i64 0, .bool false, .bool false, .slice none 0 0, .bool false, .int .i64 0, .bool false, .slice none 0 0, .slice none 0 0, .int .i64 0, .int .i64 0, .slice none 0 0] 29)).setCells w2.heap.size 0 M.toList) = W5 at HW5 ⊢
  clear hW5 HTM HIM HONM
  obtain ⟨hb5, z5, kM, fM⟩ := HW5.out
  clear HW5
  rw [HMN.out] at kM
  replace kR := bx_below kR z2 hb5
  replace fR := bxF fR hb5 z2
  have HOF : Hid (Own W5 (w.heap.size + 1 + 1) w2.heap.size shConnO (y0, y1, y2, y3, y4, d5, true, y7, y8, d9, y10, y11, d12, ()) [.int .i64 y0, .int .i64 y1, .int .i64 y2, .bool y3, .bool y4, u, .bool true, .int .i64 y7, .bool y8, v1, v2, .int .i64 y10, .int .i64 y11, s]) := hoF.below (Nat.le_refl _) hb5
  replace HB : Hid (Below w.heap.size w W5) := HB.out.trans (hb5.mono HB.out.size)
  obtain ⟨q, hq⟩ : ∃ q, q = w2.heap.size := ⟨_, rfl⟩
  rw [← hq] at z5 kM fM z2 HOF ⊢
  clear hq hb5 hoF
  go_upto_region 6 with fail
  replace kM := bx_put kM (k := 6) (v := .bool true) (by simp)
  simp only [List.setIfInBounds_toArray, List.set_cons_zero, List.set_cons_succ] at kM
  replace kR : ∀ o, (W5.setCell ⟨q, 6, none⟩ (.bool true)).cell? ⟨w.heap.size + 1, o, none⟩ = (#[.int .i64 0, .int .i64 0, .int .i64 0, .int .i64 0, .bool false, .bool false, .slice none 0 0, .bool false, .int .i64 0, .bool false, .slice none 0 0, .slice none 0 0, .int .i64 0, .int .i64 0, .slice none 0 0, .slice none 0 0, .slice none 0 0, .bool false] : Array Value)[o]? := bx_setC kR (by omega)
  replace fR : ∀ o, (W5.setCell ⟨q, 6, none⟩ (.bool true)).frozen? ⟨w.heap.size + 1, o, none⟩ = false := fx_setC fR
  replace HOF : Hid (Own (W5.setCell ⟨q, 6, none⟩ (.bool true)) (w.heap.size + 1 + 1) q shConnO (y0, y1, y2, y3, y4, d5, true, y7, y8, d9, y10, y11, d12, ()) [.int .i64 y0, .int .i64 y1, .int .i64 y2, .bool y3, .bool y4, u, .bool true, .int .i64 y7, .bool y8, v1, v2, .int .i64 y10, .int .i64 y11, s]) := Own.keep HOF.out (fun b h1 h2 => Below.heap_setCell _ _ _ _ (by dsimp only; omega))
  replace HB : Hid (Below w.heap.size w (W5.setCell ⟨q, 6, none⟩ (.bool true))) := Below.setCell (p := ⟨q, 6, none⟩) HB.out (show w.heap.size ≤ q by omega) _
  have z6 : q < (W5.setCell ⟨q, 6, none⟩ (.bool true)).heap.size := by simpa using z5
  generalize hW6 : W5.setCell ⟨q, 6, none⟩ (.bool true) = W6 at kM kR fR HOF HB z6 ⊢
  clear hW6 fM z5
  have HKM : Hid (W6.rangeAt q 0 [.int .i64 y0, .int .i64 y1, .int .i64 y2, .bool y3, .bool y4, u, .bool true, .int .i64 y7, .bool y8, v1, v2, .int .i64 y10, .int .i64 y11, s]) := bx_range kM
  have HIL : Hid ((Tryz.prog.info? 29).map (·.size) = some [.int .i64 y0, .int .i64 y1, .int .i64 y2, .bool y3, .bool y4, u, .bool true, .int .i64 y7, .bool y8, v1, v2, .int .i64 y10, .int .i64 y11, s].length) := (by kernel_rfl : (Tryz.prog.info? 29).map (·.size) = some 14)
  obtain ⟨N, hN⟩ : ∃ N : Array Value, N = #[.int .i64 0, .int .i64 y0, .int .i64 y1, .int .i64 y2, .bool y3, .bool y4, u, .bool true, .int .i64 y7, .bool y8, v1, v2, .int .i64 y10, .int .i64 y11, s, .slice none 0 0, .slice none 0 0, .bool false] := ⟨_, rfl⟩
  have HN : Hid _ := hN
  have hNz : N.size = 18 := by rw [hN]; rfl
  have HIN : Hid ((Tryz.prog.info? 63).map (·.size) = some N.size) := by show _ = _; rw [hNz]; exact info_R18
  have HNZ : Hid _ := hNz
  clear kM o1 o2 o3 o4
  have HTH : Hid (W6.there (w.heap.size + 1) 0 N.size) := bx_there kR fR (by rw [HNZ.out]; rfl)
  have kF : Hid (∀ o, (W6.setCells (w.heap.size + 1) 0 N.toList).cell? ⟨w.heap.size + 1, o, none⟩ = N[o]?) := bx_setCells kR (by rw [HNZ.out]; rfl)
  have HRES : Hid (Own W6 (w.heap.size + 1 + 1) q shCR (0, (y0, y1, y2, y3, y4, d5, true, y7, y8, d9, y10, y11, d12, ()), [], [], false, ()) N.toList) := by show Own _ _ _ _ _ _; rw [hN]; exact own_CR (by omega) (by decide) HOF.out
  have HONE : Hid (N.all (·.oneCell') = true) := rd_all (s := shCR) (HRES.out.rd (Nat.le_refl _))
  clear hN hNz HOF
  go_wp2_with (first | (refine wpList_load_mid rfl 29 _ rfl _ _ (by rfl) [.int .i64 y0, .int .i64 y1, .int .i64 y2, .bool y3, .bool y4, u, .bool true, .int .i64 y7, .bool y8, v1, v2, .int .i64 y10, .int .i64 y11, s] _ HKM.out Tryz.underlying29 rfl HIL.out ?_) | (refine wpList_store_mid rfl 63 _ _ rfl _ _ N (by rfl) (by rw [HN.out]; rfl) HTH.out HIN.out HONE.out ?_))
  refine bodyPost_ret (results_box Tryz.results33 _ _ _ N _ (by rfl) kF.out Tryz.underlying63 rfl HIN.out) rfl ⟨N, rfl, ?_, ?_⟩
  · refine Own.mono (Own.keep HRES.out fun b hb hlt => setCells_block (by omega) _ _ _) (by omega) (by rw [setCells_size]; omega)
  · exact setCells_below (by omega) _ _ _ _ HB.out
theorem iCloseConn (c : DConn) (A : Array Value) (w : World) (B : Nat) (hr : shConn.Rd w B c A.toList) (hB : B ≤ w.heap.size) (hT : totConn c ≤ 1048576) (hE : ErrLaid w) :
    Calls Tryz.prog 33 #[.agg A] w fun e w' => ∃ N : Array Value, e = .returned (.agg N) ∧ Own w' w.heap.size w'.heap.size shCR (cloV c) N.toList ∧ Below w.heap.size w w' := by
  have hA : A.size = 14 := rd_size hr
  have HF : ∀ W, Below w.heap.size w W → Calls Tryz.prog 48 #[.agg A] W fun e w' => e = .returned (.int .i64 (connF c)) ∧ Below W.heap.size W w' := fun W hW => iConnFault c A W B (Sh.Rd.below hr hB hW) (Nat.le_trans hB hW.size) hT
  unfold cloV
  by_cases hC : connF c = 0
  · rw [if_pos hC]
    rw [hC] at HF
    have HM := fun W (hW : Below w.heap.size w W) => iMayClose0 A _ W hA (conn_fin hr).1 (fun W' hW' => HF W' (hW.trans (hW'.mono hW.size)))
    split
    · rename_i hf
      rw [hf] at HM
      exact (iCloseBad A 10 w hA hE HM).mono (by rintro e w' ⟨rfl, hb⟩; exact ⟨_, rfl, own_bad w' _ _ hb.size (by decide), hb⟩)
    · rename_i hf
      rw [if_neg hf] at HM
      exact iCloseOk c A w B hr hB hT hC HM
  · rw [if_neg hC]
    exact (iCloseBad A _ w hA hE (fun W hW => iMayCloseC A _ hC W hA (fun W' hW' => HF W' (hW.trans (hW'.mono hW.size))))).mono (by rintro e w' ⟨rfl, hb⟩; exact ⟨_, rfl, own_bad w' _ _ hb.size (wf_i64' (by have := connF_bd c; unfold Small at this; omega)), hb⟩)
theorem sBad9 (q : Int) (w : World) : Calls Tryz.prog 62 #[.int .i64 q] w fun e w' => e = .returned (.agg (bad18 q)) ∧ Below w.heap.size w w' := by
  obtain ⟨N, hN⟩ : ∃ N : Array Value, N = bad18 q := ⟨_, rfl⟩
  have HN : Hid _ := hN
  have hNz : N.size = 18 := by rw [hN]; rfl
  have HIN : Hid ((Tryz.prog.info? 63).map (·.size) = some N.size) := by show _ = _; rw [hNz]; exact info_R18
  have HONE : Hid (N.all (·.oneCell') = true) := by show _ = _; rw [hN]; exact bad_one _
  have HNZ : Hid _ := hNz
  rw [← hN]
  have HTH : Hid ((w.alloc (.cells #[.int .i64 0, .int .i64 0, .int .i64 0, .int .i64 0, .bool false, .bool false, .slice none 0 0, .bool false, .int .i64 0, .bool false, .slice none 0 0, .slice none 0 0, .int .i64 0, .int .i64 0, .slice none 0 0, .slice none 0 0, .slice none 0 0, .bool false] 63)).there w.heap.size 0 N.size) := bx_there (bx_al _ _ _) (fx_al _ _ _) (by rw [hNz]; rfl)
  have kF : Hid (∀ o, ((w.alloc (.cells #[.int .i64 0, .int .i64 0, .int .i64 0, .int .i64 0, .bool false, .bool false, .slice none 0 0, .bool false, .int .i64 0, .bool false, .slice none 0 0, .slice none 0 0, .int .i64 0, .int .i64 0, .slice none 0 0, .slice none 0 0, .slice none 0 0, .bool false] 63)).setCells w.heap.size 0 N.toList).cell? ⟨w.heap.size, o, none⟩ = N[o]?) := bx_setCells (bx_al _ _ _) (by rw [hNz]; rfl)
  have HB : Hid (Below w.heap.size w (w.alloc (.cells #[.int .i64 0, .int .i64 0, .int .i64 0, .int .i64 0, .bool false, .bool false, .slice none 0 0, .bool false, .int .i64 0, .bool false, .slice none 0 0, .slice none 0 0, .int .i64 0, .int .i64 0, .slice none 0 0, .slice none 0 0, .slice none 0 0, .bool false] 63))) := (Below.refl _ _).alloc (Nat.le_refl _) _
  clear hN hNz
  go_enter Tryz.func62, Tryz.ntmps62
  go_wp2_with (refine wpList_store_mid rfl 63 _ _ rfl _ _ N (by rfl) (by rw [HN.out]; rfl) HTH.out HIN.out HONE.out ?_)
  refine bodyPost_ret (results_box Tryz.results62 _ _ _ N _ (by rfl) kF.out Tryz.underlying63 rfl HIN.out) rfl ⟨rfl, ?_⟩
  exact setCells_below (Nat.le_refl _) _ _ _ _ HB.out
set_option maxHeartbeats 2000000 in
theorem sCloseC (A : Array Value) (C : Int) (hC : C ≠ 0) (w : World) (hF : ∀ W, Below w.heap.size w W → (∀ o, W.cell? ⟨w.heap.size, o, none⟩ = A[o]?) → Calls Tryz.prog 45 #[.pointer (some ⟨w.heap.size, 0, none⟩)] W fun e w' => e = .returned (.int .i64 C) ∧ Below W.heap.size W w') :
    Calls Tryz.prog 32 #[.agg A] w fun e w' => e = .returned (.agg (bad18 C)) ∧ Below w.heap.size w w' := by
  have hC' : (C != 0) = true := by simp [hC]
  have HF : Hid _ := hF
  clear hF hC
  obtain ⟨N, hN⟩ : ∃ N : Array Value, N = bad18 C := ⟨_, rfl⟩
  have HN : Hid _ := hN
  have hNz : N.size = 18 := by rw [hN]; rfl
  have HIN : Hid ((Tryz.prog.info? 63).map (·.size) = some N.size) := by show _ = _; rw [hNz]; exact info_R18
  have HONE : Hid (N.all (·.oneCell') = true) := by show _ = _; rw [hN]; exact bad_one _
  have HNZ : Hid _ := hNz
  rw [← hN]
  clear hN hNz
  go_enter Tryz.func32, Tryz.ntmps32
  go_wp2_with fail
  refine (HF.out _ (by go_grown) (fun o => by simp [go_sem])).mono ?_
  rintro e w1 ⟨rfl, hb⟩
  obtain ⟨k0, kR, fR, hb1, z0⟩ := two_boxes hb
  have HB : Hid (Below w.heap.size w w1) := hb1
  clear hb hb1 HF
  go_wp2_with fail
  refine (sBad9 C _).mono ?_
  rintro e W4 ⟨rfl, hb⟩
  rw [← HN.out]
  replace kR := bx_below kR z0 hb
  replace fR := bxF fR hb z0
  replace HB : Hid (Below w.heap.size w W4) := HB.out.trans (hb.mono HB.out.size)
  clear hb
  have HTH : Hid (W4.there (w.heap.size + 1) 0 N.size) := bx_there kR fR (by rw [HNZ.out]; rfl)
  have kF : Hid (∀ o, (W4.setCells (w.heap.size + 1) 0 N.toList).cell? ⟨w.heap.size + 1, o, none⟩ = N[o]?) := bx_setCells kR (by rw [HNZ.out]; rfl)
  go_wp2_with (refine wpList_store_mid rfl 63 _ _ rfl _ _ N (by rfl) (by rfl) HTH.out HIN.out HONE.out ?_)
  refine bodyPost_ret (results_box Tryz.results32 _ _ _ N _ (by rfl) kF.out Tryz.underlying63 rfl HIN.out) rfl ⟨rfl, ?_⟩
  exact setCells_below (by omega) _ _ _ _ HB.out
set_option maxHeartbeats 2000000 in
theorem sClose10 (A : Array Value) (w : World) (h6 : A[6]? = some (.bool true)) (hF : ∀ W, Below w.heap.size w W → (∀ o, W.cell? ⟨w.heap.size, o, none⟩ = A[o]?) → Calls Tryz.prog 45 #[.pointer (some ⟨w.heap.size, 0, none⟩)] W fun e w' => e = .returned (.int .i64 0) ∧ Below W.heap.size W w') :
    Calls Tryz.prog 32 #[.agg A] w fun e w' => e = .returned (.agg (bad18 10)) ∧ Below w.heap.size w w' := by
  have HF : Hid _ := hF
  clear hF
  obtain ⟨N, hN⟩ : ∃ N : Array Value, N = bad18 10 := ⟨_, rfl⟩
  have HN : Hid _ := hN
  have hNz : N.size = 18 := by rw [hN]; rfl
  have HIN : Hid ((Tryz.prog.info? 63).map (·.size) = some N.size) := by show _ = _; rw [hNz]; exact info_R18
  have HONE : Hid (N.all (·.oneCell') = true) := by show _ = _; rw [hN]; exact bad_one _
  have HNZ : Hid _ := hNz
  rw [← hN]
  clear hN hNz
  go_enter Tryz.func32, Tryz.ntmps32
  go_wp2_with fail
  refine (HF.out _ (by go_grown) (fun o => by simp [go_sem])).mono ?_
  rintro e w1 ⟨rfl, hb⟩
  obtain ⟨k0, kR, fR, hb1, z0⟩ := two_boxes hb
  have HB : Hid (Below w.heap.size w w1) := hb1
  clear hb hb1 HF
  go_wp2_with fail
  refine (sBad9 10 _).mono ?_
  rintro e W4 ⟨rfl, hb⟩
  rw [← HN.out]
  replace kR := bx_below kR z0 hb
  replace fR := bxF fR hb z0
  replace HB : Hid (Below w.heap.size w W4) := HB.out.trans (hb.mono HB.out.size)
  clear hb
  have HTH : Hid (W4.there (w.heap.size + 1) 0 N.size) := bx_there kR fR (by rw [HNZ.out]; rfl)
  have kF : Hid (∀ o, (W4.setCells (w.heap.size + 1) 0 N.toList).cell? ⟨w.heap.size + 1, o, none⟩ = N[o]?) := bx_setCells kR (by rw [HNZ.out]; rfl)
  go_wp2_with (refine wpList_store_mid rfl 63 _ _ rfl _ _ N (by rfl) (by rfl) HTH.out HIN.out HONE.out ?_)
  refine bodyPost_ret (results_box Tryz.results32 _ _ _ N _ (by rfl) kF.out Tryz.underlying63 rfl HIN.out) rfl ⟨rfl, ?_⟩
  exact setCells_below (by omega) _ _ _ _ HB.out
set_option maxHeartbeats 4000000 in
theorem sCloseOk (c : DConn) (A : Array Value) (w : World) (B : Nat) (hr : shConn.Rd w B c A.toList) (hB : B ≤ w.heap.size) (hT : totConn c ≤ 1048576) (hF : connF c = 0) (h6 : A[6]? = some (.bool false)) (hG : ∀ W, Below w.heap.size w W → (∀ o, W.cell? ⟨w.heap.size, o, none⟩ = A[o]?) → Calls Tryz.prog 45 #[.pointer (some ⟨w.heap.size, 0, none⟩)] W fun e w' => e = .returned (.int .i64 0) ∧ Below W.heap.size W w') :
    Calls Tryz.prog 32 #[.agg A] w fun e w' => ∃ N : Array Value, e = .returned (.agg N) ∧ Own w' w.heap.size w'.heap.size shCR (0, finC c, [], [], false, ()) N.toList ∧ Below w.heap.size w w' := by
  have HF : Hid _ := hG
  have hwf := (conn_fin hr).2
  have HCP : Hid (∀ W, Below w.heap.size w W → Calls Tryz.prog 63 #[.agg A] W fun e w' => ∃ N : Array Value, e = .returned (.agg N) ∧ Own w' W.heap.size w'.heap.size shConnO c N.toList ∧ Below W.heap.size W w') := fun W hW => sL9Copy c A W B (Sh.Rd.below hr hB hW) (Nat.le_trans hB hW.size) hT hF
  have hA : A.size = 14 := rd_size hr
  clear hG hr hF
  have HRGX : Hid (∀ W : World, (∀ o, W.cell? ⟨w.heap.size, o, none⟩ = A[o]?) → Hid (W.rangeAt w.heap.size 0 A.toList)) := fun W hk => bx_range hk
  have HI : Hid ((Tryz.prog.info? 29).map (·.size) = some A.toList.length) := by show _ = _; rw [Array.length_toList, hA]; exact (by kernel_rfl : (Tryz.prog.info? 29).map (·.size) = some 14)
  clear hA
  obtain ⟨y0, y1, y2, y3, y4, d5, y6, y7, y8, d9, y10, y11, d12, ⟨⟩⟩ := c
  have HWF : Hid _ := hwf
  clear hwf hT
  show Calls _ _ _ _ fun e w' => ∃ N : Array Value, e = .returned (.agg N) ∧ Own w' w.heap.size w'.heap.size shCR (0, (y0, y1, y2, y3, y4, d5, true, y7, y8, d9, y10, y11, d12, ()), [], [], false, ()) N.toList ∧ _
  go_enter Tryz.func32, Tryz.ntmps32
  go_wp2_with fail
  refine (HF.out _ (by go_grown) (fun o => by simp [go_sem])).mono ?_
  rintro e w1 ⟨rfl, hb⟩
  obtain ⟨k0, kR, fR, hb1, z0⟩ := two_boxes hb
  have HB : Hid (Below w.heap.size w w1) := hb1
  clear hb hb1 HF
  have HRG2 : Hid (w1.rangeAt w.heap.size 0 A.toList) := bx_range k0
  go_wp2_with (refine wpList_load_mid rfl 29 _ rfl _ _ (by rfl) A.toList _ HRG2.out Tryz.underlying29 rfl HI.out ?_)
  refine (HCP.out _ HB.out).mono ?_
  rintro e w2 ⟨M, rfl, ho2, hb⟩
  have z2 : w.heap.size + 1 < w2.heap.size := Nat.lt_of_lt_of_le z0 hb.size
  replace kR := bx_below kR z0 hb
  replace fR := bxF fR hb z0
  replace ho2 : Own w2 (w.heap.size + 1 + 1) w2.heap.size shConnO (y0, y1, y2, y3, y4, d5, y6, y7, y8, d9, y10, y11, d12, ()) M.toList := Own.mono ho2 z0 (Nat.le_refl _)
  replace HB : Hid (Below w.heap.size w w2) := HB.out.trans (hb.mono HB.out.size)
  clear hb HCP HRG2 k0 z0
  obtain ⟨u, v1, v2, s, hM, hoF, o1, o2, o3, o4⟩ := own_fin ho2 HWF.out true
  have hMz : M.size = 14 := rd_size (s := shConnO) (ho2.rd (Nat.le_refl _))
  have HMN : Hid (M = #[.int .i64 y0, .int .i64 y1, .int .i64 y2, .bool y3, .bool y4, u, .bool y6, .int .i64 y7, .bool y8, v1, v2, .int .i64 y10, .int .i64 y11, s]) := arr_of hM
  have HIM : Hid ((Tryz.prog.info? 29).map (·.size) = some M.size) := by show _ = _; rw [hMz]; exact (by kernel_rfl : (Tryz.prog.info? 29).map (·.size) = some 14)
  have HONM : Hid (M.all (·.oneCell') = true) := rd_all (ho2.rd (Nat.le_refl _))
  have HTM : Hid ((w2.alloc (.cells #[.int .i64 0, .int .i64 0, .int .i64 0, .bool false, .bool false, .slice none 0 0, .bool false, .int .i64 0, .bool false, .slice none 0 0, .slice none 0 0, .int .i64 0, .int .i64 0, .slice none 0 0] 29)).there w2.heap.size 0 M.size) := bx_there (bx_al _ _ _) (fx_al _ _ _) (by rw [hMz]; rfl)
  have HW5 : Hid (Below w2.heap.size w2 ((w2.alloc (.cells #[.int .i64 0, .int .i64 0, .int .i64 0, .bool false, .bool false, .slice none 0 0, .bool false, .int .i64 0, .bool false, .slice none 0 0, .slice none 0 0, .int .i64 0, .int .i64 0, .slice none 0 0] 29)).setCells w2.heap.size 0 M.toList) ∧ w2.heap.size < ((w2.alloc (.cells #[.int .i64 0, .int .i64 0, .int .i64 0, .bool false, .bool false, .slice none 0 0, .bool false, .int .i64 0, .bool false, .slice none 0 0, .slice none 0 0, .int .i64 0, .int .i64 0, .slice none 0 0] 29)).setCells w2.heap.size 0 M.toList).heap.size ∧ (∀ o, ((w2.alloc (.cells #[.int .i64 0, .int .i64 0, .int .i64 0, .bool false, .bool false, .slice none 0 0, .bool false, .int .i64 0, .bool false, .slice none 0 0, .slice none 0 0, .int .i64 0, .int .i64 0, .slice none 0 0] 29)).setCells w2.heap.size 0 M.toList).cell? ⟨w2.heap.size, o, none⟩ = M[o]?) ∧ (∀ o, ((w2.alloc (.cells #[.int .i64 0, .int .i64 0, .int .i64 0, .bool false, .bool false, .slice none 0 0, .bool false, .int .i64 0, .bool false, .slice none 0 0, .slice none 0 0, .int .i64 0, .int .i64 0, .slice none 0 0] 29)).setCells w2.heap.size 0 M.toList).frozen? ⟨w2.heap.size, o, none⟩ = false)) := ⟨setCells_below (Nat.le_refl _) _ _ _ _ ((Below.refl _ _).alloc (Nat.le_refl _) _), by rw [setCells_size]; simp, bx_setCells (bx_al w2 _ _) (by rw [hMz]; rfl), fx_sets (fx_al _ _ _)⟩
  clear ho2 hM hMz
  go_upto_region 7 with (refine wpList_store_mid rfl 29 _ _ rfl _ _ M (by rfl) (by rfl) HTM.out HIM.out HONM.out ?_)
  generalize hW5 : ((w2.alloc (.cells #[.int .i64 0, .int .i64 0, .int .i64 0, .bool false, .bool false, .slice none 0 0, .bool false, .int .i64 0, .bool false, .slice none 0 0, .slice none 0 0, .int .i64 0, .int .i64 0, .slice none 0 0] 29)).setCells w2.heap.size 0 M.toList) = W5 at HW5 ⊢
  clear hW5 HTM HIM HONM
  obtain ⟨hb5, z5, kM, fM⟩ := HW5.out
  clear HW5
  rw [HMN.out] at kM
  replace kR := bx_below kR z2 hb5
  replace fR := bxF fR hb5 z2
  have HOF : Hid (Own W5 (w.heap.size + 1 + 1) w2.heap.size shConnO (y0, y1, y2, y3, y4, d5, true, y7, y8, d9, y10, y11, d12, ()) [.int .i64 y0, .int .i64 y1, .int .i64 y2, .bool y3, .bool y4, u, .bool true, .int .i64 y7, .bool y8, v1, v2, .int .i64 y10, .int .i64 y11, s]) := hoF.below (Nat.le_refl _) hb5
  replace HB : Hid (Below w.heap.size w W5) := HB.out.trans (hb5.mono HB.out.size)
  obtain ⟨q, hq⟩ : ∃ q, q = w2.heap.size := ⟨_, rfl⟩
  rw [← hq] at z5 kM fM z2 HOF ⊢
  clear hq hb5 hoF
  go_upto_region 8 with fail
  replace kM := bx_put kM (k := 6) (v := .bool true) (by simp)
  simp only [List.setIfInBounds_toArray, List.set_cons_zero, List.set_cons_succ] at kM
  replace kR : ∀ o, (W5.setCell ⟨q, 6, none⟩ (.bool true)).cell? ⟨w.heap.size + 1, o, none⟩ = (#[.int .i64 0, .int .i64 0, .int .i64 0, .int .i64 0, .bool false, .bool false, .slice none 0 0, .bool false, .int .i64 0, .bool false, .slice none 0 0, .slice none 0 0, .int .i64 0, .int .i64 0, .slice none 0 0, .slice none 0 0, .slice none 0 0, .bool false] : Array Value)[o]? := bx_setC kR (by omega)
  replace fR : ∀ o, (W5.setCell ⟨q, 6, none⟩ (.bool true)).frozen? ⟨w.heap.size + 1, o, none⟩ = false := fx_setC fR
  replace HOF : Hid (Own (W5.setCell ⟨q, 6, none⟩ (.bool true)) (w.heap.size + 1 + 1) q shConnO (y0, y1, y2, y3, y4, d5, true, y7, y8, d9, y10, y11, d12, ()) [.int .i64 y0, .int .i64 y1, .int .i64 y2, .bool y3, .bool y4, u, .bool true, .int .i64 y7, .bool y8, v1, v2, .int .i64 y10, .int .i64 y11, s]) := Own.keep HOF.out (fun b h1 h2 => Below.heap_setCell _ _ _ _ (by dsimp only; omega))
  replace HB : Hid (Below w.heap.size w (W5.setCell ⟨q, 6, none⟩ (.bool true))) := Below.setCell (p := ⟨q, 6, none⟩) HB.out (show w.heap.size ≤ q by omega) _
  have z6 : q < (W5.setCell ⟨q, 6, none⟩ (.bool true)).heap.size := by simpa using z5
  generalize hW6 : W5.setCell ⟨q, 6, none⟩ (.bool true) = W6 at kM kR fR HOF HB z6 ⊢
  clear hW6 fM z5
  have HKM : Hid (W6.rangeAt q 0 [.int .i64 y0, .int .i64 y1, .int .i64 y2, .bool y3, .bool y4, u, .bool true, .int .i64 y7, .bool y8, v1, v2, .int .i64 y10, .int .i64 y11, s]) := bx_range kM
  have HIL : Hid ((Tryz.prog.info? 29).map (·.size) = some [.int .i64 y0, .int .i64 y1, .int .i64 y2, .bool y3, .bool y4, u, .bool true, .int .i64 y7, .bool y8, v1, v2, .int .i64 y10, .int .i64 y11, s].length) := (by kernel_rfl : (Tryz.prog.info? 29).map (·.size) = some 14)
  obtain ⟨N, hN⟩ : ∃ N : Array Value, N = #[.int .i64 0, .int .i64 y0, .int .i64 y1, .int .i64 y2, .bool y3, .bool y4, u, .bool true, .int .i64 y7, .bool y8, v1, v2, .int .i64 y10, .int .i64 y11, s, .slice none 0 0, .slice none 0 0, .bool false] := ⟨_, rfl⟩
  have HN : Hid _ := hN
  have hNz : N.size = 18 := by rw [hN]; rfl
  have HIN : Hid ((Tryz.prog.info? 63).map (·.size) = some N.size) := by show _ = _; rw [hNz]; exact info_R18
  have HNZ : Hid _ := hNz
  clear kM o1 o2 o3 o4
  have HTH : Hid (W6.there (w.heap.size + 1) 0 N.size) := bx_there kR fR (by rw [HNZ.out]; rfl)
  have kF : Hid (∀ o, (W6.setCells (w.heap.size + 1) 0 N.toList).cell? ⟨w.heap.size + 1, o, none⟩ = N[o]?) := bx_setCells kR (by rw [HNZ.out]; rfl)
  have HRES : Hid (Own W6 (w.heap.size + 1 + 1) q shCR (0, (y0, y1, y2, y3, y4, d5, true, y7, y8, d9, y10, y11, d12, ()), [], [], false, ()) N.toList) := by show Own _ _ _ _ _ _; rw [hN]; exact own_CR (by omega) (by decide) HOF.out
  have HONE : Hid (N.all (·.oneCell') = true) := rd_all (s := shCR) (HRES.out.rd (Nat.le_refl _))
  clear hN hNz HOF
  go_wp2_with (first | (refine wpList_load_mid rfl 29 _ rfl _ _ (by rfl) [.int .i64 y0, .int .i64 y1, .int .i64 y2, .bool y3, .bool y4, u, .bool true, .int .i64 y7, .bool y8, v1, v2, .int .i64 y10, .int .i64 y11, s] _ HKM.out Tryz.underlying29 rfl HIL.out ?_) | (refine wpList_store_mid rfl 63 _ _ rfl _ _ N (by rfl) (by rw [HN.out]; rfl) HTH.out HIN.out HONE.out ?_))
  refine bodyPost_ret (results_box Tryz.results32 _ _ _ N _ (by rfl) kF.out Tryz.underlying63 rfl HIN.out) rfl ⟨N, rfl, ?_, ?_⟩
  · refine Own.mono (Own.keep HRES.out fun b hb hlt => setCells_block (by omega) _ _ _) (by omega) (by rw [setCells_size]; omega)
  · exact setCells_below (by omega) _ _ _ _ HB.out
theorem sCloseConn (c : DConn) (A : Array Value) (w : World) (B : Nat) (hr : shConn.Rd w B c A.toList) (hB : B ≤ w.heap.size) (hT : totConn c ≤ 1048576) :
    Calls Tryz.prog 32 #[.agg A] w fun e w' => ∃ N : Array Value, e = .returned (.agg N) ∧ Own w' w.heap.size w'.heap.size shCR (cloV c) N.toList ∧ Below w.heap.size w w' := by
  have HF : ∀ W, Below w.heap.size w W → (∀ o, W.cell? ⟨w.heap.size, o, none⟩ = A[o]?) → Calls Tryz.prog 45 #[.pointer (some ⟨w.heap.size, 0, none⟩)] W fun e w' => e = .returned (.int .i64 (connF c)) ∧ Below W.heap.size W w' := fun W hW hk => sL9Fault c A w.heap.size 0 W B (ConnAt.of (bx_range hk) (Sh.Rd.below hr hB hW) (Nat.le_trans hB hW.size) hT)
  have h6 := (conn_fin hr).1
  unfold cloV
  by_cases hC : connF c = 0
  · rw [if_pos hC]
    rw [hC] at HF
    split
    · rename_i hf
      rw [hf] at h6
      exact (sClose10 A w h6 HF).mono (by rintro e w' ⟨rfl, hb⟩; exact ⟨_, rfl, own_bad w' _ _ hb.size (by decide), hb⟩)
    · rename_i hf
      rw [show c.2.2.2.2.2.2.1 = false by simpa using hf] at h6
      exact sCloseOk c A w B hr hB hT hC h6 HF
  · rw [if_neg hC]
    exact (sCloseC A _ hC w HF).mono (by rintro e w' ⟨rfl, hb⟩; exact ⟨_, rfl, own_bad w' _ _ hb.size (wf_i64' (by have := connF_bd c; unfold Small at this; omega)), hb⟩)
end Go.Proofs.YtmpbejckggnfaaaGreatDoor
