/- CloseConn by program and model; the answer owns its memory; nothing that was in memory turns; no condition but that there are at most a million parts and errors' own variable is as it is laid. Written by mkclose9.py. -/
import Derived.Test.YtbdibjeemgkdaaaGreatDoorRows
import Derived.Deep.RegionHeld3
import Derived.Deep.DeepCutAuto
import Derived.Deep.DeepMust
import Derived.Deep.MidRow
import Derived.Test.YtbdibjeemgkdaaaGreatDoorK01
import Derived.Test.YtbdibjeemgkdaaaGreatDoorK02
import Derived.Test.YtbdibjeemgkdaaaGreatDoorK03
import Derived.Test.YtbdibjeemgkdaaaGreatDoorK04
import Derived.Test.YtbdibjeemgkdaaaGreatDoorK09
import Derived.Test.YtbdibjeemgkdaaaGreatDoorK10
import Derived.Test.YtbdibjeemgkdaaaGreatDoorK11
import Derived.Test.YtbdibjeemgkdaaaGreatDoorK12
import Derived.Test.YtbdibjeemgkdaaaGreatDoorK13
import Derived.Test.YtbdibjeemgkdaaaGreatDoorK16
import Derived.Test.YtbdibjeemgkdaaaGreatDoorK17
import Derived.Test.YtbdibjeemgkdaaaGreatDoorK18
import Derived.Test.YtbdibjeemgkdaaaGreatDoorK19
import Derived.Test.YtbdibjeemgkdaaaGreatDoorK20
import Derived.Test.YtbdibjeemgkdaaaGreatDoorK21
import Derived.Test.YtbdibjeemgkdaaaGreatDoorK25
import Derived.Test.YtbdibjeemgkdaaaGreatDoorK30
import Derived.Test.YtbdibjeemgkdaaaGreatDoorK31
import Derived.Test.YtbdibjeemgkdaaaGreatDoorK47
namespace Go.Proofs.YtbdibjeemgkdaaaGreatDoor
open Go.RowKit
set_option linter.unusedVariables false
set_option maxRecDepth 8000

theorem ErrLaid.below {w W : World} (h : ErrLaid w) (hb : Below w.heap.size w W) : ErrLaid W := by
  have hlt : 0 < w.heap.size := by
    rcases Nat.eq_zero_or_pos w.heap.size with h0 | h1
    · unfold ErrLaid at h; simp [World.cell?, h0] at h
    · exact h1
  unfold ErrLaid at *
  rw [hb.cell (p := ⟨0, 0, none⟩) hlt]; exact h
def zC : DConn := (0, 0, 0, false, false, [], false, 0, false, ([], [], ()), 0, 0, [], ())
def badR (q : Int) : DCR := (q, zC, [], [], false, ())
def bad18 (q : Int) : Array Value := #[.int .i64 q, .int .i64 0, .int .i64 0, .int .i64 0, .bool false, .bool false, .slice none 0 0, .bool false, .int .i64 0, .bool false, .slice none 0 0, .slice none 0 0, .int .i64 0, .int .i64 0, .slice none 0 0, .slice none 0 0, .slice none 0 0, .bool false]
def finC (c : DConn) : DConn := (c.1, c.2.1, c.2.2.1, c.2.2.2.1, c.2.2.2.2.1, c.2.2.2.2.2.1, true, c.2.2.2.2.2.2.2.1, c.2.2.2.2.2.2.2.2.1, c.2.2.2.2.2.2.2.2.2.1, c.2.2.2.2.2.2.2.2.2.2.1, c.2.2.2.2.2.2.2.2.2.2.2.1, c.2.2.2.2.2.2.2.2.2.2.2.2.1, ())
/-- What CloseConn answers. -/
def cloV (c : DConn) : DCR := if connF c = 0 then (if c.2.2.2.2.2.2.1 = true then badR 10 else (0, finC c, [], [], false, ())) else badR (connF c)
theorem badR_tot (q : Int) : totCR (badR q) = 0 := rfl
theorem cloV_tot {c : DConn} (h : totConn c ≤ 1048576) : totCR (cloV c) ≤ 1048576 := by
  unfold cloV
  split
  · split
    · rw [badR_tot]; omega
    · have e : totCR (0, finC c, [], [], false, ()) = totConn c := by unfold totCR totConn finC; simp [totSegms, fsum]
      rw [e]; exact h
  · rw [badR_tot]; omega
theorem wtCR_le {x : DCR} (h : totCR x ≤ 1048576) : wtCR x ≤ 16777216 := by
  obtain ⟨q, ⟨y0, y1, y2, y3, y4, d5, y6, y7, y8, d9, y10, y11, d12, ⟨⟩⟩, sl, dl, e, ⟨⟩⟩ := x
  have ht : (d5.length + gtTot d9 + (d12.length + fsum totSub d12)) + (sl.length + fsum totSegm sl) + dl.length ≤ 1048576 := h
  have hw9 := wtGt_tot d9
  have hws := wtSubs_le d12
  have hsg := wtSegms_le sl
  show (d5.length + wtGt d9 + fsum wtSubE d12) + fsum wtSegm sl + dl.length ≤ 16777216
  omega
theorem info_R18 : (Tryz.prog.info? 38).map (·.size) = some 18 := by kernel_rfl
theorem bad_one (q : Int) : (bad18 q).all (·.oneCell') = true := by unfold bad18; simp [Value.oneCell']
theorem own_sg0 (w : World) (lo hi : Nat) : Own w lo hi shSegms [] [.slice none 0 0] := ⟨[], Or.inl ⟨rfl, rfl, rfl⟩, by simp, by simp⟩
theorem own_by0 (w : World) (lo hi : Nat) : Own w lo hi u8s [] [.slice none 0 0] := ⟨[], Or.inl ⟨rfl, rfl, rfl⟩, by simp, by simp⟩
theorem own_CR {w : World} {lo hi : Nat} {q : Int} {c : DConn} {C : List Value} (hl : lo ≤ hi) (hq : (Lit.int .i64 q).wf = true) (h : Own w lo hi shConnO c C) : Own w lo hi shCR (q, c, [], [], false, ()) (.int .i64 q :: (C ++ [.slice none 0 0, .slice none 0 0, .bool false])) :=
  hOwnCons (hOwnInt w lo lo hq) (hOwnCons h (hOwnCons (own_sg0 w hi hi) (hOwnCons (own_by0 w hi hi) (hOwnCons (hOwnBool w hi hi false) (hOwnNil w hi hi) (Nat.le_refl _) (Nat.le_refl _)) (Nat.le_refl _) (Nat.le_refl _)) (Nat.le_refl _) (Nat.le_refl _)) hl (Nat.le_refl _)) (Nat.le_refl _) hl
theorem own_zC (w : World) (lo hi : Nat) (hl : lo ≤ hi) : Own w lo hi shConnO zC [.int .i64 0, .int .i64 0, .int .i64 0, .bool false, .bool false, .slice none 0 0, .bool false, .int .i64 0, .bool false, .slice none 0 0, .slice none 0 0, .int .i64 0, .int .i64 0, .slice none 0 0] := by
  have z : (Lit.int .i64 0).wf = true := by decide
  exact own_ConnO9 (own_by0 w lo lo) (hOwnCons (own_by0 w lo lo) (hOwnCons (own_pcs0 w lo lo) (hOwnNil w lo lo) (Nat.le_refl _) (Nat.le_refl _)) (Nat.le_refl _) (Nat.le_refl _)) (own_subs0 w lo hi) (Nat.le_refl _) (Nat.le_refl _) hl ⟨z, z, z, z, z, z⟩
theorem own_bad (w : World) (lo hi : Nat) (hl : lo ≤ hi) {q : Int} (hq : (Lit.int .i64 q).wf = true) : Own w lo hi shCR (badR q) (bad18 q).toList := own_CR hl hq (own_zC w lo hi hl)
/-- A conn that owns, by its cells; and the same with another Fin. -/
theorem own_fin {w : World} {lo hi : Nat} {y0 y1 y2 : Int} {y3 y4 : Bool} {d5 : List Int} {y6 : Bool} {y7 : Int} {y8 : Bool} {d9 : Gt} {y10 y11 : Int} {d12 : List DSub} {cs : List Value} (h : Own w lo hi shConnO (y0, y1, y2, y3, y4, d5, y6, y7, y8, d9, y10, y11, d12, ()) cs) (hw : ConnWf (y0, y1, y2, y3, y4, d5, y6, y7, y8, d9, y10, y11, d12, ())) (f : Bool) : ∃ u v1 v2 s, cs = [.int .i64 y0, .int .i64 y1, .int .i64 y2, .bool y3, .bool y4, u, .bool y6, .int .i64 y7, .bool y8, v1, v2, .int .i64 y10, .int .i64 y11, s] ∧ Own w lo hi shConnO (y0, y1, y2, y3, y4, d5, f, y7, y8, d9, y10, y11, d12, ()) [.int .i64 y0, .int .i64 y1, .int .i64 y2, .bool y3, .bool y4, u, .bool f, .int .i64 y7, .bool y8, v1, v2, .int .i64 y10, .int .i64 y11, s] ∧ u.oneCell' = true ∧ v1.oneCell' = true ∧ v2.oneCell' = true ∧ s.oneCell' = true := by
  have hall := rd_one _ _ _ (h.rd (Nat.le_refl _))
  obtain ⟨bs, ho, hnd, hb⟩ := h
  obtain ⟨b1, b2, b3, u, v1, v2, s, e1, e2, h5, h9, h12, -⟩ := ow_ConnO ho
  obtain ⟨w0, w1, w2, w7, w10, w11⟩ := hw
  subst e1
  subst e2
  refine ⟨u, v1, v2, s, rfl, ⟨_, ?_, hnd, hb⟩, hall _ (by simp), hall _ (by simp), hall _ (by simp), hall _ (by simp)⟩
  exact ⟨[], _, _, _, rfl, rfl, ⟨rfl, rfl, w0⟩, [], _, _, _, rfl, rfl, ⟨rfl, rfl, w1⟩, [], _, _, _, rfl, rfl, ⟨rfl, rfl, w2⟩, [], _, _, _, rfl, rfl, ⟨rfl, rfl⟩, [], _, _, _, rfl, rfl, ⟨rfl, rfl⟩, b1, _, [u], _, rfl, rfl, h5, [], _, _, _, rfl, rfl, ⟨rfl, rfl⟩, [], _, _, _, rfl, rfl, ⟨rfl, rfl, w7⟩, [], _, _, _, rfl, rfl, ⟨rfl, rfl⟩, b2, _, [v1, v2], _, rfl, rfl, h9, [], _, _, _, rfl, rfl, ⟨rfl, rfl, w10⟩, [], _, _, _, rfl, rfl, ⟨rfl, rfl, w11⟩, b3, [], [s], [], (List.append_nil _).symm, rfl, h12, rfl, rfl⟩
theorem conn_fin {w : World} {B : Nat} {c : DConn} {A : Array Value} (hr : shConn.Rd w B c A.toList) : A[6]? = some (.bool c.2.2.2.2.2.2.1) ∧ ConnWf c := by
  obtain ⟨y0, y1, y2, y3, y4, d5, y6, y7, y8, d9, y10, y11, l, ⟨⟩⟩ := c
  obtain ⟨a5, c5, a9, c9, a9', c9', a12, c12, eA, -, -, -, hw⟩ := rd_Conn hr
  exact ⟨get_of eA 6, hw⟩
theorem iMayCloseC (A : Array Value) (C : Int) (hC : C ≠ 0) (w : World) (hA : A.size = 14) (HF : ∀ W, Below w.heap.size w W → Calls Tryz.prog 86 #[.agg A] W fun e w' => e = .returned (.int .i64 C) ∧ Below W.heap.size W w') :
    Calls Tryz.prog 71 #[.agg A] w fun e w' => e = .returned (.iface 128 (.agg #[.int .i64 C])) ∧ Below w.heap.size w w' := by
  have hC' : (C != 0) = true := by simp [hC]
  have HFX : Hid _ := HF
  clear hC HF
  have HRGX : Hid (∀ W : World, (∀ o, W.cell? ⟨w.heap.size, o, none⟩ = A[o]?) → Hid (W.rangeAt w.heap.size 0 A.toList)) := fun W hk => bx_range hk
  have HI : Hid ((Tryz.prog.info? 35).map (·.size) = some A.toList.length) := by show _ = _; rw [Array.length_toList, hA]; exact (by kernel_rfl : (Tryz.prog.info? 35).map (·.size) = some 14)
  clear hA
  go_enter Tryz.func71, Tryz.ntmps71
  go_upto_region 1 with fail
  have HRG := HRGX.out (w.alloc (.cells A 35)) (bx_al _ _ _)
  go_wp2_with (refine wpList_load_mid rfl 35 _ rfl _ _ (by rfl) A.toList _ HRG.out Tryz.underlying35 rfl HI.out ?_)
  refine (HFX.out _ (by go_grown)).mono ?_
  rintro e w1 ⟨rfl, hb⟩
  have k0 := bx_new hb
  have HB : Hid (Below w.heap.size w w1) := (bl_new hb).1
  clear hb HRG HFX
  go_wp2_with fail
  go_ret
  exact ⟨rfl, HB.out⟩
theorem iMayClose0 (A : Array Value) (f : Bool) (w : World) (hA : A.size = 14) (h6 : A[6]? = some (.bool f)) (HF : ∀ W, Below w.heap.size w W → Calls Tryz.prog 86 #[.agg A] W fun e w' => e = .returned (.int .i64 0) ∧ Below W.heap.size W w') :
    Calls Tryz.prog 71 #[.agg A] w fun e w' => e = .returned (if f = true then .iface 128 (.agg #[.int .i64 10]) else .nilIface) ∧ Below w.heap.size w w' := by
  have HFX : Hid _ := HF
  clear HF
  have HRGX : Hid (∀ W : World, (∀ o, W.cell? ⟨w.heap.size, o, none⟩ = A[o]?) → Hid (W.rangeAt w.heap.size 0 A.toList)) := fun W hk => bx_range hk
  have HI : Hid ((Tryz.prog.info? 35).map (·.size) = some A.toList.length) := by show _ = _; rw [Array.length_toList, hA]; exact (by kernel_rfl : (Tryz.prog.info? 35).map (·.size) = some 14)
  clear hA
  cases f
  case false =>
    go_enter Tryz.func71, Tryz.ntmps71
    go_upto_region 1 with fail
    have HRG := HRGX.out (w.alloc (.cells A 35)) (bx_al _ _ _)
    go_wp2_with (refine wpList_load_mid rfl 35 _ rfl _ _ (by rfl) A.toList _ HRG.out Tryz.underlying35 rfl HI.out ?_)
    refine (HFX.out _ (by go_grown)).mono ?_
    rintro e w1 ⟨rfl, hb⟩
    have k0 := bx_new hb
    have HB : Hid (Below w.heap.size w w1) := (bl_new hb).1
    clear hb HRG HFX
    go_wp2_with fail
    go_ret
    exact ⟨rfl, HB.out⟩
  case true =>
    go_enter Tryz.func71, Tryz.ntmps71
    go_upto_region 1 with fail
    have HRG := HRGX.out (w.alloc (.cells A 35)) (bx_al _ _ _)
    go_wp2_with (refine wpList_load_mid rfl 35 _ rfl _ _ (by rfl) A.toList _ HRG.out Tryz.underlying35 rfl HI.out ?_)
    refine (HFX.out _ (by go_grown)).mono ?_
    rintro e w1 ⟨rfl, hb⟩
    have k0 := bx_new hb
    have HB : Hid (Below w.heap.size w w1) := (bl_new hb).1
    clear hb HRG HFX
    go_wp2_with fail
    go_ret
    exact ⟨rfl, HB.out⟩
theorem sBad9 (q : Int) (w : World) : Calls Tryz.prog 30 #[.int .i64 q] w fun e w' => e = .returned (.agg (bad18 q)) ∧ Below w.heap.size w w' := by
  obtain ⟨N, hN⟩ : ∃ N : Array Value, N = bad18 q := ⟨_, rfl⟩
  have HN : Hid _ := hN
  have hNz : N.size = 18 := by rw [hN]; rfl
  have HIN : Hid ((Tryz.prog.info? 38).map (·.size) = some N.size) := by show _ = _; rw [hNz]; exact info_R18
  have HONE : Hid (N.all (·.oneCell') = true) := by show _ = _; rw [hN]; exact bad_one _
  have HNZ : Hid _ := hNz
  rw [← hN]
  have HTH : Hid ((w.alloc (.cells #[.int .i64 0, .int .i64 0, .int .i64 0, .int .i64 0, .bool false, .bool false, .slice none 0 0, .bool false, .int .i64 0, .bool false, .slice none 0 0, .slice none 0 0, .int .i64 0, .int .i64 0, .slice none 0 0, .slice none 0 0, .slice none 0 0, .bool false] 38)).there w.heap.size 0 N.size) := bx_there (bx_al _ _ _) (fx_al _ _ _) (by rw [hNz]; rfl)
  have kF : Hid (∀ o, ((w.alloc (.cells #[.int .i64 0, .int .i64 0, .int .i64 0, .int .i64 0, .bool false, .bool false, .slice none 0 0, .bool false, .int .i64 0, .bool false, .slice none 0 0, .slice none 0 0, .int .i64 0, .int .i64 0, .slice none 0 0, .slice none 0 0, .slice none 0 0, .bool false] 38)).setCells w.heap.size 0 N.toList).cell? ⟨w.heap.size, o, none⟩ = N[o]?) := bx_setCells (bx_al _ _ _) (by rw [hNz]; rfl)
  have HB : Hid (Below w.heap.size w (w.alloc (.cells #[.int .i64 0, .int .i64 0, .int .i64 0, .int .i64 0, .bool false, .bool false, .slice none 0 0, .bool false, .int .i64 0, .bool false, .slice none 0 0, .slice none 0 0, .int .i64 0, .int .i64 0, .slice none 0 0, .slice none 0 0, .slice none 0 0, .bool false] 38))) := (Below.refl _ _).alloc (Nat.le_refl _) _
  clear hN hNz
  go_enter Tryz.func30, Tryz.ntmps30
  go_wp2_with (refine wpList_store_mid rfl 38 _ _ rfl _ _ N (by rfl) (by rw [HN.out]; rfl) HTH.out HIN.out HONE.out ?_)
  refine bodyPost_ret (results_box Tryz.results30 _ _ _ N _ (by rfl) kF.out Tryz.underlying38 rfl HIN.out) rfl ⟨rfl, ?_⟩
  exact setCells_below (Nat.le_refl _) _ _ _ _ HB.out
end Go.Proofs.YtbdibjeemgkdaaaGreatDoor
