/- DialConn answers alike, by program and model; the answer owns its memory; nothing that was in memory turns; no condition but that there are at most a million parts and errors' own variable is as it is laid. -/
import Derived.Test.YtbdibjeemgkdaaaGreatDoorRows
import Derived.Deep.RegionHeld3
import Derived.Deep.DeepCutAuto
import Derived.Deep.DeepMust
import Derived.Deep.MidRow
import Derived.Test.YtbdibjeemgkdaaaGreatDoorK01
import Derived.Test.YtbdibjeemgkdaaaGreatDoorK02
import Derived.Test.YtbdibjeemgkdaaaGreatDoorK03
import Derived.Test.YtbdibjeemgkdaaaGreatDoorK04
import Derived.Test.YtbdibjeemgkdaaaGreatDoorK05
import Derived.Test.YtbdibjeemgkdaaaGreatDoorK09
import Derived.Test.YtbdibjeemgkdaaaGreatDoorK10
import Derived.Test.YtbdibjeemgkdaaaGreatDoorK11
import Derived.Test.YtbdibjeemgkdaaaGreatDoorK12
import Derived.Test.YtbdibjeemgkdaaaGreatDoorK13
import Derived.Test.YtbdibjeemgkdaaaGreatDoorK15
import Derived.Test.YtbdibjeemgkdaaaGreatDoorK16
import Derived.Test.YtbdibjeemgkdaaaGreatDoorK17
import Derived.Test.YtbdibjeemgkdaaaGreatDoorK18
import Derived.Test.YtbdibjeemgkdaaaGreatDoorK19
import Derived.Test.YtbdibjeemgkdaaaGreatDoorK20
import Derived.Test.YtbdibjeemgkdaaaGreatDoorK21
import Derived.Test.YtbdibjeemgkdaaaGreatDoorK25
import Derived.Test.YtbdibjeemgkdaaaGreatDoorK30
import Derived.Test.YtbdibjeemgkdaaaGreatDoorK31
import Derived.Test.YtbdibjeemgkdaaaGreatDoorK32
import Derived.Test.YtbdibjeemgkdaaaGreatDoorK33
import Derived.Test.YtbdibjeemgkdaaaGreatDoorK47
import Derived.Test.YtbdibjeemgkdaaaGreatDoorK48
import Derived.Test.YtbdibjeemgkdaaaGreatDoorK49
import Derived.Test.YtbdibjeemgkdaaaGreatDoorK50
import Derived.Test.YtbdibjeemgkdaaaGreatDoorK51
import Derived.Test.YtbdibjeemgkdaaaGreatDoorK52
namespace Go.Proofs.YtbdibjeemgkdaaaGreatDoor
open Go.RowKit
set_option linter.unusedVariables false
set_option maxRecDepth 8000
/-- Whether a second path may be asked for. -/
def mjD (c : DConn) : Bool := (!c.plain && decide (c.peer ≠ 0)) && decide ((c.subs.head?.map fun x => x.2.1) = some 3)
def stD (c : DConn) (p : Int) : Int := wrp (mixV [c.key, p + 2])
def dialX (c : DConn) (p no nw : Int) : DSub := newX p (stD c p) (decide (0 < c.subs.length)) no nw
def askD (c : DConn) (p no nw : Int) : DSegm := (p, c.side, true, false, false, stD c p, 0, 0, (if decide (0 < c.subs.length) then 2 else 1), (if decide (0 < c.subs.length) then mixV [c.peer, 1] else c.key), (if decide (0 < c.subs.length) then no else 0), [], ())
def diaV (c : DConn) (p no nw : Int) : DCR :=
  if connF c = 0 then (if (inD p 0 2 && inD no 0 1000000 && inD nw 0 1000000) = true then (if c.side = 0 ∧ (c.subs.length = 0 ∨ mjD c = true) then (if placeD c.subs p < 0 then (0, diaC c (dialX c p no nw), [askD c p no nw], [], false, ()) else badR 7) else badR 10) else badR 3) else badR (connF c)
theorem diaV_tot (c : DConn) (p no nw : Int) : totCR (diaV c p no nw) ≤ 1048576 := by
  unfold diaV
  split
  · rename_i h
    have hs := conn_small h
    split
    · split
      · split
        · have e : totCR (0, diaC c (dialX c p no nw), [askD c p no nw], [], false, ()) = totConn c + 2 := by
            unfold totCR totConn diaC
            simp [totSegms, totSubs, fsum, totSegm, askD, totSub, dialX, newX, totSender, totFlights, totCatch, totSpans]
            omega
          rw [e]; omega
        · rw [badR_tot]; omega
      · rw [badR_tot]; omega
    · rw [badR_tot]; omega
  · rw [badR_tot]; omega
theorem mixV_wf (l : List Int) : (Lit.int .i64 (mixV l)).wf = true := wf_i64' (by unfold mixV; omega)
theorem wrp_wfD (n : Int) : (Lit.int .i64 (wrp n)).wf = true := wf_i64' (by unfold wrp; omega)
theorem head_at {w : World} {B : Nat} {c : DConn} {A : Array Value} (hr : shConn.Rd w B c A.toList) (hT : totConn c ≤ 1048576) : ∃ a cap, A[13]? = some (.slice a c.subs.length cap) ∧ shSubs.Rd w B c.subs [.slice a c.subs.length cap] ∧ c.subs.length ≤ 1048576 ∧ (0 < c.subs.length → ∃ b off st, a = some ⟨b, off, none⟩ ∧ b < B ∧ w.cell? ⟨b, off + 1, none⟩ = some (.int .i64 st) ∧ (c.subs.head?.map fun x => x.2.1) = some st) := by
  obtain ⟨y0, y1, y2, y3, y4, d5, y6, y7, y8, d9, y10, y11, l, ⟨⟩⟩ := c
  obtain ⟨a5, c5, a9, c9, a9', c9', a12, c12, eA, -, -, r12, -⟩ := rd_Conn hr
  have h2 : d5.length + gtTot d9 + (l.length + fsum totSub l) ≤ 1048576 := hT
  refine ⟨a12, c12, get_of eA 13, r12, by show l.length ≤ _; omega, fun hk => ?_⟩
  have hk' : 0 < l.length := hk
  obtain ⟨b, off, cs, ha, hb, hlen, hrg, hrs, -⟩ := sub_at r12 0 hk'
  obtain ⟨u, v, e, -⟩ := rd_Sub hrs
  have q := hrg 1 (.int .i64 l[0].2.1) (by rw [e]; rfl)
  rw [Nat.zero_mul, Nat.add_zero] at q
  exact ⟨b, off, _, ha, hb, q, by show (l.head?.map fun x => x.2.1) = _; rw [List.head?_eq_getElem?, List.getElem?_eq_getElem hk']; rfl⟩
theorem conn3 {w : World} {B : Nat} {c : DConn} {A : Array Value} (hr : shConn.Rd w B c A.toList) : A[0]? = some (.int .i64 c.side) ∧ A[1]? = some (.int .i64 c.key) ∧ A[2]? = some (.int .i64 c.peer) ∧ A[3]? = some (.bool c.plain) ∧ ConnWf c := by
  obtain ⟨y0, y1, y2, y3, y4, d5, y6, y7, y8, d9, y10, y11, l, ⟨⟩⟩ := c
  obtain ⟨a5, c5, a9, c9, a9', c9', a12, c12, eA, -, -, -, hw⟩ := rd_Conn hr
  exact ⟨get_of eA 0, get_of eA 1, get_of eA 2, get_of eA 3, hw⟩
theorem ask_wf {w : World} {B : Nat} {c : DConn} {A : Array Value} (hr : shConn.Rd w B c A.toList) {p no nw : Int} (hp : inD p 0 2 = true) (hno : inD no 0 1000000 = true) : SRWf0 (askD c p no nw) := by
  obtain ⟨-, -, -, -, w0, w1, -⟩ := conn3 hr
  simp only [inD, Bool.and_eq_true, decide_eq_true_eq] at hp hno
  have z : (Lit.int .i64 0).wf = true := by decide
  refine ⟨wf_i64' (by show _ ∧ _; unfold askD; dsimp only; omega), w0, wrp_wfD _, z, z, ?_, ?_, ?_⟩
  · show (Lit.int .i64 (if decide (0 < c.subs.length) = true then 2 else 1)).wf = true
    split <;> decide
  · show (Lit.int .i64 (if decide (0 < c.subs.length) = true then mixV [c.peer, 1] else c.key)).wf = true
    split
    · exact mixV_wf _
    · exact w1
  · show (Lit.int .i64 (if decide (0 < c.subs.length) = true then no else 0)).wf = true
    split
    · exact wf_i64' (by omega)
    · exact z
set_option maxHeartbeats 1000000 in
theorem iDialBad (A : Array Value) (p no nw C : Int) (w : World) (hA : A.size = 14) (hE : ErrLaid w) (hM : ∀ W, Below w.heap.size w W → Calls Tryz.prog 57 #[.agg A, .int .i64 p, .int .i64 no, .int .i64 nw] W fun e w' => e = .returned (.iface 128 (.agg #[.int .i64 C])) ∧ Below W.heap.size W w') :
    Calls Tryz.prog 25 #[.agg A, .int .i64 p, .int .i64 no, .int .i64 nw] w fun e w' => e = .returned (.agg (bad18 C)) ∧ Below w.heap.size w w' := by
  have HI : Hid ((Tryz.prog.info? 35).map (·.size) = some A.toList.length) := by show _ = _; rw [Array.length_toList, hA]; exact (by kernel_rfl : (Tryz.prog.info? 35).map (·.size) = some 14)
  have HM : Hid _ := hM
  have HCO : Hid (∀ W, Below w.heap.size w W → Calls Tryz.prog 35 #[.iface 128 (.agg #[.int .i64 C])] W fun e w' => e = .returned (.int .i64 C) ∧ Below W.heap.size W w') := fun W hW => dCode C W (ErrLaid.below hE hW)
  clear hM hE hA
  obtain ⟨N, hN⟩ : ∃ N : Array Value, N = bad18 C := ⟨_, rfl⟩
  have HN : Hid _ := hN
  have hNz : N.size = 18 := by rw [hN]; rfl
  have HIN : Hid ((Tryz.prog.info? 38).map (·.size) = some N.size) := by show _ = _; rw [hNz]; exact info_R18
  have HONE : Hid (N.all (·.oneCell') = true) := by show _ = _; rw [hN]; exact bad_one _
  have HNZ : Hid _ := hNz
  rw [← hN]
  clear hN hNz
  have HWA : Hid (Below w.heap.size w ((w.alloc (.cells A 35)).alloc (.cells #[.int .i64 0, .int .i64 0, .int .i64 0, .int .i64 0, .bool false, .bool false, .slice none 0 0, .bool false, .int .i64 0, .bool false, .slice none 0 0, .slice none 0 0, .int .i64 0, .int .i64 0, .slice none 0 0, .slice none 0 0, .slice none 0 0, .bool false] 38)) ∧ ((w.alloc (.cells A 35)).alloc (.cells #[.int .i64 0, .int .i64 0, .int .i64 0, .int .i64 0, .bool false, .bool false, .slice none 0 0, .bool false, .int .i64 0, .bool false, .slice none 0 0, .slice none 0 0, .int .i64 0, .int .i64 0, .slice none 0 0, .slice none 0 0, .slice none 0 0, .bool false] 38)).heap.size = w.heap.size + 2 ∧ (∀ o, ((w.alloc (.cells A 35)).alloc (.cells #[.int .i64 0, .int .i64 0, .int .i64 0, .int .i64 0, .bool false, .bool false, .slice none 0 0, .bool false, .int .i64 0, .bool false, .slice none 0 0, .slice none 0 0, .int .i64 0, .int .i64 0, .slice none 0 0, .slice none 0 0, .slice none 0 0, .bool false] 38)).cell? ⟨w.heap.size, o, none⟩ = (A : Array Value)[o]?) ∧ (∀ o, ((w.alloc (.cells A 35)).alloc (.cells #[.int .i64 0, .int .i64 0, .int .i64 0, .int .i64 0, .bool false, .bool false, .slice none 0 0, .bool false, .int .i64 0, .bool false, .slice none 0 0, .slice none 0 0, .int .i64 0, .int .i64 0, .slice none 0 0, .slice none 0 0, .slice none 0 0, .bool false] 38)).cell? ⟨w.heap.size + 1, o, none⟩ = (#[.int .i64 0, .int .i64 0, .int .i64 0, .int .i64 0, .bool false, .bool false, .slice none 0 0, .bool false, .int .i64 0, .bool false, .slice none 0 0, .slice none 0 0, .int .i64 0, .int .i64 0, .slice none 0 0, .slice none 0 0, .slice none 0 0, .bool false] : Array Value)[o]?) ∧ (∀ o, ((w.alloc (.cells A 35)).alloc (.cells #[.int .i64 0, .int .i64 0, .int .i64 0, .int .i64 0, .bool false, .bool false, .slice none 0 0, .bool false, .int .i64 0, .bool false, .slice none 0 0, .slice none 0 0, .int .i64 0, .int .i64 0, .slice none 0 0, .slice none 0 0, .slice none 0 0, .bool false] 38)).frozen? ⟨w.heap.size + 1, o, none⟩ = false)) := ⟨(((Below.refl _ _).alloc (Nat.le_refl _) _).alloc (by simp) _), by simp, fun o => by simp [go_sem], fun o => by simp [go_sem], fun o => by simp [go_sem]⟩
  go_enter Tryz.func25, Tryz.ntmps25
  go_upto_region 1 with fail
  generalize hWW : ((w.alloc (.cells A 35)).alloc (.cells #[.int .i64 0, .int .i64 0, .int .i64 0, .int .i64 0, .bool false, .bool false, .slice none 0 0, .bool false, .int .i64 0, .bool false, .slice none 0 0, .slice none 0 0, .int .i64 0, .int .i64 0, .slice none 0 0, .slice none 0 0, .slice none 0 0, .bool false] 38)) = W1 at HWA ⊢
  clear hWW
  obtain ⟨hb, hsz, kA, kR, fR⟩ := HWA.out
  clear HWA
  have HB : Hid (Below w.heap.size w W1) := hb
  have zA : w.heap.size < W1.heap.size := by omega
  have zR : w.heap.size + 1 < W1.heap.size := by omega
  clear hb hsz
  go_wp2_with (refine wpList_load_mid rfl 35 _ rfl _ _ (by rfl) A.toList _ (bx_range kA) Tryz.underlying35 rfl HI.out ?_)
  refine (HM.out _ HB.out).mono ?_
  rintro e W2 ⟨rfl, hb⟩
  replace kA := bx_below kA zA hb
  replace zA := Nat.lt_of_lt_of_le zA hb.size
  replace kR := bx_below kR zR hb
  replace fR := bxF fR hb zR
  replace zR := Nat.lt_of_lt_of_le zR hb.size
  replace HB : Hid (Below w.heap.size w W2) := HB.out.trans (hb.mono HB.out.size)
  clear hb
  clear HM
  go_wp2_with fail
  refine (HCO.out _ HB.out).mono ?_
  rintro e W4 ⟨rfl, hb⟩
  replace kA := bx_below kA zA hb
  replace zA := Nat.lt_of_lt_of_le zA hb.size
  replace kR := bx_below kR zR hb
  replace fR := bxF fR hb zR
  replace zR := Nat.lt_of_lt_of_le zR hb.size
  replace HB : Hid (Below w.heap.size w W4) := HB.out.trans (hb.mono HB.out.size)
  clear hb
  clear HCO
  have HTH : Hid (W4.there (w.heap.size + 1) 0 N.size) := bx_there kR fR (by rw [HNZ.out]; rfl)
  have kF : Hid (∀ o, (W4.setCells (w.heap.size + 1) 0 N.toList).cell? ⟨w.heap.size + 1, o, none⟩ = N[o]?) := bx_setCells kR (by rw [HNZ.out]; rfl)
  go_wp2_with (refine wpList_store_mid rfl 38 _ _ rfl _ _ N (by rfl) (by rw [HN.out]; rfl) HTH.out HIN.out HONE.out ?_)
  refine bodyPost_ret (results_box Tryz.results25 _ _ _ N _ (by rfl) kF.out Tryz.underlying38 rfl HIN.out) rfl ⟨rfl, ?_⟩
  exact setCells_below (by omega) _ _ _ _ HB.out
set_option maxHeartbeats 1000000 in
theorem iDialConn (c : DConn) (A : Array Value) (p no nw : Int) (w : World) (B : Nat) (hr : shConn.Rd w B c A.toList) (hB : B ≤ w.heap.size) (hT : totConn c ≤ 1048576) (hE : ErrLaid w) :
    Calls Tryz.prog 25 #[.agg A, .int .i64 p, .int .i64 no, .int .i64 nw] w fun e w' => ∃ N : Array Value, e = .returned (.agg N) ∧ Own w' w.heap.size w'.heap.size shCR (diaV c p no nw) N.toList ∧ Below w.heap.size w w' := by
  have hA : A.size = 14 := rd_size hr
  obtain ⟨x0, x1, x2, x3, hwf⟩ := conn3 hr
  obtain ⟨a13, cap, x13, r13, hsn, hhd⟩ := head_at hr hT
  have HM : ∀ W, Below w.heap.size w W → Calls Tryz.prog 57 #[.agg A, .int .i64 p, .int .i64 no, .int .i64 nw] W fun e w' => e = .returned (if connF c = 0 then (if (inD p 0 2 && inD no 0 1000000 && inD nw 0 1000000) = true then (if c.side = 0 ∧ (c.subs.length = 0 ∨ mjD c = true) then (if placeD c.subs p < 0 then .nilIface else .iface 128 (.agg #[.int .i64 7])) else .iface 128 (.agg #[.int .i64 10])) else .iface 128 (.agg #[.int .i64 3])) else .iface 128 (.agg #[.int .i64 (connF c)])) ∧ Below W.heap.size W w' := fun W hW =>
    iMayDial A p no nw (connF c) c.side (placeD c.subs p) _ (mjD c) a13 c.subs.length cap W hA x0 x13 hsn (fun W' hW' => iConnFault c A W' B (Sh.Rd.below hr hB (hW.trans (hW'.mono hW.size))) (Nat.le_trans hB (hW.trans (hW'.mono hW.size)).size) hT) rfl
      (fun hn W' hW' => by
        obtain ⟨b, off, st, e, hb, q, hh⟩ := hhd hn
        have hbw := hW.trans (hW'.mono hW.size)
        have h := iMayJoin A c.plain c.peer st b off c.subs.length cap W' x2 x3 (by rw [x13, e]) hn hsn (by have := hbw.size; omega) ((hbw.cell (p := ⟨b, off + 1, none⟩) (by show b < _; omega)).trans q)
        have em : mjD c = ((!c.plain && decide (c.peer ≠ 0)) && decide (st = 3)) := by unfold mjD; rw [hh]; congr 1; simp
        rw [em]; exact h)
      (fun W' hW' => iHasPathD a13 c.subs.length cap p _ W' (iPlaceOn c.subs a13 _ cap p W' B (Sh.Rd.below (s := shSubs) r13 hB (hW.trans (hW'.mono hW.size))) (Nat.le_trans hB (hW.trans (hW'.mono hW.size)).size) rfl hsn))
  unfold diaV
  by_cases hC : connF c = 0
  case neg =>
    rw [if_neg hC]
    exact (iDialBad A p no nw _ w hA hE (fun W hW => by have h := HM W hW; rw [if_neg hC] at h; exact h)).mono (by rintro e w' ⟨rfl, hb⟩; exact ⟨_, rfl, own_bad w' _ _ hb.size (wf_i64' (by have := connF_bd c; unfold Small at this; omega)), hb⟩)
  rw [if_pos hC]
  by_cases hR : (inD p 0 2 && inD no 0 1000000 && inD nw 0 1000000) = true
  case neg =>
    rw [if_neg hR]
    exact (iDialBad A p no nw 3 w hA hE (fun W hW => by have h := HM W hW; rw [if_pos hC, if_neg hR] at h; exact h)).mono (by rintro e w' ⟨rfl, hb⟩; exact ⟨_, rfl, own_bad w' _ _ hb.size (by decide), hb⟩)
  rw [if_pos hR]
  by_cases hS : c.side = 0 ∧ (c.subs.length = 0 ∨ mjD c = true)
  case neg =>
    rw [if_neg hS]
    exact (iDialBad A p no nw 10 w hA hE (fun W hW => by have h := HM W hW; rw [if_pos hC, if_pos hR, if_neg hS] at h; exact h)).mono (by rintro e w' ⟨rfl, hb⟩; exact ⟨_, rfl, own_bad w' _ _ hb.size (by decide), hb⟩)
  rw [if_pos hS]
  by_cases hP : placeD c.subs p < 0
  case neg =>
    rw [if_neg hP]
    exact (iDialBad A p no nw 7 w hA hE (fun W hW => by have h := HM W hW; rw [if_pos hC, if_pos hR, if_pos hS, if_neg hP] at h; exact h)).mono (by rintro e w' ⟨rfl, hb⟩; exact ⟨_, rfl, own_bad w' _ _ hb.size (by decide), hb⟩)
  rw [if_pos hP]
  have hR2 := hR
  simp only [Bool.and_eq_true] at hR2
  obtain ⟨⟨hp, hno⟩, hnw⟩ := hR2
  have bp : 0 ≤ p ∧ p ≤ 2 := by simpa [inD] using hp
  have bno : 0 ≤ no ∧ no ≤ 1000000 := by simpa [inD] using hno
  have bnw : 0 ≤ nw ∧ nw ≤ 1000000 := by simpa [inD] using hnw
  have hst : inD (stD c p) 0 65535 = true := by unfold stD inD wrp; simp; omega
  have htk : decide (0 < c.subs.length) = true → tokV c.peer 1 = mixV [c.peer, 1] := fun hj => by
    have hn : 0 < c.subs.length := by simpa using hj
    have hmj : mjD c = true := hS.2.resolve_left (by omega)
    have hk := (conn_ok hC).1
    unfold mjD at hmj
    simp only [Bool.and_eq_true, Bool.not_eq_true', decide_eq_true_eq] at hmj
    have hkey : keyB c.peer = true := by
      unfold keysD at hk
      simp only [Bool.and_eq_true, Bool.or_eq_true, decide_eq_true_eq] at hk
      rcases hk.2 with h | h
      · exact absurd h hmj.1.2
      · unfold keyD at h; unfold keyB; simpa [inD] using h
    unfold tokV; rw [if_pos hkey]
  refine iDialOk c A p no nw (stD c p) (decide (0 < c.subs.length)) w B hr hB hT hC rfl _ _ _ _ _ _ _ _ _ _ _ (ask_wf (nw := nw) hr hp hno) (wf_i64' (by omega)) (wrp_wfD _) (wf_i64' (by omega)) (wf_i64' (by omega)) (fun W hW => by have h := HM W hW; rw [if_pos hC, if_pos hR, if_pos hS, if_pos hP] at h; exact h) (fun W hW => iStartOn c.key p bp W) (fun W hW => iNewOk p (stD c p) _ no nw W hp hno hnw hst) (fun W hW => ?_)
  have h := iAskSegment A #[.int .i64 p, .int .i64 1, .bool (decide (0 < c.subs.length)), .int .i64 no, .int .i64 0, .int .i64 nw, .int .i64 (stD c p), .int .i64 0, .int .i64 0, .slice none 0 0, .int .i64 0, .int .i64 0, .slice none 0 0, .int .i64 16, .int .i64 64, .int .i64 0] c.side c.key c.peer p (decide (0 < c.subs.length)) no (stD c p) _ _ hA rfl x0 x1 x2 rfl rfl rfl rfl W (fun W' => iTokenOf c.peer W')
  have e : (if decide (0 < c.subs.length) = true then tokV c.peer 1 else c.key) = (if decide (0 < c.subs.length) = true then mixV [c.peer, 1] else c.key) := by
    split
    · rename_i hj; exact htk hj
    · rfl
  rw [e] at h
  exact h
set_option maxHeartbeats 1000000 in
theorem sDialConn (c : DConn) (A : Array Value) (p no nw : Int) (w : World) (B : Nat) (hr : shConn.Rd w B c A.toList) (hB : B ≤ w.heap.size) (hT : totConn c ≤ 1048576) :
    Calls Tryz.prog 24 #[.agg A, .int .i64 p, .int .i64 no, .int .i64 nw] w fun e w' => ∃ N : Array Value, e = .returned (.agg N) ∧ Own w' w.heap.size w'.heap.size shCR (diaV c p no nw) N.toList ∧ Below w.heap.size w w' := by
  have HAT : ∀ W, Below w.heap.size w W → (∀ o, W.cell? ⟨w.heap.size, o, none⟩ = A[o]?) → ConnAt W B c A w.heap.size 0 := fun W hW hk => ConnAt.of (bx_range hk) (Sh.Rd.below hr hB hW) (Nat.le_trans hB hW.size) hT
  have HF : ∀ W, Below w.heap.size w W → (∀ o, W.cell? ⟨w.heap.size, o, none⟩ = A[o]?) → Calls Tryz.prog 29 #[.pointer (some ⟨w.heap.size, 0, none⟩)] W fun e w' => e = .returned (.int .i64 (connF c)) ∧ Below W.heap.size W w' := fun W hW hk => sL9Fault c A w.heap.size 0 W B (HAT W hW hk)
  have HO : ∀ W, Below w.heap.size w W → (∀ o, W.cell? ⟨w.heap.size, o, none⟩ = A[o]?) → Calls Tryz.prog 47 #[.pointer (some ⟨w.heap.size, 0, none⟩), .int .i64 p] W fun e w' => e = .returned (.int .i64 (placeD c.subs p)) ∧ w' = W := fun W hW hk => sL9On c A w.heap.size 0 p W B (HAT W hW hk)
  obtain ⟨x0, x1, x2, x3, hwf⟩ := conn3 hr
  obtain ⟨a13, cap, x13, r13, hsn, hhd⟩ := head_at hr hT
  unfold diaV
  by_cases hC : connF c = 0
  case neg =>
    rw [if_neg hC]
    exact (sDialC A p no nw w _ hC HF).mono (by rintro e w' ⟨rfl, hb⟩; exact ⟨_, rfl, own_bad w' _ _ hb.size (wf_i64' (by have := connF_bd c; unfold Small at this; omega)), hb⟩)
  rw [if_pos hC]
  rw [hC] at HF
  by_cases hR : (inD p 0 2 && inD no 0 1000000 && inD nw 0 1000000) = true
  case neg =>
    rw [if_neg hR]
    exact (sDial3 A p no nw w _ _ _ rfl rfl rfl (by simpa using hR) HF).mono (by rintro e w' ⟨rfl, hb⟩; exact ⟨_, rfl, own_bad w' _ _ hb.size (by decide), hb⟩)
  rw [if_pos hR]
  have hR2 := hR
  simp only [Bool.and_eq_true] at hR2
  obtain ⟨⟨hp, hno⟩, hnw⟩ := hR2
  have bp : 0 ≤ p ∧ p ≤ 2 := by simpa [inD] using hp
  have bno : 0 ≤ no ∧ no ≤ 1000000 := by simpa [inD] using hno
  have bnw : 0 ≤ nw ∧ nw ≤ 1000000 := by simpa [inD] using hnw
  have hside : c.side = 0 ∨ c.side = 1 := by
    have hk := (conn_ok hC).1
    unfold keysD at hk
    simp only [Bool.and_eq_true, inD, decide_eq_true_eq] at hk
    omega
  by_cases hS0 : c.side = 0
  case neg =>
    rw [if_neg (fun h => hS0 h.1)]
    have h1 : c.side = 1 := hside.resolve_left hS0
    rw [h1] at x0
    exact (sDial10a A p no nw w hp hno hnw x0 HF).mono (by rintro e w' ⟨rfl, hb⟩; exact ⟨_, rfl, own_bad w' _ _ hb.size (by decide), hb⟩)
  have x0' : A[0]? = some (.int .i64 0) := by rw [x0, hS0]
  by_cases hS : c.subs.length = 0 ∨ mjD c = true
  case neg =>
    rw [if_neg (fun h => hS h.2)]
    have hn : 0 < c.subs.length := by rcases Nat.eq_zero_or_pos c.subs.length with h | h; exact absurd (Or.inl h) hS; exact h
    obtain ⟨b, off, st, e, hb, q, hh⟩ := hhd hn
    subst e
    exact (sDial10b A p no nw w hp hno hnw c.plain c.peer st b off _ cap x0' x2 x3 x13 hn hsn (by omega) q (by have em : mjD c = ((!c.plain && decide (c.peer ≠ 0)) && decide (st = 3)) := (by unfold mjD; rw [hh]; congr 1; simp); rw [← em]; simpa using fun h => hS (Or.inr h)) HF).mono (by rintro e w' ⟨rfl, hb⟩; exact ⟨_, rfl, own_bad w' _ _ hb.size (by decide), hb⟩)
  rw [if_pos ⟨hS0, hS⟩]
  obtain ⟨st0, hok⟩ : ∃ st0 : Int, c.subs.length = 0 ∨ (c.plain = false ∧ c.peer ≠ 0 ∧ st0 = 3 ∧ ∃ b off, a13 = some ⟨b, off, none⟩ ∧ b < w.heap.size ∧ w.cell? ⟨b, off + 1, none⟩ = some (.int .i64 st0)) := by
    rcases Nat.eq_zero_or_pos c.subs.length with h | hn
    · exact ⟨0, Or.inl h⟩
    · obtain ⟨b, off, st, e, hb, q, hh⟩ := hhd hn
      have hmj : mjD c = true := hS.resolve_left (by omega)
      unfold mjD at hmj
      rw [hh] at hmj
      simp only [Bool.and_eq_true, Bool.not_eq_true', decide_eq_true_eq, Option.some.injEq] at hmj
      exact ⟨st, Or.inr ⟨hmj.1.1, hmj.1.2, hmj.2, b, off, e, by omega, q⟩⟩
  by_cases hP : placeD c.subs p < 0
  case neg =>
    rw [if_neg hP]
    exact (sDial7 A p no nw w hp hno hnw c.plain c.peer st0 a13 _ cap x0' x2 x3 x13 hsn hok _ (by omega) HF HO).mono (by rintro e w' ⟨rfl, hb⟩; exact ⟨_, rfl, own_bad w' _ _ hb.size (by decide), hb⟩)
  rw [if_pos hP]
  exact sDialOk c A p no nw w (stD c p) (decide (0 < c.subs.length)) B hr hB hT hC rfl _ _ _ _ _ _ _ _ _ _ _ (ask_wf (nw := nw) hr hp hno) (wf_i64' (by omega)) (wrp_wfD _) (wf_i64' (by omega)) (wf_i64' (by omega)) hp hno hnw st0 a13 cap x0' x13 hok _ hP HF HO (fun W hW => sStartOn c.key p bp W) (fun W hW => sL8New p (stD c p) _ no nw W)
    (fun W cb sb h1 h2 c0 c1 c2 s0 s2 s3 s6 => sL9Syn cb 0 sb 0 c.side c.key c.peer p _ no (stD c p) _ W h1 h2 c0 c1 c2 s0 s2 s3 s6 (fun W' => sL4Token c.peer W'))
end Go.Proofs.YtbdibjeemgkdaaaGreatDoor
