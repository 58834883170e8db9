/- How a join is proved, by program and model; the answer has no memory; nothing that was there turns; no condition but that there are at most a million parts. Written by mkprove.py. -/
import Derived.Test.YtmpbejckggnfaaaGreatDoorRows
import Derived.Deep.RegionHeld3
import Derived.Deep.DeepCutAuto
import Derived.Deep.MidRow
import Derived.Test.YtmpbejckggnfaaaGreatDoorK01
import Derived.Test.YtmpbejckggnfaaaGreatDoorK02
import Derived.Test.YtmpbejckggnfaaaGreatDoorK03
import Derived.Test.YtmpbejckggnfaaaGreatDoorK04
import Derived.Test.YtmpbejckggnfaaaGreatDoorK05
import Derived.Test.YtmpbejckggnfaaaGreatDoorK06
import Derived.Test.YtmpbejckggnfaaaGreatDoorK07
import Derived.Test.YtmpbejckggnfaaaGreatDoorK09
import Derived.Test.YtmpbejckggnfaaaGreatDoorK10
import Derived.Test.YtmpbejckggnfaaaGreatDoorK11
import Derived.Test.YtmpbejckggnfaaaGreatDoorK12
import Derived.Test.YtmpbejckggnfaaaGreatDoorK13
import Derived.Test.YtmpbejckggnfaaaGreatDoorK14
import Derived.Test.YtmpbejckggnfaaaGreatDoorK15
import Derived.Test.YtmpbejckggnfaaaGreatDoorK16
import Derived.Test.YtmpbejckggnfaaaGreatDoorK20
import Derived.Test.YtmpbejckggnfaaaGreatDoorK21
import Derived.Test.YtmpbejckggnfaaaGreatDoorK22
import Derived.Test.YtmpbejckggnfaaaGreatDoorK23
import Derived.Test.YtmpbejckggnfaaaGreatDoorK24
namespace Go.Proofs.YtmpbejckggnfaaaGreatDoor
open Go.RowKit
set_option linter.unusedVariables false
set_option maxRecDepth 8000

theorem seq_ok {x : DSender} (h : sndFault x = 0) : seqV x x.2.1 = wrp (x.1 + x.2.1) := by
  have hh : sndHead x = true := by
    by_cases h2 : sndHead x = false
    · unfold sndFault at h; rw [if_pos h2] at h; cases h
    · simpa using h2
  unfold sndHead at hh
  simp only [Bool.and_eq_true] at hh
  unfold seqV; rw [if_pos h, if_pos hh.1.2]
theorem ack_ok {x : DCatch} (h : caF x = 0) : ackqV x = wrp (x.1 + x.2.1) := by unfold ackqV; rw [if_pos h]
theorem conn_out {w : World} {B : Nat} {c : DConn} {A : Array Value} (hr : shConn.Rd w B c A.toList) : ∃ a cap, A[5]? = some (.slice a c.2.2.2.2.2.1.length cap) ∧ A[6]? = some (.bool c.2.2.2.2.2.2.1) := by
  obtain ⟨y0, y1, y2, y3, y4, d5, y6, y7, y8, d9, y10, y11, l, ⟨⟩⟩ := c
  obtain ⟨a5, c5, a9, c9, a9', c9', a12, c12, eA, -⟩ := rd_Conn hr
  exact ⟨a5, c5, get_of eA 5, get_of eA 6⟩
theorem conn_wlen {c : DConn} (h : totConn c ≤ 1048576) : c.2.2.2.2.2.1.length ≤ 1048576 := by unfold totConn at h; omega
theorem sub_tots {x : DSub} (h : totSub x ≤ 1048576) : totSender x.2.2.2.2.2.2.1 ≤ 1048576 ∧ totCatch x.2.2.2.2.2.2.2.1 ≤ 1048576 := by unfold totSub at h; constructor <;> omega
theorem subs_tot {c : DConn} (h : totConn c ≤ 1048576) {k : Nat} (hk : k < c.subs.length) : totSub c.subs[k] ≤ 1048576 := by
  have h1 := fsum_at totSub hk
  have h2 : c.2.2.2.2.2.1.length + gtTot c.2.2.2.2.2.2.2.2.2.1 + (c.subs.length + fsum totSub c.subs) ≤ 1048576 := h
  omega
/-- The subs of a conn without a fault have none. -/
theorem subs_ok : ∀ (l pre : List DSub), subsFrom pre l = 0 → ∀ (k : Nat) (hk : k < l.length), subF l[k] = 0
  | [], _, _, k, hk => absurd hk (by simp)
  | x :: xs, pre, h, k, hk => by
    rw [subsFrom] at h
    by_cases h1 : subF x ≠ 0
    · rw [if_pos h1] at h; exact absurd h h1
    · rw [if_neg h1] at h
      match k, hk with
      | 0, _ => simpa using h1
      | k + 1, hk =>
        by_cases h2 : (pre.any fun y => decide (y.1 = x.1)) = true
        · rw [if_pos h2] at h; cases h
        · rw [if_neg h2] at h
          by_cases h3 : x.2.2.1 ≠ decide (0 < pre.length)
          · rw [if_pos h3] at h; cases h
          · rw [if_neg h3] at h
            exact subs_ok xs _ h k (by simpa using hk)
theorem conn_subs {c : DConn} (h : connF c = 0) : subsF c.subs = 0 := (conn_ok h).2.2.2.2.2.2.2.2.1
theorem subF_parts {x : DSub} (h : subF x = 0) : sndFault x.2.2.2.2.2.2.1 = 0 ∧ caF x.2.2.2.2.2.2.2.1 = 0 := by
  unfold subF at h
  split at h
  · cases h
  · split at h
    · rename_i h1
      split at h
      · rename_i h2; exact ⟨h1, h2⟩
      · rename_i h2; exact absurd h h2
    · rename_i h1; exact absurd h h1
theorem iKnownOf (c : DConn) (x : DSub) (A X : Array Value) (w : World) (B : Nat) (hc : shConn.Rd w B c A.toList) (hx : shSub.Rd w B x X.toList) (hB : B ≤ w.heap.size) (hT : totConn c ≤ 1048576) (hTx : totSub x ≤ 1048576) (hF : subF x = 0) :
    Calls Tryz.prog 44 #[.agg A, .agg X] w fun e w' => e = .returned (.agg (segA (telS c x))) ∧ Below w.heap.size w w' := by
  obtain ⟨a0, a1, a2, a3, -⟩ := conn_cells hc
  obtain ⟨a, cap, a5, a6⟩ := conn_out hc
  obtain ⟨hf1, hf2⟩ := subF_parts hF
  obtain ⟨ht1, ht2⟩ := sub_tots hTx
  have hzA : A.size = 14 := rd_size hc
  have hzX : X.size = 16 := rd_size hx
  obtain ⟨u, v, e, hs, hk, -⟩ := rd_Sub hx
  have q1 := seq_ok hf1
  have q2 := ack_ok hf2
  have H := iKnownOf0 A X c.1 x.1 c.2.2.2.1 x.2.2.2.2.2.2.1.1 x.2.2.2.2.2.2.1.2.1 x.2.2.2.2.2.2.1.2.2.1 u x.2.2.2.2.2.2.2.1.1 x.2.2.2.2.2.2.2.1.2.1 v _ _ _ _ _ _ w hzA hzX a0 a3 (get_of e 0) (get_of e 6) (get_of e 7) (get_of e 8) (get_of e 9) (get_of e 10) (get_of e 11) (get_of e 12)
    (fun W hW => iSeqOf x.2.2.2.2.2.2.1 u x.2.2.2.2.2.2.1.2.1 W B (Sh.Rd.below hs hB hW) (Nat.le_trans hB hW.size) ht1)
    (fun W hW => iAckOf x.2.2.2.2.2.2.2.1 v W B (Sh.Rd.below hk hB hW) (Nat.le_trans hB hW.size) ht2)
    (fun W hW => iEndTold A _ a _ cap a5 a6 (conn_wlen hT) W)
    (fun W hW => iDataAck c A W B (Sh.Rd.below hc hB hW) (Nat.le_trans hB hW.size) hT)
  rw [q1, q2] at H
  exact H
set_option maxHeartbeats 4000000 in
theorem iProofSegment0 (A X : Array Value) (pa sd SQ AK EN OP OA mx : Int) (w : World) (hA : A.size = 14) (hX : X.size = 16)
    (HK : ∀ W, Below w.heap.size w W → Calls Tryz.prog 44 #[.agg A, .agg X] W fun e w' => e = .returned (.agg #[.int .i64 pa, .int .i64 sd, .bool false, .bool true, .bool false, .int .i64 SQ, .int .i64 AK, .int .i64 EN, .int .i64 OP, .int .i64 OA, .int .i64 0, .slice none 0 0]) ∧ Below W.heap.size W w')
    (HO : ∀ W, Calls Tryz.prog 113 #[.agg A, .agg X] W fun e w' => e = .returned (.int .i64 mx) ∧ Below W.heap.size W w') :
    Calls Tryz.prog 50 #[.agg A, .agg X] w fun e w' => e = .returned (.agg #[.int .i64 pa, .int .i64 sd, .bool false, .bool true, .bool false, .int .i64 SQ, .int .i64 AK, .int .i64 EN, .int .i64 3, .int .i64 mx, .int .i64 0, .slice none 0 0]) ∧ Below w.heap.size w w' := by
  have HIA : Hid ((Tryz.prog.info? 29).map (·.size) = some A.toList.length) := by show _ = _; rw [Array.length_toList, hA]; exact (by kernel_rfl : (Tryz.prog.info? 29).map (·.size) = some 14)
  have HIX : Hid ((Tryz.prog.info? 46).map (·.size) = some X.toList.length) := by show _ = _; rw [Array.length_toList, hX]; exact (by kernel_rfl : (Tryz.prog.info? 46).map (·.size) = some 16)
  clear hA hX
  obtain ⟨G, hG⟩ : ∃ G : Array Value, G = #[.int .i64 pa, .int .i64 sd, .bool false, .bool true, .bool false, .int .i64 SQ, .int .i64 AK, .int .i64 EN, .int .i64 OP, .int .i64 OA, .int .i64 0, .slice none 0 0] := ⟨_, rfl⟩
  have HG : Hid _ := hG
  have hGz : G.size = 12 := by rw [hG]; rfl
  have HGZ : Hid _ := hGz
  have HIG : Hid ((Tryz.prog.info? 33).map (·.size) = some G.size) := by show _ = _; rw [hGz]; exact (by kernel_rfl : (Tryz.prog.info? 33).map (·.size) = some 12)
  have HONE : Hid (G.all (·.oneCell') = true) := by show _ = _; rw [hG]; simp [Value.oneCell']
  rw [← hG] at HK
  clear hG hGz
  have HWA : Hid (SB2 w 3 w.heap.size (w.heap.size + 1) A X (((w.alloc (.cells A 29)).alloc (.cells X 46)).alloc (.cells #[.int .i64 0, .int .i64 0, .bool false, .bool false, .bool false, .int .i64 0, .int .i64 0, .int .i64 0, .int .i64 0, .int .i64 0, .int .i64 0, .slice none 0 0] 33)) ∧ (∀ o, (((w.alloc (.cells A 29)).alloc (.cells X 46)).alloc (.cells #[.int .i64 0, .int .i64 0, .bool false, .bool false, .bool false, .int .i64 0, .int .i64 0, .int .i64 0, .int .i64 0, .int .i64 0, .int .i64 0, .slice none 0 0] 33)).cell? ⟨w.heap.size + 2, o, none⟩ = (#[.int .i64 0, .int .i64 0, .bool false, .bool false, .bool false, .int .i64 0, .int .i64 0, .int .i64 0, .int .i64 0, .int .i64 0, .int .i64 0, .slice none 0 0] : Array Value)[o]?) ∧ (∀ o, (((w.alloc (.cells A 29)).alloc (.cells X 46)).alloc (.cells #[.int .i64 0, .int .i64 0, .bool false, .bool false, .bool false, .int .i64 0, .int .i64 0, .int .i64 0, .int .i64 0, .int .i64 0, .int .i64 0, .slice none 0 0] 33)).frozen? ⟨w.heap.size + 2, o, none⟩ = false)) := ⟨⟨(((Below.refl _ _).alloc (Nat.le_refl _) _).alloc (by simp) _).alloc (by simp; omega) _, by simp, fun o => by simp [go_sem], fun o => by simp [go_sem]⟩, fun o => by simp [go_sem], fun o => by simp [go_sem]⟩
  go_enter Tryz.func50, Tryz.ntmps50
  go_upto_region 1 with fail
  generalize hWA : (((w.alloc (.cells A 29)).alloc (.cells X 46)).alloc (.cells #[.int .i64 0, .int .i64 0, .bool false, .bool false, .bool false, .int .i64 0, .int .i64 0, .int .i64 0, .int .i64 0, .int .i64 0, .int .i64 0, .slice none 0 0] 33)) = WA at HWA ⊢
  clear hWA
  obtain ⟨HSA, kR, fR⟩ := HWA.out
  have k0 := HSA.k0
  have k1 := HSA.k1
  have hzA := HSA.sz
  have HS : Hid _ := HSA
  clear HSA HWA
  go_wp2_with (first | (refine wpList_load_mid rfl 29 _ rfl _ _ (by rfl) A.toList _ (bx_range k0) Tryz.underlying29 rfl HIA.out ?_) | (refine wpList_load_mid rfl 46 _ rfl _ _ (by rfl) X.toList _ (bx_range k1) Tryz.underlying46 rfl HIX.out ?_))
  refine (HK _ HS.out.bl).mono ?_
  rintro e W1 ⟨rfl, hbq⟩
  replace kR := bx_below kR (by omega) hbq
  replace fR := bxF fR hbq (by omega)
  replace HS : Hid (SB2 w 3 w.heap.size (w.heap.size + 1) A X W1) := SB2.below HS.out hbq (by omega) (by omega)
  have hz1 := HS.out.sz
  clear hbq k0 k1 hzA HK
  have HTH : Hid ((W1.alloc (.cells #[.int .i64 0, .int .i64 0, .bool false, .bool false, .bool false, .int .i64 0, .int .i64 0, .int .i64 0, .int .i64 0, .int .i64 0, .int .i64 0, .slice none 0 0] 33)).there W1.heap.size 0 G.size) := bx_there (bx_al _ _ _) (fx_al _ _ _) (by rw [HGZ.out]; rfl)
  have HWB : Hid (Below W1.heap.size W1 ((W1.alloc (.cells #[.int .i64 0, .int .i64 0, .bool false, .bool false, .bool false, .int .i64 0, .int .i64 0, .int .i64 0, .int .i64 0, .int .i64 0, .int .i64 0, .slice none 0 0] 33)).setCells W1.heap.size 0 G.toList) ∧ W1.heap.size < ((W1.alloc (.cells #[.int .i64 0, .int .i64 0, .bool false, .bool false, .bool false, .int .i64 0, .int .i64 0, .int .i64 0, .int .i64 0, .int .i64 0, .int .i64 0, .slice none 0 0] 33)).setCells W1.heap.size 0 G.toList).heap.size ∧ (∀ o, ((W1.alloc (.cells #[.int .i64 0, .int .i64 0, .bool false, .bool false, .bool false, .int .i64 0, .int .i64 0, .int .i64 0, .int .i64 0, .int .i64 0, .int .i64 0, .slice none 0 0] 33)).setCells W1.heap.size 0 G.toList).cell? ⟨W1.heap.size, o, none⟩ = G[o]?) ∧ (∀ o, ((W1.alloc (.cells #[.int .i64 0, .int .i64 0, .bool false, .bool false, .bool false, .int .i64 0, .int .i64 0, .int .i64 0, .int .i64 0, .int .i64 0, .int .i64 0, .slice none 0 0] 33)).setCells W1.heap.size 0 G.toList).frozen? ⟨W1.heap.size, o, none⟩ = false)) := ⟨setCells_below (Nat.le_refl _) _ _ _ _ ((Below.refl _ _).alloc (Nat.le_refl _) _), by rw [setCells_size]; simp, bx_setCells (bx_al W1 _ _) (by rw [HGZ.out]; rfl), fx_sets (fx_al _ _ _)⟩
  go_upto_region 2 with (refine wpList_store_mid rfl 33 _ _ rfl _ _ G (by rfl) (by rfl) HTH.out HIG.out HONE.out ?_)
  clear HTH
  generalize hWB : ((W1.alloc (.cells #[.int .i64 0, .int .i64 0, .bool false, .bool false, .bool false, .int .i64 0, .int .i64 0, .int .i64 0, .int .i64 0, .int .i64 0, .int .i64 0, .slice none 0 0] 33)).setCells W1.heap.size 0 G.toList) = WB at HWB ⊢
  clear hWB
  obtain ⟨hbq, zG, kG, fG⟩ := HWB.out
  replace kR := bx_below kR (by omega) hbq
  replace fR := bxF fR hbq (by omega)
  replace HS : Hid (SB2 w 3 w.heap.size (w.heap.size + 1) A X WB) := SB2.below HS.out hbq (by omega) (by omega)
  have k0 := HS.out.k0
  have k1 := HS.out.k1
  obtain ⟨g, hg⟩ : ∃ g, g = W1.heap.size := ⟨_, rfl⟩
  rw [← hg] at hz1 zG kG fG ⊢
  clear hbq HWB hg
  go_wp2_with (first | (refine wpList_load_mid rfl 29 _ rfl _ _ (by rfl) A.toList _ (bx_range k0) Tryz.underlying29 rfl HIA.out ?_) | (refine wpList_load_mid rfl 46 _ rfl _ _ (by rfl) X.toList _ (bx_range k1) Tryz.underlying46 rfl HIX.out ?_))
  refine (HO _).mono ?_
  rintro e W2 ⟨rfl, hbq⟩
  have hszz := HS.out.sz
  replace kG := bx_below kG zG hbq
  replace fG := bxF fG hbq zG
  replace kR := bx_below kR (by omega) hbq
  replace fR := bxF fR hbq (by omega)
  replace HS : Hid (SB2 w 3 w.heap.size (w.heap.size + 1) A X W2) := SB2.below HS.out hbq (by omega) (by omega)
  replace zG := Nat.lt_of_lt_of_le zG hbq.size
  replace k0 := HS.out.k0
  replace k1 := HS.out.k1
  clear hbq HO
  have g8 : G[8]? = some (.int .i64 OP) := by rw [HG.out]; rfl
  have g9 : G[9]? = some (.int .i64 OA) := by rw [HG.out]; rfl
  have g10 : G[10]? = some (.int .i64 0) := by rw [HG.out]; rfl
  go_upto_region 3 with fail
  obtain ⟨N, hN⟩ : ∃ N : Array Value, N = #[.int .i64 pa, .int .i64 sd, .bool false, .bool true, .bool false, .int .i64 SQ, .int .i64 AK, .int .i64 EN, .int .i64 3, .int .i64 mx, .int .i64 0, .slice none 0 0] := ⟨_, rfl⟩
  have HN : Hid _ := hN
  have hNz : N.size = 12 := by rw [hN]; rfl
  have HIN : Hid ((Tryz.prog.info? 33).map (·.size) = some N.size) := by show _ = _; rw [hNz]; exact (by kernel_rfl : (Tryz.prog.info? 33).map (·.size) = some 12)
  have HIN' : Hid ((Tryz.prog.info? 33).map (·.size) = some N.toList.length) := by show _ = _; rw [Array.length_toList]; exact HIN.out
  have HONEN : Hid (N.all (·.oneCell') = true) := by show _ = _; rw [hN]; simp [Value.oneCell']
  have kN : ∀ o, (((W2.setCell ⟨g, 8, none⟩ (.int .i64 3)).setCell ⟨g, 9, none⟩ (.int .i64 mx)).setCell ⟨g, 10, none⟩ (.int .i64 0)).cell? ⟨g, o, none⟩ = N[o]? := by
    have h0 := kG
    rw [HG.out] at h0
    have h2 := (bx_put (bx_put (bx_put h0 (k := 8) (v := .int .i64 3) (by simp)) (k := 9) (v := .int .i64 mx) (by simp)) (k := 10) (v := .int .i64 0) (by simp))
    rw [hN]
    simpa using h2
  have kQ : ∀ o, (((W2.setCell ⟨g, 8, none⟩ (.int .i64 3)).setCell ⟨g, 9, none⟩ (.int .i64 mx)).setCell ⟨g, 10, none⟩ (.int .i64 0)).cell? ⟨w.heap.size + 2, o, none⟩ = (#[.int .i64 0, .int .i64 0, .bool false, .bool false, .bool false, .int .i64 0, .int .i64 0, .int .i64 0, .int .i64 0, .int .i64 0, .int .i64 0, .slice none 0 0] : Array Value)[o]? := (bx_setC (bx_setC (bx_setC kR (show w.heap.size + 2 ≠ g by omega)) (show w.heap.size + 2 ≠ g by omega)) (show w.heap.size + 2 ≠ g by omega))
  have fQ : ∀ o, (((W2.setCell ⟨g, 8, none⟩ (.int .i64 3)).setCell ⟨g, 9, none⟩ (.int .i64 mx)).setCell ⟨g, 10, none⟩ (.int .i64 0)).frozen? ⟨w.heap.size + 2, o, none⟩ = false := (fx_setC (fx_setC (fx_setC fR)))
  have HBW : Hid (Below w.heap.size w (((W2.setCell ⟨g, 8, none⟩ (.int .i64 3)).setCell ⟨g, 9, none⟩ (.int .i64 mx)).setCell ⟨g, 10, none⟩ (.int .i64 0))) := SB2.bl (SB2.set (g := g) (SB2.set (g := g) (SB2.set (g := g) HS.out (by omega) (by omega) (by omega)) (by omega) (by omega) (by omega)) (by omega) (by omega) (by omega))
  clear k0 k1 kG kR fG fR
  generalize hWW : (((W2.setCell ⟨g, 8, none⟩ (.int .i64 3)).setCell ⟨g, 9, none⟩ (.int .i64 mx)).setCell ⟨g, 10, none⟩ (.int .i64 0)) = W9 at kN kQ fQ HBW ⊢
  clear hWW
  have HTHN : Hid (W9.there (w.heap.size + 2) 0 N.size) := bx_there kQ fQ (by rw [hNz]; rfl)
  have kF : Hid (∀ o, (W9.setCells (w.heap.size + 2) 0 N.toList).cell? ⟨w.heap.size + 2, o, none⟩ = N[o]?) := bx_setCells kQ (by rw [hNz]; rfl)
  clear hN hNz kQ fQ
  go_wp2_with (first | (refine wpList_load_mid rfl 33 _ rfl _ _ (by rfl) N.toList _ (bx_range kN) Tryz.underlying33 rfl HIN'.out ?_) | (refine wpList_store_mid rfl 33 _ _ rfl _ _ N (by rfl) (by rfl) HTHN.out HIN.out HONEN.out ?_))
  refine bodyPost_ret (results_box Tryz.results50 _ _ _ N _ (by rfl) kF.out Tryz.underlying33 rfl HIN.out) rfl ⟨?_, setCells_below (by omega) _ _ _ _ HBW.out⟩
  rw [HN.out]
theorem iProofSegment (c : DConn) (x : DSub) (A X : Array Value) (w : World) (B : Nat) (hc : shConn.Rd w B c A.toList) (hx : shSub.Rd w B x X.toList) (hB : B ≤ w.heap.size) (hT : totConn c ≤ 1048576) (hTx : totSub x ≤ 1048576) (hF : subF x = 0) :
    Calls Tryz.prog 50 #[.agg A, .agg X] w fun e w' => e = .returned (.agg (segA (prvS c x))) ∧ Below w.heap.size w w' := by
  obtain ⟨a0, a1, a2, a3, -⟩ := conn_cells hc
  obtain ⟨x0, x1, x2, x3, x4, x6, x10⟩ := sub_cells hx
  have hzA : A.size = 14 := rd_size hc
  have hzX : X.size = 16 := rd_size hx
  exact iProofSegment0 A X _ _ _ _ _ _ _ _ w hzA hzX (fun W hW => iKnownOf c x A X W B (Sh.Rd.below hc hB hW) (Sh.Rd.below hx hB hW) (Nat.le_trans hB hW.size) hT hTx hF) (fun W => iOwnProof A X _ _ _ a1 a2 (by rw [← Array.getElem?_toList]; exact x4) W)
set_option maxHeartbeats 4000000 in
theorem iProveSegment (c : DConn) (A : Array Value) (p : Int) (w : World) (B : Nat) (hr : shConn.Rd w B c A.toList) (hB : B ≤ w.heap.size) (hT : totConn c ≤ 1048576) :
    Calls Tryz.prog 14 #[.agg A, .int .i64 p] w fun e w' => ∃ N : Array Value, e = .returned (.agg N) ∧ Own w' w.heap.size w'.heap.size shSR (prvV c p) N.toList ∧ Below w.heap.size w w' := by
  suffices H : Calls Tryz.prog 14 #[.agg A, .int .i64 p] w fun e w' => e = .returned (.agg (srA (prvV c p))) ∧ Below w.heap.size w w' from
    H.mono (by rintro e w' ⟨rfl, hb⟩; exact ⟨_, rfl, own_SR (prvV_wf hr hT) (prvV_nil c p), hb⟩)
  have HI : Hid ((Tryz.prog.info? 29).map (·.size) = some A.toList.length) := by show _ = _; rw [Array.length_toList, rd_size hr]; exact (by kernel_rfl : (Tryz.prog.info? 29).map (·.size) = some 14)
  have HRGX : Hid (∀ W : World, (∀ o, W.cell? ⟨w.heap.size, o, none⟩ = A[o]?) → Hid (W.rangeAt w.heap.size 0 A.toList)) := fun W hk => bx_range hk
  have HSO : Hid (∀ W, Below w.heap.size w W → Calls Tryz.prog 13 #[.agg A, .int .i64 p] W fun e w' => e = .returned (.agg #[.int .i64 (subOnC c p), .int .i64 (subOnV c p)]) ∧ Below W.heap.size W w') := fun W hW => iSubOn c A p W B (Sh.Rd.below hr hB hW) (Nat.le_trans hB hW.size) hT
  obtain ⟨N, hN⟩ : ∃ N : Array Value, N = srA (prvV c p) := ⟨_, rfl⟩
  rw [← hN]
  have hNz : N.size = 13 := by rw [hN]; rfl
  have HIN : Hid ((Tryz.prog.info? 35).map (·.size) = some N.size) := by show _ = _; rw [hNz]; exact (by kernel_rfl : (Tryz.prog.info? 35).map (·.size) = some 13)
  have HONE : Hid (N.all (·.oneCell') = true) := by show _ = _; rw [hN]; simp [srA, Value.oneCell']
  have HNZ : Hid _ := hNz
  clear hNz
  by_cases hC : subOnC c p = 0
  case neg =>
    have hNN : N = #[.int .i64 (subOnC c p), .int .i64 0, .int .i64 0, .bool false, .bool false, .bool false, .int .i64 0, .int .i64 0, .int .i64 0, .int .i64 0, .int .i64 0, .int .i64 0, .slice none 0 0] := by rw [hN, prvV_code hC]; rfl
    have HN : Hid _ := hNN
    have hC' : (subOnC c p != 0) = true := by simp [hC]
    clear hN hNN hr hC
    generalize subOnC c p = C at *
    generalize subOnV c p = V at *
    go_enter Tryz.func14, Tryz.ntmps14
    go_upto_region 1 with fail
    have HRG := HRGX.out ((w.alloc (.cells A 29)).alloc (.cells #[.int .i64 0, .int .i64 0, .int .i64 0, .bool false, .bool false, .bool false, .int .i64 0, .int .i64 0, .int .i64 0, .int .i64 0, .int .i64 0, .int .i64 0, .slice none 0 0] 35)) (fun o => by simp [go_sem])
    go_wp2_with (refine wpList_load_mid rfl 29 _ rfl _ _ (by rfl) A.toList _ HRG.out Tryz.underlying29 rfl HI.out ?_)
    refine (HSO.out _ (by go_grown)).mono ?_
    rintro e w1 ⟨rfl, hb⟩
    obtain ⟨k0, kR, fR, hb1, z0⟩ := two_boxes hb
    have HB : Hid (Below w.heap.size w w1) := hb1
    clear hb hb1 HRG HSO
    go_upto_region 2 with fail
    have kI : ∀ o, (w1.alloc (.cells #[.int .i64 C, .int .i64 V] 48)).cell? ⟨w1.heap.size, o, none⟩ = (#[.int .i64 C, .int .i64 V] : Array Value)[o]? := bx_al w1 _ _
    have hb2 : Below w1.heap.size w1 (w1.alloc (.cells #[.int .i64 C, .int .i64 V] 48)) := (Below.refl _ _).alloc (Nat.le_refl _) _
    have zI : w1.heap.size < (w1.alloc (.cells #[.int .i64 C, .int .i64 V] 48)).heap.size := by simp
    generalize hW2 : (w1.alloc (.cells #[.int .i64 C, .int .i64 V] 48)) = W2 at kI hb2 zI ⊢
    clear hW2
    replace k0 := bx_below k0 (by omega) hb2
    replace kR := bx_below kR z0 hb2
    replace fR := bxF fR hb2 z0
    replace HB : Hid (Below w.heap.size w W2) := HB.out.trans (hb2.mono HB.out.size)
    clear hb2
    obtain ⟨iB, hiB⟩ : ∃ iB, iB = w1.heap.size := ⟨_, rfl⟩
    rw [← hiB] at z0 zI kI ⊢
    clear hiB
    have HTH : Hid (W2.there (w.heap.size + 1) 0 N.size) := bx_there kR fR (by rw [HNZ.out]; rfl)
    have kF : Hid (∀ o, (W2.setCells (w.heap.size + 1) 0 N.toList).cell? ⟨w.heap.size + 1, o, none⟩ = N[o]?) := bx_setCells kR (by rw [HNZ.out]; rfl)
    go_wp2_with (refine wpList_store_mid rfl 35 _ _ rfl _ _ N (by rfl) (by rw [HN.out]; rfl) HTH.out HIN.out HONE.out ?_)
    refine bodyPost_ret (results_box Tryz.results14 _ _ _ N _ (by rfl) kF.out Tryz.underlying35 rfl HIN.out) rfl ⟨rfl, ?_⟩
    exact setCells_below (by omega) _ _ _ _ HB.out
  have hFF := subOn_ok hC
  obtain ⟨k, hk, hkl, hV, hAV⟩ := prvV_at hC
  obtain ⟨cs16, b, off, n, cap, hsl, hbB, hlen, hrg, hrs, hln⟩ := sub_of hr hkl
  have hkn : (k : Int) < (n : Int) := by omega
  have hk0 : (0 : Int) ≤ (k : Int) := by omega
  obtain ⟨x0, x1, x2, x3, x4, x6, x10⟩ := sub_cells hrs
  have x2' : cs16.toArray[2]? = some (.bool c.subs[k].2.2.1) := by rw [List.getElem?_toArray]; exact x2
  have HAO : Hid (∀ W, Below w.heap.size w W → Calls Tryz.prog 50 #[.agg A, .agg cs16.toArray] W fun e w' => e = .returned (.agg (segA (prvS c c.subs[k]))) ∧ Below W.heap.size W w') := fun W hW => iProofSegment c c.subs[k] A cs16.toArray W B (Sh.Rd.below hr hB hW) (Sh.Rd.below (s := shSub) hrs hB hW) (Nat.le_trans hB hW.size) hT (subs_tot hT hkl) (subs_ok _ _ (conn_subs hFF) k hkl)
  have HIX : Hid ((Tryz.prog.info? 46).map (·.size) = some cs16.length) := by show _ = _; rw [hlen]; exact (by kernel_rfl : (Tryz.prog.info? 46).map (·.size) = some 16)
  have HIX2 : Hid ((Tryz.prog.info? 46).map (·.size) = some cs16.toArray.size) := by show _ = _; rw [List.size_toArray]; exact HIX.out
  have HIX3 : Hid ((Tryz.prog.info? 46).map (·.size) = some cs16.toArray.toList.length) := HIX
  have HONX : Hid (cs16.toArray.all (·.oneCell') = true) := all_oneCell_toArray (rd_one _ _ _ hrs)
  have HLX : Hid (cs16.toArray.size = 16) := by show _ = _; rw [List.size_toArray]; exact hlen
  have HSB : Hid (∀ W, Below w.heap.size w W → W.rangeAt b (off + k * 16) cs16) := fun W hW => range_below hrg hW (by omega)
  obtain ⟨sg, hsg⟩ : ∃ s, s = prvS c c.subs[k] := ⟨_, rfl⟩
  rw [← hsg] at HAO hAV
  have hNN : N = srA (if c.subs[k].2.2.1 = true then (0, sg, ()) else (1, zSegm, ())) := by rw [hN, hAV]
  have HNN : Hid _ := hNN
  rw [hC, hV] at HSO
  clear hN hNN hr hC hV hAV hsg x0 x1 x2 x3 x4 x6 x10 hrg hrs hlen hln hk hFF
  generalize c.subs[k].2.2.1 = jo at *
  clear hkl hT c
  go_enter Tryz.func14, Tryz.ntmps14
  go_upto_region 1 with fail
  have HRG := HRGX.out ((w.alloc (.cells A 29)).alloc (.cells #[.int .i64 0, .int .i64 0, .int .i64 0, .bool false, .bool false, .bool false, .int .i64 0, .int .i64 0, .int .i64 0, .int .i64 0, .int .i64 0, .int .i64 0, .slice none 0 0] 35)) (fun o => by simp [go_sem])
  go_wp2_with (refine wpList_load_mid rfl 29 _ rfl _ _ (by rfl) A.toList _ HRG.out Tryz.underlying29 rfl HI.out ?_)
  refine (HSO.out _ (by go_grown)).mono ?_
  rintro e w1 ⟨rfl, hb⟩
  obtain ⟨k0, kR, fR, hb1, z0⟩ := two_boxes hb
  have HB : Hid (Below w.heap.size w w1) := hb1
  clear hb hb1 HRG HSO
  go_upto_region 2 with fail
  have kI : ∀ o, (w1.alloc (.cells #[.int .i64 0, .int .i64 (k : Int)] 48)).cell? ⟨w1.heap.size, o, none⟩ = (#[.int .i64 0, .int .i64 (k : Int)] : Array Value)[o]? := bx_al w1 _ _
  have hb2 : Below w1.heap.size w1 (w1.alloc (.cells #[.int .i64 0, .int .i64 (k : Int)] 48)) := (Below.refl _ _).alloc (Nat.le_refl _) _
  have zI : w1.heap.size < (w1.alloc (.cells #[.int .i64 0, .int .i64 (k : Int)] 48)).heap.size := by simp
  generalize hW2 : (w1.alloc (.cells #[.int .i64 0, .int .i64 (k : Int)] 48)) = W2 at kI hb2 zI ⊢
  clear hW2
  replace k0 := bx_below k0 (by omega) hb2
  replace kR := bx_below kR z0 hb2
  replace fR := bxF fR hb2 z0
  replace HB : Hid (Below w.heap.size w W2) := HB.out.trans (hb2.mono HB.out.size)
  clear hb2
  obtain ⟨iB, hiB⟩ : ∃ iB, iB = w1.heap.size := ⟨_, rfl⟩
  rw [← hiB] at z0 zI kI ⊢
  clear hiB
  have HG : Hid (W2.rangeAt b (off + k * 16) cs16) := HSB.out _ HB.out
  have HTX : Hid ((W2.alloc (.cells #[.int .i64 0, .int .i64 0, .bool false, .int .i64 0, .int .i64 0, .int .i64 0, .int .i64 0, .int .i64 0, .int .i64 0, .slice none 0 0, .int .i64 0, .int .i64 0, .slice none 0 0, .int .i64 0, .int .i64 0, .int .i64 0] 46)).there W2.heap.size 0 cs16.toArray.size) := bx_there (bx_al _ _ _) (fx_al _ _ _) (by rw [HLX.out]; rfl)
  have HW3 : Hid (Below W2.heap.size W2 ((W2.alloc (.cells #[.int .i64 0, .int .i64 0, .bool false, .int .i64 0, .int .i64 0, .int .i64 0, .int .i64 0, .int .i64 0, .int .i64 0, .slice none 0 0, .int .i64 0, .int .i64 0, .slice none 0 0, .int .i64 0, .int .i64 0, .int .i64 0] 46)).setCells W2.heap.size 0 cs16.toArray.toList) ∧ W2.heap.size < ((W2.alloc (.cells #[.int .i64 0, .int .i64 0, .bool false, .int .i64 0, .int .i64 0, .int .i64 0, .int .i64 0, .int .i64 0, .int .i64 0, .slice none 0 0, .int .i64 0, .int .i64 0, .slice none 0 0, .int .i64 0, .int .i64 0, .int .i64 0] 46)).setCells W2.heap.size 0 cs16.toArray.toList).heap.size ∧ (∀ o, ((W2.alloc (.cells #[.int .i64 0, .int .i64 0, .bool false, .int .i64 0, .int .i64 0, .int .i64 0, .int .i64 0, .int .i64 0, .int .i64 0, .slice none 0 0, .int .i64 0, .int .i64 0, .slice none 0 0, .int .i64 0, .int .i64 0, .int .i64 0] 46)).setCells W2.heap.size 0 cs16.toArray.toList).cell? ⟨W2.heap.size, o, none⟩ = cs16.toArray[o]?)) := ⟨setCells_below (Nat.le_refl _) _ _ _ _ ((Below.refl _ _).alloc (Nat.le_refl _) _), by rw [setCells_size]; simp, bx_setCells (bx_al W2 _ _) (by rw [HLX.out]; rfl)⟩
  go_upto_region 5 with (first | (refine wpList_load_mid rfl 46 _ rfl _ _ (by rfl) cs16 _ HG.out Tryz.underlying46 rfl HIX.out ?_) | (refine wpList_store_mid rfl 46 _ _ rfl _ _ cs16.toArray (by rfl) (by rfl) HTX.out HIX2.out HONX.out ?_))
  generalize hW3 : ((W2.alloc (.cells #[.int .i64 0, .int .i64 0, .bool false, .int .i64 0, .int .i64 0, .int .i64 0, .int .i64 0, .int .i64 0, .int .i64 0, .slice none 0 0, .int .i64 0, .int .i64 0, .slice none 0 0, .int .i64 0, .int .i64 0, .int .i64 0] 46)).setCells W2.heap.size 0 cs16.toArray.toList) = W3 at HW3 ⊢
  clear hW3 HTX HG HSB
  obtain ⟨hb3, z3, kX⟩ := HW3.out
  replace k0 := bx_below k0 (by omega) hb3
  replace kR := bx_below kR (by omega) hb3
  replace fR := bxF fR hb3 (by omega)
  replace HB : Hid (Below w.heap.size w W3) := HB.out.trans (hb3.mono HB.out.size)
  have zz3 : w.heap.size + 1 < W3.heap.size := Nat.lt_of_lt_of_le (by omega) hb3.size
  clear hb3 HW3 kI zI z0
  obtain ⟨xB, hxB⟩ : ∃ xB, xB = W2.heap.size := ⟨_, rfl⟩
  rw [← hxB] at z3 kX ⊢
  clear hxB
  have HTH : Hid (W3.there (w.heap.size + 1) 0 N.size) := bx_there kR fR (by rw [HNZ.out]; rfl)
  have kF : Hid (∀ o, (W3.setCells (w.heap.size + 1) 0 N.toList).cell? ⟨w.heap.size + 1, o, none⟩ = N[o]?) := bx_setCells kR (by rw [HNZ.out]; rfl)
  cases jo
  case false =>
    have HN : Hid (N = #[.int .i64 1, .int .i64 0, .int .i64 0, .bool false, .bool false, .bool false, .int .i64 0, .int .i64 0, .int .i64 0, .int .i64 0, .int .i64 0, .int .i64 0, .slice none 0 0]) := HNN.out
    go_wp2_with (refine wpList_store_mid rfl 35 _ _ rfl _ _ N (by rfl) (by rw [HN.out]; rfl) HTH.out HIN.out HONE.out ?_)
    refine bodyPost_ret (results_box Tryz.results14 _ _ _ N _ (by rfl) kF.out Tryz.underlying35 rfl HIN.out) rfl ⟨rfl, ?_⟩
    exact setCells_below (by omega) _ _ _ _ HB.out
  case true =>
    go_wp2_with (first | (refine wpList_load_mid rfl 29 _ rfl _ _ (by rfl) A.toList _ (bx_range k0) Tryz.underlying29 rfl HI.out ?_) | (refine wpList_load_mid rfl 46 _ rfl _ _ (by rfl) cs16.toArray.toList _ (bx_range kX) Tryz.underlying46 rfl HIX3.out ?_))
    refine (HAO.out _ HB.out).mono ?_
    rintro e W4 ⟨rfl, hb⟩
    replace kR := bx_below kR zz3 hb
    replace fR := bxF fR hb zz3
    replace HB : Hid (Below w.heap.size w W4) := HB.out.trans (hb.mono HB.out.size)
    clear hb HTH kF HAO k0 kX
    have HN : Hid (N = #[.int .i64 0, .int .i64 sg.1, .int .i64 sg.2.1, .bool sg.2.2.1, .bool sg.2.2.2.1, .bool sg.2.2.2.2.1, .int .i64 sg.2.2.2.2.2.1, .int .i64 sg.2.2.2.2.2.2.1, .int .i64 sg.2.2.2.2.2.2.2.1, .int .i64 sg.2.2.2.2.2.2.2.2.1, .int .i64 sg.2.2.2.2.2.2.2.2.2.1, .int .i64 sg.2.2.2.2.2.2.2.2.2.2.1, .slice none 0 0]) := HNN.out
    unfold segA
    have HTH : Hid (W4.there (w.heap.size + 1) 0 N.size) := bx_there kR fR (by rw [HNZ.out]; rfl)
    have kF : Hid (∀ o, (W4.setCells (w.heap.size + 1) 0 N.toList).cell? ⟨w.heap.size + 1, o, none⟩ = N[o]?) := bx_setCells kR (by rw [HNZ.out]; rfl)
    go_wp2_with (refine wpList_store_mid rfl 35 _ _ rfl _ _ N (by rfl) (by rw [HN.out]; rfl) HTH.out HIN.out HONE.out ?_)
    refine bodyPost_ret (results_box Tryz.results14 _ _ _ N _ (by rfl) kF.out Tryz.underlying35 rfl HIN.out) rfl ⟨rfl, ?_⟩
    exact setCells_below (by omega) _ _ _ _ HB.out
end Go.Proofs.YtmpbejckggnfaaaGreatDoor

/- What is told of a path and how a join is proved, by the model; the answer has no memory; nothing that was there turns; no condition but that there are at most a million parts. Written by mkprove2.py. -/
namespace Go.Proofs.YtmpbejckggnfaaaGreatDoor
open Go.RowKit
set_option linter.unusedVariables false
set_option maxRecDepth 8000

theorem sL9End (cb of : Nat) (fin : Bool) (a : Option Addr) (n cap : Nat) (w : World) (h5 : w.cell? ⟨cb, of + 5, none⟩ = some (.slice a n cap)) (h6 : w.cell? ⟨cb, of + 6, none⟩ = some (.bool fin)) (hn : n ≤ 1048576) :
    Calls Tryz.prog 104 #[.pointer (some ⟨cb, of, none⟩)] w fun e w' => e = .returned (.int .i64 (if fin then (n : Int) + 1 else 0)) ∧ w' = w := by
  cases fin
  · go_enter Tryz.func104, Tryz.ntmps104
    go_wp2_with fail
    go_ret
    exact ⟨rfl, rfl⟩
  · go_enter Tryz.func104, Tryz.ntmps104
    go_wp2_with fail
    go_ret
    exact ⟨rfl, rfl⟩
set_option maxHeartbeats 4000000 in
theorem sL9Tell0 (cb of sb so : Nat) (sd : Int) (pl : Bool) (pa t0 t1 d0 d1 EN DA : Int) (w : World) (hcb : cb < w.heap.size) (hsb : sb < w.heap.size) (c0 : w.cell? ⟨cb, of, none⟩ = some (.int .i64 sd)) (c3 : w.cell? ⟨cb, of + 3, none⟩ = some (.bool pl)) (s0 : w.cell? ⟨sb, so, none⟩ = some (.int .i64 pa)) (s6 : w.cell? ⟨sb, so + 6, none⟩ = some (.int .i64 t0)) (s7 : w.cell? ⟨sb, so + 7, none⟩ = some (.int .i64 t1)) (s10 : w.cell? ⟨sb, so + 10, none⟩ = some (.int .i64 d0)) (s11 : w.cell? ⟨sb, so + 11, none⟩ = some (.int .i64 d1))
    (HE : ∀ W, Below w.heap.size w W → Calls Tryz.prog 104 #[.pointer (some ⟨cb, of, none⟩)] W fun e w' => e = .returned (.int .i64 EN) ∧ w' = W)
    (HD : ∀ W, Below w.heap.size w W → Calls Tryz.prog 105 #[.pointer (some ⟨cb, of, none⟩)] W fun e w' => e = .returned (.int .i64 DA) ∧ Below W.heap.size W w') :
    Calls Tryz.prog 47 #[.pointer (some ⟨cb, of, none⟩), .pointer (some ⟨sb, so, none⟩)] w fun e w' => e = .returned (.agg #[.int .i64 pa, .int .i64 sd, .bool false, .bool true, .bool false, .int .i64 (wrp (t0 + t1)), .int .i64 (wrp (d0 + d1)), .int .i64 EN, .int .i64 (if pl then 0 else 4), .int .i64 (if pl then 0 else DA), .int .i64 0, .slice none 0 0]) ∧ Below w.heap.size w w' := by
  have HC : Hid (∀ W, Below w.heap.size w W → W.cell? ⟨cb, of, none⟩ = some (.int .i64 sd) ∧ W.cell? ⟨cb, of + 3, none⟩ = some (.bool pl) ∧ W.cell? ⟨sb, so, none⟩ = some (.int .i64 pa) ∧ W.cell? ⟨sb, so + 6, none⟩ = some (.int .i64 t0) ∧ W.cell? ⟨sb, so + 7, none⟩ = some (.int .i64 t1) ∧ W.cell? ⟨sb, so + 10, none⟩ = some (.int .i64 d0) ∧ W.cell? ⟨sb, so + 11, none⟩ = some (.int .i64 d1)) := fun W hW => ⟨(hW.cell (p := ⟨cb, of, none⟩) (by assumption)).trans c0, (hW.cell (p := ⟨cb, of + 3, none⟩) (by assumption)).trans c3, (hW.cell (p := ⟨sb, so, none⟩) (by assumption)).trans s0, (hW.cell (p := ⟨sb, so + 6, none⟩) (by assumption)).trans s6, (hW.cell (p := ⟨sb, so + 7, none⟩) (by assumption)).trans s7, (hW.cell (p := ⟨sb, so + 10, none⟩) (by assumption)).trans s10, (hW.cell (p := ⟨sb, so + 11, none⟩) (by assumption)).trans s11⟩
  clear c0 c3 s0 s6 s7 s10 s11
  have HA1 : Hid (∀ W, Calls Tryz.prog 103 #[.int .i64 t0, .int .i64 t1] W fun e w' => e = .returned (.int .i64 (wrp (t0 + t1))) ∧ w' = W) := fun W => sAdd t0 t1 W
  have HA2 : Hid (∀ W, Calls Tryz.prog 103 #[.int .i64 d0, .int .i64 d1] W fun e w' => e = .returned (.int .i64 (wrp (d0 + d1))) ∧ w' = W) := fun W => sAdd d0 d1 W
  generalize wrp (t0 + t1) = SQ at *
  generalize wrp (d0 + d1) = AK at *
  obtain ⟨OP, hOP⟩ : ∃ x : Int, x = (if pl then 0 else 4) := ⟨_, rfl⟩
  obtain ⟨OA, hOA⟩ : ∃ x : Int, x = (if pl then 0 else DA) := ⟨_, rfl⟩
  rw [← hOP, ← hOA]
  have HOP : Hid _ := hOP
  have HOA : Hid _ := hOA
  clear hOP hOA
  obtain ⟨G, hG⟩ : ∃ G : Array Value, G = #[.int .i64 pa, .int .i64 sd, .bool false, .bool true, .bool false, .int .i64 SQ, .int .i64 AK, .int .i64 EN, .int .i64 0, .int .i64 0, .int .i64 0, .slice none 0 0] := ⟨_, rfl⟩
  have HG : Hid _ := hG
  have hGz : G.size = 12 := by rw [hG]; rfl
  have HGZ : Hid _ := hGz
  have HIG : Hid ((Tryz.prog.info? 33).map (·.size) = some G.size) := by show _ = _; rw [hGz]; exact (by kernel_rfl : (Tryz.prog.info? 33).map (·.size) = some 12)
  have HONE : Hid (G.all (·.oneCell') = true) := by show _ = _; rw [hG]; simp [Value.oneCell']
  clear hG hGz
  go_enter Tryz.func47, Tryz.ntmps47
  go_upto_region 1 with fail
  have kR : ∀ o, (w.alloc (.cells #[.int .i64 0, .int .i64 0, .bool false, .bool false, .bool false, .int .i64 0, .int .i64 0, .int .i64 0, .int .i64 0, .int .i64 0, .int .i64 0, .slice none 0 0] 33)).cell? ⟨w.heap.size, o, none⟩ = (#[.int .i64 0, .int .i64 0, .bool false, .bool false, .bool false, .int .i64 0, .int .i64 0, .int .i64 0, .int .i64 0, .int .i64 0, .int .i64 0, .slice none 0 0] : Array Value)[o]? := bx_al w _ _
  have fR : ∀ o, (w.alloc (.cells #[.int .i64 0, .int .i64 0, .bool false, .bool false, .bool false, .int .i64 0, .int .i64 0, .int .i64 0, .int .i64 0, .int .i64 0, .int .i64 0, .slice none 0 0] 33)).frozen? ⟨w.heap.size, o, none⟩ = false := fx_al w _ _
  have HB : Hid (Below w.heap.size w (w.alloc (.cells #[.int .i64 0, .int .i64 0, .bool false, .bool false, .bool false, .int .i64 0, .int .i64 0, .int .i64 0, .int .i64 0, .int .i64 0, .int .i64 0, .slice none 0 0] 33))) := (Below.refl _ _).alloc (Nat.le_refl _) _
  have zR : w.heap.size < (w.alloc (.cells #[.int .i64 0, .int .i64 0, .bool false, .bool false, .bool false, .int .i64 0, .int .i64 0, .int .i64 0, .int .i64 0, .int .i64 0, .int .i64 0, .slice none 0 0] 33)).heap.size := by simp
  generalize hWA : (w.alloc (.cells #[.int .i64 0, .int .i64 0, .bool false, .bool false, .bool false, .int .i64 0, .int .i64 0, .int .i64 0, .int .i64 0, .int .i64 0, .int .i64 0, .slice none 0 0] 33)) = WA at kR fR HB zR ⊢
  clear hWA
  go_upto_region 1 with fail
  refine wp_region_noPanic ?_
  refine Goes.start (S := fun w' => Below w.heap.size w w') (z := 100) (by kernel_rfl) ?_
  replace kR : ∀ o, WA.drew.cell? ⟨w.heap.size, o, none⟩ = (#[.int .i64 0, .int .i64 0, .bool false, .bool false, .bool false, .int .i64 0, .int .i64 0, .int .i64 0, .int .i64 0, .int .i64 0, .int .i64 0, .slice none 0 0] : Array Value)[o]? := kR
  replace fR : ∀ o, WA.drew.frozen? ⟨w.heap.size, o, none⟩ = false := fR
  replace zR : w.heap.size < WA.drew.heap.size := zR
  replace HB : Hid (Below w.heap.size w WA.drew) := HB.out.drew
  generalize hD : WA.drew = WD at kR fR zR HB ⊢
  clear hD WA
  refine Goes.take (i := 0) (oi := ?oi11) (x := ?vx11) ?ho11 (by kernel_rfl) (by kernel_rfl) (by kernel_rfl) (by kernel_rfl) (fun _ _ _ h => h) (Or.inl ⟨?hw11, ?hy11⟩) HB.out ?rest11
  case ho11 => (simp only [List.getElem?_toArray, List.getElem?_cons_zero]; rfl)
  case hw11 => rfl
  case hy11 => (intro w' hSw; obtain ⟨jc0, jc3, js0, js6, js7, js10, js11⟩ := HC.out _ hSw; go_simp; (try with_reducible rfl))
  case rest11 =>
  (try simp only [Act.put, List.setIfInBounds_toArray, List.set_cons_zero, List.set_cons_succ])
  refine Goes.take (i := 1) (oi := ?oi12) (x := ?vx12) ?ho12 (by kernel_rfl) (by kernel_rfl) (by kernel_rfl) (by kernel_rfl) (fun _ _ _ h => h) (Or.inl ⟨?hw12, ?hy12⟩) HB.out ?rest12
  case ho12 => (simp only [List.getElem?_toArray, List.getElem?_cons_succ, List.getElem?_cons_zero]; rfl)
  case hw12 => rfl
  case hy12 => (intro w' hSw; obtain ⟨jc0, jc3, js0, js6, js7, js10, js11⟩ := HC.out _ hSw; go_simp; (try with_reducible rfl))
  case rest12 =>
  (try simp only [Act.put, List.setIfInBounds_toArray, List.set_cons_zero, List.set_cons_succ])
  refine Goes.take (i := 2) (oi := ?oi13) (x := ?vx13) ?ho13 (by kernel_rfl) (by kernel_rfl) (by kernel_rfl) (by kernel_rfl) (fun _ _ _ h => h) (Or.inl ⟨?hw13, ?hy13⟩) HB.out ?rest13
  case ho13 => (simp only [List.getElem?_toArray, List.getElem?_cons_succ, List.getElem?_cons_zero]; rfl)
  case hw13 => rfl
  case hy13 => (intro w' hSw; obtain ⟨jc0, jc3, js0, js6, js7, js10, js11⟩ := HC.out _ hSw; go_simp; (try with_reducible rfl))
  case rest13 =>
  (try simp only [Act.put, List.setIfInBounds_toArray, List.set_cons_zero, List.set_cons_succ])
  refine Goes.take (i := 3) (oi := ?oi14) (x := ?vx14) ?ho14 (by kernel_rfl) (by kernel_rfl) (by kernel_rfl) (by kernel_rfl) (fun _ _ _ h => h) (Or.inl ⟨?hw14, ?hy14⟩) HB.out ?rest14
  case ho14 => (simp only [List.getElem?_toArray, List.getElem?_cons_succ, List.getElem?_cons_zero]; rfl)
  case hw14 => rfl
  case hy14 => (intro w' hSw; obtain ⟨jc0, jc3, js0, js6, js7, js10, js11⟩ := HC.out _ hSw; go_simp; (try with_reducible rfl))
  case rest14 =>
  (try simp only [Act.put, List.setIfInBounds_toArray, List.set_cons_zero, List.set_cons_succ])
  refine Goes.take (i := 4) (oi := ?oi15) (x := ?vx15) ?ho15 (by kernel_rfl) (by kernel_rfl) (by kernel_rfl) (by kernel_rfl) (fun _ _ _ h => h) (Or.inl ⟨?hw15, ?hy15⟩) HB.out ?rest15
  case ho15 => (simp only [List.getElem?_toArray, List.getElem?_cons_succ, List.getElem?_cons_zero]; rfl)
  case hw15 => rfl
  case hy15 => (intro w' hSw; obtain ⟨jc0, jc3, js0, js6, js7, js10, js11⟩ := HC.out _ hSw; go_simp; (try with_reducible rfl))
  case rest15 =>
  (try simp only [Act.put, List.setIfInBounds_toArray, List.set_cons_zero, List.set_cons_succ])
  refine Goes.take (i := 5) (oi := ?oi16) (x := ?vx16) ?ho16 (by kernel_rfl) (by kernel_rfl) (by kernel_rfl) (by kernel_rfl) (fun _ _ _ h => h) (Or.inl ⟨?hw16, ?hy16⟩) HB.out ?rest16
  case ho16 => (simp only [List.getElem?_toArray, List.getElem?_cons_succ, List.getElem?_cons_zero]; rfl)
  case hw16 => rfl
  case hy16 => (intro w' hSw; obtain ⟨jc0, jc3, js0, js6, js7, js10, js11⟩ := HC.out _ hSw; go_simp; (try with_reducible rfl))
  case rest16 =>
  (try simp only [Act.put, List.setIfInBounds_toArray, List.set_cons_zero, List.set_cons_succ])
  refine Goes.take (i := 6) (oi := ?oi17) (x := ?vx17) ?ho17 (by kernel_rfl) (by kernel_rfl) (by kernel_rfl) (by kernel_rfl) (fun _ _ _ h => h) (Or.inl ⟨?hw17, ?hy17⟩) HB.out ?rest17
  case ho17 => (simp only [List.getElem?_toArray, List.getElem?_cons_succ, List.getElem?_cons_zero]; rfl)
  case hw17 => rfl
  case hy17 => (intro w' hSw; obtain ⟨jc0, jc3, js0, js6, js7, js10, js11⟩ := HC.out _ hSw; go_simp; (try with_reducible rfl))
  case rest17 =>
  (try simp only [Act.put, List.setIfInBounds_toArray, List.set_cons_zero, List.set_cons_succ])
  refine Goes.take (i := 7) (oi := ?oi18) (x := ?vx18) ?ho18 (by kernel_rfl) (by kernel_rfl) (by kernel_rfl) (by kernel_rfl) (fun _ _ _ h => h) (Or.inl ⟨?hw18, ?hy18⟩) HB.out ?rest18
  case ho18 => (simp only [List.getElem?_toArray, List.getElem?_cons_succ, List.getElem?_cons_zero]; rfl)
  case hw18 => rfl
  case hy18 => (intro w' hSw; obtain ⟨jc0, jc3, js0, js6, js7, js10, js11⟩ := HC.out _ hSw; go_simp; (try with_reducible rfl))
  case rest18 =>
  (try simp only [Act.put, List.setIfInBounds_toArray, List.set_cons_zero, List.set_cons_succ])
  refine Goes.take (i := 8) (oi := ?oi19) (x := ?vx19) ?ho19 (by kernel_rfl) (by kernel_rfl) (by kernel_rfl) (by kernel_rfl) (fun _ _ _ h => h) (Or.inl ⟨?hw19, ?hy19⟩) HB.out ?rest19
  case ho19 => (simp only [List.getElem?_toArray, List.getElem?_cons_succ, List.getElem?_cons_zero]; rfl)
  case hw19 => rfl
  case hy19 => (intro w' hSw; obtain ⟨jc0, jc3, js0, js6, js7, js10, js11⟩ := HC.out _ hSw; go_simp; (try with_reducible rfl))
  case rest19 =>
  (try simp only [Act.put, List.setIfInBounds_toArray, List.set_cons_zero, List.set_cons_succ])
  refine Goes.take (i := 9) (oi := ?oi20) (x := ?vx20) ?ho20 (by kernel_rfl) (by kernel_rfl) (by kernel_rfl) (by kernel_rfl) (fun _ _ _ h => h) (Or.inl ⟨?hw20, ?hy20⟩) HB.out ?rest20
  case ho20 => (simp only [List.getElem?_toArray, List.getElem?_cons_succ, List.getElem?_cons_zero]; rfl)
  case hw20 => rfl
  case hy20 => (intro w' hSw; obtain ⟨jc0, jc3, js0, js6, js7, js10, js11⟩ := HC.out _ hSw; go_simp; (try with_reducible rfl))
  case rest20 =>
  (try simp only [Act.put, List.setIfInBounds_toArray, List.set_cons_zero, List.set_cons_succ])
  refine Goes.take (i := 10) (oi := ?oi21) (x := ?vx21) ?ho21 (by kernel_rfl) (by kernel_rfl) (by kernel_rfl) (by kernel_rfl) (fun _ _ _ h => h) (Or.inl ⟨?hw21, ?hy21⟩) HB.out ?rest21
  case ho21 => (simp only [List.getElem?_toArray, List.getElem?_cons_succ, List.getElem?_cons_zero]; rfl)
  case hw21 => rfl
  case hy21 => (intro w' hSw; obtain ⟨jc0, jc3, js0, js6, js7, js10, js11⟩ := HC.out _ hSw; go_simp; (try with_reducible rfl))
  case rest21 =>
  (try simp only [Act.put, List.setIfInBounds_toArray, List.set_cons_zero, List.set_cons_succ])
  refine Goes.take (i := 11) (oi := ?oi22) (x := ?vx22) ?ho22 (by kernel_rfl) (by kernel_rfl) (by kernel_rfl) (by kernel_rfl) (fun _ _ _ h => h) (Or.inl ⟨?hw22, ?hy22⟩) HB.out ?rest22
  case ho22 => (simp only [List.getElem?_toArray, List.getElem?_cons_succ, List.getElem?_cons_zero]; rfl)
  case hw22 => rfl
  case hy22 => (intro w' hSw; obtain ⟨jc0, jc3, js0, js6, js7, js10, js11⟩ := HC.out _ hSw; go_simp; (try with_reducible rfl))
  case rest22 =>
  (try simp only [Act.put, List.setIfInBounds_toArray, List.set_cons_zero, List.set_cons_succ])
  refine Goes.take (i := 12) (oi := ?oi23) (x := ?vx23) ?ho23 (by kernel_rfl) (by kernel_rfl) (by kernel_rfl) (by kernel_rfl) (fun _ _ _ h => h) (Or.inl ⟨?hw23, ?hy23⟩) HB.out ?rest23
  case ho23 => (simp only [List.getElem?_toArray, List.getElem?_cons_succ, List.getElem?_cons_zero]; rfl)
  case hw23 => rfl
  case hy23 => (intro w' hSw; obtain ⟨jc0, jc3, js0, js6, js7, js10, js11⟩ := HC.out _ hSw; go_simp; (try with_reducible rfl))
  case rest23 =>
  (try simp only [Act.put, List.setIfInBounds_toArray, List.set_cons_zero, List.set_cons_succ])
  refine Goes.take (i := 13) (oi := ?oi24) (x := ?vx24) ?ho24 (by kernel_rfl) (by kernel_rfl) (by kernel_rfl) (by kernel_rfl) (fun _ _ _ h => h) (Or.inl ⟨?hw24, ?hy24⟩) HB.out ?rest24
  case ho24 => (simp only [List.getElem?_toArray, List.getElem?_cons_succ, List.getElem?_cons_zero]; rfl)
  case hw24 => rfl
  case hy24 => (intro w' hSw; obtain ⟨jc0, jc3, js0, js6, js7, js10, js11⟩ := HC.out _ hSw; go_simp; (try with_reducible rfl))
  case rest24 =>
  (try simp only [Act.put, List.setIfInBounds_toArray, List.set_cons_zero, List.set_cons_succ])
  refine Goes.take (i := 14) (oi := ?oi25) (x := ?vx25) ?ho25 (by kernel_rfl) (by kernel_rfl) (by kernel_rfl) (by kernel_rfl) (fun _ _ _ h => h) (Or.inl ⟨?hw25, ?hy25⟩) HB.out ?rest25
  case ho25 => (simp only [List.getElem?_toArray, List.getElem?_cons_succ, List.getElem?_cons_zero]; rfl)
  case hw25 => rfl
  case hy25 => (intro w' hSw; obtain ⟨jc0, jc3, js0, js6, js7, js10, js11⟩ := HC.out _ hSw; go_simp; (try with_reducible rfl))
  case rest25 =>
  (try simp only [Act.put, List.setIfInBounds_toArray, List.set_cons_zero, List.set_cons_succ])
  refine Goes.take (i := 15) (oi := ?oi26) (x := ?vx26) ?ho26 (by kernel_rfl) (by kernel_rfl) (by kernel_rfl) (by kernel_rfl) (fun _ _ _ h => h) (Or.inl ⟨?hw26, ?hy26⟩) HB.out ?rest26
  case ho26 => (simp only [List.getElem?_toArray, List.getElem?_cons_succ, List.getElem?_cons_zero]; rfl)
  case hw26 => rfl
  case hy26 => (intro w' hSw; obtain ⟨jc0, jc3, js0, js6, js7, js10, js11⟩ := HC.out _ hSw; go_simp; (try with_reducible rfl))
  case rest26 =>
  (try simp only [Act.put, List.setIfInBounds_toArray, List.set_cons_zero, List.set_cons_succ])
  refine Goes.take (i := 16) (oi := ?oi27) (x := ?vx27) ?ho27 (by kernel_rfl) (by kernel_rfl) (by kernel_rfl) (by kernel_rfl) (fun _ _ _ h => h) (Or.inl ⟨?hw27, ?hy27⟩) HB.out ?rest27
  case ho27 => (simp only [List.getElem?_toArray, List.getElem?_cons_succ, List.getElem?_cons_zero]; rfl)
  case hw27 => rfl
  case hy27 => (intro w' hSw; obtain ⟨jc0, jc3, js0, js6, js7, js10, js11⟩ := HC.out _ hSw; go_simp; (try with_reducible rfl))
  case rest27 =>
  (try simp only [Act.put, List.setIfInBounds_toArray, List.set_cons_zero, List.set_cons_succ])
  refine Goes.take (i := 17) (oi := ?oi28) (x := ?vx28) ?ho28 (by kernel_rfl) (by kernel_rfl) (by kernel_rfl) (by kernel_rfl) (fun _ _ _ h => h) (Or.inl ⟨?hw28, ?hy28⟩) HB.out ?rest28
  case ho28 => (simp only [List.getElem?_toArray, List.getElem?_cons_succ, List.getElem?_cons_zero]; rfl)
  case hw28 => rfl
  case hy28 => (intro w' hSw; obtain ⟨jc0, jc3, js0, js6, js7, js10, js11⟩ := HC.out _ hSw; go_simp; (try with_reducible rfl))
  case rest28 =>
  (try simp only [Act.put, List.setIfInBounds_toArray, List.set_cons_zero, List.set_cons_succ])
  refine Goes.call (i := 18) (oi := ?oi29) (x := .int .i64 SQ) ?ho29 (by kernel_rfl) (by kernel_rfl) (by kernel_rfl) (by kernel_rfl) (fun _ _ _ h => h) ?hq29 HB.out ?rest29
  case ho29 => (simp only [List.getElem?_toArray, List.getElem?_cons_succ, List.getElem?_cons_zero]; rfl)
  case hq29 => exact ⟨rfl, fun w' hSw => ⟨103, #[.int .i64 t0, .int .i64 t1], (by go_simp), HA1.out w'⟩⟩
  case rest29 =>
  (try simp only [Act.put, List.setIfInBounds_toArray, List.set_cons_zero, List.set_cons_succ])
  refine Goes.take (i := 19) (oi := ?oi30) (x := ?vx30) ?ho30 (by kernel_rfl) (by kernel_rfl) (by kernel_rfl) (by kernel_rfl) (fun _ _ _ h => h) (Or.inl ⟨?hw30, ?hy30⟩) HB.out ?rest30
  case ho30 => (simp only [List.getElem?_toArray, List.getElem?_cons_succ, List.getElem?_cons_zero]; rfl)
  case hw30 => rfl
  case hy30 => (intro w' hSw; obtain ⟨jc0, jc3, js0, js6, js7, js10, js11⟩ := HC.out _ hSw; go_simp; (try with_reducible rfl))
  case rest30 =>
  (try simp only [Act.put, List.setIfInBounds_toArray, List.set_cons_zero, List.set_cons_succ])
  refine Goes.take (i := 20) (oi := ?oi31) (x := ?vx31) ?ho31 (by kernel_rfl) (by kernel_rfl) (by kernel_rfl) (by kernel_rfl) (fun _ _ _ h => h) (Or.inl ⟨?hw31, ?hy31⟩) HB.out ?rest31
  case ho31 => (simp only [List.getElem?_toArray, List.getElem?_cons_succ, List.getElem?_cons_zero]; rfl)
  case hw31 => rfl
  case hy31 => (intro w' hSw; obtain ⟨jc0, jc3, js0, js6, js7, js10, js11⟩ := HC.out _ hSw; go_simp; (try with_reducible rfl))
  case rest31 =>
  (try simp only [Act.put, List.setIfInBounds_toArray, List.set_cons_zero, List.set_cons_succ])
  refine Goes.take (i := 21) (oi := ?oi32) (x := ?vx32) ?ho32 (by kernel_rfl) (by kernel_rfl) (by kernel_rfl) (by kernel_rfl) (fun _ _ _ h => h) (Or.inl ⟨?hw32, ?hy32⟩) HB.out ?rest32
  case ho32 => (simp only [List.getElem?_toArray, List.getElem?_cons_succ, List.getElem?_cons_zero]; rfl)
  case hw32 => rfl
  case hy32 => (intro w' hSw; obtain ⟨jc0, jc3, js0, js6, js7, js10, js11⟩ := HC.out _ hSw; go_simp; (try with_reducible rfl))
  case rest32 =>
  (try simp only [Act.put, List.setIfInBounds_toArray, List.set_cons_zero, List.set_cons_succ])
  refine Goes.take (i := 22) (oi := ?oi33) (x := ?vx33) ?ho33 (by kernel_rfl) (by kernel_rfl) (by kernel_rfl) (by kernel_rfl) (fun _ _ _ h => h) (Or.inl ⟨?hw33, ?hy33⟩) HB.out ?rest33
  case ho33 => (simp only [List.getElem?_toArray, List.getElem?_cons_succ, List.getElem?_cons_zero]; rfl)
  case hw33 => rfl
  case hy33 => (intro w' hSw; obtain ⟨jc0, jc3, js0, js6, js7, js10, js11⟩ := HC.out _ hSw; go_simp; (try with_reducible rfl))
  case rest33 =>
  (try simp only [Act.put, List.setIfInBounds_toArray, List.set_cons_zero, List.set_cons_succ])
  refine Goes.take (i := 23) (oi := ?oi34) (x := ?vx34) ?ho34 (by kernel_rfl) (by kernel_rfl) (by kernel_rfl) (by kernel_rfl) (fun _ _ _ h => h) (Or.inl ⟨?hw34, ?hy34⟩) HB.out ?rest34
  case ho34 => (simp only [List.getElem?_toArray, List.getElem?_cons_succ, List.getElem?_cons_zero]; rfl)
  case hw34 => rfl
  case hy34 => (intro w' hSw; obtain ⟨jc0, jc3, js0, js6, js7, js10, js11⟩ := HC.out _ hSw; go_simp; (try with_reducible rfl))
  case rest34 =>
  (try simp only [Act.put, List.setIfInBounds_toArray, List.set_cons_zero, List.set_cons_succ])
  refine Goes.take (i := 24) (oi := ?oi35) (x := ?vx35) ?ho35 (by kernel_rfl) (by kernel_rfl) (by kernel_rfl) (by kernel_rfl) (fun _ _ _ h => h) (Or.inl ⟨?hw35, ?hy35⟩) HB.out ?rest35
  case ho35 => (simp only [List.getElem?_toArray, List.getElem?_cons_succ, List.getElem?_cons_zero]; rfl)
  case hw35 => rfl
  case hy35 => (intro w' hSw; obtain ⟨jc0, jc3, js0, js6, js7, js10, js11⟩ := HC.out _ hSw; go_simp; (try with_reducible rfl))
  case rest35 =>
  (try simp only [Act.put, List.setIfInBounds_toArray, List.set_cons_zero, List.set_cons_succ])
  refine Goes.take (i := 25) (oi := ?oi36) (x := ?vx36) ?ho36 (by kernel_rfl) (by kernel_rfl) (by kernel_rfl) (by kernel_rfl) (fun _ _ _ h => h) (Or.inl ⟨?hw36, ?hy36⟩) HB.out ?rest36
  case ho36 => (simp only [List.getElem?_toArray, List.getElem?_cons_succ, List.getElem?_cons_zero]; rfl)
  case hw36 => rfl
  case hy36 => (intro w' hSw; obtain ⟨jc0, jc3, js0, js6, js7, js10, js11⟩ := HC.out _ hSw; go_simp; (try with_reducible rfl))
  case rest36 =>
  (try simp only [Act.put, List.setIfInBounds_toArray, List.set_cons_zero, List.set_cons_succ])
  refine Goes.take (i := 26) (oi := ?oi37) (x := ?vx37) ?ho37 (by kernel_rfl) (by kernel_rfl) (by kernel_rfl) (by kernel_rfl) (fun _ _ _ h => h) (Or.inl ⟨?hw37, ?hy37⟩) HB.out ?rest37
  case ho37 => (simp only [List.getElem?_toArray, List.getElem?_cons_succ, List.getElem?_cons_zero]; rfl)
  case hw37 => rfl
  case hy37 => (intro w' hSw; obtain ⟨jc0, jc3, js0, js6, js7, js10, js11⟩ := HC.out _ hSw; go_simp; (try with_reducible rfl))
  case rest37 =>
  (try simp only [Act.put, List.setIfInBounds_toArray, List.set_cons_zero, List.set_cons_succ])
  refine Goes.take (i := 27) (oi := ?oi38) (x := ?vx38) ?ho38 (by kernel_rfl) (by kernel_rfl) (by kernel_rfl) (by kernel_rfl) (fun _ _ _ h => h) (Or.inl ⟨?hw38, ?hy38⟩) HB.out ?rest38
  case ho38 => (simp only [List.getElem?_toArray, List.getElem?_cons_succ, List.getElem?_cons_zero]; rfl)
  case hw38 => rfl
  case hy38 => (intro w' hSw; obtain ⟨jc0, jc3, js0, js6, js7, js10, js11⟩ := HC.out _ hSw; go_simp; (try with_reducible rfl))
  case rest38 =>
  (try simp only [Act.put, List.setIfInBounds_toArray, List.set_cons_zero, List.set_cons_succ])
  refine Goes.take (i := 28) (oi := ?oi39) (x := ?vx39) ?ho39 (by kernel_rfl) (by kernel_rfl) (by kernel_rfl) (by kernel_rfl) (fun _ _ _ h => h) (Or.inl ⟨?hw39, ?hy39⟩) HB.out ?rest39
  case ho39 => (simp only [List.getElem?_toArray, List.getElem?_cons_succ, List.getElem?_cons_zero]; rfl)
  case hw39 => rfl
  case hy39 => (intro w' hSw; obtain ⟨jc0, jc3, js0, js6, js7, js10, js11⟩ := HC.out _ hSw; go_simp; (try with_reducible rfl))
  case rest39 =>
  (try simp only [Act.put, List.setIfInBounds_toArray, List.set_cons_zero, List.set_cons_succ])
  refine Goes.call (i := 29) (oi := ?oi40) (x := .int .i64 AK) ?ho40 (by kernel_rfl) (by kernel_rfl) (by kernel_rfl) (by kernel_rfl) (fun _ _ _ h => h) ?hq40 HB.out ?rest40
  case ho40 => (simp only [List.getElem?_toArray, List.getElem?_cons_succ, List.getElem?_cons_zero]; rfl)
  case hq40 => exact ⟨rfl, fun w' hSw => ⟨103, #[.int .i64 d0, .int .i64 d1], (by go_simp), HA2.out w'⟩⟩
  case rest40 =>
  (try simp only [Act.put, List.setIfInBounds_toArray, List.set_cons_zero, List.set_cons_succ])
  refine Goes.take (i := 30) (oi := ?oi41) (x := ?vx41) ?ho41 (by kernel_rfl) (by kernel_rfl) (by kernel_rfl) (by kernel_rfl) (fun _ _ _ h => h) (Or.inl ⟨?hw41, ?hy41⟩) HB.out ?rest41
  case ho41 => (simp only [List.getElem?_toArray, List.getElem?_cons_succ, List.getElem?_cons_zero]; rfl)
  case hw41 => rfl
  case hy41 => (intro w' hSw; obtain ⟨jc0, jc3, js0, js6, js7, js10, js11⟩ := HC.out _ hSw; go_simp; (try with_reducible rfl))
  case rest41 =>
  (try simp only [Act.put, List.setIfInBounds_toArray, List.set_cons_zero, List.set_cons_succ])
  refine Goes.call (i := 31) (oi := ?oi42) (x := .int .i64 EN) ?ho42 (by kernel_rfl) (by kernel_rfl) (by kernel_rfl) (by kernel_rfl) (fun _ _ _ h => h) ?hq42 HB.out ?rest42
  case ho42 => (simp only [List.getElem?_toArray, List.getElem?_cons_succ, List.getElem?_cons_zero]; rfl)
  case hq42 => exact ⟨rfl, fun w' hSw => ⟨104, #[.pointer (some ⟨cb, of, none⟩)], (by go_simp), HE w' hSw⟩⟩
  case rest42 =>
  (try simp only [Act.put, List.setIfInBounds_toArray, List.set_cons_zero, List.set_cons_succ])
  refine Goes.take (i := 32) (oi := ?oi43) (x := ?vx43) ?ho43 (by kernel_rfl) (by kernel_rfl) (by kernel_rfl) (by kernel_rfl) (fun _ _ _ h => h) (Or.inl ⟨?hw43, ?hy43⟩) HB.out ?rest43
  case ho43 => (simp only [List.getElem?_toArray, List.getElem?_cons_succ, List.getElem?_cons_zero]; rfl)
  case hw43 => rfl
  case hy43 => (intro w' hSw; obtain ⟨jc0, jc3, js0, js6, js7, js10, js11⟩ := HC.out _ hSw; go_simp; (try with_reducible rfl))
  case rest43 =>
  (try simp only [Act.put, List.setIfInBounds_toArray, List.set_cons_zero, List.set_cons_succ])
  refine Goes.all (rs := [33]) (by kernel_rfl) (by simp) ?_
  refine Ups.cons (i := 33) (o := ?oo44) ?ho44 (fun KK hKK => ?stp44) Ups.nil
  case ho44 => (simp only [List.getElem?_toArray, List.getElem?_cons_succ, List.getElem?_cons_zero]; rfl)
  case stp44 =>
  go_simp
  refine hKK.out _ _ (Or.inr (Below.alloc HB.out (Below.size HB.out) _)) ?_
  clear hKK KK
  (try simp only [Act.put, List.setIfInBounds_toArray, List.set_cons_zero, List.set_cons_succ])
  have kG : ∀ o, (WD.alloc (.cells #[.int .i64 0, .int .i64 0, .bool false, .bool false, .bool false, .int .i64 0, .int .i64 0, .int .i64 0, .int .i64 0, .int .i64 0, .int .i64 0, .slice none 0 0] 33)).cell? ⟨WD.heap.size, o, none⟩ = (#[.int .i64 0, .int .i64 0, .bool false, .bool false, .bool false, .int .i64 0, .int .i64 0, .int .i64 0, .int .i64 0, .int .i64 0, .int .i64 0, .slice none 0 0] : Array Value)[o]? := bx_al WD _ _
  have fG : ∀ o, (WD.alloc (.cells #[.int .i64 0, .int .i64 0, .bool false, .bool false, .bool false, .int .i64 0, .int .i64 0, .int .i64 0, .int .i64 0, .int .i64 0, .int .i64 0, .slice none 0 0] 33)).frozen? ⟨WD.heap.size, o, none⟩ = false := fx_al WD _ _
  have hbB : Below WD.heap.size WD (WD.alloc (.cells #[.int .i64 0, .int .i64 0, .bool false, .bool false, .bool false, .int .i64 0, .int .i64 0, .int .i64 0, .int .i64 0, .int .i64 0, .int .i64 0, .slice none 0 0] 33)) := (Below.refl _ _).alloc (Nat.le_refl _) _
  have zG : WD.heap.size < (WD.alloc (.cells #[.int .i64 0, .int .i64 0, .bool false, .bool false, .bool false, .int .i64 0, .int .i64 0, .int .i64 0, .int .i64 0, .int .i64 0, .int .i64 0, .slice none 0 0] 33)).heap.size := by simp
  generalize hWB : (WD.alloc (.cells #[.int .i64 0, .int .i64 0, .bool false, .bool false, .bool false, .int .i64 0, .int .i64 0, .int .i64 0, .int .i64 0, .int .i64 0, .int .i64 0, .slice none 0 0] 33)) = WB at kG fG hbB zG ⊢
  clear hWB
  replace kR := bx_below kR zR hbB
  replace fR := bxF fR hbB zR
  replace HB : Hid (Below w.heap.size w WB) := HB.out.trans (hbB.mono HB.out.size)
  clear hbB
  obtain ⟨g, hg⟩ : ∃ g, g = WD.heap.size := ⟨_, rfl⟩
  rw [← hg] at zR kG fG zG ⊢
  clear hg WD
  have HTH : Hid (WB.there g 0 G.size) := bx_there kG fG (by rw [HGZ.out]; rfl)
  refine Goes.all (rs := [34]) (by kernel_rfl) (by simp) ?_
  refine Ups.cons (i := 34) (o := ?oo45) ?ho45 (fun KK hKK => ?stp45) Ups.nil
  case ho45 => (simp only [List.getElem?_toArray, List.getElem?_cons_succ, List.getElem?_cons_zero]; rfl)
  case stp45 =>
  rw [if_pos (by rfl)]
  refine wp_store_mid 33 _ _ rfl _ _ G (by rfl) (by rw [HG.out]; rfl) HTH.out HIG.out HONE.out ?_
  refine hKK.out _ _ (Or.inr (setCells_below (show w.heap.size ≤ g by omega) _ _ _ _ HB.out)) ?_
  clear hKK KK
  (try simp only [Act.put])
  refine Goes.done (by kernel_rfl) ?_ _
  refine NoPanic.normal ?_
  replace kG : ∀ o, (WB.setCells g 0 G.toList).cell? ⟨g, o, none⟩ = G[o]? := bx_setCells kG (by rw [HGZ.out]; rfl)
  replace fG : ∀ o, (WB.setCells g 0 G.toList).frozen? ⟨g, o, none⟩ = false := fx_sets fG
  replace kR : ∀ o, (WB.setCells g 0 G.toList).cell? ⟨w.heap.size, o, none⟩ = (#[.int .i64 0, .int .i64 0, .bool false, .bool false, .bool false, .int .i64 0, .int .i64 0, .int .i64 0, .int .i64 0, .int .i64 0, .int .i64 0, .slice none 0 0] : Array Value)[o]? := bx_setOff kR (by omega)
  replace fR : ∀ o, (WB.setCells g 0 G.toList).frozen? ⟨w.heap.size, o, none⟩ = false := fx_sets fR
  replace HB : Hid (Below w.heap.size w (WB.setCells g 0 G.toList)) := setCells_below (show w.heap.size ≤ g by omega) _ _ _ _ HB.out
  replace zG : g < (WB.setCells g 0 G.toList).heap.size := by rw [setCells_size]; exact zG
  generalize hWC : (WB.setCells g 0 G.toList) = WC at kG fG kR fR HB zG ⊢
  clear hWC HTH
  have g8 : G[8]? = some (.int .i64 0) := by rw [HG.out]; rfl
  have g9 : G[9]? = some (.int .i64 0) := by rw [HG.out]; rfl
  obtain ⟨jc0, jc3, js0, js6, js7, js10, js11⟩ := HC.out _ HB.out
  cases pl
  case true =>
    go_upto_region 5 with fail
    obtain ⟨N, hN⟩ : ∃ N : Array Value, N = #[.int .i64 pa, .int .i64 sd, .bool false, .bool true, .bool false, .int .i64 SQ, .int .i64 AK, .int .i64 EN, .int .i64 0, .int .i64 0, .int .i64 0, .slice none 0 0] := ⟨_, rfl⟩
    have HN : Hid _ := hN
    have hNz : N.size = 12 := by rw [hN]; rfl
    have HIN : Hid ((Tryz.prog.info? 33).map (·.size) = some N.size) := by show _ = _; rw [hNz]; exact (by kernel_rfl : (Tryz.prog.info? 33).map (·.size) = some 12)
    have HIN' : Hid ((Tryz.prog.info? 33).map (·.size) = some N.toList.length) := by show _ = _; rw [Array.length_toList]; exact HIN.out
    have HONEN : Hid (N.all (·.oneCell') = true) := by show _ = _; rw [hN]; simp [Value.oneCell']
    have kN : ∀ o, WC.cell? ⟨g, o, none⟩ = N[o]? := by
      have h0 := kG
      rw [HG.out] at h0
      have h2 := h0
      rw [hN]
      simpa using h2
    have kQ : ∀ o, WC.cell? ⟨w.heap.size, o, none⟩ = (#[.int .i64 0, .int .i64 0, .bool false, .bool false, .bool false, .int .i64 0, .int .i64 0, .int .i64 0, .int .i64 0, .int .i64 0, .int .i64 0, .slice none 0 0] : Array Value)[o]? := kR
    have fQ : ∀ o, WC.frozen? ⟨w.heap.size, o, none⟩ = false := fR
    have HBW : Hid (Below w.heap.size w WC) := HB.out
    clear kG fG kR fR
    generalize hWW : WC = W9 at kN kQ fQ HBW ⊢
    clear hWW
    have HTHN : Hid (W9.there w.heap.size 0 N.size) := bx_there kQ fQ (by rw [hNz]; rfl)
    have kF : Hid (∀ o, (W9.setCells w.heap.size 0 N.toList).cell? ⟨w.heap.size, o, none⟩ = N[o]?) := bx_setCells kQ (by rw [hNz]; rfl)
    clear hN hNz kQ fQ
    go_wp2_with (first | (refine wpList_load_mid rfl 33 _ rfl _ _ (by rfl) N.toList _ (bx_range kN) Tryz.underlying33 rfl HIN'.out ?_) | (refine wpList_store_mid rfl 33 _ _ rfl _ _ N (by rfl) (by rfl) HTHN.out HIN.out HONEN.out ?_))
    refine bodyPost_ret (results_box Tryz.results47 _ _ _ N _ (by rfl) kF.out Tryz.underlying33 rfl HIN.out) rfl ⟨?_, setCells_below (Nat.le_refl _) _ _ _ _ HBW.out⟩
    rw [HN.out, HOP.out, HOA.out]
    rfl
  case false =>
    go_upto_region 4 with fail
    have k8 : ∀ o, (WC.setCell ⟨g, 8, none⟩ (.int .i64 4)).cell? ⟨g, o, none⟩ = (G.setIfInBounds 8 (.int .i64 4))[o]? := bx_put kG (by rw [HGZ.out]; omega)
    have f8 : ∀ o, (WC.setCell ⟨g, 8, none⟩ (.int .i64 4)).frozen? ⟨g, o, none⟩ = false := fx_setC fG
    replace kR : ∀ o, (WC.setCell ⟨g, 8, none⟩ (.int .i64 4)).cell? ⟨w.heap.size, o, none⟩ = (#[.int .i64 0, .int .i64 0, .bool false, .bool false, .bool false, .int .i64 0, .int .i64 0, .int .i64 0, .int .i64 0, .int .i64 0, .int .i64 0, .slice none 0 0] : Array Value)[o]? := bx_setC kR (show w.heap.size ≠ g by omega)
    replace fR : ∀ o, (WC.setCell ⟨g, 8, none⟩ (.int .i64 4)).frozen? ⟨w.heap.size, o, none⟩ = false := fx_setC fR
    have HB4 : Hid (Below w.heap.size w (WC.setCell ⟨g, 8, none⟩ (.int .i64 4))) := Below.setCell (p := ⟨g, 8, none⟩) HB.out (show w.heap.size ≤ g by omega) _
    have z8 : g < (WC.setCell ⟨g, 8, none⟩ (.int .i64 4)).heap.size := by simpa using zG
    have m9 : (G.setIfInBounds 8 (.int .i64 4))[9]? = some (.int .i64 0) := by rw [HG.out]; rfl
    have m10 : (G.setIfInBounds 8 (.int .i64 4))[10]? = some (.int .i64 0) := by rw [HG.out]; rfl
    generalize hM : G.setIfInBounds 8 (.int .i64 4) = M at k8 m9 m10
    have HM : Hid _ := hM
    generalize hWX : WC.setCell ⟨g, 8, none⟩ (.int .i64 4) = WX at k8 f8 kR fR HB4 z8 ⊢
    clear hM hWX kG fG zG HB
    go_wp2_with fail
    refine (HD _ HB4.out).mono ?_
    rintro e W2 ⟨rfl, hbq⟩
    replace k8 := bx_below k8 z8 hbq
    replace f8 := bxF f8 hbq z8
    replace kR := bx_below kR (by omega) hbq
    replace fR := bxF fR hbq (by omega)
    replace HB4 : Hid (Below w.heap.size w W2) := HB4.out.trans (hbq.mono HB4.out.size)
    clear hbq
    go_upto_region 5 with fail
    obtain ⟨N, hN⟩ : ∃ N : Array Value, N = #[.int .i64 pa, .int .i64 sd, .bool false, .bool true, .bool false, .int .i64 SQ, .int .i64 AK, .int .i64 EN, .int .i64 4, .int .i64 DA, .int .i64 0, .slice none 0 0] := ⟨_, rfl⟩
    have HN : Hid _ := hN
    have hNz : N.size = 12 := by rw [hN]; rfl
    have HIN : Hid ((Tryz.prog.info? 33).map (·.size) = some N.size) := by show _ = _; rw [hNz]; exact (by kernel_rfl : (Tryz.prog.info? 33).map (·.size) = some 12)
    have HIN' : Hid ((Tryz.prog.info? 33).map (·.size) = some N.toList.length) := by show _ = _; rw [Array.length_toList]; exact HIN.out
    have HONEN : Hid (N.all (·.oneCell') = true) := by show _ = _; rw [hN]; simp [Value.oneCell']
    have kN : ∀ o, (W2.setCell ⟨g, 9, none⟩ (.int .i64 DA)).cell? ⟨g, o, none⟩ = N[o]? := by
      have h0 := k8
      rw [← HM.out, HG.out] at h0
      have h2 := (bx_put h0 (k := 9) (v := .int .i64 DA) (by simp))
      rw [hN]
      simpa using h2
    have kQ : ∀ o, (W2.setCell ⟨g, 9, none⟩ (.int .i64 DA)).cell? ⟨w.heap.size, o, none⟩ = (#[.int .i64 0, .int .i64 0, .bool false, .bool false, .bool false, .int .i64 0, .int .i64 0, .int .i64 0, .int .i64 0, .int .i64 0, .int .i64 0, .slice none 0 0] : Array Value)[o]? := (bx_setC kR (show w.heap.size ≠ g by omega))
    have fQ : ∀ o, (W2.setCell ⟨g, 9, none⟩ (.int .i64 DA)).frozen? ⟨w.heap.size, o, none⟩ = false := (fx_setC fR)
    have HBW : Hid (Below w.heap.size w (W2.setCell ⟨g, 9, none⟩ (.int .i64 DA))) := (Below.setCell (p := ⟨g, 9, none⟩) HB4.out (show w.heap.size ≤ g by omega) _)
    clear k8 f8 kR fR
    generalize hWW : (W2.setCell ⟨g, 9, none⟩ (.int .i64 DA)) = W9 at kN kQ fQ HBW ⊢
    clear hWW
    have HTHN : Hid (W9.there w.heap.size 0 N.size) := bx_there kQ fQ (by rw [hNz]; rfl)
    have kF : Hid (∀ o, (W9.setCells w.heap.size 0 N.toList).cell? ⟨w.heap.size, o, none⟩ = N[o]?) := bx_setCells kQ (by rw [hNz]; rfl)
    clear hN hNz kQ fQ
    go_wp2_with (first | (refine wpList_load_mid rfl 33 _ rfl _ _ (by rfl) N.toList _ (bx_range kN) Tryz.underlying33 rfl HIN'.out ?_) | (refine wpList_store_mid rfl 33 _ _ rfl _ _ N (by rfl) (by rfl) HTHN.out HIN.out HONEN.out ?_))
    refine bodyPost_ret (results_box Tryz.results47 _ _ _ N _ (by rfl) kF.out Tryz.underlying33 rfl HIN.out) rfl ⟨?_, setCells_below (Nat.le_refl _) _ _ _ _ HBW.out⟩
    rw [HN.out, HOP.out, HOA.out]
    rfl
theorem sL9Tell (c : DConn) (A : Array Value) (cb of : Nat) (x : DSub) (cs : List Value) (sb so : Nat) (w : World) (B : Nat) (h : ConnAt w B c A cb of) (hs : w.rangeAt sb so cs) (hsb : sb < w.heap.size) (hx : shSub.Rd w B x cs) :
    Calls Tryz.prog 47 #[.pointer (some ⟨cb, of, none⟩), .pointer (some ⟨sb, so, none⟩)] w fun e w' => e = .returned (.agg (segA (telS c x))) ∧ Below w.heap.size w w' := by
  obtain ⟨a0, a1, a2, a3, -⟩ := conn_cells h.rd
  obtain ⟨a, cap, a5, a6⟩ := conn_out h.rd
  obtain ⟨u, v, e, -⟩ := rd_Sub hx
  have q : ∀ j v, A[j]? = some v → w.cell? ⟨cb, of + j, none⟩ = some v := fun j v hv => h.at_ j v (by rw [Array.getElem?_toList]; exact hv)
  exact sL9Tell0 cb of sb so c.1 c.2.2.2.1 x.1 _ _ _ _ _ _ w h.lt hsb (q 0 _ a0) (q 3 _ a3) (hs 0 _ (by rw [e]; rfl)) (hs 6 _ (by rw [e]; rfl)) (hs 7 _ (by rw [e]; rfl)) (hs 10 _ (by rw [e]; rfl)) (hs 11 _ (by rw [e]; rfl))
    (fun W hW => sL9End cb of _ a _ cap W ((hW.cell (p := ⟨cb, of + 5, none⟩) h.lt).trans (q 5 _ a5)) ((hW.cell (p := ⟨cb, of + 6, none⟩) h.lt).trans (q 6 _ a6)) (conn_wlen h.tot))
    (fun W hW => sL9DataAck c A cb of W B (h.below hW))
set_option maxHeartbeats 2000000 in
theorem sTellSegment (c : DConn) (A : Array Value) (p : Int) (w : World) (B : Nat) (hr : shConn.Rd w B c A.toList) (hB : B ≤ w.heap.size) (hT : totConn c ≤ 1048576) :
    Calls Tryz.prog 12 #[.agg A, .int .i64 p] w fun e w' => ∃ N : Array Value, e = .returned (.agg N) ∧ Own w' w.heap.size w'.heap.size shSR (telV c p) N.toList ∧ Below w.heap.size w w' := by
  suffices H : Calls Tryz.prog 12 #[.agg A, .int .i64 p] w fun e w' => e = .returned (.agg (srA (telV c p))) ∧ Below w.heap.size w w' from
    H.mono (by rintro e w' ⟨rfl, hb⟩; exact ⟨_, rfl, own_SR ((fun h => telV_wf h hT) hr) (telV_nil c p), hb⟩)
  have HAT : Hid (∀ W, Below w.heap.size w W → (∀ o, W.cell? ⟨w.heap.size, o, none⟩ = A[o]?) → ConnAt W B c A w.heap.size 0) := fun W hW hk => ConnAt.of (bx_range hk) (Sh.Rd.below hr hB hW) (Nat.le_trans hB hW.size) hT
  have HF : Hid (∀ W, Below w.heap.size w W → (∀ o, W.cell? ⟨w.heap.size, o, none⟩ = A[o]?) → Calls Tryz.prog 45 #[.pointer (some ⟨w.heap.size, 0, none⟩)] W fun e w' => e = .returned (.int .i64 (connF c)) ∧ Below W.heap.size W w') := fun W hW hk => sL9Fault c A w.heap.size 0 W B (HAT.out W hW hk)
  have H2 : Hid (∀ W, Below w.heap.size w W → (∀ o, W.cell? ⟨w.heap.size, o, none⟩ = A[o]?) → Calls Tryz.prog 46 #[.pointer (some ⟨w.heap.size, 0, none⟩), .int .i64 p] W fun e w' => e = .returned (.int .i64 (placeD c.subs p)) ∧ w' = W) := fun W hW hk => sL9On c A w.heap.size 0 p W B (HAT.out W hW hk)
  clear HAT
  obtain ⟨N, hN⟩ : ∃ N : Array Value, N = srA (telV c p) := ⟨_, rfl⟩
  rw [← hN]
  have hNz : N.size = 13 := by rw [hN]; rfl
  have HIN : Hid ((Tryz.prog.info? 35).map (·.size) = some N.size) := by show _ = _; rw [hNz]; exact (by kernel_rfl : (Tryz.prog.info? 35).map (·.size) = some 13)
  have HONE : Hid (N.all (·.oneCell') = true) := by show _ = _; rw [hN]; simp [srA, Value.oneCell']
  have HNZ : Hid _ := hNz
  clear hNz
  by_cases hF : connF c = 0
  case neg =>
    have hNN : N = #[.int .i64 (connF c), .int .i64 0, .int .i64 0, .bool false, .bool false, .bool false, .int .i64 0, .int .i64 0, .int .i64 0, .int .i64 0, .int .i64 0, .int .i64 0, .slice none 0 0] := by rw [hN]; unfold telV; rw [if_neg hF]; rfl
    have HN : Hid _ := hNN
    have hF' : (connF c != 0) = true := by simp [hF]
    clear hN hNN hr H2 hF
    generalize connF c = F at *
    go_enter Tryz.func12, Tryz.ntmps12
    go_wp2_with fail
    refine (HF.out _ (by go_grown) (fun o => by simp [go_sem])).mono ?_
    rintro e w1 ⟨rfl, hb⟩
    obtain ⟨k0, kR, fR, hb1, z0⟩ := two_boxes hb
    have HB : Hid (Below w.heap.size w w1) := hb1
    clear hb hb1 HF
    have HTH : Hid (w1.there (w.heap.size + 1) 0 N.size) := bx_there kR fR (by rw [HNZ.out]; rfl)
    have kF : Hid (∀ o, (w1.setCells (w.heap.size + 1) 0 N.toList).cell? ⟨w.heap.size + 1, o, none⟩ = N[o]?) := bx_setCells kR (by rw [HNZ.out]; rfl)
    go_wp2_with (refine wpList_store_mid rfl 35 _ _ rfl _ _ N (by rfl) (by rw [HN.out]; rfl) HTH.out HIN.out HONE.out ?_)
    refine bodyPost_ret (results_box Tryz.results12 _ _ _ N _ (by rfl) kF.out Tryz.underlying35 rfl HIN.out) rfl ⟨rfl, ?_⟩
    exact setCells_below (by omega) _ _ _ _ HB.out
  rcases place_bd c.subs p with hp | ⟨k, hk, hkl⟩
  case inl =>
    have hNN : N = #[.int .i64 4, .int .i64 0, .int .i64 0, .bool false, .bool false, .bool false, .int .i64 0, .int .i64 0, .int .i64 0, .int .i64 0, .int .i64 0, .int .i64 0, .slice none 0 0] := by rw [hN]; unfold telV; rw [if_pos hF, hp, if_pos (by omega)]; rfl
    have HN : Hid _ := hNN
    rw [hF] at HF
    rw [hp] at H2
    clear hN hNN hr hF hp
    go_enter Tryz.func12, Tryz.ntmps12
    go_wp2_with fail
    refine (HF.out _ (by go_grown) (fun o => by simp [go_sem])).mono ?_
    rintro e w1 ⟨rfl, hb⟩
    obtain ⟨k0, kR, fR, hb1, z0⟩ := two_boxes hb
    have HB : Hid (Below w.heap.size w w1) := hb1
    clear hb hb1 HF
    have HTH : Hid (w1.there (w.heap.size + 1) 0 N.size) := bx_there kR fR (by rw [HNZ.out]; rfl)
    have kF : Hid (∀ o, (w1.setCells (w.heap.size + 1) 0 N.toList).cell? ⟨w.heap.size + 1, o, none⟩ = N[o]?) := bx_setCells kR (by rw [HNZ.out]; rfl)
    go_wp2_with fail
    refine (H2.out _ HB.out k0).mono ?_
    rintro e w2 ⟨rfl, hw⟩
    subst w2
    clear H2
    go_wp2_with (refine wpList_store_mid rfl 35 _ _ rfl _ _ N (by rfl) (by rw [HN.out]; rfl) HTH.out HIN.out HONE.out ?_)
    refine bodyPost_ret (results_box Tryz.results12 _ _ _ N _ (by rfl) kF.out Tryz.underlying35 rfl HIN.out) rfl ⟨rfl, ?_⟩
    exact setCells_below (by omega) _ _ _ _ HB.out
  have hAV : telV c p = if c.subs[k].2.1 = 3 then (0, telS c c.subs[k], ()) else (10, zSegm, ()) := by unfold telV; rw [if_pos hF, hk, if_neg (by omega), subD_at hk hkl]
  rw [hF] at HF
  rw [hk] at H2
  obtain ⟨cs16, b, off, n, cap, hsl, hbB, hlen, hrg, hrs, hln⟩ := sub_of hr hkl
  have hkn : (k : Int) < (n : Int) := by omega
  have hk0 : (0 : Int) ≤ (k : Int) := by omega
  have hkz : ¬ ((k : Int) < 0) := by omega
  obtain ⟨x0, x1, x2, x3, x4, x6, x10⟩ := sub_cells hrs
  have HAO : Hid (∀ W, Below w.heap.size w W → (∀ o, W.cell? ⟨w.heap.size, o, none⟩ = A[o]?) → Calls Tryz.prog 47 #[.pointer (some ⟨w.heap.size, 0, none⟩), .pointer (some ⟨b, off + k * 16, none⟩)] W fun e w' => e = .returned (.agg (segA (telS c c.subs[k]))) ∧ Below W.heap.size W w') := fun W hW hk0 =>
    sL9Tell c A w.heap.size 0 c.subs[k] cs16 b (off + k * 16) W B (ConnAt.of (bx_range hk0) (Sh.Rd.below hr hB hW) (Nat.le_trans hB hW.size) hT) (range_below hrg hW (show b < w.heap.size by omega)) (by have := hW.size; omega) (Sh.Rd.below hrs hB hW)
  have HJ : Hid (∀ W, Below w.heap.size w W → W.cell? ⟨b, off + k * 16 + 1, none⟩ = some (.int .i64 c.subs[k].2.1)) := fun W hW => (hW.cell (p := ⟨b, off + k * 16 + 1, none⟩) (show b < w.heap.size by omega)).trans (hrg 1 _ x1)
  obtain ⟨sg, hsg⟩ : ∃ s, s = telS c c.subs[k] := ⟨_, rfl⟩
  rw [← hsg] at HAO hAV
  have hNN : N = srA (if c.subs[k].2.1 = 3 then (0, sg, ()) else (10, zSegm, ())) := by rw [hN, hAV]
  have HNN : Hid _ := hNN
  clear hN hNN hr hF hAV hsg x0 x1 x2 x3 x4 x6 x10 hrg hrs hlen hln hk
  generalize c.subs[k].2.1 = jo at *
  clear hkl hT c
  by_cases hj3 : jo = 3
  case neg =>
    have HN : Hid (N = #[.int .i64 10, .int .i64 0, .int .i64 0, .bool false, .bool false, .bool false, .int .i64 0, .int .i64 0, .int .i64 0, .int .i64 0, .int .i64 0, .int .i64 0, .slice none 0 0]) := by have h := HNN.out; rw [if_neg hj3] at h; exact h
    have hj4 : (jo != 3) = true := by simp [hj3]
    clear hj3
    go_enter Tryz.func12, Tryz.ntmps12
    go_wp2_with fail
    refine (HF.out _ (by go_grown) (fun o => by simp [go_sem])).mono ?_
    rintro e w1 ⟨rfl, hb⟩
    obtain ⟨k0, kR, fR, hb1, z0⟩ := two_boxes hb
    have HB : Hid (Below w.heap.size w w1) := hb1
    clear hb hb1 HF
    have HTH : Hid (w1.there (w.heap.size + 1) 0 N.size) := bx_there kR fR (by rw [HNZ.out]; rfl)
    have kF : Hid (∀ o, (w1.setCells (w.heap.size + 1) 0 N.toList).cell? ⟨w.heap.size + 1, o, none⟩ = N[o]?) := bx_setCells kR (by rw [HNZ.out]; rfl)
    go_wp2_with fail
    refine (H2.out _ HB.out k0).mono ?_
    rintro e w2 ⟨rfl, hw⟩
    subst w2
    clear H2
    have hj := HJ.out _ HB.out
    clear HJ
    go_wp2_with (refine wpList_store_mid rfl 35 _ _ rfl _ _ N (by rfl) (by rw [HN.out]; rfl) HTH.out HIN.out HONE.out ?_)
    refine bodyPost_ret (results_box Tryz.results12 _ _ _ N _ (by rfl) kF.out Tryz.underlying35 rfl HIN.out) rfl ⟨rfl, ?_⟩
    exact setCells_below (by omega) _ _ _ _ HB.out
  case pos =>
    have HN : Hid (N = #[.int .i64 0, .int .i64 sg.1, .int .i64 sg.2.1, .bool sg.2.2.1, .bool sg.2.2.2.1, .bool sg.2.2.2.2.1, .int .i64 sg.2.2.2.2.2.1, .int .i64 sg.2.2.2.2.2.2.1, .int .i64 sg.2.2.2.2.2.2.2.1, .int .i64 sg.2.2.2.2.2.2.2.2.1, .int .i64 sg.2.2.2.2.2.2.2.2.2.1, .int .i64 sg.2.2.2.2.2.2.2.2.2.2.1, .slice none 0 0]) := by have h := HNN.out; rw [if_pos hj3] at h; exact h
    subst hj3
    go_enter Tryz.func12, Tryz.ntmps12
    go_wp2_with fail
    refine (HF.out _ (by go_grown) (fun o => by simp [go_sem])).mono ?_
    rintro e w1 ⟨rfl, hb⟩
    obtain ⟨k0, kR, fR, hb1, z0⟩ := two_boxes hb
    have HB : Hid (Below w.heap.size w w1) := hb1
    clear hb hb1 HF
    have HTH : Hid (w1.there (w.heap.size + 1) 0 N.size) := bx_there kR fR (by rw [HNZ.out]; rfl)
    have kF : Hid (∀ o, (w1.setCells (w.heap.size + 1) 0 N.toList).cell? ⟨w.heap.size + 1, o, none⟩ = N[o]?) := bx_setCells kR (by rw [HNZ.out]; rfl)
    go_wp2_with fail
    refine (H2.out _ HB.out k0).mono ?_
    rintro e w2 ⟨rfl, hw⟩
    subst w2
    clear H2
    have hj := HJ.out _ HB.out
    go_wp2_with fail
    refine (HAO.out _ HB.out k0).mono ?_
    rintro e w3 ⟨rfl, hb⟩
    replace kR := bx_below kR z0 hb
    replace fR := bxF fR hb z0
    replace HB : Hid (Below w.heap.size w w3) := HB.out.trans (hb.mono HB.out.size)
    clear hb HTH kF HAO hj HJ
    unfold segA
    have HTH : Hid (w3.there (w.heap.size + 1) 0 N.size) := bx_there kR fR (by rw [HNZ.out]; rfl)
    have kF : Hid (∀ o, (w3.setCells (w.heap.size + 1) 0 N.toList).cell? ⟨w.heap.size + 1, o, none⟩ = N[o]?) := bx_setCells kR (by rw [HNZ.out]; rfl)
    go_wp2_with (refine wpList_store_mid rfl 35 _ _ rfl _ _ N (by rfl) (by rw [HN.out]; rfl) HTH.out HIN.out HONE.out ?_)
    refine bodyPost_ret (results_box Tryz.results12 _ _ _ N _ (by rfl) kF.out Tryz.underlying35 rfl HIN.out) rfl ⟨rfl, ?_⟩
    exact setCells_below (by omega) _ _ _ _ HB.out
end Go.Proofs.YtmpbejckggnfaaaGreatDoor
