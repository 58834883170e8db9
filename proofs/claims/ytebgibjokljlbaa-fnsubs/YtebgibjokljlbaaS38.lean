/- AckSub of the program: the code, and what an ack leaves of a sub; nothing that was in memory turns; no condition but that a sub has at most a million parts. Written by mksubi.py. -/
import Derived.Test.YtebgibjokljlbaaRows
import Derived.Deep.RegionHeld3
import Derived.Deep.MidRow
import Derived.Test.YtebgibjokljlbaaS01
import Derived.Test.YtebgibjokljlbaaS03
import Derived.Test.YtebgibjokljlbaaS04
import Derived.Test.YtebgibjokljlbaaS05
import Derived.Test.YtebgibjokljlbaaS11
import Derived.Test.YtebgibjokljlbaaS18
import Derived.Test.YtebgibjokljlbaaS21
import Derived.Test.YtebgibjokljlbaaS24
import Derived.Test.YtebgibjokljlbaaS25
import Derived.Test.YtebgibjokljlbaaS34
import Derived.Test.YtebgibjokljlbaaS35
import Derived.Test.YtebgibjokljlbaaS36
import Derived.Test.YtebgibjokljlbaaS37
namespace Go.Proofs.Ytebgibjokljlbaa
open Go.RowKit
set_option linter.unusedVariables false
set_option linter.unusedSimpArgs false
set_option maxRecDepth 8000
def AkOk (w' : World) (x : DSub) (T : List Value) : Prop := ∃ y : DSub, shSub.Rd w' w'.heap.size y T ∧ subF y = 0 ∧ x.ctl.1 ≤ y.ctl.1 ∧ roomV x ≤ roomV y ∧ x.snd.2.2.1 ≤ y.snd.2.2.1
set_option maxHeartbeats 8000000 in
theorem iAckSub (x : DSub) (A : Array Value) (ack : Int) (l : List Int) (la : Option Addr) (lc : Nat) (w : World) (B : Nat) (hr : shSub.Rd w B x A.toList) (hB : B ≤ w.heap.size) (hT : totSub x ≤ 1048576) (hl : RI w la l) (hn : l.length ≤ 1048576) :
    Calls Try.prog 29 #[.agg A, .int .i64 ack, .slice la l.length lc] w fun e w' => ∃ T : List Value, T.length = 16 ∧ T.all (·.oneCell') = true ∧ e = .returned (.agg (.int .i64 (akC x ack l) :: T).toArray) ∧ Below w.heap.size w w' ∧ (akC x ack l = 0 → AkOk w' x T) := by
  have HC : Hid (∀ W, Below w.heap.size w W → Calls Try.prog 33 #[.agg A] W fun e w' => e = .returned (.int .i64 (subF x)) ∧ Below W.heap.size W w') := fun W hW => iSubFaultA x A W B (Sh.Rd.below (s := shSub) hr hB hW) (Nat.le_trans hB hW.size) hT
  obtain ⟨y0, y1, y2, y3, y4, y5, s0, s1, s2, fl, c0, c1, sp, k0, k1, k2, ua, uc, va, vc, rfl, e, rs0, rc0, hwf⟩ := sub_lit hr
  have eA := arr_of e
  subst eA
  clear e hr hT
  obtain ⟨fn, hfn⟩ : ∃ n, fl.length = n := ⟨_, rfl⟩
  obtain ⟨sn, hsn⟩ : ∃ n, sp.length = n := ⟨_, rfl⟩
  rw [hfn] at rs0 HC ⊢
  rw [hsn] at rc0 HC ⊢
  have HAG : Hid (∀ {t0 t1 t2 : Int} {tl : List DFlight} {a b c : Int}, subF (y0, y1, y2, y3, y4, y5, (s0, s1, s2, fl, ()), (c0, c1, sp, ()), (k0, k1, k2, ()), ()) = 0 → ackC (s0, s1, s2, fl, ()) ack = 0 → ackV (s0, s1, s2, fl, ()) ack = (t0, t1, t2, tl, ()) → ctF a b c = 0 → k0 ≤ a → _) := fun h1 h2 h3 h4 h5 => ak_good h1 h2 h3 h4 h5
  have HCC : Hid (¬ subF (y0, y1, y2, y3, y4, y5, (s0, s1, s2, fl, ()), (c0, c1, sp, ()), (k0, k1, k2, ()), ()) = 0 → akC (y0, y1, y2, y3, y4, y5, (s0, s1, s2, fl, ()), (c0, c1, sp, ()), (k0, k1, k2, ()), ()) ack l = subF (y0, y1, y2, y3, y4, y5, (s0, s1, s2, fl, ()), (c0, c1, sp, ()), (k0, k1, k2, ()), ())) := fun h => by unfold akC; rw [if_neg h]
  by_cases hF : subF (y0, y1, y2, y3, y4, y5, (s0, s1, s2, fl, ()), (c0, c1, sp, ()), (k0, k1, k2, ()), ()) = 0
  case neg =>
    rw [HCC.out hF]
    have hz0 : ∀ {q : Prop}, subF (y0, y1, y2, y3, y4, y5, (s0, s1, s2, fl, ()), (c0, c1, sp, ()), (k0, k1, k2, ()), ()) = 0 → q := fun h => absurd h hF
    have HZ0 : Hid _ := @hz0
    clear HAG HCC rs0 rc0 hwf hl hz0
    generalize subF (y0, y1, y2, y3, y4, y5, (s0, s1, s2, fl, ()), (c0, c1, sp, ()), (k0, k1, k2, ()), ()) = CC at *
    have hF' : (CC != 0) = true := by simp [hF]
    go_enter Try.func29, Try.ntmps29
    go_wp2_with fail
    refine (HC.out _ (by go_grown)).mono ?_
    rintro e w1 ⟨rfl, hb⟩
    obtain ⟨bR, hbR⟩ : ∃ q, q = w.heap.size + 1 := ⟨_, rfl⟩
    have kR : ∀ o, w1.cell? ⟨bR, o, none⟩ = (#[.int .i64 0, .int .i64 0, .int .i64 0, .bool false, .int .i64 0, .int .i64 0, .int .i64 0, .int .i64 0, .int .i64 0, .int .i64 0, .slice none 0 0, .int .i64 0, .int .i64 0, .slice none 0 0, .int .i64 0, .int .i64 0, .int .i64 0] : Array Value)[o]? := fun o => by rw [hbR, hb.cell (p := ⟨w.heap.size + 1, o, none⟩) (by simp)]; simp [go_sem]
    have fR : ∀ o, w1.frozen? ⟨bR, o, none⟩ = false := fun o => by rw [hbR, hb.frozen (p := ⟨w.heap.size + 1, o, none⟩) (by simp)]; simp [go_sem]
    have zR : bR < w1.heap.size := by have := hb.size; simp at this; omega
    have lwR : w.heap.size ≤ bR := by omega
    have HB : Hid (Below w.heap.size w w1) := Below.trans (by go_grown) (hb.mono (by simp; omega))
    clear hb HC
    rw [← hbR]
    clear hbR
    obtain ⟨N, hN⟩ : ∃ N : Array Value, N = #[.int .i64 CC, .int .i64 0, .int .i64 0, .bool false, .int .i64 0, .int .i64 0, .int .i64 0, .int .i64 0, .int .i64 0, .int .i64 0, .slice none 0 0, .int .i64 0, .int .i64 0, .slice none 0 0, .int .i64 0, .int .i64 0, .int .i64 0] := ⟨_, rfl⟩
    have HN : Hid _ := hN
    have hNz : N.size = 17 := by rw [hN]; rfl
    have HTH : Hid (w1.there bR 0 N.size) := bx_there kR fR (by rw [hNz]; rfl)
    have HI17 : Hid ((Try.prog.info? 69).map (·.size) = some N.size) := by show _ = _; rw [hNz]; exact (by kernel_rfl : (Try.prog.info? 69).map (·.size) = some 17)
    have HONE : Hid (N.all (·.oneCell') = true) := by show _ = _; rw [hN]; simp [Value.oneCell']
    have HJ : Hid (∀ o, (w1.setCells bR 0 N.toList).cell? ⟨bR, o, none⟩ = N[o]?) := bx_setCells kR (by rw [hNz]; rfl)
    have HX : Hid (Below w.heap.size w (w1.setCells bR 0 N.toList)) := setCells_below lwR _ _ _ _ HB.out
    clear hN hNz
    clear HB kR fR
    go_wp2_with (refine wpList_store_mid rfl 69 _ _ rfl _ _ N (by rfl) (by rw [HN.out]; rfl) HTH.out HI17.out HONE.out ?_)
    refine bodyPost_ret (results_box Try.results29 _ _ _ N _ (by rfl) HJ.out Try.underlying69 rfl HI17.out) rfl ⟨[.int .i64 0, .int .i64 0, .bool false, .int .i64 0, .int .i64 0, .int .i64 0, .int .i64 0, .int .i64 0, .int .i64 0, .slice none 0 0, .int .i64 0, .int .i64 0, .slice none 0 0, .int .i64 0, .int .i64 0, .int .i64 0], rfl, by simp [Value.oneCell'], by rw [HN.out], HX.out, fun h => HZ0.out h⟩
  have HCS : Hid (∀ W, Below w.heap.size w W → Calls Try.prog 78 #[.agg #[.int .i64 y0, .int .i64 y1, .bool y2, .int .i64 y3, .int .i64 y4, .int .i64 y5, .int .i64 s0, .int .i64 s1, .int .i64 s2, .slice ua fn uc, .int .i64 c0, .int .i64 c1, .slice va sn vc, .int .i64 k0, .int .i64 k1, .int .i64 k2]] W fun e w' => ∃ qa qc ra rc m, e = .returned (.pointer (some ⟨W.heap.size, 0, none⟩)) ∧ (∀ o, w'.cell? ⟨W.heap.size, o, none⟩ = (#[.int .i64 y0, .int .i64 y1, .bool y2, .int .i64 y3, .int .i64 y4, .int .i64 y5, .int .i64 s0, .int .i64 s1, .int .i64 s2, .slice qa fn qc, .int .i64 c0, .int .i64 c1, .slice ra sn rc, .int .i64 k0, .int .i64 k1, .int .i64 k2] : Array Value)[o]?) ∧ (∀ o, w'.frozen? ⟨W.heap.size, o, none⟩ = false) ∧ SubOw w' (W.heap.size + 1) w'.heap.size fl sp s0 s1 s2 c0 c1 qa fn qc ra sn rc m ∧ W.heap.size < w'.heap.size ∧ Below W.heap.size W w') := fun W hW => iCopySub y0 y1 y2 y3 y4 y5 s0 s1 s2 c0 c1 k0 k1 k2 fl sp ua fn uc va sn vc W B ((SubIn.of rs0 rc0 hfn hsn hB (sub_ok hF).2.1 (sub_ok hF).2.2.1).below hW)
  have HAP : Hid (∀ (W : World) (qa : Option Addr) (qc : Nat) (ra : Option Addr) (rc pb m : Nat), Below w.heap.size w W → (∀ o, W.cell? ⟨pb, o, none⟩ = (#[.int .i64 y0, .int .i64 y1, .bool y2, .int .i64 y3, .int .i64 y4, .int .i64 y5, .int .i64 s0, .int .i64 s1, .int .i64 s2, .slice qa fn qc, .int .i64 c0, .int .i64 c1, .slice ra sn rc, .int .i64 k0, .int .i64 k1, .int .i64 k2] : Array Value)[o]?) → (∀ o, W.frozen? ⟨pb, o, none⟩ = false) → SubOw W (pb + 1) W.heap.size fl sp s0 s1 s2 c0 c1 qa fn qc ra sn rc m → pb < W.heap.size → Calls Try.prog 79 #[.pointer (some ⟨pb, 0, none⟩), .int .i64 ack, .slice la l.length lc] W fun e w' => e = .returned (.int .i64 (akC (y0, y1, y2, y3, y4, y5, (s0, s1, s2, fl, ()), (c0, c1, sp, ()), (k0, k1, k2, ()), ()) ack l)) ∧ Below pb W w' ∧ (akC (y0, y1, y2, y3, y4, y5, (s0, s1, s2, fl, ()), (c0, c1, sp, ()), (k0, k1, k2, ()), ()) ack l = 0 → AkP w' pb y0 y1 y2 y3 y4 y5 s0 s1 s2 c0 c1 k0 k1 k2 fl sp qa fn qc ra sn rc ack)) := fun W qa qc ra rc pb m hW h1 h2 h3 h4 => iAckPath y0 y1 y2 y3 y4 y5 s0 s1 s2 c0 c1 k0 k1 k2 fl sp qa fn qc ra sn rc ack l la lc pb m W h1 h2 h3 h4 hF hwf (hl.below (Nat.le_refl _) hW) hn
  have HFO : Hid (subF (y0, y1, y2, y3, y4, y5, (s0, s1, s2, fl, ()), (c0, c1, sp, ()), (k0, k1, k2, ()), ()) = 0) := hF
  rw [hF] at HC
  clear HCC hF rs0 rc0 hwf hl
  generalize akC (y0, y1, y2, y3, y4, y5, (s0, s1, s2, fl, ()), (c0, c1, sp, ()), (k0, k1, k2, ()), ()) ack l = CC at *
  generalize l.length = ln at *
  go_enter Try.func29, Try.ntmps29
  go_wp2_with fail
  refine (HC.out _ (by go_grown)).mono ?_
  rintro e w1 ⟨rfl, hb⟩
  have kX : ∀ o, w1.cell? ⟨w.heap.size, o, none⟩ = (#[.int .i64 y0, .int .i64 y1, .bool y2, .int .i64 y3, .int .i64 y4, .int .i64 y5, .int .i64 s0, .int .i64 s1, .int .i64 s2, .slice ua fn uc, .int .i64 c0, .int .i64 c1, .slice va sn vc, .int .i64 k0, .int .i64 k1, .int .i64 k2] : Array Value)[o]? := fun o => by rw [hb.cell (p := ⟨w.heap.size, o, none⟩) (by simp; omega)]; simp [go_sem]
  obtain ⟨bR, hbR⟩ : ∃ q, q = w.heap.size + 1 := ⟨_, rfl⟩
  have kR : ∀ o, w1.cell? ⟨bR, o, none⟩ = (#[.int .i64 0, .int .i64 0, .int .i64 0, .bool false, .int .i64 0, .int .i64 0, .int .i64 0, .int .i64 0, .int .i64 0, .int .i64 0, .slice none 0 0, .int .i64 0, .int .i64 0, .slice none 0 0, .int .i64 0, .int .i64 0, .int .i64 0] : Array Value)[o]? := fun o => by rw [hbR, hb.cell (p := ⟨w.heap.size + 1, o, none⟩) (by simp)]; simp [go_sem]
  have fR : ∀ o, w1.frozen? ⟨bR, o, none⟩ = false := fun o => by rw [hbR, hb.frozen (p := ⟨w.heap.size + 1, o, none⟩) (by simp)]; simp [go_sem]
  have zR : bR < w1.heap.size := by have := hb.size; simp at this; omega
  have lwR : w.heap.size ≤ bR := by omega
  have HB : Hid (Below w.heap.size w w1) := Below.trans (by go_grown) (hb.mono (by simp; omega))
  clear hb HC
  rw [← hbR]
  clear hbR
  go_wp2_with fail
  refine (HCS.out _ HB.out).mono ?_
  rintro e w2 ⟨qa, qc, ra, rc, m, rfl, kP, fP, hsw, zP, hb⟩
  clear HCS kX
  have zR2 : bR < w1.heap.size := zR
  replace kR := bx_below kR zR hb
  replace fR := bxF fR hb zR
  replace zR := Nat.lt_of_lt_of_le zR hb.size
  replace HB : Hid (Below w.heap.size w w2) := HB.out.trans (hb.mono HB.out.size)
  clear hb
  obtain ⟨pb, hpb⟩ : ∃ q, q = w1.heap.size := ⟨_, rfl⟩
  rw [← hpb] at kP fP hsw zP zR2 ⊢
  clear hpb
  go_wp2_with fail
  refine (HAP.out _ qa qc ra rc pb m HB.out kP fP hsw zP).mono ?_
  rintro e w3 ⟨rfl, hb, hpost⟩
  clear HAP kP fP hsw
  replace kR : ∀ o, w3.cell? ⟨bR, o, none⟩ = (#[.int .i64 0, .int .i64 0, .int .i64 0, .bool false, .int .i64 0, .int .i64 0, .int .i64 0, .int .i64 0, .int .i64 0, .int .i64 0, .slice none 0 0, .int .i64 0, .int .i64 0, .slice none 0 0, .int .i64 0, .int .i64 0, .int .i64 0] : Array Value)[o]? := fun o => (hb.cell (p := ⟨bR, o, none⟩) zR2).trans (kR o)
  replace fR : ∀ o, w3.frozen? ⟨bR, o, none⟩ = false := fun o => (hb.frozen (p := ⟨bR, o, none⟩) zR2).trans (fR o)
  replace HB : Hid (Below w.heap.size w w3) := HB.out.trans (hb.mono (by omega))
  have zP3 : pb < w3.heap.size := Nat.lt_of_lt_of_le zP hb.size
  have HPO : Hid _ := hpost
  clear hb zR hpost
  by_cases hC : CC = 0
  case neg =>
    have hC' : (CC != 0) = true := by simp [hC]
    obtain ⟨N, hN⟩ : ∃ N : Array Value, N = #[.int .i64 CC, .int .i64 0, .int .i64 0, .bool false, .int .i64 0, .int .i64 0, .int .i64 0, .int .i64 0, .int .i64 0, .int .i64 0, .slice none 0 0, .int .i64 0, .int .i64 0, .slice none 0 0, .int .i64 0, .int .i64 0, .int .i64 0] := ⟨_, rfl⟩
    have HN : Hid _ := hN
    have hNz : N.size = 17 := by rw [hN]; rfl
    have HTH : Hid (w3.there bR 0 N.size) := bx_there kR fR (by rw [hNz]; rfl)
    have HI17 : Hid ((Try.prog.info? 69).map (·.size) = some N.size) := by show _ = _; rw [hNz]; exact (by kernel_rfl : (Try.prog.info? 69).map (·.size) = some 17)
    have HONE : Hid (N.all (·.oneCell') = true) := by show _ = _; rw [hN]; simp [Value.oneCell']
    have HJ : Hid (∀ o, (w3.setCells bR 0 N.toList).cell? ⟨bR, o, none⟩ = N[o]?) := bx_setCells kR (by rw [hNz]; rfl)
    have HX : Hid (Below w.heap.size w (w3.setCells bR 0 N.toList)) := setCells_below lwR _ _ _ _ HB.out
    clear hN hNz
    clear HB kR fR
    go_wp2_with (refine wpList_store_mid rfl 69 _ _ rfl _ _ N (by rfl) (by rw [HN.out]; rfl) HTH.out HI17.out HONE.out ?_)
    refine bodyPost_ret (results_box Try.results29 _ _ _ N _ (by rfl) HJ.out Try.underlying69 rfl HI17.out) rfl ⟨[.int .i64 0, .int .i64 0, .bool false, .int .i64 0, .int .i64 0, .int .i64 0, .int .i64 0, .int .i64 0, .int .i64 0, .slice none 0 0, .int .i64 0, .int .i64 0, .slice none 0 0, .int .i64 0, .int .i64 0, .int .i64 0], rfl, by simp [Value.oneCell'], by rw [HN.out], HX.out, fun h => absurd h hC⟩
  subst hC
  obtain ⟨t0, t1, t2, tl, a, b, c, ta, tn, tc, p1, p2, p3, p4, kP, hwf, lo1, hi1, lo2, hi2, ho1, ho2, g1, g2⟩ := HPO.out rfl
  have hg := HAG.out HFO.out p1 p2 p3 p4
  have HGD : Hid _ := hg
  have hp4 : Hid (k0 ≤ a) := p4
  have HO1 : Hid _ := ho1
  have HO2 : Hid _ := ho2
  have HW : Hid _ := hwf
  clear HPO hg p1 p2 p3 p4 ho1 ho2 hwf HAG HFO
  have HRG : Hid (w3.rangeAt pb 0 [.int .i64 y0, .int .i64 y1, .bool y2, .int .i64 y3, .int .i64 y4, .int .i64 y5, .int .i64 t0, .int .i64 t1, .int .i64 t2, .slice ta tn tc, .int .i64 c0, .int .i64 c1, .slice ra sn rc, .int .i64 a, .int .i64 b, .int .i64 c]) := bx_range (A := #[.int .i64 y0, .int .i64 y1, .bool y2, .int .i64 y3, .int .i64 y4, .int .i64 y5, .int .i64 t0, .int .i64 t1, .int .i64 t2, .slice ta tn tc, .int .i64 c0, .int .i64 c1, .slice ra sn rc, .int .i64 a, .int .i64 b, .int .i64 c]) kP
  have HI16 : Hid ((Try.prog.info? 64).map (·.size) = some ([.int .i64 y0, .int .i64 y1, .bool y2, .int .i64 y3, .int .i64 y4, .int .i64 y5, .int .i64 t0, .int .i64 t1, .int .i64 t2, .slice ta tn tc, .int .i64 c0, .int .i64 c1, .slice ra sn rc, .int .i64 a, .int .i64 b, .int .i64 c] : List Value).length) := (by kernel_rfl : (Try.prog.info? 64).map (·.size) = some 16)
  obtain ⟨N, hN⟩ : ∃ N : Array Value, N = #[.int .i64 0, .int .i64 y0, .int .i64 y1, .bool y2, .int .i64 y3, .int .i64 y4, .int .i64 y5, .int .i64 t0, .int .i64 t1, .int .i64 t2, .slice ta tn tc, .int .i64 c0, .int .i64 c1, .slice ra sn rc, .int .i64 a, .int .i64 b, .int .i64 c] := ⟨_, rfl⟩
  have HN : Hid _ := hN
  have hNz : N.size = 17 := by rw [hN]; rfl
  have HTH : Hid (w3.there bR 0 N.size) := bx_there kR fR (by rw [hNz]; rfl)
  have HI17 : Hid ((Try.prog.info? 69).map (·.size) = some N.size) := by show _ = _; rw [hNz]; exact (by kernel_rfl : (Try.prog.info? 69).map (·.size) = some 17)
  have HONE : Hid (N.all (·.oneCell') = true) := by show _ = _; rw [hN]; simp [Value.oneCell']
  have HJ : Hid (∀ o, (w3.setCells bR 0 N.toList).cell? ⟨bR, o, none⟩ = N[o]?) := bx_setCells kR (by rw [hNz]; rfl)
  have HX : Hid (Below w.heap.size w (w3.setCells bR 0 N.toList)) := setCells_below lwR _ _ _ _ HB.out
  clear hN hNz
  clear HB fR kP
  go_wp2_with (first | (refine wpList_load_mid rfl 64 _ rfl _ _ (by rfl) [.int .i64 y0, .int .i64 y1, .bool y2, .int .i64 y3, .int .i64 y4, .int .i64 y5, .int .i64 t0, .int .i64 t1, .int .i64 t2, .slice ta tn tc, .int .i64 c0, .int .i64 c1, .slice ra sn rc, .int .i64 a, .int .i64 b, .int .i64 c] _ HRG.out Try.underlying64 rfl HI16.out ?_) | (refine wpList_store_mid rfl 69 _ _ rfl _ _ N (by rfl) (by rw [HN.out]; rfl) HTH.out HI17.out HONE.out ?_))
  have hq1 : Own (w3.setCells bR 0 N.toList) lo1 hi1 shSender (t0, t1, t2, tl, ()) [.int .i64 t0, .int .i64 t1, .int .i64 t2, .slice ta tn tc] := HO1.out.keep (fun b h1 h2 => setCells_block (by omega) _ _ _)
  have hq2 : Own (w3.setCells bR 0 N.toList) lo2 hi2 shCatchO (c0, c1, sp, ()) [.int .i64 c0, .int .i64 c1, .slice ra sn rc] := HO2.out.keep (fun b h1 h2 => setCells_block (by omega) _ _ _)
  have hak : AkOk (w3.setCells bR 0 N.toList) (y0, y1, y2, y3, y4, y5, (s0, s1, s2, fl, ()), (c0, c1, sp, ()), (k0, k1, k2, ()), ()) [.int .i64 y0, .int .i64 y1, .bool y2, .int .i64 y3, .int .i64 y4, .int .i64 y5, .int .i64 t0, .int .i64 t1, .int .i64 t2, .slice ta tn tc, .int .i64 c0, .int .i64 c1, .slice ra sn rc, .int .i64 a, .int .i64 b, .int .i64 c] := ⟨_, mk_SubRd (hq1.rd (Nat.le_refl _)) (hq2.rd (Nat.le_refl _)) HW.out, HGD.out.1, hp4.out, HGD.out.2.1, HGD.out.2.2⟩
  have eN := HN.out
  first
    | exact bodyPost_ret (results_box Try.results29 _ _ _ N _ (by rfl) HJ.out Try.underlying69 rfl HI17.out) rfl ⟨[.int .i64 y0, .int .i64 y1, .bool y2, .int .i64 y3, .int .i64 y4, .int .i64 y5, .int .i64 t0, .int .i64 t1, .int .i64 t2, .slice ta tn tc, .int .i64 c0, .int .i64 c1, .slice ra sn rc, .int .i64 a, .int .i64 b, .int .i64 c], rfl, by simp [Value.oneCell'], by rw [eN], HX.out, fun _ => hak⟩
    | exact bodyPost_ret (results_box Try.results29 _ _ _ N _ (by rfl) HJ.out Try.underlying69 rfl HI17.out) rfl ⟨[.int .i64 y0, .int .i64 y1, .bool y2, .int .i64 y3, .int .i64 y4, .int .i64 y5, .int .i64 t0, .int .i64 t1, .int .i64 t2, .slice ta tn tc, .int .i64 c0, .int .i64 c1, .slice ra sn rc, .int .i64 a, .int .i64 b, .int .i64 c], rfl, by simp [Value.oneCell'], by rw [eN], HX.out, hak⟩
end Go.Proofs.Ytebgibjokljlbaa
