/- The model's NetFault of a net that is part of something greater; nothing that was in memory turns; no condition. Written by mkspo.py. -/
import Derived.Test.YtfpemobkkfobkaaGreatDoorRows
import Derived.Deep.DeepCutAuto
import Derived.Deep.MidRow
import Derived.Deep.RegionHeld3
import Derived.Test.YtfpemobkkfobkaaGreatDoorK01
import Derived.Test.YtfpemobkkfobkaaGreatDoorK02
import Derived.Test.YtfpemobkkfobkaaGreatDoorK03
import Derived.Test.YtfpemobkkfobkaaGreatDoorK04
import Derived.Test.YtfpemobkkfobkaaGreatDoorK09
import Derived.Test.YtfpemobkkfobkaaGreatDoorK10
import Derived.Test.YtfpemobkkfobkaaGreatDoorK11
import Derived.Test.YtfpemobkkfobkaaGreatDoorK17
import Derived.Test.YtfpemobkkfobkaaGreatDoorK20
import Derived.Test.YtfpemobkkfobkaaGreatDoorK55
import Derived.Test.YtfpemobkkfobkaaGreatDoorK56
import Derived.Test.YtfpemobkkfobkaaGreatDoorK57
import Derived.Test.YtfpemobkkfobkaaGreatDoorK58
namespace Go.Proofs.YtfpemobkkfobkaaGreatDoor
open Go.RowKit
set_option linter.unusedVariables false
set_option maxRecDepth 8000

set_option maxHeartbeats 4000000 in
theorem sL12FaultO (t : TypeId) (bag : List DSegm) (dead : List Bool) (p of : Nat) (vb vd : Value) (w : World) (B : Nat) (kP : w.cell? ⟨p, of, none⟩ = some vb) (kQ : w.cell? ⟨p, of + 1, none⟩ = some vd) (hp : p < w.heap.size) (hb : shSegms.Rd w B bag [vb]) (hd : (bls t).Rd w B dead [vd]) (hB : B ≤ w.heap.size) :
    Calls Tryz.prog 31 #[.pointer (some ⟨p, of, none⟩)] w fun e w' => e = .returned (.int .i64 (netF bag dead)) ∧ Below w.heap.size w w' := by
  obtain ⟨a, cap, ev⟩ := row_form hb
  simp only [List.cons.injEq, and_true] at ev
  subst ev
  obtain ⟨da, dcap, rfl, hdm, -⟩ := rd_bls hd
  have hmx : bag.length ≤ 9223372036854775807 := row_max hb
  obtain ⟨R, hR⟩ : ∃ R, R = netF bag dead := ⟨_, rfl⟩
  rw [← hR]
  by_cases h60 : 60 < bag.length
  · have : R = 2 := by rw [hR]; unfold netF; rw [if_pos h60]
    subst this
    clear hb hd hR
    generalize bag.length = n at *
    generalize dead.length = m at *
    have h60' : decide ((60 : Int) < (n : Int)) = true := by simp; omega
    go_enter Tryz.func31, Tryz.ntmps31
    go_wp2_with fail
    go_ret
    exact ⟨rfl, Below.refl _ _⟩
  by_cases h3 : dead.length = 3
  · have e1 : R = carF dead bag := by rw [hR]; unfold netF; rw [if_neg h60, if_neg (by simp [h3])]
    obtain ⟨hd3, db, doff, hda, hdb, hdc⟩ := dead_at hd h3
    subst hda
    have HR : Hid (carF dead (bag.drop 0) = R) := by rw [e1]; rfl
    have HRd : Hid (∀ W, Below w.heap.size w W → shSegms.Rd W B bag [.slice a bag.length cap]) := fun W hW => hb.below hB hW
    have HDC : Hid (∀ W, Below w.heap.size w W → ∀ p, p < 3 → W.cell? ⟨db, doff + p, none⟩ = some (.bool (dead.getD p false))) := fun W hW p hp => (hW.cell (p := ⟨db, doff + p, none⟩) (show db < _ by omega)).trans (hdc p hp)
    have HKP : Hid (∀ W, Below w.heap.size w W → W.cell? ⟨p, of, none⟩ = some (.slice a bag.length cap) ∧ W.cell? ⟨p, of + 1, none⟩ = some (.slice (some ⟨db, doff, none⟩) 3 dcap)) := fun W hW => ⟨(hW.cell (p := ⟨p, of, none⟩) hp).trans kP, (hW.cell (p := ⟨p, of + 1, none⟩) hp).trans (by rw [h3] at kQ; exact kQ)⟩
    have hl60 : bag.length ≤ 60 := by omega
    obtain ⟨n, hn⟩ : ∃ n, bag.length = n := ⟨_, rfl⟩
    have HN : Hid (bag.length = n) := hn
    rw [hn] at HRd HKP hl60
    obtain ⟨k0, k1⟩ := HKP.out w (Below.refl _ _)
    have h60' : decide ((60 : Int) < (n : Int)) = false := by simp; omega
    clear kP kQ hb hd hR e1 hdc hmx hn h60 hdm h3 hd3
    go_enter Tryz.func31, Tryz.ntmps31
    go_upto_region 6 with fail
    clear k0 k1
    go_loopw [3] (fun i wr => ∃ k : Nat, k ≤ n ∧ i = .int .i64 k ∧ Hid (carF dead (bag.drop k) = R) ∧ Below w.heap.size w wr) (fun i _ => n - (intOf i).toNat)
    case atStart => exact ⟨0, Nat.zero_le _, rfl, HR, Below.refl _ _⟩
    case round =>
      clear HR
      obtain ⟨k, hk, rfl, HR, hbl⟩ := hrel
      obtain ⟨k0, k1⟩ := HKP.out wr hbl
      by_cases hlt : k < n
      · have hkl : k < bag.length := by have := HN.out; omega
        obtain ⟨b, off, cs, ha, hb, hlen, hrg, r3⟩ := row_at (HRd.out wr hbl) k hkl
        subst ha
        replace hlen : cs.length = 12 := hlen
        replace hrg : wr.rangeAt b (off + k * 12) cs := hrg
        have HI : Hid ((Tryz.prog.info? 115).map (·.size) = some cs.length) := by show _ = _; rw [hlen]; exact info_SG12
        have HC : Hid (∀ W, Calls Tryz.prog 54 #[.agg cs.toArray] W fun e w' => e = .returned (.int .i64 (sgF bag[k])) ∧ Below W.heap.size W w') := fun W => sSegF bag[k] cs.toArray W r3
        have hc0 : wr.cell? ⟨b, off + k * 12, none⟩ = some (.int .i64 bag[k].1) := by have := hrg 0 _ (seg_path r3); simpa using this
        have HG : Hid _ := hrg
        have HST : Hid _ := HR.out.symm.trans (carF_drop hkl)
        have HOK : Hid (sgF bag[k] = 0 → 0 ≤ bag[k].1 ∧ bag[k].1 ≤ 2) := fun h => ⟨(sgF_ok h).1, (sgF_ok h).2.1⟩
        have HDD : Hid (deadAt dead bag[k] = dead.getD bag[k].1.toNat false) := rfl
        have hk0 : (0 : Int) ≤ (k : Int) := by omega
        have hki : (k : Int) < (n : Int) := by omega
        have hbw : b < wr.heap.size := by have := hbl.size; omega
        clear r3 hrg hlen HR
        generalize bag[k] = x at *
        have HB : Hid _ := hbl
        go_wp2_with (refine wpList_load_mid rfl 115 _ rfl _ _ (by rfl) cs _ HG.out Tryz.underlying115 rfl HI.out ?_)
        refine (HC.out _).mono ?_
        rintro e w1 ⟨rfl, hb1⟩
        have HB1 : Hid (Below w.heap.size w w1) := HB.out.trans (hb1.mono HB.out.size)
        replace hc0 := (hb1.cell (p := ⟨b, off + k * 12, none⟩) hbw).trans hc0
        clear k0 k1 hb1 HC HG HI
        obtain ⟨k0, k1⟩ := HKP.out w1 HB1.out
        by_cases hs : sgF x = 0
        · obtain ⟨p0, p1⟩ := HOK.out hs
          obtain ⟨pn, hpn⟩ : ∃ pn : Nat, x.1 = pn := ⟨x.1.toNat, by omega⟩
          have hdc := HDC.out w1 HB1.out pn (by omega)
          have hdd := HDD.out
          rw [hpn] at hc0 hdd
          have e0 : ((pn : Int)).toNat = pn := by omega
          rw [e0] at hdd
          have hst := HST.out
          rw [if_neg (by simp [hs])] at hst
          have q0 : (0 : Int) ≤ (pn : Int) := by omega
          have q1 : (pn : Int) < 3 := by omega
          rw [← hdd] at hdc
          rw [hs]
          have hbl1 := HB1.out
          cases hdx : deadAt dead x with
          | true =>
            rw [hdx] at hdc
            rw [if_pos hdx] at hst
            subst hst
            clear HST hdd hdx HOK HDD hpn
            go_wp2_with fail
            go_quiet (fail)
            go_wp2_with fail
            go_ret
            exact ⟨rfl, below_drewN HB1.out _⟩
          | false =>
            rw [hdx] at hdc
            rw [if_neg (by simp [hdx])] at hst
            have HR2 : Hid (carF dead (bag.drop (k + 1)) = R) := hst.symm
            clear HST hdd hdx HOK HDD hpn hst
            go_wp2_with fail
            go_quiet (fail)
            go_wp2_with fail
            go_roundw
            case rel => exact ⟨k + 1, by omega, by go_num, HR2, below_drewN HB1.out _⟩
            case measure => simp [intOf]; omega
        · have hst := HST.out
          rw [if_pos hs] at hst
          have hs' : (sgF x != 0) = true := by simp [hs]
          have hs2 : (sgF x == 0) = false := by simp [hs]
          have HST2 : Hid (sgF x = R) := hst.symm
          clear HST hst HOK
          generalize sgF x = q at *
          go_wp2_with fail
          go_ret
          exact ⟨ret_int HST2.out, HB1.out⟩
      · obtain rfl : k = n := by omega
        have hr := HR.out
        rw [List.drop_of_length_le (by have := HN.out; omega)] at hr
        have : R = 0 := hr.symm
        subst this
        go_wp2_with fail
        go_ret
        exact ⟨rfl, hbl⟩
  · have : R = 1 := by rw [hR]; unfold netF; rw [if_neg h60, if_pos h3]
    subst this
    have h60' : decide ((60 : Int) < (bag.length : Int)) = false := by simp; omega
    have h3' : ((dead.length : Int) != 3) = true := by simp; omega
    have h3'' : ((dead.length : Int) == 3) = false := by simp; omega
    clear hb hd hR
    generalize bag.length = n at *
    generalize dead.length = m at *
    go_enter Tryz.func31, Tryz.ntmps31
    go_wp2_with fail
    go_ret
    exact ⟨rfl, Below.refl _ _⟩
end Go.Proofs.YtfpemobkkfobkaaGreatDoor

/- Values of type World, a value as one of 6 cells: what is read, what is owned, and what the law's own helpers (measure, copy, compare) make of them; no condition but that there are at most a million parts. Written by mkc.py. -/
namespace Go.Proofs.YtfpemobkkfobkaaGreatDoor
open Go.RowKit
set_option linter.unusedVariables false
set_option maxRecDepth 8000

abbrev shWorld : Sh := .cons (.int .i64) (.cons shConns (.cons shNet (.cons shBss (.cons (bls 4) (.nil)))))
abbrev DWorld : Type := Int × (List DConn) × (DNet) × (List (List Int)) × (List Bool) × Unit
def totWorld (x : DWorld) : Nat := totConns x.2.1 + totNet x.2.2.1 + totBss x.2.2.2.1 + x.2.2.2.2.1.length
/-- The numbers of one fit. -/
def WorldWf (x : DWorld) : Prop := (Lit.int .i64 x.1).wf = true
theorem rd_World {w : World} {B : Nat} {y0 : Int} {d1 : (List DConn)} {d2 : (DNet)} {d3 : (List (List Int))} {d4 : (List Bool)} {cs : List Value} (h : shWorld.Rd w B (y0, d1, d2, d3, d4, ()) cs) : ∃ (a1xa : Option Addr) (a1xc : Nat) (a2xa : Option Addr) (a2xc : Nat) (a2ya : Option Addr) (a2yc : Nat) (a3xa : Option Addr) (a3xc : Nat) (a4xa : Option Addr) (a4xc : Nat), cs = [.int .i64 y0, .slice a1xa d1.length a1xc, .slice a2xa d2.1.length a2xc, .slice a2ya d2.2.1.length a2yc, .slice a3xa d3.length a3xc, .slice a4xa d4.length a4xc] ∧ shConns.Rd w B d1 [.slice a1xa d1.length a1xc] ∧ shNet.Rd w B d2 [.slice a2xa d2.1.length a2xc, .slice a2ya d2.2.1.length a2yc] ∧ shBss.Rd w B d3 [.slice a3xa d3.length a3xc] ∧ (bls 4).Rd w B d4 [.slice a4xa d4.length a4xc] ∧ WorldWf (y0, d1, d2, d3, d4, ()) := by
  obtain ⟨p0, q0, e0, ⟨g0, w0⟩, p1, q1, e1, h1, p2, q2, e2, h2, p3, q3, e3, h3, p4, q4, e4, h4, hz⟩ := h
  have hz' : q4 = [] := hz
  obtain ⟨a1xa, a1xc, f1⟩ := row_form h1
  subst f1
  obtain ⟨a2xa, a2xc, a2ya, a2yc, f2, -, -⟩ := rd_NetD h2
  subst f2
  obtain ⟨a3xa, a3xc, f3⟩ := row_form h3
  subst f3
  obtain ⟨a4xa, a4xc, f4⟩ := row_form h4
  subst f4
  refine ⟨a1xa, a1xc, a2xa, a2xc, a2ya, a2yc, a3xa, a3xc, a4xa, a4xc, ?_, h1, h2, h3, h4, w0⟩
  rw [e0, g0, e1, e2, e3, e4, hz']
  rfl
theorem own_World {w : World} {lo hi m1 m2 m3 : Nat} {y0 : Int} {d1 : (List DConn)} {d2 : (DNet)} {d3 : (List (List Int))} {d4 : (List Bool)} {a1xa : Option Addr} {a1xc : Nat} {a2xa : Option Addr} {a2xc : Nat} {a2ya : Option Addr} {a2yc : Nat} {a3xa : Option Addr} {a3xc : Nat} {a4xa : Option Addr} {a4xc : Nat} (h1 : Own w lo m1 shConns d1 [.slice a1xa d1.length a1xc]) (h2 : Own w m1 m2 shNet d2 [.slice a2xa d2.1.length a2xc, .slice a2ya d2.2.1.length a2yc]) (h3 : Own w m2 m3 shBss d3 [.slice a3xa d3.length a3xc]) (h4 : Own w m3 hi (bls 4) d4 [.slice a4xa d4.length a4xc]) (l0 : lo ≤ m1) (l1 : m1 ≤ m2) (l2 : m2 ≤ m3) (l3 : m3 ≤ hi) (hw : WorldWf (y0, d1, d2, d3, d4, ())) : Own w lo hi shWorld (y0, d1, d2, d3, d4, ()) [.int .i64 y0, .slice a1xa d1.length a1xc, .slice a2xa d2.1.length a2xc, .slice a2ya d2.2.1.length a2yc, .slice a3xa d3.length a3xc, .slice a4xa d4.length a4xc] := by
  have w0 := hw
  have LE4 : hi ≤ hi := Nat.le_refl _
  have LE0 : lo ≤ hi := by omega
  have LE1 : m1 ≤ hi := by omega
  have LE2 : m2 ≤ hi := by omega
  have LE3 : m3 ≤ hi := by omega
  exact hOwnCons (hOwnInt w lo lo w0) (hOwnCons h1 (hOwnCons h2 (hOwnCons h3 (hOwnCons h4 (hOwnNil w hi hi) l3 LE4) l2 LE3) l1 LE2) l0 LE1) (Nat.le_refl _) LE0

set_option maxHeartbeats 4000000 in
theorem lSzWorld (x : DWorld) (A : Array Value) (left : Int) (w : World) (B : Nat) (hr : shWorld.Rd w B x A.toList) (hB : B ≤ w.heap.size) (h0 : 0 ≤ left) (h1 : left ≤ 1048576) :
    Calls Tryz.prog 4 #[.agg A, .int .i64 left] w fun e w' => e = .returned (.int .i64 (if left < totWorld x then -1 else left - totWorld x)) ∧ Below w.heap.size w w' := by
  obtain ⟨y0, d1, d2, d3, d4, ⟨⟩⟩ := x
  obtain ⟨a1xa, a1xc, a2xa, a2xc, a2ya, a2yc, a3xa, a3xc, a4xa, a4xc, eA, r1, r2, r3, r4, -⟩ := rd_World hr
  obtain ⟨n1xn, hn1x⟩ : ∃ n, d1.length = n := ⟨_, rfl⟩
  obtain ⟨n2xn, hn2x⟩ : ∃ n, d2.1.length = n := ⟨_, rfl⟩
  obtain ⟨n2yn, hn2y⟩ : ∃ n, d2.2.1.length = n := ⟨_, rfl⟩
  obtain ⟨n3xn, hn3x⟩ : ∃ n, d3.length = n := ⟨_, rfl⟩
  obtain ⟨n4xn, hn4x⟩ : ∃ n, d4.length = n := ⟨_, rfl⟩
  simp only [hn1x, hn2x, hn2y, hn3x, hn4x] at eA r1 r2 r3 r4
  have a1 : A[1]? = some (.slice a1xa n1xn a1xc) := get_of eA 1
  have a2 : A[2]? = some (.slice a2xa n2xn a2xc) := get_of eA 2
  have a3 : A[3]? = some (.slice a2ya n2yn a2yc) := get_of eA 3
  have a4 : A[4]? = some (.slice a3xa n3xn a3xc) := get_of eA 4
  have a5 : A[5]? = some (.slice a4xa n4xn a4xc) := get_of eA 5
  have H1 : Hid (∀ (l : Int) W, 0 ≤ l → l ≤ 1048576 → Below w.heap.size w W → Calls Tryz.prog 10 #[.slice a1xa n1xn a1xc, .int .i64 l] W fun e w' => e = .returned (.int .i64 (if l < ((totConns d1 : Nat) : Int) then -1 else l - ((totConns d1 : Nat) : Int))) ∧ Below W.heap.size W w') := fun l W g0 g1 hW => lSzConns d1 (.slice a1xa n1xn a1xc) l W B (Sh.Rd.below r1 hB hW) (Nat.le_trans hB hW.size) g0 g1
  have H2 : Hid (∀ (l : Int) W, 0 ≤ l → l ≤ 1048576 → Below w.heap.size w W → Calls Tryz.prog 11 #[.agg #[.slice a2xa n2xn a2xc, .slice a2ya n2yn a2yc], .int .i64 l] W fun e w' => e = .returned (.int .i64 (if l < ((totNet d2 : Nat) : Int) then -1 else l - ((totNet d2 : Nat) : Int))) ∧ Below W.heap.size W w') := fun l W g0 g1 hW => lSzNetU d2 (.slice a2xa n2xn a2xc) (.slice a2ya n2yn a2yc) l W B (Sh.Rd.below r2 hB hW) (Nat.le_trans hB hW.size) g0 g1
  have H3 : Hid (∀ (l : Int) W, 0 ≤ l → l ≤ 1048576 → Below w.heap.size w W → Calls Tryz.prog 12 #[.slice a3xa n3xn a3xc, .int .i64 l] W fun e w' => e = .returned (.int .i64 (if l < ((totBss d3 : Nat) : Int) then -1 else l - ((totBss d3 : Nat) : Int))) ∧ Below W.heap.size W w') := fun l W g0 g1 hW => lSzBss d3 (.slice a3xa n3xn a3xc) l W B (Sh.Rd.below r3 hB hW) (Nat.le_trans hB hW.size) g0 g1
  have H4 : Hid (∀ (l : Int) W, 0 ≤ l → l ≤ 1048576 → Below w.heap.size w W → Calls Tryz.prog 13 #[.slice a4xa n4xn a4xc, .int .i64 l] W fun e w' => e = .returned (.int .i64 (if l < ((d4.length : Nat) : Int) then -1 else l - ((d4.length : Nat) : Int))) ∧ Below W.heap.size W w') := fun l W g0 g1 hW => lSzBoolsU d4 (.slice a4xa n4xn a4xc) l W B (Sh.Rd.below r4 hB hW) (Nat.le_trans hB hW.size) g0 g1
  have ht : totWorld (y0, d1, d2, d3, d4, ()) = totConns d1 + totNet d2 + totBss d3 + d4.length := rfl
  rw [ht]
  clear hr eA ht r1 r2 r3 r4 hn1x hn2x hn2y hn3x hn4x
  generalize totConns d1 = N1 at *
  generalize totNet d2 = N2 at *
  generalize totBss d3 = N3 at *
  generalize d4.length = N4 at *
  have G1 := H1.out (left)
  by_cases c1 : left < (N1 : Int)
  · simp only [if_pos c1] at G1
    have K1 : Hid _ := G1
    clear G1
    rw [if_pos (by omega)]
    clear H1 H2 H3 H4
    go_enter Tryz.func4, Tryz.ntmps4
    go_wp2_with fail
    refine (K1.out _ (by omega) (by omega) (by go_grown)).mono ?_
    rintro e w1 ⟨rfl, hb⟩
    have k0 := bx_new hb
    obtain ⟨hb, z0⟩ := bl_new hb
    have HB : Hid (Below w.heap.size w w1) := hb
    clear hb
    go_wp2_with fail
    go_ret
    exact ⟨ret_int (by omega), HB.out⟩
  · simp only [if_neg c1] at G1
    have K1 : Hid _ := G1
    clear G1
    have s1 : ¬ (left - (N1 : Int) < 0) := by omega
    have G2 := H2.out (left - (N1 : Int))
    by_cases c2 : left - (N1 : Int) < (N2 : Int)
    · simp only [if_pos c2] at G2
      have K2 : Hid _ := G2
      clear G2
      rw [if_pos (by omega)]
      clear H1 H2 H3 H4
      go_enter Tryz.func4, Tryz.ntmps4
      go_wp2_with fail
      refine (K1.out _ (by omega) (by omega) (by go_grown)).mono ?_
      rintro e w1 ⟨rfl, hb⟩
      have k0 := bx_new hb
      obtain ⟨hb, z0⟩ := bl_new hb
      have HB : Hid (Below w.heap.size w w1) := hb
      clear hb
      go_wp2_with fail
      refine (K2.out _ (by omega) (by omega) HB.out).mono ?_
      rintro e w2 ⟨rfl, hb⟩
      replace k0 := bx_below k0 z0 hb
      replace z0 := Nat.lt_of_lt_of_le z0 hb.size
      replace HB : Hid (Below w.heap.size w w2) := HB.out.trans (hb.mono HB.out.size)
      clear hb
      go_wp2_with fail
      go_ret
      exact ⟨ret_int (by omega), HB.out⟩
    · simp only [if_neg c2] at G2
      have K2 : Hid _ := G2
      clear G2
      have s2 : ¬ (left - (N1 : Int) - (N2 : Int) < 0) := by omega
      have G3 := H3.out (left - (N1 : Int) - (N2 : Int))
      by_cases c3 : left - (N1 : Int) - (N2 : Int) < (N3 : Int)
      · simp only [if_pos c3] at G3
        have K3 : Hid _ := G3
        clear G3
        rw [if_pos (by omega)]
        clear H1 H2 H3 H4
        go_enter Tryz.func4, Tryz.ntmps4
        go_wp2_with fail
        refine (K1.out _ (by omega) (by omega) (by go_grown)).mono ?_
        rintro e w1 ⟨rfl, hb⟩
        have k0 := bx_new hb
        obtain ⟨hb, z0⟩ := bl_new hb
        have HB : Hid (Below w.heap.size w w1) := hb
        clear hb
        go_wp2_with fail
        refine (K2.out _ (by omega) (by omega) HB.out).mono ?_
        rintro e w2 ⟨rfl, hb⟩
        replace k0 := bx_below k0 z0 hb
        replace z0 := Nat.lt_of_lt_of_le z0 hb.size
        replace HB : Hid (Below w.heap.size w w2) := HB.out.trans (hb.mono HB.out.size)
        clear hb
        go_wp2_with fail
        refine (K3.out _ (by omega) (by omega) HB.out).mono ?_
        rintro e w3 ⟨rfl, hb⟩
        replace k0 := bx_below k0 z0 hb
        replace z0 := Nat.lt_of_lt_of_le z0 hb.size
        replace HB : Hid (Below w.heap.size w w3) := HB.out.trans (hb.mono HB.out.size)
        clear hb
        go_wp2_with fail
        go_ret
        exact ⟨ret_int (by omega), HB.out⟩
      · simp only [if_neg c3] at G3
        have K3 : Hid _ := G3
        clear G3
        have s3 : ¬ (left - (N1 : Int) - (N2 : Int) - (N3 : Int) < 0) := by omega
        have G4 := H4.out (left - (N1 : Int) - (N2 : Int) - (N3 : Int))
        by_cases c4 : left - (N1 : Int) - (N2 : Int) - (N3 : Int) < (N4 : Int)
        · simp only [if_pos c4] at G4
          have K4 : Hid _ := G4
          clear G4
          rw [if_pos (by omega)]
          clear H1 H2 H3 H4
          go_enter Tryz.func4, Tryz.ntmps4
          go_wp2_with fail
          refine (K1.out _ (by omega) (by omega) (by go_grown)).mono ?_
          rintro e w1 ⟨rfl, hb⟩
          have k0 := bx_new hb
          obtain ⟨hb, z0⟩ := bl_new hb
          have HB : Hid (Below w.heap.size w w1) := hb
          clear hb
          go_wp2_with fail
          refine (K2.out _ (by omega) (by omega) HB.out).mono ?_
          rintro e w2 ⟨rfl, hb⟩
          replace k0 := bx_below k0 z0 hb
          replace z0 := Nat.lt_of_lt_of_le z0 hb.size
          replace HB : Hid (Below w.heap.size w w2) := HB.out.trans (hb.mono HB.out.size)
          clear hb
          go_wp2_with fail
          refine (K3.out _ (by omega) (by omega) HB.out).mono ?_
          rintro e w3 ⟨rfl, hb⟩
          replace k0 := bx_below k0 z0 hb
          replace z0 := Nat.lt_of_lt_of_le z0 hb.size
          replace HB : Hid (Below w.heap.size w w3) := HB.out.trans (hb.mono HB.out.size)
          clear hb
          go_wp2_with fail
          refine (K4.out _ (by omega) (by omega) HB.out).mono ?_
          rintro e w4 ⟨rfl, hb⟩
          replace k0 := bx_below k0 z0 hb
          replace z0 := Nat.lt_of_lt_of_le z0 hb.size
          replace HB : Hid (Below w.heap.size w w4) := HB.out.trans (hb.mono HB.out.size)
          clear hb
          go_wp2_with fail
          go_ret
          exact ⟨ret_int (by omega), HB.out⟩
        · simp only [if_neg c4] at G4
          have K4 : Hid _ := G4
          clear G4
          have s4 : ¬ (left - (N1 : Int) - (N2 : Int) - (N3 : Int) - (N4 : Int) < 0) := by omega
          rw [if_neg (by omega)]
          clear H1 H2 H3 H4
          go_enter Tryz.func4, Tryz.ntmps4
          go_wp2_with fail
          refine (K1.out _ (by omega) (by omega) (by go_grown)).mono ?_
          rintro e w1 ⟨rfl, hb⟩
          have k0 := bx_new hb
          obtain ⟨hb, z0⟩ := bl_new hb
          have HB : Hid (Below w.heap.size w w1) := hb
          clear hb
          go_wp2_with fail
          refine (K2.out _ (by omega) (by omega) HB.out).mono ?_
          rintro e w2 ⟨rfl, hb⟩
          replace k0 := bx_below k0 z0 hb
          replace z0 := Nat.lt_of_lt_of_le z0 hb.size
          replace HB : Hid (Below w.heap.size w w2) := HB.out.trans (hb.mono HB.out.size)
          clear hb
          go_wp2_with fail
          refine (K3.out _ (by omega) (by omega) HB.out).mono ?_
          rintro e w3 ⟨rfl, hb⟩
          replace k0 := bx_below k0 z0 hb
          replace z0 := Nat.lt_of_lt_of_le z0 hb.size
          replace HB : Hid (Below w.heap.size w w3) := HB.out.trans (hb.mono HB.out.size)
          clear hb
          go_wp2_with fail
          refine (K4.out _ (by omega) (by omega) HB.out).mono ?_
          rintro e w4 ⟨rfl, hb⟩
          replace k0 := bx_below k0 z0 hb
          replace z0 := Nat.lt_of_lt_of_le z0 hb.size
          replace HB : Hid (Below w.heap.size w w4) := HB.out.trans (hb.mono HB.out.size)
          clear hb
          go_wp2_with fail
          go_ret
          exact ⟨ret_int (by omega), HB.out⟩

theorem info_WorldI : (Tryz.prog.info? 39).map (·.size) = some 6 := by kernel_rfl
set_option maxHeartbeats 8000000 in
theorem lToWorld (x : DWorld) (A : Array Value) (w : World) (B : Nat) (hr : shWorld.Rd w B x A.toList) (hB : B ≤ w.heap.size) (hT : totWorld x ≤ 1048576) :
    Calls Tryz.prog 6 #[.agg A] w fun e w' => ∃ A', e = .returned (.agg A') ∧ Own w' w.heap.size w'.heap.size shWorld x A'.toList ∧ Below w.heap.size w w' := by
  obtain ⟨y0, d1, d2, d3, d4, ⟨⟩⟩ := x
  obtain ⟨a1xa, a1xc, a2xa, a2xc, a2ya, a2yc, a3xa, a3xc, a4xa, a4xc, eA, r1, r2, r3, r4, hwf⟩ := rd_World hr
  obtain ⟨n1xn, hn1x⟩ : ∃ n, d1.length = n := ⟨_, rfl⟩
  obtain ⟨n2xn, hn2x⟩ : ∃ n, d2.1.length = n := ⟨_, rfl⟩
  obtain ⟨n2yn, hn2y⟩ : ∃ n, d2.2.1.length = n := ⟨_, rfl⟩
  obtain ⟨n3xn, hn3x⟩ : ∃ n, d3.length = n := ⟨_, rfl⟩
  obtain ⟨n4xn, hn4x⟩ : ∃ n, d4.length = n := ⟨_, rfl⟩
  simp only [hn1x, hn2x, hn2y, hn3x, hn4x] at eA r1 r2 r3 r4
  have a0 : A[0]? = some (.int .i64 y0) := get_of eA 0
  have a1 : A[1]? = some (.slice a1xa n1xn a1xc) := get_of eA 1
  have a2 : A[2]? = some (.slice a2xa n2xn a2xc) := get_of eA 2
  have a3 : A[3]? = some (.slice a2ya n2yn a2yc) := get_of eA 3
  have a4 : A[4]? = some (.slice a3xa n3xn a3xc) := get_of eA 4
  have a5 : A[5]? = some (.slice a4xa n4xn a4xc) := get_of eA 5
  have ht : totConns d1 + totNet d2 + totBss d3 + d4.length ≤ 1048576 := hT
  have H1 : Hid (∀ W, Below w.heap.size w W → Calls Tryz.prog 16 #[.slice a1xa n1xn a1xc] W fun e w' => ∃ u, e = .returned (u) ∧ Own w' W.heap.size w'.heap.size shConns d1 [u] ∧ Below W.heap.size W w') := fun W hW => lToConns d1 (.slice a1xa n1xn a1xc) W B (Sh.Rd.below r1 hB hW) (Nat.le_trans hB hW.size) (by omega)
  have H2 : Hid (∀ W, Below w.heap.size w W → Calls Tryz.prog 17 #[.agg #[.slice a2xa n2xn a2xc, .slice a2ya n2yn a2yc]] W fun e w' => ∃ u1 u2, e = .returned (.agg #[u1, u2]) ∧ Own w' W.heap.size w'.heap.size shNet d2 [u1, u2] ∧ Below W.heap.size W w') := fun W hW => lToNetU d2 (.slice a2xa n2xn a2xc) (.slice a2ya n2yn a2yc) W B (Sh.Rd.below r2 hB hW) (Nat.le_trans hB hW.size) (by omega)
  have H3 : Hid (∀ W, Below w.heap.size w W → Calls Tryz.prog 18 #[.slice a3xa n3xn a3xc] W fun e w' => ∃ u, e = .returned (u) ∧ Own w' W.heap.size w'.heap.size shBss d3 [u] ∧ Below W.heap.size W w') := fun W hW => lToBss d3 (.slice a3xa n3xn a3xc) W B (Sh.Rd.below r3 hB hW) (Nat.le_trans hB hW.size) (by omega)
  have H4 : Hid (∀ W, Below w.heap.size w W → Calls Tryz.prog 19 #[.slice a4xa n4xn a4xc] W fun e w' => ∃ u, e = .returned (u) ∧ Own w' W.heap.size w'.heap.size (bls 4) d4 [u] ∧ Below W.heap.size W w') := fun W hW => lToBoolsU d4 (.slice a4xa n4xn a4xc) W B (Sh.Rd.below r4 hB hW) (Nat.le_trans hB hW.size) (by omega)
  have HWF : Hid _ := hwf
  have HN1x : Hid (d1.length = n1xn) := hn1x
  have HN2x : Hid (d2.1.length = n2xn) := hn2x
  have HN2y : Hid (d2.2.1.length = n2yn) := hn2y
  have HN3x : Hid (d3.length = n3xn) := hn3x
  have HN4x : Hid (d4.length = n4xn) := hn4x
  clear hr hwf ht hT hB eA r1 r2 r3 r4 hn1x hn2x hn2y hn3x hn4x
  go_enter Tryz.func6, Tryz.ntmps6
  go_wp2_with fail
  refine (H1.out _ (by go_grown)).mono ?_
  rintro e w1 ⟨u, rfl, ho, hb⟩
  have j0 : ∀ o, w1.cell? ⟨w.heap.size, o, none⟩ = A[o]? := fun o => by rw [hb.cell (p := ⟨w.heap.size, o, none⟩) (by simp; omega)]; simp [go_sem]
  have j1 : ∀ o, w1.cell? ⟨w.heap.size + 1, o, none⟩ = (#[.int .i64 0, .slice none 0 0, .slice none 0 0, .slice none 0 0, .slice none 0 0, .slice none 0 0] : Array Value)[o]? := fun o => by rw [hb.cell (p := ⟨w.heap.size + 1, o, none⟩) (by simp)]; simp [go_sem]
  have j2 : ∀ o, w1.cell? ⟨w.heap.size + 1 + 1, o, none⟩ = (#[.int .i64 y0, .slice none 0 0, .slice none 0 0, .slice none 0 0, .slice none 0 0, .slice none 0 0] : Array Value)[o]? := fun o => by
    rw [hb.cell (p := ⟨w.heap.size + 1 + 1, o, none⟩) (by simp)]
    match o with
    | 0 => simp [go_sem] | 1 => simp [go_sem] | 2 => simp [go_sem] | 3 => simp [go_sem] | 4 => simp [go_sem] | 5 => simp [go_sem]
    | o + 6 => simp [go_sem]
  have f1 : ∀ o, w1.frozen? ⟨w.heap.size + 1, o, none⟩ = false := fun o => by rw [hb.frozen (p := ⟨w.heap.size + 1, o, none⟩) (by simp)]; simp [go_sem]
  have f2 : ∀ o, w1.frozen? ⟨w.heap.size + 1 + 1, o, none⟩ = false := fun o => by rw [hb.frozen (p := ⟨w.heap.size + 1 + 1, o, none⟩) (by simp)]; simp [go_sem]
  have HB : Hid (Below w.heap.size w w1) := Below.trans (by go_grown) (hb.mono (by simp; omega))
  have z1 : w.heap.size + 1 + 1 < w1.heap.size := by have := hb.size; simp at this; omega
  have HO1 : Hid (Own w1 (w.heap.size + 1 + 1 + 1) w1.heap.size shConns d1 [u]) := Own.mono ho (by simp) (Nat.le_refl _)
  obtain ⟨b1xa, b1xc, eu⟩ := row_form (ho.rd (Nat.le_refl _))
  simp only [List.cons.injEq, and_true, HN1x.out] at eu
  subst eu
  clear ho hb H1
  go_wp2_with fail
  refine (H2.out _ (by have h := HB.out; clear j0 j1 j2 f1 f2 HO1; go_grown)).mono ?_
  rintro e w2 ⟨u1, u2, rfl, ho, hb⟩
  have z2 : w1.heap.size ≤ w2.heap.size := by have := hb.size; simpa using this
  have zz2 : w.heap.size + 1 + 1 < w2.heap.size := by omega
  replace j0 : ∀ o, w2.cell? ⟨w.heap.size, o, none⟩ = A[o]? := fun o => (hb.cell (p := ⟨w.heap.size, o, none⟩) (by simp; omega)).trans ((bx_off j0 (by omega)) o)
  replace j1 : ∀ o, w2.cell? ⟨w.heap.size + 1, o, none⟩ = _ := fun o => (hb.cell (p := ⟨w.heap.size + 1, o, none⟩) (by simp; omega)).trans ((bx_off j1 (by omega)) o)
  replace j2 := (bx_put j2 (k := 1) (v := .slice b1xa n1xn b1xc) (by simp))
  simp only [List.setIfInBounds_toArray, List.set_cons_zero, List.set_cons_succ] at j2
  replace j2 : ∀ o, w2.cell? ⟨w.heap.size + 1 + 1, o, none⟩ = _ := fun o => (hb.cell (p := ⟨w.heap.size + 1 + 1, o, none⟩) (by simp; omega)).trans (j2 o)
  replace f1 : ∀ o, w2.frozen? ⟨w.heap.size + 1, o, none⟩ = false := fun o => by rw [hb.frozen (p := ⟨w.heap.size + 1, o, none⟩) (by simp; omega)]; simpa using f1 o
  replace f2 : ∀ o, w2.frozen? ⟨w.heap.size + 1 + 1, o, none⟩ = false := fun o => by rw [hb.frozen (p := ⟨w.heap.size + 1 + 1, o, none⟩) (by simp; omega)]; simpa using f2 o
  replace HO1 : Hid (Own w2 (w.heap.size + 1 + 1 + 1) w1.heap.size shConns d1 [.slice b1xa n1xn b1xc]) := Own.keep HO1.out (fun b h1 h2 => by rw [hb.block b (by simp; omega)]; repeat rw [Below.heap_setCell _ _ _ _ (by dsimp only; omega)])
  have HO2 : Hid (Own w2 w1.heap.size w2.heap.size shNet d2 [u1, u2]) := Own.mono ho (by simp) (Nat.le_refl _)
  replace HB : Hid (Below w.heap.size w w2) := (Below.setCell HB.out (by dsimp only; omega) _).trans (hb.mono (by simp; omega))
  obtain ⟨b2xa, b2xc, b2ya, b2yc, eu, -, -⟩ := rd_NetD (ho.rd (Nat.le_refl _))
  simp only [List.cons.injEq, and_true, HN2x.out, HN2y.out] at eu
  obtain ⟨rfl, rfl⟩ := eu
  clear ho hb H2
  go_wp2_with fail
  refine (H3.out _ (by have h := HB.out; clear j0 j1 j2 f1 f2 HO1 HO2; go_grown)).mono ?_
  rintro e w3 ⟨u, rfl, ho, hb⟩
  have z3 : w2.heap.size ≤ w3.heap.size := by have := hb.size; simpa using this
  have zz3 : w.heap.size + 1 + 1 < w3.heap.size := by omega
  replace j0 : ∀ o, w3.cell? ⟨w.heap.size, o, none⟩ = A[o]? := fun o => (hb.cell (p := ⟨w.heap.size, o, none⟩) (by simp; omega)).trans ((bx_off (bx_off j0 (by omega)) (by omega)) o)
  replace j1 : ∀ o, w3.cell? ⟨w.heap.size + 1, o, none⟩ = _ := fun o => (hb.cell (p := ⟨w.heap.size + 1, o, none⟩) (by simp; omega)).trans ((bx_off (bx_off j1 (by omega)) (by omega)) o)
  replace j2 := (bx_put (bx_put j2 (k := 2) (v := .slice b2xa n2xn b2xc) (by simp)) (k := 3) (v := .slice b2ya n2yn b2yc) (by simp))
  simp only [List.setIfInBounds_toArray, List.set_cons_zero, List.set_cons_succ] at j2
  replace j2 : ∀ o, w3.cell? ⟨w.heap.size + 1 + 1, o, none⟩ = _ := fun o => (hb.cell (p := ⟨w.heap.size + 1 + 1, o, none⟩) (by simp; omega)).trans (j2 o)
  replace f1 : ∀ o, w3.frozen? ⟨w.heap.size + 1, o, none⟩ = false := fun o => by rw [hb.frozen (p := ⟨w.heap.size + 1, o, none⟩) (by simp; omega)]; simpa using f1 o
  replace f2 : ∀ o, w3.frozen? ⟨w.heap.size + 1 + 1, o, none⟩ = false := fun o => by rw [hb.frozen (p := ⟨w.heap.size + 1 + 1, o, none⟩) (by simp; omega)]; simpa using f2 o
  replace HO1 : Hid (Own w3 (w.heap.size + 1 + 1 + 1) w1.heap.size shConns d1 [.slice b1xa n1xn b1xc]) := Own.keep HO1.out (fun b h1 h2 => by rw [hb.block b (by simp; omega)]; repeat rw [Below.heap_setCell _ _ _ _ (by dsimp only; omega)])
  replace HO2 : Hid (Own w3 (w1.heap.size) w2.heap.size shNet d2 [.slice b2xa n2xn b2xc, .slice b2ya n2yn b2yc]) := Own.keep HO2.out (fun b h1 h2 => by rw [hb.block b (by simp; omega)]; repeat rw [Below.heap_setCell _ _ _ _ (by dsimp only; omega)])
  have HO3 : Hid (Own w3 w2.heap.size w3.heap.size shBss d3 [u]) := Own.mono ho (by simp) (Nat.le_refl _)
  replace HB : Hid (Below w.heap.size w w3) := (Below.setCell (Below.setCell HB.out (by dsimp only; omega) _) (by dsimp only; omega) _).trans (hb.mono (by simp; omega))
  obtain ⟨b3xa, b3xc, eu⟩ := row_form (ho.rd (Nat.le_refl _))
  simp only [List.cons.injEq, and_true, HN3x.out] at eu
  subst eu
  clear ho hb H3
  go_wp2_with fail
  refine (H4.out _ (by have h := HB.out; clear j0 j1 j2 f1 f2 HO1 HO2 HO3; go_grown)).mono ?_
  rintro e w4 ⟨u, rfl, ho, hb⟩
  have z4 : w3.heap.size ≤ w4.heap.size := by have := hb.size; simpa using this
  have zz4 : w.heap.size + 1 + 1 < w4.heap.size := by omega
  replace j0 : ∀ o, w4.cell? ⟨w.heap.size, o, none⟩ = A[o]? := fun o => (hb.cell (p := ⟨w.heap.size, o, none⟩) (by simp; omega)).trans ((bx_off j0 (by omega)) o)
  replace j1 : ∀ o, w4.cell? ⟨w.heap.size + 1, o, none⟩ = _ := fun o => (hb.cell (p := ⟨w.heap.size + 1, o, none⟩) (by simp; omega)).trans ((bx_off j1 (by omega)) o)
  replace j2 := (bx_put j2 (k := 4) (v := .slice b3xa n3xn b3xc) (by simp))
  simp only [List.setIfInBounds_toArray, List.set_cons_zero, List.set_cons_succ] at j2
  replace j2 : ∀ o, w4.cell? ⟨w.heap.size + 1 + 1, o, none⟩ = _ := fun o => (hb.cell (p := ⟨w.heap.size + 1 + 1, o, none⟩) (by simp; omega)).trans (j2 o)
  replace f1 : ∀ o, w4.frozen? ⟨w.heap.size + 1, o, none⟩ = false := fun o => by rw [hb.frozen (p := ⟨w.heap.size + 1, o, none⟩) (by simp; omega)]; simpa using f1 o
  replace f2 : ∀ o, w4.frozen? ⟨w.heap.size + 1 + 1, o, none⟩ = false := fun o => by rw [hb.frozen (p := ⟨w.heap.size + 1 + 1, o, none⟩) (by simp; omega)]; simpa using f2 o
  replace HO1 : Hid (Own w4 (w.heap.size + 1 + 1 + 1) w1.heap.size shConns d1 [.slice b1xa n1xn b1xc]) := Own.keep HO1.out (fun b h1 h2 => by rw [hb.block b (by simp; omega)]; repeat rw [Below.heap_setCell _ _ _ _ (by dsimp only; omega)])
  replace HO2 : Hid (Own w4 (w1.heap.size) w2.heap.size shNet d2 [.slice b2xa n2xn b2xc, .slice b2ya n2yn b2yc]) := Own.keep HO2.out (fun b h1 h2 => by rw [hb.block b (by simp; omega)]; repeat rw [Below.heap_setCell _ _ _ _ (by dsimp only; omega)])
  replace HO3 : Hid (Own w4 (w2.heap.size) w3.heap.size shBss d3 [.slice b3xa n3xn b3xc]) := Own.keep HO3.out (fun b h1 h2 => by rw [hb.block b (by simp; omega)]; repeat rw [Below.heap_setCell _ _ _ _ (by dsimp only; omega)])
  have HO4 : Hid (Own w4 w3.heap.size w4.heap.size (bls 4) d4 [u]) := Own.mono ho (by simp) (Nat.le_refl _)
  replace HB : Hid (Below w.heap.size w w4) := (Below.setCell HB.out (by dsimp only; omega) _).trans (hb.mono (by simp; omega))
  obtain ⟨b4xa, b4xc, eu⟩ := row_form (ho.rd (Nat.le_refl _))
  simp only [List.cons.injEq, and_true, HN4x.out] at eu
  subst eu
  clear ho hb H4
  have q2 := (bx_put j2 (k := 5) (v := .slice b4xa n4xn b4xc) (by simp))
  simp only [List.setIfInBounds_toArray, List.set_cons_zero, List.set_cons_succ] at q2
  have q1 : ∀ o, (w4.setCell ⟨w.heap.size + 1 + 1, 5, none⟩ (.slice b4xa n4xn b4xc)).cell? ⟨w.heap.size + 1, o, none⟩ = _ := (bx_off j1 (by omega))
  have g1 : ∀ o, (w4.setCell ⟨w.heap.size + 1 + 1, 5, none⟩ (.slice b4xa n4xn b4xc)).frozen? ⟨w.heap.size + 1, o, none⟩ = false := fun o => by simpa using f1 o
  obtain ⟨L, hL⟩ : ∃ L : List Value, L = [.int .i64 y0, .slice b1xa n1xn b1xc, .slice b2xa n2xn b2xc, .slice b2ya n2yn b2yc, .slice b3xa n3xn b3xc, .slice b4xa n4xn b4xc] := ⟨_, rfl⟩
  have HL : Hid _ := hL
  have HRG : Hid ((w4.setCell ⟨w.heap.size + 1 + 1, 5, none⟩ (.slice b4xa n4xn b4xc)).rangeAt (w.heap.size + 1 + 1) 0 L) := by rw [hL]; exact bx_range (A := #[.int .i64 y0, .slice b1xa n1xn b1xc, .slice b2xa n2xn b2xc, .slice b2ya n2yn b2yc, .slice b3xa n3xn b3xc, .slice b4xa n4xn b4xc]) q2
  have HTH : Hid ((w4.setCell ⟨w.heap.size + 1 + 1, 5, none⟩ (.slice b4xa n4xn b4xc)).there (w.heap.size + 1) 0 L.toArray.size) := by rw [hL]; exact bx_there q1 g1 rfl
  have HI1 : Hid ((Tryz.prog.info? 39).map (·.size) = some L.length) := by rw [hL]; exact info_WorldI
  have HI2 : Hid ((Tryz.prog.info? 39).map (·.size) = some L.toArray.size) := by rw [hL]; exact info_WorldI
  have HONE : Hid (L.toArray.all (·.oneCell') = true) := by show _ = _; rw [hL]; simp [Value.oneCell']
  have HRES : Hid (∀ o, ((w4.setCell ⟨w.heap.size + 1 + 1, 5, none⟩ (.slice b4xa n4xn b4xc)).setCells (w.heap.size + 1) 0 L.toArray.toList).cell? ⟨w.heap.size + 1, o, none⟩ = L.toArray[o]?) := bx_setCells (A' := L.toArray) q1 (by rw [hL]; rfl)
  have HX1 : Hid (Own ((w4.setCell ⟨w.heap.size + 1 + 1, 5, none⟩ (.slice b4xa n4xn b4xc)).setCells (w.heap.size + 1) 0 L.toArray.toList) (w.heap.size + 1 + 1 + 1) w1.heap.size shConns d1 [.slice b1xa n1xn b1xc]) := Own.keep HO1.out (fun b h1 h2 => by rw [setCells_block (by omega)]; repeat rw [Below.heap_setCell _ _ _ _ (by dsimp only; omega)])
  have HX2 : Hid (Own ((w4.setCell ⟨w.heap.size + 1 + 1, 5, none⟩ (.slice b4xa n4xn b4xc)).setCells (w.heap.size + 1) 0 L.toArray.toList) (w1.heap.size) w2.heap.size shNet d2 [.slice b2xa n2xn b2xc, .slice b2ya n2yn b2yc]) := Own.keep HO2.out (fun b h1 h2 => by rw [setCells_block (by omega)]; repeat rw [Below.heap_setCell _ _ _ _ (by dsimp only; omega)])
  have HX3 : Hid (Own ((w4.setCell ⟨w.heap.size + 1 + 1, 5, none⟩ (.slice b4xa n4xn b4xc)).setCells (w.heap.size + 1) 0 L.toArray.toList) (w2.heap.size) w3.heap.size shBss d3 [.slice b3xa n3xn b3xc]) := Own.keep HO3.out (fun b h1 h2 => by rw [setCells_block (by omega)]; repeat rw [Below.heap_setCell _ _ _ _ (by dsimp only; omega)])
  have HX4 : Hid (Own ((w4.setCell ⟨w.heap.size + 1 + 1, 5, none⟩ (.slice b4xa n4xn b4xc)).setCells (w.heap.size + 1) 0 L.toArray.toList) (w3.heap.size) w4.heap.size (bls 4) d4 [.slice b4xa n4xn b4xc]) := Own.keep HO4.out (fun b h1 h2 => by rw [setCells_block (by omega)]; repeat rw [Below.heap_setCell _ _ _ _ (by dsimp only; omega)])
  have HBX : Hid (Below w.heap.size w ((w4.setCell ⟨w.heap.size + 1 + 1, 5, none⟩ (.slice b4xa n4xn b4xc)).setCells (w.heap.size + 1) 0 L.toArray.toList)) := setCells_below (by omega) _ _ _ _ (Below.setCell HB.out (by dsimp only; omega) _)
  have HSZ : Hid (((w4.setCell ⟨w.heap.size + 1 + 1, 5, none⟩ (.slice b4xa n4xn b4xc)).setCells (w.heap.size + 1) 0 L.toArray.toList).heap.size = w4.heap.size) := by show _ = _; rw [setCells_size]; simp
  clear q1 q2 g1 hL
  go_upto_region 7 with fail
  generalize hWX : (w4.setCell ⟨w.heap.size + 1 + 1, 5, none⟩ (.slice b4xa n4xn b4xc)) = WX at HRG HTH HRES HX1 HX2 HX3 HX4 HBX HSZ ⊢
  clear hWX j0 j1 j2 f1 f2 HB HO1 HO2 HO3 HO4
  clear a0 a1 a2 a3 a4 a5
  go_wp2_with (first | (refine wpList_load_mid rfl 39 _ rfl _ _ (by rfl) L _ HRG.out Tryz.underlying39 rfl HI1.out ?_) | (refine wpList_store_mid rfl 39 _ _ rfl _ _ L.toArray (by rfl) (by rfl) HTH.out HI2.out HONE.out ?_))
  refine bodyPost_ret (results_box Tryz.results6 _ _ _ L.toArray _ (by rfl) HRES.out Tryz.underlying39 rfl HI2.out) rfl ⟨_, rfl, ?_, HBX.out⟩
  rw [HSZ.out]
  refine Own.mono (lo := w.heap.size + 1 + 1 + 1) (hi := w4.heap.size) ?_ (by omega) (Nat.le_refl _)
  have eL := HL.out
  subst eL
  have E1x := HN1x.out
  subst E1x
  have E2x := HN2x.out
  subst E2x
  have E2y := HN2y.out
  subst E2y
  have E3x := HN3x.out
  subst E3x
  have E4x := HN4x.out
  subst E4x
  exact own_World HX1.out HX2.out HX3.out HX4.out (by omega) (by omega) (by omega) (by omega) HWF.out

set_option maxHeartbeats 8000000 in
theorem lEqWorld (x : DWorld) (A A' : Array Value) (w : World) (B : Nat) (hr : shWorld.Rd w B x A.toList) (hr' : shWorld.Rd w B x A'.toList) (hB : B ≤ w.heap.size) (hT : totWorld x ≤ 1048576) :
    Calls Tryz.prog 9 #[.agg A, .agg A'] w fun e w' => e = .returned (.bool true) ∧ Below w.heap.size w w' := by
  obtain ⟨y0, d1, d2, d3, d4, ⟨⟩⟩ := x
  obtain ⟨a1xa, a1xc, a2xa, a2xc, a2ya, a2yc, a3xa, a3xc, a4xa, a4xc, eA, r1, r2, r3, r4, -⟩ := rd_World hr
  obtain ⟨b1xa, b1xc, b2xa, b2xc, b2ya, b2yc, b3xa, b3xc, b4xa, b4xc, eB, s1, s2, s3, s4, -⟩ := rd_World hr'
  obtain ⟨n1xn, hn1x⟩ : ∃ n, d1.length = n := ⟨_, rfl⟩
  obtain ⟨n2xn, hn2x⟩ : ∃ n, d2.1.length = n := ⟨_, rfl⟩
  obtain ⟨n2yn, hn2y⟩ : ∃ n, d2.2.1.length = n := ⟨_, rfl⟩
  obtain ⟨n3xn, hn3x⟩ : ∃ n, d3.length = n := ⟨_, rfl⟩
  obtain ⟨n4xn, hn4x⟩ : ∃ n, d4.length = n := ⟨_, rfl⟩
  simp only [hn1x, hn2x, hn2y, hn3x, hn4x] at eA eB r1 r2 r3 r4 s1 s2 s3 s4
  have a0 : A[0]? = some (.int .i64 y0) := get_of eA 0
  have a1 : A[1]? = some (.slice a1xa n1xn a1xc) := get_of eA 1
  have a2 : A[2]? = some (.slice a2xa n2xn a2xc) := get_of eA 2
  have a3 : A[3]? = some (.slice a2ya n2yn a2yc) := get_of eA 3
  have a4 : A[4]? = some (.slice a3xa n3xn a3xc) := get_of eA 4
  have a5 : A[5]? = some (.slice a4xa n4xn a4xc) := get_of eA 5
  have b0 : A'[0]? = some (.int .i64 y0) := get_of eB 0
  have b1 : A'[1]? = some (.slice b1xa n1xn b1xc) := get_of eB 1
  have b2 : A'[2]? = some (.slice b2xa n2xn b2xc) := get_of eB 2
  have b3 : A'[3]? = some (.slice b2ya n2yn b2yc) := get_of eB 3
  have b4 : A'[4]? = some (.slice b3xa n3xn b3xc) := get_of eB 4
  have b5 : A'[5]? = some (.slice b4xa n4xn b4xc) := get_of eB 5
  have ht : totConns d1 + totNet d2 + totBss d3 + d4.length ≤ 1048576 := hT
  have H1 : Hid (∀ W, Below w.heap.size w W → Calls Tryz.prog 22 #[.slice a1xa n1xn a1xc, .slice b1xa n1xn b1xc] W fun e w' => e = .returned (.bool true) ∧ Below W.heap.size W w') := fun W hW => lEqConns d1 (.slice a1xa n1xn a1xc) (.slice b1xa n1xn b1xc) W B (Sh.Rd.below r1 hB hW) (Sh.Rd.below s1 hB hW) (Nat.le_trans hB hW.size) (by omega)
  have H2 : Hid (∀ W, Below w.heap.size w W → Calls Tryz.prog 23 #[.agg #[.slice a2xa n2xn a2xc, .slice a2ya n2yn a2yc], .agg #[.slice b2xa n2xn b2xc, .slice b2ya n2yn b2yc]] W fun e w' => e = .returned (.bool true) ∧ Below W.heap.size W w') := fun W hW => lEqNetU d2 (.slice a2xa n2xn a2xc) (.slice a2ya n2yn a2yc) (.slice b2xa n2xn b2xc) (.slice b2ya n2yn b2yc) W B (Sh.Rd.below r2 hB hW) (Sh.Rd.below s2 hB hW) (Nat.le_trans hB hW.size) (by omega)
  have H3 : Hid (∀ W, Below w.heap.size w W → Calls Tryz.prog 24 #[.slice a3xa n3xn a3xc, .slice b3xa n3xn b3xc] W fun e w' => e = .returned (.bool true) ∧ Below W.heap.size W w') := fun W hW => lEqBss d3 (.slice a3xa n3xn a3xc) (.slice b3xa n3xn b3xc) W B (Sh.Rd.below r3 hB hW) (Sh.Rd.below s3 hB hW) (Nat.le_trans hB hW.size) (by omega)
  have H4 : Hid (∀ W, Below w.heap.size w W → Calls Tryz.prog 25 #[.slice a4xa n4xn a4xc, .slice b4xa n4xn b4xc] W fun e w' => e = .returned (.bool true) ∧ Below W.heap.size W w') := fun W hW => lEqBoolsU d4 (.slice a4xa n4xn a4xc) (.slice b4xa n4xn b4xc) W B (Sh.Rd.below r4 hB hW) (Sh.Rd.below s4 hB hW) (Nat.le_trans hB hW.size) (by omega)
  clear hr hr' ht hT eA eB r1 r2 r3 r4 s1 s2 s3 s4 hn1x hn2x hn2y hn3x hn4x
  go_enter Tryz.func9, Tryz.ntmps9
  go_wp2_with fail
  refine (H1.out _ (by go_grown)).mono ?_
  rintro e w1 ⟨rfl, hb⟩
  have k0 : ∀ o, w1.cell? ⟨w.heap.size, o, none⟩ = A[o]? := fun o => by rw [hb.cell (p := ⟨w.heap.size, o, none⟩) (by simp; omega)]; simp [go_sem]
  have k1 : ∀ o, w1.cell? ⟨w.heap.size + 1, o, none⟩ = A'[o]? := fun o => by rw [hb.cell (p := ⟨w.heap.size + 1, o, none⟩) (by simp)]; simp [go_sem]
  have HB : Hid (Below w.heap.size w w1) := Below.trans (by go_grown) (hb.mono (by simp; omega))
  have z1 : w.heap.size + 1 < w1.heap.size := by have := hb.size; simp at this; omega
  clear hb H1
  go_wp2_with fail
  refine (H2.out _ HB.out).mono ?_
  rintro e w2 ⟨rfl, hb⟩
  replace k0 := bx_below k0 (by omega) hb
  replace k1 := bx_below k1 z1 hb
  replace z1 := Nat.lt_of_lt_of_le z1 hb.size
  replace HB : Hid (Below w.heap.size w w2) := HB.out.trans (hb.mono HB.out.size)
  clear hb H2
  go_wp2_with fail
  refine (H3.out _ HB.out).mono ?_
  rintro e w3 ⟨rfl, hb⟩
  replace k0 := bx_below k0 (by omega) hb
  replace k1 := bx_below k1 z1 hb
  replace z1 := Nat.lt_of_lt_of_le z1 hb.size
  replace HB : Hid (Below w.heap.size w w3) := HB.out.trans (hb.mono HB.out.size)
  clear hb H3
  go_wp2_with fail
  refine (H4.out _ HB.out).mono ?_
  rintro e w4 ⟨rfl, hb⟩
  replace k0 := bx_below k0 (by omega) hb
  replace k1 := bx_below k1 z1 hb
  replace z1 := Nat.lt_of_lt_of_le z1 hb.size
  replace HB : Hid (Below w.heap.size w w4) := HB.out.trans (hb.mono HB.out.size)
  clear hb H4
  go_wp2_with fail
  go_ret
  exact ⟨rfl, HB.out⟩
end Go.Proofs.YtfpemobkkfobkaaGreatDoor
