/- What the model answers of a sub: its fault, its room, what is stale; nothing that was in memory turns; no condition but that there are at most a million parts. -/
import Derived.Test.YtlicopeejphgaaoRows
import Derived.Test.YtlicopeejphgaaoBase
import Derived.Test.YtlicopeejphgaaoBytes
import Derived.Test.YtlicopeejphgaaoMem
import Derived.Test.YtlicopeejphgaaoHBase
import Derived.Test.YtlicopeejphgaaoHFlight
import Derived.Test.YtlicopeejphgaaoHSender
import Derived.Test.YtlicopeejphgaaoHSpan
import Derived.Test.YtlicopeejphgaaoHCatch
import Derived.Test.YtlicopeejphgaaoFlightDef
import Derived.Test.YtlicopeejphgaaoCatDef
import Derived.Test.YtlicopeejphgaaoCtrl
import Derived.Test.YtlicopeejphgaaoBox
import Derived.Test.YtlicopeejphgaaoSubBox
import Derived.Test.YtlicopeejphgaaoHSub
import Derived.Test.YtlicopeejphgaaoSubDef
import Derived.Test.YtlicopeejphgaaoSubSpec
import Derived.Deep.RegionHeld3
namespace Go.Proofs.Ytlicopeejphgaao
open Go.RowKit
set_option linter.unusedVariables false
set_option maxRecDepth 8000

set_option maxHeartbeats 1000000 in
theorem sL8Room (y0 y1 : Int) (y2 : Bool) (y3 y4 y5 s0 s1 s2 c0 c1 k0 k1 k2 : Int) (ua : Option Addr) (fn uc : Nat) (va : Option Addr) (sn vc sb of : Nat) (w : World)
    (hc : ∀ j, j < 16 → w.cell? ⟨sb, of + j, none⟩ = (#[.int .i64 y0, .int .i64 y1, .bool y2, .int .i64 y3, .int .i64 y4, .int .i64 y5, .int .i64 s0, .int .i64 s1, .int .i64 s2, .slice ua fn uc, .int .i64 c0, .int .i64 c1, .slice va sn vc, .int .i64 k0, .int .i64 k1, .int .i64 k2] : Array Value)[j]?) (h0 : 0 ≤ s2) (h1 : s2 ≤ s1) (h2 : s1 ≤ 1000000) (h3 : 8 ≤ k0) (h4 : k0 ≤ 64) (hm : fn ≤ 12) :
    Calls Try.prog 32 #[.pointer (some ⟨sb, of, none⟩)] w fun e w' => e = .returned (.int .i64 (if y1 = 3 ∧ fn < 12 then max 0 (k0 - (s1 - s2)) else 0)) ∧ Below w.heap.size w w' := by
  have x1 : w.cell? ⟨sb, of + 1, none⟩ = some (.int .i64 y1) := hc 1 (by decide)
  have x7 : w.cell? ⟨sb, of + 6 + 1, none⟩ = some (.int .i64 s1) := hc 7 (by decide)
  have x8 : w.cell? ⟨sb, of + 6 + 2, none⟩ = some (.int .i64 s2) := hc 8 (by decide)
  have x9 : w.cell? ⟨sb, of + 6 + 3, none⟩ = some (.slice ua fn uc) := hc 9 (by decide)
  have x13 : w.cell? ⟨sb, of + 8 + 5, none⟩ = some (.int .i64 k0) := hc 13 (by decide)
  have x13' : w.cell? ⟨sb, of + 13, none⟩ = some (.int .i64 k0) := x13
  clear hc
  by_cases a : y1 = 3
  · have a' : (y1 != 3) = false := by simp [a]
    by_cases b : fn < 12
    · rw [if_pos ⟨a, b⟩]
      have b' : decide ((12 : Int) ≤ (fn : Int)) = false := by simp; omega
      clear a
      go_enter Try.func32, Try.ntmps32
      go_wp2_with fail
      go_quiet ((go_at_call 77; exact Calls.quiet_of_same (sMax _ _ _)))
      go_wp2_with fail
      go_ret
      exact ⟨rfl, below_drewN (Below.refl _ _) _⟩
    · rw [if_neg (by omega)]
      have b' : (12 : Int) ≤ (fn : Int) := by omega
      clear a
      go_enter Try.func32, Try.ntmps32
      go_wp2_with fail
      go_ret
      exact ⟨rfl, Below.refl _ _⟩
  · rw [if_neg (by omega)]
    have a' : (y1 != 3) = true := by simp [a]
    clear a
    go_enter Try.func32, Try.ntmps32
    go_wp2_with fail
    go_ret
    exact ⟨rfl, Below.refl _ _⟩
set_option maxHeartbeats 1000000 in
theorem sRoomOf (x : DSub) (u v : Value) (w : World) (B : Nat) (hr : shSub.Rd w B x [.int .i64 x.1, .int .i64 x.2.1, .bool x.2.2.1, .int .i64 x.2.2.2.1, .int .i64 x.2.2.2.2.1, .int .i64 x.2.2.2.2.2.1, .int .i64 x.2.2.2.2.2.2.1.1, .int .i64 x.2.2.2.2.2.2.1.2.1, .int .i64 x.2.2.2.2.2.2.1.2.2.1, u, .int .i64 x.2.2.2.2.2.2.2.1.1, .int .i64 x.2.2.2.2.2.2.2.1.2.1, v, .int .i64 x.2.2.2.2.2.2.2.2.1.1, .int .i64 x.2.2.2.2.2.2.2.2.1.2.1, .int .i64 x.2.2.2.2.2.2.2.2.1.2.2.1]) (hB : B ≤ w.heap.size) (hT : totSub x ≤ 1048576) :
    Calls Try.prog 9 #[.agg #[.int .i64 x.1, .int .i64 x.2.1, .bool x.2.2.1, .int .i64 x.2.2.2.1, .int .i64 x.2.2.2.2.1, .int .i64 x.2.2.2.2.2.1, .int .i64 x.2.2.2.2.2.2.1.1, .int .i64 x.2.2.2.2.2.2.1.2.1, .int .i64 x.2.2.2.2.2.2.1.2.2.1, u, .int .i64 x.2.2.2.2.2.2.2.1.1, .int .i64 x.2.2.2.2.2.2.2.1.2.1, v, .int .i64 x.2.2.2.2.2.2.2.2.1.1, .int .i64 x.2.2.2.2.2.2.2.2.1.2.1, .int .i64 x.2.2.2.2.2.2.2.2.1.2.2.1]] w fun e w' => e = .returned (.agg #[.int .i64 (subF x), .int .i64 (roomV x)]) ∧ Below w.heap.size w w' := by
  obtain ⟨y0, y1, y2, y3, y4, y5, ⟨s0, s1, s2, fl, ⟨⟩⟩, ⟨c0, c1, sp, ⟨⟩⟩, ⟨k0, k1, k2, ⟨⟩⟩, ⟨⟩⟩ := x
  simp only at *
  obtain ⟨ua, uc, va, vc, rfl, rfl, rs0, rc0, hwf⟩ := rd_SubF hr
  obtain ⟨q1, e1, rs, -⟩ := rd_Sender rs0
  obtain ⟨q2, e2, rc, -⟩ := rd_Catch rc0
  simp only [List.cons.injEq, and_true, true_and] at e1 e2
  subst e1 e2
  replace rs : shFlights.Rd w B fl [.slice ua fl.length uc] := rs
  replace rc : shSpans.Rd w B sp [.slice va sp.length vc] := rc
  obtain ⟨fn, hfn⟩ : ∃ n, fl.length = n := ⟨_, rfl⟩
  obtain ⟨sn, hsn⟩ : ∃ n, sp.length = n := ⟨_, rfl⟩
  rw [hfn] at rs rs0 ⊢
  rw [hsn] at rc rc0 ⊢
  have HC : Hid (∀ W sb, Below w.heap.size w W → (∀ o, W.cell? ⟨sb, o, none⟩ = (#[.int .i64 y0, .int .i64 y1, .bool y2, .int .i64 y3, .int .i64 y4, .int .i64 y5, .int .i64 s0, .int .i64 s1, .int .i64 s2, .slice ua fn uc, .int .i64 c0, .int .i64 c1, .slice va sn vc, .int .i64 k0, .int .i64 k1, .int .i64 k2] : Array Value)[o]?) → Calls Try.prog 31 #[.pointer (some ⟨sb, 0, none⟩)] W fun e w' => e = .returned (.int .i64 (subF (y0, y1, y2, y3, y4, y5, (s0, s1, s2, fl, ()), (c0, c1, sp, ()), (k0, k1, k2, ()), ()))) ∧ Below W.heap.size W w') :=
    fun W sb hW hc => sL8Fault y0 y1 y2 y3 y4 y5 s0 s1 s2 fl c0 c1 sp k0 k1 k2 ua fn uc va sn vc sb 0 W B hfn hsn (fun j _ => by rw [Nat.zero_add]; exact hc j) (rs.below hB hW) (rc.below hB hW) (Nat.le_trans hB hW.size) hT
  have HV : Hid (roomV (y0, y1, y2, y3, y4, y5, (s0, s1, s2, fl, ()), (c0, c1, sp, ()), (k0, k1, k2, ()), ()) = if subF (y0, y1, y2, y3, y4, y5, (s0, s1, s2, fl, ()), (c0, c1, sp, ()), (k0, k1, k2, ()), ()) = 0 then (if y1 = 3 ∧ fn < 12 then max 0 (k0 - (s1 - s2)) else 0) else 0) := by show _ = _; rw [← hfn]; rfl
  have HO : Hid (subF (y0, y1, y2, y3, y4, y5, (s0, s1, s2, fl, ()), (c0, c1, sp, ()), (k0, k1, k2, ()), ()) = 0 → 0 ≤ s2 ∧ s2 ≤ s1 ∧ s1 ≤ 1000000 ∧ 8 ≤ k0 ∧ k0 ≤ 64 ∧ fn ≤ 12) := fun h => by
    obtain ⟨-, h1, -, h3, -⟩ := sub_ok h
    obtain ⟨-, g2, g3, g4⟩ := snd_ok h1
    have g2' : 0 ≤ s1 ∧ s1 ≤ 1000000 := inD_yes g2
    have g3' : 0 ≤ s2 ∧ s2 ≤ s1 := inD_yes g3
    have g5 : (8 ≤ k0 ∧ k0 ≤ 64) ∧ _ := ctF_ok h3
    have g4' : fl.length ≤ 12 := g4
    omega
  clear hr rs rc rs0 rc0 hT hwf hfn hsn
  generalize roomV (y0, y1, y2, y3, y4, y5, (s0, s1, s2, fl, ()), (c0, c1, sp, ()), (k0, k1, k2, ()), ()) = V at *
  generalize subF (y0, y1, y2, y3, y4, y5, (s0, s1, s2, fl, ()), (c0, c1, sp, ()), (k0, k1, k2, ()), ()) = F at *
  by_cases hF : F = 0
  · obtain ⟨p0, p1, p2, p3, p4, p5⟩ := HO.out hF
    have hv := HV.out
    rw [if_pos hF] at hv
    have HR : Hid (∀ W sb, (∀ o, W.cell? ⟨sb, o, none⟩ = (#[.int .i64 y0, .int .i64 y1, .bool y2, .int .i64 y3, .int .i64 y4, .int .i64 y5, .int .i64 s0, .int .i64 s1, .int .i64 s2, .slice ua fn uc, .int .i64 c0, .int .i64 c1, .slice va sn vc, .int .i64 k0, .int .i64 k1, .int .i64 k2] : Array Value)[o]?) → Calls Try.prog 32 #[.pointer (some ⟨sb, 0, none⟩)] W fun e w' => e = .returned (.int .i64 V) ∧ Below W.heap.size W w') :=
      fun W sb hc => by rw [hv]; exact sL8Room y0 y1 y2 y3 y4 y5 s0 s1 s2 c0 c1 k0 k1 k2 ua fn uc va sn vc sb 0 W (fun j _ => by rw [Nat.zero_add]; exact hc j) p0 p1 p2 p3 p4 p5
    have hF' : (F != 0) = false := by simp [hF]
    subst hF
    clear HO HV hv
    go_enter Try.func9, Try.ntmps9
    go_wp2_with fail
    refine (HC.out _ w.heap.size (by go_grown) (fun o => by simp [go_sem])).mono ?_
    rintro e w1 ⟨rfl, hb⟩
    have j0 : ∀ o, w1.cell? ⟨w.heap.size, o, none⟩ = (#[.int .i64 y0, .int .i64 y1, .bool y2, .int .i64 y3, .int .i64 y4, .int .i64 y5, .int .i64 s0, .int .i64 s1, .int .i64 s2, .slice ua fn uc, .int .i64 c0, .int .i64 c1, .slice va sn vc, .int .i64 k0, .int .i64 k1, .int .i64 k2] : Array Value)[o]? := fun o => by rw [hb.cell (p := ⟨w.heap.size, o, none⟩) (by simp; omega)]; simp [go_sem]
    have j1 : ∀ o, w1.cell? ⟨w.heap.size + 1, o, none⟩ = (#[.int .i64 0, .int .i64 0] : Array Value)[o]? := fun o => by rw [hb.cell (p := ⟨w.heap.size + 1, o, none⟩) (by simp)]; simp [go_sem]
    have f1 : ∀ o, w1.frozen? ⟨w.heap.size + 1, o, none⟩ = false := fun o => by rw [hb.frozen (p := ⟨w.heap.size + 1, o, none⟩) (by simp)]; simp [go_sem]
    have z1 : w.heap.size + 1 < w1.heap.size := by have := hb.size; simp at this; omega
    have HB : Hid (Below w.heap.size w w1) := Below.trans (by go_grown) (hb.mono (by simp; omega))
    clear hb HC
    go_wp2_with fail
    refine (HR.out _ w.heap.size j0).mono ?_
    rintro e w2 ⟨rfl, hb⟩
    replace j1 := bx_below j1 z1 hb
    replace f1 := bxF f1 hb z1
    replace z1 := Nat.lt_of_lt_of_le z1 hb.size
    replace HB : Hid (Below w.heap.size w w2) := HB.out.trans (hb.mono HB.out.size)
    clear hb HR j0
    go_wp2_with fail
    refine bodyPost_ret (v := .agg #[.int .i64 0, .int .i64 V]) (by simp [results, Try.results9, go_sem, j1]) rfl ⟨rfl, ?_⟩
    have hB1 := HB.out
    clear j1 f1 HB
    go_grown
  · have hv := HV.out
    rw [if_neg hF] at hv
    subst hv
    clear HO HV
    go_enter Try.func9, Try.ntmps9
    have hF' : (F != 0) = true := by simp [hF]
    clear hF
    go_wp2_with fail
    refine (HC.out _ w.heap.size (by go_grown) (fun o => by simp [go_sem])).mono ?_
    rintro e w1 ⟨rfl, hb⟩
    have j0 : ∀ o, w1.cell? ⟨w.heap.size, o, none⟩ = (#[.int .i64 y0, .int .i64 y1, .bool y2, .int .i64 y3, .int .i64 y4, .int .i64 y5, .int .i64 s0, .int .i64 s1, .int .i64 s2, .slice ua fn uc, .int .i64 c0, .int .i64 c1, .slice va sn vc, .int .i64 k0, .int .i64 k1, .int .i64 k2] : Array Value)[o]? := fun o => by rw [hb.cell (p := ⟨w.heap.size, o, none⟩) (by simp; omega)]; simp [go_sem]
    have j1 : ∀ o, w1.cell? ⟨w.heap.size + 1, o, none⟩ = (#[.int .i64 0, .int .i64 0] : Array Value)[o]? := fun o => by rw [hb.cell (p := ⟨w.heap.size + 1, o, none⟩) (by simp)]; simp [go_sem]
    have f1 : ∀ o, w1.frozen? ⟨w.heap.size + 1, o, none⟩ = false := fun o => by rw [hb.frozen (p := ⟨w.heap.size + 1, o, none⟩) (by simp)]; simp [go_sem]
    have z1 : w.heap.size + 1 < w1.heap.size := by have := hb.size; simp at this; omega
    have HB : Hid (Below w.heap.size w w1) := Below.trans (by go_grown) (hb.mono (by simp; omega))
    clear hb HC
    go_wp2_with fail
    refine bodyPost_ret (v := .agg #[.int .i64 F, .int .i64 0]) (by simp [results, Try.results9, go_sem, j1]) rfl ⟨rfl, ?_⟩
    have hB1 := HB.out
    clear j0 j1 f1 HB
    go_grown
set_option maxHeartbeats 1000000 in
theorem sL8Stale (fl : List DFlight) (ua : Option Addr) (fn uc sb of : Nat) (w : World) (B : Nat) (hfn : fl.length = fn)
    (x9 : w.cell? ⟨sb, of + 6 + 3, none⟩ = some (.slice ua fn uc)) (rs : shFlights.Rd w B fl [.slice ua fn uc]) (hm : fn ≤ 12) :
    Calls Try.prog 41 #[.pointer (some ⟨sb, of, none⟩)] w fun e w' => e = .returned (.int .i64 (stlL fl : Nat)) ∧ w' = w := by
  have HN : Hid (fl.length = fn) := hfn
  have HRd : Hid _ := rs
  clear rs hfn
  obtain ⟨R, hR⟩ : ∃ R : Int, R = (stlL fl : Nat) := ⟨_, rfl⟩
  rw [← hR]
  have HR : Hid (R = (stlL fl : Nat)) := hR
  clear hR
  go_enter Try.func41, Try.ntmps41
  go_wp2_with fail
  go_loopw [3, 4] (fun t i wr => ∃ (k : Nat) (q : Int), k ≤ fn ∧ i = .int .i64 k ∧ t = .int .i64 q ∧ 0 ≤ q ∧ q ≤ (k : Int) ∧ Hid (q = (stlL (fl.take k) : Nat)) ∧ wr = w) (fun _ i _ => fn - (intOf i).toNat)
  case atStart => exact ⟨0, 0, Nat.zero_le _, rfl, rfl, by omega, by omega, (by simp [stlL] : (0 : Int) = (stlL (fl.take 0) : Nat)), rfl⟩
  case round =>
    obtain ⟨k, q, hk, rfl, rfl, hq0, hq1, hq, hw⟩ := hrel
    subst hw
    by_cases hlt : k < fn
    · have hkl : k < fl.length := by have := HN.out; omega
      obtain ⟨b, off, v, ha, hb, -, -, -, -, q4, -⟩ := at_Flights HRd.out k hkl
      subst ha
      have hst := stlL_step hkl
      have hkn : (k : Int) < (fn : Int) := by omega
      by_cases h3 : 3 ≤ fl[k].2.2.2.2.1
      · rw [if_pos h3] at hst
        have HE : Hid (q + 1 = (stlL (fl.take (k + 1)) : Nat)) := by have := hq.out; show _ = _; omega
        clear hst hq
        generalize fl[k].2.2.2.2.1 = z4 at *
        go_wp2_with fail
        go_roundw
        case rel => exact ⟨k + 1, q + 1, by omega, by go_num, rfl, by omega, by push_cast; omega, HE, by first | rfl | trivial⟩
        case measure => simp [intOf]; omega
      · rw [if_neg h3] at hst
        have HE : Hid (q = (stlL (fl.take (k + 1)) : Nat)) := by have := hq.out; show _ = _; omega
        have h3' : decide (3 ≤ fl[k].2.2.2.2.1) = false := by simp; omega
        clear hst hq
        generalize fl[k].2.2.2.2.1 = z4 at *
        go_wp2_with fail
        go_roundw
        case rel => exact ⟨k + 1, q, by omega, by go_num, rfl, by omega, by push_cast; omega, HE, by first | rfl | trivial⟩
        case measure => simp [intOf]; omega
    · obtain rfl : k = fn := by omega
      go_wp2_with fail
      go_ret
      refine ⟨ret_int ?_, rfl⟩
      have h := hq.out
      rw [← HN.out, List.take_length] at h
      exact h.trans HR.out.symm
set_option maxHeartbeats 1000000 in
theorem sStaleOf (x : DSub) (u v : Value) (w : World) (B : Nat) (hr : shSub.Rd w B x [.int .i64 x.1, .int .i64 x.2.1, .bool x.2.2.1, .int .i64 x.2.2.2.1, .int .i64 x.2.2.2.2.1, .int .i64 x.2.2.2.2.2.1, .int .i64 x.2.2.2.2.2.2.1.1, .int .i64 x.2.2.2.2.2.2.1.2.1, .int .i64 x.2.2.2.2.2.2.1.2.2.1, u, .int .i64 x.2.2.2.2.2.2.2.1.1, .int .i64 x.2.2.2.2.2.2.2.1.2.1, v, .int .i64 x.2.2.2.2.2.2.2.2.1.1, .int .i64 x.2.2.2.2.2.2.2.2.1.2.1, .int .i64 x.2.2.2.2.2.2.2.2.1.2.2.1]) (hB : B ≤ w.heap.size) (hT : totSub x ≤ 1048576) :
    Calls Try.prog 14 #[.agg #[.int .i64 x.1, .int .i64 x.2.1, .bool x.2.2.1, .int .i64 x.2.2.2.1, .int .i64 x.2.2.2.2.1, .int .i64 x.2.2.2.2.2.1, .int .i64 x.2.2.2.2.2.2.1.1, .int .i64 x.2.2.2.2.2.2.1.2.1, .int .i64 x.2.2.2.2.2.2.1.2.2.1, u, .int .i64 x.2.2.2.2.2.2.2.1.1, .int .i64 x.2.2.2.2.2.2.2.1.2.1, v, .int .i64 x.2.2.2.2.2.2.2.2.1.1, .int .i64 x.2.2.2.2.2.2.2.2.1.2.1, .int .i64 x.2.2.2.2.2.2.2.2.1.2.2.1]] w fun e w' => e = .returned (.agg #[.int .i64 (subF x), .int .i64 (stlV x)]) ∧ Below w.heap.size w w' := by
  obtain ⟨y0, y1, y2, y3, y4, y5, ⟨s0, s1, s2, fl, ⟨⟩⟩, ⟨c0, c1, sp, ⟨⟩⟩, ⟨k0, k1, k2, ⟨⟩⟩, ⟨⟩⟩ := x
  simp only at *
  obtain ⟨ua, uc, va, vc, rfl, rfl, rs0, rc0, hwf⟩ := rd_SubF hr
  obtain ⟨q1, e1, rs, -⟩ := rd_Sender rs0
  obtain ⟨q2, e2, rc, -⟩ := rd_Catch rc0
  simp only [List.cons.injEq, and_true, true_and] at e1 e2
  subst e1 e2
  replace rs : shFlights.Rd w B fl [.slice ua fl.length uc] := rs
  replace rc : shSpans.Rd w B sp [.slice va sp.length vc] := rc
  obtain ⟨fn, hfn⟩ : ∃ n, fl.length = n := ⟨_, rfl⟩
  obtain ⟨sn, hsn⟩ : ∃ n, sp.length = n := ⟨_, rfl⟩
  rw [hfn] at rs rs0 ⊢
  rw [hsn] at rc rc0 ⊢
  have HC : Hid (∀ W sb, Below w.heap.size w W → (∀ o, W.cell? ⟨sb, o, none⟩ = (#[.int .i64 y0, .int .i64 y1, .bool y2, .int .i64 y3, .int .i64 y4, .int .i64 y5, .int .i64 s0, .int .i64 s1, .int .i64 s2, .slice ua fn uc, .int .i64 c0, .int .i64 c1, .slice va sn vc, .int .i64 k0, .int .i64 k1, .int .i64 k2] : Array Value)[o]?) → Calls Try.prog 31 #[.pointer (some ⟨sb, 0, none⟩)] W fun e w' => e = .returned (.int .i64 (subF (y0, y1, y2, y3, y4, y5, (s0, s1, s2, fl, ()), (c0, c1, sp, ()), (k0, k1, k2, ()), ()))) ∧ Below W.heap.size W w') :=
    fun W sb hW hc => sL8Fault y0 y1 y2 y3 y4 y5 s0 s1 s2 fl c0 c1 sp k0 k1 k2 ua fn uc va sn vc sb 0 W B hfn hsn (fun j _ => by rw [Nat.zero_add]; exact hc j) (rs.below hB hW) (rc.below hB hW) (Nat.le_trans hB hW.size) hT
  have HV : Hid (stlV (y0, y1, y2, y3, y4, y5, (s0, s1, s2, fl, ()), (c0, c1, sp, ()), (k0, k1, k2, ()), ()) = if subF (y0, y1, y2, y3, y4, y5, (s0, s1, s2, fl, ()), (c0, c1, sp, ()), (k0, k1, k2, ()), ()) = 0 then (stlL fl : Int) else 0) := rfl
  have HO : Hid (subF (y0, y1, y2, y3, y4, y5, (s0, s1, s2, fl, ()), (c0, c1, sp, ()), (k0, k1, k2, ()), ()) = 0 → fn ≤ 12) := fun h => by
    obtain ⟨-, h1, -⟩ := sub_ok h
    have g4' : fl.length ≤ 12 := (snd_ok h1).2.2.2
    omega
  have HRd : Hid (∀ W, Below w.heap.size w W → shFlights.Rd W B fl [.slice ua fn uc]) := fun W hW => rs.below hB hW
  have HN : Hid (fl.length = fn) := hfn
  clear hr rs rc rs0 rc0 hT hwf hfn hsn
  generalize stlV (y0, y1, y2, y3, y4, y5, (s0, s1, s2, fl, ()), (c0, c1, sp, ()), (k0, k1, k2, ()), ()) = V at *
  generalize subF (y0, y1, y2, y3, y4, y5, (s0, s1, s2, fl, ()), (c0, c1, sp, ()), (k0, k1, k2, ()), ()) = F at *
  by_cases hF : F = 0
  · have p5 := HO.out hF
    have hv := HV.out
    rw [if_pos hF] at hv
    have HR : Hid (∀ W, Below w.heap.size w W → ∀ sb, (∀ o, W.cell? ⟨sb, o, none⟩ = (#[.int .i64 y0, .int .i64 y1, .bool y2, .int .i64 y3, .int .i64 y4, .int .i64 y5, .int .i64 s0, .int .i64 s1, .int .i64 s2, .slice ua fn uc, .int .i64 c0, .int .i64 c1, .slice va sn vc, .int .i64 k0, .int .i64 k1, .int .i64 k2] : Array Value)[o]?) → Calls Try.prog 41 #[.pointer (some ⟨sb, 0, none⟩)] W fun e w' => e = .returned (.int .i64 V) ∧ w' = W) :=
      fun W hW sb hc => by rw [hv]; exact sL8Stale fl ua fn uc sb 0 W B HN.out (hc 9) (HRd.out W hW) p5
    have hF' : (F != 0) = false := by simp [hF]
    subst hF
    clear HO HV hv HRd HN
    go_enter Try.func14, Try.ntmps14
    go_wp2_with fail
    refine (HC.out _ w.heap.size (by go_grown) (fun o => by simp [go_sem])).mono ?_
    rintro e w1 ⟨rfl, hb⟩
    have j0 : ∀ o, w1.cell? ⟨w.heap.size, o, none⟩ = (#[.int .i64 y0, .int .i64 y1, .bool y2, .int .i64 y3, .int .i64 y4, .int .i64 y5, .int .i64 s0, .int .i64 s1, .int .i64 s2, .slice ua fn uc, .int .i64 c0, .int .i64 c1, .slice va sn vc, .int .i64 k0, .int .i64 k1, .int .i64 k2] : Array Value)[o]? := fun o => by rw [hb.cell (p := ⟨w.heap.size, o, none⟩) (by simp; omega)]; simp [go_sem]
    have j1 : ∀ o, w1.cell? ⟨w.heap.size + 1, o, none⟩ = (#[.int .i64 0, .int .i64 0] : Array Value)[o]? := fun o => by rw [hb.cell (p := ⟨w.heap.size + 1, o, none⟩) (by simp)]; simp [go_sem]
    have f1 : ∀ o, w1.frozen? ⟨w.heap.size + 1, o, none⟩ = false := fun o => by rw [hb.frozen (p := ⟨w.heap.size + 1, o, none⟩) (by simp)]; simp [go_sem]
    have z1 : w.heap.size + 1 < w1.heap.size := by have := hb.size; simp at this; omega
    have HB : Hid (Below w.heap.size w w1) := Below.trans (by go_grown) (hb.mono (by simp; omega))
    clear hb HC
    go_wp2_with fail
    refine (HR.out _ HB.out w.heap.size j0).mono ?_
    rintro e w2 ⟨rfl, hw⟩
    subst w2
    clear HR j0
    go_wp2_with fail
    refine bodyPost_ret (v := .agg #[.int .i64 0, .int .i64 V]) (by simp [results, Try.results14, go_sem, j1]) rfl ⟨rfl, ?_⟩
    have hB1 := HB.out
    clear j1 f1 HB
    go_grown
  · have hv := HV.out
    rw [if_neg hF] at hv
    subst hv
    clear HO HV HRd HN
    go_enter Try.func14, Try.ntmps14
    have hF' : (F != 0) = true := by simp [hF]
    clear hF
    go_wp2_with fail
    refine (HC.out _ w.heap.size (by go_grown) (fun o => by simp [go_sem])).mono ?_
    rintro e w1 ⟨rfl, hb⟩
    have j0 : ∀ o, w1.cell? ⟨w.heap.size, o, none⟩ = (#[.int .i64 y0, .int .i64 y1, .bool y2, .int .i64 y3, .int .i64 y4, .int .i64 y5, .int .i64 s0, .int .i64 s1, .int .i64 s2, .slice ua fn uc, .int .i64 c0, .int .i64 c1, .slice va sn vc, .int .i64 k0, .int .i64 k1, .int .i64 k2] : Array Value)[o]? := fun o => by rw [hb.cell (p := ⟨w.heap.size, o, none⟩) (by simp; omega)]; simp [go_sem]
    have j1 : ∀ o, w1.cell? ⟨w.heap.size + 1, o, none⟩ = (#[.int .i64 0, .int .i64 0] : Array Value)[o]? := fun o => by rw [hb.cell (p := ⟨w.heap.size + 1, o, none⟩) (by simp)]; simp [go_sem]
    have f1 : ∀ o, w1.frozen? ⟨w.heap.size + 1, o, none⟩ = false := fun o => by rw [hb.frozen (p := ⟨w.heap.size + 1, o, none⟩) (by simp)]; simp [go_sem]
    have z1 : w.heap.size + 1 < w1.heap.size := by have := hb.size; simp at this; omega
    have HB : Hid (Below w.heap.size w w1) := Below.trans (by go_grown) (hb.mono (by simp; omega))
    clear hb HC
    go_wp2_with fail
    refine bodyPost_ret (v := .agg #[.int .i64 F, .int .i64 0]) (by simp [results, Try.results14, go_sem, j1]) rfl ⟨rfl, ?_⟩
    have hB1 := HB.out
    clear j0 j1 f1 HB
    go_grown
end Go.Proofs.Ytlicopeejphgaao
