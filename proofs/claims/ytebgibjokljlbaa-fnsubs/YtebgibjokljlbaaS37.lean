/- ackPath and AckSub of the program: the code, and what an ack leaves of a sub; nothing that was in memory turns; no condition but that a sub has at most a million parts. Written by mksubi.py. -/
import Derived.Test.YtebgibjokljlbaaRows
import Derived.Deep.RegionHeld3
import Derived.Deep.MidRow
import Derived.Test.YtebgibjokljlbaaS01
import Derived.Test.YtebgibjokljlbaaS03
import Derived.Test.YtebgibjokljlbaaS04
import Derived.Test.YtebgibjokljlbaaS05
import Derived.Test.YtebgibjokljlbaaS11
import Derived.Test.YtebgibjokljlbaaS18
import Derived.Test.YtebgibjokljlbaaS21
import Derived.Test.YtebgibjokljlbaaS24
import Derived.Test.YtebgibjokljlbaaS25
import Derived.Test.YtebgibjokljlbaaS34
import Derived.Test.YtebgibjokljlbaaS35
import Derived.Test.YtebgibjokljlbaaS36
namespace Go.Proofs.Ytebgibjokljlbaa
open Go.RowKit
set_option linter.unusedVariables false
set_option linter.unusedSimpArgs false
set_option maxRecDepth 8000
def AkP (w' : World) (pb : Nat) (y0 y1 : Int) (y2 : Bool) (y3 y4 y5 s0 s1 s2 c0 c1 k0 k1 k2 : Int) (fl : List DFlight) (sp : List DSpan) (ua : Option Addr) (fn uc : Nat) (va : Option Addr) (sn vc : Nat) (ack : Int) : Prop := ∃ t0 t1 t2 tl a b c ta tn tc, ackC (s0, s1, s2, fl, ()) ack = 0 ∧ ackV (s0, s1, s2, fl, ()) ack = (t0, t1, t2, tl, ()) ∧ ctF a b c = 0 ∧ k0 ≤ a ∧ (∀ o, w'.cell? ⟨pb, o, none⟩ = (#[.int .i64 y0, .int .i64 y1, .bool y2, .int .i64 y3, .int .i64 y4, .int .i64 y5, .int .i64 t0, .int .i64 t1, .int .i64 t2, .slice ta tn tc, .int .i64 c0, .int .i64 c1, .slice va sn vc, .int .i64 a, .int .i64 b, .int .i64 c] : Array Value)[o]?) ∧ SubWf (y0, y1, y2, y3, y4, y5, (t0, t1, t2, tl, ()), (c0, c1, sp, ()), (a, b, c, ()), ()) ∧ ∃ lo1 hi1 lo2 hi2, Own w' lo1 hi1 shSender (t0, t1, t2, tl, ()) [.int .i64 t0, .int .i64 t1, .int .i64 t2, .slice ta tn tc] ∧ Own w' lo2 hi2 shCatchO (c0, c1, sp, ()) [.int .i64 c0, .int .i64 c1, .slice va sn vc] ∧ pb < lo1 ∧ pb < lo2
set_option maxHeartbeats 8000000 in
theorem iAckPath (y0 y1 : Int) (y2 : Bool) (y3 y4 y5 s0 s1 s2 c0 c1 k0 k1 k2 : Int) (fl : List DFlight) (sp : List DSpan) (ua : Option Addr) (fn uc : Nat) (va : Option Addr) (sn vc : Nat) (ack : Int) (l : List Int) (la : Option Addr) (lc pb m : Nat) (w : World)
    (hc : ∀ o, w.cell? ⟨pb, o, none⟩ = (#[.int .i64 y0, .int .i64 y1, .bool y2, .int .i64 y3, .int .i64 y4, .int .i64 y5, .int .i64 s0, .int .i64 s1, .int .i64 s2, .slice ua fn uc, .int .i64 c0, .int .i64 c1, .slice va sn vc, .int .i64 k0, .int .i64 k1, .int .i64 k2] : Array Value)[o]?) (hf : ∀ o, w.frozen? ⟨pb, o, none⟩ = false) (hs : SubOw w (pb + 1) w.heap.size fl sp s0 s1 s2 c0 c1 ua fn uc va sn vc m) (hz : pb < w.heap.size) (hF : subF (y0, y1, y2, y3, y4, y5, (s0, s1, s2, fl, ()), (c0, c1, sp, ()), (k0, k1, k2, ()), ()) = 0) (hwf : SubWf (y0, y1, y2, y3, y4, y5, (s0, s1, s2, fl, ()), (c0, c1, sp, ()), (k0, k1, k2, ()), ())) (hl : RI w la l) (hn : l.length ≤ 1048576) :
    Calls Try.prog 79 #[.pointer (some ⟨pb, 0, none⟩), .int .i64 ack, .slice la l.length lc] w fun e w' => e = .returned (.int .i64 (akC (y0, y1, y2, y3, y4, y5, (s0, s1, s2, fl, ()), (c0, c1, sp, ()), (k0, k1, k2, ()), ()) ack l)) ∧ Below pb w w' ∧ (akC (y0, y1, y2, y3, y4, y5, (s0, s1, s2, fl, ()), (c0, c1, sp, ()), (k0, k1, k2, ()), ()) ack l = 0 → AkP w' pb y0 y1 y2 y3 y4 y5 s0 s1 s2 c0 c1 k0 k1 k2 fl sp ua fn uc va sn vc ack) := by
  obtain ⟨h1, h2, h3, h4, h5⟩ := sub_ok hF
  have hsn0 : sndFault (s0, s1, s2, fl, ()) = 0 := h2
  have hct : ctF k0 k1 k2 = 0 := h4
  obtain ⟨q1, q2⟩ := inD_yes (snd_ok hsn0).2.1
  obtain ⟨q3, q4⟩ := inD_yes (snd_ok hsn0).2.2.1
  replace q2 : s1 ≤ 1000000 := q2
  replace q3 : 0 ≤ s2 := q3
  have q5 : s1 ≤ s2 + 96 := snd_few hsn0
  clear q1 q4 h1 h2 h3 h4 h5
  have HA0 := iAckSender (s0, s1, s2, fl, ()) (.slice ua fn uc) ack w w.heap.size (hs.s.rd (Nat.le_refl _)) (Nat.le_refl _) (Nat.le_trans (snd_tot hsn0) (by decide))
  have HK : Hid (Own w m w.heap.size shCatchO (c0, c1, sp, ()) [.int .i64 c0, .int .i64 c1, .slice va sn vc]) := hs.c
  have hm1 := hs.lm
  have hm2 := hs.mh
  clear hs
  obtain ⟨A, hA⟩ : ∃ A, ackC (s0, s1, s2, fl, ()) ack = A := ⟨_, rfl⟩
  obtain ⟨T, hT⟩ : ∃ T, ackV (s0, s1, s2, fl, ()) ack = T := ⟨_, rfl⟩
  have hAK : akC (y0, y1, y2, y3, y4, y5, (s0, s1, s2, fl, ()), (c0, c1, sp, ()), (k0, k1, k2, ()), ()) ack l = if A = 0 then (if 0 < T.2.2.1 - s2 then grC k0 k1 k2 (min (T.2.2.1 - s2) 1000) l else 0) else A := by
    unfold akC; rw [if_pos hF]
    show (if ackC (s0, s1, s2, fl, ()) ack = 0 then (if 0 < (ackV (s0, s1, s2, fl, ()) ack).2.2.1 - s2 then grC k0 k1 k2 (min ((ackV (s0, s1, s2, fl, ()) ack).2.2.1 - s2) 1000) l else 0) else ackC (s0, s1, s2, fl, ()) ack) = _
    rw [hA, hT]
  have hup : A = 0 → T.1 = s0 ∧ T.2.1 = s1 ∧ s2 ≤ T.2.2.1 ∧ T.2.2.1 ≤ s1 := fun h => by have q := ack_up (hA.trans h); rw [hT] at q; exact ⟨q.1, q.2.1, q.2.2.1, q.2.2.2.1⟩
  rw [hA, hT] at HA0
  generalize akC (y0, y1, y2, y3, y4, y5, (s0, s1, s2, fl, ()), (c0, c1, sp, ()), (k0, k1, k2, ()), ()) ack l = CC at hAK ⊢
  obtain ⟨t0, t1, t2, tl, ⟨⟩⟩ := T
  simp only at HA0 hAK hup
  obtain ⟨n, hn0⟩ : ∃ n : Int, n = t2 - s2 := ⟨_, rfl⟩
  obtain ⟨kk, hkk⟩ : ∃ k : Int, k = min n 1000 := ⟨_, rfl⟩
  rw [← hn0, ← hkk] at hAK
  have HG : Hid (∀ W, Below w.heap.size w W → Calls Try.prog 117 #[.agg #[.int .i64 k0, .int .i64 k1, .int .i64 k2], .int .i64 kk, .slice la l.length lc] W fun e w' => e = .returned (.agg #[.int .i64 (grC k0 k1 k2 kk l), .int .i64 (grV k0 k1 k2 kk l).1, .int .i64 (grV k0 k1 k2 kk l).2.1, .int .i64 (grV k0 k1 k2 kk l).2.2]) ∧ Below W.heap.size W w') := fun W h => iGrowControl k0 k1 k2 kk l la l.length lc W rfl (hl.below (Nat.le_refl _) h) (by omega)
  have hgf : grC k0 k1 k2 kk l = 0 → ctF (grV k0 k1 k2 kk l).1 (grV k0 k1 k2 kk l).2.1 (grV k0 k1 k2 kk l).2.2 = 0 ∧ k0 ≤ (grV k0 k1 k2 kk l).1 := fun h => by have q := gr_facts h; unfold grV; rw [if_pos h]; exact ⟨q.2.2.2.1, q.2.2.2.2.1⟩
  generalize grC k0 k1 k2 kk l = GC at *
  generalize grV k0 k1 k2 kk l = GV at *
  obtain ⟨g0, g1, g2⟩ := GV
  simp only at HG hgf
  have HAA : Hid (∀ _ : Unit, Calls Try.prog 116 #[.agg #[.int .i64 s0, .int .i64 s1, .int .i64 s2, .slice ua fn uc], .int .i64 ack] w fun e w' => ∃ u, e = .returned (.agg #[.int .i64 A, .int .i64 t0, .int .i64 t1, .int .i64 t2, u]) ∧ Own w' w.heap.size w'.heap.size shSender (t0, t1, t2, tl, ()) [.int .i64 t0, .int .i64 t1, .int .i64 t2, u] ∧ Below w.heap.size w w') := fun _ => HA0
  have HAK : Hid (CC = if A = 0 then (if 0 < n then GC else 0) else A) := hAK
  have HUP : Hid _ := hup
  have HGF : Hid _ := hgf
  have HCT : Hid (ctF k0 k1 k2 = 0) := hct
  have HWF : Hid _ := hwf
  have HAe : Hid (ackC (s0, s1, s2, fl, ()) ack = A) := hA
  have HTe : Hid (ackV (s0, s1, s2, fl, ()) ack = (t0, t1, t2, tl, ())) := hT
  clear HA0 hAK hup hgf hct hwf hF hsn0 hl hA hT
  generalize l.length = ln at *
  have HB : Hid (Below pb w w) := Below.refl _ _
  have D : Hid (Below w.heap.size w w) := Below.refl _ _
  have kP := hc
  have fP := hf
  have zP := hz
  have lK : w.heap.size ≤ w.heap.size := Nat.le_refl _
  obtain ⟨eK, heK⟩ : ∃ e, e = w.heap.size := ⟨_, rfl⟩
  rw [← heK] at HK hm2
  replace lK : eK ≤ w.heap.size := by omega
  clear hc hf heK
  go_enter Try.func79, Try.ntmps79
  go_wp2_with fail
  refine (HAA.out ()).mono ?_
  rintro e w1 ⟨u, rfl, ho, hb⟩
  clear HAA
  obtain ⟨uu, eu, ru, -⟩ := rd_Sender (ho.rd (Nat.le_refl _))
  simp only [List.cons.injEq, and_true, true_and] at eu
  subst eu
  obtain ⟨ta, tc, eu⟩ := row_form ru
  simp only [List.cons.injEq, and_true] at eu
  subst eu
  clear ru
  generalize tl.length = tn at *
  have K : Hid (Own w m eK shCatchO (c0, c1, sp, ()) [.int .i64 c0, .int .i64 c1, .slice va sn vc]) := HK.out
  clear HK
  obtain ⟨hS, ehS⟩ : ∃ x, x = w.heap.size := ⟨_, rfl⟩
  obtain ⟨tS, etS⟩ : ∃ x, x = w1.heap.size := ⟨_, rfl⟩
  have lPS : pb < hS := by rw [ehS]; exact zP
  have mS : hS ≤ tS := by rw [ehS, etS]; exact hb.size
  replace D : Hid (Below w.heap.size w w1) := D.out.trans (hb.mono D.out.size)
  replace kP := bx_below kP zP hb
  replace fP := bxF fP hb zP
  replace zP := Nat.lt_of_lt_of_le zP hb.size
  replace K : Hid (Own w1 m eK shCatchO (c0, c1, sp, ()) [.int .i64 c0, .int .i64 c1, .slice va sn vc]) := Own.below K.out (by omega) hb
  replace lK : eK ≤ w1.heap.size := Nat.le_trans lK hb.size
  replace HB : Hid (Below pb w w1) := HB.out.trans (hb.mono (Nat.le_trans (Nat.le_of_lt hz) HB.out.size))
  clear hb
  rw [← ehS, ← etS] at ho
  have lS : tS ≤ w1.heap.size := by omega
  have S : Hid (Own w1 hS tS shSender (t0, t1, t2, tl, ()) [.int .i64 t0, .int .i64 t1, .int .i64 t2, .slice ta tn tc]) := ho
  clear ho ehS etS
  go_upto_region 2 with fail
  have kR : ∀ o, (w1.alloc (.cells #[.int .i64 A, .int .i64 t0, .int .i64 t1, .int .i64 t2, .slice ta tn tc] 159)).cell? ⟨w1.heap.size, o, none⟩ = (#[.int .i64 A, .int .i64 t0, .int .i64 t1, .int .i64 t2, .slice ta tn tc] : Array Value)[o]? := bx_al w1 _ _
  have hb : Below w1.heap.size w1 (w1.alloc (.cells #[.int .i64 A, .int .i64 t0, .int .i64 t1, .int .i64 t2, .slice ta tn tc] 159)) := (Below.refl _ _).alloc (Nat.le_refl _) _
  have zR : w1.heap.size < (w1.alloc (.cells #[.int .i64 A, .int .i64 t0, .int .i64 t1, .int .i64 t2, .slice ta tn tc] 159)).heap.size := by simp
  generalize hWW : (w1.alloc (.cells #[.int .i64 A, .int .i64 t0, .int .i64 t1, .int .i64 t2, .slice ta tn tc] 159)) = w2 at kR hb zR ⊢
  clear hWW
  obtain ⟨bR, hq⟩ : ∃ q, q = w1.heap.size := ⟨_, rfl⟩
  rw [← hq] at zR kR ⊢
  have lPR : pb < bR := by rw [hq]; exact zP
  clear hq
  replace D : Hid (Below w.heap.size w w2) := D.out.trans (hb.mono D.out.size)
  replace kP := bx_below kP zP hb
  replace fP := bxF fP hb zP
  replace zP := Nat.lt_of_lt_of_le zP hb.size
  replace K : Hid (Own w2 m eK shCatchO (c0, c1, sp, ()) [.int .i64 c0, .int .i64 c1, .slice va sn vc]) := Own.below K.out (by omega) hb
  replace lK : eK ≤ w2.heap.size := Nat.le_trans lK hb.size
  replace S : Hid (Own w2 hS tS shSender (t0, t1, t2, tl, ()) [.int .i64 t0, .int .i64 t1, .int .i64 t2, .slice ta tn tc]) := Own.below S.out (by omega) hb
  replace lS : tS ≤ w2.heap.size := Nat.le_trans lS hb.size
  replace HB : Hid (Below pb w w2) := HB.out.trans (hb.mono (Nat.le_trans (Nat.le_of_lt hz) HB.out.size))
  clear hb
  by_cases hA0 : A = 0
  case neg =>
    have hA' : (A != 0) = true := by simp [hA0]
    have hC := HAK.out
    rw [if_neg hA0] at hC
    subst hC
    go_wp2_with fail
    go_ret
    exact ⟨rfl, HB.out, fun h => absurd h hA0⟩
  have hC0 := HAK.out
  rw [if_pos hA0] at hC0
  have HC1 : Hid _ := hC0
  obtain ⟨-, u2, u3, u4⟩ := HUP.out hA0
  subst hA0
  clear hC0 HAK HUP
  have hw : IntKind.i64.wrap (t2 - s2) = n := by rw [hn0, IntKind.wrap_i64]; omega
  have hkn : kk = n := by omega
  have hmi : min n 1000 = n := by omega
  clear hn0 u2 u3 u4 q2 q3 q5 hkk
  subst kk
  go_upto_region 4 with fail
  refine wp_region_noPanic ?_
  refine Goes.start (S := fun w' => Below w2.heap.size w2 w') (z := 100) (by kernel_rfl) ?_
  refine Goes.take (i := 0) (oi := ?oi101) (x := ?vx101) ?ho101 (by kernel_rfl) (by kernel_rfl) (by kernel_rfl) (by kernel_rfl) (fun _ _ _ h => h) (Or.inl ⟨?hw101, ?hy101⟩) (Below.drew (Below.refl _ _)) ?rest101
  case ho101 => (simp only [List.getElem?_toArray, List.getElem?_cons_zero] <;> rfl)
  case hw101 => rfl
  case hy101 => (intro w' hSw; have jR := fun o => (hSw.cell (p := ⟨bR, o, none⟩) zR).trans (kR o); have jP := fun o => (hSw.cell (p := ⟨pb, o, none⟩) zP).trans (kP o); go_simp; (try with_reducible rfl))
  case rest101 =>
  (try simp only [Act.put, List.setIfInBounds_toArray, List.set_cons_zero, List.set_cons_succ])
  refine Goes.take (i := 1) (oi := ?oi102) (x := ?vx102) ?ho102 (by kernel_rfl) (by kernel_rfl) (by kernel_rfl) (by kernel_rfl) (fun _ _ _ h => h) (Or.inl ⟨?hw102, ?hy102⟩) (Below.drew (Below.refl _ _)) ?rest102
  case ho102 => (simp only [List.getElem?_toArray, List.getElem?_cons_succ, List.getElem?_cons_zero] <;> rfl)
  case hw102 => rfl
  case hy102 => (intro w' hSw; have jR := fun o => (hSw.cell (p := ⟨bR, o, none⟩) zR).trans (kR o); have jP := fun o => (hSw.cell (p := ⟨pb, o, none⟩) zP).trans (kP o); go_simp; (try with_reducible rfl))
  case rest102 =>
  (try simp only [Act.put, List.setIfInBounds_toArray, List.set_cons_zero, List.set_cons_succ])
  refine Goes.take (i := 2) (oi := ?oi103) (x := ?vx103) ?ho103 (by kernel_rfl) (by kernel_rfl) (by kernel_rfl) (by kernel_rfl) (fun _ _ _ h => h) (Or.inl ⟨?hw103, ?hy103⟩) (Below.drew (Below.refl _ _)) ?rest103
  case ho103 => (simp only [List.getElem?_toArray, List.getElem?_cons_succ, List.getElem?_cons_zero] <;> rfl)
  case hw103 => rfl
  case hy103 => (intro w' hSw; have jR := fun o => (hSw.cell (p := ⟨bR, o, none⟩) zR).trans (kR o); have jP := fun o => (hSw.cell (p := ⟨pb, o, none⟩) zP).trans (kP o); go_simp; (try with_reducible rfl))
  case rest103 =>
  (try simp only [Act.put, List.setIfInBounds_toArray, List.set_cons_zero, List.set_cons_succ])
  refine Goes.take (i := 3) (oi := ?oi104) (x := ?vx104) ?ho104 (by kernel_rfl) (by kernel_rfl) (by kernel_rfl) (by kernel_rfl) (fun _ _ _ h => h) (Or.inl ⟨?hw104, ?hy104⟩) (Below.drew (Below.refl _ _)) ?rest104
  case ho104 => (simp only [List.getElem?_toArray, List.getElem?_cons_succ, List.getElem?_cons_zero] <;> rfl)
  case hw104 => rfl
  case hy104 => (intro w' hSw; have jR := fun o => (hSw.cell (p := ⟨bR, o, none⟩) zR).trans (kR o); have jP := fun o => (hSw.cell (p := ⟨pb, o, none⟩) zP).trans (kP o); go_simp; (try with_reducible rfl))
  case rest104 =>
  (try simp only [Act.put, List.setIfInBounds_toArray, List.set_cons_zero, List.set_cons_succ])
  refine Goes.take (i := 4) (oi := ?oi105) (x := ?vx105) ?ho105 (by kernel_rfl) (by kernel_rfl) (by kernel_rfl) (by kernel_rfl) (fun _ _ _ h => h) (Or.inl ⟨?hw105, ?hy105⟩) (Below.drew (Below.refl _ _)) ?rest105
  case ho105 => (simp only [List.getElem?_toArray, List.getElem?_cons_succ, List.getElem?_cons_zero] <;> rfl)
  case hw105 => rfl
  case hy105 => (intro w' hSw; have jR := fun o => (hSw.cell (p := ⟨bR, o, none⟩) zR).trans (kR o); have jP := fun o => (hSw.cell (p := ⟨pb, o, none⟩) zP).trans (kP o); go_simp; (try with_reducible rfl))
  case rest105 =>
  (try simp only [Act.put, List.setIfInBounds_toArray, List.set_cons_zero, List.set_cons_succ])
  refine Goes.take (i := 5) (oi := ?oi106) (x := ?vx106) ?ho106 (by kernel_rfl) (by kernel_rfl) (by kernel_rfl) (by kernel_rfl) (fun _ _ _ h => h) (Or.inl ⟨?hw106, ?hy106⟩) (Below.drew (Below.refl _ _)) ?rest106
  case ho106 => (simp only [List.getElem?_toArray, List.getElem?_cons_succ, List.getElem?_cons_zero] <;> rfl)
  case hw106 => rfl
  case hy106 => (intro w' hSw; have jR := fun o => (hSw.cell (p := ⟨bR, o, none⟩) zR).trans (kR o); have jP := fun o => (hSw.cell (p := ⟨pb, o, none⟩) zP).trans (kP o); go_simp; (try with_reducible rfl))
  case rest106 =>
  (try simp only [Act.put, List.setIfInBounds_toArray, List.set_cons_zero, List.set_cons_succ])
  refine Goes.take (i := 6) (oi := ?oi107) (x := ?vx107) ?ho107 (by kernel_rfl) (by kernel_rfl) (by kernel_rfl) (by kernel_rfl) (fun _ _ _ h => h) (Or.inl ⟨?hw107, ?hy107⟩) (Below.drew (Below.refl _ _)) ?rest107
  case ho107 => (simp only [List.getElem?_toArray, List.getElem?_cons_succ, List.getElem?_cons_zero] <;> rfl)
  case hw107 => rfl
  case hy107 => (intro w' hSw; have jR := fun o => (hSw.cell (p := ⟨bR, o, none⟩) zR).trans (kR o); have jP := fun o => (hSw.cell (p := ⟨pb, o, none⟩) zP).trans (kP o); go_simp; (try with_reducible rfl))
  case rest107 =>
  (try simp only [Act.put, List.setIfInBounds_toArray, List.set_cons_zero, List.set_cons_succ])
  refine Goes.take (i := 7) (oi := ?oi108) (x := ?vx108) ?ho108 (by kernel_rfl) (by kernel_rfl) (by kernel_rfl) (by kernel_rfl) (fun _ _ _ h => h) (Or.inl ⟨?hw108, ?hy108⟩) (Below.drew (Below.refl _ _)) ?rest108
  case ho108 => (simp only [List.getElem?_toArray, List.getElem?_cons_succ, List.getElem?_cons_zero] <;> rfl)
  case hw108 => rfl
  case hy108 => (intro w' hSw; have jR := fun o => (hSw.cell (p := ⟨bR, o, none⟩) zR).trans (kR o); have jP := fun o => (hSw.cell (p := ⟨pb, o, none⟩) zP).trans (kP o); go_simp; (try with_reducible rfl))
  case rest108 =>
  (try simp only [Act.put, List.setIfInBounds_toArray, List.set_cons_zero, List.set_cons_succ])
  refine Goes.take (i := 8) (oi := ?oi109) (x := ?vx109) ?ho109 (by kernel_rfl) (by kernel_rfl) (by kernel_rfl) (by kernel_rfl) (fun _ _ _ h => h) (Or.inl ⟨?hw109, ?hy109⟩) (Below.drew (Below.refl _ _)) ?rest109
  case ho109 => (simp only [List.getElem?_toArray, List.getElem?_cons_succ, List.getElem?_cons_zero] <;> rfl)
  case hw109 => rfl
  case hy109 => (intro w' hSw; have jR := fun o => (hSw.cell (p := ⟨bR, o, none⟩) zR).trans (kR o); have jP := fun o => (hSw.cell (p := ⟨pb, o, none⟩) zP).trans (kP o); go_simp; (try with_reducible rfl))
  case rest109 =>
  (try simp only [Act.put, List.setIfInBounds_toArray, List.set_cons_zero, List.set_cons_succ])
  refine Goes.take (i := 9) (oi := ?oi110) (x := ?vx110) ?ho110 (by kernel_rfl) (by kernel_rfl) (by kernel_rfl) (by kernel_rfl) (fun _ _ _ h => h) (Or.inl ⟨?hw110, ?hy110⟩) (Below.drew (Below.refl _ _)) ?rest110
  case ho110 => (simp only [List.getElem?_toArray, List.getElem?_cons_succ, List.getElem?_cons_zero] <;> rfl)
  case hw110 => rfl
  case hy110 => (intro w' hSw; have jR := fun o => (hSw.cell (p := ⟨bR, o, none⟩) zR).trans (kR o); have jP := fun o => (hSw.cell (p := ⟨pb, o, none⟩) zP).trans (kP o); go_simp; (try with_reducible rfl))
  case rest110 =>
  (try simp only [Act.put, List.setIfInBounds_toArray, List.set_cons_zero, List.set_cons_succ])
  refine Goes.done (by kernel_rfl) ?_ _
  refine NoPanic.normal ?_
  have hb : Below w2.heap.size w2 w2.drew := Below.drew (Below.refl _ _)
  generalize hWW : w2.drew = w3 at hb ⊢
  clear hWW
  replace D : Hid (Below w.heap.size w w3) := D.out.trans (hb.mono D.out.size)
  replace kP := bx_below kP zP hb
  replace fP := bxF fP hb zP
  replace zP := Nat.lt_of_lt_of_le zP hb.size
  replace kR := bx_below kR zR hb
  replace zR := Nat.lt_of_lt_of_le zR hb.size
  replace K : Hid (Own w3 m eK shCatchO (c0, c1, sp, ()) [.int .i64 c0, .int .i64 c1, .slice va sn vc]) := Own.below K.out (by omega) hb
  replace lK : eK ≤ w3.heap.size := Nat.le_trans lK hb.size
  replace S : Hid (Own w3 hS tS shSender (t0, t1, t2, tl, ()) [.int .i64 t0, .int .i64 t1, .int .i64 t2, .slice ta tn tc]) := Own.below S.out (by omega) hb
  replace lS : tS ≤ w3.heap.size := Nat.le_trans lS hb.size
  replace HB : Hid (Below pb w w3) := HB.out.trans (hb.mono (Nat.le_trans (Nat.le_of_lt hz) HB.out.size))
  clear hb
  by_cases hpos : 0 < n
  case neg =>
    have hC := HC1.out
    rw [if_neg hpos] at hC
    subst hC
    go_upto_region 11 with fail
    replace kP := bx_put kP (k := 6) (v := .int .i64 t0) (by simp)
    simp only [List.setIfInBounds_toArray, List.set_cons_zero, List.set_cons_succ] at kP
    replace fP : ∀ o, (w3.setCell ⟨pb, 6, none⟩ (.int .i64 t0)).frozen? ⟨pb, o, none⟩ = false := fx_setCA fP
    replace zP : pb < (w3.setCell ⟨pb, 6, none⟩ (.int .i64 t0)).heap.size := by have h : (w3.setCell ⟨pb, 6, none⟩ (.int .i64 t0)).heap.size = w3.heap.size := (by simp); omega
    replace kR : ∀ o, (w3.setCell ⟨pb, 6, none⟩ (.int .i64 t0)).cell? ⟨bR, o, none⟩ = ((#[.int .i64 0, .int .i64 t0, .int .i64 t1, .int .i64 t2, .slice ta tn tc] : Array Value))[o]? := bx_setCA kR (by omega)
    replace zR : bR < (w3.setCell ⟨pb, 6, none⟩ (.int .i64 t0)).heap.size := by have h : (w3.setCell ⟨pb, 6, none⟩ (.int .i64 t0)).heap.size = w3.heap.size := (by simp); omega
    replace K : Hid (Own (w3.setCell ⟨pb, 6, none⟩ (.int .i64 t0)) m eK shCatchO (c0, c1, sp, ()) [.int .i64 c0, .int .i64 c1, .slice va sn vc]) := Own.keep K.out (fun b h1 h2 => Below.heap_setCell _ _ _ _ (by dsimp only; omega))
    replace lK : eK ≤ (w3.setCell ⟨pb, 6, none⟩ (.int .i64 t0)).heap.size := by have h : (w3.setCell ⟨pb, 6, none⟩ (.int .i64 t0)).heap.size = w3.heap.size := (by simp); omega
    replace S : Hid (Own (w3.setCell ⟨pb, 6, none⟩ (.int .i64 t0)) hS tS shSender (t0, t1, t2, tl, ()) [.int .i64 t0, .int .i64 t1, .int .i64 t2, .slice ta tn tc]) := Own.keep S.out (fun b h1 h2 => Below.heap_setCell _ _ _ _ (by dsimp only; omega))
    replace lS : tS ≤ (w3.setCell ⟨pb, 6, none⟩ (.int .i64 t0)).heap.size := by have h : (w3.setCell ⟨pb, 6, none⟩ (.int .i64 t0)).heap.size = w3.heap.size := (by simp); omega
    replace HB : Hid (Below pb w (w3.setCell ⟨pb, 6, none⟩ (.int .i64 t0))) := Below.setCell (p := ⟨pb, 6, none⟩) HB.out (by dsimp only; omega) _
    generalize hWW : (w3.setCell ⟨pb, 6, none⟩ (.int .i64 t0)) = v0 at kP zP fP kR zR K lK S lS HB ⊢
    clear hWW
    replace kP := bx_put kP (k := 7) (v := .int .i64 t1) (by simp)
    simp only [List.setIfInBounds_toArray, List.set_cons_zero, List.set_cons_succ] at kP
    replace fP : ∀ o, (v0.setCell ⟨pb, 7, none⟩ (.int .i64 t1)).frozen? ⟨pb, o, none⟩ = false := fx_setCA fP
    replace zP : pb < (v0.setCell ⟨pb, 7, none⟩ (.int .i64 t1)).heap.size := by have h : (v0.setCell ⟨pb, 7, none⟩ (.int .i64 t1)).heap.size = v0.heap.size := (by simp); omega
    replace kR : ∀ o, (v0.setCell ⟨pb, 7, none⟩ (.int .i64 t1)).cell? ⟨bR, o, none⟩ = ((#[.int .i64 0, .int .i64 t0, .int .i64 t1, .int .i64 t2, .slice ta tn tc] : Array Value))[o]? := bx_setCA kR (by omega)
    replace zR : bR < (v0.setCell ⟨pb, 7, none⟩ (.int .i64 t1)).heap.size := by have h : (v0.setCell ⟨pb, 7, none⟩ (.int .i64 t1)).heap.size = v0.heap.size := (by simp); omega
    replace K : Hid (Own (v0.setCell ⟨pb, 7, none⟩ (.int .i64 t1)) m eK shCatchO (c0, c1, sp, ()) [.int .i64 c0, .int .i64 c1, .slice va sn vc]) := Own.keep K.out (fun b h1 h2 => Below.heap_setCell _ _ _ _ (by dsimp only; omega))
    replace lK : eK ≤ (v0.setCell ⟨pb, 7, none⟩ (.int .i64 t1)).heap.size := by have h : (v0.setCell ⟨pb, 7, none⟩ (.int .i64 t1)).heap.size = v0.heap.size := (by simp); omega
    replace S : Hid (Own (v0.setCell ⟨pb, 7, none⟩ (.int .i64 t1)) hS tS shSender (t0, t1, t2, tl, ()) [.int .i64 t0, .int .i64 t1, .int .i64 t2, .slice ta tn tc]) := Own.keep S.out (fun b h1 h2 => Below.heap_setCell _ _ _ _ (by dsimp only; omega))
    replace lS : tS ≤ (v0.setCell ⟨pb, 7, none⟩ (.int .i64 t1)).heap.size := by have h : (v0.setCell ⟨pb, 7, none⟩ (.int .i64 t1)).heap.size = v0.heap.size := (by simp); omega
    replace HB : Hid (Below pb w (v0.setCell ⟨pb, 7, none⟩ (.int .i64 t1))) := Below.setCell (p := ⟨pb, 7, none⟩) HB.out (by dsimp only; omega) _
    generalize hWW : (v0.setCell ⟨pb, 7, none⟩ (.int .i64 t1)) = v1 at kP zP fP kR zR K lK S lS HB ⊢
    clear hWW
    replace kP := bx_put kP (k := 8) (v := .int .i64 t2) (by simp)
    simp only [List.setIfInBounds_toArray, List.set_cons_zero, List.set_cons_succ] at kP
    replace fP : ∀ o, (v1.setCell ⟨pb, 8, none⟩ (.int .i64 t2)).frozen? ⟨pb, o, none⟩ = false := fx_setCA fP
    replace zP : pb < (v1.setCell ⟨pb, 8, none⟩ (.int .i64 t2)).heap.size := by have h : (v1.setCell ⟨pb, 8, none⟩ (.int .i64 t2)).heap.size = v1.heap.size := (by simp); omega
    replace kR : ∀ o, (v1.setCell ⟨pb, 8, none⟩ (.int .i64 t2)).cell? ⟨bR, o, none⟩ = ((#[.int .i64 0, .int .i64 t0, .int .i64 t1, .int .i64 t2, .slice ta tn tc] : Array Value))[o]? := bx_setCA kR (by omega)
    replace zR : bR < (v1.setCell ⟨pb, 8, none⟩ (.int .i64 t2)).heap.size := by have h : (v1.setCell ⟨pb, 8, none⟩ (.int .i64 t2)).heap.size = v1.heap.size := (by simp); omega
    replace K : Hid (Own (v1.setCell ⟨pb, 8, none⟩ (.int .i64 t2)) m eK shCatchO (c0, c1, sp, ()) [.int .i64 c0, .int .i64 c1, .slice va sn vc]) := Own.keep K.out (fun b h1 h2 => Below.heap_setCell _ _ _ _ (by dsimp only; omega))
    replace lK : eK ≤ (v1.setCell ⟨pb, 8, none⟩ (.int .i64 t2)).heap.size := by have h : (v1.setCell ⟨pb, 8, none⟩ (.int .i64 t2)).heap.size = v1.heap.size := (by simp); omega
    replace S : Hid (Own (v1.setCell ⟨pb, 8, none⟩ (.int .i64 t2)) hS tS shSender (t0, t1, t2, tl, ()) [.int .i64 t0, .int .i64 t1, .int .i64 t2, .slice ta tn tc]) := Own.keep S.out (fun b h1 h2 => Below.heap_setCell _ _ _ _ (by dsimp only; omega))
    replace lS : tS ≤ (v1.setCell ⟨pb, 8, none⟩ (.int .i64 t2)).heap.size := by have h : (v1.setCell ⟨pb, 8, none⟩ (.int .i64 t2)).heap.size = v1.heap.size := (by simp); omega
    replace HB : Hid (Below pb w (v1.setCell ⟨pb, 8, none⟩ (.int .i64 t2))) := Below.setCell (p := ⟨pb, 8, none⟩) HB.out (by dsimp only; omega) _
    generalize hWW : (v1.setCell ⟨pb, 8, none⟩ (.int .i64 t2)) = v2 at kP zP fP kR zR K lK S lS HB ⊢
    clear hWW
    replace kP := bx_put kP (k := 9) (v := .slice ta tn tc) (by simp)
    simp only [List.setIfInBounds_toArray, List.set_cons_zero, List.set_cons_succ] at kP
    replace fP : ∀ o, (v2.setCell ⟨pb, 9, none⟩ (.slice ta tn tc)).frozen? ⟨pb, o, none⟩ = false := fx_setCA fP
    replace zP : pb < (v2.setCell ⟨pb, 9, none⟩ (.slice ta tn tc)).heap.size := by have h : (v2.setCell ⟨pb, 9, none⟩ (.slice ta tn tc)).heap.size = v2.heap.size := (by simp); omega
    replace kR : ∀ o, (v2.setCell ⟨pb, 9, none⟩ (.slice ta tn tc)).cell? ⟨bR, o, none⟩ = ((#[.int .i64 0, .int .i64 t0, .int .i64 t1, .int .i64 t2, .slice ta tn tc] : Array Value))[o]? := bx_setCA kR (by omega)
    replace zR : bR < (v2.setCell ⟨pb, 9, none⟩ (.slice ta tn tc)).heap.size := by have h : (v2.setCell ⟨pb, 9, none⟩ (.slice ta tn tc)).heap.size = v2.heap.size := (by simp); omega
    replace K : Hid (Own (v2.setCell ⟨pb, 9, none⟩ (.slice ta tn tc)) m eK shCatchO (c0, c1, sp, ()) [.int .i64 c0, .int .i64 c1, .slice va sn vc]) := Own.keep K.out (fun b h1 h2 => Below.heap_setCell _ _ _ _ (by dsimp only; omega))
    replace lK : eK ≤ (v2.setCell ⟨pb, 9, none⟩ (.slice ta tn tc)).heap.size := by have h : (v2.setCell ⟨pb, 9, none⟩ (.slice ta tn tc)).heap.size = v2.heap.size := (by simp); omega
    replace S : Hid (Own (v2.setCell ⟨pb, 9, none⟩ (.slice ta tn tc)) hS tS shSender (t0, t1, t2, tl, ()) [.int .i64 t0, .int .i64 t1, .int .i64 t2, .slice ta tn tc]) := Own.keep S.out (fun b h1 h2 => Below.heap_setCell _ _ _ _ (by dsimp only; omega))
    replace lS : tS ≤ (v2.setCell ⟨pb, 9, none⟩ (.slice ta tn tc)).heap.size := by have h : (v2.setCell ⟨pb, 9, none⟩ (.slice ta tn tc)).heap.size = v2.heap.size := (by simp); omega
    replace HB : Hid (Below pb w (v2.setCell ⟨pb, 9, none⟩ (.slice ta tn tc))) := Below.setCell (p := ⟨pb, 9, none⟩) HB.out (by dsimp only; omega) _
    generalize hWW : (v2.setCell ⟨pb, 9, none⟩ (.slice ta tn tc)) = v3 at kP zP fP kR zR K lK S lS HB ⊢
    clear hWW
    have hq := ctF_ok HCT.out
    have hfin : AkP v3 pb y0 y1 y2 y3 y4 y5 s0 s1 s2 c0 c1 k0 k1 k2 fl sp ua fn uc va sn vc ack := ⟨t0, t1, t2, tl, k0, k1, k2, ta, tn, tc, HAe.out, HTe.out, HCT.out, (Int.le_refl _), kP, ⟨HWF.out.1, WalkArith.wf_i64 (by show -9223372036854775808 ≤ k0 ∧ k0 ≤ 9223372036854775807; omega), WalkArith.wf_i64 (by show -9223372036854775808 ≤ k1 ∧ k1 ≤ 9223372036854775807; omega), WalkArith.wf_i64 (by show -9223372036854775808 ≤ k2 ∧ k2 ≤ 9223372036854775807; omega)⟩, _, _, _, _, S.out, K.out, by omega, by omega⟩
    clear hq
    go_wp2_with fail
    go_ret
    first | exact ⟨rfl, HB.out, fun _ => hfin⟩ | exact ⟨rfl, HB.out, hfin⟩
  have hC := HC1.out
  rw [if_pos hpos] at hC
  subst hC
  go_wp2_with fail
  refine (HG.out _ D.out).mono ?_
  rintro e w4 ⟨rfl, hb⟩
  clear HG
  replace D : Hid (Below w.heap.size w w4) := D.out.trans (hb.mono D.out.size)
  replace kP := bx_below kP zP hb
  replace fP := bxF fP hb zP
  replace zP := Nat.lt_of_lt_of_le zP hb.size
  replace kR := bx_below kR zR hb
  replace zR := Nat.lt_of_lt_of_le zR hb.size
  replace K : Hid (Own w4 m eK shCatchO (c0, c1, sp, ()) [.int .i64 c0, .int .i64 c1, .slice va sn vc]) := Own.below K.out (by omega) hb
  replace lK : eK ≤ w4.heap.size := Nat.le_trans lK hb.size
  replace S : Hid (Own w4 hS tS shSender (t0, t1, t2, tl, ()) [.int .i64 t0, .int .i64 t1, .int .i64 t2, .slice ta tn tc]) := Own.below S.out (by omega) hb
  replace lS : tS ≤ w4.heap.size := Nat.le_trans lS hb.size
  replace HB : Hid (Below pb w w4) := HB.out.trans (hb.mono (Nat.le_trans (Nat.le_of_lt hz) HB.out.size))
  clear hb
  go_upto_region 7 with fail
  have kQ : ∀ o, (w4.alloc (.cells #[.int .i64 CC, .int .i64 g0, .int .i64 g1, .int .i64 g2] 162)).cell? ⟨w4.heap.size, o, none⟩ = (#[.int .i64 CC, .int .i64 g0, .int .i64 g1, .int .i64 g2] : Array Value)[o]? := bx_al w4 _ _
  have hb : Below w4.heap.size w4 (w4.alloc (.cells #[.int .i64 CC, .int .i64 g0, .int .i64 g1, .int .i64 g2] 162)) := (Below.refl _ _).alloc (Nat.le_refl _) _
  have zQ : w4.heap.size < (w4.alloc (.cells #[.int .i64 CC, .int .i64 g0, .int .i64 g1, .int .i64 g2] 162)).heap.size := by simp
  generalize hWW : (w4.alloc (.cells #[.int .i64 CC, .int .i64 g0, .int .i64 g1, .int .i64 g2] 162)) = w5 at kQ hb zQ ⊢
  clear hWW
  obtain ⟨bQ, hq⟩ : ∃ q, q = w4.heap.size := ⟨_, rfl⟩
  rw [← hq] at zQ kQ ⊢
  have lPQ : pb < bQ := by rw [hq]; exact zP
  have lRQ : bR < bQ := by rw [hq]; exact zR
  clear hq
  replace D : Hid (Below w.heap.size w w5) := D.out.trans (hb.mono D.out.size)
  replace kP := bx_below kP zP hb
  replace fP := bxF fP hb zP
  replace zP := Nat.lt_of_lt_of_le zP hb.size
  replace kR := bx_below kR zR hb
  replace zR := Nat.lt_of_lt_of_le zR hb.size
  replace K : Hid (Own w5 m eK shCatchO (c0, c1, sp, ()) [.int .i64 c0, .int .i64 c1, .slice va sn vc]) := Own.below K.out (by omega) hb
  replace lK : eK ≤ w5.heap.size := Nat.le_trans lK hb.size
  replace S : Hid (Own w5 hS tS shSender (t0, t1, t2, tl, ()) [.int .i64 t0, .int .i64 t1, .int .i64 t2, .slice ta tn tc]) := Own.below S.out (by omega) hb
  replace lS : tS ≤ w5.heap.size := Nat.le_trans lS hb.size
  replace HB : Hid (Below pb w w5) := HB.out.trans (hb.mono (Nat.le_trans (Nat.le_of_lt hz) HB.out.size))
  clear hb
  by_cases hG : CC = 0
  case neg =>
    have hG' : (CC != 0) = true := by simp [hG]
    go_wp2_with fail
    go_ret
    exact ⟨rfl, HB.out, fun h => absurd h hG⟩
  subst hG
  obtain ⟨gf1, gf2⟩ := HGF.out rfl
  go_upto_region 10 with fail
  clear kQ zQ
  replace kP := bx_put kP (k := 13) (v := .int .i64 g0) (by simp)
  simp only [List.setIfInBounds_toArray, List.set_cons_zero, List.set_cons_succ] at kP
  replace fP : ∀ o, (w5.setCell ⟨pb, 13, none⟩ (.int .i64 g0)).frozen? ⟨pb, o, none⟩ = false := fx_setCA fP
  replace zP : pb < (w5.setCell ⟨pb, 13, none⟩ (.int .i64 g0)).heap.size := by have h : (w5.setCell ⟨pb, 13, none⟩ (.int .i64 g0)).heap.size = w5.heap.size := (by simp); omega
  replace kR : ∀ o, (w5.setCell ⟨pb, 13, none⟩ (.int .i64 g0)).cell? ⟨bR, o, none⟩ = ((#[.int .i64 0, .int .i64 t0, .int .i64 t1, .int .i64 t2, .slice ta tn tc] : Array Value))[o]? := bx_setCA kR (by omega)
  replace zR : bR < (w5.setCell ⟨pb, 13, none⟩ (.int .i64 g0)).heap.size := by have h : (w5.setCell ⟨pb, 13, none⟩ (.int .i64 g0)).heap.size = w5.heap.size := (by simp); omega
  replace K : Hid (Own (w5.setCell ⟨pb, 13, none⟩ (.int .i64 g0)) m eK shCatchO (c0, c1, sp, ()) [.int .i64 c0, .int .i64 c1, .slice va sn vc]) := Own.keep K.out (fun b h1 h2 => Below.heap_setCell _ _ _ _ (by dsimp only; omega))
  replace lK : eK ≤ (w5.setCell ⟨pb, 13, none⟩ (.int .i64 g0)).heap.size := by have h : (w5.setCell ⟨pb, 13, none⟩ (.int .i64 g0)).heap.size = w5.heap.size := (by simp); omega
  replace S : Hid (Own (w5.setCell ⟨pb, 13, none⟩ (.int .i64 g0)) hS tS shSender (t0, t1, t2, tl, ()) [.int .i64 t0, .int .i64 t1, .int .i64 t2, .slice ta tn tc]) := Own.keep S.out (fun b h1 h2 => Below.heap_setCell _ _ _ _ (by dsimp only; omega))
  replace lS : tS ≤ (w5.setCell ⟨pb, 13, none⟩ (.int .i64 g0)).heap.size := by have h : (w5.setCell ⟨pb, 13, none⟩ (.int .i64 g0)).heap.size = w5.heap.size := (by simp); omega
  replace HB : Hid (Below pb w (w5.setCell ⟨pb, 13, none⟩ (.int .i64 g0))) := Below.setCell (p := ⟨pb, 13, none⟩) HB.out (by dsimp only; omega) _
  generalize hWW : (w5.setCell ⟨pb, 13, none⟩ (.int .i64 g0)) = x0 at kP zP fP kR zR K lK S lS HB ⊢
  clear hWW
  replace kP := bx_put kP (k := 14) (v := .int .i64 g1) (by simp)
  simp only [List.setIfInBounds_toArray, List.set_cons_zero, List.set_cons_succ] at kP
  replace fP : ∀ o, (x0.setCell ⟨pb, 14, none⟩ (.int .i64 g1)).frozen? ⟨pb, o, none⟩ = false := fx_setCA fP
  replace zP : pb < (x0.setCell ⟨pb, 14, none⟩ (.int .i64 g1)).heap.size := by have h : (x0.setCell ⟨pb, 14, none⟩ (.int .i64 g1)).heap.size = x0.heap.size := (by simp); omega
  replace kR : ∀ o, (x0.setCell ⟨pb, 14, none⟩ (.int .i64 g1)).cell? ⟨bR, o, none⟩ = ((#[.int .i64 0, .int .i64 t0, .int .i64 t1, .int .i64 t2, .slice ta tn tc] : Array Value))[o]? := bx_setCA kR (by omega)
  replace zR : bR < (x0.setCell ⟨pb, 14, none⟩ (.int .i64 g1)).heap.size := by have h : (x0.setCell ⟨pb, 14, none⟩ (.int .i64 g1)).heap.size = x0.heap.size := (by simp); omega
  replace K : Hid (Own (x0.setCell ⟨pb, 14, none⟩ (.int .i64 g1)) m eK shCatchO (c0, c1, sp, ()) [.int .i64 c0, .int .i64 c1, .slice va sn vc]) := Own.keep K.out (fun b h1 h2 => Below.heap_setCell _ _ _ _ (by dsimp only; omega))
  replace lK : eK ≤ (x0.setCell ⟨pb, 14, none⟩ (.int .i64 g1)).heap.size := by have h : (x0.setCell ⟨pb, 14, none⟩ (.int .i64 g1)).heap.size = x0.heap.size := (by simp); omega
  replace S : Hid (Own (x0.setCell ⟨pb, 14, none⟩ (.int .i64 g1)) hS tS shSender (t0, t1, t2, tl, ()) [.int .i64 t0, .int .i64 t1, .int .i64 t2, .slice ta tn tc]) := Own.keep S.out (fun b h1 h2 => Below.heap_setCell _ _ _ _ (by dsimp only; omega))
  replace lS : tS ≤ (x0.setCell ⟨pb, 14, none⟩ (.int .i64 g1)).heap.size := by have h : (x0.setCell ⟨pb, 14, none⟩ (.int .i64 g1)).heap.size = x0.heap.size := (by simp); omega
  replace HB : Hid (Below pb w (x0.setCell ⟨pb, 14, none⟩ (.int .i64 g1))) := Below.setCell (p := ⟨pb, 14, none⟩) HB.out (by dsimp only; omega) _
  generalize hWW : (x0.setCell ⟨pb, 14, none⟩ (.int .i64 g1)) = x1 at kP zP fP kR zR K lK S lS HB ⊢
  clear hWW
  replace kP := bx_put kP (k := 15) (v := .int .i64 g2) (by simp)
  simp only [List.setIfInBounds_toArray, List.set_cons_zero, List.set_cons_succ] at kP
  replace fP : ∀ o, (x1.setCell ⟨pb, 15, none⟩ (.int .i64 g2)).frozen? ⟨pb, o, none⟩ = false := fx_setCA fP
  replace zP : pb < (x1.setCell ⟨pb, 15, none⟩ (.int .i64 g2)).heap.size := by have h : (x1.setCell ⟨pb, 15, none⟩ (.int .i64 g2)).heap.size = x1.heap.size := (by simp); omega
  replace kR : ∀ o, (x1.setCell ⟨pb, 15, none⟩ (.int .i64 g2)).cell? ⟨bR, o, none⟩ = ((#[.int .i64 0, .int .i64 t0, .int .i64 t1, .int .i64 t2, .slice ta tn tc] : Array Value))[o]? := bx_setCA kR (by omega)
  replace zR : bR < (x1.setCell ⟨pb, 15, none⟩ (.int .i64 g2)).heap.size := by have h : (x1.setCell ⟨pb, 15, none⟩ (.int .i64 g2)).heap.size = x1.heap.size := (by simp); omega
  replace K : Hid (Own (x1.setCell ⟨pb, 15, none⟩ (.int .i64 g2)) m eK shCatchO (c0, c1, sp, ()) [.int .i64 c0, .int .i64 c1, .slice va sn vc]) := Own.keep K.out (fun b h1 h2 => Below.heap_setCell _ _ _ _ (by dsimp only; omega))
  replace lK : eK ≤ (x1.setCell ⟨pb, 15, none⟩ (.int .i64 g2)).heap.size := by have h : (x1.setCell ⟨pb, 15, none⟩ (.int .i64 g2)).heap.size = x1.heap.size := (by simp); omega
  replace S : Hid (Own (x1.setCell ⟨pb, 15, none⟩ (.int .i64 g2)) hS tS shSender (t0, t1, t2, tl, ()) [.int .i64 t0, .int .i64 t1, .int .i64 t2, .slice ta tn tc]) := Own.keep S.out (fun b h1 h2 => Below.heap_setCell _ _ _ _ (by dsimp only; omega))
  replace lS : tS ≤ (x1.setCell ⟨pb, 15, none⟩ (.int .i64 g2)).heap.size := by have h : (x1.setCell ⟨pb, 15, none⟩ (.int .i64 g2)).heap.size = x1.heap.size := (by simp); omega
  replace HB : Hid (Below pb w (x1.setCell ⟨pb, 15, none⟩ (.int .i64 g2))) := Below.setCell (p := ⟨pb, 15, none⟩) HB.out (by dsimp only; omega) _
  generalize hWW : (x1.setCell ⟨pb, 15, none⟩ (.int .i64 g2)) = x2 at kP zP fP kR zR K lK S lS HB ⊢
  clear hWW
  go_upto_region 11 with fail
  replace kP := bx_put kP (k := 6) (v := .int .i64 t0) (by simp)
  simp only [List.setIfInBounds_toArray, List.set_cons_zero, List.set_cons_succ] at kP
  replace fP : ∀ o, (x2.setCell ⟨pb, 6, none⟩ (.int .i64 t0)).frozen? ⟨pb, o, none⟩ = false := fx_setCA fP
  replace zP : pb < (x2.setCell ⟨pb, 6, none⟩ (.int .i64 t0)).heap.size := by have h : (x2.setCell ⟨pb, 6, none⟩ (.int .i64 t0)).heap.size = x2.heap.size := (by simp); omega
  replace kR : ∀ o, (x2.setCell ⟨pb, 6, none⟩ (.int .i64 t0)).cell? ⟨bR, o, none⟩ = ((#[.int .i64 0, .int .i64 t0, .int .i64 t1, .int .i64 t2, .slice ta tn tc] : Array Value))[o]? := bx_setCA kR (by omega)
  replace zR : bR < (x2.setCell ⟨pb, 6, none⟩ (.int .i64 t0)).heap.size := by have h : (x2.setCell ⟨pb, 6, none⟩ (.int .i64 t0)).heap.size = x2.heap.size := (by simp); omega
  replace K : Hid (Own (x2.setCell ⟨pb, 6, none⟩ (.int .i64 t0)) m eK shCatchO (c0, c1, sp, ()) [.int .i64 c0, .int .i64 c1, .slice va sn vc]) := Own.keep K.out (fun b h1 h2 => Below.heap_setCell _ _ _ _ (by dsimp only; omega))
  replace lK : eK ≤ (x2.setCell ⟨pb, 6, none⟩ (.int .i64 t0)).heap.size := by have h : (x2.setCell ⟨pb, 6, none⟩ (.int .i64 t0)).heap.size = x2.heap.size := (by simp); omega
  replace S : Hid (Own (x2.setCell ⟨pb, 6, none⟩ (.int .i64 t0)) hS tS shSender (t0, t1, t2, tl, ()) [.int .i64 t0, .int .i64 t1, .int .i64 t2, .slice ta tn tc]) := Own.keep S.out (fun b h1 h2 => Below.heap_setCell _ _ _ _ (by dsimp only; omega))
  replace lS : tS ≤ (x2.setCell ⟨pb, 6, none⟩ (.int .i64 t0)).heap.size := by have h : (x2.setCell ⟨pb, 6, none⟩ (.int .i64 t0)).heap.size = x2.heap.size := (by simp); omega
  replace HB : Hid (Below pb w (x2.setCell ⟨pb, 6, none⟩ (.int .i64 t0))) := Below.setCell (p := ⟨pb, 6, none⟩) HB.out (by dsimp only; omega) _
  generalize hWW : (x2.setCell ⟨pb, 6, none⟩ (.int .i64 t0)) = v0 at kP zP fP kR zR K lK S lS HB ⊢
  clear hWW
  replace kP := bx_put kP (k := 7) (v := .int .i64 t1) (by simp)
  simp only [List.setIfInBounds_toArray, List.set_cons_zero, List.set_cons_succ] at kP
  replace fP : ∀ o, (v0.setCell ⟨pb, 7, none⟩ (.int .i64 t1)).frozen? ⟨pb, o, none⟩ = false := fx_setCA fP
  replace zP : pb < (v0.setCell ⟨pb, 7, none⟩ (.int .i64 t1)).heap.size := by have h : (v0.setCell ⟨pb, 7, none⟩ (.int .i64 t1)).heap.size = v0.heap.size := (by simp); omega
  replace kR : ∀ o, (v0.setCell ⟨pb, 7, none⟩ (.int .i64 t1)).cell? ⟨bR, o, none⟩ = ((#[.int .i64 0, .int .i64 t0, .int .i64 t1, .int .i64 t2, .slice ta tn tc] : Array Value))[o]? := bx_setCA kR (by omega)
  replace zR : bR < (v0.setCell ⟨pb, 7, none⟩ (.int .i64 t1)).heap.size := by have h : (v0.setCell ⟨pb, 7, none⟩ (.int .i64 t1)).heap.size = v0.heap.size := (by simp); omega
  replace K : Hid (Own (v0.setCell ⟨pb, 7, none⟩ (.int .i64 t1)) m eK shCatchO (c0, c1, sp, ()) [.int .i64 c0, .int .i64 c1, .slice va sn vc]) := Own.keep K.out (fun b h1 h2 => Below.heap_setCell _ _ _ _ (by dsimp only; omega))
  replace lK : eK ≤ (v0.setCell ⟨pb, 7, none⟩ (.int .i64 t1)).heap.size := by have h : (v0.setCell ⟨pb, 7, none⟩ (.int .i64 t1)).heap.size = v0.heap.size := (by simp); omega
  replace S : Hid (Own (v0.setCell ⟨pb, 7, none⟩ (.int .i64 t1)) hS tS shSender (t0, t1, t2, tl, ()) [.int .i64 t0, .int .i64 t1, .int .i64 t2, .slice ta tn tc]) := Own.keep S.out (fun b h1 h2 => Below.heap_setCell _ _ _ _ (by dsimp only; omega))
  replace lS : tS ≤ (v0.setCell ⟨pb, 7, none⟩ (.int .i64 t1)).heap.size := by have h : (v0.setCell ⟨pb, 7, none⟩ (.int .i64 t1)).heap.size = v0.heap.size := (by simp); omega
  replace HB : Hid (Below pb w (v0.setCell ⟨pb, 7, none⟩ (.int .i64 t1))) := Below.setCell (p := ⟨pb, 7, none⟩) HB.out (by dsimp only; omega) _
  generalize hWW : (v0.setCell ⟨pb, 7, none⟩ (.int .i64 t1)) = v1 at kP zP fP kR zR K lK S lS HB ⊢
  clear hWW
  replace kP := bx_put kP (k := 8) (v := .int .i64 t2) (by simp)
  simp only [List.setIfInBounds_toArray, List.set_cons_zero, List.set_cons_succ] at kP
  replace fP : ∀ o, (v1.setCell ⟨pb, 8, none⟩ (.int .i64 t2)).frozen? ⟨pb, o, none⟩ = false := fx_setCA fP
  replace zP : pb < (v1.setCell ⟨pb, 8, none⟩ (.int .i64 t2)).heap.size := by have h : (v1.setCell ⟨pb, 8, none⟩ (.int .i64 t2)).heap.size = v1.heap.size := (by simp); omega
  replace kR : ∀ o, (v1.setCell ⟨pb, 8, none⟩ (.int .i64 t2)).cell? ⟨bR, o, none⟩ = ((#[.int .i64 0, .int .i64 t0, .int .i64 t1, .int .i64 t2, .slice ta tn tc] : Array Value))[o]? := bx_setCA kR (by omega)
  replace zR : bR < (v1.setCell ⟨pb, 8, none⟩ (.int .i64 t2)).heap.size := by have h : (v1.setCell ⟨pb, 8, none⟩ (.int .i64 t2)).heap.size = v1.heap.size := (by simp); omega
  replace K : Hid (Own (v1.setCell ⟨pb, 8, none⟩ (.int .i64 t2)) m eK shCatchO (c0, c1, sp, ()) [.int .i64 c0, .int .i64 c1, .slice va sn vc]) := Own.keep K.out (fun b h1 h2 => Below.heap_setCell _ _ _ _ (by dsimp only; omega))
  replace lK : eK ≤ (v1.setCell ⟨pb, 8, none⟩ (.int .i64 t2)).heap.size := by have h : (v1.setCell ⟨pb, 8, none⟩ (.int .i64 t2)).heap.size = v1.heap.size := (by simp); omega
  replace S : Hid (Own (v1.setCell ⟨pb, 8, none⟩ (.int .i64 t2)) hS tS shSender (t0, t1, t2, tl, ()) [.int .i64 t0, .int .i64 t1, .int .i64 t2, .slice ta tn tc]) := Own.keep S.out (fun b h1 h2 => Below.heap_setCell _ _ _ _ (by dsimp only; omega))
  replace lS : tS ≤ (v1.setCell ⟨pb, 8, none⟩ (.int .i64 t2)).heap.size := by have h : (v1.setCell ⟨pb, 8, none⟩ (.int .i64 t2)).heap.size = v1.heap.size := (by simp); omega
  replace HB : Hid (Below pb w (v1.setCell ⟨pb, 8, none⟩ (.int .i64 t2))) := Below.setCell (p := ⟨pb, 8, none⟩) HB.out (by dsimp only; omega) _
  generalize hWW : (v1.setCell ⟨pb, 8, none⟩ (.int .i64 t2)) = v2 at kP zP fP kR zR K lK S lS HB ⊢
  clear hWW
  replace kP := bx_put kP (k := 9) (v := .slice ta tn tc) (by simp)
  simp only [List.setIfInBounds_toArray, List.set_cons_zero, List.set_cons_succ] at kP
  replace fP : ∀ o, (v2.setCell ⟨pb, 9, none⟩ (.slice ta tn tc)).frozen? ⟨pb, o, none⟩ = false := fx_setCA fP
  replace zP : pb < (v2.setCell ⟨pb, 9, none⟩ (.slice ta tn tc)).heap.size := by have h : (v2.setCell ⟨pb, 9, none⟩ (.slice ta tn tc)).heap.size = v2.heap.size := (by simp); omega
  replace kR : ∀ o, (v2.setCell ⟨pb, 9, none⟩ (.slice ta tn tc)).cell? ⟨bR, o, none⟩ = ((#[.int .i64 0, .int .i64 t0, .int .i64 t1, .int .i64 t2, .slice ta tn tc] : Array Value))[o]? := bx_setCA kR (by omega)
  replace zR : bR < (v2.setCell ⟨pb, 9, none⟩ (.slice ta tn tc)).heap.size := by have h : (v2.setCell ⟨pb, 9, none⟩ (.slice ta tn tc)).heap.size = v2.heap.size := (by simp); omega
  replace K : Hid (Own (v2.setCell ⟨pb, 9, none⟩ (.slice ta tn tc)) m eK shCatchO (c0, c1, sp, ()) [.int .i64 c0, .int .i64 c1, .slice va sn vc]) := Own.keep K.out (fun b h1 h2 => Below.heap_setCell _ _ _ _ (by dsimp only; omega))
  replace lK : eK ≤ (v2.setCell ⟨pb, 9, none⟩ (.slice ta tn tc)).heap.size := by have h : (v2.setCell ⟨pb, 9, none⟩ (.slice ta tn tc)).heap.size = v2.heap.size := (by simp); omega
  replace S : Hid (Own (v2.setCell ⟨pb, 9, none⟩ (.slice ta tn tc)) hS tS shSender (t0, t1, t2, tl, ()) [.int .i64 t0, .int .i64 t1, .int .i64 t2, .slice ta tn tc]) := Own.keep S.out (fun b h1 h2 => Below.heap_setCell _ _ _ _ (by dsimp only; omega))
  replace lS : tS ≤ (v2.setCell ⟨pb, 9, none⟩ (.slice ta tn tc)).heap.size := by have h : (v2.setCell ⟨pb, 9, none⟩ (.slice ta tn tc)).heap.size = v2.heap.size := (by simp); omega
  replace HB : Hid (Below pb w (v2.setCell ⟨pb, 9, none⟩ (.slice ta tn tc))) := Below.setCell (p := ⟨pb, 9, none⟩) HB.out (by dsimp only; omega) _
  generalize hWW : (v2.setCell ⟨pb, 9, none⟩ (.slice ta tn tc)) = v3 at kP zP fP kR zR K lK S lS HB ⊢
  clear hWW
  have hq := ctF_ok gf1
  have hfin : AkP v3 pb y0 y1 y2 y3 y4 y5 s0 s1 s2 c0 c1 k0 k1 k2 fl sp ua fn uc va sn vc ack := ⟨t0, t1, t2, tl, g0, g1, g2, ta, tn, tc, HAe.out, HTe.out, gf1, gf2, kP, ⟨HWF.out.1, WalkArith.wf_i64 (by show -9223372036854775808 ≤ g0 ∧ g0 ≤ 9223372036854775807; omega), WalkArith.wf_i64 (by show -9223372036854775808 ≤ g1 ∧ g1 ≤ 9223372036854775807; omega), WalkArith.wf_i64 (by show -9223372036854775808 ≤ g2 ∧ g2 ≤ 9223372036854775807; omega)⟩, _, _, _, _, S.out, K.out, by omega, by omega⟩
  clear hq
  go_wp2_with fail
  go_ret
  first | exact ⟨rfl, HB.out, fun _ => hfin⟩ | exact ⟨rfl, HB.out, hfin⟩
end Go.Proofs.Ytebgibjokljlbaa
