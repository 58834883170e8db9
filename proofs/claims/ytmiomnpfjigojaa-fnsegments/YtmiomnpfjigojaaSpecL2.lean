/- What the model's l2Pack makes of a segment without a fault: its bytes, new ones; nothing that was in memory turns. -/
import Derived.Test.YtmiomnpfjigojaaRows
import Derived.Test.YtmiomnpfjigojaaBase
import Derived.Test.YtmiomnpfjigojaaBytes
import Derived.Test.YtmiomnpfjigojaaAppBytes
import Derived.Test.YtmiomnpfjigojaaApp
import Derived.Test.YtmiomnpfjigojaaSeg
import Derived.Test.YtmiomnpfjigojaaSpecSeg
import Derived.Test.YtmiomnpfjigojaaSpecPack
import Derived.Test.YtmiomnpfjigojaaLaw
import Derived.Test.YtmiomnpfjigojaaPackDef
import Derived.Deep.DeepMust
import Derived.Deep.RegionLaw
import Derived.Deep.DrawnRows
namespace Go.Proofs.Ytmiomnpfjigojaa
open Go.RowKit
set_option linter.unusedVariables false
attribute [local go_sem ↓] Go.wp_at_zero Go.wp_at_succ

set_option maxRecDepth 8000 in
set_option maxHeartbeats 8000000 in
theorem sPack (s : Seg) (a : Option Addr) (n cap : Nat) (w : World) (hl : s.load.length = n) (hr : RB w a s.load) (hnil : a = none → cap = 0) (hk : s.Ok) :
    Calls Try.prog 70 #[.agg #[.int .i64 s.path, .int .i64 s.frm, .bool s.syn, .bool s.ackd, .bool s.rst, .int .i64 s.seq, .int .i64 s.ack, .int .i64 s.fin, .int .i64 s.opt, .int .i64 s.a, .int .i64 s.b, .slice a n cap]] w fun e w' => ∃ v, e = .returned v ∧ OB w' w.heap.size v (packB s) ∧ Below w.heap.size w w' := by
  have HR : Hid _ := hr
  have HN : Hid _ := hnil
  have HK : Hid _ := hk
  obtain ⟨⟨k1, k2⟩, ⟨k3, k4⟩, -, -, -, -, -, -, k5⟩ := hk
  clear hr hnil
  obtain ⟨A, hA⟩ : ∃ A : Array Value, A = #[.int .i64 s.path, .int .i64 s.frm, .bool s.syn, .bool s.ackd, .bool s.rst, .int .i64 s.seq, .int .i64 s.ack, .int .i64 s.fin, .int .i64 s.opt, .int .i64 s.a, .int .i64 s.b, .slice a n cap] := ⟨_, rfl⟩
  rw [← hA]
  have c0 : A[0]? = some (.int .i64 s.path) := by rw [hA]; rfl
  have c1 : A[1]? = some (.int .i64 s.frm) := by rw [hA]; rfl
  have c2 : A[2]? = some (.bool s.syn) := by rw [hA]; rfl
  have c3 : A[3]? = some (.bool s.ackd) := by rw [hA]; rfl
  have c4 : A[4]? = some (.bool s.rst) := by rw [hA]; rfl
  have c5 : A[5]? = some (.int .i64 s.seq) := by rw [hA]; rfl
  have c6 : A[6]? = some (.int .i64 s.ack) := by rw [hA]; rfl
  have c7 : A[7]? = some (.int .i64 s.fin) := by rw [hA]; rfl
  have c8 : A[8]? = some (.int .i64 s.opt) := by rw [hA]; rfl
  have c9 : A[9]? = some (.int .i64 s.a) := by rw [hA]; rfl
  have c10 : A[10]? = some (.int .i64 s.b) := by rw [hA]; rfl
  have c11 : A[11]? = some (.slice a n cap) := by rw [hA]; rfl
  clear hA
  go_enter Try.func70, Try.ntmps70
  go_upto_if 6 with fail
  go_cut [3] (fun u wx => u = .int .u8 (if s.syn then 1 else 0) ∧ wx = w.alloc (.cells A 40))
  case first =>
    go_wp2_with fail
    all_goals (go_meet; exact ⟨by simp [*], rfl⟩)
  case rest =>
  obtain ⟨rfl, rfl⟩ := hcut
  go_upto_if 10 with fail
  go_cut [3] (fun u wx => u = .int .u8 ((if s.syn then 1 else 0) + (if s.ackd then 2 else 0)) ∧ wx = w.alloc (.cells A 40))
  case first =>
    go_wp2_with fail
    all_goals (go_meet; exact ⟨by rcases Bool.eq_false_or_eq_true s.syn with h | h <;> simp [*], rfl⟩)
  case rest =>
  obtain ⟨rfl, rfl⟩ := hcut
  go_upto_if 14 with fail
  go_cut [3] (fun u wx => u = .int .u8 (flagB s) ∧ Below w.heap.size w wx ∧ w.heap.size < wx.heap.size ∧ ∀ o, wx.cell? ⟨w.heap.size, o, none⟩ = A[o]?)
  case first =>
    go_wp2_with fail
    all_goals (go_meet; exact ⟨by unfold flagB; rcases Bool.eq_false_or_eq_true s.syn with h | h <;> rcases Bool.eq_false_or_eq_true s.ackd with h' | h' <;> simp [*], (Below.refl _ _).alloc (Nat.le_refl _) _, by simp, fun o => by simp⟩)
  case rest =>
  rename World => W
  obtain ⟨rfl, hbW, S0, B0⟩ := hcut
  have HW : Hid _ := hbW
  clear hbW
  have f0 : Hid _ := flagB_bd s
  have x0 : Hid (0 ≤ s.path * 2 + s.frm ∧ s.path * 2 + s.frm ≤ 255) := by show _ ∧ _; omega
  have wx : IntKind.i64.wrap (s.path * 2) = s.path * 2 := by rw [IntKind.wrap_i64]; omega
  have wy : IntKind.i64.wrap (s.path * 2 + s.frm) = s.path * 2 + s.frm := by rw [IntKind.wrap_i64]; omega
  have wz : IntKind.u8.wrap (s.path * 2 + s.frm) = s.path * 2 + s.frm := by rw [u8w]; omega
  obtain ⟨Lq, hLq⟩ : ∃ L, L = beTo s.seq 2 2 := ⟨_, rfl⟩
  have cq : Hid (∀ Z, Calls Try.prog 102 #[.int .i64 s.seq, .int .i64 2] Z fun e w' => ∃ v, e = .returned v ∧ OB w' Z.heap.size v Lq ∧ Below Z.heap.size Z w') := fun Z => by rw [hLq]; exact sBytes s.seq 2 Z (by omega) (by omega)
  have lq : Hid (Lq.length = 2) := by rw [hLq, beTo_length]; trivial
  have EQ : Hid _ := hLq
  clear hLq
  obtain ⟨L1, hL1⟩ : ∃ L, L = [s.path * 2 + s.frm, flagB s] ++ Lq := ⟨_, rfl⟩
  have E1 : Hid _ := hL1
  clear hL1
  generalize hfl : flagB s = fl at *
  have HFL : Hid _ := hfl
  clear hfl
  go_wp2_with fail
  go_cut [4] (fun u wx => ∃ a' c', u = .slice a' L1.length c' ∧ OB wx (w.heap.size + 1) (.slice a' L1.length c') L1 ∧ Below (w.heap.size + 1) W wx)
  case first =>
    go_region_held3 (fun w' => w'.cell? ⟨w.heap.size, 0, none⟩ = some (.int .i64 s.path) ∧ w'.cell? ⟨w.heap.size, 1, none⟩ = some (.int .i64 s.frm) ∧ w'.cell? ⟨w.heap.size, 5, none⟩ = some (.int .i64 s.seq)) (first | go_keep)
      (first
        | (go_at_call 102; refine (cq.out _).mono ?_; rintro e w1 ⟨v1, rfl, ho1, hb1⟩; obtain ⟨a1, d1, rfl, hr1, hn1⟩ := ho1.rbn; have R1 : Hid _ := hr1; have N1 : Hid _ := hn1; have HB1 : Hid _ := hb1; have hbW : Hid (Below W.heap.size W w1) := (by first | exact below_drew hb1 | exact (((Below.refl _ _).drew.alloc (Nat.le_refl _) _).trans (hb1.mono (by simp)))); have z1 := hbW.out.size; have S1 : w.heap.size < w1.heap.size := (by omega); have kb1 := box_below B0 S0 hbW.out; clear ho1 hb1 hr1 hn1)
        | (refine app_st _ (by rfl) _ _ 22 22 (by rfl) Try.underlying22 Try.underlying22 (w.heap.size + 1) (.slice (some ⟨w1.heap.size, 0, none⟩) 2 2) [s.path * 2 + s.frm, fl] (by rfl) (OB.made2 _ _ _ _ x0.out ⟨f0.out.1, by have := f0.out.2; omega⟩ (by omega)) a1 Lq Lq.length d1 rfl (by rfl) (RB.below R1.out (Nat.le_refl _) ((Below.refl _ _).alloc (Nat.le_refl _) _)) N1.out (by have := lq.out; simp; omega) (by simp; omega) ?_; intro v2 w2 ho2 hb2 hg2 hat2; rw [← E1.out] at ho2; obtain ⟨a2, d2, rfl, -, -⟩ := ho2.rbn; have O2 : Hid _ := ho2; have HB2 : Hid (Below (w.heap.size + 1) W w2) := Below.trans (hbW.out.mono S0) (((Below.refl _ _).alloc (by omega) _).trans hb2); have kb2 := box_lo (box_below kb1 S1 ((Below.refl _ _).alloc (Nat.le_refl _) _)) (Nat.lt_succ_self _) hb2; clear ho2 hb2 hg2 hat2)
        | (refine app_st _ (by rfl) _ _ 22 22 (by rfl) Try.underlying22 Try.underlying22 (w.heap.size + 1) (.slice (some ⟨W.heap.size, 0, none⟩) 2 2) [s.path * 2 + s.frm, fl] (by rfl) (OB.below (OB.made2 _ _ _ _ x0.out ⟨f0.out.1, by have := f0.out.2; omega⟩ S0) (Nat.le_refl _) (below_drew HB1.out)) a1 Lq Lq.length d1 rfl (by rfl) R1.out N1.out (by have := lq.out; simp; omega) (by omega) ?_; intro v2 w2 ho2 hb2 hg2 hat2; rw [← E1.out] at ho2; obtain ⟨a2, d2, rfl, -, -⟩ := ho2.rbn; have O2 : Hid _ := ho2; have HB2 : Hid (Below (w.heap.size + 1) W w2) := Below.trans (hbW.out.mono S0) hb2; have kb2 := box_lo kb1 (Nat.lt_succ_self _) hb2; clear ho2 hb2 hg2 hat2))
    all_goals (go_wp2_with fail; go_meet; exact ⟨a2, d2, rfl, O2.out, HB2.out⟩)
  case rest =>
  rename World => V
  obtain ⟨a0, d0, rfl, ho, hb⟩ := hcut
  have O0 : Hid _ := ho
  replace HW : Hid _ := HW.out.trans (hb.mono (Nat.le_succ _))
  have kbW := box_lo B0 (Nat.lt_succ_self _) hb
  have SW := Nat.lt_of_lt_of_le S0 hb.size
  clear ho hb wx wy wz cq B0 S0 x0 f0
  have lL1 : Hid (L1.length = 4) := by have := lq.out; rw [E1.out, List.length_append, this]; trivial
  clear lq
  have K := HK.out
  obtain ⟨-, -, -, -, -, ⟨k6, k7⟩, -, -, -⟩ := K
  clear W
  rename World => W
  obtain ⟨Q1, hQ⟩ : ∃ L, L = beTo s.ack 2 2 := ⟨_, rfl⟩
  have cq1 : Hid (∀ Z, Calls Try.prog 102 #[.int .i64 s.ack, .int .i64 2] Z fun e w' => ∃ v, e = .returned v ∧ OB w' Z.heap.size v Q1 ∧ Below Z.heap.size Z w') := fun Z => by rw [hQ]; exact sBytes s.ack 2 Z (by omega) (by omega)
  have lq1 : Hid (Q1.length = 2) := by rw [hQ, beTo_length]; trivial
  have EQ91 : Hid _ := hQ
  clear hQ
  obtain ⟨Q2, hQ⟩ : ∃ L, L = beTo s.fin 2 2 := ⟨_, rfl⟩
  have cq2 : Hid (∀ Z, Calls Try.prog 102 #[.int .i64 s.fin, .int .i64 2] Z fun e w' => ∃ v, e = .returned v ∧ OB w' Z.heap.size v Q2 ∧ Below Z.heap.size Z w') := fun Z => by rw [hQ]; exact sBytes s.fin 2 Z (by omega) (by omega)
  have lq2 : Hid (Q2.length = 2) := by rw [hQ, beTo_length]; trivial
  have EQ92 : Hid _ := hQ
  clear hQ
  have hy : Hid (0 ≤ s.opt ∧ s.opt ≤ 255) := by show _ ∧ _; omega
  have wz : IntKind.u8.wrap s.opt = s.opt := by rw [u8w]; omega
  obtain ⟨M1, hM⟩ : ∃ L, L = L1 ++ Q1 := ⟨_, rfl⟩
  have lM1 : Hid (M1.length = L1.length + 2) := by have := lq1.out; rw [hM, List.length_append, this]; trivial
  have EM19 : Hid _ := hM
  clear hM
  obtain ⟨M2, hM⟩ : ∃ L, L = M1 ++ Q2 := ⟨_, rfl⟩
  have lM2 : Hid (M2.length = M1.length + 2) := by have := lq2.out; rw [hM, List.length_append, this]; trivial
  have EM29 : Hid _ := hM
  clear hM
  obtain ⟨L2, hM⟩ : ∃ L, L = M2 ++ [s.opt] := ⟨_, rfl⟩
  have lL2 : Hid (L2.length = M2.length + 1) := by rw [hM, List.length_append]; trivial
  have EM39 : Hid _ := hM
  clear hM
  go_wp2_with fail
  go_cut [4] (fun u wx => ∃ a' c', u = .slice a' L2.length c' ∧ OB wx (w.heap.size + 1) (.slice a' L2.length c') L2 ∧ Below (w.heap.size + 1) W wx)
  case first =>
    go_region_held3 (fun w' => w'.cell? ⟨w.heap.size, 6, none⟩ = some (.int .i64 s.ack) ∧ w'.cell? ⟨w.heap.size, 7, none⟩ = some (.int .i64 s.fin) ∧ w'.cell? ⟨w.heap.size, 8, none⟩ = some (.int .i64 s.opt)) (first | go_keep)
      (first
        | (go_at_call_of 102 (s.ack); refine (cq1.out _).mono ?_; rintro e w1 ⟨v, rfl, ho, hb⟩; obtain ⟨a1, d1, rfl, hr, hn⟩ := ho.rbn; have R1 : Hid _ := hr; have N1 : Hid _ := hn; have F1 : Hid _ := below_drew hb; have n1 : Hid (Below W.heap.size W w1) := (by first | exact below_drew hb | exact ((Below.refl _ _).alloc (Nat.le_refl _) _).trans ((below_drew hb).mono (by simp))); have O1 : Hid _ := OB.below O0.out (Nat.le_refl _) n1.out; have z1 := n1.out.size; have kb1 := box_below kbW SW n1.out; have S1 : w.heap.size < w1.heap.size := (by omega); clear ho hb hr hn)
        | (go_at_call_of 102 (s.fin); refine (cq2.out _).mono ?_; rintro e w3 ⟨v, rfl, ho, hb⟩; obtain ⟨a3, d3, rfl, hr, hn⟩ := ho.rbn; have R3 : Hid _ := hr; have N3 : Hid _ := hn; have F3 : Hid _ := hb; have n3 : Hid (Below w2.heap.size w2 w3) := (by first | exact hb | exact ((Below.refl _ _).alloc (Nat.le_refl _) _).trans ((hb).mono (by simp))); have O3 : Hid _ := OB.below O2.out (Nat.le_refl _) n3.out; have z3 := n3.out.size; have kb3 := box_below kb2 S2 n3.out; have S3 : w.heap.size < w3.heap.size := (by omega); clear ho hb hr hn)
        | (refine app_st w1 (by rfl) _ _ 22 22 (by rfl) Try.underlying22 Try.underlying22 (w.heap.size + 1) (.slice a0 L1.length d0) L1 (by rfl) (O1.out) a1 Q1 Q1.length d1 rfl (by rfl) (R1.out) N1.out (by have := lL1.out; have := lq1.out; have := lq2.out; have := lM1.out; have := lM2.out; first | omega | (simp; omega)) (by first | omega | (simp; omega)) ?_; intro v w2 ho hb hg hat; rw [← EM19.out] at ho; obtain ⟨a2, d2, rfl, -, -⟩ := ho.rbn; have O2 : Hid _ := ho; have G2 : Hid _ := hg; have A2 : Hid _ := hat; have n2 : Hid (Below (w.heap.size + 1) w1 w2) := (by first | exact hb | exact ((Below.refl _ _).alloc (by omega) _).trans hb); have z2 := n2.out.size; have kb2 := box_lo kb1 (Nat.lt_succ_self _) n2.out; have S2 : w.heap.size < w2.heap.size := (by omega); clear ho hb hg hat)
        | (refine app_st (w1.alloc (.cells #[.int .u8 s.opt] 5)) (by rfl) _ _ 22 22 (by rfl) Try.underlying22 Try.underlying22 (w.heap.size + 1) (.slice a0 L1.length d0) L1 (by rfl) (OB.below O1.out (Nat.le_refl _) ((Below.refl _ _).alloc (Nat.le_refl _) _)) a1 Q1 Q1.length d1 rfl (by rfl) (RB.below R1.out (Nat.le_refl _) ((Below.refl _ _).alloc (Nat.le_refl _) _)) N1.out (by have := lL1.out; have := lq1.out; have := lq2.out; have := lM1.out; have := lM2.out; first | omega | (simp; omega)) (by first | omega | (simp; omega)) ?_; intro v w2 ho hb hg hat; rw [← EM19.out] at ho; obtain ⟨a2, d2, rfl, -, -⟩ := ho.rbn; have O2 : Hid _ := ho; have G2 : Hid _ := hg; have A2 : Hid _ := hat; have n2 : Hid (Below (w.heap.size + 1) w1 w2) := (by first | exact hb | exact ((Below.refl _ _).alloc (by omega) _).trans hb); have z2 := n2.out.size; have kb2 := box_lo kb1 (Nat.lt_succ_self _) n2.out; have S2 : w.heap.size < w2.heap.size := (by omega); clear ho hb hg hat)
        | (refine app_st w3 (by rfl) _ _ 22 22 (by rfl) Try.underlying22 Try.underlying22 (w.heap.size + 1) (.slice a2 M1.length d2) M1 (by rfl) (O3.out) a3 Q2 Q2.length d3 rfl (by rfl) (R3.out) N3.out (by have := lL1.out; have := lq1.out; have := lq2.out; have := lM1.out; have := lM2.out; first | omega | (simp; omega)) (by first | omega | (simp; omega)) ?_; intro v w4 ho hb hg hat; rw [← EM29.out] at ho; obtain ⟨a4, d4, rfl, -, -⟩ := ho.rbn; have O4 : Hid _ := ho; have G4 : Hid _ := hg; have A4 : Hid _ := hat; have n4 : Hid (Below (w.heap.size + 1) w3 w4) := (by first | exact hb | exact ((Below.refl _ _).alloc (by omega) _).trans hb); have z4 := n4.out.size; have kb4 := box_lo kb3 (Nat.lt_succ_self _) n4.out; have S4 : w.heap.size < w4.heap.size := (by omega); clear ho hb hg hat)
        | (refine app_st (w3.alloc (.cells #[.int .u8 s.opt] 5)) (by rfl) _ _ 22 22 (by rfl) Try.underlying22 Try.underlying22 (w.heap.size + 1) (.slice a2 M1.length d2) M1 (by rfl) (OB.below O3.out (Nat.le_refl _) ((Below.refl _ _).alloc (Nat.le_refl _) _)) a3 Q2 Q2.length d3 rfl (by rfl) (RB.below R3.out (Nat.le_refl _) ((Below.refl _ _).alloc (Nat.le_refl _) _)) N3.out (by have := lL1.out; have := lq1.out; have := lq2.out; have := lM1.out; have := lM2.out; first | omega | (simp; omega)) (by first | omega | (simp; omega)) ?_; intro v w4 ho hb hg hat; rw [← EM29.out] at ho; obtain ⟨a4, d4, rfl, -, -⟩ := ho.rbn; have O4 : Hid _ := ho; have G4 : Hid _ := hg; have A4 : Hid _ := hat; have n4 : Hid (Below (w.heap.size + 1) w3 w4) := (by first | exact hb | exact ((Below.refl _ _).alloc (by omega) _).trans hb); have z4 := n4.out.size; have kb4 := box_lo kb3 (Nat.lt_succ_self _) n4.out; have S4 : w.heap.size < w4.heap.size := (by omega); clear ho hb hg hat)
        | (refine app_st w4 (by rfl) _ _ 22 22 (by rfl) Try.underlying22 Try.underlying22 (w.heap.size + 1) (.slice a4 M2.length d4) M2 (by rfl) (O4.out) (some ⟨_, 0, none⟩) [s.opt] 1 1 rfl (by rfl) (RB.grownAt (rb_one hy.out) G4.out (ne_lt O3.out (Nat.le_refl _))) (by intro e; cases e) (by have := lL1.out; have := lq1.out; have := lq2.out; have := lM1.out; have := lM2.out; first | omega | (simp; omega)) (by first | omega | (simp; omega)) ?_; intro v w5 ho hb hg hat; rw [← EM39.out] at ho; obtain ⟨a5, d5, rfl, -, -⟩ := ho.rbn; have O5 : Hid _ := ho; have G5 : Hid _ := hg; have A5 : Hid _ := hat; have n5 : Hid (Below (w.heap.size + 1) w4 w5) := (by first | exact hb | exact ((Below.refl _ _).alloc (by omega) _).trans hb); have z5 := n5.out.size; have kb5 := box_lo kb4 (Nat.lt_succ_self _) n5.out; have S5 : w.heap.size < w5.heap.size := (by omega); clear ho hb hg hat)
        | (refine app_st w4 (by rfl) _ _ 22 22 (by rfl) Try.underlying22 Try.underlying22 (w.heap.size + 1) (.slice a4 M2.length d4) M2 (by rfl) (O4.out) (some ⟨_, 0, none⟩) [s.opt] 1 1 rfl (by rfl) (RB.grownAt (RB.below (rb_one hy.out) (Nat.le_refl _) F3.out) G4.out (ne_lt O2.out (Nat.le_refl _))) (by intro e; cases e) (by have := lL1.out; have := lq1.out; have := lq2.out; have := lM1.out; have := lM2.out; first | omega | (simp; omega)) (by first | omega | (simp; omega)) ?_; intro v w5 ho hb hg hat; rw [← EM39.out] at ho; obtain ⟨a5, d5, rfl, -, -⟩ := ho.rbn; have O5 : Hid _ := ho; have G5 : Hid _ := hg; have A5 : Hid _ := hat; have n5 : Hid (Below (w.heap.size + 1) w4 w5) := (by first | exact hb | exact ((Below.refl _ _).alloc (by omega) _).trans hb); have z5 := n5.out.size; have kb5 := box_lo kb4 (Nat.lt_succ_self _) n5.out; have S5 : w.heap.size < w5.heap.size := (by omega); clear ho hb hg hat)
        | (refine app_st w4 (by rfl) _ _ 22 22 (by rfl) Try.underlying22 Try.underlying22 (w.heap.size + 1) (.slice a4 M2.length d4) M2 (by rfl) (O4.out) (some ⟨_, 0, none⟩) [s.opt] 1 1 rfl (by rfl) (RB.grownAt (RB.below (RB.grownAt (rb_one hy.out) G2.out (ne_lt O1.out (Nat.le_refl _))) (Nat.le_refl _) F3.out) G4.out (ne_hat A2.out (ne_lt O1.out (Nat.le_refl _)) (by simp))) (by intro e; cases e) (by have := lL1.out; have := lq1.out; have := lq2.out; have := lM1.out; have := lM2.out; first | omega | (simp; omega)) (by first | omega | (simp; omega)) ?_; intro v w5 ho hb hg hat; rw [← EM39.out] at ho; obtain ⟨a5, d5, rfl, -, -⟩ := ho.rbn; have O5 : Hid _ := ho; have G5 : Hid _ := hg; have A5 : Hid _ := hat; have n5 : Hid (Below (w.heap.size + 1) w4 w5) := (by first | exact hb | exact ((Below.refl _ _).alloc (by omega) _).trans hb); have z5 := n5.out.size; have kb5 := box_lo kb4 (Nat.lt_succ_self _) n5.out; have S5 : w.heap.size < w5.heap.size := (by omega); clear ho hb hg hat)
        | (refine app_st w4 (by rfl) _ _ 22 22 (by rfl) Try.underlying22 Try.underlying22 (w.heap.size + 1) (.slice a4 M2.length d4) M2 (by rfl) (O4.out) (some ⟨_, 0, none⟩) [s.opt] 1 1 rfl (by rfl) (RB.grownAt (RB.below (RB.grownAt (RB.below (rb_one hy.out) (Nat.le_refl _) F1.out) G2.out (ne_lt O0.out (Nat.le_refl _))) (Nat.le_refl _) F3.out) G4.out (ne_hat A2.out (ne_lt O0.out (Nat.le_refl _)) (by have := F1.out.size; simp at this; omega))) (by intro e; cases e) (by have := lL1.out; have := lq1.out; have := lq2.out; have := lM1.out; have := lM2.out; first | omega | (simp; omega)) (by first | omega | (simp; omega)) ?_; intro v w5 ho hb hg hat; rw [← EM39.out] at ho; obtain ⟨a5, d5, rfl, -, -⟩ := ho.rbn; have O5 : Hid _ := ho; have G5 : Hid _ := hg; have A5 : Hid _ := hat; have n5 : Hid (Below (w.heap.size + 1) w4 w5) := (by first | exact hb | exact ((Below.refl _ _).alloc (by omega) _).trans hb); have z5 := n5.out.size; have kb5 := box_lo kb4 (Nat.lt_succ_self _) n5.out; have S5 : w.heap.size < w5.heap.size := (by omega); clear ho hb hg hat)
        | (refine app_st (w4.alloc (.cells #[.int .u8 s.opt] 5)) (by rfl) _ _ 22 22 (by rfl) Try.underlying22 Try.underlying22 (w.heap.size + 1) (.slice a4 M2.length d4) M2 (by rfl) (OB.below O4.out (Nat.le_refl _) ((Below.refl _ _).alloc (Nat.le_refl _) _)) (some ⟨_, 0, none⟩) [s.opt] 1 1 rfl (by rfl) (rb_one hy.out) (by intro e; cases e) (by have := lL1.out; have := lq1.out; have := lq2.out; have := lM1.out; have := lM2.out; first | omega | (simp; omega)) (by first | omega | (simp; omega)) ?_; intro v w5 ho hb hg hat; rw [← EM39.out] at ho; obtain ⟨a5, d5, rfl, -, -⟩ := ho.rbn; have O5 : Hid _ := ho; have G5 : Hid _ := hg; have A5 : Hid _ := hat; have n5 : Hid (Below (w.heap.size + 1) w4 w5) := (by first | exact hb | exact ((Below.refl _ _).alloc (by omega) _).trans hb); have z5 := n5.out.size; have kb5 := box_lo kb4 (Nat.lt_succ_self _) n5.out; have S5 : w.heap.size < w5.heap.size := (by omega); clear ho hb hg hat))
    all_goals (go_wp2_with fail; go_meet; exact ⟨a5, d5, rfl, O5.out, ((((n1.out.mono SW).trans n2.out).trans (n3.out.mono S2)).trans n4.out).trans n5.out⟩)
  case rest =>
  rename World => V
  obtain ⟨a0, d0, rfl, ho, hb⟩ := hcut
  have lL2' : Hid (L2.length = 9) := by have := lL1.out; have := lM1.out; have := lM2.out; have := lL2.out; show _ = _; omega
  clear lL2 lM1 lM2 lL1 cq1 cq2 lq1 lq2 hy wz O0
  have lL2 := lL2'
  clear lL2'
  have O0 : Hid _ := ho
  replace HW : Hid _ := HW.out.trans (hb.mono (Nat.le_succ _))
  replace kbW := box_lo kbW (Nat.lt_succ_self _) hb
  replace SW := Nat.lt_of_lt_of_le SW hb.size
  clear ho hb
  have EM3x : Hid (L2 = L1 ++ beTo s.ack 2 2 ++ beTo s.fin 2 2 ++ [s.opt]) := by rw [EM39.out, EM29.out, EM19.out, EQ91.out, EQ92.out]; trivial
  clear EM39 EM29 EM19 EQ91 EQ92 M1 M2 Q1 Q2
  clear W
  rename World => W
  obtain ⟨Q1, hQ⟩ : ∃ L, L = beTo s.a 3 3 := ⟨_, rfl⟩
  have cq1 : Hid (∀ Z, Calls Try.prog 102 #[.int .i64 s.a, .int .i64 3] Z fun e w' => ∃ v, e = .returned v ∧ OB w' Z.heap.size v Q1 ∧ Below Z.heap.size Z w') := fun Z => by rw [hQ]; exact sBytes s.a 3 Z (by omega) (by omega)
  have lq1 : Hid (Q1.length = 3) := by rw [hQ, beTo_length]; trivial
  have EQ101 : Hid _ := hQ
  clear hQ
  obtain ⟨Q2, hQ⟩ : ∃ L, L = beTo s.b 3 3 := ⟨_, rfl⟩
  have cq2 : Hid (∀ Z, Calls Try.prog 102 #[.int .i64 s.b, .int .i64 3] Z fun e w' => ∃ v, e = .returned v ∧ OB w' Z.heap.size v Q2 ∧ Below Z.heap.size Z w') := fun Z => by rw [hQ]; exact sBytes s.b 3 Z (by omega) (by omega)
  have lq2 : Hid (Q2.length = 3) := by rw [hQ, beTo_length]; trivial
  have EQ102 : Hid _ := hQ
  clear hQ
  have hy : Hid (0 ≤ (n : Int) ∧ (n : Int) ≤ 255) := by show _ ∧ _; omega
  have wz : IntKind.u8.wrap (n : Int) = (n : Int) := by rw [u8w]; omega
  obtain ⟨M1, hM⟩ : ∃ L, L = L2 ++ Q1 := ⟨_, rfl⟩
  have lM1 : Hid (M1.length = L2.length + 3) := by have := lq1.out; rw [hM, List.length_append, this]; trivial
  have EM110 : Hid _ := hM
  clear hM
  obtain ⟨M2, hM⟩ : ∃ L, L = M1 ++ Q2 := ⟨_, rfl⟩
  have lM2 : Hid (M2.length = M1.length + 3) := by have := lq2.out; rw [hM, List.length_append, this]; trivial
  have EM210 : Hid _ := hM
  clear hM
  obtain ⟨L3, hM⟩ : ∃ L, L = M2 ++ [(n : Int)] := ⟨_, rfl⟩
  have lL3 : Hid (L3.length = M2.length + 1) := by rw [hM, List.length_append]; trivial
  have EM310 : Hid _ := hM
  clear hM
  go_wp2_with fail
  go_cut [4] (fun u wx => ∃ a' c', u = .slice a' L3.length c' ∧ OB wx (w.heap.size + 1) (.slice a' L3.length c') L3 ∧ Below (w.heap.size + 1) W wx)
  case first =>
    go_region_held3 (fun w' => w'.cell? ⟨w.heap.size, 9, none⟩ = some (.int .i64 s.a) ∧ w'.cell? ⟨w.heap.size, 10, none⟩ = some (.int .i64 s.b) ∧ w'.cell? ⟨w.heap.size, 11, none⟩ = some (.slice a n cap)) (first | go_keep)
      (first
        | (go_at_call_of 102 (s.a); refine (cq1.out _).mono ?_; rintro e w1 ⟨v, rfl, ho, hb⟩; obtain ⟨a1, d1, rfl, hr, hn⟩ := ho.rbn; have R1 : Hid _ := hr; have N1 : Hid _ := hn; have F1 : Hid _ := below_drew hb; have n1 : Hid (Below W.heap.size W w1) := (by first | exact below_drew hb | exact ((Below.refl _ _).alloc (Nat.le_refl _) _).trans ((below_drew hb).mono (by simp))); have O1 : Hid _ := OB.below O0.out (Nat.le_refl _) n1.out; have z1 := n1.out.size; have kb1 := box_below kbW SW n1.out; have S1 : w.heap.size < w1.heap.size := (by omega); clear ho hb hr hn)
        | (go_at_call_of 102 (s.b); refine (cq2.out _).mono ?_; rintro e w3 ⟨v, rfl, ho, hb⟩; obtain ⟨a3, d3, rfl, hr, hn⟩ := ho.rbn; have R3 : Hid _ := hr; have N3 : Hid _ := hn; have F3 : Hid _ := hb; have n3 : Hid (Below w2.heap.size w2 w3) := (by first | exact hb | exact ((Below.refl _ _).alloc (Nat.le_refl _) _).trans ((hb).mono (by simp))); have O3 : Hid _ := OB.below O2.out (Nat.le_refl _) n3.out; have z3 := n3.out.size; have kb3 := box_below kb2 S2 n3.out; have S3 : w.heap.size < w3.heap.size := (by omega); clear ho hb hr hn)
        | (refine app_st w1 (by rfl) _ _ 22 22 (by rfl) Try.underlying22 Try.underlying22 (w.heap.size + 1) (.slice a0 L2.length d0) L2 (by rfl) (O1.out) a1 Q1 Q1.length d1 rfl (by rfl) (R1.out) N1.out (by have := lL2.out; have := lq1.out; have := lq2.out; have := lM1.out; have := lM2.out; first | omega | (simp; omega)) (by first | omega | (simp; omega)) ?_; intro v w2 ho hb hg hat; rw [← EM110.out] at ho; obtain ⟨a2, d2, rfl, -, -⟩ := ho.rbn; have O2 : Hid _ := ho; have G2 : Hid _ := hg; have A2 : Hid _ := hat; have n2 : Hid (Below (w.heap.size + 1) w1 w2) := (by first | exact hb | exact ((Below.refl _ _).alloc (by omega) _).trans hb); have z2 := n2.out.size; have kb2 := box_lo kb1 (Nat.lt_succ_self _) n2.out; have S2 : w.heap.size < w2.heap.size := (by omega); clear ho hb hg hat)
        | (refine app_st (w1.alloc (.cells #[.int .u8 (n : Int)] 5)) (by rfl) _ _ 22 22 (by rfl) Try.underlying22 Try.underlying22 (w.heap.size + 1) (.slice a0 L2.length d0) L2 (by rfl) (OB.below O1.out (Nat.le_refl _) ((Below.refl _ _).alloc (Nat.le_refl _) _)) a1 Q1 Q1.length d1 rfl (by rfl) (RB.below R1.out (Nat.le_refl _) ((Below.refl _ _).alloc (Nat.le_refl _) _)) N1.out (by have := lL2.out; have := lq1.out; have := lq2.out; have := lM1.out; have := lM2.out; first | omega | (simp; omega)) (by first | omega | (simp; omega)) ?_; intro v w2 ho hb hg hat; rw [← EM110.out] at ho; obtain ⟨a2, d2, rfl, -, -⟩ := ho.rbn; have O2 : Hid _ := ho; have G2 : Hid _ := hg; have A2 : Hid _ := hat; have n2 : Hid (Below (w.heap.size + 1) w1 w2) := (by first | exact hb | exact ((Below.refl _ _).alloc (by omega) _).trans hb); have z2 := n2.out.size; have kb2 := box_lo kb1 (Nat.lt_succ_self _) n2.out; have S2 : w.heap.size < w2.heap.size := (by omega); clear ho hb hg hat)
        | (refine app_st w3 (by rfl) _ _ 22 22 (by rfl) Try.underlying22 Try.underlying22 (w.heap.size + 1) (.slice a2 M1.length d2) M1 (by rfl) (O3.out) a3 Q2 Q2.length d3 rfl (by rfl) (R3.out) N3.out (by have := lL2.out; have := lq1.out; have := lq2.out; have := lM1.out; have := lM2.out; first | omega | (simp; omega)) (by first | omega | (simp; omega)) ?_; intro v w4 ho hb hg hat; rw [← EM210.out] at ho; obtain ⟨a4, d4, rfl, -, -⟩ := ho.rbn; have O4 : Hid _ := ho; have G4 : Hid _ := hg; have A4 : Hid _ := hat; have n4 : Hid (Below (w.heap.size + 1) w3 w4) := (by first | exact hb | exact ((Below.refl _ _).alloc (by omega) _).trans hb); have z4 := n4.out.size; have kb4 := box_lo kb3 (Nat.lt_succ_self _) n4.out; have S4 : w.heap.size < w4.heap.size := (by omega); clear ho hb hg hat)
        | (refine app_st (w3.alloc (.cells #[.int .u8 (n : Int)] 5)) (by rfl) _ _ 22 22 (by rfl) Try.underlying22 Try.underlying22 (w.heap.size + 1) (.slice a2 M1.length d2) M1 (by rfl) (OB.below O3.out (Nat.le_refl _) ((Below.refl _ _).alloc (Nat.le_refl _) _)) a3 Q2 Q2.length d3 rfl (by rfl) (RB.below R3.out (Nat.le_refl _) ((Below.refl _ _).alloc (Nat.le_refl _) _)) N3.out (by have := lL2.out; have := lq1.out; have := lq2.out; have := lM1.out; have := lM2.out; first | omega | (simp; omega)) (by first | omega | (simp; omega)) ?_; intro v w4 ho hb hg hat; rw [← EM210.out] at ho; obtain ⟨a4, d4, rfl, -, -⟩ := ho.rbn; have O4 : Hid _ := ho; have G4 : Hid _ := hg; have A4 : Hid _ := hat; have n4 : Hid (Below (w.heap.size + 1) w3 w4) := (by first | exact hb | exact ((Below.refl _ _).alloc (by omega) _).trans hb); have z4 := n4.out.size; have kb4 := box_lo kb3 (Nat.lt_succ_self _) n4.out; have S4 : w.heap.size < w4.heap.size := (by omega); clear ho hb hg hat)
        | (refine app_st w4 (by rfl) _ _ 22 22 (by rfl) Try.underlying22 Try.underlying22 (w.heap.size + 1) (.slice a4 M2.length d4) M2 (by rfl) (O4.out) (some ⟨_, 0, none⟩) [(n : Int)] 1 1 rfl (by rfl) (RB.grownAt (rb_one hy.out) G4.out (ne_lt O3.out (Nat.le_refl _))) (by intro e; cases e) (by have := lL2.out; have := lq1.out; have := lq2.out; have := lM1.out; have := lM2.out; first | omega | (simp; omega)) (by first | omega | (simp; omega)) ?_; intro v w5 ho hb hg hat; rw [← EM310.out] at ho; obtain ⟨a5, d5, rfl, -, -⟩ := ho.rbn; have O5 : Hid _ := ho; have G5 : Hid _ := hg; have A5 : Hid _ := hat; have n5 : Hid (Below (w.heap.size + 1) w4 w5) := (by first | exact hb | exact ((Below.refl _ _).alloc (by omega) _).trans hb); have z5 := n5.out.size; have kb5 := box_lo kb4 (Nat.lt_succ_self _) n5.out; have S5 : w.heap.size < w5.heap.size := (by omega); clear ho hb hg hat)
        | (refine app_st w4 (by rfl) _ _ 22 22 (by rfl) Try.underlying22 Try.underlying22 (w.heap.size + 1) (.slice a4 M2.length d4) M2 (by rfl) (O4.out) (some ⟨_, 0, none⟩) [(n : Int)] 1 1 rfl (by rfl) (RB.grownAt (RB.below (rb_one hy.out) (Nat.le_refl _) F3.out) G4.out (ne_lt O2.out (Nat.le_refl _))) (by intro e; cases e) (by have := lL2.out; have := lq1.out; have := lq2.out; have := lM1.out; have := lM2.out; first | omega | (simp; omega)) (by first | omega | (simp; omega)) ?_; intro v w5 ho hb hg hat; rw [← EM310.out] at ho; obtain ⟨a5, d5, rfl, -, -⟩ := ho.rbn; have O5 : Hid _ := ho; have G5 : Hid _ := hg; have A5 : Hid _ := hat; have n5 : Hid (Below (w.heap.size + 1) w4 w5) := (by first | exact hb | exact ((Below.refl _ _).alloc (by omega) _).trans hb); have z5 := n5.out.size; have kb5 := box_lo kb4 (Nat.lt_succ_self _) n5.out; have S5 : w.heap.size < w5.heap.size := (by omega); clear ho hb hg hat)
        | (refine app_st w4 (by rfl) _ _ 22 22 (by rfl) Try.underlying22 Try.underlying22 (w.heap.size + 1) (.slice a4 M2.length d4) M2 (by rfl) (O4.out) (some ⟨_, 0, none⟩) [(n : Int)] 1 1 rfl (by rfl) (RB.grownAt (RB.below (RB.grownAt (rb_one hy.out) G2.out (ne_lt O1.out (Nat.le_refl _))) (Nat.le_refl _) F3.out) G4.out (ne_hat A2.out (ne_lt O1.out (Nat.le_refl _)) (by simp))) (by intro e; cases e) (by have := lL2.out; have := lq1.out; have := lq2.out; have := lM1.out; have := lM2.out; first | omega | (simp; omega)) (by first | omega | (simp; omega)) ?_; intro v w5 ho hb hg hat; rw [← EM310.out] at ho; obtain ⟨a5, d5, rfl, -, -⟩ := ho.rbn; have O5 : Hid _ := ho; have G5 : Hid _ := hg; have A5 : Hid _ := hat; have n5 : Hid (Below (w.heap.size + 1) w4 w5) := (by first | exact hb | exact ((Below.refl _ _).alloc (by omega) _).trans hb); have z5 := n5.out.size; have kb5 := box_lo kb4 (Nat.lt_succ_self _) n5.out; have S5 : w.heap.size < w5.heap.size := (by omega); clear ho hb hg hat)
        | (refine app_st w4 (by rfl) _ _ 22 22 (by rfl) Try.underlying22 Try.underlying22 (w.heap.size + 1) (.slice a4 M2.length d4) M2 (by rfl) (O4.out) (some ⟨_, 0, none⟩) [(n : Int)] 1 1 rfl (by rfl) (RB.grownAt (RB.below (RB.grownAt (RB.below (rb_one hy.out) (Nat.le_refl _) F1.out) G2.out (ne_lt O0.out (Nat.le_refl _))) (Nat.le_refl _) F3.out) G4.out (ne_hat A2.out (ne_lt O0.out (Nat.le_refl _)) (by have := F1.out.size; simp at this; omega))) (by intro e; cases e) (by have := lL2.out; have := lq1.out; have := lq2.out; have := lM1.out; have := lM2.out; first | omega | (simp; omega)) (by first | omega | (simp; omega)) ?_; intro v w5 ho hb hg hat; rw [← EM310.out] at ho; obtain ⟨a5, d5, rfl, -, -⟩ := ho.rbn; have O5 : Hid _ := ho; have G5 : Hid _ := hg; have A5 : Hid _ := hat; have n5 : Hid (Below (w.heap.size + 1) w4 w5) := (by first | exact hb | exact ((Below.refl _ _).alloc (by omega) _).trans hb); have z5 := n5.out.size; have kb5 := box_lo kb4 (Nat.lt_succ_self _) n5.out; have S5 : w.heap.size < w5.heap.size := (by omega); clear ho hb hg hat)
        | (refine app_st (w4.alloc (.cells #[.int .u8 (n : Int)] 5)) (by rfl) _ _ 22 22 (by rfl) Try.underlying22 Try.underlying22 (w.heap.size + 1) (.slice a4 M2.length d4) M2 (by rfl) (OB.below O4.out (Nat.le_refl _) ((Below.refl _ _).alloc (Nat.le_refl _) _)) (some ⟨_, 0, none⟩) [(n : Int)] 1 1 rfl (by rfl) (rb_one hy.out) (by intro e; cases e) (by have := lL2.out; have := lq1.out; have := lq2.out; have := lM1.out; have := lM2.out; first | omega | (simp; omega)) (by first | omega | (simp; omega)) ?_; intro v w5 ho hb hg hat; rw [← EM310.out] at ho; obtain ⟨a5, d5, rfl, -, -⟩ := ho.rbn; have O5 : Hid _ := ho; have G5 : Hid _ := hg; have A5 : Hid _ := hat; have n5 : Hid (Below (w.heap.size + 1) w4 w5) := (by first | exact hb | exact ((Below.refl _ _).alloc (by omega) _).trans hb); have z5 := n5.out.size; have kb5 := box_lo kb4 (Nat.lt_succ_self _) n5.out; have S5 : w.heap.size < w5.heap.size := (by omega); clear ho hb hg hat))
    all_goals (go_wp2_with fail; go_meet; exact ⟨a5, d5, rfl, O5.out, ((((n1.out.mono SW).trans n2.out).trans (n3.out.mono S2)).trans n4.out).trans n5.out⟩)
  case rest =>
  rename World => V
  obtain ⟨a0, d0, rfl, ho, hb⟩ := hcut
  have lL3' : Hid (L3.length = 16) := by have := lL2.out; have := lM1.out; have := lM2.out; have := lL3.out; show _ = _; omega
  clear lL3 lM1 lM2 lL2 cq1 cq2 lq1 lq2 hy wz O0
  have O0 : Hid _ := ho
  replace HW : Hid _ := HW.out.trans (hb.mono (Nat.le_succ _))
  replace kbW := box_lo kbW (Nat.lt_succ_self _) hb
  replace SW := Nat.lt_of_lt_of_le SW hb.size
  clear ho hb
  have EM3y : Hid (L3 = L2 ++ beTo s.a 3 3 ++ beTo s.b 3 3 ++ [(n : Int)]) := by rw [EM310.out, EM210.out, EM110.out, EQ101.out, EQ102.out]; trivial
  clear EM310 EM210 EM110 EQ101 EQ102 M1 M2 Q1 Q2
  clear W
  rename World => W
  go_wp2_with (at_builtin; go_must (refine app_pl W (by rfl) _ _ 22 22 (by rfl) Try.underlying22 Try.underlying22 (w.heap.size + 1) (.slice a0 L3.length d0) L3 (by rfl) O0.out a s.load n cap hl (by rfl) (HR.out.below (Nat.le_refl _) HW.out) HN.out (by have := lL3'.out; omega) SW ?_))
  intro v4 w4 ho4 hb4 _ _
  obtain ⟨L4, hL4⟩ : ∃ L, L = L3 ++ s.load := ⟨_, rfl⟩
  rw [← hL4] at ho4
  have lL4 : Hid (L4.length = 16 + n) := by have := lL3'.out; rw [hL4, List.length_append, this, hl]; trivial
  have EL4 : Hid (L4 = bodyB s) := by rw [hL4, EM3y.out, EM3x.out, E1.out, EQ.out, bodyB, HFL.out, hl]; show _ = _; simp [List.append_assoc]
  clear hL4
  obtain ⟨a4, d4, rfl, hr4, -⟩ := ho4.rbn
  have R4 : Hid _ := hr4
  have O4 : Hid _ := ho4
  have HW4 : Hid _ := HW.out.trans (hb4.mono (Nat.le_succ _))
  have z4 := hb4.size
  clear ho4 hb4 hr4
  go_wp2_with fail
  refine (sSumBytes _ _ _ L4 _ rfl R4.out (by have := lL4.out; omega)).mono ?_
  rintro e w5 ⟨rfl, hw⟩
  subst w5
  go_wp2_with fail
  refine (sBytes (sumB L4) 2 _ (by omega) (by omega)).mono ?_
  rintro e w5 ⟨v5, rfl, ho5, hb5⟩
  obtain ⟨L5, hL5⟩ : ∃ L, L = beTo (sumB L4) 2 2 := ⟨_, rfl⟩
  rw [← hL5] at ho5
  have lL5 : Hid (L5.length = 2) := by rw [hL5, beTo_length]; trivial
  have EL5 : Hid _ := hL5
  clear hL5
  obtain ⟨a5, d5, rfl, hr5, hn5⟩ := ho5.rbn
  have R5 : Hid _ := hr5
  have N5 : Hid _ := hn5
  have O5 : Hid _ := OB.below O4.out (Nat.le_refl _) hb5
  have HW5 : Hid _ := HW4.out.trans (hb5.mono HW4.out.size)
  have z5 := hb5.size
  clear ho5 hb5 hr5 hn5
  go_wp2_with (at_builtin; go_must (refine app_pl w5 (by rfl) _ _ 22 22 (by rfl) Try.underlying22 Try.underlying22 (w.heap.size + 1) (.slice a4 L4.length d4) L4 (by rfl) O5.out a5 L5 L5.length d5 rfl (by rfl) R5.out N5.out (by have := lL4.out; have := lL5.out; omega) (by omega) ?_))
  intro v6 w6 ho6 hb6 _ _
  have O6 : Hid _ := ho6
  obtain ⟨a6, d6, rfl, -, -⟩ := ho6.rbn
  have HW6 : Hid _ := HW5.out.trans (hb6.mono (Nat.le_succ _))
  clear ho6 hb6
  go_wp2_with fail
  go_ret
  refine ⟨_, rfl, ?_, HW6.out⟩
  have e : L4 ++ L5 = packB s := by rw [EL5.out, EL4.out, packB]
  rw [← e]
  exact OB.mono O6.out (Nat.le_succ _)
end Go.Proofs.Ytmiomnpfjigojaa
