/- What the model says of a conn's fault; nothing that was in memory turns; no condition but that there are at most a million parts. -/
import Derived.Test.YtfpemobkkfobkaaGreatDoorRows
import Derived.Deep.RegionHeld3
import Derived.Deep.DeepCutAuto
import Derived.Deep.CutRange
import Derived.Deep.QuietTactic
import Derived.BigQuiet
import Derived.Test.YtfpemobkkfobkaaGreatDoorK01
import Derived.Test.YtfpemobkkfobkaaGreatDoorK02
import Derived.Test.YtfpemobkkfobkaaGreatDoorK03
import Derived.Test.YtfpemobkkfobkaaGreatDoorK04
import Derived.Test.YtfpemobkkfobkaaGreatDoorK05
import Derived.Test.YtfpemobkkfobkaaGreatDoorK07
import Derived.Test.YtfpemobkkfobkaaGreatDoorK09
import Derived.Test.YtfpemobkkfobkaaGreatDoorK10
import Derived.Test.YtfpemobkkfobkaaGreatDoorK11
namespace Go.Proofs.YtfpemobkkfobkaaGreatDoor
open Go.RowKit
set_option linter.unusedVariables false
set_option maxRecDepth 8000

theorem sKeyD (k : Int) (w : World) : Calls Tryz.prog 50 #[.int .i64 k] w fun e w' => e = .returned (.bool (keyD k)) ∧ w' = w := by
  go_enter Tryz.func50, Tryz.ntmps50
  go_wp2_with (go_at_call 29; refine (sInD _ _ _ _).mono ?_; rintro e w' ⟨rfl, hw⟩; subst w')
  go_ret
  exact ⟨rfl, rfl⟩
/-- What is read of a conn behind a pointer: its box is at any place of a block. -/
structure ConnAt (w : World) (B : Nat) (c : DConn) (A : Array Value) (cb of : Nat) : Prop where
  at_ : w.rangeAt cb of A.toList
  lt : cb < w.heap.size
  rd : shConn.Rd w B c A.toList
  hB : B ≤ w.heap.size
  tot : totConn c ≤ 1048576
theorem ConnAt.below {w W : World} {B : Nat} {c : DConn} {A : Array Value} {cb of : Nat} (h : ConnAt w B c A cb of) (hW : Below w.heap.size w W) : ConnAt W B c A cb of :=
  ⟨range_below h.at_ hW h.lt, Nat.lt_of_lt_of_le h.lt hW.size, h.rd.below h.hB hW, Nat.le_trans h.hB hW.size, h.tot⟩
theorem ConnAt.of {w : World} {B : Nat} {c : DConn} {A : Array Value} {cb of : Nat} (h1 : w.rangeAt cb of A.toList) (h2 : shConn.Rd w B c A.toList) (h3 : B ≤ w.heap.size) (h4 : totConn c ≤ 1048576) : ConnAt w B c A cb of := by
  have hz : A.size = 14 := rd_size h2
  exact ⟨h1, cell_lt (h1 0 (A.toList[0]'(by simp; omega)) (List.getElem?_eq_getElem _)), h2, h3, h4⟩
set_option maxHeartbeats 2000000 in
theorem sL9Ends (c : DConn) (A : Array Value) (cb of : Nat) (w : World) (B : Nat) (h : ConnAt w B c A cb of) (hg : gtFault c.inn = 0) :
    Calls Tryz.prog 52 #[.pointer (some ⟨cb, of, none⟩)] w fun e w' => e = .returned (.bool (endsD c.finIn c.inn)) ∧ Below w.heap.size w w' := by
  obtain ⟨hg1, hg2, hg3⟩ := gt_in hg
  obtain ⟨y0, y1, y2, y3, y4, d5, y6, y7, y8, ⟨dn, ps, ⟨⟩⟩, y10, y11, d12, ⟨⟩⟩ := c
  have CB : Hid (∀ W, Below w.heap.size w W → W.rangeAt cb of A.toList) := fun W hW => (h.below hW).at_
  obtain ⟨a5, c5, a9, c9, a9', c9', a12, c12, eA, -, r9, -, -⟩ := rd_Conn h.rd
  obtain ⟨_, _, _, _, e9, -, r10⟩ := rd_gt r9
  simp only [List.cons.injEq, Value.slice.injEq, and_true, true_and] at e9
  obtain ⟨⟨rfl, rfl⟩, rfl, rfl⟩ := e9
  have hB := h.hB
  have hwf := (rd_Conn h.rd)
  replace hg1 : dn.length ≤ 400 := hg1
  replace hg2 : ps.length ≤ 40 := hg2
  replace hg3 : ∀ p ∈ ps, 0 < p.2.1.length ∧ 0 ≤ p.1 ∧ p.1 + p.2.1.length ≤ 400 := hg3
  have HP : Hid (∀ W, Below w.heap.size w W → pcsS.Rd W B ps [.slice a9' ps.length c9']) := fun W hW => Sh.Rd.below (s := pcsS) r10 hB hW
  have f9 : A.toList[9]? = some (.slice a9 dn.length c9) := by rw [eA]; rfl
  have f10 : A.toList[10]? = some (.slice a9' ps.length c9') := by rw [eA]; rfl
  have f11 : A.toList[11]? = some (.int .i64 y10) := by rw [eA]; rfl
  have HX : Hid (∀ W, Below w.heap.size w W → W.cell? ⟨cb, of + 9, none⟩ = some (.slice a9 dn.length c9) ∧ W.cell? ⟨cb, of + 9 + 1, none⟩ = some (.slice a9' ps.length c9') ∧ W.cell? ⟨cb, of + 11, none⟩ = some (.int .i64 y10)) := fun W hW => ⟨CB.out W hW 9 _ f9, CB.out W hW 10 _ f10, CB.out W hW 11 _ f11⟩
  have hR : endsD (DConn.finIn (y0, y1, y2, y3, y4, d5, y6, y7, y8, (dn, ps, ()), y10, y11, d12, ())) (DConn.inn (y0, y1, y2, y3, y4, d5, y6, y7, y8, (dn, ps, ()), y10, y11, d12, ())) = (decide (y10 < 0) || (decide ((dn.length : Int) ≤ y10) && ps.all fun p => decide (p.1 + (p.2.1.length : Int) ≤ y10))) := rfl
  rw [hR]
  obtain ⟨x9, x10, x11⟩ := HX.out w (Below.refl _ _)
  have HG3 : Hid _ := hg3
  clear h CB eA r9 r10 hwf f9 f10 f11 hR hg hg3
  obtain ⟨n9, hn9⟩ : ∃ n, dn.length = n := ⟨_, rfl⟩
  obtain ⟨np, hnp⟩ : ∃ n, ps.length = n := ⟨_, rfl⟩
  rw [hn9] at x9 HX hg1 ⊢
  rw [hnp] at x10 HX HP hg2
  have HNP : Hid (ps.length = np) := hnp
  clear hn9 hnp
  by_cases h0 : y10 < 0
  · have hE : (decide (y10 < 0) || (decide ((n9 : Int) ≤ y10) && ps.all fun p => decide (p.1 + (p.2.1.length : Int) ≤ y10))) = true := by simp [h0]
    rw [hE]
    clear hE
    go_enter Tryz.func52, Tryz.ntmps52
    go_wp2_with fail
    go_ret
    exact ⟨rfl, Below.refl _ _⟩
  · by_cases h1 : y10 < (n9 : Int)
    · have hE : (decide (y10 < 0) || (decide ((n9 : Int) ≤ y10) && ps.all fun p => decide (p.1 + (p.2.1.length : Int) ≤ y10))) = false := by simp [h0]; intro h; omega
      rw [hE]
      clear hE
      go_enter Tryz.func52, Tryz.ntmps52
      go_upto_region 3 with fail
      go_quiet (fail)
      go_wp2_with fail
      go_ret
      exact ⟨rfl, by first | exact Below.refl _ _ | exact below_drewN (Below.refl _ _) _ | go_grown⟩
    · have hE : (decide (y10 < 0) || (decide ((n9 : Int) ≤ y10) && ps.all fun p => decide (p.1 + (p.2.1.length : Int) ≤ y10))) = ps.all fun p => decide (p.1 + (p.2.1.length : Int) ≤ y10) := by simp [h0]; intro h; omega
      rw [hE]
      clear hE
      obtain ⟨R, hRR⟩ : ∃ R, R = (ps.all fun p => decide (p.1 + (p.2.1.length : Int) ≤ y10)) := ⟨_, rfl⟩
      rw [← hRR]
      have HR1 : Hid (∀ k (hk : k < ps.length), y10 < ps[k].1 + (ps[k].2.1.length : Int) → R = false) := fun k hk hlt => by
        rw [hRR]
        apply Bool.eq_false_iff.2
        intro hall
        have := (List.all_eq_true.1 hall) ps[k] (List.getElem_mem hk)
        simp at this
        omega
      have HR2 : Hid ((∀ k (hk : k < ps.length), ps[k].1 + (ps[k].2.1.length : Int) ≤ y10) → R = true) := fun hall => by
        rw [hRR]
        refine List.all_eq_true.2 fun p hp => ?_
        obtain ⟨k, hk, rfl⟩ := List.getElem_of_mem hp
        simpa using hall k hk
      clear hRR
      go_enter Tryz.func52, Tryz.ntmps52
      go_upto_region 3 with fail
      go_cut [19] (fun u wx => u = .bool false ∧ Below w.heap.size w wx)
      case first =>
        go_quiet (fail)
        go_wp2_with fail
        go_meet
        exact ⟨rfl, by first | exact Below.refl _ _ | exact below_drewN (Below.refl _ _) _ | go_grown⟩
      case rest =>
      rename World => w1
      obtain ⟨rfl, hb1⟩ := hcut
      have HB1 : Hid _ := hb1
      clear hb1 x9 x10 x11
      go_wp2_with fail
      go_loopw [3] (fun i wr => ∃ (k : Nat), k ≤ np ∧ i = .int .i64 k ∧ (∀ j (hj : j < ps.length), j < k → ps[j].1 + (ps[j].2.1.length : Int) ≤ y10) ∧ Below w.heap.size w wr) (fun i _ => np - (intOf i).toNat)
      case atStart => exact ⟨0, Nat.zero_le _, rfl, fun j hj h => absurd h (Nat.not_lt_zero _), HB1.out⟩
      case round =>
        obtain ⟨k, hk, rfl, hq, hbl⟩ := hrel
        obtain ⟨x9, x10, x11⟩ := HX.out wr hbl
        have HQ : Hid _ := hq
        have HBl : Hid _ := hbl
        by_cases hlt : k < np
        · have hkl : k < ps.length := by have := HNP.out; omega
          obtain ⟨_, _, e1, -, -, hp⟩ := rd_pcs (HP.out wr hbl)
          obtain ⟨b, off, ad, c, ha, hb, z0, z1, -, hw⟩ := hp k hkl
          simp only [List.cons.injEq, Value.slice.injEq, and_true] at e1
          rw [← e1.1] at ha
          subst ha
          obtain ⟨q1, q2, q3⟩ := HG3.out ps[k] (List.getElem_mem hkl)
          have HR1k : Hid _ := HR1.out k hkl
          have HS : Hid (ps[k].1 + (ps[k].2.1.length : Int) ≤ y10 → ∀ j (hj : j < ps.length), j < k + 1 → ps[j].1 + (ps[j].2.1.length : Int) ≤ y10) := fun h j hj hjk => by
            by_cases e : j = k
            · subst e; exact h
            · exact HQ.out j hj (by omega)
          clear hp e1 hq hbl hw
          generalize ps[k].1 = at' at *
          generalize ps[k].2.1.length = n at *
          have hki : (k : Int) < (np : Int) := by omega
          have hk0 : (0 : Int) ≤ (k : Int) := by omega
          have hwr : IntKind.i64.wrap (at' + (n : Int)) = at' + (n : Int) := by simp only [IntKind.wrap, IntKind.bits, IntKind.signed]; simp; omega
          by_cases hc : y10 < at' + (n : Int)
          · have hRf := HR1k.out hc
            subst hRf
            go_upto_region 8 with fail
            go_quiet (fail)
            go_wp2_with fail
            go_ret
            exact ⟨rfl, by have h := HBl.out; first | exact h | exact below_drewN h _ | go_grown⟩
          · have HS' := HS.out (by omega)
            have HS2 : Hid _ := HS'
            clear HS HS'
            go_upto_region 8 with fail
            go_quiet (fail)
            go_wp2_with fail
            go_roundw
            case rel => exact ⟨k + 1, by omega, by go_num, HS2.out, by have h := HBl.out; first | exact h | exact below_drewN h _ | go_grown⟩
            case measure => simp [intOf]; omega
        · obtain rfl : k = np := by omega
          have hRt := HR2.out (fun j hj => hq j hj (by have := HNP.out; omega))
          subst hRt
          clear hq
          go_wp2_with fail
          go_ret
          exact ⟨rfl, hbl⟩
theorem sL8FaultA (x : DSub) (cs : List Value) (sb of : Nat) (w : World) (B : Nat) (hrg : w.rangeAt sb of cs) (hr : shSub.Rd w B x cs) (hB : B ≤ w.heap.size) (hT : totSub x ≤ 1048576) :
    Calls Tryz.prog 70 #[.pointer (some ⟨sb, of, none⟩)] w fun e w' => e = .returned (.int .i64 (subF x)) ∧ Below w.heap.size w w' := by
  obtain ⟨y0, y1, y2, y3, y4, y5, ⟨s0, s1, s2, fl, ⟨⟩⟩, ⟨c0, c1, sp, ⟨⟩⟩, ⟨k0, k1, k2, ⟨⟩⟩, ⟨⟩⟩ := x
  obtain ⟨u, v, e, -⟩ := rd_Sub hr
  subst e
  obtain ⟨ua, uc, va, vc, rfl, rfl, rs, rc, -⟩ := rd_SubF hr
  obtain ⟨u2, e2, r2, -⟩ := rd_Sender rs
  simp only [List.cons.injEq, and_true, true_and] at e2
  obtain ⟨v2, e3, r3, -⟩ := rd_Catch rc
  simp only [List.cons.injEq, and_true, true_and] at e3
  subst e2 e3
  refine sL8Fault y0 y1 y2 y3 y4 y5 s0 s1 s2 fl c0 c1 sp k0 k1 k2 ua _ uc va _ vc sb of w B rfl rfl (fun j hj => ?_) r2 r3 hB hT
  have := hrg j
  match j, hj with
  | 0, _ => exact this _ rfl | 1, _ => exact this _ rfl | 2, _ => exact this _ rfl | 3, _ => exact this _ rfl | 4, _ => exact this _ rfl | 5, _ => exact this _ rfl | 6, _ => exact this _ rfl | 7, _ => exact this _ rfl
  | 8, _ => exact this _ rfl | 9, _ => exact this _ rfl | 10, _ => exact this _ rfl | 11, _ => exact this _ rfl | 12, _ => exact this _ rfl | 13, _ => exact this _ rfl | 14, _ => exact this _ rfl | 15, _ => exact this _ rfl
  | n + 16, h => exact absurd h (by omega)
/-- Sub k of a row that reads: its cells as a range, its path, its state, whether it is a join. -/
theorem sub_at {w : World} {B : Nat} {l : List DSub} {a : Option Addr} {n cap : Nat} (h : shSubs.Rd w B l [.slice a n cap]) (k : Nat) (hk : k < l.length) :
    ∃ b off cs, a = some ⟨b, off, none⟩ ∧ b < B ∧ cs.length = 16 ∧ w.rangeAt b (off + k * 16) cs ∧ shSub.Rd w B l[k] cs ∧ w.cell? ⟨b, off + k * 16, none⟩ = some (.int .i64 l[k].1) ∧ w.cell? ⟨b, off + k * 16 + 1, none⟩ = some (.int .i64 l[k].2.1) ∧ w.cell? ⟨b, off + k * 16 + 2, none⟩ = some (.bool l[k].2.2.1) := by
  obtain ⟨b, off, cs, ha, hb, hl, hrg, hr⟩ := row_at h k hk
  replace hrg : w.rangeAt b (off + k * 16) cs := hrg
  obtain ⟨u, v, e, -⟩ := rd_Sub hr
  refine ⟨b, off, cs, ha, hb, hl, hrg, hr, ?_, ?_, ?_⟩
  · exact hrg 0 _ (by rw [e]; rfl)
  · exact hrg 1 _ (by rw [e]; rfl)
  · exact hrg 2 _ (by rw [e]; rfl)
theorem sub_at2 {w : World} {B : Nat} {l : List DSub} {b off n cap : Nat} (h : shSubs.Rd w B l [.slice (some ⟨b, off, none⟩) n cap]) (k : Nat) (hk : k < l.length) :
    ∃ cs, b < B ∧ cs.length = 16 ∧ w.rangeAt b (off + k * 16) cs ∧ shSub.Rd w B l[k] cs ∧ w.cell? ⟨b, off + k * 16, none⟩ = some (.int .i64 l[k].1) ∧ w.cell? ⟨b, off + k * 16 + 1, none⟩ = some (.int .i64 l[k].2.1) ∧ w.cell? ⟨b, off + k * 16 + 2, none⟩ = some (.bool l[k].2.2.1) := by
  obtain ⟨b', off', cs, ha, r⟩ := sub_at h k hk
  simp only [Option.some.injEq, Addr.mk.injEq, and_true] at ha
  obtain ⟨rfl, rfl⟩ := ha
  exact ⟨cs, r⟩
theorem any_take {l : List DSub} {k j : Nat} {p : Int} (hk : k ≤ l.length) (hj : j < k) (hl : j < l.length) (h : l[j].1 = p) : ((l.take k).any fun y => decide (y.1 = p)) = true := by
  refine List.any_eq_true.2 ⟨l[j], ?_, by simpa using h⟩
  refine List.mem_iff_getElem.2 ⟨j, by rw [List.length_take]; omega, by simp⟩
theorem any_none {l : List DSub} {k : Nat} {p : Int} (h : ∀ j (hj : j < l.length), j < k → l[j].1 ≠ p) : ((l.take k).any fun y => decide (y.1 = p)) = false := by
  apply Bool.eq_false_iff.2
  intro ha
  obtain ⟨y, hy, hp⟩ := List.any_eq_true.1 ha
  obtain ⟨j, hj, rfl⟩ := List.mem_iff_getElem.1 hy
  have hj' := hj
  rw [List.length_take] at hj'
  simp at hp
  exact h j (by omega) (by omega) hp
set_option maxHeartbeats 4000000 in
theorem sL9Subs (c : DConn) (A : Array Value) (cb of : Nat) (w : World) (B : Nat) (h : ConnAt w B c A cb of) :
    Calls Tryz.prog 53 #[.pointer (some ⟨cb, of, none⟩)] w fun e w' => e = .returned (.int .i64 (subsF c.subs)) ∧ Below w.heap.size w w' := by
  obtain ⟨y0, y1, y2, y3, y4, d5, y6, y7, y8, d9, y10, y11, l, ⟨⟩⟩ := c
  have CB : Hid (∀ W, Below w.heap.size w W → W.rangeAt cb of A.toList) := fun W hW => (h.below hW).at_
  obtain ⟨a5, c5, a9, c9, a9', c9', a12, c12, eA, -, -, r12, -⟩ := rd_Conn h.rd
  have hB := h.hB
  have hT := h.tot
  have f13 : A.toList[13]? = some (.slice a12 l.length c12) := by rw [eA]; rfl
  have HX : Hid (∀ W, Below w.heap.size w W → W.cell? ⟨cb, of + 13, none⟩ = some (.slice a12 l.length c12)) := fun W hW => CB.out W hW 13 _ f13
  have HRd : Hid (∀ W, Below w.heap.size w W → shSubs.Rd W B l [.slice a12 l.length c12]) := fun W hW => Sh.Rd.below (s := shSubs) r12 hB hW
  have hmx : l.length ≤ 1048576 := by have h2 : d5.length + gtTot d9 + totSubs l ≤ 1048576 := hT; unfold totSubs at h2; omega
  have HT : Hid (∀ k (hk : k < l.length), totSub l[k] ≤ 1048576) := fun k hk => by have h2 : d5.length + gtTot d9 + totSubs l ≤ 1048576 := hT; have := fsum_at totSub hk; unfold totSubs at h2; omega
  obtain ⟨R, hR⟩ : ∃ R, R = subsF l := ⟨_, rfl⟩
  have HR : Hid (R = subsFrom (l.take 0) (l.drop 0)) := hR
  show Calls _ _ _ _ fun e w' => e = .returned (.int .i64 (subsF l)) ∧ _
  rw [← hR]
  obtain ⟨n, hn⟩ : ∃ n, l.length = n := ⟨_, rfl⟩
  rw [hn] at HX HRd hmx
  have HN : Hid (l.length = n) := hn
  clear h CB eA r12 hT f13 hR hn
  have x13 := HX.out w (Below.refl _ _)
  go_enter Tryz.func53, Tryz.ntmps53
  go_wp2_with fail
  go_loopw [3] (fun i wr => ∃ (k : Nat), k ≤ n ∧ i = .int .i64 k ∧ Hid (R = subsFrom (l.take k) (l.drop k)) ∧ Below w.heap.size w wr) (fun i _ => n - (intOf i).toNat)
  case atStart => exact ⟨0, Nat.zero_le _, rfl, HR, Below.refl _ _⟩
  case round =>
    obtain ⟨k, hk, rfl, HQ, hbl⟩ := hrel
    have x13 := HX.out wr hbl
    by_cases hlt : k < n
    · have hkl : k < l.length := by have := HN.out; omega
      have hki : (k : Int) < (n : Int) := by omega
      have hk0 : (0 : Int) ≤ (k : Int) := by omega
      obtain ⟨b, off, cs, ha, hb, -, -, -, -, -, -⟩ := sub_at (HRd.out wr hbl) k hkl
      subst ha
      have HS : Hid (subsFrom (l.take k) (l.drop k) = if subF l[k] ≠ 0 then subF l[k] else if ((l.take k).any fun y => decide (y.1 = l[k].1)) = true then 7 else if l[k].2.2.1 ≠ decide (0 < k) then 1 else subsFrom (l.take (k + 1)) (l.drop (k + 1))) := subs_at hkl
      have HC : Hid (Calls Tryz.prog 70 #[.pointer (some ⟨b, off + k * 16, none⟩)] wr fun e w' => e = .returned (.int .i64 (subF l[k])) ∧ Below wr.heap.size wr w') := by
        obtain ⟨cs, -, -, hrg, hrd, -⟩ := sub_at2 (HRd.out wr hbl) k hkl
        exact sL8FaultA l[k] cs b (off + k * 16) wr B hrg hrd (Nat.le_trans hB hbl.size) (HT.out k hkl)
      have HB : Hid _ := hbl
      clear hbl
      by_cases hF : subF l[k] = 0
      · rw [hF] at HC
        replace HS : Hid (subsFrom (l.take k) (l.drop k) = if ((l.take k).any fun y => decide (y.1 = l[k].1)) = true then 7 else if l[k].2.2.1 ≠ decide (0 < k) then 1 else subsFrom (l.take (k + 1)) (l.drop (k + 1))) := by have h := HS.out; rw [hF, if_neg (by simp)] at h; exact h
        clear hF
        go_wp2_with fail
        refine HC.out.mono ?_
        rintro e w1 ⟨rfl, hb1⟩
        have HB1 : Hid (Below w.heap.size w w1) := HB.out.trans (hb1.mono HB.out.size)
        clear hb1 HC x13
        go_wp2_with fail
        go_loopw [5] (fun i wr => ∃ (j : Nat), j ≤ k ∧ i = .int .i64 j ∧ Hid (∀ j' (hj : j' < l.length), j' < j → l[j'].1 ≠ l[k].1) ∧ Below w.heap.size w wr) (fun i _ => k - (intOf i).toNat)
        case atStart => exact ⟨0, Nat.zero_le _, rfl, fun j' _ h => absurd h (Nat.not_lt_zero _), HB1.out⟩
        case round =>
          rename World => wq
          obtain ⟨j, hj, rfl, HP, hbl2⟩ := hrel
          have x13 := HX.out wq hbl2
          obtain ⟨-, -, -, -, -, p0, p1, p2⟩ := sub_at2 (HRd.out wq hbl2) k hkl
          have HB2 : Hid _ := hbl2
          by_cases hjk : j < k
          · have hjl : j < l.length := by omega
            have hji : (j : Int) < (n : Int) := by omega
            have hj0 : (0 : Int) ≤ (j : Int) := by omega
            obtain ⟨-, -, -, -, -, q0, -, -⟩ := sub_at2 (HRd.out wq hbl2) j hjl
            clear hbl2
            by_cases he : l[j].1 = l[k].1
            · have hR7 : R = 7 := by rw [HQ.out, HS.out, if_pos (any_take (by omega) hjk hjl he)]
              subst hR7
              have he' : (l[j].1 == l[k].1) = true := by simp [he]
              clear HQ HS HP he
              generalize l[j].1 = pj at *
              generalize l[k].1 = pk at *
              generalize l[k].2.1 = pt at *
              generalize l[k].2.2.1 = pb at *
              go_upto_region 10 with fail
              go_quiet (fail)
              go_wp2_with fail
              go_ret
              exact ⟨rfl, by have h := HB2.out; first | exact h | exact below_drewN h _ | go_grown⟩
            · have HP2 : Hid (∀ j' (hj : j' < l.length), j' < j + 1 → l[j'].1 ≠ l[k].1) := fun j' hj' hlt' => by
                by_cases e : j' = j
                · subst e; exact he
                · exact HP.out j' hj' (by omega)
              have he' : (l[j].1 == l[k].1) = false := by simp [he]
              clear HP he
              generalize l[j].1 = pj at *
              go_upto_region 10 with fail
              go_quiet (fail)
              go_wp2_with fail
              go_roundw
              case rel => exact ⟨j + 1, by omega, by go_num, HP2, by have h := HB2.out; first | exact h | exact below_drewN h _ | go_grown⟩
              case measure => simp [intOf]; omega
          · obtain rfl : j = k := by omega
            have hno := any_none HP.out
            clear hbl2
            replace HS : Hid (subsFrom (l.take j) (l.drop j) = if l[j].2.2.1 ≠ decide (0 < j) then 1 else subsFrom (l.take (j + 1)) (l.drop (j + 1))) := by have h := HS.out; rw [hno, if_neg (by simp)] at h; exact h
            have hdj : decide ((0 : Int) < (j : Int)) = decide (0 < j) := by simp
            have HDJ : Hid _ := hdj
            clear hdj
            by_cases hf : l[j].2.2.1 = decide (0 < j)
            · replace HS : Hid (R = subsFrom (l.take (j + 1)) (l.drop (j + 1))) := by have h := HS.out; rw [if_neg (by simp [hf])] at h; exact HQ.out.trans h
              rw [hf] at p2
              by_cases hz : 0 < j
              · rw [decide_eq_true hz] at p2
                clear HP HQ hno hf
                go_wp2_with fail
                go_roundw
                case rel => exact ⟨j + 1, by omega, by go_num, HS, HB2.out⟩
                case measure => simp [intOf]; omega
              · obtain rfl : j = 0 := by omega
                rw [decide_eq_false (by omega : ¬ 0 < 0)] at p2
                clear HP HQ hno hf
                go_wp2_with fail
                go_roundw
                case rel => exact ⟨0 + 1, by omega, by go_num, HS, HB2.out⟩
                case measure => simp [intOf]; omega
            · have hR1 : R = 1 := by rw [HQ.out, HS.out, if_pos hf]
              subst hR1
              by_cases hz : 0 < j
              · have hb : l[j].2.2.1 = false := by rw [decide_eq_true hz] at hf; simpa using hf
                rw [hb] at p2
                clear HP HQ HS hno hf hb
                go_wp2_with fail
                go_ret
                exact ⟨rfl, HB2.out⟩
              · obtain rfl : j = 0 := by omega
                have hb : l[0].2.2.1 = true := by rw [decide_eq_false (by omega : ¬ 0 < 0)] at hf; simpa using hf
                rw [hb] at p2
                clear HP HQ HS hno hf hb
                go_wp2_with fail
                go_ret
                exact ⟨rfl, HB2.out⟩
      · have hRF : R = subF l[k] := by rw [HQ.out, HS.out, if_pos hF]
        have hF' : (subF l[k] != 0) = true := by simp [hF]
        obtain ⟨FF, hFF⟩ : ∃ FF, subF l[k] = FF := ⟨_, rfl⟩
        rw [hFF] at HC hRF hF'
        subst hRF
        clear HQ HS hF hFF
        go_wp2_with fail
        refine HC.out.mono ?_
        rintro e w1 ⟨rfl, hb1⟩
        have HB1 : Hid (Below w.heap.size w w1) := HB.out.trans (hb1.mono HB.out.size)
        clear hb1 HC x13
        go_wp2_with fail
        go_ret
        exact ⟨rfl, HB1.out⟩
    · obtain rfl : k = n := by omega
      have hR0 : R = 0 := by have h := HQ.out; rw [← HN.out, subs_end] at h; exact h
      subst hR0
      go_wp2_with fail
      go_ret
      exact ⟨rfl, hbl⟩
end Go.Proofs.YtfpemobkkfobkaaGreatDoor
