/- The program's WorldFault; nothing that was in memory turns; no condition but that there are at most a million parts. Written by mkwim.py. -/
import Derived.Test.YtfpemobkkfobkaaGreatDoorRows
import Derived.Deep.RegionHeld3
import Derived.Deep.DeepCutAuto
import Derived.Deep.MidRow
import Derived.Deep.QuietTactic
import Derived.BigQuiet
import Derived.Test.YtfpemobkkfobkaaGreatDoorK01
import Derived.Test.YtfpemobkkfobkaaGreatDoorK02
import Derived.Test.YtfpemobkkfobkaaGreatDoorK03
import Derived.Test.YtfpemobkkfobkaaGreatDoorK05
import Derived.Test.YtfpemobkkfobkaaGreatDoorK10
import Derived.Test.YtfpemobkkfobkaaGreatDoorK11
import Derived.Test.YtfpemobkkfobkaaGreatDoorK12
import Derived.Test.YtfpemobkkfobkaaGreatDoorK16
import Derived.Test.YtfpemobkkfobkaaGreatDoorK56
import Derived.Test.YtfpemobkkfobkaaGreatDoorK57
import Derived.Test.YtfpemobkkfobkaaGreatDoorK58
import Derived.Test.YtfpemobkkfobkaaGreatDoorK59
import Derived.Test.YtfpemobkkfobkaaGreatDoorK60
import Derived.Test.YtfpemobkkfobkaaGreatDoorK64
namespace Go.Proofs.YtfpemobkkfobkaaGreatDoor
open Go.RowKit
set_option linter.unusedVariables false
set_option maxRecDepth 8000

theorem bx_first {w : World} {b o : Nat} {A : Array Value} (h : w.rangeAt b o A.toList) (hz : A.size = 14) : w.cell? ⟨b, o, none⟩ = A[0]? := by
  have h0 : 0 < A.size := by omega
  rw [Array.getElem?_eq_getElem h0]
  exact h 0 _ (by rw [Array.getElem?_toList, Array.getElem?_eq_getElem h0])
theorem conn_arr {w : World} {B : Nat} {c : DConn} {A : Array Value} (h : shConn.Rd w B c A.toList) : ∃ a9 c9, A[9]? = some (.slice a9 c.inn.1.length c9) ∧ A[12]? = some (.int .i64 c.given) ∧ u8s.Rd w B c.inn.1 [.slice a9 c.inn.1.length c9] := by
  obtain ⟨y0, y1, y2, y3, y4, d5, y6, y7, y8, ⟨dn, ps, ⟨⟩⟩, y10, y11, l, ⟨⟩⟩ := c
  obtain ⟨a5, c5, a9, c9, a9', c9', a12, c12, eA, -, r9, -, -⟩ := rd_Conn h
  obtain ⟨x1, x2, x3, x4, e9, q1, -⟩ := rd_gt r9
  simp only [List.cons.injEq, and_true, Value.slice.injEq] at e9
  obtain ⟨⟨rfl, -, rfl⟩, -⟩ := e9
  exact ⟨a9, c9, (get_of eA 9).trans rfl, (get_of eA 12).trans rfl, q1⟩
set_option maxHeartbeats 4000000 in
theorem iSidesFault (l : List DConn) (a : Option Addr) (cap : Nat) (w : World) (B : Nat) (hr : shConns.Rd w B l [.slice a 2 cap]) (hB : B ≤ w.heap.size) (h2 : l.length = 2) (hT : totConns l ≤ 1048576) :
    Calls Tryz.prog 38 #[.slice a 2 cap] w fun e w' => e = .returned (.int .i64 (if cfsF l ≠ 0 then cfsF l else if sdF 0 l = false then 1 else 0)) ∧ Below w.heap.size w w' := by
  obtain ⟨R, hR⟩ : ∃ R, R = if cfsF l ≠ 0 then cfsF l else if sdF 0 l = false then 1 else 0 := ⟨_, rfl⟩
  rw [← hR]
  have HR : Hid _ := hR
  obtain ⟨sb, so, hsa, hsb, hsc⟩ := conns_at hr (by intro e; subst e; simp at h2)
  subst hsa
  have HCA : Hid (∀ W, Below w.heap.size w W → ∀ k (hk : k < l.length), ∃ A, ConnAt W B l[k] A sb (so + k * 14)) := fun W hW k hk => by
    obtain ⟨A, q1, q2⟩ := hsc k hk
    exact ⟨A, (ConnAt.of q1 q2 hB (by have := fsum_at totConn hk; unfold totConns at hT; omega)).below hW⟩
  have HL1 : Hid (l.length = 2) := h2
  have HZ : Hid (cfsF (l.drop 0) = cfsF l) := rfl
  clear hr hR hsc hT hsb h2
  go_enter Tryz.func38, Tryz.ntmps38
  go_upto_region 2 with fail
  go_loopw [10] (fun i wr => ∃ k : Nat, k ≤ 2 ∧ i = .int .i64 k ∧ Hid (cfsF (l.drop k) = cfsF l) ∧ Hid (Below w.heap.size w wr)) (fun i _ => 2 - (intOf i).toNat)
  case atStart => exact ⟨0, by omega, rfl, HZ, Below.refl _ _⟩
  case round =>
    obtain ⟨k, hk, rfl, HC, HB⟩ := hrel
    clear HZ
    by_cases hlt : k < 2
    · have hkl : k < l.length := by have := HL1.out; omega
      have hk0 : (0 : Int) ≤ (k : Int) := by omega
      have hki : (k : Int) < 2 := by omega
      obtain ⟨A, hA⟩ := HCA.out wr HB.out k hkl
      have HG : Hid (wr.rangeAt sb (so + k * 14) A.toList) := hA.at_
      have hz : A.size = 14 := rd_size hA.rd
      have HZA : Hid (A.size = 14) := hz
      have IA : Hid ((Tryz.prog.info? 79).map (·.size) = some A.size) := by show _ = _; rw [hz]; exact (by kernel_rfl : (Tryz.prog.info? 79).map (·.size) = some 14)
      have JA : Hid ((Tryz.prog.info? 79).map (·.size) = some A.toList.length) := by show _ = _; rw [Array.length_toList]; exact IA.out
      have ONE : Hid (A.all (·.oneCell') = true) := rd_all hA.rd
      have HCF : Hid (∀ W, Below wr.heap.size wr W → Calls Tryz.prog 58 #[.agg A] W fun e w' => e = .returned (.int .i64 (connF l[k])) ∧ Below W.heap.size W w') := fun W hW => iConnFault l[k] A W B (hA.below hW).rd (hA.below hW).hB hA.tot
      have HST : Hid _ := HC.out.symm.trans (cfs_drop hkl)
      have HBo : Hid (wr = wr) := rfl
      clear hA HC hz HBo
      generalize connF l[k] = q at *
      obtain ⟨wo, hwo⟩ : ∃ wo : World, wo = wr := ⟨_, rfl⟩
      have HWO : Hid (wo = wr) := hwo
      clear hwo
      have HBR : Hid (Below wr.heap.size wr wr) := Below.refl _ _
      have HTH : Hid ((wr.alloc (.cells #[.int .i64 0, .int .i64 0, .int .i64 0, .bool false, .bool false, .slice none 0 0, .bool false, .int .i64 0, .bool false, .slice none 0 0, .slice none 0 0, .int .i64 0, .int .i64 0, .slice none 0 0] 79)).there wr.heap.size 0 A.size) := bx_there (bx_al _ _ _) (fx_al _ _ _) (by rw [HZA.out]; rfl)
      have HWN : Hid (Below wr.heap.size wr ((wr.alloc (.cells #[.int .i64 0, .int .i64 0, .int .i64 0, .bool false, .bool false, .slice none 0 0, .bool false, .int .i64 0, .bool false, .slice none 0 0, .slice none 0 0, .int .i64 0, .int .i64 0, .slice none 0 0] 79)).setCells wr.heap.size 0 A.toList) ∧ wr.heap.size < ((wr.alloc (.cells #[.int .i64 0, .int .i64 0, .int .i64 0, .bool false, .bool false, .slice none 0 0, .bool false, .int .i64 0, .bool false, .slice none 0 0, .slice none 0 0, .int .i64 0, .int .i64 0, .slice none 0 0] 79)).setCells wr.heap.size 0 A.toList).heap.size ∧ (∀ o, ((wr.alloc (.cells #[.int .i64 0, .int .i64 0, .int .i64 0, .bool false, .bool false, .slice none 0 0, .bool false, .int .i64 0, .bool false, .slice none 0 0, .slice none 0 0, .int .i64 0, .int .i64 0, .slice none 0 0] 79)).setCells wr.heap.size 0 A.toList).cell? ⟨wr.heap.size, o, none⟩ = A[o]?) ∧ (∀ o, ((wr.alloc (.cells #[.int .i64 0, .int .i64 0, .int .i64 0, .bool false, .bool false, .slice none 0 0, .bool false, .int .i64 0, .bool false, .slice none 0 0, .slice none 0 0, .int .i64 0, .int .i64 0, .slice none 0 0] 79)).setCells wr.heap.size 0 A.toList).frozen? ⟨wr.heap.size, o, none⟩ = false)) := ⟨setCells_below (Nat.le_refl _) _ _ _ _ ((Below.refl _ _).alloc (Nat.le_refl _) _), by rw [setCells_size]; simp, bx_setCells (bx_al wr _ _) (by rw [HZA.out]; rfl), fx_sets (fx_al _ _ _)⟩
      go_upto_region 4 with (first | (refine wpList_load_mid rfl 79 _ rfl _ _ (by rfl) A.toList _ HG.out Tryz.underlying79 rfl JA.out ?_) | (refine wpList_store_mid rfl 79 _ _ rfl _ _ A (by rfl) (by rfl) HTH.out IA.out ONE.out ?_))
      generalize hWW : ((wr.alloc (.cells #[.int .i64 0, .int .i64 0, .int .i64 0, .bool false, .bool false, .slice none 0 0, .bool false, .int .i64 0, .bool false, .slice none 0 0, .slice none 0 0, .int .i64 0, .int .i64 0, .slice none 0 0] 79)).setCells wr.heap.size 0 A.toList) = w1 at HWN ⊢
      clear hWW HTH
      obtain ⟨hb, zC, kC, fC⟩ := HWN.out
      clear HWN
      obtain ⟨bC, hq⟩ : ∃ q, q = wr.heap.size := ⟨_, rfl⟩
      rw [← hq] at zC kC fC ⊢
      have lwC : w.heap.size ≤ bC := by rw [hq]; exact HB.out.size
      clear hq
      replace HB : Hid (Below w.heap.size w w1) := HB.out.trans (hb.mono HB.out.size)
      replace HBR : Hid (Below wr.heap.size wr w1) := hb
      clear hb
      go_wp2_with (refine wpList_load_mid rfl 79 _ rfl _ _ (by rfl) A.toList _ (bx_range kC) Tryz.underlying79 rfl JA.out ?_)
      refine (HCF.out _ HBR.out).mono ?_
      rintro e w2 ⟨rfl, hb⟩
      replace HB : Hid (Below w.heap.size w w2) := HB.out.trans (hb.mono HB.out.size)
      clear hb kC zC fC HBR HCF HG
      by_cases hq : q = 0
      · have hst := HST.out
        rw [if_neg (by simp [hq])] at hst
        have HC2 : Hid (cfsF (l.drop (k + 1)) = cfsF l) := hst.symm
        have hq1 : (q != 0) = false := by simp [hq]
        have hq2 : (q == 0) = true := by simp [hq]
        clear hst HST hq
        go_wp2_with fail
        go_roundw
        case rel => exact ⟨k + 1, by omega, by go_num, HC2, HB⟩
        case measure => simp [intOf]; omega
      · have hst := HST.out
        rw [if_pos hq] at hst
        have hr := HR.out
        rw [hst, if_pos hq] at hr
        subst hr
        have hq1 : (R != 0) = true := by simp [hq]
        have hq2 : (R == 0) = false := by simp [hq]
        clear hst HST HR hq
        go_wp2_with fail
        go_ret
        exact ⟨rfl, HB.out⟩
    · obtain rfl : k = 2 := by omega
      rw [show ((2 : Nat) : Int) = 2 from rfl]
      have hc := HC.out
      rw [cfs_end (by have := HL1.out; omega)] at hc
      have hr := HR.out
      rw [if_neg (by simp [← hc])] at hr
      clear HR HC hc
      have HR : Hid _ := hr
      have HZ : Hid (sdF ((0 : Nat) : Int) (l.drop 0) = sdF 0 l) := rfl
      clear hr
      go_upto_region 9 with fail
      go_loopw [22] (fun i wr => ∃ k : Nat, k ≤ 2 ∧ i = .int .i64 k ∧ Hid (sdF k (l.drop k) = sdF 0 l) ∧ Hid (Below w.heap.size w wr)) (fun i _ => 2 - (intOf i).toNat)
      case atStart => exact ⟨0, by omega, rfl, HZ, HB⟩
      case round =>
        rename World => wq
        obtain ⟨wr, hwr⟩ : ∃ wr, wr = wq := ⟨_, rfl⟩
        clear HB
        obtain ⟨k, hk, rfl, HC, HB⟩ := hrel
        clear HZ
        by_cases hlt : k < 2
        · have hkl : k < l.length := by have := HL1.out; omega
          have hk0 : (0 : Int) ≤ (k : Int) := by omega
          have hki : (k : Int) < 2 := by omega
          obtain ⟨A, hA⟩ := HCA.out wq HB.out k hkl
          have HG : Hid (wq.rangeAt sb (so + k * 14) A.toList) := hA.at_
          have hz : A.size = 14 := rd_size hA.rd
          have HZA : Hid (A.size = 14) := hz
          have IA : Hid ((Tryz.prog.info? 79).map (·.size) = some A.size) := by show _ = _; rw [hz]; exact (by kernel_rfl : (Tryz.prog.info? 79).map (·.size) = some 14)
          have JA : Hid ((Tryz.prog.info? 79).map (·.size) = some A.toList.length) := by show _ = _; rw [Array.length_toList]; exact IA.out
          have ONE : Hid (A.all (·.oneCell') = true) := rd_all hA.rd
          have a0 : A[0]? = some (.int .i64 l[k].side) := by have h := (conn_cells hA).1; have h2 := bx_first hA.at_ hz; rw [← h2]; exact h
          have HST : Hid _ := HC.out.symm.trans (sd_drop hkl)
          clear hA HC hz
          generalize l[k].side = s at *
          have HTH : Hid ((wq.alloc (.cells #[.int .i64 0, .int .i64 0, .int .i64 0, .bool false, .bool false, .slice none 0 0, .bool false, .int .i64 0, .bool false, .slice none 0 0, .slice none 0 0, .int .i64 0, .int .i64 0, .slice none 0 0] 79)).there wq.heap.size 0 A.size) := bx_there (bx_al _ _ _) (fx_al _ _ _) (by rw [HZA.out]; rfl)
          have HWN : Hid (Below wq.heap.size wq ((wq.alloc (.cells #[.int .i64 0, .int .i64 0, .int .i64 0, .bool false, .bool false, .slice none 0 0, .bool false, .int .i64 0, .bool false, .slice none 0 0, .slice none 0 0, .int .i64 0, .int .i64 0, .slice none 0 0] 79)).setCells wq.heap.size 0 A.toList) ∧ wq.heap.size < ((wq.alloc (.cells #[.int .i64 0, .int .i64 0, .int .i64 0, .bool false, .bool false, .slice none 0 0, .bool false, .int .i64 0, .bool false, .slice none 0 0, .slice none 0 0, .int .i64 0, .int .i64 0, .slice none 0 0] 79)).setCells wq.heap.size 0 A.toList).heap.size ∧ (∀ o, ((wq.alloc (.cells #[.int .i64 0, .int .i64 0, .int .i64 0, .bool false, .bool false, .slice none 0 0, .bool false, .int .i64 0, .bool false, .slice none 0 0, .slice none 0 0, .int .i64 0, .int .i64 0, .slice none 0 0] 79)).setCells wq.heap.size 0 A.toList).cell? ⟨wq.heap.size, o, none⟩ = A[o]?) ∧ (∀ o, ((wq.alloc (.cells #[.int .i64 0, .int .i64 0, .int .i64 0, .bool false, .bool false, .slice none 0 0, .bool false, .int .i64 0, .bool false, .slice none 0 0, .slice none 0 0, .int .i64 0, .int .i64 0, .slice none 0 0] 79)).setCells wq.heap.size 0 A.toList).frozen? ⟨wq.heap.size, o, none⟩ = false)) := ⟨setCells_below (Nat.le_refl _) _ _ _ _ ((Below.refl _ _).alloc (Nat.le_refl _) _), by rw [setCells_size]; simp, bx_setCells (bx_al wq _ _) (by rw [HZA.out]; rfl), fx_sets (fx_al _ _ _)⟩
          go_upto_region 11 with (first | (refine wpList_load_mid rfl 79 _ rfl _ _ (by rfl) A.toList _ HG.out Tryz.underlying79 rfl JA.out ?_) | (refine wpList_store_mid rfl 79 _ _ rfl _ _ A (by rfl) (by rfl) HTH.out IA.out ONE.out ?_))
          generalize hWW : ((wq.alloc (.cells #[.int .i64 0, .int .i64 0, .int .i64 0, .bool false, .bool false, .slice none 0 0, .bool false, .int .i64 0, .bool false, .slice none 0 0, .slice none 0 0, .int .i64 0, .int .i64 0, .slice none 0 0] 79)).setCells wq.heap.size 0 A.toList) = w1 at HWN ⊢
          clear hWW HTH
          obtain ⟨hb, zC, kC, fC⟩ := HWN.out
          clear HWN
          obtain ⟨bC, hq⟩ : ∃ q, q = wq.heap.size := ⟨_, rfl⟩
          rw [← hq] at zC kC fC ⊢
          have lwC : w.heap.size ≤ bC := by rw [hq]; exact HB.out.size
          clear hq
          replace HB : Hid (Below w.heap.size w w1) := HB.out.trans (hb.mono HB.out.size)
          clear hb
          have hst := HST.out
          by_cases hq : s = (k : Int)
          · have hq1 : (s != (k : Int)) = false := by simp [hq]
            have hq2 : (s == (k : Int)) = true := by simp [hq]
            rw [decide_eq_true hq, Bool.true_and] at hst
            have HC2 : Hid (sdF ((k + 1 : Nat) : Int) (l.drop (k + 1)) = sdF 0 l) := hst.symm
            clear hst HST hq HG
            go_wp2_with fail
            go_roundw
            case rel => exact ⟨k + 1, by omega, by go_num, HC2, HB⟩
            case measure => simp [intOf]; omega
          · have hq1 : (s != (k : Int)) = true := by simp [hq]
            have hq2 : (s == (k : Int)) = false := by simp [hq]
            rw [decide_eq_false hq, Bool.false_and] at hst
            have hr := HR.out
            rw [if_pos hst] at hr
            subst hr
            clear hst HST HR hq HG
            go_wp2_with fail
            go_ret
            exact ⟨rfl, HB.out⟩
        · obtain rfl : k = 2 := by omega
          have hc := HC.out
          rw [sd_end (by have := HL1.out; omega)] at hc
          have hr := HR.out
          rw [if_neg (by simp [← hc])] at hr
          subst hr
          clear HR HC hc
          go_wp2_with fail
          go_ret
          exact ⟨rfl, HB.out⟩
set_option maxHeartbeats 4000000 in
theorem iWorldFault (x : DWorld) (A : Array Value) (w : World) (B : Nat) (hr : shWorld.Rd w B x A.toList) (hB : B ≤ w.heap.size) (hT : totWorld x ≤ 1048576) :
    Calls Tryz.prog 20 #[.agg A] w fun e w' => e = .returned (.int .i64 (worldF x)) ∧ Below w.heap.size w w' := by
  obtain ⟨now, sides, ⟨bag, dead, ⟨⟩⟩, got, ended, ⟨⟩⟩ := x
  obtain ⟨sa, sc, na, nc, da, dc, ga, gc, ea, ec, eA, r1, r2, r3, r4, -⟩ := rd_World hr
  have eA' := arr_of eA
  subst eA'
  clear hr eA
  have hm1 := row_max r1
  have hm3 := row_max r3
  have hm4 := row_max r4
  have hTc : totConns sides ≤ 1048576 ∧ totNet (bag, dead, ()) ≤ 1048576 := by have h : totConns sides + totNet (bag, dead, ()) + totBss got + ended.length ≤ 1048576 := hT; omega
  obtain ⟨R, hR⟩ : ∃ R, R = worldF (now, sides, (bag, dead, PUnit.unit), got, ended, PUnit.unit) := ⟨_, rfl⟩
  rw [← hR]
  replace hR : R = if inD now 0 100000 = false then 3 else if sides.length ≠ 2 then 1 else if got.length ≠ 2 then 1 else if ended.length ≠ 2 then 1 else if cfsF sides ≠ 0 then cfsF sides else if sdF 0 sides = false then 1 else if netF bag dead ≠ 0 then netF bag dead else if gotF sides got = false then 1 else 0 := hR
  by_cases h0 : inD now 0 100000 = true
  case neg =>
    have h0' : inD now 0 100000 = false := by simpa using h0
    rw [if_pos h0'] at hR
    subst hR
    clear r1 r2 r3 r4
    generalize sides.length = n1 at *
    generalize got.length = n2 at *
    generalize ended.length = n3 at *
    generalize bag.length = n4 at *
    generalize dead.length = n5 at *
    go_enter Tryz.func20, Tryz.ntmps20
    go_wp2_with ((go_at_call 37; refine (iInD _ _ _ _).mono ?_; rintro e w' ⟨rfl, hw⟩; subst w'))
    go_ret
    exact ⟨rfl, by go_grown⟩
  rw [if_neg (by simp [h0])] at hR
  by_cases g1 : sides.length = 2
  case neg =>
    rw [if_pos g1] at hR
    subst hR
    have e1 : ((sides.length : Int) != 2) = true := by simp; omega
    have e2 : ((sides.length : Int) == 2) = false := by simp; omega
    clear r1 r2 r3 r4
    generalize sides.length = n1 at *
    generalize got.length = n2 at *
    generalize ended.length = n3 at *
    generalize bag.length = n4 at *
    generalize dead.length = n5 at *
    go_enter Tryz.func20, Tryz.ntmps20
    go_wp2_with ((go_at_call 37; refine (iInD _ _ _ _).mono ?_; rintro e w' ⟨rfl, hw⟩; subst w'))
    go_ret
    exact ⟨rfl, by go_grown⟩
  rw [if_neg (by simp [g1])] at hR
  by_cases g2 : got.length = 2
  case neg =>
    rw [if_pos g2] at hR
    subst hR
    have e1 : ((got.length : Int) != 2) = true := by simp; omega
    have e2 : ((got.length : Int) == 2) = false := by simp; omega
    clear r1 r2 r3 r4
    generalize sides.length = n1 at *
    generalize got.length = n2 at *
    generalize ended.length = n3 at *
    generalize bag.length = n4 at *
    generalize dead.length = n5 at *
    subst g1
    go_enter Tryz.func20, Tryz.ntmps20
    go_wp2_with ((go_at_call 37; refine (iInD _ _ _ _).mono ?_; rintro e w' ⟨rfl, hw⟩; subst w'))
    go_ret
    exact ⟨rfl, by go_grown⟩
  rw [if_neg (by simp [g2])] at hR
  by_cases g3 : ended.length = 2
  case neg =>
    rw [if_pos g3] at hR
    subst hR
    have e1 : ((ended.length : Int) != 2) = true := by simp; omega
    have e2 : ((ended.length : Int) == 2) = false := by simp; omega
    clear r1 r2 r3 r4
    generalize sides.length = n1 at *
    generalize got.length = n2 at *
    generalize ended.length = n3 at *
    generalize bag.length = n4 at *
    generalize dead.length = n5 at *
    subst g1
    subst g2
    go_enter Tryz.func20, Tryz.ntmps20
    go_wp2_with ((go_at_call 37; refine (iInD _ _ _ _).mono ?_; rintro e w' ⟨rfl, hw⟩; subst w'))
    go_ret
    exact ⟨rfl, by go_grown⟩
  rw [if_neg (by simp [g3])] at hR
  rw [g1] at r1
  obtain ⟨sb, so, hsa, hsb, hsc⟩ := conns_at r1 (by intro e; subst e; simp at g1)
  subst hsa
  obtain ⟨gb, go, hga, hgb⟩ : ∃ gb go, ga = some ⟨gb, go, none⟩ ∧ gb < B := by obtain ⟨b, off, u, uc, ha, hb, -⟩ := bss_at r3 0 (by omega); exact ⟨b, off, ha, hb⟩
  subst hga
  have HCA : Hid (∀ W, Below w.heap.size w W → ∀ k (hk : k < sides.length), ∃ A, ConnAt W B sides[k] A sb (so + k * 14)) := fun W hW k hk => by
    obtain ⟨A, q1, q2⟩ := hsc k hk
    exact ⟨A, (ConnAt.of q1 q2 hB (by have := fsum_at totConn hk; have := hTc.1; unfold totConns at this; omega)).below hW⟩
  have HGT : Hid (∀ W, Below w.heap.size w W → ∀ k (hk : k < got.length), ∃ u uc, W.cell? ⟨gb, go + k, none⟩ = some (.slice u got[k].length uc) ∧ RB W u got[k]) := fun W hW k hk => by
    obtain ⟨b, off, u, uc, ha, hb, q1, q2⟩ := bss_at (Sh.Rd.below (s := shBss) r3 hB hW) k hk
    simp only [Option.some.injEq, Addr.mk.injEq, and_true] at ha
    obtain ⟨rfl, rfl⟩ := ha
    obtain ⟨a', c', e', q3, -, -⟩ := rd_bytes q2
    simp only [List.cons.injEq, and_true, Value.slice.injEq] at e'
    obtain ⟨rfl, -, -⟩ := e'
    exact ⟨u, uc, q1, q3⟩
  obtain ⟨NB, hNB⟩ : ∃ n, n = bag.length := ⟨_, rfl⟩
  obtain ⟨ND, hND⟩ : ∃ n, n = dead.length := ⟨_, rfl⟩
  replace r2 : shNet.Rd w B (bag, dead, PUnit.unit) [.slice na NB nc, .slice da ND dc] := by rw [hNB, hND]; exact r2
  rw [g1, g2, g3, ← hNB, ← hND]
  have HSF : Hid (∀ W, Below w.heap.size w W → Calls Tryz.prog 38 #[.slice (some ⟨sb, so, none⟩) 2 sc] W fun e w' => e = .returned (.int .i64 (if cfsF sides ≠ 0 then cfsF sides else if sdF 0 sides = false then 1 else 0)) ∧ Below W.heap.size W w') := fun W hW => iSidesFault sides _ sc W B (Sh.Rd.below (s := shConns) r1 hB hW) (Nat.le_trans hB hW.size) g1 hTc.1
  have HNT : Hid (∀ W, Below w.heap.size w W → Calls Tryz.prog 39 #[.agg #[.slice na NB nc, .slice da ND dc]] W fun e w' => e = .returned (.int .i64 (netF bag dead)) ∧ Below W.heap.size W w') := fun W hW => iNetFaultA (bag, dead, ()) _ W B (Sh.Rd.below (s := shNet) r2 hB hW) (Nat.le_trans hB hW.size) hTc.2
  have HINF : Hid ((Tryz.prog.info? 37).map (·.size) = some [Value.slice na NB nc, .slice da ND dc].length) := (by kernel_rfl : (Tryz.prog.info? 37).map (·.size) = some 2)
  have HSB : Hid (sb < w.heap.size) := Nat.lt_of_lt_of_le hsb hB
  have HGB : Hid (gb < w.heap.size) := Nat.lt_of_lt_of_le hgb hB
  have HL1 : Hid (sides.length = 2) := g1
  have HL2 : Hid (got.length = 2) := g2
  have HR : Hid _ := hR
  have HR2 : Hid (R = if (if cfsF sides ≠ 0 then cfsF sides else if sdF 0 sides = false then 1 else 0) ≠ 0 then (if cfsF sides ≠ 0 then cfsF sides else if sdF 0 sides = false then 1 else 0) else if netF bag dead ≠ 0 then netF bag dead else if gotF sides got = false then 1 else 0) := by
    show _ = _
    rw [hR]
    by_cases h1 : cfsF sides = 0
    · by_cases h2 : sdF 0 sides = false
      · simp [h1, h2]
      · simp [h1, h2]
    · simp [h1]
  have HOK : Hid ((if cfsF sides ≠ 0 then cfsF sides else if sdF 0 sides = false then 1 else 0) = (0 : Int) → ∀ k (hk : k < sides.length), connF sides[k] = 0) := fun h => by
    by_cases h1 : cfsF sides = 0
    · exact cfs_at h1
    · rw [if_pos h1] at h; exact absurd h h1
  clear r1 r2 r3 r4 hsc hR g1 g2 g3 hTc hT hNB hND hm1 hm3 hm4 hgb hsb HR
  generalize (if cfsF sides ≠ 0 then cfsF sides else if sdF 0 sides = false then 1 else 0) = q at *
  go_enter Tryz.func20, Tryz.ntmps20
  go_upto_region 5 with ((go_at_call 37; refine (iInD _ _ _ _).mono ?_; rintro e w' ⟨rfl, hw⟩; subst w'))
  have kP := bx_al w #[.int .i64 now, .slice (some ⟨sb, so, none⟩) 2 sc, .slice na NB nc, .slice da ND dc, .slice (some ⟨gb, go, none⟩) 2 gc, .slice ea 2 ec] 39
  have HB : Hid (Below w.heap.size w (w.alloc (.cells #[.int .i64 now, .slice (some ⟨sb, so, none⟩) 2 sc, .slice na NB nc, .slice da ND dc, .slice (some ⟨gb, go, none⟩) 2 gc, .slice ea 2 ec] 39))) := (Below.refl _ _).alloc (Nat.le_refl _) _
  have zP : w.heap.size < (w.alloc (.cells #[.int .i64 now, .slice (some ⟨sb, so, none⟩) 2 sc, .slice na NB nc, .slice da ND dc, .slice (some ⟨gb, go, none⟩) 2 gc, .slice ea 2 ec] 39)).heap.size := by simp
  generalize hWW : w.alloc (.cells #[.int .i64 now, .slice (some ⟨sb, so, none⟩) 2 sc, .slice na NB nc, .slice da ND dc, .slice (some ⟨gb, go, none⟩) 2 gc, .slice ea 2 ec] 39) = w0 at kP HB zP ⊢
  clear hWW
  obtain ⟨pb, hpb⟩ : ∃ p, p = w.heap.size := ⟨_, rfl⟩
  rw [← hpb] at kP zP ⊢
  clear hpb
  have HRN : Hid (∀ W : World, (∀ o, W.cell? ⟨pb, o, none⟩ = (#[.int .i64 now, .slice (some ⟨sb, so, none⟩) 2 sc, .slice na NB nc, .slice da ND dc, .slice (some ⟨gb, go, none⟩) 2 gc, .slice ea 2 ec] : Array Value)[o]?) → W.rangeAt pb 2 [.slice na NB nc, .slice da ND dc]) := fun W hk j v hv => by
    rw [hk]
    match j, hv with
    | 0, hv => exact hv
    | 1, hv => exact hv
  go_wp2_with fail
  refine (HSF.out _ HB.out).mono ?_
  rintro e w1 ⟨rfl, hb⟩
  replace kP := bx_below kP zP hb
  replace zP := Nat.lt_of_lt_of_le zP hb.size
  replace HB : Hid (Below w.heap.size w w1) := HB.out.trans (hb.mono HB.out.size)
  clear hb HSF
  by_cases hq : q = 0
  case neg =>
    have hr := HR2.out
    rw [if_pos hq] at hr
    subst hr
    have hq1 : (R != 0) = true := by simp [hq]
    have hq2 : (R == 0) = false := by simp [hq]
    clear HR2 hq HOK
    go_wp2_with fail
    go_ret
    exact ⟨rfl, HB.out⟩
  have hok := HOK.out hq
  subst hq
  have hr := HR2.out
  rw [if_neg (by simp)] at hr
  clear HR2 HOK
  have HR : Hid _ := hr
  have HOK : Hid _ := hok
  clear hr hok
  have HRG : Hid _ := HRN.out _ kP
  go_wp2_with (refine wpList_load_mid rfl 37 _ rfl _ _ (by rfl) [.slice na NB nc, .slice da ND dc] _ HRG.out Tryz.underlying37 rfl HINF.out ?_)
  refine (HNT.out _ HB.out).mono ?_
  rintro e w2 ⟨rfl, hb⟩
  replace kP := bx_below kP zP hb
  replace zP := Nat.lt_of_lt_of_le zP hb.size
  replace HB : Hid (Below w.heap.size w w2) := HB.out.trans (hb.mono HB.out.size)
  clear hb HNT HRG
  by_cases hq : netF bag dead = 0
  case neg =>
    have hr := HR.out
    rw [if_pos hq] at hr
    generalize netF bag dead = q at *
    subst hr
    have hq1 : (R != 0) = true := by simp [hq]
    have hq2 : (R == 0) = false := by simp [hq]
    clear HR hq
    go_wp2_with fail
    go_ret
    exact ⟨rfl, HB.out⟩
  have hr := HR.out
  rw [if_neg (by simp [hq])] at hr
  rw [hq]
  clear HR hq
  have HR : Hid _ := hr
  clear hr
  have HZ2 : Hid (gotF (sides.drop 0) (got.drop 0) = gotF sides got) := rfl
  have HKP : Hid (∀ W, Below w2.heap.size w2 W → ∀ o, W.cell? ⟨pb, o, none⟩ = (#[.int .i64 now, .slice (some ⟨sb, so, none⟩) 2 sc, .slice na NB nc, .slice da ND dc, .slice (some ⟨gb, go, none⟩) 2 gc, .slice ea 2 ec] : Array Value)[o]?) := fun W hW => bx_below kP zP hW
  have HPB : Hid (pb < w2.heap.size) := zP
  have HB2 : Hid (Below w.heap.size w w2) := HB.out
  go_upto_region 12 with fail
  clear kP zP
  go_loopw [42] (fun i wr => ∃ k : Nat, k ≤ 2 ∧ i = .int .i64 k ∧ Hid (gotF (sides.drop k) (got.drop k) = gotF sides got) ∧ Hid (Below w2.heap.size w2 wr)) (fun i _ => 2 - (intOf i).toNat)
  case atStart => exact ⟨0, by omega, rfl, HZ2, Below.refl _ _⟩
  case round =>
    obtain ⟨k, hk, rfl, HC, HBr⟩ := hrel
    clear HZ2 HB
    have HB : Hid (Below w.heap.size w wr) := HB2.out.trans (HBr.out.mono HB2.out.size)
    by_cases hlt : k < 2
    · have hkl : k < sides.length := by have := HL1.out; omega
      have hkg : k < got.length := by have := HL2.out; omega
      have hk0 : (0 : Int) ≤ (k : Int) := by omega
      have hki : (k : Int) < 2 := by omega
      obtain ⟨A, hA⟩ := HCA.out wr HB.out k hkl
      have HG : Hid (wr.rangeAt sb (so + k * 14) A.toList) := hA.at_
      have hz : A.size = 14 := rd_size hA.rd
      have HZA : Hid (A.size = 14) := hz
      have IA : Hid ((Tryz.prog.info? 79).map (·.size) = some A.size) := by show _ = _; rw [hz]; exact (by kernel_rfl : (Tryz.prog.info? 79).map (·.size) = some 14)
      have JA : Hid ((Tryz.prog.info? 79).map (·.size) = some A.toList.length) := by show _ = _; rw [Array.length_toList]; exact IA.out
      have ONE : Hid (A.all (·.oneCell') = true) := rd_all hA.rd
      have HST : Hid _ := HC.out.symm.trans (got_drop hkl hkg)
      obtain ⟨gn, hgn⟩ : ∃ gn : Nat, sides[k].given = gn := ⟨sides[k].given.toNat, by have h := inD_yes (conn_ok (HOK.out k hkl)).2.2.2.2.2.2.1; omega⟩
      have hgl : gn ≤ sides[k].inn.1.length := by have h := inD_yes (conn_ok (HOK.out k hkl)).2.2.2.2.2.2.1; omega
      have hgv : givenD sides[k] = sides[k].inn.1.take gn := by unfold givenD; rw [hgn]; rfl
      obtain ⟨a9, c9, A9, A12, rd9⟩ := conn_arr hA.rd
      rw [hgn] at A12
      obtain ⟨a', c', e', rb9, -, -⟩ := rd_bytes rd9
      simp only [List.cons.injEq, and_true, Value.slice.injEq] at e'
      obtain ⟨rfl, -, rfl⟩ := e'
      obtain ⟨-, l9, m9, -⟩ := rd_cap rd9
      replace rb9 := rb_pre rb9 gn
      obtain ⟨u, uc, qg, rbg⟩ := HGT.out wr HB.out k hkg
      have zg : gb < wr.heap.size := Nat.lt_of_lt_of_le HGB.out HB.out.size
      have kP := HKP.out wr HBr.out
      have zP : pb < wr.heap.size := Nat.lt_of_lt_of_le HPB.out HBr.out.size
      have HEQ : Hid (eqS got[k] (givenD sides[k]) = eqS got[k] (sides[k].inn.1.take gn)) := by show _ = _; rw [hgv]
      have HCE : Hid (∀ W, Below wr.heap.size wr W → Calls Tryz.prog 40 #[.slice u got[k].length uc, .slice a9 gn c9] W fun e w' => e = .returned (.bool (eqS got[k] (sides[k].inn.1.take gn))) ∧ w' = W) := fun W hW => bEqual u a9 _ gn uc c9 got[k] (sides[k].inn.1.take gn) W rfl (by simp; omega) (rbg.below (Nat.le_refl _) hW) (rb9.below (Nat.le_refl _) hW)
      have g9 : (gn : Int) ≤ (c9 : Int) := by omega
      have g0 : (0 : Int) ≤ (gn : Int) := by omega
      clear rbg rb9 rd9 hgv hgl hA hz HC
      rw [HEQ.out] at HST
      generalize eqS got[k] (sides[k].inn.1.take gn) = Q at *
      generalize got[k].length = gl at *
      generalize sides[k].inn.1.length = n9 at *
      have HBR : Hid (Below wr.heap.size wr wr) := Below.refl _ _
      have HTH : Hid ((wr.alloc (.cells #[.int .i64 0, .int .i64 0, .int .i64 0, .bool false, .bool false, .slice none 0 0, .bool false, .int .i64 0, .bool false, .slice none 0 0, .slice none 0 0, .int .i64 0, .int .i64 0, .slice none 0 0] 79)).there wr.heap.size 0 A.size) := bx_there (bx_al _ _ _) (fx_al _ _ _) (by rw [HZA.out]; rfl)
      have HWN : Hid (Below wr.heap.size wr ((wr.alloc (.cells #[.int .i64 0, .int .i64 0, .int .i64 0, .bool false, .bool false, .slice none 0 0, .bool false, .int .i64 0, .bool false, .slice none 0 0, .slice none 0 0, .int .i64 0, .int .i64 0, .slice none 0 0] 79)).setCells wr.heap.size 0 A.toList) ∧ wr.heap.size < ((wr.alloc (.cells #[.int .i64 0, .int .i64 0, .int .i64 0, .bool false, .bool false, .slice none 0 0, .bool false, .int .i64 0, .bool false, .slice none 0 0, .slice none 0 0, .int .i64 0, .int .i64 0, .slice none 0 0] 79)).setCells wr.heap.size 0 A.toList).heap.size ∧ (∀ o, ((wr.alloc (.cells #[.int .i64 0, .int .i64 0, .int .i64 0, .bool false, .bool false, .slice none 0 0, .bool false, .int .i64 0, .bool false, .slice none 0 0, .slice none 0 0, .int .i64 0, .int .i64 0, .slice none 0 0] 79)).setCells wr.heap.size 0 A.toList).cell? ⟨wr.heap.size, o, none⟩ = A[o]?) ∧ (∀ o, ((wr.alloc (.cells #[.int .i64 0, .int .i64 0, .int .i64 0, .bool false, .bool false, .slice none 0 0, .bool false, .int .i64 0, .bool false, .slice none 0 0, .slice none 0 0, .int .i64 0, .int .i64 0, .slice none 0 0] 79)).setCells wr.heap.size 0 A.toList).frozen? ⟨wr.heap.size, o, none⟩ = false)) := ⟨setCells_below (Nat.le_refl _) _ _ _ _ ((Below.refl _ _).alloc (Nat.le_refl _) _), by rw [setCells_size]; simp, bx_setCells (bx_al wr _ _) (by rw [HZA.out]; rfl), fx_sets (fx_al _ _ _)⟩
      go_upto_region 14 with (first | (refine wpList_load_mid rfl 79 _ rfl _ _ (by rfl) A.toList _ HG.out Tryz.underlying79 rfl JA.out ?_) | (refine wpList_store_mid rfl 79 _ _ rfl _ _ A (by rfl) (by rfl) HTH.out IA.out ONE.out ?_))
      generalize hWW : ((wr.alloc (.cells #[.int .i64 0, .int .i64 0, .int .i64 0, .bool false, .bool false, .slice none 0 0, .bool false, .int .i64 0, .bool false, .slice none 0 0, .slice none 0 0, .int .i64 0, .int .i64 0, .slice none 0 0] 79)).setCells wr.heap.size 0 A.toList) = w3 at HWN ⊢
      clear hWW HTH
      obtain ⟨hb, zC, kC, fC⟩ := HWN.out
      clear HWN
      obtain ⟨bC, hq⟩ : ∃ q, q = wr.heap.size := ⟨_, rfl⟩
      rw [← hq] at zC kC fC ⊢
      have lPC : pb < bC := by rw [hq]; exact zP
      have lwC : w.heap.size ≤ bC := by rw [hq]; exact HB.out.size
      clear hq
      replace kP := bx_below kP zP hb
      replace zP := Nat.lt_of_lt_of_le zP hb.size
      replace HB : Hid (Below w.heap.size w w3) := HB.out.trans (hb.mono HB.out.size)
      replace HBR : Hid (Below wr.heap.size wr w3) := hb
      replace qg := (hb.cell (p := ⟨gb, go + k, none⟩) zg).trans qg
      replace zg := Nat.lt_of_lt_of_le zg hb.size
      clear hb
      refine wp_region_noPanic ?_
      refine Goes.start (S := fun w' => Below w3.heap.size w3 w') (z := 100) (by kernel_rfl) ?_
      refine Goes.take (i := 0) (oi := ?oi2) (x := ?vx2) ?ho2 (by kernel_rfl) (by kernel_rfl) (by kernel_rfl) (by kernel_rfl) (fun _ _ _ h => h) (Or.inl ⟨?hw2, ?hy2⟩) (Below.drew (Below.refl _ _)) ?rest2
      case ho2 => (simp only [List.getElem?_toArray, List.getElem?_cons_zero] <;> rfl)
      case hw2 => rfl
      case hy2 => (intro w' hSw; have kkP := bx_below kP zP hSw; have kkC := bx_below kC zC hSw; have kkg := (hSw.cell (p := ⟨gb, go + k, none⟩) zg).trans qg; go_simp; (try with_reducible rfl))
      case rest2 =>
      (try simp only [Act.put, List.setIfInBounds_toArray, List.set_cons_zero, List.set_cons_succ])
      refine Goes.take (i := 1) (oi := ?oi3) (x := ?vx3) ?ho3 (by kernel_rfl) (by kernel_rfl) (by kernel_rfl) (by kernel_rfl) (fun _ _ _ h => h) (Or.inl ⟨?hw3, ?hy3⟩) (Below.drew (Below.refl _ _)) ?rest3
      case ho3 => (simp only [List.getElem?_toArray, List.getElem?_cons_succ, List.getElem?_cons_zero] <;> rfl)
      case hw3 => rfl
      case hy3 => (intro w' hSw; have kkP := bx_below kP zP hSw; have kkC := bx_below kC zC hSw; have kkg := (hSw.cell (p := ⟨gb, go + k, none⟩) zg).trans qg; go_simp; (try with_reducible rfl))
      case rest3 =>
      (try simp only [Act.put, List.setIfInBounds_toArray, List.set_cons_zero, List.set_cons_succ])
      refine Goes.take (i := 2) (oi := ?oi4) (x := ?vx4) ?ho4 (by kernel_rfl) (by kernel_rfl) (by kernel_rfl) (by kernel_rfl) (fun _ _ _ h => h) (Or.inl ⟨?hw4, ?hy4⟩) (Below.drew (Below.refl _ _)) ?rest4
      case ho4 => (simp only [List.getElem?_toArray, List.getElem?_cons_succ, List.getElem?_cons_zero] <;> rfl)
      case hw4 => rfl
      case hy4 => (intro w' hSw; have kkP := bx_below kP zP hSw; have kkC := bx_below kC zC hSw; have kkg := (hSw.cell (p := ⟨gb, go + k, none⟩) zg).trans qg; go_simp; (try with_reducible rfl))
      case rest4 =>
      (try simp only [Act.put, List.setIfInBounds_toArray, List.set_cons_zero, List.set_cons_succ])
      refine Goes.take (i := 3) (oi := ?oi5) (x := ?vx5) ?ho5 (by kernel_rfl) (by kernel_rfl) (by kernel_rfl) (by kernel_rfl) (fun _ _ _ h => h) (Or.inl ⟨?hw5, ?hy5⟩) (Below.drew (Below.refl _ _)) ?rest5
      case ho5 => (simp only [List.getElem?_toArray, List.getElem?_cons_succ, List.getElem?_cons_zero] <;> rfl)
      case hw5 => rfl
      case hy5 => (intro w' hSw; have kkP := bx_below kP zP hSw; have kkC := bx_below kC zC hSw; have kkg := (hSw.cell (p := ⟨gb, go + k, none⟩) zg).trans qg; go_simp; (try with_reducible rfl))
      case rest5 =>
      (try simp only [Act.put, List.setIfInBounds_toArray, List.set_cons_zero, List.set_cons_succ])
      refine Goes.take (i := 4) (oi := ?oi6) (x := ?vx6) ?ho6 (by kernel_rfl) (by kernel_rfl) (by kernel_rfl) (by kernel_rfl) (fun _ _ _ h => h) (Or.inl ⟨?hw6, ?hy6⟩) (Below.drew (Below.refl _ _)) ?rest6
      case ho6 => (simp only [List.getElem?_toArray, List.getElem?_cons_succ, List.getElem?_cons_zero] <;> rfl)
      case hw6 => rfl
      case hy6 => (intro w' hSw; have kkP := bx_below kP zP hSw; have kkC := bx_below kC zC hSw; have kkg := (hSw.cell (p := ⟨gb, go + k, none⟩) zg).trans qg; go_simp; (try with_reducible rfl))
      case rest6 =>
      (try simp only [Act.put, List.setIfInBounds_toArray, List.set_cons_zero, List.set_cons_succ])
      refine Goes.take (i := 5) (oi := ?oi7) (x := ?vx7) ?ho7 (by kernel_rfl) (by kernel_rfl) (by kernel_rfl) (by kernel_rfl) (fun _ _ _ h => h) (Or.inl ⟨?hw7, ?hy7⟩) (Below.drew (Below.refl _ _)) ?rest7
      case ho7 => (simp only [List.getElem?_toArray, List.getElem?_cons_succ, List.getElem?_cons_zero] <;> rfl)
      case hw7 => rfl
      case hy7 => (intro w' hSw; have kkP := bx_below kP zP hSw; have kkC := bx_below kC zC hSw; have kkg := (hSw.cell (p := ⟨gb, go + k, none⟩) zg).trans qg; go_simp; (try with_reducible rfl))
      case rest7 =>
      (try simp only [Act.put, List.setIfInBounds_toArray, List.set_cons_zero, List.set_cons_succ])
      refine Goes.take (i := 6) (oi := ?oi8) (x := ?vx8) ?ho8 (by kernel_rfl) (by kernel_rfl) (by kernel_rfl) (by kernel_rfl) (fun _ _ _ h => h) (Or.inl ⟨?hw8, ?hy8⟩) (Below.drew (Below.refl _ _)) ?rest8
      case ho8 => (simp only [List.getElem?_toArray, List.getElem?_cons_succ, List.getElem?_cons_zero] <;> rfl)
      case hw8 => rfl
      case hy8 => (intro w' hSw; have kkP := bx_below kP zP hSw; have kkC := bx_below kC zC hSw; have kkg := (hSw.cell (p := ⟨gb, go + k, none⟩) zg).trans qg; go_simp; (try with_reducible rfl))
      case rest8 =>
      (try simp only [Act.put, List.setIfInBounds_toArray, List.set_cons_zero, List.set_cons_succ])
      refine Goes.take (i := 7) (oi := ?oi9) (x := ?vx9) ?ho9 (by kernel_rfl) (by kernel_rfl) (by kernel_rfl) (by kernel_rfl) (fun _ _ _ h => h) (Or.inl ⟨?hw9, ?hy9⟩) (Below.drew (Below.refl _ _)) ?rest9
      case ho9 => (simp only [List.getElem?_toArray, List.getElem?_cons_succ, List.getElem?_cons_zero] <;> rfl)
      case hw9 => rfl
      case hy9 => (intro w' hSw; have kkP := bx_below kP zP hSw; have kkC := bx_below kC zC hSw; have kkg := (hSw.cell (p := ⟨gb, go + k, none⟩) zg).trans qg; go_simp; (try with_reducible rfl))
      case rest9 =>
      (try simp only [Act.put, List.setIfInBounds_toArray, List.set_cons_zero, List.set_cons_succ])
      refine Goes.take (i := 8) (oi := ?oi10) (x := ?vx10) ?ho10 (by kernel_rfl) (by kernel_rfl) (by kernel_rfl) (by kernel_rfl) (fun _ _ _ h => h) (Or.inl ⟨?hw10, ?hy10⟩) (Below.drew (Below.refl _ _)) ?rest10
      case ho10 => (simp only [List.getElem?_toArray, List.getElem?_cons_succ, List.getElem?_cons_zero] <;> rfl)
      case hw10 => rfl
      case hy10 => (intro w' hSw; have kkP := bx_below kP zP hSw; have kkC := bx_below kC zC hSw; have kkg := (hSw.cell (p := ⟨gb, go + k, none⟩) zg).trans qg; go_simp; (try with_reducible rfl))
      case rest10 =>
      (try simp only [Act.put, List.setIfInBounds_toArray, List.set_cons_zero, List.set_cons_succ])
      refine Goes.take (i := 9) (oi := ?oi11) (x := ?vx11) ?ho11 (by kernel_rfl) (by kernel_rfl) (by kernel_rfl) (by kernel_rfl) (fun _ _ _ h => h) (Or.inl ⟨?hw11, ?hy11⟩) (Below.drew (Below.refl _ _)) ?rest11
      case ho11 => (simp only [List.getElem?_toArray, List.getElem?_cons_succ, List.getElem?_cons_zero] <;> rfl)
      case hw11 => rfl
      case hy11 => (intro w' hSw; have kkP := bx_below kP zP hSw; have kkC := bx_below kC zC hSw; have kkg := (hSw.cell (p := ⟨gb, go + k, none⟩) zg).trans qg; go_simp; (try with_reducible rfl))
      case rest11 =>
      (try simp only [Act.put, List.setIfInBounds_toArray, List.set_cons_zero, List.set_cons_succ])
      refine Goes.take (i := 10) (oi := ?oi12) (x := ?vx12) ?ho12 (by kernel_rfl) (by kernel_rfl) (by kernel_rfl) (by kernel_rfl) (fun _ _ _ h => h) (Or.inl ⟨?hw12, ?hy12⟩) (Below.drew (Below.refl _ _)) ?rest12
      case ho12 => (simp only [List.getElem?_toArray, List.getElem?_cons_succ, List.getElem?_cons_zero] <;> rfl)
      case hw12 => rfl
      case hy12 => (intro w' hSw; have kkP := bx_below kP zP hSw; have kkC := bx_below kC zC hSw; have kkg := (hSw.cell (p := ⟨gb, go + k, none⟩) zg).trans qg; go_simp; (try with_reducible rfl))
      case rest12 =>
      (try simp only [Act.put, List.setIfInBounds_toArray, List.set_cons_zero, List.set_cons_succ])
      refine Goes.call (i := 11) (oi := ?oi13) (x := .bool Q) ?ho13 (by kernel_rfl) (by kernel_rfl) (by kernel_rfl) (by kernel_rfl) (fun _ _ _ h => h) ?hq13 (Below.drew (Below.refl _ _)) ?rest13
      case ho13 => (simp only [List.getElem?_toArray, List.getElem?_cons_succ, List.getElem?_cons_zero] <;> rfl)
      case hq13 => exact ⟨rfl, fun w' hSw => ⟨40, #[.slice u gl uc, .slice a9 gn c9], (by go_simp), HCE.out w' (HBR.out.trans (hSw.mono HBR.out.size))⟩⟩
      case rest13 =>
      (try simp only [Act.put, List.setIfInBounds_toArray, List.set_cons_zero, List.set_cons_succ])
      refine Goes.take (i := 12) (oi := ?oi14) (x := ?vx14) ?ho14 (by kernel_rfl) (by kernel_rfl) (by kernel_rfl) (by kernel_rfl) (fun _ _ _ h => h) (Or.inl ⟨?hw14, ?hy14⟩) (Below.drew (Below.refl _ _)) ?rest14
      case ho14 => (simp only [List.getElem?_toArray, List.getElem?_cons_succ, List.getElem?_cons_zero] <;> rfl)
      case hw14 => rfl
      case hy14 => (intro w' hSw; have kkP := bx_below kP zP hSw; have kkC := bx_below kC zC hSw; have kkg := (hSw.cell (p := ⟨gb, go + k, none⟩) zg).trans qg; go_simp; (try with_reducible rfl))
      case rest14 =>
      (try simp only [Act.put, List.setIfInBounds_toArray, List.set_cons_zero, List.set_cons_succ])
      refine Goes.done (by kernel_rfl) ?_ _
      refine NoPanic.normal ?_
      have hst := HST.out
      have HBx : Hid (Below w2.heap.size w2 w3.drew) := (HBr.out.trans (HBR.out.mono HBr.out.size)).trans (Below.drew (Below.refl _ _))
      have HBy : Hid (Below w.heap.size w w3.drew) := HB2.out.trans (HBx.out.mono HB2.out.size)
      generalize w3.drew = wz at *
      cases Q with
      | true =>
        rw [Bool.true_and] at hst
        have HC2 : Hid (gotF (sides.drop (k + 1)) (got.drop (k + 1)) = gotF sides got) := hst.symm
        clear hst HST HEQ HCE kC kP qg HG
        go_wp2_with fail
        go_roundw
        case rel => exact ⟨k + 1, by omega, by go_num, HC2, HBx⟩
        case measure => simp [intOf]; omega
      | false =>
        rw [Bool.false_and] at hst
        have hr := HR.out
        rw [if_pos hst] at hr
        subst hr
        clear hst HST HEQ HCE kC kP qg HG HR
        go_wp2_with fail
        go_ret
        exact ⟨rfl, HBy.out⟩
    · obtain rfl : k = 2 := by omega
      have hc := HC.out
      rw [got_end (by have := HL1.out; omega)] at hc
      have hr := HR.out
      rw [if_neg (by simp [← hc])] at hr
      subst hr
      clear HR HC hc
      go_wp2_with fail
      go_ret
      exact ⟨rfl, HB.out⟩
end Go.Proofs.YtfpemobkkfobkaaGreatDoor
