/- The model's WorldFault; nothing that was in memory turns; no condition but that there are at most a million parts. Written by mkwsp.py. -/
import Derived.Test.YtfpemobkkfobkaaGreatDoorRows
import Derived.Deep.RegionHeld3
import Derived.Deep.DeepCutAuto
import Derived.Deep.MidRow
import Derived.Deep.QuietTactic
import Derived.BigQuiet
import Derived.Test.YtfpemobkkfobkaaGreatDoorK01
import Derived.Test.YtfpemobkkfobkaaGreatDoorK02
import Derived.Test.YtfpemobkkfobkaaGreatDoorK03
import Derived.Test.YtfpemobkkfobkaaGreatDoorK05
import Derived.Test.YtfpemobkkfobkaaGreatDoorK10
import Derived.Test.YtfpemobkkfobkaaGreatDoorK11
import Derived.Test.YtfpemobkkfobkaaGreatDoorK12
import Derived.Test.YtfpemobkkfobkaaGreatDoorK13
import Derived.Test.YtfpemobkkfobkaaGreatDoorK56
import Derived.Test.YtfpemobkkfobkaaGreatDoorK57
import Derived.Test.YtfpemobkkfobkaaGreatDoorK58
import Derived.Test.YtfpemobkkfobkaaGreatDoorK59
import Derived.Test.YtfpemobkkfobkaaGreatDoorK60
namespace Go.Proofs.YtfpemobkkfobkaaGreatDoor
open Go.RowKit
set_option linter.unusedVariables false
set_option maxRecDepth 8000

set_option maxHeartbeats 4000000 in
theorem sL13Fault (x : DWorld) (A : Array Value) (p : Nat) (w : World) (B : Nat) (hr : shWorld.Rd w B x A.toList) (hp : ∀ o, w.cell? ⟨p, o, none⟩ = A[o]?) (hpl : p < w.heap.size) (hB : B ≤ w.heap.size) (hT : totWorld x ≤ 1048576) :
    Calls Tryz.prog 14 #[.pointer (some ⟨p, 0, none⟩)] w fun e w' => e = .returned (.int .i64 (worldF x)) ∧ Below w.heap.size w w' := by
  obtain ⟨now, sides, ⟨bag, dead, ⟨⟩⟩, got, ended, ⟨⟩⟩ := x
  obtain ⟨sa, sc, na, nc, da, dc, ga, gc, ea, ec, eA, r1, r2, r3, r4, -⟩ := rd_World hr
  obtain ⟨na', nc', da', dc', e2, rb, rd⟩ := rd_NetD r2
  simp only [List.cons.injEq, and_true, Value.slice.injEq] at e2
  obtain ⟨⟨rfl, -, rfl⟩, rfl, -, rfl⟩ := e2
  have eA' := arr_of eA
  rw [eA'] at hp
  clear hr eA eA'
  have hm1 := row_max r1
  have hm3 := row_max r3
  have hm4 := row_max r4
  have hTc : totConns sides ≤ 1048576 := by have h : totConns sides + totNet (bag, dead, ()) + totBss got + ended.length ≤ 1048576 := hT; omega
  obtain ⟨R, hR⟩ : ∃ R, R = worldF (now, sides, (bag, dead, PUnit.unit), got, ended, PUnit.unit) := ⟨_, rfl⟩
  rw [← hR]
  replace hR : R = if inD now 0 100000 = false then 3 else if sides.length ≠ 2 then 1 else if got.length ≠ 2 then 1 else if ended.length ≠ 2 then 1 else if cfsF sides ≠ 0 then cfsF sides else if sdF 0 sides = false then 1 else if netF bag dead ≠ 0 then netF bag dead else if gotF sides got = false then 1 else 0 := hR
  by_cases h0 : inD now 0 100000 = true
  case neg =>
    have h0' : inD now 0 100000 = false := by simpa using h0
    rw [if_pos h0'] at hR
    subst hR
    clear r1 r2 r3 r4 rb rd
    generalize sides.length = n1 at *
    generalize got.length = n2 at *
    generalize ended.length = n3 at *
    generalize bag.length = n4 at *
    generalize dead.length = n5 at *
    go_enter Tryz.func14, Tryz.ntmps14
    go_wp2_with ((go_at_call 29; refine (sInD _ _ _ _).mono ?_; rintro e w' ⟨rfl, hw⟩; subst w'))
    go_ret
    exact ⟨rfl, Below.refl _ _⟩
  rw [if_neg (by simp [h0])] at hR
  by_cases g1 : sides.length = 2
  case neg =>
    rw [if_pos g1] at hR
    subst hR
    have e1 : ((sides.length : Int) != 2) = true := by simp; omega
    have e2 : ((sides.length : Int) == 2) = false := by simp; omega
    clear r1 r2 r3 r4 rb rd
    generalize sides.length = n1 at *
    generalize got.length = n2 at *
    generalize ended.length = n3 at *
    generalize bag.length = n4 at *
    generalize dead.length = n5 at *
    go_enter Tryz.func14, Tryz.ntmps14
    go_wp2_with ((go_at_call 29; refine (sInD _ _ _ _).mono ?_; rintro e w' ⟨rfl, hw⟩; subst w'))
    go_ret
    exact ⟨rfl, Below.refl _ _⟩
  rw [if_neg (by simp [g1])] at hR
  by_cases g2 : got.length = 2
  case neg =>
    rw [if_pos g2] at hR
    subst hR
    have e1 : ((got.length : Int) != 2) = true := by simp; omega
    have e2 : ((got.length : Int) == 2) = false := by simp; omega
    clear r1 r2 r3 r4 rb rd
    generalize sides.length = n1 at *
    generalize got.length = n2 at *
    generalize ended.length = n3 at *
    generalize bag.length = n4 at *
    generalize dead.length = n5 at *
    subst g1
    go_enter Tryz.func14, Tryz.ntmps14
    go_wp2_with ((go_at_call 29; refine (sInD _ _ _ _).mono ?_; rintro e w' ⟨rfl, hw⟩; subst w'))
    go_ret
    exact ⟨rfl, Below.refl _ _⟩
  rw [if_neg (by simp [g2])] at hR
  by_cases g3 : ended.length = 2
  case neg =>
    rw [if_pos g3] at hR
    subst hR
    have e1 : ((ended.length : Int) != 2) = true := by simp; omega
    have e2 : ((ended.length : Int) == 2) = false := by simp; omega
    clear r1 r2 r3 r4 rb rd
    generalize sides.length = n1 at *
    generalize got.length = n2 at *
    generalize ended.length = n3 at *
    generalize bag.length = n4 at *
    generalize dead.length = n5 at *
    subst g1
    subst g2
    go_enter Tryz.func14, Tryz.ntmps14
    go_wp2_with ((go_at_call 29; refine (sInD _ _ _ _).mono ?_; rintro e w' ⟨rfl, hw⟩; subst w'))
    go_ret
    exact ⟨rfl, Below.refl _ _⟩
  rw [if_neg (by simp [g3])] at hR
  obtain ⟨sb, so, hsa, hsb, hsc⟩ := conns_at r1 (by intro e; subst e; simp at g1)
  subst hsa
  obtain ⟨gb, go, hga, hgb⟩ : ∃ gb go, ga = some ⟨gb, go, none⟩ ∧ gb < B := by obtain ⟨b, off, u, uc, ha, hb, -⟩ := bss_at r3 0 (by omega); exact ⟨b, off, ha, hb⟩
  subst hga
  have HCA : Hid (∀ W, Below w.heap.size w W → ∀ k (hk : k < sides.length), ∃ A, ConnAt W B sides[k] A sb (so + k * 14)) := fun W hW k hk => by
    obtain ⟨A, q1, q2⟩ := hsc k hk
    exact ⟨A, (ConnAt.of q1 q2 hB (by have := fsum_at totConn hk; unfold totConns at hTc; omega)).below hW⟩
  have HGT : Hid (∀ W, Below w.heap.size w W → ∀ k (hk : k < got.length), ∃ u uc, W.cell? ⟨gb, go + k, none⟩ = some (.slice u got[k].length uc) ∧ RB W u got[k]) := fun W hW k hk => by
    obtain ⟨b, off, u, uc, ha, hb, q1, q2⟩ := bss_at (Sh.Rd.below (s := shBss) r3 hB hW) k hk
    simp only [Option.some.injEq, Addr.mk.injEq, and_true] at ha
    obtain ⟨rfl, rfl⟩ := ha
    obtain ⟨a', c', e', q3, -, -⟩ := rd_bytes q2
    simp only [List.cons.injEq, and_true, Value.slice.injEq] at e'
    obtain ⟨rfl, -, -⟩ := e'
    exact ⟨u, uc, q1, q3⟩
  obtain ⟨NB, hNB⟩ : ∃ n, n = bag.length := ⟨_, rfl⟩
  obtain ⟨ND, hND⟩ : ∃ n, n = dead.length := ⟨_, rfl⟩
  rw [← hNB] at rb
  rw [← hND] at rd
  rw [g1, g2, g3, ← hNB, ← hND] at hp
  have HKP : Hid (∀ W, Below w.heap.size w W → ∀ o, W.cell? ⟨p, o, none⟩ = (#[.int .i64 now, .slice (some ⟨sb, so, none⟩) 2 sc, .slice na NB nc, .slice da ND dc, .slice (some ⟨gb, go, none⟩) 2 gc, .slice ea 2 ec] : Array Value)[o]?) := fun W hW => bx_below hp hpl hW
  have HNT : Hid (∀ W, Below w.heap.size w W → Calls Tryz.prog 31 #[.pointer (some ⟨p, 2, none⟩)] W fun e w' => e = .returned (.int .i64 (netF bag dead)) ∧ Below W.heap.size W w') := fun W hW => sL12FaultO _ bag dead p 2 _ _ W B (HKP.out W hW 2) (HKP.out W hW 3) (Nat.lt_of_lt_of_le hpl hW.size) (Sh.Rd.below (s := shSegms) rb hB hW) (Sh.Rd.below (s := bls 4) rd hB hW) (Nat.le_trans hB hW.size)
  have HSB : Hid (sb < w.heap.size) := Nat.lt_of_lt_of_le hsb hB
  have HGB : Hid (gb < w.heap.size) := Nat.lt_of_lt_of_le hgb hB
  have HL1 : Hid (sides.length = 2) := g1
  have HL2 : Hid (got.length = 2) := g2
  have HR : Hid _ := hR
  have HPL : Hid (p < w.heap.size) := hpl
  clear r1 r2 r3 r4 rb rd hsc hR g1 g2 g3 hTc hT hNB hND hm1 hm3 hm4 hgb hsb
  have HZ : Hid (cfsF (sides.drop 0) = cfsF sides) := rfl
  go_enter Tryz.func14, Tryz.ntmps14
  go_upto_region 6 with ((go_at_call 29; refine (sInD _ _ _ _).mono ?_; rintro e w' ⟨rfl, hw⟩; subst w'))
  clear hp
  go_loopw [3] (fun i wr => ∃ k : Nat, k ≤ 2 ∧ i = .int .i64 k ∧ Hid (cfsF (sides.drop k) = cfsF sides) ∧ Hid (Below w.heap.size w wr)) (fun i _ => 2 - (intOf i).toNat)
  case atStart => exact ⟨0, by omega, rfl, HZ, Below.refl _ _⟩
  case round =>
    obtain ⟨k, hk, rfl, HC, HB⟩ := hrel
    have k0 := HKP.out wr HB.out
    by_cases hlt : k < 2
    · have hkl : k < sides.length := by have := HL1.out; omega
      have hk0 : (0 : Int) ≤ (k : Int) := by omega
      have hki : (k : Int) < 2 := by omega
      obtain ⟨A, hA⟩ := HCA.out wr HB.out k hkl
      have HF : Hid (Calls Tryz.prog 30 #[.pointer (some ⟨sb, so + k * 14, none⟩)] wr fun e w' => e = .returned (.int .i64 (connF sides[k])) ∧ Below wr.heap.size wr w') := sL9Fault _ A _ _ wr B hA
      have HST : Hid _ := HC.out.symm.trans (cfs_drop hkl)
      clear hA HC
      generalize connF sides[k] = q at *
      go_wp2_with fail
      refine HF.out.mono ?_
      rintro e w1 ⟨rfl, hb1⟩
      have HB1 : Hid (Below w.heap.size w w1) := HB.out.trans (hb1.mono HB.out.size)
      clear hb1 HF k0
      by_cases hq : q = 0
      · have hst := HST.out
        rw [if_neg (by simp [hq])] at hst
        have HC2 : Hid (cfsF (sides.drop (k + 1)) = cfsF sides) := hst.symm
        have hq1 : (q != 0) = false := by simp [hq]
        have hq2 : (q == 0) = true := by simp [hq]
        clear hst HST hq
        go_wp2_with fail
        go_roundw
        case rel => exact ⟨k + 1, by omega, by go_num, HC2, HB1⟩
        case measure => simp [intOf]; omega
      · have hst := HST.out
        rw [if_pos hq] at hst
        have hr := HR.out
        rw [hst, if_pos hq] at hr
        subst hr
        have hq1 : (R != 0) = true := by simp [hq]
        have hq2 : (R == 0) = false := by simp [hq]
        clear hst HST HR hq HZ
        go_wp2_with fail
        go_ret
        exact ⟨rfl, HB1.out⟩
    · obtain rfl : k = 2 := by omega
      have hc := HC.out
      rw [cfs_end (by have := HL1.out; omega)] at hc
      have hr := HR.out
      rw [if_neg (by simp [← hc])] at hr
      have HOK : Hid (∀ k (hk : k < sides.length), connF sides[k] = 0) := cfs_at hc.symm
      obtain ⟨A0, hA0⟩ := HCA.out wr HB.out 0 (by have := HL1.out; omega)
      obtain ⟨A1, hA1⟩ := HCA.out wr HB.out 1 (by have := HL1.out; omega)
      have c0 : wr.cell? ⟨sb, so, none⟩ = some (.int .i64 (sides[0]'(by have := HL1.out; omega)).side) := by have := (conn_cells hA0).1; simpa using this
      have c1 : wr.cell? ⟨sb, so + 14, none⟩ = some (.int .i64 (sides[1]'(by have := HL1.out; omega)).side) := by have := (conn_cells hA1).1; simpa using this
      have hsd : sdF 0 sides = (decide ((sides[0]'(by have := HL1.out; omega)).side = 0) && decide ((sides[1]'(by have := HL1.out; omega)).side = 1)) := by
        have e0 := sd_drop (l := sides) (k := 0) (by have := HL1.out; omega)
        have e1 := sd_drop (l := sides) (k := 1) (by have := HL1.out; omega)
        have e2 := sd_end (l := sides) (k := 2) (i := 2) (by have := HL1.out; omega)
        rw [List.drop_zero] at e0
        refine e0.trans ?_
        congr 1
        refine e1.trans ?_
        rw [show ((1 + 1 : Nat) : Int) = 2 from rfl, e2, Bool.and_true]; rfl
      rw [hsd] at hr
      clear HR HC hc hA0 hA1 hsd HZ
      generalize (sides[0]'(by have := HL1.out; omega)).side = s0 at *
      generalize (sides[1]'(by have := HL1.out; omega)).side = s1 at *
      by_cases hsd : s0 = 0 ∧ s1 = 1
      case neg =>
        have hr2 : R = 1 := by rw [hr, if_pos (by simp; intro h; exact fun h2 => hsd ⟨h, h2⟩)]
        subst hr2
        clear hr
        by_cases h00 : s0 = 0
        · have h10 : s1 ≠ 1 := fun h => hsd ⟨h00, h⟩
          have f1 : (s1 != 1) = true := by simp [h10]
          have f2 : (s1 == 1) = false := by simp [h10]
          have f3 : (s0 != 0) = false := by simp [h00]
          have f4 : (s0 == 0) = true := by simp [h00]
          clear hsd h00 h10
          go_wp2_with fail
          go_ret
          exact ⟨rfl, HB.out⟩
        · have f3 : (s0 != 0) = true := by simp [h00]
          have f4 : (s0 == 0) = false := by simp [h00]
          clear hsd h00
          go_wp2_with fail
          go_ret
          exact ⟨rfl, HB.out⟩
      obtain ⟨rfl, rfl⟩ := hsd
      rw [if_neg (by simp)] at hr
      have HR : Hid _ := hr
      clear hr
      go_wp2_with fail
      refine (HNT.out _ HB.out).mono ?_
      rintro e w1 ⟨rfl, hb1⟩
      have HB1 : Hid (Below w.heap.size w w1) := HB.out.trans (hb1.mono HB.out.size)
      clear hb1 HNT k0 c0 c1 HB
      by_cases hq : netF bag dead = 0
      case neg =>
        have hr := HR.out
        rw [if_pos hq] at hr
        generalize netF bag dead = q at *
        subst hr
        have hq1 : (R != 0) = true := by simp [hq]
        have hq2 : (R == 0) = false := by simp [hq]
        clear HR hq
        go_wp2_with fail
        go_ret
        exact ⟨rfl, HB1.out⟩
      have hr := HR.out
      rw [if_neg (by simp [hq])] at hr
      rw [hq]
      clear HR hq
      have HR : Hid _ := hr
      clear hr
      have HZ2 : Hid (gotF (sides.drop 0) (got.drop 0) = gotF sides got) := rfl
      go_upto_region 17 with fail
      go_loopw [6] (fun i wr => ∃ k : Nat, k ≤ 2 ∧ i = .int .i64 k ∧ Hid (gotF (sides.drop k) (got.drop k) = gotF sides got) ∧ Hid (Below w.heap.size w wr)) (fun i _ => 2 - (intOf i).toNat)
      case atStart => exact ⟨0, by omega, rfl, HZ2, HB1⟩
      case round =>
        rename World => wq
        obtain ⟨k, hk, rfl, HC, HB⟩ := hrel
        clear HZ2 HB1
        by_cases hlt : k < 2
        · have hkl : k < sides.length := by have := HL1.out; omega
          have hkg : k < got.length := by have := HL2.out; omega
          have hk0 : (0 : Int) ≤ (k : Int) := by omega
          have hki : (k : Int) < 2 := by omega
          have HST : Hid _ := HC.out.symm.trans (got_drop hkl hkg)
          obtain ⟨gn, hgn⟩ : ∃ gn : Nat, sides[k].given = gn := ⟨sides[k].given.toNat, by have h := inD_yes (conn_ok (HOK.out k hkl)).2.2.2.2.2.2.1; omega⟩
          have hgl : gn ≤ sides[k].inn.1.length := by have h := inD_yes (conn_ok (HOK.out k hkl)).2.2.2.2.2.2.1; omega
          have hgv : givenD sides[k] = sides[k].inn.1.take gn := by unfold givenD; rw [hgn]; rfl
          have HALL : Hid (∀ W, Below w.heap.size w W → ∃ a9 c9, W.cell? ⟨sb, so + k * 14 + 9, none⟩ = some (.slice a9 sides[k].inn.1.length c9) ∧ W.cell? ⟨sb, so + k * 14 + 12, none⟩ = some (.int .i64 (gn : Int)) ∧ RB W a9 (sides[k].inn.1.take gn) ∧ sides[k].inn.1.length ≤ c9 ∧ c9 ≤ 9223372036854775807) := fun W hW => by
            obtain ⟨A, hA⟩ := HCA.out W hW k hkl
            obtain ⟨-, ⟨a9, c9, q1, q2⟩, q3⟩ := conn_cells hA
            obtain ⟨a', c', e', q4, -, -⟩ := rd_bytes q2
            simp only [List.cons.injEq, and_true, Value.slice.injEq] at e'
            obtain ⟨rfl, -, rfl⟩ := e'
            obtain ⟨-, q5, q6, -⟩ := rd_cap q2
            rw [hgn] at q3
            exact ⟨a9, c9, q1, q3, rb_pre q4 gn, q5, q6⟩
          obtain ⟨a9, c9, q9, q12, rb9, l9, m9⟩ := HALL.out wq HB.out
          obtain ⟨u, uc, qg, rbg⟩ := HGT.out wq HB.out k hkg
          have zs : sb < wq.heap.size := Nat.lt_of_lt_of_le HSB.out HB.out.size
          have zg : gb < wq.heap.size := Nat.lt_of_lt_of_le HGB.out HB.out.size
          have HV1 : Hid (∀ W, Below wq.heap.size wq W → (convert 62 9 (.slice u got[k].length uc)).run Tryz.prog W = .ok (.string (strOfNums got[k])) W) := fun W hW => cv_str u _ uc got[k] W rfl (rbg.below (Nat.le_refl _) hW)
          have HV2 : Hid (∀ W, Below wq.heap.size wq W → (convert 62 9 (.slice a9 gn c9)).run Tryz.prog W = .ok (.string (strOfNums (sides[k].inn.1.take gn))) W) := fun W hW => cv_str a9 gn c9 _ W (by simp; omega) (rb9.below (Nat.le_refl _) hW)
          have g9 : (gn : Int) ≤ (c9 : Int) := by omega
          have g0 : (0 : Int) ≤ (gn : Int) := by omega
          have HEQ : Hid (eqS got[k] (givenD sides[k]) = ((strOfNums got[k]).toList == (strOfNums (sides[k].inn.1.take gn)).toList)) := by show _ = _; rw [hgv]; rfl
          clear rbg rb9 hgv HALL hgl
          generalize strOfNums got[k] = S1 at *
          generalize strOfNums (sides[k].inn.1.take gn) = S2 at *
          generalize got[k].length = gl at *
          generalize sides[k].inn.1.length = n9 at *
          go_upto_region 19 with fail
          refine wp_region_noPanic ?_
          refine Goes.start (S := fun w' => Below wq.heap.size wq w') (z := 100) (by kernel_rfl) ?_
          refine Goes.take (i := 0) (oi := ?oi2) (x := ?vx2) ?ho2 (by kernel_rfl) (by kernel_rfl) (by kernel_rfl) (by kernel_rfl) (fun _ _ _ h => h) (Or.inl ⟨?hw2, ?hy2⟩) (Below.drew (Below.refl _ _)) ?rest2
          case ho2 => (simp only [List.getElem?_toArray, List.getElem?_cons_zero] <;> rfl)
          case hw2 => rfl
          case hy2 => (intro w' hSw; have kp := HKP.out w' (HB.out.trans (hSw.mono HB.out.size)); have kk9 := (hSw.cell (p := ⟨sb, so + k * 14 + 9, none⟩) zs).trans q9; have kk12 := (hSw.cell (p := ⟨sb, so + k * 14 + 12, none⟩) zs).trans q12; have kkg := (hSw.cell (p := ⟨gb, go + k, none⟩) zg).trans qg; have cv1 := HV1.out w' hSw; have cv2 := HV2.out w' hSw; go_simp; (try with_reducible rfl))
          case rest2 =>
          (try simp only [Act.put, List.setIfInBounds_toArray, List.set_cons_zero, List.set_cons_succ])
          refine Goes.take (i := 1) (oi := ?oi3) (x := ?vx3) ?ho3 (by kernel_rfl) (by kernel_rfl) (by kernel_rfl) (by kernel_rfl) (fun _ _ _ h => h) (Or.inl ⟨?hw3, ?hy3⟩) (Below.drew (Below.refl _ _)) ?rest3
          case ho3 => (simp only [List.getElem?_toArray, List.getElem?_cons_succ, List.getElem?_cons_zero] <;> rfl)
          case hw3 => rfl
          case hy3 => (intro w' hSw; have kp := HKP.out w' (HB.out.trans (hSw.mono HB.out.size)); have kk9 := (hSw.cell (p := ⟨sb, so + k * 14 + 9, none⟩) zs).trans q9; have kk12 := (hSw.cell (p := ⟨sb, so + k * 14 + 12, none⟩) zs).trans q12; have kkg := (hSw.cell (p := ⟨gb, go + k, none⟩) zg).trans qg; have cv1 := HV1.out w' hSw; have cv2 := HV2.out w' hSw; go_simp; (try with_reducible rfl))
          case rest3 =>
          (try simp only [Act.put, List.setIfInBounds_toArray, List.set_cons_zero, List.set_cons_succ])
          refine Goes.take (i := 2) (oi := ?oi4) (x := ?vx4) ?ho4 (by kernel_rfl) (by kernel_rfl) (by kernel_rfl) (by kernel_rfl) (fun _ _ _ h => h) (Or.inl ⟨?hw4, ?hy4⟩) (Below.drew (Below.refl _ _)) ?rest4
          case ho4 => (simp only [List.getElem?_toArray, List.getElem?_cons_succ, List.getElem?_cons_zero] <;> rfl)
          case hw4 => rfl
          case hy4 => (intro w' hSw; have kp := HKP.out w' (HB.out.trans (hSw.mono HB.out.size)); have kk9 := (hSw.cell (p := ⟨sb, so + k * 14 + 9, none⟩) zs).trans q9; have kk12 := (hSw.cell (p := ⟨sb, so + k * 14 + 12, none⟩) zs).trans q12; have kkg := (hSw.cell (p := ⟨gb, go + k, none⟩) zg).trans qg; have cv1 := HV1.out w' hSw; have cv2 := HV2.out w' hSw; go_simp; (try with_reducible rfl))
          case rest4 =>
          (try simp only [Act.put, List.setIfInBounds_toArray, List.set_cons_zero, List.set_cons_succ])
          refine Goes.take (i := 3) (oi := ?oi5) (x := ?vx5) ?ho5 (by kernel_rfl) (by kernel_rfl) (by kernel_rfl) (by kernel_rfl) (fun _ _ _ h => h) (Or.inl ⟨?hw5, ?hy5⟩) (Below.drew (Below.refl _ _)) ?rest5
          case ho5 => (simp only [List.getElem?_toArray, List.getElem?_cons_succ, List.getElem?_cons_zero] <;> rfl)
          case hw5 => rfl
          case hy5 => (intro w' hSw; have kp := HKP.out w' (HB.out.trans (hSw.mono HB.out.size)); have kk9 := (hSw.cell (p := ⟨sb, so + k * 14 + 9, none⟩) zs).trans q9; have kk12 := (hSw.cell (p := ⟨sb, so + k * 14 + 12, none⟩) zs).trans q12; have kkg := (hSw.cell (p := ⟨gb, go + k, none⟩) zg).trans qg; have cv1 := HV1.out w' hSw; have cv2 := HV2.out w' hSw; go_simp; (try with_reducible rfl))
          case rest5 =>
          (try simp only [Act.put, List.setIfInBounds_toArray, List.set_cons_zero, List.set_cons_succ])
          refine Goes.take (i := 4) (oi := ?oi6) (x := ?vx6) ?ho6 (by kernel_rfl) (by kernel_rfl) (by kernel_rfl) (by kernel_rfl) (fun _ _ _ h => h) (Or.inl ⟨?hw6, ?hy6⟩) (Below.drew (Below.refl _ _)) ?rest6
          case ho6 => (simp only [List.getElem?_toArray, List.getElem?_cons_succ, List.getElem?_cons_zero] <;> rfl)
          case hw6 => rfl
          case hy6 => (intro w' hSw; have kp := HKP.out w' (HB.out.trans (hSw.mono HB.out.size)); have kk9 := (hSw.cell (p := ⟨sb, so + k * 14 + 9, none⟩) zs).trans q9; have kk12 := (hSw.cell (p := ⟨sb, so + k * 14 + 12, none⟩) zs).trans q12; have kkg := (hSw.cell (p := ⟨gb, go + k, none⟩) zg).trans qg; have cv1 := HV1.out w' hSw; have cv2 := HV2.out w' hSw; go_simp; (try with_reducible rfl))
          case rest6 =>
          (try simp only [Act.put, List.setIfInBounds_toArray, List.set_cons_zero, List.set_cons_succ])
          refine Goes.take (i := 5) (oi := ?oi7) (x := ?vx7) ?ho7 (by kernel_rfl) (by kernel_rfl) (by kernel_rfl) (by kernel_rfl) (fun _ _ _ h => h) (Or.inl ⟨?hw7, ?hy7⟩) (Below.drew (Below.refl _ _)) ?rest7
          case ho7 => (simp only [List.getElem?_toArray, List.getElem?_cons_succ, List.getElem?_cons_zero] <;> rfl)
          case hw7 => rfl
          case hy7 => (intro w' hSw; have kp := HKP.out w' (HB.out.trans (hSw.mono HB.out.size)); have kk9 := (hSw.cell (p := ⟨sb, so + k * 14 + 9, none⟩) zs).trans q9; have kk12 := (hSw.cell (p := ⟨sb, so + k * 14 + 12, none⟩) zs).trans q12; have kkg := (hSw.cell (p := ⟨gb, go + k, none⟩) zg).trans qg; have cv1 := HV1.out w' hSw; have cv2 := HV2.out w' hSw; go_simp; (try with_reducible rfl))
          case rest7 =>
          (try simp only [Act.put, List.setIfInBounds_toArray, List.set_cons_zero, List.set_cons_succ])
          refine Goes.take (i := 6) (oi := ?oi8) (x := ?vx8) ?ho8 (by kernel_rfl) (by kernel_rfl) (by kernel_rfl) (by kernel_rfl) (fun _ _ _ h => h) (Or.inl ⟨?hw8, ?hy8⟩) (Below.drew (Below.refl _ _)) ?rest8
          case ho8 => (simp only [List.getElem?_toArray, List.getElem?_cons_succ, List.getElem?_cons_zero] <;> rfl)
          case hw8 => rfl
          case hy8 => (intro w' hSw; have kp := HKP.out w' (HB.out.trans (hSw.mono HB.out.size)); have kk9 := (hSw.cell (p := ⟨sb, so + k * 14 + 9, none⟩) zs).trans q9; have kk12 := (hSw.cell (p := ⟨sb, so + k * 14 + 12, none⟩) zs).trans q12; have kkg := (hSw.cell (p := ⟨gb, go + k, none⟩) zg).trans qg; have cv1 := HV1.out w' hSw; have cv2 := HV2.out w' hSw; go_simp; (try with_reducible rfl))
          case rest8 =>
          (try simp only [Act.put, List.setIfInBounds_toArray, List.set_cons_zero, List.set_cons_succ])
          refine Goes.take (i := 7) (oi := ?oi9) (x := ?vx9) ?ho9 (by kernel_rfl) (by kernel_rfl) (by kernel_rfl) (by kernel_rfl) (fun _ _ _ h => h) (Or.inl ⟨?hw9, ?hy9⟩) (Below.drew (Below.refl _ _)) ?rest9
          case ho9 => (simp only [List.getElem?_toArray, List.getElem?_cons_succ, List.getElem?_cons_zero] <;> rfl)
          case hw9 => rfl
          case hy9 => (intro w' hSw; have kp := HKP.out w' (HB.out.trans (hSw.mono HB.out.size)); have kk9 := (hSw.cell (p := ⟨sb, so + k * 14 + 9, none⟩) zs).trans q9; have kk12 := (hSw.cell (p := ⟨sb, so + k * 14 + 12, none⟩) zs).trans q12; have kkg := (hSw.cell (p := ⟨gb, go + k, none⟩) zg).trans qg; have cv1 := HV1.out w' hSw; have cv2 := HV2.out w' hSw; go_simp; (try with_reducible rfl))
          case rest9 =>
          (try simp only [Act.put, List.setIfInBounds_toArray, List.set_cons_zero, List.set_cons_succ])
          refine Goes.take (i := 8) (oi := ?oi10) (x := ?vx10) ?ho10 (by kernel_rfl) (by kernel_rfl) (by kernel_rfl) (by kernel_rfl) (fun _ _ _ h => h) (Or.inl ⟨?hw10, ?hy10⟩) (Below.drew (Below.refl _ _)) ?rest10
          case ho10 => (simp only [List.getElem?_toArray, List.getElem?_cons_succ, List.getElem?_cons_zero] <;> rfl)
          case hw10 => rfl
          case hy10 => (intro w' hSw; have kp := HKP.out w' (HB.out.trans (hSw.mono HB.out.size)); have kk9 := (hSw.cell (p := ⟨sb, so + k * 14 + 9, none⟩) zs).trans q9; have kk12 := (hSw.cell (p := ⟨sb, so + k * 14 + 12, none⟩) zs).trans q12; have kkg := (hSw.cell (p := ⟨gb, go + k, none⟩) zg).trans qg; have cv1 := HV1.out w' hSw; have cv2 := HV2.out w' hSw; go_simp; (try with_reducible rfl))
          case rest10 =>
          (try simp only [Act.put, List.setIfInBounds_toArray, List.set_cons_zero, List.set_cons_succ])
          refine Goes.take (i := 9) (oi := ?oi11) (x := ?vx11) ?ho11 (by kernel_rfl) (by kernel_rfl) (by kernel_rfl) (by kernel_rfl) (fun _ _ _ h => h) (Or.inl ⟨?hw11, ?hy11⟩) (Below.drew (Below.refl _ _)) ?rest11
          case ho11 => (simp only [List.getElem?_toArray, List.getElem?_cons_succ, List.getElem?_cons_zero] <;> rfl)
          case hw11 => rfl
          case hy11 => (intro w' hSw; have kp := HKP.out w' (HB.out.trans (hSw.mono HB.out.size)); have kk9 := (hSw.cell (p := ⟨sb, so + k * 14 + 9, none⟩) zs).trans q9; have kk12 := (hSw.cell (p := ⟨sb, so + k * 14 + 12, none⟩) zs).trans q12; have kkg := (hSw.cell (p := ⟨gb, go + k, none⟩) zg).trans qg; have cv1 := HV1.out w' hSw; have cv2 := HV2.out w' hSw; go_simp; (try with_reducible rfl))
          case rest11 =>
          (try simp only [Act.put, List.setIfInBounds_toArray, List.set_cons_zero, List.set_cons_succ])
          refine Goes.take (i := 10) (oi := ?oi12) (x := ?vx12) ?ho12 (by kernel_rfl) (by kernel_rfl) (by kernel_rfl) (by kernel_rfl) (fun _ _ _ h => h) (Or.inl ⟨?hw12, ?hy12⟩) (Below.drew (Below.refl _ _)) ?rest12
          case ho12 => (simp only [List.getElem?_toArray, List.getElem?_cons_succ, List.getElem?_cons_zero] <;> rfl)
          case hw12 => rfl
          case hy12 => (intro w' hSw; have kp := HKP.out w' (HB.out.trans (hSw.mono HB.out.size)); have kk9 := (hSw.cell (p := ⟨sb, so + k * 14 + 9, none⟩) zs).trans q9; have kk12 := (hSw.cell (p := ⟨sb, so + k * 14 + 12, none⟩) zs).trans q12; have kkg := (hSw.cell (p := ⟨gb, go + k, none⟩) zg).trans qg; have cv1 := HV1.out w' hSw; have cv2 := HV2.out w' hSw; go_simp; (try with_reducible rfl))
          case rest12 =>
          (try simp only [Act.put, List.setIfInBounds_toArray, List.set_cons_zero, List.set_cons_succ])
          refine Goes.take (i := 11) (oi := ?oi13) (x := ?vx13) ?ho13 (by kernel_rfl) (by kernel_rfl) (by kernel_rfl) (by kernel_rfl) (fun _ _ _ h => h) (Or.inl ⟨?hw13, ?hy13⟩) (Below.drew (Below.refl _ _)) ?rest13
          case ho13 => (simp only [List.getElem?_toArray, List.getElem?_cons_succ, List.getElem?_cons_zero] <;> rfl)
          case hw13 => rfl
          case hy13 => (intro w' hSw; have kp := HKP.out w' (HB.out.trans (hSw.mono HB.out.size)); have kk9 := (hSw.cell (p := ⟨sb, so + k * 14 + 9, none⟩) zs).trans q9; have kk12 := (hSw.cell (p := ⟨sb, so + k * 14 + 12, none⟩) zs).trans q12; have kkg := (hSw.cell (p := ⟨gb, go + k, none⟩) zg).trans qg; have cv1 := HV1.out w' hSw; have cv2 := HV2.out w' hSw; go_simp; (try with_reducible rfl))
          case rest13 =>
          (try simp only [Act.put, List.setIfInBounds_toArray, List.set_cons_zero, List.set_cons_succ])
          refine Goes.take (i := 12) (oi := ?oi14) (x := ?vx14) ?ho14 (by kernel_rfl) (by kernel_rfl) (by kernel_rfl) (by kernel_rfl) (fun _ _ _ h => h) (Or.inl ⟨?hw14, ?hy14⟩) (Below.drew (Below.refl _ _)) ?rest14
          case ho14 => (simp only [List.getElem?_toArray, List.getElem?_cons_succ, List.getElem?_cons_zero] <;> rfl)
          case hw14 => rfl
          case hy14 => (intro w' hSw; have kp := HKP.out w' (HB.out.trans (hSw.mono HB.out.size)); have kk9 := (hSw.cell (p := ⟨sb, so + k * 14 + 9, none⟩) zs).trans q9; have kk12 := (hSw.cell (p := ⟨sb, so + k * 14 + 12, none⟩) zs).trans q12; have kkg := (hSw.cell (p := ⟨gb, go + k, none⟩) zg).trans qg; have cv1 := HV1.out w' hSw; have cv2 := HV2.out w' hSw; go_simp; (try with_reducible rfl))
          case rest14 =>
          (try simp only [Act.put, List.setIfInBounds_toArray, List.set_cons_zero, List.set_cons_succ])
          refine Goes.take (i := 13) (oi := ?oi15) (x := ?vx15) ?ho15 (by kernel_rfl) (by kernel_rfl) (by kernel_rfl) (by kernel_rfl) (fun _ _ _ h => h) (Or.inl ⟨?hw15, ?hy15⟩) (Below.drew (Below.refl _ _)) ?rest15
          case ho15 => (simp only [List.getElem?_toArray, List.getElem?_cons_succ, List.getElem?_cons_zero] <;> rfl)
          case hw15 => rfl
          case hy15 => (intro w' hSw; have kp := HKP.out w' (HB.out.trans (hSw.mono HB.out.size)); have kk9 := (hSw.cell (p := ⟨sb, so + k * 14 + 9, none⟩) zs).trans q9; have kk12 := (hSw.cell (p := ⟨sb, so + k * 14 + 12, none⟩) zs).trans q12; have kkg := (hSw.cell (p := ⟨gb, go + k, none⟩) zg).trans qg; have cv1 := HV1.out w' hSw; have cv2 := HV2.out w' hSw; go_simp; (try with_reducible rfl))
          case rest15 =>
          (try simp only [Act.put, List.setIfInBounds_toArray, List.set_cons_zero, List.set_cons_succ])
          refine Goes.take (i := 14) (oi := ?oi16) (x := ?vx16) ?ho16 (by kernel_rfl) (by kernel_rfl) (by kernel_rfl) (by kernel_rfl) (fun _ _ _ h => h) (Or.inl ⟨?hw16, ?hy16⟩) (Below.drew (Below.refl _ _)) ?rest16
          case ho16 => (simp only [List.getElem?_toArray, List.getElem?_cons_succ, List.getElem?_cons_zero] <;> rfl)
          case hw16 => rfl
          case hy16 => (intro w' hSw; have kp := HKP.out w' (HB.out.trans (hSw.mono HB.out.size)); have kk9 := (hSw.cell (p := ⟨sb, so + k * 14 + 9, none⟩) zs).trans q9; have kk12 := (hSw.cell (p := ⟨sb, so + k * 14 + 12, none⟩) zs).trans q12; have kkg := (hSw.cell (p := ⟨gb, go + k, none⟩) zg).trans qg; have cv1 := HV1.out w' hSw; have cv2 := HV2.out w' hSw; go_simp; (try with_reducible rfl))
          case rest16 =>
          (try simp only [Act.put, List.setIfInBounds_toArray, List.set_cons_zero, List.set_cons_succ])
          refine Goes.take (i := 15) (oi := ?oi17) (x := ?vx17) ?ho17 (by kernel_rfl) (by kernel_rfl) (by kernel_rfl) (by kernel_rfl) (fun _ _ _ h => h) (Or.inl ⟨?hw17, ?hy17⟩) (Below.drew (Below.refl _ _)) ?rest17
          case ho17 => (simp only [List.getElem?_toArray, List.getElem?_cons_succ, List.getElem?_cons_zero] <;> rfl)
          case hw17 => rfl
          case hy17 => (intro w' hSw; have kp := HKP.out w' (HB.out.trans (hSw.mono HB.out.size)); have kk9 := (hSw.cell (p := ⟨sb, so + k * 14 + 9, none⟩) zs).trans q9; have kk12 := (hSw.cell (p := ⟨sb, so + k * 14 + 12, none⟩) zs).trans q12; have kkg := (hSw.cell (p := ⟨gb, go + k, none⟩) zg).trans qg; have cv1 := HV1.out w' hSw; have cv2 := HV2.out w' hSw; go_simp; (try with_reducible rfl))
          case rest17 =>
          (try simp only [Act.put, List.setIfInBounds_toArray, List.set_cons_zero, List.set_cons_succ])
          refine Goes.take (i := 16) (oi := ?oi18) (x := ?vx18) ?ho18 (by kernel_rfl) (by kernel_rfl) (by kernel_rfl) (by kernel_rfl) (fun _ _ _ h => h) (Or.inl ⟨?hw18, ?hy18⟩) (Below.drew (Below.refl _ _)) ?rest18
          case ho18 => (simp only [List.getElem?_toArray, List.getElem?_cons_succ, List.getElem?_cons_zero] <;> rfl)
          case hw18 => rfl
          case hy18 => (intro w' hSw; have kp := HKP.out w' (HB.out.trans (hSw.mono HB.out.size)); have kk9 := (hSw.cell (p := ⟨sb, so + k * 14 + 9, none⟩) zs).trans q9; have kk12 := (hSw.cell (p := ⟨sb, so + k * 14 + 12, none⟩) zs).trans q12; have kkg := (hSw.cell (p := ⟨gb, go + k, none⟩) zg).trans qg; have cv1 := HV1.out w' hSw; have cv2 := HV2.out w' hSw; go_simp; (try with_reducible rfl))
          case rest18 =>
          (try simp only [Act.put, List.setIfInBounds_toArray, List.set_cons_zero, List.set_cons_succ])
          refine Goes.take (i := 17) (oi := ?oi19) (x := ?vx19) ?ho19 (by kernel_rfl) (by kernel_rfl) (by kernel_rfl) (by kernel_rfl) (fun _ _ _ h => h) (Or.inl ⟨?hw19, ?hy19⟩) (Below.drew (Below.refl _ _)) ?rest19
          case ho19 => (simp only [List.getElem?_toArray, List.getElem?_cons_succ, List.getElem?_cons_zero] <;> rfl)
          case hw19 => rfl
          case hy19 => (intro w' hSw; have kp := HKP.out w' (HB.out.trans (hSw.mono HB.out.size)); have kk9 := (hSw.cell (p := ⟨sb, so + k * 14 + 9, none⟩) zs).trans q9; have kk12 := (hSw.cell (p := ⟨sb, so + k * 14 + 12, none⟩) zs).trans q12; have kkg := (hSw.cell (p := ⟨gb, go + k, none⟩) zg).trans qg; have cv1 := HV1.out w' hSw; have cv2 := HV2.out w' hSw; go_simp; (try with_reducible rfl))
          case rest19 =>
          (try simp only [Act.put, List.setIfInBounds_toArray, List.set_cons_zero, List.set_cons_succ])
          refine Goes.take (i := 18) (oi := ?oi20) (x := ?vx20) ?ho20 (by kernel_rfl) (by kernel_rfl) (by kernel_rfl) (by kernel_rfl) (fun _ _ _ h => h) (Or.inl ⟨?hw20, ?hy20⟩) (Below.drew (Below.refl _ _)) ?rest20
          case ho20 => (simp only [List.getElem?_toArray, List.getElem?_cons_succ, List.getElem?_cons_zero] <;> rfl)
          case hw20 => rfl
          case hy20 => (intro w' hSw; have kp := HKP.out w' (HB.out.trans (hSw.mono HB.out.size)); have kk9 := (hSw.cell (p := ⟨sb, so + k * 14 + 9, none⟩) zs).trans q9; have kk12 := (hSw.cell (p := ⟨sb, so + k * 14 + 12, none⟩) zs).trans q12; have kkg := (hSw.cell (p := ⟨gb, go + k, none⟩) zg).trans qg; have cv1 := HV1.out w' hSw; have cv2 := HV2.out w' hSw; go_simp; (try with_reducible rfl))
          case rest20 =>
          (try simp only [Act.put, List.setIfInBounds_toArray, List.set_cons_zero, List.set_cons_succ])
          refine Goes.take (i := 19) (oi := ?oi21) (x := ?vx21) ?ho21 (by kernel_rfl) (by kernel_rfl) (by kernel_rfl) (by kernel_rfl) (fun _ _ _ h => h) (Or.inl ⟨?hw21, ?hy21⟩) (Below.drew (Below.refl _ _)) ?rest21
          case ho21 => (simp only [List.getElem?_toArray, List.getElem?_cons_succ, List.getElem?_cons_zero] <;> rfl)
          case hw21 => rfl
          case hy21 => (intro w' hSw; have kp := HKP.out w' (HB.out.trans (hSw.mono HB.out.size)); have kk9 := (hSw.cell (p := ⟨sb, so + k * 14 + 9, none⟩) zs).trans q9; have kk12 := (hSw.cell (p := ⟨sb, so + k * 14 + 12, none⟩) zs).trans q12; have kkg := (hSw.cell (p := ⟨gb, go + k, none⟩) zg).trans qg; have cv1 := HV1.out w' hSw; have cv2 := HV2.out w' hSw; go_simp; (try with_reducible rfl))
          case rest21 =>
          (try simp only [Act.put, List.setIfInBounds_toArray, List.set_cons_zero, List.set_cons_succ])
          refine Goes.take (i := 20) (oi := ?oi22) (x := ?vx22) ?ho22 (by kernel_rfl) (by kernel_rfl) (by kernel_rfl) (by kernel_rfl) (fun _ _ _ h => h) (Or.inl ⟨?hw22, ?hy22⟩) (Below.drew (Below.refl _ _)) ?rest22
          case ho22 => (simp only [List.getElem?_toArray, List.getElem?_cons_succ, List.getElem?_cons_zero] <;> rfl)
          case hw22 => rfl
          case hy22 => (intro w' hSw; have kp := HKP.out w' (HB.out.trans (hSw.mono HB.out.size)); have kk9 := (hSw.cell (p := ⟨sb, so + k * 14 + 9, none⟩) zs).trans q9; have kk12 := (hSw.cell (p := ⟨sb, so + k * 14 + 12, none⟩) zs).trans q12; have kkg := (hSw.cell (p := ⟨gb, go + k, none⟩) zg).trans qg; have cv1 := HV1.out w' hSw; have cv2 := HV2.out w' hSw; go_simp; (try with_reducible rfl))
          case rest22 =>
          (try simp only [Act.put, List.setIfInBounds_toArray, List.set_cons_zero, List.set_cons_succ])
          refine Goes.take (i := 21) (oi := ?oi23) (x := ?vx23) ?ho23 (by kernel_rfl) (by kernel_rfl) (by kernel_rfl) (by kernel_rfl) (fun _ _ _ h => h) (Or.inl ⟨?hw23, ?hy23⟩) (Below.drew (Below.refl _ _)) ?rest23
          case ho23 => (simp only [List.getElem?_toArray, List.getElem?_cons_succ, List.getElem?_cons_zero] <;> rfl)
          case hw23 => rfl
          case hy23 => (intro w' hSw; have kp := HKP.out w' (HB.out.trans (hSw.mono HB.out.size)); have kk9 := (hSw.cell (p := ⟨sb, so + k * 14 + 9, none⟩) zs).trans q9; have kk12 := (hSw.cell (p := ⟨sb, so + k * 14 + 12, none⟩) zs).trans q12; have kkg := (hSw.cell (p := ⟨gb, go + k, none⟩) zg).trans qg; have cv1 := HV1.out w' hSw; have cv2 := HV2.out w' hSw; go_simp; (try with_reducible rfl))
          case rest23 =>
          (try simp only [Act.put, List.setIfInBounds_toArray, List.set_cons_zero, List.set_cons_succ])
          refine Goes.take (i := 22) (oi := ?oi24) (x := ?vx24) ?ho24 (by kernel_rfl) (by kernel_rfl) (by kernel_rfl) (by kernel_rfl) (fun _ _ _ h => h) (Or.inl ⟨?hw24, ?hy24⟩) (Below.drew (Below.refl _ _)) ?rest24
          case ho24 => (simp only [List.getElem?_toArray, List.getElem?_cons_succ, List.getElem?_cons_zero] <;> rfl)
          case hw24 => rfl
          case hy24 => (intro w' hSw; have kp := HKP.out w' (HB.out.trans (hSw.mono HB.out.size)); have kk9 := (hSw.cell (p := ⟨sb, so + k * 14 + 9, none⟩) zs).trans q9; have kk12 := (hSw.cell (p := ⟨sb, so + k * 14 + 12, none⟩) zs).trans q12; have kkg := (hSw.cell (p := ⟨gb, go + k, none⟩) zg).trans qg; have cv1 := HV1.out w' hSw; have cv2 := HV2.out w' hSw; go_simp; (try with_reducible rfl))
          case rest24 =>
          (try simp only [Act.put, List.setIfInBounds_toArray, List.set_cons_zero, List.set_cons_succ])
          refine Goes.take (i := 23) (oi := ?oi25) (x := ?vx25) ?ho25 (by kernel_rfl) (by kernel_rfl) (by kernel_rfl) (by kernel_rfl) (fun _ _ _ h => h) (Or.inl ⟨?hw25, ?hy25⟩) (Below.drew (Below.refl _ _)) ?rest25
          case ho25 => (simp only [List.getElem?_toArray, List.getElem?_cons_succ, List.getElem?_cons_zero] <;> rfl)
          case hw25 => rfl
          case hy25 => (intro w' hSw; have kp := HKP.out w' (HB.out.trans (hSw.mono HB.out.size)); have kk9 := (hSw.cell (p := ⟨sb, so + k * 14 + 9, none⟩) zs).trans q9; have kk12 := (hSw.cell (p := ⟨sb, so + k * 14 + 12, none⟩) zs).trans q12; have kkg := (hSw.cell (p := ⟨gb, go + k, none⟩) zg).trans qg; have cv1 := HV1.out w' hSw; have cv2 := HV2.out w' hSw; go_simp; (try with_reducible rfl))
          case rest25 =>
          (try simp only [Act.put, List.setIfInBounds_toArray, List.set_cons_zero, List.set_cons_succ])
          refine Goes.take (i := 24) (oi := ?oi26) (x := ?vx26) ?ho26 (by kernel_rfl) (by kernel_rfl) (by kernel_rfl) (by kernel_rfl) (fun _ _ _ h => h) (Or.inl ⟨?hw26, ?hy26⟩) (Below.drew (Below.refl _ _)) ?rest26
          case ho26 => (simp only [List.getElem?_toArray, List.getElem?_cons_succ, List.getElem?_cons_zero] <;> rfl)
          case hw26 => rfl
          case hy26 => (intro w' hSw; have kp := HKP.out w' (HB.out.trans (hSw.mono HB.out.size)); have kk9 := (hSw.cell (p := ⟨sb, so + k * 14 + 9, none⟩) zs).trans q9; have kk12 := (hSw.cell (p := ⟨sb, so + k * 14 + 12, none⟩) zs).trans q12; have kkg := (hSw.cell (p := ⟨gb, go + k, none⟩) zg).trans qg; have cv1 := HV1.out w' hSw; have cv2 := HV2.out w' hSw; go_simp; (try with_reducible rfl))
          case rest26 =>
          (try simp only [Act.put, List.setIfInBounds_toArray, List.set_cons_zero, List.set_cons_succ])
          refine Goes.take (i := 25) (oi := ?oi27) (x := ?vx27) ?ho27 (by kernel_rfl) (by kernel_rfl) (by kernel_rfl) (by kernel_rfl) (fun _ _ _ h => h) (Or.inl ⟨?hw27, ?hy27⟩) (Below.drew (Below.refl _ _)) ?rest27
          case ho27 => (simp only [List.getElem?_toArray, List.getElem?_cons_succ, List.getElem?_cons_zero] <;> rfl)
          case hw27 => rfl
          case hy27 => (intro w' hSw; have kp := HKP.out w' (HB.out.trans (hSw.mono HB.out.size)); have kk9 := (hSw.cell (p := ⟨sb, so + k * 14 + 9, none⟩) zs).trans q9; have kk12 := (hSw.cell (p := ⟨sb, so + k * 14 + 12, none⟩) zs).trans q12; have kkg := (hSw.cell (p := ⟨gb, go + k, none⟩) zg).trans qg; have cv1 := HV1.out w' hSw; have cv2 := HV2.out w' hSw; go_simp; (try with_reducible rfl))
          case rest27 =>
          (try simp only [Act.put, List.setIfInBounds_toArray, List.set_cons_zero, List.set_cons_succ])
          refine Goes.take (i := 26) (oi := ?oi28) (x := ?vx28) ?ho28 (by kernel_rfl) (by kernel_rfl) (by kernel_rfl) (by kernel_rfl) (fun _ _ _ h => h) (Or.inl ⟨?hw28, ?hy28⟩) (Below.drew (Below.refl _ _)) ?rest28
          case ho28 => (simp only [List.getElem?_toArray, List.getElem?_cons_succ, List.getElem?_cons_zero] <;> rfl)
          case hw28 => rfl
          case hy28 => (intro w' hSw; have kp := HKP.out w' (HB.out.trans (hSw.mono HB.out.size)); have kk9 := (hSw.cell (p := ⟨sb, so + k * 14 + 9, none⟩) zs).trans q9; have kk12 := (hSw.cell (p := ⟨sb, so + k * 14 + 12, none⟩) zs).trans q12; have kkg := (hSw.cell (p := ⟨gb, go + k, none⟩) zg).trans qg; have cv1 := HV1.out w' hSw; have cv2 := HV2.out w' hSw; go_simp; (try with_reducible rfl))
          case rest28 =>
          (try simp only [Act.put, List.setIfInBounds_toArray, List.set_cons_zero, List.set_cons_succ])
          refine Goes.take (i := 27) (oi := ?oi29) (x := ?vx29) ?ho29 (by kernel_rfl) (by kernel_rfl) (by kernel_rfl) (by kernel_rfl) (fun _ _ _ h => h) (Or.inl ⟨?hw29, ?hy29⟩) (Below.drew (Below.refl _ _)) ?rest29
          case ho29 => (simp only [List.getElem?_toArray, List.getElem?_cons_succ, List.getElem?_cons_zero] <;> rfl)
          case hw29 => rfl
          case hy29 => (intro w' hSw; have kp := HKP.out w' (HB.out.trans (hSw.mono HB.out.size)); have kk9 := (hSw.cell (p := ⟨sb, so + k * 14 + 9, none⟩) zs).trans q9; have kk12 := (hSw.cell (p := ⟨sb, so + k * 14 + 12, none⟩) zs).trans q12; have kkg := (hSw.cell (p := ⟨gb, go + k, none⟩) zg).trans qg; have cv1 := HV1.out w' hSw; have cv2 := HV2.out w' hSw; go_simp; (try with_reducible rfl))
          case rest29 =>
          (try simp only [Act.put, List.setIfInBounds_toArray, List.set_cons_zero, List.set_cons_succ])
          refine Goes.done (by kernel_rfl) ?_ _
          refine NoPanic.normal ?_
          have hst := HST.out
          rw [HEQ.out] at hst
          have HBx : Hid (Below w.heap.size w wq.drew) := HB.out.trans (Below.drew (Below.refl _ _))
          generalize wq.drew = wz at *
          cases hq : (S1.toList == S2.toList) with
          | true =>
            rw [hq, Bool.true_and] at hst
            have HC2 : Hid (gotF (sides.drop (k + 1)) (got.drop (k + 1)) = gotF sides got) := hst.symm
            clear hst HST hq HEQ HV1 HV2 HC q9 q12 qg
            go_wp2_with fail
            go_roundw
            case rel => exact ⟨k + 1, by omega, by go_num, HC2, HBx⟩
            case measure => simp [intOf]; omega
          | false =>
            rw [hq, Bool.false_and] at hst
            have hr := HR.out
            rw [if_pos hst] at hr
            subst hr
            clear hst HST hq HEQ HV1 HV2 HC q9 q12 qg HR
            go_wp2_with fail
            go_ret
            exact ⟨rfl, HBx.out⟩
        · obtain rfl : k = 2 := by omega
          have hc := HC.out
          rw [got_end (by have := HL1.out; omega)] at hc
          have hr := HR.out
          rw [if_neg (by simp [← hc])] at hr
          subst hr
          clear HR HC hc
          go_wp2_with fail
          go_ret
          exact ⟨rfl, HB.out⟩
end Go.Proofs.YtfpemobkkfobkaaGreatDoor
