/- What FitsStream answers, of the program and of its model: the same; what was in memory stays; no condition but that there are at most a million bytes. -/
import Derived.Test.YtnbcefdfdonljaaRows
import Derived.Test.YtnbcefdfdonljaaBase
import Derived.Test.YtnbcefdfdonljaaBytes
import Derived.Test.YtnbcefdfdonljaaMem
import Derived.Test.YtnbcefdfdonljaaGath
import Derived.Test.YtnbcefdfdonljaaImplGath
import Derived.Test.YtnbcefdfdonljaaSpecGath
import Derived.Test.YtnbcefdfdonljaaGathByte
import Derived.Test.YtnbcefdfdonljaaStr
import Derived.Test.YtnbcefdfdonljaaBox
import Derived.Test.YtnbcefdfdonljaaGathFits
import Derived.Test.YtnbcefdfdonljaaGathFit2
import Derived.Test.YtnbcefdfdonljaaGathFit3
import Derived.Test.YtnbcefdfdonljaaStand
import Derived.Deep.DeepCutAuto
import Derived.Deep.QuietTactic
import Derived.BigQuiet
namespace Go.Proofs.Ytnbcefdfdonljaa
open Go.RowKit
set_option linter.unusedVariables false

set_option maxHeartbeats 2000000 in
set_option maxRecDepth 8000 in
theorem iFitsStream (g : Gt) (v1 v2 : Value) (l : List Int) (a : Option Addr) (cap : Nat) (w : World) (B : Nat) (hr : gtS.Rd w B g [v1, v2]) (hl : u8s.Rd w B l [.slice a l.length cap]) (hB : B ≤ w.heap.size) (hn : l.length ≤ 1048576) :
    Calls Try.prog 13 #[.agg #[v1, v2], .slice a l.length cap] w fun e w' => e = .returned (.bool (fitsV g l)) ∧ Below w.heap.size w w' := by
  obtain ⟨a1, c1, a2, c2, e0, r1, r2⟩ := rd_gt hr
  simp only [List.cons.injEq, and_true] at e0
  obtain ⟨rfl, rfl⟩ := e0
  have HR : Hid (∀ W, Below w.heap.size w W → pcsS.Rd W B g.2.1 [.slice a2 g.2.1.length c2]) := fun W hW => r2.below hB hW
  have HL : Hid (∀ W, Below w.heap.size w W → u8s.Rd W B l [.slice a l.length cap]) := fun W hW => hl.below hB hW
  have HC : Hid (∀ W, Below w.heap.size w W → Calls Try.prog 12 #[.agg #[.slice a1 g.1.length c1, .slice a2 g.2.1.length c2]] W fun e w' => e = .returned (.int .i64 (gtFault g)) ∧ Below W.heap.size W w') :=
    fun W hW => iGatherFault g _ W (Sh.Rd.mono (Nat.le_trans hB hW.size) _ _ _ (hr.below hB hW))
  obtain ⟨-, cp1, cp2, cp3⟩ := rd_cap hl
  have HP : Hid (∀ W, Below w.heap.size w W → Calls Try.prog 47 #[.slice a l.length cap, .slice a1 g.1.length c1] W fun e w' => e = .returned (.bool (decide (g.1.length ≤ l.length ∧ l.take g.1.length = g.1))) ∧ w' = W) := by
    intro W hW
    obtain ⟨_, _, e1, q1, -, -⟩ := rd_bytes (hl.below hB hW)
    simp only [List.cons.injEq, Value.slice.injEq, and_true, true_and] at e1
    obtain ⟨rfl, rfl⟩ := e1
    obtain ⟨_, _, e1, q2, -, -⟩ := rd_bytes (r1.below hB hW)
    simp only [List.cons.injEq, Value.slice.injEq, and_true, true_and] at e1
    obtain ⟨rfl, rfl⟩ := e1
    exact bHasPrefix a a1 cap c1 l g.1 W q1 q2 cp3 cp1 cp2
  have HV1 : Hid (gtFault g ≠ 0 → fitsV g l = false) := fun h => by unfold fitsV; rw [if_pos h]
  have HV2 : Hid (gtFault g = 0 → fitsV g l = fitAll g l) := fun h => by unfold fitsV; rw [if_neg (by simp [h])]
  have HOk : Hid (gtFault g = 0 → g.1.length ≤ 400 ∧ g.2.1.length ≤ 40 ∧ ∀ k (hk : k < g.2.1.length), 0 ≤ g.2.1[k].1 ∧ g.2.1[k].1 + g.2.1[k].2.1.length ≤ 400 ∧ 0 < g.2.1[k].2.1.length) := fun h => gtFault_ok h
  have HN1 : Hid (gtFault g = 0 → ¬ (g.1.length ≤ l.length ∧ l.take g.1.length = g.1) → fitAll g l = false) := fun hF h => (@decide_eq_false_iff_not (FitP g l) (Classical.propDecidable _)).2 fun hp => h (fit_pre hF hp)
  have HN2 : Hid (gtFault g = 0 → ∀ i (hi : i < g.2.1.length), ¬ (g.2.1[i].1 + g.2.1[i].2.1.length ≤ l.length ∧ (l.drop g.2.1[i].1.toNat).take g.2.1[i].2.1.length = g.2.1[i].2.1) → fitAll g l = false) := fun hF i hi h => (@decide_eq_false_iff_not (FitP g l) (Classical.propDecidable _)).2 fun hp => h (fit_pc hF hp i hi)
  have HY : Hid (gtFault g = 0 → (g.1.length ≤ l.length ∧ l.take g.1.length = g.1) → (∀ i (hi : i < g.2.1.length), g.2.1[i].1 + g.2.1[i].2.1.length ≤ l.length ∧ (l.drop g.2.1[i].1.toNat).take g.2.1[i].2.1.length = g.2.1[i].2.1) → fitAll g l = true) := fun hF hp hq => fitAll_yes (fit_of hF hp hq)
  have cp4 : cap ≤ 9223372036854775807 := cp2
  clear hr r1 r2 hl cp2
  obtain ⟨done, ps, _⟩ := g
  simp only at *
  generalize fitsV (done, ps, ()) l = V at *
  generalize gtFault (done, ps, ()) = F at *
  generalize fitAll (done, ps, ()) l = D at *
  obtain ⟨PR, hPR⟩ : ∃ p : Prop, p = (done.length ≤ l.length ∧ l.take done.length = done) := ⟨_, rfl⟩
  go_enter Try.func13, Try.ntmps13
  go_wp2_with fail
  refine (HC.out _ (by go_grown)).mono ?_
  rintro e w1 ⟨rfl, hb1⟩
  have k0 : ∀ o, w1.cell? ⟨w.heap.size, o, none⟩ = (#[.slice a1 done.length c1, .slice a2 ps.length c2] : Array Value)[o]? := fun o => by rw [(bcell hb1).1 _ o (by simp)]; simp [go_sem]
  have HB1 : Hid (Below w.heap.size w w1) := Below.trans (by go_grown) (hb1.mono (by simp))
  have z1 : w.heap.size < w1.heap.size := by have := hb1.size; simp at this; omega
  clear hb1 HC
  by_cases hF : F = 0
  · subst hF
    have hv := HV2.out (by first | rfl | trivial)
    subst hv
    obtain ⟨o1, o2, hok⟩ := HOk.out (by first | rfl | trivial)
    have HOk2 : Hid _ := hok
    clear HV1 HV2 HOk hok
    have hpc := HP.out w1 HB1.out
    by_cases hpre : done.length ≤ l.length ∧ l.take done.length = done
    · have hd : decide (done.length ≤ l.length ∧ l.take done.length = done) = true := by simp only [decide_eq_true_eq]; exact hpre
      rw [hd] at hpc
      have HPre : Hid _ := hpre
      clear hd hpre HP HN1 hPR
      go_wp2_with fail
      refine hpc.mono ?_
      rintro e w2 ⟨rfl, hw2⟩
      subst w2
      clear hpc
      go_wp2_with fail
      go_loopw [20] (fun i wr => ∃ (k : Nat), k ≤ ps.length ∧ i = .int .i64 k ∧ (∀ j (hj : j < ps.length), j < k → ps[j].1 + ps[j].2.1.length ≤ l.length ∧ (l.drop ps[j].1.toNat).take ps[j].2.1.length = ps[j].2.1) ∧ Below w1.heap.size w1 wr) (fun i _ => ps.length - (intOf i).toNat)
      case atStart => exact ⟨0, Nat.zero_le _, rfl, fun j hj h => absurd h (by omega), Below.refl _ _⟩
      case round =>
        obtain ⟨k, hk, rfl, hq, hbl⟩ := hrel
        have HQ : Hid _ := hq
        have HB2 : Hid (Below w.heap.size w wr) := HB1.out.trans (hbl.mono HB1.out.size)
        clear hq k0
        by_cases hlt : k < ps.length
        · obtain ⟨_, _, e1, -, -, hp⟩ := rd_pcs (HR.out wr HB2.out)
          obtain ⟨b, off, ad, c, ha, hb, y0, y1, r3, hw⟩ := hp k hlt
          simp only [List.cons.injEq, Value.slice.injEq, and_true, true_and] at e1
          rw [← e1.1] at ha
          subst ha
          obtain ⟨ok1, ok2, ok3⟩ := HOk2.out k hlt
          obtain ⟨_, _, e4, rb, -, -⟩ := rd_bytes r3
          simp only [List.cons.injEq, Value.slice.injEq, and_true, true_and] at e4
          obtain ⟨rfl, rfl⟩ := e4
          have HNo := HN2.out (by first | rfl | trivial) k hlt
          have HYes : Hid (ps[k].1 + ps[k].2.1.length ≤ l.length ∧ (l.drop ps[k].1.toNat).take ps[k].2.1.length = ps[k].2.1 → ∀ j (hj : j < ps.length), j < k + 1 → ps[j].1 + ps[j].2.1.length ≤ l.length ∧ (l.drop ps[j].1.toNat).take ps[j].2.1.length = ps[j].2.1) := by
            intro h j hj hjk
            by_cases e : j = k
            · subst e; exact h
            · exact HQ.out j hj (by omega)
          clear hp e1 r3
          generalize ps[k].1 = at' at *
          generalize ps[k].2.1 = d at *
          have HNo' : Hid _ := HNo
          obtain ⟨_, _, e1, rl, -, -⟩ := rd_bytes (HL.out wr HB2.out)
          simp only [List.cons.injEq, Value.slice.injEq, and_true, true_and] at e1
          obtain ⟨rfl, rfl⟩ := e1
          have HST : Hid (∀ W, Below wr.heap.size wr W → Calls Try.prog 48 #[.slice a l.length cap, .int .i64 at', .slice ad d.length c] W fun e w' => e = .returned (.bool (stV l at' d)) ∧ w' = W) := fun W hW => iStandsAt l d a ad cap c at' W (rl.below (Nat.le_refl _) hW) (rb.below (Nat.le_refl _) hW) ok3 ok1 (by omega) cp1 cp4
          have HBl : Hid _ := hbl
          clear hbl HNo rb HQ rl
          by_cases h1 : at' + (d.length : Int) ≤ l.length ∧ (l.drop at'.toNat).take d.length = d
          · have HY2 := HYes.out h1
            have HY3 : Hid _ := HY2
            have hs := stV_iff.2 h1
            rw [hs] at HST
            clear HY2 HYes HNo' h1 hs
            go_wp2_with fail
            refine (HST.out _ ((Below.refl _ _).alloc (Nat.le_refl _) _)).mono ?_
            rintro e w2 ⟨rfl, hw⟩
            have HB3 : Hid (Below wr.heap.size wr w2) := by rw [hw]; exact (Below.refl _ _).alloc (Nat.le_refl _) _
            have HB4 : Hid (Below w1.heap.size w1 w2) := HBl.out.trans (HB3.out.mono HBl.out.size)
            clear hw HST y0 y1
            go_wp2_with fail
            go_roundw
            case rel => exact ⟨k + 1, by omega, by go_num, HY3.out, HB4.out⟩
            case measure => simp [intOf]; omega
          · have hs : stV l at' d = false := by
              cases hq : stV l at' d with
              | false => rfl
              | true => exact absurd (stV_iff.1 hq) h1
            have HNN : Hid (V = false) := HNo'.out h1
            rw [hs] at HST
            clear HYes HNo' h1 hs
            go_wp2_with fail
            refine (HST.out _ ((Below.refl _ _).alloc (Nat.le_refl _) _)).mono ?_
            rintro e w2 ⟨rfl, hw⟩
            have HB3 : Hid (Below wr.heap.size wr w2) := by rw [hw]; exact (Below.refl _ _).alloc (Nat.le_refl _) _
            have HB4 : Hid (Below w.heap.size w w2) := HB2.out.trans (HB3.out.mono HB2.out.size)
            clear hw HST y0 y1
            go_wp2_with fail
            go_ret
            exact ⟨ret_bool HNN.out.symm, HB4.out⟩
        · obtain rfl : k = ps.length := by omega
          have HD : Hid (V = true) := HY.out (by first | rfl | trivial) HPre.out (fun i hi => HQ.out i hi hi)
          go_wp2_with fail
          go_ret
          exact ⟨ret_bool HD.out.symm, HB2.out⟩
    · have hd : decide (done.length ≤ l.length ∧ l.take done.length = done) = false := by simp only [decide_eq_false_iff_not]; exact hpre
      rw [hd] at hpc
      have hD := HN1.out (by first | rfl | trivial) hpre
      subst hD
      clear hd hpre HP HN1 HN2 HY hPR HR HL
      go_wp2_with fail
      refine hpc.mono ?_
      rintro e w2 ⟨rfl, hw2⟩
      subst w2
      clear hpc
      go_wp2_with fail
      go_ret
      exact ⟨rfl, HB1.out⟩
  · have hv := HV1.out hF
    subst hv
    have hF2 : (F == 0) = false := by simpa using hF
    have hF3 : (F != 0) = true := by simpa using hF
    clear HV1 HV2 HOk HN1 HN2 HY HP HR HL k0
    go_wp2_with fail
    go_ret
    exact ⟨rfl, HB1.out⟩
end Go.Proofs.Ytnbcefdfdonljaa
