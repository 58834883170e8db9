/- What MissingOf answers, of the program and of its model; what was in memory stays; no condition but that there are at most a million bytes. -/
import Derived.Test.YtnbcefdfdonljaaRows
import Derived.Test.YtnbcefdfdonljaaBase
import Derived.Test.YtnbcefdfdonljaaBytes
import Derived.Test.YtnbcefdfdonljaaMem
import Derived.Test.YtnbcefdfdonljaaMemOpen
import Derived.Test.YtnbcefdfdonljaaMemRow
import Derived.Test.YtnbcefdfdonljaaGath
import Derived.Test.YtnbcefdfdonljaaImplGath
import Derived.Test.YtnbcefdfdonljaaSpecGath
import Derived.Test.YtnbcefdfdonljaaGathLaw
import Derived.Test.YtnbcefdfdonljaaGathByte
import Derived.Test.YtnbcefdfdonljaaGathHold
import Derived.Test.YtnbcefdfdonljaaBox
import Derived.Test.YtnbcefdfdonljaaGathReach
import Derived.Deep.DeepCutAuto
import Derived.Deep.RegionHeld3
namespace Go.Proofs.Ytnbcefdfdonljaa
open Go.RowKit
set_option linter.unusedVariables false

/-- What MissingOf tells. -/
def missV (g : Gt) : Int := if gtFault g ≠ 0 then 0 else if h : g.2.1.length = 0 then 0 else (g.2.1[g.2.1.length - 1]'(by omega)).1 + (g.2.1[g.2.1.length - 1]'(by omega)).2.1.length - g.1.length - dsum g.2.1
theorem missV_1 {g : Gt} (h : gtFault g ≠ 0) : missV g = 0 := by unfold missV; rw [if_pos h]
theorem missV_2 {g : Gt} (h : gtFault g = 0) (hz : g.2.1.length = 0) : missV g = 0 := by unfold missV; rw [if_neg (by simp [h]), dif_pos hz]
theorem missV_3 {g : Gt} (h : gtFault g = 0) (n : Nat) (hz : g.2.1.length = n + 1) : missV g = (g.2.1[n]'(by omega)).1 + (g.2.1[n]'(by omega)).2.1.length - g.1.length - dsum g.2.1 := by
  unfold missV; rw [if_neg (by simp [h]), dif_neg (by omega)]
  simp only [hz, Nat.add_sub_cancel]

theorem missV_r {g : Gt} (h : gtFault g = 0) : missV g = reachD g - g.1.length - dsum g.2.1 := by
  rcases Nat.eq_zero_or_pos g.2.1.length with hz | hz
  · rw [missV_2 h hz, reach_nil (List.length_eq_zero_iff.1 hz), List.length_eq_zero_iff.1 hz]
    simp [dsum]
  · obtain ⟨n, hn⟩ : ∃ n, g.2.1.length = n + 1 := ⟨g.2.1.length - 1, by omega⟩
    rw [missV_3 h n hn, reach_last hn (by omega)]

set_option maxHeartbeats 2000000 in
theorem iMissingOf (g : Gt) (v1 v2 : Value) (w : World) (B : Nat) (hr : gtS.Rd w B g [v1, v2]) (hB : B ≤ w.heap.size) (hT : gtTot g ≤ 1048576) :
    Calls Try.prog 15 #[.agg #[v1, v2]] w fun e w' => e = .returned (.agg #[.int .i64 (gtFault g), .int .i64 (missV g)]) ∧ Below w.heap.size w w' := by
  obtain ⟨a1, c1, a2, c2, e0, r1, r2⟩ := rd_gt hr
  simp only [List.cons.injEq, and_true] at e0
  obtain ⟨rfl, rfl⟩ := e0
  have hTp : pcsTot g.2.1 ≤ 1048576 := by unfold gtTot at hT; omega
  have hD : dsum g.2.1 ≤ 1048576 := by unfold pcsTot at hTp; omega
  have HR2 : Hid (∀ W, Below w.heap.size w W → pcsS.Rd W B g.2.1 [.slice a2 g.2.1.length c2]) := fun W hW => r2.below hB hW
  have HC : Hid (∀ W, Below w.heap.size w W → Calls Try.prog 12 #[.agg #[.slice a1 g.1.length c1, .slice a2 g.2.1.length c2]] W fun e w' => e = .returned (.int .i64 (gtFault g)) ∧ Below W.heap.size W w') :=
    fun W hW => iGatherFault g _ W (Sh.Rd.mono (Nat.le_trans hB hW.size) _ _ _ (hr.below hB hW))
  have HBI : Hid (∀ W, Below w.heap.size w W → Calls Try.prog 49 #[.slice a2 g.2.1.length c2] W fun e w' => e = .returned (.int .i64 (dsum g.2.1)) ∧ Below W.heap.size W w') :=
    fun W hW => iBytesIn g.2.1 _ W B (HR2.out W hW) (Nat.le_trans hB hW.size) hTp
  have HV1 : Hid (gtFault g ≠ 0 → missV g = 0) := fun h => missV_1 h
  have HV2 : Hid (gtFault g = 0 → missV g = reachD g - g.1.length - dsum g.2.1) := fun h => missV_r h
  have HOk : Hid (gtFault g = 0 → 0 ≤ reachD g ∧ reachD g ≤ 400 ∧ g.1.length ≤ 400) := fun h => ⟨(reach_in h).1, (reach_in h).2, (gt_inR h).1⟩
  have HRE : Hid (gtFault g = 0 → ∀ W, Below w.heap.size w W → Calls Try.prog 50 #[.agg #[.slice a1 g.1.length c1, .slice a2 g.2.1.length c2]] W fun e w' => e = .returned (.int .i64 (reachD g)) ∧ Below W.heap.size W w') :=
    fun hg W hW => iReach g _ _ W B (hr.below hB hW) (Nat.le_trans hB hW.size) hg
  clear hr r1 r2 hT hTp
  obtain ⟨done, ps, _⟩ := g
  simp only at *
  generalize missV (done, ps, ()) = V at *
  generalize gtFault (done, ps, ()) = F at *
  generalize dsum ps = D at *
  generalize reachD (done, ps, ()) = R at *
  go_enter Try.func15, Try.ntmps15
  go_wp2_with fail
  refine (HC.out _ (by go_grown)).mono ?_
  rintro e w1 ⟨rfl, hb1⟩
  have hz := hb1.size
  simp at hz
  have k0 : ∀ o, w1.cell? ⟨w.heap.size, o, none⟩ = (#[.slice a1 done.length c1, .slice a2 ps.length c2] : Array Value)[o]? := fun o => by rw [(bcell hb1).1 _ o (by simp; omega)]; simp [go_sem]
  have k1 : ∀ o, w1.cell? ⟨w.heap.size + 1, o, none⟩ = (#[.int .i64 0, .int .i64 0] : Array Value)[o]? := fun o => by rw [(bcell hb1).1 _ o (by simp)]; simp [go_sem]
  have f1 : ∀ o, w1.frozen? ⟨w.heap.size + 1, o, none⟩ = false := fun o => by rw [(bcell hb1).2 _ o (by simp)]; simp [go_sem]
  have HB1 : Hid (Below w.heap.size w w1) := Below.trans (by go_grown) (hb1.mono (by simp; omega))
  have z1 : w.heap.size + 1 < w1.heap.size := by omega
  clear hb1 hz HC
  by_cases hF : F = 0
  · subst hF
    obtain ⟨o1, o2, o3⟩ := HOk.out (by first | rfl | trivial)
    have hv := HV2.out (by first | rfl | trivial)
    have HRE2 : Hid _ := HRE.out (by first | rfl | trivial)
    have HVV : Hid _ := hv
    clear HV1 HV2 HOk HR2 HRE hv
    have wx : IntKind.i64.wrap (R - (done.length : Int)) = R - (done.length : Int) := by rw [IntKind.wrap_i64]; omega
    have wy : IntKind.i64.wrap (R - (done.length : Int) - (D : Int)) = R - (done.length : Int) - (D : Int) := by rw [IntKind.wrap_i64]; omega
    have z0 : w.heap.size < w1.heap.size := by omega
    go_upto_region 4 with fail
    go_region_held3 (fun w' => w'.cell? ⟨w.heap.size, 0, none⟩ = some (.slice a1 done.length c1) ∧ w'.cell? ⟨w.heap.size, 1, none⟩ = some (.slice a2 ps.length c2)) (first | go_keep)
      (first
      | (go_at_call 50; refine (HRE2.out _ (HB1.out.trans (Below.drew (Below.refl _ _)))).mono ?_; rintro e w2 ⟨rfl, hb2⟩; replace hb2 := bl_drew hb2; have q0 := bx_below k0 z0 hb2; have q1 := bx_below k1 z1 hb2; have g1 : (∀ o, w2.frozen? ⟨w.heap.size + 1, o, none⟩ = false) := (fun o => (by rw [(bcell hb2).2 _ o z1]; exact f1 o)); have HB2 : Hid (Below w.heap.size w w2) := HB1.out.trans (hb2.mono HB1.out.size); have y0 : w.heap.size < w2.heap.size := Nat.lt_of_lt_of_le z0 hb2.size; have y1 : w.heap.size + 1 < w2.heap.size := Nat.lt_of_lt_of_le z1 hb2.size; clear hb2)
      | (go_at_call 49; refine (HBI.out _ HB2.out).mono ?_; rintro e w3 ⟨rfl, hb3⟩; have p0 := bx_below q0 y0 hb3; have p1 := bx_below q1 y1 hb3; have h1 : (∀ o, w3.frozen? ⟨w.heap.size + 1, o, none⟩ = false) := (fun o => (by rw [(bcell hb3).2 _ o y1]; exact g1 o)); have HB3 : Hid (Below w.heap.size w w3) := HB2.out.trans (hb3.mono HB2.out.size); have z3 : w.heap.size + 1 < w3.heap.size := Nat.lt_of_lt_of_le y1 hb3.size; clear hb3))
    all_goals (go_wp2_with fail)
    all_goals (refine bodyPost_ret (v := .agg #[.int .i64 0, .int .i64 (R - done.length - D)]) (by simp [results, Try.results15, go_sem, p1]) rfl ⟨by rw [HVV.out], ?_⟩)
    all_goals (have hB1 := HB3.out; clear k0 k1 f1 q0 q1 g1 p0 p1 h1 HB3 HB2 HB1; go_grown)
  · have hv := HV1.out hF
    subst hv
    have hF2 : (F == 0) = false := by simpa using hF
    clear HV1 HV2 HOk HR2 HBI HRE k0 hF
    go_wp2_with fail
    refine bodyPost_ret (v := .agg #[.int .i64 F, .int .i64 0]) (by simp [results, Try.results15, go_sem, k1]) rfl ⟨rfl, ?_⟩
    have hB1 := HB1.out
    clear k1 f1 HB1
    go_grown
end Go.Proofs.Ytnbcefdfdonljaa
