/- What the model's MissingOf answers; what was in memory stays; no condition but that there are at most a million bytes. -/
import Derived.Test.YtnbcefdfdonljaaRows
import Derived.Test.YtnbcefdfdonljaaBase
import Derived.Test.YtnbcefdfdonljaaBytes
import Derived.Test.YtnbcefdfdonljaaMem
import Derived.Test.YtnbcefdfdonljaaMemOpen
import Derived.Test.YtnbcefdfdonljaaMemRow
import Derived.Test.YtnbcefdfdonljaaGath
import Derived.Test.YtnbcefdfdonljaaImplGath
import Derived.Test.YtnbcefdfdonljaaSpecGath
import Derived.Test.YtnbcefdfdonljaaGathLaw
import Derived.Test.YtnbcefdfdonljaaGathByte
import Derived.Test.YtnbcefdfdonljaaGathHold
import Derived.Test.YtnbcefdfdonljaaBox
import Derived.Test.YtnbcefdfdonljaaGathMiss
import Derived.Deep.RegionHeld3
import Derived.Deep.DeepCutAuto
namespace Go.Proofs.Ytnbcefdfdonljaa
open Go.RowKit
set_option linter.unusedVariables false

set_option maxHeartbeats 2000000 in
theorem sMissingOf (g : Gt) (v1 v2 : Value) (w : World) (B : Nat) (hr : gtS.Rd w B g [v1, v2]) (hB : B ≤ w.heap.size) (hT : gtTot g ≤ 1048576) :
    Calls Try.prog 16 #[.agg #[v1, v2]] w fun e w' => e = .returned (.agg #[.int .i64 (gtFault g), .int .i64 (missV g)]) ∧ Below w.heap.size w w' := by
  obtain ⟨a1, c1, a2, c2, e0, r1, r2⟩ := rd_gt hr
  simp only [List.cons.injEq, and_true] at e0
  obtain ⟨rfl, rfl⟩ := e0
  have hTp : pcsTot g.2.1 ≤ 1048576 := by unfold gtTot at hT; omega
  have hD : dsum g.2.1 ≤ 1048576 := by unfold pcsTot at hTp; omega
  have HR2 : Hid (∀ W, Below w.heap.size w W → pcsS.Rd W B g.2.1 [.slice a2 g.2.1.length c2]) := fun W hW => r2.below hB hW
  have HC : Hid (∀ W, Below w.heap.size w W → ∀ p, (∀ o, W.cell? ⟨p, o, none⟩ = (#[.slice a1 g.1.length c1, .slice a2 g.2.1.length c2] : Array Value)[o]?) → Calls Try.prog 51 #[.pointer (some ⟨p, 0, none⟩)] W fun e w' => e = .returned (.int .i64 (gtFault g)) ∧ Below W.heap.size W w') :=
    fun W hW p hp => sL3Fault g _ _ p W B (hr.below hB hW) (Nat.le_trans hB hW.size) (small_of hT) hp
  have HBI : Hid (∀ W, Below w.heap.size w W → ∀ p, (∀ o, W.cell? ⟨p, o, none⟩ = (#[.slice a1 g.1.length c1, .slice a2 g.2.1.length c2] : Array Value)[o]?) → Calls Try.prog 52 #[.pointer (some ⟨p, 0, none⟩)] W fun e w' => e = .returned (.int .i64 (dsum g.2.1)) ∧ Below W.heap.size W w') :=
    fun W hW p hp => (sL3Held g _ _ p W B (hr.below hB hW) (Nat.le_trans hB hW.size) hT hp).mono (by rintro e w' ⟨rfl, hw⟩; exact ⟨rfl, bl_of hw⟩)
  have HV1 : Hid (gtFault g ≠ 0 → missV g = 0) := fun h => missV_1 h
  have HV2 : Hid (gtFault g = 0 → g.2.1.length = 0 → missV g = 0) := fun h hz => missV_2 h hz
  have HV3 : Hid (gtFault g = 0 → ∀ n (hz : g.2.1.length = n + 1), missV g = (g.2.1[n]'(by omega)).1 + (g.2.1[n]'(by omega)).2.1.length - g.1.length - dsum g.2.1) := fun h n hz => missV_3 h n hz
  have HOk : Hid (gtFault g = 0 → g.1.length ≤ 400 ∧ g.2.1.length ≤ 40 ∧ ∀ k (hk : k < g.2.1.length), 0 ≤ g.2.1[k].1 ∧ g.2.1[k].1 + g.2.1[k].2.1.length ≤ 400 ∧ 0 < g.2.1[k].2.1.length) := fun h => gtFault_ok h
  clear hr r1 r2 hT hTp
  obtain ⟨done, ps, _⟩ := g
  simp only at *
  generalize missV (done, ps, ()) = V at *
  generalize gtFault (done, ps, ()) = F at *
  generalize dsum ps = D at *
  go_enter Try.func16, Try.ntmps16
  go_wp2_with fail
  refine (HC.out _ (by go_grown) w.heap.size (fun o => by simp [go_sem])).mono ?_
  rintro e w1 ⟨rfl, hb1⟩
  have hz := hb1.size
  simp at hz
  have k0 : ∀ o, w1.cell? ⟨w.heap.size, o, none⟩ = (#[.slice a1 done.length c1, .slice a2 ps.length c2] : Array Value)[o]? := fun o => by rw [(bcell hb1).1 _ o (by simp; omega)]; simp [go_sem]
  have k1 : ∀ o, w1.cell? ⟨w.heap.size + 1, o, none⟩ = (#[.int .i64 0, .int .i64 0] : Array Value)[o]? := fun o => by rw [(bcell hb1).1 _ o (by simp)]; simp [go_sem]
  have f1 : ∀ o, w1.frozen? ⟨w.heap.size + 1, o, none⟩ = false := fun o => by rw [(bcell hb1).2 _ o (by simp)]; simp [go_sem]
  have HB1 : Hid (Below w.heap.size w w1) := Below.trans (by go_grown) (hb1.mono (by simp; omega))
  have z1 : w.heap.size + 1 < w1.heap.size := by omega
  clear hb1 hz HC
  by_cases hF : F = 0
  · subst hF
    obtain ⟨o1, o2, hok⟩ := HOk.out (by first | rfl | trivial)
    by_cases hn : ps.length = 0
    · have hv := HV2.out (by first | rfl | trivial) hn
      subst hv
      clear HV1 HV2 HV3 HOk HR2 HBI hok
      rw [hn] at k0
      go_wp2_with fail
      refine bodyPost_ret (v := .agg #[.int .i64 0, .int .i64 0]) (by simp [results, Try.results16, go_sem, k1]) rfl ⟨rfl, ?_⟩
      have hB1 := HB1.out
      clear k0 k1 f1 HB1
      go_grown
    · obtain ⟨n, hn1⟩ : ∃ n, ps.length = n + 1 := ⟨ps.length - 1, by omega⟩
      have hv := HV3.out (by first | rfl | trivial) n hn1
      obtain ⟨_, _, e1, -, -, hp⟩ := rd_pcs (HR2.out w1 HB1.out)
      obtain ⟨b, off, ad, c, ha, hb, y0, y1, -, -⟩ := hp n (by omega)
      simp only [List.cons.injEq, Value.slice.injEq, and_true, true_and] at e1
      rw [← e1.1] at ha
      subst ha
      have hko := hok n (by omega)
      clear HV1 HV2 HV3 HOk hok hp e1 HR2 hn
      generalize ps[n].1 = at' at *
      generalize ps[n].2.1.length = m at *
      rw [hn1] at k0 HBI
      have HVV : Hid _ := hv
      obtain ⟨ko1, ko2, ko3⟩ := hko
      have hpos : ((n : Int) + 1 == 0) = false := by simp; omega
      have wx : IntKind.i64.wrap (at' + (m : Int)) = at' + (m : Int) := by rw [IntKind.wrap_i64]; omega
      have wz : IntKind.i64.wrap (at' + (m : Int) - (done.length : Int)) = at' + (m : Int) - (done.length : Int) := by rw [IntKind.wrap_i64]; omega
      have wy : IntKind.i64.wrap (at' + (m : Int) - (done.length : Int) - (D : Int)) = at' + (m : Int) - (done.length : Int) - (D : Int) := by rw [IntKind.wrap_i64]; omega
      clear hv
      go_wp2_with fail
      obtain ⟨w2, hw2⟩ : ∃ W, W = w1.alloc (.cells #[.int .i64 at', .slice ad m c] 87) := ⟨_, rfl⟩
      rw [← hw2]
      have hb2 : Below w1.heap.size w1 w2 := by rw [hw2]; exact (Below.refl _ _).alloc (Nat.le_refl _) _
      have q0 := bx_below k0 (by omega) hb2
      have q1 := bx_below k1 z1 hb2
      have q2 : ∀ o, w2.cell? ⟨w1.heap.size, o, none⟩ = (#[.int .i64 at', .slice ad m c] : Array Value)[o]? := fun o => by rw [hw2]; simp
      have g1 : ∀ o, w2.frozen? ⟨w.heap.size + 1, o, none⟩ = false := fun o => by rw [(bcell hb2).2 _ o (by omega)]; exact f1 o
      have HB2 : Hid (Below w.heap.size w w2) := HB1.out.trans (hb2.mono HB1.out.size)
      have z2 : w.heap.size + 1 < w2.heap.size := Nat.lt_of_lt_of_le z1 hb2.size
      have z4 : w1.heap.size < w2.heap.size := by rw [hw2]; simp
      clear hb2 hw2 k0 k1 f1 HB1 y0 y1
      have hne : ¬ (w.heap.size + 1 = w1.heap.size) := by omega
      go_region_held3 (fun w' => w'.cell? ⟨w.heap.size, 0, none⟩ = some (.slice a1 done.length c1) ∧ w'.cell? ⟨w1.heap.size, 0, none⟩ = some (.int .i64 at') ∧ w'.cell? ⟨w1.heap.size, 1, none⟩ = some (.slice ad m c)) (first | go_keep)
        (first
        | (go_at_call 52; refine (HBI.out _ (HB2.out.trans (Below.drew (Below.refl _ _))) w.heap.size (fun o => (by simp [go_sem, q0]))).mono ?_; rintro e w3 ⟨rfl, hb3⟩; replace hb3 := bl_drew hb3; have p0 := bx_below q0 (by omega) hb3; have p1 := bx_below q1 z2 hb3; have p2 := bx_below q2 z4 hb3; have h1 : (∀ o, w3.frozen? ⟨w.heap.size + 1, o, none⟩ = false) := (fun o => (by rw [(bcell hb3).2 _ o z2]; exact g1 o)); have HB3 : Hid (Below w.heap.size w w3) := HB2.out.trans (hb3.mono HB2.out.size); have z3 : w.heap.size + 1 < w3.heap.size := Nat.lt_of_lt_of_le z2 hb3.size; clear hb3))
      all_goals (go_wp2_with fail)
      all_goals (refine bodyPost_ret (v := .agg #[.int .i64 0, .int .i64 (at' + m - done.length - D)]) (by simp [results, Try.results16, go_sem, p1]) rfl ⟨by rw [HVV.out], ?_⟩)
      all_goals (have hB1 := HB3.out; clear q0 q1 q2 g1 p0 p1 p2 h1 HB3 HB2; go_grown)
  · have hv := HV1.out hF
    subst hv
    have hF2 : (F == 0) = false := by simpa using hF
    clear HV1 HV2 HV3 HOk HR2 HBI k0 hF
    go_wp2_with fail
    refine bodyPost_ret (v := .agg #[.int .i64 F, .int .i64 0]) (by simp [results, Try.results16, go_sem, k1]) rfl ⟨rfl, ?_⟩
    have hB1 := HB1.out
    clear k1 f1 HB1
    go_grown
end Go.Proofs.Ytnbcefdfdonljaa
