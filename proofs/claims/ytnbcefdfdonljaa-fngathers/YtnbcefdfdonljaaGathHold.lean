/- What HoldOf answers, of the program and of its model; what was in memory stays; no condition but that there are at most a million bytes. -/
import Derived.Test.YtnbcefdfdonljaaRows
import Derived.Test.YtnbcefdfdonljaaBase
import Derived.Test.YtnbcefdfdonljaaBytes
import Derived.Test.YtnbcefdfdonljaaMem
import Derived.Test.YtnbcefdfdonljaaMemOpen
import Derived.Test.YtnbcefdfdonljaaMemRow
import Derived.Test.YtnbcefdfdonljaaGath
import Derived.Test.YtnbcefdfdonljaaImplGath
import Derived.Test.YtnbcefdfdonljaaSpecGath
import Derived.Test.YtnbcefdfdonljaaGathLaw
namespace Go.Proofs.Ytnbcefdfdonljaa
open Go.RowKit
set_option linter.unusedVariables false

set_option maxHeartbeats 1000000 in
theorem iBytesIn (ps : List Pc) (v : Value) (w : World) (B : Nat) (hr : pcsS.Rd w B ps [v]) (hB : B ≤ w.heap.size) (hT : pcsTot ps ≤ 1048576) :
    Calls Try.prog 49 #[v] w fun e w' => e = .returned (.int .i64 (dsum ps)) ∧ Below w.heap.size w w' := by
  obtain ⟨a, cap, e, -, -, -⟩ := rd_pcs hr
  simp only [List.cons.injEq, and_true] at e
  subst e
  have hn1 : ps.length ≤ 1048576 := by unfold pcsTot at hT; omega
  have HD : Hid (∀ k, dsum (ps.take k) ≤ 1048576) := fun k => by have := dsum_le ps k; unfold pcsTot at hT; omega
  have HRd : Hid (∀ W, Below w.heap.size w W → pcsS.Rd W B ps [.slice a ps.length cap]) := fun W hW => hr.below hB hW
  clear hr hT
  go_enter Try.func49, Try.ntmps49
  go_wp2_with fail
  go_loopw [3, 8] (fun t i wr => ∃ (k : Nat) (x : Nat), k ≤ ps.length ∧ i = .int .i64 k ∧ t = .int .i64 x ∧ Hid (x = dsum (ps.take k)) ∧ Below w.heap.size w wr) (fun _ i _ => ps.length - (intOf i).toNat)
  case atStart => exact ⟨0, 0, Nat.zero_le _, rfl, rfl, rfl, Below.refl _ _⟩
  case round =>
    obtain ⟨k, x, hk, rfl, rfl, hx, hbl⟩ := hrel
    by_cases hlt : k < ps.length
    · obtain ⟨_, _, e1, -, -, hp⟩ := rd_pcs (HRd.out wr hbl)
      obtain ⟨b, off, ad, c, ha, hb, y0, y1, r3, hw⟩ := hp k hlt
      simp only [List.cons.injEq, Value.slice.injEq, and_true, true_and] at e1
      rw [← e1.1] at ha
      subst ha
      have HS : Hid (dsum (ps.take (k + 1)) = dsum (ps.take k) + ps[k].2.1.length) := dsum_take hlt
      have hx1 : x ≤ 1048576 := by rw [hx.out]; exact HD.out k
      have hx2 : x + ps[k].2.1.length ≤ 1048576 := by rw [hx.out, ← HS.out]; exact HD.out (k + 1)
      clear hp r3 e1
      generalize ps[k].1 = at' at *
      generalize ps[k].2.1.length = m at *
      have HB1 : Hid (Below w.heap.size w (wr.alloc (.cells #[.int .i64 at', .slice ad m c] 87))) := hbl.alloc hbl.size _
      clear hbl
      go_wp2_with fail
      go_roundw
      case rel => exact ⟨k + 1, x + m, by omega, by go_num, by go_num, (by rw [HS.out, ← hx.out] : x + m = dsum (ps.take (k + 1))), HB1.out⟩
      case measure => simp [intOf]; omega
    · obtain rfl : k = ps.length := by omega
      have hx' := hx.out
      rw [List.take_length] at hx'
      have HX : Hid _ := hx'
      clear hx hx'
      go_wp2_with fail
      go_ret
      exact ⟨ret_int (by rw [HX.out]), hbl⟩
set_option maxHeartbeats 1000000 in
theorem sL3Held (g : Gt) (v1 v2 : Value) (p : Nat) (w : World) (B : Nat) (hr : gtS.Rd w B g [v1, v2]) (hB : B ≤ w.heap.size) (hT : gtTot g ≤ 1048576)
    (hp : ∀ o, w.cell? ⟨p, o, none⟩ = (#[v1, v2] : Array Value)[o]?) :
    Calls Try.prog 52 #[.pointer (some ⟨p, 0, none⟩)] w fun e w' => e = .returned (.int .i64 (dsum g.2.1)) ∧ w' = w := by
  obtain ⟨a1, c1, a2, c2, e0, r1, r2⟩ := rd_gt hr
  simp only [List.cons.injEq, and_true] at e0
  obtain ⟨rfl, rfl⟩ := e0
  obtain ⟨done, ps, _⟩ := g
  simp only at *
  have hn1 : ps.length ≤ 1048576 := by unfold gtTot pcsTot at hT; simp only at hT; omega
  have HD : Hid (∀ k, dsum (ps.take k) ≤ 1048576) := fun k => by have := dsum_le ps k; unfold gtTot pcsTot at hT; simp only at hT; omega
  have HRd : Hid (pcsS.Rd w B ps [.slice a2 ps.length c2]) := r2
  have q1 := hp 0
  have q2 := hp 1
  simp at q1 q2
  clear hr hT r1 r2 hp
  go_enter Try.func52, Try.ntmps52
  go_wp2_with fail
  go_loopw [3, 4] (fun t i wr => ∃ (k : Nat) (x : Nat), k ≤ ps.length ∧ i = .int .i64 k ∧ t = .int .i64 x ∧ Hid (x = dsum (ps.take k)) ∧ wr = w) (fun _ i _ => ps.length - (intOf i).toNat)
  case atStart => exact ⟨0, 0, Nat.zero_le _, rfl, rfl, rfl, rfl⟩
  case round =>
    obtain ⟨k, x, hk, rfl, rfl, hx, rfl⟩ := hrel
    by_cases hlt : k < ps.length
    · obtain ⟨_, _, e1, -, -, hp⟩ := rd_pcs HRd.out
      obtain ⟨b, off, ad, c, ha, hb, y0, y1, r3, hw⟩ := hp k hlt
      simp only [List.cons.injEq, Value.slice.injEq, and_true, true_and] at e1
      rw [← e1.1] at ha
      subst ha
      have HS : Hid (dsum (ps.take (k + 1)) = dsum (ps.take k) + ps[k].2.1.length) := dsum_take hlt
      have hx1 : x ≤ 1048576 := by rw [hx.out]; exact HD.out k
      have hx2 : x + ps[k].2.1.length ≤ 1048576 := by rw [hx.out, ← HS.out]; exact HD.out (k + 1)
      clear hp r3 e1
      generalize ps[k].1 = at' at *
      generalize ps[k].2.1.length = m at *
      go_wp2_with fail
      go_roundw
      case rel => exact ⟨k + 1, x + m, by omega, by go_num, by go_num, (by rw [HS.out, ← hx.out] : x + m = dsum (ps.take (k + 1))), by first | rfl | trivial⟩
      case measure => simp [intOf]; omega
    · obtain rfl : k = ps.length := by omega
      have hx' := hx.out
      rw [List.take_length] at hx'
      have HX : Hid _ := hx'
      clear hx hx'
      go_wp2_with fail
      go_ret
      exact ⟨ret_int (by rw [HX.out]), rfl⟩
theorem small_of {g : Gt} (hT : gtTot g ≤ 1048576) : ∀ k (hk : k < g.2.1.length), g.2.1[k].2.1.length ≤ 1048576 := fun k hk => by have := dsum_at hk; unfold gtTot pcsTot at hT; omega
/-- What HoldOf tells. -/
def holdV (g : Gt) : Int := if gtFault g ≠ 0 then 0 else dsum g.2.1

set_option maxHeartbeats 1000000 in
theorem iHoldOf (g : Gt) (v1 v2 : Value) (w : World) (B : Nat) (hr : gtS.Rd w B g [v1, v2]) (hB : B ≤ w.heap.size) (hT : gtTot g ≤ 1048576) :
    Calls Try.prog 14 #[.agg #[v1, v2]] w fun e w' => e = .returned (.agg #[.int .i64 (gtFault g), .int .i64 (holdV g)]) ∧ Below w.heap.size w w' := by
  obtain ⟨a1, c1, a2, c2, e0, r1, r2⟩ := rd_gt hr
  simp only [List.cons.injEq, and_true] at e0
  obtain ⟨rfl, rfl⟩ := e0
  have hTp : pcsTot g.2.1 ≤ 1048576 := by unfold gtTot at hT; omega
  have HR2 : Hid (∀ W, Below w.heap.size w W → pcsS.Rd W B g.2.1 [.slice a2 g.2.1.length c2]) := fun W hW => r2.below hB hW
  have HC : Hid (∀ W, Below w.heap.size w W → Calls Try.prog 12 #[.agg #[.slice a1 g.1.length c1, .slice a2 g.2.1.length c2]] W fun e w' => e = .returned (.int .i64 (gtFault g)) ∧ Below W.heap.size W w') :=
    fun W hW => iGatherFault g _ W (Sh.Rd.mono (Nat.le_trans hB hW.size) _ _ _ (hr.below hB hW))
  have HV : Hid (holdV g = if gtFault g ≠ 0 then 0 else (dsum g.2.1 : Int)) := rfl
  clear hr r1 r2 hT
  generalize g.1.length = n1 at *
  generalize holdV g = V at *
  generalize gtFault g = F at *
  go_enter Try.func14, Try.ntmps14
  go_wp2_with fail
  refine (HC.out _ (by go_grown)).mono ?_
  rintro e w1 ⟨rfl, hb1⟩
  have hz := hb1.size
  simp at hz
  have k0 : ∀ o, w1.cell? ⟨w.heap.size, o, none⟩ = (#[.slice a1 n1 c1, .slice a2 g.2.1.length c2] : Array Value)[o]? := fun o => by rw [(bcell hb1).1 _ o (by simp; omega)]; simp [go_sem]
  have k1 : ∀ o, w1.cell? ⟨w.heap.size + 1, o, none⟩ = (#[.int .i64 0, .int .i64 0] : Array Value)[o]? := fun o => by rw [(bcell hb1).1 _ o (by simp)]; simp [go_sem]
  have f1 : ∀ o, w1.frozen? ⟨w.heap.size + 1, o, none⟩ = false := fun o => by rw [(bcell hb1).2 _ o (by simp)]; simp [go_sem]
  have HB1 : Hid (Below w.heap.size w w1) := Below.trans (by go_grown) (hb1.mono (by simp; omega))
  have z1 : w.heap.size + 1 < w1.heap.size := by omega
  clear hb1 hz HC
  by_cases hF : F = 0
  · subst hF
    have hv := HV.out
    rw [if_neg (by simp)] at hv
    subst hv
    go_wp2_with fail
    refine (iBytesIn g.2.1 _ w1 B (HR2.out _ HB1.out) (Nat.le_trans hB HB1.out.size) hTp).mono ?_
    rintro e w2 ⟨rfl, hb2⟩
    have q1 : ∀ o, w2.cell? ⟨w.heap.size + 1, o, none⟩ = (#[.int .i64 0, .int .i64 0] : Array Value)[o]? := fun o => by rw [(bcell hb2).1 _ o (by omega)]; exact k1 o
    have g1 : ∀ o, w2.frozen? ⟨w.heap.size + 1, o, none⟩ = false := fun o => by rw [(bcell hb2).2 _ o (by omega)]; exact f1 o
    have HB2 : Hid (Below w.heap.size w w2) := HB1.out.trans (hb2.mono HB1.out.size)
    clear hb2 k0 k1 f1 HB1 HR2 HV hTp
    go_wp2_with fail
    refine bodyPost_ret (v := .agg #[.int .i64 0, .int .i64 (dsum g.2.1)]) (by simp [results, Try.results14, go_sem, q1]) rfl ⟨rfl, ?_⟩
    have hB1 := HB2.out
    clear q1 g1 HB2
    go_grown
  · have hv := HV.out
    rw [if_pos hF] at hv
    subst hv
    have hF2 : (F == 0) = false := by simpa using hF
    clear HV HR2 k0 hF
    go_wp2_with fail
    refine bodyPost_ret (v := .agg #[.int .i64 F, .int .i64 0]) (by simp [results, Try.results14, go_sem, k1]) rfl ⟨rfl, ?_⟩
    have hB1 := HB1.out
    clear k1 f1 HB1
    go_grown

end Go.Proofs.Ytnbcefdfdonljaa
