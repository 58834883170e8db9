/- Where the last byte of a gather without a fault ends, as the program's reachOf tells it (the same names stand in ConnImpl: never both in one text). -/
import Derived.Test.YtnbcefdfdonljaaRows
import Derived.Test.YtnbcefdfdonljaaBase
import Derived.Test.YtnbcefdfdonljaaBytes
import Derived.Test.YtnbcefdfdonljaaMem
import Derived.Test.YtnbcefdfdonljaaMemOpen
import Derived.Test.YtnbcefdfdonljaaMemRow
import Derived.Test.YtnbcefdfdonljaaGath
import Derived.Test.YtnbcefdfdonljaaImplGath
import Derived.Test.YtnbcefdfdonljaaSpecGath
import Derived.Test.YtnbcefdfdonljaaGathLaw
import Derived.Test.YtnbcefdfdonljaaGathByte
import Derived.Test.YtnbcefdfdonljaaBox
import Derived.Deep.DeepCutAuto
namespace Go.Proofs.Ytnbcefdfdonljaa
open Go.RowKit
set_option linter.unusedVariables false

def reachD (g : Gt) : Int := match g.2.1.getLast? with | none => (g.1.length : Int) | some p => p.1 + (p.2.1.length : Int)
theorem reach_nil {g : Gt} (h : g.2.1 = []) : reachD g = g.1.length := by unfold reachD; rw [h]; rfl
theorem reach_last {g : Gt} {k : Nat} (h : g.2.1.length = k + 1) (hk : k < g.2.1.length) : reachD g = g.2.1[k].1 + (g.2.1[k].2.1.length : Int) := by
  unfold reachD
  rw [List.getLast?_eq_getElem?, show g.2.1.length - 1 = k by omega, List.getElem?_eq_getElem hk]
theorem gt_inR {g : Gt} (h : gtFault g = 0) : g.1.length ≤ 400 ∧ g.2.1.length ≤ 40 ∧ ∀ p ∈ g.2.1, 0 < p.2.1.length ∧ 0 ≤ p.1 ∧ p.1 + p.2.1.length ≤ 400 := by
  obtain ⟨h1, h2, h3⟩ := gtFault_ok h
  refine ⟨h1, h2, fun p hp => ?_⟩
  obtain ⟨k, hk, rfl⟩ := List.getElem_of_mem hp
  have := h3 k hk
  exact ⟨this.2.2, this.1, this.2.1⟩
theorem reach_in {g : Gt} (h : gtFault g = 0) : 0 ≤ reachD g ∧ reachD g ≤ 400 := by
  obtain ⟨h1, h2, h3⟩ := gt_inR h
  unfold reachD
  split
  · exact ⟨by omega, by omega⟩
  · rename_i p hp
    have := h3 p (List.mem_of_getLast? hp)
    exact ⟨by omega, by omega⟩
set_option maxHeartbeats 1000000 in
theorem iReach (g : Gt) (v1 v2 : Value) (w : World) (B : Nat) (hr : gtS.Rd w B g [v1, v2]) (hB : B ≤ w.heap.size) (hg : gtFault g = 0) :
    Calls Try.prog 50 #[.agg #[v1, v2]] w fun e w' => e = .returned (.int .i64 (reachD g)) ∧ Below w.heap.size w w' := by
  obtain ⟨hg1, hg2, hg3⟩ := gt_inR hg
  obtain ⟨a1, c1, a2, c2, e0, -, r2⟩ := rd_gt hr
  simp only [List.cons.injEq, and_true] at e0
  obtain ⟨rfl, rfl⟩ := e0
  obtain ⟨dn, ps, ⟨⟩⟩ := g
  replace hg1 : dn.length ≤ 400 := hg1
  replace hg2 : ps.length ≤ 40 := hg2
  simp only at *
  rcases Nat.eq_zero_or_pos ps.length with h0 | h0
  · have e1 : ps = [] := List.length_eq_zero_iff.1 h0
    rw [reach_nil e1]
    rw [h0]
    show Calls _ _ _ _ fun e w' => e = .returned (.int .i64 (dn.length : Int)) ∧ _
    clear hr r2 hg hg3 h0 hg2
    generalize dn.length = n at *
    go_enter Try.func50, Try.ntmps50
    go_wp2_with fail
    go_ret
    exact ⟨rfl, by go_grown⟩
  · obtain ⟨k, hk⟩ : ∃ k, ps.length = k + 1 := ⟨ps.length - 1, by omega⟩
    have hkl : k < ps.length := by omega
    rw [reach_last (g := (dn, ps, ())) hk hkl]
    show Calls _ _ _ _ fun e w' => e = .returned (.int .i64 (ps[k].1 + (ps[k].2.1.length : Int))) ∧ _
    obtain ⟨_, _, e1, -, -, hp⟩ := rd_pcs r2
    obtain ⟨b, off, ad, c, ha, hb, z0, z1, -, hw⟩ := hp k hkl
    simp only [List.cons.injEq, Value.slice.injEq, and_true] at e1
    rw [← e1.1] at ha
    subst ha
    obtain ⟨q1, q2, q3⟩ := hg3 ps[k] (List.getElem_mem hkl)
    have HB2 : Hid (∀ W, Below w.heap.size w W → W.cell? ⟨b, off + k * 2, none⟩ = some (.int .i64 ps[k].1) ∧ W.cell? ⟨b, off + k * 2 + 1, none⟩ = some (.slice ad ps[k].2.1.length c)) := fun W hW => ⟨(hW.cell (p := ⟨b, off + k * 2, none⟩) (by dsimp only; omega)).trans z0, (hW.cell (p := ⟨b, off + k * 2 + 1, none⟩) (by dsimp only; omega)).trans z1⟩
    have hblt : b < w.heap.size := by omega
    rw [hk]
    clear hr r2 hg hg3 h0 hp e1 hw
    generalize ps[k].1 = at' at *
    generalize ps[k].2.1.length = n at *
    generalize dn.length = n9 at *
    have hs1 : IntKind.i64.wrap (((k + 1 : Nat) : Int) - 1) = (k : Int) := by simp only [IntKind.wrap, IntKind.bits, IntKind.signed]; simp; omega
    have hki : (k : Int) < ((k + 1 : Nat) : Int) := by omega
    have hk0 : (0 : Int) ≤ (k : Int) := by omega
    have hne : (((k + 1 : Nat) : Int) == 0) = false := by simp; omega
    have HC : Hid (∀ W, Calls Try.prog 45 #[.agg #[.int .i64 at', .slice ad n c]] W fun e w' => e = .returned (.int .i64 (at' + n)) ∧ Below W.heap.size W w') := fun W => iPieceEnd at' ad n c W (by omega) (by omega) (by omega)
    obtain ⟨m, hm⟩ : ∃ m, k + 1 = m := ⟨_, rfl⟩
    rw [hm] at hs1 hki hne ⊢
    clear hm hk hkl
    go_enter Try.func50, Try.ntmps50
    go_upto_region 3 with fail
    obtain ⟨y0, y1⟩ := HB2.out (w.alloc (.cells #[.slice a1 n9 c1, .slice (some ⟨b, off, none⟩) m c2] 26)) ((Below.refl _ _).alloc (Nat.le_refl _) _)
    go_wp2_with fail
    refine (HC.out _).mono ?_
    rintro e w1 ⟨rfl, hb1⟩
    go_wp2_with fail
    go_ret
    exact ⟨rfl, (bl_new hb1).1⟩
end Go.Proofs.Ytnbcefdfdonljaa
