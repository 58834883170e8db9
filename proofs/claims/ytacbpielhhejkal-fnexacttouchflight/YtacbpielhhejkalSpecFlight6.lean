/- What the model makes of a flight that is touched; nothing that was in memory turns; no condition but that loads are of at most a million bytes. -/
import Derived.Test.YtacbpielhhejkalRows
import Derived.Test.YtacbpielhhejkalBase
import Derived.Test.YtacbpielhhejkalNum
import Derived.Test.YtacbpielhhejkalNumWalks
import Derived.Test.YtacbpielhhejkalMem
import Derived.Test.YtacbpielhhejkalHBase
import Derived.Test.YtacbpielhhejkalHFlight
import Derived.Test.YtacbpielhhejkalHSender
import Derived.Test.YtacbpielhhejkalFlightDef
import Derived.Test.YtacbpielhhejkalSpecFlight
import Derived.Test.YtacbpielhhejkalSpecFlight2
import Derived.Test.YtacbpielhhejkalHMark
import Derived.Test.YtacbpielhhejkalMFlight
import Derived.Test.YtacbpielhhejkalFlightSet
import Derived.Deep.DeepCutAuto
import Derived.Test.YtacbpielhhejkalBox
namespace Go.Proofs.Ytacbpielhhejkal
open Go.RowKit
set_option linter.unusedVariables false

theorem sMinD (a b : Int) (w : World) : Calls Try.prog 58 #[.int .i64 a, .int .i64 b] w fun e w' => e = .returned (.int .i64 (minD a b)) ∧ w' = w := by
  by_cases h : a < b
  · go_enter Try.func58, Try.ntmps58
    go_wp2
    go_ret
    exact ⟨ret_int (by simp [minD, h]), rfl⟩
  · go_enter Try.func58, Try.ntmps58
    go_wp2
    go_ret
    exact ⟨ret_int (by unfold minD; rw [if_neg (by omega)]), rfl⟩
set_option maxHeartbeats 4000000 in
theorem sL5Touch (l : List DFlight) (a : Option Addr) (n cap sb k : Nat) (now : Int) (w : World) (lo hi : Nat) (hn : l.length = n) (c3 : w.cell? ⟨sb, 3, none⟩ = some (.slice a n cap)) (ho : Own w lo hi shFlights l [.slice a n cap]) (hsb : ¬ (lo ≤ sb ∧ sb < hi)) (hk : k < n) (hL : n ≤ 1000) (hb0 : 0 ≤ now) (hb1 : now ≤ 1000000)
    (hS : ∀ (h : k < l.length), 1 ≤ l[k].2.2.2.2.1 ∧ l[k].2.2.2.2.1 ≤ 1000) :
    Calls Try.prog 43 #[.pointer (some ⟨sb, 0, none⟩), .int .i64 k, .int .i64 now] w fun e w' => e = .returned (.tuple #[]) ∧ Own w' lo hi shFlights (tchL l k now) [.slice a n cap] ∧ Within lo hi w w' := by
  have hkl : k < l.length := by omega
  have hs := hS hkl
  obtain ⟨pg, v, ea, p1, p2, q3, q4, -, fz, U3, U4⟩ := fl_at ho k hkl
  have o3 := U3 now (WalkArith.wf_i64 (by omega))
  have hk2 : k < (l.set k (l[k].1, l[k].2.1, l[k].2.2.1, now, l[k].2.2.2.2.1, ())).length := by simp; exact hkl
  obtain ⟨pg', v', ea', -, -, -, r4, -, fz', -, V4⟩ := fl_at o3 k hk2
  rw [ea] at ea'
  simp only [Option.some.injEq, Addr.mk.injEq, and_true] at ea'
  subst ea' ea
  rw [List.getElem_set_self] at r4 V4
  have HM : Hid (∀ y, y = minD 1000 (l[k].2.2.2.2.1 + 1) → (Lit.int .i64 y).wf = true) := fun y hy => by rw [hy]; unfold minD; split <;> exact WalkArith.wf_i64 (by omega)
  have HF : Hid (Own ((w.setCell ⟨pg, k * 5 + 3, none⟩ (.int .i64 now)).setCell ⟨pg, k * 5 + 4, none⟩ (.int .i64 (minD 1000 (l[k].2.2.2.2.1 + 1)))) lo hi shFlights (tchL l k now) [.slice (some ⟨pg, 0, none⟩) n cap]) := by
    have h := V4 (minD 1000 (l[k].2.2.2.2.1 + 1)) (HM.out _ rfl)
    rw [List.set_set] at h
    rw [tchL_at now hkl]; exact h
  have c3' : (w.setCell ⟨pg, k * 5 + 3, none⟩ (.int .i64 now)).cell? ⟨sb, 3, none⟩ = some (.slice (some ⟨pg, 0, none⟩) n cap) := by
    rw [World.cell?_setCell_other _ _ _ _ (by intro e; simp only [Addr.mk.injEq] at e; omega)]; exact c3
  have f3 := fz (k * 5 + 3)
  have f4 := fz' (k * 5 + 4)
  have HWI : Hid (∀ V, Within lo hi w V → ∀ y, Within lo hi w (V.setCell ⟨pg, k * 5 + 4, none⟩ y)) := fun V h y => h.trans (Within.grown grown_set (fun x e => by simp at e; omega))
  have HW3 : Hid (Within lo hi w (w.setCell ⟨pg, k * 5 + 3, none⟩ (.int .i64 now))) := Within.grown grown_set (fun x e => by simp at e; omega)
  clear ho o3 U3 U4 V4 fz fz' hS hk2 HM
  generalize tchL l k now = TL at *
  generalize l[k].2.2.2.1 = z3 at *
  generalize l[k].2.2.2.2.1 = z4 at *
  obtain ⟨s0, s1⟩ := hs
  have i0 : (0 : Int) ≤ (k : Int) := Int.natCast_nonneg _
  have i1 : (k : Int) < (n : Int) := by omega
  obtain ⟨W, hW⟩ : ∃ W, W = w.setCell ⟨pg, k * 5 + 3, none⟩ (.int .i64 now) := ⟨_, rfl⟩
  rw [← hW] at HF c3' r4 f4 HW3
  have HWW : Hid (W = w.setCell ⟨pg, k * 5 + 3, none⟩ (.int .i64 now)) := hW
  clear hW
  have WZ : Hid (IntKind.i64.wrap (z4 + 1) = z4 + 1) := by show _ = _; rw [IntKind.wrap_i64]; omega
  go_enter Try.func43, Try.ntmps43
  go_upto_region 1 with fail
  rw [← HWW.out]
  go_region_with (go_at_call 58; refine (sMinD _ _ _).mono ?_; rintro e w' ⟨rfl, hw⟩; subst w'; rw [WZ.out])
  all_goals (go_wp2_with fail; go_end0; refine ⟨rfl, ?_, ?_⟩)
  all_goals first
    | exact Own.keep HF.out (fun b _ _ => rfl)
    | exact (HWI.out W HW3.out _).trans (Within.below (Below.drew (Below.refl _ _)))
    | exact HWI.out W.drew (HW3.out.trans (Within.below (Below.drew (Below.refl _ _)))) _
end Go.Proofs.Ytacbpielhhejkal
