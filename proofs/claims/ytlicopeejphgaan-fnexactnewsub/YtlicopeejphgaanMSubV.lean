/- Marks laid over subs and over answers with a sub, over letters; no condition but on lengths. Written by mkmsv.py. -/
import Derived.Test.YtlicopeejphgaanRows
import Derived.Test.YtlicopeejphgaanBase
import Derived.Test.YtlicopeejphgaanMem
import Derived.Test.YtlicopeejphgaanMemRow
import Derived.Test.YtlicopeejphgaanHBase
import Derived.Test.YtlicopeejphgaanHMark
import Derived.Test.YtlicopeejphgaanHSub
import Derived.Test.YtlicopeejphgaanSubO
import Derived.Test.YtlicopeejphgaanHSubV
import Derived.Test.YtlicopeejphgaanMSub
import Derived.Test.YtlicopeejphgaanBox
namespace Go.Proofs.Ytlicopeejphgaan
open Go.RowKit
set_option linter.unusedVariables false
set_option maxRecDepth 8000

theorem lMarkSubV (x : DSub) (ua : Int) (ub : Int) (uc : Bool) (ud : Int) (ue : Int) (uf : Int) (ug : Int) (uh : Int) (ui : Int) (uj : Option Addr) (uq : Nat) (ur : Nat) (uk : Int) (ul : Int) (um : Option Addr) (us : Nat) (ut : Nat) (un : Int) (uo : Int) (up : Int) (c : Int) (w : World) (lo hi : Nat) (ho : Own w lo hi shSubO x [.int .i64 ua, .int .i64 ub, .bool uc, .int .i64 ud, .int .i64 ue, .int .i64 uf, .int .i64 ug, .int .i64 uh, .int .i64 ui, .slice uj uq ur, .int .i64 uk, .int .i64 ul, .slice um us ut, .int .i64 un, .int .i64 uo, .int .i64 up]) (hT : totSub x ≤ 1048576) (hc0 : 0 ≤ c) (hc1 : c ≤ 1000000) :
    Calls Try.prog 71 #[.agg #[.int .i64 ua, .int .i64 ub, .bool uc, .int .i64 ud, .int .i64 ue, .int .i64 uf, .int .i64 ug, .int .i64 uh, .int .i64 ui, .slice uj uq ur, .int .i64 uk, .int .i64 ul, .slice um us ut, .int .i64 un, .int .i64 uo, .int .i64 up], .int .i64 c] w fun e w' => e = .returned (.int .i64 (c + (wtSub x : Nat))) ∧ Own w' lo hi shSubO (mkSub c x) [.int .i64 ua, .int .i64 ub, .bool uc, .int .i64 ud, .int .i64 ue, .int .i64 uf, .int .i64 ug, .int .i64 uh, .int .i64 ui, .slice uj uq ur, .int .i64 uk, .int .i64 ul, .slice um us ut, .int .i64 un, .int .i64 uo, .int .i64 up] ∧ Within lo hi w w' := by
  obtain ⟨u, v, e, e2, -⟩ := sub_cells (rdO_Sub (ho.rd (Nat.le_refl _)))
  rw [e2] at ho ⊢
  exact lMarkSub x u v c w lo hi ho hT hc0 hc1
theorem lHeldSubV (x : DSub) (ua : Int) (ub : Int) (uc : Bool) (ud : Int) (ue : Int) (uf : Int) (ug : Int) (uh : Int) (ui : Int) (uj : Option Addr) (uq : Nat) (ur : Nat) (uk : Int) (ul : Int) (um : Option Addr) (us : Nat) (ut : Nat) (un : Int) (uo : Int) (up : Int) (c : Int) (w : World) (B : Nat) (hr : shSubO.Rd w B (mkSub c x) [.int .i64 ua, .int .i64 ub, .bool uc, .int .i64 ud, .int .i64 ue, .int .i64 uf, .int .i64 ug, .int .i64 uh, .int .i64 ui, .slice uj uq ur, .int .i64 uk, .int .i64 ul, .slice um us ut, .int .i64 un, .int .i64 uo, .int .i64 up]) (hB : B ≤ w.heap.size) (hT : totSub x ≤ 1048576) (hc0 : 0 ≤ c) (hc1 : c ≤ 1000000) :
    Calls Try.prog 72 #[.agg #[.int .i64 ua, .int .i64 ub, .bool uc, .int .i64 ud, .int .i64 ue, .int .i64 uf, .int .i64 ug, .int .i64 uh, .int .i64 ui, .slice uj uq ur, .int .i64 uk, .int .i64 ul, .slice um us ut, .int .i64 un, .int .i64 uo, .int .i64 up], .int .i64 c] w fun e w' => e = .returned (.int .i64 (c + (wtSub x : Nat))) ∧ Below w.heap.size w w' := by
  obtain ⟨u, v, e, e2, -⟩ := sub_cells (rdO_Sub hr)
  rw [e2] at hr
  rw [e]
  exact lHeldSub x u v c w B hr hB hT hc0 hc1
set_option maxHeartbeats 2000000 in
theorem lEqSubResultV (q : Int) (x : DSub) (ua : Int) (ub : Int) (uc : Bool) (ud : Int) (ue : Int) (uf : Int) (ug : Int) (uh : Int) (ui : Int) (uj : Option Addr) (uq : Nat) (ur : Nat) (uk : Int) (ul : Int) (um : Option Addr) (us : Nat) (ut : Nat) (un : Int) (uo : Int) (up : Int) (va : Int) (vb : Int) (vc : Bool) (vd : Int) (ve : Int) (vf : Int) (vg : Int) (vh : Int) (vi : Int) (vj : Option Addr) (vq : Nat) (vr : Nat) (vk : Int) (vl : Int) (vm : Option Addr) (vs : Nat) (vt : Nat) (vn : Int) (vo : Int) (vp : Int) (w : World) (B : Nat) (hr : shSubO.Rd w B x [.int .i64 ua, .int .i64 ub, .bool uc, .int .i64 ud, .int .i64 ue, .int .i64 uf, .int .i64 ug, .int .i64 uh, .int .i64 ui, .slice uj uq ur, .int .i64 uk, .int .i64 ul, .slice um us ut, .int .i64 un, .int .i64 uo, .int .i64 up]) (hr' : shSubO.Rd w B x [.int .i64 va, .int .i64 vb, .bool vc, .int .i64 vd, .int .i64 ve, .int .i64 vf, .int .i64 vg, .int .i64 vh, .int .i64 vi, .slice vj vq vr, .int .i64 vk, .int .i64 vl, .slice vm vs vt, .int .i64 vn, .int .i64 vo, .int .i64 vp]) (hB : B ≤ w.heap.size) (hT : totSub x ≤ 1048576) :
    Calls Try.prog 32 #[.agg #[.int .i64 q, .int .i64 ua, .int .i64 ub, .bool uc, .int .i64 ud, .int .i64 ue, .int .i64 uf, .int .i64 ug, .int .i64 uh, .int .i64 ui, .slice uj uq ur, .int .i64 uk, .int .i64 ul, .slice um us ut, .int .i64 un, .int .i64 uo, .int .i64 up], .agg #[.int .i64 q, .int .i64 va, .int .i64 vb, .bool vc, .int .i64 vd, .int .i64 ve, .int .i64 vf, .int .i64 vg, .int .i64 vh, .int .i64 vi, .slice vj vq vr, .int .i64 vk, .int .i64 vl, .slice vm vs vt, .int .i64 vn, .int .i64 vo, .int .i64 vp]] w fun e w' => e = .returned (.bool true) ∧ Below w.heap.size w w' := by
  have HC : Hid (∀ W, Below w.heap.size w W → Calls Try.prog 29 #[.agg #[.int .i64 ua, .int .i64 ub, .bool uc, .int .i64 ud, .int .i64 ue, .int .i64 uf, .int .i64 ug, .int .i64 uh, .int .i64 ui, .slice uj uq ur, .int .i64 uk, .int .i64 ul, .slice um us ut, .int .i64 un, .int .i64 uo, .int .i64 up], .agg #[.int .i64 va, .int .i64 vb, .bool vc, .int .i64 vd, .int .i64 ve, .int .i64 vf, .int .i64 vg, .int .i64 vh, .int .i64 vi, .slice vj vq vr, .int .i64 vk, .int .i64 vl, .slice vm vs vt, .int .i64 vn, .int .i64 vo, .int .i64 vp]] W fun e w' => e = .returned (.bool true) ∧ Below W.heap.size W w') := fun W hW => lEqSubV x ua ub uc ud ue uf ug uh ui uj uq ur uk ul um us ut un uo up va vb vc vd ve vf vg vh vi vj vq vr vk vl vm vs vt vn vo vp W B (rdO_Sub (hr.below hB hW)) (rdO_Sub (hr'.below hB hW)) (Nat.le_trans hB hW.size) hT
  clear hr hr' hT
  go_enter Try.func32, Try.ntmps32
  go_wp2_with fail
  refine (HC.out _ (by go_grown)).mono ?_
  rintro e w1 ⟨rfl, hb1⟩
  go_wp2_with fail
  go_ret
  exact ⟨rfl, Below.trans (by go_grown) (hb1.mono (by simp; omega))⟩
set_option maxHeartbeats 2000000 in
theorem lMarkSubResultV (q : Int) (x : DSub) (ua : Int) (ub : Int) (uc : Bool) (ud : Int) (ue : Int) (uf : Int) (ug : Int) (uh : Int) (ui : Int) (uj : Option Addr) (uq : Nat) (ur : Nat) (uk : Int) (ul : Int) (um : Option Addr) (us : Nat) (ut : Nat) (un : Int) (uo : Int) (up : Int) (c : Int) (w : World) (lo hi : Nat) (ho : Own w lo hi shSubO x [.int .i64 ua, .int .i64 ub, .bool uc, .int .i64 ud, .int .i64 ue, .int .i64 uf, .int .i64 ug, .int .i64 uh, .int .i64 ui, .slice uj uq ur, .int .i64 uk, .int .i64 ul, .slice um us ut, .int .i64 un, .int .i64 uo, .int .i64 up]) (hhi : hi ≤ w.heap.size) (hT : totSub x ≤ 1048576) (hc0 : 0 ≤ c) (hc1 : c ≤ 1000000) :
    Calls Try.prog 33 #[.agg #[.int .i64 q, .int .i64 ua, .int .i64 ub, .bool uc, .int .i64 ud, .int .i64 ue, .int .i64 uf, .int .i64 ug, .int .i64 uh, .int .i64 ui, .slice uj uq ur, .int .i64 uk, .int .i64 ul, .slice um us ut, .int .i64 un, .int .i64 uo, .int .i64 up], .int .i64 c] w fun e w' => e = .returned (.int .i64 (c + (wtSub x : Nat))) ∧ Own w' lo hi shSubO (mkSub c x) [.int .i64 ua, .int .i64 ub, .bool uc, .int .i64 ud, .int .i64 ue, .int .i64 uf, .int .i64 ug, .int .i64 uh, .int .i64 ui, .slice uj uq ur, .int .i64 uk, .int .i64 ul, .slice um us ut, .int .i64 un, .int .i64 uo, .int .i64 up] ∧ Within lo hi w w' := by
  have HC : Hid (∀ W, Below w.heap.size w W → Calls Try.prog 71 #[.agg #[.int .i64 ua, .int .i64 ub, .bool uc, .int .i64 ud, .int .i64 ue, .int .i64 uf, .int .i64 ug, .int .i64 uh, .int .i64 ui, .slice uj uq ur, .int .i64 uk, .int .i64 ul, .slice um us ut, .int .i64 un, .int .i64 uo, .int .i64 up], .int .i64 c] W fun e w' => e = .returned (.int .i64 (c + (wtSub x : Nat))) ∧ Own w' lo hi shSubO (mkSub c x) [.int .i64 ua, .int .i64 ub, .bool uc, .int .i64 ud, .int .i64 ue, .int .i64 uf, .int .i64 ug, .int .i64 uh, .int .i64 ui, .slice uj uq ur, .int .i64 uk, .int .i64 ul, .slice um us ut, .int .i64 un, .int .i64 uo, .int .i64 up] ∧ Within lo hi W w') := fun W hW => lMarkSubV x ua ub uc ud ue uf ug uh ui uj uq ur uk ul um us ut un uo up c W lo hi (Own.keep ho fun b h1 h2 => hW.block b (by omega)) hT hc0 hc1
  clear ho
  generalize mkSub c x = M at *
  generalize wtSub x = wq at *
  go_enter Try.func33, Try.ntmps33
  go_wp2_with fail
  refine (HC.out _ (by go_grown)).mono ?_
  rintro e w1 ⟨rfl, ho1, hw1⟩
  have HO1 : Hid _ := ho1
  have HW1 : Hid (Within lo hi w w1) := (Within.below ((Below.refl _ _).alloc (Nat.le_refl _) _)).trans hw1
  clear ho1 hw1
  go_wp2_with fail
  go_ret
  exact ⟨rfl, HO1.out, HW1.out⟩
set_option maxHeartbeats 2000000 in
theorem lHeldSubResultV (q : Int) (x : DSub) (ua : Int) (ub : Int) (uc : Bool) (ud : Int) (ue : Int) (uf : Int) (ug : Int) (uh : Int) (ui : Int) (uj : Option Addr) (uq : Nat) (ur : Nat) (uk : Int) (ul : Int) (um : Option Addr) (us : Nat) (ut : Nat) (un : Int) (uo : Int) (up : Int) (c : Int) (w : World) (B : Nat) (hr : shSubO.Rd w B (mkSub c x) [.int .i64 ua, .int .i64 ub, .bool uc, .int .i64 ud, .int .i64 ue, .int .i64 uf, .int .i64 ug, .int .i64 uh, .int .i64 ui, .slice uj uq ur, .int .i64 uk, .int .i64 ul, .slice um us ut, .int .i64 un, .int .i64 uo, .int .i64 up]) (hB : B ≤ w.heap.size) (hT : totSub x ≤ 1048576) (hc0 : 0 ≤ c) (hc1 : c ≤ 1000000) :
    Calls Try.prog 34 #[.agg #[.int .i64 q, .int .i64 ua, .int .i64 ub, .bool uc, .int .i64 ud, .int .i64 ue, .int .i64 uf, .int .i64 ug, .int .i64 uh, .int .i64 ui, .slice uj uq ur, .int .i64 uk, .int .i64 ul, .slice um us ut, .int .i64 un, .int .i64 uo, .int .i64 up], .int .i64 c] w fun e w' => e = .returned (.int .i64 (c + (wtSub x : Nat))) ∧ Below w.heap.size w w' := by
  have HC : Hid (∀ W, Below w.heap.size w W → Calls Try.prog 72 #[.agg #[.int .i64 ua, .int .i64 ub, .bool uc, .int .i64 ud, .int .i64 ue, .int .i64 uf, .int .i64 ug, .int .i64 uh, .int .i64 ui, .slice uj uq ur, .int .i64 uk, .int .i64 ul, .slice um us ut, .int .i64 un, .int .i64 uo, .int .i64 up], .int .i64 c] W fun e w' => e = .returned (.int .i64 (c + (wtSub x : Nat))) ∧ Below W.heap.size W w') := fun W hW => lHeldSubV x ua ub uc ud ue uf ug uh ui uj uq ur uk ul um us ut un uo up c W B (hr.below hB hW) (Nat.le_trans hB hW.size) hT hc0 hc1
  clear hr hT hB
  generalize wtSub x = wq at *
  have hp : 0 ≤ c + (wq : Int) := by omega
  go_enter Try.func34, Try.ntmps34
  go_wp2_with fail
  refine (HC.out _ (by go_grown)).mono ?_
  rintro e w1 ⟨rfl, hb⟩
  go_wp2_with fail
  go_ret
  exact ⟨rfl, Below.trans (by go_grown) (hb.mono (by simp))⟩
end Go.Proofs.Ytlicopeejphgaan
