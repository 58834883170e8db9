/- What program and model make of a sub that is closed, over letters; no condition but that there are at most a million parts. Written by mkmsv.py. -/
import Derived.Test.YtlicopeejphgaaoRows
import Derived.Test.YtlicopeejphgaaoBase
import Derived.Test.YtlicopeejphgaaoMem
import Derived.Test.YtlicopeejphgaaoHBase
import Derived.Test.YtlicopeejphgaaoHSub
import Derived.Test.YtlicopeejphgaaoSubO
import Derived.Test.YtlicopeejphgaaoHSubV
import Derived.Test.YtlicopeejphgaaoSubDef
import Derived.Test.YtlicopeejphgaaoSubClose0
import Derived.Test.YtlicopeejphgaaoSubCloseS
import Derived.Test.YtlicopeejphgaaoSubCloseI
namespace Go.Proofs.Ytlicopeejphgaao
open Go.RowKit
set_option linter.unusedVariables false
set_option maxRecDepth 8000

theorem sCloseSubV (x : DSub) (ua : Int) (ub : Int) (uc : Bool) (ud : Int) (ue : Int) (uf : Int) (ug : Int) (uh : Int) (ui : Int) (uj : Option Addr) (uq : Nat) (ur : Nat) (uk : Int) (ul : Int) (um : Option Addr) (us : Nat) (ut : Nat) (un : Int) (uo : Int) (up : Int) (w : World) (B : Nat) (hr : shSub.Rd w B x [.int .i64 ua, .int .i64 ub, .bool uc, .int .i64 ud, .int .i64 ue, .int .i64 uf, .int .i64 ug, .int .i64 uh, .int .i64 ui, .slice uj uq ur, .int .i64 uk, .int .i64 ul, .slice um us ut, .int .i64 un, .int .i64 uo, .int .i64 up]) (hB : B ≤ w.heap.size) (hT : totSub x ≤ 1048576) :
    Calls Try.prog 16 #[.agg #[.int .i64 ua, .int .i64 ub, .bool uc, .int .i64 ud, .int .i64 ue, .int .i64 uf, .int .i64 ug, .int .i64 uh, .int .i64 ui, .slice uj uq ur, .int .i64 uk, .int .i64 ul, .slice um us ut, .int .i64 un, .int .i64 uo, .int .i64 up]] w fun e w' => ∃ (va : Int) (vb : Int) (vc : Bool) (vd : Int) (ve : Int) (vf : Int) (vg : Int) (vh : Int) (vi : Int) (vj : Option Addr) (vq : Nat) (vr : Nat) (vk : Int) (vl : Int) (vm : Option Addr) (vs : Nat) (vt : Nat) (vn : Int) (vo : Int) (vp : Int), e = .returned (.agg #[.int .i64 (subF x), .int .i64 va, .int .i64 vb, .bool vc, .int .i64 vd, .int .i64 ve, .int .i64 vf, .int .i64 vg, .int .i64 vh, .int .i64 vi, .slice vj vq vr, .int .i64 vk, .int .i64 vl, .slice vm vs vt, .int .i64 vn, .int .i64 vo, .int .i64 vp]) ∧ Own w' w.heap.size w'.heap.size shSubO (clsV x) [.int .i64 va, .int .i64 vb, .bool vc, .int .i64 vd, .int .i64 ve, .int .i64 vf, .int .i64 vg, .int .i64 vh, .int .i64 vi, .slice vj vq vr, .int .i64 vk, .int .i64 vl, .slice vm vs vt, .int .i64 vn, .int .i64 vo, .int .i64 vp] ∧ Below w.heap.size w w' := by
  obtain ⟨u, v, e, -, h⟩ := sub_cells hr
  rw [e]
  refine (sCloseSub x u v w B h hB hT).mono ?_
  rintro e w' ⟨u2, v2, he, ho, hb⟩
  obtain ⟨ua, uc, va, vc, rfl, rfl⟩ := rd_SubG (rdO_Sub (ho.rd (Nat.le_refl _)))
  exact ⟨_, _, _, _, _, _, _, _, _, _, _, _, _, _, _, _, _, _, _, _, he, ho, hb⟩
theorem iCloseSubV (x : DSub) (ua : Int) (ub : Int) (uc : Bool) (ud : Int) (ue : Int) (uf : Int) (ug : Int) (uh : Int) (ui : Int) (uj : Option Addr) (uq : Nat) (ur : Nat) (uk : Int) (ul : Int) (um : Option Addr) (us : Nat) (ut : Nat) (un : Int) (uo : Int) (up : Int) (w : World) (B : Nat) (hr : shSub.Rd w B x [.int .i64 ua, .int .i64 ub, .bool uc, .int .i64 ud, .int .i64 ue, .int .i64 uf, .int .i64 ug, .int .i64 uh, .int .i64 ui, .slice uj uq ur, .int .i64 uk, .int .i64 ul, .slice um us ut, .int .i64 un, .int .i64 uo, .int .i64 up]) (hB : B ≤ w.heap.size) (hT : totSub x ≤ 1048576) :
    Calls Try.prog 17 #[.agg #[.int .i64 ua, .int .i64 ub, .bool uc, .int .i64 ud, .int .i64 ue, .int .i64 uf, .int .i64 ug, .int .i64 uh, .int .i64 ui, .slice uj uq ur, .int .i64 uk, .int .i64 ul, .slice um us ut, .int .i64 un, .int .i64 uo, .int .i64 up]] w fun e w' => ∃ (va : Int) (vb : Int) (vc : Bool) (vd : Int) (ve : Int) (vf : Int) (vg : Int) (vh : Int) (vi : Int) (vj : Option Addr) (vq : Nat) (vr : Nat) (vk : Int) (vl : Int) (vm : Option Addr) (vs : Nat) (vt : Nat) (vn : Int) (vo : Int) (vp : Int), e = .returned (.agg #[.int .i64 (subF x), .int .i64 va, .int .i64 vb, .bool vc, .int .i64 vd, .int .i64 ve, .int .i64 vf, .int .i64 vg, .int .i64 vh, .int .i64 vi, .slice vj vq vr, .int .i64 vk, .int .i64 vl, .slice vm vs vt, .int .i64 vn, .int .i64 vo, .int .i64 vp]) ∧ Own w' w.heap.size w'.heap.size shSubO (clsV x) [.int .i64 va, .int .i64 vb, .bool vc, .int .i64 vd, .int .i64 ve, .int .i64 vf, .int .i64 vg, .int .i64 vh, .int .i64 vi, .slice vj vq vr, .int .i64 vk, .int .i64 vl, .slice vm vs vt, .int .i64 vn, .int .i64 vo, .int .i64 vp] ∧ Below w.heap.size w w' := by
  obtain ⟨u, v, e, -, h⟩ := sub_cells hr
  rw [e]
  refine (iCloseSub x u v w B h hB hT).mono ?_
  rintro e w' ⟨u2, v2, he, ho, hb⟩
  obtain ⟨ua, uc, va, vc, rfl, rfl⟩ := rd_SubG (rdO_Sub (ho.rd (Nat.le_refl _)))
  exact ⟨_, _, _, _, _, _, _, _, _, _, _, _, _, _, _, _, _, _, _, _, he, ho, hb⟩
end Go.Proofs.Ytlicopeejphgaao
