/- The law's own helpers on subs, over cells that are letters; no condition but that there are at most a million parts. Written by mkhsv.py. -/
import Derived.Test.YtlicopeejphgaanRows
import Derived.Test.YtlicopeejphgaanBase
import Derived.Test.YtlicopeejphgaanBytes
import Derived.Test.YtlicopeejphgaanMem
import Derived.Test.YtlicopeejphgaanMemOpen
import Derived.Test.YtlicopeejphgaanMemRow
import Derived.Test.YtlicopeejphgaanHBase
import Derived.Test.YtlicopeejphgaanHFlight
import Derived.Test.YtlicopeejphgaanHSender
import Derived.Test.YtlicopeejphgaanHSpan
import Derived.Test.YtlicopeejphgaanHCatch
import Derived.Test.YtlicopeejphgaanHSub
import Derived.Test.YtlicopeejphgaanHOpen0
import Derived.Test.YtlicopeejphgaanHOpenS
namespace Go.Proofs.Ytlicopeejphgaan
open Go.RowKit Go.ChangeShapes Go.WideShapes Go.ChangeAt
set_option linter.unusedVariables false
set_option maxRecDepth 8000

theorem sub_cells {w : World} {B : Nat} {x : DSub} {ua : Int} {ub : Int} {uc : Bool} {ud : Int} {ue : Int} {uf : Int} {ug : Int} {uh : Int} {ui : Int} {uj : Option Addr} {uq : Nat} {ur : Nat} {uk : Int} {ul : Int} {um : Option Addr} {us : Nat} {ut : Nat} {un : Int} {uo : Int} {up : Int} (h : shSub.Rd w B x [.int .i64 ua, .int .i64 ub, .bool uc, .int .i64 ud, .int .i64 ue, .int .i64 uf, .int .i64 ug, .int .i64 uh, .int .i64 ui, .slice uj uq ur, .int .i64 uk, .int .i64 ul, .slice um us ut, .int .i64 un, .int .i64 uo, .int .i64 up]) : ∃ u v, (#[.int .i64 ua, .int .i64 ub, .bool uc, .int .i64 ud, .int .i64 ue, .int .i64 uf, .int .i64 ug, .int .i64 uh, .int .i64 ui, .slice uj uq ur, .int .i64 uk, .int .i64 ul, .slice um us ut, .int .i64 un, .int .i64 uo, .int .i64 up] : Array Value) = #[.int .i64 x.1, .int .i64 x.2.1, .bool x.2.2.1, .int .i64 x.2.2.2.1, .int .i64 x.2.2.2.2.1, .int .i64 x.2.2.2.2.2.1, .int .i64 x.2.2.2.2.2.2.1.1, .int .i64 x.2.2.2.2.2.2.1.2.1, .int .i64 x.2.2.2.2.2.2.1.2.2.1, u, .int .i64 x.2.2.2.2.2.2.2.1.1, .int .i64 x.2.2.2.2.2.2.2.1.2.1, v, .int .i64 x.2.2.2.2.2.2.2.2.1.1, .int .i64 x.2.2.2.2.2.2.2.2.1.2.1, .int .i64 x.2.2.2.2.2.2.2.2.1.2.2.1] ∧ [.int .i64 ua, .int .i64 ub, .bool uc, .int .i64 ud, .int .i64 ue, .int .i64 uf, .int .i64 ug, .int .i64 uh, .int .i64 ui, .slice uj uq ur, .int .i64 uk, .int .i64 ul, .slice um us ut, .int .i64 un, .int .i64 uo, .int .i64 up] = [.int .i64 x.1, .int .i64 x.2.1, .bool x.2.2.1, .int .i64 x.2.2.2.1, .int .i64 x.2.2.2.2.1, .int .i64 x.2.2.2.2.2.1, .int .i64 x.2.2.2.2.2.2.1.1, .int .i64 x.2.2.2.2.2.2.1.2.1, .int .i64 x.2.2.2.2.2.2.1.2.2.1, u, .int .i64 x.2.2.2.2.2.2.2.1.1, .int .i64 x.2.2.2.2.2.2.2.1.2.1, v, .int .i64 x.2.2.2.2.2.2.2.2.1.1, .int .i64 x.2.2.2.2.2.2.2.2.1.2.1, .int .i64 x.2.2.2.2.2.2.2.2.1.2.2.1] ∧ shSub.Rd w B x [.int .i64 x.1, .int .i64 x.2.1, .bool x.2.2.1, .int .i64 x.2.2.2.1, .int .i64 x.2.2.2.2.1, .int .i64 x.2.2.2.2.2.1, .int .i64 x.2.2.2.2.2.2.1.1, .int .i64 x.2.2.2.2.2.2.1.2.1, .int .i64 x.2.2.2.2.2.2.1.2.2.1, u, .int .i64 x.2.2.2.2.2.2.2.1.1, .int .i64 x.2.2.2.2.2.2.2.1.2.1, v, .int .i64 x.2.2.2.2.2.2.2.2.1.1, .int .i64 x.2.2.2.2.2.2.2.2.1.2.1, .int .i64 x.2.2.2.2.2.2.2.2.1.2.2.1] := by
  obtain ⟨u, v, e, -⟩ := rd_Sub h
  refine ⟨u, v, ?_, e, ?_⟩
  · exact congrArg List.toArray e
  · rw [← e]; exact h
theorem open_SubV {H : Type} {enc : TypeId × Value → H} {w : World} {base : Nat} {v : Value} (o : Value.okWide Try.prog w .any base 51 v) (hx : ∃ n y, DataW.trod enc Try.prog w 0 (fun _ => true) true n 51 v.cells.toList = some y) :
    ∃ (g : DSub) (ua : Int) (ub : Int) (uc : Bool) (ud : Int) (ue : Int) (uf : Int) (ug : Int) (uh : Int) (ui : Int) (uj : Option Addr) (uq : Nat) (ur : Nat) (uk : Int) (ul : Int) (um : Option Addr) (us : Nat) (ut : Nat) (un : Int) (uo : Int) (up : Int), v = .agg #[.int .i64 ua, .int .i64 ub, .bool uc, .int .i64 ud, .int .i64 ue, .int .i64 uf, .int .i64 ug, .int .i64 uh, .int .i64 ui, .slice uj uq ur, .int .i64 uk, .int .i64 ul, .slice um us ut, .int .i64 un, .int .i64 uo, .int .i64 up] ∧ shSub.Rd w w.heap.size g [.int .i64 ua, .int .i64 ub, .bool uc, .int .i64 ud, .int .i64 ue, .int .i64 uf, .int .i64 ug, .int .i64 uh, .int .i64 ui, .slice uj uq ur, .int .i64 uk, .int .i64 ul, .slice um us ut, .int .i64 un, .int .i64 uo, .int .i64 up] := by
  obtain ⟨g, u1, u2, e, h⟩ := open_Sub o hx
  obtain ⟨ua, uc, va, vc, rfl, rfl⟩ := rd_SubG h
  exact ⟨g, _, _, _, _, _, _, _, _, _, _, _, _, _, _, _, _, _, _, _, _, e, h⟩
theorem lSzSubV (x : DSub) (ua : Int) (ub : Int) (uc : Bool) (ud : Int) (ue : Int) (uf : Int) (ug : Int) (uh : Int) (ui : Int) (uj : Option Addr) (uq : Nat) (ur : Nat) (uk : Int) (ul : Int) (um : Option Addr) (us : Nat) (ut : Nat) (un : Int) (uo : Int) (up : Int) (left : Int) (w : World) (B : Nat) (hr : shSub.Rd w B x [.int .i64 ua, .int .i64 ub, .bool uc, .int .i64 ud, .int .i64 ue, .int .i64 uf, .int .i64 ug, .int .i64 uh, .int .i64 ui, .slice uj uq ur, .int .i64 uk, .int .i64 ul, .slice um us ut, .int .i64 un, .int .i64 uo, .int .i64 up]) (hB : B ≤ w.heap.size) (h0 : 0 ≤ left) (h1 : left ≤ 1048576) :
    Calls Try.prog 25 #[.agg #[.int .i64 ua, .int .i64 ub, .bool uc, .int .i64 ud, .int .i64 ue, .int .i64 uf, .int .i64 ug, .int .i64 uh, .int .i64 ui, .slice uj uq ur, .int .i64 uk, .int .i64 ul, .slice um us ut, .int .i64 un, .int .i64 uo, .int .i64 up], .int .i64 left] w fun e w' => e = .returned (.int .i64 (if left < totSub x then -1 else left - totSub x)) ∧ Below w.heap.size w w' := by
  obtain ⟨u, v, e, -, h⟩ := sub_cells hr
  rw [e]
  exact lSzSub x u v left w B h hB h0 h1
theorem lToSubV (x : DSub) (ua : Int) (ub : Int) (uc : Bool) (ud : Int) (ue : Int) (uf : Int) (ug : Int) (uh : Int) (ui : Int) (uj : Option Addr) (uq : Nat) (ur : Nat) (uk : Int) (ul : Int) (um : Option Addr) (us : Nat) (ut : Nat) (un : Int) (uo : Int) (up : Int) (w : World) (B : Nat) (hr : shSub.Rd w B x [.int .i64 ua, .int .i64 ub, .bool uc, .int .i64 ud, .int .i64 ue, .int .i64 uf, .int .i64 ug, .int .i64 uh, .int .i64 ui, .slice uj uq ur, .int .i64 uk, .int .i64 ul, .slice um us ut, .int .i64 un, .int .i64 uo, .int .i64 up]) (hB : B ≤ w.heap.size) (hT : totSub x ≤ 1048576) :
    Calls Try.prog 27 #[.agg #[.int .i64 ua, .int .i64 ub, .bool uc, .int .i64 ud, .int .i64 ue, .int .i64 uf, .int .i64 ug, .int .i64 uh, .int .i64 ui, .slice uj uq ur, .int .i64 uk, .int .i64 ul, .slice um us ut, .int .i64 un, .int .i64 uo, .int .i64 up]] w fun e w' => ∃ (va : Int) (vb : Int) (vc : Bool) (vd : Int) (ve : Int) (vf : Int) (vg : Int) (vh : Int) (vi : Int) (vj : Option Addr) (vq : Nat) (vr : Nat) (vk : Int) (vl : Int) (vm : Option Addr) (vs : Nat) (vt : Nat) (vn : Int) (vo : Int) (vp : Int), e = .returned (.agg #[.int .i64 va, .int .i64 vb, .bool vc, .int .i64 vd, .int .i64 ve, .int .i64 vf, .int .i64 vg, .int .i64 vh, .int .i64 vi, .slice vj vq vr, .int .i64 vk, .int .i64 vl, .slice vm vs vt, .int .i64 vn, .int .i64 vo, .int .i64 vp]) ∧ Own w' w.heap.size w'.heap.size shSub x [.int .i64 va, .int .i64 vb, .bool vc, .int .i64 vd, .int .i64 ve, .int .i64 vf, .int .i64 vg, .int .i64 vh, .int .i64 vi, .slice vj vq vr, .int .i64 vk, .int .i64 vl, .slice vm vs vt, .int .i64 vn, .int .i64 vo, .int .i64 vp] ∧ Below w.heap.size w w' := by
  obtain ⟨u, v, e, -, h⟩ := sub_cells hr
  rw [e]
  refine (lToSub x u v w B h hB hT).mono ?_
  rintro e w' ⟨u2, v2, he, ho, hb⟩
  obtain ⟨ua, uc, va, vc, rfl, rfl⟩ := rd_SubG (ho.rd (Nat.le_refl _))
  exact ⟨_, _, _, _, _, _, _, _, _, _, _, _, _, _, _, _, _, _, _, _, he, ho, hb⟩
theorem lEqSubV (x : DSub) (ua : Int) (ub : Int) (uc : Bool) (ud : Int) (ue : Int) (uf : Int) (ug : Int) (uh : Int) (ui : Int) (uj : Option Addr) (uq : Nat) (ur : Nat) (uk : Int) (ul : Int) (um : Option Addr) (us : Nat) (ut : Nat) (un : Int) (uo : Int) (up : Int) (va : Int) (vb : Int) (vc : Bool) (vd : Int) (ve : Int) (vf : Int) (vg : Int) (vh : Int) (vi : Int) (vj : Option Addr) (vq : Nat) (vr : Nat) (vk : Int) (vl : Int) (vm : Option Addr) (vs : Nat) (vt : Nat) (vn : Int) (vo : Int) (vp : Int) (w : World) (B : Nat) (hr : shSub.Rd w B x [.int .i64 ua, .int .i64 ub, .bool uc, .int .i64 ud, .int .i64 ue, .int .i64 uf, .int .i64 ug, .int .i64 uh, .int .i64 ui, .slice uj uq ur, .int .i64 uk, .int .i64 ul, .slice um us ut, .int .i64 un, .int .i64 uo, .int .i64 up]) (hr' : shSub.Rd w B x [.int .i64 va, .int .i64 vb, .bool vc, .int .i64 vd, .int .i64 ve, .int .i64 vf, .int .i64 vg, .int .i64 vh, .int .i64 vi, .slice vj vq vr, .int .i64 vk, .int .i64 vl, .slice vm vs vt, .int .i64 vn, .int .i64 vo, .int .i64 vp]) (hB : B ≤ w.heap.size) (hT : totSub x ≤ 1048576) :
    Calls Try.prog 29 #[.agg #[.int .i64 ua, .int .i64 ub, .bool uc, .int .i64 ud, .int .i64 ue, .int .i64 uf, .int .i64 ug, .int .i64 uh, .int .i64 ui, .slice uj uq ur, .int .i64 uk, .int .i64 ul, .slice um us ut, .int .i64 un, .int .i64 uo, .int .i64 up], .agg #[.int .i64 va, .int .i64 vb, .bool vc, .int .i64 vd, .int .i64 ve, .int .i64 vf, .int .i64 vg, .int .i64 vh, .int .i64 vi, .slice vj vq vr, .int .i64 vk, .int .i64 vl, .slice vm vs vt, .int .i64 vn, .int .i64 vo, .int .i64 vp]] w fun e w' => e = .returned (.bool true) ∧ Below w.heap.size w w' := by
  obtain ⟨u, v, e, -, h⟩ := sub_cells hr
  obtain ⟨u', v', e', -, h'⟩ := sub_cells hr'
  rw [e, e']
  exact lEqSub x u v u' v' w B h h' hB hT
end Go.Proofs.Ytlicopeejphgaan
