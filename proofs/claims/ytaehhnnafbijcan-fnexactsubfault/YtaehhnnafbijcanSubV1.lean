/- What program and model answer of subs, over cells that are letters; no condition but that there are at most a million parts. Written by mksubv.py. -/
import Derived.Test.YtaehhnnafbijcanRows
import Derived.Test.YtaehhnnafbijcanBase
import Derived.Test.YtaehhnnafbijcanMem
import Derived.Test.YtaehhnnafbijcanHBase
import Derived.Test.YtaehhnnafbijcanHSub
import Derived.Test.YtaehhnnafbijcanHSubV
import Derived.Test.YtaehhnnafbijcanSubDef
import Derived.Test.YtaehhnnafbijcanSubSpec2
import Derived.Test.YtaehhnnafbijcanSubImpl
namespace Go.Proofs.Ytaehhnnafbijcan
open Go.RowKit
set_option linter.unusedVariables false
set_option maxRecDepth 8000
theorem sSubFaultV (x : DSub) (ua : Int) (ub : Int) (uc : Bool) (ud : Int) (ue : Int) (uf : Int) (ug : Int) (uh : Int) (ui : Int) (uj : Option Addr) (uq : Nat) (ur : Nat) (uk : Int) (ul : Int) (um : Option Addr) (us : Nat) (ut : Nat) (un : Int) (uo : Int) (up : Int) (w : World) (B : Nat) (hr : shSub.Rd w B x [.int .i64 ua, .int .i64 ub, .bool uc, .int .i64 ud, .int .i64 ue, .int .i64 uf, .int .i64 ug, .int .i64 uh, .int .i64 ui, .slice uj uq ur, .int .i64 uk, .int .i64 ul, .slice um us ut, .int .i64 un, .int .i64 uo, .int .i64 up]) (hB : B ≤ w.heap.size) (hT : totSub x ≤ 1048576) :
    Calls Try.prog 26 #[.agg #[.int .i64 ua, .int .i64 ub, .bool uc, .int .i64 ud, .int .i64 ue, .int .i64 uf, .int .i64 ug, .int .i64 uh, .int .i64 ui, .slice uj uq ur, .int .i64 uk, .int .i64 ul, .slice um us ut, .int .i64 un, .int .i64 uo, .int .i64 up]] w fun e w' => e = .returned (.int .i64 (subF x)) ∧ Below w.heap.size w w' := by
  obtain ⟨u, v, e, -, h⟩ := sub_cells hr
  rw [e]
  exact sSubFault x u v w B h hB hT
theorem iSubFaultV (x : DSub) (ua : Int) (ub : Int) (uc : Bool) (ud : Int) (ue : Int) (uf : Int) (ug : Int) (uh : Int) (ui : Int) (uj : Option Addr) (uq : Nat) (ur : Nat) (uk : Int) (ul : Int) (um : Option Addr) (us : Nat) (ut : Nat) (un : Int) (uo : Int) (up : Int) (w : World) (B : Nat) (hr : shSub.Rd w B x [.int .i64 ua, .int .i64 ub, .bool uc, .int .i64 ud, .int .i64 ue, .int .i64 uf, .int .i64 ug, .int .i64 uh, .int .i64 ui, .slice uj uq ur, .int .i64 uk, .int .i64 ul, .slice um us ut, .int .i64 un, .int .i64 uo, .int .i64 up]) (hB : B ≤ w.heap.size) (hT : totSub x ≤ 1048576) :
    Calls Try.prog 28 #[.agg #[.int .i64 ua, .int .i64 ub, .bool uc, .int .i64 ud, .int .i64 ue, .int .i64 uf, .int .i64 ug, .int .i64 uh, .int .i64 ui, .slice uj uq ur, .int .i64 uk, .int .i64 ul, .slice um us ut, .int .i64 un, .int .i64 uo, .int .i64 up]] w fun e w' => e = .returned (.int .i64 (subF x)) ∧ Below w.heap.size w w' := by
  obtain ⟨u, v, e, -, h⟩ := sub_cells hr
  rw [e]
  exact iSubFault x u v w B h hB hT
end Go.Proofs.Ytaehhnnafbijcan
