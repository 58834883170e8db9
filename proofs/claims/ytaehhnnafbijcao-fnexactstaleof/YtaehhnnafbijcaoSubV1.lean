/- What program and model answer of subs, over cells that are letters; no condition but that there are at most a million parts. Written by mksubv.py. -/
import Derived.Test.YtaehhnnafbijcaoRows
import Derived.Test.YtaehhnnafbijcaoBase
import Derived.Test.YtaehhnnafbijcaoMem
import Derived.Test.YtaehhnnafbijcaoHBase
import Derived.Test.YtaehhnnafbijcaoHSub
import Derived.Test.YtaehhnnafbijcaoHSubV
import Derived.Test.YtaehhnnafbijcaoSubDef
import Derived.Test.YtaehhnnafbijcaoSubSpec2
import Derived.Test.YtaehhnnafbijcaoSubImpl
import Derived.Test.YtaehhnnafbijcaoSubImpl2
namespace Go.Proofs.Ytaehhnnafbijcao
open Go.RowKit
set_option linter.unusedVariables false
set_option maxRecDepth 8000
theorem sRoomOfV (x : DSub) (ua : Int) (ub : Int) (uc : Bool) (ud : Int) (ue : Int) (uf : Int) (ug : Int) (uh : Int) (ui : Int) (uj : Option Addr) (uq : Nat) (ur : Nat) (uk : Int) (ul : Int) (um : Option Addr) (us : Nat) (ut : Nat) (un : Int) (uo : Int) (up : Int) (w : World) (B : Nat) (hr : shSub.Rd w B x [.int .i64 ua, .int .i64 ub, .bool uc, .int .i64 ud, .int .i64 ue, .int .i64 uf, .int .i64 ug, .int .i64 uh, .int .i64 ui, .slice uj uq ur, .int .i64 uk, .int .i64 ul, .slice um us ut, .int .i64 un, .int .i64 uo, .int .i64 up]) (hB : B ≤ w.heap.size) (hT : totSub x ≤ 1048576) :
    Calls Try.prog 8 #[.agg #[.int .i64 ua, .int .i64 ub, .bool uc, .int .i64 ud, .int .i64 ue, .int .i64 uf, .int .i64 ug, .int .i64 uh, .int .i64 ui, .slice uj uq ur, .int .i64 uk, .int .i64 ul, .slice um us ut, .int .i64 un, .int .i64 uo, .int .i64 up]] w fun e w' => e = .returned (.agg #[.int .i64 (subF x), .int .i64 (roomV x)]) ∧ Below w.heap.size w w' := by
  obtain ⟨u, v, e, -, h⟩ := sub_cells hr
  rw [e]
  exact sRoomOf x u v w B h hB hT
theorem sStaleOfV (x : DSub) (ua : Int) (ub : Int) (uc : Bool) (ud : Int) (ue : Int) (uf : Int) (ug : Int) (uh : Int) (ui : Int) (uj : Option Addr) (uq : Nat) (ur : Nat) (uk : Int) (ul : Int) (um : Option Addr) (us : Nat) (ut : Nat) (un : Int) (uo : Int) (up : Int) (w : World) (B : Nat) (hr : shSub.Rd w B x [.int .i64 ua, .int .i64 ub, .bool uc, .int .i64 ud, .int .i64 ue, .int .i64 uf, .int .i64 ug, .int .i64 uh, .int .i64 ui, .slice uj uq ur, .int .i64 uk, .int .i64 ul, .slice um us ut, .int .i64 un, .int .i64 uo, .int .i64 up]) (hB : B ≤ w.heap.size) (hT : totSub x ≤ 1048576) :
    Calls Try.prog 13 #[.agg #[.int .i64 ua, .int .i64 ub, .bool uc, .int .i64 ud, .int .i64 ue, .int .i64 uf, .int .i64 ug, .int .i64 uh, .int .i64 ui, .slice uj uq ur, .int .i64 uk, .int .i64 ul, .slice um us ut, .int .i64 un, .int .i64 uo, .int .i64 up]] w fun e w' => e = .returned (.agg #[.int .i64 (subF x), .int .i64 (stlV x)]) ∧ Below w.heap.size w w' := by
  obtain ⟨u, v, e, -, h⟩ := sub_cells hr
  rw [e]
  exact sStaleOf x u v w B h hB hT
theorem iSubFaultV (x : DSub) (ua : Int) (ub : Int) (uc : Bool) (ud : Int) (ue : Int) (uf : Int) (ug : Int) (uh : Int) (ui : Int) (uj : Option Addr) (uq : Nat) (ur : Nat) (uk : Int) (ul : Int) (um : Option Addr) (us : Nat) (ut : Nat) (un : Int) (uo : Int) (up : Int) (w : World) (B : Nat) (hr : shSub.Rd w B x [.int .i64 ua, .int .i64 ub, .bool uc, .int .i64 ud, .int .i64 ue, .int .i64 uf, .int .i64 ug, .int .i64 uh, .int .i64 ui, .slice uj uq ur, .int .i64 uk, .int .i64 ul, .slice um us ut, .int .i64 un, .int .i64 uo, .int .i64 up]) (hB : B ≤ w.heap.size) (hT : totSub x ≤ 1048576) :
    Calls Try.prog 30 #[.agg #[.int .i64 ua, .int .i64 ub, .bool uc, .int .i64 ud, .int .i64 ue, .int .i64 uf, .int .i64 ug, .int .i64 uh, .int .i64 ui, .slice uj uq ur, .int .i64 uk, .int .i64 ul, .slice um us ut, .int .i64 un, .int .i64 uo, .int .i64 up]] w fun e w' => e = .returned (.int .i64 (subF x)) ∧ Below w.heap.size w w' := by
  obtain ⟨u, v, e, -, h⟩ := sub_cells hr
  rw [e]
  exact iSubFault x u v w B h hB hT
theorem iRoomOfV (x : DSub) (ua : Int) (ub : Int) (uc : Bool) (ud : Int) (ue : Int) (uf : Int) (ug : Int) (uh : Int) (ui : Int) (uj : Option Addr) (uq : Nat) (ur : Nat) (uk : Int) (ul : Int) (um : Option Addr) (us : Nat) (ut : Nat) (un : Int) (uo : Int) (up : Int) (w : World) (B : Nat) (hr : shSub.Rd w B x [.int .i64 ua, .int .i64 ub, .bool uc, .int .i64 ud, .int .i64 ue, .int .i64 uf, .int .i64 ug, .int .i64 uh, .int .i64 ui, .slice uj uq ur, .int .i64 uk, .int .i64 ul, .slice um us ut, .int .i64 un, .int .i64 uo, .int .i64 up]) (hB : B ≤ w.heap.size) (hT : totSub x ≤ 1048576) :
    Calls Try.prog 10 #[.agg #[.int .i64 ua, .int .i64 ub, .bool uc, .int .i64 ud, .int .i64 ue, .int .i64 uf, .int .i64 ug, .int .i64 uh, .int .i64 ui, .slice uj uq ur, .int .i64 uk, .int .i64 ul, .slice um us ut, .int .i64 un, .int .i64 uo, .int .i64 up]] w fun e w' => e = .returned (.agg #[.int .i64 (subF x), .int .i64 (roomV x)]) ∧ Below w.heap.size w w' := by
  obtain ⟨u, v, e, -, h⟩ := sub_cells hr
  rw [e]
  exact iRoomOf x u v w B h hB hT
theorem iStaleOfV (x : DSub) (ua : Int) (ub : Int) (uc : Bool) (ud : Int) (ue : Int) (uf : Int) (ug : Int) (uh : Int) (ui : Int) (uj : Option Addr) (uq : Nat) (ur : Nat) (uk : Int) (ul : Int) (um : Option Addr) (us : Nat) (ut : Nat) (un : Int) (uo : Int) (up : Int) (w : World) (B : Nat) (hr : shSub.Rd w B x [.int .i64 ua, .int .i64 ub, .bool uc, .int .i64 ud, .int .i64 ue, .int .i64 uf, .int .i64 ug, .int .i64 uh, .int .i64 ui, .slice uj uq ur, .int .i64 uk, .int .i64 ul, .slice um us ut, .int .i64 un, .int .i64 uo, .int .i64 up]) (hB : B ≤ w.heap.size) (hT : totSub x ≤ 1048576) :
    Calls Try.prog 14 #[.agg #[.int .i64 ua, .int .i64 ub, .bool uc, .int .i64 ud, .int .i64 ue, .int .i64 uf, .int .i64 ug, .int .i64 uh, .int .i64 ui, .slice uj uq ur, .int .i64 uk, .int .i64 ul, .slice um us ut, .int .i64 un, .int .i64 uo, .int .i64 up]] w fun e w' => e = .returned (.agg #[.int .i64 (subF x), .int .i64 (stlV x)]) ∧ Below w.heap.size w w' := by
  obtain ⟨u, v, e, -, h⟩ := sub_cells hr
  rw [e]
  exact iStaleOf x u v w B h hB hT
end Go.Proofs.Ytaehhnnafbijcao
