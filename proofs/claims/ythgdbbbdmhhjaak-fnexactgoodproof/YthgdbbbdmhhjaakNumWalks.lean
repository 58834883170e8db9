/- What the functions on numbers that go round answer, of the program and of its model; each leaves memory as it was; no condition. -/
import Derived.Test.YthgdbbbdmhhjaakRows
import Derived.Test.YthgdbbbdmhhjaakNum
import Derived.ProofKit
namespace Go.Proofs.Ythgdbbbdmhhjaak
open Go.RowKit

theorem iWrap (n : Int) (w : World) :
    Calls Try.prog 15 #[.int .i64 n] w fun e w' => e = .returned (.int .i64 (wrp n)) ∧ w' = w := by
  go_enter Try.func15, Try.ntmps15
  go_wp2
  go_ret
  exact ⟨ret_int (wrp_w16 n), rfl⟩
theorem sWrap (n : Int) (w : World) :
    Calls Try.prog 21 #[.int .i64 n] w fun e w' => e = .returned (.int .i64 (wrp n)) ∧ w' = w := by
  go_enter Try.func21, Try.ntmps21
  go_wp2
  go_ret
  exact ⟨ret_int (wrp_w16 n), rfl⟩
end Go.Proofs.Ythgdbbbdmhhjaak
