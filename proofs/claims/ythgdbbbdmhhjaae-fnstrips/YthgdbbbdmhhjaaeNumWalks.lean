/- What the functions on numbers that go round answer, of the program and of its model; each leaves memory as it was; no condition. -/
import Derived.Test.YthgdbbbdmhhjaaeRows
import Derived.Test.YthgdbbbdmhhjaaeNum
import Derived.ProofKit
namespace Go.Proofs.Ythgdbbbdmhhjaae
open Go.RowKit

theorem iWrap (n : Int) (w : World) :
    Calls Try.prog 19 #[.int .i64 n] w fun e w' => e = .returned (.int .i64 (wrp n)) ∧ w' = w := by
  go_enter Try.func19, Try.ntmps19
  go_wp2
  go_ret
  exact ⟨ret_int (wrp_w16 n), rfl⟩
theorem sWrap (n : Int) (w : World) :
    Calls Try.prog 23 #[.int .i64 n] w fun e w' => e = .returned (.int .i64 (wrp n)) ∧ w' = w := by
  go_enter Try.func23, Try.ntmps23
  go_wp2
  go_ret
  exact ⟨ret_int (wrp_w16 n), rfl⟩
end Go.Proofs.Ythgdbbbdmhhjaae
