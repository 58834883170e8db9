/- What the program answers of a sender that is new: it owns its memory; nothing that was in memory turns; no condition. -/
import Derived.Test.YtacbpielhhejkakRows
import Derived.Test.YtacbpielhhejkakBase
import Derived.Test.YtacbpielhhejkakMem
import Derived.Test.YtacbpielhhejkakHBase
import Derived.Test.YtacbpielhhejkakHFlight
import Derived.Test.YtacbpielhhejkakHSender
import Derived.Test.YtacbpielhhejkakFlightDef
import Derived.Test.YtacbpielhhejkakSpecFlight3
import Derived.Test.YtacbpielhhejkakImplFlight
namespace Go.Proofs.Ytacbpielhhejkak
open Go.RowKit
set_option linter.unusedVariables false

theorem iStartSenderO (n : Int) (w : World) :
    Calls Try.prog 20 #[.int .i64 n] w fun e w' => ∃ u, e = .returned (.agg #[.int .i64 (staSC n), .int .i64 (staSV n).1, .int .i64 (staSV n).2.1, .int .i64 (staSV n).2.2.1, u]) ∧ Own w' w.heap.size w'.heap.size shSender (staSV n) [.int .i64 (staSV n).1, .int .i64 (staSV n).2.1, .int .i64 (staSV n).2.2.1, u] ∧ Below w.heap.size w w' := by
  refine (iStartSender n w).mono ?_
  rintro e w1 ⟨rfl, hb⟩
  refine ⟨_, rfl, own_snd0 w1 _ _ hb.size ?_ (WalkArith.wf_i64 (by omega)) (WalkArith.wf_i64 (by omega)), hb⟩
  split
  · rename_i h; have := inD_yes h; exact WalkArith.wf_i64 (by omega)
  · exact WalkArith.wf_i64 (by omega)
end Go.Proofs.Ytacbpielhhejkak
