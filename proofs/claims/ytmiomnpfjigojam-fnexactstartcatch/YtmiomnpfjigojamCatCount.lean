/- How many places were seen, as the program and its model count them; nothing that was in memory turns; no condition but that there are at most a million spans. -/
import Derived.Test.YtmiomnpfjigojamRows
import Derived.Test.YtmiomnpfjigojamBase
import Derived.Test.YtmiomnpfjigojamMem
import Derived.Test.YtmiomnpfjigojamHBase
import Derived.Test.YtmiomnpfjigojamHSpan
import Derived.Test.YtmiomnpfjigojamHCatch
import Derived.Test.YtmiomnpfjigojamMSpan
import Derived.Test.YtmiomnpfjigojamSpanRow
import Derived.Test.YtmiomnpfjigojamCatDef
import Derived.Test.YtmiomnpfjigojamCatSpec
import Derived.Test.YtmiomnpfjigojamCatImpl
import Derived.Test.YtmiomnpfjigojamBox
namespace Go.Proofs.Ytmiomnpfjigojam
open Go.RowKit
set_option linter.unusedVariables false
set_option maxRecDepth 8000

theorem allS_wf {x : DCatch} (h1 : (Lit.int .i64 x.2.1).wf = true) (h2 : WfS x.2.2.1) : WfS (allS x) := fun s hs => by
  rcases List.mem_cons.1 hs with rfl | hs
  · exact ⟨WalkArith.wf_i64 (by omega), h1⟩
  · exact h2 s hs
theorem allS_len (x : DCatch) : (allS x).length = x.2.2.1.length + 1 := rfl
theorem sum_step {l : List DSpan} {k : Nat} {e T : Int} (hk : k < l.length) (h : e + sumW (l.drop k) = T) : (e + l[k].2.1 - l[k].1) + sumW (l.drop (k + 1)) = T := by
  rw [sumW_at hk] at h; omega
theorem sum_end {l : List DSpan} {e T : Int} (h : e + sumW (l.drop l.length) = T) : e = T := by
  rw [List.drop_length] at h; simpa [sumW] using h
theorem all_bd {x : DCatch} (h : caF x = 0) : ∀ t ∈ allS x, 0 ≤ t.1 ∧ t.1 ≤ t.2.1 ∧ t.2.1 ≤ 1000100 := by
  obtain ⟨_, h2, _, h4⟩ := ca_ok h
  intro t ht
  rcases List.mem_cons.1 ht with rfl | ht
  · exact ⟨Int.le_refl _, h2.1, by show x.2.1 ≤ _; omega⟩
  · have := (sps_sp h4).2 t ht
    omega
theorem sps_bd {x : DCatch} (h : caF x = 0) : ∀ t ∈ x.2.2.1, 0 ≤ t.1 ∧ t.1 ≤ t.2.1 ∧ t.2.1 ≤ 1000100 := fun t ht => all_bd h t (List.mem_cons_of_mem _ ht)
end Go.Proofs.Ytmiomnpfjigojam
