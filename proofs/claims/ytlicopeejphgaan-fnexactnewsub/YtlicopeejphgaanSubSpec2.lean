/- What the model answers of a sub: its fault, its room, what is stale; nothing that was in memory turns; no condition but that there are at most a million parts. -/
import Derived.Test.YtlicopeejphgaanRows
import Derived.Test.YtlicopeejphgaanBase
import Derived.Test.YtlicopeejphgaanBytes
import Derived.Test.YtlicopeejphgaanMem
import Derived.Test.YtlicopeejphgaanHBase
import Derived.Test.YtlicopeejphgaanHFlight
import Derived.Test.YtlicopeejphgaanHSender
import Derived.Test.YtlicopeejphgaanHSpan
import Derived.Test.YtlicopeejphgaanHCatch
import Derived.Test.YtlicopeejphgaanFlightDef
import Derived.Test.YtlicopeejphgaanCatDef
import Derived.Test.YtlicopeejphgaanCtrl
import Derived.Test.YtlicopeejphgaanBox
import Derived.Test.YtlicopeejphgaanSubBox
import Derived.Test.YtlicopeejphgaanHSub
import Derived.Test.YtlicopeejphgaanSubDef
import Derived.Test.YtlicopeejphgaanSubSpec
import Derived.Deep.RegionHeld3
namespace Go.Proofs.Ytlicopeejphgaan
open Go.RowKit
set_option linter.unusedVariables false
set_option maxRecDepth 8000

theorem sSubFault (x : DSub) (u v : Value) (w : World) (B : Nat) (hr : shSub.Rd w B x [.int .i64 x.1, .int .i64 x.2.1, .bool x.2.2.1, .int .i64 x.2.2.2.1, .int .i64 x.2.2.2.2.1, .int .i64 x.2.2.2.2.2.1, .int .i64 x.2.2.2.2.2.2.1.1, .int .i64 x.2.2.2.2.2.2.1.2.1, .int .i64 x.2.2.2.2.2.2.1.2.2.1, u, .int .i64 x.2.2.2.2.2.2.2.1.1, .int .i64 x.2.2.2.2.2.2.2.1.2.1, v, .int .i64 x.2.2.2.2.2.2.2.2.1.1, .int .i64 x.2.2.2.2.2.2.2.2.1.2.1, .int .i64 x.2.2.2.2.2.2.2.2.1.2.2.1]) (hB : B ≤ w.heap.size) (hT : totSub x ≤ 1048576) :
    Calls Try.prog 26 #[.agg #[.int .i64 x.1, .int .i64 x.2.1, .bool x.2.2.1, .int .i64 x.2.2.2.1, .int .i64 x.2.2.2.2.1, .int .i64 x.2.2.2.2.2.1, .int .i64 x.2.2.2.2.2.2.1.1, .int .i64 x.2.2.2.2.2.2.1.2.1, .int .i64 x.2.2.2.2.2.2.1.2.2.1, u, .int .i64 x.2.2.2.2.2.2.2.1.1, .int .i64 x.2.2.2.2.2.2.2.1.2.1, v, .int .i64 x.2.2.2.2.2.2.2.2.1.1, .int .i64 x.2.2.2.2.2.2.2.2.1.2.1, .int .i64 x.2.2.2.2.2.2.2.2.1.2.2.1]] w fun e w' => e = .returned (.int .i64 (subF x)) ∧ Below w.heap.size w w' := by
  obtain ⟨y0, y1, y2, y3, y4, y5, ⟨s0, s1, s2, fl, ⟨⟩⟩, ⟨c0, c1, sp, ⟨⟩⟩, ⟨k0, k1, k2, ⟨⟩⟩, ⟨⟩⟩ := x
  simp only at *
  obtain ⟨ua, uc, va, vc, rfl, rfl, rs0, rc0, hwf⟩ := rd_SubF hr
  obtain ⟨q1, e1, rs, -⟩ := rd_Sender rs0
  obtain ⟨q2, e2, rc, -⟩ := rd_Catch rc0
  simp only [List.cons.injEq, and_true, true_and] at e1 e2
  subst e1 e2
  replace rs : shFlights.Rd w B fl [.slice ua fl.length uc] := rs
  replace rc : shSpans.Rd w B sp [.slice va sp.length vc] := rc
  obtain ⟨fn, hfn⟩ : ∃ n, fl.length = n := ⟨_, rfl⟩
  obtain ⟨sn, hsn⟩ : ∃ n, sp.length = n := ⟨_, rfl⟩
  rw [hfn] at rs rs0 ⊢
  rw [hsn] at rc rc0 ⊢
  have HC : Hid (∀ W sb, Below w.heap.size w W → (∀ o, W.cell? ⟨sb, o, none⟩ = (#[.int .i64 y0, .int .i64 y1, .bool y2, .int .i64 y3, .int .i64 y4, .int .i64 y5, .int .i64 s0, .int .i64 s1, .int .i64 s2, .slice ua fn uc, .int .i64 c0, .int .i64 c1, .slice va sn vc, .int .i64 k0, .int .i64 k1, .int .i64 k2] : Array Value)[o]?) → Calls Try.prog 56 #[.pointer (some ⟨sb, 0, none⟩)] W fun e w' => e = .returned (.int .i64 (subF (y0, y1, y2, y3, y4, y5, (s0, s1, s2, fl, ()), (c0, c1, sp, ()), (k0, k1, k2, ()), ()))) ∧ Below W.heap.size W w') :=
    fun W sb hW hc => sL8Fault y0 y1 y2 y3 y4 y5 s0 s1 s2 fl c0 c1 sp k0 k1 k2 ua fn uc va sn vc sb 0 W B hfn hsn (fun j _ => by rw [Nat.zero_add]; exact hc j) (rs.below hB hW) (rc.below hB hW) (Nat.le_trans hB hW.size) hT
  clear hr rs rc rs0 rc0 hT hwf hfn hsn
  generalize subF (y0, y1, y2, y3, y4, y5, (s0, s1, s2, fl, ()), (c0, c1, sp, ()), (k0, k1, k2, ()), ()) = F at *
  go_enter Try.func26, Try.ntmps26
  go_wp2_with fail
  refine (HC.out _ w.heap.size (by go_grown) (fun o => by simp [go_sem])).mono ?_
  rintro e w1 ⟨rfl, hb⟩
  go_wp2_with fail
  go_ret
  exact ⟨rfl, Below.trans (by go_grown) (hb.mono (by simp))⟩
end Go.Proofs.Ytlicopeejphgaan
