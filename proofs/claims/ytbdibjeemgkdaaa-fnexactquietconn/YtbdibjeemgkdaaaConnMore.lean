/- Where a path stands at a conn, and how far what came in is done, by program and model; nothing that was in memory turns; no condition but that there are at most a million parts. -/
import Derived.Test.YtbdibjeemgkdaaaRows
import Derived.Test.YtbdibjeemgkdaaaBase
import Derived.Test.YtbdibjeemgkdaaaBytes
import Derived.Test.YtbdibjeemgkdaaaMem
import Derived.Test.YtbdibjeemgkdaaaHBase
import Derived.Test.YtbdibjeemgkdaaaHFlight
import Derived.Test.YtbdibjeemgkdaaaHSender
import Derived.Test.YtbdibjeemgkdaaaHSpan
import Derived.Test.YtbdibjeemgkdaaaHCatch
import Derived.Test.YtbdibjeemgkdaaaFlightDef
import Derived.Test.YtbdibjeemgkdaaaImplFlight
import Derived.Test.YtbdibjeemgkdaaaCatDef
import Derived.Test.YtbdibjeemgkdaaaCtrl
import Derived.Test.YtbdibjeemgkdaaaHSub
import Derived.Test.YtbdibjeemgkdaaaSubDef
import Derived.Test.YtbdibjeemgkdaaaSubImpl
import Derived.Test.YtbdibjeemgkdaaaHSubA
import Derived.Test.YtbdibjeemgkdaaaHSubs
import Derived.Test.YtbdibjeemgkdaaaGath
import Derived.Test.YtbdibjeemgkdaaaGathLaw
import Derived.Test.YtbdibjeemgkdaaaImplGath
import Derived.Test.YtbdibjeemgkdaaaAgg
import Derived.Test.YtbdibjeemgkdaaaRegionU
import Derived.Test.YtbdibjeemgkdaaaRegionQ
import Derived.Test.YtbdibjeemgkdaaaBox
import Derived.Test.YtbdibjeemgkdaaaSubBox
import Derived.Test.YtbdibjeemgkdaaaHConn
import Derived.Test.YtbdibjeemgkdaaaConnDef
import Derived.Test.YtbdibjeemgkdaaaSubSpec
import Derived.Test.YtbdibjeemgkdaaaConnSpec
import Derived.Test.YtbdibjeemgkdaaaConnImpl
import Derived.Test.YtbdibjeemgkdaaaConnImpl2
import Derived.Test.YtbdibjeemgkdaaaIter
import Derived.Test.YtbdibjeemgkdaaaIterSub
import Derived.Test.YtbdibjeemgkdaaaConnImplF
import Derived.Test.YtbdibjeemgkdaaaConnSpecF
import Derived.Test.YtbdibjeemgkdaaaConnSpec3
import Derived.Deep.RegionHeld3
import Derived.Deep.DeepCutAuto
import Derived.Deep.CutRange
import Derived.Deep.QuietTactic
import Derived.BigQuiet
namespace Go.Proofs.Ytbdibjeemgkdaaa
open Go.RowKit
set_option linter.unusedVariables false
set_option maxRecDepth 8000

theorem two_boxes {w w1 : World} {A Z : Array Value} {t t' : TypeId} (hb : Below ((w.alloc (.cells A t)).alloc (.cells Z t')).heap.size ((w.alloc (.cells A t)).alloc (.cells Z t')) w1) :
    (∀ o, w1.cell? ⟨w.heap.size, o, none⟩ = A[o]?) ∧ (∀ o, w1.cell? ⟨w.heap.size + 1, o, none⟩ = Z[o]?) ∧ (∀ o, w1.frozen? ⟨w.heap.size + 1, o, none⟩ = false) ∧ Below w.heap.size w w1 ∧ w.heap.size + 1 < w1.heap.size := by
  refine ⟨fun o => ?_, fun o => ?_, fun o => ?_, ?_, ?_⟩
  · rw [hb.cell (p := ⟨w.heap.size, o, none⟩) (by simp; omega)]; simp [go_sem]
  · rw [hb.cell (p := ⟨w.heap.size + 1, o, none⟩) (by simp)]; simp [go_sem]
  · rw [hb.frozen (p := ⟨w.heap.size + 1, o, none⟩) (by simp)]; simp [go_sem]
  · exact Below.trans (((Below.refl _ _).alloc (Nat.le_refl _) _).alloc (by simp) _) (hb.mono (by simp; omega))
  · have := hb.size; simp at this; omega
theorem bx2c {w : World} {b : Nat} {x0 x1 u v : Value} (h : ∀ o, w.cell? ⟨b, o, none⟩ = (#[x0, x1] : Array Value)[o]?) : ∀ o, ((w.setCell ⟨b, 0, none⟩ u).setCell ⟨b, 1, none⟩ v).cell? ⟨b, o, none⟩ = (#[u, v] : Array Value)[o]? := by
  have h2 := bx_put (bx_put h (k := 0) (v := u) (by simp)) (k := 1) (v := v) (by simp)
  simpa using h2
def subOnC (c : DConn) (p : Int) : Int := if connF c = 0 then (if placeD c.subs p < 0 then 4 else 0) else connF c
def subOnV (c : DConn) (p : Int) : Int := if connF c = 0 then (if placeD c.subs p < 0 then 0 else placeD c.subs p) else 0
/-- How far what came in is done; the end counts as one more. -/
def dackD (c : DConn) : Int := if c.finIn = (c.inn.1.length : Int) then (c.inn.1.length : Int) + 1 else (c.inn.1.length : Int)
def dackV (c : DConn) : Int := if connF c = 0 then dackD c else 0
end Go.Proofs.Ytbdibjeemgkdaaa
