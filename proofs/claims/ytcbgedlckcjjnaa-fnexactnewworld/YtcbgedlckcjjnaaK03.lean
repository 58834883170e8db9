/- What the program and its model answer of controls: their faults, what is started, cut and falls; nothing that was in memory turns; no condition. -/
import Derived.Test.YtcbgedlckcjjnaaRows
import Derived.Test.YtcbgedlckcjjnaaK01
import Derived.Test.YtcbgedlckcjjnaaK02
namespace Go.Proofs.Ytcbgedlckcjjnaa
open Go.RowKit
set_option linter.unusedVariables false

/-- v is lo to hi. -/
def inB (v lo hi : Int) : Bool := decide (lo ≤ v) && decide (v ≤ hi)
theorem inB_yes {v lo hi : Int} (h : inB v lo hi = true) : lo ≤ v ∧ v ≤ hi := by unfold inB at h; simpa using h
def winB (v : Int) : Bool := inB v 8 64
theorem winB_yes {v : Int} (h : winB v = true) : 8 ≤ v ∧ v ≤ 64 := inB_yes h
theorem winB_mk {v : Int} (h1 : 8 ≤ v) (h2 : v ≤ 64) : winB v = true := by unfold winB inB; simp [h1, h2]
/-- The fault of a control. -/
def ctF (a b p : Int) : Int := if (winB a && inB b 0 64 && inB p 0 63) = true then 0 else 3
theorem ctF_ok {a b p : Int} (h : ctF a b p = 0) : (8 ≤ a ∧ a ≤ 64) ∧ (0 ≤ b ∧ b ≤ 64) ∧ 0 ≤ p ∧ p ≤ 63 := by
  unfold ctF at h
  split at h
  · rename_i h2
    simp only [Bool.and_eq_true] at h2
    exact ⟨winB_yes h2.1.1, inB_yes h2.1.2, inB_yes h2.2⟩
  · cases h
theorem ctF_mk {a b p : Int} (h1 : 8 ≤ a) (h2 : a ≤ 64) (h3 : 0 ≤ b) (h4 : b ≤ 64) (h5 : 0 ≤ p) (h6 : p ≤ 63) : ctF a b p = 0 := by
  unfold ctF; rw [if_pos]; simp [winB, inB, *]
theorem ctF_two (a b p : Int) : ctF a b p = 0 ∨ ctF a b p = 3 := by unfold ctF; split <;> simp
def halfW (a : Int) : Int := max 8 (a / 2)

theorem iInB (v low high : Int) (w : World) :
    Calls Try.prog 22 #[.int .i64 v, .int .i64 low, .int .i64 high] w fun e w' => e = .returned (.bool (inB v low high)) ∧ w' = w := by
  by_cases h : low ≤ v
  · go_enter Try.func22, Try.ntmps22
    go_wp2
    go_ret
    exact ⟨ret_bool (by simp [inB, h]), rfl⟩
  · have h' : decide (low ≤ v) = false := by simp; omega
    go_enter Try.func22, Try.ntmps22
    go_wp2
    go_ret
    exact ⟨ret_bool (by simp [inB]; omega), rfl⟩
theorem sInB (v low high : Int) (w : World) :
    Calls Try.prog 19 #[.int .i64 v, .int .i64 low, .int .i64 high] w fun e w' => e = .returned (.bool (inB v low high)) ∧ w' = w := by
  by_cases h : low ≤ v
  · go_enter Try.func19, Try.ntmps19
    go_wp2
    go_ret
    exact ⟨ret_bool (by simp [inB, h]), rfl⟩
  · have h' : decide (low ≤ v) = false := by simp; omega
    go_enter Try.func19, Try.ntmps19
    go_wp2
    go_ret
    exact ⟨ret_bool (by simp [inB]; omega), rfl⟩
end Go.Proofs.Ytcbgedlckcjjnaa

/- What the program and its model answer where a control is cut or falls, and the law's own helpers on controls; nothing that was in memory turns; no condition. -/
namespace Go.Proofs.Ytcbgedlckcjjnaa
open Go.RowKit
set_option linter.unusedVariables false

theorem bf_below {w w' : World} {b : Nat} (h : ∀ o, w.frozen? ⟨b, o, none⟩ = false) (hb : b < w.heap.size) (k : Below w.heap.size w w') : ∀ o, w'.frozen? ⟨b, o, none⟩ = false :=
  fun o => (k.frozen (p := ⟨b, o, none⟩) hb).trans (h o)
theorem lEqControl (a b p : Int) (w : World) :
    Calls Try.prog 59 #[.agg #[.int .i64 a, .int .i64 b, .int .i64 p], .agg #[.int .i64 a, .int .i64 b, .int .i64 p]] w fun e w' => e = .returned (.bool true) ∧ Below w.heap.size w w' := by
  go_enter Try.func59, Try.ntmps59
  go_wp2_with fail
  go_ret
  exact ⟨rfl, by go_grown⟩
end Go.Proofs.Ytcbgedlckcjjnaa

/- Boxes of many cells: what one reads where a cell is set; no condition. -/
namespace Go.Proofs.Ytcbgedlckcjjnaa
open Go.RowKit
set_option linter.unusedVariables false

theorem bx_put {w : World} {b k : Nat} {A : Array Value} {v : Value} (h : ∀ o, w.cell? ⟨b, o, none⟩ = A[o]?) (hk : k < A.size) : ∀ o, (w.setCell ⟨b, k, none⟩ v).cell? ⟨b, o, none⟩ = (A.setIfInBounds k v)[o]? := fun o => by
  by_cases e : o = k
  · subst e
    rw [World.cell?_setCell_same _ _ _ ((h o).trans (Array.getElem?_eq_getElem hk)), Array.getElem?_setIfInBounds_self_of_lt hk]
  · rw [World.cell?_setCell_other _ _ _ _ (by simp), h o, Array.getElem?_setIfInBounds_ne (by omega)]
theorem bx_off {w : World} {b b' k : Nat} {v : Value} {A : Array Value} (h : ∀ o, w.cell? ⟨b, o, none⟩ = A[o]?) (hne : b ≠ b') : ∀ o, (w.setCell ⟨b', k, none⟩ v).cell? ⟨b, o, none⟩ = A[o]? := fun o => by
  rw [World.cell?_setCell_other _ _ _ _ (by intro e; simp only [Addr.mk.injEq] at e; omega)]; exact h o
theorem bxB {B : Nat} {w w' : World} {b : Nat} {cs : Array Value} (h : ∀ o, w.cell? ⟨b, o, none⟩ = cs[o]?) (k : Below B w w') (hb : b < B) : ∀ o, w'.cell? ⟨b, o, none⟩ = cs[o]? :=
  fun o => (k.cell (p := ⟨b, o, none⟩) hb).trans (h o)
theorem bxF {B : Nat} {w w' : World} {b : Nat} (h : ∀ o, w.frozen? ⟨b, o, none⟩ = false) (k : Below B w w') (hb : b < B) : ∀ o, w'.frozen? ⟨b, o, none⟩ = false :=
  fun o => (k.frozen (p := ⟨b, o, none⟩) hb).trans (h o)
end Go.Proofs.Ytcbgedlckcjjnaa
