/- Places in a map: what it holds as a function, what a store, a deletion and a look-up make of it; the program's putMissing and placesOf; nothing else in memory turns; no condition but on lengths. -/
import Derived.Test.YtnbcefdfdonljaaRows
import Derived.Test.YtnbcefdfdonljaaBase
import Derived.Test.YtnbcefdfdonljaaBytes
import Derived.Test.YtnbcefdfdonljaaMem
import Derived.Test.YtnbcefdfdonljaaGath
import Derived.Test.YtnbcefdfdonljaaImplGath
import Derived.Test.YtnbcefdfdonljaaSpecGath
import Derived.Test.YtnbcefdfdonljaaGathByte
import Derived.Maps.Own
import Derived.Maps.OwnOps
import Derived.Maps.OwnSet
import Derived.Maps.Views
namespace Go.Proofs.Ytnbcefdfdonljaa
open Go.RowKit Go.Maps
set_option linter.unusedVariables false

theorem keyLaw : Keyed Try.prog 2 := int_keyed Try.underlying2
theorem zeroU8 (w : World) : (zeroValue 5).run Try.prog w = .ok (.int .u8 0) w := by kernel_rfl

/-- Block b is a map of at most n entries that holds at a place what mm says. -/
structure MapIs (w : World) (b n : Nat) (mm : Int → Option Int) : Prop where
  ex : ∃ D : DataW Unit, w.ownsMap Try.prog 2 (plainElem Try.prog 5) b n D ∧
    ∀ x, (Lit.int .i64 x).wf = true → Maps.has D (.int .i64 x) = (mm x).isSome ∧ D.atKey (.int .i64 x) (.lit (.int .u8 0)) = .lit (.int .u8 ((mm x).getD 0))

theorem MapIs.mono {w : World} {b n n' : Nat} {mm : Int → Option Int} (h : MapIs w b n mm) (hn : n ≤ n') : MapIs w b n' mm := by
  obtain ⟨D, h1, h2⟩ := h
  exact ⟨D, h1.mono hn, h2⟩
theorem MapIs.kept {w w' : World} {row : Option Nat} {b n : Nat} {mm : Int → Option Int} (h : MapIs w b n mm) (hg : w.grownBy w' row) (hne : some b ≠ row) : MapIs w' b n mm := by
  obtain ⟨D, h1, h2⟩ := h
  exact ⟨D, h1.kept hg hne, h2⟩
theorem MapIs.lt {w : World} {b n : Nat} {mm : Int → Option Int} (h : MapIs w b n mm) : b < w.heap.size := by
  obtain ⟨D, h1, h2⟩ := h
  exact h1.lt
theorem MapIs.made (w : World) : MapIs (w.alloc (.map #[] 0)) w.heap.size 0 (fun _ => none) := by
  refine ⟨.map [], World.ownsMap_made _ _ _ _, fun x _ => ⟨rfl, rfl⟩⟩
theorem MapIs.congr {w : World} {b n : Nat} {mm mm' : Int → Option Int} (h : MapIs w b n mm) (e : ∀ x, mm x = mm' x) : MapIs w b n mm' := by
  have : mm = mm' := funext e
  rw [← this]; exact h
/-- A block that holds cells is none that holds a map. -/
theorem MapIs.ne {w : World} {b n : Nat} {mm : Int → Option Int} (h : MapIs w b n mm) {a : Addr} {v : Value} (hc : w.cell? a = some v) : b ≠ a.block := by
  obtain ⟨D, ⟨es, clock, h1, _⟩, _⟩ := h
  intro e
  unfold World.cell? at hc
  rw [← e, h1] at hc
  simp at hc

theorem int_ne {x y : Int} (h : y ≠ x) : (Lit.int .i64 y) ≠ (Lit.int .i64 x) := fun e => h (by cases e; rfl)

theorem has_put_i {D : DataW Unit} (hD : IsMap D) (x y : Int) (d : DataW Unit) : Maps.has (D.put (.int .i64 x) d) (.int .i64 y) = if y = x then true else Maps.has D (.int .i64 y) := by
  split
  · rename_i e; subst e; exact has_put_same hD (by trivial) d
  · rename_i h; exact has_put_other (int_ne h) d
theorem at_put_i {D : DataW Unit} (hD : IsMap D) (x y : Int) (d z : DataW Unit) : (D.put (.int .i64 x) d).atKey (.int .i64 y) z = if y = x then d else D.atKey (.int .i64 y) z := by
  split
  · rename_i e; subst e; exact atKey_put_same hD (by trivial) d z
  · rename_i h; exact atKey_put_other (int_ne h) d z
theorem has_del_i {D : DataW Unit} (x y : Int) : Maps.has (D.del (.int .i64 x)) (.int .i64 y) = if y = x then false else Maps.has D (.int .i64 y) := by
  split
  · rename_i e; subst e; exact has_del_same
  · rename_i h; exact has_del_other (int_ne h)
theorem at_del_i {D : DataW Unit} (x y : Int) (z : DataW Unit) : (D.del (.int .i64 x)).atKey (.int .i64 y) z = if y = x then z else D.atKey (.int .i64 y) z := by
  split
  · rename_i e; subst e; exact atKey_del_same z
  · rename_i h; exact atKey_del_other (int_ne h) z

section
variable {ops : Array Oper} {rest : List Oper} {o : Oper} {a : Act} {Q : Exit → Act → World → Prop}

theorem mp_look (w : World) (hg : o.guard = none) (m x : Operand) (hop : o.op = Op.lookup 82 m x true) (b n : Nat) (mm : Int → Option Int) (hm : a.eval m = .map (some b)) (h : MapIs w b n mm)
    (y : Int) (hx : a.eval x = .int .i64 y) (hy : (Lit.int .i64 y).wf = true) (hK : wpList Try.prog ops Q rest (a.put o.dst (.tuple #[.int .u8 ((mm y).getD 0), .bool (mm y).isSome])) w) : wpList Try.prog ops Q (o :: rest) a w := by
  obtain ⟨D, h1, h2⟩ := h
  refine wpList_lookup_own_ok_int w hg m x _ hop _ _ .u8 keyLaw Try.underlying82 Try.underlying5 (zeroU8 w) b n D hm h1 _ _ hx (keyOf_int_mk Try.underlying2 hy) ?_
  intro c hat hwc
  obtain ⟨g1, g2⟩ := h2 y hy
  rw [g2] at hat
  simp only [DataW.lit.injEq, Lit.int.injEq, true_and] at hat
  rw [g1, ← hat]
  exact hK

theorem mp_put (w : World) (hg : o.guard = none) (m x v : Operand) (hop : o.op = Op.mapUpdate 82 m x v) (b n : Nat) (mm : Int → Option Int) (hm : a.eval m = .map (some b)) (h : MapIs w b n mm) (hn : n ≤ 1000000000)
    (y c : Int) (hx : a.eval x = .int .i64 y) (hy : (Lit.int .i64 y).wf = true) (hv : a.eval v = .int .u8 c) (hc : 0 ≤ c ∧ c ≤ 255)
    (hK : ∀ w', MapIs w' b (n + 1) (fun z => if z = y then some c else mm z) → w.grownBy w' (some b) → wpList Try.prog ops Q rest (a.put o.dst undef) w') : wpList Try.prog ops Q (o :: rest) a w := by
  obtain ⟨D, h1, h2⟩ := h
  refine wpList_mapUpdate_own w hg m x v _ hop _ _ keyLaw Try.underlying82 _ b n D hm h1 (by unfold maxLen; omega) _ _ _ hx hv (keyOf_int_mk Try.underlying2 hy) _ [] (plainElem_int Try.underlying5 (wf_u8 hc.1 hc.2)) ?_
  intro w' g1 g2
  refine hK w' ⟨_, g1, fun z hz => ?_⟩ g2
  have hD := h1.isMap
  rw [has_put_i hD, at_put_i hD]
  split
  · exact ⟨rfl, rfl⟩
  · exact h2 z hz

theorem mp_del (w : World) (hg : o.guard = none) (m x : Operand) (hop : o.op = Op.call { callee := Callee.builtin Builtin.delete, args := #[m, x], argTypes := #[82, 2] }) (b n : Nat) (mm : Int → Option Int) (hm : a.eval m = .map (some b)) (h : MapIs w b n mm)
    (y : Int) (hx : a.eval x = .int .i64 y) (hy : (Lit.int .i64 y).wf = true)
    (hK : ∀ w', MapIs w' b n (fun z => if z = y then none else mm z) → w.grownBy w' (some b) → wpList Try.prog ops Q rest (a.put o.dst (.tuple #[])) w') : wpList Try.prog ops Q (o :: rest) a w := by
  obtain ⟨D, h1, h2⟩ := h
  refine wpList_delete_own w hg m x _ _ hop _ keyLaw Try.underlying82 _ b n D hm h1 _ _ hx (keyOf_int_mk Try.underlying2 hy) ?_
  intro w' g1 g2
  refine hK w' ⟨_, g1, fun z hz => ?_⟩ g2.grown
  rw [has_del_i, at_del_i]
  split
  · exact ⟨rfl, rfl⟩
  · exact h2 z hz
end

/-- What is there when data is put at a place, where nothing is yet. -/
def putM (mm : Int → Option Int) (x : Int) (l : List Int) (y : Int) : Option Int := match mm y with
  | some c => some c
  | none => if x ≤ y ∧ y ≤ x + l.length - 1 then some (l.getD (y - x).toNat 0) else none

theorem putM_nil (mm : Int → Option Int) (x y : Int) : putM mm x [] y = mm y := by
  unfold putM
  cases mm y with
  | some c => rfl
  | none => simp; omega
theorem putM_step {mm : Int → Option Int} {x : Int} {l : List Int} {k : Nat} (hk : k < l.length) (y : Int) :
    putM mm x (l.take (k + 1)) y = if y = x + k then (match putM mm x (l.take k) y with | some c => some c | none => some (l.getD k 0)) else putM mm x (l.take k) y := by
  have e1 : (l.take (k + 1)).length = k + 1 := by simp; omega
  have e2 : (l.take k).length = k := by simp; omega
  unfold putM
  cases mm y with
  | some c => simp
  | none =>
    simp only [e1, e2]
    split
    · rename_i h1
      split
      · rename_i h2; subst h2
        rw [if_neg (by omega)]
        have : (x + (k : Int) - x).toNat = k := by omega
        rw [this]; simp [List.getD_eq_getElem?_getD, hk]
      · rename_i h2
        rw [if_pos (by omega)]
        have h3 : (y - x).toNat < k := by omega
        simp [List.getD_eq_getElem?_getD, List.getElem?_take_of_lt h3, List.getElem?_take_of_lt (show (y - x).toNat < k + 1 by omega)]
    · rename_i h1
      rw [if_neg (by omega), if_neg (by omega)]
end Go.Proofs.Ytnbcefdfdonljaa
