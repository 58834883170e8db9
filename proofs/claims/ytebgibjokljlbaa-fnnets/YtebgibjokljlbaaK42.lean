/- Bytes appended to a slice of bytes that the call itself made: it owns the bytes behind its own, and nothing but that slice turns; no condition but that there are at most a thousand million. -/
import Derived.Test.YtebgibjokljlbaaRows
import Derived.WalkSmall
import Derived.Maps.AppendAt
import Derived.Deep.RegionHeld3
import Derived.Test.YtebgibjokljlbaaK01
namespace Go.Proofs.Ytebgibjokljlbaa
open Go.RowKit
set_option linter.unusedVariables false

theorem map_get {l : List Int} {j : Nat} {u : Value} (h : (l.map (Value.int .u8))[j]? = some u) : j < l.length ∧ u = .int .u8 (l.getD j 0) := by
  rw [List.getElem?_map] at h
  cases hj : l[j]? with
  | none => rw [hj] at h; cases h
  | some y =>
    rw [hj] at h
    have hlt : j < l.length := by
      apply Classical.byContradiction; intro hn
      rw [List.getElem?_eq_none (by omega)] at hj; cases hj
    refine ⟨hlt, ?_⟩
    rw [List.getD_eq_getElem?_getD, hj]
    simpa using h.symm

theorem app_u8 {ops : Array Oper} {rest : List Oper} {o : Oper} {a : Act} {Q : Exit → Act → World → Prop} (w : World) (hgd : o.guard = none) (s x : Operand)
    (ho : o.op = .call { callee := .builtin .append, args := #[s, x], argTypes := #[22, 22] }) (base : Nat) (v : Value) (l : List Int) (hs : a.eval s = v)
    (hown : OB w base v l) (ad : Option Addr) (l2 : List Int) (n2 cap2 : Nat) (hn2 : l2.length = n2) (hx : a.eval x = .slice ad n2 cap2) (hr : RB w ad l2) (hnil : ad = none → cap2 = 0) (hn : l.length + n2 ≤ 1000000000) (hb : base ≤ w.heap.size)
    (h : ∀ v' w', OB w' base v' (l ++ l2) → Below base w w' → w.grownBy w' v.ownBlock → wpList Try.prog ops Q rest (a.put o.dst v') w') :
    wpList Try.prog ops Q (o :: rest) a w := by
  obtain ⟨i0, hi, hz0, hz1, hz2⟩ := info_parts info_u8
  cases ad with
  | none =>
    have e1 := hnil rfl
    have e2 : l2 = [] := by
      rcases hr.mem with e | ⟨b, off, e, _⟩
      · exact e
      · cases e
    subst e1 e2
    simp at hn2
    subst hn2
    refine wpList_plain hgd fun K hK => ?_
    have hrun := run_append_owned_none (P := Try.prog) w base 22 o.type 5 i0 1 Try.underlying22 hi v l.length _ hown.own
    unfold Oper.wp execOp
    simp only [ho, resolve, invoke, builtin, Sem.run_bind, Sem.run_pure, Result.andThen_ok, List.map_toArray, List.map_cons, List.map_nil, hs, hx, hrun]
    exact hK _ _ (h v w (by rw [List.append_nil]; exact hown) (Below.refl _ _) (World.grownBy.refl _ _))
  | some ad =>
    refine wpList_append_own _ hgd s x 22 ho base 5 i0 (.int .u8 0) 1 1 Try.underlying22 hi hz0 hz1 hz2 rfl (by decide) v l.length _ hs hown.own ad n2 cap2 (l2.map (Value.int .u8)) hx (by simp [hn2]) ?_ ?_ ?_ ?_ hb ?_
    · intro j u hj
      obtain ⟨hlt, rfl⟩ := map_get hj
      rcases hr.mem with e | ⟨b, off, e, hc⟩
      · rw [e] at hlt; simp at hlt
      · cases e
        rw [add_none]
        exact hc j hlt
    · intro u hu
      obtain ⟨y, _, rfl⟩ := List.mem_map.1 hu
      rfl
    · unfold maxLen; omega
    · omega
    · intro v' w' h1 h2 _
      refine h v' w' ⟨?_, ?_⟩ ?_ h2
      · rw [List.length_append, hn2, List.map_append]; exact h1
      · intro y hy
        rcases List.mem_append.1 hy with hy | hy
        · exact hown.bd y hy
        · exact hr.bd y hy
      · exact (Below.refl _ _).grown h2 hb (fun k hk => (hown.own.lt k hk).1)

/-- One byte. -/
theorem app_u8one {ops : Array Oper} {rest : List Oper} {o : Oper} {a : Act} {Q : Exit → Act → World → Prop} (w : World) (hgd : o.guard = none) (s x : Operand)
    (ho : o.op = .call { callee := .builtin .append, args := #[s, x], argTypes := #[22, 22] }) (base : Nat) (v : Value) (l : List Int) (hs : a.eval s = v)
    (hown : OB w base v l) (y : Int) (hx : a.eval x = .slice (some ⟨w.heap.size, 0, none⟩) 1 1) (hy : 0 ≤ y ∧ y ≤ 255) (hn : l.length ≤ 100000000) (hb : base ≤ w.heap.size)
    (h : ∀ v' w', OB w' base v' (l ++ [y]) → Below base w w' → (w.alloc (.cells #[.int .u8 y] 5)).grownBy w' v.ownBlock → wpList Try.prog ops Q rest (a.put o.dst v') w') :
    wpList Try.prog ops Q (o :: rest) a (w.alloc (.cells #[.int .u8 y] 5)) := by
  have hba : Below base w (w.alloc (.cells #[.int .u8 y] 5)) := (Below.refl _ _).alloc hb _
  refine app_u8 _ hgd s x ho base v l hs (hown.below (Nat.le_refl _) ((Below.refl _ _).alloc (Nat.le_refl _) _)) (some ⟨w.heap.size, 0, none⟩) [y] 1 1 rfl hx ⟨?_, Or.inr ⟨w.heap.size, 0, rfl, ?_⟩⟩ (by intro h; cases h) (by omega) (by simp; omega) ?_
  · intro z hz; simp at hz; subst hz; exact hy
  · intro i hi
    simp at hi
    subst hi
    simp
  · intro v' w' h1 h2 h3
    exact h v' w' h1 (hba.trans h2) h3
end Go.Proofs.Ytebgibjokljlbaa

/- Bytes appended to bytes of the call's own, whatever the two slices' types: what it owns then, and that nothing else turns; in a plain row of operations and in a region that draws its order; no condition but that there are at most a thousand million. -/
namespace Go.Proofs.Ytebgibjokljlbaa
open Go.RowKit
set_option linter.unusedVariables false

theorem append_types {T U : TypeId} (hT : Try.prog.underlying T = some (.slice 5)) (hU : Try.prog.underlying U = some (.slice 5)) (ty : TypeId) (a : Option Addr) (n c : Nat) (x : Value) (w : World) :
    (Builtin.append_ #[T, U] ty #[.slice a n c, x]).run Try.prog w = (Builtin.append_ #[T, T] ty #[.slice a n c, x]).run Try.prog w := by
  obtain ⟨i0, hi, hz0, hz1, hz2⟩ := info_parts info_u8
  simp [Builtin.append_, run_underlying hT, run_underlying hU, sizeOf, typeInfo, hi]

theorem run_app (T U : TypeId) (hT : Try.prog.underlying T = some (.slice 5)) (hU : Try.prog.underlying U = some (.slice 5)) (ty : TypeId) (w : World) (base : Nat) (v : Value) (l : List Int)
    (hown : OB w base v l) (ad : Option Addr) (l2 : List Int) (n2 cap2 : Nat) (hn2 : l2.length = n2) (hr : RB w ad l2) (hnil : ad = none → cap2 = 0) (hn : l.length + n2 ≤ 1000000000) (hb : base ≤ w.heap.size) :
    ∃ v' w', (Builtin.append_ #[T, U] ty #[v, .slice ad n2 cap2]).run Try.prog w = .ok v' w' ∧ OB w' base v' (l ++ l2) ∧ Below base w w' ∧ w.grownBy w' v.ownBlock ∧ (v'.ownBlock = v.ownBlock ∨ v'.ownBlock = some w.heap.size) := by
  obtain ⟨i0, hi, hz0, hz1, hz2⟩ := info_parts info_u8
  have hv : ∃ a n c, v = .slice a n c := by obtain ⟨a, c, e, _⟩ := hown.rb; exact ⟨a, _, c, e⟩
  have hty : ∀ x, (Builtin.append_ #[T, U] ty #[v, x]).run Try.prog w = (Builtin.append_ #[T, T] ty #[v, x]).run Try.prog w := by
    obtain ⟨a, n, c, rfl⟩ := hv
    exact fun x => append_types hT hU ty a n c x w
  rw [hty]
  clear hv hty
  cases ad with
  | none =>
    have e1 := hnil rfl
    have e2 : l2 = [] := by
      rcases hr.mem with e | ⟨b, off, e, _⟩
      · exact e
      · cases e
    subst e1 e2
    simp at hn2
    subst hn2
    have hrun := run_append_owned_none (P := Try.prog) w base T ty 5 i0 1 hT hi v l.length _ hown.own
    exact ⟨v, w, hrun, by rw [List.append_nil]; exact hown, Below.refl _ _, World.grownBy.refl _ _, Or.inl rfl⟩
  | some ad =>
    obtain ⟨v', w', hrun, h1, h2, _, h4⟩ := run_append_own_at (P := Try.prog) w base T ty 5 i0 (.int .u8 0) 1 1 hT hi hz0 hz1 hz2 rfl (by decide) v l.length _ hown.own ad n2 cap2 (l2.map (Value.int .u8)) (by simp [hn2]) (by
      intro j u hj
      obtain ⟨hlt, rfl⟩ := map_get hj
      rcases hr.mem with e | ⟨b, off, e, hc⟩
      · rw [e] at hlt; simp at hlt
      · cases e
        rw [add_none]
        exact hc j hlt) (by
      intro u hu
      obtain ⟨y, _, rfl⟩ := List.mem_map.1 hu
      rfl) (by unfold maxLen; omega) (by omega) hb
    refine ⟨v', w', hrun, ⟨?_, ?_⟩, ?_, h2, h4⟩
    · rw [List.length_append, hn2, List.map_append]; exact h1
    · intro y hy
      rcases List.mem_append.1 hy with hy | hy
      · exact hown.bd y hy
      · exact hr.bd y hy
    · exact (Below.refl _ _).grown h2 hb (fun k hk => (hown.own.lt k hk).1)

section
variable {ops : Array Oper} {rest : List Oper} {o : Oper} {a : Act} {Q : Exit → Act → World → Prop} {K : Act → World → Prop} {E : Prop}

/-- In a plain row of operations. -/
theorem app_pl (w : World) (hgd : o.guard = none) (s x : Operand) (T U : TypeId) (ho : o.op = .call { callee := .builtin .append, args := #[s, x], argTypes := #[T, U] })
    (hT : Try.prog.underlying T = some (.slice 5)) (hU : Try.prog.underlying U = some (.slice 5)) (base : Nat) (v : Value) (l : List Int) (hs : a.eval s = v)
    (hown : OB w base v l) (ad : Option Addr) (l2 : List Int) (n2 cap2 : Nat) (hn2 : l2.length = n2) (hx : a.eval x = .slice ad n2 cap2) (hr : RB w ad l2) (hnil : ad = none → cap2 = 0) (hn : l.length + n2 ≤ 1000000000) (hb : base ≤ w.heap.size)
    (h : ∀ v' w', OB w' base v' (l ++ l2) → Below base w w' → w.grownBy w' v.ownBlock → (v'.ownBlock = v.ownBlock ∨ v'.ownBlock = some w.heap.size) → wpList Try.prog ops Q rest (a.put o.dst v') w') :
    wpList Try.prog ops Q (o :: rest) a w := by
  obtain ⟨v', w', hrun, h1, h2, h3, h4⟩ := run_app T U hT hU o.type w base v l hown ad l2 n2 cap2 hn2 hr hnil hn hb
  refine wpList_plain hgd fun K hK => ?_
  unfold Oper.wp execOp
  simp only [ho, resolve, invoke, builtin, Sem.run_bind, Sem.run_pure, Result.andThen_ok, List.map_toArray, List.map_cons, List.map_nil, hs, hx, hrun]
  exact hK _ _ (h v' w' h1 h2 h3 h4)

/-- At a step of a region that draws its order. -/
theorem app_st (w : World) (hgd : o.guard = none) (s x : Operand) (T U : TypeId) (ho : o.op = .call { callee := .builtin .append, args := #[s, x], argTypes := #[T, U] })
    (hT : Try.prog.underlying T = some (.slice 5)) (hU : Try.prog.underlying U = some (.slice 5)) (base : Nat) (v : Value) (l : List Int) (hs : a.eval s = v)
    (hown : OB w base v l) (ad : Option Addr) (l2 : List Int) (n2 cap2 : Nat) (hn2 : l2.length = n2) (hx : a.eval x = .slice ad n2 cap2) (hr : RB w ad l2) (hnil : ad = none → cap2 = 0) (hn : l.length + n2 ≤ 1000000000) (hb : base ≤ w.heap.size)
    (h : ∀ v' w', OB w' base v' (l ++ l2) → Below base w w' → w.grownBy w' v.ownBlock → (v'.ownBlock = v.ownBlock ∨ v'.ownBlock = some w.heap.size) → K (a.put o.dst v') w') :
    if Region.wanted o (yielded ops a.tmps) = true then Oper.wp Try.prog o a w K Q else E := by
  have hw : Region.wanted o (yielded ops a.tmps) = true := by simp [Region.wanted, hgd]
  rw [if_pos hw]
  obtain ⟨v', w', hrun, h1, h2, h3, h4⟩ := run_app T U hT hU o.type w base v l hown ad l2 n2 cap2 hn2 hr hnil hn hb
  unfold Oper.wp execOp
  simp only [ho, resolve, invoke, builtin, Sem.run_bind, Sem.run_pure, Result.andThen_ok, List.map_toArray, List.map_cons, List.map_nil, hs, hx, hrun]
  exact h v' w' h1 h2 h3 h4
end
end Go.Proofs.Ytebgibjokljlbaa
