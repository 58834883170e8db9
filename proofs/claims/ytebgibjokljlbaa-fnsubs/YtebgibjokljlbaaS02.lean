/- Bytes appended to a slice of bytes that the call itself made: it owns the bytes behind its own, and nothing but that slice turns; no condition but that there are at most a thousand million. -/
import Derived.Test.YtebgibjokljlbaaRows
import Derived.WalkSmall
import Derived.Maps.AppendAt
import Derived.Deep.RegionHeld3
import Derived.Deep.QuietTactic
import Derived.BigQuiet
import Derived.Test.YtebgibjokljlbaaS01
namespace Go.Proofs.Ytebgibjokljlbaa
open Go.RowKit
set_option linter.unusedVariables false
theorem map_get {l : List Int} {j : Nat} {u : Value} (h : (l.map (Value.int .u8))[j]? = some u) : j < l.length ∧ u = .int .u8 (l.getD j 0) := by
  rw [List.getElem?_map] at h
  cases hj : l[j]? with
  | none => rw [hj] at h; cases h
  | some y =>
    rw [hj] at h
    have hlt : j < l.length := by
      apply Classical.byContradiction; intro hn
      rw [List.getElem?_eq_none (by omega)] at hj; cases hj
    refine ⟨hlt, ?_⟩
    rw [List.getD_eq_getElem?_getD, hj]
    simpa using h.symm
theorem app_u8 {ops : Array Oper} {rest : List Oper} {o : Oper} {a : Act} {Q : Exit → Act → World → Prop} (w : World) (hgd : o.guard = none) (s x : Operand)
    (ho : o.op = .call { callee := .builtin .append, args := #[s, x], argTypes := #[22, 22] }) (base : Nat) (v : Value) (l : List Int) (hs : a.eval s = v)
    (hown : OB w base v l) (ad : Option Addr) (l2 : List Int) (n2 cap2 : Nat) (hn2 : l2.length = n2) (hx : a.eval x = .slice ad n2 cap2) (hr : RB w ad l2) (hnil : ad = none → cap2 = 0) (hn : l.length + n2 ≤ 1000000000) (hb : base ≤ w.heap.size)
    (h : ∀ v' w', OB w' base v' (l ++ l2) → Below base w w' → w.grownBy w' v.ownBlock → wpList Try.prog ops Q rest (a.put o.dst v') w') :
    wpList Try.prog ops Q (o :: rest) a w := by
  obtain ⟨i0, hi, hz0, hz1, hz2⟩ := info_parts info_u8
  cases ad with
  | none =>
    have e1 := hnil rfl
    have e2 : l2 = [] := by
      rcases hr.mem with e | ⟨b, off, e, _⟩
      · exact e
      · cases e
    subst e1 e2
    simp at hn2
    subst hn2
    refine wpList_plain hgd fun K hK => ?_
    have hrun := run_append_owned_none (P := Try.prog) w base 22 o.type 5 i0 1 Try.underlying22 hi v l.length _ hown.own
    unfold Oper.wp execOp
    simp only [ho, resolve, invoke, builtin, Sem.run_bind, Sem.run_pure, Result.andThen_ok, List.map_toArray, List.map_cons, List.map_nil, hs, hx, hrun]
    exact hK _ _ (h v w (by rw [List.append_nil]; exact hown) (Below.refl _ _) (World.grownBy.refl _ _))
  | some ad =>
    refine wpList_append_own _ hgd s x 22 ho base 5 i0 (.int .u8 0) 1 1 Try.underlying22 hi hz0 hz1 hz2 rfl (by decide) v l.length _ hs hown.own ad n2 cap2 (l2.map (Value.int .u8)) hx (by simp [hn2]) ?_ ?_ ?_ ?_ hb ?_
    · intro j u hj
      obtain ⟨hlt, rfl⟩ := map_get hj
      rcases hr.mem with e | ⟨b, off, e, hc⟩
      · rw [e] at hlt; simp at hlt
      · cases e
        rw [add_none]
        exact hc j hlt
    · intro u hu
      obtain ⟨y, _, rfl⟩ := List.mem_map.1 hu
      rfl
    · unfold maxLen; omega
    · omega
    · intro v' w' h1 h2 _
      refine h v' w' ⟨?_, ?_⟩ ?_ h2
      · rw [List.length_append, hn2, List.map_append]; exact h1
      · intro y hy
        rcases List.mem_append.1 hy with hy | hy
        · exact hown.bd y hy
        · exact hr.bd y hy
      · exact (Below.refl _ _).grown h2 hb (fun k hk => (hown.own.lt k hk).1)
theorem app_u8one {ops : Array Oper} {rest : List Oper} {o : Oper} {a : Act} {Q : Exit → Act → World → Prop} (w : World) (hgd : o.guard = none) (s x : Operand)
    (ho : o.op = .call { callee := .builtin .append, args := #[s, x], argTypes := #[22, 22] }) (base : Nat) (v : Value) (l : List Int) (hs : a.eval s = v)
    (hown : OB w base v l) (y : Int) (hx : a.eval x = .slice (some ⟨w.heap.size, 0, none⟩) 1 1) (hy : 0 ≤ y ∧ y ≤ 255) (hn : l.length ≤ 100000000) (hb : base ≤ w.heap.size)
    (h : ∀ v' w', OB w' base v' (l ++ [y]) → Below base w w' → (w.alloc (.cells #[.int .u8 y] 5)).grownBy w' v.ownBlock → wpList Try.prog ops Q rest (a.put o.dst v') w') :
    wpList Try.prog ops Q (o :: rest) a (w.alloc (.cells #[.int .u8 y] 5)) := by
  have hba : Below base w (w.alloc (.cells #[.int .u8 y] 5)) := (Below.refl _ _).alloc hb _
  refine app_u8 _ hgd s x ho base v l hs (hown.below (Nat.le_refl _) ((Below.refl _ _).alloc (Nat.le_refl _) _)) (some ⟨w.heap.size, 0, none⟩) [y] 1 1 rfl hx ⟨?_, Or.inr ⟨w.heap.size, 0, rfl, ?_⟩⟩ (by intro h; cases h) (by omega) (by simp; omega) ?_
  · intro z hz; simp at hz; subst hz; exact hy
  · intro i hi
    simp at hi
    subst hi
    simp
  · intro v' w' h1 h2 h3
    exact h v' w' h1 (hba.trans h2) h3
end Go.Proofs.Ytebgibjokljlbaa
namespace Go.Proofs.Ytebgibjokljlbaa
open Go.RowKit
set_option linter.unusedVariables false
theorem append_types {T U : TypeId} (hT : Try.prog.underlying T = some (.slice 5)) (hU : Try.prog.underlying U = some (.slice 5)) (ty : TypeId) (a : Option Addr) (n c : Nat) (x : Value) (w : World) :
    (Builtin.append_ #[T, U] ty #[.slice a n c, x]).run Try.prog w = (Builtin.append_ #[T, T] ty #[.slice a n c, x]).run Try.prog w := by
  obtain ⟨i0, hi, hz0, hz1, hz2⟩ := info_parts info_u8
  simp [Builtin.append_, run_underlying hT, run_underlying hU, sizeOf, typeInfo, hi]
theorem run_app (T U : TypeId) (hT : Try.prog.underlying T = some (.slice 5)) (hU : Try.prog.underlying U = some (.slice 5)) (ty : TypeId) (w : World) (base : Nat) (v : Value) (l : List Int)
    (hown : OB w base v l) (ad : Option Addr) (l2 : List Int) (n2 cap2 : Nat) (hn2 : l2.length = n2) (hr : RB w ad l2) (hnil : ad = none → cap2 = 0) (hn : l.length + n2 ≤ 1000000000) (hb : base ≤ w.heap.size) :
    ∃ v' w', (Builtin.append_ #[T, U] ty #[v, .slice ad n2 cap2]).run Try.prog w = .ok v' w' ∧ OB w' base v' (l ++ l2) ∧ Below base w w' ∧ w.grownBy w' v.ownBlock ∧ (v'.ownBlock = v.ownBlock ∨ v'.ownBlock = some w.heap.size) := by
  obtain ⟨i0, hi, hz0, hz1, hz2⟩ := info_parts info_u8
  have hv : ∃ a n c, v = .slice a n c := by obtain ⟨a, c, e, _⟩ := hown.rb; exact ⟨a, _, c, e⟩
  have hty : ∀ x, (Builtin.append_ #[T, U] ty #[v, x]).run Try.prog w = (Builtin.append_ #[T, T] ty #[v, x]).run Try.prog w := by
    obtain ⟨a, n, c, rfl⟩ := hv
    exact fun x => append_types hT hU ty a n c x w
  rw [hty]
  clear hv hty
  cases ad with
  | none =>
    have e1 := hnil rfl
    have e2 : l2 = [] := by
      rcases hr.mem with e | ⟨b, off, e, _⟩
      · exact e
      · cases e
    subst e1 e2
    simp at hn2
    subst hn2
    have hrun := run_append_owned_none (P := Try.prog) w base T ty 5 i0 1 hT hi v l.length _ hown.own
    exact ⟨v, w, hrun, by rw [List.append_nil]; exact hown, Below.refl _ _, World.grownBy.refl _ _, Or.inl rfl⟩
  | some ad =>
    obtain ⟨v', w', hrun, h1, h2, _, h4⟩ := run_append_own_at (P := Try.prog) w base T ty 5 i0 (.int .u8 0) 1 1 hT hi hz0 hz1 hz2 rfl (by decide) v l.length _ hown.own ad n2 cap2 (l2.map (Value.int .u8)) (by simp [hn2]) (by
      intro j u hj
      obtain ⟨hlt, rfl⟩ := map_get hj
      rcases hr.mem with e | ⟨b, off, e, hc⟩
      · rw [e] at hlt; simp at hlt
      · cases e
        rw [add_none]
        exact hc j hlt) (by
      intro u hu
      obtain ⟨y, _, rfl⟩ := List.mem_map.1 hu
      rfl) (by unfold maxLen; omega) (by omega) hb
    refine ⟨v', w', hrun, ⟨?_, ?_⟩, ?_, h2, h4⟩
    · rw [List.length_append, hn2, List.map_append]; exact h1
    · intro y hy
      rcases List.mem_append.1 hy with hy | hy
      · exact hown.bd y hy
      · exact hr.bd y hy
    · exact (Below.refl _ _).grown h2 hb (fun k hk => (hown.own.lt k hk).1)
section
variable {ops : Array Oper} {rest : List Oper} {o : Oper} {a : Act} {Q : Exit → Act → World → Prop} {K : Act → World → Prop} {E : Prop}
theorem app_pl (w : World) (hgd : o.guard = none) (s x : Operand) (T U : TypeId) (ho : o.op = .call { callee := .builtin .append, args := #[s, x], argTypes := #[T, U] })
    (hT : Try.prog.underlying T = some (.slice 5)) (hU : Try.prog.underlying U = some (.slice 5)) (base : Nat) (v : Value) (l : List Int) (hs : a.eval s = v)
    (hown : OB w base v l) (ad : Option Addr) (l2 : List Int) (n2 cap2 : Nat) (hn2 : l2.length = n2) (hx : a.eval x = .slice ad n2 cap2) (hr : RB w ad l2) (hnil : ad = none → cap2 = 0) (hn : l.length + n2 ≤ 1000000000) (hb : base ≤ w.heap.size)
    (h : ∀ v' w', OB w' base v' (l ++ l2) → Below base w w' → w.grownBy w' v.ownBlock → (v'.ownBlock = v.ownBlock ∨ v'.ownBlock = some w.heap.size) → wpList Try.prog ops Q rest (a.put o.dst v') w') :
    wpList Try.prog ops Q (o :: rest) a w := by
  obtain ⟨v', w', hrun, h1, h2, h3, h4⟩ := run_app T U hT hU o.type w base v l hown ad l2 n2 cap2 hn2 hr hnil hn hb
  refine wpList_plain hgd fun K hK => ?_
  unfold Oper.wp execOp
  simp only [ho, resolve, invoke, builtin, Sem.run_bind, Sem.run_pure, Result.andThen_ok, List.map_toArray, List.map_cons, List.map_nil, hs, hx, hrun]
  exact hK _ _ (h v' w' h1 h2 h3 h4)
theorem app_st (w : World) (hgd : o.guard = none) (s x : Operand) (T U : TypeId) (ho : o.op = .call { callee := .builtin .append, args := #[s, x], argTypes := #[T, U] })
    (hT : Try.prog.underlying T = some (.slice 5)) (hU : Try.prog.underlying U = some (.slice 5)) (base : Nat) (v : Value) (l : List Int) (hs : a.eval s = v)
    (hown : OB w base v l) (ad : Option Addr) (l2 : List Int) (n2 cap2 : Nat) (hn2 : l2.length = n2) (hx : a.eval x = .slice ad n2 cap2) (hr : RB w ad l2) (hnil : ad = none → cap2 = 0) (hn : l.length + n2 ≤ 1000000000) (hb : base ≤ w.heap.size)
    (h : ∀ v' w', OB w' base v' (l ++ l2) → Below base w w' → w.grownBy w' v.ownBlock → (v'.ownBlock = v.ownBlock ∨ v'.ownBlock = some w.heap.size) → K (a.put o.dst v') w') :
    if Region.wanted o (yielded ops a.tmps) = true then Oper.wp Try.prog o a w K Q else E := by
  have hw : Region.wanted o (yielded ops a.tmps) = true := by simp [Region.wanted, hgd]
  rw [if_pos hw]
  obtain ⟨v', w', hrun, h1, h2, h3, h4⟩ := run_app T U hT hU o.type w base v l hown ad l2 n2 cap2 hn2 hr hnil hn hb
  unfold Oper.wp execOp
  simp only [ho, resolve, invoke, builtin, Sem.run_bind, Sem.run_pure, Result.andThen_ok, List.map_toArray, List.map_cons, List.map_nil, hs, hx, hrun]
  exact h v' w' h1 h2 h3 h4
end
end Go.Proofs.Ytebgibjokljlbaa
namespace Go.Proofs.Ytebgibjokljlbaa
open Go.RowKit
set_option linter.unusedVariables false
structure Src (w : World) (sb : Nat) (v : Value) (K : Int) : Prop where
  code : w.cell? ⟨sb, 0, none⟩ = some v
  cnt : ∃ k : Int, 0 ≤ k ∧ k ≤ K ∧ w.cell? ⟨sb, 1, none⟩ = some (.int .i64 k)
  fz : w.frozen? ⟨sb, 1, none⟩ = false
  lt : sb < w.heap.size
structure Step (sb : Nat) (w w' : World) : Prop where
  os : w'.os = w.os
  tape : w'.tape = w.tape
  output : w'.output = w.output
  size : w'.heap.size = w.heap.size
  block : ∀ b, b ≠ sb → w'.heap[b]? = w.heap[b]?
theorem Step.refl (sb : Nat) (w : World) : Step sb w w := ⟨rfl, rfl, rfl, rfl, fun _ _ => rfl⟩
theorem Step.trans {sb : Nat} {a b c : World} (h : Step sb a b) (k : Step sb b c) : Step sb a c :=
  ⟨k.os.trans h.os, k.tape.trans h.tape, k.output.trans h.output, k.size.trans h.size, fun i hi => (k.block i hi).trans (h.block i hi)⟩
theorem Step.below {sb B : Nat} {w w' : World} (h : Step sb w w') (hB : B ≤ sb) : Below B w w' :=
  ⟨h.os, h.tape, h.output, Nat.le_of_eq h.size.symm, fun k hk => h.block k (by omega)⟩
theorem Step.set (sb : Nat) (w : World) (o : Nat) (v : Value) (m : Nat) : Step sb w ((w.setCell ⟨sb, o, none⟩ v).drewN m) :=
  ⟨rfl, rfl, rfl, by simp [World.setCell], fun b hb => by
    show (w.setCell ⟨sb, o, none⟩ v).heap[b]? = w.heap[b]?
    exact Below.heap_setCell _ _ _ _ (by simpa using hb)⟩
theorem Step.cell {sb : Nat} {w w' : World} (h : Step sb w w') {p : Addr} (hp : p.block ≠ sb) : w'.cell? p = w.cell? p := World.cell?_of_block (w := w) (h.block p.block hp)
theorem Step.frozen {sb : Nat} {w w' : World} (h : Step sb w w') {p : Addr} (hp : p.block ≠ sb) : w'.frozen? p = w.frozen? p := World.frozen?_of_block (w := w) (h.block p.block hp)
set_option maxHeartbeats 400000 in
theorem next_row (sb : Nat) (b off len cap : Nat) (k n : Int) (g : Nat → Int) (w : World)
    (h0 : w.cell? ⟨sb, 0, none⟩ = some (.slice (some ⟨b, off, none⟩) len cap)) (h1 : w.cell? ⟨sb, 1, none⟩ = some (.int .i64 k)) (hf : w.frozen? ⟨sb, 1, none⟩ = false)
    (hk0 : 0 ≤ k) (hk1 : k ≤ 1000000) (hp : 0 < len) (hm : len ≤ maxLen) (hn : 1 ≤ n) (hne : b ≠ sb)
    (hc : ∀ i, i < len → w.cell? ⟨b, off + i, none⟩ = some (.int .u8 (g i)) ∧ 0 ≤ g i ∧ g i ≤ 255) :
    Calls Try.prog 39 #[.pointer (some ⟨sb, 0, none⟩), .int .i64 n] w fun e w' => ∃ r m, e = .returned (.int .i64 r) ∧ 0 ≤ r ∧ r < n ∧ w' = (w.setCell ⟨sb, 1, none⟩ (.int .i64 (k + 1))).drewN m := by
  unfold maxLen at hm
  have hl : (0 : Int) < (len : Int) := by omega
  have hlz : ((len : Int) == 0) = false := by simp; omega
  have i0 : 0 ≤ k % (len : Int) := Int.emod_nonneg _ (by omega)
  have i1 : k % (len : Int) < (len : Int) := Int.emod_lt_of_pos _ hl
  have j0 : 0 ≤ (k + 1) % (len : Int) := Int.emod_nonneg _ (by omega)
  have j1 : (k + 1) % (len : Int) < (len : Int) := Int.emod_lt_of_pos _ hl
  have q0 : 0 ≤ k / (len : Int) := Int.ediv_nonneg hk0 (by omega)
  have q1 : k / (len : Int) ≤ 1000000 := Int.le_trans (Int.ediv_le_self _ hk0) hk1
  obtain ⟨c0, a0, a1⟩ := hc (k % (len : Int)).toNat (by omega)
  obtain ⟨c1, b0, b1⟩ := hc ((k + 1) % (len : Int)).toNat (by omega)
  clear hc
  generalize g (k % (len : Int)).toNat = x at *
  generalize g ((k + 1) % (len : Int)).toNat = y at *
  by_cases h200 : 200 < n
  · go_enter Try.func39, Try.ntmps39
    go_wp2
    go_quiet (fail)
    go_wp2
    go_quiet (fail)
    go_wp2
    go_ret
    exact ⟨_, _, rfl, Int.emod_nonneg _ (by omega), Int.emod_lt_of_pos _ (by omega), rfl⟩
  · go_enter Try.func39, Try.ntmps39
    go_wp2
    go_quiet (fail)
    go_wp2
    go_ret
    exact ⟨_, _, rfl, Int.emod_nonneg _ (by omega), Int.emod_lt_of_pos _ (by omega), rfl⟩
set_option maxHeartbeats 400000 in
theorem next_nil (sb cap : Nat) (a : Option Addr) (k n : Int) (w : World)
    (h0 : w.cell? ⟨sb, 0, none⟩ = some (.slice a 0 cap)) (h1 : w.cell? ⟨sb, 1, none⟩ = some (.int .i64 k)) (hf : w.frozen? ⟨sb, 1, none⟩ = false)
    (hk0 : 0 ≤ k) (hk1 : k ≤ 1000000) (hn : 1 ≤ n) :
    Calls Try.prog 39 #[.pointer (some ⟨sb, 0, none⟩), .int .i64 n] w fun e w' => ∃ r m, e = .returned (.int .i64 r) ∧ 0 ≤ r ∧ r < n ∧ w' = (w.setCell ⟨sb, 1, none⟩ (.int .i64 (k + 1))).drewN m := by
  go_enter Try.func39, Try.ntmps39
  go_wp2
  go_ret
  exact ⟨_, 0, rfl, Int.emod_nonneg _ (by omega), Int.emod_lt_of_pos _ (by omega), rfl⟩
theorem Src.step {w : World} {sb : Nat} {v : Value} {K k : Int} (h : Src w sb v K) (hk0 : 0 ≤ k) (hk1 : k ≤ K) (m : Nat) : Src ((w.setCell ⟨sb, 1, none⟩ (.int .i64 (k + 1))).drewN m) sb v (K + 1) := by
  obtain ⟨h0, ⟨k', _, _, h1⟩, hf, hl⟩ := h
  refine ⟨?_, ⟨k + 1, by omega, by omega, ?_⟩, ?_, ?_⟩
  · go_simp
  · go_simp
  · go_simp
  · simpa [World.setCell] using hl
theorem sNext (sb : Nat) (a : Option Addr) (len cap : Nat) (zs : List Int) (K n : Int) (w : World)
    (hs : Src w sb (.slice a len cap) K) (hr : BRow .u8 w a len cap zs) (hl : RowLt sb a zs) (hK : K ≤ 1000000) (hn : 1 ≤ n) :
    Calls Try.prog 39 #[.pointer (some ⟨sb, 0, none⟩), .int .i64 n] w fun e w' => ∃ r, e = .returned (.int .i64 r) ∧ 0 ≤ r ∧ r < n ∧ Step sb w w' ∧ Src w' sb (.slice a len cap) (K + 1) := by
  have hs' := hs
  obtain ⟨h0, ⟨k, hk0, hk1, h1⟩, hf, hlt⟩ := hs
  by_cases hz : len = 0
  · subst hz
    refine (next_nil sb cap a k n w h0 h1 hf hk0 (by omega) hn).mono ?_
    rintro e w' ⟨r, m, rfl, r0, r1, rfl⟩
    exact ⟨r, rfl, r0, r1, Step.set _ _ _ _ _, hs'.step hk0 hk1 m⟩
  · have hm : len ≤ maxLen := by
      rcases hr with ⟨_, h, _⟩ | ⟨x, _, g1, g2, _⟩
      · omega
      · exact Nat.le_trans g1 g2
    obtain ⟨b, off, rfl, hc⟩ := hr.byte (by omega)
    have hz2 : 0 < zs.length := by
      rcases hr with ⟨_, h, _⟩ | ⟨x, _, g1, _, g3, _⟩ <;> omega
    have hb := hl _ rfl hz2
    refine (next_row sb b off len cap k n (fun i => zs.getD i 0) w h0 h1 hf hk0 (by omega) (by omega) hm hn (by simp at hb; omega) hc).mono ?_
    rintro e w' ⟨r, m, rfl, r0, r1, rfl⟩
    exact ⟨r, rfl, r0, r1, Step.set _ _ _ _ _, hs'.step hk0 hk1 m⟩
theorem sPick (sb : Nat) (a : Option Addr) (len cap : Nat) (zs : List Int) (K : Int) (lb nl : Nat) (g : Nat → Int) (w : World)
    (hs : Src w sb (.slice a len cap) K) (hr : BRow .u8 w a len cap zs) (hl : RowLt sb a zs) (hK : K ≤ 1000000) (hlb : lb ≠ sb) (hnl : 1 ≤ nl) (hmx : nl ≤ 1000)
    (hc : ∀ i, i < nl → w.cell? ⟨lb, i, none⟩ = some (.int .i64 (g i))) :
    Calls Try.prog 41 #[.pointer (some ⟨sb, 0, none⟩), .slice (some ⟨lb, 0, none⟩) nl nl] w fun e w' => ∃ i, e = .returned (.int .i64 (g i)) ∧ i < nl ∧ Step sb w w' ∧ Src w' sb (.slice a len cap) (K + 1) := by
  go_enter Try.func41, Try.ntmps41
  go_wp2_with fail
  refine (sNext sb a len cap zs K nl w hs hr hl hK (by omega)).mono ?_
  rintro e w1 ⟨r, rfl, r0, r1, st, sr⟩
  have hcr := hc r.toNat (by omega)
  rw [← st.cell (p := ⟨lb, r.toNat, none⟩) hlb] at hcr
  clear hc
  go_wp2
  go_ret
  exact ⟨r.toNat, rfl, by omega, st, sr⟩
theorem laid_list (w : World) (l : List Int) (t : TypeId) : ∀ i, i < l.length → (w.alloc (.cells (l.map (Value.int .i64)).toArray t)).cell? ⟨w.heap.size, i, none⟩ = some (.int .i64 (l.getD i 0)) := by
  intro i hi
  have e : (l.map (Value.int .i64)).toArray[i]? = some (.int .i64 (l.getD i 0)) := by
    simp [List.getElem?_eq_getElem hi]
  rw [World.cell?_alloc_new, e]
theorem Src.alloc {w : World} {sb : Nat} {v : Value} {K : Int} (h : Src w sb v K) (o : Obj) : Src (w.alloc o) sb v K := by
  obtain ⟨h0, ⟨k, k0, k1, h1⟩, hf, hl⟩ := h
  have hb : Below w.heap.size w (w.alloc o) := (Below.refl _ _).alloc (Nat.le_refl _) o
  exact ⟨(hb.cell (p := ⟨sb, 0, none⟩) hl).trans h0, ⟨k, k0, k1, (hb.cell (p := ⟨sb, 1, none⟩) hl).trans h1⟩, (hb.frozen (p := ⟨sb, 1, none⟩) hl).trans hf, by simp; omega⟩
theorem Src.bel {w w' : World} {sb : Nat} {v : Value} {K : Int} (h : Src w sb v K) (hb : Below w.heap.size w w') : Src w' sb v K := by
  obtain ⟨h0, ⟨k, k0, k1, h1⟩, hf, hl⟩ := h
  exact ⟨(hb.cell (p := ⟨sb, 0, none⟩) hl).trans h0, ⟨k, k0, k1, (hb.cell (p := ⟨sb, 1, none⟩) hl).trans h1⟩, (hb.frozen (p := ⟨sb, 1, none⟩) hl).trans hf, Nat.lt_of_lt_of_le hl hb.size⟩
theorem Src.mono {w : World} {sb : Nat} {v : Value} {K K' : Int} (h : Src w sb v K) (hK : K ≤ K') : Src w sb v K' := by
  obtain ⟨h0, ⟨k, k0, k1, h1⟩, hf, hl⟩ := h
  exact ⟨h0, ⟨k, k0, by omega, h1⟩, hf, hl⟩
theorem sSource (a : Option Addr) (len cap : Nat) (w : World) :
    Calls Try.prog 37 #[.slice a len cap] w fun e w' => e = .returned (.pointer (some ⟨w.heap.size, 0, none⟩)) ∧ w' = w.alloc (.cells #[.slice a len cap, .int .i64 0] 138) := by
  go_enter Try.func37, Try.ntmps37
  go_wp2
  go_ret
  exact ⟨rfl, rfl⟩
theorem Src.new (v : Value) (t : TypeId) (w : World) : Src (w.alloc (.cells #[v, .int .i64 0] t)) w.heap.size v 0 :=
  ⟨by go_simp, ⟨0, by omega, by omega, by go_simp⟩, by go_simp, by simp⟩
theorem draw_start {a : Option Addr} {len cap : Nat} {zs : List Int} {w : World} (t : TypeId) (hr : BRow .u8 w a len cap zs) (hl : RowLt w.heap.size a zs) :
    Src (w.alloc (.cells #[.slice a len cap, .int .i64 0] t)) w.heap.size (.slice a len cap) 0 ∧ BRow .u8 (w.alloc (.cells #[.slice a len cap, .int .i64 0] t)) a len cap zs ∧ Below w.heap.size w (w.alloc (.cells #[.slice a len cap, .int .i64 0] t)) := by
  have hb : Below w.heap.size w (w.alloc (.cells #[.slice a len cap, .int .i64 0] t)) := (Below.refl _ _).alloc (Nat.le_refl _) _
  exact ⟨Src.new _ _ _, hr.below hl hb, hb⟩
end Go.Proofs.Ytebgibjokljlbaa
namespace Go.Proofs.Ytebgibjokljlbaa
open Go.RowKit
set_option linter.unusedVariables false
structure Dr (sb : Nat) (w w' : World) : Prop where
  os : w'.os = w.os
  tape : w'.tape = w.tape
  output : w'.output = w.output
  size : w.heap.size ≤ w'.heap.size
  block : ∀ b, b < w.heap.size → b ≠ sb → w'.heap[b]? = w.heap[b]?
theorem Dr.refl (sb : Nat) (w : World) : Dr sb w w := ⟨rfl, rfl, rfl, Nat.le_refl _, fun _ _ _ => rfl⟩
theorem Dr.trans {sb : Nat} {a b c : World} (h : Dr sb a b) (k : Dr sb b c) : Dr sb a c :=
  ⟨k.os.trans h.os, k.tape.trans h.tape, k.output.trans h.output, Nat.le_trans h.size k.size, fun i hi hn => (k.block i (Nat.lt_of_lt_of_le hi h.size) hn).trans (h.block i hi hn)⟩
theorem Step.dr {sb : Nat} {w w' : World} (h : Step sb w w') : Dr sb w w' := ⟨h.os, h.tape, h.output, Nat.le_of_eq h.size.symm, fun b _ hn => h.block b hn⟩
theorem Dr.then {sb B : Nat} {w w1 w2 : World} (h : Dr sb w w1) (k : Below B w1 w2) (hB : w.heap.size ≤ B) : Dr sb w w2 :=
  ⟨k.os.trans h.os, k.tape.trans h.tape, k.output.trans h.output, Nat.le_trans h.size k.size, fun i hi hn => (k.block i (by omega)).trans (h.block i hi hn)⟩
theorem Dr.below {sb : Nat} {w w' : World} (h : Dr sb w w') (hs : sb ≤ w.heap.size) : Below sb w w' := ⟨h.os, h.tape, h.output, h.size, fun k hk => h.block k (by omega) (by omega)⟩
theorem Dr.cell {sb : Nat} {w w' : World} (h : Dr sb w w') {p : Addr} (hp : p.block < w.heap.size) (hn : p.block ≠ sb) : w'.cell? p = w.cell? p := World.cell?_of_block (w := w) (h.block p.block hp hn)
theorem Dr.frozen {sb : Nat} {w w' : World} (h : Dr sb w w') {p : Addr} (hp : p.block < w.heap.size) (hn : p.block ≠ sb) : w'.frozen? p = w.frozen? p := World.frozen?_of_block (w := w) (h.block p.block hp hn)
theorem OB.dr {sb base : Nat} {w w' : World} {v : Value} {l : List Int} (h : OB w base v l) (hd : Dr sb w w') (hs : sb < base) : OB w' base v l := by
  refine ⟨?_, h.bd⟩
  obtain ⟨h1, h2 | ⟨g, cap, cur, e, hg, hh, r⟩⟩ := h.own
  · exact ⟨h1, Or.inl h2⟩
  · have hlt : g < w.heap.size := by
      apply Classical.byContradiction; intro hn
      rw [Array.getElem?_eq_none (by omega)] at hh; cases hh
    exact ⟨h1, Or.inr ⟨g, cap, cur, e, hg, by rw [hd.block g hlt (by omega)]; exact hh, r⟩⟩
theorem Src.below {w w' : World} {sb B : Nat} {v : Value} {K : Int} (h : Src w sb v K) (hb : Below B w w') (hB : sb < B) : Src w' sb v K := by
  obtain ⟨h0, ⟨k, k0, k1, h1⟩, hf, hl⟩ := h
  have := hb.size
  exact ⟨(hb.cell (p := ⟨sb, 0, none⟩) hB).trans h0, ⟨k, k0, k1, (hb.cell (p := ⟨sb, 1, none⟩) hB).trans h1⟩, (hb.frozen (p := ⟨sb, 1, none⟩) hB).trans hf, by omega⟩
theorem sPickD (sb : Nat) (a : Option Addr) (len cap : Nat) (zs : List Int) (K : Int) (l : List Int) (t : TypeId) (w : World)
    (hs : Src w sb (.slice a len cap) K) (hr : BRow .u8 w a len cap zs) (hl : RowLt sb a zs) (hK : K ≤ 1000000) (hn : 1 ≤ l.length) (hx : l.length ≤ 1000) :
    Calls Try.prog 41 #[.pointer (some ⟨sb, 0, none⟩), .slice (some ⟨w.heap.size, 0, none⟩) l.length l.length] (w.alloc (.cells (l.map (Value.int .i64)).toArray t)) fun e w' =>
      ∃ r, e = .returned (.int .i64 r) ∧ r ∈ l ∧ Dr sb w w' ∧ Src w' sb (.slice a len cap) (K + 1) := by
  have hlt := hs.lt
  have hba : Below w.heap.size w (w.alloc (.cells (l.map (Value.int .i64)).toArray t)) := (Below.refl _ _).alloc (Nat.le_refl _) _
  refine (sPick sb a len cap zs K w.heap.size l.length (fun i => l.getD i 0) _ (hs.alloc _) (hr.below hl (hba.mono (Nat.le_of_lt hlt))) hl hK (by omega) hn hx (laid_list w l t)).mono ?_
  rintro e w' ⟨i, rfl, hi, st, sr⟩
  refine ⟨_, rfl, ?_, ((Dr.refl _ _).then hba (Nat.le_refl _)).trans st.dr, sr⟩
  rw [List.getD_eq_getElem?_getD, List.getElem?_eq_getElem hi]
  exact List.getElem_mem hi
theorem sChance (sb : Nat) (a : Option Addr) (len cap : Nat) (zs : List Int) (K n : Int) (w : World)
    (hs : Src w sb (.slice a len cap) K) (hr : BRow .u8 w a len cap zs) (hl : RowLt sb a zs) (hK : K ≤ 1000000) (hn : 1 ≤ n) :
    Calls Try.prog 52 #[.pointer (some ⟨sb, 0, none⟩), .int .i64 n] w fun e w' => ∃ r, e = .returned (.bool r) ∧ Step sb w w' ∧ Src w' sb (.slice a len cap) (K + 1) := by
  go_enter Try.func52, Try.ntmps52
  go_wp2_with fail
  refine (sNext sb a len cap zs K n w hs hr hl hK hn).mono ?_
  rintro e w1 ⟨r, rfl, r0, r1, st, sr⟩
  go_wp2
  go_ret
  exact ⟨_, rfl, st, sr⟩
set_option maxHeartbeats 1000000 in
theorem sSome (sb : Nat) (a : Option Addr) (len cap : Nat) (zs : List Int) (K n : Int) (w : World)
    (hs : Src w sb (.slice a len cap) K) (hr : BRow .u8 w a len cap zs) (hl : RowLt sb a zs) (hK : K ≤ 900000) (hn0 : 0 ≤ n) (hn : n ≤ 9) :
    Calls Try.prog 95 #[.pointer (some ⟨sb, 0, none⟩), .int .i64 n] w fun e w' => ∃ v, e = .returned v ∧ ∃ l, OB w' w.heap.size v l ∧ l.length ≤ 9 ∧ Dr sb w w' ∧ Src w' sb (.slice a len cap) (K + 27) := by
  have hlt := hs.lt
  have HR : Hid (∀ W, Dr sb w W → BRow .u8 W a len cap zs) := fun W h => hr.below hl (h.below (Nat.le_of_lt hlt))
  have HS : Hid _ := hs
  clear hr hs
  go_enter Try.func95, Try.ntmps95
  go_wp2
  go_loopw [1, 5] (fun t1 v wr => ∃ (k : Nat) (l : List Int), t1 = .int .i64 (n - k) ∧ (k : Int) ≤ n ∧ Hid (l.length = k) ∧ Hid (OB wr w.heap.size v l) ∧ Hid (Dr sb w wr) ∧ Hid (Src wr sb (.slice a len cap) (K + 3 * k))) (fun t1 _ _ => (intOf t1).toNat)
  case atStart => exact ⟨0, [], by go_num, by omega, rfl, (⟨World.ownsRow_made w #[] 0 (Nat.le_refl _) (by decide) rfl, by simp⟩ : OB (w.alloc (.cells #[] 5)) w.heap.size (.slice (some ⟨w.heap.size, 0, none⟩) 0 0) []), (Dr.refl _ _).then ((Below.refl _ _).alloc (Nat.le_refl _) _) (Nat.le_refl _), (HS.out.alloc _).mono (by omega)⟩
  case round =>
    obtain ⟨k, l, rfl, hk, hl0, ho, hd, hs⟩ := hrel
    by_cases hkn : (k : Int) < n
    · go_wp2_with fail
      refine (sNext sb a len cap zs _ 256 wr hs.out (HR.out _ hd.out) hl (by omega) (by omega)).mono ?_
      rintro e w1 ⟨x1, rfl, p1, q1, st1, s1⟩
      have d1 : Hid _ := hd.out.trans st1.dr
      have o1 : Hid _ := ho.out.dr st1.dr hlt
      have s1 : Hid _ := s1
      clear st1
      go_wp2_with fail
      refine (sNext sb a len cap zs _ 9 w1 s1.out (HR.out _ d1.out) hl (by omega) (by omega)).mono ?_
      rintro e w2 ⟨x2, rfl, p2, q2, st2, s2⟩
      have d2 : Hid _ := d1.out.trans st2.dr
      have o2 : Hid _ := o1.out.dr st2.dr hlt
      have s2 : Hid _ := s2
      clear st2
      go_wp2_with fail
      have hp := sPickD sb a len cap zs _ [x1, 97 + x2] 2 w2 s2.out (HR.out _ d2.out) hl (by omega) (by simp) (by simp)
      simp only [List.length_cons, List.length_nil, List.map_cons, List.map_nil, Nat.zero_add, Nat.reduceAdd] at hp
      refine hp.mono ?_
      clear hp
      rintro e w3 ⟨r, rfl, hm, d3', s3⟩
      simp only [List.mem_cons, List.not_mem_nil, or_false] at hm
      have m0 : 0 ≤ r := by omega
      have m1 : r ≤ 255 := by omega
      have d3 : Hid _ := d2.out.trans d3'
      have o3 : Hid _ := o2.out.dr d3' hlt
      have s3 : Hid _ := s3
      clear hm d3'
      have hz : w.heap.size ≤ w3.heap.size := d3.out.size
      go_wp2_with (at_builtin; refine app_u8one w3 rfl _ _ rfl w.heap.size u5 _ (by rfl) o3.out _ (by rfl) (by first | omega | (rw [u8w]; omega)) (by rw [hl0.out]; omega) hz ?_; intro v' w5 ho5 hb5 hg5)
      go_roundw
      case rel => exact ⟨k + 1, _, by go_num, by omega, by simp [hl0.out, Hid], ho5, d3.out.then hb5 (Nat.le_refl _), (s3.out.below hb5 hlt).mono (by push_cast; omega)⟩
      case measure => simp [intOf]; omega
    · obtain rfl : (k : Int) = n := by omega
      go_wp2
      go_ret
      exact ⟨_, rfl, l, ho.out, by rw [hl0.out]; omega, hd.out, hs.out.mono (by omega)⟩
end Go.Proofs.Ytebgibjokljlbaa
