/- Slices of strings of the call's own: what they hold, an append to one, a string stored in one; no condition but on lengths. -/
import Derived.Test.YtfpemobkkfobkaaRows
import Derived.Test.YtfpemobkkfobkaaBase
import Derived.Test.YtfpemobkkfobkaaBytes
import Derived.Test.YtfpemobkkfobkaaAppBytes
import Derived.Test.YtfpemobkkfobkaaApp
import Derived.WalkSmall
import Derived.Maps.AppendAt
namespace Go.Proofs.Ytfpemobkkfobkaa
open Go.RowKit
set_option linter.unusedVariables false

theorem info_str : (Try.prog.info? 9).map (fun i => (i.zero, i.size, i.bytes)) = some (some (.string ByteArray.empty), 1, 16) := by kernel_rfl
/-- The slice that begins at a reads as the strings l. -/
structure RT (w : World) (a : Option Addr) (l : List ByteArray) : Prop where
  mem : l = [] ∨ ∃ b off, a = some ⟨b, off, none⟩ ∧ ∀ i (h : i < l.length), w.cell? ⟨b, off + i, none⟩ = some (.string l[i])
theorem RT.below {w w' : World} {a : Option Addr} {l : List ByteArray} (h : RT w a l) {B : Nat} (hB : w.heap.size ≤ B) (hb : Below B w w') : RT w' a l := by
  refine ⟨?_⟩
  rcases h.mem with e | ⟨b, off, rfl, hc⟩
  · exact Or.inl e
  · refine Or.inr ⟨b, off, rfl, fun i hi => ?_⟩
    have hlt := cell_lt (hc i hi)
    rw [hb.cell (p := ⟨b, off + i, none⟩) (by simp at hlt ⊢; omega)]
    exact hc i hi
theorem RT.keep {w w' : World} {b off : Nat} {l : List ByteArray} (h : RT w (some ⟨b, off, none⟩) l) (hk : w'.heap[b]? = w.heap[b]?) : RT w' (some ⟨b, off, none⟩) l := by
  refine ⟨?_⟩
  rcases h.mem with e | ⟨b', off', e, hc⟩
  · exact Or.inl e
  · simp only [Option.some.injEq, Addr.mk.injEq, and_true] at e
    obtain ⟨rfl, rfl⟩ := e
    exact Or.inr ⟨b, off, rfl, fun i hi => (World.cell?_of_block (w := w) (a := ⟨b, off + i, none⟩) hk).trans (hc i hi)⟩
theorem RT.nil (w : World) (a : Option Addr) : RT w a [] := ⟨Or.inl rfl⟩
/-- The slice v owns, from block base on, the strings l. -/
structure OT (w : World) (base : Nat) (v : Value) (l : List ByteArray) : Prop where
  own : w.ownsRow base 9 1 v l.length (l.map Value.string)
theorem OT.rt {w : World} {base : Nat} {v : Value} {l : List ByteArray} (h : OT w base v l) : ∃ a cap, v = .slice a l.length cap ∧ RT w a l := by
  have h0 := h.own
  obtain ⟨h1, ⟨rfl, hz⟩ | ⟨g, cap, cur, rfl, hg, hh, hc, hm, hs, ht⟩⟩ := h.own
  · have : l = [] := List.length_eq_zero_iff.1 hz
    subst this
    exact ⟨none, 0, rfl, RT.nil _ _⟩
  · refine ⟨_, cap, rfl, ⟨?_⟩⟩
    by_cases hz : l = []
    · exact Or.inl hz
    · refine Or.inr ⟨g, 0, rfl, fun i hi => ?_⟩
      have := h0.cellAt i (by omega)
      rw [Nat.zero_add, this, List.getElem?_map, List.getElem?_eq_getElem hi]
      rfl
theorem OT.below {w w' : World} {base B : Nat} {v : Value} {l : List ByteArray} (h : OT w base v l) (hB : w.heap.size ≤ B) (hb : Below B w w') : OT w' base v l := by
  refine ⟨?_⟩
  obtain ⟨h1, h2 | ⟨g, cap, cur, e, hg, hh, r⟩⟩ := h.own
  · exact ⟨h1, Or.inl h2⟩
  · have hlt : g < w.heap.size := by
      apply Classical.byContradiction; intro hn
      rw [Array.getElem?_eq_none (by omega)] at hh; cases hh
    exact ⟨h1, Or.inr ⟨g, cap, cur, e, hg, by rw [hb.block g (by omega)]; exact hh, r⟩⟩
/-- It stays owned where the blocks from its base on stay. -/
theorem OT.keeps {w w' : World} {base : Nat} {v : Value} {l : List ByteArray} (h : OT w base v l) (hb : ∀ g, base ≤ g → g < w.heap.size → w'.heap[g]? = w.heap[g]?) : OT w' base v l := by
  refine ⟨?_⟩
  obtain ⟨h1, h2 | ⟨g, cap, cur, e, hg, hh, r⟩⟩ := h.own
  · exact ⟨h1, Or.inl h2⟩
  · exact ⟨h1, Or.inr ⟨g, cap, cur, e, hg, by rw [hb g hg (by
      apply Classical.byContradiction; intro hn
      rw [Array.getElem?_eq_none (by omega)] at hh; cases hh)]; exact hh, r⟩⟩
theorem map_getT {l : List ByteArray} {j : Nat} {u : Value} (h : (l.map Value.string)[j]? = some u) : ∃ hj : j < l.length, u = .string l[j] := by
  rw [List.getElem?_map] at h
  cases hj : l[j]? with
  | none => rw [hj] at h; cases h
  | some y =>
    rw [hj] at h
    obtain ⟨hlt, e⟩ := List.getElem?_eq_some_iff.1 hj
    exact ⟨hlt, by rw [e]; simpa using h.symm⟩
/-- One string appended. -/
theorem app_t1 {ops : Array Oper} {rest : List Oper} {o : Oper} {a : Act} {Q : Exit → Act → World → Prop} (w : World) (hgd : o.guard = none) (s x : Operand)
    (ho : o.op = .call { callee := .builtin .append, args := #[s, x], argTypes := #[30, 30] }) (base : Nat) (v : Value) (l : List ByteArray) (hs : a.eval s = v)
    (hown : OT w base v l) (y : ByteArray) (hx : a.eval x = .slice (some ⟨w.heap.size, 0, none⟩) 1 1) (hn : l.length ≤ 100000000) (hb : base ≤ w.heap.size)
    (h : ∀ v' w', OT w' base v' (l ++ [y]) → Below base w w' → wpList Try.prog ops Q rest (a.put o.dst v') w') :
    wpList Try.prog ops Q (o :: rest) a (w.alloc (.cells #[.string y] 9)) := by
  have hba : Below base w (w.alloc (.cells #[.string y] 9)) := (Below.refl _ _).alloc hb _
  obtain ⟨i0, hi, hz0, hz1, hz2⟩ := info_parts info_str
  have hown2 := hown.below (Nat.le_refl _) ((Below.refl w.heap.size w).alloc (Nat.le_refl _) (.cells #[.string y] 9))
  refine wpList_append_own _ hgd s x 30 ho base 9 i0 (.string ByteArray.empty) 1 16 Try.underlying30 hi hz0 hz1 hz2 rfl (by decide) v l.length _ hs hown2.own ⟨w.heap.size, 0, none⟩ 1 1 ([y].map Value.string) hx (by simp) ?_ ?_ ?_ ?_ (by simp; omega) ?_
  · intro j u hj
    obtain ⟨hlt, rfl⟩ := map_getT hj
    rw [add_none]
    simp at hlt
    subst hlt
    simp
  · intro u hu
    simp at hu
    subst hu
    rfl
  · unfold maxLen; omega
  · omega
  · intro v' w' h1 h2 _
    refine h v' w' ⟨?_⟩ ?_
    · rw [List.length_append, List.map_append]; exact h1
    · exact hba.grown h2 (by simp; omega) (fun k hk => (hown2.own.lt k hk).1)

/-- The same, and which blocks stay. -/
theorem app_t2 {ops : Array Oper} {rest : List Oper} {o : Oper} {a : Act} {Q : Exit → Act → World → Prop} (w : World) (hgd : o.guard = none) (s x : Operand)
    (ho : o.op = .call { callee := .builtin .append, args := #[s, x], argTypes := #[30, 30] }) (base : Nat) (v : Value) (l : List ByteArray) (hs : a.eval s = v)
    (hown : OT w base v l) (y : ByteArray) (hx : a.eval x = .slice (some ⟨w.heap.size, 0, none⟩) 1 1) (hn : l.length ≤ 100000000) (hb : base ≤ w.heap.size)
    (h : ∀ v' w', OT w' base v' (l ++ [y]) → Below base w w' → (∀ b, b < w.heap.size → v.ownBlock ≠ some b → w'.heap[b]? = w.heap[b]? ∧ v'.ownBlock ≠ some b) → wpList Try.prog ops Q rest (a.put o.dst v') w') :
    wpList Try.prog ops Q (o :: rest) a (w.alloc (.cells #[.string y] 9)) := by
  have hba : Below base w (w.alloc (.cells #[.string y] 9)) := (Below.refl _ _).alloc hb _
  obtain ⟨i0, hi, hz0, hz1, hz2⟩ := info_parts info_str
  have hown2 := hown.below (Nat.le_refl _) ((Below.refl w.heap.size w).alloc (Nat.le_refl _) (.cells #[.string y] 9))
  obtain ⟨v', w', hrun, h1, h2, _, h4⟩ := run_append_own_at (P := Try.prog) (w.alloc (.cells #[.string y] 9)) base 30 o.type 9 i0 (.string ByteArray.empty) 1 16 Try.underlying30 hi hz0 hz1 hz2 rfl (by decide) v l.length _ hown2.own ⟨w.heap.size, 0, none⟩ 1 1 ([y].map Value.string) (by simp) (by
    intro j u hj
    obtain ⟨hlt, rfl⟩ := map_getT hj
    rw [add_none]
    simp at hlt
    subst hlt
    simp) (by
    intro u hu
    simp at hu
    subst hu
    rfl) (by unfold maxLen; omega) (by omega) (by simp; omega)
  refine wpList_plain hgd fun K hK => ?_
  unfold Oper.wp execOp
  simp only [ho, resolve, invoke, builtin, Sem.run_bind, Sem.run_pure, Result.andThen_ok, List.map_toArray, List.map_cons, List.map_nil, hs, hx, hrun]
  refine hK _ _ (h v' w' ⟨by rw [List.length_append, List.map_append]; exact h1⟩ (hba.grown h2 (by simp; omega) (fun k hk => (hown2.own.lt k hk).1)) fun b hb1 hb2 => ⟨?_, ?_⟩)
  · rw [h2.block b (by simp; omega) (fun e => hb2 e.symm)]
    exact ((Below.refl w.heap.size w).alloc (Nat.le_refl _) _).block b hb1
  · rcases h4 with e | e
    · rw [e]; exact hb2
    · rw [e]; simp; omega

/-- What a string reads at place k. -/
def byteAt (s : ByteArray) (k : Nat) : Int := ((s.data[k]?.getD 0).toNat : Int)
theorem byteAt_bd (s : ByteArray) (k : Nat) : 0 ≤ byteAt s k ∧ byteAt s k ≤ 255 := by
  unfold byteAt; have := (s.data[k]?.getD 0).toNat_lt; omega
theorem run_at (s : ByteArray) (k : Nat) (hk : k < s.size) (W : World) : (Instr.index 9 (.string s) (.int .i64 k)).run Try.prog W = .ok (.int .u8 (byteAt s k)) W := by
  rw [run_index_string W _ s .i64 k Try.underlying9, dif_pos (by omega)]
  have h1 : k < s.data.size := hk
  unfold byteAt
  rw [Array.getElem?_eq_getElem h1]
  rfl
theorem run_cut (s : ByteArray) (i j : Nat) (hi : i ≤ j) (hj : j ≤ s.size) (W : World) : (Instr.slice 9 (.string s) (some (.int .i64 i)) (some (.int .i64 j)) none).run Try.prog W = .ok (.string (s.extract i j)) W :=
  run_slice_string W _ s .i64 .i64 i j Try.underlying9 (by omega) (by omega) (by omega)
theorem run_sp (W : World) : (Instr.index 9 (.string { data := #[32] }) (.int .i64 0)).run Try.prog W = .ok (.int .u8 32) W := by
  rw [run_index_string W _ _ .i64 0 Try.underlying9, dif_pos (by decide)]
  rfl
end Go.Proofs.Ytfpemobkkfobkaa
