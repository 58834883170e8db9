/- What the program and its model make of bytes told as letters: each byte that is no small letter is a dot; nothing that was in memory turns; no condition but on lengths. -/
import Derived.Test.YtfpemobkkfobkaaGreatDoorRows
import Derived.Laws.BytesArg
import Derived.WalkSmall
import Derived.Maps.AppendAt
import Derived.Lib.ItoaMem
import Derived.Lib.ItoaLen
import Derived.Lib.Join
import Derived.Test.YtfpemobkkfobkaaGreatDoorK01
import Derived.Test.YtfpemobkkfobkaaGreatDoorK02
import Derived.Test.YtfpemobkkfobkaaGreatDoorK04
import Derived.Test.YtfpemobkkfobkaaGreatDoorK09
import Derived.Test.YtfpemobkkfobkaaGreatDoorK10
import Derived.Test.YtfpemobkkfobkaaGreatDoorK11
import Derived.Test.YtfpemobkkfobkaaGreatDoorK42
import Derived.Test.YtfpemobkkfobkaaGreatDoorK58
import Derived.Test.YtfpemobkkfobkaaGreatDoorK59
import Derived.Test.YtfpemobkkfobkaaGreatDoorK60
import Derived.Test.YtfpemobkkfobkaaGreatDoorK79
namespace Go.Proofs.YtfpemobkkfobkaaGreatDoor
open Go.RowKit
set_option linter.unusedVariables false

/-- A byte told as a letter. -/
def let1 (x : Int) : Int := if x < 97 ∨ 122 < x then 46 else x
def letL (l : List Int) : List Int := l.map let1
theorem let1_dot {x : Int} (h : x < 97 ∨ 122 < x) : let1 x = 46 := by unfold let1; rw [if_pos h]
theorem let1_id {x : Int} (h : ¬ (x < 97 ∨ 122 < x)) : let1 x = x := by unfold let1; rw [if_neg h]
theorem let1_bd {x : Int} (h : 0 ≤ x ∧ x ≤ 255) : 0 ≤ let1 x ∧ let1 x ≤ 255 := by unfold let1; split <;> omega
theorem letL_bd {l : List Int} (h : ∀ x ∈ l, 0 ≤ x ∧ x ≤ 255) : ∀ x ∈ letL l, 0 ≤ x ∧ x ≤ 255 := by
  intro x hx; obtain ⟨y, hy, rfl⟩ := List.mem_map.1 hx; exact let1_bd (h y hy)
theorem letL_take {l : List Int} {k : Nat} (h : k < l.length) : letL (l.take (k + 1)) = letL (l.take k) ++ [let1 (l.getD k 0)] := by
  unfold letL; rw [List.take_succ_eq_append_getElem h, List.map_append, List.getD_eq_getElem?_getD, List.getElem?_eq_getElem h]; rfl
theorem let_at {l : List Int} {k : Nat} (h : k < l.length) : (letL (l.take k) ++ l.drop k).getD k 0 = l.getD k 0 := by
  have h1 : (letL (l.take k)).length = k := by simp [letL]; omega
  rw [List.getD_eq_getElem?_getD, List.getD_eq_getElem?_getD, List.getElem?_append_right (by omega), h1, Nat.sub_self, List.getElem?_drop, Nat.add_zero]
theorem let_set {l : List Int} {k : Nat} (h : k < l.length) : (letL (l.take k) ++ l.drop k).set k (let1 (l.getD k 0)) = letL (l.take (k + 1)) ++ l.drop (k + 1) := by
  have h1 : (letL (l.take k)).length = k := by simp [letL]; omega
  rw [List.set_append_right _ _ (by omega), h1, Nat.sub_self, List.drop_eq_getElem_cons h, List.set_cons_zero, letL_take h, List.append_assoc]; rfl
theorem let_same {l : List Int} {k : Nat} (h : k < l.length) (e : let1 (l.getD k 0) = l.getD k 0) : letL (l.take (k + 1)) ++ l.drop (k + 1) = letL (l.take k) ++ l.drop k := by
  rw [letL_take h, e, List.append_assoc, List.drop_eq_getElem_cons h, List.getD_eq_getElem?_getD, List.getElem?_eq_getElem h]; rfl

theorem cv_strL (a : Option Addr) (n cap : Nat) (l : List Int) (w : World) (hl : l.length = n) (hr : RB w a l) :
    (convert 62 9 (.slice a n cap)).run Tryz.prog w = .ok (.string (strOfNums l)) w := by
  rcases hr.mem with e | ⟨b, off, rfl, hc⟩
  · subst e
    simp at hl
    subst hl
    cases a with
    | none => exact run_convert_bytes_nil w _ _ Tryz.underlying62 Tryz.underlying5 0 cap _ Tryz.underlying9
    | some x =>
      rw [run_convert_bytes_string w _ _ _ _ 0 cap Tryz.underlying62 Tryz.underlying5 Tryz.underlying9, run_bytesToString w x 0 cap [] (run_loadCells_list (P := Tryz.prog) w x [] (by simp))]
      rfl
  · exact run_convert_bytes_arg w _ _ Tryz.underlying62 Tryz.underlying5 b off n cap l hl (fun i hi => hc i (by omega)) _ Tryz.underlying9




end Go.Proofs.YtfpemobkkfobkaaGreatDoor

/- What the program's and the model's LetterText answer, and the law's own comparison of what they answer; nothing that was in memory turns; no condition but on lengths. -/
namespace Go.Proofs.YtfpemobkkfobkaaGreatDoor
open Go.RowKit
set_option linter.unusedVariables false

theorem one_boxL {w w1 : World} {x y : Value} {t : TypeId} (hb : Below (w.alloc (.cells #[x, y] t)).heap.size (w.alloc (.cells #[x, y] t)) w1) :
    w1.cell? ⟨w.heap.size, 0, none⟩ = some x ∧ w1.cell? ⟨w.heap.size, 1, none⟩ = some y ∧ w1.frozen? ⟨w.heap.size, 0, none⟩ = false ∧ w1.frozen? ⟨w.heap.size, 1, none⟩ = false ∧ Below w.heap.size w w1 := by
  refine ⟨?_, ?_, ?_, ?_, ?_⟩
  · rw [hb.cell (p := ⟨w.heap.size, 0, none⟩) (by simp)]; simp
  · rw [hb.cell (p := ⟨w.heap.size, 1, none⟩) (by simp)]; simp
  · rw [hb.frozen (p := ⟨w.heap.size, 0, none⟩) (by simp)]; simp
  · rw [hb.frozen (p := ⟨w.heap.size, 1, none⟩) (by simp)]; simp
  · exact ((Below.refl _ _).alloc (Nat.le_refl _) _).trans (hb.mono (by simp))

def ltC (n : Nat) : Int := if 400 < n then 2 else 0
def ltS (n : Nat) (l : List Int) : ByteArray := if 400 < n then { data := #[] } else strOfNums (letL l)
set_option maxHeartbeats 400000 in
theorem lEqTextResult (C : Int) (S : ByteArray) (w : World) :
    Calls Tryz.prog 8 #[.agg #[.int .i64 C, .string S], .agg #[.int .i64 C, .string S]] w fun e w' => e = .returned (.bool true) ∧ Below w.heap.size w w' := by
  go_enter Tryz.func8, Tryz.ntmps8
  go_wp2
  go_ret
  exact ⟨rfl, by go_grown⟩
end Go.Proofs.YtfpemobkkfobkaaGreatDoor

/- Slices of strings of the call's own: what they hold, an append to one, a string stored in one; no condition but on lengths. -/
namespace Go.Proofs.YtfpemobkkfobkaaGreatDoor
open Go.RowKit
set_option linter.unusedVariables false

theorem info_str : (Tryz.prog.info? 9).map (fun i => (i.zero, i.size, i.bytes)) = some (some (.string ByteArray.empty), 1, 16) := by kernel_rfl
/-- The slice that begins at a reads as the strings l. -/
structure RT (w : World) (a : Option Addr) (l : List ByteArray) : Prop where
  mem : l = [] ∨ ∃ b off, a = some ⟨b, off, none⟩ ∧ ∀ i (h : i < l.length), w.cell? ⟨b, off + i, none⟩ = some (.string l[i])
theorem RT.below {w w' : World} {a : Option Addr} {l : List ByteArray} (h : RT w a l) {B : Nat} (hB : w.heap.size ≤ B) (hb : Below B w w') : RT w' a l := by
  refine ⟨?_⟩
  rcases h.mem with e | ⟨b, off, rfl, hc⟩
  · exact Or.inl e
  · refine Or.inr ⟨b, off, rfl, fun i hi => ?_⟩
    have hlt := cell_lt (hc i hi)
    rw [hb.cell (p := ⟨b, off + i, none⟩) (by simp at hlt ⊢; omega)]
    exact hc i hi
theorem RT.keep {w w' : World} {b off : Nat} {l : List ByteArray} (h : RT w (some ⟨b, off, none⟩) l) (hk : w'.heap[b]? = w.heap[b]?) : RT w' (some ⟨b, off, none⟩) l := by
  refine ⟨?_⟩
  rcases h.mem with e | ⟨b', off', e, hc⟩
  · exact Or.inl e
  · simp only [Option.some.injEq, Addr.mk.injEq, and_true] at e
    obtain ⟨rfl, rfl⟩ := e
    exact Or.inr ⟨b, off, rfl, fun i hi => (World.cell?_of_block (w := w) (a := ⟨b, off + i, none⟩) hk).trans (hc i hi)⟩
theorem RT.nil (w : World) (a : Option Addr) : RT w a [] := ⟨Or.inl rfl⟩
/-- The slice v owns, from block base on, the strings l. -/
structure OT (w : World) (base : Nat) (v : Value) (l : List ByteArray) : Prop where
  own : w.ownsRow base 9 1 v l.length (l.map Value.string)
theorem OT.rt {w : World} {base : Nat} {v : Value} {l : List ByteArray} (h : OT w base v l) : ∃ a cap, v = .slice a l.length cap ∧ RT w a l := by
  have h0 := h.own
  obtain ⟨h1, ⟨rfl, hz⟩ | ⟨g, cap, cur, rfl, hg, hh, hc, hm, hs, ht⟩⟩ := h.own
  · have : l = [] := List.length_eq_zero_iff.1 hz
    subst this
    exact ⟨none, 0, rfl, RT.nil _ _⟩
  · refine ⟨_, cap, rfl, ⟨?_⟩⟩
    by_cases hz : l = []
    · exact Or.inl hz
    · refine Or.inr ⟨g, 0, rfl, fun i hi => ?_⟩
      have := h0.cellAt i (by omega)
      rw [Nat.zero_add, this, List.getElem?_map, List.getElem?_eq_getElem hi]
      rfl
theorem OT.below {w w' : World} {base B : Nat} {v : Value} {l : List ByteArray} (h : OT w base v l) (hB : w.heap.size ≤ B) (hb : Below B w w') : OT w' base v l := by
  refine ⟨?_⟩
  obtain ⟨h1, h2 | ⟨g, cap, cur, e, hg, hh, r⟩⟩ := h.own
  · exact ⟨h1, Or.inl h2⟩
  · have hlt : g < w.heap.size := by
      apply Classical.byContradiction; intro hn
      rw [Array.getElem?_eq_none (by omega)] at hh; cases hh
    exact ⟨h1, Or.inr ⟨g, cap, cur, e, hg, by rw [hb.block g (by omega)]; exact hh, r⟩⟩
/-- It stays owned where the blocks from its base on stay. -/
theorem OT.keeps {w w' : World} {base : Nat} {v : Value} {l : List ByteArray} (h : OT w base v l) (hb : ∀ g, base ≤ g → g < w.heap.size → w'.heap[g]? = w.heap[g]?) : OT w' base v l := by
  refine ⟨?_⟩
  obtain ⟨h1, h2 | ⟨g, cap, cur, e, hg, hh, r⟩⟩ := h.own
  · exact ⟨h1, Or.inl h2⟩
  · exact ⟨h1, Or.inr ⟨g, cap, cur, e, hg, by rw [hb g hg (by
      apply Classical.byContradiction; intro hn
      rw [Array.getElem?_eq_none (by omega)] at hh; cases hh)]; exact hh, r⟩⟩
theorem map_getT {l : List ByteArray} {j : Nat} {u : Value} (h : (l.map Value.string)[j]? = some u) : ∃ hj : j < l.length, u = .string l[j] := by
  rw [List.getElem?_map] at h
  cases hj : l[j]? with
  | none => rw [hj] at h; cases h
  | some y =>
    rw [hj] at h
    obtain ⟨hlt, e⟩ := List.getElem?_eq_some_iff.1 hj
    exact ⟨hlt, by rw [e]; simpa using h.symm⟩
/-- One string appended. -/
theorem app_t1 {ops : Array Oper} {rest : List Oper} {o : Oper} {a : Act} {Q : Exit → Act → World → Prop} (w : World) (hgd : o.guard = none) (s x : Operand)
    (ho : o.op = .call { callee := .builtin .append, args := #[s, x], argTypes := #[101, 101] }) (base : Nat) (v : Value) (l : List ByteArray) (hs : a.eval s = v)
    (hown : OT w base v l) (y : ByteArray) (hx : a.eval x = .slice (some ⟨w.heap.size, 0, none⟩) 1 1) (hn : l.length ≤ 100000000) (hb : base ≤ w.heap.size)
    (h : ∀ v' w', OT w' base v' (l ++ [y]) → Below base w w' → wpList Tryz.prog ops Q rest (a.put o.dst v') w') :
    wpList Tryz.prog ops Q (o :: rest) a (w.alloc (.cells #[.string y] 9)) := by
  have hba : Below base w (w.alloc (.cells #[.string y] 9)) := (Below.refl _ _).alloc hb _
  obtain ⟨i0, hi, hz0, hz1, hz2⟩ := info_parts info_str
  have hown2 := hown.below (Nat.le_refl _) ((Below.refl w.heap.size w).alloc (Nat.le_refl _) (.cells #[.string y] 9))
  refine wpList_append_own _ hgd s x 101 ho base 9 i0 (.string ByteArray.empty) 1 16 Tryz.underlying101 hi hz0 hz1 hz2 rfl (by decide) v l.length _ hs hown2.own ⟨w.heap.size, 0, none⟩ 1 1 ([y].map Value.string) hx (by simp) ?_ ?_ ?_ ?_ (by simp; omega) ?_
  · intro j u hj
    obtain ⟨hlt, rfl⟩ := map_getT hj
    rw [add_none]
    simp at hlt
    subst hlt
    simp
  · intro u hu
    simp at hu
    subst hu
    rfl
  · unfold maxLen; omega
  · omega
  · intro v' w' h1 h2 _
    refine h v' w' ⟨?_⟩ ?_
    · rw [List.length_append, List.map_append]; exact h1
    · exact hba.grown h2 (by simp; omega) (fun k hk => (hown2.own.lt k hk).1)

/-- The same, and which blocks stay. -/
theorem app_t2 {ops : Array Oper} {rest : List Oper} {o : Oper} {a : Act} {Q : Exit → Act → World → Prop} (w : World) (hgd : o.guard = none) (s x : Operand)
    (ho : o.op = .call { callee := .builtin .append, args := #[s, x], argTypes := #[101, 101] }) (base : Nat) (v : Value) (l : List ByteArray) (hs : a.eval s = v)
    (hown : OT w base v l) (y : ByteArray) (hx : a.eval x = .slice (some ⟨w.heap.size, 0, none⟩) 1 1) (hn : l.length ≤ 100000000) (hb : base ≤ w.heap.size)
    (h : ∀ v' w', OT w' base v' (l ++ [y]) → Below base w w' → (∀ b, b < w.heap.size → v.ownBlock ≠ some b → w'.heap[b]? = w.heap[b]? ∧ v'.ownBlock ≠ some b) → wpList Tryz.prog ops Q rest (a.put o.dst v') w') :
    wpList Tryz.prog ops Q (o :: rest) a (w.alloc (.cells #[.string y] 9)) := by
  have hba : Below base w (w.alloc (.cells #[.string y] 9)) := (Below.refl _ _).alloc hb _
  obtain ⟨i0, hi, hz0, hz1, hz2⟩ := info_parts info_str
  have hown2 := hown.below (Nat.le_refl _) ((Below.refl w.heap.size w).alloc (Nat.le_refl _) (.cells #[.string y] 9))
  obtain ⟨v', w', hrun, h1, h2, _, h4⟩ := run_append_own_at (P := Tryz.prog) (w.alloc (.cells #[.string y] 9)) base 101 o.type 9 i0 (.string ByteArray.empty) 1 16 Tryz.underlying101 hi hz0 hz1 hz2 rfl (by decide) v l.length _ hown2.own ⟨w.heap.size, 0, none⟩ 1 1 ([y].map Value.string) (by simp) (by
    intro j u hj
    obtain ⟨hlt, rfl⟩ := map_getT hj
    rw [add_none]
    simp at hlt
    subst hlt
    simp) (by
    intro u hu
    simp at hu
    subst hu
    rfl) (by unfold maxLen; omega) (by omega) (by simp; omega)
  refine wpList_plain hgd fun K hK => ?_
  unfold Oper.wp execOp
  simp only [ho, resolve, invoke, builtin, Sem.run_bind, Sem.run_pure, Result.andThen_ok, List.map_toArray, List.map_cons, List.map_nil, hs, hx, hrun]
  refine hK _ _ (h v' w' ⟨by rw [List.length_append, List.map_append]; exact h1⟩ (hba.grown h2 (by simp; omega) (fun k hk => (hown2.own.lt k hk).1)) fun b hb1 hb2 => ⟨?_, ?_⟩)
  · rw [h2.block b (by simp; omega) (fun e => hb2 e.symm)]
    exact ((Below.refl w.heap.size w).alloc (Nat.le_refl _) _).block b hb1
  · rcases h4 with e | e
    · rw [e]; exact hb2
    · rw [e]; simp; omega

/-- One string appended at a step of a region that draws its order, whatever slice holds it. -/
theorem app_tg_st {ops : Array Oper} {o : Oper} {a : Act} {Q : Exit → Act → World → Prop} {K : Act → World → Prop} {E : Prop} (w : World) (hgd : o.guard = none) (s x : Operand)
    (ho : o.op = .call { callee := .builtin .append, args := #[s, x], argTypes := #[101, 101] }) (base : Nat) (v : Value) (l : List ByteArray) (hs : a.eval s = v)
    (hown : OT w base v l) (y : ByteArray) (b : Nat) (hx : a.eval x = .slice (some ⟨b, 0, none⟩) 1 1) (hc : w.cell? ⟨b, 0, none⟩ = some (.string y)) (hn : l.length ≤ 100000000) (hb : base ≤ w.heap.size)
    (h : ∀ v' w', OT w' base v' (l ++ [y]) → Below base w w' → (∀ k, k < w.heap.size → v.ownBlock ≠ some k → w'.heap[k]? = w.heap[k]?) → K (a.put o.dst v') w') :
    if Region.wanted o (yielded ops a.tmps) = true then Oper.wp Tryz.prog o a w K Q else E := by
  have hw : Region.wanted o (yielded ops a.tmps) = true := by simp [Region.wanted, hgd]
  rw [if_pos hw]
  obtain ⟨i0, hi, hz0, hz1, hz2⟩ := info_parts info_str
  obtain ⟨v', w', hrun, h1, h2, _, h4⟩ := run_append_own_at (P := Tryz.prog) w base 101 o.type 9 i0 (.string ByteArray.empty) 1 16 Tryz.underlying101 hi hz0 hz1 hz2 rfl (by decide) v l.length _ hown.own ⟨b, 0, none⟩ 1 1 ([y].map Value.string) (by simp) (by
    intro j u hj
    obtain ⟨hlt, rfl⟩ := map_getT hj
    rw [add_none]
    simp at hlt
    subst hlt
    simpa using hc) (by
    intro u hu
    simp at hu
    subst hu
    rfl) (by unfold maxLen; omega) (by omega) hb
  unfold Oper.wp execOp
  simp only [ho, resolve, invoke, builtin, Sem.run_bind, Sem.run_pure, Result.andThen_ok, List.map_toArray, List.map_cons, List.map_nil, hs, hx, hrun]
  exact h v' w' ⟨by rw [List.length_append, List.map_append]; exact h1⟩ ((Below.refl _ _).grown h2 hb (fun k hk => (hown.own.lt k hk).1)) (fun k hk hne => h2.block k hk (fun e => hne e.symm))
/-- A slice of strings that has just been laid. -/
theorem ot_made (w : World) (L : List ByteArray) (hn : L.length ≤ maxLen) : OT (w.alloc (.cells (L.map Value.string).toArray 9)) w.heap.size (.slice (some ⟨w.heap.size, 0, none⟩) L.length L.length) L :=
  ⟨⟨by simp, .inr ⟨w.heap.size, L.length, _, rfl, Nat.le_refl _, heap_alloc_new w _, Nat.le_refl _, hn, by simp, List.take_of_length_le (by simp)⟩⟩⟩

/-- What a string reads at place k. -/
def byteAt (s : ByteArray) (k : Nat) : Int := ((s.data[k]?.getD 0).toNat : Int)
theorem byteAt_bd (s : ByteArray) (k : Nat) : 0 ≤ byteAt s k ∧ byteAt s k ≤ 255 := by
  unfold byteAt; have := (s.data[k]?.getD 0).toNat_lt; omega
theorem run_at (s : ByteArray) (k : Nat) (hk : k < s.size) (W : World) : (Instr.index 9 (.string s) (.int .i64 k)).run Tryz.prog W = .ok (.int .u8 (byteAt s k)) W := by
  rw [run_index_string W _ s .i64 k Tryz.underlying9, dif_pos (by omega)]
  have h1 : k < s.data.size := hk
  unfold byteAt
  rw [Array.getElem?_eq_getElem h1]
  rfl
theorem run_cut (s : ByteArray) (i j : Nat) (hi : i ≤ j) (hj : j ≤ s.size) (W : World) : (Instr.slice 9 (.string s) (some (.int .i64 i)) (some (.int .i64 j)) none).run Tryz.prog W = .ok (.string (s.extract i j)) W :=
  run_slice_string W _ s .i64 .i64 i j Tryz.underlying9 (by omega) (by omega) (by omega)
theorem run_sp (W : World) : (Instr.index 9 (.string { data := #[32] }) (.int .i64 0)).run Tryz.prog W = .ok (.int .u8 32) W := by
  rw [run_index_string W _ _ .i64 0 Tryz.underlying9, dif_pos (by decide)]
  rfl
end Go.Proofs.YtfpemobkkfobkaaGreatDoor

/- The text of a world, by data alone: digits, lines; how long it is at the most; no program in it. -/
namespace Go.Proofs.YtfpemobkkfobkaaGreatDoor
set_option linter.unusedVariables false

/-- Bytes as a string. -/
def SB (l : List UInt8) : ByteArray := ⟨l.toArray⟩
theorem SB_app (a b : List UInt8) : SB a ++ SB b = SB (a ++ b) := by
  apply ByteArray.ext
  rw [ByteArray.data_append]
  simp [SB]
theorem SB_size (l : List UInt8) : (SB l).size = l.length := by simp [SB, ByteArray.size]
/-- A number from 0 on, in decimal. -/
def dg (n : Int) : List UInt8 := Lib.decDigits n.toNat
theorem dg_len {n : Int} (h0 : 0 ≤ n) (h1 : n ≤ 9223372036854775807) : (dg n).length ≤ 21 := by
  have h := Lib.itoa_length_le n (by omega) h1
  obtain ⟨k, rfl⟩ : ∃ k : Nat, n = (k : Int) := ⟨n.toNat, by omega⟩
  rw [Lib.itoa_nonneg] at h
  exact h
theorem dg_itoa {n : Int} (h0 : 0 ≤ n) : Lib.itoa n = dg n := by
  obtain ⟨k, rfl⟩ : ∃ k : Nat, n = (k : Int) := ⟨n.toNat, by omega⟩
  rw [Lib.itoa_nonneg]; rfl
theorem dg_small {n : Nat} (h : n < 10) : dg (n : Int) = [UInt8.ofNat (48 + n)] := by show Lib.decDigits n = _; rw [Lib.decDigits, dif_pos h]
theorem dg_more {n : Nat} (h : ¬ n < 10) : dg (n : Int) = dg ((n / 10 : Nat) : Int) ++ [UInt8.ofNat (48 + n % 10)] := by show Lib.decDigits n = Lib.decDigits (n / 10) ++ _; rw [Lib.decDigits, dif_neg h]
/-- Words behind blanks. -/
def jt : List (List UInt8) → List UInt8
  | [] => []
  | x :: r => 32 :: x ++ jt r
theorem jt_app : ∀ (a b : List (List UInt8)), jt (a ++ b) = jt a ++ jt b
  | [], b => rfl
  | x :: a, b => by show 32 :: x ++ jt (a ++ b) = (32 :: x ++ jt a) ++ jt b; rw [jt_app a b, List.append_assoc]
theorem jt_len : ∀ (a : List (List UInt8)) (m : Nat), (∀ x ∈ a, x.length ≤ m) → (jt a).length ≤ (m + 1) * a.length
  | [], m, _ => by simp [jt]
  | x :: a, m, h => by
    have h1 := jt_len a m (fun y hy => h y (List.mem_cons_of_mem _ hy))
    have h2 := h x (by simp)
    show (32 :: x ++ jt a).length ≤ _
    simp only [List.cons_append, List.length_cons, List.length_append]
    rw [Nat.mul_add]; omega
theorem jt_take {L : List (List UInt8)} {k : Nat} (h : k < L.length) : jt (L.take (k + 1)) = jt (L.take k) ++ 32 :: L[k] := by
  rw [List.take_succ_eq_append_getElem h, jt_app]; simp [jt]
theorem jt_join (x : List UInt8) (r : List (List UInt8)) : Lib.join (x :: r) [32] = x ++ jt r := by
  rw [Lib.join_cons]
  congr 1
  unfold Lib.joinTail
  induction r with
  | nil => rfl
  | cons y r ih => rw [List.map_cons, List.flatten_cons, ih]; rfl
end Go.Proofs.YtfpemobkkfobkaaGreatDoor

/- The text of a world's sides, by data alone, and what a world without a fault is; no program in it. -/
namespace Go.Proofs.YtfpemobkkfobkaaGreatDoor
open Go.RowKit
set_option linter.unusedVariables false

def nowB : List UInt8 := [110, 111, 119]
def sideB : List UInt8 := [115, 105, 100, 101]
def bagB : List UInt8 := [98, 97, 103]
def kindB (p : Bool) : List UInt8 := if p then [112, 108, 97, 105, 110] else [109, 117, 108, 116, 105]
def subT (s : DSub) : List UInt8 := dg s.1 ++ 58 :: dg s.2.1
def sideT (c : DConn) (g : List Int) (k : Nat) : List UInt8 := sideB ++ jt ([(k : Int), (c.wrote.length : Int), (g.length : Int), c.acked].map dg) ++ 32 :: kindB c.plain ++ jt (c.subs.map subT) ++ [10]
def worldT (x : DWorld) : List UInt8 := (nowB ++ jt ([x.1].map dg) ++ [10]) ++ sideT (x.cn 0) (x.gt 0) 0 ++ sideT (x.cn 1) (x.gt 1) 1 ++ (bagB ++ jt ([(x.2.2.1.1.length : Int)].map dg) ++ [10])
theorem subs_allT : ∀ (l pre : List DSub), subsFrom pre l = 0 → ∀ x ∈ l, subF x = 0
  | [], _, _, x, hx => by simp at hx
  | y :: ys, pre, h, x, hx => by
    unfold subsFrom at h
    split at h
    · rename_i h0; exact absurd h h0
    · rename_i h0
      split at h
      · cases h
      · split at h
        · cases h
        · rcases List.mem_cons.1 hx with rfl | hx
          · simpa using h0
          · exact subs_allT ys _ h x hx
/-- What a conn without a fault is. -/
theorem conn_okT {c : DConn} (h : connF c = 0) : c.wrote.length ≤ 300 ∧ (0 ≤ c.acked ∧ c.acked ≤ 300) ∧ ∀ s ∈ c.subs, (0 ≤ s.1 ∧ s.1 ≤ 2) ∧ (1 ≤ s.2.1 ∧ s.2.1 ≤ 4) := by
  obtain ⟨-, h2, h3, -, -, -, -, -, h9, -⟩ := conn_ok h
  refine ⟨h2, ?_, fun s hs => ?_⟩
  · unfold inD at h3; simp at h3; omega
  · have := (sub_ok (subs_allT _ _ h9 s hs)).1
    unfold subHead inD at this
    simp at this
    omega
theorem inD_okT {v lo hi : Int} (h : ¬ inD v lo hi = false) : lo ≤ v ∧ v ≤ hi := by unfold inD at h; simp at h; exact h
theorem sd_two {c d : DConn} (h : sdF 0 [c, d] = true) : c.side = 0 ∧ d.side = 1 := by unfold sdF sdF sdF at h; simp at h; exact h
set_option maxHeartbeats 1000000 in
theorem world_okT {x : DWorld} (h : worldF x = 0) : (0 ≤ x.1 ∧ x.1 ≤ 100000) ∧ (x.cn 0).side = 0 ∧ (x.cn 1).side = 1 := by
  obtain ⟨now, sides, net, got, ended, ⟨⟩⟩ := x
  replace h : (if inD now 0 100000 = false then (3 : Int) else if sides.length ≠ 2 then 1 else if got.length ≠ 2 then 1 else if ended.length ≠ 2 then 1 else if cfsF sides ≠ 0 then cfsF sides else if sdF 0 sides = false then 1 else if netF net.1 net.2.1 ≠ 0 then netF net.1 net.2.1 else if gotF sides got = false then 1 else 0) = 0 := h
  by_cases h0 : inD now 0 100000 = false
  · rw [if_pos h0] at h; cases h
  rw [if_neg h0] at h
  by_cases h1 : sides.length = 2
  case neg => rw [if_pos h1] at h; cases h
  rw [if_neg (by simp [h1])] at h
  by_cases h2 : got.length = 2
  case neg => rw [if_pos h2] at h; cases h
  rw [if_neg (by simp [h2])] at h
  by_cases h3 : ended.length = 2
  case neg => rw [if_pos h3] at h; cases h
  rw [if_neg (by simp [h3])] at h
  by_cases h4 : cfsF sides = 0
  case neg => rw [if_pos h4] at h; exact absurd h h4
  rw [if_neg (by simp [h4])] at h
  by_cases h5 : sdF 0 sides = false
  · rw [if_pos h5] at h; cases h
  have h6 : sdF 0 sides = true := by simpa using h5
  have hn := inD_okT h0
  clear h h0 h5
  obtain ⟨c, d, rfl⟩ : ∃ c d, sides = [c, d] := by
    rcases sides with _ | ⟨c, _ | ⟨d, _ | ⟨e, r⟩⟩⟩
    · simp at h1
    · simp at h1
    · exact ⟨c, d, rfl⟩
    · simp at h1
  obtain ⟨e1, e2⟩ := sd_two h6
  exact ⟨hn, e1, e2⟩
theorem sub_len {s : DSub} (h : (0 ≤ s.1 ∧ s.1 ≤ 2) ∧ (1 ≤ s.2.1 ∧ s.2.1 ≤ 4)) : (subT s).length ≤ 43 := by
  have h1 := dg_len (n := s.1) (by omega) (by omega)
  have h2 := dg_len (n := s.2.1) (by omega) (by omega)
  unfold subT; simp; omega
end Go.Proofs.YtfpemobkkfobkaaGreatDoor
