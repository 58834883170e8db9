/- The program's own row of bytes that is written at its end: what addNumber and addBytes make of it, and that nothing but the row turns; no condition but on lengths. -/
import Derived.Test.YtmiomnpfjigojaaRows
import Derived.Test.YtmiomnpfjigojaaBase
import Derived.Test.YtmiomnpfjigojaaBytes
import Derived.Test.YtmiomnpfjigojaaAppBytes
import Derived.Test.YtmiomnpfjigojaaApp
import Derived.Test.YtmiomnpfjigojaaSpecPack
import Derived.Test.YtmiomnpfjigojaaLaw
import Derived.Deep.DeepMust
import Derived.Deep.RegionLaw
namespace Go.Proofs.Ytmiomnpfjigojaa
open Go.RowKit
set_option linter.unusedVariables false

/-- From w to w' nothing but block g and the row v's own block has turned; v' is the row then. -/
structure Wr (w w' : World) (g : Nat) (v v' : Value) : Prop where
  os : w'.os = w.os
  tape : w'.tape = w.tape
  output : w'.output = w.output
  size : w.heap.size ≤ w'.heap.size
  block : ∀ b, b < w.heap.size → b ≠ g → v.ownBlock ≠ some b → w'.heap[b]? = w.heap[b]?
  row : ∀ b, v'.ownBlock = some b → v.ownBlock = some b ∨ w.heap.size ≤ b

theorem Wr.refl (w : World) (g : Nat) (v : Value) : Wr w w g v v := ⟨rfl, rfl, rfl, Nat.le_refl _, fun _ _ _ _ => rfl, fun _ e => Or.inl e⟩
theorem Wr.trans {w w1 w2 : World} {g : Nat} {v v1 v2 : Value} (h : Wr w w1 g v v1) (k : Wr w1 w2 g v1 v2) : Wr w w2 g v v2 := by
  refine ⟨k.os.trans h.os, k.tape.trans h.tape, k.output.trans h.output, Nat.le_trans h.size k.size, fun b hb hg hv => ?_, fun b e => ?_⟩
  · rw [k.block b (Nat.lt_of_lt_of_le hb h.size) hg (fun e => ?_)]
    · exact h.block b hb hg hv
    · rcases h.row b e with e1 | e1
      · exact hv e1
      · omega
  · rcases k.row b e with e1 | e1
    · exact h.row b e1
    · exact Or.inr (Nat.le_trans h.size e1)
/-- All below B stays, where the row and g lie from B on. -/
theorem Wr.below {w w' : World} {g : Nat} {v v' : Value} (h : Wr w w' g v v') {B : Nat} (hB : B ≤ w.heap.size) (hg : B ≤ g) (hv : ∀ b, v.ownBlock = some b → B ≤ b) : Below B w w' :=
  ⟨h.os, h.tape, h.output, h.size, fun b hb => h.block b (by omega) (by omega) (fun e => by have := hv b e; omega)⟩
theorem Wr.cell {w w' : World} {g : Nat} {v v' : Value} (h : Wr w w' g v v') {b : Nat} (o : Nat) (hb : b < w.heap.size) (hg : b ≠ g) (hv : v.ownBlock ≠ some b) : w'.cell? ⟨b, o, none⟩ = w.cell? ⟨b, o, none⟩ :=
  World.cell?_of_block (w := w) (h.block b hb hg hv)

theorem cell_ad {w : World} {O : Obj} {b : Nat} (o : Nat) (h : b < w.heap.size) : (w.alloc O).drew.cell? ⟨b, o, none⟩ = w.cell? ⟨b, o, none⟩ := Below.cell (((Below.refl w.heap.size w).alloc (Nat.le_refl _) O).drew) (p := ⟨b, o, none⟩) h
theorem frozen_ad {w : World} {O : Obj} {b : Nat} (o : Nat) (h : b < w.heap.size) : (w.alloc O).drew.frozen? ⟨b, o, none⟩ = w.frozen? ⟨b, o, none⟩ := Below.frozen (((Below.refl w.heap.size w).alloc (Nat.le_refl _) O).drew) (p := ⟨b, o, none⟩) h
theorem grown_frozen {w w' : World} {g : Option Nat} (hg : w.grownBy w' g) {b : Nat} (o : Nat) (hb : b < w.heap.size) (hne : g ≠ some b) : w'.frozen? ⟨b, o, none⟩ = w.frozen? ⟨b, o, none⟩ :=
  World.frozen?_of_block (w := w) (hg.block b hb (fun e => hne e.symm))
theorem u8_bd (n : Int) : 0 ≤ IntKind.u8.wrap n ∧ IntKind.u8.wrap n ≤ 255 := by rw [u8w]; omega

/-- Behind an append to the row and the store of what it gave. -/
theorem Wr.stored {w W w5 : World} {g : Nat} {v v' : Value} (B : Below w.heap.size w W) (hg5 : W.grownBy w5 v.ownBlock) (hat : v'.ownBlock = v.ownBlock ∨ v'.ownBlock = some W.heap.size) (x : Value) : Wr w (w5.setCell ⟨g, 0, none⟩ x) g v v' := by
  have hz := Nat.le_trans B.size hg5.size
  refine ⟨hg5.os.trans B.os, hg5.tape.trans B.tape, hg5.output.trans B.output, ?_, fun b hb hne hv => ?_, fun b e => ?_⟩
  · rw [World.size_setCell]; exact hz
  · rw [Below.heap_setCell _ _ _ _ hne, hg5.block b (Nat.lt_of_lt_of_le hb B.size) (fun e => hv e.symm)]
    exact B.block b hb
  · rcases hat with e1 | e1
    · exact Or.inl (e1 ▸ e)
    · rw [e1] at e
      simp at e
      have := B.size
      exact Or.inr (by omega)

set_option maxHeartbeats 1000000 in
theorem iAddNumber (g : Nat) (n : Int) (sz : Nat) (base : Nat) (v : Value) (l : List Int) (w : World) (h1 : 1 ≤ sz) (h8 : sz ≤ 8) (hc : w.cell? ⟨g, 0, none⟩ = some v) (hf : w.frozen? ⟨g, 0, none⟩ = false)
    (ho : OB w base v l) (hgb : g < base) (hbase : base ≤ w.heap.size) (hl : l.length ≤ 10000000) :
    Calls Try.prog 99 #[.pointer (some ⟨g, 0, none⟩), .int .i64 n, .int .i64 sz] w fun e w' => e = .returned (.tuple #[]) ∧ ∃ v', w'.cell? ⟨g, 0, none⟩ = some v' ∧ w'.frozen? ⟨g, 0, none⟩ = false ∧ OB w' base v' (l ++ beTo n sz sz) ∧ Wr w w' g v v' := by
  go_enter Try.func99, Try.ntmps99
  go_wp2
  go_loopw [6] (fun i wr => ∃ (j : Nat) (v' : Value), j ≤ sz ∧ i = .int .i64 ((sz : Int) - 1 - j) ∧ wr.cell? ⟨g, 0, none⟩ = some v' ∧ wr.frozen? ⟨g, 0, none⟩ = false ∧ OB wr base v' (l ++ beTo n sz j) ∧ Wr w wr g v v') (fun i _ => (intOf i + 1).toNat)
  case atStart => exact ⟨0, v, Nat.zero_le _, by go_num, hc, hf, by simpa [beTo] using ho, Wr.refl _ _ _⟩
  case round =>
    obtain ⟨j, v', hj, rfl, hc', hf', ho', hw⟩ := hrel
    clear hc hf ho
    by_cases hlt : j < sz
    · obtain ⟨L, hL⟩ : ∃ L, L = l ++ beTo n sz j := ⟨_, rfl⟩
      rw [← hL] at ho'
      have q : Hid (L.length = l.length + j) := by rw [hL, List.length_append, beTo_length]; trivial
      have EL : Hid _ := hL
      clear hL
      obtain ⟨a5, c5, rfl, -, -⟩ := ho'.rbn
      have hlg := cell_lt hc'
      have ne : Hid ((Value.slice a5 L.length c5).ownBlock ≠ some g) := fun e => by have := (ho'.own.lt g e).1; omega
      have HO : Hid _ := ho'
      have HW : Hid _ := hw
      have hsz := hw.size
      clear ho' hw
      obtain ⟨k, hk⟩ : ∃ k : Nat, sz = j + 1 + k := ⟨sz - j - 1, by omega⟩
      have e : (sz : Int) - 1 - j = k := by omega
      have EK : Hid _ := hk
      rw [e]
      clear hk
      have w8 : IntKind.i64.wrap (8 * (k : Int)) = 8 * k := by have := EK.out; rw [IntKind.wrap_i64]; omega
      have p0 : (0 : Int) ≤ 8 * k := by omega
      have p1 : 8 * (k : Int) ≤ 64 := by have := EK.out; omega
      have EE : Hid _ := e
      clear e
      go_wp2_with fail
      go_region_law ((refine app_st _ (by rfl) _ _ 78 78 (by rfl) Try.underlying78 Try.underlying78 base (.slice a5 L.length c5) L (by rfl) (OB.below HO.out (Nat.le_refl _) ((Below.refl _ _).alloc (Nat.le_refl _) _).drew) (some ⟨wr.heap.size, 0, none⟩) [_] 1 1 rfl (by rfl) (RB.below (rb_one (u8_bd _)) (Nat.le_refl _) (Below.drew (Below.refl _ _))) (by intro e; cases e) (by have := q.out; omega) (by simp; omega) ?_; intro v5 w5 ho5 hb5 hg5 hat5; obtain ⟨a6, c6, rfl, -, -⟩ := ho5.rbn; have hc5 := (grown_cell hg5 0 (by simp; omega) ne.out).trans ((cell_ad 0 hlg).trans hc'); have hf5 := (grown_frozen hg5 0 (by simp; omega) ne.out).trans ((frozen_ad 0 hlg).trans hf'); have HG5 : Hid _ := hg5; have HO5 : Hid _ := ho5; have HA5 : Hid _ := hat5; clear hg5 ho5 hat5 hb5))
      all_goals
        have hy : Hid (l ++ beTo n sz (j + 1) = L ++ [IntKind.u8.wrap (n / 2 ^ (8 * (k : Int)).toNat)]) := by
          rw [beTo_succ, ← List.append_assoc, ← EL.out, u8w, show (8 * (k : Int)).toNat = 8 * (sz - 1 - j) by have := EK.out; omega]
          trivial
        have hv : Hid (OB w5 base (.slice a6 (L.length + 1) c6) (l ++ beTo n sz (j + 1))) := by
          have h := HO5.out
          rw [← hy.out] at h
          show OB w5 base (.slice a6 (L.length + 1) c6) (l ++ beTo n sz (j + 1))
          simpa [List.length_append, beTo_length, q.out, Nat.add_assoc] using h
        go_wp2
        go_roundw
        case rel =>
          refine ⟨j + 1, .slice a6 (L.length + 1) c6, by omega, ?_, World.cell?_setCell_same' w5 _ _ (by rw [hc5]; rfl), ?_, ?_, HW.out.trans (Wr.stored (v' := .slice a6 (L.length + 1) c6) (((Below.refl _ _).alloc (Nat.le_refl _) _).drew) HG5.out (by have h := HA5.out; simp only [List.length_append, List.length_singleton] at h; exact h) _)⟩
          · have := EE.out
            exact congrArg (Value.int .i64) (by omega)
          · simpa using hf5
          · exact OB.keeps hv.out (fun b hb => Below.heap_setCell _ _ _ _ (by dsimp only; omega))
        case measure => simp [intOf]
    · obtain rfl : j = sz := by omega
      go_wp2
      exact ⟨rfl, .tuple #[], by simp [results, Try.results99], rfl, v', hc', hf', ho', hw⟩
set_option maxHeartbeats 400000 in
theorem iAddBytes (g : Nat) (a : Option Addr) (n cap : Nat) (l2 : List Int) (base : Nat) (v : Value) (l : List Int) (w : World) (hl2 : l2.length = n) (hr : RB w a l2) (hnil : a = none → cap = 0) (hn : n ≤ 1048576) (hc : w.cell? ⟨g, 0, none⟩ = some v) (hf : w.frozen? ⟨g, 0, none⟩ = false)
    (ho : OB w base v l) (hgb : g < base) (hbase : base ≤ w.heap.size) (hl : l.length ≤ 10000000) :
    Calls Try.prog 101 #[.pointer (some ⟨g, 0, none⟩), .slice a n cap] w fun e w' => e = .returned (.tuple #[]) ∧ ∃ v', w'.cell? ⟨g, 0, none⟩ = some v' ∧ w'.frozen? ⟨g, 0, none⟩ = false ∧ OB w' base v' (l ++ l2) ∧ Wr w w' g v v' := by
  obtain ⟨a5, c5, rfl, -, -⟩ := ho.rbn
  have ne : Hid ((Value.slice a5 l.length c5).ownBlock ≠ some g) := fun e => by have := (ho.own.lt g e).1; omega
  have hlg := cell_lt hc
  have HO : Hid _ := ho
  have HR : Hid _ := hr
  have HN : Hid _ := hnil
  clear ho hr hnil
  go_enter Try.func101, Try.ntmps101
  go_wp2_with (at_builtin; go_must (refine app_pl w (by rfl) _ _ 78 22 (by rfl) Try.underlying78 Try.underlying22 base (.slice a5 l.length c5) l (by rfl) HO.out a l2 n cap hl2 (by rfl) HR.out HN.out (by omega) hbase ?_))
  intro v5 w5 ho5 hb5 hg5 hat5
  obtain ⟨L, hL⟩ : ∃ L, L = l ++ l2 := ⟨_, rfl⟩
  rw [← hL] at ho5
  have EL : Hid _ := hL
  clear hL
  obtain ⟨a6, c6, rfl, -, -⟩ := ho5.rbn
  have hc5 := (grown_cell hg5 0 hlg ne.out).trans hc
  have hf5 := (grown_frozen hg5 0 hlg ne.out).trans hf
  have HG5 : Hid _ := hg5
  have HO5 : Hid _ := ho5
  have HA5 : Hid _ := hat5
  clear hg5 ho5 hat5 hb5
  go_wp2
  refine ⟨rfl, .tuple #[], by simp [results, Try.results101], rfl, .slice a6 L.length c6, World.cell?_setCell_same' w5 _ _ (by rw [hc5]; rfl), ?_, ?_, Wr.stored (Below.refl _ _) HG5.out HA5.out _⟩
  · simpa using hf5
  · rw [← EL.out]
    exact OB.keeps HO5.out (fun b hb => Below.heap_setCell _ _ _ _ (by dsimp only; omega))
end Go.Proofs.Ytmiomnpfjigojaa
