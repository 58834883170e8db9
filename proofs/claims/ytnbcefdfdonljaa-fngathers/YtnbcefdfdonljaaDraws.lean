/- What the draws of the model read out of a code: a number below a bound, one of a list; only the count of the source turns; no condition but that it has drawn fewer than a million. -/
import Derived.Test.YtnbcefdfdonljaaRows
import Derived.Test.YtnbcefdfdonljaaBase
import Derived.Deep.QuietTactic
import Derived.BigQuiet
import Derived.WalkSmall
namespace Go.Proofs.Ytnbcefdfdonljaa
open Go.RowKit
set_option linter.unusedVariables false

/-- The source of a draw at block sb: its code v, and a count of at most K. -/
structure Src (w : World) (sb : Nat) (v : Value) (K : Int) : Prop where
  code : w.cell? ⟨sb, 0, none⟩ = some v
  cnt : ∃ k : Int, 0 ≤ k ∧ k ≤ K ∧ w.cell? ⟨sb, 1, none⟩ = some (.int .i64 k)
  fz : w.frozen? ⟨sb, 1, none⟩ = false
  lt : sb < w.heap.size

/-- Of the world nothing turned but the cells of block sb. -/
structure Step (sb : Nat) (w w' : World) : Prop where
  os : w'.os = w.os
  tape : w'.tape = w.tape
  output : w'.output = w.output
  size : w'.heap.size = w.heap.size
  block : ∀ b, b ≠ sb → w'.heap[b]? = w.heap[b]?

theorem Step.refl (sb : Nat) (w : World) : Step sb w w := ⟨rfl, rfl, rfl, rfl, fun _ _ => rfl⟩
theorem Step.trans {sb : Nat} {a b c : World} (h : Step sb a b) (k : Step sb b c) : Step sb a c :=
  ⟨k.os.trans h.os, k.tape.trans h.tape, k.output.trans h.output, k.size.trans h.size, fun i hi => (k.block i hi).trans (h.block i hi)⟩
theorem Step.below {sb B : Nat} {w w' : World} (h : Step sb w w') (hB : B ≤ sb) : Below B w w' :=
  ⟨h.os, h.tape, h.output, Nat.le_of_eq h.size.symm, fun k hk => h.block k (by omega)⟩
theorem Step.set (sb : Nat) (w : World) (o : Nat) (v : Value) (m : Nat) : Step sb w ((w.setCell ⟨sb, o, none⟩ v).drewN m) :=
  ⟨rfl, rfl, rfl, by simp [World.setCell], fun b hb => by
    show (w.setCell ⟨sb, o, none⟩ v).heap[b]? = w.heap[b]?
    exact Below.heap_setCell _ _ _ _ (by simpa using hb)⟩
theorem Step.cell {sb : Nat} {w w' : World} (h : Step sb w w') {p : Addr} (hp : p.block ≠ sb) : w'.cell? p = w.cell? p := World.cell?_of_block (w := w) (h.block p.block hp)
theorem Step.frozen {sb : Nat} {w w' : World} (h : Step sb w w') {p : Addr} (hp : p.block ≠ sb) : w'.frozen? p = w.frozen? p := World.frozen?_of_block (w := w) (h.block p.block hp)

set_option maxHeartbeats 400000 in
theorem next_row (sb : Nat) (b off len cap : Nat) (k n : Int) (g : Nat → Int) (w : World)
    (h0 : w.cell? ⟨sb, 0, none⟩ = some (.slice (some ⟨b, off, none⟩) len cap)) (h1 : w.cell? ⟨sb, 1, none⟩ = some (.int .i64 k)) (hf : w.frozen? ⟨sb, 1, none⟩ = false)
    (hk0 : 0 ≤ k) (hk1 : k ≤ 1000000) (hp : 0 < len) (hm : len ≤ maxLen) (hn : 1 ≤ n) (hne : b ≠ sb)
    (hc : ∀ i, i < len → w.cell? ⟨b, off + i, none⟩ = some (.int .u8 (g i)) ∧ 0 ≤ g i ∧ g i ≤ 255) :
    Calls Try.prog 40 #[.pointer (some ⟨sb, 0, none⟩), .int .i64 n] w fun e w' => ∃ r m, e = .returned (.int .i64 r) ∧ 0 ≤ r ∧ r < n ∧ w' = (w.setCell ⟨sb, 1, none⟩ (.int .i64 (k + 1))).drewN m := by
  unfold maxLen at hm
  have hl : (0 : Int) < (len : Int) := by omega
  have hlz : ((len : Int) == 0) = false := by simp; omega
  have i0 : 0 ≤ k % (len : Int) := Int.emod_nonneg _ (by omega)
  have i1 : k % (len : Int) < (len : Int) := Int.emod_lt_of_pos _ hl
  have j0 : 0 ≤ (k + 1) % (len : Int) := Int.emod_nonneg _ (by omega)
  have j1 : (k + 1) % (len : Int) < (len : Int) := Int.emod_lt_of_pos _ hl
  have q0 : 0 ≤ k / (len : Int) := Int.ediv_nonneg hk0 (by omega)
  have q1 : k / (len : Int) ≤ 1000000 := Int.le_trans (Int.ediv_le_self _ hk0) hk1
  obtain ⟨c0, a0, a1⟩ := hc (k % (len : Int)).toNat (by omega)
  obtain ⟨c1, b0, b1⟩ := hc ((k + 1) % (len : Int)).toNat (by omega)
  clear hc
  generalize g (k % (len : Int)).toNat = x at *
  generalize g ((k + 1) % (len : Int)).toNat = y at *
  by_cases h200 : 200 < n
  · go_enter Try.func40, Try.ntmps40
    go_wp2
    go_quiet (fail)
    go_wp2
    go_quiet (fail)
    go_wp2
    go_ret
    exact ⟨_, _, rfl, Int.emod_nonneg _ (by omega), Int.emod_lt_of_pos _ (by omega), rfl⟩
  · go_enter Try.func40, Try.ntmps40
    go_wp2
    go_quiet (fail)
    go_wp2
    go_ret
    exact ⟨_, _, rfl, Int.emod_nonneg _ (by omega), Int.emod_lt_of_pos _ (by omega), rfl⟩

set_option maxHeartbeats 400000 in
theorem next_nil (sb cap : Nat) (a : Option Addr) (k n : Int) (w : World)
    (h0 : w.cell? ⟨sb, 0, none⟩ = some (.slice a 0 cap)) (h1 : w.cell? ⟨sb, 1, none⟩ = some (.int .i64 k)) (hf : w.frozen? ⟨sb, 1, none⟩ = false)
    (hk0 : 0 ≤ k) (hk1 : k ≤ 1000000) (hn : 1 ≤ n) :
    Calls Try.prog 40 #[.pointer (some ⟨sb, 0, none⟩), .int .i64 n] w fun e w' => ∃ r m, e = .returned (.int .i64 r) ∧ 0 ≤ r ∧ r < n ∧ w' = (w.setCell ⟨sb, 1, none⟩ (.int .i64 (k + 1))).drewN m := by
  go_enter Try.func40, Try.ntmps40
  go_wp2
  go_ret
  exact ⟨_, 0, rfl, Int.emod_nonneg _ (by omega), Int.emod_lt_of_pos _ (by omega), rfl⟩

set_option maxHeartbeats 400000 in
theorem next_low (sb : Nat) (v : Value) (k n : Int) (w : World)
    (h0 : w.cell? ⟨sb, 0, none⟩ = some v) (h1 : w.cell? ⟨sb, 1, none⟩ = some (.int .i64 k)) (hf : w.frozen? ⟨sb, 1, none⟩ = false)
    (hk0 : 0 ≤ k) (hk1 : k ≤ 1000000) (hn : n < 1) :
    Calls Try.prog 40 #[.pointer (some ⟨sb, 0, none⟩), .int .i64 n] w fun e w' => e = .returned (.int .i64 0) ∧ w' = (w.setCell ⟨sb, 1, none⟩ (.int .i64 (k + 1))) := by
  go_enter Try.func40, Try.ntmps40
  go_wp2
  go_ret
  exact ⟨rfl, rfl⟩

theorem Src.step {w : World} {sb : Nat} {v : Value} {K k : Int} (h : Src w sb v K) (hk0 : 0 ≤ k) (hk1 : k ≤ K) (m : Nat) : Src ((w.setCell ⟨sb, 1, none⟩ (.int .i64 (k + 1))).drewN m) sb v (K + 1) := by
  obtain ⟨h0, ⟨k', _, _, h1⟩, hf, hl⟩ := h
  refine ⟨?_, ⟨k + 1, by omega, by omega, ?_⟩, ?_, ?_⟩
  · go_simp
  · go_simp
  · go_simp
  · simpa [World.setCell] using hl

/-- A draw below n, which is 1 or more. -/
theorem sNext (sb : Nat) (a : Option Addr) (len cap : Nat) (zs : List Int) (K n : Int) (w : World)
    (hs : Src w sb (.slice a len cap) K) (hr : BRow .u8 w a len cap zs) (hl : RowLt sb a zs) (hK : K ≤ 1000000) (hn : 1 ≤ n) :
    Calls Try.prog 40 #[.pointer (some ⟨sb, 0, none⟩), .int .i64 n] w fun e w' => ∃ r, e = .returned (.int .i64 r) ∧ 0 ≤ r ∧ r < n ∧ Step sb w w' ∧ Src w' sb (.slice a len cap) (K + 1) := by
  have hs' := hs
  obtain ⟨h0, ⟨k, hk0, hk1, h1⟩, hf, hlt⟩ := hs
  by_cases hz : len = 0
  · subst hz
    refine (next_nil sb cap a k n w h0 h1 hf hk0 (by omega) hn).mono ?_
    rintro e w' ⟨r, m, rfl, r0, r1, rfl⟩
    exact ⟨r, rfl, r0, r1, Step.set _ _ _ _ _, hs'.step hk0 hk1 m⟩
  · have hm : len ≤ maxLen := by
      rcases hr with ⟨_, h, _⟩ | ⟨x, _, g1, g2, _⟩
      · omega
      · exact Nat.le_trans g1 g2
    obtain ⟨b, off, rfl, hc⟩ := hr.byte (by omega)
    have hz2 : 0 < zs.length := by
      rcases hr with ⟨_, h, _⟩ | ⟨x, _, g1, _, g3, _⟩ <;> omega
    have hb := hl _ rfl hz2
    refine (next_row sb b off len cap k n (fun i => zs.getD i 0) w h0 h1 hf hk0 (by omega) (by omega) hm hn (by simp at hb; omega) hc).mono ?_
    rintro e w' ⟨r, m, rfl, r0, r1, rfl⟩
    exact ⟨r, rfl, r0, r1, Step.set _ _ _ _ _, hs'.step hk0 hk1 m⟩

/-- A draw below n, whatever n is. -/
theorem sNextAny (sb : Nat) (a : Option Addr) (len cap : Nat) (zs : List Int) (K n : Int) (w : World)
    (hs : Src w sb (.slice a len cap) K) (hr : BRow .u8 w a len cap zs) (hl : RowLt sb a zs) (hK : K ≤ 1000000) :
    Calls Try.prog 40 #[.pointer (some ⟨sb, 0, none⟩), .int .i64 n] w fun e w' => ∃ r, e = .returned (.int .i64 r) ∧ 0 ≤ r ∧ (r < n ∨ r = 0) ∧ Step sb w w' ∧ Src w' sb (.slice a len cap) (K + 1) := by
  by_cases hn : 1 ≤ n
  · refine (sNext sb a len cap zs K n w hs hr hl hK hn).mono ?_
    rintro e w' ⟨r, rfl, r0, r1, r2, r3⟩
    exact ⟨r, rfl, r0, Or.inl r1, r2, r3⟩
  · have hs' := hs
    obtain ⟨h0, ⟨k, hk0, hk1, h1⟩, hf, hlt⟩ := hs
    refine (next_low sb _ k n w h0 h1 hf hk0 (by omega) (by omega)).mono ?_
    rintro e w' ⟨rfl, rfl⟩
    exact ⟨0, rfl, by omega, Or.inr rfl, Step.set _ _ _ _ 0, hs'.step hk0 hk1 0⟩

/-- One of a list of the call's own. -/
theorem sPick (sb : Nat) (a : Option Addr) (len cap : Nat) (zs : List Int) (K : Int) (lb nl : Nat) (g : Nat → Int) (w : World)
    (hs : Src w sb (.slice a len cap) K) (hr : BRow .u8 w a len cap zs) (hl : RowLt sb a zs) (hK : K ≤ 1000000) (hlb : lb ≠ sb) (hnl : 1 ≤ nl) (hmx : nl ≤ 1000)
    (hc : ∀ i, i < nl → w.cell? ⟨lb, i, none⟩ = some (.int .i64 (g i))) :
    Calls Try.prog 54 #[.pointer (some ⟨sb, 0, none⟩), .slice (some ⟨lb, 0, none⟩) nl nl] w fun e w' => ∃ i, e = .returned (.int .i64 (g i)) ∧ i < nl ∧ Step sb w w' ∧ Src w' sb (.slice a len cap) (K + 1) := by
  go_enter Try.func54, Try.ntmps54
  go_wp2_with fail
  refine (sNext sb a len cap zs K nl w hs hr hl hK (by omega)).mono ?_
  rintro e w1 ⟨r, rfl, r0, r1, st, sr⟩
  have hcr := hc r.toNat (by omega)
  rw [← st.cell (p := ⟨lb, r.toNat, none⟩) hlb] at hcr
  clear hc
  go_wp2
  go_ret
  exact ⟨r.toNat, rfl, by omega, st, sr⟩

/-- A list that was just laid, place by place. -/
theorem laid_list (w : World) (l : List Int) (t : TypeId) : ∀ i, i < l.length → (w.alloc (.cells (l.map (Value.int .i64)).toArray t)).cell? ⟨w.heap.size, i, none⟩ = some (.int .i64 (l.getD i 0)) := by
  intro i hi
  have e : (l.map (Value.int .i64)).toArray[i]? = some (.int .i64 (l.getD i 0)) := by
    simp [List.getElem?_eq_getElem hi]
  rw [World.cell?_alloc_new, e]

theorem Src.alloc {w : World} {sb : Nat} {v : Value} {K : Int} (h : Src w sb v K) (o : Obj) : Src (w.alloc o) sb v K := by
  obtain ⟨h0, ⟨k, k0, k1, h1⟩, hf, hl⟩ := h
  have hb : Below w.heap.size w (w.alloc o) := (Below.refl _ _).alloc (Nat.le_refl _) o
  exact ⟨(hb.cell (p := ⟨sb, 0, none⟩) hl).trans h0, ⟨k, k0, k1, (hb.cell (p := ⟨sb, 1, none⟩) hl).trans h1⟩, (hb.frozen (p := ⟨sb, 1, none⟩) hl).trans hf, by simp; omega⟩

theorem Src.bel {w w' : World} {sb : Nat} {v : Value} {K : Int} (h : Src w sb v K) (hb : Below w.heap.size w w') : Src w' sb v K := by
  obtain ⟨h0, ⟨k, k0, k1, h1⟩, hf, hl⟩ := h
  exact ⟨(hb.cell (p := ⟨sb, 0, none⟩) hl).trans h0, ⟨k, k0, k1, (hb.cell (p := ⟨sb, 1, none⟩) hl).trans h1⟩, (hb.frozen (p := ⟨sb, 1, none⟩) hl).trans hf, Nat.lt_of_lt_of_le hl hb.size⟩
theorem Src.mono {w : World} {sb : Nat} {v : Value} {K K' : Int} (h : Src w sb v K) (hK : K ≤ K') : Src w sb v K' := by
  obtain ⟨h0, ⟨k, k0, k1, h1⟩, hf, hl⟩ := h
  exact ⟨h0, ⟨k, k0, by omega, h1⟩, hf, hl⟩

/-- One of a list that was just laid. -/
theorem sPickL (sb : Nat) (a : Option Addr) (len cap : Nat) (zs : List Int) (K : Int) (l : List Int) (t : TypeId) (w : World)
    (hs : Src w sb (.slice a len cap) K) (hr : BRow .u8 w a len cap zs) (hl : RowLt sb a zs) (hK : K ≤ 1000000) (hn : 1 ≤ l.length) (hx : l.length ≤ 1000) :
    Calls Try.prog 54 #[.pointer (some ⟨sb, 0, none⟩), .slice (some ⟨w.heap.size, 0, none⟩) l.length l.length] (w.alloc (.cells (l.map (Value.int .i64)).toArray t)) fun e w' =>
      ∃ r, e = .returned (.int .i64 r) ∧ r ∈ l ∧ Below sb w w' ∧ Src w' sb (.slice a len cap) (K + 1) := by
  have hlt := hs.lt
  have hba : Below sb w (w.alloc (.cells (l.map (Value.int .i64)).toArray t)) := (Below.refl _ _).alloc (Nat.le_of_lt hlt) _
  refine (sPick sb a len cap zs K w.heap.size l.length (fun i => l.getD i 0) _ (hs.alloc _) (hr.below hl hba) hl hK (by omega) hn hx (laid_list w l t)).mono ?_
  rintro e w' ⟨i, rfl, hi, st, sr⟩
  refine ⟨_, rfl, ?_, hba.trans (st.below (Nat.le_refl _)), sr⟩
  rw [List.getD_eq_getElem?_getD, List.getElem?_eq_getElem hi]
  exact List.getElem_mem hi

/-- A new source. -/
theorem sSource (a : Option Addr) (len cap : Nat) (w : World) :
    Calls Try.prog 37 #[.slice a len cap] w fun e w' => e = .returned (.pointer (some ⟨w.heap.size, 0, none⟩)) ∧ w' = w.alloc (.cells #[.slice a len cap, .int .i64 0] 138) := by
  go_enter Try.func37, Try.ntmps37
  go_wp2
  go_ret
  exact ⟨rfl, rfl⟩

theorem Src.new (v : Value) (t : TypeId) (w : World) : Src (w.alloc (.cells #[v, .int .i64 0] t)) w.heap.size v 0 :=
  ⟨by go_simp, ⟨0, by omega, by omega, by go_simp⟩, by go_simp, by simp⟩

/-- Where the walk begins a draw: the source is new, the code reads as it did. -/
theorem draw_start {a : Option Addr} {len cap : Nat} {zs : List Int} {w : World} (t : TypeId) (hr : BRow .u8 w a len cap zs) (hl : RowLt w.heap.size a zs) :
    Src (w.alloc (.cells #[.slice a len cap, .int .i64 0] t)) w.heap.size (.slice a len cap) 0 ∧ BRow .u8 (w.alloc (.cells #[.slice a len cap, .int .i64 0] t)) a len cap zs ∧ Below w.heap.size w (w.alloc (.cells #[.slice a len cap, .int .i64 0] t)) := by
  have hb : Below w.heap.size w (w.alloc (.cells #[.slice a len cap, .int .i64 0] t)) := (Below.refl _ _).alloc (Nat.le_refl _) _
  exact ⟨Src.new _ _ _, hr.below hl hb, hb⟩

set_option maxHeartbeats 400000 in
theorem lwAt_row (b off len cap : Nat) (k n : Int) (g : Nat → Int) (w : World)
    (hk0 : 0 ≤ k) (hk1 : k ≤ 1000000) (hp : 0 < len) (hm : len ≤ maxLen) (hn : 1 < n)
    (hc : ∀ i, i < len → w.cell? ⟨b, off + i, none⟩ = some (.int .u8 (g i)) ∧ 0 ≤ g i ∧ g i ≤ 255) :
    Calls Try.prog 9 #[.slice (some ⟨b, off, none⟩) len cap, .int .i64 k, .int .i64 n] w fun e w' => ∃ r m, e = .returned (.int .i64 r) ∧ 0 ≤ r ∧ r < n ∧ w' = w.drewN m := by
  unfold maxLen at hm
  have hl : (0 : Int) < (len : Int) := by omega
  have hlz : ((len : Int) == 0) = false := by simp; omega
  have i0 : 0 ≤ k % (len : Int) := Int.emod_nonneg _ (by omega)
  have i1 : k % (len : Int) < (len : Int) := Int.emod_lt_of_pos _ hl
  have j0 : 0 ≤ (k + 1) % (len : Int) := Int.emod_nonneg _ (by omega)
  have j1 : (k + 1) % (len : Int) < (len : Int) := Int.emod_lt_of_pos _ hl
  have q0 : 0 ≤ k / (len : Int) := Int.ediv_nonneg hk0 (by omega)
  have q1 : k / (len : Int) ≤ 1000000 := Int.le_trans (Int.ediv_le_self _ hk0) hk1
  obtain ⟨c0, a0, a1⟩ := hc (k % (len : Int)).toNat (by omega)
  obtain ⟨c1, b0, b1⟩ := hc ((k + 1) % (len : Int)).toNat (by omega)
  clear hc
  generalize g (k % (len : Int)).toNat = x at *
  generalize g ((k + 1) % (len : Int)).toNat = y at *
  by_cases h200 : 200 < n
  · go_enter Try.func9, Try.ntmps9
    go_wp2
    go_quiet (fail)
    go_wp2
    go_ret
    exact ⟨_, _, rfl, Int.emod_nonneg _ (by omega), Int.emod_lt_of_pos _ (by omega), rfl⟩
  · go_enter Try.func9, Try.ntmps9
    go_wp2
    go_quiet (fail)
    go_wp2
    go_ret
    exact ⟨_, _, rfl, Int.emod_nonneg _ (by omega), Int.emod_lt_of_pos _ (by omega), rfl⟩

theorem lwAt_nil (a : Option Addr) (cap : Nat) (k n : Int) (w : World) (hk0 : 0 ≤ k) (hk1 : k ≤ 1000000) (hn : 1 < n) :
    Calls Try.prog 9 #[.slice a 0 cap, .int .i64 k, .int .i64 n] w fun e w' => ∃ r m, e = .returned (.int .i64 r) ∧ 0 ≤ r ∧ r < n ∧ w' = w.drewN m := by
  go_enter Try.func9, Try.ntmps9
  go_wp2
  go_ret
  exact ⟨_, 0, rfl, Int.emod_nonneg _ (by omega), Int.emod_lt_of_pos _ (by omega), rfl⟩

theorem lwAt_low (a : Option Addr) (len cap : Nat) (k n : Int) (w : World) (hn : n ≤ 1) :
    Calls Try.prog 9 #[.slice a len cap, .int .i64 k, .int .i64 n] w fun e w' => e = .returned (.int .i64 0) ∧ w' = w := by
  go_enter Try.func9, Try.ntmps9
  go_wp2
  go_ret
  exact ⟨rfl, rfl⟩

/-- The i-th choice out of n is below n, where n is 1 or more. -/
theorem lwAt_any (a : Option Addr) (len cap : Nat) (zs : List Int) (k n : Int) (w : World) (hr : BRow .u8 w a len cap zs)
    (hk0 : 0 ≤ k) (hk1 : k ≤ 1000000) (hn : 1 ≤ n) :
    Calls Try.prog 9 #[.slice a len cap, .int .i64 k, .int .i64 n] w fun e w' => ∃ r m, e = .returned (.int .i64 r) ∧ 0 ≤ r ∧ r < n ∧ w' = w.drewN m := by
  by_cases h1 : 1 < n
  · by_cases hz : len = 0
    · subst hz; exact lwAt_nil a cap k n w hk0 hk1 h1
    · have hm : len ≤ maxLen := by
        rcases hr with ⟨_, h, _⟩ | ⟨x, _, g1, g2, _⟩
        · omega
        · exact Nat.le_trans g1 g2
      obtain ⟨b, off, rfl, hc⟩ := hr.byte (by omega)
      exact lwAt_row b off len cap k n (fun i => zs.getD i 0) w hk0 hk1 (by omega) hm h1 hc
  · refine (lwAt_low a len cap k n w (by omega)).mono ?_
    rintro e w' ⟨rfl, rfl⟩
    exact ⟨0, 0, rfl, by omega, by omega, rfl⟩
end Go.Proofs.Ytnbcefdfdonljaa
