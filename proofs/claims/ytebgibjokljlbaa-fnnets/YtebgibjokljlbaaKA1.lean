/- What the draws of the model read out of a code: a number below a bound, one of a list; only the count of the source turns; no condition but that it has drawn fewer than a million. -/
import Derived.Test.YtebgibjokljlbaaRows
import Derived.Deep.QuietTactic
import Derived.BigQuiet
import Derived.WalkSmall
import Derived.Deep.DeepMust
import Derived.Test.YtebgibjokljlbaaK01
import Derived.Test.YtebgibjokljlbaaK42
import Derived.Test.YtebgibjokljlbaaK43
import Derived.Test.YtebgibjokljlbaaK55
namespace Go.Proofs.Ytebgibjokljlbaa
open Go.RowKit
set_option linter.unusedVariables false

/-- The source of a draw at block sb: its code v, and a count of at most K. -/
structure Src (w : World) (sb : Nat) (v : Value) (K : Int) : Prop where
  code : w.cell? ⟨sb, 0, none⟩ = some v
  cnt : ∃ k : Int, 0 ≤ k ∧ k ≤ K ∧ w.cell? ⟨sb, 1, none⟩ = some (.int .i64 k)
  fz : w.frozen? ⟨sb, 1, none⟩ = false
  lt : sb < w.heap.size

/-- Of the world nothing turned but the cells of block sb. -/
structure Step (sb : Nat) (w w' : World) : Prop where
  os : w'.os = w.os
  tape : w'.tape = w.tape
  output : w'.output = w.output
  size : w'.heap.size = w.heap.size
  block : ∀ b, b ≠ sb → w'.heap[b]? = w.heap[b]?

theorem Step.refl (sb : Nat) (w : World) : Step sb w w := ⟨rfl, rfl, rfl, rfl, fun _ _ => rfl⟩
theorem Step.trans {sb : Nat} {a b c : World} (h : Step sb a b) (k : Step sb b c) : Step sb a c :=
  ⟨k.os.trans h.os, k.tape.trans h.tape, k.output.trans h.output, k.size.trans h.size, fun i hi => (k.block i hi).trans (h.block i hi)⟩
theorem Step.below {sb B : Nat} {w w' : World} (h : Step sb w w') (hB : B ≤ sb) : Below B w w' :=
  ⟨h.os, h.tape, h.output, Nat.le_of_eq h.size.symm, fun k hk => h.block k (by omega)⟩
theorem Step.set (sb : Nat) (w : World) (o : Nat) (v : Value) (m : Nat) : Step sb w ((w.setCell ⟨sb, o, none⟩ v).drewN m) :=
  ⟨rfl, rfl, rfl, by simp [World.setCell], fun b hb => by
    show (w.setCell ⟨sb, o, none⟩ v).heap[b]? = w.heap[b]?
    exact Below.heap_setCell _ _ _ _ (by simpa using hb)⟩
theorem Step.cell {sb : Nat} {w w' : World} (h : Step sb w w') {p : Addr} (hp : p.block ≠ sb) : w'.cell? p = w.cell? p := World.cell?_of_block (w := w) (h.block p.block hp)
theorem Step.frozen {sb : Nat} {w w' : World} (h : Step sb w w') {p : Addr} (hp : p.block ≠ sb) : w'.frozen? p = w.frozen? p := World.frozen?_of_block (w := w) (h.block p.block hp)

set_option maxHeartbeats 400000 in
theorem next_row (sb : Nat) (b off len cap : Nat) (k n : Int) (g : Nat → Int) (w : World)
    (h0 : w.cell? ⟨sb, 0, none⟩ = some (.slice (some ⟨b, off, none⟩) len cap)) (h1 : w.cell? ⟨sb, 1, none⟩ = some (.int .i64 k)) (hf : w.frozen? ⟨sb, 1, none⟩ = false)
    (hk0 : 0 ≤ k) (hk1 : k ≤ 1000000) (hp : 0 < len) (hm : len ≤ maxLen) (hn : 1 ≤ n) (hne : b ≠ sb)
    (hc : ∀ i, i < len → w.cell? ⟨b, off + i, none⟩ = some (.int .u8 (g i)) ∧ 0 ≤ g i ∧ g i ≤ 255) :
    Calls Try.prog 39 #[.pointer (some ⟨sb, 0, none⟩), .int .i64 n] w fun e w' => ∃ r m, e = .returned (.int .i64 r) ∧ 0 ≤ r ∧ r < n ∧ w' = (w.setCell ⟨sb, 1, none⟩ (.int .i64 (k + 1))).drewN m := by
  unfold maxLen at hm
  have hl : (0 : Int) < (len : Int) := by omega
  have hlz : ((len : Int) == 0) = false := by simp; omega
  have i0 : 0 ≤ k % (len : Int) := Int.emod_nonneg _ (by omega)
  have i1 : k % (len : Int) < (len : Int) := Int.emod_lt_of_pos _ hl
  have j0 : 0 ≤ (k + 1) % (len : Int) := Int.emod_nonneg _ (by omega)
  have j1 : (k + 1) % (len : Int) < (len : Int) := Int.emod_lt_of_pos _ hl
  have q0 : 0 ≤ k / (len : Int) := Int.ediv_nonneg hk0 (by omega)
  have q1 : k / (len : Int) ≤ 1000000 := Int.le_trans (Int.ediv_le_self _ hk0) hk1
  obtain ⟨c0, a0, a1⟩ := hc (k % (len : Int)).toNat (by omega)
  obtain ⟨c1, b0, b1⟩ := hc ((k + 1) % (len : Int)).toNat (by omega)
  clear hc
  generalize g (k % (len : Int)).toNat = x at *
  generalize g ((k + 1) % (len : Int)).toNat = y at *
  by_cases h200 : 200 < n
  · go_enter Try.func39, Try.ntmps39
    go_wp2
    go_quiet (fail)
    go_wp2
    go_quiet (fail)
    go_wp2
    go_ret
    exact ⟨_, _, rfl, Int.emod_nonneg _ (by omega), Int.emod_lt_of_pos _ (by omega), rfl⟩
  · go_enter Try.func39, Try.ntmps39
    go_wp2
    go_quiet (fail)
    go_wp2
    go_ret
    exact ⟨_, _, rfl, Int.emod_nonneg _ (by omega), Int.emod_lt_of_pos _ (by omega), rfl⟩

set_option maxHeartbeats 400000 in
theorem next_nil (sb cap : Nat) (a : Option Addr) (k n : Int) (w : World)
    (h0 : w.cell? ⟨sb, 0, none⟩ = some (.slice a 0 cap)) (h1 : w.cell? ⟨sb, 1, none⟩ = some (.int .i64 k)) (hf : w.frozen? ⟨sb, 1, none⟩ = false)
    (hk0 : 0 ≤ k) (hk1 : k ≤ 1000000) (hn : 1 ≤ n) :
    Calls Try.prog 39 #[.pointer (some ⟨sb, 0, none⟩), .int .i64 n] w fun e w' => ∃ r m, e = .returned (.int .i64 r) ∧ 0 ≤ r ∧ r < n ∧ w' = (w.setCell ⟨sb, 1, none⟩ (.int .i64 (k + 1))).drewN m := by
  go_enter Try.func39, Try.ntmps39
  go_wp2
  go_ret
  exact ⟨_, 0, rfl, Int.emod_nonneg _ (by omega), Int.emod_lt_of_pos _ (by omega), rfl⟩

set_option maxHeartbeats 400000 in
theorem next_low (sb : Nat) (v : Value) (k n : Int) (w : World)
    (h0 : w.cell? ⟨sb, 0, none⟩ = some v) (h1 : w.cell? ⟨sb, 1, none⟩ = some (.int .i64 k)) (hf : w.frozen? ⟨sb, 1, none⟩ = false)
    (hk0 : 0 ≤ k) (hk1 : k ≤ 1000000) (hn : n < 1) :
    Calls Try.prog 39 #[.pointer (some ⟨sb, 0, none⟩), .int .i64 n] w fun e w' => e = .returned (.int .i64 0) ∧ w' = (w.setCell ⟨sb, 1, none⟩ (.int .i64 (k + 1))) := by
  go_enter Try.func39, Try.ntmps39
  go_wp2
  go_ret
  exact ⟨rfl, rfl⟩

theorem Src.step {w : World} {sb : Nat} {v : Value} {K k : Int} (h : Src w sb v K) (hk0 : 0 ≤ k) (hk1 : k ≤ K) (m : Nat) : Src ((w.setCell ⟨sb, 1, none⟩ (.int .i64 (k + 1))).drewN m) sb v (K + 1) := by
  obtain ⟨h0, ⟨k', _, _, h1⟩, hf, hl⟩ := h
  refine ⟨?_, ⟨k + 1, by omega, by omega, ?_⟩, ?_, ?_⟩
  · go_simp
  · go_simp
  · go_simp
  · simpa [World.setCell] using hl

/-- A draw below n, which is 1 or more. -/
theorem sNext (sb : Nat) (a : Option Addr) (len cap : Nat) (zs : List Int) (K n : Int) (w : World)
    (hs : Src w sb (.slice a len cap) K) (hr : BRow .u8 w a len cap zs) (hl : RowLt sb a zs) (hK : K ≤ 1000000) (hn : 1 ≤ n) :
    Calls Try.prog 39 #[.pointer (some ⟨sb, 0, none⟩), .int .i64 n] w fun e w' => ∃ r, e = .returned (.int .i64 r) ∧ 0 ≤ r ∧ r < n ∧ Step sb w w' ∧ Src w' sb (.slice a len cap) (K + 1) := by
  have hs' := hs
  obtain ⟨h0, ⟨k, hk0, hk1, h1⟩, hf, hlt⟩ := hs
  by_cases hz : len = 0
  · subst hz
    refine (next_nil sb cap a k n w h0 h1 hf hk0 (by omega) hn).mono ?_
    rintro e w' ⟨r, m, rfl, r0, r1, rfl⟩
    exact ⟨r, rfl, r0, r1, Step.set _ _ _ _ _, hs'.step hk0 hk1 m⟩
  · have hm : len ≤ maxLen := by
      rcases hr with ⟨_, h, _⟩ | ⟨x, _, g1, g2, _⟩
      · omega
      · exact Nat.le_trans g1 g2
    obtain ⟨b, off, rfl, hc⟩ := hr.byte (by omega)
    have hz2 : 0 < zs.length := by
      rcases hr with ⟨_, h, _⟩ | ⟨x, _, g1, _, g3, _⟩ <;> omega
    have hb := hl _ rfl hz2
    refine (next_row sb b off len cap k n (fun i => zs.getD i 0) w h0 h1 hf hk0 (by omega) (by omega) hm hn (by simp at hb; omega) hc).mono ?_
    rintro e w' ⟨r, m, rfl, r0, r1, rfl⟩
    exact ⟨r, rfl, r0, r1, Step.set _ _ _ _ _, hs'.step hk0 hk1 m⟩

/-- A draw below n, whatever n is. -/
theorem sNextAny (sb : Nat) (a : Option Addr) (len cap : Nat) (zs : List Int) (K n : Int) (w : World)
    (hs : Src w sb (.slice a len cap) K) (hr : BRow .u8 w a len cap zs) (hl : RowLt sb a zs) (hK : K ≤ 1000000) :
    Calls Try.prog 39 #[.pointer (some ⟨sb, 0, none⟩), .int .i64 n] w fun e w' => ∃ r, e = .returned (.int .i64 r) ∧ 0 ≤ r ∧ (r < n ∨ r = 0) ∧ Step sb w w' ∧ Src w' sb (.slice a len cap) (K + 1) := by
  by_cases hn : 1 ≤ n
  · refine (sNext sb a len cap zs K n w hs hr hl hK hn).mono ?_
    rintro e w' ⟨r, rfl, r0, r1, r2, r3⟩
    exact ⟨r, rfl, r0, Or.inl r1, r2, r3⟩
  · have hs' := hs
    obtain ⟨h0, ⟨k, hk0, hk1, h1⟩, hf, hlt⟩ := hs
    refine (next_low sb _ k n w h0 h1 hf hk0 (by omega) (by omega)).mono ?_
    rintro e w' ⟨rfl, rfl⟩
    exact ⟨0, rfl, by omega, Or.inr rfl, Step.set _ _ _ _ 0, hs'.step hk0 hk1 0⟩

/-- One of a list of the call's own. -/
theorem sPick (sb : Nat) (a : Option Addr) (len cap : Nat) (zs : List Int) (K : Int) (lb nl : Nat) (g : Nat → Int) (w : World)
    (hs : Src w sb (.slice a len cap) K) (hr : BRow .u8 w a len cap zs) (hl : RowLt sb a zs) (hK : K ≤ 1000000) (hlb : lb ≠ sb) (hnl : 1 ≤ nl) (hmx : nl ≤ 1000)
    (hc : ∀ i, i < nl → w.cell? ⟨lb, i, none⟩ = some (.int .i64 (g i))) :
    Calls Try.prog 41 #[.pointer (some ⟨sb, 0, none⟩), .slice (some ⟨lb, 0, none⟩) nl nl] w fun e w' => ∃ i, e = .returned (.int .i64 (g i)) ∧ i < nl ∧ Step sb w w' ∧ Src w' sb (.slice a len cap) (K + 1) := by
  go_enter Try.func41, Try.ntmps41
  go_wp2_with fail
  refine (sNext sb a len cap zs K nl w hs hr hl hK (by omega)).mono ?_
  rintro e w1 ⟨r, rfl, r0, r1, st, sr⟩
  have hcr := hc r.toNat (by omega)
  rw [← st.cell (p := ⟨lb, r.toNat, none⟩) hlb] at hcr
  clear hc
  go_wp2
  go_ret
  exact ⟨r.toNat, rfl, by omega, st, sr⟩

/-- A list that was just laid, place by place. -/
theorem laid_list (w : World) (l : List Int) (t : TypeId) : ∀ i, i < l.length → (w.alloc (.cells (l.map (Value.int .i64)).toArray t)).cell? ⟨w.heap.size, i, none⟩ = some (.int .i64 (l.getD i 0)) := by
  intro i hi
  have e : (l.map (Value.int .i64)).toArray[i]? = some (.int .i64 (l.getD i 0)) := by
    simp [List.getElem?_eq_getElem hi]
  rw [World.cell?_alloc_new, e]

theorem Src.alloc {w : World} {sb : Nat} {v : Value} {K : Int} (h : Src w sb v K) (o : Obj) : Src (w.alloc o) sb v K := by
  obtain ⟨h0, ⟨k, k0, k1, h1⟩, hf, hl⟩ := h
  have hb : Below w.heap.size w (w.alloc o) := (Below.refl _ _).alloc (Nat.le_refl _) o
  exact ⟨(hb.cell (p := ⟨sb, 0, none⟩) hl).trans h0, ⟨k, k0, k1, (hb.cell (p := ⟨sb, 1, none⟩) hl).trans h1⟩, (hb.frozen (p := ⟨sb, 1, none⟩) hl).trans hf, by simp; omega⟩

theorem Src.bel {w w' : World} {sb : Nat} {v : Value} {K : Int} (h : Src w sb v K) (hb : Below w.heap.size w w') : Src w' sb v K := by
  obtain ⟨h0, ⟨k, k0, k1, h1⟩, hf, hl⟩ := h
  exact ⟨(hb.cell (p := ⟨sb, 0, none⟩) hl).trans h0, ⟨k, k0, k1, (hb.cell (p := ⟨sb, 1, none⟩) hl).trans h1⟩, (hb.frozen (p := ⟨sb, 1, none⟩) hl).trans hf, Nat.lt_of_lt_of_le hl hb.size⟩
theorem Src.mono {w : World} {sb : Nat} {v : Value} {K K' : Int} (h : Src w sb v K) (hK : K ≤ K') : Src w sb v K' := by
  obtain ⟨h0, ⟨k, k0, k1, h1⟩, hf, hl⟩ := h
  exact ⟨h0, ⟨k, k0, by omega, h1⟩, hf, hl⟩

/-- One of a list that was just laid. -/
theorem sPickL (sb : Nat) (a : Option Addr) (len cap : Nat) (zs : List Int) (K : Int) (l : List Int) (t : TypeId) (w : World)
    (hs : Src w sb (.slice a len cap) K) (hr : BRow .u8 w a len cap zs) (hl : RowLt sb a zs) (hK : K ≤ 1000000) (hn : 1 ≤ l.length) (hx : l.length ≤ 1000) :
    Calls Try.prog 41 #[.pointer (some ⟨sb, 0, none⟩), .slice (some ⟨w.heap.size, 0, none⟩) l.length l.length] (w.alloc (.cells (l.map (Value.int .i64)).toArray t)) fun e w' =>
      ∃ r, e = .returned (.int .i64 r) ∧ r ∈ l ∧ Below sb w w' ∧ Src w' sb (.slice a len cap) (K + 1) := by
  have hlt := hs.lt
  have hba : Below sb w (w.alloc (.cells (l.map (Value.int .i64)).toArray t)) := (Below.refl _ _).alloc (Nat.le_of_lt hlt) _
  refine (sPick sb a len cap zs K w.heap.size l.length (fun i => l.getD i 0) _ (hs.alloc _) (hr.below hl hba) hl hK (by omega) hn hx (laid_list w l t)).mono ?_
  rintro e w' ⟨i, rfl, hi, st, sr⟩
  refine ⟨_, rfl, ?_, hba.trans (st.below (Nat.le_refl _)), sr⟩
  rw [List.getD_eq_getElem?_getD, List.getElem?_eq_getElem hi]
  exact List.getElem_mem hi

/-- A new source. -/
theorem sSource (a : Option Addr) (len cap : Nat) (w : World) :
    Calls Try.prog 37 #[.slice a len cap] w fun e w' => e = .returned (.pointer (some ⟨w.heap.size, 0, none⟩)) ∧ w' = w.alloc (.cells #[.slice a len cap, .int .i64 0] 138) := by
  go_enter Try.func37, Try.ntmps37
  go_wp2
  go_ret
  exact ⟨rfl, rfl⟩

theorem Src.new (v : Value) (t : TypeId) (w : World) : Src (w.alloc (.cells #[v, .int .i64 0] t)) w.heap.size v 0 :=
  ⟨by go_simp, ⟨0, by omega, by omega, by go_simp⟩, by go_simp, by simp⟩

/-- Where the walk begins a draw: the source is new, the code reads as it did. -/
theorem draw_start {a : Option Addr} {len cap : Nat} {zs : List Int} {w : World} (t : TypeId) (hr : BRow .u8 w a len cap zs) (hl : RowLt w.heap.size a zs) :
    Src (w.alloc (.cells #[.slice a len cap, .int .i64 0] t)) w.heap.size (.slice a len cap) 0 ∧ BRow .u8 (w.alloc (.cells #[.slice a len cap, .int .i64 0] t)) a len cap zs ∧ Below w.heap.size w (w.alloc (.cells #[.slice a len cap, .int .i64 0] t)) := by
  have hb : Below w.heap.size w (w.alloc (.cells #[.slice a len cap, .int .i64 0] t)) := (Below.refl _ _).alloc (Nat.le_refl _) _
  exact ⟨Src.new _ _ _, hr.below hl hb, hb⟩

set_option maxHeartbeats 400000 in
theorem lwAt_row (b off len cap : Nat) (k n : Int) (g : Nat → Int) (w : World)
    (hk0 : 0 ≤ k) (hk1 : k ≤ 1000000) (hp : 0 < len) (hm : len ≤ maxLen) (hn : 1 < n)
    (hc : ∀ i, i < len → w.cell? ⟨b, off + i, none⟩ = some (.int .u8 (g i)) ∧ 0 ≤ g i ∧ g i ≤ 255) :
    Calls Try.prog 15 #[.slice (some ⟨b, off, none⟩) len cap, .int .i64 k, .int .i64 n] w fun e w' => ∃ r m, e = .returned (.int .i64 r) ∧ 0 ≤ r ∧ r < n ∧ w' = w.drewN m := by
  unfold maxLen at hm
  have hl : (0 : Int) < (len : Int) := by omega
  have hlz : ((len : Int) == 0) = false := by simp; omega
  have i0 : 0 ≤ k % (len : Int) := Int.emod_nonneg _ (by omega)
  have i1 : k % (len : Int) < (len : Int) := Int.emod_lt_of_pos _ hl
  have j0 : 0 ≤ (k + 1) % (len : Int) := Int.emod_nonneg _ (by omega)
  have j1 : (k + 1) % (len : Int) < (len : Int) := Int.emod_lt_of_pos _ hl
  have q0 : 0 ≤ k / (len : Int) := Int.ediv_nonneg hk0 (by omega)
  have q1 : k / (len : Int) ≤ 1000000 := Int.le_trans (Int.ediv_le_self _ hk0) hk1
  obtain ⟨c0, a0, a1⟩ := hc (k % (len : Int)).toNat (by omega)
  obtain ⟨c1, b0, b1⟩ := hc ((k + 1) % (len : Int)).toNat (by omega)
  clear hc
  generalize g (k % (len : Int)).toNat = x at *
  generalize g ((k + 1) % (len : Int)).toNat = y at *
  by_cases h200 : 200 < n
  · go_enter Try.func15, Try.ntmps15
    go_wp2
    go_quiet (fail)
    go_wp2
    go_ret
    exact ⟨_, _, rfl, Int.emod_nonneg _ (by omega), Int.emod_lt_of_pos _ (by omega), rfl⟩
  · go_enter Try.func15, Try.ntmps15
    go_wp2
    go_quiet (fail)
    go_wp2
    go_ret
    exact ⟨_, _, rfl, Int.emod_nonneg _ (by omega), Int.emod_lt_of_pos _ (by omega), rfl⟩

theorem lwAt_nil (a : Option Addr) (cap : Nat) (k n : Int) (w : World) (hk0 : 0 ≤ k) (hk1 : k ≤ 1000000) (hn : 1 < n) :
    Calls Try.prog 15 #[.slice a 0 cap, .int .i64 k, .int .i64 n] w fun e w' => ∃ r m, e = .returned (.int .i64 r) ∧ 0 ≤ r ∧ r < n ∧ w' = w.drewN m := by
  go_enter Try.func15, Try.ntmps15
  go_wp2
  go_ret
  exact ⟨_, 0, rfl, Int.emod_nonneg _ (by omega), Int.emod_lt_of_pos _ (by omega), rfl⟩

theorem lwAt_low (a : Option Addr) (len cap : Nat) (k n : Int) (w : World) (hn : n ≤ 1) :
    Calls Try.prog 15 #[.slice a len cap, .int .i64 k, .int .i64 n] w fun e w' => e = .returned (.int .i64 0) ∧ w' = w := by
  go_enter Try.func15, Try.ntmps15
  go_wp2
  go_ret
  exact ⟨rfl, rfl⟩

/-- The i-th choice out of n is below n, where n is 1 or more. -/
theorem lwAt_any (a : Option Addr) (len cap : Nat) (zs : List Int) (k n : Int) (w : World) (hr : BRow .u8 w a len cap zs)
    (hk0 : 0 ≤ k) (hk1 : k ≤ 1000000) (hn : 1 ≤ n) :
    Calls Try.prog 15 #[.slice a len cap, .int .i64 k, .int .i64 n] w fun e w' => ∃ r m, e = .returned (.int .i64 r) ∧ 0 ≤ r ∧ r < n ∧ w' = w.drewN m := by
  by_cases h1 : 1 < n
  · by_cases hz : len = 0
    · subst hz; exact lwAt_nil a cap k n w hk0 hk1 h1
    · have hm : len ≤ maxLen := by
        rcases hr with ⟨_, h, _⟩ | ⟨x, _, g1, g2, _⟩
        · omega
        · exact Nat.le_trans g1 g2
      obtain ⟨b, off, rfl, hc⟩ := hr.byte (by omega)
      exact lwAt_row b off len cap k n (fun i => zs.getD i 0) w hk0 hk1 (by omega) hm h1 hc
  · refine (lwAt_low a len cap k n w (by omega)).mono ?_
    rintro e w' ⟨rfl, rfl⟩
    exact ⟨0, 0, rfl, by omega, by omega, rfl⟩
end Go.Proofs.Ytebgibjokljlbaa

/- What the draws of chapter 2's model give: segments with loads of their own, of a few bytes; of what was in memory only the count of the source turns; no condition but that it has drawn fewer than a million. -/
namespace Go.Proofs.Ytebgibjokljlbaa
open Go.RowKit
set_option linter.unusedVariables false

/-- Of what was in memory nothing turned but the cells of block sb. -/
structure Dr (sb : Nat) (w w' : World) : Prop where
  os : w'.os = w.os
  tape : w'.tape = w.tape
  output : w'.output = w.output
  size : w.heap.size ≤ w'.heap.size
  block : ∀ b, b < w.heap.size → b ≠ sb → w'.heap[b]? = w.heap[b]?

theorem Dr.refl (sb : Nat) (w : World) : Dr sb w w := ⟨rfl, rfl, rfl, Nat.le_refl _, fun _ _ _ => rfl⟩
theorem Dr.trans {sb : Nat} {a b c : World} (h : Dr sb a b) (k : Dr sb b c) : Dr sb a c :=
  ⟨k.os.trans h.os, k.tape.trans h.tape, k.output.trans h.output, Nat.le_trans h.size k.size, fun i hi hn => (k.block i (Nat.lt_of_lt_of_le hi h.size) hn).trans (h.block i hi hn)⟩
theorem Step.dr {sb : Nat} {w w' : World} (h : Step sb w w') : Dr sb w w' := ⟨h.os, h.tape, h.output, Nat.le_of_eq h.size.symm, fun b _ hn => h.block b hn⟩
theorem Dr.then {sb B : Nat} {w w1 w2 : World} (h : Dr sb w w1) (k : Below B w1 w2) (hB : w.heap.size ≤ B) : Dr sb w w2 :=
  ⟨k.os.trans h.os, k.tape.trans h.tape, k.output.trans h.output, Nat.le_trans h.size k.size, fun i hi hn => (k.block i (by omega)).trans (h.block i hi hn)⟩
theorem Dr.below {sb : Nat} {w w' : World} (h : Dr sb w w') (hs : sb ≤ w.heap.size) : Below sb w w' := ⟨h.os, h.tape, h.output, h.size, fun k hk => h.block k (by omega) (by omega)⟩
theorem Dr.cell {sb : Nat} {w w' : World} (h : Dr sb w w') {p : Addr} (hp : p.block < w.heap.size) (hn : p.block ≠ sb) : w'.cell? p = w.cell? p := World.cell?_of_block (w := w) (h.block p.block hp hn)
theorem Dr.frozen {sb : Nat} {w w' : World} (h : Dr sb w w') {p : Addr} (hp : p.block < w.heap.size) (hn : p.block ≠ sb) : w'.frozen? p = w.frozen? p := World.frozen?_of_block (w := w) (h.block p.block hp hn)
theorem OB.dr {sb base : Nat} {w w' : World} {v : Value} {l : List Int} (h : OB w base v l) (hd : Dr sb w w') (hs : sb < base) : OB w' base v l := by
  refine ⟨?_, h.bd⟩
  obtain ⟨h1, h2 | ⟨g, cap, cur, e, hg, hh, r⟩⟩ := h.own
  · exact ⟨h1, Or.inl h2⟩
  · have hlt : g < w.heap.size := by
      apply Classical.byContradiction; intro hn
      rw [Array.getElem?_eq_none (by omega)] at hh; cases hh
    exact ⟨h1, Or.inr ⟨g, cap, cur, e, hg, by rw [hd.block g hlt (by omega)]; exact hh, r⟩⟩
theorem Src.below {w w' : World} {sb B : Nat} {v : Value} {K : Int} (h : Src w sb v K) (hb : Below B w w') (hB : sb < B) : Src w' sb v K := by
  obtain ⟨h0, ⟨k, k0, k1, h1⟩, hf, hl⟩ := h
  have := hb.size
  exact ⟨(hb.cell (p := ⟨sb, 0, none⟩) hB).trans h0, ⟨k, k0, k1, (hb.cell (p := ⟨sb, 1, none⟩) hB).trans h1⟩, (hb.frozen (p := ⟨sb, 1, none⟩) hB).trans hf, by omega⟩

/-- One of a list that was just laid. -/
theorem sPickD (sb : Nat) (a : Option Addr) (len cap : Nat) (zs : List Int) (K : Int) (l : List Int) (t : TypeId) (w : World)
    (hs : Src w sb (.slice a len cap) K) (hr : BRow .u8 w a len cap zs) (hl : RowLt sb a zs) (hK : K ≤ 1000000) (hn : 1 ≤ l.length) (hx : l.length ≤ 1000) :
    Calls Try.prog 41 #[.pointer (some ⟨sb, 0, none⟩), .slice (some ⟨w.heap.size, 0, none⟩) l.length l.length] (w.alloc (.cells (l.map (Value.int .i64)).toArray t)) fun e w' =>
      ∃ r, e = .returned (.int .i64 r) ∧ r ∈ l ∧ Dr sb w w' ∧ Src w' sb (.slice a len cap) (K + 1) := by
  have hlt := hs.lt
  have hba : Below w.heap.size w (w.alloc (.cells (l.map (Value.int .i64)).toArray t)) := (Below.refl _ _).alloc (Nat.le_refl _) _
  refine (sPick sb a len cap zs K w.heap.size l.length (fun i => l.getD i 0) _ (hs.alloc _) (hr.below hl (hba.mono (Nat.le_of_lt hlt))) hl hK (by omega) hn hx (laid_list w l t)).mono ?_
  rintro e w' ⟨i, rfl, hi, st, sr⟩
  refine ⟨_, rfl, ?_, ((Dr.refl _ _).then hba (Nat.le_refl _)).trans st.dr, sr⟩
  rw [List.getD_eq_getElem?_getD, List.getElem?_eq_getElem hi]
  exact List.getElem_mem hi

theorem sChance (sb : Nat) (a : Option Addr) (len cap : Nat) (zs : List Int) (K n : Int) (w : World)
    (hs : Src w sb (.slice a len cap) K) (hr : BRow .u8 w a len cap zs) (hl : RowLt sb a zs) (hK : K ≤ 1000000) (hn : 1 ≤ n) :
    Calls Try.prog 52 #[.pointer (some ⟨sb, 0, none⟩), .int .i64 n] w fun e w' => ∃ r, e = .returned (.bool r) ∧ Step sb w w' ∧ Src w' sb (.slice a len cap) (K + 1) := by
  go_enter Try.func52, Try.ntmps52
  go_wp2_with fail
  refine (sNext sb a len cap zs K n w hs hr hl hK hn).mono ?_
  rintro e w1 ⟨r, rfl, r0, r1, st, sr⟩
  go_wp2
  go_ret
  exact ⟨_, rfl, st, sr⟩

set_option maxHeartbeats 1000000 in
theorem sSome (sb : Nat) (a : Option Addr) (len cap : Nat) (zs : List Int) (K n : Int) (w : World)
    (hs : Src w sb (.slice a len cap) K) (hr : BRow .u8 w a len cap zs) (hl : RowLt sb a zs) (hK : K ≤ 900000) (hn0 : 0 ≤ n) (hn : n ≤ 9) :
    Calls Try.prog 95 #[.pointer (some ⟨sb, 0, none⟩), .int .i64 n] w fun e w' => ∃ v, e = .returned v ∧ ∃ l, OB w' w.heap.size v l ∧ (l.length : Int) ≤ n ∧ Dr sb w w' ∧ Src w' sb (.slice a len cap) (K + 27) := by
  have hlt := hs.lt
  have HR : Hid (∀ W, Dr sb w W → BRow .u8 W a len cap zs) := fun W h => hr.below hl (h.below (Nat.le_of_lt hlt))
  have HS : Hid _ := hs
  clear hr hs
  go_enter Try.func95, Try.ntmps95
  go_wp2
  go_loopw [1, 5] (fun t1 v wr => ∃ (k : Nat) (l : List Int), t1 = .int .i64 (n - k) ∧ (k : Int) ≤ n ∧ Hid (l.length = k) ∧ Hid (OB wr w.heap.size v l) ∧ Hid (Dr sb w wr) ∧ Hid (Src wr sb (.slice a len cap) (K + 3 * k))) (fun t1 _ _ => (intOf t1).toNat)
  case atStart => exact ⟨0, [], by go_num, by omega, rfl, OB.made w w.heap.size (Nat.le_refl _), (Dr.refl _ _).then ((Below.refl _ _).alloc (Nat.le_refl _) _) (Nat.le_refl _), (HS.out.alloc _).mono (by omega)⟩
  case round =>
    obtain ⟨k, l, rfl, hk, hl0, ho, hd, hs⟩ := hrel
    by_cases hkn : (k : Int) < n
    · go_wp2_with fail
      refine (sNext sb a len cap zs _ 256 wr hs.out (HR.out _ hd.out) hl (by omega) (by omega)).mono ?_
      rintro e w1 ⟨x1, rfl, p1, q1, st1, s1⟩
      have d1 : Hid _ := hd.out.trans st1.dr
      have o1 : Hid _ := ho.out.dr st1.dr hlt
      have s1 : Hid _ := s1
      clear st1
      go_wp2_with fail
      refine (sNext sb a len cap zs _ 9 w1 s1.out (HR.out _ d1.out) hl (by omega) (by omega)).mono ?_
      rintro e w2 ⟨x2, rfl, p2, q2, st2, s2⟩
      have d2 : Hid _ := d1.out.trans st2.dr
      have o2 : Hid _ := o1.out.dr st2.dr hlt
      have s2 : Hid _ := s2
      clear st2
      go_wp2_with fail
      have hp := sPickD sb a len cap zs _ [x1, 97 + x2] 2 w2 s2.out (HR.out _ d2.out) hl (by omega) (by simp) (by simp)
      simp only [List.length_cons, List.length_nil, List.map_cons, List.map_nil, Nat.zero_add, Nat.reduceAdd] at hp
      refine hp.mono ?_
      clear hp
      rintro e w3 ⟨r, rfl, hm, d3', s3⟩
      simp only [List.mem_cons, List.not_mem_nil, or_false] at hm
      have m0 : 0 ≤ r := by omega
      have m1 : r ≤ 255 := by omega
      have d3 : Hid _ := d2.out.trans d3'
      have o3 : Hid _ := o2.out.dr d3' hlt
      have s3 : Hid _ := s3
      clear hm d3'
      have hz : w.heap.size ≤ w3.heap.size := d3.out.size
      go_wp2_with (at_builtin; refine app_u8one w3 rfl _ _ rfl w.heap.size u5 _ (by rfl) o3.out _ (by rfl) (by first | omega | (rw [u8w]; omega)) (by rw [hl0.out]; omega) hz ?_; intro v' w5 ho5 hb5 hg5)
      go_roundw
      case rel => exact ⟨k + 1, _, by go_num, by omega, by simp [hl0.out, Hid], ho5, d3.out.then hb5 (Nat.le_refl _), (s3.out.below hb5 hlt).mono (by push_cast; omega)⟩
      case measure => simp [intOf]; omega
    · obtain rfl : (k : Int) = n := by omega
      go_wp2
      go_ret
      exact ⟨_, rfl, l, ho.out, by rw [hl0.out]; omega, hd.out, hs.out.mono (by omega)⟩
end Go.Proofs.Ytebgibjokljlbaa

/- What the draws of chapter 2's model give: segments with loads of their own, of a few bytes; of what was in memory only the count of the source turns; no condition but that it has drawn fewer than a million. -/
namespace Go.Proofs.Ytebgibjokljlbaa
open Go.RowKit
set_option linter.unusedVariables false
set_option linter.unusedSimpArgs false

/-- The cells of a segment that is all zero. -/
abbrev zSeg : Array Value := #[.int .i64 0, .int .i64 0, .bool false, .bool false, .bool false, .int .i64 0, .int .i64 0, .int .i64 0, .int .i64 0, .int .i64 0, .int .i64 0, .slice none 0 0]

/-- What a drawn segment's numbers are, its load and Ack aside. -/
def Seg.Rg (s : Seg) : Prop := (0 ≤ s.path ∧ s.path < 3) ∧ (0 ≤ s.frm ∧ s.frm < 2) ∧ (0 ≤ s.seq ∧ s.seq < 300) ∧ (0 ≤ s.fin ∧ s.fin < 30) ∧ (0 ≤ s.opt ∧ s.opt ≤ 4) ∧ (0 ≤ s.a ∧ s.a < 99) ∧ (0 ≤ s.b ∧ s.b < 60000)

set_option maxRecDepth 8000 in
set_option maxHeartbeats 4000000 in
theorem sSeg (sb : Nat) (a : Option Addr) (len cap : Nat) (zs : List Int) (K : Int) (w : World)
    (hs : Src w sb (.slice a len cap) K) (hr : BRow .u8 w a len cap zs) (hl : RowLt sb a zs) (hK : K ≤ 800000) :
    Calls Try.prog 58 #[.pointer (some ⟨sb, 0, none⟩)] w fun e w' => ∃ (s : Seg) (v : Value), e = .returned (.agg #[.int .i64 s.path, .int .i64 s.frm, .bool s.syn, .bool s.ackd, .bool s.rst, .int .i64 s.seq, .int .i64 s.ack, .int .i64 s.fin, .int .i64 s.opt, .int .i64 s.a, .int .i64 s.b, v]) ∧ OB w' w.heap.size v s.load ∧ s.load.length ≤ 8 ∧ (0 ≤ s.ack ∧ s.ack < 300) ∧ s.Rg ∧ Dr sb w w' ∧ Src w' sb (.slice a len cap) (K + 60) := by
  have hlt := hs.lt
  have HR : Hid (∀ W, Dr sb w W → BRow .u8 W a len cap zs) := fun W h => hr.below hl (h.below (Nat.le_of_lt hlt))
  have HS : Hid _ := hs
  clear hr hs
  go_enter Try.func58, Try.ntmps58
  go_wp2_with fail
  obtain ⟨W0, hW0⟩ : ∃ W0, w.alloc (.cells zSeg 48) = W0 := ⟨_, rfl⟩
  have D0 : Hid (Dr sb w W0) := by rw [← hW0]; exact (Dr.refl _ _).then ((Below.refl _ _).alloc (Nat.le_refl _) _) (Nat.le_refl _)
  have S0 : Hid (Src W0 sb (.slice a len cap) K) := by rw [← hW0]; exact HS.out.alloc _
  have C0 : Hid (∀ o, W0.cell? ⟨w.heap.size, o, none⟩ = zSeg[o]? ∧ W0.frozen? ⟨w.heap.size, o, none⟩ = false) := by rw [← hW0]; intro o; exact ⟨by simp [go_sem], by simp [go_sem]⟩
  have z0 : W0.heap.size = w.heap.size + 1 := by rw [← hW0]; simp
  unfold zSeg at hW0
  simp only [hW0]
  clear hW0
  refine (sNext sb a len cap zs _ 3 W0 S0.out (HR.out _ D0.out) hl (by omega) (by omega)).mono ?_
  rintro e w1 ⟨x1, rfl, p1, q1, st, s1⟩
  have d1 : Hid _ := st.dr
  have s1 : Hid _ := s1
  clear st
  go_wp2_with fail
  refine (sNext sb a len cap zs _ 2 w1 s1.out (HR.out _ (D0.out.trans d1.out)) hl (by omega) (by omega)).mono ?_
  rintro e w2 ⟨x2, rfl, p2, q2, st, s2⟩
  have d2 : Hid _ := d1.out.trans st.dr
  have s2 : Hid _ := s2
  clear st
  go_wp2_with fail
  refine (sChance sb a len cap zs _ 2 w2 s2.out (HR.out _ (D0.out.trans d2.out)) hl (by omega) (by omega)).mono ?_
  rintro e w3 ⟨b3, rfl, st, s3⟩
  have d3 : Hid _ := d2.out.trans st.dr
  have s3 : Hid _ := s3
  clear st
  go_wp2_with fail
  refine (sNext sb a len cap zs _ 300 w3 s3.out (HR.out _ (D0.out.trans d3.out)) hl (by omega) (by omega)).mono ?_
  rintro e w4 ⟨x4, rfl, p4, q4, st, s4⟩
  have d4 : Hid _ := d3.out.trans st.dr
  have s4 : Hid _ := s4
  clear st
  go_wp2_with fail
  refine (sNext sb a len cap zs _ 300 w4 s4.out (HR.out _ (D0.out.trans d4.out)) hl (by omega) (by omega)).mono ?_
  rintro e w5 ⟨x5, rfl, p5, q5, st, s5⟩
  have d5 : Hid _ := d4.out.trans st.dr
  have s5 : Hid _ := s5
  clear st
  go_wp2_with fail
  refine (sNext sb a len cap zs _ 30 w5 s5.out (HR.out _ (D0.out.trans d5.out)) hl (by omega) (by omega)).mono ?_
  rintro e w6 ⟨x6, rfl, p6, q6, st, s6⟩
  have d6 : Hid _ := d5.out.trans st.dr
  have s6 : Hid _ := s6
  clear st
  go_wp2_with fail
  have hp := sPickD sb a len cap zs _ [0, x6] 2 w6 s6.out (HR.out _ (D0.out.trans d6.out)) hl (by omega) (by simp) (by simp)
  simp only [List.length_cons, List.length_nil, List.map_cons, List.map_nil, Nat.zero_add, Nat.reduceAdd] at hp
  refine hp.mono ?_
  clear hp
  rintro e w7 ⟨x7, rfl, m7, st, s7⟩
  have M7 : Hid (0 ≤ x7 ∧ x7 < 30) := by show _ ∧ _; simp only [List.mem_cons, List.not_mem_nil, or_false] at m7; omega
  clear m7
  have d7 : Hid _ := d6.out.trans st
  have s7 : Hid _ := s7
  clear st
  go_wp2_with fail
  have hp := sPickD sb a len cap zs _ [0, 4, 4, 1, 2, 3] 2 w7 s7.out (HR.out _ (D0.out.trans d7.out)) hl (by omega) (by simp) (by simp)
  simp only [List.length_cons, List.length_nil, List.map_cons, List.map_nil, Nat.zero_add, Nat.reduceAdd] at hp
  refine hp.mono ?_
  clear hp
  rintro e w8 ⟨x8, rfl, m8, st, s8⟩
  have M8 : Hid (0 ≤ x8 ∧ x8 ≤ 4) := by show _ ∧ _; simp only [List.mem_cons, List.not_mem_nil, or_false] at m8; omega
  clear m8
  have d8 : Hid _ := d7.out.trans st
  have s8 : Hid _ := s8
  clear st
  have hz8 : W0.heap.size ≤ w8.heap.size := d8.out.size
  have hne : w.heap.size ≠ sb := by omega
  have hne8 : w8.heap.size ≠ sb := by omega
  have hw8 : w.heap.size ≤ w8.heap.size := by omega
  have hsb8 : sb < w8.heap.size := by omega
  have D8 : Hid (Dr sb w w8) := D0.out.trans d8.out
  have C8 : Hid (∀ o, w8.cell? ⟨w.heap.size, o, none⟩ = zSeg[o]? ∧ w8.frozen? ⟨w.heap.size, o, none⟩ = false) := fun o => ⟨(d8.out.cell (p := ⟨w.heap.size, o, none⟩) (by dsimp only; omega) hne).trans (C0.out o).1, (d8.out.frozen (p := ⟨w.heap.size, o, none⟩) (by dsimp only; omega) hne).trans (C0.out o).2⟩
  have hw88 : w.heap.size < w8.heap.size := by omega
  clear d1 d2 d3 d4 d5 d6 d7 d8 s1 s2 s3 s4 s5 s6 s7 C0 D0 S0 z0 HS
  go_wp2_with fail
  refine (sNext sb a len cap zs _ 5 _ (s8.out.alloc _) (HR.out _ (D8.out.then ((Below.refl _ _).alloc (Nat.le_refl _) _) hw8)) hl (by omega) (by omega)).mono ?_
  rintro e w9 ⟨x9, rfl, p9, q9, st, s9'⟩
  have s9 : Hid _ := s9'
  have dd : Hid _ := st.dr
  have D9 : Hid (Dr sb w w9) := (D8.out.then ((Below.refl _ _).alloc (Nat.le_refl _) _) hw8).trans st.dr
  have z9 : w8.heap.size < w9.heap.size := by have := st.size; simp at this; omega
  have y9 : w.heap.size < w9.heap.size := by omega
  have g9 : ∀ o, w9.cell? ⟨w8.heap.size, o, none⟩ = (#[.int .i64 x1, .int .i64 x2, .bool false, .bool b3, .bool false, .int .i64 x4, .int .i64 x5, .int .i64 x7, .int .i64 x8, .int .i64 0, .int .i64 0, .slice none 0 0] : Array Value)[o]? := fun o => by rw [st.cell hne8]; simp [go_sem]
  have f9 : ∀ o, w9.frozen? ⟨w8.heap.size, o, none⟩ = false := fun o => by rw [st.frozen hne8]; simp [go_sem]
  have r9 : ∀ o, w9.cell? ⟨w.heap.size, o, none⟩ = zSeg[o]? := fun o => by rw [st.cell hne, ← (C8.out o).1]; exact (((Below.refl _ _).alloc (Nat.le_refl _) _).cell (by dsimp only; omega))
  have rf9 : ∀ o, w9.frozen? ⟨w.heap.size, o, none⟩ = false := fun o => by rw [st.frozen hne, ← (C8.out o).2]; exact (((Below.refl _ _).alloc (Nat.le_refl _) _).frozen (by dsimp only; omega))
  unfold zSeg at r9
  clear st s9' dd s8 C8
  by_cases h8 : x8 = 0
  · have h8a : (x8 == 0) = true := by simp [h8]
    have h8b : (x8 != 0) = false := by simp [h8]
    by_cases h9 : x9 = 0
    · have h9a : (x9 == 0) = true := by simp [h9]
      go_wp2_with fail
      refine bodyPost_ret (v := .agg #[.int .i64 x1, .int .i64 x2, .bool true, .bool b3, .bool false, .int .i64 x4, .int .i64 x5, .int .i64 x7, .int .i64 x8, .int .i64 0, .int .i64 0, .slice none 0 0]) (by simp [results, Try.results58, go_sem, g9, r9, f9, rf9, Nat.ne_of_lt hw88, Nat.ne_of_gt hw88, h8]) rfl ⟨⟨x1, x2, true, b3, false, x4, x5, x7, x8, 0, 0, []⟩, .slice none 0 0, rfl, ?_, ?_, ⟨p5, q5⟩, (by have := M7.out; have := M8.out; unfold Seg.Rg; dsimp only; omega), ?_, ?_⟩
      · exact OB.empty _ _
      · simp
      · exact D9.out.then (B := w.heap.size) (by go_grown) (Nat.le_refl _)
      · exact (s9.out.below (B := w.heap.size) (by go_grown) hlt).mono (by omega)
    · have h9a : (x9 == 0) = false := by simp [h9]
      by_cases h9' : x9 = 1
      · have h9b : (x9 == 1) = true := by simp [h9']
        go_wp2_with fail
        refine bodyPost_ret (v := .agg #[.int .i64 x1, .int .i64 x2, .bool false, .bool b3, .bool true, .int .i64 x4, .int .i64 x5, .int .i64 x7, .int .i64 x8, .int .i64 0, .int .i64 0, .slice none 0 0]) (by simp [results, Try.results58, go_sem, g9, r9, f9, rf9, Nat.ne_of_lt hw88, Nat.ne_of_gt hw88, h8]) rfl ⟨⟨x1, x2, false, b3, true, x4, x5, x7, x8, 0, 0, []⟩, .slice none 0 0, rfl, ?_, ?_, ⟨p5, q5⟩, (by have := M7.out; have := M8.out; unfold Seg.Rg; dsimp only; omega), ?_, ?_⟩
        · exact OB.empty _ _
        · simp
        · exact D9.out.then (B := w.heap.size) (by go_grown) (Nat.le_refl _)
        · exact (s9.out.below (B := w.heap.size) (by go_grown) hlt).mono (by omega)
      · have h9b : (x9 == 1) = false := by simp [h9']
        go_wp2_with fail
        refine (sNext sb a len cap zs _ 9 _ (s9.out.below (B := w8.heap.size) (by go_grown) hsb8) (HR.out _ (D9.out.then (B := w8.heap.size) (by go_grown) hw8)) hl (by omega) (by omega)).mono ?_
        rintro e w10 ⟨x10, rfl, p10, q10, st, s10'⟩
        have s10 : Hid _ := s10'
        have D10 : Hid (Dr sb w w10) := (D9.out.then (B := w8.heap.size) (by go_grown) hw8).trans st.dr
        have z10 : w8.heap.size < w10.heap.size := by have := st.size; first | omega | (simp at this; omega)
        have y10 : w.heap.size < w10.heap.size := by omega
        have g10 : ∀ o, w10.cell? ⟨w8.heap.size, o, none⟩ = (#[.int .i64 x1, .int .i64 x2, .bool false, .bool b3, .bool false, .int .i64 x4, .int .i64 x5, .int .i64 x7, .int .i64 x8, .int .i64 0, .int .i64 0, .slice none 0 0] : Array Value)[o]? := fun o => by
          rw [st.cell hne8]
          simp [go_sem, g9]
        have f10 : ∀ o, w10.frozen? ⟨w8.heap.size, o, none⟩ = false := fun o => by rw [st.frozen hne8]; simp [go_sem, f9]
        have r10 : ∀ o, w10.cell? ⟨w.heap.size, o, none⟩ = (#[.int .i64 0, .int .i64 0, .bool false, .bool false, .bool false, .int .i64 0, .int .i64 0, .int .i64 0, .int .i64 0, .int .i64 0, .int .i64 0, .slice none 0 0] : Array Value)[o]? := fun o => by rw [st.cell hne]; simp [go_sem, r9, Nat.ne_of_lt hw88, Nat.ne_of_gt hw88]
        have rf10 : ∀ o, w10.frozen? ⟨w.heap.size, o, none⟩ = false := fun o => by rw [st.frozen hne]; simp [go_sem, rf9, Nat.ne_of_lt hw88, Nat.ne_of_gt hw88]
        clear st s10'
        clear g9 f9 r9 rf9 s9 z9 y9
        go_wp2_with fail
        refine (sSome sb a len cap zs _ x10 w10 s10.out (HR.out _ D10.out) hl (by omega) p10 (by omega)).mono ?_
        rintro e w11 ⟨v11, rfl, l11, ho, hlen, st, s11'⟩
        have O11 : Hid _ := ho
        have hb11 : w8.heap.size < w10.heap.size := z10
        have hlen : l11.length ≤ 8 := by omega
        obtain ⟨a11, c11, hv, -⟩ := ho.rb
        subst hv
        have H11 : Hid (l11.length ≤ 8) := hlen
        generalize hN : l11.length = N at *
        have HN : Hid (l11.length = N) := hN
        clear ho hN
        have s11 : Hid _ := s11'
        have D11 : Hid (Dr sb w w11) := (D10.out.then (B := w8.heap.size) (by go_grown) hw8).trans st
        have z11 : w8.heap.size < w11.heap.size := by have := st.size; first | omega | (simp at this; omega)
        have y11 : w.heap.size < w11.heap.size := by omega
        have g11 : ∀ o, w11.cell? ⟨w8.heap.size, o, none⟩ = (#[.int .i64 x1, .int .i64 x2, .bool false, .bool b3, .bool false, .int .i64 x4, .int .i64 x5, .int .i64 x7, .int .i64 x8, .int .i64 0, .int .i64 0, .slice none 0 0] : Array Value)[o]? := fun o => by
          rw [st.cell (by first | (simp; omega) | omega) hne8]
          simp [go_sem, g10]
        have f11 : ∀ o, w11.frozen? ⟨w8.heap.size, o, none⟩ = false := fun o => by rw [st.frozen (by first | (simp; omega) | omega) hne8]; simp [go_sem, f10]
        have r11 : ∀ o, w11.cell? ⟨w.heap.size, o, none⟩ = (#[.int .i64 0, .int .i64 0, .bool false, .bool false, .bool false, .int .i64 0, .int .i64 0, .int .i64 0, .int .i64 0, .int .i64 0, .int .i64 0, .slice none 0 0] : Array Value)[o]? := fun o => by rw [st.cell (by first | (simp; omega) | omega) hne]; simp [go_sem, r10, Nat.ne_of_lt hw88, Nat.ne_of_gt hw88]
        have rf11 : ∀ o, w11.frozen? ⟨w.heap.size, o, none⟩ = false := fun o => by rw [st.frozen (by first | (simp; omega) | omega) hne]; simp [go_sem, rf10, Nat.ne_of_lt hw88, Nat.ne_of_gt hw88]
        clear st s11'
        clear g10 f10 r10 rf10 s10
        go_wp2_with fail
        have hlen : l11.length ≤ 8 := by rw [HN.out]; exact H11.out
        refine bodyPost_ret (v := .agg #[.int .i64 x1, .int .i64 x2, .bool false, .bool b3, .bool false, .int .i64 x4, .int .i64 x5, .int .i64 x7, .int .i64 x8, .int .i64 0, .int .i64 0, .slice a11 N c11]) (by simp [results, Try.results58, go_sem, g11, r11, f11, rf11, Nat.ne_of_lt hw88, Nat.ne_of_gt hw88, h8]) rfl ⟨⟨x1, x2, false, b3, false, x4, x5, x7, x8, 0, 0, l11⟩, .slice a11 N c11, rfl, ?_, ?_, ⟨p5, q5⟩, (by have := M7.out; have := M8.out; unfold Seg.Rg; dsimp only; omega), ?_, ?_⟩
        · refine OB.mono (base := w10.heap.size) (OB.keeps O11.out fun g hg => ?_) (by omega)
          repeat rw [Below.heap_setCell _ _ _ _ (by dsimp only; omega)]
        · exact hlen
        · exact D11.out.then (B := w.heap.size) (by go_grown) (Nat.le_refl _)
        · exact (s11.out.below (B := w.heap.size) (by go_grown) hlt).mono (by omega)
  · have h8a : (x8 == 0) = false := by simp [h8]
    have h8b : (x8 != 0) = true := by simp [h8]
    by_cases h9 : x9 = 0
    · have h9a : (x9 == 0) = true := by simp [h9]
      go_wp2_with fail
      refine (sNext sb a len cap zs _ 99 _ (s9.out.below (B := w8.heap.size) (by go_grown) hsb8) (HR.out _ (D9.out.then (B := w8.heap.size) (by go_grown) hw8)) hl (by omega) (by omega)).mono ?_
      rintro e w12 ⟨xa, rfl, p12, q12, st, s12'⟩
      have s12 : Hid _ := s12'
      have D12 : Hid (Dr sb w w12) := (D9.out.then (B := w8.heap.size) (by go_grown) hw8).trans st.dr
      have z12 : w8.heap.size < w12.heap.size := by have := st.size; first | omega | (simp at this; omega)
      have y12 : w.heap.size < w12.heap.size := by omega
      have g12 : ∀ o, w12.cell? ⟨w8.heap.size, o, none⟩ = (#[.int .i64 x1, .int .i64 x2, .bool true, .bool b3, .bool false, .int .i64 x4, .int .i64 x5, .int .i64 x7, .int .i64 x8, .int .i64 0, .int .i64 0, .slice none 0 0] : Array Value)[o]? := fun o => by
        rw [st.cell hne8]
        by_cases ho : o = 2
        · subst ho; simp [go_sem, g9, f9]
        · simp [go_sem, g9, f9, ho]
          try (rcases o with _ | _ | _ | _ | _ | _ | _ | _ | _ | _ | _ | _ | o <;> simp at ho ⊢)
      have f12 : ∀ o, w12.frozen? ⟨w8.heap.size, o, none⟩ = false := fun o => by rw [st.frozen hne8]; simp [go_sem, f9]
      have r12 : ∀ o, w12.cell? ⟨w.heap.size, o, none⟩ = (#[.int .i64 0, .int .i64 0, .bool false, .bool false, .bool false, .int .i64 0, .int .i64 0, .int .i64 0, .int .i64 0, .int .i64 0, .int .i64 0, .slice none 0 0] : Array Value)[o]? := fun o => by rw [st.cell hne]; simp [go_sem, r9, Nat.ne_of_lt hw88, Nat.ne_of_gt hw88]
      have rf12 : ∀ o, w12.frozen? ⟨w.heap.size, o, none⟩ = false := fun o => by rw [st.frozen hne]; simp [go_sem, rf9, Nat.ne_of_lt hw88, Nat.ne_of_gt hw88]
      have SB12 : Hid (∀ b, b ≠ sb → _) := st.block
      clear st s12'
      clear g9 f9 r9 rf9 s9
      go_wp2_with fail
      refine (sNext sb a len cap zs _ 60000 _ (s12.out.below (B := w8.heap.size) (by go_grown) hsb8) (HR.out _ (D12.out.then (B := w8.heap.size) (by go_grown) hw8)) hl (by omega) (by omega)).mono ?_
      rintro e w13 ⟨xb, rfl, p13, q13, st, s13'⟩
      have s13 : Hid _ := s13'
      have D13 : Hid (Dr sb w w13) := (D12.out.then (B := w8.heap.size) (by go_grown) hw8).trans st.dr
      have z13 : w8.heap.size < w13.heap.size := by have := st.size; first | omega | (simp at this; omega)
      have y13 : w.heap.size < w13.heap.size := by omega
      have g13 : ∀ o, w13.cell? ⟨w8.heap.size, o, none⟩ = (#[.int .i64 x1, .int .i64 x2, .bool true, .bool b3, .bool false, .int .i64 x4, .int .i64 x5, .int .i64 x7, .int .i64 x8, .int .i64 xa, .int .i64 0, .slice none 0 0] : Array Value)[o]? := fun o => by
        rw [st.cell hne8]
        by_cases ho : o = 9
        · subst ho; simp [go_sem, g12, f12]
        · simp [go_sem, g12, f12, ho]
          try (rcases o with _ | _ | _ | _ | _ | _ | _ | _ | _ | _ | _ | _ | o <;> simp at ho ⊢)
      have f13 : ∀ o, w13.frozen? ⟨w8.heap.size, o, none⟩ = false := fun o => by rw [st.frozen hne8]; simp [go_sem, f12]
      have r13 : ∀ o, w13.cell? ⟨w.heap.size, o, none⟩ = (#[.int .i64 0, .int .i64 0, .bool false, .bool false, .bool false, .int .i64 0, .int .i64 0, .int .i64 0, .int .i64 0, .int .i64 0, .int .i64 0, .slice none 0 0] : Array Value)[o]? := fun o => by rw [st.cell hne]; simp [go_sem, r12, Nat.ne_of_lt hw88, Nat.ne_of_gt hw88]
      have rf13 : ∀ o, w13.frozen? ⟨w.heap.size, o, none⟩ = false := fun o => by rw [st.frozen hne]; simp [go_sem, rf12, Nat.ne_of_lt hw88, Nat.ne_of_gt hw88]
      have SB13 : Hid (∀ b, b ≠ sb → _) := st.block
      clear st s13'
      clear g12 f12 r12 rf12 s12
      go_wp2_with fail
      refine bodyPost_ret (v := .agg #[.int .i64 x1, .int .i64 x2, .bool true, .bool b3, .bool false, .int .i64 x4, .int .i64 x5, .int .i64 x7, .int .i64 x8, .int .i64 xa, .int .i64 xb, .slice none 0 0]) (by simp [results, Try.results58, go_sem, g13, r13, f13, rf13, Nat.ne_of_lt hw88, Nat.ne_of_gt hw88]) rfl ⟨⟨x1, x2, true, b3, false, x4, x5, x7, x8, xa, xb, []⟩, .slice none 0 0, rfl, ?_, ?_, ⟨p5, q5⟩, (by have := M7.out; have := M8.out; unfold Seg.Rg; dsimp only; omega), ?_, ?_⟩
      · exact OB.empty _ _
      · simp
      · exact D13.out.then (B := w.heap.size) (by go_grown) (Nat.le_refl _)
      · exact (s13.out.below (B := w.heap.size) (by go_grown) hlt).mono (by omega)
    · have h9a : (x9 == 0) = false := by simp [h9]
      by_cases h9' : x9 = 1
      · have h9b : (x9 == 1) = true := by simp [h9']
        go_wp2_with fail
        refine (sNext sb a len cap zs _ 99 _ (s9.out.below (B := w8.heap.size) (by go_grown) hsb8) (HR.out _ (D9.out.then (B := w8.heap.size) (by go_grown) hw8)) hl (by omega) (by omega)).mono ?_
        rintro e w12 ⟨xa, rfl, p12, q12, st, s12'⟩
        have s12 : Hid _ := s12'
        have D12 : Hid (Dr sb w w12) := (D9.out.then (B := w8.heap.size) (by go_grown) hw8).trans st.dr
        have z12 : w8.heap.size < w12.heap.size := by have := st.size; first | omega | (simp at this; omega)
        have y12 : w.heap.size < w12.heap.size := by omega
        have g12 : ∀ o, w12.cell? ⟨w8.heap.size, o, none⟩ = (#[.int .i64 x1, .int .i64 x2, .bool false, .bool b3, .bool true, .int .i64 x4, .int .i64 x5, .int .i64 x7, .int .i64 x8, .int .i64 0, .int .i64 0, .slice none 0 0] : Array Value)[o]? := fun o => by
          rw [st.cell hne8]
          by_cases ho : o = 4
          · subst ho; simp [go_sem, g9, f9]
          · simp [go_sem, g9, f9, ho]
            try (rcases o with _ | _ | _ | _ | _ | _ | _ | _ | _ | _ | _ | _ | o <;> simp at ho ⊢)
        have f12 : ∀ o, w12.frozen? ⟨w8.heap.size, o, none⟩ = false := fun o => by rw [st.frozen hne8]; simp [go_sem, f9]
        have r12 : ∀ o, w12.cell? ⟨w.heap.size, o, none⟩ = (#[.int .i64 0, .int .i64 0, .bool false, .bool false, .bool false, .int .i64 0, .int .i64 0, .int .i64 0, .int .i64 0, .int .i64 0, .int .i64 0, .slice none 0 0] : Array Value)[o]? := fun o => by rw [st.cell hne]; simp [go_sem, r9, Nat.ne_of_lt hw88, Nat.ne_of_gt hw88]
        have rf12 : ∀ o, w12.frozen? ⟨w.heap.size, o, none⟩ = false := fun o => by rw [st.frozen hne]; simp [go_sem, rf9, Nat.ne_of_lt hw88, Nat.ne_of_gt hw88]
        have SB12 : Hid (∀ b, b ≠ sb → _) := st.block
        clear st s12'
        clear g9 f9 r9 rf9 s9
        go_wp2_with fail
        refine (sNext sb a len cap zs _ 60000 _ (s12.out.below (B := w8.heap.size) (by go_grown) hsb8) (HR.out _ (D12.out.then (B := w8.heap.size) (by go_grown) hw8)) hl (by omega) (by omega)).mono ?_
        rintro e w13 ⟨xb, rfl, p13, q13, st, s13'⟩
        have s13 : Hid _ := s13'
        have D13 : Hid (Dr sb w w13) := (D12.out.then (B := w8.heap.size) (by go_grown) hw8).trans st.dr
        have z13 : w8.heap.size < w13.heap.size := by have := st.size; first | omega | (simp at this; omega)
        have y13 : w.heap.size < w13.heap.size := by omega
        have g13 : ∀ o, w13.cell? ⟨w8.heap.size, o, none⟩ = (#[.int .i64 x1, .int .i64 x2, .bool false, .bool b3, .bool true, .int .i64 x4, .int .i64 x5, .int .i64 x7, .int .i64 x8, .int .i64 xa, .int .i64 0, .slice none 0 0] : Array Value)[o]? := fun o => by
          rw [st.cell hne8]
          by_cases ho : o = 9
          · subst ho; simp [go_sem, g12, f12]
          · simp [go_sem, g12, f12, ho]
            try (rcases o with _ | _ | _ | _ | _ | _ | _ | _ | _ | _ | _ | _ | o <;> simp at ho ⊢)
        have f13 : ∀ o, w13.frozen? ⟨w8.heap.size, o, none⟩ = false := fun o => by rw [st.frozen hne8]; simp [go_sem, f12]
        have r13 : ∀ o, w13.cell? ⟨w.heap.size, o, none⟩ = (#[.int .i64 0, .int .i64 0, .bool false, .bool false, .bool false, .int .i64 0, .int .i64 0, .int .i64 0, .int .i64 0, .int .i64 0, .int .i64 0, .slice none 0 0] : Array Value)[o]? := fun o => by rw [st.cell hne]; simp [go_sem, r12, Nat.ne_of_lt hw88, Nat.ne_of_gt hw88]
        have rf13 : ∀ o, w13.frozen? ⟨w.heap.size, o, none⟩ = false := fun o => by rw [st.frozen hne]; simp [go_sem, rf12, Nat.ne_of_lt hw88, Nat.ne_of_gt hw88]
        have SB13 : Hid (∀ b, b ≠ sb → _) := st.block
        clear st s13'
        clear g12 f12 r12 rf12 s12
        go_wp2_with fail
        refine bodyPost_ret (v := .agg #[.int .i64 x1, .int .i64 x2, .bool false, .bool b3, .bool true, .int .i64 x4, .int .i64 x5, .int .i64 x7, .int .i64 x8, .int .i64 xa, .int .i64 xb, .slice none 0 0]) (by simp [results, Try.results58, go_sem, g13, r13, f13, rf13, Nat.ne_of_lt hw88, Nat.ne_of_gt hw88]) rfl ⟨⟨x1, x2, false, b3, true, x4, x5, x7, x8, xa, xb, []⟩, .slice none 0 0, rfl, ?_, ?_, ⟨p5, q5⟩, (by have := M7.out; have := M8.out; unfold Seg.Rg; dsimp only; omega), ?_, ?_⟩
        · exact OB.empty _ _
        · simp
        · exact D13.out.then (B := w.heap.size) (by go_grown) (Nat.le_refl _)
        · exact (s13.out.below (B := w.heap.size) (by go_grown) hlt).mono (by omega)
      · have h9b : (x9 == 1) = false := by simp [h9']
        go_wp2_with fail
        refine (sNext sb a len cap zs _ 9 _ (s9.out.below (B := w8.heap.size) (by go_grown) hsb8) (HR.out _ (D9.out.then (B := w8.heap.size) (by go_grown) hw8)) hl (by omega) (by omega)).mono ?_
        rintro e w10 ⟨x10, rfl, p10, q10, st, s10'⟩
        have s10 : Hid _ := s10'
        have D10 : Hid (Dr sb w w10) := (D9.out.then (B := w8.heap.size) (by go_grown) hw8).trans st.dr
        have z10 : w8.heap.size < w10.heap.size := by have := st.size; first | omega | (simp at this; omega)
        have y10 : w.heap.size < w10.heap.size := by omega
        have g10 : ∀ o, w10.cell? ⟨w8.heap.size, o, none⟩ = (#[.int .i64 x1, .int .i64 x2, .bool false, .bool b3, .bool false, .int .i64 x4, .int .i64 x5, .int .i64 x7, .int .i64 x8, .int .i64 0, .int .i64 0, .slice none 0 0] : Array Value)[o]? := fun o => by
          rw [st.cell hne8]
          simp [go_sem, g9]
        have f10 : ∀ o, w10.frozen? ⟨w8.heap.size, o, none⟩ = false := fun o => by rw [st.frozen hne8]; simp [go_sem, f9]
        have r10 : ∀ o, w10.cell? ⟨w.heap.size, o, none⟩ = (#[.int .i64 0, .int .i64 0, .bool false, .bool false, .bool false, .int .i64 0, .int .i64 0, .int .i64 0, .int .i64 0, .int .i64 0, .int .i64 0, .slice none 0 0] : Array Value)[o]? := fun o => by rw [st.cell hne]; simp [go_sem, r9, Nat.ne_of_lt hw88, Nat.ne_of_gt hw88]
        have rf10 : ∀ o, w10.frozen? ⟨w.heap.size, o, none⟩ = false := fun o => by rw [st.frozen hne]; simp [go_sem, rf9, Nat.ne_of_lt hw88, Nat.ne_of_gt hw88]
        clear st s10'
        clear g9 f9 r9 rf9 s9 z9 y9
        go_wp2_with fail
        refine (sSome sb a len cap zs _ x10 w10 s10.out (HR.out _ D10.out) hl (by omega) p10 (by omega)).mono ?_
        rintro e w11 ⟨v11, rfl, l11, ho, hlen, st, s11'⟩
        have O11 : Hid _ := ho
        have hb11 : w8.heap.size < w10.heap.size := z10
        have hlen : l11.length ≤ 8 := by omega
        obtain ⟨a11, c11, hv, -⟩ := ho.rb
        subst hv
        have H11 : Hid (l11.length ≤ 8) := hlen
        generalize hN : l11.length = N at *
        have HN : Hid (l11.length = N) := hN
        clear ho hN
        have s11 : Hid _ := s11'
        have D11 : Hid (Dr sb w w11) := (D10.out.then (B := w8.heap.size) (by go_grown) hw8).trans st
        have z11 : w8.heap.size < w11.heap.size := by have := st.size; first | omega | (simp at this; omega)
        have y11 : w.heap.size < w11.heap.size := by omega
        have g11 : ∀ o, w11.cell? ⟨w8.heap.size, o, none⟩ = (#[.int .i64 x1, .int .i64 x2, .bool false, .bool b3, .bool false, .int .i64 x4, .int .i64 x5, .int .i64 x7, .int .i64 x8, .int .i64 0, .int .i64 0, .slice none 0 0] : Array Value)[o]? := fun o => by
          rw [st.cell (by first | (simp; omega) | omega) hne8]
          simp [go_sem, g10]
        have f11 : ∀ o, w11.frozen? ⟨w8.heap.size, o, none⟩ = false := fun o => by rw [st.frozen (by first | (simp; omega) | omega) hne8]; simp [go_sem, f10]
        have r11 : ∀ o, w11.cell? ⟨w.heap.size, o, none⟩ = (#[.int .i64 0, .int .i64 0, .bool false, .bool false, .bool false, .int .i64 0, .int .i64 0, .int .i64 0, .int .i64 0, .int .i64 0, .int .i64 0, .slice none 0 0] : Array Value)[o]? := fun o => by rw [st.cell (by first | (simp; omega) | omega) hne]; simp [go_sem, r10, Nat.ne_of_lt hw88, Nat.ne_of_gt hw88]
        have rf11 : ∀ o, w11.frozen? ⟨w.heap.size, o, none⟩ = false := fun o => by rw [st.frozen (by first | (simp; omega) | omega) hne]; simp [go_sem, rf10, Nat.ne_of_lt hw88, Nat.ne_of_gt hw88]
        clear st s11'
        clear g10 f10 r10 rf10 s10
        go_wp2_with fail
        refine (sNext sb a len cap zs _ 99 _ (s11.out.below (B := w8.heap.size) (by go_grown) hsb8) (HR.out _ (D11.out.then (B := w8.heap.size) (by go_grown) hw8)) hl (by omega) (by omega)).mono ?_
        rintro e w12 ⟨xa, rfl, p12, q12, st, s12'⟩
        have s12 : Hid _ := s12'
        have D12 : Hid (Dr sb w w12) := (D11.out.then (B := w8.heap.size) (by go_grown) hw8).trans st.dr
        have z12 : w8.heap.size < w12.heap.size := by have := st.size; first | omega | (simp at this; omega)
        have y12 : w.heap.size < w12.heap.size := by omega
        have g12 : ∀ o, w12.cell? ⟨w8.heap.size, o, none⟩ = (#[.int .i64 x1, .int .i64 x2, .bool false, .bool b3, .bool false, .int .i64 x4, .int .i64 x5, .int .i64 x7, .int .i64 x8, .int .i64 0, .int .i64 0, .slice a11 N c11] : Array Value)[o]? := fun o => by
          rw [st.cell hne8]
          by_cases ho : o = 11
          · subst ho; simp [go_sem, g11, f11]
          · simp [go_sem, g11, f11, ho]
            try (rcases o with _ | _ | _ | _ | _ | _ | _ | _ | _ | _ | _ | _ | o <;> simp at ho ⊢)
        have f12 : ∀ o, w12.frozen? ⟨w8.heap.size, o, none⟩ = false := fun o => by rw [st.frozen hne8]; simp [go_sem, f11]
        have r12 : ∀ o, w12.cell? ⟨w.heap.size, o, none⟩ = (#[.int .i64 0, .int .i64 0, .bool false, .bool false, .bool false, .int .i64 0, .int .i64 0, .int .i64 0, .int .i64 0, .int .i64 0, .int .i64 0, .slice none 0 0] : Array Value)[o]? := fun o => by rw [st.cell hne]; simp [go_sem, r11, Nat.ne_of_lt hw88, Nat.ne_of_gt hw88]
        have rf12 : ∀ o, w12.frozen? ⟨w.heap.size, o, none⟩ = false := fun o => by rw [st.frozen hne]; simp [go_sem, rf11, Nat.ne_of_lt hw88, Nat.ne_of_gt hw88]
        have SB12 : Hid (∀ b, b ≠ sb → _) := st.block
        clear st s12'
        have O12 : Hid (OB w12 w10.heap.size (.slice a11 N c11) l11) := OB.keeps (OB.keeps O11.out (fun g hg => by rw [Below.heap_setCell _ _ _ _ (by dsimp only; omega)])) (fun g hg => SB12.out g (by omega))
        clear g11 f11 r11 rf11 s11
        go_wp2_with fail
        refine (sNext sb a len cap zs _ 60000 _ (s12.out.below (B := w8.heap.size) (by go_grown) hsb8) (HR.out _ (D12.out.then (B := w8.heap.size) (by go_grown) hw8)) hl (by omega) (by omega)).mono ?_
        rintro e w13 ⟨xb, rfl, p13, q13, st, s13'⟩
        have s13 : Hid _ := s13'
        have D13 : Hid (Dr sb w w13) := (D12.out.then (B := w8.heap.size) (by go_grown) hw8).trans st.dr
        have z13 : w8.heap.size < w13.heap.size := by have := st.size; first | omega | (simp at this; omega)
        have y13 : w.heap.size < w13.heap.size := by omega
        have g13 : ∀ o, w13.cell? ⟨w8.heap.size, o, none⟩ = (#[.int .i64 x1, .int .i64 x2, .bool false, .bool b3, .bool false, .int .i64 x4, .int .i64 x5, .int .i64 x7, .int .i64 x8, .int .i64 xa, .int .i64 0, .slice a11 N c11] : Array Value)[o]? := fun o => by
          rw [st.cell hne8]
          by_cases ho : o = 9
          · subst ho; simp [go_sem, g12, f12]
          · simp [go_sem, g12, f12, ho]
            try (rcases o with _ | _ | _ | _ | _ | _ | _ | _ | _ | _ | _ | _ | o <;> simp at ho ⊢)
        have f13 : ∀ o, w13.frozen? ⟨w8.heap.size, o, none⟩ = false := fun o => by rw [st.frozen hne8]; simp [go_sem, f12]
        have r13 : ∀ o, w13.cell? ⟨w.heap.size, o, none⟩ = (#[.int .i64 0, .int .i64 0, .bool false, .bool false, .bool false, .int .i64 0, .int .i64 0, .int .i64 0, .int .i64 0, .int .i64 0, .int .i64 0, .slice none 0 0] : Array Value)[o]? := fun o => by rw [st.cell hne]; simp [go_sem, r12, Nat.ne_of_lt hw88, Nat.ne_of_gt hw88]
        have rf13 : ∀ o, w13.frozen? ⟨w.heap.size, o, none⟩ = false := fun o => by rw [st.frozen hne]; simp [go_sem, rf12, Nat.ne_of_lt hw88, Nat.ne_of_gt hw88]
        have SB13 : Hid (∀ b, b ≠ sb → _) := st.block
        clear st s13'
        have O13 : Hid (OB w13 w10.heap.size (.slice a11 N c11) l11) := OB.keeps (OB.keeps O12.out (fun g hg => by rw [Below.heap_setCell _ _ _ _ (by dsimp only; omega)])) (fun g hg => SB13.out g (by omega))
        clear g12 f12 r12 rf12 s12
        go_wp2_with fail
        have hlen : l11.length ≤ 8 := by rw [HN.out]; exact H11.out
        refine bodyPost_ret (v := .agg #[.int .i64 x1, .int .i64 x2, .bool false, .bool b3, .bool false, .int .i64 x4, .int .i64 x5, .int .i64 x7, .int .i64 x8, .int .i64 xa, .int .i64 xb, .slice a11 N c11]) (by simp [results, Try.results58, go_sem, g13, r13, f13, rf13, Nat.ne_of_lt hw88, Nat.ne_of_gt hw88]) rfl ⟨⟨x1, x2, false, b3, false, x4, x5, x7, x8, xa, xb, l11⟩, .slice a11 N c11, rfl, ?_, ?_, ⟨p5, q5⟩, (by have := M7.out; have := M8.out; unfold Seg.Rg; dsimp only; omega), ?_, ?_⟩
        · refine OB.mono (base := w10.heap.size) (OB.keeps O13.out fun g hg => ?_) (by omega)
          repeat rw [Below.heap_setCell _ _ _ _ (by dsimp only; omega)]
        · exact hlen
        · exact D13.out.then (B := w.heap.size) (by go_grown) (Nat.le_refl _)
        · exact (s13.out.below (B := w.heap.size) (by go_grown) hlt).mono (by omega)
end Go.Proofs.Ytebgibjokljlbaa

/- What the draws of chapter 2's model give: a segment, bent or not; of what was in memory only the count of the source turns; no condition but that it has drawn fewer than a million. -/
namespace Go.Proofs.Ytebgibjokljlbaa
open Go.RowKit
set_option linter.unusedVariables false
set_option linter.unusedSimpArgs false

theorem OB.off {w w' : World} {base : Nat} {v : Value} {l : List Int} (h : OB w base v l) (hb : ∀ g, base ≤ g → g < w.heap.size → w'.heap[g]? = w.heap[g]?) : OB w' base v l := by
  refine ⟨?_, h.bd⟩
  obtain ⟨h1, h2 | ⟨g, cap, cur, e, hg, hh, r⟩⟩ := h.own
  · exact ⟨h1, Or.inl h2⟩
  · have hlt : g < w.heap.size := by
      apply Classical.byContradiction; intro hn
      rw [Array.getElem?_eq_none (by omega)] at hh; cases hh
    exact ⟨h1, Or.inr ⟨g, cap, cur, e, hg, by rw [hb g hg hlt]; exact hh, r⟩⟩

set_option maxRecDepth 8000 in
set_option maxHeartbeats 4000000 in
theorem sBent (sb : Nat) (a : Option Addr) (len cap : Nat) (zs : List Int) (K : Int) (w : World)
    (hs : Src w sb (.slice a len cap) K) (hr : BRow .u8 w a len cap zs) (hl : RowLt sb a zs) (hK : K ≤ 700000) :
    Calls Try.prog 59 #[.pointer (some ⟨sb, 0, none⟩)] w fun e w' => ∃ (s : Seg) (v : Value), e = .returned (.agg #[.int .i64 s.path, .int .i64 s.frm, .bool s.syn, .bool s.ackd, .bool s.rst, .int .i64 s.seq, .int .i64 s.ack, .int .i64 s.fin, .int .i64 s.opt, .int .i64 s.a, .int .i64 s.b, v]) ∧ OB w' w.heap.size v s.load ∧ s.load.length ≤ 9 ∧ (0 ≤ s.ack ∧ s.ack < 300) ∧ Dr sb w w' ∧ Src w' sb (.slice a len cap) (K + 70) := by
  obtain ⟨i0, hi, hz0, hz1, hz2⟩ := info_parts info_u8
  have HI : Hid _ := And.intro hi (And.intro hz0 (And.intro hz1 hz2))
  clear hi hz0 hz1 hz2
  have hlt := hs.lt
  have HR : Hid (∀ W, Dr sb w W → BRow .u8 W a len cap zs) := fun W h => hr.below hl (h.below (Nat.le_of_lt hlt))
  have HS : Hid _ := hs
  clear hr hs
  go_enter Try.func59, Try.ntmps59
  go_wp2_with fail
  obtain ⟨W0, hW0⟩ : ∃ W0, w.alloc (.cells zSeg 48) = W0 := ⟨_, rfl⟩
  have D0 : Hid (Dr sb w W0) := by rw [← hW0]; exact (Dr.refl _ _).then ((Below.refl _ _).alloc (Nat.le_refl _) _) (Nat.le_refl _)
  have S0 : Hid (Src W0 sb (.slice a len cap) K) := by rw [← hW0]; exact HS.out.alloc _
  have C0 : Hid (∀ o, W0.cell? ⟨w.heap.size, o, none⟩ = zSeg[o]? ∧ W0.frozen? ⟨w.heap.size, o, none⟩ = false) := by rw [← hW0]; intro o; exact ⟨by simp [go_sem], by simp [go_sem]⟩
  have z0 : W0.heap.size = w.heap.size + 1 := by rw [← hW0]; simp
  unfold zSeg at hW0
  simp only [hW0]
  clear hW0
  refine (sSeg sb a len cap zs _ W0 S0.out (HR.out _ D0.out) hl (by omega)).mono ?_
  rintro e w1 ⟨⟨y0, y1, b2, b3, b4, y5, y6, y7, y8, y9, y10, L⟩, v1, rfl, ho, hlen, hak, -, d1', s1'⟩
  simp only at ho hlen hak ⊢
  replace hlen : L.length ≤ 9 := by omega
  obtain ⟨a1, c1, hv, -⟩ := ho.rb
  subst hv
  have D1 : Hid (Dr sb w w1) := D0.out.trans d1'
  have s1 : Hid _ := s1'
  have hne : w.heap.size ≠ sb := by omega
  have hz1 : W0.heap.size ≤ w1.heap.size := d1'.size
  have hne1 : w1.heap.size ≠ sb := by omega
  have hw1 : w.heap.size ≤ w1.heap.size := by omega
  have hw11 : w.heap.size < w1.heap.size := by omega
  have hsb1 : sb < w1.heap.size := by omega
  have C1 : Hid (∀ o, w1.cell? ⟨w.heap.size, o, none⟩ = zSeg[o]? ∧ w1.frozen? ⟨w.heap.size, o, none⟩ = false) := fun o => ⟨(d1'.cell (p := ⟨w.heap.size, o, none⟩) (by dsimp only; omega) hne).trans (C0.out o).1, (d1'.frozen (p := ⟨w.heap.size, o, none⟩) (by dsimp only; omega) hne).trans (C0.out o).2⟩
  have O1 : Hid _ := ho
  have HA : Hid (0 ≤ y6 ∧ y6 < 300) := hak
  have HL : Hid (L.length ≤ 9) := hlen
  clear ho hlen hak d1' s1' C0 D0 S0 HS
  generalize hN : L.length = N at *
  have HN : Hid (L.length = N) := hN
  clear hN
  go_wp2_with fail
  refine (sNext sb a len cap zs _ 18 _ (s1.out.alloc _) (HR.out _ (D1.out.then ((Below.refl _ _).alloc (Nat.le_refl _) _) hw1)) hl (by omega) (by omega)).mono ?_
  rintro e w2 ⟨x, rfl, p2, q2, st, s2'⟩
  have s2 : Hid _ := s2'
  have D2 : Hid (Dr sb w w2) := (D1.out.then ((Below.refl _ _).alloc (Nat.le_refl _) _) hw1).trans st.dr
  have z2 : w1.heap.size < w2.heap.size := by have := st.size; simp at this; omega
  have y2 : w.heap.size < w2.heap.size := by omega
  have g2 : ∀ o, w2.cell? ⟨w1.heap.size, o, none⟩ = (#[.int .i64 y0, .int .i64 y1, .bool b2, .bool b3, .bool b4, .int .i64 y5, .int .i64 y6, .int .i64 y7, .int .i64 y8, .int .i64 y9, .int .i64 y10, .slice a1 N c1] : Array Value)[o]? := fun o => by rw [st.cell hne1]; simp [go_sem]
  have f2 : ∀ o, w2.frozen? ⟨w1.heap.size, o, none⟩ = false := fun o => by rw [st.frozen hne1]; simp [go_sem]
  have r2 : ∀ o, w2.cell? ⟨w.heap.size, o, none⟩ = zSeg[o]? := fun o => by rw [st.cell hne, ← (C1.out o).1]; exact (((Below.refl _ _).alloc (Nat.le_refl _) _).cell (by dsimp only; omega))
  have rf2 : ∀ o, w2.frozen? ⟨w.heap.size, o, none⟩ = false := fun o => by rw [st.frozen hne, ← (C1.out o).2]; exact (((Below.refl _ _).alloc (Nat.le_refl _) _).frozen (by dsimp only; omega))
  have E2 : Hid (∀ g, W0.heap.size ≤ g → g < w1.heap.size → w2.heap[g]? = w1.heap[g]?) := fun g h1 h2 => (st.block g (by omega)).trans (((Below.refl _ _).alloc (Nat.le_refl _) _).block g h2)
  unfold zSeg at r2
  clear st s2' s1 C1
  by_cases h0 : x = 0
  · have h0a : (x == 0) = true := by simp [h0]
    go_wp2_with fail
    have hp := sPickD sb a len cap zs _ [-1, 3] 2 w2 s2.out (HR.out _ D2.out) hl (by omega) (by simp) (by simp)
    simp only [List.length_cons, List.length_nil, List.map_cons, List.map_nil, Nat.zero_add, Nat.reduceAdd] at hp
    refine hp.mono ?_
    clear hp
    rintro e w3 ⟨r, rfl, -, st, s3'⟩
    have s3 : Hid _ := s3'
    have D3 : Hid (Dr sb w w3) := D2.out.trans st
    have z3 : w1.heap.size < w3.heap.size := by have := st.size; omega
    have y3 : w.heap.size < w3.heap.size := by omega
    have g3 : ∀ o, w3.cell? ⟨w1.heap.size, o, none⟩ = (#[.int .i64 y0, .int .i64 y1, .bool b2, .bool b3, .bool b4, .int .i64 y5, .int .i64 y6, .int .i64 y7, .int .i64 y8, .int .i64 y9, .int .i64 y10, .slice a1 N c1] : Array Value)[o]? := fun o => by rw [st.cell z2 hne1]; exact g2 o
    have f3 : ∀ o, w3.frozen? ⟨w1.heap.size, o, none⟩ = false := fun o => by rw [st.frozen z2 hne1]; exact f2 o
    have r3 : ∀ o, w3.cell? ⟨w.heap.size, o, none⟩ = (#[.int .i64 0, .int .i64 0, .bool false, .bool false, .bool false, .int .i64 0, .int .i64 0, .int .i64 0, .int .i64 0, .int .i64 0, .int .i64 0, .slice none 0 0] : Array Value)[o]? := fun o => by rw [st.cell y2 hne]; exact r2 o
    have rf3 : ∀ o, w3.frozen? ⟨w.heap.size, o, none⟩ = false := fun o => by rw [st.frozen y2 hne]; exact rf2 o
    have E3 : Hid (∀ g, W0.heap.size ≤ g → g < w1.heap.size → w3.heap[g]? = w1.heap[g]?) := fun g h1 h2 => (st.block g (by omega) (by omega)).trans (E2.out g h1 h2)
    clear st s3' g2 f2 r2 rf2 s2 E2
    go_wp2_with fail
    refine bodyPost_ret (v := .agg #[.int .i64 r, .int .i64 y1, .bool b2, .bool b3, .bool b4, .int .i64 y5, .int .i64 y6, .int .i64 y7, .int .i64 y8, .int .i64 y9, .int .i64 y10, .slice a1 N c1]) (by simp [results, Try.results59, go_sem, g3, r3, f3, rf3, Nat.ne_of_lt hw11, Nat.ne_of_gt hw11]) rfl ⟨⟨r, y1, b2, b3, b4, y5, y6, y7, y8, y9, y10, L⟩, .slice a1 N c1, rfl, ?_, ?_, HA.out, ?_, ?_⟩
    · refine OB.mono (base := W0.heap.size) (OB.off O1.out fun g hg hg' => ?_) (by omega)
      rw [← E3.out g hg hg']
      repeat rw [Below.heap_setCell _ _ _ _ (by dsimp only; omega)]
    · show L.length ≤ 9; rw [HN.out]; exact HL.out
    · exact D3.out.then (B := w.heap.size) (by go_grown) (Nat.le_refl _)
    · exact (s3.out.below (B := w.heap.size) (by go_grown) hlt).mono (by omega)
  have h0a : (x == 0) = false := by simp [h0]
  by_cases h1 : x = 1
  · have h1a : (x == 1) = true := by simp [h1]
    go_wp2_with fail
    have hp := sPickD sb a len cap zs _ [-1, 65535, 65536] 2 w2 s2.out (HR.out _ D2.out) hl (by omega) (by simp) (by simp)
    simp only [List.length_cons, List.length_nil, List.map_cons, List.map_nil, Nat.zero_add, Nat.reduceAdd] at hp
    refine hp.mono ?_
    clear hp
    rintro e w3 ⟨r, rfl, -, st, s3'⟩
    have s3 : Hid _ := s3'
    have D3 : Hid (Dr sb w w3) := D2.out.trans st
    have z3 : w1.heap.size < w3.heap.size := by have := st.size; omega
    have y3 : w.heap.size < w3.heap.size := by omega
    have g3 : ∀ o, w3.cell? ⟨w1.heap.size, o, none⟩ = (#[.int .i64 y0, .int .i64 y1, .bool b2, .bool b3, .bool b4, .int .i64 y5, .int .i64 y6, .int .i64 y7, .int .i64 y8, .int .i64 y9, .int .i64 y10, .slice a1 N c1] : Array Value)[o]? := fun o => by rw [st.cell z2 hne1]; exact g2 o
    have f3 : ∀ o, w3.frozen? ⟨w1.heap.size, o, none⟩ = false := fun o => by rw [st.frozen z2 hne1]; exact f2 o
    have r3 : ∀ o, w3.cell? ⟨w.heap.size, o, none⟩ = (#[.int .i64 0, .int .i64 0, .bool false, .bool false, .bool false, .int .i64 0, .int .i64 0, .int .i64 0, .int .i64 0, .int .i64 0, .int .i64 0, .slice none 0 0] : Array Value)[o]? := fun o => by rw [st.cell y2 hne]; exact r2 o
    have rf3 : ∀ o, w3.frozen? ⟨w.heap.size, o, none⟩ = false := fun o => by rw [st.frozen y2 hne]; exact rf2 o
    have E3 : Hid (∀ g, W0.heap.size ≤ g → g < w1.heap.size → w3.heap[g]? = w1.heap[g]?) := fun g h1 h2 => (st.block g (by omega) (by omega)).trans (E2.out g h1 h2)
    clear st s3' g2 f2 r2 rf2 s2 E2
    go_wp2_with fail
    refine bodyPost_ret (v := .agg #[.int .i64 y0, .int .i64 y1, .bool b2, .bool b3, .bool b4, .int .i64 r, .int .i64 y6, .int .i64 y7, .int .i64 y8, .int .i64 y9, .int .i64 y10, .slice a1 N c1]) (by simp [results, Try.results59, go_sem, g3, r3, f3, rf3, Nat.ne_of_lt hw11, Nat.ne_of_gt hw11]) rfl ⟨⟨y0, y1, b2, b3, b4, r, y6, y7, y8, y9, y10, L⟩, .slice a1 N c1, rfl, ?_, ?_, HA.out, ?_, ?_⟩
    · refine OB.mono (base := W0.heap.size) (OB.off O1.out fun g hg hg' => ?_) (by omega)
      rw [← E3.out g hg hg']
      repeat rw [Below.heap_setCell _ _ _ _ (by dsimp only; omega)]
    · show L.length ≤ 9; rw [HN.out]; exact HL.out
    · exact D3.out.then (B := w.heap.size) (by go_grown) (Nat.le_refl _)
    · exact (s3.out.below (B := w.heap.size) (by go_grown) hlt).mono (by omega)
  have h1a : (x == 1) = false := by simp [h1]
  by_cases h2 : x = 2
  · have h2a : (x == 2) = true := by simp [h2]
    go_wp2_with fail
    have hp := sPickD sb a len cap zs _ [-1, 1000, 1001] 2 w2 s2.out (HR.out _ D2.out) hl (by omega) (by simp) (by simp)
    simp only [List.length_cons, List.length_nil, List.map_cons, List.map_nil, Nat.zero_add, Nat.reduceAdd] at hp
    refine hp.mono ?_
    clear hp
    rintro e w3 ⟨r, rfl, -, st, s3'⟩
    have s3 : Hid _ := s3'
    have D3 : Hid (Dr sb w w3) := D2.out.trans st
    have z3 : w1.heap.size < w3.heap.size := by have := st.size; omega
    have y3 : w.heap.size < w3.heap.size := by omega
    have g3 : ∀ o, w3.cell? ⟨w1.heap.size, o, none⟩ = (#[.int .i64 y0, .int .i64 y1, .bool b2, .bool b3, .bool b4, .int .i64 y5, .int .i64 y6, .int .i64 y7, .int .i64 y8, .int .i64 y9, .int .i64 y10, .slice a1 N c1] : Array Value)[o]? := fun o => by rw [st.cell z2 hne1]; exact g2 o
    have f3 : ∀ o, w3.frozen? ⟨w1.heap.size, o, none⟩ = false := fun o => by rw [st.frozen z2 hne1]; exact f2 o
    have r3 : ∀ o, w3.cell? ⟨w.heap.size, o, none⟩ = (#[.int .i64 0, .int .i64 0, .bool false, .bool false, .bool false, .int .i64 0, .int .i64 0, .int .i64 0, .int .i64 0, .int .i64 0, .int .i64 0, .slice none 0 0] : Array Value)[o]? := fun o => by rw [st.cell y2 hne]; exact r2 o
    have rf3 : ∀ o, w3.frozen? ⟨w.heap.size, o, none⟩ = false := fun o => by rw [st.frozen y2 hne]; exact rf2 o
    have E3 : Hid (∀ g, W0.heap.size ≤ g → g < w1.heap.size → w3.heap[g]? = w1.heap[g]?) := fun g h1 h2 => (st.block g (by omega) (by omega)).trans (E2.out g h1 h2)
    clear st s3' g2 f2 r2 rf2 s2 E2
    go_wp2_with fail
    refine bodyPost_ret (v := .agg #[.int .i64 y0, .int .i64 y1, .bool b2, .bool b3, .bool b4, .int .i64 y5, .int .i64 y6, .int .i64 r, .int .i64 y8, .int .i64 y9, .int .i64 y10, .slice a1 N c1]) (by simp [results, Try.results59, go_sem, g3, r3, f3, rf3, Nat.ne_of_lt hw11, Nat.ne_of_gt hw11]) rfl ⟨⟨y0, y1, b2, b3, b4, y5, y6, r, y8, y9, y10, L⟩, .slice a1 N c1, rfl, ?_, ?_, HA.out, ?_, ?_⟩
    · refine OB.mono (base := W0.heap.size) (OB.off O1.out fun g hg hg' => ?_) (by omega)
      rw [← E3.out g hg hg']
      repeat rw [Below.heap_setCell _ _ _ _ (by dsimp only; omega)]
    · show L.length ≤ 9; rw [HN.out]; exact HL.out
    · exact D3.out.then (B := w.heap.size) (by go_grown) (Nat.le_refl _)
    · exact (s3.out.below (B := w.heap.size) (by go_grown) hlt).mono (by omega)
  have h2a : (x == 2) = false := by simp [h2]
  by_cases h3 : x = 3
  · have h3a : (x == 3) = true := by simp [h3]
    go_wp2_with fail
    have hp := sPickD sb a len cap zs _ [-1, 5, 0] 2 w2 s2.out (HR.out _ D2.out) hl (by omega) (by simp) (by simp)
    simp only [List.length_cons, List.length_nil, List.map_cons, List.map_nil, Nat.zero_add, Nat.reduceAdd] at hp
    refine hp.mono ?_
    clear hp
    rintro e w3 ⟨r, rfl, -, st, s3'⟩
    have s3 : Hid _ := s3'
    have D3 : Hid (Dr sb w w3) := D2.out.trans st
    have z3 : w1.heap.size < w3.heap.size := by have := st.size; omega
    have y3 : w.heap.size < w3.heap.size := by omega
    have g3 : ∀ o, w3.cell? ⟨w1.heap.size, o, none⟩ = (#[.int .i64 y0, .int .i64 y1, .bool b2, .bool b3, .bool b4, .int .i64 y5, .int .i64 y6, .int .i64 y7, .int .i64 y8, .int .i64 y9, .int .i64 y10, .slice a1 N c1] : Array Value)[o]? := fun o => by rw [st.cell z2 hne1]; exact g2 o
    have f3 : ∀ o, w3.frozen? ⟨w1.heap.size, o, none⟩ = false := fun o => by rw [st.frozen z2 hne1]; exact f2 o
    have r3 : ∀ o, w3.cell? ⟨w.heap.size, o, none⟩ = (#[.int .i64 0, .int .i64 0, .bool false, .bool false, .bool false, .int .i64 0, .int .i64 0, .int .i64 0, .int .i64 0, .int .i64 0, .int .i64 0, .slice none 0 0] : Array Value)[o]? := fun o => by rw [st.cell y2 hne]; exact r2 o
    have rf3 : ∀ o, w3.frozen? ⟨w.heap.size, o, none⟩ = false := fun o => by rw [st.frozen y2 hne]; exact rf2 o
    have E3 : Hid (∀ g, W0.heap.size ≤ g → g < w1.heap.size → w3.heap[g]? = w1.heap[g]?) := fun g h1 h2 => (st.block g (by omega) (by omega)).trans (E2.out g h1 h2)
    clear st s3' g2 f2 r2 rf2 s2 E2
    go_wp2_with fail
    refine bodyPost_ret (v := .agg #[.int .i64 y0, .int .i64 y1, .bool b2, .bool b3, .bool b4, .int .i64 y5, .int .i64 y6, .int .i64 y7, .int .i64 r, .int .i64 y9, .int .i64 y10, .slice a1 N c1]) (by simp [results, Try.results59, go_sem, g3, r3, f3, rf3, Nat.ne_of_lt hw11, Nat.ne_of_gt hw11]) rfl ⟨⟨y0, y1, b2, b3, b4, y5, y6, y7, r, y9, y10, L⟩, .slice a1 N c1, rfl, ?_, ?_, HA.out, ?_, ?_⟩
    · refine OB.mono (base := W0.heap.size) (OB.off O1.out fun g hg hg' => ?_) (by omega)
      rw [← E3.out g hg hg']
      repeat rw [Below.heap_setCell _ _ _ _ (by dsimp only; omega)]
    · show L.length ≤ 9; rw [HN.out]; exact HL.out
    · exact D3.out.then (B := w.heap.size) (by go_grown) (Nat.le_refl _)
    · exact (s3.out.below (B := w.heap.size) (by go_grown) hlt).mono (by omega)
  have h3a : (x == 3) = false := by simp [h3]
  by_cases h4 : x = 4
  · have h4a : (x == 4) = true := by simp [h4]
    go_wp2_with fail
    have hp := sPickD sb a len cap zs _ [-1, 1000000, 1000001] 2 w2 s2.out (HR.out _ D2.out) hl (by omega) (by simp) (by simp)
    simp only [List.length_cons, List.length_nil, List.map_cons, List.map_nil, Nat.zero_add, Nat.reduceAdd] at hp
    refine hp.mono ?_
    clear hp
    rintro e w3 ⟨r, rfl, -, st, s3'⟩
    have s3 : Hid _ := s3'
    have D3 : Hid (Dr sb w w3) := D2.out.trans st
    have z3 : w1.heap.size < w3.heap.size := by have := st.size; omega
    have y3 : w.heap.size < w3.heap.size := by omega
    have g3 : ∀ o, w3.cell? ⟨w1.heap.size, o, none⟩ = (#[.int .i64 y0, .int .i64 y1, .bool b2, .bool b3, .bool b4, .int .i64 y5, .int .i64 y6, .int .i64 y7, .int .i64 y8, .int .i64 y9, .int .i64 y10, .slice a1 N c1] : Array Value)[o]? := fun o => by rw [st.cell z2 hne1]; exact g2 o
    have f3 : ∀ o, w3.frozen? ⟨w1.heap.size, o, none⟩ = false := fun o => by rw [st.frozen z2 hne1]; exact f2 o
    have r3 : ∀ o, w3.cell? ⟨w.heap.size, o, none⟩ = (#[.int .i64 0, .int .i64 0, .bool false, .bool false, .bool false, .int .i64 0, .int .i64 0, .int .i64 0, .int .i64 0, .int .i64 0, .int .i64 0, .slice none 0 0] : Array Value)[o]? := fun o => by rw [st.cell y2 hne]; exact r2 o
    have rf3 : ∀ o, w3.frozen? ⟨w.heap.size, o, none⟩ = false := fun o => by rw [st.frozen y2 hne]; exact rf2 o
    have E3 : Hid (∀ g, W0.heap.size ≤ g → g < w1.heap.size → w3.heap[g]? = w1.heap[g]?) := fun g h1 h2 => (st.block g (by omega) (by omega)).trans (E2.out g h1 h2)
    clear st s3' g2 f2 r2 rf2 s2 E2
    go_wp2_with fail
    refine bodyPost_ret (v := .agg #[.int .i64 y0, .int .i64 y1, .bool b2, .bool b3, .bool b4, .int .i64 y5, .int .i64 y6, .int .i64 y7, .int .i64 y8, .int .i64 r, .int .i64 y10, .slice a1 N c1]) (by simp [results, Try.results59, go_sem, g3, r3, f3, rf3, Nat.ne_of_lt hw11, Nat.ne_of_gt hw11]) rfl ⟨⟨y0, y1, b2, b3, b4, y5, y6, y7, y8, r, y10, L⟩, .slice a1 N c1, rfl, ?_, ?_, HA.out, ?_, ?_⟩
    · refine OB.mono (base := W0.heap.size) (OB.off O1.out fun g hg hg' => ?_) (by omega)
      rw [← E3.out g hg hg']
      repeat rw [Below.heap_setCell _ _ _ _ (by dsimp only; omega)]
    · show L.length ≤ 9; rw [HN.out]; exact HL.out
    · exact D3.out.then (B := w.heap.size) (by go_grown) (Nat.le_refl _)
    · exact (s3.out.below (B := w.heap.size) (by go_grown) hlt).mono (by omega)
  have h4a : (x == 4) = false := by simp [h4]
  by_cases h5 : x = 5
  · have h5a : (x == 5) = true := by simp [h5]
    go_wp2_with (at_make; refine wpList_make_full w2 rfl _ _ 22 rfl w2.heap.size 5 i0 (.int .u8 0) 1 Try.underlying22 HI.out.1 HI.out.2.1 HI.out.2.2.1 .i64 .i64 _ _ 9 (by rfl) (by rfl) rfl rfl (by rw [HI.out.2.2.2]; omega) (by unfold maxLen; omega) (Nat.le_refl _) ?_; intro w3 hown hgr; have hb3 : Below w2.heap.size w2 w3 := (Below.refl _ _).grown hgr (Nat.le_refl _) (by intro k hk; cases hk); have s3 : Hid _ := s2.out.below hb3 (by omega); have D3 : Hid (Dr sb w w3) := D2.out.then hb3 (by omega); have z3 : w1.heap.size < w3.heap.size := Nat.lt_of_lt_of_le z2 hb3.size; have y3 : w.heap.size < w3.heap.size := (by omega); have g3 : ∀ o, w3.cell? ⟨w1.heap.size, o, none⟩ = (#[.int .i64 y0, .int .i64 y1, .bool b2, .bool b3, .bool b4, .int .i64 y5, .int .i64 y6, .int .i64 y7, .int .i64 y8, .int .i64 y9, .int .i64 y10, .slice a1 N c1] : Array Value)[o]? := fun o => (hb3.cell z2).trans (g2 o); have f3 : ∀ o, w3.frozen? ⟨w1.heap.size, o, none⟩ = false := fun o => (hb3.frozen z2).trans (f2 o); have r3 : ∀ o, w3.cell? ⟨w.heap.size, o, none⟩ = (#[.int .i64 0, .int .i64 0, .bool false, .bool false, .bool false, .int .i64 0, .int .i64 0, .int .i64 0, .int .i64 0, .int .i64 0, .int .i64 0, .slice none 0 0] : Array Value)[o]? := fun o => (hb3.cell y2).trans (r2 o); have rf3 : ∀ o, w3.frozen? ⟨w.heap.size, o, none⟩ = false := fun o => (hb3.frozen y2).trans (rf2 o); have O3 : Hid (OB w3 w2.heap.size (.slice (some ⟨w2.heap.size, 0, none⟩) 9 9) (List.replicate 9 0)) := ⟨by (have e : (madeCells (Value.int .u8 0).cells (9 * 1)).toList = (List.replicate 9 (0 : Int)).map (Value.int .u8) := by simp [Value.cells, toList_madeCells_one]); rw [← e]; exact hown, by simp⟩; clear hown hgr hb3 g2 f2 r2 rf2)
    refine bodyPost_ret (v := .agg #[.int .i64 y0, .int .i64 y1, .bool b2, .bool b3, .bool b4, .int .i64 y5, .int .i64 y6, .int .i64 y7, .int .i64 y8, .int .i64 y9, .int .i64 y10, .slice (some ⟨w2.heap.size, 0, none⟩) 9 9]) (by simp [results, Try.results59, go_sem, g3, r3, f3, rf3, Nat.ne_of_lt hw11, Nat.ne_of_gt hw11]) rfl ⟨⟨y0, y1, b2, b3, b4, y5, y6, y7, y8, y9, y10, List.replicate 9 0⟩, .slice (some ⟨w2.heap.size, 0, none⟩) 9 9, rfl, ?_, ?_, HA.out, ?_, ?_⟩
    · refine OB.mono (base := w2.heap.size) (OB.keeps O3.out fun g hg => ?_) (by omega)
      repeat rw [Below.heap_setCell _ _ _ _ (by dsimp only; omega)]
    · simp
    · exact D3.out.then (B := w.heap.size) (by go_grown) (Nat.le_refl _)
    · exact (s3.out.below (B := w.heap.size) (by go_grown) hlt).mono (by omega)
  have h5a : (x == 5) = false := by simp [h5]
  by_cases h6 : x = 6
  · have h6a : (x == 6) = true := by simp [h6]
    go_wp2_with fail
    refine bodyPost_ret (v := .agg #[.int .i64 y0, .int .i64 y1, .bool (!b2), .bool b3, .bool b4, .int .i64 y5, .int .i64 y6, .int .i64 y7, .int .i64 y8, .int .i64 y9, .int .i64 y10, .slice a1 N c1]) (by simp [results, Try.results59, go_sem, g2, r2, f2, rf2, Nat.ne_of_lt hw11, Nat.ne_of_gt hw11]) rfl ⟨⟨y0, y1, (!b2), b3, b4, y5, y6, y7, y8, y9, y10, L⟩, .slice a1 N c1, rfl, ?_, ?_, HA.out, ?_, ?_⟩
    · refine OB.mono (base := W0.heap.size) (OB.off O1.out fun g hg hg' => ?_) (by omega)
      rw [← E2.out g hg hg']
      repeat rw [Below.heap_setCell _ _ _ _ (by dsimp only; omega)]
    · show L.length ≤ 9; rw [HN.out]; exact HL.out
    · exact D2.out.then (B := w.heap.size) (by go_grown) (Nat.le_refl _)
    · exact (s2.out.below (B := w.heap.size) (by go_grown) hlt).mono (by omega)
  have h6a : (x == 6) = false := by simp [h6]
  go_wp2_with fail
  refine bodyPost_ret (v := .agg #[.int .i64 y0, .int .i64 y1, .bool b2, .bool b3, .bool b4, .int .i64 y5, .int .i64 y6, .int .i64 y7, .int .i64 y8, .int .i64 y9, .int .i64 y10, .slice a1 N c1]) (by simp [results, Try.results59, go_sem, g2, r2, f2, rf2, Nat.ne_of_lt hw11, Nat.ne_of_gt hw11]) rfl ⟨⟨y0, y1, b2, b3, b4, y5, y6, y7, y8, y9, y10, L⟩, .slice a1 N c1, rfl, ?_, ?_, HA.out, ?_, ?_⟩
  · refine OB.mono (base := W0.heap.size) (OB.off O1.out fun g hg hg' => ?_) (by omega)
    rw [← E2.out g hg hg']
    repeat rw [Below.heap_setCell _ _ _ _ (by dsimp only; omega)]
  · show L.length ≤ 9; rw [HN.out]; exact HL.out
  · exact D2.out.then (B := w.heap.size) (by go_grown) (Nat.le_refl _)
  · exact (s2.out.below (B := w.heap.size) (by go_grown) hlt).mono (by omega)
end Go.Proofs.Ytebgibjokljlbaa
