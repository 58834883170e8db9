/- What the draws of the model give: a number, one of a list, a chance, some bytes; nothing that was in memory turns but the source; no condition. -/
import Derived.Test.YtnbcefdfdonljaaRows
import Derived.Test.YtnbcefdfdonljaaBase
import Derived.Test.YtnbcefdfdonljaaDraws
import Derived.Test.YtnbcefdfdonljaaBytes
import Derived.Test.YtnbcefdfdonljaaAppBytes
namespace Go.Proofs.Ytnbcefdfdonljaa
open Go.RowKit
set_option linter.unusedVariables false

/-- Of what was in memory nothing turned but the cells of block sb. -/
structure Dr (sb : Nat) (w w' : World) : Prop where
  os : w'.os = w.os
  tape : w'.tape = w.tape
  output : w'.output = w.output
  size : w.heap.size ≤ w'.heap.size
  block : ∀ b, b < w.heap.size → b ≠ sb → w'.heap[b]? = w.heap[b]?

theorem Dr.refl (sb : Nat) (w : World) : Dr sb w w := ⟨rfl, rfl, rfl, Nat.le_refl _, fun _ _ _ => rfl⟩
theorem Dr.trans {sb : Nat} {a b c : World} (h : Dr sb a b) (k : Dr sb b c) : Dr sb a c :=
  ⟨k.os.trans h.os, k.tape.trans h.tape, k.output.trans h.output, Nat.le_trans h.size k.size, fun i hi hn => (k.block i (Nat.lt_of_lt_of_le hi h.size) hn).trans (h.block i hi hn)⟩
theorem Step.dr {sb : Nat} {w w' : World} (h : Step sb w w') : Dr sb w w' := ⟨h.os, h.tape, h.output, Nat.le_of_eq h.size.symm, fun b _ hn => h.block b hn⟩
theorem Dr.then {sb B : Nat} {w w1 w2 : World} (h : Dr sb w w1) (k : Below B w1 w2) (hB : w.heap.size ≤ B) : Dr sb w w2 :=
  ⟨k.os.trans h.os, k.tape.trans h.tape, k.output.trans h.output, Nat.le_trans h.size k.size, fun i hi hn => (k.block i (by omega)).trans (h.block i hi hn)⟩
theorem Dr.below {sb : Nat} {w w' : World} (h : Dr sb w w') (hs : sb ≤ w.heap.size) : Below sb w w' := ⟨h.os, h.tape, h.output, h.size, fun k hk => h.block k (by omega) (by omega)⟩
theorem Dr.cell {sb : Nat} {w w' : World} (h : Dr sb w w') {p : Addr} (hp : p.block < w.heap.size) (hn : p.block ≠ sb) : w'.cell? p = w.cell? p := World.cell?_of_block (w := w) (h.block p.block hp hn)
theorem Dr.frozen {sb : Nat} {w w' : World} (h : Dr sb w w') {p : Addr} (hp : p.block < w.heap.size) (hn : p.block ≠ sb) : w'.frozen? p = w.frozen? p := World.frozen?_of_block (w := w) (h.block p.block hp hn)
theorem OB.dr {sb base : Nat} {w w' : World} {v : Value} {l : List Int} (h : OB w base v l) (hd : Dr sb w w') (hs : sb < base) : OB w' base v l := by
  refine ⟨?_, h.bd⟩
  obtain ⟨h1, h2 | ⟨g, cap, cur, e, hg, hh, r⟩⟩ := h.own
  · exact ⟨h1, Or.inl h2⟩
  · have hlt : g < w.heap.size := by
      apply Classical.byContradiction; intro hn
      rw [Array.getElem?_eq_none (by omega)] at hh; cases hh
    exact ⟨h1, Or.inr ⟨g, cap, cur, e, hg, by rw [hd.block g hlt (by omega)]; exact hh, r⟩⟩
theorem Src.below {w w' : World} {sb B : Nat} {v : Value} {K : Int} (h : Src w sb v K) (hb : Below B w w') (hB : sb < B) : Src w' sb v K := by
  obtain ⟨h0, ⟨k, k0, k1, h1⟩, hf, hl⟩ := h
  have := hb.size
  exact ⟨(hb.cell (p := ⟨sb, 0, none⟩) hB).trans h0, ⟨k, k0, k1, (hb.cell (p := ⟨sb, 1, none⟩) hB).trans h1⟩, (hb.frozen (p := ⟨sb, 1, none⟩) hB).trans hf, by omega⟩

/-- One of a list that was just laid. -/
theorem sPickD (sb : Nat) (a : Option Addr) (len cap : Nat) (zs : List Int) (K : Int) (l : List Int) (t : TypeId) (w : World)
    (hs : Src w sb (.slice a len cap) K) (hr : BRow .u8 w a len cap zs) (hl : RowLt sb a zs) (hK : K ≤ 1000000) (hn : 1 ≤ l.length) (hx : l.length ≤ 1000) :
    Calls Try.prog 54 #[.pointer (some ⟨sb, 0, none⟩), .slice (some ⟨w.heap.size, 0, none⟩) l.length l.length] (w.alloc (.cells (l.map (Value.int .i64)).toArray t)) fun e w' =>
      ∃ r, e = .returned (.int .i64 r) ∧ r ∈ l ∧ Dr sb w w' ∧ Src w' sb (.slice a len cap) (K + 1) := by
  have hlt := hs.lt
  have hba : Below w.heap.size w (w.alloc (.cells (l.map (Value.int .i64)).toArray t)) := (Below.refl _ _).alloc (Nat.le_refl _) _
  refine (sPick sb a len cap zs K w.heap.size l.length (fun i => l.getD i 0) _ (hs.alloc _) (hr.below hl (hba.mono (Nat.le_of_lt hlt))) hl hK (by omega) hn hx (laid_list w l t)).mono ?_
  rintro e w' ⟨i, rfl, hi, st, sr⟩
  refine ⟨_, rfl, ?_, ((Dr.refl _ _).then hba (Nat.le_refl _)).trans st.dr, sr⟩
  rw [List.getD_eq_getElem?_getD, List.getElem?_eq_getElem hi]
  exact List.getElem_mem hi

theorem sChance (sb : Nat) (a : Option Addr) (len cap : Nat) (zs : List Int) (K n : Int) (w : World)
    (hs : Src w sb (.slice a len cap) K) (hr : BRow .u8 w a len cap zs) (hl : RowLt sb a zs) (hK : K ≤ 1000000) (hn : 1 ≤ n) :
    Calls Try.prog 39 #[.pointer (some ⟨sb, 0, none⟩), .int .i64 n] w fun e w' => ∃ r, e = .returned (.bool r) ∧ Step sb w w' ∧ Src w' sb (.slice a len cap) (K + 1) := by
  go_enter Try.func39, Try.ntmps39
  go_wp2_with fail
  refine (sNext sb a len cap zs K n w hs hr hl hK hn).mono ?_
  rintro e w1 ⟨r, rfl, r0, r1, st, sr⟩
  go_wp2
  go_ret
  exact ⟨_, rfl, st, sr⟩

set_option maxHeartbeats 1000000 in
theorem sSome (sb : Nat) (a : Option Addr) (len cap : Nat) (zs : List Int) (K n : Int) (w : World)
    (hs : Src w sb (.slice a len cap) K) (hr : BRow .u8 w a len cap zs) (hl : RowLt sb a zs) (hK : K ≤ 900000) (hn0 : 0 ≤ n) (hn : n ≤ 9) :
    Calls Try.prog 95 #[.pointer (some ⟨sb, 0, none⟩), .int .i64 n] w fun e w' => ∃ v, e = .returned v ∧ ∃ l, OB w' w.heap.size v l ∧ l.length ≤ 9 ∧ Dr sb w w' ∧ Src w' sb (.slice a len cap) (K + 27) := by
  have hlt := hs.lt
  have HR : Hid (∀ W, Dr sb w W → BRow .u8 W a len cap zs) := fun W h => hr.below hl (h.below (Nat.le_of_lt hlt))
  have HS : Hid _ := hs
  clear hr hs
  go_enter Try.func95, Try.ntmps95
  go_wp2
  go_loopw [1, 5] (fun t1 v wr => ∃ (k : Nat) (l : List Int), t1 = .int .i64 (n - k) ∧ (k : Int) ≤ n ∧ Hid (l.length = k) ∧ Hid (OB wr w.heap.size v l) ∧ Hid (Dr sb w wr) ∧ Hid (Src wr sb (.slice a len cap) (K + 3 * k))) (fun t1 _ _ => (intOf t1).toNat)
  case atStart => exact ⟨0, [], by go_num, by omega, rfl, (⟨World.ownsRow_made w #[] 0 (Nat.le_refl _) (by decide) rfl, by simp⟩ : OB (w.alloc (.cells #[] 5)) w.heap.size (.slice (some ⟨w.heap.size, 0, none⟩) 0 0) []), (Dr.refl _ _).then ((Below.refl _ _).alloc (Nat.le_refl _) _) (Nat.le_refl _), (HS.out.alloc _).mono (by omega)⟩
  case round =>
    obtain ⟨k, l, rfl, hk, hl0, ho, hd, hs⟩ := hrel
    by_cases hkn : (k : Int) < n
    · go_wp2_with fail
      refine (sNext sb a len cap zs _ 256 wr hs.out (HR.out _ hd.out) hl (by omega) (by omega)).mono ?_
      rintro e w1 ⟨x1, rfl, p1, q1, st1, s1⟩
      have d1 : Hid _ := hd.out.trans st1.dr
      have o1 : Hid _ := ho.out.dr st1.dr hlt
      have s1 : Hid _ := s1
      clear st1
      go_wp2_with fail
      refine (sNext sb a len cap zs _ 9 w1 s1.out (HR.out _ d1.out) hl (by omega) (by omega)).mono ?_
      rintro e w2 ⟨x2, rfl, p2, q2, st2, s2⟩
      have d2 : Hid _ := d1.out.trans st2.dr
      have o2 : Hid _ := o1.out.dr st2.dr hlt
      have s2 : Hid _ := s2
      clear st2
      go_wp2_with fail
      have hp := sPickD sb a len cap zs _ [x1, 97 + x2] 2 w2 s2.out (HR.out _ d2.out) hl (by omega) (by simp) (by simp)
      simp only [List.length_cons, List.length_nil, List.map_cons, List.map_nil, Nat.zero_add, Nat.reduceAdd] at hp
      refine hp.mono ?_
      clear hp
      rintro e w3 ⟨r, rfl, hm, d3', s3⟩
      simp only [List.mem_cons, List.not_mem_nil, or_false] at hm
      have m0 : 0 ≤ r := by omega
      have m1 : r ≤ 255 := by omega
      have d3 : Hid _ := d2.out.trans d3'
      have o3 : Hid _ := o2.out.dr d3' hlt
      have s3 : Hid _ := s3
      clear hm d3'
      have hz : w.heap.size ≤ w3.heap.size := d3.out.size
      go_wp2_with (at_builtin; refine app_u8one w3 rfl _ _ rfl w.heap.size u5 _ (by rfl) o3.out _ (by rfl) (by first | omega | (rw [u8w]; omega)) (by rw [hl0.out]; omega) hz ?_; intro v' w5 ho5 hb5 hg5)
      go_roundw
      case rel => exact ⟨k + 1, _, by go_num, by omega, by simp [hl0.out, Hid], ho5, d3.out.then hb5 (Nat.le_refl _), (s3.out.below hb5 hlt).mono (by push_cast; omega)⟩
      case measure => simp [intOf]; omega
    · obtain rfl : (k : Int) = n := by omega
      go_wp2
      go_ret
      exact ⟨_, rfl, l, ho.out, by rw [hl0.out]; omega, hd.out, hs.out.mono (by omega)⟩
end Go.Proofs.Ytnbcefdfdonljaa
