/- What the draws of chapter 2's model give: a segment, bent or not; of what was in memory only the count of the source turns; no condition but that it has drawn fewer than a million. -/
import Derived.Test.YtmiomnpfjigojaaRows
import Derived.Test.YtmiomnpfjigojaaBase
import Derived.Test.YtmiomnpfjigojaaDraws
import Derived.Test.YtmiomnpfjigojaaBytes
import Derived.Test.YtmiomnpfjigojaaAppBytes
import Derived.Test.YtmiomnpfjigojaaSeg
import Derived.Test.YtmiomnpfjigojaaStrip
import Derived.Test.YtmiomnpfjigojaaDrawSeg
import Derived.Test.YtmiomnpfjigojaaDrawSeg2
import Derived.Deep.DeepMust
namespace Go.Proofs.Ytmiomnpfjigojaa
open Go.RowKit
set_option linter.unusedVariables false
set_option linter.unusedSimpArgs false

theorem OB.off {w w' : World} {base : Nat} {v : Value} {l : List Int} (h : OB w base v l) (hb : ∀ g, base ≤ g → g < w.heap.size → w'.heap[g]? = w.heap[g]?) : OB w' base v l := by
  refine ⟨?_, h.bd⟩
  obtain ⟨h1, h2 | ⟨g, cap, cur, e, hg, hh, r⟩⟩ := h.own
  · exact ⟨h1, Or.inl h2⟩
  · have hlt : g < w.heap.size := by
      apply Classical.byContradiction; intro hn
      rw [Array.getElem?_eq_none (by omega)] at hh; cases hh
    exact ⟨h1, Or.inr ⟨g, cap, cur, e, hg, by rw [hb g hg hlt]; exact hh, r⟩⟩

set_option maxRecDepth 8000 in
set_option maxHeartbeats 4000000 in
theorem sBent (sb : Nat) (a : Option Addr) (len cap : Nat) (zs : List Int) (K : Int) (w : World)
    (hs : Src w sb (.slice a len cap) K) (hr : BRow .u8 w a len cap zs) (hl : RowLt sb a zs) (hK : K ≤ 700000) :
    Calls Try.prog 71 #[.pointer (some ⟨sb, 0, none⟩)] w fun e w' => ∃ (s : Seg) (v : Value), e = .returned (.agg #[.int .i64 s.path, .int .i64 s.frm, .bool s.syn, .bool s.ackd, .bool s.rst, .int .i64 s.seq, .int .i64 s.ack, .int .i64 s.fin, .int .i64 s.opt, .int .i64 s.a, .int .i64 s.b, v]) ∧ OB w' w.heap.size v s.load ∧ s.load.length ≤ 9 ∧ (0 ≤ s.ack ∧ s.ack < 300) ∧ Dr sb w w' ∧ Src w' sb (.slice a len cap) (K + 70) := by
  obtain ⟨i0, hi, hz0, hz1, hz2⟩ := info_parts info_u8
  have HI : Hid _ := And.intro hi (And.intro hz0 (And.intro hz1 hz2))
  clear hi hz0 hz1 hz2
  have hlt := hs.lt
  have HR : Hid (∀ W, Dr sb w W → BRow .u8 W a len cap zs) := fun W h => hr.below hl (h.below (Nat.le_of_lt hlt))
  have HS : Hid _ := hs
  clear hr hs
  go_enter Try.func71, Try.ntmps71
  go_wp2_with fail
  obtain ⟨W0, hW0⟩ : ∃ W0, w.alloc (.cells zSeg 40) = W0 := ⟨_, rfl⟩
  have D0 : Hid (Dr sb w W0) := by rw [← hW0]; exact (Dr.refl _ _).then ((Below.refl _ _).alloc (Nat.le_refl _) _) (Nat.le_refl _)
  have S0 : Hid (Src W0 sb (.slice a len cap) K) := by rw [← hW0]; exact HS.out.alloc _
  have C0 : Hid (∀ o, W0.cell? ⟨w.heap.size, o, none⟩ = zSeg[o]? ∧ W0.frozen? ⟨w.heap.size, o, none⟩ = false) := by rw [← hW0]; intro o; exact ⟨by simp [go_sem], by simp [go_sem]⟩
  have z0 : W0.heap.size = w.heap.size + 1 := by rw [← hW0]; simp
  unfold zSeg at hW0
  simp only [hW0]
  clear hW0
  refine (sSeg sb a len cap zs _ W0 S0.out (HR.out _ D0.out) hl (by omega)).mono ?_
  rintro e w1 ⟨⟨y0, y1, b2, b3, b4, y5, y6, y7, y8, y9, y10, L⟩, v1, rfl, ho, hlen, hak, -, d1', s1'⟩
  simp only at ho hlen hak ⊢
  replace hlen : L.length ≤ 9 := by omega
  obtain ⟨a1, c1, hv, -⟩ := ho.rb
  subst hv
  have D1 : Hid (Dr sb w w1) := D0.out.trans d1'
  have s1 : Hid _ := s1'
  have hne : w.heap.size ≠ sb := by omega
  have hz1 : W0.heap.size ≤ w1.heap.size := d1'.size
  have hne1 : w1.heap.size ≠ sb := by omega
  have hw1 : w.heap.size ≤ w1.heap.size := by omega
  have hw11 : w.heap.size < w1.heap.size := by omega
  have hsb1 : sb < w1.heap.size := by omega
  have C1 : Hid (∀ o, w1.cell? ⟨w.heap.size, o, none⟩ = zSeg[o]? ∧ w1.frozen? ⟨w.heap.size, o, none⟩ = false) := fun o => ⟨(d1'.cell (p := ⟨w.heap.size, o, none⟩) (by dsimp only; omega) hne).trans (C0.out o).1, (d1'.frozen (p := ⟨w.heap.size, o, none⟩) (by dsimp only; omega) hne).trans (C0.out o).2⟩
  have O1 : Hid _ := ho
  have HA : Hid (0 ≤ y6 ∧ y6 < 300) := hak
  have HL : Hid (L.length ≤ 9) := hlen
  clear ho hlen hak d1' s1' C0 D0 S0 HS
  generalize hN : L.length = N at *
  have HN : Hid (L.length = N) := hN
  clear hN
  go_wp2_with fail
  refine (sNext sb a len cap zs _ 18 _ (s1.out.alloc _) (HR.out _ (D1.out.then ((Below.refl _ _).alloc (Nat.le_refl _) _) hw1)) hl (by omega) (by omega)).mono ?_
  rintro e w2 ⟨x, rfl, p2, q2, st, s2'⟩
  have s2 : Hid _ := s2'
  have D2 : Hid (Dr sb w w2) := (D1.out.then ((Below.refl _ _).alloc (Nat.le_refl _) _) hw1).trans st.dr
  have z2 : w1.heap.size < w2.heap.size := by have := st.size; simp at this; omega
  have y2 : w.heap.size < w2.heap.size := by omega
  have g2 : ∀ o, w2.cell? ⟨w1.heap.size, o, none⟩ = (#[.int .i64 y0, .int .i64 y1, .bool b2, .bool b3, .bool b4, .int .i64 y5, .int .i64 y6, .int .i64 y7, .int .i64 y8, .int .i64 y9, .int .i64 y10, .slice a1 N c1] : Array Value)[o]? := fun o => by rw [st.cell hne1]; simp [go_sem]
  have f2 : ∀ o, w2.frozen? ⟨w1.heap.size, o, none⟩ = false := fun o => by rw [st.frozen hne1]; simp [go_sem]
  have r2 : ∀ o, w2.cell? ⟨w.heap.size, o, none⟩ = zSeg[o]? := fun o => by rw [st.cell hne, ← (C1.out o).1]; exact (((Below.refl _ _).alloc (Nat.le_refl _) _).cell (by dsimp only; omega))
  have rf2 : ∀ o, w2.frozen? ⟨w.heap.size, o, none⟩ = false := fun o => by rw [st.frozen hne, ← (C1.out o).2]; exact (((Below.refl _ _).alloc (Nat.le_refl _) _).frozen (by dsimp only; omega))
  have E2 : Hid (∀ g, W0.heap.size ≤ g → g < w1.heap.size → w2.heap[g]? = w1.heap[g]?) := fun g h1 h2 => (st.block g (by omega)).trans (((Below.refl _ _).alloc (Nat.le_refl _) _).block g h2)
  unfold zSeg at r2
  clear st s2' s1 C1
  by_cases h0 : x = 0
  · have h0a : (x == 0) = true := by simp [h0]
    go_wp2_with fail
    have hp := sPickD sb a len cap zs _ [-1, 3] 2 w2 s2.out (HR.out _ D2.out) hl (by omega) (by simp) (by simp)
    simp only [List.length_cons, List.length_nil, List.map_cons, List.map_nil, Nat.zero_add, Nat.reduceAdd] at hp
    refine hp.mono ?_
    clear hp
    rintro e w3 ⟨r, rfl, -, st, s3'⟩
    have s3 : Hid _ := s3'
    have D3 : Hid (Dr sb w w3) := D2.out.trans st
    have z3 : w1.heap.size < w3.heap.size := by have := st.size; omega
    have y3 : w.heap.size < w3.heap.size := by omega
    have g3 : ∀ o, w3.cell? ⟨w1.heap.size, o, none⟩ = (#[.int .i64 y0, .int .i64 y1, .bool b2, .bool b3, .bool b4, .int .i64 y5, .int .i64 y6, .int .i64 y7, .int .i64 y8, .int .i64 y9, .int .i64 y10, .slice a1 N c1] : Array Value)[o]? := fun o => by rw [st.cell z2 hne1]; exact g2 o
    have f3 : ∀ o, w3.frozen? ⟨w1.heap.size, o, none⟩ = false := fun o => by rw [st.frozen z2 hne1]; exact f2 o
    have r3 : ∀ o, w3.cell? ⟨w.heap.size, o, none⟩ = (#[.int .i64 0, .int .i64 0, .bool false, .bool false, .bool false, .int .i64 0, .int .i64 0, .int .i64 0, .int .i64 0, .int .i64 0, .int .i64 0, .slice none 0 0] : Array Value)[o]? := fun o => by rw [st.cell y2 hne]; exact r2 o
    have rf3 : ∀ o, w3.frozen? ⟨w.heap.size, o, none⟩ = false := fun o => by rw [st.frozen y2 hne]; exact rf2 o
    have E3 : Hid (∀ g, W0.heap.size ≤ g → g < w1.heap.size → w3.heap[g]? = w1.heap[g]?) := fun g h1 h2 => (st.block g (by omega) (by omega)).trans (E2.out g h1 h2)
    clear st s3' g2 f2 r2 rf2 s2 E2
    go_wp2_with fail
    refine bodyPost_ret (v := .agg #[.int .i64 r, .int .i64 y1, .bool b2, .bool b3, .bool b4, .int .i64 y5, .int .i64 y6, .int .i64 y7, .int .i64 y8, .int .i64 y9, .int .i64 y10, .slice a1 N c1]) (by simp [results, Try.results71, go_sem, g3, r3, f3, rf3, Nat.ne_of_lt hw11, Nat.ne_of_gt hw11]) rfl ⟨⟨r, y1, b2, b3, b4, y5, y6, y7, y8, y9, y10, L⟩, .slice a1 N c1, rfl, ?_, ?_, HA.out, ?_, ?_⟩
    · refine OB.mono (base := W0.heap.size) (OB.off O1.out fun g hg hg' => ?_) (by omega)
      rw [← E3.out g hg hg']
      repeat rw [Below.heap_setCell _ _ _ _ (by dsimp only; omega)]
    · show L.length ≤ 9; rw [HN.out]; exact HL.out
    · exact D3.out.then (B := w.heap.size) (by go_grown) (Nat.le_refl _)
    · exact (s3.out.below (B := w.heap.size) (by go_grown) hlt).mono (by omega)
  have h0a : (x == 0) = false := by simp [h0]
  by_cases h1 : x = 1
  · have h1a : (x == 1) = true := by simp [h1]
    go_wp2_with fail
    have hp := sPickD sb a len cap zs _ [-1, 65535, 65536] 2 w2 s2.out (HR.out _ D2.out) hl (by omega) (by simp) (by simp)
    simp only [List.length_cons, List.length_nil, List.map_cons, List.map_nil, Nat.zero_add, Nat.reduceAdd] at hp
    refine hp.mono ?_
    clear hp
    rintro e w3 ⟨r, rfl, -, st, s3'⟩
    have s3 : Hid _ := s3'
    have D3 : Hid (Dr sb w w3) := D2.out.trans st
    have z3 : w1.heap.size < w3.heap.size := by have := st.size; omega
    have y3 : w.heap.size < w3.heap.size := by omega
    have g3 : ∀ o, w3.cell? ⟨w1.heap.size, o, none⟩ = (#[.int .i64 y0, .int .i64 y1, .bool b2, .bool b3, .bool b4, .int .i64 y5, .int .i64 y6, .int .i64 y7, .int .i64 y8, .int .i64 y9, .int .i64 y10, .slice a1 N c1] : Array Value)[o]? := fun o => by rw [st.cell z2 hne1]; exact g2 o
    have f3 : ∀ o, w3.frozen? ⟨w1.heap.size, o, none⟩ = false := fun o => by rw [st.frozen z2 hne1]; exact f2 o
    have r3 : ∀ o, w3.cell? ⟨w.heap.size, o, none⟩ = (#[.int .i64 0, .int .i64 0, .bool false, .bool false, .bool false, .int .i64 0, .int .i64 0, .int .i64 0, .int .i64 0, .int .i64 0, .int .i64 0, .slice none 0 0] : Array Value)[o]? := fun o => by rw [st.cell y2 hne]; exact r2 o
    have rf3 : ∀ o, w3.frozen? ⟨w.heap.size, o, none⟩ = false := fun o => by rw [st.frozen y2 hne]; exact rf2 o
    have E3 : Hid (∀ g, W0.heap.size ≤ g → g < w1.heap.size → w3.heap[g]? = w1.heap[g]?) := fun g h1 h2 => (st.block g (by omega) (by omega)).trans (E2.out g h1 h2)
    clear st s3' g2 f2 r2 rf2 s2 E2
    go_wp2_with fail
    refine bodyPost_ret (v := .agg #[.int .i64 y0, .int .i64 y1, .bool b2, .bool b3, .bool b4, .int .i64 r, .int .i64 y6, .int .i64 y7, .int .i64 y8, .int .i64 y9, .int .i64 y10, .slice a1 N c1]) (by simp [results, Try.results71, go_sem, g3, r3, f3, rf3, Nat.ne_of_lt hw11, Nat.ne_of_gt hw11]) rfl ⟨⟨y0, y1, b2, b3, b4, r, y6, y7, y8, y9, y10, L⟩, .slice a1 N c1, rfl, ?_, ?_, HA.out, ?_, ?_⟩
    · refine OB.mono (base := W0.heap.size) (OB.off O1.out fun g hg hg' => ?_) (by omega)
      rw [← E3.out g hg hg']
      repeat rw [Below.heap_setCell _ _ _ _ (by dsimp only; omega)]
    · show L.length ≤ 9; rw [HN.out]; exact HL.out
    · exact D3.out.then (B := w.heap.size) (by go_grown) (Nat.le_refl _)
    · exact (s3.out.below (B := w.heap.size) (by go_grown) hlt).mono (by omega)
  have h1a : (x == 1) = false := by simp [h1]
  by_cases h2 : x = 2
  · have h2a : (x == 2) = true := by simp [h2]
    go_wp2_with fail
    have hp := sPickD sb a len cap zs _ [-1, 1000, 1001] 2 w2 s2.out (HR.out _ D2.out) hl (by omega) (by simp) (by simp)
    simp only [List.length_cons, List.length_nil, List.map_cons, List.map_nil, Nat.zero_add, Nat.reduceAdd] at hp
    refine hp.mono ?_
    clear hp
    rintro e w3 ⟨r, rfl, -, st, s3'⟩
    have s3 : Hid _ := s3'
    have D3 : Hid (Dr sb w w3) := D2.out.trans st
    have z3 : w1.heap.size < w3.heap.size := by have := st.size; omega
    have y3 : w.heap.size < w3.heap.size := by omega
    have g3 : ∀ o, w3.cell? ⟨w1.heap.size, o, none⟩ = (#[.int .i64 y0, .int .i64 y1, .bool b2, .bool b3, .bool b4, .int .i64 y5, .int .i64 y6, .int .i64 y7, .int .i64 y8, .int .i64 y9, .int .i64 y10, .slice a1 N c1] : Array Value)[o]? := fun o => by rw [st.cell z2 hne1]; exact g2 o
    have f3 : ∀ o, w3.frozen? ⟨w1.heap.size, o, none⟩ = false := fun o => by rw [st.frozen z2 hne1]; exact f2 o
    have r3 : ∀ o, w3.cell? ⟨w.heap.size, o, none⟩ = (#[.int .i64 0, .int .i64 0, .bool false, .bool false, .bool false, .int .i64 0, .int .i64 0, .int .i64 0, .int .i64 0, .int .i64 0, .int .i64 0, .slice none 0 0] : Array Value)[o]? := fun o => by rw [st.cell y2 hne]; exact r2 o
    have rf3 : ∀ o, w3.frozen? ⟨w.heap.size, o, none⟩ = false := fun o => by rw [st.frozen y2 hne]; exact rf2 o
    have E3 : Hid (∀ g, W0.heap.size ≤ g → g < w1.heap.size → w3.heap[g]? = w1.heap[g]?) := fun g h1 h2 => (st.block g (by omega) (by omega)).trans (E2.out g h1 h2)
    clear st s3' g2 f2 r2 rf2 s2 E2
    go_wp2_with fail
    refine bodyPost_ret (v := .agg #[.int .i64 y0, .int .i64 y1, .bool b2, .bool b3, .bool b4, .int .i64 y5, .int .i64 y6, .int .i64 r, .int .i64 y8, .int .i64 y9, .int .i64 y10, .slice a1 N c1]) (by simp [results, Try.results71, go_sem, g3, r3, f3, rf3, Nat.ne_of_lt hw11, Nat.ne_of_gt hw11]) rfl ⟨⟨y0, y1, b2, b3, b4, y5, y6, r, y8, y9, y10, L⟩, .slice a1 N c1, rfl, ?_, ?_, HA.out, ?_, ?_⟩
    · refine OB.mono (base := W0.heap.size) (OB.off O1.out fun g hg hg' => ?_) (by omega)
      rw [← E3.out g hg hg']
      repeat rw [Below.heap_setCell _ _ _ _ (by dsimp only; omega)]
    · show L.length ≤ 9; rw [HN.out]; exact HL.out
    · exact D3.out.then (B := w.heap.size) (by go_grown) (Nat.le_refl _)
    · exact (s3.out.below (B := w.heap.size) (by go_grown) hlt).mono (by omega)
  have h2a : (x == 2) = false := by simp [h2]
  by_cases h3 : x = 3
  · have h3a : (x == 3) = true := by simp [h3]
    go_wp2_with fail
    have hp := sPickD sb a len cap zs _ [-1, 5, 0] 2 w2 s2.out (HR.out _ D2.out) hl (by omega) (by simp) (by simp)
    simp only [List.length_cons, List.length_nil, List.map_cons, List.map_nil, Nat.zero_add, Nat.reduceAdd] at hp
    refine hp.mono ?_
    clear hp
    rintro e w3 ⟨r, rfl, -, st, s3'⟩
    have s3 : Hid _ := s3'
    have D3 : Hid (Dr sb w w3) := D2.out.trans st
    have z3 : w1.heap.size < w3.heap.size := by have := st.size; omega
    have y3 : w.heap.size < w3.heap.size := by omega
    have g3 : ∀ o, w3.cell? ⟨w1.heap.size, o, none⟩ = (#[.int .i64 y0, .int .i64 y1, .bool b2, .bool b3, .bool b4, .int .i64 y5, .int .i64 y6, .int .i64 y7, .int .i64 y8, .int .i64 y9, .int .i64 y10, .slice a1 N c1] : Array Value)[o]? := fun o => by rw [st.cell z2 hne1]; exact g2 o
    have f3 : ∀ o, w3.frozen? ⟨w1.heap.size, o, none⟩ = false := fun o => by rw [st.frozen z2 hne1]; exact f2 o
    have r3 : ∀ o, w3.cell? ⟨w.heap.size, o, none⟩ = (#[.int .i64 0, .int .i64 0, .bool false, .bool false, .bool false, .int .i64 0, .int .i64 0, .int .i64 0, .int .i64 0, .int .i64 0, .int .i64 0, .slice none 0 0] : Array Value)[o]? := fun o => by rw [st.cell y2 hne]; exact r2 o
    have rf3 : ∀ o, w3.frozen? ⟨w.heap.size, o, none⟩ = false := fun o => by rw [st.frozen y2 hne]; exact rf2 o
    have E3 : Hid (∀ g, W0.heap.size ≤ g → g < w1.heap.size → w3.heap[g]? = w1.heap[g]?) := fun g h1 h2 => (st.block g (by omega) (by omega)).trans (E2.out g h1 h2)
    clear st s3' g2 f2 r2 rf2 s2 E2
    go_wp2_with fail
    refine bodyPost_ret (v := .agg #[.int .i64 y0, .int .i64 y1, .bool b2, .bool b3, .bool b4, .int .i64 y5, .int .i64 y6, .int .i64 y7, .int .i64 r, .int .i64 y9, .int .i64 y10, .slice a1 N c1]) (by simp [results, Try.results71, go_sem, g3, r3, f3, rf3, Nat.ne_of_lt hw11, Nat.ne_of_gt hw11]) rfl ⟨⟨y0, y1, b2, b3, b4, y5, y6, y7, r, y9, y10, L⟩, .slice a1 N c1, rfl, ?_, ?_, HA.out, ?_, ?_⟩
    · refine OB.mono (base := W0.heap.size) (OB.off O1.out fun g hg hg' => ?_) (by omega)
      rw [← E3.out g hg hg']
      repeat rw [Below.heap_setCell _ _ _ _ (by dsimp only; omega)]
    · show L.length ≤ 9; rw [HN.out]; exact HL.out
    · exact D3.out.then (B := w.heap.size) (by go_grown) (Nat.le_refl _)
    · exact (s3.out.below (B := w.heap.size) (by go_grown) hlt).mono (by omega)
  have h3a : (x == 3) = false := by simp [h3]
  by_cases h4 : x = 4
  · have h4a : (x == 4) = true := by simp [h4]
    go_wp2_with fail
    have hp := sPickD sb a len cap zs _ [-1, 1000000, 1000001] 2 w2 s2.out (HR.out _ D2.out) hl (by omega) (by simp) (by simp)
    simp only [List.length_cons, List.length_nil, List.map_cons, List.map_nil, Nat.zero_add, Nat.reduceAdd] at hp
    refine hp.mono ?_
    clear hp
    rintro e w3 ⟨r, rfl, -, st, s3'⟩
    have s3 : Hid _ := s3'
    have D3 : Hid (Dr sb w w3) := D2.out.trans st
    have z3 : w1.heap.size < w3.heap.size := by have := st.size; omega
    have y3 : w.heap.size < w3.heap.size := by omega
    have g3 : ∀ o, w3.cell? ⟨w1.heap.size, o, none⟩ = (#[.int .i64 y0, .int .i64 y1, .bool b2, .bool b3, .bool b4, .int .i64 y5, .int .i64 y6, .int .i64 y7, .int .i64 y8, .int .i64 y9, .int .i64 y10, .slice a1 N c1] : Array Value)[o]? := fun o => by rw [st.cell z2 hne1]; exact g2 o
    have f3 : ∀ o, w3.frozen? ⟨w1.heap.size, o, none⟩ = false := fun o => by rw [st.frozen z2 hne1]; exact f2 o
    have r3 : ∀ o, w3.cell? ⟨w.heap.size, o, none⟩ = (#[.int .i64 0, .int .i64 0, .bool false, .bool false, .bool false, .int .i64 0, .int .i64 0, .int .i64 0, .int .i64 0, .int .i64 0, .int .i64 0, .slice none 0 0] : Array Value)[o]? := fun o => by rw [st.cell y2 hne]; exact r2 o
    have rf3 : ∀ o, w3.frozen? ⟨w.heap.size, o, none⟩ = false := fun o => by rw [st.frozen y2 hne]; exact rf2 o
    have E3 : Hid (∀ g, W0.heap.size ≤ g → g < w1.heap.size → w3.heap[g]? = w1.heap[g]?) := fun g h1 h2 => (st.block g (by omega) (by omega)).trans (E2.out g h1 h2)
    clear st s3' g2 f2 r2 rf2 s2 E2
    go_wp2_with fail
    refine bodyPost_ret (v := .agg #[.int .i64 y0, .int .i64 y1, .bool b2, .bool b3, .bool b4, .int .i64 y5, .int .i64 y6, .int .i64 y7, .int .i64 y8, .int .i64 r, .int .i64 y10, .slice a1 N c1]) (by simp [results, Try.results71, go_sem, g3, r3, f3, rf3, Nat.ne_of_lt hw11, Nat.ne_of_gt hw11]) rfl ⟨⟨y0, y1, b2, b3, b4, y5, y6, y7, y8, r, y10, L⟩, .slice a1 N c1, rfl, ?_, ?_, HA.out, ?_, ?_⟩
    · refine OB.mono (base := W0.heap.size) (OB.off O1.out fun g hg hg' => ?_) (by omega)
      rw [← E3.out g hg hg']
      repeat rw [Below.heap_setCell _ _ _ _ (by dsimp only; omega)]
    · show L.length ≤ 9; rw [HN.out]; exact HL.out
    · exact D3.out.then (B := w.heap.size) (by go_grown) (Nat.le_refl _)
    · exact (s3.out.below (B := w.heap.size) (by go_grown) hlt).mono (by omega)
  have h4a : (x == 4) = false := by simp [h4]
  by_cases h5 : x = 5
  · have h5a : (x == 5) = true := by simp [h5]
    go_wp2_with (at_make; refine wpList_make_full w2 rfl _ _ 22 rfl w2.heap.size 5 i0 (.int .u8 0) 1 Try.underlying22 HI.out.1 HI.out.2.1 HI.out.2.2.1 .i64 .i64 _ _ 9 (by rfl) (by rfl) rfl rfl (by rw [HI.out.2.2.2]; omega) (by unfold maxLen; omega) (Nat.le_refl _) ?_; intro w3 hown hgr; have hb3 : Below w2.heap.size w2 w3 := (Below.refl _ _).grown hgr (Nat.le_refl _) (by intro k hk; cases hk); have s3 : Hid _ := s2.out.below hb3 (by omega); have D3 : Hid (Dr sb w w3) := D2.out.then hb3 (by omega); have z3 : w1.heap.size < w3.heap.size := Nat.lt_of_lt_of_le z2 hb3.size; have y3 : w.heap.size < w3.heap.size := (by omega); have g3 : ∀ o, w3.cell? ⟨w1.heap.size, o, none⟩ = (#[.int .i64 y0, .int .i64 y1, .bool b2, .bool b3, .bool b4, .int .i64 y5, .int .i64 y6, .int .i64 y7, .int .i64 y8, .int .i64 y9, .int .i64 y10, .slice a1 N c1] : Array Value)[o]? := fun o => (hb3.cell z2).trans (g2 o); have f3 : ∀ o, w3.frozen? ⟨w1.heap.size, o, none⟩ = false := fun o => (hb3.frozen z2).trans (f2 o); have r3 : ∀ o, w3.cell? ⟨w.heap.size, o, none⟩ = (#[.int .i64 0, .int .i64 0, .bool false, .bool false, .bool false, .int .i64 0, .int .i64 0, .int .i64 0, .int .i64 0, .int .i64 0, .int .i64 0, .slice none 0 0] : Array Value)[o]? := fun o => (hb3.cell y2).trans (r2 o); have rf3 : ∀ o, w3.frozen? ⟨w.heap.size, o, none⟩ = false := fun o => (hb3.frozen y2).trans (rf2 o); have O3 : Hid (OB w3 w2.heap.size (.slice (some ⟨w2.heap.size, 0, none⟩) 9 9) (List.replicate 9 0)) := ⟨by (have e : (madeCells (Value.int .u8 0).cells (9 * 1)).toList = (List.replicate 9 (0 : Int)).map (Value.int .u8) := by simp [Value.cells, toList_madeCells_one]); rw [← e]; exact hown, by simp⟩; clear hown hgr hb3 g2 f2 r2 rf2)
    refine bodyPost_ret (v := .agg #[.int .i64 y0, .int .i64 y1, .bool b2, .bool b3, .bool b4, .int .i64 y5, .int .i64 y6, .int .i64 y7, .int .i64 y8, .int .i64 y9, .int .i64 y10, .slice (some ⟨w2.heap.size, 0, none⟩) 9 9]) (by simp [results, Try.results71, go_sem, g3, r3, f3, rf3, Nat.ne_of_lt hw11, Nat.ne_of_gt hw11]) rfl ⟨⟨y0, y1, b2, b3, b4, y5, y6, y7, y8, y9, y10, List.replicate 9 0⟩, .slice (some ⟨w2.heap.size, 0, none⟩) 9 9, rfl, ?_, ?_, HA.out, ?_, ?_⟩
    · refine OB.mono (base := w2.heap.size) (OB.keeps O3.out fun g hg => ?_) (by omega)
      repeat rw [Below.heap_setCell _ _ _ _ (by dsimp only; omega)]
    · simp
    · exact D3.out.then (B := w.heap.size) (by go_grown) (Nat.le_refl _)
    · exact (s3.out.below (B := w.heap.size) (by go_grown) hlt).mono (by omega)
  have h5a : (x == 5) = false := by simp [h5]
  by_cases h6 : x = 6
  · have h6a : (x == 6) = true := by simp [h6]
    go_wp2_with fail
    refine bodyPost_ret (v := .agg #[.int .i64 y0, .int .i64 y1, .bool (!b2), .bool b3, .bool b4, .int .i64 y5, .int .i64 y6, .int .i64 y7, .int .i64 y8, .int .i64 y9, .int .i64 y10, .slice a1 N c1]) (by simp [results, Try.results71, go_sem, g2, r2, f2, rf2, Nat.ne_of_lt hw11, Nat.ne_of_gt hw11]) rfl ⟨⟨y0, y1, (!b2), b3, b4, y5, y6, y7, y8, y9, y10, L⟩, .slice a1 N c1, rfl, ?_, ?_, HA.out, ?_, ?_⟩
    · refine OB.mono (base := W0.heap.size) (OB.off O1.out fun g hg hg' => ?_) (by omega)
      rw [← E2.out g hg hg']
      repeat rw [Below.heap_setCell _ _ _ _ (by dsimp only; omega)]
    · show L.length ≤ 9; rw [HN.out]; exact HL.out
    · exact D2.out.then (B := w.heap.size) (by go_grown) (Nat.le_refl _)
    · exact (s2.out.below (B := w.heap.size) (by go_grown) hlt).mono (by omega)
  have h6a : (x == 6) = false := by simp [h6]
  go_wp2_with fail
  refine bodyPost_ret (v := .agg #[.int .i64 y0, .int .i64 y1, .bool b2, .bool b3, .bool b4, .int .i64 y5, .int .i64 y6, .int .i64 y7, .int .i64 y8, .int .i64 y9, .int .i64 y10, .slice a1 N c1]) (by simp [results, Try.results71, go_sem, g2, r2, f2, rf2, Nat.ne_of_lt hw11, Nat.ne_of_gt hw11]) rfl ⟨⟨y0, y1, b2, b3, b4, y5, y6, y7, y8, y9, y10, L⟩, .slice a1 N c1, rfl, ?_, ?_, HA.out, ?_, ?_⟩
  · refine OB.mono (base := W0.heap.size) (OB.off O1.out fun g hg hg' => ?_) (by omega)
    rw [← E2.out g hg hg']
    repeat rw [Below.heap_setCell _ _ _ _ (by dsimp only; omega)]
  · show L.length ≤ 9; rw [HN.out]; exact HL.out
  · exact D2.out.then (B := w.heap.size) (by go_grown) (Nat.le_refl _)
  · exact (s2.out.below (B := w.heap.size) (by go_grown) hlt).mono (by omega)
end Go.Proofs.Ytmiomnpfjigojaa
