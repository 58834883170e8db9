/- Segments drawn, whole or bent: their numbers are small; each is its own; no condition. Written by mkdrbent.py. -/
import Derived.Test.YtebgibjokljlbaaRows
import Derived.Deep.DeepMust
import Derived.Deep.RegionHeld3
import Derived.Deep.DeepCutAuto
import Derived.Deep.MidRow
import Derived.Test.YtebgibjokljlbaaK01
import Derived.Test.YtebgibjokljlbaaK02
import Derived.Test.YtebgibjokljlbaaK03
import Derived.Test.YtebgibjokljlbaaK10
import Derived.Test.YtebgibjokljlbaaK17
import Derived.Test.YtebgibjokljlbaaK20
import Derived.Test.YtebgibjokljlbaaK42
import Derived.Test.YtebgibjokljlbaaK43
import Derived.Test.YtebgibjokljlbaaK55
import Derived.Test.YtebgibjokljlbaaK56
import Derived.Test.YtebgibjokljlbaaK57
import Derived.Test.YtebgibjokljlbaaK64
import Derived.Test.YtebgibjokljlbaaK66
import Derived.Test.YtebgibjokljlbaaK67
import Derived.Test.YtebgibjokljlbaaK93
import Derived.Test.YtebgibjokljlbaaK94
import Derived.Test.YtebgibjokljlbaaK96
import Derived.Test.YtebgibjokljlbaaK99
import Derived.Test.YtebgibjokljlbaaKA1
namespace Go.Proofs.Ytebgibjokljlbaa
open Go.RowKit
set_option linter.unusedVariables false
set_option linter.unusedSimpArgs false
set_option maxRecDepth 8000
theorem wf_smlD {n : Int} (h0 : -2000000 ≤ n) (h1 : n ≤ 2000000) : (Lit.int .i64 n).wf = true := by
  simp [Lit.wf, IntKind.min, IntKind.max, IntKind.signed, IntKind.bits]; omega
theorem Seg.wf_bd {s : Seg} (l0 : -2000000 ≤ s.path) (u0 : s.path ≤ 2000000) (l1 : -2000000 ≤ s.frm) (u1 : s.frm ≤ 2000000) (l2 : -2000000 ≤ s.seq) (u2 : s.seq ≤ 2000000) (l3 : -2000000 ≤ s.ack) (u3 : s.ack ≤ 2000000) (l4 : -2000000 ≤ s.fin) (u4 : s.fin ≤ 2000000) (l5 : -2000000 ≤ s.opt) (u5 : s.opt ≤ 2000000) (l6 : -2000000 ≤ s.a) (u6 : s.a ≤ 2000000) (l7 : -2000000 ≤ s.b) (u7 : s.b ≤ 2000000) : s.Wf :=
  ⟨wf_smlD l0 u0, wf_smlD l1 u1, wf_smlD l2 u2, wf_smlD l3 u3, wf_smlD l4 u4, wf_smlD l5 u5, wf_smlD l6 u6, wf_smlD l7 u7⟩
/-- A drawn segment as data. -/
def dsOf (s : Seg) : DSegm := (s.path, s.frm, s.syn, s.ackd, s.rst, s.seq, s.ack, s.fin, s.opt, s.a, s.b, s.load, ())
theorem seg_draw {w : World} {lo : Nat} {s : Seg} {v : Value} (hw : s.Wf) (ho : OB w lo v s.load) : Own w lo w.heap.size shSegm (dsOf s) (#[.int .i64 s.path, .int .i64 s.frm, .bool s.syn, .bool s.ackd, .bool s.rst, .int .i64 s.seq, .int .i64 s.ack, .int .i64 s.fin, .int .i64 s.opt, .int .i64 s.a, .int .i64 s.b, v] : Array Value).toList := by
  obtain ⟨y0, y1, y2, y3, y4, y5, y6, y7, y8, y9, y10, ld⟩ := s
  obtain ⟨bs, h1, h2, h3⟩ := own_bytes ho (Nat.le_refl _)
  exact ⟨bs, mk_Segm h1 hw.path hw.frm hw.seq hw.ack hw.fin hw.opt hw.a hw.b, h2, h3⟩
theorem Seg.wf_rg {s : Seg} (h : s.Rg) (h2 : 0 ≤ s.ack ∧ s.ack < 300) : s.Wf := by
  unfold Seg.Rg at h
  apply Seg.wf_bd <;> omega
set_option maxRecDepth 8000 in
set_option maxHeartbeats 4000000 in
theorem sBentW (sb : Nat) (a : Option Addr) (len cap : Nat) (zs : List Int) (K : Int) (w : World)
    (hs : Src w sb (.slice a len cap) K) (hr : BRow .u8 w a len cap zs) (hl : RowLt sb a zs) (hK : K ≤ 700000) :
    Calls Try.prog 59 #[.pointer (some ⟨sb, 0, none⟩)] w fun e w' => ∃ (s : Seg) (v : Value), e = .returned (.agg #[.int .i64 s.path, .int .i64 s.frm, .bool s.syn, .bool s.ackd, .bool s.rst, .int .i64 s.seq, .int .i64 s.ack, .int .i64 s.fin, .int .i64 s.opt, .int .i64 s.a, .int .i64 s.b, v]) ∧ OB w' w.heap.size v s.load ∧ s.load.length ≤ 9 ∧ s.Wf ∧ (0 ≤ s.ack ∧ s.ack < 300) ∧ Dr sb w w' ∧ Src w' sb (.slice a len cap) (K + 70) := by
  obtain ⟨i0, hi, hz0, hz1, hz2⟩ := info_parts info_u8
  have HI : Hid _ := And.intro hi (And.intro hz0 (And.intro hz1 hz2))
  clear hi hz0 hz1 hz2
  have hlt := hs.lt
  have HR : Hid (∀ W, Dr sb w W → BRow .u8 W a len cap zs) := fun W h => hr.below hl (h.below (Nat.le_of_lt hlt))
  have HS : Hid _ := hs
  clear hr hs
  go_enter Try.func59, Try.ntmps59
  go_wp2_with fail
  obtain ⟨W0, hW0⟩ : ∃ W0, w.alloc (.cells zSeg 48) = W0 := ⟨_, rfl⟩
  have D0 : Hid (Dr sb w W0) := by rw [← hW0]; exact (Dr.refl _ _).then ((Below.refl _ _).alloc (Nat.le_refl _) _) (Nat.le_refl _)
  have S0 : Hid (Src W0 sb (.slice a len cap) K) := by rw [← hW0]; exact HS.out.alloc _
  have C0 : Hid (∀ o, W0.cell? ⟨w.heap.size, o, none⟩ = zSeg[o]? ∧ W0.frozen? ⟨w.heap.size, o, none⟩ = false) := by rw [← hW0]; intro o; exact ⟨by simp [go_sem], by simp [go_sem]⟩
  have z0 : W0.heap.size = w.heap.size + 1 := by rw [← hW0]; simp
  unfold zSeg at hW0
  simp only [hW0]
  clear hW0
  refine (sSeg sb a len cap zs _ W0 S0.out (HR.out _ D0.out) hl (by omega)).mono ?_
  rintro e w1 ⟨⟨y0, y1, b2, b3, b4, y5, y6, y7, y8, y9, y10, L⟩, v1, rfl, ho, hlen, hak, hrg, d1', s1'⟩
  have HRG : Hid (Seg.Rg ⟨y0, y1, b2, b3, b4, y5, y6, y7, y8, y9, y10, L⟩) := hrg
  clear hrg
  simp only at ho hlen hak ⊢
  replace hlen : L.length ≤ 9 := by omega
  obtain ⟨a1, c1, hv, -⟩ := ho.rb
  subst hv
  have D1 : Hid (Dr sb w w1) := D0.out.trans d1'
  have s1 : Hid _ := s1'
  have hne : w.heap.size ≠ sb := by omega
  have hz1 : W0.heap.size ≤ w1.heap.size := d1'.size
  have hne1 : w1.heap.size ≠ sb := by omega
  have hw1 : w.heap.size ≤ w1.heap.size := by omega
  have hw11 : w.heap.size < w1.heap.size := by omega
  have hsb1 : sb < w1.heap.size := by omega
  have C1 : Hid (∀ o, w1.cell? ⟨w.heap.size, o, none⟩ = zSeg[o]? ∧ w1.frozen? ⟨w.heap.size, o, none⟩ = false) := fun o => ⟨(d1'.cell (p := ⟨w.heap.size, o, none⟩) (by dsimp only; omega) hne).trans (C0.out o).1, (d1'.frozen (p := ⟨w.heap.size, o, none⟩) (by dsimp only; omega) hne).trans (C0.out o).2⟩
  have O1 : Hid _ := ho
  have HA : Hid (0 ≤ y6 ∧ y6 < 300) := hak
  have HL : Hid (L.length ≤ 9) := hlen
  clear ho hlen hak d1' s1' C0 D0 S0 HS
  generalize hN : L.length = N at *
  have HN : Hid (L.length = N) := hN
  clear hN
  go_wp2_with fail
  refine (sNext sb a len cap zs _ 18 _ (s1.out.alloc _) (HR.out _ (D1.out.then ((Below.refl _ _).alloc (Nat.le_refl _) _) hw1)) hl (by omega) (by omega)).mono ?_
  rintro e w2 ⟨x, rfl, p2, q2, st, s2'⟩
  have s2 : Hid _ := s2'
  have D2 : Hid (Dr sb w w2) := (D1.out.then ((Below.refl _ _).alloc (Nat.le_refl _) _) hw1).trans st.dr
  have z2 : w1.heap.size < w2.heap.size := by have := st.size; simp at this; omega
  have y2 : w.heap.size < w2.heap.size := by omega
  have g2 : ∀ o, w2.cell? ⟨w1.heap.size, o, none⟩ = (#[.int .i64 y0, .int .i64 y1, .bool b2, .bool b3, .bool b4, .int .i64 y5, .int .i64 y6, .int .i64 y7, .int .i64 y8, .int .i64 y9, .int .i64 y10, .slice a1 N c1] : Array Value)[o]? := fun o => by rw [st.cell hne1]; simp [go_sem]
  have f2 : ∀ o, w2.frozen? ⟨w1.heap.size, o, none⟩ = false := fun o => by rw [st.frozen hne1]; simp [go_sem]
  have r2 : ∀ o, w2.cell? ⟨w.heap.size, o, none⟩ = zSeg[o]? := fun o => by rw [st.cell hne, ← (C1.out o).1]; exact (((Below.refl _ _).alloc (Nat.le_refl _) _).cell (by dsimp only; omega))
  have rf2 : ∀ o, w2.frozen? ⟨w.heap.size, o, none⟩ = false := fun o => by rw [st.frozen hne, ← (C1.out o).2]; exact (((Below.refl _ _).alloc (Nat.le_refl _) _).frozen (by dsimp only; omega))
  have E2 : Hid (∀ g, W0.heap.size ≤ g → g < w1.heap.size → w2.heap[g]? = w1.heap[g]?) := fun g h1 h2 => (st.block g (by omega)).trans (((Below.refl _ _).alloc (Nat.le_refl _) _).block g h2)
  unfold zSeg at r2
  clear st s2' s1 C1
  by_cases h0 : x = 0
  · have h0a : (x == 0) = true := by simp [h0]
    go_wp2_with fail
    have hp := sPickD sb a len cap zs _ [-1, 3] 2 w2 s2.out (HR.out _ D2.out) hl (by omega) (by simp) (by simp)
    simp only [List.length_cons, List.length_nil, List.map_cons, List.map_nil, Nat.zero_add, Nat.reduceAdd] at hp
    refine hp.mono ?_
    clear hp
    rintro e w3 ⟨r, rfl, hrm, st, s3'⟩
    have HRM : Hid (-1 ≤ r ∧ r ≤ 1000001) := by
      show _ ∧ _
      simp only [List.mem_cons, List.not_mem_nil, or_false] at hrm
      omega
    clear hrm
    have s3 : Hid _ := s3'
    have D3 : Hid (Dr sb w w3) := D2.out.trans st
    have z3 : w1.heap.size < w3.heap.size := by have := st.size; omega
    have y3 : w.heap.size < w3.heap.size := by omega
    have g3 : ∀ o, w3.cell? ⟨w1.heap.size, o, none⟩ = (#[.int .i64 y0, .int .i64 y1, .bool b2, .bool b3, .bool b4, .int .i64 y5, .int .i64 y6, .int .i64 y7, .int .i64 y8, .int .i64 y9, .int .i64 y10, .slice a1 N c1] : Array Value)[o]? := fun o => by rw [st.cell z2 hne1]; exact g2 o
    have f3 : ∀ o, w3.frozen? ⟨w1.heap.size, o, none⟩ = false := fun o => by rw [st.frozen z2 hne1]; exact f2 o
    have r3 : ∀ o, w3.cell? ⟨w.heap.size, o, none⟩ = (#[.int .i64 0, .int .i64 0, .bool false, .bool false, .bool false, .int .i64 0, .int .i64 0, .int .i64 0, .int .i64 0, .int .i64 0, .int .i64 0, .slice none 0 0] : Array Value)[o]? := fun o => by rw [st.cell y2 hne]; exact r2 o
    have rf3 : ∀ o, w3.frozen? ⟨w.heap.size, o, none⟩ = false := fun o => by rw [st.frozen y2 hne]; exact rf2 o
    have E3 : Hid (∀ g, W0.heap.size ≤ g → g < w1.heap.size → w3.heap[g]? = w1.heap[g]?) := fun g h1 h2 => (st.block g (by omega) (by omega)).trans (E2.out g h1 h2)
    clear st s3' g2 f2 r2 rf2 s2 E2
    go_wp2_with fail
    refine bodyPost_ret (v := .agg #[.int .i64 r, .int .i64 y1, .bool b2, .bool b3, .bool b4, .int .i64 y5, .int .i64 y6, .int .i64 y7, .int .i64 y8, .int .i64 y9, .int .i64 y10, .slice a1 N c1]) (by simp [results, Try.results59, go_sem, g3, r3, f3, rf3, Nat.ne_of_lt hw11, Nat.ne_of_gt hw11]) rfl ⟨⟨r, y1, b2, b3, b4, y5, y6, y7, y8, y9, y10, L⟩, .slice a1 N c1, rfl, ?_, ?_, (by have h1 := HRG.out; have h2 := HA.out; (try have h3 := HRM.out); simp only [Seg.Rg] at h1; apply Seg.wf_bd <;> dsimp only <;> omega), HA.out, ?_, ?_⟩
    · refine OB.mono (base := W0.heap.size) (OB.off O1.out fun g hg hg' => ?_) (by omega)
      rw [← E3.out g hg hg']
      repeat rw [Below.heap_setCell _ _ _ _ (by dsimp only; omega)]
    · show L.length ≤ 9; rw [HN.out]; exact HL.out
    · exact D3.out.then (B := w.heap.size) (by go_grown) (Nat.le_refl _)
    · exact (s3.out.below (B := w.heap.size) (by go_grown) hlt).mono (by omega)
  have h0a : (x == 0) = false := by simp [h0]
  by_cases h1 : x = 1
  · have h1a : (x == 1) = true := by simp [h1]
    go_wp2_with fail
    have hp := sPickD sb a len cap zs _ [-1, 65535, 65536] 2 w2 s2.out (HR.out _ D2.out) hl (by omega) (by simp) (by simp)
    simp only [List.length_cons, List.length_nil, List.map_cons, List.map_nil, Nat.zero_add, Nat.reduceAdd] at hp
    refine hp.mono ?_
    clear hp
    rintro e w3 ⟨r, rfl, hrm, st, s3'⟩
    have HRM : Hid (-1 ≤ r ∧ r ≤ 1000001) := by
      show _ ∧ _
      simp only [List.mem_cons, List.not_mem_nil, or_false] at hrm
      omega
    clear hrm
    have s3 : Hid _ := s3'
    have D3 : Hid (Dr sb w w3) := D2.out.trans st
    have z3 : w1.heap.size < w3.heap.size := by have := st.size; omega
    have y3 : w.heap.size < w3.heap.size := by omega
    have g3 : ∀ o, w3.cell? ⟨w1.heap.size, o, none⟩ = (#[.int .i64 y0, .int .i64 y1, .bool b2, .bool b3, .bool b4, .int .i64 y5, .int .i64 y6, .int .i64 y7, .int .i64 y8, .int .i64 y9, .int .i64 y10, .slice a1 N c1] : Array Value)[o]? := fun o => by rw [st.cell z2 hne1]; exact g2 o
    have f3 : ∀ o, w3.frozen? ⟨w1.heap.size, o, none⟩ = false := fun o => by rw [st.frozen z2 hne1]; exact f2 o
    have r3 : ∀ o, w3.cell? ⟨w.heap.size, o, none⟩ = (#[.int .i64 0, .int .i64 0, .bool false, .bool false, .bool false, .int .i64 0, .int .i64 0, .int .i64 0, .int .i64 0, .int .i64 0, .int .i64 0, .slice none 0 0] : Array Value)[o]? := fun o => by rw [st.cell y2 hne]; exact r2 o
    have rf3 : ∀ o, w3.frozen? ⟨w.heap.size, o, none⟩ = false := fun o => by rw [st.frozen y2 hne]; exact rf2 o
    have E3 : Hid (∀ g, W0.heap.size ≤ g → g < w1.heap.size → w3.heap[g]? = w1.heap[g]?) := fun g h1 h2 => (st.block g (by omega) (by omega)).trans (E2.out g h1 h2)
    clear st s3' g2 f2 r2 rf2 s2 E2
    go_wp2_with fail
    refine bodyPost_ret (v := .agg #[.int .i64 y0, .int .i64 y1, .bool b2, .bool b3, .bool b4, .int .i64 r, .int .i64 y6, .int .i64 y7, .int .i64 y8, .int .i64 y9, .int .i64 y10, .slice a1 N c1]) (by simp [results, Try.results59, go_sem, g3, r3, f3, rf3, Nat.ne_of_lt hw11, Nat.ne_of_gt hw11]) rfl ⟨⟨y0, y1, b2, b3, b4, r, y6, y7, y8, y9, y10, L⟩, .slice a1 N c1, rfl, ?_, ?_, (by have h1 := HRG.out; have h2 := HA.out; (try have h3 := HRM.out); simp only [Seg.Rg] at h1; apply Seg.wf_bd <;> dsimp only <;> omega), HA.out, ?_, ?_⟩
    · refine OB.mono (base := W0.heap.size) (OB.off O1.out fun g hg hg' => ?_) (by omega)
      rw [← E3.out g hg hg']
      repeat rw [Below.heap_setCell _ _ _ _ (by dsimp only; omega)]
    · show L.length ≤ 9; rw [HN.out]; exact HL.out
    · exact D3.out.then (B := w.heap.size) (by go_grown) (Nat.le_refl _)
    · exact (s3.out.below (B := w.heap.size) (by go_grown) hlt).mono (by omega)
  have h1a : (x == 1) = false := by simp [h1]
  by_cases h2 : x = 2
  · have h2a : (x == 2) = true := by simp [h2]
    go_wp2_with fail
    have hp := sPickD sb a len cap zs _ [-1, 1000, 1001] 2 w2 s2.out (HR.out _ D2.out) hl (by omega) (by simp) (by simp)
    simp only [List.length_cons, List.length_nil, List.map_cons, List.map_nil, Nat.zero_add, Nat.reduceAdd] at hp
    refine hp.mono ?_
    clear hp
    rintro e w3 ⟨r, rfl, hrm, st, s3'⟩
    have HRM : Hid (-1 ≤ r ∧ r ≤ 1000001) := by
      show _ ∧ _
      simp only [List.mem_cons, List.not_mem_nil, or_false] at hrm
      omega
    clear hrm
    have s3 : Hid _ := s3'
    have D3 : Hid (Dr sb w w3) := D2.out.trans st
    have z3 : w1.heap.size < w3.heap.size := by have := st.size; omega
    have y3 : w.heap.size < w3.heap.size := by omega
    have g3 : ∀ o, w3.cell? ⟨w1.heap.size, o, none⟩ = (#[.int .i64 y0, .int .i64 y1, .bool b2, .bool b3, .bool b4, .int .i64 y5, .int .i64 y6, .int .i64 y7, .int .i64 y8, .int .i64 y9, .int .i64 y10, .slice a1 N c1] : Array Value)[o]? := fun o => by rw [st.cell z2 hne1]; exact g2 o
    have f3 : ∀ o, w3.frozen? ⟨w1.heap.size, o, none⟩ = false := fun o => by rw [st.frozen z2 hne1]; exact f2 o
    have r3 : ∀ o, w3.cell? ⟨w.heap.size, o, none⟩ = (#[.int .i64 0, .int .i64 0, .bool false, .bool false, .bool false, .int .i64 0, .int .i64 0, .int .i64 0, .int .i64 0, .int .i64 0, .int .i64 0, .slice none 0 0] : Array Value)[o]? := fun o => by rw [st.cell y2 hne]; exact r2 o
    have rf3 : ∀ o, w3.frozen? ⟨w.heap.size, o, none⟩ = false := fun o => by rw [st.frozen y2 hne]; exact rf2 o
    have E3 : Hid (∀ g, W0.heap.size ≤ g → g < w1.heap.size → w3.heap[g]? = w1.heap[g]?) := fun g h1 h2 => (st.block g (by omega) (by omega)).trans (E2.out g h1 h2)
    clear st s3' g2 f2 r2 rf2 s2 E2
    go_wp2_with fail
    refine bodyPost_ret (v := .agg #[.int .i64 y0, .int .i64 y1, .bool b2, .bool b3, .bool b4, .int .i64 y5, .int .i64 y6, .int .i64 r, .int .i64 y8, .int .i64 y9, .int .i64 y10, .slice a1 N c1]) (by simp [results, Try.results59, go_sem, g3, r3, f3, rf3, Nat.ne_of_lt hw11, Nat.ne_of_gt hw11]) rfl ⟨⟨y0, y1, b2, b3, b4, y5, y6, r, y8, y9, y10, L⟩, .slice a1 N c1, rfl, ?_, ?_, (by have h1 := HRG.out; have h2 := HA.out; (try have h3 := HRM.out); simp only [Seg.Rg] at h1; apply Seg.wf_bd <;> dsimp only <;> omega), HA.out, ?_, ?_⟩
    · refine OB.mono (base := W0.heap.size) (OB.off O1.out fun g hg hg' => ?_) (by omega)
      rw [← E3.out g hg hg']
      repeat rw [Below.heap_setCell _ _ _ _ (by dsimp only; omega)]
    · show L.length ≤ 9; rw [HN.out]; exact HL.out
    · exact D3.out.then (B := w.heap.size) (by go_grown) (Nat.le_refl _)
    · exact (s3.out.below (B := w.heap.size) (by go_grown) hlt).mono (by omega)
  have h2a : (x == 2) = false := by simp [h2]
  by_cases h3 : x = 3
  · have h3a : (x == 3) = true := by simp [h3]
    go_wp2_with fail
    have hp := sPickD sb a len cap zs _ [-1, 5, 0] 2 w2 s2.out (HR.out _ D2.out) hl (by omega) (by simp) (by simp)
    simp only [List.length_cons, List.length_nil, List.map_cons, List.map_nil, Nat.zero_add, Nat.reduceAdd] at hp
    refine hp.mono ?_
    clear hp
    rintro e w3 ⟨r, rfl, hrm, st, s3'⟩
    have HRM : Hid (-1 ≤ r ∧ r ≤ 1000001) := by
      show _ ∧ _
      simp only [List.mem_cons, List.not_mem_nil, or_false] at hrm
      omega
    clear hrm
    have s3 : Hid _ := s3'
    have D3 : Hid (Dr sb w w3) := D2.out.trans st
    have z3 : w1.heap.size < w3.heap.size := by have := st.size; omega
    have y3 : w.heap.size < w3.heap.size := by omega
    have g3 : ∀ o, w3.cell? ⟨w1.heap.size, o, none⟩ = (#[.int .i64 y0, .int .i64 y1, .bool b2, .bool b3, .bool b4, .int .i64 y5, .int .i64 y6, .int .i64 y7, .int .i64 y8, .int .i64 y9, .int .i64 y10, .slice a1 N c1] : Array Value)[o]? := fun o => by rw [st.cell z2 hne1]; exact g2 o
    have f3 : ∀ o, w3.frozen? ⟨w1.heap.size, o, none⟩ = false := fun o => by rw [st.frozen z2 hne1]; exact f2 o
    have r3 : ∀ o, w3.cell? ⟨w.heap.size, o, none⟩ = (#[.int .i64 0, .int .i64 0, .bool false, .bool false, .bool false, .int .i64 0, .int .i64 0, .int .i64 0, .int .i64 0, .int .i64 0, .int .i64 0, .slice none 0 0] : Array Value)[o]? := fun o => by rw [st.cell y2 hne]; exact r2 o
    have rf3 : ∀ o, w3.frozen? ⟨w.heap.size, o, none⟩ = false := fun o => by rw [st.frozen y2 hne]; exact rf2 o
    have E3 : Hid (∀ g, W0.heap.size ≤ g → g < w1.heap.size → w3.heap[g]? = w1.heap[g]?) := fun g h1 h2 => (st.block g (by omega) (by omega)).trans (E2.out g h1 h2)
    clear st s3' g2 f2 r2 rf2 s2 E2
    go_wp2_with fail
    refine bodyPost_ret (v := .agg #[.int .i64 y0, .int .i64 y1, .bool b2, .bool b3, .bool b4, .int .i64 y5, .int .i64 y6, .int .i64 y7, .int .i64 r, .int .i64 y9, .int .i64 y10, .slice a1 N c1]) (by simp [results, Try.results59, go_sem, g3, r3, f3, rf3, Nat.ne_of_lt hw11, Nat.ne_of_gt hw11]) rfl ⟨⟨y0, y1, b2, b3, b4, y5, y6, y7, r, y9, y10, L⟩, .slice a1 N c1, rfl, ?_, ?_, (by have h1 := HRG.out; have h2 := HA.out; (try have h3 := HRM.out); simp only [Seg.Rg] at h1; apply Seg.wf_bd <;> dsimp only <;> omega), HA.out, ?_, ?_⟩
    · refine OB.mono (base := W0.heap.size) (OB.off O1.out fun g hg hg' => ?_) (by omega)
      rw [← E3.out g hg hg']
      repeat rw [Below.heap_setCell _ _ _ _ (by dsimp only; omega)]
    · show L.length ≤ 9; rw [HN.out]; exact HL.out
    · exact D3.out.then (B := w.heap.size) (by go_grown) (Nat.le_refl _)
    · exact (s3.out.below (B := w.heap.size) (by go_grown) hlt).mono (by omega)
  have h3a : (x == 3) = false := by simp [h3]
  by_cases h4 : x = 4
  · have h4a : (x == 4) = true := by simp [h4]
    go_wp2_with fail
    have hp := sPickD sb a len cap zs _ [-1, 1000000, 1000001] 2 w2 s2.out (HR.out _ D2.out) hl (by omega) (by simp) (by simp)
    simp only [List.length_cons, List.length_nil, List.map_cons, List.map_nil, Nat.zero_add, Nat.reduceAdd] at hp
    refine hp.mono ?_
    clear hp
    rintro e w3 ⟨r, rfl, hrm, st, s3'⟩
    have HRM : Hid (-1 ≤ r ∧ r ≤ 1000001) := by
      show _ ∧ _
      simp only [List.mem_cons, List.not_mem_nil, or_false] at hrm
      omega
    clear hrm
    have s3 : Hid _ := s3'
    have D3 : Hid (Dr sb w w3) := D2.out.trans st
    have z3 : w1.heap.size < w3.heap.size := by have := st.size; omega
    have y3 : w.heap.size < w3.heap.size := by omega
    have g3 : ∀ o, w3.cell? ⟨w1.heap.size, o, none⟩ = (#[.int .i64 y0, .int .i64 y1, .bool b2, .bool b3, .bool b4, .int .i64 y5, .int .i64 y6, .int .i64 y7, .int .i64 y8, .int .i64 y9, .int .i64 y10, .slice a1 N c1] : Array Value)[o]? := fun o => by rw [st.cell z2 hne1]; exact g2 o
    have f3 : ∀ o, w3.frozen? ⟨w1.heap.size, o, none⟩ = false := fun o => by rw [st.frozen z2 hne1]; exact f2 o
    have r3 : ∀ o, w3.cell? ⟨w.heap.size, o, none⟩ = (#[.int .i64 0, .int .i64 0, .bool false, .bool false, .bool false, .int .i64 0, .int .i64 0, .int .i64 0, .int .i64 0, .int .i64 0, .int .i64 0, .slice none 0 0] : Array Value)[o]? := fun o => by rw [st.cell y2 hne]; exact r2 o
    have rf3 : ∀ o, w3.frozen? ⟨w.heap.size, o, none⟩ = false := fun o => by rw [st.frozen y2 hne]; exact rf2 o
    have E3 : Hid (∀ g, W0.heap.size ≤ g → g < w1.heap.size → w3.heap[g]? = w1.heap[g]?) := fun g h1 h2 => (st.block g (by omega) (by omega)).trans (E2.out g h1 h2)
    clear st s3' g2 f2 r2 rf2 s2 E2
    go_wp2_with fail
    refine bodyPost_ret (v := .agg #[.int .i64 y0, .int .i64 y1, .bool b2, .bool b3, .bool b4, .int .i64 y5, .int .i64 y6, .int .i64 y7, .int .i64 y8, .int .i64 r, .int .i64 y10, .slice a1 N c1]) (by simp [results, Try.results59, go_sem, g3, r3, f3, rf3, Nat.ne_of_lt hw11, Nat.ne_of_gt hw11]) rfl ⟨⟨y0, y1, b2, b3, b4, y5, y6, y7, y8, r, y10, L⟩, .slice a1 N c1, rfl, ?_, ?_, (by have h1 := HRG.out; have h2 := HA.out; (try have h3 := HRM.out); simp only [Seg.Rg] at h1; apply Seg.wf_bd <;> dsimp only <;> omega), HA.out, ?_, ?_⟩
    · refine OB.mono (base := W0.heap.size) (OB.off O1.out fun g hg hg' => ?_) (by omega)
      rw [← E3.out g hg hg']
      repeat rw [Below.heap_setCell _ _ _ _ (by dsimp only; omega)]
    · show L.length ≤ 9; rw [HN.out]; exact HL.out
    · exact D3.out.then (B := w.heap.size) (by go_grown) (Nat.le_refl _)
    · exact (s3.out.below (B := w.heap.size) (by go_grown) hlt).mono (by omega)
  have h4a : (x == 4) = false := by simp [h4]
  by_cases h5 : x = 5
  · have h5a : (x == 5) = true := by simp [h5]
    go_wp2_with (at_make; refine wpList_make_full w2 rfl _ _ 22 rfl w2.heap.size 5 i0 (.int .u8 0) 1 Try.underlying22 HI.out.1 HI.out.2.1 HI.out.2.2.1 .i64 .i64 _ _ 9 (by rfl) (by rfl) rfl rfl (by rw [HI.out.2.2.2]; omega) (by unfold maxLen; omega) (Nat.le_refl _) ?_; intro w3 hown hgr; have hb3 : Below w2.heap.size w2 w3 := (Below.refl _ _).grown hgr (Nat.le_refl _) (by intro k hk; cases hk); have s3 : Hid _ := s2.out.below hb3 (by omega); have D3 : Hid (Dr sb w w3) := D2.out.then hb3 (by omega); have z3 : w1.heap.size < w3.heap.size := Nat.lt_of_lt_of_le z2 hb3.size; have y3 : w.heap.size < w3.heap.size := (by omega); have g3 : ∀ o, w3.cell? ⟨w1.heap.size, o, none⟩ = (#[.int .i64 y0, .int .i64 y1, .bool b2, .bool b3, .bool b4, .int .i64 y5, .int .i64 y6, .int .i64 y7, .int .i64 y8, .int .i64 y9, .int .i64 y10, .slice a1 N c1] : Array Value)[o]? := fun o => (hb3.cell z2).trans (g2 o); have f3 : ∀ o, w3.frozen? ⟨w1.heap.size, o, none⟩ = false := fun o => (hb3.frozen z2).trans (f2 o); have r3 : ∀ o, w3.cell? ⟨w.heap.size, o, none⟩ = (#[.int .i64 0, .int .i64 0, .bool false, .bool false, .bool false, .int .i64 0, .int .i64 0, .int .i64 0, .int .i64 0, .int .i64 0, .int .i64 0, .slice none 0 0] : Array Value)[o]? := fun o => (hb3.cell y2).trans (r2 o); have rf3 : ∀ o, w3.frozen? ⟨w.heap.size, o, none⟩ = false := fun o => (hb3.frozen y2).trans (rf2 o); have O3 : Hid (OB w3 w2.heap.size (.slice (some ⟨w2.heap.size, 0, none⟩) 9 9) (List.replicate 9 0)) := ⟨by (have e : (madeCells (Value.int .u8 0).cells (9 * 1)).toList = (List.replicate 9 (0 : Int)).map (Value.int .u8) := by simp [Value.cells, toList_madeCells_one]); rw [← e]; exact hown, by simp⟩; clear hown hgr hb3 g2 f2 r2 rf2)
    refine bodyPost_ret (v := .agg #[.int .i64 y0, .int .i64 y1, .bool b2, .bool b3, .bool b4, .int .i64 y5, .int .i64 y6, .int .i64 y7, .int .i64 y8, .int .i64 y9, .int .i64 y10, .slice (some ⟨w2.heap.size, 0, none⟩) 9 9]) (by simp [results, Try.results59, go_sem, g3, r3, f3, rf3, Nat.ne_of_lt hw11, Nat.ne_of_gt hw11]) rfl ⟨⟨y0, y1, b2, b3, b4, y5, y6, y7, y8, y9, y10, List.replicate 9 0⟩, .slice (some ⟨w2.heap.size, 0, none⟩) 9 9, rfl, ?_, ?_, (by have h1 := HRG.out; have h2 := HA.out; (try have h3 := HRM.out); simp only [Seg.Rg] at h1; apply Seg.wf_bd <;> dsimp only <;> omega), HA.out, ?_, ?_⟩
    · refine OB.mono (base := w2.heap.size) (OB.keeps O3.out fun g hg => ?_) (by omega)
      repeat rw [Below.heap_setCell _ _ _ _ (by dsimp only; omega)]
    · simp
    · exact D3.out.then (B := w.heap.size) (by go_grown) (Nat.le_refl _)
    · exact (s3.out.below (B := w.heap.size) (by go_grown) hlt).mono (by omega)
  have h5a : (x == 5) = false := by simp [h5]
  by_cases h6 : x = 6
  · have h6a : (x == 6) = true := by simp [h6]
    go_wp2_with fail
    refine bodyPost_ret (v := .agg #[.int .i64 y0, .int .i64 y1, .bool (!b2), .bool b3, .bool b4, .int .i64 y5, .int .i64 y6, .int .i64 y7, .int .i64 y8, .int .i64 y9, .int .i64 y10, .slice a1 N c1]) (by simp [results, Try.results59, go_sem, g2, r2, f2, rf2, Nat.ne_of_lt hw11, Nat.ne_of_gt hw11]) rfl ⟨⟨y0, y1, (!b2), b3, b4, y5, y6, y7, y8, y9, y10, L⟩, .slice a1 N c1, rfl, ?_, ?_, (by have h1 := HRG.out; have h2 := HA.out; (try have h3 := HRM.out); simp only [Seg.Rg] at h1; apply Seg.wf_bd <;> dsimp only <;> omega), HA.out, ?_, ?_⟩
    · refine OB.mono (base := W0.heap.size) (OB.off O1.out fun g hg hg' => ?_) (by omega)
      rw [← E2.out g hg hg']
      repeat rw [Below.heap_setCell _ _ _ _ (by dsimp only; omega)]
    · show L.length ≤ 9; rw [HN.out]; exact HL.out
    · exact D2.out.then (B := w.heap.size) (by go_grown) (Nat.le_refl _)
    · exact (s2.out.below (B := w.heap.size) (by go_grown) hlt).mono (by omega)
  have h6a : (x == 6) = false := by simp [h6]
  go_wp2_with fail
  refine bodyPost_ret (v := .agg #[.int .i64 y0, .int .i64 y1, .bool b2, .bool b3, .bool b4, .int .i64 y5, .int .i64 y6, .int .i64 y7, .int .i64 y8, .int .i64 y9, .int .i64 y10, .slice a1 N c1]) (by simp [results, Try.results59, go_sem, g2, r2, f2, rf2, Nat.ne_of_lt hw11, Nat.ne_of_gt hw11]) rfl ⟨⟨y0, y1, b2, b3, b4, y5, y6, y7, y8, y9, y10, L⟩, .slice a1 N c1, rfl, ?_, ?_, (by have h1 := HRG.out; have h2 := HA.out; (try have h3 := HRM.out); simp only [Seg.Rg] at h1; apply Seg.wf_bd <;> dsimp only <;> omega), HA.out, ?_, ?_⟩
  · refine OB.mono (base := W0.heap.size) (OB.off O1.out fun g hg hg' => ?_) (by omega)
    rw [← E2.out g hg hg']
    repeat rw [Below.heap_setCell _ _ _ _ (by dsimp only; omega)]
  · show L.length ≤ 9; rw [HN.out]; exact HL.out
  · exact D2.out.then (B := w.heap.size) (by go_grown) (Nat.le_refl _)
  · exact (s2.out.below (B := w.heap.size) (by go_grown) hlt).mono (by omega)
end Go.Proofs.Ytebgibjokljlbaa

/- A net drawn: it reads, is small, and nothing that was in memory turns but the source; no condition. Written by mkdrnet.py. -/
namespace Go.Proofs.Ytebgibjokljlbaa
open Go.RowKit
set_option linter.unusedVariables false
set_option linter.unusedSimpArgs false
set_option maxRecDepth 8000
/-- Where a net that is being drawn stands. -/
structure NI (w W : World) (sb : Nat) (sv : Value) (K : Int) (dead : List Bool) (bag : List DSegm) (va : Option Addr) (vc : Nat) : Prop where
  kR : ∀ o, W.cell? ⟨w.heap.size, o, none⟩ = (#[.slice none 0 0, .slice none 0 0] : Array Value)[o]?
  fR : ∀ o, W.frozen? ⟨w.heap.size, o, none⟩ = false
  kQ : ∀ o, W.cell? ⟨w.heap.size + 2, o, none⟩ = (#[.slice va bag.length vc, .slice (some ⟨w.heap.size + 1, 0, none⟩) 3 3] : Array Value)[o]?
  tQ : ∃ cur, W.heap[w.heap.size + 2]? = some (.cells cur 44 (0, 0))
  z : w.heap.size + 2 < W.heap.size
  xd : Own W (w.heap.size + 1) (w.heap.size + 2) (bls 4) dead [.slice (some ⟨w.heap.size + 1, 0, none⟩) 3 3]
  xo : Own W (w.heap.size + 3) W.heap.size shSegms bag [.slice va bag.length vc]
  dr : Dr sb w W
  src : Src W sb sv K
  small : ∀ y ∈ bag, totSegm y ≤ 9
  d3 : dead.length = 3
  b60 : bag.length ≤ 60
theorem NI.drw {w W W' : World} {sb : Nat} {sv : Value} {K K' : Int} {dead : List Bool} {bag : List DSegm} {va : Option Addr} {vc : Nat} (h : NI w W sb sv K dead bag va vc) (hd : Dr sb W W') (hs : Src W' sb sv K') (hlt : sb < w.heap.size) : NI w W' sb sv K' dead bag va vc :=
  have hz := h.z
  ⟨fun o => (hd.cell (p := ⟨w.heap.size, o, none⟩) (by dsimp only; omega) (by dsimp only; omega)).trans (h.kR o), fun o => (hd.frozen (p := ⟨w.heap.size, o, none⟩) (by dsimp only; omega) (by dsimp only; omega)).trans (h.fR o), fun o => (hd.cell (p := ⟨w.heap.size + 2, o, none⟩) (by dsimp only; omega) (by dsimp only; omega)).trans (h.kQ o), ty_below h.tQ (hd.block _ hz (by omega)), Nat.lt_of_lt_of_le hz hd.size,
    Own.keep h.xd (fun b h1 h2 => hd.block b (by omega) (by omega)), Own.mono (Own.keep h.xo (fun b h1 h2 => hd.block b h2 (by omega))) (Nat.le_refl _) hd.size, h.dr.trans hd, hs, h.small, h.d3, h.b60⟩
theorem NI.bel {w W W' : World} {sb : Nat} {sv : Value} {K : Int} {dead : List Bool} {bag : List DSegm} {va : Option Addr} {vc : Nat} (h : NI w W sb sv K dead bag va vc) (hb : Below W.heap.size W W') (hlt : sb < w.heap.size) : NI w W' sb sv K dead bag va vc :=
  h.drw ((Dr.refl _ _).then hb (Nat.le_refl _)) (h.src.below hb h.src.lt) hlt
theorem put1_small {dead : List Bool} {acc : List DSegm} {x : DSegm} (h : ∀ y ∈ acc, totSegm y ≤ 9) (hx : totSegm x ≤ 9) : ∀ y ∈ put1 dead acc x, totSegm y ≤ 9 := by
  unfold put1
  split
  · intro y hy
    rcases List.mem_append.1 hy with hy | hy
    · exact h y hy
    · rw [List.mem_singleton] at hy; subst hy; exact hx
  · exact h
theorem put1_60 {dead : List Bool} {acc : List DSegm} {x : DSegm} (h : acc.length ≤ 60) : (put1 dead acc x).length ≤ 60 := by
  unfold put1
  split
  · rename_i hc; rw [List.length_append, List.length_singleton]; omega
  · exact h
theorem tot_bound {l : List DSegm} (h : ∀ y ∈ l, totSegm y ≤ 9) (hl : l.length ≤ 61) : totSegms l ≤ 610 := by
  have : ∀ m : List DSegm, (∀ y ∈ m, totSegm y ≤ 9) → fsum totSegm m ≤ 9 * m.length := by
    intro m
    induction m with
    | nil => intro _; simp [fsum]
    | cons y ys ih =>
      intro hm
      have h1 := hm y (by simp)
      have h2 := ih (fun z hz => hm z (by simp [hz]))
      simp only [fsum, List.map_cons, List.sum_cons, List.length_cons] at h2 ⊢
      omega
  have h1 := this l h
  unfold totSegms
  omega
theorem ni_start {w : World} {sb : Nat} {sv : Value} {K : Int} (hs : Src w sb sv K) {W : World} (e : W = (((w.alloc (.cells #[.slice none 0 0, .slice none 0 0] 44)).alloc (.cells #[.bool false, .bool false, .bool false] 4)).alloc (.cells #[.slice none 0 0, .slice (some ⟨w.heap.size + 1, 0, none⟩) 3 3] 44))) : NI w W sb sv K [false, false, false] [] none 0 := by
  have hlt := hs.lt
  have hb : Below w.heap.size w W := by rw [e]; exact (((Below.refl _ _).alloc (Nat.le_refl _) _).alloc (by simp) _).alloc (by simp; omega) _
  have hz : W.heap.size = w.heap.size + 3 := by rw [e]; simp
  refine ⟨fun o => by rw [e]; simp [go_sem], fun o => by rw [e]; simp [go_sem], fun o => by rw [e]; simp [go_sem], ⟨_, by rw [e]; have := al_at ((w.alloc (.cells #[.slice none 0 0, .slice none 0 0] 44)).alloc (.cells #[.bool false, .bool false, .bool false] 4)) (.cells #[.slice none 0 0, .slice (some ⟨w.heap.size + 1, 0, none⟩) 3 3] 44); simpa using this⟩, by omega, ?_, by rw [hz]; exact own_segs0 _ _ _, (Dr.refl _ _).then hb (Nat.le_refl _), hs.below hb hlt, by simp, rfl, by simp⟩
  rw [e]
  have h1 := own_dead (w.alloc (.cells #[.slice none 0 0, .slice none 0 0] 44)) 4 (dead := [false, false, false]) rfl
  have h2 : (w.alloc (.cells #[.slice none 0 0, .slice none 0 0] 44)).heap.size = w.heap.size + 1 := by simp
  rw [h2] at h1
  exact Own.below h1 (by simp) ((Below.refl _ _).alloc (Nat.le_refl _) _)
theorem totSegms_snoc (l : List DSegm) (x : DSegm) : totSegms (l ++ [x]) = totSegms l + 1 + totSegm x := by
  unfold totSegms fsum
  rw [List.length_append, List.map_append, List.sum_append]
  simp
  omega
theorem tot_zero (n : Nat) : totSegms (List.replicate n shSegm.zero) = n := by
  have h : totSegm shSegm.zero = 0 := rfl
  unfold totSegms fsum
  rw [List.map_replicate, h, List.length_replicate]
  simp
theorem bls_keep {w w' : World} {l : List Bool} {b off : Nat} {n c : Nat} (h : (bls 4).Rd w w.heap.size l [.slice (some ⟨b, off, none⟩) n c]) (hk : w'.heap[b]? = w.heap[b]?) (hz : b < w'.heap.size) : (bls 4).Rd w' w'.heap.size l [.slice (some ⟨b, off, none⟩) n c] := by
  obtain ⟨a, cap, e, h1, h2, b', off', h4, h5⟩ := h
  simp only [List.cons.injEq, Value.slice.injEq, and_true] at e
  obtain ⟨rfl, rfl, rfl⟩ := e
  refine ⟨_, c, rfl, h1, h2, b, off, fun _ => ⟨rfl, hz⟩, fun i hi => ?_⟩
  have hne : l ≠ [] := by intro e; rw [e] at hi; simp at hi
  obtain ⟨q1, q2⟩ := h4 hne
  simp only [Option.some.injEq, Addr.mk.injEq, and_true] at q1
  obtain ⟨rfl, rfl⟩ := q1
  obtain ⟨cs', r1, r2, r3⟩ := h5 i hi
  exact ⟨cs', r1, fun j hj => (World.cell?_of_block hk).trans (r2 j hj), r3⟩
theorem net_rd {w W W' : World} {dead : List Bool} {bag : List DSegm} {v : Value} {off n c l2 h2 : Nat} (xd : (bls 4).Rd W W.heap.size dead [.slice (some ⟨w.heap.size + 1, off, none⟩) n c]) (xo : Own W l2 h2 shSegms bag [v]) (hk : ∀ b, w.heap.size + 1 ≤ b → W'.heap[b]? = W.heap[b]?) (a2 : w.heap.size + 1 ≤ l2) (b2 : h2 ≤ W'.heap.size) (z : w.heap.size + 1 < W'.heap.size) :
    ∀ W2 : World, (∀ b, w.heap.size + 1 ≤ b → b < W'.heap.size → W2.heap[b]? = W'.heap[b]?) → W'.heap.size ≤ W2.heap.size → shNet.Rd W2 W2.heap.size (bag, dead, ()) [v, .slice (some ⟨w.heap.size + 1, off, none⟩) n c] := fun W2 hk2 hz2 =>
  ⟨[v], [_], rfl, (Own.keep xo (fun b h1 h2 => (hk2 b (by omega) (by omega)).trans (hk b (by omega)))).rd (Nat.le_refl _), [_], [], rfl, bls_keep xd ((hk2 _ (Nat.le_refl _) z).trans (hk _ (Nat.le_refl _))) (by omega), rfl⟩
theorem bls_tail {w : World} {B : Nat} {l : List Bool} {b c : Nat} (h : (bls 4).Rd w B l [.slice (some ⟨b, 0, none⟩) 3 c]) (hl : l.length = 3) (hc : 2 ≤ c - 1) (hm : c - 1 ≤ maxLen) : (bls 4).Rd w B (l.drop 1) [.slice (some ⟨b, 1, none⟩) 2 (c - 1)] := by
  obtain ⟨a, cap, e, h1, h2, b', off', h4, h5⟩ := h
  simp only [List.cons.injEq, Value.slice.injEq, and_true] at e
  obtain ⟨rfl, -, rfl⟩ := e
  have hne : l ≠ [] := by intro e; rw [e] at hl; simp at hl
  obtain ⟨q1, q2⟩ := h4 hne
  simp only [Option.some.injEq, Addr.mk.injEq, and_true] at q1
  obtain ⟨rfl, rfl⟩ := q1
  have hd : (l.drop 1).length = 2 := by rw [List.length_drop, hl]
  refine ⟨_, c - 1, by rw [hd], ⟨by rw [hd]; exact hc, hm⟩, (fun e => by cases e), b, 1, fun _ => ⟨rfl, q2⟩, fun i hi => ?_⟩
  obtain ⟨cs', r1, r2, r3⟩ := h5 (1 + i) (by omega)
  refine ⟨cs', r1, fun j hj => ?_, by rw [List.getElem_drop]; exact r3⟩
  have := r2 j hj
  rw [show (0 : Nat) + (1 + i) * Sh.bool.sz + j = 1 + i * Sh.bool.sz + j by show 0 + (1 + i) * 1 + j = 1 + i * 1 + j; omega] at this
  exact this
/-- Where a region of the drawing stands. -/
structure SNq (sb : Nat) (w V : World) (p : Nat) (Q : Array Value) (w' : World) : Prop where
  dr : Dr sb w w'
  sz : V.heap.size ≤ w'.heap.size
  k0 : ∀ o, w'.cell? ⟨p, o, none⟩ = Q[o]?
theorem SNq.drew {sb p : Nat} {w V wc : World} {Q : Array Value} (h : SNq sb w V p Q wc) : SNq sb w V p Q wc.drew := ⟨⟨h.dr.os, h.dr.tape, h.dr.output, h.dr.size, h.dr.block⟩, h.sz, h.k0⟩
set_option maxHeartbeats 8000000 in
theorem sNet (sb : Nat) (a : Option Addr) (len cap : Nat) (zs : List Int) (K : Int) (w : World)
    (hs : Src w sb (.slice a len cap) K) (hr : BRow .u8 w a len cap zs) (hl : RowLt sb a zs) (hK : K ≤ 600000) :
    Calls Try.prog 57 #[.pointer (some ⟨sb, 0, none⟩)] w fun e w' => ∃ (x : DNet) (A : Array Value), e = .returned (.agg A) ∧ (∀ W : World, (∀ b, w.heap.size + 1 ≤ b → b < w'.heap.size → W.heap[b]? = w'.heap[b]?) → w'.heap.size ≤ W.heap.size → shNet.Rd W W.heap.size x A.toList) ∧ totNet x ≤ 620 ∧ Dr sb w w' ∧ Src w' sb (.slice a len cap) (K + 1000) := by
  have hlt := hs.lt
  have HR : Hid (∀ W, Dr sb w W → BRow .u8 W a len cap zs) := fun W h => hr.below hl (h.below (Nat.le_of_lt hlt))
  have HNI : Hid (∀ W, W = (((w.alloc (.cells #[.slice none 0 0, .slice none 0 0] 44)).alloc (.cells #[.bool false, .bool false, .bool false] 4)).alloc (.cells #[.slice none 0 0, .slice (some ⟨w.heap.size + 1, 0, none⟩) 3 3] 44)) → NI w W sb (.slice a len cap) K [false, false, false] [] none 0) := fun W e => ni_start hs e
  clear hr hs
  go_enter Try.func57, Try.ntmps57
  go_upto_region 2 with fail
  obtain ⟨W1, hW1⟩ : ∃ W, W = (((w.alloc (.cells #[.slice none 0 0, .slice none 0 0] 44)).alloc (.cells #[.bool false, .bool false, .bool false] 4)).alloc (.cells #[.slice none 0 0, .slice (some ⟨w.heap.size + 1, 0, none⟩) 3 3] 44)) := ⟨_, rfl⟩
  have H1 : Hid (NI w W1 sb (.slice a len cap) K [false, false, false] [] none 0) := HNI.out _ hW1
  rw [← hW1]
  clear hW1 HNI
  rw [show w.heap.size + 1 + 1 = w.heap.size + 2 from rfl]
  go_wp2_with fail
  refine (sNext sb a len cap zs _ 7 _ H1.out.src (HR.out _ H1.out.dr) hl (by omega) (by omega)).mono ?_
  rintro e W2 ⟨r, rfl, r0, r1, st, sr⟩
  have H2 : Hid (NI w W2 sb (.slice a len cap) (K + 1) [false, false, false] [] none 0) := H1.out.drw st.dr sr hlt
  clear st sr H1
  obtain ⟨n, rfl⟩ : ∃ n : Nat, r = n := ⟨r.toNat, by omega⟩
  go_wp2_with fail
  go_loopw [4] (fun t wr => ∃ (k : Nat) (bag : List DSegm) (va : Option Addr) (vc : Nat), k ≤ 6 ∧ t = .int .i64 k ∧ Hid (NI w wr sb (.slice a len cap) (K + 10 + 70 * (6 - (k : Int))) [false, false, false] bag va vc)) (fun t _ => (intOf t).toNat)
  case atStart => exact ⟨n, [], none, 0, by omega, rfl, (H2.out.drw (Dr.refl _ _) (H2.out.src.mono (by omega)) hlt : NI _ _ _ _ _ _ _ _ _)⟩
  case round =>
    clear H2 r0 r1
    rename World => wr
    obtain ⟨k, bag, va, vc, hk, rfl, H⟩ := hrel
    by_cases hk0 : 0 < k
    · obtain ⟨k, rfl⟩ : ∃ j, k = j + 1 := ⟨k - 1, by omega⟩
      have hki : (0 : Int) < ((k + 1 : Nat) : Int) := by omega
      go_wp2_with fail
      refine (sSeg sb a len cap zs _ wr H.out.src (HR.out _ H.out.dr) hl (by omega)).mono ?_
      rintro e w1 ⟨s, v, rfl, ho, hlen, hak, hrg, hd, hs⟩
      have H1 : Hid (NI w w1 sb (.slice a len cap) (K + 10 + 70 * (6 - ((k + 1 : Nat) : Int)) + 60) [false, false, false] bag va vc) := H.out.drw hd hs hlt
      have hwz : w.heap.size + 2 < wr.heap.size := H.out.z
      have hwz1 := hd.size
      obtain ⟨a1, c1, hv, -⟩ := ho.rb
      subst hv
      have HOS : Hid (Own w1 wr.heap.size w1.heap.size shSegm (dsOf s) (#[.int .i64 s.path, .int .i64 s.frm, .bool s.syn, .bool s.ackd, .bool s.rst, .int .i64 s.seq, .int .i64 s.ack, .int .i64 s.fin, .int .i64 s.opt, .int .i64 s.a, .int .i64 s.b, (.slice a1 s.load.length c1)] : Array Value).toList) := seg_draw (Seg.wf_rg hrg hak) ho
      have HSL : Hid (totSegm (dsOf s) ≤ 9) := by show s.load.length ≤ 9; omega
      have HPA : Hid (0 ≤ (dsOf s).1 ∧ (dsOf s).1 ≤ 2) := by have h := hrg.1; show 0 ≤ s.path ∧ s.path ≤ 2; omega
      clear ho hlen hak hrg hd hs H
      generalize dsOf s = x at *
      obtain ⟨y0, y1, b2, b3, b4, y5, y6, y7, y8, y9, y10, L⟩ := s
      dsimp only at HOS ⊢
      generalize L.length = N at *
      go_wp2_with fail
      obtain ⟨w2, hw2⟩ : ∃ W, W = w1.alloc (.cells #[.int .i64 y0, .int .i64 y1, .bool b2, .bool b3, .bool b4, .int .i64 y5, .int .i64 y6, .int .i64 y7, .int .i64 y8, .int .i64 y9, .int .i64 y10, .slice a1 N c1] 48) := ⟨_, rfl⟩
      have hb2 : Below w1.heap.size w1 w2 := by rw [hw2]; exact (Below.refl _ _).alloc (Nat.le_refl _) _
      have HRG : Hid (w2.rangeAt w1.heap.size 0 [.int .i64 y0, .int .i64 y1, .bool b2, .bool b3, .bool b4, .int .i64 y5, .int .i64 y6, .int .i64 y7, .int .i64 y8, .int .i64 y9, .int .i64 y10, .slice a1 N c1]) := by show World.rangeAt _ _ _ _; rw [hw2]; exact bx_range (A := #[.int .i64 y0, .int .i64 y1, .bool b2, .bool b3, .bool b4, .int .i64 y5, .int .i64 y6, .int .i64 y7, .int .i64 y8, .int .i64 y9, .int .i64 y10, .slice a1 N c1]) (bx_al w1 _ _)
      have hz2 : w1.heap.size < w2.heap.size := by rw [hw2]; simp
      rw [← hw2]
      clear hw2
      have H2 : Hid _ := H1.out.bel hb2 hlt
      have HXO : Hid (Own w2 (w.heap.size + 3) w1.heap.size shSegms bag [.slice va bag.length vc]) := Own.below H1.out.xo (Nat.le_refl _) hb2
      have HRS : Hid (shSegm.Rd w2 w1.heap.size x [.int .i64 y0, .int .i64 y1, .bool b2, .bool b3, .bool b4, .int .i64 y5, .int .i64 y6, .int .i64 y7, .int .i64 y8, .int .i64 y9, .int .i64 y10, .slice a1 N c1]) := Sh.Rd.below (HOS.out.rd (Nat.le_refl _)) (Nat.le_refl _) hb2
      refine (sL12Put1 [false, false, false] bag x (w.heap.size + 2) va (some ⟨w.heap.size + 1, 0, none⟩) vc 3 w1.heap.size _ w2 w1.heap.size (w.heap.size + 1) (w.heap.size + 2) (w.heap.size + 3) w1.heap.size H2.out.kQ H2.out.tQ H2.out.z H2.out.xd HXO.out (by omega) (Nat.le_refl _) (Nat.lt_succ_self _) (Nat.le_refl _) hz2 rfl HRG.out HRS.out (Nat.le_of_lt hz2) rfl H2.out.b60 (by have := HSL.out; omega) HPA.out.1 HPA.out.2).mono ?_
      rintro e w3 ⟨va3, vc3, rfl, kQ3, tQ3, zQ3, xd3, xo3, hb3⟩
      have H3 : Hid (NI w w3 sb (.slice a len cap) (K + 10 + 70 * (6 - (k : Int))) [false, false, false] (put1 [false, false, false] bag x) va3 vc3) := ⟨fun o => (hb3.cell (p := ⟨w.heap.size, o, none⟩) (by dsimp only; omega)).trans (H2.out.kR o), fun o => (hb3.frozen (p := ⟨w.heap.size, o, none⟩) (by dsimp only; omega)).trans (H2.out.fR o), kQ3, tQ3, zQ3, xd3, xo3, H2.out.dr.then hb3 (by omega), (H2.out.src.below hb3 (by omega)).mono (by omega), put1_small H2.out.small HSL.out, rfl, put1_60 H2.out.b60⟩
      clear kQ3 tQ3 zQ3 xd3 xo3 hb3 HRS HXO H2 HRG H1 HOS hb2
      go_wp2_with fail
      go_roundw
      case rel => exact ⟨k, _, va3, vc3, by omega, by go_num, H3⟩
      case measure => simp [intOf] <;> omega
    · obtain rfl : k = 0 := by omega
      have H0 : Hid (NI w wr sb (.slice a len cap) (K + 440) [false, false, false] bag va vc) := H.out.drw (Dr.refl _ _) (H.out.src.mono (by omega)) hlt
      clear H hk hk0
      go_upto_region 6 with fail
      go_cut [17, 18] (fun i j wx => i = .pointer (some ⟨sb, 0, none⟩) ∧ ∃ r, j = .bool r ∧ Hid (NI w wx sb (.slice a len cap) (K + 441) [false, false, false] bag va vc))
      case first =>
        go_wp2_with fail
        refine (sChance sb a len cap zs _ 4 _ H0.out.src (HR.out _ H0.out.dr) hl (by omega) (by omega)).mono ?_
        rintro e w3 ⟨r, rfl, st, sr⟩
        have H3 : Hid (NI w w3 sb (.slice a len cap) (K + 441) [false, false, false] bag va vc) := H0.out.drw st.dr (sr.mono (by omega)) hlt
        go_wp2_with fail
        go_meet
        exact ⟨rfl, r, rfl, H3⟩
      case rest =>
        clear H0
        rename World => wx
        obtain ⟨rfl, r, rfl, H3⟩ := hcut
        rename_i KK hKK
        refine hKK _ _ ?_
        clear hKK
        go_cut [19, 20, 21] (fun i j l wy => ∃ (dead : List Bool) (bag : List DSegm) (va : Option Addr) (vc : Nat), Hid (NI w wy sb (.slice a len cap) (K + 450) dead bag va vc))
        case first =>
          cases r with
          | false =>
            go_wp2_with fail
            go_meet
            exact ⟨_, _, _, _, (H3.out.drw (Dr.refl _ _) (H3.out.src.mono (by omega)) hlt : NI _ _ _ _ _ _ _ _ _)⟩
          | true =>
            go_wp2_with fail
            refine (sNext sb a len cap zs _ 3 _ H3.out.src (HR.out _ H3.out.dr) hl (by omega) (by omega)).mono ?_
            rintro e w4 ⟨q, rfl, q0, q1, st, sr⟩
            have H4 : Hid (NI w w4 sb (.slice a len cap) (K + 442) [false, false, false] bag va vc) := H3.out.drw st.dr (sr.mono (by omega)) hlt
            clear st sr H3
            obtain ⟨q, rfl⟩ : ∃ n : Nat, q = n := ⟨q.toNat, by omega⟩
            go_wp2_with fail
            refine (sL12Kill1 [false, false, false] bag q (w.heap.size + 2) va (some ⟨w.heap.size + 1, 0, none⟩) vc 3 w4 (w.heap.size + 1) (w.heap.size + 2) (w.heap.size + 3) w4.heap.size H4.out.kQ H4.out.tQ H4.out.z H4.out.xd H4.out.xo H4.out.z (Nat.le_refl _) (Nat.lt_succ_self _) (Nat.le_refl _) rfl H4.out.b60 (by omega)).mono ?_
            rintro e w5 ⟨va5, vc5, rfl, kQ5, tQ5, zQ5, xd5, xo5, hb5⟩
            have hle : (killF (q : Int) bag).length ≤ 60 := Nat.le_trans (List.length_filter_le _ _) H4.out.b60
            have hlt4 := H4.out.z
            have H5 : Hid (NI w w5 sb (.slice a len cap) (K + 450) ([false, false, false].set q true) (killF (q : Int) bag) va5 vc5) := ⟨fun o => (hb5.cell (p := ⟨w.heap.size, o, none⟩) (by dsimp only; omega)).trans (H4.out.kR o), fun o => (hb5.frozen (p := ⟨w.heap.size, o, none⟩) (by dsimp only; omega)).trans (H4.out.fR o), kQ5, tQ5, zQ5, xd5, xo5, H4.out.dr.then hb5 (by omega), (H4.out.src.below hb5 (by omega)).mono (by omega), fun y hy => H4.out.small y (List.mem_filter.1 hy).1, by rw [List.length_set]; rfl, hle⟩
            clear kQ5 tQ5 zQ5 xd5 xo5 hb5 H4 hle
            go_wp2_with fail
            go_meet
            exact ⟨_, _, _, _, H5⟩
        case rest =>
          clear H3 bag va vc
          rename World => wy
          obtain ⟨dead, bag, va, vc, H⟩ := hcut
          go_wp2_with fail
          refine (sNext sb a len cap zs _ 18 _ H.out.src (HR.out _ H.out.dr) hl (by omega) (by omega)).mono ?_
          rintro e V ⟨q, rfl, q0, q1, st, sr⟩
          have HV : Hid (NI w V sb (.slice a len cap) (K + 460) dead bag va vc) := H.out.drw st.dr (sr.mono (by omega)) hlt
          clear st sr H
          obtain ⟨m, hm⟩ : ∃ m, bag.length = m := ⟨_, rfl⟩
          have HM : Hid (bag.length = m) := hm
          have kQ := HV.out.kQ
          have kR := HV.out.kR
          have fR := HV.out.fR
          have fQ := ty_frz HV.out.tQ
          have zV := HV.out.z
          have XO : Hid (Own V (w.heap.size + 3) V.heap.size shSegms bag [.slice va m vc]) := by show Own _ _ _ _ _ _; rw [← hm]; exact HV.out.xo
          have HTB : Hid (totSegms bag ≤ 600) := by
            show _ ≤ _
            have h1 := tot_bound (l := bag) HV.out.small (by have := HV.out.b60; omega)
            have h2 := HV.out.b60
            have : ∀ l : List DSegm, (∀ y ∈ l, totSegm y ≤ 9) → fsum totSegm l ≤ 9 * l.length := by
              intro l
              induction l with
              | nil => intro _; simp [fsum]
              | cons y ys ih =>
                intro hm
                have h1 := hm y (by simp)
                have h2 := ih (fun z hz => hm z (by simp [hz]))
                simp only [fsum, List.map_cons, List.sum_cons, List.length_cons] at h2 ⊢
                omega
            have h3 := this bag HV.out.small
            unfold totSegms
            omega
          rw [hm] at kQ
          clear hm
          by_cases h0 : q = 0
          · subst h0
            have HS : Hid (SNq sb w V (w.heap.size + 2) #[.slice va m vc, .slice (some ⟨w.heap.size + 1, 0, none⟩) 3 3] V) := ⟨HV.out.dr, Nat.le_refl _, kQ⟩
            have HSD : Hid (Src V.drew sb (.slice a len cap) (K + 460)) := HV.out.src.below (Below.drew (Below.refl V.heap.size V)) HV.out.src.lt
            have HDD : Hid (Dr sb w V.drew) := HV.out.dr.then (Below.drew (Below.refl V.heap.size V)) (by omega)
            go_upto_region 10 with fail
            clear kQ
            refine wp_region_noPanic ?_
            refine Goes.start (S := (SNq sb w V (w.heap.size + 2) #[.slice va m vc, .slice (some ⟨w.heap.size + 1, 0, none⟩) 3 3])) (z := 7) (by kernel_rfl) ?_
            refine Goes.take (i := 0) (oi := ?oi11) (x := ?vx11) ?ho11 (by kernel_rfl) (by kernel_rfl) (by kernel_rfl) (by kernel_rfl) (fun _ _ _ h => h) (Or.inl ⟨?hw11, ?hy11⟩) HS.out.drew ?rest11
            case ho11 => (simp only [List.getElem?_toArray, List.getElem?_cons_zero] <;> rfl)
            case hw11 => rfl
            case hy11 => (intro w' hSw; have j0 := hSw.k0; go_simp; (try with_reducible rfl))
            case rest11 =>
            (try simp only [Act.put, List.setIfInBounds_toArray, List.set_cons_zero, List.set_cons_succ])
            refine Goes.take (i := 1) (oi := ?oi12) (x := ?vx12) ?ho12 (by kernel_rfl) (by kernel_rfl) (by kernel_rfl) (by kernel_rfl) (fun _ _ _ h => h) (Or.inl ⟨?hw12, ?hy12⟩) HS.out.drew ?rest12
            case ho12 => (simp only [List.getElem?_toArray, List.getElem?_cons_succ, List.getElem?_cons_zero] <;> rfl)
            case hw12 => rfl
            case hy12 => (intro w' hSw; have j0 := hSw.k0; go_simp; (try with_reducible rfl))
            case rest12 =>
            (try simp only [Act.put, List.setIfInBounds_toArray, List.set_cons_zero, List.set_cons_succ])
            refine Goes.take (i := 2) (oi := ?oi13) (x := ?vx13) ?ho13 (by kernel_rfl) (by kernel_rfl) (by kernel_rfl) (by kernel_rfl) (fun _ _ _ h => h) (Or.inl ⟨?hw13, ?hy13⟩) HS.out.drew ?rest13
            case ho13 => (simp only [List.getElem?_toArray, List.getElem?_cons_succ, List.getElem?_cons_zero] <;> rfl)
            case hw13 => rfl
            case hy13 => (intro w' hSw; have j0 := hSw.k0; go_simp; (try with_reducible rfl))
            case rest13 =>
            (try simp only [Act.put, List.setIfInBounds_toArray, List.set_cons_zero, List.set_cons_succ])
            refine Goes.all (rs := [3]) (by kernel_rfl) (by simp) ?_
            refine Ups.cons (i := 3) (o := ?oo14) ?ho14 (fun KK hKK => ?stp14) Ups.nil
            case ho14 => (simp only [List.getElem?_toArray, List.getElem?_cons_succ, List.getElem?_cons_zero] <;> rfl)
            case stp14 =>
            go_simp
            go_at_call 59
            refine (sBentW sb a len cap zs _ V.drew HSD.out (HR.out _ HDD.out) hl (by omega)).mono ?_
            rintro e w2 ⟨s, v, rfl, ho, hlen, hwf, hak, hd, hs⟩
            obtain ⟨a1, c1, hv, -⟩ := ho.rb
            subst hv
            have HOS : Hid (Own w2 V.heap.size w2.heap.size shSegm (dsOf s) (#[.int .i64 s.path, .int .i64 s.frm, .bool s.syn, .bool s.ackd, .bool s.rst, .int .i64 s.seq, .int .i64 s.ack, .int .i64 s.fin, .int .i64 s.opt, .int .i64 s.a, .int .i64 s.b, (.slice a1 s.load.length c1)] : Array Value).toList) := seg_draw hwf ho
            have HTX : Hid (totSegm (dsOf s) ≤ 9) := by show s.load.length ≤ 9; omega
            have HBK : Hid (∀ b, b < V.heap.size → b ≠ sb → w2.heap[b]? = V.heap[b]?) := fun b h1 h2 => hd.block b h1 h2
            have hsz : V.heap.size ≤ w2.heap.size := hd.size
            have HS6 : Hid ((SNq sb w V (w.heap.size + 2) #[.slice va m vc, .slice (some ⟨w.heap.size + 1, 0, none⟩) 3 3]) w2) := ⟨HDD.out.trans hd, hsz, fun o => (World.cell?_of_block (w := V) (HBK.out _ zV (by dsimp only; omega))).trans (HS.out.k0 o)⟩
            have XD2 : Hid (Own w2 (w.heap.size + 1) (w.heap.size + 2) (bls 4) dead [.slice (some ⟨w.heap.size + 1, 0, none⟩) 3 3]) := Own.keep HV.out.xd (fun b h1 h2 => HBK.out b (by omega) (by omega))
            have XO2 : Hid (Own w2 (w.heap.size + 3) V.heap.size shSegms bag [.slice va m vc]) := Own.keep XO.out (fun b h1 h2 => HBK.out b h2 (by omega))
            have TQ2 : Hid (∃ cur, w2.heap[w.heap.size + 2]? = some (.cells cur 44 (0, 0))) := ty_below HV.out.tQ (HBK.out _ zV (by omega))
            have kR2 : ∀ o, w2.cell? ⟨w.heap.size, o, none⟩ = (#[.slice none 0 0, .slice none 0 0] : Array Value)[o]? := fun o => (World.cell?_of_block (w := V) (HBK.out _ (by dsimp only; omega) (by dsimp only; omega))).trans (kR o)
            have fR2 : ∀ o, w2.frozen? ⟨w.heap.size, o, none⟩ = false := fun o => (World.frozen?_of_block (w := V) (HBK.out _ (by dsimp only; omega) (by dsimp only; omega))).trans (fR o)
            have SR2 : Hid (Src w2 sb (.slice a len cap) (K + 560)) := hs.mono (by omega)
            clear ho hlen hwf hak hd hs
            generalize dsOf s = x at *
            obtain ⟨y0, y1, b2, b3, b4, y5, y6, y7, y8, y9, y10, L⟩ := s
            dsimp only at HOS ⊢
            generalize L.length = N at *
            (try dsimp only)
            refine hKK.out _ _ (Or.inr HS6.out) ?_
            clear hKK KK
            (try simp only [Act.put, List.setIfInBounds_toArray, List.set_cons_zero, List.set_cons_succ])
            refine Goes.all (rs := [4]) (by kernel_rfl) (by simp) ?_
            refine Ups.cons (i := 4) (o := ?oo15) ?ho15 (fun KK hKK => ?stp15) Ups.nil
            case ho15 => (simp only [List.getElem?_toArray, List.getElem?_cons_succ, List.getElem?_cons_zero] <;> rfl)
            case stp15 =>
            go_simp
            refine hKK.out _ _ (Or.inr ⟨HS6.out.dr.then ((Below.refl _ _).alloc (Nat.le_refl _) _) HS6.out.dr.size, by simp; omega, fun o => (World.cell?_alloc_lt _ _ _ (by dsimp only; omega)).trans (HS6.out.k0 o)⟩) ?_
            clear hKK KK
            (try simp only [Act.put, List.setIfInBounds_toArray, List.set_cons_zero, List.set_cons_succ])
            refine Goes.all (rs := [5]) (by kernel_rfl) (by simp) ?_
            refine Ups.cons (i := 5) (o := ?oo16) ?ho16 (fun KK hKK => ?stp16) Ups.nil
            case ho16 => (simp only [List.getElem?_toArray, List.getElem?_cons_succ, List.getElem?_cons_zero] <;> rfl)
            case stp16 =>
            refine app_elem_st w2 (by rfl) _ _ 41 48 (by rfl) shSegm (.agg #[.int .i64 0, .int .i64 0, .bool false, .bool false, .bool false, .int .i64 0, .int .i64 0, .int .i64 0, .int .i64 0, .int .i64 0, .int .i64 0, .slice none 0 0]) 96 Try.underlying41 info_SZ rfl (by decide) (by decide) (w.heap.size + 3) V.heap.size V.heap.size w2.heap.size bag (.slice va m vc) (by rfl) w2.heap.size rfl (by rfl) XO2.out x [.int .i64 y0, .int .i64 y1, .bool b2, .bool b3, .bool b4, .int .i64 y5, .int .i64 y6, .int .i64 y7, .int .i64 y8, .int .i64 y9, .int .i64 y10, .slice a1 N c1] HOS.out (by omega) (Nat.le_refl _) (Nat.le_refl _) (by have := HV.out.b60; omega) (by omega) ?_
            intro v3 w3' ho3 hb3 hk3 hs3
            obtain ⟨va3, vc3, hv3⟩ := row_form (ho3.rd (Nat.le_refl _))
            simp only [List.cons.injEq, and_true, List.length_append, List.length_cons, List.length_nil, HM.out] at hv3
            subst hv3
            have HO3 : Hid (Own w3' (w.heap.size + 3) w3'.heap.size shSegms (bag ++ [x]) [.slice va3 (m + 1) vc3]) := ho3
            have hblk := hk3 (w.heap.size + 2) (by omega) (ty_ne XO2.out TQ2.out)
            have HS9 : Hid ((SNq sb w V (w.heap.size + 2) #[.slice va m vc, .slice (some ⟨w.heap.size + 1, 0, none⟩) 3 3]) w3') := ⟨HS6.out.dr.then hb3 (by omega), by omega, fun o => (World.cell?_of_block hblk).trans (HS6.out.k0 o)⟩
            have XD3 : Hid (Own w3' (w.heap.size + 1) (w.heap.size + 2) (bls 4) dead [.slice (some ⟨w.heap.size + 1, 0, none⟩) 3 3]) := Own.below XD2.out (by omega) hb3
            have TQ3 : Hid (∃ cur, w3'.heap[w.heap.size + 2]? = some (.cells cur 44 (0, 0))) := ty_below TQ2.out hblk
            have kR3 : ∀ o, w3'.cell? ⟨w.heap.size, o, none⟩ = (#[.slice none 0 0, .slice none 0 0] : Array Value)[o]? := fun o => (hb3.cell (p := ⟨w.heap.size, o, none⟩) (by dsimp only; omega)).trans (kR2 o)
            have fR3 : ∀ o, w3'.frozen? ⟨w.heap.size, o, none⟩ = false := fun o => (hb3.frozen (p := ⟨w.heap.size, o, none⟩) (by dsimp only; omega)).trans (fR2 o)
            have SR3 : Hid (Src w3' sb (.slice a len cap) (K + 560)) := SR2.out.below hb3 (by omega)
            have fQ3 := ty_frz TQ3.out
            have hz3 : w.heap.size + 2 < w3'.heap.size := by omega
            clear ho3 hb3 hk3 XO2 XD2 TQ2 HOS hs3 hblk kR2 fR2 SR2
            refine hKK.out _ _ (Or.inr HS9.out) ?_
            clear hKK KK
            (try simp only [Act.put, List.setIfInBounds_toArray, List.set_cons_zero, List.set_cons_succ])
            refine Goes.take (i := 6) (oi := ?oi17) (x := ?vx17) ?ho17 (by kernel_rfl) (by kernel_rfl) (by kernel_rfl) (by kernel_rfl) (fun _ _ _ h => h) (Or.inl ⟨?hw17, ?hy17⟩) HS9.out ?rest17
            case ho17 => (simp only [List.getElem?_toArray, List.getElem?_cons_succ, List.getElem?_cons_zero] <;> rfl)
            case hw17 => rfl
            case hy17 => (intro w' hSw; have j0 := hSw.k0; go_simp; (try with_reducible rfl))
            case rest17 =>
            (try simp only [Act.put, List.setIfInBounds_toArray, List.set_cons_zero, List.set_cons_succ])
            refine Goes.all (rs := [7]) (by kernel_rfl) (by simp) ?_
            refine Ups.cons (i := 7) (o := ?oo18) ?ho18 (fun KK hKK => ?stp18) Ups.nil
            case ho18 => (simp only [List.getElem?_toArray, List.getElem?_cons_succ, List.getElem?_cons_zero] <;> rfl)
            case stp18 =>
            have kQ := HS9.out.k0
            go_simp
            refine hKK.out _ _ (Or.inl rfl) ?_
            clear hKK KK
            (try simp only [Act.put])
            refine Goes.done (by kernel_rfl) ?_ _
            refine NoPanic.normal ?_
            have kQ := HS9.out.k0
            go_upto_region 15 with fail
            replace kQ := bx_put kQ (k := 0) (v := .slice va3 (m + 1) vc3) (by simp)
            simp only [List.setIfInBounds_toArray, List.set_cons_zero, List.set_cons_succ] at kQ
            have kR5 : ∀ o, (w3'.setCell ⟨w.heap.size + 2, 0, none⟩ (.slice va3 (m + 1) vc3)).cell? ⟨w.heap.size, o, none⟩ = (#[.slice none 0 0, .slice none 0 0] : Array Value)[o]? := fun o => (World.cell?_of_block (w := w3') (Below.heap_setCell _ _ _ _ (by dsimp only; omega))).trans (kR3 o)
            have fR5 : ∀ o, (w3'.setCell ⟨w.heap.size + 2, 0, none⟩ (.slice va3 (m + 1) vc3)).frozen? ⟨w.heap.size, o, none⟩ = false := fun o => (World.frozen?_of_block (w := w3') (Below.heap_setCell _ _ _ _ (by dsimp only; omega))).trans (fR3 o)
            have z5 : w.heap.size + 2 < (w3'.setCell ⟨w.heap.size + 2, 0, none⟩ (.slice va3 (m + 1) vc3)).heap.size := by simp; omega
            have e5 : (w3'.setCell ⟨w.heap.size + 2, 0, none⟩ (.slice va3 (m + 1) vc3)).heap.size = w3'.heap.size := by simp
            have XD5 : Hid (Own (w3'.setCell ⟨w.heap.size + 2, 0, none⟩ (.slice va3 (m + 1) vc3)) (w.heap.size + 1) (w.heap.size + 2) (bls 4) dead [.slice (some ⟨w.heap.size + 1, 0, none⟩) 3 3]) := Own.keep XD3.out (fun b h1 h2 => Below.heap_setCell _ _ _ _ (by dsimp only; omega))
            have XO5 : Hid (Own (w3'.setCell ⟨w.heap.size + 2, 0, none⟩ (.slice va3 (m + 1) vc3)) (w.heap.size + 3) w3'.heap.size shSegms (bag ++ [x]) [.slice va3 (m + 1) vc3]) := own_setp HO3.out TQ3.out
            have D5 : Hid (Dr sb w (w3'.setCell ⟨w.heap.size + 2, 0, none⟩ (.slice va3 (m + 1) vc3))) := HS9.out.dr.then (B := w.heap.size) (by go_grown) (Nat.le_refl _)
            have S5 : Hid (Src (w3'.setCell ⟨w.heap.size + 2, 0, none⟩ (.slice va3 (m + 1) vc3)) sb (.slice a len cap) (K + 560)) := SR3.out.below (B := w.heap.size) (by go_grown) hlt
            generalize hW5 : (w3'.setCell ⟨w.heap.size + 2, 0, none⟩ (.slice va3 (m + 1) vc3)) = W5 at *
            clear hW5 kR fR fQ kR3 fR3
            go_wp2_with fail
            exact bodyPost_ret (v := .agg #[.slice va3 (m + 1) vc3, .slice (some ⟨w.heap.size + 1, 0, none⟩) 3 3]) (by simp [results, Try.results57, go_sem, kR5, fR5]) rfl ⟨(bag ++ [x], dead, ()), #[.slice va3 (m + 1) vc3, .slice (some ⟨w.heap.size + 1, 0, none⟩) 3 3], rfl, net_rd (w := w) (l2 := w.heap.size + 3) (XD5.out.rd (Nat.le_refl _)) XO5.out (fun b hb => by repeat rw [Below.heap_setCell _ _ _ _ (by dsimp only; omega)]) (by omega) (by first | (simp [e5]; done) | (simp [e5]; omega)) (by simp; omega), (by show totSegms (bag ++ [x]) + dead.length ≤ 620; have h1 := HTB.out; have h2 := HTX.out; have h3 := HV.out.d3; rw [totSegms_snoc]; omega), D5.out.then (B := w.heap.size) (by go_grown) (Nat.le_refl _), (S5.out.below (B := w.heap.size) (by go_grown) hlt).mono (by omega)⟩
          have h0a : (q == 0) = false := by simp [h0]
          by_cases h1 : q = 1
          · subst h1
            go_upto_region 15 with fail
            replace kQ := bx_put kQ (k := 1) (v := .slice (some ⟨w.heap.size + 1, 1, none⟩) 2 2) (by simp)
            simp only [List.setIfInBounds_toArray, List.set_cons_zero, List.set_cons_succ] at kQ
            have kR5 : ∀ o, (V.setCell ⟨w.heap.size + 2, 1, none⟩ (.slice (some ⟨w.heap.size + 1, 1, none⟩) 2 2)).cell? ⟨w.heap.size, o, none⟩ = (#[.slice none 0 0, .slice none 0 0] : Array Value)[o]? := fun o => (World.cell?_of_block (w := V) (Below.heap_setCell _ _ _ _ (by dsimp only; omega))).trans (kR o)
            have fR5 : ∀ o, (V.setCell ⟨w.heap.size + 2, 1, none⟩ (.slice (some ⟨w.heap.size + 1, 1, none⟩) 2 2)).frozen? ⟨w.heap.size, o, none⟩ = false := fun o => (World.frozen?_of_block (w := V) (Below.heap_setCell _ _ _ _ (by dsimp only; omega))).trans (fR o)
            have z5 : w.heap.size + 2 < (V.setCell ⟨w.heap.size + 2, 1, none⟩ (.slice (some ⟨w.heap.size + 1, 1, none⟩) 2 2)).heap.size := by simp; omega
            have e5 : (V.setCell ⟨w.heap.size + 2, 1, none⟩ (.slice (some ⟨w.heap.size + 1, 1, none⟩) 2 2)).heap.size = V.heap.size := by simp
            have XD5 : Hid (Own (V.setCell ⟨w.heap.size + 2, 1, none⟩ (.slice (some ⟨w.heap.size + 1, 1, none⟩) 2 2)) (w.heap.size + 1) (w.heap.size + 2) (bls 4) dead [.slice (some ⟨w.heap.size + 1, 0, none⟩) 3 3]) := Own.keep HV.out.xd (fun b h1 h2 => Below.heap_setCell _ _ _ _ (by dsimp only; omega))
            have XO5 : Hid (Own (V.setCell ⟨w.heap.size + 2, 1, none⟩ (.slice (some ⟨w.heap.size + 1, 1, none⟩) 2 2)) (w.heap.size + 3) V.heap.size shSegms bag [.slice va m vc]) := own_setp XO.out HV.out.tQ
            have D5 : Hid (Dr sb w (V.setCell ⟨w.heap.size + 2, 1, none⟩ (.slice (some ⟨w.heap.size + 1, 1, none⟩) 2 2))) := HV.out.dr.then (B := w.heap.size) (by go_grown) (Nat.le_refl _)
            have S5 : Hid (Src (V.setCell ⟨w.heap.size + 2, 1, none⟩ (.slice (some ⟨w.heap.size + 1, 1, none⟩) 2 2)) sb (.slice a len cap) (K + 560)) := (HV.out.src.below (B := w.heap.size) (by go_grown) hlt).mono (by omega)
            generalize hW5 : (V.setCell ⟨w.heap.size + 2, 1, none⟩ (.slice (some ⟨w.heap.size + 1, 1, none⟩) 2 2)) = W5 at *
            clear hW5 kR fR fQ
            have HDT : Hid ((bls 4).Rd W5 W5.heap.size (dead.drop 1) [.slice (some ⟨w.heap.size + 1, 1, none⟩) 2 2]) := bls_tail (c := 3) (XD5.out.rd (Nat.le_refl _)) HV.out.d3 (by decide) (by decide)
            go_wp2_with fail
            exact bodyPost_ret (v := .agg #[.slice va m vc, .slice (some ⟨w.heap.size + 1, 1, none⟩) 2 2]) (by simp [results, Try.results57, go_sem, kR5, fR5]) rfl ⟨(bag, dead.drop 1, ()), #[.slice va m vc, .slice (some ⟨w.heap.size + 1, 1, none⟩) 2 2], rfl, net_rd (w := w) (l2 := w.heap.size + 3) HDT.out XO5.out (fun b hb => by repeat rw [Below.heap_setCell _ _ _ _ (by dsimp only; omega)]) (by omega) (by first | (simp [e5]; done) | (simp [e5]; omega)) (by simp; omega), (by show totSegms bag + (dead.drop 1).length ≤ 620; have h1 := HTB.out; have h3 := HV.out.d3; rw [List.length_drop]; omega), D5.out.then (B := w.heap.size) (by go_grown) (Nat.le_refl _), (S5.out.below (B := w.heap.size) (by go_grown) hlt).mono (by omega)⟩
          have h1a : (q == 1) = false := by simp [h1]
          by_cases h2 : q = 2
          · subst h2
            obtain ⟨i0, hi, hz0, hz1, hz2⟩ := info_parts info_SZ
            have HI : Hid _ := And.intro hi (And.intro hz0 (And.intro hz1 hz2))
            clear hi hz0 hz1 hz2
            go_wp2_with fail
            refine (sNext sb a len cap zs _ 2 _ HV.out.src (HR.out _ HV.out.dr) hl (by omega) (by omega)).mono ?_
            rintro e W4 ⟨r, rfl, r0, r1, st, sr⟩
            have H4 : Hid (NI w W4 sb (.slice a len cap) (K + 461) dead bag va vc) := HV.out.drw st.dr (sr.mono (by omega)) hlt
            clear st sr kQ kR fR fQ XO HTB
            obtain ⟨r, rfl⟩ : ∃ n : Nat, r = n := ⟨r.toNat, by omega⟩
            have hr1 : r ≤ 1 := by omega
            have hr2 : (0 : Int) ≤ 60 + (r : Int) := by omega
            have hCC : (60 : Int) + (r : Int) = ((60 + r : Nat) : Int) := by omega
            have HCC : Hid _ := hCC
            clear hCC
            go_upto_region 15 with (at_make; refine wpList_make_full W4 rfl _ _ 41 rfl W4.heap.size 48 i0 (.agg #[.int .i64 0, .int .i64 0, .bool false, .bool false, .bool false, .int .i64 0, .int .i64 0, .int .i64 0, .int .i64 0, .int .i64 0, .int .i64 0, .slice none 0 0]) 12 Try.underlying41 HI.out.1 HI.out.2.1 HI.out.2.2.1 .i64 .i64 _ _ (60 + r) (by rfl) (by rfl) HCC.out HCC.out (by rw [HI.out.2.2.2]; omega) (by unfold maxLen; omega) (Nat.le_refl _) ?_; intro w5 hown hgr; have hb5 : Below W4.heap.size W4 w5 := (Below.refl _ _).grown hgr (Nat.le_refl _) (by intro k hk; cases hk); have H5 : Hid (NI w w5 sb (.slice a len cap) (K + 461) dead bag va vc) := H4.out.bel hb5 hlt; have kQ := H5.out.kQ; have fQ := ty_frz H5.out.tQ; have zW5 := H5.out.z; have HOWN : Hid _ := hown; have hgz : W4.heap.size + 1 ≤ w5.heap.size := (by have := (hown.lt W4.heap.size rfl).2; omega); clear hown hgr hb5)
            have zW4 := H4.out.z
            have XO : Hid (Own w5 W4.heap.size (W4.heap.size + 1) shSegms (List.replicate (60 + r) shSegm.zero) [.slice (some ⟨W4.heap.size, 0, none⟩) (60 + r) (60 + r)]) := Own.made (e := shSegm) (z := .agg #[.int .i64 0, .int .i64 0, .bool false, .bool false, .bool false, .int .i64 0, .int .i64 0, .int .i64 0, .int .i64 0, .int .i64 0, .int .i64 0, .slice none 0 0]) rfl HOWN.out
            replace kQ := bx_put kQ (k := 0) (v := .slice (some ⟨W4.heap.size, 0, none⟩) (60 + r) (60 + r)) (by simp)
            simp only [List.setIfInBounds_toArray, List.set_cons_zero, List.set_cons_succ] at kQ
            have kR5 : ∀ o, (w5.setCell ⟨w.heap.size + 2, 0, none⟩ (.slice (some ⟨W4.heap.size, 0, none⟩) (60 + r) (60 + r))).cell? ⟨w.heap.size, o, none⟩ = (#[.slice none 0 0, .slice none 0 0] : Array Value)[o]? := fun o => (World.cell?_of_block (w := w5) (Below.heap_setCell _ _ _ _ (by dsimp only; omega))).trans (H5.out.kR o)
            have fR5 : ∀ o, (w5.setCell ⟨w.heap.size + 2, 0, none⟩ (.slice (some ⟨W4.heap.size, 0, none⟩) (60 + r) (60 + r))).frozen? ⟨w.heap.size, o, none⟩ = false := fun o => (World.frozen?_of_block (w := w5) (Below.heap_setCell _ _ _ _ (by dsimp only; omega))).trans (H5.out.fR o)
            have z5 : w.heap.size + 2 < (w5.setCell ⟨w.heap.size + 2, 0, none⟩ (.slice (some ⟨W4.heap.size, 0, none⟩) (60 + r) (60 + r))).heap.size := by simp; omega
            have e5 : (w5.setCell ⟨w.heap.size + 2, 0, none⟩ (.slice (some ⟨W4.heap.size, 0, none⟩) (60 + r) (60 + r))).heap.size = w5.heap.size := by simp
            have XD5 : Hid (Own (w5.setCell ⟨w.heap.size + 2, 0, none⟩ (.slice (some ⟨W4.heap.size, 0, none⟩) (60 + r) (60 + r))) (w.heap.size + 1) (w.heap.size + 2) (bls 4) dead [.slice (some ⟨w.heap.size + 1, 0, none⟩) 3 3]) := Own.keep H5.out.xd (fun b h1 h2 => Below.heap_setCell _ _ _ _ (by dsimp only; omega))
            have XO5 : Hid (Own (w5.setCell ⟨w.heap.size + 2, 0, none⟩ (.slice (some ⟨W4.heap.size, 0, none⟩) (60 + r) (60 + r))) W4.heap.size (W4.heap.size + 1) shSegms (List.replicate (60 + r) shSegm.zero) [.slice (some ⟨W4.heap.size, 0, none⟩) (60 + r) (60 + r)]) := own_setp XO.out H5.out.tQ
            have D5 : Hid (Dr sb w (w5.setCell ⟨w.heap.size + 2, 0, none⟩ (.slice (some ⟨W4.heap.size, 0, none⟩) (60 + r) (60 + r)))) := H5.out.dr.then (B := w.heap.size) (by go_grown) (Nat.le_refl _)
            have S5 : Hid (Src (w5.setCell ⟨w.heap.size + 2, 0, none⟩ (.slice (some ⟨W4.heap.size, 0, none⟩) (60 + r) (60 + r))) sb (.slice a len cap) (K + 560)) := (H5.out.src.below (B := w.heap.size) (by go_grown) hlt).mono (by omega)
            have hzz : W4.heap.size + 1 ≤ (w5.setCell ⟨w.heap.size + 2, 0, none⟩ (.slice (some ⟨W4.heap.size, 0, none⟩) (60 + r) (60 + r))).heap.size := by simp; omega
            generalize hW5 : (w5.setCell ⟨w.heap.size + 2, 0, none⟩ (.slice (some ⟨W4.heap.size, 0, none⟩) (60 + r) (60 + r))) = W5 at *
            clear hW5 fQ
            go_wp2_with fail
            exact bodyPost_ret (v := .agg #[.slice (some ⟨W4.heap.size, 0, none⟩) (60 + r) (60 + r), .slice (some ⟨w.heap.size + 1, 0, none⟩) 3 3]) (by simp [results, Try.results57, go_sem, kR5, fR5]) rfl ⟨(List.replicate (60 + r) shSegm.zero, dead, ()), #[.slice (some ⟨W4.heap.size, 0, none⟩) (60 + r) (60 + r), .slice (some ⟨w.heap.size + 1, 0, none⟩) 3 3], rfl, net_rd (w := w) (l2 := W4.heap.size) (XD5.out.rd (Nat.le_refl _)) XO5.out (fun b hb => by repeat rw [Below.heap_setCell _ _ _ _ (by dsimp only; omega)]) (by omega) (by first | (simp [e5]; done) | (simp [e5]; omega)) (by simp; omega), (by show totSegms (List.replicate (60 + r) shSegm.zero) + dead.length ≤ 620; have h3 := H5.out.d3; rw [tot_zero]; omega), D5.out.then (B := w.heap.size) (by go_grown) (Nat.le_refl _), (S5.out.below (B := w.heap.size) (by go_grown) hlt).mono (by omega)⟩
          have h2a : (q == 2) = false := by simp [h2]
          go_wp2_with fail
          exact bodyPost_ret (v := .agg #[.slice va m vc, .slice (some ⟨w.heap.size + 1, 0, none⟩) 3 3]) (by simp [results, Try.results57, go_sem, kR, fR]) rfl ⟨(bag, dead, ()), #[.slice va m vc, .slice (some ⟨w.heap.size + 1, 0, none⟩) 3 3], rfl, net_rd (w := w) (l2 := w.heap.size + 3) (HV.out.xd.rd (Nat.le_refl _)) XO.out (fun b hb => by repeat rw [Below.heap_setCell _ _ _ _ (by dsimp only; omega)]) (by omega) (by simp) (by simp; omega), (by show totSegms bag + dead.length ≤ 620; have := HTB.out; rw [HV.out.d3]; omega), HV.out.dr.then (B := w.heap.size) (by go_grown) (Nat.le_refl _), (HV.out.src.below (B := w.heap.size) (by go_grown) hlt).mono (by omega)⟩
end Go.Proofs.Ytebgibjokljlbaa

/- A net and segments drawn: they read, are few, and nothing that was in memory turns; no condition. Written by mkdrpn.py. -/
namespace Go.Proofs.Ytebgibjokljlbaa
open Go.RowKit
set_option linter.unusedVariables false
set_option linter.unusedSimpArgs false
set_option maxRecDepth 8000
/-- What a segment's draw brings, ready for an append. -/
theorem seg_cells {w : World} {lo : Nat} {s : Seg} {a1 : Option Addr} {c1 : Nat} (hw : s.Wf) (ho : OB w lo (.slice a1 s.load.length c1) s.load) : Own w lo w.heap.size shSegm (dsOf s) (#[.int .i64 s.path, .int .i64 s.frm, .bool s.syn, .bool s.ackd, .bool s.rst, .int .i64 s.seq, .int .i64 s.ack, .int .i64 s.fin, .int .i64 s.opt, .int .i64 s.a, .int .i64 s.b, (.slice a1 s.load.length c1)] : Array Value).toList := seg_draw hw ho
theorem own_mt (W : World) : Own (W.alloc (.cells #[] 48)) W.heap.size (W.alloc (.cells #[] 48)).heap.size shSegms [] [.slice (some ⟨W.heap.size, 0, none⟩) 0 0] :=
  ⟨[W.heap.size], Or.inr ⟨W.heap.size, 0, #[], [], rfl, rfl, al_at W _, by simp, by decide, rfl, rfl, fun i hi => by simp at hi⟩, by simp, by simp⟩
set_option maxHeartbeats 8000000 in
theorem dPutNet (a : Option Addr) (len cap : Nat) (zs : List Int) (w : World) (hr : BRow .u8 w a len cap zs) (hl : RowLt w.heap.size a zs) :
    Calls Try.prog 19 #[.slice a len cap] w fun e w' => ∃ (x : DNet) (A : Array Value) (l : List DSegm) (v : Value), e = .returned (.tuple #[.agg A, v]) ∧ shNet.Rd w' w'.heap.size x A.toList ∧ shSegms.Rd w' w'.heap.size l [v] ∧ totNet x ≤ 620 ∧ totSegms l ≤ 100 ∧ Below w.heap.size w w' := by
  go_enter Try.func19, Try.ntmps19
  go_wp2_with fail
  obtain ⟨W0, hW0⟩ : ∃ W0, w.alloc (.cells #[.slice none 0 0, .slice none 0 0] 44) = W0 := ⟨_, rfl⟩
  have b0 : Below w.heap.size w W0 := by rw [← hW0]; exact (Below.refl _ _).alloc (Nat.le_refl _) _
  have kR : ∀ o, W0.cell? ⟨w.heap.size, o, none⟩ = (#[.slice none 0 0, .slice none 0 0] : Array Value)[o]? := by rw [← hW0]; intro o; simp [go_sem]
  have fR : ∀ o, W0.frozen? ⟨w.heap.size, o, none⟩ = false := by rw [← hW0]; intro o; simp [go_sem]
  have z0 : W0.heap.size = w.heap.size + 1 := by rw [← hW0]; simp
  simp only [hW0]
  clear hW0
  have r0 := hr.below hl b0
  refine (sSource a len cap W0).mono ?_
  rintro e W1 ⟨rfl, hW1⟩
  have b1 : Below W0.heap.size W0 W1 := by rw [hW1]; exact (Below.refl _ _).alloc (Nat.le_refl _) _
  have hz1 : W1.heap.size = w.heap.size + 2 := by rw [hW1]; simp; omega
  have S1 : Hid (Src W1 (w.heap.size + 1) (.slice a len cap) 0) := by show Src _ _ _ _; rw [hW1, ← z0]; exact ⟨by simp [go_sem], ⟨0, by omega, by omega, by simp [go_sem]⟩, by simp [go_sem], by simp⟩
  have hl1 : RowLt (w.heap.size + 1) a zs := hl.mono (by omega)
  have HR : Hid (∀ W, Dr (w.heap.size + 1) W1 W → BRow .u8 W a len cap zs) := fun W h => (hr.below hl (b0.trans (b1.mono (by omega)))).below hl1 (h.below (by omega))
  replace kR := bx_below kR (by omega) b1
  replace fR := bxF fR b1 (by omega)
  have HB1 : Hid (Below w.heap.size w W1) := b0.trans (b1.mono (by omega))
  rw [z0]
  clear hW1 b1 b0 r0 hr
  go_wp2_with fail
  refine (sNet (w.heap.size + 1) a len cap zs 0 W1 S1.out (HR.out _ (Dr.refl _ _)) hl1 (by omega)).mono ?_
  rintro e W2 ⟨x, A, rfl, hx, htx, hd, hs⟩
  obtain ⟨bag, dead, ⟨⟩⟩ := x
  obtain ⟨na, nc, da, dc, eA, -, -⟩ := rd_Net (hx W2 (fun _ _ _ => rfl) (Nat.le_refl _))
  have eA2 : A = #[.slice na bag.length nc, .slice da dead.length dc] := arr_of eA
  have HX : Hid (∀ W : World, (∀ b, w.heap.size + 3 ≤ b → b < W2.heap.size → W.heap[b]? = W2.heap[b]?) → W2.heap.size ≤ W.heap.size → shNet.Rd W W.heap.size (bag, dead, ()) [.slice na bag.length nc, .slice da dead.length dc]) := fun W h1 h2 => by have h := hx W (fun b h3 h4 => h1 b (by omega) h4) h2; rw [eA2] at h; exact h
  subst eA2
  clear eA hx
  have hz2 := hd.size
  replace kR : ∀ o, W2.cell? ⟨w.heap.size, o, none⟩ = (#[.slice none 0 0, .slice none 0 0] : Array Value)[o]? := fun o => (hd.cell (p := ⟨w.heap.size, o, none⟩) (by dsimp only; omega) (by dsimp only; omega)).trans (kR o)
  replace fR : ∀ o, W2.frozen? ⟨w.heap.size, o, none⟩ = false := fun o => (hd.frozen (p := ⟨w.heap.size, o, none⟩) (by dsimp only; omega) (by dsimp only; omega)).trans (fR o)
  have HTX : Hid (totNet (bag, dead, ()) ≤ 620) := htx
  have HD2 : Hid (Dr (w.heap.size + 1) W1 W2) := hd
  have S2 : Hid (Src W2 (w.heap.size + 1) (.slice a len cap) 1000) := hs.mono (by omega)
  clear htx hd hs S1
  generalize bag.length = bn at *
  generalize dead.length = dn at *
  generalize (bag, dead, ()) = x at *
  go_upto_region 3 with fail
  obtain ⟨V, hV⟩ : ∃ V, W2.alloc (.cells #[.slice na bn nc, .slice da dn dc] 44) = V := ⟨_, rfl⟩
  have bV : Below W2.heap.size W2 V := by rw [← hV]; exact (Below.refl _ _).alloc (Nat.le_refl _) _
  have kN : ∀ o, V.cell? ⟨W2.heap.size, o, none⟩ = (#[.slice na bn nc, .slice da dn dc] : Array Value)[o]? := by rw [← hV]; exact bx_al _ _ _
  have zV : W2.heap.size < V.heap.size := by rw [← hV]; simp
  rw [hV]
  clear hV
  replace kR := bx_below kR (by omega) bV
  replace fR := bxF fR bV (by omega)
  have HBV : Hid (∀ b, b < W2.heap.size → V.heap[b]? = W2.heap[b]?) := fun b hb => bV.block b hb
  have DV : Hid (Dr (w.heap.size + 1) W1 V) := HD2.out.then bV (by omega)
  have SV : Hid (Src V (w.heap.size + 1) (.slice a len cap) 1000) := S2.out.below bV (by omega)
  have HBW : Hid (Below w.heap.size w V) := HB1.out.trans ((DV.out.below (by omega)).mono (by omega))
  clear bV HD2 S2 HB1
  have HSO : Hid (∀ W : World, Own (W.alloc (.cells #[] 48)) W.heap.size (W.alloc (.cells #[] 48)).heap.size shSegms [] [.slice (some ⟨W.heap.size, 0, none⟩) 0 0]) := fun W => own_mt W
  obtain ⟨sb, hsb⟩ : ∃ q, q = w.heap.size + 1 := ⟨_, rfl⟩
  have hsl : w.heap.size < sb := by omega
  have hsu : sb < w.heap.size + 2 := by omega
  rw [← hsb] at hl1 HR DV SV ⊢
  clear hsb
  go_upto_region 4 with fail
  obtain ⟨V1, hV1⟩ : ∃ W, V.alloc (.cells #[] 48) = W := ⟨_, rfl⟩
  have XO0 : Hid (Own V1 V.heap.size V1.heap.size shSegms [] [.slice (some ⟨V.heap.size, 0, none⟩) 0 0]) := by have h := HSO.out V; rw [hV1] at h; exact h
  have b1 : Below V.heap.size V V1 := by rw [← hV1]; exact (Below.refl _ _).alloc (Nat.le_refl _) _
  have z1 : V.heap.size < V1.heap.size := by rw [← hV1]; simp
  rw [hV1]
  clear hV1 HSO
  have D1 : Hid (Dr sb V V1) := (Dr.refl _ _).then b1 (Nat.le_refl _)
  have S1 : Hid (Src V1 sb (.slice a len cap) 1000) := SV.out.below b1 (by omega)
  clear b1 SV
  go_wp2_with fail
  refine (sNext sb a len cap zs _ 4 V1 S1.out (HR.out _ (DV.out.trans D1.out)) hl1 (by omega) (by omega)).mono ?_
  rintro e V2 ⟨r, rfl, r0, r1, st, sr⟩
  have D2 : Hid (Dr sb V V2) := D1.out.trans st.dr
  have z2 : V.heap.size < V2.heap.size := by have := st.size; omega
  have XO2 : Hid (Own V2 V.heap.size V2.heap.size shSegms [] [.slice (some ⟨V.heap.size, 0, none⟩) 0 0]) := by rw [st.size]; exact Own.keep XO0.out (fun b h1 h2 => st.block b (by omega))
  have S2 : Hid (Src V2 sb (.slice a len cap) 1001) := sr.mono (by omega)
  clear st sr D1 S1 XO0 z1
  obtain ⟨q, rfl⟩ : ∃ n : Nat, r = n := ⟨r.toNat, by omega⟩
  go_wp2_with fail
  go_loopw [6, 7] (fun v t wr => ∃ (k n vc : Nat) (va : Option Addr) (l : List DSegm), k ≤ 3 ∧ t = .int .i64 k ∧ v = .slice va n vc ∧ n + k ≤ 3 ∧ Hid (l.length = n ∧ ∀ y ∈ l, totSegm y ≤ 9) ∧ V.heap.size < wr.heap.size ∧ Hid (Own wr V.heap.size wr.heap.size shSegms l [.slice va n vc]) ∧ Hid (Dr sb V wr) ∧ Hid (Src wr sb (.slice a len cap) (1100 + 70 * (3 - (k : Int))))) (fun _ t _ => (intOf t).toNat)
  case atStart => exact ⟨q, 0, 0, _, [], by omega, rfl, rfl, by omega, (⟨rfl, by simp⟩ : ([] : List DSegm).length = 0 ∧ _), z2, XO2, D2, S2.out.mono (by omega)⟩
  case round =>
    clear XO2 D2 S2 z2
    rename World => wr
    obtain ⟨k, n, vc, va, l, hk, rfl, rfl, hnk, HL, hzr, XO, HD, HS⟩ := hrel
    by_cases hk0 : 0 < k
    · obtain ⟨k, rfl⟩ : ∃ j, k = j + 1 := ⟨k - 1, by omega⟩
      have hki : (0 : Int) < ((k + 1 : Nat) : Int) := by omega
      clear kN kR fR
      go_wp2_with fail
      refine (sSeg sb a len cap zs _ wr HS.out (HR.out _ (DV.out.trans HD.out)) hl1 (by omega)).mono ?_
      rintro e w1 ⟨s, v, rfl, ho, hlen, hak, hrg, hd, hs⟩
      have hzw := HD.out.size
      have hzw1 := hd.size
      obtain ⟨a1, c1, hv, -⟩ := ho.rb
      subst hv
      have HOS : Hid (Own w1 wr.heap.size w1.heap.size shSegm (dsOf s) (#[.int .i64 s.path, .int .i64 s.frm, .bool s.syn, .bool s.ackd, .bool s.rst, .int .i64 s.seq, .int .i64 s.ack, .int .i64 s.fin, .int .i64 s.opt, .int .i64 s.a, .int .i64 s.b, (.slice a1 s.load.length c1)] : Array Value).toList) := seg_cells (Seg.wf_rg hrg hak) ho
      have HTS : Hid (totSegm (dsOf s) ≤ 9) := by show s.load.length ≤ 9; omega
      have XO1 : Hid (Own w1 V.heap.size wr.heap.size shSegms l [.slice va n vc]) := Own.keep XO.out (fun b h1 h2 => hd.block b h2 (by omega))
      have HD1 : Hid (Dr sb V w1) := HD.out.trans hd
      have HS1 : Hid (Src w1 sb (.slice a len cap) (1100 + 70 * (3 - (k : Int)))) := hs.mono (by omega)
      clear ho hlen hak hrg hd hs XO HD HS
      generalize dsOf s = y at *
      obtain ⟨y0, y1, b2, b3, b4, y5, y6, y7, y8, y9, y10, L⟩ := s
      dsimp only at HOS ⊢
      generalize L.length = N at *
      go_wp2_with (at_builtin; refine app_elem w1 rfl _ _ 41 48 rfl shSegm (.agg #[.int .i64 0, .int .i64 0, .bool false, .bool false, .bool false, .int .i64 0, .int .i64 0, .int .i64 0, .int .i64 0, .int .i64 0, .int .i64 0, .slice none 0 0]) 96 Try.underlying41 info_SZ rfl (by decide) (by decide) V.heap.size wr.heap.size wr.heap.size w1.heap.size l (.slice va n vc) (by rfl) (by rfl) XO1.out y [.int .i64 y0, .int .i64 y1, .bool b2, .bool b3, .bool b4, .int .i64 y5, .int .i64 y6, .int .i64 y7, .int .i64 y8, .int .i64 y9, .int .i64 y10, .slice a1 N c1] HOS.out (by omega) (Nat.le_refl _) (Nat.le_refl _) (by have := HL.out.1; omega) (by omega) ?_; intro v3 w3 ho3 hb3 hk3 hs3; obtain ⟨va3, vc3, hv3⟩ := row_form (ho3.rd (Nat.le_refl _)); simp only [List.cons.injEq, and_true, List.length_append, List.length_cons, List.length_nil, HL.out.1] at hv3; subst hv3; have XO3 : Hid (Own w3 V.heap.size w3.heap.size shSegms (l ++ [y]) [.slice va3 (n + 1) vc3]) := ho3; have HD3 : Hid (Dr sb V w3) := HD1.out.then hb3 (Nat.le_refl _); have HS3 : Hid (Src w3 sb (.slice a len cap) (1100 + 70 * (3 - (k : Int)))) := HS1.out.below hb3 (by omega); have hs4 : V.heap.size < w3.heap.size := (by omega); clear ho3 hb3 hk3 hs3 XO1 HD1 HS1 HOS)
      have HL3 : Hid ((l ++ [y]).length = n + 1 ∧ ∀ z ∈ l ++ [y], totSegm z ≤ 9) := ⟨by rw [List.length_append, HL.out.1]; rfl, fun z hz => by
        rcases List.mem_append.1 hz with h | h
        · exact HL.out.2 z h
        · rw [List.mem_singleton] at h; subst h; exact HTS.out⟩
      go_roundw
      case rel => exact ⟨k, n + 1, vc3, va3, _, by omega, by go_num, rfl, by omega, HL3, hs4, XO3, HD3, HS3⟩
      case measure => simp [intOf] <;> omega
    · obtain rfl : k = 0 := by omega
      have HT0 : Hid (∀ m : List DSegm, m.length ≤ 4 → (∀ z ∈ m, totSegm z ≤ 9) → totSegms m ≤ 100) := fun m h1 h2 => by
        have : ∀ m : List DSegm, (∀ y ∈ m, totSegm y ≤ 9) → fsum totSegm m ≤ 9 * m.length := by
          intro m
          induction m with
          | nil => intro _; simp [fsum]
          | cons y ys ih =>
            intro hm
            have h1 := hm y (by simp)
            have h2 := ih (fun z hz => hm z (by simp [hz]))
            simp only [fsum, List.map_cons, List.sum_cons, List.length_cons] at h2 ⊢
            omega
        have h3 := this m h2
        unfold totSegms
        omega
      clear hk hk0
      go_wp2_with fail
      refine (sChance sb a len cap zs _ 12 wr HS.out (HR.out _ (DV.out.trans HD.out)) hl1 (by omega) (by omega)).mono ?_
      rintro e w3 ⟨r, rfl, st, sr⟩
      replace HD : Hid (Dr sb V w3) := HD.out.trans st.dr
      replace XO : Hid (Own w3 V.heap.size w3.heap.size shSegms l [.slice va n vc]) := by rw [st.size]; exact Own.keep XO.out (fun b h1 h2 => st.block b (by omega))
      replace HS : Hid (Src w3 sb (.slice a len cap) 1400) := sr.mono (by omega)
      replace hzr : V.heap.size < w3.heap.size := by have := st.size; omega
      clear st sr
      cases r with
      | false =>
        have HTL : Hid (totSegms l ≤ 100) := HT0.out l (by have := HL.out.1; omega) HL.out.2
        have kN5 : ∀ o, w3.cell? ⟨W2.heap.size, o, none⟩ = (#[.slice na bn nc, .slice da dn dc] : Array Value)[o]? := fun o => (HD.out.cell (p := ⟨W2.heap.size, o, none⟩) (by dsimp only; omega) (by dsimp only; omega)).trans (kN o)
        have kR5 : ∀ o, w3.cell? ⟨w.heap.size, o, none⟩ = (#[.slice none 0 0, .slice none 0 0] : Array Value)[o]? := fun o => (HD.out.cell (p := ⟨w.heap.size, o, none⟩) (by dsimp only; omega) (by dsimp only; omega)).trans (kR o)
        have fR5 : ∀ o, w3.frozen? ⟨w.heap.size, o, none⟩ = false := fun o => (HD.out.frozen (p := ⟨w.heap.size, o, none⟩) (by dsimp only; omega) (by dsimp only; omega)).trans (fR o)
        have hz5 := HD.out.size
        have HB5 : Hid (Below w.heap.size w w3) := HBW.out.trans ((HD.out.below (by omega)).mono (by omega))
        have HK5 : Hid (∀ b, w.heap.size + 3 ≤ b → b < W2.heap.size → w3.heap[b]? = W2.heap[b]?) := fun b h1 h2 => (HD.out.block b (by omega) (by omega)).trans (HBV.out b h2)
        clear kN kR fR
        go_wp2_with fail
        exact bodyPost_ret (v := .tuple #[.agg #[.slice na bn nc, .slice da dn dc], .slice va n vc]) (by simp [results, Try.results19, go_sem, kR5, fR5]) rfl ⟨x, #[.slice na bn nc, .slice da dn dc], _, .slice va n vc, rfl, HX.out _ (fun b h1 h2 => by (repeat rw [Below.heap_setCell _ _ _ _ (by dsimp only; omega)]); exact HK5.out b h1 h2) (by simp; omega), (Own.keep XO.out (fun b h1 h2 => by repeat rw [Below.heap_setCell _ _ _ _ (by dsimp only; omega)])).rd (by simp), HTX.out, HTL.out, (HB5.out.setCell (by dsimp only; omega) _).setCell (by dsimp only; omega) _⟩
      | true =>
        obtain ⟨wr, hwr⟩ : ∃ W, W = w3 := ⟨_, rfl⟩
        subst hwr
        go_wp2_with fail
        refine (sBentW sb a len cap zs _ wr HS.out (HR.out _ (DV.out.trans HD.out)) hl1 (by omega)).mono ?_
        rintro e w1 ⟨s, v, rfl, ho, hlen, hwf, hak, hd, hs⟩
        have hzw := HD.out.size
        have hzw1 := hd.size
        obtain ⟨a1, c1, hv, -⟩ := ho.rb
        subst hv
        have HOS : Hid (Own w1 wr.heap.size w1.heap.size shSegm (dsOf s) (#[.int .i64 s.path, .int .i64 s.frm, .bool s.syn, .bool s.ackd, .bool s.rst, .int .i64 s.seq, .int .i64 s.ack, .int .i64 s.fin, .int .i64 s.opt, .int .i64 s.a, .int .i64 s.b, (.slice a1 s.load.length c1)] : Array Value).toList) := seg_cells hwf ho
        have HTS : Hid (totSegm (dsOf s) ≤ 9) := by show s.load.length ≤ 9; omega
        have XO1 : Hid (Own w1 V.heap.size wr.heap.size shSegms l [.slice va n vc]) := Own.keep XO.out (fun b h1 h2 => hd.block b h2 (by omega))
        have HD1 : Hid (Dr sb V w1) := HD.out.trans hd
        have HS1 : Hid (Src w1 sb (.slice a len cap) (1500)) := hs.mono (by omega)
        clear ho hlen hwf hak hd hs XO HD HS
        generalize dsOf s = y at *
        obtain ⟨y0, y1, b2, b3, b4, y5, y6, y7, y8, y9, y10, L⟩ := s
        dsimp only at HOS ⊢
        generalize L.length = N at *
        go_upto_region 10 with (at_builtin; refine app_elem w1 rfl _ _ 41 48 rfl shSegm (.agg #[.int .i64 0, .int .i64 0, .bool false, .bool false, .bool false, .int .i64 0, .int .i64 0, .int .i64 0, .int .i64 0, .int .i64 0, .int .i64 0, .slice none 0 0]) 96 Try.underlying41 info_SZ rfl (by decide) (by decide) V.heap.size wr.heap.size wr.heap.size w1.heap.size l (.slice va n vc) (by rfl) (by rfl) XO1.out y [.int .i64 y0, .int .i64 y1, .bool b2, .bool b3, .bool b4, .int .i64 y5, .int .i64 y6, .int .i64 y7, .int .i64 y8, .int .i64 y9, .int .i64 y10, .slice a1 N c1] HOS.out (by omega) (Nat.le_refl _) (Nat.le_refl _) (by have := HL.out.1; omega) (by omega) ?_; intro v3 w3 ho3 hb3 hk3 hs3; obtain ⟨va3, vc3, hv3⟩ := row_form (ho3.rd (Nat.le_refl _)); simp only [List.cons.injEq, and_true, List.length_append, List.length_cons, List.length_nil, HL.out.1] at hv3; subst hv3; have XO3 : Hid (Own w3 V.heap.size w3.heap.size shSegms (l ++ [y]) [.slice va3 (n + 1) vc3]) := ho3; have HD3 : Hid (Dr sb V w3) := HD1.out.then hb3 (Nat.le_refl _); have HS3 : Hid (Src w3 sb (.slice a len cap) (1500)) := HS1.out.below hb3 (by omega); have hs4 : V.heap.size < w3.heap.size := (by omega); clear ho3 hb3 hk3 hs3 XO1 HD1 HS1 HOS)
        have HTL : Hid (totSegms (l ++ [y]) ≤ 100) := HT0.out _ (by rw [List.length_append, HL.out.1]; simp; omega) (fun z hz => by
          rcases List.mem_append.1 hz with h | h
          · exact HL.out.2 z h
          · rw [List.mem_singleton] at h; subst h; exact HTS.out)
        have kN5 : ∀ o, w3.cell? ⟨W2.heap.size, o, none⟩ = (#[.slice na bn nc, .slice da dn dc] : Array Value)[o]? := fun o => (HD3.out.cell (p := ⟨W2.heap.size, o, none⟩) (by dsimp only; omega) (by dsimp only; omega)).trans (kN o)
        have kR5 : ∀ o, w3.cell? ⟨w.heap.size, o, none⟩ = (#[.slice none 0 0, .slice none 0 0] : Array Value)[o]? := fun o => (HD3.out.cell (p := ⟨w.heap.size, o, none⟩) (by dsimp only; omega) (by dsimp only; omega)).trans (kR o)
        have fR5 : ∀ o, w3.frozen? ⟨w.heap.size, o, none⟩ = false := fun o => (HD3.out.frozen (p := ⟨w.heap.size, o, none⟩) (by dsimp only; omega) (by dsimp only; omega)).trans (fR o)
        have hz5 := HD3.out.size
        have HB5 : Hid (Below w.heap.size w w3) := HBW.out.trans ((HD3.out.below (by omega)).mono (by omega))
        have HK5 : Hid (∀ b, w.heap.size + 3 ≤ b → b < W2.heap.size → w3.heap[b]? = W2.heap[b]?) := fun b h1 h2 => (HD3.out.block b (by omega) (by omega)).trans (HBV.out b h2)
        clear kN kR fR
        go_wp2_with fail
        exact bodyPost_ret (v := .tuple #[.agg #[.slice na bn nc, .slice da dn dc], .slice va3 (n + 1) vc3]) (by simp [results, Try.results19, go_sem, kR5, fR5]) rfl ⟨x, #[.slice na bn nc, .slice da dn dc], _, .slice va3 (n + 1) vc3, rfl, HX.out _ (fun b h1 h2 => by (repeat rw [Below.heap_setCell _ _ _ _ (by dsimp only; omega)]); exact HK5.out b h1 h2) (by simp; omega), (Own.keep XO3.out (fun b h1 h2 => by repeat rw [Below.heap_setCell _ _ _ _ (by dsimp only; omega)])).rd (by simp), HTX.out, HTL.out, (HB5.out.setCell (by dsimp only; omega) _).setCell (by dsimp only; omega) _⟩
end Go.Proofs.Ytebgibjokljlbaa
