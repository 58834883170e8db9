/- What the draws of chapter 2's model give: segments with loads of their own, of a few bytes; of what was in memory only the count of the source turns; no condition but that it has drawn fewer than a million. -/
import Derived.Test.YtmiomnpfjigojaaRows
import Derived.Test.YtmiomnpfjigojaaBase
import Derived.Test.YtmiomnpfjigojaaDraws
import Derived.Test.YtmiomnpfjigojaaBytes
import Derived.Test.YtmiomnpfjigojaaAppBytes
import Derived.Test.YtmiomnpfjigojaaSeg
import Derived.Test.YtmiomnpfjigojaaStrip
import Derived.Test.YtmiomnpfjigojaaDrawSeg
import Derived.Deep.DeepMust
namespace Go.Proofs.Ytmiomnpfjigojaa
open Go.RowKit
set_option linter.unusedVariables false
set_option linter.unusedSimpArgs false

/-- The cells of a segment that is all zero. -/
abbrev zSeg : Array Value := #[.int .i64 0, .int .i64 0, .bool false, .bool false, .bool false, .int .i64 0, .int .i64 0, .int .i64 0, .int .i64 0, .int .i64 0, .int .i64 0, .slice none 0 0]

/-- What a drawn segment's numbers are, its load and Ack aside. -/
def Seg.Rg (s : Seg) : Prop := (0 ≤ s.path ∧ s.path < 3) ∧ (0 ≤ s.frm ∧ s.frm < 2) ∧ (0 ≤ s.seq ∧ s.seq < 300) ∧ (0 ≤ s.fin ∧ s.fin < 30) ∧ (0 ≤ s.opt ∧ s.opt ≤ 4) ∧ (0 ≤ s.a ∧ s.a < 99) ∧ (0 ≤ s.b ∧ s.b < 60000)

set_option maxRecDepth 8000 in
set_option maxHeartbeats 4000000 in
theorem sSeg (sb : Nat) (a : Option Addr) (len cap : Nat) (zs : List Int) (K : Int) (w : World)
    (hs : Src w sb (.slice a len cap) K) (hr : BRow .u8 w a len cap zs) (hl : RowLt sb a zs) (hK : K ≤ 800000) :
    Calls Try.prog 98 #[.pointer (some ⟨sb, 0, none⟩)] w fun e w' => ∃ (s : Seg) (v : Value), e = .returned (.agg #[.int .i64 s.path, .int .i64 s.frm, .bool s.syn, .bool s.ackd, .bool s.rst, .int .i64 s.seq, .int .i64 s.ack, .int .i64 s.fin, .int .i64 s.opt, .int .i64 s.a, .int .i64 s.b, v]) ∧ OB w' w.heap.size v s.load ∧ s.load.length ≤ 8 ∧ (0 ≤ s.ack ∧ s.ack < 300) ∧ s.Rg ∧ Dr sb w w' ∧ Src w' sb (.slice a len cap) (K + 60) := by
  have hlt := hs.lt
  have HR : Hid (∀ W, Dr sb w W → BRow .u8 W a len cap zs) := fun W h => hr.below hl (h.below (Nat.le_of_lt hlt))
  have HS : Hid _ := hs
  clear hr hs
  go_enter Try.func98, Try.ntmps98
  go_wp2_with fail
  obtain ⟨W0, hW0⟩ : ∃ W0, w.alloc (.cells zSeg 40) = W0 := ⟨_, rfl⟩
  have D0 : Hid (Dr sb w W0) := by rw [← hW0]; exact (Dr.refl _ _).then ((Below.refl _ _).alloc (Nat.le_refl _) _) (Nat.le_refl _)
  have S0 : Hid (Src W0 sb (.slice a len cap) K) := by rw [← hW0]; exact HS.out.alloc _
  have C0 : Hid (∀ o, W0.cell? ⟨w.heap.size, o, none⟩ = zSeg[o]? ∧ W0.frozen? ⟨w.heap.size, o, none⟩ = false) := by rw [← hW0]; intro o; exact ⟨by simp [go_sem], by simp [go_sem]⟩
  have z0 : W0.heap.size = w.heap.size + 1 := by rw [← hW0]; simp
  unfold zSeg at hW0
  simp only [hW0]
  clear hW0
  refine (sNext sb a len cap zs _ 3 W0 S0.out (HR.out _ D0.out) hl (by omega) (by omega)).mono ?_
  rintro e w1 ⟨x1, rfl, p1, q1, st, s1⟩
  have d1 : Hid _ := st.dr
  have s1 : Hid _ := s1
  clear st
  go_wp2_with fail
  refine (sNext sb a len cap zs _ 2 w1 s1.out (HR.out _ (D0.out.trans d1.out)) hl (by omega) (by omega)).mono ?_
  rintro e w2 ⟨x2, rfl, p2, q2, st, s2⟩
  have d2 : Hid _ := d1.out.trans st.dr
  have s2 : Hid _ := s2
  clear st
  go_wp2_with fail
  refine (sChance sb a len cap zs _ 2 w2 s2.out (HR.out _ (D0.out.trans d2.out)) hl (by omega) (by omega)).mono ?_
  rintro e w3 ⟨b3, rfl, st, s3⟩
  have d3 : Hid _ := d2.out.trans st.dr
  have s3 : Hid _ := s3
  clear st
  go_wp2_with fail
  refine (sNext sb a len cap zs _ 300 w3 s3.out (HR.out _ (D0.out.trans d3.out)) hl (by omega) (by omega)).mono ?_
  rintro e w4 ⟨x4, rfl, p4, q4, st, s4⟩
  have d4 : Hid _ := d3.out.trans st.dr
  have s4 : Hid _ := s4
  clear st
  go_wp2_with fail
  refine (sNext sb a len cap zs _ 300 w4 s4.out (HR.out _ (D0.out.trans d4.out)) hl (by omega) (by omega)).mono ?_
  rintro e w5 ⟨x5, rfl, p5, q5, st, s5⟩
  have d5 : Hid _ := d4.out.trans st.dr
  have s5 : Hid _ := s5
  clear st
  go_wp2_with fail
  refine (sNext sb a len cap zs _ 30 w5 s5.out (HR.out _ (D0.out.trans d5.out)) hl (by omega) (by omega)).mono ?_
  rintro e w6 ⟨x6, rfl, p6, q6, st, s6⟩
  have d6 : Hid _ := d5.out.trans st.dr
  have s6 : Hid _ := s6
  clear st
  go_wp2_with fail
  have hp := sPickD sb a len cap zs _ [0, x6] 2 w6 s6.out (HR.out _ (D0.out.trans d6.out)) hl (by omega) (by simp) (by simp)
  simp only [List.length_cons, List.length_nil, List.map_cons, List.map_nil, Nat.zero_add, Nat.reduceAdd] at hp
  refine hp.mono ?_
  clear hp
  rintro e w7 ⟨x7, rfl, m7, st, s7⟩
  have M7 : Hid (0 ≤ x7 ∧ x7 < 30) := by show _ ∧ _; simp only [List.mem_cons, List.not_mem_nil, or_false] at m7; omega
  clear m7
  have d7 : Hid _ := d6.out.trans st
  have s7 : Hid _ := s7
  clear st
  go_wp2_with fail
  have hp := sPickD sb a len cap zs _ [0, 4, 4, 1, 2, 3] 2 w7 s7.out (HR.out _ (D0.out.trans d7.out)) hl (by omega) (by simp) (by simp)
  simp only [List.length_cons, List.length_nil, List.map_cons, List.map_nil, Nat.zero_add, Nat.reduceAdd] at hp
  refine hp.mono ?_
  clear hp
  rintro e w8 ⟨x8, rfl, m8, st, s8⟩
  have M8 : Hid (0 ≤ x8 ∧ x8 ≤ 4) := by show _ ∧ _; simp only [List.mem_cons, List.not_mem_nil, or_false] at m8; omega
  clear m8
  have d8 : Hid _ := d7.out.trans st
  have s8 : Hid _ := s8
  clear st
  have hz8 : W0.heap.size ≤ w8.heap.size := d8.out.size
  have hne : w.heap.size ≠ sb := by omega
  have hne8 : w8.heap.size ≠ sb := by omega
  have hw8 : w.heap.size ≤ w8.heap.size := by omega
  have hsb8 : sb < w8.heap.size := by omega
  have D8 : Hid (Dr sb w w8) := D0.out.trans d8.out
  have C8 : Hid (∀ o, w8.cell? ⟨w.heap.size, o, none⟩ = zSeg[o]? ∧ w8.frozen? ⟨w.heap.size, o, none⟩ = false) := fun o => ⟨(d8.out.cell (p := ⟨w.heap.size, o, none⟩) (by dsimp only; omega) hne).trans (C0.out o).1, (d8.out.frozen (p := ⟨w.heap.size, o, none⟩) (by dsimp only; omega) hne).trans (C0.out o).2⟩
  have hw88 : w.heap.size < w8.heap.size := by omega
  clear d1 d2 d3 d4 d5 d6 d7 d8 s1 s2 s3 s4 s5 s6 s7 C0 D0 S0 z0 HS
  go_wp2_with fail
  refine (sNext sb a len cap zs _ 5 _ (s8.out.alloc _) (HR.out _ (D8.out.then ((Below.refl _ _).alloc (Nat.le_refl _) _) hw8)) hl (by omega) (by omega)).mono ?_
  rintro e w9 ⟨x9, rfl, p9, q9, st, s9'⟩
  have s9 : Hid _ := s9'
  have dd : Hid _ := st.dr
  have D9 : Hid (Dr sb w w9) := (D8.out.then ((Below.refl _ _).alloc (Nat.le_refl _) _) hw8).trans st.dr
  have z9 : w8.heap.size < w9.heap.size := by have := st.size; simp at this; omega
  have y9 : w.heap.size < w9.heap.size := by omega
  have g9 : ∀ o, w9.cell? ⟨w8.heap.size, o, none⟩ = (#[.int .i64 x1, .int .i64 x2, .bool false, .bool b3, .bool false, .int .i64 x4, .int .i64 x5, .int .i64 x7, .int .i64 x8, .int .i64 0, .int .i64 0, .slice none 0 0] : Array Value)[o]? := fun o => by rw [st.cell hne8]; simp [go_sem]
  have f9 : ∀ o, w9.frozen? ⟨w8.heap.size, o, none⟩ = false := fun o => by rw [st.frozen hne8]; simp [go_sem]
  have r9 : ∀ o, w9.cell? ⟨w.heap.size, o, none⟩ = zSeg[o]? := fun o => by rw [st.cell hne, ← (C8.out o).1]; exact (((Below.refl _ _).alloc (Nat.le_refl _) _).cell (by dsimp only; omega))
  have rf9 : ∀ o, w9.frozen? ⟨w.heap.size, o, none⟩ = false := fun o => by rw [st.frozen hne, ← (C8.out o).2]; exact (((Below.refl _ _).alloc (Nat.le_refl _) _).frozen (by dsimp only; omega))
  unfold zSeg at r9
  clear st s9' dd s8 C8
  by_cases h8 : x8 = 0
  · have h8a : (x8 == 0) = true := by simp [h8]
    have h8b : (x8 != 0) = false := by simp [h8]
    by_cases h9 : x9 = 0
    · have h9a : (x9 == 0) = true := by simp [h9]
      go_wp2_with fail
      refine bodyPost_ret (v := .agg #[.int .i64 x1, .int .i64 x2, .bool true, .bool b3, .bool false, .int .i64 x4, .int .i64 x5, .int .i64 x7, .int .i64 x8, .int .i64 0, .int .i64 0, .slice none 0 0]) (by simp [results, Try.results98, go_sem, g9, r9, f9, rf9, Nat.ne_of_lt hw88, Nat.ne_of_gt hw88, h8]) rfl ⟨⟨x1, x2, true, b3, false, x4, x5, x7, x8, 0, 0, []⟩, .slice none 0 0, rfl, ?_, ?_, ⟨p5, q5⟩, (by have := M7.out; have := M8.out; unfold Seg.Rg; dsimp only; omega), ?_, ?_⟩
      · exact OB.empty _ _
      · simp
      · exact D9.out.then (B := w.heap.size) (by go_grown) (Nat.le_refl _)
      · exact (s9.out.below (B := w.heap.size) (by go_grown) hlt).mono (by omega)
    · have h9a : (x9 == 0) = false := by simp [h9]
      by_cases h9' : x9 = 1
      · have h9b : (x9 == 1) = true := by simp [h9']
        go_wp2_with fail
        refine bodyPost_ret (v := .agg #[.int .i64 x1, .int .i64 x2, .bool false, .bool b3, .bool true, .int .i64 x4, .int .i64 x5, .int .i64 x7, .int .i64 x8, .int .i64 0, .int .i64 0, .slice none 0 0]) (by simp [results, Try.results98, go_sem, g9, r9, f9, rf9, Nat.ne_of_lt hw88, Nat.ne_of_gt hw88, h8]) rfl ⟨⟨x1, x2, false, b3, true, x4, x5, x7, x8, 0, 0, []⟩, .slice none 0 0, rfl, ?_, ?_, ⟨p5, q5⟩, (by have := M7.out; have := M8.out; unfold Seg.Rg; dsimp only; omega), ?_, ?_⟩
        · exact OB.empty _ _
        · simp
        · exact D9.out.then (B := w.heap.size) (by go_grown) (Nat.le_refl _)
        · exact (s9.out.below (B := w.heap.size) (by go_grown) hlt).mono (by omega)
      · have h9b : (x9 == 1) = false := by simp [h9']
        go_wp2_with fail
        refine (sNext sb a len cap zs _ 9 _ (s9.out.below (B := w8.heap.size) (by go_grown) hsb8) (HR.out _ (D9.out.then (B := w8.heap.size) (by go_grown) hw8)) hl (by omega) (by omega)).mono ?_
        rintro e w10 ⟨x10, rfl, p10, q10, st, s10'⟩
        have s10 : Hid _ := s10'
        have D10 : Hid (Dr sb w w10) := (D9.out.then (B := w8.heap.size) (by go_grown) hw8).trans st.dr
        have z10 : w8.heap.size < w10.heap.size := by have := st.size; first | omega | (simp at this; omega)
        have y10 : w.heap.size < w10.heap.size := by omega
        have g10 : ∀ o, w10.cell? ⟨w8.heap.size, o, none⟩ = (#[.int .i64 x1, .int .i64 x2, .bool false, .bool b3, .bool false, .int .i64 x4, .int .i64 x5, .int .i64 x7, .int .i64 x8, .int .i64 0, .int .i64 0, .slice none 0 0] : Array Value)[o]? := fun o => by
          rw [st.cell hne8]
          simp [go_sem, g9]
        have f10 : ∀ o, w10.frozen? ⟨w8.heap.size, o, none⟩ = false := fun o => by rw [st.frozen hne8]; simp [go_sem, f9]
        have r10 : ∀ o, w10.cell? ⟨w.heap.size, o, none⟩ = (#[.int .i64 0, .int .i64 0, .bool false, .bool false, .bool false, .int .i64 0, .int .i64 0, .int .i64 0, .int .i64 0, .int .i64 0, .int .i64 0, .slice none 0 0] : Array Value)[o]? := fun o => by rw [st.cell hne]; simp [go_sem, r9, Nat.ne_of_lt hw88, Nat.ne_of_gt hw88]
        have rf10 : ∀ o, w10.frozen? ⟨w.heap.size, o, none⟩ = false := fun o => by rw [st.frozen hne]; simp [go_sem, rf9, Nat.ne_of_lt hw88, Nat.ne_of_gt hw88]
        clear st s10'
        clear g9 f9 r9 rf9 s9 z9 y9
        go_wp2_with fail
        refine (sSome sb a len cap zs _ x10 w10 s10.out (HR.out _ D10.out) hl (by omega) p10 (by omega)).mono ?_
        rintro e w11 ⟨v11, rfl, l11, ho, hlen, st, s11'⟩
        have O11 : Hid _ := ho
        have hb11 : w8.heap.size < w10.heap.size := z10
        have hlen : l11.length ≤ 8 := by omega
        obtain ⟨a11, c11, hv, -⟩ := ho.rb
        subst hv
        have H11 : Hid (l11.length ≤ 8) := hlen
        generalize hN : l11.length = N at *
        have HN : Hid (l11.length = N) := hN
        clear ho hN
        have s11 : Hid _ := s11'
        have D11 : Hid (Dr sb w w11) := (D10.out.then (B := w8.heap.size) (by go_grown) hw8).trans st
        have z11 : w8.heap.size < w11.heap.size := by have := st.size; first | omega | (simp at this; omega)
        have y11 : w.heap.size < w11.heap.size := by omega
        have g11 : ∀ o, w11.cell? ⟨w8.heap.size, o, none⟩ = (#[.int .i64 x1, .int .i64 x2, .bool false, .bool b3, .bool false, .int .i64 x4, .int .i64 x5, .int .i64 x7, .int .i64 x8, .int .i64 0, .int .i64 0, .slice none 0 0] : Array Value)[o]? := fun o => by
          rw [st.cell (by first | (simp; omega) | omega) hne8]
          simp [go_sem, g10]
        have f11 : ∀ o, w11.frozen? ⟨w8.heap.size, o, none⟩ = false := fun o => by rw [st.frozen (by first | (simp; omega) | omega) hne8]; simp [go_sem, f10]
        have r11 : ∀ o, w11.cell? ⟨w.heap.size, o, none⟩ = (#[.int .i64 0, .int .i64 0, .bool false, .bool false, .bool false, .int .i64 0, .int .i64 0, .int .i64 0, .int .i64 0, .int .i64 0, .int .i64 0, .slice none 0 0] : Array Value)[o]? := fun o => by rw [st.cell (by first | (simp; omega) | omega) hne]; simp [go_sem, r10, Nat.ne_of_lt hw88, Nat.ne_of_gt hw88]
        have rf11 : ∀ o, w11.frozen? ⟨w.heap.size, o, none⟩ = false := fun o => by rw [st.frozen (by first | (simp; omega) | omega) hne]; simp [go_sem, rf10, Nat.ne_of_lt hw88, Nat.ne_of_gt hw88]
        clear st s11'
        clear g10 f10 r10 rf10 s10
        go_wp2_with fail
        have hlen : l11.length ≤ 8 := by rw [HN.out]; exact H11.out
        refine bodyPost_ret (v := .agg #[.int .i64 x1, .int .i64 x2, .bool false, .bool b3, .bool false, .int .i64 x4, .int .i64 x5, .int .i64 x7, .int .i64 x8, .int .i64 0, .int .i64 0, .slice a11 N c11]) (by simp [results, Try.results98, go_sem, g11, r11, f11, rf11, Nat.ne_of_lt hw88, Nat.ne_of_gt hw88, h8]) rfl ⟨⟨x1, x2, false, b3, false, x4, x5, x7, x8, 0, 0, l11⟩, .slice a11 N c11, rfl, ?_, ?_, ⟨p5, q5⟩, (by have := M7.out; have := M8.out; unfold Seg.Rg; dsimp only; omega), ?_, ?_⟩
        · refine OB.mono (base := w10.heap.size) (OB.keeps O11.out fun g hg => ?_) (by omega)
          repeat rw [Below.heap_setCell _ _ _ _ (by dsimp only; omega)]
        · exact hlen
        · exact D11.out.then (B := w.heap.size) (by go_grown) (Nat.le_refl _)
        · exact (s11.out.below (B := w.heap.size) (by go_grown) hlt).mono (by omega)
  · have h8a : (x8 == 0) = false := by simp [h8]
    have h8b : (x8 != 0) = true := by simp [h8]
    by_cases h9 : x9 = 0
    · have h9a : (x9 == 0) = true := by simp [h9]
      go_wp2_with fail
      refine (sNext sb a len cap zs _ 99 _ (s9.out.below (B := w8.heap.size) (by go_grown) hsb8) (HR.out _ (D9.out.then (B := w8.heap.size) (by go_grown) hw8)) hl (by omega) (by omega)).mono ?_
      rintro e w12 ⟨xa, rfl, p12, q12, st, s12'⟩
      have s12 : Hid _ := s12'
      have D12 : Hid (Dr sb w w12) := (D9.out.then (B := w8.heap.size) (by go_grown) hw8).trans st.dr
      have z12 : w8.heap.size < w12.heap.size := by have := st.size; first | omega | (simp at this; omega)
      have y12 : w.heap.size < w12.heap.size := by omega
      have g12 : ∀ o, w12.cell? ⟨w8.heap.size, o, none⟩ = (#[.int .i64 x1, .int .i64 x2, .bool true, .bool b3, .bool false, .int .i64 x4, .int .i64 x5, .int .i64 x7, .int .i64 x8, .int .i64 0, .int .i64 0, .slice none 0 0] : Array Value)[o]? := fun o => by
        rw [st.cell hne8]
        by_cases ho : o = 2
        · subst ho; simp [go_sem, g9, f9]
        · simp [go_sem, g9, f9, ho]
          try (rcases o with _ | _ | _ | _ | _ | _ | _ | _ | _ | _ | _ | _ | o <;> simp at ho ⊢)
      have f12 : ∀ o, w12.frozen? ⟨w8.heap.size, o, none⟩ = false := fun o => by rw [st.frozen hne8]; simp [go_sem, f9]
      have r12 : ∀ o, w12.cell? ⟨w.heap.size, o, none⟩ = (#[.int .i64 0, .int .i64 0, .bool false, .bool false, .bool false, .int .i64 0, .int .i64 0, .int .i64 0, .int .i64 0, .int .i64 0, .int .i64 0, .slice none 0 0] : Array Value)[o]? := fun o => by rw [st.cell hne]; simp [go_sem, r9, Nat.ne_of_lt hw88, Nat.ne_of_gt hw88]
      have rf12 : ∀ o, w12.frozen? ⟨w.heap.size, o, none⟩ = false := fun o => by rw [st.frozen hne]; simp [go_sem, rf9, Nat.ne_of_lt hw88, Nat.ne_of_gt hw88]
      have SB12 : Hid (∀ b, b ≠ sb → _) := st.block
      clear st s12'
      clear g9 f9 r9 rf9 s9
      go_wp2_with fail
      refine (sNext sb a len cap zs _ 60000 _ (s12.out.below (B := w8.heap.size) (by go_grown) hsb8) (HR.out _ (D12.out.then (B := w8.heap.size) (by go_grown) hw8)) hl (by omega) (by omega)).mono ?_
      rintro e w13 ⟨xb, rfl, p13, q13, st, s13'⟩
      have s13 : Hid _ := s13'
      have D13 : Hid (Dr sb w w13) := (D12.out.then (B := w8.heap.size) (by go_grown) hw8).trans st.dr
      have z13 : w8.heap.size < w13.heap.size := by have := st.size; first | omega | (simp at this; omega)
      have y13 : w.heap.size < w13.heap.size := by omega
      have g13 : ∀ o, w13.cell? ⟨w8.heap.size, o, none⟩ = (#[.int .i64 x1, .int .i64 x2, .bool true, .bool b3, .bool false, .int .i64 x4, .int .i64 x5, .int .i64 x7, .int .i64 x8, .int .i64 xa, .int .i64 0, .slice none 0 0] : Array Value)[o]? := fun o => by
        rw [st.cell hne8]
        by_cases ho : o = 9
        · subst ho; simp [go_sem, g12, f12]
        · simp [go_sem, g12, f12, ho]
          try (rcases o with _ | _ | _ | _ | _ | _ | _ | _ | _ | _ | _ | _ | o <;> simp at ho ⊢)
      have f13 : ∀ o, w13.frozen? ⟨w8.heap.size, o, none⟩ = false := fun o => by rw [st.frozen hne8]; simp [go_sem, f12]
      have r13 : ∀ o, w13.cell? ⟨w.heap.size, o, none⟩ = (#[.int .i64 0, .int .i64 0, .bool false, .bool false, .bool false, .int .i64 0, .int .i64 0, .int .i64 0, .int .i64 0, .int .i64 0, .int .i64 0, .slice none 0 0] : Array Value)[o]? := fun o => by rw [st.cell hne]; simp [go_sem, r12, Nat.ne_of_lt hw88, Nat.ne_of_gt hw88]
      have rf13 : ∀ o, w13.frozen? ⟨w.heap.size, o, none⟩ = false := fun o => by rw [st.frozen hne]; simp [go_sem, rf12, Nat.ne_of_lt hw88, Nat.ne_of_gt hw88]
      have SB13 : Hid (∀ b, b ≠ sb → _) := st.block
      clear st s13'
      clear g12 f12 r12 rf12 s12
      go_wp2_with fail
      refine bodyPost_ret (v := .agg #[.int .i64 x1, .int .i64 x2, .bool true, .bool b3, .bool false, .int .i64 x4, .int .i64 x5, .int .i64 x7, .int .i64 x8, .int .i64 xa, .int .i64 xb, .slice none 0 0]) (by simp [results, Try.results98, go_sem, g13, r13, f13, rf13, Nat.ne_of_lt hw88, Nat.ne_of_gt hw88]) rfl ⟨⟨x1, x2, true, b3, false, x4, x5, x7, x8, xa, xb, []⟩, .slice none 0 0, rfl, ?_, ?_, ⟨p5, q5⟩, (by have := M7.out; have := M8.out; unfold Seg.Rg; dsimp only; omega), ?_, ?_⟩
      · exact OB.empty _ _
      · simp
      · exact D13.out.then (B := w.heap.size) (by go_grown) (Nat.le_refl _)
      · exact (s13.out.below (B := w.heap.size) (by go_grown) hlt).mono (by omega)
    · have h9a : (x9 == 0) = false := by simp [h9]
      by_cases h9' : x9 = 1
      · have h9b : (x9 == 1) = true := by simp [h9']
        go_wp2_with fail
        refine (sNext sb a len cap zs _ 99 _ (s9.out.below (B := w8.heap.size) (by go_grown) hsb8) (HR.out _ (D9.out.then (B := w8.heap.size) (by go_grown) hw8)) hl (by omega) (by omega)).mono ?_
        rintro e w12 ⟨xa, rfl, p12, q12, st, s12'⟩
        have s12 : Hid _ := s12'
        have D12 : Hid (Dr sb w w12) := (D9.out.then (B := w8.heap.size) (by go_grown) hw8).trans st.dr
        have z12 : w8.heap.size < w12.heap.size := by have := st.size; first | omega | (simp at this; omega)
        have y12 : w.heap.size < w12.heap.size := by omega
        have g12 : ∀ o, w12.cell? ⟨w8.heap.size, o, none⟩ = (#[.int .i64 x1, .int .i64 x2, .bool false, .bool b3, .bool true, .int .i64 x4, .int .i64 x5, .int .i64 x7, .int .i64 x8, .int .i64 0, .int .i64 0, .slice none 0 0] : Array Value)[o]? := fun o => by
          rw [st.cell hne8]
          by_cases ho : o = 4
          · subst ho; simp [go_sem, g9, f9]
          · simp [go_sem, g9, f9, ho]
            try (rcases o with _ | _ | _ | _ | _ | _ | _ | _ | _ | _ | _ | _ | o <;> simp at ho ⊢)
        have f12 : ∀ o, w12.frozen? ⟨w8.heap.size, o, none⟩ = false := fun o => by rw [st.frozen hne8]; simp [go_sem, f9]
        have r12 : ∀ o, w12.cell? ⟨w.heap.size, o, none⟩ = (#[.int .i64 0, .int .i64 0, .bool false, .bool false, .bool false, .int .i64 0, .int .i64 0, .int .i64 0, .int .i64 0, .int .i64 0, .int .i64 0, .slice none 0 0] : Array Value)[o]? := fun o => by rw [st.cell hne]; simp [go_sem, r9, Nat.ne_of_lt hw88, Nat.ne_of_gt hw88]
        have rf12 : ∀ o, w12.frozen? ⟨w.heap.size, o, none⟩ = false := fun o => by rw [st.frozen hne]; simp [go_sem, rf9, Nat.ne_of_lt hw88, Nat.ne_of_gt hw88]
        have SB12 : Hid (∀ b, b ≠ sb → _) := st.block
        clear st s12'
        clear g9 f9 r9 rf9 s9
        go_wp2_with fail
        refine (sNext sb a len cap zs _ 60000 _ (s12.out.below (B := w8.heap.size) (by go_grown) hsb8) (HR.out _ (D12.out.then (B := w8.heap.size) (by go_grown) hw8)) hl (by omega) (by omega)).mono ?_
        rintro e w13 ⟨xb, rfl, p13, q13, st, s13'⟩
        have s13 : Hid _ := s13'
        have D13 : Hid (Dr sb w w13) := (D12.out.then (B := w8.heap.size) (by go_grown) hw8).trans st.dr
        have z13 : w8.heap.size < w13.heap.size := by have := st.size; first | omega | (simp at this; omega)
        have y13 : w.heap.size < w13.heap.size := by omega
        have g13 : ∀ o, w13.cell? ⟨w8.heap.size, o, none⟩ = (#[.int .i64 x1, .int .i64 x2, .bool false, .bool b3, .bool true, .int .i64 x4, .int .i64 x5, .int .i64 x7, .int .i64 x8, .int .i64 xa, .int .i64 0, .slice none 0 0] : Array Value)[o]? := fun o => by
          rw [st.cell hne8]
          by_cases ho : o = 9
          · subst ho; simp [go_sem, g12, f12]
          · simp [go_sem, g12, f12, ho]
            try (rcases o with _ | _ | _ | _ | _ | _ | _ | _ | _ | _ | _ | _ | o <;> simp at ho ⊢)
        have f13 : ∀ o, w13.frozen? ⟨w8.heap.size, o, none⟩ = false := fun o => by rw [st.frozen hne8]; simp [go_sem, f12]
        have r13 : ∀ o, w13.cell? ⟨w.heap.size, o, none⟩ = (#[.int .i64 0, .int .i64 0, .bool false, .bool false, .bool false, .int .i64 0, .int .i64 0, .int .i64 0, .int .i64 0, .int .i64 0, .int .i64 0, .slice none 0 0] : Array Value)[o]? := fun o => by rw [st.cell hne]; simp [go_sem, r12, Nat.ne_of_lt hw88, Nat.ne_of_gt hw88]
        have rf13 : ∀ o, w13.frozen? ⟨w.heap.size, o, none⟩ = false := fun o => by rw [st.frozen hne]; simp [go_sem, rf12, Nat.ne_of_lt hw88, Nat.ne_of_gt hw88]
        have SB13 : Hid (∀ b, b ≠ sb → _) := st.block
        clear st s13'
        clear g12 f12 r12 rf12 s12
        go_wp2_with fail
        refine bodyPost_ret (v := .agg #[.int .i64 x1, .int .i64 x2, .bool false, .bool b3, .bool true, .int .i64 x4, .int .i64 x5, .int .i64 x7, .int .i64 x8, .int .i64 xa, .int .i64 xb, .slice none 0 0]) (by simp [results, Try.results98, go_sem, g13, r13, f13, rf13, Nat.ne_of_lt hw88, Nat.ne_of_gt hw88]) rfl ⟨⟨x1, x2, false, b3, true, x4, x5, x7, x8, xa, xb, []⟩, .slice none 0 0, rfl, ?_, ?_, ⟨p5, q5⟩, (by have := M7.out; have := M8.out; unfold Seg.Rg; dsimp only; omega), ?_, ?_⟩
        · exact OB.empty _ _
        · simp
        · exact D13.out.then (B := w.heap.size) (by go_grown) (Nat.le_refl _)
        · exact (s13.out.below (B := w.heap.size) (by go_grown) hlt).mono (by omega)
      · have h9b : (x9 == 1) = false := by simp [h9']
        go_wp2_with fail
        refine (sNext sb a len cap zs _ 9 _ (s9.out.below (B := w8.heap.size) (by go_grown) hsb8) (HR.out _ (D9.out.then (B := w8.heap.size) (by go_grown) hw8)) hl (by omega) (by omega)).mono ?_
        rintro e w10 ⟨x10, rfl, p10, q10, st, s10'⟩
        have s10 : Hid _ := s10'
        have D10 : Hid (Dr sb w w10) := (D9.out.then (B := w8.heap.size) (by go_grown) hw8).trans st.dr
        have z10 : w8.heap.size < w10.heap.size := by have := st.size; first | omega | (simp at this; omega)
        have y10 : w.heap.size < w10.heap.size := by omega
        have g10 : ∀ o, w10.cell? ⟨w8.heap.size, o, none⟩ = (#[.int .i64 x1, .int .i64 x2, .bool false, .bool b3, .bool false, .int .i64 x4, .int .i64 x5, .int .i64 x7, .int .i64 x8, .int .i64 0, .int .i64 0, .slice none 0 0] : Array Value)[o]? := fun o => by
          rw [st.cell hne8]
          simp [go_sem, g9]
        have f10 : ∀ o, w10.frozen? ⟨w8.heap.size, o, none⟩ = false := fun o => by rw [st.frozen hne8]; simp [go_sem, f9]
        have r10 : ∀ o, w10.cell? ⟨w.heap.size, o, none⟩ = (#[.int .i64 0, .int .i64 0, .bool false, .bool false, .bool false, .int .i64 0, .int .i64 0, .int .i64 0, .int .i64 0, .int .i64 0, .int .i64 0, .slice none 0 0] : Array Value)[o]? := fun o => by rw [st.cell hne]; simp [go_sem, r9, Nat.ne_of_lt hw88, Nat.ne_of_gt hw88]
        have rf10 : ∀ o, w10.frozen? ⟨w.heap.size, o, none⟩ = false := fun o => by rw [st.frozen hne]; simp [go_sem, rf9, Nat.ne_of_lt hw88, Nat.ne_of_gt hw88]
        clear st s10'
        clear g9 f9 r9 rf9 s9 z9 y9
        go_wp2_with fail
        refine (sSome sb a len cap zs _ x10 w10 s10.out (HR.out _ D10.out) hl (by omega) p10 (by omega)).mono ?_
        rintro e w11 ⟨v11, rfl, l11, ho, hlen, st, s11'⟩
        have O11 : Hid _ := ho
        have hb11 : w8.heap.size < w10.heap.size := z10
        have hlen : l11.length ≤ 8 := by omega
        obtain ⟨a11, c11, hv, -⟩ := ho.rb
        subst hv
        have H11 : Hid (l11.length ≤ 8) := hlen
        generalize hN : l11.length = N at *
        have HN : Hid (l11.length = N) := hN
        clear ho hN
        have s11 : Hid _ := s11'
        have D11 : Hid (Dr sb w w11) := (D10.out.then (B := w8.heap.size) (by go_grown) hw8).trans st
        have z11 : w8.heap.size < w11.heap.size := by have := st.size; first | omega | (simp at this; omega)
        have y11 : w.heap.size < w11.heap.size := by omega
        have g11 : ∀ o, w11.cell? ⟨w8.heap.size, o, none⟩ = (#[.int .i64 x1, .int .i64 x2, .bool false, .bool b3, .bool false, .int .i64 x4, .int .i64 x5, .int .i64 x7, .int .i64 x8, .int .i64 0, .int .i64 0, .slice none 0 0] : Array Value)[o]? := fun o => by
          rw [st.cell (by first | (simp; omega) | omega) hne8]
          simp [go_sem, g10]
        have f11 : ∀ o, w11.frozen? ⟨w8.heap.size, o, none⟩ = false := fun o => by rw [st.frozen (by first | (simp; omega) | omega) hne8]; simp [go_sem, f10]
        have r11 : ∀ o, w11.cell? ⟨w.heap.size, o, none⟩ = (#[.int .i64 0, .int .i64 0, .bool false, .bool false, .bool false, .int .i64 0, .int .i64 0, .int .i64 0, .int .i64 0, .int .i64 0, .int .i64 0, .slice none 0 0] : Array Value)[o]? := fun o => by rw [st.cell (by first | (simp; omega) | omega) hne]; simp [go_sem, r10, Nat.ne_of_lt hw88, Nat.ne_of_gt hw88]
        have rf11 : ∀ o, w11.frozen? ⟨w.heap.size, o, none⟩ = false := fun o => by rw [st.frozen (by first | (simp; omega) | omega) hne]; simp [go_sem, rf10, Nat.ne_of_lt hw88, Nat.ne_of_gt hw88]
        clear st s11'
        clear g10 f10 r10 rf10 s10
        go_wp2_with fail
        refine (sNext sb a len cap zs _ 99 _ (s11.out.below (B := w8.heap.size) (by go_grown) hsb8) (HR.out _ (D11.out.then (B := w8.heap.size) (by go_grown) hw8)) hl (by omega) (by omega)).mono ?_
        rintro e w12 ⟨xa, rfl, p12, q12, st, s12'⟩
        have s12 : Hid _ := s12'
        have D12 : Hid (Dr sb w w12) := (D11.out.then (B := w8.heap.size) (by go_grown) hw8).trans st.dr
        have z12 : w8.heap.size < w12.heap.size := by have := st.size; first | omega | (simp at this; omega)
        have y12 : w.heap.size < w12.heap.size := by omega
        have g12 : ∀ o, w12.cell? ⟨w8.heap.size, o, none⟩ = (#[.int .i64 x1, .int .i64 x2, .bool false, .bool b3, .bool false, .int .i64 x4, .int .i64 x5, .int .i64 x7, .int .i64 x8, .int .i64 0, .int .i64 0, .slice a11 N c11] : Array Value)[o]? := fun o => by
          rw [st.cell hne8]
          by_cases ho : o = 11
          · subst ho; simp [go_sem, g11, f11]
          · simp [go_sem, g11, f11, ho]
            try (rcases o with _ | _ | _ | _ | _ | _ | _ | _ | _ | _ | _ | _ | o <;> simp at ho ⊢)
        have f12 : ∀ o, w12.frozen? ⟨w8.heap.size, o, none⟩ = false := fun o => by rw [st.frozen hne8]; simp [go_sem, f11]
        have r12 : ∀ o, w12.cell? ⟨w.heap.size, o, none⟩ = (#[.int .i64 0, .int .i64 0, .bool false, .bool false, .bool false, .int .i64 0, .int .i64 0, .int .i64 0, .int .i64 0, .int .i64 0, .int .i64 0, .slice none 0 0] : Array Value)[o]? := fun o => by rw [st.cell hne]; simp [go_sem, r11, Nat.ne_of_lt hw88, Nat.ne_of_gt hw88]
        have rf12 : ∀ o, w12.frozen? ⟨w.heap.size, o, none⟩ = false := fun o => by rw [st.frozen hne]; simp [go_sem, rf11, Nat.ne_of_lt hw88, Nat.ne_of_gt hw88]
        have SB12 : Hid (∀ b, b ≠ sb → _) := st.block
        clear st s12'
        have O12 : Hid (OB w12 w10.heap.size (.slice a11 N c11) l11) := OB.keeps (OB.keeps O11.out (fun g hg => by rw [Below.heap_setCell _ _ _ _ (by dsimp only; omega)])) (fun g hg => SB12.out g (by omega))
        clear g11 f11 r11 rf11 s11
        go_wp2_with fail
        refine (sNext sb a len cap zs _ 60000 _ (s12.out.below (B := w8.heap.size) (by go_grown) hsb8) (HR.out _ (D12.out.then (B := w8.heap.size) (by go_grown) hw8)) hl (by omega) (by omega)).mono ?_
        rintro e w13 ⟨xb, rfl, p13, q13, st, s13'⟩
        have s13 : Hid _ := s13'
        have D13 : Hid (Dr sb w w13) := (D12.out.then (B := w8.heap.size) (by go_grown) hw8).trans st.dr
        have z13 : w8.heap.size < w13.heap.size := by have := st.size; first | omega | (simp at this; omega)
        have y13 : w.heap.size < w13.heap.size := by omega
        have g13 : ∀ o, w13.cell? ⟨w8.heap.size, o, none⟩ = (#[.int .i64 x1, .int .i64 x2, .bool false, .bool b3, .bool false, .int .i64 x4, .int .i64 x5, .int .i64 x7, .int .i64 x8, .int .i64 xa, .int .i64 0, .slice a11 N c11] : Array Value)[o]? := fun o => by
          rw [st.cell hne8]
          by_cases ho : o = 9
          · subst ho; simp [go_sem, g12, f12]
          · simp [go_sem, g12, f12, ho]
            try (rcases o with _ | _ | _ | _ | _ | _ | _ | _ | _ | _ | _ | _ | o <;> simp at ho ⊢)
        have f13 : ∀ o, w13.frozen? ⟨w8.heap.size, o, none⟩ = false := fun o => by rw [st.frozen hne8]; simp [go_sem, f12]
        have r13 : ∀ o, w13.cell? ⟨w.heap.size, o, none⟩ = (#[.int .i64 0, .int .i64 0, .bool false, .bool false, .bool false, .int .i64 0, .int .i64 0, .int .i64 0, .int .i64 0, .int .i64 0, .int .i64 0, .slice none 0 0] : Array Value)[o]? := fun o => by rw [st.cell hne]; simp [go_sem, r12, Nat.ne_of_lt hw88, Nat.ne_of_gt hw88]
        have rf13 : ∀ o, w13.frozen? ⟨w.heap.size, o, none⟩ = false := fun o => by rw [st.frozen hne]; simp [go_sem, rf12, Nat.ne_of_lt hw88, Nat.ne_of_gt hw88]
        have SB13 : Hid (∀ b, b ≠ sb → _) := st.block
        clear st s13'
        have O13 : Hid (OB w13 w10.heap.size (.slice a11 N c11) l11) := OB.keeps (OB.keeps O12.out (fun g hg => by rw [Below.heap_setCell _ _ _ _ (by dsimp only; omega)])) (fun g hg => SB13.out g (by omega))
        clear g12 f12 r12 rf12 s12
        go_wp2_with fail
        have hlen : l11.length ≤ 8 := by rw [HN.out]; exact H11.out
        refine bodyPost_ret (v := .agg #[.int .i64 x1, .int .i64 x2, .bool false, .bool b3, .bool false, .int .i64 x4, .int .i64 x5, .int .i64 x7, .int .i64 x8, .int .i64 xa, .int .i64 xb, .slice a11 N c11]) (by simp [results, Try.results98, go_sem, g13, r13, f13, rf13, Nat.ne_of_lt hw88, Nat.ne_of_gt hw88]) rfl ⟨⟨x1, x2, false, b3, false, x4, x5, x7, x8, xa, xb, l11⟩, .slice a11 N c11, rfl, ?_, ?_, ⟨p5, q5⟩, (by have := M7.out; have := M8.out; unfold Seg.Rg; dsimp only; omega), ?_, ?_⟩
        · refine OB.mono (base := w10.heap.size) (OB.keeps O13.out fun g hg => ?_) (by omega)
          repeat rw [Below.heap_setCell _ _ _ _ (by dsimp only; omega)]
        · exact hlen
        · exact D13.out.then (B := w.heap.size) (by go_grown) (Nat.le_refl _)
        · exact (s13.out.below (B := w.heap.size) (by go_grown) hlt).mono (by omega)
end Go.Proofs.Ytmiomnpfjigojaa
