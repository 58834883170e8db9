/- Bytes that are drawn for UnpackSegment; nothing that was in memory turns; no condition. -/
import Derived.Test.YtmiomnpfjigojaaRows
import Derived.Test.YtmiomnpfjigojaaBase
import Derived.Test.YtmiomnpfjigojaaDraws
import Derived.Test.YtmiomnpfjigojaaBytes
import Derived.Test.YtmiomnpfjigojaaAppBytes
import Derived.Test.YtmiomnpfjigojaaApp
import Derived.Test.YtmiomnpfjigojaaSeg
import Derived.Test.YtmiomnpfjigojaaLaw
import Derived.Test.YtmiomnpfjigojaaSpecPack
import Derived.Test.YtmiomnpfjigojaaDrawSeg
import Derived.Test.YtmiomnpfjigojaaDrawSeg2
import Derived.Test.YtmiomnpfjigojaaDrawSeg3
import Derived.Test.YtmiomnpfjigojaaPackDef
import Derived.Test.YtmiomnpfjigojaaSpecL2
namespace Go.Proofs.Ytmiomnpfjigojaa
open Go.RowKit
set_option linter.unusedVariables false
set_option linter.unusedSimpArgs false

/-- A row of bytes, from its block's beginning on, that can be read and written. -/
structure Ro (w : World) (g : Nat) (L : List Int) : Prop where
  bd : ∀ x ∈ L, 0 ≤ x ∧ x ≤ 255
  cell : ∀ i, i < L.length → w.cell? ⟨g, i, none⟩ = some (.int .u8 (L.getD i 0))
  fz : ∀ i, w.frozen? ⟨g, i, none⟩ = false
theorem Ro.rb {w : World} {g : Nat} {L : List Int} (h : Ro w g L) : RB w (some ⟨g, 0, none⟩) L := ⟨h.bd, Or.inr ⟨g, 0, rfl, fun i hi => by rw [Nat.zero_add]; exact h.cell i hi⟩⟩
theorem Ro.take {w : World} {g : Nat} {L : List Int} (h : Ro w g L) (k : Nat) : RB w (some ⟨g, 0, none⟩) (L.take k) := ⟨fun x hx => h.bd x (List.mem_of_mem_take hx), Or.inr ⟨g, 0, rfl, fun i hi => by
  have hi' : i < k ∧ i < L.length := by rw [List.length_take] at hi; omega
  rw [Nat.zero_add]
  refine (h.cell i hi'.2).trans ?_
  rw [List.getD_eq_getElem?_getD, List.getD_eq_getElem?_getD, List.getElem?_take_of_lt hi'.1]⟩⟩
theorem Ro.set {w : World} {g : Nat} {L : List Int} (h : Ro w g L) (i : Nat) (hi : i < L.length) (x : Int) (hx : 0 ≤ x ∧ x ≤ 255) : Ro (w.setCell ⟨g, i, none⟩ (.int .u8 x)) g (L.set i x) := by
  refine ⟨fun y hy => ?_, fun j hj => ?_, fun j => ?_⟩
  · rcases List.mem_or_eq_of_mem_set hy with h1 | h1
    · exact h.bd y h1
    · rw [h1]; exact hx
  · rw [List.length_set] at hj
    have hc := h.cell j hj
    by_cases e : j = i
    · subst e
      simp [go_sem, hc, List.getD_eq_getElem?_getD, hj]
    · have e' : i ≠ j := fun h => e h.symm
      simp [go_sem, hc, List.getD_eq_getElem?_getD, e, e']
  · simp [h.fz j]
theorem Ro.step {w w' : World} {sb g : Nat} {L : List Int} (h : Ro w g L) (st : Step sb w w') (hne : g ≠ sb) : Ro w' g L :=
  ⟨h.bd, fun i hi => (st.cell (p := ⟨g, i, none⟩) hne).trans (h.cell i hi), fun i => (st.frozen (p := ⟨g, i, none⟩) hne).trans (h.fz i)⟩
theorem OB.ro {w : World} {base : Nat} {v : Value} {L : List Int} (h : OB w base v L) (hp : 0 < L.length) : ∃ g c, v = .slice (some ⟨g, 0, none⟩) L.length c ∧ base ≤ g ∧ g < w.heap.size ∧ L.length ≤ c ∧ c ≤ 9223372036854775807 ∧ Ro w g L := by
  have h0 := h.own
  have hlt := h.own.lt
  obtain ⟨h1, ⟨rfl, hz⟩ | ⟨g, cap, cur, rfl, hg, hh, hc, hm, hs, ht⟩⟩ := h.own
  · omega
  · refine ⟨g, cap, rfl, hg, (hlt g rfl).2, hc, by unfold maxLen at hm; omega, h.bd, fun i hi => ?_, fun i => h0.frozenAt i⟩
    have := h0.cellAt i (by omega)
    rw [this, List.getElem?_map, List.getD_eq_getElem?_getD, List.getElem?_eq_getElem hi]
    rfl
theorem ok_of_rg {s : Seg} (h : s.Rg) (ha : 0 ≤ s.ack ∧ s.ack < 300) (hl : s.load.length ≤ 8) : s.Ok := by
  obtain ⟨h1, h2, h3, h4, h5, h6, h7⟩ := h
  exact ⟨by omega, by omega, by omega, by omega, by omega, by omega, by omega, by omega, hl⟩

set_option maxRecDepth 8000 in
set_option maxHeartbeats 4000000 in
theorem sWire (sb : Nat) (a : Option Addr) (len cap : Nat) (zs : List Int) (K : Int) (w : World)
    (hs : Src w sb (.slice a len cap) K) (hr : BRow .u8 w a len cap zs) (hl : RowLt sb a zs) (hK : K ≤ 600000) :
    Calls Try.prog 61 #[.pointer (some ⟨sb, 0, none⟩)] w fun e w' => ∃ (l : List Int) (g c : Nat), e = .returned (.slice (some ⟨g, 0, none⟩) l.length c) ∧ RB w' (some ⟨g, 0, none⟩) l ∧ (l.length ≤ c ∧ c ≤ 9223372036854775807) ∧ l.length ≤ 26 ∧ Dr sb w w' := by
  have hlt := hs.lt
  have HR : Hid (∀ W, Dr sb w W → BRow .u8 W a len cap zs) := fun W h => hr.below hl (h.below (Nat.le_of_lt hlt))
  have HS : Hid _ := hs
  clear hr hs
  go_enter Try.func61, Try.ntmps61
  go_wp2_with fail
  refine (sSeg sb a len cap zs _ w HS.out (HR.out _ (Dr.refl _ _)) hl (by omega)).mono ?_
  rintro e w1 ⟨s, v1, rfl, ho, hlen, hak, hrg, d1, s1⟩
  have OK : Hid s.Ok := ok_of_rg hrg hak hlen
  obtain ⟨a1, c1, rfl, hrb, hnil⟩ := ho.rbn
  have P1 : Hid (∀ W, W = w1 → Calls Try.prog 70 #[.agg #[.int .i64 s.path, .int .i64 s.frm, .bool s.syn, .bool s.ackd, .bool s.rst, .int .i64 s.seq, .int .i64 s.ack, .int .i64 s.fin, .int .i64 s.opt, .int .i64 s.a, .int .i64 s.b, .slice a1 s.load.length c1]] W fun e w' => ∃ v, e = .returned v ∧ OB w' W.heap.size v (packB s) ∧ Below W.heap.size W w') := fun W h => by rw [h]; exact sPack s a1 _ c1 w1 rfl hrb hnil OK.out
  have D1 : Hid _ := d1
  have S1 : Hid _ := s1
  have HLL : Hid (s.load.length ≤ 8) := hlen
  have z1 : w.heap.size ≤ w1.heap.size := d1.size
  clear ho hlen hak hrg d1 s1 hrb hnil OK
  go_wp2_with fail
  refine (P1.out _ rfl).mono ?_
  rintro e w2 ⟨v2, rfl, ho2, hb2⟩
  clear P1
  have hlp := packB_length s
  generalize packB s = L at *
  obtain ⟨g, c, rfl, hg1, hg2, hc1, hc2, ro2⟩ := ho2.ro (by omega)
  have D2 : Hid (Dr sb w w2) := D1.out.then hb2 z1
  have S2 : Hid (Src w2 sb (.slice a len cap) (K + 60)) := S1.out.below hb2 (by omega)
  have z2 : w.heap.size ≤ w2.heap.size := Nat.le_trans z1 hb2.size
  have RO : Hid (Ro w2 g L) := ro2
  have hgs : g ≠ sb := by omega
  have hgw : w.heap.size ≤ g := by omega
  obtain ⟨m, hm⟩ : ∃ m, L.length = m + 2 := ⟨L.length - 2, by omega⟩
  have HN : Hid (L.length = m + 2) := hm
  have m16 : 16 ≤ m := by omega
  have m24 : m ≤ 24 := by have := HLL.out; omega
  rw [hm] at hc1 ⊢
  clear hlp ho2 hb2 ro2 D1 S1 HLL hm
  have i1 : (0 : Int) ≤ (m : Int) := by omega
  have i2 : (m : Int) ≤ (c : Int) := by omega
  have i3 : (m : Int) ≤ ((m + 2 : Nat) : Int) := by omega
  have i4 : ((m + 2 : Nat) : Int) - 2 = (m : Int) := by omega
  have i6 : ((m + 2 : Nat) : Int) - 1 = ((m + 1 : Nat) : Int) := by omega
  have i5 : IntKind.i64.wrap (m : Int) = (m : Int) := by rw [IntKind.wrap_i64]; omega
  have i7 : IntKind.i64.wrap ((m + 1 : Nat) : Int) = ((m + 1 : Nat) : Int) := by rw [IntKind.wrap_i64]; omega
  go_wp2_with fail
  refine (sNext sb a len cap zs _ 8 w2 S2.out (HR.out _ D2.out) hl (by omega) (by omega)).mono ?_
  rintro e w3 ⟨x, rfl, p3, q3, st, s3⟩
  have D3 : Hid (Dr sb w w3) := D2.out.trans st.dr
  have S3 : Hid _ := s3
  replace RO : Hid (Ro w3 g L) := RO.out.step st hgs
  have z3 : w.heap.size ≤ w3.heap.size := by have := st.size; omega
  clear st s3 D2 S2 hg2 z2
  by_cases h0 : x = 0
  · subst h0
    go_wp2_with fail
    refine (sNext sb a len cap zs _ ((m + 2 : Nat) : Int) w3 S3.out (HR.out _ D3.out) hl (by omega) (by omega)).mono ?_
    rintro e w4 ⟨i, rfl, p4, q4, st, s4⟩
    obtain ⟨j, rfl⟩ : ∃ j : Nat, i = j := ⟨i.toNat, by omega⟩
    have hj : j < m + 2 := by omega
    have D4 : Hid (Dr sb w w4) := D3.out.trans st.dr
    have S4 : Hid _ := s4
    replace RO : Hid (Ro w4 g L) := RO.out.step st hgs
    clear st s4 D3 S3
    go_wp2_with fail
    refine (sNext sb a len cap zs _ 256 w4 S4.out (HR.out _ D4.out) hl (by omega) (by omega)).mono ?_
    rintro e w5 ⟨y, rfl, p5, q5, st, s5⟩
    have D5 : Hid (Dr sb w w5) := D4.out.trans st.dr
    replace RO : Hid (Ro w5 g L) := RO.out.step st hgs
    have z5 : w.heap.size ≤ w5.heap.size := D5.out.size
    clear st s5 D4 S4
    have cj := RO.out.cell j (by rw [HN.out]; exact hj)
    have fj := RO.out.fz j
    have ey : IntKind.u8.wrap y = y := by rw [IntKind.wrap_u8]; omega
    go_wp2_with fail
    go_ret
    refine ⟨L.set j y, g, c, (by rw [List.length_set, HN.out]; try rfl), (RO.out.set j (by rw [HN.out]; exact hj) y (by omega)).rb, by rw [List.length_set, HN.out]; omega, by rw [List.length_set, HN.out]; omega, D5.out.then (B := w.heap.size) ((Below.refl _ _).setCell (p := ⟨g, j, none⟩) hgw _) (Nat.le_refl _)⟩
  · have h0a : (x == 0) = false := by simp [h0]
    by_cases h1 : x = 1
    · subst h1
      go_wp2_with fail
      refine (sNext sb a len cap zs _ ((m + 2 : Nat) : Int) w3 S3.out (HR.out _ D3.out) hl (by omega) (by omega)).mono ?_
      rintro e w4 ⟨i, rfl, p4, q4, st, s4⟩
      obtain ⟨j, rfl⟩ : ∃ j : Nat, i = j := ⟨i.toNat, by omega⟩
      have hj : j < m + 2 := by omega
      have hjc : (j : Int) ≤ (c : Int) := by omega
      have hjn : j ≤ c := by omega
      have D4 : Hid (Dr sb w w4) := D3.out.trans st.dr
      replace RO : Hid (Ro w4 g L) := RO.out.step st hgs
      clear st s4 D3 S3
      go_wp2_with fail
      go_ret
      have hlt' : (L.take j).length = j := by rw [List.length_take, HN.out]; omega
      refine ⟨L.take j, g, c, (by rw [hlt']; try rfl), RO.out.take j, by rw [hlt']; omega, by rw [hlt']; omega, D4.out⟩
    · have h1a : (x == 1) = false := by simp [h1]
      by_cases h2 : x = 2
      · subst h2
        go_wp2_with fail
        refine (sNext sb a len cap zs _ (m : Int) w3 S3.out (HR.out _ D3.out) hl (by omega) (by omega)).mono ?_
        rintro e w4 ⟨i, rfl, p4, q4, st, s4⟩
        obtain ⟨j, rfl⟩ : ∃ j : Nat, i = j := ⟨i.toNat, by omega⟩
        have hj : j < m + 2 := by omega
        have hji : (j : Int) < ((m + 2 : Nat) : Int) := by omega
        have D4 : Hid (Dr sb w w4) := D3.out.trans st.dr
        have S4 : Hid _ := s4
        replace RO : Hid (Ro w4 g L) := RO.out.step st hgs
        clear st s4 D3 S3
        go_wp2_with fail
        refine (sNext sb a len cap zs _ 8 w4 S4.out (HR.out _ D4.out) hl (by omega) (by omega)).mono ?_
        rintro e w5 ⟨y, rfl, p5, q5, st, s5⟩
        have D5 : Hid (Dr sb w w5) := D4.out.trans st.dr
        replace RO : Hid (Ro w5 g L) := RO.out.step st hgs
        have z5 : w.heap.size ≤ w5.heap.size := D5.out.size
        clear st s5 D4 S4
        have cj := RO.out.cell j (by rw [HN.out]; exact hj)
        have fj := RO.out.fz j
        have ey : IntKind.u8.wrap y = y := by rw [IntKind.wrap_u8]; omega
        have RO6 : Hid (Ro (w5.setCell ⟨g, j, none⟩ (.int .u8 y)) g (L.set j y)) := RO.out.set j (by rw [HN.out]; exact hj) y (by omega)
        have D6 : Hid (Dr sb w (w5.setCell ⟨g, j, none⟩ (.int .u8 y))) := D5.out.then (B := w.heap.size) ((Below.refl _ _).setCell (p := ⟨g, j, none⟩) hgw _) (Nat.le_refl _)
        have HN6 : Hid ((L.set j y).length = m + 2) := by show _ = _; rw [List.length_set, HN.out]
        have HSM : Hid (∀ W, W = w5.setCell ⟨g, j, none⟩ (.int .u8 y) → Calls Try.prog 69 #[.slice (some ⟨g, 0, none⟩) m c] W fun e w' => e = .returned (.int .i64 (sumB ((L.set j y).take m))) ∧ w' = W) := fun W h => by
          rw [h]; exact sSumBytes (some ⟨g, 0, none⟩) m c ((L.set j y).take m) _ (by rw [List.length_take, HN6.out]; omega) (RO6.out.take m) (by omega)
        go_wp2_with fail
        refine (HSM.out _ rfl).mono ?_
        rintro e w6 ⟨rfl, hw6⟩
        rw [← hw6] at RO6 D6
        clear HSM cj fj RO D5 hw6 HN
        generalize L.set j y = L6 at *
        have sb6 := sumB_bd (L6.take m)
        generalize sumB (L6.take m) = X at *
        have x0 := sb6.1
        have x1 := sb6.2
        clear sb6
        have ed : X.tdiv 256 = X / 256 := Int.tdiv_eq_ediv_of_nonneg x0
        have em : X.tmod 256 = X % 256 := Int.tmod_eq_emod_of_nonneg x0
        have ew : IntKind.i64.wrap (X / 256) = X / 256 := by rw [IntKind.wrap_i64]; omega
        have eu : IntKind.u8.wrap (X / 256) = X / 256 := by rw [IntKind.wrap_u8]; omega
        have ev : IntKind.u8.wrap (X % 256) = X % 256 := by rw [IntKind.wrap_u8]; omega
        have c7 := RO6.out.cell m (by rw [HN6.out]; omega)
        have f7 := RO6.out.fz m
        have c8 := RO6.out.cell (m + 1) (by rw [HN6.out]; omega)
        have f8 := RO6.out.fz (m + 1)
        go_wp2_with fail
        go_ret
        have RO7 := RO6.out.set m (by rw [HN6.out]; omega) (X / 256) (by omega)
        have RO8 := RO7.set (m + 1) (by rw [List.length_set, HN6.out]; omega) (X % 256) (by omega)
        refine ⟨(L6.set m (X / 256)).set (m + 1) (X % 256), g, c, (by rw [List.length_set, List.length_set, HN6.out]; try rfl), RO8.rb, by rw [List.length_set, List.length_set, HN6.out]; omega, by rw [List.length_set, List.length_set, HN6.out]; omega, D6.out.then (B := w.heap.size) (((Below.refl _ _).setCell (p := ⟨g, m, none⟩) hgw _).setCell (p := ⟨g, m + 1, none⟩) hgw _) (Nat.le_refl _)⟩
      · have h2a : (x == 2) = false := by simp [h2]
        go_wp2_with fail
        go_ret
        exact ⟨L, g, c, (by rw [HN.out]; try rfl), RO.out.rb, by rw [HN.out]; omega, by rw [HN.out]; omega, D3.out⟩
set_option maxHeartbeats 400000 in
theorem dWire (a : Option Addr) (len cap : Nat) (zs : List Int) (w : World) (hr : BRow .u8 w a len cap zs) (hl : RowLt w.heap.size a zs) :
    Calls Try.prog 24 #[.slice a len cap] w fun e w' => ∃ (l : List Int) (g c : Nat), e = .returned (.slice (some ⟨g, 0, none⟩) l.length c) ∧ RB w' (some ⟨g, 0, none⟩) l ∧ (l.length ≤ c ∧ c ≤ 9223372036854775807) ∧ l.length ≤ 26 ∧ Below w.heap.size w w' := by
  have HL : Hid _ := hl
  have HR : Hid _ := hr
  clear hr hl
  go_enter Try.func24, Try.ntmps24
  go_wp2_with fail
  refine (sSource _ _ _ _).mono ?_
  rintro e w0 ⟨rfl, hw0⟩
  obtain ⟨s0, r0, b0⟩ := draw_start 110 HR.out HL.out
  rw [← hw0] at s0 r0 b0
  have S0 : Hid _ := s0
  have R0 : Hid _ := r0
  have B0 : Hid _ := b0
  have z0 : w.heap.size < w0.heap.size := by rw [hw0]; simp
  clear s0 r0 b0 hw0
  go_wp2_with fail
  refine (sWire w.heap.size a len cap zs _ w0 S0.out R0.out HL.out (by omega)).mono ?_
  rintro e w1 ⟨l, g, c, rfl, hrb, hc, hl26, d1⟩
  have X : Hid (RB w1 (some ⟨g, 0, none⟩) l ∧ (l.length ≤ c ∧ c ≤ 9223372036854775807) ∧ l.length ≤ 26 ∧ Below w.heap.size w w1) := ⟨hrb, hc, hl26, B0.out.trans (d1.below (Nat.le_of_lt z0))⟩
  clear hrb hc hl26 d1
  go_wp2_with fail
  go_ret
  exact ⟨l, g, c, rfl, X.out⟩
set_option maxHeartbeats 1000000 in
theorem dBent (a : Option Addr) (len cap : Nat) (zs : List Int) (w : World) (hr : BRow .u8 w a len cap zs) (hl : RowLt w.heap.size a zs) :
    Calls Try.prog 28 #[.slice a len cap] w fun e w' => ∃ (s : Seg) (a1 : Option Addr) (c1 : Nat), e = .returned (.agg #[.int .i64 s.path, .int .i64 s.frm, .bool s.syn, .bool s.ackd, .bool s.rst, .int .i64 s.seq, .int .i64 s.ack, .int .i64 s.fin, .int .i64 s.opt, .int .i64 s.a, .int .i64 s.b, .slice a1 s.load.length c1]) ∧ RB w' a1 s.load ∧ (a1 = none → c1 = 0) ∧ s.load.length ≤ 9 ∧ Below w.heap.size w w' := by
  go_enter Try.func28, Try.ntmps28
  go_wp2_with fail
  obtain ⟨W0, hW0⟩ : ∃ W0, w.alloc (.cells zSeg 40) = W0 := ⟨_, rfl⟩
  have B0 : Hid (Below w.heap.size w W0) := by rw [← hW0]; exact (Below.refl _ _).alloc (Nat.le_refl _) _
  have C0 : Hid (∀ o, W0.cell? ⟨w.heap.size, o, none⟩ = zSeg[o]? ∧ W0.frozen? ⟨w.heap.size, o, none⟩ = false) := by rw [← hW0]; intro o; exact ⟨by simp [go_sem], by simp [go_sem]⟩
  have z0 : w.heap.size < W0.heap.size := by rw [← hW0]; simp
  unfold zSeg at hW0
  simp only [hW0]
  clear hW0
  have hr0 := hr.below hl B0.out
  have hl0 : RowLt W0.heap.size a zs := hl.mono (by omega)
  clear hr
  refine (sSource _ _ _ _).mono ?_
  rintro e w0 ⟨rfl, hw0⟩
  obtain ⟨s0, r0, b0⟩ := draw_start 110 hr0 hl0
  have y0' : W0.heap.size < w0.heap.size := by rw [hw0]; simp
  rw [← hw0] at s0 r0 b0
  have S0 : Hid _ := s0
  have R0 : Hid _ := r0
  have B1 : Hid _ := b0
  clear hw0 hr0 s0 r0 b0
  go_wp2_with fail
  refine (sBent W0.heap.size a len cap zs _ w0 S0.out R0.out hl0 (by omega)).mono ?_
  rintro e w1 ⟨⟨y0, y1, b2, b3, b4, y5, y6, y7, y8, y9, y10, L⟩, v1, rfl, ho, hlen, hak, d1, s1'⟩
  simp only at ho hlen hak ⊢
  obtain ⟨a1, c1, hv, hrb, hnil⟩ := ho.rbn
  subst hv
  have O1 : Hid _ := ho
  have HNI : Hid _ := hnil
  have BB : Hid (Below W0.heap.size W0 w1) := B1.out.trans (d1.below (Nat.le_of_lt y0'))
  have X : Hid (RB w1 a1 L ∧ (a1 = none → c1 = 0) ∧ L.length ≤ 9) := ⟨hrb, hnil, hlen⟩
  have k1 : ∀ o, w1.cell? ⟨w.heap.size, o, none⟩ = (#[.int .i64 0, .int .i64 0, .bool false, .bool false, .bool false, .int .i64 0, .int .i64 0, .int .i64 0, .int .i64 0, .int .i64 0, .int .i64 0, .slice none 0 0] : Array Value)[o]? := fun o => (BB.out.cell (p := ⟨w.heap.size, o, none⟩) z0).trans (C0.out o).1
  have f1 : ∀ o, w1.frozen? ⟨w.heap.size, o, none⟩ = false := fun o => (BB.out.frozen (p := ⟨w.heap.size, o, none⟩) z0).trans (C0.out o).2
  have BW : Hid (Below w.heap.size w w1) := B0.out.trans (BB.out.mono (Nat.le_of_lt z0))
  clear ho hlen hak hrb hnil d1 s1' BB C0 S0 R0 B1
  generalize hN : L.length = N at *
  have HN : Hid (L.length = N) := hN
  clear hN
  go_wp2_with fail
  refine bodyPost_ret (v := .agg #[.int .i64 y0, .int .i64 y1, .bool b2, .bool b3, .bool b4, .int .i64 y5, .int .i64 y6, .int .i64 y7, .int .i64 y8, .int .i64 y9, .int .i64 y10, .slice a1 N c1]) (by simp [results, Try.results28, go_sem, k1]) rfl ⟨⟨y0, y1, b2, b3, b4, y5, y6, y7, y8, y9, y10, L⟩, a1, c1, by rw [HN.out], ?_, X.out.2.1, by rw [HN.out]; exact X.out.2.2, ?_⟩
  · refine OB.rbx (OB.keeps O1.out fun h hg => ?_)
    repeat rw [Below.heap_setCell _ _ _ _ (by dsimp only; omega)]
  · have hB1 := BW.out
    clear k1 f1
    go_grown
end Go.Proofs.Ytmiomnpfjigojaa
