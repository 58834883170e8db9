/- What the draw of two segments gives: both with loads of a few bytes; nothing that was in memory turns; no condition. -/
import Derived.Test.YthgdbbbdmhhjaaeRows
import Derived.Test.YthgdbbbdmhhjaaeBase
import Derived.Test.YthgdbbbdmhhjaaeDraws
import Derived.Test.YthgdbbbdmhhjaaeBytes
import Derived.Test.YthgdbbbdmhhjaaeAppBytes
import Derived.Test.YthgdbbbdmhhjaaeSeg
import Derived.Test.YthgdbbbdmhhjaaeStrip
import Derived.Test.YthgdbbbdmhhjaaeDrawSeg
import Derived.Test.YthgdbbbdmhhjaaeDrawSeg2
import Derived.Test.YthgdbbbdmhhjaaeDrawSeg3
import Derived.Deep.DeepMust
import Derived.Deep.CutBlock
import Derived.Deep.RegionHeld3
import Derived.OrdersHeld
import Derived.Deep.MidRow
import Derived.Deep.RegionLaw
import Derived.Deep.DeepCutAuto
import Derived.Test.YthgdbbbdmhhjaaeApp
import Derived.Deep.AppendLies
namespace Go.Proofs.Ythgdbbbdmhhjaae
open Go.RowKit
set_option linter.unusedVariables false
set_option linter.unusedSimpArgs false

theorem OB.rbAt {w : World} {base n c : Nat} {a : Option Addr} {l : List Int} (h : OB w base (.slice a n c) l) : RB w a l := by
  obtain ⟨a', c', e, h'⟩ := h.rb
  simp only [Value.slice.injEq] at e
  rw [e.1]; exact h'

theorem size_seg : (Try.prog.info? 25).map (·.size) = some 12 := by kernel_rfl
theorem range_bx {w : World} {b : Nat} {A : Array Value} {cs : List Value} (h : ∀ o, w.cell? ⟨b, o, none⟩ = A[o]?) (e : cs = A.toList) : w.rangeAt b 0 cs := fun j v hv => by
  rw [Nat.zero_add, h j, ← hv, e, Array.getElem?_toList]
theorem there_bx {w : World} {b n : Nat} {A : Array Value} (h : ∀ o, w.cell? ⟨b, o, none⟩ = A[o]?) (hf : ∀ o, w.frozen? ⟨b, o, none⟩ = false) (e : A.size = n) : w.there b 0 n := fun j hj => by
  rw [Nat.zero_add, h j, Array.getElem?_eq_getElem (by omega)]; exact ⟨rfl, hf j⟩
theorem wpOp_store_mid {P : Program} {ops : Array Oper} {Q : Exit → Act → World → Prop} {K : Act → World → Prop} {a : Act} {w : World} {i : Nat} {oi : Oper} (hi : ops[i]? = some oi) (hw : Region.wanted oi (yielded ops a.tmps) = true) (ty : TypeId) (x y : Operand) (ho : oi.op = .store ty x y)
    (b o : Nat) (cells : Array Value) (hx : a.eval x = .pointer (some ⟨b, o, none⟩)) (hy : a.eval y = .agg cells) (ht : w.there b o cells.size) (hi' : (P.info? ty).map (·.size) = some cells.size) (h1 : cells.all (·.oneCell') = true)
    (h : K (a.put oi.dst undef) (w.setCells b o cells.toList)) : wpOp P ops Q i K a w := by
  unfold Go.wpOp
  simp only [hi, hw, if_true]
  exact .inl (wp_store_mid ty x y ho b o cells hx hy ht hi' h1 h)
theorem heap_setCells : ∀ (vs : List Value) (w : World) (b o g : Nat), g ≠ b → (w.setCells b o vs).heap[g]? = w.heap[g]?
  | [], _, _, _, _, _ => rfl
  | v :: vs, w, b, o, g, h => by
    show ((w.setCell ⟨b, o, none⟩ v).setCells b (o + 1) vs).heap[g]? = _
    rw [heap_setCells vs _ b (o + 1) g h]
    exact Below.heap_setCell _ _ _ _ (by simpa using h)
theorem below_setCells {B : Nat} {w w' : World} (h : Below B w w') {b : Nat} (hb : B ≤ b) : ∀ (vs : List Value) (o : Nat), Below B w (w'.setCells b o vs) := fun vs => by
  induction vs generalizing w' with
  | nil => exact fun _ => h
  | cons v vs ih => exact fun o => ih (h.setCell (by simpa using hb) _) (o + 1)
theorem hid_mk {p : Prop} (h : p) : Hid p := h
theorem bx_keepD {w w' : World} {b : Nat} {cs : Array Value} (h : ∀ o, w.cell? ⟨b, o, none⟩ = cs[o]?) (hk : w'.heap[b]? = w.heap[b]?) : ∀ o, w'.cell? ⟨b, o, none⟩ = cs[o]? :=
  fun o => (World.cell?_of_block (w := w) (a := ⟨b, o, none⟩) hk).trans (h o)
theorem bf_keepD {w w' : World} {b : Nat} (h : ∀ o, w.frozen? ⟨b, o, none⟩ = false) (hk : w'.heap[b]? = w.heap[b]?) : ∀ o, w'.frozen? ⟨b, o, none⟩ = false :=
  fun o => (World.frozen?_of_block (w := w) (a := ⟨b, o, none⟩) hk).trans (h o)
theorem bx_below' {w w' : World} {b : Nat} {cs : Array Value} (h : ∀ o, w.cell? ⟨b, o, none⟩ = cs[o]?) (hb : b < w.heap.size) (k : Below w.heap.size w w') : ∀ o, w'.cell? ⟨b, o, none⟩ = cs[o]? :=
  fun o => (k.cell (p := ⟨b, o, none⟩) hb).trans (h o)
theorem rb_oneD (w : World) (t : TypeId) : RB (w.alloc (.cells #[.int .u8 0] t)) (some ⟨w.heap.size, 0, none⟩) [0] := by
  refine ⟨by simp, Or.inr ⟨_, _, rfl, fun i hi => ?_⟩⟩
  rw [World.cell?_alloc_new]
  match i, hi with
  | 0, _ => rfl
theorem bx_far {w : World} {b b' k : Nat} {v : Value} {A : Array Value} (h : ∀ o, w.cell? ⟨b, o, none⟩ = A[o]?) (hne : b ≠ b') : ∀ o, (w.setCell ⟨b', k, none⟩ v).cell? ⟨b, o, none⟩ = A[o]? := fun o => by
  rw [World.cell?_setCell_other _ _ _ _ (by intro e; simp only [Addr.mk.injEq] at e; exact hne e.1.symm)]; exact h o
theorem bf_far {w : World} {b : Nat} {p : Addr} {v : Value} (h : ∀ o, w.frozen? ⟨b, o, none⟩ = false) : ∀ o, (w.setCell p v).frozen? ⟨b, o, none⟩ = false := fun o => by simp [h o]
theorem bx_set {w : World} {b k : Nat} {v : Value} {A : Array Value} (h : ∀ o, w.cell? ⟨b, o, none⟩ = A[o]?) (hk : k < A.size) : ∀ o, (w.setCell ⟨b, k, none⟩ v).cell? ⟨b, o, none⟩ = (A.setIfInBounds k v)[o]? := fun o => by
  by_cases e : o = k
  · subst e
    rw [World.cell?_setCell_same w _ _ ((h o).trans (Array.getElem?_eq_getElem hk))]
    simp [hk]
  · rw [World.cell?_setCell_other _ _ _ _ (by intro e'; simp only [Addr.mk.injEq] at e'; omega), h o, Array.getElem?_setIfInBounds_ne (by omega)]
theorem bx_setE {w : World} {b k : Nat} {v : Value} {A A' : Array Value} (h : ∀ o, w.cell? ⟨b, o, none⟩ = A[o]?) (hk : k < A.size) (e : A.setIfInBounds k v = A') : ∀ o, (w.setCell ⟨b, k, none⟩ v).cell? ⟨b, o, none⟩ = A'[o]? := by
  rw [← e]; exact bx_set h hk
theorem set12 (v0 v1 v2 v3 v4 v5 v6 v7 v8 v9 v10 v11 c0 c1 c2 c3 c4 c5 c6 c7 c8 c9 c10 c11 : Value) : ((((((((((((#[c0, c1, c2, c3, c4, c5, c6, c7, c8, c9, c10, c11].setIfInBounds 0 v0).setIfInBounds 1 v1).setIfInBounds 2 v2).setIfInBounds 3 v3).setIfInBounds 4 v4).setIfInBounds 5 v5).setIfInBounds 6 v6).setIfInBounds 7 v7).setIfInBounds 8 v8).setIfInBounds 9 v9).setIfInBounds 10 v10).setIfInBounds 11 v11) = #[v0, v1, v2, v3, v4, v5, v6, v7, v8, v9, v10, v11] := by simp
theorem bx_set12 {w : World} {b : Nat} {A : Array Value} (h : ∀ o, w.cell? ⟨b, o, none⟩ = A[o]?) (hA : A.size = 12) (v0 v1 v2 v3 v4 v5 v6 v7 v8 v9 v10 v11 : Value) : ∀ o, ((((((((((((w.setCell ⟨b, 0, none⟩ v0).setCell ⟨b, 1, none⟩ v1).setCell ⟨b, 2, none⟩ v2).setCell ⟨b, 3, none⟩ v3).setCell ⟨b, 4, none⟩ v4).setCell ⟨b, 5, none⟩ v5).setCell ⟨b, 6, none⟩ v6).setCell ⟨b, 7, none⟩ v7).setCell ⟨b, 8, none⟩ v8).setCell ⟨b, 9, none⟩ v9).setCell ⟨b, 10, none⟩ v10).setCell ⟨b, 11, none⟩ v11).cell? ⟨b, o, none⟩ = (#[v0, v1, v2, v3, v4, v5, v6, v7, v8, v9, v10, v11] : Array Value)[o]? := by
  obtain ⟨l⟩ := A
  obtain ⟨c0, c1, c2, c3, c4, c5, c6, c7, c8, c9, c10, c11, rfl⟩ := list12 (l := l) hA
  intro o
  rw [(bx_set (k := 11) (v := v11) (bx_set (k := 10) (v := v10) (bx_set (k := 9) (v := v9) (bx_set (k := 8) (v := v8) (bx_set (k := 7) (v := v7) (bx_set (k := 6) (v := v6) (bx_set (k := 5) (v := v5) (bx_set (k := 4) (v := v4) (bx_set (k := 3) (v := v3) (bx_set (k := 2) (v := v2) (bx_set (k := 1) (v := v1) (bx_set (k := 0) (v := v0) h (by simp)) (by simp)) (by simp)) (by simp)) (by simp)) (by simp)) (by simp)) (by simp)) (by simp)) (by simp)) (by simp)) (by simp)) o, set12]
theorem OB.keeps' {w w' : World} {base : Nat} {v : Value} {l : List Int} (h : OB w base v l) (hb : ∀ g, v.ownBlock = some g → w'.heap[g]? = w.heap[g]?) : OB w' base v l := by
  refine ⟨?_, h.bd⟩
  obtain ⟨h1, h2 | ⟨g, cap, cur, rfl, hg, hh, r⟩⟩ := h.own
  · exact ⟨h1, Or.inl h2⟩
  · exact ⟨h1, Or.inr ⟨g, cap, cur, rfl, hg, by rw [hb g rfl]; exact hh, r⟩⟩

set_option maxRecDepth 2000 in
set_option maxHeartbeats 16000000 in
theorem dSame (a : Option Addr) (len cap : Nat) (zs : List Int) (w : World) (hr : BRow .u8 w a len cap zs) (hl : RowLt w.heap.size a zs) :
    Calls Try.prog 5 #[.slice a len cap] w fun e w' => ∃ (s t : Seg) (a1 a2 : Option Addr) (c1 c2 : Nat), e = .returned (.tuple #[.agg #[.int .i64 s.path, .int .i64 s.frm, .bool s.syn, .bool s.ackd, .bool s.rst, .int .i64 s.seq, .int .i64 s.ack, .int .i64 s.fin, .int .i64 s.opt, .int .i64 s.a, .int .i64 s.b, .slice a1 s.load.length c1], .agg #[.int .i64 t.path, .int .i64 t.frm, .bool t.syn, .bool t.ackd, .bool t.rst, .int .i64 t.seq, .int .i64 t.ack, .int .i64 t.fin, .int .i64 t.opt, .int .i64 t.a, .int .i64 t.b, .slice a2 t.load.length c2]]) ∧ RB w' a1 s.load ∧ RB w' a2 t.load ∧ (a1 = none → c1 = 0) ∧ s.load.length ≤ 10 ∧ t.load.length ≤ 10 ∧ Below w.heap.size w w' := by
  go_enter Try.func5, Try.ntmps5
  go_wp2_with fail
  obtain ⟨W0, hW0⟩ : ∃ W0, (w.alloc (.cells zSeg 25)).alloc (.cells zSeg 25) = W0 := ⟨_, rfl⟩
  have B0 : Hid (Below w.heap.size w W0) := by rw [← hW0]; exact ((Below.refl _ _).alloc (Nat.le_refl _) _).alloc (by simp) _
  have C0 : Hid (∀ o, (W0.cell? ⟨w.heap.size, o, none⟩ = zSeg[o]? ∧ W0.frozen? ⟨w.heap.size, o, none⟩ = false) ∧ (W0.cell? ⟨w.heap.size + 1, o, none⟩ = zSeg[o]? ∧ W0.frozen? ⟨w.heap.size + 1, o, none⟩ = false)) := by rw [← hW0]; intro o; exact ⟨⟨by simp [go_sem], by simp [go_sem]⟩, ⟨by simp [go_sem], by simp [go_sem]⟩⟩
  have z0 : W0.heap.size = w.heap.size + 1 + 1 := by rw [← hW0]; simp
  unfold zSeg at hW0
  simp only [hW0]
  clear hW0
  have hr0 := hr.below hl B0.out
  have hl0 : RowLt W0.heap.size a zs := hl.mono (by omega)
  clear hr
  refine (sSource _ _ _ _).mono ?_
  rintro e w0 ⟨rfl, hw0⟩
  obtain ⟨s0, r0, b0⟩ := draw_start 46 hr0 hl0
  have y0' : w0.heap.size = W0.heap.size + 1 := by rw [hw0]; simp
  rw [← hw0] at s0 r0 b0
  clear hw0 hr0
  generalize hsb : W0.heap.size = sb at *
  have b0' : Hid _ := b0
  have s0' : Hid _ := s0
  have r0' : Hid _ := r0
  have Hsb : Hid (W0.heap.size = sb) := hsb
  have z0a : w.heap.size + 1 < sb := by omega
  have y0a : sb < w0.heap.size := by omega
  clear hsb b0 s0 r0 z0 y0'
  go_wp2_with fail
  refine (sBent sb a len cap zs _ w0 s0'.out r0'.out hl0 (by omega)).mono ?_
  rintro e w1 ⟨⟨y0, y1, b2, b3, b4, y5, y6, y7, y8, y9, y10, L⟩, v1, rfl, ho, hlen, hak, d1, s1'⟩
  simp only at ho hlen hak ⊢
  obtain ⟨a1, c1, hv, hrb, hnil⟩ := ho.rbn
  subst hv
  have O1 : Hid _ := ho
  have HL : Hid (L.length ≤ 9) := hlen
  have HNI : Hid _ := hnil
  have s1 : Hid _ := s1'
  have D1 : Hid _ := d1
  have z1 : w0.heap.size ≤ w1.heap.size := d1.size
  have k0 := hak.1
  have k1 := hak.2
  clear ho hlen hnil s1' d1 hrb hak
  generalize hN : L.length = N at *
  have HN : Hid (L.length = N) := hN
  clear hN
  go_wp2_with fail
  refine (sCopy ⟨y0, y1, b2, b3, b4, y5, y6, y7, y8, y9, y10, L⟩ a1 N c1 _ HN.out (RB.below O1.out.rbAt (Nat.le_refl _) ((Below.refl _ _).alloc (Nat.le_refl _) _)) HNI.out (by have := HL.out; omega)).mono ?_
  rintro e w3 ⟨v3, rfl, ho3, hb3⟩
  simp only at ho3 ⊢
  obtain ⟨a3, c3, hv, -⟩ := ho3.rb
  rw [HN.out] at hv
  subst hv
  have o3 : OB w3 (w1.heap.size + 1) (.slice a3 N c3) L := by simpa using ho3
  have O3 : Hid (OB w3 (w1.heap.size + 1) (.slice a3 N c3) L) := o3
  clear o3
  have z3 : w1.heap.size + 1 ≤ w3.heap.size := by have := hb3.size; simpa using this
  have HB3 : Hid _ := hb3
  clear hb3 ho3
  go_wp2_with fail
  have q3 : Hid (Dr sb w0 w3) := (D1.out.then ((Below.refl _ _).alloc (Nat.le_refl _) _) z1).then HB3.out (by simp; omega)
  have S3 : Hid _ := (s1.out.alloc _).below HB3.out (by simp; omega)
  refine (sNext sb a len cap zs _ 4 _ (S3.out.alloc _) (BRow.below r0'.out hl0 ((q3.out.then ((Below.refl _ _).alloc (Nat.le_refl _) _) (by omega)).below (by omega))) hl0 (by omega) (by omega)).mono ?_
  rintro e w4 ⟨x, rfl, p4, q4, st, s4'⟩
  have z4 : w3.heap.size < w4.heap.size := by have := st.size; simp at this; omega
  have U4 : Hid (Dr sb w0 w4) := (q3.out.then ((Below.refl _ _).alloc (Nat.le_refl _) _) (by omega)).trans st.dr
  have F4 : Hid (Below w.heap.size w w4) := (B0.out.trans (b0'.out.mono (by omega))).trans ((U4.out.below (by omega)).mono (by omega))
  have E3 : Hid (∀ g, w1.heap.size + 1 ≤ g → g < w3.heap.size → w4.heap[g]? = w3.heap[g]?) := fun g h1 h2 => (st.block g (by omega)).trans (((Below.refl _ _).alloc (Nat.le_refl _) _).block g h2)
  have E1 : Hid (∀ g, w0.heap.size ≤ g → g < w1.heap.size → w4.heap[g]? = w1.heap[g]?) := fun g h1 h2 => ((st.block g (by omega)).trans (((Below.refl _ _).alloc (Nat.le_refl _) _).block g (by omega))).trans ((HB3.out.block g (by simp; omega)).trans (((Below.refl _ _).alloc (Nat.le_refl _) _).block g h2))
  have gA4 : ∀ o, w4.cell? ⟨w1.heap.size, o, none⟩ = (#[.int .i64 y0, .int .i64 y1, .bool b2, .bool b3, .bool b4, .int .i64 y5, .int .i64 y6, .int .i64 y7, .int .i64 y8, .int .i64 y9, .int .i64 y10, .slice a1 N c1] : Array Value)[o]? := fun o => by rw [st.cell (by dsimp only; omega), ((Below.refl w3.heap.size w3).alloc (Nat.le_refl _) _).cell (by dsimp only; omega), (bcell HB3.out).1 _ _ (by simp)]; simp [go_sem]
  have gB4 : ∀ o, w4.cell? ⟨w3.heap.size, o, none⟩ = (#[.int .i64 y0, .int .i64 y1, .bool b2, .bool b3, .bool b4, .int .i64 y5, .int .i64 y6, .int .i64 y7, .int .i64 y8, .int .i64 y9, .int .i64 y10, .slice a3 N c3] : Array Value)[o]? := fun o => by rw [st.cell (by dsimp only; omega)]; simp [go_sem]
  have fB4 : ∀ o, w4.frozen? ⟨w3.heap.size, o, none⟩ = false := fun o => by rw [st.frozen (by dsimp only; omega)]; simp [go_sem]
  have R4 : Hid (∀ b, b < sb → ∀ o, w4.cell? ⟨b, o, none⟩ = W0.cell? ⟨b, o, none⟩ ∧ w4.frozen? ⟨b, o, none⟩ = W0.frozen? ⟨b, o, none⟩) := fun b hb o => ⟨(U4.out.cell (p := ⟨b, o, none⟩) (by dsimp only; omega) (by dsimp only; omega)).trans ((bcellB b0'.out).1 b o hb), (U4.out.frozen (p := ⟨b, o, none⟩) (by dsimp only; omega) (by dsimp only; omega)).trans ((bcellB b0'.out).2 b o hb)⟩
  have r4 : ∀ o, w4.cell? ⟨w.heap.size, o, none⟩ = (#[.int .i64 0, .int .i64 0, .bool false, .bool false, .bool false, .int .i64 0, .int .i64 0, .int .i64 0, .int .i64 0, .int .i64 0, .int .i64 0, .slice none 0 0] : Array Value)[o]? := fun o => (R4.out _ (by omega) o).1.trans (C0.out o).1.1
  have rf4 : ∀ o, w4.frozen? ⟨w.heap.size, o, none⟩ = false := fun o => (R4.out _ (by omega) o).2.trans (C0.out o).1.2
  have t4 : ∀ o, w4.cell? ⟨w.heap.size + 1, o, none⟩ = (#[.int .i64 0, .int .i64 0, .bool false, .bool false, .bool false, .int .i64 0, .int .i64 0, .int .i64 0, .int .i64 0, .int .i64 0, .int .i64 0, .slice none 0 0] : Array Value)[o]? := fun o => (R4.out _ (by omega) o).1.trans (C0.out o).2.1
  have tf4 : ∀ o, w4.frozen? ⟨w.heap.size + 1, o, none⟩ = false := fun o => (R4.out _ (by omega) o).2.trans (C0.out o).2.2
  clear st s4' R4 C0 B0 b0' s0' r0' s1 D1 HB3 q3 S3 U4 Hsb hl hl0
  have y4 : w1.heap.size < w4.heap.size := by omega
  have x4 : w.heap.size < w4.heap.size := by omega
  have x4' : w.heap.size + 1 < w4.heap.size := by omega
  have n1 : w.heap.size ≠ w1.heap.size := by omega
  have n2 : w.heap.size ≠ w3.heap.size := by omega
  have n3 : w.heap.size + 1 ≠ w1.heap.size := by omega
  have n4 : w.heap.size + 1 ≠ w3.heap.size := by omega
  have n5 : w1.heap.size ≠ w3.heap.size := by omega
  have OA4 : Hid (OB w4 w0.heap.size (.slice a1 N c1) L) := OB.off O1.out (fun g h1 h2 => E1.out g h1 h2)
  have OB4 : Hid (OB w4 (w1.heap.size + 1) (.slice a3 N c3) L) := OB.off O3.out (fun g h1 h2 => E3.out g h1 h2)
  have OW3 : Hid (∀ g, (Value.slice a3 N c3).ownBlock = some g → w1.heap.size + 1 ≤ g ∧ g < w3.heap.size) := fun g hg => O3.out.own.lt g hg
  have OW1 : Hid (∀ g, (Value.slice a1 N c1).ownBlock = some g → w0.heap.size ≤ g ∧ g < w1.heap.size) := fun g hg => O1.out.own.lt g hg
  clear E1 E3 O1 O3
  go_upto_block 0 with fail
  go_cut [15] (fun u wx => ∃ (x0 x1 : Int) (d2 d3 d4 : Bool) (x5 x6 x7 x8 x9 x10 : Int) (LB : List Int) (a5 : Option Addr) (NB c5 : Nat), (∀ o, wx.cell? ⟨w1.heap.size, o, none⟩ = (#[.int .i64 y0, .int .i64 y1, .bool b2, .bool b3, .bool b4, .int .i64 y5, .int .i64 y6, .int .i64 y7, .int .i64 y8, .int .i64 y9, .int .i64 y10, .slice a1 N c1] : Array Value)[o]?) ∧ (∀ o, wx.cell? ⟨w3.heap.size, o, none⟩ = (#[.int .i64 x0, .int .i64 x1, .bool d2, .bool d3, .bool d4, .int .i64 x5, .int .i64 x6, .int .i64 x7, .int .i64 x8, .int .i64 x9, .int .i64 x10, .slice a5 NB c5] : Array Value)[o]?) ∧ (∀ o, wx.cell? ⟨w.heap.size, o, none⟩ = (#[.int .i64 0, .int .i64 0, .bool false, .bool false, .bool false, .int .i64 0, .int .i64 0, .int .i64 0, .int .i64 0, .int .i64 0, .int .i64 0, .slice none 0 0] : Array Value)[o]?) ∧ (∀ o, wx.frozen? ⟨w.heap.size, o, none⟩ = false) ∧ (∀ o, wx.cell? ⟨w.heap.size + 1, o, none⟩ = (#[.int .i64 0, .int .i64 0, .bool false, .bool false, .bool false, .int .i64 0, .int .i64 0, .int .i64 0, .int .i64 0, .int .i64 0, .int .i64 0, .slice none 0 0] : Array Value)[o]?) ∧ (∀ o, wx.frozen? ⟨w.heap.size + 1, o, none⟩ = false) ∧ Hid (OB wx w0.heap.size (.slice a1 N c1) L ∧ OB wx w0.heap.size (.slice a5 NB c5) LB ∧ LB.length = NB ∧ NB ≤ 10 ∧ Below w.heap.size w wx))
  case first =>
    by_cases h0 : x = 0
    · have h0a : (x == 0) = true := by simp [h0]
      clear h0
      go_wp2_with fail
      go_meet
      refine ⟨y0, y1, b2, b3, b4, y5, y6 + 1, y7, y8, y9, y10, L, a3, N, c3, bx_far gA4 (by omega), bx_setE gB4 (k := 6) (by simp) rfl, bx_far r4 (by omega), bf_far rf4, bx_far t4 (by omega), bf_far tf4, ?_⟩
      refine hid_mk ⟨OB.keeps' OA4.out (fun g hg => ?_), OB.keeps' (OB.mono OB4.out (by omega)) (fun g hg => ?_), HN.out, by have := HL.out; omega, F4.out.setCell (by simp; omega) _⟩
      · exact Below.heap_setCell _ _ _ _ (by dsimp only; have := OW1.out g hg; omega)
      · exact Below.heap_setCell _ _ _ _ (by dsimp only; have := OW3.out g hg; omega)
    · have h0a : (x == 0) = false := by simp [h0]
      by_cases h1 : x = 1
      · have h1a : (x == 1) = true := by simp [h1]
        clear h1
        go_wp2_with (at_builtin; go_must (refine app_pl _ rfl _ _ 22 22 rfl Try.underlying22 Try.underlying22 (w1.heap.size + 1) (.slice a3 N c3) L (by rfl) (OB.below OB4.out (Nat.le_refl _) ((Below.refl _ _).alloc (Nat.le_refl _) _)) (some ⟨w4.heap.size, 0, none⟩) [0] 1 1 rfl (by rfl) (rb_oneD _ _) (by intro e; cases e) (by have := HL.out; have := HN.out; omega) (by simp; omega) ?_; intro v5 w5 ho5 hb5 hg5 hat5; obtain ⟨a5, c5, hv5, -, -⟩ := ho5.rbn; have HV5 : Hid (v5 = .slice a5 (L ++ [0]).length c5) := hv5; rw [List.length_append, HN.out] at hv5; subst hv5; have KH : Hid (∀ b, b < w4.heap.size → (Value.slice a3 N c3).ownBlock ≠ some b → w5.heap[b]? = w4.heap[b]?) := (fun b h1 h2 => (hg5.block b (by simp; omega) (Ne.symm h2)).trans (((Below.refl w4.heap.size w4).alloc (Nat.le_refl _) _).block b h1)); have O5 : Hid _ := ho5; have HAT : Hid _ := hat5; have F5 : Hid (Below w.heap.size w w5) := (F4.out.alloc (by omega) _).trans (hb5.mono (by omega)); have NB : Hid ((Value.slice a3 N c3).ownBlock ≠ some w3.heap.size) := (fun hg => by have := OW3.out _ hg; omega); have gB5 : ∀ o, w5.cell? ⟨w3.heap.size, o, none⟩ = (#[.int .i64 y0, .int .i64 y1, .bool b2, .bool b3, .bool b4, .int .i64 y5, .int .i64 y6, .int .i64 y7, .int .i64 y8, .int .i64 y9, .int .i64 y10, .slice a3 N c3] : Array Value)[o]? := bx_keepD gB4 (KH.out _ (by omega) NB.out); have fB5 : ∀ o, w5.frozen? ⟨w3.heap.size, o, none⟩ = false := bf_keepD fB4 (KH.out _ (by omega) NB.out); clear ho5 hb5 hg5 hat5))
        go_meet
        refine ⟨y0, y1, b2, b3, b4, y5, y6, y7, y8, y9, y10, L ++ [0], a5, N + 1, c5, bx_far (bx_keepD gA4 (KH.out _ (by omega) (fun hg => by have := OW3.out _ hg; omega))) (by omega), bx_setE gB5 (k := 11) (by simp) rfl, bx_far (bx_keepD r4 (KH.out _ (by omega) (fun hg => by have := OW3.out _ hg; omega))) (by omega), bf_far (bf_keepD rf4 (KH.out _ (by omega) (fun hg => by have := OW3.out _ hg; omega))), bx_far (bx_keepD t4 (KH.out _ (by omega) (fun hg => by have := OW3.out _ hg; omega))) (by omega), bf_far (bf_keepD tf4 (KH.out _ (by omega) (fun hg => by have := OW3.out _ hg; omega))), ?_⟩
        refine hid_mk ⟨OB.keeps' OA4.out (fun g hg => ?_), OB.keeps' (OB.mono O5.out (by omega)) (fun g hg => ?_), by rw [List.length_append, HN.out]; rfl, by have := HL.out; omega, F5.out.setCell (by simp; omega) _⟩
        · rw [Below.heap_setCell _ _ _ _ (by dsimp only; have := OW1.out g hg; omega)]
          exact KH.out g (by have := OW1.out g hg; omega) (fun hg' => by have := OW1.out g hg; have := OW3.out _ hg'; omega)
        · refine Below.heap_setCell _ _ _ _ ?_
          rcases HAT.out with h | h
          · have := OW3.out g (h ▸ hg); dsimp only; omega
          · have h' := hg.symm.trans h; simp at h'; dsimp only; omega
      · have h1a : (x == 1) = false := by simp [h1]
        by_cases h2 : x = 2
        · have h2a : (x == 2) = true := by simp [h2]
          clear h2
          go_wp2_with fail
          refine (sStrip ⟨y0, y1, b2, b3, b4, y5, y6, y7, y8, y9, y10, L⟩ a1 N c1 w4 HN.out OA4.out.rbAt HNI.out (by have := HL.out; omega)).mono ?_
          rintro e w5 ⟨v5, rfl, ho5, hb5⟩
          simp only [Seg.strip] at ho5 ⊢
          obtain ⟨a5, c5, hv, -⟩ := ho5.rb
          rw [HN.out] at hv
          subst hv
          have O5 : Hid (OB w5 w4.heap.size (.slice a5 N c5) L) := ho5
          have HB5 : Hid _ := hb5
          have gB5 := bx_below' gB4 (by omega) hb5
          have fB5 : ∀ o, w5.frozen? ⟨w3.heap.size, o, none⟩ = false := bf_keepD fB4 (hb5.block _ (by omega))
          clear ho5 hb5
          go_wp2_with fail
          go_meet
          refine ⟨y0, y1, b2, b3, b4, y5, y6, y7, 0, 0, 0, L, a5, N, c5, ?_, ?_, ?_, ?_, ?_, ?_, ?_⟩
          · refine bx_far (bx_far (bx_far (bx_far (bx_far (bx_far (bx_far (bx_far (bx_far (bx_far (bx_far (bx_far (bx_below' gA4 (by omega) HB5.out) (by omega)) (by omega)) (by omega)) (by omega)) (by omega)) (by omega)) (by omega)) (by omega)) (by omega)) (by omega)) (by omega)) (by omega)
          · exact bx_set12 gB5 rfl _ _ _ _ _ _ _ _ _ _ _ _
          · refine bx_far (bx_far (bx_far (bx_far (bx_far (bx_far (bx_far (bx_far (bx_far (bx_far (bx_far (bx_far (bx_below' r4 (by omega) HB5.out) (by omega)) (by omega)) (by omega)) (by omega)) (by omega)) (by omega)) (by omega)) (by omega)) (by omega)) (by omega)) (by omega)) (by omega)
          · refine bf_far (bf_far (bf_far (bf_far (bf_far (bf_far (bf_far (bf_far (bf_far (bf_far (bf_far (bf_far (bf_keepD rf4 (HB5.out.block _ (by omega))))))))))))))
          · refine bx_far (bx_far (bx_far (bx_far (bx_far (bx_far (bx_far (bx_far (bx_far (bx_far (bx_far (bx_far (bx_below' t4 (by omega) HB5.out) (by omega)) (by omega)) (by omega)) (by omega)) (by omega)) (by omega)) (by omega)) (by omega)) (by omega)) (by omega)) (by omega)) (by omega)
          · refine bf_far (bf_far (bf_far (bf_far (bf_far (bf_far (bf_far (bf_far (bf_far (bf_far (bf_far (bf_far (bf_keepD tf4 (HB5.out.block _ (by omega))))))))))))))
          · refine hid_mk ⟨OB.keeps' OA4.out (fun g hg => ?_), OB.keeps' (OB.mono O5.out (by omega)) (fun g hg => ?_), HN.out, by have := HL.out; omega, ?_⟩
            · repeat rw [Below.heap_setCell _ _ _ _ (by dsimp only; have := OW1.out g hg; omega)]
              exact HB5.out.block g (by have := OW1.out g hg; omega)
            · repeat rw [Below.heap_setCell _ _ _ _ (by dsimp only; have := (O5.out.own.lt g hg).1; omega)]
            · refine Below.setCell (Below.setCell (Below.setCell (Below.setCell (Below.setCell (Below.setCell (Below.setCell (Below.setCell (Below.setCell (Below.setCell (Below.setCell (Below.setCell (F4.out.trans (HB5.out.mono (by omega))) (by simp; omega) _) (by simp; omega) _) (by simp; omega) _) (by simp; omega) _) (by simp; omega) _) (by simp; omega) _) (by simp; omega) _) (by simp; omega) _) (by simp; omega) _) (by simp; omega) _) (by simp; omega) _) (by simp; omega) _
        · have h2a : (x == 2) = false := by simp [h2]
          go_wp2_with fail
          go_meet
          exact ⟨y0, y1, b2, b3, b4, y5, y6, y7, y8, y9, y10, L, a3, N, c3, gA4, gB4, r4, rf4, t4, tf4, hid_mk ⟨OA4.out, OB.mono OB4.out (by omega), HN.out, by have := HL.out; omega, F4.out⟩⟩
  case rest =>
    rename World => V
    obtain ⟨x0, x1, d2, d3, d4, x5, x6, x7, x8, x9, x10, LB, a5, NB, c5, gA, gB, r, rf, t, tf, HH⟩ := hcut
    clear gA4 gB4 fB4 r4 rf4 t4 tf4 OA4 OB4 F4 OW1 OW3
    obtain ⟨csA, hA⟩ : ∃ cs : List Value, cs = [.int .i64 y0, .int .i64 y1, .bool b2, .bool b3, .bool b4, .int .i64 y5, .int .i64 y6, .int .i64 y7, .int .i64 y8, .int .i64 y9, .int .i64 y10, .slice a1 N c1] := ⟨_, rfl⟩
    obtain ⟨csB, hB⟩ : ∃ cs : List Value, cs = [.int .i64 x0, .int .i64 x1, .bool d2, .bool d3, .bool d4, .int .i64 x5, .int .i64 x6, .int .i64 x7, .int .i64 x8, .int .i64 x9, .int .i64 x10, .slice a5 NB c5] := ⟨_, rfl⟩
    have lA : csA.length = 12 := by rw [hA]; rfl
    have lB : csB.length = 12 := by rw [hB]; rfl
    have oA : ∀ v ∈ csA, v.oneCell' = true := by rw [hA]; simp [Value.oneCell']
    have oB : ∀ v ∈ csB, v.oneCell' = true := by rw [hB]; simp [Value.oneCell']
    have ra : V.rangeAt w1.heap.size 0 csA := range_bx gA (by rw [hA])
    have rb : V.rangeAt w3.heap.size 0 csB := range_bx gB (by rw [hB])
    have ht1 : V.there w.heap.size 0 12 := there_bx r rf rfl
    have ht2 : V.there (w.heap.size + 1) 0 12 := there_bx t tf rfl
    have HA : Hid _ := hA
    have HB : Hid _ := hB
    clear hA hB gA gB r rf t tf
    have hu := Try.underlying25
    have hiA : (Try.prog.info? 25).map (·.size) = some csA.length := by rw [lA]; exact size_seg
    have hiB : (Try.prog.info? 25).map (·.size) = some csB.length := by rw [lB]; exact size_seg
    go_wp2_with fail
    obtain ⟨S, hS⟩ : ∃ S : World → Prop, S = fun w' => w'.rangeAt w1.heap.size 0 csA ∧ w'.rangeAt w3.heap.size 0 csB ∧ w'.there w.heap.size 0 12 ∧ w'.there (w.heap.size + 1) 0 12 := ⟨_, rfl⟩
    have s0 : S V.drew := by rw [hS]; exact ⟨ra, rb, ht1, ht2⟩
    have hm : Try.prog.follows .mixedOrders = true := by kernel_rfl
    refine wp_region_held_drew (S := S) hm s0 (fun _ => ?_)
    refine wpAnyH_take (i := 0) (v := .agg csA.toArray) rfl (by kernel_rfl) (by kernel_rfl) (by kernel_rfl) (fun _ _ _ h => h) (yieldsIf_load_mid (by rfl) 25 (.tmp 5) rfl w1.heap.size 0 (by rfl) csA _ (fun w hw => by rw [hS] at hw; exact hw.1) hu rfl hiA) s0 ?_
    refine wpAnyH_take (i := 1) (v := .agg csB.toArray) rfl (by kernel_rfl) (by kernel_rfl) (by kernel_rfl) (fun _ _ _ h => h) (yieldsIf_load_mid (by rfl) 25 (.tmp 6) rfl w3.heap.size 0 (by rfl) csB _ (fun w hw => by rw [hS] at hw; exact hw.2.1) hu rfl hiB) s0 ?_
    have o3 : S ((V.drew).setCells w.heap.size 0 csA) := by
      rw [hS] at s0 ⊢
      exact ⟨World.rangeAt_setCells_apart s0.1 _ _ _ (Or.inl (by omega)), World.rangeAt_setCells_apart s0.2.1 _ _ _ (Or.inl (by omega)), World.there_setCells s0.2.2.1 _ _ _, World.there_setCells s0.2.2.2 _ _ _⟩
    have o4 : S (((V.drew).setCells w.heap.size 0 csA).setCells (w.heap.size + 1) 0 csB) := by
      rw [hS] at o3 ⊢
      exact ⟨World.rangeAt_setCells_apart o3.1 _ _ _ (Or.inl (by omega)), World.rangeAt_setCells_apart o3.2.1 _ _ _ (Or.inl (by omega)), World.there_setCells o3.2.2.1 _ _ _, World.there_setCells o3.2.2.2 _ _ _⟩
    refine wpAnyH_all (rs := [2]) (by kernel_rfl) (by simp) ?_
    intro i hi
    obtain rfl : i = 2 := by simpa using hi
    refine wpOp_store_mid rfl (by rfl) 25 (.tmp 2) (.tmp 32) rfl w.heap.size 0 csA.toArray (by rfl) (by rfl) (by rw [hS] at s0; simpa [lA] using s0.2.2.1) (by simpa using hiA) (all_oneCell_toArray oA) ⟨o3, ?_⟩
    refine wpAnyH_all (rs := [3]) (by kernel_rfl) (by simp) ?_
    intro i hi
    obtain rfl : i = 3 := by simpa using hi
    refine wpOp_store_mid rfl (by rfl) 25 (.tmp 3) (.tmp 33) rfl (w.heap.size + 1) 0 csB.toArray (by rfl) (by rfl) (by rw [hS] at o3; simpa [lB] using o3.2.2.2) (by simpa using hiB) (all_oneCell_toArray oB) ⟨o4, ?_⟩
    refine wpAnyH_done (by kernel_rfl) ?_ _
    have l1 : (((V.drew).setCells w.heap.size 0 csA).setCells (w.heap.size + 1) 0 csB).rangeAt w.heap.size 0 csA := by
      rw [hS] at s0
      exact World.rangeAt_setCells_apart (World.rangeAt_setCells_same _ _ _ _ (by rw [lA]; exact s0.2.2.1)) _ _ _ (Or.inl (by omega))
    have l2 : (((V.drew).setCells w.heap.size 0 csA).setCells (w.heap.size + 1) 0 csB).rangeAt (w.heap.size + 1) 0 csB := by
      rw [hS] at o3
      exact World.rangeAt_setCells_same _ _ _ _ (by rw [lB]; exact o3.2.2.2)
    have g1 := run_loadVar_mid (P := Try.prog) _ _ _ _ _ _ l1 hu rfl hiA
    have g2 := run_loadVar_mid (P := Try.prog) _ _ _ _ _ _ l2 hu rfl hiB
    have bb : Below w.heap.size V (((V.drew).setCells w.heap.size 0 csA).setCells (w.heap.size + 1) 0 csB) := below_setCells (below_setCells ((Below.refl _ _).drew) (Nat.le_refl _) _ _) (Nat.le_succ _) _ _
    have kp : ∀ g, g ≠ w.heap.size → g ≠ w.heap.size + 1 → (((V.drew).setCells w.heap.size 0 csA).setCells (w.heap.size + 1) 0 csB).heap[g]? = V.heap[g]? := fun g h1 h2 => by
      rw [heap_setCells _ _ _ _ _ h2, heap_setCells _ _ _ _ _ h1]; rfl
    generalize (((V.drew).setCells w.heap.size 0 csA).setCells (w.heap.size + 1) 0 csB) = Z at *
    clear o3 o4 s0 hS ra rb ht1 ht2
    go_wp2_with fail
    refine bodyPost_ret (v := .tuple #[.agg csA.toArray, .agg csB.toArray]) (by simp [results, Try.results5, Act.put, asAddr, g1, g2]) rfl ?_
    obtain ⟨h1, h2, h3, h4, h5⟩ := HH.out
    refine ⟨⟨y0, y1, b2, b3, b4, y5, y6, y7, y8, y9, y10, L⟩, ⟨x0, x1, d2, d3, d4, x5, x6, x7, x8, x9, x10, LB⟩, a1, a5, c1, c5, by rw [HA.out, HB.out, ← HN.out, ← h3], ?_, ?_, HNI.out, ?_, ?_, ?_⟩
    · exact OB.rbAt (OB.keeps h1 (fun g hg => kp g (by omega) (by omega)))
    · exact OB.rbAt (OB.keeps h2 (fun g hg => kp g (by omega) (by omega)))
    · show L.length ≤ 10; have := HL.out; have := HN.out; omega
    · show LB.length ≤ 10; omega
    · exact h5.trans bb
end Go.Proofs.Ythgdbbbdmhhjaae
