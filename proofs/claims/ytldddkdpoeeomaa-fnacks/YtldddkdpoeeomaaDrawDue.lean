/- What the draw for DueFlights gives: some sender that can be read, and two numbers; nothing that was in memory turns; no condition. -/
import Derived.Test.YtldddkdpoeeomaaRows
import Derived.Test.YtldddkdpoeeomaaBase
import Derived.Test.YtldddkdpoeeomaaDraws
import Derived.Test.YtldddkdpoeeomaaBytes
import Derived.Test.YtldddkdpoeeomaaAppBytes
import Derived.Test.YtldddkdpoeeomaaDrawsD
import Derived.Test.YtldddkdpoeeomaaMem
import Derived.Test.YtldddkdpoeeomaaHBase
import Derived.Test.YtldddkdpoeeomaaHFlight
import Derived.Test.YtldddkdpoeeomaaHSender
import Derived.Test.YtldddkdpoeeomaaFlightDef
import Derived.Test.YtldddkdpoeeomaaDrawSnd
import Derived.Deep.RegionHeld3
namespace Go.Proofs.Ytldddkdpoeeomaa
open Go.RowKit
set_option linter.unusedVariables false
set_option linter.unusedSimpArgs false

theorem Src.drewS {w : World} {sb : Nat} {v : Value} {K : Int} (h : Src w sb v K) : Src w.drew sb v K := h.bel (Below.drew (Below.refl _ _))
theorem Dr.drewS (sb : Nat) (w : World) : Dr sb w w.drew := (Dr.refl sb w).then (Below.drew (Below.refl _ _)) (Nat.le_refl _)
set_option maxHeartbeats 4000000 in
theorem dDue (a : Option Addr) (len cap : Nat) (zs : List Int) (w : World) (hr : BRow .u8 w a len cap zs) (hl : RowLt w.heap.size a zs) :
    Calls Try.prog 10 #[.slice a len cap] w fun e w' => ∃ (x : DSender) (u : Value) (now wait : Int), e = .returned (.tuple #[.agg #[.int .i64 x.1, .int .i64 x.2.1, .int .i64 x.2.2.1, u], .int .i64 now, .int .i64 wait]) ∧ shSender.Rd w' w'.heap.size x [.int .i64 x.1, .int .i64 x.2.1, .int .i64 x.2.2.1, u] ∧ totSender x ≤ 1048576 ∧ Below w.heap.size w w' := by
  go_enter Try.func10, Try.ntmps10
  go_wp2_with fail
  obtain ⟨W0, hW0⟩ : ∃ W0, w.alloc (.cells #[.int .i64 0, .int .i64 0, .int .i64 0, .slice none 0 0] 26) = W0 := ⟨_, rfl⟩
  have b0 : Below w.heap.size w W0 := by rw [← hW0]; exact (Below.refl _ _).alloc (Nat.le_refl _) _
  have kR : ∀ o, W0.cell? ⟨w.heap.size, o, none⟩ = (#[.int .i64 0, .int .i64 0, .int .i64 0, .slice none 0 0] : Array Value)[o]? := by rw [← hW0]; intro o; simp [go_sem]
  have fR : ∀ o, W0.frozen? ⟨w.heap.size, o, none⟩ = false := by rw [← hW0]; intro o; simp [go_sem]
  have z0 : W0.heap.size = w.heap.size + 1 := by rw [← hW0]; simp
  simp only [hW0, ← z0]
  clear hW0
  have r0 := hr.below hl b0
  clear hr hl
  refine (sSource _ _ _ _).mono ?_
  rintro e W1 ⟨rfl, hW1⟩
  obtain ⟨s1, r1, b1⟩ := draw_start 135 r0 r0.lt
  rw [← hW1] at s1 r1 b1
  clear hW1
  generalize hsb : W0.heap.size = sb at *
  have zR : w.heap.size < sb := by omega
  have hne : w.heap.size ≠ sb := by omega
  replace kR := fun o => (b1.cell (p := ⟨w.heap.size, o, none⟩) (by dsimp only; omega)).trans (kR o)
  replace fR := fun o => (b1.frozen (p := ⟨w.heap.size, o, none⟩) (by dsimp only; omega)).trans (fR o)
  have B1 : Hid (Below w.heap.size w W1) := b0.trans (b1.mono (by omega))
  have hl1 := r0.lt
  rw [hsb] at hl1
  have zs1 := s1.lt
  have HR : Hid (∀ W, Dr sb W1 W → BRow .u8 W a len cap zs) := fun W h => r1.below hl1 (h.below (Nat.le_of_lt zs1))
  have S : Hid _ := s1
  clear b0 b1 r0 r1 hsb z0 s1
  go_wp2_with fail
  refine (sSender5 sb a len cap zs _ W1 S.out (HR.out _ (Dr.refl _ _)) hl1 (by omega) (by omega)).mono ?_
  rintro e w2 ⟨x, u, rfl, ho, hT, dd, s2⟩
  obtain ⟨vv, ev, rk, -⟩ := rd_Sender (ho.rd (Nat.le_refl _))
  simp only [List.cons.injEq, and_true, true_and] at ev
  subst ev
  obtain ⟨va, vc, ev2⟩ := row_form rk
  simp only [List.cons.injEq, and_true] at ev2
  subst ev2
  clear rk
  have HSx : Hid (∀ W, (∀ b, W1.heap.size ≤ b → b < w2.heap.size → W.heap[b]? = w2.heap[b]?) → w2.heap.size ≤ W.heap.size → shSender.Rd W W.heap.size x [.int .i64 x.1, .int .i64 x.2.1, .int .i64 x.2.2.1, .slice va x.2.2.2.1.length vc]) := fun W hk hz => (Own.mono (Own.keep ho hk) (Nat.le_refl _) hz).rd (Nat.le_refl _)
  have HT : Hid (totSender x ≤ 1048576) := hT
  have hz2 := dd.size
  have zR2 : w.heap.size < w2.heap.size := by omega
  have hne2 : w2.heap.size ≠ sb := by omega
  replace kR := fun o => (dd.cell (p := ⟨w.heap.size, o, none⟩) (by dsimp only; omega) hne).trans (kR o)
  replace fR := fun o => (dd.frozen (p := ⟨w.heap.size, o, none⟩) (by dsimp only; omega) hne).trans (fR o)
  have D : Hid (Dr sb W1 w2) := dd
  replace S : Hid _ := s2
  clear dd s2 ho hT
  obtain ⟨y0, hy0⟩ : ∃ y0, x.1 = y0 := ⟨_, rfl⟩
  obtain ⟨y1, hy1⟩ : ∃ y1, x.2.1 = y1 := ⟨_, rfl⟩
  obtain ⟨y2, hy2⟩ : ∃ y2, x.2.2.1 = y2 := ⟨_, rfl⟩
  obtain ⟨vn, hvn⟩ : ∃ vn, x.2.2.2.1.length = vn := ⟨_, rfl⟩
  have HY : Hid (x.1 = y0 ∧ x.2.1 = y1 ∧ x.2.2.1 = y2 ∧ x.2.2.2.1.length = vn) := ⟨hy0, hy1, hy2, hvn⟩
  rw [hy0, hy1, hy2, hvn] at HSx ⊢
  clear hy0 hy1 hy2 hvn
  go_wp2_with fail
  obtain ⟨w3, hw3⟩ : ∃ w3, w2.alloc (.cells #[.int .i64 y0, .int .i64 y1, .int .i64 y2, .slice va vn vc] 26) = w3 := ⟨_, rfl⟩
  have b3 : Below w2.heap.size w2 w3 := by rw [← hw3]; exact (Below.refl _ _).alloc (Nat.le_refl _) _
  have k6 : ∀ o, w3.cell? ⟨w2.heap.size, o, none⟩ = (#[.int .i64 y0, .int .i64 y1, .int .i64 y2, .slice va vn vc] : Array Value)[o]? := by rw [← hw3]; intro o; simp [go_sem]
  have z3 : w2.heap.size < w3.heap.size := by rw [← hw3]; simp
  simp only [hw3]
  clear hw3
  replace kR := fun o => (b3.cell (p := ⟨w.heap.size, o, none⟩) (by dsimp only; omega)).trans (kR o)
  replace fR := fun o => (b3.frozen (p := ⟨w.heap.size, o, none⟩) (by dsimp only; omega)).trans (fR o)
  have HSy : Hid (∀ W, (∀ b, W1.heap.size ≤ b → b < w3.heap.size → W.heap[b]? = w3.heap[b]?) → w3.heap.size ≤ W.heap.size → shSender.Rd W W.heap.size x [.int .i64 y0, .int .i64 y1, .int .i64 y2, .slice va vn vc]) := fun W hk hz => HSx.out W (fun b h1 h2 => (hk b h1 (by omega)).trans (b3.block b h2)) (by omega)
  replace D : Hid (Dr sb W1 w3) := D.out.then b3 hz2
  replace S : Hid _ := S.out.bel b3
  have hz13 : W1.heap.size ≤ w3.heap.size := by omega
  generalize w2.heap.size = cb at *
  clear b3 HSx
  have KK : Hid (∀ W, Dr sb w3 W → (W.cell? ⟨cb, 0, none⟩ = some (.int .i64 y0) ∧ W.cell? ⟨cb, 1, none⟩ = some (.int .i64 y1) ∧ W.cell? ⟨cb, 2, none⟩ = some (.int .i64 y2) ∧ W.cell? ⟨cb, 3, none⟩ = some (.slice va vn vc))) := fun W h => ⟨(h.cell (p := ⟨cb, 0, none⟩) z3 hne2).trans (k6 0), (h.cell (p := ⟨cb, 1, none⟩) z3 hne2).trans (k6 1), (h.cell (p := ⟨cb, 2, none⟩) z3 hne2).trans (k6 2), (h.cell (p := ⟨cb, 3, none⟩) z3 hne2).trans (k6 3)⟩
  have fk := KK.out _ (Dr.drewS sb w3)
  have hcz : cb < w3.heap.size := z3
  have M1 : True := trivial
  have M2 : True := trivial
  have M3 : True := trivial
  have M4 : True := trivial
  have M5 : True := trivial
  go_upto_region 3 with fail
  go_region_held3 (fun W => W.cell? ⟨cb, 0, none⟩ = some (.int .i64 y0) ∧ W.cell? ⟨cb, 1, none⟩ = some (.int .i64 y1) ∧ W.cell? ⟨cb, 2, none⟩ = some (.int .i64 y2) ∧ W.cell? ⟨cb, 3, none⟩ = some (.slice va vn vc)) (first | assumption | exact fk | go_keep)
    ((first
      | (go_at_call 44; first
          | (clear M1; refine (sNext sb a len cap zs _ 40 _ S.out.drewS (HR.out _ (D.out.trans (Dr.drewS sb w3))) hl1 (by omega) (by omega)).mono ?_; rintro e w4 ⟨x4, rfl, p4, q4, st, s4⟩; have E4 : Hid (Dr sb w3 w4) := (Dr.drewS sb w3).trans st.dr; have S4 : Hid _ := s4; have fk4 := KK.out _ E4.out; have zz4 : cb < w4.heap.size := Nat.lt_of_lt_of_le z3 E4.out.size; clear st s4)
          | (clear M2; refine (sNext sb a len cap zs _ 40 w4 S4.out (HR.out _ (D.out.trans E4.out)) hl1 (by omega) (by omega)).mono ?_; rintro e w5 ⟨x5, rfl, p5, q5, st, s5⟩; have E5 : Hid (Dr sb w3 w5) := E4.out.trans st.dr; have S5 : Hid _ := s5; have fk5 := KK.out _ E5.out; have zz5 : cb < w5.heap.size := Nat.lt_of_lt_of_le z3 E5.out.size; have zn5 : cb ≠ w5.heap.size := (by omega); have zm5 : w5.heap.size ≠ cb := (by omega); clear st s5)
          | (clear M4; refine (sNext sb a len cap zs _ 20 w6 S6.out (HR.out _ (D.out.trans E6.out)) hl1 (by omega) (by omega)).mono ?_; rintro e w7 ⟨x7, rfl, p7, q7, st, s7⟩; have E7 : Hid (Dr sb w3 w7) := E6.out.trans st.dr; have S7 : Hid _ := s7; have fk7 := KK.out _ E7.out; have zz7 : cb < w7.heap.size := Nat.lt_of_lt_of_le z3 E7.out.size; have zn7 : cb ≠ w7.heap.size := (by omega); have zm7 : w7.heap.size ≠ cb := (by omega); clear st s7))
      | (go_at_call 43; first
          | (clear M3; have hp := sPickD sb a len cap zs _ [x4, x5, -1] 2 w5 S5.out (HR.out _ (D.out.trans E5.out)) hl1 (by omega) (by simp) (by simp); simp only [List.length_cons, List.length_nil, List.map_cons, List.map_nil, Nat.zero_add, Nat.reduceAdd] at hp; refine hp.mono ?_; clear hp; rintro e w6 ⟨now, rfl, -, st, s6⟩; have E6 : Hid (Dr sb w3 w6) := E5.out.trans st; have S6 : Hid _ := s6; have fk6 := KK.out _ E6.out; clear st s6)
          | (clear M5; have hp := sPickD sb a len cap zs _ [x7, 0, 1000001] 2 w7 S7.out (HR.out _ (D.out.trans E7.out)) hl1 (by omega) (by simp) (by simp); simp only [List.length_cons, List.length_nil, List.map_cons, List.map_nil, Nat.zero_add, Nat.reduceAdd] at hp; refine hp.mono ?_; clear hp; rintro e w8 ⟨wait, rfl, -, st, s8⟩; have E8 : Hid (Dr sb w3 w8) := E7.out.trans st; have fk8 := KK.out _ E8.out; have kR8 := (fun o => (E8.out.cell (p := ⟨w.heap.size, o, none⟩) (Nat.lt_trans zR2 z3) hne).trans (kR o)); have fR8 := (fun o => (E8.out.frozen (p := ⟨w.heap.size, o, none⟩) (Nat.lt_trans zR2 z3) hne).trans (fR o)); have zn8 : cb ≠ w.heap.size := (by omega); have zm8 : w.heap.size ≠ cb := (by omega); clear st s8))))
  all_goals (go_wp2_with fail)
  all_goals (obtain ⟨e0, e1, e2, e3⟩ := HY.out)
  all_goals (refine bodyPost_ret (v := .tuple #[.agg #[.int .i64 y0, .int .i64 y1, .int .i64 y2, .slice va vn vc], .int .i64 now, .int .i64 wait]) (by simp [results, Try.results10, go_sem, kR8]) rfl ⟨x, .slice va vn vc, now, wait, by rw [e0, e1, e2], ?_, HT.out, ?_⟩)
  all_goals first
    | (rw [e0, e1, e2]; refine HSy.out _ (fun b h1 h2 => ?_) (by have := E8.out.size; simpa using this); (repeat rw [Below.heap_setCell _ _ _ _ (by dsimp only; omega)]); exact E8.out.block b h2 (by omega))
    | (have hB1 : Below w.heap.size w w8 := B1.out.trans (((D.out.trans E8.out).below (Nat.le_of_lt zs1)).mono (by omega)); clear kR8 fR8 kR fR k6 fk8 fk4 fk5 fk6 fk7 fk; go_grown)
end Go.Proofs.Ytldddkdpoeeomaa
