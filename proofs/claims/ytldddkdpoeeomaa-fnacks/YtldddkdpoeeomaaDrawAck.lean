/- What the draw for AckSender gives: some sender that can be read, and a number; nothing that was in memory turns; no condition. Written by mkdrack.py. -/
import Derived.Test.YtldddkdpoeeomaaRows
import Derived.Test.YtldddkdpoeeomaaBase
import Derived.Test.YtldddkdpoeeomaaDraws
import Derived.Test.YtldddkdpoeeomaaBytes
import Derived.Test.YtldddkdpoeeomaaAppBytes
import Derived.Test.YtldddkdpoeeomaaDrawsD
import Derived.Test.YtldddkdpoeeomaaMem
import Derived.Test.YtldddkdpoeeomaaHBase
import Derived.Test.YtldddkdpoeeomaaHFlight
import Derived.Test.YtldddkdpoeeomaaHSender
import Derived.Test.YtldddkdpoeeomaaFlightDef
import Derived.Test.YtldddkdpoeeomaaAgg
import Derived.Test.YtldddkdpoeeomaaMemOpen
import Derived.Test.YtldddkdpoeeomaaDrawSndT
import Derived.Test.YtldddkdpoeeomaaDrawSnd
import Derived.Test.YtldddkdpoeeomaaDrawDue
import Derived.Test.YtldddkdpoeeomaaNum
import Derived.Test.YtldddkdpoeeomaaNumWalks
import Derived.Deep.RegionHeld3
import Derived.Deep.DeepCutAuto
import Derived.Deep.CutRange
import Derived.Deep.DeepMust
import Derived.Deep.MidRow
namespace Go.Proofs.Ytldddkdpoeeomaa
open Go.RowKit
set_option linter.unusedVariables false
set_option linter.unusedSimpArgs false
set_option maxRecDepth 8000

set_option maxHeartbeats 8000000 in
theorem dAckS (a : Option Addr) (len cap : Nat) (zs : List Int) (w : World) (hr : BRow .u8 w a len cap zs) (hl : RowLt w.heap.size a zs) :
    Calls Try.prog 21 #[.slice a len cap] w fun e w' => ∃ (x : DSender) (u : Value) (ack : Int), e = .returned (.tuple #[.agg #[.int .i64 x.1, .int .i64 x.2.1, .int .i64 x.2.2.1, u], .int .i64 ack]) ∧ shSender.Rd w' w'.heap.size x [.int .i64 x.1, .int .i64 x.2.1, .int .i64 x.2.2.1, u] ∧ totSender x ≤ 1048576 ∧ Below w.heap.size w w' := by
  go_enter Try.func21, Try.ntmps21
  go_wp2_with fail
  obtain ⟨W0, hW0⟩ : ∃ W0, w.alloc (.cells #[.int .i64 0, .int .i64 0, .int .i64 0, .slice none 0 0] 26) = W0 := ⟨_, rfl⟩
  have b0 : Below w.heap.size w W0 := by rw [← hW0]; exact (Below.refl _ _).alloc (Nat.le_refl _) _
  have kR : ∀ o, W0.cell? ⟨w.heap.size, o, none⟩ = (#[.int .i64 0, .int .i64 0, .int .i64 0, .slice none 0 0] : Array Value)[o]? := by rw [← hW0]; intro o; simp [go_sem]
  have fR : ∀ o, W0.frozen? ⟨w.heap.size, o, none⟩ = false := by rw [← hW0]; intro o; simp [go_sem]
  have z0 : W0.heap.size = w.heap.size + 1 := by rw [← hW0]; simp
  simp only [hW0, ← z0]
  clear hW0
  have r0 := hr.below hl b0
  clear hr hl
  refine (sSource _ _ _ _).mono ?_
  rintro e W1 ⟨rfl, hW1⟩
  obtain ⟨s1, r1, b1⟩ := draw_start 135 r0 r0.lt
  rw [← hW1] at s1 r1 b1
  clear hW1
  generalize hsb : W0.heap.size = sb at *
  have zR : w.heap.size < sb := by omega
  have hne : w.heap.size ≠ sb := by omega
  replace kR := fun o => (b1.cell (p := ⟨w.heap.size, o, none⟩) (by dsimp only; omega)).trans (kR o)
  replace fR := fun o => (b1.frozen (p := ⟨w.heap.size, o, none⟩) (by dsimp only; omega)).trans (fR o)
  have B1 : Hid (Below w.heap.size w W1) := b0.trans (b1.mono (by omega))
  have hl1 := r0.lt
  rw [hsb] at hl1
  have zs1 := s1.lt
  have HR : Hid (∀ W, Dr sb W1 W → BRow .u8 W a len cap zs) := fun W h => r1.below hl1 (h.below (Nat.le_of_lt zs1))
  have S : Hid _ := s1
  clear b0 b1 r0 r1 hsb z0 s1
  go_wp2_with fail
  refine (sSender5 sb a len cap zs _ W1 S.out (HR.out _ (Dr.refl _ _)) hl1 (by omega) (by omega)).mono ?_
  rintro e w2 ⟨x, u, rfl, ho, hT, dd, s2⟩
  obtain ⟨vv, ev, rk, -⟩ := rd_Sender (ho.rd (Nat.le_refl _))
  simp only [List.cons.injEq, and_true, true_and] at ev
  subst ev
  obtain ⟨va, vc, ev2⟩ := row_form rk
  simp only [List.cons.injEq, and_true] at ev2
  subst ev2
  clear rk
  have hdsn := DSnd.of (XB := sb) ho zs1 (by have := dd.size; omega)
  have HSx : Hid (∀ W, (∀ b, W1.heap.size ≤ b → b < w2.heap.size → W.heap[b]? = w2.heap[b]?) → w2.heap.size ≤ W.heap.size → shSender.Rd W W.heap.size x [.int .i64 x.1, .int .i64 x.2.1, .int .i64 x.2.2.1, .slice va x.2.2.2.1.length vc]) := fun W hk hz => (Own.mono (Own.keep ho hk) (Nat.le_refl _) hz).rd (Nat.le_refl _)
  have HT : Hid (totSender x ≤ 1048576) := hT
  have HFC : Hid (∀ j (hj : j < x.2.2.2.1.length), ∃ fb fo, va = some ⟨fb, fo, none⟩ ∧ ∃ (f0 f1 : Int) (fa : Option Addr) (fn fc : Nat) (f3 f4 : Int), ∀ W, Dr sb w2 W → W.rangeAt fb (fo + j * 5) [.int .i64 f0, .int .i64 f1, .slice fa fn fc, .int .i64 f3, .int .i64 f4]) := fun j hj => by
    obtain ⟨b, off, cs, q1, q2, q3, hrg, r3⟩ := row_at (hdsn.own.rd (Nat.le_refl _)) j hj
    obtain ⟨vv, ev, rk2, -⟩ := rd_Flight r3
    obtain ⟨xa, xc, ev2⟩ := row_form rk2
    simp only [List.cons.injEq, and_true] at ev2
    subst ev2 ev
    have hbo := hdsn.own.blk (b := b) (by rw [q1]; rfl)
    have hne : b ≠ sb := by omega
    exact ⟨b, off, q1, _, _, _, _, _, _, _, fun W hW i v hv => (hW.cell (p := ⟨b, _, none⟩) hbo.2 hne).trans (hrg i v hv)⟩
  have hvmx : x.2.2.2.1.length ≤ 1048576 := by have h : x.2.2.2.1.length + fsum totFlight x.2.2.2.1 ≤ 1048576 := hT; omega
  have hz2 := dd.size
  have zR2 : w.heap.size < w2.heap.size := by omega
  have hne2 : w2.heap.size ≠ sb := by omega
  replace kR := fun o => (dd.cell (p := ⟨w.heap.size, o, none⟩) (by dsimp only; omega) hne).trans (kR o)
  replace fR := fun o => (dd.frozen (p := ⟨w.heap.size, o, none⟩) (by dsimp only; omega) hne).trans (fR o)
  have D : Hid (Dr sb W1 w2) := dd
  replace S : Hid _ := s2
  clear dd s2 ho hT hdsn
  obtain ⟨y0, hy0⟩ : ∃ y0, x.1 = y0 := ⟨_, rfl⟩
  obtain ⟨y1, hy1⟩ : ∃ y1, x.2.1 = y1 := ⟨_, rfl⟩
  obtain ⟨y2, hy2⟩ : ∃ y2, x.2.2.1 = y2 := ⟨_, rfl⟩
  obtain ⟨vn, hvn⟩ : ∃ vn, x.2.2.2.1.length = vn := ⟨_, rfl⟩
  have HY : Hid (x.1 = y0 ∧ x.2.1 = y1 ∧ x.2.2.1 = y2 ∧ x.2.2.2.1.length = vn) := ⟨hy0, hy1, hy2, hvn⟩
  rw [hy0, hy1, hy2, hvn] at HSx ⊢
  rw [hvn] at HFC hvmx
  clear hy0 hy1 hy2 hvn
  go_upto_region 3 with fail
  obtain ⟨w3, hw3⟩ : ∃ w3, w2.alloc (.cells #[.int .i64 y0, .int .i64 y1, .int .i64 y2, .slice va vn vc] 26) = w3 := ⟨_, rfl⟩
  have b3 : Below w2.heap.size w2 w3 := by rw [← hw3]; exact (Below.refl _ _).alloc (Nat.le_refl _) _
  have k6 : ∀ o, w3.cell? ⟨w2.heap.size, o, none⟩ = (#[.int .i64 y0, .int .i64 y1, .int .i64 y2, .slice va vn vc] : Array Value)[o]? := by rw [← hw3]; intro o; simp [go_sem]
  have z3 : w2.heap.size < w3.heap.size := by rw [← hw3]; simp
  simp only [hw3]
  clear hw3
  replace kR := fun o => (b3.cell (p := ⟨w.heap.size, o, none⟩) (by dsimp only; omega)).trans (kR o)
  replace fR := fun o => (b3.frozen (p := ⟨w.heap.size, o, none⟩) (by dsimp only; omega)).trans (fR o)
  have HSy : Hid (∀ W, (∀ b, W1.heap.size ≤ b → b < w3.heap.size → W.heap[b]? = w3.heap[b]?) → w3.heap.size ≤ W.heap.size → shSender.Rd W W.heap.size x [.int .i64 y0, .int .i64 y1, .int .i64 y2, .slice va vn vc]) := fun W hk hz => HSx.out W (fun b h1 h2 => (hk b h1 (by omega)).trans (b3.block b h2)) (by omega)
  replace D : Hid (Dr sb W1 w3) := D.out.then b3 hz2
  replace S : Hid _ := S.out.bel b3
  have hz13 : W1.heap.size ≤ w3.heap.size := by omega
  have HFD : Hid (∀ j (hj : j < vn), ∃ fb fo, va = some ⟨fb, fo, none⟩ ∧ ∃ (f0 f1 : Int) (fa : Option Addr) (fn fc : Nat) (f3 f4 : Int), ∀ W, Dr sb w3 W → W.rangeAt fb (fo + j * 5) [.int .i64 f0, .int .i64 f1, .slice fa fn fc, .int .i64 f3, .int .i64 f4]) := fun j hj => by
    obtain ⟨fb, fo, q, f0, f1, fa, fn, fc, f3, f4, h⟩ := HFC.out j hj
    exact ⟨fb, fo, q, f0, f1, fa, fn, fc, f3, f4, fun W hW => h W (((Dr.refl sb w2).then b3 (Nat.le_refl _)).trans hW)⟩
  clear HFC
  generalize w2.heap.size = cb at *
  clear b3 HSx
  have KK : Hid (∀ W, Dr sb w3 W → (W.cell? ⟨cb, 0, none⟩ = some (.int .i64 y0) ∧ W.cell? ⟨cb, 1, none⟩ = some (.int .i64 y1) ∧ W.cell? ⟨cb, 2, none⟩ = some (.int .i64 y2) ∧ W.cell? ⟨cb, 3, none⟩ = some (.slice va vn vc))) := fun W h => ⟨(h.cell (p := ⟨cb, 0, none⟩) z3 hne2).trans (k6 0), (h.cell (p := ⟨cb, 1, none⟩) z3 hne2).trans (k6 1), (h.cell (p := ⟨cb, 2, none⟩) z3 hne2).trans (k6 2), (h.cell (p := ⟨cb, 3, none⟩) z3 hne2).trans (k6 3)⟩
  have hcz : cb < w3.heap.size := z3
  have hcr : cb ≠ w.heap.size := by omega
  have hcr2 : w.heap.size ≠ cb := by omega
  have HKR : Hid (∀ W, Dr sb w3 W → (∀ o, W.cell? ⟨w.heap.size, o, none⟩ = (#[.int .i64 0, .int .i64 0, .int .i64 0, .slice none 0 0] : Array Value)[o]?) ∧ (∀ o, W.frozen? ⟨w.heap.size, o, none⟩ = false)) := fun W h => ⟨fun o => (h.cell (p := ⟨w.heap.size, o, none⟩) (by dsimp only; omega) hne).trans (kR o), fun o => (h.frozen (p := ⟨w.heap.size, o, none⟩) (by dsimp only; omega) hne).trans (fR o)⟩
  clear k6 kR fR
  by_cases hv : vn = 0
  case pos =>
    have hv2 : decide ((0 : Int) < (vn : Int)) = false := decide_eq_false (by omega)
    have hv3 : decide (0 < vn) = false := decide_eq_false (by omega)
    clear hv
    obtain ⟨fk0, fk1, fk2, fk3⟩ := KK.out w3 (Dr.refl sb w3)
    go_upto_region 8 with fail
    have EW : Hid (Dr sb w3 w3) := Dr.refl _ _
    have SW : Hid _ := S.out
    clear S fk0 fk1 fk2 fk3 HFD
    obtain ⟨at0, hat0⟩ : ∃ z : Int, z = y2 := ⟨_, rfl⟩
    rw [← hat0]
    clear hat0
    have fk := KK.out _ EW.out
    have hwz : w3.heap.size ≤ w3.heap.size := Nat.le_refl _
    have hcw : cb < w3.heap.size := Nat.lt_of_lt_of_le hcz EW.out.size
    have hcn : cb ≠ w3.heap.size := by omega
    have hcn2 : w3.heap.size ≠ cb := by omega
    go_region_held3 (fun W => W.cell? ⟨cb, 0, none⟩ = some (.int .i64 y0) ∧ W.cell? ⟨cb, 1, none⟩ = some (.int .i64 y1) ∧ W.cell? ⟨cb, 2, none⟩ = some (.int .i64 y2) ∧ W.cell? ⟨cb, 3, none⟩ = some (.slice va vn vc)) (first | assumption | exact fk | go_keep)
      ((first
        | (go_at_call 43; have hp := sPickR sb a len cap zs _ [at0, at0, IntKind.i64.wrap (at0 + 1), y2, IntKind.i64.wrap (y1 + 1), IntKind.i64.wrap (y2 - 9)] 2 w3 SW.out (HR.out _ (D.out.trans EW.out)) hl1 (by omega) (by simp) (by simp); simp only [List.length_cons, List.length_nil, List.map_cons, List.map_nil, Nat.zero_add, Nat.reduceAdd] at hp; refine hp.mono ?_; clear hp; rintro e w8 ⟨q8, rfl, -, st, s8⟩; have E8 : Hid (Dr sb w3 w8) := EW.out.trans st; have fk8 := KK.out _ E8.out; obtain ⟨kR8, fR8⟩ := HKR.out _ E8.out; clear st s8)
        | (go_at_call 66; refine (sAdd _ _ _).mono ?_; rintro e w' ⟨rfl, hw⟩; subst w')))
    all_goals (go_wp2_with fail)
    all_goals (obtain ⟨e0, e1, e2, e3⟩ := HY.out)
    all_goals (refine bodyPost_ret (v := .tuple #[.agg #[.int .i64 y0, .int .i64 y1, .int .i64 y2, .slice va vn vc], .int .i64 (wrp (y0 + q8))]) (by simp [results, Try.results21, go_sem, kR8]) rfl ⟨x, .slice va vn vc, wrp (y0 + q8), by rw [e0, e1, e2], ?_, HT.out, ?_⟩)
    all_goals first
      | (rw [e0, e1, e2]; refine HSy.out _ (fun b h1 h2 => ?_) (by have := E8.out.size; simpa using this); (repeat rw [Below.heap_setCell _ _ _ _ (by dsimp only; omega)]); exact E8.out.block b h2 (by omega))
      | (have hB1 : Below w.heap.size w w8 := B1.out.trans (((D.out.trans E8.out).below (Nat.le_of_lt zs1)).mono (by omega)); clear kR8 fR8 fk8 fk; go_grown)
  have hv0 : (0 : Int) < (vn : Int) := by omega
  have hv1 : 0 < vn := by omega
  obtain ⟨fb, fo, rfl, -⟩ := HFD.out 0 (by omega)
  obtain ⟨fk0, fk1, fk2, fk3⟩ := KK.out w3 (Dr.refl sb w3)
  clear hv
  go_upto_region 6 with fail
  clear fk0 fk1 fk2 fk3
  go_cut [8] (fun u wx => ∃ (p : Nat) (f0 : Int) (fa : Option Addr) (fn fc : Nat), u = .pointer (some ⟨p, 0, none⟩) ∧ wx.cell? ⟨p, 0, none⟩ = some (.int .i64 f0) ∧ wx.cell? ⟨p, 2, none⟩ = some (.slice fa fn fc) ∧ p < wx.heap.size ∧ Hid (Dr sb w3 wx) ∧ Hid (Src wx sb (.slice a len cap) ((0 + 1000) + 1)))
  case first =>
    have hz9 : w3.heap.size ≠ sb := by omega
    refine wp_region_noPanic ?_
    refine Goes.start (S := fun w' => Dr sb w3 w') (z := 100) (by kernel_rfl) ?_
    refine Goes.take (i := 0) (oi := ?oi1) (x := ?vx1) ?ho1 (by kernel_rfl) (by kernel_rfl) (by kernel_rfl) (by kernel_rfl) (fun _ _ _ h => h) (Or.inl ⟨?hw1, ?hy1⟩) (Dr.drewS sb w3) ?rest1
    case ho1 => (simp only [List.getElem?_toArray, List.getElem?_cons_zero] <;> rfl)
    case hw1 => rfl
    case hy1 => (intro w' hSw; obtain ⟨j0, j1, j2, j3⟩ := KK.out w' hSw; go_simp; (try with_reducible rfl))
    case rest1 =>
    (try simp only [Act.put, List.setIfInBounds_toArray, List.set_cons_zero, List.set_cons_succ])
    refine Goes.take (i := 1) (oi := ?oi2) (x := ?vx2) ?ho2 (by kernel_rfl) (by kernel_rfl) (by kernel_rfl) (by kernel_rfl) (fun _ _ _ h => h) (Or.inl ⟨?hw2, ?hy2⟩) (Dr.drewS sb w3) ?rest2
    case ho2 => (simp only [List.getElem?_toArray, List.getElem?_cons_succ, List.getElem?_cons_zero] <;> rfl)
    case hw2 => rfl
    case hy2 => (intro w' hSw; obtain ⟨j0, j1, j2, j3⟩ := KK.out w' hSw; go_simp; (try with_reducible rfl))
    case rest2 =>
    (try simp only [Act.put, List.setIfInBounds_toArray, List.set_cons_zero, List.set_cons_succ])
    refine Goes.take (i := 2) (oi := ?oi3) (x := ?vx3) ?ho3 (by kernel_rfl) (by kernel_rfl) (by kernel_rfl) (by kernel_rfl) (fun _ _ _ h => h) (Or.inl ⟨?hw3, ?hy3⟩) (Dr.drewS sb w3) ?rest3
    case ho3 => (simp only [List.getElem?_toArray, List.getElem?_cons_succ, List.getElem?_cons_zero] <;> rfl)
    case hw3 => rfl
    case hy3 => (intro w' hSw; obtain ⟨j0, j1, j2, j3⟩ := KK.out w' hSw; go_simp; (try with_reducible rfl))
    case rest3 =>
    (try simp only [Act.put, List.setIfInBounds_toArray, List.set_cons_zero, List.set_cons_succ])
    refine Goes.take (i := 3) (oi := ?oi4) (x := ?vx4) ?ho4 (by kernel_rfl) (by kernel_rfl) (by kernel_rfl) (by kernel_rfl) (fun _ _ _ h => h) (Or.inl ⟨?hw4, ?hy4⟩) (Dr.drewS sb w3) ?rest4
    case ho4 => (simp only [List.getElem?_toArray, List.getElem?_cons_succ, List.getElem?_cons_zero] <;> rfl)
    case hw4 => rfl
    case hy4 => (intro w' hSw; obtain ⟨j0, j1, j2, j3⟩ := KK.out w' hSw; go_simp; (try with_reducible rfl))
    case rest4 =>
    (try simp only [Act.put, List.setIfInBounds_toArray, List.set_cons_zero, List.set_cons_succ])
    refine Goes.all (rs := [4, 7]) (by kernel_rfl) (by simp) ?_
    refine Ups.cons (i := 4) (o := ?oo5) ?ho5 (fun KK hKK => ?stp5) (Ups.cons (i := 7) (o := ?oo6) ?ho6 (fun KK hKK => ?stp6) Ups.nil)
    case ho5 => (simp only [List.getElem?_toArray, List.getElem?_cons_succ, List.getElem?_cons_zero] <;> rfl)
    case ho6 => (simp only [List.getElem?_toArray, List.getElem?_cons_succ, List.getElem?_cons_zero] <;> rfl)
    case stp5 =>
      go_simp
      go_at_call 44
      refine (sNext sb a len cap zs _ vn _ S.out.drewS (HR.out _ (D.out.trans (Dr.drewS sb w3))) hl1 (by omega) (by omega)).mono ?_
      rintro e w4 ⟨r, rfl, p4, q4, st, s4⟩
      obtain ⟨j, rfl⟩ : ∃ j : Nat, r = (j : Int) := ⟨r.toNat, by omega⟩
      obtain ⟨fb', fo', hfe, f0, f1, fa, fn, fc, f3, f4, hrg⟩ := HFD.out j (by omega)
      simp only [Option.some.injEq, Addr.mk.injEq, and_true] at hfe
      obtain ⟨rfl, rfl⟩ := hfe
      have E4 : Hid (Dr sb w3 w4) := (Dr.drewS sb w3).trans st.dr
      have S4 : Hid _ := s4
      have HRF : Hid (∀ W, Dr sb w3 W → W.rangeAt fb (fo + j * 5) [.int .i64 f0, .int .i64 f1, .slice fa fn fc, .int .i64 f3, .int .i64 f4]) := hrg
      obtain ⟨FA, hFA⟩ : ∃ FA : Array Value, FA = [.int .i64 f0, .int .i64 f1, .slice fa fn fc, .int .i64 f3, .int .i64 f4].toArray := ⟨_, rfl⟩
      have HFA : Hid _ := hFA
      have HFZ : Hid (FA.size = 5) := by show _ = _; rw [hFA]; rfl
      have HFI : Hid ((Try.prog.info? 34).map (·.size) = some FA.size) := by show _ = _; rw [HFZ.out]; exact (by kernel_rfl : (Try.prog.info? 34).map (·.size) = some 5)
      have HFO : Hid (FA.all (·.oneCell') = true) := by show _ = _; rw [hFA]; simp [Value.oneCell']
      clear hFA hrg s4
      have hj0 : (0 : Int) ≤ (j : Int) := by omega
      have hj1 : (j : Int) < (vn : Int) := q4
      clear st
      dsimp only
      refine hKK.out _ _ (Or.inr E4.out) ?_
      clear hKK KK
      (try simp only [Act.put, List.setIfInBounds_toArray, List.set_cons_zero, List.set_cons_succ])
      refine Goes.take (i := 5) (oi := ?oi31) (x := ?vx31) ?ho31 (by kernel_rfl) (by kernel_rfl) (by kernel_rfl) (by kernel_rfl) (fun _ _ _ h => h) (Or.inl ⟨?hw31, ?hy31⟩) E4.out ?rest31
      case ho31 => (simp only [List.getElem?_toArray, List.getElem?_cons_succ, List.getElem?_cons_zero] <;> rfl)
      case hw31 => rfl
      case hy31 => (intro w' hSw; obtain ⟨j0, j1, j2, j3⟩ := KK.out w' hSw; go_simp; (try with_reducible rfl))
      case rest31 =>
      (try simp only [Act.put, List.setIfInBounds_toArray, List.set_cons_zero, List.set_cons_succ])
      refine Goes.take (i := 6) (oi := ?oi32) (x := .agg ([.int .i64 f0, .int .i64 f1, .slice fa fn fc, .int .i64 f3, .int .i64 f4]).toArray) ?ho32 (by kernel_rfl) (by kernel_rfl) (by kernel_rfl) (by kernel_rfl) (fun _ _ _ h => h) ?hy32 E4.out ?rest32
      case ho32 => (simp only [List.getElem?_toArray, List.getElem?_cons_succ, List.getElem?_cons_zero] <;> rfl)
      case hy32 => exact yieldsIf_load_mid (by rfl) 34 _ rfl (fb) (fo + j * 5) (by rfl) ([.int .i64 f0, .int .i64 f1, .slice fa fn fc, .int .i64 f3, .int .i64 f4]) _ (fun w' hSw => HRF.out w' hSw) Try.underlying34 rfl (by kernel_rfl)
      case rest32 =>
      (try simp only [Act.put, List.setIfInBounds_toArray, List.set_cons_zero, List.set_cons_succ])
      refine Goes.all (rs := [7]) (by kernel_rfl) (by simp) ?_
      refine Ups.cons (i := 7) (o := ?oo33) ?ho33 (fun KK hKK => ?stp33) Ups.nil
      case ho33 => (simp only [List.getElem?_toArray, List.getElem?_cons_succ, List.getElem?_cons_zero] <;> rfl)
      case stp33 =>
      go_simp
      have hal : Dr sb w3 (w4.alloc (.cells #[.int .i64 0, .int .i64 0, .slice none 0 0, .int .i64 0, .int .i64 0] 34)) := E4.out.then ((Below.refl _ _).alloc (Nat.le_refl _) _) E4.out.size
      refine hKK.out _ _ (Or.inr hal) ?_
      clear hKK KK
      (try simp only [Act.put, List.setIfInBounds_toArray, List.set_cons_zero, List.set_cons_succ])
      refine Goes.all (rs := [8]) (by kernel_rfl) (by simp) ?_
      refine Ups.cons (i := 8) (o := ?oo34) ?ho34 (fun KK hKK => ?stp34) Ups.nil
      case ho34 => (simp only [List.getElem?_toArray, List.getElem?_cons_succ, List.getElem?_cons_zero] <;> rfl)
      case stp34 =>
      rw [if_pos (by rfl)]
      have kZ : ∀ o, (w4.alloc (.cells #[.int .i64 0, .int .i64 0, .slice none 0 0, .int .i64 0, .int .i64 0] 34)).cell? ⟨w4.heap.size, o, none⟩ = (#[.int .i64 0, .int .i64 0, .slice none 0 0, .int .i64 0, .int .i64 0] : Array Value)[o]? := bx_al _ _ _
      have fZ : ∀ o, (w4.alloc (.cells #[.int .i64 0, .int .i64 0, .slice none 0 0, .int .i64 0, .int .i64 0] 34)).frozen? ⟨w4.heap.size, o, none⟩ = false := fx_al _ _ _
      refine wp_store_mid 34 _ _ rfl _ _ FA (by rfl) (by rw [HFA.out]; rfl) (bx_there kZ fZ (by rw [HFZ.out]; rfl)) HFI.out HFO.out ?_
      refine hKK.out _ _ (Or.inr (hal.then (setCells_below (Nat.le_refl _) _ _ _ _ (Below.refl _ _)) E4.out.size)) ?_
      clear hKK KK
      (try simp only [Act.put])
      refine Goes.done (by kernel_rfl) ?_ _
      refine NoPanic.normal ?_
      have kQ := bx_setCells kZ (A' := FA) (by rw [HFZ.out]; rfl)
      rw [HFA.out] at kQ
      go_wp2_with fail
      go_meet
      refine ⟨_, f0, fa, fn, fc, rfl, ?_, ?_, ?_, (hal.then (setCells_below (Nat.le_refl _) _ _ _ _ (Below.refl _ _)) E4.out.size), (S4.out.alloc _).below (setCells_below (Nat.le_refl _) _ _ _ _ (Below.refl _ _)) S4.out.lt⟩
      · rw [HFA.out]; exact kQ 0
      · rw [HFA.out]; exact kQ 2
      · rw [setCells_size]; simp
    case stp6 =>
      go_simp
      have hal : Dr sb w3 (w3.drew.alloc (.cells #[.int .i64 0, .int .i64 0, .slice none 0 0, .int .i64 0, .int .i64 0] 34)) := (Dr.drewS sb w3).then ((Below.refl _ _).alloc (Nat.le_refl _) _) (Nat.le_refl _)
      refine hKK.out _ _ (Or.inr hal) ?_
      clear hKK KK
      (try simp only [Act.put, List.setIfInBounds_toArray, List.set_cons_zero, List.set_cons_succ])
      refine Goes.all (rs := [4]) (by kernel_rfl) (by simp) ?_
      refine Ups.cons (i := 4) (o := ?oo61) ?ho61 (fun KK hKK => ?stp61) Ups.nil
      case ho61 => (simp only [List.getElem?_toArray, List.getElem?_cons_succ, List.getElem?_cons_zero] <;> rfl)
      case stp61 =>
      go_simp
      go_at_call 44
      refine (sNext sb a len cap zs _ vn _ (S.out.drewS.alloc _) (HR.out _ (D.out.trans hal)) hl1 (by omega) (by omega)).mono ?_
      rintro e w4 ⟨r, rfl, p4, q4, st, s4⟩
      obtain ⟨j, rfl⟩ : ∃ j : Nat, r = (j : Int) := ⟨r.toNat, by omega⟩
      obtain ⟨fb', fo', hfe, f0, f1, fa, fn, fc, f3, f4, hrg⟩ := HFD.out j (by omega)
      simp only [Option.some.injEq, Addr.mk.injEq, and_true] at hfe
      obtain ⟨rfl, rfl⟩ := hfe
      have E4 : Hid (Dr sb w3 w4) := (hal).trans st.dr
      have S4 : Hid _ := s4
      have HRF : Hid (∀ W, Dr sb w3 W → W.rangeAt fb (fo + j * 5) [.int .i64 f0, .int .i64 f1, .slice fa fn fc, .int .i64 f3, .int .i64 f4]) := hrg
      obtain ⟨FA, hFA⟩ : ∃ FA : Array Value, FA = [.int .i64 f0, .int .i64 f1, .slice fa fn fc, .int .i64 f3, .int .i64 f4].toArray := ⟨_, rfl⟩
      have HFA : Hid _ := hFA
      have HFZ : Hid (FA.size = 5) := by show _ = _; rw [hFA]; rfl
      have HFI : Hid ((Try.prog.info? 34).map (·.size) = some FA.size) := by show _ = _; rw [HFZ.out]; exact (by kernel_rfl : (Try.prog.info? 34).map (·.size) = some 5)
      have HFO : Hid (FA.all (·.oneCell') = true) := by show _ = _; rw [hFA]; simp [Value.oneCell']
      clear hFA hrg s4
      have kF := fun o => (st.cell (p := ⟨w3.heap.size, o, none⟩) hz9).trans (bx_al w3.drew #[.int .i64 0, .int .i64 0, .slice none 0 0, .int .i64 0, .int .i64 0] 34 o)
      have fF := fun o => (st.frozen (p := ⟨w3.heap.size, o, none⟩) hz9).trans (fx_al w3.drew #[.int .i64 0, .int .i64 0, .slice none 0 0, .int .i64 0, .int .i64 0] 34 o)
      have hz4 : w3.heap.size < w4.heap.size := by have := st.size; simp at this; omega
      have hj0 : (0 : Int) ≤ (j : Int) := by omega
      have hj1 : (j : Int) < (vn : Int) := q4
      clear st
      dsimp only
      refine hKK.out _ _ (Or.inr E4.out) ?_
      clear hKK KK
      (try simp only [Act.put, List.setIfInBounds_toArray, List.set_cons_zero, List.set_cons_succ])
      refine Goes.take (i := 5) (oi := ?oi62) (x := ?vx62) ?ho62 (by kernel_rfl) (by kernel_rfl) (by kernel_rfl) (by kernel_rfl) (fun _ _ _ h => h) (Or.inl ⟨?hw62, ?hy62⟩) E4.out ?rest62
      case ho62 => (simp only [List.getElem?_toArray, List.getElem?_cons_succ, List.getElem?_cons_zero] <;> rfl)
      case hw62 => rfl
      case hy62 => (intro w' hSw; obtain ⟨j0, j1, j2, j3⟩ := KK.out w' hSw; go_simp; (try with_reducible rfl))
      case rest62 =>
      (try simp only [Act.put, List.setIfInBounds_toArray, List.set_cons_zero, List.set_cons_succ])
      refine Goes.take (i := 6) (oi := ?oi63) (x := .agg ([.int .i64 f0, .int .i64 f1, .slice fa fn fc, .int .i64 f3, .int .i64 f4]).toArray) ?ho63 (by kernel_rfl) (by kernel_rfl) (by kernel_rfl) (by kernel_rfl) (fun _ _ _ h => h) ?hy63 E4.out ?rest63
      case ho63 => (simp only [List.getElem?_toArray, List.getElem?_cons_succ, List.getElem?_cons_zero] <;> rfl)
      case hy63 => exact yieldsIf_load_mid (by rfl) 34 _ rfl (fb) (fo + j * 5) (by rfl) ([.int .i64 f0, .int .i64 f1, .slice fa fn fc, .int .i64 f3, .int .i64 f4]) _ (fun w' hSw => HRF.out w' hSw) Try.underlying34 rfl (by kernel_rfl)
      case rest63 =>
      (try simp only [Act.put, List.setIfInBounds_toArray, List.set_cons_zero, List.set_cons_succ])
      refine Goes.all (rs := [8]) (by kernel_rfl) (by simp) ?_
      refine Ups.cons (i := 8) (o := ?oo64) ?ho64 (fun KK hKK => ?stp64) Ups.nil
      case ho64 => (simp only [List.getElem?_toArray, List.getElem?_cons_succ, List.getElem?_cons_zero] <;> rfl)
      case stp64 =>
      rw [if_pos (by rfl)]
      have kZ : ∀ o, w4.cell? ⟨w3.heap.size, o, none⟩ = (#[.int .i64 0, .int .i64 0, .slice none 0 0, .int .i64 0, .int .i64 0] : Array Value)[o]? := kF
      have fZ : ∀ o, w4.frozen? ⟨w3.heap.size, o, none⟩ = false := fF
      refine wp_store_mid 34 _ _ rfl _ _ FA (by rfl) (by rw [HFA.out]; rfl) (bx_there kZ fZ (by rw [HFZ.out]; rfl)) HFI.out HFO.out ?_
      refine hKK.out _ _ (Or.inr (E4.out.then (setCells_below (Nat.le_refl _) _ _ _ _ (Below.refl _ _)) (Nat.le_refl _))) ?_
      clear hKK KK
      (try simp only [Act.put])
      refine Goes.done (by kernel_rfl) ?_ _
      refine NoPanic.normal ?_
      have kQ := bx_setCells kZ (A' := FA) (by rw [HFZ.out]; rfl)
      rw [HFA.out] at kQ
      go_wp2_with fail
      go_meet
      refine ⟨_, f0, fa, fn, fc, rfl, ?_, ?_, ?_, (E4.out.then (setCells_below (Nat.le_refl _) _ _ _ _ (Below.refl _ _)) (Nat.le_refl _)), S4.out.below (setCells_below (Nat.le_refl _) _ _ _ _ (Below.refl _ _)) (by omega)⟩
      · rw [HFA.out]; exact kQ 0
      · rw [HFA.out]; exact kQ 2
      · rw [setCells_size]; exact hz4
  case rest =>
    obtain ⟨p, f0, fa, fn, fc, rfl, c0, c2, hp, EW, SW⟩ := hcut
    go_upto_region 8 with fail
    obtain ⟨at0, hat0⟩ : ∃ z : Int, z = wrap64 (f0 + (fn : Int)) := ⟨_, rfl⟩
    rw [← hat0]
    clear hat0
    have fk := KK.out _ EW.out
    have hwz : wc.heap.size ≤ wc.heap.size := Nat.le_refl _
    have hcw : cb < wc.heap.size := Nat.lt_of_lt_of_le hcz EW.out.size
    have hcn : cb ≠ wc.heap.size := by omega
    have hcn2 : wc.heap.size ≠ cb := by omega
    go_region_held3 (fun W => W.cell? ⟨cb, 0, none⟩ = some (.int .i64 y0) ∧ W.cell? ⟨cb, 1, none⟩ = some (.int .i64 y1) ∧ W.cell? ⟨cb, 2, none⟩ = some (.int .i64 y2) ∧ W.cell? ⟨cb, 3, none⟩ = some (.slice (some ⟨fb, fo, none⟩) vn vc)) (first | assumption | exact fk | go_keep)
      ((first
        | (go_at_call 43; have hp := sPickR sb a len cap zs _ [at0, at0, IntKind.i64.wrap (at0 + 1), y2, IntKind.i64.wrap (y1 + 1), IntKind.i64.wrap (y2 - 9)] 2 wc SW.out (HR.out _ (D.out.trans EW.out)) hl1 (by omega) (by simp) (by simp); simp only [List.length_cons, List.length_nil, List.map_cons, List.map_nil, Nat.zero_add, Nat.reduceAdd] at hp; refine hp.mono ?_; clear hp; rintro e w8 ⟨q8, rfl, -, st, s8⟩; have E8 : Hid (Dr sb w3 w8) := EW.out.trans st; have fk8 := KK.out _ E8.out; obtain ⟨kR8, fR8⟩ := HKR.out _ E8.out; clear st s8)
        | (go_at_call 66; refine (sAdd _ _ _).mono ?_; rintro e w' ⟨rfl, hw⟩; subst w')))
    all_goals (go_wp2_with fail)
    all_goals (obtain ⟨e0, e1, e2, e3⟩ := HY.out)
    all_goals (refine bodyPost_ret (v := .tuple #[.agg #[.int .i64 y0, .int .i64 y1, .int .i64 y2, .slice (some ⟨fb, fo, none⟩) vn vc], .int .i64 (wrp (y0 + q8))]) (by simp [results, Try.results21, go_sem, kR8]) rfl ⟨x, .slice (some ⟨fb, fo, none⟩) vn vc, wrp (y0 + q8), by rw [e0, e1, e2], ?_, HT.out, ?_⟩)
    all_goals first
      | (rw [e0, e1, e2]; refine HSy.out _ (fun b h1 h2 => ?_) (by have := E8.out.size; simpa using this); (repeat rw [Below.heap_setCell _ _ _ _ (by dsimp only; omega)]); exact E8.out.block b h2 (by omega))
      | (have hB1 : Below w.heap.size w w8 := B1.out.trans (((D.out.trans E8.out).below (Nat.le_of_lt zs1)).mono (by omega)); clear kR8 fR8 fk8 fk; go_grown)
end Go.Proofs.Ytldddkdpoeeomaa
