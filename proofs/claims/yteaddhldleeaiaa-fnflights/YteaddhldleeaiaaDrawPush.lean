/- What the draw for PushFlight gives: some sender that can be read, a place, some bytes and a time; nothing that was in memory turns; no condition. Written by mkdrpush.py. -/
import Derived.Test.YteaddhldleeaiaaRows
import Derived.Test.YteaddhldleeaiaaBase
import Derived.Test.YteaddhldleeaiaaDraws
import Derived.Test.YteaddhldleeaiaaBytes
import Derived.Test.YteaddhldleeaiaaAppBytes
import Derived.Test.YteaddhldleeaiaaDrawsD
import Derived.Test.YteaddhldleeaiaaMem
import Derived.Test.YteaddhldleeaiaaHBase
import Derived.Test.YteaddhldleeaiaaHFlight
import Derived.Test.YteaddhldleeaiaaHSender
import Derived.Test.YteaddhldleeaiaaFlightDef
import Derived.Test.YteaddhldleeaiaaAgg
import Derived.Test.YteaddhldleeaiaaMemOpen
import Derived.Test.YteaddhldleeaiaaDrawSndT
import Derived.Test.YteaddhldleeaiaaDrawSnd
import Derived.Test.YteaddhldleeaiaaDrawDue
import Derived.Test.YteaddhldleeaiaaRegionU
import Derived.Deep.RegionHeld3
import Derived.Deep.DeepCutAuto
import Derived.Deep.DeepMust
import Derived.Deep.MidRow
namespace Go.Proofs.Yteaddhldleeaiaa
open Go.RowKit
set_option linter.unusedVariables false
set_option linter.unusedSimpArgs false
set_option maxRecDepth 8000

theorem pushEnd {w W1 w3 V vb : World} {sb lo : Nat} {NN N4 : Array Value} {lv : Value} {ld : List Int}
    (kR : ∀ o, V.cell? ⟨w.heap.size, o, none⟩ = (#[.int .i64 0, .int .i64 0, .int .i64 0, .slice none 0 0] : Array Value)[o]?) (hN : NN = N4) (hz : NN.size = 4)
    (B1 : Below w.heap.size w W1) (D : Dr sb W1 w3) (E : Dr sb w3 V) (h1 : w.heap.size ≤ sb) (h2 : w.heap.size < W1.heap.size) (h3 : sb < W1.heap.size) (Z : Dr sb vb V) (ob : OB vb lo lv ld) (hlo : sb < lo) :
    ∃ WZ, V.setCells w.heap.size 0 NN.toList = WZ ∧ (∀ o, WZ.cell? ⟨w.heap.size, o, none⟩ = N4[o]?) ∧ Below w.heap.size w WZ ∧ (∀ b, W1.heap.size ≤ b → b < w3.heap.size → WZ.heap[b]? = w3.heap[b]?) ∧ u8s.Rd WZ WZ.heap.size ld [lv] ∧ w3.heap.size ≤ WZ.heap.size := by
  subst hN
  have LZ : (V.setCells w.heap.size 0 NN.toList).heap.size = V.heap.size := setCells_size _ _ _
  refine ⟨_, rfl, bx_setCells kR (A' := NN) (by rw [hz]; rfl), setCells_below (Nat.le_refl _) _ _ _ _ (B1.trans (((D.trans E).below (Nat.le_of_lt h3)).mono h1)), fun b q1 q2 => ?_, ?_, by rw [LZ]; exact E.size⟩
  · exact (setCells_block (Nat.ne_of_gt (Nat.lt_of_lt_of_le h2 q1)) _ _ _).trans (E.block b q2 (Nat.ne_of_gt (Nat.lt_of_lt_of_le h3 q1)))
  · have hzb : vb.heap.size ≤ (V.setCells w.heap.size 0 NN.toList).heap.size := by rw [LZ]; exact Z.size
    exact (Own.mono (Own.keep (own_bytes ob (Nat.le_refl _)) (fun b q1 q2 => (setCells_block (Nat.ne_of_gt (Nat.lt_of_le_of_lt h1 (Nat.lt_of_lt_of_le hlo q1))) _ _ _).trans (Z.block b q2 (Nat.ne_of_gt (Nat.lt_of_lt_of_le hlo q1))))) (Nat.le_refl _) hzb).rd (Nat.le_refl _)
set_option maxHeartbeats 8000000 in
theorem dPush (a : Option Addr) (len cap : Nat) (zs : List Int) (w : World) (hr : BRow .u8 w a len cap zs) (hl : RowLt w.heap.size a zs) :
    Calls Try.prog 5 #[.slice a len cap] w fun e w' => ∃ (x : DSender) (u lv : Value) (ld : List Int) (data now : Int), e = .returned (.tuple #[.agg #[.int .i64 x.1, .int .i64 x.2.1, .int .i64 x.2.2.1, u], .int .i64 data, lv, .int .i64 now]) ∧ shSender.Rd w' w'.heap.size x [.int .i64 x.1, .int .i64 x.2.1, .int .i64 x.2.2.1, u] ∧ u8s.Rd w' w'.heap.size ld [lv] ∧ ld.length ≤ 9 ∧ (-1000 ≤ data ∧ data ≤ 1000) ∧ (-1000 ≤ now ∧ now ≤ 1000) ∧ totSender x ≤ 1048576 ∧ Below w.heap.size w w' := by
  go_enter Try.func5, Try.ntmps5
  go_wp2_with fail
  obtain ⟨W0, hW0⟩ : ∃ W0, w.alloc (.cells #[.int .i64 0, .int .i64 0, .int .i64 0, .slice none 0 0] 26) = W0 := ⟨_, rfl⟩
  have b0 : Below w.heap.size w W0 := by rw [← hW0]; exact (Below.refl _ _).alloc (Nat.le_refl _) _
  have kR : ∀ o, W0.cell? ⟨w.heap.size, o, none⟩ = (#[.int .i64 0, .int .i64 0, .int .i64 0, .slice none 0 0] : Array Value)[o]? := by rw [← hW0]; intro o; simp [go_sem]
  have fR : ∀ o, W0.frozen? ⟨w.heap.size, o, none⟩ = false := by rw [← hW0]; intro o; simp [go_sem]
  have z0 : W0.heap.size = w.heap.size + 1 := by rw [← hW0]; simp
  simp only [hW0, ← z0]
  clear hW0
  have r0 := hr.below hl b0
  clear hr hl
  refine (sSource _ _ _ _).mono ?_
  rintro e W1 ⟨rfl, hW1⟩
  obtain ⟨s1, r1, b1⟩ := draw_start 72 r0 r0.lt
  rw [← hW1] at s1 r1 b1
  clear hW1
  generalize hsb : W0.heap.size = sb at *
  have zR : w.heap.size < sb := by omega
  have hne : w.heap.size ≠ sb := by omega
  replace kR := fun o => (b1.cell (p := ⟨w.heap.size, o, none⟩) (by dsimp only; omega)).trans (kR o)
  replace fR := fun o => (b1.frozen (p := ⟨w.heap.size, o, none⟩) (by dsimp only; omega)).trans (fR o)
  have B1 : Hid (Below w.heap.size w W1) := b0.trans (b1.mono (by omega))
  have hl1 := r0.lt
  rw [hsb] at hl1
  have zs1 := s1.lt
  have HR : Hid (∀ W, Dr sb W1 W → BRow .u8 W a len cap zs) := fun W h => r1.below hl1 (h.below (Nat.le_of_lt zs1))
  have S : Hid _ := s1
  clear b0 b1 r0 r1 hsb z0 s1
  go_wp2_with fail
  refine (sSender5 sb a len cap zs _ W1 S.out (HR.out _ (Dr.refl _ _)) hl1 (by omega) (by omega)).mono ?_
  rintro e w2 ⟨x, u, rfl, ho, hT, dd, s2⟩
  obtain ⟨vv, ev, rk, -⟩ := rd_Sender (ho.rd (Nat.le_refl _))
  simp only [List.cons.injEq, and_true, true_and] at ev
  subst ev
  obtain ⟨va, vc, ev2⟩ := row_form rk
  simp only [List.cons.injEq, and_true] at ev2
  subst ev2
  clear rk
  have HSx : Hid (∀ W, (∀ b, W1.heap.size ≤ b → b < w2.heap.size → W.heap[b]? = w2.heap[b]?) → w2.heap.size ≤ W.heap.size → shSender.Rd W W.heap.size x [.int .i64 x.1, .int .i64 x.2.1, .int .i64 x.2.2.1, .slice va x.2.2.2.1.length vc]) := fun W hk hz => (Own.mono (Own.keep ho hk) (Nat.le_refl _) hz).rd (Nat.le_refl _)
  have HT : Hid (totSender x ≤ 1048576) := hT
  have hz2 := dd.size
  have zR2 : w.heap.size < w2.heap.size := by omega
  have hne2 : w2.heap.size ≠ sb := by omega
  replace kR := fun o => (dd.cell (p := ⟨w.heap.size, o, none⟩) (by dsimp only; omega) hne).trans (kR o)
  replace fR := fun o => (dd.frozen (p := ⟨w.heap.size, o, none⟩) (by dsimp only; omega) hne).trans (fR o)
  have D : Hid (Dr sb W1 w2) := dd
  replace S : Hid _ := s2
  clear dd s2 ho hT
  obtain ⟨y0, hy0⟩ : ∃ y0, x.1 = y0 := ⟨_, rfl⟩
  obtain ⟨y1, hy1⟩ : ∃ y1, x.2.1 = y1 := ⟨_, rfl⟩
  obtain ⟨y2, hy2⟩ : ∃ y2, x.2.2.1 = y2 := ⟨_, rfl⟩
  obtain ⟨vn, hvn⟩ : ∃ vn, x.2.2.2.1.length = vn := ⟨_, rfl⟩
  have HY : Hid (x.1 = y0 ∧ x.2.1 = y1 ∧ x.2.2.1 = y2 ∧ x.2.2.2.1.length = vn) := ⟨hy0, hy1, hy2, hvn⟩
  rw [hy0, hy1, hy2, hvn] at HSx ⊢
  clear hy0 hy1 hy2 hvn
  go_upto_region 3 with fail
  obtain ⟨w3, hw3⟩ : ∃ w3, w2.alloc (.cells #[.int .i64 y0, .int .i64 y1, .int .i64 y2, .slice va vn vc] 26) = w3 := ⟨_, rfl⟩
  have b3 : Below w2.heap.size w2 w3 := by rw [← hw3]; exact (Below.refl _ _).alloc (Nat.le_refl _) _
  have k6 : ∀ o, w3.cell? ⟨w2.heap.size, o, none⟩ = (#[.int .i64 y0, .int .i64 y1, .int .i64 y2, .slice va vn vc] : Array Value)[o]? := by rw [← hw3]; intro o; simp [go_sem]
  have z3 : w2.heap.size < w3.heap.size := by rw [← hw3]; simp
  simp only [hw3]
  clear hw3
  replace kR := fun o => (b3.cell (p := ⟨w.heap.size, o, none⟩) (by dsimp only; omega)).trans (kR o)
  replace fR := fun o => (b3.frozen (p := ⟨w.heap.size, o, none⟩) (by dsimp only; omega)).trans (fR o)
  have HSy : Hid (∀ W, (∀ b, W1.heap.size ≤ b → b < w3.heap.size → W.heap[b]? = w3.heap[b]?) → w3.heap.size ≤ W.heap.size → shSender.Rd W W.heap.size x [.int .i64 y0, .int .i64 y1, .int .i64 y2, .slice va vn vc]) := fun W hk hz => HSx.out W (fun b h1 h2 => (hk b h1 (by omega)).trans (b3.block b h2)) (by omega)
  replace D : Hid (Dr sb W1 w3) := D.out.then b3 hz2
  replace S : Hid _ := S.out.bel b3
  have hz13 : W1.heap.size ≤ w3.heap.size := by omega
  generalize w2.heap.size = cb at *
  clear b3 HSx
  have KK : Hid (∀ W, Dr sb w3 W → ∀ o, W.cell? ⟨cb, o, none⟩ = (#[.int .i64 y0, .int .i64 y1, .int .i64 y2, .slice va vn vc] : Array Value)[o]?) := fun W h o => (h.cell (p := ⟨cb, o, none⟩) z3 hne2).trans (k6 o)
  have hcr : cb ≠ w.heap.size := by omega
  have HKR : Hid (∀ W, Dr sb w3 W → (∀ o, W.cell? ⟨w.heap.size, o, none⟩ = (#[.int .i64 0, .int .i64 0, .int .i64 0, .slice none 0 0] : Array Value)[o]?) ∧ (∀ o, W.frozen? ⟨w.heap.size, o, none⟩ = false)) := fun W h => ⟨fun o => (h.cell (p := ⟨w.heap.size, o, none⟩) (by dsimp only; omega) hne).trans (kR o), fun o => (h.frozen (p := ⟨w.heap.size, o, none⟩) (by dsimp only; omega) hne).trans (fR o)⟩
  have HPK : Hid (∀ (W : World) (g : Nat) (l : List Int) (K : Int), Dr sb w3 W → Src W sb (.slice a len cap) K → K ≤ 100000 → g ≠ sb → 1 ≤ l.length → l.length ≤ 1000 → (∀ i, i < l.length → W.cell? ⟨g, i, none⟩ = some (.int .i64 (l.getD i 0))) → Calls Try.prog 16 #[.pointer (some ⟨sb, 0, none⟩), .slice (some ⟨g, 0, none⟩) l.length l.length] W fun e w' => ∃ r, e = .returned (.int .i64 r) ∧ r ∈ l ∧ Dr sb W w' ∧ Src w' sb (.slice a len cap) (K + 1)) := fun W g l K hD hS hK hg h1 h2 hc => by
    refine (sPick sb a len cap zs K g l.length (fun i => l.getD i 0) W hS (HR.out _ (D.out.trans hD)) hl1 (by omega) hg h1 h2 hc).mono ?_
    rintro e w' ⟨i, rfl, hi, st, sr⟩
    refine ⟨_, rfl, ?_, st.dr, sr⟩
    rw [List.getD_eq_getElem?_getD, List.getElem?_eq_getElem hi]
    exact List.getElem_mem hi
  have hsz : sb < w3.heap.size := by omega
  have hws : w.heap.size ≤ sb := by omega
  have hwW : w.heap.size < W1.heap.size := by omega
  have hsW : sb < W1.heap.size := zs1
  clear k6 kR fR
  obtain ⟨NN, hNN⟩ : ∃ NN : Array Value, NN = (#[.int .i64 y0, .int .i64 y1, .int .i64 y2, .slice va vn vc] : Array Value) := ⟨_, rfl⟩
  have HNN : Hid _ := hNN
  have HNZ : Hid (NN.size = 4) := by show _ = _; rw [hNN]; rfl
  have HNI : Hid ((Try.prog.info? 26).map (·.size) = some NN.size) := by show _ = _; rw [HNZ.out]; exact (by kernel_rfl : (Try.prog.info? 26).map (·.size) = some 4)
  have HNO : Hid (NN.all (·.oneCell') = true) := by show _ = _; rw [hNN]; simp [Value.oneCell']
  clear hNN
  refine wp_region_noPanic ?_
  refine Goes.start (S := fun w' => ∀ o, w'.cell? ⟨cb, o, none⟩ = (#[.int .i64 y0, .int .i64 y1, .int .i64 y2, .slice va vn vc] : Array Value)[o]?) (z := 100) (by kernel_rfl) ?_
  have E0 : Hid (Dr sb w3 w3.drew) := Dr.drewS sb w3
  have S0 : Hid (Src w3.drew sb (.slice a len cap) (0 + 1000)) := S.out.drewS
  have Ew : Hid (Dr sb w3 w3) := Dr.refl _ _
  refine Goes.take (i := 0) (oi := ?oi1) (x := ?vx1) ?ho1 (by kernel_rfl) (by kernel_rfl) (by kernel_rfl) (by kernel_rfl) (fun _ _ _ h => h) (Or.inl ⟨?hw1, ?hy1⟩) (KK.out _ E0.out) ?rest1
  case ho1 => (simp only [List.getElem?_toArray, List.getElem?_cons_zero] <;> rfl)
  case hw1 => rfl
  case hy1 => (intro w' hSw; have j0 := hSw; go_simp; (try with_reducible rfl))
  case rest1 =>
  (try simp only [Act.put, List.setIfInBounds_toArray, List.set_cons_zero, List.set_cons_succ])
  refine Goes.take (i := 1) (oi := ?oi2) (x := ?vx2) ?ho2 (by kernel_rfl) (by kernel_rfl) (by kernel_rfl) (by kernel_rfl) (fun _ _ _ h => h) (Or.inl ⟨?hw2, ?hy2⟩) (KK.out _ E0.out) ?rest2
  case ho2 => (simp only [List.getElem?_toArray, List.getElem?_cons_succ, List.getElem?_cons_zero] <;> rfl)
  case hw2 => rfl
  case hy2 => (intro w' hSw; have j0 := hSw; go_simp; (try with_reducible rfl))
  case rest2 =>
  (try simp only [Act.put, List.setIfInBounds_toArray, List.set_cons_zero, List.set_cons_succ])
  refine Goes.take (i := 2) (oi := ?oi3) (x := ?vx3) ?ho3 (by kernel_rfl) (by kernel_rfl) (by kernel_rfl) (by kernel_rfl) (fun _ _ _ h => h) (Or.inl ⟨?hw3, ?hy3⟩) (KK.out _ E0.out) ?rest3
  case ho3 => (simp only [List.getElem?_toArray, List.getElem?_cons_succ, List.getElem?_cons_zero] <;> rfl)
  case hw3 => rfl
  case hy3 => (intro w' hSw; have j0 := hSw; go_simp; (try with_reducible rfl))
  case rest3 =>
  (try simp only [Act.put, List.setIfInBounds_toArray, List.set_cons_zero, List.set_cons_succ])
  refine Goes.take (i := 4) (oi := ?oi4) (x := ?vx4) ?ho4 (by kernel_rfl) (by kernel_rfl) (by kernel_rfl) (by kernel_rfl) (fun _ _ _ h => h) (Or.inl ⟨?hw4, ?hy4⟩) (KK.out _ E0.out) ?rest4
  case ho4 => (simp only [List.getElem?_toArray, List.getElem?_cons_succ, List.getElem?_cons_zero] <;> rfl)
  case hw4 => rfl
  case hy4 => (intro w' hSw; have j0 := hSw; go_simp; (try with_reducible rfl))
  case rest4 =>
  (try simp only [Act.put, List.setIfInBounds_toArray, List.set_cons_zero, List.set_cons_succ])
  refine Goes.take (i := 8) (oi := ?oi5) (x := ?vx5) ?ho5 (by kernel_rfl) (by kernel_rfl) (by kernel_rfl) (by kernel_rfl) (fun _ _ _ h => h) (Or.inl ⟨?hw5, ?hy5⟩) (KK.out _ E0.out) ?rest5
  case ho5 => (simp only [List.getElem?_toArray, List.getElem?_cons_succ, List.getElem?_cons_zero] <;> rfl)
  case hw5 => rfl
  case hy5 => (intro w' hSw; have j0 := hSw; go_simp; (try with_reducible rfl))
  case rest5 =>
  (try simp only [Act.put, List.setIfInBounds_toArray, List.set_cons_zero, List.set_cons_succ])
  refine Goes.take (i := 9) (oi := ?oi6) (x := ?vx6) ?ho6 (by kernel_rfl) (by kernel_rfl) (by kernel_rfl) (by kernel_rfl) (fun _ _ _ h => h) (Or.inl ⟨?hw6, ?hy6⟩) (KK.out _ E0.out) ?rest6
  case ho6 => (simp only [List.getElem?_toArray, List.getElem?_cons_succ, List.getElem?_cons_zero] <;> rfl)
  case hw6 => rfl
  case hy6 => (intro w' hSw; have j0 := hSw; go_simp; (try with_reducible rfl))
  case rest6 =>
  (try simp only [Act.put, List.setIfInBounds_toArray, List.set_cons_zero, List.set_cons_succ])
  refine Goes.take (i := 13) (oi := ?oi7) (x := ?vx7) ?ho7 (by kernel_rfl) (by kernel_rfl) (by kernel_rfl) (by kernel_rfl) (fun _ _ _ h => h) (Or.inl ⟨?hw7, ?hy7⟩) (KK.out _ E0.out) ?rest7
  case ho7 => (simp only [List.getElem?_toArray, List.getElem?_cons_succ, List.getElem?_cons_zero] <;> rfl)
  case hw7 => rfl
  case hy7 => (intro w' hSw; have j0 := hSw; go_simp; (try with_reducible rfl))
  case rest7 =>
  (try simp only [Act.put, List.setIfInBounds_toArray, List.set_cons_zero, List.set_cons_succ])
  refine Goes.take (i := 14) (oi := ?oi8) (x := ?vx8) ?ho8 (by kernel_rfl) (by kernel_rfl) (by kernel_rfl) (by kernel_rfl) (fun _ _ _ h => h) (Or.inl ⟨?hw8, ?hy8⟩) (KK.out _ E0.out) ?rest8
  case ho8 => (simp only [List.getElem?_toArray, List.getElem?_cons_succ, List.getElem?_cons_zero] <;> rfl)
  case hw8 => rfl
  case hy8 => (intro w' hSw; have j0 := hSw; go_simp; (try with_reducible rfl))
  case rest8 =>
  (try simp only [Act.put, List.setIfInBounds_toArray, List.set_cons_zero, List.set_cons_succ])
  refine Goes.take (i := 16) (oi := ?oi9) (x := ?vx9) ?ho9 (by kernel_rfl) (by kernel_rfl) (by kernel_rfl) (by kernel_rfl) (fun _ _ _ h => h) (Or.inl ⟨?hw9, ?hy9⟩) (KK.out _ E0.out) ?rest9
  case ho9 => (simp only [List.getElem?_toArray, List.getElem?_cons_succ, List.getElem?_cons_zero] <;> rfl)
  case hw9 => rfl
  case hy9 => (intro w' hSw; have j0 := hSw; go_simp; (try with_reducible rfl))
  case rest9 =>
  (try simp only [Act.put, List.setIfInBounds_toArray, List.set_cons_zero, List.set_cons_succ])
  refine Goes.all (rs := [3, 10]) (by kernel_rfl) (by simp) ?_
  refine Ups.cons (i := 3) (o := ?oo20) ?ho20 (fun KQ hKQ => ?stp20) (Ups.cons (i := 10) (o := ?oo21) ?ho21 (fun KQ hKQ => ?stp21) Ups.nil)
  case ho20 => (simp only [List.getElem?_toArray, List.getElem?_cons_succ, List.getElem?_cons_zero] <;> rfl)
  case ho21 => (simp only [List.getElem?_toArray, List.getElem?_cons_succ, List.getElem?_cons_zero] <;> rfl)
  case stp21 =>
    go_simp
    obtain ⟨v1, hv1⟩ : ∃ v, v = (w3.alloc (.cells #[.int .i64 1, .int .i64 4, .int .i64 8, .int .i64 9, .int .i64 0] 2)).drew := ⟨_, rfl⟩
    rw [← hv1]
    have b1 : Below w3.heap.size w3 v1 := by rw [hv1]; exact ((Below.refl _ _).alloc (Nat.le_refl _) _).drew
    have crb : Hid (∀ W, Dr sb v1 W → ∀ i, i < ([1, 4, 8, 9, 0] : List Int).length → W.cell? ⟨w3.heap.size, i, none⟩ = some (.int .i64 (([1, 4, 8, 9, 0] : List Int).getD i 0))) := fun W hW i hi => (hW.cell (p := ⟨w3.heap.size, i, none⟩) (by rw [hv1]; simp) (by have := Ew.out.size; dsimp only; omega)).trans (by rw [hv1]; exact laid_list w3 [1, 4, 8, 9, 0] 2 i hi)
    have E2 : Hid (Dr sb w3 v1) := Ew.out.trans ((Dr.refl sb w3).then b1 (Nat.le_refl _))
    have S2 : Hid (Src v1 sb (.slice a len cap) (0 + 1000)) := S.out.bel b1
    have rb1z : Hid (Dr sb v1 v1) := Dr.refl _ _
    have grb : w3.heap.size ≠ sb := by have := Ew.out.size; omega
    clear hv1 b1
    refine hKQ.out _ _ (Or.inr (KK.out _ E2.out)) ?_
    clear hKQ KQ
    (try simp only [Act.put, List.setIfInBounds_toArray, List.set_cons_zero, List.set_cons_succ])
    refine Goes.all (rs := [3]) (by kernel_rfl) (by simp) ?_
    refine Ups.cons (i := 3) (o := ?oo22) ?ho22 (fun KQ hKQ => ?stp22) Ups.nil
    case ho22 => (simp only [List.getElem?_toArray, List.getElem?_cons_succ, List.getElem?_cons_zero] <;> rfl)
    case stp22 =>
    go_simp
    go_at_call 17
    refine (sNext sb a len cap zs _ 99 _ S2.out (HR.out _ (D.out.trans E2.out)) hl1 (by omega) (by omega)).mono ?_
    rintro e v3 ⟨x4, rfl, hb0x4, hb1x4, st3, sr3⟩
    have HBx4 : Hid (0 ≤ x4 ∧ x4 ≤ 1000) := ⟨by omega, by omega⟩
    clear hb0x4 hb1x4
    have E4 : Hid (Dr sb w3 v3) := E2.out.trans st3.dr
    have S4 : Hid (Src v3 sb (.slice a len cap) (0 + 1000 + 1)) := sr3
    have rb4 : Hid (Dr sb v1 v3) := rb1z.out.trans st3.dr
    clear st3 sr3
    dsimp only
    refine hKQ.out _ _ (Or.inr (KK.out _ E4.out)) ?_
    clear hKQ KQ
    (try simp only [Act.put, List.setIfInBounds_toArray, List.set_cons_zero, List.set_cons_succ])
    refine Goes.all (rs := [5]) (by kernel_rfl) (by simp) ?_
    refine Ups.cons (i := 5) (o := ?oo23) ?ho23 (fun KQ hKQ => ?stp23) Ups.nil
    case ho23 => (simp only [List.getElem?_toArray, List.getElem?_cons_succ, List.getElem?_cons_zero] <;> rfl)
    case stp23 =>
    go_simp
    go_at_call 17
    refine (sNext sb a len cap zs _ 99 _ S4.out (HR.out _ (D.out.trans E4.out)) hl1 (by omega) (by omega)).mono ?_
    rintro e v5 ⟨x5, rfl, hb0x5, hb1x5, st5, sr5⟩
    have HBx5 : Hid (0 ≤ x5 ∧ x5 ≤ 1000) := ⟨by omega, by omega⟩
    clear hb0x5 hb1x5
    have E6 : Hid (Dr sb w3 v5) := E4.out.trans st5.dr
    have S6 : Hid (Src v5 sb (.slice a len cap) (0 + 1000 + 1 + 1)) := sr5
    have rb6 : Hid (Dr sb v1 v5) := rb4.out.trans st5.dr
    clear st5 sr5
    dsimp only
    refine hKQ.out _ _ (Or.inr (KK.out _ E6.out)) ?_
    clear hKQ KQ
    (try simp only [Act.put, List.setIfInBounds_toArray, List.set_cons_zero, List.set_cons_succ])
    refine Goes.all (rs := [6]) (by kernel_rfl) (by simp) ?_
    refine Ups.cons (i := 6) (o := ?oo24) ?ho24 (fun KQ hKQ => ?stp24) Ups.nil
    case ho24 => (simp only [List.getElem?_toArray, List.getElem?_cons_succ, List.getElem?_cons_zero] <;> rfl)
    case stp24 =>
    go_simp
    obtain ⟨v7, hv7⟩ : ∃ v, v = v5.alloc (.cells #[.int .i64 x4, .int .i64 x5, .int .i64 399, .int .i64 (-1)] 2) := ⟨_, rfl⟩
    rw [← hv7]
    have b7 : Below v5.heap.size v5 v7 := by rw [hv7]; exact (Below.refl _ _).alloc (Nat.le_refl _) _
    have cra : Hid (∀ W, Dr sb v7 W → ∀ i, i < ([x4, x5, 399, (-1)] : List Int).length → W.cell? ⟨v5.heap.size, i, none⟩ = some (.int .i64 (([x4, x5, 399, (-1)] : List Int).getD i 0))) := fun W hW i hi => (hW.cell (p := ⟨v5.heap.size, i, none⟩) (by rw [hv7]; simp) (by have := E6.out.size; dsimp only; omega)).trans (by rw [hv7]; exact laid_list v5 [x4, x5, 399, (-1)] 2 i hi)
    have E8 : Hid (Dr sb w3 v7) := E6.out.trans ((Dr.refl sb v5).then b7 (Nat.le_refl _))
    have S8 : Hid (Src v7 sb (.slice a len cap) (0 + 1000 + 1 + 1)) := S6.out.bel b7
    have rb8 : Hid (Dr sb v1 v7) := rb6.out.trans ((Dr.refl sb v5).then b7 (Nat.le_refl _))
    have ra7z : Hid (Dr sb v7 v7) := Dr.refl _ _
    have gra : v5.heap.size ≠ sb := by have := E6.out.size; omega
    clear hv7 b7
    refine hKQ.out _ _ (Or.inr (KK.out _ E8.out)) ?_
    clear hKQ KQ
    (try simp only [Act.put, List.setIfInBounds_toArray, List.set_cons_zero, List.set_cons_succ])
    refine Goes.all (rs := [7]) (by kernel_rfl) (by simp) ?_
    refine Ups.cons (i := 7) (o := ?oo25) ?ho25 (fun KQ hKQ => ?stp25) Ups.nil
    case ho25 => (simp only [List.getElem?_toArray, List.getElem?_cons_succ, List.getElem?_cons_zero] <;> rfl)
    case stp25 =>
    go_simp
    go_at_call 16
    refine (HPK.out _ (v5.heap.size) [x4, x5, 399, (-1)] _ E8.out S8.out (by omega) gra (by simp) (by simp) (cra.out _ ra7z.out)).mono ?_
    rintro e v9 ⟨q7, rfl, hmq7, dr9, sr9⟩
    have HBq7 : Hid (-1000 ≤ q7 ∧ q7 ≤ 1000) := by
      simp only [List.mem_cons, List.not_mem_nil, or_false] at hmq7
      have := HBx4.out
      have := HBx5.out
      show _ ∧ _
      omega
    clear hmq7
    have E10 : Hid (Dr sb w3 v9) := E8.out.trans dr9
    have S10 : Hid (Src v9 sb (.slice a len cap) (0 + 1000 + 1 + 1 + 1)) := sr9
    have rb10 : Hid (Dr sb v1 v9) := rb8.out.trans dr9
    have ra10 : Hid (Dr sb v7 v9) := ra7z.out.trans dr9
    clear dr9 sr9
    dsimp only
    refine hKQ.out _ _ (Or.inr (KK.out _ E10.out)) ?_
    clear hKQ KQ
    (try simp only [Act.put, List.setIfInBounds_toArray, List.set_cons_zero, List.set_cons_succ])
    refine Goes.all (rs := [11]) (by kernel_rfl) (by simp) ?_
    refine Ups.cons (i := 11) (o := ?oo26) ?ho26 (fun KQ hKQ => ?stp26) Ups.nil
    case ho26 => (simp only [List.getElem?_toArray, List.getElem?_cons_succ, List.getElem?_cons_zero] <;> rfl)
    case stp26 =>
    go_simp
    go_at_call 16
    refine (HPK.out _ (w3.heap.size) [1, 4, 8, 9, 0] _ E10.out S10.out (by omega) grb (by simp) (by simp) (crb.out _ rb10.out)).mono ?_
    rintro e v11 ⟨p5, rfl, hmp5, dr11, sr11⟩
    simp only [List.mem_cons, List.not_mem_nil, or_false] at hmp5
    have hp50 : 0 ≤ p5 := by omega
    have hp59 : p5 ≤ 9 := by omega
    clear hmp5
    have E12 : Hid (Dr sb w3 v11) := E10.out.trans dr11
    have S12 : Hid (Src v11 sb (.slice a len cap) (0 + 1000 + 1 + 1 + 1 + 1)) := sr11
    have rb12 : Hid (Dr sb v1 v11) := rb10.out.trans dr11
    have ra12 : Hid (Dr sb v7 v11) := ra10.out.trans dr11
    clear dr11 sr11
    dsimp only
    refine hKQ.out _ _ (Or.inr (KK.out _ E12.out)) ?_
    clear hKQ KQ
    (try simp only [Act.put, List.setIfInBounds_toArray, List.set_cons_zero, List.set_cons_succ])
    refine Goes.all (rs := [12]) (by kernel_rfl) (by simp) ?_
    refine Ups.cons (i := 12) (o := ?oo27) ?ho27 (fun KQ hKQ => ?stp27) Ups.nil
    case ho27 => (simp only [List.getElem?_toArray, List.getElem?_cons_succ, List.getElem?_cons_zero] <;> rfl)
    case stp27 =>
    go_simp
    go_at_call 18
    refine (sSome sb a len cap zs _ p5 _ S12.out (HR.out _ (D.out.trans E12.out)) hl1 (by omega) (by omega) (by omega)).mono ?_
    rintro e v13 ⟨lv, rfl, ld, ob, hl9, dr13, sr13⟩
    have E14 : Hid (Dr sb w3 v13) := E12.out.trans dr13
    have S14 : Hid (Src v13 sb (.slice a len cap) (0 + 1000 + 1 + 1 + 1 + 1 + 27)) := sr13
    have rb14 : Hid (Dr sb v1 v13) := rb12.out.trans dr13
    have ra14 : Hid (Dr sb v7 v13) := ra12.out.trans dr13
    have OB0 : Hid (OB v13 v11.heap.size lv ld ∧ sb < v11.heap.size) := ⟨ob, by have := E12.out.size; omega⟩
    have ZB : Hid (Dr sb v13 v13) := Dr.refl _ _
    have HL9 : Hid (ld.length ≤ 9) := hl9
    clear hl9
    clear dr13 sr13 ob
    dsimp only
    refine hKQ.out _ _ (Or.inr (KK.out _ E14.out)) ?_
    clear hKQ KQ
    (try simp only [Act.put, List.setIfInBounds_toArray, List.set_cons_zero, List.set_cons_succ])
    refine Goes.all (rs := [15]) (by kernel_rfl) (by simp) ?_
    refine Ups.cons (i := 15) (o := ?oo28) ?ho28 (fun KQ hKQ => ?stp28) Ups.nil
    case ho28 => (simp only [List.getElem?_toArray, List.getElem?_cons_succ, List.getElem?_cons_zero] <;> rfl)
    case stp28 =>
    go_simp
    go_at_call 17
    refine (sNext sb a len cap zs _ 30 _ S14.out (HR.out _ (D.out.trans E14.out)) hl1 (by omega) (by omega)).mono ?_
    rintro e v15 ⟨x8, rfl, hb0x8, hb1x8, st15, sr15⟩
    have HBx8 : Hid (0 ≤ x8 ∧ x8 ≤ 1000) := ⟨by omega, by omega⟩
    clear hb0x8 hb1x8
    have E16 : Hid (Dr sb w3 v15) := E14.out.trans st15.dr
    have S16 : Hid (Src v15 sb (.slice a len cap) (0 + 1000 + 1 + 1 + 1 + 1 + 27 + 1)) := sr15
    have rb16 : Hid (Dr sb v1 v15) := rb14.out.trans st15.dr
    have ra16 : Hid (Dr sb v7 v15) := ra14.out.trans st15.dr
    have ZB16 : Hid (Dr sb v13 v15) := ZB.out.trans st15.dr
    clear st15 sr15
    dsimp only
    refine hKQ.out _ _ (Or.inr (KK.out _ E16.out)) ?_
    clear hKQ KQ
    (try simp only [Act.put, List.setIfInBounds_toArray, List.set_cons_zero, List.set_cons_succ])
    refine Goes.all (rs := [17]) (by kernel_rfl) (by simp) ?_
    refine Ups.cons (i := 17) (o := ?oo29) ?ho29 (fun KQ hKQ => ?stp29) Ups.nil
    case ho29 => (simp only [List.getElem?_toArray, List.getElem?_cons_succ, List.getElem?_cons_zero] <;> rfl)
    case stp29 =>
    go_simp
    go_at_call 17
    refine (sNext sb a len cap zs _ 30 _ S16.out (HR.out _ (D.out.trans E16.out)) hl1 (by omega) (by omega)).mono ?_
    rintro e v17 ⟨x9, rfl, hb0x9, hb1x9, st17, sr17⟩
    have HBx9 : Hid (0 ≤ x9 ∧ x9 ≤ 1000) := ⟨by omega, by omega⟩
    clear hb0x9 hb1x9
    have E18 : Hid (Dr sb w3 v17) := E16.out.trans st17.dr
    have S18 : Hid (Src v17 sb (.slice a len cap) (0 + 1000 + 1 + 1 + 1 + 1 + 27 + 1 + 1)) := sr17
    have rb18 : Hid (Dr sb v1 v17) := rb16.out.trans st17.dr
    have ra18 : Hid (Dr sb v7 v17) := ra16.out.trans st17.dr
    have ZB18 : Hid (Dr sb v13 v17) := ZB16.out.trans st17.dr
    clear st17 sr17
    dsimp only
    refine hKQ.out _ _ (Or.inr (KK.out _ E18.out)) ?_
    clear hKQ KQ
    (try simp only [Act.put, List.setIfInBounds_toArray, List.set_cons_zero, List.set_cons_succ])
    refine Goes.all (rs := [18]) (by kernel_rfl) (by simp) ?_
    refine Ups.cons (i := 18) (o := ?oo30) ?ho30 (fun KQ hKQ => ?stp30) Ups.nil
    case ho30 => (simp only [List.getElem?_toArray, List.getElem?_cons_succ, List.getElem?_cons_zero] <;> rfl)
    case stp30 =>
    go_simp
    obtain ⟨v19, hv19⟩ : ∃ v, v = v17.alloc (.cells #[.int .i64 x8, .int .i64 x9, .int .i64 (-1)] 2) := ⟨_, rfl⟩
    rw [← hv19]
    have b19 : Below v17.heap.size v17 v19 := by rw [hv19]; exact (Below.refl _ _).alloc (Nat.le_refl _) _
    have crc : Hid (∀ W, Dr sb v19 W → ∀ i, i < ([x8, x9, (-1)] : List Int).length → W.cell? ⟨v17.heap.size, i, none⟩ = some (.int .i64 (([x8, x9, (-1)] : List Int).getD i 0))) := fun W hW i hi => (hW.cell (p := ⟨v17.heap.size, i, none⟩) (by rw [hv19]; simp) (by have := E18.out.size; dsimp only; omega)).trans (by rw [hv19]; exact laid_list v17 [x8, x9, (-1)] 2 i hi)
    have E20 : Hid (Dr sb w3 v19) := E18.out.trans ((Dr.refl sb v17).then b19 (Nat.le_refl _))
    have S20 : Hid (Src v19 sb (.slice a len cap) (0 + 1000 + 1 + 1 + 1 + 1 + 27 + 1 + 1)) := S18.out.bel b19
    have rb20 : Hid (Dr sb v1 v19) := rb18.out.trans ((Dr.refl sb v17).then b19 (Nat.le_refl _))
    have ra20 : Hid (Dr sb v7 v19) := ra18.out.trans ((Dr.refl sb v17).then b19 (Nat.le_refl _))
    have ZB20 : Hid (Dr sb v13 v19) := ZB18.out.trans ((Dr.refl sb v17).then b19 (Nat.le_refl _))
    have rc19z : Hid (Dr sb v19 v19) := Dr.refl _ _
    have grc : v17.heap.size ≠ sb := by have := E18.out.size; omega
    clear hv19 b19
    refine hKQ.out _ _ (Or.inr (KK.out _ E20.out)) ?_
    clear hKQ KQ
    (try simp only [Act.put, List.setIfInBounds_toArray, List.set_cons_zero, List.set_cons_succ])
    refine Goes.all (rs := [19]) (by kernel_rfl) (by simp) ?_
    refine Ups.cons (i := 19) (o := ?oo31) ?ho31 (fun KQ hKQ => ?stp31) Ups.nil
    case ho31 => (simp only [List.getElem?_toArray, List.getElem?_cons_succ, List.getElem?_cons_zero] <;> rfl)
    case stp31 =>
    go_simp
    go_at_call 16
    refine (HPK.out _ (v17.heap.size) [x8, x9, (-1)] _ E20.out S20.out (by omega) grc (by simp) (by simp) (crc.out _ rc19z.out)).mono ?_
    rintro e v21 ⟨q9, rfl, hmq9, dr21, sr21⟩
    have HBq9 : Hid (-1000 ≤ q9 ∧ q9 ≤ 1000) := by
      simp only [List.mem_cons, List.not_mem_nil, or_false] at hmq9
      have := HBx8.out
      have := HBx9.out
      show _ ∧ _
      omega
    clear hmq9
    have E22 : Hid (Dr sb w3 v21) := E20.out.trans dr21
    have S22 : Hid (Src v21 sb (.slice a len cap) (0 + 1000 + 1 + 1 + 1 + 1 + 27 + 1 + 1 + 1)) := sr21
    have rb22 : Hid (Dr sb v1 v21) := rb20.out.trans dr21
    have ra22 : Hid (Dr sb v7 v21) := ra20.out.trans dr21
    have ZB22 : Hid (Dr sb v13 v21) := ZB20.out.trans dr21
    have rc22 : Hid (Dr sb v19 v21) := rc19z.out.trans dr21
    clear dr21 sr21
    dsimp only
    refine hKQ.out _ _ (Or.inr (KK.out _ E22.out)) ?_
    clear hKQ KQ
    (try simp only [Act.put, List.setIfInBounds_toArray, List.set_cons_zero, List.set_cons_succ])
    refine Goes.all (rs := [20]) (by kernel_rfl) (by simp) ?_
    refine Ups.cons (i := 20) (o := ?oo32) ?ho32 (fun KQ hKQ => ?stp32) Ups.nil
    case ho32 => (simp only [List.getElem?_toArray, List.getElem?_cons_succ, List.getElem?_cons_zero] <;> rfl)
    case stp32 =>
    rw [if_pos (by rfl)]
    obtain ⟨kR8, fR8⟩ := HKR.out _ E22.out
    refine wp_store_mid 26 _ _ rfl _ _ NN (by rfl) (by rw [HNN.out]; rfl) (bx_there kR8 fR8 (by rw [HNZ.out]; rfl)) HNI.out HNO.out ?_
    refine hKQ.out _ _ (Or.inr (bx_setOff (KK.out _ E22.out) hcr)) ?_
    clear hKQ KQ
    (try simp only [Act.put, List.setIfInBounds_toArray, List.set_cons_zero, List.set_cons_succ])
    refine Goes.take (i := 21) (oi := ?oi34) (x := ?vx34) ?ho34 (by kernel_rfl) (by kernel_rfl) (by kernel_rfl) (by kernel_rfl) (fun _ _ _ h => h) (Or.inl ⟨?hw34, ?hy34⟩) (bx_setOff (KK.out _ E22.out) hcr) ?rest34
    case ho34 => (simp only [List.getElem?_toArray, List.getElem?_cons_succ, List.getElem?_cons_zero] <;> rfl)
    case hw34 => rfl
    case hy34 => (intro w' hSw; have j0 := hSw; go_simp; (try with_reducible rfl))
    case rest34 =>
    (try simp only [Act.put, List.setIfInBounds_toArray, List.set_cons_zero, List.set_cons_succ])
    refine Goes.take (i := 22) (oi := ?oi35) (x := ?vx35) ?ho35 (by kernel_rfl) (by kernel_rfl) (by kernel_rfl) (by kernel_rfl) (fun _ _ _ h => h) (Or.inl ⟨?hw35, ?hy35⟩) (bx_setOff (KK.out _ E22.out) hcr) ?rest35
    case ho35 => (simp only [List.getElem?_toArray, List.getElem?_cons_succ, List.getElem?_cons_zero] <;> rfl)
    case hw35 => rfl
    case hy35 => (intro w' hSw; have j0 := hSw; go_simp; (try with_reducible rfl))
    case rest35 =>
    (try simp only [Act.put, List.setIfInBounds_toArray, List.set_cons_zero, List.set_cons_succ])
    refine Goes.take (i := 23) (oi := ?oi36) (x := ?vx36) ?ho36 (by kernel_rfl) (by kernel_rfl) (by kernel_rfl) (by kernel_rfl) (fun _ _ _ h => h) (Or.inl ⟨?hw36, ?hy36⟩) (bx_setOff (KK.out _ E22.out) hcr) ?rest36
    case ho36 => (simp only [List.getElem?_toArray, List.getElem?_cons_succ, List.getElem?_cons_zero] <;> rfl)
    case hw36 => rfl
    case hy36 => (intro w' hSw; have j0 := hSw; go_simp; (try with_reducible rfl))
    case rest36 =>
    (try simp only [Act.put, List.setIfInBounds_toArray, List.set_cons_zero, List.set_cons_succ])
    refine Goes.done (by kernel_rfl) ?_ _
    refine NoPanic.normal ?_
    obtain ⟨WZ, hWZ, kZ, BZ0, YZ0, OZ0, hzz⟩ := pushEnd (NN := NN) kR8 HNN.out HNZ.out B1.out D.out E22.out hws hwW hsW ZB22.out OB0.out.1 OB0.out.2
    rw [hWZ]
    clear hWZ kR8 fR8
    have BZ : Hid _ := BZ0
    have YZ : Hid _ := YZ0
    have OZ : Hid _ := OZ0
    clear BZ0 YZ0 OZ0
    go_wp2_with fail
    obtain ⟨e0, e1, e2, e3⟩ := HY.out
    refine bodyPost_ret (v := .tuple #[.agg #[.int .i64 y0, .int .i64 y1, .int .i64 y2, .slice va vn vc], .int .i64 q7, lv, .int .i64 q9]) (by simp [results, Try.results5, go_sem, kZ]) rfl ⟨x, .slice va vn vc, lv, ld, q7, q9, by rw [e0, e1, e2], ?_, OZ.out, HL9.out, HBq7.out, HBq9.out, HT.out, BZ.out⟩
    rw [e0, e1, e2]
    exact HSy.out _ YZ.out hzz
  case stp20 =>
    go_simp
    go_at_call 17
    refine (sNext sb a len cap zs _ 99 _ S0.out (HR.out _ (D.out.trans E0.out)) hl1 (by omega) (by omega)).mono ?_
    rintro e v23 ⟨x4, rfl, hb0x4, hb1x4, st23, sr23⟩
    have HBx4 : Hid (0 ≤ x4 ∧ x4 ≤ 1000) := ⟨by omega, by omega⟩
    clear hb0x4 hb1x4
    have E24 : Hid (Dr sb w3 v23) := E0.out.trans st23.dr
    have S24 : Hid (Src v23 sb (.slice a len cap) (0 + 1000 + 1)) := sr23
    clear st23 sr23
    dsimp only
    refine hKQ.out _ _ (Or.inr (KK.out _ E24.out)) ?_
    clear hKQ KQ
    (try simp only [Act.put, List.setIfInBounds_toArray, List.set_cons_zero, List.set_cons_succ])
    refine Goes.all (rs := [5, 10]) (by kernel_rfl) (by simp) ?_
    refine Ups.cons (i := 5) (o := ?oo42) ?ho42 (fun KQ hKQ => ?stp42) (Ups.cons (i := 10) (o := ?oo43) ?ho43 (fun KQ hKQ => ?stp43) Ups.nil)
    case ho42 => (simp only [List.getElem?_toArray, List.getElem?_cons_succ, List.getElem?_cons_zero] <;> rfl)
    case ho43 => (simp only [List.getElem?_toArray, List.getElem?_cons_succ, List.getElem?_cons_zero] <;> rfl)
    case stp43 =>
      go_simp
      obtain ⟨v25, hv25⟩ : ∃ v, v = v23.alloc (.cells #[.int .i64 1, .int .i64 4, .int .i64 8, .int .i64 9, .int .i64 0] 2) := ⟨_, rfl⟩
      rw [← hv25]
      have b25 : Below v23.heap.size v23 v25 := by rw [hv25]; exact (Below.refl _ _).alloc (Nat.le_refl _) _
      have crb : Hid (∀ W, Dr sb v25 W → ∀ i, i < ([1, 4, 8, 9, 0] : List Int).length → W.cell? ⟨v23.heap.size, i, none⟩ = some (.int .i64 (([1, 4, 8, 9, 0] : List Int).getD i 0))) := fun W hW i hi => (hW.cell (p := ⟨v23.heap.size, i, none⟩) (by rw [hv25]; simp) (by have := E24.out.size; dsimp only; omega)).trans (by rw [hv25]; exact laid_list v23 [1, 4, 8, 9, 0] 2 i hi)
      have E26 : Hid (Dr sb w3 v25) := E24.out.trans ((Dr.refl sb v23).then b25 (Nat.le_refl _))
      have S26 : Hid (Src v25 sb (.slice a len cap) (0 + 1000 + 1)) := S24.out.bel b25
      have rb25z : Hid (Dr sb v25 v25) := Dr.refl _ _
      have grb : v23.heap.size ≠ sb := by have := E24.out.size; omega
      clear hv25 b25
      refine hKQ.out _ _ (Or.inr (KK.out _ E26.out)) ?_
      clear hKQ KQ
      (try simp only [Act.put, List.setIfInBounds_toArray, List.set_cons_zero, List.set_cons_succ])
      refine Goes.all (rs := [5]) (by kernel_rfl) (by simp) ?_
      refine Ups.cons (i := 5) (o := ?oo44) ?ho44 (fun KQ hKQ => ?stp44) Ups.nil
      case ho44 => (simp only [List.getElem?_toArray, List.getElem?_cons_succ, List.getElem?_cons_zero] <;> rfl)
      case stp44 =>
      go_simp
      go_at_call 17
      refine (sNext sb a len cap zs _ 99 _ S26.out (HR.out _ (D.out.trans E26.out)) hl1 (by omega) (by omega)).mono ?_
      rintro e v27 ⟨x5, rfl, hb0x5, hb1x5, st27, sr27⟩
      have HBx5 : Hid (0 ≤ x5 ∧ x5 ≤ 1000) := ⟨by omega, by omega⟩
      clear hb0x5 hb1x5
      have E28 : Hid (Dr sb w3 v27) := E26.out.trans st27.dr
      have S28 : Hid (Src v27 sb (.slice a len cap) (0 + 1000 + 1 + 1)) := sr27
      have rb28 : Hid (Dr sb v25 v27) := rb25z.out.trans st27.dr
      clear st27 sr27
      dsimp only
      refine hKQ.out _ _ (Or.inr (KK.out _ E28.out)) ?_
      clear hKQ KQ
      (try simp only [Act.put, List.setIfInBounds_toArray, List.set_cons_zero, List.set_cons_succ])
      refine Goes.all (rs := [6]) (by kernel_rfl) (by simp) ?_
      refine Ups.cons (i := 6) (o := ?oo45) ?ho45 (fun KQ hKQ => ?stp45) Ups.nil
      case ho45 => (simp only [List.getElem?_toArray, List.getElem?_cons_succ, List.getElem?_cons_zero] <;> rfl)
      case stp45 =>
      go_simp
      obtain ⟨v29, hv29⟩ : ∃ v, v = v27.alloc (.cells #[.int .i64 x4, .int .i64 x5, .int .i64 399, .int .i64 (-1)] 2) := ⟨_, rfl⟩
      rw [← hv29]
      have b29 : Below v27.heap.size v27 v29 := by rw [hv29]; exact (Below.refl _ _).alloc (Nat.le_refl _) _
      have cra : Hid (∀ W, Dr sb v29 W → ∀ i, i < ([x4, x5, 399, (-1)] : List Int).length → W.cell? ⟨v27.heap.size, i, none⟩ = some (.int .i64 (([x4, x5, 399, (-1)] : List Int).getD i 0))) := fun W hW i hi => (hW.cell (p := ⟨v27.heap.size, i, none⟩) (by rw [hv29]; simp) (by have := E28.out.size; dsimp only; omega)).trans (by rw [hv29]; exact laid_list v27 [x4, x5, 399, (-1)] 2 i hi)
      have E30 : Hid (Dr sb w3 v29) := E28.out.trans ((Dr.refl sb v27).then b29 (Nat.le_refl _))
      have S30 : Hid (Src v29 sb (.slice a len cap) (0 + 1000 + 1 + 1)) := S28.out.bel b29
      have rb30 : Hid (Dr sb v25 v29) := rb28.out.trans ((Dr.refl sb v27).then b29 (Nat.le_refl _))
      have ra29z : Hid (Dr sb v29 v29) := Dr.refl _ _
      have gra : v27.heap.size ≠ sb := by have := E28.out.size; omega
      clear hv29 b29
      refine hKQ.out _ _ (Or.inr (KK.out _ E30.out)) ?_
      clear hKQ KQ
      (try simp only [Act.put, List.setIfInBounds_toArray, List.set_cons_zero, List.set_cons_succ])
      refine Goes.all (rs := [7]) (by kernel_rfl) (by simp) ?_
      refine Ups.cons (i := 7) (o := ?oo46) ?ho46 (fun KQ hKQ => ?stp46) Ups.nil
      case ho46 => (simp only [List.getElem?_toArray, List.getElem?_cons_succ, List.getElem?_cons_zero] <;> rfl)
      case stp46 =>
      go_simp
      go_at_call 16
      refine (HPK.out _ (v27.heap.size) [x4, x5, 399, (-1)] _ E30.out S30.out (by omega) gra (by simp) (by simp) (cra.out _ ra29z.out)).mono ?_
      rintro e v31 ⟨q7, rfl, hmq7, dr31, sr31⟩
      have HBq7 : Hid (-1000 ≤ q7 ∧ q7 ≤ 1000) := by
        simp only [List.mem_cons, List.not_mem_nil, or_false] at hmq7
        have := HBx4.out
        have := HBx5.out
        show _ ∧ _
        omega
      clear hmq7
      have E32 : Hid (Dr sb w3 v31) := E30.out.trans dr31
      have S32 : Hid (Src v31 sb (.slice a len cap) (0 + 1000 + 1 + 1 + 1)) := sr31
      have rb32 : Hid (Dr sb v25 v31) := rb30.out.trans dr31
      have ra32 : Hid (Dr sb v29 v31) := ra29z.out.trans dr31
      clear dr31 sr31
      dsimp only
      refine hKQ.out _ _ (Or.inr (KK.out _ E32.out)) ?_
      clear hKQ KQ
      (try simp only [Act.put, List.setIfInBounds_toArray, List.set_cons_zero, List.set_cons_succ])
      refine Goes.all (rs := [11]) (by kernel_rfl) (by simp) ?_
      refine Ups.cons (i := 11) (o := ?oo47) ?ho47 (fun KQ hKQ => ?stp47) Ups.nil
      case ho47 => (simp only [List.getElem?_toArray, List.getElem?_cons_succ, List.getElem?_cons_zero] <;> rfl)
      case stp47 =>
      go_simp
      go_at_call 16
      refine (HPK.out _ (v23.heap.size) [1, 4, 8, 9, 0] _ E32.out S32.out (by omega) grb (by simp) (by simp) (crb.out _ rb32.out)).mono ?_
      rintro e v33 ⟨p5, rfl, hmp5, dr33, sr33⟩
      simp only [List.mem_cons, List.not_mem_nil, or_false] at hmp5
      have hp50 : 0 ≤ p5 := by omega
      have hp59 : p5 ≤ 9 := by omega
      clear hmp5
      have E34 : Hid (Dr sb w3 v33) := E32.out.trans dr33
      have S34 : Hid (Src v33 sb (.slice a len cap) (0 + 1000 + 1 + 1 + 1 + 1)) := sr33
      have rb34 : Hid (Dr sb v25 v33) := rb32.out.trans dr33
      have ra34 : Hid (Dr sb v29 v33) := ra32.out.trans dr33
      clear dr33 sr33
      dsimp only
      refine hKQ.out _ _ (Or.inr (KK.out _ E34.out)) ?_
      clear hKQ KQ
      (try simp only [Act.put, List.setIfInBounds_toArray, List.set_cons_zero, List.set_cons_succ])
      refine Goes.all (rs := [12]) (by kernel_rfl) (by simp) ?_
      refine Ups.cons (i := 12) (o := ?oo48) ?ho48 (fun KQ hKQ => ?stp48) Ups.nil
      case ho48 => (simp only [List.getElem?_toArray, List.getElem?_cons_succ, List.getElem?_cons_zero] <;> rfl)
      case stp48 =>
      go_simp
      go_at_call 18
      refine (sSome sb a len cap zs _ p5 _ S34.out (HR.out _ (D.out.trans E34.out)) hl1 (by omega) (by omega) (by omega)).mono ?_
      rintro e v35 ⟨lv, rfl, ld, ob, hl9, dr35, sr35⟩
      have E36 : Hid (Dr sb w3 v35) := E34.out.trans dr35
      have S36 : Hid (Src v35 sb (.slice a len cap) (0 + 1000 + 1 + 1 + 1 + 1 + 27)) := sr35
      have rb36 : Hid (Dr sb v25 v35) := rb34.out.trans dr35
      have ra36 : Hid (Dr sb v29 v35) := ra34.out.trans dr35
      have OB0 : Hid (OB v35 v33.heap.size lv ld ∧ sb < v33.heap.size) := ⟨ob, by have := E34.out.size; omega⟩
      have ZB : Hid (Dr sb v35 v35) := Dr.refl _ _
      have HL9 : Hid (ld.length ≤ 9) := hl9
      clear hl9
      clear dr35 sr35 ob
      dsimp only
      refine hKQ.out _ _ (Or.inr (KK.out _ E36.out)) ?_
      clear hKQ KQ
      (try simp only [Act.put, List.setIfInBounds_toArray, List.set_cons_zero, List.set_cons_succ])
      refine Goes.all (rs := [15]) (by kernel_rfl) (by simp) ?_
      refine Ups.cons (i := 15) (o := ?oo49) ?ho49 (fun KQ hKQ => ?stp49) Ups.nil
      case ho49 => (simp only [List.getElem?_toArray, List.getElem?_cons_succ, List.getElem?_cons_zero] <;> rfl)
      case stp49 =>
      go_simp
      go_at_call 17
      refine (sNext sb a len cap zs _ 30 _ S36.out (HR.out _ (D.out.trans E36.out)) hl1 (by omega) (by omega)).mono ?_
      rintro e v37 ⟨x8, rfl, hb0x8, hb1x8, st37, sr37⟩
      have HBx8 : Hid (0 ≤ x8 ∧ x8 ≤ 1000) := ⟨by omega, by omega⟩
      clear hb0x8 hb1x8
      have E38 : Hid (Dr sb w3 v37) := E36.out.trans st37.dr
      have S38 : Hid (Src v37 sb (.slice a len cap) (0 + 1000 + 1 + 1 + 1 + 1 + 27 + 1)) := sr37
      have rb38 : Hid (Dr sb v25 v37) := rb36.out.trans st37.dr
      have ra38 : Hid (Dr sb v29 v37) := ra36.out.trans st37.dr
      have ZB38 : Hid (Dr sb v35 v37) := ZB.out.trans st37.dr
      clear st37 sr37
      dsimp only
      refine hKQ.out _ _ (Or.inr (KK.out _ E38.out)) ?_
      clear hKQ KQ
      (try simp only [Act.put, List.setIfInBounds_toArray, List.set_cons_zero, List.set_cons_succ])
      refine Goes.all (rs := [17]) (by kernel_rfl) (by simp) ?_
      refine Ups.cons (i := 17) (o := ?oo50) ?ho50 (fun KQ hKQ => ?stp50) Ups.nil
      case ho50 => (simp only [List.getElem?_toArray, List.getElem?_cons_succ, List.getElem?_cons_zero] <;> rfl)
      case stp50 =>
      go_simp
      go_at_call 17
      refine (sNext sb a len cap zs _ 30 _ S38.out (HR.out _ (D.out.trans E38.out)) hl1 (by omega) (by omega)).mono ?_
      rintro e v39 ⟨x9, rfl, hb0x9, hb1x9, st39, sr39⟩
      have HBx9 : Hid (0 ≤ x9 ∧ x9 ≤ 1000) := ⟨by omega, by omega⟩
      clear hb0x9 hb1x9
      have E40 : Hid (Dr sb w3 v39) := E38.out.trans st39.dr
      have S40 : Hid (Src v39 sb (.slice a len cap) (0 + 1000 + 1 + 1 + 1 + 1 + 27 + 1 + 1)) := sr39
      have rb40 : Hid (Dr sb v25 v39) := rb38.out.trans st39.dr
      have ra40 : Hid (Dr sb v29 v39) := ra38.out.trans st39.dr
      have ZB40 : Hid (Dr sb v35 v39) := ZB38.out.trans st39.dr
      clear st39 sr39
      dsimp only
      refine hKQ.out _ _ (Or.inr (KK.out _ E40.out)) ?_
      clear hKQ KQ
      (try simp only [Act.put, List.setIfInBounds_toArray, List.set_cons_zero, List.set_cons_succ])
      refine Goes.all (rs := [18]) (by kernel_rfl) (by simp) ?_
      refine Ups.cons (i := 18) (o := ?oo51) ?ho51 (fun KQ hKQ => ?stp51) Ups.nil
      case ho51 => (simp only [List.getElem?_toArray, List.getElem?_cons_succ, List.getElem?_cons_zero] <;> rfl)
      case stp51 =>
      go_simp
      obtain ⟨v41, hv41⟩ : ∃ v, v = v39.alloc (.cells #[.int .i64 x8, .int .i64 x9, .int .i64 (-1)] 2) := ⟨_, rfl⟩
      rw [← hv41]
      have b41 : Below v39.heap.size v39 v41 := by rw [hv41]; exact (Below.refl _ _).alloc (Nat.le_refl _) _
      have crc : Hid (∀ W, Dr sb v41 W → ∀ i, i < ([x8, x9, (-1)] : List Int).length → W.cell? ⟨v39.heap.size, i, none⟩ = some (.int .i64 (([x8, x9, (-1)] : List Int).getD i 0))) := fun W hW i hi => (hW.cell (p := ⟨v39.heap.size, i, none⟩) (by rw [hv41]; simp) (by have := E40.out.size; dsimp only; omega)).trans (by rw [hv41]; exact laid_list v39 [x8, x9, (-1)] 2 i hi)
      have E42 : Hid (Dr sb w3 v41) := E40.out.trans ((Dr.refl sb v39).then b41 (Nat.le_refl _))
      have S42 : Hid (Src v41 sb (.slice a len cap) (0 + 1000 + 1 + 1 + 1 + 1 + 27 + 1 + 1)) := S40.out.bel b41
      have rb42 : Hid (Dr sb v25 v41) := rb40.out.trans ((Dr.refl sb v39).then b41 (Nat.le_refl _))
      have ra42 : Hid (Dr sb v29 v41) := ra40.out.trans ((Dr.refl sb v39).then b41 (Nat.le_refl _))
      have ZB42 : Hid (Dr sb v35 v41) := ZB40.out.trans ((Dr.refl sb v39).then b41 (Nat.le_refl _))
      have rc41z : Hid (Dr sb v41 v41) := Dr.refl _ _
      have grc : v39.heap.size ≠ sb := by have := E40.out.size; omega
      clear hv41 b41
      refine hKQ.out _ _ (Or.inr (KK.out _ E42.out)) ?_
      clear hKQ KQ
      (try simp only [Act.put, List.setIfInBounds_toArray, List.set_cons_zero, List.set_cons_succ])
      refine Goes.all (rs := [19]) (by kernel_rfl) (by simp) ?_
      refine Ups.cons (i := 19) (o := ?oo52) ?ho52 (fun KQ hKQ => ?stp52) Ups.nil
      case ho52 => (simp only [List.getElem?_toArray, List.getElem?_cons_succ, List.getElem?_cons_zero] <;> rfl)
      case stp52 =>
      go_simp
      go_at_call 16
      refine (HPK.out _ (v39.heap.size) [x8, x9, (-1)] _ E42.out S42.out (by omega) grc (by simp) (by simp) (crc.out _ rc41z.out)).mono ?_
      rintro e v43 ⟨q9, rfl, hmq9, dr43, sr43⟩
      have HBq9 : Hid (-1000 ≤ q9 ∧ q9 ≤ 1000) := by
        simp only [List.mem_cons, List.not_mem_nil, or_false] at hmq9
        have := HBx8.out
        have := HBx9.out
        show _ ∧ _
        omega
      clear hmq9
      have E44 : Hid (Dr sb w3 v43) := E42.out.trans dr43
      have S44 : Hid (Src v43 sb (.slice a len cap) (0 + 1000 + 1 + 1 + 1 + 1 + 27 + 1 + 1 + 1)) := sr43
      have rb44 : Hid (Dr sb v25 v43) := rb42.out.trans dr43
      have ra44 : Hid (Dr sb v29 v43) := ra42.out.trans dr43
      have ZB44 : Hid (Dr sb v35 v43) := ZB42.out.trans dr43
      have rc44 : Hid (Dr sb v41 v43) := rc41z.out.trans dr43
      clear dr43 sr43
      dsimp only
      refine hKQ.out _ _ (Or.inr (KK.out _ E44.out)) ?_
      clear hKQ KQ
      (try simp only [Act.put, List.setIfInBounds_toArray, List.set_cons_zero, List.set_cons_succ])
      refine Goes.all (rs := [20]) (by kernel_rfl) (by simp) ?_
      refine Ups.cons (i := 20) (o := ?oo53) ?ho53 (fun KQ hKQ => ?stp53) Ups.nil
      case ho53 => (simp only [List.getElem?_toArray, List.getElem?_cons_succ, List.getElem?_cons_zero] <;> rfl)
      case stp53 =>
      rw [if_pos (by rfl)]
      obtain ⟨kR8, fR8⟩ := HKR.out _ E44.out
      refine wp_store_mid 26 _ _ rfl _ _ NN (by rfl) (by rw [HNN.out]; rfl) (bx_there kR8 fR8 (by rw [HNZ.out]; rfl)) HNI.out HNO.out ?_
      refine hKQ.out _ _ (Or.inr (bx_setOff (KK.out _ E44.out) hcr)) ?_
      clear hKQ KQ
      (try simp only [Act.put, List.setIfInBounds_toArray, List.set_cons_zero, List.set_cons_succ])
      refine Goes.take (i := 21) (oi := ?oi55) (x := ?vx55) ?ho55 (by kernel_rfl) (by kernel_rfl) (by kernel_rfl) (by kernel_rfl) (fun _ _ _ h => h) (Or.inl ⟨?hw55, ?hy55⟩) (bx_setOff (KK.out _ E44.out) hcr) ?rest55
      case ho55 => (simp only [List.getElem?_toArray, List.getElem?_cons_succ, List.getElem?_cons_zero] <;> rfl)
      case hw55 => rfl
      case hy55 => (intro w' hSw; have j0 := hSw; go_simp; (try with_reducible rfl))
      case rest55 =>
      (try simp only [Act.put, List.setIfInBounds_toArray, List.set_cons_zero, List.set_cons_succ])
      refine Goes.take (i := 22) (oi := ?oi56) (x := ?vx56) ?ho56 (by kernel_rfl) (by kernel_rfl) (by kernel_rfl) (by kernel_rfl) (fun _ _ _ h => h) (Or.inl ⟨?hw56, ?hy56⟩) (bx_setOff (KK.out _ E44.out) hcr) ?rest56
      case ho56 => (simp only [List.getElem?_toArray, List.getElem?_cons_succ, List.getElem?_cons_zero] <;> rfl)
      case hw56 => rfl
      case hy56 => (intro w' hSw; have j0 := hSw; go_simp; (try with_reducible rfl))
      case rest56 =>
      (try simp only [Act.put, List.setIfInBounds_toArray, List.set_cons_zero, List.set_cons_succ])
      refine Goes.take (i := 23) (oi := ?oi57) (x := ?vx57) ?ho57 (by kernel_rfl) (by kernel_rfl) (by kernel_rfl) (by kernel_rfl) (fun _ _ _ h => h) (Or.inl ⟨?hw57, ?hy57⟩) (bx_setOff (KK.out _ E44.out) hcr) ?rest57
      case ho57 => (simp only [List.getElem?_toArray, List.getElem?_cons_succ, List.getElem?_cons_zero] <;> rfl)
      case hw57 => rfl
      case hy57 => (intro w' hSw; have j0 := hSw; go_simp; (try with_reducible rfl))
      case rest57 =>
      (try simp only [Act.put, List.setIfInBounds_toArray, List.set_cons_zero, List.set_cons_succ])
      refine Goes.done (by kernel_rfl) ?_ _
      refine NoPanic.normal ?_
      obtain ⟨WZ, hWZ, kZ, BZ0, YZ0, OZ0, hzz⟩ := pushEnd (NN := NN) kR8 HNN.out HNZ.out B1.out D.out E44.out hws hwW hsW ZB44.out OB0.out.1 OB0.out.2
      rw [hWZ]
      clear hWZ kR8 fR8
      have BZ : Hid _ := BZ0
      have YZ : Hid _ := YZ0
      have OZ : Hid _ := OZ0
      clear BZ0 YZ0 OZ0
      go_wp2_with fail
      obtain ⟨e0, e1, e2, e3⟩ := HY.out
      refine bodyPost_ret (v := .tuple #[.agg #[.int .i64 y0, .int .i64 y1, .int .i64 y2, .slice va vn vc], .int .i64 q7, lv, .int .i64 q9]) (by simp [results, Try.results5, go_sem, kZ]) rfl ⟨x, .slice va vn vc, lv, ld, q7, q9, by rw [e0, e1, e2], ?_, OZ.out, HL9.out, HBq7.out, HBq9.out, HT.out, BZ.out⟩
      rw [e0, e1, e2]
      exact HSy.out _ YZ.out hzz
    case stp42 =>
      go_simp
      go_at_call 17
      refine (sNext sb a len cap zs _ 99 _ S24.out (HR.out _ (D.out.trans E24.out)) hl1 (by omega) (by omega)).mono ?_
      rintro e v45 ⟨x5, rfl, hb0x5, hb1x5, st45, sr45⟩
      have HBx5 : Hid (0 ≤ x5 ∧ x5 ≤ 1000) := ⟨by omega, by omega⟩
      clear hb0x5 hb1x5
      have E46 : Hid (Dr sb w3 v45) := E24.out.trans st45.dr
      have S46 : Hid (Src v45 sb (.slice a len cap) (0 + 1000 + 1 + 1)) := sr45
      clear st45 sr45
      dsimp only
      refine hKQ.out _ _ (Or.inr (KK.out _ E46.out)) ?_
      clear hKQ KQ
      (try simp only [Act.put, List.setIfInBounds_toArray, List.set_cons_zero, List.set_cons_succ])
      refine Goes.all (rs := [6, 10]) (by kernel_rfl) (by simp) ?_
      refine Ups.cons (i := 6) (o := ?oo63) ?ho63 (fun KQ hKQ => ?stp63) (Ups.cons (i := 10) (o := ?oo64) ?ho64 (fun KQ hKQ => ?stp64) Ups.nil)
      case ho63 => (simp only [List.getElem?_toArray, List.getElem?_cons_succ, List.getElem?_cons_zero] <;> rfl)
      case ho64 => (simp only [List.getElem?_toArray, List.getElem?_cons_succ, List.getElem?_cons_zero] <;> rfl)
      case stp64 =>
        go_simp
        obtain ⟨v47, hv47⟩ : ∃ v, v = v45.alloc (.cells #[.int .i64 1, .int .i64 4, .int .i64 8, .int .i64 9, .int .i64 0] 2) := ⟨_, rfl⟩
        rw [← hv47]
        have b47 : Below v45.heap.size v45 v47 := by rw [hv47]; exact (Below.refl _ _).alloc (Nat.le_refl _) _
        have crb : Hid (∀ W, Dr sb v47 W → ∀ i, i < ([1, 4, 8, 9, 0] : List Int).length → W.cell? ⟨v45.heap.size, i, none⟩ = some (.int .i64 (([1, 4, 8, 9, 0] : List Int).getD i 0))) := fun W hW i hi => (hW.cell (p := ⟨v45.heap.size, i, none⟩) (by rw [hv47]; simp) (by have := E46.out.size; dsimp only; omega)).trans (by rw [hv47]; exact laid_list v45 [1, 4, 8, 9, 0] 2 i hi)
        have E48 : Hid (Dr sb w3 v47) := E46.out.trans ((Dr.refl sb v45).then b47 (Nat.le_refl _))
        have S48 : Hid (Src v47 sb (.slice a len cap) (0 + 1000 + 1 + 1)) := S46.out.bel b47
        have rb47z : Hid (Dr sb v47 v47) := Dr.refl _ _
        have grb : v45.heap.size ≠ sb := by have := E46.out.size; omega
        clear hv47 b47
        refine hKQ.out _ _ (Or.inr (KK.out _ E48.out)) ?_
        clear hKQ KQ
        (try simp only [Act.put, List.setIfInBounds_toArray, List.set_cons_zero, List.set_cons_succ])
        refine Goes.all (rs := [6]) (by kernel_rfl) (by simp) ?_
        refine Ups.cons (i := 6) (o := ?oo65) ?ho65 (fun KQ hKQ => ?stp65) Ups.nil
        case ho65 => (simp only [List.getElem?_toArray, List.getElem?_cons_succ, List.getElem?_cons_zero] <;> rfl)
        case stp65 =>
        go_simp
        obtain ⟨v49, hv49⟩ : ∃ v, v = v47.alloc (.cells #[.int .i64 x4, .int .i64 x5, .int .i64 399, .int .i64 (-1)] 2) := ⟨_, rfl⟩
        rw [← hv49]
        have b49 : Below v47.heap.size v47 v49 := by rw [hv49]; exact (Below.refl _ _).alloc (Nat.le_refl _) _
        have cra : Hid (∀ W, Dr sb v49 W → ∀ i, i < ([x4, x5, 399, (-1)] : List Int).length → W.cell? ⟨v47.heap.size, i, none⟩ = some (.int .i64 (([x4, x5, 399, (-1)] : List Int).getD i 0))) := fun W hW i hi => (hW.cell (p := ⟨v47.heap.size, i, none⟩) (by rw [hv49]; simp) (by have := E48.out.size; dsimp only; omega)).trans (by rw [hv49]; exact laid_list v47 [x4, x5, 399, (-1)] 2 i hi)
        have E50 : Hid (Dr sb w3 v49) := E48.out.trans ((Dr.refl sb v47).then b49 (Nat.le_refl _))
        have S50 : Hid (Src v49 sb (.slice a len cap) (0 + 1000 + 1 + 1)) := S48.out.bel b49
        have rb50 : Hid (Dr sb v47 v49) := rb47z.out.trans ((Dr.refl sb v47).then b49 (Nat.le_refl _))
        have ra49z : Hid (Dr sb v49 v49) := Dr.refl _ _
        have gra : v47.heap.size ≠ sb := by have := E48.out.size; omega
        clear hv49 b49
        refine hKQ.out _ _ (Or.inr (KK.out _ E50.out)) ?_
        clear hKQ KQ
        (try simp only [Act.put, List.setIfInBounds_toArray, List.set_cons_zero, List.set_cons_succ])
        refine Goes.all (rs := [7]) (by kernel_rfl) (by simp) ?_
        refine Ups.cons (i := 7) (o := ?oo66) ?ho66 (fun KQ hKQ => ?stp66) Ups.nil
        case ho66 => (simp only [List.getElem?_toArray, List.getElem?_cons_succ, List.getElem?_cons_zero] <;> rfl)
        case stp66 =>
        go_simp
        go_at_call 16
        refine (HPK.out _ (v47.heap.size) [x4, x5, 399, (-1)] _ E50.out S50.out (by omega) gra (by simp) (by simp) (cra.out _ ra49z.out)).mono ?_
        rintro e v51 ⟨q7, rfl, hmq7, dr51, sr51⟩
        have HBq7 : Hid (-1000 ≤ q7 ∧ q7 ≤ 1000) := by
          simp only [List.mem_cons, List.not_mem_nil, or_false] at hmq7
          have := HBx4.out
          have := HBx5.out
          show _ ∧ _
          omega
        clear hmq7
        have E52 : Hid (Dr sb w3 v51) := E50.out.trans dr51
        have S52 : Hid (Src v51 sb (.slice a len cap) (0 + 1000 + 1 + 1 + 1)) := sr51
        have rb52 : Hid (Dr sb v47 v51) := rb50.out.trans dr51
        have ra52 : Hid (Dr sb v49 v51) := ra49z.out.trans dr51
        clear dr51 sr51
        dsimp only
        refine hKQ.out _ _ (Or.inr (KK.out _ E52.out)) ?_
        clear hKQ KQ
        (try simp only [Act.put, List.setIfInBounds_toArray, List.set_cons_zero, List.set_cons_succ])
        refine Goes.all (rs := [11]) (by kernel_rfl) (by simp) ?_
        refine Ups.cons (i := 11) (o := ?oo67) ?ho67 (fun KQ hKQ => ?stp67) Ups.nil
        case ho67 => (simp only [List.getElem?_toArray, List.getElem?_cons_succ, List.getElem?_cons_zero] <;> rfl)
        case stp67 =>
        go_simp
        go_at_call 16
        refine (HPK.out _ (v45.heap.size) [1, 4, 8, 9, 0] _ E52.out S52.out (by omega) grb (by simp) (by simp) (crb.out _ rb52.out)).mono ?_
        rintro e v53 ⟨p5, rfl, hmp5, dr53, sr53⟩
        simp only [List.mem_cons, List.not_mem_nil, or_false] at hmp5
        have hp50 : 0 ≤ p5 := by omega
        have hp59 : p5 ≤ 9 := by omega
        clear hmp5
        have E54 : Hid (Dr sb w3 v53) := E52.out.trans dr53
        have S54 : Hid (Src v53 sb (.slice a len cap) (0 + 1000 + 1 + 1 + 1 + 1)) := sr53
        have rb54 : Hid (Dr sb v47 v53) := rb52.out.trans dr53
        have ra54 : Hid (Dr sb v49 v53) := ra52.out.trans dr53
        clear dr53 sr53
        dsimp only
        refine hKQ.out _ _ (Or.inr (KK.out _ E54.out)) ?_
        clear hKQ KQ
        (try simp only [Act.put, List.setIfInBounds_toArray, List.set_cons_zero, List.set_cons_succ])
        refine Goes.all (rs := [12]) (by kernel_rfl) (by simp) ?_
        refine Ups.cons (i := 12) (o := ?oo68) ?ho68 (fun KQ hKQ => ?stp68) Ups.nil
        case ho68 => (simp only [List.getElem?_toArray, List.getElem?_cons_succ, List.getElem?_cons_zero] <;> rfl)
        case stp68 =>
        go_simp
        go_at_call 18
        refine (sSome sb a len cap zs _ p5 _ S54.out (HR.out _ (D.out.trans E54.out)) hl1 (by omega) (by omega) (by omega)).mono ?_
        rintro e v55 ⟨lv, rfl, ld, ob, hl9, dr55, sr55⟩
        have E56 : Hid (Dr sb w3 v55) := E54.out.trans dr55
        have S56 : Hid (Src v55 sb (.slice a len cap) (0 + 1000 + 1 + 1 + 1 + 1 + 27)) := sr55
        have rb56 : Hid (Dr sb v47 v55) := rb54.out.trans dr55
        have ra56 : Hid (Dr sb v49 v55) := ra54.out.trans dr55
        have OB0 : Hid (OB v55 v53.heap.size lv ld ∧ sb < v53.heap.size) := ⟨ob, by have := E54.out.size; omega⟩
        have ZB : Hid (Dr sb v55 v55) := Dr.refl _ _
        have HL9 : Hid (ld.length ≤ 9) := hl9
        clear hl9
        clear dr55 sr55 ob
        dsimp only
        refine hKQ.out _ _ (Or.inr (KK.out _ E56.out)) ?_
        clear hKQ KQ
        (try simp only [Act.put, List.setIfInBounds_toArray, List.set_cons_zero, List.set_cons_succ])
        refine Goes.all (rs := [15]) (by kernel_rfl) (by simp) ?_
        refine Ups.cons (i := 15) (o := ?oo69) ?ho69 (fun KQ hKQ => ?stp69) Ups.nil
        case ho69 => (simp only [List.getElem?_toArray, List.getElem?_cons_succ, List.getElem?_cons_zero] <;> rfl)
        case stp69 =>
        go_simp
        go_at_call 17
        refine (sNext sb a len cap zs _ 30 _ S56.out (HR.out _ (D.out.trans E56.out)) hl1 (by omega) (by omega)).mono ?_
        rintro e v57 ⟨x8, rfl, hb0x8, hb1x8, st57, sr57⟩
        have HBx8 : Hid (0 ≤ x8 ∧ x8 ≤ 1000) := ⟨by omega, by omega⟩
        clear hb0x8 hb1x8
        have E58 : Hid (Dr sb w3 v57) := E56.out.trans st57.dr
        have S58 : Hid (Src v57 sb (.slice a len cap) (0 + 1000 + 1 + 1 + 1 + 1 + 27 + 1)) := sr57
        have rb58 : Hid (Dr sb v47 v57) := rb56.out.trans st57.dr
        have ra58 : Hid (Dr sb v49 v57) := ra56.out.trans st57.dr
        have ZB58 : Hid (Dr sb v55 v57) := ZB.out.trans st57.dr
        clear st57 sr57
        dsimp only
        refine hKQ.out _ _ (Or.inr (KK.out _ E58.out)) ?_
        clear hKQ KQ
        (try simp only [Act.put, List.setIfInBounds_toArray, List.set_cons_zero, List.set_cons_succ])
        refine Goes.all (rs := [17]) (by kernel_rfl) (by simp) ?_
        refine Ups.cons (i := 17) (o := ?oo70) ?ho70 (fun KQ hKQ => ?stp70) Ups.nil
        case ho70 => (simp only [List.getElem?_toArray, List.getElem?_cons_succ, List.getElem?_cons_zero] <;> rfl)
        case stp70 =>
        go_simp
        go_at_call 17
        refine (sNext sb a len cap zs _ 30 _ S58.out (HR.out _ (D.out.trans E58.out)) hl1 (by omega) (by omega)).mono ?_
        rintro e v59 ⟨x9, rfl, hb0x9, hb1x9, st59, sr59⟩
        have HBx9 : Hid (0 ≤ x9 ∧ x9 ≤ 1000) := ⟨by omega, by omega⟩
        clear hb0x9 hb1x9
        have E60 : Hid (Dr sb w3 v59) := E58.out.trans st59.dr
        have S60 : Hid (Src v59 sb (.slice a len cap) (0 + 1000 + 1 + 1 + 1 + 1 + 27 + 1 + 1)) := sr59
        have rb60 : Hid (Dr sb v47 v59) := rb58.out.trans st59.dr
        have ra60 : Hid (Dr sb v49 v59) := ra58.out.trans st59.dr
        have ZB60 : Hid (Dr sb v55 v59) := ZB58.out.trans st59.dr
        clear st59 sr59
        dsimp only
        refine hKQ.out _ _ (Or.inr (KK.out _ E60.out)) ?_
        clear hKQ KQ
        (try simp only [Act.put, List.setIfInBounds_toArray, List.set_cons_zero, List.set_cons_succ])
        refine Goes.all (rs := [18]) (by kernel_rfl) (by simp) ?_
        refine Ups.cons (i := 18) (o := ?oo71) ?ho71 (fun KQ hKQ => ?stp71) Ups.nil
        case ho71 => (simp only [List.getElem?_toArray, List.getElem?_cons_succ, List.getElem?_cons_zero] <;> rfl)
        case stp71 =>
        go_simp
        obtain ⟨v61, hv61⟩ : ∃ v, v = v59.alloc (.cells #[.int .i64 x8, .int .i64 x9, .int .i64 (-1)] 2) := ⟨_, rfl⟩
        rw [← hv61]
        have b61 : Below v59.heap.size v59 v61 := by rw [hv61]; exact (Below.refl _ _).alloc (Nat.le_refl _) _
        have crc : Hid (∀ W, Dr sb v61 W → ∀ i, i < ([x8, x9, (-1)] : List Int).length → W.cell? ⟨v59.heap.size, i, none⟩ = some (.int .i64 (([x8, x9, (-1)] : List Int).getD i 0))) := fun W hW i hi => (hW.cell (p := ⟨v59.heap.size, i, none⟩) (by rw [hv61]; simp) (by have := E60.out.size; dsimp only; omega)).trans (by rw [hv61]; exact laid_list v59 [x8, x9, (-1)] 2 i hi)
        have E62 : Hid (Dr sb w3 v61) := E60.out.trans ((Dr.refl sb v59).then b61 (Nat.le_refl _))
        have S62 : Hid (Src v61 sb (.slice a len cap) (0 + 1000 + 1 + 1 + 1 + 1 + 27 + 1 + 1)) := S60.out.bel b61
        have rb62 : Hid (Dr sb v47 v61) := rb60.out.trans ((Dr.refl sb v59).then b61 (Nat.le_refl _))
        have ra62 : Hid (Dr sb v49 v61) := ra60.out.trans ((Dr.refl sb v59).then b61 (Nat.le_refl _))
        have ZB62 : Hid (Dr sb v55 v61) := ZB60.out.trans ((Dr.refl sb v59).then b61 (Nat.le_refl _))
        have rc61z : Hid (Dr sb v61 v61) := Dr.refl _ _
        have grc : v59.heap.size ≠ sb := by have := E60.out.size; omega
        clear hv61 b61
        refine hKQ.out _ _ (Or.inr (KK.out _ E62.out)) ?_
        clear hKQ KQ
        (try simp only [Act.put, List.setIfInBounds_toArray, List.set_cons_zero, List.set_cons_succ])
        refine Goes.all (rs := [19]) (by kernel_rfl) (by simp) ?_
        refine Ups.cons (i := 19) (o := ?oo72) ?ho72 (fun KQ hKQ => ?stp72) Ups.nil
        case ho72 => (simp only [List.getElem?_toArray, List.getElem?_cons_succ, List.getElem?_cons_zero] <;> rfl)
        case stp72 =>
        go_simp
        go_at_call 16
        refine (HPK.out _ (v59.heap.size) [x8, x9, (-1)] _ E62.out S62.out (by omega) grc (by simp) (by simp) (crc.out _ rc61z.out)).mono ?_
        rintro e v63 ⟨q9, rfl, hmq9, dr63, sr63⟩
        have HBq9 : Hid (-1000 ≤ q9 ∧ q9 ≤ 1000) := by
          simp only [List.mem_cons, List.not_mem_nil, or_false] at hmq9
          have := HBx8.out
          have := HBx9.out
          show _ ∧ _
          omega
        clear hmq9
        have E64 : Hid (Dr sb w3 v63) := E62.out.trans dr63
        have S64 : Hid (Src v63 sb (.slice a len cap) (0 + 1000 + 1 + 1 + 1 + 1 + 27 + 1 + 1 + 1)) := sr63
        have rb64 : Hid (Dr sb v47 v63) := rb62.out.trans dr63
        have ra64 : Hid (Dr sb v49 v63) := ra62.out.trans dr63
        have ZB64 : Hid (Dr sb v55 v63) := ZB62.out.trans dr63
        have rc64 : Hid (Dr sb v61 v63) := rc61z.out.trans dr63
        clear dr63 sr63
        dsimp only
        refine hKQ.out _ _ (Or.inr (KK.out _ E64.out)) ?_
        clear hKQ KQ
        (try simp only [Act.put, List.setIfInBounds_toArray, List.set_cons_zero, List.set_cons_succ])
        refine Goes.all (rs := [20]) (by kernel_rfl) (by simp) ?_
        refine Ups.cons (i := 20) (o := ?oo73) ?ho73 (fun KQ hKQ => ?stp73) Ups.nil
        case ho73 => (simp only [List.getElem?_toArray, List.getElem?_cons_succ, List.getElem?_cons_zero] <;> rfl)
        case stp73 =>
        rw [if_pos (by rfl)]
        obtain ⟨kR8, fR8⟩ := HKR.out _ E64.out
        refine wp_store_mid 26 _ _ rfl _ _ NN (by rfl) (by rw [HNN.out]; rfl) (bx_there kR8 fR8 (by rw [HNZ.out]; rfl)) HNI.out HNO.out ?_
        refine hKQ.out _ _ (Or.inr (bx_setOff (KK.out _ E64.out) hcr)) ?_
        clear hKQ KQ
        (try simp only [Act.put, List.setIfInBounds_toArray, List.set_cons_zero, List.set_cons_succ])
        refine Goes.take (i := 21) (oi := ?oi75) (x := ?vx75) ?ho75 (by kernel_rfl) (by kernel_rfl) (by kernel_rfl) (by kernel_rfl) (fun _ _ _ h => h) (Or.inl ⟨?hw75, ?hy75⟩) (bx_setOff (KK.out _ E64.out) hcr) ?rest75
        case ho75 => (simp only [List.getElem?_toArray, List.getElem?_cons_succ, List.getElem?_cons_zero] <;> rfl)
        case hw75 => rfl
        case hy75 => (intro w' hSw; have j0 := hSw; go_simp; (try with_reducible rfl))
        case rest75 =>
        (try simp only [Act.put, List.setIfInBounds_toArray, List.set_cons_zero, List.set_cons_succ])
        refine Goes.take (i := 22) (oi := ?oi76) (x := ?vx76) ?ho76 (by kernel_rfl) (by kernel_rfl) (by kernel_rfl) (by kernel_rfl) (fun _ _ _ h => h) (Or.inl ⟨?hw76, ?hy76⟩) (bx_setOff (KK.out _ E64.out) hcr) ?rest76
        case ho76 => (simp only [List.getElem?_toArray, List.getElem?_cons_succ, List.getElem?_cons_zero] <;> rfl)
        case hw76 => rfl
        case hy76 => (intro w' hSw; have j0 := hSw; go_simp; (try with_reducible rfl))
        case rest76 =>
        (try simp only [Act.put, List.setIfInBounds_toArray, List.set_cons_zero, List.set_cons_succ])
        refine Goes.take (i := 23) (oi := ?oi77) (x := ?vx77) ?ho77 (by kernel_rfl) (by kernel_rfl) (by kernel_rfl) (by kernel_rfl) (fun _ _ _ h => h) (Or.inl ⟨?hw77, ?hy77⟩) (bx_setOff (KK.out _ E64.out) hcr) ?rest77
        case ho77 => (simp only [List.getElem?_toArray, List.getElem?_cons_succ, List.getElem?_cons_zero] <;> rfl)
        case hw77 => rfl
        case hy77 => (intro w' hSw; have j0 := hSw; go_simp; (try with_reducible rfl))
        case rest77 =>
        (try simp only [Act.put, List.setIfInBounds_toArray, List.set_cons_zero, List.set_cons_succ])
        refine Goes.done (by kernel_rfl) ?_ _
        refine NoPanic.normal ?_
        obtain ⟨WZ, hWZ, kZ, BZ0, YZ0, OZ0, hzz⟩ := pushEnd (NN := NN) kR8 HNN.out HNZ.out B1.out D.out E64.out hws hwW hsW ZB64.out OB0.out.1 OB0.out.2
        rw [hWZ]
        clear hWZ kR8 fR8
        have BZ : Hid _ := BZ0
        have YZ : Hid _ := YZ0
        have OZ : Hid _ := OZ0
        clear BZ0 YZ0 OZ0
        go_wp2_with fail
        obtain ⟨e0, e1, e2, e3⟩ := HY.out
        refine bodyPost_ret (v := .tuple #[.agg #[.int .i64 y0, .int .i64 y1, .int .i64 y2, .slice va vn vc], .int .i64 q7, lv, .int .i64 q9]) (by simp [results, Try.results5, go_sem, kZ]) rfl ⟨x, .slice va vn vc, lv, ld, q7, q9, by rw [e0, e1, e2], ?_, OZ.out, HL9.out, HBq7.out, HBq9.out, HT.out, BZ.out⟩
        rw [e0, e1, e2]
        exact HSy.out _ YZ.out hzz
      case stp63 =>
        go_simp
        obtain ⟨v65, hv65⟩ : ∃ v, v = v45.alloc (.cells #[.int .i64 x4, .int .i64 x5, .int .i64 399, .int .i64 (-1)] 2) := ⟨_, rfl⟩
        rw [← hv65]
        have b65 : Below v45.heap.size v45 v65 := by rw [hv65]; exact (Below.refl _ _).alloc (Nat.le_refl _) _
        have cra : Hid (∀ W, Dr sb v65 W → ∀ i, i < ([x4, x5, 399, (-1)] : List Int).length → W.cell? ⟨v45.heap.size, i, none⟩ = some (.int .i64 (([x4, x5, 399, (-1)] : List Int).getD i 0))) := fun W hW i hi => (hW.cell (p := ⟨v45.heap.size, i, none⟩) (by rw [hv65]; simp) (by have := E46.out.size; dsimp only; omega)).trans (by rw [hv65]; exact laid_list v45 [x4, x5, 399, (-1)] 2 i hi)
        have E66 : Hid (Dr sb w3 v65) := E46.out.trans ((Dr.refl sb v45).then b65 (Nat.le_refl _))
        have S66 : Hid (Src v65 sb (.slice a len cap) (0 + 1000 + 1 + 1)) := S46.out.bel b65
        have ra65z : Hid (Dr sb v65 v65) := Dr.refl _ _
        have gra : v45.heap.size ≠ sb := by have := E46.out.size; omega
        clear hv65 b65
        refine hKQ.out _ _ (Or.inr (KK.out _ E66.out)) ?_
        clear hKQ KQ
        (try simp only [Act.put, List.setIfInBounds_toArray, List.set_cons_zero, List.set_cons_succ])
        refine Goes.all (rs := [7, 10]) (by kernel_rfl) (by simp) ?_
        refine Ups.cons (i := 7) (o := ?oo83) ?ho83 (fun KQ hKQ => ?stp83) (Ups.cons (i := 10) (o := ?oo84) ?ho84 (fun KQ hKQ => ?stp84) Ups.nil)
        case ho83 => (simp only [List.getElem?_toArray, List.getElem?_cons_succ, List.getElem?_cons_zero] <;> rfl)
        case ho84 => (simp only [List.getElem?_toArray, List.getElem?_cons_succ, List.getElem?_cons_zero] <;> rfl)
        case stp84 =>
          go_simp
          obtain ⟨v67, hv67⟩ : ∃ v, v = v65.alloc (.cells #[.int .i64 1, .int .i64 4, .int .i64 8, .int .i64 9, .int .i64 0] 2) := ⟨_, rfl⟩
          rw [← hv67]
          have b67 : Below v65.heap.size v65 v67 := by rw [hv67]; exact (Below.refl _ _).alloc (Nat.le_refl _) _
          have crb : Hid (∀ W, Dr sb v67 W → ∀ i, i < ([1, 4, 8, 9, 0] : List Int).length → W.cell? ⟨v65.heap.size, i, none⟩ = some (.int .i64 (([1, 4, 8, 9, 0] : List Int).getD i 0))) := fun W hW i hi => (hW.cell (p := ⟨v65.heap.size, i, none⟩) (by rw [hv67]; simp) (by have := E66.out.size; dsimp only; omega)).trans (by rw [hv67]; exact laid_list v65 [1, 4, 8, 9, 0] 2 i hi)
          have E68 : Hid (Dr sb w3 v67) := E66.out.trans ((Dr.refl sb v65).then b67 (Nat.le_refl _))
          have S68 : Hid (Src v67 sb (.slice a len cap) (0 + 1000 + 1 + 1)) := S66.out.bel b67
          have ra68 : Hid (Dr sb v65 v67) := ra65z.out.trans ((Dr.refl sb v65).then b67 (Nat.le_refl _))
          have rb67z : Hid (Dr sb v67 v67) := Dr.refl _ _
          have grb : v65.heap.size ≠ sb := by have := E66.out.size; omega
          clear hv67 b67
          refine hKQ.out _ _ (Or.inr (KK.out _ E68.out)) ?_
          clear hKQ KQ
          (try simp only [Act.put, List.setIfInBounds_toArray, List.set_cons_zero, List.set_cons_succ])
          refine Goes.all (rs := [7]) (by kernel_rfl) (by simp) ?_
          refine Ups.cons (i := 7) (o := ?oo85) ?ho85 (fun KQ hKQ => ?stp85) Ups.nil
          case ho85 => (simp only [List.getElem?_toArray, List.getElem?_cons_succ, List.getElem?_cons_zero] <;> rfl)
          case stp85 =>
          go_simp
          go_at_call 16
          refine (HPK.out _ (v45.heap.size) [x4, x5, 399, (-1)] _ E68.out S68.out (by omega) gra (by simp) (by simp) (cra.out _ ra68.out)).mono ?_
          rintro e v69 ⟨q7, rfl, hmq7, dr69, sr69⟩
          have HBq7 : Hid (-1000 ≤ q7 ∧ q7 ≤ 1000) := by
            simp only [List.mem_cons, List.not_mem_nil, or_false] at hmq7
            have := HBx4.out
            have := HBx5.out
            show _ ∧ _
            omega
          clear hmq7
          have E70 : Hid (Dr sb w3 v69) := E68.out.trans dr69
          have S70 : Hid (Src v69 sb (.slice a len cap) (0 + 1000 + 1 + 1 + 1)) := sr69
          have ra70 : Hid (Dr sb v65 v69) := ra68.out.trans dr69
          have rb70 : Hid (Dr sb v67 v69) := rb67z.out.trans dr69
          clear dr69 sr69
          dsimp only
          refine hKQ.out _ _ (Or.inr (KK.out _ E70.out)) ?_
          clear hKQ KQ
          (try simp only [Act.put, List.setIfInBounds_toArray, List.set_cons_zero, List.set_cons_succ])
          refine Goes.all (rs := [11]) (by kernel_rfl) (by simp) ?_
          refine Ups.cons (i := 11) (o := ?oo86) ?ho86 (fun KQ hKQ => ?stp86) Ups.nil
          case ho86 => (simp only [List.getElem?_toArray, List.getElem?_cons_succ, List.getElem?_cons_zero] <;> rfl)
          case stp86 =>
          go_simp
          go_at_call 16
          refine (HPK.out _ (v65.heap.size) [1, 4, 8, 9, 0] _ E70.out S70.out (by omega) grb (by simp) (by simp) (crb.out _ rb70.out)).mono ?_
          rintro e v71 ⟨p5, rfl, hmp5, dr71, sr71⟩
          simp only [List.mem_cons, List.not_mem_nil, or_false] at hmp5
          have hp50 : 0 ≤ p5 := by omega
          have hp59 : p5 ≤ 9 := by omega
          clear hmp5
          have E72 : Hid (Dr sb w3 v71) := E70.out.trans dr71
          have S72 : Hid (Src v71 sb (.slice a len cap) (0 + 1000 + 1 + 1 + 1 + 1)) := sr71
          have ra72 : Hid (Dr sb v65 v71) := ra70.out.trans dr71
          have rb72 : Hid (Dr sb v67 v71) := rb70.out.trans dr71
          clear dr71 sr71
          dsimp only
          refine hKQ.out _ _ (Or.inr (KK.out _ E72.out)) ?_
          clear hKQ KQ
          (try simp only [Act.put, List.setIfInBounds_toArray, List.set_cons_zero, List.set_cons_succ])
          refine Goes.all (rs := [12]) (by kernel_rfl) (by simp) ?_
          refine Ups.cons (i := 12) (o := ?oo87) ?ho87 (fun KQ hKQ => ?stp87) Ups.nil
          case ho87 => (simp only [List.getElem?_toArray, List.getElem?_cons_succ, List.getElem?_cons_zero] <;> rfl)
          case stp87 =>
          go_simp
          go_at_call 18
          refine (sSome sb a len cap zs _ p5 _ S72.out (HR.out _ (D.out.trans E72.out)) hl1 (by omega) (by omega) (by omega)).mono ?_
          rintro e v73 ⟨lv, rfl, ld, ob, hl9, dr73, sr73⟩
          have E74 : Hid (Dr sb w3 v73) := E72.out.trans dr73
          have S74 : Hid (Src v73 sb (.slice a len cap) (0 + 1000 + 1 + 1 + 1 + 1 + 27)) := sr73
          have ra74 : Hid (Dr sb v65 v73) := ra72.out.trans dr73
          have rb74 : Hid (Dr sb v67 v73) := rb72.out.trans dr73
          have OB0 : Hid (OB v73 v71.heap.size lv ld ∧ sb < v71.heap.size) := ⟨ob, by have := E72.out.size; omega⟩
          have ZB : Hid (Dr sb v73 v73) := Dr.refl _ _
          have HL9 : Hid (ld.length ≤ 9) := hl9
          clear hl9
          clear dr73 sr73 ob
          dsimp only
          refine hKQ.out _ _ (Or.inr (KK.out _ E74.out)) ?_
          clear hKQ KQ
          (try simp only [Act.put, List.setIfInBounds_toArray, List.set_cons_zero, List.set_cons_succ])
          refine Goes.all (rs := [15]) (by kernel_rfl) (by simp) ?_
          refine Ups.cons (i := 15) (o := ?oo88) ?ho88 (fun KQ hKQ => ?stp88) Ups.nil
          case ho88 => (simp only [List.getElem?_toArray, List.getElem?_cons_succ, List.getElem?_cons_zero] <;> rfl)
          case stp88 =>
          go_simp
          go_at_call 17
          refine (sNext sb a len cap zs _ 30 _ S74.out (HR.out _ (D.out.trans E74.out)) hl1 (by omega) (by omega)).mono ?_
          rintro e v75 ⟨x8, rfl, hb0x8, hb1x8, st75, sr75⟩
          have HBx8 : Hid (0 ≤ x8 ∧ x8 ≤ 1000) := ⟨by omega, by omega⟩
          clear hb0x8 hb1x8
          have E76 : Hid (Dr sb w3 v75) := E74.out.trans st75.dr
          have S76 : Hid (Src v75 sb (.slice a len cap) (0 + 1000 + 1 + 1 + 1 + 1 + 27 + 1)) := sr75
          have ra76 : Hid (Dr sb v65 v75) := ra74.out.trans st75.dr
          have rb76 : Hid (Dr sb v67 v75) := rb74.out.trans st75.dr
          have ZB76 : Hid (Dr sb v73 v75) := ZB.out.trans st75.dr
          clear st75 sr75
          dsimp only
          refine hKQ.out _ _ (Or.inr (KK.out _ E76.out)) ?_
          clear hKQ KQ
          (try simp only [Act.put, List.setIfInBounds_toArray, List.set_cons_zero, List.set_cons_succ])
          refine Goes.all (rs := [17]) (by kernel_rfl) (by simp) ?_
          refine Ups.cons (i := 17) (o := ?oo89) ?ho89 (fun KQ hKQ => ?stp89) Ups.nil
          case ho89 => (simp only [List.getElem?_toArray, List.getElem?_cons_succ, List.getElem?_cons_zero] <;> rfl)
          case stp89 =>
          go_simp
          go_at_call 17
          refine (sNext sb a len cap zs _ 30 _ S76.out (HR.out _ (D.out.trans E76.out)) hl1 (by omega) (by omega)).mono ?_
          rintro e v77 ⟨x9, rfl, hb0x9, hb1x9, st77, sr77⟩
          have HBx9 : Hid (0 ≤ x9 ∧ x9 ≤ 1000) := ⟨by omega, by omega⟩
          clear hb0x9 hb1x9
          have E78 : Hid (Dr sb w3 v77) := E76.out.trans st77.dr
          have S78 : Hid (Src v77 sb (.slice a len cap) (0 + 1000 + 1 + 1 + 1 + 1 + 27 + 1 + 1)) := sr77
          have ra78 : Hid (Dr sb v65 v77) := ra76.out.trans st77.dr
          have rb78 : Hid (Dr sb v67 v77) := rb76.out.trans st77.dr
          have ZB78 : Hid (Dr sb v73 v77) := ZB76.out.trans st77.dr
          clear st77 sr77
          dsimp only
          refine hKQ.out _ _ (Or.inr (KK.out _ E78.out)) ?_
          clear hKQ KQ
          (try simp only [Act.put, List.setIfInBounds_toArray, List.set_cons_zero, List.set_cons_succ])
          refine Goes.all (rs := [18]) (by kernel_rfl) (by simp) ?_
          refine Ups.cons (i := 18) (o := ?oo90) ?ho90 (fun KQ hKQ => ?stp90) Ups.nil
          case ho90 => (simp only [List.getElem?_toArray, List.getElem?_cons_succ, List.getElem?_cons_zero] <;> rfl)
          case stp90 =>
          go_simp
          obtain ⟨v79, hv79⟩ : ∃ v, v = v77.alloc (.cells #[.int .i64 x8, .int .i64 x9, .int .i64 (-1)] 2) := ⟨_, rfl⟩
          rw [← hv79]
          have b79 : Below v77.heap.size v77 v79 := by rw [hv79]; exact (Below.refl _ _).alloc (Nat.le_refl _) _
          have crc : Hid (∀ W, Dr sb v79 W → ∀ i, i < ([x8, x9, (-1)] : List Int).length → W.cell? ⟨v77.heap.size, i, none⟩ = some (.int .i64 (([x8, x9, (-1)] : List Int).getD i 0))) := fun W hW i hi => (hW.cell (p := ⟨v77.heap.size, i, none⟩) (by rw [hv79]; simp) (by have := E78.out.size; dsimp only; omega)).trans (by rw [hv79]; exact laid_list v77 [x8, x9, (-1)] 2 i hi)
          have E80 : Hid (Dr sb w3 v79) := E78.out.trans ((Dr.refl sb v77).then b79 (Nat.le_refl _))
          have S80 : Hid (Src v79 sb (.slice a len cap) (0 + 1000 + 1 + 1 + 1 + 1 + 27 + 1 + 1)) := S78.out.bel b79
          have ra80 : Hid (Dr sb v65 v79) := ra78.out.trans ((Dr.refl sb v77).then b79 (Nat.le_refl _))
          have rb80 : Hid (Dr sb v67 v79) := rb78.out.trans ((Dr.refl sb v77).then b79 (Nat.le_refl _))
          have ZB80 : Hid (Dr sb v73 v79) := ZB78.out.trans ((Dr.refl sb v77).then b79 (Nat.le_refl _))
          have rc79z : Hid (Dr sb v79 v79) := Dr.refl _ _
          have grc : v77.heap.size ≠ sb := by have := E78.out.size; omega
          clear hv79 b79
          refine hKQ.out _ _ (Or.inr (KK.out _ E80.out)) ?_
          clear hKQ KQ
          (try simp only [Act.put, List.setIfInBounds_toArray, List.set_cons_zero, List.set_cons_succ])
          refine Goes.all (rs := [19]) (by kernel_rfl) (by simp) ?_
          refine Ups.cons (i := 19) (o := ?oo91) ?ho91 (fun KQ hKQ => ?stp91) Ups.nil
          case ho91 => (simp only [List.getElem?_toArray, List.getElem?_cons_succ, List.getElem?_cons_zero] <;> rfl)
          case stp91 =>
          go_simp
          go_at_call 16
          refine (HPK.out _ (v77.heap.size) [x8, x9, (-1)] _ E80.out S80.out (by omega) grc (by simp) (by simp) (crc.out _ rc79z.out)).mono ?_
          rintro e v81 ⟨q9, rfl, hmq9, dr81, sr81⟩
          have HBq9 : Hid (-1000 ≤ q9 ∧ q9 ≤ 1000) := by
            simp only [List.mem_cons, List.not_mem_nil, or_false] at hmq9
            have := HBx8.out
            have := HBx9.out
            show _ ∧ _
            omega
          clear hmq9
          have E82 : Hid (Dr sb w3 v81) := E80.out.trans dr81
          have S82 : Hid (Src v81 sb (.slice a len cap) (0 + 1000 + 1 + 1 + 1 + 1 + 27 + 1 + 1 + 1)) := sr81
          have ra82 : Hid (Dr sb v65 v81) := ra80.out.trans dr81
          have rb82 : Hid (Dr sb v67 v81) := rb80.out.trans dr81
          have ZB82 : Hid (Dr sb v73 v81) := ZB80.out.trans dr81
          have rc82 : Hid (Dr sb v79 v81) := rc79z.out.trans dr81
          clear dr81 sr81
          dsimp only
          refine hKQ.out _ _ (Or.inr (KK.out _ E82.out)) ?_
          clear hKQ KQ
          (try simp only [Act.put, List.setIfInBounds_toArray, List.set_cons_zero, List.set_cons_succ])
          refine Goes.all (rs := [20]) (by kernel_rfl) (by simp) ?_
          refine Ups.cons (i := 20) (o := ?oo92) ?ho92 (fun KQ hKQ => ?stp92) Ups.nil
          case ho92 => (simp only [List.getElem?_toArray, List.getElem?_cons_succ, List.getElem?_cons_zero] <;> rfl)
          case stp92 =>
          rw [if_pos (by rfl)]
          obtain ⟨kR8, fR8⟩ := HKR.out _ E82.out
          refine wp_store_mid 26 _ _ rfl _ _ NN (by rfl) (by rw [HNN.out]; rfl) (bx_there kR8 fR8 (by rw [HNZ.out]; rfl)) HNI.out HNO.out ?_
          refine hKQ.out _ _ (Or.inr (bx_setOff (KK.out _ E82.out) hcr)) ?_
          clear hKQ KQ
          (try simp only [Act.put, List.setIfInBounds_toArray, List.set_cons_zero, List.set_cons_succ])
          refine Goes.take (i := 21) (oi := ?oi94) (x := ?vx94) ?ho94 (by kernel_rfl) (by kernel_rfl) (by kernel_rfl) (by kernel_rfl) (fun _ _ _ h => h) (Or.inl ⟨?hw94, ?hy94⟩) (bx_setOff (KK.out _ E82.out) hcr) ?rest94
          case ho94 => (simp only [List.getElem?_toArray, List.getElem?_cons_succ, List.getElem?_cons_zero] <;> rfl)
          case hw94 => rfl
          case hy94 => (intro w' hSw; have j0 := hSw; go_simp; (try with_reducible rfl))
          case rest94 =>
          (try simp only [Act.put, List.setIfInBounds_toArray, List.set_cons_zero, List.set_cons_succ])
          refine Goes.take (i := 22) (oi := ?oi95) (x := ?vx95) ?ho95 (by kernel_rfl) (by kernel_rfl) (by kernel_rfl) (by kernel_rfl) (fun _ _ _ h => h) (Or.inl ⟨?hw95, ?hy95⟩) (bx_setOff (KK.out _ E82.out) hcr) ?rest95
          case ho95 => (simp only [List.getElem?_toArray, List.getElem?_cons_succ, List.getElem?_cons_zero] <;> rfl)
          case hw95 => rfl
          case hy95 => (intro w' hSw; have j0 := hSw; go_simp; (try with_reducible rfl))
          case rest95 =>
          (try simp only [Act.put, List.setIfInBounds_toArray, List.set_cons_zero, List.set_cons_succ])
          refine Goes.take (i := 23) (oi := ?oi96) (x := ?vx96) ?ho96 (by kernel_rfl) (by kernel_rfl) (by kernel_rfl) (by kernel_rfl) (fun _ _ _ h => h) (Or.inl ⟨?hw96, ?hy96⟩) (bx_setOff (KK.out _ E82.out) hcr) ?rest96
          case ho96 => (simp only [List.getElem?_toArray, List.getElem?_cons_succ, List.getElem?_cons_zero] <;> rfl)
          case hw96 => rfl
          case hy96 => (intro w' hSw; have j0 := hSw; go_simp; (try with_reducible rfl))
          case rest96 =>
          (try simp only [Act.put, List.setIfInBounds_toArray, List.set_cons_zero, List.set_cons_succ])
          refine Goes.done (by kernel_rfl) ?_ _
          refine NoPanic.normal ?_
          obtain ⟨WZ, hWZ, kZ, BZ0, YZ0, OZ0, hzz⟩ := pushEnd (NN := NN) kR8 HNN.out HNZ.out B1.out D.out E82.out hws hwW hsW ZB82.out OB0.out.1 OB0.out.2
          rw [hWZ]
          clear hWZ kR8 fR8
          have BZ : Hid _ := BZ0
          have YZ : Hid _ := YZ0
          have OZ : Hid _ := OZ0
          clear BZ0 YZ0 OZ0
          go_wp2_with fail
          obtain ⟨e0, e1, e2, e3⟩ := HY.out
          refine bodyPost_ret (v := .tuple #[.agg #[.int .i64 y0, .int .i64 y1, .int .i64 y2, .slice va vn vc], .int .i64 q7, lv, .int .i64 q9]) (by simp [results, Try.results5, go_sem, kZ]) rfl ⟨x, .slice va vn vc, lv, ld, q7, q9, by rw [e0, e1, e2], ?_, OZ.out, HL9.out, HBq7.out, HBq9.out, HT.out, BZ.out⟩
          rw [e0, e1, e2]
          exact HSy.out _ YZ.out hzz
        case stp83 =>
          go_simp
          go_at_call 16
          refine (HPK.out _ (v45.heap.size) [x4, x5, 399, (-1)] _ E66.out S66.out (by omega) gra (by simp) (by simp) (cra.out _ ra65z.out)).mono ?_
          rintro e v83 ⟨q7, rfl, hmq7, dr83, sr83⟩
          have HBq7 : Hid (-1000 ≤ q7 ∧ q7 ≤ 1000) := by
            simp only [List.mem_cons, List.not_mem_nil, or_false] at hmq7
            have := HBx4.out
            have := HBx5.out
            show _ ∧ _
            omega
          clear hmq7
          have E84 : Hid (Dr sb w3 v83) := E66.out.trans dr83
          have S84 : Hid (Src v83 sb (.slice a len cap) (0 + 1000 + 1 + 1 + 1)) := sr83
          have ra84 : Hid (Dr sb v65 v83) := ra65z.out.trans dr83
          clear dr83 sr83
          dsimp only
          refine hKQ.out _ _ (Or.inr (KK.out _ E84.out)) ?_
          clear hKQ KQ
          (try simp only [Act.put, List.setIfInBounds_toArray, List.set_cons_zero, List.set_cons_succ])
          refine Goes.all (rs := [10]) (by kernel_rfl) (by simp) ?_
          refine Ups.cons (i := 10) (o := ?oo102) ?ho102 (fun KQ hKQ => ?stp102) Ups.nil
          case ho102 => (simp only [List.getElem?_toArray, List.getElem?_cons_succ, List.getElem?_cons_zero] <;> rfl)
          case stp102 =>
          go_simp
          obtain ⟨v85, hv85⟩ : ∃ v, v = v83.alloc (.cells #[.int .i64 1, .int .i64 4, .int .i64 8, .int .i64 9, .int .i64 0] 2) := ⟨_, rfl⟩
          rw [← hv85]
          have b85 : Below v83.heap.size v83 v85 := by rw [hv85]; exact (Below.refl _ _).alloc (Nat.le_refl _) _
          have crb : Hid (∀ W, Dr sb v85 W → ∀ i, i < ([1, 4, 8, 9, 0] : List Int).length → W.cell? ⟨v83.heap.size, i, none⟩ = some (.int .i64 (([1, 4, 8, 9, 0] : List Int).getD i 0))) := fun W hW i hi => (hW.cell (p := ⟨v83.heap.size, i, none⟩) (by rw [hv85]; simp) (by have := E84.out.size; dsimp only; omega)).trans (by rw [hv85]; exact laid_list v83 [1, 4, 8, 9, 0] 2 i hi)
          have E86 : Hid (Dr sb w3 v85) := E84.out.trans ((Dr.refl sb v83).then b85 (Nat.le_refl _))
          have S86 : Hid (Src v85 sb (.slice a len cap) (0 + 1000 + 1 + 1 + 1)) := S84.out.bel b85
          have ra86 : Hid (Dr sb v65 v85) := ra84.out.trans ((Dr.refl sb v83).then b85 (Nat.le_refl _))
          have rb85z : Hid (Dr sb v85 v85) := Dr.refl _ _
          have grb : v83.heap.size ≠ sb := by have := E84.out.size; omega
          clear hv85 b85
          refine hKQ.out _ _ (Or.inr (KK.out _ E86.out)) ?_
          clear hKQ KQ
          (try simp only [Act.put, List.setIfInBounds_toArray, List.set_cons_zero, List.set_cons_succ])
          refine Goes.all (rs := [11]) (by kernel_rfl) (by simp) ?_
          refine Ups.cons (i := 11) (o := ?oo103) ?ho103 (fun KQ hKQ => ?stp103) Ups.nil
          case ho103 => (simp only [List.getElem?_toArray, List.getElem?_cons_succ, List.getElem?_cons_zero] <;> rfl)
          case stp103 =>
          go_simp
          go_at_call 16
          refine (HPK.out _ (v83.heap.size) [1, 4, 8, 9, 0] _ E86.out S86.out (by omega) grb (by simp) (by simp) (crb.out _ rb85z.out)).mono ?_
          rintro e v87 ⟨p5, rfl, hmp5, dr87, sr87⟩
          simp only [List.mem_cons, List.not_mem_nil, or_false] at hmp5
          have hp50 : 0 ≤ p5 := by omega
          have hp59 : p5 ≤ 9 := by omega
          clear hmp5
          have E88 : Hid (Dr sb w3 v87) := E86.out.trans dr87
          have S88 : Hid (Src v87 sb (.slice a len cap) (0 + 1000 + 1 + 1 + 1 + 1)) := sr87
          have ra88 : Hid (Dr sb v65 v87) := ra86.out.trans dr87
          have rb88 : Hid (Dr sb v85 v87) := rb85z.out.trans dr87
          clear dr87 sr87
          dsimp only
          refine hKQ.out _ _ (Or.inr (KK.out _ E88.out)) ?_
          clear hKQ KQ
          (try simp only [Act.put, List.setIfInBounds_toArray, List.set_cons_zero, List.set_cons_succ])
          refine Goes.all (rs := [12]) (by kernel_rfl) (by simp) ?_
          refine Ups.cons (i := 12) (o := ?oo104) ?ho104 (fun KQ hKQ => ?stp104) Ups.nil
          case ho104 => (simp only [List.getElem?_toArray, List.getElem?_cons_succ, List.getElem?_cons_zero] <;> rfl)
          case stp104 =>
          go_simp
          go_at_call 18
          refine (sSome sb a len cap zs _ p5 _ S88.out (HR.out _ (D.out.trans E88.out)) hl1 (by omega) (by omega) (by omega)).mono ?_
          rintro e v89 ⟨lv, rfl, ld, ob, hl9, dr89, sr89⟩
          have E90 : Hid (Dr sb w3 v89) := E88.out.trans dr89
          have S90 : Hid (Src v89 sb (.slice a len cap) (0 + 1000 + 1 + 1 + 1 + 1 + 27)) := sr89
          have ra90 : Hid (Dr sb v65 v89) := ra88.out.trans dr89
          have rb90 : Hid (Dr sb v85 v89) := rb88.out.trans dr89
          have OB0 : Hid (OB v89 v87.heap.size lv ld ∧ sb < v87.heap.size) := ⟨ob, by have := E88.out.size; omega⟩
          have ZB : Hid (Dr sb v89 v89) := Dr.refl _ _
          have HL9 : Hid (ld.length ≤ 9) := hl9
          clear hl9
          clear dr89 sr89 ob
          dsimp only
          refine hKQ.out _ _ (Or.inr (KK.out _ E90.out)) ?_
          clear hKQ KQ
          (try simp only [Act.put, List.setIfInBounds_toArray, List.set_cons_zero, List.set_cons_succ])
          refine Goes.all (rs := [15]) (by kernel_rfl) (by simp) ?_
          refine Ups.cons (i := 15) (o := ?oo105) ?ho105 (fun KQ hKQ => ?stp105) Ups.nil
          case ho105 => (simp only [List.getElem?_toArray, List.getElem?_cons_succ, List.getElem?_cons_zero] <;> rfl)
          case stp105 =>
          go_simp
          go_at_call 17
          refine (sNext sb a len cap zs _ 30 _ S90.out (HR.out _ (D.out.trans E90.out)) hl1 (by omega) (by omega)).mono ?_
          rintro e v91 ⟨x8, rfl, hb0x8, hb1x8, st91, sr91⟩
          have HBx8 : Hid (0 ≤ x8 ∧ x8 ≤ 1000) := ⟨by omega, by omega⟩
          clear hb0x8 hb1x8
          have E92 : Hid (Dr sb w3 v91) := E90.out.trans st91.dr
          have S92 : Hid (Src v91 sb (.slice a len cap) (0 + 1000 + 1 + 1 + 1 + 1 + 27 + 1)) := sr91
          have ra92 : Hid (Dr sb v65 v91) := ra90.out.trans st91.dr
          have rb92 : Hid (Dr sb v85 v91) := rb90.out.trans st91.dr
          have ZB92 : Hid (Dr sb v89 v91) := ZB.out.trans st91.dr
          clear st91 sr91
          dsimp only
          refine hKQ.out _ _ (Or.inr (KK.out _ E92.out)) ?_
          clear hKQ KQ
          (try simp only [Act.put, List.setIfInBounds_toArray, List.set_cons_zero, List.set_cons_succ])
          refine Goes.all (rs := [17]) (by kernel_rfl) (by simp) ?_
          refine Ups.cons (i := 17) (o := ?oo106) ?ho106 (fun KQ hKQ => ?stp106) Ups.nil
          case ho106 => (simp only [List.getElem?_toArray, List.getElem?_cons_succ, List.getElem?_cons_zero] <;> rfl)
          case stp106 =>
          go_simp
          go_at_call 17
          refine (sNext sb a len cap zs _ 30 _ S92.out (HR.out _ (D.out.trans E92.out)) hl1 (by omega) (by omega)).mono ?_
          rintro e v93 ⟨x9, rfl, hb0x9, hb1x9, st93, sr93⟩
          have HBx9 : Hid (0 ≤ x9 ∧ x9 ≤ 1000) := ⟨by omega, by omega⟩
          clear hb0x9 hb1x9
          have E94 : Hid (Dr sb w3 v93) := E92.out.trans st93.dr
          have S94 : Hid (Src v93 sb (.slice a len cap) (0 + 1000 + 1 + 1 + 1 + 1 + 27 + 1 + 1)) := sr93
          have ra94 : Hid (Dr sb v65 v93) := ra92.out.trans st93.dr
          have rb94 : Hid (Dr sb v85 v93) := rb92.out.trans st93.dr
          have ZB94 : Hid (Dr sb v89 v93) := ZB92.out.trans st93.dr
          clear st93 sr93
          dsimp only
          refine hKQ.out _ _ (Or.inr (KK.out _ E94.out)) ?_
          clear hKQ KQ
          (try simp only [Act.put, List.setIfInBounds_toArray, List.set_cons_zero, List.set_cons_succ])
          refine Goes.all (rs := [18]) (by kernel_rfl) (by simp) ?_
          refine Ups.cons (i := 18) (o := ?oo107) ?ho107 (fun KQ hKQ => ?stp107) Ups.nil
          case ho107 => (simp only [List.getElem?_toArray, List.getElem?_cons_succ, List.getElem?_cons_zero] <;> rfl)
          case stp107 =>
          go_simp
          obtain ⟨v95, hv95⟩ : ∃ v, v = v93.alloc (.cells #[.int .i64 x8, .int .i64 x9, .int .i64 (-1)] 2) := ⟨_, rfl⟩
          rw [← hv95]
          have b95 : Below v93.heap.size v93 v95 := by rw [hv95]; exact (Below.refl _ _).alloc (Nat.le_refl _) _
          have crc : Hid (∀ W, Dr sb v95 W → ∀ i, i < ([x8, x9, (-1)] : List Int).length → W.cell? ⟨v93.heap.size, i, none⟩ = some (.int .i64 (([x8, x9, (-1)] : List Int).getD i 0))) := fun W hW i hi => (hW.cell (p := ⟨v93.heap.size, i, none⟩) (by rw [hv95]; simp) (by have := E94.out.size; dsimp only; omega)).trans (by rw [hv95]; exact laid_list v93 [x8, x9, (-1)] 2 i hi)
          have E96 : Hid (Dr sb w3 v95) := E94.out.trans ((Dr.refl sb v93).then b95 (Nat.le_refl _))
          have S96 : Hid (Src v95 sb (.slice a len cap) (0 + 1000 + 1 + 1 + 1 + 1 + 27 + 1 + 1)) := S94.out.bel b95
          have ra96 : Hid (Dr sb v65 v95) := ra94.out.trans ((Dr.refl sb v93).then b95 (Nat.le_refl _))
          have rb96 : Hid (Dr sb v85 v95) := rb94.out.trans ((Dr.refl sb v93).then b95 (Nat.le_refl _))
          have ZB96 : Hid (Dr sb v89 v95) := ZB94.out.trans ((Dr.refl sb v93).then b95 (Nat.le_refl _))
          have rc95z : Hid (Dr sb v95 v95) := Dr.refl _ _
          have grc : v93.heap.size ≠ sb := by have := E94.out.size; omega
          clear hv95 b95
          refine hKQ.out _ _ (Or.inr (KK.out _ E96.out)) ?_
          clear hKQ KQ
          (try simp only [Act.put, List.setIfInBounds_toArray, List.set_cons_zero, List.set_cons_succ])
          refine Goes.all (rs := [19]) (by kernel_rfl) (by simp) ?_
          refine Ups.cons (i := 19) (o := ?oo108) ?ho108 (fun KQ hKQ => ?stp108) Ups.nil
          case ho108 => (simp only [List.getElem?_toArray, List.getElem?_cons_succ, List.getElem?_cons_zero] <;> rfl)
          case stp108 =>
          go_simp
          go_at_call 16
          refine (HPK.out _ (v93.heap.size) [x8, x9, (-1)] _ E96.out S96.out (by omega) grc (by simp) (by simp) (crc.out _ rc95z.out)).mono ?_
          rintro e v97 ⟨q9, rfl, hmq9, dr97, sr97⟩
          have HBq9 : Hid (-1000 ≤ q9 ∧ q9 ≤ 1000) := by
            simp only [List.mem_cons, List.not_mem_nil, or_false] at hmq9
            have := HBx8.out
            have := HBx9.out
            show _ ∧ _
            omega
          clear hmq9
          have E98 : Hid (Dr sb w3 v97) := E96.out.trans dr97
          have S98 : Hid (Src v97 sb (.slice a len cap) (0 + 1000 + 1 + 1 + 1 + 1 + 27 + 1 + 1 + 1)) := sr97
          have ra98 : Hid (Dr sb v65 v97) := ra96.out.trans dr97
          have rb98 : Hid (Dr sb v85 v97) := rb96.out.trans dr97
          have ZB98 : Hid (Dr sb v89 v97) := ZB96.out.trans dr97
          have rc98 : Hid (Dr sb v95 v97) := rc95z.out.trans dr97
          clear dr97 sr97
          dsimp only
          refine hKQ.out _ _ (Or.inr (KK.out _ E98.out)) ?_
          clear hKQ KQ
          (try simp only [Act.put, List.setIfInBounds_toArray, List.set_cons_zero, List.set_cons_succ])
          refine Goes.all (rs := [20]) (by kernel_rfl) (by simp) ?_
          refine Ups.cons (i := 20) (o := ?oo109) ?ho109 (fun KQ hKQ => ?stp109) Ups.nil
          case ho109 => (simp only [List.getElem?_toArray, List.getElem?_cons_succ, List.getElem?_cons_zero] <;> rfl)
          case stp109 =>
          rw [if_pos (by rfl)]
          obtain ⟨kR8, fR8⟩ := HKR.out _ E98.out
          refine wp_store_mid 26 _ _ rfl _ _ NN (by rfl) (by rw [HNN.out]; rfl) (bx_there kR8 fR8 (by rw [HNZ.out]; rfl)) HNI.out HNO.out ?_
          refine hKQ.out _ _ (Or.inr (bx_setOff (KK.out _ E98.out) hcr)) ?_
          clear hKQ KQ
          (try simp only [Act.put, List.setIfInBounds_toArray, List.set_cons_zero, List.set_cons_succ])
          refine Goes.take (i := 21) (oi := ?oi111) (x := ?vx111) ?ho111 (by kernel_rfl) (by kernel_rfl) (by kernel_rfl) (by kernel_rfl) (fun _ _ _ h => h) (Or.inl ⟨?hw111, ?hy111⟩) (bx_setOff (KK.out _ E98.out) hcr) ?rest111
          case ho111 => (simp only [List.getElem?_toArray, List.getElem?_cons_succ, List.getElem?_cons_zero] <;> rfl)
          case hw111 => rfl
          case hy111 => (intro w' hSw; have j0 := hSw; go_simp; (try with_reducible rfl))
          case rest111 =>
          (try simp only [Act.put, List.setIfInBounds_toArray, List.set_cons_zero, List.set_cons_succ])
          refine Goes.take (i := 22) (oi := ?oi112) (x := ?vx112) ?ho112 (by kernel_rfl) (by kernel_rfl) (by kernel_rfl) (by kernel_rfl) (fun _ _ _ h => h) (Or.inl ⟨?hw112, ?hy112⟩) (bx_setOff (KK.out _ E98.out) hcr) ?rest112
          case ho112 => (simp only [List.getElem?_toArray, List.getElem?_cons_succ, List.getElem?_cons_zero] <;> rfl)
          case hw112 => rfl
          case hy112 => (intro w' hSw; have j0 := hSw; go_simp; (try with_reducible rfl))
          case rest112 =>
          (try simp only [Act.put, List.setIfInBounds_toArray, List.set_cons_zero, List.set_cons_succ])
          refine Goes.take (i := 23) (oi := ?oi113) (x := ?vx113) ?ho113 (by kernel_rfl) (by kernel_rfl) (by kernel_rfl) (by kernel_rfl) (fun _ _ _ h => h) (Or.inl ⟨?hw113, ?hy113⟩) (bx_setOff (KK.out _ E98.out) hcr) ?rest113
          case ho113 => (simp only [List.getElem?_toArray, List.getElem?_cons_succ, List.getElem?_cons_zero] <;> rfl)
          case hw113 => rfl
          case hy113 => (intro w' hSw; have j0 := hSw; go_simp; (try with_reducible rfl))
          case rest113 =>
          (try simp only [Act.put, List.setIfInBounds_toArray, List.set_cons_zero, List.set_cons_succ])
          refine Goes.done (by kernel_rfl) ?_ _
          refine NoPanic.normal ?_
          obtain ⟨WZ, hWZ, kZ, BZ0, YZ0, OZ0, hzz⟩ := pushEnd (NN := NN) kR8 HNN.out HNZ.out B1.out D.out E98.out hws hwW hsW ZB98.out OB0.out.1 OB0.out.2
          rw [hWZ]
          clear hWZ kR8 fR8
          have BZ : Hid _ := BZ0
          have YZ : Hid _ := YZ0
          have OZ : Hid _ := OZ0
          clear BZ0 YZ0 OZ0
          go_wp2_with fail
          obtain ⟨e0, e1, e2, e3⟩ := HY.out
          refine bodyPost_ret (v := .tuple #[.agg #[.int .i64 y0, .int .i64 y1, .int .i64 y2, .slice va vn vc], .int .i64 q7, lv, .int .i64 q9]) (by simp [results, Try.results5, go_sem, kZ]) rfl ⟨x, .slice va vn vc, lv, ld, q7, q9, by rw [e0, e1, e2], ?_, OZ.out, HL9.out, HBq7.out, HBq9.out, HT.out, BZ.out⟩
          rw [e0, e1, e2]
          exact HSy.out _ YZ.out hzz
end Go.Proofs.Yteaddhldleeaiaa
