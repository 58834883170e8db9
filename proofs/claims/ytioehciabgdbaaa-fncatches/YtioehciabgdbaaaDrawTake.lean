/- What the draw for TakeSpan gives: some catch that can be read, a place and a size; nothing that was in memory turns; no condition. Written by mkdrtake.py. -/
import Derived.Deep.RegionHeld3
import Derived.Deep.DeepCutAuto
import Derived.Deep.DeepMust
import Derived.Deep.MidRow
import Derived.Test.YtioehciabgdbaaaRows
import Derived.Test.YtioehciabgdbaaaBase
import Derived.Test.YtioehciabgdbaaaMem
import Derived.Test.YtioehciabgdbaaaMemOpen
import Derived.Test.YtioehciabgdbaaaHBase
import Derived.Test.YtioehciabgdbaaaHSpan
import Derived.Test.YtioehciabgdbaaaHCatch
import Derived.Test.YtioehciabgdbaaaMSpan
import Derived.Test.YtioehciabgdbaaaMCatch
import Derived.Test.YtioehciabgdbaaaSpanRow
import Derived.Test.YtioehciabgdbaaaCatSpare
import Derived.Test.YtioehciabgdbaaaCatDef
import Derived.Test.YtioehciabgdbaaaCatFacts
import Derived.Test.YtioehciabgdbaaaCatTakeT
import Derived.Test.YtioehciabgdbaaaRegionU
import Derived.Test.YtioehciabgdbaaaDraws
import Derived.Test.YtioehciabgdbaaaDrawsD
import Derived.Test.YtioehciabgdbaaaDrawCat0
import Derived.Test.YtioehciabgdbaaaDrawCatL
namespace Go.Proofs.Ytioehciabgdbaaa
open Go.RowKit
set_option linter.unusedVariables false
set_option linter.unusedSimpArgs false
set_option maxRecDepth 8000

theorem takeEnd {w W1 w3 w4 V : World} {sb n vc : Nat} {va : Option Addr} {x : DCatch} {NN N4 : Array Value}
    (kR : ∀ o, V.cell? ⟨w.heap.size, o, none⟩ = (#[.int .i64 0, .int .i64 0, .slice none 0 0] : Array Value)[o]?) (hN : NN = N4) (hz : NN.size = 3)
    (B1 : Below w.heap.size w W1) (D : Dr sb W1 w3) (D4 : Dr sb w3 w4) (E : Dr sb w4 V) (h1 : w.heap.size ≤ sb) (h2 : w.heap.size < W1.heap.size) (h3 : sb < W1.heap.size) (hF : FC w4 (W1.heap.size + 1) x va n vc) :
    ∃ WZ, V.setCells w.heap.size 0 NN.toList = WZ ∧ (∀ o, WZ.cell? ⟨w.heap.size, o, none⟩ = N4[o]?) ∧ Below w.heap.size w WZ ∧ FC WZ 0 x va n vc := by
  subst hN
  refine ⟨_, rfl, bx_setCells kR (A' := NN) (by rw [hz]; rfl), setCells_below (Nat.le_refl _) _ _ _ _ (B1.trans ((((D.trans D4).trans E).below (Nat.le_of_lt h3)).mono h1)), ?_⟩
  exact (hF.keep fun g g1 g2 => (setCells_block (by omega) _ _ _).trans (E.block g g2 (by omega))).low (Nat.zero_le _)
set_option maxHeartbeats 8000000 in
theorem dTake (a : Option Addr) (len cap : Nat) (zs : List Int) (w : World) (hr : BRow .u8 w a len cap zs) (hl : RowLt w.heap.size a zs) :
    Calls Try.prog 29 #[.slice a len cap] w fun e w' => ∃ (x : DCatch) (va : Option Addr) (n vc : Nat) (at' sz : Int), e = .returned (.tuple #[.agg #[.int .i64 x.1, .int .i64 x.2.1, .slice va n vc], .int .i64 at', .int .i64 sz]) ∧ FC w' 0 x va n vc ∧ (-1000 ≤ at' ∧ at' ≤ 3000000) ∧ (0 ≤ sz ∧ sz ≤ 101) ∧ Below w.heap.size w w' := by
  go_enter Try.func29, Try.ntmps29
  go_wp2_with fail
  obtain ⟨W0, hW0⟩ : ∃ W0, w.alloc (.cells #[.int .i64 0, .int .i64 0, .slice none 0 0] 57) = W0 := ⟨_, rfl⟩
  have b0 : Below w.heap.size w W0 := by rw [← hW0]; exact (Below.refl _ _).alloc (Nat.le_refl _) _
  have kR : ∀ o, W0.cell? ⟨w.heap.size, o, none⟩ = (#[.int .i64 0, .int .i64 0, .slice none 0 0] : Array Value)[o]? := by rw [← hW0]; intro o; simp [go_sem]
  have fR : ∀ o, W0.frozen? ⟨w.heap.size, o, none⟩ = false := by rw [← hW0]; intro o; simp [go_sem]
  have z0 : W0.heap.size = w.heap.size + 1 := by rw [← hW0]; simp
  simp only [hW0, ← z0]
  clear hW0
  have r0 := hr.below hl b0
  clear hr hl
  refine (sSource _ _ _ _).mono ?_
  rintro e W1 ⟨rfl, hW1⟩
  obtain ⟨s1, r1, b1⟩ := draw_start 160 r0 r0.lt
  rw [← hW1] at s1 r1 b1
  clear hW1
  generalize hsb : W0.heap.size = sb at *
  have zR : w.heap.size < sb := by omega
  have hne : w.heap.size ≠ sb := by omega
  replace kR := fun o => (b1.cell (p := ⟨w.heap.size, o, none⟩) (by dsimp only; omega)).trans (kR o)
  replace fR := fun o => (b1.frozen (p := ⟨w.heap.size, o, none⟩) (by dsimp only; omega)).trans (fR o)
  have B1 : Hid (Below w.heap.size w W1) := b0.trans (b1.mono (by omega))
  have hl1 := r0.lt
  rw [hsb] at hl1
  have zs1 := s1.lt
  have HR : Hid (∀ W, Dr sb W1 W → BRow .u8 W a len cap zs) := fun W h => r1.below hl1 (h.below (Nat.le_of_lt zs1))
  have S : Hid _ := s1
  clear b0 b1 r0 r1 hsb z0 s1
  go_wp2_with fail
  refine (sCatch7 sb a len cap zs _ W1 S.out (HR.out _ (Dr.refl _ _)) hl1 (by omega) (by omega)).mono ?_
  rintro e w2 ⟨⟨y0, y1, L, ⟨⟩⟩, va, n, vc, rfl, hF, dd, s2⟩
  dsimp only
  have hy0 : -1 ≤ y0 ∧ y0 ≤ 65536 := hF.w0
  have hy1 : -1 ≤ y1 ∧ y1 ≤ 2000000 := hF.w1
  have hz2 := dd.size
  have hr2 := bx_drC kR dd (by omega) hne
  have hf2 := fx_drC fR dd (by omega) hne
  have D : Hid (Dr sb W1 w2) := dd
  have HF2 : Hid (FC w2 (W1.heap.size + 1) (y0, y1, L, ()) va n vc) := hF
  clear hF dd S kR fR
  go_upto_region 3 with fail
  have k6 : ∀ o, (w2.alloc (.cells #[.int .i64 y0, .int .i64 y1, .slice va n vc] 57)).cell? ⟨w2.heap.size, o, none⟩ = (#[.int .i64 y0, .int .i64 y1, .slice va n vc] : Array Value)[o]? := bx_al w2 _ _
  have hb : Below w2.heap.size w2 (w2.alloc (.cells #[.int .i64 y0, .int .i64 y1, .slice va n vc] 57)) := (Below.refl _ _).alloc (Nat.le_refl _) _
  have z3 : w2.heap.size < (w2.alloc (.cells #[.int .i64 y0, .int .i64 y1, .slice va n vc] 57)).heap.size := by simp
  generalize hWW : (w2.alloc (.cells #[.int .i64 y0, .int .i64 y1, .slice va n vc] 57)) = w3 at k6 hb z3 ⊢
  clear hWW
  have kR := (fun o => (hb.cell (p := ⟨w.heap.size, o, none⟩) (by dsimp only; omega)).trans (hr2 o) : ∀ o, w3.cell? ⟨w.heap.size, o, none⟩ = (#[.int .i64 0, .int .i64 0, .slice none 0 0] : Array Value)[o]?)
  have fR := (fun o => (hb.frozen (p := ⟨w.heap.size, o, none⟩) (by dsimp only; omega)).trans (hf2 o) : ∀ o, w3.frozen? ⟨w.heap.size, o, none⟩ = false)
  replace D : Hid (Dr sb W1 w3) := D.out.then hb (by omega)
  have S : Hid (Src w3 sb (.slice a len cap) (0 + 100)) := s2.bel hb
  have HF3 : Hid (FC w3 (W1.heap.size + 1) (y0, y1, L, ()) va n vc) := HF2.out.keep fun g _ h => hb.block g h
  obtain ⟨cb, hcb⟩ : ∃ q, q = w2.heap.size := ⟨_, rfl⟩
  have hcs : sb < cb := by omega
  have hcw : w.heap.size < cb := by omega
  rw [← hcb] at k6 z3 ⊢
  clear hcb hb hr2 hf2 s2 HF2 hz2
  have hsz : sb < w3.heap.size := by omega
  have HR3 : Hid (∀ W, Dr sb w3 W → BRow .u8 W a len cap zs) := fun W h => HR.out W (D.out.trans h)
  have HW1 : Hid (w.heap.size < W1.heap.size ∧ sb < W1.heap.size ∧ w.heap.size ≤ sb) := ⟨by omega, zs1, by omega⟩
  clear HR
  have KK : Hid (∀ W, Dr sb w3 W → ∀ o, W.cell? ⟨cb, o, none⟩ = (#[.int .i64 y0, .int .i64 y1, .slice va n vc] : Array Value)[o]?) := fun W h => bx_drC k6 h z3 (by omega)
  have Ew : Hid (Dr sb w3 w3) := Dr.refl _ _
  refine wp_region_noPanic ?_
  refine Goes.start (S := fun w' => ∀ o, w'.cell? ⟨cb, o, none⟩ = (#[.int .i64 y0, .int .i64 y1, .slice va n vc] : Array Value)[o]?) (z := 100) (by kernel_rfl) ?_
  have E0 : Hid (Dr sb w3 w3.drew) := Dr.drewC sb w3
  have S0 : Hid (Src w3.drew sb (.slice a len cap) _) := S.out.drewC
  refine Goes.take (i := 0) (oi := ?oi1702) (x := ?vx1702) ?ho1702 (by kernel_rfl) (by kernel_rfl) (by kernel_rfl) (by kernel_rfl) (fun _ _ _ h => h) (Or.inl ⟨?hw1702, ?hy1702⟩) (KK.out _ E0.out) ?rest1702
  case ho1702 => (simp only [List.getElem?_toArray, List.getElem?_cons_zero] <;> rfl)
  case hw1702 => rfl
  case hy1702 => (intro w' hSw; have j0 := hSw; go_simp; (try with_reducible rfl))
  case rest1702 =>
  (try simp only [Act.put, List.setIfInBounds_toArray, List.set_cons_zero, List.set_cons_succ])
  refine Goes.take (i := 1) (oi := ?oi1703) (x := ?vx1703) ?ho1703 (by kernel_rfl) (by kernel_rfl) (by kernel_rfl) (by kernel_rfl) (fun _ _ _ h => h) (Or.inl ⟨?hw1703, ?hy1703⟩) (KK.out _ E0.out) ?rest1703
  case ho1703 => (simp only [List.getElem?_toArray, List.getElem?_cons_succ, List.getElem?_cons_zero] <;> rfl)
  case hw1703 => rfl
  case hy1703 => (intro w' hSw; have j0 := hSw; go_simp; (try with_reducible rfl))
  case rest1703 =>
  (try simp only [Act.put, List.setIfInBounds_toArray, List.set_cons_zero, List.set_cons_succ])
  refine Goes.take (i := 2) (oi := ?oi1704) (x := ?vx1704) ?ho1704 (by kernel_rfl) (by kernel_rfl) (by kernel_rfl) (by kernel_rfl) (fun _ _ _ h => h) (Or.inl ⟨?hw1704, ?hy1704⟩) (KK.out _ E0.out) ?rest1704
  case ho1704 => (simp only [List.getElem?_toArray, List.getElem?_cons_succ, List.getElem?_cons_zero] <;> rfl)
  case hw1704 => rfl
  case hy1704 => (intro w' hSw; have j0 := hSw; go_simp; (try with_reducible rfl))
  case rest1704 =>
  (try simp only [Act.put, List.setIfInBounds_toArray, List.set_cons_zero, List.set_cons_succ])
  refine Goes.all (rs := [3]) (by kernel_rfl) (by simp) ?_
  refine Ups.cons (i := 3) (o := ?oo708) ?ho708 (fun KQ hKQ => ?stp708) Ups.nil
  case ho708 => (simp only [List.getElem?_toArray, List.getElem?_cons_succ, List.getElem?_cons_zero] <;> rfl)
  case stp708 =>
  go_simp
  go_at_call 47
  refine (sNext sb a len cap zs _ 40 _ S0.out (HR3.out _ E0.out) hl1 (by omega) (by omega)).mono ?_
  rintro e v709 ⟨q1, rfl, hb0q1, hb1q1, st709, sr709⟩
  have E710 : Hid (Dr sb w3 v709) := E0.out.trans st709.dr
  have S710 : Hid (Src v709 sb (.slice a len cap) (0 + 101)) := (sr709).mono (by omega)
  clear st709 sr709
  dsimp only
  refine hKQ.out _ _ (Or.inr (KK.out _ E710.out)) ?_
  clear hKQ KQ
  (try simp only [Act.put, List.setIfInBounds_toArray, List.set_cons_zero, List.set_cons_succ])
  have ha1 : IntKind.i64.wrap (y1 + q1) = y1 + q1 := w64C (by omega) (by omega)
  have ha2 : IntKind.i64.wrap (y1 + q1 - 4) = y1 + q1 - 4 := w64C (by omega) (by omega)
  refine Goes.take (i := 4) (oi := ?oi1712) (x := ?vx1712) ?ho1712 (by kernel_rfl) (by kernel_rfl) (by kernel_rfl) (by kernel_rfl) (fun _ _ _ h => h) (Or.inl ⟨?hw1712, ?hy1712⟩) (KK.out _ E710.out) ?rest1712
  case ho1712 => (simp only [List.getElem?_toArray, List.getElem?_cons_succ, List.getElem?_cons_zero] <;> rfl)
  case hw1712 => rfl
  case hy1712 => (intro w' hSw; have j0 := hSw; go_simp; (try with_reducible rfl))
  case rest1712 =>
  (try simp only [Act.put, List.setIfInBounds_toArray, List.set_cons_zero, List.set_cons_succ])
  refine Goes.take (i := 5) (oi := ?oi1713) (x := ?vx1713) ?ho1713 (by kernel_rfl) (by kernel_rfl) (by kernel_rfl) (by kernel_rfl) (fun _ _ _ h => h) (Or.inl ⟨?hw1713, ?hy1713⟩) (KK.out _ E710.out) ?rest1713
  case ho1713 => (simp only [List.getElem?_toArray, List.getElem?_cons_succ, List.getElem?_cons_zero] <;> rfl)
  case hw1713 => rfl
  case hy1713 => (intro w' hSw; have j0 := hSw; go_simp; (try with_reducible rfl))
  case rest1713 =>
  (try simp only [Act.put, List.setIfInBounds_toArray, List.set_cons_zero, List.set_cons_succ])
  refine Goes.take (i := 6) (oi := ?oi1714) (x := ?vx1714) ?ho1714 (by kernel_rfl) (by kernel_rfl) (by kernel_rfl) (by kernel_rfl) (fun _ _ _ h => h) (Or.inl ⟨?hw1714, ?hy1714⟩) (KK.out _ E710.out) ?rest1714
  case ho1714 => (simp only [List.getElem?_toArray, List.getElem?_cons_succ, List.getElem?_cons_zero] <;> rfl)
  case hw1714 => rfl
  case hy1714 => (intro w' hSw; have j0 := hSw; go_simp; (try with_reducible rfl))
  case rest1714 =>
  (try simp only [Act.put, List.setIfInBounds_toArray, List.set_cons_zero, List.set_cons_succ])
  refine Goes.done (by kernel_rfl) ?_ _
  refine NoPanic.normal ?_
  have D4 : Hid (Dr sb w3 v709) := E710.out
  have hS4 : Hid (Src v709 sb (.slice a len cap) (0 + 101)) := S710.out
  clear S
  have S : Hid _ := hS4
  clear hS4 KK
  replace k6 := bx_drC k6 D4.out z3 (by omega)
  have z4 := D4.out.size
  have kR4 := bx_drC kR D4.out (by omega) hne
  have fR4 := fx_drC fR D4.out (by omega) hne
  have HF4 : Hid (FC v709 (W1.heap.size + 1) (y0, y1, L, ()) va n vc) := HF3.out.keep fun g g1 g2 => D4.out.block g g2 (by have := HW1.out; omega)
  clear kR fR HF3
  replace z3 : cb < v709.heap.size := by omega
  replace hsz : sb < v709.heap.size := by omega
  obtain ⟨tt, htt⟩ : ∃ t, t = y1 + q1 - 4 := ⟨_, rfl⟩
  have ht1 : -10 ≤ tt ∧ tt ≤ 2000100 := by omega
  rw [← htt]
  clear htt ha1 ha2
  have HKR : Hid (∀ W, Dr sb v709 W → (∀ o, W.cell? ⟨w.heap.size, o, none⟩ = (#[.int .i64 0, .int .i64 0, .slice none 0 0] : Array Value)[o]?) ∧ (∀ o, W.frozen? ⟨w.heap.size, o, none⟩ = false)) := fun W h => ⟨bx_drC kR4 h (by omega) hne, fx_drC fR4 h (by omega) hne⟩
  clear kR4 fR4
  have KK : Hid (∀ W, Dr sb v709 W → ∀ o, W.cell? ⟨cb, o, none⟩ = (#[.int .i64 y0, .int .i64 y1, .slice va n vc] : Array Value)[o]?) := fun W h => bx_drC k6 h z3 (by omega)
  have Ew : Hid (Dr sb v709 v709) := Dr.refl _ _
  go_upto_region 4 with fail
  refine wp_region_noPanic ?_
  refine Goes.start (S := fun w' => ∀ o, w'.cell? ⟨cb, o, none⟩ = (#[.int .i64 y0, .int .i64 y1, .slice va n vc] : Array Value)[o]?) (z := 100) (by kernel_rfl) ?_
  have E0 : Hid (Dr sb v709 v709.drew) := Dr.drewC sb v709
  have S0 : Hid (Src v709.drew sb (.slice a len cap) _) := S.out.drewC
  refine Goes.take (i := 0) (oi := ?oi1719) (x := ?vx1719) ?ho1719 (by kernel_rfl) (by kernel_rfl) (by kernel_rfl) (by kernel_rfl) (fun _ _ _ h => h) (Or.inl ⟨?hw1719, ?hy1719⟩) (KK.out _ E0.out) ?rest1719
  case ho1719 => (simp only [List.getElem?_toArray, List.getElem?_cons_zero] <;> rfl)
  case hw1719 => rfl
  case hy1719 => (intro w' hSw; have j0 := hSw; go_simp; (try with_reducible rfl))
  case rest1719 =>
  (try simp only [Act.put, List.setIfInBounds_toArray, List.set_cons_zero, List.set_cons_succ])
  refine Goes.take (i := 1) (oi := ?oi1720) (x := ?vx1720) ?ho1720 (by kernel_rfl) (by kernel_rfl) (by kernel_rfl) (by kernel_rfl) (fun _ _ _ h => h) (Or.inl ⟨?hw1720, ?hy1720⟩) (KK.out _ E0.out) ?rest1720
  case ho1720 => (simp only [List.getElem?_toArray, List.getElem?_cons_succ, List.getElem?_cons_zero] <;> rfl)
  case hw1720 => rfl
  case hy1720 => (intro w' hSw; have j0 := hSw; go_simp; (try with_reducible rfl))
  case rest1720 =>
  (try simp only [Act.put, List.setIfInBounds_toArray, List.set_cons_zero, List.set_cons_succ])
  refine Goes.take (i := 2) (oi := ?oi1721) (x := ?vx1721) ?ho1721 (by kernel_rfl) (by kernel_rfl) (by kernel_rfl) (by kernel_rfl) (fun _ _ _ h => h) (Or.inl ⟨?hw1721, ?hy1721⟩) (KK.out _ E0.out) ?rest1721
  case ho1721 => (simp only [List.getElem?_toArray, List.getElem?_cons_succ, List.getElem?_cons_zero] <;> rfl)
  case hw1721 => rfl
  case hy1721 => (intro w' hSw; have j0 := hSw; go_simp; (try with_reducible rfl))
  case rest1721 =>
  (try simp only [Act.put, List.setIfInBounds_toArray, List.set_cons_zero, List.set_cons_succ])
  refine Goes.take (i := 3) (oi := ?oi1722) (x := ?vx1722) ?ho1722 (by kernel_rfl) (by kernel_rfl) (by kernel_rfl) (by kernel_rfl) (fun _ _ _ h => h) (Or.inl ⟨?hw1722, ?hy1722⟩) (KK.out _ E0.out) ?rest1722
  case ho1722 => (simp only [List.getElem?_toArray, List.getElem?_cons_succ, List.getElem?_cons_zero] <;> rfl)
  case hw1722 => rfl
  case hy1722 => (intro w' hSw; have j0 := hSw; go_simp; (try with_reducible rfl))
  case rest1722 =>
  (try simp only [Act.put, List.setIfInBounds_toArray, List.set_cons_zero, List.set_cons_succ])
  refine Goes.take (i := 4) (oi := ?oi1723) (x := ?vx1723) ?ho1723 (by kernel_rfl) (by kernel_rfl) (by kernel_rfl) (by kernel_rfl) (fun _ _ _ h => h) (Or.inl ⟨?hw1723, ?hy1723⟩) (KK.out _ E0.out) ?rest1723
  case ho1723 => (simp only [List.getElem?_toArray, List.getElem?_cons_succ, List.getElem?_cons_zero] <;> rfl)
  case hw1723 => rfl
  case hy1723 => (intro w' hSw; have j0 := hSw; go_simp; (try with_reducible rfl))
  case rest1723 =>
  (try simp only [Act.put, List.setIfInBounds_toArray, List.set_cons_zero, List.set_cons_succ])
  refine Goes.take (i := 5) (oi := ?oi1724) (x := ?vx1724) ?ho1724 (by kernel_rfl) (by kernel_rfl) (by kernel_rfl) (by kernel_rfl) (fun _ _ _ h => h) (Or.inl ⟨?hw1724, ?hy1724⟩) (KK.out _ E0.out) ?rest1724
  case ho1724 => (simp only [List.getElem?_toArray, List.getElem?_cons_succ, List.getElem?_cons_zero] <;> rfl)
  case hw1724 => rfl
  case hy1724 => (intro w' hSw; have j0 := hSw; go_simp; (try with_reducible rfl))
  case rest1724 =>
  (try simp only [Act.put, List.setIfInBounds_toArray, List.set_cons_zero, List.set_cons_succ])
  refine Goes.take (i := 6) (oi := ?oi1725) (x := ?vx1725) ?ho1725 (by kernel_rfl) (by kernel_rfl) (by kernel_rfl) (by kernel_rfl) (fun _ _ _ h => h) (Or.inl ⟨?hw1725, ?hy1725⟩) (KK.out _ E0.out) ?rest1725
  case ho1725 => (simp only [List.getElem?_toArray, List.getElem?_cons_succ, List.getElem?_cons_zero] <;> rfl)
  case hw1725 => rfl
  case hy1725 => (intro w' hSw; have j0 := hSw; go_simp; (try with_reducible rfl))
  case rest1725 =>
  (try simp only [Act.put, List.setIfInBounds_toArray, List.set_cons_zero, List.set_cons_succ])
  refine Goes.take (i := 9) (oi := ?oi1726) (x := ?vx1726) ?ho1726 (by kernel_rfl) (by kernel_rfl) (by kernel_rfl) (by kernel_rfl) (fun _ _ _ h => h) (Or.inl ⟨?hw1726, ?hy1726⟩) (KK.out _ E0.out) ?rest1726
  case ho1726 => (simp only [List.getElem?_toArray, List.getElem?_cons_succ, List.getElem?_cons_zero] <;> rfl)
  case hw1726 => rfl
  case hy1726 => (intro w' hSw; have j0 := hSw; go_simp; (try with_reducible rfl))
  case rest1726 =>
  (try simp only [Act.put, List.setIfInBounds_toArray, List.set_cons_zero, List.set_cons_succ])
  refine Goes.take (i := 10) (oi := ?oi1727) (x := ?vx1727) ?ho1727 (by kernel_rfl) (by kernel_rfl) (by kernel_rfl) (by kernel_rfl) (fun _ _ _ h => h) (Or.inl ⟨?hw1727, ?hy1727⟩) (KK.out _ E0.out) ?rest1727
  case ho1727 => (simp only [List.getElem?_toArray, List.getElem?_cons_succ, List.getElem?_cons_zero] <;> rfl)
  case hw1727 => rfl
  case hy1727 => (intro w' hSw; have j0 := hSw; go_simp; (try with_reducible rfl))
  case rest1727 =>
  (try simp only [Act.put, List.setIfInBounds_toArray, List.set_cons_zero, List.set_cons_succ])
  refine Goes.take (i := 13) (oi := ?oi1728) (x := ?vx1728) ?ho1728 (by kernel_rfl) (by kernel_rfl) (by kernel_rfl) (by kernel_rfl) (fun _ _ _ h => h) (Or.inl ⟨?hw1728, ?hy1728⟩) (KK.out _ E0.out) ?rest1728
  case ho1728 => (simp only [List.getElem?_toArray, List.getElem?_cons_succ, List.getElem?_cons_zero] <;> rfl)
  case hw1728 => rfl
  case hy1728 => (intro w' hSw; have j0 := hSw; go_simp; (try with_reducible rfl))
  case rest1728 =>
  (try simp only [Act.put, List.setIfInBounds_toArray, List.set_cons_zero, List.set_cons_succ])
  refine Goes.all (rs := [7]) (by kernel_rfl) (by simp) ?_
  refine Ups.cons (i := 7) (o := ?oo739) ?ho739 (fun KQ hKQ => ?stp739) Ups.nil
  case ho739 => (simp only [List.getElem?_toArray, List.getElem?_cons_succ, List.getElem?_cons_zero] <;> rfl)
  case stp739 =>
  go_simp
  obtain ⟨v740, hv740⟩ : ∃ v, v = (v709.alloc (.cells #[.int .i64 tt, .int .i64 tt, .int .i64 y1, .int .i64 tt, .int .i64 (-1), .int .i64 999999] 2)).drew := ⟨_, rfl⟩
  rw [← hv740]
  have b740 : Below v709.heap.size v709 v740 := by rw [hv740]; exact ((Below.refl _ _).alloc (Nat.le_refl _) _).drew
  have cra : Hid (∀ W, Dr sb v740 W → ∀ i, i < ([tt, tt, y1, tt, (-1), 999999] : List Int).length → W.cell? ⟨v709.heap.size, i, none⟩ = some (.int .i64 (([tt, tt, y1, tt, (-1), 999999] : List Int).getD i 0))) := fun W hW i hi => (hW.cell (p := ⟨v709.heap.size, i, none⟩) (by rw [hv740]; simp) (by have := Ew.out.size; dsimp only; omega)).trans (by rw [hv740]; exact laid_list v709 [tt, tt, y1, tt, (-1), 999999] 2 i hi)
  have gra : v709.heap.size ≠ sb := by have := Ew.out.size; omega
  have E741 : Hid (Dr sb v709 v740) := Ew.out.trans ((Dr.refl sb v709).then b740 (Nat.le_refl _))
  have S741 : Hid (Src v740 sb (.slice a len cap) (0 + 101)) := (S.out.bel b740).mono (by omega)
  have ra740z : Hid (Dr sb v740 v740) := Dr.refl _ _
  clear hv740 b740
  refine hKQ.out _ _ (Or.inr (KK.out _ E741.out)) ?_
  clear hKQ KQ
  (try simp only [Act.put, List.setIfInBounds_toArray, List.set_cons_zero, List.set_cons_succ])
  refine Goes.all (rs := [8]) (by kernel_rfl) (by simp) ?_
  refine Ups.cons (i := 8) (o := ?oo742) ?ho742 (fun KQ hKQ => ?stp742) Ups.nil
  case ho742 => (simp only [List.getElem?_toArray, List.getElem?_cons_succ, List.getElem?_cons_zero] <;> rfl)
  case stp742 =>
  go_simp
  go_at_call 49
  refine (sPickC sb a len cap zs _ (v709.heap.size) [tt, tt, y1, tt, (-1), 999999] _ S741.out (HR3.out _ (D4.out.trans E741.out)) hl1 (by omega) gra (by simp) (by simp) (cra.out _ ra740z.out)).mono ?_
  rintro e v743 ⟨aa, rfl, hm, dr743, sr743⟩
  simp only [List.mem_cons, List.not_mem_nil, or_false] at hm
  have mat : -10 ≤ aa ∧ aa ≤ 2000100 := by omega
  clear hm
  have E744 : Hid (Dr sb v709 v743) := E741.out.trans dr743
  have S744 : Hid (Src v743 sb (.slice a len cap) (0 + 102)) := (sr743).mono (by omega)
  have ra744 : Hid (Dr sb v740 v743) := ra740z.out.trans dr743
  clear dr743 sr743
  dsimp only
  refine hKQ.out _ _ (Or.inr (KK.out _ E744.out)) ?_
  clear hKQ KQ
  (try simp only [Act.put, List.setIfInBounds_toArray, List.set_cons_zero, List.set_cons_succ])
  refine Goes.all (rs := [11]) (by kernel_rfl) (by simp) ?_
  refine Ups.cons (i := 11) (o := ?oo745) ?ho745 (fun KQ hKQ => ?stp745) Ups.nil
  case ho745 => (simp only [List.getElem?_toArray, List.getElem?_cons_succ, List.getElem?_cons_zero] <;> rfl)
  case stp745 =>
  go_simp
  go_at_call 47
  refine (sNext sb a len cap zs _ 9 _ S744.out (HR3.out _ (D4.out.trans E744.out)) hl1 (by omega) (by omega)).mono ?_
  rintro e v746 ⟨q2, rfl, hb0q2, hb1q2, st746, sr746⟩
  have E747 : Hid (Dr sb v709 v746) := E744.out.trans st746.dr
  have S747 : Hid (Src v746 sb (.slice a len cap) (0 + 103)) := (sr746).mono (by omega)
  have ra747 : Hid (Dr sb v740 v746) := ra744.out.trans st746.dr
  clear st746 sr746
  dsimp only
  refine hKQ.out _ _ (Or.inr (KK.out _ E747.out)) ?_
  clear hKQ KQ
  (try simp only [Act.put, List.setIfInBounds_toArray, List.set_cons_zero, List.set_cons_succ])
  have ha2 : IntKind.i64.wrap (1 + q2) = 1 + q2 := w64C (by omega) (by omega)
  refine Goes.take (i := 12) (oi := ?oi1749) (x := ?vx1749) ?ho1749 (by kernel_rfl) (by kernel_rfl) (by kernel_rfl) (by kernel_rfl) (fun _ _ _ h => h) (Or.inl ⟨?hw1749, ?hy1749⟩) (KK.out _ E747.out) ?rest1749
  case ho1749 => (simp only [List.getElem?_toArray, List.getElem?_cons_succ, List.getElem?_cons_zero] <;> rfl)
  case hw1749 => rfl
  case hy1749 => (intro w' hSw; have j0 := hSw; go_simp; (try with_reducible rfl))
  case rest1749 =>
  (try simp only [Act.put, List.setIfInBounds_toArray, List.set_cons_zero, List.set_cons_succ])
  refine Goes.all (rs := [14]) (by kernel_rfl) (by simp) ?_
  refine Ups.cons (i := 14) (o := ?oo751) ?ho751 (fun KQ hKQ => ?stp751) Ups.nil
  case ho751 => (simp only [List.getElem?_toArray, List.getElem?_cons_succ, List.getElem?_cons_zero] <;> rfl)
  case stp751 =>
  go_simp
  go_at_call 47
  refine (sNext sb a len cap zs _ 9 _ S747.out (HR3.out _ (D4.out.trans E747.out)) hl1 (by omega) (by omega)).mono ?_
  rintro e v752 ⟨q3, rfl, hb0q3, hb1q3, st752, sr752⟩
  have E753 : Hid (Dr sb v709 v752) := E747.out.trans st752.dr
  have S753 : Hid (Src v752 sb (.slice a len cap) (0 + 104)) := (sr752).mono (by omega)
  have ra753 : Hid (Dr sb v740 v752) := ra747.out.trans st752.dr
  clear st752 sr752
  dsimp only
  refine hKQ.out _ _ (Or.inr (KK.out _ E753.out)) ?_
  clear hKQ KQ
  (try simp only [Act.put, List.setIfInBounds_toArray, List.set_cons_zero, List.set_cons_succ])
  have ha3 : IntKind.i64.wrap (1 + q3) = 1 + q3 := w64C (by omega) (by omega)
  refine Goes.take (i := 15) (oi := ?oi1755) (x := ?vx1755) ?ho1755 (by kernel_rfl) (by kernel_rfl) (by kernel_rfl) (by kernel_rfl) (fun _ _ _ h => h) (Or.inl ⟨?hw1755, ?hy1755⟩) (KK.out _ E753.out) ?rest1755
  case ho1755 => (simp only [List.getElem?_toArray, List.getElem?_cons_succ, List.getElem?_cons_zero] <;> rfl)
  case hw1755 => rfl
  case hy1755 => (intro w' hSw; have j0 := hSw; go_simp; (try with_reducible rfl))
  case rest1755 =>
  (try simp only [Act.put, List.setIfInBounds_toArray, List.set_cons_zero, List.set_cons_succ])
  refine Goes.all (rs := [16]) (by kernel_rfl) (by simp) ?_
  refine Ups.cons (i := 16) (o := ?oo757) ?ho757 (fun KQ hKQ => ?stp757) Ups.nil
  case ho757 => (simp only [List.getElem?_toArray, List.getElem?_cons_succ, List.getElem?_cons_zero] <;> rfl)
  case stp757 =>
  go_simp
  obtain ⟨v758, hv758⟩ : ∃ v, v = v752.alloc (.cells #[.int .i64 (1 + q2), .int .i64 (1 + q3), .int .i64 0, .int .i64 100, .int .i64 101] 2) := ⟨_, rfl⟩
  rw [← hv758]
  have b758 : Below v752.heap.size v752 v758 := by rw [hv758]; exact (Below.refl _ _).alloc (Nat.le_refl _) _
  have crb : Hid (∀ W, Dr sb v758 W → ∀ i, i < ([(1 + q2), (1 + q3), 0, 100, 101] : List Int).length → W.cell? ⟨v752.heap.size, i, none⟩ = some (.int .i64 (([(1 + q2), (1 + q3), 0, 100, 101] : List Int).getD i 0))) := fun W hW i hi => (hW.cell (p := ⟨v752.heap.size, i, none⟩) (by rw [hv758]; simp) (by have := E753.out.size; dsimp only; omega)).trans (by rw [hv758]; exact laid_list v752 [(1 + q2), (1 + q3), 0, 100, 101] 2 i hi)
  have grb : v752.heap.size ≠ sb := by have := E753.out.size; omega
  have E759 : Hid (Dr sb v709 v758) := E753.out.trans ((Dr.refl sb v752).then b758 (Nat.le_refl _))
  have S759 : Hid (Src v758 sb (.slice a len cap) (0 + 104)) := (S753.out.bel b758).mono (by omega)
  have ra759 : Hid (Dr sb v740 v758) := ra753.out.trans ((Dr.refl sb v752).then b758 (Nat.le_refl _))
  have rb758z : Hid (Dr sb v758 v758) := Dr.refl _ _
  clear hv758 b758
  refine hKQ.out _ _ (Or.inr (KK.out _ E759.out)) ?_
  clear hKQ KQ
  (try simp only [Act.put, List.setIfInBounds_toArray, List.set_cons_zero, List.set_cons_succ])
  refine Goes.all (rs := [17]) (by kernel_rfl) (by simp) ?_
  refine Ups.cons (i := 17) (o := ?oo760) ?ho760 (fun KQ hKQ => ?stp760) Ups.nil
  case ho760 => (simp only [List.getElem?_toArray, List.getElem?_cons_succ, List.getElem?_cons_zero] <;> rfl)
  case stp760 =>
  go_simp
  go_at_call 49
  refine (sPickC sb a len cap zs _ (v752.heap.size) [(1 + q2), (1 + q3), 0, 100, 101] _ S759.out (HR3.out _ (D4.out.trans E759.out)) hl1 (by omega) grb (by simp) (by simp) (crb.out _ rb758z.out)).mono ?_
  rintro e v761 ⟨sz, rfl, hm, dr761, sr761⟩
  simp only [List.mem_cons, List.not_mem_nil, or_false] at hm
  have msz : 0 ≤ sz ∧ sz ≤ 101 := by omega
  clear hm
  have E762 : Hid (Dr sb v709 v761) := E759.out.trans dr761
  have S762 : Hid (Src v761 sb (.slice a len cap) (0 + 105)) := (sr761).mono (by omega)
  have ra762 : Hid (Dr sb v740 v761) := ra759.out.trans dr761
  have rb762 : Hid (Dr sb v758 v761) := rb758z.out.trans dr761
  clear dr761 sr761
  dsimp only
  refine hKQ.out _ _ (Or.inr (KK.out _ E762.out)) ?_
  clear hKQ KQ
  (try simp only [Act.put, List.setIfInBounds_toArray, List.set_cons_zero, List.set_cons_succ])
  obtain ⟨NN, hNN⟩ : ∃ NN : Array Value, NN = (#[.int .i64 y0, .int .i64 y1, .slice va n vc] : Array Value) := ⟨_, rfl⟩
  have HNN : Hid _ := hNN
  have HNZ : Hid (NN.size = 3) := by show _ = _; rw [hNN]; rfl
  have HNI : Hid ((Try.prog.info? 57).map (·.size) = some NN.size) := by show _ = _; rw [HNZ.out]; exact (by kernel_rfl : (Try.prog.info? 57).map (·.size) = some 3)
  have HNO : Hid (NN.all (·.oneCell') = true) := by show _ = _; rw [hNN]; simp [Value.oneCell']
  clear hNN
  obtain ⟨kR8, fR8⟩ := HKR.out _ E762.out
  refine Goes.all (rs := [18]) (by kernel_rfl) (by simp) ?_
  refine Ups.cons (i := 18) (o := ?oo763) ?ho763 (fun KQ hKQ => ?stp763) Ups.nil
  case ho763 => (simp only [List.getElem?_toArray, List.getElem?_cons_succ, List.getElem?_cons_zero] <;> rfl)
  case stp763 =>
  rw [if_pos (by rfl)]
  refine wp_store_mid 57 _ _ rfl _ _ NN (by rfl) (by rw [HNN.out]; rfl) (bx_there kR8 fR8 (by rw [HNZ.out]; rfl)) HNI.out HNO.out ?_
  refine hKQ.out _ _ (Or.inr (bx_setOff (KK.out _ E762.out) (by omega))) ?_
  clear hKQ KQ
  (try simp only [Act.put, List.setIfInBounds_toArray, List.set_cons_zero, List.set_cons_succ])
  refine Goes.take (i := 19) (oi := ?oi4765) (x := ?vx4765) ?ho4765 (by kernel_rfl) (by kernel_rfl) (by kernel_rfl) (by kernel_rfl) (fun _ _ _ h => h) (Or.inl ⟨?hw4765, ?hy4765⟩) (bx_setOff (KK.out _ E762.out) (by omega)) ?rest4765
  case ho4765 => (simp only [List.getElem?_toArray, List.getElem?_cons_succ, List.getElem?_cons_zero] <;> rfl)
  case hw4765 => rfl
  case hy4765 => (intro w' hSw; have j0 := hSw; go_simp; (try with_reducible rfl))
  case rest4765 =>
  (try simp only [Act.put, List.setIfInBounds_toArray, List.set_cons_zero, List.set_cons_succ])
  refine Goes.take (i := 20) (oi := ?oi4766) (x := ?vx4766) ?ho4766 (by kernel_rfl) (by kernel_rfl) (by kernel_rfl) (by kernel_rfl) (fun _ _ _ h => h) (Or.inl ⟨?hw4766, ?hy4766⟩) (bx_setOff (KK.out _ E762.out) (by omega)) ?rest4766
  case ho4766 => (simp only [List.getElem?_toArray, List.getElem?_cons_succ, List.getElem?_cons_zero] <;> rfl)
  case hw4766 => rfl
  case hy4766 => (intro w' hSw; have j0 := hSw; go_simp; (try with_reducible rfl))
  case rest4766 =>
  (try simp only [Act.put, List.setIfInBounds_toArray, List.set_cons_zero, List.set_cons_succ])
  refine Goes.done (by kernel_rfl) ?_ _
  refine NoPanic.normal ?_
  obtain ⟨h1, h2, h3⟩ := HW1.out
  obtain ⟨WZ, hWZ, kZ, BZ, FZ⟩ := takeEnd (NN := NN) kR8 HNN.out HNZ.out B1.out D.out D4.out E762.out h3 h1 h2 HF4.out
  rw [hWZ]
  clear hWZ kR8 fR8
  have HBZ : Hid _ := BZ
  have HFZ : Hid _ := FZ
  clear BZ FZ
  go_wp2_with fail
  exact bodyPost_ret (v := .tuple #[.agg #[.int .i64 y0, .int .i64 y1, .slice va n vc], .int .i64 aa, .int .i64 sz]) (by simp [results, Try.results29, go_sem, kZ]) rfl ⟨(y0, y1, L, ()), va, n, vc, aa, sz, rfl, HFZ.out, by omega, by omega, HBZ.out⟩
end Go.Proofs.Ytioehciabgdbaaa
