/- What the draw for PutPiece gives: some gather, a place and some bytes, that can be read; nothing that was in memory turns; no condition. Written by mkdrpie.py. -/
import Derived.Deep.RegionHeld3
import Derived.Deep.DeepCutAuto
import Derived.Deep.DeepMust
import Derived.Deep.MidRow
import Derived.Test.YtnbcefdfdonljaaRows
import Derived.Test.YtnbcefdfdonljaaBase
import Derived.Test.YtnbcefdfdonljaaMem
import Derived.Test.YtnbcefdfdonljaaMemOpen
import Derived.Test.YtnbcefdfdonljaaMemApp
import Derived.Test.YtnbcefdfdonljaaGath
import Derived.Test.YtnbcefdfdonljaaGathLaw
import Derived.Test.YtnbcefdfdonljaaGathByte
import Derived.Test.YtnbcefdfdonljaaPImpl
import Derived.Test.YtnbcefdfdonljaaSPut
import Derived.Test.YtnbcefdfdonljaaPieFacts
import Derived.Test.YtnbcefdfdonljaaStrFacts
import Derived.Test.YtnbcefdfdonljaaRegionU
import Derived.Test.YtnbcefdfdonljaaDraws
import Derived.Test.YtnbcefdfdonljaaDrawsD
import Derived.Test.YtnbcefdfdonljaaDrawSome
import Derived.Test.YtnbcefdfdonljaaDrawStr0
import Derived.Test.YtnbcefdfdonljaaDrawStr1
import Derived.Test.YtnbcefdfdonljaaDrawStr2
import Derived.Test.YtnbcefdfdonljaaAppBytes
import Derived.Test.YtnbcefdfdonljaaApp
import Derived.Test.YtnbcefdfdonljaaDrawStr
namespace Go.Proofs.Ytnbcefdfdonljaa
open Go.RowKit
set_option linter.unusedVariables false
set_option linter.unusedSimpArgs false
set_option maxRecDepth 8000

set_option maxHeartbeats 8000000 in
theorem dPie (a : Option Addr) (len cap : Nat) (zs : List Int) (w : World) (hr : BRow .u8 w a len cap zs) (hl : RowLt w.heap.size a zs) :
    Calls Try.prog 17 #[.slice a len cap] w fun e w' => ∃ (g : Gt) (a1 : Option Addr) (n1 c1 : Nat) (a2 : Option Addr) (n2 c2 : Nat) (aa : Int) (dl : List Int) (da : Option Addr) (m dc : Nat), e = .returned (.tuple #[.agg #[.slice a1 n1 c1, .slice a2 n2 c2], .int .i64 aa, .slice da m dc]) ∧ PieD w' g a1 n1 c1 a2 n2 c2 dl da m dc ∧ (-1 ≤ aa ∧ aa ≤ 400) ∧ Below w.heap.size w w' := by
  go_enter Try.func17, Try.ntmps17
  go_wp2_with fail
  obtain ⟨W0, hW0⟩ : ∃ W0, w.alloc (.cells #[.slice none 0 0, .slice none 0 0] 26) = W0 := ⟨_, rfl⟩
  have b0 : Below w.heap.size w W0 := by rw [← hW0]; exact (Below.refl _ _).alloc (Nat.le_refl _) _
  have kR : ∀ o, W0.cell? ⟨w.heap.size, o, none⟩ = (#[.slice none 0 0, .slice none 0 0] : Array Value)[o]? := by rw [← hW0]; intro o; simp [go_sem]
  have fR : ∀ o, W0.frozen? ⟨w.heap.size, o, none⟩ = false := by rw [← hW0]; intro o; simp [go_sem]
  have z0 : W0.heap.size = w.heap.size + 1 := by rw [← hW0]; simp
  simp only [hW0, ← z0]
  clear hW0
  have r0 := hr.below hl b0
  clear hr hl
  refine (sSource _ _ _ _).mono ?_
  rintro e W1 ⟨rfl, hW1⟩
  obtain ⟨s1, r1, b1⟩ := draw_start 138 r0 r0.lt
  rw [← hW1] at s1 r1 b1
  clear hW1
  generalize hsb : W0.heap.size = sb at *
  have zR : w.heap.size < sb := by omega
  have hne : w.heap.size ≠ sb := by omega
  replace kR := fun o => (b1.cell (p := ⟨w.heap.size, o, none⟩) (by dsimp only; omega)).trans (kR o)
  replace fR := fun o => (b1.frozen (p := ⟨w.heap.size, o, none⟩) (by dsimp only; omega)).trans (fR o)
  have B1 : Hid (Below w.heap.size w W1) := b0.trans (b1.mono (by omega))
  have hl1 := r0.lt
  rw [hsb] at hl1
  have zs1 := s1.lt
  have HR : Hid (∀ W, Dr sb W1 W → BRow .u8 W a len cap zs) := fun W h => r1.below hl1 (h.below (Nat.le_of_lt zs1))
  have S : Hid _ := s1
  clear b0 b1 r0 r1 hsb z0 s1
  go_wp2_with fail
  refine (sStream3 sb a len cap zs _ W1 S.out (HR.out _ (Dr.refl _ _)) hl1 (by omega) (by omega)).mono ?_
  rintro e w2 ⟨g, a1, n1, c1, a2, n2, c2, ss, bs, sn, sc, rfl, hF, dd, s2⟩
  dsimp only
  have hsn := hF.len
  have hz2 := dd.size
  have hr2 := bx_drT kR dd (by omega) hne
  have hf2 := fx_drT fR dd (by omega) hne
  have D : Hid (Dr sb W1 w2) := dd
  have HF2 : Hid (Strm w2 W1.heap.size g a1 n1 c1 a2 n2 c2 ss bs sn sc) := hF
  clear hF dd S kR fR
  go_upto_region 3 with fail
  have k6 : ∀ o, (w2.alloc (.cells #[.slice a1 n1 c1, .slice a2 n2 c2] 26)).cell? ⟨w2.heap.size, o, none⟩ = (#[.slice a1 n1 c1, .slice a2 n2 c2] : Array Value)[o]? := bx_al w2 _ _
  have hb : Below w2.heap.size w2 (w2.alloc (.cells #[.slice a1 n1 c1, .slice a2 n2 c2] 26)) := (Below.refl _ _).alloc (Nat.le_refl _) _
  have z6 : w2.heap.size < (w2.alloc (.cells #[.slice a1 n1 c1, .slice a2 n2 c2] 26)).heap.size := by simp
  generalize hWW : (w2.alloc (.cells #[.slice a1 n1 c1, .slice a2 n2 c2] 26)) = w3 at k6 hb z6 ⊢
  clear hWW
  have kR := (fun o => (hb.cell (p := ⟨w.heap.size, o, none⟩) (by dsimp only; omega)).trans (hr2 o) : ∀ o, w3.cell? ⟨w.heap.size, o, none⟩ = (#[.slice none 0 0, .slice none 0 0] : Array Value)[o]?)
  have fR := (fun o => (hb.frozen (p := ⟨w.heap.size, o, none⟩) (by dsimp only; omega)).trans (hf2 o) : ∀ o, w3.frozen? ⟨w.heap.size, o, none⟩ = false)
  replace D : Hid (Dr sb W1 w3) := D.out.then hb (by omega)
  have S : Hid (Src w3 sb (.slice a len cap) (0 + 200)) := s2.bel hb
  have HO2 : Hid (Own w3 W1.heap.size w2.heap.size gtS g [.slice a1 n1 c1, .slice a2 n2 c2]) := HF2.out.own.below (Nat.le_refl _) hb
  have hbs := (HF2.out.ob.own.lt bs rfl).2
  have HF : Hid (Strm w3 W1.heap.size g a1 n1 c1 a2 n2 c2 ss bs sn sc) := HF2.out.keepB (fun b _ h => hb.block b h) hb.size
  obtain ⟨cb, hcb⟩ : ∃ q, q = w2.heap.size := ⟨_, rfl⟩
  have hcs : sb < cb := by omega
  have hcw : w.heap.size < cb := by omega
  rw [← hcb] at k6 z6 HO2 hbs ⊢
  clear hcb hb hr2 hf2 s2 HF2
  have HW1 : Hid (w.heap.size < W1.heap.size ∧ sb < W1.heap.size ∧ w.heap.size ≤ sb) := ⟨by omega, zs1, by omega⟩
  have zw1 : sb < W1.heap.size := zs1
  go_wp2_with fail
  refine (sNext sb a len cap zs _ sn _ S.out (HR.out _ D.out) hl1 (by omega) (by omega)).mono ?_
  rintro e w4 ⟨q2, rfl, pq2, gq2, hd, hsr⟩
  replace HO2 : Hid (Own w4 W1.heap.size cb gtS g [.slice a1 n1 c1, .slice a2 n2 c2]) := HO2.out.keep fun b h1 h2 => (hd.dr).block b (by omega) (by omega)
  replace k6 := bx_drT k6 hd.dr z6 (by omega)
  replace kR := bx_drT kR hd.dr (by omega) hne
  replace fR := fx_drT fR hd.dr (by omega) hne
  replace z6 := Nat.lt_of_lt_of_le z6 (Dr.size hd.dr)
  replace HF : Hid (Strm w4 W1.heap.size g a1 n1 c1 a2 n2 c2 ss bs sn sc) := HF.out.dr hd.dr zw1
  replace D : Hid (Dr sb W1 w4) := D.out.trans hd.dr
  replace S : Hid (Src w4 sb (.slice a len cap) (0 + 201)) := (hsr).mono (by omega)
  clear hd hsr
  go_wp2_with fail
  refine (sNext sb a len cap zs _ 9 _ S.out (HR.out _ D.out) hl1 (by omega) (by omega)).mono ?_
  rintro e w5 ⟨q3, rfl, pq3, gq3, hd, hsr⟩
  replace HO2 : Hid (Own w5 W1.heap.size cb gtS g [.slice a1 n1 c1, .slice a2 n2 c2]) := HO2.out.keep fun b h1 h2 => (hd.dr).block b (by omega) (by omega)
  replace k6 := bx_drT k6 hd.dr z6 (by omega)
  replace kR := bx_drT kR hd.dr (by omega) hne
  replace fR := fx_drT fR hd.dr (by omega) hne
  replace z6 := Nat.lt_of_lt_of_le z6 (Dr.size hd.dr)
  replace HF : Hid (Strm w5 W1.heap.size g a1 n1 c1 a2 n2 c2 ss bs sn sc) := HF.out.dr hd.dr zw1
  replace D : Hid (Dr sb W1 w5) := D.out.trans hd.dr
  replace S : Hid (Src w5 sb (.slice a len cap) (0 + 202)) := (hsr).mono (by omega)
  clear hd hsr
  have hw8 : IntKind.i64.wrap (q2 + q3) = q2 + q3 := w64T (by omega) (by omega)
  go_wp2_with fail
  refine (sMinT (sn : Int) (q2 + q3) w5).mono ?_
  rintro e v3 ⟨rfl, hv3⟩
  subst hv3
  obtain ⟨x, rfl⟩ : ∃ x : Nat, q2 = (x : Int) := ⟨q2.toNat, by omega⟩
  obtain ⟨m, hm⟩ : ∃ m : Nat, min (sn : Int) ((x : Int) + q3) = ((x + m : Nat) : Int) := ⟨(min (sn : Int) ((x : Int) + q3) - x).toNat, by omega⟩
  rw [hm]
  have hxm : x + m ≤ sn := by omega
  clear hm hw8 pq3 gq3
  have hsc : sn ≤ sc := (HF.out.part hxm).2.2
  have hxs : x + m ≤ sc := by omega
  have hxn : x < sn := by omega
  have hsb5 : sb < v3.heap.size := by omega
  have KK : Hid (∀ W, Dr sb v3 W → ∀ o, W.cell? ⟨cb, o, none⟩ = (#[.slice a1 n1 c1, .slice a2 n2 c2] : Array Value)[o]?) := fun W h => bx_drT k6 h z6 (by omega)
  have HR1 : Hid (∀ W, Dr sb v3 W → BRow .u8 W a len cap zs) := fun W h => HR.out W (D.out.trans h)
  have Ew : Hid (Dr sb v3 v3) := Dr.refl _ _
  have HKR : Hid (∀ W, Dr sb v3 W → (∀ o, W.cell? ⟨w.heap.size, o, none⟩ = (#[.slice none 0 0, .slice none 0 0] : Array Value)[o]?) ∧ (∀ o, W.frozen? ⟨w.heap.size, o, none⟩ = false)) := fun W h => ⟨bx_drT kR h (by omega) hne, fx_drT fR h (by omega) hne⟩
  clear kR fR
  go_upto_region 6 with fail
  refine wp_region_noPanic ?_
  refine Goes.start (S := fun w' => ∀ o, w'.cell? ⟨cb, o, none⟩ = (#[.slice a1 n1 c1, .slice a2 n2 c2] : Array Value)[o]?) (z := 100) (by kernel_rfl) ?_
  have E0 : Hid (Dr sb v3 v3.drew) := Dr.drewT sb v3
  have S0 : Hid (Src v3.drew sb (.slice a len cap) (0 + 202)) := S.out.drewT
  refine Goes.take (i := 0) (oi := ?oi1702) (x := ?vx1702) ?ho1702 (by kernel_rfl) (by kernel_rfl) (by kernel_rfl) (by kernel_rfl) (fun _ _ _ h => h) (Or.inl ⟨?hw1702, ?hy1702⟩) (KK.out _ E0.out) ?rest1702
  case ho1702 => (simp only [List.getElem?_toArray, List.getElem?_cons_zero] <;> rfl)
  case hw1702 => rfl
  case hy1702 => (intro w' hSw; have j0 := hSw; go_simp; (try with_reducible rfl))
  case rest1702 =>
  (try simp only [Act.put, List.setIfInBounds_toArray, List.set_cons_zero, List.set_cons_succ])
  refine Goes.take (i := 1) (oi := ?oi1703) (x := ?vx1703) ?ho1703 (by kernel_rfl) (by kernel_rfl) (by kernel_rfl) (by kernel_rfl) (fun _ _ _ h => h) (Or.inl ⟨?hw1703, ?hy1703⟩) (KK.out _ E0.out) ?rest1703
  case ho1703 => (simp only [List.getElem?_toArray, List.getElem?_cons_succ, List.getElem?_cons_zero] <;> rfl)
  case hw1703 => rfl
  case hy1703 => (intro w' hSw; have j0 := hSw; go_simp; (try with_reducible rfl))
  case rest1703 =>
  (try simp only [Act.put, List.setIfInBounds_toArray, List.set_cons_zero, List.set_cons_succ])
  refine Goes.take (i := 2) (oi := ?oi1704) (x := ?vx1704) ?ho1704 (by kernel_rfl) (by kernel_rfl) (by kernel_rfl) (by kernel_rfl) (fun _ _ _ h => h) (Or.inl ⟨?hw1704, ?hy1704⟩) (KK.out _ E0.out) ?rest1704
  case ho1704 => (simp only [List.getElem?_toArray, List.getElem?_cons_succ, List.getElem?_cons_zero] <;> rfl)
  case hw1704 => rfl
  case hy1704 => (intro w' hSw; have j0 := hSw; go_simp; (try with_reducible rfl))
  case rest1704 =>
  (try simp only [Act.put, List.setIfInBounds_toArray, List.set_cons_zero, List.set_cons_succ])
  refine Goes.take (i := 3) (oi := ?oi1705) (x := ?vx1705) ?ho1705 (by kernel_rfl) (by kernel_rfl) (by kernel_rfl) (by kernel_rfl) (fun _ _ _ h => h) (Or.inl ⟨?hw1705, ?hy1705⟩) (KK.out _ E0.out) ?rest1705
  case ho1705 => (simp only [List.getElem?_toArray, List.getElem?_cons_succ, List.getElem?_cons_zero] <;> rfl)
  case hw1705 => rfl
  case hy1705 => (intro w' hSw; have j0 := hSw; go_simp; (try with_reducible rfl))
  case rest1705 =>
  (try simp only [Act.put, List.setIfInBounds_toArray, List.set_cons_zero, List.set_cons_succ])
  refine Goes.take (i := 4) (oi := ?oi1706) (x := ?vx1706) ?ho1706 (by kernel_rfl) (by kernel_rfl) (by kernel_rfl) (by kernel_rfl) (fun _ _ _ h => h) (Or.inl ⟨?hw1706, ?hy1706⟩) (KK.out _ E0.out) ?rest1706
  case ho1706 => (simp only [List.getElem?_toArray, List.getElem?_cons_succ, List.getElem?_cons_zero] <;> rfl)
  case hw1706 => rfl
  case hy1706 => (intro w' hSw; have j0 := hSw; go_simp; (try with_reducible rfl))
  case rest1706 =>
  (try simp only [Act.put, List.setIfInBounds_toArray, List.set_cons_zero, List.set_cons_succ])
  refine Goes.take (i := 8) (oi := ?oi1707) (x := ?vx1707) ?ho1707 (by kernel_rfl) (by kernel_rfl) (by kernel_rfl) (by kernel_rfl) (fun _ _ _ h => h) (Or.inl ⟨?hw1707, ?hy1707⟩) (KK.out _ E0.out) ?rest1707
  case ho1707 => (simp only [List.getElem?_toArray, List.getElem?_cons_succ, List.getElem?_cons_zero] <;> rfl)
  case hw1707 => rfl
  case hy1707 => (intro w' hSw; have j0 := hSw; go_simp; (try with_reducible rfl))
  case rest1707 =>
  (try simp only [Act.put, List.setIfInBounds_toArray, List.set_cons_zero, List.set_cons_succ])
  refine Goes.take (i := 9) (oi := ?oi1708) (x := ?vx1708) ?ho1708 (by kernel_rfl) (by kernel_rfl) (by kernel_rfl) (by kernel_rfl) (fun _ _ _ h => h) (Or.inl ⟨?hw1708, ?hy1708⟩) (KK.out _ E0.out) ?rest1708
  case ho1708 => (simp only [List.getElem?_toArray, List.getElem?_cons_succ, List.getElem?_cons_zero] <;> rfl)
  case hw1708 => rfl
  case hy1708 => (intro w' hSw; have j0 := hSw; go_simp; (try with_reducible rfl))
  case rest1708 =>
  (try simp only [Act.put, List.setIfInBounds_toArray, List.set_cons_zero, List.set_cons_succ])
  refine Goes.take (i := 10) (oi := ?oi1709) (x := ?vx1709) ?ho1709 (by kernel_rfl) (by kernel_rfl) (by kernel_rfl) (by kernel_rfl) (fun _ _ _ h => h) (Or.inl ⟨?hw1709, ?hy1709⟩) (KK.out _ E0.out) ?rest1709
  case ho1709 => (simp only [List.getElem?_toArray, List.getElem?_cons_succ, List.getElem?_cons_zero] <;> rfl)
  case hw1709 => rfl
  case hy1709 => (intro w' hSw; have j0 := hSw; go_simp; (try with_reducible rfl))
  case rest1709 =>
  (try simp only [Act.put, List.setIfInBounds_toArray, List.set_cons_zero, List.set_cons_succ])
  have hI1 : (0 : Int) ≤ (x : Int) + (m : Int) ∧ (x : Int) + (m : Int) ≤ (sc : Int) := by omega
  have hI2 : x ≤ ((x : Int) + (m : Int)).toNat := by omega
  have hI3 : ((x : Int) + (m : Int)).toNat - x = m := by omega
  have hI4 : ¬ sc = x := by omega
  refine Goes.take (i := 11) (oi := ?oi3901) (x := .slice (some ⟨bs, x, none⟩) m (sc - x)) ?ho3901 (by kernel_rfl) (by kernel_rfl) (by kernel_rfl) (by kernel_rfl) (fun _ _ _ h => h) (Or.inl ⟨?hw3901, ?hy3901⟩) (KK.out _ E0.out) ?rest3901
  case ho3901 => (simp only [List.getElem?_toArray, List.getElem?_cons_succ, List.getElem?_cons_zero] <;> rfl)
  case hw3901 => rfl
  case hy3901 => (intro w' hSw; have j0 := hSw; go_simp; (try (rw [if_pos hI1, if_pos hI2, if_neg hI4, hI3])))
  case rest3901 =>
  (try simp only [Act.put, List.setIfInBounds_toArray, List.set_cons_zero, List.set_cons_succ])
  clear hI1 hI2 hI3 hI4
  refine Goes.all (rs := [5, 7]) (by kernel_rfl) (by simp) ?_
  refine Ups.cons (i := 5) (o := ?oo718) ?ho718 (fun KQ hKQ => ?stp718) (Ups.cons (i := 7) (o := ?oo719) ?ho719 (fun KQ hKQ => ?stp719) Ups.nil)
  case ho718 => (simp only [List.getElem?_toArray, List.getElem?_cons_succ, List.getElem?_cons_zero] <;> rfl)
  case ho719 => (simp only [List.getElem?_toArray, List.getElem?_cons_succ, List.getElem?_cons_zero] <;> rfl)
  case stp719 =>
    go_simp
    obtain ⟨v720, hv720⟩ : ∃ v, v = (v3.alloc (.cells #[] 5)).drew := ⟨_, rfl⟩
    rw [← hv720]
    have b720 : Below v3.heap.size v3 v720 := by rw [hv720]; exact ((Below.refl _ _).alloc (Nat.le_refl _) _).drew
    have OB720 : Hid (OB v720 v3.heap.size (.slice (some ⟨v3.heap.size, 0, none⟩) 0 0) []) := by show OB _ _ _ _; rw [hv720]; exact ((⟨World.ownsRow_made v3 #[] 0 (Nat.le_refl _) (by decide) rfl, by simp⟩ : OB (v3.alloc (.cells #[] 5)) v3.heap.size (.slice (some ⟨v3.heap.size, 0, none⟩) 0 0) [])).below (Nat.le_refl _) (Below.drew (Below.refl _ _))
    have g720y : sb < v3.heap.size := by have := Ew.out.size; omega
    have h720y : v3.heap.size ≤ v3.heap.size := Ew.out.size
    have E721 : Hid (Dr sb v3 v720) := Ew.out.trans ((Dr.refl sb v3).then b720 (Nat.le_refl _))
    have S721 : Hid (Src v720 sb (.slice a len cap) (0 + 202)) := (S.out.bel b720).mono (by omega)
    have ry720z : Hid (Dr sb v720 v720) := Dr.refl _ _
    clear hv720 b720
    refine hKQ.out _ _ (Or.inr (KK.out _ E721.out)) ?_
    clear hKQ KQ
    (try simp only [Act.put, List.setIfInBounds_toArray, List.set_cons_zero, List.set_cons_succ])
    refine Goes.all (rs := [5]) (by kernel_rfl) (by simp) ?_
    refine Ups.cons (i := 5) (o := ?oo722) ?ho722 (fun KQ hKQ => ?stp722) Ups.nil
    case ho722 => (simp only [List.getElem?_toArray, List.getElem?_cons_succ, List.getElem?_cons_zero] <;> rfl)
    case stp722 =>
    go_simp
    obtain ⟨v723, hv723⟩ : ∃ v, v = v720.alloc (.cells #[.int .i64 (x : Int), .int .i64 (x : Int), .int .i64 (x : Int), .int .i64 395, .int .i64 (-1)] 2) := ⟨_, rfl⟩
    rw [← hv723]
    have b723 : Below v720.heap.size v720 v723 := by rw [hv723]; exact (Below.refl _ _).alloc (Nat.le_refl _) _
    have cra : Hid (∀ W, Dr sb v723 W → ∀ i, i < ([(x : Int), (x : Int), (x : Int), 395, (-1)] : List Int).length → W.cell? ⟨v720.heap.size, i, none⟩ = some (.int .i64 (([(x : Int), (x : Int), (x : Int), 395, (-1)] : List Int).getD i 0))) := fun W hW i hi => (hW.cell (p := ⟨v720.heap.size, i, none⟩) (by rw [hv723]; simp) (by have := E721.out.size; dsimp only; omega)).trans (by rw [hv723]; exact laid_list v720 [(x : Int), (x : Int), (x : Int), 395, (-1)] 2 i hi)
    have gra : v720.heap.size ≠ sb := by have := E721.out.size; omega
    have E724 : Hid (Dr sb v3 v723) := E721.out.trans ((Dr.refl sb v720).then b723 (Nat.le_refl _))
    have S724 : Hid (Src v723 sb (.slice a len cap) (0 + 202)) := (S721.out.bel b723).mono (by omega)
    have ry724 : Hid (Dr sb v720 v723) := ry720z.out.trans ((Dr.refl sb v720).then b723 (Nat.le_refl _))
    have ra723z : Hid (Dr sb v723 v723) := Dr.refl _ _
    clear hv723 b723
    refine hKQ.out _ _ (Or.inr (KK.out _ E724.out)) ?_
    clear hKQ KQ
    (try simp only [Act.put, List.setIfInBounds_toArray, List.set_cons_zero, List.set_cons_succ])
    refine Goes.all (rs := [6]) (by kernel_rfl) (by simp) ?_
    refine Ups.cons (i := 6) (o := ?oo725) ?ho725 (fun KQ hKQ => ?stp725) Ups.nil
    case ho725 => (simp only [List.getElem?_toArray, List.getElem?_cons_succ, List.getElem?_cons_zero] <;> rfl)
    case stp725 =>
    go_simp
    go_at_call 54
    refine (sPickT sb a len cap zs _ (v720.heap.size) [(x : Int), (x : Int), (x : Int), 395, (-1)] _ S724.out (HR1.out _ E724.out) hl1 (by omega) gra (by simp) (by simp) (cra.out _ ra723z.out)).mono ?_
    rintro e v726 ⟨aa, rfl, hm, dr726, sr726⟩
    simp only [List.mem_cons, List.not_mem_nil, or_false] at hm
    have hat : -1 ≤ aa ∧ aa ≤ 400 := by omega
    clear hm
    have E727 : Hid (Dr sb v3 v726) := E724.out.trans dr726
    have S727 : Hid (Src v726 sb (.slice a len cap) (0 + 203)) := (sr726).mono (by omega)
    have ry727 : Hid (Dr sb v720 v726) := ry724.out.trans dr726
    have ra727 : Hid (Dr sb v723 v726) := ra723z.out.trans dr726
    clear dr726 sr726
    dsimp only
    refine hKQ.out _ _ (Or.inr (KK.out _ E727.out)) ?_
    clear hKQ KQ
    (try simp only [Act.put, List.setIfInBounds_toArray, List.set_cons_zero, List.set_cons_succ])
    have HSW : Hid (Strm v726 W1.heap.size g a1 n1 c1 a2 n2 c2 ss bs sn sc) := HF.out.dr E727.out zw1
    obtain ⟨rb1, rb2, -⟩ := HSW.out.part hxm
    have HOW : Hid (OB v726 v3.heap.size (.slice (some ⟨v3.heap.size, 0, none⟩) 0 0) []) := OB720.out.dr ry727.out g720y
    have hbw : v3.heap.size ≤ v726.heap.size := by have h : v3.heap.size < v726.heap.size := (HOW.out.own.lt _ rfl).2; omega
    obtain ⟨dl, hdl⟩ : ∃ l, l = (ss.drop x).take m := ⟨_, rfl⟩
    rw [← hdl] at rb1 rb2
    clear hdl
    have HRB : Hid _ := rb1
    clear rb1
    refine Goes.all (rs := [12]) (by kernel_rfl) (by simp) ?_
    refine Ups.cons (i := 12) (o := ?oo728) ?ho728 (fun KQ hKQ => ?stp728) Ups.nil
    case ho728 => (simp only [List.getElem?_toArray, List.getElem?_cons_succ, List.getElem?_cons_zero] <;> rfl)
    case stp728 =>
    refine app_st v726 (by rfl) _ _ 22 22 (by rfl) Try.underlying22 Try.underlying22 v3.heap.size (.slice (some ⟨v3.heap.size, 0, none⟩) 0 0) [] (by rfl) HOW.out (some ⟨bs, x, none⟩) dl m (sc - x) rb2 (by rfl) HRB.out (fun e => by cases e) (by simp; omega) hbw ?_
    intro v' w9 ho9 hb9 hg9 hx9
    have HO9 : Hid (OB w9 v3.heap.size v' dl) := ho9
    have HB9 : Hid (Below v3.heap.size v726 w9) := hb9
    obtain ⟨kRw, fRw⟩ := HKR.out _ E727.out
    have hoc : cb < v3.heap.size := by omega
    have kR9 : ∀ o, w9.cell? ⟨w.heap.size, o, none⟩ = (#[.slice none 0 0, .slice none 0 0] : Array Value)[o]? := fun o => (hb9.cell (p := ⟨w.heap.size, o, none⟩) (by dsimp only; omega)).trans (kRw o)
    have fR9 : ∀ o, w9.frozen? ⟨w.heap.size, o, none⟩ = false := fun o => (hb9.frozen (p := ⟨w.heap.size, o, none⟩) (by dsimp only; omega)).trans (fRw o)
    have k9 : ∀ o, w9.cell? ⟨cb, o, none⟩ = (#[.slice a1 n1 c1, .slice a2 n2 c2] : Array Value)[o]? := fun o => (hb9.cell (p := ⟨cb, o, none⟩) hoc).trans (KK.out _ E727.out o)
    clear ho9 hb9 hg9 hx9 kRw fRw HKR
    refine hKQ.out _ _ (Or.inr k9) ?_
    clear hKQ KQ KK
    (try simp only [Act.put, List.setIfInBounds_toArray, List.set_cons_zero, List.set_cons_succ])
    obtain ⟨NN, hNN⟩ : ∃ NN : Array Value, NN = (#[.slice a1 n1 c1, .slice a2 n2 c2] : Array Value) := ⟨_, rfl⟩
    have HNN : Hid _ := hNN
    have HNZ : Hid (NN.size = 2) := by show _ = _; rw [hNN]; rfl
    have HNI : Hid ((Try.prog.info? 26).map (·.size) = some NN.size) := by show _ = _; rw [HNZ.out]; exact (by kernel_rfl : (Try.prog.info? 26).map (·.size) = some 2)
    have HNO : Hid (NN.all (·.oneCell') = true) := by show _ = _; rw [hNN]; simp [Value.oneCell']
    clear hNN
    refine Goes.all (rs := [13]) (by kernel_rfl) (by simp) ?_
    refine Ups.cons (i := 13) (o := ?oo729) ?ho729 (fun KQ hKQ => ?stp729) Ups.nil
    case ho729 => (simp only [List.getElem?_toArray, List.getElem?_cons_succ, List.getElem?_cons_zero] <;> rfl)
    case stp729 =>
    rw [if_pos (by rfl)]
    refine wp_store_mid 26 _ _ rfl _ _ NN (by rfl) (by rw [HNN.out]; rfl) (bx_there kR9 fR9 (by rw [HNZ.out]; rfl)) HNI.out HNO.out ?_
    have k10 := bx_setOff (k := 0) (vs := NN.toList) (b' := w.heap.size) k9 (by omega)
    refine hKQ.out _ _ (Or.inr k10) ?_
    clear hKQ KQ
    (try simp only [Act.put, List.setIfInBounds_toArray, List.set_cons_zero, List.set_cons_succ])
    refine Goes.take (i := 14) (oi := ?oi4731) (x := ?vx4731) ?ho4731 (by kernel_rfl) (by kernel_rfl) (by kernel_rfl) (by kernel_rfl) (fun _ _ _ h => h) (Or.inl ⟨?hw4731, ?hy4731⟩) k10 ?rest4731
    case ho4731 => (simp only [List.getElem?_toArray, List.getElem?_cons_succ, List.getElem?_cons_zero] <;> rfl)
    case hw4731 => rfl
    case hy4731 => (intro w' hSw; have j0 := hSw; go_simp; (try with_reducible rfl))
    case rest4731 =>
    (try simp only [Act.put, List.setIfInBounds_toArray, List.set_cons_zero, List.set_cons_succ])
    refine Goes.take (i := 15) (oi := ?oi4732) (x := ?vx4732) ?ho4732 (by kernel_rfl) (by kernel_rfl) (by kernel_rfl) (by kernel_rfl) (fun _ _ _ h => h) (Or.inl ⟨?hw4732, ?hy4732⟩) k10 ?rest4732
    case ho4732 => (simp only [List.getElem?_toArray, List.getElem?_cons_succ, List.getElem?_cons_zero] <;> rfl)
    case hw4732 => rfl
    case hy4732 => (intro w' hSw; have j0 := hSw; go_simp; (try with_reducible rfl))
    case rest4732 =>
    (try simp only [Act.put, List.setIfInBounds_toArray, List.set_cons_zero, List.set_cons_succ])
    refine Goes.done (by kernel_rfl) ?_ _
    refine NoPanic.normal ?_
    obtain ⟨h1, h2, h3⟩ := HW1.out
    obtain ⟨WZ, da, dc, hWZ, rfl, kZ, PZ, BZ⟩ := pie_end (NN := NN) kR9 HNN.out HNZ.out B1.out D.out E727.out HB9.out HSW.out HO9.out ⟨rb2, by omega⟩ h3 h1 h2 (Or.inr h720y) (by omega) (Own.mono (HO2.out.keep fun b q1 q2 => E727.out.block b (by omega) (by omega)) (Nat.le_refl _) (by omega))
    rw [hWZ]
    clear hWZ kR9 fR9 k9 k10
    have HBZ : Hid _ := BZ
    have HPZ : Hid _ := PZ
    clear BZ PZ
    go_wp2_with fail
    exact bodyPost_ret (v := .tuple #[.agg #[.slice a1 n1 c1, .slice a2 n2 c2], .int .i64 aa, .slice da m dc]) (by simp [results, Try.results17, go_sem, kZ]) rfl ⟨g, a1, n1, c1, a2, n2, c2, aa, dl, da, m, dc, rfl, HPZ.out, hat, HBZ.out⟩
  case stp718 =>
    go_simp
    obtain ⟨v731, hv731⟩ : ∃ v, v = (v3.alloc (.cells #[.int .i64 (x : Int), .int .i64 (x : Int), .int .i64 (x : Int), .int .i64 395, .int .i64 (-1)] 2)).drew := ⟨_, rfl⟩
    rw [← hv731]
    have b731 : Below v3.heap.size v3 v731 := by rw [hv731]; exact ((Below.refl _ _).alloc (Nat.le_refl _) _).drew
    have cra : Hid (∀ W, Dr sb v731 W → ∀ i, i < ([(x : Int), (x : Int), (x : Int), 395, (-1)] : List Int).length → W.cell? ⟨v3.heap.size, i, none⟩ = some (.int .i64 (([(x : Int), (x : Int), (x : Int), 395, (-1)] : List Int).getD i 0))) := fun W hW i hi => (hW.cell (p := ⟨v3.heap.size, i, none⟩) (by rw [hv731]; simp) (by have := Ew.out.size; dsimp only; omega)).trans (by rw [hv731]; exact laid_list v3 [(x : Int), (x : Int), (x : Int), 395, (-1)] 2 i hi)
    have gra : v3.heap.size ≠ sb := by have := Ew.out.size; omega
    have E732 : Hid (Dr sb v3 v731) := Ew.out.trans ((Dr.refl sb v3).then b731 (Nat.le_refl _))
    have S732 : Hid (Src v731 sb (.slice a len cap) (0 + 202)) := (S.out.bel b731).mono (by omega)
    have ra731z : Hid (Dr sb v731 v731) := Dr.refl _ _
    clear hv731 b731
    refine hKQ.out _ _ (Or.inr (KK.out _ E732.out)) ?_
    clear hKQ KQ
    (try simp only [Act.put, List.setIfInBounds_toArray, List.set_cons_zero, List.set_cons_succ])
    refine Goes.all (rs := [6, 7]) (by kernel_rfl) (by simp) ?_
    refine Ups.cons (i := 6) (o := ?oo733) ?ho733 (fun KQ hKQ => ?stp733) (Ups.cons (i := 7) (o := ?oo734) ?ho734 (fun KQ hKQ => ?stp734) Ups.nil)
    case ho733 => (simp only [List.getElem?_toArray, List.getElem?_cons_succ, List.getElem?_cons_zero] <;> rfl)
    case ho734 => (simp only [List.getElem?_toArray, List.getElem?_cons_succ, List.getElem?_cons_zero] <;> rfl)
    case stp734 =>
      go_simp
      obtain ⟨v735, hv735⟩ : ∃ v, v = v731.alloc (.cells #[] 5) := ⟨_, rfl⟩
      rw [← hv735]
      have b735 : Below v731.heap.size v731 v735 := by rw [hv735]; exact (Below.refl _ _).alloc (Nat.le_refl _) _
      have OB735 : Hid (OB v735 v731.heap.size (.slice (some ⟨v731.heap.size, 0, none⟩) 0 0) []) := by show OB _ _ _ _; rw [hv735]; exact (⟨World.ownsRow_made v731 #[] 0 (Nat.le_refl _) (by decide) rfl, by simp⟩ : OB (v731.alloc (.cells #[] 5)) v731.heap.size (.slice (some ⟨v731.heap.size, 0, none⟩) 0 0) [])
      have g735y : sb < v731.heap.size := by have := E732.out.size; omega
      have h735y : v3.heap.size ≤ v731.heap.size := E732.out.size
      have E736 : Hid (Dr sb v3 v735) := E732.out.trans ((Dr.refl sb v731).then b735 (Nat.le_refl _))
      have S736 : Hid (Src v735 sb (.slice a len cap) (0 + 202)) := (S732.out.bel b735).mono (by omega)
      have ra736 : Hid (Dr sb v731 v735) := ra731z.out.trans ((Dr.refl sb v731).then b735 (Nat.le_refl _))
      have ry735z : Hid (Dr sb v735 v735) := Dr.refl _ _
      clear hv735 b735
      refine hKQ.out _ _ (Or.inr (KK.out _ E736.out)) ?_
      clear hKQ KQ
      (try simp only [Act.put, List.setIfInBounds_toArray, List.set_cons_zero, List.set_cons_succ])
      refine Goes.all (rs := [6]) (by kernel_rfl) (by simp) ?_
      refine Ups.cons (i := 6) (o := ?oo737) ?ho737 (fun KQ hKQ => ?stp737) Ups.nil
      case ho737 => (simp only [List.getElem?_toArray, List.getElem?_cons_succ, List.getElem?_cons_zero] <;> rfl)
      case stp737 =>
      go_simp
      go_at_call 54
      refine (sPickT sb a len cap zs _ (v3.heap.size) [(x : Int), (x : Int), (x : Int), 395, (-1)] _ S736.out (HR1.out _ E736.out) hl1 (by omega) gra (by simp) (by simp) (cra.out _ ra736.out)).mono ?_
      rintro e v738 ⟨aa, rfl, hm, dr738, sr738⟩
      simp only [List.mem_cons, List.not_mem_nil, or_false] at hm
      have hat : -1 ≤ aa ∧ aa ≤ 400 := by omega
      clear hm
      have E739 : Hid (Dr sb v3 v738) := E736.out.trans dr738
      have S739 : Hid (Src v738 sb (.slice a len cap) (0 + 203)) := (sr738).mono (by omega)
      have ra739 : Hid (Dr sb v731 v738) := ra736.out.trans dr738
      have ry739 : Hid (Dr sb v735 v738) := ry735z.out.trans dr738
      clear dr738 sr738
      dsimp only
      refine hKQ.out _ _ (Or.inr (KK.out _ E739.out)) ?_
      clear hKQ KQ
      (try simp only [Act.put, List.setIfInBounds_toArray, List.set_cons_zero, List.set_cons_succ])
      have HSW : Hid (Strm v738 W1.heap.size g a1 n1 c1 a2 n2 c2 ss bs sn sc) := HF.out.dr E739.out zw1
      obtain ⟨rb1, rb2, -⟩ := HSW.out.part hxm
      have HOW : Hid (OB v738 v731.heap.size (.slice (some ⟨v731.heap.size, 0, none⟩) 0 0) []) := OB735.out.dr ry739.out g735y
      have hbw : v731.heap.size ≤ v738.heap.size := by have h : v731.heap.size < v738.heap.size := (HOW.out.own.lt _ rfl).2; omega
      obtain ⟨dl, hdl⟩ : ∃ l, l = (ss.drop x).take m := ⟨_, rfl⟩
      rw [← hdl] at rb1 rb2
      clear hdl
      have HRB : Hid _ := rb1
      clear rb1
      refine Goes.all (rs := [12]) (by kernel_rfl) (by simp) ?_
      refine Ups.cons (i := 12) (o := ?oo740) ?ho740 (fun KQ hKQ => ?stp740) Ups.nil
      case ho740 => (simp only [List.getElem?_toArray, List.getElem?_cons_succ, List.getElem?_cons_zero] <;> rfl)
      case stp740 =>
      refine app_st v738 (by rfl) _ _ 22 22 (by rfl) Try.underlying22 Try.underlying22 v731.heap.size (.slice (some ⟨v731.heap.size, 0, none⟩) 0 0) [] (by rfl) HOW.out (some ⟨bs, x, none⟩) dl m (sc - x) rb2 (by rfl) HRB.out (fun e => by cases e) (by simp; omega) hbw ?_
      intro v' w9 ho9 hb9 hg9 hx9
      have HO9 : Hid (OB w9 v731.heap.size v' dl) := ho9
      have HB9 : Hid (Below v731.heap.size v738 w9) := hb9
      obtain ⟨kRw, fRw⟩ := HKR.out _ E739.out
      have hoc : cb < v731.heap.size := by omega
      have kR9 : ∀ o, w9.cell? ⟨w.heap.size, o, none⟩ = (#[.slice none 0 0, .slice none 0 0] : Array Value)[o]? := fun o => (hb9.cell (p := ⟨w.heap.size, o, none⟩) (by dsimp only; omega)).trans (kRw o)
      have fR9 : ∀ o, w9.frozen? ⟨w.heap.size, o, none⟩ = false := fun o => (hb9.frozen (p := ⟨w.heap.size, o, none⟩) (by dsimp only; omega)).trans (fRw o)
      have k9 : ∀ o, w9.cell? ⟨cb, o, none⟩ = (#[.slice a1 n1 c1, .slice a2 n2 c2] : Array Value)[o]? := fun o => (hb9.cell (p := ⟨cb, o, none⟩) hoc).trans (KK.out _ E739.out o)
      clear ho9 hb9 hg9 hx9 kRw fRw HKR
      refine hKQ.out _ _ (Or.inr k9) ?_
      clear hKQ KQ KK
      (try simp only [Act.put, List.setIfInBounds_toArray, List.set_cons_zero, List.set_cons_succ])
      obtain ⟨NN, hNN⟩ : ∃ NN : Array Value, NN = (#[.slice a1 n1 c1, .slice a2 n2 c2] : Array Value) := ⟨_, rfl⟩
      have HNN : Hid _ := hNN
      have HNZ : Hid (NN.size = 2) := by show _ = _; rw [hNN]; rfl
      have HNI : Hid ((Try.prog.info? 26).map (·.size) = some NN.size) := by show _ = _; rw [HNZ.out]; exact (by kernel_rfl : (Try.prog.info? 26).map (·.size) = some 2)
      have HNO : Hid (NN.all (·.oneCell') = true) := by show _ = _; rw [hNN]; simp [Value.oneCell']
      clear hNN
      refine Goes.all (rs := [13]) (by kernel_rfl) (by simp) ?_
      refine Ups.cons (i := 13) (o := ?oo741) ?ho741 (fun KQ hKQ => ?stp741) Ups.nil
      case ho741 => (simp only [List.getElem?_toArray, List.getElem?_cons_succ, List.getElem?_cons_zero] <;> rfl)
      case stp741 =>
      rw [if_pos (by rfl)]
      refine wp_store_mid 26 _ _ rfl _ _ NN (by rfl) (by rw [HNN.out]; rfl) (bx_there kR9 fR9 (by rw [HNZ.out]; rfl)) HNI.out HNO.out ?_
      have k10 := bx_setOff (k := 0) (vs := NN.toList) (b' := w.heap.size) k9 (by omega)
      refine hKQ.out _ _ (Or.inr k10) ?_
      clear hKQ KQ
      (try simp only [Act.put, List.setIfInBounds_toArray, List.set_cons_zero, List.set_cons_succ])
      refine Goes.take (i := 14) (oi := ?oi4743) (x := ?vx4743) ?ho4743 (by kernel_rfl) (by kernel_rfl) (by kernel_rfl) (by kernel_rfl) (fun _ _ _ h => h) (Or.inl ⟨?hw4743, ?hy4743⟩) k10 ?rest4743
      case ho4743 => (simp only [List.getElem?_toArray, List.getElem?_cons_succ, List.getElem?_cons_zero] <;> rfl)
      case hw4743 => rfl
      case hy4743 => (intro w' hSw; have j0 := hSw; go_simp; (try with_reducible rfl))
      case rest4743 =>
      (try simp only [Act.put, List.setIfInBounds_toArray, List.set_cons_zero, List.set_cons_succ])
      refine Goes.take (i := 15) (oi := ?oi4744) (x := ?vx4744) ?ho4744 (by kernel_rfl) (by kernel_rfl) (by kernel_rfl) (by kernel_rfl) (fun _ _ _ h => h) (Or.inl ⟨?hw4744, ?hy4744⟩) k10 ?rest4744
      case ho4744 => (simp only [List.getElem?_toArray, List.getElem?_cons_succ, List.getElem?_cons_zero] <;> rfl)
      case hw4744 => rfl
      case hy4744 => (intro w' hSw; have j0 := hSw; go_simp; (try with_reducible rfl))
      case rest4744 =>
      (try simp only [Act.put, List.setIfInBounds_toArray, List.set_cons_zero, List.set_cons_succ])
      refine Goes.done (by kernel_rfl) ?_ _
      refine NoPanic.normal ?_
      obtain ⟨h1, h2, h3⟩ := HW1.out
      obtain ⟨WZ, da, dc, hWZ, rfl, kZ, PZ, BZ⟩ := pie_end (NN := NN) kR9 HNN.out HNZ.out B1.out D.out E739.out HB9.out HSW.out HO9.out ⟨rb2, by omega⟩ h3 h1 h2 (Or.inr h735y) (by omega) (Own.mono (HO2.out.keep fun b q1 q2 => E739.out.block b (by omega) (by omega)) (Nat.le_refl _) (by omega))
      rw [hWZ]
      clear hWZ kR9 fR9 k9 k10
      have HBZ : Hid _ := BZ
      have HPZ : Hid _ := PZ
      clear BZ PZ
      go_wp2_with fail
      exact bodyPost_ret (v := .tuple #[.agg #[.slice a1 n1 c1, .slice a2 n2 c2], .int .i64 aa, .slice da m dc]) (by simp [results, Try.results17, go_sem, kZ]) rfl ⟨g, a1, n1, c1, a2, n2, c2, aa, dl, da, m, dc, rfl, HPZ.out, hat, HBZ.out⟩
    case stp733 =>
      go_simp
      go_at_call 54
      refine (sPickT sb a len cap zs _ (v3.heap.size) [(x : Int), (x : Int), (x : Int), 395, (-1)] _ S732.out (HR1.out _ E732.out) hl1 (by omega) gra (by simp) (by simp) (cra.out _ ra731z.out)).mono ?_
      rintro e v743 ⟨aa, rfl, hm, dr743, sr743⟩
      simp only [List.mem_cons, List.not_mem_nil, or_false] at hm
      have hat : -1 ≤ aa ∧ aa ≤ 400 := by omega
      clear hm
      have E744 : Hid (Dr sb v3 v743) := E732.out.trans dr743
      have S744 : Hid (Src v743 sb (.slice a len cap) (0 + 203)) := (sr743).mono (by omega)
      have ra744 : Hid (Dr sb v731 v743) := ra731z.out.trans dr743
      clear dr743 sr743
      dsimp only
      refine hKQ.out _ _ (Or.inr (KK.out _ E744.out)) ?_
      clear hKQ KQ
      (try simp only [Act.put, List.setIfInBounds_toArray, List.set_cons_zero, List.set_cons_succ])
      refine Goes.all (rs := [7]) (by kernel_rfl) (by simp) ?_
      refine Ups.cons (i := 7) (o := ?oo745) ?ho745 (fun KQ hKQ => ?stp745) Ups.nil
      case ho745 => (simp only [List.getElem?_toArray, List.getElem?_cons_succ, List.getElem?_cons_zero] <;> rfl)
      case stp745 =>
      go_simp
      obtain ⟨v746, hv746⟩ : ∃ v, v = v743.alloc (.cells #[] 5) := ⟨_, rfl⟩
      rw [← hv746]
      have b746 : Below v743.heap.size v743 v746 := by rw [hv746]; exact (Below.refl _ _).alloc (Nat.le_refl _) _
      have OB746 : Hid (OB v746 v743.heap.size (.slice (some ⟨v743.heap.size, 0, none⟩) 0 0) []) := by show OB _ _ _ _; rw [hv746]; exact (⟨World.ownsRow_made v743 #[] 0 (Nat.le_refl _) (by decide) rfl, by simp⟩ : OB (v743.alloc (.cells #[] 5)) v743.heap.size (.slice (some ⟨v743.heap.size, 0, none⟩) 0 0) [])
      have g746y : sb < v743.heap.size := by have := E744.out.size; omega
      have h746y : v3.heap.size ≤ v743.heap.size := E744.out.size
      have E747 : Hid (Dr sb v3 v746) := E744.out.trans ((Dr.refl sb v743).then b746 (Nat.le_refl _))
      have S747 : Hid (Src v746 sb (.slice a len cap) (0 + 203)) := (S744.out.bel b746).mono (by omega)
      have ra747 : Hid (Dr sb v731 v746) := ra744.out.trans ((Dr.refl sb v743).then b746 (Nat.le_refl _))
      have ry746z : Hid (Dr sb v746 v746) := Dr.refl _ _
      clear hv746 b746
      refine hKQ.out _ _ (Or.inr (KK.out _ E747.out)) ?_
      clear hKQ KQ
      (try simp only [Act.put, List.setIfInBounds_toArray, List.set_cons_zero, List.set_cons_succ])
      have HSW : Hid (Strm v746 W1.heap.size g a1 n1 c1 a2 n2 c2 ss bs sn sc) := HF.out.dr E747.out zw1
      obtain ⟨rb1, rb2, -⟩ := HSW.out.part hxm
      have HOW : Hid (OB v746 v743.heap.size (.slice (some ⟨v743.heap.size, 0, none⟩) 0 0) []) := OB746.out.dr ry746z.out g746y
      have hbw : v743.heap.size ≤ v746.heap.size := by have h : v743.heap.size < v746.heap.size := (HOW.out.own.lt _ rfl).2; omega
      obtain ⟨dl, hdl⟩ : ∃ l, l = (ss.drop x).take m := ⟨_, rfl⟩
      rw [← hdl] at rb1 rb2
      clear hdl
      have HRB : Hid _ := rb1
      clear rb1
      refine Goes.all (rs := [12]) (by kernel_rfl) (by simp) ?_
      refine Ups.cons (i := 12) (o := ?oo748) ?ho748 (fun KQ hKQ => ?stp748) Ups.nil
      case ho748 => (simp only [List.getElem?_toArray, List.getElem?_cons_succ, List.getElem?_cons_zero] <;> rfl)
      case stp748 =>
      refine app_st v746 (by rfl) _ _ 22 22 (by rfl) Try.underlying22 Try.underlying22 v743.heap.size (.slice (some ⟨v743.heap.size, 0, none⟩) 0 0) [] (by rfl) HOW.out (some ⟨bs, x, none⟩) dl m (sc - x) rb2 (by rfl) HRB.out (fun e => by cases e) (by simp; omega) hbw ?_
      intro v' w9 ho9 hb9 hg9 hx9
      have HO9 : Hid (OB w9 v743.heap.size v' dl) := ho9
      have HB9 : Hid (Below v743.heap.size v746 w9) := hb9
      obtain ⟨kRw, fRw⟩ := HKR.out _ E747.out
      have hoc : cb < v743.heap.size := by omega
      have kR9 : ∀ o, w9.cell? ⟨w.heap.size, o, none⟩ = (#[.slice none 0 0, .slice none 0 0] : Array Value)[o]? := fun o => (hb9.cell (p := ⟨w.heap.size, o, none⟩) (by dsimp only; omega)).trans (kRw o)
      have fR9 : ∀ o, w9.frozen? ⟨w.heap.size, o, none⟩ = false := fun o => (hb9.frozen (p := ⟨w.heap.size, o, none⟩) (by dsimp only; omega)).trans (fRw o)
      have k9 : ∀ o, w9.cell? ⟨cb, o, none⟩ = (#[.slice a1 n1 c1, .slice a2 n2 c2] : Array Value)[o]? := fun o => (hb9.cell (p := ⟨cb, o, none⟩) hoc).trans (KK.out _ E747.out o)
      clear ho9 hb9 hg9 hx9 kRw fRw HKR
      refine hKQ.out _ _ (Or.inr k9) ?_
      clear hKQ KQ KK
      (try simp only [Act.put, List.setIfInBounds_toArray, List.set_cons_zero, List.set_cons_succ])
      obtain ⟨NN, hNN⟩ : ∃ NN : Array Value, NN = (#[.slice a1 n1 c1, .slice a2 n2 c2] : Array Value) := ⟨_, rfl⟩
      have HNN : Hid _ := hNN
      have HNZ : Hid (NN.size = 2) := by show _ = _; rw [hNN]; rfl
      have HNI : Hid ((Try.prog.info? 26).map (·.size) = some NN.size) := by show _ = _; rw [HNZ.out]; exact (by kernel_rfl : (Try.prog.info? 26).map (·.size) = some 2)
      have HNO : Hid (NN.all (·.oneCell') = true) := by show _ = _; rw [hNN]; simp [Value.oneCell']
      clear hNN
      refine Goes.all (rs := [13]) (by kernel_rfl) (by simp) ?_
      refine Ups.cons (i := 13) (o := ?oo749) ?ho749 (fun KQ hKQ => ?stp749) Ups.nil
      case ho749 => (simp only [List.getElem?_toArray, List.getElem?_cons_succ, List.getElem?_cons_zero] <;> rfl)
      case stp749 =>
      rw [if_pos (by rfl)]
      refine wp_store_mid 26 _ _ rfl _ _ NN (by rfl) (by rw [HNN.out]; rfl) (bx_there kR9 fR9 (by rw [HNZ.out]; rfl)) HNI.out HNO.out ?_
      have k10 := bx_setOff (k := 0) (vs := NN.toList) (b' := w.heap.size) k9 (by omega)
      refine hKQ.out _ _ (Or.inr k10) ?_
      clear hKQ KQ
      (try simp only [Act.put, List.setIfInBounds_toArray, List.set_cons_zero, List.set_cons_succ])
      refine Goes.take (i := 14) (oi := ?oi4751) (x := ?vx4751) ?ho4751 (by kernel_rfl) (by kernel_rfl) (by kernel_rfl) (by kernel_rfl) (fun _ _ _ h => h) (Or.inl ⟨?hw4751, ?hy4751⟩) k10 ?rest4751
      case ho4751 => (simp only [List.getElem?_toArray, List.getElem?_cons_succ, List.getElem?_cons_zero] <;> rfl)
      case hw4751 => rfl
      case hy4751 => (intro w' hSw; have j0 := hSw; go_simp; (try with_reducible rfl))
      case rest4751 =>
      (try simp only [Act.put, List.setIfInBounds_toArray, List.set_cons_zero, List.set_cons_succ])
      refine Goes.take (i := 15) (oi := ?oi4752) (x := ?vx4752) ?ho4752 (by kernel_rfl) (by kernel_rfl) (by kernel_rfl) (by kernel_rfl) (fun _ _ _ h => h) (Or.inl ⟨?hw4752, ?hy4752⟩) k10 ?rest4752
      case ho4752 => (simp only [List.getElem?_toArray, List.getElem?_cons_succ, List.getElem?_cons_zero] <;> rfl)
      case hw4752 => rfl
      case hy4752 => (intro w' hSw; have j0 := hSw; go_simp; (try with_reducible rfl))
      case rest4752 =>
      (try simp only [Act.put, List.setIfInBounds_toArray, List.set_cons_zero, List.set_cons_succ])
      refine Goes.done (by kernel_rfl) ?_ _
      refine NoPanic.normal ?_
      obtain ⟨h1, h2, h3⟩ := HW1.out
      obtain ⟨WZ, da, dc, hWZ, rfl, kZ, PZ, BZ⟩ := pie_end (NN := NN) kR9 HNN.out HNZ.out B1.out D.out E747.out HB9.out HSW.out HO9.out ⟨rb2, by omega⟩ h3 h1 h2 (Or.inr h746y) (by omega) (Own.mono (HO2.out.keep fun b q1 q2 => E747.out.block b (by omega) (by omega)) (Nat.le_refl _) (by omega))
      rw [hWZ]
      clear hWZ kR9 fR9 k9 k10
      have HBZ : Hid _ := BZ
      have HPZ : Hid _ := PZ
      clear BZ PZ
      go_wp2_with fail
      exact bodyPost_ret (v := .tuple #[.agg #[.slice a1 n1 c1, .slice a2 n2 c2], .int .i64 aa, .slice da m dc]) (by simp [results, Try.results17, go_sem, kZ]) rfl ⟨g, a1, n1, c1, a2, n2, c2, aa, dl, da, m, dc, rfl, HPZ.out, hat, HBZ.out⟩
end Go.Proofs.Ytnbcefdfdonljaa
