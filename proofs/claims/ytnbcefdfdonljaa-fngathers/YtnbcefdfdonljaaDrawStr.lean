/- What the draw of a stream and a gather gives: some bytes, and some gather that can be read and owns its memory; nothing that was in memory turns but the source; no condition. Written by mkdrstr.py. -/
import Derived.Deep.RegionHeld3
import Derived.Deep.DeepCutAuto
import Derived.Deep.DeepMust
import Derived.Deep.MidRow
import Derived.Test.YtnbcefdfdonljaaRows
import Derived.Test.YtnbcefdfdonljaaBase
import Derived.Test.YtnbcefdfdonljaaMem
import Derived.Test.YtnbcefdfdonljaaMemOpen
import Derived.Test.YtnbcefdfdonljaaMemApp
import Derived.Test.YtnbcefdfdonljaaGath
import Derived.Test.YtnbcefdfdonljaaGathLaw
import Derived.Test.YtnbcefdfdonljaaGathByte
import Derived.Test.YtnbcefdfdonljaaPImpl
import Derived.Test.YtnbcefdfdonljaaSPut
import Derived.Test.YtnbcefdfdonljaaPieFacts
import Derived.Test.YtnbcefdfdonljaaStrFacts
import Derived.Test.YtnbcefdfdonljaaRegionU
import Derived.Test.YtnbcefdfdonljaaDraws
import Derived.Test.YtnbcefdfdonljaaDrawsD
import Derived.Test.YtnbcefdfdonljaaDrawSome
import Derived.Test.YtnbcefdfdonljaaDrawStr0
import Derived.Test.YtnbcefdfdonljaaDrawStr1
namespace Go.Proofs.Ytnbcefdfdonljaa
open Go.RowKit
set_option linter.unusedVariables false
set_option linter.unusedSimpArgs false
set_option maxRecDepth 8000
set_option maxHeartbeats 16000000 in
theorem sStream3 (sb : Nat) (a : Option Addr) (len cap : Nat) (zs : List Int) (K0 : Int) (w : World)
    (hs : Src w sb (.slice a len cap) K0) (hr : BRow .u8 w a len cap zs) (hl1 : RowLt sb a zs) (hK0 : 0 ≤ K0) (hK1 : K0 ≤ 100000) :
    Calls Try.prog 38 #[.pointer (some ⟨sb, 0, none⟩)] w fun e w' => ∃ (g : Gt) (a1 : Option Addr) (n1 c1 : Nat) (a2 : Option Addr) (n2 c2 : Nat) (ss : List Int) (bs sn sc : Nat), e = .returned (.tuple #[.slice (some ⟨bs, 0, none⟩) sn sc, .agg #[.slice a1 n1 c1, .slice a2 n2 c2]]) ∧ Strm w' w.heap.size g a1 n1 c1 a2 n2 c2 ss bs sn sc ∧ Dr sb w w' ∧ Src w' sb (.slice a len cap) (K0 + 200) := by
  have hlt := hs.lt
  have HRW : Hid (∀ W, Dr sb w W → BRow .u8 W a len cap zs) := fun W h => hr.below hl1 (h.below (Nat.le_of_lt hlt))
  have HS : Hid _ := hs
  clear hr hs
  go_enter Try.func38, Try.ntmps38
  go_wp2_with fail
  have D : Hid (Dr sb w (w.alloc (.cells #[.slice none 0 0, .slice none 0 0] 26))) := (Dr.refl _ _).then ((Below.refl _ _).alloc (Nat.le_refl _) _) (Nat.le_refl _)
  refine (sNext sb a len cap zs K0 40 _ (HS.out.alloc _) (HRW.out _ D.out) hl1 (by omega) (by omega)).mono ?_
  rintro e w1 ⟨r1, rfl, p1, q1, st1, s1⟩
  have kR : ∀ o, w1.cell? ⟨w.heap.size, o, none⟩ = (#[.slice none 0 0, .slice none 0 0] : Array Value)[o]? := fun o => (st1.dr.cell (p := ⟨w.heap.size, o, none⟩) (by simp) (by dsimp only; omega)).trans (by simp [go_sem])
  have fR : ∀ o, w1.frozen? ⟨w.heap.size, o, none⟩ = false := fun o => (st1.dr.frozen (p := ⟨w.heap.size, o, none⟩) (by simp) (by dsimp only; omega)).trans (by simp [go_sem])
  have zR : w.heap.size < w1.heap.size := by have h := st1.size; simp at h; omega
  replace D : Hid (Dr sb w w1) := D.out.trans st1.dr
  have S : Hid (Src w1 sb (.slice a len cap) (K0 + 1)) := s1
  clear st1 s1 HS
  have hsb1 : sb < w1.heap.size := by omega
  have hww : w.heap.size < w1.heap.size := zR
  have hw6 : IntKind.i64.wrap (6 + r1) = 6 + r1 := w64T (by omega) (by omega)
  go_wp2_with fail
  refine (sSome60 sb a len cap zs _ (6 + r1) w1 S.out (HRW.out _ D.out) hl1 (by omega) (by omega) (by omega)).mono ?_
  rintro e w2 ⟨sv, rfl, ss, ho, hsl, hd, hsr⟩
  obtain ⟨bs, sc, rfl, hbs, hbs2, hsc, hscm⟩ := ob_formT ho (by omega)
  obtain ⟨sn, hsn⟩ : ∃ n, n = ss.length := ⟨_, rfl⟩
  have hsn1 : 6 ≤ sn ∧ sn ≤ 45 := by omega
  rw [← hsn] at ho hsc ⊢
  have OS : Hid (OB w2 w1.heap.size (.slice (some ⟨bs, 0, none⟩) sn sc) ss) := ho
  clear ho hsl
  replace kR := bx_drT kR hd zR (by omega)
  replace fR := fx_drT fR hd zR (by omega)
  replace zR := Nat.lt_of_lt_of_le zR (Dr.size hd)
  replace D : Hid (Dr sb w w2) := D.out.trans hd
  replace S : Hid (Src w2 sb (.slice a len cap) (K0 + 181)) := (hsr).mono (by omega)
  have HLN : Hid (ss.length = sn) := hsn.symm
  clear hd hsr hsn
  go_upto_region 3 with fail
  have kX : ∀ o, (w2.alloc (.cells #[.slice none 0 0, .slice none 0 0] 26)).cell? ⟨w2.heap.size, o, none⟩ = (#[.slice none 0 0, .slice none 0 0] : Array Value)[o]? := bx_al w2 _ _
  have fX : ∀ o, (w2.alloc (.cells #[.slice none 0 0, .slice none 0 0] 26)).frozen? ⟨w2.heap.size, o, none⟩ = false := fx_al w2 _ _
  have hb : Below w2.heap.size w2 (w2.alloc (.cells #[.slice none 0 0, .slice none 0 0] 26)) := (Below.refl _ _).alloc (Nat.le_refl _) _
  have zX : w2.heap.size < (w2.alloc (.cells #[.slice none 0 0, .slice none 0 0] 26)).heap.size := by simp
  generalize hWW : (w2.alloc (.cells #[.slice none 0 0, .slice none 0 0] 26)) = w3 at kX fX hb zX ⊢
  clear hWW
  have hd : Dr sb w2 w3 := (Dr.refl _ _).then hb (Nat.le_refl _)
  have hsl := S.out.lt
  have hXw : w.heap.size < w2.heap.size := zR
  replace kR := bx_drT kR hd zR (by omega)
  replace fR := fx_drT fR hd zR (by omega)
  replace zR := Nat.lt_of_lt_of_le zR (Dr.size hd)
  replace OS : Hid (OB w3 w1.heap.size (.slice (some ⟨bs, 0, none⟩) sn sc) ss) := OS.out.dr hd hsb1
  replace D : Hid (Dr sb w w3) := D.out.trans hd
  replace S : Hid (Src w3 sb (.slice a len cap) (K0 + 181)) := (S.out.bel hb).mono (by omega)
  obtain ⟨XB, hXB⟩ : ∃ q, q = w2.heap.size := ⟨_, rfl⟩
  rw [← hXB] at kX fX zX hXw hsl hbs2 ⊢
  clear hXB hb hd
  go_wp2_with fail
  refine (sNext sb a len cap zs _ 7 _ S.out (HRW.out _ D.out) hl1 (by omega) (by omega)).mono ?_
  rintro e w4 ⟨kq, rfl, pkq, gkq, hd, hsr⟩
  replace kR := bx_drT kR hd.dr zR (by omega)
  replace fR := fx_drT fR hd.dr zR (by omega)
  replace zR := Nat.lt_of_lt_of_le zR (Dr.size hd.dr)
  replace kX := bx_drT kX hd.dr zX (by omega)
  replace fX := fx_drT fX hd.dr zX (by omega)
  replace zX := Nat.lt_of_lt_of_le zX (Dr.size hd.dr)
  replace OS : Hid (OB w4 w1.heap.size (.slice (some ⟨bs, 0, none⟩) sn sc) ss) := OS.out.dr hd.dr hsb1
  replace D : Hid (Dr sb w w4) := D.out.trans hd.dr
  replace S : Hid (Src w4 sb (.slice a len cap) (K0 + 182)) := (hsr).mono (by omega)
  clear hd hsr
  obtain ⟨kn, rfl⟩ : ∃ kn : Nat, kq = (kn : Int) := ⟨kq.toNat, by omega⟩
  have hkn : kn ≤ 6 := by omega
  have X0 : Hid (GT w4 (XB + 1) sn ([], [], ()) none 0 0 none 0 0) := ⟨own_nilG _ _ _, rfl, fun y hy => by unfold gtByte; rw [if_neg (by simp; omega)]; rfl⟩
  have S0 : Hid (Src w4 sb (.slice a len cap) (K0 + 183 + 2 * (6 - (kn : Int)))) := S.out.mono (by omega)
  clear S
  go_wp2_with fail
  go_loopw [7] (fun t wr => ∃ (kk : Nat) (g : Gt) (a1 : Option Addr) (n1 c1 : Nat) (a2 : Option Addr) (n2 c2 : Nat), kk ≤ 6 ∧ t = .int .i64 kk ∧ (∀ o, wr.cell? ⟨XB, o, none⟩ = (#[.slice a1 n1 c1, .slice a2 n2 c2] : Array Value)[o]?) ∧ (∀ o, wr.frozen? ⟨XB, o, none⟩ = false) ∧ (∀ o, wr.cell? ⟨w.heap.size, o, none⟩ = (#[.slice none 0 0, .slice none 0 0] : Array Value)[o]?) ∧ (∀ o, wr.frozen? ⟨w.heap.size, o, none⟩ = false) ∧ XB < wr.heap.size ∧ Hid (OB wr w1.heap.size (.slice (some ⟨bs, 0, none⟩) sn sc) ss) ∧ Hid (GT wr (XB + 1) sn g a1 n1 c1 a2 n2 c2) ∧ Hid (Dr sb w wr) ∧ Hid (Src wr sb (.slice a len cap) (K0 + 183 + 2 * (6 - (kk : Int))))) (fun t _ => (intOf t).toNat)
  case atStart => exact ⟨kn, ([], [], ()), none, 0, 0, none, 0, 0, hkn, rfl, kX, fX, kR, fR, zX, OS, X0, D, S0⟩
  case round =>
    clear kX fX kR fR zX X0 D S0 zR OS
    obtain ⟨kk, g, a1, n1, c1, a2, n2, c2, hk5, rfl, kX, fX, kR, fR, zX, OS, X, D, S⟩ := hrel
    have zR : w.heap.size < wr.heap.size := by omega
    by_cases hpos : 0 < kk
    · have hpos' : (0 : Int) < (kk : Int) := by omega
      go_wp2_with fail
      refine (sNext sb a len cap zs _ sn _ S.out (HRW.out _ D.out) hl1 (by omega) (by omega)).mono ?_
      rintro e v1 ⟨q2, rfl, pq2, gq2, hd, hsr⟩
      replace kR := bx_drT kR hd.dr zR (by omega)
      replace fR := fx_drT fR hd.dr zR (by omega)
      replace zR := Nat.lt_of_lt_of_le zR (Dr.size hd.dr)
      replace kX := bx_drT kX hd.dr zX (by omega)
      replace fX := fx_drT fX hd.dr zX (by omega)
      replace zX := Nat.lt_of_lt_of_le zX (Dr.size hd.dr)
      replace OS : Hid (OB v1 w1.heap.size (.slice (some ⟨bs, 0, none⟩) sn sc) ss) := OS.out.dr hd.dr hsb1
      replace X : Hid (GT v1 (XB + 1) sn g a1 n1 c1 a2 n2 c2) := X.out.dr hd.dr (by omega)
      replace D : Hid (Dr sb w v1) := D.out.trans hd.dr
      replace S : Hid (Src v1 sb (.slice a len cap) (K0 + 184 + 2 * (6 - (kk : Int)))) := (hsr).mono (by omega)
      clear hd hsr
      have hw7 : IntKind.i64.wrap (q2 + 1) = q2 + 1 := w64T (by omega) (by omega)
      go_wp2_with fail
      refine (sNext sb a len cap zs _ 8 _ S.out (HRW.out _ D.out) hl1 (by omega) (by omega)).mono ?_
      rintro e v2 ⟨q3, rfl, pq3, gq3, hd, hsr⟩
      replace kR := bx_drT kR hd.dr zR (by omega)
      replace fR := fx_drT fR hd.dr zR (by omega)
      replace zR := Nat.lt_of_lt_of_le zR (Dr.size hd.dr)
      replace kX := bx_drT kX hd.dr zX (by omega)
      replace fX := fx_drT fX hd.dr zX (by omega)
      replace zX := Nat.lt_of_lt_of_le zX (Dr.size hd.dr)
      replace OS : Hid (OB v2 w1.heap.size (.slice (some ⟨bs, 0, none⟩) sn sc) ss) := OS.out.dr hd.dr hsb1
      replace X : Hid (GT v2 (XB + 1) sn g a1 n1 c1 a2 n2 c2) := X.out.dr hd.dr (by omega)
      replace D : Hid (Dr sb w v2) := D.out.trans hd.dr
      replace S : Hid (Src v2 sb (.slice a len cap) (K0 + 185 + 2 * (6 - (kk : Int)))) := (hsr).mono (by omega)
      clear hd hsr
      have hw8 : IntKind.i64.wrap (q2 + 1 + q3) = q2 + 1 + q3 := w64T (by omega) (by omega)
      go_wp2_with fail
      refine (sMinT (sn : Int) (q2 + 1 + q3) v2).mono ?_
      rintro e v3 ⟨rfl, hv3⟩
      subst hv3
      obtain ⟨x, rfl⟩ : ∃ x : Nat, q2 = (x : Int) := ⟨q2.toNat, by omega⟩
      obtain ⟨m, hm⟩ : ∃ m : Nat, min (sn : Int) ((x : Int) + 1 + q3) = ((x + m : Nat) : Int) := ⟨(min (sn : Int) ((x : Int) + 1 + q3) - x).toNat, by omega⟩
      rw [hm]
      have hxm : x + m ≤ sn := by omega
      have hm1 : 1 ≤ m := by omega
      clear hm hw7 hw8 pq3 gq3
      obtain ⟨dl, hdl⟩ : ∃ l, l = (ss.drop x).take m := ⟨_, rfl⟩
      obtain ⟨PR, PL⟩ := part_rd OS.out hxm (Nat.le_refl _)
      rw [← hdl] at PR PL
      have HPUT : Hid (Calls Try.prog 56 #[.pointer (some ⟨XB, 0, none⟩), .int .i64 (x : Int), .slice (some ⟨bs, x, none⟩) m (sc - x)] v3 fun e w' => ∃ u1 u2, ∃ d : Nat, e = .returned (.agg #[u1, u2]) ∧ FirstGap (putM (gtByte g) x dl) d ∧ Own w' v3.heap.size w'.heap.size gtS (putG (putM (gtByte g) x dl) d) [u1, u2] ∧ Below v3.heap.size v3 w') := by
        have h := sL3Put g _ _ XB x dl (some ⟨bs, x, none⟩) (sc - x) v3 v3.heap.size (X.out.own.rd (Nat.le_refl _)) (by rw [PL]; exact PR) (Nat.le_refl _) X.out.ok (by omega) (by rw [PL]; omega) kX zX
        rw [PL] at h
        exact h
      have HIN : Hid (∀ d, FirstGap (putM (gtByte g) x dl) d → gtFault (putG (putM (gtByte g) x dl) d) = 0 ∧ ∀ y : Int, (sn : Int) ≤ y → gtByte (putG (putM (gtByte g) x dl) d) y = none) := fun d hd => put_in (by omega) X.out.ok X.out.le (by omega) (by rw [PL]; omega) hd
      clear PR PL hdl
      go_wp2_with fail
      refine HPUT.out.mono ?_
      rintro e v4 ⟨u1, u2, d, rfl, hfg, ho4, hb4⟩
      obtain ⟨hF4, hI4⟩ := HIN.out d hfg
      obtain ⟨b1, k1, b2, k2, e4, -, -⟩ := rd_gt (ho4.rd (Nat.le_refl _))
      simp only [List.cons.injEq, and_true] at e4
      obtain ⟨rfl, rfl⟩ := e4
      generalize putG (putM (gtByte g) x dl) d = g4 at ho4 hF4 hI4 ⊢
      obtain ⟨m1, hm1'⟩ : ∃ n, n = g4.1.length := ⟨_, rfl⟩
      obtain ⟨m2, hm2'⟩ : ∃ n, n = g4.2.1.length := ⟨_, rfl⟩
      rw [← hm1', ← hm2'] at ho4 ⊢
      have X4 : Hid (GT v4 v3.heap.size sn g4 b1 m1 k1 b2 m2 k2) := ⟨ho4, hF4, hI4⟩
      have hd : Dr sb v3 v4 := (Dr.refl _ _).then hb4 (Nat.le_refl _)
      have zX3 : XB + 1 ≤ v3.heap.size := zX
      clear hfg ho4 hF4 hI4 hm1' hm2' HPUT HIN X
      replace kR := bx_drT kR hd zR (by omega)
      replace fR := fx_drT fR hd zR (by omega)
      replace zR := Nat.lt_of_lt_of_le zR (Dr.size hd)
      replace kX := bx_drT kX hd zX (by omega)
      replace fX := fx_drT fX hd zX (by omega)
      replace zX := Nat.lt_of_lt_of_le zX (Dr.size hd)
      replace OS : Hid (OB v4 w1.heap.size (.slice (some ⟨bs, 0, none⟩) sn sc) ss) := OS.out.dr hd hsb1
      replace D : Hid (Dr sb w v4) := D.out.trans hd
      replace S : Hid (Src v4 sb (.slice a len cap) (K0 + 185 + 2 * (6 - (kk : Int)))) := (S.out.bel hb4).mono (by omega)
      clear hb4 hd
      go_wp2_with fail
      go_roundw
      case rel => exact ⟨kk - 1, g4, b1, m1, k1, b2, m2, k2, by omega, by go_num, bx_twoT kX, (fun o => by simpa using fX o), (fun o => by rw [(bel_twoT _ _ _ _).cell (p := ⟨w.heap.size, o, none⟩) (by dsimp only; omega)]; exact kR o), (fun o => by rw [(bel_twoT _ _ _ _).frozen (p := ⟨w.heap.size, o, none⟩) (by dsimp only; omega)]; exact fR o), by simpa using zX, OS.out.keep ((bel_twoT _ _ _ _).block bs hbs2), ((X4.out.low zX3).set (by omega)).set (by omega), D.out.then (bel_twoT _ _ _ _) (by omega), (S.out.below (bel_twoT _ _ _ _) (by omega)).mono (by omega)⟩
      case measure => simp [intOf]; omega
    · obtain rfl : kk = 0 := by omega
      go_wp2_with fail
      refine (sNext sb a len cap zs _ 18 _ S.out (HRW.out _ D.out) hl1 (by omega) (by omega)).mono ?_
      rintro e v1 ⟨q, rfl, pq, gq, hd, hsr⟩
      replace kR := bx_drT kR hd.dr zR (by omega)
      replace fR := fx_drT fR hd.dr zR (by omega)
      replace zR := Nat.lt_of_lt_of_le zR (Dr.size hd.dr)
      replace kX := bx_drT kX hd.dr zX (by omega)
      replace fX := fx_drT fX hd.dr zX (by omega)
      replace zX := Nat.lt_of_lt_of_le zX (Dr.size hd.dr)
      replace OS : Hid (OB v1 w1.heap.size (.slice (some ⟨bs, 0, none⟩) sn sc) ss) := OS.out.dr hd.dr hsb1
      replace X : Hid (GT v1 (XB + 1) sn g a1 n1 c1 a2 n2 c2) := X.out.dr hd.dr (by omega)
      replace D : Hid (Dr sb w v1) := D.out.trans hd.dr
      replace S : Hid (Src v1 sb (.slice a len cap) (K0 + 196)) := (hsr).mono (by omega)
      clear hd hsr
      by_cases e0 : q = 0
      case pos =>
        subst e0
        have KK : Hid (∀ W, Dr sb v1 W → ∀ o, W.cell? ⟨XB, o, none⟩ = (#[.slice a1 n1 c1, .slice a2 n2 c2] : Array Value)[o]?) := fun W h => bx_drT kX h zX (by omega)
        have HR1 : Hid (∀ W, Dr sb v1 W → BRow .u8 W a len cap zs) := fun W h => HRW.out W (D.out.trans h)
        have hs1 : sb < v1.heap.size := by omega
        have Ew : Hid (Dr sb v1 v1) := Dr.refl _ _
        have HFW : Hid (g.2.1.length ≤ 1048576) := Nat.le_trans (gtFault_ok X.out.ok).2.1 (by decide)
        go_upto_region 12 with fail
        refine wp_region_noPanic ?_
        refine Goes.start (S := fun w' => ∀ o, w'.cell? ⟨XB, o, none⟩ = (#[.slice a1 n1 c1, .slice a2 n2 c2] : Array Value)[o]?) (z := 10) (by kernel_rfl) ?_
        have E0 : Hid (Dr sb v1 v1.drew) := Dr.drewT sb v1
        have S0 : Hid (Src v1.drew sb (.slice a len cap) (K0 + 196)) := S.out.drewT
        refine Goes.take (i := 0) (oi := ?oi1538) (x := ?vx1538) ?ho1538 (by kernel_rfl) (by kernel_rfl) (by kernel_rfl) (by kernel_rfl) (fun _ _ _ h => h) (Or.inl ⟨?hw1538, ?hy1538⟩) (KK.out _ E0.out) ?rest1538
        case ho1538 => (simp only [List.getElem?_toArray, List.getElem?_cons_zero] <;> rfl)
        case hw1538 => rfl
        case hy1538 => (intro w' hSw; have j0 := hSw; go_simp; (try with_reducible rfl))
        case rest1538 =>
        (try simp only [Act.put, List.setIfInBounds_toArray, List.set_cons_zero, List.set_cons_succ])
        refine Goes.take (i := 1) (oi := ?oi1539) (x := ?vx1539) ?ho1539 (by kernel_rfl) (by kernel_rfl) (by kernel_rfl) (by kernel_rfl) (fun _ _ _ h => h) (Or.inl ⟨?hw1539, ?hy1539⟩) (KK.out _ E0.out) ?rest1539
        case ho1539 => (simp only [List.getElem?_toArray, List.getElem?_cons_succ, List.getElem?_cons_zero] <;> rfl)
        case hw1539 => rfl
        case hy1539 => (intro w' hSw; have j0 := hSw; go_simp; (try with_reducible rfl))
        case rest1539 =>
        (try simp only [Act.put, List.setIfInBounds_toArray, List.set_cons_zero, List.set_cons_succ])
        refine Goes.take (i := 2) (oi := ?oi1540) (x := ?vx1540) ?ho1540 (by kernel_rfl) (by kernel_rfl) (by kernel_rfl) (by kernel_rfl) (fun _ _ _ h => h) (Or.inl ⟨?hw1540, ?hy1540⟩) (KK.out _ E0.out) ?rest1540
        case ho1540 => (simp only [List.getElem?_toArray, List.getElem?_cons_succ, List.getElem?_cons_zero] <;> rfl)
        case hw1540 => rfl
        case hy1540 => (intro w' hSw; have j0 := hSw; go_simp; (try with_reducible rfl))
        case rest1540 =>
        (try simp only [Act.put, List.setIfInBounds_toArray, List.set_cons_zero, List.set_cons_succ])
        refine Goes.all (rs := [3, 5]) (by kernel_rfl) (by simp) ?_
        refine Ups.cons (i := 3) (o := ?oo544) ?ho544 (fun KQ hKQ => ?stp544) (Ups.cons (i := 5) (o := ?oo545) ?ho545 (fun KQ hKQ => ?stp545) Ups.nil)
        case ho544 => (simp only [List.getElem?_toArray, List.getElem?_cons_succ, List.getElem?_cons_zero] <;> rfl)
        case ho545 => (simp only [List.getElem?_toArray, List.getElem?_cons_succ, List.getElem?_cons_zero] <;> rfl)
        case stp545 =>
          go_simp
          obtain ⟨v546, hv546⟩ : ∃ v, v = (v1.alloc (.cells #[.int .u8 1, .int .u8 2] 5)).drew := ⟨_, rfl⟩
          rw [← hv546]
          have b546 : Below v1.heap.size v1 v546 := by rw [hv546]; exact ((Below.refl _ _).alloc (Nat.le_refl _) _).drew
          have OB546 : Hid (OB v546 v1.heap.size (.slice (some ⟨v1.heap.size, 0, none⟩) 2 2) [1, 2]) := by show OB _ _ _ _; rw [hv546]; exact (ob_twoT v1).below (Nat.le_refl _) (Below.drew (Below.refl _ _))
          have g546y : sb < v1.heap.size := by have := Ew.out.size; omega
          have h546y : v1.heap.size ≤ v1.heap.size := Ew.out.size
          have E547 : Hid (Dr sb v1 v546) := Ew.out.trans ((Dr.refl sb v1).then b546 (Nat.le_refl _))
          have S547 : Hid (Src v546 sb (.slice a len cap) (K0 + 196)) := (S.out.bel b546).mono (by omega)
          have ry546z : Hid (Dr sb v546 v546) := Dr.refl _ _
          clear hv546 b546
          refine hKQ.out _ _ (Or.inr (KK.out _ E547.out)) ?_
          clear hKQ KQ
          (try simp only [Act.put, List.setIfInBounds_toArray, List.set_cons_zero, List.set_cons_succ])
          refine Goes.all (rs := [3]) (by kernel_rfl) (by simp) ?_
          refine Ups.cons (i := 3) (o := ?oo548) ?ho548 (fun KQ hKQ => ?stp548) Ups.nil
          case ho548 => (simp only [List.getElem?_toArray, List.getElem?_cons_succ, List.getElem?_cons_zero] <;> rfl)
          case stp548 =>
          go_simp
          obtain ⟨v549, hv549⟩ : ∃ v, v = v546.alloc (.cells #[.int .i64 0, .int .i64 (-1), .int .i64 399, .int .i64 400] 2) := ⟨_, rfl⟩
          rw [← hv549]
          have b549 : Below v546.heap.size v546 v549 := by rw [hv549]; exact (Below.refl _ _).alloc (Nat.le_refl _) _
          have cra : Hid (∀ W, Dr sb v549 W → ∀ i, i < ([0, (-1), 399, 400] : List Int).length → W.cell? ⟨v546.heap.size, i, none⟩ = some (.int .i64 (([0, (-1), 399, 400] : List Int).getD i 0))) := fun W hW i hi => (hW.cell (p := ⟨v546.heap.size, i, none⟩) (by rw [hv549]; simp) (by have := E547.out.size; dsimp only; omega)).trans (by rw [hv549]; exact laid_list v546 [0, (-1), 399, 400] 2 i hi)
          have gra : v546.heap.size ≠ sb := by have := E547.out.size; omega
          have E550 : Hid (Dr sb v1 v549) := E547.out.trans ((Dr.refl sb v546).then b549 (Nat.le_refl _))
          have S550 : Hid (Src v549 sb (.slice a len cap) (K0 + 196)) := (S547.out.bel b549).mono (by omega)
          have ry550 : Hid (Dr sb v546 v549) := ry546z.out.trans ((Dr.refl sb v546).then b549 (Nat.le_refl _))
          have ra549z : Hid (Dr sb v549 v549) := Dr.refl _ _
          clear hv549 b549
          refine hKQ.out _ _ (Or.inr (KK.out _ E550.out)) ?_
          clear hKQ KQ
          (try simp only [Act.put, List.setIfInBounds_toArray, List.set_cons_zero, List.set_cons_succ])
          refine Goes.all (rs := [4]) (by kernel_rfl) (by simp) ?_
          refine Ups.cons (i := 4) (o := ?oo551) ?ho551 (fun KQ hKQ => ?stp551) Ups.nil
          case ho551 => (simp only [List.getElem?_toArray, List.getElem?_cons_succ, List.getElem?_cons_zero] <;> rfl)
          case stp551 =>
          go_simp
          go_at_call 54
          refine (sPickT sb a len cap zs _ (v546.heap.size) [0, (-1), 399, 400] _ S550.out (HR1.out _ E550.out) hl1 (by omega) gra (by simp) (by simp) (cra.out _ ra549z.out)).mono ?_
          rintro e v552 ⟨pq, rfl, hm, dr552, sr552⟩
          simp only [List.mem_cons, List.not_mem_nil, or_false] at hm
          have hat : -1 ≤ pq ∧ pq ≤ 400 := by omega
          clear hm
          have E553 : Hid (Dr sb v1 v552) := E550.out.trans dr552
          have S553 : Hid (Src v552 sb (.slice a len cap) (K0 + 197)) := (sr552).mono (by omega)
          have ry553 : Hid (Dr sb v546 v552) := ry550.out.trans dr552
          have ra553 : Hid (Dr sb v549 v552) := ra549z.out.trans dr552
          clear dr552 sr552
          dsimp only
          refine hKQ.out _ _ (Or.inr (KK.out _ E553.out)) ?_
          clear hKQ KQ
          (try simp only [Act.put, List.setIfInBounds_toArray, List.set_cons_zero, List.set_cons_succ])
          refine Goes.take (i := 6) (oi := ?oi1555) (x := ?vx1555) ?ho1555 (by kernel_rfl) (by kernel_rfl) (by kernel_rfl) (by kernel_rfl) (fun _ _ _ h => h) (Or.inl ⟨?hw1555, ?hy1555⟩) (KK.out _ E553.out) ?rest1555
          case ho1555 => (simp only [List.getElem?_toArray, List.getElem?_cons_succ, List.getElem?_cons_zero] <;> rfl)
          case hw1555 => rfl
          case hy1555 => (intro w' hSw; have j0 := hSw; go_simp; (try with_reducible rfl))
          case rest1555 =>
          (try simp only [Act.put, List.setIfInBounds_toArray, List.set_cons_zero, List.set_cons_succ])
          refine Goes.all (rs := [7]) (by kernel_rfl) (by simp) ?_
          refine Ups.cons (i := 7) (o := ?oo557) ?ho557 (fun KQ hKQ => ?stp557) Ups.nil
          case ho557 => (simp only [List.getElem?_toArray, List.getElem?_cons_succ, List.getElem?_cons_zero] <;> rfl)
          case stp557 =>
          go_simp
          refine hKQ.out _ _ (Or.inr (KK.out _ (E553.out.then ((Below.refl _ _).alloc (Nat.le_refl _) _) E553.out.size))) ?_
          clear hKQ KQ
          (try simp only [Act.put, List.setIfInBounds_toArray, List.set_cons_zero, List.set_cons_succ])
          have HP2 : Hid (Own v552 v1.heap.size v552.heap.size pcS (pq, [1, 2], ()) [.int .i64 pq, (.slice (some ⟨v1.heap.size, 0, none⟩) 2 2)]) := own_pc2 (OB546.out.dr ry553.out g546y) hat (by have := ry553.out.size; have h := OB546.out.own.lt _ rfl; omega) h546y
          have HG2 : Hid (Own v552 (XB + 1) v1.heap.size gtS (g.1, g.2.1, ()) [.slice a1 n1 c1, .slice a2 n2 c2]) := X.out.own.keep fun b h1 h2 => E553.out.block b h2 (by omega)
          have hzW : v1.heap.size ≤ v552.heap.size := E553.out.size
          refine Goes.all (rs := [8]) (by kernel_rfl) (by simp) ?_
          refine Ups.cons (i := 8) (o := ?oo558) ?ho558 (fun KQ hKQ => ?stp558) Ups.nil
          case ho558 => (simp only [List.getElem?_toArray, List.getElem?_cons_succ, List.getElem?_cons_zero] <;> rfl)
          case stp558 =>
          refine app_gt_st v552 (by rfl) _ _ (by rfl) (XB + 1) v1.heap.size v1.heap.size v552.heap.size g.1 g.2.1 (.slice a1 n1 c1) (.slice a2 n2 c2) (by rfl) v552.heap.size rfl (by rfl) HG2.out (pq, [1, 2], ()) [.int .i64 pq, (.slice (some ⟨v1.heap.size, 0, none⟩) 2 2)] HP2.out (by omega) (Nat.le_refl _) (Nat.le_refl _) HFW.out (by omega) ?_
          intro a3 n3 c3 v2 ho2 hb2 hs2
          have HO2 : Hid _ := ho2
          replace OS : Hid (OB v552 w1.heap.size (.slice (some ⟨bs, 0, none⟩) sn sc) ss) := OS.out.dr E553.out hsb1
          replace D : Hid (Dr sb w v552) := D.out.trans E553.out
          replace kR := bx_drT kR E553.out zR (by omega)
          replace fR := fx_drT fR E553.out zR (by omega)
          replace kX := bx_drT kX E553.out zX (by omega)
          replace fX := fx_drT fX E553.out zX (by omega)
          replace zX : XB < v552.heap.size := by omega
          replace zR : w.heap.size < v552.heap.size := by omega
          replace kX : ∀ o, v2.cell? ⟨XB, o, none⟩ = (#[.slice a1 n1 c1, .slice a2 n2 c2] : Array Value)[o]? := fun o => (hb2.cell (p := ⟨XB, o, none⟩) (Nat.lt_succ_self _)).trans (kX o)
          replace fX : ∀ o, v2.frozen? ⟨XB, o, none⟩ = false := fun o => (hb2.frozen (p := ⟨XB, o, none⟩) (Nat.lt_succ_self _)).trans (fX o)
          replace kR : ∀ o, v2.cell? ⟨w.heap.size, o, none⟩ = (#[.slice none 0 0, .slice none 0 0] : Array Value)[o]? := fun o => (hb2.cell (p := ⟨w.heap.size, o, none⟩) (by dsimp only; omega)).trans (kR o)
          replace fR : ∀ o, v2.frozen? ⟨w.heap.size, o, none⟩ = false := fun o => (hb2.frozen (p := ⟨w.heap.size, o, none⟩) (by dsimp only; omega)).trans (fR o)
          replace D : Hid (Dr sb w v2) := D.out.then hb2 (by omega)
          have OS2 : Hid (OB v2 w1.heap.size (.slice (some ⟨bs, 0, none⟩) sn sc) ss) := ob_keepT OS.out hb2 (by omega)
          replace zX : XB < v2.heap.size := Nat.lt_of_lt_of_le zX hb2.size
          replace zR : w.heap.size < v2.heap.size := Nat.lt_of_lt_of_le zR hb2.size
          have S2 : Hid (Src v2 sb (.slice a len cap) (K0 + 197)) := (S553.out.below hb2 (by omega)).mono (by omega)
          clear S
          have S : Hid _ := S2
          clear S2 ho2 hb2 hs2
          refine hKQ.out _ _ (Or.inr kX) ?_
          clear hKQ KQ KK
          (try simp only [Act.put, List.setIfInBounds_toArray, List.set_cons_zero, List.set_cons_succ])
          refine Goes.take (i := 9) (oi := ?oi3560) (x := ?vx3560) ?ho3560 (by kernel_rfl) (by kernel_rfl) (by kernel_rfl) (by kernel_rfl) (fun _ _ _ h => h) (Or.inl ⟨?hw3560, ?hy3560⟩) kX ?rest3560
          case ho3560 => (simp only [List.getElem?_toArray, List.getElem?_cons_succ, List.getElem?_cons_zero] <;> rfl)
          case hw3560 => rfl
          case hy3560 => (intro w' hSw; have j0 := hSw; go_simp; (try with_reducible rfl))
          case rest3560 =>
          (try simp only [Act.put, List.setIfInBounds_toArray, List.set_cons_zero, List.set_cons_succ])
          refine Goes.all (rs := [10]) (by kernel_rfl) (by simp) ?_
          refine Ups.cons (i := 10) (o := ?oo560) ?ho560 (fun KQ hKQ => ?stp560) Ups.nil
          case ho560 => (simp only [List.getElem?_toArray, List.getElem?_cons_succ, List.getElem?_cons_zero] <;> rfl)
          case stp560 =>
          go_simp
          refine hKQ.out _ _ (Or.inl rfl) ?_
          clear hKQ KQ
          (try simp only [Act.put])
          refine Goes.done (by kernel_rfl) ?_ _
          refine NoPanic.normal ?_
          have HST : Hid (Strm (v2.setCell ⟨XB, 1, none⟩ (.slice a3 n3 c3)) (w.heap.size + 1) (g.1, g.2.1 ++ [(pq, [1, 2], ())], ()) a1 n1 c1 a3 n3 c3 ss bs sn sc) := strm_app X.out (by simp) HO2.out OS2.out (by omega) (by omega) hsn1 hbs2
          clear HO2 X OS OS2
          have hbS : Below XB v2 (v2.setCell ⟨XB, 1, none⟩ (.slice a3 n3 c3)) := bel_oneT _ _ _ _
          have kX2 := bx_put kX (k := 1) (v := .slice a3 n3 c3) (by simp)
          simp only [List.setIfInBounds_toArray, List.set_cons_zero, List.set_cons_succ] at kX2
          have fX2 : ∀ o, (v2.setCell ⟨XB, 1, none⟩ (.slice a3 n3 c3)).frozen? ⟨XB, o, none⟩ = false := fun o => by simpa using fX o
          replace kR : ∀ o, (v2.setCell ⟨XB, 1, none⟩ (.slice a3 n3 c3)).cell? ⟨w.heap.size, o, none⟩ = (#[.slice none 0 0, .slice none 0 0] : Array Value)[o]? := fun o => (hbS.cell (p := ⟨w.heap.size, o, none⟩) hXw).trans (kR o)
          replace fR : ∀ o, (v2.setCell ⟨XB, 1, none⟩ (.slice a3 n3 c3)).frozen? ⟨w.heap.size, o, none⟩ = false := fun o => (hbS.frozen (p := ⟨w.heap.size, o, none⟩) hXw).trans (fR o)
          replace D : Hid (Dr sb w (v2.setCell ⟨XB, 1, none⟩ (.slice a3 n3 c3))) := D.out.then hbS (by omega)
          replace S : Hid (Src (v2.setCell ⟨XB, 1, none⟩ (.slice a3 n3 c3)) sb (.slice a len cap) (K0 + 200)) := (S.out.below hbS (by omega)).mono (by omega)
          replace zX : XB < (v2.setCell ⟨XB, 1, none⟩ (.slice a3 n3 c3)).heap.size := Nat.lt_of_lt_of_le zX hbS.size
          replace zR : w.heap.size < (v2.setCell ⟨XB, 1, none⟩ (.slice a3 n3 c3)).heap.size := Nat.lt_of_lt_of_le zR hbS.size
          generalize hWW : (v2.setCell ⟨XB, 1, none⟩ (.slice a3 n3 c3)) = v8 at HST kX2 fX2 kR fR zX zR D S ⊢
          clear hWW hbS kX fX
          have kX := kX2
          have fX := fX2
          clear kX2 fX2
          go_upto_region 17 with fail
          have KK : Hid (∀ W, Dr sb v8 W → ∀ o, W.cell? ⟨XB, o, none⟩ = (#[.slice a1 n1 c1, .slice a3 n3 c3] : Array Value)[o]?) := fun W h => bx_drT kX h zX (by omega)
          refine wp_region_noPanic ?_
          refine Goes.start (S := fun w' => ∀ o, w'.cell? ⟨XB, o, none⟩ = (#[.slice a1 n1 c1, .slice a3 n3 c3] : Array Value)[o]?) (z := 100) (by kernel_rfl) ?_
          have E0 : Hid (Dr sb v8 v8.drew) := Dr.drewT sb v8
          refine Goes.take (i := 0) (oi := ?oi1562) (x := ?vx1562) ?ho1562 (by kernel_rfl) (by kernel_rfl) (by kernel_rfl) (by kernel_rfl) (fun _ _ _ h => h) (Or.inl ⟨?hw1562, ?hy1562⟩) (KK.out _ E0.out) ?rest1562
          case ho1562 => (simp only [List.getElem?_toArray, List.getElem?_cons_zero] <;> rfl)
          case hw1562 => rfl
          case hy1562 => (intro w' hSw; have j0 := hSw; go_simp; (try with_reducible rfl))
          case rest1562 =>
          (try simp only [Act.put, List.setIfInBounds_toArray, List.set_cons_zero, List.set_cons_succ])
          refine Goes.take (i := 1) (oi := ?oi1563) (x := ?vx1563) ?ho1563 (by kernel_rfl) (by kernel_rfl) (by kernel_rfl) (by kernel_rfl) (fun _ _ _ h => h) (Or.inl ⟨?hw1563, ?hy1563⟩) (KK.out _ E0.out) ?rest1563
          case ho1563 => (simp only [List.getElem?_toArray, List.getElem?_cons_succ, List.getElem?_cons_zero] <;> rfl)
          case hw1563 => rfl
          case hy1563 => (intro w' hSw; have j0 := hSw; go_simp; (try with_reducible rfl))
          case rest1563 =>
          (try simp only [Act.put, List.setIfInBounds_toArray, List.set_cons_zero, List.set_cons_succ])
          refine Goes.take (i := 2) (oi := ?oi1564) (x := ?vx1564) ?ho1564 (by kernel_rfl) (by kernel_rfl) (by kernel_rfl) (by kernel_rfl) (fun _ _ _ h => h) (Or.inl ⟨?hw1564, ?hy1564⟩) (KK.out _ E0.out) ?rest1564
          case ho1564 => (simp only [List.getElem?_toArray, List.getElem?_cons_succ, List.getElem?_cons_zero] <;> rfl)
          case hw1564 => rfl
          case hy1564 => (intro w' hSw; have j0 := hSw; go_simp; (try with_reducible rfl))
          case rest1564 =>
          (try simp only [Act.put, List.setIfInBounds_toArray, List.set_cons_zero, List.set_cons_succ])
          obtain ⟨NN, hNN⟩ : ∃ NN : Array Value, NN = (#[.slice a1 n1 c1, .slice a3 n3 c3] : Array Value) := ⟨_, rfl⟩
          have HNN : Hid _ := hNN
          have HNZ : Hid (NN.size = 2) := by show _ = _; rw [hNN]; rfl
          have HNI : Hid ((Try.prog.info? 26).map (·.size) = some NN.size) := by show _ = _; rw [HNZ.out]; exact (by kernel_rfl : (Try.prog.info? 26).map (·.size) = some 2)
          have HNO : Hid (NN.all (·.oneCell') = true) := by show _ = _; rw [hNN]; simp [Value.oneCell']
          clear hNN
          have kR8 := bx_drT kR E0.out zR (by omega)
          have fR8 := fx_drT fR E0.out zR (by omega)
          clear kR fR
          refine Goes.all (rs := [3]) (by kernel_rfl) (by simp) ?_
          refine Ups.cons (i := 3) (o := ?oo572) ?ho572 (fun KQ hKQ => ?stp572) Ups.nil
          case ho572 => (simp only [List.getElem?_toArray, List.getElem?_cons_succ, List.getElem?_cons_zero] <;> rfl)
          case stp572 =>
          rw [if_pos (by rfl)]
          refine wp_store_mid 26 _ _ rfl _ _ NN (by rfl) (by rw [HNN.out]; rfl) (bx_there kR8 fR8 (by rw [HNZ.out]; rfl)) HNI.out HNO.out ?_
          refine hKQ.out _ _ (Or.inr (bx_setOff (KK.out _ E0.out) (by omega))) ?_
          clear hKQ KQ
          (try simp only [Act.put, List.setIfInBounds_toArray, List.set_cons_zero, List.set_cons_succ])
          refine Goes.done (by kernel_rfl) ?_ _
          refine NoPanic.normal ?_
          obtain ⟨WZ, hWZ, kZ, SZ, DZ, QZ⟩ := strm_end (NN := NN) kR8 HNN.out HNZ.out (HST.out.keep (fun b _ => rfl) (Nat.le_refl _)) (D.out.trans E0.out) S.out.drewT hlt
          rw [hWZ]
          clear hWZ kR8 fR8
          have HSZ : Hid _ := SZ
          have HDZ : Hid _ := DZ
          have HQZ : Hid _ := QZ
          clear SZ DZ QZ
          go_wp2_with fail
          exact bodyPost_ret (v := .tuple #[.slice (some ⟨bs, 0, none⟩) sn sc, .agg #[.slice a1 n1 c1, .slice a3 n3 c3]]) (by simp [results, Try.results38, go_sem, kZ]) rfl ⟨(g.1, g.2.1 ++ [(pq, [1, 2], ())], ()), a1, n1, c1, a3, n3, c3, ss, bs, sn, sc, rfl, HSZ.out, HDZ.out, HQZ.out⟩
        case stp544 =>
          go_simp
          obtain ⟨v573, hv573⟩ : ∃ v, v = (v1.alloc (.cells #[.int .i64 0, .int .i64 (-1), .int .i64 399, .int .i64 400] 2)).drew := ⟨_, rfl⟩
          rw [← hv573]
          have b573 : Below v1.heap.size v1 v573 := by rw [hv573]; exact ((Below.refl _ _).alloc (Nat.le_refl _) _).drew
          have cra : Hid (∀ W, Dr sb v573 W → ∀ i, i < ([0, (-1), 399, 400] : List Int).length → W.cell? ⟨v1.heap.size, i, none⟩ = some (.int .i64 (([0, (-1), 399, 400] : List Int).getD i 0))) := fun W hW i hi => (hW.cell (p := ⟨v1.heap.size, i, none⟩) (by rw [hv573]; simp) (by have := Ew.out.size; dsimp only; omega)).trans (by rw [hv573]; exact laid_list v1 [0, (-1), 399, 400] 2 i hi)
          have gra : v1.heap.size ≠ sb := by have := Ew.out.size; omega
          have E574 : Hid (Dr sb v1 v573) := Ew.out.trans ((Dr.refl sb v1).then b573 (Nat.le_refl _))
          have S574 : Hid (Src v573 sb (.slice a len cap) (K0 + 196)) := (S.out.bel b573).mono (by omega)
          have ra573z : Hid (Dr sb v573 v573) := Dr.refl _ _
          clear hv573 b573
          refine hKQ.out _ _ (Or.inr (KK.out _ E574.out)) ?_
          clear hKQ KQ
          (try simp only [Act.put, List.setIfInBounds_toArray, List.set_cons_zero, List.set_cons_succ])
          refine Goes.all (rs := [4, 5]) (by kernel_rfl) (by simp) ?_
          refine Ups.cons (i := 4) (o := ?oo575) ?ho575 (fun KQ hKQ => ?stp575) (Ups.cons (i := 5) (o := ?oo576) ?ho576 (fun KQ hKQ => ?stp576) Ups.nil)
          case ho575 => (simp only [List.getElem?_toArray, List.getElem?_cons_succ, List.getElem?_cons_zero] <;> rfl)
          case ho576 => (simp only [List.getElem?_toArray, List.getElem?_cons_succ, List.getElem?_cons_zero] <;> rfl)
          case stp576 =>
            go_simp
            obtain ⟨v577, hv577⟩ : ∃ v, v = v573.alloc (.cells #[.int .u8 1, .int .u8 2] 5) := ⟨_, rfl⟩
            rw [← hv577]
            have b577 : Below v573.heap.size v573 v577 := by rw [hv577]; exact (Below.refl _ _).alloc (Nat.le_refl _) _
            have OB577 : Hid (OB v577 v573.heap.size (.slice (some ⟨v573.heap.size, 0, none⟩) 2 2) [1, 2]) := by show OB _ _ _ _; rw [hv577]; exact ob_twoT v573
            have g577y : sb < v573.heap.size := by have := E574.out.size; omega
            have h577y : v1.heap.size ≤ v573.heap.size := E574.out.size
            have E578 : Hid (Dr sb v1 v577) := E574.out.trans ((Dr.refl sb v573).then b577 (Nat.le_refl _))
            have S578 : Hid (Src v577 sb (.slice a len cap) (K0 + 196)) := (S574.out.bel b577).mono (by omega)
            have ra578 : Hid (Dr sb v573 v577) := ra573z.out.trans ((Dr.refl sb v573).then b577 (Nat.le_refl _))
            have ry577z : Hid (Dr sb v577 v577) := Dr.refl _ _
            clear hv577 b577
            refine hKQ.out _ _ (Or.inr (KK.out _ E578.out)) ?_
            clear hKQ KQ
            (try simp only [Act.put, List.setIfInBounds_toArray, List.set_cons_zero, List.set_cons_succ])
            refine Goes.all (rs := [4]) (by kernel_rfl) (by simp) ?_
            refine Ups.cons (i := 4) (o := ?oo579) ?ho579 (fun KQ hKQ => ?stp579) Ups.nil
            case ho579 => (simp only [List.getElem?_toArray, List.getElem?_cons_succ, List.getElem?_cons_zero] <;> rfl)
            case stp579 =>
            go_simp
            go_at_call 54
            refine (sPickT sb a len cap zs _ (v1.heap.size) [0, (-1), 399, 400] _ S578.out (HR1.out _ E578.out) hl1 (by omega) gra (by simp) (by simp) (cra.out _ ra578.out)).mono ?_
            rintro e v580 ⟨pq, rfl, hm, dr580, sr580⟩
            simp only [List.mem_cons, List.not_mem_nil, or_false] at hm
            have hat : -1 ≤ pq ∧ pq ≤ 400 := by omega
            clear hm
            have E581 : Hid (Dr sb v1 v580) := E578.out.trans dr580
            have S581 : Hid (Src v580 sb (.slice a len cap) (K0 + 197)) := (sr580).mono (by omega)
            have ra581 : Hid (Dr sb v573 v580) := ra578.out.trans dr580
            have ry581 : Hid (Dr sb v577 v580) := ry577z.out.trans dr580
            clear dr580 sr580
            dsimp only
            refine hKQ.out _ _ (Or.inr (KK.out _ E581.out)) ?_
            clear hKQ KQ
            (try simp only [Act.put, List.setIfInBounds_toArray, List.set_cons_zero, List.set_cons_succ])
            refine Goes.take (i := 6) (oi := ?oi1583) (x := ?vx1583) ?ho1583 (by kernel_rfl) (by kernel_rfl) (by kernel_rfl) (by kernel_rfl) (fun _ _ _ h => h) (Or.inl ⟨?hw1583, ?hy1583⟩) (KK.out _ E581.out) ?rest1583
            case ho1583 => (simp only [List.getElem?_toArray, List.getElem?_cons_succ, List.getElem?_cons_zero] <;> rfl)
            case hw1583 => rfl
            case hy1583 => (intro w' hSw; have j0 := hSw; go_simp; (try with_reducible rfl))
            case rest1583 =>
            (try simp only [Act.put, List.setIfInBounds_toArray, List.set_cons_zero, List.set_cons_succ])
            refine Goes.all (rs := [7]) (by kernel_rfl) (by simp) ?_
            refine Ups.cons (i := 7) (o := ?oo585) ?ho585 (fun KQ hKQ => ?stp585) Ups.nil
            case ho585 => (simp only [List.getElem?_toArray, List.getElem?_cons_succ, List.getElem?_cons_zero] <;> rfl)
            case stp585 =>
            go_simp
            refine hKQ.out _ _ (Or.inr (KK.out _ (E581.out.then ((Below.refl _ _).alloc (Nat.le_refl _) _) E581.out.size))) ?_
            clear hKQ KQ
            (try simp only [Act.put, List.setIfInBounds_toArray, List.set_cons_zero, List.set_cons_succ])
            have HP2 : Hid (Own v580 v1.heap.size v580.heap.size pcS (pq, [1, 2], ()) [.int .i64 pq, (.slice (some ⟨v573.heap.size, 0, none⟩) 2 2)]) := own_pc2 (OB577.out.dr ry581.out g577y) hat (by have := ry581.out.size; have h := OB577.out.own.lt _ rfl; omega) h577y
            have HG2 : Hid (Own v580 (XB + 1) v1.heap.size gtS (g.1, g.2.1, ()) [.slice a1 n1 c1, .slice a2 n2 c2]) := X.out.own.keep fun b h1 h2 => E581.out.block b h2 (by omega)
            have hzW : v1.heap.size ≤ v580.heap.size := E581.out.size
            refine Goes.all (rs := [8]) (by kernel_rfl) (by simp) ?_
            refine Ups.cons (i := 8) (o := ?oo586) ?ho586 (fun KQ hKQ => ?stp586) Ups.nil
            case ho586 => (simp only [List.getElem?_toArray, List.getElem?_cons_succ, List.getElem?_cons_zero] <;> rfl)
            case stp586 =>
            refine app_gt_st v580 (by rfl) _ _ (by rfl) (XB + 1) v1.heap.size v1.heap.size v580.heap.size g.1 g.2.1 (.slice a1 n1 c1) (.slice a2 n2 c2) (by rfl) v580.heap.size rfl (by rfl) HG2.out (pq, [1, 2], ()) [.int .i64 pq, (.slice (some ⟨v573.heap.size, 0, none⟩) 2 2)] HP2.out (by omega) (Nat.le_refl _) (Nat.le_refl _) HFW.out (by omega) ?_
            intro a3 n3 c3 v2 ho2 hb2 hs2
            have HO2 : Hid _ := ho2
            replace OS : Hid (OB v580 w1.heap.size (.slice (some ⟨bs, 0, none⟩) sn sc) ss) := OS.out.dr E581.out hsb1
            replace D : Hid (Dr sb w v580) := D.out.trans E581.out
            replace kR := bx_drT kR E581.out zR (by omega)
            replace fR := fx_drT fR E581.out zR (by omega)
            replace kX := bx_drT kX E581.out zX (by omega)
            replace fX := fx_drT fX E581.out zX (by omega)
            replace zX : XB < v580.heap.size := by omega
            replace zR : w.heap.size < v580.heap.size := by omega
            replace kX : ∀ o, v2.cell? ⟨XB, o, none⟩ = (#[.slice a1 n1 c1, .slice a2 n2 c2] : Array Value)[o]? := fun o => (hb2.cell (p := ⟨XB, o, none⟩) (Nat.lt_succ_self _)).trans (kX o)
            replace fX : ∀ o, v2.frozen? ⟨XB, o, none⟩ = false := fun o => (hb2.frozen (p := ⟨XB, o, none⟩) (Nat.lt_succ_self _)).trans (fX o)
            replace kR : ∀ o, v2.cell? ⟨w.heap.size, o, none⟩ = (#[.slice none 0 0, .slice none 0 0] : Array Value)[o]? := fun o => (hb2.cell (p := ⟨w.heap.size, o, none⟩) (by dsimp only; omega)).trans (kR o)
            replace fR : ∀ o, v2.frozen? ⟨w.heap.size, o, none⟩ = false := fun o => (hb2.frozen (p := ⟨w.heap.size, o, none⟩) (by dsimp only; omega)).trans (fR o)
            replace D : Hid (Dr sb w v2) := D.out.then hb2 (by omega)
            have OS2 : Hid (OB v2 w1.heap.size (.slice (some ⟨bs, 0, none⟩) sn sc) ss) := ob_keepT OS.out hb2 (by omega)
            replace zX : XB < v2.heap.size := Nat.lt_of_lt_of_le zX hb2.size
            replace zR : w.heap.size < v2.heap.size := Nat.lt_of_lt_of_le zR hb2.size
            have S2 : Hid (Src v2 sb (.slice a len cap) (K0 + 197)) := (S581.out.below hb2 (by omega)).mono (by omega)
            clear S
            have S : Hid _ := S2
            clear S2 ho2 hb2 hs2
            refine hKQ.out _ _ (Or.inr kX) ?_
            clear hKQ KQ KK
            (try simp only [Act.put, List.setIfInBounds_toArray, List.set_cons_zero, List.set_cons_succ])
            refine Goes.take (i := 9) (oi := ?oi3588) (x := ?vx3588) ?ho3588 (by kernel_rfl) (by kernel_rfl) (by kernel_rfl) (by kernel_rfl) (fun _ _ _ h => h) (Or.inl ⟨?hw3588, ?hy3588⟩) kX ?rest3588
            case ho3588 => (simp only [List.getElem?_toArray, List.getElem?_cons_succ, List.getElem?_cons_zero] <;> rfl)
            case hw3588 => rfl
            case hy3588 => (intro w' hSw; have j0 := hSw; go_simp; (try with_reducible rfl))
            case rest3588 =>
            (try simp only [Act.put, List.setIfInBounds_toArray, List.set_cons_zero, List.set_cons_succ])
            refine Goes.all (rs := [10]) (by kernel_rfl) (by simp) ?_
            refine Ups.cons (i := 10) (o := ?oo588) ?ho588 (fun KQ hKQ => ?stp588) Ups.nil
            case ho588 => (simp only [List.getElem?_toArray, List.getElem?_cons_succ, List.getElem?_cons_zero] <;> rfl)
            case stp588 =>
            go_simp
            refine hKQ.out _ _ (Or.inl rfl) ?_
            clear hKQ KQ
            (try simp only [Act.put])
            refine Goes.done (by kernel_rfl) ?_ _
            refine NoPanic.normal ?_
            have HST : Hid (Strm (v2.setCell ⟨XB, 1, none⟩ (.slice a3 n3 c3)) (w.heap.size + 1) (g.1, g.2.1 ++ [(pq, [1, 2], ())], ()) a1 n1 c1 a3 n3 c3 ss bs sn sc) := strm_app X.out (by simp) HO2.out OS2.out (by omega) (by omega) hsn1 hbs2
            clear HO2 X OS OS2
            have hbS : Below XB v2 (v2.setCell ⟨XB, 1, none⟩ (.slice a3 n3 c3)) := bel_oneT _ _ _ _
            have kX2 := bx_put kX (k := 1) (v := .slice a3 n3 c3) (by simp)
            simp only [List.setIfInBounds_toArray, List.set_cons_zero, List.set_cons_succ] at kX2
            have fX2 : ∀ o, (v2.setCell ⟨XB, 1, none⟩ (.slice a3 n3 c3)).frozen? ⟨XB, o, none⟩ = false := fun o => by simpa using fX o
            replace kR : ∀ o, (v2.setCell ⟨XB, 1, none⟩ (.slice a3 n3 c3)).cell? ⟨w.heap.size, o, none⟩ = (#[.slice none 0 0, .slice none 0 0] : Array Value)[o]? := fun o => (hbS.cell (p := ⟨w.heap.size, o, none⟩) hXw).trans (kR o)
            replace fR : ∀ o, (v2.setCell ⟨XB, 1, none⟩ (.slice a3 n3 c3)).frozen? ⟨w.heap.size, o, none⟩ = false := fun o => (hbS.frozen (p := ⟨w.heap.size, o, none⟩) hXw).trans (fR o)
            replace D : Hid (Dr sb w (v2.setCell ⟨XB, 1, none⟩ (.slice a3 n3 c3))) := D.out.then hbS (by omega)
            replace S : Hid (Src (v2.setCell ⟨XB, 1, none⟩ (.slice a3 n3 c3)) sb (.slice a len cap) (K0 + 200)) := (S.out.below hbS (by omega)).mono (by omega)
            replace zX : XB < (v2.setCell ⟨XB, 1, none⟩ (.slice a3 n3 c3)).heap.size := Nat.lt_of_lt_of_le zX hbS.size
            replace zR : w.heap.size < (v2.setCell ⟨XB, 1, none⟩ (.slice a3 n3 c3)).heap.size := Nat.lt_of_lt_of_le zR hbS.size
            generalize hWW : (v2.setCell ⟨XB, 1, none⟩ (.slice a3 n3 c3)) = v8 at HST kX2 fX2 kR fR zX zR D S ⊢
            clear hWW hbS kX fX
            have kX := kX2
            have fX := fX2
            clear kX2 fX2
            go_upto_region 17 with fail
            have KK : Hid (∀ W, Dr sb v8 W → ∀ o, W.cell? ⟨XB, o, none⟩ = (#[.slice a1 n1 c1, .slice a3 n3 c3] : Array Value)[o]?) := fun W h => bx_drT kX h zX (by omega)
            refine wp_region_noPanic ?_
            refine Goes.start (S := fun w' => ∀ o, w'.cell? ⟨XB, o, none⟩ = (#[.slice a1 n1 c1, .slice a3 n3 c3] : Array Value)[o]?) (z := 100) (by kernel_rfl) ?_
            have E0 : Hid (Dr sb v8 v8.drew) := Dr.drewT sb v8
            refine Goes.take (i := 0) (oi := ?oi1590) (x := ?vx1590) ?ho1590 (by kernel_rfl) (by kernel_rfl) (by kernel_rfl) (by kernel_rfl) (fun _ _ _ h => h) (Or.inl ⟨?hw1590, ?hy1590⟩) (KK.out _ E0.out) ?rest1590
            case ho1590 => (simp only [List.getElem?_toArray, List.getElem?_cons_zero] <;> rfl)
            case hw1590 => rfl
            case hy1590 => (intro w' hSw; have j0 := hSw; go_simp; (try with_reducible rfl))
            case rest1590 =>
            (try simp only [Act.put, List.setIfInBounds_toArray, List.set_cons_zero, List.set_cons_succ])
            refine Goes.take (i := 1) (oi := ?oi1591) (x := ?vx1591) ?ho1591 (by kernel_rfl) (by kernel_rfl) (by kernel_rfl) (by kernel_rfl) (fun _ _ _ h => h) (Or.inl ⟨?hw1591, ?hy1591⟩) (KK.out _ E0.out) ?rest1591
            case ho1591 => (simp only [List.getElem?_toArray, List.getElem?_cons_succ, List.getElem?_cons_zero] <;> rfl)
            case hw1591 => rfl
            case hy1591 => (intro w' hSw; have j0 := hSw; go_simp; (try with_reducible rfl))
            case rest1591 =>
            (try simp only [Act.put, List.setIfInBounds_toArray, List.set_cons_zero, List.set_cons_succ])
            refine Goes.take (i := 2) (oi := ?oi1592) (x := ?vx1592) ?ho1592 (by kernel_rfl) (by kernel_rfl) (by kernel_rfl) (by kernel_rfl) (fun _ _ _ h => h) (Or.inl ⟨?hw1592, ?hy1592⟩) (KK.out _ E0.out) ?rest1592
            case ho1592 => (simp only [List.getElem?_toArray, List.getElem?_cons_succ, List.getElem?_cons_zero] <;> rfl)
            case hw1592 => rfl
            case hy1592 => (intro w' hSw; have j0 := hSw; go_simp; (try with_reducible rfl))
            case rest1592 =>
            (try simp only [Act.put, List.setIfInBounds_toArray, List.set_cons_zero, List.set_cons_succ])
            obtain ⟨NN, hNN⟩ : ∃ NN : Array Value, NN = (#[.slice a1 n1 c1, .slice a3 n3 c3] : Array Value) := ⟨_, rfl⟩
            have HNN : Hid _ := hNN
            have HNZ : Hid (NN.size = 2) := by show _ = _; rw [hNN]; rfl
            have HNI : Hid ((Try.prog.info? 26).map (·.size) = some NN.size) := by show _ = _; rw [HNZ.out]; exact (by kernel_rfl : (Try.prog.info? 26).map (·.size) = some 2)
            have HNO : Hid (NN.all (·.oneCell') = true) := by show _ = _; rw [hNN]; simp [Value.oneCell']
            clear hNN
            have kR8 := bx_drT kR E0.out zR (by omega)
            have fR8 := fx_drT fR E0.out zR (by omega)
            clear kR fR
            refine Goes.all (rs := [3]) (by kernel_rfl) (by simp) ?_
            refine Ups.cons (i := 3) (o := ?oo600) ?ho600 (fun KQ hKQ => ?stp600) Ups.nil
            case ho600 => (simp only [List.getElem?_toArray, List.getElem?_cons_succ, List.getElem?_cons_zero] <;> rfl)
            case stp600 =>
            rw [if_pos (by rfl)]
            refine wp_store_mid 26 _ _ rfl _ _ NN (by rfl) (by rw [HNN.out]; rfl) (bx_there kR8 fR8 (by rw [HNZ.out]; rfl)) HNI.out HNO.out ?_
            refine hKQ.out _ _ (Or.inr (bx_setOff (KK.out _ E0.out) (by omega))) ?_
            clear hKQ KQ
            (try simp only [Act.put, List.setIfInBounds_toArray, List.set_cons_zero, List.set_cons_succ])
            refine Goes.done (by kernel_rfl) ?_ _
            refine NoPanic.normal ?_
            obtain ⟨WZ, hWZ, kZ, SZ, DZ, QZ⟩ := strm_end (NN := NN) kR8 HNN.out HNZ.out (HST.out.keep (fun b _ => rfl) (Nat.le_refl _)) (D.out.trans E0.out) S.out.drewT hlt
            rw [hWZ]
            clear hWZ kR8 fR8
            have HSZ : Hid _ := SZ
            have HDZ : Hid _ := DZ
            have HQZ : Hid _ := QZ
            clear SZ DZ QZ
            go_wp2_with fail
            exact bodyPost_ret (v := .tuple #[.slice (some ⟨bs, 0, none⟩) sn sc, .agg #[.slice a1 n1 c1, .slice a3 n3 c3]]) (by simp [results, Try.results38, go_sem, kZ]) rfl ⟨(g.1, g.2.1 ++ [(pq, [1, 2], ())], ()), a1, n1, c1, a3, n3, c3, ss, bs, sn, sc, rfl, HSZ.out, HDZ.out, HQZ.out⟩
          case stp575 =>
            go_simp
            go_at_call 54
            refine (sPickT sb a len cap zs _ (v1.heap.size) [0, (-1), 399, 400] _ S574.out (HR1.out _ E574.out) hl1 (by omega) gra (by simp) (by simp) (cra.out _ ra573z.out)).mono ?_
            rintro e v601 ⟨pq, rfl, hm, dr601, sr601⟩
            simp only [List.mem_cons, List.not_mem_nil, or_false] at hm
            have hat : -1 ≤ pq ∧ pq ≤ 400 := by omega
            clear hm
            have E602 : Hid (Dr sb v1 v601) := E574.out.trans dr601
            have S602 : Hid (Src v601 sb (.slice a len cap) (K0 + 197)) := (sr601).mono (by omega)
            have ra602 : Hid (Dr sb v573 v601) := ra573z.out.trans dr601
            clear dr601 sr601
            dsimp only
            refine hKQ.out _ _ (Or.inr (KK.out _ E602.out)) ?_
            clear hKQ KQ
            (try simp only [Act.put, List.setIfInBounds_toArray, List.set_cons_zero, List.set_cons_succ])
            refine Goes.all (rs := [5]) (by kernel_rfl) (by simp) ?_
            refine Ups.cons (i := 5) (o := ?oo603) ?ho603 (fun KQ hKQ => ?stp603) Ups.nil
            case ho603 => (simp only [List.getElem?_toArray, List.getElem?_cons_succ, List.getElem?_cons_zero] <;> rfl)
            case stp603 =>
            go_simp
            obtain ⟨v604, hv604⟩ : ∃ v, v = v601.alloc (.cells #[.int .u8 1, .int .u8 2] 5) := ⟨_, rfl⟩
            rw [← hv604]
            have b604 : Below v601.heap.size v601 v604 := by rw [hv604]; exact (Below.refl _ _).alloc (Nat.le_refl _) _
            have OB604 : Hid (OB v604 v601.heap.size (.slice (some ⟨v601.heap.size, 0, none⟩) 2 2) [1, 2]) := by show OB _ _ _ _; rw [hv604]; exact ob_twoT v601
            have g604y : sb < v601.heap.size := by have := E602.out.size; omega
            have h604y : v1.heap.size ≤ v601.heap.size := E602.out.size
            have E605 : Hid (Dr sb v1 v604) := E602.out.trans ((Dr.refl sb v601).then b604 (Nat.le_refl _))
            have S605 : Hid (Src v604 sb (.slice a len cap) (K0 + 197)) := (S602.out.bel b604).mono (by omega)
            have ra605 : Hid (Dr sb v573 v604) := ra602.out.trans ((Dr.refl sb v601).then b604 (Nat.le_refl _))
            have ry604z : Hid (Dr sb v604 v604) := Dr.refl _ _
            clear hv604 b604
            refine hKQ.out _ _ (Or.inr (KK.out _ E605.out)) ?_
            clear hKQ KQ
            (try simp only [Act.put, List.setIfInBounds_toArray, List.set_cons_zero, List.set_cons_succ])
            refine Goes.take (i := 6) (oi := ?oi1607) (x := ?vx1607) ?ho1607 (by kernel_rfl) (by kernel_rfl) (by kernel_rfl) (by kernel_rfl) (fun _ _ _ h => h) (Or.inl ⟨?hw1607, ?hy1607⟩) (KK.out _ E605.out) ?rest1607
            case ho1607 => (simp only [List.getElem?_toArray, List.getElem?_cons_succ, List.getElem?_cons_zero] <;> rfl)
            case hw1607 => rfl
            case hy1607 => (intro w' hSw; have j0 := hSw; go_simp; (try with_reducible rfl))
            case rest1607 =>
            (try simp only [Act.put, List.setIfInBounds_toArray, List.set_cons_zero, List.set_cons_succ])
            refine Goes.all (rs := [7]) (by kernel_rfl) (by simp) ?_
            refine Ups.cons (i := 7) (o := ?oo609) ?ho609 (fun KQ hKQ => ?stp609) Ups.nil
            case ho609 => (simp only [List.getElem?_toArray, List.getElem?_cons_succ, List.getElem?_cons_zero] <;> rfl)
            case stp609 =>
            go_simp
            refine hKQ.out _ _ (Or.inr (KK.out _ (E605.out.then ((Below.refl _ _).alloc (Nat.le_refl _) _) E605.out.size))) ?_
            clear hKQ KQ
            (try simp only [Act.put, List.setIfInBounds_toArray, List.set_cons_zero, List.set_cons_succ])
            have HP2 : Hid (Own v604 v1.heap.size v604.heap.size pcS (pq, [1, 2], ()) [.int .i64 pq, (.slice (some ⟨v601.heap.size, 0, none⟩) 2 2)]) := own_pc2 (OB604.out.dr ry604z.out g604y) hat (by have := ry604z.out.size; have h := OB604.out.own.lt _ rfl; omega) h604y
            have HG2 : Hid (Own v604 (XB + 1) v1.heap.size gtS (g.1, g.2.1, ()) [.slice a1 n1 c1, .slice a2 n2 c2]) := X.out.own.keep fun b h1 h2 => E605.out.block b h2 (by omega)
            have hzW : v1.heap.size ≤ v604.heap.size := E605.out.size
            refine Goes.all (rs := [8]) (by kernel_rfl) (by simp) ?_
            refine Ups.cons (i := 8) (o := ?oo610) ?ho610 (fun KQ hKQ => ?stp610) Ups.nil
            case ho610 => (simp only [List.getElem?_toArray, List.getElem?_cons_succ, List.getElem?_cons_zero] <;> rfl)
            case stp610 =>
            refine app_gt_st v604 (by rfl) _ _ (by rfl) (XB + 1) v1.heap.size v1.heap.size v604.heap.size g.1 g.2.1 (.slice a1 n1 c1) (.slice a2 n2 c2) (by rfl) v604.heap.size rfl (by rfl) HG2.out (pq, [1, 2], ()) [.int .i64 pq, (.slice (some ⟨v601.heap.size, 0, none⟩) 2 2)] HP2.out (by omega) (Nat.le_refl _) (Nat.le_refl _) HFW.out (by omega) ?_
            intro a3 n3 c3 v2 ho2 hb2 hs2
            have HO2 : Hid _ := ho2
            replace OS : Hid (OB v604 w1.heap.size (.slice (some ⟨bs, 0, none⟩) sn sc) ss) := OS.out.dr E605.out hsb1
            replace D : Hid (Dr sb w v604) := D.out.trans E605.out
            replace kR := bx_drT kR E605.out zR (by omega)
            replace fR := fx_drT fR E605.out zR (by omega)
            replace kX := bx_drT kX E605.out zX (by omega)
            replace fX := fx_drT fX E605.out zX (by omega)
            replace zX : XB < v604.heap.size := by omega
            replace zR : w.heap.size < v604.heap.size := by omega
            replace kX : ∀ o, v2.cell? ⟨XB, o, none⟩ = (#[.slice a1 n1 c1, .slice a2 n2 c2] : Array Value)[o]? := fun o => (hb2.cell (p := ⟨XB, o, none⟩) (Nat.lt_succ_self _)).trans (kX o)
            replace fX : ∀ o, v2.frozen? ⟨XB, o, none⟩ = false := fun o => (hb2.frozen (p := ⟨XB, o, none⟩) (Nat.lt_succ_self _)).trans (fX o)
            replace kR : ∀ o, v2.cell? ⟨w.heap.size, o, none⟩ = (#[.slice none 0 0, .slice none 0 0] : Array Value)[o]? := fun o => (hb2.cell (p := ⟨w.heap.size, o, none⟩) (by dsimp only; omega)).trans (kR o)
            replace fR : ∀ o, v2.frozen? ⟨w.heap.size, o, none⟩ = false := fun o => (hb2.frozen (p := ⟨w.heap.size, o, none⟩) (by dsimp only; omega)).trans (fR o)
            replace D : Hid (Dr sb w v2) := D.out.then hb2 (by omega)
            have OS2 : Hid (OB v2 w1.heap.size (.slice (some ⟨bs, 0, none⟩) sn sc) ss) := ob_keepT OS.out hb2 (by omega)
            replace zX : XB < v2.heap.size := Nat.lt_of_lt_of_le zX hb2.size
            replace zR : w.heap.size < v2.heap.size := Nat.lt_of_lt_of_le zR hb2.size
            have S2 : Hid (Src v2 sb (.slice a len cap) (K0 + 197)) := (S605.out.below hb2 (by omega)).mono (by omega)
            clear S
            have S : Hid _ := S2
            clear S2 ho2 hb2 hs2
            refine hKQ.out _ _ (Or.inr kX) ?_
            clear hKQ KQ KK
            (try simp only [Act.put, List.setIfInBounds_toArray, List.set_cons_zero, List.set_cons_succ])
            refine Goes.take (i := 9) (oi := ?oi3612) (x := ?vx3612) ?ho3612 (by kernel_rfl) (by kernel_rfl) (by kernel_rfl) (by kernel_rfl) (fun _ _ _ h => h) (Or.inl ⟨?hw3612, ?hy3612⟩) kX ?rest3612
            case ho3612 => (simp only [List.getElem?_toArray, List.getElem?_cons_succ, List.getElem?_cons_zero] <;> rfl)
            case hw3612 => rfl
            case hy3612 => (intro w' hSw; have j0 := hSw; go_simp; (try with_reducible rfl))
            case rest3612 =>
            (try simp only [Act.put, List.setIfInBounds_toArray, List.set_cons_zero, List.set_cons_succ])
            refine Goes.all (rs := [10]) (by kernel_rfl) (by simp) ?_
            refine Ups.cons (i := 10) (o := ?oo612) ?ho612 (fun KQ hKQ => ?stp612) Ups.nil
            case ho612 => (simp only [List.getElem?_toArray, List.getElem?_cons_succ, List.getElem?_cons_zero] <;> rfl)
            case stp612 =>
            go_simp
            refine hKQ.out _ _ (Or.inl rfl) ?_
            clear hKQ KQ
            (try simp only [Act.put])
            refine Goes.done (by kernel_rfl) ?_ _
            refine NoPanic.normal ?_
            have HST : Hid (Strm (v2.setCell ⟨XB, 1, none⟩ (.slice a3 n3 c3)) (w.heap.size + 1) (g.1, g.2.1 ++ [(pq, [1, 2], ())], ()) a1 n1 c1 a3 n3 c3 ss bs sn sc) := strm_app X.out (by simp) HO2.out OS2.out (by omega) (by omega) hsn1 hbs2
            clear HO2 X OS OS2
            have hbS : Below XB v2 (v2.setCell ⟨XB, 1, none⟩ (.slice a3 n3 c3)) := bel_oneT _ _ _ _
            have kX2 := bx_put kX (k := 1) (v := .slice a3 n3 c3) (by simp)
            simp only [List.setIfInBounds_toArray, List.set_cons_zero, List.set_cons_succ] at kX2
            have fX2 : ∀ o, (v2.setCell ⟨XB, 1, none⟩ (.slice a3 n3 c3)).frozen? ⟨XB, o, none⟩ = false := fun o => by simpa using fX o
            replace kR : ∀ o, (v2.setCell ⟨XB, 1, none⟩ (.slice a3 n3 c3)).cell? ⟨w.heap.size, o, none⟩ = (#[.slice none 0 0, .slice none 0 0] : Array Value)[o]? := fun o => (hbS.cell (p := ⟨w.heap.size, o, none⟩) hXw).trans (kR o)
            replace fR : ∀ o, (v2.setCell ⟨XB, 1, none⟩ (.slice a3 n3 c3)).frozen? ⟨w.heap.size, o, none⟩ = false := fun o => (hbS.frozen (p := ⟨w.heap.size, o, none⟩) hXw).trans (fR o)
            replace D : Hid (Dr sb w (v2.setCell ⟨XB, 1, none⟩ (.slice a3 n3 c3))) := D.out.then hbS (by omega)
            replace S : Hid (Src (v2.setCell ⟨XB, 1, none⟩ (.slice a3 n3 c3)) sb (.slice a len cap) (K0 + 200)) := (S.out.below hbS (by omega)).mono (by omega)
            replace zX : XB < (v2.setCell ⟨XB, 1, none⟩ (.slice a3 n3 c3)).heap.size := Nat.lt_of_lt_of_le zX hbS.size
            replace zR : w.heap.size < (v2.setCell ⟨XB, 1, none⟩ (.slice a3 n3 c3)).heap.size := Nat.lt_of_lt_of_le zR hbS.size
            generalize hWW : (v2.setCell ⟨XB, 1, none⟩ (.slice a3 n3 c3)) = v8 at HST kX2 fX2 kR fR zX zR D S ⊢
            clear hWW hbS kX fX
            have kX := kX2
            have fX := fX2
            clear kX2 fX2
            go_upto_region 17 with fail
            have KK : Hid (∀ W, Dr sb v8 W → ∀ o, W.cell? ⟨XB, o, none⟩ = (#[.slice a1 n1 c1, .slice a3 n3 c3] : Array Value)[o]?) := fun W h => bx_drT kX h zX (by omega)
            refine wp_region_noPanic ?_
            refine Goes.start (S := fun w' => ∀ o, w'.cell? ⟨XB, o, none⟩ = (#[.slice a1 n1 c1, .slice a3 n3 c3] : Array Value)[o]?) (z := 100) (by kernel_rfl) ?_
            have E0 : Hid (Dr sb v8 v8.drew) := Dr.drewT sb v8
            refine Goes.take (i := 0) (oi := ?oi1614) (x := ?vx1614) ?ho1614 (by kernel_rfl) (by kernel_rfl) (by kernel_rfl) (by kernel_rfl) (fun _ _ _ h => h) (Or.inl ⟨?hw1614, ?hy1614⟩) (KK.out _ E0.out) ?rest1614
            case ho1614 => (simp only [List.getElem?_toArray, List.getElem?_cons_zero] <;> rfl)
            case hw1614 => rfl
            case hy1614 => (intro w' hSw; have j0 := hSw; go_simp; (try with_reducible rfl))
            case rest1614 =>
            (try simp only [Act.put, List.setIfInBounds_toArray, List.set_cons_zero, List.set_cons_succ])
            refine Goes.take (i := 1) (oi := ?oi1615) (x := ?vx1615) ?ho1615 (by kernel_rfl) (by kernel_rfl) (by kernel_rfl) (by kernel_rfl) (fun _ _ _ h => h) (Or.inl ⟨?hw1615, ?hy1615⟩) (KK.out _ E0.out) ?rest1615
            case ho1615 => (simp only [List.getElem?_toArray, List.getElem?_cons_succ, List.getElem?_cons_zero] <;> rfl)
            case hw1615 => rfl
            case hy1615 => (intro w' hSw; have j0 := hSw; go_simp; (try with_reducible rfl))
            case rest1615 =>
            (try simp only [Act.put, List.setIfInBounds_toArray, List.set_cons_zero, List.set_cons_succ])
            refine Goes.take (i := 2) (oi := ?oi1616) (x := ?vx1616) ?ho1616 (by kernel_rfl) (by kernel_rfl) (by kernel_rfl) (by kernel_rfl) (fun _ _ _ h => h) (Or.inl ⟨?hw1616, ?hy1616⟩) (KK.out _ E0.out) ?rest1616
            case ho1616 => (simp only [List.getElem?_toArray, List.getElem?_cons_succ, List.getElem?_cons_zero] <;> rfl)
            case hw1616 => rfl
            case hy1616 => (intro w' hSw; have j0 := hSw; go_simp; (try with_reducible rfl))
            case rest1616 =>
            (try simp only [Act.put, List.setIfInBounds_toArray, List.set_cons_zero, List.set_cons_succ])
            obtain ⟨NN, hNN⟩ : ∃ NN : Array Value, NN = (#[.slice a1 n1 c1, .slice a3 n3 c3] : Array Value) := ⟨_, rfl⟩
            have HNN : Hid _ := hNN
            have HNZ : Hid (NN.size = 2) := by show _ = _; rw [hNN]; rfl
            have HNI : Hid ((Try.prog.info? 26).map (·.size) = some NN.size) := by show _ = _; rw [HNZ.out]; exact (by kernel_rfl : (Try.prog.info? 26).map (·.size) = some 2)
            have HNO : Hid (NN.all (·.oneCell') = true) := by show _ = _; rw [hNN]; simp [Value.oneCell']
            clear hNN
            have kR8 := bx_drT kR E0.out zR (by omega)
            have fR8 := fx_drT fR E0.out zR (by omega)
            clear kR fR
            refine Goes.all (rs := [3]) (by kernel_rfl) (by simp) ?_
            refine Ups.cons (i := 3) (o := ?oo624) ?ho624 (fun KQ hKQ => ?stp624) Ups.nil
            case ho624 => (simp only [List.getElem?_toArray, List.getElem?_cons_succ, List.getElem?_cons_zero] <;> rfl)
            case stp624 =>
            rw [if_pos (by rfl)]
            refine wp_store_mid 26 _ _ rfl _ _ NN (by rfl) (by rw [HNN.out]; rfl) (bx_there kR8 fR8 (by rw [HNZ.out]; rfl)) HNI.out HNO.out ?_
            refine hKQ.out _ _ (Or.inr (bx_setOff (KK.out _ E0.out) (by omega))) ?_
            clear hKQ KQ
            (try simp only [Act.put, List.setIfInBounds_toArray, List.set_cons_zero, List.set_cons_succ])
            refine Goes.done (by kernel_rfl) ?_ _
            refine NoPanic.normal ?_
            obtain ⟨WZ, hWZ, kZ, SZ, DZ, QZ⟩ := strm_end (NN := NN) kR8 HNN.out HNZ.out (HST.out.keep (fun b _ => rfl) (Nat.le_refl _)) (D.out.trans E0.out) S.out.drewT hlt
            rw [hWZ]
            clear hWZ kR8 fR8
            have HSZ : Hid _ := SZ
            have HDZ : Hid _ := DZ
            have HQZ : Hid _ := QZ
            clear SZ DZ QZ
            go_wp2_with fail
            exact bodyPost_ret (v := .tuple #[.slice (some ⟨bs, 0, none⟩) sn sc, .agg #[.slice a1 n1 c1, .slice a3 n3 c3]]) (by simp [results, Try.results38, go_sem, kZ]) rfl ⟨(g.1, g.2.1 ++ [(pq, [1, 2], ())], ()), a1, n1, c1, a3, n3, c3, ss, bs, sn, sc, rfl, HSZ.out, HDZ.out, HQZ.out⟩
      by_cases e1 : q = 1
      case pos =>
        subst e1
        have HFW : Hid (g.2.1.length ≤ 1048576) := Nat.le_trans (gtFault_ok X.out.ok).2.1 (by decide)
        go_upto_region 17 with (at_builtin; refine app_gt v1 (by rfl) _ _ (by rfl) (XB + 1) v1.heap.size v1.heap.size v1.heap.size g.1 g.2.1 (.slice a1 n1 c1) (.slice a2 n2 c2) (by rfl) v1.heap.size rfl (by rfl) X.out.own (300, [], ()) [.int .i64 300, .slice none 0 0] (own_pc0 _ _ _ (Nat.le_refl _)) (by omega) (Nat.le_refl _) (Nat.le_refl _) HFW.out (by omega) ?_; intro a3 n3 c3 v2 ho2 hb2 hs2; have HO2 : Hid _ := ho2; replace kX : ∀ o, v2.cell? ⟨XB, o, none⟩ = (#[.slice a1 n1 c1, .slice a2 n2 c2] : Array Value)[o]? := fun o => (hb2.cell (p := ⟨XB, o, none⟩) (Nat.lt_succ_self _)).trans (kX o); replace fX : ∀ o, v2.frozen? ⟨XB, o, none⟩ = false := fun o => (hb2.frozen (p := ⟨XB, o, none⟩) (Nat.lt_succ_self _)).trans (fX o); replace kR : ∀ o, v2.cell? ⟨w.heap.size, o, none⟩ = (#[.slice none 0 0, .slice none 0 0] : Array Value)[o]? := fun o => (hb2.cell (p := ⟨w.heap.size, o, none⟩) (by dsimp only; omega)).trans (kR o); replace fR : ∀ o, v2.frozen? ⟨w.heap.size, o, none⟩ = false := fun o => (hb2.frozen (p := ⟨w.heap.size, o, none⟩) (by dsimp only; omega)).trans (fR o); replace D : Hid (Dr sb w v2) := D.out.then hb2 (by omega); have OS2 : Hid (OB v2 w1.heap.size (.slice (some ⟨bs, 0, none⟩) sn sc) ss) := ob_keepT OS.out hb2 (by omega); replace zX : XB < v2.heap.size := Nat.lt_of_lt_of_le zX hb2.size; replace zR : w.heap.size < v2.heap.size := Nat.lt_of_lt_of_le zR hb2.size; replace S : Hid (Src v2 sb (.slice a len cap) (K0 + 196)) := S.out.below hb2 (by omega); clear ho2 hb2 hs2)
        have HST : Hid (Strm (v2.setCell ⟨XB, 1, none⟩ (.slice a3 n3 c3)) (w.heap.size + 1) (g.1, g.2.1 ++ [(300, [], ())], ()) a1 n1 c1 a3 n3 c3 ss bs sn sc) := strm_app X.out (by simp) HO2.out OS2.out (by omega) (by omega) hsn1 hbs2
        clear HO2 X OS OS2
        have hbS : Below XB v2 (v2.setCell ⟨XB, 1, none⟩ (.slice a3 n3 c3)) := bel_oneT _ _ _ _
        have kX2 := bx_put kX (k := 1) (v := .slice a3 n3 c3) (by simp)
        simp only [List.setIfInBounds_toArray, List.set_cons_zero, List.set_cons_succ] at kX2
        have fX2 : ∀ o, (v2.setCell ⟨XB, 1, none⟩ (.slice a3 n3 c3)).frozen? ⟨XB, o, none⟩ = false := fun o => by simpa using fX o
        replace kR : ∀ o, (v2.setCell ⟨XB, 1, none⟩ (.slice a3 n3 c3)).cell? ⟨w.heap.size, o, none⟩ = (#[.slice none 0 0, .slice none 0 0] : Array Value)[o]? := fun o => (hbS.cell (p := ⟨w.heap.size, o, none⟩) hXw).trans (kR o)
        replace fR : ∀ o, (v2.setCell ⟨XB, 1, none⟩ (.slice a3 n3 c3)).frozen? ⟨w.heap.size, o, none⟩ = false := fun o => (hbS.frozen (p := ⟨w.heap.size, o, none⟩) hXw).trans (fR o)
        replace D : Hid (Dr sb w (v2.setCell ⟨XB, 1, none⟩ (.slice a3 n3 c3))) := D.out.then hbS (by omega)
        replace S : Hid (Src (v2.setCell ⟨XB, 1, none⟩ (.slice a3 n3 c3)) sb (.slice a len cap) (K0 + 200)) := (S.out.below hbS (by omega)).mono (by omega)
        replace zX : XB < (v2.setCell ⟨XB, 1, none⟩ (.slice a3 n3 c3)).heap.size := Nat.lt_of_lt_of_le zX hbS.size
        replace zR : w.heap.size < (v2.setCell ⟨XB, 1, none⟩ (.slice a3 n3 c3)).heap.size := Nat.lt_of_lt_of_le zR hbS.size
        generalize hWW : (v2.setCell ⟨XB, 1, none⟩ (.slice a3 n3 c3)) = v8 at HST kX2 fX2 kR fR zX zR D S ⊢
        clear hWW hbS kX fX
        have kX := kX2
        have fX := fX2
        clear kX2 fX2
        have KK : Hid (∀ W, Dr sb v8 W → ∀ o, W.cell? ⟨XB, o, none⟩ = (#[.slice a1 n1 c1, .slice a3 n3 c3] : Array Value)[o]?) := fun W h => bx_drT kX h zX (by omega)
        refine wp_region_noPanic ?_
        refine Goes.start (S := fun w' => ∀ o, w'.cell? ⟨XB, o, none⟩ = (#[.slice a1 n1 c1, .slice a3 n3 c3] : Array Value)[o]?) (z := 100) (by kernel_rfl) ?_
        have E0 : Hid (Dr sb v8 v8.drew) := Dr.drewT sb v8
        refine Goes.take (i := 0) (oi := ?oi1526) (x := ?vx1526) ?ho1526 (by kernel_rfl) (by kernel_rfl) (by kernel_rfl) (by kernel_rfl) (fun _ _ _ h => h) (Or.inl ⟨?hw1526, ?hy1526⟩) (KK.out _ E0.out) ?rest1526
        case ho1526 => (simp only [List.getElem?_toArray, List.getElem?_cons_zero] <;> rfl)
        case hw1526 => rfl
        case hy1526 => (intro w' hSw; have j0 := hSw; go_simp; (try with_reducible rfl))
        case rest1526 =>
        (try simp only [Act.put, List.setIfInBounds_toArray, List.set_cons_zero, List.set_cons_succ])
        refine Goes.take (i := 1) (oi := ?oi1527) (x := ?vx1527) ?ho1527 (by kernel_rfl) (by kernel_rfl) (by kernel_rfl) (by kernel_rfl) (fun _ _ _ h => h) (Or.inl ⟨?hw1527, ?hy1527⟩) (KK.out _ E0.out) ?rest1527
        case ho1527 => (simp only [List.getElem?_toArray, List.getElem?_cons_succ, List.getElem?_cons_zero] <;> rfl)
        case hw1527 => rfl
        case hy1527 => (intro w' hSw; have j0 := hSw; go_simp; (try with_reducible rfl))
        case rest1527 =>
        (try simp only [Act.put, List.setIfInBounds_toArray, List.set_cons_zero, List.set_cons_succ])
        refine Goes.take (i := 2) (oi := ?oi1528) (x := ?vx1528) ?ho1528 (by kernel_rfl) (by kernel_rfl) (by kernel_rfl) (by kernel_rfl) (fun _ _ _ h => h) (Or.inl ⟨?hw1528, ?hy1528⟩) (KK.out _ E0.out) ?rest1528
        case ho1528 => (simp only [List.getElem?_toArray, List.getElem?_cons_succ, List.getElem?_cons_zero] <;> rfl)
        case hw1528 => rfl
        case hy1528 => (intro w' hSw; have j0 := hSw; go_simp; (try with_reducible rfl))
        case rest1528 =>
        (try simp only [Act.put, List.setIfInBounds_toArray, List.set_cons_zero, List.set_cons_succ])
        obtain ⟨NN, hNN⟩ : ∃ NN : Array Value, NN = (#[.slice a1 n1 c1, .slice a3 n3 c3] : Array Value) := ⟨_, rfl⟩
        have HNN : Hid _ := hNN
        have HNZ : Hid (NN.size = 2) := by show _ = _; rw [hNN]; rfl
        have HNI : Hid ((Try.prog.info? 26).map (·.size) = some NN.size) := by show _ = _; rw [HNZ.out]; exact (by kernel_rfl : (Try.prog.info? 26).map (·.size) = some 2)
        have HNO : Hid (NN.all (·.oneCell') = true) := by show _ = _; rw [hNN]; simp [Value.oneCell']
        clear hNN
        have kR8 := bx_drT kR E0.out zR (by omega)
        have fR8 := fx_drT fR E0.out zR (by omega)
        clear kR fR
        refine Goes.all (rs := [3]) (by kernel_rfl) (by simp) ?_
        refine Ups.cons (i := 3) (o := ?oo536) ?ho536 (fun KQ hKQ => ?stp536) Ups.nil
        case ho536 => (simp only [List.getElem?_toArray, List.getElem?_cons_succ, List.getElem?_cons_zero] <;> rfl)
        case stp536 =>
        rw [if_pos (by rfl)]
        refine wp_store_mid 26 _ _ rfl _ _ NN (by rfl) (by rw [HNN.out]; rfl) (bx_there kR8 fR8 (by rw [HNZ.out]; rfl)) HNI.out HNO.out ?_
        refine hKQ.out _ _ (Or.inr (bx_setOff (KK.out _ E0.out) (by omega))) ?_
        clear hKQ KQ
        (try simp only [Act.put, List.setIfInBounds_toArray, List.set_cons_zero, List.set_cons_succ])
        refine Goes.done (by kernel_rfl) ?_ _
        refine NoPanic.normal ?_
        obtain ⟨WZ, hWZ, kZ, SZ, DZ, QZ⟩ := strm_end (NN := NN) kR8 HNN.out HNZ.out (HST.out.keep (fun b _ => rfl) (Nat.le_refl _)) (D.out.trans E0.out) S.out.drewT hlt
        rw [hWZ]
        clear hWZ kR8 fR8
        have HSZ : Hid _ := SZ
        have HDZ : Hid _ := DZ
        have HQZ : Hid _ := QZ
        clear SZ DZ QZ
        go_wp2_with fail
        exact bodyPost_ret (v := .tuple #[.slice (some ⟨bs, 0, none⟩) sn sc, .agg #[.slice a1 n1 c1, .slice a3 n3 c3]]) (by simp [results, Try.results38, go_sem, kZ]) rfl ⟨(g.1, g.2.1 ++ [(300, [], ())], ()), a1, n1, c1, a3, n3, c3, ss, bs, sn, sc, rfl, HSZ.out, HDZ.out, HQZ.out⟩
      by_cases e2 : q = 2
      case pos =>
        subst e2
        obtain ⟨i0, hi, hz0, hz1, hz2⟩ := info_parts info_u8
        have zX1 : XB < v1.heap.size := zX
        go_upto_region 17 with (at_make; refine wpList_make_full v1 rfl _ _ 22 rfl v1.heap.size 5 i0 (.int .u8 0) 1 Try.underlying22 hi hz0 hz1 .i64 .i64 _ _ 401 (by rfl) (by rfl) rfl rfl (by rw [hz2]; omega) (by unfold maxLen; omega) (Nat.le_refl _) ?_; intro v2 hown hgr; have HOB : Hid _ := ob_401 hown; have hb : Below v1.heap.size v1 v2 := (Below.refl _ _).grown hgr (Nat.le_refl _) (by intro k hk; cases hk); have HB2 : Hid _ := hb; have hd : Dr sb v1 v2 := (Dr.refl _ _).then hb (Nat.le_refl _); replace kR := bx_drT kR hd zR (by omega); replace fR := fx_drT fR hd zR (by omega); replace zR := Nat.lt_of_lt_of_le zR (Dr.size hd); replace kX := bx_drT kX hd zX (by omega); replace fX := fx_drT fX hd zX (by omega); replace zX := Nat.lt_of_lt_of_le zX (Dr.size hd); replace D : Hid (Dr sb w v2) := D.out.trans hd; replace S : Hid (Src v2 sb (.slice a len cap) (K0 + 196)) := (S.out.bel hb).mono (by omega); clear hown hgr hb hd)
        clear hi hz0 hz1 hz2
        have HST : Hid (Strm (v2.setCell ⟨XB, 0, none⟩ (.slice (some ⟨v1.heap.size, 0, none⟩) 401 401)) (w.heap.size + 1) (List.replicate 401 0, g.2.1, ()) (some ⟨v1.heap.size, 0, none⟩) 401 401 a2 n2 c2 ss bs sn sc) := strm_many X.out HB2.out HOB.out zX1 OS.out (by omega) (by omega) hsn1 hbs2
        clear HOB HB2 X OS
        have hbS : Below XB v2 (v2.setCell ⟨XB, 0, none⟩ (.slice (some ⟨v1.heap.size, 0, none⟩) 401 401)) := bel_oneT _ _ _ _
        have kX2 := bx_put kX (k := 0) (v := .slice (some ⟨v1.heap.size, 0, none⟩) 401 401) (by simp)
        simp only [List.setIfInBounds_toArray, List.set_cons_zero, List.set_cons_succ] at kX2
        have fX2 : ∀ o, (v2.setCell ⟨XB, 0, none⟩ (.slice (some ⟨v1.heap.size, 0, none⟩) 401 401)).frozen? ⟨XB, o, none⟩ = false := fun o => by simpa using fX o
        replace kR : ∀ o, (v2.setCell ⟨XB, 0, none⟩ (.slice (some ⟨v1.heap.size, 0, none⟩) 401 401)).cell? ⟨w.heap.size, o, none⟩ = (#[.slice none 0 0, .slice none 0 0] : Array Value)[o]? := fun o => (hbS.cell (p := ⟨w.heap.size, o, none⟩) hXw).trans (kR o)
        replace fR : ∀ o, (v2.setCell ⟨XB, 0, none⟩ (.slice (some ⟨v1.heap.size, 0, none⟩) 401 401)).frozen? ⟨w.heap.size, o, none⟩ = false := fun o => (hbS.frozen (p := ⟨w.heap.size, o, none⟩) hXw).trans (fR o)
        replace D : Hid (Dr sb w (v2.setCell ⟨XB, 0, none⟩ (.slice (some ⟨v1.heap.size, 0, none⟩) 401 401))) := D.out.then hbS (by omega)
        replace S : Hid (Src (v2.setCell ⟨XB, 0, none⟩ (.slice (some ⟨v1.heap.size, 0, none⟩) 401 401)) sb (.slice a len cap) (K0 + 200)) := (S.out.below hbS (by omega)).mono (by omega)
        replace zX : XB < (v2.setCell ⟨XB, 0, none⟩ (.slice (some ⟨v1.heap.size, 0, none⟩) 401 401)).heap.size := Nat.lt_of_lt_of_le zX hbS.size
        replace zR : w.heap.size < (v2.setCell ⟨XB, 0, none⟩ (.slice (some ⟨v1.heap.size, 0, none⟩) 401 401)).heap.size := Nat.lt_of_lt_of_le zR hbS.size
        generalize hWW : (v2.setCell ⟨XB, 0, none⟩ (.slice (some ⟨v1.heap.size, 0, none⟩) 401 401)) = v8 at HST kX2 fX2 kR fR zX zR D S ⊢
        clear hWW hbS kX fX
        have kX := kX2
        have fX := fX2
        clear kX2 fX2
        have KK : Hid (∀ W, Dr sb v8 W → ∀ o, W.cell? ⟨XB, o, none⟩ = (#[.slice (some ⟨v1.heap.size, 0, none⟩) 401 401, .slice a2 n2 c2] : Array Value)[o]?) := fun W h => bx_drT kX h zX (by omega)
        refine wp_region_noPanic ?_
        refine Goes.start (S := fun w' => ∀ o, w'.cell? ⟨XB, o, none⟩ = (#[.slice (some ⟨v1.heap.size, 0, none⟩) 401 401, .slice a2 n2 c2] : Array Value)[o]?) (z := 100) (by kernel_rfl) ?_
        have E0 : Hid (Dr sb v8 v8.drew) := Dr.drewT sb v8
        refine Goes.take (i := 0) (oi := ?oi1514) (x := ?vx1514) ?ho1514 (by kernel_rfl) (by kernel_rfl) (by kernel_rfl) (by kernel_rfl) (fun _ _ _ h => h) (Or.inl ⟨?hw1514, ?hy1514⟩) (KK.out _ E0.out) ?rest1514
        case ho1514 => (simp only [List.getElem?_toArray, List.getElem?_cons_zero] <;> rfl)
        case hw1514 => rfl
        case hy1514 => (intro w' hSw; have j0 := hSw; go_simp; (try with_reducible rfl))
        case rest1514 =>
        (try simp only [Act.put, List.setIfInBounds_toArray, List.set_cons_zero, List.set_cons_succ])
        refine Goes.take (i := 1) (oi := ?oi1515) (x := ?vx1515) ?ho1515 (by kernel_rfl) (by kernel_rfl) (by kernel_rfl) (by kernel_rfl) (fun _ _ _ h => h) (Or.inl ⟨?hw1515, ?hy1515⟩) (KK.out _ E0.out) ?rest1515
        case ho1515 => (simp only [List.getElem?_toArray, List.getElem?_cons_succ, List.getElem?_cons_zero] <;> rfl)
        case hw1515 => rfl
        case hy1515 => (intro w' hSw; have j0 := hSw; go_simp; (try with_reducible rfl))
        case rest1515 =>
        (try simp only [Act.put, List.setIfInBounds_toArray, List.set_cons_zero, List.set_cons_succ])
        refine Goes.take (i := 2) (oi := ?oi1516) (x := ?vx1516) ?ho1516 (by kernel_rfl) (by kernel_rfl) (by kernel_rfl) (by kernel_rfl) (fun _ _ _ h => h) (Or.inl ⟨?hw1516, ?hy1516⟩) (KK.out _ E0.out) ?rest1516
        case ho1516 => (simp only [List.getElem?_toArray, List.getElem?_cons_succ, List.getElem?_cons_zero] <;> rfl)
        case hw1516 => rfl
        case hy1516 => (intro w' hSw; have j0 := hSw; go_simp; (try with_reducible rfl))
        case rest1516 =>
        (try simp only [Act.put, List.setIfInBounds_toArray, List.set_cons_zero, List.set_cons_succ])
        obtain ⟨NN, hNN⟩ : ∃ NN : Array Value, NN = (#[.slice (some ⟨v1.heap.size, 0, none⟩) 401 401, .slice a2 n2 c2] : Array Value) := ⟨_, rfl⟩
        have HNN : Hid _ := hNN
        have HNZ : Hid (NN.size = 2) := by show _ = _; rw [hNN]; rfl
        have HNI : Hid ((Try.prog.info? 26).map (·.size) = some NN.size) := by show _ = _; rw [HNZ.out]; exact (by kernel_rfl : (Try.prog.info? 26).map (·.size) = some 2)
        have HNO : Hid (NN.all (·.oneCell') = true) := by show _ = _; rw [hNN]; simp [Value.oneCell']
        clear hNN
        have kR8 := bx_drT kR E0.out zR (by omega)
        have fR8 := fx_drT fR E0.out zR (by omega)
        clear kR fR
        refine Goes.all (rs := [3]) (by kernel_rfl) (by simp) ?_
        refine Ups.cons (i := 3) (o := ?oo524) ?ho524 (fun KQ hKQ => ?stp524) Ups.nil
        case ho524 => (simp only [List.getElem?_toArray, List.getElem?_cons_succ, List.getElem?_cons_zero] <;> rfl)
        case stp524 =>
        rw [if_pos (by rfl)]
        refine wp_store_mid 26 _ _ rfl _ _ NN (by rfl) (by rw [HNN.out]; rfl) (bx_there kR8 fR8 (by rw [HNZ.out]; rfl)) HNI.out HNO.out ?_
        refine hKQ.out _ _ (Or.inr (bx_setOff (KK.out _ E0.out) (by omega))) ?_
        clear hKQ KQ
        (try simp only [Act.put, List.setIfInBounds_toArray, List.set_cons_zero, List.set_cons_succ])
        refine Goes.done (by kernel_rfl) ?_ _
        refine NoPanic.normal ?_
        obtain ⟨WZ, hWZ, kZ, SZ, DZ, QZ⟩ := strm_end (NN := NN) kR8 HNN.out HNZ.out (HST.out.keep (fun b _ => rfl) (Nat.le_refl _)) (D.out.trans E0.out) S.out.drewT hlt
        rw [hWZ]
        clear hWZ kR8 fR8
        have HSZ : Hid _ := SZ
        have HDZ : Hid _ := DZ
        have HQZ : Hid _ := QZ
        clear SZ DZ QZ
        go_wp2_with fail
        exact bodyPost_ret (v := .tuple #[.slice (some ⟨bs, 0, none⟩) sn sc, .agg #[.slice (some ⟨v1.heap.size, 0, none⟩) 401 401, .slice a2 n2 c2]]) (by simp [results, Try.results38, go_sem, kZ]) rfl ⟨(List.replicate 401 0, g.2.1, ()), (some ⟨v1.heap.size, 0, none⟩), 401, 401, a2, n2, c2, ss, bs, sn, sc, rfl, HSZ.out, HDZ.out, HQZ.out⟩
      have f0 : (q == 0) = false := by simp [e0]
      have f1 : (q == 1) = false := by simp [e1]
      have f2 : (q == 2) = false := by simp [e2]
      clear e0 e1 e2
      replace S : Hid (Src v1 sb (.slice a len cap) (K0 + 200)) := S.out.mono (by omega)
      have HST : Hid (Strm v1 (w.heap.size + 1) g a1 n1 c1 a2 n2 c2 ss bs sn sc) := Strm.of_gt X.out OS.out (by omega) (by omega) hsn1
      go_upto_region 17 with fail
      have KK : Hid (∀ W, Dr sb v1 W → ∀ o, W.cell? ⟨XB, o, none⟩ = (#[.slice a1 n1 c1, .slice a2 n2 c2] : Array Value)[o]?) := fun W h => bx_drT kX h zX (by omega)
      refine wp_region_noPanic ?_
      refine Goes.start (S := fun w' => ∀ o, w'.cell? ⟨XB, o, none⟩ = (#[.slice a1 n1 c1, .slice a2 n2 c2] : Array Value)[o]?) (z := 100) (by kernel_rfl) ?_
      have E0 : Hid (Dr sb v1 v1.drew) := Dr.drewT sb v1
      refine Goes.take (i := 0) (oi := ?oi1502) (x := ?vx1502) ?ho1502 (by kernel_rfl) (by kernel_rfl) (by kernel_rfl) (by kernel_rfl) (fun _ _ _ h => h) (Or.inl ⟨?hw1502, ?hy1502⟩) (KK.out _ E0.out) ?rest1502
      case ho1502 => (simp only [List.getElem?_toArray, List.getElem?_cons_zero] <;> rfl)
      case hw1502 => rfl
      case hy1502 => (intro w' hSw; have j0 := hSw; go_simp; (try with_reducible rfl))
      case rest1502 =>
      (try simp only [Act.put, List.setIfInBounds_toArray, List.set_cons_zero, List.set_cons_succ])
      refine Goes.take (i := 1) (oi := ?oi1503) (x := ?vx1503) ?ho1503 (by kernel_rfl) (by kernel_rfl) (by kernel_rfl) (by kernel_rfl) (fun _ _ _ h => h) (Or.inl ⟨?hw1503, ?hy1503⟩) (KK.out _ E0.out) ?rest1503
      case ho1503 => (simp only [List.getElem?_toArray, List.getElem?_cons_succ, List.getElem?_cons_zero] <;> rfl)
      case hw1503 => rfl
      case hy1503 => (intro w' hSw; have j0 := hSw; go_simp; (try with_reducible rfl))
      case rest1503 =>
      (try simp only [Act.put, List.setIfInBounds_toArray, List.set_cons_zero, List.set_cons_succ])
      refine Goes.take (i := 2) (oi := ?oi1504) (x := ?vx1504) ?ho1504 (by kernel_rfl) (by kernel_rfl) (by kernel_rfl) (by kernel_rfl) (fun _ _ _ h => h) (Or.inl ⟨?hw1504, ?hy1504⟩) (KK.out _ E0.out) ?rest1504
      case ho1504 => (simp only [List.getElem?_toArray, List.getElem?_cons_succ, List.getElem?_cons_zero] <;> rfl)
      case hw1504 => rfl
      case hy1504 => (intro w' hSw; have j0 := hSw; go_simp; (try with_reducible rfl))
      case rest1504 =>
      (try simp only [Act.put, List.setIfInBounds_toArray, List.set_cons_zero, List.set_cons_succ])
      obtain ⟨NN, hNN⟩ : ∃ NN : Array Value, NN = (#[.slice a1 n1 c1, .slice a2 n2 c2] : Array Value) := ⟨_, rfl⟩
      have HNN : Hid _ := hNN
      have HNZ : Hid (NN.size = 2) := by show _ = _; rw [hNN]; rfl
      have HNI : Hid ((Try.prog.info? 26).map (·.size) = some NN.size) := by show _ = _; rw [HNZ.out]; exact (by kernel_rfl : (Try.prog.info? 26).map (·.size) = some 2)
      have HNO : Hid (NN.all (·.oneCell') = true) := by show _ = _; rw [hNN]; simp [Value.oneCell']
      clear hNN
      have kR8 := bx_drT kR E0.out zR (by omega)
      have fR8 := fx_drT fR E0.out zR (by omega)
      clear kR fR
      refine Goes.all (rs := [3]) (by kernel_rfl) (by simp) ?_
      refine Ups.cons (i := 3) (o := ?oo512) ?ho512 (fun KQ hKQ => ?stp512) Ups.nil
      case ho512 => (simp only [List.getElem?_toArray, List.getElem?_cons_succ, List.getElem?_cons_zero] <;> rfl)
      case stp512 =>
      rw [if_pos (by rfl)]
      refine wp_store_mid 26 _ _ rfl _ _ NN (by rfl) (by rw [HNN.out]; rfl) (bx_there kR8 fR8 (by rw [HNZ.out]; rfl)) HNI.out HNO.out ?_
      refine hKQ.out _ _ (Or.inr (bx_setOff (KK.out _ E0.out) (by omega))) ?_
      clear hKQ KQ
      (try simp only [Act.put, List.setIfInBounds_toArray, List.set_cons_zero, List.set_cons_succ])
      refine Goes.done (by kernel_rfl) ?_ _
      refine NoPanic.normal ?_
      obtain ⟨WZ, hWZ, kZ, SZ, DZ, QZ⟩ := strm_end (NN := NN) kR8 HNN.out HNZ.out (HST.out.keep (fun b _ => rfl) (Nat.le_refl _)) (D.out.trans E0.out) S.out.drewT hlt
      rw [hWZ]
      clear hWZ kR8 fR8
      have HSZ : Hid _ := SZ
      have HDZ : Hid _ := DZ
      have HQZ : Hid _ := QZ
      clear SZ DZ QZ
      go_wp2_with fail
      exact bodyPost_ret (v := .tuple #[.slice (some ⟨bs, 0, none⟩) sn sc, .agg #[.slice a1 n1 c1, .slice a2 n2 c2]]) (by simp [results, Try.results38, go_sem, kZ]) rfl ⟨g, a1, n1, c1, a2, n2, c2, ss, bs, sn, sc, rfl, HSZ.out, HDZ.out, HQZ.out⟩
end Go.Proofs.Ytnbcefdfdonljaa
