/- What the draw for FitsStream gives: some gather, and a stream of the call's own; nothing that was in memory turns; no condition. Written by mkdrfit.py. -/
import Derived.Deep.RegionHeld3
import Derived.Deep.DeepCutAuto
import Derived.Deep.DeepMust
import Derived.Deep.MidRow
import Derived.Test.YtnbcefdfdonljaaRows
import Derived.Test.YtnbcefdfdonljaaBase
import Derived.Test.YtnbcefdfdonljaaMem
import Derived.Test.YtnbcefdfdonljaaMemOpen
import Derived.Test.YtnbcefdfdonljaaMemApp
import Derived.Test.YtnbcefdfdonljaaGath
import Derived.Test.YtnbcefdfdonljaaGathLaw
import Derived.Test.YtnbcefdfdonljaaGathByte
import Derived.Test.YtnbcefdfdonljaaPImpl
import Derived.Test.YtnbcefdfdonljaaSPut
import Derived.Test.YtnbcefdfdonljaaPieFacts
import Derived.Test.YtnbcefdfdonljaaStrFacts
import Derived.Test.YtnbcefdfdonljaaRegionU
import Derived.Test.YtnbcefdfdonljaaDraws
import Derived.Test.YtnbcefdfdonljaaDrawsD
import Derived.Test.YtnbcefdfdonljaaDrawSome
import Derived.Test.YtnbcefdfdonljaaDrawStr0
import Derived.Test.YtnbcefdfdonljaaDrawStr1
import Derived.Test.YtnbcefdfdonljaaDrawStr2
import Derived.Test.YtnbcefdfdonljaaAppBytes
import Derived.Test.YtnbcefdfdonljaaApp
import Derived.Test.YtnbcefdfdonljaaDrawStr
namespace Go.Proofs.Ytnbcefdfdonljaa
open Go.RowKit
set_option linter.unusedVariables false
set_option linter.unusedSimpArgs false
set_option maxRecDepth 8000

set_option maxHeartbeats 4000000 in
theorem dFits (a : Option Addr) (len cap : Nat) (zs : List Int) (w : World) (hr : BRow .u8 w a len cap zs) (hl : RowLt w.heap.size a zs) :
    Calls Try.prog 8 #[.slice a len cap] w fun e w' => ∃ (a1 : Option Addr) (n1 c1 : Nat) (a2 : Option Addr) (n2 c2 : Nat) (ss : List Int) (bs sn sc : Nat), e = .returned (.tuple #[.agg #[.slice a1 n1 c1, .slice a2 n2 c2], .slice (some ⟨bs, 0, none⟩) sn sc]) ∧ OB w' w.heap.size (.slice (some ⟨bs, 0, none⟩) sn sc) ss ∧ (6 ≤ sn ∧ sn ≤ 45) ∧ Below w.heap.size w w' := by
  go_enter Try.func8, Try.ntmps8
  go_wp2_with fail
  obtain ⟨W0, hW0⟩ : ∃ W0, w.alloc (.cells #[.slice none 0 0, .slice none 0 0] 26) = W0 := ⟨_, rfl⟩
  have b0 : Below w.heap.size w W0 := by rw [← hW0]; exact (Below.refl _ _).alloc (Nat.le_refl _) _
  have kR : ∀ o, W0.cell? ⟨w.heap.size, o, none⟩ = (#[.slice none 0 0, .slice none 0 0] : Array Value)[o]? := by rw [← hW0]; intro o; simp [go_sem]
  have fR : ∀ o, W0.frozen? ⟨w.heap.size, o, none⟩ = false := by rw [← hW0]; intro o; simp [go_sem]
  have z0 : W0.heap.size = w.heap.size + 1 := by rw [← hW0]; simp
  simp only [hW0, ← z0]
  clear hW0
  have r0 := hr.below hl b0
  clear hr hl
  refine (sSource _ _ _ _).mono ?_
  rintro e W1 ⟨rfl, hW1⟩
  obtain ⟨s1, r1, b1⟩ := draw_start 138 r0 r0.lt
  rw [← hW1] at s1 r1 b1
  clear hW1
  generalize hsb : W0.heap.size = sb at *
  have zR : w.heap.size < sb := by omega
  have hne : w.heap.size ≠ sb := by omega
  replace kR := fun o => (b1.cell (p := ⟨w.heap.size, o, none⟩) (by dsimp only; omega)).trans (kR o)
  replace fR := fun o => (b1.frozen (p := ⟨w.heap.size, o, none⟩) (by dsimp only; omega)).trans (fR o)
  have B1 : Hid (Below w.heap.size w W1) := b0.trans (b1.mono (by omega))
  have hl1 := r0.lt
  rw [hsb] at hl1
  have zs1 := s1.lt
  have HR : Hid (∀ W, Dr sb W1 W → BRow .u8 W a len cap zs) := fun W h => r1.below hl1 (h.below (Nat.le_of_lt zs1))
  have S : Hid _ := s1
  clear b0 b1 r0 r1 hsb z0 s1
  go_wp2_with fail
  refine (sStream3 sb a len cap zs _ W1 S.out (HR.out _ (Dr.refl _ _)) hl1 (by omega) (by omega)).mono ?_
  rintro e w2 ⟨g, a1, n1, c1, a2, n2, c2, ss, bs, sn, sc, rfl, hF, dd, s2⟩
  dsimp only
  have hsn := hF.len
  have hz2 := dd.size
  have hr2 := bx_drT kR dd (by omega) hne
  have hf2 := fx_drT fR dd (by omega) hne
  have hO2 := hF.ob
  have hbs := (hO2.own.lt bs rfl)
  have D0 : Hid (Dr sb W1 w2) := dd
  clear hF dd S kR fR
  go_upto_region 3 with fail
  have k6 : ∀ o, (w2.alloc (.cells #[.slice a1 n1 c1, .slice a2 n2 c2] 26)).cell? ⟨w2.heap.size, o, none⟩ = (#[.slice a1 n1 c1, .slice a2 n2 c2] : Array Value)[o]? := bx_al w2 _ _
  have hb : Below w2.heap.size w2 (w2.alloc (.cells #[.slice a1 n1 c1, .slice a2 n2 c2] 26)) := (Below.refl _ _).alloc (Nat.le_refl _) _
  have z6 : w2.heap.size < (w2.alloc (.cells #[.slice a1 n1 c1, .slice a2 n2 c2] 26)).heap.size := by simp
  generalize hWW : (w2.alloc (.cells #[.slice a1 n1 c1, .slice a2 n2 c2] 26)) = w3 at k6 hb z6 ⊢
  clear hWW
  have kR := (fun o => (hb.cell (p := ⟨w.heap.size, o, none⟩) (by dsimp only; omega)).trans (hr2 o) : ∀ o, w3.cell? ⟨w.heap.size, o, none⟩ = (#[.slice none 0 0, .slice none 0 0] : Array Value)[o]?)
  have fR := (fun o => (hb.frozen (p := ⟨w.heap.size, o, none⟩) (by dsimp only; omega)).trans (hf2 o) : ∀ o, w3.frozen? ⟨w.heap.size, o, none⟩ = false)
  have D : Hid (Dr sb W1 w3) := D0.out.then hb (by omega)
  have S : Hid (Src w3 sb (.slice a len cap) (0 + 200)) := s2.bel hb
  have OS : Hid (OB w3 W1.heap.size (.slice (some ⟨bs, 0, none⟩) sn sc) ss) := hO2.below (Nat.le_refl _) hb
  have hlsn : ss.length = sn := by obtain ⟨a', c', e, -⟩ := hO2.rb; simp only [Value.slice.injEq] at e; exact e.2.1.symm
  have HLN : Hid (ss.length = sn) := hlsn
  obtain ⟨cb, hcb⟩ : ∃ q, q = w2.heap.size := ⟨_, rfl⟩
  have hcs : sb < cb := by omega
  have hcw : w.heap.size < cb := by omega
  have hbs2 : sb < bs ∧ bs < cb := by omega
  rw [← hcb] at k6 z6 ⊢
  clear hcb hb hr2 hf2 s2 hO2 D0 hbs hlsn
  have hbne : bs ≠ sb := by omega
  have zw : sb < W1.heap.size := zs1
  go_wp2_with fail
  refine (sChance sb a len cap zs _ 2 _ S.out (HR.out _ D.out) hl1 (by omega) (by omega)).mono ?_
  rintro e w4 ⟨r, rfl, st, sr⟩
  have hdr := st.dr
  replace k6 := bx_drT k6 hdr z6 (by omega)
  replace kR := bx_drT kR hdr (by omega) hne
  replace fR := fx_drT fR hdr (by omega) hne
  replace z6 := Nat.lt_of_lt_of_le z6 hdr.size
  replace OS : Hid (OB w4 W1.heap.size (.slice (some ⟨bs, 0, none⟩) sn sc) ss) := OS.out.dr hdr zw
  replace D : Hid (Dr sb W1 w4) := D.out.trans hdr
  replace S : Hid (Src w4 sb (.slice a len cap) (0 + 201)) := (sr).mono (by omega)
  clear hdr
  clear st sr
  have HB4 : Hid (Below w.heap.size w w4) := B1.out.trans ((D.out.below (Nat.le_of_lt zw)).mono (by omega))
  cases r with
  | false =>
    go_wp2_with fail
    have kZ := bx_twoT (u0 := .slice a1 n1 c1) (u1 := .slice a2 n2 c2) kR
    have hbZ := (HB4.out).trans (bel_twoT w4 w.heap.size (.slice a1 n1 c1) (.slice a2 n2 c2))
    have hoZ : OB ((w4.setCell ⟨w.heap.size, 0, none⟩ (.slice a1 n1 c1)).setCell ⟨w.heap.size, 1, none⟩ (.slice a2 n2 c2)) w.heap.size (.slice (some ⟨bs, 0, none⟩) sn sc) _ := (((OS.out).keep (Below.heap_setCell _ _ _ _ (by dsimp only; omega))).keep (Below.heap_setCell _ _ _ _ (by dsimp only; omega))).mono (by omega)
    generalize (w4.setCell ⟨w.heap.size, 0, none⟩ (.slice a1 n1 c1)).setCell ⟨w.heap.size, 1, none⟩ (.slice a2 n2 c2) = WZ at *
    exact bodyPost_ret (v := .tuple #[.agg #[.slice a1 n1 c1, .slice a2 n2 c2], .slice (some ⟨bs, 0, none⟩) sn sc]) (by simp [results, Try.results8, go_sem, kZ]) rfl ⟨a1, n1, c1, a2, n2, c2, _, bs, sn, sc, rfl, hoZ, hsn, hbZ⟩
  | true =>
    go_wp2_with fail
    refine (sNext sb a len cap zs _ sn _ S.out (HR.out _ D.out) hl1 (by omega) (by omega)).mono ?_
    rintro e w5 ⟨q, rfl, q0, q1, st, sr⟩
    have hdr := st.dr
    replace k6 := bx_drT k6 hdr z6 (by omega)
    replace kR := bx_drT kR hdr (by omega) hne
    replace fR := fx_drT fR hdr (by omega) hne
    replace z6 := Nat.lt_of_lt_of_le z6 hdr.size
    replace OS : Hid (OB w5 W1.heap.size (.slice (some ⟨bs, 0, none⟩) sn sc) ss) := OS.out.dr hdr zw
    replace D : Hid (Dr sb W1 w5) := D.out.trans hdr
    replace S : Hid (Src w5 sb (.slice a len cap) (0 + 202)) := (sr).mono (by omega)
    clear hdr
    clear st sr
    obtain ⟨x, rfl⟩ : ∃ x : Nat, q = (x : Int) := ⟨q.toNat, by omega⟩
    have hx : x < sn := by omega
    have hown := OS.out.own
    rw [HLN.out] at hown
    have hst := hown.stored x (.int .u8 0)
    have hfz := hown.frozenAt x
    obtain ⟨old, hold⟩ : ∃ old, w5.cell? ⟨bs, x, none⟩ = some old := by
      rw [hown.cellAt x (by omega)]
      exact ⟨_, List.getElem?_eq_getElem (by simp [HLN.out]; omega)⟩
    have OS2 : Hid (OB (w5.setCell ⟨bs, x, none⟩ (.int .u8 0)) W1.heap.size (.slice (some ⟨bs, 0, none⟩) sn sc) (ss.set x 0)) := by
      have hl2 : (ss.set x 0).length = sn := by rw [List.length_set]; exact HLN.out
      refine ⟨by rw [hl2, List.map_set]; exact hst.1, fun y hy => ?_⟩
      rcases List.mem_or_eq_of_mem_set hy with h | h
      · exact OS.out.bd y h
      · omega
    clear hst hown OS
    have kR1 := kR
    replace kR : ∀ o, (w5.setCell ⟨bs, x, none⟩ (.int .u8 0)).cell? ⟨w.heap.size, o, none⟩ = (#[.slice none 0 0, .slice none 0 0] : Array Value)[o]? := fun o => (World.cell?_of_block (w := w5) (a := ⟨w.heap.size, o, none⟩) (Below.heap_setCell _ _ _ _ (by dsimp only; omega))).trans (kR o)
    have HB5 : Hid (Below w.heap.size w (w5.setCell ⟨bs, x, none⟩ (.int .u8 0))) := (B1.out.trans ((D.out.below (Nat.le_of_lt zw)).mono (by omega))).setCell (by dsimp only; omega) _
    have HKR : Hid _ := kR
    replace kR := kR1
    clear kR1
    go_wp2_with fail
    have kZ := bx_twoT (u0 := .slice a1 n1 c1) (u1 := .slice a2 n2 c2) HKR.out
    have hbZ := (HB5.out).trans (bel_twoT (w5.setCell ⟨bs, x, none⟩ (.int .u8 0)) w.heap.size (.slice a1 n1 c1) (.slice a2 n2 c2))
    have hoZ : OB (((w5.setCell ⟨bs, x, none⟩ (.int .u8 0)).setCell ⟨w.heap.size, 0, none⟩ (.slice a1 n1 c1)).setCell ⟨w.heap.size, 1, none⟩ (.slice a2 n2 c2)) w.heap.size (.slice (some ⟨bs, 0, none⟩) sn sc) _ := (((OS2.out).keep (Below.heap_setCell _ _ _ _ (by dsimp only; omega))).keep (Below.heap_setCell _ _ _ _ (by dsimp only; omega))).mono (by omega)
    generalize ((w5.setCell ⟨bs, x, none⟩ (.int .u8 0)).setCell ⟨w.heap.size, 0, none⟩ (.slice a1 n1 c1)).setCell ⟨w.heap.size, 1, none⟩ (.slice a2 n2 c2) = WZ at *
    exact bodyPost_ret (v := .tuple #[.agg #[.slice a1 n1 c1, .slice a2 n2 c2], .slice (some ⟨bs, 0, none⟩) sn sc]) (by simp [results, Try.results8, go_sem, kZ]) rfl ⟨a1, n1, c1, a2, n2, c2, _, bs, sn, sc, rfl, hoZ, hsn, hbZ⟩
end Go.Proofs.Ytnbcefdfdonljaa
