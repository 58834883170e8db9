/- What the draw of a sub gives: a sub that can be read, whatever is drawn further; nothing that was in memory turns but the source; no condition. Written by mkdrsub.py. -/
import Derived.Test.YtebgibjokljlbaaRows
import Derived.Deep.RegionHeld3
import Derived.Deep.MidRow
import Derived.Test.YtebgibjokljlbaaS01
import Derived.Test.YtebgibjokljlbaaS02
import Derived.Test.YtebgibjokljlbaaS03
import Derived.Test.YtebgibjokljlbaaS04
import Derived.Test.YtebgibjokljlbaaS05
import Derived.Test.YtebgibjokljlbaaS06
import Derived.Test.YtebgibjokljlbaaS09
import Derived.Test.YtebgibjokljlbaaS10
import Derived.Test.YtebgibjokljlbaaS11
import Derived.Test.YtebgibjokljlbaaS16
import Derived.Test.YtebgibjokljlbaaS17
import Derived.Test.YtebgibjokljlbaaS19
import Derived.Test.YtebgibjokljlbaaS21
import Derived.Test.YtebgibjokljlbaaS22
import Derived.Test.YtebgibjokljlbaaS36
namespace Go.Proofs.Ytebgibjokljlbaa
open Go.RowKit
set_option linter.unusedVariables false
set_option linter.unusedSimpArgs false
set_option maxRecDepth 8000
structure Kp (L : Nat) (w w' : World) : Prop where
  size : w.heap.size ≤ w'.heap.size
  blk : ∀ b, L ≤ b → b < w.heap.size → w'.heap[b]? = w.heap[b]?
theorem Kp.refl (L : Nat) (w : World) : Kp L w w := ⟨Nat.le_refl _, fun _ _ _ => rfl⟩
theorem Kp.trans {L : Nat} {w w1 w2 : World} (h : Kp L w w1) (k : Kp L w1 w2) : Kp L w w2 := ⟨Nat.le_trans h.size k.size, fun b h1 h2 => (k.blk b h1 (Nat.lt_of_lt_of_le h2 h.size)).trans (h.blk b h1 h2)⟩
theorem Kp.dr {L sb : Nat} {w w1 w2 : World} (h : Kp L w w1) (hd : Dr sb w1 w2) (hs : sb < L) : Kp L w w2 := h.trans ⟨hd.size, fun b h1 h2 => hd.block b h2 (by omega)⟩
theorem Kp.below {L : Nat} {w w1 w2 : World} (h : Kp L w w1) (hb : Below w1.heap.size w1 w2) : Kp L w w2 := h.trans ⟨hb.size, fun b _ h2 => hb.block b h2⟩
theorem Kp.setCell {L b k : Nat} {w w1 : World} {v : Value} (h : Kp L w w1) (hb : b < L) : Kp L w (w1.setCell ⟨b, k, none⟩ v) := h.trans ⟨by simp, fun c h1 _ => Below.heap_setCell _ _ _ _ (by dsimp only; omega)⟩
theorem Kp.setCells {L b k : Nat} {w w1 : World} {vs : List Value} (h : Kp L w w1) (hb : b < L) : Kp L w (w1.setCells b k vs) := h.trans ⟨by rw [setCells_size]; exact Nat.le_refl _, fun c h1 _ => setCells_block (by omega) _ _ _⟩
theorem sub_fld1 (q c0 c1 c2 c3 c4 c5 c6 c7 c8 c9 c10 c11 c12 c13 c14 c15 : Value) (w : World) : Sem.run Try.prog (Instr.field 69 (.agg #[q, c0, c1, c2, c3, c4, c5, c6, c7, c8, c9, c10, c11, c12, c13, c14, c15]) 1) w = .ok (.agg #[c0, c1, c2, c3, c4, c5, c6, c7, c8, c9, c10, c11, c12, c13, c14, c15]) w := by
  simp [Instr.field, asAgg, part, go_sem]
def SubK (sb L : Nat) (W : World) (x : DSub) (A : Array Value) : Prop := sb < L ∧ totSub x ≤ 1048576 ∧ ∀ W', Kp L W W' → shSub.Rd W' W'.heap.size x A.toList ∧ ∃ u, A[9]? = some u ∧ Own W' L W'.heap.size shFlights x.snd.2.2.2.1 [u]
theorem own_flsK {w : World} {lo hi : Nat} {y0 y1 y2 : Int} {l : List DFlight} {c0 c1 c2 v : Value} {u : Unit} (h : Own w lo hi shSender (y0, y1, y2, l, u) [c0, c1, c2, v]) : Own w lo hi shFlights l [v] := by
  obtain ⟨bs, h1, h2, h3⟩ := h
  obtain ⟨vv, ev, hk, -⟩ := ow_Sender h1
  simp only [List.cons.injEq, and_true] at ev
  rw [ev.2.2.2]
  exact ⟨bs, hk, h2, h3⟩
theorem SubK.mk' {sb L : Nat} {W W1 W2 : World} {y0 y1 : Int} {y2 : Bool} {y3 y4 y5 s0 s1 s2 : Int} {fl : List DFlight} {c0 c1 : Int} {sp : List DSpan} {k0 k1 k2 : Int} {u v : Value} (h1 : Kp L W1 W) (h2 : Kp L W2 W) (hs : ∀ W', Kp L W1 W' → Own W' L W'.heap.size shSender (s0, s1, s2, fl, ()) [.int .i64 s0, .int .i64 s1, .int .i64 s2, u]) (hc : ∀ W', Kp L W2 W' → shCatch.Rd W' W'.heap.size (c0, c1, sp, ()) [.int .i64 c0, .int .i64 c1, v]) (ht : totSender (s0, s1, s2, fl, ()) ≤ 1000000) (hp : totCatch (c0, c1, sp, ()) ≤ 100) (hl : sb < L) (hw : SubWf (y0, y1, y2, y3, y4, y5, (s0, s1, s2, fl, ()), (c0, c1, sp, ()), (k0, k1, k2, ()), ())) : SubK sb L W (y0, y1, y2, y3, y4, y5, (s0, s1, s2, fl, ()), (c0, c1, sp, ()), (k0, k1, k2, ()), ()) #[.int .i64 y0, .int .i64 y1, .bool y2, .int .i64 y3, .int .i64 y4, .int .i64 y5, .int .i64 s0, .int .i64 s1, .int .i64 s2, u, .int .i64 c0, .int .i64 c1, v, .int .i64 k0, .int .i64 k1, .int .i64 k2] :=
  ⟨hl, Nat.le_trans (Nat.add_le_add ht hp) (by decide), fun W' hW => ⟨mk_SubRd ((hs W' (h1.trans hW)).rd (Nat.le_refl _)) (hc W' (h2.trans hW)) hw, u, rfl, own_flsK (hs W' (h1.trans hW))⟩⟩
set_option maxHeartbeats 16000000 in
theorem sSub8 (sb : Nat) (a : Option Addr) (len cap : Nat) (zs : List Int) (K : Int) (w : World)
    (hs : Src w sb (.slice a len cap) K) (hr : BRow .u8 w a len cap zs) (hl : RowLt sb a zs) (hK0 : 0 ≤ K) (hK : K ≤ 1000) :
    Calls Try.prog 75 #[.pointer (some ⟨sb, 0, none⟩)] w fun e w' => ∃ (x : DSub) (A : Array Value) (L : Nat), e = .returned (.agg A) ∧ SubK sb L w' x A ∧ Dr sb w w' ∧ Src w' sb (.slice a len cap) (K + 2000) := by
  have hlt := hs.lt
  have HR : Hid (∀ W, Dr sb w W → BRow .u8 W a len cap zs) := fun W h => hr.below hl (h.below (Nat.le_of_lt hlt))
  have S : Hid (Src w sb (.slice a len cap) (K)) := hs
  have D : Hid (Dr sb w w) := Dr.refl _ _
  have hfld := sub_fld1
  clear hr hs
  go_enter Try.func75, Try.ntmps75
  go_wp2_with fail
  have kR : ∀ o, (w.alloc (.cells #[.int .i64 0, .int .i64 0, .bool false, .int .i64 0, .int .i64 0, .int .i64 0, .int .i64 0, .int .i64 0, .int .i64 0, .slice none 0 0, .int .i64 0, .int .i64 0, .slice none 0 0, .int .i64 0, .int .i64 0, .int .i64 0] 64)).cell? ⟨w.heap.size, o, none⟩ = (#[.int .i64 0, .int .i64 0, .bool false, .int .i64 0, .int .i64 0, .int .i64 0, .int .i64 0, .int .i64 0, .int .i64 0, .slice none 0 0, .int .i64 0, .int .i64 0, .slice none 0 0, .int .i64 0, .int .i64 0, .int .i64 0] : Array Value)[o]? := bx_al _ _ _
  have fR : ∀ o, (w.alloc (.cells #[.int .i64 0, .int .i64 0, .bool false, .int .i64 0, .int .i64 0, .int .i64 0, .int .i64 0, .int .i64 0, .int .i64 0, .slice none 0 0, .int .i64 0, .int .i64 0, .slice none 0 0, .int .i64 0, .int .i64 0, .int .i64 0] 64)).frozen? ⟨w.heap.size, o, none⟩ = false := fx_al _ _ _
  have zR : w.heap.size < (w.alloc (.cells #[.int .i64 0, .int .i64 0, .bool false, .int .i64 0, .int .i64 0, .int .i64 0, .int .i64 0, .int .i64 0, .int .i64 0, .slice none 0 0, .int .i64 0, .int .i64 0, .slice none 0 0, .int .i64 0, .int .i64 0, .int .i64 0] 64)).heap.size := by simp
  have hb : Below w.heap.size w (w.alloc (.cells #[.int .i64 0, .int .i64 0, .bool false, .int .i64 0, .int .i64 0, .int .i64 0, .int .i64 0, .int .i64 0, .int .i64 0, .slice none 0 0, .int .i64 0, .int .i64 0, .slice none 0 0, .int .i64 0, .int .i64 0, .int .i64 0] 64)) := (Below.refl _ _).alloc (Nat.le_refl _) _
  generalize hWW : (w.alloc (.cells #[.int .i64 0, .int .i64 0, .bool false, .int .i64 0, .int .i64 0, .int .i64 0, .int .i64 0, .int .i64 0, .int .i64 0, .slice none 0 0, .int .i64 0, .int .i64 0, .slice none 0 0, .int .i64 0, .int .i64 0, .int .i64 0] 64)) = w0 at kR fR zR hb ⊢
  clear hWW
  obtain ⟨bR, hbR⟩ : ∃ q, q = w.heap.size := ⟨_, rfl⟩
  have lwR : w.heap.size ≤ bR := Nat.le_of_eq hbR.symm
  have nR : bR ≠ sb := by omega
  have lsR : sb < bR := by omega
  rw [← hbR] at kR zR fR ⊢
  clear hbR
  have dd : Dr sb w w0 := (Dr.refl _ _).then hb (Nat.le_refl _)
  replace S : Hid (Src w0 sb (.slice a len cap) (K)) := S.out.bel hb
  clear hb
  replace D : Hid (Dr sb w w0) := D.out.trans dd
  clear dd
  refine (sNext sb a len cap zs _ 3 _ S.out (HR.out _ D.out) hl (by omega) (by omega)).mono ?_
  rintro e w1 ⟨y0, rfl, p0, q0, st, s1⟩
  have dd : Dr sb w0 w1 := st.dr
  replace S : Hid (Src w1 sb (.slice a len cap) (K + 1)) := s1
  clear st s1
  replace kR := bx_dr kR dd zR nR
  replace fR := fx_dr fR dd zR nR
  replace zR := Nat.lt_of_lt_of_le zR dd.size
  replace D : Hid (Dr sb w w1) := D.out.trans dd
  clear dd
  go_wp2_with fail
  refine (sNext sb a len cap zs _ 900 _ S.out (HR.out _ D.out) hl (by omega) (by omega)).mono ?_
  rintro e w2 ⟨s0, rfl, ps, qs, st, s1⟩
  have dd : Dr sb w1 w2 := st.dr
  replace S : Hid (Src w2 sb (.slice a len cap) (K + 1 + 1)) := s1
  clear st s1
  replace kR := bx_dr kR dd zR nR
  replace fR := fx_dr fR dd zR nR
  replace zR := Nat.lt_of_lt_of_le zR dd.size
  replace D : Hid (Dr sb w w2) := D.out.trans dd
  clear dd
  go_wp2_with fail
  refine (sChance sb a len cap zs _ 2 _ S.out (HR.out _ D.out) hl (by omega) (by omega)).mono ?_
  rintro e w3 ⟨y2, rfl, st, s1⟩
  have dd : Dr sb w2 w3 := st.dr
  replace S : Hid (Src w3 sb (.slice a len cap) (K + 1 + 1 + 1)) := s1
  clear st s1
  replace kR := bx_dr kR dd zR nR
  replace fR := fx_dr fR dd zR nR
  replace zR := Nat.lt_of_lt_of_le zR dd.size
  replace D : Hid (Dr sb w w3) := D.out.trans dd
  clear dd
  go_wp2_with fail
  refine (sNext sb a len cap zs _ 99 _ S.out (HR.out _ D.out) hl (by omega) (by omega)).mono ?_
  rintro e w4 ⟨y3, rfl, p3, q3, st, s1⟩
  have dd : Dr sb w3 w4 := st.dr
  replace S : Hid (Src w4 sb (.slice a len cap) (K + 1 + 1 + 1 + 1)) := s1
  clear st s1
  replace kR := bx_dr kR dd zR nR
  replace fR := fx_dr fR dd zR nR
  replace zR := Nat.lt_of_lt_of_le zR dd.size
  replace D : Hid (Dr sb w w4) := D.out.trans dd
  clear dd
  go_wp2_with fail
  refine (sNext sb a len cap zs _ 9 _ S.out (HR.out _ D.out) hl (by omega) (by omega)).mono ?_
  rintro e w5 ⟨y5, rfl, p5, q5, st, s1⟩
  have dd : Dr sb w4 w5 := st.dr
  replace S : Hid (Src w5 sb (.slice a len cap) (K + 1 + 1 + 1 + 1 + 1)) := s1
  clear st s1
  replace kR := bx_dr kR dd zR nR
  replace fR := fx_dr fR dd zR nR
  replace zR := Nat.lt_of_lt_of_le zR dd.size
  replace D : Hid (Dr sb w w5) := D.out.trans dd
  clear dd
  go_wp2_with fail
  refine (sNewOk y0 s0 y2 y3 y5 _ (inD_mk (by omega) (by omega)) (inD_mk (by omega) (by omega)) (inD_mk (by omega) (by omega)) (inD_mk (by omega) (by omega))).mono ?_
  rintro e w6 ⟨rfl, hb⟩
  have dd : Dr sb w5 w6 := (Dr.refl _ _).then hb (Nat.le_refl _)
  replace S : Hid (Src w6 sb (.slice a len cap) (K + 1 + 1 + 1 + 1 + 1)) := S.out.bel hb
  clear hb
  replace kR := bx_dr kR dd zR nR
  replace fR := fx_dr fR dd zR nR
  replace zR := Nat.lt_of_lt_of_le zR dd.size
  replace D : Hid (Dr sb w w6) := D.out.trans dd
  clear dd
  have HY0 : Hid (-9 ≤ y0 ∧ y0 ≤ 9) := ⟨by omega, by omega⟩
  have HY3 : Hid (-9 ≤ y3 ∧ y3 ≤ 2000000) := ⟨by omega, by omega⟩
  have HY5 : Hid (0 ≤ y5 ∧ y5 ≤ 9) := ⟨by omega, by omega⟩
  have HS0 : Hid (0 ≤ s0 ∧ s0 ≤ 900) := ⟨by omega, by omega⟩
  have HY1 : Hid (-9 ≤ (1 : Int) ∧ (1 : Int) ≤ 9) := by show _ ∧ _; omega
  clear p0 q0 ps qs p3 q3 p5 q5
  obtain ⟨M, hM⟩ : ∃ M : Array Value, M = #[.int .i64 y0, .int .i64 1, .bool y2, .int .i64 y3, .int .i64 0, .int .i64 y5, .int .i64 s0, .int .i64 0, .int .i64 0, .slice none 0 0, .int .i64 0, .int .i64 0, .slice none 0 0, .int .i64 16, .int .i64 64, .int .i64 0] := ⟨_, rfl⟩
  have HM : Hid _ := hM
  have HMZ : Hid (M.size = 16) := by show _ = _; rw [hM]; rfl
  have HMI : Hid ((Try.prog.info? 64).map (·.size) = some M.size) := by show _ = _; rw [HMZ.out]; exact (by kernel_rfl : (Try.prog.info? 64).map (·.size) = some 16)
  have HMO : Hid (M.all (·.oneCell') = true) := by show _ = _; rw [hM]; simp [Value.oneCell']
  clear hM
  have HTH : Hid ((w6.alloc (.cells #[.int .i64 0, .int .i64 0, .bool false, .int .i64 0, .int .i64 0, .int .i64 0, .int .i64 0, .int .i64 0, .int .i64 0, .slice none 0 0, .int .i64 0, .int .i64 0, .slice none 0 0, .int .i64 0, .int .i64 0, .int .i64 0] 64)).there w6.heap.size 0 M.size) := bx_there (bx_al _ _ _) (fx_al _ _ _) (by rw [HMZ.out]; rfl)
  have HWN : Hid (Below w6.heap.size w6 ((w6.alloc (.cells #[.int .i64 0, .int .i64 0, .bool false, .int .i64 0, .int .i64 0, .int .i64 0, .int .i64 0, .int .i64 0, .int .i64 0, .slice none 0 0, .int .i64 0, .int .i64 0, .slice none 0 0, .int .i64 0, .int .i64 0, .int .i64 0] 64)).setCells w6.heap.size 0 M.toList) ∧ w6.heap.size < ((w6.alloc (.cells #[.int .i64 0, .int .i64 0, .bool false, .int .i64 0, .int .i64 0, .int .i64 0, .int .i64 0, .int .i64 0, .int .i64 0, .slice none 0 0, .int .i64 0, .int .i64 0, .slice none 0 0, .int .i64 0, .int .i64 0, .int .i64 0] 64)).setCells w6.heap.size 0 M.toList).heap.size ∧ (∀ o, ((w6.alloc (.cells #[.int .i64 0, .int .i64 0, .bool false, .int .i64 0, .int .i64 0, .int .i64 0, .int .i64 0, .int .i64 0, .int .i64 0, .slice none 0 0, .int .i64 0, .int .i64 0, .slice none 0 0, .int .i64 0, .int .i64 0, .int .i64 0] 64)).setCells w6.heap.size 0 M.toList).cell? ⟨w6.heap.size, o, none⟩ = M[o]?) ∧ (∀ o, ((w6.alloc (.cells #[.int .i64 0, .int .i64 0, .bool false, .int .i64 0, .int .i64 0, .int .i64 0, .int .i64 0, .int .i64 0, .int .i64 0, .slice none 0 0, .int .i64 0, .int .i64 0, .slice none 0 0, .int .i64 0, .int .i64 0, .int .i64 0] 64)).setCells w6.heap.size 0 M.toList).frozen? ⟨w6.heap.size, o, none⟩ = false)) := ⟨setCells_below (Nat.le_refl _) _ _ _ _ ((Below.refl _ _).alloc (Nat.le_refl _) _), by rw [setCells_size]; simp, bx_setCells (bx_al w6 _ _) (by rw [HMZ.out]; rfl), fx_sets (fx_al _ _ _)⟩
  go_upto_region 2 with (first | (refine wpList_store_mid rfl 64 _ _ rfl _ _ M (by rfl) (by rw [HM.out]; rfl) HTH.out HMI.out HMO.out ?_))
  generalize hWW : ((w6.alloc (.cells #[.int .i64 0, .int .i64 0, .bool false, .int .i64 0, .int .i64 0, .int .i64 0, .int .i64 0, .int .i64 0, .int .i64 0, .slice none 0 0, .int .i64 0, .int .i64 0, .slice none 0 0, .int .i64 0, .int .i64 0, .int .i64 0] 64)).setCells w6.heap.size 0 M.toList) = w7 at HWN ⊢
  clear hWW HTH
  obtain ⟨hb, zX, kX, fX⟩ := HWN.out
  clear HWN
  obtain ⟨bX, hq⟩ : ∃ q, q = w6.heap.size := ⟨_, rfl⟩
  rw [← hq] at zX kX fX ⊢
  have lRX : bR < bX := by rw [hq]; exact zR
  have lwX : w.heap.size ≤ bX := by rw [hq]; exact D.out.size
  have lsX : sb < bX := by rw [hq]; exact Nat.lt_of_lt_of_le hlt D.out.size
  have nX : bX ≠ sb := by omega
  clear hq
  have dd : Dr sb w6 w7 := (Dr.refl _ _).then hb (Nat.le_refl _)
  replace S : Hid (Src w7 sb (.slice a len cap) (K + 1 + 1 + 1 + 1 + 1)) := S.out.bel hb
  clear hb
  replace kR := bx_dr kR dd zR nR
  replace fR := fx_dr fR dd zR nR
  replace zR := Nat.lt_of_lt_of_le zR dd.size
  replace D : Hid (Dr sb w w7) := D.out.trans dd
  clear dd
  have kM := HM.out
  rw [kM] at kX
  clear kM HM HMZ HMI HMO hfld
  obtain ⟨L, hL⟩ : ∃ L, L = bX + 1 := ⟨_, rfl⟩
  have lXL : bX < L := by omega
  have lRL : bR < L := by omega
  have lsL : sb < L := by omega
  have hLX : L ≤ bX + 1 := by omega
  clear hL
  go_wp2_with fail
  refine (sChance sb a len cap zs _ 4 _ S.out (HR.out _ D.out) hl (by omega) (by omega)).mono ?_
  rintro e w8 ⟨br, rfl, st, s1⟩
  have dd : Dr sb w7 w8 := st.dr
  replace S : Hid (Src w8 sb (.slice a len cap) (K + 1 + 1 + 1 + 1 + 1 + 1)) := s1
  clear st s1
  replace kR := bx_dr kR dd zR nR
  replace fR := fx_dr fR dd zR nR
  replace zR := Nat.lt_of_lt_of_le zR dd.size
  replace kX := bx_dr kX dd zX nX
  replace fX := fx_dr fX dd zX nX
  replace zX := Nat.lt_of_lt_of_le zX dd.size
  replace D : Hid (Dr sb w w8) := D.out.trans dd
  clear dd
  have hLz8 : L ≤ w8.heap.size := by omega
  cases br
  case true =>
    have SD : Hid (∀ W', Kp L w8 W' → Own W' L W'.heap.size shSender (s0, 0, 0, [], ()) [.int .i64 s0, .int .i64 0, .int .i64 0, .slice none 0 0]) := fun W' h => own_snd0 W' L W'.heap.size (Nat.le_trans hLz8 h.size) (WalkArith.wf_i64 (by have h := HS0.out; show -9223372036854775808 ≤ s0 ∧ s0 ≤ 9223372036854775807; omega)) (WalkArith.wf_i64 (by decide)) (WalkArith.wf_i64 (by decide))
    have CD : Hid (∀ W', Kp L w8 W' → shCatch.Rd W' W'.heap.size (0, 0, [], ()) [.int .i64 0, .int .i64 0, .slice none 0 0]) := fun W' _ => (ct_nil W' 0 (by omega) (by omega)).own.rd (Nat.le_refl _)
    have HTS : Hid (totSender (s0, 0, 0, [], ()) ≤ 1000000) := by show _ ≤ _; simp [totSender, totFlights, fsum]
    have HTC : Hid (totCatch (0, 0, [], ()) ≤ 100) := by show _ ≤ _; simp [totCatch, totSpans]
    have KS : Hid (Kp L w8 w8) := Kp.refl _ _
    have KC : Hid (Kp L w8 w8) := Kp.refl _ _
    go_wp2_with fail
    refine (sNext sb a len cap zs _ 18 _ S.out (HR.out _ D.out) hl (by omega) (by omega)).mono ?_
    rintro e v9 ⟨sel, rfl, pl, ql, st, s1⟩
    have dd : Dr sb w8 v9 := st.dr
    replace S : Hid (Src v9 sb (.slice a len cap) (K + 1 + 1 + 1 + 1 + 1 + 1 + 1)) := s1
    clear st s1
    replace kR := bx_dr kR dd zR nR
    replace fR := fx_dr fR dd zR nR
    replace zR := Nat.lt_of_lt_of_le zR dd.size
    replace kX := bx_dr kX dd zX nX
    replace fX := fx_dr fX dd zX nX
    replace zX := Nat.lt_of_lt_of_le zX dd.size
    replace KS : Hid (Kp L w8 v9) := Kp.dr KS.out dd lsL
    replace KC : Hid (Kp L w8 v9) := Kp.dr KC.out dd lsL
    replace D : Hid (Dr sb w v9) := D.out.trans dd
    clear dd
    by_cases h0 : sel = 0
    · have h0' : (sel == 0) = true := by simp [h0]
      go_wp2_with fail
      have hp := sPickD sb a len cap zs _ [-1, 3] 2 v9 S.out (HR.out _ D.out) hl (by omega) (by simp) (by simp)
      simp only [List.length_cons, List.length_nil, List.map_cons, List.map_nil, Nat.zero_add, Nat.reduceAdd] at hp
      refine hp.mono ?_
      clear hp
      rintro e vp0 ⟨r, rfl, hm, dd, s1⟩
      have HRR : Hid (-9 ≤ r ∧ r ≤ 9) := by
        show _ ∧ _
        simp only [List.mem_cons, List.not_mem_nil, or_false] at hm
        omega
      clear hm
      replace S : Hid (Src vp0 sb (.slice a len cap) (K + 1 + 1 + 1 + 1 + 1 + 1 + 1 + 1)) := s1
      clear s1
      replace kR := bx_dr kR dd zR nR
      replace fR := fx_dr fR dd zR nR
      replace zR := Nat.lt_of_lt_of_le zR dd.size
      replace kX := bx_dr kX dd zX nX
      replace fX := fx_dr fX dd zX nX
      replace zX := Nat.lt_of_lt_of_le zX dd.size
      replace KS : Hid (Kp L w8 vp0) := Kp.dr KS.out dd lsL
      replace KC : Hid (Kp L w8 vp0) := Kp.dr KC.out dd lsL
      replace D : Hid (Dr sb w vp0) := D.out.trans dd
      clear dd
      go_upto_region 14 with fail
      replace kX := bx_put kX (k := 0) (v := .int .i64 r) (by simp)
      simp only [List.setIfInBounds_toArray, List.set_cons_zero, List.set_cons_succ] at kX
      replace kR : ∀ o, (vp0.setCell ⟨bX, 0, none⟩ (.int .i64 r)).cell? ⟨bR, o, none⟩ = ((#[.int .i64 0, .int .i64 0, .bool false, .int .i64 0, .int .i64 0, .int .i64 0, .int .i64 0, .int .i64 0, .int .i64 0, .slice none 0 0, .int .i64 0, .int .i64 0, .slice none 0 0, .int .i64 0, .int .i64 0, .int .i64 0] : Array Value))[o]? := bx_setCA kR (by omega)
      replace fR : ∀ o, (vp0.setCell ⟨bX, 0, none⟩ (.int .i64 r)).frozen? ⟨bR, o, none⟩ = false := fx_setCA fR
      replace zR : bR < (vp0.setCell ⟨bX, 0, none⟩ (.int .i64 r)).heap.size := by have h : (vp0.setCell ⟨bX, 0, none⟩ (.int .i64 r)).heap.size = vp0.heap.size := (by simp); omega
      replace fX : ∀ o, (vp0.setCell ⟨bX, 0, none⟩ (.int .i64 r)).frozen? ⟨bX, o, none⟩ = false := fx_setCA fX
      replace zX : bX < (vp0.setCell ⟨bX, 0, none⟩ (.int .i64 r)).heap.size := by have h : (vp0.setCell ⟨bX, 0, none⟩ (.int .i64 r)).heap.size = vp0.heap.size := (by simp); omega
      replace KS : Hid (Kp L w8 (vp0.setCell ⟨bX, 0, none⟩ (.int .i64 r))) := Kp.setCell KS.out (by omega)
      replace KC : Hid (Kp L w8 (vp0.setCell ⟨bX, 0, none⟩ (.int .i64 r))) := Kp.setCell KC.out (by omega)
      have hb : Below bX vp0 (vp0.setCell ⟨bX, 0, none⟩ (.int .i64 r)) := Below.setCell (p := ⟨bX, 0, none⟩) (Below.refl bX vp0) (Nat.le_refl _) _
      replace D : Hid (Dr sb w (vp0.setCell ⟨bX, 0, none⟩ (.int .i64 r))) := D.out.then hb lwX
      replace S : Hid (Src (vp0.setCell ⟨bX, 0, none⟩ (.int .i64 r)) sb (.slice a len cap) (K + 1 + 1 + 1 + 1 + 1 + 1 + 1 + 1)) := S.out.below hb lsX
      clear hb
      generalize hWW : (vp0.setCell ⟨bX, 0, none⟩ (.int .i64 r)) = vq0 at kR zR fR kX zX fX KS KC D S ⊢
      clear hWW
      obtain ⟨N, hN⟩ : ∃ N : Array Value, N = #[.int .i64 r, .int .i64 1, .bool y2, .int .i64 y3, .int .i64 0, .int .i64 y5, .int .i64 s0, .int .i64 0, .int .i64 0, .slice none 0 0, .int .i64 0, .int .i64 0, .slice none 0 0, .int .i64 16, .int .i64 64, .int .i64 0] := ⟨_, rfl⟩
      have HN : Hid _ := hN
      have hNz : N.size = 16 := by rw [hN]; rfl
      have HRG : Hid (vq0.rangeAt bX 0 N.toList) := by show World.rangeAt _ _ _ _; rw [hN]; exact bx_range kX
      have HTH : Hid (vq0.there bR 0 N.size) := bx_there kR fR (by rw [hNz]; rfl)
      have HNI : Hid ((Try.prog.info? 64).map (·.size) = some N.size) := by show _ = _; rw [hNz]; exact (by kernel_rfl : (Try.prog.info? 64).map (·.size) = some 16)
      have HNL : Hid ((Try.prog.info? 64).map (·.size) = some N.toList.length) := by show _ = _; rw [Array.length_toList]; exact HNI.out
      have HONE : Hid (N.all (·.oneCell') = true) := by show _ = _; rw [hN]; simp [Value.oneCell']
      have HJ : Hid (∀ o, (vq0.setCells bR 0 N.toList).cell? ⟨bR, o, none⟩ = N[o]?) := bx_setCells kR (by rw [hNz]; rfl)
      have hbz : Below bR vq0 (vq0.setCells bR 0 N.toList) := setCells_below (Nat.le_refl _) _ _ _ _ (Below.refl _ _)
      have HDZ : Hid (Dr sb w (vq0.setCells bR 0 N.toList)) := D.out.then hbz lwR
      have HSZ : Hid (Src (vq0.setCells bR 0 N.toList) sb (.slice a len cap) (K + 2000)) := (S.out.below hbz lsR).mono (by omega)
      have HXK : Hid (SubK sb L (vq0.setCells bR 0 N.toList) (r, 1, y2, y3, 0, y5, (s0, 0, 0, [], ()), (0, 0, [], ()), (16, 64, 0, ()), ()) N) := by
        rw [hN]
        exact SubK.mk' (Kp.setCells KS.out lRL) (Kp.setCells KC.out lRL) SD.out CD.out HTS.out HTC.out lsL ⟨⟨WalkArith.wf_i64 (by have h := HRR.out; show -9223372036854775808 ≤ r ∧ r ≤ 9223372036854775807; omega), WalkArith.wf_i64 (by have h := HY1.out; show -9223372036854775808 ≤ 1 ∧ 1 ≤ 9223372036854775807; omega), WalkArith.wf_i64 (by have h := HY3.out; show -9223372036854775808 ≤ y3 ∧ y3 ≤ 9223372036854775807; omega), WalkArith.wf_i64 (by show -9223372036854775808 ≤ (0 : Int) ∧ (0 : Int) ≤ 9223372036854775807; omega), WalkArith.wf_i64 (by have h := HY5.out; show -9223372036854775808 ≤ y5 ∧ y5 ≤ 9223372036854775807; omega)⟩, WalkArith.wf_i64 (by show -9223372036854775808 ≤ (16 : Int) ∧ (16 : Int) ≤ 9223372036854775807; omega), WalkArith.wf_i64 (by show -9223372036854775808 ≤ (64 : Int) ∧ (64 : Int) ≤ 9223372036854775807; omega), WalkArith.wf_i64 (by show -9223372036854775808 ≤ (0 : Int) ∧ (0 : Int) ≤ 9223372036854775807; omega)⟩
      clear hN hNz hbz kX kR fR S D
      go_wp2_with (first | (refine wpList_load_mid rfl 64 _ rfl _ _ (by rfl) N.toList _ HRG.out Try.underlying64 rfl HNL.out ?_) | (refine wpList_store_mid rfl 64 _ _ rfl _ _ N (by rfl) (by rfl) HTH.out HNI.out HONE.out ?_))
      exact bodyPost_ret (results_box Try.results75 _ _ _ N _ (by rfl) HJ.out Try.underlying64 rfl HNI.out) rfl ⟨_, N, L, rfl, HXK.out, HDZ.out, HSZ.out⟩
    have h0' : (sel == 0) = false := by simp [h0]
    by_cases h1 : sel = 1
    · have h1' : (sel == 1) = true := by simp [h1]
      go_wp2_with fail
      have hp := sPickD sb a len cap zs _ [0, 5, 4, 1, 2] 2 v9 S.out (HR.out _ D.out) hl (by omega) (by simp) (by simp)
      simp only [List.length_cons, List.length_nil, List.map_cons, List.map_nil, Nat.zero_add, Nat.reduceAdd] at hp
      refine hp.mono ?_
      clear hp
      rintro e vp1 ⟨r, rfl, hm, dd, s1⟩
      have HRR : Hid (-9 ≤ r ∧ r ≤ 9) := by
        show _ ∧ _
        simp only [List.mem_cons, List.not_mem_nil, or_false] at hm
        omega
      clear hm
      replace S : Hid (Src vp1 sb (.slice a len cap) (K + 1 + 1 + 1 + 1 + 1 + 1 + 1 + 1)) := s1
      clear s1
      replace kR := bx_dr kR dd zR nR
      replace fR := fx_dr fR dd zR nR
      replace zR := Nat.lt_of_lt_of_le zR dd.size
      replace kX := bx_dr kX dd zX nX
      replace fX := fx_dr fX dd zX nX
      replace zX := Nat.lt_of_lt_of_le zX dd.size
      replace KS : Hid (Kp L w8 vp1) := Kp.dr KS.out dd lsL
      replace KC : Hid (Kp L w8 vp1) := Kp.dr KC.out dd lsL
      replace D : Hid (Dr sb w vp1) := D.out.trans dd
      clear dd
      go_upto_region 14 with fail
      replace kX := bx_put kX (k := 1) (v := .int .i64 r) (by simp)
      simp only [List.setIfInBounds_toArray, List.set_cons_zero, List.set_cons_succ] at kX
      replace kR : ∀ o, (vp1.setCell ⟨bX, 1, none⟩ (.int .i64 r)).cell? ⟨bR, o, none⟩ = ((#[.int .i64 0, .int .i64 0, .bool false, .int .i64 0, .int .i64 0, .int .i64 0, .int .i64 0, .int .i64 0, .int .i64 0, .slice none 0 0, .int .i64 0, .int .i64 0, .slice none 0 0, .int .i64 0, .int .i64 0, .int .i64 0] : Array Value))[o]? := bx_setCA kR (by omega)
      replace fR : ∀ o, (vp1.setCell ⟨bX, 1, none⟩ (.int .i64 r)).frozen? ⟨bR, o, none⟩ = false := fx_setCA fR
      replace zR : bR < (vp1.setCell ⟨bX, 1, none⟩ (.int .i64 r)).heap.size := by have h : (vp1.setCell ⟨bX, 1, none⟩ (.int .i64 r)).heap.size = vp1.heap.size := (by simp); omega
      replace fX : ∀ o, (vp1.setCell ⟨bX, 1, none⟩ (.int .i64 r)).frozen? ⟨bX, o, none⟩ = false := fx_setCA fX
      replace zX : bX < (vp1.setCell ⟨bX, 1, none⟩ (.int .i64 r)).heap.size := by have h : (vp1.setCell ⟨bX, 1, none⟩ (.int .i64 r)).heap.size = vp1.heap.size := (by simp); omega
      replace KS : Hid (Kp L w8 (vp1.setCell ⟨bX, 1, none⟩ (.int .i64 r))) := Kp.setCell KS.out (by omega)
      replace KC : Hid (Kp L w8 (vp1.setCell ⟨bX, 1, none⟩ (.int .i64 r))) := Kp.setCell KC.out (by omega)
      have hb : Below bX vp1 (vp1.setCell ⟨bX, 1, none⟩ (.int .i64 r)) := Below.setCell (p := ⟨bX, 1, none⟩) (Below.refl bX vp1) (Nat.le_refl _) _
      replace D : Hid (Dr sb w (vp1.setCell ⟨bX, 1, none⟩ (.int .i64 r))) := D.out.then hb lwX
      replace S : Hid (Src (vp1.setCell ⟨bX, 1, none⟩ (.int .i64 r)) sb (.slice a len cap) (K + 1 + 1 + 1 + 1 + 1 + 1 + 1 + 1)) := S.out.below hb lsX
      clear hb
      generalize hWW : (vp1.setCell ⟨bX, 1, none⟩ (.int .i64 r)) = vq1 at kR zR fR kX zX fX KS KC D S ⊢
      clear hWW
      obtain ⟨N, hN⟩ : ∃ N : Array Value, N = #[.int .i64 y0, .int .i64 r, .bool y2, .int .i64 y3, .int .i64 0, .int .i64 y5, .int .i64 s0, .int .i64 0, .int .i64 0, .slice none 0 0, .int .i64 0, .int .i64 0, .slice none 0 0, .int .i64 16, .int .i64 64, .int .i64 0] := ⟨_, rfl⟩
      have HN : Hid _ := hN
      have hNz : N.size = 16 := by rw [hN]; rfl
      have HRG : Hid (vq1.rangeAt bX 0 N.toList) := by show World.rangeAt _ _ _ _; rw [hN]; exact bx_range kX
      have HTH : Hid (vq1.there bR 0 N.size) := bx_there kR fR (by rw [hNz]; rfl)
      have HNI : Hid ((Try.prog.info? 64).map (·.size) = some N.size) := by show _ = _; rw [hNz]; exact (by kernel_rfl : (Try.prog.info? 64).map (·.size) = some 16)
      have HNL : Hid ((Try.prog.info? 64).map (·.size) = some N.toList.length) := by show _ = _; rw [Array.length_toList]; exact HNI.out
      have HONE : Hid (N.all (·.oneCell') = true) := by show _ = _; rw [hN]; simp [Value.oneCell']
      have HJ : Hid (∀ o, (vq1.setCells bR 0 N.toList).cell? ⟨bR, o, none⟩ = N[o]?) := bx_setCells kR (by rw [hNz]; rfl)
      have hbz : Below bR vq1 (vq1.setCells bR 0 N.toList) := setCells_below (Nat.le_refl _) _ _ _ _ (Below.refl _ _)
      have HDZ : Hid (Dr sb w (vq1.setCells bR 0 N.toList)) := D.out.then hbz lwR
      have HSZ : Hid (Src (vq1.setCells bR 0 N.toList) sb (.slice a len cap) (K + 2000)) := (S.out.below hbz lsR).mono (by omega)
      have HXK : Hid (SubK sb L (vq1.setCells bR 0 N.toList) (y0, r, y2, y3, 0, y5, (s0, 0, 0, [], ()), (0, 0, [], ()), (16, 64, 0, ()), ()) N) := by
        rw [hN]
        exact SubK.mk' (Kp.setCells KS.out lRL) (Kp.setCells KC.out lRL) SD.out CD.out HTS.out HTC.out lsL ⟨⟨WalkArith.wf_i64 (by have h := HY0.out; show -9223372036854775808 ≤ y0 ∧ y0 ≤ 9223372036854775807; omega), WalkArith.wf_i64 (by have h := HRR.out; show -9223372036854775808 ≤ r ∧ r ≤ 9223372036854775807; omega), WalkArith.wf_i64 (by have h := HY3.out; show -9223372036854775808 ≤ y3 ∧ y3 ≤ 9223372036854775807; omega), WalkArith.wf_i64 (by show -9223372036854775808 ≤ (0 : Int) ∧ (0 : Int) ≤ 9223372036854775807; omega), WalkArith.wf_i64 (by have h := HY5.out; show -9223372036854775808 ≤ y5 ∧ y5 ≤ 9223372036854775807; omega)⟩, WalkArith.wf_i64 (by show -9223372036854775808 ≤ (16 : Int) ∧ (16 : Int) ≤ 9223372036854775807; omega), WalkArith.wf_i64 (by show -9223372036854775808 ≤ (64 : Int) ∧ (64 : Int) ≤ 9223372036854775807; omega), WalkArith.wf_i64 (by show -9223372036854775808 ≤ (0 : Int) ∧ (0 : Int) ≤ 9223372036854775807; omega)⟩
      clear hN hNz hbz kX kR fR S D
      go_wp2_with (first | (refine wpList_load_mid rfl 64 _ rfl _ _ (by rfl) N.toList _ HRG.out Try.underlying64 rfl HNL.out ?_) | (refine wpList_store_mid rfl 64 _ _ rfl _ _ N (by rfl) (by rfl) HTH.out HNI.out HONE.out ?_))
      exact bodyPost_ret (results_box Try.results75 _ _ _ N _ (by rfl) HJ.out Try.underlying64 rfl HNI.out) rfl ⟨_, N, L, rfl, HXK.out, HDZ.out, HSZ.out⟩
    have h1' : (sel == 1) = false := by simp [h1]
    by_cases h2 : sel = 2
    · have h2' : (sel == 2) = true := by simp [h2]
      go_wp2_with fail
      have hp := sPickD sb a len cap zs _ [-1, 1000001] 2 v9 S.out (HR.out _ D.out) hl (by omega) (by simp) (by simp)
      simp only [List.length_cons, List.length_nil, List.map_cons, List.map_nil, Nat.zero_add, Nat.reduceAdd] at hp
      refine hp.mono ?_
      clear hp
      rintro e vp2 ⟨r, rfl, hm, dd, s1⟩
      have HRR : Hid (-9 ≤ r ∧ r ≤ 2000000) := by
        show _ ∧ _
        simp only [List.mem_cons, List.not_mem_nil, or_false] at hm
        omega
      clear hm
      replace S : Hid (Src vp2 sb (.slice a len cap) (K + 1 + 1 + 1 + 1 + 1 + 1 + 1 + 1)) := s1
      clear s1
      replace kR := bx_dr kR dd zR nR
      replace fR := fx_dr fR dd zR nR
      replace zR := Nat.lt_of_lt_of_le zR dd.size
      replace kX := bx_dr kX dd zX nX
      replace fX := fx_dr fX dd zX nX
      replace zX := Nat.lt_of_lt_of_le zX dd.size
      replace KS : Hid (Kp L w8 vp2) := Kp.dr KS.out dd lsL
      replace KC : Hid (Kp L w8 vp2) := Kp.dr KC.out dd lsL
      replace D : Hid (Dr sb w vp2) := D.out.trans dd
      clear dd
      go_upto_region 14 with fail
      replace kX := bx_put kX (k := 3) (v := .int .i64 r) (by simp)
      simp only [List.setIfInBounds_toArray, List.set_cons_zero, List.set_cons_succ] at kX
      replace kR : ∀ o, (vp2.setCell ⟨bX, 3, none⟩ (.int .i64 r)).cell? ⟨bR, o, none⟩ = ((#[.int .i64 0, .int .i64 0, .bool false, .int .i64 0, .int .i64 0, .int .i64 0, .int .i64 0, .int .i64 0, .int .i64 0, .slice none 0 0, .int .i64 0, .int .i64 0, .slice none 0 0, .int .i64 0, .int .i64 0, .int .i64 0] : Array Value))[o]? := bx_setCA kR (by omega)
      replace fR : ∀ o, (vp2.setCell ⟨bX, 3, none⟩ (.int .i64 r)).frozen? ⟨bR, o, none⟩ = false := fx_setCA fR
      replace zR : bR < (vp2.setCell ⟨bX, 3, none⟩ (.int .i64 r)).heap.size := by have h : (vp2.setCell ⟨bX, 3, none⟩ (.int .i64 r)).heap.size = vp2.heap.size := (by simp); omega
      replace fX : ∀ o, (vp2.setCell ⟨bX, 3, none⟩ (.int .i64 r)).frozen? ⟨bX, o, none⟩ = false := fx_setCA fX
      replace zX : bX < (vp2.setCell ⟨bX, 3, none⟩ (.int .i64 r)).heap.size := by have h : (vp2.setCell ⟨bX, 3, none⟩ (.int .i64 r)).heap.size = vp2.heap.size := (by simp); omega
      replace KS : Hid (Kp L w8 (vp2.setCell ⟨bX, 3, none⟩ (.int .i64 r))) := Kp.setCell KS.out (by omega)
      replace KC : Hid (Kp L w8 (vp2.setCell ⟨bX, 3, none⟩ (.int .i64 r))) := Kp.setCell KC.out (by omega)
      have hb : Below bX vp2 (vp2.setCell ⟨bX, 3, none⟩ (.int .i64 r)) := Below.setCell (p := ⟨bX, 3, none⟩) (Below.refl bX vp2) (Nat.le_refl _) _
      replace D : Hid (Dr sb w (vp2.setCell ⟨bX, 3, none⟩ (.int .i64 r))) := D.out.then hb lwX
      replace S : Hid (Src (vp2.setCell ⟨bX, 3, none⟩ (.int .i64 r)) sb (.slice a len cap) (K + 1 + 1 + 1 + 1 + 1 + 1 + 1 + 1)) := S.out.below hb lsX
      clear hb
      generalize hWW : (vp2.setCell ⟨bX, 3, none⟩ (.int .i64 r)) = vq2 at kR zR fR kX zX fX KS KC D S ⊢
      clear hWW
      obtain ⟨N, hN⟩ : ∃ N : Array Value, N = #[.int .i64 y0, .int .i64 1, .bool y2, .int .i64 r, .int .i64 0, .int .i64 y5, .int .i64 s0, .int .i64 0, .int .i64 0, .slice none 0 0, .int .i64 0, .int .i64 0, .slice none 0 0, .int .i64 16, .int .i64 64, .int .i64 0] := ⟨_, rfl⟩
      have HN : Hid _ := hN
      have hNz : N.size = 16 := by rw [hN]; rfl
      have HRG : Hid (vq2.rangeAt bX 0 N.toList) := by show World.rangeAt _ _ _ _; rw [hN]; exact bx_range kX
      have HTH : Hid (vq2.there bR 0 N.size) := bx_there kR fR (by rw [hNz]; rfl)
      have HNI : Hid ((Try.prog.info? 64).map (·.size) = some N.size) := by show _ = _; rw [hNz]; exact (by kernel_rfl : (Try.prog.info? 64).map (·.size) = some 16)
      have HNL : Hid ((Try.prog.info? 64).map (·.size) = some N.toList.length) := by show _ = _; rw [Array.length_toList]; exact HNI.out
      have HONE : Hid (N.all (·.oneCell') = true) := by show _ = _; rw [hN]; simp [Value.oneCell']
      have HJ : Hid (∀ o, (vq2.setCells bR 0 N.toList).cell? ⟨bR, o, none⟩ = N[o]?) := bx_setCells kR (by rw [hNz]; rfl)
      have hbz : Below bR vq2 (vq2.setCells bR 0 N.toList) := setCells_below (Nat.le_refl _) _ _ _ _ (Below.refl _ _)
      have HDZ : Hid (Dr sb w (vq2.setCells bR 0 N.toList)) := D.out.then hbz lwR
      have HSZ : Hid (Src (vq2.setCells bR 0 N.toList) sb (.slice a len cap) (K + 2000)) := (S.out.below hbz lsR).mono (by omega)
      have HXK : Hid (SubK sb L (vq2.setCells bR 0 N.toList) (y0, 1, y2, r, 0, y5, (s0, 0, 0, [], ()), (0, 0, [], ()), (16, 64, 0, ()), ()) N) := by
        rw [hN]
        exact SubK.mk' (Kp.setCells KS.out lRL) (Kp.setCells KC.out lRL) SD.out CD.out HTS.out HTC.out lsL ⟨⟨WalkArith.wf_i64 (by have h := HY0.out; show -9223372036854775808 ≤ y0 ∧ y0 ≤ 9223372036854775807; omega), WalkArith.wf_i64 (by have h := HY1.out; show -9223372036854775808 ≤ 1 ∧ 1 ≤ 9223372036854775807; omega), WalkArith.wf_i64 (by have h := HRR.out; show -9223372036854775808 ≤ r ∧ r ≤ 9223372036854775807; omega), WalkArith.wf_i64 (by show -9223372036854775808 ≤ (0 : Int) ∧ (0 : Int) ≤ 9223372036854775807; omega), WalkArith.wf_i64 (by have h := HY5.out; show -9223372036854775808 ≤ y5 ∧ y5 ≤ 9223372036854775807; omega)⟩, WalkArith.wf_i64 (by show -9223372036854775808 ≤ (16 : Int) ∧ (16 : Int) ≤ 9223372036854775807; omega), WalkArith.wf_i64 (by show -9223372036854775808 ≤ (64 : Int) ∧ (64 : Int) ≤ 9223372036854775807; omega), WalkArith.wf_i64 (by show -9223372036854775808 ≤ (0 : Int) ∧ (0 : Int) ≤ 9223372036854775807; omega)⟩
      clear hN hNz hbz kX kR fR S D
      go_wp2_with (first | (refine wpList_load_mid rfl 64 _ rfl _ _ (by rfl) N.toList _ HRG.out Try.underlying64 rfl HNL.out ?_) | (refine wpList_store_mid rfl 64 _ _ rfl _ _ N (by rfl) (by rfl) HTH.out HNI.out HONE.out ?_))
      exact bodyPost_ret (results_box Try.results75 _ _ _ N _ (by rfl) HJ.out Try.underlying64 rfl HNI.out) rfl ⟨_, N, L, rfl, HXK.out, HDZ.out, HSZ.out⟩
    have h2' : (sel == 2) = false := by simp [h2]
    go_upto_region 14 with fail
    obtain ⟨N, hN⟩ : ∃ N : Array Value, N = #[.int .i64 y0, .int .i64 1, .bool y2, .int .i64 y3, .int .i64 0, .int .i64 y5, .int .i64 s0, .int .i64 0, .int .i64 0, .slice none 0 0, .int .i64 0, .int .i64 0, .slice none 0 0, .int .i64 16, .int .i64 64, .int .i64 0] := ⟨_, rfl⟩
    have HN : Hid _ := hN
    have hNz : N.size = 16 := by rw [hN]; rfl
    have HRG : Hid (v9.rangeAt bX 0 N.toList) := by show World.rangeAt _ _ _ _; rw [hN]; exact bx_range kX
    have HTH : Hid (v9.there bR 0 N.size) := bx_there kR fR (by rw [hNz]; rfl)
    have HNI : Hid ((Try.prog.info? 64).map (·.size) = some N.size) := by show _ = _; rw [hNz]; exact (by kernel_rfl : (Try.prog.info? 64).map (·.size) = some 16)
    have HNL : Hid ((Try.prog.info? 64).map (·.size) = some N.toList.length) := by show _ = _; rw [Array.length_toList]; exact HNI.out
    have HONE : Hid (N.all (·.oneCell') = true) := by show _ = _; rw [hN]; simp [Value.oneCell']
    have HJ : Hid (∀ o, (v9.setCells bR 0 N.toList).cell? ⟨bR, o, none⟩ = N[o]?) := bx_setCells kR (by rw [hNz]; rfl)
    have hbz : Below bR v9 (v9.setCells bR 0 N.toList) := setCells_below (Nat.le_refl _) _ _ _ _ (Below.refl _ _)
    have HDZ : Hid (Dr sb w (v9.setCells bR 0 N.toList)) := D.out.then hbz lwR
    have HSZ : Hid (Src (v9.setCells bR 0 N.toList) sb (.slice a len cap) (K + 2000)) := (S.out.below hbz lsR).mono (by omega)
    have HXK : Hid (SubK sb L (v9.setCells bR 0 N.toList) (y0, 1, y2, y3, 0, y5, (s0, 0, 0, [], ()), (0, 0, [], ()), (16, 64, 0, ()), ()) N) := by
      rw [hN]
      exact SubK.mk' (Kp.setCells KS.out lRL) (Kp.setCells KC.out lRL) SD.out CD.out HTS.out HTC.out lsL ⟨⟨WalkArith.wf_i64 (by have h := HY0.out; show -9223372036854775808 ≤ y0 ∧ y0 ≤ 9223372036854775807; omega), WalkArith.wf_i64 (by have h := HY1.out; show -9223372036854775808 ≤ 1 ∧ 1 ≤ 9223372036854775807; omega), WalkArith.wf_i64 (by have h := HY3.out; show -9223372036854775808 ≤ y3 ∧ y3 ≤ 9223372036854775807; omega), WalkArith.wf_i64 (by show -9223372036854775808 ≤ (0 : Int) ∧ (0 : Int) ≤ 9223372036854775807; omega), WalkArith.wf_i64 (by have h := HY5.out; show -9223372036854775808 ≤ y5 ∧ y5 ≤ 9223372036854775807; omega)⟩, WalkArith.wf_i64 (by show -9223372036854775808 ≤ (16 : Int) ∧ (16 : Int) ≤ 9223372036854775807; omega), WalkArith.wf_i64 (by show -9223372036854775808 ≤ (64 : Int) ∧ (64 : Int) ≤ 9223372036854775807; omega), WalkArith.wf_i64 (by show -9223372036854775808 ≤ (0 : Int) ∧ (0 : Int) ≤ 9223372036854775807; omega)⟩
    clear hN hNz hbz kX kR fR S D
    go_wp2_with (first | (refine wpList_load_mid rfl 64 _ rfl _ _ (by rfl) N.toList _ HRG.out Try.underlying64 rfl HNL.out ?_) | (refine wpList_store_mid rfl 64 _ _ rfl _ _ N (by rfl) (by rfl) HTH.out HNI.out HONE.out ?_))
    exact bodyPost_ret (results_box Try.results75 _ _ _ N _ (by rfl) HJ.out Try.underlying64 rfl HNI.out) rfl ⟨_, N, L, rfl, HXK.out, HDZ.out, HSZ.out⟩
  have HY3' : Hid (-9 ≤ (3 : Int) ∧ (3 : Int) ≤ 9) := by show _ ∧ _; omega
  go_upto_region 4 with fail
  replace kX := bx_put kX (k := 1) (v := .int .i64 3) (by simp)
  simp only [List.setIfInBounds_toArray, List.set_cons_zero, List.set_cons_succ] at kX
  replace kR : ∀ o, (w8.setCell ⟨bX, 1, none⟩ (.int .i64 3)).cell? ⟨bR, o, none⟩ = ((#[.int .i64 0, .int .i64 0, .bool false, .int .i64 0, .int .i64 0, .int .i64 0, .int .i64 0, .int .i64 0, .int .i64 0, .slice none 0 0, .int .i64 0, .int .i64 0, .slice none 0 0, .int .i64 0, .int .i64 0, .int .i64 0] : Array Value))[o]? := bx_setCA kR (by omega)
  replace fR : ∀ o, (w8.setCell ⟨bX, 1, none⟩ (.int .i64 3)).frozen? ⟨bR, o, none⟩ = false := fx_setCA fR
  replace zR : bR < (w8.setCell ⟨bX, 1, none⟩ (.int .i64 3)).heap.size := by have h : (w8.setCell ⟨bX, 1, none⟩ (.int .i64 3)).heap.size = w8.heap.size := (by simp); omega
  replace fX : ∀ o, (w8.setCell ⟨bX, 1, none⟩ (.int .i64 3)).frozen? ⟨bX, o, none⟩ = false := fx_setCA fX
  replace zX : bX < (w8.setCell ⟨bX, 1, none⟩ (.int .i64 3)).heap.size := by have h : (w8.setCell ⟨bX, 1, none⟩ (.int .i64 3)).heap.size = w8.heap.size := (by simp); omega
  have hb : Below bX w8 (w8.setCell ⟨bX, 1, none⟩ (.int .i64 3)) := Below.setCell (p := ⟨bX, 1, none⟩) (Below.refl bX w8) (Nat.le_refl _) _
  replace D : Hid (Dr sb w (w8.setCell ⟨bX, 1, none⟩ (.int .i64 3))) := D.out.then hb lwX
  replace S : Hid (Src (w8.setCell ⟨bX, 1, none⟩ (.int .i64 3)) sb (.slice a len cap) (K + 1 + 1 + 1 + 1 + 1 + 1)) := S.out.below hb lsX
  clear hb
  generalize hWW : (w8.setCell ⟨bX, 1, none⟩ (.int .i64 3)) = u0 at kR zR fR kX zX fX D S ⊢
  clear hWW
  go_wp2_with fail
  have hLu : L ≤ u0.heap.size := by omega
  refine (sSender5 sb a len cap zs _ _ S.out (HR.out _ D.out) hl (by omega) (by omega)).mono ?_
  rintro e u1 ⟨xs, u, rfl, ho, hts, st, s1⟩
  have hso := Own.mono ho hLu (Nat.le_refl _)
  obtain ⟨uu, eu, ru, -⟩ := rd_Sender (ho.rd (Nat.le_refl _))
  simp only [List.cons.injEq, and_true, true_and] at eu
  subst eu
  obtain ⟨ua, uc, eu⟩ := row_form ru
  simp only [List.cons.injEq, and_true] at eu
  subst eu
  clear ru ho
  obtain ⟨t0, t1, t2, fl, ⟨⟩⟩ := xs
  simp only at hso hts ⊢
  have SD : Hid (∀ W', Kp L u1 W' → Own W' L W'.heap.size shSender (t0, t1, t2, fl, ()) [.int .i64 t0, .int .i64 t1, .int .i64 t2, .slice ua fl.length uc]) := fun W' h => Own.mono (Own.keep hso (fun b h1 h2 => h.blk b h1 h2)) (Nat.le_refl _) h.size
  have HTS : Hid (totSender (t0, t1, t2, fl, ()) ≤ 1000000) := hts
  have KS : Hid (Kp L u1 u1) := Kp.refl _ _
  clear hso hts
  generalize fl.length = fn at *
  have dd : Dr sb u0 u1 := st
  replace S : Hid (Src u1 sb (.slice a len cap) (K + 1 + 1 + 1 + 1 + 1 + 1 + 1000)) := s1
  clear st s1
  replace kR := bx_dr kR dd zR nR
  replace fR := fx_dr fR dd zR nR
  replace zR := Nat.lt_of_lt_of_le zR dd.size
  replace kX := bx_dr kX dd zX nX
  replace fX := fx_dr fX dd zX nX
  replace zX := Nat.lt_of_lt_of_le zX dd.size
  replace D : Hid (Dr sb w u1) := D.out.trans dd
  clear dd
  go_upto_region 5 with fail
  replace kX := bx_put kX (k := 6) (v := .int .i64 t0) (by simp)
  simp only [List.setIfInBounds_toArray, List.set_cons_zero, List.set_cons_succ] at kX
  replace kR : ∀ o, (u1.setCell ⟨bX, 6, none⟩ (.int .i64 t0)).cell? ⟨bR, o, none⟩ = ((#[.int .i64 0, .int .i64 0, .bool false, .int .i64 0, .int .i64 0, .int .i64 0, .int .i64 0, .int .i64 0, .int .i64 0, .slice none 0 0, .int .i64 0, .int .i64 0, .slice none 0 0, .int .i64 0, .int .i64 0, .int .i64 0] : Array Value))[o]? := bx_setCA kR (by omega)
  replace fR : ∀ o, (u1.setCell ⟨bX, 6, none⟩ (.int .i64 t0)).frozen? ⟨bR, o, none⟩ = false := fx_setCA fR
  replace zR : bR < (u1.setCell ⟨bX, 6, none⟩ (.int .i64 t0)).heap.size := by have h : (u1.setCell ⟨bX, 6, none⟩ (.int .i64 t0)).heap.size = u1.heap.size := (by simp); omega
  replace fX : ∀ o, (u1.setCell ⟨bX, 6, none⟩ (.int .i64 t0)).frozen? ⟨bX, o, none⟩ = false := fx_setCA fX
  replace zX : bX < (u1.setCell ⟨bX, 6, none⟩ (.int .i64 t0)).heap.size := by have h : (u1.setCell ⟨bX, 6, none⟩ (.int .i64 t0)).heap.size = u1.heap.size := (by simp); omega
  replace KS : Hid (Kp L u1 (u1.setCell ⟨bX, 6, none⟩ (.int .i64 t0))) := Kp.setCell KS.out (by omega)
  have hb : Below bX u1 (u1.setCell ⟨bX, 6, none⟩ (.int .i64 t0)) := Below.setCell (p := ⟨bX, 6, none⟩) (Below.refl bX u1) (Nat.le_refl _) _
  replace D : Hid (Dr sb w (u1.setCell ⟨bX, 6, none⟩ (.int .i64 t0))) := D.out.then hb lwX
  replace S : Hid (Src (u1.setCell ⟨bX, 6, none⟩ (.int .i64 t0)) sb (.slice a len cap) (K + 1 + 1 + 1 + 1 + 1 + 1 + 1000)) := S.out.below hb lsX
  clear hb
  generalize hWW : (u1.setCell ⟨bX, 6, none⟩ (.int .i64 t0)) = u20 at kR zR fR kX zX fX KS D S ⊢
  clear hWW
  replace kX := bx_put kX (k := 7) (v := .int .i64 t1) (by simp)
  simp only [List.setIfInBounds_toArray, List.set_cons_zero, List.set_cons_succ] at kX
  replace kR : ∀ o, (u20.setCell ⟨bX, 7, none⟩ (.int .i64 t1)).cell? ⟨bR, o, none⟩ = ((#[.int .i64 0, .int .i64 0, .bool false, .int .i64 0, .int .i64 0, .int .i64 0, .int .i64 0, .int .i64 0, .int .i64 0, .slice none 0 0, .int .i64 0, .int .i64 0, .slice none 0 0, .int .i64 0, .int .i64 0, .int .i64 0] : Array Value))[o]? := bx_setCA kR (by omega)
  replace fR : ∀ o, (u20.setCell ⟨bX, 7, none⟩ (.int .i64 t1)).frozen? ⟨bR, o, none⟩ = false := fx_setCA fR
  replace zR : bR < (u20.setCell ⟨bX, 7, none⟩ (.int .i64 t1)).heap.size := by have h : (u20.setCell ⟨bX, 7, none⟩ (.int .i64 t1)).heap.size = u20.heap.size := (by simp); omega
  replace fX : ∀ o, (u20.setCell ⟨bX, 7, none⟩ (.int .i64 t1)).frozen? ⟨bX, o, none⟩ = false := fx_setCA fX
  replace zX : bX < (u20.setCell ⟨bX, 7, none⟩ (.int .i64 t1)).heap.size := by have h : (u20.setCell ⟨bX, 7, none⟩ (.int .i64 t1)).heap.size = u20.heap.size := (by simp); omega
  replace KS : Hid (Kp L u1 (u20.setCell ⟨bX, 7, none⟩ (.int .i64 t1))) := Kp.setCell KS.out (by omega)
  have hb : Below bX u20 (u20.setCell ⟨bX, 7, none⟩ (.int .i64 t1)) := Below.setCell (p := ⟨bX, 7, none⟩) (Below.refl bX u20) (Nat.le_refl _) _
  replace D : Hid (Dr sb w (u20.setCell ⟨bX, 7, none⟩ (.int .i64 t1))) := D.out.then hb lwX
  replace S : Hid (Src (u20.setCell ⟨bX, 7, none⟩ (.int .i64 t1)) sb (.slice a len cap) (K + 1 + 1 + 1 + 1 + 1 + 1 + 1000)) := S.out.below hb lsX
  clear hb
  generalize hWW : (u20.setCell ⟨bX, 7, none⟩ (.int .i64 t1)) = u21 at kR zR fR kX zX fX KS D S ⊢
  clear hWW
  replace kX := bx_put kX (k := 8) (v := .int .i64 t2) (by simp)
  simp only [List.setIfInBounds_toArray, List.set_cons_zero, List.set_cons_succ] at kX
  replace kR : ∀ o, (u21.setCell ⟨bX, 8, none⟩ (.int .i64 t2)).cell? ⟨bR, o, none⟩ = ((#[.int .i64 0, .int .i64 0, .bool false, .int .i64 0, .int .i64 0, .int .i64 0, .int .i64 0, .int .i64 0, .int .i64 0, .slice none 0 0, .int .i64 0, .int .i64 0, .slice none 0 0, .int .i64 0, .int .i64 0, .int .i64 0] : Array Value))[o]? := bx_setCA kR (by omega)
  replace fR : ∀ o, (u21.setCell ⟨bX, 8, none⟩ (.int .i64 t2)).frozen? ⟨bR, o, none⟩ = false := fx_setCA fR
  replace zR : bR < (u21.setCell ⟨bX, 8, none⟩ (.int .i64 t2)).heap.size := by have h : (u21.setCell ⟨bX, 8, none⟩ (.int .i64 t2)).heap.size = u21.heap.size := (by simp); omega
  replace fX : ∀ o, (u21.setCell ⟨bX, 8, none⟩ (.int .i64 t2)).frozen? ⟨bX, o, none⟩ = false := fx_setCA fX
  replace zX : bX < (u21.setCell ⟨bX, 8, none⟩ (.int .i64 t2)).heap.size := by have h : (u21.setCell ⟨bX, 8, none⟩ (.int .i64 t2)).heap.size = u21.heap.size := (by simp); omega
  replace KS : Hid (Kp L u1 (u21.setCell ⟨bX, 8, none⟩ (.int .i64 t2))) := Kp.setCell KS.out (by omega)
  have hb : Below bX u21 (u21.setCell ⟨bX, 8, none⟩ (.int .i64 t2)) := Below.setCell (p := ⟨bX, 8, none⟩) (Below.refl bX u21) (Nat.le_refl _) _
  replace D : Hid (Dr sb w (u21.setCell ⟨bX, 8, none⟩ (.int .i64 t2))) := D.out.then hb lwX
  replace S : Hid (Src (u21.setCell ⟨bX, 8, none⟩ (.int .i64 t2)) sb (.slice a len cap) (K + 1 + 1 + 1 + 1 + 1 + 1 + 1000)) := S.out.below hb lsX
  clear hb
  generalize hWW : (u21.setCell ⟨bX, 8, none⟩ (.int .i64 t2)) = u22 at kR zR fR kX zX fX KS D S ⊢
  clear hWW
  replace kX := bx_put kX (k := 9) (v := .slice ua fn uc) (by simp)
  simp only [List.setIfInBounds_toArray, List.set_cons_zero, List.set_cons_succ] at kX
  replace kR : ∀ o, (u22.setCell ⟨bX, 9, none⟩ (.slice ua fn uc)).cell? ⟨bR, o, none⟩ = ((#[.int .i64 0, .int .i64 0, .bool false, .int .i64 0, .int .i64 0, .int .i64 0, .int .i64 0, .int .i64 0, .int .i64 0, .slice none 0 0, .int .i64 0, .int .i64 0, .slice none 0 0, .int .i64 0, .int .i64 0, .int .i64 0] : Array Value))[o]? := bx_setCA kR (by omega)
  replace fR : ∀ o, (u22.setCell ⟨bX, 9, none⟩ (.slice ua fn uc)).frozen? ⟨bR, o, none⟩ = false := fx_setCA fR
  replace zR : bR < (u22.setCell ⟨bX, 9, none⟩ (.slice ua fn uc)).heap.size := by have h : (u22.setCell ⟨bX, 9, none⟩ (.slice ua fn uc)).heap.size = u22.heap.size := (by simp); omega
  replace fX : ∀ o, (u22.setCell ⟨bX, 9, none⟩ (.slice ua fn uc)).frozen? ⟨bX, o, none⟩ = false := fx_setCA fX
  replace zX : bX < (u22.setCell ⟨bX, 9, none⟩ (.slice ua fn uc)).heap.size := by have h : (u22.setCell ⟨bX, 9, none⟩ (.slice ua fn uc)).heap.size = u22.heap.size := (by simp); omega
  replace KS : Hid (Kp L u1 (u22.setCell ⟨bX, 9, none⟩ (.slice ua fn uc))) := Kp.setCell KS.out (by omega)
  have hb : Below bX u22 (u22.setCell ⟨bX, 9, none⟩ (.slice ua fn uc)) := Below.setCell (p := ⟨bX, 9, none⟩) (Below.refl bX u22) (Nat.le_refl _) _
  replace D : Hid (Dr sb w (u22.setCell ⟨bX, 9, none⟩ (.slice ua fn uc))) := D.out.then hb lwX
  replace S : Hid (Src (u22.setCell ⟨bX, 9, none⟩ (.slice ua fn uc)) sb (.slice a len cap) (K + 1 + 1 + 1 + 1 + 1 + 1 + 1000)) := S.out.below hb lsX
  clear hb
  generalize hWW : (u22.setCell ⟨bX, 9, none⟩ (.slice ua fn uc)) = u23 at kR zR fR kX zX fX KS D S ⊢
  clear hWW
  go_wp2_with fail
  have hLv : L ≤ u23.heap.size + 1 := by omega
  refine (sCatch7 sb a len cap zs _ _ S.out (HR.out _ D.out) hl (by omega) (by omega)).mono ?_
  rintro e u3 ⟨xc, va, sn, vc, rfl, fc, st, s1⟩
  have hfc := fc.low hLv
  obtain ⟨c0, c1, sp, ⟨⟩⟩ := xc
  simp only at hfc fc ⊢
  have CD : Hid (∀ W', Kp L u3 W' → shCatch.Rd W' W'.heap.size (c0, c1, sp, ()) [.int .i64 c0, .int .i64 c1, .slice va sn vc]) := fun W' h => (hfc.keep (fun g h1 h2 => h.blk g h1 h2)).rd
  have HTC : Hid (totCatch (c0, c1, sp, ()) ≤ 100) := by have h1 := hfc.few; have h2 : sn = sp.length := hfc.len; show sp.length ≤ 100; omega
  have KC : Hid (Kp L u3 u3) := Kp.refl _ _
  clear hfc fc
  have dd : Dr sb u23 u3 := st
  replace S : Hid (Src u3 sb (.slice a len cap) (K + 1 + 1 + 1 + 1 + 1 + 1 + 1000 + 100)) := s1
  clear st s1
  replace kR := bx_dr kR dd zR nR
  replace fR := fx_dr fR dd zR nR
  replace zR := Nat.lt_of_lt_of_le zR dd.size
  replace kX := bx_dr kX dd zX nX
  replace fX := fx_dr fX dd zX nX
  replace zX := Nat.lt_of_lt_of_le zX dd.size
  replace KS : Hid (Kp L u1 u3) := Kp.dr KS.out dd lsL
  replace D : Hid (Dr sb w u3) := D.out.trans dd
  clear dd
  go_upto_region 6 with fail
  replace kX := bx_put kX (k := 10) (v := .int .i64 c0) (by simp)
  simp only [List.setIfInBounds_toArray, List.set_cons_zero, List.set_cons_succ] at kX
  replace kR : ∀ o, (u3.setCell ⟨bX, 10, none⟩ (.int .i64 c0)).cell? ⟨bR, o, none⟩ = ((#[.int .i64 0, .int .i64 0, .bool false, .int .i64 0, .int .i64 0, .int .i64 0, .int .i64 0, .int .i64 0, .int .i64 0, .slice none 0 0, .int .i64 0, .int .i64 0, .slice none 0 0, .int .i64 0, .int .i64 0, .int .i64 0] : Array Value))[o]? := bx_setCA kR (by omega)
  replace fR : ∀ o, (u3.setCell ⟨bX, 10, none⟩ (.int .i64 c0)).frozen? ⟨bR, o, none⟩ = false := fx_setCA fR
  replace zR : bR < (u3.setCell ⟨bX, 10, none⟩ (.int .i64 c0)).heap.size := by have h : (u3.setCell ⟨bX, 10, none⟩ (.int .i64 c0)).heap.size = u3.heap.size := (by simp); omega
  replace fX : ∀ o, (u3.setCell ⟨bX, 10, none⟩ (.int .i64 c0)).frozen? ⟨bX, o, none⟩ = false := fx_setCA fX
  replace zX : bX < (u3.setCell ⟨bX, 10, none⟩ (.int .i64 c0)).heap.size := by have h : (u3.setCell ⟨bX, 10, none⟩ (.int .i64 c0)).heap.size = u3.heap.size := (by simp); omega
  replace KS : Hid (Kp L u1 (u3.setCell ⟨bX, 10, none⟩ (.int .i64 c0))) := Kp.setCell KS.out (by omega)
  replace KC : Hid (Kp L u3 (u3.setCell ⟨bX, 10, none⟩ (.int .i64 c0))) := Kp.setCell KC.out (by omega)
  have hb : Below bX u3 (u3.setCell ⟨bX, 10, none⟩ (.int .i64 c0)) := Below.setCell (p := ⟨bX, 10, none⟩) (Below.refl bX u3) (Nat.le_refl _) _
  replace D : Hid (Dr sb w (u3.setCell ⟨bX, 10, none⟩ (.int .i64 c0))) := D.out.then hb lwX
  replace S : Hid (Src (u3.setCell ⟨bX, 10, none⟩ (.int .i64 c0)) sb (.slice a len cap) (K + 1 + 1 + 1 + 1 + 1 + 1 + 1000 + 100)) := S.out.below hb lsX
  clear hb
  generalize hWW : (u3.setCell ⟨bX, 10, none⟩ (.int .i64 c0)) = u40 at kR zR fR kX zX fX KS KC D S ⊢
  clear hWW
  replace kX := bx_put kX (k := 11) (v := .int .i64 c1) (by simp)
  simp only [List.setIfInBounds_toArray, List.set_cons_zero, List.set_cons_succ] at kX
  replace kR : ∀ o, (u40.setCell ⟨bX, 11, none⟩ (.int .i64 c1)).cell? ⟨bR, o, none⟩ = ((#[.int .i64 0, .int .i64 0, .bool false, .int .i64 0, .int .i64 0, .int .i64 0, .int .i64 0, .int .i64 0, .int .i64 0, .slice none 0 0, .int .i64 0, .int .i64 0, .slice none 0 0, .int .i64 0, .int .i64 0, .int .i64 0] : Array Value))[o]? := bx_setCA kR (by omega)
  replace fR : ∀ o, (u40.setCell ⟨bX, 11, none⟩ (.int .i64 c1)).frozen? ⟨bR, o, none⟩ = false := fx_setCA fR
  replace zR : bR < (u40.setCell ⟨bX, 11, none⟩ (.int .i64 c1)).heap.size := by have h : (u40.setCell ⟨bX, 11, none⟩ (.int .i64 c1)).heap.size = u40.heap.size := (by simp); omega
  replace fX : ∀ o, (u40.setCell ⟨bX, 11, none⟩ (.int .i64 c1)).frozen? ⟨bX, o, none⟩ = false := fx_setCA fX
  replace zX : bX < (u40.setCell ⟨bX, 11, none⟩ (.int .i64 c1)).heap.size := by have h : (u40.setCell ⟨bX, 11, none⟩ (.int .i64 c1)).heap.size = u40.heap.size := (by simp); omega
  replace KS : Hid (Kp L u1 (u40.setCell ⟨bX, 11, none⟩ (.int .i64 c1))) := Kp.setCell KS.out (by omega)
  replace KC : Hid (Kp L u3 (u40.setCell ⟨bX, 11, none⟩ (.int .i64 c1))) := Kp.setCell KC.out (by omega)
  have hb : Below bX u40 (u40.setCell ⟨bX, 11, none⟩ (.int .i64 c1)) := Below.setCell (p := ⟨bX, 11, none⟩) (Below.refl bX u40) (Nat.le_refl _) _
  replace D : Hid (Dr sb w (u40.setCell ⟨bX, 11, none⟩ (.int .i64 c1))) := D.out.then hb lwX
  replace S : Hid (Src (u40.setCell ⟨bX, 11, none⟩ (.int .i64 c1)) sb (.slice a len cap) (K + 1 + 1 + 1 + 1 + 1 + 1 + 1000 + 100)) := S.out.below hb lsX
  clear hb
  generalize hWW : (u40.setCell ⟨bX, 11, none⟩ (.int .i64 c1)) = u41 at kR zR fR kX zX fX KS KC D S ⊢
  clear hWW
  replace kX := bx_put kX (k := 12) (v := .slice va sn vc) (by simp)
  simp only [List.setIfInBounds_toArray, List.set_cons_zero, List.set_cons_succ] at kX
  replace kR : ∀ o, (u41.setCell ⟨bX, 12, none⟩ (.slice va sn vc)).cell? ⟨bR, o, none⟩ = ((#[.int .i64 0, .int .i64 0, .bool false, .int .i64 0, .int .i64 0, .int .i64 0, .int .i64 0, .int .i64 0, .int .i64 0, .slice none 0 0, .int .i64 0, .int .i64 0, .slice none 0 0, .int .i64 0, .int .i64 0, .int .i64 0] : Array Value))[o]? := bx_setCA kR (by omega)
  replace fR : ∀ o, (u41.setCell ⟨bX, 12, none⟩ (.slice va sn vc)).frozen? ⟨bR, o, none⟩ = false := fx_setCA fR
  replace zR : bR < (u41.setCell ⟨bX, 12, none⟩ (.slice va sn vc)).heap.size := by have h : (u41.setCell ⟨bX, 12, none⟩ (.slice va sn vc)).heap.size = u41.heap.size := (by simp); omega
  replace fX : ∀ o, (u41.setCell ⟨bX, 12, none⟩ (.slice va sn vc)).frozen? ⟨bX, o, none⟩ = false := fx_setCA fX
  replace zX : bX < (u41.setCell ⟨bX, 12, none⟩ (.slice va sn vc)).heap.size := by have h : (u41.setCell ⟨bX, 12, none⟩ (.slice va sn vc)).heap.size = u41.heap.size := (by simp); omega
  replace KS : Hid (Kp L u1 (u41.setCell ⟨bX, 12, none⟩ (.slice va sn vc))) := Kp.setCell KS.out (by omega)
  replace KC : Hid (Kp L u3 (u41.setCell ⟨bX, 12, none⟩ (.slice va sn vc))) := Kp.setCell KC.out (by omega)
  have hb : Below bX u41 (u41.setCell ⟨bX, 12, none⟩ (.slice va sn vc)) := Below.setCell (p := ⟨bX, 12, none⟩) (Below.refl bX u41) (Nat.le_refl _) _
  replace D : Hid (Dr sb w (u41.setCell ⟨bX, 12, none⟩ (.slice va sn vc))) := D.out.then hb lwX
  replace S : Hid (Src (u41.setCell ⟨bX, 12, none⟩ (.slice va sn vc)) sb (.slice a len cap) (K + 1 + 1 + 1 + 1 + 1 + 1 + 1000 + 100)) := S.out.below hb lsX
  clear hb
  generalize hWW : (u41.setCell ⟨bX, 12, none⟩ (.slice va sn vc)) = u42 at kR zR fR kX zX fX KS KC D S ⊢
  clear hWW
  go_wp2_with fail
  refine (dControlB sb a len cap zs _ _ S.out (HR.out _ D.out) hl (by omega)).mono ?_
  rintro e u5 ⟨k0, k1, k2, rfl, hk, st, s1⟩
  have dd : Dr sb u42 u5 := st
  replace S : Hid (Src u5 sb (.slice a len cap) (K + 1 + 1 + 1 + 1 + 1 + 1 + 1000 + 100 + 10)) := s1
  clear st s1
  replace kR := bx_dr kR dd zR nR
  replace fR := fx_dr fR dd zR nR
  replace zR := Nat.lt_of_lt_of_le zR dd.size
  replace kX := bx_dr kX dd zX nX
  replace fX := fx_dr fX dd zX nX
  replace zX := Nat.lt_of_lt_of_le zX dd.size
  replace KS : Hid (Kp L u1 u5) := Kp.dr KS.out dd lsL
  replace KC : Hid (Kp L u3 u5) := Kp.dr KC.out dd lsL
  replace D : Hid (Dr sb w u5) := D.out.trans dd
  clear dd
  have HKB : Hid _ := hk
  clear hk
  go_upto_region 7 with fail
  replace kX := bx_put kX (k := 13) (v := .int .i64 k0) (by simp)
  simp only [List.setIfInBounds_toArray, List.set_cons_zero, List.set_cons_succ] at kX
  replace kR : ∀ o, (u5.setCell ⟨bX, 13, none⟩ (.int .i64 k0)).cell? ⟨bR, o, none⟩ = ((#[.int .i64 0, .int .i64 0, .bool false, .int .i64 0, .int .i64 0, .int .i64 0, .int .i64 0, .int .i64 0, .int .i64 0, .slice none 0 0, .int .i64 0, .int .i64 0, .slice none 0 0, .int .i64 0, .int .i64 0, .int .i64 0] : Array Value))[o]? := bx_setCA kR (by omega)
  replace fR : ∀ o, (u5.setCell ⟨bX, 13, none⟩ (.int .i64 k0)).frozen? ⟨bR, o, none⟩ = false := fx_setCA fR
  replace zR : bR < (u5.setCell ⟨bX, 13, none⟩ (.int .i64 k0)).heap.size := by have h : (u5.setCell ⟨bX, 13, none⟩ (.int .i64 k0)).heap.size = u5.heap.size := (by simp); omega
  replace fX : ∀ o, (u5.setCell ⟨bX, 13, none⟩ (.int .i64 k0)).frozen? ⟨bX, o, none⟩ = false := fx_setCA fX
  replace zX : bX < (u5.setCell ⟨bX, 13, none⟩ (.int .i64 k0)).heap.size := by have h : (u5.setCell ⟨bX, 13, none⟩ (.int .i64 k0)).heap.size = u5.heap.size := (by simp); omega
  replace KS : Hid (Kp L u1 (u5.setCell ⟨bX, 13, none⟩ (.int .i64 k0))) := Kp.setCell KS.out (by omega)
  replace KC : Hid (Kp L u3 (u5.setCell ⟨bX, 13, none⟩ (.int .i64 k0))) := Kp.setCell KC.out (by omega)
  have hb : Below bX u5 (u5.setCell ⟨bX, 13, none⟩ (.int .i64 k0)) := Below.setCell (p := ⟨bX, 13, none⟩) (Below.refl bX u5) (Nat.le_refl _) _
  replace D : Hid (Dr sb w (u5.setCell ⟨bX, 13, none⟩ (.int .i64 k0))) := D.out.then hb lwX
  replace S : Hid (Src (u5.setCell ⟨bX, 13, none⟩ (.int .i64 k0)) sb (.slice a len cap) (K + 1 + 1 + 1 + 1 + 1 + 1 + 1000 + 100 + 10)) := S.out.below hb lsX
  clear hb
  generalize hWW : (u5.setCell ⟨bX, 13, none⟩ (.int .i64 k0)) = u60 at kR zR fR kX zX fX KS KC D S ⊢
  clear hWW
  replace kX := bx_put kX (k := 14) (v := .int .i64 k1) (by simp)
  simp only [List.setIfInBounds_toArray, List.set_cons_zero, List.set_cons_succ] at kX
  replace kR : ∀ o, (u60.setCell ⟨bX, 14, none⟩ (.int .i64 k1)).cell? ⟨bR, o, none⟩ = ((#[.int .i64 0, .int .i64 0, .bool false, .int .i64 0, .int .i64 0, .int .i64 0, .int .i64 0, .int .i64 0, .int .i64 0, .slice none 0 0, .int .i64 0, .int .i64 0, .slice none 0 0, .int .i64 0, .int .i64 0, .int .i64 0] : Array Value))[o]? := bx_setCA kR (by omega)
  replace fR : ∀ o, (u60.setCell ⟨bX, 14, none⟩ (.int .i64 k1)).frozen? ⟨bR, o, none⟩ = false := fx_setCA fR
  replace zR : bR < (u60.setCell ⟨bX, 14, none⟩ (.int .i64 k1)).heap.size := by have h : (u60.setCell ⟨bX, 14, none⟩ (.int .i64 k1)).heap.size = u60.heap.size := (by simp); omega
  replace fX : ∀ o, (u60.setCell ⟨bX, 14, none⟩ (.int .i64 k1)).frozen? ⟨bX, o, none⟩ = false := fx_setCA fX
  replace zX : bX < (u60.setCell ⟨bX, 14, none⟩ (.int .i64 k1)).heap.size := by have h : (u60.setCell ⟨bX, 14, none⟩ (.int .i64 k1)).heap.size = u60.heap.size := (by simp); omega
  replace KS : Hid (Kp L u1 (u60.setCell ⟨bX, 14, none⟩ (.int .i64 k1))) := Kp.setCell KS.out (by omega)
  replace KC : Hid (Kp L u3 (u60.setCell ⟨bX, 14, none⟩ (.int .i64 k1))) := Kp.setCell KC.out (by omega)
  have hb : Below bX u60 (u60.setCell ⟨bX, 14, none⟩ (.int .i64 k1)) := Below.setCell (p := ⟨bX, 14, none⟩) (Below.refl bX u60) (Nat.le_refl _) _
  replace D : Hid (Dr sb w (u60.setCell ⟨bX, 14, none⟩ (.int .i64 k1))) := D.out.then hb lwX
  replace S : Hid (Src (u60.setCell ⟨bX, 14, none⟩ (.int .i64 k1)) sb (.slice a len cap) (K + 1 + 1 + 1 + 1 + 1 + 1 + 1000 + 100 + 10)) := S.out.below hb lsX
  clear hb
  generalize hWW : (u60.setCell ⟨bX, 14, none⟩ (.int .i64 k1)) = u61 at kR zR fR kX zX fX KS KC D S ⊢
  clear hWW
  replace kX := bx_put kX (k := 15) (v := .int .i64 k2) (by simp)
  simp only [List.setIfInBounds_toArray, List.set_cons_zero, List.set_cons_succ] at kX
  replace kR : ∀ o, (u61.setCell ⟨bX, 15, none⟩ (.int .i64 k2)).cell? ⟨bR, o, none⟩ = ((#[.int .i64 0, .int .i64 0, .bool false, .int .i64 0, .int .i64 0, .int .i64 0, .int .i64 0, .int .i64 0, .int .i64 0, .slice none 0 0, .int .i64 0, .int .i64 0, .slice none 0 0, .int .i64 0, .int .i64 0, .int .i64 0] : Array Value))[o]? := bx_setCA kR (by omega)
  replace fR : ∀ o, (u61.setCell ⟨bX, 15, none⟩ (.int .i64 k2)).frozen? ⟨bR, o, none⟩ = false := fx_setCA fR
  replace zR : bR < (u61.setCell ⟨bX, 15, none⟩ (.int .i64 k2)).heap.size := by have h : (u61.setCell ⟨bX, 15, none⟩ (.int .i64 k2)).heap.size = u61.heap.size := (by simp); omega
  replace fX : ∀ o, (u61.setCell ⟨bX, 15, none⟩ (.int .i64 k2)).frozen? ⟨bX, o, none⟩ = false := fx_setCA fX
  replace zX : bX < (u61.setCell ⟨bX, 15, none⟩ (.int .i64 k2)).heap.size := by have h : (u61.setCell ⟨bX, 15, none⟩ (.int .i64 k2)).heap.size = u61.heap.size := (by simp); omega
  replace KS : Hid (Kp L u1 (u61.setCell ⟨bX, 15, none⟩ (.int .i64 k2))) := Kp.setCell KS.out (by omega)
  replace KC : Hid (Kp L u3 (u61.setCell ⟨bX, 15, none⟩ (.int .i64 k2))) := Kp.setCell KC.out (by omega)
  have hb : Below bX u61 (u61.setCell ⟨bX, 15, none⟩ (.int .i64 k2)) := Below.setCell (p := ⟨bX, 15, none⟩) (Below.refl bX u61) (Nat.le_refl _) _
  replace D : Hid (Dr sb w (u61.setCell ⟨bX, 15, none⟩ (.int .i64 k2))) := D.out.then hb lwX
  replace S : Hid (Src (u61.setCell ⟨bX, 15, none⟩ (.int .i64 k2)) sb (.slice a len cap) (K + 1 + 1 + 1 + 1 + 1 + 1 + 1000 + 100 + 10)) := S.out.below hb lsX
  clear hb
  generalize hWW : (u61.setCell ⟨bX, 15, none⟩ (.int .i64 k2)) = u62 at kR zR fR kX zX fX KS KC D S ⊢
  clear hWW
  go_wp2_with fail
  refine (sNext sb a len cap zs _ 18 _ S.out (HR.out _ D.out) hl (by omega) (by omega)).mono ?_
  rintro e x9 ⟨sel, rfl, pl, ql, st, s1⟩
  have dd : Dr sb u62 x9 := st.dr
  replace S : Hid (Src x9 sb (.slice a len cap) (K + 1 + 1 + 1 + 1 + 1 + 1 + 1000 + 100 + 10 + 1)) := s1
  clear st s1
  replace kR := bx_dr kR dd zR nR
  replace fR := fx_dr fR dd zR nR
  replace zR := Nat.lt_of_lt_of_le zR dd.size
  replace kX := bx_dr kX dd zX nX
  replace fX := fx_dr fX dd zX nX
  replace zX := Nat.lt_of_lt_of_le zX dd.size
  replace KS : Hid (Kp L u1 x9) := Kp.dr KS.out dd lsL
  replace KC : Hid (Kp L u3 x9) := Kp.dr KC.out dd lsL
  replace D : Hid (Dr sb w x9) := D.out.trans dd
  clear dd
  by_cases h0 : sel = 0
  · have h0' : (sel == 0) = true := by simp [h0]
    go_wp2_with fail
    have hp := sPickD sb a len cap zs _ [-1, 3] 2 x9 S.out (HR.out _ D.out) hl (by omega) (by simp) (by simp)
    simp only [List.length_cons, List.length_nil, List.map_cons, List.map_nil, Nat.zero_add, Nat.reduceAdd] at hp
    refine hp.mono ?_
    clear hp
    rintro e xp0 ⟨r, rfl, hm, dd, s1⟩
    have HRR : Hid (-9 ≤ r ∧ r ≤ 9) := by
      show _ ∧ _
      simp only [List.mem_cons, List.not_mem_nil, or_false] at hm
      omega
    clear hm
    replace S : Hid (Src xp0 sb (.slice a len cap) (K + 1 + 1 + 1 + 1 + 1 + 1 + 1000 + 100 + 10 + 1 + 1)) := s1
    clear s1
    replace kR := bx_dr kR dd zR nR
    replace fR := fx_dr fR dd zR nR
    replace zR := Nat.lt_of_lt_of_le zR dd.size
    replace kX := bx_dr kX dd zX nX
    replace fX := fx_dr fX dd zX nX
    replace zX := Nat.lt_of_lt_of_le zX dd.size
    replace KS : Hid (Kp L u1 xp0) := Kp.dr KS.out dd lsL
    replace KC : Hid (Kp L u3 xp0) := Kp.dr KC.out dd lsL
    replace D : Hid (Dr sb w xp0) := D.out.trans dd
    clear dd
    go_upto_region 14 with fail
    replace kX := bx_put kX (k := 0) (v := .int .i64 r) (by simp)
    simp only [List.setIfInBounds_toArray, List.set_cons_zero, List.set_cons_succ] at kX
    replace kR : ∀ o, (xp0.setCell ⟨bX, 0, none⟩ (.int .i64 r)).cell? ⟨bR, o, none⟩ = ((#[.int .i64 0, .int .i64 0, .bool false, .int .i64 0, .int .i64 0, .int .i64 0, .int .i64 0, .int .i64 0, .int .i64 0, .slice none 0 0, .int .i64 0, .int .i64 0, .slice none 0 0, .int .i64 0, .int .i64 0, .int .i64 0] : Array Value))[o]? := bx_setCA kR (by omega)
    replace fR : ∀ o, (xp0.setCell ⟨bX, 0, none⟩ (.int .i64 r)).frozen? ⟨bR, o, none⟩ = false := fx_setCA fR
    replace zR : bR < (xp0.setCell ⟨bX, 0, none⟩ (.int .i64 r)).heap.size := by have h : (xp0.setCell ⟨bX, 0, none⟩ (.int .i64 r)).heap.size = xp0.heap.size := (by simp); omega
    replace fX : ∀ o, (xp0.setCell ⟨bX, 0, none⟩ (.int .i64 r)).frozen? ⟨bX, o, none⟩ = false := fx_setCA fX
    replace zX : bX < (xp0.setCell ⟨bX, 0, none⟩ (.int .i64 r)).heap.size := by have h : (xp0.setCell ⟨bX, 0, none⟩ (.int .i64 r)).heap.size = xp0.heap.size := (by simp); omega
    replace KS : Hid (Kp L u1 (xp0.setCell ⟨bX, 0, none⟩ (.int .i64 r))) := Kp.setCell KS.out (by omega)
    replace KC : Hid (Kp L u3 (xp0.setCell ⟨bX, 0, none⟩ (.int .i64 r))) := Kp.setCell KC.out (by omega)
    have hb : Below bX xp0 (xp0.setCell ⟨bX, 0, none⟩ (.int .i64 r)) := Below.setCell (p := ⟨bX, 0, none⟩) (Below.refl bX xp0) (Nat.le_refl _) _
    replace D : Hid (Dr sb w (xp0.setCell ⟨bX, 0, none⟩ (.int .i64 r))) := D.out.then hb lwX
    replace S : Hid (Src (xp0.setCell ⟨bX, 0, none⟩ (.int .i64 r)) sb (.slice a len cap) (K + 1 + 1 + 1 + 1 + 1 + 1 + 1000 + 100 + 10 + 1 + 1)) := S.out.below hb lsX
    clear hb
    generalize hWW : (xp0.setCell ⟨bX, 0, none⟩ (.int .i64 r)) = xq0 at kR zR fR kX zX fX KS KC D S ⊢
    clear hWW
    obtain ⟨N, hN⟩ : ∃ N : Array Value, N = #[.int .i64 r, .int .i64 3, .bool y2, .int .i64 y3, .int .i64 0, .int .i64 y5, .int .i64 t0, .int .i64 t1, .int .i64 t2, .slice ua fn uc, .int .i64 c0, .int .i64 c1, .slice va sn vc, .int .i64 k0, .int .i64 k1, .int .i64 k2] := ⟨_, rfl⟩
    have HN : Hid _ := hN
    have hNz : N.size = 16 := by rw [hN]; rfl
    have HRG : Hid (xq0.rangeAt bX 0 N.toList) := by show World.rangeAt _ _ _ _; rw [hN]; exact bx_range kX
    have HTH : Hid (xq0.there bR 0 N.size) := bx_there kR fR (by rw [hNz]; rfl)
    have HNI : Hid ((Try.prog.info? 64).map (·.size) = some N.size) := by show _ = _; rw [hNz]; exact (by kernel_rfl : (Try.prog.info? 64).map (·.size) = some 16)
    have HNL : Hid ((Try.prog.info? 64).map (·.size) = some N.toList.length) := by show _ = _; rw [Array.length_toList]; exact HNI.out
    have HONE : Hid (N.all (·.oneCell') = true) := by show _ = _; rw [hN]; simp [Value.oneCell']
    have HJ : Hid (∀ o, (xq0.setCells bR 0 N.toList).cell? ⟨bR, o, none⟩ = N[o]?) := bx_setCells kR (by rw [hNz]; rfl)
    have hbz : Below bR xq0 (xq0.setCells bR 0 N.toList) := setCells_below (Nat.le_refl _) _ _ _ _ (Below.refl _ _)
    have HDZ : Hid (Dr sb w (xq0.setCells bR 0 N.toList)) := D.out.then hbz lwR
    have HSZ : Hid (Src (xq0.setCells bR 0 N.toList) sb (.slice a len cap) (K + 2000)) := (S.out.below hbz lsR).mono (by omega)
    have HXK : Hid (SubK sb L (xq0.setCells bR 0 N.toList) (r, 3, y2, y3, 0, y5, (t0, t1, t2, fl, ()), (c0, c1, sp, ()), (k0, k1, k2, ()), ()) N) := by
      rw [hN]
      exact SubK.mk' (Kp.setCells KS.out lRL) (Kp.setCells KC.out lRL) SD.out CD.out HTS.out HTC.out lsL ⟨⟨WalkArith.wf_i64 (by have h := HRR.out; show -9223372036854775808 ≤ r ∧ r ≤ 9223372036854775807; omega), WalkArith.wf_i64 (by have h := HY3'.out; show -9223372036854775808 ≤ 3 ∧ 3 ≤ 9223372036854775807; omega), WalkArith.wf_i64 (by have h := HY3.out; show -9223372036854775808 ≤ y3 ∧ y3 ≤ 9223372036854775807; omega), WalkArith.wf_i64 (by show -9223372036854775808 ≤ (0 : Int) ∧ (0 : Int) ≤ 9223372036854775807; omega), WalkArith.wf_i64 (by have h := HY5.out; show -9223372036854775808 ≤ y5 ∧ y5 ≤ 9223372036854775807; omega)⟩, WalkArith.wf_i64 (by have h := HKB.out; show -9223372036854775808 ≤ k0 ∧ k0 ≤ 9223372036854775807; omega), WalkArith.wf_i64 (by have h := HKB.out; show -9223372036854775808 ≤ k1 ∧ k1 ≤ 9223372036854775807; omega), WalkArith.wf_i64 (by have h := HKB.out; show -9223372036854775808 ≤ k2 ∧ k2 ≤ 9223372036854775807; omega)⟩
    clear hN hNz hbz kX kR fR S D
    go_wp2_with (first | (refine wpList_load_mid rfl 64 _ rfl _ _ (by rfl) N.toList _ HRG.out Try.underlying64 rfl HNL.out ?_) | (refine wpList_store_mid rfl 64 _ _ rfl _ _ N (by rfl) (by rfl) HTH.out HNI.out HONE.out ?_))
    exact bodyPost_ret (results_box Try.results75 _ _ _ N _ (by rfl) HJ.out Try.underlying64 rfl HNI.out) rfl ⟨_, N, L, rfl, HXK.out, HDZ.out, HSZ.out⟩
  have h0' : (sel == 0) = false := by simp [h0]
  by_cases h1 : sel = 1
  · have h1' : (sel == 1) = true := by simp [h1]
    go_wp2_with fail
    have hp := sPickD sb a len cap zs _ [0, 5, 4, 1, 2] 2 x9 S.out (HR.out _ D.out) hl (by omega) (by simp) (by simp)
    simp only [List.length_cons, List.length_nil, List.map_cons, List.map_nil, Nat.zero_add, Nat.reduceAdd] at hp
    refine hp.mono ?_
    clear hp
    rintro e xp1 ⟨r, rfl, hm, dd, s1⟩
    have HRR : Hid (-9 ≤ r ∧ r ≤ 9) := by
      show _ ∧ _
      simp only [List.mem_cons, List.not_mem_nil, or_false] at hm
      omega
    clear hm
    replace S : Hid (Src xp1 sb (.slice a len cap) (K + 1 + 1 + 1 + 1 + 1 + 1 + 1000 + 100 + 10 + 1 + 1)) := s1
    clear s1
    replace kR := bx_dr kR dd zR nR
    replace fR := fx_dr fR dd zR nR
    replace zR := Nat.lt_of_lt_of_le zR dd.size
    replace kX := bx_dr kX dd zX nX
    replace fX := fx_dr fX dd zX nX
    replace zX := Nat.lt_of_lt_of_le zX dd.size
    replace KS : Hid (Kp L u1 xp1) := Kp.dr KS.out dd lsL
    replace KC : Hid (Kp L u3 xp1) := Kp.dr KC.out dd lsL
    replace D : Hid (Dr sb w xp1) := D.out.trans dd
    clear dd
    go_upto_region 14 with fail
    replace kX := bx_put kX (k := 1) (v := .int .i64 r) (by simp)
    simp only [List.setIfInBounds_toArray, List.set_cons_zero, List.set_cons_succ] at kX
    replace kR : ∀ o, (xp1.setCell ⟨bX, 1, none⟩ (.int .i64 r)).cell? ⟨bR, o, none⟩ = ((#[.int .i64 0, .int .i64 0, .bool false, .int .i64 0, .int .i64 0, .int .i64 0, .int .i64 0, .int .i64 0, .int .i64 0, .slice none 0 0, .int .i64 0, .int .i64 0, .slice none 0 0, .int .i64 0, .int .i64 0, .int .i64 0] : Array Value))[o]? := bx_setCA kR (by omega)
    replace fR : ∀ o, (xp1.setCell ⟨bX, 1, none⟩ (.int .i64 r)).frozen? ⟨bR, o, none⟩ = false := fx_setCA fR
    replace zR : bR < (xp1.setCell ⟨bX, 1, none⟩ (.int .i64 r)).heap.size := by have h : (xp1.setCell ⟨bX, 1, none⟩ (.int .i64 r)).heap.size = xp1.heap.size := (by simp); omega
    replace fX : ∀ o, (xp1.setCell ⟨bX, 1, none⟩ (.int .i64 r)).frozen? ⟨bX, o, none⟩ = false := fx_setCA fX
    replace zX : bX < (xp1.setCell ⟨bX, 1, none⟩ (.int .i64 r)).heap.size := by have h : (xp1.setCell ⟨bX, 1, none⟩ (.int .i64 r)).heap.size = xp1.heap.size := (by simp); omega
    replace KS : Hid (Kp L u1 (xp1.setCell ⟨bX, 1, none⟩ (.int .i64 r))) := Kp.setCell KS.out (by omega)
    replace KC : Hid (Kp L u3 (xp1.setCell ⟨bX, 1, none⟩ (.int .i64 r))) := Kp.setCell KC.out (by omega)
    have hb : Below bX xp1 (xp1.setCell ⟨bX, 1, none⟩ (.int .i64 r)) := Below.setCell (p := ⟨bX, 1, none⟩) (Below.refl bX xp1) (Nat.le_refl _) _
    replace D : Hid (Dr sb w (xp1.setCell ⟨bX, 1, none⟩ (.int .i64 r))) := D.out.then hb lwX
    replace S : Hid (Src (xp1.setCell ⟨bX, 1, none⟩ (.int .i64 r)) sb (.slice a len cap) (K + 1 + 1 + 1 + 1 + 1 + 1 + 1000 + 100 + 10 + 1 + 1)) := S.out.below hb lsX
    clear hb
    generalize hWW : (xp1.setCell ⟨bX, 1, none⟩ (.int .i64 r)) = xq1 at kR zR fR kX zX fX KS KC D S ⊢
    clear hWW
    obtain ⟨N, hN⟩ : ∃ N : Array Value, N = #[.int .i64 y0, .int .i64 r, .bool y2, .int .i64 y3, .int .i64 0, .int .i64 y5, .int .i64 t0, .int .i64 t1, .int .i64 t2, .slice ua fn uc, .int .i64 c0, .int .i64 c1, .slice va sn vc, .int .i64 k0, .int .i64 k1, .int .i64 k2] := ⟨_, rfl⟩
    have HN : Hid _ := hN
    have hNz : N.size = 16 := by rw [hN]; rfl
    have HRG : Hid (xq1.rangeAt bX 0 N.toList) := by show World.rangeAt _ _ _ _; rw [hN]; exact bx_range kX
    have HTH : Hid (xq1.there bR 0 N.size) := bx_there kR fR (by rw [hNz]; rfl)
    have HNI : Hid ((Try.prog.info? 64).map (·.size) = some N.size) := by show _ = _; rw [hNz]; exact (by kernel_rfl : (Try.prog.info? 64).map (·.size) = some 16)
    have HNL : Hid ((Try.prog.info? 64).map (·.size) = some N.toList.length) := by show _ = _; rw [Array.length_toList]; exact HNI.out
    have HONE : Hid (N.all (·.oneCell') = true) := by show _ = _; rw [hN]; simp [Value.oneCell']
    have HJ : Hid (∀ o, (xq1.setCells bR 0 N.toList).cell? ⟨bR, o, none⟩ = N[o]?) := bx_setCells kR (by rw [hNz]; rfl)
    have hbz : Below bR xq1 (xq1.setCells bR 0 N.toList) := setCells_below (Nat.le_refl _) _ _ _ _ (Below.refl _ _)
    have HDZ : Hid (Dr sb w (xq1.setCells bR 0 N.toList)) := D.out.then hbz lwR
    have HSZ : Hid (Src (xq1.setCells bR 0 N.toList) sb (.slice a len cap) (K + 2000)) := (S.out.below hbz lsR).mono (by omega)
    have HXK : Hid (SubK sb L (xq1.setCells bR 0 N.toList) (y0, r, y2, y3, 0, y5, (t0, t1, t2, fl, ()), (c0, c1, sp, ()), (k0, k1, k2, ()), ()) N) := by
      rw [hN]
      exact SubK.mk' (Kp.setCells KS.out lRL) (Kp.setCells KC.out lRL) SD.out CD.out HTS.out HTC.out lsL ⟨⟨WalkArith.wf_i64 (by have h := HY0.out; show -9223372036854775808 ≤ y0 ∧ y0 ≤ 9223372036854775807; omega), WalkArith.wf_i64 (by have h := HRR.out; show -9223372036854775808 ≤ r ∧ r ≤ 9223372036854775807; omega), WalkArith.wf_i64 (by have h := HY3.out; show -9223372036854775808 ≤ y3 ∧ y3 ≤ 9223372036854775807; omega), WalkArith.wf_i64 (by show -9223372036854775808 ≤ (0 : Int) ∧ (0 : Int) ≤ 9223372036854775807; omega), WalkArith.wf_i64 (by have h := HY5.out; show -9223372036854775808 ≤ y5 ∧ y5 ≤ 9223372036854775807; omega)⟩, WalkArith.wf_i64 (by have h := HKB.out; show -9223372036854775808 ≤ k0 ∧ k0 ≤ 9223372036854775807; omega), WalkArith.wf_i64 (by have h := HKB.out; show -9223372036854775808 ≤ k1 ∧ k1 ≤ 9223372036854775807; omega), WalkArith.wf_i64 (by have h := HKB.out; show -9223372036854775808 ≤ k2 ∧ k2 ≤ 9223372036854775807; omega)⟩
    clear hN hNz hbz kX kR fR S D
    go_wp2_with (first | (refine wpList_load_mid rfl 64 _ rfl _ _ (by rfl) N.toList _ HRG.out Try.underlying64 rfl HNL.out ?_) | (refine wpList_store_mid rfl 64 _ _ rfl _ _ N (by rfl) (by rfl) HTH.out HNI.out HONE.out ?_))
    exact bodyPost_ret (results_box Try.results75 _ _ _ N _ (by rfl) HJ.out Try.underlying64 rfl HNI.out) rfl ⟨_, N, L, rfl, HXK.out, HDZ.out, HSZ.out⟩
  have h1' : (sel == 1) = false := by simp [h1]
  by_cases h2 : sel = 2
  · have h2' : (sel == 2) = true := by simp [h2]
    go_wp2_with fail
    have hp := sPickD sb a len cap zs _ [-1, 1000001] 2 x9 S.out (HR.out _ D.out) hl (by omega) (by simp) (by simp)
    simp only [List.length_cons, List.length_nil, List.map_cons, List.map_nil, Nat.zero_add, Nat.reduceAdd] at hp
    refine hp.mono ?_
    clear hp
    rintro e xp2 ⟨r, rfl, hm, dd, s1⟩
    have HRR : Hid (-9 ≤ r ∧ r ≤ 2000000) := by
      show _ ∧ _
      simp only [List.mem_cons, List.not_mem_nil, or_false] at hm
      omega
    clear hm
    replace S : Hid (Src xp2 sb (.slice a len cap) (K + 1 + 1 + 1 + 1 + 1 + 1 + 1000 + 100 + 10 + 1 + 1)) := s1
    clear s1
    replace kR := bx_dr kR dd zR nR
    replace fR := fx_dr fR dd zR nR
    replace zR := Nat.lt_of_lt_of_le zR dd.size
    replace kX := bx_dr kX dd zX nX
    replace fX := fx_dr fX dd zX nX
    replace zX := Nat.lt_of_lt_of_le zX dd.size
    replace KS : Hid (Kp L u1 xp2) := Kp.dr KS.out dd lsL
    replace KC : Hid (Kp L u3 xp2) := Kp.dr KC.out dd lsL
    replace D : Hid (Dr sb w xp2) := D.out.trans dd
    clear dd
    go_upto_region 14 with fail
    replace kX := bx_put kX (k := 3) (v := .int .i64 r) (by simp)
    simp only [List.setIfInBounds_toArray, List.set_cons_zero, List.set_cons_succ] at kX
    replace kR : ∀ o, (xp2.setCell ⟨bX, 3, none⟩ (.int .i64 r)).cell? ⟨bR, o, none⟩ = ((#[.int .i64 0, .int .i64 0, .bool false, .int .i64 0, .int .i64 0, .int .i64 0, .int .i64 0, .int .i64 0, .int .i64 0, .slice none 0 0, .int .i64 0, .int .i64 0, .slice none 0 0, .int .i64 0, .int .i64 0, .int .i64 0] : Array Value))[o]? := bx_setCA kR (by omega)
    replace fR : ∀ o, (xp2.setCell ⟨bX, 3, none⟩ (.int .i64 r)).frozen? ⟨bR, o, none⟩ = false := fx_setCA fR
    replace zR : bR < (xp2.setCell ⟨bX, 3, none⟩ (.int .i64 r)).heap.size := by have h : (xp2.setCell ⟨bX, 3, none⟩ (.int .i64 r)).heap.size = xp2.heap.size := (by simp); omega
    replace fX : ∀ o, (xp2.setCell ⟨bX, 3, none⟩ (.int .i64 r)).frozen? ⟨bX, o, none⟩ = false := fx_setCA fX
    replace zX : bX < (xp2.setCell ⟨bX, 3, none⟩ (.int .i64 r)).heap.size := by have h : (xp2.setCell ⟨bX, 3, none⟩ (.int .i64 r)).heap.size = xp2.heap.size := (by simp); omega
    replace KS : Hid (Kp L u1 (xp2.setCell ⟨bX, 3, none⟩ (.int .i64 r))) := Kp.setCell KS.out (by omega)
    replace KC : Hid (Kp L u3 (xp2.setCell ⟨bX, 3, none⟩ (.int .i64 r))) := Kp.setCell KC.out (by omega)
    have hb : Below bX xp2 (xp2.setCell ⟨bX, 3, none⟩ (.int .i64 r)) := Below.setCell (p := ⟨bX, 3, none⟩) (Below.refl bX xp2) (Nat.le_refl _) _
    replace D : Hid (Dr sb w (xp2.setCell ⟨bX, 3, none⟩ (.int .i64 r))) := D.out.then hb lwX
    replace S : Hid (Src (xp2.setCell ⟨bX, 3, none⟩ (.int .i64 r)) sb (.slice a len cap) (K + 1 + 1 + 1 + 1 + 1 + 1 + 1000 + 100 + 10 + 1 + 1)) := S.out.below hb lsX
    clear hb
    generalize hWW : (xp2.setCell ⟨bX, 3, none⟩ (.int .i64 r)) = xq2 at kR zR fR kX zX fX KS KC D S ⊢
    clear hWW
    obtain ⟨N, hN⟩ : ∃ N : Array Value, N = #[.int .i64 y0, .int .i64 3, .bool y2, .int .i64 r, .int .i64 0, .int .i64 y5, .int .i64 t0, .int .i64 t1, .int .i64 t2, .slice ua fn uc, .int .i64 c0, .int .i64 c1, .slice va sn vc, .int .i64 k0, .int .i64 k1, .int .i64 k2] := ⟨_, rfl⟩
    have HN : Hid _ := hN
    have hNz : N.size = 16 := by rw [hN]; rfl
    have HRG : Hid (xq2.rangeAt bX 0 N.toList) := by show World.rangeAt _ _ _ _; rw [hN]; exact bx_range kX
    have HTH : Hid (xq2.there bR 0 N.size) := bx_there kR fR (by rw [hNz]; rfl)
    have HNI : Hid ((Try.prog.info? 64).map (·.size) = some N.size) := by show _ = _; rw [hNz]; exact (by kernel_rfl : (Try.prog.info? 64).map (·.size) = some 16)
    have HNL : Hid ((Try.prog.info? 64).map (·.size) = some N.toList.length) := by show _ = _; rw [Array.length_toList]; exact HNI.out
    have HONE : Hid (N.all (·.oneCell') = true) := by show _ = _; rw [hN]; simp [Value.oneCell']
    have HJ : Hid (∀ o, (xq2.setCells bR 0 N.toList).cell? ⟨bR, o, none⟩ = N[o]?) := bx_setCells kR (by rw [hNz]; rfl)
    have hbz : Below bR xq2 (xq2.setCells bR 0 N.toList) := setCells_below (Nat.le_refl _) _ _ _ _ (Below.refl _ _)
    have HDZ : Hid (Dr sb w (xq2.setCells bR 0 N.toList)) := D.out.then hbz lwR
    have HSZ : Hid (Src (xq2.setCells bR 0 N.toList) sb (.slice a len cap) (K + 2000)) := (S.out.below hbz lsR).mono (by omega)
    have HXK : Hid (SubK sb L (xq2.setCells bR 0 N.toList) (y0, 3, y2, r, 0, y5, (t0, t1, t2, fl, ()), (c0, c1, sp, ()), (k0, k1, k2, ()), ()) N) := by
      rw [hN]
      exact SubK.mk' (Kp.setCells KS.out lRL) (Kp.setCells KC.out lRL) SD.out CD.out HTS.out HTC.out lsL ⟨⟨WalkArith.wf_i64 (by have h := HY0.out; show -9223372036854775808 ≤ y0 ∧ y0 ≤ 9223372036854775807; omega), WalkArith.wf_i64 (by have h := HY3'.out; show -9223372036854775808 ≤ 3 ∧ 3 ≤ 9223372036854775807; omega), WalkArith.wf_i64 (by have h := HRR.out; show -9223372036854775808 ≤ r ∧ r ≤ 9223372036854775807; omega), WalkArith.wf_i64 (by show -9223372036854775808 ≤ (0 : Int) ∧ (0 : Int) ≤ 9223372036854775807; omega), WalkArith.wf_i64 (by have h := HY5.out; show -9223372036854775808 ≤ y5 ∧ y5 ≤ 9223372036854775807; omega)⟩, WalkArith.wf_i64 (by have h := HKB.out; show -9223372036854775808 ≤ k0 ∧ k0 ≤ 9223372036854775807; omega), WalkArith.wf_i64 (by have h := HKB.out; show -9223372036854775808 ≤ k1 ∧ k1 ≤ 9223372036854775807; omega), WalkArith.wf_i64 (by have h := HKB.out; show -9223372036854775808 ≤ k2 ∧ k2 ≤ 9223372036854775807; omega)⟩
    clear hN hNz hbz kX kR fR S D
    go_wp2_with (first | (refine wpList_load_mid rfl 64 _ rfl _ _ (by rfl) N.toList _ HRG.out Try.underlying64 rfl HNL.out ?_) | (refine wpList_store_mid rfl 64 _ _ rfl _ _ N (by rfl) (by rfl) HTH.out HNI.out HONE.out ?_))
    exact bodyPost_ret (results_box Try.results75 _ _ _ N _ (by rfl) HJ.out Try.underlying64 rfl HNI.out) rfl ⟨_, N, L, rfl, HXK.out, HDZ.out, HSZ.out⟩
  have h2' : (sel == 2) = false := by simp [h2]
  go_upto_region 14 with fail
  obtain ⟨N, hN⟩ : ∃ N : Array Value, N = #[.int .i64 y0, .int .i64 3, .bool y2, .int .i64 y3, .int .i64 0, .int .i64 y5, .int .i64 t0, .int .i64 t1, .int .i64 t2, .slice ua fn uc, .int .i64 c0, .int .i64 c1, .slice va sn vc, .int .i64 k0, .int .i64 k1, .int .i64 k2] := ⟨_, rfl⟩
  have HN : Hid _ := hN
  have hNz : N.size = 16 := by rw [hN]; rfl
  have HRG : Hid (x9.rangeAt bX 0 N.toList) := by show World.rangeAt _ _ _ _; rw [hN]; exact bx_range kX
  have HTH : Hid (x9.there bR 0 N.size) := bx_there kR fR (by rw [hNz]; rfl)
  have HNI : Hid ((Try.prog.info? 64).map (·.size) = some N.size) := by show _ = _; rw [hNz]; exact (by kernel_rfl : (Try.prog.info? 64).map (·.size) = some 16)
  have HNL : Hid ((Try.prog.info? 64).map (·.size) = some N.toList.length) := by show _ = _; rw [Array.length_toList]; exact HNI.out
  have HONE : Hid (N.all (·.oneCell') = true) := by show _ = _; rw [hN]; simp [Value.oneCell']
  have HJ : Hid (∀ o, (x9.setCells bR 0 N.toList).cell? ⟨bR, o, none⟩ = N[o]?) := bx_setCells kR (by rw [hNz]; rfl)
  have hbz : Below bR x9 (x9.setCells bR 0 N.toList) := setCells_below (Nat.le_refl _) _ _ _ _ (Below.refl _ _)
  have HDZ : Hid (Dr sb w (x9.setCells bR 0 N.toList)) := D.out.then hbz lwR
  have HSZ : Hid (Src (x9.setCells bR 0 N.toList) sb (.slice a len cap) (K + 2000)) := (S.out.below hbz lsR).mono (by omega)
  have HXK : Hid (SubK sb L (x9.setCells bR 0 N.toList) (y0, 3, y2, y3, 0, y5, (t0, t1, t2, fl, ()), (c0, c1, sp, ()), (k0, k1, k2, ()), ()) N) := by
    rw [hN]
    exact SubK.mk' (Kp.setCells KS.out lRL) (Kp.setCells KC.out lRL) SD.out CD.out HTS.out HTC.out lsL ⟨⟨WalkArith.wf_i64 (by have h := HY0.out; show -9223372036854775808 ≤ y0 ∧ y0 ≤ 9223372036854775807; omega), WalkArith.wf_i64 (by have h := HY3'.out; show -9223372036854775808 ≤ 3 ∧ 3 ≤ 9223372036854775807; omega), WalkArith.wf_i64 (by have h := HY3.out; show -9223372036854775808 ≤ y3 ∧ y3 ≤ 9223372036854775807; omega), WalkArith.wf_i64 (by show -9223372036854775808 ≤ (0 : Int) ∧ (0 : Int) ≤ 9223372036854775807; omega), WalkArith.wf_i64 (by have h := HY5.out; show -9223372036854775808 ≤ y5 ∧ y5 ≤ 9223372036854775807; omega)⟩, WalkArith.wf_i64 (by have h := HKB.out; show -9223372036854775808 ≤ k0 ∧ k0 ≤ 9223372036854775807; omega), WalkArith.wf_i64 (by have h := HKB.out; show -9223372036854775808 ≤ k1 ∧ k1 ≤ 9223372036854775807; omega), WalkArith.wf_i64 (by have h := HKB.out; show -9223372036854775808 ≤ k2 ∧ k2 ≤ 9223372036854775807; omega)⟩
  clear hN hNz hbz kX kR fR S D
  go_wp2_with (first | (refine wpList_load_mid rfl 64 _ rfl _ _ (by rfl) N.toList _ HRG.out Try.underlying64 rfl HNL.out ?_) | (refine wpList_store_mid rfl 64 _ _ rfl _ _ N (by rfl) (by rfl) HTH.out HNI.out HONE.out ?_))
  exact bodyPost_ret (results_box Try.results75 _ _ _ N _ (by rfl) HJ.out Try.underlying64 rfl HNI.out) rfl ⟨_, N, L, rfl, HXK.out, HDZ.out, HSZ.out⟩
end Go.Proofs.Ytebgibjokljlbaa
