/- What the draw for AckSub gives: a sub that can be read, a number, some numbers; nothing that was in memory turns; no condition. Written by mkdras.py. -/
import Derived.Test.YtebgibjokljlbaaRows
import Derived.Deep.RegionHeld3
import Derived.Deep.DeepCutAuto
import Derived.Deep.CutRange
import Derived.Deep.DeepMust
import Derived.Deep.MidRow
import Derived.Test.YtebgibjokljlbaaS01
import Derived.Test.YtebgibjokljlbaaS02
import Derived.Test.YtebgibjokljlbaaS03
import Derived.Test.YtebgibjokljlbaaS04
import Derived.Test.YtebgibjokljlbaaS05
import Derived.Test.YtebgibjokljlbaaS09
import Derived.Test.YtebgibjokljlbaaS10
import Derived.Test.YtebgibjokljlbaaS11
import Derived.Test.YtebgibjokljlbaaS16
import Derived.Test.YtebgibjokljlbaaS19
import Derived.Test.YtebgibjokljlbaaS21
import Derived.Test.YtebgibjokljlbaaS36
import Derived.Test.YtebgibjokljlbaaS41
namespace Go.Proofs.Ytebgibjokljlbaa
open Go.RowKit
set_option linter.unusedVariables false
set_option linter.unusedSimpArgs false
set_option maxRecDepth 8000
theorem das_res {tmps : Array Value} {w : World} {b : Nat} {v3 v4 : Value} {y0 y1 : Int} {y2 : Bool} {y3 y4 y5 s0 s1 s2 c0 c1 k0 k1 k2 : Int} {ua : Option Addr} {fn uc : Nat} {va : Option Addr} {sn vc : Nat} (h2 : tmps[2]? = some (.pointer (some ⟨b, 0, none⟩))) (h3 : tmps[3]? = some v3) (h4 : tmps[4]? = some v4) (hj : ∀ o, w.cell? ⟨b, o, none⟩ = (#[.int .i64 y0, .int .i64 y1, .bool y2, .int .i64 y3, .int .i64 y4, .int .i64 y5, .int .i64 s0, .int .i64 s1, .int .i64 s2, .slice ua fn uc, .int .i64 c0, .int .i64 c1, .slice va sn vc, .int .i64 k0, .int .i64 k1, .int .i64 k2] : Array Value)[o]?) :
    (results Try.f28 tmps).run Try.prog w = .ok (.tuple #[.agg #[.int .i64 y0, .int .i64 y1, .bool y2, .int .i64 y3, .int .i64 y4, .int .i64 y5, .int .i64 s0, .int .i64 s1, .int .i64 s2, .slice ua fn uc, .int .i64 c0, .int .i64 c1, .slice va sn vc, .int .i64 k0, .int .i64 k1, .int .i64 k2], v3, v4]) w := by
  simp [results, Try.results28, h2, h3, h4, go_sem, hj]
def SubR (w : World) (A : Array Value) : Prop := ∃ x : DSub, shSub.Rd w w.heap.size x A.toList ∧ totSub x ≤ 1048576
set_option maxHeartbeats 16000000 in
theorem dAckSub (a : Option Addr) (len cap : Nat) (zs : List Int) (w : World) (hr : BRow .u8 w a len cap zs) (hl : RowLt w.heap.size a zs) :
    Calls Try.prog 28 #[.slice a len cap] w fun e w' => ∃ (A : Array Value) (ack : Int) (l : List Int) (la : Option Addr) (lc : Nat), e = .returned (.tuple #[.agg A, .int .i64 ack, .slice la l.length lc]) ∧ SubR w' A ∧ RI w' la l ∧ l.length ≤ 4 ∧ Below w.heap.size w w' := by
  go_enter Try.func28, Try.ntmps28
  go_wp2_with fail
  obtain ⟨W0, hW0⟩ : ∃ W0, w.alloc (.cells #[.int .i64 0, .int .i64 0, .bool false, .int .i64 0, .int .i64 0, .int .i64 0, .int .i64 0, .int .i64 0, .int .i64 0, .slice none 0 0, .int .i64 0, .int .i64 0, .slice none 0 0, .int .i64 0, .int .i64 0, .int .i64 0] 64) = W0 := ⟨_, rfl⟩
  have b0 : Below w.heap.size w W0 := by rw [← hW0]; exact (Below.refl _ _).alloc (Nat.le_refl _) _
  have kR : ∀ o, W0.cell? ⟨w.heap.size, o, none⟩ = (#[.int .i64 0, .int .i64 0, .bool false, .int .i64 0, .int .i64 0, .int .i64 0, .int .i64 0, .int .i64 0, .int .i64 0, .slice none 0 0, .int .i64 0, .int .i64 0, .slice none 0 0, .int .i64 0, .int .i64 0, .int .i64 0] : Array Value)[o]? := by rw [← hW0]; exact bx_al _ _ _
  have fR : ∀ o, W0.frozen? ⟨w.heap.size, o, none⟩ = false := by rw [← hW0]; exact fx_al _ _ _
  have z0 : W0.heap.size = w.heap.size + 1 := by rw [← hW0]; simp
  simp only [hW0]
  clear hW0
  have r0 := hr.below hl b0
  clear hr hl
  refine (sSource _ _ _ _).mono ?_
  rintro e W1 ⟨rfl, hW1⟩
  obtain ⟨s1, r1, b1⟩ := draw_start 138 r0 r0.lt
  rw [← hW1] at s1 r1 b1
  clear hW1
  obtain ⟨sb, hsb⟩ : ∃ q, q = W0.heap.size := ⟨_, rfl⟩
  obtain ⟨bR, hbR⟩ : ∃ q, q = w.heap.size := ⟨_, rfl⟩
  replace kR := fun o => (b1.cell (p := ⟨w.heap.size, o, none⟩) (by dsimp only; omega)).trans (kR o)
  replace fR := fun o => (b1.frozen (p := ⟨w.heap.size, o, none⟩) (by dsimp only; omega)).trans (fR o)
  have B1 : Hid (Below w.heap.size w W1) := b0.trans (b1.mono (by omega))
  have hl1 := r0.lt
  rw [← hsb] at hl1 s1 ⊢
  rw [← hbR] at kR fR ⊢
  have zs1 := s1.lt
  have HR : Hid (∀ W, Dr sb W1 W → BRow .u8 W a len cap zs) := fun W h => r1.below hl1 (h.below (Nat.le_of_lt zs1))
  have S : Hid (Src W1 sb (.slice a len cap) (0)) := s1
  have zR : bR < W1.heap.size := by omega
  have nR : bR ≠ sb := by omega
  have lRs : bR < sb := by omega
  have lwR : w.heap.size ≤ bR := Nat.le_of_eq hbR.symm
  have hW1 : w.heap.size ≤ W1.heap.size := by omega
  have D : Hid (Dr sb W1 W1) := Dr.refl _ _
  clear b0 b1 r0 r1 hsb hbR z0 s1
  go_wp2_with fail
  refine (sSub8 sb a len cap zs _ _ S.out (HR.out _ D.out) hl1 (by omega) (by omega)).mono ?_
  rintro e w2 ⟨x, A, L, rfl, hk, st, s1⟩
  have dd : Dr sb W1 w2 := st
  replace S : Hid (Src w2 sb (.slice a len cap) (0 + 2000)) := s1
  clear st s1
  replace kR := bx_dr kR dd zR nR
  replace fR := fx_dr fR dd zR nR
  replace zR := Nat.lt_of_lt_of_le zR dd.size
  replace D : Hid (Dr sb W1 w2) := D.out.trans dd
  clear dd
  obtain ⟨lsL, hT, hkk⟩ := hk
  obtain ⟨hrd, u0, hu0, hfo⟩ := hkk w2 (Kp.refl _ _)
  obtain ⟨y0, y1, y2, y3, y4, y5, s0, s1, s2, fl, c0, c1, sp, k0, k1, k2, ua, uc, va, vc, rfl, e, -, -, -⟩ := sub_lit hrd
  have eA := arr_of e
  subst eA
  obtain rfl : .slice ua fl.length uc = u0 := Option.some.inj hu0
  clear e hu0 hrd
  replace hfo : Own w2 L w2.heap.size shFlights fl [.slice ua fl.length uc] := hfo
  have HK : Hid (∀ W', Kp L w2 W' → shSub.Rd W' W'.heap.size (y0, y1, y2, y3, y4, y5, (s0, s1, s2, fl, ()), (c0, c1, sp, ()), (k0, k1, k2, ()), ()) [.int .i64 y0, .int .i64 y1, .bool y2, .int .i64 y3, .int .i64 y4, .int .i64 y5, .int .i64 s0, .int .i64 s1, .int .i64 s2, .slice ua fl.length uc, .int .i64 c0, .int .i64 c1, .slice va sp.length vc, .int .i64 k0, .int .i64 k1, .int .i64 k2]) := fun W' h => (hkk W' h).1
  have HT : Hid (totSub (y0, y1, y2, y3, y4, y5, (s0, s1, s2, fl, ()), (c0, c1, sp, ()), (k0, k1, k2, ()), ()) ≤ 1048576) := hT
  have HFC : Hid (∀ j (hj : j < fl.length), ∃ fb fo, ua = some ⟨fb, fo, none⟩ ∧ ∃ (f0 f1 : Int) (fa : Option Addr) (gn gc : Nat) (f3 f4 : Int), ∀ W, Dr sb w2 W → W.rangeAt fb (fo + j * 5) [.int .i64 f0, .int .i64 f1, .slice fa gn gc, .int .i64 f3, .int .i64 f4]) := fun j hj => by
    obtain ⟨b, off, cs, q1, q2, q3, hrg, r3⟩ := row_at (hfo.rd (Nat.le_refl _)) j hj
    obtain ⟨vv, ev, rk2, -⟩ := rd_Flight r3
    obtain ⟨xa, xc, ev2⟩ := row_form rk2
    simp only [List.cons.injEq, and_true] at ev2
    subst ev2 ev
    have hbo := hfo.blk (b := b) (by rw [q1]; rfl)
    have hne : b ≠ sb := by omega
    exact ⟨b, off, q1, _, _, _, _, _, _, _, fun W hW i v hv => (hW.cell (p := ⟨b, _, none⟩) hbo.2 hne).trans (hrg i v hv)⟩
  have hvmx : fl.length ≤ 1048576 := by have h1 : totSender (s0, s1, s2, fl, ()) + totCatch (c0, c1, sp, ()) ≤ 1048576 := hT; have h2 : fl.length ≤ totSender (s0, s1, s2, fl, ()) := Nat.le_add_right _ _; omega
  have KS : Hid (Kp L w2 w2) := Kp.refl _ _
  clear hT hkk hfo
  generalize fl.length = fn at *
  generalize sp.length = sn at *
  obtain ⟨M, hM⟩ : ∃ M : Array Value, M = #[.int .i64 y0, .int .i64 y1, .bool y2, .int .i64 y3, .int .i64 y4, .int .i64 y5, .int .i64 s0, .int .i64 s1, .int .i64 s2, .slice ua fn uc, .int .i64 c0, .int .i64 c1, .slice va sn vc, .int .i64 k0, .int .i64 k1, .int .i64 k2] := ⟨_, rfl⟩
  have HM : Hid _ := hM
  have HMZ : Hid (M.size = 16) := by show _ = _; rw [hM]; rfl
  have HMI : Hid ((Try.prog.info? 64).map (·.size) = some M.size) := by show _ = _; rw [HMZ.out]; exact (by kernel_rfl : (Try.prog.info? 64).map (·.size) = some 16)
  have HMO : Hid (M.all (·.oneCell') = true) := by show _ = _; rw [hM]; simp [Value.oneCell']
  clear hM
  have HTH : Hid ((w2.alloc (.cells #[.int .i64 0, .int .i64 0, .bool false, .int .i64 0, .int .i64 0, .int .i64 0, .int .i64 0, .int .i64 0, .int .i64 0, .slice none 0 0, .int .i64 0, .int .i64 0, .slice none 0 0, .int .i64 0, .int .i64 0, .int .i64 0] 64)).there w2.heap.size 0 M.size) := bx_there (bx_al _ _ _) (fx_al _ _ _) (by rw [HMZ.out]; rfl)
  have HWN : Hid (Below w2.heap.size w2 ((w2.alloc (.cells #[.int .i64 0, .int .i64 0, .bool false, .int .i64 0, .int .i64 0, .int .i64 0, .int .i64 0, .int .i64 0, .int .i64 0, .slice none 0 0, .int .i64 0, .int .i64 0, .slice none 0 0, .int .i64 0, .int .i64 0, .int .i64 0] 64)).setCells w2.heap.size 0 M.toList) ∧ w2.heap.size < ((w2.alloc (.cells #[.int .i64 0, .int .i64 0, .bool false, .int .i64 0, .int .i64 0, .int .i64 0, .int .i64 0, .int .i64 0, .int .i64 0, .slice none 0 0, .int .i64 0, .int .i64 0, .slice none 0 0, .int .i64 0, .int .i64 0, .int .i64 0] 64)).setCells w2.heap.size 0 M.toList).heap.size ∧ (∀ o, ((w2.alloc (.cells #[.int .i64 0, .int .i64 0, .bool false, .int .i64 0, .int .i64 0, .int .i64 0, .int .i64 0, .int .i64 0, .int .i64 0, .slice none 0 0, .int .i64 0, .int .i64 0, .slice none 0 0, .int .i64 0, .int .i64 0, .int .i64 0] 64)).setCells w2.heap.size 0 M.toList).cell? ⟨w2.heap.size, o, none⟩ = M[o]?) ∧ (∀ o, ((w2.alloc (.cells #[.int .i64 0, .int .i64 0, .bool false, .int .i64 0, .int .i64 0, .int .i64 0, .int .i64 0, .int .i64 0, .int .i64 0, .slice none 0 0, .int .i64 0, .int .i64 0, .slice none 0 0, .int .i64 0, .int .i64 0, .int .i64 0] 64)).setCells w2.heap.size 0 M.toList).frozen? ⟨w2.heap.size, o, none⟩ = false)) := ⟨setCells_below (Nat.le_refl _) _ _ _ _ ((Below.refl _ _).alloc (Nat.le_refl _) _), by rw [setCells_size]; simp, bx_setCells (bx_al w2 _ _) (by rw [HMZ.out]; rfl), fx_sets (fx_al _ _ _)⟩
  go_upto_region 3 with (first | (refine wpList_store_mid rfl 64 _ _ rfl _ _ M (by rfl) (by rw [HM.out]; rfl) HTH.out HMI.out HMO.out ?_))
  generalize hWW : ((w2.alloc (.cells #[.int .i64 0, .int .i64 0, .bool false, .int .i64 0, .int .i64 0, .int .i64 0, .int .i64 0, .int .i64 0, .int .i64 0, .slice none 0 0, .int .i64 0, .int .i64 0, .slice none 0 0, .int .i64 0, .int .i64 0, .int .i64 0] 64)).setCells w2.heap.size 0 M.toList) = w3 at HWN ⊢
  clear hWW HTH
  obtain ⟨hb, zX, kX, fX⟩ := HWN.out
  clear HWN
  obtain ⟨bX, hq⟩ : ∃ q, q = w2.heap.size := ⟨_, rfl⟩
  rw [← hq] at zX kX fX ⊢
  have lRX : bR < bX := by rw [hq]; exact zR
  have lwX : W1.heap.size ≤ bX := by rw [hq]; exact D.out.size
  have nX : bX ≠ sb := by rw [hq]; exact (Nat.ne_of_lt (Nat.lt_of_lt_of_le zs1 D.out.size)).symm
  clear hq
  have dd : Dr sb w2 w3 := (Dr.refl _ _).then hb (Nat.le_refl _)
  have HFD : Hid (∀ j (hj : j < fn), ∃ fb fo, ua = some ⟨fb, fo, none⟩ ∧ ∃ (f0 f1 : Int) (fa : Option Addr) (gn gc : Nat) (f3 f4 : Int), ∀ W, Dr sb w3 W → W.rangeAt fb (fo + j * 5) [.int .i64 f0, .int .i64 f1, .slice fa gn gc, .int .i64 f3, .int .i64 f4]) := fun j hj => by
    obtain ⟨fb, fo, q, f0, f1, fa, gn, gc, f3, f4, h⟩ := HFC.out j hj
    exact ⟨fb, fo, q, f0, f1, fa, gn, gc, f3, f4, fun W hW => h W (dd.trans hW)⟩
  clear HFC
  replace S : Hid (Src w3 sb (.slice a len cap) (0 + 2000)) := S.out.bel hb
  clear hb
  replace kR := bx_dr kR dd zR nR
  replace fR := fx_dr fR dd zR nR
  replace zR := Nat.lt_of_lt_of_le zR dd.size
  replace KS : Hid (Kp L w2 w3) := Kp.dr KS.out dd lsL
  replace D : Hid (Dr sb W1 w3) := D.out.trans dd
  clear dd
  have kM := HM.out
  rw [kM] at kX
  clear kM
  have EW : Hid (Dr sb w3 w3) := Dr.refl _ _
  have DX3 : Hid (Dr sb W1 w3) := D.out
  have KX : Hid (∀ W, Dr sb w3 W → (∀ o, W.cell? ⟨bX, o, none⟩ = (#[.int .i64 y0, .int .i64 y1, .bool y2, .int .i64 y3, .int .i64 y4, .int .i64 y5, .int .i64 s0, .int .i64 s1, .int .i64 s2, .slice ua fn uc, .int .i64 c0, .int .i64 c1, .slice va sn vc, .int .i64 k0, .int .i64 k1, .int .i64 k2] : Array Value)[o]?) ∧ bX < W.heap.size) := fun W h => ⟨bx_dr kX h zX nX, Nat.lt_of_lt_of_le zX h.size⟩
  have KR : Hid (∀ W, Dr sb w3 W → (∀ o, W.cell? ⟨bR, o, none⟩ = (#[.int .i64 0, .int .i64 0, .bool false, .int .i64 0, .int .i64 0, .int .i64 0, .int .i64 0, .int .i64 0, .int .i64 0, .slice none 0 0, .int .i64 0, .int .i64 0, .slice none 0 0, .int .i64 0, .int .i64 0, .int .i64 0] : Array Value)[o]?) ∧ (∀ o, W.frozen? ⟨bR, o, none⟩ = false) ∧ bR < W.heap.size) := fun W h => ⟨bx_dr kR h zR nR, fx_dr fR h zR nR, Nat.lt_of_lt_of_le zR h.size⟩
  have KK : Hid (Kp L w2 w3) := KS.out
  clear KS kR fR fX D
  have lRX : bR < bX := lRX
  by_cases hv : fn = 0
  case pos =>
    subst hv
    go_upto_region 8 with fail
    have SW : Hid _ := S.out
    clear S kX HFD
    obtain ⟨at0, hat0⟩ : ∃ z : Int, z = s2 := ⟨_, rfl⟩
    rw [← hat0]
    clear hat0
    obtain ⟨kX8, zX8⟩ := KX.out _ EW.out
    have hWz : w3.heap.size ≤ w3.heap.size := EW.out.size
    have kXd : ∀ o, w3.drew.cell? ⟨bX, o, none⟩ = (#[.int .i64 y0, .int .i64 y1, .bool y2, .int .i64 y3, .int .i64 y4, .int .i64 y5, .int .i64 s0, .int .i64 s1, .int .i64 s2, .slice ua 0 uc, .int .i64 c0, .int .i64 c1, .slice va sn vc, .int .i64 k0, .int .i64 k1, .int .i64 k2] : Array Value)[o]? := bx_dr kX8 (Dr.drewC sb _) zX8 nX
    clear kX8
    refine wp_region_noPanic ?_
    refine Goes.start (S := fun w' => ∀ o, w'.cell? ⟨bX, o, none⟩ = (#[.int .i64 y0, .int .i64 y1, .bool y2, .int .i64 y3, .int .i64 y4, .int .i64 y5, .int .i64 s0, .int .i64 s1, .int .i64 s2, .slice ua 0 uc, .int .i64 c0, .int .i64 c1, .slice va sn vc, .int .i64 k0, .int .i64 k1, .int .i64 k2] : Array Value)[o]?) (z := 100) (by kernel_rfl) ?_
    refine Goes.take (i := 0) (oi := ?oi301) (x := .agg ([.int .i64 y0, .int .i64 y1, .bool y2, .int .i64 y3, .int .i64 y4, .int .i64 y5, .int .i64 s0, .int .i64 s1, .int .i64 s2, .slice ua 0 uc, .int .i64 c0, .int .i64 c1, .slice va sn vc, .int .i64 k0, .int .i64 k1, .int .i64 k2]).toArray) ?ho301 (by kernel_rfl) (by kernel_rfl) (by kernel_rfl) (by kernel_rfl) (fun _ _ _ h => h) ?hy301 kXd ?rest301
    case ho301 => (simp only [List.getElem?_toArray, List.getElem?_cons_zero] <;> rfl)
    case hy301 => exact yieldsIf_load_mid (by rfl) 64 _ rfl (bX) (0) (by rfl) ([.int .i64 y0, .int .i64 y1, .bool y2, .int .i64 y3, .int .i64 y4, .int .i64 y5, .int .i64 s0, .int .i64 s1, .int .i64 s2, .slice ua 0 uc, .int .i64 c0, .int .i64 c1, .slice va sn vc, .int .i64 k0, .int .i64 k1, .int .i64 k2]) _ (fun w' hSw => bx_range (A := (#[.int .i64 y0, .int .i64 y1, .bool y2, .int .i64 y3, .int .i64 y4, .int .i64 y5, .int .i64 s0, .int .i64 s1, .int .i64 s2, .slice ua 0 uc, .int .i64 c0, .int .i64 c1, .slice va sn vc, .int .i64 k0, .int .i64 k1, .int .i64 k2] : Array Value)) hSw) Try.underlying64 rfl (by kernel_rfl)
    case rest301 =>
    (try simp only [Act.put, List.setIfInBounds_toArray, List.set_cons_zero, List.set_cons_succ])
    refine Goes.take (i := 1) (oi := ?oi302) (x := ?vx302) ?ho302 (by kernel_rfl) (by kernel_rfl) (by kernel_rfl) (by kernel_rfl) (fun _ _ _ h => h) (Or.inl ⟨?hw302, ?hy302⟩) kXd ?rest302
    case ho302 => (simp only [List.getElem?_toArray, List.getElem?_cons_succ, List.getElem?_cons_zero] <;> rfl)
    case hw302 => rfl
    case hy302 => (intro w' hSw; go_simp; (try with_reducible rfl))
    case rest302 =>
    (try simp only [Act.put, List.setIfInBounds_toArray, List.set_cons_zero, List.set_cons_succ])
    refine Goes.take (i := 2) (oi := ?oi303) (x := ?vx303) ?ho303 (by kernel_rfl) (by kernel_rfl) (by kernel_rfl) (by kernel_rfl) (fun _ _ _ h => h) (Or.inl ⟨?hw303, ?hy303⟩) kXd ?rest303
    case ho303 => (simp only [List.getElem?_toArray, List.getElem?_cons_succ, List.getElem?_cons_zero] <;> rfl)
    case hw303 => rfl
    case hy303 => (intro w' hSw; go_simp; (try with_reducible rfl))
    case rest303 =>
    (try simp only [Act.put, List.setIfInBounds_toArray, List.set_cons_zero, List.set_cons_succ])
    refine Goes.take (i := 3) (oi := ?oi304) (x := ?vx304) ?ho304 (by kernel_rfl) (by kernel_rfl) (by kernel_rfl) (by kernel_rfl) (fun _ _ _ h => h) (Or.inl ⟨?hw304, ?hy304⟩) kXd ?rest304
    case ho304 => (simp only [List.getElem?_toArray, List.getElem?_cons_succ, List.getElem?_cons_zero] <;> rfl)
    case hw304 => rfl
    case hy304 => (intro w' hSw; go_simp; (try with_reducible rfl))
    case rest304 =>
    (try simp only [Act.put, List.setIfInBounds_toArray, List.set_cons_zero, List.set_cons_succ])
    refine Goes.take (i := 4) (oi := ?oi305) (x := ?vx305) ?ho305 (by kernel_rfl) (by kernel_rfl) (by kernel_rfl) (by kernel_rfl) (fun _ _ _ h => h) (Or.inl ⟨?hw305, ?hy305⟩) kXd ?rest305
    case ho305 => (simp only [List.getElem?_toArray, List.getElem?_cons_succ, List.getElem?_cons_zero] <;> rfl)
    case hw305 => rfl
    case hy305 => (intro w' hSw; go_simp; (try with_reducible rfl))
    case rest305 =>
    (try simp only [Act.put, List.setIfInBounds_toArray, List.set_cons_zero, List.set_cons_succ])
    refine Goes.take (i := 5) (oi := ?oi306) (x := ?vx306) ?ho306 (by kernel_rfl) (by kernel_rfl) (by kernel_rfl) (by kernel_rfl) (fun _ _ _ h => h) (Or.inl ⟨?hw306, ?hy306⟩) kXd ?rest306
    case ho306 => (simp only [List.getElem?_toArray, List.getElem?_cons_succ, List.getElem?_cons_zero] <;> rfl)
    case hw306 => rfl
    case hy306 => (intro w' hSw; go_simp; (try with_reducible rfl))
    case rest306 =>
    (try simp only [Act.put, List.setIfInBounds_toArray, List.set_cons_zero, List.set_cons_succ])
    refine Goes.take (i := 6) (oi := ?oi307) (x := ?vx307) ?ho307 (by kernel_rfl) (by kernel_rfl) (by kernel_rfl) (by kernel_rfl) (fun _ _ _ h => h) (Or.inl ⟨?hw307, ?hy307⟩) kXd ?rest307
    case ho307 => (simp only [List.getElem?_toArray, List.getElem?_cons_succ, List.getElem?_cons_zero] <;> rfl)
    case hw307 => rfl
    case hy307 => (intro w' hSw; go_simp; (try with_reducible rfl))
    case rest307 =>
    (try simp only [Act.put, List.setIfInBounds_toArray, List.set_cons_zero, List.set_cons_succ])
    refine Goes.take (i := 7) (oi := ?oi308) (x := ?vx308) ?ho308 (by kernel_rfl) (by kernel_rfl) (by kernel_rfl) (by kernel_rfl) (fun _ _ _ h => h) (Or.inl ⟨?hw308, ?hy308⟩) kXd ?rest308
    case ho308 => (simp only [List.getElem?_toArray, List.getElem?_cons_succ, List.getElem?_cons_zero] <;> rfl)
    case hw308 => rfl
    case hy308 => (intro w' hSw; go_simp; (try with_reducible rfl))
    case rest308 =>
    (try simp only [Act.put, List.setIfInBounds_toArray, List.set_cons_zero, List.set_cons_succ])
    refine Goes.take (i := 8) (oi := ?oi309) (x := ?vx309) ?ho309 (by kernel_rfl) (by kernel_rfl) (by kernel_rfl) (by kernel_rfl) (fun _ _ _ h => h) (Or.inl ⟨?hw309, ?hy309⟩) kXd ?rest309
    case ho309 => (simp only [List.getElem?_toArray, List.getElem?_cons_succ, List.getElem?_cons_zero] <;> rfl)
    case hw309 => rfl
    case hy309 => (intro w' hSw; go_simp; (try with_reducible rfl))
    case rest309 =>
    (try simp only [Act.put, List.setIfInBounds_toArray, List.set_cons_zero, List.set_cons_succ])
    refine Goes.take (i := 9) (oi := ?oi310) (x := ?vx310) ?ho310 (by kernel_rfl) (by kernel_rfl) (by kernel_rfl) (by kernel_rfl) (fun _ _ _ h => h) (Or.inl ⟨?hw310, ?hy310⟩) kXd ?rest310
    case ho310 => (simp only [List.getElem?_toArray, List.getElem?_cons_succ, List.getElem?_cons_zero] <;> rfl)
    case hw310 => rfl
    case hy310 => (intro w' hSw; go_simp; (try with_reducible rfl))
    case rest310 =>
    (try simp only [Act.put, List.setIfInBounds_toArray, List.set_cons_zero, List.set_cons_succ])
    refine Goes.take (i := 10) (oi := ?oi311) (x := ?vx311) ?ho311 (by kernel_rfl) (by kernel_rfl) (by kernel_rfl) (by kernel_rfl) (fun _ _ _ h => h) (Or.inl ⟨?hw311, ?hy311⟩) kXd ?rest311
    case ho311 => (simp only [List.getElem?_toArray, List.getElem?_cons_succ, List.getElem?_cons_zero] <;> rfl)
    case hw311 => rfl
    case hy311 => (intro w' hSw; go_simp; (try with_reducible rfl))
    case rest311 =>
    (try simp only [Act.put, List.setIfInBounds_toArray, List.set_cons_zero, List.set_cons_succ])
    refine Goes.take (i := 11) (oi := ?oi312) (x := ?vx312) ?ho312 (by kernel_rfl) (by kernel_rfl) (by kernel_rfl) (by kernel_rfl) (fun _ _ _ h => h) (Or.inl ⟨?hw312, ?hy312⟩) kXd ?rest312
    case ho312 => (simp only [List.getElem?_toArray, List.getElem?_cons_succ, List.getElem?_cons_zero] <;> rfl)
    case hw312 => rfl
    case hy312 => (intro w' hSw; go_simp; (try with_reducible rfl))
    case rest312 =>
    (try simp only [Act.put, List.setIfInBounds_toArray, List.set_cons_zero, List.set_cons_succ])
    refine Goes.take (i := 12) (oi := ?oi313) (x := ?vx313) ?ho313 (by kernel_rfl) (by kernel_rfl) (by kernel_rfl) (by kernel_rfl) (fun _ _ _ h => h) (Or.inl ⟨?hw313, ?hy313⟩) kXd ?rest313
    case ho313 => (simp only [List.getElem?_toArray, List.getElem?_cons_succ, List.getElem?_cons_zero] <;> rfl)
    case hw313 => rfl
    case hy313 => (intro w' hSw; go_simp; (try with_reducible rfl))
    case rest313 =>
    (try simp only [Act.put, List.setIfInBounds_toArray, List.set_cons_zero, List.set_cons_succ])
    refine Goes.take (i := 16) (oi := ?oi314) (x := ?vx314) ?ho314 (by kernel_rfl) (by kernel_rfl) (by kernel_rfl) (by kernel_rfl) (fun _ _ _ h => h) (Or.inl ⟨?hw314, ?hy314⟩) kXd ?rest314
    case ho314 => (simp only [List.getElem?_toArray, List.getElem?_cons_succ, List.getElem?_cons_zero] <;> rfl)
    case hw314 => rfl
    case hy314 => (intro w' hSw; go_simp; (try with_reducible rfl))
    case rest314 =>
    (try simp only [Act.put, List.setIfInBounds_toArray, List.set_cons_zero, List.set_cons_succ])
    refine Goes.all (rs := [13]) (by kernel_rfl) (by simp) ?_
    refine Ups.cons (i := 13) (o := ?oo315) ?ho315 (fun KK' hKK => ?stp315) Ups.nil
    case ho315 => (simp only [List.getElem?_toArray, List.getElem?_cons_succ, List.getElem?_cons_zero] <;> rfl)
    case stp315 =>
    go_simp
    have hp := sPickD sb a len cap zs _ [at0, at0, IntKind.i64.wrap (at0 + 1), IntKind.i64.wrap (s1 + 1)] 2 w3.drew (Src.drewC SW.out) (HR.out _ (DX3.out.trans (EW.out.trans (Dr.drewC sb _)))) hl1 (by omega) (by simp) (by simp)
    simp only [List.length_cons, List.length_nil, List.map_cons, List.map_nil, Nat.zero_add, Nat.reduceAdd] at hp
    have HP : Hid _ := hp
    clear hp
    have hal : ∀ o, (w3.drew.alloc (.cells #[.int .i64 at0, .int .i64 at0, .int .i64 (IntKind.i64.wrap (at0 + 1)), .int .i64 (IntKind.i64.wrap (s1 + 1))] 2)).cell? ⟨bX, o, none⟩ = (#[.int .i64 y0, .int .i64 y1, .bool y2, .int .i64 y3, .int .i64 y4, .int .i64 y5, .int .i64 s0, .int .i64 s1, .int .i64 s2, .slice ua 0 uc, .int .i64 c0, .int .i64 c1, .slice va sn vc, .int .i64 k0, .int .i64 k1, .int .i64 k2] : Array Value)[o]? := fun o => (((Below.refl _ _).alloc (Nat.le_refl _) _).cell (p := ⟨bX, o, none⟩) (by simpa using zX8)).trans (kXd o)
    refine hKK.out _ _ (Or.inr hal) ?_
    clear hKK KK'
    (try simp only [Act.put, List.setIfInBounds_toArray, List.set_cons_zero, List.set_cons_succ])
    refine Goes.all (rs := [14]) (by kernel_rfl) (by simp) ?_
    refine Ups.cons (i := 14) (o := ?oo316) ?ho316 (fun KK' hKK => ?stp316) Ups.nil
    case ho316 => (simp only [List.getElem?_toArray, List.getElem?_cons_succ, List.getElem?_cons_zero] <;> rfl)
    case stp316 =>
    go_simp
    go_at_call 41
    refine Calls.mono HP.out ?_
    rintro e w8 ⟨q8, rfl, -, st, s8⟩
    clear HP
    have E8 : Hid (Dr sb w3 w8) := EW.out.trans ((Dr.drewC sb _).trans st)
    have S8 : Hid _ := s8
    clear st s8
    obtain ⟨k8, z8⟩ := KX.out _ E8.out
    dsimp only
    refine hKK.out _ _ (Or.inr k8) ?_
    clear hKK KK'
    (try simp only [Act.put, List.setIfInBounds_toArray, List.set_cons_zero, List.set_cons_succ])
    refine Goes.all (rs := [15]) (by kernel_rfl) (by simp) ?_
    refine Ups.cons (i := 15) (o := ?oo317) ?ho317 (fun KK' hKK => ?stp317) Ups.nil
    case ho317 => (simp only [List.getElem?_toArray, List.getElem?_cons_succ, List.getElem?_cons_zero] <;> rfl)
    case stp317 =>
    go_simp
    go_at_call 76
    refine (sAdd _ _ _).mono ?_
    rintro e w' ⟨rfl, hw⟩
    subst w'
    dsimp only
    refine hKK.out _ _ (Or.inr k8) ?_
    clear hKK KK'
    (try simp only [Act.put, List.setIfInBounds_toArray, List.set_cons_zero, List.set_cons_succ])
    refine Goes.all (rs := [17]) (by kernel_rfl) (by simp) ?_
    refine Ups.cons (i := 17) (o := ?oo318) ?ho318 (fun KK' hKK => ?stp318) Ups.nil
    case ho318 => (simp only [List.getElem?_toArray, List.getElem?_cons_succ, List.getElem?_cons_zero] <;> rfl)
    case stp318 =>
    go_simp
    go_at_call 77
    refine (dOthers sb a len cap zs _ _ S8.out (HR.out _ (DX3.out.trans E8.out)) hl1 (by omega)).mono ?_
    rintro e w9 ⟨l, ad, lc, rfl, ho, hl4, st, s9⟩
    have E9 : Hid (Dr sb w3 w9) := E8.out.trans st
    have HO : Hid _ := ho
    have hz8 : w8.heap.size ≤ w9.heap.size := st.size
    clear ho st s9
    obtain ⟨k9, z9⟩ := KX.out _ E9.out
    obtain ⟨kR9, fR9, zR9⟩ := KR.out _ E9.out
    dsimp only
    refine hKK.out _ _ (Or.inr k9) ?_
    clear hKK KK'
    (try simp only [Act.put, List.setIfInBounds_toArray, List.set_cons_zero, List.set_cons_succ])
    refine Goes.all (rs := [18]) (by kernel_rfl) (by simp) ?_
    refine Ups.cons (i := 18) (o := ?oo319) ?ho319 (fun KK' hKK => ?stp319) Ups.nil
    case ho319 => (simp only [List.getElem?_toArray, List.getElem?_cons_succ, List.getElem?_cons_zero] <;> rfl)
    case stp319 =>
    rw [if_pos (by rfl)]
    refine wp_store_mid 64 _ _ rfl _ _ M (by rfl) (by rw [HM.out]; rfl) (bx_there kR9 fR9 (by rw [HMZ.out]; rfl)) HMI.out HMO.out ?_
    have kZ : ∀ o, (w9.setCells bR 0 M.toList).cell? ⟨bX, o, none⟩ = (#[.int .i64 y0, .int .i64 y1, .bool y2, .int .i64 y3, .int .i64 y4, .int .i64 y5, .int .i64 s0, .int .i64 s1, .int .i64 s2, .slice ua 0 uc, .int .i64 c0, .int .i64 c1, .slice va sn vc, .int .i64 k0, .int .i64 k1, .int .i64 k2] : Array Value)[o]? := bx_setOff k9 (by omega)
    refine hKK.out _ _ (Or.inr kZ) ?_
    clear hKK KK'
    (try simp only [Act.put, List.setIfInBounds_toArray, List.set_cons_zero, List.set_cons_succ])
    refine Goes.all (rs := [19]) (by kernel_rfl) (by simp) ?_
    refine Ups.cons (i := 19) (o := ?oo320) ?ho320 (fun KK hKK => ?stp320) Ups.nil
    case ho320 => (simp only [List.getElem?_toArray, List.getElem?_cons_succ, List.getElem?_cons_zero] <;> rfl)
    case stp320 =>
    go_simp
    refine hKK.out _ _ (Or.inr kZ) ?_
    clear hKK KK
    (try simp only [Act.put, List.setIfInBounds_toArray, List.set_cons_zero, List.set_cons_succ])
    refine Goes.all (rs := [20]) (by kernel_rfl) (by simp) ?_
    refine Ups.cons (i := 20) (o := ?oo321) ?ho321 (fun KK hKK => ?stp321) Ups.nil
    case ho321 => (simp only [List.getElem?_toArray, List.getElem?_cons_succ, List.getElem?_cons_zero] <;> rfl)
    case stp321 =>
    go_simp
    refine hKK.out _ _ (Or.inr kZ) ?_
    clear hKK KK
    (try simp only [Act.put, List.setIfInBounds_toArray, List.set_cons_zero, List.set_cons_succ])
    refine Goes.done (by kernel_rfl) ?_ _
    refine NoPanic.normal ?_
    have kRZ := bx_setCells kR9 (A' := M) (by rw [HMZ.out]; rfl)
    have eM := HM.out
    have HRDZ := HK.out (w9.setCells bR 0 M.toList) (Kp.setCells (Kp.dr KK.out E9.out lsL) (by omega))
    have HRI : RI (w9.setCells bR 0 M.toList) ad l := owi_ri (own_keepC HO.out (fun b hb => setCells_block (by omega) _ _ _))
    have HBZ : Below w.heap.size w (w9.setCells bR 0 M.toList) := setCells_below lwR _ _ _ _ (B1.out.trans ((((DX3.out.trans E9.out)).below (Nat.le_of_lt zs1)).mono (by omega)))
    generalize hWZ : w9.setCells bR 0 M.toList = wz at kRZ HRDZ HRI HBZ ⊢
    clear hWZ
    rw [eM] at kRZ
    have HZ1 : Hid (SubR wz #[.int .i64 y0, .int .i64 y1, .bool y2, .int .i64 y3, .int .i64 y4, .int .i64 y5, .int .i64 s0, .int .i64 s1, .int .i64 s2, .slice ua 0 uc, .int .i64 c0, .int .i64 c1, .slice va sn vc, .int .i64 k0, .int .i64 k1, .int .i64 k2]) := ⟨_, HRDZ, HT.out⟩
    have HZ2 : Hid _ := HRI
    have HZ3 : Hid _ := HBZ
    have HKZ : Hid _ := kRZ
    clear HRDZ HRI HBZ kRZ kR9 fR9 k9 kZ eM
    go_wp2_with fail
    first
      | exact bodyPost_ret (das_res (by rfl) (by rfl) (by rfl) HKZ.out) rfl ⟨_, _, l, ad, lc, rfl, HZ1.out, HZ2.out, hl4, HZ3.out⟩
      | exact bodyPost_ret (das_res (by rfl) (by rfl) (by rfl) HKZ.out) rfl ⟨_, _, l, ad, ⟨lc, rfl⟩, HZ1.out, HZ2.out, hl4, HZ3.out⟩
  have hv0 : (0 : Int) < (fn : Int) := by omega
  have hv1 : 0 < fn := by omega
  obtain ⟨fb, fo, rfl, -⟩ := HFD.out 0 (by omega)
  clear hv
  go_upto_region 6 with fail
  clear kX
  go_cut [9] (fun u wx => ∃ (p : Nat) (f0 : Int) (fa : Option Addr) (gn gc : Nat), u = .pointer (some ⟨p, 0, none⟩) ∧ wx.cell? ⟨p, 0, none⟩ = some (.int .i64 f0) ∧ wx.cell? ⟨p, 2, none⟩ = some (.slice fa gn gc) ∧ p < wx.heap.size ∧ Hid (Dr sb w3 wx) ∧ Hid (Src wx sb (.slice a len cap) (0 + 2000 + 1)))
  case first =>
    have hz9 : w3.heap.size ≠ sb := by have h1 := DX3.out.size; omega
    refine wp_region_noPanic ?_
    refine Goes.start (S := fun w' => Dr sb w3 w') (z := 100) (by kernel_rfl) ?_
    refine Goes.take (i := 0) (oi := ?oi1) (x := ?vx1) ?ho1 (by kernel_rfl) (by kernel_rfl) (by kernel_rfl) (by kernel_rfl) (fun _ _ _ h => h) (Or.inl ⟨?hw1, ?hy1⟩) (Dr.drewC sb w3) ?rest1
    case ho1 => (simp only [List.getElem?_toArray, List.getElem?_cons_zero] <;> rfl)
    case hw1 => rfl
    case hy1 => (intro w' hSw; have jX := (KX.out w' hSw).1; go_simp; (try with_reducible rfl))
    case rest1 =>
    (try simp only [Act.put, List.setIfInBounds_toArray, List.set_cons_zero, List.set_cons_succ])
    refine Goes.take (i := 1) (oi := ?oi2) (x := ?vx2) ?ho2 (by kernel_rfl) (by kernel_rfl) (by kernel_rfl) (by kernel_rfl) (fun _ _ _ h => h) (Or.inl ⟨?hw2, ?hy2⟩) (Dr.drewC sb w3) ?rest2
    case ho2 => (simp only [List.getElem?_toArray, List.getElem?_cons_succ, List.getElem?_cons_zero] <;> rfl)
    case hw2 => rfl
    case hy2 => (intro w' hSw; have jX := (KX.out w' hSw).1; go_simp; (try with_reducible rfl))
    case rest2 =>
    (try simp only [Act.put, List.setIfInBounds_toArray, List.set_cons_zero, List.set_cons_succ])
    refine Goes.take (i := 2) (oi := ?oi3) (x := ?vx3) ?ho3 (by kernel_rfl) (by kernel_rfl) (by kernel_rfl) (by kernel_rfl) (fun _ _ _ h => h) (Or.inl ⟨?hw3, ?hy3⟩) (Dr.drewC sb w3) ?rest3
    case ho3 => (simp only [List.getElem?_toArray, List.getElem?_cons_succ, List.getElem?_cons_zero] <;> rfl)
    case hw3 => rfl
    case hy3 => (intro w' hSw; have jX := (KX.out w' hSw).1; go_simp; (try with_reducible rfl))
    case rest3 =>
    (try simp only [Act.put, List.setIfInBounds_toArray, List.set_cons_zero, List.set_cons_succ])
    refine Goes.take (i := 3) (oi := ?oi4) (x := ?vx4) ?ho4 (by kernel_rfl) (by kernel_rfl) (by kernel_rfl) (by kernel_rfl) (fun _ _ _ h => h) (Or.inl ⟨?hw4, ?hy4⟩) (Dr.drewC sb w3) ?rest4
    case ho4 => (simp only [List.getElem?_toArray, List.getElem?_cons_succ, List.getElem?_cons_zero] <;> rfl)
    case hw4 => rfl
    case hy4 => (intro w' hSw; have jX := (KX.out w' hSw).1; go_simp; (try with_reducible rfl))
    case rest4 =>
    (try simp only [Act.put, List.setIfInBounds_toArray, List.set_cons_zero, List.set_cons_succ])
    refine Goes.take (i := 4) (oi := ?oi5) (x := ?vx5) ?ho5 (by kernel_rfl) (by kernel_rfl) (by kernel_rfl) (by kernel_rfl) (fun _ _ _ h => h) (Or.inl ⟨?hw5, ?hy5⟩) (Dr.drewC sb w3) ?rest5
    case ho5 => (simp only [List.getElem?_toArray, List.getElem?_cons_succ, List.getElem?_cons_zero] <;> rfl)
    case hw5 => rfl
    case hy5 => (intro w' hSw; have jX := (KX.out w' hSw).1; go_simp; (try with_reducible rfl))
    case rest5 =>
    (try simp only [Act.put, List.setIfInBounds_toArray, List.set_cons_zero, List.set_cons_succ])
    refine Goes.all (rs := [5, 8]) (by kernel_rfl) (by simp) ?_
    refine Ups.cons (i := 5) (o := ?oo6) ?ho6 (fun KQ hKQ => ?stp6) (Ups.cons (i := 8) (o := ?oo7) ?ho7 (fun KQ hKQ => ?stp7) Ups.nil)
    case ho6 => (simp only [List.getElem?_toArray, List.getElem?_cons_succ, List.getElem?_cons_zero] <;> rfl)
    case ho7 => (simp only [List.getElem?_toArray, List.getElem?_cons_succ, List.getElem?_cons_zero] <;> rfl)
    case stp6 =>
      go_simp
      go_at_call 39
      refine (sNext sb a len cap zs _ fn _ (Src.drewC S.out) (HR.out _ (DX3.out.trans (Dr.drewC sb w3))) hl1 (by omega) (by omega)).mono ?_
      rintro e w4 ⟨r, rfl, p4, q4, st, s4⟩
      obtain ⟨j, rfl⟩ : ∃ j : Nat, r = (j : Int) := ⟨r.toNat, by omega⟩
      obtain ⟨fb', fo', hfe, f0, f1, fa, gn, gc, f3, f4, hrg⟩ := HFD.out j (by omega)
      simp only [Option.some.injEq, Addr.mk.injEq, and_true] at hfe
      obtain ⟨rfl, rfl⟩ := hfe
      have E4 : Hid (Dr sb w3 w4) := (Dr.drewC sb w3).trans st.dr
      have S4 : Hid _ := s4
      have HRF : Hid (∀ W, Dr sb w3 W → W.rangeAt fb (fo + j * 5) [.int .i64 f0, .int .i64 f1, .slice fa gn gc, .int .i64 f3, .int .i64 f4]) := hrg
      obtain ⟨FA, hFA⟩ : ∃ FA : Array Value, FA = [.int .i64 f0, .int .i64 f1, .slice fa gn gc, .int .i64 f3, .int .i64 f4].toArray := ⟨_, rfl⟩
      have HFA : Hid _ := hFA
      have HFZ : Hid (FA.size = 5) := by show _ = _; rw [hFA]; rfl
      have HFI : Hid ((Try.prog.info? 118).map (·.size) = some FA.size) := by show _ = _; rw [HFZ.out]; exact (by kernel_rfl : (Try.prog.info? 118).map (·.size) = some 5)
      have HFO : Hid (FA.all (·.oneCell') = true) := by show _ = _; rw [hFA]; simp [Value.oneCell']
      clear hFA hrg s4
      have hj0 : (0 : Int) ≤ (j : Int) := by omega
      have hj1 : (j : Int) < (fn : Int) := q4
      clear st
      dsimp only
      refine hKQ.out _ _ (Or.inr E4.out) ?_
      clear hKQ KQ
      (try simp only [Act.put, List.setIfInBounds_toArray, List.set_cons_zero, List.set_cons_succ])
      refine Goes.take (i := 6) (oi := ?oi31) (x := ?vx31) ?ho31 (by kernel_rfl) (by kernel_rfl) (by kernel_rfl) (by kernel_rfl) (fun _ _ _ h => h) (Or.inl ⟨?hw31, ?hy31⟩) E4.out ?rest31
      case ho31 => (simp only [List.getElem?_toArray, List.getElem?_cons_succ, List.getElem?_cons_zero] <;> rfl)
      case hw31 => rfl
      case hy31 => (intro w' hSw; have jX := (KX.out w' hSw).1; go_simp; (try with_reducible rfl))
      case rest31 =>
      (try simp only [Act.put, List.setIfInBounds_toArray, List.set_cons_zero, List.set_cons_succ])
      refine Goes.take (i := 7) (oi := ?oi32) (x := .agg ([.int .i64 f0, .int .i64 f1, .slice fa gn gc, .int .i64 f3, .int .i64 f4]).toArray) ?ho32 (by kernel_rfl) (by kernel_rfl) (by kernel_rfl) (by kernel_rfl) (fun _ _ _ h => h) ?hy32 E4.out ?rest32
      case ho32 => (simp only [List.getElem?_toArray, List.getElem?_cons_succ, List.getElem?_cons_zero] <;> rfl)
      case hy32 => exact yieldsIf_load_mid (by rfl) 118 _ rfl (fb) (fo + j * 5) (by rfl) ([.int .i64 f0, .int .i64 f1, .slice fa gn gc, .int .i64 f3, .int .i64 f4]) _ (fun w' hSw => HRF.out w' hSw) Try.underlying118 rfl (by kernel_rfl)
      case rest32 =>
      (try simp only [Act.put, List.setIfInBounds_toArray, List.set_cons_zero, List.set_cons_succ])
      refine Goes.all (rs := [8]) (by kernel_rfl) (by simp) ?_
      refine Ups.cons (i := 8) (o := ?oo33) ?ho33 (fun KQ hKQ => ?stp33) Ups.nil
      case ho33 => (simp only [List.getElem?_toArray, List.getElem?_cons_succ, List.getElem?_cons_zero] <;> rfl)
      case stp33 =>
      go_simp
      have hal : Dr sb w3 (w4.alloc (.cells #[.int .i64 0, .int .i64 0, .slice none 0 0, .int .i64 0, .int .i64 0] 118)) := E4.out.then ((Below.refl _ _).alloc (Nat.le_refl _) _) E4.out.size
      refine hKQ.out _ _ (Or.inr hal) ?_
      clear hKQ KQ
      (try simp only [Act.put, List.setIfInBounds_toArray, List.set_cons_zero, List.set_cons_succ])
      refine Goes.all (rs := [9]) (by kernel_rfl) (by simp) ?_
      refine Ups.cons (i := 9) (o := ?oo34) ?ho34 (fun KQ hKQ => ?stp34) Ups.nil
      case ho34 => (simp only [List.getElem?_toArray, List.getElem?_cons_succ, List.getElem?_cons_zero] <;> rfl)
      case stp34 =>
      rw [if_pos (by rfl)]
      have kZ : ∀ o, (w4.alloc (.cells #[.int .i64 0, .int .i64 0, .slice none 0 0, .int .i64 0, .int .i64 0] 118)).cell? ⟨w4.heap.size, o, none⟩ = (#[.int .i64 0, .int .i64 0, .slice none 0 0, .int .i64 0, .int .i64 0] : Array Value)[o]? := bx_al _ _ _
      have fZ : ∀ o, (w4.alloc (.cells #[.int .i64 0, .int .i64 0, .slice none 0 0, .int .i64 0, .int .i64 0] 118)).frozen? ⟨w4.heap.size, o, none⟩ = false := fx_al _ _ _
      refine wp_store_mid 118 _ _ rfl _ _ FA (by rfl) (by rw [HFA.out]; rfl) (bx_there kZ fZ (by rw [HFZ.out]; rfl)) HFI.out HFO.out ?_
      refine hKQ.out _ _ (Or.inr (hal.then (setCells_below (Nat.le_refl _) _ _ _ _ (Below.refl _ _)) E4.out.size)) ?_
      clear hKQ KQ
      (try simp only [Act.put])
      refine Goes.done (by kernel_rfl) ?_ _
      refine NoPanic.normal ?_
      have kQ := bx_setCells kZ (A' := FA) (by rw [HFZ.out]; rfl)
      rw [HFA.out] at kQ
      go_wp2_with fail
      go_meet
      refine ⟨_, f0, fa, gn, gc, rfl, ?_, ?_, ?_, (hal.then (setCells_below (Nat.le_refl _) _ _ _ _ (Below.refl _ _)) E4.out.size), (S4.out.alloc _).below (setCells_below (Nat.le_refl _) _ _ _ _ (Below.refl _ _)) S4.out.lt⟩
      · rw [HFA.out]; exact kQ 0
      · rw [HFA.out]; exact kQ 2
      · rw [setCells_size]; simp
    case stp7 =>
      go_simp
      have hal : Dr sb w3 (w3.drew.alloc (.cells #[.int .i64 0, .int .i64 0, .slice none 0 0, .int .i64 0, .int .i64 0] 118)) := (Dr.drewC sb w3).then ((Below.refl _ _).alloc (Nat.le_refl _) _) (Nat.le_refl _)
      refine hKQ.out _ _ (Or.inr hal) ?_
      clear hKQ KQ
      (try simp only [Act.put, List.setIfInBounds_toArray, List.set_cons_zero, List.set_cons_succ])
      refine Goes.all (rs := [5]) (by kernel_rfl) (by simp) ?_
      refine Ups.cons (i := 5) (o := ?oo61) ?ho61 (fun KQ hKQ => ?stp61) Ups.nil
      case ho61 => (simp only [List.getElem?_toArray, List.getElem?_cons_succ, List.getElem?_cons_zero] <;> rfl)
      case stp61 =>
      go_simp
      go_at_call 39
      refine (sNext sb a len cap zs _ fn _ ((Src.drewC S.out).alloc _) (HR.out _ (DX3.out.trans hal)) hl1 (by omega) (by omega)).mono ?_
      rintro e w4 ⟨r, rfl, p4, q4, st, s4⟩
      obtain ⟨j, rfl⟩ : ∃ j : Nat, r = (j : Int) := ⟨r.toNat, by omega⟩
      obtain ⟨fb', fo', hfe, f0, f1, fa, gn, gc, f3, f4, hrg⟩ := HFD.out j (by omega)
      simp only [Option.some.injEq, Addr.mk.injEq, and_true] at hfe
      obtain ⟨rfl, rfl⟩ := hfe
      have E4 : Hid (Dr sb w3 w4) := (hal).trans st.dr
      have S4 : Hid _ := s4
      have HRF : Hid (∀ W, Dr sb w3 W → W.rangeAt fb (fo + j * 5) [.int .i64 f0, .int .i64 f1, .slice fa gn gc, .int .i64 f3, .int .i64 f4]) := hrg
      obtain ⟨FA, hFA⟩ : ∃ FA : Array Value, FA = [.int .i64 f0, .int .i64 f1, .slice fa gn gc, .int .i64 f3, .int .i64 f4].toArray := ⟨_, rfl⟩
      have HFA : Hid _ := hFA
      have HFZ : Hid (FA.size = 5) := by show _ = _; rw [hFA]; rfl
      have HFI : Hid ((Try.prog.info? 118).map (·.size) = some FA.size) := by show _ = _; rw [HFZ.out]; exact (by kernel_rfl : (Try.prog.info? 118).map (·.size) = some 5)
      have HFO : Hid (FA.all (·.oneCell') = true) := by show _ = _; rw [hFA]; simp [Value.oneCell']
      clear hFA hrg s4
      have kF := fun o => (st.cell (p := ⟨w3.heap.size, o, none⟩) hz9).trans (bx_al w3.drew #[.int .i64 0, .int .i64 0, .slice none 0 0, .int .i64 0, .int .i64 0] 118 o)
      have fF := fun o => (st.frozen (p := ⟨w3.heap.size, o, none⟩) hz9).trans (fx_al w3.drew #[.int .i64 0, .int .i64 0, .slice none 0 0, .int .i64 0, .int .i64 0] 118 o)
      have hz4 : w3.heap.size < w4.heap.size := by have := st.size; simp at this; omega
      have hj0 : (0 : Int) ≤ (j : Int) := by omega
      have hj1 : (j : Int) < (fn : Int) := q4
      clear st
      dsimp only
      refine hKQ.out _ _ (Or.inr E4.out) ?_
      clear hKQ KQ
      (try simp only [Act.put, List.setIfInBounds_toArray, List.set_cons_zero, List.set_cons_succ])
      refine Goes.take (i := 6) (oi := ?oi62) (x := ?vx62) ?ho62 (by kernel_rfl) (by kernel_rfl) (by kernel_rfl) (by kernel_rfl) (fun _ _ _ h => h) (Or.inl ⟨?hw62, ?hy62⟩) E4.out ?rest62
      case ho62 => (simp only [List.getElem?_toArray, List.getElem?_cons_succ, List.getElem?_cons_zero] <;> rfl)
      case hw62 => rfl
      case hy62 => (intro w' hSw; have jX := (KX.out w' hSw).1; go_simp; (try with_reducible rfl))
      case rest62 =>
      (try simp only [Act.put, List.setIfInBounds_toArray, List.set_cons_zero, List.set_cons_succ])
      refine Goes.take (i := 7) (oi := ?oi63) (x := .agg ([.int .i64 f0, .int .i64 f1, .slice fa gn gc, .int .i64 f3, .int .i64 f4]).toArray) ?ho63 (by kernel_rfl) (by kernel_rfl) (by kernel_rfl) (by kernel_rfl) (fun _ _ _ h => h) ?hy63 E4.out ?rest63
      case ho63 => (simp only [List.getElem?_toArray, List.getElem?_cons_succ, List.getElem?_cons_zero] <;> rfl)
      case hy63 => exact yieldsIf_load_mid (by rfl) 118 _ rfl (fb) (fo + j * 5) (by rfl) ([.int .i64 f0, .int .i64 f1, .slice fa gn gc, .int .i64 f3, .int .i64 f4]) _ (fun w' hSw => HRF.out w' hSw) Try.underlying118 rfl (by kernel_rfl)
      case rest63 =>
      (try simp only [Act.put, List.setIfInBounds_toArray, List.set_cons_zero, List.set_cons_succ])
      refine Goes.all (rs := [9]) (by kernel_rfl) (by simp) ?_
      refine Ups.cons (i := 9) (o := ?oo64) ?ho64 (fun KQ hKQ => ?stp64) Ups.nil
      case ho64 => (simp only [List.getElem?_toArray, List.getElem?_cons_succ, List.getElem?_cons_zero] <;> rfl)
      case stp64 =>
      rw [if_pos (by rfl)]
      have kZ : ∀ o, w4.cell? ⟨w3.heap.size, o, none⟩ = (#[.int .i64 0, .int .i64 0, .slice none 0 0, .int .i64 0, .int .i64 0] : Array Value)[o]? := kF
      have fZ : ∀ o, w4.frozen? ⟨w3.heap.size, o, none⟩ = false := fF
      refine wp_store_mid 118 _ _ rfl _ _ FA (by rfl) (by rw [HFA.out]; rfl) (bx_there kZ fZ (by rw [HFZ.out]; rfl)) HFI.out HFO.out ?_
      refine hKQ.out _ _ (Or.inr (E4.out.then (setCells_below (Nat.le_refl _) _ _ _ _ (Below.refl _ _)) (Nat.le_refl _))) ?_
      clear hKQ KQ
      (try simp only [Act.put])
      refine Goes.done (by kernel_rfl) ?_ _
      refine NoPanic.normal ?_
      have kQ := bx_setCells kZ (A' := FA) (by rw [HFZ.out]; rfl)
      rw [HFA.out] at kQ
      go_wp2_with fail
      go_meet
      refine ⟨_, f0, fa, gn, gc, rfl, ?_, ?_, ?_, (E4.out.then (setCells_below (Nat.le_refl _) _ _ _ _ (Below.refl _ _)) (Nat.le_refl _)), S4.out.below (setCells_below (Nat.le_refl _) _ _ _ _ (Below.refl _ _)) (by omega)⟩
      · rw [HFA.out]; exact kQ 0
      · rw [HFA.out]; exact kQ 2
      · rw [setCells_size]; exact hz4
  case rest =>
    obtain ⟨p, f0, fa, gn, gc, rfl, c0', c2', hp, EW, SW⟩ := hcut
    go_upto_region 8 with fail
    obtain ⟨at0, hat0⟩ : ∃ z : Int, z = wrap64 (f0 + (gn : Int)) := ⟨_, rfl⟩
    rw [← hat0]
    clear hat0
    obtain ⟨kX8, zX8⟩ := KX.out _ EW.out
    have hWz : w3.heap.size ≤ wc.heap.size := EW.out.size
    have kXd : ∀ o, wc.drew.cell? ⟨bX, o, none⟩ = (#[.int .i64 y0, .int .i64 y1, .bool y2, .int .i64 y3, .int .i64 y4, .int .i64 y5, .int .i64 s0, .int .i64 s1, .int .i64 s2, .slice (some ⟨fb, fo, none⟩) fn uc, .int .i64 c0, .int .i64 c1, .slice va sn vc, .int .i64 k0, .int .i64 k1, .int .i64 k2] : Array Value)[o]? := bx_dr kX8 (Dr.drewC sb _) zX8 nX
    clear kX8
    refine wp_region_noPanic ?_
    refine Goes.start (S := fun w' => ∀ o, w'.cell? ⟨bX, o, none⟩ = (#[.int .i64 y0, .int .i64 y1, .bool y2, .int .i64 y3, .int .i64 y4, .int .i64 y5, .int .i64 s0, .int .i64 s1, .int .i64 s2, .slice (some ⟨fb, fo, none⟩) fn uc, .int .i64 c0, .int .i64 c1, .slice va sn vc, .int .i64 k0, .int .i64 k1, .int .i64 k2] : Array Value)[o]?) (z := 100) (by kernel_rfl) ?_
    refine Goes.take (i := 0) (oi := ?oi601) (x := .agg ([.int .i64 y0, .int .i64 y1, .bool y2, .int .i64 y3, .int .i64 y4, .int .i64 y5, .int .i64 s0, .int .i64 s1, .int .i64 s2, .slice (some ⟨fb, fo, none⟩) fn uc, .int .i64 c0, .int .i64 c1, .slice va sn vc, .int .i64 k0, .int .i64 k1, .int .i64 k2]).toArray) ?ho601 (by kernel_rfl) (by kernel_rfl) (by kernel_rfl) (by kernel_rfl) (fun _ _ _ h => h) ?hy601 kXd ?rest601
    case ho601 => (simp only [List.getElem?_toArray, List.getElem?_cons_zero] <;> rfl)
    case hy601 => exact yieldsIf_load_mid (by rfl) 64 _ rfl (bX) (0) (by rfl) ([.int .i64 y0, .int .i64 y1, .bool y2, .int .i64 y3, .int .i64 y4, .int .i64 y5, .int .i64 s0, .int .i64 s1, .int .i64 s2, .slice (some ⟨fb, fo, none⟩) fn uc, .int .i64 c0, .int .i64 c1, .slice va sn vc, .int .i64 k0, .int .i64 k1, .int .i64 k2]) _ (fun w' hSw => bx_range (A := (#[.int .i64 y0, .int .i64 y1, .bool y2, .int .i64 y3, .int .i64 y4, .int .i64 y5, .int .i64 s0, .int .i64 s1, .int .i64 s2, .slice (some ⟨fb, fo, none⟩) fn uc, .int .i64 c0, .int .i64 c1, .slice va sn vc, .int .i64 k0, .int .i64 k1, .int .i64 k2] : Array Value)) hSw) Try.underlying64 rfl (by kernel_rfl)
    case rest601 =>
    (try simp only [Act.put, List.setIfInBounds_toArray, List.set_cons_zero, List.set_cons_succ])
    refine Goes.take (i := 1) (oi := ?oi602) (x := ?vx602) ?ho602 (by kernel_rfl) (by kernel_rfl) (by kernel_rfl) (by kernel_rfl) (fun _ _ _ h => h) (Or.inl ⟨?hw602, ?hy602⟩) kXd ?rest602
    case ho602 => (simp only [List.getElem?_toArray, List.getElem?_cons_succ, List.getElem?_cons_zero] <;> rfl)
    case hw602 => rfl
    case hy602 => (intro w' hSw; go_simp; (try with_reducible rfl))
    case rest602 =>
    (try simp only [Act.put, List.setIfInBounds_toArray, List.set_cons_zero, List.set_cons_succ])
    refine Goes.take (i := 2) (oi := ?oi603) (x := ?vx603) ?ho603 (by kernel_rfl) (by kernel_rfl) (by kernel_rfl) (by kernel_rfl) (fun _ _ _ h => h) (Or.inl ⟨?hw603, ?hy603⟩) kXd ?rest603
    case ho603 => (simp only [List.getElem?_toArray, List.getElem?_cons_succ, List.getElem?_cons_zero] <;> rfl)
    case hw603 => rfl
    case hy603 => (intro w' hSw; go_simp; (try with_reducible rfl))
    case rest603 =>
    (try simp only [Act.put, List.setIfInBounds_toArray, List.set_cons_zero, List.set_cons_succ])
    refine Goes.take (i := 3) (oi := ?oi604) (x := ?vx604) ?ho604 (by kernel_rfl) (by kernel_rfl) (by kernel_rfl) (by kernel_rfl) (fun _ _ _ h => h) (Or.inl ⟨?hw604, ?hy604⟩) kXd ?rest604
    case ho604 => (simp only [List.getElem?_toArray, List.getElem?_cons_succ, List.getElem?_cons_zero] <;> rfl)
    case hw604 => rfl
    case hy604 => (intro w' hSw; go_simp; (try with_reducible rfl))
    case rest604 =>
    (try simp only [Act.put, List.setIfInBounds_toArray, List.set_cons_zero, List.set_cons_succ])
    refine Goes.take (i := 4) (oi := ?oi605) (x := ?vx605) ?ho605 (by kernel_rfl) (by kernel_rfl) (by kernel_rfl) (by kernel_rfl) (fun _ _ _ h => h) (Or.inl ⟨?hw605, ?hy605⟩) kXd ?rest605
    case ho605 => (simp only [List.getElem?_toArray, List.getElem?_cons_succ, List.getElem?_cons_zero] <;> rfl)
    case hw605 => rfl
    case hy605 => (intro w' hSw; go_simp; (try with_reducible rfl))
    case rest605 =>
    (try simp only [Act.put, List.setIfInBounds_toArray, List.set_cons_zero, List.set_cons_succ])
    refine Goes.take (i := 5) (oi := ?oi606) (x := ?vx606) ?ho606 (by kernel_rfl) (by kernel_rfl) (by kernel_rfl) (by kernel_rfl) (fun _ _ _ h => h) (Or.inl ⟨?hw606, ?hy606⟩) kXd ?rest606
    case ho606 => (simp only [List.getElem?_toArray, List.getElem?_cons_succ, List.getElem?_cons_zero] <;> rfl)
    case hw606 => rfl
    case hy606 => (intro w' hSw; go_simp; (try with_reducible rfl))
    case rest606 =>
    (try simp only [Act.put, List.setIfInBounds_toArray, List.set_cons_zero, List.set_cons_succ])
    refine Goes.take (i := 6) (oi := ?oi607) (x := ?vx607) ?ho607 (by kernel_rfl) (by kernel_rfl) (by kernel_rfl) (by kernel_rfl) (fun _ _ _ h => h) (Or.inl ⟨?hw607, ?hy607⟩) kXd ?rest607
    case ho607 => (simp only [List.getElem?_toArray, List.getElem?_cons_succ, List.getElem?_cons_zero] <;> rfl)
    case hw607 => rfl
    case hy607 => (intro w' hSw; go_simp; (try with_reducible rfl))
    case rest607 =>
    (try simp only [Act.put, List.setIfInBounds_toArray, List.set_cons_zero, List.set_cons_succ])
    refine Goes.take (i := 7) (oi := ?oi608) (x := ?vx608) ?ho608 (by kernel_rfl) (by kernel_rfl) (by kernel_rfl) (by kernel_rfl) (fun _ _ _ h => h) (Or.inl ⟨?hw608, ?hy608⟩) kXd ?rest608
    case ho608 => (simp only [List.getElem?_toArray, List.getElem?_cons_succ, List.getElem?_cons_zero] <;> rfl)
    case hw608 => rfl
    case hy608 => (intro w' hSw; go_simp; (try with_reducible rfl))
    case rest608 =>
    (try simp only [Act.put, List.setIfInBounds_toArray, List.set_cons_zero, List.set_cons_succ])
    refine Goes.take (i := 8) (oi := ?oi609) (x := ?vx609) ?ho609 (by kernel_rfl) (by kernel_rfl) (by kernel_rfl) (by kernel_rfl) (fun _ _ _ h => h) (Or.inl ⟨?hw609, ?hy609⟩) kXd ?rest609
    case ho609 => (simp only [List.getElem?_toArray, List.getElem?_cons_succ, List.getElem?_cons_zero] <;> rfl)
    case hw609 => rfl
    case hy609 => (intro w' hSw; go_simp; (try with_reducible rfl))
    case rest609 =>
    (try simp only [Act.put, List.setIfInBounds_toArray, List.set_cons_zero, List.set_cons_succ])
    refine Goes.take (i := 9) (oi := ?oi610) (x := ?vx610) ?ho610 (by kernel_rfl) (by kernel_rfl) (by kernel_rfl) (by kernel_rfl) (fun _ _ _ h => h) (Or.inl ⟨?hw610, ?hy610⟩) kXd ?rest610
    case ho610 => (simp only [List.getElem?_toArray, List.getElem?_cons_succ, List.getElem?_cons_zero] <;> rfl)
    case hw610 => rfl
    case hy610 => (intro w' hSw; go_simp; (try with_reducible rfl))
    case rest610 =>
    (try simp only [Act.put, List.setIfInBounds_toArray, List.set_cons_zero, List.set_cons_succ])
    refine Goes.take (i := 10) (oi := ?oi611) (x := ?vx611) ?ho611 (by kernel_rfl) (by kernel_rfl) (by kernel_rfl) (by kernel_rfl) (fun _ _ _ h => h) (Or.inl ⟨?hw611, ?hy611⟩) kXd ?rest611
    case ho611 => (simp only [List.getElem?_toArray, List.getElem?_cons_succ, List.getElem?_cons_zero] <;> rfl)
    case hw611 => rfl
    case hy611 => (intro w' hSw; go_simp; (try with_reducible rfl))
    case rest611 =>
    (try simp only [Act.put, List.setIfInBounds_toArray, List.set_cons_zero, List.set_cons_succ])
    refine Goes.take (i := 11) (oi := ?oi612) (x := ?vx612) ?ho612 (by kernel_rfl) (by kernel_rfl) (by kernel_rfl) (by kernel_rfl) (fun _ _ _ h => h) (Or.inl ⟨?hw612, ?hy612⟩) kXd ?rest612
    case ho612 => (simp only [List.getElem?_toArray, List.getElem?_cons_succ, List.getElem?_cons_zero] <;> rfl)
    case hw612 => rfl
    case hy612 => (intro w' hSw; go_simp; (try with_reducible rfl))
    case rest612 =>
    (try simp only [Act.put, List.setIfInBounds_toArray, List.set_cons_zero, List.set_cons_succ])
    refine Goes.take (i := 12) (oi := ?oi613) (x := ?vx613) ?ho613 (by kernel_rfl) (by kernel_rfl) (by kernel_rfl) (by kernel_rfl) (fun _ _ _ h => h) (Or.inl ⟨?hw613, ?hy613⟩) kXd ?rest613
    case ho613 => (simp only [List.getElem?_toArray, List.getElem?_cons_succ, List.getElem?_cons_zero] <;> rfl)
    case hw613 => rfl
    case hy613 => (intro w' hSw; go_simp; (try with_reducible rfl))
    case rest613 =>
    (try simp only [Act.put, List.setIfInBounds_toArray, List.set_cons_zero, List.set_cons_succ])
    refine Goes.take (i := 16) (oi := ?oi614) (x := ?vx614) ?ho614 (by kernel_rfl) (by kernel_rfl) (by kernel_rfl) (by kernel_rfl) (fun _ _ _ h => h) (Or.inl ⟨?hw614, ?hy614⟩) kXd ?rest614
    case ho614 => (simp only [List.getElem?_toArray, List.getElem?_cons_succ, List.getElem?_cons_zero] <;> rfl)
    case hw614 => rfl
    case hy614 => (intro w' hSw; go_simp; (try with_reducible rfl))
    case rest614 =>
    (try simp only [Act.put, List.setIfInBounds_toArray, List.set_cons_zero, List.set_cons_succ])
    refine Goes.all (rs := [13]) (by kernel_rfl) (by simp) ?_
    refine Ups.cons (i := 13) (o := ?oo615) ?ho615 (fun KK' hKK => ?stp615) Ups.nil
    case ho615 => (simp only [List.getElem?_toArray, List.getElem?_cons_succ, List.getElem?_cons_zero] <;> rfl)
    case stp615 =>
    go_simp
    have hp := sPickD sb a len cap zs _ [at0, at0, IntKind.i64.wrap (at0 + 1), IntKind.i64.wrap (s1 + 1)] 2 wc.drew (Src.drewC SW.out) (HR.out _ (DX3.out.trans (EW.out.trans (Dr.drewC sb _)))) hl1 (by omega) (by simp) (by simp)
    simp only [List.length_cons, List.length_nil, List.map_cons, List.map_nil, Nat.zero_add, Nat.reduceAdd] at hp
    have HP : Hid _ := hp
    clear hp
    have hal : ∀ o, (wc.drew.alloc (.cells #[.int .i64 at0, .int .i64 at0, .int .i64 (IntKind.i64.wrap (at0 + 1)), .int .i64 (IntKind.i64.wrap (s1 + 1))] 2)).cell? ⟨bX, o, none⟩ = (#[.int .i64 y0, .int .i64 y1, .bool y2, .int .i64 y3, .int .i64 y4, .int .i64 y5, .int .i64 s0, .int .i64 s1, .int .i64 s2, .slice (some ⟨fb, fo, none⟩) fn uc, .int .i64 c0, .int .i64 c1, .slice va sn vc, .int .i64 k0, .int .i64 k1, .int .i64 k2] : Array Value)[o]? := fun o => (((Below.refl _ _).alloc (Nat.le_refl _) _).cell (p := ⟨bX, o, none⟩) (by simpa using zX8)).trans (kXd o)
    refine hKK.out _ _ (Or.inr hal) ?_
    clear hKK KK'
    (try simp only [Act.put, List.setIfInBounds_toArray, List.set_cons_zero, List.set_cons_succ])
    refine Goes.all (rs := [14]) (by kernel_rfl) (by simp) ?_
    refine Ups.cons (i := 14) (o := ?oo616) ?ho616 (fun KK' hKK => ?stp616) Ups.nil
    case ho616 => (simp only [List.getElem?_toArray, List.getElem?_cons_succ, List.getElem?_cons_zero] <;> rfl)
    case stp616 =>
    go_simp
    go_at_call 41
    refine Calls.mono HP.out ?_
    rintro e w8 ⟨q8, rfl, -, st, s8⟩
    clear HP
    have E8 : Hid (Dr sb w3 w8) := EW.out.trans ((Dr.drewC sb _).trans st)
    have S8 : Hid _ := s8
    clear st s8
    obtain ⟨k8, z8⟩ := KX.out _ E8.out
    dsimp only
    refine hKK.out _ _ (Or.inr k8) ?_
    clear hKK KK'
    (try simp only [Act.put, List.setIfInBounds_toArray, List.set_cons_zero, List.set_cons_succ])
    refine Goes.all (rs := [15]) (by kernel_rfl) (by simp) ?_
    refine Ups.cons (i := 15) (o := ?oo617) ?ho617 (fun KK' hKK => ?stp617) Ups.nil
    case ho617 => (simp only [List.getElem?_toArray, List.getElem?_cons_succ, List.getElem?_cons_zero] <;> rfl)
    case stp617 =>
    go_simp
    go_at_call 76
    refine (sAdd _ _ _).mono ?_
    rintro e w' ⟨rfl, hw⟩
    subst w'
    dsimp only
    refine hKK.out _ _ (Or.inr k8) ?_
    clear hKK KK'
    (try simp only [Act.put, List.setIfInBounds_toArray, List.set_cons_zero, List.set_cons_succ])
    refine Goes.all (rs := [17]) (by kernel_rfl) (by simp) ?_
    refine Ups.cons (i := 17) (o := ?oo618) ?ho618 (fun KK' hKK => ?stp618) Ups.nil
    case ho618 => (simp only [List.getElem?_toArray, List.getElem?_cons_succ, List.getElem?_cons_zero] <;> rfl)
    case stp618 =>
    go_simp
    go_at_call 77
    refine (dOthers sb a len cap zs _ _ S8.out (HR.out _ (DX3.out.trans E8.out)) hl1 (by omega)).mono ?_
    rintro e w9 ⟨l, ad, lc, rfl, ho, hl4, st, s9⟩
    have E9 : Hid (Dr sb w3 w9) := E8.out.trans st
    have HO : Hid _ := ho
    have hz8 : w8.heap.size ≤ w9.heap.size := st.size
    clear ho st s9
    obtain ⟨k9, z9⟩ := KX.out _ E9.out
    obtain ⟨kR9, fR9, zR9⟩ := KR.out _ E9.out
    dsimp only
    refine hKK.out _ _ (Or.inr k9) ?_
    clear hKK KK'
    (try simp only [Act.put, List.setIfInBounds_toArray, List.set_cons_zero, List.set_cons_succ])
    refine Goes.all (rs := [18]) (by kernel_rfl) (by simp) ?_
    refine Ups.cons (i := 18) (o := ?oo619) ?ho619 (fun KK' hKK => ?stp619) Ups.nil
    case ho619 => (simp only [List.getElem?_toArray, List.getElem?_cons_succ, List.getElem?_cons_zero] <;> rfl)
    case stp619 =>
    rw [if_pos (by rfl)]
    refine wp_store_mid 64 _ _ rfl _ _ M (by rfl) (by rw [HM.out]; rfl) (bx_there kR9 fR9 (by rw [HMZ.out]; rfl)) HMI.out HMO.out ?_
    have kZ : ∀ o, (w9.setCells bR 0 M.toList).cell? ⟨bX, o, none⟩ = (#[.int .i64 y0, .int .i64 y1, .bool y2, .int .i64 y3, .int .i64 y4, .int .i64 y5, .int .i64 s0, .int .i64 s1, .int .i64 s2, .slice (some ⟨fb, fo, none⟩) fn uc, .int .i64 c0, .int .i64 c1, .slice va sn vc, .int .i64 k0, .int .i64 k1, .int .i64 k2] : Array Value)[o]? := bx_setOff k9 (by omega)
    refine hKK.out _ _ (Or.inr kZ) ?_
    clear hKK KK'
    (try simp only [Act.put, List.setIfInBounds_toArray, List.set_cons_zero, List.set_cons_succ])
    refine Goes.all (rs := [19]) (by kernel_rfl) (by simp) ?_
    refine Ups.cons (i := 19) (o := ?oo620) ?ho620 (fun KK hKK => ?stp620) Ups.nil
    case ho620 => (simp only [List.getElem?_toArray, List.getElem?_cons_succ, List.getElem?_cons_zero] <;> rfl)
    case stp620 =>
    go_simp
    refine hKK.out _ _ (Or.inr kZ) ?_
    clear hKK KK
    (try simp only [Act.put, List.setIfInBounds_toArray, List.set_cons_zero, List.set_cons_succ])
    refine Goes.all (rs := [20]) (by kernel_rfl) (by simp) ?_
    refine Ups.cons (i := 20) (o := ?oo621) ?ho621 (fun KK hKK => ?stp621) Ups.nil
    case ho621 => (simp only [List.getElem?_toArray, List.getElem?_cons_succ, List.getElem?_cons_zero] <;> rfl)
    case stp621 =>
    go_simp
    refine hKK.out _ _ (Or.inr kZ) ?_
    clear hKK KK
    (try simp only [Act.put, List.setIfInBounds_toArray, List.set_cons_zero, List.set_cons_succ])
    refine Goes.done (by kernel_rfl) ?_ _
    refine NoPanic.normal ?_
    have kRZ := bx_setCells kR9 (A' := M) (by rw [HMZ.out]; rfl)
    have eM := HM.out
    have HRDZ := HK.out (w9.setCells bR 0 M.toList) (Kp.setCells (Kp.dr KK.out E9.out lsL) (by omega))
    have HRI : RI (w9.setCells bR 0 M.toList) ad l := owi_ri (own_keepC HO.out (fun b hb => setCells_block (by omega) _ _ _))
    have HBZ : Below w.heap.size w (w9.setCells bR 0 M.toList) := setCells_below lwR _ _ _ _ (B1.out.trans ((((DX3.out.trans E9.out)).below (Nat.le_of_lt zs1)).mono (by omega)))
    generalize hWZ : w9.setCells bR 0 M.toList = wz at kRZ HRDZ HRI HBZ ⊢
    clear hWZ
    rw [eM] at kRZ
    have HZ1 : Hid (SubR wz #[.int .i64 y0, .int .i64 y1, .bool y2, .int .i64 y3, .int .i64 y4, .int .i64 y5, .int .i64 s0, .int .i64 s1, .int .i64 s2, .slice (some ⟨fb, fo, none⟩) fn uc, .int .i64 c0, .int .i64 c1, .slice va sn vc, .int .i64 k0, .int .i64 k1, .int .i64 k2]) := ⟨_, HRDZ, HT.out⟩
    have HZ2 : Hid _ := HRI
    have HZ3 : Hid _ := HBZ
    have HKZ : Hid _ := kRZ
    clear HRDZ HRI HBZ kRZ kR9 fR9 k9 kZ eM
    go_wp2_with fail
    first
      | exact bodyPost_ret (das_res (by rfl) (by rfl) (by rfl) HKZ.out) rfl ⟨_, _, l, ad, lc, rfl, HZ1.out, HZ2.out, hl4, HZ3.out⟩
      | exact bodyPost_ret (das_res (by rfl) (by rfl) (by rfl) HKZ.out) rfl ⟨_, _, l, ad, ⟨lc, rfl⟩, HZ1.out, HZ2.out, hl4, HZ3.out⟩
end Go.Proofs.Ytebgibjokljlbaa
