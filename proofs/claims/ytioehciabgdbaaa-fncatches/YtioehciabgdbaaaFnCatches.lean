/- Proved: whatever bytes come in, the law on catches answers true, and the bytes are as they were; no condition. -/
import Derived.Test.YtioehciabgdbaaaRows
import Derived.WalkKit
import Derived.ProofKit
import Derived.OpenShut
import Derived.ShutString
import Derived.ChangeOld
import Derived.Below
import Derived.Test.YtioehciabgdbaaaBase
import Derived.Test.YtioehciabgdbaaaBytes
import Derived.Test.YtioehciabgdbaaaMem
import Derived.Test.YtioehciabgdbaaaMemOpen
import Derived.Test.YtioehciabgdbaaaMemRow
import Derived.Test.YtioehciabgdbaaaHBase
import Derived.Test.YtioehciabgdbaaaHSpan
import Derived.Test.YtioehciabgdbaaaHCatch
import Derived.Test.YtioehciabgdbaaaHOpen0
import Derived.Test.YtioehciabgdbaaaHOpenC
import Derived.Test.YtioehciabgdbaaaBox
import Derived.Test.YtioehciabgdbaaaSubBox
import Derived.Test.YtioehciabgdbaaaAgg
import Derived.Test.YtioehciabgdbaaaNum
import Derived.Test.YtioehciabgdbaaaNumWalks
import Derived.Test.YtioehciabgdbaaaUnwrap
import Derived.Test.YtioehciabgdbaaaCatDef
import Derived.Test.YtioehciabgdbaaaCatFacts
import Derived.Test.YtioehciabgdbaaaMemApp
import Derived.Test.YtioehciabgdbaaaHMark
import Derived.Test.YtioehciabgdbaaaMSpan
import Derived.Test.YtioehciabgdbaaaMCatch
import Derived.Test.YtioehciabgdbaaaSpanRow
import Derived.Test.YtioehciabgdbaaaCatSpare
import Derived.Test.YtioehciabgdbaaaCatSpec
import Derived.Test.YtioehciabgdbaaaCatImpl
import Derived.Test.YtioehciabgdbaaaCatCount
import Derived.Test.YtioehciabgdbaaaCatSort
import Derived.Test.YtioehciabgdbaaaCatCopy
import Derived.Test.YtioehciabgdbaaaCatTake
import Derived.Test.YtioehciabgdbaaaCatTake2
import Derived.Test.YtioehciabgdbaaaCatTakeS
import Derived.Test.YtioehciabgdbaaaCatTakeM
import Derived.Test.YtioehciabgdbaaaRegionU
import Derived.Test.YtioehciabgdbaaaRegionQ
import Derived.Test.YtioehciabgdbaaaCatTakeL
import Derived.Test.YtioehciabgdbaaaCatTakeT
import Derived.Test.YtioehciabgdbaaaAppBytes
import Derived.Test.YtioehciabgdbaaaApp
import Derived.Test.YtioehciabgdbaaaDraws
import Derived.Test.YtioehciabgdbaaaDrawsD
import Derived.Test.YtioehciabgdbaaaDrawCat0
import Derived.Test.YtioehciabgdbaaaDrawCatL
import Derived.Test.YtioehciabgdbaaaDrawTake
namespace Go.Proofs.Ytioehciabgdbaaa.fnCatches
open Go.ChangeShapes Go.WideShapes Go.ChangeAt Go.RowKit
open Go.ChangeMaps (open_string shut_string)
set_option linter.unusedVariables false

theorem own : ownKnob Try.prog.godebug = none := by kernel_rfl
theorem laidOut : laidOutB Try.prog = true := by kernel_rfl

/-- WHAT THE WALK IS TOLD OF A SLICE OF INTEGERS THAT CAME IN: it is nil; or it leads to a row of 'cap' cells, the numbers 'zs' (the first 'len' are its elements, the rest its spare room), each fitting its kind. -/
def IsRow (k : IntKind) (w : World) (a : Option Addr) (len cap : Nat) (zs : List Int) : Prop :=
  (a = none ∧ len = 0 ∧ cap = 0 ∧ zs = []) ∨
  ∃ x, a = some x ∧ len ≤ cap ∧ cap ≤ maxLen ∧ zs.length = cap ∧ (∀ i, i < zs.length → w.cell? (x.add i) = some (.int k (zs.getD i 0))) ∧ ∀ n ∈ zs, (Lit.int k n).wf = true

set_option linter.unusedSimpArgs false
theorem hfld0 (c0 c1 c2 c3 c4 : Value) (w : World) : Sem.run Try.prog (Instr.field 61 (.agg #[c0, c1, c2, c3, c4]) 0) w = .ok c0 w := by
  simp [Instr.field, asAgg, part, go_sem]
theorem hfldI (c0 c1 : Value) (w : World) : Sem.run Try.prog (Instr.field 35 (.agg #[c0, c1]) 1) w = .ok c1 w := by
  simp [Instr.field, asAgg, part, go_sem]
theorem cat_form {w : World} {B : Nat} {x : DCatch} {a b u : Value} (h : shCatchO.Rd w B x [a, b, u]) : ∃ a c, u = .slice a x.2.2.1.length c := by
  obtain ⟨v, e, r, -, -⟩ := rd_CatchO h
  simp only [List.cons.injEq, and_true] at e
  obtain ⟨-, -, rfl⟩ := e
  obtain ⟨a, c, e⟩ := row_formO r
  simp only [List.cons.injEq, and_true] at e
  exact ⟨a, c, e⟩
set_option maxHeartbeats 16000000 in
set_option maxRecDepth 8000 in
theorem walk (a0 : Option Addr) (len0 cap0 : Nat) (z0 : List Int) (w : World) (w0 : IsRow .u8 w a0 len0 cap0 z0) :
    Calls Try.prog 6 #[.slice a0 len0 cap0] w fun e w' => e = .returned (.bool true) ∧ Below w.heap.size w w' := by
  have r0 : BRow .u8 w a0 len0 cap0 z0 := w0
  have hl := r0.lt
  by_cases hbig : 1048576 < len0
  · clear r0 hl w0
    go_enter Try.func6, Try.ntmps6
    go_wp2
    go_ret
    exact ⟨rfl, by go_grown⟩
  · clear w0
    go_enter Try.func6, Try.ntmps6
    go_wp2_with (first | (go_at_call 8; go_in) | fail)
    refine (dTake a0 len0 cap0 z0 w r0 hl).mono ?_
    rintro e w1 ⟨x, va, n, vc, aa, sz, rfl, hfc, ⟨ha0, ha1⟩, ⟨hs0, hs1⟩, b1⟩
    clear r0 hl
    have hrd := hfc.rd
    have hT := hfc.tot
    have HTO : Hid (caF x = 0 → ToB x) := hfc.tb
    have HX1 : Hid (-1 ≤ x.2.1 ∧ x.2.1 ≤ 2000000) := hfc.w1
    have HI : Hid (∀ W, Below w1.heap.size w1 W → Calls Try.prog 30 #[.agg #[.int .i64 x.1, .int .i64 x.2.1, .slice va n vc], .int .i64 aa, .int .i64 sz] W fun e w' => ∃ u, e = .returned (.agg #[.int .i64 (tkC x aa sz), .bool (tkB x aa sz), .int .i64 (tkV x aa sz).1, .int .i64 (tkV x aa sz).2.1, u]) ∧ Own w' W.heap.size w'.heap.size shCatchO (tkV x aa sz) [.int .i64 (tkV x aa sz).1, .int .i64 (tkV x aa sz).2.1, u] ∧ Below W.heap.size W w') := fun W h => iTakeSpan x _ aa sz W w1.heap.size (Sh.Rd.below hrd (Nat.le_refl _) h) h.size hT
    have HS : Hid (∀ W, Below w1.heap.size w1 W → Calls Try.prog 31 #[.agg #[.int .i64 x.1, .int .i64 x.2.1, .slice va n vc], .int .i64 aa, .int .i64 sz] W fun e w' => ∃ u, e = .returned (.agg #[.int .i64 (tkC x aa sz), .bool (tkB x aa sz), .int .i64 (tkV x aa sz).1, .int .i64 (tkV x aa sz).2.1, u]) ∧ Own w' W.heap.size w'.heap.size shCatchO (tkV x aa sz) [.int .i64 (tkV x aa sz).1, .int .i64 (tkV x aa sz).2.1, u] ∧ Below W.heap.size W w') := fun W h => sTakeSpan x _ aa sz W w1.heap.size (Sh.Rd.below hrd (Nat.le_refl _) h) h.size hT
    have HCX : Hid (∀ W, Below w1.heap.size w1 W → Calls Try.prog 32 #[.agg #[.int .i64 x.1, .int .i64 x.2.1, .slice va n vc]] W fun e w' => e = .returned (.agg #[.int .i64 (caF x), .int .i64 (cauV x)]) ∧ Below W.heap.size W w') := fun W h => iCaughtOf x _ W w1.heap.size (Sh.Rd.below hrd (Nat.le_refl _) h) h.size hT
    have HB1 : Hid (Below w.heap.size w w1) := b1
    have hf0 := hfld0
    have hfI := hfldI
    clear hrd hT hfc b1
    by_cases hC : tkC x aa sz = 0
    case neg =>
      have hC' : (tkC x aa sz != 0) = true := by simp [hC]
      clear HCX hC hfI HTO HX1
      generalize tkC x aa sz = C at *
      generalize tkV x aa sz = V at *
      generalize tkB x aa sz = FR at *
      generalize x.1 = y0 at *
      generalize x.2.1 = y1 at *
      go_wp2_with fail
      refine (HI.out _ ((Below.refl _ _).alloc (Nat.le_refl _) _)).mono ?_
      rintro e w2 ⟨u, rfl, ho, hb⟩
      obtain ⟨ua, uc, rfl⟩ := cat_form (ho.rd (Nat.le_refl _))
      generalize V.2.2.1.length = un at *
      generalize V.1 = v0 at *
      generalize V.2.1 = v1 at *
      have k2 := bx_new hb
      obtain ⟨hc, z2⟩ := bl_new hb
      have D2 : Hid (Below w1.heap.size w1 w2) := hc
      clear hb hc ho HI
      go_wp2_with fail
      go_region_with (go_at_call 31; refine (HS.out _ (by have h := D2.out; go_grown)).mono ?_; rintro e w3 ⟨u3, rfl, ho3, hb⟩; obtain ⟨ua3, uc3, rfl⟩ := cat_form (ho3.rd (Nat.le_refl _)); clear ho3; have hd : Below w2.heap.size w2 w3 := (((Below.refl w2.heap.size w2).alloc (Nat.le_refl _) _).drew).trans (hb.mono (by simp)); have q3 : ∀ o, w3.cell? ⟨w2.heap.size, o, none⟩ = (#[.int .i64 C, .bool FR, .int .i64 v0, .int .i64 v1, .slice ua un uc] : Array Value)[o]? := (fun o => (hb.cell (p := ⟨w2.heap.size, o, none⟩) (by simp)).trans (by simp [go_sem])); have k3 := bx_below k2 z2 hd; have D3 : Hid (Below w1.heap.size w1 w3) := D2.out.trans (hd.mono D2.out.size); clear hb hd)
      all_goals (go_wp2_with fail; go_ret; exact ⟨rfl, HB1.out.trans (D3.out.mono HB1.out.size)⟩)
    obtain ⟨g0, -, -⟩ := tk_code hC
    have hT := HTO.out g0
    obtain ⟨-, -, t3, t4, t5⟩ := tk_all hC hT
    obtain ⟨s1, s2, s3, s4, s5⟩ := tk_sum hC hT
    obtain ⟨u1, u2⟩ := tk_again hC hT
    obtain ⟨q1, q2⟩ := plq_next t4
    have hty := tk_tot x aa sz
    have htz := tk_tot (tkV x aa sz) aa sz
    rw [hC] at HI
    rw [g0] at HCX
    clear hC HS hf0 HTO hT t5
    generalize hy : tkV x aa sz = y at *
    clear hy
    generalize tkB x aa sz = FR at *
    have HFR : Hid _ := s3
    clear s3 g0
    have HCY : Hid (∀ (W : World) (u : Value), shCatch.Rd W W.heap.size y [.int .i64 y.1, .int .i64 y.2.1, u] → Calls Try.prog 32 #[.agg #[.int .i64 y.1, .int .i64 y.2.1, u]] W fun e w' => e = .returned (.agg #[.int .i64 0, .int .i64 (cauV y)]) ∧ Below W.heap.size W w') := fun W u h => by have hq := iCaughtOf y u W W.heap.size h (Nat.le_refl _) hty; rw [t4] at hq; exact hq
    have HFY : Hid (∀ (W : World) (u : Value), shCatch.Rd W W.heap.size y [.int .i64 y.1, .int .i64 y.2.1, u] → Calls Try.prog 35 #[.agg #[.int .i64 y.1, .int .i64 y.2.1, u]] W fun e w' => e = .returned (.int .i64 0) ∧ Below W.heap.size W w') := fun W u h => by have hq := iCatchFault y u W W.heap.size h (Nat.le_refl _) hty; rw [t4] at hq; exact hq
    have HAY : Hid (∀ (W : World) (u : Value), shCatch.Rd W W.heap.size y [.int .i64 y.1, .int .i64 y.2.1, u] → Calls Try.prog 34 #[.agg #[.int .i64 y.1, .int .i64 y.2.1, u]] W fun e w' => e = .returned (.agg #[.int .i64 0, .int .i64 (ackqV y)]) ∧ Below W.heap.size W w') := fun W u h => by have hq := iAckOf y u W W.heap.size h (Nat.le_refl _) hty; rw [t4] at hq; exact hq
    have HPY : Hid (∀ (W : World) (u : Value), shCatch.Rd W W.heap.size y [.int .i64 y.1, .int .i64 y.2.1, u] → Calls Try.prog 33 #[.agg #[.int .i64 y.1, .int .i64 y.2.1, u], .int .i64 (ackqV y)] W fun e w' => e = .returned (.agg #[.int .i64 0, .int .i64 y.2.1]) ∧ Below W.heap.size W w') := fun W u h => by have hq := iPlaceOfSeq y u (ackqV y) W W.heap.size h (Nat.le_refl _) hty; rw [q1, q2] at hq; exact hq
    have HTY : Hid (∀ (W : World) (u : Value), shCatch.Rd W W.heap.size y [.int .i64 y.1, .int .i64 y.2.1, u] → Calls Try.prog 30 #[.agg #[.int .i64 y.1, .int .i64 y.2.1, u], .int .i64 aa, .int .i64 sz] W fun e w' => ∃ u, e = .returned (.agg #[.int .i64 0, .bool false, .int .i64 (tkV y aa sz).1, .int .i64 (tkV y aa sz).2.1, u]) ∧ Own w' W.heap.size w'.heap.size shCatchO (tkV y aa sz) [.int .i64 (tkV y aa sz).1, .int .i64 (tkV y aa sz).2.1, u] ∧ Below W.heap.size W w') := fun W u h => by have hq := iTakeSpan y u aa sz W W.heap.size h (Nat.le_refl _) hty; rw [u1, u2] at hq; exact hq
    clear t4 q1 q2 u1 u2 hty
    generalize cauV x = c0 at *
    generalize cauV y = c1 at *
    generalize ackqV y = qq at *
    generalize tkV y aa sz = v at *
    have hx1 := HX1.out
    clear HX1
    generalize x.1 = x0 at *
    generalize x.2.1 = x1 at *
    go_wp2_with fail
    refine (HI.out _ ((Below.refl _ _).alloc (Nat.le_refl _) _)).mono ?_
    rintro e w2 ⟨u, rfl, ho, hb⟩
    clear HI
    have HO0 : Hid (∀ W, Below w2.heap.size w2 W → shCatch.Rd W W.heap.size y [.int .i64 y.1, .int .i64 y.2.1, u]) := fun W hW => Sh.Rd.mono hW.size _ _ _ ((rdO_Catch (ho.rd (Nat.le_refl _))).below (Nat.le_refl _) hW)
    obtain ⟨ua, uc, rfl⟩ := cat_form (ho.rd (Nat.le_refl _))
    have HO : Hid _ := HO0.out
    clear HO0
    generalize y.2.2.1.length = un at *
    generalize y.1 = y0 at *
    generalize y.2.1 = y1 at *
    have kX := bx_new hb
    obtain ⟨hc, zX⟩ := bl_new hb
    have D1 : Hid (Below w1.heap.size w1 w2) := hc
    have HB : Hid (Below w.heap.size w w2) := HB1.out.trans (hc.mono HB1.out.size)
    have D2 : Hid (Below w2.heap.size w2 w2) := Below.refl _ _
    clear hb hc ho HB1
    obtain ⟨bX, hbX⟩ : ∃ q, q = w1.heap.size := ⟨_, rfl⟩
    have hD1 := D1.out
    clear D1
    have D1 : Hid (Below w1.heap.size w1 w2) := hD1
    clear hD1
    rw [← hbX] at kX zX ⊢
    clear hbX
    have ha3 : IntKind.i64.wrap (c0 + sz) = c0 + sz := by simp only [IntKind.wrap, IntKind.bits, IntKind.signed]; simp; omega
    clear ha0 ha1 hs0 hs1
    go_upto_region 5 with fail
    have kY : ∀ o, (w2.alloc (.cells #[.int .i64 0, .bool FR, .int .i64 y0, .int .i64 y1, .slice ua un uc] 61)).cell? ⟨w2.heap.size, o, none⟩ = (#[.int .i64 0, .bool FR, .int .i64 y0, .int .i64 y1, .slice ua un uc] : Array Value)[o]? := bx_al w2 _ _
    have hb : Below w2.heap.size w2 (w2.alloc (.cells #[.int .i64 0, .bool FR, .int .i64 y0, .int .i64 y1, .slice ua un uc] 61)) := (Below.refl _ _).alloc (Nat.le_refl _) _
    have zY : w2.heap.size < (w2.alloc (.cells #[.int .i64 0, .bool FR, .int .i64 y0, .int .i64 y1, .slice ua un uc] 61)).heap.size := by simp
    generalize hWW : (w2.alloc (.cells #[.int .i64 0, .bool FR, .int .i64 y0, .int .i64 y1, .slice ua un uc] 61)) = w3 at kY hb zY ⊢
    clear hWW
    obtain ⟨bY, hq⟩ : ∃ q, q = w2.heap.size := ⟨_, rfl⟩
    rw [← hq] at zY kY ⊢
    clear hq
    replace D1 : Hid (Below w1.heap.size w1 w3) := D1.out.trans (hb.mono D1.out.size)
    replace D2 : Hid (Below w2.heap.size w2 w3) := D2.out.trans (hb.mono D2.out.size)
    replace kX := bx_below kX zX hb
    replace zX := Nat.lt_of_lt_of_le zX hb.size
    replace HB : Hid (Below w.heap.size w w3) := HB.out.trans (hb.mono HB.out.size)
    clear hb
    go_wp2_with fail
    refine (HCX.out _ D1.out).mono ?_
    rintro e w4 ⟨rfl, hb⟩
    replace D1 : Hid (Below w1.heap.size w1 w4) := D1.out.trans (hb.mono D1.out.size)
    replace D2 : Hid (Below w2.heap.size w2 w4) := D2.out.trans (hb.mono D2.out.size)
    replace kX := bx_below kX zX hb
    replace zX := Nat.lt_of_lt_of_le zX hb.size
    replace kY := bx_below kY zY hb
    replace zY := Nat.lt_of_lt_of_le zY hb.size
    replace HB : Hid (Below w.heap.size w w4) := HB.out.trans (hb.mono HB.out.size)
    clear hb
    clear HCX
    go_upto_region 8 with fail
    have kP : ∀ o, (w4.alloc (.cells #[.int .i64 0, .int .i64 c0] 35)).cell? ⟨w4.heap.size, o, none⟩ = (#[.int .i64 0, .int .i64 c0] : Array Value)[o]? := bx_al w4 _ _
    have hb : Below w4.heap.size w4 (w4.alloc (.cells #[.int .i64 0, .int .i64 c0] 35)) := (Below.refl _ _).alloc (Nat.le_refl _) _
    have zP : w4.heap.size < (w4.alloc (.cells #[.int .i64 0, .int .i64 c0] 35)).heap.size := by simp
    generalize hWW : (w4.alloc (.cells #[.int .i64 0, .int .i64 c0] 35)) = w5 at kP hb zP ⊢
    clear hWW
    obtain ⟨bP, hq⟩ : ∃ q, q = w4.heap.size := ⟨_, rfl⟩
    rw [← hq] at zP kP ⊢
    clear hq
    replace D1 : Hid (Below w1.heap.size w1 w5) := D1.out.trans (hb.mono D1.out.size)
    replace D2 : Hid (Below w2.heap.size w2 w5) := D2.out.trans (hb.mono D2.out.size)
    replace kX := bx_below kX zX hb
    replace zX := Nat.lt_of_lt_of_le zX hb.size
    replace kY := bx_below kY zY hb
    replace zY := Nat.lt_of_lt_of_le zY hb.size
    replace HB : Hid (Below w.heap.size w w5) := HB.out.trans (hb.mono HB.out.size)
    clear hb
    go_wp2_with fail
    refine (HCY.out _ _ (HO.out _ D2.out)).mono ?_
    rintro e w6 ⟨rfl, hb⟩
    replace D1 : Hid (Below w1.heap.size w1 w6) := D1.out.trans (hb.mono D1.out.size)
    replace D2 : Hid (Below w2.heap.size w2 w6) := D2.out.trans (hb.mono D2.out.size)
    replace kX := bx_below kX zX hb
    replace zX := Nat.lt_of_lt_of_le zX hb.size
    replace kY := bx_below kY zY hb
    replace zY := Nat.lt_of_lt_of_le zY hb.size
    replace kP := bx_below kP zP hb
    replace zP := Nat.lt_of_lt_of_le zP hb.size
    replace HB : Hid (Below w.heap.size w w6) := HB.out.trans (hb.mono HB.out.size)
    clear hb
    clear HCY
    go_upto_region 9 with fail
    have kQ : ∀ o, (w6.alloc (.cells #[.int .i64 0, .int .i64 c1] 35)).cell? ⟨w6.heap.size, o, none⟩ = (#[.int .i64 0, .int .i64 c1] : Array Value)[o]? := bx_al w6 _ _
    have hb : Below w6.heap.size w6 (w6.alloc (.cells #[.int .i64 0, .int .i64 c1] 35)) := (Below.refl _ _).alloc (Nat.le_refl _) _
    have zQ : w6.heap.size < (w6.alloc (.cells #[.int .i64 0, .int .i64 c1] 35)).heap.size := by simp
    generalize hWW : (w6.alloc (.cells #[.int .i64 0, .int .i64 c1] 35)) = w7 at kQ hb zQ ⊢
    clear hWW
    obtain ⟨bQ, hq⟩ : ∃ q, q = w6.heap.size := ⟨_, rfl⟩
    rw [← hq] at zQ kQ ⊢
    clear hq
    replace D1 : Hid (Below w1.heap.size w1 w7) := D1.out.trans (hb.mono D1.out.size)
    replace D2 : Hid (Below w2.heap.size w2 w7) := D2.out.trans (hb.mono D2.out.size)
    replace kX := bx_below kX zX hb
    replace zX := Nat.lt_of_lt_of_le zX hb.size
    replace kY := bx_below kY zY hb
    replace zY := Nat.lt_of_lt_of_le zY hb.size
    replace kP := bx_below kP zP hb
    replace zP := Nat.lt_of_lt_of_le zP hb.size
    replace HB : Hid (Below w.heap.size w w7) := HB.out.trans (hb.mono HB.out.size)
    clear hb
    go_wp2_with fail
    refine (HTY.out _ _ (HO.out _ D2.out)).mono ?_
    rintro e w8 ⟨u8, rfl, ho8, hb⟩
    clear HTY
    replace D1 : Hid (Below w1.heap.size w1 w8) := D1.out.trans (hb.mono D1.out.size)
    replace D2 : Hid (Below w2.heap.size w2 w8) := D2.out.trans (hb.mono D2.out.size)
    replace kX := bx_below kX zX hb
    replace zX := Nat.lt_of_lt_of_le zX hb.size
    replace kY := bx_below kY zY hb
    replace zY := Nat.lt_of_lt_of_le zY hb.size
    replace kP := bx_below kP zP hb
    replace zP := Nat.lt_of_lt_of_le zP hb.size
    replace kQ := bx_below kQ zQ hb
    replace zQ := Nat.lt_of_lt_of_le zQ hb.size
    replace HB : Hid (Below w.heap.size w w8) := HB.out.trans (hb.mono HB.out.size)
    clear hb
    obtain ⟨ra, rc, rfl⟩ := cat_form (ho8.rd (Nat.le_refl _))
    clear ho8
    generalize v.2.2.1.length = rn at *
    generalize v.1 = r0 at *
    generalize v.2.1 = r1 at *
    go_upto_region 10 with fail
    have kR : ∀ o, (w8.alloc (.cells #[.int .i64 0, .bool false, .int .i64 r0, .int .i64 r1, .slice ra rn rc] 61)).cell? ⟨w8.heap.size, o, none⟩ = (#[.int .i64 0, .bool false, .int .i64 r0, .int .i64 r1, .slice ra rn rc] : Array Value)[o]? := bx_al w8 _ _
    have hb : Below w8.heap.size w8 (w8.alloc (.cells #[.int .i64 0, .bool false, .int .i64 r0, .int .i64 r1, .slice ra rn rc] 61)) := (Below.refl _ _).alloc (Nat.le_refl _) _
    have zR : w8.heap.size < (w8.alloc (.cells #[.int .i64 0, .bool false, .int .i64 r0, .int .i64 r1, .slice ra rn rc] 61)).heap.size := by simp
    generalize hWW : (w8.alloc (.cells #[.int .i64 0, .bool false, .int .i64 r0, .int .i64 r1, .slice ra rn rc] 61)) = w9 at kR hb zR ⊢
    clear hWW
    obtain ⟨bR, hq⟩ : ∃ q, q = w8.heap.size := ⟨_, rfl⟩
    rw [← hq] at zR kR ⊢
    clear hq
    replace D1 : Hid (Below w1.heap.size w1 w9) := D1.out.trans (hb.mono D1.out.size)
    replace D2 : Hid (Below w2.heap.size w2 w9) := D2.out.trans (hb.mono D2.out.size)
    replace kX := bx_below kX zX hb
    replace zX := Nat.lt_of_lt_of_le zX hb.size
    replace kY := bx_below kY zY hb
    replace zY := Nat.lt_of_lt_of_le zY hb.size
    replace kP := bx_below kP zP hb
    replace zP := Nat.lt_of_lt_of_le zP hb.size
    replace kQ := bx_below kQ zQ hb
    replace zQ := Nat.lt_of_lt_of_le zQ hb.size
    replace HB : Hid (Below w.heap.size w w9) := HB.out.trans (hb.mono HB.out.size)
    clear hb
    go_cut [10] (fun u wx => ∃ rb : Nat, u = .pointer (some ⟨rb, 0, none⟩) ∧ (∀ o, wx.cell? ⟨rb, o, none⟩ = (#[.int .i64 0, .int .i64 y1] : Array Value)[o]?) ∧ w9.heap.size ≤ rb ∧ rb < wx.heap.size ∧ Hid (Below w9.heap.size w9 wx))
    case first =>
      refine wp_region_noPanic ?_
      refine Goes.start (S := fun w' => Below w9.heap.size w9 w') (z := 100) (by kernel_rfl) ?_
      have HS0 : Hid (Below w9.heap.size w9 w9.drew) := Below.drew (Below.refl _ _)
      refine Goes.take (i := 0) (oi := ?oi2) (x := ?vx2) ?ho2 (by kernel_rfl) (by kernel_rfl) (by kernel_rfl) (by kernel_rfl) (fun _ _ _ h => h) (Or.inl ⟨?hw2, ?hy2⟩) HS0.out ?rest2
      case ho2 => (simp only [List.getElem?_toArray, List.getElem?_cons_zero] <;> rfl)
      case hw2 => rfl
      case hy2 => (intro w' hSw; have jY := fun o => (hSw.cell (p := ⟨bY, o, none⟩) zY).trans (kY o); go_simp; (try with_reducible rfl))
      case rest2 =>
      (try simp only [Act.put, List.setIfInBounds_toArray, List.set_cons_zero, List.set_cons_succ])
      refine Goes.take (i := 1) (oi := ?oi3) (x := ?vx3) ?ho3 (by kernel_rfl) (by kernel_rfl) (by kernel_rfl) (by kernel_rfl) (fun _ _ _ h => h) (Or.inl ⟨?hw3, ?hy3⟩) HS0.out ?rest3
      case ho3 => (simp only [List.getElem?_toArray, List.getElem?_cons_succ, List.getElem?_cons_zero] <;> rfl)
      case hw3 => rfl
      case hy3 => (intro w' hSw; have jY := fun o => (hSw.cell (p := ⟨bY, o, none⟩) zY).trans (kY o); go_simp; (try with_reducible rfl))
      case rest3 =>
      (try simp only [Act.put, List.setIfInBounds_toArray, List.set_cons_zero, List.set_cons_succ])
      refine Goes.take (i := 2) (oi := ?oi4) (x := ?vx4) ?ho4 (by kernel_rfl) (by kernel_rfl) (by kernel_rfl) (by kernel_rfl) (fun _ _ _ h => h) (Or.inl ⟨?hw4, ?hy4⟩) HS0.out ?rest4
      case ho4 => (simp only [List.getElem?_toArray, List.getElem?_cons_succ, List.getElem?_cons_zero] <;> rfl)
      case hw4 => rfl
      case hy4 => (intro w' hSw; have jY := fun o => (hSw.cell (p := ⟨bY, o, none⟩) zY).trans (kY o); go_simp; (try with_reducible rfl))
      case rest4 =>
      (try simp only [Act.put, List.setIfInBounds_toArray, List.set_cons_zero, List.set_cons_succ])
      refine Goes.take (i := 3) (oi := ?oi5) (x := ?vx5) ?ho5 (by kernel_rfl) (by kernel_rfl) (by kernel_rfl) (by kernel_rfl) (fun _ _ _ h => h) (Or.inl ⟨?hw5, ?hy5⟩) HS0.out ?rest5
      case ho5 => (simp only [List.getElem?_toArray, List.getElem?_cons_succ, List.getElem?_cons_zero] <;> rfl)
      case hw5 => rfl
      case hy5 => (intro w' hSw; have jY := fun o => (hSw.cell (p := ⟨bY, o, none⟩) zY).trans (kY o); go_simp; (try with_reducible rfl))
      case rest5 =>
      (try simp only [Act.put, List.setIfInBounds_toArray, List.set_cons_zero, List.set_cons_succ])
      refine Goes.all (rs := [4, 7]) (by kernel_rfl) (by simp) ?_
      refine Ups.cons (i := 4) (o := ?oo901) ?ho901 (fun KQ hKQ => ?stp901) (Ups.cons (i := 7) (o := ?oo902) ?ho902 (fun KQ hKQ => ?stp902) Ups.nil)
      case ho901 => (simp only [List.getElem?_toArray, List.getElem?_cons_succ, List.getElem?_cons_zero] <;> rfl)
      case ho902 => (simp only [List.getElem?_toArray, List.getElem?_cons_succ, List.getElem?_cons_zero] <;> rfl)
      case stp902 =>
        go_simp
        obtain ⟨v903, hv903⟩ : ∃ v, v = (w9.alloc (.cells #[.int .i64 0, .int .i64 0] 35)).drew := ⟨_, rfl⟩
        rw [← hv903]
        have b903 : Below w9.heap.size w9 v903 := by rw [hv903]; exact ((Below.refl _ _).alloc (Nat.le_refl _) _).drew
        have hrv903 : w9.heap.size < v903.heap.size := by rw [hv903]; simp
        have kE903 : Hid (∀ W, Below v903.heap.size v903 W → (∀ o, W.cell? ⟨w9.heap.size, o, none⟩ = (#[.int .i64 0, .int .i64 0] : Array Value)[o]?) ∧ (∀ o, W.frozen? ⟨w9.heap.size, o, none⟩ = false)) := fun W h => ⟨fun o => (h.cell (p := ⟨w9.heap.size, o, none⟩) hrv903).trans (by rw [hv903]; simp [go_sem]), fun o => (h.frozen (p := ⟨w9.heap.size, o, none⟩) hrv903).trans (by rw [hv903]; simp [go_sem])⟩
        have HS903 : Hid (Below w9.heap.size w9 v903) := (Below.refl w9.heap.size w9).trans (b903.mono (by have := (Below.refl w9.heap.size w9).size; omega))
        have hrb : w9.heap.size ≤ w9.heap.size := (Below.refl w9.heap.size w9).size
        clear hv903 b903
        refine hKQ.out _ _ (Or.inr HS903.out) ?_
        clear hKQ KQ
        (try simp only [Act.put, List.setIfInBounds_toArray, List.set_cons_zero, List.set_cons_succ])
        refine Goes.all (rs := [4]) (by kernel_rfl) (by simp) ?_
        refine Ups.cons (i := 4) (o := ?oo904) ?ho904 (fun KQ hKQ => ?stp904) Ups.nil
        case ho904 => (simp only [List.getElem?_toArray, List.getElem?_cons_succ, List.getElem?_cons_zero] <;> rfl)
        case stp904 =>
        go_simp
        go_at_call 34
        refine (HAY.out _ _ (HO.out _ (D2.out.trans (HS903.out.mono D2.out.size)))).mono ?_
        rintro e v905 ⟨rfl, hbq⟩
        have kE905 : Hid _ := fun W (h : Below v905.heap.size v905 W) => kE903.out W ((hbq.mono (Nat.le_refl _)).trans (h.mono hbq.size))
        have HS905 : Hid (Below w9.heap.size w9 v905) := HS903.out.trans (hbq.mono HS903.out.size)
        have hrv905 : w9.heap.size < v905.heap.size := Nat.lt_of_lt_of_le hrv903 hbq.size
        clear hbq
        dsimp only
        refine hKQ.out _ _ (Or.inr HS905.out) ?_
        clear hKQ KQ
        (try simp only [Act.put, List.setIfInBounds_toArray, List.set_cons_zero, List.set_cons_succ])
        refine Goes.take (i := 5) (oi := ?oi2907) (x := ?vx2907) ?ho2907 (by kernel_rfl) (by kernel_rfl) (by kernel_rfl) (by kernel_rfl) (fun _ _ _ h => h) (Or.inl ⟨?hw2907, ?hy2907⟩) HS905.out ?rest2907
        case ho2907 => (simp only [List.getElem?_toArray, List.getElem?_cons_succ, List.getElem?_cons_zero] <;> rfl)
        case hw2907 => rfl
        case hy2907 => (intro w' hSw; have jY := fun o => (hSw.cell (p := ⟨bY, o, none⟩) zY).trans (kY o); go_simp; (try with_reducible rfl))
        case rest2907 =>
        (try simp only [Act.put, List.setIfInBounds_toArray, List.set_cons_zero, List.set_cons_succ])
        refine Goes.all (rs := [6]) (by kernel_rfl) (by simp) ?_
        refine Ups.cons (i := 6) (o := ?oo907) ?ho907 (fun KQ hKQ => ?stp907) Ups.nil
        case ho907 => (simp only [List.getElem?_toArray, List.getElem?_cons_succ, List.getElem?_cons_zero] <;> rfl)
        case stp907 =>
        go_simp
        go_at_call 33
        refine (HPY.out _ _ (HO.out _ (D2.out.trans (HS905.out.mono D2.out.size)))).mono ?_
        rintro e v908 ⟨rfl, hbq⟩
        have kE908 : Hid _ := fun W (h : Below v908.heap.size v908 W) => kE905.out W ((hbq.mono (Nat.le_refl _)).trans (h.mono hbq.size))
        have HS908 : Hid (Below w9.heap.size w9 v908) := HS905.out.trans (hbq.mono HS905.out.size)
        have hrv908 : w9.heap.size < v908.heap.size := Nat.lt_of_lt_of_le hrv905 hbq.size
        clear hbq
        dsimp only
        refine hKQ.out _ _ (Or.inr HS908.out) ?_
        clear hKQ KQ
        (try simp only [Act.put, List.setIfInBounds_toArray, List.set_cons_zero, List.set_cons_succ])
        obtain ⟨NN, hNN⟩ : ∃ NN : Array Value, NN = #[.int .i64 0, .int .i64 y1] := ⟨_, rfl⟩
        have HNN : Hid _ := hNN
        have HNZ : Hid (NN.size = 2) := by show _ = _; rw [hNN]; rfl
        have HNI : Hid ((Try.prog.info? 35).map (·.size) = some NN.size) := by show _ = _; rw [HNZ.out]; exact (by kernel_rfl : (Try.prog.info? 35).map (·.size) = some 2)
        have HNO : Hid (NN.all (·.oneCell') = true) := by show _ = _; rw [hNN]; simp [Value.oneCell']
        clear hNN
        obtain ⟨kb, fb⟩ := kE908.out _ (Below.refl _ _)
        refine Goes.all (rs := [8]) (by kernel_rfl) (by simp) ?_
        refine Ups.cons (i := 8) (o := ?oo909) ?ho909 (fun KQ hKQ => ?stp909) Ups.nil
        case ho909 => (simp only [List.getElem?_toArray, List.getElem?_cons_succ, List.getElem?_cons_zero] <;> rfl)
        case stp909 =>
        rw [if_pos (by rfl)]
        refine wp_store_mid 35 _ _ rfl _ _ NN (by rfl) (by rw [HNN.out]; rfl) (bx_there kb fb (by rw [HNZ.out]; rfl)) HNI.out HNO.out ?_
        have HSZ : Hid (Below w9.heap.size w9 (v908.setCells w9.heap.size 0 NN.toList)) := setCells_below hrb _ _ _ _ HS908.out
        refine hKQ.out _ _ (Or.inr HSZ.out) ?_
        clear hKQ KQ
        (try simp only [Act.put, List.setIfInBounds_toArray, List.set_cons_zero, List.set_cons_succ])
        refine Goes.done (by kernel_rfl) ?_ _
        refine NoPanic.normal ?_
        have kZ := bx_setCells kb (A' := NN) (by rw [HNZ.out]; rfl)
        rw [HNN.out] at kZ
        have zZ : w9.heap.size < (v908.setCells w9.heap.size 0 NN.toList).heap.size := by rw [setCells_size]; exact hrv908
        rw [HNN.out] at HSZ zZ ⊢
        go_wp2_with fail
        go_meet
        exact ⟨_, rfl, kZ, hrb, zZ, HSZ⟩
      case stp901 =>
        go_simp
        go_at_call 34
        refine (HAY.out _ _ (HO.out _ (D2.out.trans (HS0.out.mono D2.out.size)))).mono ?_
        rintro e v910 ⟨rfl, hbq⟩
        have HS910 : Hid (Below w9.heap.size w9 v910) := HS0.out.trans (hbq.mono HS0.out.size)
        clear hbq
        dsimp only
        refine hKQ.out _ _ (Or.inr HS910.out) ?_
        clear hKQ KQ
        (try simp only [Act.put, List.setIfInBounds_toArray, List.set_cons_zero, List.set_cons_succ])
        refine Goes.take (i := 5) (oi := ?oi2912) (x := ?vx2912) ?ho2912 (by kernel_rfl) (by kernel_rfl) (by kernel_rfl) (by kernel_rfl) (fun _ _ _ h => h) (Or.inl ⟨?hw2912, ?hy2912⟩) HS910.out ?rest2912
        case ho2912 => (simp only [List.getElem?_toArray, List.getElem?_cons_succ, List.getElem?_cons_zero] <;> rfl)
        case hw2912 => rfl
        case hy2912 => (intro w' hSw; have jY := fun o => (hSw.cell (p := ⟨bY, o, none⟩) zY).trans (kY o); go_simp; (try with_reducible rfl))
        case rest2912 =>
        (try simp only [Act.put, List.setIfInBounds_toArray, List.set_cons_zero, List.set_cons_succ])
        refine Goes.all (rs := [6, 7]) (by kernel_rfl) (by simp) ?_
        refine Ups.cons (i := 6) (o := ?oo912) ?ho912 (fun KQ hKQ => ?stp912) (Ups.cons (i := 7) (o := ?oo913) ?ho913 (fun KQ hKQ => ?stp913) Ups.nil)
        case ho912 => (simp only [List.getElem?_toArray, List.getElem?_cons_succ, List.getElem?_cons_zero] <;> rfl)
        case ho913 => (simp only [List.getElem?_toArray, List.getElem?_cons_succ, List.getElem?_cons_zero] <;> rfl)
        case stp913 =>
          go_simp
          obtain ⟨v914, hv914⟩ : ∃ v, v = v910.alloc (.cells #[.int .i64 0, .int .i64 0] 35) := ⟨_, rfl⟩
          rw [← hv914]
          have b914 : Below v910.heap.size v910 v914 := by rw [hv914]; exact (Below.refl _ _).alloc (Nat.le_refl _) _
          have hrv914 : v910.heap.size < v914.heap.size := by rw [hv914]; simp
          have kE914 : Hid (∀ W, Below v914.heap.size v914 W → (∀ o, W.cell? ⟨v910.heap.size, o, none⟩ = (#[.int .i64 0, .int .i64 0] : Array Value)[o]?) ∧ (∀ o, W.frozen? ⟨v910.heap.size, o, none⟩ = false)) := fun W h => ⟨fun o => (h.cell (p := ⟨v910.heap.size, o, none⟩) hrv914).trans (by rw [hv914]; simp [go_sem]), fun o => (h.frozen (p := ⟨v910.heap.size, o, none⟩) hrv914).trans (by rw [hv914]; simp [go_sem])⟩
          have HS914 : Hid (Below w9.heap.size w9 v914) := HS910.out.trans (b914.mono (by have := HS910.out.size; omega))
          have hrb : w9.heap.size ≤ v910.heap.size := HS910.out.size
          clear hv914 b914
          refine hKQ.out _ _ (Or.inr HS914.out) ?_
          clear hKQ KQ
          (try simp only [Act.put, List.setIfInBounds_toArray, List.set_cons_zero, List.set_cons_succ])
          refine Goes.all (rs := [6]) (by kernel_rfl) (by simp) ?_
          refine Ups.cons (i := 6) (o := ?oo915) ?ho915 (fun KQ hKQ => ?stp915) Ups.nil
          case ho915 => (simp only [List.getElem?_toArray, List.getElem?_cons_succ, List.getElem?_cons_zero] <;> rfl)
          case stp915 =>
          go_simp
          go_at_call 33
          refine (HPY.out _ _ (HO.out _ (D2.out.trans (HS914.out.mono D2.out.size)))).mono ?_
          rintro e v916 ⟨rfl, hbq⟩
          have kE916 : Hid _ := fun W (h : Below v916.heap.size v916 W) => kE914.out W ((hbq.mono (Nat.le_refl _)).trans (h.mono hbq.size))
          have HS916 : Hid (Below w9.heap.size w9 v916) := HS914.out.trans (hbq.mono HS914.out.size)
          have hrv916 : v910.heap.size < v916.heap.size := Nat.lt_of_lt_of_le hrv914 hbq.size
          clear hbq
          dsimp only
          refine hKQ.out _ _ (Or.inr HS916.out) ?_
          clear hKQ KQ
          (try simp only [Act.put, List.setIfInBounds_toArray, List.set_cons_zero, List.set_cons_succ])
          obtain ⟨NN, hNN⟩ : ∃ NN : Array Value, NN = #[.int .i64 0, .int .i64 y1] := ⟨_, rfl⟩
          have HNN : Hid _ := hNN
          have HNZ : Hid (NN.size = 2) := by show _ = _; rw [hNN]; rfl
          have HNI : Hid ((Try.prog.info? 35).map (·.size) = some NN.size) := by show _ = _; rw [HNZ.out]; exact (by kernel_rfl : (Try.prog.info? 35).map (·.size) = some 2)
          have HNO : Hid (NN.all (·.oneCell') = true) := by show _ = _; rw [hNN]; simp [Value.oneCell']
          clear hNN
          obtain ⟨kb, fb⟩ := kE916.out _ (Below.refl _ _)
          refine Goes.all (rs := [8]) (by kernel_rfl) (by simp) ?_
          refine Ups.cons (i := 8) (o := ?oo917) ?ho917 (fun KQ hKQ => ?stp917) Ups.nil
          case ho917 => (simp only [List.getElem?_toArray, List.getElem?_cons_succ, List.getElem?_cons_zero] <;> rfl)
          case stp917 =>
          rw [if_pos (by rfl)]
          refine wp_store_mid 35 _ _ rfl _ _ NN (by rfl) (by rw [HNN.out]; rfl) (bx_there kb fb (by rw [HNZ.out]; rfl)) HNI.out HNO.out ?_
          have HSZ : Hid (Below w9.heap.size w9 (v916.setCells v910.heap.size 0 NN.toList)) := setCells_below hrb _ _ _ _ HS916.out
          refine hKQ.out _ _ (Or.inr HSZ.out) ?_
          clear hKQ KQ
          (try simp only [Act.put, List.setIfInBounds_toArray, List.set_cons_zero, List.set_cons_succ])
          refine Goes.done (by kernel_rfl) ?_ _
          refine NoPanic.normal ?_
          have kZ := bx_setCells kb (A' := NN) (by rw [HNZ.out]; rfl)
          rw [HNN.out] at kZ
          have zZ : v910.heap.size < (v916.setCells v910.heap.size 0 NN.toList).heap.size := by rw [setCells_size]; exact hrv916
          rw [HNN.out] at HSZ zZ ⊢
          go_wp2_with fail
          go_meet
          exact ⟨_, rfl, kZ, hrb, zZ, HSZ⟩
        case stp912 =>
          go_simp
          go_at_call 33
          refine (HPY.out _ _ (HO.out _ (D2.out.trans (HS910.out.mono D2.out.size)))).mono ?_
          rintro e v918 ⟨rfl, hbq⟩
          have HS918 : Hid (Below w9.heap.size w9 v918) := HS910.out.trans (hbq.mono HS910.out.size)
          clear hbq
          dsimp only
          refine hKQ.out _ _ (Or.inr HS918.out) ?_
          clear hKQ KQ
          (try simp only [Act.put, List.setIfInBounds_toArray, List.set_cons_zero, List.set_cons_succ])
          refine Goes.all (rs := [7]) (by kernel_rfl) (by simp) ?_
          refine Ups.cons (i := 7) (o := ?oo919) ?ho919 (fun KQ hKQ => ?stp919) Ups.nil
          case ho919 => (simp only [List.getElem?_toArray, List.getElem?_cons_succ, List.getElem?_cons_zero] <;> rfl)
          case stp919 =>
          go_simp
          obtain ⟨v920, hv920⟩ : ∃ v, v = v918.alloc (.cells #[.int .i64 0, .int .i64 0] 35) := ⟨_, rfl⟩
          rw [← hv920]
          have b920 : Below v918.heap.size v918 v920 := by rw [hv920]; exact (Below.refl _ _).alloc (Nat.le_refl _) _
          have hrv920 : v918.heap.size < v920.heap.size := by rw [hv920]; simp
          have kE920 : Hid (∀ W, Below v920.heap.size v920 W → (∀ o, W.cell? ⟨v918.heap.size, o, none⟩ = (#[.int .i64 0, .int .i64 0] : Array Value)[o]?) ∧ (∀ o, W.frozen? ⟨v918.heap.size, o, none⟩ = false)) := fun W h => ⟨fun o => (h.cell (p := ⟨v918.heap.size, o, none⟩) hrv920).trans (by rw [hv920]; simp [go_sem]), fun o => (h.frozen (p := ⟨v918.heap.size, o, none⟩) hrv920).trans (by rw [hv920]; simp [go_sem])⟩
          have HS920 : Hid (Below w9.heap.size w9 v920) := HS918.out.trans (b920.mono (by have := HS918.out.size; omega))
          have hrb : w9.heap.size ≤ v918.heap.size := HS918.out.size
          clear hv920 b920
          refine hKQ.out _ _ (Or.inr HS920.out) ?_
          clear hKQ KQ
          (try simp only [Act.put, List.setIfInBounds_toArray, List.set_cons_zero, List.set_cons_succ])
          obtain ⟨NN, hNN⟩ : ∃ NN : Array Value, NN = #[.int .i64 0, .int .i64 y1] := ⟨_, rfl⟩
          have HNN : Hid _ := hNN
          have HNZ : Hid (NN.size = 2) := by show _ = _; rw [hNN]; rfl
          have HNI : Hid ((Try.prog.info? 35).map (·.size) = some NN.size) := by show _ = _; rw [HNZ.out]; exact (by kernel_rfl : (Try.prog.info? 35).map (·.size) = some 2)
          have HNO : Hid (NN.all (·.oneCell') = true) := by show _ = _; rw [hNN]; simp [Value.oneCell']
          clear hNN
          obtain ⟨kb, fb⟩ := kE920.out _ (Below.refl _ _)
          refine Goes.all (rs := [8]) (by kernel_rfl) (by simp) ?_
          refine Ups.cons (i := 8) (o := ?oo921) ?ho921 (fun KQ hKQ => ?stp921) Ups.nil
          case ho921 => (simp only [List.getElem?_toArray, List.getElem?_cons_succ, List.getElem?_cons_zero] <;> rfl)
          case stp921 =>
          rw [if_pos (by rfl)]
          refine wp_store_mid 35 _ _ rfl _ _ NN (by rfl) (by rw [HNN.out]; rfl) (bx_there kb fb (by rw [HNZ.out]; rfl)) HNI.out HNO.out ?_
          have HSZ : Hid (Below w9.heap.size w9 (v920.setCells v918.heap.size 0 NN.toList)) := setCells_below hrb _ _ _ _ HS920.out
          refine hKQ.out _ _ (Or.inr HSZ.out) ?_
          clear hKQ KQ
          (try simp only [Act.put, List.setIfInBounds_toArray, List.set_cons_zero, List.set_cons_succ])
          refine Goes.done (by kernel_rfl) ?_ _
          refine NoPanic.normal ?_
          have kZ := bx_setCells kb (A' := NN) (by rw [HNZ.out]; rfl)
          rw [HNN.out] at kZ
          have zZ : v918.heap.size < (v920.setCells v918.heap.size 0 NN.toList).heap.size := by rw [setCells_size]; exact hrv920
          rw [HNN.out] at HSZ zZ ⊢
          go_wp2_with fail
          go_meet
          exact ⟨_, rfl, kZ, hrb, zZ, HSZ⟩
    case rest =>
    rename World => wz
    obtain ⟨rb, rfl, kZ, hrb, zZ, hb⟩ := hcut
    replace hb := hb.out
    clear HAY HPY
    replace D1 : Hid (Below w1.heap.size w1 wz) := D1.out.trans (hb.mono D1.out.size)
    replace D2 : Hid (Below w2.heap.size w2 wz) := D2.out.trans (hb.mono D2.out.size)
    replace kX := bx_below kX zX hb
    replace zX := Nat.lt_of_lt_of_le zX hb.size
    replace kY := bx_below kY zY hb
    replace zY := Nat.lt_of_lt_of_le zY hb.size
    replace kP := bx_below kP zP hb
    replace zP := Nat.lt_of_lt_of_le zP hb.size
    replace kQ := bx_below kQ zQ hb
    replace zQ := Nat.lt_of_lt_of_le zQ hb.size
    replace kR := bx_below kR zR hb
    replace zR := Nat.lt_of_lt_of_le zR hb.size
    replace HB : Hid (Below w.heap.size w wz) := HB.out.trans (hb.mono HB.out.size)
    clear hb
    by_cases hcc : c0 < c1
    · have hFR : FR = true := by rw [HFR.out]; simp [hcc]
      subst hFR
      have hge : c0 ≤ c1 := s1
      have hle : c1 ≤ c0 + sz := s2
      have hnx : x1 ≤ y1 := t3
      go_wp2_with fail
      refine (HFY.out _ _ (HO.out _ D2.out)).mono ?_
      rintro e wy ⟨rfl, hb⟩
      replace D1 : Hid (Below w1.heap.size w1 wy) := D1.out.trans (hb.mono D1.out.size)
      replace D2 : Hid (Below w2.heap.size w2 wy) := D2.out.trans (hb.mono D2.out.size)
      replace kX := bx_below kX zX hb
      replace zX := Nat.lt_of_lt_of_le zX hb.size
      replace kY := bx_below kY zY hb
      replace zY := Nat.lt_of_lt_of_le zY hb.size
      replace kP := bx_below kP zP hb
      replace zP := Nat.lt_of_lt_of_le zP hb.size
      replace kQ := bx_below kQ zQ hb
      replace zQ := Nat.lt_of_lt_of_le zQ hb.size
      replace kR := bx_below kR zR hb
      replace zR := Nat.lt_of_lt_of_le zR hb.size
      replace kZ := bx_below kZ zZ hb
      replace zZ := Nat.lt_of_lt_of_le zZ hb.size
      replace HB : Hid (Below w.heap.size w wy) := HB.out.trans (hb.mono HB.out.size)
      clear hb
      clear HFY HO HFR s1 s2 t3
      go_wp2_with fail
      go_ret
      exact ⟨ret_bool (by simp <;> omega), HB.out⟩
    · have hFR : FR = false := by rw [HFR.out]; simp [hcc]
      subst hFR
      have hge : c0 ≤ c1 := s1
      have hle : c1 ≤ c0 + sz := s2
      have hnx : x1 ≤ y1 := t3
      go_wp2_with fail
      refine (HFY.out _ _ (HO.out _ D2.out)).mono ?_
      rintro e wy ⟨rfl, hb⟩
      replace D1 : Hid (Below w1.heap.size w1 wy) := D1.out.trans (hb.mono D1.out.size)
      replace D2 : Hid (Below w2.heap.size w2 wy) := D2.out.trans (hb.mono D2.out.size)
      replace kX := bx_below kX zX hb
      replace zX := Nat.lt_of_lt_of_le zX hb.size
      replace kY := bx_below kY zY hb
      replace zY := Nat.lt_of_lt_of_le zY hb.size
      replace kP := bx_below kP zP hb
      replace zP := Nat.lt_of_lt_of_le zP hb.size
      replace kQ := bx_below kQ zQ hb
      replace zQ := Nat.lt_of_lt_of_le zQ hb.size
      replace kR := bx_below kR zR hb
      replace zR := Nat.lt_of_lt_of_le zR hb.size
      replace kZ := bx_below kZ zZ hb
      replace zZ := Nat.lt_of_lt_of_le zZ hb.size
      replace HB : Hid (Below w.heap.size w wy) := HB.out.trans (hb.mono HB.out.size)
      clear hb
      clear HFY HO HFR s1 s2 t3
      go_wp2_with fail
      go_ret
      exact ⟨ret_bool (by simp <;> omega), HB.out⟩

set_option maxRecDepth 100000 in
theorem lifted (os : Os) (started : os.Started) (H : Type) (enc : TypeId × Value → H) :
    ReturnsInHanded {} Try.checked os 6 .any (Rows.fnCatchesSpec.pre6 enc Try.prog Try.f6 Rows.fnCatchesRow.domain false) (Rows.fnCatchesSpec.post enc Try.prog Try.f6 false true false false) := by
  refine returnsInHanded_of_change (C := Try.checked) own started (by kernel_rfl) Try.func6
    (ChangeSpec.witness6 (enc := enc) (C := Try.checked) false ⟨#[], #[.slice none 0 0], []⟩ 8 (by kernel_rfl) (by kernel_rfl) (by kernel_rfl) (by kernel_rfl)) ?_
  intro W base args ds gs before hval0 hW hcnd _
  have hval : ∀ (j : Nat) t v, Try.f6.params[j]? = some t → args[j]? = some v → Value.okWide Try.prog W .any base t v := hval0
  have hW' := hW
  obtain ⟨p, q, hA0, hV, rfl, hfz, hnd⟩ := hW
  have hA : DataW.TrodAll enc Try.prog W 0 (fun _ => true) true Try.f6.params.toList args.toList ds p := hA0
  rw [Try.params6] at hA hval
  obtain ⟨v0, vs0, d0, ds0, p0, q0, hargs, rfl, rfl, h0, r0⟩ := trodAll_cons hA
  obtain ⟨rfl, rfl, rfl⟩ := trodAll_nil r0
  obtain rfl : args = #[v0] := by cases args; simp_all
  obtain ⟨rfl, rfl⟩ := trodVars_none hV
  obtain ⟨a0, len0, cap0, rfl⟩ := okWide_slice Try.underlying22 (hval 0 22 v0 rfl rfl)
  have k0 := h0
  have lt0 : ∀ x ∈ p0, x.block < W.heap.size := by obtain ⟨m, hm⟩ := k0; exact DataW.trod_lt m _ _ _ hm
  obtain ⟨z0, w0⟩ : ∃ zs, IsRow .u8 W a0 len0 cap0 zs := by
    obtain ⟨fuel, hf⟩ := h0
    rcases open_ints Try.underlying22 Try.underlying5 (by kernel_rfl) hf with ⟨hcs, _⟩ | ⟨x, l, c, zs, hcs, _, hl, hm, hz, _, hcell, hwz⟩
    · simp [Value.cells] at hcs
      obtain ⟨rfl, rfl, rfl⟩ := hcs
      exact ⟨[], .inl ⟨rfl, rfl, rfl, rfl⟩⟩
    · simp [Value.cells] at hcs
      obtain ⟨rfl, rfl, rfl⟩ := hcs
      exact ⟨zs, .inr ⟨_, rfl, hl, hm, by simpa using hz, hcell, hwz⟩⟩
  clear hA0 hval0
  refine (walk a0 len0 cap0 z0 W w0).mono fun e W' ⟨he, bel⟩ => ?_
  subst he
  exact ⟨_, rfl, _, _, _, [], _, [], hW', trodAll_mk1 (shut_bool Try.underlying4 _), (trodAll_cons_mk (Below.trod laidOut (by kernel_rfl) (of_decide_eq_true (by kernel_rfl)) k0 bel lt0) trodAll_mk0), rfl, bel.frame _, fun h => by cases h⟩

theorem over : Rows.fnCatchesRow.holds Try.pinned (OpenSpec.ofChange Rows.fnCatchesSpec) :=
  OpenClaim.holds_of_wide 6 Try.f6 rfl rfl rfl rfl rfl rfl rfl ⟨rfl, rfl, rfl, rfl, rfl⟩ rfl rfl rfl rfl rfl (by kernel_rfl) Try.func6 (by kernel_rfl)
    (of_decide_eq_true (by kernel_rfl)) (by unfold Func.isWrapper; first | (rw [if_pos (by decide +kernel)]; kernel_rfl) | (rw [if_neg (by decide +kernel)]; exact ⟨rfl, rfl⟩))
    (fun os started H enc _ => lifted os started H enc)

theorem proved : Rows.FnCatchesSaid := over
#print axioms proved
end Go.Proofs.Ytioehciabgdbaaa.fnCatches

namespace Go.Proofs.Ytioehciabgdbaaa
theorem fnCatches_holds : Rows.FnCatchesSaid := fnCatches.proved
end Go.Proofs.Ytioehciabgdbaaa
