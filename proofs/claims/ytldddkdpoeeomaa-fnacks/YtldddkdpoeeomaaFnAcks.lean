/- Proved: whatever bytes come in, the law on acks answers true, and the bytes are as they were; no condition. -/
import Derived.Test.YtldddkdpoeeomaaRows
import Derived.WalkKit
import Derived.ProofKit
import Derived.OpenShut
import Derived.ShutString
import Derived.ChangeOld
import Derived.Below
import Derived.Test.YtldddkdpoeeomaaBase
import Derived.Test.YtldddkdpoeeomaaBox
import Derived.Test.YtldddkdpoeeomaaSubBox
import Derived.Test.YtldddkdpoeeomaaBytes
import Derived.Test.YtldddkdpoeeomaaMem
import Derived.Test.YtldddkdpoeeomaaMemOpen
import Derived.Test.YtldddkdpoeeomaaMemRow
import Derived.Test.YtldddkdpoeeomaaHBase
import Derived.Test.YtldddkdpoeeomaaAgg
import Derived.Test.YtldddkdpoeeomaaHFlight
import Derived.Test.YtldddkdpoeeomaaHSender
import Derived.Test.YtldddkdpoeeomaaHOpen0
import Derived.Test.YtldddkdpoeeomaaHOpen
import Derived.Test.YtldddkdpoeeomaaNum
import Derived.Test.YtldddkdpoeeomaaNumWalks
import Derived.Test.YtldddkdpoeeomaaFlightDef
import Derived.Test.YtldddkdpoeeomaaSpecFlight
import Derived.Test.YtldddkdpoeeomaaSpecFlight2
import Derived.Test.YtldddkdpoeeomaaAppBytes
import Derived.Test.YtldddkdpoeeomaaApp
import Derived.Test.YtldddkdpoeeomaaMemApp
import Derived.Test.YtldddkdpoeeomaaSpecFlight3
import Derived.Test.YtldddkdpoeeomaaHMark
import Derived.Test.YtldddkdpoeeomaaMFlight
import Derived.Test.YtldddkdpoeeomaaMSender
import Derived.Test.YtldddkdpoeeomaaInts
import Derived.Test.YtldddkdpoeeomaaIntsOwn
import Derived.Test.YtldddkdpoeeomaaSpecFlight5
import Derived.Test.YtldddkdpoeeomaaUnwrap
import Derived.Test.YtldddkdpoeeomaaAckDef
import Derived.Test.YtldddkdpoeeomaaSpecAck
import Derived.Test.YtldddkdpoeeomaaSpecAck2
import Derived.Test.YtldddkdpoeeomaaAckFacts
import Derived.Test.YtldddkdpoeeomaaAckMore
import Derived.Test.YtldddkdpoeeomaaDraws
import Derived.Test.YtldddkdpoeeomaaDrawsD
import Derived.Test.YtldddkdpoeeomaaImplFlight
import Derived.Test.YtldddkdpoeeomaaImplCopy
import Derived.Test.YtldddkdpoeeomaaIter
import Derived.Test.YtldddkdpoeeomaaImplFlight2
import Derived.Test.YtldddkdpoeeomaaImplAck
import Derived.Test.YtldddkdpoeeomaaImplAck2
import Derived.Test.YtldddkdpoeeomaaImplAck3
import Derived.Test.YtldddkdpoeeomaaSpecFlight4
import Derived.Test.YtldddkdpoeeomaaRegionU
import Derived.Test.YtldddkdpoeeomaaDrawSndT
import Derived.Test.YtldddkdpoeeomaaDrawSnd
import Derived.Test.YtldddkdpoeeomaaDrawDue
import Derived.Test.YtldddkdpoeeomaaDrawAck
namespace Go.Proofs.Ytldddkdpoeeomaa.fnAcks
open Go.ChangeShapes Go.WideShapes Go.ChangeAt Go.RowKit
open Go.ChangeMaps (open_string shut_string)
set_option linter.unusedVariables false

theorem own : ownKnob Try.prog.godebug = none := by kernel_rfl
theorem laidOut : laidOutB Try.prog = true := by kernel_rfl

/-- WHAT THE WALK IS TOLD OF A SLICE OF INTEGERS THAT CAME IN: it is nil; or it leads to a row of 'cap' cells, the numbers 'zs' (the first 'len' are its elements, the rest its spare room), each fitting its kind. -/
def IsRow (k : IntKind) (w : World) (a : Option Addr) (len cap : Nat) (zs : List Int) : Prop :=
  (a = none ∧ len = 0 ∧ cap = 0 ∧ zs = []) ∨
  ∃ x, a = some x ∧ len ≤ cap ∧ cap ≤ maxLen ∧ zs.length = cap ∧ (∀ i, i < zs.length → w.cell? (x.add i) = some (.int k (zs.getD i 0))) ∧ ∀ n ∈ zs, (Lit.int k n).wf = true

theorem afld0 (c0 c1 c2 c3 c4 : Value) (w : World) : Sem.run Try.prog (Instr.field 39 (.agg #[c0, c1, c2, c3, c4]) 0) w = .ok c0 w := by
  simp [Instr.field, asAgg, part, go_sem]
theorem afld1 (c0 c1 c2 c3 c4 : Value) (w : World) : Sem.run Try.prog (Instr.field 39 (.agg #[c0, c1, c2, c3, c4]) 1) w = .ok (.agg #[c1, c2, c3, c4]) w := by
  simp [Instr.field, asAgg, part, go_sem]
theorem afld3 (c1 c2 c3 c4 : Value) (w : World) : Sem.run Try.prog (Instr.field 26 (.agg #[c1, c2, c3, c4]) 3) w = .ok c4 w := by
  simp [Instr.field, asAgg, part, go_sem]
theorem snd_form {w : World} {B : Nat} {x : DSender} {a b c u : Value} (h : shSender.Rd w B x [a, b, c, u]) : ∃ va vc, u = .slice va x.2.2.2.1.length vc ∧ shFlights.Rd w B x.2.2.2.1 [.slice va x.2.2.2.1.length vc] := by
  obtain ⟨vv, ev, rk, -⟩ := rd_Sender h
  simp only [List.cons.injEq, and_true] at ev
  obtain ⟨-, -, -, rfl⟩ := ev
  obtain ⟨va, vc, ev2⟩ := row_form rk
  simp only [List.cons.injEq, and_true] at ev2
  subst ev2
  exact ⟨va, vc, rfl, rk⟩
set_option maxHeartbeats 8000000 in
set_option maxRecDepth 8000 in
theorem walk (a0 : Option Addr) (len0 cap0 : Nat) (z0 : List Int) (w : World) (w0 : IsRow .u8 w a0 len0 cap0 z0) :
    Calls Try.prog 5 #[.slice a0 len0 cap0] w fun e w' => e = .returned (.bool true) ∧ Below w.heap.size w w' := by
  have r0 : BRow .u8 w a0 len0 cap0 z0 := w0
  have hl := r0.lt
  by_cases hbig : 1048576 < len0
  · clear r0 hl w0
    go_enter Try.func5, Try.ntmps5
    go_wp2
    go_ret
    exact ⟨rfl, by go_grown⟩
  · clear w0
    go_enter Try.func5, Try.ntmps5
    go_wp2_with (first | (go_at_call 9; go_in) | fail)
    refine (dAckS a0 len0 cap0 z0 w r0 hl).mono ?_
    rintro e w1 ⟨x, u, ack, rfl, hrd, hT, b1⟩
    clear r0 hl
    obtain ⟨va, vc, rfl, rk⟩ := snd_form hrd
    have hmx : x.2.2.2.1.length ≤ 9223372036854775807 := row_max rk
    have B1 : Hid (Below w.heap.size w w1) := b1
    have HFl : Hid (∀ W, Below w1.heap.size w1 W → shFlights.Rd W w1.heap.size x.2.2.2.1 [.slice va x.2.2.2.1.length vc]) := fun W h => rk.below (Nat.le_refl _) h
    have HI : Hid (∀ W, Below w1.heap.size w1 W → Calls Try.prog 18 #[.agg #[.int .i64 x.1, .int .i64 x.2.1, .int .i64 x.2.2.1, .slice va x.2.2.2.1.length vc], .int .i64 ack] W fun e w' => ∃ u, e = .returned (.agg #[.int .i64 (ackC x ack), .int .i64 (ackV x ack).1, .int .i64 (ackV x ack).2.1, .int .i64 (ackV x ack).2.2.1, u]) ∧ Own w' W.heap.size w'.heap.size shSender (ackV x ack) [.int .i64 (ackV x ack).1, .int .i64 (ackV x ack).2.1, .int .i64 (ackV x ack).2.2.1, u] ∧ Below W.heap.size W w') := fun W h => iAckSender x _ ack W w1.heap.size (Sh.Rd.below hrd (Nat.le_refl _) h) h.size hT
    have HS : Hid (∀ W, Below w1.heap.size w1 W → Calls Try.prog 22 #[.agg #[.int .i64 x.1, .int .i64 x.2.1, .int .i64 x.2.2.1, .slice va x.2.2.2.1.length vc], .int .i64 ack] W fun e w' => ∃ u, e = .returned (.agg #[.int .i64 (ackC x ack), .int .i64 (ackV x ack).1, .int .i64 (ackV x ack).2.1, .int .i64 (ackV x ack).2.2.1, u]) ∧ Own w' W.heap.size w'.heap.size shSender (ackV x ack) [.int .i64 (ackV x ack).1, .int .i64 (ackV x ack).2.1, .int .i64 (ackV x ack).2.2.1, u] ∧ Below W.heap.size W w') := fun W h => sAckSender x _ ack W w1.heap.size (Sh.Rd.below hrd (Nat.le_refl _) h) h.size hT
    clear hrd hT b1 rk
    have hf0 := afld0
    by_cases hC : ackC x ack = 0
    case neg =>
      have hC' : (ackC x ack != 0) = true := by simp [hC]
      clear HFl hC
      generalize ackC x ack = C at *
      generalize ackV x ack = V at *
      generalize x.1 = y0 at *
      generalize x.2.1 = y1 at *
      generalize x.2.2.1 = y2 at *
      generalize x.2.2.2.1.length = n at *
      go_wp2_with fail
      refine (HI.out _ ((Below.refl _ _).alloc (Nat.le_refl _) _)).mono ?_
      rintro e w2 ⟨u, rfl, ho, hb⟩
      obtain ⟨ua, uc, rfl, -⟩ := snd_form (ho.rd (Nat.le_refl _))
      generalize V.2.2.2.1.length = un at *
      generalize V.1 = v0 at *
      generalize V.2.1 = v1 at *
      generalize V.2.2.1 = v2 at *
      have k2 := bx_new hb
      obtain ⟨hc, z2⟩ := bl_new hb
      have D2 : Hid (Below w1.heap.size w1 w2) := hc
      clear hb hc ho HI
      go_wp2_with fail
      go_region_with (go_at_call 22; refine (HS.out _ (by have h := D2.out; go_grown)).mono ?_; rintro e w3 ⟨u3, rfl, ho3, hb⟩; obtain ⟨ua3, uc3, rfl, -⟩ := snd_form (ho3.rd (Nat.le_refl _)); clear ho3; have hd : Below w2.heap.size w2 w3 := (((Below.refl w2.heap.size w2).alloc (Nat.le_refl _) _).drew).trans (hb.mono (by simp)); have q3 : ∀ o, w3.cell? ⟨w2.heap.size, o, none⟩ = (#[.int .i64 C, .int .i64 v0, .int .i64 v1, .int .i64 v2, .slice ua un uc] : Array Value)[o]? := (fun o => (hb.cell (p := ⟨w2.heap.size, o, none⟩) (by simp)).trans (by simp [go_sem])); have k3 := bx_below k2 z2 hd; have D3 : Hid (Below w1.heap.size w1 w3) := D2.out.trans (hd.mono D2.out.size); clear hb hd)
      all_goals (go_wp2_with fail; go_ret; exact ⟨rfl, B1.out.trans (D3.out.mono B1.out.size)⟩)
    obtain ⟨kk, hlk, hf, hnx, hac, h12, hat⟩ := acks_all hC
    obtain ⟨hag, hav⟩ := acks_again hC
    have HAT : Hid _ := hat
    rw [hC] at HI
    clear hat hC
    obtain ⟨y, hy⟩ : ∃ y, y = ackV x ack := ⟨_, rfl⟩
    rw [← hy] at hlk hf hnx hac hag hav HAT HI HS
    have HI2 : Hid (∀ (W : World) (u : Value), shSender.Rd W W.heap.size y [.int .i64 y.1, .int .i64 y.2.1, .int .i64 y.2.2.1, u] → Calls Try.prog 18 #[.agg #[.int .i64 y.1, .int .i64 y.2.1, .int .i64 y.2.2.1, u], .int .i64 ack] W fun e w' => ∃ u, e = .returned (.agg #[.int .i64 (ackC y ack), .int .i64 (ackV y ack).1, .int .i64 (ackV y ack).2.1, .int .i64 (ackV y ack).2.2.1, u]) ∧ Own w' W.heap.size w'.heap.size shSender (ackV y ack) [.int .i64 (ackV y ack).1, .int .i64 (ackV y ack).2.1, .int .i64 (ackV y ack).2.2.1, u] ∧ Below W.heap.size W w') := fun W u h => iAckSender y u ack W W.heap.size h (Nat.le_refl _) (by rw [hy]; exact ack_tot x ack)
    have HF2 : Hid (∀ (W : World) (u : Value), shSender.Rd W W.heap.size y [.int .i64 y.1, .int .i64 y.2.1, .int .i64 y.2.2.1, u] → Calls Try.prog 13 #[.agg #[.int .i64 y.1, .int .i64 y.2.1, .int .i64 y.2.2.1, u]] W fun e w' => e = .returned (.int .i64 0) ∧ Below W.heap.size W w') := fun W u h => by have := iSenderFault y u W W.heap.size h (Nat.le_refl _) (by rw [hy]; exact ack_tot x ack); rw [hf] at this; exact this
    rw [hag, hav] at HI2
    clear hy hf hag hav
    go_wp2_with fail
    refine (HI.out _ ((Below.refl _ _).alloc (Nat.le_refl _) _)).mono ?_
    rintro e w2 ⟨u, rfl, ho, hb⟩
    have HO : Hid (∀ W, Below w2.heap.size w2 W → shSender.Rd W W.heap.size y [.int .i64 y.1, .int .i64 y.2.1, .int .i64 y.2.2.1, u]) := fun W hW => Sh.Rd.mono hW.size _ _ _ ((ho.rd (Nat.le_refl _)).below (Nat.le_refl _) hW)
    obtain ⟨ua, uc, rfl, rku⟩ := snd_form (ho.rd (Nat.le_refl _))
    have HFu : Hid (∀ W, Below w2.heap.size w2 W → shFlights.Rd W w2.heap.size y.2.2.2.1 [.slice ua y.2.2.2.1.length uc]) := fun W h => rku.below (Nat.le_refl _) h
    have k3 := bx_new hb
    obtain ⟨hc, z3⟩ := bl_new hb
    have D2 : Hid (Below w1.heap.size w1 w2) := hc
    clear hb hc ho HI rku
    rw [hnx] at HO HI2 HF2 HS ⊢
    clear hnx
    generalize hyl : y.2.2.2.1 = yl at *
    generalize x.2.2.2.1 = xl at *
    generalize y.1 = y0 at *
    generalize y.2.2.1 = y2 at *
    generalize x.1 = x0 at *
    generalize x.2.1 = x1 at *
    generalize x.2.2.1 = x2 at *
    obtain ⟨n, hn⟩ : ∃ n, n = xl.length := ⟨_, rfl⟩
    obtain ⟨m, hm⟩ : ∃ m, m = yl.length := ⟨_, rfl⟩
    have HN : Hid (n = xl.length ∧ m = yl.length) := ⟨hn, hm⟩
    rw [← hn] at hlk HFl h12 hmx HS k3 ⊢
    simp only [← hm] at hlk HFu HO HI2 HF2 HS ⊢
    have h64 : wrap64 ((n : Int) - (m : Int)) = (kk : Int) := by unfold wrap64; omega
    have HYL : Hid (y.2.2.2.1.length = m) := by show _ = _; rw [hyl]; exact hm.symm
    have HS2 : Hid (∀ W, Below w1.heap.size w1 W → Calls Try.prog 22 #[.agg #[.int .i64 x0, .int .i64 x1, .int .i64 x2, .slice va n vc], .int .i64 ack] W fun e w' => ∃ ua6 uc6, e = .returned (.agg #[.int .i64 (ackC x ack), .int .i64 y0, .int .i64 x1, .int .i64 y2, .slice ua6 m uc6]) ∧ Below W.heap.size W w') := fun W hW => by
      refine (HS.out W hW).mono ?_
      rintro e w6 ⟨u6, rfl, ho6, hb6⟩
      obtain ⟨ua6, uc6, hu6, -⟩ := snd_form (ho6.rd (Nat.le_refl _))
      rw [HYL.out] at hu6
      subst hu6
      exact ⟨ua6, uc6, rfl, hb6⟩
    clear HS
    generalize ackC x ack = C at *
    have hsub : (n : Int) - (m : Int) = (kk : Int) := by omega
    clear hn hm hyl
    have ha2 : decide (y2 < x2) = false := decide_eq_false (by omega)
    have hk2 : decide ((kk : Int) < 0) = false := decide_eq_false (by omega)
    have hk3 : (0 : Int) ≤ (kk : Int) := by omega
    go_wp2_with fail
    obtain ⟨W, hW⟩ : ∃ W, w2.alloc (.cells #[.int .i64 0, .int .i64 y0, .int .i64 x1, .int .i64 y2, .slice ua m uc] 39) = W := ⟨_, rfl⟩
    have bW : Below w2.heap.size w2 W := by rw [← hW]; exact (Below.refl _ _).alloc (Nat.le_refl _) _
    have k6 : ∀ o, W.cell? ⟨w2.heap.size, o, none⟩ = (#[.int .i64 0, .int .i64 y0, .int .i64 x1, .int .i64 y2, .slice ua m uc] : Array Value)[o]? := by rw [← hW]; intro o; simp [go_sem]
    have z6 : w2.heap.size < W.heap.size := by rw [← hW]; simp
    simp only [hW]
    clear hW
    replace k3 := bx_below k3 z3 bW
    have z3' : w1.heap.size < W.heap.size := by omega
    refine (HF2.out W _ (HO.out W bW)).mono ?_
    rintro e w4 ⟨rfl, hb⟩
    replace k3 := bx_below k3 z3' hb
    replace k6 := bx_below k6 z6 hb
    have D4 : Hid (Below w2.heap.size w2 w4) := bW.trans (hb.mono bW.size)
    have z64 : w2.heap.size < w4.heap.size := Nat.lt_of_lt_of_le z6 hb.size
    have z34 : w1.heap.size < w4.heap.size := Nat.lt_of_lt_of_le z3' hb.size
    clear hb bW HF2
    have HK : Hid (∀ W', Below w4.heap.size w4 W' → (∀ o, W'.cell? ⟨w1.heap.size, o, none⟩ = (#[.int .i64 x0, .int .i64 x1, .int .i64 x2, .slice va n vc] : Array Value)[o]?) ∧ (∀ o, W'.cell? ⟨w2.heap.size, o, none⟩ = (#[.int .i64 0, .int .i64 y0, .int .i64 x1, .int .i64 y2, .slice ua m uc] : Array Value)[o]?)) := fun W' hW => ⟨bx_below k3 z34 hW, bx_below k6 z64 hW⟩
    have HBW : Hid (∀ W', Below w4.heap.size w4 W' → Below w2.heap.size w2 W' ∧ Below w1.heap.size w1 W' ∧ Below w.heap.size w W') := fun W' hW => by
      have q2 := D4.out.trans (hW.mono D4.out.size)
      have q1 := D2.out.trans (q2.mono D2.out.size)
      exact ⟨q2, q1, B1.out.trans (q1.mono B1.out.size)⟩
    clear z6 z3' z64 z34 D4
    go_wp2_with fail
    clear k3 k6
    go_loopw [7] (fun ti wr => ∃ i : Nat, i ≤ m ∧ ti = .int .i64 i ∧ Hid (Below w4.heap.size w4 wr)) (fun ti _ => m - (intOf ti).toNat)
    case atStart => exact ⟨0, Nat.zero_le _, rfl, Below.refl _ _⟩
    case round =>
      obtain ⟨i, hi, rfl, HBr⟩ := hrel
      obtain ⟨k3, k6⟩ := HK.out wr HBr.out
      obtain ⟨q2, q1, q0⟩ := HBW.out wr HBr.out
      have HQ : Hid (Below w2.heap.size w2 wr ∧ Below w1.heap.size w1 wr ∧ Below w.heap.size w wr) := ⟨q2, q1, q0⟩
      clear q2 q1 q0
      by_cases hlt : i < m
      · have hil : i < yl.length := by rw [← HN.out.2]; exact hlt
        obtain ⟨hkx, e1, e2⟩ := HAT.out i hil
        obtain ⟨ub, uo, uv, hua, -, cu, -, -, -, -, -⟩ := at_Flights (HFu.out wr HQ.out.1) i hil
        obtain ⟨fb, fo, fv, hva, -, cf, -, -, -, -, -⟩ := at_Flights (HFl.out wr HQ.out.2.1) (i + kk) hkx
        rw [← e1] at cf
        obtain ⟨av, hav⟩ : ∃ z, z = yl[i].1 := ⟨_, rfl⟩
        rw [← hav] at cu cf e2
        clear hav e1
        have hin : (i : Int) < (m : Int) := by omega
        have hin0 : (0 : Int) ≤ (i : Int) := by omega
        obtain ⟨j, hj⟩ : ∃ j, j = i + kk := ⟨_, rfl⟩
        rw [← hj] at cf
        have hin2 : (j : Int) < (n : Int) := by omega
        have hin3 : (0 : Int) ≤ (j : Int) := by omega
        have hadd : (i : Int) + (kk : Int) = (j : Int) := by omega
        have hwj : IntKind.i64.wrap (j : Int) = (j : Int) := by simp only [IntKind.wrap, IntKind.bits, IntKind.signed]; simp; omega
        have he2 : decide (av < y2) = false := decide_eq_false (by omega)
        subst hua hva
        clear HAT HFu HFl HK HBW hil hkx e2 hj hlk
        go_upto_region 13 with fail
        go_quiet (fail)
        go_wp2_with fail
        go_roundw
        case rel => exact ⟨i + 1, by omega, by go_num, below_drewN HBr.out _⟩
        case measure => simp [intOf]; omega
      · obtain rfl : i = m := by omega
        clear HAT HFu HFl hlt
        go_wp2_with fail
        refine (HI2.out wr _ (HO.out wr HQ.out.1)).mono ?_
        rintro e w5 ⟨u5, rfl, ho5, hb⟩
        obtain ⟨ua5, uc5, rfl, -⟩ := snd_form (ho5.rd (Nat.le_refl _))
        clear ho5
        generalize (ackV y ack).2.2.2.1.length = m5 at *
        generalize (ackV y ack).1 = g0 at *
        generalize (ackV y ack).2.1 = g1 at *
        have D5 : Hid (Below w4.heap.size w4 w5) := HBr.out.trans (hb.mono HBr.out.size)
        clear k3 k6 HQ hb
        obtain ⟨k3, k6⟩ := HK.out w5 D5.out
        obtain ⟨q2, q1, q0⟩ := HBW.out w5 D5.out
        have z35 : w1.heap.size < w5.heap.size := by have h := q2.size; omega
        have z65 : w2.heap.size < w5.heap.size := cell_lt (k6 0)
        have hf1 := afld1
        have hf3 := afld3
        have Q1 : Hid (Below w1.heap.size w1 w5) := q1
        have Q0 : Hid (Below w.heap.size w w5) := q0
        clear q2 q1 q0 HK HBW HBr D5 HI2 HO
        go_wp2_with fail
        obtain ⟨W7, hW7⟩ : ∃ W7, w5.alloc (.cells #[.int .i64 0, .int .i64 g0, .int .i64 g1, .int .i64 y2, .slice ua5 m5 uc5] 39) = W7 := ⟨_, rfl⟩
        have b7 : Below w5.heap.size w5 W7 := by rw [← hW7]; exact (Below.refl _ _).alloc (Nat.le_refl _) _
        have k8 : ∀ o, W7.cell? ⟨w5.heap.size, o, none⟩ = (#[.int .i64 0, .int .i64 g0, .int .i64 g1, .int .i64 y2, .slice ua5 m5 uc5] : Array Value)[o]? := by rw [← hW7]; intro o; simp [go_sem]
        have z8 : w5.heap.size < W7.heap.size := by rw [← hW7]; simp
        simp only [hW7]
        clear hW7
        replace k3 := bx_below k3 z35 b7
        replace k6 := bx_below k6 z65 b7
        replace z35 : w1.heap.size < W7.heap.size := by omega
        replace z65 : w2.heap.size < W7.heap.size := by omega
        replace Q1 : Hid (Below w1.heap.size w1 W7) := Q1.out.trans (b7.mono Q1.out.size)
        replace Q0 : Hid (Below w.heap.size w W7) := Q0.out.trans (b7.mono Q0.out.size)
        clear b7
        refine wp_region_noPanic ?_
        refine Goes.start (S := fun w' => Below W7.heap.size W7 w') (z := 100) (by kernel_rfl) ?_
        refine Goes.take (i := 0) (oi := ?oi1) (x := ?vx1) ?ho1 (by kernel_rfl) (by kernel_rfl) (by kernel_rfl) (by kernel_rfl) (fun _ _ _ h => h) (Or.inl ⟨?hw1, ?hy1⟩) (Below.drew (Below.refl _ _)) ?rest1
        case ho1 => (simp only [List.getElem?_toArray, List.getElem?_cons_zero] <;> rfl)
        case hw1 => rfl
        case hy1 => (intro w' hSw; have j3 := fun o => (hSw.cell (p := ⟨w1.heap.size, o, none⟩) z35).trans (k3 o); have j6 := fun o => (hSw.cell (p := ⟨w2.heap.size, o, none⟩) z65).trans (k6 o); have j8 := fun o => (hSw.cell (p := ⟨w5.heap.size, o, none⟩) z8).trans (k8 o); go_simp; (try with_reducible rfl))
        case rest1 =>
        (try simp only [Act.put, List.setIfInBounds_toArray, List.set_cons_zero, List.set_cons_succ])
        refine Goes.take (i := 1) (oi := ?oi2) (x := ?vx2) ?ho2 (by kernel_rfl) (by kernel_rfl) (by kernel_rfl) (by kernel_rfl) (fun _ _ _ h => h) (Or.inl ⟨?hw2, ?hy2⟩) (Below.drew (Below.refl _ _)) ?rest2
        case ho2 => (simp only [List.getElem?_toArray, List.getElem?_cons_succ, List.getElem?_cons_zero] <;> rfl)
        case hw2 => rfl
        case hy2 => (intro w' hSw; have j3 := fun o => (hSw.cell (p := ⟨w1.heap.size, o, none⟩) z35).trans (k3 o); have j6 := fun o => (hSw.cell (p := ⟨w2.heap.size, o, none⟩) z65).trans (k6 o); have j8 := fun o => (hSw.cell (p := ⟨w5.heap.size, o, none⟩) z8).trans (k8 o); go_simp; (try with_reducible rfl))
        case rest2 =>
        (try simp only [Act.put, List.setIfInBounds_toArray, List.set_cons_zero, List.set_cons_succ])
        refine Goes.take (i := 2) (oi := ?oi3) (x := ?vx3) ?ho3 (by kernel_rfl) (by kernel_rfl) (by kernel_rfl) (by kernel_rfl) (fun _ _ _ h => h) (Or.inl ⟨?hw3, ?hy3⟩) (Below.drew (Below.refl _ _)) ?rest3
        case ho3 => (simp only [List.getElem?_toArray, List.getElem?_cons_succ, List.getElem?_cons_zero] <;> rfl)
        case hw3 => rfl
        case hy3 => (intro w' hSw; have j3 := fun o => (hSw.cell (p := ⟨w1.heap.size, o, none⟩) z35).trans (k3 o); have j6 := fun o => (hSw.cell (p := ⟨w2.heap.size, o, none⟩) z65).trans (k6 o); have j8 := fun o => (hSw.cell (p := ⟨w5.heap.size, o, none⟩) z8).trans (k8 o); go_simp; (try with_reducible rfl))
        case rest3 =>
        (try simp only [Act.put, List.setIfInBounds_toArray, List.set_cons_zero, List.set_cons_succ])
        refine Goes.take (i := 3) (oi := ?oi4) (x := ?vx4) ?ho4 (by kernel_rfl) (by kernel_rfl) (by kernel_rfl) (by kernel_rfl) (fun _ _ _ h => h) (Or.inl ⟨?hw4, ?hy4⟩) (Below.drew (Below.refl _ _)) ?rest4
        case ho4 => (simp only [List.getElem?_toArray, List.getElem?_cons_succ, List.getElem?_cons_zero] <;> rfl)
        case hw4 => rfl
        case hy4 => (intro w' hSw; have j3 := fun o => (hSw.cell (p := ⟨w1.heap.size, o, none⟩) z35).trans (k3 o); have j6 := fun o => (hSw.cell (p := ⟨w2.heap.size, o, none⟩) z65).trans (k6 o); have j8 := fun o => (hSw.cell (p := ⟨w5.heap.size, o, none⟩) z8).trans (k8 o); go_simp; (try with_reducible rfl))
        case rest4 =>
        (try simp only [Act.put, List.setIfInBounds_toArray, List.set_cons_zero, List.set_cons_succ])
        refine Goes.take (i := 4) (oi := ?oi5) (x := ?vx5) ?ho5 (by kernel_rfl) (by kernel_rfl) (by kernel_rfl) (by kernel_rfl) (fun _ _ _ h => h) (Or.inl ⟨?hw5, ?hy5⟩) (Below.drew (Below.refl _ _)) ?rest5
        case ho5 => (simp only [List.getElem?_toArray, List.getElem?_cons_succ, List.getElem?_cons_zero] <;> rfl)
        case hw5 => rfl
        case hy5 => (intro w' hSw; have j3 := fun o => (hSw.cell (p := ⟨w1.heap.size, o, none⟩) z35).trans (k3 o); have j6 := fun o => (hSw.cell (p := ⟨w2.heap.size, o, none⟩) z65).trans (k6 o); have j8 := fun o => (hSw.cell (p := ⟨w5.heap.size, o, none⟩) z8).trans (k8 o); go_simp; (try with_reducible rfl))
        case rest5 =>
        (try simp only [Act.put, List.setIfInBounds_toArray, List.set_cons_zero, List.set_cons_succ])
        refine Goes.take (i := 5) (oi := ?oi6) (x := ?vx6) ?ho6 (by kernel_rfl) (by kernel_rfl) (by kernel_rfl) (by kernel_rfl) (fun _ _ _ h => h) (Or.inl ⟨?hw6, ?hy6⟩) (Below.drew (Below.refl _ _)) ?rest6
        case ho6 => (simp only [List.getElem?_toArray, List.getElem?_cons_succ, List.getElem?_cons_zero] <;> rfl)
        case hw6 => rfl
        case hy6 => (intro w' hSw; have j3 := fun o => (hSw.cell (p := ⟨w1.heap.size, o, none⟩) z35).trans (k3 o); have j6 := fun o => (hSw.cell (p := ⟨w2.heap.size, o, none⟩) z65).trans (k6 o); have j8 := fun o => (hSw.cell (p := ⟨w5.heap.size, o, none⟩) z8).trans (k8 o); go_simp; (try with_reducible rfl))
        case rest6 =>
        (try simp only [Act.put, List.setIfInBounds_toArray, List.set_cons_zero, List.set_cons_succ])
        refine Goes.take (i := 6) (oi := ?oi7) (x := ?vx7) ?ho7 (by kernel_rfl) (by kernel_rfl) (by kernel_rfl) (by kernel_rfl) (fun _ _ _ h => h) (Or.inl ⟨?hw7, ?hy7⟩) (Below.drew (Below.refl _ _)) ?rest7
        case ho7 => (simp only [List.getElem?_toArray, List.getElem?_cons_succ, List.getElem?_cons_zero] <;> rfl)
        case hw7 => rfl
        case hy7 => (intro w' hSw; have j3 := fun o => (hSw.cell (p := ⟨w1.heap.size, o, none⟩) z35).trans (k3 o); have j6 := fun o => (hSw.cell (p := ⟨w2.heap.size, o, none⟩) z65).trans (k6 o); have j8 := fun o => (hSw.cell (p := ⟨w5.heap.size, o, none⟩) z8).trans (k8 o); go_simp; (try with_reducible rfl))
        case rest7 =>
        (try simp only [Act.put, List.setIfInBounds_toArray, List.set_cons_zero, List.set_cons_succ])
        refine Goes.take (i := 7) (oi := ?oi8) (x := ?vx8) ?ho8 (by kernel_rfl) (by kernel_rfl) (by kernel_rfl) (by kernel_rfl) (fun _ _ _ h => h) (Or.inl ⟨?hw8, ?hy8⟩) (Below.drew (Below.refl _ _)) ?rest8
        case ho8 => (simp only [List.getElem?_toArray, List.getElem?_cons_succ, List.getElem?_cons_zero] <;> rfl)
        case hw8 => rfl
        case hy8 => (intro w' hSw; have j3 := fun o => (hSw.cell (p := ⟨w1.heap.size, o, none⟩) z35).trans (k3 o); have j6 := fun o => (hSw.cell (p := ⟨w2.heap.size, o, none⟩) z65).trans (k6 o); have j8 := fun o => (hSw.cell (p := ⟨w5.heap.size, o, none⟩) z8).trans (k8 o); go_simp; (try with_reducible rfl))
        case rest8 =>
        (try simp only [Act.put, List.setIfInBounds_toArray, List.set_cons_zero, List.set_cons_succ])
        refine Goes.take (i := 8) (oi := ?oi9) (x := ?vx9) ?ho9 (by kernel_rfl) (by kernel_rfl) (by kernel_rfl) (by kernel_rfl) (fun _ _ _ h => h) (Or.inl ⟨?hw9, ?hy9⟩) (Below.drew (Below.refl _ _)) ?rest9
        case ho9 => (simp only [List.getElem?_toArray, List.getElem?_cons_succ, List.getElem?_cons_zero] <;> rfl)
        case hw9 => rfl
        case hy9 => (intro w' hSw; have j3 := fun o => (hSw.cell (p := ⟨w1.heap.size, o, none⟩) z35).trans (k3 o); have j6 := fun o => (hSw.cell (p := ⟨w2.heap.size, o, none⟩) z65).trans (k6 o); have j8 := fun o => (hSw.cell (p := ⟨w5.heap.size, o, none⟩) z8).trans (k8 o); go_simp; (try with_reducible rfl))
        case rest9 =>
        (try simp only [Act.put, List.setIfInBounds_toArray, List.set_cons_zero, List.set_cons_succ])
        refine Goes.take (i := 9) (oi := ?oi10) (x := ?vx10) ?ho10 (by kernel_rfl) (by kernel_rfl) (by kernel_rfl) (by kernel_rfl) (fun _ _ _ h => h) (Or.inl ⟨?hw10, ?hy10⟩) (Below.drew (Below.refl _ _)) ?rest10
        case ho10 => (simp only [List.getElem?_toArray, List.getElem?_cons_succ, List.getElem?_cons_zero] <;> rfl)
        case hw10 => rfl
        case hy10 => (intro w' hSw; have j3 := fun o => (hSw.cell (p := ⟨w1.heap.size, o, none⟩) z35).trans (k3 o); have j6 := fun o => (hSw.cell (p := ⟨w2.heap.size, o, none⟩) z65).trans (k6 o); have j8 := fun o => (hSw.cell (p := ⟨w5.heap.size, o, none⟩) z8).trans (k8 o); go_simp; (try with_reducible rfl))
        case rest10 =>
        (try simp only [Act.put, List.setIfInBounds_toArray, List.set_cons_zero, List.set_cons_succ])
        refine Goes.take (i := 10) (oi := ?oi11) (x := ?vx11) ?ho11 (by kernel_rfl) (by kernel_rfl) (by kernel_rfl) (by kernel_rfl) (fun _ _ _ h => h) (Or.inl ⟨?hw11, ?hy11⟩) (Below.drew (Below.refl _ _)) ?rest11
        case ho11 => (simp only [List.getElem?_toArray, List.getElem?_cons_succ, List.getElem?_cons_zero] <;> rfl)
        case hw11 => rfl
        case hy11 => (intro w' hSw; have j3 := fun o => (hSw.cell (p := ⟨w1.heap.size, o, none⟩) z35).trans (k3 o); have j6 := fun o => (hSw.cell (p := ⟨w2.heap.size, o, none⟩) z65).trans (k6 o); have j8 := fun o => (hSw.cell (p := ⟨w5.heap.size, o, none⟩) z8).trans (k8 o); go_simp; (try with_reducible rfl))
        case rest11 =>
        (try simp only [Act.put, List.setIfInBounds_toArray, List.set_cons_zero, List.set_cons_succ])
        refine Goes.take (i := 11) (oi := ?oi12) (x := ?vx12) ?ho12 (by kernel_rfl) (by kernel_rfl) (by kernel_rfl) (by kernel_rfl) (fun _ _ _ h => h) (Or.inl ⟨?hw12, ?hy12⟩) (Below.drew (Below.refl _ _)) ?rest12
        case ho12 => (simp only [List.getElem?_toArray, List.getElem?_cons_succ, List.getElem?_cons_zero] <;> rfl)
        case hw12 => rfl
        case hy12 => (intro w' hSw; have j3 := fun o => (hSw.cell (p := ⟨w1.heap.size, o, none⟩) z35).trans (k3 o); have j6 := fun o => (hSw.cell (p := ⟨w2.heap.size, o, none⟩) z65).trans (k6 o); have j8 := fun o => (hSw.cell (p := ⟨w5.heap.size, o, none⟩) z8).trans (k8 o); go_simp; (try with_reducible rfl))
        case rest12 =>
        (try simp only [Act.put, List.setIfInBounds_toArray, List.set_cons_zero, List.set_cons_succ])
        refine Goes.take (i := 12) (oi := ?oi13) (x := ?vx13) ?ho13 (by kernel_rfl) (by kernel_rfl) (by kernel_rfl) (by kernel_rfl) (fun _ _ _ h => h) (Or.inl ⟨?hw13, ?hy13⟩) (Below.drew (Below.refl _ _)) ?rest13
        case ho13 => (simp only [List.getElem?_toArray, List.getElem?_cons_succ, List.getElem?_cons_zero] <;> rfl)
        case hw13 => rfl
        case hy13 => (intro w' hSw; have j3 := fun o => (hSw.cell (p := ⟨w1.heap.size, o, none⟩) z35).trans (k3 o); have j6 := fun o => (hSw.cell (p := ⟨w2.heap.size, o, none⟩) z65).trans (k6 o); have j8 := fun o => (hSw.cell (p := ⟨w5.heap.size, o, none⟩) z8).trans (k8 o); go_simp; (try with_reducible rfl))
        case rest13 =>
        (try simp only [Act.put, List.setIfInBounds_toArray, List.set_cons_zero, List.set_cons_succ])
        refine Goes.take (i := 13) (oi := ?oi14) (x := ?vx14) ?ho14 (by kernel_rfl) (by kernel_rfl) (by kernel_rfl) (by kernel_rfl) (fun _ _ _ h => h) (Or.inl ⟨?hw14, ?hy14⟩) (Below.drew (Below.refl _ _)) ?rest14
        case ho14 => (simp only [List.getElem?_toArray, List.getElem?_cons_succ, List.getElem?_cons_zero] <;> rfl)
        case hw14 => rfl
        case hy14 => (intro w' hSw; have j3 := fun o => (hSw.cell (p := ⟨w1.heap.size, o, none⟩) z35).trans (k3 o); have j6 := fun o => (hSw.cell (p := ⟨w2.heap.size, o, none⟩) z65).trans (k6 o); have j8 := fun o => (hSw.cell (p := ⟨w5.heap.size, o, none⟩) z8).trans (k8 o); go_simp; (try with_reducible rfl))
        case rest14 =>
        (try simp only [Act.put, List.setIfInBounds_toArray, List.set_cons_zero, List.set_cons_succ])
        refine Goes.take (i := 14) (oi := ?oi15) (x := ?vx15) ?ho15 (by kernel_rfl) (by kernel_rfl) (by kernel_rfl) (by kernel_rfl) (fun _ _ _ h => h) (Or.inl ⟨?hw15, ?hy15⟩) (Below.drew (Below.refl _ _)) ?rest15
        case ho15 => (simp only [List.getElem?_toArray, List.getElem?_cons_succ, List.getElem?_cons_zero] <;> rfl)
        case hw15 => rfl
        case hy15 => (intro w' hSw; have j3 := fun o => (hSw.cell (p := ⟨w1.heap.size, o, none⟩) z35).trans (k3 o); have j6 := fun o => (hSw.cell (p := ⟨w2.heap.size, o, none⟩) z65).trans (k6 o); have j8 := fun o => (hSw.cell (p := ⟨w5.heap.size, o, none⟩) z8).trans (k8 o); go_simp; (try with_reducible rfl))
        case rest15 =>
        (try simp only [Act.put, List.setIfInBounds_toArray, List.set_cons_zero, List.set_cons_succ])
        refine Goes.take (i := 15) (oi := ?oi16) (x := ?vx16) ?ho16 (by kernel_rfl) (by kernel_rfl) (by kernel_rfl) (by kernel_rfl) (fun _ _ _ h => h) (Or.inl ⟨?hw16, ?hy16⟩) (Below.drew (Below.refl _ _)) ?rest16
        case ho16 => (simp only [List.getElem?_toArray, List.getElem?_cons_succ, List.getElem?_cons_zero] <;> rfl)
        case hw16 => rfl
        case hy16 => (intro w' hSw; have j3 := fun o => (hSw.cell (p := ⟨w1.heap.size, o, none⟩) z35).trans (k3 o); have j6 := fun o => (hSw.cell (p := ⟨w2.heap.size, o, none⟩) z65).trans (k6 o); have j8 := fun o => (hSw.cell (p := ⟨w5.heap.size, o, none⟩) z8).trans (k8 o); go_simp; (try with_reducible rfl))
        case rest16 =>
        (try simp only [Act.put, List.setIfInBounds_toArray, List.set_cons_zero, List.set_cons_succ])
        refine Goes.take (i := 16) (oi := ?oi17) (x := ?vx17) ?ho17 (by kernel_rfl) (by kernel_rfl) (by kernel_rfl) (by kernel_rfl) (fun _ _ _ h => h) (Or.inl ⟨?hw17, ?hy17⟩) (Below.drew (Below.refl _ _)) ?rest17
        case ho17 => (simp only [List.getElem?_toArray, List.getElem?_cons_succ, List.getElem?_cons_zero] <;> rfl)
        case hw17 => rfl
        case hy17 => (intro w' hSw; have j3 := fun o => (hSw.cell (p := ⟨w1.heap.size, o, none⟩) z35).trans (k3 o); have j6 := fun o => (hSw.cell (p := ⟨w2.heap.size, o, none⟩) z65).trans (k6 o); have j8 := fun o => (hSw.cell (p := ⟨w5.heap.size, o, none⟩) z8).trans (k8 o); go_simp; (try with_reducible rfl))
        case rest17 =>
        (try simp only [Act.put, List.setIfInBounds_toArray, List.set_cons_zero, List.set_cons_succ])
        refine Goes.take (i := 17) (oi := ?oi18) (x := ?vx18) ?ho18 (by kernel_rfl) (by kernel_rfl) (by kernel_rfl) (by kernel_rfl) (fun _ _ _ h => h) (Or.inl ⟨?hw18, ?hy18⟩) (Below.drew (Below.refl _ _)) ?rest18
        case ho18 => (simp only [List.getElem?_toArray, List.getElem?_cons_succ, List.getElem?_cons_zero] <;> rfl)
        case hw18 => rfl
        case hy18 => (intro w' hSw; have j3 := fun o => (hSw.cell (p := ⟨w1.heap.size, o, none⟩) z35).trans (k3 o); have j6 := fun o => (hSw.cell (p := ⟨w2.heap.size, o, none⟩) z65).trans (k6 o); have j8 := fun o => (hSw.cell (p := ⟨w5.heap.size, o, none⟩) z8).trans (k8 o); go_simp; (try with_reducible rfl))
        case rest18 =>
        (try simp only [Act.put, List.setIfInBounds_toArray, List.set_cons_zero, List.set_cons_succ])
        refine Goes.take (i := 18) (oi := ?oi19) (x := ?vx19) ?ho19 (by kernel_rfl) (by kernel_rfl) (by kernel_rfl) (by kernel_rfl) (fun _ _ _ h => h) (Or.inl ⟨?hw19, ?hy19⟩) (Below.drew (Below.refl _ _)) ?rest19
        case ho19 => (simp only [List.getElem?_toArray, List.getElem?_cons_succ, List.getElem?_cons_zero] <;> rfl)
        case hw19 => rfl
        case hy19 => (intro w' hSw; have j3 := fun o => (hSw.cell (p := ⟨w1.heap.size, o, none⟩) z35).trans (k3 o); have j6 := fun o => (hSw.cell (p := ⟨w2.heap.size, o, none⟩) z65).trans (k6 o); have j8 := fun o => (hSw.cell (p := ⟨w5.heap.size, o, none⟩) z8).trans (k8 o); go_simp; (try with_reducible rfl))
        case rest19 =>
        (try simp only [Act.put, List.setIfInBounds_toArray, List.set_cons_zero, List.set_cons_succ])
        refine Goes.all (rs := [19]) (by kernel_rfl) (by simp) ?_
        refine Ups.cons (i := 19) (o := ?oo20) ?ho20 (fun KK hKK => ?stp20) Ups.nil
        case ho20 => (simp only [List.getElem?_toArray, List.getElem?_cons_succ, List.getElem?_cons_zero] <;> rfl)
        case stp20 =>
        go_simp
        go_at_call 22
        refine (HS2.out _ (Q1.out.trans ((Below.drew (Below.refl _ _)).mono Q1.out.size))).mono ?_
        rintro e w6 ⟨ua6, uc6, rfl, hbq⟩
        replace hbq := (Below.drew (Below.refl W7.heap.size W7)).trans hbq
        have HS20 : Hid (Below W7.heap.size W7 w6) := hbq
        clear hbq
        dsimp only
        refine hKK.out _ _ (Or.inr HS20.out) ?_
        clear hKK KK
        (try simp only [Act.put, List.setIfInBounds_toArray, List.set_cons_zero, List.set_cons_succ])
        refine Goes.take (i := 20) (oi := ?oi21) (x := ?vx21) ?ho21 (by kernel_rfl) (by kernel_rfl) (by kernel_rfl) (by kernel_rfl) (fun _ _ _ h => h) (Or.inl ⟨?hw21, ?hy21⟩) HS20.out ?rest21
        case ho21 => (simp only [List.getElem?_toArray, List.getElem?_cons_succ, List.getElem?_cons_zero] <;> rfl)
        case hw21 => rfl
        case hy21 => (intro w' hSw; have j3 := fun o => (hSw.cell (p := ⟨w1.heap.size, o, none⟩) z35).trans (k3 o); have j6 := fun o => (hSw.cell (p := ⟨w2.heap.size, o, none⟩) z65).trans (k6 o); have j8 := fun o => (hSw.cell (p := ⟨w5.heap.size, o, none⟩) z8).trans (k8 o); go_simp; (try with_reducible rfl))
        case rest21 =>
        (try simp only [Act.put, List.setIfInBounds_toArray, List.set_cons_zero, List.set_cons_succ])
        refine Goes.take (i := 21) (oi := ?oi22) (x := ?vx22) ?ho22 (by kernel_rfl) (by kernel_rfl) (by kernel_rfl) (by kernel_rfl) (fun _ _ _ h => h) (Or.inl ⟨?hw22, ?hy22⟩) HS20.out ?rest22
        case ho22 => (simp only [List.getElem?_toArray, List.getElem?_cons_succ, List.getElem?_cons_zero] <;> rfl)
        case hw22 => rfl
        case hy22 => (intro w' hSw; have j3 := fun o => (hSw.cell (p := ⟨w1.heap.size, o, none⟩) z35).trans (k3 o); have j6 := fun o => (hSw.cell (p := ⟨w2.heap.size, o, none⟩) z65).trans (k6 o); have j8 := fun o => (hSw.cell (p := ⟨w5.heap.size, o, none⟩) z8).trans (k8 o); go_simp; (try with_reducible rfl))
        case rest22 =>
        (try simp only [Act.put, List.setIfInBounds_toArray, List.set_cons_zero, List.set_cons_succ])
        refine Goes.take (i := 22) (oi := ?oi23) (x := ?vx23) ?ho23 (by kernel_rfl) (by kernel_rfl) (by kernel_rfl) (by kernel_rfl) (fun _ _ _ h => h) (Or.inl ⟨?hw23, ?hy23⟩) HS20.out ?rest23
        case ho23 => (simp only [List.getElem?_toArray, List.getElem?_cons_succ, List.getElem?_cons_zero] <;> rfl)
        case hw23 => rfl
        case hy23 => (intro w' hSw; have j3 := fun o => (hSw.cell (p := ⟨w1.heap.size, o, none⟩) z35).trans (k3 o); have j6 := fun o => (hSw.cell (p := ⟨w2.heap.size, o, none⟩) z65).trans (k6 o); have j8 := fun o => (hSw.cell (p := ⟨w5.heap.size, o, none⟩) z8).trans (k8 o); go_simp; (try with_reducible rfl))
        case rest23 =>
        (try simp only [Act.put, List.setIfInBounds_toArray, List.set_cons_zero, List.set_cons_succ])
        refine Goes.take (i := 23) (oi := ?oi24) (x := ?vx24) ?ho24 (by kernel_rfl) (by kernel_rfl) (by kernel_rfl) (by kernel_rfl) (fun _ _ _ h => h) (Or.inl ⟨?hw24, ?hy24⟩) HS20.out ?rest24
        case ho24 => (simp only [List.getElem?_toArray, List.getElem?_cons_succ, List.getElem?_cons_zero] <;> rfl)
        case hw24 => rfl
        case hy24 => (intro w' hSw; have j3 := fun o => (hSw.cell (p := ⟨w1.heap.size, o, none⟩) z35).trans (k3 o); have j6 := fun o => (hSw.cell (p := ⟨w2.heap.size, o, none⟩) z65).trans (k6 o); have j8 := fun o => (hSw.cell (p := ⟨w5.heap.size, o, none⟩) z8).trans (k8 o); go_simp; (try with_reducible rfl))
        case rest24 =>
        (try simp only [Act.put, List.setIfInBounds_toArray, List.set_cons_zero, List.set_cons_succ])
        refine Goes.take (i := 24) (oi := ?oi25) (x := ?vx25) ?ho25 (by kernel_rfl) (by kernel_rfl) (by kernel_rfl) (by kernel_rfl) (fun _ _ _ h => h) (Or.inl ⟨?hw25, ?hy25⟩) HS20.out ?rest25
        case ho25 => (simp only [List.getElem?_toArray, List.getElem?_cons_succ, List.getElem?_cons_zero] <;> rfl)
        case hw25 => rfl
        case hy25 => (intro w' hSw; have j3 := fun o => (hSw.cell (p := ⟨w1.heap.size, o, none⟩) z35).trans (k3 o); have j6 := fun o => (hSw.cell (p := ⟨w2.heap.size, o, none⟩) z65).trans (k6 o); have j8 := fun o => (hSw.cell (p := ⟨w5.heap.size, o, none⟩) z8).trans (k8 o); go_simp; (try with_reducible rfl))
        case rest25 =>
        (try simp only [Act.put, List.setIfInBounds_toArray, List.set_cons_zero, List.set_cons_succ])
        refine Goes.take (i := 25) (oi := ?oi26) (x := ?vx26) ?ho26 (by kernel_rfl) (by kernel_rfl) (by kernel_rfl) (by kernel_rfl) (fun _ _ _ h => h) (Or.inl ⟨?hw26, ?hy26⟩) HS20.out ?rest26
        case ho26 => (simp only [List.getElem?_toArray, List.getElem?_cons_succ, List.getElem?_cons_zero] <;> rfl)
        case hw26 => rfl
        case hy26 => (intro w' hSw; have j3 := fun o => (hSw.cell (p := ⟨w1.heap.size, o, none⟩) z35).trans (k3 o); have j6 := fun o => (hSw.cell (p := ⟨w2.heap.size, o, none⟩) z65).trans (k6 o); have j8 := fun o => (hSw.cell (p := ⟨w5.heap.size, o, none⟩) z8).trans (k8 o); go_simp; (try with_reducible rfl))
        case rest26 =>
        (try simp only [Act.put, List.setIfInBounds_toArray, List.set_cons_zero, List.set_cons_succ])
        refine Goes.done (by kernel_rfl) ?_ _
        refine NoPanic.normal ?_
        have D6 : Hid (Below w.heap.size w w6) := Q0.out.trans (HS20.out.mono Q0.out.size)
        clear k3 k6 k8 HS2 Q1 Q0
        go_wp2_with fail
        go_ret
        first | exact ⟨rfl, D6.out⟩ | exact ⟨ret_bool (by simp), D6.out⟩

set_option maxRecDepth 100000 in
theorem lifted (os : Os) (started : os.Started) (H : Type) (enc : TypeId × Value → H) :
    ReturnsInHanded {} Try.checked os 5 .any (Rows.fnAcksSpec.pre6 enc Try.prog Try.f5 Rows.fnAcksRow.domain false) (Rows.fnAcksSpec.post enc Try.prog Try.f5 false true false false) := by
  refine returnsInHanded_of_change (C := Try.checked) own started (by kernel_rfl) Try.func5
    (ChangeSpec.witness6 (enc := enc) (C := Try.checked) false ⟨#[], #[.slice none 0 0], []⟩ 8 (by kernel_rfl) (by kernel_rfl) (by kernel_rfl) (by kernel_rfl)) ?_
  intro W base args ds gs before hval0 hW hcnd _
  have hval : ∀ (j : Nat) t v, Try.f5.params[j]? = some t → args[j]? = some v → Value.okWide Try.prog W .any base t v := hval0
  have hW' := hW
  obtain ⟨p, q, hA0, hV, rfl, hfz, hnd⟩ := hW
  have hA : DataW.TrodAll enc Try.prog W 0 (fun _ => true) true Try.f5.params.toList args.toList ds p := hA0
  rw [Try.params5] at hA hval
  obtain ⟨v0, vs0, d0, ds0, p0, q0, hargs, rfl, rfl, h0, r0⟩ := trodAll_cons hA
  obtain ⟨rfl, rfl, rfl⟩ := trodAll_nil r0
  obtain rfl : args = #[v0] := by cases args; simp_all
  obtain ⟨rfl, rfl⟩ := trodVars_none hV
  obtain ⟨a0, len0, cap0, rfl⟩ := okWide_slice Try.underlying22 (hval 0 22 v0 rfl rfl)
  have k0 := h0
  have lt0 : ∀ x ∈ p0, x.block < W.heap.size := by obtain ⟨m, hm⟩ := k0; exact DataW.trod_lt m _ _ _ hm
  obtain ⟨z0, w0⟩ : ∃ zs, IsRow .u8 W a0 len0 cap0 zs := by
    obtain ⟨fuel, hf⟩ := h0
    rcases open_ints Try.underlying22 Try.underlying5 (by kernel_rfl) hf with ⟨hcs, _⟩ | ⟨x, l, c, zs, hcs, _, hl, hm, hz, _, hcell, hwz⟩
    · simp [Value.cells] at hcs
      obtain ⟨rfl, rfl, rfl⟩ := hcs
      exact ⟨[], .inl ⟨rfl, rfl, rfl, rfl⟩⟩
    · simp [Value.cells] at hcs
      obtain ⟨rfl, rfl, rfl⟩ := hcs
      exact ⟨zs, .inr ⟨_, rfl, hl, hm, by simpa using hz, hcell, hwz⟩⟩
  clear hA0 hval0
  refine (walk a0 len0 cap0 z0 W w0).mono fun e W' ⟨he, bel⟩ => ?_
  subst he
  exact ⟨_, rfl, _, _, _, [], _, [], hW', trodAll_mk1 (shut_bool Try.underlying4 _), (trodAll_cons_mk (Below.trod laidOut (by kernel_rfl) (of_decide_eq_true (by kernel_rfl)) k0 bel lt0) trodAll_mk0), rfl, bel.frame _, fun h => by cases h⟩

theorem over : Rows.fnAcksRow.holds Try.pinned (OpenSpec.ofChange Rows.fnAcksSpec) :=
  OpenClaim.holds_of_wide 5 Try.f5 rfl rfl rfl rfl rfl rfl rfl ⟨rfl, rfl, rfl, rfl, rfl⟩ rfl rfl rfl rfl rfl (by kernel_rfl) Try.func5 (by kernel_rfl)
    (of_decide_eq_true (by kernel_rfl)) (by unfold Func.isWrapper; first | (rw [if_pos (by decide +kernel)]; kernel_rfl) | (rw [if_neg (by decide +kernel)]; exact ⟨rfl, rfl⟩))
    (fun os started H enc _ => lifted os started H enc)

theorem proved : Rows.FnAcksSaid := over
#print axioms proved
end Go.Proofs.Ytldddkdpoeeomaa.fnAcks

namespace Go.Proofs.Ytldddkdpoeeomaa
theorem fnAcks_holds : Rows.FnAcksSaid := fnAcks.proved
end Go.Proofs.Ytldddkdpoeeomaa
