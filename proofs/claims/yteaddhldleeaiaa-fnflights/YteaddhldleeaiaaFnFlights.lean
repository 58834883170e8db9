/- Proved: whatever bytes come in, the law on flights answers true, and the bytes are as they were; no condition. -/
import Derived.Test.YteaddhldleeaiaaRows
import Derived.WalkKit
import Derived.ProofKit
import Derived.OpenShut
import Derived.ShutString
import Derived.ChangeOld
import Derived.Below
import Derived.Test.YteaddhldleeaiaaBase
import Derived.Test.YteaddhldleeaiaaBox
import Derived.Test.YteaddhldleeaiaaSubBox
import Derived.Test.YteaddhldleeaiaaBytes
import Derived.Test.YteaddhldleeaiaaMem
import Derived.Test.YteaddhldleeaiaaMemOpen
import Derived.Test.YteaddhldleeaiaaMemRow
import Derived.Test.YteaddhldleeaiaaHBase
import Derived.Test.YteaddhldleeaiaaAgg
import Derived.Test.YteaddhldleeaiaaHFlight
import Derived.Test.YteaddhldleeaiaaHSender
import Derived.Test.YteaddhldleeaiaaHOpen0
import Derived.Test.YteaddhldleeaiaaHOpen
import Derived.Test.YteaddhldleeaiaaNum
import Derived.Test.YteaddhldleeaiaaNumWalks
import Derived.Test.YteaddhldleeaiaaFlightDef
import Derived.Test.YteaddhldleeaiaaSpecFlight
import Derived.Test.YteaddhldleeaiaaSpecFlight2
import Derived.Test.YteaddhldleeaiaaAppBytes
import Derived.Test.YteaddhldleeaiaaApp
import Derived.Test.YteaddhldleeaiaaMemApp
import Derived.Test.YteaddhldleeaiaaSpecFlight3
import Derived.Test.YteaddhldleeaiaaHMark
import Derived.Test.YteaddhldleeaiaaMFlight
import Derived.Test.YteaddhldleeaiaaMSender
import Derived.Test.YteaddhldleeaiaaInts
import Derived.Test.YteaddhldleeaiaaIntsOwn
import Derived.Test.YteaddhldleeaiaaSpecFlight5
import Derived.Test.YteaddhldleeaiaaUnwrap
import Derived.Test.YteaddhldleeaiaaAckDef
import Derived.Test.YteaddhldleeaiaaSpecAck
import Derived.Test.YteaddhldleeaiaaAckFacts
import Derived.Test.YteaddhldleeaiaaAckMore
import Derived.Test.YteaddhldleeaiaaFlFacts
import Derived.Test.YteaddhldleeaiaaDraws
import Derived.Test.YteaddhldleeaiaaDrawsD
import Derived.Test.YteaddhldleeaiaaImplFlight
import Derived.Test.YteaddhldleeaiaaImplFlight1
import Derived.Test.YteaddhldleeaiaaImplCopy
import Derived.Test.YteaddhldleeaiaaFlightSet
import Derived.Test.YteaddhldleeaiaaSpecFlight6
import Derived.Test.YteaddhldleeaiaaSpecFlight7
import Derived.Test.YteaddhldleeaiaaImplFlight3
import Derived.Test.YteaddhldleeaiaaImplFlight4
import Derived.Test.YteaddhldleeaiaaIter
import Derived.Test.YteaddhldleeaiaaImplFlight2
import Derived.Test.YteaddhldleeaiaaImplAck
import Derived.Test.YteaddhldleeaiaaImplAck2
import Derived.Test.YteaddhldleeaiaaImplAck3
import Derived.Test.YteaddhldleeaiaaSpecFlight4
import Derived.Test.YteaddhldleeaiaaRegionU
import Derived.Test.YteaddhldleeaiaaStr
import Derived.Test.YteaddhldleeaiaaDrawSndT
import Derived.Test.YteaddhldleeaiaaDrawSnd
import Derived.Test.YteaddhldleeaiaaDrawDue
import Derived.Test.YteaddhldleeaiaaDrawPush
namespace Go.Proofs.Yteaddhldleeaiaa.fnFlights
open Go.ChangeShapes Go.WideShapes Go.ChangeAt Go.RowKit
open Go.ChangeMaps (open_string shut_string)
set_option linter.unusedVariables false

theorem own : ownKnob Try.prog.godebug = none := by kernel_rfl
theorem laidOut : laidOutB Try.prog = true := by kernel_rfl

/-- WHAT THE WALK IS TOLD OF A SLICE OF INTEGERS THAT CAME IN: it is nil; or it leads to a row of 'cap' cells, the numbers 'zs' (the first 'len' are its elements, the rest its spare room), each fitting its kind. -/
def IsRow (k : IntKind) (w : World) (a : Option Addr) (len cap : Nat) (zs : List Int) : Prop :=
  (a = none ∧ len = 0 ∧ cap = 0 ∧ zs = []) ∨
  ∃ x, a = some x ∧ len ≤ cap ∧ cap ≤ maxLen ∧ zs.length = cap ∧ (∀ i, i < zs.length → w.cell? (x.add i) = some (.int k (zs.getD i 0))) ∧ ∀ n ∈ zs, (Lit.int k n).wf = true

theorem gfld0 (c0 c1 c2 c3 c4 : Value) (w : World) : Sem.run Try.prog (Instr.field 30 (.agg #[c0, c1, c2, c3, c4]) 0) w = .ok c0 w := by
  simp [Instr.field, asAgg, part, go_sem]
theorem gfldI (c0 c1 : Value) (w : World) : Sem.run Try.prog (Instr.field 33 (.agg #[c0, c1]) 1) w = .ok c1 w := by
  simp [Instr.field, asAgg, part, go_sem]
theorem snd_form {w : World} {B : Nat} {x : DSender} {a b c u : Value} (h : shSender.Rd w B x [a, b, c, u]) : ∃ va vc, u = .slice va x.2.2.2.1.length vc ∧ shFlights.Rd w B x.2.2.2.1 [.slice va x.2.2.2.1.length vc] := by
  obtain ⟨vv, ev, rk, -⟩ := rd_Sender h
  simp only [List.cons.injEq, and_true] at ev
  obtain ⟨-, -, -, rfl⟩ := ev
  obtain ⟨va, vc, ev2⟩ := row_form rk
  simp only [List.cons.injEq, and_true] at ev2
  subst ev2
  exact ⟨va, vc, rfl, rk⟩
theorem by_form {w : World} {l : List Int} {v : Value} (h : u8s.Rd w w.heap.size l [v]) : ∃ a cap, v = .slice a l.length cap ∧ ∀ W, Below w.heap.size w W → RB W a l := by
  obtain ⟨a, cap, e, r1, r2, -⟩ := rd_bytes h
  simp only [List.cons.injEq, and_true] at e
  exact ⟨a, cap, e, fun W hW => r1.below (Nat.le_refl _) hW⟩
theorem g64 {z : Int} (h0 : -9223372036854775808 ≤ z) (h1 : z ≤ 9223372036854775807) : IntKind.i64.wrap z = z := by simp only [IntKind.wrap, IntKind.bits, IntKind.signed]; simp; omega
set_option maxHeartbeats 16000000 in
set_option maxRecDepth 8000 in
theorem walk (a0 : Option Addr) (len0 cap0 : Nat) (z0 : List Int) (w : World) (w0 : IsRow .u8 w a0 len0 cap0 z0) :
    Calls Try.prog 3 #[.slice a0 len0 cap0] w fun e w' => e = .returned (.bool true) ∧ Below w.heap.size w w' := by
  have r0 : BRow .u8 w a0 len0 cap0 z0 := w0
  have hl := r0.lt
  by_cases hbig : 1048576 < len0
  · clear r0 hl w0
    go_enter Try.func3, Try.ntmps3
    go_wp2
    go_ret
    exact ⟨rfl, by go_grown⟩
  · clear w0
    go_enter Try.func3, Try.ntmps3
    go_wp2_with (first | (go_at_call 4; go_in) | fail)
    refine (dPush a0 len0 cap0 z0 w r0 hl).mono ?_
    rintro e w1 ⟨x, u, lv, ld, data, now, rfl, hrd, hbr, hl9, ⟨hd0, hd1⟩, ⟨hn0, hn1⟩, hT, b1⟩
    clear r0 hl
    obtain ⟨va, vc, rfl, rk⟩ := snd_form hrd
    obtain ⟨la, lc, rfl, hRB⟩ := by_form hbr
    have hmx : x.2.2.2.1.length ≤ 9223372036854775807 := row_max rk
    have hwd : (Lit.int .i64 data).wf = true := WalkArith.wf_i64 (by omega)
    have hwn : (Lit.int .i64 now).wf = true := WalkArith.wf_i64 (by omega)
    have HCL : Hid (∀ W, Below w1.heap.size w1 W → (convert 22 9 (.slice la ld.length lc)).run Try.prog W = .ok (.string (strOfNums ld)) W) := fun W h => cv_str la ld.length lc ld W rfl (hRB W h)
    have HI : Hid (∀ W, Below w1.heap.size w1 W → Calls Try.prog 6 #[.agg #[.int .i64 x.1, .int .i64 x.2.1, .int .i64 x.2.2.1, .slice va x.2.2.2.1.length vc], .int .i64 data, .slice la ld.length lc, .int .i64 now] W fun e w' => ∃ u, e = .returned (.agg #[.int .i64 (pshC x data ld now), .int .i64 (pshV x data ld now).1, .int .i64 (pshV x data ld now).2.1, .int .i64 (pshV x data ld now).2.2.1, u]) ∧ Own w' W.heap.size w'.heap.size shSender (pshV x data ld now) [.int .i64 (pshV x data ld now).1, .int .i64 (pshV x data ld now).2.1, .int .i64 (pshV x data ld now).2.2.1, u] ∧ Below W.heap.size W w') := fun W h => iPushFlight x _ data ld _ now W w1.heap.size (Sh.Rd.below hrd (Nat.le_refl _) h) (Sh.Rd.below (s := u8s) hbr (Nat.le_refl _) h) h.size hT (by omega) hwd hwn
    have HS : Hid (∀ W, Below w1.heap.size w1 W → Calls Try.prog 7 #[.agg #[.int .i64 x.1, .int .i64 x.2.1, .int .i64 x.2.2.1, .slice va x.2.2.2.1.length vc], .int .i64 data, .slice la ld.length lc, .int .i64 now] W fun e w' => ∃ u, e = .returned (.agg #[.int .i64 (pshC x data ld now), .int .i64 (pshV x data ld now).1, .int .i64 (pshV x data ld now).2.1, .int .i64 (pshV x data ld now).2.2.1, u]) ∧ Own w' W.heap.size w'.heap.size shSender (pshV x data ld now) [.int .i64 (pshV x data ld now).1, .int .i64 (pshV x data ld now).2.1, .int .i64 (pshV x data ld now).2.2.1, u] ∧ Below W.heap.size W w') := fun W h => sPushFlight x _ data ld _ now W w1.heap.size (Sh.Rd.below hrd (Nat.le_refl _) h) (Sh.Rd.below (s := u8s) hbr (Nat.le_refl _) h) h.size hT (by omega) hwd hwn
    have HOX : Hid (∀ W, Below w1.heap.size w1 W → Calls Try.prog 11 #[.agg #[.int .i64 x.1, .int .i64 x.2.1, .int .i64 x.2.2.1, .slice va x.2.2.2.1.length vc]] W fun e w' => e = .returned (.agg #[.int .i64 (sndFault x), .int .i64 (onwV x)]) ∧ Below W.heap.size W w') := fun W h => iOnWay x _ W w1.heap.size (Sh.Rd.below hrd (Nat.le_refl _) h) h.size hT
    have HB1 : Hid (Below w.heap.size w w1) := b1
    have hf0 := gfld0
    have hfI := gfldI
    clear hrd hbr hT b1 rk hRB hwd hwn
    by_cases hC : pshC x data ld now = 0
    case neg =>
      have hC' : (pshC x data ld now != 0) = true := by simp [hC]
      clear HOX HCL hC hfI
      generalize pshC x data ld now = C at *
      generalize pshV x data ld now = V at *
      generalize x.1 = y0 at *
      generalize x.2.1 = y1 at *
      generalize x.2.2.1 = y2 at *
      generalize x.2.2.2.1.length = n at *
      generalize ld.length = ln at *
      go_wp2_with fail
      refine (HI.out _ ((Below.refl _ _).alloc (Nat.le_refl _) _)).mono ?_
      rintro e w2 ⟨u, rfl, ho, hb⟩
      obtain ⟨ua, uc, rfl, -⟩ := snd_form (ho.rd (Nat.le_refl _))
      generalize V.2.2.2.1.length = un at *
      generalize V.1 = v0 at *
      generalize V.2.1 = v1 at *
      generalize V.2.2.1 = v2 at *
      have k2 := bx_new hb
      obtain ⟨hc, z2⟩ := bl_new hb
      have D2 : Hid (Below w1.heap.size w1 w2) := hc
      clear hb hc ho HI
      go_wp2_with fail
      go_region_with (go_at_call 7; refine (HS.out _ (by have h := D2.out; go_grown)).mono ?_; rintro e w3 ⟨u3, rfl, ho3, hb⟩; obtain ⟨ua3, uc3, rfl, -⟩ := snd_form (ho3.rd (Nat.le_refl _)); clear ho3; have hd : Below w2.heap.size w2 w3 := (((Below.refl w2.heap.size w2).alloc (Nat.le_refl _) _).drew).trans (hb.mono (by simp)); have q3 : ∀ o, w3.cell? ⟨w2.heap.size, o, none⟩ = (#[.int .i64 C, .int .i64 v0, .int .i64 v1, .int .i64 v2, .slice ua un uc] : Array Value)[o]? := (fun o => (hb.cell (p := ⟨w2.heap.size, o, none⟩) (by simp)).trans (by simp [go_sem])); have k3 := bx_below k2 z2 hd; have D3 : Hid (Below w1.heap.size w1 w3) := D2.out.trans (hd.mono D2.out.size); clear hb hd)
      all_goals (go_wp2_with fail; go_ret; exact ⟨rfl, HB1.out.trans (D3.out.mono HB1.out.size)⟩)
    obtain ⟨p0, p1, pf, po, po0, po1, p12, pl8, pd, pd1, pd2, pt, ptk, ptr⟩ := push_all hC
    obtain ⟨a0q, a1q, a2q, a3q, a4q⟩ := ack_full p1
    have pty := psh_tot x data ld now
    rw [hC] at HI
    rw [p0] at HOX
    clear hC HS hf0
    generalize pshV x data ld now = y at *
    have RDY : ∀ {P : Prop}, P → P := fun h => h
    clear RDY
    have hm : y.2.2.2.1.length = x.2.2.2.1.length + 1 := by rw [pf]; simp
    have hlast : ∀ k, k = x.2.2.2.1.length → ∀ (h : k < y.2.2.2.1.length), (y.2.2.2.1[k]'h).2.2.1 = ld := fun k e h => by subst e; simp only [pf]; rw [List.getElem_append_right (Nat.le_refl _)]; simp
    have HLA : Hid _ := hlast
    clear hlast pf
    obtain ⟨sv, hsv⟩ : ∃ s, s = seqV y y.2.1 := ⟨_, rfl⟩
    rw [← hsv] at a1q a2q a3q a4q
    have HSq : Hid (∀ (W : World) (u : Value), shSender.Rd W W.heap.size y [.int .i64 y.1, .int .i64 y.2.1, .int .i64 y.2.2.1, u] → Calls Try.prog 8 #[.agg #[.int .i64 y.1, .int .i64 y.2.1, .int .i64 y.2.2.1, u], .int .i64 y.2.1] W fun e w' => e = .returned (.agg #[.int .i64 0, .int .i64 sv]) ∧ Below W.heap.size W w') := fun W u h => by have hq := iSeqOf y u y.2.1 W W.heap.size h (Nat.le_refl _) pty; rw [a0q, ← hsv] at hq; exact hq
    obtain ⟨r, hr⟩ : ∃ r, r = ackV y sv := ⟨_, rfl⟩
    have ptr' := ack_tot y sv
    rw [← hr] at a2q a3q a4q ptr'
    have hrl : r.2.2.2.1.length = 0 := by rw [a2q]; rfl
    have HAk : Hid (∀ (W : World) (u : Value), shSender.Rd W W.heap.size y [.int .i64 y.1, .int .i64 y.2.1, .int .i64 y.2.2.1, u] → Calls Try.prog 9 #[.agg #[.int .i64 y.1, .int .i64 y.2.1, .int .i64 y.2.2.1, u], .int .i64 sv] W fun e w' => ∃ u, e = .returned (.agg #[.int .i64 0, .int .i64 r.1, .int .i64 r.2.1, .int .i64 r.2.2.1, u]) ∧ Own w' W.heap.size w'.heap.size shSender r [.int .i64 r.1, .int .i64 r.2.1, .int .i64 r.2.2.1, u] ∧ Below W.heap.size W w') := fun W u h => by have hq := iAckSender y u sv W W.heap.size h (Nat.le_refl _) pty; rw [a1q, ← hr] at hq; exact hq
    have HFy : Hid (∀ (W : World) (u : Value), shSender.Rd W W.heap.size y [.int .i64 y.1, .int .i64 y.2.1, .int .i64 y.2.2.1, u] → Calls Try.prog 10 #[.agg #[.int .i64 y.1, .int .i64 y.2.1, .int .i64 y.2.2.1, u]] W fun e w' => e = .returned (.int .i64 0) ∧ Below W.heap.size W w') := fun W u h => by have hq := iSenderFault y u W W.heap.size h (Nat.le_refl _) pty; rw [p1] at hq; exact hq
    have HOy : Hid (∀ (W : World) (u : Value), shSender.Rd W W.heap.size y [.int .i64 y.1, .int .i64 y.2.1, .int .i64 y.2.2.1, u] → Calls Try.prog 11 #[.agg #[.int .i64 y.1, .int .i64 y.2.1, .int .i64 y.2.2.1, u]] W fun e w' => e = .returned (.agg #[.int .i64 0, .int .i64 (onwV x + (ld.length : Int))]) ∧ Below W.heap.size W w') := fun W u h => by have hq := iOnWay y u W W.heap.size h (Nat.le_refl _) pty; rw [p1, po] at hq; exact hq
    have HDu : Hid (∀ (W : World) (u : Value), shSender.Rd W W.heap.size y [.int .i64 y.1, .int .i64 y.2.1, .int .i64 y.2.2.1, u] → Calls Try.prog 12 #[.agg #[.int .i64 y.1, .int .i64 y.2.1, .int .i64 y.2.2.1, u], .int .i64 now, .int .i64 0] W fun e w' => ∃ u, e = .returned (.agg #[.int .i64 0, u]) ∧ Own w' W.heap.size w'.heap.size i64s (dueV y now 0) [u] ∧ Below W.heap.size W w') := fun W u h => by have hq := iDueFlights y u now 0 W W.heap.size h (Nat.le_refl _) pty; rw [pd] at hq; exact hq
    have HTT0 : Hid (∀ t, t = tchV y (x.2.2.2.1.length : Int) now → ∃ k, k = x.2.2.2.1.length ∧ ∃ hk : k < t.2.2.2.1.length, t.2.2.2.1[k].2.2.2.2.1 = 2) := fun t e => by subst e; exact ⟨_, rfl, ptk, ptr⟩
    clear ptk ptr
    obtain ⟨t, ht⟩ : ∃ t, t = tchV y (x.2.2.2.1.length : Int) now := ⟨_, rfl⟩
    have HTc : Hid (∀ (W : World) (u : Value), shSender.Rd W W.heap.size y [.int .i64 y.1, .int .i64 y.2.1, .int .i64 y.2.2.1, u] → Calls Try.prog 13 #[.agg #[.int .i64 y.1, .int .i64 y.2.1, .int .i64 y.2.2.1, u], .int .i64 (x.2.2.2.1.length : Int), .int .i64 now] W fun e w' => ∃ u, e = .returned (.agg #[.int .i64 0, .int .i64 t.1, .int .i64 t.2.1, .int .i64 t.2.2.1, u]) ∧ Own w' W.heap.size w'.heap.size shSender t [.int .i64 t.1, .int .i64 t.2.1, .int .i64 t.2.2.1, u] ∧ Below W.heap.size W w') := fun W u h => by have hq := iTouchFlight y u (x.2.2.2.1.length : Int) now W W.heap.size h (Nat.le_refl _) pty; rw [pt, ← ht] at hq; exact hq
    have HFr : Hid (∀ (W : World) (u : Value), shSender.Rd W W.heap.size r [.int .i64 r.1, .int .i64 r.2.1, .int .i64 r.2.2.1, u] → Calls Try.prog 10 #[.agg #[.int .i64 r.1, .int .i64 r.2.1, .int .i64 r.2.2.1, u]] W fun e w' => e = .returned (.int .i64 0) ∧ Below W.heap.size W w') := fun W u h => by have hq := iSenderFault r u W W.heap.size h (Nat.le_refl _) ptr'; rw [a4q] at hq; exact hq
    have HOr : Hid (∀ (W : World) (u : Value), shSender.Rd W W.heap.size r [.int .i64 r.1, .int .i64 r.2.1, .int .i64 r.2.2.1, u] → Calls Try.prog 11 #[.agg #[.int .i64 r.1, .int .i64 r.2.1, .int .i64 r.2.2.1, u]] W fun e w' => e = .returned (.agg #[.int .i64 0, .int .i64 0]) ∧ Below W.heap.size W w') := fun W u h => by have hq := iOnWay r u W W.heap.size h (Nat.le_refl _) ptr'; rw [a4q, a3q] at hq; exact hq
    have HTT : Hid (∃ k, k = x.2.2.2.1.length ∧ ∃ hk : k < t.2.2.2.1.length, t.2.2.2.1[k].2.2.2.2.1 = 2) := HTT0.out t ht
    clear HTT0
    have HDL : Hid (1 ≤ (dueV y now 0).length ∧ (dueV y now 0).length ≤ 12) := ⟨pd1, pd2⟩
    have HRL : Hid (r.2.2.2.1.length = 0) := hrl
    clear a0q a1q a2q a3q a4q p0 p1 po pd pd1 pd2 pt ptr' pty hsv hr ht hrl
    generalize onwV x = ov at *
    obtain ⟨n, hn⟩ : ∃ n, n = x.2.2.2.1.length := ⟨_, rfl⟩
    rw [← hn] at hm p12 hmx HI HOX HTc ⊢
    rw [← hn] at HLA HTT
    obtain ⟨ln, hln⟩ : ∃ n, n = ld.length := ⟨_, rfl⟩
    rw [← hln] at pl8 hl9 HI HCL HOy ⊢
    have HLN : Hid (ln = ld.length) := hln
    clear hn hln
    generalize x.1 = x0 at *
    generalize x.2.1 = x1 at *
    generalize x.2.2.1 = x2 at *
    have S2 : strOfNums ld = strOfNums ld := rfl
    clear S2
    go_wp2_with fail
    refine (HI.out _ ((Below.refl _ _).alloc (Nat.le_refl _) _)).mono ?_
    rintro e w2 ⟨u, rfl, ho, hb⟩
    clear HI
    have HO0 : Hid (∀ W, Below w2.heap.size w2 W → shSender.Rd W W.heap.size y [.int .i64 y.1, .int .i64 y.2.1, .int .i64 y.2.2.1, u]) := fun W hW => Sh.Rd.mono hW.size _ _ _ ((ho.rd (Nat.le_refl _)).below (Nat.le_refl _) hW)
    obtain ⟨ua, uc, rfl, rku⟩ := snd_form (ho.rd (Nat.le_refl _))
    have HO : Hid _ := HO0.out
    clear HO0
    obtain ⟨ub, uo, uv, hua, hub, -, -, cf, -, -, rdf⟩ := at_Flights rku n (by omega)
    subst hua
    obtain ⟨fv, efv, rbf, -⟩ := rd_Flight rdf
    simp only [List.cons.injEq, and_true, true_and] at efv
    subst efv
    rw [HLA.out n rfl (by omega)] at rbf
    obtain ⟨fa, fc, efa, rb1, -, -⟩ := rd_bytes rbf
    simp only [List.cons.injEq, and_true] at efa
    subst efa
    rw [← HLN.out] at cf
    have HCF : Hid (∀ W, Below w2.heap.size w2 W → W.cell? ⟨ub, uo + n * 5 + 2, none⟩ = some (.slice fa ln fc)) := fun W hW => (hW.cell (p := ⟨ub, uo + n * 5 + 2, none⟩) hub).trans cf
    have HCY : Hid (∀ W, Below w2.heap.size w2 W → (convert 22 9 (.slice fa ln fc)).run Try.prog W = .ok (.string (strOfNums ld)) W) := fun W hW => cv_str fa ln fc ld W HLN.out.symm (rb1.below (Nat.le_refl _) hW)
    clear rku cf rdf rbf rb1 HLA HLN hub
    generalize strOfNums ld = SS at *
    generalize hm9 : y.2.2.2.1.length = m at *
    clear hm9
    generalize y.1 = y0 at *
    generalize y.2.1 = y1 at *
    generalize y.2.2.1 = y2 at *
    have kX := bx_new hb
    obtain ⟨hc, zX⟩ := bl_new hb
    have D1 : Hid (Below w1.heap.size w1 w2) := hc
    have HB : Hid (Below w.heap.size w w2) := HB1.out.trans (hc.mono HB1.out.size)
    have D2 : Hid (Below w2.heap.size w2 w2) := Below.refl _ _
    clear hb hc ho HB1
    obtain ⟨bX, hbX⟩ : ∃ q, q = w1.heap.size := ⟨_, rfl⟩
    have hD1 := D1.out
    clear D1
    have D1 : Hid (Below w1.heap.size w1 w2) := hD1
    clear hD1
    rw [← hbX] at kX zX ⊢
    clear hbX
    have a1 : (n : Int) + 1 = (m : Int) := by omega
    have a2 : (m : Int) - 1 = (n : Int) := by omega
    have a3 : IntKind.i64.wrap ((n : Int) + 1) = (m : Int) := by rw [g64 (by omega) (by omega)]; omega
    have a4 : IntKind.i64.wrap ((m : Int) - 1) = (n : Int) := by rw [g64 (by omega) (by omega)]; omega
    have a5 : IntKind.i64.wrap (ov + (ln : Int)) = ov + (ln : Int) := g64 (by omega) (by omega)
    have a6 : (n : Int) < (m : Int) := by omega
    have a7 : (0 : Int) ≤ (n : Int) := by omega
    have a8 : IntKind.i64.wrap (m : Int) = (m : Int) := g64 (by omega) (by omega)
    have a9 : IntKind.i64.wrap (n : Int) = (n : Int) := g64 (by omega) (by omega)
    clear hd0 hd1 hn0 hn1 hl9 hmx p12 pl8 po0 po1 hm
    go_upto_region 5 with fail
    have kY : ∀ o, (w2.alloc (.cells #[.int .i64 0, .int .i64 y0, .int .i64 y1, .int .i64 y2, .slice (some ⟨ub, uo, none⟩) m uc] 30)).cell? ⟨w2.heap.size, o, none⟩ = (#[.int .i64 0, .int .i64 y0, .int .i64 y1, .int .i64 y2, .slice (some ⟨ub, uo, none⟩) m uc] : Array Value)[o]? := bx_al w2 _ _
    have hb : Below w2.heap.size w2 (w2.alloc (.cells #[.int .i64 0, .int .i64 y0, .int .i64 y1, .int .i64 y2, .slice (some ⟨ub, uo, none⟩) m uc] 30)) := (Below.refl _ _).alloc (Nat.le_refl _) _
    have zY : w2.heap.size < (w2.alloc (.cells #[.int .i64 0, .int .i64 y0, .int .i64 y1, .int .i64 y2, .slice (some ⟨ub, uo, none⟩) m uc] 30)).heap.size := by simp
    generalize hWW : (w2.alloc (.cells #[.int .i64 0, .int .i64 y0, .int .i64 y1, .int .i64 y2, .slice (some ⟨ub, uo, none⟩) m uc] 30)) = w3 at kY hb zY ⊢
    clear hWW
    obtain ⟨bY, hq⟩ : ∃ q, q = w2.heap.size := ⟨_, rfl⟩
    rw [← hq] at zY kY ⊢
    clear hq
    replace D1 : Hid (Below w1.heap.size w1 w3) := D1.out.trans (hb.mono D1.out.size)
    replace D2 : Hid (Below w2.heap.size w2 w3) := D2.out.trans (hb.mono D2.out.size)
    replace kX := bx_below kX zX hb
    replace zX := Nat.lt_of_lt_of_le zX hb.size
    replace HB : Hid (Below w.heap.size w w3) := HB.out.trans (hb.mono HB.out.size)
    clear hb
    go_wp2_with fail
    refine (HSq.out _ _ (HO.out _ D2.out)).mono ?_
    rintro e w4 ⟨rfl, hb⟩
    replace D1 : Hid (Below w1.heap.size w1 w4) := D1.out.trans (hb.mono D1.out.size)
    replace D2 : Hid (Below w2.heap.size w2 w4) := D2.out.trans (hb.mono D2.out.size)
    replace kX := bx_below kX zX hb
    replace zX := Nat.lt_of_lt_of_le zX hb.size
    replace kY := bx_below kY zY hb
    replace zY := Nat.lt_of_lt_of_le zY hb.size
    replace HB : Hid (Below w.heap.size w w4) := HB.out.trans (hb.mono HB.out.size)
    clear hb
    clear HSq
    go_upto_region 8 with fail
    have kQ : ∀ o, (w4.alloc (.cells #[.int .i64 0, .int .i64 sv] 33)).cell? ⟨w4.heap.size, o, none⟩ = (#[.int .i64 0, .int .i64 sv] : Array Value)[o]? := bx_al w4 _ _
    have hb : Below w4.heap.size w4 (w4.alloc (.cells #[.int .i64 0, .int .i64 sv] 33)) := (Below.refl _ _).alloc (Nat.le_refl _) _
    have zQ : w4.heap.size < (w4.alloc (.cells #[.int .i64 0, .int .i64 sv] 33)).heap.size := by simp
    generalize hWW : (w4.alloc (.cells #[.int .i64 0, .int .i64 sv] 33)) = w5 at kQ hb zQ ⊢
    clear hWW
    obtain ⟨bQ, hq⟩ : ∃ q, q = w4.heap.size := ⟨_, rfl⟩
    rw [← hq] at zQ kQ ⊢
    clear hq
    replace D1 : Hid (Below w1.heap.size w1 w5) := D1.out.trans (hb.mono D1.out.size)
    replace D2 : Hid (Below w2.heap.size w2 w5) := D2.out.trans (hb.mono D2.out.size)
    replace kX := bx_below kX zX hb
    replace zX := Nat.lt_of_lt_of_le zX hb.size
    replace kY := bx_below kY zY hb
    replace zY := Nat.lt_of_lt_of_le zY hb.size
    replace HB : Hid (Below w.heap.size w w5) := HB.out.trans (hb.mono HB.out.size)
    clear hb
    go_wp2_with fail
    refine (HAk.out _ _ (HO.out _ D2.out)).mono ?_
    rintro e w6 ⟨u6, rfl, ho6, hb⟩
    clear HAk
    replace D1 : Hid (Below w1.heap.size w1 w6) := D1.out.trans (hb.mono D1.out.size)
    replace D2 : Hid (Below w2.heap.size w2 w6) := D2.out.trans (hb.mono D2.out.size)
    replace kX := bx_below kX zX hb
    replace zX := Nat.lt_of_lt_of_le zX hb.size
    replace kY := bx_below kY zY hb
    replace zY := Nat.lt_of_lt_of_le zY hb.size
    replace kQ := bx_below kQ zQ hb
    replace zQ := Nat.lt_of_lt_of_le zQ hb.size
    replace HB : Hid (Below w.heap.size w w6) := HB.out.trans (hb.mono HB.out.size)
    clear hb
    have HR0 : Hid (∀ W, Below w6.heap.size w6 W → shSender.Rd W W.heap.size r [.int .i64 r.1, .int .i64 r.2.1, .int .i64 r.2.2.1, u6]) := fun W hW => Sh.Rd.mono hW.size _ _ _ ((ho6.rd (Nat.le_refl _)).below (Nat.le_refl _) hW)
    obtain ⟨ra, rc, rfl, -⟩ := snd_form (ho6.rd (Nat.le_refl _))
    rw [HRL.out] at HR0 ⊢
    have HRR : Hid _ := HR0.out
    have D6 : Hid (Below w6.heap.size w6 w6) := Below.refl _ _
    clear HR0 ho6 HRL
    generalize r.1 = r0 at *
    generalize r.2.1 = r1 at *
    generalize r.2.2.1 = r2 at *
    go_upto_region 9 with fail
    have kR : ∀ o, (w6.alloc (.cells #[.int .i64 0, .int .i64 r0, .int .i64 r1, .int .i64 r2, .slice ra 0 rc] 30)).cell? ⟨w6.heap.size, o, none⟩ = (#[.int .i64 0, .int .i64 r0, .int .i64 r1, .int .i64 r2, .slice ra 0 rc] : Array Value)[o]? := bx_al w6 _ _
    have hb : Below w6.heap.size w6 (w6.alloc (.cells #[.int .i64 0, .int .i64 r0, .int .i64 r1, .int .i64 r2, .slice ra 0 rc] 30)) := (Below.refl _ _).alloc (Nat.le_refl _) _
    have zR : w6.heap.size < (w6.alloc (.cells #[.int .i64 0, .int .i64 r0, .int .i64 r1, .int .i64 r2, .slice ra 0 rc] 30)).heap.size := by simp
    generalize hWW : (w6.alloc (.cells #[.int .i64 0, .int .i64 r0, .int .i64 r1, .int .i64 r2, .slice ra 0 rc] 30)) = w7 at kR hb zR ⊢
    clear hWW
    obtain ⟨bR, hq⟩ : ∃ q, q = w6.heap.size := ⟨_, rfl⟩
    rw [← hq] at zR kR ⊢
    clear hq
    replace D1 : Hid (Below w1.heap.size w1 w7) := D1.out.trans (hb.mono D1.out.size)
    replace D2 : Hid (Below w2.heap.size w2 w7) := D2.out.trans (hb.mono D2.out.size)
    replace D6 : Hid (Below w6.heap.size w6 w7) := D6.out.trans (hb.mono D6.out.size)
    replace kX := bx_below kX zX hb
    replace zX := Nat.lt_of_lt_of_le zX hb.size
    replace kY := bx_below kY zY hb
    replace zY := Nat.lt_of_lt_of_le zY hb.size
    replace kQ := bx_below kQ zQ hb
    replace zQ := Nat.lt_of_lt_of_le zQ hb.size
    replace HB : Hid (Below w.heap.size w w7) := HB.out.trans (hb.mono HB.out.size)
    clear hb
    go_upto_region 10 with fail
    go_cut [97] (fun u wx => u = .bool false ∧ Hid (Below w7.heap.size w7 wx))
    case first =>
      refine wp_region_noPanic ?_
      refine Goes.start (S := fun w' => Below w7.heap.size w7 w') (z := 100) (by kernel_rfl) ?_
      refine Goes.take (i := 0) (oi := ?oi2) (x := ?vx2) ?ho2 (by kernel_rfl) (by kernel_rfl) (by kernel_rfl) (by kernel_rfl) (fun _ _ _ h => h) (Or.inl ⟨?hw2, ?hy2⟩) (Below.drew (Below.refl _ _)) ?rest2
      case ho2 => (simp only [List.getElem?_toArray, List.getElem?_cons_zero] <;> rfl)
      case hw2 => rfl
      case hy2 => (intro w' hSw; have jX := fun o => (hSw.cell (p := ⟨bX, o, none⟩) zX).trans (kX o); have jY := fun o => (hSw.cell (p := ⟨bY, o, none⟩) zY).trans (kY o); have jQ := fun o => (hSw.cell (p := ⟨bQ, o, none⟩) zQ).trans (kQ o); go_simp; (try with_reducible rfl))
      case rest2 =>
      (try simp only [Act.put, List.setIfInBounds_toArray, List.set_cons_zero, List.set_cons_succ])
      refine Goes.take (i := 1) (oi := ?oi3) (x := ?vx3) ?ho3 (by kernel_rfl) (by kernel_rfl) (by kernel_rfl) (by kernel_rfl) (fun _ _ _ h => h) (Or.inl ⟨?hw3, ?hy3⟩) (Below.drew (Below.refl _ _)) ?rest3
      case ho3 => (simp only [List.getElem?_toArray, List.getElem?_cons_succ, List.getElem?_cons_zero] <;> rfl)
      case hw3 => rfl
      case hy3 => (intro w' hSw; have jX := fun o => (hSw.cell (p := ⟨bX, o, none⟩) zX).trans (kX o); have jY := fun o => (hSw.cell (p := ⟨bY, o, none⟩) zY).trans (kY o); have jQ := fun o => (hSw.cell (p := ⟨bQ, o, none⟩) zQ).trans (kQ o); go_simp; (try with_reducible rfl))
      case rest3 =>
      (try simp only [Act.put, List.setIfInBounds_toArray, List.set_cons_zero, List.set_cons_succ])
      refine Goes.all (rs := [2]) (by kernel_rfl) (by simp) ?_
      refine Ups.cons (i := 2) (o := ?oo4) ?ho4 (fun KK hKK => ?stp4) Ups.nil
      case ho4 => (simp only [List.getElem?_toArray, List.getElem?_cons_succ, List.getElem?_cons_zero] <;> rfl)
      case stp4 =>
      go_simp
      go_at_call 10
      refine (HFy.out _ _ (HO.out _ (D2.out.trans ((Below.drew (Below.refl _ _)).mono D2.out.size)))).mono ?_
      rintro e w8 ⟨rfl, hbq⟩
      replace hbq := (Below.drew (Below.refl w7.heap.size w7)).trans hbq
      have HS4 : Hid (Below w7.heap.size w7 w8) := hbq
      clear hbq
      dsimp only
      refine hKK.out _ _ (Or.inr HS4.out) ?_
      clear hKK KK
      (try simp only [Act.put, List.setIfInBounds_toArray, List.set_cons_zero, List.set_cons_succ])
      refine Goes.take (i := 3) (oi := ?oi5) (x := ?vx5) ?ho5 (by kernel_rfl) (by kernel_rfl) (by kernel_rfl) (by kernel_rfl) (fun _ _ _ h => h) (Or.inl ⟨?hw5, ?hy5⟩) HS4.out ?rest5
      case ho5 => (simp only [List.getElem?_toArray, List.getElem?_cons_succ, List.getElem?_cons_zero] <;> rfl)
      case hw5 => rfl
      case hy5 => (intro w' hSw; have jX := fun o => (hSw.cell (p := ⟨bX, o, none⟩) zX).trans (kX o); have jY := fun o => (hSw.cell (p := ⟨bY, o, none⟩) zY).trans (kY o); have jQ := fun o => (hSw.cell (p := ⟨bQ, o, none⟩) zQ).trans (kQ o); go_simp; (try with_reducible rfl))
      case rest5 =>
      (try simp only [Act.put, List.setIfInBounds_toArray, List.set_cons_zero, List.set_cons_succ])
      refine Goes.take (i := 4) (oi := ?oi6) (x := ?vx6) ?ho6 (by kernel_rfl) (by kernel_rfl) (by kernel_rfl) (by kernel_rfl) (fun _ _ _ h => h) (Or.inl ⟨?hw6, ?hy6⟩) HS4.out ?rest6
      case ho6 => (simp only [List.getElem?_toArray, List.getElem?_cons_succ, List.getElem?_cons_zero] <;> rfl)
      case hw6 => rfl
      case hy6 => (intro w' hSw; have jX := fun o => (hSw.cell (p := ⟨bX, o, none⟩) zX).trans (kX o); have jY := fun o => (hSw.cell (p := ⟨bY, o, none⟩) zY).trans (kY o); have jQ := fun o => (hSw.cell (p := ⟨bQ, o, none⟩) zQ).trans (kQ o); go_simp; (try with_reducible rfl))
      case rest6 =>
      (try simp only [Act.put, List.setIfInBounds_toArray, List.set_cons_zero, List.set_cons_succ])
      refine Goes.take (i := 5) (oi := ?oi7) (x := ?vx7) ?ho7 (by kernel_rfl) (by kernel_rfl) (by kernel_rfl) (by kernel_rfl) (fun _ _ _ h => h) (Or.inl ⟨?hw7, ?hy7⟩) HS4.out ?rest7
      case ho7 => (simp only [List.getElem?_toArray, List.getElem?_cons_succ, List.getElem?_cons_zero] <;> rfl)
      case hw7 => rfl
      case hy7 => (intro w' hSw; have jX := fun o => (hSw.cell (p := ⟨bX, o, none⟩) zX).trans (kX o); have jY := fun o => (hSw.cell (p := ⟨bY, o, none⟩) zY).trans (kY o); have jQ := fun o => (hSw.cell (p := ⟨bQ, o, none⟩) zQ).trans (kQ o); go_simp; (try with_reducible rfl))
      case rest7 =>
      (try simp only [Act.put, List.setIfInBounds_toArray, List.set_cons_zero, List.set_cons_succ])
      refine Goes.take (i := 6) (oi := ?oi8) (x := ?vx8) ?ho8 (by kernel_rfl) (by kernel_rfl) (by kernel_rfl) (by kernel_rfl) (fun _ _ _ h => h) (Or.inl ⟨?hw8, ?hy8⟩) HS4.out ?rest8
      case ho8 => (simp only [List.getElem?_toArray, List.getElem?_cons_succ, List.getElem?_cons_zero] <;> rfl)
      case hw8 => rfl
      case hy8 => (intro w' hSw; have jX := fun o => (hSw.cell (p := ⟨bX, o, none⟩) zX).trans (kX o); have jY := fun o => (hSw.cell (p := ⟨bY, o, none⟩) zY).trans (kY o); have jQ := fun o => (hSw.cell (p := ⟨bQ, o, none⟩) zQ).trans (kQ o); go_simp; (try with_reducible rfl))
      case rest8 =>
      (try simp only [Act.put, List.setIfInBounds_toArray, List.set_cons_zero, List.set_cons_succ])
      refine Goes.take (i := 7) (oi := ?oi9) (x := ?vx9) ?ho9 (by kernel_rfl) (by kernel_rfl) (by kernel_rfl) (by kernel_rfl) (fun _ _ _ h => h) (Or.inl ⟨?hw9, ?hy9⟩) HS4.out ?rest9
      case ho9 => (simp only [List.getElem?_toArray, List.getElem?_cons_succ, List.getElem?_cons_zero] <;> rfl)
      case hw9 => rfl
      case hy9 => (intro w' hSw; have jX := fun o => (hSw.cell (p := ⟨bX, o, none⟩) zX).trans (kX o); have jY := fun o => (hSw.cell (p := ⟨bY, o, none⟩) zY).trans (kY o); have jQ := fun o => (hSw.cell (p := ⟨bQ, o, none⟩) zQ).trans (kQ o); go_simp; (try with_reducible rfl))
      case rest9 =>
      (try simp only [Act.put, List.setIfInBounds_toArray, List.set_cons_zero, List.set_cons_succ])
      refine Goes.take (i := 8) (oi := ?oi10) (x := ?vx10) ?ho10 (by kernel_rfl) (by kernel_rfl) (by kernel_rfl) (by kernel_rfl) (fun _ _ _ h => h) (Or.inl ⟨?hw10, ?hy10⟩) HS4.out ?rest10
      case ho10 => (simp only [List.getElem?_toArray, List.getElem?_cons_succ, List.getElem?_cons_zero] <;> rfl)
      case hw10 => rfl
      case hy10 => (intro w' hSw; have jX := fun o => (hSw.cell (p := ⟨bX, o, none⟩) zX).trans (kX o); have jY := fun o => (hSw.cell (p := ⟨bY, o, none⟩) zY).trans (kY o); have jQ := fun o => (hSw.cell (p := ⟨bQ, o, none⟩) zQ).trans (kQ o); go_simp; (try with_reducible rfl))
      case rest10 =>
      (try simp only [Act.put, List.setIfInBounds_toArray, List.set_cons_zero, List.set_cons_succ])
      refine Goes.take (i := 9) (oi := ?oi11) (x := ?vx11) ?ho11 (by kernel_rfl) (by kernel_rfl) (by kernel_rfl) (by kernel_rfl) (fun _ _ _ h => h) (Or.inl ⟨?hw11, ?hy11⟩) HS4.out ?rest11
      case ho11 => (simp only [List.getElem?_toArray, List.getElem?_cons_succ, List.getElem?_cons_zero] <;> rfl)
      case hw11 => rfl
      case hy11 => (intro w' hSw; have jX := fun o => (hSw.cell (p := ⟨bX, o, none⟩) zX).trans (kX o); have jY := fun o => (hSw.cell (p := ⟨bY, o, none⟩) zY).trans (kY o); have jQ := fun o => (hSw.cell (p := ⟨bQ, o, none⟩) zQ).trans (kQ o); go_simp; (try with_reducible rfl))
      case rest11 =>
      (try simp only [Act.put, List.setIfInBounds_toArray, List.set_cons_zero, List.set_cons_succ])
      refine Goes.take (i := 10) (oi := ?oi12) (x := ?vx12) ?ho12 (by kernel_rfl) (by kernel_rfl) (by kernel_rfl) (by kernel_rfl) (fun _ _ _ h => h) (Or.inl ⟨?hw12, ?hy12⟩) HS4.out ?rest12
      case ho12 => (simp only [List.getElem?_toArray, List.getElem?_cons_succ, List.getElem?_cons_zero] <;> rfl)
      case hw12 => rfl
      case hy12 => (intro w' hSw; have jX := fun o => (hSw.cell (p := ⟨bX, o, none⟩) zX).trans (kX o); have jY := fun o => (hSw.cell (p := ⟨bY, o, none⟩) zY).trans (kY o); have jQ := fun o => (hSw.cell (p := ⟨bQ, o, none⟩) zQ).trans (kQ o); go_simp; (try with_reducible rfl))
      case rest12 =>
      (try simp only [Act.put, List.setIfInBounds_toArray, List.set_cons_zero, List.set_cons_succ])
      refine Goes.take (i := 11) (oi := ?oi13) (x := ?vx13) ?ho13 (by kernel_rfl) (by kernel_rfl) (by kernel_rfl) (by kernel_rfl) (fun _ _ _ h => h) (Or.inl ⟨?hw13, ?hy13⟩) HS4.out ?rest13
      case ho13 => (simp only [List.getElem?_toArray, List.getElem?_cons_succ, List.getElem?_cons_zero] <;> rfl)
      case hw13 => rfl
      case hy13 => (intro w' hSw; have jX := fun o => (hSw.cell (p := ⟨bX, o, none⟩) zX).trans (kX o); have jY := fun o => (hSw.cell (p := ⟨bY, o, none⟩) zY).trans (kY o); have jQ := fun o => (hSw.cell (p := ⟨bQ, o, none⟩) zQ).trans (kQ o); go_simp; (try with_reducible rfl))
      case rest13 =>
      (try simp only [Act.put, List.setIfInBounds_toArray, List.set_cons_zero, List.set_cons_succ])
      refine Goes.take (i := 12) (oi := ?oi14) (x := ?vx14) ?ho14 (by kernel_rfl) (by kernel_rfl) (by kernel_rfl) (by kernel_rfl) (fun _ _ _ h => h) (Or.inl ⟨?hw14, ?hy14⟩) HS4.out ?rest14
      case ho14 => (simp only [List.getElem?_toArray, List.getElem?_cons_succ, List.getElem?_cons_zero] <;> rfl)
      case hw14 => rfl
      case hy14 => (intro w' hSw; have jX := fun o => (hSw.cell (p := ⟨bX, o, none⟩) zX).trans (kX o); have jY := fun o => (hSw.cell (p := ⟨bY, o, none⟩) zY).trans (kY o); have jQ := fun o => (hSw.cell (p := ⟨bQ, o, none⟩) zQ).trans (kQ o); go_simp; (try with_reducible rfl))
      case rest14 =>
      (try simp only [Act.put, List.setIfInBounds_toArray, List.set_cons_zero, List.set_cons_succ])
      refine Goes.take (i := 13) (oi := ?oi15) (x := ?vx15) ?ho15 (by kernel_rfl) (by kernel_rfl) (by kernel_rfl) (by kernel_rfl) (fun _ _ _ h => h) (Or.inl ⟨?hw15, ?hy15⟩) HS4.out ?rest15
      case ho15 => (simp only [List.getElem?_toArray, List.getElem?_cons_succ, List.getElem?_cons_zero] <;> rfl)
      case hw15 => rfl
      case hy15 => (intro w' hSw; have jX := fun o => (hSw.cell (p := ⟨bX, o, none⟩) zX).trans (kX o); have jY := fun o => (hSw.cell (p := ⟨bY, o, none⟩) zY).trans (kY o); have jQ := fun o => (hSw.cell (p := ⟨bQ, o, none⟩) zQ).trans (kQ o); go_simp; (try with_reducible rfl))
      case rest15 =>
      (try simp only [Act.put, List.setIfInBounds_toArray, List.set_cons_zero, List.set_cons_succ])
      refine Goes.take (i := 14) (oi := ?oi16) (x := ?vx16) ?ho16 (by kernel_rfl) (by kernel_rfl) (by kernel_rfl) (by kernel_rfl) (fun _ _ _ h => h) (Or.inl ⟨?hw16, ?hy16⟩) HS4.out ?rest16
      case ho16 => (simp only [List.getElem?_toArray, List.getElem?_cons_succ, List.getElem?_cons_zero] <;> rfl)
      case hw16 => rfl
      case hy16 => (intro w' hSw; have jX := fun o => (hSw.cell (p := ⟨bX, o, none⟩) zX).trans (kX o); have jY := fun o => (hSw.cell (p := ⟨bY, o, none⟩) zY).trans (kY o); have jQ := fun o => (hSw.cell (p := ⟨bQ, o, none⟩) zQ).trans (kQ o); go_simp; (try with_reducible rfl))
      case rest16 =>
      (try simp only [Act.put, List.setIfInBounds_toArray, List.set_cons_zero, List.set_cons_succ])
      refine Goes.take (i := 15) (oi := ?oi17) (x := ?vx17) ?ho17 (by kernel_rfl) (by kernel_rfl) (by kernel_rfl) (by kernel_rfl) (fun _ _ _ h => h) (Or.inl ⟨?hw17, ?hy17⟩) HS4.out ?rest17
      case ho17 => (simp only [List.getElem?_toArray, List.getElem?_cons_succ, List.getElem?_cons_zero] <;> rfl)
      case hw17 => rfl
      case hy17 => (intro w' hSw; have jX := fun o => (hSw.cell (p := ⟨bX, o, none⟩) zX).trans (kX o); have jY := fun o => (hSw.cell (p := ⟨bY, o, none⟩) zY).trans (kY o); have jQ := fun o => (hSw.cell (p := ⟨bQ, o, none⟩) zQ).trans (kQ o); go_simp; (try with_reducible rfl))
      case rest17 =>
      (try simp only [Act.put, List.setIfInBounds_toArray, List.set_cons_zero, List.set_cons_succ])
      refine Goes.take (i := 16) (oi := ?oi18) (x := ?vx18) ?ho18 (by kernel_rfl) (by kernel_rfl) (by kernel_rfl) (by kernel_rfl) (fun _ _ _ h => h) (Or.inl ⟨?hw18, ?hy18⟩) HS4.out ?rest18
      case ho18 => (simp only [List.getElem?_toArray, List.getElem?_cons_succ, List.getElem?_cons_zero] <;> rfl)
      case hw18 => rfl
      case hy18 => (intro w' hSw; have jX := fun o => (hSw.cell (p := ⟨bX, o, none⟩) zX).trans (kX o); have jY := fun o => (hSw.cell (p := ⟨bY, o, none⟩) zY).trans (kY o); have jQ := fun o => (hSw.cell (p := ⟨bQ, o, none⟩) zQ).trans (kQ o); go_simp; (try with_reducible rfl))
      case rest18 =>
      (try simp only [Act.put, List.setIfInBounds_toArray, List.set_cons_zero, List.set_cons_succ])
      refine Goes.take (i := 17) (oi := ?oi19) (x := ?vx19) ?ho19 (by kernel_rfl) (by kernel_rfl) (by kernel_rfl) (by kernel_rfl) (fun _ _ _ h => h) (Or.inl ⟨?hw19, ?hy19⟩) HS4.out ?rest19
      case ho19 => (simp only [List.getElem?_toArray, List.getElem?_cons_succ, List.getElem?_cons_zero] <;> rfl)
      case hw19 => rfl
      case hy19 => (intro w' hSw; have jX := fun o => (hSw.cell (p := ⟨bX, o, none⟩) zX).trans (kX o); have jY := fun o => (hSw.cell (p := ⟨bY, o, none⟩) zY).trans (kY o); have jQ := fun o => (hSw.cell (p := ⟨bQ, o, none⟩) zQ).trans (kQ o); go_simp; (try with_reducible rfl))
      case rest19 =>
      (try simp only [Act.put, List.setIfInBounds_toArray, List.set_cons_zero, List.set_cons_succ])
      refine Goes.take (i := 18) (oi := ?oi20) (x := ?vx20) ?ho20 (by kernel_rfl) (by kernel_rfl) (by kernel_rfl) (by kernel_rfl) (fun _ _ _ h => h) (Or.inl ⟨?hw20, ?hy20⟩) HS4.out ?rest20
      case ho20 => (simp only [List.getElem?_toArray, List.getElem?_cons_succ, List.getElem?_cons_zero] <;> rfl)
      case hw20 => rfl
      case hy20 => (intro w' hSw; have jX := fun o => (hSw.cell (p := ⟨bX, o, none⟩) zX).trans (kX o); have jY := fun o => (hSw.cell (p := ⟨bY, o, none⟩) zY).trans (kY o); have jQ := fun o => (hSw.cell (p := ⟨bQ, o, none⟩) zQ).trans (kQ o); go_simp; (try with_reducible rfl))
      case rest20 =>
      (try simp only [Act.put, List.setIfInBounds_toArray, List.set_cons_zero, List.set_cons_succ])
      refine Goes.take (i := 19) (oi := ?oi21) (x := ?vx21) ?ho21 (by kernel_rfl) (by kernel_rfl) (by kernel_rfl) (by kernel_rfl) (fun _ _ _ h => h) (Or.inl ⟨?hw21, ?hy21⟩) HS4.out ?rest21
      case ho21 => (simp only [List.getElem?_toArray, List.getElem?_cons_succ, List.getElem?_cons_zero] <;> rfl)
      case hw21 => rfl
      case hy21 => (intro w' hSw; have jX := fun o => (hSw.cell (p := ⟨bX, o, none⟩) zX).trans (kX o); have jY := fun o => (hSw.cell (p := ⟨bY, o, none⟩) zY).trans (kY o); have jQ := fun o => (hSw.cell (p := ⟨bQ, o, none⟩) zQ).trans (kQ o); go_simp; (try with_reducible rfl))
      case rest21 =>
      (try simp only [Act.put, List.setIfInBounds_toArray, List.set_cons_zero, List.set_cons_succ])
      refine Goes.take (i := 20) (oi := ?oi22) (x := ?vx22) ?ho22 (by kernel_rfl) (by kernel_rfl) (by kernel_rfl) (by kernel_rfl) (fun _ _ _ h => h) (Or.inl ⟨?hw22, ?hy22⟩) HS4.out ?rest22
      case ho22 => (simp only [List.getElem?_toArray, List.getElem?_cons_succ, List.getElem?_cons_zero] <;> rfl)
      case hw22 => rfl
      case hy22 => (intro w' hSw; have jX := fun o => (hSw.cell (p := ⟨bX, o, none⟩) zX).trans (kX o); have jY := fun o => (hSw.cell (p := ⟨bY, o, none⟩) zY).trans (kY o); have jQ := fun o => (hSw.cell (p := ⟨bQ, o, none⟩) zQ).trans (kQ o); have jf := HCF.out w' (D2.out.trans (hSw.mono D2.out.size)); have cv1 := HCY.out w' (D2.out.trans (hSw.mono D2.out.size)); have cv2 := HCL.out w' (D1.out.trans (hSw.mono D1.out.size)); go_simp; (try with_reducible rfl))
      case rest22 =>
      (try simp only [Act.put, List.setIfInBounds_toArray, List.set_cons_zero, List.set_cons_succ])
      refine Goes.take (i := 21) (oi := ?oi23) (x := ?vx23) ?ho23 (by kernel_rfl) (by kernel_rfl) (by kernel_rfl) (by kernel_rfl) (fun _ _ _ h => h) (Or.inl ⟨?hw23, ?hy23⟩) HS4.out ?rest23
      case ho23 => (simp only [List.getElem?_toArray, List.getElem?_cons_succ, List.getElem?_cons_zero] <;> rfl)
      case hw23 => rfl
      case hy23 => (intro w' hSw; have jX := fun o => (hSw.cell (p := ⟨bX, o, none⟩) zX).trans (kX o); have jY := fun o => (hSw.cell (p := ⟨bY, o, none⟩) zY).trans (kY o); have jQ := fun o => (hSw.cell (p := ⟨bQ, o, none⟩) zQ).trans (kQ o); have jf := HCF.out w' (D2.out.trans (hSw.mono D2.out.size)); have cv1 := HCY.out w' (D2.out.trans (hSw.mono D2.out.size)); have cv2 := HCL.out w' (D1.out.trans (hSw.mono D1.out.size)); go_simp; (try with_reducible rfl))
      case rest23 =>
      (try simp only [Act.put, List.setIfInBounds_toArray, List.set_cons_zero, List.set_cons_succ])
      refine Goes.take (i := 22) (oi := ?oi24) (x := ?vx24) ?ho24 (by kernel_rfl) (by kernel_rfl) (by kernel_rfl) (by kernel_rfl) (fun _ _ _ h => h) (Or.inl ⟨?hw24, ?hy24⟩) HS4.out ?rest24
      case ho24 => (simp only [List.getElem?_toArray, List.getElem?_cons_succ, List.getElem?_cons_zero] <;> rfl)
      case hw24 => rfl
      case hy24 => (intro w' hSw; have jX := fun o => (hSw.cell (p := ⟨bX, o, none⟩) zX).trans (kX o); have jY := fun o => (hSw.cell (p := ⟨bY, o, none⟩) zY).trans (kY o); have jQ := fun o => (hSw.cell (p := ⟨bQ, o, none⟩) zQ).trans (kQ o); have jf := HCF.out w' (D2.out.trans (hSw.mono D2.out.size)); have cv1 := HCY.out w' (D2.out.trans (hSw.mono D2.out.size)); have cv2 := HCL.out w' (D1.out.trans (hSw.mono D1.out.size)); go_simp; (try with_reducible rfl))
      case rest24 =>
      (try simp only [Act.put, List.setIfInBounds_toArray, List.set_cons_zero, List.set_cons_succ])
      refine Goes.take (i := 23) (oi := ?oi25) (x := ?vx25) ?ho25 (by kernel_rfl) (by kernel_rfl) (by kernel_rfl) (by kernel_rfl) (fun _ _ _ h => h) (Or.inl ⟨?hw25, ?hy25⟩) HS4.out ?rest25
      case ho25 => (simp only [List.getElem?_toArray, List.getElem?_cons_succ, List.getElem?_cons_zero] <;> rfl)
      case hw25 => rfl
      case hy25 => (intro w' hSw; have jX := fun o => (hSw.cell (p := ⟨bX, o, none⟩) zX).trans (kX o); have jY := fun o => (hSw.cell (p := ⟨bY, o, none⟩) zY).trans (kY o); have jQ := fun o => (hSw.cell (p := ⟨bQ, o, none⟩) zQ).trans (kQ o); have jf := HCF.out w' (D2.out.trans (hSw.mono D2.out.size)); have cv1 := HCY.out w' (D2.out.trans (hSw.mono D2.out.size)); have cv2 := HCL.out w' (D1.out.trans (hSw.mono D1.out.size)); go_simp; (try with_reducible rfl))
      case rest25 =>
      (try simp only [Act.put, List.setIfInBounds_toArray, List.set_cons_zero, List.set_cons_succ])
      refine Goes.take (i := 24) (oi := ?oi26) (x := ?vx26) ?ho26 (by kernel_rfl) (by kernel_rfl) (by kernel_rfl) (by kernel_rfl) (fun _ _ _ h => h) (Or.inl ⟨?hw26, ?hy26⟩) HS4.out ?rest26
      case ho26 => (simp only [List.getElem?_toArray, List.getElem?_cons_succ, List.getElem?_cons_zero] <;> rfl)
      case hw26 => rfl
      case hy26 => (intro w' hSw; have jX := fun o => (hSw.cell (p := ⟨bX, o, none⟩) zX).trans (kX o); have jY := fun o => (hSw.cell (p := ⟨bY, o, none⟩) zY).trans (kY o); have jQ := fun o => (hSw.cell (p := ⟨bQ, o, none⟩) zQ).trans (kQ o); go_simp; (try with_reducible rfl))
      case rest26 =>
      (try simp only [Act.put, List.setIfInBounds_toArray, List.set_cons_zero, List.set_cons_succ])
      refine Goes.take (i := 25) (oi := ?oi27) (x := ?vx27) ?ho27 (by kernel_rfl) (by kernel_rfl) (by kernel_rfl) (by kernel_rfl) (fun _ _ _ h => h) (Or.inl ⟨?hw27, ?hy27⟩) HS4.out ?rest27
      case ho27 => (simp only [List.getElem?_toArray, List.getElem?_cons_succ, List.getElem?_cons_zero] <;> rfl)
      case hw27 => rfl
      case hy27 => (intro w' hSw; have jX := fun o => (hSw.cell (p := ⟨bX, o, none⟩) zX).trans (kX o); have jY := fun o => (hSw.cell (p := ⟨bY, o, none⟩) zY).trans (kY o); have jQ := fun o => (hSw.cell (p := ⟨bQ, o, none⟩) zQ).trans (kQ o); go_simp; (try with_reducible rfl))
      case rest27 =>
      (try simp only [Act.put, List.setIfInBounds_toArray, List.set_cons_zero, List.set_cons_succ])
      refine Goes.take (i := 26) (oi := ?oi28) (x := ?vx28) ?ho28 (by kernel_rfl) (by kernel_rfl) (by kernel_rfl) (by kernel_rfl) (fun _ _ _ h => h) (Or.inl ⟨?hw28, ?hy28⟩) HS4.out ?rest28
      case ho28 => (simp only [List.getElem?_toArray, List.getElem?_cons_succ, List.getElem?_cons_zero] <;> rfl)
      case hw28 => rfl
      case hy28 => (intro w' hSw; have jX := fun o => (hSw.cell (p := ⟨bX, o, none⟩) zX).trans (kX o); have jY := fun o => (hSw.cell (p := ⟨bY, o, none⟩) zY).trans (kY o); have jQ := fun o => (hSw.cell (p := ⟨bQ, o, none⟩) zQ).trans (kQ o); go_simp; (try with_reducible rfl))
      case rest28 =>
      (try simp only [Act.put, List.setIfInBounds_toArray, List.set_cons_zero, List.set_cons_succ])
      refine Goes.take (i := 27) (oi := ?oi29) (x := ?vx29) ?ho29 (by kernel_rfl) (by kernel_rfl) (by kernel_rfl) (by kernel_rfl) (fun _ _ _ h => h) (Or.inl ⟨?hw29, ?hy29⟩) HS4.out ?rest29
      case ho29 => (simp only [List.getElem?_toArray, List.getElem?_cons_succ, List.getElem?_cons_zero] <;> rfl)
      case hw29 => rfl
      case hy29 => (intro w' hSw; have jX := fun o => (hSw.cell (p := ⟨bX, o, none⟩) zX).trans (kX o); have jY := fun o => (hSw.cell (p := ⟨bY, o, none⟩) zY).trans (kY o); have jQ := fun o => (hSw.cell (p := ⟨bQ, o, none⟩) zQ).trans (kQ o); go_simp; (try with_reducible rfl))
      case rest29 =>
      (try simp only [Act.put, List.setIfInBounds_toArray, List.set_cons_zero, List.set_cons_succ])
      refine Goes.take (i := 28) (oi := ?oi30) (x := ?vx30) ?ho30 (by kernel_rfl) (by kernel_rfl) (by kernel_rfl) (by kernel_rfl) (fun _ _ _ h => h) (Or.inl ⟨?hw30, ?hy30⟩) HS4.out ?rest30
      case ho30 => (simp only [List.getElem?_toArray, List.getElem?_cons_succ, List.getElem?_cons_zero] <;> rfl)
      case hw30 => rfl
      case hy30 => (intro w' hSw; have jX := fun o => (hSw.cell (p := ⟨bX, o, none⟩) zX).trans (kX o); have jY := fun o => (hSw.cell (p := ⟨bY, o, none⟩) zY).trans (kY o); have jQ := fun o => (hSw.cell (p := ⟨bQ, o, none⟩) zQ).trans (kQ o); go_simp; (try with_reducible rfl))
      case rest30 =>
      (try simp only [Act.put, List.setIfInBounds_toArray, List.set_cons_zero, List.set_cons_succ])
      refine Goes.take (i := 31) (oi := ?oi31) (x := ?vx31) ?ho31 (by kernel_rfl) (by kernel_rfl) (by kernel_rfl) (by kernel_rfl) (fun _ _ _ h => h) (Or.inl ⟨?hw31, ?hy31⟩) HS4.out ?rest31
      case ho31 => (simp only [List.getElem?_toArray, List.getElem?_cons_succ, List.getElem?_cons_zero] <;> rfl)
      case hw31 => rfl
      case hy31 => (intro w' hSw; have jX := fun o => (hSw.cell (p := ⟨bX, o, none⟩) zX).trans (kX o); have jY := fun o => (hSw.cell (p := ⟨bY, o, none⟩) zY).trans (kY o); have jQ := fun o => (hSw.cell (p := ⟨bQ, o, none⟩) zQ).trans (kQ o); go_simp; (try with_reducible rfl))
      case rest31 =>
      (try simp only [Act.put, List.setIfInBounds_toArray, List.set_cons_zero, List.set_cons_succ])
      refine Goes.take (i := 34) (oi := ?oi32) (x := ?vx32) ?ho32 (by kernel_rfl) (by kernel_rfl) (by kernel_rfl) (by kernel_rfl) (fun _ _ _ h => h) (Or.inl ⟨?hw32, ?hy32⟩) HS4.out ?rest32
      case ho32 => (simp only [List.getElem?_toArray, List.getElem?_cons_succ, List.getElem?_cons_zero] <;> rfl)
      case hw32 => rfl
      case hy32 => (intro w' hSw; have jX := fun o => (hSw.cell (p := ⟨bX, o, none⟩) zX).trans (kX o); have jY := fun o => (hSw.cell (p := ⟨bY, o, none⟩) zY).trans (kY o); have jQ := fun o => (hSw.cell (p := ⟨bQ, o, none⟩) zQ).trans (kQ o); go_simp; (try with_reducible rfl))
      case rest32 =>
      (try simp only [Act.put, List.setIfInBounds_toArray, List.set_cons_zero, List.set_cons_succ])
      refine Goes.take (i := 35) (oi := ?oi33) (x := ?vx33) ?ho33 (by kernel_rfl) (by kernel_rfl) (by kernel_rfl) (by kernel_rfl) (fun _ _ _ h => h) (Or.inl ⟨?hw33, ?hy33⟩) HS4.out ?rest33
      case ho33 => (simp only [List.getElem?_toArray, List.getElem?_cons_succ, List.getElem?_cons_zero] <;> rfl)
      case hw33 => rfl
      case hy33 => (intro w' hSw; have jX := fun o => (hSw.cell (p := ⟨bX, o, none⟩) zX).trans (kX o); have jY := fun o => (hSw.cell (p := ⟨bY, o, none⟩) zY).trans (kY o); have jQ := fun o => (hSw.cell (p := ⟨bQ, o, none⟩) zQ).trans (kQ o); go_simp; (try with_reducible rfl))
      case rest33 =>
      (try simp only [Act.put, List.setIfInBounds_toArray, List.set_cons_zero, List.set_cons_succ])
      refine Goes.all (rs := [29]) (by kernel_rfl) (by simp) ?_
      refine Ups.cons (i := 29) (o := ?oo34) ?ho34 (fun KK hKK => ?stp34) Ups.nil
      case ho34 => (simp only [List.getElem?_toArray, List.getElem?_cons_succ, List.getElem?_cons_zero] <;> rfl)
      case stp34 =>
      go_simp
      go_at_call 11
      refine (HOy.out _ _ (HO.out _ (D2.out.trans (HS4.out.mono D2.out.size)))).mono ?_
      rintro e w9 ⟨rfl, hbq⟩
      replace hbq := HS4.out.trans (hbq.mono HS4.out.size)
      have HS34 : Hid (Below w7.heap.size w7 w9) := hbq
      clear hbq
      dsimp only
      refine hKK.out _ _ (Or.inr HS34.out) ?_
      clear hKK KK
      (try simp only [Act.put, List.setIfInBounds_toArray, List.set_cons_zero, List.set_cons_succ])
      refine Goes.take (i := 30) (oi := ?oi35) (x := ?vx35) ?ho35 (by kernel_rfl) (by kernel_rfl) (by kernel_rfl) (by kernel_rfl) (fun _ _ _ h => h) (Or.inl ⟨?hw35, ?hy35⟩) HS34.out ?rest35
      case ho35 => (simp only [List.getElem?_toArray, List.getElem?_cons_succ, List.getElem?_cons_zero] <;> rfl)
      case hw35 => rfl
      case hy35 => (intro w' hSw; have jX := fun o => (hSw.cell (p := ⟨bX, o, none⟩) zX).trans (kX o); have jY := fun o => (hSw.cell (p := ⟨bY, o, none⟩) zY).trans (kY o); have jQ := fun o => (hSw.cell (p := ⟨bQ, o, none⟩) zQ).trans (kQ o); go_simp; (try with_reducible rfl))
      case rest35 =>
      (try simp only [Act.put, List.setIfInBounds_toArray, List.set_cons_zero, List.set_cons_succ])
      refine Goes.all (rs := [32]) (by kernel_rfl) (by simp) ?_
      refine Ups.cons (i := 32) (o := ?oo36) ?ho36 (fun KK hKK => ?stp36) Ups.nil
      case ho36 => (simp only [List.getElem?_toArray, List.getElem?_cons_succ, List.getElem?_cons_zero] <;> rfl)
      case stp36 =>
      go_simp
      go_at_call 11
      refine (HOX.out _ (D1.out.trans (HS34.out.mono D1.out.size))).mono ?_
      rintro e w10 ⟨rfl, hbq⟩
      replace hbq := HS34.out.trans (hbq.mono HS34.out.size)
      have HS36 : Hid (Below w7.heap.size w7 w10) := hbq
      clear hbq
      dsimp only
      refine hKK.out _ _ (Or.inr HS36.out) ?_
      clear hKK KK
      (try simp only [Act.put, List.setIfInBounds_toArray, List.set_cons_zero, List.set_cons_succ])
      refine Goes.take (i := 33) (oi := ?oi37) (x := ?vx37) ?ho37 (by kernel_rfl) (by kernel_rfl) (by kernel_rfl) (by kernel_rfl) (fun _ _ _ h => h) (Or.inl ⟨?hw37, ?hy37⟩) HS36.out ?rest37
      case ho37 => (simp only [List.getElem?_toArray, List.getElem?_cons_succ, List.getElem?_cons_zero] <;> rfl)
      case hw37 => rfl
      case hy37 => (intro w' hSw; have jX := fun o => (hSw.cell (p := ⟨bX, o, none⟩) zX).trans (kX o); have jY := fun o => (hSw.cell (p := ⟨bY, o, none⟩) zY).trans (kY o); have jQ := fun o => (hSw.cell (p := ⟨bQ, o, none⟩) zQ).trans (kQ o); go_simp; (try with_reducible rfl))
      case rest37 =>
      (try simp only [Act.put, List.setIfInBounds_toArray, List.set_cons_zero, List.set_cons_succ])
      refine Goes.take (i := 36) (oi := ?oi38) (x := ?vx38) ?ho38 (by kernel_rfl) (by kernel_rfl) (by kernel_rfl) (by kernel_rfl) (fun _ _ _ h => h) (Or.inl ⟨?hw38, ?hy38⟩) HS36.out ?rest38
      case ho38 => (simp only [List.getElem?_toArray, List.getElem?_cons_succ, List.getElem?_cons_zero] <;> rfl)
      case hw38 => rfl
      case hy38 => (intro w' hSw; have jX := fun o => (hSw.cell (p := ⟨bX, o, none⟩) zX).trans (kX o); have jY := fun o => (hSw.cell (p := ⟨bY, o, none⟩) zY).trans (kY o); have jQ := fun o => (hSw.cell (p := ⟨bQ, o, none⟩) zQ).trans (kQ o); go_simp; (try with_reducible rfl))
      case rest38 =>
      (try simp only [Act.put, List.setIfInBounds_toArray, List.set_cons_zero, List.set_cons_succ])
      refine Goes.take (i := 37) (oi := ?oi39) (x := ?vx39) ?ho39 (by kernel_rfl) (by kernel_rfl) (by kernel_rfl) (by kernel_rfl) (fun _ _ _ h => h) (Or.inl ⟨?hw39, ?hy39⟩) HS36.out ?rest39
      case ho39 => (simp only [List.getElem?_toArray, List.getElem?_cons_succ, List.getElem?_cons_zero] <;> rfl)
      case hw39 => rfl
      case hy39 => (intro w' hSw; have jX := fun o => (hSw.cell (p := ⟨bX, o, none⟩) zX).trans (kX o); have jY := fun o => (hSw.cell (p := ⟨bY, o, none⟩) zY).trans (kY o); have jQ := fun o => (hSw.cell (p := ⟨bQ, o, none⟩) zQ).trans (kQ o); go_simp; (try with_reducible rfl))
      case rest39 =>
      (try simp only [Act.put, List.setIfInBounds_toArray, List.set_cons_zero, List.set_cons_succ])
      refine Goes.take (i := 38) (oi := ?oi40) (x := ?vx40) ?ho40 (by kernel_rfl) (by kernel_rfl) (by kernel_rfl) (by kernel_rfl) (fun _ _ _ h => h) (Or.inl ⟨?hw40, ?hy40⟩) HS36.out ?rest40
      case ho40 => (simp only [List.getElem?_toArray, List.getElem?_cons_succ, List.getElem?_cons_zero] <;> rfl)
      case hw40 => rfl
      case hy40 => (intro w' hSw; have jX := fun o => (hSw.cell (p := ⟨bX, o, none⟩) zX).trans (kX o); have jY := fun o => (hSw.cell (p := ⟨bY, o, none⟩) zY).trans (kY o); have jQ := fun o => (hSw.cell (p := ⟨bQ, o, none⟩) zQ).trans (kQ o); go_simp; (try with_reducible rfl))
      case rest40 =>
      (try simp only [Act.put, List.setIfInBounds_toArray, List.set_cons_zero, List.set_cons_succ])
      refine Goes.take (i := 39) (oi := ?oi41) (x := ?vx41) ?ho41 (by kernel_rfl) (by kernel_rfl) (by kernel_rfl) (by kernel_rfl) (fun _ _ _ h => h) (Or.inl ⟨?hw41, ?hy41⟩) HS36.out ?rest41
      case ho41 => (simp only [List.getElem?_toArray, List.getElem?_cons_succ, List.getElem?_cons_zero] <;> rfl)
      case hw41 => rfl
      case hy41 => (intro w' hSw; have jX := fun o => (hSw.cell (p := ⟨bX, o, none⟩) zX).trans (kX o); have jY := fun o => (hSw.cell (p := ⟨bY, o, none⟩) zY).trans (kY o); have jQ := fun o => (hSw.cell (p := ⟨bQ, o, none⟩) zQ).trans (kQ o); go_simp; (try with_reducible rfl))
      case rest41 =>
      (try simp only [Act.put, List.setIfInBounds_toArray, List.set_cons_zero, List.set_cons_succ])
      refine Goes.take (i := 40) (oi := ?oi42) (x := ?vx42) ?ho42 (by kernel_rfl) (by kernel_rfl) (by kernel_rfl) (by kernel_rfl) (fun _ _ _ h => h) (Or.inl ⟨?hw42, ?hy42⟩) HS36.out ?rest42
      case ho42 => (simp only [List.getElem?_toArray, List.getElem?_cons_succ, List.getElem?_cons_zero] <;> rfl)
      case hw42 => rfl
      case hy42 => (intro w' hSw; have jX := fun o => (hSw.cell (p := ⟨bX, o, none⟩) zX).trans (kX o); have jY := fun o => (hSw.cell (p := ⟨bY, o, none⟩) zY).trans (kY o); have jQ := fun o => (hSw.cell (p := ⟨bQ, o, none⟩) zQ).trans (kQ o); go_simp; (try with_reducible rfl))
      case rest42 =>
      (try simp only [Act.put, List.setIfInBounds_toArray, List.set_cons_zero, List.set_cons_succ])
      refine Goes.take (i := 41) (oi := ?oi43) (x := ?vx43) ?ho43 (by kernel_rfl) (by kernel_rfl) (by kernel_rfl) (by kernel_rfl) (fun _ _ _ h => h) (Or.inl ⟨?hw43, ?hy43⟩) HS36.out ?rest43
      case ho43 => (simp only [List.getElem?_toArray, List.getElem?_cons_succ, List.getElem?_cons_zero] <;> rfl)
      case hw43 => rfl
      case hy43 => (intro w' hSw; have jX := fun o => (hSw.cell (p := ⟨bX, o, none⟩) zX).trans (kX o); have jY := fun o => (hSw.cell (p := ⟨bY, o, none⟩) zY).trans (kY o); have jQ := fun o => (hSw.cell (p := ⟨bQ, o, none⟩) zQ).trans (kQ o); go_simp; (try with_reducible rfl))
      case rest43 =>
      (try simp only [Act.put, List.setIfInBounds_toArray, List.set_cons_zero, List.set_cons_succ])
      refine Goes.take (i := 42) (oi := ?oi44) (x := ?vx44) ?ho44 (by kernel_rfl) (by kernel_rfl) (by kernel_rfl) (by kernel_rfl) (fun _ _ _ h => h) (Or.inl ⟨?hw44, ?hy44⟩) HS36.out ?rest44
      case ho44 => (simp only [List.getElem?_toArray, List.getElem?_cons_succ, List.getElem?_cons_zero] <;> rfl)
      case hw44 => rfl
      case hy44 => (intro w' hSw; have jX := fun o => (hSw.cell (p := ⟨bX, o, none⟩) zX).trans (kX o); have jY := fun o => (hSw.cell (p := ⟨bY, o, none⟩) zY).trans (kY o); have jQ := fun o => (hSw.cell (p := ⟨bQ, o, none⟩) zQ).trans (kQ o); go_simp; (try with_reducible rfl))
      case rest44 =>
      (try simp only [Act.put, List.setIfInBounds_toArray, List.set_cons_zero, List.set_cons_succ])
      refine Goes.take (i := 43) (oi := ?oi45) (x := ?vx45) ?ho45 (by kernel_rfl) (by kernel_rfl) (by kernel_rfl) (by kernel_rfl) (fun _ _ _ h => h) (Or.inl ⟨?hw45, ?hy45⟩) HS36.out ?rest45
      case ho45 => (simp only [List.getElem?_toArray, List.getElem?_cons_succ, List.getElem?_cons_zero] <;> rfl)
      case hw45 => rfl
      case hy45 => (intro w' hSw; have jX := fun o => (hSw.cell (p := ⟨bX, o, none⟩) zX).trans (kX o); have jY := fun o => (hSw.cell (p := ⟨bY, o, none⟩) zY).trans (kY o); have jQ := fun o => (hSw.cell (p := ⟨bQ, o, none⟩) zQ).trans (kQ o); go_simp; (try with_reducible rfl))
      case rest45 =>
      (try simp only [Act.put, List.setIfInBounds_toArray, List.set_cons_zero, List.set_cons_succ])
      refine Goes.done (by kernel_rfl) ?_ _
      refine NoPanic.normal ?_
      go_wp2_with fail
      go_meet
      exact ⟨rfl, by assumption⟩
    case rest =>
    rename World => w11
    obtain ⟨rfl, hb⟩ := hcut
    replace hb := hb.out
    clear HCF HCY HCL HOX HFy HOy
    replace D1 : Hid (Below w1.heap.size w1 w11) := D1.out.trans (hb.mono D1.out.size)
    replace D2 : Hid (Below w2.heap.size w2 w11) := D2.out.trans (hb.mono D2.out.size)
    replace D6 : Hid (Below w6.heap.size w6 w11) := D6.out.trans (hb.mono D6.out.size)
    replace kX := bx_below kX zX hb
    replace zX := Nat.lt_of_lt_of_le zX hb.size
    replace kY := bx_below kY zY hb
    replace zY := Nat.lt_of_lt_of_le zY hb.size
    replace kQ := bx_below kQ zQ hb
    replace zQ := Nat.lt_of_lt_of_le zQ hb.size
    replace kR := bx_below kR zR hb
    replace zR := Nat.lt_of_lt_of_le zR hb.size
    replace HB : Hid (Below w.heap.size w w11) := HB.out.trans (hb.mono HB.out.size)
    clear hb
    clear kX zX
    clear kQ zQ
    go_wp2_with fail
    refine (HDu.out _ _ (HO.out _ D2.out)).mono ?_
    rintro e w12 ⟨u12, rfl, ho12, hb⟩
    clear HDu
    obtain ⟨da, dc, e12, -⟩ := rd_ints (ho12.rd (Nat.le_refl _))
    simp only [List.cons.injEq, and_true] at e12
    subst e12
    clear ho12
    replace D1 : Hid (Below w1.heap.size w1 w12) := D1.out.trans (hb.mono D1.out.size)
    replace D2 : Hid (Below w2.heap.size w2 w12) := D2.out.trans (hb.mono D2.out.size)
    replace D6 : Hid (Below w6.heap.size w6 w12) := D6.out.trans (hb.mono D6.out.size)
    replace kY := bx_below kY zY hb
    replace zY := Nat.lt_of_lt_of_le zY hb.size
    replace kR := bx_below kR zR hb
    replace zR := Nat.lt_of_lt_of_le zR hb.size
    replace HB : Hid (Below w.heap.size w w12) := HB.out.trans (hb.mono HB.out.size)
    clear hb
    obtain ⟨hdl1, hdl2⟩ := HDL.out
    generalize (dueV y now 0).length = dn at *
    have hdn : (1 : Int) ≤ (dn : Int) := by omega
    clear HDL
    go_upto_region 13 with fail
    have kD : ∀ o, (w12.alloc (.cells #[.int .i64 0, .slice da dn dc] 42)).cell? ⟨w12.heap.size, o, none⟩ = (#[.int .i64 0, .slice da dn dc] : Array Value)[o]? := bx_al w12 _ _
    have hb : Below w12.heap.size w12 (w12.alloc (.cells #[.int .i64 0, .slice da dn dc] 42)) := (Below.refl _ _).alloc (Nat.le_refl _) _
    have zD : w12.heap.size < (w12.alloc (.cells #[.int .i64 0, .slice da dn dc] 42)).heap.size := by simp
    generalize hWW : (w12.alloc (.cells #[.int .i64 0, .slice da dn dc] 42)) = w13 at kD hb zD ⊢
    clear hWW
    obtain ⟨bD, hq⟩ : ∃ q, q = w12.heap.size := ⟨_, rfl⟩
    rw [← hq] at zD kD ⊢
    clear hq
    replace D1 : Hid (Below w1.heap.size w1 w13) := D1.out.trans (hb.mono D1.out.size)
    replace D2 : Hid (Below w2.heap.size w2 w13) := D2.out.trans (hb.mono D2.out.size)
    replace D6 : Hid (Below w6.heap.size w6 w13) := D6.out.trans (hb.mono D6.out.size)
    replace kY := bx_below kY zY hb
    replace zY := Nat.lt_of_lt_of_le zY hb.size
    replace kR := bx_below kR zR hb
    replace zR := Nat.lt_of_lt_of_le zR hb.size
    replace HB : Hid (Below w.heap.size w w13) := HB.out.trans (hb.mono HB.out.size)
    clear hb
    go_wp2_with fail
    refine (HTc.out _ _ (HO.out _ D2.out)).mono ?_
    rintro e w14 ⟨u14, rfl, ho14, hb⟩
    clear HTc HO
    replace D1 : Hid (Below w1.heap.size w1 w14) := D1.out.trans (hb.mono D1.out.size)
    replace D2 : Hid (Below w2.heap.size w2 w14) := D2.out.trans (hb.mono D2.out.size)
    replace D6 : Hid (Below w6.heap.size w6 w14) := D6.out.trans (hb.mono D6.out.size)
    replace kY := bx_below kY zY hb
    replace zY := Nat.lt_of_lt_of_le zY hb.size
    replace kR := bx_below kR zR hb
    replace zR := Nat.lt_of_lt_of_le zR hb.size
    replace kD := bx_below kD zD hb
    replace zD := Nat.lt_of_lt_of_le zD hb.size
    replace HB : Hid (Below w.heap.size w w14) := HB.out.trans (hb.mono HB.out.size)
    clear hb
    obtain ⟨ta, tc, rfl, rkt⟩ := snd_form (ho14.rd (Nat.le_refl _))
    obtain ⟨kk, hkk, htk, htr⟩ := HTT.out
    obtain ⟨tb, tof, tv, hta, htb, -, -, -, -, ct, -⟩ := at_Flights rkt kk htk
    subst hta
    rw [htr] at ct
    subst kk
    have HCT : Hid (∀ W, Below w14.heap.size w14 W → W.cell? ⟨tb, tof + n * 5 + 4, none⟩ = some (.int .i64 2)) := fun W hW => (hW.cell (p := ⟨tb, tof + n * 5 + 4, none⟩) htb).trans ct
    have hnt : (n : Int) < (t.2.2.2.1.length : Int) := by omega
    have D14 : Hid (Below w14.heap.size w14 w14) := Below.refl _ _
    clear HTT htk htr htb ct rkt ho14
    generalize t.2.2.2.1.length = tn at *
    generalize t.1 = t0 at *
    generalize t.2.1 = t1 at *
    generalize t.2.2.1 = t2 at *
    go_upto_region 14 with fail
    clear kY zY
    have kT : ∀ o, (w14.alloc (.cells #[.int .i64 0, .int .i64 t0, .int .i64 t1, .int .i64 t2, .slice (some ⟨tb, tof, none⟩) tn tc] 30)).cell? ⟨w14.heap.size, o, none⟩ = (#[.int .i64 0, .int .i64 t0, .int .i64 t1, .int .i64 t2, .slice (some ⟨tb, tof, none⟩) tn tc] : Array Value)[o]? := bx_al w14 _ _
    have hb : Below w14.heap.size w14 (w14.alloc (.cells #[.int .i64 0, .int .i64 t0, .int .i64 t1, .int .i64 t2, .slice (some ⟨tb, tof, none⟩) tn tc] 30)) := (Below.refl _ _).alloc (Nat.le_refl _) _
    have zT : w14.heap.size < (w14.alloc (.cells #[.int .i64 0, .int .i64 t0, .int .i64 t1, .int .i64 t2, .slice (some ⟨tb, tof, none⟩) tn tc] 30)).heap.size := by simp
    generalize hWW : (w14.alloc (.cells #[.int .i64 0, .int .i64 t0, .int .i64 t1, .int .i64 t2, .slice (some ⟨tb, tof, none⟩) tn tc] 30)) = w15 at kT hb zT ⊢
    clear hWW
    obtain ⟨bT, hq⟩ : ∃ q, q = w14.heap.size := ⟨_, rfl⟩
    rw [← hq] at zT kT ⊢
    clear hq
    replace D1 : Hid (Below w1.heap.size w1 w15) := D1.out.trans (hb.mono D1.out.size)
    replace D2 : Hid (Below w2.heap.size w2 w15) := D2.out.trans (hb.mono D2.out.size)
    replace D6 : Hid (Below w6.heap.size w6 w15) := D6.out.trans (hb.mono D6.out.size)
    replace D14 : Hid (Below w14.heap.size w14 w15) := D14.out.trans (hb.mono D14.out.size)
    replace kR := bx_below kR zR hb
    replace zR := Nat.lt_of_lt_of_le zR hb.size
    replace kD := bx_below kD zD hb
    replace zD := Nat.lt_of_lt_of_le zD hb.size
    replace HB : Hid (Below w.heap.size w w15) := HB.out.trans (hb.mono HB.out.size)
    clear hb
    go_wp2_with fail
    refine (HOr.out _ _ (HRR.out _ D6.out)).mono ?_
    rintro e w16 ⟨rfl, hb⟩
    replace D1 : Hid (Below w1.heap.size w1 w16) := D1.out.trans (hb.mono D1.out.size)
    replace D2 : Hid (Below w2.heap.size w2 w16) := D2.out.trans (hb.mono D2.out.size)
    replace D6 : Hid (Below w6.heap.size w6 w16) := D6.out.trans (hb.mono D6.out.size)
    replace D14 : Hid (Below w14.heap.size w14 w16) := D14.out.trans (hb.mono D14.out.size)
    replace kR := bx_below kR zR hb
    replace zR := Nat.lt_of_lt_of_le zR hb.size
    replace kD := bx_below kD zD hb
    replace zD := Nat.lt_of_lt_of_le zD hb.size
    replace kT := bx_below kT zT hb
    replace zT := Nat.lt_of_lt_of_le zT hb.size
    replace HB : Hid (Below w.heap.size w w16) := HB.out.trans (hb.mono HB.out.size)
    clear hb
    go_wp2_with fail
    refine (HFr.out _ _ (HRR.out _ D6.out)).mono ?_
    rintro e w17 ⟨rfl, hb⟩
    replace D1 : Hid (Below w1.heap.size w1 w17) := D1.out.trans (hb.mono D1.out.size)
    replace D2 : Hid (Below w2.heap.size w2 w17) := D2.out.trans (hb.mono D2.out.size)
    replace D6 : Hid (Below w6.heap.size w6 w17) := D6.out.trans (hb.mono D6.out.size)
    replace D14 : Hid (Below w14.heap.size w14 w17) := D14.out.trans (hb.mono D14.out.size)
    replace kR := bx_below kR zR hb
    replace zR := Nat.lt_of_lt_of_le zR hb.size
    replace kD := bx_below kD zD hb
    replace zD := Nat.lt_of_lt_of_le zD hb.size
    replace kT := bx_below kT zT hb
    replace zT := Nat.lt_of_lt_of_le zT hb.size
    replace HB : Hid (Below w.heap.size w w17) := HB.out.trans (hb.mono HB.out.size)
    clear hb
    have ct := HCT.out _ D14.out
    clear HOr HFr HRR HCT
    go_wp2_with fail
    go_ret
    first | exact ⟨rfl, HB.out⟩ | exact ⟨ret_bool (by simp), HB.out⟩

set_option maxRecDepth 100000 in
theorem lifted (os : Os) (started : os.Started) (H : Type) (enc : TypeId × Value → H) :
    ReturnsInHanded {} Try.checked os 3 .any (Rows.fnFlightsSpec.pre6 enc Try.prog Try.f3 Rows.fnFlightsRow.domain false) (Rows.fnFlightsSpec.post enc Try.prog Try.f3 false true false false) := by
  refine returnsInHanded_of_change (C := Try.checked) own started (by kernel_rfl) Try.func3
    (ChangeSpec.witness6 (enc := enc) (C := Try.checked) false ⟨#[], #[.slice none 0 0], []⟩ 8 (by kernel_rfl) (by kernel_rfl) (by kernel_rfl) (by kernel_rfl)) ?_
  intro W base args ds gs before hval0 hW hcnd _
  have hval : ∀ (j : Nat) t v, Try.f3.params[j]? = some t → args[j]? = some v → Value.okWide Try.prog W .any base t v := hval0
  have hW' := hW
  obtain ⟨p, q, hA0, hV, rfl, hfz, hnd⟩ := hW
  have hA : DataW.TrodAll enc Try.prog W 0 (fun _ => true) true Try.f3.params.toList args.toList ds p := hA0
  rw [Try.params3] at hA hval
  obtain ⟨v0, vs0, d0, ds0, p0, q0, hargs, rfl, rfl, h0, r0⟩ := trodAll_cons hA
  obtain ⟨rfl, rfl, rfl⟩ := trodAll_nil r0
  obtain rfl : args = #[v0] := by cases args; simp_all
  obtain ⟨rfl, rfl⟩ := trodVars_none hV
  obtain ⟨a0, len0, cap0, rfl⟩ := okWide_slice Try.underlying22 (hval 0 22 v0 rfl rfl)
  have k0 := h0
  have lt0 : ∀ x ∈ p0, x.block < W.heap.size := by obtain ⟨m, hm⟩ := k0; exact DataW.trod_lt m _ _ _ hm
  obtain ⟨z0, w0⟩ : ∃ zs, IsRow .u8 W a0 len0 cap0 zs := by
    obtain ⟨fuel, hf⟩ := h0
    rcases open_ints Try.underlying22 Try.underlying5 (by kernel_rfl) hf with ⟨hcs, _⟩ | ⟨x, l, c, zs, hcs, _, hl, hm, hz, _, hcell, hwz⟩
    · simp [Value.cells] at hcs
      obtain ⟨rfl, rfl, rfl⟩ := hcs
      exact ⟨[], .inl ⟨rfl, rfl, rfl, rfl⟩⟩
    · simp [Value.cells] at hcs
      obtain ⟨rfl, rfl, rfl⟩ := hcs
      exact ⟨zs, .inr ⟨_, rfl, hl, hm, by simpa using hz, hcell, hwz⟩⟩
  clear hA0 hval0
  refine (walk a0 len0 cap0 z0 W w0).mono fun e W' ⟨he, bel⟩ => ?_
  subst he
  exact ⟨_, rfl, _, _, _, [], _, [], hW', trodAll_mk1 (shut_bool Try.underlying4 _), (trodAll_cons_mk (Below.trod laidOut (by kernel_rfl) (of_decide_eq_true (by kernel_rfl)) k0 bel lt0) trodAll_mk0), rfl, bel.frame _, fun h => by cases h⟩

theorem over : Rows.fnFlightsRow.holds Try.pinned (OpenSpec.ofChange Rows.fnFlightsSpec) :=
  OpenClaim.holds_of_wide 3 Try.f3 rfl rfl rfl rfl rfl rfl rfl ⟨rfl, rfl, rfl, rfl, rfl⟩ rfl rfl rfl rfl rfl (by kernel_rfl) Try.func3 (by kernel_rfl)
    (of_decide_eq_true (by kernel_rfl)) (by unfold Func.isWrapper; first | (rw [if_pos (by decide +kernel)]; kernel_rfl) | (rw [if_neg (by decide +kernel)]; exact ⟨rfl, rfl⟩))
    (fun os started H enc _ => lifted os started H enc)

theorem proved : Rows.FnFlightsSaid := over
#print axioms proved
end Go.Proofs.Yteaddhldleeaiaa.fnFlights

namespace Go.Proofs.Yteaddhldleeaiaa
theorem fnFlights_holds : Rows.FnFlightsSaid := fnFlights.proved
end Go.Proofs.Yteaddhldleeaiaa
