/- Proved: whatever bytes come in, the law on pieces answers true, and the bytes are as they were; no condition. -/
import Derived.Test.YtnbcefdfdonljaaRows
import Derived.WalkKit
import Derived.ProofKit
import Derived.OpenShut
import Derived.ShutString
import Derived.ChangeOld
import Derived.Below
import Derived.Test.YtnbcefdfdonljaaBase
import Derived.Test.YtnbcefdfdonljaaBytes
import Derived.Test.YtnbcefdfdonljaaMem
import Derived.Test.YtnbcefdfdonljaaMemOpen
import Derived.Test.YtnbcefdfdonljaaMemRow
import Derived.Test.YtnbcefdfdonljaaHBase
import Derived.Test.YtnbcefdfdonljaaHMark
import Derived.Test.YtnbcefdfdonljaaGath
import Derived.Test.YtnbcefdfdonljaaImplGath
import Derived.Test.YtnbcefdfdonljaaGathLaw
import Derived.Test.YtnbcefdfdonljaaSpecGath
import Derived.Test.YtnbcefdfdonljaaGathOpen
import Derived.Test.YtnbcefdfdonljaaBox
import Derived.Test.YtnbcefdfdonljaaGathByte
import Derived.Test.YtnbcefdfdonljaaAppBytes
import Derived.Test.YtnbcefdfdonljaaApp
import Derived.Test.YtnbcefdfdonljaaPMap
import Derived.Test.YtnbcefdfdonljaaPRun
import Derived.Test.YtnbcefdfdonljaaPPlaces
import Derived.Test.YtnbcefdfdonljaaPutDef
import Derived.Test.YtnbcefdfdonljaaPutFacts
import Derived.Test.YtnbcefdfdonljaaMemApp
import Derived.Test.YtnbcefdfdonljaaMemApp2
import Derived.Test.YtnbcefdfdonljaaPGather
import Derived.Test.YtnbcefdfdonljaaPImpl
import Derived.Test.YtnbcefdfdonljaaPLast
import Derived.Test.YtnbcefdfdonljaaSPut
import Derived.Test.YtnbcefdfdonljaaSPutP
import Derived.Test.YtnbcefdfdonljaaGathHold
import Derived.Test.YtnbcefdfdonljaaSubBox
import Derived.Test.YtnbcefdfdonljaaAgg
import Derived.Test.YtnbcefdfdonljaaRegionU
import Derived.Test.YtnbcefdfdonljaaNum
import Derived.Test.YtnbcefdfdonljaaNumWalks
import Derived.Test.YtnbcefdfdonljaaDraws
import Derived.Test.YtnbcefdfdonljaaDrawsD
import Derived.Test.YtnbcefdfdonljaaPieFacts
import Derived.Test.YtnbcefdfdonljaaStrFacts
import Derived.Test.YtnbcefdfdonljaaDrawSome
import Derived.Test.YtnbcefdfdonljaaDrawStr0
import Derived.Test.YtnbcefdfdonljaaDrawStr1
import Derived.Test.YtnbcefdfdonljaaDrawStr2
import Derived.Test.YtnbcefdfdonljaaDrawStr
import Derived.Test.YtnbcefdfdonljaaDrawPie
namespace Go.Proofs.Ytnbcefdfdonljaa.fnPieces
open Go.ChangeShapes Go.WideShapes Go.ChangeAt Go.RowKit
open Go.ChangeMaps (open_string shut_string)
set_option linter.unusedVariables false

theorem own : ownKnob Try.prog.godebug = none := by kernel_rfl
theorem laidOut : laidOutB Try.prog = true := by kernel_rfl

/-- WHAT THE WALK IS TOLD OF A SLICE OF INTEGERS THAT CAME IN: it is nil; or it leads to a row of 'cap' cells, the numbers 'zs' (the first 'len' are its elements, the rest its spare room), each fitting its kind. -/
def IsRow (k : IntKind) (w : World) (a : Option Addr) (len cap : Nat) (zs : List Int) : Prop :=
  (a = none ∧ len = 0 ∧ cap = 0 ∧ zs = []) ∨
  ∃ x, a = some x ∧ len ≤ cap ∧ cap ≤ maxLen ∧ zs.length = cap ∧ (∀ i, i < zs.length → w.cell? (x.add i) = some (.int k (zs.getD i 0))) ∧ ∀ n ∈ zs, (Lit.int k n).wf = true

set_option linter.unusedSimpArgs false
theorem pfld0 (c0 c1 c2 : Value) (w : World) : Sem.run Try.prog (Instr.field 31 (.agg #[c0, c1, c2]) 0) w = .ok c0 w := by
  simp [Instr.field, asAgg, part, go_sem]
theorem pfldI (c0 c1 : Value) (w : World) : Sem.run Try.prog (Instr.field 37 (.agg #[c0, c1]) 1) w = .ok c1 w := by
  simp [Instr.field, asAgg, part, go_sem]
theorem gt_form {w : World} {B : Nat} {x : Gt} {u1 u2 : Value} (h : gtS.Rd w B x [u1, u2]) : ∃ b1 k1 b2 k2, u1 = .slice b1 x.1.length k1 ∧ u2 = .slice b2 x.2.1.length k2 := by
  obtain ⟨b1, k1, b2, k2, e, -, -⟩ := rd_gt h
  simp only [List.cons.injEq, and_true] at e
  exact ⟨b1, k1, b2, k2, e.1, e.2⟩
theorem gt_small {g : Gt} (h : gtFault g = 0) : gtTot g ≤ 1048576 ∧ 0 ≤ holdV g ∧ holdV g ≤ 400 ∧ g.1.length ≤ 400 := by
  obtain ⟨N, hN⟩ : ∃ N : Nat, N = 400 := ⟨400, rfl⟩
  have c := gt_cnt N hN h
  have hc : cntG N g ≤ N := by unfold cntG; have := List.countP_le_length (p := fun k : Nat => (gtByte g (k : Int)).isSome) (l := List.range N); simpa using this
  have d := (gtFault_ok h).2.1
  have v : holdV g = (dsum g.2.1 : Int) := by unfold holdV; rw [if_neg (by simp [h])]
  rw [v]
  unfold gtTot pcsTot
  exact ⟨by omega, by omega, by omega, by omega⟩
set_option maxHeartbeats 16000000 in
set_option maxRecDepth 8000 in
theorem walk (a0 : Option Addr) (len0 cap0 : Nat) (z0 : List Int) (w : World) (w0 : IsRow .u8 w a0 len0 cap0 z0) :
    Calls Try.prog 4 #[.slice a0 len0 cap0] w fun e w' => e = .returned (.bool true) ∧ Below w.heap.size w w' := by
  have r0 : BRow .u8 w a0 len0 cap0 z0 := w0
  have hl := r0.lt
  by_cases hbig : 1048576 < len0
  · clear r0 hl w0
    go_enter Try.func4, Try.ntmps4
    go_wp2
    go_ret
    exact ⟨rfl, by go_grown⟩
  · clear w0
    go_enter Try.func4, Try.ntmps4
    go_wp2_with (first | (go_at_call 7; go_in) | fail)
    refine (dPie a0 len0 cap0 z0 w r0 hl).mono ?_
    rintro e w1 ⟨g, a1, n1, c1, a2, n2, c2, aa, dl, da, m, dc, rfl, hp, ⟨ha0, ha1⟩, b1⟩
    clear r0 hl
    have hrd := hp.rg
    have hrl := hp.rl
    obtain ⟨hlm, hm45⟩ := hp.len
    have hsm := hp.small
    obtain ⟨hf1, hf2⟩ := hp.few
    have HI : Hid (∀ W, Below w1.heap.size w1 W → Calls Try.prog 10 #[.agg #[.slice a1 n1 c1, .slice a2 n2 c2], .int .i64 aa, .slice da m dc] W fun e w' => ∃ u1 u2, e = .returned (.agg #[.int .i64 (putC g aa dl), u1, u2]) ∧ Own w' W.heap.size w'.heap.size gtS (putV g aa dl) [u1, u2] ∧ Below W.heap.size W w') := fun W h => by have q := iPutPiece g _ _ aa dl da dc W w1.heap.size (Sh.Rd.below hrd (Nat.le_refl _) h) (by rw [hlm]; exact Sh.Rd.below (s := u8s) hrl (Nat.le_refl _) h) h.size (by omega); rw [hlm] at q; exact q
    have HS : Hid (∀ W, Below w1.heap.size w1 W → Calls Try.prog 18 #[.agg #[.slice a1 n1 c1, .slice a2 n2 c2], .int .i64 aa, .slice da m dc] W fun e w' => ∃ u1 u2, e = .returned (.agg #[.int .i64 (putC g aa dl), u1, u2]) ∧ Own w' W.heap.size w'.heap.size gtS (putV g aa dl) [u1, u2] ∧ Below W.heap.size W w') := fun W h => by have q := sPutPiece g _ _ aa dl da dc W w1.heap.size (Sh.Rd.below hrd (Nat.le_refl _) h) (by rw [hlm]; exact Sh.Rd.below (s := u8s) hrl (Nat.le_refl _) h) h.size (by omega) (fun k hk => Nat.le_trans (hsm k hk) (by decide)); rw [hlm] at q; exact q
    have HB1 : Hid (Below w.heap.size w w1) := b1
    have hf0 := pfld0
    have hfI := pfldI
    by_cases hC : putC g aa dl = 0
    case neg =>
      have hC' : (putC g aa dl != 0) = true := by simp [hC]
      clear hC hfI hrd hrl hp b1 hsm hf1 hf2 hlm
      generalize putC g aa dl = C at *
      generalize putV g aa dl = V at *
      go_wp2_with fail
      refine (HI.out _ ((Below.refl _ _).alloc (Nat.le_refl _) _)).mono ?_
      rintro e w2 ⟨u1, u2, rfl, ho, hb⟩
      obtain ⟨ua, uc, ub, ud, rfl, rfl⟩ := gt_form (ho.rd (Nat.le_refl _))
      generalize V.1.length = un at *
      generalize V.2.1.length = um at *
      have k2 := bx_new hb
      obtain ⟨hc, z2⟩ := bl_new hb
      have D2 : Hid (Below w1.heap.size w1 w2) := hc
      clear hb hc ho HI
      go_wp2_with fail
      go_region_with (go_at_call 18; refine (HS.out _ (by have h := D2.out; go_grown)).mono ?_; rintro e w3 ⟨u3, u4, rfl, ho3, hb⟩; obtain ⟨ua3, uc3, ub3, ud3, rfl, rfl⟩ := gt_form (ho3.rd (Nat.le_refl _)); clear ho3; have hd : Below w2.heap.size w2 w3 := (((Below.refl w2.heap.size w2).alloc (Nat.le_refl _) _).drew).trans (hb.mono (by simp)); have q3 : ∀ o, w3.cell? ⟨w2.heap.size, o, none⟩ = (#[.int .i64 C, .slice ua un uc, .slice ub um ud] : Array Value)[o]? := (fun o => (hb.cell (p := ⟨w2.heap.size, o, none⟩) (by simp)).trans (by simp [go_sem])); have k3 := bx_below k2 z2 hd; have D3 : Hid (Below w1.heap.size w1 w3) := D2.out.trans (hd.mono D2.out.size); clear hb hd)
      all_goals (go_wp2_with fail; go_ret; exact ⟨rfl, HB1.out.trans (D3.out.mono HB1.out.size)⟩)
    obtain ⟨p1, p2, p3, p4, p5, p6⟩ := put_all hC
    obtain ⟨g0, gx0, gx1, -⟩ := put_code hC
    obtain ⟨sg1, sg2, sg3, sg4⟩ := gt_small g0
    obtain ⟨sy1, sy2, sy3, sy4⟩ := gt_small p1
    have HBY : Hid (∀ k : Int, hasB (putV g aa dl) k = (hasB g k || (decide (aa ≤ k) && decide (k ≤ aa + (m : Int) - 1)))) := fun k => by unfold hasB; rw [if_neg (by simp [p1]), if_neg (by simp [g0]), p2, put_some, hlm]
    rw [hC] at HI
    rw [hlm] at gx1
    clear p2 hC HS hf0 hsm hf1 hf2
    obtain ⟨_, _, _, _, en1, en2⟩ := gt_form hrd
    simp only [Value.slice.injEq] at en1
    have hn1 : n1 = g.1.length := en1.2.1
    clear en1 en2
    have HGB : Hid (∀ (W : World) (k : Int), Below w1.heap.size w1 W → Calls Try.prog 11 #[.agg #[.slice a1 n1 c1, .slice a2 n2 c2], .int .i64 k] W fun e w' => e = .returned (.bool (hasB g k)) ∧ Below W.heap.size W w') := fun W k h => iHasByte g _ _ k W w1.heap.size (Sh.Rd.below hrd (Nat.le_refl _) h) h.size
    have HGH : Hid (∀ (W : World), Below w1.heap.size w1 W → Calls Try.prog 14 #[.agg #[.slice a1 n1 c1, .slice a2 n2 c2]] W fun e w' => e = .returned (.agg #[.int .i64 0, .int .i64 (holdV g)]) ∧ Below W.heap.size W w') := fun W h => by have q := iHoldOf g _ _ W w1.heap.size (Sh.Rd.below hrd (Nat.le_refl _) h) h.size sg1; rw [g0] at q; exact q
    have HRL : Hid (∀ W, Below w1.heap.size w1 W → u8s.Rd W w1.heap.size dl [.slice da m dc]) := fun W h => Sh.Rd.below (s := u8s) hrl (Nat.le_refl _) h
    generalize putV g aa dl = y at *
    rw [← hn1] at p3 p4 sg4
    have hgv : holdV g + (n1 : Int) ≤ holdV y + (y.1.length : Int) := p4
    clear hp hrd hrl b1 hn1 p4
    go_wp2_with fail
    refine (HI.out _ ((Below.refl _ _).alloc (Nat.le_refl _) _)).mono ?_
    rintro e w2 ⟨u1, u2, rfl, ho, hb⟩
    clear HI
    obtain ⟨ua, uc, ub, ud, rfl, rfl⟩ := gt_form (ho.rd (Nat.le_refl _))
    have kX := bx_new hb
    obtain ⟨hc, zX⟩ := bl_new hb
    have D1 : Hid (Below w1.heap.size w1 w2) := hc
    have HB : Hid (Below w.heap.size w w2) := HB1.out.trans (hc.mono HB1.out.size)
    have D2 : Hid (Below w2.heap.size w2 w2) := Below.refl _ _
    clear hb hc HB1
    have hry := ho.rd (Nat.le_refl _)
    clear ho
    have HYB : Hid (∀ (W : World) (k : Int), Below w2.heap.size w2 W → Calls Try.prog 11 #[.agg #[.slice ua y.1.length uc, .slice ub y.2.1.length ud], .int .i64 k] W fun e w' => e = .returned (.bool (hasB y k)) ∧ Below W.heap.size W w') := fun W k h => iHasByte y _ _ k W w2.heap.size (Sh.Rd.below hry (Nat.le_refl _) h) h.size
    have HYH : Hid (∀ (W : World), Below w2.heap.size w2 W → Calls Try.prog 14 #[.agg #[.slice ua y.1.length uc, .slice ub y.2.1.length ud]] W fun e w' => e = .returned (.agg #[.int .i64 0, .int .i64 (holdV y)]) ∧ Below W.heap.size W w') := fun W h => by have q := iHoldOf y _ _ W w2.heap.size (Sh.Rd.below hry (Nat.le_refl _) h) h.size sy1; rw [p1] at q; exact q
    have HYF : Hid (∀ (W : World), Below w2.heap.size w2 W → Calls Try.prog 12 #[.agg #[.slice ua y.1.length uc, .slice ub y.2.1.length ud]] W fun e w' => e = .returned (.int .i64 0) ∧ Below W.heap.size W w') := fun W h => by have q := iGatherFault y [.slice ua y.1.length uc, .slice ub y.2.1.length ud] W (Sh.Rd.mono h.size _ _ _ (Sh.Rd.below hry (Nat.le_refl _) h)); rw [p1] at q; exact q
    have HYP : Hid (∀ W, Below w2.heap.size w2 W → Below w1.heap.size w1 W → Calls Try.prog 10 #[.agg #[.slice ua y.1.length uc, .slice ub y.2.1.length ud], .int .i64 aa, .slice da m dc] W fun e w' => ∃ u1 u2, e = .returned (.agg #[.int .i64 0, u1, u2]) ∧ Own w' W.heap.size w'.heap.size gtS y [u1, u2] ∧ Below W.heap.size W w') := fun W h h' => by have q := iPutPiece y _ _ aa dl da dc W w2.heap.size (Sh.Rd.below hry (Nat.le_refl _) h) (by rw [hlm]; exact Sh.Rd.mono D1.out.size _ _ _ (HRL.out W h')) h.size (by omega); rw [hlm, p5, p6] at q; exact q
    have HUN : Hid (y.1.length = y.1.length) := rfl
    clear HUN hry p1 p5 p6 g0 sg1 sy1 hlm HRL
    obtain ⟨gy, hgy⟩ : ∃ q, q = holdV y := ⟨_, rfl⟩
    obtain ⟨gg, hgg⟩ : ∃ q, q = holdV g := ⟨_, rfl⟩
    rw [← hgy] at hgv HYH sy2 sy3
    rw [← hgg] at hgv HGH sg2 sg3
    clear hgy hgg
    obtain ⟨bX, hbX⟩ : ∃ q, q = w1.heap.size := ⟨_, rfl⟩
    have hD1 := D1.out
    clear D1
    have D1 : Hid (Below w1.heap.size w1 w2) := hD1
    clear hD1
    rw [← hbX] at kX zX ⊢
    clear hbX
    have LY : Hid (∀ z : Gt, z = y → z.1.length = y.1.length ∧ z.2.1.length = y.2.1.length) := fun z h => by subst h; exact ⟨rfl, rfl⟩
    clear LY
    have HFY : Hid (∀ (W : World) (B : Nat) (u1 u2 : Value), gtS.Rd W B y [u1, u2] → ∃ b1 k1 b2 k2, u1 = .slice b1 y.1.length k1 ∧ u2 = .slice b2 y.2.1.length k2) := fun W B u1 u2 h => gt_form h
    generalize y.1.length = un at *
    generalize y.2.1.length = um at *
    go_upto_region 5 with fail
    have kY : ∀ o, (w2.alloc (.cells #[.int .i64 0, .slice ua un uc, .slice ub um ud] 31)).cell? ⟨w2.heap.size, o, none⟩ = (#[.int .i64 0, .slice ua un uc, .slice ub um ud] : Array Value)[o]? := bx_al w2 _ _
    have hb : Below w2.heap.size w2 (w2.alloc (.cells #[.int .i64 0, .slice ua un uc, .slice ub um ud] 31)) := (Below.refl _ _).alloc (Nat.le_refl _) _
    have zY : w2.heap.size < (w2.alloc (.cells #[.int .i64 0, .slice ua un uc, .slice ub um ud] 31)).heap.size := by simp
    generalize hWW : (w2.alloc (.cells #[.int .i64 0, .slice ua un uc, .slice ub um ud] 31)) = w3 at kY hb zY ⊢
    clear hWW
    obtain ⟨bY, hq⟩ : ∃ q, q = w2.heap.size := ⟨_, rfl⟩
    rw [← hq] at zY kY ⊢
    clear hq
    replace D1 : Hid (Below w1.heap.size w1 w3) := D1.out.trans (hb.mono D1.out.size)
    replace D2 : Hid (Below w2.heap.size w2 w3) := D2.out.trans (hb.mono D2.out.size)
    replace kX := bx_below kX zX hb
    replace zX := Nat.lt_of_lt_of_le zX hb.size
    replace HB : Hid (Below w.heap.size w w3) := HB.out.trans (hb.mono HB.out.size)
    clear hb
    go_wp2_with fail
    refine (HYP.out _ D2.out D1.out).mono ?_
    rintro e w4 ⟨u3, u4, rfl, ho4, hb⟩
    clear HYP
    obtain ⟨ra, rc, rb, rd, rfl, rfl⟩ := HFY.out _ _ _ _ (ho4.rd (Nat.le_refl _))
    clear ho4 HFY
    replace D1 : Hid (Below w1.heap.size w1 w4) := D1.out.trans (hb.mono D1.out.size)
    replace D2 : Hid (Below w2.heap.size w2 w4) := D2.out.trans (hb.mono D2.out.size)
    replace kX := bx_below kX zX hb
    replace zX := Nat.lt_of_lt_of_le zX hb.size
    replace kY := bx_below kY zY hb
    replace zY := Nat.lt_of_lt_of_le zY hb.size
    replace HB : Hid (Below w.heap.size w w4) := HB.out.trans (hb.mono HB.out.size)
    clear hb
    go_upto_region 8 with fail
    have kZ : ∀ o, (w4.alloc (.cells #[.int .i64 0, .slice ra un rc, .slice rb um rd] 31)).cell? ⟨w4.heap.size, o, none⟩ = (#[.int .i64 0, .slice ra un rc, .slice rb um rd] : Array Value)[o]? := bx_al w4 _ _
    have hb : Below w4.heap.size w4 (w4.alloc (.cells #[.int .i64 0, .slice ra un rc, .slice rb um rd] 31)) := (Below.refl _ _).alloc (Nat.le_refl _) _
    have zZ : w4.heap.size < (w4.alloc (.cells #[.int .i64 0, .slice ra un rc, .slice rb um rd] 31)).heap.size := by simp
    generalize hWW : (w4.alloc (.cells #[.int .i64 0, .slice ra un rc, .slice rb um rd] 31)) = w5 at kZ hb zZ ⊢
    clear hWW
    obtain ⟨bZ, hq⟩ : ∃ q, q = w4.heap.size := ⟨_, rfl⟩
    rw [← hq] at zZ kZ ⊢
    clear hq
    replace D1 : Hid (Below w1.heap.size w1 w5) := D1.out.trans (hb.mono D1.out.size)
    replace D2 : Hid (Below w2.heap.size w2 w5) := D2.out.trans (hb.mono D2.out.size)
    replace kX := bx_below kX zX hb
    replace zX := Nat.lt_of_lt_of_le zX hb.size
    replace kY := bx_below kY zY hb
    replace zY := Nat.lt_of_lt_of_le zY hb.size
    replace HB : Hid (Below w.heap.size w w5) := HB.out.trans (hb.mono HB.out.size)
    clear hb
    have hlt : ¬ ((un : Int) < (n1 : Int)) := by omega
    go_wp2_with fail
    refine (HYF.out _ D2.out).mono ?_
    rintro e w6 ⟨rfl, hb⟩
    replace D1 : Hid (Below w1.heap.size w1 w6) := D1.out.trans (hb.mono D1.out.size)
    replace D2 : Hid (Below w2.heap.size w2 w6) := D2.out.trans (hb.mono D2.out.size)
    replace kX := bx_below kX zX hb
    replace zX := Nat.lt_of_lt_of_le zX hb.size
    replace kY := bx_below kY zY hb
    replace zY := Nat.lt_of_lt_of_le zY hb.size
    replace kZ := bx_below kZ zZ hb
    replace zZ := Nat.lt_of_lt_of_le zZ hb.size
    replace HB : Hid (Below w.heap.size w w6) := HB.out.trans (hb.mono HB.out.size)
    clear hb
    clear HYF
    go_wp2_with fail
    have e77 : decide (un < n1) = false := decide_eq_false (by omega)
    rw [e77]
    clear e77 kZ zZ hlt
    have hw9 : IntKind.i64.wrap (aa + (m : Int)) = aa + (m : Int) := w64T (by omega) (by omega)
    go_loopw [8] (fun t wr => ∃ kk : Nat, kk ≤ 60 ∧ t = .int .i64 kk ∧ (∀ o, wr.cell? ⟨bX, o, none⟩ = (#[.slice a1 n1 c1, .slice a2 n2 c2] : Array Value)[o]?) ∧ bX < wr.heap.size ∧ (∀ o, wr.cell? ⟨bY, o, none⟩ = (#[.int .i64 0, .slice ua un uc, .slice ub um ud] : Array Value)[o]?) ∧ bY < wr.heap.size ∧ Hid (Below w1.heap.size w1 wr) ∧ Hid (Below w2.heap.size w2 wr) ∧ Hid (Below w.heap.size w wr)) (fun t _ => (60 - intOf t).toNat)
    case atStart => exact ⟨0, by omega, rfl, kX, zX, kY, zY, D1, D2, HB⟩
    case round =>
      clear kX zX kY zY D1 D2 HB
      obtain ⟨kk, hk60, rfl, kX, zX, kY, zY, D1, D2, HB⟩ := hrel
      by_cases hkk : kk < 60
      · have hk1 : (kk : Int) < 60 := by omega
        by_cases h1 : aa ≤ (kk : Int)
        · by_cases h2 : (kk : Int) < aa + (m : Int)
          · have he0 := HBY.out (kk : Int)
            have he : hasB y (kk : Int) = true := by rw [he0]; simp; right; omega
            have HQ : Hid (∀ (W : World), Below w2.heap.size w2 W → Calls Try.prog 11 #[.agg #[.slice ua un uc, .slice ub um ud], .int .i64 (kk : Int)] W fun e w' => e = .returned (.bool true) ∧ Below W.heap.size W w') := fun W h => by have q := HYB.out W (kk : Int) h; rw [he] at q; exact q
            clear he he0
            go_wp2_with fail
            refine (HQ.out _ D2.out).mono ?_
            rintro e wq ⟨rfl, hb⟩
            replace D1 : Hid (Below w1.heap.size w1 wq) := D1.out.trans (hb.mono D1.out.size)
            replace D2 : Hid (Below w2.heap.size w2 wq) := D2.out.trans (hb.mono D2.out.size)
            replace kX := bx_below kX zX hb
            replace zX := Nat.lt_of_lt_of_le zX hb.size
            replace kY := bx_below kY zY hb
            replace zY := Nat.lt_of_lt_of_le zY hb.size
            replace HB : Hid (Below w.heap.size w wq) := HB.out.trans (hb.mono HB.out.size)
            clear hb
            go_wp2_with fail
            go_roundw
            case rel =>
              exact ⟨kk + 1, by omega, by go_num, kX, zX, kY, zY, D1, D2, HB⟩
            case measure => simp [intOf]; omega
          · have he0 := HBY.out (kk : Int)
            have he1 : hasB y (kk : Int) = hasB g (kk : Int) := by rw [he0]; cases hasB g (kk : Int) <;> simp <;> omega
            clear he0
            cases hq : hasB g (kk : Int) with
            | true =>
              have he : hasB y (kk : Int) = true := he1.trans hq
              have HQ : Hid (∀ (W : World), Below w2.heap.size w2 W → Calls Try.prog 11 #[.agg #[.slice ua un uc, .slice ub um ud], .int .i64 (kk : Int)] W fun e w' => e = .returned (.bool true) ∧ Below W.heap.size W w') := fun W h => by have q := HYB.out W (kk : Int) h; rw [he] at q; exact q
              clear he
              have he := hq
              have HQG : Hid (∀ (W : World), Below w1.heap.size w1 W → Calls Try.prog 11 #[.agg #[.slice a1 n1 c1, .slice a2 n2 c2], .int .i64 (kk : Int)] W fun e w' => e = .returned (.bool true) ∧ Below W.heap.size W w') := fun W h => by have q := HGB.out W (kk : Int) h; rw [he] at q; exact q
              clear he hq he1
              go_wp2_with fail
              refine (HQ.out _ D2.out).mono ?_
              rintro e wq ⟨rfl, hb⟩
              replace D1 : Hid (Below w1.heap.size w1 wq) := D1.out.trans (hb.mono D1.out.size)
              replace D2 : Hid (Below w2.heap.size w2 wq) := D2.out.trans (hb.mono D2.out.size)
              replace kX := bx_below kX zX hb
              replace zX := Nat.lt_of_lt_of_le zX hb.size
              replace kY := bx_below kY zY hb
              replace zY := Nat.lt_of_lt_of_le zY hb.size
              replace HB : Hid (Below w.heap.size w wq) := HB.out.trans (hb.mono HB.out.size)
              clear hb
              go_wp2_with fail
              refine (HQG.out _ D1.out).mono ?_
              rintro e wp ⟨rfl, hb⟩
              replace D1 : Hid (Below w1.heap.size w1 wp) := D1.out.trans (hb.mono D1.out.size)
              replace D2 : Hid (Below w2.heap.size w2 wp) := D2.out.trans (hb.mono D2.out.size)
              replace kX := bx_below kX zX hb
              replace zX := Nat.lt_of_lt_of_le zX hb.size
              replace kY := bx_below kY zY hb
              replace zY := Nat.lt_of_lt_of_le zY hb.size
              replace HB : Hid (Below w.heap.size w wp) := HB.out.trans (hb.mono HB.out.size)
              clear hb
              go_wp2_with fail
              go_roundw
              case rel =>
                exact ⟨kk + 1, by omega, by go_num, kX, zX, kY, zY, D1, D2, HB⟩
              case measure => simp [intOf]; omega
            | false =>
              have he : hasB y (kk : Int) = false := he1.trans hq
              have HQ : Hid (∀ (W : World), Below w2.heap.size w2 W → Calls Try.prog 11 #[.agg #[.slice ua un uc, .slice ub um ud], .int .i64 (kk : Int)] W fun e w' => e = .returned (.bool false) ∧ Below W.heap.size W w') := fun W h => by have q := HYB.out W (kk : Int) h; rw [he] at q; exact q
              clear he
              have he := hq
              have HQG : Hid (∀ (W : World), Below w1.heap.size w1 W → Calls Try.prog 11 #[.agg #[.slice a1 n1 c1, .slice a2 n2 c2], .int .i64 (kk : Int)] W fun e w' => e = .returned (.bool false) ∧ Below W.heap.size W w') := fun W h => by have q := HGB.out W (kk : Int) h; rw [he] at q; exact q
              clear he hq he1
              go_wp2_with fail
              refine (HQ.out _ D2.out).mono ?_
              rintro e wq ⟨rfl, hb⟩
              replace D1 : Hid (Below w1.heap.size w1 wq) := D1.out.trans (hb.mono D1.out.size)
              replace D2 : Hid (Below w2.heap.size w2 wq) := D2.out.trans (hb.mono D2.out.size)
              replace kX := bx_below kX zX hb
              replace zX := Nat.lt_of_lt_of_le zX hb.size
              replace kY := bx_below kY zY hb
              replace zY := Nat.lt_of_lt_of_le zY hb.size
              replace HB : Hid (Below w.heap.size w wq) := HB.out.trans (hb.mono HB.out.size)
              clear hb
              go_wp2_with fail
              refine (HQG.out _ D1.out).mono ?_
              rintro e wp ⟨rfl, hb⟩
              replace D1 : Hid (Below w1.heap.size w1 wp) := D1.out.trans (hb.mono D1.out.size)
              replace D2 : Hid (Below w2.heap.size w2 wp) := D2.out.trans (hb.mono D2.out.size)
              replace kX := bx_below kX zX hb
              replace zX := Nat.lt_of_lt_of_le zX hb.size
              replace kY := bx_below kY zY hb
              replace zY := Nat.lt_of_lt_of_le zY hb.size
              replace HB : Hid (Below w.heap.size w wp) := HB.out.trans (hb.mono HB.out.size)
              clear hb
              go_wp2_with fail
              go_roundw
              case rel =>
                exact ⟨kk + 1, by omega, by go_num, kX, zX, kY, zY, D1, D2, HB⟩
              case measure => simp [intOf]; omega
        · have he0 := HBY.out (kk : Int)
          have he1 : hasB y (kk : Int) = hasB g (kk : Int) := by rw [he0]; cases hasB g (kk : Int) <;> simp <;> omega
          clear he0
          cases hq : hasB g (kk : Int) with
          | true =>
            have he : hasB y (kk : Int) = true := he1.trans hq
            have HQ : Hid (∀ (W : World), Below w2.heap.size w2 W → Calls Try.prog 11 #[.agg #[.slice ua un uc, .slice ub um ud], .int .i64 (kk : Int)] W fun e w' => e = .returned (.bool true) ∧ Below W.heap.size W w') := fun W h => by have q := HYB.out W (kk : Int) h; rw [he] at q; exact q
            clear he
            have he := hq
            have HQG : Hid (∀ (W : World), Below w1.heap.size w1 W → Calls Try.prog 11 #[.agg #[.slice a1 n1 c1, .slice a2 n2 c2], .int .i64 (kk : Int)] W fun e w' => e = .returned (.bool true) ∧ Below W.heap.size W w') := fun W h => by have q := HGB.out W (kk : Int) h; rw [he] at q; exact q
            clear he hq he1
            go_wp2_with fail
            refine (HQ.out _ D2.out).mono ?_
            rintro e wq ⟨rfl, hb⟩
            replace D1 : Hid (Below w1.heap.size w1 wq) := D1.out.trans (hb.mono D1.out.size)
            replace D2 : Hid (Below w2.heap.size w2 wq) := D2.out.trans (hb.mono D2.out.size)
            replace kX := bx_below kX zX hb
            replace zX := Nat.lt_of_lt_of_le zX hb.size
            replace kY := bx_below kY zY hb
            replace zY := Nat.lt_of_lt_of_le zY hb.size
            replace HB : Hid (Below w.heap.size w wq) := HB.out.trans (hb.mono HB.out.size)
            clear hb
            go_wp2_with fail
            refine (HQG.out _ D1.out).mono ?_
            rintro e wp ⟨rfl, hb⟩
            replace D1 : Hid (Below w1.heap.size w1 wp) := D1.out.trans (hb.mono D1.out.size)
            replace D2 : Hid (Below w2.heap.size w2 wp) := D2.out.trans (hb.mono D2.out.size)
            replace kX := bx_below kX zX hb
            replace zX := Nat.lt_of_lt_of_le zX hb.size
            replace kY := bx_below kY zY hb
            replace zY := Nat.lt_of_lt_of_le zY hb.size
            replace HB : Hid (Below w.heap.size w wp) := HB.out.trans (hb.mono HB.out.size)
            clear hb
            go_wp2_with fail
            go_roundw
            case rel =>
              exact ⟨kk + 1, by omega, by go_num, kX, zX, kY, zY, D1, D2, HB⟩
            case measure => simp [intOf]; omega
          | false =>
            have he : hasB y (kk : Int) = false := he1.trans hq
            have HQ : Hid (∀ (W : World), Below w2.heap.size w2 W → Calls Try.prog 11 #[.agg #[.slice ua un uc, .slice ub um ud], .int .i64 (kk : Int)] W fun e w' => e = .returned (.bool false) ∧ Below W.heap.size W w') := fun W h => by have q := HYB.out W (kk : Int) h; rw [he] at q; exact q
            clear he
            have he := hq
            have HQG : Hid (∀ (W : World), Below w1.heap.size w1 W → Calls Try.prog 11 #[.agg #[.slice a1 n1 c1, .slice a2 n2 c2], .int .i64 (kk : Int)] W fun e w' => e = .returned (.bool false) ∧ Below W.heap.size W w') := fun W h => by have q := HGB.out W (kk : Int) h; rw [he] at q; exact q
            clear he hq he1
            go_wp2_with fail
            refine (HQ.out _ D2.out).mono ?_
            rintro e wq ⟨rfl, hb⟩
            replace D1 : Hid (Below w1.heap.size w1 wq) := D1.out.trans (hb.mono D1.out.size)
            replace D2 : Hid (Below w2.heap.size w2 wq) := D2.out.trans (hb.mono D2.out.size)
            replace kX := bx_below kX zX hb
            replace zX := Nat.lt_of_lt_of_le zX hb.size
            replace kY := bx_below kY zY hb
            replace zY := Nat.lt_of_lt_of_le zY hb.size
            replace HB : Hid (Below w.heap.size w wq) := HB.out.trans (hb.mono HB.out.size)
            clear hb
            go_wp2_with fail
            refine (HQG.out _ D1.out).mono ?_
            rintro e wp ⟨rfl, hb⟩
            replace D1 : Hid (Below w1.heap.size w1 wp) := D1.out.trans (hb.mono D1.out.size)
            replace D2 : Hid (Below w2.heap.size w2 wp) := D2.out.trans (hb.mono D2.out.size)
            replace kX := bx_below kX zX hb
            replace zX := Nat.lt_of_lt_of_le zX hb.size
            replace kY := bx_below kY zY hb
            replace zY := Nat.lt_of_lt_of_le zY hb.size
            replace HB : Hid (Below w.heap.size w wp) := HB.out.trans (hb.mono HB.out.size)
            clear hb
            go_wp2_with fail
            go_roundw
            case rel =>
              exact ⟨kk + 1, by omega, by go_num, kX, zX, kY, zY, D1, D2, HB⟩
            case measure => simp [intOf]; omega
      · obtain rfl : kk = 60 := by omega
        have ha1 : IntKind.i64.wrap (gy + (un : Int)) = gy + (un : Int) := w64T (by omega) (by omega)
        have ha2 : IntKind.i64.wrap (gg + (n1 : Int)) = gg + (n1 : Int) := w64T (by omega) (by omega)
        go_upto_region 16 with fail
        refine wp_region_noPanic ?_
        refine Goes.start (S := fun w' => Below wr.heap.size wr w') (z := 100) (by kernel_rfl) ?_
        refine Goes.take (i := 0) (oi := ?oi2) (x := ?vx2) ?ho2 (by kernel_rfl) (by kernel_rfl) (by kernel_rfl) (by kernel_rfl) (fun _ _ _ h => h) (Or.inl ⟨?hw2, ?hy2⟩) (Below.drew (Below.refl _ _)) ?rest2
        case ho2 => (simp only [List.getElem?_toArray, List.getElem?_cons_zero] <;> rfl)
        case hw2 => rfl
        case hy2 => (intro w' hSw; have jX := fun o => (hSw.cell (p := ⟨bX, o, none⟩) zX).trans (kX o); have jY := fun o => (hSw.cell (p := ⟨bY, o, none⟩) zY).trans (kY o); go_simp; (try with_reducible rfl))
        case rest2 =>
        (try simp only [Act.put, List.setIfInBounds_toArray, List.set_cons_zero, List.set_cons_succ])
        refine Goes.take (i := 1) (oi := ?oi3) (x := ?vx3) ?ho3 (by kernel_rfl) (by kernel_rfl) (by kernel_rfl) (by kernel_rfl) (fun _ _ _ h => h) (Or.inl ⟨?hw3, ?hy3⟩) (Below.drew (Below.refl _ _)) ?rest3
        case ho3 => (simp only [List.getElem?_toArray, List.getElem?_cons_succ, List.getElem?_cons_zero] <;> rfl)
        case hw3 => rfl
        case hy3 => (intro w' hSw; have jX := fun o => (hSw.cell (p := ⟨bX, o, none⟩) zX).trans (kX o); have jY := fun o => (hSw.cell (p := ⟨bY, o, none⟩) zY).trans (kY o); go_simp; (try with_reducible rfl))
        case rest3 =>
        (try simp only [Act.put, List.setIfInBounds_toArray, List.set_cons_zero, List.set_cons_succ])
        refine Goes.take (i := 4) (oi := ?oi4) (x := ?vx4) ?ho4 (by kernel_rfl) (by kernel_rfl) (by kernel_rfl) (by kernel_rfl) (fun _ _ _ h => h) (Or.inl ⟨?hw4, ?hy4⟩) (Below.drew (Below.refl _ _)) ?rest4
        case ho4 => (simp only [List.getElem?_toArray, List.getElem?_cons_succ, List.getElem?_cons_zero] <;> rfl)
        case hw4 => rfl
        case hy4 => (intro w' hSw; have jX := fun o => (hSw.cell (p := ⟨bX, o, none⟩) zX).trans (kX o); have jY := fun o => (hSw.cell (p := ⟨bY, o, none⟩) zY).trans (kY o); go_simp; (try with_reducible rfl))
        case rest4 =>
        (try simp only [Act.put, List.setIfInBounds_toArray, List.set_cons_zero, List.set_cons_succ])
        refine Goes.take (i := 5) (oi := ?oi5) (x := ?vx5) ?ho5 (by kernel_rfl) (by kernel_rfl) (by kernel_rfl) (by kernel_rfl) (fun _ _ _ h => h) (Or.inl ⟨?hw5, ?hy5⟩) (Below.drew (Below.refl _ _)) ?rest5
        case ho5 => (simp only [List.getElem?_toArray, List.getElem?_cons_succ, List.getElem?_cons_zero] <;> rfl)
        case hw5 => rfl
        case hy5 => (intro w' hSw; have jX := fun o => (hSw.cell (p := ⟨bX, o, none⟩) zX).trans (kX o); have jY := fun o => (hSw.cell (p := ⟨bY, o, none⟩) zY).trans (kY o); go_simp; (try with_reducible rfl))
        case rest5 =>
        (try simp only [Act.put, List.setIfInBounds_toArray, List.set_cons_zero, List.set_cons_succ])
        refine Goes.take (i := 6) (oi := ?oi6) (x := ?vx6) ?ho6 (by kernel_rfl) (by kernel_rfl) (by kernel_rfl) (by kernel_rfl) (fun _ _ _ h => h) (Or.inl ⟨?hw6, ?hy6⟩) (Below.drew (Below.refl _ _)) ?rest6
        case ho6 => (simp only [List.getElem?_toArray, List.getElem?_cons_succ, List.getElem?_cons_zero] <;> rfl)
        case hw6 => rfl
        case hy6 => (intro w' hSw; have jX := fun o => (hSw.cell (p := ⟨bX, o, none⟩) zX).trans (kX o); have jY := fun o => (hSw.cell (p := ⟨bY, o, none⟩) zY).trans (kY o); go_simp; (try with_reducible rfl))
        case rest6 =>
        (try simp only [Act.put, List.setIfInBounds_toArray, List.set_cons_zero, List.set_cons_succ])
        refine Goes.take (i := 7) (oi := ?oi7) (x := ?vx7) ?ho7 (by kernel_rfl) (by kernel_rfl) (by kernel_rfl) (by kernel_rfl) (fun _ _ _ h => h) (Or.inl ⟨?hw7, ?hy7⟩) (Below.drew (Below.refl _ _)) ?rest7
        case ho7 => (simp only [List.getElem?_toArray, List.getElem?_cons_succ, List.getElem?_cons_zero] <;> rfl)
        case hw7 => rfl
        case hy7 => (intro w' hSw; have jX := fun o => (hSw.cell (p := ⟨bX, o, none⟩) zX).trans (kX o); have jY := fun o => (hSw.cell (p := ⟨bY, o, none⟩) zY).trans (kY o); go_simp; (try with_reducible rfl))
        case rest7 =>
        (try simp only [Act.put, List.setIfInBounds_toArray, List.set_cons_zero, List.set_cons_succ])
        refine Goes.take (i := 9) (oi := ?oi8) (x := ?vx8) ?ho8 (by kernel_rfl) (by kernel_rfl) (by kernel_rfl) (by kernel_rfl) (fun _ _ _ h => h) (Or.inl ⟨?hw8, ?hy8⟩) (Below.drew (Below.refl _ _)) ?rest8
        case ho8 => (simp only [List.getElem?_toArray, List.getElem?_cons_succ, List.getElem?_cons_zero] <;> rfl)
        case hw8 => rfl
        case hy8 => (intro w' hSw; have jX := fun o => (hSw.cell (p := ⟨bX, o, none⟩) zX).trans (kX o); have jY := fun o => (hSw.cell (p := ⟨bY, o, none⟩) zY).trans (kY o); go_simp; (try with_reducible rfl))
        case rest8 =>
        (try simp only [Act.put, List.setIfInBounds_toArray, List.set_cons_zero, List.set_cons_succ])
        refine Goes.take (i := 12) (oi := ?oi9) (x := ?vx9) ?ho9 (by kernel_rfl) (by kernel_rfl) (by kernel_rfl) (by kernel_rfl) (fun _ _ _ h => h) (Or.inl ⟨?hw9, ?hy9⟩) (Below.drew (Below.refl _ _)) ?rest9
        case ho9 => (simp only [List.getElem?_toArray, List.getElem?_cons_succ, List.getElem?_cons_zero] <;> rfl)
        case hw9 => rfl
        case hy9 => (intro w' hSw; have jX := fun o => (hSw.cell (p := ⟨bX, o, none⟩) zX).trans (kX o); have jY := fun o => (hSw.cell (p := ⟨bY, o, none⟩) zY).trans (kY o); go_simp; (try with_reducible rfl))
        case rest9 =>
        (try simp only [Act.put, List.setIfInBounds_toArray, List.set_cons_zero, List.set_cons_succ])
        refine Goes.take (i := 13) (oi := ?oi10) (x := ?vx10) ?ho10 (by kernel_rfl) (by kernel_rfl) (by kernel_rfl) (by kernel_rfl) (fun _ _ _ h => h) (Or.inl ⟨?hw10, ?hy10⟩) (Below.drew (Below.refl _ _)) ?rest10
        case ho10 => (simp only [List.getElem?_toArray, List.getElem?_cons_succ, List.getElem?_cons_zero] <;> rfl)
        case hw10 => rfl
        case hy10 => (intro w' hSw; have jX := fun o => (hSw.cell (p := ⟨bX, o, none⟩) zX).trans (kX o); have jY := fun o => (hSw.cell (p := ⟨bY, o, none⟩) zY).trans (kY o); go_simp; (try with_reducible rfl))
        case rest10 =>
        (try simp only [Act.put, List.setIfInBounds_toArray, List.set_cons_zero, List.set_cons_succ])
        refine Goes.take (i := 14) (oi := ?oi11) (x := ?vx11) ?ho11 (by kernel_rfl) (by kernel_rfl) (by kernel_rfl) (by kernel_rfl) (fun _ _ _ h => h) (Or.inl ⟨?hw11, ?hy11⟩) (Below.drew (Below.refl _ _)) ?rest11
        case ho11 => (simp only [List.getElem?_toArray, List.getElem?_cons_succ, List.getElem?_cons_zero] <;> rfl)
        case hw11 => rfl
        case hy11 => (intro w' hSw; have jX := fun o => (hSw.cell (p := ⟨bX, o, none⟩) zX).trans (kX o); have jY := fun o => (hSw.cell (p := ⟨bY, o, none⟩) zY).trans (kY o); go_simp; (try with_reducible rfl))
        case rest11 =>
        (try simp only [Act.put, List.setIfInBounds_toArray, List.set_cons_zero, List.set_cons_succ])
        refine Goes.all (rs := [2]) (by kernel_rfl) (by simp) ?_
        refine Ups.cons (i := 2) (o := ?oo12) ?ho12 (fun KK hKK => ?stp12) Ups.nil
        case ho12 => (simp only [List.getElem?_toArray, List.getElem?_cons_succ, List.getElem?_cons_zero] <;> rfl)
        case stp12 =>
        go_simp
        go_at_call 14
        refine (HYH.out _ (D2.out.trans ((Below.drew (Below.refl _ _)).mono D2.out.size))).mono ?_
        rintro e wa ⟨rfl, hbq⟩
        replace hbq := (Below.drew (Below.refl wr.heap.size wr)).trans hbq
        have HS12 : Hid (Below wr.heap.size wr wa) := hbq
        clear hbq
        dsimp only
        refine hKK.out _ _ (Or.inr HS12.out) ?_
        clear hKK KK
        (try simp only [Act.put, List.setIfInBounds_toArray, List.set_cons_zero, List.set_cons_succ])
        refine Goes.take (i := 3) (oi := ?oi13) (x := ?vx13) ?ho13 (by kernel_rfl) (by kernel_rfl) (by kernel_rfl) (by kernel_rfl) (fun _ _ _ h => h) (Or.inl ⟨?hw13, ?hy13⟩) HS12.out ?rest13
        case ho13 => (simp only [List.getElem?_toArray, List.getElem?_cons_succ, List.getElem?_cons_zero] <;> rfl)
        case hw13 => rfl
        case hy13 => (intro w' hSw; have jX := fun o => (hSw.cell (p := ⟨bX, o, none⟩) zX).trans (kX o); have jY := fun o => (hSw.cell (p := ⟨bY, o, none⟩) zY).trans (kY o); go_simp; (try with_reducible rfl))
        case rest13 =>
        (try simp only [Act.put, List.setIfInBounds_toArray, List.set_cons_zero, List.set_cons_succ])
        refine Goes.take (i := 8) (oi := ?oi14) (x := ?vx14) ?ho14 (by kernel_rfl) (by kernel_rfl) (by kernel_rfl) (by kernel_rfl) (fun _ _ _ h => h) (Or.inl ⟨?hw14, ?hy14⟩) HS12.out ?rest14
        case ho14 => (simp only [List.getElem?_toArray, List.getElem?_cons_succ, List.getElem?_cons_zero] <;> rfl)
        case hw14 => rfl
        case hy14 => (intro w' hSw; have jX := fun o => (hSw.cell (p := ⟨bX, o, none⟩) zX).trans (kX o); have jY := fun o => (hSw.cell (p := ⟨bY, o, none⟩) zY).trans (kY o); go_simp; (try with_reducible rfl))
        case rest14 =>
        (try simp only [Act.put, List.setIfInBounds_toArray, List.set_cons_zero, List.set_cons_succ])
        refine Goes.all (rs := [10]) (by kernel_rfl) (by simp) ?_
        refine Ups.cons (i := 10) (o := ?oo15) ?ho15 (fun KK hKK => ?stp15) Ups.nil
        case ho15 => (simp only [List.getElem?_toArray, List.getElem?_cons_succ, List.getElem?_cons_zero] <;> rfl)
        case stp15 =>
        go_simp
        go_at_call 14
        refine (HGH.out _ (D1.out.trans (HS12.out.mono D1.out.size))).mono ?_
        rintro e wb ⟨rfl, hbq⟩
        replace hbq := HS12.out.trans (hbq.mono HS12.out.size)
        have HS15 : Hid (Below wr.heap.size wr wb) := hbq
        clear hbq
        dsimp only
        refine hKK.out _ _ (Or.inr HS15.out) ?_
        clear hKK KK
        (try simp only [Act.put, List.setIfInBounds_toArray, List.set_cons_zero, List.set_cons_succ])
        refine Goes.take (i := 11) (oi := ?oi16) (x := ?vx16) ?ho16 (by kernel_rfl) (by kernel_rfl) (by kernel_rfl) (by kernel_rfl) (fun _ _ _ h => h) (Or.inl ⟨?hw16, ?hy16⟩) HS15.out ?rest16
        case ho16 => (simp only [List.getElem?_toArray, List.getElem?_cons_succ, List.getElem?_cons_zero] <;> rfl)
        case hw16 => rfl
        case hy16 => (intro w' hSw; have jX := fun o => (hSw.cell (p := ⟨bX, o, none⟩) zX).trans (kX o); have jY := fun o => (hSw.cell (p := ⟨bY, o, none⟩) zY).trans (kY o); go_simp; (try with_reducible rfl))
        case rest16 =>
        (try simp only [Act.put, List.setIfInBounds_toArray, List.set_cons_zero, List.set_cons_succ])
        refine Goes.take (i := 15) (oi := ?oi17) (x := ?vx17) ?ho17 (by kernel_rfl) (by kernel_rfl) (by kernel_rfl) (by kernel_rfl) (fun _ _ _ h => h) (Or.inl ⟨?hw17, ?hy17⟩) HS15.out ?rest17
        case ho17 => (simp only [List.getElem?_toArray, List.getElem?_cons_succ, List.getElem?_cons_zero] <;> rfl)
        case hw17 => rfl
        case hy17 => (intro w' hSw; have jX := fun o => (hSw.cell (p := ⟨bX, o, none⟩) zX).trans (kX o); have jY := fun o => (hSw.cell (p := ⟨bY, o, none⟩) zY).trans (kY o); go_simp; (try with_reducible rfl))
        case rest17 =>
        (try simp only [Act.put, List.setIfInBounds_toArray, List.set_cons_zero, List.set_cons_succ])
        refine Goes.take (i := 16) (oi := ?oi18) (x := ?vx18) ?ho18 (by kernel_rfl) (by kernel_rfl) (by kernel_rfl) (by kernel_rfl) (fun _ _ _ h => h) (Or.inl ⟨?hw18, ?hy18⟩) HS15.out ?rest18
        case ho18 => (simp only [List.getElem?_toArray, List.getElem?_cons_succ, List.getElem?_cons_zero] <;> rfl)
        case hw18 => rfl
        case hy18 => (intro w' hSw; have jX := fun o => (hSw.cell (p := ⟨bX, o, none⟩) zX).trans (kX o); have jY := fun o => (hSw.cell (p := ⟨bY, o, none⟩) zY).trans (kY o); go_simp; (try with_reducible rfl))
        case rest18 =>
        (try simp only [Act.put, List.setIfInBounds_toArray, List.set_cons_zero, List.set_cons_succ])
        refine Goes.take (i := 17) (oi := ?oi19) (x := ?vx19) ?ho19 (by kernel_rfl) (by kernel_rfl) (by kernel_rfl) (by kernel_rfl) (fun _ _ _ h => h) (Or.inl ⟨?hw19, ?hy19⟩) HS15.out ?rest19
        case ho19 => (simp only [List.getElem?_toArray, List.getElem?_cons_succ, List.getElem?_cons_zero] <;> rfl)
        case hw19 => rfl
        case hy19 => (intro w' hSw; have jX := fun o => (hSw.cell (p := ⟨bX, o, none⟩) zX).trans (kX o); have jY := fun o => (hSw.cell (p := ⟨bY, o, none⟩) zY).trans (kY o); go_simp; (try with_reducible rfl))
        case rest19 =>
        (try simp only [Act.put, List.setIfInBounds_toArray, List.set_cons_zero, List.set_cons_succ])
        refine Goes.done (by kernel_rfl) ?_ _
        refine NoPanic.normal ?_
        have HBF : Hid (Below w.heap.size w wb) := HB.out.trans (HS15.out.mono HB.out.size)
        go_wp2_with fail
        go_ret
        exact ⟨ret_bool (by simp <;> omega), HBF.out⟩

set_option maxRecDepth 100000 in
theorem lifted (os : Os) (started : os.Started) (H : Type) (enc : TypeId × Value → H) :
    ReturnsInHanded {} Try.checked os 4 .any (Rows.fnPiecesSpec.pre6 enc Try.prog Try.f4 Rows.fnPiecesRow.domain false) (Rows.fnPiecesSpec.post enc Try.prog Try.f4 false true false false) := by
  refine returnsInHanded_of_change (C := Try.checked) own started (by kernel_rfl) Try.func4
    (ChangeSpec.witness6 (enc := enc) (C := Try.checked) false ⟨#[], #[.slice none 0 0], []⟩ 8 (by kernel_rfl) (by kernel_rfl) (by kernel_rfl) (by kernel_rfl)) ?_
  intro W base args ds gs before hval0 hW hcnd _
  have hval : ∀ (j : Nat) t v, Try.f4.params[j]? = some t → args[j]? = some v → Value.okWide Try.prog W .any base t v := hval0
  have hW' := hW
  obtain ⟨p, q, hA0, hV, rfl, hfz, hnd⟩ := hW
  have hA : DataW.TrodAll enc Try.prog W 0 (fun _ => true) true Try.f4.params.toList args.toList ds p := hA0
  rw [Try.params4] at hA hval
  obtain ⟨v0, vs0, d0, ds0, p0, q0, hargs, rfl, rfl, h0, r0⟩ := trodAll_cons hA
  obtain ⟨rfl, rfl, rfl⟩ := trodAll_nil r0
  obtain rfl : args = #[v0] := by cases args; simp_all
  obtain ⟨rfl, rfl⟩ := trodVars_none hV
  obtain ⟨a0, len0, cap0, rfl⟩ := okWide_slice Try.underlying22 (hval 0 22 v0 rfl rfl)
  have k0 := h0
  have lt0 : ∀ x ∈ p0, x.block < W.heap.size := by obtain ⟨m, hm⟩ := k0; exact DataW.trod_lt m _ _ _ hm
  obtain ⟨z0, w0⟩ : ∃ zs, IsRow .u8 W a0 len0 cap0 zs := by
    obtain ⟨fuel, hf⟩ := h0
    rcases open_ints Try.underlying22 Try.underlying5 (by kernel_rfl) hf with ⟨hcs, _⟩ | ⟨x, l, c, zs, hcs, _, hl, hm, hz, _, hcell, hwz⟩
    · simp [Value.cells] at hcs
      obtain ⟨rfl, rfl, rfl⟩ := hcs
      exact ⟨[], .inl ⟨rfl, rfl, rfl, rfl⟩⟩
    · simp [Value.cells] at hcs
      obtain ⟨rfl, rfl, rfl⟩ := hcs
      exact ⟨zs, .inr ⟨_, rfl, hl, hm, by simpa using hz, hcell, hwz⟩⟩
  clear hA0 hval0
  refine (walk a0 len0 cap0 z0 W w0).mono fun e W' ⟨he, bel⟩ => ?_
  subst he
  exact ⟨_, rfl, _, _, _, [], _, [], hW', trodAll_mk1 (shut_bool Try.underlying4 _), (trodAll_cons_mk (Below.trod laidOut (by kernel_rfl) (of_decide_eq_true (by kernel_rfl)) k0 bel lt0) trodAll_mk0), rfl, bel.frame _, fun h => by cases h⟩

theorem over : Rows.fnPiecesRow.holds Try.pinned (OpenSpec.ofChange Rows.fnPiecesSpec) :=
  OpenClaim.holds_of_wide 4 Try.f4 rfl rfl rfl rfl rfl rfl rfl ⟨rfl, rfl, rfl, rfl, rfl⟩ rfl rfl rfl rfl rfl (by kernel_rfl) Try.func4 (by kernel_rfl)
    (of_decide_eq_true (by kernel_rfl)) (by unfold Func.isWrapper; first | (rw [if_pos (by decide +kernel)]; kernel_rfl) | (rw [if_neg (by decide +kernel)]; exact ⟨rfl, rfl⟩))
    (fun os started H enc _ => lifted os started H enc)

theorem proved : Rows.FnPiecesSaid := over
#print axioms proved
end Go.Proofs.Ytnbcefdfdonljaa.fnPieces

namespace Go.Proofs.Ytnbcefdfdonljaa
theorem fnPieces_holds : Rows.FnPiecesSaid := fnPieces.proved
end Go.Proofs.Ytnbcefdfdonljaa
