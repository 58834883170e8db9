/- Subs that stand as one value: SubFault, RoomOf, StaleOf, CloseSub of the program, CloseSub of the model where a sub is wrong, CoversData of a sub that is closed; what an ack makes of a sub, in plain words; no condition but that a sub has at most a million parts. -/
import Derived.Test.YtebgibjokljlbaaRows
import Derived.Test.YtebgibjokljlbaaS01
import Derived.Test.YtebgibjokljlbaaS03
import Derived.Test.YtebgibjokljlbaaS04
import Derived.Test.YtebgibjokljlbaaS05
import Derived.Test.YtebgibjokljlbaaS11
import Derived.Test.YtebgibjokljlbaaS13
import Derived.Test.YtebgibjokljlbaaS18
import Derived.Test.YtebgibjokljlbaaS21
import Derived.Test.YtebgibjokljlbaaS23
import Derived.Test.YtebgibjokljlbaaS24
import Derived.Test.YtebgibjokljlbaaS26
import Derived.Test.YtebgibjokljlbaaS27
import Derived.Test.YtebgibjokljlbaaS28
import Derived.Test.YtebgibjokljlbaaS30
import Derived.Test.YtebgibjokljlbaaS35
namespace Go.Proofs.Ytebgibjokljlbaa
open Go.RowKit
set_option linter.unusedVariables false
set_option maxRecDepth 8000
set_option linter.unusedSimpArgs false
theorem sub_lit {w : World} {B : Nat} {x : DSub} {cs : List Value} (hr : shSub.Rd w B x cs) :
    ∃ (y0 y1 : Int) (y2 : Bool) (y3 y4 y5 s0 s1 s2 : Int) (fl : List DFlight) (c0 c1 : Int) (sp : List DSpan) (k0 k1 k2 : Int) (ua : Option Addr) (uc : Nat) (va : Option Addr) (vc : Nat), x = (y0, y1, y2, y3, y4, y5, (s0, s1, s2, fl, ()), (c0, c1, sp, ()), (k0, k1, k2, ()), ()) ∧ cs = [.int .i64 y0, .int .i64 y1, .bool y2, .int .i64 y3, .int .i64 y4, .int .i64 y5, .int .i64 s0, .int .i64 s1, .int .i64 s2, .slice ua fl.length uc, .int .i64 c0, .int .i64 c1, .slice va sp.length vc, .int .i64 k0, .int .i64 k1, .int .i64 k2] ∧ shSender.Rd w B (s0, s1, s2, fl, ()) [.int .i64 s0, .int .i64 s1, .int .i64 s2, .slice ua fl.length uc] ∧ shCatch.Rd w B (c0, c1, sp, ()) [.int .i64 c0, .int .i64 c1, .slice va sp.length vc] ∧ SubWf (y0, y1, y2, y3, y4, y5, (s0, s1, s2, fl, ()), (c0, c1, sp, ()), (k0, k1, k2, ()), ()) := by
  obtain ⟨y0, y1, y2, y3, y4, y5, ⟨s0, s1, s2, fl, ⟨⟩⟩, ⟨c0, c1, sp, ⟨⟩⟩, ⟨k0, k1, k2, ⟨⟩⟩, ⟨⟩⟩ := x
  obtain ⟨u, v, e, -⟩ := rd_Sub hr
  have e2 : cs = [.int .i64 y0, .int .i64 y1, .bool y2, .int .i64 y3, .int .i64 y4, .int .i64 y5, .int .i64 s0, .int .i64 s1, .int .i64 s2, u, .int .i64 c0, .int .i64 c1, v, .int .i64 k0, .int .i64 k1, .int .i64 k2] := e
  subst e2
  obtain ⟨ua, uc, va, vc, rfl, rfl, hs, hc, hw⟩ := rd_SubF hr
  exact ⟨y0, y1, y2, y3, y4, y5, s0, s1, s2, fl, c0, c1, sp, k0, k1, k2, ua, uc, va, vc, rfl, rfl, hs, hc, hw⟩
theorem bx_setCA {w : World} {b g k : Nat} {v : Value} {A : Array Value} (h : ∀ o, w.cell? ⟨b, o, none⟩ = A[o]?) (hne : b ≠ g) : ∀ o, (w.setCell ⟨g, k, none⟩ v).cell? ⟨b, o, none⟩ = A[o]? := fun o => by rw [← h o]; exact World.cell?_of_block (Below.heap_setCell _ _ _ _ (by dsimp only; exact hne))
theorem fx_setCA {w : World} {b g k : Nat} {v : Value} (h : ∀ o, w.frozen? ⟨b, o, none⟩ = false) : ∀ o, (w.setCell ⟨g, k, none⟩ v).frozen? ⟨b, o, none⟩ = false := fun o => by rw [World.frozen?_setCell]; exact h o
theorem mk_SubRd {w : World} {B : Nat} {y0 y1 : Int} {y2 : Bool} {y3 y4 y5 s0 s1 s2 : Int} {fl : List DFlight} {c0 c1 : Int} {sp : List DSpan} {k0 k1 k2 : Int} {u v : Value} (hs : shSender.Rd w B (s0, s1, s2, fl, ()) [.int .i64 s0, .int .i64 s1, .int .i64 s2, u]) (hc : shCatch.Rd w B (c0, c1, sp, ()) [.int .i64 c0, .int .i64 c1, v]) (hw : SubWf (y0, y1, y2, y3, y4, y5, (s0, s1, s2, fl, ()), (c0, c1, sp, ()), (k0, k1, k2, ()), ())) : shSub.Rd w B (y0, y1, y2, y3, y4, y5, (s0, s1, s2, fl, ()), (c0, c1, sp, ()), (k0, k1, k2, ()), ()) [.int .i64 y0, .int .i64 y1, .bool y2, .int .i64 y3, .int .i64 y4, .int .i64 y5, .int .i64 s0, .int .i64 s1, .int .i64 s2, u, .int .i64 c0, .int .i64 c1, v, .int .i64 k0, .int .i64 k1, .int .i64 k2] := by
  obtain ⟨⟨w0, w1, w3, w4, w5⟩, d0, d1, d2⟩ := hw
  exact ⟨[_], _, rfl, ⟨rfl, w0⟩, [_], _, rfl, ⟨rfl, w1⟩, [_], _, rfl, rfl, [_], _, rfl, ⟨rfl, w3⟩, [_], _, rfl, ⟨rfl, w4⟩, [_], _, rfl, ⟨rfl, w5⟩, [_, _, _, _], _, rfl, hs, [_, _, _], _, rfl, hc, [_, _, _], [], rfl, ⟨[_], _, rfl, ⟨rfl, d0⟩, [_], _, rfl, ⟨rfl, d1⟩, [_], [], rfl, ⟨rfl, d2⟩, rfl⟩, rfl⟩
theorem iSubFaultA (x : DSub) (A : Array Value) (w : World) (B : Nat) (hr : shSub.Rd w B x A.toList) (hB : B ≤ w.heap.size) (hT : totSub x ≤ 1048576) :
    Calls Try.prog 33 #[.agg A] w fun e w' => e = .returned (.int .i64 (subF x)) ∧ Below w.heap.size w w' := by
  obtain ⟨u, v, e, -⟩ := rd_Sub hr
  rw [e] at hr
  rw [arr_of e]
  exact iSubFault x u v w B hr hB hT
theorem iRoomOfA (x : DSub) (A : Array Value) (w : World) (B : Nat) (hr : shSub.Rd w B x A.toList) (hB : B ≤ w.heap.size) (hT : totSub x ≤ 1048576) :
    Calls Try.prog 34 #[.agg A] w fun e w' => e = .returned (.agg #[.int .i64 (subF x), .int .i64 (roomV x)]) ∧ Below w.heap.size w w' := by
  obtain ⟨u, v, e, -⟩ := rd_Sub hr
  rw [e] at hr
  rw [arr_of e]
  exact iRoomOf x u v w B hr hB hT
theorem iStaleOfA (x : DSub) (A : Array Value) (w : World) (B : Nat) (hr : shSub.Rd w B x A.toList) (hB : B ≤ w.heap.size) (hT : totSub x ≤ 1048576) :
    Calls Try.prog 35 #[.agg A] w fun e w' => e = .returned (.agg #[.int .i64 (subF x), .int .i64 (stlV x)]) ∧ Below w.heap.size w w' := by
  obtain ⟨u, v, e, -⟩ := rd_Sub hr
  rw [e] at hr
  rw [arr_of e]
  exact iStaleOf x u v w B hr hB hT
theorem iCloseSubA (x : DSub) (A : Array Value) (w : World) (B : Nat) (hr : shSub.Rd w B x A.toList) (hB : B ≤ w.heap.size) (hT : totSub x ≤ 1048576) :
    Calls Try.prog 30 #[.agg A] w fun e w' => ∃ T : List Value, e = .returned (.agg (.int .i64 (subF x) :: T).toArray) ∧ shSub.Rd w' w'.heap.size (clsV x) T ∧ Below w.heap.size w w' := by
  obtain ⟨u, v, e, -⟩ := rd_Sub hr
  rw [e] at hr
  rw [arr_of e]
  refine (iCloseSub x u v w B hr hB hT).mono ?_
  rintro e w' ⟨u2, v2, rfl, ho, hb⟩
  exact ⟨_, rfl, rdO_Sub (ho.rd (Nat.le_refl _)), hb⟩
theorem sCloseSubA (x : DSub) (A : Array Value) (w : World) (B : Nat) (hr : shSub.Rd w B x A.toList) (hB : B ≤ w.heap.size) (hT : totSub x ≤ 1048576) (hF : ¬ subF x = 0) :
    Calls Try.prog 31 #[.agg A] w fun e w' => ∃ T : List Value, T.length = 16 ∧ e = .returned (.agg (.int .i64 (subF x) :: T).toArray) ∧ Below w.heap.size w w' := by
  obtain ⟨u, v, e, -⟩ := rd_Sub hr
  rw [e] at hr
  rw [arr_of e]
  refine (sCloseSub x u v w B hr hB hT).mono ?_
  rintro e w' ⟨u2, v2, rfl, ho, hb⟩
  exact ⟨_, rfl, rfl, hb⟩
set_option maxHeartbeats 2000000 in
theorem iCoversNo (x : DSub) (A : Array Value) (w : World) (B : Nat) (hr : shSub.Rd w B x A.toList) (hB : B ≤ w.heap.size) (hT : totSub x ≤ 1048576) (hF : subF x = 0) (h3 : x.2.1 = 4) :
    Calls Try.prog 36 #[.agg A, .int .i64 0, .int .i64 400] w fun e w' => e = .returned (.bool false) ∧ Below w.heap.size w w' := by
  have HC : Hid (∀ W, Below w.heap.size w W → Calls Try.prog 33 #[.agg A] W fun e w' => e = .returned (.int .i64 0) ∧ Below W.heap.size W w') := fun W hW => by
    have q := iSubFaultA x A W B (Sh.Rd.below (s := shSub) hr hB hW) (Nat.le_trans hB hW.size) hT
    rw [hF] at q; exact q
  obtain ⟨y0, y1, y2, y3, y4, y5, s0, s1, s2, fl, c0, c1, sp, k0, k1, k2, ua, uc, va, vc, rfl, e, -, -, -⟩ := sub_lit hr
  have h4 : y1 = 4 := h3
  subst h4
  have eA := arr_of e
  subst eA
  clear hr hF hT h3 e
  generalize fl.length = fn at *
  generalize sp.length = sn at *
  have i1 : Hid (inC 0 0 400 = true) := rfl
  have i2 : Hid (inC 400 0 400 = true) := rfl
  go_enter Try.func36, Try.ntmps36
  go_wp2_with (first | (go_at_call 68; refine (iInC _ _ _ _).mono ?_; rintro e w' ⟨rfl, hw⟩; subst w'; (first | rw [i1.out] | rw [i2.out])) | fail)
  refine (HC.out _ (by go_grown)).mono ?_
  rintro e w1 ⟨rfl, hb⟩
  have j0 : w1.cell? ⟨w.heap.size, 1, none⟩ = some (.int .i64 4) := by rw [hb.cell (p := ⟨w.heap.size, 1, none⟩) (by simp <;> omega)]; simp [go_sem]
  have j1 : w1.cell? ⟨w.heap.size + 1, 0, none⟩ = some (.int .i64 0) := by rw [hb.cell (p := ⟨w.heap.size + 1, 0, none⟩) (by simp <;> omega)]; simp [go_sem]
  have j2 : w1.cell? ⟨w.heap.size + 2, 0, none⟩ = some (.int .i64 400) := by rw [hb.cell (p := ⟨w.heap.size + 2, 0, none⟩) (by simp)]; simp [go_sem]
  have HB : Hid (Below w.heap.size w w1) := Below.trans (by go_grown) (hb.mono (by simp; omega))
  clear hb HC
  go_wp2_with (first | (go_at_call 68; refine (iInC _ _ _ _).mono ?_; rintro e w' ⟨rfl, hw⟩; subst w'; (first | rw [i1.out] | rw [i2.out])) | fail)
  go_ret
  exact ⟨rfl, HB.out⟩
def akN (x : DSub) (ack : Int) : Int := (ackV x.snd ack).2.2.1 - x.snd.2.2.1
def akG (x : DSub) (ack : Int) (l : List Int) : Int := if 0 < akN x ack then grC x.ctl.1 x.ctl.2.1 x.ctl.2.2.1 (min (akN x ack) 1000) l else 0
def akC (x : DSub) (ack : Int) (l : List Int) : Int := if subF x = 0 then (if ackC x.snd ack = 0 then akG x ack l else ackC x.snd ack) else subF x
theorem ack_up {x : DSender} {ack : Int} (h : ackC x ack = 0) : (ackV x ack).1 = x.1 ∧ (ackV x ack).2.1 = x.2.1 ∧ x.2.2.1 ≤ (ackV x ack).2.2.1 ∧ (ackV x ack).2.2.1 ≤ x.2.1 ∧ (ackV x ack).2.2.2.1.length ≤ x.2.2.2.1.length := by
  obtain ⟨g0, g1, g2, -⟩ := ack_parts h
  have ev : ackV x ack = ackW x ack := by unfold ackV; rw [if_pos h]
  rw [ev]
  have h3 := inD_yes (snd_ok g0).2.2.1
  refine ⟨rfl, rfl, ?_, ?_, List.length_filter_le _ _⟩
  · show x.2.2.1 ≤ (if x.2.2.1 < ackP x ack then ackP x ack else x.2.2.1)
    split <;> omega
  · show (if x.2.2.1 < ackP x ack then ackP x ack else x.2.2.1) ≤ x.2.1
    split <;> omega
theorem flsEnd_leA : ∀ (l : List DFlight) (e : Int), flsOk e l → e ≤ flsEnd e l ∧ flsEnd e l ≤ e + 8 * (l.length : Int)
  | [], e, _ => by unfold flsEnd; simp
  | x :: l, e, h => by
    obtain ⟨h1, h2⟩ : flFault x e = 0 ∧ flsOk (e + x.2.2.1.length) l := h
    have ih := flsEnd_leA l _ h2
    have hl := lodD_yes (flF_parts h1).2.2.2.1
    show e ≤ flsEnd (e + x.2.2.1.length) l ∧ flsEnd (e + x.2.2.1.length) l ≤ e + 8 * ((x :: l).length : Int)
    rw [List.length_cons]
    omega
theorem snd_few {x : DSender} (h : sndFault x = 0) : x.2.1 ≤ x.2.2.1 + 96 := by
  obtain ⟨h1, h2, h3, h4, h5, h6⟩ := (snd_iff x).1 h
  have q := (flsEnd_leA _ _ h5).2
  rw [h6] at q
  omega
theorem ak_good {y0 y1 : Int} {y2 : Bool} {y3 y4 y5 s0 s1 s2 : Int} {fl : List DFlight} {c0 c1 : Int} {sp : List DSpan} {k0 k1 k2 : Int} {ack a b c : Int} {t0 t1 t2 : Int} {tl : List DFlight} (hF : subF (y0, y1, y2, y3, y4, y5, (s0, s1, s2, fl, ()), (c0, c1, sp, ()), (k0, k1, k2, ()), ()) = 0) (hA : ackC (s0, s1, s2, fl, ()) ack = 0) (hS : ackV (s0, s1, s2, fl, ()) ack = (t0, t1, t2, tl, ())) (hc : ctF a b c = 0) (hw : k0 ≤ a) :
    subF (y0, y1, y2, y3, y4, y5, (t0, t1, t2, tl, ()), (c0, c1, sp, ()), (a, b, c, ()), ()) = 0 ∧ roomV (y0, y1, y2, y3, y4, y5, (s0, s1, s2, fl, ()), (c0, c1, sp, ()), (k0, k1, k2, ()), ()) ≤ roomV (y0, y1, y2, y3, y4, y5, (t0, t1, t2, tl, ()), (c0, c1, sp, ()), (a, b, c, ()), ()) ∧ s2 ≤ t2 := by
  obtain ⟨h1, h2, h3, h4, h5⟩ := sub_ok hF
  obtain ⟨u1, u2, u3, u4, u5⟩ := ack_up hA
  have n1 := (ack_none hA).1
  rw [hS] at u1 u2 u3 u4 u5 n1
  simp only at u1 u2 u3 u4 u5
  subst u1 u2
  have e : subF (y0, y1, y2, y3, y4, y5, (t0, t1, t2, tl, ()), (c0, c1, sp, ()), (a, b, c, ()), ()) = 0 := by
    refine subF_o (by exact h1) n1 h3 hc ?_
    unfold subForm at h5 ⊢
    simp only [DSub.snd, Bool.or_eq_false_iff, Bool.and_eq_false_iff, decide_eq_false_iff_not] at h5 ⊢
    obtain ⟨q1, q2⟩ := h5
    exact ⟨q1, by omega⟩
  refine ⟨e, ?_, u3⟩
  unfold roomV
  rw [if_pos hF, if_pos e]
  simp only [DSub.snd, DSub.ctl]
  split
  · rename_i g
    rw [if_pos ⟨g.1, by omega⟩]
    omega
  · split <;> omega
end Go.Proofs.Ytebgibjokljlbaa
