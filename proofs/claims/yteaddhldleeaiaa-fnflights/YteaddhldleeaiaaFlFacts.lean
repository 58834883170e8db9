/- What is pushed, told to be there, due and touched, in plain terms; no condition. -/
import Derived.Test.YteaddhldleeaiaaRows
import Derived.Test.YteaddhldleeaiaaBase
import Derived.Test.YteaddhldleeaiaaFlightDef
import Derived.Test.YteaddhldleeaiaaUnwrap
import Derived.Test.YteaddhldleeaiaaAckDef
import Derived.Test.YteaddhldleeaiaaAckFacts
import Derived.Test.YteaddhldleeaiaaAckMore
namespace Go.Proofs.Yteaddhldleeaiaa
open Go.RowKit
set_option linter.unusedVariables false

theorem flsEnd_le : ∀ (l : List DFlight) (e : Int), flsOk e l → e ≤ flsEnd e l ∧ flsEnd e l ≤ e + 8 * (l.length : Int)
  | [], e, _ => by unfold flsEnd; simp
  | x :: l, e, h => by
    obtain ⟨h1, h2⟩ : flFault x e = 0 ∧ flsOk (e + x.2.2.1.length) l := h
    have ih := flsEnd_le l _ h2
    have hl := lodD_yes (flF_parts h1).2.2.2.1
    show e ≤ flsEnd (e + x.2.2.1.length) l ∧ flsEnd (e + x.2.2.1.length) l ≤ e + 8 * ((x :: l).length : Int)
    rw [List.length_cons]
    omega
/-- All is told to be there. -/
theorem ack_full {y : DSender} (h : sndFault y = 0) : seqC y y.2.1 = 0 ∧ ackC y (seqV y y.2.1) = 0 ∧ (ackV y (seqV y y.2.1)).2.2.2.1 = [] ∧ onwV (ackV y (seqV y y.2.1)) = 0 ∧ sndFault (ackV y (seqV y y.2.1)) = 0 := by
  obtain ⟨h1, h2, h3, h4, h5, h6⟩ := (snd_iff y).1 h
  obtain ⟨b1, b2⟩ := inD_yes h1
  obtain ⟨b3, b4⟩ := inD_yes h2
  obtain ⟨b5, b6⟩ := inD_yes h3
  obtain ⟨k1, k2⟩ := flsEnd_le _ _ h5
  rw [h6] at k1 k2
  have es : seqV y y.2.1 = wrp (y.1 + y.2.1) := by unfold seqV; rw [if_pos h, if_pos h2]
  have ec : seqC y y.2.1 = 0 := by unfold seqC; rw [if_pos h, if_pos h2]
  have hz : ahd y.2.2.1 (seqV y y.2.1 - y.1) = y.2.1 - y.2.2.1 := by
    rw [es]; unfold ahd wrp
    have e : ((y.1 + y.2.1) % 65536 - y.1 - y.2.2.1) % 65536 = y.2.1 - y.2.2.1 := by omega
    rw [e, if_neg (by omega)]
  have hK : ackK y (seqV y y.2.1) = 0 := by unfold ackK unwC; rw [if_neg (by omega), hz, if_neg (by omega)]
  have hP : ackP y (seqV y y.2.1) = y.2.1 := by unfold ackP unwV; rw [if_neg (by omega), hz, if_neg (by omega)]; omega
  have hbd := snd_bd h
  have hcut : y.2.2.2.1.any (ackCut y.2.1) = false := by
    rw [List.any_eq_false]
    intro z hz
    have := hbd z hz
    unfold ackCut
    simp only [Bool.and_eq_true, decide_eq_true_eq]
    omega
  have hC : ackC y (seqV y y.2.1) = 0 := by
    unfold ackC; rw [if_pos h]
    unfold ackC0; rw [if_pos hK, hP, if_neg (by omega), hcut]; rfl
  have hf : y.2.2.2.1.filter (ackKeep y.2.1) = [] := by
    rw [List.filter_eq_nil_iff]
    intro z hz
    have := hbd z hz
    unfold ackKeep
    simp only [decide_eq_true_eq]
    omega
  have hV : ackV y (seqV y y.2.1) = (y.1, y.2.1, y.2.1, [], ()) := by
    rw [acks_code hC]; unfold ackW; rw [hP, hf]
    by_cases q : y.2.2.1 < y.2.1
    · rw [if_pos q]
    · rw [if_neg q]
      have e : y.2.2.1 = y.2.1 := by omega
      rw [e]
  have hN := (ack_none hC).1
  refine ⟨ec, hC, by rw [hV], ?_, hN⟩
  unfold onwV; rw [if_pos hN, hV]
  show y.2.1 - y.2.1 = 0
  omega
theorem due_last (l : List DFlight) (f : DFlight) (now : Int) (k : Nat) (h : f.2.2.2.1 ≤ now) : 1 ≤ (dueL now 0 k (l ++ [f])).length := by
  rw [dueL_app, List.length_append]
  have e : dueL now 0 (k + l.length) [f] = [((k + l.length : Nat) : Int)] := by
    show (if (0 : Int) ≤ now - f.2.2.2.1 then _ else _) = _
    rw [if_pos (by omega)]; rfl
  rw [e]; simp
/-- What is pushed: no fault, one more flight, all its bytes on their way; due at once; touched: tried twice. -/
theorem push_all {x : DSender} {data : Int} {ld : List Int} {now : Int} (h : pshC x data ld now = 0) : sndFault x = 0 ∧ sndFault (pshV x data ld now) = 0 ∧ (pshV x data ld now).2.2.2.1 = x.2.2.2.1 ++ [(x.2.1, data, ld, now, 1, ())] ∧
    onwV (pshV x data ld now) = onwV x + (ld.length : Int) ∧ 0 ≤ onwV x ∧ onwV x ≤ 1000000 ∧ x.2.2.2.1.length < 12 ∧ ld.length ≤ 8 ∧ dueC (pshV x data ld now) now 0 = 0 ∧ 1 ≤ (dueV (pshV x data ld now) now 0).length ∧ (dueV (pshV x data ld now) now 0).length ≤ 12 ∧
    tchC (pshV x data ld now) (x.2.2.2.1.length : Int) now = 0 ∧ ∃ hk : x.2.2.2.1.length < (tchV (pshV x data ld now) (x.2.2.2.1.length : Int) now).2.2.2.1.length, (tchV (pshV x data ld now) (x.2.2.2.1.length : Int) now).2.2.2.1[x.2.2.2.1.length].2.2.2.2.1 = 2 := by
  obtain ⟨g0, g1, g2, g3, g4, g5⟩ := psh_parts h
  have hn := psh_none h
  obtain ⟨q1, q2⟩ := inD_yes (snd_ok g0).2.1
  obtain ⟨q3, q4⟩ := inD_yes (snd_ok g0).2.2.1
  have hl := lodD_yes g1
  have e : pshV x data ld now = (x.1, x.2.1 + ld.length, x.2.2.1, x.2.2.2.1 ++ [(x.2.1, data, ld, now, 1, ())], ()) := by unfold pshV; rw [if_pos h]
  have ef : (pshV x data ld now).2.2.2.1 = x.2.2.2.1 ++ [(x.2.1, data, ld, now, 1, ())] := by rw [e]
  have hlen : (pshV x data ld now).2.2.2.1.length = x.2.2.2.1.length + 1 := by rw [ef]; simp
  have eo : onwV x = x.2.1 - x.2.2.1 := by unfold onwV; rw [if_pos g0]
  have ed : dueC (pshV x data ld now) now 0 = 0 := by unfold dueC; rw [if_pos hn, if_pos (by rw [g3]; rfl)]
  have et : tchC (pshV x data ld now) (x.2.2.2.1.length : Int) now = 0 := by
    unfold tchC; rw [if_pos hn, if_pos (inD_mk (by omega) (by rw [hlen]; omega)), if_pos g3]
  have ev : (tchV (pshV x data ld now) (x.2.2.2.1.length : Int) now).2.2.2.1 = tchL (x.2.2.2.1 ++ [(x.2.1, data, ld, now, 1, ())]) x.2.2.2.1.length now := by
    unfold tchV; rw [if_pos et, ef, Int.toNat_natCast]
  have ht := tchL_at (l := x.2.2.2.1 ++ [(x.2.1, data, ld, now, 1, ())]) (k := x.2.2.2.1.length) now (by simp)
  refine ⟨g0, hn, ef, ?_, by rw [eo]; omega, by rw [eo]; omega, g5, hl.2, ed, ?_, ?_, et, ?_⟩
  · rw [eo]; unfold onwV; rw [if_pos hn, e]
    show x.2.1 + (ld.length : Int) - x.2.2.1 = _
    omega
  · unfold dueV; rw [if_pos ed, ef]
    exact due_last _ _ _ _ (Int.le_refl _)
  · unfold dueV; rw [if_pos ed]
    have := dueL_len now 0 (pshV x data ld now).2.2.2.1 0
    omega
  · rw [ev, ht]
    refine ⟨by simp, ?_⟩
    rw [List.getElem_set_self]
    simp [minD]
end Go.Proofs.Yteaddhldleeaiaa
