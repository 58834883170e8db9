/- What is told again changes nothing; what an ack leaves of a sender, in plain terms; no condition. -/
import Derived.Test.YteaddhldleeaiaaRows
import Derived.Test.YteaddhldleeaiaaBase
import Derived.Test.YteaddhldleeaiaaMem
import Derived.Test.YteaddhldleeaiaaHBase
import Derived.Test.YteaddhldleeaiaaHFlight
import Derived.Test.YteaddhldleeaiaaHSender
import Derived.Test.YteaddhldleeaiaaNum
import Derived.Test.YteaddhldleeaiaaUnwrap
import Derived.Test.YteaddhldleeaiaaFlightDef
import Derived.Test.YteaddhldleeaiaaAckDef
import Derived.Test.YteaddhldleeaiaaAckFacts
namespace Go.Proofs.Yteaddhldleeaiaa
open Go.RowKit
set_option linter.unusedVariables false

theorem acks_code {x : DSender} {ack : Int} (h : ackC x ack = 0) : ackV x ack = ackW x ack := by unfold ackV; rw [if_pos h]
theorem ahd_zero {p a near : Int} (h : p = near + ahd near a) : ahd p a = 0 := by
  have e : (a - p) % 65536 = 0 := by subst h; unfold ahd; split <;> omega
  unfold ahd; rw [e]; rfl
/-- What is told again changes nothing. -/
theorem acks_again {x : DSender} {ack : Int} (h : ackC x ack = 0) : ackC (ackV x ack) ack = 0 ∧ (ackV (ackV x ack) ack).2.2.1 = (ackV x ack).2.2.1 := by
  obtain ⟨g0, g1, g2, g3⟩ := ack_parts h
  have hv := acks_code h
  by_cases hp : ackP x ack ≤ x.2.2.1
  · have e : ackV x ack = x := by rw [hv, ack_old g0 hp]
    rw [e, e]
    exact ⟨h, rfl⟩
  · have hf := (ack_none h).1
    have hn := (snd_ok g0).2.1
    obtain ⟨n0, n1⟩ := inD_yes hn
    obtain ⟨b0, b1⟩ := ackP_bd g1
    obtain ⟨P, hP⟩ : ∃ P, P = ackP x ack := ⟨_, rfl⟩
    rw [← hP] at g2 g3 hp b0 b1
    have hy : ackV x ack = (x.1, x.2.1, P, x.2.2.2.1.filter (ackKeep P), ()) := by rw [hv]; unfold ackW; rw [← hP, if_pos (by omega)]
    rw [hy] at hf ⊢
    have hpe : P = x.2.2.1 + ahd x.2.2.1 (ack - x.1) := by
      rw [hP]
      unfold ackK unwC at g1
      unfold ackP unwV
      split at g1
      · cases g1
      · split at g1
        · cases g1
        · rename_i h1 h2
          rw [if_neg h1, if_neg h2]
    have hz := ahd_zero hpe
    have hK : ackK (x.1, x.2.1, P, x.2.2.2.1.filter (ackKeep P), ()) ack = 0 := by
      show unwC (ack - x.1) P = 0
      unfold unwC; rw [if_neg (by omega), hz, if_neg (by omega)]
    have hQ : ackP (x.1, x.2.1, P, x.2.2.2.1.filter (ackKeep P), ()) ack = P := by
      show unwV (ack - x.1) P = P
      unfold unwV; rw [if_neg (by omega), hz, if_neg (by omega)]; omega
    have hcut : (x.2.2.2.1.filter (ackKeep P)).any (ackCut P) = false := by
      rw [List.any_eq_false] at g3 ⊢
      exact fun y hy => g3 y (List.mem_filter.1 hy).1
    have hc : ackC (x.1, x.2.1, P, x.2.2.2.1.filter (ackKeep P), ()) ack = 0 := by
      unfold ackC; rw [if_pos hf]
      unfold ackC0; rw [if_pos hK, hQ]
      show (if x.2.1 < P then (3 : Int) else if (x.2.2.2.1.filter (ackKeep P)).any (ackCut P) = true then 1 else 0) = 0
      rw [if_neg (by omega), hcut]; rfl
    refine ⟨hc, ?_⟩
    rw [acks_code hc]
    show (if P < ackP (x.1, x.2.1, P, x.2.2.2.1.filter (ackKeep P), ()) ack then _ else P) = P
    rw [hQ, if_neg (by omega)]
theorem acks_all {x : DSender} {ack : Int} (h : ackC x ack = 0) : ∃ kk, (ackV x ack).2.2.2.1.length + kk = x.2.2.2.1.length ∧ sndFault (ackV x ack) = 0 ∧ (ackV x ack).2.1 = x.2.1 ∧ x.2.2.1 ≤ (ackV x ack).2.2.1 ∧ x.2.2.2.1.length ≤ 12 ∧
    ∀ i (hi : i < (ackV x ack).2.2.2.1.length), ∃ hk : i + kk < x.2.2.2.1.length, (ackV x ack).2.2.2.1[i].1 = (x.2.2.2.1[i + kk]'hk).1 ∧ (ackV x ack).2.2.1 ≤ (ackV x ack).2.2.2.1[i].1 := by
  obtain ⟨hf, k, e, hk⟩ := ack_none h
  have hl : (ackV x ack).2.2.2.1.length + k = x.2.2.2.1.length := by rw [e, List.length_drop]; omega
  have hbd := snd_bd hf
  refine ⟨k, hl, hf, by rw [acks_code h]; rfl, ?_, (snd_ok (ack_parts h).1).2.2.2, fun i hi => ⟨by omega, ?_, (hbd _ (List.getElem_mem hi)).1⟩⟩
  · rw [acks_code h]
    show x.2.2.1 ≤ if x.2.2.1 < ackP x ack then ackP x ack else x.2.2.1
    split <;> omega
  · have e2 : (ackV x ack).2.2.2.1[i] = (x.2.2.2.1.drop k)[i]'(by rw [← e]; exact hi) := by simp only [e]
    rw [e2, List.getElem_drop]
    simp only [Nat.add_comm]
end Go.Proofs.Yteaddhldleeaiaa
