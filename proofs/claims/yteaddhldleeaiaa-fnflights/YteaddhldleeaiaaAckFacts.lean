/- Plain facts: what is pushed or told to be there leaves a sender without a fault; no condition. -/
import Derived.Test.YteaddhldleeaiaaRows
import Derived.Test.YteaddhldleeaiaaBase
import Derived.Test.YteaddhldleeaiaaMem
import Derived.Test.YteaddhldleeaiaaHBase
import Derived.Test.YteaddhldleeaiaaHFlight
import Derived.Test.YteaddhldleeaiaaHSender
import Derived.Test.YteaddhldleeaiaaNum
import Derived.Test.YteaddhldleeaiaaUnwrap
import Derived.Test.YteaddhldleeaiaaFlightDef
import Derived.Test.YteaddhldleeaiaaAckDef
namespace Go.Proofs.Yteaddhldleeaiaa
open Go.RowKit
set_option linter.unusedVariables false

/-- Where the flights from e on end, and that none of them has a fault. -/
def flsEnd : Int → List DFlight → Int
  | e, [] => e
  | e, x :: l => flsEnd (e + x.2.2.1.length) l
def flsOk : Int → List DFlight → Prop
  | _, [] => True
  | e, x :: l => flFault x e = 0 ∧ flsOk (e + x.2.2.1.length) l
theorem fls_iff (next : Int) : ∀ (l : List DFlight) (e : Int), flsFault next e l = 0 ↔ flsOk e l ∧ flsEnd e l = next
  | [], e => by
    show (if e = next then (0 : Int) else 1) = 0 ↔ _
    split
    · rename_i h; simp [flsOk, flsEnd, h]
    · rename_i h; simp [flsOk, flsEnd, h]
  | x :: l, e => by
    have ih := fls_iff next l (e + x.2.2.1.length)
    show (if flFault x e = 0 then flsFault next (e + x.2.2.1.length) l else flFault x e) = 0 ↔ _
    split
    · rename_i h; rw [ih]; simp [flsOk, flsEnd, h]
    · rename_i h; simp [flsOk, h]
theorem flsEnd_app : ∀ (l m : List DFlight) (e : Int), flsEnd e (l ++ m) = flsEnd (flsEnd e l) m
  | [], _, _ => rfl
  | x :: l, m, e => flsEnd_app l m _
theorem flsOk_app : ∀ (l m : List DFlight) (e : Int), flsOk e (l ++ m) ↔ flsOk e l ∧ flsOk (flsEnd e l) m
  | [], m, e => by simp [flsOk, flsEnd]
  | x :: l, m, e => by
    have ih := flsOk_app l m (e + x.2.2.1.length)
    show flFault x e = 0 ∧ flsOk _ (l ++ m) ↔ (flFault x e = 0 ∧ flsOk _ l) ∧ flsOk (flsEnd _ l) m
    rw [ih]; constructor
    · rintro ⟨h1, h2, h3⟩; exact ⟨⟨h1, h2⟩, h3⟩
    · rintro ⟨⟨h1, h2⟩, h3⟩; exact ⟨h1, h2, h3⟩
theorem snd_iff (x : DSender) : sndFault x = 0 ↔ inD x.1 0 65535 = true ∧ inD x.2.1 0 1000000 = true ∧ inD x.2.2.1 0 x.2.1 = true ∧ x.2.2.2.1.length ≤ 12 ∧ flsOk x.2.2.1 x.2.2.2.1 ∧ flsEnd x.2.2.1 x.2.2.2.1 = x.2.1 := by
  constructor
  · intro h
    obtain ⟨h1, h2, h3, h4⟩ := snd_ok h
    obtain ⟨h5, h6⟩ := (fls_iff _ _ _).1 (snd_fls h)
    exact ⟨h1, h2, h3, h4, h5, h6⟩
  · rintro ⟨h1, h2, h3, h4, h5, h6⟩
    have hh : sndHead x = true := by unfold sndHead; simp [h1, h2, h3]
    rw [sndFault_fls hh (by omega)]
    exact (fls_iff _ _ _).2 ⟨h5, h6⟩
theorem psh_parts {x : DSender} {data : Int} {ld : List Int} {now : Int} (h : pshC x data ld now = 0) : sndFault x = 0 ∧ lodD ld.length = true ∧ plcD data ld.length = true ∧ inD now 0 1000000 = true ∧ x.2.1 + ld.length ≤ 1000000 ∧ x.2.2.2.1.length < 12 := by
  unfold pshC at h
  split at h
  · rename_i g0
    split at h
    · rename_i g1
      split at h
      · rename_i g2
        split at h
        · omega
        · unfold pshR at g2
          simp only [Bool.and_eq_true, decide_eq_true_eq] at g2
          exact ⟨g0, g1, g2.1.1, g2.1.2, g2.2, by omega⟩
      · omega
    · omega
  · contradiction
/-- What is pushed leaves no fault. -/
theorem psh_none {x : DSender} {data : Int} {ld : List Int} {now : Int} (h : pshC x data ld now = 0) : sndFault (pshV x data ld now) = 0 := by
  obtain ⟨g0, g1, g2, g3, g4, g5⟩ := psh_parts h
  have e : pshV x data ld now = (x.1, x.2.1 + ld.length, x.2.2.1, x.2.2.2.1 ++ [(x.2.1, data, ld, now, 1, ())], ()) := by unfold pshV; rw [if_pos h]
  obtain ⟨h1, h2, h3, h4, h5, h6⟩ := (snd_iff x).1 g0
  have h2' := inD_yes h2
  have h3' := inD_yes h3
  rw [e]
  refine (snd_iff _).2 ⟨h1, inD_mk (by show 0 ≤ x.2.1 + (ld.length : Int); omega) g4, inD_mk h3'.1 (by show x.2.2.1 ≤ x.2.1 + (ld.length : Int); omega), ?_, ?_, ?_⟩
  · show (x.2.2.2.1 ++ [_]).length ≤ 12
    simp; omega
  · show flsOk x.2.2.1 (x.2.2.2.1 ++ [_])
    rw [flsOk_app, h6]
    refine ⟨h5, ?_, trivial⟩
    exact flF_ok (x := (x.2.1, data, ld, now, 1, ())) (by simp [g2, g3]; decide) (by simp [g1])
  · show flsEnd x.2.2.1 (x.2.2.2.1 ++ [_]) = _
    rw [flsEnd_app, h6]; rfl
/-- Of flights without a fault those that end above p are the last ones, where p lies within none. -/
theorem fls_filter (p : Int) : ∀ (l : List DFlight) (e : Int), flsOk e l → l.any (ackCut p) = false → e ≤ p → p ≤ flsEnd e l → ∃ k, l.filter (ackKeep p) = l.drop k ∧ k ≤ l.length ∧ flsOk p (l.filter (ackKeep p)) ∧ flsEnd p (l.filter (ackKeep p)) = flsEnd e l
  | [], e, _, _, h1, h2 => ⟨0, rfl, by simp, trivial, by show p = e; have : p ≤ e := h2; omega⟩
  | x :: l, e, ho, ha, h1, h2 => by
    obtain ⟨o1, o2⟩ := ho
    have hx := (flF_parts o1)
    have hl := lodD_yes hx.2.2.2.1
    have hxe := hx.2.2.2.2
    have ha' : ackCut p x = false ∧ l.any (ackCut p) = false := by
      rw [List.any_cons] at ha; simpa using ha
    by_cases hk : p < x.1 + (x.2.2.1.length : Int)
    · have hp : p = e := by
        have hc := ha'.1
        unfold ackCut at hc
        simp only [Bool.and_eq_false_iff, decide_eq_false_iff_not] at hc
        omega
      subst hp
      have hall : (x :: l).filter (ackKeep p) = x :: l := List.filter_eq_self.2 fun y hy => by
        have hb := (fls_bd (flsEnd p (x :: l)) (x :: l) p ((fls_iff _ _ _).2 ⟨⟨o1, o2⟩, rfl⟩)).2 y hy
        unfold ackKeep; simp; omega
      exact ⟨0, hall, by simp, by rw [hall]; exact ⟨o1, o2⟩, by rw [hall]⟩
    · have hkf : ackKeep p x = false := by unfold ackKeep; simp; omega
      obtain ⟨k, q1, q2, q3, q4⟩ := fls_filter p l (e + x.2.2.1.length) o2 ha'.2 (by omega) h2
      have e1 : (x :: l).filter (ackKeep p) = l.filter (ackKeep p) := by rw [List.filter_cons, hkf]; rfl
      exact ⟨k + 1, by rw [e1, q1]; rfl, by simp; omega, by rw [e1]; exact q3, by rw [e1, q4]; rfl⟩
theorem ack_parts {x : DSender} {ack : Int} (h : ackC x ack = 0) : sndFault x = 0 ∧ ackK x ack = 0 ∧ ackP x ack ≤ x.2.1 ∧ x.2.2.2.1.any (ackCut (ackP x ack)) = false := by
  unfold ackC at h
  split at h
  · rename_i h0
    unfold ackC0 at h
    split at h
    · rename_i h1
      split at h
      · omega
      · split at h
        · omega
        · rename_i h2 h3
          exact ⟨h0, h1, by omega, by simpa using h3⟩
    · contradiction
  · contradiction
/-- What is told to be there leaves no fault, and the last flights. -/
theorem ack_none {x : DSender} {ack : Int} (h : ackC x ack = 0) : sndFault (ackV x ack) = 0 ∧ ∃ k, (ackV x ack).2.2.2.1 = x.2.2.2.1.drop k ∧ k ≤ x.2.2.2.1.length := by
  obtain ⟨g0, g1, g2, g3⟩ := ack_parts h
  have ev : ackV x ack = ackW x ack := by unfold ackV; rw [if_pos h]
  rw [ev]
  by_cases hp : ackP x ack ≤ x.2.2.1
  · rw [ack_old g0 hp]
    exact ⟨g0, 0, rfl, by simp⟩
  · obtain ⟨h1, h2, h3, h4, h5, h6⟩ := (snd_iff x).1 g0
    obtain ⟨k, q1, q2, q3, q4⟩ := fls_filter (ackP x ack) x.2.2.2.1 x.2.2.1 h5 g3 (by omega) (by rw [h6]; exact g2)
    have e : ackW x ack = (x.1, x.2.1, ackP x ack, x.2.2.2.1.filter (ackKeep (ackP x ack)), ()) := by unfold ackW; rw [if_pos (by omega)]
    rw [e]
    have hl := List.length_filter_le (ackKeep (ackP x ack)) x.2.2.2.1
    have h3' := inD_yes h3
    exact ⟨(snd_iff _).2 ⟨h1, h2, inD_mk (by show 0 ≤ ackP x ack; omega) g2, by show (x.2.2.2.1.filter _).length ≤ 12; omega, q3, by show flsEnd (ackP x ack) _ = x.2.1; rw [q4, h6]⟩, k, q1, q2⟩
end Go.Proofs.Yteaddhldleeaiaa
