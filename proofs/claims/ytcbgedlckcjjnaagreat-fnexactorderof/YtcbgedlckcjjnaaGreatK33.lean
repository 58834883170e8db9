/- A conn without a fault is small: at most three subs, and few parts; no condition. -/
import Derived.Test.YtcbgedlckcjjnaaGreatRows
import Derived.Test.YtcbgedlckcjjnaaGreatK01
import Derived.Test.YtcbgedlckcjjnaaGreatK02
import Derived.Test.YtcbgedlckcjjnaaGreatK03
import Derived.Test.YtcbgedlckcjjnaaGreatK04
import Derived.Test.YtcbgedlckcjjnaaGreatK09
import Derived.Test.YtcbgedlckcjjnaaGreatK10
import Derived.Test.YtcbgedlckcjjnaaGreatK11
import Derived.Test.YtcbgedlckcjjnaaGreatK29
import Derived.Test.YtcbgedlckcjjnaaGreatK30
import Derived.Test.YtcbgedlckcjjnaaGreatK31
namespace Go.Proofs.YtcbgedlckcjjnaaGreat
open Go.RowKit
set_option linter.unusedVariables false
theorem three_of : ∀ (l : List Int), l.Nodup → (∀ x ∈ l, 0 ≤ x ∧ x ≤ 2) → l.length ≤ 3
  | [], _, _ => by simp
  | [_], _, _ => by simp
  | [_, _], _, _ => by simp
  | [_, _, _], _, _ => by simp
  | a :: b :: c :: d :: t, hn, hx => by
    have ha := hx a (by simp)
    have hb := hx b (by simp)
    have hc := hx c (by simp)
    have hd := hx d (by simp)
    simp only [List.nodup_cons, List.mem_cons, not_or] at hn
    omega
theorem sub_parts {x : DSub} (h : subF x = 0) : (0 ≤ x.1 ∧ x.1 ≤ 2) ∧ totSub x ≤ 200 := by
  have hh : subHead x = true := by
    cases e : subHead x with
    | true => rfl
    | false => rw [subF_h e] at h; cases h
  have h1 : sndFault x.snd = 0 := by
    by_cases e : sndFault x.snd = 0
    · exact e
    · rw [subF_s hh e] at h; exact absurd h e
  have h2 : caF x.cat = 0 := by
    by_cases e : caF x.cat = 0
    · exact e
    · rw [subF_c hh h1 e] at h; exact absurd h e
  refine ⟨?_, ?_⟩
  · unfold subHead at hh
    simp [inD] at hh
    omega
  · have a := snd_tot h1
    have b := (ca_ok h2).2.2.1
    unfold totSub
    have e : totCatch x.2.2.2.2.2.2.2.1 = x.cat.2.2.1.length := rfl
    rw [e]
    have : totSender x.2.2.2.2.2.2.1 = totSender x.snd := rfl
    omega
theorem subs_nd : ∀ (l pre : List DSub), subsFrom pre l = 0 → (pre.map (·.1)).Nodup → ((pre ++ l).map (·.1)).Nodup
  | [], pre, _, h => by simpa using h
  | x :: xs, pre, h, hn => by
    rw [subsFrom] at h
    by_cases h1 : subF x ≠ 0
    · rw [if_pos h1] at h; exact absurd h h1
    · rw [if_neg h1] at h
      by_cases h2 : (pre.any fun y => decide (y.1 = x.1)) = true
      · rw [if_pos h2] at h; cases h
      · rw [if_neg h2] at h
        by_cases h3 : x.2.2.1 ≠ decide (0 < pre.length)
        · rw [if_pos h3] at h; cases h
        · rw [if_neg h3] at h
          have hn2 : ((pre ++ [x]).map (·.1)).Nodup := by
            rw [List.map_append, List.nodup_append]
            refine ⟨hn, by simp, ?_⟩
            intro a ha b hb e
            simp at hb
            obtain ⟨y, hy, rfl⟩ := List.mem_map.1 ha
            exact h2 (List.any_eq_true.2 ⟨y, hy, by simp [e, hb]⟩)
          have := subs_nd xs (pre ++ [x]) h hn2
          rwa [List.append_assoc] at this
theorem subs_few {l : List DSub} (h : subsF l = 0) : l.length ≤ 3 := by
  have hn : (l.map (·.1)).Nodup := by simpa using subs_nd l [] h (by simp)
  have := three_of _ hn (fun x hx => by
    obtain ⟨y, hy, rfl⟩ := List.mem_map.1 hx
    obtain ⟨k, hk, rfl⟩ := List.getElem_of_mem hy
    exact (sub_parts (subs_ok9 l [] h k hk)).1)
  simpa using this
theorem fsum_bd {α : Type} (f : α → Nat) (m : Nat) : ∀ (l : List α), (∀ x ∈ l, f x ≤ m) → fsum f l ≤ m * l.length
  | [], _ => by simp [fsum]
  | x :: l, h => by
    have h1 := h x (by simp)
    have h2 := fsum_bd f m l (fun y hy => h y (by simp [hy]))
    rw [fsum_cons, List.length_cons, Nat.mul_succ]; omega
theorem subs_small {l : List DSub} (h : subsF l = 0) : totSubs l ≤ 603 := by
  have a := subs_few h
  have b := fsum_bd totSub 200 l (fun x hx => by
    obtain ⟨k, hk, rfl⟩ := List.getElem_of_mem hx
    exact (sub_parts (subs_ok9 l [] h k hk)).2)
  unfold totSubs
  have : 200 * l.length ≤ 600 := by omega
  omega
theorem dsum_bd {n : Nat} : ∀ (ps : List Pc), (∀ p ∈ ps, p.2.1.length ≤ n) → dsum ps ≤ n * ps.length
  | [], _ => by simp [dsum]
  | x :: l, h => by
    have h1 := h x (by simp)
    have h2 := dsum_bd l (fun y hy => h y (by simp [hy]))
    have e : dsum (x :: l) = x.2.1.length + dsum l := by simp [dsum]
    rw [e, List.length_cons, Nat.mul_succ]; omega
theorem conn_small {c : DConn} (h : connF c = 0) : totConn c ≤ 20000 := by
  have hok := conn_ok h
  have h1 : c.wrote.length ≤ 300 := hok.2.1
  have hg : gtFault c.inn = 0 := hok.2.2.2.2.1
  have hs : subsF c.subs = 0 := hok.2.2.2.2.2.2.2.2.1
  obtain ⟨g1, g2, g3⟩ := gt_in hg
  have g4 := dsum_bd (n := 400) c.inn.2.1 (fun p hp => by have := g3 p hp; omega)
  have g5 := subs_small hs
  show c.wrote.length + (c.inn.1.length + (c.inn.2.1.length + dsum c.inn.2.1)) + totSubs c.subs ≤ 20000
  have : 400 * c.inn.2.1.length ≤ 16000 := by omega
  omega
end Go.Proofs.YtcbgedlckcjjnaaGreat
