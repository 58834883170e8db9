/- Plain facts of nets: what has a fault, what is put. No condition. Written by mknet1.py. -/
import Derived.Test.YtlfncadngcjdjaaRows
import Derived.Test.YtlfncadngcjdjaaBase
import Derived.Test.YtlfncadngcjdjaaBytes
import Derived.Test.YtlfncadngcjdjaaMem
import Derived.Test.YtlfncadngcjdjaaHBase
import Derived.Test.YtlfncadngcjdjaaSeg
import Derived.Test.YtlfncadngcjdjaaSegFS
import Derived.Test.YtlfncadngcjdjaaMSegs
import Derived.Test.YtlfncadngcjdjaaHSegs
import Derived.Test.YtlfncadngcjdjaaNetSeg
namespace Go.Proofs.Ytlfncadngcjdjaa
open Go.RowKit
set_option linter.unusedVariables false
theorem sgF_ok {x : DSegm} (h : sgF x = 0) : 0 ≤ x.1 ∧ x.1 ≤ 2 ∧ totSegm x ≤ 8 := by
  obtain ⟨y0, y1, y2, y3, y4, y5, y6, y7, y8, y9, y10, ld, ⟨⟩⟩ := x
  unfold sgF segFault at h
  cases h1 : rangeOk9 (sgOf (y0, y1, y2, y3, y4, y5, y6, y7, y8, y9, y10, ld, ())) with
  | false => rw [h1] at h; simp at h
  | true =>
    rw [h1] at h
    rw [if_neg (by simp)] at h
    split at h
    · omega
    · split at h
      · omega
      · have h2 : inB9 y0 0 2 = true := by
          unfold rangeOk9 at h1
          simp only [Bool.and_eq_true] at h1
          exact h1.1.1.1.1.1.1
        have h3 := (inB_iff9 y0 0 2).1 h2
        exact ⟨h3.1, h3.2, by show totSegm _ ≤ 8; omega⟩
def deadAt (dead : List Bool) (x : DSegm) : Bool := dead.getD x.1.toNat false
def carF (dead : List Bool) : List DSegm → Int
  | [] => 0
  | x :: r => if sgF x ≠ 0 then sgF x else if deadAt dead x = true then 10 else carF dead r
def netF (bag : List DSegm) (dead : List Bool) : Int := if 60 < bag.length then 2 else if dead.length ≠ 3 then 1 else carF dead bag
theorem carF_drop {dead : List Bool} {l : List DSegm} {k : Nat} (hk : k < l.length) : carF dead (l.drop k) = if sgF l[k] ≠ 0 then sgF l[k] else if deadAt dead l[k] = true then 10 else carF dead (l.drop (k + 1)) := by
  rw [List.drop_eq_getElem_cons hk]; rfl
theorem carF_ok {dead : List Bool} : ∀ {l : List DSegm}, carF dead l = 0 → ∀ x ∈ l, sgF x = 0 ∧ deadAt dead x = false
  | [], _, x, hx => by simp at hx
  | y :: r, h, x, hx => by
    unfold carF at h
    by_cases h1 : sgF y = 0
    · rw [if_neg (by simp [h1])] at h
      by_cases h2 : deadAt dead y = true
      · rw [if_pos h2] at h; simp at h
      · rw [if_neg h2] at h
        rcases List.mem_cons.1 hx with rfl | hx
        · exact ⟨h1, by simpa using h2⟩
        · exact carF_ok h x hx
    · rw [if_pos h1] at h; exact absurd h h1
theorem netF_ok {bag : List DSegm} {dead : List Bool} (h : netF bag dead = 0) : bag.length ≤ 60 ∧ dead.length = 3 ∧ ∀ x ∈ bag, sgF x = 0 ∧ deadAt dead x = false := by
  unfold netF at h
  by_cases h1 : 60 < bag.length
  · rw [if_pos h1] at h; simp at h
  · rw [if_neg h1] at h
    by_cases h2 : dead.length = 3
    · rw [if_neg (by simp [h2])] at h
      exact ⟨by omega, h2, carF_ok h⟩
    · rw [if_pos h2] at h; simp at h
/-- One put behind. -/
def put1 (dead : List Bool) (acc : List DSegm) (x : DSegm) : List DSegm := if deadAt dead x = false ∧ acc.length < 60 then acc ++ [x] else acc
def putN (dead : List Bool) (acc list : List DSegm) : List DSegm := list.foldl (put1 dead) acc
theorem putN_app (dead : List Bool) (acc l r : List DSegm) : putN dead acc (l ++ r) = putN dead (putN dead acc l) r := by simp [putN, List.foldl_append]
theorem putN_take {dead : List Bool} {acc l : List DSegm} {k : Nat} (hk : k < l.length) : putN dead acc (l.take (k + 1)) = put1 dead (putN dead acc (l.take k)) l[k] := by
  rw [List.take_succ_eq_append_getElem hk, putN_app]; rfl
theorem putN_all {dead : List Bool} : ∀ (l acc : List DSegm), (∀ x ∈ l, deadAt dead x = false) → acc.length + l.length ≤ 60 → putN dead acc l = acc ++ l
  | [], acc, _, _ => by simp [putN]
  | x :: r, acc, h, hl => by
    have e : putN dead acc (x :: r) = putN dead (put1 dead acc x) r := rfl
    simp only [List.length_cons] at hl
    have e1 : put1 dead acc x = acc ++ [x] := by unfold put1; rw [if_pos ⟨h x (by simp), by omega⟩]
    rw [e, e1, putN_all r (acc ++ [x]) (fun y hy => h y (List.mem_cons_of_mem _ hy)) (by simp; omega)]
    simp
theorem putN_bag {dead : List Bool} {bag : List DSegm} (h : netF bag dead = 0) : putN dead [] bag = bag := by
  have k := netF_ok h
  have := putN_all (dead := dead) bag [] (fun x hx => (k.2.2 x hx).2) (by simp; exact k.1)
  simpa using this
theorem putN_two {dead : List Bool} {bag list : List DSegm} (h : netF bag dead = 0) : putN dead [] (bag ++ list) = putN dead bag list := by rw [putN_app, putN_bag h]
theorem put1_len {dead : List Bool} {acc : List DSegm} {x : DSegm} (h : acc.length ≤ 60) : (put1 dead acc x).length ≤ 60 := by
  unfold put1; split
  · simp; omega
  · exact h
theorem putN_len {dead : List Bool} : ∀ (l acc : List DSegm), acc.length ≤ 60 → (putN dead acc l).length ≤ 60
  | [], _, h => h
  | x :: r, acc, h => putN_len r (put1 dead acc x) (put1_len h)
theorem putN_mem {dead : List Bool} : ∀ (l acc : List DSegm) (x : DSegm), x ∈ putN dead acc l → x ∈ acc ∨ x ∈ l
  | [], _, _, h => Or.inl h
  | y :: r, acc, x, h => by
    rcases putN_mem r (put1 dead acc y) x h with h | h
    · unfold put1 at h; split at h
      · rcases List.mem_append.1 h with h | h
        · exact Or.inl h
        · rw [List.mem_singleton] at h; subst h; exact Or.inr (by simp)
      · exact Or.inl h
    · exact Or.inr (List.mem_cons_of_mem _ h)
end Go.Proofs.Ytlfncadngcjdjaa
