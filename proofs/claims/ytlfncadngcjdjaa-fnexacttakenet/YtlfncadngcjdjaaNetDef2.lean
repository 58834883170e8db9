/- Plain facts of what is put into nets; no condition. -/
import Derived.Test.YtlfncadngcjdjaaRows
import Derived.Test.YtlfncadngcjdjaaMem
import Derived.Test.YtlfncadngcjdjaaHBase
import Derived.Test.YtlfncadngcjdjaaMSegs
import Derived.Test.YtlfncadngcjdjaaHSegs
import Derived.Test.YtlfncadngcjdjaaHNet
import Derived.Test.YtlfncadngcjdjaaNetDef
import Derived.Test.YtlfncadngcjdjaaNetR
import Derived.Test.YtlfncadngcjdjaaNetAsk
namespace Go.Proofs.Ytlfncadngcjdjaa
open Go.RowKit
set_option linter.unusedVariables false
def firstF : List DSegm → Int
  | [] => 0
  | x :: r => if sgF x ≠ 0 then sgF x else firstF r
theorem firstF_drop {l : List DSegm} {k : Nat} (hk : k < l.length) : firstF (l.drop k) = if sgF l[k] ≠ 0 then sgF l[k] else firstF (l.drop (k + 1)) := by
  rw [List.drop_eq_getElem_cons hk]; rfl
theorem firstF_ok : ∀ {l : List DSegm}, firstF l = 0 → ∀ x ∈ l, sgF x = 0
  | [], _, x, hx => by simp at hx
  | y :: r, h, x, hx => by
    unfold firstF at h
    by_cases h1 : sgF y = 0
    · rw [if_neg (by simp [h1])] at h
      rcases List.mem_cons.1 hx with rfl | hx
      · exact h1
      · exact firstF_ok h x hx
    · rw [if_pos h1] at h; exact absurd h h1
theorem tot_mem {l : List DSegm} {x : DSegm} (h : x ∈ l) : totSegm x ≤ totSegms l := by
  obtain ⟨i, hi, rfl⟩ := List.getElem_of_mem h
  have := fsum_at totSegm hi
  unfold totSegms; omega
theorem totSegms_app (l r : List DSegm) : totSegms (l ++ r) = totSegms l + totSegms r := by
  unfold totSegms fsum
  rw [List.length_append, List.map_append, List.sum_append]; omega
theorem putN_tot {dead : List Bool} : ∀ (l acc : List DSegm), totSegms (putN dead acc l) ≤ totSegms acc + totSegms l
  | [], acc => by show totSegms acc ≤ _; omega
  | x :: r, acc => by
    have h := putN_tot (dead := dead) r (put1 dead acc x)
    have e : putN dead acc (x :: r) = putN dead (put1 dead acc x) r := rfl
    have e2 : totSegms (x :: r) = totSegms [x] + totSegms r := totSegms_app [x] r
    rw [e, e2]
    unfold put1 at h
    split at h
    · rw [totSegms_app] at h; unfold put1; rename_i hc; rw [if_pos hc]; omega
    · unfold put1; rename_i hc; rw [if_neg hc]; omega
def putV (g : DNet) (l : List DSegm) : DNR := if netF g.1 g.2.1 ≠ 0 then badN (netF g.1 g.2.1) else if firstF l ≠ 0 then badN (firstF l) else (0, zSg, (putN g.2.1 g.1 l, g.2.1, ()), ())
theorem putV_tot {g : DNet} {l : List DSegm} (h : totNet g + totSegms l ≤ 1048576) : totNR (putV g l) ≤ 1048576 := by
  unfold putV
  split
  · rw [tot_badN]; omega
  · split
    · rw [tot_badN]; omega
    · unfold totNet at h
      have := putN_tot (dead := g.2.1) l g.1
      show 0 + (totSegms (putN g.2.1 g.1 l) + g.2.1.length) ≤ _
      omega
theorem wf_small {x : Int} (h0 : 0 ≤ x) (h1 : x ≤ 10) : (Lit.int .i64 x).wf = true := by
  have : x = 0 ∨ x = 1 ∨ x = 2 ∨ x = 3 ∨ x = 4 ∨ x = 5 ∨ x = 6 ∨ x = 7 ∨ x = 8 ∨ x = 9 ∨ x = 10 := by omega
  rcases this with h | h | h | h | h | h | h | h | h | h | h <;> (subst h; decide)
theorem sgF_bd (x : DSegm) : 0 ≤ sgF x ∧ sgF x ≤ 10 := by
  unfold sgF segFault; repeat' split
  all_goals omega
theorem carF_bd (dead : List Bool) : ∀ (l : List DSegm), 0 ≤ carF dead l ∧ carF dead l ≤ 10
  | [] => by unfold carF; omega
  | x :: r => by
    have := sgF_bd x; have := carF_bd dead r
    unfold carF; repeat' split
    all_goals omega
theorem netF_bd (bag : List DSegm) (dead : List Bool) : 0 ≤ netF bag dead ∧ netF bag dead ≤ 10 := by
  have := carF_bd dead bag
  unfold netF; repeat' split
  all_goals omega
theorem netF_wf (bag : List DSegm) (dead : List Bool) : (Lit.int .i64 (netF bag dead)).wf = true := wf_small (netF_bd _ _).1 (netF_bd _ _).2
theorem sgF_wf (x : DSegm) : (Lit.int .i64 (sgF x)).wf = true := wf_small (sgF_bd x).1 (sgF_bd x).2
theorem askF_bd (bag : List DSegm) (dead : List Bool) (x : Int) : 0 ≤ askF bag dead x ∧ askF bag dead x ≤ 10 := by
  have := netF_bd bag dead
  unfold askF; repeat' split
  all_goals omega
theorem askF_wf (bag : List DSegm) (dead : List Bool) (x : Int) : (Lit.int .i64 (askF bag dead x)).wf = true := wf_small (askF_bd _ _ _).1 (askF_bd _ _ _).2
theorem askF_ok {bag : List DSegm} {dead : List Bool} {x : Int} (h : askF bag dead x = 0) : netF bag dead = 0 ∧ 0 ≤ x ∧ x < bag.length := by
  unfold askF at h
  by_cases h1 : netF bag dead = 0
  · rw [if_neg (by simp [h1])] at h
    by_cases h2 : inP x bag.length = true
    · exact ⟨h1, (inP_iff _ _).1 h2⟩
    · rw [if_neg h2] at h; simp at h
  · rw [if_pos h1] at h; exact absurd h h1
end Go.Proofs.Ytlfncadngcjdjaa
