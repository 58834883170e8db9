/- A region that draws its order: a call that leaves the world as it was may be made first; no condition. -/
import Derived.Test.YtioehciabgdbaaaRows
import Derived.Test.YtioehciabgdbaaaBase
import Derived.Test.YtioehciabgdbaaaRegionU
namespace Go.Proofs.Ytioehciabgdbaaa
open Go.RowKit
set_option linter.unusedVariables false

section
variable {P : Program} {ops : Array Oper} {Q : Exit → Act → World → Prop} {md : Region.Mode} {S : World → Prop} {z : Nat}

/-- What holds of a state whatever an operation leaves in its slot holds behind it. -/
theorem wpOp_also {j : Nat} {oj : Oper} (hj : ops[j]? = some oj) {K : Act → World → Prop} {a : Act} {w : World} {Y : Act → Prop} (hY : ∀ u, Y (a.put oj.dst u)) (hYd : ∀ d u, Y (({ a with defers := d :: a.defers } : Act).put oj.dst u))
    (h : wpOp P ops Q j K a w) : wpOp P ops Q j (fun b v => Y b ∧ K b v) a w := by
  unfold wpOp at *
  simp only [hj] at *
  by_cases hw : Region.wanted oj (yielded ops a.tmps) = true
  · rw [if_pos hw] at h ⊢
    rcases h with h | h
    · refine Or.inl ?_
      unfold Oper.wp at *
      generalize (execOp a.eval oj).run P w = r at *
      cases r with
      | ok n w' =>
        cases n <;> simp only [Oper.upon] at h ⊢
        case value u => exact ⟨hY u, h⟩
        case skip => exact ⟨hY _, h⟩
        case defer d => exact ⟨hYd d _, h⟩
        case enter f args =>
          refine Calls.mono h fun e w'' he => ?_
          cases e with
          | returned u => exact ⟨hY u, he⟩
          | panicked c => exact he
          | outgrown => exact he
        case row row args => exact Rows.mono h fun u w'' he => ⟨hY u, he⟩
      | halt x w' =>
        cases x <;> simp only [Oper.upon] at h ⊢
        all_goals exact h
    · exact Or.inr h
  · rw [if_neg hw] at h ⊢
    exact ⟨hY _, h⟩

/-- In every world that meets S the operation is a call that answers x and leaves the world as it was. -/
def QuietIf (P : Program) (ops : Array Oper) (S : World → Prop) (o : Oper) (x : Value) (a : Act) : Prop :=
  Region.wanted o (yielded ops a.tmps) = true ∧ ∀ w, S w → ∃ f args, (execOp a.eval o).run P w = .ok (.enter f args) w ∧ Calls P f args w (fun e w' => e = .returned x ∧ w' = w)
theorem QuietIf.here {i : Nat} {o : Oper} {x : Value} {a : Act} (hi : ops[i]? = some o) (hy : QuietIf P ops S o x a) {K : Act → World → Prop} {w : World} (hS : S w) (h : K (a.put o.dst x) w) : wpOp P ops Q i K a w := by
  unfold wpOp
  simp only [hi]
  rw [if_pos hy.1]
  refine Or.inl ?_
  obtain ⟨f, args, hrun, hc⟩ := hy.2 w hS
  unfold Oper.wp
  rw [hrun]
  simp only [Oper.upon]
  exact hc.mono (by rintro e w' ⟨rfl, rfl⟩; exact h)
theorem QuietIf.same {o : Oper} {x : Value} {a a' : Act} (hy : QuietIf P ops S o x a) (he : execOp a'.eval o = execOp a.eval o) (hw : Region.wanted o (yielded ops a'.tmps) = Region.wanted o (yielded ops a.tmps)) : QuietIf P ops S o x a' := by
  unfold QuietIf at *
  rw [he, hw]
  exact hy

theorem Goes.quiet {i : Nat} {oi : Oper} {x : Value} (hi : ops[i]? = some oi) (hsel : ∀ (j : Nat) (o : Oper) cs b, ops[j]? = some o → o.op ≠ .select cs b)
    (hQ : ∀ c a w, Q (.panic c) (a.put oi.dst x) w → Q (.panic c) a w) (hz : ∀ o, ops[z]? = some o → ∃ e ∈ o.after, Region.binds md e = true ∧ e.on = i) :
    ∀ (k : Nat) (t : Array Bool) (a : Act) (w : World),
      (∀ j oj, ops[j]? = some oj → j ≠ i → t.getD j true = false → (∀ e ∈ oj.after, Region.binds md e = true → e.on ≠ i) → oi.apart ops oj = true) →
      i ∈ Region.ready md ops t → QuietIf P ops S oi x a → S w →
      Goes P md ops Q S z k (t.setIfInBounds i true) (a.put oi.dst x) w → Goes P md ops Q S z (k + 1) t a w := by
  intro k
  induction k with
  | zero =>
    intro t a w _ hr hy hS H
    refine ⟨fun h => (by rw [h] at hr; cases hr), fun j hj => ?_⟩
    rcases Nat.decEq j i with hji | hji
    · have hrd := ready_mono hj hji
      rw [H.1] at hrd
      cases hrd
    · subst hji
      exact hy.here hi hS ⟨Or.inr hS, H⟩
  | succ k ih =>
    intro t a w hfree hr hy hS H
    refine ⟨fun h => (by rw [h] at hr; cases hr), fun j hj => ?_⟩
    rcases Nat.decEq j i with hji | hji
    · have step := H.2 j (ready_mono hj hji)
      obtain ⟨hun, oj, hoj, hall⟩ := mem_ready.1 hj
      have hi0 := (mem_ready.1 hr).1
      have hnot : ∀ e ∈ oj.after, Region.binds md e = true → e.on ≠ i := fun e he hb heq => by
        have h1 := hall e he hb
        rw [heq] at h1
        rcases Nat.lt_or_ge i t.size with h' | h'
        · simp [h'] at hi0 h1; rw [hi0] at h1; cases h1
        · simp [Array.getElem?_eq_none h'] at h1
      have hjz : j ≠ z := fun e => by
        subst e
        obtain ⟨e, he, hb, hon⟩ := hz oj hoj
        exact hnot e he hb hon
      have hap := hfree j oj hoj hji hun hnot
      have hsi : ∀ cs b, oi.op ≠ .select cs b := fun cs b => hsel i oi cs b hi
      obtain ⟨-, -, h3⟩ := Oper.apart_spec hap
      have two := wpOp_also (Y := fun b => QuietIf P ops S oi x b) hoj (fun u => hy.same (execOp_put oi hsi a oj.dst u h3) (wanted_put oi a oj.dst u h3))
        (fun d u => (hy.same (a' := { a with defers := d :: a.defers }) rfl rfl).same (execOp_put oi hsi _ oj.dst u h3) (wanted_put oi _ oj.dst u h3))
        (wpOp_putIf (S := fun _ => False) hoj hap hsi (fun cs b => hsel j oj cs b hoj) hQ (Or.inl ⟨hy.1, fun _ h => h.elim⟩) step)
      refine wpOp_mono (fun b v h4 => ?_) two
      have hSv : S v := by
        rcases h4.2.2.1 with e | e
        · exact absurd e hjz
        · exact e
      refine ⟨Or.inr hSv, ih (t.setIfInBounds j true) b v (fun q oq hq hqi hqu hqn => hfree q oq hq hqi ?_ hqn) (ready_mono hr (Ne.symm hji)) h4.1 hSv ?_⟩
      · by_cases hjq : j = q
        · subst hjq; exact hun
        · rw [getD_set_ne true hjq] at hqu; exact hqu
      · rw [Array.setIfInBounds_comm _ _ hji]
        exact h4.2.2.2
    · subst hji
      exact hy.here hi hS ⟨Or.inr hS, H⟩
/-- The call number i is made first. -/
theorem Goes.call {i : Nat} {oi : Oper} {x : Value} {k : Nat} {t : Array Bool} {a : Act} {w : World} (hi : ops[i]? = some oi)
    (hs : Region.noSelect ops = true) (hf : Region.free md ops t i = true) (hr : (Region.ready md ops t).contains i = true) (hz : waitsFor md ops z i = true)
    (hQ : ∀ c a w, Q (.panic c) (a.put oi.dst x) w → Q (.panic c) a w) (hy : QuietIf P ops S oi x a) (hS : S w)
    (h : Goes P md ops Q S z k (t.setIfInBounds i true) (a.put oi.dst x) w) : Goes P md ops Q S z (k + 1) t a w :=
  Goes.quiet hi (Region.noSelect_spec hs) hQ (waits_spec hz) k t a w (Region.free_spec hi hf) (by simpa using hr) hy hS h
end
end Go.Proofs.Ytioehciabgdbaaa
