/- What is put is there, what was there stays, and putting it again changes nothing; no condition. -/
import Derived.Test.YtnbcefdfdonljaaRows
import Derived.Test.YtnbcefdfdonljaaBase
import Derived.Test.YtnbcefdfdonljaaGath
import Derived.Test.YtnbcefdfdonljaaGathLaw
import Derived.Test.YtnbcefdfdonljaaGathByte
import Derived.Test.YtnbcefdfdonljaaGathHold
import Derived.Test.YtnbcefdfdonljaaPMap
import Derived.Test.YtnbcefdfdonljaaPRun
import Derived.Test.YtnbcefdfdonljaaPPlaces
import Derived.Test.YtnbcefdfdonljaaPutDef
import Derived.Test.YtnbcefdfdonljaaPutFacts
import Derived.Test.YtnbcefdfdonljaaPImpl
namespace Go.Proofs.Ytnbcefdfdonljaa
open Go.RowKit
set_option linter.unusedVariables false

theorem cp_or {p q : Nat → Bool} : ∀ (L : List Nat), (∀ x ∈ L, p x = true → q x = false) → L.countP (fun x => p x || q x) = L.countP p + L.countP q
  | [], _ => rfl
  | x :: L, h => by
    have ih := cp_or L fun y hy => h y (by simp [hy])
    have hx := h x (by simp)
    rw [List.countP_cons, List.countP_cons, List.countP_cons, ih]
    cases hp : p x <;> cases hq : q x <;> simp [hp, hq] at hx ⊢ <;> omega
theorem cp_le {p q : Nat → Bool} : ∀ (L : List Nat), (∀ x ∈ L, p x = true → q x = true) → L.countP p ≤ L.countP q
  | [], _ => by simp
  | x :: L, h => by
    have ih := cp_le L fun y hy => h y (by simp [hy])
    have hx := h x (by simp)
    rw [List.countP_cons, List.countP_cons]
    cases hp : p x <;> cases hq : q x <;> simp [hp, hq] at hx ⊢ <;> omega
def inP (a : Int) (n : Nat) (y : Int) : Bool := decide (a ≤ y) && decide (y ≤ a + n - 1)
theorem cp_int {a : Int} {n : Nat} (h0 : 0 ≤ a) : ∀ N : Nat, (((List.range N).countP fun k : Nat => inP a n (k : Int)) : Int) = min (a + n) N - min a N
  | 0 => by simp; omega
  | N + 1 => by
    have ih := cp_int (n := n) h0 N
    rw [List.range_succ, List.countP_append, List.countP_cons, List.countP_nil]
    have e : inP a n (N : Int) = true ↔ a ≤ (N : Int) ∧ (N : Int) ≤ a + n - 1 := by unfold inP; simp
    by_cases h : inP a n (N : Int) = true
    · have := e.1 h
      rw [if_pos h]; push_cast; omega
    · have h2 : ¬ (a ≤ (N : Int) ∧ (N : Int) ≤ a + n - 1) := fun q => h (e.2 q)
      rw [if_neg h]; push_cast; omega
theorem pb_some (p : Pc) (ps : List Pc) (y : Int) : (pcsByte (p :: ps) y).isSome = (inP p.1 p.2.1.length y || (pcsByte ps y).isSome) := by
  show (if p.1 ≤ y ∧ y ≤ p.1 + p.2.1.length - 1 then some (p.2.1.getD (y - p.1).toNat 0) else pcsByte ps y).isSome = _
  unfold inP
  by_cases h : p.1 ≤ y ∧ y ≤ p.1 + p.2.1.length - 1
  · rw [if_pos h]; simp [h.1, h.2]
  · rw [if_neg h]
    by_cases h1 : p.1 ≤ y
    · have h2 : ¬ y ≤ p.1 + p.2.1.length - 1 := fun q => h ⟨h1, q⟩
      simp [h2]
    · simp [h1]
theorem pb_far : ∀ {ps : List Pc} {e : Int}, pcsFault e ps = 0 → ∀ y, (pcsByte ps y).isSome = true → e < y
  | [], e, _, y, h => by cases h
  | p :: ps, e, hF, y, h => by
    unfold pcsFault at hF
    split at hF
    · contradiction
    · rename_i hp
      obtain ⟨h1, h2, h3, h4⟩ := pcFault_ok (by simpa using hp)
      rw [pb_some] at h
      simp only [Bool.or_eq_true] at h
      rcases h with h | h
      · unfold inP at h
        simp only [Bool.and_eq_true, decide_eq_true_eq] at h
        omega
      · have := pb_far hF y h
        omega
theorem pb_cnt (N : Nat) (hN : N = 400) : ∀ {ps : List Pc} {e : Int}, pcsFault e ps = 0 → (((List.range N).countP fun k : Nat => (pcsByte ps (k : Int)).isSome) : Int) = dsum ps
  | [], e, _ => by simp [pcsByte, dsum]
  | p :: ps, e, hF => by
    unfold pcsFault at hF
    split at hF
    · contradiction
    · rename_i hp
      obtain ⟨h1, h2, h3, h4⟩ := pcFault_ok (by simpa using hp)
      have ih := pb_cnt N hN hF
      have e1 : (fun k : Nat => (pcsByte (p :: ps) (k : Int)).isSome) = fun k : Nat => inP p.1 p.2.1.length (k : Int) || (pcsByte ps (k : Int)).isSome := funext fun k => pb_some p ps k
      have e2 := cp_or (p := fun k : Nat => inP p.1 p.2.1.length (k : Int)) (q := fun k : Nat => (pcsByte ps (k : Int)).isSome) (List.range N) fun k _ hk => by
        cases hq : (pcsByte ps (k : Int)).isSome with
        | false => rfl
        | true =>
          have := pb_far hF _ hq
          unfold inP at hk
          simp only [Bool.and_eq_true, decide_eq_true_eq] at hk
          omega
      have e3 := cp_int (a := p.1) (n := p.2.1.length) h2 N
      have e4 : dsum (p :: ps) = p.2.1.length + dsum ps := by simp [dsum]
      rw [e1, e2, e4]
      push_cast
      push_cast at e3
      omega
def cntG (N : Nat) (g : Gt) : Nat := (List.range N).countP fun k : Nat => (gtByte g (k : Int)).isSome
theorem gt_some (g : Gt) (k : Nat) : (gtByte g (k : Int)).isSome = (inP 0 g.1.length (k : Int) || (pcsByte g.2.1 (k : Int)).isSome) := by
  have e : (0 : Int) + (g.1.length : Int) - 1 = (g.1.length : Int) - 1 := by omega
  unfold gtByte inP
  rw [e]
  by_cases h1 : 0 ≤ (k : Int)
  · by_cases h2 : (k : Int) ≤ (g.1.length : Int) - 1
    · rw [if_pos ⟨h1, h2⟩, decide_eq_true h1, decide_eq_true h2]; rfl
    · rw [if_neg (fun q => h2 q.2), decide_eq_false h2, Bool.and_false, Bool.false_or]
  · omega
theorem gt_cnt {g : Gt} (N : Nat) (hN : N = 400) (hF : gtFault g = 0) : (cntG N g : Int) = g.1.length + dsum g.2.1 := by
  have hok := gtFault_ok hF
  have hp : pcsFault g.1.length g.2.1 = 0 := by
    unfold gtFault at hF
    split at hF
    · cases hF
    · exact hF
  have e1 : (fun k : Nat => (gtByte g (k : Int)).isSome) = fun k : Nat => inP 0 g.1.length (k : Int) || (pcsByte g.2.1 (k : Int)).isSome := funext fun k => gt_some g k
  have e2 := cp_or (p := fun k : Nat => inP 0 g.1.length (k : Int)) (q := fun k : Nat => (pcsByte g.2.1 (k : Int)).isSome) (List.range N) fun k _ hk => by
    cases hq : (pcsByte g.2.1 (k : Int)).isSome with
    | false => rfl
    | true =>
      have := pb_far hp _ hq
      unfold inP at hk
      simp only [Bool.and_eq_true, decide_eq_true_eq] at hk
      omega
  have e3 := cp_int (a := 0) (n := g.1.length) (Int.le_refl 0) N
  have e4 := pb_cnt N hN hp
  unfold cntG
  rw [e1, e2]
  have := hok.1
  push_cast
  push_cast at e3
  omega
theorem gt_lo {g : Gt} (hF : gtFault g = 0) {y : Int} (hy : y < 0) : gtByte g y = none := by
  have hp : pcsFault g.1.length g.2.1 = 0 := by
    unfold gtFault at hF
    split at hF
    · cases hF
    · exact hF
  unfold gtByte
  rw [if_neg (by omega)]
  cases h : pcsByte g.2.1 y with
  | none => rfl
  | some c =>
    have := pb_far hp y (by rw [h]; rfl)
    omega
theorem gap_ex (mm : Int → Option Int) : ∃ d, FirstGap mm d := by
  have key : ∀ n : Nat, n ≤ 400 → (∀ k : Nat, k < n → (mm k).isSome = true) ∨ ∃ d, FirstGap mm d := by
    intro n
    induction n with
    | zero => exact fun _ => Or.inl fun k hk => absurd hk (Nat.not_lt_zero _)
    | succ n ih =>
      intro hn
      rcases ih (by omega) with h | h
      · cases hm : mm (n : Int) with
        | none => exact Or.inr ⟨n, ⟨by omega, h, fun _ => hm⟩⟩
        | some c =>
          refine Or.inl fun k hk => ?_
          by_cases e : k = n
          · subst e; rw [hm]; rfl
          · exact h k (by omega)
      · exact Or.inr h
  rcases key 400 (Nat.le_refl _) with h | h
  · exact ⟨400, ⟨Nat.le_refl _, h, fun q => absurd q (by omega)⟩⟩
  · exact h
theorem put_code {g : Gt} {x : Int} {l : List Int} (h : putC g x l = 0) : gtFault g = 0 ∧ 0 ≤ x ∧ x + l.length ≤ 400 ∧ (putG (putM (gtByte g) x l) (gapOf (putM (gtByte g) x l))).2.1.length ≤ 40 := by
  unfold putC at h
  split at h
  · contradiction
  · rename_i h0
    split at h
    · cases h
    · split at h
      · cases h
      · exact ⟨by simpa using h0, by omega, by omega, by omega⟩
theorem put_some {mm : Int → Option Int} {x : Int} {l : List Int} (y : Int) : (putM mm x l y).isSome = ((mm y).isSome || (decide (x ≤ y) && decide (y ≤ x + l.length - 1))) := by
  unfold putM
  cases mm y with
  | some c => rfl
  | none =>
    by_cases h : x ≤ y ∧ y ≤ x + l.length - 1
    · simp only; rw [if_pos h]; simp [h.1, h.2]
    · simp only; rw [if_neg h]
      by_cases h1 : x ≤ y
      · have h2 : ¬ y ≤ x + l.length - 1 := fun q => h ⟨h1, q⟩
        simp [h2]
      · simp [h1]
/-- What is put: no fault; its bytes are there, and those that were; nothing that was known is less; again: nothing changes. -/
theorem put_all {g : Gt} {x : Int} {l : List Int} (h : putC g x l = 0) : gtFault (putV g x l) = 0 ∧ (∀ y, gtByte (putV g x l) y = putM (gtByte g) x l y) ∧ g.1.length ≤ (putV g x l).1.length ∧
    holdV g + (g.1.length : Int) ≤ holdV (putV g x l) + ((putV g x l).1.length : Int) ∧ putC (putV g x l) x l = 0 ∧ putV (putV g x l) x l = putV g x l := by
  obtain ⟨h0, h1, h2, h3⟩ := put_code h
  obtain ⟨d, hd⟩ := gap_ex (putM (gtByte g) x l)
  have hg := gapOf_eq hd
  have ev : putV g x l = putG (putM (gtByte g) x l) d := by unfold putV; rw [if_neg (by simp [h]), hg]
  have hlo : ∀ y, y < 0 → putM (gtByte g) x l y = none := fun y hy => by
    unfold putM; rw [gt_lo h0 hy]; simp only; rw [if_neg (by omega)]
  have hhi : ∀ y, 400 ≤ y → putM (gtByte g) x l y = none := fun y hy => putM_hi h0 h2 hy
  have hb : ∀ y, gtByte (putV g x l) y = putM (gtByte g) x l y := fun y => by rw [ev]; exact putG_byte hd hlo hhi y
  have hF : gtFault (putV g x l) = 0 := by rw [ev]; exact putG_fault hd (by rw [hg] at h3; exact h3)
  have hl : (putV g x l).1.length = d := by rw [ev]; exact runL_len _ _ _
  have hidem : putM (gtByte (putV g x l)) x l = putM (gtByte g) x l := funext fun y => by
    have e := hb y
    unfold putM at e ⊢
    rw [e]
    cases gtByte g y with
    | some c => rfl
    | none =>
      by_cases hh : x ≤ y ∧ y ≤ x + l.length - 1
      · simp only [if_pos hh]
      · simp only [if_neg hh]
  have hc2 : putC (putV g x l) x l = 0 := by
    unfold putC
    rw [if_neg (by simp [hF]), if_neg (by omega), hidem, if_neg (by omega)]
  refine ⟨hF, hb, ?_, ?_, hc2, ?_⟩
  · rw [hl]
    apply Classical.byContradiction
    intro hn
    have hle := (gtFault_ok h0).1
    have e := hd.gap (by omega)
    have e2 : (gtByte g (d : Int)).isSome = true := by
      unfold gtByte; rw [if_pos (by omega)]; rfl
    unfold putM at e
    cases hq : gtByte g (d : Int) with
    | none => rw [hq] at e2; cases e2
    | some c => rw [hq] at e; cases e
  · obtain ⟨N, hN⟩ : ∃ N : Nat, N = 400 := ⟨400, rfl⟩
    have c1 := gt_cnt N hN h0
    have c2 := gt_cnt N hN hF
    have hle : cntG N g ≤ cntG N (putV g x l) := cp_le _ fun k _ hk => by
      rw [hb, put_some, hk]; rfl
    have v1 : holdV g = (dsum g.2.1 : Int) := by unfold holdV; rw [if_neg (by simp [h0])]
    have v2 : holdV (putV g x l) = (dsum (putV g x l).2.1 : Int) := by unfold holdV; rw [if_neg (by simp [hF])]
    rw [v1, v2]
    omega
  · have e : ∀ g' : Gt, putC g' x l = 0 → putM (gtByte g') x l = putM (gtByte g) x l → putV g' x l = putG (putM (gtByte g) x l) d := fun g' q1 q2 => by
      unfold putV
      rw [if_neg (by simp [q1]), q2, hg]
    rw [e _ hc2 hidem, ev]
end Go.Proofs.Ytnbcefdfdonljaa
