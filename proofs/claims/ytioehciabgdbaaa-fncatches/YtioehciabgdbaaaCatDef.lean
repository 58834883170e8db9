/- Plain facts on catches and spans: their faults, what is taken, as functions on data; no condition. -/
import Derived.Test.YtioehciabgdbaaaBase
import Derived.Test.YtioehciabgdbaaaMem
import Derived.Test.YtioehciabgdbaaaHBase
import Derived.Test.YtioehciabgdbaaaHSpan
import Derived.Test.YtioehciabgdbaaaHCatch
import Derived.Test.YtioehciabgdbaaaNum
import Derived.Test.YtioehciabgdbaaaUnwrap
namespace Go.Proofs.Ytioehciabgdbaaa
open Go.RowKit
set_option linter.unusedVariables false

/-- v is lo to hi. -/
def inC (v lo hi : Int) : Bool := decide (lo ≤ v) && decide (v ≤ hi)
theorem inC_yes {v lo hi : Int} (h : inC v lo hi = true) : lo ≤ v ∧ v ≤ hi := by unfold inC at h; simpa using h
theorem inC_mk {v lo hi : Int} (h1 : lo ≤ v) (h2 : v ≤ hi) : inC v lo hi = true := by unfold inC; simp [h1, h2]
/-- The fault of one span that must lie behind e. -/
def spF (s : DSpan) (e : Int) : Int := if 1000100 < s.2.1 then 3 else if s.1 ≤ e ∨ s.2.1 ≤ s.1 then 1 else 0
def spsF : Int → List DSpan → Int
  | _, [] => 0
  | e, s :: l => if spF s e = 0 then spsF s.2.1 l else spF s e
def caHead (x : DCatch) : Bool := inC x.1 0 65535 && inC x.2.1 0 1000000
/-- The fault of a catch. -/
def caF (x : DCatch) : Int := if caHead x = false then 3 else if 20 < x.2.2.1.length then 2 else spsF x.2.1 x.2.2.1
theorem spsF_at {l : List DSpan} {k : Nat} (e : Int) (hk : k < l.length) : spsF e (l.drop k) = if spF l[k] e = 0 then spsF l[k].2.1 (l.drop (k + 1)) else spF l[k] e := by
  rw [List.drop_eq_getElem_cons hk]; rfl
theorem spsF_end {l : List DSpan} (e : Int) : spsF e (l.drop l.length) = 0 := by rw [List.drop_length]; rfl
theorem caF_head {x : DCatch} (h : caHead x = false) : caF x = 3 := by unfold caF; rw [if_pos h]
theorem caF_many {x : DCatch} (h : caHead x = true) (h2 : 20 < x.2.2.1.length) : caF x = 2 := by unfold caF; rw [if_neg (by simp [h]), if_pos h2]
theorem caF_sps {x : DCatch} (h : caHead x = true) (h2 : ¬ 20 < x.2.2.1.length) : caF x = spsF x.2.1 x.2.2.1 := by unfold caF; rw [if_neg (by simp [h]), if_neg h2]
theorem spF_r {s : DSpan} {e : Int} (h : 1000100 < s.2.1) : spF s e = 3 := by unfold spF; rw [if_pos h]
theorem spF_f {s : DSpan} {e : Int} (h : ¬ 1000100 < s.2.1) (h2 : s.1 ≤ e ∨ s.2.1 ≤ s.1) : spF s e = 1 := by unfold spF; rw [if_neg h, if_pos h2]
theorem spF_ok {s : DSpan} {e : Int} (h : ¬ 1000100 < s.2.1) (h2 : ¬ (s.1 ≤ e ∨ s.2.1 ≤ s.1)) : spF s e = 0 := by unfold spF; rw [if_neg h, if_neg h2]
theorem spF_parts {s : DSpan} {e : Int} (h : spF s e = 0) : e < s.1 ∧ s.1 < s.2.1 ∧ s.2.1 ≤ 1000100 := by
  unfold spF at h
  split at h
  · omega
  · split at h
    · omega
    · omega
theorem ca_ok {x : DCatch} (h : caF x = 0) : (0 ≤ x.1 ∧ x.1 ≤ 65535) ∧ (0 ≤ x.2.1 ∧ x.2.1 ≤ 1000000) ∧ x.2.2.1.length ≤ 20 ∧ spsF x.2.1 x.2.2.1 = 0 := by
  unfold caF at h
  split at h
  · omega
  · rename_i hh
    split at h
    · omega
    · have : caHead x = true := by simpa using hh
      unfold caHead at this
      simp only [Bool.and_eq_true] at this
      exact ⟨inC_yes this.1, inC_yes this.2, by omega, h⟩
/-- Spans in order, none touching the next. -/
def SpL : List DSpan → Prop
  | [] => True
  | [s] => s.1 ≤ s.2.1
  | s :: t :: l => s.1 ≤ s.2.1 ∧ s.2.1 < t.1 ∧ SpL (t :: l)
theorem SpL.head {s : DSpan} {l : List DSpan} (h : SpL (s :: l)) : s.1 ≤ s.2.1 := by
  cases l with
  | nil => exact h
  | cons t l => exact h.1
theorem SpL.tail {s : DSpan} {l : List DSpan} (h : SpL (s :: l)) : SpL l := by
  cases l with
  | nil => trivial
  | cons t l => exact h.2.2
theorem SpL.next {s t : DSpan} {l : List DSpan} (h : SpL (s :: t :: l)) : s.2.1 < t.1 := h.2.1
theorem SpL.cons {s : DSpan} {l : List DSpan} (h : s.1 ≤ s.2.1) (hl : SpL l) (hn : ∀ t l', l = t :: l' → s.2.1 < t.1) : SpL (s :: l) := by
  cases l with
  | nil => exact h
  | cons t l => exact ⟨h, hn t l rfl, hl⟩
theorem SpL.all {s : DSpan} : ∀ {l : List DSpan}, SpL (s :: l) → ∀ t ∈ l, s.2.1 < t.1
  | [], _, t, ht => by simp at ht
  | u :: l, h, t, ht => by
    rcases List.mem_cons.1 ht with rfl | ht
    · exact h.next
    · have h1 := SpL.all h.tail t ht
      have h2 := h.next
      have h3 := h.tail.head
      omega
theorem SpL.le : ∀ {l : List DSpan}, SpL l → ∀ t ∈ l, t.1 ≤ t.2.1
  | [], _, t, ht => by simp at ht
  | u :: l, h, t, ht => by
    rcases List.mem_cons.1 ht with rfl | ht
    · exact h.head
    · exact SpL.le h.tail t ht

/-- A span put among others: those that touch it become one with it. -/
def insS (a b : Int) : List DSpan → List DSpan
  | [] => [(a, b, ())]
  | s :: l => if s.2.1 < a then s :: insS a b l else if b < s.1 then (a, b, ()) :: s :: l else insS (min a s.1) (max b s.2.1) l

theorem insS_lt {a b : Int} {s : DSpan} {l : List DSpan} (h : s.2.1 < a) : insS a b (s :: l) = s :: insS a b l := by simp [insS, h]
theorem insS_gt {a b : Int} {s : DSpan} {l : List DSpan} (h : ¬ s.2.1 < a) (h2 : b < s.1) : insS a b (s :: l) = (a, b, ()) :: s :: l := by simp [insS, h, h2]
theorem insS_mid {a b : Int} {s : DSpan} {l : List DSpan} (h : ¬ s.2.1 < a) (h2 : ¬ b < s.1) : insS a b (s :: l) = insS (min a s.1) (max b s.2.1) l := by simp [insS, h, h2]

theorem insS_gtall {a b : Int} (hab : a ≤ b) : ∀ {l : List DSpan}, SpL l → (∀ t ∈ l, b < t.1) → insS a b l = (a, b, ()) :: l
  | [], _, _ => rfl
  | s :: l, h, hl => by
    have h1 := hl s (by simp)
    have h2 := h.head
    exact insS_gt (by omega) h1
theorem spanEta (s : DSpan) : (s.1, s.2.1, ()) = s := rfl
theorem insS_self {s : DSpan} {l : List DSpan} (h : SpL (s :: l)) : insS s.1 s.2.1 l = s :: l := insS_gtall h.head h.tail (h.all)

theorem insS_from {a b e : Int} : ∀ {l : List DSpan}, e < a → (∀ t ∈ l, e < t.1) → ∀ t ∈ insS a b l, e < t.1
  | [], ha, _, t, ht => by simp [insS] at ht; subst ht; exact ha
  | s :: l, ha, hl, t, ht => by
    have hs := hl s (by simp)
    have hl' : ∀ t ∈ l, e < t.1 := fun t h => hl t (by simp [h])
    by_cases h1 : s.2.1 < a
    · rw [insS_lt h1] at ht
      rcases List.mem_cons.1 ht with rfl | ht
      · exact hs
      · exact insS_from ha hl' t ht
    · by_cases h2 : b < s.1
      · rw [insS_gt h1 h2] at ht
        rcases List.mem_cons.1 ht with rfl | ht
        · exact ha
        · exact hl t ht
      · rw [insS_mid h1 h2] at ht
        exact insS_from (by omega) hl' t ht
theorem insS_to {a b e : Int} : ∀ {l : List DSpan}, b ≤ e → (∀ t ∈ l, t.2.1 ≤ e) → ∀ t ∈ insS a b l, t.2.1 ≤ e
  | [], ha, _, t, ht => by simp [insS] at ht; subst ht; exact ha
  | s :: l, ha, hl, t, ht => by
    have hs := hl s (by simp)
    have hl' : ∀ t ∈ l, t.2.1 ≤ e := fun t h => hl t (by simp [h])
    by_cases h1 : s.2.1 < a
    · rw [insS_lt h1] at ht
      rcases List.mem_cons.1 ht with rfl | ht
      · exact hs
      · exact insS_to ha hl' t ht
    · by_cases h2 : b < s.1
      · rw [insS_gt h1 h2] at ht
        rcases List.mem_cons.1 ht with rfl | ht
        · exact ha
        · exact hl t ht
      · rw [insS_mid h1 h2] at ht
        exact insS_to (by omega) hl' t ht
theorem insS_len {a b : Int} : ∀ (l : List DSpan), (insS a b l).length ≤ l.length + 1
  | [] => by simp [insS]
  | s :: l => by
    by_cases h1 : s.2.1 < a
    · rw [insS_lt h1]; have := insS_len (a := a) (b := b) l; simp; omega
    · by_cases h2 : b < s.1
      · rw [insS_gt h1 h2]; simp
      · rw [insS_mid h1 h2]; have := insS_len (a := min a s.1) (b := max b s.2.1) l; simp; omega
theorem insS_ne {a b : Int} : ∀ (l : List DSpan), insS a b l ≠ []
  | [] => by simp [insS]
  | s :: l => by
    by_cases h1 : s.2.1 < a
    · rw [insS_lt h1]; simp
    · by_cases h2 : b < s.1
      · rw [insS_gt h1 h2]; simp
      · rw [insS_mid h1 h2]; exact insS_ne l
theorem insS_sp : ∀ {l : List DSpan} {a b : Int}, a ≤ b → SpL l → SpL (insS a b l)
  | [], a, b, hab, _ => hab
  | s :: l, a, b, hab, h => by
    have hs := h.head
    by_cases h1 : s.2.1 < a
    · rw [insS_lt h1]
      refine SpL.cons hs (insS_sp hab h.tail) fun t l' e => ?_
      exact insS_from (e := s.2.1) h1 h.all t (by rw [e]; simp)
    · by_cases h2 : b < s.1
      · rw [insS_gt h1 h2]
        exact ⟨hab, h2, h⟩
      · rw [insS_mid h1 h2]
        exact insS_sp (by omega) h.tail

/-- A place was seen. -/
def seenL (k : Int) (l : List DSpan) : Prop := ∃ s ∈ l, s.1 ≤ k ∧ k < s.2.1
theorem insS_covers {k : Int} : ∀ {l : List DSpan} {a b : Int}, a ≤ k → k < b → seenL k (insS a b l)
  | [], a, b, h1, h2 => ⟨(a, b, ()), by simp [insS], h1, h2⟩
  | s :: l, a, b, h1, h2 => by
    by_cases h3 : s.2.1 < a
    · rw [insS_lt h3]
      obtain ⟨t, ht, h⟩ := insS_covers (l := l) h1 h2
      exact ⟨t, by simp [ht], h⟩
    · by_cases h4 : b < s.1
      · rw [insS_gt h3 h4]
        exact ⟨(a, b, ()), by simp, h1, h2⟩
      · rw [insS_mid h3 h4]
        exact insS_covers (by omega) (by omega)
theorem insS_same : ∀ {l : List DSpan} {a b : Int}, a < b → SpL l → (∀ k, a ≤ k → k < b → seenL k l) → insS a b l = l
  | [], a, b, hab, _, hs => by obtain ⟨t, ht, _⟩ := hs a (by omega) hab; simp at ht
  | s :: l, a, b, hab, h, hs => by
    have hl := h.all
    have hlh := h.head
    have key : ∀ k, a ≤ k → k < b → (s.1 ≤ k ∧ k < s.2.1) ∨ (seenL k l ∧ s.2.1 < k) := by
      intro k h1 h2
      obtain ⟨t, ht, h3⟩ := hs k h1 h2
      rcases List.mem_cons.1 ht with rfl | ht
      · exact Or.inl h3
      · have := hl t ht
        exact Or.inr ⟨⟨t, ht, h3⟩, by omega⟩
    by_cases h1 : s.2.1 < a
    · rw [insS_lt h1, insS_same hab h.tail]
      intro k q1 q2
      rcases key k q1 q2 with q | q
      · omega
      · exact q.1
    · have ha : s.1 ≤ a ∧ a < s.2.1 := by
        rcases key a (by omega) hab with q | q
        · exact q
        · omega
      have hb : b ≤ s.2.1 := by
        apply Classical.byContradiction; intro hn
        rcases key s.2.1 (by omega) (by omega) with q | q <;> omega
      rw [insS_mid h1 (by omega), show min a s.1 = s.1 by omega, show max b s.2.1 = s.2.1 by omega]
      exact insS_self h
theorem fresh_iff {l : List DSpan} {a b : Int} (hab : a < b) (h : SpL l) : insS a b l ≠ l ↔ ∃ k, a ≤ k ∧ k < b ∧ ¬ seenL k l := by
  constructor
  · intro hne
    apply Classical.byContradiction; intro hn
    apply hne
    refine insS_same hab h fun k h1 h2 => ?_
    apply Classical.byContradiction; intro hk
    exact hn ⟨k, h1, h2, hk⟩
  · rintro ⟨k, h1, h2, h3⟩ e
    apply h3
    rw [← e]
    exact insS_covers h1 h2
theorem insS_twice {l : List DSpan} {a b : Int} (hab : a < b) (h : SpL l) : insS a b (insS a b l) = insS a b l :=
  insS_same hab (insS_sp (by omega) h) fun _ h1 h2 => insS_covers h1 h2

/-! ### As the program does it -/
def joinG : DSpan → List DSpan → List DSpan
  | c, [] => [c]
  | c, s :: l => if s.1 ≤ c.2.1 then joinG (c.1, max c.2.1 s.2.1, ()) l else c :: joinG s l
def joinT : List DSpan → List DSpan
  | [] => []
  | s :: l => joinG s l
theorem joinG_sp : ∀ {l : List DSpan} {s : DSpan}, SpL (s :: l) → joinG s l = s :: l
  | [], s, _ => rfl
  | t :: l, s, h => by
    have := h.next
    rw [joinG, if_neg (by omega), joinG_sp h.tail]
theorem joinG_ins : ∀ {l : List DSpan} {a b : Int}, a ≤ b → SpL l → (∀ t ∈ l, a ≤ t.1) → joinG (a, b, ()) l = insS a b l
  | [], a, b, _, _, _ => rfl
  | t :: l, a, b, hab, h, ha => by
    have h1 := ha t (by simp)
    have h2 := h.head
    by_cases h3 : b < t.1
    · rw [insS_gt (by omega) h3, joinG, if_neg (by show ¬ t.1 ≤ b; omega), joinG_sp h]
    · rw [insS_mid (by omega) h3, joinG, if_pos (by show t.1 ≤ b; omega)]
      show joinG (a, max b t.2.1, ()) l = _
      rw [show min a t.1 = a by omega]
      refine joinG_ins (by omega) h.tail fun u hu => ?_
      have := h.all u hu
      omega
theorem joinT_ins : ∀ {p q : List DSpan} {a b : Int}, a ≤ b → SpL (p ++ q) → (∀ t ∈ p, t.1 ≤ a) → (∀ t ∈ q, a ≤ t.1) → joinT (p ++ (a, b, ()) :: q) = insS a b (p ++ q)
  | [], q, a, b, hab, h, _, hq => joinG_ins hab h hq
  | s :: p, q, a, b, hab, h, hp, hq => by
    have h1 := hp s (by simp)
    have h2 : s.1 ≤ s.2.1 := h.head
    have hp' : ∀ t ∈ p, t.1 ≤ a := fun t ht => hp t (by simp [ht])
    by_cases h3 : s.2.1 < a
    · rw [List.cons_append, List.cons_append, insS_lt h3, ← joinT_ins hab h.tail hp' hq]
      cases p with
      | nil => show joinG s ((a, b, ()) :: q) = s :: joinG (a, b, ()) q; rw [joinG, if_neg (by show ¬ a ≤ s.2.1; omega)]
      | cons t p =>
        have : s.2.1 < t.1 := SpL.next (l := p ++ q) h
        show joinG s (t :: (p ++ (a, b, ()) :: q)) = s :: joinG t (p ++ (a, b, ()) :: q)
        rw [joinG, if_neg (by omega)]
    · cases p with
      | nil =>
        show joinG s ((a, b, ()) :: q) = insS a b (s :: q)
        rw [joinG, if_pos (by show a ≤ s.2.1; omega), insS_mid h3 (by omega), show min a s.1 = s.1 by omega]
        show joinG (s.1, max s.2.1 b, ()) q = _
        rw [Int.max_comm s.2.1 b]
        refine joinG_ins (by omega) h.tail fun u hu => ?_
        have := SpL.all (l := q) h u hu
        omega
      | cons t p =>
        exfalso
        have q1 : s.2.1 < t.1 := SpL.next (l := p ++ q) h
        have q2 := hp t (by simp)
        omega
theorem joinT_sp {l : List DSpan} (h : SpL l) : joinT l = l := by
  cases l with
  | nil => rfl
  | cons s l => exact joinG_sp h

/-! ### As the model does it -/
def mrgS (a b : Int) : List DSpan → List DSpan × Int × Int
  | [] => ([], a, b)
  | s :: l => if s.2.1 < a ∨ b < s.1 then (s :: (mrgS a b l).1, (mrgS a b l).2) else mrgS (min a s.1) (max b s.2.1) l
def putS (a b : Int) : List DSpan → List DSpan
  | [] => [(a, b, ())]
  | s :: l => if s.1 < a then s :: putS a b l else (a, b, ()) :: s :: l
theorem mrgS_none {a b : Int} : ∀ {l : List DSpan}, (∀ t ∈ l, b < t.1) → mrgS a b l = (l, a, b)
  | [], _ => rfl
  | s :: l, h => by
    have h1 := h s (by simp)
    rw [mrgS, if_pos (Or.inr h1), mrgS_none fun t ht => h t (by simp [ht])]
theorem mrgS_from {e : Int} : ∀ {l : List DSpan} {a b : Int}, e < a → (∀ t ∈ l, e < t.1) → e < (mrgS a b l).2.1
  | [], a, b, h, _ => h
  | s :: l, a, b, h, hl => by
    have h1 := hl s (by simp)
    have h2 : ∀ t ∈ l, e < t.1 := fun t ht => hl t (by simp [ht])
    rw [mrgS]
    split
    · exact mrgS_from h h2
    · exact mrgS_from (by omega) h2
theorem mrgS_to : ∀ {l : List DSpan} {a b : Int}, b ≤ (mrgS a b l).2.2
  | [], a, b => Int.le_refl _
  | s :: l, a, b => by
    rw [mrgS]
    split
    · exact mrgS_to
    · exact Int.le_trans (by omega) (mrgS_to (l := l) (a := min a s.1) (b := max b s.2.1))
theorem putS_ins : ∀ {l : List DSpan} {a b : Int}, a ≤ b → SpL l → putS (mrgS a b l).2.1 (mrgS a b l).2.2 (mrgS a b l).1 = insS a b l
  | [], a, b, _, _ => rfl
  | s :: l, a, b, hab, h => by
    have hs := h.head
    by_cases h1 : s.2.1 < a
    · rw [insS_lt h1, mrgS, if_pos (Or.inl h1)]
      show putS (mrgS a b l).2.1 (mrgS a b l).2.2 (s :: (mrgS a b l).1) = _
      have h2 := mrgS_from (b := b) (e := s.2.1) h1 h.all
      rw [putS, if_pos (by omega), putS_ins hab h.tail]
    · by_cases h2 : b < s.1
      · rw [insS_gt h1 h2, mrgS_none]
        · show putS a b (s :: l) = _
          rw [putS, if_neg (by omega)]
        · intro t ht
          rcases List.mem_cons.1 ht with rfl | ht
          · exact h2
          · have := h.all t ht; omega
      · rw [insS_mid h1 h2, mrgS, if_neg (by omega)]
        exact putS_ins (by omega) h.tail
/-- What is left of the head where a span begins at or below e. -/
theorem insS_head {e : Int} : ∀ {l : List DSpan} {a a' b : Int}, a ≤ e → a' ≤ e → a ≤ b → a' ≤ b → SpL l → (∀ t ∈ l, e < t.1) → ∃ x r, insS a b l = (a, x, ()) :: r ∧ insS a' b l = (a', x, ()) :: r ∧ b ≤ x
  | [], a, a', b, _, _, _, _, _, _ => ⟨b, [], rfl, rfl, Int.le_refl _⟩
  | s :: l, a, a', b, h1, h2, h3, h4, h, hl => by
    have hs := hl s (by simp)
    have hle := h.head
    have hl' : ∀ t ∈ l, e < t.1 := fun t ht => hl t (by simp [ht])
    by_cases h5 : b < s.1
    · exact ⟨b, s :: l, insS_gt (by omega) h5, insS_gt (by omega) h5, Int.le_refl _⟩
    · rw [insS_mid (by omega) h5, insS_mid (by omega) h5, show min a s.1 = a by omega, show min a' s.1 = a' by omega]
      obtain ⟨x, r, q1, q2, q3⟩ := insS_head (b := max b s.2.1) h1 h2 (by omega) (by omega) h.tail hl'
      exact ⟨x, r, q1, q2, by omega⟩
/-- What the model makes of a span among those behind next. -/
def modS (a b next : Int) (l : List DSpan) : List DSpan := if next < (mrgS a b l).2.2 then putS (mrgS a b l).2.1 (mrgS a b l).2.2 (mrgS a b l).1 else (mrgS a b l).1
def modN (next : Int) (l : List DSpan) : Int × List DSpan :=
  match l with
  | [] => (next, [])
  | s :: r => if s.1 ≤ next then (s.2.1, r) else (next, s :: r)
theorem modS_ins {a b next : Int} {l : List DSpan} (ha : 0 ≤ a) (hab : a < b) (hn : 0 ≤ next) (h : SpL ((0, next, ()) :: l)) : ∃ s r, insS a b ((0, next, ()) :: l) = s :: r ∧ s.1 = 0 ∧ modN next (modS a b next l) = (s.2.1, r) := by
  have hl := h.all
  have ht := h.tail
  replace hl : ∀ t ∈ l, next < t.1 := hl
  by_cases h1 : next < a
  · refine ⟨(0, next, ()), insS a b l, insS_lt h1, rfl, ?_⟩
    have h2 := mrgS_to (l := l) (a := a) (b := b)
    unfold modS
    rw [if_pos (by omega), putS_ins (by omega) ht]
    have h3 := insS_from (b := b) (e := next) h1 hl
    cases hi : insS a b l with
    | nil => exact absurd hi (insS_ne l)
    | cons s r =>
      have := h3 s (by rw [hi]; simp)
      unfold modN
      simp only
      rw [if_neg (by omega)]
  · have e1 : insS a b ((0, next, ()) :: l) = insS 0 (max b next) l := by
      rw [insS_mid (by exact h1) (by show ¬ b < 0; omega)]
      show insS (min a 0) (max b next) l = _
      rw [show min a 0 = 0 by omega]
    rw [e1]
    by_cases h2 : b ≤ next
    · rw [show max b next = next by omega]
      refine ⟨(0, next, ()), l, insS_self h, rfl, ?_⟩
      have h3 := mrgS_none (a := a) (b := b) (l := l) fun t ht => by have := hl t ht; omega
      unfold modS
      rw [h3]
      simp only
      rw [if_neg (by omega)]
      unfold modN
      cases l with
      | nil => rfl
      | cons s r =>
        have := hl s (by simp)
        simp only
        rw [if_neg (by omega)]
    · rw [show max b next = b by omega]
      obtain ⟨x, r, q1, q2, q3⟩ := insS_head (e := next) (a := 0) (a' := a) (b := b) hn (by omega) (by omega) (by omega) ht hl
      refine ⟨(0, x, ()), r, q1, rfl, ?_⟩
      have h3 := mrgS_to (l := l) (a := a) (b := b)
      unfold modS
      rw [if_pos (by omega), putS_ins (by omega) ht, q2]
      unfold modN
      simp only
      rw [if_pos (by omega)]

/-! ### Faults and order -/
theorem sps_sp : ∀ {l : List DSpan} {e : Int}, spsF e l = 0 → SpL l ∧ (∀ t ∈ l, e < t.1 ∧ t.1 < t.2.1 ∧ t.2.1 ≤ 1000100)
  | [], e, _ => ⟨trivial, by simp⟩
  | s :: l, e, h => by
    have hs : spF s e = 0 := by
      apply Classical.byContradiction; intro hn
      rw [spsF, if_neg hn] at h
      exact hn h
    rw [spsF, if_pos hs] at h
    obtain ⟨q1, q2⟩ := sps_sp h
    have hp := spF_parts hs
    refine ⟨SpL.cons (by omega) q1 fun t l' e' => (q2 t (by rw [e']; simp)).1, fun t ht => ?_⟩
    rcases List.mem_cons.1 ht with rfl | ht
    · exact hp
    · have := q2 t ht
      omega
theorem sp_sps : ∀ {l : List DSpan} {e : Int}, SpL l → (∀ t ∈ l, e < t.1 ∧ t.1 < t.2.1 ∧ t.2.1 ≤ 1000100) → spsF e l = 0
  | [], e, _, _ => rfl
  | s :: l, e, h, hl => by
    have h1 := hl s (by simp)
    rw [spsF, if_pos (spF_ok (by omega) (by omega))]
    refine sp_sps h.tail fun t ht => ?_
    have h2 := hl t (by simp [ht])
    have h3 := h.all t ht
    omega
/-- All that was seen: what lies below Next, and the spans. -/
def allS (x : DCatch) : List DSpan := (0, x.2.1, ()) :: x.2.2.1
theorem allS_sp {x : DCatch} (h : caF x = 0) : SpL (allS x) := by
  obtain ⟨_, h2, _, h4⟩ := ca_ok h
  obtain ⟨q1, q2⟩ := sps_sp h4
  exact SpL.cons h2.1 q1 fun t l' e => (q2 t (by rw [e]; simp)).1

/-! ### What is taken -/
def aftS (x : DCatch) (at' size : Int) : List DSpan := if 0 < size then insS at' (at' + size) (allS x) else allS x
def tkR (at' size : Int) : Bool := inC at' 0 1000000 && inC size 0 100 && decide (at' + size ≤ 1000000)
def zCat : DCatch := (0, 0, [], ())
def tkC (x : DCatch) (at' size : Int) : Int := if caF x = 0 then (if tkR at' size = true then (if 20 < (aftS x at' size).tail.length then 2 else 0) else 3) else caF x
def tkB (x : DCatch) (at' size : Int) : Bool := if tkC x at' size = 0 then decide (aftS x at' size ≠ allS x) else false
def tkV (x : DCatch) (at' size : Int) : DCatch := if tkC x at' size = 0 then (x.1, ((aftS x at' size).headD (0, 0, ())).2.1, (aftS x at' size).tail, ()) else zCat
theorem tk_f {x : DCatch} {a z : Int} (h : ¬ caF x = 0) : tkC x a z = caF x ∧ tkB x a z = false ∧ tkV x a z = zCat := by
  have e : tkC x a z = caF x := by unfold tkC; rw [if_neg h]
  exact ⟨e, by unfold tkB; rw [e, if_neg h], by unfold tkV; rw [e, if_neg h]⟩
theorem tk_r {x : DCatch} {a z : Int} (h : caF x = 0) (h2 : tkR a z = false) : tkC x a z = 3 ∧ tkB x a z = false ∧ tkV x a z = zCat := by
  have e : tkC x a z = 3 := by unfold tkC; rw [if_pos h, if_neg (by simp [h2])]
  exact ⟨e, by unfold tkB; rw [e, if_neg (by decide)], by unfold tkV; rw [e, if_neg (by decide)]⟩
theorem tk_m {x : DCatch} {a z : Int} (h : caF x = 0) (h2 : tkR a z = true) (h3 : 20 < (aftS x a z).tail.length) : tkC x a z = 2 ∧ tkB x a z = false ∧ tkV x a z = zCat := by
  have e : tkC x a z = 2 := by unfold tkC; rw [if_pos h, if_pos h2, if_pos h3]
  exact ⟨e, by unfold tkB; rw [e, if_neg (by decide)], by unfold tkV; rw [e, if_neg (by decide)]⟩
theorem tk_ok {x : DCatch} {a z : Int} (h : caF x = 0) (h2 : tkR a z = true) (h3 : ¬ 20 < (aftS x a z).tail.length) : tkC x a z = 0 ∧ tkB x a z = decide (aftS x a z ≠ allS x) ∧ tkV x a z = (x.1, ((aftS x a z).headD (0, 0, ())).2.1, (aftS x a z).tail, ()) := by
  have e : tkC x a z = 0 := by unfold tkC; rw [if_pos h, if_pos h2, if_neg h3]
  exact ⟨e, by unfold tkB; rw [e, if_pos rfl], by unfold tkV; rw [e, if_pos rfl]⟩
theorem tkR_yes {a z : Int} (h : tkR a z = true) : 0 ≤ a ∧ a ≤ 1000000 ∧ 0 ≤ z ∧ z ≤ 100 ∧ a + z ≤ 1000000 := by
  unfold tkR at h
  simp only [Bool.and_eq_true, decide_eq_true_eq] at h
  have h1 := inC_yes h.1.1
  have h2 := inC_yes h.1.2
  omega
theorem tk_tot (x : DCatch) (a z : Int) : totCatch (tkV x a z) ≤ 1048576 := by
  unfold tkV
  split
  · rename_i h
    unfold tkC at h
    split at h
    · split at h
      · split at h
        · cases h
        · show (aftS x a z).tail.length ≤ 1048576
          omega
      · cases h
    · rename_i hn; exact absurd h hn
  · simp [zCat, totCatch, totSpans]

/-! ### Other answers -/
def stcC (n : Int) : Int := if inC n 0 65535 = true then 0 else 3
def stcV (n : Int) : DCatch := (if inC n 0 65535 = true then n else 0, 0, [], ())
theorem stc_tot (n : Int) : totCatch (stcV n) ≤ 1048576 := by simp [stcV, totCatch, totSpans]
def plqC (x : DCatch) (q : Int) : Int := if caF x = 0 then unwC (q - x.1) x.2.1 else caF x
def plqV (x : DCatch) (q : Int) : Int := if caF x = 0 then unwV (q - x.1) x.2.1 else 0
theorem ahd_mod {a b c : Int} (h : b % 65536 = c % 65536) : ahd a b = ahd a c := by
  have e : (b - a) % 65536 = (c - a) % 65536 := by omega
  unfold ahd; rw [e]
theorem unw_mod {a b n : Int} (h : a % 65536 = b % 65536) : unwC a n = unwC b n ∧ unwV a n = unwV b n := by
  unfold unwC unwV; rw [ahd_mod h]; exact ⟨rfl, rfl⟩
def ackqV (x : DCatch) : Int := if caF x = 0 then wrp (x.1 + x.2.1) else 0
def sumW : List DSpan → Int
  | [] => 0
  | s :: l => (s.2.1 - s.1) + sumW l
def cauV (x : DCatch) : Int := if caF x = 0 then sumW (allS x) else 0
theorem sumW_at {l : List DSpan} {k : Nat} (hk : k < l.length) : sumW (l.drop k) = (l[k].2.1 - l[k].1) + sumW (l.drop (k + 1)) := by
  rw [List.drop_eq_getElem_cons hk]; rfl
end Go.Proofs.Ytioehciabgdbaaa
