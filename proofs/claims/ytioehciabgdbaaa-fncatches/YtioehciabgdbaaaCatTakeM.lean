/- What the model makes of spans that are taken, as functions on data, and that it is what is told of the program; no condition. -/
import Derived.Test.YtioehciabgdbaaaBase
import Derived.Test.YtioehciabgdbaaaHSpan
import Derived.Test.YtioehciabgdbaaaHCatch
import Derived.Test.YtioehciabgdbaaaCatDef
import Derived.Test.YtioehciabgdbaaaCatCount
import Derived.Test.YtioehciabgdbaaaCatTake
import Derived.Test.YtioehciabgdbaaaCatTake2
import Derived.Test.YtioehciabgdbaaaCatTakeS
namespace Go.Proofs.Ytioehciabgdbaaa
open Go.RowKit
set_option linter.unusedVariables false

/-- Is a place among the m from a on not seen? -/
def unsN (next : Int) (l : List DSpan) (a : Int) : Nat → Bool
  | 0 => false
  | m + 1 => unsN next l a m || !seenB next l (a + m)
theorem unsN_iff {next : Int} {l : List DSpan} {a : Int} : ∀ (m : Nat), unsN next l a m = true ↔ ∃ k, a ≤ k ∧ k < a + m ∧ seenB next l k = false
  | 0 => by
    constructor
    · intro h; cases h
    · rintro ⟨k, h1, h2, _⟩; simp at h2; omega
  | m + 1 => by
    rw [unsN, Bool.or_eq_true, unsN_iff m]
    constructor
    · rintro (⟨k, h1, h2, h3⟩ | h)
      · exact ⟨k, h1, by push_cast; omega, h3⟩
      · exact ⟨a + m, by omega, by push_cast; omega, by simpa using h⟩
    · rintro ⟨k, h1, h2, h3⟩
      push_cast at h2
      by_cases hk : k < a + m
      · exact Or.inl ⟨k, h1, hk, h3⟩
      · have : k = a + m := by omega
        subst this
        right; simp [h3]
theorem seenB_iff {next k : Int} {l : List DSpan} (hk : 0 ≤ k) : seenB next l k = true ↔ seenL k ((0, next, ()) :: l) := by
  unfold seenB seenL
  rw [Bool.or_eq_true, List.any_eq_true]
  constructor
  · rintro (h | ⟨s, hs, h⟩)
    · exact ⟨(0, next, ()), by simp, hk, by simpa using h⟩
    · have := inC_yes h
      exact ⟨s, by simp [hs], by omega, by omega⟩
  · rintro ⟨s, hs, h1, h2⟩
    rcases List.mem_cons.1 hs with rfl | hs
    · left; simpa using h2
    · exact Or.inr ⟨s, hs, inC_mk h1 (by omega)⟩
theorem fresh_uns {x : DCatch} {a z : Int} (hF : caF x = 0) (hR : tkR a z = true) : unsN x.2.1 x.2.2.1 a z.toNat = decide (aftS x a z ≠ allS x) := by
  obtain ⟨p0, p1, p2, p3, p4⟩ := tkR_yes hR
  rw [Bool.eq_iff_iff, unsN_iff, decide_eq_true_eq]
  unfold aftS
  by_cases hz : 0 < z
  · rw [if_pos hz, fresh_iff (by omega) (allS_sp hF)]
    constructor
    · rintro ⟨k, h1, h2, h3⟩
      exact ⟨k, h1, by omega, fun h => by rw [(seenB_iff (by omega)).2 h] at h3; cases h3⟩
    · rintro ⟨k, h1, h2, h3⟩
      refine ⟨k, h1, by omega, ?_⟩
      cases hb : seenB x.2.1 x.2.2.1 k with
      | false => rfl
      | true => exact absurd ((seenB_iff (by omega)).1 hb) h3
  · rw [if_neg hz]
    constructor
    · rintro ⟨k, h1, h2, _⟩; omega
    · intro h; exact absurd rfl h
def mrgZ (zz : Bool) (a b : Int) : List DSpan → List DSpan × Int × Int
  | [] => ([], a, b)
  | s :: l => if zz = true ∨ s.2.1 < a ∨ b < s.1 then (s :: (mrgZ zz a b l).1, (mrgZ zz a b l).2) else mrgZ zz (min a s.1) (max b s.2.1) l
theorem mrgZ_f : ∀ (l : List DSpan) (a b : Int), mrgZ false a b l = mrgS a b l
  | [], a, b => rfl
  | s :: l, a, b => by
    rw [mrgZ, mrgS, mrgZ_f l, mrgZ_f l]
    simp
theorem mrgZ_t : ∀ (l : List DSpan) (a b : Int), mrgZ true a b l = (l, a, b)
  | [], a, b => rfl
  | s :: l, a, b => by rw [mrgZ, if_pos (Or.inl rfl), mrgZ_t l]
/-- The kept ones, and the span so far: what is left to do leads to what is made of all. -/
def MR (zz : Bool) (a b : Int) (l : List DSpan) (k : Nat) (K : List DSpan) (sa sb : Int) : Prop := (K ++ (mrgZ zz sa sb (l.drop k)).1, (mrgZ zz sa sb (l.drop k)).2) = mrgZ zz a b l
theorem MR.start {zz : Bool} {a b : Int} {l : List DSpan} : MR zz a b l 0 [] a b := by unfold MR; simp
theorem MR.keep {zz : Bool} {a b sa sb : Int} {l K : List DSpan} {k : Nat} (hk : k < l.length) (h : MR zz a b l k K sa sb) (hc : zz = true ∨ l[k].2.1 < sa ∨ sb < l[k].1) : MR zz a b l (k + 1) (K ++ [l[k]]) sa sb := by
  unfold MR at *
  rw [List.drop_eq_getElem_cons hk, mrgZ, if_pos hc] at h
  rw [List.append_assoc]
  exact h
theorem MR.join {zz : Bool} {a b sa sb : Int} {l K : List DSpan} {k : Nat} (hk : k < l.length) (h : MR zz a b l k K sa sb) (hc : ¬ (zz = true ∨ l[k].2.1 < sa ∨ sb < l[k].1)) : MR zz a b l (k + 1) K (min sa l[k].1) (max sb l[k].2.1) := by
  unfold MR at *
  rw [List.drop_eq_getElem_cons hk, mrgZ, if_neg hc] at h
  exact h
theorem MR.end_ {zz : Bool} {a b sa sb : Int} {l K : List DSpan} (h : MR zz a b l l.length K sa sb) : mrgZ zz a b l = (K, sa, sb) := by
  unfold MR at h
  rw [List.drop_length] at h
  simpa [mrgZ] using h.symm
theorem putS_split {a b : Int} : ∀ {K : List DSpan} {j : Nat}, j ≤ K.length → (∀ i (h : i < K.length), i < j → K[i].1 < a) → (∀ (h : j < K.length), ¬ K[j].1 < a) → putS a b K = (K.take j ++ [(a, b, ())]) ++ K.drop j
  | [], j, hj, _, _ => by
    have : j = 0 := by simpa using hj
    subst this; rfl
  | s :: K, 0, _, _, h2 => by
    have := h2 (by simp)
    rw [putS, if_neg (by simpa using this)]; rfl
  | s :: K, j + 1, hj, h1, h2 => by
    have h0 := h1 0 (by simp) (by omega)
    rw [putS, if_pos (by simpa using h0), putS_split (K := K) (j := j) (by simpa using hj) (fun i h hi => by have := h1 (i + 1) (by simpa using h) (by omega); simpa using this) (fun h => by have := h2 (by simpa using h); simpa using this)]
    rfl
/-- The list that the model has ahead of its last step. -/
def mdT (next : Int) (l : List DSpan) (a z : Int) : List DSpan := if 0 < z ∧ next < (mrgZ (z == 0) a (a + z) l).2.2 then putS (mrgZ (z == 0) a (a + z) l).2.1 (mrgZ (z == 0) a (a + z) l).2.2 (mrgZ (z == 0) a (a + z) l).1 else (mrgZ (z == 0) a (a + z) l).1
theorem mdT_is {x : DCatch} {a z : Int} (hF : caF x = 0) (hR : tkR a z = true) : ∃ f r, aftS x a z = f :: r ∧ modN x.2.1 (mdT x.2.1 x.2.2.1 a z) = (f.2.1, r) := by
  obtain ⟨p0, p1, p2, p3, p4⟩ := tkR_yes hR
  have hb := (ca_ok hF).2.1
  by_cases hz : 0 < z
  · have hz0 : (z == 0) = false := by simp; omega
    obtain ⟨s, r, h1, h2, h3⟩ := modS_ins (a := a) (b := a + z) (next := x.2.1) (l := x.2.2.1) p0 (by omega) hb.1 (allS_sp hF)
    refine ⟨s, r, by unfold aftS; rw [if_pos hz]; exact h1, ?_⟩
    rw [← h3]
    unfold mdT modS
    rw [hz0, mrgZ_f]
    simp [hz]
  · have hz0 : z = 0 := by omega
    subst hz0
    refine ⟨(0, x.2.1, ()), x.2.2.1, by unfold aftS; rw [if_neg hz]; rfl, ?_⟩
    have e : mdT x.2.1 x.2.2.1 a 0 = x.2.2.1 := by unfold mdT; simp [mrgZ_t]
    rw [e]
    have := (allS_sp hF).all
    unfold modN
    cases hl : x.2.2.1 with
    | nil => rfl
    | cons s r =>
      have h := this s (by rw [hl]; simp)
      replace h : x.2.1 < s.1 := h
      simp only
      rw [if_neg (by omega)]
theorem mdT_len {next : Int} {l : List DSpan} {a z : Int} : (mdT next l a z).length ≤ l.length + 1 := by
  have h1 : ∀ (l : List DSpan) (zz : Bool) (a b : Int), (mrgZ zz a b l).1.length ≤ l.length := by
    intro l
    induction l with
    | nil => intro zz a b; simp [mrgZ]
    | cons s l ih =>
      intro zz a b
      rw [mrgZ]
      split
      · have := ih zz a b; simp; omega
      · have := ih zz (min a s.1) (max b s.2.1); simp; omega
  have h2 : ∀ (l : List DSpan) (a b : Int), (putS a b l).length = l.length + 1 := by
    intro l
    induction l with
    | nil => intro a b; simp [putS]
    | cons s l ih => intro a b; rw [putS]; split <;> simp [ih]
  unfold mdT
  split
  · rw [h2]; have := h1 l (z == 0) a (a + z); omega
  · have := h1 l (z == 0) a (a + z); omega
end Go.Proofs.Ytioehciabgdbaaa
