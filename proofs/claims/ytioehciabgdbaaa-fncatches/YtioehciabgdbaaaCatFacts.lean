/- What a catch has seen, counted; what is taken is seen and stays so; no condition. -/
import Derived.Test.YtioehciabgdbaaaRows
import Derived.Test.YtioehciabgdbaaaBase
import Derived.Test.YtioehciabgdbaaaUnwrap
import Derived.Test.YtioehciabgdbaaaNum
import Derived.Test.YtioehciabgdbaaaHSpan
import Derived.Test.YtioehciabgdbaaaHCatch
import Derived.Test.YtioehciabgdbaaaCatDef
namespace Go.Proofs.Ytioehciabgdbaaa
open Go.RowKit
set_option linter.unusedVariables false

def inI (s : DSpan) (k : Int) : Bool := decide (s.1 ≤ k) && decide (k < s.2.1)
def sn : List DSpan → Int → Bool
  | [], _ => false
  | s :: l, k => inI s k || sn l k
def cnt (N : Nat) (l : List DSpan) : Nat := (List.range N).countP fun k : Nat => sn l (k : Int)
theorem sn_iff {k : Int} : ∀ {l : List DSpan}, sn l k = true ↔ seenL k l
  | [] => by simp [sn, seenL]
  | s :: l => by
    have ih := sn_iff (k := k) (l := l)
    unfold sn inI
    simp only [Bool.or_eq_true, Bool.and_eq_true, decide_eq_true_eq, ih]
    unfold seenL
    simp
theorem countP_or {p q : Nat → Bool} : ∀ (L : List Nat), (∀ x ∈ L, p x = true → q x = false) → L.countP (fun x => p x || q x) = L.countP p + L.countP q
  | [], _ => rfl
  | x :: L, h => by
    have ih := countP_or L fun y hy => h y (by simp [hy])
    have hx := h x (by simp)
    rw [List.countP_cons, List.countP_cons, List.countP_cons, ih]
    cases hp : p x <;> cases hq : q x <;> simp [hp, hq] at hx ⊢ <;> omega
theorem countP_le {p q : Nat → Bool} : ∀ (L : List Nat), (∀ x ∈ L, p x = true → q x = true) → L.countP p ≤ L.countP q ∧ (∀ y ∈ L, q y = true → p y = false → L.countP p < L.countP q)
  | [], _ => by simp
  | x :: L, h => by
    obtain ⟨i1, i2⟩ := countP_le L fun y hy => h y (by simp [hy])
    have hx := h x (by simp)
    rw [List.countP_cons, List.countP_cons]
    refine ⟨?_, fun y hy h1 h2 => ?_⟩
    · cases hp : p x <;> cases hq : q x <;> simp [hp, hq] at hx ⊢ <;> omega
    · rcases List.mem_cons.1 hy with rfl | hy
      · rw [h1, h2]; simp; omega
      · have := i2 y hy h1 h2
        cases hp : p x <;> cases hq : q x <;> simp [hp, hq] at hx ⊢ <;> omega
theorem countP_le_or {p q r : Nat → Bool} : ∀ (L : List Nat), (∀ x ∈ L, q x = true → p x = true ∨ r x = true) → L.countP q ≤ L.countP p + L.countP r
  | [], _ => by simp
  | x :: L, h => by
    have ih := countP_le_or L fun y hy => h y (by simp [hy])
    have hx := h x (by simp)
    rw [List.countP_cons, List.countP_cons, List.countP_cons]
    cases hp : p x <;> cases hq : q x <;> cases hr : r x <;> simp [hp, hq, hr] at hx ⊢ <;> omega
theorem cnt_int {a b : Int} (h0 : 0 ≤ a) (hab : a ≤ b) : ∀ N : Nat, (((List.range N).countP fun k : Nat => inI (a, b, ()) (k : Int)) : Int) = min b N - min a N
  | 0 => by simp; omega
  | N + 1 => by
    have ih := cnt_int h0 hab N
    rw [List.range_succ, List.countP_append, List.countP_cons, List.countP_nil]
    have e : inI (a, b, ()) (N : Int) = true ↔ a ≤ (N : Int) ∧ (N : Int) < b := by unfold inI; simp
    by_cases h : inI (a, b, ()) (N : Int) = true
    · have := e.1 h
      rw [if_pos h]; push_cast; omega
    · have h2 : ¬ (a ≤ (N : Int) ∧ (N : Int) < b) := fun q => h (e.2 q)
      rw [if_neg h]; push_cast; omega
theorem cnt_sum (N : Nat) : ∀ {l : List DSpan}, SpL l → (∀ t ∈ l, 0 ≤ t.1 ∧ t.2.1 ≤ (N : Int)) → (cnt N l : Int) = sumW l
  | [], _, _ => by simp [cnt, sn, sumW]
  | s :: l, h, hb => by
    have ih := cnt_sum N h.tail fun t ht => hb t (by simp [ht])
    have hs := h.head
    obtain ⟨b0, b1⟩ := hb s (by simp)
    have e : cnt N (s :: l) = (List.range N).countP (fun k : Nat => inI s (k : Int)) + cnt N l := by
      unfold cnt
      refine countP_or _ fun k _ hk => ?_
      cases hq : sn l (k : Int) with
      | false => rfl
      | true =>
        obtain ⟨t, ht, q1, q2⟩ := sn_iff.1 hq
        have := h.all t ht
        unfold inI at hk
        simp only [Bool.and_eq_true, decide_eq_true_eq] at hk
        omega
    have e2 := cnt_int b0 hs N
    have e3 : (fun k : Nat => inI (s.1, s.2.1, ()) (k : Int)) = fun k : Nat => inI s (k : Int) := rfl
    rw [e3] at e2
    rw [e]
    unfold sumW
    push_cast
    omega
theorem sn_ins {k : Int} : ∀ {l : List DSpan} {a b : Int}, a ≤ b → SpL l → (sn (insS a b l) k = true ↔ sn l k = true ∨ (a ≤ k ∧ k < b))
  | [], a, b, hab, _ => by simp [insS, sn, inI]
  | s :: l, a, b, hab, h => by
    have hs := h.head
    by_cases h1 : s.2.1 < a
    · have ih := sn_ins (k := k) hab h.tail
      rw [insS_lt h1]
      unfold sn
      simp only [Bool.or_eq_true, ih]
      constructor
      · rintro (q | q | q)
        · exact Or.inl (Or.inl q)
        · exact Or.inl (Or.inr q)
        · exact Or.inr q
      · rintro ((q | q) | q)
        · exact Or.inl q
        · exact Or.inr (Or.inl q)
        · exact Or.inr (Or.inr q)
    · by_cases h2 : b < s.1
      · rw [insS_gt h1 h2]
        show (inI (a, b, ()) k || sn (s :: l) k) = true ↔ _
        unfold inI
        simp only [Bool.or_eq_true, Bool.and_eq_true, decide_eq_true_eq]
        exact Or.comm
      · have ih := sn_ins (k := k) (l := l) (a := min a s.1) (b := max b s.2.1) (by omega) h.tail
        rw [insS_mid h1 h2, ih]
        show _ ↔ (inI s k || sn l k) = true ∨ _
        unfold inI
        simp only [Bool.or_eq_true, Bool.and_eq_true, decide_eq_true_eq]
        constructor
        · rintro (q | q)
          · exact Or.inl (Or.inr q)
          · by_cases q3 : s.1 ≤ k ∧ k < s.2.1
            · exact Or.inl (Or.inl q3)
            · exact Or.inr (by omega)
        · rintro ((q | q) | q)
          · exact Or.inr (by omega)
          · exact Or.inl q
          · exact Or.inr (by omega)
theorem insS_strict {a b : Int} (hab : a < b) : ∀ {l : List DSpan}, (∀ t ∈ l, t.1 < t.2.1) → ∀ t ∈ insS a b l, t.1 < t.2.1
  | [], _, t, ht => by simp [insS] at ht; subst ht; exact hab
  | s :: l, hl, t, ht => by
    have hs := hl s (by simp)
    have hl' : ∀ t ∈ l, t.1 < t.2.1 := fun t h => hl t (by simp [h])
    by_cases h1 : s.2.1 < a
    · rw [insS_lt h1] at ht
      rcases List.mem_cons.1 ht with rfl | ht
      · exact hs
      · exact insS_strict hab hl' t ht
    · by_cases h2 : b < s.1
      · rw [insS_gt h1 h2] at ht
        rcases List.mem_cons.1 ht with rfl | ht
        · exact hab
        · exact hl t ht
      · rw [insS_mid h1 h2] at ht
        exact insS_strict (by omega) hl' t ht
/-- What stands behind the first of what is put in ahead of all. -/
theorem ins_split {next : Int} {l : List DSpan} {a b : Int} (h0 : 0 ≤ a) (hab : a < b) (hn : 0 ≤ next) (h : SpL ((0, next, ()) :: l)) (hl : ∀ t ∈ l, t.1 < t.2.1) :
    ∃ n r, insS a b ((0, next, ()) :: l) = (0, n, ()) :: r ∧ next ≤ n ∧ (∀ t ∈ r, t.1 < t.2.1) := by
  by_cases h1 : next < a
  · exact ⟨next, insS a b l, insS_lt h1, Int.le_refl _, insS_strict hab hl⟩
  · have e : insS a b ((0, next, ()) :: l) = insS 0 (max b next) l := by
      rw [insS_mid (by exact h1) (by show ¬ b < 0; omega)]
      show insS (min a 0) (max b next) l = _
      rw [show min a 0 = 0 by omega]
    have hl0 : ∀ t ∈ l, next < t.1 := SpL.all h
    obtain ⟨x, r, q1, -, q3⟩ := insS_head (e := next) (a := 0) (a' := 0) (b := max b next) hn hn (by omega) (by omega) h.tail hl0
    refine ⟨x, r, e.trans q1, by omega, fun t ht => ?_⟩
    exact insS_strict (a := 0) (b := max b next) (by omega) hl t (by rw [q1]; simp [ht])
/-- No span ends behind the last place. -/
def ToB (x : DCatch) : Prop := ∀ t ∈ x.2.2.1, t.2.1 ≤ 1000000
theorem tk_code {x : DCatch} {a z : Int} (h : tkC x a z = 0) : caF x = 0 ∧ tkR a z = true ∧ (aftS x a z).tail.length ≤ 20 := by
  unfold tkC at h
  split at h
  · rename_i h0
    split at h
    · rename_i h1
      split at h
      · cases h
      · exact ⟨h0, h1, by omega⟩
    · cases h
  · contradiction
/-- What is taken. -/
theorem tk_all {x : DCatch} {a z : Int} (h : tkC x a z = 0) (hT : ToB x) : allS (tkV x a z) = aftS x a z ∧ (tkV x a z).1 = x.1 ∧ x.2.1 ≤ (tkV x a z).2.1 ∧ caF (tkV x a z) = 0 ∧ ToB (tkV x a z) := by
  obtain ⟨h0, h1, h2⟩ := tk_code h
  obtain ⟨g1, g2, g3, g4⟩ := ca_ok h0
  obtain ⟨s1, s2⟩ := sps_sp g4
  obtain ⟨r1, r2, r3, r4, r5⟩ := tkR_yes h1
  have hsp := allS_sp h0
  have hv := (tk_ok h0 h1 (by omega)).2.2
  by_cases hz : 0 < z
  · have ea : aftS x a z = insS a (a + z) (allS x) := if_pos hz
    obtain ⟨n, r, e1, e2, e3⟩ := ins_split (next := x.2.1) (l := x.2.2.1) (a := a) (b := a + z) r1 (by omega) g2.1 hsp (fun t ht => (s2 t ht).2.1)
    have ea2 : aftS x a z = (0, n, ()) :: r := ea.trans e1
    have hq : ∀ t ∈ insS a (a + z) (allS x), t.2.1 ≤ 1000000 := insS_to (by omega) fun t ht => by
      rcases List.mem_cons.1 ht with rfl | ht
      · exact g2.2
      · exact hT t ht
    have hs3 : SpL ((0, n, ()) :: r) := by rw [← ea2, ea]; exact insS_sp (by omega) hsp
    have hn1 : n ≤ 1000000 := hq (0, n, ()) (by rw [← ea, ea2]; simp)
    have hr1 : ∀ t ∈ r, t.2.1 ≤ 1000000 := fun t ht => hq t (by rw [← ea, ea2]; simp [ht])
    have ev : tkV x a z = (x.1, n, r, ()) := by rw [hv, ea2]; rfl
    rw [ev, ea2]
    rw [ea2] at h2
    refine ⟨rfl, rfl, e2, ?_, hr1⟩
    have hh : caHead (x.1, n, r, ()) = true := by
      show (inC x.1 0 65535 && inC n 0 1000000) = true
      rw [inC_mk g1.1 g1.2, inC_mk (by omega) hn1]; rfl
    rw [caF_sps hh (by show ¬ 20 < r.length; simpa using h2)]
    exact sp_sps hs3.tail fun t ht => ⟨SpL.all hs3 t ht, e3 t ht, by have := hr1 t ht; omega⟩
  · have ea : aftS x a z = allS x := if_neg hz
    have ev : tkV x a z = x := by rw [hv, ea]; rfl
    rw [ev, ea]
    exact ⟨rfl, rfl, Int.le_refl _, h0, hT⟩
/-- What was seen stays seen, and no more than was taken is new. -/
theorem tk_sum {x : DCatch} {a z : Int} (h : tkC x a z = 0) (hT : ToB x) : cauV x ≤ cauV (tkV x a z) ∧ cauV (tkV x a z) ≤ cauV x + z ∧ tkB x a z = decide (cauV x < cauV (tkV x a z)) ∧ 0 ≤ cauV x ∧ cauV x ≤ 1000000 := by
  obtain ⟨h0, h1, h2⟩ := tk_code h
  obtain ⟨g1, g2, g3, g4⟩ := ca_ok h0
  obtain ⟨s1, s2⟩ := sps_sp g4
  obtain ⟨r1, r2, r3, r4, r5⟩ := tkR_yes h1
  obtain ⟨t1, t2, t3, t4, t5⟩ := tk_all h hT
  have hsp := allS_sp h0
  have hb := (tk_ok h0 h1 (by omega)).2.1
  obtain ⟨N, hN⟩ : ∃ N : Nat, (N : Int) = 1000000 := ⟨1000000, by omega⟩
  have bd : ∀ t ∈ allS x, 0 ≤ t.1 ∧ t.2.1 ≤ (N : Int) := fun t ht => by
    rcases List.mem_cons.1 ht with rfl | ht
    · exact ⟨Int.le_refl _, by show x.2.1 ≤ _; omega⟩
    · have := s2 t ht; have := hT t ht; omega
  have ex : cauV x = (cnt N (allS x) : Int) := by unfold cauV; rw [if_pos h0, cnt_sum N hsp bd]
  have hspy := allS_sp t4
  have bdy : ∀ t ∈ allS (tkV x a z), 0 ≤ t.1 ∧ t.2.1 ≤ (N : Int) := fun t ht => by
    obtain ⟨k1, k2, k3, k4⟩ := ca_ok t4
    rcases List.mem_cons.1 ht with rfl | ht
    · exact ⟨Int.le_refl _, by show (tkV x a z).2.1 ≤ _; omega⟩
    · have := (sps_sp k4).2 t ht; have := t5 t ht; omega
  have ey : cauV (tkV x a z) = (cnt N (allS (tkV x a z)) : Int) := by unfold cauV; rw [if_pos t4, cnt_sum N hspy bdy]
  have hle : cauV x ≤ 1000000 := by
    rw [ex]
    have : cnt N (allS x) ≤ (List.range N).length := List.countP_le_length
    rw [List.length_range] at this
    omega
  by_cases hz : 0 < z
  · have ea : allS (tkV x a z) = insS a (a + z) (allS x) := t1.trans (if_pos hz)
    have key : ∀ k : Int, sn (allS (tkV x a z)) k = true ↔ sn (allS x) k = true ∨ (a ≤ k ∧ k < a + z) := fun k => by rw [ea]; exact sn_ins (by omega) hsp
    obtain ⟨m1, m2⟩ := countP_le (p := fun k : Nat => sn (allS x) (k : Int)) (q := fun k : Nat => sn (allS (tkV x a z)) (k : Int)) (List.range N) fun k _ hk => (key _).2 (Or.inl hk)
    have m3 := countP_le_or (p := fun k : Nat => sn (allS x) (k : Int)) (q := fun k : Nat => sn (allS (tkV x a z)) (k : Int)) (r := fun k : Nat => inI (a, a + z, ()) (k : Int)) (List.range N) fun k _ hk => by
      rcases (key _).1 hk with q | q
      · exact Or.inl q
      · right; unfold inI; simp only [Bool.and_eq_true, decide_eq_true_eq]; exact q
    have m4 := cnt_int (a := a) (b := a + z) r1 (by omega) N
    have hc1 : cnt N (allS x) ≤ cnt N (allS (tkV x a z)) := m1
    have hc2 : cnt N (allS (tkV x a z)) ≤ cnt N (allS x) + (List.range N).countP fun k : Nat => inI (a, a + z, ()) (k : Int) := m3
    refine ⟨by rw [ex, ey]; omega, by rw [ex, ey]; omega, ?_, by rw [ex]; omega, hle⟩
    rw [hb, ← t1]
    apply Bool.eq_iff_iff.2
    simp only [decide_eq_true_eq]
    constructor
    · intro hne
      rw [ea] at hne
      obtain ⟨k, k1, k2, k3⟩ := (fresh_iff (by omega) hsp).1 hne
      obtain ⟨kn, rfl⟩ : ∃ kn : Nat, (kn : Int) = k := ⟨k.toNat, by omega⟩
      have := m2 kn (List.mem_range.2 (by omega)) ((key _).2 (Or.inr ⟨k1, k2⟩)) (by
        cases hq : sn (allS x) (kn : Int) with
        | false => rfl
        | true => exact absurd (sn_iff.1 hq) k3)
      have hc3 : cnt N (allS x) < cnt N (allS (tkV x a z)) := this
      rw [ex, ey]; omega
    · intro hlt e
      rw [ex, ey, e] at hlt
      omega
  · have ea : allS (tkV x a z) = allS x := t1.trans (if_neg hz)
    have e2 : cauV (tkV x a z) = cauV x := by rw [ex, ey, ea]
    refine ⟨by omega, by omega, ?_, by rw [ex]; omega, hle⟩
    rw [hb, ← t1, ea, e2]
    simp
/-- What is taken again is not fresh, and what follows next is its own place. -/
theorem tk_again {x : DCatch} {a z : Int} (h : tkC x a z = 0) (hT : ToB x) : tkC (tkV x a z) a z = 0 ∧ tkB (tkV x a z) a z = false := by
  obtain ⟨h0, h1, h2⟩ := tk_code h
  obtain ⟨r1, r2, r3, r4, r5⟩ := tkR_yes h1
  obtain ⟨t1, t2, t3, t4, t5⟩ := tk_all h hT
  have hsp := allS_sp h0
  have e : aftS (tkV x a z) a z = allS (tkV x a z) := by
    by_cases hz : 0 < z
    · have ea : aftS x a z = insS a (a + z) (allS x) := if_pos hz
      show (if 0 < z then insS a (a + z) (allS (tkV x a z)) else _) = _
      rw [if_pos hz, t1, ea]
      exact insS_twice (by omega) hsp
    · exact if_neg hz
  have hl : ¬ 20 < (aftS (tkV x a z) a z).tail.length := by rw [e, t1]; omega
  obtain ⟨q1, q2, -⟩ := tk_ok t4 h1 hl
  exact ⟨q1, by rw [q2, e]; simp⟩
theorem plq_next {y : DCatch} (h : caF y = 0) : plqC y (ackqV y) = 0 ∧ plqV y (ackqV y) = y.2.1 := by
  obtain ⟨⟨g1, g2⟩, ⟨g3, g4⟩, -⟩ := ca_ok h
  have e : ackqV y = wrp (y.1 + y.2.1) := if_pos h
  have hz : ahd y.2.1 (ackqV y - y.1) = 0 := by
    rw [e]; unfold ahd wrp
    have e2 : ((y.1 + y.2.1) % 65536 - y.1 - y.2.1) % 65536 = 0 := by omega
    rw [e2]; rfl
  refine ⟨?_, ?_⟩
  · unfold plqC; rw [if_pos h]; unfold unwC; rw [if_neg (by omega), hz, if_neg (by omega)]
  · unfold plqV; rw [if_pos h]; unfold unwV; rw [if_neg (by omega), hz, if_neg (by omega)]; omega
end Go.Proofs.Ytioehciabgdbaaa
