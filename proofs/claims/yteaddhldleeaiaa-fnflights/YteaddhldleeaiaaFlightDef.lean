/- Plain facts on senders and flights: what their faults are, as functions on data; no condition. -/
import Derived.Test.YteaddhldleeaiaaBase
import Derived.Test.YteaddhldleeaiaaMem
import Derived.Test.YteaddhldleeaiaaHBase
import Derived.Test.YteaddhldleeaiaaHFlight
import Derived.Test.YteaddhldleeaiaaHSender
import Derived.Test.YteaddhldleeaiaaNum
namespace Go.Proofs.Yteaddhldleeaiaa
open Go.RowKit
set_option linter.unusedVariables false

/-- v is lo to hi. -/
def inD (v lo hi : Int) : Bool := decide (lo ≤ v) && decide (v ≤ hi)
theorem inD_yes {v lo hi : Int} (h : inD v lo hi = true) : lo ≤ v ∧ v ≤ hi := by unfold inD at h; simpa using h
theorem inD_mk {v lo hi : Int} (h1 : lo ≤ v) (h2 : v ≤ hi) : inD v lo hi = true := by unfold inD; simp [h1, h2]
/-- n bytes lie at place a of the stream. -/
def plcD (a : Int) (n : Nat) : Bool := inD a 0 400 && decide (a + n ≤ 400)
def lodD (n : Nat) : Bool := decide (1 ≤ n) && decide (n ≤ 8)
theorem lodD_yes {n : Nat} (h : lodD n = true) : 1 ≤ n ∧ n ≤ 8 := by unfold lodD at h; simpa using h

/-- The fault of one flight that must be at e. -/
def flFault (x : DFlight) (e : Int) : Int :=
  if (plcD x.2.1 x.2.2.1.length && inD x.2.2.2.1 0 1000000 && inD x.2.2.2.2.1 1 1000) = false then 3 else if (lodD x.2.2.1.length && decide (x.1 = e)) = false then 1 else 0
/-- The fault of the flights from e on, up to next. -/
def flsFault (next : Int) : Int → List DFlight → Int
  | e, [] => if e = next then 0 else 1
  | e, x :: l => if flFault x e = 0 then flsFault next (e + x.2.2.1.length) l else flFault x e
def sndHead (x : DSender) : Bool := inD x.1 0 65535 && inD x.2.1 0 1000000 && inD x.2.2.1 0 x.2.1
def sndFault (x : DSender) : Int := if sndHead x = false then 3 else if 12 < x.2.2.2.1.length then 2 else flsFault x.2.1 x.2.2.1 x.2.2.2.1

theorem flsFault_at {l : List DFlight} {k : Nat} (next e : Int) (hk : k < l.length) : flsFault next e (l.drop k) = if flFault l[k] e = 0 then flsFault next (e + l[k].2.2.1.length) (l.drop (k + 1)) else flFault l[k] e := by
  rw [List.drop_eq_getElem_cons hk]; rfl
theorem flsFault_end {l : List DFlight} (next e : Int) : flsFault next e (l.drop l.length) = if e = next then 0 else 1 := by rw [List.drop_length]; rfl
theorem sndFault_head {x : DSender} (h : sndHead x = false) : sndFault x = 3 := by unfold sndFault; rw [if_pos h]
theorem sndFault_many {x : DSender} (h : sndHead x = true) (h2 : 12 < x.2.2.2.1.length) : sndFault x = 2 := by unfold sndFault; rw [if_neg (by simp [h]), if_pos h2]
theorem sndFault_fls {x : DSender} (h : sndHead x = true) (h2 : ¬ 12 < x.2.2.2.1.length) : sndFault x = flsFault x.2.1 x.2.2.1 x.2.2.2.1 := by unfold sndFault; rw [if_neg (by simp [h]), if_neg h2]
theorem flF_r {x : DFlight} {e : Int} (h : (plcD x.2.1 x.2.2.1.length && inD x.2.2.2.1 0 1000000 && inD x.2.2.2.2.1 1 1000) = false) : flFault x e = 3 := by unfold flFault; rw [if_pos h]
theorem flF_f {x : DFlight} {e : Int} (h : (plcD x.2.1 x.2.2.1.length && inD x.2.2.2.1 0 1000000 && inD x.2.2.2.2.1 1 1000) = true) (h2 : (lodD x.2.2.1.length && decide (x.1 = e)) = false) : flFault x e = 1 := by unfold flFault; rw [if_neg (by simp [h]), if_pos h2]
theorem flF_ok {x : DFlight} {e : Int} (h : (plcD x.2.1 x.2.2.1.length && inD x.2.2.2.1 0 1000000 && inD x.2.2.2.2.1 1 1000) = true) (h2 : (lodD x.2.2.1.length && decide (x.1 = e)) = true) : flFault x e = 0 := by unfold flFault; rw [if_neg (by simp [h]), if_neg (by simp [h2])]
def onwV (x : DSender) : Int := if sndFault x = 0 then x.2.1 - x.2.2.1 else 0
def seqC (x : DSender) (at' : Int) : Int := if sndFault x = 0 then (if inD at' 0 1000000 = true then 0 else 3) else sndFault x
def seqV (x : DSender) (at' : Int) : Int := if sndFault x = 0 then (if inD at' 0 1000000 = true then wrp (x.1 + at') else 0) else 0
theorem snd_ok {x : DSender} (h : sndFault x = 0) : inD x.1 0 65535 = true ∧ inD x.2.1 0 1000000 = true ∧ inD x.2.2.1 0 x.2.1 = true ∧ x.2.2.2.1.length ≤ 12 := by
  unfold sndFault at h
  split at h
  · omega
  · rename_i hh
    split at h
    · omega
    · have : sndHead x = true := by simpa using hh
      unfold sndHead at this
      simp only [Bool.and_eq_true] at this
      exact ⟨this.1.1, this.1.2, this.2, by omega⟩
def staSC (n : Int) : Int := if inD n 0 65535 = true then 0 else 3
def staSV (n : Int) : DSender := (if inD n 0 65535 = true then n else 0, 0, 0, [], ())
theorem staS_tot (n : Int) : totSender (staSV n) ≤ 1048576 := by simp [staSV, totSender, totFlights, fsum]
def zSnd : DSender := (0, 0, 0, [], ())
def pshR (x : DSender) (data : Int) (n : Nat) (now : Int) : Bool := plcD data n && inD now 0 1000000 && decide (x.2.1 + n ≤ 1000000)
def pshC (x : DSender) (data : Int) (ld : List Int) (now : Int) : Int :=
  if sndFault x = 0 then (if lodD ld.length = true then (if pshR x data ld.length now = true then (if 12 ≤ x.2.2.2.1.length then 2 else 0) else 3) else 1) else sndFault x
def pshV (x : DSender) (data : Int) (ld : List Int) (now : Int) : DSender :=
  if pshC x data ld now = 0 then (x.1, x.2.1 + ld.length, x.2.2.1, x.2.2.2.1 ++ [(x.2.1, data, ld, now, 1, ())], ()) else zSnd
theorem psh_f {x : DSender} {data : Int} {ld : List Int} {now : Int} (h : ¬ sndFault x = 0) : pshC x data ld now = sndFault x ∧ pshV x data ld now = zSnd := by
  have e : pshC x data ld now = sndFault x := by unfold pshC; rw [if_neg h]
  exact ⟨e, by unfold pshV; rw [e, if_neg h]⟩
theorem psh_l {x : DSender} {data : Int} {ld : List Int} {now : Int} (h : sndFault x = 0) (h2 : lodD ld.length = false) : pshC x data ld now = 1 ∧ pshV x data ld now = zSnd := by
  have e : pshC x data ld now = 1 := by unfold pshC; rw [if_pos h, if_neg (by simp [h2])]
  exact ⟨e, by unfold pshV; rw [e, if_neg (by decide)]⟩
theorem psh_r {x : DSender} {data : Int} {ld : List Int} {now : Int} (h : sndFault x = 0) (h2 : lodD ld.length = true) (h3 : pshR x data ld.length now = false) : pshC x data ld now = 3 ∧ pshV x data ld now = zSnd := by
  have e : pshC x data ld now = 3 := by unfold pshC; rw [if_pos h, if_pos h2, if_neg (by simp [h3])]
  exact ⟨e, by unfold pshV; rw [e, if_neg (by decide)]⟩
theorem psh_m {x : DSender} {data : Int} {ld : List Int} {now : Int} (h : sndFault x = 0) (h2 : lodD ld.length = true) (h3 : pshR x data ld.length now = true) (h4 : 12 ≤ x.2.2.2.1.length) : pshC x data ld now = 2 ∧ pshV x data ld now = zSnd := by
  have e : pshC x data ld now = 2 := by unfold pshC; rw [if_pos h, if_pos h2, if_pos h3, if_pos h4]
  exact ⟨e, by unfold pshV; rw [e, if_neg (by decide)]⟩
theorem psh_ok {x : DSender} {data : Int} {ld : List Int} {now : Int} (h : sndFault x = 0) (h2 : lodD ld.length = true) (h3 : pshR x data ld.length now = true) (h4 : ¬ 12 ≤ x.2.2.2.1.length) : pshC x data ld now = 0 ∧ pshV x data ld now = (x.1, x.2.1 + ld.length, x.2.2.1, x.2.2.2.1 ++ [(x.2.1, data, ld, now, 1, ())], ()) := by
  have e : pshC x data ld now = 0 := by unfold pshC; rw [if_pos h, if_pos h2, if_pos h3, if_neg h4]
  exact ⟨e, by unfold pshV; rw [e, if_pos rfl]⟩
theorem fls_tot (next : Int) : ∀ (l : List DFlight) (e : Int), flsFault next e l = 0 → fsum totFlight l ≤ 8 * l.length
  | [], _, _ => by simp [fsum]
  | x :: l, e, h => by
    have h1 : flFault x e = 0 := by
      apply Classical.byContradiction; intro hn
      have : flsFault next e (x :: l) = flFault x e := by show (if _ then _ else _) = _; rw [if_neg hn]
      omega
    have h2 : flsFault next (e + x.2.2.1.length) l = 0 := by
      have : flsFault next e (x :: l) = flsFault next (e + x.2.2.1.length) l := by show (if _ then _ else _) = _; rw [if_pos h1]
      omega
    have ih := fls_tot next l _ h2
    have h3 : x.2.2.1.length ≤ 8 := by
      unfold flFault at h1
      split at h1
      · omega
      · split at h1
        · omega
        · rename_i hh
          simp only [Bool.not_eq_false, Bool.and_eq_true] at hh
          exact (lodD_yes hh.1).2
    have e2 : fsum totFlight (x :: l) = totFlight x + fsum totFlight l := by simp [fsum]
    rw [e2, List.length_cons]
    have e3 : totFlight x = x.2.2.1.length := rfl
    omega
theorem snd_tot {x : DSender} (h : sndFault x = 0) : totSender x ≤ 108 := by
  have hl := (snd_ok h).2.2.2
  have hh : sndHead x = true := by
    apply Classical.byContradiction; intro hn
    have := sndFault_head (x := x) (by simpa using hn); omega
  rw [sndFault_fls hh (by omega)] at h
  have := fls_tot _ _ _ h
  show x.2.2.2.1.length + fsum totFlight x.2.2.2.1 ≤ 108
  omega
theorem psh_tot (x : DSender) (data : Int) (ld : List Int) (now : Int) : totSender (pshV x data ld now) ≤ 1048576 := by
  unfold pshV
  split
  · rename_i h
    unfold pshC at h
    split at h
    · rename_i h0
      split at h
      · rename_i h2
        have h8 := (lodD_yes h2).2
        have ht := snd_tot h0
        show (x.2.2.2.1 ++ [(x.2.1, data, ld, now, 1, ())]).length + fsum totFlight (x.2.2.2.1 ++ [(x.2.1, data, ld, now, 1, ())]) ≤ 1048576
        have e : fsum totFlight (x.2.2.2.1 ++ [(x.2.1, data, ld, now, 1, ())]) = fsum totFlight x.2.2.2.1 + ld.length := by unfold fsum; rw [List.map_append, List.sum_append]; simp [totFlight]
        rw [e, List.length_append]
        replace ht : x.2.2.2.1.length + fsum totFlight x.2.2.2.1 ≤ 108 := ht
        simp; omega
      · omega
    · contradiction
  · simp [zSnd, totSender, totFlights, fsum]
theorem flF_parts {x : DFlight} {e : Int} (h : flFault x e = 0) : plcD x.2.1 x.2.2.1.length = true ∧ inD x.2.2.2.1 0 1000000 = true ∧ inD x.2.2.2.2.1 1 1000 = true ∧ lodD x.2.2.1.length = true ∧ x.1 = e := by
  unfold flFault at h
  split at h
  · omega
  · rename_i h1
    split at h
    · omega
    · rename_i h2
      simp only [Bool.not_eq_false, Bool.and_eq_true, decide_eq_true_eq] at h1 h2
      exact ⟨h1.1.1, h1.1.2, h1.2, h2.1, h2.2⟩
theorem fls_all (next : Int) : ∀ (l : List DFlight) (e : Int), flsFault next e l = 0 → ∀ x ∈ l, ∃ e', flFault x e' = 0
  | [], _, _ => by simp
  | x :: l, e, h => by
    have h1 : flFault x e = 0 := by
      apply Classical.byContradiction; intro hn
      have : flsFault next e (x :: l) = flFault x e := by show (if _ then _ else _) = _; rw [if_neg hn]
      omega
    have h2 : flsFault next (e + x.2.2.1.length) l = 0 := by
      have : flsFault next e (x :: l) = flsFault next (e + x.2.2.1.length) l := by show (if _ then _ else _) = _; rw [if_pos h1]
      omega
    intro y hy
    rcases List.mem_cons.1 hy with rfl | hy
    · exact ⟨e, h1⟩
    · exact fls_all next l _ h2 y hy
theorem snd_fls {x : DSender} (h : sndFault x = 0) : flsFault x.2.1 x.2.2.1 x.2.2.2.1 = 0 := by
  have hl := (snd_ok h).2.2.2
  have hh : sndHead x = true := by
    apply Classical.byContradiction; intro hn
    have := sndFault_head (x := x) (by simpa using hn); omega
  rw [sndFault_fls hh (by omega)] at h
  exact h
theorem fls_sent {x : DSender} (h : sndFault x = 0) : ∀ k (hk : k < x.2.2.2.1.length), 0 ≤ x.2.2.2.1[k].2.2.2.1 ∧ x.2.2.2.1[k].2.2.2.1 ≤ 1000000 := fun k hk => by
  obtain ⟨e, he⟩ := fls_all _ _ _ (snd_fls h) _ (List.getElem_mem hk)
  exact inD_yes (flF_parts he).2.1
/-- The places among l, from k on, of those that were sent long enough ago. -/
def dueL (now wait : Int) : Nat → List DFlight → List Int
  | _, [] => []
  | k, x :: l => if wait ≤ now - x.2.2.2.1 then (k : Int) :: dueL now wait (k + 1) l else dueL now wait (k + 1) l
def dueC (x : DSender) (now wait : Int) : Int := if sndFault x = 0 then (if (inD now 0 1000000 && inD wait 0 1000000) = true then 0 else 3) else sndFault x
def dueV (x : DSender) (now wait : Int) : List Int := if dueC x now wait = 0 then dueL now wait 0 x.2.2.2.1 else []
theorem dueL_app (now wait : Int) : ∀ (p q : List DFlight) (k : Nat), dueL now wait k (p ++ q) = dueL now wait k p ++ dueL now wait (k + p.length) q
  | [], q, k => by simp [dueL]
  | x :: p, q, k => by
    have ih := dueL_app now wait p q (k + 1)
    have e : k + 1 + p.length = k + (x :: p).length := by simp; omega
    rw [e] at ih
    rw [List.cons_append]
    simp only [dueL]
    rw [ih]
    split
    · rfl
    · rfl
theorem dueL_len (now wait : Int) : ∀ (l : List DFlight) (k : Nat), (dueL now wait k l).length ≤ l.length
  | [], _ => by simp [dueL]
  | x :: l, k => by
    have := dueL_len now wait l (k + 1)
    show (if _ then _ else _ : List Int).length ≤ _
    split <;> simp <;> omega
theorem dueL_step {l : List DFlight} {k : Nat} (now wait : Int) (hk : k < l.length) : dueL now wait 0 (l.take (k + 1)) = if wait ≤ now - l[k].2.2.2.1 then dueL now wait 0 (l.take k) ++ [(k : Int)] else dueL now wait 0 (l.take k) := by
  rw [List.take_succ_eq_append_getElem hk, dueL_app]
  have e : 0 + (l.take k).length = k := by simp; omega
  rw [e]
  show _ ++ (if _ then _ else _) = _
  split
  · simp [dueL]
  · simp [dueL]
theorem dueL_mem (now wait : Int) : ∀ (l : List DFlight) (k : Nat) (y : Int), y ∈ dueL now wait k l → (k : Int) ≤ y ∧ y < k + l.length
  | [], _, _, h => by simp [dueL] at h
  | x :: l, k, y, h => by
    simp only [dueL] at h
    have ih := dueL_mem now wait l (k + 1) y
    have e : ((x :: l).length : Int) = l.length + 1 := by simp
    rw [e]
    split at h
    · rcases List.mem_cons.1 h with rfl | h
      · omega
      · have := ih h; omega
    · have := ih h; omega
theorem due_tot (x : DSender) (now wait : Int) : (dueV x now wait).length ≤ 1048576 := by
  unfold dueV
  split
  · rename_i h
    have h0 : sndFault x = 0 := by
      apply Classical.byContradiction; intro hn
      unfold dueC at h; rw [if_neg hn] at h; exact hn h
    have := dueL_len now wait x.2.2.2.1 0
    have := (snd_ok h0).2.2.2
    omega
  · simp
def minD (a b : Int) : Int := if a < b then a else b
/-- Flight k of l touched now. -/
def tchL (l : List DFlight) (k : Nat) (now : Int) : List DFlight :=
  match l[k]? with
  | some x => l.set k (x.1, x.2.1, x.2.2.1, now, minD 1000 (x.2.2.2.2.1 + 1), ())
  | none => l
theorem tchL_at {l : List DFlight} {k : Nat} (now : Int) (hk : k < l.length) : tchL l k now = l.set k (l[k].1, l[k].2.1, l[k].2.2.1, now, minD 1000 (l[k].2.2.2.2.1 + 1), ()) := by
  unfold tchL; rw [List.getElem?_eq_getElem hk]
def tchC (x : DSender) (i now : Int) : Int := if sndFault x = 0 then (if inD i 0 ((x.2.2.2.1.length : Int) - 1) = true then (if inD now 0 1000000 = true then 0 else 3) else 4) else sndFault x
def tchV (x : DSender) (i now : Int) : DSender := if tchC x i now = 0 then (x.1, x.2.1, x.2.2.1, tchL x.2.2.2.1 i.toNat now, ()) else zSnd
theorem tch_len (l : List DFlight) (k : Nat) (now : Int) : (tchL l k now).length = l.length := by
  unfold tchL; split <;> simp
theorem fsum_set {α : Type} (f : α → Nat) : ∀ (l : List α) (k : Nat) (y : α), fsum f (l.set k y) ≤ fsum f l + f y
  | [], k, y => by simp [fsum]
  | x :: l, 0, y => by simp [fsum]; omega
  | x :: l, k + 1, y => by
    have := fsum_set f l k y
    have e1 : fsum f ((x :: l).set (k + 1) y) = f x + fsum f (l.set k y) := by simp [fsum]
    have e2 : fsum f (x :: l) = f x + fsum f l := by simp [fsum]
    omega
theorem fls_tries {x : DSender} (h : sndFault x = 0) : ∀ k (hk : k < x.2.2.2.1.length), 1 ≤ x.2.2.2.1[k].2.2.2.2.1 ∧ x.2.2.2.1[k].2.2.2.2.1 ≤ 1000 := fun k hk => by
  obtain ⟨e, he⟩ := fls_all _ _ _ (snd_fls h) _ (List.getElem_mem hk)
  exact inD_yes (flF_parts he).2.2.1
theorem tch_tot (x : DSender) (i now : Int) : totSender (tchV x i now) ≤ 1048576 := by
  unfold tchV
  split
  · rename_i h
    have h0 : sndFault x = 0 := by
      apply Classical.byContradiction; intro hn
      unfold tchC at h; rw [if_neg hn] at h; exact hn h
    have ht := snd_tot h0
    replace ht : x.2.2.2.1.length + fsum totFlight x.2.2.2.1 ≤ 108 := ht
    show (tchL x.2.2.2.1 i.toNat now).length + fsum totFlight (tchL x.2.2.2.1 i.toNat now) ≤ 1048576
    rw [tch_len]
    by_cases hk : i.toNat < x.2.2.2.1.length
    · rw [tchL_at now hk]
      have h1 := fsum_set totFlight x.2.2.2.1 i.toNat (x.2.2.2.1[i.toNat].1, x.2.2.2.1[i.toNat].2.1, x.2.2.2.1[i.toNat].2.2.1, now, minD 1000 (x.2.2.2.1[i.toNat].2.2.2.2.1 + 1), ())
      have h2 : totFlight (x.2.2.2.1[i.toNat].1, x.2.2.2.1[i.toNat].2.1, x.2.2.2.1[i.toNat].2.2.1, now, minD 1000 (x.2.2.2.1[i.toNat].2.2.2.2.1 + 1), ()) ≤ fsum totFlight x.2.2.2.1 := fsum_at totFlight hk
      omega
    · have : tchL x.2.2.2.1 i.toNat now = x.2.2.2.1 := by unfold tchL; rw [List.getElem?_eq_none (by omega)]
      rw [this]; omega
  · simp [zSnd, totSender, totFlights, fsum]
end Go.Proofs.Yteaddhldleeaiaa
