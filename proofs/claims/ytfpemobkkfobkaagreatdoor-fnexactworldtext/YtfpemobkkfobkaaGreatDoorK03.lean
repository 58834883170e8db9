/- Plain facts on whole numbers that go round at 65536: what is left of a number, how far one is ahead of another; no condition. -/
import Derived.WalkKit
import Derived.Handy
import Derived.Laws.BitsAllLaws
import Derived.Test.YtfpemobkkfobkaaGreatDoorRows
import Derived.ProofKit
import Derived.Below
import Derived.Test.YtfpemobkkfobkaaGreatDoorK01
import Derived.Test.YtfpemobkkfobkaaGreatDoorK02
namespace Go.Proofs.YtfpemobkkfobkaaGreatDoor
open Go.RowKit

/-- What 65536 leaves of n. -/
def wrp (n : Int) : Int := n % 65536
/-- How far b is ahead of a. -/
def ahd (a b : Int) : Int := if 32768 ≤ (b - a) % 65536 then (b - a) % 65536 - 65536 else (b - a) % 65536
/-- How many steps lead from a up to b. -/
def stp (a b : Int) : Int := (b - a) % 65536

theorem wrp_bd (n : Int) : 0 ≤ wrp n ∧ wrp n ≤ 65535 := by unfold wrp; omega
theorem stp_bd (a b : Int) : 0 ≤ stp a b ∧ stp a b ≤ 65535 := by unfold stp; omega
theorem ahd_bd (a b : Int) : -32768 ≤ ahd a b ∧ ahd a b ≤ 32767 := by unfold ahd; split <;> omega

theorem w16 (n : Int) : wrap64 (IntKind.u16.wrap n) = n % 65536 := by
  rw [IntKind.wrap_u16]; unfold wrap64; omega
theorem wrp_w16 (n : Int) : wrap64 (IntKind.u16.wrap n) = wrp n := w16 n
theorem i16w (n : Int) : IntKind.i16.wrap n = (n + 32768) % 65536 - 32768 := by
  simp only [IntKind.wrap, IntKind.bits, IntKind.signed]; simp; omega
theorem add_16 (a n : Int) : wrap64 (IntKind.u16.wrap (IntKind.u16.wrap a + IntKind.u16.wrap n)) = wrp (a + n) := by
  simp only [IntKind.wrap_u16, wrp]; unfold wrap64; omega
theorem sub_16 (a b : Int) : wrap64 (IntKind.u16.wrap (IntKind.u16.wrap b - IntKind.u16.wrap a)) = stp a b := by
  simp only [IntKind.wrap_u16, stp]; unfold wrap64; omega
theorem ahd_16 (a b : Int) : wrap64 (IntKind.i16.wrap (IntKind.u16.wrap (wrap64 (wrap64 (IntKind.u16.wrap b) - wrap64 (IntKind.u16.wrap a))))) = ahd a b := by
  simp only [i16w, IntKind.wrap_u16, ahd]; unfold wrap64; split <;> omega
theorem ahd_stp (a b : Int) : ahd a b = if 32768 ≤ stp a b then stp a b - 65536 else stp a b := rfl
theorem ahd_hi {a b : Int} (h : 32768 ≤ stp a b) : stp a b - 65536 = ahd a b := by rw [ahd_stp, if_pos h]
theorem ahd_lo {a b : Int} (h : ¬ 32768 ≤ stp a b) : stp a b = ahd a b := by rw [ahd_stp, if_neg h]
end Go.Proofs.YtfpemobkkfobkaaGreatDoor

/- What the functions on numbers that go round answer, of the program and of its model; each leaves memory as it was; no condition. -/
namespace Go.Proofs.YtfpemobkkfobkaaGreatDoor
open Go.RowKit

end Go.Proofs.YtfpemobkkfobkaaGreatDoor

/- What finding a number near its place answers, of the program and of its model: a code and a value; nothing that was in memory turns; no condition. -/
namespace Go.Proofs.YtfpemobkkfobkaaGreatDoor
open Go.RowKit

/-- The code of finding a near near. -/
def unwC (a near : Int) : Int := if near < 0 ∨ 1000000000 < near then 3 else if near + ahd near a < 0 then 4 else 0
/-- The value of finding a near near. -/
def unwV (a near : Int) : Int := if near < 0 ∨ 1000000000 < near then 0 else if near + ahd near a < 0 then 0 else near + ahd near a

theorem unw_out {a near : Int} (h : near < 0 ∨ 1000000000 < near) : unwC a near = 3 ∧ unwV a near = 0 := by
  unfold unwC unwV; rw [if_pos h, if_pos h]; exact ⟨rfl, rfl⟩
theorem unw_neg {a near : Int} (h0 : 0 ≤ near) (h1 : near ≤ 1000000000) (h : near + ahd near a < 0) : unwC a near = 4 ∧ unwV a near = 0 := by
  have hn : ¬ (near < 0 ∨ 1000000000 < near) := by omega
  unfold unwC unwV; rw [if_neg hn, if_neg hn, if_pos h, if_pos h]; exact ⟨rfl, rfl⟩
theorem unw_in {a near : Int} (h0 : 0 ≤ near) (h1 : near ≤ 1000000000) (h : 0 ≤ near + ahd near a) : unwC a near = 0 ∧ unwV a near = near + ahd near a := by
  have hn : ¬ (near < 0 ∨ 1000000000 < near) := by omega
  have hm : ¬ (near + ahd near a < 0) := by omega
  unfold unwC unwV; rw [if_neg hn, if_neg hn, if_neg hm, if_neg hm]; exact ⟨rfl, rfl⟩

theorem ret_pair {c v c' v' : Int} (hc : c = c') (hv : v = v') : Ending.returned (.agg #[.int .i64 c, .int .i64 v]) = .returned (.agg #[.int .i64 c', .int .i64 v']) := by rw [hc, hv]

theorem sIn (v low high : Int) (w : World) :
    Calls Tryz.prog 29 #[.int .i64 v, .int .i64 low, .int .i64 high] w fun e w' => e = .returned (.bool (decide (low ≤ v) && decide (v ≤ high))) ∧ w' = w := by
  by_cases h : low ≤ v
  · go_enter Tryz.func29, Tryz.ntmps29
    go_wp2
    go_ret
    exact ⟨ret_bool (by simp [h]), rfl⟩
  · have h' : decide (low ≤ v) = false := by simp; omega
    go_enter Tryz.func29, Tryz.ntmps29
    go_wp2
    go_ret
    exact ⟨ret_bool (by simp), rfl⟩

end Go.Proofs.YtfpemobkkfobkaaGreatDoor

/- Plain facts on senders and flights: what their faults are, as functions on data; no condition. -/
namespace Go.Proofs.YtfpemobkkfobkaaGreatDoor
open Go.RowKit
set_option linter.unusedVariables false

/-- v is lo to hi. -/
def inD (v lo hi : Int) : Bool := decide (lo ≤ v) && decide (v ≤ hi)
theorem inD_yes {v lo hi : Int} (h : inD v lo hi = true) : lo ≤ v ∧ v ≤ hi := by unfold inD at h; simpa using h
theorem inD_mk {v lo hi : Int} (h1 : lo ≤ v) (h2 : v ≤ hi) : inD v lo hi = true := by unfold inD; simp [h1, h2]
/-- n bytes lie at place a of the stream. -/
def plcD (a : Int) (n : Nat) : Bool := inD a 0 400 && decide (a + n ≤ 400)
def lodD (n : Nat) : Bool := decide (1 ≤ n) && decide (n ≤ 8)
theorem lodD_yes {n : Nat} (h : lodD n = true) : 1 ≤ n ∧ n ≤ 8 := by unfold lodD at h; simpa using h

/-- The fault of one flight that must be at e. -/
def flFault (x : DFlight) (e : Int) : Int :=
  if (plcD x.2.1 x.2.2.1.length && inD x.2.2.2.1 0 1000000 && inD x.2.2.2.2.1 1 1000) = false then 3 else if (lodD x.2.2.1.length && decide (x.1 = e)) = false then 1 else 0
/-- The fault of the flights from e on, up to next. -/
def flsFault (next : Int) : Int → List DFlight → Int
  | e, [] => if e = next then 0 else 1
  | e, x :: l => if flFault x e = 0 then flsFault next (e + x.2.2.1.length) l else flFault x e
def sndHead (x : DSender) : Bool := inD x.1 0 65535 && inD x.2.1 0 1000000 && inD x.2.2.1 0 x.2.1
def sndFault (x : DSender) : Int := if sndHead x = false then 3 else if 12 < x.2.2.2.1.length then 2 else flsFault x.2.1 x.2.2.1 x.2.2.2.1

theorem flsFault_at {l : List DFlight} {k : Nat} (next e : Int) (hk : k < l.length) : flsFault next e (l.drop k) = if flFault l[k] e = 0 then flsFault next (e + l[k].2.2.1.length) (l.drop (k + 1)) else flFault l[k] e := by
  rw [List.drop_eq_getElem_cons hk]; rfl
theorem flsFault_end {l : List DFlight} (next e : Int) : flsFault next e (l.drop l.length) = if e = next then 0 else 1 := by rw [List.drop_length]; rfl
theorem sndFault_head {x : DSender} (h : sndHead x = false) : sndFault x = 3 := by unfold sndFault; rw [if_pos h]
theorem sndFault_many {x : DSender} (h : sndHead x = true) (h2 : 12 < x.2.2.2.1.length) : sndFault x = 2 := by unfold sndFault; rw [if_neg (by simp [h]), if_pos h2]
theorem sndFault_fls {x : DSender} (h : sndHead x = true) (h2 : ¬ 12 < x.2.2.2.1.length) : sndFault x = flsFault x.2.1 x.2.2.1 x.2.2.2.1 := by unfold sndFault; rw [if_neg (by simp [h]), if_neg h2]
theorem flF_r {x : DFlight} {e : Int} (h : (plcD x.2.1 x.2.2.1.length && inD x.2.2.2.1 0 1000000 && inD x.2.2.2.2.1 1 1000) = false) : flFault x e = 3 := by unfold flFault; rw [if_pos h]
theorem flF_f {x : DFlight} {e : Int} (h : (plcD x.2.1 x.2.2.1.length && inD x.2.2.2.1 0 1000000 && inD x.2.2.2.2.1 1 1000) = true) (h2 : (lodD x.2.2.1.length && decide (x.1 = e)) = false) : flFault x e = 1 := by unfold flFault; rw [if_neg (by simp [h]), if_pos h2]
theorem flF_ok {x : DFlight} {e : Int} (h : (plcD x.2.1 x.2.2.1.length && inD x.2.2.2.1 0 1000000 && inD x.2.2.2.2.1 1 1000) = true) (h2 : (lodD x.2.2.1.length && decide (x.1 = e)) = true) : flFault x e = 0 := by unfold flFault; rw [if_neg (by simp [h]), if_neg (by simp [h2])]
def onwV (x : DSender) : Int := if sndFault x = 0 then x.2.1 - x.2.2.1 else 0
def seqC (x : DSender) (at' : Int) : Int := if sndFault x = 0 then (if inD at' 0 1000000 = true then 0 else 3) else sndFault x
def seqV (x : DSender) (at' : Int) : Int := if sndFault x = 0 then (if inD at' 0 1000000 = true then wrp (x.1 + at') else 0) else 0
theorem snd_ok {x : DSender} (h : sndFault x = 0) : inD x.1 0 65535 = true ∧ inD x.2.1 0 1000000 = true ∧ inD x.2.2.1 0 x.2.1 = true ∧ x.2.2.2.1.length ≤ 12 := by
  unfold sndFault at h
  split at h
  · omega
  · rename_i hh
    split at h
    · omega
    · have : sndHead x = true := by simpa using hh
      unfold sndHead at this
      simp only [Bool.and_eq_true] at this
      exact ⟨this.1.1, this.1.2, this.2, by omega⟩
def staSC (n : Int) : Int := if inD n 0 65535 = true then 0 else 3
def staSV (n : Int) : DSender := (if inD n 0 65535 = true then n else 0, 0, 0, [], ())
theorem staS_tot (n : Int) : totSender (staSV n) ≤ 1048576 := by simp [staSV, totSender, totFlights, fsum]
def zSnd : DSender := (0, 0, 0, [], ())
def pshR (x : DSender) (data : Int) (n : Nat) (now : Int) : Bool := plcD data n && inD now 0 1000000 && decide (x.2.1 + n ≤ 1000000)
def pshC (x : DSender) (data : Int) (ld : List Int) (now : Int) : Int :=
  if sndFault x = 0 then (if lodD ld.length = true then (if pshR x data ld.length now = true then (if 12 ≤ x.2.2.2.1.length then 2 else 0) else 3) else 1) else sndFault x
def pshV (x : DSender) (data : Int) (ld : List Int) (now : Int) : DSender :=
  if pshC x data ld now = 0 then (x.1, x.2.1 + ld.length, x.2.2.1, x.2.2.2.1 ++ [(x.2.1, data, ld, now, 1, ())], ()) else zSnd
theorem psh_f {x : DSender} {data : Int} {ld : List Int} {now : Int} (h : ¬ sndFault x = 0) : pshC x data ld now = sndFault x ∧ pshV x data ld now = zSnd := by
  have e : pshC x data ld now = sndFault x := by unfold pshC; rw [if_neg h]
  exact ⟨e, by unfold pshV; rw [e, if_neg h]⟩
theorem psh_l {x : DSender} {data : Int} {ld : List Int} {now : Int} (h : sndFault x = 0) (h2 : lodD ld.length = false) : pshC x data ld now = 1 ∧ pshV x data ld now = zSnd := by
  have e : pshC x data ld now = 1 := by unfold pshC; rw [if_pos h, if_neg (by simp [h2])]
  exact ⟨e, by unfold pshV; rw [e, if_neg (by decide)]⟩
theorem psh_r {x : DSender} {data : Int} {ld : List Int} {now : Int} (h : sndFault x = 0) (h2 : lodD ld.length = true) (h3 : pshR x data ld.length now = false) : pshC x data ld now = 3 ∧ pshV x data ld now = zSnd := by
  have e : pshC x data ld now = 3 := by unfold pshC; rw [if_pos h, if_pos h2, if_neg (by simp [h3])]
  exact ⟨e, by unfold pshV; rw [e, if_neg (by decide)]⟩
theorem psh_m {x : DSender} {data : Int} {ld : List Int} {now : Int} (h : sndFault x = 0) (h2 : lodD ld.length = true) (h3 : pshR x data ld.length now = true) (h4 : 12 ≤ x.2.2.2.1.length) : pshC x data ld now = 2 ∧ pshV x data ld now = zSnd := by
  have e : pshC x data ld now = 2 := by unfold pshC; rw [if_pos h, if_pos h2, if_pos h3, if_pos h4]
  exact ⟨e, by unfold pshV; rw [e, if_neg (by decide)]⟩
theorem psh_ok {x : DSender} {data : Int} {ld : List Int} {now : Int} (h : sndFault x = 0) (h2 : lodD ld.length = true) (h3 : pshR x data ld.length now = true) (h4 : ¬ 12 ≤ x.2.2.2.1.length) : pshC x data ld now = 0 ∧ pshV x data ld now = (x.1, x.2.1 + ld.length, x.2.2.1, x.2.2.2.1 ++ [(x.2.1, data, ld, now, 1, ())], ()) := by
  have e : pshC x data ld now = 0 := by unfold pshC; rw [if_pos h, if_pos h2, if_pos h3, if_neg h4]
  exact ⟨e, by unfold pshV; rw [e, if_pos rfl]⟩
theorem fls_tot (next : Int) : ∀ (l : List DFlight) (e : Int), flsFault next e l = 0 → fsum totFlight l ≤ 8 * l.length
  | [], _, _ => by simp [fsum]
  | x :: l, e, h => by
    have h1 : flFault x e = 0 := by
      apply Classical.byContradiction; intro hn
      have : flsFault next e (x :: l) = flFault x e := by show (if _ then _ else _) = _; rw [if_neg hn]
      omega
    have h2 : flsFault next (e + x.2.2.1.length) l = 0 := by
      have : flsFault next e (x :: l) = flsFault next (e + x.2.2.1.length) l := by show (if _ then _ else _) = _; rw [if_pos h1]
      omega
    have ih := fls_tot next l _ h2
    have h3 : x.2.2.1.length ≤ 8 := by
      unfold flFault at h1
      split at h1
      · omega
      · split at h1
        · omega
        · rename_i hh
          simp only [Bool.not_eq_false, Bool.and_eq_true] at hh
          exact (lodD_yes hh.1).2
    have e2 : fsum totFlight (x :: l) = totFlight x + fsum totFlight l := by simp [fsum]
    rw [e2, List.length_cons]
    have e3 : totFlight x = x.2.2.1.length := rfl
    omega
theorem snd_tot {x : DSender} (h : sndFault x = 0) : totSender x ≤ 108 := by
  have hl := (snd_ok h).2.2.2
  have hh : sndHead x = true := by
    apply Classical.byContradiction; intro hn
    have := sndFault_head (x := x) (by simpa using hn); omega
  rw [sndFault_fls hh (by omega)] at h
  have := fls_tot _ _ _ h
  show x.2.2.2.1.length + fsum totFlight x.2.2.2.1 ≤ 108
  omega
theorem psh_tot (x : DSender) (data : Int) (ld : List Int) (now : Int) : totSender (pshV x data ld now) ≤ 1048576 := by
  unfold pshV
  split
  · rename_i h
    unfold pshC at h
    split at h
    · rename_i h0
      split at h
      · rename_i h2
        have h8 := (lodD_yes h2).2
        have ht := snd_tot h0
        show (x.2.2.2.1 ++ [(x.2.1, data, ld, now, 1, ())]).length + fsum totFlight (x.2.2.2.1 ++ [(x.2.1, data, ld, now, 1, ())]) ≤ 1048576
        have e : fsum totFlight (x.2.2.2.1 ++ [(x.2.1, data, ld, now, 1, ())]) = fsum totFlight x.2.2.2.1 + ld.length := by unfold fsum; rw [List.map_append, List.sum_append]; simp [totFlight]
        rw [e, List.length_append]
        replace ht : x.2.2.2.1.length + fsum totFlight x.2.2.2.1 ≤ 108 := ht
        simp; omega
      · omega
    · contradiction
  · simp [zSnd, totSender, totFlights, fsum]
theorem flF_parts {x : DFlight} {e : Int} (h : flFault x e = 0) : plcD x.2.1 x.2.2.1.length = true ∧ inD x.2.2.2.1 0 1000000 = true ∧ inD x.2.2.2.2.1 1 1000 = true ∧ lodD x.2.2.1.length = true ∧ x.1 = e := by
  unfold flFault at h
  split at h
  · omega
  · rename_i h1
    split at h
    · omega
    · rename_i h2
      simp only [Bool.not_eq_false, Bool.and_eq_true, decide_eq_true_eq] at h1 h2
      exact ⟨h1.1.1, h1.1.2, h1.2, h2.1, h2.2⟩
theorem fls_all (next : Int) : ∀ (l : List DFlight) (e : Int), flsFault next e l = 0 → ∀ x ∈ l, ∃ e', flFault x e' = 0
  | [], _, _ => by simp
  | x :: l, e, h => by
    have h1 : flFault x e = 0 := by
      apply Classical.byContradiction; intro hn
      have : flsFault next e (x :: l) = flFault x e := by show (if _ then _ else _) = _; rw [if_neg hn]
      omega
    have h2 : flsFault next (e + x.2.2.1.length) l = 0 := by
      have : flsFault next e (x :: l) = flsFault next (e + x.2.2.1.length) l := by show (if _ then _ else _) = _; rw [if_pos h1]
      omega
    intro y hy
    rcases List.mem_cons.1 hy with rfl | hy
    · exact ⟨e, h1⟩
    · exact fls_all next l _ h2 y hy
theorem snd_fls {x : DSender} (h : sndFault x = 0) : flsFault x.2.1 x.2.2.1 x.2.2.2.1 = 0 := by
  have hl := (snd_ok h).2.2.2
  have hh : sndHead x = true := by
    apply Classical.byContradiction; intro hn
    have := sndFault_head (x := x) (by simpa using hn); omega
  rw [sndFault_fls hh (by omega)] at h
  exact h
theorem fls_sent {x : DSender} (h : sndFault x = 0) : ∀ k (hk : k < x.2.2.2.1.length), 0 ≤ x.2.2.2.1[k].2.2.2.1 ∧ x.2.2.2.1[k].2.2.2.1 ≤ 1000000 := fun k hk => by
  obtain ⟨e, he⟩ := fls_all _ _ _ (snd_fls h) _ (List.getElem_mem hk)
  exact inD_yes (flF_parts he).2.1
/-- The places among l, from k on, of those that were sent long enough ago. -/
def dueL (now wait : Int) : Nat → List DFlight → List Int
  | _, [] => []
  | k, x :: l => if wait ≤ now - x.2.2.2.1 then (k : Int) :: dueL now wait (k + 1) l else dueL now wait (k + 1) l
def dueC (x : DSender) (now wait : Int) : Int := if sndFault x = 0 then (if (inD now 0 1000000 && inD wait 0 1000000) = true then 0 else 3) else sndFault x
def dueV (x : DSender) (now wait : Int) : List Int := if dueC x now wait = 0 then dueL now wait 0 x.2.2.2.1 else []
theorem dueL_app (now wait : Int) : ∀ (p q : List DFlight) (k : Nat), dueL now wait k (p ++ q) = dueL now wait k p ++ dueL now wait (k + p.length) q
  | [], q, k => by simp [dueL]
  | x :: p, q, k => by
    have ih := dueL_app now wait p q (k + 1)
    have e : k + 1 + p.length = k + (x :: p).length := by simp; omega
    rw [e] at ih
    rw [List.cons_append]
    simp only [dueL]
    rw [ih]
    split
    · rfl
    · rfl
theorem dueL_len (now wait : Int) : ∀ (l : List DFlight) (k : Nat), (dueL now wait k l).length ≤ l.length
  | [], _ => by simp [dueL]
  | x :: l, k => by
    have := dueL_len now wait l (k + 1)
    show (if _ then _ else _ : List Int).length ≤ _
    split <;> simp <;> omega
theorem dueL_step {l : List DFlight} {k : Nat} (now wait : Int) (hk : k < l.length) : dueL now wait 0 (l.take (k + 1)) = if wait ≤ now - l[k].2.2.2.1 then dueL now wait 0 (l.take k) ++ [(k : Int)] else dueL now wait 0 (l.take k) := by
  rw [List.take_succ_eq_append_getElem hk, dueL_app]
  have e : 0 + (l.take k).length = k := by simp; omega
  rw [e]
  show _ ++ (if _ then _ else _) = _
  split
  · simp [dueL]
  · simp [dueL]
theorem dueL_mem (now wait : Int) : ∀ (l : List DFlight) (k : Nat) (y : Int), y ∈ dueL now wait k l → (k : Int) ≤ y ∧ y < k + l.length
  | [], _, _, h => by simp [dueL] at h
  | x :: l, k, y, h => by
    simp only [dueL] at h
    have ih := dueL_mem now wait l (k + 1) y
    have e : ((x :: l).length : Int) = l.length + 1 := by simp
    rw [e]
    split at h
    · rcases List.mem_cons.1 h with rfl | h
      · omega
      · have := ih h; omega
    · have := ih h; omega
theorem due_tot (x : DSender) (now wait : Int) : (dueV x now wait).length ≤ 1048576 := by
  unfold dueV
  split
  · rename_i h
    have h0 : sndFault x = 0 := by
      apply Classical.byContradiction; intro hn
      unfold dueC at h; rw [if_neg hn] at h; exact hn h
    have := dueL_len now wait x.2.2.2.1 0
    have := (snd_ok h0).2.2.2
    omega
  · simp
def minD (a b : Int) : Int := if a < b then a else b
/-- Flight k of l touched now. -/
def tchL (l : List DFlight) (k : Nat) (now : Int) : List DFlight :=
  match l[k]? with
  | some x => l.set k (x.1, x.2.1, x.2.2.1, now, minD 1000 (x.2.2.2.2.1 + 1), ())
  | none => l
theorem tchL_at {l : List DFlight} {k : Nat} (now : Int) (hk : k < l.length) : tchL l k now = l.set k (l[k].1, l[k].2.1, l[k].2.2.1, now, minD 1000 (l[k].2.2.2.2.1 + 1), ()) := by
  unfold tchL; rw [List.getElem?_eq_getElem hk]
def tchC (x : DSender) (i now : Int) : Int := if sndFault x = 0 then (if inD i 0 ((x.2.2.2.1.length : Int) - 1) = true then (if inD now 0 1000000 = true then 0 else 3) else 4) else sndFault x
def tchV (x : DSender) (i now : Int) : DSender := if tchC x i now = 0 then (x.1, x.2.1, x.2.2.1, tchL x.2.2.2.1 i.toNat now, ()) else zSnd
theorem tch_len (l : List DFlight) (k : Nat) (now : Int) : (tchL l k now).length = l.length := by
  unfold tchL; split <;> simp
theorem fsum_set {α : Type} (f : α → Nat) : ∀ (l : List α) (k : Nat) (y : α), fsum f (l.set k y) ≤ fsum f l + f y
  | [], k, y => by simp [fsum]
  | x :: l, 0, y => by simp [fsum]; omega
  | x :: l, k + 1, y => by
    have := fsum_set f l k y
    have e1 : fsum f ((x :: l).set (k + 1) y) = f x + fsum f (l.set k y) := by simp [fsum]
    have e2 : fsum f (x :: l) = f x + fsum f l := by simp [fsum]
    omega
theorem fls_tries {x : DSender} (h : sndFault x = 0) : ∀ k (hk : k < x.2.2.2.1.length), 1 ≤ x.2.2.2.1[k].2.2.2.2.1 ∧ x.2.2.2.1[k].2.2.2.2.1 ≤ 1000 := fun k hk => by
  obtain ⟨e, he⟩ := fls_all _ _ _ (snd_fls h) _ (List.getElem_mem hk)
  exact inD_yes (flF_parts he).2.2.1
theorem tch_tot (x : DSender) (i now : Int) : totSender (tchV x i now) ≤ 1048576 := by
  unfold tchV
  split
  · rename_i h
    have h0 : sndFault x = 0 := by
      apply Classical.byContradiction; intro hn
      unfold tchC at h; rw [if_neg hn] at h; exact hn h
    have ht := snd_tot h0
    replace ht : x.2.2.2.1.length + fsum totFlight x.2.2.2.1 ≤ 108 := ht
    show (tchL x.2.2.2.1 i.toNat now).length + fsum totFlight (tchL x.2.2.2.1 i.toNat now) ≤ 1048576
    rw [tch_len]
    by_cases hk : i.toNat < x.2.2.2.1.length
    · rw [tchL_at now hk]
      have h1 := fsum_set totFlight x.2.2.2.1 i.toNat (x.2.2.2.1[i.toNat].1, x.2.2.2.1[i.toNat].2.1, x.2.2.2.1[i.toNat].2.2.1, now, minD 1000 (x.2.2.2.1[i.toNat].2.2.2.2.1 + 1), ())
      have h2 : totFlight (x.2.2.2.1[i.toNat].1, x.2.2.2.1[i.toNat].2.1, x.2.2.2.1[i.toNat].2.2.1, now, minD 1000 (x.2.2.2.1[i.toNat].2.2.2.2.1 + 1), ()) ≤ fsum totFlight x.2.2.2.1 := fsum_at totFlight hk
      omega
    · have : tchL x.2.2.2.1 i.toNat now = x.2.2.2.1 := by unfold tchL; rw [List.getElem?_eq_none (by omega)]
      rw [this]; omega
  · simp [zSnd, totSender, totFlights, fsum]
end Go.Proofs.YtfpemobkkfobkaaGreatDoor

/- Plain facts on catches and spans: their faults, what is taken, as functions on data; no condition. -/
namespace Go.Proofs.YtfpemobkkfobkaaGreatDoor
open Go.RowKit
set_option linter.unusedVariables false

/-- v is lo to hi. -/
def inC (v lo hi : Int) : Bool := decide (lo ≤ v) && decide (v ≤ hi)
theorem inC_yes {v lo hi : Int} (h : inC v lo hi = true) : lo ≤ v ∧ v ≤ hi := by unfold inC at h; simpa using h
theorem inC_mk {v lo hi : Int} (h1 : lo ≤ v) (h2 : v ≤ hi) : inC v lo hi = true := by unfold inC; simp [h1, h2]
/-- The fault of one span that must lie behind e. -/
def spF (s : DSpan) (e : Int) : Int := if 1000100 < s.2.1 then 3 else if s.1 ≤ e ∨ s.2.1 ≤ s.1 then 1 else 0
def spsF : Int → List DSpan → Int
  | _, [] => 0
  | e, s :: l => if spF s e = 0 then spsF s.2.1 l else spF s e
def caHead (x : DCatch) : Bool := inC x.1 0 65535 && inC x.2.1 0 1000000
/-- The fault of a catch. -/
def caF (x : DCatch) : Int := if caHead x = false then 3 else if 20 < x.2.2.1.length then 2 else spsF x.2.1 x.2.2.1
theorem spsF_at {l : List DSpan} {k : Nat} (e : Int) (hk : k < l.length) : spsF e (l.drop k) = if spF l[k] e = 0 then spsF l[k].2.1 (l.drop (k + 1)) else spF l[k] e := by
  rw [List.drop_eq_getElem_cons hk]; rfl
theorem spsF_end {l : List DSpan} (e : Int) : spsF e (l.drop l.length) = 0 := by rw [List.drop_length]; rfl
theorem caF_head {x : DCatch} (h : caHead x = false) : caF x = 3 := by unfold caF; rw [if_pos h]
theorem caF_many {x : DCatch} (h : caHead x = true) (h2 : 20 < x.2.2.1.length) : caF x = 2 := by unfold caF; rw [if_neg (by simp [h]), if_pos h2]
theorem caF_sps {x : DCatch} (h : caHead x = true) (h2 : ¬ 20 < x.2.2.1.length) : caF x = spsF x.2.1 x.2.2.1 := by unfold caF; rw [if_neg (by simp [h]), if_neg h2]
theorem spF_r {s : DSpan} {e : Int} (h : 1000100 < s.2.1) : spF s e = 3 := by unfold spF; rw [if_pos h]
theorem spF_f {s : DSpan} {e : Int} (h : ¬ 1000100 < s.2.1) (h2 : s.1 ≤ e ∨ s.2.1 ≤ s.1) : spF s e = 1 := by unfold spF; rw [if_neg h, if_pos h2]
theorem spF_ok {s : DSpan} {e : Int} (h : ¬ 1000100 < s.2.1) (h2 : ¬ (s.1 ≤ e ∨ s.2.1 ≤ s.1)) : spF s e = 0 := by unfold spF; rw [if_neg h, if_neg h2]
theorem spF_parts {s : DSpan} {e : Int} (h : spF s e = 0) : e < s.1 ∧ s.1 < s.2.1 ∧ s.2.1 ≤ 1000100 := by
  unfold spF at h
  split at h
  · omega
  · split at h
    · omega
    · omega
theorem ca_ok {x : DCatch} (h : caF x = 0) : (0 ≤ x.1 ∧ x.1 ≤ 65535) ∧ (0 ≤ x.2.1 ∧ x.2.1 ≤ 1000000) ∧ x.2.2.1.length ≤ 20 ∧ spsF x.2.1 x.2.2.1 = 0 := by
  unfold caF at h
  split at h
  · omega
  · rename_i hh
    split at h
    · omega
    · have : caHead x = true := by simpa using hh
      unfold caHead at this
      simp only [Bool.and_eq_true] at this
      exact ⟨inC_yes this.1, inC_yes this.2, by omega, h⟩
/-- Spans in order, none touching the next. -/
def SpL : List DSpan → Prop
  | [] => True
  | [s] => s.1 ≤ s.2.1
  | s :: t :: l => s.1 ≤ s.2.1 ∧ s.2.1 < t.1 ∧ SpL (t :: l)
theorem SpL.head {s : DSpan} {l : List DSpan} (h : SpL (s :: l)) : s.1 ≤ s.2.1 := by
  cases l with
  | nil => exact h
  | cons t l => exact h.1
theorem SpL.tail {s : DSpan} {l : List DSpan} (h : SpL (s :: l)) : SpL l := by
  cases l with
  | nil => trivial
  | cons t l => exact h.2.2
theorem SpL.next {s t : DSpan} {l : List DSpan} (h : SpL (s :: t :: l)) : s.2.1 < t.1 := h.2.1
theorem SpL.cons {s : DSpan} {l : List DSpan} (h : s.1 ≤ s.2.1) (hl : SpL l) (hn : ∀ t l', l = t :: l' → s.2.1 < t.1) : SpL (s :: l) := by
  cases l with
  | nil => exact h
  | cons t l => exact ⟨h, hn t l rfl, hl⟩
theorem SpL.all {s : DSpan} : ∀ {l : List DSpan}, SpL (s :: l) → ∀ t ∈ l, s.2.1 < t.1
  | [], _, t, ht => by simp at ht
  | u :: l, h, t, ht => by
    rcases List.mem_cons.1 ht with rfl | ht
    · exact h.next
    · have h1 := SpL.all h.tail t ht
      have h2 := h.next
      have h3 := h.tail.head
      omega
theorem SpL.le : ∀ {l : List DSpan}, SpL l → ∀ t ∈ l, t.1 ≤ t.2.1
  | [], _, t, ht => by simp at ht
  | u :: l, h, t, ht => by
    rcases List.mem_cons.1 ht with rfl | ht
    · exact h.head
    · exact SpL.le h.tail t ht

/-- A span put among others: those that touch it become one with it. -/
def insS (a b : Int) : List DSpan → List DSpan
  | [] => [(a, b, ())]
  | s :: l => if s.2.1 < a then s :: insS a b l else if b < s.1 then (a, b, ()) :: s :: l else insS (min a s.1) (max b s.2.1) l

theorem insS_lt {a b : Int} {s : DSpan} {l : List DSpan} (h : s.2.1 < a) : insS a b (s :: l) = s :: insS a b l := by simp [insS, h]
theorem insS_gt {a b : Int} {s : DSpan} {l : List DSpan} (h : ¬ s.2.1 < a) (h2 : b < s.1) : insS a b (s :: l) = (a, b, ()) :: s :: l := by simp [insS, h, h2]
theorem insS_mid {a b : Int} {s : DSpan} {l : List DSpan} (h : ¬ s.2.1 < a) (h2 : ¬ b < s.1) : insS a b (s :: l) = insS (min a s.1) (max b s.2.1) l := by simp [insS, h, h2]

theorem insS_gtall {a b : Int} (hab : a ≤ b) : ∀ {l : List DSpan}, SpL l → (∀ t ∈ l, b < t.1) → insS a b l = (a, b, ()) :: l
  | [], _, _ => rfl
  | s :: l, h, hl => by
    have h1 := hl s (by simp)
    have h2 := h.head
    exact insS_gt (by omega) h1
theorem spanEta (s : DSpan) : (s.1, s.2.1, ()) = s := rfl
theorem insS_self {s : DSpan} {l : List DSpan} (h : SpL (s :: l)) : insS s.1 s.2.1 l = s :: l := insS_gtall h.head h.tail (h.all)

theorem insS_from {a b e : Int} : ∀ {l : List DSpan}, e < a → (∀ t ∈ l, e < t.1) → ∀ t ∈ insS a b l, e < t.1
  | [], ha, _, t, ht => by simp [insS] at ht; subst ht; exact ha
  | s :: l, ha, hl, t, ht => by
    have hs := hl s (by simp)
    have hl' : ∀ t ∈ l, e < t.1 := fun t h => hl t (by simp [h])
    by_cases h1 : s.2.1 < a
    · rw [insS_lt h1] at ht
      rcases List.mem_cons.1 ht with rfl | ht
      · exact hs
      · exact insS_from ha hl' t ht
    · by_cases h2 : b < s.1
      · rw [insS_gt h1 h2] at ht
        rcases List.mem_cons.1 ht with rfl | ht
        · exact ha
        · exact hl t ht
      · rw [insS_mid h1 h2] at ht
        exact insS_from (by omega) hl' t ht
theorem insS_to {a b e : Int} : ∀ {l : List DSpan}, b ≤ e → (∀ t ∈ l, t.2.1 ≤ e) → ∀ t ∈ insS a b l, t.2.1 ≤ e
  | [], ha, _, t, ht => by simp [insS] at ht; subst ht; exact ha
  | s :: l, ha, hl, t, ht => by
    have hs := hl s (by simp)
    have hl' : ∀ t ∈ l, t.2.1 ≤ e := fun t h => hl t (by simp [h])
    by_cases h1 : s.2.1 < a
    · rw [insS_lt h1] at ht
      rcases List.mem_cons.1 ht with rfl | ht
      · exact hs
      · exact insS_to ha hl' t ht
    · by_cases h2 : b < s.1
      · rw [insS_gt h1 h2] at ht
        rcases List.mem_cons.1 ht with rfl | ht
        · exact ha
        · exact hl t ht
      · rw [insS_mid h1 h2] at ht
        exact insS_to (by omega) hl' t ht
theorem insS_len {a b : Int} : ∀ (l : List DSpan), (insS a b l).length ≤ l.length + 1
  | [] => by simp [insS]
  | s :: l => by
    by_cases h1 : s.2.1 < a
    · rw [insS_lt h1]; have := insS_len (a := a) (b := b) l; simp; omega
    · by_cases h2 : b < s.1
      · rw [insS_gt h1 h2]; simp
      · rw [insS_mid h1 h2]; have := insS_len (a := min a s.1) (b := max b s.2.1) l; simp; omega
theorem insS_ne {a b : Int} : ∀ (l : List DSpan), insS a b l ≠ []
  | [] => by simp [insS]
  | s :: l => by
    by_cases h1 : s.2.1 < a
    · rw [insS_lt h1]; simp
    · by_cases h2 : b < s.1
      · rw [insS_gt h1 h2]; simp
      · rw [insS_mid h1 h2]; exact insS_ne l
theorem insS_sp : ∀ {l : List DSpan} {a b : Int}, a ≤ b → SpL l → SpL (insS a b l)
  | [], a, b, hab, _ => hab
  | s :: l, a, b, hab, h => by
    have hs := h.head
    by_cases h1 : s.2.1 < a
    · rw [insS_lt h1]
      refine SpL.cons hs (insS_sp hab h.tail) fun t l' e => ?_
      exact insS_from (e := s.2.1) h1 h.all t (by rw [e]; simp)
    · by_cases h2 : b < s.1
      · rw [insS_gt h1 h2]
        exact ⟨hab, h2, h⟩
      · rw [insS_mid h1 h2]
        exact insS_sp (by omega) h.tail

/-- A place was seen. -/
def seenL (k : Int) (l : List DSpan) : Prop := ∃ s ∈ l, s.1 ≤ k ∧ k < s.2.1
theorem insS_covers {k : Int} : ∀ {l : List DSpan} {a b : Int}, a ≤ k → k < b → seenL k (insS a b l)
  | [], a, b, h1, h2 => ⟨(a, b, ()), by simp [insS], h1, h2⟩
  | s :: l, a, b, h1, h2 => by
    by_cases h3 : s.2.1 < a
    · rw [insS_lt h3]
      obtain ⟨t, ht, h⟩ := insS_covers (l := l) h1 h2
      exact ⟨t, by simp [ht], h⟩
    · by_cases h4 : b < s.1
      · rw [insS_gt h3 h4]
        exact ⟨(a, b, ()), by simp, h1, h2⟩
      · rw [insS_mid h3 h4]
        exact insS_covers (by omega) (by omega)
theorem insS_same : ∀ {l : List DSpan} {a b : Int}, a < b → SpL l → (∀ k, a ≤ k → k < b → seenL k l) → insS a b l = l
  | [], a, b, hab, _, hs => by obtain ⟨t, ht, _⟩ := hs a (by omega) hab; simp at ht
  | s :: l, a, b, hab, h, hs => by
    have hl := h.all
    have hlh := h.head
    have key : ∀ k, a ≤ k → k < b → (s.1 ≤ k ∧ k < s.2.1) ∨ (seenL k l ∧ s.2.1 < k) := by
      intro k h1 h2
      obtain ⟨t, ht, h3⟩ := hs k h1 h2
      rcases List.mem_cons.1 ht with rfl | ht
      · exact Or.inl h3
      · have := hl t ht
        exact Or.inr ⟨⟨t, ht, h3⟩, by omega⟩
    by_cases h1 : s.2.1 < a
    · rw [insS_lt h1, insS_same hab h.tail]
      intro k q1 q2
      rcases key k q1 q2 with q | q
      · omega
      · exact q.1
    · have ha : s.1 ≤ a ∧ a < s.2.1 := by
        rcases key a (by omega) hab with q | q
        · exact q
        · omega
      have hb : b ≤ s.2.1 := by
        apply Classical.byContradiction; intro hn
        rcases key s.2.1 (by omega) (by omega) with q | q <;> omega
      rw [insS_mid h1 (by omega), show min a s.1 = s.1 by omega, show max b s.2.1 = s.2.1 by omega]
      exact insS_self h
theorem fresh_iff {l : List DSpan} {a b : Int} (hab : a < b) (h : SpL l) : insS a b l ≠ l ↔ ∃ k, a ≤ k ∧ k < b ∧ ¬ seenL k l := by
  constructor
  · intro hne
    apply Classical.byContradiction; intro hn
    apply hne
    refine insS_same hab h fun k h1 h2 => ?_
    apply Classical.byContradiction; intro hk
    exact hn ⟨k, h1, h2, hk⟩
  · rintro ⟨k, h1, h2, h3⟩ e
    apply h3
    rw [← e]
    exact insS_covers h1 h2
theorem insS_twice {l : List DSpan} {a b : Int} (hab : a < b) (h : SpL l) : insS a b (insS a b l) = insS a b l :=
  insS_same hab (insS_sp (by omega) h) fun _ h1 h2 => insS_covers h1 h2

/-! ### As the program does it -/
def joinG : DSpan → List DSpan → List DSpan
  | c, [] => [c]
  | c, s :: l => if s.1 ≤ c.2.1 then joinG (c.1, max c.2.1 s.2.1, ()) l else c :: joinG s l
def joinT : List DSpan → List DSpan
  | [] => []
  | s :: l => joinG s l
theorem joinG_sp : ∀ {l : List DSpan} {s : DSpan}, SpL (s :: l) → joinG s l = s :: l
  | [], s, _ => rfl
  | t :: l, s, h => by
    have := h.next
    rw [joinG, if_neg (by omega), joinG_sp h.tail]
theorem joinG_ins : ∀ {l : List DSpan} {a b : Int}, a ≤ b → SpL l → (∀ t ∈ l, a ≤ t.1) → joinG (a, b, ()) l = insS a b l
  | [], a, b, _, _, _ => rfl
  | t :: l, a, b, hab, h, ha => by
    have h1 := ha t (by simp)
    have h2 := h.head
    by_cases h3 : b < t.1
    · rw [insS_gt (by omega) h3, joinG, if_neg (by show ¬ t.1 ≤ b; omega), joinG_sp h]
    · rw [insS_mid (by omega) h3, joinG, if_pos (by show t.1 ≤ b; omega)]
      show joinG (a, max b t.2.1, ()) l = _
      rw [show min a t.1 = a by omega]
      refine joinG_ins (by omega) h.tail fun u hu => ?_
      have := h.all u hu
      omega
theorem joinT_ins : ∀ {p q : List DSpan} {a b : Int}, a ≤ b → SpL (p ++ q) → (∀ t ∈ p, t.1 ≤ a) → (∀ t ∈ q, a ≤ t.1) → joinT (p ++ (a, b, ()) :: q) = insS a b (p ++ q)
  | [], q, a, b, hab, h, _, hq => joinG_ins hab h hq
  | s :: p, q, a, b, hab, h, hp, hq => by
    have h1 := hp s (by simp)
    have h2 : s.1 ≤ s.2.1 := h.head
    have hp' : ∀ t ∈ p, t.1 ≤ a := fun t ht => hp t (by simp [ht])
    by_cases h3 : s.2.1 < a
    · rw [List.cons_append, List.cons_append, insS_lt h3, ← joinT_ins hab h.tail hp' hq]
      cases p with
      | nil => show joinG s ((a, b, ()) :: q) = s :: joinG (a, b, ()) q; rw [joinG, if_neg (by show ¬ a ≤ s.2.1; omega)]
      | cons t p =>
        have : s.2.1 < t.1 := SpL.next (l := p ++ q) h
        show joinG s (t :: (p ++ (a, b, ()) :: q)) = s :: joinG t (p ++ (a, b, ()) :: q)
        rw [joinG, if_neg (by omega)]
    · cases p with
      | nil =>
        show joinG s ((a, b, ()) :: q) = insS a b (s :: q)
        rw [joinG, if_pos (by show a ≤ s.2.1; omega), insS_mid h3 (by omega), show min a s.1 = s.1 by omega]
        show joinG (s.1, max s.2.1 b, ()) q = _
        rw [Int.max_comm s.2.1 b]
        refine joinG_ins (by omega) h.tail fun u hu => ?_
        have := SpL.all (l := q) h u hu
        omega
      | cons t p =>
        exfalso
        have q1 : s.2.1 < t.1 := SpL.next (l := p ++ q) h
        have q2 := hp t (by simp)
        omega
theorem joinT_sp {l : List DSpan} (h : SpL l) : joinT l = l := by
  cases l with
  | nil => rfl
  | cons s l => exact joinG_sp h

/-! ### As the model does it -/
def mrgS (a b : Int) : List DSpan → List DSpan × Int × Int
  | [] => ([], a, b)
  | s :: l => if s.2.1 < a ∨ b < s.1 then (s :: (mrgS a b l).1, (mrgS a b l).2) else mrgS (min a s.1) (max b s.2.1) l
def putS (a b : Int) : List DSpan → List DSpan
  | [] => [(a, b, ())]
  | s :: l => if s.1 < a then s :: putS a b l else (a, b, ()) :: s :: l
theorem mrgS_none {a b : Int} : ∀ {l : List DSpan}, (∀ t ∈ l, b < t.1) → mrgS a b l = (l, a, b)
  | [], _ => rfl
  | s :: l, h => by
    have h1 := h s (by simp)
    rw [mrgS, if_pos (Or.inr h1), mrgS_none fun t ht => h t (by simp [ht])]
theorem mrgS_from {e : Int} : ∀ {l : List DSpan} {a b : Int}, e < a → (∀ t ∈ l, e < t.1) → e < (mrgS a b l).2.1
  | [], a, b, h, _ => h
  | s :: l, a, b, h, hl => by
    have h1 := hl s (by simp)
    have h2 : ∀ t ∈ l, e < t.1 := fun t ht => hl t (by simp [ht])
    rw [mrgS]
    split
    · exact mrgS_from h h2
    · exact mrgS_from (by omega) h2
theorem mrgS_to : ∀ {l : List DSpan} {a b : Int}, b ≤ (mrgS a b l).2.2
  | [], a, b => Int.le_refl _
  | s :: l, a, b => by
    rw [mrgS]
    split
    · exact mrgS_to
    · exact Int.le_trans (by omega) (mrgS_to (l := l) (a := min a s.1) (b := max b s.2.1))
theorem putS_ins : ∀ {l : List DSpan} {a b : Int}, a ≤ b → SpL l → putS (mrgS a b l).2.1 (mrgS a b l).2.2 (mrgS a b l).1 = insS a b l
  | [], a, b, _, _ => rfl
  | s :: l, a, b, hab, h => by
    have hs := h.head
    by_cases h1 : s.2.1 < a
    · rw [insS_lt h1, mrgS, if_pos (Or.inl h1)]
      show putS (mrgS a b l).2.1 (mrgS a b l).2.2 (s :: (mrgS a b l).1) = _
      have h2 := mrgS_from (b := b) (e := s.2.1) h1 h.all
      rw [putS, if_pos (by omega), putS_ins hab h.tail]
    · by_cases h2 : b < s.1
      · rw [insS_gt h1 h2, mrgS_none]
        · show putS a b (s :: l) = _
          rw [putS, if_neg (by omega)]
        · intro t ht
          rcases List.mem_cons.1 ht with rfl | ht
          · exact h2
          · have := h.all t ht; omega
      · rw [insS_mid h1 h2, mrgS, if_neg (by omega)]
        exact putS_ins (by omega) h.tail
/-- What is left of the head where a span begins at or below e. -/
theorem insS_head {e : Int} : ∀ {l : List DSpan} {a a' b : Int}, a ≤ e → a' ≤ e → a ≤ b → a' ≤ b → SpL l → (∀ t ∈ l, e < t.1) → ∃ x r, insS a b l = (a, x, ()) :: r ∧ insS a' b l = (a', x, ()) :: r ∧ b ≤ x
  | [], a, a', b, _, _, _, _, _, _ => ⟨b, [], rfl, rfl, Int.le_refl _⟩
  | s :: l, a, a', b, h1, h2, h3, h4, h, hl => by
    have hs := hl s (by simp)
    have hle := h.head
    have hl' : ∀ t ∈ l, e < t.1 := fun t ht => hl t (by simp [ht])
    by_cases h5 : b < s.1
    · exact ⟨b, s :: l, insS_gt (by omega) h5, insS_gt (by omega) h5, Int.le_refl _⟩
    · rw [insS_mid (by omega) h5, insS_mid (by omega) h5, show min a s.1 = a by omega, show min a' s.1 = a' by omega]
      obtain ⟨x, r, q1, q2, q3⟩ := insS_head (b := max b s.2.1) h1 h2 (by omega) (by omega) h.tail hl'
      exact ⟨x, r, q1, q2, by omega⟩
/-- What the model makes of a span among those behind next. -/
def modS (a b next : Int) (l : List DSpan) : List DSpan := if next < (mrgS a b l).2.2 then putS (mrgS a b l).2.1 (mrgS a b l).2.2 (mrgS a b l).1 else (mrgS a b l).1
def modN (next : Int) (l : List DSpan) : Int × List DSpan :=
  match l with
  | [] => (next, [])
  | s :: r => if s.1 ≤ next then (s.2.1, r) else (next, s :: r)
theorem modS_ins {a b next : Int} {l : List DSpan} (ha : 0 ≤ a) (hab : a < b) (hn : 0 ≤ next) (h : SpL ((0, next, ()) :: l)) : ∃ s r, insS a b ((0, next, ()) :: l) = s :: r ∧ s.1 = 0 ∧ modN next (modS a b next l) = (s.2.1, r) := by
  have hl := h.all
  have ht := h.tail
  replace hl : ∀ t ∈ l, next < t.1 := hl
  by_cases h1 : next < a
  · refine ⟨(0, next, ()), insS a b l, insS_lt h1, rfl, ?_⟩
    have h2 := mrgS_to (l := l) (a := a) (b := b)
    unfold modS
    rw [if_pos (by omega), putS_ins (by omega) ht]
    have h3 := insS_from (b := b) (e := next) h1 hl
    cases hi : insS a b l with
    | nil => exact absurd hi (insS_ne l)
    | cons s r =>
      have := h3 s (by rw [hi]; simp)
      unfold modN
      simp only
      rw [if_neg (by omega)]
  · have e1 : insS a b ((0, next, ()) :: l) = insS 0 (max b next) l := by
      rw [insS_mid (by exact h1) (by show ¬ b < 0; omega)]
      show insS (min a 0) (max b next) l = _
      rw [show min a 0 = 0 by omega]
    rw [e1]
    by_cases h2 : b ≤ next
    · rw [show max b next = next by omega]
      refine ⟨(0, next, ()), l, insS_self h, rfl, ?_⟩
      have h3 := mrgS_none (a := a) (b := b) (l := l) fun t ht => by have := hl t ht; omega
      unfold modS
      rw [h3]
      simp only
      rw [if_neg (by omega)]
      unfold modN
      cases l with
      | nil => rfl
      | cons s r =>
        have := hl s (by simp)
        simp only
        rw [if_neg (by omega)]
    · rw [show max b next = b by omega]
      obtain ⟨x, r, q1, q2, q3⟩ := insS_head (e := next) (a := 0) (a' := a) (b := b) hn (by omega) (by omega) (by omega) ht hl
      refine ⟨(0, x, ()), r, q1, rfl, ?_⟩
      have h3 := mrgS_to (l := l) (a := a) (b := b)
      unfold modS
      rw [if_pos (by omega), putS_ins (by omega) ht, q2]
      unfold modN
      simp only
      rw [if_pos (by omega)]

/-! ### Faults and order -/
theorem sps_sp : ∀ {l : List DSpan} {e : Int}, spsF e l = 0 → SpL l ∧ (∀ t ∈ l, e < t.1 ∧ t.1 < t.2.1 ∧ t.2.1 ≤ 1000100)
  | [], e, _ => ⟨trivial, by simp⟩
  | s :: l, e, h => by
    have hs : spF s e = 0 := by
      apply Classical.byContradiction; intro hn
      rw [spsF, if_neg hn] at h
      exact hn h
    rw [spsF, if_pos hs] at h
    obtain ⟨q1, q2⟩ := sps_sp h
    have hp := spF_parts hs
    refine ⟨SpL.cons (by omega) q1 fun t l' e' => (q2 t (by rw [e']; simp)).1, fun t ht => ?_⟩
    rcases List.mem_cons.1 ht with rfl | ht
    · exact hp
    · have := q2 t ht
      omega
theorem sp_sps : ∀ {l : List DSpan} {e : Int}, SpL l → (∀ t ∈ l, e < t.1 ∧ t.1 < t.2.1 ∧ t.2.1 ≤ 1000100) → spsF e l = 0
  | [], e, _, _ => rfl
  | s :: l, e, h, hl => by
    have h1 := hl s (by simp)
    rw [spsF, if_pos (spF_ok (by omega) (by omega))]
    refine sp_sps h.tail fun t ht => ?_
    have h2 := hl t (by simp [ht])
    have h3 := h.all t ht
    omega
/-- All that was seen: what lies below Next, and the spans. -/
def allS (x : DCatch) : List DSpan := (0, x.2.1, ()) :: x.2.2.1
theorem allS_sp {x : DCatch} (h : caF x = 0) : SpL (allS x) := by
  obtain ⟨_, h2, _, h4⟩ := ca_ok h
  obtain ⟨q1, q2⟩ := sps_sp h4
  exact SpL.cons h2.1 q1 fun t l' e => (q2 t (by rw [e]; simp)).1

/-! ### What is taken -/
def aftS (x : DCatch) (at' size : Int) : List DSpan := if 0 < size then insS at' (at' + size) (allS x) else allS x
def tkR (at' size : Int) : Bool := inC at' 0 1000000 && inC size 0 100 && decide (at' + size ≤ 1000000)
def zCat : DCatch := (0, 0, [], ())
def tkC (x : DCatch) (at' size : Int) : Int := if caF x = 0 then (if tkR at' size = true then (if 20 < (aftS x at' size).tail.length then 2 else 0) else 3) else caF x
def tkB (x : DCatch) (at' size : Int) : Bool := if tkC x at' size = 0 then decide (aftS x at' size ≠ allS x) else false
def tkV (x : DCatch) (at' size : Int) : DCatch := if tkC x at' size = 0 then (x.1, ((aftS x at' size).headD (0, 0, ())).2.1, (aftS x at' size).tail, ()) else zCat
theorem tk_f {x : DCatch} {a z : Int} (h : ¬ caF x = 0) : tkC x a z = caF x ∧ tkB x a z = false ∧ tkV x a z = zCat := by
  have e : tkC x a z = caF x := by unfold tkC; rw [if_neg h]
  exact ⟨e, by unfold tkB; rw [e, if_neg h], by unfold tkV; rw [e, if_neg h]⟩
theorem tk_r {x : DCatch} {a z : Int} (h : caF x = 0) (h2 : tkR a z = false) : tkC x a z = 3 ∧ tkB x a z = false ∧ tkV x a z = zCat := by
  have e : tkC x a z = 3 := by unfold tkC; rw [if_pos h, if_neg (by simp [h2])]
  exact ⟨e, by unfold tkB; rw [e, if_neg (by decide)], by unfold tkV; rw [e, if_neg (by decide)]⟩
theorem tk_m {x : DCatch} {a z : Int} (h : caF x = 0) (h2 : tkR a z = true) (h3 : 20 < (aftS x a z).tail.length) : tkC x a z = 2 ∧ tkB x a z = false ∧ tkV x a z = zCat := by
  have e : tkC x a z = 2 := by unfold tkC; rw [if_pos h, if_pos h2, if_pos h3]
  exact ⟨e, by unfold tkB; rw [e, if_neg (by decide)], by unfold tkV; rw [e, if_neg (by decide)]⟩
theorem tk_ok {x : DCatch} {a z : Int} (h : caF x = 0) (h2 : tkR a z = true) (h3 : ¬ 20 < (aftS x a z).tail.length) : tkC x a z = 0 ∧ tkB x a z = decide (aftS x a z ≠ allS x) ∧ tkV x a z = (x.1, ((aftS x a z).headD (0, 0, ())).2.1, (aftS x a z).tail, ()) := by
  have e : tkC x a z = 0 := by unfold tkC; rw [if_pos h, if_pos h2, if_neg h3]
  exact ⟨e, by unfold tkB; rw [e, if_pos rfl], by unfold tkV; rw [e, if_pos rfl]⟩
theorem tkR_yes {a z : Int} (h : tkR a z = true) : 0 ≤ a ∧ a ≤ 1000000 ∧ 0 ≤ z ∧ z ≤ 100 ∧ a + z ≤ 1000000 := by
  unfold tkR at h
  simp only [Bool.and_eq_true, decide_eq_true_eq] at h
  have h1 := inC_yes h.1.1
  have h2 := inC_yes h.1.2
  omega
theorem tk_tot (x : DCatch) (a z : Int) : totCatch (tkV x a z) ≤ 1048576 := by
  unfold tkV
  split
  · rename_i h
    unfold tkC at h
    split at h
    · split at h
      · split at h
        · cases h
        · show (aftS x a z).tail.length ≤ 1048576
          omega
      · cases h
    · rename_i hn; exact absurd h hn
  · simp [zCat, totCatch, totSpans]

/-! ### Other answers -/
def stcC (n : Int) : Int := if inC n 0 65535 = true then 0 else 3
def stcV (n : Int) : DCatch := (if inC n 0 65535 = true then n else 0, 0, [], ())
theorem stc_tot (n : Int) : totCatch (stcV n) ≤ 1048576 := by simp [stcV, totCatch, totSpans]
def plqC (x : DCatch) (q : Int) : Int := if caF x = 0 then unwC (q - x.1) x.2.1 else caF x
def plqV (x : DCatch) (q : Int) : Int := if caF x = 0 then unwV (q - x.1) x.2.1 else 0
theorem ahd_mod {a b c : Int} (h : b % 65536 = c % 65536) : ahd a b = ahd a c := by
  have e : (b - a) % 65536 = (c - a) % 65536 := by omega
  unfold ahd; rw [e]
theorem unw_mod {a b n : Int} (h : a % 65536 = b % 65536) : unwC a n = unwC b n ∧ unwV a n = unwV b n := by
  unfold unwC unwV; rw [ahd_mod h]; exact ⟨rfl, rfl⟩
def ackqV (x : DCatch) : Int := if caF x = 0 then wrp (x.1 + x.2.1) else 0
def sumW : List DSpan → Int
  | [] => 0
  | s :: l => (s.2.1 - s.1) + sumW l
def cauV (x : DCatch) : Int := if caF x = 0 then sumW (allS x) else 0
theorem sumW_at {l : List DSpan} {k : Nat} (hk : k < l.length) : sumW (l.drop k) = (l[k].2.1 - l[k].1) + sumW (l.drop (k + 1)) := by
  rw [List.drop_eq_getElem_cons hk]; rfl
end Go.Proofs.YtfpemobkkfobkaaGreatDoor

/- What the program and its model answer of controls: their faults, what is started, cut and falls; nothing that was in memory turns; no condition. -/
namespace Go.Proofs.YtfpemobkkfobkaaGreatDoor
open Go.RowKit
set_option linter.unusedVariables false

/-- v is lo to hi. -/
def inB (v lo hi : Int) : Bool := decide (lo ≤ v) && decide (v ≤ hi)
theorem inB_yes {v lo hi : Int} (h : inB v lo hi = true) : lo ≤ v ∧ v ≤ hi := by unfold inB at h; simpa using h
def winB (v : Int) : Bool := inB v 8 64
theorem winB_yes {v : Int} (h : winB v = true) : 8 ≤ v ∧ v ≤ 64 := inB_yes h
theorem winB_mk {v : Int} (h1 : 8 ≤ v) (h2 : v ≤ 64) : winB v = true := by unfold winB inB; simp [h1, h2]
/-- The fault of a control. -/
def ctF (a b p : Int) : Int := if (winB a && inB b 0 64 && inB p 0 63) = true then 0 else 3
theorem ctF_ok {a b p : Int} (h : ctF a b p = 0) : (8 ≤ a ∧ a ≤ 64) ∧ (0 ≤ b ∧ b ≤ 64) ∧ 0 ≤ p ∧ p ≤ 63 := by
  unfold ctF at h
  split at h
  · rename_i h2
    simp only [Bool.and_eq_true] at h2
    exact ⟨winB_yes h2.1.1, inB_yes h2.1.2, inB_yes h2.2⟩
  · cases h
theorem ctF_mk {a b p : Int} (h1 : 8 ≤ a) (h2 : a ≤ 64) (h3 : 0 ≤ b) (h4 : b ≤ 64) (h5 : 0 ≤ p) (h6 : p ≤ 63) : ctF a b p = 0 := by
  unfold ctF; rw [if_pos]; simp [winB, inB, *]
theorem ctF_two (a b p : Int) : ctF a b p = 0 ∨ ctF a b p = 3 := by unfold ctF; split <;> simp
def halfW (a : Int) : Int := max 8 (a / 2)

theorem iInB (v low high : Int) (w : World) :
    Calls Tryz.prog 37 #[.int .i64 v, .int .i64 low, .int .i64 high] w fun e w' => e = .returned (.bool (inB v low high)) ∧ w' = w := by
  by_cases h : low ≤ v
  · go_enter Tryz.func37, Tryz.ntmps37
    go_wp2
    go_ret
    exact ⟨ret_bool (by simp [inB, h]), rfl⟩
  · have h' : decide (low ≤ v) = false := by simp; omega
    go_enter Tryz.func37, Tryz.ntmps37
    go_wp2
    go_ret
    exact ⟨ret_bool (by simp [inB]; omega), rfl⟩
theorem sInB (v low high : Int) (w : World) :
    Calls Tryz.prog 29 #[.int .i64 v, .int .i64 low, .int .i64 high] w fun e w' => e = .returned (.bool (inB v low high)) ∧ w' = w := by
  by_cases h : low ≤ v
  · go_enter Tryz.func29, Tryz.ntmps29
    go_wp2
    go_ret
    exact ⟨ret_bool (by simp [inB, h]), rfl⟩
  · have h' : decide (low ≤ v) = false := by simp; omega
    go_enter Tryz.func29, Tryz.ntmps29
    go_wp2
    go_ret
    exact ⟨ret_bool (by simp [inB]; omega), rfl⟩
theorem iWinB (v : Int) (w : World) :
    Calls Tryz.prog 149 #[.int .i64 v] w fun e w' => e = .returned (.bool (winB v)) ∧ w' = w := by
  go_enter Tryz.func149, Tryz.ntmps149
  go_wp2_with (go_at_call 37; refine (iInB _ _ _ _).mono ?_; rintro e w' ⟨rfl, hw⟩; subst w')
  go_ret
  exact ⟨rfl, rfl⟩
theorem sWinB (v : Int) (w : World) :
    Calls Tryz.prog 121 #[.int .i64 v] w fun e w' => e = .returned (.bool (winB v)) ∧ w' = w := by
  go_enter Tryz.func121, Tryz.ntmps121
  go_wp2_with (go_at_call 29; refine (sInB _ _ _ _).mono ?_; rintro e w' ⟨rfl, hw⟩; subst w')
  go_ret
  exact ⟨rfl, rfl⟩
set_option maxHeartbeats 1000000 in
theorem iControlFault (a b p : Int) (w : World) :
    Calls Tryz.prog 129 #[.agg #[.int .i64 a, .int .i64 b, .int .i64 p]] w fun e w' => e = .returned (.int .i64 (ctF a b p)) ∧ Below w.heap.size w w' := by
  unfold ctF
  by_cases k1 : winB a = true
  · by_cases k2 : inB b 0 64 = true
    · by_cases k3 : inB p 0 63 = true
      · rw [if_pos (by simp [k1, k2, k3])]
        go_enter Tryz.func129, Tryz.ntmps129
        go_wp2_with (first | (go_at_call 149; refine (iWinB _ _).mono ?_; rintro e w' ⟨rfl, hw⟩; subst w') | (go_at_call 37; refine (iInB _ _ _ _).mono ?_; rintro e w' ⟨rfl, hw⟩; subst w'))
        go_ret
        exact ⟨rfl, by go_grown⟩
      · replace k3 : inB p 0 63 = false := by simpa using k3
        rw [if_neg (by simp [k3])]
        go_enter Tryz.func129, Tryz.ntmps129
        go_wp2_with (first | (go_at_call 149; refine (iWinB _ _).mono ?_; rintro e w' ⟨rfl, hw⟩; subst w') | (go_at_call 37; refine (iInB _ _ _ _).mono ?_; rintro e w' ⟨rfl, hw⟩; subst w'))
        go_ret
        exact ⟨rfl, by go_grown⟩
    · replace k2 : inB b 0 64 = false := by simpa using k2
      rw [if_neg (by simp [k2])]
      go_enter Tryz.func129, Tryz.ntmps129
      go_wp2_with (first | (go_at_call 149; refine (iWinB _ _).mono ?_; rintro e w' ⟨rfl, hw⟩; subst w') | (go_at_call 37; refine (iInB _ _ _ _).mono ?_; rintro e w' ⟨rfl, hw⟩; subst w'))
      go_ret
      exact ⟨rfl, by go_grown⟩
  · replace k1 : winB a = false := by simpa using k1
    rw [if_neg (by simp [k1])]
    go_enter Tryz.func129, Tryz.ntmps129
    go_wp2_with (first | (go_at_call 149; refine (iWinB _ _).mono ?_; rintro e w' ⟨rfl, hw⟩; subst w') | (go_at_call 37; refine (iInB _ _ _ _).mono ?_; rintro e w' ⟨rfl, hw⟩; subst w'))
    go_ret
    exact ⟨rfl, by go_grown⟩
set_option maxHeartbeats 1000000 in
theorem sControlFault (a b p : Int) (w : World) :
    Calls Tryz.prog 92 #[.agg #[.int .i64 a, .int .i64 b, .int .i64 p]] w fun e w' => e = .returned (.int .i64 (ctF a b p)) ∧ Below w.heap.size w w' := by
  unfold ctF
  by_cases k1 : winB a = true
  · by_cases k2 : inB b 0 64 = true
    · by_cases k3 : inB p 0 63 = true
      · rw [if_pos (by simp [k1, k2, k3])]
        go_enter Tryz.func92, Tryz.ntmps92
        go_wp2_with (first | (go_at_call 121; refine (sWinB _ _).mono ?_; rintro e w' ⟨rfl, hw⟩; subst w') | (go_at_call 29; refine (sInB _ _ _ _).mono ?_; rintro e w' ⟨rfl, hw⟩; subst w'))
        go_ret
        exact ⟨rfl, by go_grown⟩
      · replace k3 : inB p 0 63 = false := by simpa using k3
        rw [if_neg (by simp [k3])]
        go_enter Tryz.func92, Tryz.ntmps92
        go_wp2_with (first | (go_at_call 121; refine (sWinB _ _).mono ?_; rintro e w' ⟨rfl, hw⟩; subst w') | (go_at_call 29; refine (sInB _ _ _ _).mono ?_; rintro e w' ⟨rfl, hw⟩; subst w'))
        go_ret
        exact ⟨rfl, by go_grown⟩
    · replace k2 : inB b 0 64 = false := by simpa using k2
      rw [if_neg (by simp [k2])]
      go_enter Tryz.func92, Tryz.ntmps92
      go_wp2_with (first | (go_at_call 121; refine (sWinB _ _).mono ?_; rintro e w' ⟨rfl, hw⟩; subst w') | (go_at_call 29; refine (sInB _ _ _ _).mono ?_; rintro e w' ⟨rfl, hw⟩; subst w'))
      go_ret
      exact ⟨rfl, by go_grown⟩
  · replace k1 : winB a = false := by simpa using k1
    rw [if_neg (by simp [k1])]
    go_enter Tryz.func92, Tryz.ntmps92
    go_wp2_with (first | (go_at_call 121; refine (sWinB _ _).mono ?_; rintro e w' ⟨rfl, hw⟩; subst w') | (go_at_call 29; refine (sInB _ _ _ _).mono ?_; rintro e w' ⟨rfl, hw⟩; subst w'))
    go_ret
    exact ⟨rfl, by go_grown⟩
end Go.Proofs.YtfpemobkkfobkaaGreatDoor

/- What the program and its model answer where a control is cut or falls, and the law's own helpers on controls; nothing that was in memory turns; no condition. -/
namespace Go.Proofs.YtfpemobkkfobkaaGreatDoor
open Go.RowKit
set_option linter.unusedVariables false

theorem bf_below {w w' : World} {b : Nat} (h : ∀ o, w.frozen? ⟨b, o, none⟩ = false) (hb : b < w.heap.size) (k : Below w.heap.size w w') : ∀ o, w'.frozen? ⟨b, o, none⟩ = false :=
  fun o => (k.frozen (p := ⟨b, o, none⟩) hb).trans (h o)
theorem lToControl (a b p : Int) (w : World) :
    Calls Tryz.prog 96 #[.agg #[.int .i64 a, .int .i64 b, .int .i64 p]] w fun e w' => e = .returned (.agg #[.int .i64 a, .int .i64 b, .int .i64 p]) ∧ Below w.heap.size w w' := by
  go_enter Tryz.func96, Tryz.ntmps96
  go_wp2_with fail
  go_returns
  exact ⟨rfl, by go_grown⟩
theorem lEqControl (a b p : Int) (w : World) :
    Calls Tryz.prog 117 #[.agg #[.int .i64 a, .int .i64 b, .int .i64 p], .agg #[.int .i64 a, .int .i64 b, .int .i64 p]] w fun e w' => e = .returned (.bool true) ∧ Below w.heap.size w w' := by
  go_enter Tryz.func117, Tryz.ntmps117
  go_wp2_with fail
  go_ret
  exact ⟨rfl, by go_grown⟩
end Go.Proofs.YtfpemobkkfobkaaGreatDoor

/- Boxes of many cells: what one reads where a cell is set; no condition. -/
namespace Go.Proofs.YtfpemobkkfobkaaGreatDoor
open Go.RowKit
set_option linter.unusedVariables false

theorem bx_put {w : World} {b k : Nat} {A : Array Value} {v : Value} (h : ∀ o, w.cell? ⟨b, o, none⟩ = A[o]?) (hk : k < A.size) : ∀ o, (w.setCell ⟨b, k, none⟩ v).cell? ⟨b, o, none⟩ = (A.setIfInBounds k v)[o]? := fun o => by
  by_cases e : o = k
  · subst e
    rw [World.cell?_setCell_same _ _ _ ((h o).trans (Array.getElem?_eq_getElem hk)), Array.getElem?_setIfInBounds_self_of_lt hk]
  · rw [World.cell?_setCell_other _ _ _ _ (by simp), h o, Array.getElem?_setIfInBounds_ne (by omega)]
theorem bx_off {w : World} {b b' k : Nat} {v : Value} {A : Array Value} (h : ∀ o, w.cell? ⟨b, o, none⟩ = A[o]?) (hne : b ≠ b') : ∀ o, (w.setCell ⟨b', k, none⟩ v).cell? ⟨b, o, none⟩ = A[o]? := fun o => by
  rw [World.cell?_setCell_other _ _ _ _ (by intro e; simp only [Addr.mk.injEq] at e; omega)]; exact h o
theorem bxB {B : Nat} {w w' : World} {b : Nat} {cs : Array Value} (h : ∀ o, w.cell? ⟨b, o, none⟩ = cs[o]?) (k : Below B w w') (hb : b < B) : ∀ o, w'.cell? ⟨b, o, none⟩ = cs[o]? :=
  fun o => (k.cell (p := ⟨b, o, none⟩) hb).trans (h o)
theorem bxF {B : Nat} {w w' : World} {b : Nat} (h : ∀ o, w.frozen? ⟨b, o, none⟩ = false) (k : Below B w w') (hb : b < B) : ∀ o, w'.frozen? ⟨b, o, none⟩ = false :=
  fun o => (k.frozen (p := ⟨b, o, none⟩) hb).trans (h o)
end Go.Proofs.YtfpemobkkfobkaaGreatDoor
