/- What FitsStream answers, of the program and of its model: the same; what was in memory stays; no condition but that there are at most a million bytes. -/
import Derived.Test.YtnbcefdfdonljaaRows
import Derived.Test.YtnbcefdfdonljaaBase
import Derived.Test.YtnbcefdfdonljaaBytes
import Derived.Test.YtnbcefdfdonljaaMem
import Derived.Test.YtnbcefdfdonljaaGath
import Derived.Test.YtnbcefdfdonljaaImplGath
import Derived.Test.YtnbcefdfdonljaaSpecGath
import Derived.Test.YtnbcefdfdonljaaGathByte
import Derived.Test.YtnbcefdfdonljaaStr
import Derived.Test.YtnbcefdfdonljaaBox
import Derived.Test.YtnbcefdfdonljaaGathFits
import Derived.Test.YtnbcefdfdonljaaGathFit2
import Derived.Lib.Bytes
import Derived.Deep.DeepCutAuto
import Derived.Deep.RegionHeld3
namespace Go.Proofs.Ytnbcefdfdonljaa
open Go.RowKit
set_option linter.unusedVariables false

theorem u8_inj {x y : Int} (hx : 0 ≤ x ∧ x ≤ 255) (hy : 0 ≤ y ∧ y ≤ 255) (h : UInt8.ofNat x.toNat = UInt8.ofNat y.toNat) : x = y := by
  have := congrArg UInt8.toNat h
  simp at this
  omega
theorem map_inj : ∀ {l l' : List Int}, (∀ x ∈ l, 0 ≤ x ∧ x ≤ 255) → (∀ x ∈ l', 0 ≤ x ∧ x ≤ 255) → (l.map fun n => UInt8.ofNat n.toNat) = (l'.map fun n => UInt8.ofNat n.toNat) → l = l'
  | [], [], _, _, _ => rfl
  | [], y :: ys, _, _, h => by simp at h
  | x :: xs, [], _, _, h => by simp at h
  | x :: xs, y :: ys, hx, hy, h => by
    simp only [List.map_cons, List.cons.injEq] at h
    rw [u8_inj (hx x (by simp)) (hy y (by simp)) h.1, map_inj (fun z hz => hx z (by simp [hz])) (fun z hz => hy z (by simp [hz])) h.2]
theorem eqS_iff {l l' : List Int} (hx : ∀ x ∈ l, 0 ≤ x ∧ x ≤ 255) (hy : ∀ x ∈ l', 0 ≤ x ∧ x ≤ 255) : eqS l l' = decide (l = l') := by
  unfold eqS
  rw [Lib.strOfNums_toList, Lib.strOfNums_toList]
  by_cases h : l = l'
  · subst h; simp
  · have : ¬ Lib.bytesOf l = Lib.bytesOf l' := fun e => h (map_inj hx hy e)
    simp [h, this]

theorem RB.sub {w : World} {b off : Nat} {l : List Int} (h : RB w (some ⟨b, off, none⟩) l) (a n : Nat) (hle : a + n ≤ l.length) : RB w (some ⟨b, off + a, none⟩) ((l.drop a).take n) := by
  refine ⟨fun x hx => h.bd x (List.mem_of_mem_drop (List.mem_of_mem_take hx)), ?_⟩
  rcases h.mem with e | ⟨b', off', e, hc⟩
  · subst e; simp
  · cases e
    refine Or.inr ⟨b, off + a, rfl, fun i hi => ?_⟩
    have hi2 : i < n := by simp at hi; omega
    rw [show off + a + i = off + (a + i) by omega, hc (a + i) (by omega), List.getD_eq_getElem?_getD, List.getD_eq_getElem?_getD, List.getElem?_take_of_lt hi2, List.getElem?_drop]

theorem bEqualI (a b : Option Addr) (n m cap cap' : Nat) (l l' : List Int) (w : World) (hl : l.length = n) (hl' : l'.length = m) (ha : RB w a l) (hb : RB w b l') :
    Calls Try.prog 94 #[.slice a n cap, .slice b m cap'] w fun e w' => e = .returned (.bool (decide (l = l'))) ∧ w' = w := by
  refine (bEqual a b n m cap cap' l l' w hl hl' ha hb).mono ?_
  rintro e w' ⟨rfl, rfl⟩
  exact ⟨ret_bool (eqS_iff ha.bd hb.bd), rfl⟩

set_option maxHeartbeats 1000000 in
theorem bHasPrefix (a b : Option Addr) (cap cap' : Nat) (l d : List Int) (w : World) (ha : RB w a l) (hb : RB w b d) (hn : a = none → cap = 0) (h1 : l.length ≤ cap) (h2 : cap ≤ 9223372036854775807) :
    Calls Try.prog 47 #[.slice a l.length cap, .slice b d.length cap'] w fun e w' => e = .returned (.bool (decide (d.length ≤ l.length ∧ l.take d.length = d))) ∧ w' = w := by
  by_cases h : d.length ≤ l.length
  · have h' : (d.length : Int) ≤ (l.length : Int) := by omega
    have hcap : d.length ≤ cap := by omega
    have HE : Hid (decide (d.length ≤ l.length ∧ l.take d.length = d) = decide (l.take d.length = d)) := by show _ = _; simp [h]
    have HC : Hid (∀ c, Calls Try.prog 94 #[.slice a d.length c, .slice b d.length cap'] w fun e w' => e = .returned (.bool (decide (l.take d.length = d))) ∧ w' = w) := by
      intro c
      refine bEqualI a b _ _ c cap' (l.take d.length) d w (by simp; omega) rfl ?_ hb
      cases a with
      | none =>
        rcases ha.mem with e | ⟨_, _, e, _⟩
        · subst e; rw [List.take_nil]; exact RB.nil _ _
        · cases e
      | some x =>
        by_cases hl : l = []
        · subst hl; rw [List.take_nil]; exact RB.nil _ _
        · rcases ha.mem with e | ⟨b1, o1, e, hc⟩
          · exact absurd e hl
          · cases e
            have := ha.sub 0 d.length (by omega)
            simpa using this
    clear ha hb
    generalize decide (l.take d.length = d) = V at *
    generalize hnl : l.length = nl at *
    generalize d.length = nd at *
    cases a with
    | none =>
      have e1 := hn rfl
      subst e1
      have e2 : nd = 0 := by omega
      have e3 : nl = 0 := by omega
      subst e2 e3
      go_enter Try.func47, Try.ntmps47
      go_wp2_with (go_at_call 94; refine (HC.out _).mono ?_; rintro e w' ⟨rfl, hw⟩; subst w')
      go_ret
      exact ⟨ret_bool (by rw [HE.out]), rfl⟩
    | some x =>
      obtain ⟨b1, o1, s1⟩ := x
      go_enter Try.func47, Try.ntmps47
      go_wp2_with (go_at_call 94; refine (HC.out _).mono ?_; rintro e w' ⟨rfl, hw⟩; subst w')
      go_ret
      exact ⟨ret_bool (by rw [HE.out]), rfl⟩
  · have h' : (l.length : Int) < (d.length : Int) := by omega
    have hd : decide ((d.length : Int) ≤ (l.length : Int)) = false := by simp; omega
    have HE : Hid (decide (d.length ≤ l.length ∧ l.take d.length = d) = false) := by show _ = _; simp [h]
    clear ha hb
    generalize hnl : l.length = nl at *
    generalize hnd : d.length = nd at *
    go_enter Try.func47, Try.ntmps47
    go_wp2_with fail
    go_ret
    exact ⟨ret_bool HE.out.symm, rfl⟩
end Go.Proofs.Ytnbcefdfdonljaa
