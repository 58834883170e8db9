/- Whether nothing is left to do at a conn, by program and model; nothing that was in memory turns; no condition but that there are at most a million parts. -/
import Derived.Test.YtbdibjeemgkdaaaRows
import Derived.Test.YtbdibjeemgkdaaaBase
import Derived.Test.YtbdibjeemgkdaaaBytes
import Derived.Test.YtbdibjeemgkdaaaMem
import Derived.Test.YtbdibjeemgkdaaaHBase
import Derived.Test.YtbdibjeemgkdaaaHFlight
import Derived.Test.YtbdibjeemgkdaaaHSender
import Derived.Test.YtbdibjeemgkdaaaHSpan
import Derived.Test.YtbdibjeemgkdaaaHCatch
import Derived.Test.YtbdibjeemgkdaaaFlightDef
import Derived.Test.YtbdibjeemgkdaaaImplFlight
import Derived.Test.YtbdibjeemgkdaaaCatDef
import Derived.Test.YtbdibjeemgkdaaaCtrl
import Derived.Test.YtbdibjeemgkdaaaHSub
import Derived.Test.YtbdibjeemgkdaaaSubDef
import Derived.Test.YtbdibjeemgkdaaaSubImpl
import Derived.Test.YtbdibjeemgkdaaaHSubA
import Derived.Test.YtbdibjeemgkdaaaHSubs
import Derived.Test.YtbdibjeemgkdaaaGath
import Derived.Test.YtbdibjeemgkdaaaGathLaw
import Derived.Test.YtbdibjeemgkdaaaImplGath
import Derived.Test.YtbdibjeemgkdaaaAgg
import Derived.Test.YtbdibjeemgkdaaaRegionU
import Derived.Test.YtbdibjeemgkdaaaRegionQ
import Derived.Test.YtbdibjeemgkdaaaBox
import Derived.Test.YtbdibjeemgkdaaaSubBox
import Derived.Test.YtbdibjeemgkdaaaHConn
import Derived.Test.YtbdibjeemgkdaaaConnDef
import Derived.Test.YtbdibjeemgkdaaaSubSpec
import Derived.Test.YtbdibjeemgkdaaaConnSpec
import Derived.Test.YtbdibjeemgkdaaaConnImpl
import Derived.Test.YtbdibjeemgkdaaaConnImpl2
import Derived.Test.YtbdibjeemgkdaaaIter
import Derived.Test.YtbdibjeemgkdaaaIterSub
import Derived.Test.YtbdibjeemgkdaaaConnImplF
import Derived.Test.YtbdibjeemgkdaaaConnSpecF
import Derived.Test.YtbdibjeemgkdaaaConnSpec3
import Derived.Deep.RegionHeld3
import Derived.Deep.DeepCutAuto
import Derived.Deep.CutRange
import Derived.Deep.QuietTactic
import Derived.BigQuiet
import Derived.Test.YtbdibjeemgkdaaaConnMore
namespace Go.Proofs.Ytbdibjeemgkdaaa
open Go.RowKit
set_option linter.unusedVariables false
set_option maxRecDepth 8000


/-- A sub that has something to do: it was asked or answered, or has something on its way. -/
def busyB (x : DSub) : Bool := (decide (x.2.1 = 1) || decide (x.2.1 = 2)) || decide (0 < x.snd.2.2.2.1.length)
def quietB (c : DConn) : Bool := !(c.subs.any busyB) && (decide (c.acked = (c.wrote.length : Int)) && decide (c.fin = c.finDone))
def quietD (c : DConn) : Bool := decide (connF c = 0) && quietB c
theorem sub_fl {w : World} {B : Nat} {x : DSub} {cs : List Value} (hr : shSub.Rd w B x cs) : ∃ fa fc, cs[1]? = some (.int .i64 x.2.1) ∧ cs[9]? = some (.slice fa x.snd.2.2.2.1.length fc) := by
  obtain ⟨y0, y1, y2, y3, y4, y5, ⟨s0, s1, s2, fl, ⟨⟩⟩, ⟨c0, c1, sp, ⟨⟩⟩, ⟨k0, k1, k2, ⟨⟩⟩, ⟨⟩⟩ := x
  obtain ⟨u, v, e, -⟩ := rd_Sub hr
  subst e
  obtain ⟨ua, uc, va, vc, e1, e2, -⟩ := rd_SubF hr
  subst e1
  exact ⟨ua, uc, rfl, rfl⟩
theorem fl_le {l : List DSub} {k : Nat} (hk : k < l.length) (hT : totSubs l ≤ 1048576) : l[k].snd.2.2.2.1.length ≤ 1048576 := by
  have h1 := fsum_at totSub hk
  have h2 : totSub l[k] = (l[k].snd.2.2.2.1.length + fsum totFlight l[k].snd.2.2.2.1) + totCatch l[k].2.2.2.2.2.2.2.1 := rfl
  unfold totSubs at hT
  omega
def busyM (x : DSub) : Bool := decide (x.2.1 < 3) || decide (0 < x.snd.2.2.2.1.length)
def quietM (c : DConn) : Bool := !(c.subs.any busyM) && (decide (c.acked = (c.wrote.length : Int)) && (!c.fin || c.finDone))
theorem any_eq {l : List DSub} (h : ∀ k (hk : k < l.length), busyM l[k] = busyB l[k]) : l.any busyM = l.any busyB := by
  rw [Bool.eq_iff_iff, List.any_eq_true, List.any_eq_true]
  constructor
  · rintro ⟨x, hx, h2⟩
    obtain ⟨j, hj, rfl⟩ := List.getElem_of_mem hx
    exact ⟨_, hx, by rw [← h j hj]; exact h2⟩
  · rintro ⟨x, hx, h2⟩
    obtain ⟨j, hj, rfl⟩ := List.getElem_of_mem hx
    exact ⟨_, hx, by rw [h j hj]; exact h2⟩
theorem subs_okQ : ∀ (l pre : List DSub), subsFrom pre l = 0 → ∀ (k : Nat) (hk : k < l.length), subF l[k] = 0
  | [], _, _, k, hk => absurd hk (by simp)
  | x :: xs, pre, h, k, hk => by
    rw [subsFrom] at h
    by_cases h1 : subF x ≠ 0
    · rw [if_pos h1] at h; exact absurd h h1
    · rw [if_neg h1] at h
      match k, hk with
      | 0, _ => simpa using h1
      | k + 1, hk =>
        by_cases h2 : (pre.any fun y => decide (y.1 = x.1)) = true
        · rw [if_pos h2] at h; cases h
        · rw [if_neg h2] at h
          by_cases h3 : x.2.2.1 ≠ decide (0 < pre.length)
          · rw [if_pos h3] at h; cases h
          · rw [if_neg h3] at h
            exact subs_okQ xs _ h k (by simpa using hk)
theorem quiet_eq {c : DConn} (h : connF c = 0) : quietM c = quietB c := by
  obtain ⟨-, -, -, ho, -, -, -, -, hs, -, -⟩ := conn_ok h
  unfold quietM quietB
  rw [any_eq fun k hk => ?_]
  · unfold outBad at ho
    cases hd : c.fin <;> cases hf : c.finDone <;> simp [hd, hf] at ho ⊢
  · have h1 := (sub_ok (subs_okQ _ _ hs k hk)).1
    unfold busyM busyB
    have h2 : 1 ≤ c.subs[k].2.1 := by simp [subHead, inD] at h1; omega
    by_cases h3 : c.subs[k].2.1 < 3
    · rw [decide_eq_true h3]
      by_cases h4 : c.subs[k].2.1 = 1
      · rw [decide_eq_true h4]; rfl
      · rw [decide_eq_true (show c.subs[k].2.1 = 2 by omega)]; simp
    · rw [decide_eq_false h3, decide_eq_false (show ¬ c.subs[k].2.1 = 1 by omega), decide_eq_false (show ¬ c.subs[k].2.1 = 2 by omega)]; rfl
theorem sb_cellsF {w : World} {B : Nat} {l : List DSub} {a : Option Addr} {n cap : Nat} (h : shSubs.Rd w B l [.slice a n cap]) (hn : l.length = n) :
    ∃ VS : Fin n → List Value, SbCells w B a n VS ∧ ∀ k : Fin n, ∃ hk : k.1 < l.length, ∃ fa fc, (VS k)[1]? = some (.int .i64 l[k.1].2.1) ∧ (VS k)[9]? = some (.slice fa l[k.1].snd.2.2.2.1.length fc) := by
  have h1 : ∀ k : Fin n, ∃ cs : List Value, (∃ b off, a = some ⟨b, off, none⟩ ∧ b < B ∧ w.rangeAt b (off + k.1 * 16) cs ∧ cs.length = 16 ∧ ∀ v ∈ cs, v.oneCell' = true) ∧ ∃ hk : k.1 < l.length, ∃ fa fc, cs[1]? = some (.int .i64 l[k.1].2.1) ∧ cs[9]? = some (.slice fa l[k.1].snd.2.2.2.1.length fc) := fun k => by
    have hk : k.1 < l.length := by have := k.2; omega
    obtain ⟨b, off, cs, ha, hb, hl, hrg, hr, -⟩ := sub_at h k.1 hk
    exact ⟨cs, ⟨b, off, ha, hb, hrg, hl, rd_one _ _ _ hr⟩, hk, sub_fl hr⟩
  obtain ⟨f, hf⟩ := Classical.axiomOfChoice h1
  exact ⟨f, ⟨fun k => (hf k).1⟩, fun k => (hf k).2⟩
set_option maxHeartbeats 1000000 in
theorem iIsBusy (A : Array Value) (st : Int) (fa : Option Addr) (n fc : Nat) (w : World) (a1 : A[1]? = some (.int .i64 st)) (a9 : A[9]? = some (.slice fa n fc)) (hn : n ≤ 1048576) :
    Calls Try.prog 19 #[.agg A] w fun e w' => e = .returned (.bool ((decide (st = 1) || decide (st = 2)) || decide (0 < n))) ∧ Below w.heap.size w w' := by
  by_cases h1 : st = 1
  · have h1' : (st == 1) = true := by simp [h1]
    rw [decide_eq_true h1, Bool.true_or, Bool.true_or]
    clear h1
    go_enter Try.func19, Try.ntmps19
    go_wp2_with fail
    go_ret
    exact ⟨rfl, by go_grown⟩
  · have h1' : (st == 1) = false := by simp [h1]
    rw [decide_eq_false h1, Bool.false_or]
    clear h1
    by_cases h2 : st = 2
    · have h2' : (st == 2) = true := by simp [h2]
      rw [decide_eq_true h2, Bool.true_or]
      clear h2
      go_enter Try.func19, Try.ntmps19
      go_wp2_with fail
      go_ret
      exact ⟨rfl, by go_grown⟩
    · have h2' : (st == 2) = false := by simp [h2]
      rw [decide_eq_false h2, Bool.false_or]
      clear h2
      go_enter Try.func19, Try.ntmps19
      go_wp2_with fail
      go_ret
      exact ⟨rfl, by go_grown⟩
theorem iAllKnown (A : Array Value) (k : Int) (a5 : Option Addr) (n c5 : Nat) (w : World) (q5 : A[5]? = some (.slice a5 n c5)) (q7 : A[7]? = some (.int .i64 k)) (hn : n ≤ 1048576) :
    Calls Try.prog 20 #[.agg A] w fun e w' => e = .returned (.bool (decide (k = (n : Int)))) ∧ Below w.heap.size w w' := by
  by_cases h : k = (n : Int)
  · rw [decide_eq_true h]
    have h' : (k == (n : Int)) = true := by simp [h]
    clear h
    go_enter Try.func20, Try.ntmps20
    go_wp2_with fail
    go_ret
    exact ⟨rfl, by go_grown⟩
  · rw [decide_eq_false h]
    have h' : (k == (n : Int)) = false := by simp [h]
    clear h
    go_enter Try.func20, Try.ntmps20
    go_wp2_with fail
    go_ret
    exact ⟨rfl, by go_grown⟩
set_option maxHeartbeats 2000000 in
theorem sL11Quiet (c : DConn) (A : Array Value) (cb of : Nat) (w : World) (B : Nat) (h : ConnAt w B c A cb of) :
    Calls Try.prog 13 #[.pointer (some ⟨cb, of, none⟩)] w fun e w' => e = .returned (.bool (quietM c)) ∧ Below w.heap.size w w' := by
  obtain ⟨y0, y1, y2, y3, y4, d5, y6, y7, y8, d9, y10, y11, l, ⟨⟩⟩ := c
  obtain ⟨a5, c5, a9, c9, a9', c9', a12, c12, eA, -, -, r12, -⟩ := rd_Conn h.rd
  have hT := h.tot
  have x5 : w.cell? ⟨cb, of + 5, none⟩ = some (.slice a5 d5.length c5) := h.at_ 5 _ (by rw [eA]; rfl)
  have x6 : w.cell? ⟨cb, of + 6, none⟩ = some (.bool y6) := h.at_ 6 _ (by rw [eA]; rfl)
  have x7 : w.cell? ⟨cb, of + 7, none⟩ = some (.int .i64 y7) := h.at_ 7 _ (by rw [eA]; rfl)
  have x8 : w.cell? ⟨cb, of + 8, none⟩ = some (.bool y8) := h.at_ 8 _ (by rw [eA]; rfl)
  have x13 : w.cell? ⟨cb, of + 13, none⟩ = some (.slice a12 l.length c12) := h.at_ 13 _ (by rw [eA]; rfl)
  have hT2 : d5.length + gtTot d9 + totSubs l ≤ 1048576 := hT
  have hmx : l.length ≤ 1048576 := by unfold totSubs at hT2; omega
  have hm5 : d5.length ≤ 1048576 := by omega
  have HFL : Hid (∀ k (hk : k < l.length), l[k].snd.2.2.2.1.length ≤ 1048576) := fun k hk => fl_le hk (by omega)
  obtain ⟨R, hR⟩ : ∃ R : Bool, R = quietM (y0, y1, y2, y3, y4, d5, y6, y7, y8, d9, y10, y11, l, ()) := ⟨_, rfl⟩
  have HR : Hid (R = (!(l.any busyM) && (decide (y7 = (d5.length : Int)) && (!y6 || y8)))) := hR
  show Calls _ _ _ _ fun e w' => e = .returned (.bool (quietM (y0, y1, y2, y3, y4, d5, y6, y7, y8, d9, y10, y11, l, ()))) ∧ _
  rw [← hR]
  obtain ⟨n, hn⟩ : ∃ n, l.length = n := ⟨_, rfl⟩
  have HRd : Hid (shSubs.Rd w B l [.slice a12 n c12]) := by rw [← hn]; exact r12
  rw [hn] at x13 hmx
  have HN : Hid (l.length = n) := hn
  clear h eA r12 hT hR hn hT2
  generalize d5.length = n5 at *
  go_enter Try.func13, Try.ntmps13
  go_wp2_with fail
  go_loopw [3] (fun i wr => ∃ (k : Nat), k ≤ n ∧ i = .int .i64 k ∧ Hid (∀ j (hj : j < l.length), j < k → busyM l[j] = false) ∧ wr = w) (fun i _ => n - (intOf i).toNat)
  case atStart => exact ⟨0, Nat.zero_le _, rfl, fun j _ h => absurd h (Nat.not_lt_zero _), rfl⟩
  case round =>
    obtain ⟨k, hk, rfl, HQ, hw⟩ := hrel
    subst wr
    by_cases hlt : k < n
    · have hkl : k < l.length := by have := HN.out; omega
      have hki : (k : Int) < (n : Int) := by omega
      have hk0 : (0 : Int) ≤ (k : Int) := by omega
      obtain ⟨b, off, cs, ha, -, -, hrg, hrs, -⟩ := sub_at (HRd.out : shSubs.Rd w B l [.slice a12 n c12]) k hkl
      subst ha
      obtain ⟨fa, fc, e1, e9⟩ := sub_fl hrs
      have q1 : w.cell? ⟨b, off + k * 16 + 1, none⟩ = some (.int .i64 l[k].2.1) := hrg 1 _ e1
      have q9 : w.cell? ⟨b, off + k * 16 + 9, none⟩ = some (.slice fa l[k].snd.2.2.2.1.length fc) := hrg 9 _ e9
      have hfl := HFL.out k hkl
      have HBD : Hid (busyM l[k] = true → R = false) := fun hb => by rw [HR.out, List.any_eq_true.2 ⟨l[k], List.getElem_mem hkl, hb⟩]; rfl
      have HBN : Hid (busyM l[k] = false → ∀ j (hj : j < l.length), j < k + 1 → busyM l[j] = false) := fun hb j hj hjk => by
        by_cases e : j = k
        · subst e; exact hb
        · exact HQ.out j hj (by omega)
      have HBM : Hid (busyM l[k] = (decide (l[k].2.1 < 3) || decide (0 < l[k].snd.2.2.2.1.length))) := rfl
      generalize busyM l[k] = bm at *
      generalize l[k].snd.2.2.2.1.length = fn at *
      generalize l[k].2.1 = st at *
      clear e1 e9 hrg hrs HQ
      by_cases h3 : st < 3
      · have hR0 : R = false := HBD.out (by rw [HBM.out, decide_eq_true h3]; rfl)
        have h3' : decide (st < 3) = true := decide_eq_true h3
        subst hR0
        clear HBD HBN HBM h3 HR
        go_wp2_with fail
        go_ret
        exact ⟨rfl, Below.refl _ _⟩
      · have h3' : decide (st < 3) = false := decide_eq_false h3
        by_cases h4 : 0 < fn
        · have hR0 : R = false := HBD.out (by rw [HBM.out, decide_eq_true h4]; simp)
          have h4' : decide (0 < fn) = true := decide_eq_true h4
          subst hR0
          clear HBD HBN HBM h3 h4 HR
          go_wp2_with fail
          go_ret
          exact ⟨rfl, Below.refl _ _⟩
        · have HQ2 : Hid (∀ j (hj : j < l.length), j < k + 1 → busyM l[j] = false) := HBN.out (by rw [HBM.out, decide_eq_false h4, decide_eq_false h3]; rfl)
          have h4' : decide (0 < fn) = false := decide_eq_false h4
          clear HBD HBN HBM h3 h4
          go_wp2_with fail
          go_roundw
          case rel => exact ⟨k + 1, by omega, by go_num, HQ2, by first | trivial | rfl⟩
          case measure => simp [intOf]; omega
    · obtain rfl : k = n := by omega
      have hnb : l.any busyM = false := by
        cases hb : l.any busyM with
        | false => rfl
        | true =>
          obtain ⟨x, hx, h2⟩ := List.any_eq_true.1 hb
          obtain ⟨j, hj, rfl⟩ := List.getElem_of_mem hx
          rw [HQ.out j hj (by have := HN.out; omega)] at h2
          cases h2
      have hR2 : R = (decide (y7 = (n5 : Int)) && (!y6 || y8)) := by rw [HR.out, hnb]; rfl
      clear HQ HFL HRd HN HR hnb
      by_cases h5 : y7 = (n5 : Int)
      · have h5' : (y7 == (n5 : Int)) = true := by simp [h5]
        rw [decide_eq_true h5] at hR2
        clear h5
        cases y6 <;> cases y8 <;> (have hR3 := hR2; clear hR2; simp at hR3; subst hR3; go_upto_region 6 with fail; go_quiet (fail); go_wp2_with fail; go_ret; exact ⟨rfl, below_drewN (Below.refl _ _) _⟩)
      · have h5' : (y7 == (n5 : Int)) = false := by simp [h5]
        rw [decide_eq_false h5, Bool.false_and] at hR2
        subst hR2
        clear h5
        go_upto_region 6 with fail
        go_quiet (fail)
        go_wp2_with fail
        go_ret
        exact ⟨rfl, below_drewN (Below.refl _ _) _⟩
set_option maxHeartbeats 1000000 in
theorem sQuietConn (c : DConn) (A : Array Value) (w : World) (B : Nat) (hr : shConn.Rd w B c A.toList) (hB : B ≤ w.heap.size) (hT : totConn c ≤ 1048576) :
    Calls Try.prog 5 #[.agg A] w fun e w' => e = .returned (.bool (quietD c)) ∧ Below w.heap.size w w' := by
  have HAT : Hid (∀ W, Below w.heap.size w W → (∀ o, W.cell? ⟨w.heap.size, o, none⟩ = A[o]?) → ConnAt W B c A w.heap.size 0) := fun W hW hk => ConnAt.of (bx_range hk) (Sh.Rd.below hr hB hW) (Nat.le_trans hB hW.size) hT
  have HF : Hid (∀ W, Below w.heap.size w W → (∀ o, W.cell? ⟨w.heap.size, o, none⟩ = A[o]?) → Calls Try.prog 12 #[.pointer (some ⟨w.heap.size, 0, none⟩)] W fun e w' => e = .returned (.int .i64 (connF c)) ∧ Below W.heap.size W w') := fun W hW hk => sL9Fault c A w.heap.size 0 W B (HAT.out W hW hk)
  have H2 : Hid (∀ W, Below w.heap.size w W → (∀ o, W.cell? ⟨w.heap.size, o, none⟩ = A[o]?) → Calls Try.prog 13 #[.pointer (some ⟨w.heap.size, 0, none⟩)] W fun e w' => e = .returned (.bool (quietM c)) ∧ Below W.heap.size W w') := fun W hW hk => sL11Quiet c A w.heap.size 0 W B (HAT.out W hW hk)
  obtain ⟨R, hR⟩ : ∃ R, R = quietD c := ⟨_, rfl⟩
  rw [← hR]
  have HR1 : Hid (¬ connF c = 0 → R = false) := fun h => by rw [hR]; unfold quietD; rw [decide_eq_false h]; rfl
  have HR2 : Hid (connF c = 0 → R = quietM c) := fun h => by rw [hR, quiet_eq h]; unfold quietD; rw [decide_eq_true h]; rfl
  clear hr hR HAT
  generalize connF c = F at *
  generalize quietM c = Q at *
  by_cases hF : F = 0
  case neg =>
    have e1 := HR1.out hF
    subst e1
    have hF' : (F == 0) = false := by simp [hF]
    clear hF HR1 HR2 H2
    go_enter Try.func5, Try.ntmps5
    go_wp2_with fail
    refine (HF.out _ (by go_grown) (bx_al _ _ _)).mono ?_
    rintro e w1 ⟨rfl, hb⟩
    have HB : Hid (Below w.heap.size w w1) := (bl_new hb).1
    clear hb
    go_wp2_with fail
    go_ret
    exact ⟨rfl, HB.out⟩
  subst hF
  have e1 := HR2.out rfl
  subst e1
  clear HR1 HR2
  go_enter Try.func5, Try.ntmps5
  go_wp2_with fail
  refine (HF.out _ (by go_grown) (bx_al _ _ _)).mono ?_
  rintro e w1 ⟨rfl, hb⟩
  have k0 := bx_new hb
  have HB : Hid (Below w.heap.size w w1) := (bl_new hb).1
  clear hb
  go_wp2_with (first | (go_at_call 13; refine (H2.out _ HB.out k0).mono ?_; rintro e w2 ⟨rfl, hb⟩; replace HB : Hid (Below w.heap.size w w2) := HB.out.trans (hb.mono HB.out.size); clear hb))
  go_ret
  exact ⟨rfl, HB.out⟩
set_option maxHeartbeats 2000000 in
theorem iQuietConn (c : DConn) (A : Array Value) (w : World) (B : Nat) (hr : shConn.Rd w B c A.toList) (hB : B ≤ w.heap.size) (hT : totConn c ≤ 1048576) :
    Calls Try.prog 7 #[.agg A] w fun e w' => e = .returned (.bool (quietD c)) ∧ Below w.heap.size w w' := by
  have hz : A.size = 14 := rd_size hr
  have HI : Hid ((Try.prog.info? 36).map (·.size) = some A.toList.length) := by show _ = _; rw [Array.length_toList, hz]; exact (by kernel_rfl : (Try.prog.info? 36).map (·.size) = some 14)
  have HRGX : Hid (∀ W : World, (∀ o, W.cell? ⟨w.heap.size, o, none⟩ = A[o]?) → Hid (W.rangeAt w.heap.size 0 A.toList)) := fun W hk => bx_range hk
  have HF : Hid (∀ W, Below w.heap.size w W → Calls Try.prog 17 #[.agg A] W fun e w' => e = .returned (.int .i64 (connF c)) ∧ Below W.heap.size W w') := fun W hW => iConnFault c A W B (Sh.Rd.below hr hB hW) (Nat.le_trans hB hW.size) hT
  obtain ⟨R, hR⟩ : ∃ R, R = quietD c := ⟨_, rfl⟩
  rw [← hR]
  have HR1 : Hid (¬ connF c = 0 → R = false) := fun h => by rw [hR]; unfold quietD; rw [decide_eq_false h]; rfl
  obtain ⟨y0, y1, y2, y3, y4, d5, y6, y7, y8, d9, y10, y11, l, ⟨⟩⟩ := c
  have HR2 : Hid (connF (y0, y1, y2, y3, y4, d5, y6, y7, y8, d9, y10, y11, l, ()) = 0 → R = (!(l.any busyB) && (decide (y7 = (d5.length : Int)) && decide (y6 = y8)))) := fun h => by rw [hR]; unfold quietD; rw [decide_eq_true h]; rfl
  obtain ⟨a5, c5, a9, c9, a9', c9', a12, c12, eA, -, -, r12, -⟩ := rd_Conn hr
  have hT2 : d5.length + gtTot d9 + totSubs l ≤ 1048576 := hT
  have hmx : l.length ≤ 1048576 := by unfold totSubs at hT2; omega
  have hm5 : d5.length ≤ 1048576 := by omega
  obtain ⟨n, hn⟩ : ∃ n, l.length = n := ⟨_, rfl⟩
  have x5 : A[5]? = some (.slice a5 d5.length c5) := get_of eA 5
  have x6 : A[6]? = some (.bool y6) := get_of eA 6
  have x7 : A[7]? = some (.int .i64 y7) := get_of eA 7
  have x8 : A[8]? = some (.bool y8) := get_of eA 8
  have x13 : A[13]? = some (.slice a12 n c12) := by rw [get_of eA 13, ← hn]; rfl
  rw [hn] at hmx
  have HHO : Hid (∀ W, Below w.heap.size w W → Calls Try.prog 18 #[.slice a12 n c12, .func (.func 19) #[] #[]] W fun e w' => e = .returned (.bool (l.any busyB)) ∧ Below W.heap.size W w') := fun W hW => by
    obtain ⟨VS, h1, h2⟩ := sb_cellsF (by have h := Sh.Rd.below (s := shSubs) r12 hB hW; rw [hn] at h; exact h) hn
    refine iHasOneS a12 n c12 hmx VS 19 (enters_of Try.func19 (by kernel_rfl) rfl) #[] (fun k => busyB (l[k.1]'(by have := k.2; omega))) _ W (fun h => ?_) (fun h i => ?_) (h1.mono (Nat.le_trans hB hW.size)) (fun W' k hW' => ?_)
    · obtain ⟨x, hx, hp⟩ := List.any_eq_true.1 h
      obtain ⟨j, hj, rfl⟩ := List.getElem_of_mem hx
      exact ⟨⟨j, by omega⟩, hp⟩
    · have hi : i.1 < l.length := by have := i.2; omega
      cases hd : busyB l[i.1] with
      | false => rfl
      | true =>
        have : l.any busyB = true := List.any_eq_true.2 ⟨l[i.1], List.getElem_mem hi, hd⟩
        rw [this] at h; cases h
    · obtain ⟨hk, fa, fc, e1, e9⟩ := h2 k
      exact iIsBusy (VS k).toArray l[k.1].2.1 fa _ fc W' (by rw [List.getElem?_toArray]; exact e1) (by rw [List.getElem?_toArray]; exact e9) (fl_le hk (by omega))
  have HAK : Hid (∀ W, Calls Try.prog 20 #[.agg A] W fun e w' => e = .returned (.bool (decide (y7 = (d5.length : Int)))) ∧ Below W.heap.size W w') := fun W => iAllKnown A y7 a5 d5.length c5 W x5 x7 hm5
  have hmf : ∀ (fn : Fn) (first cap : Array Value) (w : World), (Instr.makeFunc fn first cap).run Try.prog w = .ok (.func fn first cap) w := fun _ _ _ _ => rfl
  clear hr hR hz eA r12 hn hT hT2
  generalize connF (y0, y1, y2, y3, y4, d5, y6, y7, y8, d9, y10, y11, l, ()) = F at *
  generalize l.any busyB = L at *
  generalize decide (y7 = (d5.length : Int)) = K at *
  have HRG := HRGX.out (w.alloc (.cells A 36)) (bx_al _ _ _)
  by_cases hF : F = 0
  case neg =>
    have e1 := HR1.out hF
    subst e1
    have hF' : (F != 0) = true := by simp [hF]
    clear hF HR1 HR2 HHO HAK
    go_enter Try.func7, Try.ntmps7
    go_wp2_with (refine wpList_load_mid rfl 36 _ rfl _ _ (by rfl) A.toList _ HRG.out Try.underlying36 rfl HI.out ?_)
    refine (HF.out _ (by go_grown)).mono ?_
    rintro e w1 ⟨rfl, hb⟩
    have HB : Hid (Below w.heap.size w w1) := (bl_new hb).1
    clear hb
    go_wp2_with fail
    go_ret
    exact ⟨rfl, HB.out⟩
  subst hF
  have e1 := HR2.out rfl
  clear HR1 HR2
  have HE : Hid _ := e1
  clear e1
  cases L with
  | true =>
    have hR : R = false := HE.out
    subst hR
    clear HE HAK
    go_enter Try.func7, Try.ntmps7
    go_wp2_with (refine wpList_load_mid rfl 36 _ rfl _ _ (by rfl) A.toList _ HRG.out Try.underlying36 rfl HI.out ?_)
    refine (HF.out _ (by go_grown)).mono ?_
    rintro e w1 ⟨rfl, hb⟩
    have k0 := bx_new hb
    have HB : Hid (Below w.heap.size w w1) := (bl_new hb).1
    clear hb HF HRG
    go_wp2_with (first | (go_at_call 18; refine (HHO.out _ HB.out).mono ?_; rintro e w2 ⟨rfl, hb⟩; replace HB : Hid (Below w.heap.size w w2) := HB.out.trans (hb.mono HB.out.size); clear hb))
    go_ret
    exact ⟨rfl, HB.out⟩
  | false =>
  have hR : R = (K && decide (y6 = y8)) := HE.out
  clear HE
  have HE : Hid _ := hR
  clear hR
  go_enter Try.func7, Try.ntmps7
  go_wp2_with (refine wpList_load_mid rfl 36 _ rfl _ _ (by rfl) A.toList _ HRG.out Try.underlying36 rfl HI.out ?_)
  refine (HF.out _ (by go_grown)).mono ?_
  rintro e w1 ⟨rfl, hb⟩
  have k0 := bx_new hb
  have HB : Hid (Below w.heap.size w w1) := (bl_new hb).1
  have z0 := (bl_new hb).2
  clear hb HF HRG
  go_upto_region 3 with (first | (go_at_call 18; refine (HHO.out _ HB.out).mono ?_; rintro e w2 ⟨rfl, hb⟩; replace HB : Hid (Below w.heap.size w w2) := HB.out.trans (hb.mono HB.out.size); replace k0 := bx_below k0 z0 hb; replace z0 := Nat.lt_of_lt_of_le z0 hb.size; clear hb))
  have HRG := HRGX.out _ k0
  go_wp2_with (refine wpList_load_mid rfl 36 _ rfl _ _ (by rfl) A.toList _ HRG.out Try.underlying36 rfl HI.out ?_)
  refine (HAK.out _).mono ?_
  rintro e w3 ⟨rfl, hb⟩
  replace k0 := bx_below k0 z0 hb
  replace HB : Hid (Below w.heap.size w w3) := HB.out.trans (hb.mono HB.out.size)
  clear hb HAK HRG
  cases K with
  | false =>
    have hR : R = false := HE.out
    subst hR
    go_wp2_with fail
    go_ret
    exact ⟨rfl, HB.out⟩
  | true =>
    have hR : R = decide (y6 = y8) := HE.out
    clear HE
    cases y6 <;> cases y8 <;> (have hR3 := hR; clear hR; simp at hR3; subst hR3; go_wp2_with fail; go_ret; exact ⟨rfl, HB.out⟩)
end Go.Proofs.Ytbdibjeemgkdaaa
