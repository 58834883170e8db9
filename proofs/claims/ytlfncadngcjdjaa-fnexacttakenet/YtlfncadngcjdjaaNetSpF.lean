/- The model's NetFault, and what asks for a place; nothing that was in memory turns; no condition. -/
import Derived.Test.YtlfncadngcjdjaaRows
import Derived.Test.YtlfncadngcjdjaaBase
import Derived.Test.YtlfncadngcjdjaaBytes
import Derived.Test.YtlfncadngcjdjaaMem
import Derived.Test.YtlfncadngcjdjaaMemOpen
import Derived.Test.YtlfncadngcjdjaaMemRow
import Derived.Test.YtlfncadngcjdjaaHBase
import Derived.Test.YtlfncadngcjdjaaHMark
import Derived.Test.YtlfncadngcjdjaaBox
import Derived.Test.YtlfncadngcjdjaaSubBox
import Derived.Test.YtlfncadngcjdjaaAgg
import Derived.Test.YtlfncadngcjdjaaMSegs
import Derived.Test.YtlfncadngcjdjaaHSegs
import Derived.Test.YtlfncadngcjdjaaHBool
import Derived.Test.YtlfncadngcjdjaaNetSeg
import Derived.Test.YtlfncadngcjdjaaNetDef
import Derived.Deep.DeepCutAuto
import Derived.Deep.MidRow
namespace Go.Proofs.Ytlfncadngcjdjaa
open Go.RowKit
set_option linter.unusedVariables false
set_option maxRecDepth 8000

theorem info_SG12 : (Try.prog.info? 31).map (·.size) = some 12 := by kernel_rfl
theorem seg_path {w : World} {B : Nat} {x : DSegm} {cs : List Value} (h : shSegm.Rd w B x cs) : cs[0]? = some (.int .i64 x.1) := by
  obtain ⟨y0, y1, y2, y3, y4, y5, y6, y7, y8, y9, y10, ld, ⟨⟩⟩ := x
  obtain ⟨u, e, -⟩ := rd_Segm h
  rw [e]; rfl
/-- Three bools by their places. -/
theorem dead_at {w : World} {B : Nat} {t : TypeId} {l : List Bool} {a : Option Addr} {n cap : Nat} (h : (bls t).Rd w B l [.slice a n cap]) (hl : l.length = 3) : n = 3 ∧ ∃ b off, a = some ⟨b, off, none⟩ ∧ b < B ∧ ∀ p, p < 3 → w.cell? ⟨b, off + p, none⟩ = some (.bool (l.getD p false)) := by
  obtain ⟨a', cap', e, -, b, off, h1, h2⟩ := rd_bls h
  simp only [Value.slice.injEq] at e
  obtain ⟨rfl, rfl, -⟩ := e
  obtain ⟨q1, q2⟩ := h1 (by intro e; subst e; simp at hl)
  refine ⟨hl, b, off, q1, q2, fun p hp => ?_⟩
  rw [h2 p (by omega), List.getD_eq_getElem?_getD, List.getElem?_eq_getElem (by omega)]; rfl

set_option maxHeartbeats 4000000 in
theorem sL12Fault (t : TypeId) (bag : List DSegm) (dead : List Bool) (p : Nat) (vb vd : Value) (w : World) (B : Nat) (kP : ∀ o, w.cell? ⟨p, o, none⟩ = (#[vb, vd] : Array Value)[o]?) (hp : p < w.heap.size) (hb : shSegms.Rd w B bag [vb]) (hd : (bls t).Rd w B dead [vd]) (hB : B ≤ w.heap.size) :
    Calls Try.prog 47 #[.pointer (some ⟨p, 0, none⟩)] w fun e w' => e = .returned (.int .i64 (netF bag dead)) ∧ Below w.heap.size w w' := by
  obtain ⟨a, cap, ev⟩ := row_form hb
  simp only [List.cons.injEq, and_true] at ev
  subst ev
  obtain ⟨da, dcap, rfl, hdm, -⟩ := rd_bls hd
  have hmx : bag.length ≤ 9223372036854775807 := row_max hb
  obtain ⟨R, hR⟩ : ∃ R, R = netF bag dead := ⟨_, rfl⟩
  rw [← hR]
  by_cases h60 : 60 < bag.length
  · have : R = 2 := by rw [hR]; unfold netF; rw [if_pos h60]
    subst this
    clear hb hd hR
    generalize bag.length = n at *
    generalize dead.length = m at *
    have h60' : decide ((60 : Int) < (n : Int)) = true := by simp; omega
    go_enter Try.func47, Try.ntmps47
    go_wp2_with fail
    go_ret
    exact ⟨rfl, Below.refl _ _⟩
  by_cases h3 : dead.length = 3
  · have e1 : R = carF dead bag := by rw [hR]; unfold netF; rw [if_neg h60, if_neg (by simp [h3])]
    obtain ⟨hd3, db, doff, hda, hdb, hdc⟩ := dead_at hd h3
    subst hda
    have HR : Hid (carF dead (bag.drop 0) = R) := by rw [e1]; rfl
    have HRd : Hid (∀ W, Below w.heap.size w W → shSegms.Rd W B bag [.slice a bag.length cap]) := fun W hW => hb.below hB hW
    have HDC : Hid (∀ W, Below w.heap.size w W → ∀ p, p < 3 → W.cell? ⟨db, doff + p, none⟩ = some (.bool (dead.getD p false))) := fun W hW p hp => (hW.cell (p := ⟨db, doff + p, none⟩) (show db < _ by omega)).trans (hdc p hp)
    have HKP : Hid (∀ W, Below w.heap.size w W → ∀ o, W.cell? ⟨p, o, none⟩ = (#[.slice a bag.length cap, .slice (some ⟨db, doff, none⟩) 3 dcap] : Array Value)[o]?) := fun W hW => bx_below (by rw [h3] at kP; exact kP) hp hW
    have hl60 : bag.length ≤ 60 := by omega
    obtain ⟨n, hn⟩ : ∃ n, bag.length = n := ⟨_, rfl⟩
    have HN : Hid (bag.length = n) := hn
    rw [hn] at HRd HKP hl60
    have k0 := HKP.out w (Below.refl _ _)
    have h60' : decide ((60 : Int) < (n : Int)) = false := by simp; omega
    clear kP hb hd hR e1 hdc hmx hn h60 hdm h3 hd3
    go_enter Try.func47, Try.ntmps47
    go_upto_region 6 with fail
    clear k0
    go_loopw [3] (fun i wr => ∃ k : Nat, k ≤ n ∧ i = .int .i64 k ∧ Hid (carF dead (bag.drop k) = R) ∧ Below w.heap.size w wr) (fun i _ => n - (intOf i).toNat)
    case atStart => exact ⟨0, Nat.zero_le _, rfl, HR, Below.refl _ _⟩
    case round =>
      clear HR
      obtain ⟨k, hk, rfl, HR, hbl⟩ := hrel
      have k0 := HKP.out wr hbl
      by_cases hlt : k < n
      · have hkl : k < bag.length := by have := HN.out; omega
        obtain ⟨b, off, cs, ha, hb, hlen, hrg, r3⟩ := row_at (HRd.out wr hbl) k hkl
        subst ha
        replace hlen : cs.length = 12 := hlen
        replace hrg : wr.rangeAt b (off + k * 12) cs := hrg
        have HI : Hid ((Try.prog.info? 31).map (·.size) = some cs.length) := by show _ = _; rw [hlen]; exact info_SG12
        have HC : Hid (∀ W, Calls Try.prog 48 #[.agg cs.toArray] W fun e w' => e = .returned (.int .i64 (sgF bag[k])) ∧ Below W.heap.size W w') := fun W => sSegF bag[k] cs.toArray W r3
        have hc0 : wr.cell? ⟨b, off + k * 12, none⟩ = some (.int .i64 bag[k].1) := by have := hrg 0 _ (seg_path r3); simpa using this
        have HG : Hid _ := hrg
        have HST : Hid _ := HR.out.symm.trans (carF_drop hkl)
        have HOK : Hid (sgF bag[k] = 0 → 0 ≤ bag[k].1 ∧ bag[k].1 ≤ 2) := fun h => ⟨(sgF_ok h).1, (sgF_ok h).2.1⟩
        have HDD : Hid (deadAt dead bag[k] = dead.getD bag[k].1.toNat false) := rfl
        have hk0 : (0 : Int) ≤ (k : Int) := by omega
        have hki : (k : Int) < (n : Int) := by omega
        have hbw : b < wr.heap.size := by have := hbl.size; omega
        clear r3 hrg hlen HR
        generalize bag[k] = x at *
        have HB : Hid _ := hbl
        go_wp2_with (refine wpList_load_mid rfl 31 _ rfl _ _ (by rfl) cs _ HG.out Try.underlying31 rfl HI.out ?_)
        refine (HC.out _).mono ?_
        rintro e w1 ⟨rfl, hb1⟩
        have HB1 : Hid (Below w.heap.size w w1) := HB.out.trans (hb1.mono HB.out.size)
        replace hc0 := (hb1.cell (p := ⟨b, off + k * 12, none⟩) hbw).trans hc0
        clear k0 hb1 HC HG HI
        have k0 := HKP.out w1 HB1.out
        by_cases hs : sgF x = 0
        · obtain ⟨p0, p1⟩ := HOK.out hs
          obtain ⟨pn, hpn⟩ : ∃ pn : Nat, x.1 = pn := ⟨x.1.toNat, by omega⟩
          have hdc := HDC.out w1 HB1.out pn (by omega)
          have hdd := HDD.out
          rw [hpn] at hc0 hdd
          have e0 : ((pn : Int)).toNat = pn := by omega
          rw [e0] at hdd
          have hst := HST.out
          rw [if_neg (by simp [hs])] at hst
          have q0 : (0 : Int) ≤ (pn : Int) := by omega
          have q1 : (pn : Int) < 3 := by omega
          rw [← hdd] at hdc
          rw [hs]
          have hbl1 := HB1.out
          cases hdx : deadAt dead x with
          | true =>
            rw [hdx] at hdc
            rw [if_pos hdx] at hst
            subst hst
            clear HST hdd hdx HOK HDD hpn
            go_wp2_with fail
            go_quiet (fail)
            go_wp2_with fail
            go_ret
            exact ⟨rfl, below_drewN HB1.out _⟩
          | false =>
            rw [hdx] at hdc
            rw [if_neg (by simp [hdx])] at hst
            have HR2 : Hid (carF dead (bag.drop (k + 1)) = R) := hst.symm
            clear HST hdd hdx HOK HDD hpn hst
            go_wp2_with fail
            go_quiet (fail)
            go_wp2_with fail
            go_roundw
            case rel => exact ⟨k + 1, by omega, by go_num, HR2, below_drewN HB1.out _⟩
            case measure => simp [intOf]; omega
        · have hst := HST.out
          rw [if_pos hs] at hst
          have hs' : (sgF x != 0) = true := by simp [hs]
          have hs2 : (sgF x == 0) = false := by simp [hs]
          have HST2 : Hid (sgF x = R) := hst.symm
          clear HST hst HOK
          generalize sgF x = q at *
          go_wp2_with fail
          go_ret
          exact ⟨ret_int HST2.out, HB1.out⟩
      · obtain rfl : k = n := by omega
        have hr := HR.out
        rw [List.drop_of_length_le (by have := HN.out; omega)] at hr
        have : R = 0 := hr.symm
        subst this
        go_wp2_with fail
        go_ret
        exact ⟨rfl, hbl⟩
  · have : R = 1 := by rw [hR]; unfold netF; rw [if_neg h60, if_pos h3]
    subst this
    have h60' : decide ((60 : Int) < (bag.length : Int)) = false := by simp; omega
    have h3' : ((dead.length : Int) != 3) = true := by simp; omega
    have h3'' : ((dead.length : Int) == 3) = false := by simp; omega
    clear hb hd hR
    generalize bag.length = n at *
    generalize dead.length = m at *
    go_enter Try.func47, Try.ntmps47
    go_wp2_with fail
    go_ret
    exact ⟨rfl, Below.refl _ _⟩
theorem sNetFault (t : TypeId) (bag : List DSegm) (dead : List Bool) (vb vd : Value) (w : World) (B : Nat) (hb : shSegms.Rd w B bag [vb]) (hd : (bls t).Rd w B dead [vd]) (hB : B ≤ w.heap.size) :
    Calls Try.prog 20 #[.agg #[vb, vd]] w fun e w' => e = .returned (.int .i64 (netF bag dead)) ∧ Below w.heap.size w w' := by
  have HC : Hid (∀ W p, Below w.heap.size w W → (∀ o, W.cell? ⟨p, o, none⟩ = (#[vb, vd] : Array Value)[o]?) → p < W.heap.size → Calls Try.prog 47 #[.pointer (some ⟨p, 0, none⟩)] W fun e w' => e = .returned (.int .i64 (netF bag dead)) ∧ Below W.heap.size W w') := fun W p hW k hp => sL12Fault t bag dead p vb vd W B k hp (hb.below hB hW) (hd.below hB hW) (Nat.le_trans hB hW.size)
  obtain ⟨a, cap, ev⟩ := row_form hb
  simp only [List.cons.injEq, and_true] at ev
  subst ev
  obtain ⟨da, dcap, rfl, hdm, -⟩ := rd_bls hd
  clear hb hd
  generalize bag.length = n at *
  generalize dead.length = m at *
  generalize netF bag dead = R at *
  go_enter Try.func20, Try.ntmps20
  go_wp2_with fail
  refine (HC.out _ _ ((Below.refl _ _).alloc (Nat.le_refl _) _) (bx_al _ _ _) (by simp)).mono ?_
  rintro e w1 ⟨rfl, hb1⟩
  have HB : Hid (Below w.heap.size w w1) := Below.trans ((Below.refl _ _).alloc (Nat.le_refl _) _) (hb1.mono (by simp))
  clear hb1 HC
  go_wp2_with fail
  go_ret
  exact ⟨rfl, HB.out⟩
end Go.Proofs.Ytlfncadngcjdjaa
