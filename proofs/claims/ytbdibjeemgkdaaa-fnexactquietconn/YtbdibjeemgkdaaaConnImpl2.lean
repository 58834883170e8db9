/- Where a path stands among subs, and the fault of subs, by the program; nothing that was in memory turns; no condition but that there are at most a million parts. Written by mkci2.py. -/
import Derived.Test.YtbdibjeemgkdaaaRows
import Derived.Test.YtbdibjeemgkdaaaBase
import Derived.Test.YtbdibjeemgkdaaaBytes
import Derived.Test.YtbdibjeemgkdaaaMem
import Derived.Test.YtbdibjeemgkdaaaHBase
import Derived.Test.YtbdibjeemgkdaaaHFlight
import Derived.Test.YtbdibjeemgkdaaaHSender
import Derived.Test.YtbdibjeemgkdaaaHSpan
import Derived.Test.YtbdibjeemgkdaaaHCatch
import Derived.Test.YtbdibjeemgkdaaaFlightDef
import Derived.Test.YtbdibjeemgkdaaaImplFlight
import Derived.Test.YtbdibjeemgkdaaaCatDef
import Derived.Test.YtbdibjeemgkdaaaCtrl
import Derived.Test.YtbdibjeemgkdaaaHSub
import Derived.Test.YtbdibjeemgkdaaaSubDef
import Derived.Test.YtbdibjeemgkdaaaSubImpl
import Derived.Test.YtbdibjeemgkdaaaHSubA
import Derived.Test.YtbdibjeemgkdaaaHSubs
import Derived.Test.YtbdibjeemgkdaaaGath
import Derived.Test.YtbdibjeemgkdaaaGathLaw
import Derived.Test.YtbdibjeemgkdaaaImplGath
import Derived.Test.YtbdibjeemgkdaaaAgg
import Derived.Test.YtbdibjeemgkdaaaRegionU
import Derived.Test.YtbdibjeemgkdaaaRegionQ
import Derived.Test.YtbdibjeemgkdaaaBox
import Derived.Test.YtbdibjeemgkdaaaSubBox
import Derived.Test.YtbdibjeemgkdaaaHConn
import Derived.Test.YtbdibjeemgkdaaaConnDef
import Derived.Test.YtbdibjeemgkdaaaSubSpec
import Derived.Test.YtbdibjeemgkdaaaConnSpec
import Derived.Test.YtbdibjeemgkdaaaConnImpl
import Derived.Deep.RegionHeld3
import Derived.Deep.DeepCutAuto
import Derived.Deep.CutRange
import Derived.Deep.QuietTactic
import Derived.BigQuiet
namespace Go.Proofs.Ytbdibjeemgkdaaa
open Go.RowKit
set_option linter.unusedVariables false
set_option maxRecDepth 8000

/-- The place of the first sub of a path, or -1. -/
def placeD (l : List DSub) (p : Int) : Int := match l.findIdx? (fun x => decide (x.1 = p)) with | some i => (i : Int) | none => -1
theorem place_at {l : List DSub} {p : Int} {k : Nat} (hk : k < l.length) (h1 : ∀ j (hj : j < l.length), j < k → l[j].1 ≠ p) (h2 : l[k].1 = p) : placeD l p = k := by
  have : l.findIdx? (fun x => decide (x.1 = p)) = some k := by
    rw [List.findIdx?_eq_some_iff_getElem]
    exact ⟨hk, by simpa using h2, fun j hj => by simpa using h1 j (by omega) hj⟩
  unfold placeD; rw [this]
theorem place_no {l : List DSub} {p : Int} (h1 : ∀ j (hj : j < l.length), l[j].1 ≠ p) : placeD l p = -1 := by
  have : l.findIdx? (fun x => decide (x.1 = p)) = none := by
    rw [List.findIdx?_eq_none_iff]
    intro x hx
    obtain ⟨j, hj, rfl⟩ := List.getElem_of_mem hx
    simpa using h1 j hj
  unfold placeD; rw [this]
theorem place_any (l : List DSub) (p : Int) : decide (0 ≤ placeD l p) = l.any fun y => decide (y.1 = p) := by
  unfold placeD
  cases h : l.findIdx? (fun x => decide (x.1 = p)) with
  | some i =>
    rw [List.findIdx?_eq_some_iff_getElem] at h
    obtain ⟨hi, h2, -⟩ := h
    have e : (l.any fun y => decide (y.1 = p)) = true := List.any_eq_true.2 ⟨l[i], List.getElem_mem hi, h2⟩
    rw [e]
    simp
  | none =>
    rw [List.findIdx?_eq_none_iff] at h
    have e : (l.any fun y => decide (y.1 = p)) = false := by
      apply Bool.eq_false_iff.2
      intro ha
      obtain ⟨x, hx, hp⟩ := List.any_eq_true.1 ha
      have := h x hx
      rw [this] at hp; cases hp
    rw [e]
    simp
theorem row_take {w : World} {B : Nat} {t : TypeId} {e : Sh} {l : List e.El} {a : Option Addr} {n cap : Nat} (h : (Sh.row t e).Rd w B l [.slice a n cap]) (k : Nat) (hk : k ≤ l.length) : (Sh.row t e).Rd w B (l.take k) [.slice a k cap] := by
  obtain ⟨a', cap', h1, h2, h3, b, off, h4, h5⟩ := h
  simp only [List.cons.injEq, Value.slice.injEq, and_true] at h1
  obtain ⟨rfl, rfl, rfl⟩ := h1
  have hl : (l.take k).length = k := by rw [List.length_take]; omega
  refine ⟨a, cap, by rw [hl], ⟨by omega, h2.2⟩, h3, b, off, fun hne => h4 (fun e0 => hne (by rw [e0]; simp)), fun i hi => ?_⟩
  have hi' : i < l.length := by omega
  obtain ⟨cs, g1, g2, g3⟩ := h5 i hi'
  refine ⟨cs, g1, g2, ?_⟩
  rw [List.getElem_take]
  exact g3
theorem iPlaceOn1 (A : Array Value) (y0 p : Int) (pb : Nat) (w : World) (a0 : A[0]? = some (.int .i64 y0)) (hp : w.cell? ⟨pb, 0, none⟩ = some (.int .i64 p)) :
    Calls Try.prog 94 #[.agg A, .pointer (some ⟨pb, 0, none⟩)] w fun e w' => e = .returned (.bool (decide (y0 = p))) ∧ Below w.heap.size w w' := by
  have hlt : pb < w.heap.size := cell_lt hp
  by_cases h : y0 = p
  · have h' : (y0 == p) = true := by simp [h]
    rw [decide_eq_true h]
    clear h
    go_enter Try.func94, Try.ntmps94
    go_wp2_with fail
    go_ret
    exact ⟨rfl, by go_grown⟩
  · have h' : (y0 == p) = false := by simp [h]
    rw [decide_eq_false h]
    clear h
    go_enter Try.func94, Try.ntmps94
    go_wp2_with fail
    go_ret
    exact ⟨rfl, by go_grown⟩
set_option maxHeartbeats 1000000 in
theorem iIndexFunc (l : List DSub) (a : Option Addr) (n cap pb : Nat) (p : Int) (w : World) (B : Nat) (hr : shSubs.Rd w B l [.slice a n cap]) (hB : B ≤ w.heap.size) (hn : l.length = n) (hm : n ≤ 1048576) (hp : w.cell? ⟨pb, 0, none⟩ = some (.int .i64 p)) :
    Calls Try.prog 93 #[.slice a n cap, .func (.func 94) #[] #[.pointer (some ⟨pb, 0, none⟩)]] w fun e w' => e = .returned (.int .i64 (placeD l p)) ∧ Below w.heap.size w w' := by
  have hlt : pb < w.heap.size := cell_lt hp
  have HRd : Hid (∀ W, Below w.heap.size w W → shSubs.Rd W B l [.slice a n cap]) := fun W hW => Sh.Rd.below (s := shSubs) hr hB hW
  have HPP : Hid (∀ W, Below w.heap.size w W → W.cell? ⟨pb, 0, none⟩ = some (.int .i64 p)) := fun W hW => (hW.cell (p := ⟨pb, 0, none⟩) hlt).trans hp
  have HN : Hid (l.length = n) := hn
  obtain ⟨R, hR⟩ : ∃ R, R = placeD l p := ⟨_, rfl⟩
  rw [← hR]
  have HR : Hid _ := hR
  clear hr hp hn hR
  go_enter Try.func93, Try.ntmps93
  go_wp2_with fail
  go_loopw [8] (fun i wr => ∃ (k : Nat), k ≤ n ∧ i = .int .i64 k ∧ Hid (∀ j (hj : j < l.length), j < k → l[j].1 ≠ p) ∧ Below w.heap.size w wr) (fun i _ => n - (intOf i).toNat)
  case atStart => exact ⟨0, Nat.zero_le _, rfl, fun j _ h => absurd h (Nat.not_lt_zero _), Below.refl _ _⟩
  case round =>
    obtain ⟨k, hk, rfl, HQ, hbl⟩ := hrel
    by_cases hlt2 : k < n
    · have hkl : k < l.length := by have := HN.out; omega
      have hki : (k : Int) < (n : Int) := by omega
      have hk0 : (0 : Int) ≤ (k : Int) := by omega
      obtain ⟨b, off, cs, ha, hb, hlen, hrg, r3, -⟩ := sub_at (HRd.out wr hbl) k hkl
      subst ha
      have HI : Hid ((Try.prog.info? 61).map (·.size) = some cs.length) := by show _ = _; rw [hlen]; exact (by kernel_rfl : (Try.prog.info? 61).map (·.size) = some 16)
      have HG : Hid _ := hrg
      have HC : Hid (Calls Try.prog 94 #[.agg cs.toArray, .pointer (some ⟨pb, 0, none⟩)] wr fun e w' => e = .returned (.bool (decide (l[k].1 = p))) ∧ Below wr.heap.size wr w') := by
        obtain ⟨u, v, e, -⟩ := rd_Sub r3
        exact iPlaceOn1 cs.toArray l[k].1 p pb wr (by rw [e]; rfl) (HPP.out wr hbl)
      have HB : Hid _ := hbl
      clear hrg r3 hbl hlen
      by_cases he : l[k].1 = p
      · have hRk : R = k := by rw [HR.out]; exact place_at hkl HQ.out he
        rw [decide_eq_true he] at HC
        subst hRk
        clear HQ he
        go_wp2_with (refine wpList_load_mid rfl 61 _ rfl _ _ (by rfl) cs _ HG.out Try.underlying61 rfl HI.out ?_)
        refine HC.out.mono ?_
        rintro e w1 ⟨rfl, hb1⟩
        have HB1 : Hid (Below w.heap.size w w1) := HB.out.trans (hb1.mono HB.out.size)
        clear hb1 HC
        go_wp2_with fail
        go_ret
        exact ⟨rfl, HB1.out⟩
      · have HQ2 : Hid (∀ j (hj : j < l.length), j < k + 1 → l[j].1 ≠ p) := fun j hj hjk => by
          by_cases e : j = k
          · subst e; exact he
          · exact HQ.out j hj (by omega)
        rw [decide_eq_false he] at HC
        clear HQ he
        go_wp2_with (refine wpList_load_mid rfl 61 _ rfl _ _ (by rfl) cs _ HG.out Try.underlying61 rfl HI.out ?_)
        refine HC.out.mono ?_
        rintro e w1 ⟨rfl, hb1⟩
        have HB1 : Hid (Below w.heap.size w w1) := HB.out.trans (hb1.mono HB.out.size)
        clear hb1 HC
        go_wp2_with fail
        go_roundw
        case rel => exact ⟨k + 1, by omega, by go_num, HQ2, HB1.out⟩
        case measure => simp [intOf]; omega
    · obtain rfl : k = n := by omega
      have hR0 : R = -1 := by rw [HR.out]; exact place_no (fun j hj => HQ.out j hj (by have := HN.out; omega))
      subst hR0
      go_wp2_with fail
      go_ret
      exact ⟨rfl, hbl⟩
theorem iPlaceOn (l : List DSub) (a : Option Addr) (n cap : Nat) (p : Int) (w : World) (B : Nat) (hr : shSubs.Rd w B l [.slice a n cap]) (hB : B ≤ w.heap.size) (hn : l.length = n) (hm : n ≤ 1048576) :
    Calls Try.prog 79 #[.slice a n cap, .int .i64 p] w fun e w' => e = .returned (.int .i64 (placeD l p)) ∧ Below w.heap.size w w' := by
  have HC : Hid (∀ W pb, Below w.heap.size w W → W.cell? ⟨pb, 0, none⟩ = some (.int .i64 p) → Calls Try.prog 93 #[.slice a n cap, .func (.func 94) #[] #[.pointer (some ⟨pb, 0, none⟩)]] W fun e w' => e = .returned (.int .i64 (placeD l p)) ∧ Below W.heap.size W w') := fun W pb hW hp => iIndexFunc l a n cap pb p W B (Sh.Rd.below (s := shSubs) hr hB hW) (Nat.le_trans hB hW.size) hn hm hp
  have hmf : ∀ (fn : Fn) (first cap : Array Value) (w : World), (Instr.makeFunc fn first cap).run Try.prog w = .ok (.func fn first cap) w := fun _ _ _ _ => rfl
  clear hr hn
  generalize placeD l p = R at *
  go_enter Try.func79, Try.ntmps79
  go_wp2_with fail
  refine (HC.out _ w.heap.size (by go_grown) (by simp [go_sem])).mono ?_
  rintro e w1 ⟨rfl, hb⟩
  go_wp2_with fail
  go_ret
  exact ⟨rfl, (bl_new hb).1⟩
theorem iHasPath (l : List DSub) (a : Option Addr) (n cap : Nat) (p : Int) (w : World) (B : Nat) (hr : shSubs.Rd w B l [.slice a n cap]) (hB : B ≤ w.heap.size) (hn : l.length = n) (hm : n ≤ 1048576) :
    Calls Try.prog 56 #[.slice a n cap, .int .i64 p] w fun e w' => e = .returned (.bool (l.any fun y => decide (y.1 = p))) ∧ Below w.heap.size w w' := by
  have HC : Hid (∀ W, Below w.heap.size w W → Calls Try.prog 79 #[.slice a n cap, .int .i64 p] W fun e w' => e = .returned (.int .i64 (placeD l p)) ∧ Below W.heap.size W w') := fun W hW => iPlaceOn l a n cap p W B (Sh.Rd.below (s := shSubs) hr hB hW) (Nat.le_trans hB hW.size) hn hm
  rw [← place_any]
  clear hr hn
  generalize placeD l p = R at *
  by_cases h : 0 ≤ R
  · rw [decide_eq_true h]
    go_enter Try.func56, Try.ntmps56
    go_wp2_with fail
    refine (HC.out _ (Below.refl _ _)).mono ?_
    rintro e w1 ⟨rfl, hb⟩
    go_wp2_with fail
    go_ret
    exact ⟨rfl, hb⟩
  · rw [decide_eq_false h]
    have h' : decide (0 ≤ R) = false := by simp; omega
    go_enter Try.func56, Try.ntmps56
    go_wp2_with fail
    refine (HC.out _ (Below.refl _ _)).mono ?_
    rintro e w1 ⟨rfl, hb⟩
    go_wp2_with fail
    go_ret
    exact ⟨rfl, hb⟩
theorem iSubFaultA (x : DSub) (A : Array Value) (w : World) (B : Nat) (hr : shSub.Rd w B x A.toList) (hB : B ≤ w.heap.size) (hT : totSub x ≤ 1048576) :
    Calls Try.prog 55 #[.agg A] w fun e w' => e = .returned (.int .i64 (subF x)) ∧ Below w.heap.size w w' := by
  obtain ⟨u, v, e, -⟩ := rd_Sub hr
  rw [e] at hr
  rw [arr_of e]
  exact iSubFault x u v w B hr hB hT
set_option maxHeartbeats 2000000 in
theorem iSubsFault (l : List DSub) (a : Option Addr) (n cap : Nat) (w : World) (B : Nat) (hr : shSubs.Rd w B l [.slice a n cap]) (hB : B ≤ w.heap.size) (hn : l.length = n) (hT : totSubs l ≤ 1048576) :
    Calls Try.prog 36 #[.slice a n cap] w fun e w' => e = .returned (.int .i64 (subsF l)) ∧ Below w.heap.size w w' := by
  have hcap : n ≤ cap ∧ cap ≤ 9223372036854775807 := by
    obtain ⟨_, _, e, h2, _⟩ := hr
    simp only [List.cons.injEq, Value.slice.injEq, and_true] at e
    obtain ⟨-, h3, rfl⟩ := e
    exact ⟨by omega, h2.2⟩
  obtain ⟨hc1, hc2⟩ := hcap
  have HRd : Hid (∀ W, Below w.heap.size w W → shSubs.Rd W B l [.slice a n cap]) := fun W hW => Sh.Rd.below (s := shSubs) hr hB hW
  have hm : n ≤ 1048576 := by unfold totSubs at hT; omega
  have HT : Hid (∀ k (hk : k < l.length), totSub l[k] ≤ 1048576) := fun k hk => by have := fsum_at totSub hk; unfold totSubs at hT; omega
  obtain ⟨R, hR⟩ : ∃ R, R = subsF l := ⟨_, rfl⟩
  have HR : Hid (R = subsFrom (l.take 0) (l.drop 0)) := hR
  rw [← hR]
  have HN : Hid (l.length = n) := hn
  clear hr hn hT hR
  go_enter Try.func36, Try.ntmps36
  go_wp2_with fail
  go_loopw [9] (fun i wr => ∃ (k : Nat), k ≤ n ∧ i = .int .i64 k ∧ Hid (R = subsFrom (l.take k) (l.drop k)) ∧ Below w.heap.size w wr) (fun i _ => n - (intOf i).toNat)
  case atStart => exact ⟨0, Nat.zero_le _, rfl, HR, Below.refl _ _⟩
  case round =>
    clear HR
    obtain ⟨k, hk, rfl, HQ, hbl⟩ := hrel
    by_cases hlt : k < n
    · have hsk := trivial
      clear hsk
      have hkl : k < l.length := by have := HN.out; omega
      have hki : (k : Int) < (n : Int) := by omega
      have hk0 : (0 : Int) ≤ (k : Int) := by omega
      have hkn : (k : Int) ≤ (n : Int) := by omega
      obtain ⟨b, off, cs, ha, hb, hlen, hrg, r3, -⟩ := sub_at (HRd.out wr hbl) k hkl
      subst ha
      have HI : Hid ((Try.prog.info? 61).map (·.size) = some cs.length) := by show _ = _; rw [hlen]; exact (by kernel_rfl : (Try.prog.info? 61).map (·.size) = some 16)
      have HI2 : Hid ((Try.prog.info? 61).map (·.size) = some cs.toArray.size) := by show _ = _; rw [List.size_toArray]; exact HI.out
      have HG : Hid _ := hrg
      have HONE : Hid (cs.toArray.all (·.oneCell') = true) := all_oneCell_toArray (rd_one _ _ _ r3)
      have HTH : Hid ((wr.alloc (.cells #[.int .i64 0, .int .i64 0, .bool false, .int .i64 0, .int .i64 0, .int .i64 0, .int .i64 0, .int .i64 0, .int .i64 0, .slice none 0 0, .int .i64 0, .int .i64 0, .slice none 0 0, .int .i64 0, .int .i64 0, .int .i64 0] 61)).there wr.heap.size 0 cs.toArray.size) := bx_there (bx_al _ _ _) (fx_al _ _ _) (by rw [List.size_toArray, hlen]; rfl)
      have HW2 : Hid (∀ o, ((wr.alloc (.cells #[.int .i64 0, .int .i64 0, .bool false, .int .i64 0, .int .i64 0, .int .i64 0, .int .i64 0, .int .i64 0, .int .i64 0, .slice none 0 0, .int .i64 0, .int .i64 0, .slice none 0 0, .int .i64 0, .int .i64 0, .int .i64 0] 61)).setCells wr.heap.size 0 cs.toArray.toList).cell? ⟨wr.heap.size, o, none⟩ = cs.toArray[o]?) := bx_setCells (A' := cs.toArray) (bx_al wr _ _) (by rw [List.size_toArray, hlen]; rfl)
      have HB2 : Hid (Below wr.heap.size wr ((wr.alloc (.cells #[.int .i64 0, .int .i64 0, .bool false, .int .i64 0, .int .i64 0, .int .i64 0, .int .i64 0, .int .i64 0, .int .i64 0, .slice none 0 0, .int .i64 0, .int .i64 0, .slice none 0 0, .int .i64 0, .int .i64 0, .int .i64 0] 61)).setCells wr.heap.size 0 cs.toArray.toList)) := setCells_below (Nat.le_refl _) _ _ _ _ ((Below.refl _ _).alloc (Nat.le_refl _) _)
      have HZ2 : Hid (wr.heap.size < ((wr.alloc (.cells #[.int .i64 0, .int .i64 0, .bool false, .int .i64 0, .int .i64 0, .int .i64 0, .int .i64 0, .int .i64 0, .int .i64 0, .slice none 0 0, .int .i64 0, .int .i64 0, .slice none 0 0, .int .i64 0, .int .i64 0, .int .i64 0] 61)).setCells wr.heap.size 0 cs.toArray.toList).heap.size) := by show _ < _; rw [setCells_size]; simp
      have HC : Hid (∀ W, Below wr.heap.size wr W → Calls Try.prog 55 #[.agg cs.toArray] W fun e w' => e = .returned (.int .i64 (subF l[k])) ∧ Below W.heap.size W w') := fun W hW => iSubFaultA l[k] cs.toArray W B (Sh.Rd.below (s := shSub) r3 (Nat.le_trans hB hbl.size) hW) (Nat.le_trans (Nat.le_trans hB hbl.size) hW.size) (HT.out k hkl)
      have HHP0 : Hid (∀ W, Below wr.heap.size wr W → Calls Try.prog 56 #[.slice (some ⟨b, off, none⟩) k cap, .int .i64 l[k].1] W fun e w' => e = .returned (.bool ((l.take k).any fun y => decide (y.1 = l[k].1))) ∧ Below W.heap.size W w') := fun W hW => iHasPath (l.take k) (some ⟨b, off, none⟩) k cap l[k].1 W B (row_take (HRd.out W (hbl.trans (hW.mono hbl.size))) k (by omega)) (Nat.le_trans (Nat.le_trans hB hbl.size) hW.size) (by rw [List.length_take]; omega) (by omega)
      have HCS : Hid (cs[0]? = some (.int .i64 l[k].1) ∧ cs[2]? = some (.bool l[k].2.2.1)) := by
        obtain ⟨u, v, e, -⟩ := rd_Sub r3
        exact ⟨by rw [e]; rfl, by rw [e]; rfl⟩
      have HS : Hid (subsFrom (l.take k) (l.drop k) = if subF l[k] ≠ 0 then subF l[k] else if ((l.take k).any fun y => decide (y.1 = l[k].1)) = true then 7 else if l[k].2.2.1 ≠ decide (0 < k) then 1 else subsFrom (l.take (k + 1)) (l.drop (k + 1))) := subs_at hkl
      have hRR := HQ.out.trans HS.out
      have HRR : Hid _ := hRR
      have HB : Hid _ := hbl
      clear hRR HS HQ hrg r3 hbl hlen
      go_upto_region 4 with (first | (refine wpList_load_mid rfl 61 _ rfl _ _ (by rfl) cs _ HG.out Try.underlying61 rfl HI.out ?_) | (refine wpList_store_mid rfl 61 _ _ rfl _ _ cs.toArray (by rfl) (by rfl) HTH.out HI2.out HONE.out ?_))
      generalize hW2 : (wr.alloc (.cells #[.int .i64 0, .int .i64 0, .bool false, .int .i64 0, .int .i64 0, .int .i64 0, .int .i64 0, .int .i64 0, .int .i64 0, .slice none 0 0, .int .i64 0, .int .i64 0, .slice none 0 0, .int .i64 0, .int .i64 0, .int .i64 0] 61)).setCells wr.heap.size 0 cs.toArray.toList = W2 at HW2 HB2 HZ2 ⊢
      have k2 : ∀ o, W2.cell? ⟨wr.heap.size, o, none⟩ = cs.toArray[o]? := HW2.out
      have HRG2 : Hid (W2.rangeAt wr.heap.size 0 cs) := bx_range (A := cs.toArray) HW2.out
      have z2 := HZ2.out
      replace HB : Hid (Below w.heap.size w W2) := HB.out.trans (HB2.out.mono HB.out.size)
      clear hW2 HW2 HTH HZ2 HG
      go_wp2_with (refine wpList_load_mid rfl 61 _ rfl _ _ (by rfl) cs _ HRG2.out Try.underlying61 rfl HI.out ?_)
      refine (HC.out _ HB2.out).mono ?_
      rintro e w3 ⟨rfl, hb3⟩
      have k3 := bx_below k2 z2 hb3
      have z3 := Nat.lt_of_lt_of_le z2 hb3.size
      replace HB : Hid (Below w.heap.size w w3) := HB.out.trans (hb3.mono HB.out.size)
      have HB3 : Hid (Below wr.heap.size wr w3) := HB2.out.trans (hb3.mono HB2.out.size)
      clear hb3 HC k2 z2 HRG2 HB2
      have hkc : (k : Int) ≤ (cap : Int) := by omega
      by_cases hF : subF l[k] = 0
      case neg =>
        have hRF : subF l[k] = R := by rw [HRR.out, if_pos hF]
        have hF' : (subF l[k] != 0) = true := by simp [hF]
        obtain ⟨FF, hFF⟩ : ∃ FF, subF l[k] = FF := ⟨_, rfl⟩
        rw [hFF] at hRF hF' ⊢
        subst hRF
        clear hF hFF HRR
        go_wp2_with fail
        go_ret
        exact ⟨rfl, HB.out⟩
      have hR2 := HRR.out
      rw [if_neg (by simp [hF])] at hR2
      replace HRR : Hid _ := hR2
      rw [hF]
      clear hR2 hF
      have HHP : Hid (∀ W, Below w3.heap.size w3 W → Calls Try.prog 56 #[.slice (some ⟨b, off, none⟩) k cap, .int .i64 l[k].1] W fun e w' => e = .returned (.bool ((l.take k).any fun y => decide (y.1 = l[k].1))) ∧ Below W.heap.size W w') := fun W hW => HHP0.out W (HB3.out.trans (hW.mono HB3.out.size))
      have a0 : cs.toArray[0]? = some (.int .i64 l[k].1) := by rw [List.getElem?_toArray]; exact HCS.out.1
      have a2 : cs.toArray[2]? = some (.bool l[k].2.2.1) := by rw [List.getElem?_toArray]; exact HCS.out.2
      clear HHP0 HCS HB3
      generalize ((l.take k).any fun y => decide (y.1 = l[k].1)) = AN at *
      generalize l[k].1 = pk at *
      generalize hjn : l[k].2.2.1 = jn at a2 HRR
      clear hjn
      go_upto_region 7 with fail
      go_cut [24] (fun u wx => u = .bool AN ∧ Hid (Below w3.heap.size w3 wx))
      case first =>
        refine wp_region_noPanic ?_
        refine Goes.start (S := fun w' => Below w3.heap.size w3 w') (z := 100) (by kernel_rfl) ?_
        refine Goes.take (i := 0) (oi := ?oi2) (x := ?vx2) ?ho2 (by kernel_rfl) (by kernel_rfl) (by kernel_rfl) (by kernel_rfl) (fun _ _ _ h => h) (Or.inl ⟨?hw2, ?hy2⟩) (Below.drew (Below.refl _ _)) ?rest2
        case ho2 => (simp only [List.getElem?_toArray, List.getElem?_cons_zero]; rfl)
        case hw2 => rfl
        case hy2 => (intro w' hSw; have q := fun o => (hSw.cell (p := ⟨wr.heap.size, o, none⟩) z3).trans (k3 o); go_simp; (try with_reducible rfl))
        case rest2 =>
        (try simp only [Act.put, List.setIfInBounds_toArray, List.set_cons_zero, List.set_cons_succ])
        refine Goes.take (i := 1) (oi := ?oi3) (x := ?vx3) ?ho3 (by kernel_rfl) (by kernel_rfl) (by kernel_rfl) (by kernel_rfl) (fun _ _ _ h => h) (Or.inl ⟨?hw3, ?hy3⟩) (Below.drew (Below.refl _ _)) ?rest3
        case ho3 => (simp only [List.getElem?_toArray, List.getElem?_cons_succ, List.getElem?_cons_zero]; rfl)
        case hw3 => rfl
        case hy3 => (intro w' hSw; have q := fun o => (hSw.cell (p := ⟨wr.heap.size, o, none⟩) z3).trans (k3 o); go_simp; (try with_reducible rfl))
        case rest3 =>
        (try simp only [Act.put, List.setIfInBounds_toArray, List.set_cons_zero, List.set_cons_succ])
        refine Goes.take (i := 2) (oi := ?oi4) (x := ?vx4) ?ho4 (by kernel_rfl) (by kernel_rfl) (by kernel_rfl) (by kernel_rfl) (fun _ _ _ h => h) (Or.inl ⟨?hw4, ?hy4⟩) (Below.drew (Below.refl _ _)) ?rest4
        case ho4 => (simp only [List.getElem?_toArray, List.getElem?_cons_succ, List.getElem?_cons_zero]; rfl)
        case hw4 => rfl
        case hy4 => (intro w' hSw; have q := fun o => (hSw.cell (p := ⟨wr.heap.size, o, none⟩) z3).trans (k3 o); go_simp; (try with_reducible rfl))
        case rest4 =>
        (try simp only [Act.put, List.setIfInBounds_toArray, List.set_cons_zero, List.set_cons_succ])
        refine Goes.take (i := 3) (oi := ?oi5) (x := ?vx5) ?ho5 (by kernel_rfl) (by kernel_rfl) (by kernel_rfl) (by kernel_rfl) (fun _ _ _ h => h) (Or.inl ⟨?hw5, ?hy5⟩) (Below.drew (Below.refl _ _)) ?rest5
        case ho5 => (simp only [List.getElem?_toArray, List.getElem?_cons_succ, List.getElem?_cons_zero]; rfl)
        case hw5 => rfl
        case hy5 => (intro w' hSw; have q := fun o => (hSw.cell (p := ⟨wr.heap.size, o, none⟩) z3).trans (k3 o); go_simp; (try with_reducible rfl))
        case rest5 =>
        (try simp only [Act.put, List.setIfInBounds_toArray, List.set_cons_zero, List.set_cons_succ])
        refine Goes.take (i := 4) (oi := ?oi6) (x := ?vx6) ?ho6 (by kernel_rfl) (by kernel_rfl) (by kernel_rfl) (by kernel_rfl) (fun _ _ _ h => h) (Or.inl ⟨?hw6, ?hy6⟩) (Below.drew (Below.refl _ _)) ?rest6
        case ho6 => (simp only [List.getElem?_toArray, List.getElem?_cons_succ, List.getElem?_cons_zero]; rfl)
        case hw6 => rfl
        case hy6 => (intro w' hSw; have q := fun o => (hSw.cell (p := ⟨wr.heap.size, o, none⟩) z3).trans (k3 o); go_simp; (try with_reducible rfl))
        case rest6 =>
        (try simp only [Act.put, List.setIfInBounds_toArray, List.set_cons_zero, List.set_cons_succ])
        refine Goes.all (rs := [5]) (by kernel_rfl) (by simp) ?_
        refine Ups.cons (i := 5) (o := ?oo7) ?ho7 (fun KK hKK => ?stp7) Ups.nil
        case ho7 => (simp only [List.getElem?_toArray, List.getElem?_cons_succ, List.getElem?_cons_zero]; rfl)
        case stp7 =>
        go_simp
        go_at_call 56
        refine (HHP.out _ (Below.drew (Below.refl _ _))).mono ?_
        rintro e w4 ⟨rfl, hbq⟩
        replace hbq := (Below.drew (Below.refl w3.heap.size w3)).trans hbq
        have HS7 : Hid (Below w3.heap.size w3 w4) := hbq
        clear hbq
        dsimp only
        refine hKK.out _ _ (Or.inr HS7.out) ?_
        clear hKK KK
        (try simp only [Act.put, List.setIfInBounds_toArray, List.set_cons_zero, List.set_cons_succ])
        refine Goes.done (by kernel_rfl) ?_ _
        refine NoPanic.normal ?_
        go_wp2_with fail
        go_meet
        exact ⟨rfl, by assumption⟩
      case rest =>
      rename World => w4
      obtain ⟨rfl, hb⟩ := hcut
      have k4 := bx_below k3 z3 hb.out
      replace HB : Hid (Below w.heap.size w w4) := HB.out.trans (hb.out.mono HB.out.size)
      clear hb k3 z3 HHP
      cases AN with
      | true =>
        have hR7 : R = 7 := by rw [HRR.out, if_pos rfl]
        subst hR7
        go_wp2_with fail
        go_ret
        exact ⟨rfl, HB.out⟩
      | false =>
      have hR2 := HRR.out
      rw [if_neg (by simp)] at hR2
      replace HRR : Hid _ := hR2
      clear hR2
      by_cases hz : 0 < k
      · rw [decide_eq_true hz] at HRR
        have hzi : decide ((0 : Int) < (k : Int)) = true := by simp; omega
        cases jn with
        | true =>
          have HX : Hid (R = subsFrom (l.take (k + 1)) (l.drop (k + 1))) := by show _ = _; rw [HRR.out, if_neg (by simp)]
          clear HRR
          go_wp2_with fail
          go_roundw
          case rel => exact ⟨k + 1, by omega, by go_num, HX, HB.out⟩
          case measure => simp [intOf]; omega
        | false =>
          have hR1 : R = 1 := by rw [HRR.out, if_pos (by simp)]
          subst hR1
          clear HRR
          go_wp2_with fail
          go_ret
          exact ⟨rfl, HB.out⟩
      · rw [decide_eq_false hz] at HRR
        have hzi : decide ((0 : Int) < (k : Int)) = false := by simp; omega
        cases jn with
        | false =>
          have HX : Hid (R = subsFrom (l.take (k + 1)) (l.drop (k + 1))) := by show _ = _; rw [HRR.out, if_neg (by simp)]
          clear HRR
          go_wp2_with fail
          go_roundw
          case rel => exact ⟨k + 1, by omega, by go_num, HX, HB.out⟩
          case measure => simp [intOf]; omega
        | true =>
          have hR1 : R = 1 := by rw [HRR.out, if_pos (by simp)]
          subst hR1
          clear HRR
          go_wp2_with fail
          go_ret
          exact ⟨rfl, HB.out⟩
    · obtain rfl : k = n := by omega
      have hR0 : R = 0 := by have h := HQ.out; rw [← HN.out, subs_end] at h; exact h
      subst hR0
      go_wp2_with fail
      go_ret
      exact ⟨rfl, hbl⟩
end Go.Proofs.Ytbdibjeemgkdaaa
