/- Where a path stands among subs, and the fault of subs, by the program; nothing that was in memory turns; no condition but that there are at most a million parts. Written by mkci2.py. -/
import Derived.Test.YtfpemobkkfobkaaGreatDoorRows
import Derived.Deep.RegionHeld3
import Derived.Deep.DeepCutAuto
import Derived.Deep.CutRange
import Derived.Deep.QuietTactic
import Derived.BigQuiet
import Derived.RangeFuncNested
import Derived.RangeFuncBound
import Derived.RangeFuncCalls
import Derived.RangeFuncLeaves
import Derived.RangeFuncBox
import Derived.Shelf.Abstract
import Derived.Shelf.RegionOpen
import Derived.WalkKit
import Derived.OwnWalkIn
import Derived.TacticsInMore
import Derived.LoopNIn
import Derived.LoopIn
import Derived.Deep.MidRow
import Derived.Test.YtfpemobkkfobkaaGreatDoorK01
import Derived.Test.YtfpemobkkfobkaaGreatDoorK02
import Derived.Test.YtfpemobkkfobkaaGreatDoorK03
import Derived.Test.YtfpemobkkfobkaaGreatDoorK04
import Derived.Test.YtfpemobkkfobkaaGreatDoorK05
import Derived.Test.YtfpemobkkfobkaaGreatDoorK07
import Derived.Test.YtfpemobkkfobkaaGreatDoorK08
import Derived.Test.YtfpemobkkfobkaaGreatDoorK09
import Derived.Test.YtfpemobkkfobkaaGreatDoorK10
import Derived.Test.YtfpemobkkfobkaaGreatDoorK11
import Derived.Test.YtfpemobkkfobkaaGreatDoorK12
import Derived.Test.YtfpemobkkfobkaaGreatDoorK14
namespace Go.Proofs.YtfpemobkkfobkaaGreatDoor
open Go.RowKit
set_option linter.unusedVariables false
set_option maxRecDepth 8000

/-- The place of the first sub of a path, or -1. -/
def placeD (l : List DSub) (p : Int) : Int := match l.findIdx? (fun x => decide (x.1 = p)) with | some i => (i : Int) | none => -1
theorem place_at {l : List DSub} {p : Int} {k : Nat} (hk : k < l.length) (h1 : ∀ j (hj : j < l.length), j < k → l[j].1 ≠ p) (h2 : l[k].1 = p) : placeD l p = k := by
  have : l.findIdx? (fun x => decide (x.1 = p)) = some k := by
    rw [List.findIdx?_eq_some_iff_getElem]
    exact ⟨hk, by simpa using h2, fun j hj => by simpa using h1 j (by omega) hj⟩
  unfold placeD; rw [this]
theorem place_no {l : List DSub} {p : Int} (h1 : ∀ j (hj : j < l.length), l[j].1 ≠ p) : placeD l p = -1 := by
  have : l.findIdx? (fun x => decide (x.1 = p)) = none := by
    rw [List.findIdx?_eq_none_iff]
    intro x hx
    obtain ⟨j, hj, rfl⟩ := List.getElem_of_mem hx
    simpa using h1 j hj
  unfold placeD; rw [this]
theorem place_any (l : List DSub) (p : Int) : decide (0 ≤ placeD l p) = l.any fun y => decide (y.1 = p) := by
  unfold placeD
  cases h : l.findIdx? (fun x => decide (x.1 = p)) with
  | some i =>
    rw [List.findIdx?_eq_some_iff_getElem] at h
    obtain ⟨hi, h2, -⟩ := h
    have e : (l.any fun y => decide (y.1 = p)) = true := List.any_eq_true.2 ⟨l[i], List.getElem_mem hi, h2⟩
    rw [e]
    simp
  | none =>
    rw [List.findIdx?_eq_none_iff] at h
    have e : (l.any fun y => decide (y.1 = p)) = false := by
      apply Bool.eq_false_iff.2
      intro ha
      obtain ⟨x, hx, hp⟩ := List.any_eq_true.1 ha
      have := h x hx
      rw [this] at hp; cases hp
    rw [e]
    simp
theorem row_take {w : World} {B : Nat} {t : TypeId} {e : Sh} {l : List e.El} {a : Option Addr} {n cap : Nat} (h : (Sh.row t e).Rd w B l [.slice a n cap]) (k : Nat) (hk : k ≤ l.length) : (Sh.row t e).Rd w B (l.take k) [.slice a k cap] := by
  obtain ⟨a', cap', h1, h2, h3, b, off, h4, h5⟩ := h
  simp only [List.cons.injEq, Value.slice.injEq, and_true] at h1
  obtain ⟨rfl, rfl, rfl⟩ := h1
  have hl : (l.take k).length = k := by rw [List.length_take]; omega
  refine ⟨a, cap, by rw [hl], ⟨by omega, h2.2⟩, h3, b, off, fun hne => h4 (fun e0 => hne (by rw [e0]; simp)), fun i hi => ?_⟩
  have hi' : i < l.length := by omega
  obtain ⟨cs, g1, g2, g3⟩ := h5 i hi'
  refine ⟨cs, g1, g2, ?_⟩
  rw [List.getElem_take]
  exact g3
theorem iPlaceOn1 (A : Array Value) (y0 p : Int) (pb : Nat) (w : World) (a0 : A[0]? = some (.int .i64 y0)) (hp : w.cell? ⟨pb, 0, none⟩ = some (.int .i64 p)) :
    Calls Tryz.prog 151 #[.agg A, .pointer (some ⟨pb, 0, none⟩)] w fun e w' => e = .returned (.bool (decide (y0 = p))) ∧ Below w.heap.size w w' := by
  have hlt : pb < w.heap.size := cell_lt hp
  by_cases h : y0 = p
  · have h' : (y0 == p) = true := by simp [h]
    rw [decide_eq_true h]
    clear h
    go_enter Tryz.func151, Tryz.ntmps151
    go_wp2_with fail
    go_ret
    exact ⟨rfl, by go_grown⟩
  · have h' : (y0 == p) = false := by simp [h]
    rw [decide_eq_false h]
    clear h
    go_enter Tryz.func151, Tryz.ntmps151
    go_wp2_with fail
    go_ret
    exact ⟨rfl, by go_grown⟩
set_option maxHeartbeats 1000000 in
theorem iIndexFunc (l : List DSub) (a : Option Addr) (n cap pb : Nat) (p : Int) (w : World) (B : Nat) (hr : shSubs.Rd w B l [.slice a n cap]) (hB : B ≤ w.heap.size) (hn : l.length = n) (hm : n ≤ 1048576) (hp : w.cell? ⟨pb, 0, none⟩ = some (.int .i64 p)) :
    Calls Tryz.prog 150 #[.slice a n cap, .func (.func 151) #[] #[.pointer (some ⟨pb, 0, none⟩)]] w fun e w' => e = .returned (.int .i64 (placeD l p)) ∧ Below w.heap.size w w' := by
  have hlt : pb < w.heap.size := cell_lt hp
  have HRd : Hid (∀ W, Below w.heap.size w W → shSubs.Rd W B l [.slice a n cap]) := fun W hW => Sh.Rd.below (s := shSubs) hr hB hW
  have HPP : Hid (∀ W, Below w.heap.size w W → W.cell? ⟨pb, 0, none⟩ = some (.int .i64 p)) := fun W hW => (hW.cell (p := ⟨pb, 0, none⟩) hlt).trans hp
  have HN : Hid (l.length = n) := hn
  obtain ⟨R, hR⟩ : ∃ R, R = placeD l p := ⟨_, rfl⟩
  rw [← hR]
  have HR : Hid _ := hR
  clear hr hp hn hR
  go_enter Tryz.func150, Tryz.ntmps150
  go_wp2_with fail
  go_loopw [8] (fun i wr => ∃ (k : Nat), k ≤ n ∧ i = .int .i64 k ∧ Hid (∀ j (hj : j < l.length), j < k → l[j].1 ≠ p) ∧ Below w.heap.size w wr) (fun i _ => n - (intOf i).toNat)
  case atStart => exact ⟨0, Nat.zero_le _, rfl, fun j _ h => absurd h (Nat.not_lt_zero _), Below.refl _ _⟩
  case round =>
    obtain ⟨k, hk, rfl, HQ, hbl⟩ := hrel
    by_cases hlt2 : k < n
    · have hkl : k < l.length := by have := HN.out; omega
      have hki : (k : Int) < (n : Int) := by omega
      have hk0 : (0 : Int) ≤ (k : Int) := by omega
      obtain ⟨b, off, cs, ha, hb, hlen, hrg, r3, -⟩ := sub_at (HRd.out wr hbl) k hkl
      subst ha
      have HI : Hid ((Tryz.prog.info? 93).map (·.size) = some cs.length) := by show _ = _; rw [hlen]; exact (by kernel_rfl : (Tryz.prog.info? 93).map (·.size) = some 16)
      have HG : Hid _ := hrg
      have HC : Hid (Calls Tryz.prog 151 #[.agg cs.toArray, .pointer (some ⟨pb, 0, none⟩)] wr fun e w' => e = .returned (.bool (decide (l[k].1 = p))) ∧ Below wr.heap.size wr w') := by
        obtain ⟨u, v, e, -⟩ := rd_Sub r3
        exact iPlaceOn1 cs.toArray l[k].1 p pb wr (by rw [e]; rfl) (HPP.out wr hbl)
      have HB : Hid _ := hbl
      clear hrg r3 hbl hlen
      by_cases he : l[k].1 = p
      · have hRk : R = k := by rw [HR.out]; exact place_at hkl HQ.out he
        rw [decide_eq_true he] at HC
        subst hRk
        clear HQ he
        go_wp2_with (refine wpList_load_mid rfl 93 _ rfl _ _ (by rfl) cs _ HG.out Tryz.underlying93 rfl HI.out ?_)
        refine HC.out.mono ?_
        rintro e w1 ⟨rfl, hb1⟩
        have HB1 : Hid (Below w.heap.size w w1) := HB.out.trans (hb1.mono HB.out.size)
        clear hb1 HC
        go_wp2_with fail
        go_ret
        exact ⟨rfl, HB1.out⟩
      · have HQ2 : Hid (∀ j (hj : j < l.length), j < k + 1 → l[j].1 ≠ p) := fun j hj hjk => by
          by_cases e : j = k
          · subst e; exact he
          · exact HQ.out j hj (by omega)
        rw [decide_eq_false he] at HC
        clear HQ he
        go_wp2_with (refine wpList_load_mid rfl 93 _ rfl _ _ (by rfl) cs _ HG.out Tryz.underlying93 rfl HI.out ?_)
        refine HC.out.mono ?_
        rintro e w1 ⟨rfl, hb1⟩
        have HB1 : Hid (Below w.heap.size w w1) := HB.out.trans (hb1.mono HB.out.size)
        clear hb1 HC
        go_wp2_with fail
        go_roundw
        case rel => exact ⟨k + 1, by omega, by go_num, HQ2, HB1.out⟩
        case measure => simp [intOf]; omega
    · obtain rfl : k = n := by omega
      have hR0 : R = -1 := by rw [HR.out]; exact place_no (fun j hj => HQ.out j hj (by have := HN.out; omega))
      subst hR0
      go_wp2_with fail
      go_ret
      exact ⟨rfl, hbl⟩
theorem iPlaceOn (l : List DSub) (a : Option Addr) (n cap : Nat) (p : Int) (w : World) (B : Nat) (hr : shSubs.Rd w B l [.slice a n cap]) (hB : B ≤ w.heap.size) (hn : l.length = n) (hm : n ≤ 1048576) :
    Calls Tryz.prog 131 #[.slice a n cap, .int .i64 p] w fun e w' => e = .returned (.int .i64 (placeD l p)) ∧ Below w.heap.size w w' := by
  have HC : Hid (∀ W pb, Below w.heap.size w W → W.cell? ⟨pb, 0, none⟩ = some (.int .i64 p) → Calls Tryz.prog 150 #[.slice a n cap, .func (.func 151) #[] #[.pointer (some ⟨pb, 0, none⟩)]] W fun e w' => e = .returned (.int .i64 (placeD l p)) ∧ Below W.heap.size W w') := fun W pb hW hp => iIndexFunc l a n cap pb p W B (Sh.Rd.below (s := shSubs) hr hB hW) (Nat.le_trans hB hW.size) hn hm hp
  have hmf : ∀ (fn : Fn) (first cap : Array Value) (w : World), (Instr.makeFunc fn first cap).run Tryz.prog w = .ok (.func fn first cap) w := fun _ _ _ _ => rfl
  clear hr hn
  generalize placeD l p = R at *
  go_enter Tryz.func131, Tryz.ntmps131
  go_wp2_with fail
  refine (HC.out _ w.heap.size (by go_grown) (by simp [go_sem])).mono ?_
  rintro e w1 ⟨rfl, hb⟩
  go_wp2_with fail
  go_ret
  exact ⟨rfl, (bl_new hb).1⟩
theorem iHasPath (l : List DSub) (a : Option Addr) (n cap : Nat) (p : Int) (w : World) (B : Nat) (hr : shSubs.Rd w B l [.slice a n cap]) (hB : B ≤ w.heap.size) (hn : l.length = n) (hm : n ≤ 1048576) :
    Calls Tryz.prog 102 #[.slice a n cap, .int .i64 p] w fun e w' => e = .returned (.bool (l.any fun y => decide (y.1 = p))) ∧ Below w.heap.size w w' := by
  have HC : Hid (∀ W, Below w.heap.size w W → Calls Tryz.prog 131 #[.slice a n cap, .int .i64 p] W fun e w' => e = .returned (.int .i64 (placeD l p)) ∧ Below W.heap.size W w') := fun W hW => iPlaceOn l a n cap p W B (Sh.Rd.below (s := shSubs) hr hB hW) (Nat.le_trans hB hW.size) hn hm
  rw [← place_any]
  clear hr hn
  generalize placeD l p = R at *
  by_cases h : 0 ≤ R
  · rw [decide_eq_true h]
    go_enter Tryz.func102, Tryz.ntmps102
    go_wp2_with fail
    refine (HC.out _ (Below.refl _ _)).mono ?_
    rintro e w1 ⟨rfl, hb⟩
    go_wp2_with fail
    go_ret
    exact ⟨rfl, hb⟩
  · rw [decide_eq_false h]
    have h' : decide (0 ≤ R) = false := by simp; omega
    go_enter Tryz.func102, Tryz.ntmps102
    go_wp2_with fail
    refine (HC.out _ (Below.refl _ _)).mono ?_
    rintro e w1 ⟨rfl, hb⟩
    go_wp2_with fail
    go_ret
    exact ⟨rfl, hb⟩
theorem iSubFaultA (x : DSub) (A : Array Value) (w : World) (B : Nat) (hr : shSub.Rd w B x A.toList) (hB : B ≤ w.heap.size) (hT : totSub x ≤ 1048576) :
    Calls Tryz.prog 101 #[.agg A] w fun e w' => e = .returned (.int .i64 (subF x)) ∧ Below w.heap.size w w' := by
  obtain ⟨u, v, e, -⟩ := rd_Sub hr
  rw [e] at hr
  rw [arr_of e]
  exact iSubFault x u v w B hr hB hT
set_option maxHeartbeats 2000000 in
theorem iSubsFault (l : List DSub) (a : Option Addr) (n cap : Nat) (w : World) (B : Nat) (hr : shSubs.Rd w B l [.slice a n cap]) (hB : B ≤ w.heap.size) (hn : l.length = n) (hT : totSubs l ≤ 1048576) :
    Calls Tryz.prog 77 #[.slice a n cap] w fun e w' => e = .returned (.int .i64 (subsF l)) ∧ Below w.heap.size w w' := by
  have hcap : n ≤ cap ∧ cap ≤ 9223372036854775807 := by
    obtain ⟨_, _, e, h2, _⟩ := hr
    simp only [List.cons.injEq, Value.slice.injEq, and_true] at e
    obtain ⟨-, h3, rfl⟩ := e
    exact ⟨by omega, h2.2⟩
  obtain ⟨hc1, hc2⟩ := hcap
  have HRd : Hid (∀ W, Below w.heap.size w W → shSubs.Rd W B l [.slice a n cap]) := fun W hW => Sh.Rd.below (s := shSubs) hr hB hW
  have hm : n ≤ 1048576 := by unfold totSubs at hT; omega
  have HT : Hid (∀ k (hk : k < l.length), totSub l[k] ≤ 1048576) := fun k hk => by have := fsum_at totSub hk; unfold totSubs at hT; omega
  obtain ⟨R, hR⟩ : ∃ R, R = subsF l := ⟨_, rfl⟩
  have HR : Hid (R = subsFrom (l.take 0) (l.drop 0)) := hR
  rw [← hR]
  have HN : Hid (l.length = n) := hn
  clear hr hn hT hR
  go_enter Tryz.func77, Tryz.ntmps77
  go_wp2_with fail
  go_loopw [9] (fun i wr => ∃ (k : Nat), k ≤ n ∧ i = .int .i64 k ∧ Hid (R = subsFrom (l.take k) (l.drop k)) ∧ Below w.heap.size w wr) (fun i _ => n - (intOf i).toNat)
  case atStart => exact ⟨0, Nat.zero_le _, rfl, HR, Below.refl _ _⟩
  case round =>
    clear HR
    obtain ⟨k, hk, rfl, HQ, hbl⟩ := hrel
    by_cases hlt : k < n
    · have hsk := trivial
      clear hsk
      have hkl : k < l.length := by have := HN.out; omega
      have hki : (k : Int) < (n : Int) := by omega
      have hk0 : (0 : Int) ≤ (k : Int) := by omega
      have hkn : (k : Int) ≤ (n : Int) := by omega
      obtain ⟨b, off, cs, ha, hb, hlen, hrg, r3, -⟩ := sub_at (HRd.out wr hbl) k hkl
      subst ha
      have HI : Hid ((Tryz.prog.info? 93).map (·.size) = some cs.length) := by show _ = _; rw [hlen]; exact (by kernel_rfl : (Tryz.prog.info? 93).map (·.size) = some 16)
      have HI2 : Hid ((Tryz.prog.info? 93).map (·.size) = some cs.toArray.size) := by show _ = _; rw [List.size_toArray]; exact HI.out
      have HG : Hid _ := hrg
      have HONE : Hid (cs.toArray.all (·.oneCell') = true) := all_oneCell_toArray (rd_one _ _ _ r3)
      have HTH : Hid ((wr.alloc (.cells #[.int .i64 0, .int .i64 0, .bool false, .int .i64 0, .int .i64 0, .int .i64 0, .int .i64 0, .int .i64 0, .int .i64 0, .slice none 0 0, .int .i64 0, .int .i64 0, .slice none 0 0, .int .i64 0, .int .i64 0, .int .i64 0] 93)).there wr.heap.size 0 cs.toArray.size) := bx_there (bx_al _ _ _) (fx_al _ _ _) (by rw [List.size_toArray, hlen]; rfl)
      have HW2 : Hid (∀ o, ((wr.alloc (.cells #[.int .i64 0, .int .i64 0, .bool false, .int .i64 0, .int .i64 0, .int .i64 0, .int .i64 0, .int .i64 0, .int .i64 0, .slice none 0 0, .int .i64 0, .int .i64 0, .slice none 0 0, .int .i64 0, .int .i64 0, .int .i64 0] 93)).setCells wr.heap.size 0 cs.toArray.toList).cell? ⟨wr.heap.size, o, none⟩ = cs.toArray[o]?) := bx_setCells (A' := cs.toArray) (bx_al wr _ _) (by rw [List.size_toArray, hlen]; rfl)
      have HB2 : Hid (Below wr.heap.size wr ((wr.alloc (.cells #[.int .i64 0, .int .i64 0, .bool false, .int .i64 0, .int .i64 0, .int .i64 0, .int .i64 0, .int .i64 0, .int .i64 0, .slice none 0 0, .int .i64 0, .int .i64 0, .slice none 0 0, .int .i64 0, .int .i64 0, .int .i64 0] 93)).setCells wr.heap.size 0 cs.toArray.toList)) := setCells_below (Nat.le_refl _) _ _ _ _ ((Below.refl _ _).alloc (Nat.le_refl _) _)
      have HZ2 : Hid (wr.heap.size < ((wr.alloc (.cells #[.int .i64 0, .int .i64 0, .bool false, .int .i64 0, .int .i64 0, .int .i64 0, .int .i64 0, .int .i64 0, .int .i64 0, .slice none 0 0, .int .i64 0, .int .i64 0, .slice none 0 0, .int .i64 0, .int .i64 0, .int .i64 0] 93)).setCells wr.heap.size 0 cs.toArray.toList).heap.size) := by show _ < _; rw [setCells_size]; simp
      have HC : Hid (∀ W, Below wr.heap.size wr W → Calls Tryz.prog 101 #[.agg cs.toArray] W fun e w' => e = .returned (.int .i64 (subF l[k])) ∧ Below W.heap.size W w') := fun W hW => iSubFaultA l[k] cs.toArray W B (Sh.Rd.below (s := shSub) r3 (Nat.le_trans hB hbl.size) hW) (Nat.le_trans (Nat.le_trans hB hbl.size) hW.size) (HT.out k hkl)
      have HHP0 : Hid (∀ W, Below wr.heap.size wr W → Calls Tryz.prog 102 #[.slice (some ⟨b, off, none⟩) k cap, .int .i64 l[k].1] W fun e w' => e = .returned (.bool ((l.take k).any fun y => decide (y.1 = l[k].1))) ∧ Below W.heap.size W w') := fun W hW => iHasPath (l.take k) (some ⟨b, off, none⟩) k cap l[k].1 W B (row_take (HRd.out W (hbl.trans (hW.mono hbl.size))) k (by omega)) (Nat.le_trans (Nat.le_trans hB hbl.size) hW.size) (by rw [List.length_take]; omega) (by omega)
      have HCS : Hid (cs[0]? = some (.int .i64 l[k].1) ∧ cs[2]? = some (.bool l[k].2.2.1)) := by
        obtain ⟨u, v, e, -⟩ := rd_Sub r3
        exact ⟨by rw [e]; rfl, by rw [e]; rfl⟩
      have HS : Hid (subsFrom (l.take k) (l.drop k) = if subF l[k] ≠ 0 then subF l[k] else if ((l.take k).any fun y => decide (y.1 = l[k].1)) = true then 7 else if l[k].2.2.1 ≠ decide (0 < k) then 1 else subsFrom (l.take (k + 1)) (l.drop (k + 1))) := subs_at hkl
      have hRR := HQ.out.trans HS.out
      have HRR : Hid _ := hRR
      have HB : Hid _ := hbl
      clear hRR HS HQ hrg r3 hbl hlen
      go_upto_region 4 with (first | (refine wpList_load_mid rfl 93 _ rfl _ _ (by rfl) cs _ HG.out Tryz.underlying93 rfl HI.out ?_) | (refine wpList_store_mid rfl 93 _ _ rfl _ _ cs.toArray (by rfl) (by rfl) HTH.out HI2.out HONE.out ?_))
      generalize hW2 : (wr.alloc (.cells #[.int .i64 0, .int .i64 0, .bool false, .int .i64 0, .int .i64 0, .int .i64 0, .int .i64 0, .int .i64 0, .int .i64 0, .slice none 0 0, .int .i64 0, .int .i64 0, .slice none 0 0, .int .i64 0, .int .i64 0, .int .i64 0] 93)).setCells wr.heap.size 0 cs.toArray.toList = W2 at HW2 HB2 HZ2 ⊢
      have k2 : ∀ o, W2.cell? ⟨wr.heap.size, o, none⟩ = cs.toArray[o]? := HW2.out
      have HRG2 : Hid (W2.rangeAt wr.heap.size 0 cs) := bx_range (A := cs.toArray) HW2.out
      have z2 := HZ2.out
      replace HB : Hid (Below w.heap.size w W2) := HB.out.trans (HB2.out.mono HB.out.size)
      clear hW2 HW2 HTH HZ2 HG
      go_wp2_with (refine wpList_load_mid rfl 93 _ rfl _ _ (by rfl) cs _ HRG2.out Tryz.underlying93 rfl HI.out ?_)
      refine (HC.out _ HB2.out).mono ?_
      rintro e w3 ⟨rfl, hb3⟩
      have k3 := bx_below k2 z2 hb3
      have z3 := Nat.lt_of_lt_of_le z2 hb3.size
      replace HB : Hid (Below w.heap.size w w3) := HB.out.trans (hb3.mono HB.out.size)
      have HB3 : Hid (Below wr.heap.size wr w3) := HB2.out.trans (hb3.mono HB2.out.size)
      clear hb3 HC k2 z2 HRG2 HB2
      have hkc : (k : Int) ≤ (cap : Int) := by omega
      by_cases hF : subF l[k] = 0
      case neg =>
        have hRF : subF l[k] = R := by rw [HRR.out, if_pos hF]
        have hF' : (subF l[k] != 0) = true := by simp [hF]
        obtain ⟨FF, hFF⟩ : ∃ FF, subF l[k] = FF := ⟨_, rfl⟩
        rw [hFF] at hRF hF' ⊢
        subst hRF
        clear hF hFF HRR
        go_wp2_with fail
        go_ret
        exact ⟨rfl, HB.out⟩
      have hR2 := HRR.out
      rw [if_neg (by simp [hF])] at hR2
      replace HRR : Hid _ := hR2
      rw [hF]
      clear hR2 hF
      have HHP : Hid (∀ W, Below w3.heap.size w3 W → Calls Tryz.prog 102 #[.slice (some ⟨b, off, none⟩) k cap, .int .i64 l[k].1] W fun e w' => e = .returned (.bool ((l.take k).any fun y => decide (y.1 = l[k].1))) ∧ Below W.heap.size W w') := fun W hW => HHP0.out W (HB3.out.trans (hW.mono HB3.out.size))
      have a0 : cs.toArray[0]? = some (.int .i64 l[k].1) := by rw [List.getElem?_toArray]; exact HCS.out.1
      have a2 : cs.toArray[2]? = some (.bool l[k].2.2.1) := by rw [List.getElem?_toArray]; exact HCS.out.2
      clear HHP0 HCS HB3
      generalize ((l.take k).any fun y => decide (y.1 = l[k].1)) = AN at *
      generalize l[k].1 = pk at *
      generalize hjn : l[k].2.2.1 = jn at a2 HRR
      clear hjn
      go_upto_region 7 with fail
      go_cut [24] (fun u wx => u = .bool AN ∧ Hid (Below w3.heap.size w3 wx))
      case first =>
        refine wp_region_noPanic ?_
        refine Goes.start (S := fun w' => Below w3.heap.size w3 w') (z := 100) (by kernel_rfl) ?_
        refine Goes.take (i := 0) (oi := ?oi2) (x := ?vx2) ?ho2 (by kernel_rfl) (by kernel_rfl) (by kernel_rfl) (by kernel_rfl) (fun _ _ _ h => h) (Or.inl ⟨?hw2, ?hy2⟩) (Below.drew (Below.refl _ _)) ?rest2
        case ho2 => (simp only [List.getElem?_toArray, List.getElem?_cons_zero]; rfl)
        case hw2 => rfl
        case hy2 => (intro w' hSw; have q := fun o => (hSw.cell (p := ⟨wr.heap.size, o, none⟩) z3).trans (k3 o); go_simp; (try with_reducible rfl))
        case rest2 =>
        (try simp only [Act.put, List.setIfInBounds_toArray, List.set_cons_zero, List.set_cons_succ])
        refine Goes.take (i := 1) (oi := ?oi3) (x := ?vx3) ?ho3 (by kernel_rfl) (by kernel_rfl) (by kernel_rfl) (by kernel_rfl) (fun _ _ _ h => h) (Or.inl ⟨?hw3, ?hy3⟩) (Below.drew (Below.refl _ _)) ?rest3
        case ho3 => (simp only [List.getElem?_toArray, List.getElem?_cons_succ, List.getElem?_cons_zero]; rfl)
        case hw3 => rfl
        case hy3 => (intro w' hSw; have q := fun o => (hSw.cell (p := ⟨wr.heap.size, o, none⟩) z3).trans (k3 o); go_simp; (try with_reducible rfl))
        case rest3 =>
        (try simp only [Act.put, List.setIfInBounds_toArray, List.set_cons_zero, List.set_cons_succ])
        refine Goes.take (i := 2) (oi := ?oi4) (x := ?vx4) ?ho4 (by kernel_rfl) (by kernel_rfl) (by kernel_rfl) (by kernel_rfl) (fun _ _ _ h => h) (Or.inl ⟨?hw4, ?hy4⟩) (Below.drew (Below.refl _ _)) ?rest4
        case ho4 => (simp only [List.getElem?_toArray, List.getElem?_cons_succ, List.getElem?_cons_zero]; rfl)
        case hw4 => rfl
        case hy4 => (intro w' hSw; have q := fun o => (hSw.cell (p := ⟨wr.heap.size, o, none⟩) z3).trans (k3 o); go_simp; (try with_reducible rfl))
        case rest4 =>
        (try simp only [Act.put, List.setIfInBounds_toArray, List.set_cons_zero, List.set_cons_succ])
        refine Goes.take (i := 3) (oi := ?oi5) (x := ?vx5) ?ho5 (by kernel_rfl) (by kernel_rfl) (by kernel_rfl) (by kernel_rfl) (fun _ _ _ h => h) (Or.inl ⟨?hw5, ?hy5⟩) (Below.drew (Below.refl _ _)) ?rest5
        case ho5 => (simp only [List.getElem?_toArray, List.getElem?_cons_succ, List.getElem?_cons_zero]; rfl)
        case hw5 => rfl
        case hy5 => (intro w' hSw; have q := fun o => (hSw.cell (p := ⟨wr.heap.size, o, none⟩) z3).trans (k3 o); go_simp; (try with_reducible rfl))
        case rest5 =>
        (try simp only [Act.put, List.setIfInBounds_toArray, List.set_cons_zero, List.set_cons_succ])
        refine Goes.take (i := 4) (oi := ?oi6) (x := ?vx6) ?ho6 (by kernel_rfl) (by kernel_rfl) (by kernel_rfl) (by kernel_rfl) (fun _ _ _ h => h) (Or.inl ⟨?hw6, ?hy6⟩) (Below.drew (Below.refl _ _)) ?rest6
        case ho6 => (simp only [List.getElem?_toArray, List.getElem?_cons_succ, List.getElem?_cons_zero]; rfl)
        case hw6 => rfl
        case hy6 => (intro w' hSw; have q := fun o => (hSw.cell (p := ⟨wr.heap.size, o, none⟩) z3).trans (k3 o); go_simp; (try with_reducible rfl))
        case rest6 =>
        (try simp only [Act.put, List.setIfInBounds_toArray, List.set_cons_zero, List.set_cons_succ])
        refine Goes.all (rs := [5]) (by kernel_rfl) (by simp) ?_
        refine Ups.cons (i := 5) (o := ?oo7) ?ho7 (fun KK hKK => ?stp7) Ups.nil
        case ho7 => (simp only [List.getElem?_toArray, List.getElem?_cons_succ, List.getElem?_cons_zero]; rfl)
        case stp7 =>
        go_simp
        go_at_call 102
        refine (HHP.out _ (Below.drew (Below.refl _ _))).mono ?_
        rintro e w4 ⟨rfl, hbq⟩
        replace hbq := (Below.drew (Below.refl w3.heap.size w3)).trans hbq
        have HS7 : Hid (Below w3.heap.size w3 w4) := hbq
        clear hbq
        dsimp only
        refine hKK.out _ _ (Or.inr HS7.out) ?_
        clear hKK KK
        (try simp only [Act.put, List.setIfInBounds_toArray, List.set_cons_zero, List.set_cons_succ])
        refine Goes.done (by kernel_rfl) ?_ _
        refine NoPanic.normal ?_
        go_wp2_with fail
        go_meet
        exact ⟨rfl, by assumption⟩
      case rest =>
      rename World => w4
      obtain ⟨rfl, hb⟩ := hcut
      have k4 := bx_below k3 z3 hb.out
      replace HB : Hid (Below w.heap.size w w4) := HB.out.trans (hb.out.mono HB.out.size)
      clear hb k3 z3 HHP
      cases AN with
      | true =>
        have hR7 : R = 7 := by rw [HRR.out, if_pos rfl]
        subst hR7
        go_wp2_with fail
        go_ret
        exact ⟨rfl, HB.out⟩
      | false =>
      have hR2 := HRR.out
      rw [if_neg (by simp)] at hR2
      replace HRR : Hid _ := hR2
      clear hR2
      by_cases hz : 0 < k
      · rw [decide_eq_true hz] at HRR
        have hzi : decide ((0 : Int) < (k : Int)) = true := by simp; omega
        cases jn with
        | true =>
          have HX : Hid (R = subsFrom (l.take (k + 1)) (l.drop (k + 1))) := by show _ = _; rw [HRR.out, if_neg (by simp)]
          clear HRR
          go_wp2_with fail
          go_roundw
          case rel => exact ⟨k + 1, by omega, by go_num, HX, HB.out⟩
          case measure => simp [intOf]; omega
        | false =>
          have hR1 : R = 1 := by rw [HRR.out, if_pos (by simp)]
          subst hR1
          clear HRR
          go_wp2_with fail
          go_ret
          exact ⟨rfl, HB.out⟩
      · rw [decide_eq_false hz] at HRR
        have hzi : decide ((0 : Int) < (k : Int)) = false := by simp; omega
        cases jn with
        | false =>
          have HX : Hid (R = subsFrom (l.take (k + 1)) (l.drop (k + 1))) := by show _ = _; rw [HRR.out, if_neg (by simp)]
          clear HRR
          go_wp2_with fail
          go_roundw
          case rel => exact ⟨k + 1, by omega, by go_num, HX, HB.out⟩
          case measure => simp [intOf]; omega
        | true =>
          have hR1 : R = 1 := by rw [HRR.out, if_pos (by simp)]
          subst hR1
          clear HRR
          go_wp2_with fail
          go_ret
          exact ⟨rfl, HB.out⟩
    · obtain rfl : k = n := by omega
      have hR0 : R = 0 := by have h := HQ.out; rw [← HN.out, subs_end] at h; exact h
      subst hR0
      go_wp2_with fail
      go_ret
      exact ⟨rfl, hbl⟩
end Go.Proofs.YtfpemobkkfobkaaGreatDoor

/- What the program's iterator over flights tells: those that are so, in order, each with its place; no condition but that what is asked of each is answered and changes nothing. -/
namespace Go.Proofs.YtfpemobkkfobkaaGreatDoor
open Go.RowKit Go.Shelf
set_option linter.unusedVariables false
attribute [local go_sem] Oper.semAt_some

theorem grown_below {W W' : World} (h : Below W.heap.size W W') : W.grownBy W' none := ⟨h.os, h.tape, h.output, h.size, fun k hk _ => h.block k hk⟩
/-- What a round keeps: what lay below n₀, and the box of the question. -/
def KpF (n₀ Bf : Nat) (W W' : World) : Prop := Below n₀ W W' ∧ W'.heap[Bf]? = W.heap[Bf]?
theorem KpF.trans {n₀ Bf : Nat} {A B C : World} (h : KpF n₀ Bf A B) (h' : KpF n₀ Bf B C) : KpF n₀ Bf A C := ⟨h.1.trans h'.1, h'.2.trans h.2⟩
/-- Those of the first k that are so, in order. -/
def soUp {n : Nat} (p : Fin n → Bool) : Nat → List (Fin n)
  | 0 => []
  | k + 1 => if h : k < n then (if p ⟨k, h⟩ = true then soUp p k ++ [⟨k, h⟩] else soUp p k) else soUp p k
theorem soUp_yes {n : Nat} (p : Fin n → Bool) {k : Nat} (h : k < n) (hp : p ⟨k, h⟩ = true) : soUp p (k + 1) = soUp p k ++ [⟨k, h⟩] := by rw [soUp, dif_pos h, if_pos hp]
theorem soUp_no {n : Nat} (p : Fin n → Bool) {k : Nat} (h : k < n) (hp : p ⟨k, h⟩ = false) : soUp p (k + 1) = soUp p k := by rw [soUp, dif_pos h, if_neg (by simp [hp])]
theorem soUp_len {n : Nat} (p : Fin n → Bool) : ∀ k, (soUp p k).length ≤ k
  | 0 => by simp [soUp]
  | k + 1 => by
    have := soUp_len p k
    rw [soUp]
    split
    · split <;> simp <;> omega
    · omega

end Go.Proofs.YtfpemobkkfobkaaGreatDoor

/- What the program's iterator over subs tells: those that are so, in order, each with its place, and whether there is one; no condition but that what is asked of each is answered and changes nothing. Written by mkiters.py. -/
namespace Go.Proofs.YtfpemobkkfobkaaGreatDoor
open Go.RowKit Go.Shelf
set_option linter.unusedVariables false
attribute [local go_sem] Oper.semAt_some

section
variable {F : Fence} {n : Nat} {P : Program} {ops : Array Oper} {Q : Exit → Act → World → Prop} {a : Act} {w : World} {rest : List Oper} {op : Oper}
/-- A load that is known to yield, inside a fence. -/
theorem wpListIn_ld (hw : Region.wanted op (yielded ops a.tmps) = true) (ty : TypeId) (x : Operand) (ho : op.op = .load ty x) (b o : Nat) (hx : a.eval x = .pointer (some ⟨b, o, none⟩)) (v : Value) (hl : (Instr.loadAt ty (.pointer (some ⟨b, o, none⟩))).run P w = .ok v w)
    (h : wpListIn F n P ops Q rest (a.put op.dst v) w) : wpListIn F n P ops Q (op :: rest) a w := by
  simp only [wpListIn, hw, if_true]
  refine ⟨fun f hf => by simp [Oper.about, ho] at hf, ?_⟩
  rw [Oper.semAt_plain F _ _ (fun c => by rw [ho]; simp)]
  unfold execOp
  simp only [ho, hx, Sem.run_bind, hl, Result.andThen_ok, Sem.run_pure]
  exact h
/-- A store that is known to be made, inside a fence. -/
theorem wpListIn_st (hw : Region.wanted op (yielded ops a.tmps) = true) (ty : TypeId) (x y : Operand) (ho : op.op = .store ty x y) (b o : Nat) (hx : a.eval x = .pointer (some ⟨b, o, none⟩)) (v : Value) (hy : a.eval y = v) (w' : World) (hl : (Instr.storeAt ty (.pointer (some ⟨b, o, none⟩)) v).run P w = .ok () w')
    (h : wpListIn F n P ops Q rest (a.put op.dst undef) w') : wpListIn F n P ops Q (op :: rest) a w := by
  simp only [wpListIn, hw, if_true]
  refine ⟨fun f hf => by simp [Oper.about, ho] at hf, ?_⟩
  rw [Oper.semAt_plain F _ _ (fun c => by rw [ho]; simp)]
  unfold execOp
  simp only [ho, hx, hy, Sem.run_bind, hl, Result.andThen_ok, Sem.run_pure]
  exact h
end
theorem so_noneS {n : Nat} (p : Fin n → Bool) : ∀ k, k ≤ n → soUp p k = [] → ∀ i : Fin n, i.1 < k → p i = false
  | 0, _, _, i, hi => by omega
  | k + 1, h, hs, i, hi => by
    have hk : k < n := by omega
    cases hp : p ⟨k, hk⟩ with
    | true => rw [soUp_yes p hk hp] at hs; simp at hs
    | false =>
      rw [soUp_no p hk hp] at hs
      by_cases he : i.1 = k
      · have : i = ⟨k, hk⟩ := Fin.ext he
        rw [this]; exact hp
      · exact so_noneS p k (by omega) hs i (by omega)
theorem kpF_bU {n₀ Bf : Nat} {w : World} (hn : n₀ ≤ w.heap.size) (hf : Bf < w.heap.size) (W : World) (l : Nat) (o o' : Obj) (hl : w.heap.size ≤ l) (h : W.heap[l]? = some o) (h1 : o.isCells = false) (h2 : o.isWalk = false) : KpF n₀ Bf W (W.putObj l o') :=
  ⟨belowK_b hn W l o o' hl h h1 h2, (grownBy_putObj' W l o').block Bf (by have := (Array.getElem?_eq_some_iff.1 h).1; omega) (fun e => by cases e; omega)⟩
/-- The cells of a row of structs of 16 cells, below n₀. -/
structure SbCells (W : World) (n₀ : Nat) (a : Option Addr) (len : Nat) (VS : Fin len → List Value) : Prop where
  at_ : ∀ k : Fin len, ∃ b off, a = some ⟨b, off, none⟩ ∧ b < n₀ ∧ W.rangeAt b (off + k.1 * 16) (VS k) ∧ (VS k).length = 16 ∧ ∀ v ∈ VS k, v.oneCell' = true
theorem SbCells.below {W W' : World} {n₀ : Nat} {a : Option Addr} {len : Nat} {VS : Fin len → List Value} (h : SbCells W n₀ a len VS) (hb : Below n₀ W W') : SbCells W' n₀ a len VS := ⟨fun k => by
  obtain ⟨b, off, ha, hlt, h0, h1⟩ := h.at_ k
  exact ⟨b, off, ha, hlt, range_below h0 hb hlt, h1⟩⟩
set_option maxRecDepth 100000 in
set_option maxHeartbeats 2000000 in
theorem those_inS (m : Nat) (a : Option Addr) (len cap fs : Nat) (lb : Array Value) (w : World) :
    CallsIn Fence.wide m Tryz.prog 132 #[.slice a len cap, .func (.func fs) #[] lb] w fun e w' => e = .returned (.func (.func 152) #[] #[.pointer (some ⟨w.heap.size, 0, none⟩), .pointer (some ⟨w.heap.size + 1, 0, none⟩)]) ∧ w' = (w.alloc (.cells #[.slice a len cap] 180)).alloc (.cells #[.func (.func fs) #[] lb] 179) := by
  refine callsIn_of_wp Tryz.func132 rfl trivial ?_ rfl
  simp only [Tryz.ntmps132, List.size_toArray, List.length_cons, List.length_nil, Nat.reduceAdd, Nat.reduceSub, Array.replicate_succ, Array.replicate_zero, List.push_toArray, List.append_toArray, List.nil_append, List.cons_append]
  gi_wp2
  go_ret
  exact ⟨rfl, rfl⟩
set_option maxRecDepth 100000 in
set_option maxHeartbeats 4000000 in
theorem those1_inS (m : Nat) (hm : 1 ≤ m) (l Bl Bf n₀ b off len cap : Nat) (hl : len ≤ 1048576) (VS : Fin len → List Value) (fs : Nat) (eg : ∀ args w, (callFunc fs args).run Tryz.prog w = .ok (.enter fs args) w) (lb : Array Value) (p : Fin len → Bool) (J Jx : List (Fin len) → World → Prop)
    (W : World) (hBl : W.cell? ⟨Bl, 0, none⟩ = some (.slice (some ⟨b, off, none⟩) len cap)) (hBf : W.cell? ⟨Bf, 0, none⟩ = some (.func (.func fs) #[] lb)) (hn₀ : n₀ ≤ W.heap.size) (hBf2 : Bf < W.heap.size)
    (hc0 : ∀ (k : Fin len), W.rangeAt b (off + k.1 * 16) (VS k)) (hc1 : ∀ (k : Fin len), (VS k).length = 16) (hc2 : ∀ (k : Fin len), ∀ v ∈ VS k, v.oneCell' = true) (hb : b < n₀)
    (hS : ∀ W' (k : Fin len), Below n₀ W W' → CallsIn Fence.wide (m - 1) Tryz.prog fs (#[.agg (VS k).toArray] ++ lb) W' fun e W'' => e = .returned (.bool (p k)) ∧ Below W'.heap.size W' W'')
    (hJ : AbidesFrom W.heap.size J)
    (hY : ∀ pre x W1, J pre W1 → pre.length < len → YieldAt Fence.wide (m - 1) Tryz.prog l #[.int .i64 (x.1 : Int), .agg (VS x).toArray] W1 fun e W' =>
      (e = .returned (.bool true) ∧ J (pre ++ [x]) W' ∧ KpF n₀ Bf W1 W') ∨ (e = .returned (.bool false) ∧ Jx (pre ++ [x]) W')) (h0 : J [] W) :
    CallsIn Fence.wide m Tryz.prog 152 #[.func (.yield l) #[] #[], .pointer (some ⟨Bl, 0, none⟩), .pointer (some ⟨Bf, 0, none⟩)] W fun e W' => (∃ v, e = .returned v) ∧
      ((∃ ys, ys = soUp p len ∧ J ys W') ∨ (∃ pre, (∃ k : Nat, ∃ (hk : k < len), p ⟨k, hk⟩ = true ∧ pre = soUp p (k + 1)) ∧ Jx pre W')) := by
  refine callsIn_of_wp Tryz.func152 rfl trivial ?_ rfl
  simp only [Tryz.ntmps152, List.size_toArray, List.length_cons, List.length_nil, Nat.reduceAdd, Nat.reduceSub, Array.replicate_succ, Array.replicate_zero, List.push_toArray, List.append_toArray, List.nil_append, List.cons_append]
  gi_wp2
  gi_loopw [8] (fun i wr => ∃ k : Nat, k ≤ len ∧ i = .int .i64 k ∧ J (soUp p k) wr ∧ Below n₀ W wr ∧ wr.cell? ⟨Bf, 0, none⟩ = some (.func (.func fs) #[] lb))
    (fun i _ => len - (intOf i).toNat)
  case atStart => exact ⟨0, Nat.zero_le _, rfl, h0, Below.refl _ _, hBf⟩
  case round =>
    obtain ⟨k, hk, rfl, hJs, hnx, hfb⟩ := hrel
    by_cases hlt : k < len
    · have hlt' : (k : Int) < (len : Int) := by omega
      have hSk : Hid (∀ W', Below n₀ W W' → CallsIn Fence.wide (m - 1) Tryz.prog fs (#[.agg (VS ⟨k, hlt⟩).toArray] ++ lb) W' fun e W'' => e = .returned (.bool (p ⟨k, hlt⟩)) ∧ Below W'.heap.size W' W'') := fun W' h => hS W' ⟨k, hlt⟩ h
      have hYk : Hid (∀ pre W1, J pre W1 → pre.length < len → YieldAt Fence.wide (m - 1) Tryz.prog l #[.int .i64 (k : Int), .agg (VS ⟨k, hlt⟩).toArray] W1 fun e W' =>
        (e = .returned (.bool true) ∧ J (pre ++ [⟨k, hlt⟩]) W' ∧ KpF n₀ Bf W1 W') ∨ (e = .returned (.bool false) ∧ Jx (pre ++ [⟨k, hlt⟩]) W')) := fun pre W1 h h2 => hY pre ⟨k, hlt⟩ W1 h h2
      have hYes : Hid (p ⟨k, hlt⟩ = true → soUp p (k + 1) = soUp p k ++ [⟨k, hlt⟩]) := fun h => soUp_yes p hlt h
      have hNo : Hid (p ⟨k, hlt⟩ = false → soUp p (k + 1) = soUp p k) := fun h => soUp_no p hlt h
      have hLn : Hid ((soUp p k).length < len) := by have := soUp_len p k; show _ < _; omega
      have hbf3 : Bf < wr.heap.size := cell_lt hfb
      have HQ : Hid (∀ pre, pre = soUp p (k + 1) → p ⟨k, hlt⟩ = true → ∃ k : Nat, ∃ (hk : k < len), p ⟨k, hk⟩ = true ∧ pre = soUp p (k + 1)) := fun pre h h2 => ⟨k, hlt, h2, h⟩
      have hrg : wr.rangeAt b (off + k * 16) (VS ⟨k, hlt⟩) := range_below (hc0 ⟨k, hlt⟩) hnx hb
      have hl16 := hc1 ⟨k, hlt⟩
      have hone := hc2 ⟨k, hlt⟩
      have hwr : n₀ ≤ wr.heap.size := Nat.le_trans hn₀ hnx.size
      clear hc0 hc1 hc2 hS hY
      generalize VS ⟨k, hlt⟩ = vs at *
      have HI : (Tryz.prog.info? 93).map (·.size) = some vs.length := by rw [hl16]; exact (by kernel_rfl : (Tryz.prog.info? 93).map (·.size) = some 16)
      have hld1 : (Instr.loadAt 93 (.pointer (some ⟨b, off + k * 16, none⟩))).run Tryz.prog wr = .ok (.agg vs.toArray) wr := run_loadAt_mid wr b (off + k * 16) 93 vs _ hrg Tryz.underlying93 rfl HI
      obtain ⟨W1, hW1⟩ : ∃ W1, W1 = (wr.alloc (.cells #[.int .i64 0, .int .i64 0, .bool false, .int .i64 0, .int .i64 0, .int .i64 0, .int .i64 0, .int .i64 0, .int .i64 0, .slice none 0 0, .int .i64 0, .int .i64 0, .slice none 0 0, .int .i64 0, .int .i64 0, .int .i64 0] 93)).setCells wr.heap.size 0 vs.toArray.toList := ⟨_, rfl⟩
      have hst1 : (Instr.storeAt 93 (.pointer (some ⟨wr.heap.size, 0, none⟩)) (.agg vs.toArray)).run Tryz.prog (wr.alloc (.cells #[.int .i64 0, .int .i64 0, .bool false, .int .i64 0, .int .i64 0, .int .i64 0, .int .i64 0, .int .i64 0, .int .i64 0, .slice none 0 0, .int .i64 0, .int .i64 0, .slice none 0 0, .int .i64 0, .int .i64 0, .int .i64 0] 93)) = .ok () W1 := by
        rw [hW1]
        exact run_storeAt_mid _ _ _ _ _ (bx_there (bx_al _ _ _) (fx_al _ _ _) (by rw [List.size_toArray, hl16]; rfl)) (by rw [List.size_toArray]; exact HI) (all_oneCell_toArray hone)
      have kb1 : ∀ o, W1.cell? ⟨wr.heap.size, o, none⟩ = vs.toArray[o]? := by rw [hW1]; exact bx_setCells (A' := vs.toArray) (bx_al wr _ _) (by rw [List.size_toArray, hl16]; rfl)
      have hB1 : Below wr.heap.size wr W1 := by rw [hW1]; exact setCells_below (Nat.le_refl _) _ _ _ _ ((Below.refl _ _).alloc (Nat.le_refl _) _)
      have hz1 : wr.heap.size < W1.heap.size := by rw [hW1, setCells_size]; simp
      clear hW1
      have hld2 : (Instr.loadAt 93 (.pointer (some ⟨wr.heap.size, 0, none⟩))).run Tryz.prog W1 = .ok (.agg vs.toArray) W1 := run_loadAt_mid W1 wr.heap.size 0 93 vs _ (bx_range (A := vs.toArray) kb1) Tryz.underlying93 rfl HI
      have hfb1 : W1.cell? ⟨Bf, 0, none⟩ = some (.func (.func fs) #[] lb) := (hB1.cell (p := ⟨Bf, 0, none⟩) hbf3).trans hfb
      have hld3 : Hid (∀ W2, Below W1.heap.size W1 W2 → (Instr.loadAt 93 (.pointer (some ⟨wr.heap.size, 0, none⟩))).run Tryz.prog W2 = .ok (.agg vs.toArray) W2) := fun W2 h2 => run_loadAt_mid W2 wr.heap.size 0 93 vs _ (bx_range (A := vs.toArray) (bx_below kb1 hz1 h2)) Tryz.underlying93 rfl HI
      clear hrg hl16 hone HI kb1
      gi_wp2_with (first | (refine wpListIn_ld (by rfl) 93 _ rfl _ _ (by rfl) _ hld1 ?_) | (refine wpListIn_st (by rfl) 93 _ _ rfl _ _ (by rfl) _ (by rfl) _ hst1 ?_) | (refine wpListIn_ld (by rfl) 93 _ rfl _ _ (by rfl) _ hld2 ?_))
      refine ⟨trivial, ?_⟩
      gi_wp2_with fail
      refine (hSk.out _ (hnx.trans (hB1.mono hwr))).mono ?_
      rintro e W2 ⟨rfl, hb2⟩
      have hbb : Below wr.heap.size wr W2 := hB1.trans (hb2.mono hB1.size)
      have hJ2 : J (soUp p k) W2 := hJ _ wr W2 none hJs (grown_below hbb) (fun r e => by cases e)
      have hfb2 : W2.cell? ⟨Bf, 0, none⟩ = some (.func (.func fs) #[] lb) := (hbb.cell (p := ⟨Bf, 0, none⟩) hbf3).trans hfb
      have hld4 := hld3.out W2 hb2
      have hnx2 : Below n₀ W W2 := hnx.trans (hbb.mono hwr)
      clear hb2 hbb hSk hJs hld1 hld2 hst1 hld3 hfb1
      by_cases hP : p ⟨k, hlt⟩ = true
      · obtain ⟨fn, tmps, assign, body, hy, hR⟩ := hYk.out _ W2 hJ2 hLn.out
        rw [hP]
        have hy2 := hYes.out hP
        have hq := HQ.out _ hy2.symm hP
        gi_wp2_with (refine wpListIn_ld (by rfl) 93 _ rfl _ _ (by rfl) _ hld4 ?_)
        refine hR.mono ?_
        rintro e W3 (⟨rfl, hJ3, hk3⟩ | ⟨rfl, hJx3⟩)
        · have hf3 : W3.cell? ⟨Bf, 0, none⟩ = some (.func (.func fs) #[] lb) := (World.cell?_of_block (w := W2) (a := ⟨Bf, 0, none⟩) hk3.2).trans hfb2
          gi_wp2
          go_roundw
          case rel => exact ⟨k + 1, by omega, by simp, by rw [hy2]; exact hJ3, hnx2.trans hk3.1, hf3⟩
          case measure => simp [intOf]; omega
        · gi_wp2
          refine bodyPost_ret (results_none rfl _ _ _) rfl ?_
          exact ⟨⟨_, rfl⟩, .inr ⟨_, hq, hJx3⟩⟩
      · replace hP : p ⟨k, hlt⟩ = false := by simpa using hP
        have hy2 := hNo.out hP
        rw [hP]
        gi_wp2
        refine ⟨fun _ h => (by cases h), ?_⟩
        gi_wp2
        go_roundw
        case rel => exact ⟨k + 1, by omega, by simp, by rw [hy2]; exact hJ2, hnx2, hfb2⟩
        case measure => simp [intOf]; omega
    · obtain rfl : k = len := by omega
      gi_wp2
      go_end0
      exact ⟨⟨_, rfl⟩, .inl ⟨_, rfl, hJs⟩⟩

set_option maxRecDepth 100000 in
set_option maxHeartbeats 2000000 in
theorem those1_nilS (m : Nat) (l Bl Bf cap : Nat) (a : Option Addr) (R : World → Prop) (W : World) (hBl : W.cell? ⟨Bl, 0, none⟩ = some (.slice a 0 cap)) (h0 : R W) :
    CallsIn Fence.wide m Tryz.prog 152 #[.func (.yield l) #[] #[], .pointer (some ⟨Bl, 0, none⟩), .pointer (some ⟨Bf, 0, none⟩)] W fun e W' => (∃ v, e = .returned v) ∧ R W' := by
  refine callsIn_of_wp Tryz.func152 rfl trivial ?_ rfl
  simp only [Tryz.ntmps152, List.size_toArray, List.length_cons, List.length_nil, Nat.reduceAdd, Nat.reduceSub, Array.replicate_succ, Array.replicate_zero, List.push_toArray, List.append_toArray, List.nil_append, List.cons_append]
  gi_wp2
  gi_loopw [8] (fun i wr => i = .int .i64 0 ∧ R wr) (fun _ _ => 0)
  case atStart => exact ⟨rfl, h0⟩
  case round =>
    obtain ⟨rfl, hJs⟩ := hrel
    gi_wp2
    go_end0
    exact ⟨⟨_, rfl⟩, hJs⟩

theorem those_stopsS (m : Nat) (hm : 1 ≤ m) (Bl Bf n₀ : Nat) (a : Option Addr) (len cap : Nat) (hl : len ≤ 1048576) (VS : Fin len → List Value) (fs : Nat) (eg : ∀ args w, (callFunc fs args).run Tryz.prog w = .ok (.enter fs args) w) (lb : Array Value) (p : Fin len → Bool) (w : World)
    (hBl : Bl < w.heap.size) (hBf : Bf < w.heap.size) (hn₀ : n₀ ≤ w.heap.size) (cl : w.cell? ⟨Bl, 0, none⟩ = some (.slice a len cap)) (cf : w.cell? ⟨Bf, 0, none⟩ = some (.func (.func fs) #[] lb)) (hc : SbCells w n₀ a len VS)
    (hS : ∀ W' (k : Fin len), Below n₀ w W' → CallsIn Fence.wide (m - 1) Tryz.prog fs (#[.agg (VS k).toArray] ++ lb) W' fun e W'' => e = .returned (.bool (p k)) ∧ Below W'.heap.size W' W'') :
    SeqStopsK Fence.wide m Tryz.prog 152 #[.pointer (some ⟨Bl, 0, none⟩), .pointer (some ⟨Bf, 0, none⟩)] (fun x : Fin len => #[Value.int .i64 (x.1 : Int), .agg (VS x).toArray]) (KpF n₀ Bf) (fun ys => ys = soUp p len) (fun pre => ∃ k : Nat, ∃ (hk : k < len), p ⟨k, hk⟩ = true ∧ pre = soUp p (k + 1)) len w := fun l J Jx W hW hJ hJx hY h0 => by
  have cl' := (hW.cell (p := ⟨Bl, 0, none⟩) hBl).trans cl
  have cf' := (hW.cell (p := ⟨Bf, 0, none⟩) hBf).trans cf
  have hc' := hc.below (hW.mono hn₀)
  by_cases hz : len = 0
  · subst hz
    exact (those1_nilS m l Bl Bf cap a (J []) W cl' h0).mono fun e W' ⟨he, hj⟩ => ⟨he, .inl ⟨_, rfl, hj⟩⟩
  · obtain ⟨b, off, ha, hlt, -⟩ := hc'.at_ ⟨0, by omega⟩
    subst ha
    have hat : ∀ k, W.rangeAt b (off + k.1 * 16) (VS k) ∧ (VS k).length = 16 ∧ ∀ v ∈ VS k, v.oneCell' = true := fun k => by
      obtain ⟨b', off', ha', -, h⟩ := hc'.at_ k
      simp only [Option.some.injEq, Addr.mk.injEq, and_true] at ha'
      obtain ⟨rfl, rfl⟩ := ha'
      exact h
    exact those1_inS m hm l Bl Bf n₀ b off len cap hl VS fs eg lb p J Jx W cl' cf' (Nat.le_trans hn₀ hW.size) (Nat.lt_of_lt_of_le hBf hW.size) (fun k => (hat k).1) (fun k => (hat k).2.1) (fun k => (hat k).2.2) hlt (fun W' k h => hS W' k ((hW.mono hn₀).trans h)) hJ hY h0
set_option maxRecDepth 100000 in
set_option maxHeartbeats 4000000 in
theorem iHasOneS (a : Option Addr) (len cap : Nat) (hl : len ≤ 1048576) (VS : Fin len → List Value) (fs : Nat) (eg : ∀ args w, (callFunc fs args).run Tryz.prog w = .ok (.enter fs args) w) (lb : Array Value) (p : Fin len → Bool) (R : Bool) (w : World)
    (hR1 : R = true → ∃ i, p i = true) (hR2 : R = false → ∀ i, p i = false) (hc : SbCells w w.heap.size a len VS)
    (hS : ∀ W' (k : Fin len), Below w.heap.size w W' → Calls Tryz.prog fs (#[.agg (VS k).toArray] ++ lb) W' fun e W'' => e = .returned (.bool (p k)) ∧ Below W'.heap.size W' W'') :
    Calls Tryz.prog 105 #[.slice a len cap, .func (.func fs) #[] lb] w fun e w' => e = .returned (.bool R) ∧ Below w.heap.size w w' := by
  refine (callsIn_wide (n := 6)).1 ?_
  refine callsIn_of_wp_marks Tryz.func105 rfl trivial ?_ rfl
  simp only [Tryz.ntmps105, List.size_toArray, List.length_cons, List.length_nil, Nat.reduceAdd, Nat.reduceSub, Array.replicate_succ, Array.replicate_zero, List.push_toArray, List.append_toArray, List.nil_append, List.cons_append]
  gi_wp2_with (refine ⟨trivial, ?_⟩; gi_at_call 132; refine (those_inS _ _ _ _ _ _ _).mono ?_; rintro e w' ⟨rfl, rfl⟩)
  have bO := ((Boxed.new w 4 (.bool false)).alloc (.cells #[.slice a len cap] 180)).alloc (.cells #[.func (.func fs) #[] lb] 179)
  have bL := (Boxed.new (w.alloc (.cells #[.bool false] 4)) 180 (.slice a len cap)).alloc (.cells #[.func (.func fs) #[] lb] 179)
  have bF := Boxed.new ((w.alloc (.cells #[.bool false] 4)).alloc (.cells #[.slice a len cap] 180)) 179 (.func (.func fs) #[] lb)
  rw [World.size_alloc] at bL
  rw [World.size_alloc, World.size_alloc] at bF
  have hB5 : Below w.heap.size w (((w.alloc (.cells #[.bool false] 4)).alloc (.cells #[.slice a len cap] 180)).alloc (.cells #[.func (.func fs) #[] lb] 179)) := (((Below.refl _ w).alloc (Nat.le_refl _) _).alloc (by simp) _).alloc (by simp; omega) _
  obtain ⟨W5, hW5⟩ : ∃ W5, W5 = ((w.alloc (.cells #[.bool false] 4)).alloc (.cells #[.slice a len cap] 180)).alloc (.cells #[.func (.func fs) #[] lb] 179) := ⟨_, rfl⟩
  have hz5 : W5.heap.size = w.heap.size + 1 + 1 + 1 := by rw [hW5]; simp
  rw [← hW5] at bO bL bF hB5 ⊢
  clear hW5
  refine wpIn_rangeFunc_ownG rfl (by decide) (gf := 152) (lb := #[.pointer (some ⟨w.heap.size + 1, 0, none⟩), .pointer (some ⟨w.heap.size + 1 + 1, 0, none⟩)]) rfl trivial (enters_of Tryz.func152 (by kernel_rfl) rfl)
    (those_stopsS _ (by decide) (w.heap.size + 1) (w.heap.size + 1 + 1) w.heap.size a len cap hl VS fs eg lb p W5 (by omega) (by omega) (by omega) bL.cell bF.cell (hc.below hB5) (fun W' k hW' => callsIn_wide.2 (hS W' k (hB5.trans hW'))))
    KpF.trans (kpF_bU (by omega) (by omega)) (Below.refl _ _) (fun _ => rfl)
    (fun pre W => (pre = [] ∧ Boxed W w.heap.size 4 (.bool false)) ∧ Below w.heap.size w W)
    (fun c pre W => (c = .ret ∧ Boxed W w.heap.size 4 (.bool true)) ∧ Below w.heap.size w W)
    (OwnFrom.and (OwnFrom.and (ownFrom_pure _ _) (Go.Own.from (boxed_own _ _ _) _)) (ownFrom_below (Nat.le_refl _) (by omega)))
    (fun c => OwnFrom.and (OwnFrom.and (ownFrom_pure _ _) (Go.Own.from (boxed_own _ _ _) _)) (ownFrom_below (Nat.le_refl _) (by omega)))
    ⟨⟨rfl, bO⟩, hB5⟩ ?a1 ?assign ?body ?done ?stop
  case assign =>
    intro l x W K hK
    gi_wp2
    exact hK
  case body =>
    rintro lr pre x W ⟨⟨hp, hv⟩, hB⟩ hlt
    have hcc := hv.cell
    have hff := hv.frozen
    gi_wp2
    exact ⟨(KeepsOthers.setCell _ _ _).from _, ⟨rfl, hv.set _⟩, hB.setCell (p := ⟨w.heap.size, 0, none⟩) (Nat.le_refl _) _⟩
  case done =>
    rintro D ys W hD hys ⟨⟨hp, hv⟩, hB⟩ hK
    have hcc := hv.cell
    have hff := hv.frozen
    have hR : R = false := by
      cases R with
      | false => rfl
      | true =>
        obtain ⟨i, hi⟩ := hR1 rfl
        have := so_noneS p len (Nat.le_refl _) (by rw [← hys]; exact hp) i i.2
        rw [this] at hi; cases hi
    subst hR
    gi_wp2
    have hK' := (KeepsOthers.setCell W ⟨w.heap.size, 0, none⟩ (.bool false)).same D _ hK rfl
    refine ⟨by simp, .inl ⟨_, _, rfl, run_takeDeferred hK', ?_⟩⟩
    have hc5 := cell_kept (hv.set (.bool false)).cell (grownBy_putObj' _ D (.deferred none)) (fun r e => by cases e; exact ⟨_, hK', rfl⟩)
    refine ⟨.bool false, by simp [results, Tryz.results105, go_sem, hc5], rfl, (hB.setCell (p := ⟨w.heap.size, 0, none⟩) (Nat.le_refl _) _).trans (belowK_b (w := w) (Nat.le_refl _) _ D _ _ (by omega) hK' rfl rfl)⟩
  case stop =>
    rintro D c pre W hD ⟨k, hk, hpk, -⟩ ⟨⟨rfl, hv⟩, hB⟩ hK
    have hR : R = true := by
      cases R with
      | true => rfl
      | false => have := hR2 rfl ⟨k, hk⟩; rw [this] at hpk; cases hpk
    subst hR
    gi_wp2
    refine ⟨by simp, .inl ⟨_, _, rfl, run_takeDeferred hK, ?_⟩⟩
    have hc5 := cell_kept hv.cell (grownBy_putObj' _ D (.deferred none)) (fun r e => by cases e; exact ⟨_, hK, rfl⟩)
    refine ⟨.bool true, by simp [results, Tryz.results105, go_sem, hc5], rfl, hB.trans (belowK_b (w := w) (Nat.le_refl _) W D _ _ (by omega) hK rfl rfl)⟩
end Go.Proofs.YtfpemobkkfobkaaGreatDoor
