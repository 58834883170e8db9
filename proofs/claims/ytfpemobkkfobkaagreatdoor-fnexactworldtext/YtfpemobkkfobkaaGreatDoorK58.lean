/- What the law's own helpers (measure, copy, compare) make of slices of conns; no condition but that there are at most a million parts. Written by mks.py. -/
import Derived.Test.YtfpemobkkfobkaaGreatDoorRows
import Derived.Deep.DeepCutAuto
import Derived.Deep.RegionHeld3
import Derived.Deep.MidRow
import Derived.Test.YtfpemobkkfobkaaGreatDoorK01
import Derived.Test.YtfpemobkkfobkaaGreatDoorK02
import Derived.Test.YtfpemobkkfobkaaGreatDoorK03
import Derived.Test.YtfpemobkkfobkaaGreatDoorK04
import Derived.Test.YtfpemobkkfobkaaGreatDoorK09
import Derived.Test.YtfpemobkkfobkaaGreatDoorK10
import Derived.Test.YtfpemobkkfobkaaGreatDoorK11
import Derived.Test.YtfpemobkkfobkaaGreatDoorK17
import Derived.Test.YtfpemobkkfobkaaGreatDoorK20
import Derived.Test.YtfpemobkkfobkaaGreatDoorK55
import Derived.Test.YtfpemobkkfobkaaGreatDoorK57
namespace Go.Proofs.YtfpemobkkfobkaaGreatDoor
open Go.RowKit
set_option linter.unusedVariables false
set_option maxRecDepth 8000

abbrev shConns : Sh := .row 79 shConn
def totConns (l : List DConn) : Nat := l.length + fsum totConn l

theorem info_ConnsL : (Tryz.prog.info? 68).map (·.size) = some 14 := by kernel_rfl
set_option maxHeartbeats 2000000 in
theorem lSzConns (l : List DConn) (v : Value) (left : Int) (w : World) (B : Nat) (hr : shConns.Rd w B l [v]) (hB : B ≤ w.heap.size) (h0 : 0 ≤ left) (h1 : left ≤ 1048576) :
    Calls Tryz.prog 10 #[v, .int .i64 left] w fun e w' => e = .returned (.int .i64 (if left < totConns l then -1 else left - totConns l)) ∧ Below w.heap.size w w' := by
  obtain ⟨a, cap, ev⟩ := row_form hr
  simp only [List.cons.injEq, and_true] at ev
  subst ev
  have hmx : l.length ≤ 9223372036854775807 := row_max hr
  by_cases hA : left < l.length
  · rw [if_pos (by unfold totConns; omega)]
    clear hr
    generalize l.length = n at *
    have h2 : left - (n : Int) < 0 := by omega
    go_enter Tryz.func10, Tryz.ntmps10
    go_wp2
    go_ret
    exact ⟨rfl, by go_grown⟩
  · obtain ⟨n, hn⟩ : ∃ n, l.length = n := ⟨_, rfl⟩
    rw [hn] at hr hmx hA ⊢
    have h2 : 0 ≤ left - (n : Int) := by omega
    generalize hRR : (if left < (totConns l : Int) then -1 else left - (totConns l : Int)) = R
    have HRR : Hid ((if left < (totConns l : Int) then -1 else left - (totConns l : Int)) = R) := hRR
    have HRd : Hid (∀ W, Below w.heap.size w W → shConns.Rd W B l [.slice a n cap]) := fun W hW => hr.below hB hW
    have HN : Hid (l.length = n) := hn
    clear hRR hr hn
    go_enter Tryz.func10, Tryz.ntmps10
    go_wp2_with fail
    go_loopw [1, 5] (fun t i wr => ∃ (k : Nat) (x : Int), k ≤ n ∧ i = .int .i64 k ∧ t = .int .i64 x ∧ 0 ≤ x ∧ x ≤ left ∧ Hid (x = left - n - (fsum totConn (l.take k) : Nat)) ∧ Below w.heap.size w wr) (fun _ i _ => n - (intOf i).toNat)
    case atStart => exact ⟨0, left - n, Nat.zero_le _, rfl, rfl, h2, by omega, (by simp [fsum] : left - (n : Int) = left - n - (fsum totConn (l.take 0) : Nat)), Below.refl _ _⟩
    case round =>
      obtain ⟨k, x, hk, rfl, rfl, hx0, hx1, hxe, hbl⟩ := hrel
      by_cases hlt : k < n
      · have hkl : k < l.length := by have := HN.out; omega
        obtain ⟨b, off, cs, ha, hb, hlen, hrg, r3⟩ := row_at (HRd.out wr hbl) k hkl
        subst ha
        replace hlen : cs.length = 14 := hlen
        replace hrg : wr.rangeAt b (off + k * 14) cs := hrg
        have HI : (Tryz.prog.info? 68).map (·.size) = some cs.length := by rw [hlen]; exact info_ConnsL
        have HS : Hid (fsum totConn (l.take (k + 1)) = fsum totConn (l.take k) + totConn l[k]) := fsum_take hkl
        have HS2 : Hid (fsum totConn (l.take (k + 1)) ≤ fsum totConn l) := fsum_le l (k + 1)
        have HC : Hid (Calls Tryz.prog 26 #[.agg cs.toArray, .int .i64 x] wr fun e w' => e = .returned (.int .i64 (if x < totConn l[k] then -1 else x - totConn l[k])) ∧ Below wr.heap.size wr w') := lSzConn l[k] cs.toArray x wr B r3 (Nat.le_trans hB hbl.size) hx0 (by omega)
        have HB : Hid _ := hbl
        have HG : Hid _ := hrg
        have HI' : Hid _ := HI
        clear r3 hbl hrg HI
        generalize totConn l[k] = q at *
        go_wp2_with (refine wpList_load_mid rfl 68 _ rfl _ _ (by rfl) cs _ HG.out Tryz.underlying68 rfl HI'.out ?_)
        refine HC.out.mono ?_
        rintro e w1 ⟨rfl, hb1⟩
        have HB1 : Hid (Below w.heap.size w w1) := HB.out.trans (hb1.mono HB.out.size)
        clear hb1 HC
        by_cases hq : x < q
        · rw [if_pos hq]
          go_wp2_with fail
          go_ret
          refine ⟨ret_int ?_, HB1.out⟩
          have := HS.out; have := HS2.out; have := hxe.out; have := HN.out
          rw [← HRR.out, if_pos (by unfold totConns; omega)]
        · rw [if_neg hq]
          have hq2 : 0 ≤ x - (q : Int) := by omega
          have HE : Hid (x - q = left - n - (fsum totConn (l.take (k + 1)) : Nat)) := by have := HS.out; have := hxe.out; show _ = _; omega
          have hq3 : x - (q : Int) ≤ left := by omega
          clear hq
          generalize x - (q : Int) = x2 at *
          go_wp2_with fail
          go_roundw
          case rel => exact ⟨k + 1, x2, by omega, by go_num, rfl, hq2, hq3, HE, HB1.out⟩
          case measure => simp [intOf]; omega
      · obtain rfl : k = n := by omega
        go_wp2_with fail
        go_ret
        refine ⟨ret_int ?_, hbl⟩
        have h3 := hxe.out; have h4 := HN.out
        rw [← h4, List.take_length] at h3
        rw [← HRR.out, if_neg (by unfold totConns; omega)]
        unfold totConns; omega

theorem info_ConnsI : (Tryz.prog.info? 79).map (·.size) = some 14 := by kernel_rfl
theorem info_ConnsZ : (Tryz.prog.info? 79).map (fun i => (i.zero, i.size, i.bytes)) = some (some (.agg #[.int .i64 0, .int .i64 0, .int .i64 0, .bool false, .bool false, .slice none 0 0, .bool false, .int .i64 0, .bool false, .slice none 0 0, .slice none 0 0, .int .i64 0, .int .i64 0, .slice none 0 0]), 14, 168) := by kernel_rfl
set_option maxHeartbeats 4000000 in
theorem lToConns (l : List DConn) (v : Value) (w : World) (B : Nat) (hr : shConns.Rd w B l [v]) (hB : B ≤ w.heap.size) (hT : totConns l ≤ 1048576) :
    Calls Tryz.prog 16 #[v] w fun e w' => ∃ u, e = .returned u ∧ Own w' w.heap.size w'.heap.size shConns l [u] ∧ Below w.heap.size w w' := by
  obtain ⟨i0, hi, hz0, hz1, hz2⟩ := info_parts info_ConnsZ
  obtain ⟨a, cap, ev⟩ := row_form hr
  simp only [List.cons.injEq, and_true] at ev
  subst ev
  have HT : Hid (∀ k (hk : k < l.length), totConn l[k] ≤ 1048576) := fun k hk => by have := fsum_at totConn hk; unfold totConns at hT; omega
  have hn1 : l.length ≤ 1048576 := by unfold totConns at hT; omega
  obtain ⟨n, hn⟩ : ∃ n, l.length = n := ⟨_, rfl⟩
  rw [hn] at hr hn1 ⊢
  have HRd : Hid (∀ W, Below w.heap.size w W → shConns.Rd W B l [.slice a n cap]) := fun W hW => hr.below hB hW
  have HN : Hid (l.length = n) := hn
  clear hr hT hn
  go_enter Tryz.func16, Tryz.ntmps16
  go_wp2_with (at_make; refine wpList_make_full w rfl _ _ 34 rfl w.heap.size 79 i0 (.agg #[.int .i64 0, .int .i64 0, .int .i64 0, .bool false, .bool false, .slice none 0 0, .bool false, .int .i64 0, .bool false, .slice none 0 0, .slice none 0 0, .int .i64 0, .int .i64 0, .slice none 0 0]) 14 Tryz.underlying34 hi hz0 hz1 .i64 .i64 _ _ n (by rfl) (by rfl) rfl rfl (by rw [hz2]; omega) (by unfold maxLen; omega) (Nat.le_refl _) ?_; intro w1 hown hgr)
  have hb1 : Below w.heap.size w w1 := (Below.refl _ _).grown hgr (Nat.le_refl _) (by intro k hk; cases hk)
  have hown0 : Own w1 w.heap.size w1.heap.size shConns (l.take 0 ++ List.replicate (n - 0) shConn.zero) [.slice (some ⟨w.heap.size, 0, none⟩) n n] := by
    have h := Own.made (e := shConn) (z := .agg #[.int .i64 0, .int .i64 0, .int .i64 0, .bool false, .bool false, .slice none 0 0, .bool false, .int .i64 0, .bool false, .slice none 0 0, .slice none 0 0, .int .i64 0, .int .i64 0, .slice none 0 0]) rfl hown
    exact h.tight
  have HO0 : Hid _ := hown0
  have HB0 : Hid _ := hb1
  clear hown hgr hown0 hb1 hi hz0 hz1 hz2
  go_loopw [4] (fun i wr => ∃ k : Nat, k ≤ n ∧ i = .int .i64 k ∧ Own wr w.heap.size wr.heap.size shConns (l.take k ++ List.replicate (n - k) shConn.zero) [.slice (some ⟨w.heap.size, 0, none⟩) n n] ∧ Below w.heap.size w wr) (fun i _ => n - (intOf i).toNat)
  case atStart => exact ⟨0, Nat.zero_le _, rfl, HO0.out, HB0.out⟩
  case round =>
    obtain ⟨k, hk, rfl, hown, hbl⟩ := hrel
    clear HO0 HB0
    by_cases hlt : k < n
    · have hkl : k < l.length := by have := HN.out; omega
      obtain ⟨b, off, cs, ha, hb, hlen, hrg, r3⟩ := row_at (HRd.out wr hbl) k hkl
      subst ha
      replace hlen : cs.length = 14 := hlen
      replace hrg : wr.rangeAt b (off + k * 14) cs := hrg
      have HI : (Tryz.prog.info? 68).map (·.size) = some cs.length := by rw [hlen]; exact (by kernel_rfl : (Tryz.prog.info? 68).map (·.size) = some 14)
      have HC : Hid (Calls Tryz.prog 34 #[.agg cs.toArray] wr fun e w' => ∃ A, e = .returned (.agg A) ∧ Own w' wr.heap.size w'.heap.size shConn l[k] A.toList ∧ Below wr.heap.size wr w') := lToConn l[k] cs.toArray wr B r3 (Nat.le_trans hB hbl.size) (HT.out k hkl)
      have HG : Hid _ := hrg
      have HI' : Hid _ := HI
      have HOwn : Hid _ := hown
      have HBl : Hid _ := hbl
      clear r3 hrg HI hown hbl
      go_wp2_with (refine wpList_load_mid rfl 68 _ rfl _ _ (by rfl) cs _ HG.out Tryz.underlying68 rfl HI'.out ?_)
      refine HC.out.mono ?_
      rintro e w1 ⟨A, rfl, ho, hb1⟩
      clear HC
      have hz := hb1.size
      have hA : A.size = 14 := rd_size (ho.rd (Nat.le_refl _))
      have hA1 : A.all (·.oneCell') = true := rd_all (ho.rd (Nat.le_refl _))
      have o1 : Own w1 w.heap.size wr.heap.size shConns (l.take k ++ List.replicate (n - k) shConn.zero) [.slice (some ⟨w.heap.size, 0, none⟩) n n] := HOwn.out.below (Nat.le_refl _) hb1
      have hlen2 : (l.take k ++ List.replicate (n - k) shConn.zero).length = n := by have := HN.out; simp; omega
      have o3 := o1.stored (k := k) (by rw [hlen2]; exact hlt) ho hz
      rw [set_step HN.out hlt, setRow_cells] at o3
      obtain ⟨sl, fz, -⟩ := hOwnSlot o1
      have hth : w1.there w.heap.size (k * 14) A.size := fun j hj => by
        obtain ⟨old, hold⟩ := sl (k * 14 + j) (by show k * 14 + j < n * 14; omega)
        exact ⟨by rw [hold]; rfl, fz _⟩
      have HT3 : Hid _ := hth
      have HI3 : Hid ((Tryz.prog.info? 79).map (·.size) = some A.size) := by show _ = _; rw [hA]; exact info_ConnsI
      have HA1 : Hid _ := hA1
      have HO3 : Hid (Own (w1.setCells w.heap.size (k * 14) A.toList) w.heap.size w1.heap.size shConns (l.take (k + 1) ++ List.replicate (n - (k + 1)) shConn.zero) [.slice (some ⟨w.heap.size, 0, none⟩) n n]) := o3.1
      have HB3 : Hid (Below w.heap.size w (w1.setCells w.heap.size (k * 14) A.toList)) := setCells_below (Nat.le_refl _) _ _ _ _ (HBl.out.trans (hb1.mono HBl.out.size))
      clear o1 o3 sl fz ho hb1 hz hlen2 hth hA hA1
      go_wp2_with (refine wpList_store_mid rfl 79 _ _ rfl _ _ A (by rfl) (by rfl) HT3.out HI3.out HA1.out ?_)
      go_roundw
      case rel => exact ⟨k + 1, by omega, by go_num, HO3.out.tight, HB3.out⟩
      case measure => simp [intOf]; omega
    · obtain rfl : k = n := by omega
      go_wp2_with fail
      go_ret
      refine ⟨_, rfl, ?_, hbl⟩
      have e : l.take k ++ List.replicate (k - k) shConn.zero = l := by rw [Nat.sub_self, List.take_of_length_le (by have := HN.out; omega)]; simp
      rw [e] at hown
      exact hown

set_option maxHeartbeats 4000000 in
theorem lEqConns (l : List DConn) (v u : Value) (w : World) (B : Nat) (hr : shConns.Rd w B l [v]) (hr' : shConns.Rd w B l [u]) (hB : B ≤ w.heap.size) (hT : totConns l ≤ 1048576) :
    Calls Tryz.prog 22 #[v, u] w fun e w' => e = .returned (.bool true) ∧ Below w.heap.size w w' := by
  obtain ⟨a, cap, ev⟩ := row_form hr
  simp only [List.cons.injEq, and_true] at ev
  subst ev
  obtain ⟨a', cap', ev⟩ := row_form hr'
  simp only [List.cons.injEq, and_true] at ev
  subst ev
  have hmx : l.length ≤ 9223372036854775807 := row_max hr
  have HT : Hid (∀ k (hk : k < l.length), totConn l[k] ≤ 1048576) := fun k hk => by have := fsum_at totConn hk; unfold totConns at hT; omega
  obtain ⟨n, hn⟩ : ∃ n, l.length = n := ⟨_, rfl⟩
  rw [hn] at hr hr' hmx ⊢
  have HR1 : Hid (∀ W, Below w.heap.size w W → shConns.Rd W B l [.slice a n cap]) := fun W hW => hr.below hB hW
  have HR2 : Hid (∀ W, Below w.heap.size w W → shConns.Rd W B l [.slice a' n cap']) := fun W hW => hr'.below hB hW
  have HN : Hid (l.length = n) := hn
  clear hr hr' hT hn
  go_enter Tryz.func22, Tryz.ntmps22
  go_wp2_with fail
  go_loopw [5] (fun i wr => ∃ (k : Nat), k ≤ n ∧ i = .int .i64 k ∧ Below w.heap.size w wr) (fun i _ => n - (intOf i).toNat)
  case atStart => exact ⟨0, Nat.zero_le _, rfl, Below.refl _ _⟩
  case round =>
    obtain ⟨k, hk, rfl, hbl⟩ := hrel
    by_cases hlt : k < n
    · have hkl : k < l.length := by have := HN.out; omega
      have hki : (k : Int) < (n : Int) := by omega
      have hk0 : (0 : Int) ≤ (k : Int) := by omega
      obtain ⟨b0, off0, cs0, ha, hb0, hlen0, hrg0, r0⟩ := row_at (HR1.out wr hbl) k hkl
      subst ha
      replace hlen0 : cs0.length = 14 := hlen0
      replace hrg0 : wr.rangeAt b0 (off0 + k * 14) cs0 := hrg0
      have HI0 : (Tryz.prog.info? 79).map (·.size) = some cs0.length := by rw [hlen0]; exact (by kernel_rfl : (Tryz.prog.info? 79).map (·.size) = some 14)
      obtain ⟨b1, off1, cs1, ha, hb1, hlen1, hrg1, r1⟩ := row_at (HR2.out wr hbl) k hkl
      subst ha
      replace hlen1 : cs1.length = 14 := hlen1
      replace hrg1 : wr.rangeAt b1 (off1 + k * 14) cs1 := hrg1
      have HI1 : (Tryz.prog.info? 79).map (·.size) = some cs1.length := by rw [hlen1]; exact (by kernel_rfl : (Tryz.prog.info? 79).map (·.size) = some 14)
      have HC : Hid (∀ W, Below wr.heap.size wr W → Calls Tryz.prog 44 #[.agg cs0.toArray, .agg cs1.toArray] W fun e w' => e = .returned (.bool true) ∧ Below W.heap.size W w') := fun W hW => lEqConn l[k] cs0.toArray cs1.toArray W B (r0.below (Nat.le_trans hB hbl.size) hW) (r1.below (Nat.le_trans hB hbl.size) hW) (Nat.le_trans hB (Nat.le_trans hbl.size hW.size)) (HT.out k hkl)
      have hz0 : b0 < wr.heap.size := by have := hbl.size; omega
      have hz1 : b1 < wr.heap.size := by have := hbl.size; omega
      have HBl : Hid _ := hbl
      have HG0 : Hid (∀ W, Below wr.heap.size wr W → W.rangeAt b0 (off0 + k * 14) cs0) := fun W hW => range_below hrg0 hW hz0
      have HG1 : Hid (∀ W, Below wr.heap.size wr W → W.rangeAt b1 (off1 + k * 14) cs1) := fun W hW => range_below hrg1 hW hz1
      clear r0 r1 hbl hrg0 hrg1
      go_upto_region 6 with fail
      refine wp_region_noPanic ?_
      refine Goes.start (S := fun w' => Below wr.heap.size wr w') (z := 100) (by kernel_rfl) ?_
      refine Goes.take (i := 0) (oi := ?oi1) (x := ?vx1) ?ho1 (by kernel_rfl) (by kernel_rfl) (by kernel_rfl) (by kernel_rfl) (fun _ _ _ h => h) (Or.inl ⟨?hw1, ?hy1⟩) (Below.drew (Below.refl _ _)) ?rest1
      case ho1 => (simp only [List.getElem?_toArray, List.getElem?_cons_zero]; rfl)
      case hw1 => rfl
      case hy1 => (intro w' hSw; go_simp; (try with_reducible rfl))
      case rest1 =>
      (try simp only [Act.put, List.setIfInBounds_toArray, List.set_cons_zero, List.set_cons_succ])
      refine Goes.take (i := 1) (oi := ?oi2) (x := ?vx2) ?ho2 (by kernel_rfl) (by kernel_rfl) (by kernel_rfl) (by kernel_rfl) (fun _ _ _ h => h) (Or.inl ⟨?hw2, ?hy2⟩) (Below.drew (Below.refl _ _)) ?rest2
      case ho2 => (simp only [List.getElem?_toArray, List.getElem?_cons_succ, List.getElem?_cons_zero]; rfl)
      case hw2 => rfl
      case hy2 => (intro w' hSw; go_simp; (try with_reducible rfl))
      case rest2 =>
      (try simp only [Act.put, List.setIfInBounds_toArray, List.set_cons_zero, List.set_cons_succ])
      refine Goes.take (i := 2) (oi := ?oi3) (x := ?vx3) ?ho3 (by kernel_rfl) (by kernel_rfl) (by kernel_rfl) (by kernel_rfl) (fun _ _ _ h => h) (Or.inl ⟨?hw3, ?hy3⟩) (Below.drew (Below.refl _ _)) ?rest3
      case ho3 => (simp only [List.getElem?_toArray, List.getElem?_cons_succ, List.getElem?_cons_zero]; rfl)
      case hw3 => rfl
      case hy3 => (intro w' hSw; go_simp; (try with_reducible rfl))
      case rest3 =>
      (try simp only [Act.put, List.setIfInBounds_toArray, List.set_cons_zero, List.set_cons_succ])
      refine Goes.take (i := 3) (oi := ?oi4) (x := .agg cs0.toArray) ?ho4 (by kernel_rfl) (by kernel_rfl) (by kernel_rfl) (by kernel_rfl) (fun _ _ _ h => h) ?hy4 (Below.drew (Below.refl _ _)) ?rest4
      case ho4 => (simp only [List.getElem?_toArray, List.getElem?_cons_succ, List.getElem?_cons_zero]; rfl)
      case hy4 => exact yieldsIf_load_mid (by rfl) 79 _ rfl b0 (off0 + k * 14) (by rfl) cs0 _ (fun w' hSw => HG0.out w' hSw) Tryz.underlying79 rfl HI0
      case rest4 =>
      (try simp only [Act.put, List.setIfInBounds_toArray, List.set_cons_zero, List.set_cons_succ])
      refine Goes.take (i := 4) (oi := ?oi5) (x := ?vx5) ?ho5 (by kernel_rfl) (by kernel_rfl) (by kernel_rfl) (by kernel_rfl) (fun _ _ _ h => h) (Or.inl ⟨?hw5, ?hy5⟩) (Below.drew (Below.refl _ _)) ?rest5
      case ho5 => (simp only [List.getElem?_toArray, List.getElem?_cons_succ, List.getElem?_cons_zero]; rfl)
      case hw5 => rfl
      case hy5 => (intro w' hSw; go_simp; (try with_reducible rfl))
      case rest5 =>
      (try simp only [Act.put, List.setIfInBounds_toArray, List.set_cons_zero, List.set_cons_succ])
      refine Goes.take (i := 5) (oi := ?oi6) (x := ?vx6) ?ho6 (by kernel_rfl) (by kernel_rfl) (by kernel_rfl) (by kernel_rfl) (fun _ _ _ h => h) (Or.inl ⟨?hw6, ?hy6⟩) (Below.drew (Below.refl _ _)) ?rest6
      case ho6 => (simp only [List.getElem?_toArray, List.getElem?_cons_succ, List.getElem?_cons_zero]; rfl)
      case hw6 => rfl
      case hy6 => (intro w' hSw; go_simp; (try with_reducible rfl))
      case rest6 =>
      (try simp only [Act.put, List.setIfInBounds_toArray, List.set_cons_zero, List.set_cons_succ])
      refine Goes.take (i := 6) (oi := ?oi7) (x := ?vx7) ?ho7 (by kernel_rfl) (by kernel_rfl) (by kernel_rfl) (by kernel_rfl) (fun _ _ _ h => h) (Or.inl ⟨?hw7, ?hy7⟩) (Below.drew (Below.refl _ _)) ?rest7
      case ho7 => (simp only [List.getElem?_toArray, List.getElem?_cons_succ, List.getElem?_cons_zero]; rfl)
      case hw7 => rfl
      case hy7 => (intro w' hSw; go_simp; (try with_reducible rfl))
      case rest7 =>
      (try simp only [Act.put, List.setIfInBounds_toArray, List.set_cons_zero, List.set_cons_succ])
      refine Goes.take (i := 7) (oi := ?oi8) (x := .agg cs1.toArray) ?ho8 (by kernel_rfl) (by kernel_rfl) (by kernel_rfl) (by kernel_rfl) (fun _ _ _ h => h) ?hy8 (Below.drew (Below.refl _ _)) ?rest8
      case ho8 => (simp only [List.getElem?_toArray, List.getElem?_cons_succ, List.getElem?_cons_zero]; rfl)
      case hy8 => exact yieldsIf_load_mid (by rfl) 79 _ rfl b1 (off1 + k * 14) (by rfl) cs1 _ (fun w' hSw => HG1.out w' hSw) Tryz.underlying79 rfl HI1
      case rest8 =>
      (try simp only [Act.put, List.setIfInBounds_toArray, List.set_cons_zero, List.set_cons_succ])
      refine Goes.all (rs := [8]) (by kernel_rfl) (by simp) ?_
      refine Ups.cons (i := 8) (o := ?oo50) ?ho50 (fun KK hKK => ?stp50) Ups.nil
      case ho50 => (simp only [List.getElem?_toArray, List.getElem?_cons_succ, List.getElem?_cons_zero]; rfl)
      case stp50 =>
      go_simp
      go_at_call 44
      refine (HC.out _ (Below.drew (Below.refl _ _))).mono ?_
      rintro e w1 ⟨rfl, hb1⟩
      replace hb1 := (Below.drew (Below.refl wr.heap.size wr)).trans hb1
      have HB1 : Hid (Below w.heap.size w w1) := HBl.out.trans (hb1.mono HBl.out.size)
      have HB2 : Hid (Below wr.heap.size wr w1) := hb1
      clear hb1
      dsimp only
      refine hKK.out _ _ (Or.inr HB2.out) ?_
      clear hKK KK
      (try simp only [Act.put, List.setIfInBounds_toArray, List.set_cons_zero, List.set_cons_succ])
      refine Goes.all (rs := [9]) (by kernel_rfl) (by simp) ?_
      refine Ups.cons (i := 9) (o := ?oo51) ?ho51 (fun KK hKK => ?stp51) Ups.nil
      case ho51 => (simp only [List.getElem?_toArray, List.getElem?_cons_succ, List.getElem?_cons_zero]; rfl)
      case stp51 =>
      go_simp
      refine hKK.out _ _ (Or.inr HB2.out) ?_
      clear hKK KK
      (try simp only [Act.put, List.setIfInBounds_toArray, List.set_cons_zero, List.set_cons_succ])
      refine Goes.done (by kernel_rfl) ?_ _
      refine NoPanic.normal ?_
      go_wp2_with fail
      go_roundw
      case rel => exact ⟨k + 1, by omega, by go_num, HB1.out⟩
      case measure => simp [intOf]; omega
    · obtain rfl : k = n := by omega
      go_wp2_with fail
      go_ret
      exact ⟨rfl, hbl⟩
end Go.Proofs.YtfpemobkkfobkaaGreatDoor

/- What the law's own helpers (measure, copy, compare) make of slices of slices of bytes; no condition but that there are at most a million parts. Written by mkbss.py. -/
namespace Go.Proofs.YtfpemobkkfobkaaGreatDoor
open Go.RowKit
set_option linter.unusedVariables false
set_option maxRecDepth 8000

abbrev shBss : Sh := .row 62 u8s
def totBss (l : List (List Int)) : Nat := l.length + fsum List.length l
theorem bss_at {w : World} {B : Nat} {l : List (List Int)} {a : Option Addr} {n cap : Nat} (h : shBss.Rd w B l [.slice a n cap]) (k : Nat) (hk : k < l.length) :
    ∃ b off u uc, a = some ⟨b, off, none⟩ ∧ b < B ∧ w.cell? ⟨b, off + k, none⟩ = some (.slice u l[k].length uc) ∧ u8s.Rd w B l[k] [.slice u l[k].length uc] := by
  obtain ⟨b, off, cs, ha, hb, hlen, hrg, r3⟩ := row_at h k hk
  obtain ⟨u, uc, e⟩ := row_form r3
  subst e
  refine ⟨b, off, u, uc, ha, hb, ?_, r3⟩
  have := hrg 0 _ rfl
  simpa [Sh.sz] using this
theorem lSzBoolsU (l : List Bool) (v : Value) (left : Int) (w : World) (B : Nat) (hr : (bls 4).Rd w B l [v]) (hB : B ≤ w.heap.size) (h0 : 0 ≤ left) (h1 : left ≤ 1048576) :
    Calls Tryz.prog 13 #[v, .int .i64 left] w fun e w' => e = .returned (.int .i64 (if left < (l.length : Nat) then -1 else left - (l.length : Nat))) ∧ Below w.heap.size w w' := lSzBools _ l v left w B hr h0 h1
theorem lToBoolsU (l : List Bool) (v : Value) (w : World) (B : Nat) (hr : (bls 4).Rd w B l [v]) (hB : B ≤ w.heap.size) (hT : l.length ≤ 1048576) :
    Calls Tryz.prog 19 #[v] w fun e w' => ∃ u, e = .returned u ∧ Own w' w.heap.size w'.heap.size (bls 4) l [u] ∧ Below w.heap.size w w' := lToBools _ l v w B hr hB hT
theorem lEqBoolsU (l : List Bool) (v u : Value) (w : World) (B : Nat) (hr : (bls 4).Rd w B l [v]) (hr' : (bls 4).Rd w B l [u]) (hB : B ≤ w.heap.size) (hT : l.length ≤ 1048576) :
    Calls Tryz.prog 25 #[v, u] w fun e w' => e = .returned (.bool true) ∧ Below w.heap.size w w' := lEqBools _ _ l v u w B hr hr' hB hT
theorem rd_NetD {w : World} {B : Nat} {x : DNet} {cs : List Value} (h : shNet.Rd w B x cs) : ∃ a c a' c', cs = [.slice a x.1.length c, .slice a' x.2.1.length c'] ∧ shSegms.Rd w B x.1 [.slice a x.1.length c] ∧ (bls 4).Rd w B x.2.1 [.slice a' x.2.1.length c'] := rd_Net h
theorem lSzNetU (x : DNet) (v u : Value) (left : Int) (w : World) (B : Nat) (hr : shNet.Rd w B x [v, u]) (hB : B ≤ w.heap.size) (h0 : 0 ≤ left) (h1 : left ≤ 1048576) :
    Calls Tryz.prog 11 #[.agg #[v, u], .int .i64 left] w fun e w' => e = .returned (.int .i64 (if left < ((totNet x : Nat) : Int) then -1 else left - ((totNet x : Nat) : Int))) ∧ Below w.heap.size w w' := lSzNet x #[v, u] left w B hr hB h0 h1
theorem lToNetU (x : DNet) (v u : Value) (w : World) (B : Nat) (hr : shNet.Rd w B x [v, u]) (hB : B ≤ w.heap.size) (hT : totNet x ≤ 1048576) :
    Calls Tryz.prog 17 #[.agg #[v, u]] w fun e w' => ∃ u1 u2, e = .returned (.agg #[u1, u2]) ∧ Own w' w.heap.size w'.heap.size shNet x [u1, u2] ∧ Below w.heap.size w w' := by
  refine (lToNet x #[v, u] w B hr hB hT).mono ?_
  rintro e w' ⟨N, rfl, ho, hb⟩
  obtain ⟨a, c, a', c', e, -, -⟩ := rd_NetD (ho.rd (Nat.le_refl _))
  rw [e] at ho
  exact ⟨_, _, by rw [arr_of e], ho, hb⟩
theorem lEqNetU (x : DNet) (v u v' u' : Value) (w : World) (B : Nat) (hr : shNet.Rd w B x [v, u]) (hr' : shNet.Rd w B x [v', u']) (hB : B ≤ w.heap.size) (hT : totNet x ≤ 1048576) :
    Calls Tryz.prog 23 #[.agg #[v, u], .agg #[v', u']] w fun e w' => e = .returned (.bool true) ∧ Below w.heap.size w w' := lEqNet x #[v, u] #[v', u'] w B hr hr' hB hT

set_option maxHeartbeats 2000000 in
theorem lSzBss (l : List (List Int)) (v : Value) (left : Int) (w : World) (B : Nat) (hr : shBss.Rd w B l [v]) (hB : B ≤ w.heap.size) (h0 : 0 ≤ left) (h1 : left ≤ 1048576) :
    Calls Tryz.prog 12 #[v, .int .i64 left] w fun e w' => e = .returned (.int .i64 (if left < totBss l then -1 else left - totBss l)) ∧ Below w.heap.size w w' := by
  obtain ⟨a, cap, ev⟩ := row_form hr
  simp only [List.cons.injEq, and_true] at ev
  subst ev
  have hmx : l.length ≤ 9223372036854775807 := row_max hr
  by_cases hA : left < l.length
  · rw [if_pos (by unfold totBss; omega)]
    clear hr
    generalize l.length = n at *
    have h2 : left - (n : Int) < 0 := by omega
    go_enter Tryz.func12, Tryz.ntmps12
    go_wp2
    go_ret
    exact ⟨rfl, by go_grown⟩
  · obtain ⟨n, hn⟩ : ∃ n, l.length = n := ⟨_, rfl⟩
    rw [hn] at hr hmx hA ⊢
    have h2 : 0 ≤ left - (n : Int) := by omega
    generalize hRR : (if left < (totBss l : Int) then -1 else left - (totBss l : Int)) = R
    have HRR : Hid ((if left < (totBss l : Int) then -1 else left - (totBss l : Int)) = R) := hRR
    have HRd : Hid (∀ W, Below w.heap.size w W → shBss.Rd W B l [.slice a n cap]) := fun W hW => hr.below hB hW
    have HN : Hid (l.length = n) := hn
    clear hRR hr hn
    go_enter Tryz.func12, Tryz.ntmps12
    go_wp2_with fail
    go_loopw [1, 5] (fun t i wr => ∃ (k : Nat) (x : Int), k ≤ n ∧ i = .int .i64 k ∧ t = .int .i64 x ∧ 0 ≤ x ∧ x ≤ left ∧ Hid (x = left - n - (fsum List.length (l.take k) : Nat)) ∧ Below w.heap.size w wr) (fun _ i _ => n - (intOf i).toNat)
    case atStart => exact ⟨0, left - n, Nat.zero_le _, rfl, rfl, h2, by omega, (by simp [fsum] : left - (n : Int) = left - n - (fsum List.length (l.take 0) : Nat)), Below.refl _ _⟩
    case round =>
      obtain ⟨k, x, hk, rfl, rfl, hx0, hx1, hxe, hbl⟩ := hrel
      by_cases hlt : k < n
      · have hkl : k < l.length := by have := HN.out; omega
        obtain ⟨b, off, u, uc, ha, hb, hck, r3⟩ := bss_at (HRd.out wr hbl) k hkl
        subst ha
        have HS : Hid (fsum List.length (l.take (k + 1)) = fsum List.length (l.take k) + l[k].length) := fsum_take hkl
        have HS2 : Hid (fsum List.length (l.take (k + 1)) ≤ fsum List.length l) := fsum_le l (k + 1)
        have HC : Hid (Calls Tryz.prog 28 #[.slice u l[k].length uc, .int .i64 x] wr fun e w' => e = .returned (.int .i64 (if x < (l[k].length : Nat) then -1 else x - (l[k].length : Nat))) ∧ Below wr.heap.size wr w') := lSzBytes l[k] _ x wr B r3 (Nat.le_trans hB hbl.size) hx0 (by omega)
        have HB : Hid _ := hbl
        clear r3 hbl
        generalize l[k].length = q at *
        go_wp2_with fail
        refine HC.out.mono ?_
        rintro e w1 ⟨rfl, hb1⟩
        have HB1 : Hid (Below w.heap.size w w1) := HB.out.trans (hb1.mono HB.out.size)
        clear hb1 HC
        by_cases hq : x < q
        · rw [if_pos hq]
          go_wp2_with fail
          go_ret
          refine ⟨ret_int ?_, HB1.out⟩
          have := HS.out; have := HS2.out; have := hxe.out; have := HN.out
          rw [← HRR.out, if_pos (by unfold totBss; omega)]
        · rw [if_neg hq]
          have hq2 : 0 ≤ x - (q : Int) := by omega
          have HE : Hid (x - q = left - n - (fsum List.length (l.take (k + 1)) : Nat)) := by have := HS.out; have := hxe.out; show _ = _; omega
          have hq3 : x - (q : Int) ≤ left := by omega
          clear hq
          generalize x - (q : Int) = x2 at *
          go_wp2_with fail
          go_roundw
          case rel => exact ⟨k + 1, x2, by omega, by go_num, rfl, hq2, hq3, HE, HB1.out⟩
          case measure => simp [intOf]; omega
      · obtain rfl : k = n := by omega
        go_wp2_with fail
        go_ret
        refine ⟨ret_int ?_, hbl⟩
        have h3 := hxe.out; have h4 := HN.out
        rw [← h4, List.take_length] at h3
        rw [← HRR.out, if_neg (by unfold totBss; omega)]
        unfold totBss; omega
theorem info_bssZ : (Tryz.prog.info? 62).map (fun i => (i.zero, i.size, i.bytes)) = some (some (.slice none 0 0), 1, 24) := by kernel_rfl
set_option maxHeartbeats 2000000 in
theorem lToBss (l : List (List Int)) (v : Value) (w : World) (B : Nat) (hr : shBss.Rd w B l [v]) (hB : B ≤ w.heap.size) (hT : totBss l ≤ 1048576) :
    Calls Tryz.prog 18 #[v] w fun e w' => ∃ u, e = .returned u ∧ Own w' w.heap.size w'.heap.size shBss l [u] ∧ Below w.heap.size w w' := by
  obtain ⟨i0, hi, hz0, hz1, hz2⟩ := info_parts info_bssZ
  obtain ⟨a, cap, ev⟩ := row_form hr
  simp only [List.cons.injEq, and_true] at ev
  subst ev
  have HT : Hid (∀ k (hk : k < l.length), l[k].length ≤ 1048576) := fun k hk => by have := fsum_at List.length hk; unfold totBss at hT; omega
  have hn1 : l.length ≤ 1048576 := by unfold totBss at hT; omega
  obtain ⟨n, hn⟩ : ∃ n, l.length = n := ⟨_, rfl⟩
  rw [hn] at hr hn1 ⊢
  have HRd : Hid (∀ W, Below w.heap.size w W → shBss.Rd W B l [.slice a n cap]) := fun W hW => hr.below hB hW
  have HN : Hid (l.length = n) := hn
  clear hr hT hn
  go_enter Tryz.func18, Tryz.ntmps18
  go_wp2_with (at_make; refine wpList_make_full w rfl _ _ 27 rfl w.heap.size 62 i0 (.slice none 0 0) 1 Tryz.underlying27 hi hz0 hz1 .i64 .i64 _ _ n (by rfl) (by rfl) rfl rfl (by rw [hz2]; omega) (by unfold maxLen; omega) (Nat.le_refl _) ?_; intro w1 hown hgr)
  have hb1 : Below w.heap.size w w1 := (Below.refl _ _).grown hgr (Nat.le_refl _) (by intro k hk; cases hk)
  have hown0 : Own w1 w.heap.size w1.heap.size shBss (l.take 0 ++ List.replicate (n - 0) u8s.zero) [.slice (some ⟨w.heap.size, 0, none⟩) n n] := by
    have h := Own.made (e := u8s) (z := .slice none 0 0) rfl hown
    exact h.tight
  have HO0 : Hid _ := hown0
  have HB0 : Hid _ := hb1
  clear hown hgr hown0 hb1 hi hz0 hz1 hz2
  go_loopw [4] (fun i wr => ∃ k : Nat, k ≤ n ∧ i = .int .i64 k ∧ Own wr w.heap.size wr.heap.size shBss (l.take k ++ List.replicate (n - k) u8s.zero) [.slice (some ⟨w.heap.size, 0, none⟩) n n] ∧ Below w.heap.size w wr) (fun i _ => n - (intOf i).toNat)
  case atStart => exact ⟨0, Nat.zero_le _, rfl, HO0.out, HB0.out⟩
  case round =>
    obtain ⟨k, hk, rfl, hown, hbl⟩ := hrel
    clear HO0 HB0
    by_cases hlt : k < n
    · have hkl : k < l.length := by have := HN.out; omega
      obtain ⟨b, off, u, uc, ha, hb, hck, r3⟩ := bss_at (HRd.out wr hbl) k hkl
      subst ha
      have HC : Hid (Calls Tryz.prog 36 #[.slice u l[k].length uc] wr fun e w' => ∃ z, e = .returned z ∧ Own w' wr.heap.size w'.heap.size u8s l[k] [z] ∧ Below wr.heap.size wr w') := lToBytes l[k] _ wr B r3 (Nat.le_trans hB hbl.size) (HT.out k hkl)
      have HOwn : Hid _ := hown
      have HBl : Hid _ := hbl
      clear r3 hown hbl
      obtain ⟨q, hq⟩ : ∃ q, q = l[k].length := ⟨_, rfl⟩
      rw [← hq] at hck HC
      have HQ : Hid _ := hq
      clear hq
      go_wp2_with fail
      refine HC.out.mono ?_
      rintro e w1 ⟨z, rfl, ho, hb1⟩
      clear HC
      obtain ⟨zu, zc, ez⟩ := row_form (ho.rd (Nat.le_refl _))
      simp only [List.cons.injEq, and_true] at ez
      subst ez
      have hz := hb1.size
      have o1 : Own w1 w.heap.size wr.heap.size shBss (l.take k ++ List.replicate (n - k) u8s.zero) [.slice (some ⟨w.heap.size, 0, none⟩) n n] := HOwn.out.below (Nat.le_refl _) hb1
      have hlen2 : (l.take k ++ List.replicate (n - k) u8s.zero).length = n := by have := HN.out; simp; omega
      have o3 := o1.stored (k := k) (by rw [hlen2]; exact hlt) ho hz
      rw [set_step HN.out hlt] at o3
      obtain ⟨sl, fz, -⟩ := hOwnSlot o1
      obtain ⟨old, hold⟩ := sl k (by show k < n * 1; omega)
      have hfz := fz k
      have o4 := o3.1
      have e1 : setRow w1 w.heap.size (k * u8s.sz) [.slice zu l[k].length zc] = w1.setCell ⟨w.heap.size, k, none⟩ (.slice zu l[k].length zc) := by show w1.setCell ⟨w.heap.size, k * 1, none⟩ _ = _; rw [Nat.mul_one]
      rw [e1] at o4
      have HO3 : Hid (Own (w1.setCell ⟨w.heap.size, k, none⟩ (.slice zu l[k].length zc)) w.heap.size w1.heap.size shBss (l.take (k + 1) ++ List.replicate (n - (k + 1)) u8s.zero) [.slice (some ⟨w.heap.size, 0, none⟩) n n]) := o4
      have HB3 : Hid (Below w.heap.size w (w1.setCell ⟨w.heap.size, k, none⟩ (.slice zu l[k].length zc))) := (HBl.out.trans (hb1.mono HBl.out.size)).setCell (by simp) _
      clear o1 o3 o4 e1 sl fz ho hb1 hz hlen2
      have hq := HQ.out
      rw [← hq] at HO3 HB3 ⊢
      clear hq HQ
      go_wp2_with fail
      go_roundw
      case rel => exact ⟨k + 1, by omega, by go_num, HO3.out.tight, HB3.out⟩
      case measure => simp [intOf]; omega
    · obtain rfl : k = n := by omega
      go_wp2_with fail
      go_ret
      refine ⟨_, rfl, ?_, hbl⟩
      have e : l.take k ++ List.replicate (k - k) u8s.zero = l := by rw [Nat.sub_self, List.take_of_length_le (by have := HN.out; omega)]; simp
      rw [e] at hown
      exact hown
set_option maxHeartbeats 4000000 in
theorem lEqBss (l : List (List Int)) (v u : Value) (w : World) (B : Nat) (hr : shBss.Rd w B l [v]) (hr' : shBss.Rd w B l [u]) (hB : B ≤ w.heap.size) (hT : totBss l ≤ 1048576) :
    Calls Tryz.prog 24 #[v, u] w fun e w' => e = .returned (.bool true) ∧ Below w.heap.size w w' := by
  obtain ⟨a, cap, ev⟩ := row_form hr
  simp only [List.cons.injEq, and_true] at ev
  subst ev
  obtain ⟨a', cap', ev⟩ := row_form hr'
  simp only [List.cons.injEq, and_true] at ev
  subst ev
  have hmx : l.length ≤ 9223372036854775807 := row_max hr
  have HT : Hid (∀ k (hk : k < l.length), l[k].length ≤ 1048576) := fun k hk => by have := fsum_at List.length hk; unfold totBss at hT; omega
  obtain ⟨n, hn⟩ : ∃ n, l.length = n := ⟨_, rfl⟩
  rw [hn] at hr hr' hmx ⊢
  have HR1 : Hid (∀ W, Below w.heap.size w W → shBss.Rd W B l [.slice a n cap]) := fun W hW => hr.below hB hW
  have HR2 : Hid (∀ W, Below w.heap.size w W → shBss.Rd W B l [.slice a' n cap']) := fun W hW => hr'.below hB hW
  have HN : Hid (l.length = n) := hn
  clear hr hr' hT hn
  go_enter Tryz.func24, Tryz.ntmps24
  go_wp2_with fail
  go_loopw [5] (fun i wr => ∃ (k : Nat), k ≤ n ∧ i = .int .i64 k ∧ Below w.heap.size w wr) (fun i _ => n - (intOf i).toNat)
  case atStart => exact ⟨0, Nat.zero_le _, rfl, Below.refl _ _⟩
  case round =>
    obtain ⟨k, hk, rfl, hbl⟩ := hrel
    by_cases hlt : k < n
    · have hkl : k < l.length := by have := HN.out; omega
      have hki : (k : Int) < (n : Int) := by omega
      have hk0 : (0 : Int) ≤ (k : Int) := by omega
      obtain ⟨b0, off0, u0, uc0, ha, hb0, hck0, r0⟩ := bss_at (HR1.out wr hbl) k hkl
      subst ha
      obtain ⟨b1, off1, u1, uc1, ha, hb1, hck1, r1⟩ := bss_at (HR2.out wr hbl) k hkl
      subst ha
      have HC : Hid (∀ W, Below wr.heap.size wr W → Calls Tryz.prog 46 #[.slice u0 l[k].length uc0, .slice u1 l[k].length uc1] W fun e w' => e = .returned (.bool true) ∧ Below W.heap.size W w') := fun W hW => lEqBytes l[k] _ _ W B (Sh.Rd.below (s := u8s) r0 (Nat.le_trans hB hbl.size) hW) (Sh.Rd.below (s := u8s) r1 (Nat.le_trans hB hbl.size) hW) (Nat.le_trans hB (Nat.le_trans hbl.size hW.size)) (HT.out k hkl)
      have hz0 : b0 < wr.heap.size := by have := hbl.size; omega
      have hz1 : b1 < wr.heap.size := by have := hbl.size; omega
      have HBl : Hid _ := hbl
      clear r0 r1 hbl
      generalize l[k].length = q at *
      go_upto_region 6 with fail
      refine wp_region_noPanic ?_
      refine Goes.start (S := fun w' => Below wr.heap.size wr w') (z := 100) (by kernel_rfl) ?_
      refine Goes.take (i := 0) (oi := ?oi2) (x := ?vx2) ?ho2 (by kernel_rfl) (by kernel_rfl) (by kernel_rfl) (by kernel_rfl) (fun _ _ _ h => h) (Or.inl ⟨?hw2, ?hy2⟩) (Below.drew (Below.refl _ _)) ?rest2
      case ho2 => (simp only [List.getElem?_toArray, List.getElem?_cons_zero] <;> rfl)
      case hw2 => rfl
      case hy2 => (intro w' hSw; have kk0 := (hSw.cell (p := ⟨b0, off0 + k, none⟩) hz0).trans hck0; have kk1 := (hSw.cell (p := ⟨b1, off1 + k, none⟩) hz1).trans hck1; go_simp; (try with_reducible rfl))
      case rest2 =>
      (try simp only [Act.put, List.setIfInBounds_toArray, List.set_cons_zero, List.set_cons_succ])
      refine Goes.take (i := 1) (oi := ?oi3) (x := ?vx3) ?ho3 (by kernel_rfl) (by kernel_rfl) (by kernel_rfl) (by kernel_rfl) (fun _ _ _ h => h) (Or.inl ⟨?hw3, ?hy3⟩) (Below.drew (Below.refl _ _)) ?rest3
      case ho3 => (simp only [List.getElem?_toArray, List.getElem?_cons_succ, List.getElem?_cons_zero] <;> rfl)
      case hw3 => rfl
      case hy3 => (intro w' hSw; have kk0 := (hSw.cell (p := ⟨b0, off0 + k, none⟩) hz0).trans hck0; have kk1 := (hSw.cell (p := ⟨b1, off1 + k, none⟩) hz1).trans hck1; go_simp; (try with_reducible rfl))
      case rest3 =>
      (try simp only [Act.put, List.setIfInBounds_toArray, List.set_cons_zero, List.set_cons_succ])
      refine Goes.take (i := 2) (oi := ?oi4) (x := ?vx4) ?ho4 (by kernel_rfl) (by kernel_rfl) (by kernel_rfl) (by kernel_rfl) (fun _ _ _ h => h) (Or.inl ⟨?hw4, ?hy4⟩) (Below.drew (Below.refl _ _)) ?rest4
      case ho4 => (simp only [List.getElem?_toArray, List.getElem?_cons_succ, List.getElem?_cons_zero] <;> rfl)
      case hw4 => rfl
      case hy4 => (intro w' hSw; have kk0 := (hSw.cell (p := ⟨b0, off0 + k, none⟩) hz0).trans hck0; have kk1 := (hSw.cell (p := ⟨b1, off1 + k, none⟩) hz1).trans hck1; go_simp; (try with_reducible rfl))
      case rest4 =>
      (try simp only [Act.put, List.setIfInBounds_toArray, List.set_cons_zero, List.set_cons_succ])
      refine Goes.take (i := 3) (oi := ?oi5) (x := ?vx5) ?ho5 (by kernel_rfl) (by kernel_rfl) (by kernel_rfl) (by kernel_rfl) (fun _ _ _ h => h) (Or.inl ⟨?hw5, ?hy5⟩) (Below.drew (Below.refl _ _)) ?rest5
      case ho5 => (simp only [List.getElem?_toArray, List.getElem?_cons_succ, List.getElem?_cons_zero] <;> rfl)
      case hw5 => rfl
      case hy5 => (intro w' hSw; have kk0 := (hSw.cell (p := ⟨b0, off0 + k, none⟩) hz0).trans hck0; have kk1 := (hSw.cell (p := ⟨b1, off1 + k, none⟩) hz1).trans hck1; go_simp; (try with_reducible rfl))
      case rest5 =>
      (try simp only [Act.put, List.setIfInBounds_toArray, List.set_cons_zero, List.set_cons_succ])
      refine Goes.take (i := 4) (oi := ?oi6) (x := ?vx6) ?ho6 (by kernel_rfl) (by kernel_rfl) (by kernel_rfl) (by kernel_rfl) (fun _ _ _ h => h) (Or.inl ⟨?hw6, ?hy6⟩) (Below.drew (Below.refl _ _)) ?rest6
      case ho6 => (simp only [List.getElem?_toArray, List.getElem?_cons_succ, List.getElem?_cons_zero] <;> rfl)
      case hw6 => rfl
      case hy6 => (intro w' hSw; have kk0 := (hSw.cell (p := ⟨b0, off0 + k, none⟩) hz0).trans hck0; have kk1 := (hSw.cell (p := ⟨b1, off1 + k, none⟩) hz1).trans hck1; go_simp; (try with_reducible rfl))
      case rest6 =>
      (try simp only [Act.put, List.setIfInBounds_toArray, List.set_cons_zero, List.set_cons_succ])
      refine Goes.take (i := 5) (oi := ?oi7) (x := ?vx7) ?ho7 (by kernel_rfl) (by kernel_rfl) (by kernel_rfl) (by kernel_rfl) (fun _ _ _ h => h) (Or.inl ⟨?hw7, ?hy7⟩) (Below.drew (Below.refl _ _)) ?rest7
      case ho7 => (simp only [List.getElem?_toArray, List.getElem?_cons_succ, List.getElem?_cons_zero] <;> rfl)
      case hw7 => rfl
      case hy7 => (intro w' hSw; have kk0 := (hSw.cell (p := ⟨b0, off0 + k, none⟩) hz0).trans hck0; have kk1 := (hSw.cell (p := ⟨b1, off1 + k, none⟩) hz1).trans hck1; go_simp; (try with_reducible rfl))
      case rest7 =>
      (try simp only [Act.put, List.setIfInBounds_toArray, List.set_cons_zero, List.set_cons_succ])
      refine Goes.take (i := 6) (oi := ?oi8) (x := ?vx8) ?ho8 (by kernel_rfl) (by kernel_rfl) (by kernel_rfl) (by kernel_rfl) (fun _ _ _ h => h) (Or.inl ⟨?hw8, ?hy8⟩) (Below.drew (Below.refl _ _)) ?rest8
      case ho8 => (simp only [List.getElem?_toArray, List.getElem?_cons_succ, List.getElem?_cons_zero] <;> rfl)
      case hw8 => rfl
      case hy8 => (intro w' hSw; have kk0 := (hSw.cell (p := ⟨b0, off0 + k, none⟩) hz0).trans hck0; have kk1 := (hSw.cell (p := ⟨b1, off1 + k, none⟩) hz1).trans hck1; go_simp; (try with_reducible rfl))
      case rest8 =>
      (try simp only [Act.put, List.setIfInBounds_toArray, List.set_cons_zero, List.set_cons_succ])
      refine Goes.take (i := 7) (oi := ?oi9) (x := ?vx9) ?ho9 (by kernel_rfl) (by kernel_rfl) (by kernel_rfl) (by kernel_rfl) (fun _ _ _ h => h) (Or.inl ⟨?hw9, ?hy9⟩) (Below.drew (Below.refl _ _)) ?rest9
      case ho9 => (simp only [List.getElem?_toArray, List.getElem?_cons_succ, List.getElem?_cons_zero] <;> rfl)
      case hw9 => rfl
      case hy9 => (intro w' hSw; have kk0 := (hSw.cell (p := ⟨b0, off0 + k, none⟩) hz0).trans hck0; have kk1 := (hSw.cell (p := ⟨b1, off1 + k, none⟩) hz1).trans hck1; go_simp; (try with_reducible rfl))
      case rest9 =>
      (try simp only [Act.put, List.setIfInBounds_toArray, List.set_cons_zero, List.set_cons_succ])
      refine Goes.all (rs := [8]) (by kernel_rfl) (by simp) ?_
      refine Ups.cons (i := 8) (o := ?oo10) ?ho10 (fun KK hKK => ?stp10) Ups.nil
      case ho10 => (simp only [List.getElem?_toArray, List.getElem?_cons_succ, List.getElem?_cons_zero] <;> rfl)
      case stp10 =>
      go_simp
      go_at_call 46
      refine (HC.out _ (Below.drew (Below.refl _ _))).mono ?_
      rintro e w1 ⟨rfl, hbq⟩
      replace hbq := (Below.drew (Below.refl wr.heap.size wr)).trans hbq
      have HS10 : Hid (Below wr.heap.size wr w1) := hbq
      clear hbq
      dsimp only
      refine hKK.out _ _ (Or.inr HS10.out) ?_
      clear hKK KK
      (try simp only [Act.put, List.setIfInBounds_toArray, List.set_cons_zero, List.set_cons_succ])
      have HBx : Hid (Below w.heap.size w w1) := HBl.out.trans (HS10.out.mono HBl.out.size)
      refine Goes.all (rs := [9]) (by kernel_rfl) (by simp) ?_
      refine Ups.cons (i := 9) (o := ?oo11) ?ho11 (fun KK hKK => ?stp11) Ups.nil
      case ho11 => (simp only [List.getElem?_toArray, List.getElem?_cons_succ, List.getElem?_cons_zero] <;> rfl)
      case stp11 =>
      go_simp
      refine hKK.out _ _ (Or.inr HS10.out) ?_
      clear hKK KK
      (try simp only [Act.put, List.setIfInBounds_toArray, List.set_cons_zero, List.set_cons_succ])
      refine Goes.done (by kernel_rfl) ?_ _
      refine NoPanic.normal ?_
      go_wp2_with fail
      go_roundw
      case rel => exact ⟨k + 1, by omega, by go_num, HBx.out⟩
      case measure => simp [intOf]; omega
    · obtain rfl : k = n := by omega
      go_wp2_with fail
      go_ret
      exact ⟨rfl, hbl⟩
end Go.Proofs.YtfpemobkkfobkaaGreatDoor
