/- What compares segments and rows of them; no condition but that there are at most a million parts. Written by mkm1.py. -/
import Derived.Test.YtlfncadngcjdjaaRows
import Derived.Test.YtlfncadngcjdjaaBase
import Derived.Test.YtlfncadngcjdjaaBytes
import Derived.Test.YtlfncadngcjdjaaMem
import Derived.Test.YtlfncadngcjdjaaMemOpen
import Derived.Test.YtlfncadngcjdjaaMemRow
import Derived.Test.YtlfncadngcjdjaaHBase
import Derived.Test.YtlfncadngcjdjaaHMark
import Derived.Test.YtlfncadngcjdjaaBox
import Derived.Test.YtlfncadngcjdjaaSubBox
import Derived.Test.YtlfncadngcjdjaaAgg
import Derived.Test.YtlfncadngcjdjaaElMark
import Derived.Test.YtlfncadngcjdjaaMSegs
import Derived.Test.YtlfncadngcjdjaaRegionU
import Derived.Deep.DeepCutAuto
import Derived.Deep.RegionHeld3
import Derived.Deep.MidRow
namespace Go.Proofs.Ytlfncadngcjdjaa
open Go.RowKit
set_option linter.unusedVariables false
set_option maxRecDepth 8000

def totSegm : DSegm → Nat
  | (_, _, _, _, _, _, _, _, _, _, _, ld, _) => ld.length
def totSegms (l : List DSegm) : Nat := l.length + fsum totSegm l
set_option maxHeartbeats 4000000 in
theorem lEqSegmA (x : DSegm) (A A' : Array Value) (w : World) (B : Nat) (hr : shSegm.Rd w B x A.toList) (hr' : shSegm.Rd w B x A'.toList) (hB : B ≤ w.heap.size) (hT : totSegm x ≤ 1048576) :
    Calls Try.prog 59 #[.agg A, .agg A'] w fun e w' => e = .returned (.bool true) ∧ Below w.heap.size w w' := by
  obtain ⟨y0, y1, y2, y3, y4, y5, y6, y7, y8, y9, y10, ld, ⟨⟩⟩ := x
  obtain ⟨u, eA, r, -⟩ := rd_Segm hr
  obtain ⟨u', eB, r', -⟩ := rd_Segm hr'
  obtain ⟨la, lc, e1⟩ := row_form r
  simp only [List.cons.injEq, and_true] at e1
  subst e1
  obtain ⟨ka, kc, e1⟩ := row_form r'
  simp only [List.cons.injEq, and_true] at e1
  subst e1
  have ht : ld.length ≤ 1048576 := hT
  have H1 : Hid (∀ W, Below w.heap.size w W → Calls Try.prog 81 #[.slice la ld.length lc, .slice ka ld.length kc] W fun e w' => e = .returned (.bool true) ∧ Below W.heap.size W w') := fun W hW => lEqBytes ld (.slice la ld.length lc) (.slice ka ld.length kc) W B (Sh.Rd.below r hB hW) (Sh.Rd.below r' hB hW) (Nat.le_trans hB hW.size) ht
  generalize ld.length = n at *
  have a0 : A[0]? = some (.int .i64 y0) := get_of eA 0
  have a1 : A[1]? = some (.int .i64 y1) := get_of eA 1
  have a2 : A[2]? = some (.bool y2) := get_of eA 2
  have a3 : A[3]? = some (.bool y3) := get_of eA 3
  have a4 : A[4]? = some (.bool y4) := get_of eA 4
  have a5 : A[5]? = some (.int .i64 y5) := get_of eA 5
  have a6 : A[6]? = some (.int .i64 y6) := get_of eA 6
  have a7 : A[7]? = some (.int .i64 y7) := get_of eA 7
  have a8 : A[8]? = some (.int .i64 y8) := get_of eA 8
  have a9 : A[9]? = some (.int .i64 y9) := get_of eA 9
  have a10 : A[10]? = some (.int .i64 y10) := get_of eA 10
  have a11 : A[11]? = some (.slice la n lc) := get_of eA 11
  have b0 : A'[0]? = some (.int .i64 y0) := get_of eB 0
  have b1 : A'[1]? = some (.int .i64 y1) := get_of eB 1
  have b2 : A'[2]? = some (.bool y2) := get_of eB 2
  have b3 : A'[3]? = some (.bool y3) := get_of eB 3
  have b4 : A'[4]? = some (.bool y4) := get_of eB 4
  have b5 : A'[5]? = some (.int .i64 y5) := get_of eB 5
  have b6 : A'[6]? = some (.int .i64 y6) := get_of eB 6
  have b7 : A'[7]? = some (.int .i64 y7) := get_of eB 7
  have b8 : A'[8]? = some (.int .i64 y8) := get_of eB 8
  have b9 : A'[9]? = some (.int .i64 y9) := get_of eB 9
  have b10 : A'[10]? = some (.int .i64 y10) := get_of eB 10
  have b11 : A'[11]? = some (.slice ka n kc) := get_of eB 11
  clear hr hr' hT eA eB r r'
  go_enter Try.func59, Try.ntmps59
  go_wp2_with fail
  refine (H1.out _ (by go_grown)).mono ?_
  rintro e w1 ⟨rfl, hb⟩
  have HB : Hid (Below w.heap.size w w1) := Below.trans (by go_grown) (hb.mono (by simp; omega))
  clear hb H1
  go_wp2_with fail
  go_ret
  exact ⟨rfl, HB.out⟩
set_option maxHeartbeats 4000000 in
theorem lEqSegms (l : List DSegm) (v u : Value) (w : World) (B : Nat) (hr : shSegms.Rd w B l [v]) (hr' : shSegms.Rd w B l [u]) (hB : B ≤ w.heap.size) (hT : totSegms l ≤ 1048576) :
    Calls Try.prog 33 #[v, u] w fun e w' => e = .returned (.bool true) ∧ Below w.heap.size w w' := by
  obtain ⟨a, cap, ev⟩ := row_form hr
  simp only [List.cons.injEq, and_true] at ev
  subst ev
  obtain ⟨a', cap', ev⟩ := row_form hr'
  simp only [List.cons.injEq, and_true] at ev
  subst ev
  have hmx : l.length ≤ 9223372036854775807 := row_max hr
  have HT : Hid (∀ k (hk : k < l.length), totSegm l[k] ≤ 1048576) := fun k hk => by have := fsum_at totSegm hk; unfold totSegms at hT; omega
  obtain ⟨n, hn⟩ : ∃ n, l.length = n := ⟨_, rfl⟩
  rw [hn] at hr hr' hmx ⊢
  have HR1 : Hid (∀ W, Below w.heap.size w W → shSegms.Rd W B l [.slice a n cap]) := fun W hW => hr.below hB hW
  have HR2 : Hid (∀ W, Below w.heap.size w W → shSegms.Rd W B l [.slice a' n cap']) := fun W hW => hr'.below hB hW
  have HN : Hid (l.length = n) := hn
  clear hr hr' hT hn
  go_enter Try.func33, Try.ntmps33
  go_wp2_with fail
  go_loopw [5] (fun i wr => ∃ (k : Nat), k ≤ n ∧ i = .int .i64 k ∧ Below w.heap.size w wr) (fun i _ => n - (intOf i).toNat)
  case atStart => exact ⟨0, Nat.zero_le _, rfl, Below.refl _ _⟩
  case round =>
    obtain ⟨k, hk, rfl, hbl⟩ := hrel
    by_cases hlt : k < n
    · have hkl : k < l.length := by have := HN.out; omega
      have hki : (k : Int) < (n : Int) := by omega
      have hk0 : (0 : Int) ≤ (k : Int) := by omega
      obtain ⟨b0, off0, cs0, ha, hb0, hlen0, hrg0, r0⟩ := row_at (HR1.out wr hbl) k hkl
      subst ha
      replace hlen0 : cs0.length = 12 := hlen0
      replace hrg0 : wr.rangeAt b0 (off0 + k * 12) cs0 := hrg0
      have HI0 : (Try.prog.info? 31).map (·.size) = some cs0.length := by rw [hlen0]; exact (by kernel_rfl : (Try.prog.info? 31).map (·.size) = some 12)
      obtain ⟨b1, off1, cs1, ha, hb1, hlen1, hrg1, r1⟩ := row_at (HR2.out wr hbl) k hkl
      subst ha
      replace hlen1 : cs1.length = 12 := hlen1
      replace hrg1 : wr.rangeAt b1 (off1 + k * 12) cs1 := hrg1
      have HI1 : (Try.prog.info? 31).map (·.size) = some cs1.length := by rw [hlen1]; exact (by kernel_rfl : (Try.prog.info? 31).map (·.size) = some 12)
      have HC : Hid (∀ W, Below wr.heap.size wr W → Calls Try.prog 59 #[.agg cs0.toArray, .agg cs1.toArray] W fun e w' => e = .returned (.bool true) ∧ Below W.heap.size W w') := fun W hW => lEqSegmA l[k] cs0.toArray cs1.toArray W B (r0.below (Nat.le_trans hB hbl.size) hW) (r1.below (Nat.le_trans hB hbl.size) hW) (Nat.le_trans hB (Nat.le_trans hbl.size hW.size)) (HT.out k hkl)
      have hz0 : b0 < wr.heap.size := by have := hbl.size; omega
      have hz1 : b1 < wr.heap.size := by have := hbl.size; omega
      have HBl : Hid _ := hbl
      have HG0 : Hid (∀ W, Below wr.heap.size wr W → W.rangeAt b0 (off0 + k * 12) cs0) := fun W hW => range_below hrg0 hW hz0
      have HG1 : Hid (∀ W, Below wr.heap.size wr W → W.rangeAt b1 (off1 + k * 12) cs1) := fun W hW => range_below hrg1 hW hz1
      clear r0 r1 hbl hrg0 hrg1
      go_upto_region 6 with fail
      refine wp_region_noPanic ?_
      refine Goes.start (S := fun w' => Below wr.heap.size wr w') (z := 100) (by kernel_rfl) ?_
      refine Goes.take (i := 0) (oi := ?oi1) (x := ?vx1) ?ho1 (by kernel_rfl) (by kernel_rfl) (by kernel_rfl) (by kernel_rfl) (fun _ _ _ h => h) (Or.inl ⟨?hw1, ?hy1⟩) (Below.drew (Below.refl _ _)) ?rest1
      case ho1 => (simp only [List.getElem?_toArray, List.getElem?_cons_zero]; rfl)
      case hw1 => rfl
      case hy1 => (intro w' hSw; go_simp; (try with_reducible rfl))
      case rest1 =>
      (try simp only [Act.put, List.setIfInBounds_toArray, List.set_cons_zero, List.set_cons_succ])
      refine Goes.take (i := 1) (oi := ?oi2) (x := ?vx2) ?ho2 (by kernel_rfl) (by kernel_rfl) (by kernel_rfl) (by kernel_rfl) (fun _ _ _ h => h) (Or.inl ⟨?hw2, ?hy2⟩) (Below.drew (Below.refl _ _)) ?rest2
      case ho2 => (simp only [List.getElem?_toArray, List.getElem?_cons_succ, List.getElem?_cons_zero]; rfl)
      case hw2 => rfl
      case hy2 => (intro w' hSw; go_simp; (try with_reducible rfl))
      case rest2 =>
      (try simp only [Act.put, List.setIfInBounds_toArray, List.set_cons_zero, List.set_cons_succ])
      refine Goes.take (i := 2) (oi := ?oi3) (x := ?vx3) ?ho3 (by kernel_rfl) (by kernel_rfl) (by kernel_rfl) (by kernel_rfl) (fun _ _ _ h => h) (Or.inl ⟨?hw3, ?hy3⟩) (Below.drew (Below.refl _ _)) ?rest3
      case ho3 => (simp only [List.getElem?_toArray, List.getElem?_cons_succ, List.getElem?_cons_zero]; rfl)
      case hw3 => rfl
      case hy3 => (intro w' hSw; go_simp; (try with_reducible rfl))
      case rest3 =>
      (try simp only [Act.put, List.setIfInBounds_toArray, List.set_cons_zero, List.set_cons_succ])
      refine Goes.take (i := 3) (oi := ?oi4) (x := .agg cs0.toArray) ?ho4 (by kernel_rfl) (by kernel_rfl) (by kernel_rfl) (by kernel_rfl) (fun _ _ _ h => h) ?hy4 (Below.drew (Below.refl _ _)) ?rest4
      case ho4 => (simp only [List.getElem?_toArray, List.getElem?_cons_succ, List.getElem?_cons_zero]; rfl)
      case hy4 => exact yieldsIf_load_mid (by rfl) 31 _ rfl b0 (off0 + k * 12) (by rfl) cs0 _ (fun w' hSw => HG0.out w' hSw) Try.underlying31 rfl HI0
      case rest4 =>
      (try simp only [Act.put, List.setIfInBounds_toArray, List.set_cons_zero, List.set_cons_succ])
      refine Goes.take (i := 4) (oi := ?oi5) (x := ?vx5) ?ho5 (by kernel_rfl) (by kernel_rfl) (by kernel_rfl) (by kernel_rfl) (fun _ _ _ h => h) (Or.inl ⟨?hw5, ?hy5⟩) (Below.drew (Below.refl _ _)) ?rest5
      case ho5 => (simp only [List.getElem?_toArray, List.getElem?_cons_succ, List.getElem?_cons_zero]; rfl)
      case hw5 => rfl
      case hy5 => (intro w' hSw; go_simp; (try with_reducible rfl))
      case rest5 =>
      (try simp only [Act.put, List.setIfInBounds_toArray, List.set_cons_zero, List.set_cons_succ])
      refine Goes.take (i := 5) (oi := ?oi6) (x := ?vx6) ?ho6 (by kernel_rfl) (by kernel_rfl) (by kernel_rfl) (by kernel_rfl) (fun _ _ _ h => h) (Or.inl ⟨?hw6, ?hy6⟩) (Below.drew (Below.refl _ _)) ?rest6
      case ho6 => (simp only [List.getElem?_toArray, List.getElem?_cons_succ, List.getElem?_cons_zero]; rfl)
      case hw6 => rfl
      case hy6 => (intro w' hSw; go_simp; (try with_reducible rfl))
      case rest6 =>
      (try simp only [Act.put, List.setIfInBounds_toArray, List.set_cons_zero, List.set_cons_succ])
      refine Goes.take (i := 6) (oi := ?oi7) (x := ?vx7) ?ho7 (by kernel_rfl) (by kernel_rfl) (by kernel_rfl) (by kernel_rfl) (fun _ _ _ h => h) (Or.inl ⟨?hw7, ?hy7⟩) (Below.drew (Below.refl _ _)) ?rest7
      case ho7 => (simp only [List.getElem?_toArray, List.getElem?_cons_succ, List.getElem?_cons_zero]; rfl)
      case hw7 => rfl
      case hy7 => (intro w' hSw; go_simp; (try with_reducible rfl))
      case rest7 =>
      (try simp only [Act.put, List.setIfInBounds_toArray, List.set_cons_zero, List.set_cons_succ])
      refine Goes.take (i := 7) (oi := ?oi8) (x := .agg cs1.toArray) ?ho8 (by kernel_rfl) (by kernel_rfl) (by kernel_rfl) (by kernel_rfl) (fun _ _ _ h => h) ?hy8 (Below.drew (Below.refl _ _)) ?rest8
      case ho8 => (simp only [List.getElem?_toArray, List.getElem?_cons_succ, List.getElem?_cons_zero]; rfl)
      case hy8 => exact yieldsIf_load_mid (by rfl) 31 _ rfl b1 (off1 + k * 12) (by rfl) cs1 _ (fun w' hSw => HG1.out w' hSw) Try.underlying31 rfl HI1
      case rest8 =>
      (try simp only [Act.put, List.setIfInBounds_toArray, List.set_cons_zero, List.set_cons_succ])
      refine Goes.all (rs := [8]) (by kernel_rfl) (by simp) ?_
      refine Ups.cons (i := 8) (o := ?oo50) ?ho50 (fun KK hKK => ?stp50) Ups.nil
      case ho50 => (simp only [List.getElem?_toArray, List.getElem?_cons_succ, List.getElem?_cons_zero]; rfl)
      case stp50 =>
      go_simp
      go_at_call 59
      refine (HC.out _ (Below.drew (Below.refl _ _))).mono ?_
      rintro e w1 ⟨rfl, hb1⟩
      replace hb1 := (Below.drew (Below.refl wr.heap.size wr)).trans hb1
      have HB1 : Hid (Below w.heap.size w w1) := HBl.out.trans (hb1.mono HBl.out.size)
      have HB2 : Hid (Below wr.heap.size wr w1) := hb1
      clear hb1
      dsimp only
      refine hKK.out _ _ (Or.inr HB2.out) ?_
      clear hKK KK
      (try simp only [Act.put, List.setIfInBounds_toArray, List.set_cons_zero, List.set_cons_succ])
      refine Goes.all (rs := [9]) (by kernel_rfl) (by simp) ?_
      refine Ups.cons (i := 9) (o := ?oo51) ?ho51 (fun KK hKK => ?stp51) Ups.nil
      case ho51 => (simp only [List.getElem?_toArray, List.getElem?_cons_succ, List.getElem?_cons_zero]; rfl)
      case stp51 =>
      go_simp
      refine hKK.out _ _ (Or.inr HB2.out) ?_
      clear hKK KK
      (try simp only [Act.put, List.setIfInBounds_toArray, List.set_cons_zero, List.set_cons_succ])
      refine Goes.done (by kernel_rfl) ?_ _
      refine NoPanic.normal ?_
      go_wp2_with fail
      go_roundw
      case rel => exact ⟨k + 1, by omega, by go_num, HB1.out⟩
      case measure => simp [intOf]; omega
    · obtain rfl : k = n := by omega
      go_wp2_with fail
      go_ret
      exact ⟨rfl, hbl⟩
end Go.Proofs.Ytlfncadngcjdjaa
