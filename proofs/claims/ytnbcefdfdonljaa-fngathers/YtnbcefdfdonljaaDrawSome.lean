/- What the model's l2Some gives: as many bytes as are asked for, up to sixty; no condition. -/
import Derived.Test.YtnbcefdfdonljaaRows
import Derived.Test.YtnbcefdfdonljaaBase
import Derived.Test.YtnbcefdfdonljaaDraws
import Derived.Test.YtnbcefdfdonljaaBytes
import Derived.Test.YtnbcefdfdonljaaAppBytes
import Derived.Test.YtnbcefdfdonljaaDrawsD
namespace Go.Proofs.Ytnbcefdfdonljaa
open Go.RowKit
set_option linter.unusedVariables false

set_option maxHeartbeats 1000000 in
theorem sSome60 (sb : Nat) (a : Option Addr) (len cap : Nat) (zs : List Int) (K n : Int) (w : World)
    (hs : Src w sb (.slice a len cap) K) (hr : BRow .u8 w a len cap zs) (hl : RowLt sb a zs) (hK : K ≤ 900000) (hn0 : 0 ≤ n) (hn : n ≤ 60) :
    Calls Try.prog 95 #[.pointer (some ⟨sb, 0, none⟩), .int .i64 n] w fun e w' => ∃ v, e = .returned v ∧ ∃ l, OB w' w.heap.size v l ∧ (l.length : Int) = n ∧ Dr sb w w' ∧ Src w' sb (.slice a len cap) (K + 180) := by
  have hlt := hs.lt
  have HR : Hid (∀ W, Dr sb w W → BRow .u8 W a len cap zs) := fun W h => hr.below hl (h.below (Nat.le_of_lt hlt))
  have HS : Hid _ := hs
  clear hr hs
  go_enter Try.func95, Try.ntmps95
  go_wp2
  go_loopw [1, 5] (fun t1 v wr => ∃ (k : Nat) (l : List Int), t1 = .int .i64 (n - k) ∧ (k : Int) ≤ n ∧ Hid (l.length = k) ∧ Hid (OB wr w.heap.size v l) ∧ Hid (Dr sb w wr) ∧ Hid (Src wr sb (.slice a len cap) (K + 3 * k))) (fun t1 _ _ => (intOf t1).toNat)
  case atStart => exact ⟨0, [], by go_num, by omega, rfl, (⟨World.ownsRow_made w #[] 0 (Nat.le_refl _) (by decide) rfl, by simp⟩ : OB (w.alloc (.cells #[] 5)) w.heap.size (.slice (some ⟨w.heap.size, 0, none⟩) 0 0) []), (Dr.refl _ _).then ((Below.refl _ _).alloc (Nat.le_refl _) _) (Nat.le_refl _), (HS.out.alloc _).mono (by omega)⟩
  case round =>
    obtain ⟨k, l, rfl, hk, hl0, ho, hd, hs⟩ := hrel
    by_cases hkn : (k : Int) < n
    · go_wp2_with fail
      refine (sNext sb a len cap zs _ 256 wr hs.out (HR.out _ hd.out) hl (by omega) (by omega)).mono ?_
      rintro e w1 ⟨x1, rfl, p1, q1, st1, s1⟩
      have d1 : Hid _ := hd.out.trans st1.dr
      have o1 : Hid _ := ho.out.dr st1.dr hlt
      have s1 : Hid _ := s1
      clear st1
      go_wp2_with fail
      refine (sNext sb a len cap zs _ 9 w1 s1.out (HR.out _ d1.out) hl (by omega) (by omega)).mono ?_
      rintro e w2 ⟨x2, rfl, p2, q2, st2, s2⟩
      have d2 : Hid _ := d1.out.trans st2.dr
      have o2 : Hid _ := o1.out.dr st2.dr hlt
      have s2 : Hid _ := s2
      clear st2
      go_wp2_with fail
      have hp := sPickD sb a len cap zs _ [x1, 97 + x2] 2 w2 s2.out (HR.out _ d2.out) hl (by omega) (by simp) (by simp)
      simp only [List.length_cons, List.length_nil, List.map_cons, List.map_nil, Nat.zero_add, Nat.reduceAdd] at hp
      refine hp.mono ?_
      clear hp
      rintro e w3 ⟨r, rfl, hm, d3', s3⟩
      simp only [List.mem_cons, List.not_mem_nil, or_false] at hm
      have m0 : 0 ≤ r := by omega
      have m1 : r ≤ 255 := by omega
      have d3 : Hid _ := d2.out.trans d3'
      have o3 : Hid _ := o2.out.dr d3' hlt
      have s3 : Hid _ := s3
      clear hm d3'
      have hz : w.heap.size ≤ w3.heap.size := d3.out.size
      go_wp2_with (at_builtin; refine app_u8one w3 rfl _ _ rfl w.heap.size u5 _ (by rfl) o3.out _ (by rfl) (by first | omega | (rw [u8w]; omega)) (by rw [hl0.out]; omega) hz ?_; intro v' w5 ho5 hb5 hg5)
      go_roundw
      case rel => exact ⟨k + 1, _, by go_num, by omega, by simp [hl0.out, Hid], ho5, d3.out.then hb5 (Nat.le_refl _), (s3.out.below hb5 hlt).mono (by push_cast; omega)⟩
      case measure => simp [intOf]; omega
    · obtain rfl : (k : Int) = n := by omega
      go_wp2
      go_ret
      exact ⟨_, rfl, l, ho.out, by rw [hl0.out], hd.out, hs.out.mono (by omega)⟩
end Go.Proofs.Ytnbcefdfdonljaa
