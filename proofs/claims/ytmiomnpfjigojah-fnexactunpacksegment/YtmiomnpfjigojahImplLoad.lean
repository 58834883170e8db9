/- What the program's own SumLoad answers; nothing that was in memory turns; no condition but that the load has at most a million bytes. -/
import Derived.Test.YtmiomnpfjigojahRows
import Derived.Test.YtmiomnpfjigojahBase
import Derived.Test.YtmiomnpfjigojahNum
import Derived.Test.YtmiomnpfjigojahNumWalks
import Derived.Test.YtmiomnpfjigojahBytes
import Derived.Test.YtmiomnpfjigojahAppBytes
import Derived.Test.YtmiomnpfjigojahApp
import Derived.Test.YtmiomnpfjigojahSpecPack
import Derived.Test.YtmiomnpfjigojahImplSum
import Derived.Test.YtmiomnpfjigojahLaw
import Derived.Test.YtmiomnpfjigojahSpecLoad
import Derived.Test.YtmiomnpfjigojahWriter
namespace Go.Proofs.Ytmiomnpfjigojah
open Go.RowKit
set_option linter.unusedVariables false

set_option maxHeartbeats 1000000 in
theorem iSumLoad (at_ : Int) (a : Option Addr) (n cap : Nat) (l : List Int) (w : World) (hl : l.length = n) (hr : RB w a l) (hnil : a = none → cap = 0) (hn : n ≤ 1048576) :
    Calls Try.prog 34 #[.int .i64 at_, .slice a n cap] w fun e w' => e = .returned (.int .i64 (sumB (loadB at_ l))) ∧ Below w.heap.size w w' := by
  have HR : Hid _ := hr
  have HN : Hid _ := hnil
  clear hr hnil
  go_enter Try.func34, Try.ntmps34
  go_wp2_with fail
  refine (iWrap at_ _).mono ?_
  rintro e w1 ⟨rfl, hw⟩
  subst w1
  go_wp2_with fail
  refine (iAddNumber w.heap.size (wrp at_) 2 (w.heap.size + 1) (.slice none 0 0) [] _ (by omega) (by omega) (by simp) (by simp) (OB.nilrow _ _) (by omega) (by simp) (by simp)).mono ?_
  rintro e w1 ⟨rfl, v1, hc1, hf1, ho1, hw1⟩
  obtain ⟨L1, hL1⟩ : ∃ L, L = [] ++ beTo (wrp at_) 2 2 := ⟨_, rfl⟩
  rw [← hL1] at ho1
  have q1 : Hid (L1.length = 2) := by rw [hL1]; rfl
  have E1 : Hid _ := hL1
  obtain ⟨a1, c1, rfl, -, -⟩ := ho1.rbn
  have O1 : Hid _ := ho1
  have W1 : Hid _ := hw1
  have z1 := hw1.size
  simp at z1
  clear hL1 ho1 hw1
  go_wp2_with fail
  refine (iWrap n _).mono ?_
  rintro e w2 ⟨rfl, hw⟩
  subst w2
  go_wp2_with fail
  refine (iAddNumber w.heap.size (wrp n) 2 (w.heap.size + 1) (.slice a1 L1.length c1) L1 _ (by omega) (by omega) hc1 hf1 O1.out (by omega) z1 (by have := q1.out; omega)).mono ?_
  rintro e w2 ⟨rfl, v2, hc2, hf2, ho2, hw2⟩
  obtain ⟨L2, hL2⟩ : ∃ L, L = L1 ++ beTo (wrp n) 2 2 := ⟨_, rfl⟩
  rw [← hL2] at ho2
  have q2 : Hid (L2.length = 4) := by have := q1.out; rw [hL2, List.length_append, beTo_length, this]; trivial
  have E2 : Hid _ := hL2
  obtain ⟨a2, c2, rfl, -, -⟩ := ho2.rbn
  have O2 : Hid _ := ho2
  have W2 : Hid _ := W1.out.trans hw2
  have z2 := hw2.size
  clear hL2 ho2 hw2 hc1 hf1
  have B2 : Hid (Below w.heap.size w w2) := Below.trans (by go_grown) (W2.out.below (by simp) (Nat.le_refl _) (by intro b e; cases e))
  go_wp2_with fail
  refine (iAddBytes w.heap.size a n cap l (w.heap.size + 1) (.slice a2 L2.length c2) L2 _ hl (HR.out.below (Nat.le_refl _) B2.out) HN.out hn hc2 hf2 O2.out (by omega) (by omega) (by have := q2.out; omega)).mono ?_
  rintro e w3 ⟨rfl, v3, hc3, hf3, ho3, hw3⟩
  obtain ⟨L3, hL3⟩ : ∃ L, L = L2 ++ l := ⟨_, rfl⟩
  rw [← hL3] at ho3
  have q3 : Hid (L3.length = 4 + n) := by have := q2.out; rw [hL3, List.length_append, this, hl]; trivial
  have E3 : Hid _ := hL3
  obtain ⟨a3, c3, rfl, hr3, -⟩ := ho3.rbn
  have R3 : Hid _ := hr3
  have W3 : Hid _ := W2.out.trans hw3
  have z3 := hw3.size
  clear hL3 ho3 hw3 hc2 hf2 hr3
  have B3 : Hid (Below w.heap.size w w3) := Below.trans (by go_grown) (W3.out.below (by simp) (Nat.le_refl _) (by intro b e; cases e))
  go_wp2_with fail
  refine (iSumBytes _ _ _ L3 _ rfl R3.out (by have := q3.out; omega)).mono ?_
  rintro e w4 ⟨rfl, hw⟩
  subst w4
  go_wp2_with fail
  go_ret
  exact ⟨ret_int (by rw [loadB, hl, E3.out, E2.out, E1.out]; rfl), B3.out⟩
end Go.Proofs.Ytmiomnpfjigojah
