/- What the model's SumLoad answers; nothing that was in memory turns; no condition but that the load has at most a million bytes. -/
import Derived.Test.YtmiomnpfjigojahRows
import Derived.Test.YtmiomnpfjigojahBase
import Derived.Test.YtmiomnpfjigojahNum
import Derived.Test.YtmiomnpfjigojahNumWalks
import Derived.Test.YtmiomnpfjigojahBytes
import Derived.Test.YtmiomnpfjigojahAppBytes
import Derived.Test.YtmiomnpfjigojahApp
import Derived.Test.YtmiomnpfjigojahSpecPack
import Derived.Test.YtmiomnpfjigojahLaw
import Derived.Deep.DeepMust
namespace Go.Proofs.Ytmiomnpfjigojah
open Go.RowKit
set_option linter.unusedVariables false

/-- The bytes whose sum is that of a load. -/
def loadB (at_ : Int) (l : List Int) : List Int := beTo (wrp at_) 2 2 ++ beTo (wrp l.length) 2 2 ++ l

set_option maxHeartbeats 300000 in
theorem sSumLoad (at_ : Int) (a : Option Addr) (n cap : Nat) (l : List Int) (w : World) (hl : l.length = n) (hr : RB w a l) (hnil : a = none → cap = 0) (hn : n ≤ 1048576) :
    Calls Try.prog 33 #[.int .i64 at_, .slice a n cap] w fun e w' => e = .returned (.int .i64 (sumB (loadB at_ l))) ∧ Below w.heap.size w w' := by
  have HR : Hid _ := hr
  have HN : Hid _ := hnil
  clear hr hnil
  go_enter Try.func33, Try.ntmps33
  go_wp2_with fail
  refine (sWrap at_ _).mono ?_
  rintro e w1 ⟨rfl, hw⟩
  subst w1
  go_wp2_with fail
  refine (sBytes (wrp at_) 2 _ (by omega) (by omega)).mono ?_
  rintro e w1 ⟨v1, rfl, ho1, hb1⟩
  have HL1 : Hid (∃ L, L = beTo (wrp at_) 2 2) := ⟨_, rfl⟩
  obtain ⟨L1, hL1⟩ := HL1.out
  rw [← hL1] at ho1
  have q1 : Hid (L1.length = 2) := by rw [hL1, beTo_length]; trivial
  have E1 : Hid _ := hL1
  clear hL1 HL1
  obtain ⟨a1, c1, rfl, -, -⟩ := ho1.rbn
  have O1 : Hid _ := ho1
  have HB1 : Hid _ := hb1
  clear ho1 hb1
  go_wp2_with fail
  refine (sWrap n _).mono ?_
  rintro e w2 ⟨rfl, hw⟩
  subst w2
  go_wp2_with fail
  refine (sBytes (wrp n) 2 _ (by omega) (by omega)).mono ?_
  rintro e w2 ⟨v2, rfl, ho2, hb2⟩
  have HL2 : Hid (∃ L, L = beTo (wrp n) 2 2) := ⟨_, rfl⟩
  obtain ⟨L2, hL2⟩ := HL2.out
  rw [← hL2] at ho2
  have q2 : Hid (L2.length = 2) := by rw [hL2, beTo_length]; trivial
  have E2 : Hid _ := hL2
  clear hL2 HL2
  obtain ⟨a2, c2, rfl, hr2, hn2⟩ := ho2.rbn
  have R2 : Hid _ := hr2
  have N2 : Hid _ := hn2
  have HB2 : Hid (Below w.heap.size w w2) := HB1.out.trans (hb2.mono HB1.out.size)
  replace O1 : Hid _ := OB.below O1.out (Nat.le_refl _) hb2
  clear ho2 hb2 hr2 hn2 HB1
  go_wp2_with (at_builtin; go_must (refine app_pl w2 (by rfl) _ _ 27 27 (by rfl) Try.underlying27 Try.underlying27 w.heap.size (.slice a1 L1.length c1) L1 (by rfl) O1.out a2 L2 L2.length c2 rfl (by rfl) R2.out N2.out (by have := q1.out; have := q2.out; omega) HB2.out.size ?_))
  intro v3 w3 ho3 hb3 _ _
  obtain ⟨L3, hL3⟩ : ∃ L, L = L1 ++ L2 := ⟨_, rfl⟩
  rw [← hL3] at ho3
  have q3 : Hid (L3.length = 4) := by have := q1.out; have := q2.out; rw [hL3, List.length_append]; show _ = _; omega
  have E3 : Hid _ := hL3
  clear hL3
  obtain ⟨a3, c3, rfl, -, -⟩ := ho3.rbn
  have O3 : Hid _ := ho3
  have HB3 : Hid (Below w.heap.size w w3) := HB2.out.trans hb3
  clear ho3 hb3 HB2 O1 R2 N2
  go_wp2_with (at_builtin; go_must (refine app_pl w3 (by rfl) _ _ 27 27 (by rfl) Try.underlying27 Try.underlying27 w.heap.size (.slice a3 L3.length c3) L3 (by rfl) O3.out a l n cap hl (by rfl) (HR.out.below (Nat.le_refl _) HB3.out) HN.out (by have := q3.out; omega) HB3.out.size ?_))
  intro v4 w4 ho4 hb4 _ _
  obtain ⟨L4, hL4⟩ : ∃ L, L = L3 ++ l := ⟨_, rfl⟩
  rw [← hL4] at ho4
  have q4 : Hid (L4.length = 4 + n) := by have := q3.out; rw [hL4, List.length_append]; show _ = _; omega
  have E4 : Hid _ := hL4
  clear hL4
  obtain ⟨a4, c4, rfl, hr4, -⟩ := ho4.rbn
  have R4 : Hid _ := hr4
  have HB4 : Hid (Below w.heap.size w w4) := HB3.out.trans hb4
  clear ho4 hb4 HB3 O3 hr4
  go_wp2_with fail
  refine (sSumBytes _ _ _ _ _ rfl R4.out (by have := q4.out; omega)).mono ?_
  rintro e w5 ⟨rfl, hw⟩
  subst w5
  go_wp2_with fail
  go_ret
  exact ⟨ret_int (by rw [loadB, hl, ← E1.out, ← E2.out, ← E3.out, ← E4.out]), HB4.out⟩
end Go.Proofs.Ytmiomnpfjigojah
