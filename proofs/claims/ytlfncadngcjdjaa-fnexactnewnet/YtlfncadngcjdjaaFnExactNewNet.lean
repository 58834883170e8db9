/- Proved: at every row of bools the program's NewNet answers as its model does, every field; what was handed in is as it was; the answer owns its memory; no condition. -/
import Derived.Test.YtlfncadngcjdjaaRows
import Derived.WalkKit
import Derived.ProofKit
import Derived.OpenShut
import Derived.ShutString
import Derived.ChangeOld
import Derived.Below
import Derived.Test.YtlfncadngcjdjaaBase
import Derived.Test.YtlfncadngcjdjaaBytes
import Derived.Test.YtlfncadngcjdjaaMem
import Derived.Test.YtlfncadngcjdjaaMemOpen
import Derived.Test.YtlfncadngcjdjaaMemRow
import Derived.Test.YtlfncadngcjdjaaHBase
import Derived.Test.YtlfncadngcjdjaaHMark
import Derived.Test.YtlfncadngcjdjaaHOpen0
import Derived.Test.YtlfncadngcjdjaaBox
import Derived.Test.YtlfncadngcjdjaaSubBox
import Derived.Test.YtlfncadngcjdjaaAgg
import Derived.Test.YtlfncadngcjdjaaElMark
import Derived.Test.YtlfncadngcjdjaaMSegs
import Derived.Test.YtlfncadngcjdjaaRegionU
import Derived.Test.YtlfncadngcjdjaaHSegs
import Derived.Test.YtlfncadngcjdjaaSegR
import Derived.Test.YtlfncadngcjdjaaAppBytes
import Derived.Test.YtlfncadngcjdjaaApp
import Derived.Test.YtlfncadngcjdjaaMemApp
import Derived.Test.YtlfncadngcjdjaaSeg
import Derived.Test.YtlfncadngcjdjaaSegFS
import Derived.Test.YtlfncadngcjdjaaSegFI
import Derived.Test.YtlfncadngcjdjaaStrip
import Derived.Test.YtlfncadngcjdjaaRegS
import Derived.Test.YtlfncadngcjdjaaHBool
import Derived.Test.YtlfncadngcjdjaaHSegT
import Derived.Test.YtlfncadngcjdjaaNetSeg
import Derived.Test.YtlfncadngcjdjaaNetDef
import Derived.Test.YtlfncadngcjdjaaNetSpF
import Derived.Test.YtlfncadngcjdjaaNetImF
import Derived.Test.YtlfncadngcjdjaaHNet
import Derived.Test.YtlfncadngcjdjaaNetBx
import Derived.Test.YtlfncadngcjdjaaNetR
import Derived.Test.YtlfncadngcjdjaaNetOpen
import Derived.Test.YtlfncadngcjdjaaRegionQ
import Derived.Test.YtlfncadngcjdjaaNetImC
import Derived.Test.YtlfncadngcjdjaaNetSpC
import Derived.Test.YtlfncadngcjdjaaNetNew
namespace Go.Proofs.Ytlfncadngcjdjaa.fnExactNewNet
open Go.ChangeShapes Go.WideShapes Go.ChangeAt Go.RowKit
set_option linter.unusedVariables false

theorem own : ownKnob Try.prog.godebug = none := by kernel_rfl
theorem laidOut : laidOutB Try.prog = true := by kernel_rfl


set_option maxHeartbeats 8000000 in
set_option maxRecDepth 8000 in
theorem walk {H : Type} (enc : TypeId × Value → H) (v0 : Value) (w : World) (base : Nat)
    (o0 : Value.okWide Try.prog w .any base 25 v0) (t0 : ∃ n y, DataW.trod enc Try.prog w 0 (fun _ => true) true n 25 v0.cells.toList = some y) :
    Calls Try.prog 5 #[v0] w fun e w' => e = .returned (.bool true) ∧ Below w.heap.size w w' := by
  obtain ⟨l0, a0, n0, c0, rfl, HL0, HR0, hm0⟩ := open_bls o0 t0
  clear o0 t0
  obtain ⟨T0, hT0⟩ : ∃ T : Nat, T = l0.length := ⟨_, rfl⟩
  obtain ⟨V, hV⟩ : ∃ V : DNR, V = newV l0 := ⟨_, rfl⟩
  have CS : Hid (∀ (W : World) (B : Nat) (b0 : Option Addr) (k0 : Nat), (bls 4).Rd W B l0 [.slice b0 n0 k0] → l0.length ≤ 1048576 → B ≤ W.heap.size → Calls Try.prog 23 #[.slice b0 n0 k0] W fun e w' => ∃ N : Array Value, e = .returned (.agg N) ∧ Own w' W.heap.size w'.heap.size (shNR 4) V N.toList ∧ Below W.heap.size W w') := fun W B b0 k0 h0a h0b hB => by rw [hV]; exact sNewNetA l0 (.slice b0 n0 k0) W B h0a h0b hB
  have CI : Hid (∀ (W : World) (B : Nat) (b0 : Option Addr) (k0 : Nat), (bls 4).Rd W B l0 [.slice b0 n0 k0] → l0.length ≤ 1048576 → B ≤ W.heap.size → Calls Try.prog 25 #[.slice b0 n0 k0] W fun e w' => ∃ N : Array Value, e = .returned (.agg N) ∧ Own w' W.heap.size w'.heap.size (shNR 69) V N.toList ∧ Below W.heap.size W w') := fun W B b0 k0 h0a h0b hB => by rw [hV]; exact iNewNetA l0 (.slice b0 n0 k0) W B h0a h0b hB
  have VT : Hid (l0.length ≤ 1048576 → totNR V ≤ 1048576) := fun h => by rw [hV]; exact newV_tot h
  have HBX : Hid (∀ (W : World) (N : Array Value), N.size = 15 → W.heap.size < ((W.alloc (.cells #[.int .i64 0, .int .i64 0, .int .i64 0, .bool false, .bool false, .bool false, .int .i64 0, .int .i64 0, .int .i64 0, .int .i64 0, .int .i64 0, .int .i64 0, .slice none 0 0, .slice none 0 0, .slice none 0 0] 33)).setCells W.heap.size 0 N.toList).heap.size ∧ Below W.heap.size W ((W.alloc (.cells #[.int .i64 0, .int .i64 0, .int .i64 0, .bool false, .bool false, .bool false, .int .i64 0, .int .i64 0, .int .i64 0, .int .i64 0, .int .i64 0, .int .i64 0, .slice none 0 0, .slice none 0 0, .slice none 0 0] 33)).setCells W.heap.size 0 N.toList) ∧ (∀ o, ((W.alloc (.cells #[.int .i64 0, .int .i64 0, .int .i64 0, .bool false, .bool false, .bool false, .int .i64 0, .int .i64 0, .int .i64 0, .int .i64 0, .int .i64 0, .int .i64 0, .slice none 0 0, .slice none 0 0, .slice none 0 0] 33)).setCells W.heap.size 0 N.toList).cell? ⟨W.heap.size, o, none⟩ = N[o]?) ∧ (W.alloc (.cells #[.int .i64 0, .int .i64 0, .int .i64 0, .bool false, .bool false, .bool false, .int .i64 0, .int .i64 0, .int .i64 0, .int .i64 0, .int .i64 0, .int .i64 0, .slice none 0 0, .slice none 0 0, .slice none 0 0] 33)).there W.heap.size 0 N.size) := fun W N hz => ⟨by rw [setCells_size]; simp, setCells_below (Nat.le_refl _) _ _ _ _ ((Below.refl _ _).alloc (Nat.le_refl _) _), bx_setCells (bx_al _ _ _) (by rw [hz]; rfl), bx_there (bx_al _ _ _) (fx_al _ _ _) (by rw [hz]; rfl)⟩
  clear hV
  by_cases hb0 : (1048576 : Int) < (n0 : Int)
  · have hb0' : decide ((1048576 : Int) < (n0 : Int)) = true := decide_eq_true hb0
    go_enter Try.func5, Try.ntmps5
    go_wp2_with fail
    go_ret
    exact ⟨rfl, by go_grown⟩
  have hb0' : decide ((1048576 : Int) < (n0 : Int)) = false := decide_eq_false hb0
  have hT0' : l0.length ≤ 1048576 := by rw [HL0.out]; omega
  have hVT := VT.out hT0'
  go_enter Try.func5, Try.ntmps5
  have HB : Hid (Below w.heap.size w w) := Below.refl _ _
  have hwt : wtNR V ≤ 16777216 := wtNR_le hVT
  go_wp2_with fail
  refine (lToBools _ l0 (.slice a0 n0 c0) _ w.heap.size (HR0.out _ HB.out) HB.out.size hT0').mono ?_
  rintro e w1 ⟨u, rfl, ho, hb⟩
  obtain ⟨uaw1, ucw1, eu⟩ := row_form (ho.rd (Nat.le_refl _))
  simp only [List.cons.injEq, and_true, HL0.out] at eu
  subst eu
  have Zw1 : Hid (w.heap.size ≤ w1.heap.size) := hb.size
  replace HB : Hid (Below w.heap.size w w1) := HB.out.trans (hb.mono HB.out.size)
  have Xw1 : Hid (Own w1 w.heap.size w1.heap.size (bls 4) l0 (#[.slice uaw1 n0 ucw1] : Array Value).toList) := ho
  clear ho
  clear hb
  go_wp2_with fail
  refine (CS.out _ w1.heap.size _ _ (Sh.Rd.mono (by have := Zw1.out; omega) _ _ _ (Xw1.out.rd (Nat.le_refl _))) hT0' (Nat.le_refl _)).mono ?_
  rintro e w2 ⟨Nw2, rfl, ho, hb⟩
  have Zw2 : Hid (w1.heap.size ≤ w2.heap.size) := hb.size
  replace Xw1 : Hid (Own w2 w.heap.size w1.heap.size (bls 4) l0 (#[.slice uaw1 n0 ucw1] : Array Value).toList) := Own.below Xw1.out (by have := Zw1.out; have := Zw2.out; omega) hb
  replace HB : Hid (Below w.heap.size w w2) := HB.out.trans (hb.mono HB.out.size)
  have Xw2 : Hid (Own w2 w1.heap.size w2.heap.size (shNR 4) V Nw2.toList) := ho
  clear ho
  clear hb
  clear Xw1
  clear CS
  have hz : Nw2.size = 15 := rd_size (Xw2.out.rd (Nat.le_refl _))
  have IS : Hid ((Try.prog.info? 33).map (·.size) = some Nw2.size) := by show _ = _; rw [hz]; exact (by kernel_rfl : (Try.prog.info? 33).map (·.size) = some 15)
  have JS : Hid ((Try.prog.info? 33).map (·.size) = some Nw2.toList.length) := by show _ = _; rw [Array.length_toList]; exact IS.out
  have HO : Hid (Nw2.all (·.oneCell') = true) := rd_all (Xw2.out.rd (Nat.le_refl _))
  have HX := HBX.out w2 Nw2 hz
  have HTH : Hid _ := HX.2.2.2
  have HX2 : Hid _ := HX
  clear HX hz
  go_upto_region 4 with (refine wpList_store_mid rfl 33 _ _ rfl _ _ Nw2 (by rfl) (by rfl) HTH.out IS.out HO.out ?_)
  clear HTH HO
  generalize hWW : (w2.alloc (.cells #[.int .i64 0, .int .i64 0, .int .i64 0, .bool false, .bool false, .bool false, .int .i64 0, .int .i64 0, .int .i64 0, .int .i64 0, .int .i64 0, .int .i64 0, .slice none 0 0, .slice none 0 0, .slice none 0 0] 33)).setCells w2.heap.size 0 Nw2.toList = w3 at HX2 ⊢
  obtain ⟨zS, hb, kS, -⟩ := HX2.out
  clear hWW HX2 IS
  have Zw3 : Hid (w2.heap.size ≤ w3.heap.size) := hb.size
  replace Xw2 : Hid (Own w3 w1.heap.size w2.heap.size (shNR 4) V Nw2.toList) := Own.below Xw2.out (by have := Zw1.out; have := Zw2.out; have := Zw3.out; omega) hb
  replace HB : Hid (Below w.heap.size w w3) := HB.out.trans (hb.mono HB.out.size)
  have YS : Hid (w2.heap.size < w3.heap.size) := zS
  clear hb
  go_wp2_with (first | (refine wpList_load_mid rfl 33 _ rfl _ _ (by rfl) Nw2.toList _ (bx_range kS) Try.underlying33 rfl JS.out ?_))
  refine (lToBools _ l0 (.slice a0 n0 c0) _ w.heap.size (HR0.out _ HB.out) HB.out.size hT0').mono ?_
  rintro e w4 ⟨u, rfl, ho, hb⟩
  obtain ⟨uaw4, ucw4, eu⟩ := row_form (ho.rd (Nat.le_refl _))
  simp only [List.cons.injEq, and_true, HL0.out] at eu
  subst eu
  have Zw4 : Hid (w3.heap.size ≤ w4.heap.size) := hb.size
  replace kS := bx_below kS zS hb
  replace zS := Nat.lt_of_lt_of_le zS hb.size
  replace Xw2 : Hid (Own w4 w1.heap.size w2.heap.size (shNR 4) V Nw2.toList) := Own.below Xw2.out (by have := Zw1.out; have := Zw2.out; have := Zw3.out; have := YS.out; have := Zw4.out; omega) hb
  replace HB : Hid (Below w.heap.size w w4) := HB.out.trans (hb.mono HB.out.size)
  have Xw4 : Hid (Own w4 w3.heap.size w4.heap.size (bls 4) l0 (#[.slice uaw4 n0 ucw4] : Array Value).toList) := ho
  clear ho
  clear hb
  go_wp2_with (first | (refine wpList_load_mid rfl 33 _ rfl _ _ (by rfl) Nw2.toList _ (bx_range kS) Try.underlying33 rfl JS.out ?_))
  refine (CI.out _ w4.heap.size _ _ (Sh.Rd.mono (by have := Zw1.out; have := Zw2.out; have := Zw3.out; have := YS.out; have := Zw4.out; omega) _ _ _ (Xw4.out.rd (Nat.le_refl _))) hT0' (Nat.le_refl _)).mono ?_
  rintro e w5 ⟨Nw5, rfl, ho, hb⟩
  have Zw5 : Hid (w4.heap.size ≤ w5.heap.size) := hb.size
  replace kS := bx_below kS zS hb
  replace zS := Nat.lt_of_lt_of_le zS hb.size
  replace Xw2 : Hid (Own w5 w1.heap.size w2.heap.size (shNR 4) V Nw2.toList) := Own.below Xw2.out (by have := Zw1.out; have := Zw2.out; have := Zw3.out; have := YS.out; have := Zw4.out; have := Zw5.out; omega) hb
  replace Xw4 : Hid (Own w5 w3.heap.size w4.heap.size (bls 4) l0 (#[.slice uaw4 n0 ucw4] : Array Value).toList) := Own.below Xw4.out (by have := Zw1.out; have := Zw2.out; have := Zw3.out; have := YS.out; have := Zw4.out; have := Zw5.out; omega) hb
  replace HB : Hid (Below w.heap.size w w5) := HB.out.trans (hb.mono HB.out.size)
  have Xw5 : Hid (Own w5 w4.heap.size w5.heap.size (shNR 69) V Nw5.toList) := ho
  clear ho
  clear hb
  have hz : Nw5.size = 15 := rd_size (Xw5.out.rd (Nat.le_refl _))
  have IG : Hid ((Try.prog.info? 33).map (·.size) = some Nw5.size) := by show _ = _; rw [hz]; exact (by kernel_rfl : (Try.prog.info? 33).map (·.size) = some 15)
  have JG : Hid ((Try.prog.info? 33).map (·.size) = some Nw5.toList.length) := by show _ = _; rw [Array.length_toList]; exact IG.out
  have HO : Hid (Nw5.all (·.oneCell') = true) := rd_all (Xw5.out.rd (Nat.le_refl _))
  have HX := HBX.out w5 Nw5 hz
  have HTH : Hid _ := HX.2.2.2
  have HX2 : Hid _ := HX
  clear HX hz
  go_upto_region 6 with (refine wpList_store_mid rfl 33 _ _ rfl _ _ Nw5 (by rfl) (by rfl) HTH.out IG.out HO.out ?_)
  clear HTH HO
  generalize hWW : (w5.alloc (.cells #[.int .i64 0, .int .i64 0, .int .i64 0, .bool false, .bool false, .bool false, .int .i64 0, .int .i64 0, .int .i64 0, .int .i64 0, .int .i64 0, .int .i64 0, .slice none 0 0, .slice none 0 0, .slice none 0 0] 33)).setCells w5.heap.size 0 Nw5.toList = w6 at HX2 ⊢
  obtain ⟨zG, hb, kG, -⟩ := HX2.out
  clear hWW HX2 IG
  have Zw6 : Hid (w5.heap.size ≤ w6.heap.size) := hb.size
  replace kS := bx_below kS zS hb
  replace zS := Nat.lt_of_lt_of_le zS hb.size
  replace Xw2 : Hid (Own w6 w1.heap.size w2.heap.size (shNR 4) V Nw2.toList) := Own.below Xw2.out (by have := Zw1.out; have := Zw2.out; have := Zw3.out; have := YS.out; have := Zw4.out; have := Zw5.out; have := Zw6.out; omega) hb
  replace Xw4 : Hid (Own w6 w3.heap.size w4.heap.size (bls 4) l0 (#[.slice uaw4 n0 ucw4] : Array Value).toList) := Own.below Xw4.out (by have := Zw1.out; have := Zw2.out; have := Zw3.out; have := YS.out; have := Zw4.out; have := Zw5.out; have := Zw6.out; omega) hb
  replace Xw5 : Hid (Own w6 w4.heap.size w5.heap.size (shNR 69) V Nw5.toList) := Own.below Xw5.out (by have := Zw1.out; have := Zw2.out; have := Zw3.out; have := YS.out; have := Zw4.out; have := Zw5.out; have := Zw6.out; omega) hb
  replace HB : Hid (Below w.heap.size w w6) := HB.out.trans (hb.mono HB.out.size)
  have YG : Hid (w5.heap.size < w6.heap.size) := zG
  clear hb
  go_wp2_with (first | (refine wpList_load_mid rfl 33 _ rfl _ _ (by rfl) Nw2.toList _ (bx_range kS) Try.underlying33 rfl JS.out ?_) | (refine wpList_load_mid rfl 33 _ rfl _ _ (by rfl) Nw5.toList _ (bx_range kG) Try.underlying33 rfl JG.out ?_))
  refine (lEqNR _ _ V Nw5 Nw2 _ _ (Xw5.out.rd (Nat.le_refl _)) (Xw2.out.rd (Nat.le_refl _)) (Nat.le_refl _) hVT).mono ?_
  rintro e w7 ⟨rfl, hb⟩
  have Zw7 : Hid (w6.heap.size ≤ w7.heap.size) := hb.size
  replace kS := bx_below kS zS hb
  replace zS := Nat.lt_of_lt_of_le zS hb.size
  replace kG := bx_below kG zG hb
  replace zG := Nat.lt_of_lt_of_le zG hb.size
  replace Xw2 : Hid (Own w7 w1.heap.size w2.heap.size (shNR 4) V Nw2.toList) := Own.below Xw2.out (by have := Zw1.out; have := Zw2.out; have := Zw3.out; have := YS.out; have := Zw4.out; have := Zw5.out; have := Zw6.out; have := YG.out; have := Zw7.out; omega) hb
  replace Xw4 : Hid (Own w7 w3.heap.size w4.heap.size (bls 4) l0 (#[.slice uaw4 n0 ucw4] : Array Value).toList) := Own.below Xw4.out (by have := Zw1.out; have := Zw2.out; have := Zw3.out; have := YS.out; have := Zw4.out; have := Zw5.out; have := Zw6.out; have := YG.out; have := Zw7.out; omega) hb
  replace Xw5 : Hid (Own w7 w4.heap.size w5.heap.size (shNR 69) V Nw5.toList) := Own.below Xw5.out (by have := Zw1.out; have := Zw2.out; have := Zw3.out; have := YS.out; have := Zw4.out; have := Zw5.out; have := Zw6.out; have := YG.out; have := Zw7.out; omega) hb
  replace HB : Hid (Below w.heap.size w w7) := HB.out.trans (hb.mono HB.out.size)
  clear hb
  go_wp2_with (first | (refine wpList_load_mid rfl 33 _ rfl _ _ (by rfl) Nw2.toList _ (bx_range kS) Try.underlying33 rfl JS.out ?_) | (refine wpList_load_mid rfl 33 _ rfl _ _ (by rfl) Nw5.toList _ (bx_range kG) Try.underlying33 rfl JG.out ?_))
  refine (lToBools _ l0 (.slice a0 n0 c0) _ w.heap.size (HR0.out _ HB.out) HB.out.size hT0').mono ?_
  rintro e w8 ⟨u, rfl, ho, hb⟩
  obtain ⟨uaw8, ucw8, eu⟩ := row_form (ho.rd (Nat.le_refl _))
  simp only [List.cons.injEq, and_true, HL0.out] at eu
  subst eu
  have Zw8 : Hid (w7.heap.size ≤ w8.heap.size) := hb.size
  replace kS := bx_below kS zS hb
  replace zS := Nat.lt_of_lt_of_le zS hb.size
  replace kG := bx_below kG zG hb
  replace zG := Nat.lt_of_lt_of_le zG hb.size
  replace Xw2 : Hid (Own w8 w1.heap.size w2.heap.size (shNR 4) V Nw2.toList) := Own.below Xw2.out (by have := Zw1.out; have := Zw2.out; have := Zw3.out; have := YS.out; have := Zw4.out; have := Zw5.out; have := Zw6.out; have := YG.out; have := Zw7.out; have := Zw8.out; omega) hb
  replace Xw4 : Hid (Own w8 w3.heap.size w4.heap.size (bls 4) l0 (#[.slice uaw4 n0 ucw4] : Array Value).toList) := Own.below Xw4.out (by have := Zw1.out; have := Zw2.out; have := Zw3.out; have := YS.out; have := Zw4.out; have := Zw5.out; have := Zw6.out; have := YG.out; have := Zw7.out; have := Zw8.out; omega) hb
  replace Xw5 : Hid (Own w8 w4.heap.size w5.heap.size (shNR 69) V Nw5.toList) := Own.below Xw5.out (by have := Zw1.out; have := Zw2.out; have := Zw3.out; have := YS.out; have := Zw4.out; have := Zw5.out; have := Zw6.out; have := YG.out; have := Zw7.out; have := Zw8.out; omega) hb
  replace HB : Hid (Below w.heap.size w w8) := HB.out.trans (hb.mono HB.out.size)
  have Xw8 : Hid (Own w8 w7.heap.size w8.heap.size (bls 4) l0 (#[.slice uaw8 n0 ucw8] : Array Value).toList) := ho
  clear ho
  clear hb
  go_wp2_with (first | (refine wpList_load_mid rfl 33 _ rfl _ _ (by rfl) Nw2.toList _ (bx_range kS) Try.underlying33 rfl JS.out ?_) | (refine wpList_load_mid rfl 33 _ rfl _ _ (by rfl) Nw5.toList _ (bx_range kG) Try.underlying33 rfl JG.out ?_))
  refine (lEqBools _ _ l0 (.slice uaw4 n0 ucw4) (.slice uaw8 n0 ucw8) _ _ (Xw4.out.rd (Nat.le_refl _)) (Xw8.out.rd (Nat.le_refl _)) (Nat.le_refl _) hT0').mono ?_
  rintro e w9 ⟨rfl, hb⟩
  have Zw9 : Hid (w8.heap.size ≤ w9.heap.size) := hb.size
  replace kS := bx_below kS zS hb
  replace zS := Nat.lt_of_lt_of_le zS hb.size
  replace kG := bx_below kG zG hb
  replace zG := Nat.lt_of_lt_of_le zG hb.size
  replace Xw2 : Hid (Own w9 w1.heap.size w2.heap.size (shNR 4) V Nw2.toList) := Own.below Xw2.out (by have := Zw1.out; have := Zw2.out; have := Zw3.out; have := YS.out; have := Zw4.out; have := Zw5.out; have := Zw6.out; have := YG.out; have := Zw7.out; have := Zw8.out; have := Zw9.out; omega) hb
  replace Xw4 : Hid (Own w9 w3.heap.size w4.heap.size (bls 4) l0 (#[.slice uaw4 n0 ucw4] : Array Value).toList) := Own.below Xw4.out (by have := Zw1.out; have := Zw2.out; have := Zw3.out; have := YS.out; have := Zw4.out; have := Zw5.out; have := Zw6.out; have := YG.out; have := Zw7.out; have := Zw8.out; have := Zw9.out; omega) hb
  replace Xw5 : Hid (Own w9 w4.heap.size w5.heap.size (shNR 69) V Nw5.toList) := Own.below Xw5.out (by have := Zw1.out; have := Zw2.out; have := Zw3.out; have := YS.out; have := Zw4.out; have := Zw5.out; have := Zw6.out; have := YG.out; have := Zw7.out; have := Zw8.out; have := Zw9.out; omega) hb
  replace Xw8 : Hid (Own w9 w7.heap.size w8.heap.size (bls 4) l0 (#[.slice uaw8 n0 ucw8] : Array Value).toList) := Own.below Xw8.out (by have := Zw1.out; have := Zw2.out; have := Zw3.out; have := YS.out; have := Zw4.out; have := Zw5.out; have := Zw6.out; have := YG.out; have := Zw7.out; have := Zw8.out; have := Zw9.out; omega) hb
  replace HB : Hid (Below w.heap.size w w9) := HB.out.trans (hb.mono HB.out.size)
  clear hb
  clear Xw8
  have hwn : True := trivial
  go_wp2_with (first | (refine wpList_load_mid rfl 33 _ rfl _ _ (by rfl) Nw2.toList _ (bx_range kS) Try.underlying33 rfl JS.out ?_) | (refine wpList_load_mid rfl 33 _ rfl _ _ (by rfl) Nw5.toList _ (bx_range kG) Try.underlying33 rfl JG.out ?_))
  have hwn0 : l0.length ≤ 16777216 := by omega
  refine (lMarkBlsO l0 _ (.slice uaw4 n0 ucw4) rfl _ _ _ _ Xw4.out hT0' (by omega) (by omega)).mono ?_
  rintro e w10 ⟨rfl, ho, hw⟩
  have Zw10 : Hid (w9.heap.size ≤ w10.heap.size) := hw.size
  replace kS := bx_keep kS (hw.block _ zS (by have := Zw1.out; have := Zw2.out; have := Zw3.out; have := YS.out; have := Zw4.out; have := Zw5.out; have := Zw6.out; have := YG.out; have := Zw7.out; have := Zw8.out; have := Zw9.out; have := Zw10.out; omega))
  replace zS := Nat.lt_of_lt_of_le zS hw.size
  replace kG := bx_keep kG (hw.block _ zG (by have := Zw1.out; have := Zw2.out; have := Zw3.out; have := YS.out; have := Zw4.out; have := Zw5.out; have := Zw6.out; have := YG.out; have := Zw7.out; have := Zw8.out; have := Zw9.out; have := Zw10.out; omega))
  replace zG := Nat.lt_of_lt_of_le zG hw.size
  replace Xw2 : Hid (Own w10 w1.heap.size w2.heap.size (shNR 4) V Nw2.toList) := Own.keep Xw2.out (fun b h1 h2 => hw.block b (by have := Zw1.out; have := Zw2.out; have := Zw3.out; have := YS.out; have := Zw4.out; have := Zw5.out; have := Zw6.out; have := YG.out; have := Zw7.out; have := Zw8.out; have := Zw9.out; have := Zw10.out; omega) (by have := Zw1.out; have := Zw2.out; have := Zw3.out; have := YS.out; have := Zw4.out; have := Zw5.out; have := Zw6.out; have := YG.out; have := Zw7.out; have := Zw8.out; have := Zw9.out; have := Zw10.out; omega))
  replace Xw5 : Hid (Own w10 w4.heap.size w5.heap.size (shNR 69) V Nw5.toList) := Own.keep Xw5.out (fun b h1 h2 => hw.block b (by have := Zw1.out; have := Zw2.out; have := Zw3.out; have := YS.out; have := Zw4.out; have := Zw5.out; have := Zw6.out; have := YG.out; have := Zw7.out; have := Zw8.out; have := Zw9.out; have := Zw10.out; omega) (by have := Zw1.out; have := Zw2.out; have := Zw3.out; have := YS.out; have := Zw4.out; have := Zw5.out; have := Zw6.out; have := YG.out; have := Zw7.out; have := Zw8.out; have := Zw9.out; have := Zw10.out; omega))
  replace Xw4 : Hid (Own w10 w3.heap.size w4.heap.size (bls 4) (markB 1 l0.length) (#[.slice uaw4 n0 ucw4] : Array Value).toList) := ho
  replace HB : Hid (Below w.heap.size w w10) := within_below HB.out hw (by have := Zw1.out; have := Zw2.out; have := Zw3.out; have := YS.out; have := Zw4.out; have := Zw5.out; have := Zw6.out; have := YG.out; have := Zw7.out; have := Zw8.out; have := Zw9.out; have := Zw10.out; omega) HB.out.size
  clear ho hw
  clear Xw4
  have hk1 : 0 ≤ (1 : Int) + ((l0.length : Nat) : Int) := by omega
  have hk2 : decide ((1 : Int) + ((l0.length : Nat) : Int) < 0) = false := by simp; omega
  have hk3 : ¬ ((1 : Int) + ((l0.length : Nat) : Int) < 0) := by omega
  clear hwn hwn0
  go_wp2_with (first | (refine wpList_load_mid rfl 33 _ rfl _ _ (by rfl) Nw2.toList _ (bx_range kS) Try.underlying33 rfl JS.out ?_) | (refine Go.BigFrame.wpList_want (by rfl) fun KK hKK => wp_load_mid 33 _ rfl _ _ (by rfl) Nw2.toList _ (bx_range kS) Try.underlying33 rfl JS.out (hKK _ _ ?_); clear hKK KK) | (refine wpList_load_mid rfl 33 _ rfl _ _ (by rfl) Nw5.toList _ (bx_range kG) Try.underlying33 rfl JG.out ?_) | (refine Go.BigFrame.wpList_want (by rfl) fun KK hKK => wp_load_mid 33 _ rfl _ _ (by rfl) Nw5.toList _ (bx_range kG) Try.underlying33 rfl JG.out (hKK _ _ ?_); clear hKK KK))
  refine (lEqNR _ _ V Nw5 Nw2 _ _ (Xw5.out.rd (Nat.le_refl _)) (Xw2.out.rd (Nat.le_refl _)) (Nat.le_refl _) hVT).mono ?_
  rintro e w11 ⟨rfl, hb⟩
  have Zw11 : Hid (w10.heap.size ≤ w11.heap.size) := hb.size
  replace kS := bx_below kS zS hb
  replace zS := Nat.lt_of_lt_of_le zS hb.size
  replace kG := bx_below kG zG hb
  replace zG := Nat.lt_of_lt_of_le zG hb.size
  replace Xw2 : Hid (Own w11 w1.heap.size w2.heap.size (shNR 4) V Nw2.toList) := Own.below Xw2.out (by have := Zw1.out; have := Zw2.out; have := Zw3.out; have := YS.out; have := Zw4.out; have := Zw5.out; have := Zw6.out; have := YG.out; have := Zw7.out; have := Zw8.out; have := Zw9.out; have := Zw10.out; have := Zw11.out; omega) hb
  replace Xw5 : Hid (Own w11 w4.heap.size w5.heap.size (shNR 69) V Nw5.toList) := Own.below Xw5.out (by have := Zw1.out; have := Zw2.out; have := Zw3.out; have := YS.out; have := Zw4.out; have := Zw5.out; have := Zw6.out; have := YG.out; have := Zw7.out; have := Zw8.out; have := Zw9.out; have := Zw10.out; have := Zw11.out; omega) hb
  replace HB : Hid (Below w.heap.size w w11) := HB.out.trans (hb.mono HB.out.size)
  clear hb
  generalize hq : wtNR V = QW at *
  go_wp2_with (first | (refine wpList_load_mid rfl 33 _ rfl _ _ (by rfl) Nw2.toList _ (bx_range kS) Try.underlying33 rfl JS.out ?_) | (refine wpList_load_mid rfl 33 _ rfl _ _ (by rfl) Nw5.toList _ (bx_range kG) Try.underlying33 rfl JG.out ?_))
  refine (lMarkNR _ V Nw5 1 _ _ _ Xw5.out hVT (by omega) (by omega)).mono ?_
  rw [hq]
  rintro e w12 ⟨rfl, ho, hw⟩
  have Zw12 : Hid (w11.heap.size ≤ w12.heap.size) := hw.size
  replace kS := bx_keep kS (hw.block _ zS (by have := Zw1.out; have := Zw2.out; have := Zw3.out; have := YS.out; have := Zw4.out; have := Zw5.out; have := Zw6.out; have := YG.out; have := Zw7.out; have := Zw8.out; have := Zw9.out; have := Zw10.out; have := Zw11.out; have := Zw12.out; omega))
  replace zS := Nat.lt_of_lt_of_le zS hw.size
  replace kG := bx_keep kG (hw.block _ zG (by have := Zw1.out; have := Zw2.out; have := Zw3.out; have := YS.out; have := Zw4.out; have := Zw5.out; have := Zw6.out; have := YG.out; have := Zw7.out; have := Zw8.out; have := Zw9.out; have := Zw10.out; have := Zw11.out; have := Zw12.out; omega))
  replace zG := Nat.lt_of_lt_of_le zG hw.size
  replace Xw2 : Hid (Own w12 w1.heap.size w2.heap.size (shNR 4) V Nw2.toList) := Own.keep Xw2.out (fun b h1 h2 => hw.block b (by have := Zw1.out; have := Zw2.out; have := Zw3.out; have := YS.out; have := Zw4.out; have := Zw5.out; have := Zw6.out; have := YG.out; have := Zw7.out; have := Zw8.out; have := Zw9.out; have := Zw10.out; have := Zw11.out; have := Zw12.out; omega) (by have := Zw1.out; have := Zw2.out; have := Zw3.out; have := YS.out; have := Zw4.out; have := Zw5.out; have := Zw6.out; have := YG.out; have := Zw7.out; have := Zw8.out; have := Zw9.out; have := Zw10.out; have := Zw11.out; have := Zw12.out; omega))
  replace Xw5 : Hid (Own w12 w4.heap.size w5.heap.size (shNR 69) (mkNR 1 V) Nw5.toList) := ho
  replace HB : Hid (Below w.heap.size w w12) := within_below HB.out hw (by have := Zw1.out; have := Zw2.out; have := Zw3.out; have := YS.out; have := Zw4.out; have := Zw5.out; have := Zw6.out; have := YG.out; have := Zw7.out; have := Zw8.out; have := Zw9.out; have := Zw10.out; have := Zw11.out; have := Zw12.out; omega) HB.out.size
  clear ho hw
  have hm1 : 0 ≤ (1 : Int) + ((QW : Nat) : Int) := by omega
  have hm2 : ¬ ((1 : Int) + ((QW : Nat) : Int) < 0) := by omega
  go_wp2_with (first | (refine wpList_load_mid rfl 33 _ rfl _ _ (by rfl) Nw2.toList _ (bx_range kS) Try.underlying33 rfl JS.out ?_) | (refine wpList_load_mid rfl 33 _ rfl _ _ (by rfl) Nw5.toList _ (bx_range kG) Try.underlying33 rfl JG.out ?_))
  have ch := lHeldNR _ V Nw5 1 _ _ (Xw5.out.rd (Nat.le_refl _)) (Nat.le_refl _) hVT (by omega) (by omega)
  rw [hq] at ch
  refine ch.mono ?_
  rintro e w13 ⟨rfl, hb⟩
  clear ch
  have Zw13 : Hid (w12.heap.size ≤ w13.heap.size) := hb.size
  replace kS := bx_below kS zS hb
  replace zS := Nat.lt_of_lt_of_le zS hb.size
  replace kG := bx_below kG zG hb
  replace zG := Nat.lt_of_lt_of_le zG hb.size
  replace Xw2 : Hid (Own w13 w1.heap.size w2.heap.size (shNR 4) V Nw2.toList) := Own.below Xw2.out (by have := Zw1.out; have := Zw2.out; have := Zw3.out; have := YS.out; have := Zw4.out; have := Zw5.out; have := Zw6.out; have := YG.out; have := Zw7.out; have := Zw8.out; have := Zw9.out; have := Zw10.out; have := Zw11.out; have := Zw12.out; have := Zw13.out; omega) hb
  replace Xw5 : Hid (Own w13 w4.heap.size w5.heap.size (shNR 69) (mkNR 1 V) Nw5.toList) := Own.below Xw5.out (by have := Zw1.out; have := Zw2.out; have := Zw3.out; have := YS.out; have := Zw4.out; have := Zw5.out; have := Zw6.out; have := YG.out; have := Zw7.out; have := Zw8.out; have := Zw9.out; have := Zw10.out; have := Zw11.out; have := Zw12.out; have := Zw13.out; omega) hb
  replace HB : Hid (Below w.heap.size w w13) := HB.out.trans (hb.mono HB.out.size)
  clear hb
  go_wp2_with (first | (refine wpList_load_mid rfl 33 _ rfl _ _ (by rfl) Nw2.toList _ (bx_range kS) Try.underlying33 rfl JS.out ?_) | (refine wpList_load_mid rfl 33 _ rfl _ _ (by rfl) Nw5.toList _ (bx_range kG) Try.underlying33 rfl JG.out ?_))
  refine (lToBools _ l0 (.slice a0 n0 c0) _ w.heap.size (HR0.out _ HB.out) HB.out.size hT0').mono ?_
  rintro e w14 ⟨u, rfl, ho, hb⟩
  obtain ⟨uaw14, ucw14, eu⟩ := row_form (ho.rd (Nat.le_refl _))
  simp only [List.cons.injEq, and_true, HL0.out] at eu
  subst eu
  have Zw14 : Hid (w13.heap.size ≤ w14.heap.size) := hb.size
  replace kS := bx_below kS zS hb
  replace zS := Nat.lt_of_lt_of_le zS hb.size
  replace kG := bx_below kG zG hb
  replace zG := Nat.lt_of_lt_of_le zG hb.size
  replace Xw2 : Hid (Own w14 w1.heap.size w2.heap.size (shNR 4) V Nw2.toList) := Own.below Xw2.out (by have := Zw1.out; have := Zw2.out; have := Zw3.out; have := YS.out; have := Zw4.out; have := Zw5.out; have := Zw6.out; have := YG.out; have := Zw7.out; have := Zw8.out; have := Zw9.out; have := Zw10.out; have := Zw11.out; have := Zw12.out; have := Zw13.out; have := Zw14.out; omega) hb
  replace Xw5 : Hid (Own w14 w4.heap.size w5.heap.size (shNR 69) (mkNR 1 V) Nw5.toList) := Own.below Xw5.out (by have := Zw1.out; have := Zw2.out; have := Zw3.out; have := YS.out; have := Zw4.out; have := Zw5.out; have := Zw6.out; have := YG.out; have := Zw7.out; have := Zw8.out; have := Zw9.out; have := Zw10.out; have := Zw11.out; have := Zw12.out; have := Zw13.out; have := Zw14.out; omega) hb
  replace HB : Hid (Below w.heap.size w w14) := HB.out.trans (hb.mono HB.out.size)
  have Xw14 : Hid (Own w14 w13.heap.size w14.heap.size (bls 4) l0 (#[.slice uaw14 n0 ucw14] : Array Value).toList) := ho
  clear ho
  clear hb
  go_wp2_with (first | (refine wpList_load_mid rfl 33 _ rfl _ _ (by rfl) Nw2.toList _ (bx_range kS) Try.underlying33 rfl JS.out ?_) | (refine wpList_load_mid rfl 33 _ rfl _ _ (by rfl) Nw5.toList _ (bx_range kG) Try.underlying33 rfl JG.out ?_))
  refine (CI.out _ w14.heap.size _ _ (Sh.Rd.mono (by have := Zw1.out; have := Zw2.out; have := Zw3.out; have := YS.out; have := Zw4.out; have := Zw5.out; have := Zw6.out; have := YG.out; have := Zw7.out; have := Zw8.out; have := Zw9.out; have := Zw10.out; have := Zw11.out; have := Zw12.out; have := Zw13.out; have := Zw14.out; omega) _ _ _ (Xw14.out.rd (Nat.le_refl _))) hT0' (Nat.le_refl _)).mono ?_
  rintro e w15 ⟨Nw15, rfl, ho, hb⟩
  have Zw15 : Hid (w14.heap.size ≤ w15.heap.size) := hb.size
  replace kS := bx_below kS zS hb
  replace zS := Nat.lt_of_lt_of_le zS hb.size
  replace kG := bx_below kG zG hb
  replace zG := Nat.lt_of_lt_of_le zG hb.size
  replace Xw2 : Hid (Own w15 w1.heap.size w2.heap.size (shNR 4) V Nw2.toList) := Own.below Xw2.out (by have := Zw1.out; have := Zw2.out; have := Zw3.out; have := YS.out; have := Zw4.out; have := Zw5.out; have := Zw6.out; have := YG.out; have := Zw7.out; have := Zw8.out; have := Zw9.out; have := Zw10.out; have := Zw11.out; have := Zw12.out; have := Zw13.out; have := Zw14.out; have := Zw15.out; omega) hb
  replace Xw5 : Hid (Own w15 w4.heap.size w5.heap.size (shNR 69) (mkNR 1 V) Nw5.toList) := Own.below Xw5.out (by have := Zw1.out; have := Zw2.out; have := Zw3.out; have := YS.out; have := Zw4.out; have := Zw5.out; have := Zw6.out; have := YG.out; have := Zw7.out; have := Zw8.out; have := Zw9.out; have := Zw10.out; have := Zw11.out; have := Zw12.out; have := Zw13.out; have := Zw14.out; have := Zw15.out; omega) hb
  replace Xw14 : Hid (Own w15 w13.heap.size w14.heap.size (bls 4) l0 (#[.slice uaw14 n0 ucw14] : Array Value).toList) := Own.below Xw14.out (by have := Zw1.out; have := Zw2.out; have := Zw3.out; have := YS.out; have := Zw4.out; have := Zw5.out; have := Zw6.out; have := YG.out; have := Zw7.out; have := Zw8.out; have := Zw9.out; have := Zw10.out; have := Zw11.out; have := Zw12.out; have := Zw13.out; have := Zw14.out; have := Zw15.out; omega) hb
  replace HB : Hid (Below w.heap.size w w15) := HB.out.trans (hb.mono HB.out.size)
  have Xw15 : Hid (Own w15 w14.heap.size w15.heap.size (shNR 69) V Nw15.toList) := ho
  clear ho
  clear hb
  clear Xw14
  have hz : Nw15.size = 15 := rd_size (Xw15.out.rd (Nat.le_refl _))
  have IH : Hid ((Try.prog.info? 33).map (·.size) = some Nw15.size) := by show _ = _; rw [hz]; exact (by kernel_rfl : (Try.prog.info? 33).map (·.size) = some 15)
  have JH : Hid ((Try.prog.info? 33).map (·.size) = some Nw15.toList.length) := by show _ = _; rw [Array.length_toList]; exact IH.out
  have HO : Hid (Nw15.all (·.oneCell') = true) := rd_all (Xw15.out.rd (Nat.le_refl _))
  have HX := HBX.out w15 Nw15 hz
  have HTH : Hid _ := HX.2.2.2
  have HX2 : Hid _ := HX
  clear HX hz
  go_upto_region 23 with (refine wpList_store_mid rfl 33 _ _ rfl _ _ Nw15 (by rfl) (by rfl) HTH.out IH.out HO.out ?_)
  clear HTH HO
  generalize hWW : (w15.alloc (.cells #[.int .i64 0, .int .i64 0, .int .i64 0, .bool false, .bool false, .bool false, .int .i64 0, .int .i64 0, .int .i64 0, .int .i64 0, .int .i64 0, .int .i64 0, .slice none 0 0, .slice none 0 0, .slice none 0 0] 33)).setCells w15.heap.size 0 Nw15.toList = w16 at HX2 ⊢
  obtain ⟨zH, hb, kH, -⟩ := HX2.out
  clear hWW HX2 IH
  have Zw16 : Hid (w15.heap.size ≤ w16.heap.size) := hb.size
  replace kS := bx_below kS zS hb
  replace zS := Nat.lt_of_lt_of_le zS hb.size
  replace kG := bx_below kG zG hb
  replace zG := Nat.lt_of_lt_of_le zG hb.size
  replace Xw2 : Hid (Own w16 w1.heap.size w2.heap.size (shNR 4) V Nw2.toList) := Own.below Xw2.out (by have := Zw1.out; have := Zw2.out; have := Zw3.out; have := YS.out; have := Zw4.out; have := Zw5.out; have := Zw6.out; have := YG.out; have := Zw7.out; have := Zw8.out; have := Zw9.out; have := Zw10.out; have := Zw11.out; have := Zw12.out; have := Zw13.out; have := Zw14.out; have := Zw15.out; have := Zw16.out; omega) hb
  replace Xw5 : Hid (Own w16 w4.heap.size w5.heap.size (shNR 69) (mkNR 1 V) Nw5.toList) := Own.below Xw5.out (by have := Zw1.out; have := Zw2.out; have := Zw3.out; have := YS.out; have := Zw4.out; have := Zw5.out; have := Zw6.out; have := YG.out; have := Zw7.out; have := Zw8.out; have := Zw9.out; have := Zw10.out; have := Zw11.out; have := Zw12.out; have := Zw13.out; have := Zw14.out; have := Zw15.out; have := Zw16.out; omega) hb
  replace Xw15 : Hid (Own w16 w14.heap.size w15.heap.size (shNR 69) V Nw15.toList) := Own.below Xw15.out (by have := Zw1.out; have := Zw2.out; have := Zw3.out; have := YS.out; have := Zw4.out; have := Zw5.out; have := Zw6.out; have := YG.out; have := Zw7.out; have := Zw8.out; have := Zw9.out; have := Zw10.out; have := Zw11.out; have := Zw12.out; have := Zw13.out; have := Zw14.out; have := Zw15.out; have := Zw16.out; omega) hb
  replace HB : Hid (Below w.heap.size w w16) := HB.out.trans (hb.mono HB.out.size)
  have YH : Hid (w15.heap.size < w16.heap.size) := zH
  clear hb
  go_wp2_with (first | (refine wpList_load_mid rfl 33 _ rfl _ _ (by rfl) Nw2.toList _ (bx_range kS) Try.underlying33 rfl JS.out ?_) | (refine wpList_load_mid rfl 33 _ rfl _ _ (by rfl) Nw5.toList _ (bx_range kG) Try.underlying33 rfl JG.out ?_) | (refine wpList_load_mid rfl 33 _ rfl _ _ (by rfl) Nw15.toList _ (bx_range kH) Try.underlying33 rfl JH.out ?_))
  refine (lEqNR _ _ V Nw15 Nw2 _ _ (Xw15.out.rd (Nat.le_refl _)) (Xw2.out.rd (Nat.le_refl _)) (Nat.le_refl _) hVT).mono ?_
  rintro e w17 ⟨rfl, hb⟩
  have Zw17 : Hid (w16.heap.size ≤ w17.heap.size) := hb.size
  replace kS := bx_below kS zS hb
  replace zS := Nat.lt_of_lt_of_le zS hb.size
  replace kG := bx_below kG zG hb
  replace zG := Nat.lt_of_lt_of_le zG hb.size
  replace kH := bx_below kH zH hb
  replace zH := Nat.lt_of_lt_of_le zH hb.size
  replace Xw2 : Hid (Own w17 w1.heap.size w2.heap.size (shNR 4) V Nw2.toList) := Own.below Xw2.out (by have := Zw1.out; have := Zw2.out; have := Zw3.out; have := YS.out; have := Zw4.out; have := Zw5.out; have := Zw6.out; have := YG.out; have := Zw7.out; have := Zw8.out; have := Zw9.out; have := Zw10.out; have := Zw11.out; have := Zw12.out; have := Zw13.out; have := Zw14.out; have := Zw15.out; have := Zw16.out; have := YH.out; have := Zw17.out; omega) hb
  replace Xw5 : Hid (Own w17 w4.heap.size w5.heap.size (shNR 69) (mkNR 1 V) Nw5.toList) := Own.below Xw5.out (by have := Zw1.out; have := Zw2.out; have := Zw3.out; have := YS.out; have := Zw4.out; have := Zw5.out; have := Zw6.out; have := YG.out; have := Zw7.out; have := Zw8.out; have := Zw9.out; have := Zw10.out; have := Zw11.out; have := Zw12.out; have := Zw13.out; have := Zw14.out; have := Zw15.out; have := Zw16.out; have := YH.out; have := Zw17.out; omega) hb
  replace Xw15 : Hid (Own w17 w14.heap.size w15.heap.size (shNR 69) V Nw15.toList) := Own.below Xw15.out (by have := Zw1.out; have := Zw2.out; have := Zw3.out; have := YS.out; have := Zw4.out; have := Zw5.out; have := Zw6.out; have := YG.out; have := Zw7.out; have := Zw8.out; have := Zw9.out; have := Zw10.out; have := Zw11.out; have := Zw12.out; have := Zw13.out; have := Zw14.out; have := Zw15.out; have := Zw16.out; have := YH.out; have := Zw17.out; omega) hb
  replace HB : Hid (Below w.heap.size w w17) := HB.out.trans (hb.mono HB.out.size)
  clear hb
  go_wp2_with (first | (refine wpList_load_mid rfl 33 _ rfl _ _ (by rfl) Nw2.toList _ (bx_range kS) Try.underlying33 rfl JS.out ?_) | (refine wpList_load_mid rfl 33 _ rfl _ _ (by rfl) Nw5.toList _ (bx_range kG) Try.underlying33 rfl JG.out ?_) | (refine wpList_load_mid rfl 33 _ rfl _ _ (by rfl) Nw15.toList _ (bx_range kH) Try.underlying33 rfl JH.out ?_))
  have ch := lHeldNR _ V Nw5 1 _ _ (Xw5.out.rd (Nat.le_refl _)) (Nat.le_refl _) hVT (by omega) (by omega)
  rw [hq] at ch
  refine ch.mono ?_
  rintro e w18 ⟨rfl, hb⟩
  clear ch
  have Zw18 : Hid (w17.heap.size ≤ w18.heap.size) := hb.size
  replace kS := bx_below kS zS hb
  replace zS := Nat.lt_of_lt_of_le zS hb.size
  replace kG := bx_below kG zG hb
  replace zG := Nat.lt_of_lt_of_le zG hb.size
  replace kH := bx_below kH zH hb
  replace zH := Nat.lt_of_lt_of_le zH hb.size
  replace Xw2 : Hid (Own w18 w1.heap.size w2.heap.size (shNR 4) V Nw2.toList) := Own.below Xw2.out (by have := Zw1.out; have := Zw2.out; have := Zw3.out; have := YS.out; have := Zw4.out; have := Zw5.out; have := Zw6.out; have := YG.out; have := Zw7.out; have := Zw8.out; have := Zw9.out; have := Zw10.out; have := Zw11.out; have := Zw12.out; have := Zw13.out; have := Zw14.out; have := Zw15.out; have := Zw16.out; have := YH.out; have := Zw17.out; have := Zw18.out; omega) hb
  replace Xw5 : Hid (Own w18 w4.heap.size w5.heap.size (shNR 69) (mkNR 1 V) Nw5.toList) := Own.below Xw5.out (by have := Zw1.out; have := Zw2.out; have := Zw3.out; have := YS.out; have := Zw4.out; have := Zw5.out; have := Zw6.out; have := YG.out; have := Zw7.out; have := Zw8.out; have := Zw9.out; have := Zw10.out; have := Zw11.out; have := Zw12.out; have := Zw13.out; have := Zw14.out; have := Zw15.out; have := Zw16.out; have := YH.out; have := Zw17.out; have := Zw18.out; omega) hb
  replace Xw15 : Hid (Own w18 w14.heap.size w15.heap.size (shNR 69) V Nw15.toList) := Own.below Xw15.out (by have := Zw1.out; have := Zw2.out; have := Zw3.out; have := YS.out; have := Zw4.out; have := Zw5.out; have := Zw6.out; have := YG.out; have := Zw7.out; have := Zw8.out; have := Zw9.out; have := Zw10.out; have := Zw11.out; have := Zw12.out; have := Zw13.out; have := Zw14.out; have := Zw15.out; have := Zw16.out; have := YH.out; have := Zw17.out; have := Zw18.out; omega) hb
  replace HB : Hid (Below w.heap.size w w18) := HB.out.trans (hb.mono HB.out.size)
  clear hb
  go_wp2_with fail
  go_ret
  exact ⟨rfl, HB.out⟩

set_option maxRecDepth 100000 in
theorem lifted (os : Os) (started : os.Started) (H : Type) (enc : TypeId × Value → H) :
    ReturnsInHanded {} Try.checked os 5 .any (Rows.fnExactNewNetSpec.pre6 enc Try.prog Try.f5 Rows.fnExactNewNetRow.domain false) (Rows.fnExactNewNetSpec.post enc Try.prog Try.f5 false true false false) := by
  refine returnsInHanded_of_change (C := Try.checked) own started (by kernel_rfl) Try.func5
    (ChangeSpec.witness6 (enc := enc) (C := Try.checked) false ⟨#[], #[.slice none 0 0], []⟩ 8 (by kernel_rfl) (by kernel_rfl) (by kernel_rfl) (by kernel_rfl)) ?_
  intro W base args ds gs before hval0 hW hcnd _
  have hval : ∀ (j : Nat) t v, Try.f5.params[j]? = some t → args[j]? = some v → Value.okWide Try.prog W .any base t v := hval0
  have hW' := hW
  obtain ⟨p, q, hA0, hV, rfl, hfz, hnd⟩ := hW
  have hA : DataW.TrodAll enc Try.prog W 0 (fun _ => true) true Try.f5.params.toList args.toList ds p := hA0
  rw [Try.params5] at hA hval
  obtain ⟨v0, vs0, d0, ds0, p0, q0, hargs, rfl, rfl, h0, r0⟩ := trodAll_cons hA
  obtain ⟨rfl, rfl, rfl⟩ := trodAll_nil r0
  obtain rfl : args = #[v0] := by cases args; simp_all
  obtain ⟨rfl, rfl⟩ := trodVars_none hV
  have lt0 : ∀ x ∈ p0, x.block < W.heap.size := by obtain ⟨m, hm⟩ := h0; exact DataW.trod_lt m _ _ _ hm
  have t0 : ∃ n y, DataW.trod enc Try.prog W 0 (fun _ => true) true n 25 v0.cells.toList = some y := by obtain ⟨m, hm⟩ := h0; exact ⟨m, _, hm⟩
  refine (walk enc v0 W base (hval 0 25 v0 rfl rfl) t0).mono fun e W' ⟨he, bel⟩ => ?_
  subst he
  exact ⟨_, rfl, _, _, _, [], _, [], hW', trodAll_mk1 (shut_bool Try.underlying4 _), (trodAll_cons_mk (Below.trod laidOut (by kernel_rfl) (of_decide_eq_true (by kernel_rfl)) h0 bel lt0) trodAll_mk0), rfl, bel.frame _, fun h => by cases h⟩

theorem over : Rows.fnExactNewNetRow.holds Try.pinned (OpenSpec.ofChange Rows.fnExactNewNetSpec) :=
  OpenClaim.holds_of_wide 5 Try.f5 rfl rfl rfl rfl rfl rfl rfl ⟨rfl, rfl, rfl, rfl, rfl⟩ rfl rfl rfl rfl rfl (by kernel_rfl) Try.func5 (by kernel_rfl)
    (of_decide_eq_true (by kernel_rfl)) (by unfold Func.isWrapper; first | (rw [if_pos (by decide +kernel)]; kernel_rfl) | (rw [if_neg (by decide +kernel)]; exact ⟨rfl, rfl⟩))
    (fun os started H enc _ => lifted os started H enc)

theorem proved : Rows.FnExactNewNetSaid := over
#print axioms proved
end Go.Proofs.Ytlfncadngcjdjaa.fnExactNewNet

namespace Go.Proofs.Ytlfncadngcjdjaa
theorem fnExactNewNet_holds : Rows.FnExactNewNetSaid := fnExactNewNet.proved
end Go.Proofs.Ytlfncadngcjdjaa
