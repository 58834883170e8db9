/- Proved: at every world the program's LivePaths answers as its model does, every field; what was handed in is as it was; the answer owns its memory; no condition. -/
import Derived.Test.YteaddhldleeaiaaGreatRows
import Derived.WalkKit
import Derived.ProofKit
import Derived.OpenShut
import Derived.ShutString
import Derived.ChangeOld
import Derived.Below
import Derived.Test.YteaddhldleeaiaaGreatK01
import Derived.Test.YteaddhldleeaiaaGreatK02
import Derived.Test.YteaddhldleeaiaaGreatK03
import Derived.Test.YteaddhldleeaiaaGreatK04
import Derived.Test.YteaddhldleeaiaaGreatK05
import Derived.Test.YteaddhldleeaiaaGreatK06
import Derived.Test.YteaddhldleeaiaaGreatK07
import Derived.Test.YteaddhldleeaiaaGreatK08
import Derived.Test.YteaddhldleeaiaaGreatK09
import Derived.Test.YteaddhldleeaiaaGreatK10
import Derived.Test.YteaddhldleeaiaaGreatK11
import Derived.Test.YteaddhldleeaiaaGreatK12
import Derived.Test.YteaddhldleeaiaaGreatK13
import Derived.Test.YteaddhldleeaiaaGreatK14
import Derived.Test.YteaddhldleeaiaaGreatK15
import Derived.Test.YteaddhldleeaiaaGreatK16
import Derived.Test.YteaddhldleeaiaaGreatK17
import Derived.Test.YteaddhldleeaiaaGreatK18
import Derived.Test.YteaddhldleeaiaaGreatK19
import Derived.Test.YteaddhldleeaiaaGreatK20
import Derived.Test.YteaddhldleeaiaaGreatK64
import Derived.Test.YteaddhldleeaiaaGreatK21
import Derived.Test.YteaddhldleeaiaaGreatK28
import Derived.Test.YteaddhldleeaiaaGreatK42
import Derived.Test.YteaddhldleeaiaaGreatK43
import Derived.Test.YteaddhldleeaiaaGreatK55
import Derived.Test.YteaddhldleeaiaaGreatK56
import Derived.Test.YteaddhldleeaiaaGreatK57
import Derived.Test.YteaddhldleeaiaaGreatK58
import Derived.Test.YteaddhldleeaiaaGreatK59
import Derived.Test.YteaddhldleeaiaaGreatK60
import Derived.Test.YteaddhldleeaiaaGreatK61
import Derived.Test.YteaddhldleeaiaaGreatK62
import Derived.Test.YteaddhldleeaiaaGreatK63
import Derived.Test.YteaddhldleeaiaaGreatK65
import Derived.Test.YteaddhldleeaiaaGreatK68
import Derived.Test.YteaddhldleeaiaaGreatK79
import Derived.Test.YteaddhldleeaiaaGreatK86
import Derived.Test.YteaddhldleeaiaaGreatK87
namespace Go.Proofs.YteaddhldleeaiaaGreat.fnExactLivePaths
open Go.ChangeShapes Go.WideShapes Go.ChangeAt Go.RowKit
set_option linter.unusedVariables false

theorem own : ownKnob Tryz.prog.godebug = none := by kernel_rfl
theorem laidOut : laidOutB Tryz.prog = true := by kernel_rfl


set_option maxHeartbeats 8000000 in
set_option maxRecDepth 8000 in
theorem walk {H : Type} (enc : TypeId × Value → H) (v0 : Value) (w : World) (base : Nat)
    (o0 : Value.okWide Tryz.prog w .any base 29 v0) (t0 : ∃ n y, DataW.trod enc Tryz.prog w 0 (fun _ => true) true n 29 v0.cells.toList = some y) :
    Calls Tryz.prog 3 #[v0] w fun e w' => e = .returned (.bool true) ∧ Below w.heap.size w w' := by
  obtain ⟨g0, A0, rfl, ho⟩ := open_World o0 t0
  clear o0 t0
  have HP : Hid (∀ W, Below w.heap.size w W → shWorld.Rd W w.heap.size g0 A0.toList) := fun W hW => Sh.Rd.below ho (Nat.le_refl _) hW
  have HI0 : Hid ((Tryz.prog.info? 29).map (·.size) = some A0.toList.length) := by show _ = _; rw [Array.length_toList, rd_size ho]; exact (by kernel_rfl : (Tryz.prog.info? 29).map (·.size) = some 6)
  clear ho
  obtain ⟨T0, hT0⟩ : ∃ T : Nat, T = totWorld g0 := ⟨_, rfl⟩
  obtain ⟨V, hV⟩ : ∃ V : DIR, V = livV g0 := ⟨_, rfl⟩
  have CS : Hid (∀ (W : World) (B : Nat) (A : Array Value), shWorld.Rd W B g0 A.toList → B ≤ W.heap.size → totWorld g0 ≤ 1048576 → Calls Tryz.prog 6 #[.agg A] W fun e w' => ∃ N : Array Value, e = .returned (.agg N) ∧ Own w' W.heap.size w'.heap.size shIR V N.toList ∧ Below W.heap.size W w') := fun W B A h1 h2 h3 => by rw [hV]; exact sLivePaths g0 A W B h1 h2 h3 (worldF_wfL _)
  have CI : Hid (∀ (W : World) (B : Nat) (A : Array Value), shWorld.Rd W B g0 A.toList → B ≤ W.heap.size → totWorld g0 ≤ 1048576 → Calls Tryz.prog 8 #[.agg A] W fun e w' => ∃ N : Array Value, e = .returned (.agg N) ∧ Own w' W.heap.size w'.heap.size shIR V N.toList ∧ Below W.heap.size W w') := fun W B A h1 h2 h3 => by rw [hV]; exact iLivePaths g0 A W B h1 h2 h3 (worldF_wfL _)
  have VT : Hid (totWorld g0 ≤ 1048576 → totIR V ≤ 1048576) := fun h => by rw [hV]; exact livV_tot _
  have HBX : Hid (∀ (W : World) (N : Array Value), N.size = 2 → W.heap.size < ((W.alloc (.cells #[.int .i64 0, .slice none 0 0] 33)).setCells W.heap.size 0 N.toList).heap.size ∧ Below W.heap.size W ((W.alloc (.cells #[.int .i64 0, .slice none 0 0] 33)).setCells W.heap.size 0 N.toList) ∧ (∀ o, ((W.alloc (.cells #[.int .i64 0, .slice none 0 0] 33)).setCells W.heap.size 0 N.toList).cell? ⟨W.heap.size, o, none⟩ = N[o]?) ∧ (W.alloc (.cells #[.int .i64 0, .slice none 0 0] 33)).there W.heap.size 0 N.size) := fun W N hz => ⟨by rw [setCells_size]; simp, setCells_below (Nat.le_refl _) _ _ _ _ ((Below.refl _ _).alloc (Nat.le_refl _) _), bx_setCells (bx_al W _ _) (by rw [hz]; rfl), bx_there (bx_al _ _ _) (fx_al _ _ _) (by rw [hz]; rfl)⟩
  have HBC : Hid (∀ (W : World) (N : Array Value), N.size = 6 → W.heap.size < ((W.alloc (.cells #[.int .i64 0, .slice none 0 0, .slice none 0 0, .slice none 0 0, .slice none 0 0, .slice none 0 0] 40)).setCells W.heap.size 0 N.toList).heap.size ∧ Below W.heap.size W ((W.alloc (.cells #[.int .i64 0, .slice none 0 0, .slice none 0 0, .slice none 0 0, .slice none 0 0, .slice none 0 0] 40)).setCells W.heap.size 0 N.toList) ∧ (∀ o, ((W.alloc (.cells #[.int .i64 0, .slice none 0 0, .slice none 0 0, .slice none 0 0, .slice none 0 0, .slice none 0 0] 40)).setCells W.heap.size 0 N.toList).cell? ⟨W.heap.size, o, none⟩ = N[o]?) ∧ (W.alloc (.cells #[.int .i64 0, .slice none 0 0, .slice none 0 0, .slice none 0 0, .slice none 0 0, .slice none 0 0] 40)).there W.heap.size 0 N.size) := fun W N hz => ⟨by rw [setCells_size]; simp, setCells_below (Nat.le_refl _) _ _ _ _ ((Below.refl _ _).alloc (Nat.le_refl _) _), bx_setCells (bx_al W _ _) (by rw [hz]; rfl), bx_there (bx_al _ _ _) (fx_al _ _ _) (by rw [hz]; rfl)⟩
  clear hV
  by_cases hbig : (1048576 : Int) < (T0 : Int)
  · have hskip := trivial
    go_enter Tryz.func3, Tryz.ntmps3
    have k0 := bx_al w A0 29
    go_wp2_with (first | (refine wpList_load_mid rfl 29 _ rfl _ _ (by rfl) A0.toList _ (bx_range k0) Tryz.underlying29 rfl HI0.out ?_))
    have c := fun W R hB => lSzWorld g0 A0 1048576 W w.heap.size R hB (by omega) (by omega)
    rw [← hT0, if_pos (show (1048576 : Int) < (T0 : Int) by omega)] at c
    refine (c _ (HP.out _ ((Below.refl _ _).alloc (Nat.le_refl _) _)) (by simp)).mono ?_
    rintro e w1 ⟨rfl, hb⟩
    clear c
    replace k0 := bx_new hb
    obtain ⟨hb, z0⟩ := bl_new hb
    have HB : Hid (Below w.heap.size w w1) := hb
    clear hb
    go_wp2_with fail
    go_ret
    exact ⟨rfl, HB.out⟩
  go_enter Tryz.func3, Tryz.ntmps3
  have k0 := bx_al w A0 29
  go_wp2_with (first | (refine wpList_load_mid rfl 29 _ rfl _ _ (by rfl) A0.toList _ (bx_range k0) Tryz.underlying29 rfl HI0.out ?_))
  have c := fun W R hB => lSzWorld g0 A0 1048576 W w.heap.size R hB (by omega) (by omega)
  rw [← hT0, if_neg (show ¬ ((1048576 : Int) < (T0 : Int)) by omega)] at c
  refine (c _ (HP.out _ ((Below.refl _ _).alloc (Nat.le_refl _) _)) (by simp)).mono ?_
  rintro e w1 ⟨rfl, hb⟩
  clear c
  replace k0 := bx_new hb
  obtain ⟨hb, z0⟩ := bl_new hb
  have HB : Hid (Below w.heap.size w w1) := hb
  clear hb
  have hrest : ¬ ((1048576 : Int) - (T0 : Int) < 0) := by omega
  have hTT : totWorld g0 ≤ 1048576 := by omega
  have hVT := VT.out hTT
  have hwt : wtIR V ≤ 16777216 := wtIR_le hVT
  have Zw1 : Hid (w.heap.size < w1.heap.size) := z0
  go_wp2_with (first | (refine wpList_load_mid rfl 29 _ rfl _ _ (by rfl) A0.toList _ (bx_range k0) Tryz.underlying29 rfl HI0.out ?_))
  refine (lToWorld g0 A0 _ w.heap.size (HP.out _ HB.out) HB.out.size hTT).mono ?_
  rintro e w2 ⟨Aw2, rfl, ho, hb⟩
  have Zw2 : Hid (w1.heap.size ≤ w2.heap.size) := hb.size
  replace k0 := bx_below k0 z0 hb
  replace z0 := Nat.lt_of_lt_of_le z0 hb.size
  replace HB : Hid (Below w.heap.size w w2) := HB.out.trans (hb.mono HB.out.size)
  have Xw2 : Hid (Own w2 w1.heap.size w2.heap.size shWorld g0 Aw2.toList) := ho
  clear ho
  clear hb
  go_wp2_with fail
  refine (CS.out _ _ Aw2 (Xw2.out.rd (Nat.le_refl _)) (Nat.le_refl _) hTT).mono ?_
  rintro e w3 ⟨Nw3, rfl, ho, hb⟩
  have Zw3 : Hid (w2.heap.size ≤ w3.heap.size) := hb.size
  replace k0 := bx_below k0 z0 hb
  replace z0 := Nat.lt_of_lt_of_le z0 hb.size
  replace Xw2 : Hid (Own w3 w1.heap.size w2.heap.size shWorld g0 Aw2.toList) := Own.below Xw2.out (by have := Zw1.out; have := Zw2.out; have := Zw3.out; omega) hb
  replace HB : Hid (Below w.heap.size w w3) := HB.out.trans (hb.mono HB.out.size)
  have Xw3 : Hid (Own w3 w2.heap.size w3.heap.size shIR V Nw3.toList) := ho
  clear ho
  clear hb
  clear Xw2 CS
  have hz : Nw3.size = 2 := rd_size (Xw3.out.rd (Nat.le_refl _))
  have IS : Hid ((Tryz.prog.info? 33).map (·.size) = some Nw3.size) := by show _ = _; rw [hz]; exact (by kernel_rfl : (Tryz.prog.info? 33).map (·.size) = some 2)
  have JS : Hid ((Tryz.prog.info? 33).map (·.size) = some Nw3.toList.length) := by show _ = _; rw [Array.length_toList]; exact IS.out
  have HO : Hid (Nw3.all (·.oneCell') = true) := rd_all (Xw3.out.rd (Nat.le_refl _))
  have HX := HBX.out w3 Nw3 hz
  have HTH : Hid _ := HX.2.2.2
  have HX2 : Hid _ := HX
  clear HX hz
  go_upto_region 6 with (refine wpList_store_mid rfl 33 _ _ rfl _ _ Nw3 (by rfl) (by rfl) HTH.out IS.out HO.out ?_)
  clear HTH HO
  generalize hWW : (w3.alloc (.cells #[.int .i64 0, .slice none 0 0] 33)).setCells w3.heap.size 0 Nw3.toList = w4 at HX2 ⊢
  obtain ⟨zS, hb, kS, -⟩ := HX2.out
  clear hWW HX2 IS
  have Zw4 : Hid (w3.heap.size ≤ w4.heap.size) := hb.size
  replace k0 := bx_below k0 z0 hb
  replace z0 := Nat.lt_of_lt_of_le z0 hb.size
  replace Xw3 : Hid (Own w4 w2.heap.size w3.heap.size shIR V Nw3.toList) := Own.below Xw3.out (by have := Zw1.out; have := Zw2.out; have := Zw3.out; have := Zw4.out; omega) hb
  replace HB : Hid (Below w.heap.size w w4) := HB.out.trans (hb.mono HB.out.size)
  have YS : Hid (w3.heap.size < w4.heap.size) := zS
  clear hb
  go_wp2_with (first | (refine wpList_load_mid rfl 29 _ rfl _ _ (by rfl) A0.toList _ (bx_range k0) Tryz.underlying29 rfl HI0.out ?_) | (refine wpList_load_mid rfl 33 _ rfl _ _ (by rfl) Nw3.toList _ (bx_range kS) Tryz.underlying33 rfl JS.out ?_))
  refine (lToWorld g0 A0 _ w.heap.size (HP.out _ HB.out) HB.out.size hTT).mono ?_
  rintro e w5 ⟨Aw5, rfl, ho, hb⟩
  have Zw5 : Hid (w4.heap.size ≤ w5.heap.size) := hb.size
  replace k0 := bx_below k0 z0 hb
  replace z0 := Nat.lt_of_lt_of_le z0 hb.size
  replace kS := bx_below kS zS hb
  replace zS := Nat.lt_of_lt_of_le zS hb.size
  replace Xw3 : Hid (Own w5 w2.heap.size w3.heap.size shIR V Nw3.toList) := Own.below Xw3.out (by have := Zw1.out; have := Zw2.out; have := Zw3.out; have := Zw4.out; have := YS.out; have := Zw5.out; omega) hb
  replace HB : Hid (Below w.heap.size w w5) := HB.out.trans (hb.mono HB.out.size)
  have Xw5 : Hid (Own w5 w4.heap.size w5.heap.size shWorld g0 Aw5.toList) := ho
  clear ho
  clear hb
  have hz : Aw5.size = 6 := rd_size (Xw5.out.rd (Nat.le_refl _))
  have IX : Hid ((Tryz.prog.info? 40).map (·.size) = some Aw5.size) := by show _ = _; rw [hz]; exact (by kernel_rfl : (Tryz.prog.info? 40).map (·.size) = some 6)
  have JX : Hid ((Tryz.prog.info? 40).map (·.size) = some Aw5.toList.length) := by show _ = _; rw [Array.length_toList]; exact IX.out
  have HO : Hid (Aw5.all (·.oneCell') = true) := rd_all (Xw5.out.rd (Nat.le_refl _))
  have HX := HBC.out w5 Aw5 hz
  have HTH : Hid _ := HX.2.2.2
  have HX2 : Hid _ := HX
  clear HX hz
  go_upto_region 7 with (refine wpList_store_mid rfl 40 _ _ rfl _ _ Aw5 (by rfl) (by rfl) HTH.out IX.out HO.out ?_)
  clear HTH HO
  generalize hWW : (w5.alloc (.cells #[.int .i64 0, .slice none 0 0, .slice none 0 0, .slice none 0 0, .slice none 0 0, .slice none 0 0] 40)).setCells w5.heap.size 0 Aw5.toList = w6 at HX2 ⊢
  obtain ⟨zX, hb, kX, -⟩ := HX2.out
  clear hWW HX2 IX
  have Zw6 : Hid (w5.heap.size ≤ w6.heap.size) := hb.size
  replace k0 := bx_below k0 z0 hb
  replace z0 := Nat.lt_of_lt_of_le z0 hb.size
  replace kS := bx_below kS zS hb
  replace zS := Nat.lt_of_lt_of_le zS hb.size
  replace Xw3 : Hid (Own w6 w2.heap.size w3.heap.size shIR V Nw3.toList) := Own.below Xw3.out (by have := Zw1.out; have := Zw2.out; have := Zw3.out; have := Zw4.out; have := YS.out; have := Zw5.out; have := Zw6.out; omega) hb
  replace Xw5 : Hid (Own w6 w4.heap.size w5.heap.size shWorld g0 Aw5.toList) := Own.below Xw5.out (by have := Zw1.out; have := Zw2.out; have := Zw3.out; have := Zw4.out; have := YS.out; have := Zw5.out; have := Zw6.out; omega) hb
  replace HB : Hid (Below w.heap.size w w6) := HB.out.trans (hb.mono HB.out.size)
  have YX : Hid (w5.heap.size < w6.heap.size) := zX
  clear hb
  go_wp2_with (first | (refine wpList_load_mid rfl 29 _ rfl _ _ (by rfl) A0.toList _ (bx_range k0) Tryz.underlying29 rfl HI0.out ?_) | (refine wpList_load_mid rfl 33 _ rfl _ _ (by rfl) Nw3.toList _ (bx_range kS) Tryz.underlying33 rfl JS.out ?_) | (refine wpList_load_mid rfl 40 _ rfl _ _ (by rfl) Aw5.toList _ (bx_range kX) Tryz.underlying40 rfl JX.out ?_))
  refine (CI.out _ _ Aw5 (Xw5.out.rd (Nat.le_refl _)) (Nat.le_refl _) hTT).mono ?_
  rintro e w7 ⟨Nw7, rfl, ho, hb⟩
  have Zw7 : Hid (w6.heap.size ≤ w7.heap.size) := hb.size
  replace k0 := bx_below k0 z0 hb
  replace z0 := Nat.lt_of_lt_of_le z0 hb.size
  replace kS := bx_below kS zS hb
  replace zS := Nat.lt_of_lt_of_le zS hb.size
  replace kX := bx_below kX zX hb
  replace zX := Nat.lt_of_lt_of_le zX hb.size
  replace Xw3 : Hid (Own w7 w2.heap.size w3.heap.size shIR V Nw3.toList) := Own.below Xw3.out (by have := Zw1.out; have := Zw2.out; have := Zw3.out; have := Zw4.out; have := YS.out; have := Zw5.out; have := Zw6.out; have := YX.out; have := Zw7.out; omega) hb
  replace Xw5 : Hid (Own w7 w4.heap.size w5.heap.size shWorld g0 Aw5.toList) := Own.below Xw5.out (by have := Zw1.out; have := Zw2.out; have := Zw3.out; have := Zw4.out; have := YS.out; have := Zw5.out; have := Zw6.out; have := YX.out; have := Zw7.out; omega) hb
  replace HB : Hid (Below w.heap.size w w7) := HB.out.trans (hb.mono HB.out.size)
  have Xw7 : Hid (Own w7 w6.heap.size w7.heap.size shIR V Nw7.toList) := ho
  clear ho
  clear hb
  have hz : Nw7.size = 2 := rd_size (Xw7.out.rd (Nat.le_refl _))
  have IG : Hid ((Tryz.prog.info? 33).map (·.size) = some Nw7.size) := by show _ = _; rw [hz]; exact (by kernel_rfl : (Tryz.prog.info? 33).map (·.size) = some 2)
  have JG : Hid ((Tryz.prog.info? 33).map (·.size) = some Nw7.toList.length) := by show _ = _; rw [Array.length_toList]; exact IG.out
  have HO : Hid (Nw7.all (·.oneCell') = true) := rd_all (Xw7.out.rd (Nat.le_refl _))
  have HX := HBX.out w7 Nw7 hz
  have HTH : Hid _ := HX.2.2.2
  have HX2 : Hid _ := HX
  clear HX hz
  go_upto_region 8 with (refine wpList_store_mid rfl 33 _ _ rfl _ _ Nw7 (by rfl) (by rfl) HTH.out IG.out HO.out ?_)
  clear HTH HO
  generalize hWW : (w7.alloc (.cells #[.int .i64 0, .slice none 0 0] 33)).setCells w7.heap.size 0 Nw7.toList = w8 at HX2 ⊢
  obtain ⟨zG, hb, kG, -⟩ := HX2.out
  clear hWW HX2 IG
  have Zw8 : Hid (w7.heap.size ≤ w8.heap.size) := hb.size
  replace k0 := bx_below k0 z0 hb
  replace z0 := Nat.lt_of_lt_of_le z0 hb.size
  replace kS := bx_below kS zS hb
  replace zS := Nat.lt_of_lt_of_le zS hb.size
  replace kX := bx_below kX zX hb
  replace zX := Nat.lt_of_lt_of_le zX hb.size
  replace Xw3 : Hid (Own w8 w2.heap.size w3.heap.size shIR V Nw3.toList) := Own.below Xw3.out (by have := Zw1.out; have := Zw2.out; have := Zw3.out; have := Zw4.out; have := YS.out; have := Zw5.out; have := Zw6.out; have := YX.out; have := Zw7.out; have := Zw8.out; omega) hb
  replace Xw5 : Hid (Own w8 w4.heap.size w5.heap.size shWorld g0 Aw5.toList) := Own.below Xw5.out (by have := Zw1.out; have := Zw2.out; have := Zw3.out; have := Zw4.out; have := YS.out; have := Zw5.out; have := Zw6.out; have := YX.out; have := Zw7.out; have := Zw8.out; omega) hb
  replace Xw7 : Hid (Own w8 w6.heap.size w7.heap.size shIR V Nw7.toList) := Own.below Xw7.out (by have := Zw1.out; have := Zw2.out; have := Zw3.out; have := Zw4.out; have := YS.out; have := Zw5.out; have := Zw6.out; have := YX.out; have := Zw7.out; have := Zw8.out; omega) hb
  replace HB : Hid (Below w.heap.size w w8) := HB.out.trans (hb.mono HB.out.size)
  have YG : Hid (w7.heap.size < w8.heap.size) := zG
  clear hb
  go_wp2_with (first | (refine wpList_load_mid rfl 29 _ rfl _ _ (by rfl) A0.toList _ (bx_range k0) Tryz.underlying29 rfl HI0.out ?_) | (refine wpList_load_mid rfl 33 _ rfl _ _ (by rfl) Nw3.toList _ (bx_range kS) Tryz.underlying33 rfl JS.out ?_) | (refine wpList_load_mid rfl 40 _ rfl _ _ (by rfl) Aw5.toList _ (bx_range kX) Tryz.underlying40 rfl JX.out ?_) | (refine wpList_load_mid rfl 33 _ rfl _ _ (by rfl) Nw7.toList _ (bx_range kG) Tryz.underlying33 rfl JG.out ?_))
  refine (lEqIR V Nw7 Nw3 _ _ (Xw7.out.rd (Nat.le_refl _)) (Xw3.out.rd (Nat.le_refl _)) (Nat.le_refl _) hVT).mono ?_
  rintro e w9 ⟨rfl, hb⟩
  have Zw9 : Hid (w8.heap.size ≤ w9.heap.size) := hb.size
  replace k0 := bx_below k0 z0 hb
  replace z0 := Nat.lt_of_lt_of_le z0 hb.size
  replace kS := bx_below kS zS hb
  replace zS := Nat.lt_of_lt_of_le zS hb.size
  replace kX := bx_below kX zX hb
  replace zX := Nat.lt_of_lt_of_le zX hb.size
  replace kG := bx_below kG zG hb
  replace zG := Nat.lt_of_lt_of_le zG hb.size
  replace Xw3 : Hid (Own w9 w2.heap.size w3.heap.size shIR V Nw3.toList) := Own.below Xw3.out (by have := Zw1.out; have := Zw2.out; have := Zw3.out; have := Zw4.out; have := YS.out; have := Zw5.out; have := Zw6.out; have := YX.out; have := Zw7.out; have := Zw8.out; have := YG.out; have := Zw9.out; omega) hb
  replace Xw5 : Hid (Own w9 w4.heap.size w5.heap.size shWorld g0 Aw5.toList) := Own.below Xw5.out (by have := Zw1.out; have := Zw2.out; have := Zw3.out; have := Zw4.out; have := YS.out; have := Zw5.out; have := Zw6.out; have := YX.out; have := Zw7.out; have := Zw8.out; have := YG.out; have := Zw9.out; omega) hb
  replace Xw7 : Hid (Own w9 w6.heap.size w7.heap.size shIR V Nw7.toList) := Own.below Xw7.out (by have := Zw1.out; have := Zw2.out; have := Zw3.out; have := Zw4.out; have := YS.out; have := Zw5.out; have := Zw6.out; have := YX.out; have := Zw7.out; have := Zw8.out; have := YG.out; have := Zw9.out; omega) hb
  replace HB : Hid (Below w.heap.size w w9) := HB.out.trans (hb.mono HB.out.size)
  clear hb
  have HXO : Hid (∀ W, Below w9.heap.size w9 W → shWorld.Rd W w9.heap.size g0 Aw5.toList) := fun W hW => Sh.Rd.below (Xw5.out.rd (Nat.le_refl _)) (Nat.le_refl _) hW
  go_upto_region 10 with fail
  go_cut [31] (fun u wx => u = .bool false ∧ Hid (Below w9.heap.size w9 wx))
  case first =>
    refine wp_region_noPanic ?_
    refine Goes.start (S := fun w' => Below w9.heap.size w9 w') (z := 100) (by kernel_rfl) ?_
    refine Goes.take (i := 0) (oi := ?oi2) (x := .agg (Aw5.toList).toArray) ?ho2 (by kernel_rfl) (by kernel_rfl) (by kernel_rfl) (by kernel_rfl) (fun _ _ _ h => h) ?hy2 (Below.drew (Below.refl _ _)) ?rest2
    case ho2 => (simp only [List.getElem?_toArray, List.getElem?_cons_zero] <;> rfl)
    case hy2 => exact yieldsIf_load_mid (by rfl) 40 _ rfl (w5.heap.size) (0) (by rfl) (Aw5.toList) _ (fun w' hSw => bx_range (fun o => (hSw.cell (p := ⟨w5.heap.size, o, none⟩) zX).trans (kX o))) Tryz.underlying40 rfl JX.out
    case rest2 =>
    (try simp only [Act.put, List.setIfInBounds_toArray, List.set_cons_zero, List.set_cons_succ])
    refine Goes.take (i := 1) (oi := ?oi3) (x := .agg (A0.toList).toArray) ?ho3 (by kernel_rfl) (by kernel_rfl) (by kernel_rfl) (by kernel_rfl) (fun _ _ _ h => h) ?hy3 (Below.drew (Below.refl _ _)) ?rest3
    case ho3 => (simp only [List.getElem?_toArray, List.getElem?_cons_succ, List.getElem?_cons_zero] <;> rfl)
    case hy3 => exact yieldsIf_load_mid (by rfl) 29 _ rfl (w.heap.size) (0) (by rfl) (A0.toList) _ (fun w' hSw => bx_range (fun o => (hSw.cell (p := ⟨w.heap.size, o, none⟩) z0).trans (k0 o))) Tryz.underlying29 rfl HI0.out
    case rest3 =>
    (try simp only [Act.put, List.setIfInBounds_toArray, List.set_cons_zero, List.set_cons_succ])
    refine Goes.all (rs := [2]) (by kernel_rfl) (by simp) ?_
    refine Ups.cons (i := 2) (o := ?oo4) ?ho4 (fun KK hKK => ?stp4) Ups.nil
    case ho4 => (simp only [List.getElem?_toArray, List.getElem?_cons_succ, List.getElem?_cons_zero] <;> rfl)
    case stp4 =>
    go_simp
    go_at_call 7
    refine (lToWorld g0 A0 _ w.heap.size (HP.out _ (HB.out.trans (Below.drew (Below.refl _ _)))) HB.out.size hTT).mono ?_
    rintro e wq8 ⟨A8, rfl, ho, hbq⟩
    have X8 : Hid (shWorld.Rd wq8 wq8.heap.size g0 A8.toList) := ho.rd (Nat.le_refl _)
    replace hbq := (Below.drew (Below.refl w9.heap.size w9)).trans hbq
    have HS8 : Hid (Below w9.heap.size w9 wq8) := hbq
    clear hbq ho
    dsimp only
    refine hKK.out _ _ (Or.inr HS8.out) ?_
    clear hKK KK
    (try simp only [Act.put, List.setIfInBounds_toArray, List.set_cons_zero, List.set_cons_succ])
    refine Goes.all (rs := [3]) (by kernel_rfl) (by simp) ?_
    refine Ups.cons (i := 3) (o := ?oo5) ?ho5 (fun KK hKK => ?stp5) Ups.nil
    case ho5 => (simp only [List.getElem?_toArray, List.getElem?_cons_succ, List.getElem?_cons_zero] <;> rfl)
    case stp5 =>
    go_simp
    go_at_call 10
    refine (lEqWorld g0 Aw5 A8 _ wq8.heap.size (Sh.Rd.mono HS8.out.size _ _ _ (HXO.out _ HS8.out)) X8.out (Nat.le_refl _) hTT).mono ?_
    rintro e wq9 ⟨rfl, hbq⟩
    replace hbq := HS8.out.trans (hbq.mono HS8.out.size)
    have HS5 : Hid (Below w9.heap.size w9 wq9) := hbq
    clear hbq
    dsimp only
    refine hKK.out _ _ (Or.inr HS5.out) ?_
    clear hKK KK
    (try simp only [Act.put, List.setIfInBounds_toArray, List.set_cons_zero, List.set_cons_succ])
    refine Goes.take (i := 4) (oi := ?oi6) (x := ?vx6) ?ho6 (by kernel_rfl) (by kernel_rfl) (by kernel_rfl) (by kernel_rfl) (fun _ _ _ h => h) (Or.inl ⟨?hw6, ?hy6⟩) HS5.out ?rest6
    case ho6 => (simp only [List.getElem?_toArray, List.getElem?_cons_succ, List.getElem?_cons_zero] <;> rfl)
    case hw6 => rfl
    case hy6 => (intro w' hSw; go_simp; (try with_reducible rfl))
    case rest6 =>
    (try simp only [Act.put, List.setIfInBounds_toArray, List.set_cons_zero, List.set_cons_succ])
    refine Goes.done (by kernel_rfl) ?_ _
    refine NoPanic.normal ?_
    go_wp2_with fail
    go_meet
    exact ⟨rfl, by assumption⟩
  case rest =>
  rename World => w10
  obtain ⟨rfl, hb⟩ := hcut
  replace hb := hb.out
  have Zw10 : Hid (w9.heap.size ≤ w10.heap.size) := hb.size
  replace k0 := bx_below k0 z0 hb
  replace z0 := Nat.lt_of_lt_of_le z0 hb.size
  replace kS := bx_below kS zS hb
  replace zS := Nat.lt_of_lt_of_le zS hb.size
  replace kX := bx_below kX zX hb
  replace zX := Nat.lt_of_lt_of_le zX hb.size
  replace kG := bx_below kG zG hb
  replace zG := Nat.lt_of_lt_of_le zG hb.size
  replace Xw3 : Hid (Own w10 w2.heap.size w3.heap.size shIR V Nw3.toList) := Own.below Xw3.out (by have := Zw1.out; have := Zw2.out; have := Zw3.out; have := Zw4.out; have := YS.out; have := Zw5.out; have := Zw6.out; have := YX.out; have := Zw7.out; have := Zw8.out; have := YG.out; have := Zw9.out; have := Zw10.out; omega) hb
  replace Xw5 : Hid (Own w10 w4.heap.size w5.heap.size shWorld g0 Aw5.toList) := Own.below Xw5.out (by have := Zw1.out; have := Zw2.out; have := Zw3.out; have := Zw4.out; have := YS.out; have := Zw5.out; have := Zw6.out; have := YX.out; have := Zw7.out; have := Zw8.out; have := YG.out; have := Zw9.out; have := Zw10.out; omega) hb
  replace Xw7 : Hid (Own w10 w6.heap.size w7.heap.size shIR V Nw7.toList) := Own.below Xw7.out (by have := Zw1.out; have := Zw2.out; have := Zw3.out; have := Zw4.out; have := YS.out; have := Zw5.out; have := Zw6.out; have := YX.out; have := Zw7.out; have := Zw8.out; have := YG.out; have := Zw9.out; have := Zw10.out; omega) hb
  replace HB : Hid (Below w.heap.size w w10) := HB.out.trans (hb.mono HB.out.size)
  clear hb HXO
  go_wp2_with (first | (refine wpList_load_mid rfl 29 _ rfl _ _ (by rfl) A0.toList _ (bx_range k0) Tryz.underlying29 rfl HI0.out ?_) | (refine wpList_load_mid rfl 33 _ rfl _ _ (by rfl) Nw3.toList _ (bx_range kS) Tryz.underlying33 rfl JS.out ?_) | (refine wpList_load_mid rfl 40 _ rfl _ _ (by rfl) Aw5.toList _ (bx_range kX) Tryz.underlying40 rfl JX.out ?_) | (refine wpList_load_mid rfl 33 _ rfl _ _ (by rfl) Nw7.toList _ (bx_range kG) Tryz.underlying33 rfl JG.out ?_))
  refine (lMarkWorld _ g0 Aw5 1 _ _ _ (Own.worldT Xw5.out) hTT (by omega) (by omega)).mono ?_
  rintro e w11 ⟨rfl, ho, hw⟩
  have Zw11 : Hid (w10.heap.size ≤ w11.heap.size) := hw.size
  replace k0 := bx_keep k0 (hw.block _ z0 (by have := Zw1.out; have := Zw2.out; have := Zw3.out; have := Zw4.out; have := YS.out; have := Zw5.out; have := Zw6.out; have := YX.out; have := Zw7.out; have := Zw8.out; have := YG.out; have := Zw9.out; have := Zw10.out; have := Zw11.out; omega))
  replace z0 := Nat.lt_of_lt_of_le z0 hw.size
  replace kS := bx_keep kS (hw.block _ zS (by have := Zw1.out; have := Zw2.out; have := Zw3.out; have := Zw4.out; have := YS.out; have := Zw5.out; have := Zw6.out; have := YX.out; have := Zw7.out; have := Zw8.out; have := YG.out; have := Zw9.out; have := Zw10.out; have := Zw11.out; omega))
  replace zS := Nat.lt_of_lt_of_le zS hw.size
  replace kX := bx_keep kX (hw.block _ zX (by have := Zw1.out; have := Zw2.out; have := Zw3.out; have := Zw4.out; have := YS.out; have := Zw5.out; have := Zw6.out; have := YX.out; have := Zw7.out; have := Zw8.out; have := YG.out; have := Zw9.out; have := Zw10.out; have := Zw11.out; omega))
  replace zX := Nat.lt_of_lt_of_le zX hw.size
  replace kG := bx_keep kG (hw.block _ zG (by have := Zw1.out; have := Zw2.out; have := Zw3.out; have := Zw4.out; have := YS.out; have := Zw5.out; have := Zw6.out; have := YX.out; have := Zw7.out; have := Zw8.out; have := YG.out; have := Zw9.out; have := Zw10.out; have := Zw11.out; omega))
  replace zG := Nat.lt_of_lt_of_le zG hw.size
  replace Xw3 : Hid (Own w11 w2.heap.size w3.heap.size shIR V Nw3.toList) := Own.keep Xw3.out (fun b h1 h2 => hw.block b (by have := Zw1.out; have := Zw2.out; have := Zw3.out; have := Zw4.out; have := YS.out; have := Zw5.out; have := Zw6.out; have := YX.out; have := Zw7.out; have := Zw8.out; have := YG.out; have := Zw9.out; have := Zw10.out; have := Zw11.out; omega) (by have := Zw1.out; have := Zw2.out; have := Zw3.out; have := Zw4.out; have := YS.out; have := Zw5.out; have := Zw6.out; have := YX.out; have := Zw7.out; have := Zw8.out; have := YG.out; have := Zw9.out; have := Zw10.out; have := Zw11.out; omega))
  replace Xw7 : Hid (Own w11 w6.heap.size w7.heap.size shIR V Nw7.toList) := Own.keep Xw7.out (fun b h1 h2 => hw.block b (by have := Zw1.out; have := Zw2.out; have := Zw3.out; have := Zw4.out; have := YS.out; have := Zw5.out; have := Zw6.out; have := YX.out; have := Zw7.out; have := Zw8.out; have := YG.out; have := Zw9.out; have := Zw10.out; have := Zw11.out; omega) (by have := Zw1.out; have := Zw2.out; have := Zw3.out; have := Zw4.out; have := YS.out; have := Zw5.out; have := Zw6.out; have := YX.out; have := Zw7.out; have := Zw8.out; have := YG.out; have := Zw9.out; have := Zw10.out; have := Zw11.out; omega))
  replace Xw5 : Hid (Own w11 w4.heap.size w5.heap.size (shWorldT 4) (mkWorld 1 g0) Aw5.toList) := ho
  replace HB : Hid (Below w.heap.size w w11) := within_below HB.out hw (by have := Zw1.out; have := Zw2.out; have := Zw3.out; have := Zw4.out; have := YS.out; have := Zw5.out; have := Zw6.out; have := YX.out; have := Zw7.out; have := Zw8.out; have := YG.out; have := Zw9.out; have := Zw10.out; have := Zw11.out; omega) HB.out.size
  clear ho hw
  clear Xw5
  have hk1 : 0 ≤ (1 : Int) + ((wtWorld g0 : Nat) : Int) := by omega
  have hk2 : decide ((1 : Int) + ((wtWorld g0 : Nat) : Int) < 0) = false := by simp; omega
  have hk3 : ¬ ((1 : Int) + ((wtWorld g0 : Nat) : Int) < 0) := by omega
  generalize wtWorld g0 = QQ at *
  go_wp2_with (first | (refine wpList_load_mid rfl 29 _ rfl _ _ (by rfl) A0.toList _ (bx_range k0) Tryz.underlying29 rfl HI0.out ?_) | (refine Go.BigFrame.wpList_want (by rfl) fun KK hKK => wp_load_mid 29 _ rfl _ _ (by rfl) A0.toList _ (bx_range k0) Tryz.underlying29 rfl HI0.out (hKK _ _ ?_); clear hKK KK) | (refine wpList_load_mid rfl 33 _ rfl _ _ (by rfl) Nw3.toList _ (bx_range kS) Tryz.underlying33 rfl JS.out ?_) | (refine Go.BigFrame.wpList_want (by rfl) fun KK hKK => wp_load_mid 33 _ rfl _ _ (by rfl) Nw3.toList _ (bx_range kS) Tryz.underlying33 rfl JS.out (hKK _ _ ?_); clear hKK KK) | (refine wpList_load_mid rfl 40 _ rfl _ _ (by rfl) Aw5.toList _ (bx_range kX) Tryz.underlying40 rfl JX.out ?_) | (refine Go.BigFrame.wpList_want (by rfl) fun KK hKK => wp_load_mid 40 _ rfl _ _ (by rfl) Aw5.toList _ (bx_range kX) Tryz.underlying40 rfl JX.out (hKK _ _ ?_); clear hKK KK) | (refine wpList_load_mid rfl 33 _ rfl _ _ (by rfl) Nw7.toList _ (bx_range kG) Tryz.underlying33 rfl JG.out ?_) | (refine Go.BigFrame.wpList_want (by rfl) fun KK hKK => wp_load_mid 33 _ rfl _ _ (by rfl) Nw7.toList _ (bx_range kG) Tryz.underlying33 rfl JG.out (hKK _ _ ?_); clear hKK KK))
  refine (lEqIR V Nw7 Nw3 _ _ (Xw7.out.rd (Nat.le_refl _)) (Xw3.out.rd (Nat.le_refl _)) (Nat.le_refl _) hVT).mono ?_
  rintro e w12 ⟨rfl, hb⟩
  have Zw12 : Hid (w11.heap.size ≤ w12.heap.size) := hb.size
  replace k0 := bx_below k0 z0 hb
  replace z0 := Nat.lt_of_lt_of_le z0 hb.size
  replace kS := bx_below kS zS hb
  replace zS := Nat.lt_of_lt_of_le zS hb.size
  replace kX := bx_below kX zX hb
  replace zX := Nat.lt_of_lt_of_le zX hb.size
  replace kG := bx_below kG zG hb
  replace zG := Nat.lt_of_lt_of_le zG hb.size
  replace Xw3 : Hid (Own w12 w2.heap.size w3.heap.size shIR V Nw3.toList) := Own.below Xw3.out (by have := Zw1.out; have := Zw2.out; have := Zw3.out; have := Zw4.out; have := YS.out; have := Zw5.out; have := Zw6.out; have := YX.out; have := Zw7.out; have := Zw8.out; have := YG.out; have := Zw9.out; have := Zw10.out; have := Zw11.out; have := Zw12.out; omega) hb
  replace Xw7 : Hid (Own w12 w6.heap.size w7.heap.size shIR V Nw7.toList) := Own.below Xw7.out (by have := Zw1.out; have := Zw2.out; have := Zw3.out; have := Zw4.out; have := YS.out; have := Zw5.out; have := Zw6.out; have := YX.out; have := Zw7.out; have := Zw8.out; have := YG.out; have := Zw9.out; have := Zw10.out; have := Zw11.out; have := Zw12.out; omega) hb
  replace HB : Hid (Below w.heap.size w w12) := HB.out.trans (hb.mono HB.out.size)
  clear hb
  generalize hq : wtIR V = QW at *
  go_wp2_with (first | (refine wpList_load_mid rfl 29 _ rfl _ _ (by rfl) A0.toList _ (bx_range k0) Tryz.underlying29 rfl HI0.out ?_) | (refine wpList_load_mid rfl 33 _ rfl _ _ (by rfl) Nw3.toList _ (bx_range kS) Tryz.underlying33 rfl JS.out ?_) | (refine wpList_load_mid rfl 40 _ rfl _ _ (by rfl) Aw5.toList _ (bx_range kX) Tryz.underlying40 rfl JX.out ?_) | (refine wpList_load_mid rfl 33 _ rfl _ _ (by rfl) Nw7.toList _ (bx_range kG) Tryz.underlying33 rfl JG.out ?_))
  refine (lMarkIR V Nw7 1 _ _ _ Xw7.out (by have := Zw1.out; have := Zw2.out; have := Zw3.out; have := Zw4.out; have := YS.out; have := Zw5.out; have := Zw6.out; have := YX.out; have := Zw7.out; have := Zw8.out; have := YG.out; have := Zw9.out; have := Zw10.out; have := Zw11.out; have := Zw12.out; omega) hVT (by omega) (by omega)).mono ?_
  rw [hq]
  rintro e w13 ⟨rfl, ho, hw⟩
  have Zw13 : Hid (w12.heap.size ≤ w13.heap.size) := hw.size
  replace k0 := bx_keep k0 (hw.block _ z0 (by have := Zw1.out; have := Zw2.out; have := Zw3.out; have := Zw4.out; have := YS.out; have := Zw5.out; have := Zw6.out; have := YX.out; have := Zw7.out; have := Zw8.out; have := YG.out; have := Zw9.out; have := Zw10.out; have := Zw11.out; have := Zw12.out; have := Zw13.out; omega))
  replace z0 := Nat.lt_of_lt_of_le z0 hw.size
  replace kS := bx_keep kS (hw.block _ zS (by have := Zw1.out; have := Zw2.out; have := Zw3.out; have := Zw4.out; have := YS.out; have := Zw5.out; have := Zw6.out; have := YX.out; have := Zw7.out; have := Zw8.out; have := YG.out; have := Zw9.out; have := Zw10.out; have := Zw11.out; have := Zw12.out; have := Zw13.out; omega))
  replace zS := Nat.lt_of_lt_of_le zS hw.size
  replace kX := bx_keep kX (hw.block _ zX (by have := Zw1.out; have := Zw2.out; have := Zw3.out; have := Zw4.out; have := YS.out; have := Zw5.out; have := Zw6.out; have := YX.out; have := Zw7.out; have := Zw8.out; have := YG.out; have := Zw9.out; have := Zw10.out; have := Zw11.out; have := Zw12.out; have := Zw13.out; omega))
  replace zX := Nat.lt_of_lt_of_le zX hw.size
  replace kG := bx_keep kG (hw.block _ zG (by have := Zw1.out; have := Zw2.out; have := Zw3.out; have := Zw4.out; have := YS.out; have := Zw5.out; have := Zw6.out; have := YX.out; have := Zw7.out; have := Zw8.out; have := YG.out; have := Zw9.out; have := Zw10.out; have := Zw11.out; have := Zw12.out; have := Zw13.out; omega))
  replace zG := Nat.lt_of_lt_of_le zG hw.size
  replace Xw3 : Hid (Own w13 w2.heap.size w3.heap.size shIR V Nw3.toList) := Own.keep Xw3.out (fun b h1 h2 => hw.block b (by have := Zw1.out; have := Zw2.out; have := Zw3.out; have := Zw4.out; have := YS.out; have := Zw5.out; have := Zw6.out; have := YX.out; have := Zw7.out; have := Zw8.out; have := YG.out; have := Zw9.out; have := Zw10.out; have := Zw11.out; have := Zw12.out; have := Zw13.out; omega) (by have := Zw1.out; have := Zw2.out; have := Zw3.out; have := Zw4.out; have := YS.out; have := Zw5.out; have := Zw6.out; have := YX.out; have := Zw7.out; have := Zw8.out; have := YG.out; have := Zw9.out; have := Zw10.out; have := Zw11.out; have := Zw12.out; have := Zw13.out; omega))
  replace Xw7 : Hid (Own w13 w6.heap.size w7.heap.size shIR (mkIR 1 V) Nw7.toList) := ho
  replace HB : Hid (Below w.heap.size w w13) := within_below HB.out hw (by have := Zw1.out; have := Zw2.out; have := Zw3.out; have := Zw4.out; have := YS.out; have := Zw5.out; have := Zw6.out; have := YX.out; have := Zw7.out; have := Zw8.out; have := YG.out; have := Zw9.out; have := Zw10.out; have := Zw11.out; have := Zw12.out; have := Zw13.out; omega) HB.out.size
  clear ho hw
  have hm1 : 0 ≤ (1 : Int) + ((QW : Nat) : Int) := by omega
  have hm2 : ¬ ((1 : Int) + ((QW : Nat) : Int) < 0) := by omega
  go_wp2_with (first | (refine wpList_load_mid rfl 29 _ rfl _ _ (by rfl) A0.toList _ (bx_range k0) Tryz.underlying29 rfl HI0.out ?_) | (refine wpList_load_mid rfl 33 _ rfl _ _ (by rfl) Nw3.toList _ (bx_range kS) Tryz.underlying33 rfl JS.out ?_) | (refine wpList_load_mid rfl 40 _ rfl _ _ (by rfl) Aw5.toList _ (bx_range kX) Tryz.underlying40 rfl JX.out ?_) | (refine wpList_load_mid rfl 33 _ rfl _ _ (by rfl) Nw7.toList _ (bx_range kG) Tryz.underlying33 rfl JG.out ?_))
  have ch := lHeldIR V Nw7 1 _ _ (Xw7.out.rd (Nat.le_refl _)) (Nat.le_refl _) hVT (by omega) (by omega)
  rw [hq] at ch
  refine ch.mono ?_
  rintro e w14 ⟨rfl, hb⟩
  clear ch
  have Zw14 : Hid (w13.heap.size ≤ w14.heap.size) := hb.size
  replace k0 := bx_below k0 z0 hb
  replace z0 := Nat.lt_of_lt_of_le z0 hb.size
  replace kS := bx_below kS zS hb
  replace zS := Nat.lt_of_lt_of_le zS hb.size
  replace kX := bx_below kX zX hb
  replace zX := Nat.lt_of_lt_of_le zX hb.size
  replace kG := bx_below kG zG hb
  replace zG := Nat.lt_of_lt_of_le zG hb.size
  replace Xw3 : Hid (Own w14 w2.heap.size w3.heap.size shIR V Nw3.toList) := Own.below Xw3.out (by have := Zw1.out; have := Zw2.out; have := Zw3.out; have := Zw4.out; have := YS.out; have := Zw5.out; have := Zw6.out; have := YX.out; have := Zw7.out; have := Zw8.out; have := YG.out; have := Zw9.out; have := Zw10.out; have := Zw11.out; have := Zw12.out; have := Zw13.out; have := Zw14.out; omega) hb
  replace Xw7 : Hid (Own w14 w6.heap.size w7.heap.size shIR (mkIR 1 V) Nw7.toList) := Own.below Xw7.out (by have := Zw1.out; have := Zw2.out; have := Zw3.out; have := Zw4.out; have := YS.out; have := Zw5.out; have := Zw6.out; have := YX.out; have := Zw7.out; have := Zw8.out; have := YG.out; have := Zw9.out; have := Zw10.out; have := Zw11.out; have := Zw12.out; have := Zw13.out; have := Zw14.out; omega) hb
  replace HB : Hid (Below w.heap.size w w14) := HB.out.trans (hb.mono HB.out.size)
  clear hb
  go_wp2_with (first | (refine wpList_load_mid rfl 29 _ rfl _ _ (by rfl) A0.toList _ (bx_range k0) Tryz.underlying29 rfl HI0.out ?_) | (refine wpList_load_mid rfl 33 _ rfl _ _ (by rfl) Nw3.toList _ (bx_range kS) Tryz.underlying33 rfl JS.out ?_) | (refine wpList_load_mid rfl 40 _ rfl _ _ (by rfl) Aw5.toList _ (bx_range kX) Tryz.underlying40 rfl JX.out ?_) | (refine wpList_load_mid rfl 33 _ rfl _ _ (by rfl) Nw7.toList _ (bx_range kG) Tryz.underlying33 rfl JG.out ?_))
  refine (lToWorld g0 A0 _ w.heap.size (HP.out _ HB.out) HB.out.size hTT).mono ?_
  rintro e w15 ⟨Aw15, rfl, ho, hb⟩
  have Zw15 : Hid (w14.heap.size ≤ w15.heap.size) := hb.size
  replace k0 := bx_below k0 z0 hb
  replace z0 := Nat.lt_of_lt_of_le z0 hb.size
  replace kS := bx_below kS zS hb
  replace zS := Nat.lt_of_lt_of_le zS hb.size
  replace kX := bx_below kX zX hb
  replace zX := Nat.lt_of_lt_of_le zX hb.size
  replace kG := bx_below kG zG hb
  replace zG := Nat.lt_of_lt_of_le zG hb.size
  replace Xw3 : Hid (Own w15 w2.heap.size w3.heap.size shIR V Nw3.toList) := Own.below Xw3.out (by have := Zw1.out; have := Zw2.out; have := Zw3.out; have := Zw4.out; have := YS.out; have := Zw5.out; have := Zw6.out; have := YX.out; have := Zw7.out; have := Zw8.out; have := YG.out; have := Zw9.out; have := Zw10.out; have := Zw11.out; have := Zw12.out; have := Zw13.out; have := Zw14.out; have := Zw15.out; omega) hb
  replace Xw7 : Hid (Own w15 w6.heap.size w7.heap.size shIR (mkIR 1 V) Nw7.toList) := Own.below Xw7.out (by have := Zw1.out; have := Zw2.out; have := Zw3.out; have := Zw4.out; have := YS.out; have := Zw5.out; have := Zw6.out; have := YX.out; have := Zw7.out; have := Zw8.out; have := YG.out; have := Zw9.out; have := Zw10.out; have := Zw11.out; have := Zw12.out; have := Zw13.out; have := Zw14.out; have := Zw15.out; omega) hb
  replace HB : Hid (Below w.heap.size w w15) := HB.out.trans (hb.mono HB.out.size)
  have Xw15 : Hid (Own w15 w14.heap.size w15.heap.size shWorld g0 Aw15.toList) := ho
  clear ho
  clear hb
  go_wp2_with fail
  refine (CI.out _ _ Aw15 (Xw15.out.rd (Nat.le_refl _)) (Nat.le_refl _) hTT).mono ?_
  rintro e w16 ⟨Nw16, rfl, ho, hb⟩
  have Zw16 : Hid (w15.heap.size ≤ w16.heap.size) := hb.size
  replace k0 := bx_below k0 z0 hb
  replace z0 := Nat.lt_of_lt_of_le z0 hb.size
  replace kS := bx_below kS zS hb
  replace zS := Nat.lt_of_lt_of_le zS hb.size
  replace kX := bx_below kX zX hb
  replace zX := Nat.lt_of_lt_of_le zX hb.size
  replace kG := bx_below kG zG hb
  replace zG := Nat.lt_of_lt_of_le zG hb.size
  replace Xw3 : Hid (Own w16 w2.heap.size w3.heap.size shIR V Nw3.toList) := Own.below Xw3.out (by have := Zw1.out; have := Zw2.out; have := Zw3.out; have := Zw4.out; have := YS.out; have := Zw5.out; have := Zw6.out; have := YX.out; have := Zw7.out; have := Zw8.out; have := YG.out; have := Zw9.out; have := Zw10.out; have := Zw11.out; have := Zw12.out; have := Zw13.out; have := Zw14.out; have := Zw15.out; have := Zw16.out; omega) hb
  replace Xw7 : Hid (Own w16 w6.heap.size w7.heap.size shIR (mkIR 1 V) Nw7.toList) := Own.below Xw7.out (by have := Zw1.out; have := Zw2.out; have := Zw3.out; have := Zw4.out; have := YS.out; have := Zw5.out; have := Zw6.out; have := YX.out; have := Zw7.out; have := Zw8.out; have := YG.out; have := Zw9.out; have := Zw10.out; have := Zw11.out; have := Zw12.out; have := Zw13.out; have := Zw14.out; have := Zw15.out; have := Zw16.out; omega) hb
  replace Xw15 : Hid (Own w16 w14.heap.size w15.heap.size shWorld g0 Aw15.toList) := Own.below Xw15.out (by have := Zw1.out; have := Zw2.out; have := Zw3.out; have := Zw4.out; have := YS.out; have := Zw5.out; have := Zw6.out; have := YX.out; have := Zw7.out; have := Zw8.out; have := YG.out; have := Zw9.out; have := Zw10.out; have := Zw11.out; have := Zw12.out; have := Zw13.out; have := Zw14.out; have := Zw15.out; have := Zw16.out; omega) hb
  replace HB : Hid (Below w.heap.size w w16) := HB.out.trans (hb.mono HB.out.size)
  have Xw16 : Hid (Own w16 w15.heap.size w16.heap.size shIR V Nw16.toList) := ho
  clear ho
  clear hb
  clear Xw15
  have hz : Nw16.size = 2 := rd_size (Xw16.out.rd (Nat.le_refl _))
  have IH : Hid ((Tryz.prog.info? 33).map (·.size) = some Nw16.size) := by show _ = _; rw [hz]; exact (by kernel_rfl : (Tryz.prog.info? 33).map (·.size) = some 2)
  have JH : Hid ((Tryz.prog.info? 33).map (·.size) = some Nw16.toList.length) := by show _ = _; rw [Array.length_toList]; exact IH.out
  have HO : Hid (Nw16.all (·.oneCell') = true) := rd_all (Xw16.out.rd (Nat.le_refl _))
  have HX := HBX.out w16 Nw16 hz
  have HTH : Hid _ := HX.2.2.2
  have HX2 : Hid _ := HX
  clear HX hz
  go_upto_region 25 with (refine wpList_store_mid rfl 33 _ _ rfl _ _ Nw16 (by rfl) (by rfl) HTH.out IH.out HO.out ?_)
  clear HTH HO
  generalize hWW : (w16.alloc (.cells #[.int .i64 0, .slice none 0 0] 33)).setCells w16.heap.size 0 Nw16.toList = w17 at HX2 ⊢
  obtain ⟨zH, hb, kH, -⟩ := HX2.out
  clear hWW HX2 IH
  have Zw17 : Hid (w16.heap.size ≤ w17.heap.size) := hb.size
  replace k0 := bx_below k0 z0 hb
  replace z0 := Nat.lt_of_lt_of_le z0 hb.size
  replace kS := bx_below kS zS hb
  replace zS := Nat.lt_of_lt_of_le zS hb.size
  replace kX := bx_below kX zX hb
  replace zX := Nat.lt_of_lt_of_le zX hb.size
  replace kG := bx_below kG zG hb
  replace zG := Nat.lt_of_lt_of_le zG hb.size
  replace Xw3 : Hid (Own w17 w2.heap.size w3.heap.size shIR V Nw3.toList) := Own.below Xw3.out (by have := Zw1.out; have := Zw2.out; have := Zw3.out; have := Zw4.out; have := YS.out; have := Zw5.out; have := Zw6.out; have := YX.out; have := Zw7.out; have := Zw8.out; have := YG.out; have := Zw9.out; have := Zw10.out; have := Zw11.out; have := Zw12.out; have := Zw13.out; have := Zw14.out; have := Zw15.out; have := Zw16.out; have := Zw17.out; omega) hb
  replace Xw7 : Hid (Own w17 w6.heap.size w7.heap.size shIR (mkIR 1 V) Nw7.toList) := Own.below Xw7.out (by have := Zw1.out; have := Zw2.out; have := Zw3.out; have := Zw4.out; have := YS.out; have := Zw5.out; have := Zw6.out; have := YX.out; have := Zw7.out; have := Zw8.out; have := YG.out; have := Zw9.out; have := Zw10.out; have := Zw11.out; have := Zw12.out; have := Zw13.out; have := Zw14.out; have := Zw15.out; have := Zw16.out; have := Zw17.out; omega) hb
  replace Xw16 : Hid (Own w17 w15.heap.size w16.heap.size shIR V Nw16.toList) := Own.below Xw16.out (by have := Zw1.out; have := Zw2.out; have := Zw3.out; have := Zw4.out; have := YS.out; have := Zw5.out; have := Zw6.out; have := YX.out; have := Zw7.out; have := Zw8.out; have := YG.out; have := Zw9.out; have := Zw10.out; have := Zw11.out; have := Zw12.out; have := Zw13.out; have := Zw14.out; have := Zw15.out; have := Zw16.out; have := Zw17.out; omega) hb
  replace HB : Hid (Below w.heap.size w w17) := HB.out.trans (hb.mono HB.out.size)
  have YH : Hid (w16.heap.size < w17.heap.size) := zH
  clear hb
  go_wp2_with (first | (refine wpList_load_mid rfl 29 _ rfl _ _ (by rfl) A0.toList _ (bx_range k0) Tryz.underlying29 rfl HI0.out ?_) | (refine wpList_load_mid rfl 33 _ rfl _ _ (by rfl) Nw3.toList _ (bx_range kS) Tryz.underlying33 rfl JS.out ?_) | (refine wpList_load_mid rfl 40 _ rfl _ _ (by rfl) Aw5.toList _ (bx_range kX) Tryz.underlying40 rfl JX.out ?_) | (refine wpList_load_mid rfl 33 _ rfl _ _ (by rfl) Nw7.toList _ (bx_range kG) Tryz.underlying33 rfl JG.out ?_) | (refine wpList_load_mid rfl 33 _ rfl _ _ (by rfl) Nw16.toList _ (bx_range kH) Tryz.underlying33 rfl JH.out ?_))
  refine (lEqIR V Nw16 Nw3 _ _ (Xw16.out.rd (Nat.le_refl _)) (Xw3.out.rd (Nat.le_refl _)) (Nat.le_refl _) hVT).mono ?_
  rintro e w18 ⟨rfl, hb⟩
  have Zw18 : Hid (w17.heap.size ≤ w18.heap.size) := hb.size
  replace k0 := bx_below k0 z0 hb
  replace z0 := Nat.lt_of_lt_of_le z0 hb.size
  replace kS := bx_below kS zS hb
  replace zS := Nat.lt_of_lt_of_le zS hb.size
  replace kX := bx_below kX zX hb
  replace zX := Nat.lt_of_lt_of_le zX hb.size
  replace kG := bx_below kG zG hb
  replace zG := Nat.lt_of_lt_of_le zG hb.size
  replace kH := bx_below kH zH hb
  replace zH := Nat.lt_of_lt_of_le zH hb.size
  replace Xw3 : Hid (Own w18 w2.heap.size w3.heap.size shIR V Nw3.toList) := Own.below Xw3.out (by have := Zw1.out; have := Zw2.out; have := Zw3.out; have := Zw4.out; have := YS.out; have := Zw5.out; have := Zw6.out; have := YX.out; have := Zw7.out; have := Zw8.out; have := YG.out; have := Zw9.out; have := Zw10.out; have := Zw11.out; have := Zw12.out; have := Zw13.out; have := Zw14.out; have := Zw15.out; have := Zw16.out; have := Zw17.out; have := YH.out; have := Zw18.out; omega) hb
  replace Xw7 : Hid (Own w18 w6.heap.size w7.heap.size shIR (mkIR 1 V) Nw7.toList) := Own.below Xw7.out (by have := Zw1.out; have := Zw2.out; have := Zw3.out; have := Zw4.out; have := YS.out; have := Zw5.out; have := Zw6.out; have := YX.out; have := Zw7.out; have := Zw8.out; have := YG.out; have := Zw9.out; have := Zw10.out; have := Zw11.out; have := Zw12.out; have := Zw13.out; have := Zw14.out; have := Zw15.out; have := Zw16.out; have := Zw17.out; have := YH.out; have := Zw18.out; omega) hb
  replace Xw16 : Hid (Own w18 w15.heap.size w16.heap.size shIR V Nw16.toList) := Own.below Xw16.out (by have := Zw1.out; have := Zw2.out; have := Zw3.out; have := Zw4.out; have := YS.out; have := Zw5.out; have := Zw6.out; have := YX.out; have := Zw7.out; have := Zw8.out; have := YG.out; have := Zw9.out; have := Zw10.out; have := Zw11.out; have := Zw12.out; have := Zw13.out; have := Zw14.out; have := Zw15.out; have := Zw16.out; have := Zw17.out; have := YH.out; have := Zw18.out; omega) hb
  replace HB : Hid (Below w.heap.size w w18) := HB.out.trans (hb.mono HB.out.size)
  clear hb
  go_wp2_with (first | (refine wpList_load_mid rfl 29 _ rfl _ _ (by rfl) A0.toList _ (bx_range k0) Tryz.underlying29 rfl HI0.out ?_) | (refine wpList_load_mid rfl 33 _ rfl _ _ (by rfl) Nw3.toList _ (bx_range kS) Tryz.underlying33 rfl JS.out ?_) | (refine wpList_load_mid rfl 40 _ rfl _ _ (by rfl) Aw5.toList _ (bx_range kX) Tryz.underlying40 rfl JX.out ?_) | (refine wpList_load_mid rfl 33 _ rfl _ _ (by rfl) Nw7.toList _ (bx_range kG) Tryz.underlying33 rfl JG.out ?_) | (refine wpList_load_mid rfl 33 _ rfl _ _ (by rfl) Nw16.toList _ (bx_range kH) Tryz.underlying33 rfl JH.out ?_))
  have ch := lHeldIR V Nw7 1 _ _ (Xw7.out.rd (Nat.le_refl _)) (Nat.le_refl _) hVT (by omega) (by omega)
  rw [hq] at ch
  refine ch.mono ?_
  rintro e w19 ⟨rfl, hb⟩
  clear ch
  have Zw19 : Hid (w18.heap.size ≤ w19.heap.size) := hb.size
  replace k0 := bx_below k0 z0 hb
  replace z0 := Nat.lt_of_lt_of_le z0 hb.size
  replace kS := bx_below kS zS hb
  replace zS := Nat.lt_of_lt_of_le zS hb.size
  replace kX := bx_below kX zX hb
  replace zX := Nat.lt_of_lt_of_le zX hb.size
  replace kG := bx_below kG zG hb
  replace zG := Nat.lt_of_lt_of_le zG hb.size
  replace kH := bx_below kH zH hb
  replace zH := Nat.lt_of_lt_of_le zH hb.size
  replace Xw3 : Hid (Own w19 w2.heap.size w3.heap.size shIR V Nw3.toList) := Own.below Xw3.out (by have := Zw1.out; have := Zw2.out; have := Zw3.out; have := Zw4.out; have := YS.out; have := Zw5.out; have := Zw6.out; have := YX.out; have := Zw7.out; have := Zw8.out; have := YG.out; have := Zw9.out; have := Zw10.out; have := Zw11.out; have := Zw12.out; have := Zw13.out; have := Zw14.out; have := Zw15.out; have := Zw16.out; have := Zw17.out; have := YH.out; have := Zw18.out; have := Zw19.out; omega) hb
  replace Xw7 : Hid (Own w19 w6.heap.size w7.heap.size shIR (mkIR 1 V) Nw7.toList) := Own.below Xw7.out (by have := Zw1.out; have := Zw2.out; have := Zw3.out; have := Zw4.out; have := YS.out; have := Zw5.out; have := Zw6.out; have := YX.out; have := Zw7.out; have := Zw8.out; have := YG.out; have := Zw9.out; have := Zw10.out; have := Zw11.out; have := Zw12.out; have := Zw13.out; have := Zw14.out; have := Zw15.out; have := Zw16.out; have := Zw17.out; have := YH.out; have := Zw18.out; have := Zw19.out; omega) hb
  replace Xw16 : Hid (Own w19 w15.heap.size w16.heap.size shIR V Nw16.toList) := Own.below Xw16.out (by have := Zw1.out; have := Zw2.out; have := Zw3.out; have := Zw4.out; have := YS.out; have := Zw5.out; have := Zw6.out; have := YX.out; have := Zw7.out; have := Zw8.out; have := YG.out; have := Zw9.out; have := Zw10.out; have := Zw11.out; have := Zw12.out; have := Zw13.out; have := Zw14.out; have := Zw15.out; have := Zw16.out; have := Zw17.out; have := YH.out; have := Zw18.out; have := Zw19.out; omega) hb
  replace HB : Hid (Below w.heap.size w w19) := HB.out.trans (hb.mono HB.out.size)
  clear hb
  go_wp2_with fail
  go_ret
  exact ⟨rfl, HB.out⟩

set_option maxRecDepth 100000 in
theorem lifted (os : Os) (started : os.Started) (H : Type) (enc : TypeId × Value → H) :
    ReturnsInHanded {} Tryz.checked os 3 .any (Rows.fnExactLivePathsSpec.pre6 enc Tryz.prog Tryz.f3 Rows.fnExactLivePathsRow.domain false) (Rows.fnExactLivePathsSpec.post enc Tryz.prog Tryz.f3 false true false false) := by
  refine returnsInHanded_of_change (C := Tryz.checked) own started (by kernel_rfl) Tryz.func3
    (ChangeSpec.witness6 (enc := enc) (C := Tryz.checked) false ⟨#[], #[.agg #[.int .i64 0, .slice none 0 0, .slice none 0 0, .slice none 0 0, .slice none 0 0, .slice none 0 0]], []⟩ 8 (by kernel_rfl) (by kernel_rfl) (by kernel_rfl) (by kernel_rfl)) ?_
  intro W base args ds gs before hval0 hW hcnd _
  have hval : ∀ (j : Nat) t v, Tryz.f3.params[j]? = some t → args[j]? = some v → Value.okWide Tryz.prog W .any base t v := hval0
  have hW' := hW
  obtain ⟨p, q, hA0, hV, rfl, hfz, hnd⟩ := hW
  have hA : DataW.TrodAll enc Tryz.prog W 0 (fun _ => true) true Tryz.f3.params.toList args.toList ds p := hA0
  rw [Tryz.params3] at hA hval
  obtain ⟨v0, vs0, d0, ds0, p0, q0, hargs, rfl, rfl, h0, r0⟩ := trodAll_cons hA
  obtain ⟨rfl, rfl, rfl⟩ := trodAll_nil r0
  obtain rfl : args = #[v0] := by cases args; simp_all
  obtain ⟨rfl, rfl⟩ := trodVars_none hV
  have lt0 : ∀ x ∈ p0, x.block < W.heap.size := by obtain ⟨m, hm⟩ := h0; exact DataW.trod_lt m _ _ _ hm
  have t0 : ∃ n y, DataW.trod enc Tryz.prog W 0 (fun _ => true) true n 29 v0.cells.toList = some y := by obtain ⟨m, hm⟩ := h0; exact ⟨m, _, hm⟩
  refine (walk enc v0 W base (hval 0 29 v0 rfl rfl) t0).mono fun e W' ⟨he, bel⟩ => ?_
  subst he
  exact ⟨_, rfl, _, _, _, [], _, [], hW', trodAll_mk1 (shut_bool Tryz.underlying4 _), (trodAll_cons_mk (Below.trod laidOut (by kernel_rfl) (of_decide_eq_true (by kernel_rfl)) h0 bel lt0) trodAll_mk0), rfl, bel.frame _, fun h => by cases h⟩

theorem over : Rows.fnExactLivePathsRow.holds Tryz.pinned (OpenSpec.ofChange Rows.fnExactLivePathsSpec) :=
  OpenClaim.holds_of_wide 3 Tryz.f3 rfl rfl rfl rfl rfl rfl rfl ⟨rfl, rfl, rfl, rfl, rfl⟩ rfl rfl rfl rfl rfl (by kernel_rfl) Tryz.func3 (by kernel_rfl)
    (of_decide_eq_true (by kernel_rfl)) (by unfold Func.isWrapper; first | (rw [if_pos (by decide +kernel)]; kernel_rfl) | (rw [if_neg (by decide +kernel)]; exact ⟨rfl, rfl⟩))
    (fun os started H enc _ => lifted os started H enc)

theorem proved : Rows.FnExactLivePathsSaid := over
#print axioms proved
end Go.Proofs.YteaddhldleeaiaaGreat.fnExactLivePaths

namespace Go.Proofs.YteaddhldleeaiaaGreat
theorem fnExactLivePaths_holds : Rows.FnExactLivePathsSaid := fnExactLivePaths.proved
end Go.Proofs.YteaddhldleeaiaaGreat
