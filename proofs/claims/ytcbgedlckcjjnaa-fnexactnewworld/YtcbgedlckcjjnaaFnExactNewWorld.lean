/- Proved: at every two keys the program's NewWorld answers as its model does, every field; the answer owns its memory; no condition. -/
import Derived.Test.YtcbgedlckcjjnaaRows
import Derived.WalkKit
import Derived.ProofKit
import Derived.OpenShut
import Derived.ShutString
import Derived.ChangeOld
import Derived.Below
import Derived.Test.YtcbgedlckcjjnaaK01
import Derived.Test.YtcbgedlckcjjnaaK02
import Derived.Test.YtcbgedlckcjjnaaK03
import Derived.Test.YtcbgedlckcjjnaaK04
import Derived.Test.YtcbgedlckcjjnaaK09
import Derived.Test.YtcbgedlckcjjnaaK10
import Derived.Test.YtcbgedlckcjjnaaK11
import Derived.Test.YtcbgedlckcjjnaaK17
import Derived.Test.YtcbgedlckcjjnaaK18
import Derived.Test.YtcbgedlckcjjnaaK19
import Derived.Test.YtcbgedlckcjjnaaK20
import Derived.Test.YtcbgedlckcjjnaaK64
import Derived.Test.YtcbgedlckcjjnaaK42
import Derived.Test.YtcbgedlckcjjnaaK43
import Derived.Test.YtcbgedlckcjjnaaK55
import Derived.Test.YtcbgedlckcjjnaaK56
import Derived.Test.YtcbgedlckcjjnaaK57
import Derived.Test.YtcbgedlckcjjnaaK58
import Derived.Test.YtcbgedlckcjjnaaK59
import Derived.Test.YtcbgedlckcjjnaaK65
import Derived.Test.YtcbgedlckcjjnaaK66
import Derived.Test.YtcbgedlckcjjnaaK67
import Derived.Test.YtcbgedlckcjjnaaK68
import Derived.Test.YtcbgedlckcjjnaaK69
import Derived.Test.YtcbgedlckcjjnaaK70
import Derived.Test.YtcbgedlckcjjnaaK71
namespace Go.Proofs.Ytcbgedlckcjjnaa.fnExactNewWorld
open Go.ChangeShapes Go.WideShapes Go.ChangeAt Go.RowKit
set_option linter.unusedVariables false

theorem own : ownKnob Try.prog.godebug = none := by kernel_rfl
theorem laidOut : laidOutB Try.prog = true := by kernel_rfl


set_option maxHeartbeats 8000000 in
set_option maxRecDepth 8000 in
theorem walk {H : Type} (enc : TypeId × Value → H) (v0 : Value) (v1 : Value) (w : World) (base : Nat)
    (o0 : Value.okWide Try.prog w .any base 2 v0) (t0 : ∃ n y, DataW.trod enc Try.prog w 0 (fun _ => true) true n 2 v0.cells.toList = some y)
    (o1 : Value.okWide Try.prog w .any base 2 v1) (t1 : ∃ n y, DataW.trod enc Try.prog w 0 (fun _ => true) true n 2 v1.cells.toList = some y) :
    Calls Try.prog 3 #[v0, v1] w fun e w' => e = .returned (.bool true) ∧ Below w.heap.size w w' := by
  obtain ⟨x1, rfl, wf1⟩ := open_i64v o0 t0
  obtain ⟨x2, rfl, wf2⟩ := open_i64v o1 t1
  clear o0 t0 o1 t1
  obtain ⟨V, hV⟩ : ∃ V : DWR, V = nwV x1 x2 := ⟨_, rfl⟩
  have CS : Hid (∀ (W : World), Calls Try.prog 4 #[.int .i64 x1, .int .i64 x2] W fun e w' => ∃ N : Array Value, e = .returned (.agg N) ∧ Own w' W.heap.size w'.heap.size (shWR 4) V N.toList ∧ Below W.heap.size W w') := fun W => by rw [hV]; exact sNewWorld x1 x2 W
  have CI : Hid (∀ (W : World), Calls Try.prog 5 #[.int .i64 x1, .int .i64 x2] W fun e w' => ∃ N : Array Value, e = .returned (.agg N) ∧ Own w' W.heap.size w'.heap.size (shWR 50) V N.toList ∧ Below W.heap.size W w') := fun W => by rw [hV]; exact iNewWorld x1 x2 W
  have hVT : totWR V ≤ 1048576 := by rw [hV]; exact nwV_tot _ _
  have hwt : wtWR V ≤ 16777216 := wtWR_le hVT
  have HBX : Hid (∀ (W : World) (N : Array Value), N.size = 8 → W.heap.size < ((W.alloc (.cells #[.int .i64 0, .slice none 0 0, .int .i64 0, .slice none 0 0, .slice none 0 0, .slice none 0 0, .slice none 0 0, .slice none 0 0] 32)).setCells W.heap.size 0 N.toList).heap.size ∧ Below W.heap.size W ((W.alloc (.cells #[.int .i64 0, .slice none 0 0, .int .i64 0, .slice none 0 0, .slice none 0 0, .slice none 0 0, .slice none 0 0, .slice none 0 0] 32)).setCells W.heap.size 0 N.toList) ∧ (∀ o, ((W.alloc (.cells #[.int .i64 0, .slice none 0 0, .int .i64 0, .slice none 0 0, .slice none 0 0, .slice none 0 0, .slice none 0 0, .slice none 0 0] 32)).setCells W.heap.size 0 N.toList).cell? ⟨W.heap.size, o, none⟩ = N[o]?) ∧ (W.alloc (.cells #[.int .i64 0, .slice none 0 0, .int .i64 0, .slice none 0 0, .slice none 0 0, .slice none 0 0, .slice none 0 0, .slice none 0 0] 32)).there W.heap.size 0 N.size) := fun W N hz => ⟨by rw [setCells_size]; simp, setCells_below (Nat.le_refl _) _ _ _ _ ((Below.refl _ _).alloc (Nat.le_refl _) _), bx_setCells (bx_al W _ _) (by rw [hz]; rfl), bx_there (bx_al _ _ _) (fx_al _ _ _) (by rw [hz]; rfl)⟩
  clear hV
  have HB : Hid (Below w.heap.size w w) := Below.refl _ _
  go_enter Try.func3, Try.ntmps3
  go_wp2_with fail
  refine (CS.out _).mono ?_
  rintro e w2 ⟨Nw2, rfl, ho, hb⟩
  have Zw2 : Hid (w.heap.size ≤ w2.heap.size) := hb.size
  replace HB : Hid (Below w.heap.size w w2) := HB.out.trans (hb.mono HB.out.size)
  have Xw2 : Hid (Own w2 w.heap.size w2.heap.size (shWR 4) V Nw2.toList) := ho
  clear ho
  clear hb
  have hz : Nw2.size = 8 := rd_size (Xw2.out.rd (Nat.le_refl _))
  have IS : Hid ((Try.prog.info? 32).map (·.size) = some Nw2.size) := by show _ = _; rw [hz]; exact (by kernel_rfl : (Try.prog.info? 32).map (·.size) = some 8)
  have JS : Hid ((Try.prog.info? 32).map (·.size) = some Nw2.toList.length) := by show _ = _; rw [Array.length_toList]; exact IS.out
  have HO : Hid (Nw2.all (·.oneCell') = true) := rd_all (Xw2.out.rd (Nat.le_refl _))
  have HX := HBX.out w2 Nw2 hz
  have HTH : Hid _ := HX.2.2.2
  have HX2 : Hid _ := HX
  clear HX hz
  go_upto_region 2 with (refine wpList_store_mid rfl 32 _ _ rfl _ _ Nw2 (by rfl) (by rfl) HTH.out IS.out HO.out ?_)
  clear HTH HO
  generalize hWW : (w2.alloc (.cells #[.int .i64 0, .slice none 0 0, .int .i64 0, .slice none 0 0, .slice none 0 0, .slice none 0 0, .slice none 0 0, .slice none 0 0] 32)).setCells w2.heap.size 0 Nw2.toList = w3 at HX2 ⊢
  obtain ⟨zS, hb, kS, -⟩ := HX2.out
  clear hWW HX2 IS
  have Zw3 : Hid (w2.heap.size ≤ w3.heap.size) := hb.size
  replace Xw2 : Hid (Own w3 w.heap.size w2.heap.size (shWR 4) V Nw2.toList) := Own.below Xw2.out (by have := Zw2.out; have := Zw3.out; omega) hb
  replace HB : Hid (Below w.heap.size w w3) := HB.out.trans (hb.mono HB.out.size)
  have YS : Hid (w2.heap.size < w3.heap.size) := zS
  clear hb
  go_wp2_with fail
  refine (CI.out _).mono ?_
  rintro e w4 ⟨Nw4, rfl, ho, hb⟩
  have Zw4 : Hid (w3.heap.size ≤ w4.heap.size) := hb.size
  replace kS := bx_below kS zS hb
  replace zS := Nat.lt_of_lt_of_le zS hb.size
  replace Xw2 : Hid (Own w4 w.heap.size w2.heap.size (shWR 4) V Nw2.toList) := Own.below Xw2.out (by have := Zw2.out; have := Zw3.out; have := YS.out; have := Zw4.out; omega) hb
  replace HB : Hid (Below w.heap.size w w4) := HB.out.trans (hb.mono HB.out.size)
  have Xw4 : Hid (Own w4 w3.heap.size w4.heap.size (shWR 50) V Nw4.toList) := ho
  clear ho
  clear hb
  have hz : Nw4.size = 8 := rd_size (Xw4.out.rd (Nat.le_refl _))
  have IG : Hid ((Try.prog.info? 32).map (·.size) = some Nw4.size) := by show _ = _; rw [hz]; exact (by kernel_rfl : (Try.prog.info? 32).map (·.size) = some 8)
  have JG : Hid ((Try.prog.info? 32).map (·.size) = some Nw4.toList.length) := by show _ = _; rw [Array.length_toList]; exact IG.out
  have HO : Hid (Nw4.all (·.oneCell') = true) := rd_all (Xw4.out.rd (Nat.le_refl _))
  have HX := HBX.out w4 Nw4 hz
  have HTH : Hid _ := HX.2.2.2
  have HX2 : Hid _ := HX
  clear HX hz
  go_upto_region 3 with (refine wpList_store_mid rfl 32 _ _ rfl _ _ Nw4 (by rfl) (by rfl) HTH.out IG.out HO.out ?_)
  clear HTH HO
  generalize hWW : (w4.alloc (.cells #[.int .i64 0, .slice none 0 0, .int .i64 0, .slice none 0 0, .slice none 0 0, .slice none 0 0, .slice none 0 0, .slice none 0 0] 32)).setCells w4.heap.size 0 Nw4.toList = w5 at HX2 ⊢
  obtain ⟨zG, hb, kG, -⟩ := HX2.out
  clear hWW HX2 IG
  have Zw5 : Hid (w4.heap.size ≤ w5.heap.size) := hb.size
  replace kS := bx_below kS zS hb
  replace zS := Nat.lt_of_lt_of_le zS hb.size
  replace Xw2 : Hid (Own w5 w.heap.size w2.heap.size (shWR 4) V Nw2.toList) := Own.below Xw2.out (by have := Zw2.out; have := Zw3.out; have := YS.out; have := Zw4.out; have := Zw5.out; omega) hb
  replace Xw4 : Hid (Own w5 w3.heap.size w4.heap.size (shWR 50) V Nw4.toList) := Own.below Xw4.out (by have := Zw2.out; have := Zw3.out; have := YS.out; have := Zw4.out; have := Zw5.out; omega) hb
  replace HB : Hid (Below w.heap.size w w5) := HB.out.trans (hb.mono HB.out.size)
  have YG : Hid (w4.heap.size < w5.heap.size) := zG
  clear hb
  go_wp2_with (first | (refine wpList_load_mid rfl 32 _ rfl _ _ (by rfl) Nw2.toList _ (bx_range kS) Try.underlying32 rfl JS.out ?_) | (refine wpList_load_mid rfl 32 _ rfl _ _ (by rfl) Nw4.toList _ (bx_range kG) Try.underlying32 rfl JG.out ?_))
  refine (lEqWR _ _ V Nw4 Nw2 _ _ (Xw4.out.rd (Nat.le_refl _)) (Xw2.out.rd (Nat.le_refl _)) (Nat.le_refl _) hVT).mono ?_
  rintro e w6 ⟨rfl, hb⟩
  have Zw6 : Hid (w5.heap.size ≤ w6.heap.size) := hb.size
  replace kS := bx_below kS zS hb
  replace zS := Nat.lt_of_lt_of_le zS hb.size
  replace kG := bx_below kG zG hb
  replace zG := Nat.lt_of_lt_of_le zG hb.size
  replace Xw2 : Hid (Own w6 w.heap.size w2.heap.size (shWR 4) V Nw2.toList) := Own.below Xw2.out (by have := Zw2.out; have := Zw3.out; have := YS.out; have := Zw4.out; have := Zw5.out; have := YG.out; have := Zw6.out; omega) hb
  replace Xw4 : Hid (Own w6 w3.heap.size w4.heap.size (shWR 50) V Nw4.toList) := Own.below Xw4.out (by have := Zw2.out; have := Zw3.out; have := YS.out; have := Zw4.out; have := Zw5.out; have := YG.out; have := Zw6.out; omega) hb
  replace HB : Hid (Below w.heap.size w w6) := HB.out.trans (hb.mono HB.out.size)
  clear hb
  generalize hq : wtWR V = QW at *
  go_wp2_with (first | (refine wpList_load_mid rfl 32 _ rfl _ _ (by rfl) Nw2.toList _ (bx_range kS) Try.underlying32 rfl JS.out ?_) | (refine wpList_load_mid rfl 32 _ rfl _ _ (by rfl) Nw4.toList _ (bx_range kG) Try.underlying32 rfl JG.out ?_))
  refine (lMarkWR _ V Nw4 1 _ _ _ Xw4.out hVT (by omega) (by omega)).mono ?_
  rw [hq]
  rintro e w7 ⟨rfl, ho, hw⟩
  have Zw7 : Hid (w6.heap.size ≤ w7.heap.size) := hw.size
  replace kS := bx_keep kS (hw.block _ zS (by have := Zw2.out; have := Zw3.out; have := YS.out; have := Zw4.out; have := Zw5.out; have := YG.out; have := Zw6.out; have := Zw7.out; omega))
  replace zS := Nat.lt_of_lt_of_le zS hw.size
  replace kG := bx_keep kG (hw.block _ zG (by have := Zw2.out; have := Zw3.out; have := YS.out; have := Zw4.out; have := Zw5.out; have := YG.out; have := Zw6.out; have := Zw7.out; omega))
  replace zG := Nat.lt_of_lt_of_le zG hw.size
  replace Xw2 : Hid (Own w7 w.heap.size w2.heap.size (shWR 4) V Nw2.toList) := Own.keep Xw2.out (fun b h1 h2 => hw.block b (by have := Zw2.out; have := Zw3.out; have := YS.out; have := Zw4.out; have := Zw5.out; have := YG.out; have := Zw6.out; have := Zw7.out; omega) (by have := Zw2.out; have := Zw3.out; have := YS.out; have := Zw4.out; have := Zw5.out; have := YG.out; have := Zw6.out; have := Zw7.out; omega))
  replace Xw4 : Hid (Own w7 w3.heap.size w4.heap.size (shWR 50) (mkWR 1 V) Nw4.toList) := ho
  replace HB : Hid (Below w.heap.size w w7) := within_below HB.out hw (by have := Zw2.out; have := Zw3.out; have := YS.out; have := Zw4.out; have := Zw5.out; have := YG.out; have := Zw6.out; have := Zw7.out; omega) HB.out.size
  clear ho hw
  have hm1 : 0 ≤ (1 : Int) + ((QW : Nat) : Int) := by omega
  have hm2 : ¬ ((1 : Int) + ((QW : Nat) : Int) < 0) := by omega
  go_wp2_with (first | (refine wpList_load_mid rfl 32 _ rfl _ _ (by rfl) Nw2.toList _ (bx_range kS) Try.underlying32 rfl JS.out ?_) | (refine wpList_load_mid rfl 32 _ rfl _ _ (by rfl) Nw4.toList _ (bx_range kG) Try.underlying32 rfl JG.out ?_))
  have ch := lHeldWR _ V Nw4 1 _ _ (Xw4.out.rd (Nat.le_refl _)) (Nat.le_refl _) hVT (by omega) (by omega)
  rw [hq] at ch
  refine ch.mono ?_
  rintro e w8 ⟨rfl, hb⟩
  clear ch
  have Zw8 : Hid (w7.heap.size ≤ w8.heap.size) := hb.size
  replace kS := bx_below kS zS hb
  replace zS := Nat.lt_of_lt_of_le zS hb.size
  replace kG := bx_below kG zG hb
  replace zG := Nat.lt_of_lt_of_le zG hb.size
  replace Xw2 : Hid (Own w8 w.heap.size w2.heap.size (shWR 4) V Nw2.toList) := Own.below Xw2.out (by have := Zw2.out; have := Zw3.out; have := YS.out; have := Zw4.out; have := Zw5.out; have := YG.out; have := Zw6.out; have := Zw7.out; have := Zw8.out; omega) hb
  replace Xw4 : Hid (Own w8 w3.heap.size w4.heap.size (shWR 50) (mkWR 1 V) Nw4.toList) := Own.below Xw4.out (by have := Zw2.out; have := Zw3.out; have := YS.out; have := Zw4.out; have := Zw5.out; have := YG.out; have := Zw6.out; have := Zw7.out; have := Zw8.out; omega) hb
  replace HB : Hid (Below w.heap.size w w8) := HB.out.trans (hb.mono HB.out.size)
  clear hb
  go_wp2_with fail
  refine (CI.out _).mono ?_
  rintro e w9 ⟨Nw9, rfl, ho, hb⟩
  have Zw9 : Hid (w8.heap.size ≤ w9.heap.size) := hb.size
  replace kS := bx_below kS zS hb
  replace zS := Nat.lt_of_lt_of_le zS hb.size
  replace kG := bx_below kG zG hb
  replace zG := Nat.lt_of_lt_of_le zG hb.size
  replace Xw2 : Hid (Own w9 w.heap.size w2.heap.size (shWR 4) V Nw2.toList) := Own.below Xw2.out (by have := Zw2.out; have := Zw3.out; have := YS.out; have := Zw4.out; have := Zw5.out; have := YG.out; have := Zw6.out; have := Zw7.out; have := Zw8.out; have := Zw9.out; omega) hb
  replace Xw4 : Hid (Own w9 w3.heap.size w4.heap.size (shWR 50) (mkWR 1 V) Nw4.toList) := Own.below Xw4.out (by have := Zw2.out; have := Zw3.out; have := YS.out; have := Zw4.out; have := Zw5.out; have := YG.out; have := Zw6.out; have := Zw7.out; have := Zw8.out; have := Zw9.out; omega) hb
  replace HB : Hid (Below w.heap.size w w9) := HB.out.trans (hb.mono HB.out.size)
  have Xw9 : Hid (Own w9 w8.heap.size w9.heap.size (shWR 50) V Nw9.toList) := ho
  clear ho
  clear hb
  have hz : Nw9.size = 8 := rd_size (Xw9.out.rd (Nat.le_refl _))
  have IH : Hid ((Try.prog.info? 32).map (·.size) = some Nw9.size) := by show _ = _; rw [hz]; exact (by kernel_rfl : (Try.prog.info? 32).map (·.size) = some 8)
  have JH : Hid ((Try.prog.info? 32).map (·.size) = some Nw9.toList.length) := by show _ = _; rw [Array.length_toList]; exact IH.out
  have HO : Hid (Nw9.all (·.oneCell') = true) := rd_all (Xw9.out.rd (Nat.le_refl _))
  have HX := HBX.out w9 Nw9 hz
  have HTH : Hid _ := HX.2.2.2
  have HX2 : Hid _ := HX
  clear HX hz
  go_upto_region 14 with (refine wpList_store_mid rfl 32 _ _ rfl _ _ Nw9 (by rfl) (by rfl) HTH.out IH.out HO.out ?_)
  clear HTH HO
  generalize hWW : (w9.alloc (.cells #[.int .i64 0, .slice none 0 0, .int .i64 0, .slice none 0 0, .slice none 0 0, .slice none 0 0, .slice none 0 0, .slice none 0 0] 32)).setCells w9.heap.size 0 Nw9.toList = w10 at HX2 ⊢
  obtain ⟨zH, hb, kH, -⟩ := HX2.out
  clear hWW HX2 IH
  have Zw10 : Hid (w9.heap.size ≤ w10.heap.size) := hb.size
  replace kS := bx_below kS zS hb
  replace zS := Nat.lt_of_lt_of_le zS hb.size
  replace kG := bx_below kG zG hb
  replace zG := Nat.lt_of_lt_of_le zG hb.size
  replace Xw2 : Hid (Own w10 w.heap.size w2.heap.size (shWR 4) V Nw2.toList) := Own.below Xw2.out (by have := Zw2.out; have := Zw3.out; have := YS.out; have := Zw4.out; have := Zw5.out; have := YG.out; have := Zw6.out; have := Zw7.out; have := Zw8.out; have := Zw9.out; have := Zw10.out; omega) hb
  replace Xw4 : Hid (Own w10 w3.heap.size w4.heap.size (shWR 50) (mkWR 1 V) Nw4.toList) := Own.below Xw4.out (by have := Zw2.out; have := Zw3.out; have := YS.out; have := Zw4.out; have := Zw5.out; have := YG.out; have := Zw6.out; have := Zw7.out; have := Zw8.out; have := Zw9.out; have := Zw10.out; omega) hb
  replace Xw9 : Hid (Own w10 w8.heap.size w9.heap.size (shWR 50) V Nw9.toList) := Own.below Xw9.out (by have := Zw2.out; have := Zw3.out; have := YS.out; have := Zw4.out; have := Zw5.out; have := YG.out; have := Zw6.out; have := Zw7.out; have := Zw8.out; have := Zw9.out; have := Zw10.out; omega) hb
  replace HB : Hid (Below w.heap.size w w10) := HB.out.trans (hb.mono HB.out.size)
  have YH : Hid (w9.heap.size < w10.heap.size) := zH
  clear hb
  go_wp2_with (first | (refine wpList_load_mid rfl 32 _ rfl _ _ (by rfl) Nw2.toList _ (bx_range kS) Try.underlying32 rfl JS.out ?_) | (refine wpList_load_mid rfl 32 _ rfl _ _ (by rfl) Nw4.toList _ (bx_range kG) Try.underlying32 rfl JG.out ?_) | (refine wpList_load_mid rfl 32 _ rfl _ _ (by rfl) Nw9.toList _ (bx_range kH) Try.underlying32 rfl JH.out ?_))
  refine (lEqWR _ _ V Nw9 Nw2 _ _ (Xw9.out.rd (Nat.le_refl _)) (Xw2.out.rd (Nat.le_refl _)) (Nat.le_refl _) hVT).mono ?_
  rintro e w11 ⟨rfl, hb⟩
  have Zw11 : Hid (w10.heap.size ≤ w11.heap.size) := hb.size
  replace kS := bx_below kS zS hb
  replace zS := Nat.lt_of_lt_of_le zS hb.size
  replace kG := bx_below kG zG hb
  replace zG := Nat.lt_of_lt_of_le zG hb.size
  replace kH := bx_below kH zH hb
  replace zH := Nat.lt_of_lt_of_le zH hb.size
  replace Xw2 : Hid (Own w11 w.heap.size w2.heap.size (shWR 4) V Nw2.toList) := Own.below Xw2.out (by have := Zw2.out; have := Zw3.out; have := YS.out; have := Zw4.out; have := Zw5.out; have := YG.out; have := Zw6.out; have := Zw7.out; have := Zw8.out; have := Zw9.out; have := Zw10.out; have := YH.out; have := Zw11.out; omega) hb
  replace Xw4 : Hid (Own w11 w3.heap.size w4.heap.size (shWR 50) (mkWR 1 V) Nw4.toList) := Own.below Xw4.out (by have := Zw2.out; have := Zw3.out; have := YS.out; have := Zw4.out; have := Zw5.out; have := YG.out; have := Zw6.out; have := Zw7.out; have := Zw8.out; have := Zw9.out; have := Zw10.out; have := YH.out; have := Zw11.out; omega) hb
  replace Xw9 : Hid (Own w11 w8.heap.size w9.heap.size (shWR 50) V Nw9.toList) := Own.below Xw9.out (by have := Zw2.out; have := Zw3.out; have := YS.out; have := Zw4.out; have := Zw5.out; have := YG.out; have := Zw6.out; have := Zw7.out; have := Zw8.out; have := Zw9.out; have := Zw10.out; have := YH.out; have := Zw11.out; omega) hb
  replace HB : Hid (Below w.heap.size w w11) := HB.out.trans (hb.mono HB.out.size)
  clear hb
  go_wp2_with (first | (refine wpList_load_mid rfl 32 _ rfl _ _ (by rfl) Nw2.toList _ (bx_range kS) Try.underlying32 rfl JS.out ?_) | (refine wpList_load_mid rfl 32 _ rfl _ _ (by rfl) Nw4.toList _ (bx_range kG) Try.underlying32 rfl JG.out ?_) | (refine wpList_load_mid rfl 32 _ rfl _ _ (by rfl) Nw9.toList _ (bx_range kH) Try.underlying32 rfl JH.out ?_))
  have ch := lHeldWR _ V Nw4 1 _ _ (Xw4.out.rd (Nat.le_refl _)) (Nat.le_refl _) hVT (by omega) (by omega)
  rw [hq] at ch
  refine ch.mono ?_
  rintro e w12 ⟨rfl, hb⟩
  clear ch
  have Zw12 : Hid (w11.heap.size ≤ w12.heap.size) := hb.size
  replace kS := bx_below kS zS hb
  replace zS := Nat.lt_of_lt_of_le zS hb.size
  replace kG := bx_below kG zG hb
  replace zG := Nat.lt_of_lt_of_le zG hb.size
  replace kH := bx_below kH zH hb
  replace zH := Nat.lt_of_lt_of_le zH hb.size
  replace Xw2 : Hid (Own w12 w.heap.size w2.heap.size (shWR 4) V Nw2.toList) := Own.below Xw2.out (by have := Zw2.out; have := Zw3.out; have := YS.out; have := Zw4.out; have := Zw5.out; have := YG.out; have := Zw6.out; have := Zw7.out; have := Zw8.out; have := Zw9.out; have := Zw10.out; have := YH.out; have := Zw11.out; have := Zw12.out; omega) hb
  replace Xw4 : Hid (Own w12 w3.heap.size w4.heap.size (shWR 50) (mkWR 1 V) Nw4.toList) := Own.below Xw4.out (by have := Zw2.out; have := Zw3.out; have := YS.out; have := Zw4.out; have := Zw5.out; have := YG.out; have := Zw6.out; have := Zw7.out; have := Zw8.out; have := Zw9.out; have := Zw10.out; have := YH.out; have := Zw11.out; have := Zw12.out; omega) hb
  replace Xw9 : Hid (Own w12 w8.heap.size w9.heap.size (shWR 50) V Nw9.toList) := Own.below Xw9.out (by have := Zw2.out; have := Zw3.out; have := YS.out; have := Zw4.out; have := Zw5.out; have := YG.out; have := Zw6.out; have := Zw7.out; have := Zw8.out; have := Zw9.out; have := Zw10.out; have := YH.out; have := Zw11.out; have := Zw12.out; omega) hb
  replace HB : Hid (Below w.heap.size w w12) := HB.out.trans (hb.mono HB.out.size)
  clear hb
  go_wp2_with fail
  go_ret
  exact ⟨rfl, HB.out⟩

set_option maxRecDepth 100000 in
theorem lifted (os : Os) (started : os.Started) (H : Type) (enc : TypeId × Value → H) :
    ReturnsInHanded {} Try.checked os 3 .any (Rows.fnExactNewWorldSpec.pre6 enc Try.prog Try.f3 Rows.fnExactNewWorldRow.domain false) (Rows.fnExactNewWorldSpec.post enc Try.prog Try.f3 false true false false) := by
  refine returnsInHanded_of_change (C := Try.checked) own started (by kernel_rfl) Try.func3
    (ChangeSpec.witness6 (enc := enc) (C := Try.checked) false ⟨#[], #[.int .i64 0, .int .i64 0], []⟩ 8 (by kernel_rfl) (by kernel_rfl) (by kernel_rfl) (by kernel_rfl)) ?_
  intro W base args ds gs before hval0 hW hcnd _
  have hval : ∀ (j : Nat) t v, Try.f3.params[j]? = some t → args[j]? = some v → Value.okWide Try.prog W .any base t v := hval0
  have hW' := hW
  obtain ⟨p, q, hA0, hV, rfl, hfz, hnd⟩ := hW
  have hA : DataW.TrodAll enc Try.prog W 0 (fun _ => true) true Try.f3.params.toList args.toList ds p := hA0
  rw [Try.params3] at hA hval
  obtain ⟨v0, vs0, d0, ds0, p0, q0, hargs, rfl, rfl, h0, r0⟩ := trodAll_cons hA
  obtain ⟨v1, vs1, d1, ds1, p1, q1, rfl, rfl, rfl, h1, r1⟩ := trodAll_cons r0
  obtain ⟨rfl, rfl, rfl⟩ := trodAll_nil r1
  obtain rfl : args = #[v0, v1] := by cases args; simp_all
  obtain ⟨rfl, rfl⟩ := trodVars_none hV
  have lt0 : ∀ x ∈ p0, x.block < W.heap.size := by obtain ⟨m, hm⟩ := h0; exact DataW.trod_lt m _ _ _ hm
  have t0 : ∃ n y, DataW.trod enc Try.prog W 0 (fun _ => true) true n 2 v0.cells.toList = some y := by obtain ⟨m, hm⟩ := h0; exact ⟨m, _, hm⟩
  have lt1 : ∀ x ∈ p1, x.block < W.heap.size := by obtain ⟨m, hm⟩ := h1; exact DataW.trod_lt m _ _ _ hm
  have t1 : ∃ n y, DataW.trod enc Try.prog W 0 (fun _ => true) true n 2 v1.cells.toList = some y := by obtain ⟨m, hm⟩ := h1; exact ⟨m, _, hm⟩
  refine (walk enc v0 v1 W base (hval 0 2 v0 rfl rfl) t0 (hval 1 2 v1 rfl rfl) t1).mono fun e W' ⟨he, bel⟩ => ?_
  subst he
  exact ⟨_, rfl, _, _, _, [], _, [], hW', trodAll_mk1 (shut_bool Try.underlying4 _), (trodAll_cons_mk (Below.trod laidOut (by kernel_rfl) (of_decide_eq_true (by kernel_rfl)) h0 bel lt0) (trodAll_cons_mk (Below.trod laidOut (by kernel_rfl) (of_decide_eq_true (by kernel_rfl)) h1 bel lt1) trodAll_mk0)), rfl, bel.frame _, fun h => by cases h⟩

theorem over : Rows.fnExactNewWorldRow.holds Try.pinned (OpenSpec.ofChange Rows.fnExactNewWorldSpec) :=
  OpenClaim.holds_of_wide 3 Try.f3 rfl rfl rfl rfl rfl rfl rfl ⟨rfl, rfl, rfl, rfl, rfl⟩ rfl rfl rfl rfl rfl (by kernel_rfl) Try.func3 (by kernel_rfl)
    (of_decide_eq_true (by kernel_rfl)) (by unfold Func.isWrapper; first | (rw [if_pos (by decide +kernel)]; kernel_rfl) | (rw [if_neg (by decide +kernel)]; exact ⟨rfl, rfl⟩))
    (fun os started H enc _ => lifted os started H enc)

theorem proved : Rows.FnExactNewWorldSaid := over
#print axioms proved
end Go.Proofs.Ytcbgedlckcjjnaa.fnExactNewWorld

namespace Go.Proofs.Ytcbgedlckcjjnaa
theorem fnExactNewWorld_holds : Rows.FnExactNewWorldSaid := fnExactNewWorld.proved
end Go.Proofs.Ytcbgedlckcjjnaa
