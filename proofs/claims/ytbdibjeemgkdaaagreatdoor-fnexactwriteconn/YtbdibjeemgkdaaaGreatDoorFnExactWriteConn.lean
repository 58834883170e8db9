/- Proved: at every conn and bytes the program's WriteConn answers as its model does, every field; conn and bytes are as they were; the answer owns its memory; the condition is the row's own: errors' own variable as the program's text lays it. -/
import Derived.Test.YtbdibjeemgkdaaaGreatDoorRows
import Derived.WalkKit
import Derived.ProofKit
import Derived.OpenShut
import Derived.ShutString
import Derived.ChangeOld
import Derived.Below
import Derived.Test.YtbdibjeemgkdaaaGreatDoorK01
import Derived.Test.YtbdibjeemgkdaaaGreatDoorK02
import Derived.Test.YtbdibjeemgkdaaaGreatDoorK03
import Derived.Test.YtbdibjeemgkdaaaGreatDoorK04
import Derived.Test.YtbdibjeemgkdaaaGreatDoorK05
import Derived.Test.YtbdibjeemgkdaaaGreatDoorK06
import Derived.Test.YtbdibjeemgkdaaaGreatDoorK07
import Derived.Test.YtbdibjeemgkdaaaGreatDoorK08
import Derived.Test.YtbdibjeemgkdaaaGreatDoorK09
import Derived.Test.YtbdibjeemgkdaaaGreatDoorK10
import Derived.Test.YtbdibjeemgkdaaaGreatDoorK11
import Derived.Test.YtbdibjeemgkdaaaGreatDoorK12
import Derived.Test.YtbdibjeemgkdaaaGreatDoorK13
import Derived.Test.YtbdibjeemgkdaaaGreatDoorK14
import Derived.Test.YtbdibjeemgkdaaaGreatDoorK15
import Derived.Test.YtbdibjeemgkdaaaGreatDoorK16
import Derived.Test.YtbdibjeemgkdaaaGreatDoorK17
import Derived.Test.YtbdibjeemgkdaaaGreatDoorK18
import Derived.Test.YtbdibjeemgkdaaaGreatDoorK19
import Derived.Test.YtbdibjeemgkdaaaGreatDoorK20
import Derived.Test.YtbdibjeemgkdaaaGreatDoorK21
import Derived.Test.YtbdibjeemgkdaaaGreatDoorK25
import Derived.Test.YtbdibjeemgkdaaaGreatDoorK29
import Derived.Test.YtbdibjeemgkdaaaGreatDoorK30
import Derived.Test.YtbdibjeemgkdaaaGreatDoorK31
import Derived.Test.YtbdibjeemgkdaaaGreatDoorK32
import Derived.Test.YtbdibjeemgkdaaaGreatDoorK33
import Derived.Test.YtbdibjeemgkdaaaGreatDoorK35
import Derived.Test.YtbdibjeemgkdaaaGreatDoorK36
import Derived.Test.YtbdibjeemgkdaaaGreatDoorTie
import Derived.Test.YtbdibjeemgkdaaaGreatDoorCards
import Derived.SevenTiedAt
import Derived.LaidMore
import Derived.LaidHandle
import Derived.LaidLaws
import Derived.Stop.Joined
namespace Go.Proofs.YtbdibjeemgkdaaaGreatDoor.fnExactWriteConn
open Go.ChangeShapes Go.WideShapes Go.ChangeAt Go.RowKit
set_option linter.unusedVariables false

theorem own : ownKnob Tryz.prog.godebug = none := by kernel_rfl
theorem laidOut : laidOutB Tryz.prog = true := by kernel_rfl
theorem et : Tryz.prog.globalNamed "errors.errorType" = some 0 := by kernel_rfl
theorem rt : (Tryz.prog.cutTypes.find? (·.1 == "internal/reflectlite.rtype")).map (·.2) = some 212 := by kernel_rfl
theorem oneRow : ((List.range 288).filter fun t => Tryz.prog.rowNamed t [101, 114, 114, 111, 114]) = [71] := by kernel_rfl
theorem tsize : Tryz.prog.types.size = 288 := by kernel_rfl
/-- What the condition gives the walk: errors' own variable. -/
theorem handle_of_laid {W : World} (h : laidMetH Tryz.prog [("errors.errorType", Rows.laid_errors_errorType)] W) : ErrLaid W := by
  have h' : laidMet Tryz.prog [] W ∧ handlesMet Tryz.prog [("errors.errorType", Rows.laid_errors_errorType)] W := h
  obtain ⟨name, u, ty, e1, e2, e3, e4, e5⟩ := h'.2 _ (List.mem_singleton.2 rfl)
  have en : name = [101, 114, 114, 111, 114] := (Option.some.inj e1).symm
  subst en
  obtain rfl := Option.some.inj (rt.symm.trans e2)
  have hm : ty ∈ (List.range 288).filter fun t => Tryz.prog.rowNamed t [101, 114, 114, 111, 114] := List.mem_filter.2 ⟨List.mem_range.2 (by rw [← tsize]; exact e3), e4⟩
  rw [oneRow] at hm
  obtain rfl := List.mem_singleton.1 hm
  have hh : typeHandle Tryz.prog 71 = .pointer (some ⟨1, 71, none⟩) := by kernel_rfl
  rw [hh] at e5
  have := World.var?_cell et e5 0
  unfold ErrLaid
  simpa using this
theorem door_met (os : Os) (args : Array Value) : laidMetH Tryz.prog [("errors.errorType", Rows.laid_errors_errorType)] ((World.doorLaid Tryz.prog 16 os).forCall (fun _ _ => 0) ⟨#[], args, []⟩).memory :=
  laidMetH_of_parts3 (fuel := 8) (laidMet_of_run' 8 (by kernel_rfl) (by kernel_rfl)) (by kernel_rfl) (by kernel_rfl)


set_option maxHeartbeats 8000000 in
set_option maxRecDepth 8000 in
theorem walk {H : Type} (enc : TypeId × Value → H) (v0 : Value) (v1 : Value) (w : World) (base : Nat) (hE : ErrLaid w)
    (o0 : Value.okWide Tryz.prog w .any base 28 v0) (t0 : ∃ n y, DataW.trod enc Tryz.prog w 0 (fun _ => true) true n 28 v0.cells.toList = some y)
    (o1 : Value.okWide Tryz.prog w .any base 22 v1) (t1 : ∃ n y, DataW.trod enc Tryz.prog w 0 (fun _ => true) true n 22 v1.cells.toList = some y) :
    Calls Tryz.prog 3 #[v0, v1] w fun e w' => e = .returned (.bool true) ∧ Below w.heap.size w w' := by
  obtain ⟨g0, A0, rfl, ho⟩ := open_Conn o0 t0
  obtain ⟨l1, ho1⟩ := open_byv o1 t1
  obtain ⟨a1, n1, c1, rfl, HL1, HB1, HN1⟩ := open_by ho1
  clear ho1
  clear o0 t0 o1 t1
  have HP : Hid (∀ W, Below w.heap.size w W → shConn.Rd W w.heap.size g0 A0.toList) := fun W hW => Sh.Rd.below ho (Nat.le_refl _) hW
  have HI0 : Hid ((Tryz.prog.info? 28).map (·.size) = some A0.toList.length) := by show _ = _; rw [Array.length_toList, rd_size ho]; exact (by kernel_rfl : (Tryz.prog.info? 28).map (·.size) = some 14)
  clear ho
  obtain ⟨T0, hT0⟩ : ∃ T : Nat, T = totConn g0 := ⟨_, rfl⟩
  obtain ⟨V, hV⟩ : ∃ V : DCR, V = wriV g0 l1 := ⟨_, rfl⟩
  have HEL : Hid (∀ W, Below w.heap.size w W → ErrLaid W) := fun W hW => ErrLaid.below hE hW
  clear hE
  have CS : Hid (∀ (W : World) (B : Nat) (A : Array Value) (b1 : Option Addr) (k1 : Nat), shConn.Rd W B g0 A.toList → B ≤ W.heap.size → totConn g0 ≤ 1048576 → RB W b1 l1 → (b1 = none → k1 = 0) → n1 ≤ 1048576 → Calls Tryz.prog 7 #[.agg A, .slice b1 n1 k1] W fun e w' => ∃ N : Array Value, e = .returned (.agg N) ∧ Own w' W.heap.size w'.heap.size shCR V N.toList ∧ Below W.heap.size W w') := fun W B A b1 k1 h1 h2 h3 g1 g2 g3 => by rw [hV]; exact sWriteConn g0 A b1 n1 k1 l1 W B h1 h2 h3 HL1.out g1 g2 g3
  have CI : Hid (∀ (W : World) (B : Nat) (A : Array Value) (b1 : Option Addr) (k1 : Nat), shConn.Rd W B g0 A.toList → B ≤ W.heap.size → totConn g0 ≤ 1048576 → RB W b1 l1 → (b1 = none → k1 = 0) → n1 ≤ 1048576 → ErrLaid W → Calls Tryz.prog 10 #[.agg A, .slice b1 n1 k1] W fun e w' => ∃ N : Array Value, e = .returned (.agg N) ∧ Own w' W.heap.size w'.heap.size shCR V N.toList ∧ Below W.heap.size W w') := fun W B A b1 k1 h1 h2 h3 g1 g2 g3 h4 => by rw [hV]; exact iWriteConn g0 A b1 n1 k1 l1 W B h1 h2 h3 HL1.out g1 g2 g3 h4
  have VT : Hid (totConn g0 ≤ 1048576 → totCR V ≤ 1048576) := fun h => by rw [hV]; exact wriV_tot _ _
  have HBX : Hid (∀ (W : World) (N : Array Value), N.size = 18 → W.heap.size < ((W.alloc (.cells #[.int .i64 0, .int .i64 0, .int .i64 0, .int .i64 0, .bool false, .bool false, .slice none 0 0, .bool false, .int .i64 0, .bool false, .slice none 0 0, .slice none 0 0, .int .i64 0, .int .i64 0, .slice none 0 0, .slice none 0 0, .slice none 0 0, .bool false] 38)).setCells W.heap.size 0 N.toList).heap.size ∧ Below W.heap.size W ((W.alloc (.cells #[.int .i64 0, .int .i64 0, .int .i64 0, .int .i64 0, .bool false, .bool false, .slice none 0 0, .bool false, .int .i64 0, .bool false, .slice none 0 0, .slice none 0 0, .int .i64 0, .int .i64 0, .slice none 0 0, .slice none 0 0, .slice none 0 0, .bool false] 38)).setCells W.heap.size 0 N.toList) ∧ (∀ o, ((W.alloc (.cells #[.int .i64 0, .int .i64 0, .int .i64 0, .int .i64 0, .bool false, .bool false, .slice none 0 0, .bool false, .int .i64 0, .bool false, .slice none 0 0, .slice none 0 0, .int .i64 0, .int .i64 0, .slice none 0 0, .slice none 0 0, .slice none 0 0, .bool false] 38)).setCells W.heap.size 0 N.toList).cell? ⟨W.heap.size, o, none⟩ = N[o]?) ∧ (W.alloc (.cells #[.int .i64 0, .int .i64 0, .int .i64 0, .int .i64 0, .bool false, .bool false, .slice none 0 0, .bool false, .int .i64 0, .bool false, .slice none 0 0, .slice none 0 0, .int .i64 0, .int .i64 0, .slice none 0 0, .slice none 0 0, .slice none 0 0, .bool false] 38)).there W.heap.size 0 N.size) := fun W N hz => ⟨by rw [setCells_size]; simp, setCells_below (Nat.le_refl _) _ _ _ _ ((Below.refl _ _).alloc (Nat.le_refl _) _), bx_setCells (bx_al W _ _) (by rw [hz]; rfl), bx_there (bx_al _ _ _) (fx_al _ _ _) (by rw [hz]; rfl)⟩
  have HBC : Hid (∀ (W : World) (N : Array Value), N.size = 14 → W.heap.size < ((W.alloc (.cells #[.int .i64 0, .int .i64 0, .int .i64 0, .bool false, .bool false, .slice none 0 0, .bool false, .int .i64 0, .bool false, .slice none 0 0, .slice none 0 0, .int .i64 0, .int .i64 0, .slice none 0 0] 35)).setCells W.heap.size 0 N.toList).heap.size ∧ Below W.heap.size W ((W.alloc (.cells #[.int .i64 0, .int .i64 0, .int .i64 0, .bool false, .bool false, .slice none 0 0, .bool false, .int .i64 0, .bool false, .slice none 0 0, .slice none 0 0, .int .i64 0, .int .i64 0, .slice none 0 0] 35)).setCells W.heap.size 0 N.toList) ∧ (∀ o, ((W.alloc (.cells #[.int .i64 0, .int .i64 0, .int .i64 0, .bool false, .bool false, .slice none 0 0, .bool false, .int .i64 0, .bool false, .slice none 0 0, .slice none 0 0, .int .i64 0, .int .i64 0, .slice none 0 0] 35)).setCells W.heap.size 0 N.toList).cell? ⟨W.heap.size, o, none⟩ = N[o]?) ∧ (W.alloc (.cells #[.int .i64 0, .int .i64 0, .int .i64 0, .bool false, .bool false, .slice none 0 0, .bool false, .int .i64 0, .bool false, .slice none 0 0, .slice none 0 0, .int .i64 0, .int .i64 0, .slice none 0 0] 35)).there W.heap.size 0 N.size) := fun W N hz => ⟨by rw [setCells_size]; simp, setCells_below (Nat.le_refl _) _ _ _ _ ((Below.refl _ _).alloc (Nat.le_refl _) _), bx_setCells (bx_al W _ _) (by rw [hz]; rfl), bx_there (bx_al _ _ _) (fx_al _ _ _) (by rw [hz]; rfl)⟩
  clear hV
  by_cases hb1 : (1048576 : Int) < (n1 : Int)
  · have hb1' : decide ((1048576 : Int) < (n1 : Int)) = true := decide_eq_true hb1
    go_enter Tryz.func3, Tryz.ntmps3
    go_wp2_with fail
    go_ret
    exact ⟨rfl, by go_grown⟩
  have hb1' : decide ((1048576 : Int) < (n1 : Int)) = false := decide_eq_false hb1
  have hn1 : n1 ≤ 1048576 := by omega
  by_cases hbig : (1048576 : Int) < (T0 : Int)
  · have hskip := trivial
    go_enter Tryz.func3, Tryz.ntmps3
    have k0 := bx_al w A0 28
    go_wp2_with (first | (refine wpList_load_mid rfl 28 _ rfl _ _ (by rfl) A0.toList _ (bx_range k0) Tryz.underlying28 rfl HI0.out ?_))
    have c := fun W R hB => lSzConn g0 A0 1048576 W w.heap.size R hB (by omega) (by omega)
    rw [← hT0, if_pos (show (1048576 : Int) < (T0 : Int) by omega)] at c
    refine (c _ (HP.out _ ((Below.refl _ _).alloc (Nat.le_refl _) _)) (by simp)).mono ?_
    rintro e w1 ⟨rfl, hb⟩
    clear c
    replace k0 := bx_new hb
    obtain ⟨hb, z0⟩ := bl_new hb
    have HB : Hid (Below w.heap.size w w1) := hb
    clear hb
    go_wp2_with fail
    go_ret
    exact ⟨rfl, HB.out⟩
  go_enter Tryz.func3, Tryz.ntmps3
  have k0 := bx_al w A0 28
  go_wp2_with (first | (refine wpList_load_mid rfl 28 _ rfl _ _ (by rfl) A0.toList _ (bx_range k0) Tryz.underlying28 rfl HI0.out ?_))
  have c := fun W R hB => lSzConn g0 A0 1048576 W w.heap.size R hB (by omega) (by omega)
  rw [← hT0, if_neg (show ¬ ((1048576 : Int) < (T0 : Int)) by omega)] at c
  refine (c _ (HP.out _ ((Below.refl _ _).alloc (Nat.le_refl _) _)) (by simp)).mono ?_
  rintro e w1 ⟨rfl, hb⟩
  clear c
  replace k0 := bx_new hb
  obtain ⟨hb, z0⟩ := bl_new hb
  have HB : Hid (Below w.heap.size w w1) := hb
  clear hb
  have hrest : ¬ ((1048576 : Int) - (T0 : Int) < 0) := by omega
  have hTT : totConn g0 ≤ 1048576 := by omega
  have hVT := VT.out hTT
  have hwt : wtCR V ≤ 16777216 := wtCR_le hVT
  have Zw1 : Hid (w.heap.size < w1.heap.size) := z0
  go_wp2_with (first | (refine wpList_load_mid rfl 28 _ rfl _ _ (by rfl) A0.toList _ (bx_range k0) Tryz.underlying28 rfl HI0.out ?_))
  refine (lToConn g0 A0 _ w.heap.size (HP.out _ HB.out) HB.out.size hTT).mono ?_
  rintro e w2 ⟨Aw2, rfl, ho, hb⟩
  have Zw2 : Hid (w1.heap.size ≤ w2.heap.size) := hb.size
  replace k0 := bx_below k0 z0 hb
  replace z0 := Nat.lt_of_lt_of_le z0 hb.size
  replace HB : Hid (Below w.heap.size w w2) := HB.out.trans (hb.mono HB.out.size)
  have Xw2 : Hid (Own w2 w1.heap.size w2.heap.size shConn g0 Aw2.toList) := ho
  clear ho
  clear hb
  go_wp2_with fail
  refine (lToBy a1 n1 c1 l1 _ HL1.out (HB1.out _ HB.out) hn1).mono ?_
  rintro e w3 ⟨rfl, ho, hb⟩
  have Zw3 : Hid (w2.heap.size ≤ w3.heap.size) := hb.size
  replace k0 := bx_below k0 z0 hb
  replace z0 := Nat.lt_of_lt_of_le z0 hb.size
  replace Xw2 : Hid (Own w3 w1.heap.size w2.heap.size shConn g0 Aw2.toList) := Own.below Xw2.out (by have := Zw1.out; have := Zw2.out; have := Zw3.out; omega) hb
  replace HB : Hid (Below w.heap.size w w3) := HB.out.trans (hb.mono HB.out.size)
  have Xw3 : Hid (Own w3 w2.heap.size w3.heap.size u8s l1 (#[.slice (some ⟨w2.heap.size, 0, none⟩) n1 n1] : Array Value).toList) := ho
  clear ho
  clear hb
  go_wp2_with fail
  refine (CS.out _ _ Aw2 _ _ (Xw2.out.rd (Nat.le_refl _)) (Nat.le_refl _) hTT (own_rb Xw3.out).1 (own_rb Xw3.out).2 hn1).mono ?_
  rintro e w4 ⟨Nw4, rfl, ho, hb⟩
  have Zw4 : Hid (w3.heap.size ≤ w4.heap.size) := hb.size
  replace k0 := bx_below k0 z0 hb
  replace z0 := Nat.lt_of_lt_of_le z0 hb.size
  replace Xw2 : Hid (Own w4 w1.heap.size w2.heap.size shConn g0 Aw2.toList) := Own.below Xw2.out (by have := Zw1.out; have := Zw2.out; have := Zw3.out; have := Zw4.out; omega) hb
  replace Xw3 : Hid (Own w4 w2.heap.size w3.heap.size u8s l1 (#[.slice (some ⟨w2.heap.size, 0, none⟩) n1 n1] : Array Value).toList) := Own.below Xw3.out (by have := Zw1.out; have := Zw2.out; have := Zw3.out; have := Zw4.out; omega) hb
  replace HB : Hid (Below w.heap.size w w4) := HB.out.trans (hb.mono HB.out.size)
  have Xw4 : Hid (Own w4 w3.heap.size w4.heap.size shCR V Nw4.toList) := ho
  clear ho
  clear hb
  clear Xw2 CS
  clear Xw3
  have hz : Nw4.size = 18 := rd_size (Xw4.out.rd (Nat.le_refl _))
  have IS : Hid ((Tryz.prog.info? 38).map (·.size) = some Nw4.size) := by show _ = _; rw [hz]; exact (by kernel_rfl : (Tryz.prog.info? 38).map (·.size) = some 18)
  have JS : Hid ((Tryz.prog.info? 38).map (·.size) = some Nw4.toList.length) := by show _ = _; rw [Array.length_toList]; exact IS.out
  have HO : Hid (Nw4.all (·.oneCell') = true) := rd_all (Xw4.out.rd (Nat.le_refl _))
  have HX := HBX.out w4 Nw4 hz
  have HTH : Hid _ := HX.2.2.2
  have HX2 : Hid _ := HX
  clear HX hz
  go_upto_region 8 with (refine wpList_store_mid rfl 38 _ _ rfl _ _ Nw4 (by rfl) (by rfl) HTH.out IS.out HO.out ?_)
  clear HTH HO
  generalize hWW : (w4.alloc (.cells #[.int .i64 0, .int .i64 0, .int .i64 0, .int .i64 0, .bool false, .bool false, .slice none 0 0, .bool false, .int .i64 0, .bool false, .slice none 0 0, .slice none 0 0, .int .i64 0, .int .i64 0, .slice none 0 0, .slice none 0 0, .slice none 0 0, .bool false] 38)).setCells w4.heap.size 0 Nw4.toList = w5 at HX2 ⊢
  obtain ⟨zS, hb, kS, -⟩ := HX2.out
  clear hWW HX2 IS
  have Zw5 : Hid (w4.heap.size ≤ w5.heap.size) := hb.size
  replace k0 := bx_below k0 z0 hb
  replace z0 := Nat.lt_of_lt_of_le z0 hb.size
  replace Xw4 : Hid (Own w5 w3.heap.size w4.heap.size shCR V Nw4.toList) := Own.below Xw4.out (by have := Zw1.out; have := Zw2.out; have := Zw3.out; have := Zw4.out; have := Zw5.out; omega) hb
  replace HB : Hid (Below w.heap.size w w5) := HB.out.trans (hb.mono HB.out.size)
  have YS : Hid (w4.heap.size < w5.heap.size) := zS
  clear hb
  go_wp2_with (first | (refine wpList_load_mid rfl 28 _ rfl _ _ (by rfl) A0.toList _ (bx_range k0) Tryz.underlying28 rfl HI0.out ?_) | (refine wpList_load_mid rfl 38 _ rfl _ _ (by rfl) Nw4.toList _ (bx_range kS) Tryz.underlying38 rfl JS.out ?_))
  refine (lToConn g0 A0 _ w.heap.size (HP.out _ HB.out) HB.out.size hTT).mono ?_
  rintro e w6 ⟨Aw6, rfl, ho, hb⟩
  have Zw6 : Hid (w5.heap.size ≤ w6.heap.size) := hb.size
  replace k0 := bx_below k0 z0 hb
  replace z0 := Nat.lt_of_lt_of_le z0 hb.size
  replace kS := bx_below kS zS hb
  replace zS := Nat.lt_of_lt_of_le zS hb.size
  replace Xw4 : Hid (Own w6 w3.heap.size w4.heap.size shCR V Nw4.toList) := Own.below Xw4.out (by have := Zw1.out; have := Zw2.out; have := Zw3.out; have := Zw4.out; have := Zw5.out; have := YS.out; have := Zw6.out; omega) hb
  replace HB : Hid (Below w.heap.size w w6) := HB.out.trans (hb.mono HB.out.size)
  have Xw6 : Hid (Own w6 w5.heap.size w6.heap.size shConn g0 Aw6.toList) := ho
  clear ho
  clear hb
  have hz : Aw6.size = 14 := rd_size (Xw6.out.rd (Nat.le_refl _))
  have IX : Hid ((Tryz.prog.info? 35).map (·.size) = some Aw6.size) := by show _ = _; rw [hz]; exact (by kernel_rfl : (Tryz.prog.info? 35).map (·.size) = some 14)
  have JX : Hid ((Tryz.prog.info? 35).map (·.size) = some Aw6.toList.length) := by show _ = _; rw [Array.length_toList]; exact IX.out
  have HO : Hid (Aw6.all (·.oneCell') = true) := rd_all (Xw6.out.rd (Nat.le_refl _))
  have HX := HBC.out w6 Aw6 hz
  have HTH : Hid _ := HX.2.2.2
  have HX2 : Hid _ := HX
  clear HX hz
  go_upto_region 9 with (refine wpList_store_mid rfl 35 _ _ rfl _ _ Aw6 (by rfl) (by rfl) HTH.out IX.out HO.out ?_)
  clear HTH HO
  generalize hWW : (w6.alloc (.cells #[.int .i64 0, .int .i64 0, .int .i64 0, .bool false, .bool false, .slice none 0 0, .bool false, .int .i64 0, .bool false, .slice none 0 0, .slice none 0 0, .int .i64 0, .int .i64 0, .slice none 0 0] 35)).setCells w6.heap.size 0 Aw6.toList = w7 at HX2 ⊢
  obtain ⟨zX, hb, kX, -⟩ := HX2.out
  clear hWW HX2 IX
  have Zw7 : Hid (w6.heap.size ≤ w7.heap.size) := hb.size
  replace k0 := bx_below k0 z0 hb
  replace z0 := Nat.lt_of_lt_of_le z0 hb.size
  replace kS := bx_below kS zS hb
  replace zS := Nat.lt_of_lt_of_le zS hb.size
  replace Xw4 : Hid (Own w7 w3.heap.size w4.heap.size shCR V Nw4.toList) := Own.below Xw4.out (by have := Zw1.out; have := Zw2.out; have := Zw3.out; have := Zw4.out; have := Zw5.out; have := YS.out; have := Zw6.out; have := Zw7.out; omega) hb
  replace Xw6 : Hid (Own w7 w5.heap.size w6.heap.size shConn g0 Aw6.toList) := Own.below Xw6.out (by have := Zw1.out; have := Zw2.out; have := Zw3.out; have := Zw4.out; have := Zw5.out; have := YS.out; have := Zw6.out; have := Zw7.out; omega) hb
  replace HB : Hid (Below w.heap.size w w7) := HB.out.trans (hb.mono HB.out.size)
  have YX : Hid (w6.heap.size < w7.heap.size) := zX
  clear hb
  go_wp2_with fail
  refine (lToBy a1 n1 c1 l1 _ HL1.out (HB1.out _ HB.out) hn1).mono ?_
  rintro e w8 ⟨rfl, ho, hb⟩
  have Zw8 : Hid (w7.heap.size ≤ w8.heap.size) := hb.size
  replace k0 := bx_below k0 z0 hb
  replace z0 := Nat.lt_of_lt_of_le z0 hb.size
  replace kS := bx_below kS zS hb
  replace zS := Nat.lt_of_lt_of_le zS hb.size
  replace kX := bx_below kX zX hb
  replace zX := Nat.lt_of_lt_of_le zX hb.size
  replace Xw4 : Hid (Own w8 w3.heap.size w4.heap.size shCR V Nw4.toList) := Own.below Xw4.out (by have := Zw1.out; have := Zw2.out; have := Zw3.out; have := Zw4.out; have := Zw5.out; have := YS.out; have := Zw6.out; have := Zw7.out; have := YX.out; have := Zw8.out; omega) hb
  replace Xw6 : Hid (Own w8 w5.heap.size w6.heap.size shConn g0 Aw6.toList) := Own.below Xw6.out (by have := Zw1.out; have := Zw2.out; have := Zw3.out; have := Zw4.out; have := Zw5.out; have := YS.out; have := Zw6.out; have := Zw7.out; have := YX.out; have := Zw8.out; omega) hb
  replace HB : Hid (Below w.heap.size w w8) := HB.out.trans (hb.mono HB.out.size)
  have Xw8 : Hid (Own w8 w7.heap.size w8.heap.size u8s l1 (#[.slice (some ⟨w7.heap.size, 0, none⟩) n1 n1] : Array Value).toList) := ho
  clear ho
  clear hb
  go_wp2_with (first | (refine wpList_load_mid rfl 28 _ rfl _ _ (by rfl) A0.toList _ (bx_range k0) Tryz.underlying28 rfl HI0.out ?_) | (refine wpList_load_mid rfl 38 _ rfl _ _ (by rfl) Nw4.toList _ (bx_range kS) Tryz.underlying38 rfl JS.out ?_) | (refine wpList_load_mid rfl 35 _ rfl _ _ (by rfl) Aw6.toList _ (bx_range kX) Tryz.underlying35 rfl JX.out ?_))
  refine (CI.out _ _ Aw6 _ _ (Xw6.out.rd (Nat.le_refl _)) (Nat.le_refl _) hTT (own_rb Xw8.out).1 (own_rb Xw8.out).2 hn1 (HEL.out _ HB.out)).mono ?_
  rintro e w9 ⟨Nw9, rfl, ho, hb⟩
  have Zw9 : Hid (w8.heap.size ≤ w9.heap.size) := hb.size
  replace k0 := bx_below k0 z0 hb
  replace z0 := Nat.lt_of_lt_of_le z0 hb.size
  replace kS := bx_below kS zS hb
  replace zS := Nat.lt_of_lt_of_le zS hb.size
  replace kX := bx_below kX zX hb
  replace zX := Nat.lt_of_lt_of_le zX hb.size
  replace Xw4 : Hid (Own w9 w3.heap.size w4.heap.size shCR V Nw4.toList) := Own.below Xw4.out (by have := Zw1.out; have := Zw2.out; have := Zw3.out; have := Zw4.out; have := Zw5.out; have := YS.out; have := Zw6.out; have := Zw7.out; have := YX.out; have := Zw8.out; have := Zw9.out; omega) hb
  replace Xw6 : Hid (Own w9 w5.heap.size w6.heap.size shConn g0 Aw6.toList) := Own.below Xw6.out (by have := Zw1.out; have := Zw2.out; have := Zw3.out; have := Zw4.out; have := Zw5.out; have := YS.out; have := Zw6.out; have := Zw7.out; have := YX.out; have := Zw8.out; have := Zw9.out; omega) hb
  replace Xw8 : Hid (Own w9 w7.heap.size w8.heap.size u8s l1 (#[.slice (some ⟨w7.heap.size, 0, none⟩) n1 n1] : Array Value).toList) := Own.below Xw8.out (by have := Zw1.out; have := Zw2.out; have := Zw3.out; have := Zw4.out; have := Zw5.out; have := YS.out; have := Zw6.out; have := Zw7.out; have := YX.out; have := Zw8.out; have := Zw9.out; omega) hb
  replace HB : Hid (Below w.heap.size w w9) := HB.out.trans (hb.mono HB.out.size)
  have Xw9 : Hid (Own w9 w8.heap.size w9.heap.size shCR V Nw9.toList) := ho
  clear ho
  clear hb
  have hz : Nw9.size = 18 := rd_size (Xw9.out.rd (Nat.le_refl _))
  have IG : Hid ((Tryz.prog.info? 38).map (·.size) = some Nw9.size) := by show _ = _; rw [hz]; exact (by kernel_rfl : (Tryz.prog.info? 38).map (·.size) = some 18)
  have JG : Hid ((Tryz.prog.info? 38).map (·.size) = some Nw9.toList.length) := by show _ = _; rw [Array.length_toList]; exact IG.out
  have HO : Hid (Nw9.all (·.oneCell') = true) := rd_all (Xw9.out.rd (Nat.le_refl _))
  have HX := HBX.out w9 Nw9 hz
  have HTH : Hid _ := HX.2.2.2
  have HX2 : Hid _ := HX
  clear HX hz
  go_upto_region 11 with (refine wpList_store_mid rfl 38 _ _ rfl _ _ Nw9 (by rfl) (by rfl) HTH.out IG.out HO.out ?_)
  clear HTH HO
  generalize hWW : (w9.alloc (.cells #[.int .i64 0, .int .i64 0, .int .i64 0, .int .i64 0, .bool false, .bool false, .slice none 0 0, .bool false, .int .i64 0, .bool false, .slice none 0 0, .slice none 0 0, .int .i64 0, .int .i64 0, .slice none 0 0, .slice none 0 0, .slice none 0 0, .bool false] 38)).setCells w9.heap.size 0 Nw9.toList = w10 at HX2 ⊢
  obtain ⟨zG, hb, kG, -⟩ := HX2.out
  clear hWW HX2 IG
  have Zw10 : Hid (w9.heap.size ≤ w10.heap.size) := hb.size
  replace k0 := bx_below k0 z0 hb
  replace z0 := Nat.lt_of_lt_of_le z0 hb.size
  replace kS := bx_below kS zS hb
  replace zS := Nat.lt_of_lt_of_le zS hb.size
  replace kX := bx_below kX zX hb
  replace zX := Nat.lt_of_lt_of_le zX hb.size
  replace Xw4 : Hid (Own w10 w3.heap.size w4.heap.size shCR V Nw4.toList) := Own.below Xw4.out (by have := Zw1.out; have := Zw2.out; have := Zw3.out; have := Zw4.out; have := Zw5.out; have := YS.out; have := Zw6.out; have := Zw7.out; have := YX.out; have := Zw8.out; have := Zw9.out; have := Zw10.out; omega) hb
  replace Xw6 : Hid (Own w10 w5.heap.size w6.heap.size shConn g0 Aw6.toList) := Own.below Xw6.out (by have := Zw1.out; have := Zw2.out; have := Zw3.out; have := Zw4.out; have := Zw5.out; have := YS.out; have := Zw6.out; have := Zw7.out; have := YX.out; have := Zw8.out; have := Zw9.out; have := Zw10.out; omega) hb
  replace Xw8 : Hid (Own w10 w7.heap.size w8.heap.size u8s l1 (#[.slice (some ⟨w7.heap.size, 0, none⟩) n1 n1] : Array Value).toList) := Own.below Xw8.out (by have := Zw1.out; have := Zw2.out; have := Zw3.out; have := Zw4.out; have := Zw5.out; have := YS.out; have := Zw6.out; have := Zw7.out; have := YX.out; have := Zw8.out; have := Zw9.out; have := Zw10.out; omega) hb
  replace Xw9 : Hid (Own w10 w8.heap.size w9.heap.size shCR V Nw9.toList) := Own.below Xw9.out (by have := Zw1.out; have := Zw2.out; have := Zw3.out; have := Zw4.out; have := Zw5.out; have := YS.out; have := Zw6.out; have := Zw7.out; have := YX.out; have := Zw8.out; have := Zw9.out; have := Zw10.out; omega) hb
  replace HB : Hid (Below w.heap.size w w10) := HB.out.trans (hb.mono HB.out.size)
  have YG : Hid (w9.heap.size < w10.heap.size) := zG
  clear hb
  go_wp2_with (first | (refine wpList_load_mid rfl 28 _ rfl _ _ (by rfl) A0.toList _ (bx_range k0) Tryz.underlying28 rfl HI0.out ?_) | (refine wpList_load_mid rfl 38 _ rfl _ _ (by rfl) Nw4.toList _ (bx_range kS) Tryz.underlying38 rfl JS.out ?_) | (refine wpList_load_mid rfl 35 _ rfl _ _ (by rfl) Aw6.toList _ (bx_range kX) Tryz.underlying35 rfl JX.out ?_) | (refine wpList_load_mid rfl 38 _ rfl _ _ (by rfl) Nw9.toList _ (bx_range kG) Tryz.underlying38 rfl JG.out ?_))
  refine (lEqConnR V Nw9 Nw4 _ _ (Xw9.out.rd (Nat.le_refl _)) (Xw4.out.rd (Nat.le_refl _)) (Nat.le_refl _) hVT).mono ?_
  rintro e w11 ⟨rfl, hb⟩
  have Zw11 : Hid (w10.heap.size ≤ w11.heap.size) := hb.size
  replace k0 := bx_below k0 z0 hb
  replace z0 := Nat.lt_of_lt_of_le z0 hb.size
  replace kS := bx_below kS zS hb
  replace zS := Nat.lt_of_lt_of_le zS hb.size
  replace kX := bx_below kX zX hb
  replace zX := Nat.lt_of_lt_of_le zX hb.size
  replace kG := bx_below kG zG hb
  replace zG := Nat.lt_of_lt_of_le zG hb.size
  replace Xw4 : Hid (Own w11 w3.heap.size w4.heap.size shCR V Nw4.toList) := Own.below Xw4.out (by have := Zw1.out; have := Zw2.out; have := Zw3.out; have := Zw4.out; have := Zw5.out; have := YS.out; have := Zw6.out; have := Zw7.out; have := YX.out; have := Zw8.out; have := Zw9.out; have := Zw10.out; have := YG.out; have := Zw11.out; omega) hb
  replace Xw6 : Hid (Own w11 w5.heap.size w6.heap.size shConn g0 Aw6.toList) := Own.below Xw6.out (by have := Zw1.out; have := Zw2.out; have := Zw3.out; have := Zw4.out; have := Zw5.out; have := YS.out; have := Zw6.out; have := Zw7.out; have := YX.out; have := Zw8.out; have := Zw9.out; have := Zw10.out; have := YG.out; have := Zw11.out; omega) hb
  replace Xw8 : Hid (Own w11 w7.heap.size w8.heap.size u8s l1 (#[.slice (some ⟨w7.heap.size, 0, none⟩) n1 n1] : Array Value).toList) := Own.below Xw8.out (by have := Zw1.out; have := Zw2.out; have := Zw3.out; have := Zw4.out; have := Zw5.out; have := YS.out; have := Zw6.out; have := Zw7.out; have := YX.out; have := Zw8.out; have := Zw9.out; have := Zw10.out; have := YG.out; have := Zw11.out; omega) hb
  replace Xw9 : Hid (Own w11 w8.heap.size w9.heap.size shCR V Nw9.toList) := Own.below Xw9.out (by have := Zw1.out; have := Zw2.out; have := Zw3.out; have := Zw4.out; have := Zw5.out; have := YS.out; have := Zw6.out; have := Zw7.out; have := YX.out; have := Zw8.out; have := Zw9.out; have := Zw10.out; have := YG.out; have := Zw11.out; omega) hb
  replace HB : Hid (Below w.heap.size w w11) := HB.out.trans (hb.mono HB.out.size)
  clear hb
  have HXO : Hid (∀ W, Below w11.heap.size w11 W → shConn.Rd W w11.heap.size g0 Aw6.toList) := fun W hW => Sh.Rd.below (Xw6.out.rd (Nat.le_refl _)) (Nat.le_refl _) hW
  go_upto_region 13 with fail
  go_cut [42] (fun u wx => u = .bool false ∧ Hid (Below w11.heap.size w11 wx))
  case first =>
    refine wp_region_noPanic ?_
    refine Goes.start (S := fun w' => Below w11.heap.size w11 w') (z := 100) (by kernel_rfl) ?_
    refine Goes.take (i := 0) (oi := ?oi2) (x := .agg (Aw6.toList).toArray) ?ho2 (by kernel_rfl) (by kernel_rfl) (by kernel_rfl) (by kernel_rfl) (fun _ _ _ h => h) ?hy2 (Below.drew (Below.refl _ _)) ?rest2
    case ho2 => (simp only [List.getElem?_toArray, List.getElem?_cons_zero]; rfl)
    case hy2 => exact yieldsIf_load_mid (by rfl) 35 _ rfl (w6.heap.size) (0) (by rfl) (Aw6.toList) _ (fun w' hSw => bx_range (fun o => (hSw.cell (p := ⟨w6.heap.size, o, none⟩) zX).trans (kX o))) Tryz.underlying35 rfl JX.out
    case rest2 =>
    (try simp only [Act.put, List.setIfInBounds_toArray, List.set_cons_zero, List.set_cons_succ])
    refine Goes.take (i := 1) (oi := ?oi3) (x := .agg (A0.toList).toArray) ?ho3 (by kernel_rfl) (by kernel_rfl) (by kernel_rfl) (by kernel_rfl) (fun _ _ _ h => h) ?hy3 (Below.drew (Below.refl _ _)) ?rest3
    case ho3 => (simp only [List.getElem?_toArray, List.getElem?_cons_succ, List.getElem?_cons_zero]; rfl)
    case hy3 => exact yieldsIf_load_mid (by rfl) 28 _ rfl (w.heap.size) (0) (by rfl) (A0.toList) _ (fun w' hSw => bx_range (fun o => (hSw.cell (p := ⟨w.heap.size, o, none⟩) z0).trans (k0 o))) Tryz.underlying28 rfl HI0.out
    case rest3 =>
    (try simp only [Act.put, List.setIfInBounds_toArray, List.set_cons_zero, List.set_cons_succ])
    refine Goes.all (rs := [2]) (by kernel_rfl) (by simp) ?_
    refine Ups.cons (i := 2) (o := ?oo4) ?ho4 (fun KK hKK => ?stp4) Ups.nil
    case ho4 => (simp only [List.getElem?_toArray, List.getElem?_cons_succ, List.getElem?_cons_zero]; rfl)
    case stp4 =>
    go_simp
    go_at_call 8
    refine (lToConn g0 A0 _ w.heap.size (HP.out _ (HB.out.trans (Below.drew (Below.refl _ _)))) HB.out.size hTT).mono ?_
    rintro e wq8 ⟨A8, rfl, ho, hbq⟩
    have X8 : Hid (shConn.Rd wq8 wq8.heap.size g0 A8.toList) := ho.rd (Nat.le_refl _)
    replace hbq := (Below.drew (Below.refl w11.heap.size w11)).trans hbq
    have HS8 : Hid (Below w11.heap.size w11 wq8) := hbq
    clear hbq ho
    dsimp only
    refine hKK.out _ _ (Or.inr HS8.out) ?_
    clear hKK KK
    (try simp only [Act.put, List.setIfInBounds_toArray, List.set_cons_zero, List.set_cons_succ])
    refine Goes.all (rs := [3]) (by kernel_rfl) (by simp) ?_
    refine Ups.cons (i := 3) (o := ?oo5) ?ho5 (fun KK hKK => ?stp5) Ups.nil
    case ho5 => (simp only [List.getElem?_toArray, List.getElem?_cons_succ, List.getElem?_cons_zero]; rfl)
    case stp5 =>
    go_simp
    go_at_call 12
    refine (lEqConn g0 Aw6 A8 _ wq8.heap.size (Sh.Rd.mono HS8.out.size _ _ _ (HXO.out _ HS8.out)) X8.out (Nat.le_refl _) hTT).mono ?_
    rintro e wq9 ⟨rfl, hbq⟩
    replace hbq := HS8.out.trans (hbq.mono HS8.out.size)
    have HS5 : Hid (Below w11.heap.size w11 wq9) := hbq
    clear hbq
    dsimp only
    refine hKK.out _ _ (Or.inr HS5.out) ?_
    clear hKK KK
    (try simp only [Act.put, List.setIfInBounds_toArray, List.set_cons_zero, List.set_cons_succ])
    refine Goes.take (i := 4) (oi := ?oi6) (x := ?vx6) ?ho6 (by kernel_rfl) (by kernel_rfl) (by kernel_rfl) (by kernel_rfl) (fun _ _ _ h => h) (Or.inl ⟨?hw6, ?hy6⟩) HS5.out ?rest6
    case ho6 => (simp only [List.getElem?_toArray, List.getElem?_cons_succ, List.getElem?_cons_zero]; rfl)
    case hw6 => rfl
    case hy6 => (intro w' hSw; go_simp; (try with_reducible rfl))
    case rest6 =>
    (try simp only [Act.put, List.setIfInBounds_toArray, List.set_cons_zero, List.set_cons_succ])
    refine Goes.done (by kernel_rfl) ?_ _
    refine NoPanic.normal ?_
    go_wp2_with fail
    go_meet
    exact ⟨rfl, by assumption⟩
  case rest =>
  rename World => w12
  obtain ⟨rfl, hb⟩ := hcut
  replace hb := hb.out
  have Zw12 : Hid (w11.heap.size ≤ w12.heap.size) := hb.size
  replace k0 := bx_below k0 z0 hb
  replace z0 := Nat.lt_of_lt_of_le z0 hb.size
  replace kS := bx_below kS zS hb
  replace zS := Nat.lt_of_lt_of_le zS hb.size
  replace kX := bx_below kX zX hb
  replace zX := Nat.lt_of_lt_of_le zX hb.size
  replace kG := bx_below kG zG hb
  replace zG := Nat.lt_of_lt_of_le zG hb.size
  replace Xw4 : Hid (Own w12 w3.heap.size w4.heap.size shCR V Nw4.toList) := Own.below Xw4.out (by have := Zw1.out; have := Zw2.out; have := Zw3.out; have := Zw4.out; have := Zw5.out; have := YS.out; have := Zw6.out; have := Zw7.out; have := YX.out; have := Zw8.out; have := Zw9.out; have := Zw10.out; have := YG.out; have := Zw11.out; have := Zw12.out; omega) hb
  replace Xw6 : Hid (Own w12 w5.heap.size w6.heap.size shConn g0 Aw6.toList) := Own.below Xw6.out (by have := Zw1.out; have := Zw2.out; have := Zw3.out; have := Zw4.out; have := Zw5.out; have := YS.out; have := Zw6.out; have := Zw7.out; have := YX.out; have := Zw8.out; have := Zw9.out; have := Zw10.out; have := YG.out; have := Zw11.out; have := Zw12.out; omega) hb
  replace Xw8 : Hid (Own w12 w7.heap.size w8.heap.size u8s l1 (#[.slice (some ⟨w7.heap.size, 0, none⟩) n1 n1] : Array Value).toList) := Own.below Xw8.out (by have := Zw1.out; have := Zw2.out; have := Zw3.out; have := Zw4.out; have := Zw5.out; have := YS.out; have := Zw6.out; have := Zw7.out; have := YX.out; have := Zw8.out; have := Zw9.out; have := Zw10.out; have := YG.out; have := Zw11.out; have := Zw12.out; omega) hb
  replace Xw9 : Hid (Own w12 w8.heap.size w9.heap.size shCR V Nw9.toList) := Own.below Xw9.out (by have := Zw1.out; have := Zw2.out; have := Zw3.out; have := Zw4.out; have := Zw5.out; have := YS.out; have := Zw6.out; have := Zw7.out; have := YX.out; have := Zw8.out; have := Zw9.out; have := Zw10.out; have := YG.out; have := Zw11.out; have := Zw12.out; omega) hb
  replace HB : Hid (Below w.heap.size w w12) := HB.out.trans (hb.mono HB.out.size)
  clear hb HXO
  go_wp2_with fail
  refine (lToBy a1 n1 c1 l1 _ HL1.out (HB1.out _ HB.out) hn1).mono ?_
  rintro e w13 ⟨rfl, ho, hb⟩
  have Zw13 : Hid (w12.heap.size ≤ w13.heap.size) := hb.size
  replace k0 := bx_below k0 z0 hb
  replace z0 := Nat.lt_of_lt_of_le z0 hb.size
  replace kS := bx_below kS zS hb
  replace zS := Nat.lt_of_lt_of_le zS hb.size
  replace kX := bx_below kX zX hb
  replace zX := Nat.lt_of_lt_of_le zX hb.size
  replace kG := bx_below kG zG hb
  replace zG := Nat.lt_of_lt_of_le zG hb.size
  replace Xw4 : Hid (Own w13 w3.heap.size w4.heap.size shCR V Nw4.toList) := Own.below Xw4.out (by have := Zw1.out; have := Zw2.out; have := Zw3.out; have := Zw4.out; have := Zw5.out; have := YS.out; have := Zw6.out; have := Zw7.out; have := YX.out; have := Zw8.out; have := Zw9.out; have := Zw10.out; have := YG.out; have := Zw11.out; have := Zw12.out; have := Zw13.out; omega) hb
  replace Xw6 : Hid (Own w13 w5.heap.size w6.heap.size shConn g0 Aw6.toList) := Own.below Xw6.out (by have := Zw1.out; have := Zw2.out; have := Zw3.out; have := Zw4.out; have := Zw5.out; have := YS.out; have := Zw6.out; have := Zw7.out; have := YX.out; have := Zw8.out; have := Zw9.out; have := Zw10.out; have := YG.out; have := Zw11.out; have := Zw12.out; have := Zw13.out; omega) hb
  replace Xw8 : Hid (Own w13 w7.heap.size w8.heap.size u8s l1 (#[.slice (some ⟨w7.heap.size, 0, none⟩) n1 n1] : Array Value).toList) := Own.below Xw8.out (by have := Zw1.out; have := Zw2.out; have := Zw3.out; have := Zw4.out; have := Zw5.out; have := YS.out; have := Zw6.out; have := Zw7.out; have := YX.out; have := Zw8.out; have := Zw9.out; have := Zw10.out; have := YG.out; have := Zw11.out; have := Zw12.out; have := Zw13.out; omega) hb
  replace Xw9 : Hid (Own w13 w8.heap.size w9.heap.size shCR V Nw9.toList) := Own.below Xw9.out (by have := Zw1.out; have := Zw2.out; have := Zw3.out; have := Zw4.out; have := Zw5.out; have := YS.out; have := Zw6.out; have := Zw7.out; have := YX.out; have := Zw8.out; have := Zw9.out; have := Zw10.out; have := YG.out; have := Zw11.out; have := Zw12.out; have := Zw13.out; omega) hb
  replace HB : Hid (Below w.heap.size w w13) := HB.out.trans (hb.mono HB.out.size)
  have Xw13 : Hid (Own w13 w12.heap.size w13.heap.size u8s l1 (#[.slice (some ⟨w12.heap.size, 0, none⟩) n1 n1] : Array Value).toList) := ho
  clear ho
  clear hb
  go_wp2_with fail
  refine (lEqBytes l1 _ _ _ _ (Xw8.out.rd (Nat.le_refl _)) (Xw13.out.rd (Nat.le_refl _)) (Nat.le_refl _) (by rw [HL1.out]; exact hn1)).mono ?_
  rintro e w14 ⟨rfl, hb⟩
  have Zw14 : Hid (w13.heap.size ≤ w14.heap.size) := hb.size
  replace k0 := bx_below k0 z0 hb
  replace z0 := Nat.lt_of_lt_of_le z0 hb.size
  replace kS := bx_below kS zS hb
  replace zS := Nat.lt_of_lt_of_le zS hb.size
  replace kX := bx_below kX zX hb
  replace zX := Nat.lt_of_lt_of_le zX hb.size
  replace kG := bx_below kG zG hb
  replace zG := Nat.lt_of_lt_of_le zG hb.size
  replace Xw4 : Hid (Own w14 w3.heap.size w4.heap.size shCR V Nw4.toList) := Own.below Xw4.out (by have := Zw1.out; have := Zw2.out; have := Zw3.out; have := Zw4.out; have := Zw5.out; have := YS.out; have := Zw6.out; have := Zw7.out; have := YX.out; have := Zw8.out; have := Zw9.out; have := Zw10.out; have := YG.out; have := Zw11.out; have := Zw12.out; have := Zw13.out; have := Zw14.out; omega) hb
  replace Xw6 : Hid (Own w14 w5.heap.size w6.heap.size shConn g0 Aw6.toList) := Own.below Xw6.out (by have := Zw1.out; have := Zw2.out; have := Zw3.out; have := Zw4.out; have := Zw5.out; have := YS.out; have := Zw6.out; have := Zw7.out; have := YX.out; have := Zw8.out; have := Zw9.out; have := Zw10.out; have := YG.out; have := Zw11.out; have := Zw12.out; have := Zw13.out; have := Zw14.out; omega) hb
  replace Xw8 : Hid (Own w14 w7.heap.size w8.heap.size u8s l1 (#[.slice (some ⟨w7.heap.size, 0, none⟩) n1 n1] : Array Value).toList) := Own.below Xw8.out (by have := Zw1.out; have := Zw2.out; have := Zw3.out; have := Zw4.out; have := Zw5.out; have := YS.out; have := Zw6.out; have := Zw7.out; have := YX.out; have := Zw8.out; have := Zw9.out; have := Zw10.out; have := YG.out; have := Zw11.out; have := Zw12.out; have := Zw13.out; have := Zw14.out; omega) hb
  replace Xw9 : Hid (Own w14 w8.heap.size w9.heap.size shCR V Nw9.toList) := Own.below Xw9.out (by have := Zw1.out; have := Zw2.out; have := Zw3.out; have := Zw4.out; have := Zw5.out; have := YS.out; have := Zw6.out; have := Zw7.out; have := YX.out; have := Zw8.out; have := Zw9.out; have := Zw10.out; have := YG.out; have := Zw11.out; have := Zw12.out; have := Zw13.out; have := Zw14.out; omega) hb
  replace Xw13 : Hid (Own w14 w12.heap.size w13.heap.size u8s l1 (#[.slice (some ⟨w12.heap.size, 0, none⟩) n1 n1] : Array Value).toList) := Own.below Xw13.out (by have := Zw1.out; have := Zw2.out; have := Zw3.out; have := Zw4.out; have := Zw5.out; have := YS.out; have := Zw6.out; have := Zw7.out; have := YX.out; have := Zw8.out; have := Zw9.out; have := Zw10.out; have := YG.out; have := Zw11.out; have := Zw12.out; have := Zw13.out; have := Zw14.out; omega) hb
  replace HB : Hid (Below w.heap.size w w14) := HB.out.trans (hb.mono HB.out.size)
  clear hb
  clear Xw13
  go_wp2_with (first | (refine wpList_load_mid rfl 28 _ rfl _ _ (by rfl) A0.toList _ (bx_range k0) Tryz.underlying28 rfl HI0.out ?_) | (refine wpList_load_mid rfl 38 _ rfl _ _ (by rfl) Nw4.toList _ (bx_range kS) Tryz.underlying38 rfl JS.out ?_) | (refine wpList_load_mid rfl 35 _ rfl _ _ (by rfl) Aw6.toList _ (bx_range kX) Tryz.underlying35 rfl JX.out ?_) | (refine wpList_load_mid rfl 38 _ rfl _ _ (by rfl) Nw9.toList _ (bx_range kG) Tryz.underlying38 rfl JG.out ?_))
  refine (lMarkConn g0 Aw6 1 _ _ _ (Own.connO Xw6.out) hTT (by omega) (by omega)).mono ?_
  rintro e w15 ⟨rfl, ho, hw⟩
  have Zw15 : Hid (w14.heap.size ≤ w15.heap.size) := hw.size
  replace k0 := bx_keep k0 (hw.block _ z0 (by have := Zw1.out; have := Zw2.out; have := Zw3.out; have := Zw4.out; have := Zw5.out; have := YS.out; have := Zw6.out; have := Zw7.out; have := YX.out; have := Zw8.out; have := Zw9.out; have := Zw10.out; have := YG.out; have := Zw11.out; have := Zw12.out; have := Zw13.out; have := Zw14.out; have := Zw15.out; omega))
  replace z0 := Nat.lt_of_lt_of_le z0 hw.size
  replace kS := bx_keep kS (hw.block _ zS (by have := Zw1.out; have := Zw2.out; have := Zw3.out; have := Zw4.out; have := Zw5.out; have := YS.out; have := Zw6.out; have := Zw7.out; have := YX.out; have := Zw8.out; have := Zw9.out; have := Zw10.out; have := YG.out; have := Zw11.out; have := Zw12.out; have := Zw13.out; have := Zw14.out; have := Zw15.out; omega))
  replace zS := Nat.lt_of_lt_of_le zS hw.size
  replace kX := bx_keep kX (hw.block _ zX (by have := Zw1.out; have := Zw2.out; have := Zw3.out; have := Zw4.out; have := Zw5.out; have := YS.out; have := Zw6.out; have := Zw7.out; have := YX.out; have := Zw8.out; have := Zw9.out; have := Zw10.out; have := YG.out; have := Zw11.out; have := Zw12.out; have := Zw13.out; have := Zw14.out; have := Zw15.out; omega))
  replace zX := Nat.lt_of_lt_of_le zX hw.size
  replace kG := bx_keep kG (hw.block _ zG (by have := Zw1.out; have := Zw2.out; have := Zw3.out; have := Zw4.out; have := Zw5.out; have := YS.out; have := Zw6.out; have := Zw7.out; have := YX.out; have := Zw8.out; have := Zw9.out; have := Zw10.out; have := YG.out; have := Zw11.out; have := Zw12.out; have := Zw13.out; have := Zw14.out; have := Zw15.out; omega))
  replace zG := Nat.lt_of_lt_of_le zG hw.size
  replace Xw4 : Hid (Own w15 w3.heap.size w4.heap.size shCR V Nw4.toList) := Own.keep Xw4.out (fun b h1 h2 => hw.block b (by have := Zw1.out; have := Zw2.out; have := Zw3.out; have := Zw4.out; have := Zw5.out; have := YS.out; have := Zw6.out; have := Zw7.out; have := YX.out; have := Zw8.out; have := Zw9.out; have := Zw10.out; have := YG.out; have := Zw11.out; have := Zw12.out; have := Zw13.out; have := Zw14.out; have := Zw15.out; omega) (by have := Zw1.out; have := Zw2.out; have := Zw3.out; have := Zw4.out; have := Zw5.out; have := YS.out; have := Zw6.out; have := Zw7.out; have := YX.out; have := Zw8.out; have := Zw9.out; have := Zw10.out; have := YG.out; have := Zw11.out; have := Zw12.out; have := Zw13.out; have := Zw14.out; have := Zw15.out; omega))
  replace Xw8 : Hid (Own w15 w7.heap.size w8.heap.size u8s l1 (#[.slice (some ⟨w7.heap.size, 0, none⟩) n1 n1] : Array Value).toList) := Own.keep Xw8.out (fun b h1 h2 => hw.block b (by have := Zw1.out; have := Zw2.out; have := Zw3.out; have := Zw4.out; have := Zw5.out; have := YS.out; have := Zw6.out; have := Zw7.out; have := YX.out; have := Zw8.out; have := Zw9.out; have := Zw10.out; have := YG.out; have := Zw11.out; have := Zw12.out; have := Zw13.out; have := Zw14.out; have := Zw15.out; omega) (by have := Zw1.out; have := Zw2.out; have := Zw3.out; have := Zw4.out; have := Zw5.out; have := YS.out; have := Zw6.out; have := Zw7.out; have := YX.out; have := Zw8.out; have := Zw9.out; have := Zw10.out; have := YG.out; have := Zw11.out; have := Zw12.out; have := Zw13.out; have := Zw14.out; have := Zw15.out; omega))
  replace Xw9 : Hid (Own w15 w8.heap.size w9.heap.size shCR V Nw9.toList) := Own.keep Xw9.out (fun b h1 h2 => hw.block b (by have := Zw1.out; have := Zw2.out; have := Zw3.out; have := Zw4.out; have := Zw5.out; have := YS.out; have := Zw6.out; have := Zw7.out; have := YX.out; have := Zw8.out; have := Zw9.out; have := Zw10.out; have := YG.out; have := Zw11.out; have := Zw12.out; have := Zw13.out; have := Zw14.out; have := Zw15.out; omega) (by have := Zw1.out; have := Zw2.out; have := Zw3.out; have := Zw4.out; have := Zw5.out; have := YS.out; have := Zw6.out; have := Zw7.out; have := YX.out; have := Zw8.out; have := Zw9.out; have := Zw10.out; have := YG.out; have := Zw11.out; have := Zw12.out; have := Zw13.out; have := Zw14.out; have := Zw15.out; omega))
  replace Xw6 : Hid (Own w15 w5.heap.size w6.heap.size shConnO (mkConn 1 g0) Aw6.toList) := ho
  replace HB : Hid (Below w.heap.size w w15) := within_below HB.out hw (by have := Zw1.out; have := Zw2.out; have := Zw3.out; have := Zw4.out; have := Zw5.out; have := YS.out; have := Zw6.out; have := Zw7.out; have := YX.out; have := Zw8.out; have := Zw9.out; have := Zw10.out; have := YG.out; have := Zw11.out; have := Zw12.out; have := Zw13.out; have := Zw14.out; have := Zw15.out; omega) HB.out.size
  clear ho hw
  clear Xw6
  have hwc : wtConn g0 ≤ 16777216 := wtConn_le hTT
  go_wp2_with fail
  refine (lMarkBytesO l1 _ _ _ _ _ Xw8.out (by rw [HL1.out]; omega) (by omega) (by omega)).mono ?_
  rw [HL1.out]
  rintro e w16 ⟨rfl, ho, hw⟩
  have Zw16 : Hid (w15.heap.size ≤ w16.heap.size) := hw.size
  replace k0 := bx_keep k0 (hw.block _ z0 (by have := Zw1.out; have := Zw2.out; have := Zw3.out; have := Zw4.out; have := Zw5.out; have := YS.out; have := Zw6.out; have := Zw7.out; have := YX.out; have := Zw8.out; have := Zw9.out; have := Zw10.out; have := YG.out; have := Zw11.out; have := Zw12.out; have := Zw13.out; have := Zw14.out; have := Zw15.out; have := Zw16.out; omega))
  replace z0 := Nat.lt_of_lt_of_le z0 hw.size
  replace kS := bx_keep kS (hw.block _ zS (by have := Zw1.out; have := Zw2.out; have := Zw3.out; have := Zw4.out; have := Zw5.out; have := YS.out; have := Zw6.out; have := Zw7.out; have := YX.out; have := Zw8.out; have := Zw9.out; have := Zw10.out; have := YG.out; have := Zw11.out; have := Zw12.out; have := Zw13.out; have := Zw14.out; have := Zw15.out; have := Zw16.out; omega))
  replace zS := Nat.lt_of_lt_of_le zS hw.size
  replace kX := bx_keep kX (hw.block _ zX (by have := Zw1.out; have := Zw2.out; have := Zw3.out; have := Zw4.out; have := Zw5.out; have := YS.out; have := Zw6.out; have := Zw7.out; have := YX.out; have := Zw8.out; have := Zw9.out; have := Zw10.out; have := YG.out; have := Zw11.out; have := Zw12.out; have := Zw13.out; have := Zw14.out; have := Zw15.out; have := Zw16.out; omega))
  replace zX := Nat.lt_of_lt_of_le zX hw.size
  replace kG := bx_keep kG (hw.block _ zG (by have := Zw1.out; have := Zw2.out; have := Zw3.out; have := Zw4.out; have := Zw5.out; have := YS.out; have := Zw6.out; have := Zw7.out; have := YX.out; have := Zw8.out; have := Zw9.out; have := Zw10.out; have := YG.out; have := Zw11.out; have := Zw12.out; have := Zw13.out; have := Zw14.out; have := Zw15.out; have := Zw16.out; omega))
  replace zG := Nat.lt_of_lt_of_le zG hw.size
  replace Xw4 : Hid (Own w16 w3.heap.size w4.heap.size shCR V Nw4.toList) := Own.keep Xw4.out (fun b h1 h2 => hw.block b (by have := Zw1.out; have := Zw2.out; have := Zw3.out; have := Zw4.out; have := Zw5.out; have := YS.out; have := Zw6.out; have := Zw7.out; have := YX.out; have := Zw8.out; have := Zw9.out; have := Zw10.out; have := YG.out; have := Zw11.out; have := Zw12.out; have := Zw13.out; have := Zw14.out; have := Zw15.out; have := Zw16.out; omega) (by have := Zw1.out; have := Zw2.out; have := Zw3.out; have := Zw4.out; have := Zw5.out; have := YS.out; have := Zw6.out; have := Zw7.out; have := YX.out; have := Zw8.out; have := Zw9.out; have := Zw10.out; have := YG.out; have := Zw11.out; have := Zw12.out; have := Zw13.out; have := Zw14.out; have := Zw15.out; have := Zw16.out; omega))
  replace Xw9 : Hid (Own w16 w8.heap.size w9.heap.size shCR V Nw9.toList) := Own.keep Xw9.out (fun b h1 h2 => hw.block b (by have := Zw1.out; have := Zw2.out; have := Zw3.out; have := Zw4.out; have := Zw5.out; have := YS.out; have := Zw6.out; have := Zw7.out; have := YX.out; have := Zw8.out; have := Zw9.out; have := Zw10.out; have := YG.out; have := Zw11.out; have := Zw12.out; have := Zw13.out; have := Zw14.out; have := Zw15.out; have := Zw16.out; omega) (by have := Zw1.out; have := Zw2.out; have := Zw3.out; have := Zw4.out; have := Zw5.out; have := YS.out; have := Zw6.out; have := Zw7.out; have := YX.out; have := Zw8.out; have := Zw9.out; have := Zw10.out; have := YG.out; have := Zw11.out; have := Zw12.out; have := Zw13.out; have := Zw14.out; have := Zw15.out; have := Zw16.out; omega))
  replace Xw8 : Hid (Own w16 w7.heap.size w8.heap.size u8s (marks ((1 : Int) + ((wtConn g0 : Nat) : Int)) n1) (#[.slice (some ⟨w7.heap.size, 0, none⟩) n1 n1] : Array Value).toList) := ho
  replace HB : Hid (Below w.heap.size w w16) := within_below HB.out hw (by have := Zw1.out; have := Zw2.out; have := Zw3.out; have := Zw4.out; have := Zw5.out; have := YS.out; have := Zw6.out; have := Zw7.out; have := YX.out; have := Zw8.out; have := Zw9.out; have := Zw10.out; have := YG.out; have := Zw11.out; have := Zw12.out; have := Zw13.out; have := Zw14.out; have := Zw15.out; have := Zw16.out; omega) HB.out.size
  clear ho hw
  clear Xw8
  have hk1 : 0 ≤ (1 : Int) + ((wtConn g0 : Nat) : Int) + (n1 : Int) := by omega
  have hk2 : decide ((1 : Int) + ((wtConn g0 : Nat) : Int) + (n1 : Int) < 0) = false := by simp; omega
  have hk3 : ¬ ((1 : Int) + ((wtConn g0 : Nat) : Int) + (n1 : Int) < 0) := by omega
  clear hwc
  generalize wtConn g0 = QQ at *
  go_wp2_with (first | (refine wpList_load_mid rfl 28 _ rfl _ _ (by rfl) A0.toList _ (bx_range k0) Tryz.underlying28 rfl HI0.out ?_) | (refine Go.BigFrame.wpList_want (by rfl) fun KK hKK => wp_load_mid 28 _ rfl _ _ (by rfl) A0.toList _ (bx_range k0) Tryz.underlying28 rfl HI0.out (hKK _ _ ?_); clear hKK KK) | (refine wpList_load_mid rfl 38 _ rfl _ _ (by rfl) Nw4.toList _ (bx_range kS) Tryz.underlying38 rfl JS.out ?_) | (refine Go.BigFrame.wpList_want (by rfl) fun KK hKK => wp_load_mid 38 _ rfl _ _ (by rfl) Nw4.toList _ (bx_range kS) Tryz.underlying38 rfl JS.out (hKK _ _ ?_); clear hKK KK) | (refine wpList_load_mid rfl 35 _ rfl _ _ (by rfl) Aw6.toList _ (bx_range kX) Tryz.underlying35 rfl JX.out ?_) | (refine Go.BigFrame.wpList_want (by rfl) fun KK hKK => wp_load_mid 35 _ rfl _ _ (by rfl) Aw6.toList _ (bx_range kX) Tryz.underlying35 rfl JX.out (hKK _ _ ?_); clear hKK KK) | (refine wpList_load_mid rfl 38 _ rfl _ _ (by rfl) Nw9.toList _ (bx_range kG) Tryz.underlying38 rfl JG.out ?_) | (refine Go.BigFrame.wpList_want (by rfl) fun KK hKK => wp_load_mid 38 _ rfl _ _ (by rfl) Nw9.toList _ (bx_range kG) Tryz.underlying38 rfl JG.out (hKK _ _ ?_); clear hKK KK))
  refine (lEqConnR V Nw9 Nw4 _ _ (Xw9.out.rd (Nat.le_refl _)) (Xw4.out.rd (Nat.le_refl _)) (Nat.le_refl _) hVT).mono ?_
  rintro e w17 ⟨rfl, hb⟩
  have Zw17 : Hid (w16.heap.size ≤ w17.heap.size) := hb.size
  replace k0 := bx_below k0 z0 hb
  replace z0 := Nat.lt_of_lt_of_le z0 hb.size
  replace kS := bx_below kS zS hb
  replace zS := Nat.lt_of_lt_of_le zS hb.size
  replace kX := bx_below kX zX hb
  replace zX := Nat.lt_of_lt_of_le zX hb.size
  replace kG := bx_below kG zG hb
  replace zG := Nat.lt_of_lt_of_le zG hb.size
  replace Xw4 : Hid (Own w17 w3.heap.size w4.heap.size shCR V Nw4.toList) := Own.below Xw4.out (by have := Zw1.out; have := Zw2.out; have := Zw3.out; have := Zw4.out; have := Zw5.out; have := YS.out; have := Zw6.out; have := Zw7.out; have := YX.out; have := Zw8.out; have := Zw9.out; have := Zw10.out; have := YG.out; have := Zw11.out; have := Zw12.out; have := Zw13.out; have := Zw14.out; have := Zw15.out; have := Zw16.out; have := Zw17.out; omega) hb
  replace Xw9 : Hid (Own w17 w8.heap.size w9.heap.size shCR V Nw9.toList) := Own.below Xw9.out (by have := Zw1.out; have := Zw2.out; have := Zw3.out; have := Zw4.out; have := Zw5.out; have := YS.out; have := Zw6.out; have := Zw7.out; have := YX.out; have := Zw8.out; have := Zw9.out; have := Zw10.out; have := YG.out; have := Zw11.out; have := Zw12.out; have := Zw13.out; have := Zw14.out; have := Zw15.out; have := Zw16.out; have := Zw17.out; omega) hb
  replace HB : Hid (Below w.heap.size w w17) := HB.out.trans (hb.mono HB.out.size)
  clear hb
  generalize hq : wtCR V = QW at *
  go_wp2_with (first | (refine wpList_load_mid rfl 28 _ rfl _ _ (by rfl) A0.toList _ (bx_range k0) Tryz.underlying28 rfl HI0.out ?_) | (refine wpList_load_mid rfl 38 _ rfl _ _ (by rfl) Nw4.toList _ (bx_range kS) Tryz.underlying38 rfl JS.out ?_) | (refine wpList_load_mid rfl 35 _ rfl _ _ (by rfl) Aw6.toList _ (bx_range kX) Tryz.underlying35 rfl JX.out ?_) | (refine wpList_load_mid rfl 38 _ rfl _ _ (by rfl) Nw9.toList _ (bx_range kG) Tryz.underlying38 rfl JG.out ?_))
  refine (lMarkConnR V Nw9 1 _ _ _ Xw9.out hVT (by omega) (by omega)).mono ?_
  rw [hq]
  rintro e w18 ⟨rfl, ho, hw⟩
  have Zw18 : Hid (w17.heap.size ≤ w18.heap.size) := hw.size
  replace k0 := bx_keep k0 (hw.block _ z0 (by have := Zw1.out; have := Zw2.out; have := Zw3.out; have := Zw4.out; have := Zw5.out; have := YS.out; have := Zw6.out; have := Zw7.out; have := YX.out; have := Zw8.out; have := Zw9.out; have := Zw10.out; have := YG.out; have := Zw11.out; have := Zw12.out; have := Zw13.out; have := Zw14.out; have := Zw15.out; have := Zw16.out; have := Zw17.out; have := Zw18.out; omega))
  replace z0 := Nat.lt_of_lt_of_le z0 hw.size
  replace kS := bx_keep kS (hw.block _ zS (by have := Zw1.out; have := Zw2.out; have := Zw3.out; have := Zw4.out; have := Zw5.out; have := YS.out; have := Zw6.out; have := Zw7.out; have := YX.out; have := Zw8.out; have := Zw9.out; have := Zw10.out; have := YG.out; have := Zw11.out; have := Zw12.out; have := Zw13.out; have := Zw14.out; have := Zw15.out; have := Zw16.out; have := Zw17.out; have := Zw18.out; omega))
  replace zS := Nat.lt_of_lt_of_le zS hw.size
  replace kX := bx_keep kX (hw.block _ zX (by have := Zw1.out; have := Zw2.out; have := Zw3.out; have := Zw4.out; have := Zw5.out; have := YS.out; have := Zw6.out; have := Zw7.out; have := YX.out; have := Zw8.out; have := Zw9.out; have := Zw10.out; have := YG.out; have := Zw11.out; have := Zw12.out; have := Zw13.out; have := Zw14.out; have := Zw15.out; have := Zw16.out; have := Zw17.out; have := Zw18.out; omega))
  replace zX := Nat.lt_of_lt_of_le zX hw.size
  replace kG := bx_keep kG (hw.block _ zG (by have := Zw1.out; have := Zw2.out; have := Zw3.out; have := Zw4.out; have := Zw5.out; have := YS.out; have := Zw6.out; have := Zw7.out; have := YX.out; have := Zw8.out; have := Zw9.out; have := Zw10.out; have := YG.out; have := Zw11.out; have := Zw12.out; have := Zw13.out; have := Zw14.out; have := Zw15.out; have := Zw16.out; have := Zw17.out; have := Zw18.out; omega))
  replace zG := Nat.lt_of_lt_of_le zG hw.size
  replace Xw4 : Hid (Own w18 w3.heap.size w4.heap.size shCR V Nw4.toList) := Own.keep Xw4.out (fun b h1 h2 => hw.block b (by have := Zw1.out; have := Zw2.out; have := Zw3.out; have := Zw4.out; have := Zw5.out; have := YS.out; have := Zw6.out; have := Zw7.out; have := YX.out; have := Zw8.out; have := Zw9.out; have := Zw10.out; have := YG.out; have := Zw11.out; have := Zw12.out; have := Zw13.out; have := Zw14.out; have := Zw15.out; have := Zw16.out; have := Zw17.out; have := Zw18.out; omega) (by have := Zw1.out; have := Zw2.out; have := Zw3.out; have := Zw4.out; have := Zw5.out; have := YS.out; have := Zw6.out; have := Zw7.out; have := YX.out; have := Zw8.out; have := Zw9.out; have := Zw10.out; have := YG.out; have := Zw11.out; have := Zw12.out; have := Zw13.out; have := Zw14.out; have := Zw15.out; have := Zw16.out; have := Zw17.out; have := Zw18.out; omega))
  replace Xw9 : Hid (Own w18 w8.heap.size w9.heap.size shCR (mkCR 1 V) Nw9.toList) := ho
  replace HB : Hid (Below w.heap.size w w18) := within_below HB.out hw (by have := Zw1.out; have := Zw2.out; have := Zw3.out; have := Zw4.out; have := Zw5.out; have := YS.out; have := Zw6.out; have := Zw7.out; have := YX.out; have := Zw8.out; have := Zw9.out; have := Zw10.out; have := YG.out; have := Zw11.out; have := Zw12.out; have := Zw13.out; have := Zw14.out; have := Zw15.out; have := Zw16.out; have := Zw17.out; have := Zw18.out; omega) HB.out.size
  clear ho hw
  have hm1 : 0 ≤ (1 : Int) + ((QW : Nat) : Int) := by omega
  have hm2 : ¬ ((1 : Int) + ((QW : Nat) : Int) < 0) := by omega
  go_wp2_with (first | (refine wpList_load_mid rfl 28 _ rfl _ _ (by rfl) A0.toList _ (bx_range k0) Tryz.underlying28 rfl HI0.out ?_) | (refine wpList_load_mid rfl 38 _ rfl _ _ (by rfl) Nw4.toList _ (bx_range kS) Tryz.underlying38 rfl JS.out ?_) | (refine wpList_load_mid rfl 35 _ rfl _ _ (by rfl) Aw6.toList _ (bx_range kX) Tryz.underlying35 rfl JX.out ?_) | (refine wpList_load_mid rfl 38 _ rfl _ _ (by rfl) Nw9.toList _ (bx_range kG) Tryz.underlying38 rfl JG.out ?_))
  have ch := lHeldConnR V Nw9 1 _ _ (Xw9.out.rd (Nat.le_refl _)) (Nat.le_refl _) hVT (by omega) (by omega)
  rw [hq] at ch
  refine ch.mono ?_
  rintro e w19 ⟨rfl, hb⟩
  clear ch
  have Zw19 : Hid (w18.heap.size ≤ w19.heap.size) := hb.size
  replace k0 := bx_below k0 z0 hb
  replace z0 := Nat.lt_of_lt_of_le z0 hb.size
  replace kS := bx_below kS zS hb
  replace zS := Nat.lt_of_lt_of_le zS hb.size
  replace kX := bx_below kX zX hb
  replace zX := Nat.lt_of_lt_of_le zX hb.size
  replace kG := bx_below kG zG hb
  replace zG := Nat.lt_of_lt_of_le zG hb.size
  replace Xw4 : Hid (Own w19 w3.heap.size w4.heap.size shCR V Nw4.toList) := Own.below Xw4.out (by have := Zw1.out; have := Zw2.out; have := Zw3.out; have := Zw4.out; have := Zw5.out; have := YS.out; have := Zw6.out; have := Zw7.out; have := YX.out; have := Zw8.out; have := Zw9.out; have := Zw10.out; have := YG.out; have := Zw11.out; have := Zw12.out; have := Zw13.out; have := Zw14.out; have := Zw15.out; have := Zw16.out; have := Zw17.out; have := Zw18.out; have := Zw19.out; omega) hb
  replace Xw9 : Hid (Own w19 w8.heap.size w9.heap.size shCR (mkCR 1 V) Nw9.toList) := Own.below Xw9.out (by have := Zw1.out; have := Zw2.out; have := Zw3.out; have := Zw4.out; have := Zw5.out; have := YS.out; have := Zw6.out; have := Zw7.out; have := YX.out; have := Zw8.out; have := Zw9.out; have := Zw10.out; have := YG.out; have := Zw11.out; have := Zw12.out; have := Zw13.out; have := Zw14.out; have := Zw15.out; have := Zw16.out; have := Zw17.out; have := Zw18.out; have := Zw19.out; omega) hb
  replace HB : Hid (Below w.heap.size w w19) := HB.out.trans (hb.mono HB.out.size)
  clear hb
  go_wp2_with (first | (refine wpList_load_mid rfl 28 _ rfl _ _ (by rfl) A0.toList _ (bx_range k0) Tryz.underlying28 rfl HI0.out ?_) | (refine wpList_load_mid rfl 38 _ rfl _ _ (by rfl) Nw4.toList _ (bx_range kS) Tryz.underlying38 rfl JS.out ?_) | (refine wpList_load_mid rfl 35 _ rfl _ _ (by rfl) Aw6.toList _ (bx_range kX) Tryz.underlying35 rfl JX.out ?_) | (refine wpList_load_mid rfl 38 _ rfl _ _ (by rfl) Nw9.toList _ (bx_range kG) Tryz.underlying38 rfl JG.out ?_))
  refine (lToConn g0 A0 _ w.heap.size (HP.out _ HB.out) HB.out.size hTT).mono ?_
  rintro e w20 ⟨Aw20, rfl, ho, hb⟩
  have Zw20 : Hid (w19.heap.size ≤ w20.heap.size) := hb.size
  replace k0 := bx_below k0 z0 hb
  replace z0 := Nat.lt_of_lt_of_le z0 hb.size
  replace kS := bx_below kS zS hb
  replace zS := Nat.lt_of_lt_of_le zS hb.size
  replace kX := bx_below kX zX hb
  replace zX := Nat.lt_of_lt_of_le zX hb.size
  replace kG := bx_below kG zG hb
  replace zG := Nat.lt_of_lt_of_le zG hb.size
  replace Xw4 : Hid (Own w20 w3.heap.size w4.heap.size shCR V Nw4.toList) := Own.below Xw4.out (by have := Zw1.out; have := Zw2.out; have := Zw3.out; have := Zw4.out; have := Zw5.out; have := YS.out; have := Zw6.out; have := Zw7.out; have := YX.out; have := Zw8.out; have := Zw9.out; have := Zw10.out; have := YG.out; have := Zw11.out; have := Zw12.out; have := Zw13.out; have := Zw14.out; have := Zw15.out; have := Zw16.out; have := Zw17.out; have := Zw18.out; have := Zw19.out; have := Zw20.out; omega) hb
  replace Xw9 : Hid (Own w20 w8.heap.size w9.heap.size shCR (mkCR 1 V) Nw9.toList) := Own.below Xw9.out (by have := Zw1.out; have := Zw2.out; have := Zw3.out; have := Zw4.out; have := Zw5.out; have := YS.out; have := Zw6.out; have := Zw7.out; have := YX.out; have := Zw8.out; have := Zw9.out; have := Zw10.out; have := YG.out; have := Zw11.out; have := Zw12.out; have := Zw13.out; have := Zw14.out; have := Zw15.out; have := Zw16.out; have := Zw17.out; have := Zw18.out; have := Zw19.out; have := Zw20.out; omega) hb
  replace HB : Hid (Below w.heap.size w w20) := HB.out.trans (hb.mono HB.out.size)
  have Xw20 : Hid (Own w20 w19.heap.size w20.heap.size shConn g0 Aw20.toList) := ho
  clear ho
  clear hb
  go_wp2_with fail
  refine (lToBy a1 n1 c1 l1 _ HL1.out (HB1.out _ HB.out) hn1).mono ?_
  rintro e w21 ⟨rfl, ho, hb⟩
  have Zw21 : Hid (w20.heap.size ≤ w21.heap.size) := hb.size
  replace k0 := bx_below k0 z0 hb
  replace z0 := Nat.lt_of_lt_of_le z0 hb.size
  replace kS := bx_below kS zS hb
  replace zS := Nat.lt_of_lt_of_le zS hb.size
  replace kX := bx_below kX zX hb
  replace zX := Nat.lt_of_lt_of_le zX hb.size
  replace kG := bx_below kG zG hb
  replace zG := Nat.lt_of_lt_of_le zG hb.size
  replace Xw4 : Hid (Own w21 w3.heap.size w4.heap.size shCR V Nw4.toList) := Own.below Xw4.out (by have := Zw1.out; have := Zw2.out; have := Zw3.out; have := Zw4.out; have := Zw5.out; have := YS.out; have := Zw6.out; have := Zw7.out; have := YX.out; have := Zw8.out; have := Zw9.out; have := Zw10.out; have := YG.out; have := Zw11.out; have := Zw12.out; have := Zw13.out; have := Zw14.out; have := Zw15.out; have := Zw16.out; have := Zw17.out; have := Zw18.out; have := Zw19.out; have := Zw20.out; have := Zw21.out; omega) hb
  replace Xw9 : Hid (Own w21 w8.heap.size w9.heap.size shCR (mkCR 1 V) Nw9.toList) := Own.below Xw9.out (by have := Zw1.out; have := Zw2.out; have := Zw3.out; have := Zw4.out; have := Zw5.out; have := YS.out; have := Zw6.out; have := Zw7.out; have := YX.out; have := Zw8.out; have := Zw9.out; have := Zw10.out; have := YG.out; have := Zw11.out; have := Zw12.out; have := Zw13.out; have := Zw14.out; have := Zw15.out; have := Zw16.out; have := Zw17.out; have := Zw18.out; have := Zw19.out; have := Zw20.out; have := Zw21.out; omega) hb
  replace Xw20 : Hid (Own w21 w19.heap.size w20.heap.size shConn g0 Aw20.toList) := Own.below Xw20.out (by have := Zw1.out; have := Zw2.out; have := Zw3.out; have := Zw4.out; have := Zw5.out; have := YS.out; have := Zw6.out; have := Zw7.out; have := YX.out; have := Zw8.out; have := Zw9.out; have := Zw10.out; have := YG.out; have := Zw11.out; have := Zw12.out; have := Zw13.out; have := Zw14.out; have := Zw15.out; have := Zw16.out; have := Zw17.out; have := Zw18.out; have := Zw19.out; have := Zw20.out; have := Zw21.out; omega) hb
  replace HB : Hid (Below w.heap.size w w21) := HB.out.trans (hb.mono HB.out.size)
  have Xw21 : Hid (Own w21 w20.heap.size w21.heap.size u8s l1 (#[.slice (some ⟨w20.heap.size, 0, none⟩) n1 n1] : Array Value).toList) := ho
  clear ho
  clear hb
  go_wp2_with fail
  refine (CI.out _ _ Aw20 _ _ (Xw20.out.rd (Nat.le_refl _)) (Nat.le_refl _) hTT (own_rb Xw21.out).1 (own_rb Xw21.out).2 hn1 (HEL.out _ HB.out)).mono ?_
  rintro e w22 ⟨Nw22, rfl, ho, hb⟩
  have Zw22 : Hid (w21.heap.size ≤ w22.heap.size) := hb.size
  replace k0 := bx_below k0 z0 hb
  replace z0 := Nat.lt_of_lt_of_le z0 hb.size
  replace kS := bx_below kS zS hb
  replace zS := Nat.lt_of_lt_of_le zS hb.size
  replace kX := bx_below kX zX hb
  replace zX := Nat.lt_of_lt_of_le zX hb.size
  replace kG := bx_below kG zG hb
  replace zG := Nat.lt_of_lt_of_le zG hb.size
  replace Xw4 : Hid (Own w22 w3.heap.size w4.heap.size shCR V Nw4.toList) := Own.below Xw4.out (by have := Zw1.out; have := Zw2.out; have := Zw3.out; have := Zw4.out; have := Zw5.out; have := YS.out; have := Zw6.out; have := Zw7.out; have := YX.out; have := Zw8.out; have := Zw9.out; have := Zw10.out; have := YG.out; have := Zw11.out; have := Zw12.out; have := Zw13.out; have := Zw14.out; have := Zw15.out; have := Zw16.out; have := Zw17.out; have := Zw18.out; have := Zw19.out; have := Zw20.out; have := Zw21.out; have := Zw22.out; omega) hb
  replace Xw9 : Hid (Own w22 w8.heap.size w9.heap.size shCR (mkCR 1 V) Nw9.toList) := Own.below Xw9.out (by have := Zw1.out; have := Zw2.out; have := Zw3.out; have := Zw4.out; have := Zw5.out; have := YS.out; have := Zw6.out; have := Zw7.out; have := YX.out; have := Zw8.out; have := Zw9.out; have := Zw10.out; have := YG.out; have := Zw11.out; have := Zw12.out; have := Zw13.out; have := Zw14.out; have := Zw15.out; have := Zw16.out; have := Zw17.out; have := Zw18.out; have := Zw19.out; have := Zw20.out; have := Zw21.out; have := Zw22.out; omega) hb
  replace Xw20 : Hid (Own w22 w19.heap.size w20.heap.size shConn g0 Aw20.toList) := Own.below Xw20.out (by have := Zw1.out; have := Zw2.out; have := Zw3.out; have := Zw4.out; have := Zw5.out; have := YS.out; have := Zw6.out; have := Zw7.out; have := YX.out; have := Zw8.out; have := Zw9.out; have := Zw10.out; have := YG.out; have := Zw11.out; have := Zw12.out; have := Zw13.out; have := Zw14.out; have := Zw15.out; have := Zw16.out; have := Zw17.out; have := Zw18.out; have := Zw19.out; have := Zw20.out; have := Zw21.out; have := Zw22.out; omega) hb
  replace Xw21 : Hid (Own w22 w20.heap.size w21.heap.size u8s l1 (#[.slice (some ⟨w20.heap.size, 0, none⟩) n1 n1] : Array Value).toList) := Own.below Xw21.out (by have := Zw1.out; have := Zw2.out; have := Zw3.out; have := Zw4.out; have := Zw5.out; have := YS.out; have := Zw6.out; have := Zw7.out; have := YX.out; have := Zw8.out; have := Zw9.out; have := Zw10.out; have := YG.out; have := Zw11.out; have := Zw12.out; have := Zw13.out; have := Zw14.out; have := Zw15.out; have := Zw16.out; have := Zw17.out; have := Zw18.out; have := Zw19.out; have := Zw20.out; have := Zw21.out; have := Zw22.out; omega) hb
  replace HB : Hid (Below w.heap.size w w22) := HB.out.trans (hb.mono HB.out.size)
  have Xw22 : Hid (Own w22 w21.heap.size w22.heap.size shCR V Nw22.toList) := ho
  clear ho
  clear hb
  clear Xw20
  clear Xw21
  have hz : Nw22.size = 18 := rd_size (Xw22.out.rd (Nat.le_refl _))
  have IH : Hid ((Tryz.prog.info? 38).map (·.size) = some Nw22.size) := by show _ = _; rw [hz]; exact (by kernel_rfl : (Tryz.prog.info? 38).map (·.size) = some 18)
  have JH : Hid ((Tryz.prog.info? 38).map (·.size) = some Nw22.toList.length) := by show _ = _; rw [Array.length_toList]; exact IH.out
  have HO : Hid (Nw22.all (·.oneCell') = true) := rd_all (Xw22.out.rd (Nat.le_refl _))
  have HX := HBX.out w22 Nw22 hz
  have HTH : Hid _ := HX.2.2.2
  have HX2 : Hid _ := HX
  clear HX hz
  go_upto_region 31 with (refine wpList_store_mid rfl 38 _ _ rfl _ _ Nw22 (by rfl) (by rfl) HTH.out IH.out HO.out ?_)
  clear HTH HO
  generalize hWW : (w22.alloc (.cells #[.int .i64 0, .int .i64 0, .int .i64 0, .int .i64 0, .bool false, .bool false, .slice none 0 0, .bool false, .int .i64 0, .bool false, .slice none 0 0, .slice none 0 0, .int .i64 0, .int .i64 0, .slice none 0 0, .slice none 0 0, .slice none 0 0, .bool false] 38)).setCells w22.heap.size 0 Nw22.toList = w23 at HX2 ⊢
  obtain ⟨zH, hb, kH, -⟩ := HX2.out
  clear hWW HX2 IH
  have Zw23 : Hid (w22.heap.size ≤ w23.heap.size) := hb.size
  replace k0 := bx_below k0 z0 hb
  replace z0 := Nat.lt_of_lt_of_le z0 hb.size
  replace kS := bx_below kS zS hb
  replace zS := Nat.lt_of_lt_of_le zS hb.size
  replace kX := bx_below kX zX hb
  replace zX := Nat.lt_of_lt_of_le zX hb.size
  replace kG := bx_below kG zG hb
  replace zG := Nat.lt_of_lt_of_le zG hb.size
  replace Xw4 : Hid (Own w23 w3.heap.size w4.heap.size shCR V Nw4.toList) := Own.below Xw4.out (by have := Zw1.out; have := Zw2.out; have := Zw3.out; have := Zw4.out; have := Zw5.out; have := YS.out; have := Zw6.out; have := Zw7.out; have := YX.out; have := Zw8.out; have := Zw9.out; have := Zw10.out; have := YG.out; have := Zw11.out; have := Zw12.out; have := Zw13.out; have := Zw14.out; have := Zw15.out; have := Zw16.out; have := Zw17.out; have := Zw18.out; have := Zw19.out; have := Zw20.out; have := Zw21.out; have := Zw22.out; have := Zw23.out; omega) hb
  replace Xw9 : Hid (Own w23 w8.heap.size w9.heap.size shCR (mkCR 1 V) Nw9.toList) := Own.below Xw9.out (by have := Zw1.out; have := Zw2.out; have := Zw3.out; have := Zw4.out; have := Zw5.out; have := YS.out; have := Zw6.out; have := Zw7.out; have := YX.out; have := Zw8.out; have := Zw9.out; have := Zw10.out; have := YG.out; have := Zw11.out; have := Zw12.out; have := Zw13.out; have := Zw14.out; have := Zw15.out; have := Zw16.out; have := Zw17.out; have := Zw18.out; have := Zw19.out; have := Zw20.out; have := Zw21.out; have := Zw22.out; have := Zw23.out; omega) hb
  replace Xw22 : Hid (Own w23 w21.heap.size w22.heap.size shCR V Nw22.toList) := Own.below Xw22.out (by have := Zw1.out; have := Zw2.out; have := Zw3.out; have := Zw4.out; have := Zw5.out; have := YS.out; have := Zw6.out; have := Zw7.out; have := YX.out; have := Zw8.out; have := Zw9.out; have := Zw10.out; have := YG.out; have := Zw11.out; have := Zw12.out; have := Zw13.out; have := Zw14.out; have := Zw15.out; have := Zw16.out; have := Zw17.out; have := Zw18.out; have := Zw19.out; have := Zw20.out; have := Zw21.out; have := Zw22.out; have := Zw23.out; omega) hb
  replace HB : Hid (Below w.heap.size w w23) := HB.out.trans (hb.mono HB.out.size)
  have YH : Hid (w22.heap.size < w23.heap.size) := zH
  clear hb
  go_wp2_with (first | (refine wpList_load_mid rfl 28 _ rfl _ _ (by rfl) A0.toList _ (bx_range k0) Tryz.underlying28 rfl HI0.out ?_) | (refine wpList_load_mid rfl 38 _ rfl _ _ (by rfl) Nw4.toList _ (bx_range kS) Tryz.underlying38 rfl JS.out ?_) | (refine wpList_load_mid rfl 35 _ rfl _ _ (by rfl) Aw6.toList _ (bx_range kX) Tryz.underlying35 rfl JX.out ?_) | (refine wpList_load_mid rfl 38 _ rfl _ _ (by rfl) Nw9.toList _ (bx_range kG) Tryz.underlying38 rfl JG.out ?_) | (refine wpList_load_mid rfl 38 _ rfl _ _ (by rfl) Nw22.toList _ (bx_range kH) Tryz.underlying38 rfl JH.out ?_))
  refine (lEqConnR V Nw22 Nw4 _ _ (Xw22.out.rd (Nat.le_refl _)) (Xw4.out.rd (Nat.le_refl _)) (Nat.le_refl _) hVT).mono ?_
  rintro e w24 ⟨rfl, hb⟩
  have Zw24 : Hid (w23.heap.size ≤ w24.heap.size) := hb.size
  replace k0 := bx_below k0 z0 hb
  replace z0 := Nat.lt_of_lt_of_le z0 hb.size
  replace kS := bx_below kS zS hb
  replace zS := Nat.lt_of_lt_of_le zS hb.size
  replace kX := bx_below kX zX hb
  replace zX := Nat.lt_of_lt_of_le zX hb.size
  replace kG := bx_below kG zG hb
  replace zG := Nat.lt_of_lt_of_le zG hb.size
  replace kH := bx_below kH zH hb
  replace zH := Nat.lt_of_lt_of_le zH hb.size
  replace Xw4 : Hid (Own w24 w3.heap.size w4.heap.size shCR V Nw4.toList) := Own.below Xw4.out (by have := Zw1.out; have := Zw2.out; have := Zw3.out; have := Zw4.out; have := Zw5.out; have := YS.out; have := Zw6.out; have := Zw7.out; have := YX.out; have := Zw8.out; have := Zw9.out; have := Zw10.out; have := YG.out; have := Zw11.out; have := Zw12.out; have := Zw13.out; have := Zw14.out; have := Zw15.out; have := Zw16.out; have := Zw17.out; have := Zw18.out; have := Zw19.out; have := Zw20.out; have := Zw21.out; have := Zw22.out; have := Zw23.out; have := YH.out; have := Zw24.out; omega) hb
  replace Xw9 : Hid (Own w24 w8.heap.size w9.heap.size shCR (mkCR 1 V) Nw9.toList) := Own.below Xw9.out (by have := Zw1.out; have := Zw2.out; have := Zw3.out; have := Zw4.out; have := Zw5.out; have := YS.out; have := Zw6.out; have := Zw7.out; have := YX.out; have := Zw8.out; have := Zw9.out; have := Zw10.out; have := YG.out; have := Zw11.out; have := Zw12.out; have := Zw13.out; have := Zw14.out; have := Zw15.out; have := Zw16.out; have := Zw17.out; have := Zw18.out; have := Zw19.out; have := Zw20.out; have := Zw21.out; have := Zw22.out; have := Zw23.out; have := YH.out; have := Zw24.out; omega) hb
  replace Xw22 : Hid (Own w24 w21.heap.size w22.heap.size shCR V Nw22.toList) := Own.below Xw22.out (by have := Zw1.out; have := Zw2.out; have := Zw3.out; have := Zw4.out; have := Zw5.out; have := YS.out; have := Zw6.out; have := Zw7.out; have := YX.out; have := Zw8.out; have := Zw9.out; have := Zw10.out; have := YG.out; have := Zw11.out; have := Zw12.out; have := Zw13.out; have := Zw14.out; have := Zw15.out; have := Zw16.out; have := Zw17.out; have := Zw18.out; have := Zw19.out; have := Zw20.out; have := Zw21.out; have := Zw22.out; have := Zw23.out; have := YH.out; have := Zw24.out; omega) hb
  replace HB : Hid (Below w.heap.size w w24) := HB.out.trans (hb.mono HB.out.size)
  clear hb
  go_wp2_with (first | (refine wpList_load_mid rfl 28 _ rfl _ _ (by rfl) A0.toList _ (bx_range k0) Tryz.underlying28 rfl HI0.out ?_) | (refine wpList_load_mid rfl 38 _ rfl _ _ (by rfl) Nw4.toList _ (bx_range kS) Tryz.underlying38 rfl JS.out ?_) | (refine wpList_load_mid rfl 35 _ rfl _ _ (by rfl) Aw6.toList _ (bx_range kX) Tryz.underlying35 rfl JX.out ?_) | (refine wpList_load_mid rfl 38 _ rfl _ _ (by rfl) Nw9.toList _ (bx_range kG) Tryz.underlying38 rfl JG.out ?_) | (refine wpList_load_mid rfl 38 _ rfl _ _ (by rfl) Nw22.toList _ (bx_range kH) Tryz.underlying38 rfl JH.out ?_))
  have ch := lHeldConnR V Nw9 1 _ _ (Xw9.out.rd (Nat.le_refl _)) (Nat.le_refl _) hVT (by omega) (by omega)
  rw [hq] at ch
  refine ch.mono ?_
  rintro e w25 ⟨rfl, hb⟩
  clear ch
  have Zw25 : Hid (w24.heap.size ≤ w25.heap.size) := hb.size
  replace k0 := bx_below k0 z0 hb
  replace z0 := Nat.lt_of_lt_of_le z0 hb.size
  replace kS := bx_below kS zS hb
  replace zS := Nat.lt_of_lt_of_le zS hb.size
  replace kX := bx_below kX zX hb
  replace zX := Nat.lt_of_lt_of_le zX hb.size
  replace kG := bx_below kG zG hb
  replace zG := Nat.lt_of_lt_of_le zG hb.size
  replace kH := bx_below kH zH hb
  replace zH := Nat.lt_of_lt_of_le zH hb.size
  replace Xw4 : Hid (Own w25 w3.heap.size w4.heap.size shCR V Nw4.toList) := Own.below Xw4.out (by have := Zw1.out; have := Zw2.out; have := Zw3.out; have := Zw4.out; have := Zw5.out; have := YS.out; have := Zw6.out; have := Zw7.out; have := YX.out; have := Zw8.out; have := Zw9.out; have := Zw10.out; have := YG.out; have := Zw11.out; have := Zw12.out; have := Zw13.out; have := Zw14.out; have := Zw15.out; have := Zw16.out; have := Zw17.out; have := Zw18.out; have := Zw19.out; have := Zw20.out; have := Zw21.out; have := Zw22.out; have := Zw23.out; have := YH.out; have := Zw24.out; have := Zw25.out; omega) hb
  replace Xw9 : Hid (Own w25 w8.heap.size w9.heap.size shCR (mkCR 1 V) Nw9.toList) := Own.below Xw9.out (by have := Zw1.out; have := Zw2.out; have := Zw3.out; have := Zw4.out; have := Zw5.out; have := YS.out; have := Zw6.out; have := Zw7.out; have := YX.out; have := Zw8.out; have := Zw9.out; have := Zw10.out; have := YG.out; have := Zw11.out; have := Zw12.out; have := Zw13.out; have := Zw14.out; have := Zw15.out; have := Zw16.out; have := Zw17.out; have := Zw18.out; have := Zw19.out; have := Zw20.out; have := Zw21.out; have := Zw22.out; have := Zw23.out; have := YH.out; have := Zw24.out; have := Zw25.out; omega) hb
  replace Xw22 : Hid (Own w25 w21.heap.size w22.heap.size shCR V Nw22.toList) := Own.below Xw22.out (by have := Zw1.out; have := Zw2.out; have := Zw3.out; have := Zw4.out; have := Zw5.out; have := YS.out; have := Zw6.out; have := Zw7.out; have := YX.out; have := Zw8.out; have := Zw9.out; have := Zw10.out; have := YG.out; have := Zw11.out; have := Zw12.out; have := Zw13.out; have := Zw14.out; have := Zw15.out; have := Zw16.out; have := Zw17.out; have := Zw18.out; have := Zw19.out; have := Zw20.out; have := Zw21.out; have := Zw22.out; have := Zw23.out; have := YH.out; have := Zw24.out; have := Zw25.out; omega) hb
  replace HB : Hid (Below w.heap.size w w25) := HB.out.trans (hb.mono HB.out.size)
  clear hb
  go_wp2_with fail
  go_ret
  exact ⟨rfl, HB.out⟩

set_option maxRecDepth 100000 in
theorem lifted (os : Os) (started : os.Started) (H : Type) (enc : TypeId × Value → H) :
    ReturnsInHanded {} Tryz.checked os 3 .any (fun w args => (Rows.fnExactWriteConnSpec.pre enc Tryz.prog Tryz.f3 [] false w args ∧ laidMetH Tryz.prog [("errors.errorType", Rows.laid_errors_errorType)] w) ∧ sizedMet enc Tryz.prog Tryz.f3 (OpenSpec.ofChange Rows.fnExactWriteConnSpec) false w args) (Rows.fnExactWriteConnSpec.post enc Tryz.prog Tryz.f3 false true false false) := by
  refine returnsInHanded_of_change_and (C := Tryz.checked) (X := fun w _ => laidMetH Tryz.prog [("errors.errorType", Rows.laid_errors_errorType)] w) (fun _ _ _ hh h => h.of_heap hh) own started (by kernel_rfl) Tryz.func3
    (ChangeSpec.witness_shaped (enc := enc) (C := Tryz.checked) (os := os) (X := fun w _ => laidMetH Tryz.prog [("errors.errorType", Rows.laid_errors_errorType)] w) false (World.doorLaid Tryz.prog 16 os) #[.agg #[.int .i64 0, .int .i64 0, .int .i64 0, .bool false, .bool false, .slice none 0 0, .bool false, .int .i64 0, .bool false, .slice none 0 0, .slice none 0 0, .int .i64 0, .int .i64 0, .slice none 0 0], .slice none 0 0] 8 rfl (World.shaped_of_RefB (by kernel_rfl) (by kernel_rfl)) (by kernel_rfl) (by kernel_rfl) (by kernel_rfl) (door_met os _)) ?_
  intro W base args ds gs before hval0 hW _ _ hL _
  have hval : ∀ (j : Nat) t v, Tryz.f3.params[j]? = some t → args[j]? = some v → Value.okWide Tryz.prog W .any base t v := hval0
  have hW' := hW
  obtain ⟨p, q, hA0, hV, rfl, hfz, hnd⟩ := hW
  have hA : DataW.TrodAll enc Tryz.prog W 0 (fun _ => true) true Tryz.f3.params.toList args.toList ds p := hA0
  rw [Tryz.params3] at hA hval
  obtain ⟨v0, vs0, d0, ds0, p0, q0, hargs, rfl, rfl, h0, r0⟩ := trodAll_cons hA
  obtain ⟨v1, vs1, d1, ds1, p1, q1, rfl, rfl, rfl, h1, r1⟩ := trodAll_cons r0
  obtain ⟨rfl, rfl, rfl⟩ := trodAll_nil r1
  obtain rfl : args = #[v0, v1] := by cases args; simp_all
  obtain ⟨rfl, rfl⟩ := trodVars_none hV
  have lt0 : ∀ x ∈ p0, x.block < W.heap.size := by obtain ⟨m, hm⟩ := h0; exact DataW.trod_lt m _ _ _ hm
  have t0 : ∃ n y, DataW.trod enc Tryz.prog W 0 (fun _ => true) true n 28 v0.cells.toList = some y := by obtain ⟨m, hm⟩ := h0; exact ⟨m, _, hm⟩
  have lt1 : ∀ x ∈ p1, x.block < W.heap.size := by obtain ⟨m, hm⟩ := h1; exact DataW.trod_lt m _ _ _ hm
  have t1 : ∃ n y, DataW.trod enc Tryz.prog W 0 (fun _ => true) true n 22 v1.cells.toList = some y := by obtain ⟨m, hm⟩ := h1; exact ⟨m, _, hm⟩
  refine (walk enc v0 v1 W base (handle_of_laid hL) (hval 0 28 v0 rfl rfl) t0 (hval 1 22 v1 rfl rfl) t1).mono fun e W' ⟨he, bel⟩ => ?_
  subst he
  exact ⟨_, rfl, _, _, _, [], _, [], hW', trodAll_mk1 (shut_bool Tryz.underlying4 _), (trodAll_cons_mk (Below.trod laidOut (by kernel_rfl) (of_decide_eq_true (by kernel_rfl)) h0 bel lt0) (trodAll_cons_mk (Below.trod laidOut (by kernel_rfl) (of_decide_eq_true (by kernel_rfl)) h1 bel lt1) trodAll_mk0)), rfl, bel.frame _, fun h => by cases h⟩

theorem over : Rows.fnExactWriteConnRow.holds Tryz.pinned (OpenSpec.ofChange Rows.fnExactWriteConnSpec) :=
  OpenClaim.holds_of_wide 3 Tryz.f3 rfl rfl rfl rfl rfl rfl rfl ⟨rfl, rfl, rfl, rfl, rfl⟩ rfl rfl rfl rfl rfl (by kernel_rfl) Tryz.func3 (by kernel_rfl)
    (of_decide_eq_true (by kernel_rfl)) (by unfold Func.isWrapper; first | (rw [if_pos (by decide +kernel)]; kernel_rfl) | (rw [if_neg (by decide +kernel)]; exact ⟨rfl, rfl⟩))
    (fun os started H enc _ => lifted os started H enc)

theorem proved : Rows.FnExactWriteConnSaid := over
theorem card : Rows.FnExactWriteConnCardSaid :=
  Claim7.holds_tied_plain_at .later [] [.handle] true (true, "7de3725aa64f8ea57aa4b1aafae69d4e05343d79d896d77d9cce06be77076f59") true
    proved (fun _ h => by cases h) (by kernel_rfl) (fun _ h => by cases h) fnExactWriteConn_row_tie rfl ⟨rfl, rfl⟩ (by kernel_rfl) rfl
    (fun f fn hf hfn => by
      obtain rfl : f = 3 := Option.some.inj ((show Tryz.prog.funcNamed "loop.example/g00230/laws.FnExactWriteConn" = some 3 by kernel_rfl).symm.trans hf) |>.symm
      obtain rfl : fn = Tryz.f3 := (Option.some.inj (Tryz.func3.symm.trans hfn)).symm
      exact ⟨by kernel_rfl, fun j t ht => by
        rw [Tryz.params3] at ht
        have hm : t ∈ [28, 22] := by simpa using Array.mem_of_getElem? ht
        have hall : ([28, 22].all fun u => !Tryz.prog.wantsStandIn u) = true := by kernel_rfl
        exact (show Tryz.prog.wantsStandIn t = false by simpa using List.all_eq_true.1 hall t hm)⟩)
    (by kernel_rfl)
#print axioms card
end Go.Proofs.YtbdibjeemgkdaaaGreatDoor.fnExactWriteConn

namespace Go.Proofs.YtbdibjeemgkdaaaGreatDoor
theorem fnExactWriteConn_holds : Rows.FnExactWriteConnCardSaid := fnExactWriteConn.card
end Go.Proofs.YtbdibjeemgkdaaaGreatDoor
