/- Proved: at every world the program's WorldText answers as its model does, code and text, and the world is as it was; the condition is the row's own: the library's table as the program's text lays it. -/
import Derived.Test.YtfpemobkkfobkaaGreatDoorRows
import Derived.WalkKit
import Derived.ProofKit
import Derived.OpenShut
import Derived.ShutString
import Derived.ChangeOld
import Derived.Below
import Derived.Test.YtfpemobkkfobkaaGreatDoorK01
import Derived.Test.YtfpemobkkfobkaaGreatDoorK02
import Derived.Test.YtfpemobkkfobkaaGreatDoorK03
import Derived.Test.YtfpemobkkfobkaaGreatDoorK04
import Derived.Test.YtfpemobkkfobkaaGreatDoorK05
import Derived.Test.YtfpemobkkfobkaaGreatDoorK06
import Derived.Test.YtfpemobkkfobkaaGreatDoorK07
import Derived.Test.YtfpemobkkfobkaaGreatDoorK08
import Derived.Test.YtfpemobkkfobkaaGreatDoorK09
import Derived.Test.YtfpemobkkfobkaaGreatDoorK10
import Derived.Test.YtfpemobkkfobkaaGreatDoorK11
import Derived.Test.YtfpemobkkfobkaaGreatDoorK12
import Derived.Test.YtfpemobkkfobkaaGreatDoorK13
import Derived.Test.YtfpemobkkfobkaaGreatDoorK14
import Derived.Test.YtfpemobkkfobkaaGreatDoorK15
import Derived.Test.YtfpemobkkfobkaaGreatDoorK16
import Derived.Test.YtfpemobkkfobkaaGreatDoorK17
import Derived.Test.YtfpemobkkfobkaaGreatDoorK20
import Derived.Test.YtfpemobkkfobkaaGreatDoorK64
import Derived.Test.YtfpemobkkfobkaaGreatDoorK42
import Derived.Test.YtfpemobkkfobkaaGreatDoorK43
import Derived.Test.YtfpemobkkfobkaaGreatDoorK55
import Derived.Test.YtfpemobkkfobkaaGreatDoorK56
import Derived.Test.YtfpemobkkfobkaaGreatDoorK57
import Derived.Test.YtfpemobkkfobkaaGreatDoorK58
import Derived.Test.YtfpemobkkfobkaaGreatDoorK59
import Derived.Test.YtfpemobkkfobkaaGreatDoorK60
import Derived.Test.YtfpemobkkfobkaaGreatDoorK61
import Derived.Test.YtfpemobkkfobkaaGreatDoorK62
import Derived.Test.YtfpemobkkfobkaaGreatDoorK63
import Derived.Test.YtfpemobkkfobkaaGreatDoorK79
import Derived.Test.YtfpemobkkfobkaaGreatDoorK88
import Derived.Test.YtfpemobkkfobkaaGreatDoorK89
import Derived.Test.YtfpemobkkfobkaaGreatDoorK90
import Derived.Test.YtfpemobkkfobkaaGreatDoorK91
import Derived.Test.YtfpemobkkfobkaaGreatDoorTie
import Derived.Test.YtfpemobkkfobkaaGreatDoorCards
import Derived.SevenTiedAt
import Derived.LaidMore
import Derived.LaidHandle
import Derived.LaidLaws
import Derived.Stop.Joined
namespace Go.Proofs.YtfpemobkkfobkaaGreatDoor.fnExactWorldText
open Go.ChangeShapes Go.WideShapes Go.ChangeAt Go.RowKit
set_option linter.unusedVariables false

theorem own : ownKnob Tryz.prog.godebug = none := by kernel_rfl
theorem laidOut : laidOutB Tryz.prog = true := by kernel_rfl
/-- What the condition gives the walk: the table of powers of ten. -/
theorem handle_of_laid {W : World} (h : laidMetH Tryz.prog [("math/bits.deBruijn32tab", Rows.laid_math_bits_deBruijn32tab), ("math/bits.deBruijn64tab", Rows.laid_math_bits_deBruijn64tab), ("internal/strconv.uint64pow10", Rows.laid_internal_strconv_uint64pow10)] W) : TabL W := by
  have h' : laidMet Tryz.prog [("math/bits.deBruijn32tab", Rows.laid_math_bits_deBruijn32tab), ("math/bits.deBruijn64tab", Rows.laid_math_bits_deBruijn64tab), ("internal/strconv.uint64pow10", Rows.laid_internal_strconv_uint64pow10)] W := h
  obtain ⟨ps, ⟨_, _, _, _, _, _, _, _, _, _, ⟨_, _, _, _, _, _, _, _, _, _, ⟨g', t', cs, fuel, p, q, hg', ht', hvar, hd, _, _⟩, _⟩, _⟩, _⟩ := h'
  obtain rfl := Option.some.inj ((by kernel_rfl : Tryz.prog.globalNamed "internal/strconv.uint64pow10" = some 0).symm.trans hg')
  obtain rfl := Option.some.inj ((by kernel_rfl : (Tryz.prog.globals[0]?).map (·.type) = some 217).symm.trans ht')
  have hd2 : DataW.trod (fun _ => ()) Tryz.prog W 0 (fun _ => true) false fuel 217 cs.toList = some (Lib.tabData .u64 Lib.pow10Tab, p) := hd
  unfold TabL Lib.TabIs
  rw [hvar, ← Lib.cells_of_tab (n := 20) (e := 186) (by kernel_rfl) (by kernel_rfl) (by kernel_rfl) (by kernel_rfl) hd2]
theorem door_met (os : Os) (args : Array Value) : laidMetH Tryz.prog [("math/bits.deBruijn32tab", Rows.laid_math_bits_deBruijn32tab), ("math/bits.deBruijn64tab", Rows.laid_math_bits_deBruijn64tab), ("internal/strconv.uint64pow10", Rows.laid_internal_strconv_uint64pow10)] ((World.doorLaid Tryz.prog 24 os).forCall (fun _ _ => 0) ⟨#[], args, []⟩).memory :=
  (laidMet_of_run' 8 (by kernel_rfl) (by kernel_rfl) : laidMet Tryz.prog [("math/bits.deBruijn32tab", Rows.laid_math_bits_deBruijn32tab), ("math/bits.deBruijn64tab", Rows.laid_math_bits_deBruijn64tab), ("internal/strconv.uint64pow10", Rows.laid_internal_strconv_uint64pow10)] _)


set_option maxHeartbeats 4000000 in
set_option maxRecDepth 8000 in
theorem walk {H : Type} (enc : TypeId × Value → H) (v0 : Value) (w : World) (base : Nat) (hE : TabL w)
    (o0 : Value.okWide Tryz.prog w .any base 29 v0) (t0 : ∃ n y, DataW.trod enc Tryz.prog w 0 (fun _ => true) true n 29 v0.cells.toList = some y) :
    Calls Tryz.prog 3 #[v0] w fun e w' => e = .returned (.bool true) ∧ Below w.heap.size w w' := by
  obtain ⟨g0, A0, rfl, ho⟩ := open_World o0 t0
  clear o0 t0
  have HP : Hid (∀ W, Below w.heap.size w W → shWorld.Rd W w.heap.size g0 A0.toList) := fun W hW => Sh.Rd.below ho (Nat.le_refl _) hW
  have HI0 : Hid ((Tryz.prog.info? 29).map (·.size) = some A0.toList.length) := by show _ = _; rw [Array.length_toList, rd_size ho]; exact (by kernel_rfl : (Tryz.prog.info? 29).map (·.size) = some 6)
  clear ho
  have HRX : Hid (∀ W : World, (∀ o, W.cell? ⟨w.heap.size, o, none⟩ = A0[o]?) → Hid (W.rangeAt w.heap.size 0 A0.toList)) := fun W hk => bx_range hk
  obtain ⟨T0, hT0⟩ : ∃ T : Nat, T = totWorld g0 := ⟨_, rfl⟩
  obtain ⟨V, hV⟩ : ∃ V, V = wtS g0 := ⟨_, rfl⟩
  obtain ⟨C, hC⟩ : ∃ C, C = worldF g0 := ⟨_, rfl⟩
  have CS : Hid (∀ (W : World) (B : Nat) (A : Array Value), shWorld.Rd W B g0 A.toList → B ≤ W.heap.size → totWorld g0 ≤ 1048576 → Calls Tryz.prog 5 #[.agg A] W fun e w' => e = .returned (.agg #[.int .i64 C, .string V]) ∧ Below W.heap.size W w') := fun W B A h1 h2 h3 => by rw [hV, hC]; exact sWorldText g0 A W B h1 h2 h3
  have CI : Hid (∀ (W : World) (B : Nat) (A : Array Value), shWorld.Rd W B g0 A.toList → B ≤ W.heap.size → totWorld g0 ≤ 1048576 → (Below w.heap.size w W) → Calls Tryz.prog 7 #[.agg A] W fun e w' => e = .returned (.agg #[.int .i64 C, .string V]) ∧ Below W.heap.size W w') := fun W B A h1 h2 h3 h4 => by rw [hV, hC]; exact iWorldText g0 A W B h1 h2 h3 (hE.below h4)
  clear hV hC
  by_cases hbig : (1048576 : Int) < (T0 : Int)
  · have hskip := trivial
    go_enter Tryz.func3, Tryz.ntmps3
    have k0 := bx_al w A0 29
    have HRG := HRX.out _ k0
    go_wp2_with (refine wpList_load_mid rfl 29 _ rfl _ _ (by rfl) A0.toList _ HRG.out Tryz.underlying29 rfl HI0.out ?_)
    have c := fun W R hB => lSzWorld g0 A0 1048576 W w.heap.size R hB (by omega) (by omega)
    rw [← hT0, if_pos (show (1048576 : Int) < (T0 : Int) by omega)] at c
    refine (c _ (HP.out _ ((Below.refl _ _).alloc (Nat.le_refl _) _)) (by simp)).mono ?_
    rintro e w1 ⟨rfl, hb⟩
    clear c
    replace k0 := bx_new hb
    obtain ⟨hb, z0⟩ := bl_new hb
    have HB : Hid (Below w.heap.size w w1) := hb
    replace HRG := HRX.out _ k0
    clear hb
    go_wp2_with fail
    go_ret
    exact ⟨rfl, HB.out⟩
  go_enter Tryz.func3, Tryz.ntmps3
  have k0 := bx_al w A0 29
  have HRG := HRX.out _ k0
  go_wp2_with (refine wpList_load_mid rfl 29 _ rfl _ _ (by rfl) A0.toList _ HRG.out Tryz.underlying29 rfl HI0.out ?_)
  have c := fun W R hB => lSzWorld g0 A0 1048576 W w.heap.size R hB (by omega) (by omega)
  rw [← hT0, if_neg (show ¬ ((1048576 : Int) < (T0 : Int)) by omega)] at c
  refine (c _ (HP.out _ ((Below.refl _ _).alloc (Nat.le_refl _) _)) (by simp)).mono ?_
  rintro e w1 ⟨rfl, hb⟩
  clear c
  replace k0 := bx_new hb
  obtain ⟨hb, z0⟩ := bl_new hb
  have HB : Hid (Below w.heap.size w w1) := hb
  replace HRG := HRX.out _ k0
  clear hb
  have hrest : ¬ ((1048576 : Int) - (T0 : Int) < 0) := by omega
  have hTT : totWorld g0 ≤ 1048576 := by omega
  go_wp2_with (refine wpList_load_mid rfl 29 _ rfl _ _ (by rfl) A0.toList _ HRG.out Tryz.underlying29 rfl HI0.out ?_)
  refine (lToWorld g0 A0 _ w.heap.size (HP.out _ HB.out) HB.out.size hTT).mono ?_
  rintro e w2 ⟨A2, rfl, ho, hb⟩
  have X2 : Hid (shWorld.Rd w2 w2.heap.size g0 A2.toList) := ho.rd (Nat.le_refl _)
  replace k0 := bx_below k0 z0 hb
  replace z0 := Nat.lt_of_lt_of_le z0 hb.size
  replace HRG := HRX.out _ k0
  replace HB : Hid (Below w.heap.size w w2) := HB.out.trans (hb.mono HB.out.size)
  clear ho hb
  go_wp2_with fail
  refine (CS.out _ _ A2 X2.out (Nat.le_refl _) hTT).mono ?_
  rintro e w3 ⟨rfl, hb⟩
  replace k0 := bx_below k0 z0 hb
  replace z0 := Nat.lt_of_lt_of_le z0 hb.size
  replace HRG := HRX.out _ k0
  replace HB : Hid (Below w.heap.size w w3) := HB.out.trans (hb.mono HB.out.size)
  clear hb X2 CS
  go_wp2_with (first | (refine wpList_load_mid rfl 29 _ rfl _ _ (by rfl) A0.toList _ HRG.out Tryz.underlying29 rfl HI0.out ?_) | (refine wpList_load_mid rfl 29 _ rfl _ _ (by rfl) A0.toList _ (HRX.out _ (fun o => (World.cell?_alloc_lt _ _ _ (by simpa using z0)).trans (k0 o))).out Tryz.underlying29 rfl HI0.out ?_))
  refine (lToWorld g0 A0 _ w.heap.size (HP.out _ (by have h := HB.out; first | exact h | go_grown)) (by have h := HB.out.size; first | exact h | (simp; omega)) hTT).mono ?_
  rintro e w4 ⟨A4, rfl, ho, hb⟩
  have kW := bx_new hb
  have zW : w3.heap.size < w4.heap.size := (bl_new hb).2
  replace hb := (bl_new hb).1
  replace ho := Own.mono (lo' := w3.heap.size) ho (by simp) (Nat.le_refl _)
  have X4 : Hid (Own w4 w3.heap.size w4.heap.size shWorld g0 A4.toList) := ho
  replace k0 := bx_below k0 z0 hb
  replace z0 := Nat.lt_of_lt_of_le z0 hb.size
  replace HRG := HRX.out _ k0
  replace HB : Hid (Below w.heap.size w w4) := HB.out.trans (hb.mono HB.out.size)
  have hz4 : A4.size = 6 := rd_size (ho.rd (Nat.le_refl _))
  have HI4 : Hid ((Tryz.prog.info? 39).map (·.size) = some A4.size) := by show _ = _; rw [hz4]; exact (by kernel_rfl : (Tryz.prog.info? 39).map (·.size) = some 6)
  have HI4' : Hid ((Tryz.prog.info? 39).map (·.size) = some A4.toList.length) := by show _ = _; rw [Array.length_toList]; exact HI4.out
  have HONE : Hid (A4.all (·.oneCell') = true) := rd_all (ho.rd (Nat.le_refl _))
  clear ho hb
  have HTH : Hid ((w4.alloc (.cells #[.int .i64 0, .slice none 0 0, .slice none 0 0, .slice none 0 0, .slice none 0 0, .slice none 0 0] 39)).there w4.heap.size 0 A4.size) := bx_there (bx_al _ _ _) (fx_al _ _ _) (by rw [hz4]; rfl)
  have HK5 : Hid (∀ o, ((w4.alloc (.cells #[.int .i64 0, .slice none 0 0, .slice none 0 0, .slice none 0 0, .slice none 0 0, .slice none 0 0] 39)).setCells w4.heap.size 0 A4.toList).cell? ⟨w4.heap.size, o, none⟩ = A4[o]?) := bx_setCells (bx_al w4 _ _) (by rw [hz4]; rfl)
  have HB5 : Hid (Below w4.heap.size w4 ((w4.alloc (.cells #[.int .i64 0, .slice none 0 0, .slice none 0 0, .slice none 0 0, .slice none 0 0, .slice none 0 0] 39)).setCells w4.heap.size 0 A4.toList)) := setCells_below (Nat.le_refl _) _ _ _ _ ((Below.refl _ _).alloc (Nat.le_refl _) _)
  have HZ5 : Hid (w4.heap.size < ((w4.alloc (.cells #[.int .i64 0, .slice none 0 0, .slice none 0 0, .slice none 0 0, .slice none 0 0, .slice none 0 0] 39)).setCells w4.heap.size 0 A4.toList).heap.size) := by show _ < _; rw [setCells_size]; simp
  go_upto_region 7 with (refine wpList_store_mid rfl 39 _ _ rfl _ _ A4 (by rfl) (by rfl) HTH.out HI4.out HONE.out ?_)
  generalize hW5 : (w4.alloc (.cells #[.int .i64 0, .slice none 0 0, .slice none 0 0, .slice none 0 0, .slice none 0 0, .slice none 0 0] 39)).setCells w4.heap.size 0 A4.toList = w5 at HK5 HB5 HZ5 ⊢
  have hb := HB5.out
  have kX := HK5.out
  have zX := HZ5.out
  have HZ45 : Hid (w4.heap.size < w5.heap.size) := zX
  replace k0 := bx_below k0 z0 hb
  replace z0 := Nat.lt_of_lt_of_le z0 hb.size
  replace HRG := HRX.out _ k0
  replace HB : Hid (Below w.heap.size w w5) := HB.out.trans (hb.mono HB.out.size)
  replace kW := bx_below kW zW hb
  replace zW := Nat.lt_of_lt_of_le zW hb.size
  replace X4 : Hid (Own w5 w3.heap.size w4.heap.size shWorld g0 A4.toList) := Own.below X4.out (Nat.le_refl _) hb
  have HXR : Hid (∀ W : World, (∀ o, W.cell? ⟨w4.heap.size, o, none⟩ = A4[o]?) → Hid (W.rangeAt w4.heap.size 0 A4.toList)) := fun W hk => bx_range hk
  have HXG := HXR.out _ kX
  clear hb hW5 HK5 HB5 HZ5 HTH HONE HI4 hz4
  go_wp2_with (refine wpList_load_mid rfl 39 _ rfl _ _ (by rfl) A4.toList _ HXG.out Tryz.underlying39 rfl HI4'.out ?_)
  refine (CI.out _ _ A4 (X4.out.rd (Nat.le_refl _)) (Nat.le_refl _) hTT HB.out).mono ?_
  rintro e w6 ⟨rfl, hb⟩
  have HZ56 : Hid (w5.heap.size ≤ w6.heap.size) := hb.size
  replace k0 := bx_below k0 z0 hb
  replace z0 := Nat.lt_of_lt_of_le z0 hb.size
  replace HRG := HRX.out _ k0
  replace HB : Hid (Below w.heap.size w w6) := HB.out.trans (hb.mono HB.out.size)
  replace kW := bx_below kW zW hb
  replace zW := Nat.lt_of_lt_of_le zW hb.size
  replace kX := bx_below kX zX hb
  replace zX := Nat.lt_of_lt_of_le zX hb.size
  replace HXG := HXR.out _ kX
  replace X4 : Hid (Own w6 w3.heap.size w4.heap.size shWorld g0 A4.toList) := Own.below X4.out (Nat.le_of_lt HZ45.out) hb
  clear hb CI
  go_wp2_with fail
  refine (lEqTextResult _ _ _).mono ?_
  rintro e w7 ⟨rfl, hb⟩
  replace hb := (bl_new hb).1
  replace k0 := bx_below k0 z0 hb
  replace z0 := Nat.lt_of_lt_of_le z0 hb.size
  replace HRG := HRX.out _ k0
  replace HB : Hid (Below w.heap.size w w7) := HB.out.trans (hb.mono HB.out.size)
  replace kW := bx_below kW zW hb
  replace zW := Nat.lt_of_lt_of_le zW hb.size
  replace kX := bx_below kX zX hb
  replace zX := Nat.lt_of_lt_of_le zX hb.size
  replace HXG := HXR.out _ kX
  have HZ6 : Hid (w4.heap.size < w6.heap.size) := Nat.lt_of_lt_of_le HZ45.out HZ56.out
  replace X4 : Hid (Own w7 w3.heap.size w4.heap.size shWorld g0 A4.toList) := Own.below X4.out (Nat.le_of_lt HZ6.out) hb
  clear hb
  have HXO : Hid (∀ W, Below w7.heap.size w7 W → shWorld.Rd W w7.heap.size g0 A4.toList) := fun W hW => Sh.Rd.below (X4.out.rd (Nat.le_refl _)) (Nat.le_refl _) hW
  clear X4
  go_upto_region 10 with fail
  go_cut [27] (fun u wx => u = .bool false ∧ Hid (Below w7.heap.size w7 wx))
  case first =>
    refine wp_region_noPanic ?_
    refine Goes.start (S := fun w' => Below w7.heap.size w7 w') (z := 100) (by kernel_rfl) ?_
    refine Goes.take (i := 0) (oi := ?oi2) (x := .agg (A4.toList).toArray) ?ho2 (by kernel_rfl) (by kernel_rfl) (by kernel_rfl) (by kernel_rfl) (fun _ _ _ h => h) ?hy2 (Below.drew (Below.refl _ _)) ?rest2
    case ho2 => (simp only [List.getElem?_toArray, List.getElem?_cons_zero] <;> rfl)
    case hy2 => exact yieldsIf_load_mid (by rfl) 39 _ rfl (w4.heap.size) (0) (by rfl) (A4.toList) _ (fun w' hSw => bx_range (fun o => (hSw.cell (p := ⟨w4.heap.size, o, none⟩) zX).trans (kX o))) Tryz.underlying39 rfl HI4'.out
    case rest2 =>
    (try simp only [Act.put, List.setIfInBounds_toArray, List.set_cons_zero, List.set_cons_succ])
    refine Goes.take (i := 1) (oi := ?oi3) (x := .agg (A0.toList).toArray) ?ho3 (by kernel_rfl) (by kernel_rfl) (by kernel_rfl) (by kernel_rfl) (fun _ _ _ h => h) ?hy3 (Below.drew (Below.refl _ _)) ?rest3
    case ho3 => (simp only [List.getElem?_toArray, List.getElem?_cons_succ, List.getElem?_cons_zero] <;> rfl)
    case hy3 => exact yieldsIf_load_mid (by rfl) 29 _ rfl (w.heap.size) (0) (by rfl) (A0.toList) _ (fun w' hSw => bx_range (fun o => (hSw.cell (p := ⟨w.heap.size, o, none⟩) z0).trans (k0 o))) Tryz.underlying29 rfl HI0.out
    case rest3 =>
    (try simp only [Act.put, List.setIfInBounds_toArray, List.set_cons_zero, List.set_cons_succ])
    refine Goes.all (rs := [2]) (by kernel_rfl) (by simp) ?_
    refine Ups.cons (i := 2) (o := ?oo4) ?ho4 (fun KK hKK => ?stp4) Ups.nil
    case ho4 => (simp only [List.getElem?_toArray, List.getElem?_cons_succ, List.getElem?_cons_zero] <;> rfl)
    case stp4 =>
    go_simp
    go_at_call 6
    refine (lToWorld g0 A0 _ w.heap.size (HP.out _ (HB.out.trans (Below.drew (Below.refl _ _)))) HB.out.size hTT).mono ?_
    rintro e w8 ⟨A8, rfl, ho, hbq⟩
    have X8 : Hid (shWorld.Rd w8 w8.heap.size g0 A8.toList) := ho.rd (Nat.le_refl _)
    replace hbq := (Below.drew (Below.refl w7.heap.size w7)).trans hbq
    have HS8 : Hid (Below w7.heap.size w7 w8) := hbq
    clear hbq ho
    dsimp only
    refine hKK.out _ _ (Or.inr HS8.out) ?_
    clear hKK KK
    (try simp only [Act.put, List.setIfInBounds_toArray, List.set_cons_zero, List.set_cons_succ])
    refine Goes.all (rs := [3]) (by kernel_rfl) (by simp) ?_
    refine Ups.cons (i := 3) (o := ?oo5) ?ho5 (fun KK hKK => ?stp5) Ups.nil
    case ho5 => (simp only [List.getElem?_toArray, List.getElem?_cons_succ, List.getElem?_cons_zero] <;> rfl)
    case stp5 =>
    go_simp
    go_at_call 9
    refine (lEqWorld g0 A4 A8 _ w8.heap.size (Sh.Rd.mono HS8.out.size _ _ _ (HXO.out _ HS8.out)) X8.out (Nat.le_refl _) hTT).mono ?_
    rintro e w9 ⟨rfl, hbq⟩
    replace hbq := HS8.out.trans (hbq.mono HS8.out.size)
    have HS5 : Hid (Below w7.heap.size w7 w9) := hbq
    clear hbq
    dsimp only
    refine hKK.out _ _ (Or.inr HS5.out) ?_
    clear hKK KK
    (try simp only [Act.put, List.setIfInBounds_toArray, List.set_cons_zero, List.set_cons_succ])
    refine Goes.take (i := 4) (oi := ?oi6) (x := ?vx6) ?ho6 (by kernel_rfl) (by kernel_rfl) (by kernel_rfl) (by kernel_rfl) (fun _ _ _ h => h) (Or.inl ⟨?hw6, ?hy6⟩) HS5.out ?rest6
    case ho6 => (simp only [List.getElem?_toArray, List.getElem?_cons_succ, List.getElem?_cons_zero] <;> rfl)
    case hw6 => rfl
    case hy6 => (intro w' hSw; go_simp; (try with_reducible rfl))
    case rest6 =>
    (try simp only [Act.put, List.setIfInBounds_toArray, List.set_cons_zero, List.set_cons_succ])
    refine Goes.done (by kernel_rfl) ?_ _
    refine NoPanic.normal ?_
    go_wp2_with fail
    go_meet
    exact ⟨rfl, by assumption⟩
  case rest =>
  rename World => w10
  obtain ⟨rfl, hb⟩ := hcut
  replace HB : Hid (Below w.heap.size w w10) := HB.out.trans (hb.out.mono HB.out.size)
  clear hb k0 kX kW HRG HXG HXO
  go_wp2_with fail
  go_ret
  exact ⟨rfl, HB.out⟩

set_option maxRecDepth 100000 in
theorem lifted (os : Os) (started : os.Started) (H : Type) (enc : TypeId × Value → H) :
    ReturnsInHanded {} Tryz.checked os 3 .any (fun w args => (Rows.fnExactWorldTextSpec.pre enc Tryz.prog Tryz.f3 [] false w args ∧ laidMetH Tryz.prog [("math/bits.deBruijn32tab", Rows.laid_math_bits_deBruijn32tab), ("math/bits.deBruijn64tab", Rows.laid_math_bits_deBruijn64tab), ("internal/strconv.uint64pow10", Rows.laid_internal_strconv_uint64pow10)] w) ∧ sizedMet enc Tryz.prog Tryz.f3 (OpenSpec.ofChange Rows.fnExactWorldTextSpec) false w args) (Rows.fnExactWorldTextSpec.post enc Tryz.prog Tryz.f3 false true false false) := by
  refine returnsInHanded_of_change_and (C := Tryz.checked) (X := fun w _ => laidMetH Tryz.prog [("math/bits.deBruijn32tab", Rows.laid_math_bits_deBruijn32tab), ("math/bits.deBruijn64tab", Rows.laid_math_bits_deBruijn64tab), ("internal/strconv.uint64pow10", Rows.laid_internal_strconv_uint64pow10)] w) (fun _ _ _ hh h => h.of_heap hh) own started (by kernel_rfl) Tryz.func3
    (ChangeSpec.witness_shaped (enc := enc) (C := Tryz.checked) (os := os) (X := fun w _ => laidMetH Tryz.prog [("math/bits.deBruijn32tab", Rows.laid_math_bits_deBruijn32tab), ("math/bits.deBruijn64tab", Rows.laid_math_bits_deBruijn64tab), ("internal/strconv.uint64pow10", Rows.laid_internal_strconv_uint64pow10)] w) false (World.doorLaid Tryz.prog 24 os) #[.agg #[.int .i64 0, .slice none 0 0, .slice none 0 0, .slice none 0 0, .slice none 0 0, .slice none 0 0]] 8 rfl (World.shaped_of_RefB (by kernel_rfl) (by kernel_rfl)) (by kernel_rfl) (by kernel_rfl) (by kernel_rfl) (door_met os _)) ?_
  intro W base args ds gs before hval0 hW _ _ hL _
  have hval : ∀ (j : Nat) t v, Tryz.f3.params[j]? = some t → args[j]? = some v → Value.okWide Tryz.prog W .any base t v := hval0
  have hW' := hW
  obtain ⟨p, q, hA0, hV, rfl, hfz, hnd⟩ := hW
  have hA : DataW.TrodAll enc Tryz.prog W 0 (fun _ => true) true Tryz.f3.params.toList args.toList ds p := hA0
  rw [Tryz.params3] at hA hval
  obtain ⟨v0, vs0, d0, ds0, p0, q0, hargs, rfl, rfl, h0, r0⟩ := trodAll_cons hA
  obtain ⟨rfl, rfl, rfl⟩ := trodAll_nil r0
  obtain rfl : args = #[v0] := by cases args; simp_all
  obtain ⟨rfl, rfl⟩ := trodVars_none hV
  have lt0 : ∀ x ∈ p0, x.block < W.heap.size := by obtain ⟨m, hm⟩ := h0; exact DataW.trod_lt m _ _ _ hm
  have t0 : ∃ n y, DataW.trod enc Tryz.prog W 0 (fun _ => true) true n 29 v0.cells.toList = some y := by obtain ⟨m, hm⟩ := h0; exact ⟨m, _, hm⟩
  refine (walk enc v0 W base (handle_of_laid hL) (hval 0 29 v0 rfl rfl) t0).mono fun e W' ⟨he, bel⟩ => ?_
  subst he
  exact ⟨_, rfl, _, _, _, [], _, [], hW', trodAll_mk1 (shut_bool Tryz.underlying4 _), (trodAll_cons_mk (Below.trod laidOut (by kernel_rfl) (of_decide_eq_true (by kernel_rfl)) h0 bel lt0) trodAll_mk0), rfl, bel.frame _, fun h => by cases h⟩

theorem over : Rows.fnExactWorldTextRow.holds Tryz.pinned (OpenSpec.ofChange Rows.fnExactWorldTextSpec) :=
  OpenClaim.holds_of_wide 3 Tryz.f3 rfl rfl rfl rfl rfl rfl rfl ⟨rfl, rfl, rfl, rfl, rfl⟩ rfl rfl rfl rfl rfl (by kernel_rfl) Tryz.func3 (by kernel_rfl)
    (of_decide_eq_true (by kernel_rfl)) (by unfold Func.isWrapper; first | (rw [if_pos (by decide +kernel)]; kernel_rfl) | (rw [if_neg (by decide +kernel)]; exact ⟨rfl, rfl⟩))
    (fun os started H enc _ => lifted os started H enc)

theorem proved : Rows.FnExactWorldTextSaid := over
theorem card : Rows.FnExactWorldTextCardSaid :=
  Claim7.holds_tied_plain_at .later [] [.data, .data, .data] true (true, "c53c78764172d81dc61b3126cc4977178d52c3f49a8c58022fa07abff8e709f1") false
    proved (fun _ h => by cases h) (by kernel_rfl) (fun _ h => by cases h) fnExactWorldText_row_tie rfl ⟨rfl, rfl⟩ (by kernel_rfl) rfl
    (fun f fn hf hfn => by
      obtain rfl : f = 3 := Option.some.inj ((show Tryz.prog.funcNamed "loop.example/g00230/laws.FnExactWorldText" = some 3 by kernel_rfl).symm.trans hf) |>.symm
      obtain rfl : fn = Tryz.f3 := (Option.some.inj (Tryz.func3.symm.trans hfn)).symm
      exact ⟨by kernel_rfl, fun j t ht => by
        rw [Tryz.params3] at ht
        have hm : t ∈ [29] := by simpa using Array.mem_of_getElem? ht
        have hall : ([29].all fun u => !Tryz.prog.wantsStandIn u) = true := by kernel_rfl
        exact (show Tryz.prog.wantsStandIn t = false by simpa using List.all_eq_true.1 hall t hm)⟩)
    (by kernel_rfl)
#print axioms card
end Go.Proofs.YtfpemobkkfobkaaGreatDoor.fnExactWorldText

namespace Go.Proofs.YtfpemobkkfobkaaGreatDoor
theorem fnExactWorldText_holds : Rows.FnExactWorldTextCardSaid := fnExactWorldText.card
end Go.Proofs.YtfpemobkkfobkaaGreatDoor
