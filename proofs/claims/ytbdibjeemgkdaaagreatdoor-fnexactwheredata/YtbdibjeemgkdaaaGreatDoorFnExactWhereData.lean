/- Proved: at every conn and segment the program's WhereData answers as its model does, code and number; conn and segment are as they were; the condition is the row's own: errors' own variable as the program's text lays it. -/
import Derived.Test.YtbdibjeemgkdaaaGreatDoorRows
import Derived.WalkKit
import Derived.ProofKit
import Derived.OpenShut
import Derived.ShutString
import Derived.ChangeOld
import Derived.Below
import Derived.Test.YtbdibjeemgkdaaaGreatDoorK01
import Derived.Test.YtbdibjeemgkdaaaGreatDoorK02
import Derived.Test.YtbdibjeemgkdaaaGreatDoorK03
import Derived.Test.YtbdibjeemgkdaaaGreatDoorK04
import Derived.Test.YtbdibjeemgkdaaaGreatDoorK05
import Derived.Test.YtbdibjeemgkdaaaGreatDoorK06
import Derived.Test.YtbdibjeemgkdaaaGreatDoorK07
import Derived.Test.YtbdibjeemgkdaaaGreatDoorK08
import Derived.Test.YtbdibjeemgkdaaaGreatDoorK09
import Derived.Test.YtbdibjeemgkdaaaGreatDoorK10
import Derived.Test.YtbdibjeemgkdaaaGreatDoorK11
import Derived.Test.YtbdibjeemgkdaaaGreatDoorK12
import Derived.Test.YtbdibjeemgkdaaaGreatDoorK13
import Derived.Test.YtbdibjeemgkdaaaGreatDoorK14
import Derived.Test.YtbdibjeemgkdaaaGreatDoorK15
import Derived.Test.YtbdibjeemgkdaaaGreatDoorK16
import Derived.Test.YtbdibjeemgkdaaaGreatDoorK17
import Derived.Test.YtbdibjeemgkdaaaGreatDoorK20
import Derived.Test.YtbdibjeemgkdaaaGreatDoorK21
import Derived.Test.YtbdibjeemgkdaaaGreatDoorK25
import Derived.Test.YtbdibjeemgkdaaaGreatDoorK42
import Derived.Test.YtbdibjeemgkdaaaGreatDoorK38
import Derived.Test.YtbdibjeemgkdaaaGreatDoorK39
import Derived.Test.YtbdibjeemgkdaaaGreatDoorK43
import Derived.Test.YtbdibjeemgkdaaaGreatDoorK44
import Derived.Test.YtbdibjeemgkdaaaGreatDoorK45
import Derived.Test.YtbdibjeemgkdaaaGreatDoorK46
import Derived.Test.YtbdibjeemgkdaaaGreatDoorTie
import Derived.Test.YtbdibjeemgkdaaaGreatDoorCards
import Derived.SevenTiedAt
import Derived.LaidMore
import Derived.LaidHandle
import Derived.LaidLaws
import Derived.Stop.Joined
namespace Go.Proofs.YtbdibjeemgkdaaaGreatDoor.fnExactWhereData
open Go.ChangeShapes Go.WideShapes Go.ChangeAt Go.RowKit
set_option linter.unusedVariables false

theorem own : ownKnob Tryz.prog.godebug = none := by kernel_rfl
theorem laidOut : laidOutB Tryz.prog = true := by kernel_rfl
theorem et : Tryz.prog.globalNamed "errors.errorType" = some 0 := by kernel_rfl
theorem rt : (Tryz.prog.cutTypes.find? (·.1 == "internal/reflectlite.rtype")).map (·.2) = some 212 := by kernel_rfl
theorem oneRow : ((List.range 288).filter fun t => Tryz.prog.rowNamed t [101, 114, 114, 111, 114]) = [71] := by kernel_rfl
theorem tsize : Tryz.prog.types.size = 288 := by kernel_rfl
/-- What the condition gives the walk: errors' own variable. -/
theorem handle_of_laid {W : World} (h : laidMetH Tryz.prog [("errors.errorType", Rows.laid_errors_errorType)] W) : ErrLaid W := by
  have h' : laidMet Tryz.prog [] W ∧ handlesMet Tryz.prog [("errors.errorType", Rows.laid_errors_errorType)] W := h
  obtain ⟨name, u, ty, e1, e2, e3, e4, e5⟩ := h'.2 _ (List.mem_singleton.2 rfl)
  have en : name = [101, 114, 114, 111, 114] := (Option.some.inj e1).symm
  subst en
  obtain rfl := Option.some.inj (rt.symm.trans e2)
  have hm : ty ∈ (List.range 288).filter fun t => Tryz.prog.rowNamed t [101, 114, 114, 111, 114] := List.mem_filter.2 ⟨List.mem_range.2 (by rw [← tsize]; exact e3), e4⟩
  rw [oneRow] at hm
  obtain rfl := List.mem_singleton.1 hm
  have hh : typeHandle Tryz.prog 71 = .pointer (some ⟨1, 71, none⟩) := by kernel_rfl
  rw [hh] at e5
  have := World.var?_cell et e5 0
  unfold ErrLaid
  simpa using this
theorem door_met (os : Os) (args : Array Value) : laidMetH Tryz.prog [("errors.errorType", Rows.laid_errors_errorType)] ((World.doorLaid Tryz.prog 16 os).forCall (fun _ _ => 0) ⟨#[], args, []⟩).memory :=
  laidMetH_of_parts3 (fuel := 8) (laidMet_of_run' 8 (by kernel_rfl) (by kernel_rfl)) (by kernel_rfl) (by kernel_rfl)


set_option maxHeartbeats 8000000 in
set_option maxRecDepth 8000 in
theorem walk {H : Type} (enc : TypeId × Value → H) (v0 : Value) (v1 : Value) (w : World) (base : Nat) (hE : ErrLaid w)
    (o0 : Value.okWide Tryz.prog w .any base 28 v0) (t0 : ∃ n y, DataW.trod enc Tryz.prog w 0 (fun _ => true) true n 28 v0.cells.toList = some y)
    (o1 : Value.okWide Tryz.prog w .any base 50 v1) (t1 : ∃ n y, DataW.trod enc Tryz.prog w 0 (fun _ => true) true n 50 v1.cells.toList = some y) :
    Calls Tryz.prog 4 #[v0, v1] w fun e w' => e = .returned (.bool true) ∧ Below w.heap.size w w' := by
  obtain ⟨g0, A0, rfl, ho⟩ := open_Conn o0 t0
  obtain ⟨s, SA, rfl, hsg, hmx⟩ := open_sgv o1 t1
  clear o0 t0 o1 t1
  have HP : Hid (∀ W, Below w.heap.size w W → shConn.Rd W w.heap.size g0 A0.toList) := fun W hW => Sh.Rd.below ho (Nat.le_refl _) hW
  have HSG : Hid (∀ W, Below w.heap.size w W → SgO W s SA) := fun W hW => SgO.below hsg hW
  have HI0 : Hid ((Tryz.prog.info? 28).map (·.size) = some A0.toList.length) := by show _ = _; rw [Array.length_toList, rd_size ho]; exact (by kernel_rfl : (Tryz.prog.info? 28).map (·.size) = some 14)
  have HI1 : Hid ((Tryz.prog.info? 50).map (·.size) = some SA.toList.length) := by show _ = _; rw [Array.length_toList, hsg.size]; exact (by kernel_rfl : (Tryz.prog.info? 50).map (·.size) = some 12)
  clear ho hsg
  obtain ⟨T0, hT0⟩ : ∃ T : Nat, T = totConn g0 := ⟨_, rfl⟩
  obtain ⟨n1, hn1⟩ : ∃ n : Nat, n = s.load.length := ⟨_, rfl⟩
  have HL1 : Hid (s.load.length = n1) := hn1.symm
  have HMX : Hid _ := hmx
  have HT0 : Hid _ := hT0
  clear hmx
  obtain ⟨C, hC⟩ : ∃ C, C = (whP g0 s).1 := ⟨_, rfl⟩
  obtain ⟨V, hV⟩ : ∃ V, V = (whP g0 s).2 := ⟨_, rfl⟩
  have HEL : Hid (∀ W, Below w.heap.size w W → ErrLaid W) := fun W hW => ErrLaid.belowW hE hW
  clear hE
  have CS : Hid (∀ (W : World) (B : Nat) (A SB : Array Value), shConn.Rd W B g0 A.toList → B ≤ W.heap.size → totConn g0 ≤ 1048576 → SgR W s SB → n1 ≤ 1048576 → Calls Tryz.prog 19 #[.agg A, .agg SB] W fun e w' => e = .returned (.agg #[.int .i64 C, .int .i64 V]) ∧ Below W.heap.size W w') := fun W B A SB h1 h2 h3 h4 h5 => by obtain ⟨a, cap, e, r, nl⟩ := h4; rw [hC, hV, e]; exact sWhereData g0 A s a _ cap W B h1 h2 h3 rfl r nl (by rw [HL1.out]; exact h5)
  have CI : Hid (∀ (W : World) (B : Nat) (A SB : Array Value), shConn.Rd W B g0 A.toList → B ≤ W.heap.size → totConn g0 ≤ 1048576 → SgR W s SB → n1 ≤ 1048576 → ErrLaid W → Calls Tryz.prog 21 #[.agg A, .agg SB] W fun e w' => e = .returned (.agg #[.int .i64 C, .int .i64 V]) ∧ Below W.heap.size W w') := fun W B A SB h1 h2 h3 h4 h5 h6 => by obtain ⟨a, cap, e, r, nl⟩ := h4; rw [hC, hV, e]; exact iWhereData g0 A s a _ cap W B h1 h2 h3 rfl r nl (by rw [HL1.out]; exact h5) h6
  clear hC hV hn1 hT0
  by_cases hbig : (1048576 : Int) < (T0 : Int)
  case pos =>
    have HWA : Hid (Below w.heap.size w ((w.alloc (.cells A0 28)).alloc (.cells SA 50)) ∧ ((w.alloc (.cells A0 28)).alloc (.cells SA 50)).heap.size = w.heap.size + 2 ∧ (∀ o, ((w.alloc (.cells A0 28)).alloc (.cells SA 50)).cell? ⟨w.heap.size, o, none⟩ = A0[o]?) ∧ (∀ o, ((w.alloc (.cells A0 28)).alloc (.cells SA 50)).cell? ⟨w.heap.size + 1, o, none⟩ = SA[o]?)) := ⟨((Below.refl _ _).alloc (Nat.le_refl _) _).alloc (by simp) _, by simp, fun o => by simp [go_sem], fun o => by simp [go_sem]⟩
    go_enter Tryz.func4, Tryz.ntmps4
    go_upto_region 1 with fail
    generalize hWW : ((w.alloc (.cells A0 28)).alloc (.cells SA 50)) = w1 at HWA ⊢
    clear hWW
    obtain ⟨hb, hsz, k0, k1⟩ := HWA.out
    clear HWA
    have HB : Hid (Below w.heap.size w w1) := hb
    have z0 : w.heap.size < w1.heap.size := by omega
    have z1 : w.heap.size + 1 < w1.heap.size := by omega
    clear hb hsz
    go_wp2_with (refine wpList_load_mid rfl 28 _ rfl _ _ (by rfl) A0.toList _ (bx_range k0) Tryz.underlying28 rfl HI0.out ?_)
    have c := fun W R hB => lSzConn g0 A0 1048576 W w.heap.size R hB (by omega) (by omega)
    rw [← HT0.out, if_pos (show (1048576 : Int) < (T0 : Int) by omega)] at c
    refine (c _ (HP.out _ HB.out) HB.out.size).mono ?_
    rintro e w2 ⟨rfl, hb⟩
    clear c
    replace k0 := bx_below k0 z0 hb
    replace z0 := Nat.lt_of_lt_of_le z0 hb.size
    replace k1 := bx_below k1 z1 hb
    replace z1 := Nat.lt_of_lt_of_le z1 hb.size
    replace HB : Hid (Below w.heap.size w w2) := HB.out.trans (hb.mono HB.out.size)
    clear hb
    go_wp2_with fail
    go_ret
    exact ⟨rfl, HB.out⟩
  have hrest : ¬ ((1048576 : Int) - (T0 : Int) < 0) := by omega
  by_cases hb2 : (1048576 : Int) - (T0 : Int) < (n1 : Int)
  case pos =>
    have HWA : Hid (Below w.heap.size w ((w.alloc (.cells A0 28)).alloc (.cells SA 50)) ∧ ((w.alloc (.cells A0 28)).alloc (.cells SA 50)).heap.size = w.heap.size + 2 ∧ (∀ o, ((w.alloc (.cells A0 28)).alloc (.cells SA 50)).cell? ⟨w.heap.size, o, none⟩ = A0[o]?) ∧ (∀ o, ((w.alloc (.cells A0 28)).alloc (.cells SA 50)).cell? ⟨w.heap.size + 1, o, none⟩ = SA[o]?)) := ⟨((Below.refl _ _).alloc (Nat.le_refl _) _).alloc (by simp) _, by simp, fun o => by simp [go_sem], fun o => by simp [go_sem]⟩
    go_enter Tryz.func4, Tryz.ntmps4
    go_upto_region 1 with fail
    generalize hWW : ((w.alloc (.cells A0 28)).alloc (.cells SA 50)) = w1 at HWA ⊢
    clear hWW
    obtain ⟨hb, hsz, k0, k1⟩ := HWA.out
    clear HWA
    have HB : Hid (Below w.heap.size w w1) := hb
    have z0 : w.heap.size < w1.heap.size := by omega
    have z1 : w.heap.size + 1 < w1.heap.size := by omega
    clear hb hsz
    go_wp2_with (refine wpList_load_mid rfl 28 _ rfl _ _ (by rfl) A0.toList _ (bx_range k0) Tryz.underlying28 rfl HI0.out ?_)
    have c := fun W R hB => lSzConn g0 A0 1048576 W w.heap.size R hB (by omega) (by omega)
    rw [← HT0.out, if_neg (show ¬ ((1048576 : Int) < (T0 : Int)) by omega)] at c
    refine (c _ (HP.out _ HB.out) HB.out.size).mono ?_
    rintro e w2 ⟨rfl, hb⟩
    clear c
    replace k0 := bx_below k0 z0 hb
    replace z0 := Nat.lt_of_lt_of_le z0 hb.size
    replace k1 := bx_below k1 z1 hb
    replace z1 := Nat.lt_of_lt_of_le z1 hb.size
    replace HB : Hid (Below w.heap.size w w2) := HB.out.trans (hb.mono HB.out.size)
    clear hb
    go_wp2_with (refine wpList_load_mid rfl 50 _ rfl _ _ (by rfl) SA.toList _ (bx_range k1) Tryz.underlying50 rfl HI1.out ?_)
    have c := fun W R => lSzSg s SA ((1048576 : Int) - (T0 : Int)) W R HMX.out (by omega) (by omega)
    rw [HL1.out, if_pos (show (1048576 : Int) - (T0 : Int) < (n1 : Int) by omega)] at c
    refine (c _ (HSG.out _ HB.out)).mono ?_
    rintro e w3 ⟨rfl, hb⟩
    clear c
    replace k0 := bx_below k0 z0 hb
    replace z0 := Nat.lt_of_lt_of_le z0 hb.size
    replace k1 := bx_below k1 z1 hb
    replace z1 := Nat.lt_of_lt_of_le z1 hb.size
    replace HB : Hid (Below w.heap.size w w3) := HB.out.trans (hb.mono HB.out.size)
    clear hb
    go_wp2_with fail
    go_ret
    exact ⟨rfl, HB.out⟩
  have hrest2 : ¬ ((1048576 : Int) - (T0 : Int) - (n1 : Int) < 0) := by omega
  have hTT : totConn g0 ≤ 1048576 := by rw [← HT0.out]; omega
  have hn1 : n1 ≤ 1048576 := by omega
  have hNN : s.load.length ≤ 1048576 := by rw [HL1.out]; exact hn1
  have HNN : Hid _ := hNN
  clear hNN
  obtain ⟨Q, hQ⟩ : ∃ Q : Array Value, Q = #[.int .i64 C, .int .i64 V] := ⟨_, rfl⟩
  have HQE : Hid _ := hQ
  have HQZ : Hid (Q.size = 2) := by show _ = _; rw [hQ]; rfl
  have HIQ : Hid ((Tryz.prog.info? 53).map (·.size) = some Q.size) := by show _ = _; rw [HQZ.out]; exact info_IntR
  have HONQ : Hid (Q.all (·.oneCell') = true) := by show _ = _; rw [hQ]; simp [Value.oneCell']
  clear hQ
  have HWA : Hid (Below w.heap.size w ((w.alloc (.cells A0 28)).alloc (.cells SA 50)) ∧ ((w.alloc (.cells A0 28)).alloc (.cells SA 50)).heap.size = w.heap.size + 2 ∧ (∀ o, ((w.alloc (.cells A0 28)).alloc (.cells SA 50)).cell? ⟨w.heap.size, o, none⟩ = A0[o]?) ∧ (∀ o, ((w.alloc (.cells A0 28)).alloc (.cells SA 50)).cell? ⟨w.heap.size + 1, o, none⟩ = SA[o]?)) := ⟨((Below.refl _ _).alloc (Nat.le_refl _) _).alloc (by simp) _, by simp, fun o => by simp [go_sem], fun o => by simp [go_sem]⟩
  go_enter Tryz.func4, Tryz.ntmps4
  go_upto_region 1 with fail
  generalize hWW : ((w.alloc (.cells A0 28)).alloc (.cells SA 50)) = w1 at HWA ⊢
  clear hWW
  obtain ⟨hb, hsz, k0, k1⟩ := HWA.out
  clear HWA
  have HB : Hid (Below w.heap.size w w1) := hb
  have z0 : w.heap.size < w1.heap.size := by omega
  have z1 : w.heap.size + 1 < w1.heap.size := by omega
  clear hb hsz
  go_wp2_with (refine wpList_load_mid rfl 28 _ rfl _ _ (by rfl) A0.toList _ (bx_range k0) Tryz.underlying28 rfl HI0.out ?_)
  have c := fun W R hB => lSzConn g0 A0 1048576 W w.heap.size R hB (by omega) (by omega)
  rw [← HT0.out, if_neg (show ¬ ((1048576 : Int) < (T0 : Int)) by omega)] at c
  refine (c _ (HP.out _ HB.out) HB.out.size).mono ?_
  rintro e w2 ⟨rfl, hb⟩
  clear c
  replace k0 := bx_below k0 z0 hb
  replace z0 := Nat.lt_of_lt_of_le z0 hb.size
  replace k1 := bx_below k1 z1 hb
  replace z1 := Nat.lt_of_lt_of_le z1 hb.size
  replace HB : Hid (Below w.heap.size w w2) := HB.out.trans (hb.mono HB.out.size)
  clear hb
  go_wp2_with (refine wpList_load_mid rfl 50 _ rfl _ _ (by rfl) SA.toList _ (bx_range k1) Tryz.underlying50 rfl HI1.out ?_)
  have c := fun W R => lSzSg s SA ((1048576 : Int) - (T0 : Int)) W R HMX.out (by omega) (by omega)
  rw [HL1.out, if_neg (show ¬ ((1048576 : Int) - (T0 : Int) < (n1 : Int)) by omega)] at c
  refine (c _ (HSG.out _ HB.out)).mono ?_
  rintro e w3 ⟨rfl, hb⟩
  clear c
  replace k0 := bx_below k0 z0 hb
  replace z0 := Nat.lt_of_lt_of_le z0 hb.size
  replace k1 := bx_below k1 z1 hb
  replace z1 := Nat.lt_of_lt_of_le z1 hb.size
  replace HB : Hid (Below w.heap.size w w3) := HB.out.trans (hb.mono HB.out.size)
  clear hb
  go_upto_region 8 with fail
  have k00 := k0
  have z00 := z0
  have k10 := k1
  have z10 := z1
  go_cut [6] (fun u wx => ∃ p, u = .pointer (some ⟨p, 0, none⟩) ∧ Hid (Below w.heap.size w wx ∧ (∀ o, wx.cell? ⟨w.heap.size, o, none⟩ = A0[o]?) ∧ (∀ o, wx.cell? ⟨w.heap.size + 1, o, none⟩ = SA[o]?) ∧ w.heap.size + 1 < p ∧ p < wx.heap.size ∧ (∀ o, wx.cell? ⟨p, o, none⟩ = Q[o]?)))
  case first =>
    refine wp_region_noPanic ?_
    refine Goes.start (S := fun w' => Below w3.heap.size w3 w') (z := 6) (by kernel_rfl) ?_
    have hb : Below w3.heap.size w3 w3.drew := Below.drew (Below.refl _ _)
    generalize hWW : w3.drew = v0 at hb ⊢
    clear hWW
    have HS0 : Hid (Below w3.heap.size w3 v0) := hb
    replace k0 := bx_below k0 z0 hb
    replace z0 := Nat.lt_of_lt_of_le z0 hb.size
    replace k1 := bx_below k1 z1 hb
    replace z1 := Nat.lt_of_lt_of_le z1 hb.size
    replace HB : Hid (Below w.heap.size w v0) := HB.out.trans (hb.mono HB.out.size)
    clear hb
    refine Goes.take (i := 0) (oi := ?oi11) (x := .agg (A0.toList).toArray) ?ho11 (by kernel_rfl) (by kernel_rfl) (by kernel_rfl) (by kernel_rfl) (fun _ _ _ h => h) ?hy11 HS0.out ?rest11
    case ho11 => (simp only [List.getElem?_toArray, List.getElem?_cons_zero] <;> rfl)
    case hy11 => exact yieldsIf_load_mid (by rfl) 28 _ rfl (w.heap.size) (0) (by rfl) (A0.toList) _ (fun w' hSw => bx_range (fun o => (hSw.cell (p := ⟨w.heap.size, o, none⟩) z00).trans (k00 o))) Tryz.underlying28 rfl HI0.out
    case rest11 =>
    (try simp only [Act.put, List.setIfInBounds_toArray, List.set_cons_zero, List.set_cons_succ])
    refine Goes.take (i := 2) (oi := ?oi12) (x := .agg (SA.toList).toArray) ?ho12 (by kernel_rfl) (by kernel_rfl) (by kernel_rfl) (by kernel_rfl) (fun _ _ _ h => h) ?hy12 HS0.out ?rest12
    case ho12 => (simp only [List.getElem?_toArray, List.getElem?_cons_succ, List.getElem?_cons_zero] <;> rfl)
    case hy12 => exact yieldsIf_load_mid (by rfl) 50 _ rfl (w.heap.size + 1) (0) (by rfl) (SA.toList) _ (fun w' hSw => bx_range (fun o => (hSw.cell (p := ⟨w.heap.size + 1, o, none⟩) z10).trans (k10 o))) Tryz.underlying50 rfl HI1.out
    case rest12 =>
    (try simp only [Act.put, List.setIfInBounds_toArray, List.set_cons_zero, List.set_cons_succ])
    refine Goes.all (rs := [1, 5]) (by kernel_rfl) (by simp) ?_
    refine (Ups.cons (i := 1) (o := ?oo13) ?ho13 (fun KK hKK => ?stp13) (Ups.cons (i := 5) (o := ?oo14) ?ho14 (fun KK hKK => ?stp14) Ups.nil))
    case ho13 => (simp only [List.getElem?_toArray, List.getElem?_cons_succ, List.getElem?_cons_zero] <;> rfl)
    case ho14 => (simp only [List.getElem?_toArray, List.getElem?_cons_succ, List.getElem?_cons_zero] <;> rfl)
    case stp13 =>
      go_simp
      go_at_call 8
      refine (lToConn g0 A0 _ w.heap.size (HP.out _ HB.out) HB.out.size hTT).mono ?_
      rintro e v1 ⟨AX, rfl, ho, hb⟩
      have HSv1 : Hid (Below w3.heap.size w3 v1) := HS0.out.trans (hb.mono HS0.out.size)
      obtain ⟨hXA, ehXA⟩ : ∃ x, x = v0.heap.size := ⟨_, rfl⟩
      obtain ⟨tXA, etXA⟩ : ∃ x, x = v1.heap.size := ⟨_, rfl⟩
      have l0XA : w.heap.size < hXA := by rw [ehXA]; exact z0
      have l1XA : w.heap.size + 1 < hXA := by rw [ehXA]; exact z1
      have mXA : hXA ≤ tXA := by rw [ehXA, etXA]; exact hb.size
      replace k0 := bx_below k0 z0 hb
      replace z0 := Nat.lt_of_lt_of_le z0 hb.size
      replace k1 := bx_below k1 z1 hb
      replace z1 := Nat.lt_of_lt_of_le z1 hb.size
      replace HB : Hid (Below w.heap.size w v1) := HB.out.trans (hb.mono HB.out.size)
      clear hb
      rw [← ehXA, ← etXA] at ho
      have lXA : tXA ≤ v1.heap.size := by omega
      have XA : Hid (Own v1 hXA tXA shConn g0 AX.toList) := ho
      clear ho ehXA etXA
      dsimp only
      refine hKK.out _ _ (Or.inr HSv1.out) ?_
      clear hKK KK
      (try simp only [Act.put, List.setIfInBounds_toArray, List.set_cons_zero, List.set_cons_succ])
      refine Goes.all (rs := [3, 5]) (by kernel_rfl) (by simp) ?_
      refine (Ups.cons (i := 3) (o := ?oo15) ?ho15 (fun KK hKK => ?stp15) (Ups.cons (i := 5) (o := ?oo16) ?ho16 (fun KK hKK => ?stp16) Ups.nil))
      case ho15 => (simp only [List.getElem?_toArray, List.getElem?_cons_succ, List.getElem?_cons_zero] <;> rfl)
      case ho16 => (simp only [List.getElem?_toArray, List.getElem?_cons_succ, List.getElem?_cons_zero] <;> rfl)
      case stp15 =>
        go_simp
        go_at_call 20
        refine (lToSg s SA _ (HSG.out _ HB.out) HNN.out).mono ?_
        rintro e v2 ⟨SB, rfl, hsg, hb⟩
        have HSv2 : Hid (Below w3.heap.size w3 v2) := HSv1.out.trans (hb.mono HSv1.out.size)
        replace k0 := bx_below k0 z0 hb
        replace z0 := Nat.lt_of_lt_of_le z0 hb.size
        replace k1 := bx_below k1 z1 hb
        replace z1 := Nat.lt_of_lt_of_le z1 hb.size
        replace XA : Hid (Own v2 hXA tXA shConn g0 AX.toList) := Own.below XA.out (by omega) hb
        replace lXA : tXA ≤ v2.heap.size := Nat.le_trans lXA hb.size
        replace HB : Hid (Below w.heap.size w v2) := HB.out.trans (hb.mono HB.out.size)
        clear hb
        have XS : Hid (SgR v2 s SB) := hsg
        clear hsg
        dsimp only
        refine hKK.out _ _ (Or.inr HSv2.out) ?_
        clear hKK KK
        (try simp only [Act.put, List.setIfInBounds_toArray, List.set_cons_zero, List.set_cons_succ])
        refine Goes.all (rs := [4, 5]) (by kernel_rfl) (by simp) ?_
        refine (Ups.cons (i := 4) (o := ?oo17) ?ho17 (fun KK hKK => ?stp17) (Ups.cons (i := 5) (o := ?oo18) ?ho18 (fun KK hKK => ?stp18) Ups.nil))
        case ho17 => (simp only [List.getElem?_toArray, List.getElem?_cons_succ, List.getElem?_cons_zero] <;> rfl)
        case ho18 => (simp only [List.getElem?_toArray, List.getElem?_cons_succ, List.getElem?_cons_zero] <;> rfl)
        case stp17 =>
          go_simp
          go_at_call 19
          refine (CS.out _ _ AX SB (XA.out.rd (Nat.le_refl _)) (Nat.le_refl _) hTT XS.out hn1).mono ?_
          rintro e v3 ⟨rfl, hb⟩
          have HSv3 : Hid (Below w3.heap.size w3 v3) := HSv2.out.trans (hb.mono HSv2.out.size)
          replace XS : Hid (SgR v3 s SB) := SgR.below XS.out hb
          replace k0 := bx_below k0 z0 hb
          replace z0 := Nat.lt_of_lt_of_le z0 hb.size
          replace k1 := bx_below k1 z1 hb
          replace z1 := Nat.lt_of_lt_of_le z1 hb.size
          replace XA : Hid (Own v3 hXA tXA shConn g0 AX.toList) := Own.below XA.out (by omega) hb
          replace lXA : tXA ≤ v3.heap.size := Nat.le_trans lXA hb.size
          replace HB : Hid (Below w.heap.size w v3) := HB.out.trans (hb.mono HB.out.size)
          clear hb
          dsimp only
          refine hKK.out _ _ (Or.inr HSv3.out) ?_
          clear hKK KK
          (try simp only [Act.put, List.setIfInBounds_toArray, List.set_cons_zero, List.set_cons_succ])
          refine Goes.all (rs := [5]) (by kernel_rfl) (by simp) ?_
          refine (Ups.cons (i := 5) (o := ?oo19) ?ho19 (fun KK hKK => ?stp19) Ups.nil)
          case ho19 => (simp only [List.getElem?_toArray, List.getElem?_cons_succ, List.getElem?_cons_zero] <;> rfl)
          case stp19 =>
            go_simp
            have hb : Below v3.heap.size v3 (v3.alloc (.cells #[.int .i64 0, .int .i64 0] 53)) := (Below.refl _ _).alloc (Nat.le_refl _) _
            have HSv4 : Hid (Below w3.heap.size w3 (v3.alloc (.cells #[.int .i64 0, .int .i64 0] 53))) := HSv3.out.trans (hb.mono HSv3.out.size)
            refine hKK.out _ _ (Or.inr HSv4.out) ?_
            clear hKK KK
            (try simp only [Act.put, List.setIfInBounds_toArray, List.set_cons_zero, List.set_cons_succ])
            have kP : ∀ o, (v3.alloc (.cells #[.int .i64 0, .int .i64 0] 53)).cell? ⟨v3.heap.size, o, none⟩ = (#[.int .i64 0, .int .i64 0] : Array Value)[o]? := bx_al v3 _ _
            have fP : ∀ o, (v3.alloc (.cells #[.int .i64 0, .int .i64 0] 53)).frozen? ⟨v3.heap.size, o, none⟩ = false := fx_al v3 _ _
            have zP : v3.heap.size < (v3.alloc (.cells #[.int .i64 0, .int .i64 0] 53)).heap.size := by simp
            generalize hWW : (v3.alloc (.cells #[.int .i64 0, .int .i64 0] 53)) = v4 at hb kP fP zP HSv4 ⊢
            clear hWW
            obtain ⟨bP, hq⟩ : ∃ q, q = v3.heap.size := ⟨_, rfl⟩
            rw [← hq] at kP fP zP ⊢
            have l0P : w.heap.size < bP := by rw [hq]; exact z0
            have l1P : w.heap.size + 1 < bP := by rw [hq]; exact z1
            have lXAP : tXA ≤ bP := by omega
            clear hq
            replace XS : Hid (SgR v4 s SB) := SgR.below XS.out hb
            replace k0 := bx_below k0 z0 hb
            replace z0 := Nat.lt_of_lt_of_le z0 hb.size
            replace k1 := bx_below k1 z1 hb
            replace z1 := Nat.lt_of_lt_of_le z1 hb.size
            replace XA : Hid (Own v4 hXA tXA shConn g0 AX.toList) := Own.below XA.out (by omega) hb
            replace lXA : tXA ≤ v4.heap.size := Nat.le_trans lXA hb.size
            replace HB : Hid (Below w.heap.size w v4) := HB.out.trans (hb.mono HB.out.size)
            clear hb
            refine Goes.all (rs := [6]) (by kernel_rfl) (by simp) ?_
            refine (Ups.cons (i := 6) (o := ?oo20) ?ho20 (fun KK hKK => ?stp20) Ups.nil)
            case ho20 => (simp only [List.getElem?_toArray, List.getElem?_cons_succ, List.getElem?_cons_zero] <;> rfl)
            case stp20 =>
            rw [if_pos (by rfl)]
            refine wp_store_mid 53 _ _ rfl _ _ Q (by rfl) (by rw [HQE.out]; rfl) (bx_there kP fP (by rw [HQZ.out]; rfl)) HIQ.out HONQ.out ?_
            refine hKK.out _ _ (Or.inl rfl) ?_
            clear hKK KK
            (try simp only [Act.put])
            refine Goes.done (by kernel_rfl) ?_ _
            refine NoPanic.normal ?_
            go_wp2_with fail
            go_meet
            exact ⟨bP, rfl, ⟨setCells_below (by omega) _ _ _ _ HB.out, bx_setOff k0 (by omega), bx_setOff k1 (by omega), l1P, by rw [setCells_size]; exact zP, bx_setCells kP (by rw [HQZ.out]; rfl)⟩⟩
        case stp18 =>
          go_simp
          have hb : Below v2.heap.size v2 (v2.alloc (.cells #[.int .i64 0, .int .i64 0] 53)) := (Below.refl _ _).alloc (Nat.le_refl _) _
          have HSv5 : Hid (Below w3.heap.size w3 (v2.alloc (.cells #[.int .i64 0, .int .i64 0] 53))) := HSv2.out.trans (hb.mono HSv2.out.size)
          refine hKK.out _ _ (Or.inr HSv5.out) ?_
          clear hKK KK
          (try simp only [Act.put, List.setIfInBounds_toArray, List.set_cons_zero, List.set_cons_succ])
          have kP : ∀ o, (v2.alloc (.cells #[.int .i64 0, .int .i64 0] 53)).cell? ⟨v2.heap.size, o, none⟩ = (#[.int .i64 0, .int .i64 0] : Array Value)[o]? := bx_al v2 _ _
          have fP : ∀ o, (v2.alloc (.cells #[.int .i64 0, .int .i64 0] 53)).frozen? ⟨v2.heap.size, o, none⟩ = false := fx_al v2 _ _
          have zP : v2.heap.size < (v2.alloc (.cells #[.int .i64 0, .int .i64 0] 53)).heap.size := by simp
          generalize hWW : (v2.alloc (.cells #[.int .i64 0, .int .i64 0] 53)) = v5 at hb kP fP zP HSv5 ⊢
          clear hWW
          obtain ⟨bP, hq⟩ : ∃ q, q = v2.heap.size := ⟨_, rfl⟩
          rw [← hq] at kP fP zP ⊢
          have l0P : w.heap.size < bP := by rw [hq]; exact z0
          have l1P : w.heap.size + 1 < bP := by rw [hq]; exact z1
          have lXAP : tXA ≤ bP := by omega
          clear hq
          replace XS : Hid (SgR v5 s SB) := SgR.below XS.out hb
          replace k0 := bx_below k0 z0 hb
          replace z0 := Nat.lt_of_lt_of_le z0 hb.size
          replace k1 := bx_below k1 z1 hb
          replace z1 := Nat.lt_of_lt_of_le z1 hb.size
          replace XA : Hid (Own v5 hXA tXA shConn g0 AX.toList) := Own.below XA.out (by omega) hb
          replace lXA : tXA ≤ v5.heap.size := Nat.le_trans lXA hb.size
          replace HB : Hid (Below w.heap.size w v5) := HB.out.trans (hb.mono HB.out.size)
          clear hb
          refine Goes.all (rs := [4]) (by kernel_rfl) (by simp) ?_
          refine (Ups.cons (i := 4) (o := ?oo21) ?ho21 (fun KK hKK => ?stp21) Ups.nil)
          case ho21 => (simp only [List.getElem?_toArray, List.getElem?_cons_succ, List.getElem?_cons_zero] <;> rfl)
          case stp21 =>
            go_simp
            go_at_call 19
            refine (CS.out _ _ AX SB (XA.out.rd (Nat.le_refl _)) (Nat.le_refl _) hTT XS.out hn1).mono ?_
            rintro e v6 ⟨rfl, hb⟩
            have HSv6 : Hid (Below w3.heap.size w3 v6) := HSv5.out.trans (hb.mono HSv5.out.size)
            replace XS : Hid (SgR v6 s SB) := SgR.below XS.out hb
            replace k0 := bx_below k0 z0 hb
            replace z0 := Nat.lt_of_lt_of_le z0 hb.size
            replace k1 := bx_below k1 z1 hb
            replace z1 := Nat.lt_of_lt_of_le z1 hb.size
            replace kP := bx_below kP zP hb
            replace fP := bxF fP hb zP
            replace zP := Nat.lt_of_lt_of_le zP hb.size
            replace XA : Hid (Own v6 hXA tXA shConn g0 AX.toList) := Own.below XA.out (by omega) hb
            replace lXA : tXA ≤ v6.heap.size := Nat.le_trans lXA hb.size
            replace HB : Hid (Below w.heap.size w v6) := HB.out.trans (hb.mono HB.out.size)
            clear hb
            dsimp only
            refine hKK.out _ _ (Or.inr HSv6.out) ?_
            clear hKK KK
            (try simp only [Act.put, List.setIfInBounds_toArray, List.set_cons_zero, List.set_cons_succ])
            refine Goes.all (rs := [6]) (by kernel_rfl) (by simp) ?_
            refine (Ups.cons (i := 6) (o := ?oo22) ?ho22 (fun KK hKK => ?stp22) Ups.nil)
            case ho22 => (simp only [List.getElem?_toArray, List.getElem?_cons_succ, List.getElem?_cons_zero] <;> rfl)
            case stp22 =>
            rw [if_pos (by rfl)]
            refine wp_store_mid 53 _ _ rfl _ _ Q (by rfl) (by rw [HQE.out]; rfl) (bx_there kP fP (by rw [HQZ.out]; rfl)) HIQ.out HONQ.out ?_
            refine hKK.out _ _ (Or.inl rfl) ?_
            clear hKK KK
            (try simp only [Act.put])
            refine Goes.done (by kernel_rfl) ?_ _
            refine NoPanic.normal ?_
            go_wp2_with fail
            go_meet
            exact ⟨bP, rfl, ⟨setCells_below (by omega) _ _ _ _ HB.out, bx_setOff k0 (by omega), bx_setOff k1 (by omega), l1P, by rw [setCells_size]; exact zP, bx_setCells kP (by rw [HQZ.out]; rfl)⟩⟩
      case stp16 =>
        go_simp
        have hb : Below v1.heap.size v1 (v1.alloc (.cells #[.int .i64 0, .int .i64 0] 53)) := (Below.refl _ _).alloc (Nat.le_refl _) _
        have HSv7 : Hid (Below w3.heap.size w3 (v1.alloc (.cells #[.int .i64 0, .int .i64 0] 53))) := HSv1.out.trans (hb.mono HSv1.out.size)
        refine hKK.out _ _ (Or.inr HSv7.out) ?_
        clear hKK KK
        (try simp only [Act.put, List.setIfInBounds_toArray, List.set_cons_zero, List.set_cons_succ])
        have kP : ∀ o, (v1.alloc (.cells #[.int .i64 0, .int .i64 0] 53)).cell? ⟨v1.heap.size, o, none⟩ = (#[.int .i64 0, .int .i64 0] : Array Value)[o]? := bx_al v1 _ _
        have fP : ∀ o, (v1.alloc (.cells #[.int .i64 0, .int .i64 0] 53)).frozen? ⟨v1.heap.size, o, none⟩ = false := fx_al v1 _ _
        have zP : v1.heap.size < (v1.alloc (.cells #[.int .i64 0, .int .i64 0] 53)).heap.size := by simp
        generalize hWW : (v1.alloc (.cells #[.int .i64 0, .int .i64 0] 53)) = v7 at hb kP fP zP HSv7 ⊢
        clear hWW
        obtain ⟨bP, hq⟩ : ∃ q, q = v1.heap.size := ⟨_, rfl⟩
        rw [← hq] at kP fP zP ⊢
        have l0P : w.heap.size < bP := by rw [hq]; exact z0
        have l1P : w.heap.size + 1 < bP := by rw [hq]; exact z1
        have lXAP : tXA ≤ bP := by omega
        clear hq
        replace k0 := bx_below k0 z0 hb
        replace z0 := Nat.lt_of_lt_of_le z0 hb.size
        replace k1 := bx_below k1 z1 hb
        replace z1 := Nat.lt_of_lt_of_le z1 hb.size
        replace XA : Hid (Own v7 hXA tXA shConn g0 AX.toList) := Own.below XA.out (by omega) hb
        replace lXA : tXA ≤ v7.heap.size := Nat.le_trans lXA hb.size
        replace HB : Hid (Below w.heap.size w v7) := HB.out.trans (hb.mono HB.out.size)
        clear hb
        refine Goes.all (rs := [3]) (by kernel_rfl) (by simp) ?_
        refine (Ups.cons (i := 3) (o := ?oo23) ?ho23 (fun KK hKK => ?stp23) Ups.nil)
        case ho23 => (simp only [List.getElem?_toArray, List.getElem?_cons_succ, List.getElem?_cons_zero] <;> rfl)
        case stp23 =>
          go_simp
          go_at_call 20
          refine (lToSg s SA _ (HSG.out _ HB.out) HNN.out).mono ?_
          rintro e v8 ⟨SB, rfl, hsg, hb⟩
          have HSv8 : Hid (Below w3.heap.size w3 v8) := HSv7.out.trans (hb.mono HSv7.out.size)
          replace k0 := bx_below k0 z0 hb
          replace z0 := Nat.lt_of_lt_of_le z0 hb.size
          replace k1 := bx_below k1 z1 hb
          replace z1 := Nat.lt_of_lt_of_le z1 hb.size
          replace kP := bx_below kP zP hb
          replace fP := bxF fP hb zP
          replace zP := Nat.lt_of_lt_of_le zP hb.size
          replace XA : Hid (Own v8 hXA tXA shConn g0 AX.toList) := Own.below XA.out (by omega) hb
          replace lXA : tXA ≤ v8.heap.size := Nat.le_trans lXA hb.size
          replace HB : Hid (Below w.heap.size w v8) := HB.out.trans (hb.mono HB.out.size)
          clear hb
          have XS : Hid (SgR v8 s SB) := hsg
          clear hsg
          dsimp only
          refine hKK.out _ _ (Or.inr HSv8.out) ?_
          clear hKK KK
          (try simp only [Act.put, List.setIfInBounds_toArray, List.set_cons_zero, List.set_cons_succ])
          refine Goes.all (rs := [4]) (by kernel_rfl) (by simp) ?_
          refine (Ups.cons (i := 4) (o := ?oo24) ?ho24 (fun KK hKK => ?stp24) Ups.nil)
          case ho24 => (simp only [List.getElem?_toArray, List.getElem?_cons_succ, List.getElem?_cons_zero] <;> rfl)
          case stp24 =>
            go_simp
            go_at_call 19
            refine (CS.out _ _ AX SB (XA.out.rd (Nat.le_refl _)) (Nat.le_refl _) hTT XS.out hn1).mono ?_
            rintro e v9 ⟨rfl, hb⟩
            have HSv9 : Hid (Below w3.heap.size w3 v9) := HSv8.out.trans (hb.mono HSv8.out.size)
            replace XS : Hid (SgR v9 s SB) := SgR.below XS.out hb
            replace k0 := bx_below k0 z0 hb
            replace z0 := Nat.lt_of_lt_of_le z0 hb.size
            replace k1 := bx_below k1 z1 hb
            replace z1 := Nat.lt_of_lt_of_le z1 hb.size
            replace kP := bx_below kP zP hb
            replace fP := bxF fP hb zP
            replace zP := Nat.lt_of_lt_of_le zP hb.size
            replace XA : Hid (Own v9 hXA tXA shConn g0 AX.toList) := Own.below XA.out (by omega) hb
            replace lXA : tXA ≤ v9.heap.size := Nat.le_trans lXA hb.size
            replace HB : Hid (Below w.heap.size w v9) := HB.out.trans (hb.mono HB.out.size)
            clear hb
            dsimp only
            refine hKK.out _ _ (Or.inr HSv9.out) ?_
            clear hKK KK
            (try simp only [Act.put, List.setIfInBounds_toArray, List.set_cons_zero, List.set_cons_succ])
            refine Goes.all (rs := [6]) (by kernel_rfl) (by simp) ?_
            refine (Ups.cons (i := 6) (o := ?oo25) ?ho25 (fun KK hKK => ?stp25) Ups.nil)
            case ho25 => (simp only [List.getElem?_toArray, List.getElem?_cons_succ, List.getElem?_cons_zero] <;> rfl)
            case stp25 =>
            rw [if_pos (by rfl)]
            refine wp_store_mid 53 _ _ rfl _ _ Q (by rfl) (by rw [HQE.out]; rfl) (bx_there kP fP (by rw [HQZ.out]; rfl)) HIQ.out HONQ.out ?_
            refine hKK.out _ _ (Or.inl rfl) ?_
            clear hKK KK
            (try simp only [Act.put])
            refine Goes.done (by kernel_rfl) ?_ _
            refine NoPanic.normal ?_
            go_wp2_with fail
            go_meet
            exact ⟨bP, rfl, ⟨setCells_below (by omega) _ _ _ _ HB.out, bx_setOff k0 (by omega), bx_setOff k1 (by omega), l1P, by rw [setCells_size]; exact zP, bx_setCells kP (by rw [HQZ.out]; rfl)⟩⟩
    case stp14 =>
      go_simp
      have hb : Below v0.heap.size v0 (v0.alloc (.cells #[.int .i64 0, .int .i64 0] 53)) := (Below.refl _ _).alloc (Nat.le_refl _) _
      have HSv10 : Hid (Below w3.heap.size w3 (v0.alloc (.cells #[.int .i64 0, .int .i64 0] 53))) := HS0.out.trans (hb.mono HS0.out.size)
      refine hKK.out _ _ (Or.inr HSv10.out) ?_
      clear hKK KK
      (try simp only [Act.put, List.setIfInBounds_toArray, List.set_cons_zero, List.set_cons_succ])
      have kP : ∀ o, (v0.alloc (.cells #[.int .i64 0, .int .i64 0] 53)).cell? ⟨v0.heap.size, o, none⟩ = (#[.int .i64 0, .int .i64 0] : Array Value)[o]? := bx_al v0 _ _
      have fP : ∀ o, (v0.alloc (.cells #[.int .i64 0, .int .i64 0] 53)).frozen? ⟨v0.heap.size, o, none⟩ = false := fx_al v0 _ _
      have zP : v0.heap.size < (v0.alloc (.cells #[.int .i64 0, .int .i64 0] 53)).heap.size := by simp
      generalize hWW : (v0.alloc (.cells #[.int .i64 0, .int .i64 0] 53)) = v10 at hb kP fP zP HSv10 ⊢
      clear hWW
      obtain ⟨bP, hq⟩ : ∃ q, q = v0.heap.size := ⟨_, rfl⟩
      rw [← hq] at kP fP zP ⊢
      have l0P : w.heap.size < bP := by rw [hq]; exact z0
      have l1P : w.heap.size + 1 < bP := by rw [hq]; exact z1
      clear hq
      replace k0 := bx_below k0 z0 hb
      replace z0 := Nat.lt_of_lt_of_le z0 hb.size
      replace k1 := bx_below k1 z1 hb
      replace z1 := Nat.lt_of_lt_of_le z1 hb.size
      replace HB : Hid (Below w.heap.size w v10) := HB.out.trans (hb.mono HB.out.size)
      clear hb
      refine Goes.all (rs := [1]) (by kernel_rfl) (by simp) ?_
      refine (Ups.cons (i := 1) (o := ?oo26) ?ho26 (fun KK hKK => ?stp26) Ups.nil)
      case ho26 => (simp only [List.getElem?_toArray, List.getElem?_cons_succ, List.getElem?_cons_zero] <;> rfl)
      case stp26 =>
        go_simp
        go_at_call 8
        refine (lToConn g0 A0 _ w.heap.size (HP.out _ HB.out) HB.out.size hTT).mono ?_
        rintro e v11 ⟨AX, rfl, ho, hb⟩
        have HSv11 : Hid (Below w3.heap.size w3 v11) := HSv10.out.trans (hb.mono HSv10.out.size)
        obtain ⟨hXA, ehXA⟩ : ∃ x, x = v10.heap.size := ⟨_, rfl⟩
        obtain ⟨tXA, etXA⟩ : ∃ x, x = v11.heap.size := ⟨_, rfl⟩
        have l0XA : w.heap.size < hXA := by rw [ehXA]; exact z0
        have l1XA : w.heap.size + 1 < hXA := by rw [ehXA]; exact z1
        have lPXA : bP < hXA := by rw [ehXA]; exact zP
        have mXA : hXA ≤ tXA := by rw [ehXA, etXA]; exact hb.size
        replace k0 := bx_below k0 z0 hb
        replace z0 := Nat.lt_of_lt_of_le z0 hb.size
        replace k1 := bx_below k1 z1 hb
        replace z1 := Nat.lt_of_lt_of_le z1 hb.size
        replace kP := bx_below kP zP hb
        replace fP := bxF fP hb zP
        replace zP := Nat.lt_of_lt_of_le zP hb.size
        replace HB : Hid (Below w.heap.size w v11) := HB.out.trans (hb.mono HB.out.size)
        clear hb
        rw [← ehXA, ← etXA] at ho
        have lXA : tXA ≤ v11.heap.size := by omega
        have XA : Hid (Own v11 hXA tXA shConn g0 AX.toList) := ho
        clear ho ehXA etXA
        dsimp only
        refine hKK.out _ _ (Or.inr HSv11.out) ?_
        clear hKK KK
        (try simp only [Act.put, List.setIfInBounds_toArray, List.set_cons_zero, List.set_cons_succ])
        refine Goes.all (rs := [3]) (by kernel_rfl) (by simp) ?_
        refine (Ups.cons (i := 3) (o := ?oo27) ?ho27 (fun KK hKK => ?stp27) Ups.nil)
        case ho27 => (simp only [List.getElem?_toArray, List.getElem?_cons_succ, List.getElem?_cons_zero] <;> rfl)
        case stp27 =>
          go_simp
          go_at_call 20
          refine (lToSg s SA _ (HSG.out _ HB.out) HNN.out).mono ?_
          rintro e v12 ⟨SB, rfl, hsg, hb⟩
          have HSv12 : Hid (Below w3.heap.size w3 v12) := HSv11.out.trans (hb.mono HSv11.out.size)
          replace k0 := bx_below k0 z0 hb
          replace z0 := Nat.lt_of_lt_of_le z0 hb.size
          replace k1 := bx_below k1 z1 hb
          replace z1 := Nat.lt_of_lt_of_le z1 hb.size
          replace kP := bx_below kP zP hb
          replace fP := bxF fP hb zP
          replace zP := Nat.lt_of_lt_of_le zP hb.size
          replace XA : Hid (Own v12 hXA tXA shConn g0 AX.toList) := Own.below XA.out (by omega) hb
          replace lXA : tXA ≤ v12.heap.size := Nat.le_trans lXA hb.size
          replace HB : Hid (Below w.heap.size w v12) := HB.out.trans (hb.mono HB.out.size)
          clear hb
          have XS : Hid (SgR v12 s SB) := hsg
          clear hsg
          dsimp only
          refine hKK.out _ _ (Or.inr HSv12.out) ?_
          clear hKK KK
          (try simp only [Act.put, List.setIfInBounds_toArray, List.set_cons_zero, List.set_cons_succ])
          refine Goes.all (rs := [4]) (by kernel_rfl) (by simp) ?_
          refine (Ups.cons (i := 4) (o := ?oo28) ?ho28 (fun KK hKK => ?stp28) Ups.nil)
          case ho28 => (simp only [List.getElem?_toArray, List.getElem?_cons_succ, List.getElem?_cons_zero] <;> rfl)
          case stp28 =>
            go_simp
            go_at_call 19
            refine (CS.out _ _ AX SB (XA.out.rd (Nat.le_refl _)) (Nat.le_refl _) hTT XS.out hn1).mono ?_
            rintro e v13 ⟨rfl, hb⟩
            have HSv13 : Hid (Below w3.heap.size w3 v13) := HSv12.out.trans (hb.mono HSv12.out.size)
            replace XS : Hid (SgR v13 s SB) := SgR.below XS.out hb
            replace k0 := bx_below k0 z0 hb
            replace z0 := Nat.lt_of_lt_of_le z0 hb.size
            replace k1 := bx_below k1 z1 hb
            replace z1 := Nat.lt_of_lt_of_le z1 hb.size
            replace kP := bx_below kP zP hb
            replace fP := bxF fP hb zP
            replace zP := Nat.lt_of_lt_of_le zP hb.size
            replace XA : Hid (Own v13 hXA tXA shConn g0 AX.toList) := Own.below XA.out (by omega) hb
            replace lXA : tXA ≤ v13.heap.size := Nat.le_trans lXA hb.size
            replace HB : Hid (Below w.heap.size w v13) := HB.out.trans (hb.mono HB.out.size)
            clear hb
            dsimp only
            refine hKK.out _ _ (Or.inr HSv13.out) ?_
            clear hKK KK
            (try simp only [Act.put, List.setIfInBounds_toArray, List.set_cons_zero, List.set_cons_succ])
            refine Goes.all (rs := [6]) (by kernel_rfl) (by simp) ?_
            refine (Ups.cons (i := 6) (o := ?oo29) ?ho29 (fun KK hKK => ?stp29) Ups.nil)
            case ho29 => (simp only [List.getElem?_toArray, List.getElem?_cons_succ, List.getElem?_cons_zero] <;> rfl)
            case stp29 =>
            rw [if_pos (by rfl)]
            refine wp_store_mid 53 _ _ rfl _ _ Q (by rfl) (by rw [HQE.out]; rfl) (bx_there kP fP (by rw [HQZ.out]; rfl)) HIQ.out HONQ.out ?_
            refine hKK.out _ _ (Or.inl rfl) ?_
            clear hKK KK
            (try simp only [Act.put])
            refine Goes.done (by kernel_rfl) ?_ _
            refine NoPanic.normal ?_
            go_wp2_with fail
            go_meet
            exact ⟨bP, rfl, ⟨setCells_below (by omega) _ _ _ _ HB.out, bx_setOff k0 (by omega), bx_setOff k1 (by omega), l1P, by rw [setCells_size]; exact zP, bx_setCells kP (by rw [HQZ.out]; rfl)⟩⟩
  case rest =>
  rename World => u1
  obtain ⟨p, rfl, hcut⟩ := hcut
  clear k0 z0 k1 z1 k00 z00 k10 z10 HB CS
  obtain ⟨hb, k0, k1, lp, zW, kW⟩ := hcut.out
  have HB : Hid (Below w.heap.size w u1) := hb
  clear hb hcut
  rw [HQE.out] at kW
  have z0 : w.heap.size < u1.heap.size := by omega
  have z1 : w.heap.size + 1 < u1.heap.size := by omega
  clear HQE HQZ HIQ HONQ
  go_wp2_with (refine wpList_load_mid rfl 28 _ rfl _ _ (by rfl) A0.toList _ (bx_range k0) Tryz.underlying28 rfl HI0.out ?_)
  refine (lToConn g0 A0 _ w.heap.size (HP.out _ HB.out) HB.out.size hTT).mono ?_
  rintro e u2 ⟨AX, rfl, ho, hb⟩
  have hzX : AX.size = 14 := rd_size (ho.rd (Nat.le_refl _))
  have HZX : Hid _ := hzX
  have HIX : Hid ((Tryz.prog.info? 35).map (·.size) = some AX.size) := by show _ = _; rw [hzX]; exact (by kernel_rfl : (Tryz.prog.info? 35).map (·.size) = some 14)
  have HIX' : Hid ((Tryz.prog.info? 35).map (·.size) = some AX.toList.length) := by show _ = _; rw [Array.length_toList]; exact HIX.out
  have HONX : Hid (AX.all (·.oneCell') = true) := rd_all (ho.rd (Nat.le_refl _))
  clear hzX
  obtain ⟨hXA, ehXA⟩ : ∃ x, x = u1.heap.size := ⟨_, rfl⟩
  obtain ⟨tXA, etXA⟩ : ∃ x, x = u2.heap.size := ⟨_, rfl⟩
  have l0XA : w.heap.size < hXA := by rw [ehXA]; exact z0
  have l1XA : w.heap.size + 1 < hXA := by rw [ehXA]; exact z1
  have lWXA : p < hXA := by rw [ehXA]; exact zW
  have mXA : hXA ≤ tXA := by rw [ehXA, etXA]; exact hb.size
  replace k0 := bx_below k0 z0 hb
  replace z0 := Nat.lt_of_lt_of_le z0 hb.size
  replace k1 := bx_below k1 z1 hb
  replace z1 := Nat.lt_of_lt_of_le z1 hb.size
  replace kW := bx_below kW zW hb
  replace zW := Nat.lt_of_lt_of_le zW hb.size
  replace HB : Hid (Below w.heap.size w u2) := HB.out.trans (hb.mono HB.out.size)
  clear hb
  rw [← ehXA, ← etXA] at ho
  have lXA : tXA ≤ u2.heap.size := by omega
  have XA : Hid (Own u2 hXA tXA shConn g0 AX.toList) := ho
  clear ho ehXA etXA
  have HTH : Hid ((u2.alloc (.cells #[.int .i64 0, .int .i64 0, .int .i64 0, .bool false, .bool false, .slice none 0 0, .bool false, .int .i64 0, .bool false, .slice none 0 0, .slice none 0 0, .int .i64 0, .int .i64 0, .slice none 0 0] 35)).there u2.heap.size 0 AX.size) := bx_there (bx_al _ _ _) (fx_al _ _ _) (by rw [HZX.out]; rfl)
  have HWN : Hid (Below u2.heap.size u2 ((u2.alloc (.cells #[.int .i64 0, .int .i64 0, .int .i64 0, .bool false, .bool false, .slice none 0 0, .bool false, .int .i64 0, .bool false, .slice none 0 0, .slice none 0 0, .int .i64 0, .int .i64 0, .slice none 0 0] 35)).setCells u2.heap.size 0 AX.toList) ∧ u2.heap.size < ((u2.alloc (.cells #[.int .i64 0, .int .i64 0, .int .i64 0, .bool false, .bool false, .slice none 0 0, .bool false, .int .i64 0, .bool false, .slice none 0 0, .slice none 0 0, .int .i64 0, .int .i64 0, .slice none 0 0] 35)).setCells u2.heap.size 0 AX.toList).heap.size ∧ (∀ o, ((u2.alloc (.cells #[.int .i64 0, .int .i64 0, .int .i64 0, .bool false, .bool false, .slice none 0 0, .bool false, .int .i64 0, .bool false, .slice none 0 0, .slice none 0 0, .int .i64 0, .int .i64 0, .slice none 0 0] 35)).setCells u2.heap.size 0 AX.toList).cell? ⟨u2.heap.size, o, none⟩ = AX[o]?) ∧ (∀ o, ((u2.alloc (.cells #[.int .i64 0, .int .i64 0, .int .i64 0, .bool false, .bool false, .slice none 0 0, .bool false, .int .i64 0, .bool false, .slice none 0 0, .slice none 0 0, .int .i64 0, .int .i64 0, .slice none 0 0] 35)).setCells u2.heap.size 0 AX.toList).frozen? ⟨u2.heap.size, o, none⟩ = false)) := ⟨setCells_below (Nat.le_refl _) _ _ _ _ ((Below.refl _ _).alloc (Nat.le_refl _) _), by rw [setCells_size]; simp, bx_setCells (bx_al u2 _ _) (by rw [HZX.out]; rfl), fx_sets (fx_al _ _ _)⟩
  go_upto_region 10 with (first | (refine wpList_store_mid rfl 35 _ _ rfl _ _ AX (by rfl) (by rfl) HTH.out HIX.out HONX.out ?_))
  generalize hWW : ((u2.alloc (.cells #[.int .i64 0, .int .i64 0, .int .i64 0, .bool false, .bool false, .slice none 0 0, .bool false, .int .i64 0, .bool false, .slice none 0 0, .slice none 0 0, .int .i64 0, .int .i64 0, .slice none 0 0] 35)).setCells u2.heap.size 0 AX.toList) = u3 at HWN ⊢
  clear hWW HTH
  obtain ⟨hb, zX, kX, fX⟩ := HWN.out
  clear HWN
  obtain ⟨bX, hq⟩ : ∃ q, q = u2.heap.size := ⟨_, rfl⟩
  rw [← hq] at zX kX fX ⊢
  have l0X : w.heap.size < bX := by rw [hq]; exact z0
  have l1X : w.heap.size + 1 < bX := by rw [hq]; exact z1
  have lWX : p < bX := by rw [hq]; exact zW
  have lXAX : tXA ≤ bX := by omega
  have lwX : w.heap.size ≤ bX := by rw [hq]; exact HB.out.size
  clear hq
  replace k0 := bx_below k0 z0 hb
  replace z0 := Nat.lt_of_lt_of_le z0 hb.size
  replace k1 := bx_below k1 z1 hb
  replace z1 := Nat.lt_of_lt_of_le z1 hb.size
  replace kW := bx_below kW zW hb
  replace zW := Nat.lt_of_lt_of_le zW hb.size
  replace XA : Hid (Own u3 hXA tXA shConn g0 AX.toList) := Own.below XA.out (by omega) hb
  replace lXA : tXA ≤ u3.heap.size := Nat.le_trans lXA hb.size
  replace HB : Hid (Below w.heap.size w u3) := HB.out.trans (hb.mono HB.out.size)
  clear hb
  go_wp2_with (refine wpList_load_mid rfl 50 _ rfl _ _ (by rfl) SA.toList _ (bx_range k1) Tryz.underlying50 rfl HI1.out ?_)
  refine (lToSg s SA _ (HSG.out _ HB.out) HNN.out).mono ?_
  rintro e u4 ⟨SB, rfl, hsg, hb⟩
  have hzY : SB.size = 12 := hsg.o.size
  have HZY : Hid _ := hzY
  have HIY : Hid ((Tryz.prog.info? 55).map (·.size) = some SB.size) := by show _ = _; rw [hzY]; exact (by kernel_rfl : (Tryz.prog.info? 55).map (·.size) = some 12)
  have HIY' : Hid ((Tryz.prog.info? 55).map (·.size) = some SB.toList.length) := by show _ = _; rw [Array.length_toList]; exact HIY.out
  have HONY : Hid (SB.all (·.oneCell') = true) := hsg.o.one
  clear hzY
  replace k0 := bx_below k0 z0 hb
  replace z0 := Nat.lt_of_lt_of_le z0 hb.size
  replace k1 := bx_below k1 z1 hb
  replace z1 := Nat.lt_of_lt_of_le z1 hb.size
  replace kW := bx_below kW zW hb
  replace zW := Nat.lt_of_lt_of_le zW hb.size
  replace kX := bx_below kX zX hb
  replace fX := bxF fX hb zX
  replace zX := Nat.lt_of_lt_of_le zX hb.size
  replace XA : Hid (Own u4 hXA tXA shConn g0 AX.toList) := Own.below XA.out (by omega) hb
  replace lXA : tXA ≤ u4.heap.size := Nat.le_trans lXA hb.size
  replace HB : Hid (Below w.heap.size w u4) := HB.out.trans (hb.mono HB.out.size)
  clear hb
  have XS : Hid (SgR u4 s SB) := hsg
  clear hsg
  have HTH : Hid ((u4.alloc (.cells #[.int .i64 0, .int .i64 0, .bool false, .bool false, .bool false, .int .i64 0, .int .i64 0, .int .i64 0, .int .i64 0, .int .i64 0, .int .i64 0, .slice none 0 0] 55)).there u4.heap.size 0 SB.size) := bx_there (bx_al _ _ _) (fx_al _ _ _) (by rw [HZY.out]; rfl)
  have HWN : Hid (Below u4.heap.size u4 ((u4.alloc (.cells #[.int .i64 0, .int .i64 0, .bool false, .bool false, .bool false, .int .i64 0, .int .i64 0, .int .i64 0, .int .i64 0, .int .i64 0, .int .i64 0, .slice none 0 0] 55)).setCells u4.heap.size 0 SB.toList) ∧ u4.heap.size < ((u4.alloc (.cells #[.int .i64 0, .int .i64 0, .bool false, .bool false, .bool false, .int .i64 0, .int .i64 0, .int .i64 0, .int .i64 0, .int .i64 0, .int .i64 0, .slice none 0 0] 55)).setCells u4.heap.size 0 SB.toList).heap.size ∧ (∀ o, ((u4.alloc (.cells #[.int .i64 0, .int .i64 0, .bool false, .bool false, .bool false, .int .i64 0, .int .i64 0, .int .i64 0, .int .i64 0, .int .i64 0, .int .i64 0, .slice none 0 0] 55)).setCells u4.heap.size 0 SB.toList).cell? ⟨u4.heap.size, o, none⟩ = SB[o]?) ∧ (∀ o, ((u4.alloc (.cells #[.int .i64 0, .int .i64 0, .bool false, .bool false, .bool false, .int .i64 0, .int .i64 0, .int .i64 0, .int .i64 0, .int .i64 0, .int .i64 0, .slice none 0 0] 55)).setCells u4.heap.size 0 SB.toList).frozen? ⟨u4.heap.size, o, none⟩ = false)) := ⟨setCells_below (Nat.le_refl _) _ _ _ _ ((Below.refl _ _).alloc (Nat.le_refl _) _), by rw [setCells_size]; simp, bx_setCells (bx_al u4 _ _) (by rw [HZY.out]; rfl), fx_sets (fx_al _ _ _)⟩
  go_upto_region 11 with (first | (refine wpList_store_mid rfl 55 _ _ rfl _ _ SB (by rfl) (by rfl) HTH.out HIY.out HONY.out ?_))
  generalize hWW : ((u4.alloc (.cells #[.int .i64 0, .int .i64 0, .bool false, .bool false, .bool false, .int .i64 0, .int .i64 0, .int .i64 0, .int .i64 0, .int .i64 0, .int .i64 0, .slice none 0 0] 55)).setCells u4.heap.size 0 SB.toList) = u5 at HWN ⊢
  clear hWW HTH
  obtain ⟨hb, zY, kY, fY⟩ := HWN.out
  clear HWN
  obtain ⟨bY, hq⟩ : ∃ q, q = u4.heap.size := ⟨_, rfl⟩
  rw [← hq] at zY kY fY ⊢
  have l0Y : w.heap.size < bY := by rw [hq]; exact z0
  have l1Y : w.heap.size + 1 < bY := by rw [hq]; exact z1
  have lWY : p < bY := by rw [hq]; exact zW
  have lXY : bX < bY := by rw [hq]; exact zX
  have lXAY : tXA ≤ bY := by omega
  have lwY : w.heap.size ≤ bY := by rw [hq]; exact HB.out.size
  clear hq
  replace XS : Hid (SgR u5 s SB) := SgR.below XS.out hb
  replace k0 := bx_below k0 z0 hb
  replace z0 := Nat.lt_of_lt_of_le z0 hb.size
  replace k1 := bx_below k1 z1 hb
  replace z1 := Nat.lt_of_lt_of_le z1 hb.size
  replace kW := bx_below kW zW hb
  replace zW := Nat.lt_of_lt_of_le zW hb.size
  replace kX := bx_below kX zX hb
  replace fX := bxF fX hb zX
  replace zX := Nat.lt_of_lt_of_le zX hb.size
  replace XA : Hid (Own u5 hXA tXA shConn g0 AX.toList) := Own.below XA.out (by omega) hb
  replace lXA : tXA ≤ u5.heap.size := Nat.le_trans lXA hb.size
  replace HB : Hid (Below w.heap.size w u5) := HB.out.trans (hb.mono HB.out.size)
  clear hb
  go_wp2_with (first | (refine wpList_load_mid rfl 35 _ rfl _ _ (by rfl) AX.toList _ (bx_range kX) Tryz.underlying35 rfl HIX'.out ?_) | (refine wpList_load_mid rfl 55 _ rfl _ _ (by rfl) SB.toList _ (bx_range kY) Tryz.underlying55 rfl HIY'.out ?_))
  refine (CI.out _ _ AX SB (XA.out.rd (Nat.le_refl _)) (Nat.le_refl _) hTT XS.out hn1 (HEL.out _ HB.out)).mono ?_
  rintro e u6 ⟨rfl, hb⟩
  replace XS : Hid (SgR u6 s SB) := SgR.below XS.out hb
  replace k0 := bx_below k0 z0 hb
  replace z0 := Nat.lt_of_lt_of_le z0 hb.size
  replace k1 := bx_below k1 z1 hb
  replace z1 := Nat.lt_of_lt_of_le z1 hb.size
  replace kW := bx_below kW zW hb
  replace zW := Nat.lt_of_lt_of_le zW hb.size
  replace kX := bx_below kX zX hb
  replace fX := bxF fX hb zX
  replace zX := Nat.lt_of_lt_of_le zX hb.size
  replace kY := bx_below kY zY hb
  replace fY := bxF fY hb zY
  replace zY := Nat.lt_of_lt_of_le zY hb.size
  replace XA : Hid (Own u6 hXA tXA shConn g0 AX.toList) := Own.below XA.out (by omega) hb
  replace lXA : tXA ≤ u6.heap.size := Nat.le_trans lXA hb.size
  replace HB : Hid (Below w.heap.size w u6) := HB.out.trans (hb.mono HB.out.size)
  clear hb
  clear CI
  go_wp2_with fail
  refine (lEqIntR _ _ _).mono ?_
  rintro e u7 ⟨rfl, hb⟩
  replace hb := (bl_new hb).1
  replace XS : Hid (SgR u7 s SB) := SgR.below XS.out hb
  replace k0 := bx_below k0 z0 hb
  replace z0 := Nat.lt_of_lt_of_le z0 hb.size
  replace k1 := bx_below k1 z1 hb
  replace z1 := Nat.lt_of_lt_of_le z1 hb.size
  replace kW := bx_below kW zW hb
  replace zW := Nat.lt_of_lt_of_le zW hb.size
  replace kX := bx_below kX zX hb
  replace fX := bxF fX hb zX
  replace zX := Nat.lt_of_lt_of_le zX hb.size
  replace kY := bx_below kY zY hb
  replace fY := bxF fY hb zY
  replace zY := Nat.lt_of_lt_of_le zY hb.size
  replace XA : Hid (Own u7 hXA tXA shConn g0 AX.toList) := Own.below XA.out (by omega) hb
  replace lXA : tXA ≤ u7.heap.size := Nat.le_trans lXA hb.size
  replace HB : Hid (Below w.heap.size w u7) := HB.out.trans (hb.mono HB.out.size)
  clear hb
  have HXO : Hid (∀ W, Below u7.heap.size u7 W → shConn.Rd W u7.heap.size g0 AX.toList) := fun W hW => Sh.Rd.below (XA.out.rd (Nat.le_refl _)) (Nat.le_refl _) hW
  go_upto_region 14 with fail
  have HB0 : Hid (Below w.heap.size w u7) := HB.out
  go_cut [40] (fun u wx => u = .bool false ∧ Hid (Below u7.heap.size u7 wx))
  case first =>
    refine wp_region_noPanic ?_
    refine Goes.start (S := fun w' => Below u7.heap.size u7 w') (z := 100) (by kernel_rfl) ?_
    refine Goes.take (i := 0) (oi := ?oi301) (x := .agg (AX.toList).toArray) ?ho301 (by kernel_rfl) (by kernel_rfl) (by kernel_rfl) (by kernel_rfl) (fun _ _ _ h => h) ?hy301 (Below.drew (Below.refl _ _)) ?rest301
    case ho301 => (simp only [List.getElem?_toArray, List.getElem?_cons_zero] <;> rfl)
    case hy301 => exact yieldsIf_load_mid (by rfl) 35 _ rfl (bX) (0) (by rfl) (AX.toList) _ (fun w' hSw => bx_range (fun o => (hSw.cell (p := ⟨bX, o, none⟩) zX).trans (kX o))) Tryz.underlying35 rfl HIX'.out
    case rest301 =>
    (try simp only [Act.put, List.setIfInBounds_toArray, List.set_cons_zero, List.set_cons_succ])
    refine Goes.take (i := 1) (oi := ?oi302) (x := .agg (A0.toList).toArray) ?ho302 (by kernel_rfl) (by kernel_rfl) (by kernel_rfl) (by kernel_rfl) (fun _ _ _ h => h) ?hy302 (Below.drew (Below.refl _ _)) ?rest302
    case ho302 => (simp only [List.getElem?_toArray, List.getElem?_cons_succ, List.getElem?_cons_zero] <;> rfl)
    case hy302 => exact yieldsIf_load_mid (by rfl) 28 _ rfl (w.heap.size) (0) (by rfl) (A0.toList) _ (fun w' hSw => bx_range (fun o => (hSw.cell (p := ⟨w.heap.size, o, none⟩) z0).trans (k0 o))) Tryz.underlying28 rfl HI0.out
    case rest302 =>
    (try simp only [Act.put, List.setIfInBounds_toArray, List.set_cons_zero, List.set_cons_succ])
    refine Goes.all (rs := [2]) (by kernel_rfl) (by simp) ?_
    refine Ups.cons (i := 2) (o := ?oo303) ?ho303 (fun KK hKK => ?stp303) Ups.nil
    case ho303 => (simp only [List.getElem?_toArray, List.getElem?_cons_succ, List.getElem?_cons_zero] <;> rfl)
    case stp303 =>
    go_simp
    go_at_call 8
    refine (lToConn g0 A0 _ w.heap.size (HP.out _ ((Below.drew HB0.out))) HB0.out.size hTT).mono ?_
    rintro e wq8 ⟨A8, rfl, ho8, hbq⟩
    have X8 : Hid (shConn.Rd wq8 wq8.heap.size g0 A8.toList) := ho8.rd (Nat.le_refl _)
    clear ho8
    replace hbq := (Below.drew (Below.refl u7.heap.size u7)).trans hbq
    have HS8 : Hid (Below u7.heap.size u7 wq8) := hbq
    clear hbq
    dsimp only
    refine hKK.out _ _ (Or.inr HS8.out) ?_
    clear hKK KK
    (try simp only [Act.put, List.setIfInBounds_toArray, List.set_cons_zero, List.set_cons_succ])
    refine Goes.all (rs := [3]) (by kernel_rfl) (by simp) ?_
    refine Ups.cons (i := 3) (o := ?oo304) ?ho304 (fun KK hKK => ?stp304) Ups.nil
    case ho304 => (simp only [List.getElem?_toArray, List.getElem?_cons_succ, List.getElem?_cons_zero] <;> rfl)
    case stp304 =>
    go_simp
    go_at_call 12
    refine (lEqConn g0 AX A8 _ wq8.heap.size (Sh.Rd.mono HS8.out.size _ _ _ (HXO.out _ HS8.out)) X8.out (Nat.le_refl _) hTT).mono ?_
    rintro e wq9 ⟨rfl, hbq⟩
    replace hbq := HS8.out.trans (hbq.mono HS8.out.size)
    have HS304 : Hid (Below u7.heap.size u7 wq9) := hbq
    clear hbq
    dsimp only
    refine hKK.out _ _ (Or.inr HS304.out) ?_
    clear hKK KK
    (try simp only [Act.put, List.setIfInBounds_toArray, List.set_cons_zero, List.set_cons_succ])
    refine Goes.take (i := 4) (oi := ?oi305) (x := ?vx305) ?ho305 (by kernel_rfl) (by kernel_rfl) (by kernel_rfl) (by kernel_rfl) (fun _ _ _ h => h) (Or.inl ⟨?hw305, ?hy305⟩) HS304.out ?rest305
    case ho305 => (simp only [List.getElem?_toArray, List.getElem?_cons_succ, List.getElem?_cons_zero] <;> rfl)
    case hw305 => rfl
    case hy305 => (intro w' hSw; go_simp; (try with_reducible rfl))
    case rest305 =>
    (try simp only [Act.put, List.setIfInBounds_toArray, List.set_cons_zero, List.set_cons_succ])
    refine Goes.done (by kernel_rfl) ?_ _
    refine NoPanic.normal ?_
    go_wp2_with fail
    go_meet
    exact ⟨rfl, by assumption⟩
  case rest =>
  rename World => u8
  obtain ⟨rfl, hb⟩ := hcut
  replace hb := hb.out
  clear HB0
  replace XS : Hid (SgR u8 s SB) := SgR.below XS.out hb
  replace k0 := bx_below k0 z0 hb
  replace z0 := Nat.lt_of_lt_of_le z0 hb.size
  replace k1 := bx_below k1 z1 hb
  replace z1 := Nat.lt_of_lt_of_le z1 hb.size
  replace kW := bx_below kW zW hb
  replace zW := Nat.lt_of_lt_of_le zW hb.size
  replace kX := bx_below kX zX hb
  replace fX := bxF fX hb zX
  replace zX := Nat.lt_of_lt_of_le zX hb.size
  replace kY := bx_below kY zY hb
  replace fY := bxF fY hb zY
  replace zY := Nat.lt_of_lt_of_le zY hb.size
  replace XA : Hid (Own u8 hXA tXA shConn g0 AX.toList) := Own.below XA.out (by omega) hb
  replace lXA : tXA ≤ u8.heap.size := Nat.le_trans lXA hb.size
  replace HB : Hid (Below w.heap.size w u8) := HB.out.trans (hb.mono HB.out.size)
  clear hb
  clear HXO
  have HYO : Hid (∀ W, Below u8.heap.size u8 W → SgO W s SB) := fun W hW => (SgR.below XS.out hW).o
  go_upto_region 16 with fail
  have HB0 : Hid (Below w.heap.size w u8) := HB.out
  go_cut [45] (fun u wx => u = .bool false ∧ Hid (Below u8.heap.size u8 wx))
  case first =>
    refine wp_region_noPanic ?_
    refine Goes.start (S := fun w' => Below u8.heap.size u8 w') (z := 100) (by kernel_rfl) ?_
    refine Goes.take (i := 0) (oi := ?oi401) (x := .agg (SB.toList).toArray) ?ho401 (by kernel_rfl) (by kernel_rfl) (by kernel_rfl) (by kernel_rfl) (fun _ _ _ h => h) ?hy401 (Below.drew (Below.refl _ _)) ?rest401
    case ho401 => (simp only [List.getElem?_toArray, List.getElem?_cons_zero] <;> rfl)
    case hy401 => exact yieldsIf_load_mid (by rfl) 55 _ rfl (bY) (0) (by rfl) (SB.toList) _ (fun w' hSw => bx_range (fun o => (hSw.cell (p := ⟨bY, o, none⟩) zY).trans (kY o))) Tryz.underlying55 rfl HIY'.out
    case rest401 =>
    (try simp only [Act.put, List.setIfInBounds_toArray, List.set_cons_zero, List.set_cons_succ])
    refine Goes.take (i := 1) (oi := ?oi402) (x := .agg (SA.toList).toArray) ?ho402 (by kernel_rfl) (by kernel_rfl) (by kernel_rfl) (by kernel_rfl) (fun _ _ _ h => h) ?hy402 (Below.drew (Below.refl _ _)) ?rest402
    case ho402 => (simp only [List.getElem?_toArray, List.getElem?_cons_succ, List.getElem?_cons_zero] <;> rfl)
    case hy402 => exact yieldsIf_load_mid (by rfl) 50 _ rfl (w.heap.size + 1) (0) (by rfl) (SA.toList) _ (fun w' hSw => bx_range (fun o => (hSw.cell (p := ⟨w.heap.size + 1, o, none⟩) z1).trans (k1 o))) Tryz.underlying50 rfl HI1.out
    case rest402 =>
    (try simp only [Act.put, List.setIfInBounds_toArray, List.set_cons_zero, List.set_cons_succ])
    refine Goes.all (rs := [2]) (by kernel_rfl) (by simp) ?_
    refine Ups.cons (i := 2) (o := ?oo403) ?ho403 (fun KK hKK => ?stp403) Ups.nil
    case ho403 => (simp only [List.getElem?_toArray, List.getElem?_cons_succ, List.getElem?_cons_zero] <;> rfl)
    case stp403 =>
    go_simp
    go_at_call 20
    refine (lToSg s SA _ (HSG.out _ (Below.drew HB0.out)) HNN.out).mono ?_
    rintro e wq8 ⟨B8, rfl, hs8, hbq⟩
    have X8 : Hid (SgR wq8 s B8) := hs8
    clear hs8
    replace hbq := (Below.drew (Below.refl u8.heap.size u8)).trans hbq
    have HS8 : Hid (Below u8.heap.size u8 wq8) := hbq
    clear hbq
    dsimp only
    refine hKK.out _ _ (Or.inr HS8.out) ?_
    clear hKK KK
    (try simp only [Act.put, List.setIfInBounds_toArray, List.set_cons_zero, List.set_cons_succ])
    refine Goes.all (rs := [3]) (by kernel_rfl) (by simp) ?_
    refine Ups.cons (i := 3) (o := ?oo404) ?ho404 (fun KK hKK => ?stp404) Ups.nil
    case ho404 => (simp only [List.getElem?_toArray, List.getElem?_cons_succ, List.getElem?_cons_zero] <;> rfl)
    case stp404 =>
    go_simp
    go_at_call 23
    refine (lEqSg s SB B8 _ (HYO.out _ HS8.out) X8.out.o HNN.out).mono ?_
    rintro e wq9 ⟨rfl, hbq⟩
    replace hbq := HS8.out.trans (hbq.mono HS8.out.size)
    have HS404 : Hid (Below u8.heap.size u8 wq9) := hbq
    clear hbq
    dsimp only
    refine hKK.out _ _ (Or.inr HS404.out) ?_
    clear hKK KK
    (try simp only [Act.put, List.setIfInBounds_toArray, List.set_cons_zero, List.set_cons_succ])
    refine Goes.take (i := 4) (oi := ?oi405) (x := ?vx405) ?ho405 (by kernel_rfl) (by kernel_rfl) (by kernel_rfl) (by kernel_rfl) (fun _ _ _ h => h) (Or.inl ⟨?hw405, ?hy405⟩) HS404.out ?rest405
    case ho405 => (simp only [List.getElem?_toArray, List.getElem?_cons_succ, List.getElem?_cons_zero] <;> rfl)
    case hw405 => rfl
    case hy405 => (intro w' hSw; go_simp; (try with_reducible rfl))
    case rest405 =>
    (try simp only [Act.put, List.setIfInBounds_toArray, List.set_cons_zero, List.set_cons_succ])
    refine Goes.done (by kernel_rfl) ?_ _
    refine NoPanic.normal ?_
    go_wp2_with fail
    go_meet
    exact ⟨rfl, by assumption⟩
  case rest =>
  rename World => u9
  obtain ⟨rfl, hb⟩ := hcut
  replace hb := hb.out
  clear HB0
  replace XS : Hid (SgR u9 s SB) := SgR.below XS.out hb
  replace k0 := bx_below k0 z0 hb
  replace z0 := Nat.lt_of_lt_of_le z0 hb.size
  replace k1 := bx_below k1 z1 hb
  replace z1 := Nat.lt_of_lt_of_le z1 hb.size
  replace kW := bx_below kW zW hb
  replace zW := Nat.lt_of_lt_of_le zW hb.size
  replace kX := bx_below kX zX hb
  replace fX := bxF fX hb zX
  replace zX := Nat.lt_of_lt_of_le zX hb.size
  replace kY := bx_below kY zY hb
  replace fY := bxF fY hb zY
  replace zY := Nat.lt_of_lt_of_le zY hb.size
  replace XA : Hid (Own u9 hXA tXA shConn g0 AX.toList) := Own.below XA.out (by omega) hb
  replace lXA : tXA ≤ u9.heap.size := Nat.le_trans lXA hb.size
  replace HB : Hid (Below w.heap.size w u9) := HB.out.trans (hb.mono HB.out.size)
  clear hb
  go_wp2_with fail
  go_ret
  exact ⟨rfl, HB.out⟩

set_option maxRecDepth 100000 in
theorem lifted (os : Os) (started : os.Started) (H : Type) (enc : TypeId × Value → H) :
    ReturnsInHanded {} Tryz.checked os 4 .any (fun w args => (Rows.fnExactWhereDataSpec.pre enc Tryz.prog Tryz.f4 [] false w args ∧ laidMetH Tryz.prog [("errors.errorType", Rows.laid_errors_errorType)] w) ∧ sizedMet enc Tryz.prog Tryz.f4 (OpenSpec.ofChange Rows.fnExactWhereDataSpec) false w args) (Rows.fnExactWhereDataSpec.post enc Tryz.prog Tryz.f4 false true false false) := by
  refine returnsInHanded_of_change_and (C := Tryz.checked) (X := fun w _ => laidMetH Tryz.prog [("errors.errorType", Rows.laid_errors_errorType)] w) (fun _ _ _ hh h => h.of_heap hh) own started (by kernel_rfl) Tryz.func4
    (ChangeSpec.witness_shaped (enc := enc) (C := Tryz.checked) (os := os) (X := fun w _ => laidMetH Tryz.prog [("errors.errorType", Rows.laid_errors_errorType)] w) false (World.doorLaid Tryz.prog 16 os) #[.agg #[.int .i64 0, .int .i64 0, .int .i64 0, .bool false, .bool false, .slice none 0 0, .bool false, .int .i64 0, .bool false, .slice none 0 0, .slice none 0 0, .int .i64 0, .int .i64 0, .slice none 0 0], .agg #[.int .i64 0, .int .i64 0, .bool false, .bool false, .bool false, .int .i64 0, .int .i64 0, .int .i64 0, .int .i64 0, .int .i64 0, .int .i64 0, .slice none 0 0]] 8 rfl (World.shaped_of_RefB (by kernel_rfl) (by kernel_rfl)) (by kernel_rfl) (by kernel_rfl) (by kernel_rfl) (door_met os _)) ?_
  intro W base args ds gs before hval0 hW _ _ hL _
  have hval : ∀ (j : Nat) t v, Tryz.f4.params[j]? = some t → args[j]? = some v → Value.okWide Tryz.prog W .any base t v := hval0
  have hW' := hW
  obtain ⟨p, q, hA0, hV, rfl, hfz, hnd⟩ := hW
  have hA : DataW.TrodAll enc Tryz.prog W 0 (fun _ => true) true Tryz.f4.params.toList args.toList ds p := hA0
  rw [Tryz.params4] at hA hval
  obtain ⟨v0, vs0, d0, ds0, p0, q0, hargs, rfl, rfl, h0, r0⟩ := trodAll_cons hA
  obtain ⟨v1, vs1, d1, ds1, p1, q1, rfl, rfl, rfl, h1, r1⟩ := trodAll_cons r0
  obtain ⟨rfl, rfl, rfl⟩ := trodAll_nil r1
  obtain rfl : args = #[v0, v1] := by cases args; simp_all
  obtain ⟨rfl, rfl⟩ := trodVars_none hV
  have lt0 : ∀ x ∈ p0, x.block < W.heap.size := by obtain ⟨m, hm⟩ := h0; exact DataW.trod_lt m _ _ _ hm
  have t0 : ∃ n y, DataW.trod enc Tryz.prog W 0 (fun _ => true) true n 28 v0.cells.toList = some y := by obtain ⟨m, hm⟩ := h0; exact ⟨m, _, hm⟩
  have lt1 : ∀ x ∈ p1, x.block < W.heap.size := by obtain ⟨m, hm⟩ := h1; exact DataW.trod_lt m _ _ _ hm
  have t1 : ∃ n y, DataW.trod enc Tryz.prog W 0 (fun _ => true) true n 50 v1.cells.toList = some y := by obtain ⟨m, hm⟩ := h1; exact ⟨m, _, hm⟩
  refine (walk enc v0 v1 W base (handle_of_laid hL) (hval 0 28 v0 rfl rfl) t0 (hval 1 50 v1 rfl rfl) t1).mono fun e W' ⟨he, bel⟩ => ?_
  subst he
  exact ⟨_, rfl, _, _, _, [], _, [], hW', trodAll_mk1 (shut_bool Tryz.underlying4 _), (trodAll_cons_mk (Below.trod laidOut (by kernel_rfl) (of_decide_eq_true (by kernel_rfl)) h0 bel lt0) (trodAll_cons_mk (Below.trod laidOut (by kernel_rfl) (of_decide_eq_true (by kernel_rfl)) h1 bel lt1) trodAll_mk0)), rfl, bel.frame _, fun h => by cases h⟩

theorem over : Rows.fnExactWhereDataRow.holds Tryz.pinned (OpenSpec.ofChange Rows.fnExactWhereDataSpec) :=
  OpenClaim.holds_of_wide 4 Tryz.f4 rfl rfl rfl rfl rfl rfl rfl ⟨rfl, rfl, rfl, rfl, rfl⟩ rfl rfl rfl rfl rfl (by kernel_rfl) Tryz.func4 (by kernel_rfl)
    (of_decide_eq_true (by kernel_rfl)) (by unfold Func.isWrapper; first | (rw [if_pos (by decide +kernel)]; kernel_rfl) | (rw [if_neg (by decide +kernel)]; exact ⟨rfl, rfl⟩))
    (fun os started H enc _ => lifted os started H enc)

theorem proved : Rows.FnExactWhereDataSaid := over
theorem card : Rows.FnExactWhereDataCardSaid :=
  Claim7.holds_tied_plain_at .later [] [.handle] true (true, "7de3725aa64f8ea57aa4b1aafae69d4e05343d79d896d77d9cce06be77076f59") true
    proved (fun _ h => by cases h) (by kernel_rfl) (fun _ h => by cases h) fnExactWhereData_row_tie rfl ⟨rfl, rfl⟩ (by kernel_rfl) rfl
    (fun f fn hf hfn => by
      obtain rfl : f = 4 := Option.some.inj ((show Tryz.prog.funcNamed "loop.example/g00230/laws.FnExactWhereData" = some 4 by kernel_rfl).symm.trans hf) |>.symm
      obtain rfl : fn = Tryz.f4 := (Option.some.inj (Tryz.func4.symm.trans hfn)).symm
      exact ⟨by kernel_rfl, fun j t ht => by
        rw [Tryz.params4] at ht
        have hm : t ∈ [28, 50] := by simpa using Array.mem_of_getElem? ht
        have hall : ([28, 50].all fun u => !Tryz.prog.wantsStandIn u) = true := by kernel_rfl
        exact (show Tryz.prog.wantsStandIn t = false by simpa using List.all_eq_true.1 hall t hm)⟩)
    (by kernel_rfl)
#print axioms card
end Go.Proofs.YtbdibjeemgkdaaaGreatDoor.fnExactWhereData

namespace Go.Proofs.YtbdibjeemgkdaaaGreatDoor
theorem fnExactWhereData_holds : Rows.FnExactWhereDataCardSaid := fnExactWhereData.card
end Go.Proofs.YtbdibjeemgkdaaaGreatDoor
