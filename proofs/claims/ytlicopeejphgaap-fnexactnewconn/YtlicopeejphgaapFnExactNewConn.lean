/- Proved: at every side and key the program's NewConn answers as its model does, every field; the answer owns its memory (there is none); no condition. -/
import Derived.Test.YtlicopeejphgaapRows
import Derived.WalkKit
import Derived.ProofKit
import Derived.OpenShut
import Derived.ShutString
import Derived.ChangeOld
import Derived.Below
import Derived.Test.YtlicopeejphgaapBase
import Derived.Test.YtlicopeejphgaapBytes
import Derived.Test.YtlicopeejphgaapMem
import Derived.Test.YtlicopeejphgaapMemOpen
import Derived.Test.YtlicopeejphgaapMemRow
import Derived.Test.YtlicopeejphgaapHBase
import Derived.Test.YtlicopeejphgaapHFlight
import Derived.Test.YtlicopeejphgaapHSender
import Derived.Test.YtlicopeejphgaapHSpan
import Derived.Test.YtlicopeejphgaapHCatch
import Derived.Test.YtlicopeejphgaapHOpen0
import Derived.Test.YtlicopeejphgaapBox
import Derived.Test.YtlicopeejphgaapNum
import Derived.Test.YtlicopeejphgaapNumWalks
import Derived.Test.YtlicopeejphgaapUnwrap
import Derived.Test.YtlicopeejphgaapFlightDef
import Derived.Test.YtlicopeejphgaapCatDef
import Derived.Test.YtlicopeejphgaapCtrl
import Derived.Test.YtlicopeejphgaapCtrl2
import Derived.Test.YtlicopeejphgaapSubBox
import Derived.Test.YtlicopeejphgaapHSub
import Derived.Test.YtlicopeejphgaapHOpenS
import Derived.Test.YtlicopeejphgaapSubDef
import Derived.Test.YtlicopeejphgaapSpecFlight
import Derived.Test.YtlicopeejphgaapImplFlight
import Derived.Test.YtlicopeejphgaapCatSpec
import Derived.Test.YtlicopeejphgaapCatImpl
import Derived.Test.YtlicopeejphgaapSubSpec
import Derived.Test.YtlicopeejphgaapSubSpec2
import Derived.Test.YtlicopeejphgaapSubImpl
import Derived.Test.YtlicopeejphgaapGath
import Derived.Test.YtlicopeejphgaapImplGath
import Derived.Test.YtlicopeejphgaapGathLaw
import Derived.Test.YtlicopeejphgaapSpecGath
import Derived.Test.YtlicopeejphgaapAgg
import Derived.Test.YtlicopeejphgaapRegionU
import Derived.Test.YtlicopeejphgaapRegionQ
import Derived.Test.YtlicopeejphgaapHSubA
import Derived.Test.YtlicopeejphgaapHSubs
import Derived.Test.YtlicopeejphgaapHConn
import Derived.Test.YtlicopeejphgaapConnDef
import Derived.Test.YtlicopeejphgaapConnSpec
import Derived.Test.YtlicopeejphgaapConnImpl
import Derived.Test.YtlicopeejphgaapConnNew
namespace Go.Proofs.Ytlicopeejphgaap.fnExactNewConn
open Go.ChangeShapes Go.WideShapes Go.ChangeAt Go.RowKit
set_option linter.unusedVariables false

theorem own : ownKnob Try.prog.godebug = none := by kernel_rfl
theorem laidOut : laidOutB Try.prog = true := by kernel_rfl


set_option maxHeartbeats 4000000 in
set_option maxRecDepth 8000 in
theorem walk {H : Type} (enc : TypeId × Value → H) (v0 : Value) (v1 : Value) (w : World) (base : Nat)
    (o0 : Value.okWide Try.prog w .any base 2 v0) (t0 : ∃ n y, DataW.trod enc Try.prog w 0 (fun _ => true) true n 2 v0.cells.toList = some y)
    (o1 : Value.okWide Try.prog w .any base 2 v1) (t1 : ∃ n y, DataW.trod enc Try.prog w 0 (fun _ => true) true n 2 v1.cells.toList = some y) :
    Calls Try.prog 3 #[v0, v1] w fun e w' => e = .returned (.bool true) ∧ Below w.heap.size w w' := by
  obtain ⟨x0, rfl, wf0⟩ := open_i64v o0 t0
  obtain ⟨x1, rfl, wf1⟩ := open_i64v o1 t1
  clear o0 t0 o1 t1
  obtain ⟨N, hN⟩ : ∃ N, N = newA x0 x1 := ⟨_, rfl⟩
  have CS : Hid (∀ W, Calls Try.prog 5 #[.int .i64 x0, .int .i64 x1] W fun e w' => e = .returned (.agg N) ∧ Below W.heap.size W w') := fun W => by rw [hN]; exact sNewConn x0 x1 W
  have CI : Hid (∀ W, Calls Try.prog 6 #[.int .i64 x0, .int .i64 x1] W fun e w' => e = .returned (.agg N) ∧ Below W.heap.size W w') := fun W => by rw [hN]; exact iNewConn x0 x1 W
  have CE : Hid (∀ W, Calls Try.prog 7 #[.agg N, .agg N] W fun e w' => e = .returned (.bool true) ∧ Below W.heap.size W w') := fun W => by rw [hN]; unfold newA; split; exact nil_eqConnResult _ _ _ _ wf0 wf1 (by decide) W; exact nil_eqConnResult _ _ _ _ (by decide) (by decide) (by decide) W
  have CM : Hid (∀ W, Calls Try.prog 8 #[.agg N, .int .i64 1] W fun e w' => e = .returned (.int .i64 1) ∧ Below W.heap.size W w') := fun W => by rw [hN]; unfold newA; split; exact nil_markConnResult _ _ _ _ 1 (by decide) W; exact nil_markConnResult _ _ _ _ 1 (by decide) W
  have CH : Hid (∀ W, Calls Try.prog 9 #[.agg N, .int .i64 1] W fun e w' => e = .returned (.int .i64 1) ∧ Below W.heap.size W w') := fun W => by rw [hN]; unfold newA; split; exact nil_heldConnResult _ _ _ _ 1 (by decide) W; exact nil_heldConnResult _ _ _ _ 1 (by decide) W
  have hz : N.size = 18 := by rw [hN]; unfold newA; split <;> rfl
  have h1 : N.all (·.oneCell') = true := by rw [hN]; unfold newA; split <;> exact nc_one _ _ _ _
  have HI : Hid ((Try.prog.info? 31).map (·.size) = some N.size) := by show _ = _; rw [hz]; exact info_C18
  have HI' : Hid ((Try.prog.info? 31).map (·.size) = some N.toList.length) := by show _ = _; rw [Array.length_toList]; exact HI.out
  have HO : Hid _ := h1
  have HBOX : Hid (∀ W : World, W.heap.size < ((W.alloc (.cells #[.int .i64 0, .int .i64 0, .int .i64 0, .int .i64 0, .bool false, .bool false, .slice none 0 0, .bool false, .int .i64 0, .bool false, .slice none 0 0, .slice none 0 0, .int .i64 0, .int .i64 0, .slice none 0 0, .slice none 0 0, .slice none 0 0, .bool false] 31)).setCells W.heap.size 0 N.toList).heap.size ∧ Below W.heap.size W ((W.alloc (.cells #[.int .i64 0, .int .i64 0, .int .i64 0, .int .i64 0, .bool false, .bool false, .slice none 0 0, .bool false, .int .i64 0, .bool false, .slice none 0 0, .slice none 0 0, .int .i64 0, .int .i64 0, .slice none 0 0, .slice none 0 0, .slice none 0 0, .bool false] 31)).setCells W.heap.size 0 N.toList) ∧ (∀ o, ((W.alloc (.cells #[.int .i64 0, .int .i64 0, .int .i64 0, .int .i64 0, .bool false, .bool false, .slice none 0 0, .bool false, .int .i64 0, .bool false, .slice none 0 0, .slice none 0 0, .int .i64 0, .int .i64 0, .slice none 0 0, .slice none 0 0, .slice none 0 0, .bool false] 31)).setCells W.heap.size 0 N.toList).cell? ⟨W.heap.size, o, none⟩ = N[o]?) ∧ (W.alloc (.cells #[.int .i64 0, .int .i64 0, .int .i64 0, .int .i64 0, .bool false, .bool false, .slice none 0 0, .bool false, .int .i64 0, .bool false, .slice none 0 0, .slice none 0 0, .int .i64 0, .int .i64 0, .slice none 0 0, .slice none 0 0, .slice none 0 0, .bool false] 31)).there W.heap.size 0 N.size) := fun W => ⟨by rw [setCells_size]; simp, setCells_below (Nat.le_refl _) _ _ _ _ ((Below.refl _ _).alloc (Nat.le_refl _) _), bx_setCells (bx_al W _ _) (by rw [hz]; rfl), bx_there (bx_al _ _ _) (fx_al _ _ _) (by rw [hz]; rfl)⟩
  clear hN hz h1 wf0 wf1
  have HB : Hid (Below w.heap.size w w) := Below.refl _ _
  go_enter Try.func3, Try.ntmps3
  go_wp2_with fail
  refine (CS.out _).mono ?_
  rintro e w1 ⟨rfl, hb⟩
  replace HB : Hid (Below w.heap.size w w1) := HB.out.trans (hb.mono HB.out.size)
  clear hb
  have HX := HBOX.out w1
  have HTH : Hid _ := HX.2.2.2
  have HX2 : Hid _ := HX
  clear HX
  go_upto_region 2 with (refine wpList_store_mid rfl 31 _ _ rfl _ _ N (by rfl) (by rfl) HTH.out HI.out HO.out ?_)
  clear HTH
  generalize hWW : (w1.alloc (.cells #[.int .i64 0, .int .i64 0, .int .i64 0, .int .i64 0, .bool false, .bool false, .slice none 0 0, .bool false, .int .i64 0, .bool false, .slice none 0 0, .slice none 0 0, .int .i64 0, .int .i64 0, .slice none 0 0, .slice none 0 0, .slice none 0 0, .bool false] 31)).setCells w1.heap.size 0 N.toList = w2 at HX2 ⊢
  obtain ⟨zA, hb, kA, -⟩ := HX2.out
  clear hWW HX2
  replace HB : Hid (Below w.heap.size w w2) := HB.out.trans (hb.mono HB.out.size)
  clear hb
  go_wp2_with (first | (refine wpList_load_mid rfl 31 _ rfl _ _ (by rfl) N.toList _ (bx_range kA) Try.underlying31 rfl HI'.out ?_))
  refine (CI.out _).mono ?_
  rintro e w3 ⟨rfl, hb⟩
  replace kA := bx_below kA zA hb
  replace zA := Nat.lt_of_lt_of_le zA hb.size
  replace HB : Hid (Below w.heap.size w w3) := HB.out.trans (hb.mono HB.out.size)
  clear hb
  have HX := HBOX.out w3
  have HTH : Hid _ := HX.2.2.2
  have HX2 : Hid _ := HX
  clear HX
  go_upto_region 3 with (refine wpList_store_mid rfl 31 _ _ rfl _ _ N (by rfl) (by rfl) HTH.out HI.out HO.out ?_)
  clear HTH
  generalize hWW : (w3.alloc (.cells #[.int .i64 0, .int .i64 0, .int .i64 0, .int .i64 0, .bool false, .bool false, .slice none 0 0, .bool false, .int .i64 0, .bool false, .slice none 0 0, .slice none 0 0, .int .i64 0, .int .i64 0, .slice none 0 0, .slice none 0 0, .slice none 0 0, .bool false] 31)).setCells w3.heap.size 0 N.toList = w4 at HX2 ⊢
  obtain ⟨zB, hb, kB, -⟩ := HX2.out
  clear hWW HX2
  replace kA := bx_below kA zA hb
  replace zA := Nat.lt_of_lt_of_le zA hb.size
  replace HB : Hid (Below w.heap.size w w4) := HB.out.trans (hb.mono HB.out.size)
  clear hb
  go_wp2_with (first | (refine wpList_load_mid rfl 31 _ rfl _ _ (by rfl) N.toList _ (bx_range kA) Try.underlying31 rfl HI'.out ?_) | (refine wpList_load_mid rfl 31 _ rfl _ _ (by rfl) N.toList _ (bx_range kB) Try.underlying31 rfl HI'.out ?_))
  refine (CE.out _).mono ?_
  rintro e w5 ⟨rfl, hb⟩
  replace kA := bx_below kA zA hb
  replace zA := Nat.lt_of_lt_of_le zA hb.size
  replace kB := bx_below kB zB hb
  replace zB := Nat.lt_of_lt_of_le zB hb.size
  replace HB : Hid (Below w.heap.size w w5) := HB.out.trans (hb.mono HB.out.size)
  clear hb
  go_wp2_with (first | (refine wpList_load_mid rfl 31 _ rfl _ _ (by rfl) N.toList _ (bx_range kA) Try.underlying31 rfl HI'.out ?_) | (refine wpList_load_mid rfl 31 _ rfl _ _ (by rfl) N.toList _ (bx_range kB) Try.underlying31 rfl HI'.out ?_))
  refine (CM.out _).mono ?_
  rintro e w6 ⟨rfl, hb⟩
  replace kA := bx_below kA zA hb
  replace zA := Nat.lt_of_lt_of_le zA hb.size
  replace kB := bx_below kB zB hb
  replace zB := Nat.lt_of_lt_of_le zB hb.size
  replace HB : Hid (Below w.heap.size w w6) := HB.out.trans (hb.mono HB.out.size)
  clear hb
  go_wp2_with (first | (refine wpList_load_mid rfl 31 _ rfl _ _ (by rfl) N.toList _ (bx_range kA) Try.underlying31 rfl HI'.out ?_) | (refine wpList_load_mid rfl 31 _ rfl _ _ (by rfl) N.toList _ (bx_range kB) Try.underlying31 rfl HI'.out ?_))
  refine (CH.out _).mono ?_
  rintro e w7 ⟨rfl, hb⟩
  replace kA := bx_below kA zA hb
  replace zA := Nat.lt_of_lt_of_le zA hb.size
  replace kB := bx_below kB zB hb
  replace zB := Nat.lt_of_lt_of_le zB hb.size
  replace HB : Hid (Below w.heap.size w w7) := HB.out.trans (hb.mono HB.out.size)
  clear hb
  go_wp2_with (first | (refine wpList_load_mid rfl 31 _ rfl _ _ (by rfl) N.toList _ (bx_range kA) Try.underlying31 rfl HI'.out ?_) | (refine wpList_load_mid rfl 31 _ rfl _ _ (by rfl) N.toList _ (bx_range kB) Try.underlying31 rfl HI'.out ?_))
  refine (CI.out _).mono ?_
  rintro e w8 ⟨rfl, hb⟩
  replace kA := bx_below kA zA hb
  replace zA := Nat.lt_of_lt_of_le zA hb.size
  replace kB := bx_below kB zB hb
  replace zB := Nat.lt_of_lt_of_le zB hb.size
  replace HB : Hid (Below w.heap.size w w8) := HB.out.trans (hb.mono HB.out.size)
  clear hb
  have HX := HBOX.out w8
  have HTH : Hid _ := HX.2.2.2
  have HX2 : Hid _ := HX
  clear HX
  go_upto_region 14 with (refine wpList_store_mid rfl 31 _ _ rfl _ _ N (by rfl) (by rfl) HTH.out HI.out HO.out ?_)
  clear HTH
  generalize hWW : (w8.alloc (.cells #[.int .i64 0, .int .i64 0, .int .i64 0, .int .i64 0, .bool false, .bool false, .slice none 0 0, .bool false, .int .i64 0, .bool false, .slice none 0 0, .slice none 0 0, .int .i64 0, .int .i64 0, .slice none 0 0, .slice none 0 0, .slice none 0 0, .bool false] 31)).setCells w8.heap.size 0 N.toList = w9 at HX2 ⊢
  obtain ⟨zC, hb, kC, -⟩ := HX2.out
  clear hWW HX2
  replace kA := bx_below kA zA hb
  replace zA := Nat.lt_of_lt_of_le zA hb.size
  replace kB := bx_below kB zB hb
  replace zB := Nat.lt_of_lt_of_le zB hb.size
  replace HB : Hid (Below w.heap.size w w9) := HB.out.trans (hb.mono HB.out.size)
  clear hb
  go_wp2_with (first | (refine wpList_load_mid rfl 31 _ rfl _ _ (by rfl) N.toList _ (bx_range kA) Try.underlying31 rfl HI'.out ?_) | (refine wpList_load_mid rfl 31 _ rfl _ _ (by rfl) N.toList _ (bx_range kB) Try.underlying31 rfl HI'.out ?_) | (refine wpList_load_mid rfl 31 _ rfl _ _ (by rfl) N.toList _ (bx_range kC) Try.underlying31 rfl HI'.out ?_))
  refine (CE.out _).mono ?_
  rintro e w10 ⟨rfl, hb⟩
  replace kA := bx_below kA zA hb
  replace zA := Nat.lt_of_lt_of_le zA hb.size
  replace kB := bx_below kB zB hb
  replace zB := Nat.lt_of_lt_of_le zB hb.size
  replace kC := bx_below kC zC hb
  replace zC := Nat.lt_of_lt_of_le zC hb.size
  replace HB : Hid (Below w.heap.size w w10) := HB.out.trans (hb.mono HB.out.size)
  clear hb
  go_wp2_with (first | (refine wpList_load_mid rfl 31 _ rfl _ _ (by rfl) N.toList _ (bx_range kA) Try.underlying31 rfl HI'.out ?_) | (refine wpList_load_mid rfl 31 _ rfl _ _ (by rfl) N.toList _ (bx_range kB) Try.underlying31 rfl HI'.out ?_) | (refine wpList_load_mid rfl 31 _ rfl _ _ (by rfl) N.toList _ (bx_range kC) Try.underlying31 rfl HI'.out ?_))
  refine (CH.out _).mono ?_
  rintro e w11 ⟨rfl, hb⟩
  replace kA := bx_below kA zA hb
  replace zA := Nat.lt_of_lt_of_le zA hb.size
  replace kB := bx_below kB zB hb
  replace zB := Nat.lt_of_lt_of_le zB hb.size
  replace kC := bx_below kC zC hb
  replace zC := Nat.lt_of_lt_of_le zC hb.size
  replace HB : Hid (Below w.heap.size w w11) := HB.out.trans (hb.mono HB.out.size)
  clear hb
  go_wp2_with fail
  go_ret
  exact ⟨rfl, HB.out⟩

set_option maxRecDepth 100000 in
theorem lifted (os : Os) (started : os.Started) (H : Type) (enc : TypeId × Value → H) :
    ReturnsInHanded {} Try.checked os 3 .any (Rows.fnExactNewConnSpec.pre6 enc Try.prog Try.f3 Rows.fnExactNewConnRow.domain false) (Rows.fnExactNewConnSpec.post enc Try.prog Try.f3 false true false false) := by
  refine returnsInHanded_of_change (C := Try.checked) own started (by kernel_rfl) Try.func3
    (ChangeSpec.witness6 (enc := enc) (C := Try.checked) false ⟨#[], #[.int .i64 0, .int .i64 0], []⟩ 8 (by kernel_rfl) (by kernel_rfl) (by kernel_rfl) (by kernel_rfl)) ?_
  intro W base args ds gs before hval0 hW hcnd _
  have hval : ∀ (j : Nat) t v, Try.f3.params[j]? = some t → args[j]? = some v → Value.okWide Try.prog W .any base t v := hval0
  have hW' := hW
  obtain ⟨p, q, hA0, hV, rfl, hfz, hnd⟩ := hW
  have hA : DataW.TrodAll enc Try.prog W 0 (fun _ => true) true Try.f3.params.toList args.toList ds p := hA0
  rw [Try.params3] at hA hval
  obtain ⟨v0, vs0, d0, ds0, p0, q0, hargs, rfl, rfl, h0, r0⟩ := trodAll_cons hA
  obtain ⟨v1, vs1, d1, ds1, p1, q1, rfl, rfl, rfl, h1, r1⟩ := trodAll_cons r0
  obtain ⟨rfl, rfl, rfl⟩ := trodAll_nil r1
  obtain rfl : args = #[v0, v1] := by cases args; simp_all
  obtain ⟨rfl, rfl⟩ := trodVars_none hV
  have lt0 : ∀ x ∈ p0, x.block < W.heap.size := by obtain ⟨m, hm⟩ := h0; exact DataW.trod_lt m _ _ _ hm
  have t0 : ∃ n y, DataW.trod enc Try.prog W 0 (fun _ => true) true n 2 v0.cells.toList = some y := by obtain ⟨m, hm⟩ := h0; exact ⟨m, _, hm⟩
  have lt1 : ∀ x ∈ p1, x.block < W.heap.size := by obtain ⟨m, hm⟩ := h1; exact DataW.trod_lt m _ _ _ hm
  have t1 : ∃ n y, DataW.trod enc Try.prog W 0 (fun _ => true) true n 2 v1.cells.toList = some y := by obtain ⟨m, hm⟩ := h1; exact ⟨m, _, hm⟩
  refine (walk enc v0 v1 W base (hval 0 2 v0 rfl rfl) t0 (hval 1 2 v1 rfl rfl) t1).mono fun e W' ⟨he, bel⟩ => ?_
  subst he
  exact ⟨_, rfl, _, _, _, [], _, [], hW', trodAll_mk1 (shut_bool Try.underlying4 _), (trodAll_cons_mk (Below.trod laidOut (by kernel_rfl) (of_decide_eq_true (by kernel_rfl)) h0 bel lt0) (trodAll_cons_mk (Below.trod laidOut (by kernel_rfl) (of_decide_eq_true (by kernel_rfl)) h1 bel lt1) trodAll_mk0)), rfl, bel.frame _, fun h => by cases h⟩

theorem over : Rows.fnExactNewConnRow.holds Try.pinned (OpenSpec.ofChange Rows.fnExactNewConnSpec) :=
  OpenClaim.holds_of_wide 3 Try.f3 rfl rfl rfl rfl rfl rfl rfl ⟨rfl, rfl, rfl, rfl, rfl⟩ rfl rfl rfl rfl rfl (by kernel_rfl) Try.func3 (by kernel_rfl)
    (of_decide_eq_true (by kernel_rfl)) (by unfold Func.isWrapper; first | (rw [if_pos (by decide +kernel)]; kernel_rfl) | (rw [if_neg (by decide +kernel)]; exact ⟨rfl, rfl⟩))
    (fun os started H enc _ => lifted os started H enc)

theorem proved : Rows.FnExactNewConnSaid := over
#print axioms proved
end Go.Proofs.Ytlicopeejphgaap.fnExactNewConn

namespace Go.Proofs.Ytlicopeejphgaap
theorem fnExactNewConn_holds : Rows.FnExactNewConnSaid := fnExactNewConn.proved
end Go.Proofs.Ytlicopeejphgaap
