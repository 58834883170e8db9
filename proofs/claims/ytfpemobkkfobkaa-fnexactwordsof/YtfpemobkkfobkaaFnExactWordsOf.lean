/- Proved: at every line the program's WordsOf answers as its model does, code and words; the answer owns its memory, behind another call too; no condition. -/
import Derived.Test.YtfpemobkkfobkaaRows
import Derived.WalkKit
import Derived.ProofKit
import Derived.OpenShut
import Derived.ShutString
import Derived.ChangeOld
import Derived.Below
import Derived.Test.YtfpemobkkfobkaaBase
import Derived.Test.YtfpemobkkfobkaaBytes
import Derived.Test.YtfpemobkkfobkaaAppBytes
import Derived.Test.YtfpemobkkfobkaaApp
import Derived.Test.YtfpemobkkfobkaaBox
import Derived.Test.YtfpemobkkfobkaaLetT
import Derived.Test.YtfpemobkkfobkaaLetT2
import Derived.Test.YtfpemobkkfobkaaStrRow
import Derived.Test.YtfpemobkkfobkaaStrMk
import Derived.Test.YtfpemobkkfobkaaWrdDef
import Derived.Test.YtfpemobkkfobkaaWrdClo
import Derived.Test.YtfpemobkkfobkaaWrdSp
import Derived.Test.YtfpemobkkfobkaaWrdIm
import Derived.Test.YtfpemobkkfobkaaWrdRes
namespace Go.Proofs.Ytfpemobkkfobkaa.fnExactWordsOf
open Go.ChangeShapes Go.WideShapes Go.ChangeAt Go.RowKit
set_option linter.unusedVariables false

theorem own : ownKnob Try.prog.godebug = none := by kernel_rfl
theorem laidOut : laidOutB Try.prog = true := by kernel_rfl


set_option maxHeartbeats 2000000 in
theorem walk {H : Type} (enc : TypeId × Value → H) (v0 : Value) (w : World) (base : Nat)
    (o0 : Value.okWide Try.prog w .any base 9 v0) (t0 : ∃ n y, DataW.trod enc Try.prog w 0 (fun _ => true) true n 9 v0.cells.toList = some y) :
    Calls Try.prog 4 #[v0] w fun e w' => e = .returned (.bool true) ∧ Below w.heap.size w w' := by
  obtain ⟨s, rfl⟩ := open_str o0
  clear o0 t0
  by_cases hbig : 1048576 < s.size
  · have hb2 : (1048576 : Int) < (s.size : Int) := by omega
    go_enter Try.func4, Try.ntmps4
    go_wp2_with fail
    go_ret
    exact ⟨rfl, Below.refl _ _⟩
  · have hb2 : ¬ (1048576 : Int) < (s.size : Int) := by omega
    have hlen : (wrdL s).length ≤ 1048577 := Nat.le_trans (wrd_len s 0 0) (by omega)
    have HS : Hid (∀ W, Calls Try.prog 10 #[.string s] W fun e w' => ∃ v, e = .returned (.agg #[.int .i64 0, v]) ∧ OT w' W.heap.size v (wrdL s) ∧ Below W.heap.size W w') := fun W => sWordsOf s W (by omega)
    have HI : Hid (∀ W, Calls Try.prog 11 #[.string s] W fun e w' => ∃ v, e = .returned (.agg #[.int .i64 0, v]) ∧ OT w' W.heap.size v (wrdL s) ∧ Below W.heap.size W w') := fun W => iWordsOf s W (by omega)
    generalize wrdL s = L at *
    have HL : Hid (L.length ≤ 1073741824) := Nat.le_trans hlen (by omega)
    clear hlen
    have HLL : Hid (∀ c, (marksT c L.length).length = L.length) := fun c => marksT_length c _
    go_enter Try.func4, Try.ntmps4
    go_wp2_with fail
    refine (HS.out _).mono ?_
    rintro e w1 ⟨vs, rfl, ho, hb⟩
    obtain ⟨sa, sc, rfl, hr⟩ := ho.rt
    have RS : Hid _ := hr
    have HB : Hid (Below w.heap.size w w1) := hb
    clear ho hr hb HS
    go_wp2_with fail
    refine (HI.out _).mono ?_
    rintro e w2 ⟨vi, rfl, ho, hb⟩
    have kS := bx_new hb
    obtain ⟨hb, zS⟩ := bl_new hb
    obtain ⟨ia, ic, rfl, -⟩ := ho.rt
    have OI : Hid (OT w2 (w1.heap.size + 1) (.slice ia L.length ic) L) := by have h := ho; simp at h; exact h
    have H1 : Hid (Below w1.heap.size w1 w2) := hb
    have HW : Hid (w1.heap.size + 1 ≤ w2.heap.size) := zS
    have HK : Hid (∀ k, (Value.slice ia L.length ic).ownBlock = some k → w1.heap.size + 1 ≤ k ∧ k < w2.heap.size) := OI.out.own.lt
    clear ho hb
    obtain ⟨_, _, e, hr⟩ := OI.out.rt
    simp only [Value.slice.injEq, true_and] at e
    obtain ⟨rfl, rfl⟩ := e
    have hrI := hr.below (Nat.le_refl _) ((Below.refl w2.heap.size w2).alloc (Nat.le_refl _) (.cells #[.int .i64 0, .slice ia L.length ic] 32))
    have hrS := RS.out.below (Nat.le_refl _) (H1.out.alloc H1.out.size (.cells #[.int .i64 0, .slice ia L.length ic] 32))
    have HE1 : Hid _ := lEqWordsR ia sa ic sc L _ hrI hrS HL.out
    clear hrI hrS hr
    obtain ⟨z, hz⟩ : ∃ z : Int, z = ((1 + L.length : Nat) : Int) := ⟨_, rfl⟩
    have hz0 : 0 ≤ z := by omega
    have HM : Hid (∀ W, Below w2.heap.size w2 W → Calls Try.prog 13 #[.agg #[.int .i64 0, .slice ia L.length ic], .int .i64 1] W fun e w' => e = .returned (.int .i64 z) ∧ OT w' (w1.heap.size + 1) (.slice ia L.length ic) (marksT 1 L.length) ∧ W.grownBy w' (Value.slice ia L.length ic).ownBlock) := fun W h => by have q := lMarkWordsR (w1.heap.size + 1) _ 1 L W (OI.out.below (Nat.le_refl _) h) (Nat.le_trans HW.out h.size) HL.out (by decide) (by decide); rw [← hz] at q; exact q
    have HH : Hid (∀ W, RT W ia (marksT 1 L.length) → Calls Try.prog 14 #[.agg #[.int .i64 0, .slice ia L.length ic], .int .i64 1] W fun e w' => e = .returned (.int .i64 z) ∧ Below W.heap.size W w') := fun W h => by have q := lHeldWordsR ia ic 1 L.length W h HL.out (by decide) (by decide); rw [← hz] at q; exact q
    clear hz
    go_wp2_with fail
    refine Calls.mono HE1.out ?_
    rintro e w3 ⟨rfl, hb⟩
    have kI := bx_new hb
    obtain ⟨hb, zI⟩ := bl_new hb
    have kS := bx_below kS zS hb
    replace zS := Nat.lt_of_lt_of_le zS hb.size
    replace H1 : Hid (Below w1.heap.size w1 w3) := H1.out.trans (hb.mono H1.out.size)
    have H2 : Hid (Below w2.heap.size w2 w3) := hb
    clear hb HE1
    go_wp2_with fail
    refine (HM.out _ H2.out).mono ?_
    rintro e w4 ⟨rfl, ho, hg⟩
    obtain ⟨_, _, e, hr⟩ := ho.rt
    rw [HLL.out] at e
    simp only [Value.slice.injEq, true_and] at e
    obtain ⟨rfl, rfl⟩ := e
    have RI : Hid _ := hr
    have kS := bx_keep kS (hg.block _ zS (fun e => by have := (HK.out _ e.symm).1; omega))
    have kI := bx_keep kI (hg.block _ zI (fun e => by have := (HK.out _ e.symm).2; omega))
    replace zS := Nat.lt_of_lt_of_le zS hg.size
    replace zI := Nat.lt_of_lt_of_le zI hg.size
    replace H1 : Hid (Below w1.heap.size w1 w4) := H1.out.grown hg H1.out.size (fun k e => by have := (HK.out _ e).1; omega)
    clear ho hr hg HM OI H2 HK
    go_wp2_with fail
    refine (HH.out _ RI.out).mono ?_
    rintro e w5 ⟨rfl, hb⟩
    have kS := bx_below kS zS hb
    have kI := bx_below kI zI hb
    replace zS := Nat.lt_of_lt_of_le zS hb.size
    replace zI := Nat.lt_of_lt_of_le zI hb.size
    replace H1 : Hid (Below w1.heap.size w1 w5) := H1.out.trans (hb.mono H1.out.size)
    have hr := RI.out.below (Nat.le_refl _) hb
    clear RI
    have RI : Hid _ := hr
    clear hb hr
    go_wp2_with fail
    refine (HI.out _).mono ?_
    rintro e w6 ⟨vj, rfl, ho, hb⟩
    obtain ⟨ja, jc, rfl, hrj⟩ := ho.rt
    have kS := bx_below kS zS hb
    have kI := bx_below kI zI hb
    replace zS := Nat.lt_of_lt_of_le zS hb.size
    replace zI := Nat.lt_of_lt_of_le zI hb.size
    replace H1 : Hid (Below w1.heap.size w1 w6) := H1.out.trans (hb.mono H1.out.size)
    have hr := RI.out.below (Nat.le_refl _) hb
    clear RI
    have RI : Hid _ := hr
    have hrI := hrj.below (Nat.le_refl _) ((Below.refl w6.heap.size w6).alloc (Nat.le_refl _) (.cells #[.int .i64 0, .slice ja L.length jc] 32))
    have hrS := RS.out.below (Nat.le_refl _) (H1.out.alloc H1.out.size (.cells #[.int .i64 0, .slice ja L.length jc] 32))
    have HE1 : Hid _ := lEqWordsR ja sa jc sc L _ hrI hrS HL.out
    clear hb hr hrI hrS ho hrj HI
    go_wp2_with fail
    refine Calls.mono HE1.out ?_
    rintro e w7 ⟨rfl, hb⟩
    obtain ⟨hb, -⟩ := bl_new hb
    have kI := bx_below kI zI hb
    replace zI := Nat.lt_of_lt_of_le zI hb.size
    replace H1 : Hid (Below w1.heap.size w1 w7) := H1.out.trans (hb.mono H1.out.size)
    have hr := RI.out.below (Nat.le_refl _) hb
    clear RI
    have RI : Hid _ := hr
    clear hb hr HE1 kS zS
    go_wp2_with fail
    refine (HH.out _ RI.out).mono ?_
    rintro e w8 ⟨rfl, hb⟩
    replace H1 : Hid (Below w1.heap.size w1 w8) := H1.out.trans (hb.mono H1.out.size)
    clear hb
    go_wp2_with fail
    go_ret
    exact ⟨rfl, HB.out.trans (H1.out.mono HB.out.size)⟩

set_option maxRecDepth 100000 in
theorem lifted (os : Os) (started : os.Started) (H : Type) (enc : TypeId × Value → H) :
    ReturnsInHanded {} Try.checked os 4 .any (Rows.fnExactWordsOfSpec.pre6 enc Try.prog Try.f4 Rows.fnExactWordsOfRow.domain false) (Rows.fnExactWordsOfSpec.post enc Try.prog Try.f4 false true false false) := by
  refine returnsInHanded_of_change (C := Try.checked) own started (by kernel_rfl) Try.func4
    (ChangeSpec.witness6 (enc := enc) (C := Try.checked) false ⟨#[], #[.string ByteArray.empty], []⟩ 8 (by kernel_rfl) (by kernel_rfl) (by kernel_rfl) (by kernel_rfl)) ?_
  intro W base args ds gs before hval0 hW hcnd _
  have hval : ∀ (j : Nat) t v, Try.f4.params[j]? = some t → args[j]? = some v → Value.okWide Try.prog W .any base t v := hval0
  have hW' := hW
  obtain ⟨p, q, hA0, hV, rfl, hfz, hnd⟩ := hW
  have hA : DataW.TrodAll enc Try.prog W 0 (fun _ => true) true Try.f4.params.toList args.toList ds p := hA0
  rw [Try.params4] at hA hval
  obtain ⟨v0, vs0, d0, ds0, p0, q0, hargs, rfl, rfl, h0, r0⟩ := trodAll_cons hA
  obtain ⟨rfl, rfl, rfl⟩ := trodAll_nil r0
  obtain rfl : args = #[v0] := by cases args; simp_all
  obtain ⟨rfl, rfl⟩ := trodVars_none hV
  have lt0 : ∀ x ∈ p0, x.block < W.heap.size := by obtain ⟨m, hm⟩ := h0; exact DataW.trod_lt m _ _ _ hm
  have t0 : ∃ n y, DataW.trod enc Try.prog W 0 (fun _ => true) true n 9 v0.cells.toList = some y := by obtain ⟨m, hm⟩ := h0; exact ⟨m, _, hm⟩
  refine (walk enc v0 W base (hval 0 9 v0 rfl rfl) t0).mono fun e W' ⟨he, bel⟩ => ?_
  subst he
  exact ⟨_, rfl, _, _, _, [], _, [], hW', trodAll_mk1 (shut_bool Try.underlying4 _), (trodAll_cons_mk (Below.trod laidOut (by kernel_rfl) (of_decide_eq_true (by kernel_rfl)) h0 bel lt0) trodAll_mk0), rfl, bel.frame _, fun h => by cases h⟩

theorem over : Rows.fnExactWordsOfRow.holds Try.pinned (OpenSpec.ofChange Rows.fnExactWordsOfSpec) :=
  OpenClaim.holds_of_wide 4 Try.f4 rfl rfl rfl rfl rfl rfl rfl ⟨rfl, rfl, rfl, rfl, rfl⟩ rfl rfl rfl rfl rfl (by kernel_rfl) Try.func4 (by kernel_rfl)
    (of_decide_eq_true (by kernel_rfl)) (by unfold Func.isWrapper; first | (rw [if_pos (by decide +kernel)]; kernel_rfl) | (rw [if_neg (by decide +kernel)]; exact ⟨rfl, rfl⟩))
    (fun os started H enc _ => lifted os started H enc)

theorem proved : Rows.FnExactWordsOfSaid := over
#print axioms proved
end Go.Proofs.Ytfpemobkkfobkaa.fnExactWordsOf

namespace Go.Proofs.Ytfpemobkkfobkaa
theorem fnExactWordsOf_holds : Rows.FnExactWordsOfSaid := fnExactWordsOf.proved
end Go.Proofs.Ytfpemobkkfobkaa
