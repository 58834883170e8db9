/- Proved: whatever bytes come in, the law on proofs answers true, and the bytes are as they were; no condition. -/
import Derived.Test.YthgdbbbdmhhjaaaRows
import Derived.WalkKit
import Derived.ProofKit
import Derived.OpenShut
import Derived.ShutString
import Derived.ChangeOld
import Derived.Below
import Derived.Test.YthgdbbbdmhhjaaaBase
import Derived.Test.YthgdbbbdmhhjaaaNum
import Derived.Test.YthgdbbbdmhhjaaaNumWalks
import Derived.Test.YthgdbbbdmhhjaaaInts
import Derived.Test.YthgdbbbdmhhjaaaMixDef
import Derived.Test.YthgdbbbdmhhjaaaMix
import Derived.Test.YthgdbbbdmhhjaaaMix2
import Derived.Test.YthgdbbbdmhhjaaaMix3
import Derived.Test.YthgdbbbdmhhjaaaDraws
import Derived.Test.YthgdbbbdmhhjaaaDrawMix
import Derived.Test.YthgdbbbdmhhjaaaBox
namespace Go.Proofs.Ythgdbbbdmhhjaaa.fnProofs
open Go.ChangeShapes Go.WideShapes Go.ChangeAt Go.RowKit
open Go.ChangeMaps (open_string shut_string)
set_option linter.unusedVariables false

theorem own : ownKnob Try.prog.godebug = none := by kernel_rfl
theorem laidOut : laidOutB Try.prog = true := by kernel_rfl

/-- WHAT THE WALK IS TOLD OF A SLICE OF INTEGERS THAT CAME IN: it is nil; or it leads to a row of 'cap' cells, the numbers 'zs' (the first 'len' are its elements, the rest its spare room), each fitting its kind. -/
def IsRow (k : IntKind) (w : World) (a : Option Addr) (len cap : Nat) (zs : List Int) : Prop :=
  (a = none ∧ len = 0 ∧ cap = 0 ∧ zs = []) ∨
  ∃ x, a = some x ∧ len ≤ cap ∧ cap ≤ maxLen ∧ zs.length = cap ∧ (∀ i, i < zs.length → w.cell? (x.add i) = some (.int k (zs.getD i 0))) ∧ ∀ n ∈ zs, (Lit.int k n).wf = true

theorem field0 (c v : Int) (w : World) : (Instr.field 27 (.agg #[.int .i64 c, .int .i64 v]) 0).run Try.prog w = .ok (.int .i64 c) w := by kernel_rfl
theorem field1 (c v : Int) (w : World) : (Instr.field 27 (.agg #[.int .i64 c, .int .i64 v]) 1).run Try.prog w = .ok (.int .i64 v) w := by kernel_rfl
theorem good_yes {a b n p : Int} (h : prfB a b n = true) : (goodB a b n p == (prfV a b n == p)) = true := by
  unfold goodB prfV; simp [h]
  by_cases e : mixV [a, b, n] = p <;> simp [e]
theorem good_self {a b n : Int} (h : prfB a b n = true) : goodB a b n (prfV a b n) = true := by unfold goodB prfV; simp [h]
theorem good_no {a b n p : Int} (h : ¬ prfB a b n = true) : goodB a b n p = false := by unfold goodB; simp [h]

set_option maxHeartbeats 2000000 in
theorem walk (a0 : Option Addr) (len0 cap0 : Nat) (z0 : List Int) (w : World) (w0 : IsRow .u8 w a0 len0 cap0 z0) :
    Calls Try.prog 8 #[.slice a0 len0 cap0] w fun e w' => e = .returned (.bool true) ∧ Below w.heap.size w w' := by
  have r0 : BRow .u8 w a0 len0 cap0 z0 := w0
  have hl := r0.lt
  by_cases hbig : 1048576 < len0
  · clear r0 hl w0
    go_enter Try.func8, Try.ntmps8
    go_wp2
    go_ret
    exact ⟨rfl, by go_grown⟩
  · clear w0
    go_enter Try.func8, Try.ntmps8
    go_wp2_with (first | (go_at_call 9; go_in) | fail)
    refine (dGoodProof a0 len0 cap0 z0 w r0 hl).mono ?_
    rintro e w1 ⟨x, y, z, p, rfl, x0, x1, y0, y1, z0', z1, p0, p1, b1⟩
    clear r0 hl
    go_wp2_with fail
    refine (iProofOf x y z w1).mono ?_
    rintro e w2 ⟨rfl, b2⟩
    have b12 := b1.trans (b2.mono b1.size)
    have hfd0 := field0
    have hfd1 := field1
    by_cases hP : prfB x y z = true
    · have HC : Hid (prfC x y z = 0) := by show _ = _; simp [prfC, hP]
      have hG := good_yes (p := p) hP
      have HGS : Hid (goodB x y z (prfV x y z) = true) := good_self hP
      have hK : keyB x = true := by unfold prfB at hP; simp at hP; exact hP.1.1
      have HK : Hid (tokC x = 0) := tok_yes hK
      have HT : Hid (tokV x 1 = mixV [x, 1]) := tokV_yes hK
      obtain ⟨st0, st1⟩ : 0 ≤ staV x ∧ staV x ≤ 65535 := by rw [staV_yes hK]; exact wrp_bd _
      clear hP hK
      rw [HC.out]
      generalize hV : prfV x y z = V at *
      have HV : Hid (prfV x y z = V) := hV
      clear hV
      generalize hGG : goodB x y z p = G at *
      have HG : Hid (goodB x y z p = G) := hGG
      clear hGG
      go_wp2_with fail
      refine (iGoodProof x y z p _).mono ?_
      rintro e w3 ⟨rfl, b3⟩
      rw [HG.out]
      have q7 := bx_new b3
      obtain ⟨b3', z7⟩ := bl_new b3
      have b13 := b12.trans (b3'.mono b12.size)
      clear b3 b3' b12 b1 b2
      go_wp2_with fail
      refine (iTokenOf x w3).mono ?_
      rintro e w4 ⟨rfl, b4⟩
      rw [HK.out, HT.out]
      generalize hM : mixV [x, 1] = M at *
      have HM : Hid (mixV [x, 1] = M) := hM
      clear hM
      replace q7 := bx_below q7 z7 b4
      replace z7 := Nat.lt_of_lt_of_le z7 b4.size
      have b14 := b13.trans (b4.mono b13.size)
      clear b4 b13
      go_wp2_with fail
      refine (iStartOf x _).mono ?_
      rintro e w5 ⟨rfl, b5⟩
      rw [HK.out]
      generalize staV x = ST at *
      have q9 := bx_new b5
      obtain ⟨b5', z9⟩ := bl_new b5
      replace q7 := bx_below q7 z7 b5'
      replace z7 := Nat.lt_of_lt_of_le z7 b5'.size
      have b15 := b14.trans (b5'.mono b14.size)
      clear b5 b5' b14
      go_wp2_with fail
      obtain ⟨W, hW⟩ : ∃ W, W = w5.alloc (.cells #[.int .i64 0, .int .i64 ST] 27) := ⟨_, rfl⟩
      rw [← hW]
      have hbW : Below w5.heap.size w5 W := by rw [hW]; exact (Below.refl _ _).alloc (Nat.le_refl _) _
      replace q7 := bx_below q7 z7 hbW
      replace q9 := bx_below q9 z9 hbW
      have q10 : ∀ o, W.cell? ⟨w5.heap.size, o, none⟩ = (#[.int .i64 0, .int .i64 ST] : Array Value)[o]? := fun o => by rw [hW]; simp
      have z10 : w5.heap.size < W.heap.size := by rw [hW]; simp
      replace z7 := Nat.lt_of_lt_of_le z7 hbW.size
      replace z9 := Nat.lt_of_lt_of_le z9 hbW.size
      have HB : Hid (Below w.heap.size w W) := b15.trans (hbW.mono b15.size)
      clear hbW hW b15
      generalize w2.heap.size = c7 at *
      generalize w4.heap.size = c9 at *
      generalize w5.heap.size = c10 at *
      go_region_held3 (fun w' => w'.cell? ⟨c7, 1, none⟩ = some (.int .i64 V) ∧ w'.cell? ⟨c9, 0, none⟩ = some (.int .i64 0) ∧ w'.cell? ⟨c9, 1, none⟩ = some (.int .i64 M) ∧ w'.cell? ⟨c10, 0, none⟩ = some (.int .i64 0) ∧ w'.cell? ⟨c10, 1, none⟩ = some (.int .i64 ST)) (first | go_keep)
        (first
        | (go_at_call 46; refine (sProofOf x y z _).mono ?_; rintro e w6 ⟨rfl, b6⟩; rw [HC.out, HV.out]; replace b6 := bl_drew b6; replace q7 := bx_below q7 z7 b6; replace q9 := bx_below q9 z9 b6; replace q10 := bx_below q10 z10 b6; replace z7 := Nat.lt_of_lt_of_le z7 b6.size; replace z9 := Nat.lt_of_lt_of_le z9 b6.size; replace z10 := Nat.lt_of_lt_of_le z10 b6.size; have HB6 : Hid (Below w.heap.size w w6) := HB.out.trans (b6.mono HB.out.size); clear b6)
        | (go_at_call 45; refine (iGoodProof x y z V _).mono ?_; rintro e w7 ⟨rfl, b7⟩; rw [HGS.out]; replace q7 := bx_below q7 z7 b7; replace q9 := bx_below q9 z9 b7; replace q10 := bx_below q10 z10 b7; replace z7 := Nat.lt_of_lt_of_le z7 b7.size; replace z9 := Nat.lt_of_lt_of_le z9 b7.size; replace z10 := Nat.lt_of_lt_of_le z10 b7.size; have HB7 : Hid (Below w.heap.size w w7) := HB6.out.trans (b7.mono HB6.out.size); clear b7)
        | (go_at_call 49; refine (iKeyFault x _).mono ?_; rintro e w' ⟨rfl, hw⟩; subst w'; rw [HK.out])
        | (go_at_call 50; refine (iMixOf (some ⟨_, 0, none⟩) 2 2 [x, 1] _ (by rfl) (ri_two w7 w7.heap.size x 1 _ rfl) (by omega)).mono ?_; rintro e w8 ⟨rfl, b8⟩; rw [HM.out]; obtain ⟨b8, -⟩ := bl_new b8; replace q7 := bx_below q7 z7 b8; replace q9 := bx_below q9 z9 b8; replace q10 := bx_below q10 z10 b8; replace z7 := Nat.lt_of_lt_of_le z7 b8.size; replace z9 := Nat.lt_of_lt_of_le z9 b8.size; replace z10 := Nat.lt_of_lt_of_le z10 b8.size; have HB8 : Hid (Below w.heap.size w w8) := HB7.out.trans (b8.mono HB7.out.size); clear b8))
      all_goals (go_wp2_with fail; go_ret; exact ⟨ret_bool (by simp; omega), HB8.out⟩)
    · have HC : Hid (prfC x y z = 3) := by show _ = _; simp [prfC, hP]
      have HV : Hid (prfV x y z = 0) := by show _ = _; simp [prfV, hP]
      have HG : Hid (goodB x y z p = false) := good_no hP
      rw [HC.out, HV.out]
      clear hP
      go_wp2_with fail
      refine (iGoodProof x y z p _).mono ?_
      rintro e w3 ⟨rfl, b3⟩
      rw [HG.out]
      have q7 := bx_new b3
      obtain ⟨b3', z7⟩ := bl_new b3
      have b13 := b12.trans (b3'.mono b12.size)
      clear b3 b3' b12 b1 b2
      have HB : Hid _ := b13
      clear b13
      generalize w2.heap.size = c7 at *
      go_wp2_with fail
      go_region_held3 (fun w' => w'.cell? ⟨c7, 0, none⟩ = some (.int .i64 3)) (first | go_keep)
        (first
        | (go_at_call 46; refine (sProofOf x y z _).mono ?_; rintro e w6 ⟨rfl, b6⟩; rw [HC.out, HV.out]; replace b6 := bl_drew b6; replace q7 := bx_below q7 z7 b6; have HB6 : Hid (Below w.heap.size w w6) := HB.out.trans (b6.mono HB.out.size); clear b6))
      all_goals (go_wp2_with fail; go_ret; exact ⟨rfl, HB6.out⟩)

set_option maxRecDepth 100000 in
theorem lifted (os : Os) (started : os.Started) (H : Type) (enc : TypeId × Value → H) :
    ReturnsInHanded {} Try.checked os 8 .any (Rows.fnProofsSpec.pre6 enc Try.prog Try.f8 Rows.fnProofsRow.domain false) (Rows.fnProofsSpec.post enc Try.prog Try.f8 false true false false) := by
  refine returnsInHanded_of_change (C := Try.checked) own started (by kernel_rfl) Try.func8
    (ChangeSpec.witness6 (enc := enc) (C := Try.checked) false ⟨#[], #[.slice none 0 0], []⟩ 8 (by kernel_rfl) (by kernel_rfl) (by kernel_rfl) (by kernel_rfl)) ?_
  intro W base args ds gs before hval0 hW hcnd _
  have hval : ∀ (j : Nat) t v, Try.f8.params[j]? = some t → args[j]? = some v → Value.okWide Try.prog W .any base t v := hval0
  have hW' := hW
  obtain ⟨p, q, hA0, hV, rfl, hfz, hnd⟩ := hW
  have hA : DataW.TrodAll enc Try.prog W 0 (fun _ => true) true Try.f8.params.toList args.toList ds p := hA0
  rw [Try.params8] at hA hval
  obtain ⟨v0, vs0, d0, ds0, p0, q0, hargs, rfl, rfl, h0, r0⟩ := trodAll_cons hA
  obtain ⟨rfl, rfl, rfl⟩ := trodAll_nil r0
  obtain rfl : args = #[v0] := by cases args; simp_all
  obtain ⟨rfl, rfl⟩ := trodVars_none hV
  obtain ⟨a0, len0, cap0, rfl⟩ := okWide_slice Try.underlying22 (hval 0 22 v0 rfl rfl)
  have k0 := h0
  have lt0 : ∀ x ∈ p0, x.block < W.heap.size := by obtain ⟨m, hm⟩ := k0; exact DataW.trod_lt m _ _ _ hm
  obtain ⟨z0, w0⟩ : ∃ zs, IsRow .u8 W a0 len0 cap0 zs := by
    obtain ⟨fuel, hf⟩ := h0
    rcases open_ints Try.underlying22 Try.underlying5 (by kernel_rfl) hf with ⟨hcs, _⟩ | ⟨x, l, c, zs, hcs, _, hl, hm, hz, _, hcell, hwz⟩
    · simp [Value.cells] at hcs
      obtain ⟨rfl, rfl, rfl⟩ := hcs
      exact ⟨[], .inl ⟨rfl, rfl, rfl, rfl⟩⟩
    · simp [Value.cells] at hcs
      obtain ⟨rfl, rfl, rfl⟩ := hcs
      exact ⟨zs, .inr ⟨_, rfl, hl, hm, by simpa using hz, hcell, hwz⟩⟩
  clear hA0 hval0
  refine (walk a0 len0 cap0 z0 W w0).mono fun e W' ⟨he, bel⟩ => ?_
  subst he
  exact ⟨_, rfl, _, _, _, [], _, [], hW', trodAll_mk1 (shut_bool Try.underlying4 _), (trodAll_cons_mk (Below.trod laidOut (by kernel_rfl) (of_decide_eq_true (by kernel_rfl)) k0 bel lt0) trodAll_mk0), rfl, bel.frame _, fun h => by cases h⟩

theorem over : Rows.fnProofsRow.holds Try.pinned (OpenSpec.ofChange Rows.fnProofsSpec) :=
  OpenClaim.holds_of_wide 8 Try.f8 rfl rfl rfl rfl rfl rfl rfl ⟨rfl, rfl, rfl, rfl, rfl⟩ rfl rfl rfl rfl rfl (by kernel_rfl) Try.func8 (by kernel_rfl)
    (of_decide_eq_true (by kernel_rfl)) (by unfold Func.isWrapper; first | (rw [if_pos (by decide +kernel)]; kernel_rfl) | (rw [if_neg (by decide +kernel)]; exact ⟨rfl, rfl⟩))
    (fun os started H enc _ => lifted os started H enc)

theorem proved : Rows.FnProofsSaid := over
#print axioms proved
end Go.Proofs.Ythgdbbbdmhhjaaa.fnProofs

namespace Go.Proofs.Ythgdbbbdmhhjaaa
theorem fnProofs_holds : Rows.FnProofsSaid := fnProofs.proved
end Go.Proofs.Ythgdbbbdmhhjaaa
