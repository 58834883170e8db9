/- Proved: whatever bytes come in, the law on windows answers true, and the bytes are as they were; no condition. -/
import Derived.Test.YtabkmcniacmgcabRows
import Derived.WalkKit
import Derived.ProofKit
import Derived.OpenShut
import Derived.ShutString
import Derived.ChangeOld
import Derived.Below
import Derived.Test.YtabkmcniacmgcabBase
import Derived.Test.YtabkmcniacmgcabDraws
import Derived.Test.YtabkmcniacmgcabBytes
import Derived.Test.YtabkmcniacmgcabAppBytes
import Derived.Test.YtabkmcniacmgcabDrawsD
import Derived.Test.YtabkmcniacmgcabMem
import Derived.Test.YtabkmcniacmgcabMemOpen
import Derived.Test.YtabkmcniacmgcabInts
import Derived.Test.YtabkmcniacmgcabCOpen
import Derived.Test.YtabkmcniacmgcabBox
import Derived.Test.YtabkmcniacmgcabCtrl
import Derived.Test.YtabkmcniacmgcabCtrl2
import Derived.Test.YtabkmcniacmgcabGain
import Derived.Test.YtabkmcniacmgcabGrow
import Derived.Test.YtabkmcniacmgcabDrawCtrl
namespace Go.Proofs.Ytabkmcniacmgcab.fnWindows
open Go.ChangeShapes Go.WideShapes Go.ChangeAt Go.RowKit
open Go.ChangeMaps (open_string shut_string)
set_option linter.unusedVariables false

theorem own : ownKnob Try.prog.godebug = none := by kernel_rfl
theorem laidOut : laidOutB Try.prog = true := by kernel_rfl

/-- WHAT THE WALK IS TOLD OF A SLICE OF INTEGERS THAT CAME IN: it is nil; or it leads to a row of 'cap' cells, the numbers 'zs' (the first 'len' are its elements, the rest its spare room), each fitting its kind. -/
def IsRow (k : IntKind) (w : World) (a : Option Addr) (len cap : Nat) (zs : List Int) : Prop :=
  (a = none ∧ len = 0 ∧ cap = 0 ∧ zs = []) ∨
  ∃ x, a = some x ∧ len ≤ cap ∧ cap ≤ maxLen ∧ zs.length = cap ∧ (∀ i, i < zs.length → w.cell? (x.add i) = some (.int k (zs.getD i 0))) ∧ ∀ n ∈ zs, (Lit.int k n).wf = true

set_option maxHeartbeats 8000000 in
theorem walk (a0 : Option Addr) (len0 cap0 : Nat) (z0 : List Int) (w : World) (w0 : IsRow .u8 w a0 len0 cap0 z0) :
    Calls Try.prog 5 #[.slice a0 len0 cap0] w fun e w' => e = .returned (.bool true) ∧ Below w.heap.size w w' := by
  have r0 : BRow .u8 w a0 len0 cap0 z0 := w0
  have hl := r0.lt
  by_cases hbig : 1048576 < len0
  · clear r0 hl w0
    go_enter Try.func5, Try.ntmps5
    go_wp2
    go_ret
    exact ⟨rfl, by go_grown⟩
  · clear w0
    go_enter Try.func5, Try.ntmps5
    go_wp2_with (first | (go_at_call 6; go_in) | fail)
    refine (dGrow a0 len0 cap0 z0 w r0 hl).mono ?_
    rintro e w1 ⟨x, y, z, k, l, ad, lc, rfl, ri, hn, b1⟩
    clear r0 hl
    have HG : Hid (∀ W, Below w1.heap.size w1 W → Calls Try.prog 19 #[.agg #[.int .i64 x, .int .i64 y, .int .i64 z], .int .i64 k, .slice ad l.length lc] W fun e w' => e = .returned (.agg #[.int .i64 (grC x y z k l), .int .i64 (grV x y z k l).1, .int .i64 (grV x y z k l).2.1, .int .i64 (grV x y z k l).2.2]) ∧ Below W.heap.size W w') := fun W h => iGrowControl x y z k l ad _ lc W rfl (ri.below (Nat.le_refl _) h) (by omega)
    have HS : Hid (grC x y z k l ≠ 0 → ∀ W, Below w1.heap.size w1 W → Calls Try.prog 20 #[.agg #[.int .i64 x, .int .i64 y, .int .i64 z], .int .i64 k, .slice ad l.length lc] W fun e w' => e = .returned (.agg #[.int .i64 (grC x y z k l), .int .i64 0, .int .i64 0, .int .i64 0]) ∧ Below W.heap.size W w') := fun hne W h => sGrowCode x y z k l ad _ lc W rfl (ri.below (Nat.le_refl _) h) (by omega) hne
    have HM : Hid (∀ W, Below w1.heap.size w1 W → Calls Try.prog 21 #[.int .i64 x, .int .i64 k, .slice ad l.length lc] W fun e w' => e = .returned (.agg #[.int .i64 (gnC x k l), .int .i64 (gnV x k l)]) ∧ Below W.heap.size W w') := fun W h => iGainOf x k l ad _ lc W rfl (ri.below (Nat.le_refl _) h) (by omega)
    have HO : Hid (∀ W, Calls Try.prog 21 #[.int .i64 x, .int .i64 k, .slice none 0 0] W fun e w' => e = .returned (.agg #[.int .i64 (gnC x k []), .int .i64 (gnV x k [])]) ∧ Below W.heap.size W w') := fun W => iGainOf x k [] none 0 0 W rfl (RI.nil _ _) (by omega)
    have HA : Hid (∀ W, Calls Try.prog 19 #[.agg #[.int .i64 x, .int .i64 y, .int .i64 z], .int .i64 k, .slice none 0 0] W fun e w' => e = .returned (.agg #[.int .i64 (grC x y z k []), .int .i64 (grV x y z k []).1, .int .i64 (grV x y z k []).2.1, .int .i64 (grV x y z k []).2.2]) ∧ Below W.heap.size W w') := fun W => iGrowControl x y z k [] none 0 0 W rfl (RI.nil _ _) (by omega)
    have B1 : Hid (Below w.heap.size w w1) := b1
    clear ri b1
    generalize hnn : l.length = n at *
    clear hnn
    by_cases hC : grC x y z k l = 0
    · obtain ⟨e1, e2, e3, e4, e5, e6, e7, e8, e9⟩ := gr_facts hC
      have v1 : grV x y z k l = (grW x y z k (gnV x k l), y, grP x y z k (gnV x k l)) := by unfold grV; rw [if_pos hC]
      have v2 : grV x y z k [] = (grW x y z k (gnV x k []), y, grP x y z k (gnV x k [])) := by unfold grV; rw [if_pos e8]
      rw [hC, v1] at HG
      rw [e1] at HM
      rw [e2] at HO
      rw [e8, v2] at HA
      simp only at HG HA
      clear HS v1 v2 e1 e2 e8 hC
      generalize grW x y z k (gnV x k l) = WW at *
      generalize grP x y z k (gnV x k l) = PP at *
      generalize grW x y z k (gnV x k []) = WA at *
      generalize grP x y z k (gnV x k []) = PA at *
      generalize gnV x k l = g at *
      generalize gnV x k [] = g1 at *
      obtain ⟨t1, t2⟩ := half_bd e6 e7
      obtain ⟨-, ⟨y0, y1⟩, -⟩ := ctF_ok e4
      have HCut : Hid (∀ W, Calls Try.prog 22 #[.agg #[.int .i64 WW, .int .i64 y, .int .i64 PP]] W fun e w' => e = .returned (.agg #[.int .i64 0, .int .i64 (halfW WW), .int .i64 (halfW WW), .int .i64 0]) ∧ Below W.heap.size W w') := fun W => by have h := iCutControl WW y PP W; rw [e4, if_pos rfl] at h; exact h
      have HFall : Hid (∀ W, Calls Try.prog 23 #[.agg #[.int .i64 WW, .int .i64 y, .int .i64 PP]] W fun e w' => e = .returned (.agg #[.int .i64 0, .int .i64 8, .int .i64 (halfW WW), .int .i64 0]) ∧ Below W.heap.size W w') := fun W => by have h := iFallControl WW y PP W; rw [e4, if_pos rfl, if_pos rfl] at h; exact h
      have HF1 : Hid (∀ W, Calls Try.prog 24 #[.agg #[.int .i64 WW, .int .i64 y, .int .i64 PP]] W fun e w' => e = .returned (.int .i64 0) ∧ Below W.heap.size W w') := fun W => by have h := iControlFault WW y PP W; rw [e4] at h; exact h
      have HF2 : Hid (∀ W, Calls Try.prog 24 #[.agg #[.int .i64 (halfW WW), .int .i64 (halfW WW), .int .i64 0]] W fun e w' => e = .returned (.int .i64 0) ∧ Below W.heap.size W w') := fun W => by have h := iControlFault (halfW WW) (halfW WW) 0 W; rw [ctF_mk (by omega) (by omega) (by omega) (by omega) (by omega) (by omega)] at h; exact h
      have HF3 : Hid (∀ W, Calls Try.prog 24 #[.agg #[.int .i64 8, .int .i64 (halfW WW), .int .i64 0]] W fun e w' => e = .returned (.int .i64 0) ∧ Below W.heap.size W w') := fun W => by have h := iControlFault 8 (halfW WW) 0 W; rw [ctF_mk (by omega) (by omega) (by omega) (by omega) (by omega) (by omega)] at h; exact h
      clear e4 e6 e7 t1
      generalize halfW WW = H at *
      go_wp2_with fail
      refine (HG.out _ ((Below.refl _ _).alloc (Nat.le_refl _) _)).mono ?_
      rintro e w2 ⟨rfl, hb⟩
      have k2 := bx_new hb
      obtain ⟨hc, z2⟩ := bl_new hb
      have D2 : Hid (Below w1.heap.size w1 w2) := hc
      clear hb hc
      go_wp2_with fail
      refine (HO.out _).mono ?_
      rintro e w3 ⟨rfl, hb⟩
      have k3 := bx_new hb
      obtain ⟨hc, z3⟩ := bl_new hb
      replace k2 := bx_below k2 z2 hc
      replace z2 := Nat.lt_of_lt_of_le z2 hc.size
      have D3 : Hid (Below w1.heap.size w1 w3) := D2.out.trans (hc.mono D2.out.size)
      clear hb hc
      go_wp2_with fail
      refine (HM.out _ (D3.out.alloc D3.out.size _)).mono ?_
      rintro e w4 ⟨rfl, hb⟩
      have k4 := bx_new hb
      obtain ⟨hc, z4⟩ := bl_new hb
      replace k2 := bx_below k2 z2 hc
      replace z2 := Nat.lt_of_lt_of_le z2 hc.size
      replace k3 := bx_below k3 z3 hc
      replace z3 := Nat.lt_of_lt_of_le z3 hc.size
      have D4 : Hid (Below w1.heap.size w1 w4) := D3.out.trans (hc.mono D3.out.size)
      clear hb hc
      go_wp2_with fail
      refine (HCut.out _).mono ?_
      rintro e w5 ⟨rfl, hb⟩
      have k5 := bx_new hb
      obtain ⟨hc, z5⟩ := bl_new hb
      replace k2 := bx_below k2 z2 hc
      replace z2 := Nat.lt_of_lt_of_le z2 hc.size
      replace k3 := bx_below k3 z3 hc
      replace z3 := Nat.lt_of_lt_of_le z3 hc.size
      replace k4 := bx_below k4 z4 hc
      replace z4 := Nat.lt_of_lt_of_le z4 hc.size
      have D5 : Hid (Below w1.heap.size w1 w5) := D4.out.trans (hc.mono D4.out.size)
      clear hb hc
      go_wp2_with fail
      refine (HFall.out _).mono ?_
      rintro e w6 ⟨rfl, hb⟩
      have k6 := bx_new hb
      obtain ⟨hc, z6⟩ := bl_new hb
      replace k2 := bx_below k2 z2 hc
      replace z2 := Nat.lt_of_lt_of_le z2 hc.size
      replace k3 := bx_below k3 z3 hc
      replace z3 := Nat.lt_of_lt_of_le z3 hc.size
      replace k4 := bx_below k4 z4 hc
      replace z4 := Nat.lt_of_lt_of_le z4 hc.size
      replace k5 := bx_below k5 z5 hc
      replace z5 := Nat.lt_of_lt_of_le z5 hc.size
      have D6 : Hid (Below w1.heap.size w1 w6) := D5.out.trans (hc.mono D5.out.size)
      clear hb hc
      go_wp2_with fail
      refine (HA.out _).mono ?_
      rintro e w7 ⟨rfl, hb⟩
      have k7 := bx_new hb
      obtain ⟨hc, z7⟩ := bl_new hb
      replace k2 := bx_below k2 z2 hc
      replace z2 := Nat.lt_of_lt_of_le z2 hc.size
      replace k3 := bx_below k3 z3 hc
      replace z3 := Nat.lt_of_lt_of_le z3 hc.size
      replace k4 := bx_below k4 z4 hc
      replace z4 := Nat.lt_of_lt_of_le z4 hc.size
      replace k5 := bx_below k5 z5 hc
      replace z5 := Nat.lt_of_lt_of_le z5 hc.size
      replace k6 := bx_below k6 z6 hc
      replace z6 := Nat.lt_of_lt_of_le z6 hc.size
      have D7 : Hid (Below w1.heap.size w1 w7) := D6.out.trans (hc.mono D6.out.size)
      clear hb hc
      go_wp2_with fail
      refine (HF1.out _).mono ?_
      rintro e w8 ⟨rfl, hb⟩
      have k8 := bx_new hb
      obtain ⟨hc, z8⟩ := bl_new hb
      replace k2 := bx_below k2 z2 hc
      replace z2 := Nat.lt_of_lt_of_le z2 hc.size
      replace k3 := bx_below k3 z3 hc
      replace z3 := Nat.lt_of_lt_of_le z3 hc.size
      replace k4 := bx_below k4 z4 hc
      replace z4 := Nat.lt_of_lt_of_le z4 hc.size
      replace k5 := bx_below k5 z5 hc
      replace z5 := Nat.lt_of_lt_of_le z5 hc.size
      replace k6 := bx_below k6 z6 hc
      replace z6 := Nat.lt_of_lt_of_le z6 hc.size
      replace k7 := bx_below k7 z7 hc
      replace z7 := Nat.lt_of_lt_of_le z7 hc.size
      have D8 : Hid (Below w1.heap.size w1 w8) := D7.out.trans (hc.mono D7.out.size)
      clear hb hc
      go_wp2_with fail
      refine (HF2.out _).mono ?_
      rintro e w9 ⟨rfl, hb⟩
      have hc := hb
      replace k2 := bx_below k2 z2 hc
      replace z2 := Nat.lt_of_lt_of_le z2 hc.size
      replace k3 := bx_below k3 z3 hc
      replace z3 := Nat.lt_of_lt_of_le z3 hc.size
      replace k4 := bx_below k4 z4 hc
      replace z4 := Nat.lt_of_lt_of_le z4 hc.size
      replace k5 := bx_below k5 z5 hc
      replace z5 := Nat.lt_of_lt_of_le z5 hc.size
      replace k6 := bx_below k6 z6 hc
      replace z6 := Nat.lt_of_lt_of_le z6 hc.size
      replace k7 := bx_below k7 z7 hc
      replace z7 := Nat.lt_of_lt_of_le z7 hc.size
      replace k8 := bx_below k8 z8 hc
      replace z8 := Nat.lt_of_lt_of_le z8 hc.size
      have D9 : Hid (Below w1.heap.size w1 w9) := D8.out.trans (hc.mono D8.out.size)
      clear hb hc
      go_wp2_with fail
      refine (HF3.out _).mono ?_
      rintro e w10 ⟨rfl, hb⟩
      have hc := hb
      replace k2 := bx_below k2 z2 hc
      replace z2 := Nat.lt_of_lt_of_le z2 hc.size
      replace k3 := bx_below k3 z3 hc
      replace z3 := Nat.lt_of_lt_of_le z3 hc.size
      replace k4 := bx_below k4 z4 hc
      replace z4 := Nat.lt_of_lt_of_le z4 hc.size
      replace k5 := bx_below k5 z5 hc
      replace z5 := Nat.lt_of_lt_of_le z5 hc.size
      replace k6 := bx_below k6 z6 hc
      replace z6 := Nat.lt_of_lt_of_le z6 hc.size
      replace k7 := bx_below k7 z7 hc
      replace z7 := Nat.lt_of_lt_of_le z7 hc.size
      replace k8 := bx_below k8 z8 hc
      replace z8 := Nat.lt_of_lt_of_le z8 hc.size
      have D10 : Hid (Below w1.heap.size w1 w10) := D9.out.trans (hc.mono D9.out.size)
      clear hb hc
      go_wp2_with fail
      go_ret
      exact ⟨rfl, B1.out.trans (D10.out.mono B1.out.size)⟩
    · have HS2 : Hid _ := HS.out hC
      have hC' : (grC x y z k l != 0) = true := by simp [hC]
      clear HS HM HO HA
      generalize (grV x y z k l).1 = v1 at *
      generalize (grV x y z k l).2.1 = v2 at *
      generalize (grV x y z k l).2.2 = v3 at *
      generalize grC x y z k l = C at *
      clear hC
      have hfd : ∀ (c v1 v2 v3 : Int) (w : World), (Instr.field 52 (.agg #[.int .i64 c, .int .i64 v1, .int .i64 v2, .int .i64 v3]) 0).run Try.prog w = .ok (.int .i64 c) w := by intro c v1 v2 v3 w; kernel_rfl
      go_wp2_with fail
      refine (HG.out _ ((Below.refl _ _).alloc (Nat.le_refl _) _)).mono ?_
      rintro e w2 ⟨rfl, hb⟩
      have k2 := bx_new hb
      obtain ⟨hc, z2⟩ := bl_new hb
      have D2 : Hid (Below w1.heap.size w1 w2) := hc
      clear hb hc
      go_wp2_with fail
      go_region_with (go_at_call 20; refine (HS2.out _ (by have h := D2.out; go_grown)).mono ?_; rintro e w3 ⟨rfl, hb⟩; have hd : Below w2.heap.size w2 w3 := (((Below.refl w2.heap.size w2).alloc (Nat.le_refl _) _).drew).trans (hb.mono (by simp)); have q3 : ∀ o, w3.cell? ⟨w2.heap.size, o, none⟩ = (#[.int .i64 C, .int .i64 v1, .int .i64 v2, .int .i64 v3] : Array Value)[o]? := (fun o => (hb.cell (p := ⟨w2.heap.size, o, none⟩) (by simp)).trans (by simp [go_sem])); have k3 := bx_below k2 z2 hd; have D3 : Hid (Below w1.heap.size w1 w3) := D2.out.trans (hd.mono D2.out.size); clear hb hd)
      all_goals (go_wp2_with fail; go_ret; exact ⟨rfl, B1.out.trans (D3.out.mono B1.out.size)⟩)

set_option maxRecDepth 100000 in
theorem lifted (os : Os) (started : os.Started) (H : Type) (enc : TypeId × Value → H) :
    ReturnsInHanded {} Try.checked os 5 .any (Rows.fnWindowsSpec.pre6 enc Try.prog Try.f5 Rows.fnWindowsRow.domain false) (Rows.fnWindowsSpec.post enc Try.prog Try.f5 false true false false) := by
  refine returnsInHanded_of_change (C := Try.checked) own started (by kernel_rfl) Try.func5
    (ChangeSpec.witness6 (enc := enc) (C := Try.checked) false ⟨#[], #[.slice none 0 0], []⟩ 8 (by kernel_rfl) (by kernel_rfl) (by kernel_rfl) (by kernel_rfl)) ?_
  intro W base args ds gs before hval0 hW hcnd _
  have hval : ∀ (j : Nat) t v, Try.f5.params[j]? = some t → args[j]? = some v → Value.okWide Try.prog W .any base t v := hval0
  have hW' := hW
  obtain ⟨p, q, hA0, hV, rfl, hfz, hnd⟩ := hW
  have hA : DataW.TrodAll enc Try.prog W 0 (fun _ => true) true Try.f5.params.toList args.toList ds p := hA0
  rw [Try.params5] at hA hval
  obtain ⟨v0, vs0, d0, ds0, p0, q0, hargs, rfl, rfl, h0, r0⟩ := trodAll_cons hA
  obtain ⟨rfl, rfl, rfl⟩ := trodAll_nil r0
  obtain rfl : args = #[v0] := by cases args; simp_all
  obtain ⟨rfl, rfl⟩ := trodVars_none hV
  obtain ⟨a0, len0, cap0, rfl⟩ := okWide_slice Try.underlying22 (hval 0 22 v0 rfl rfl)
  have k0 := h0
  have lt0 : ∀ x ∈ p0, x.block < W.heap.size := by obtain ⟨m, hm⟩ := k0; exact DataW.trod_lt m _ _ _ hm
  obtain ⟨z0, w0⟩ : ∃ zs, IsRow .u8 W a0 len0 cap0 zs := by
    obtain ⟨fuel, hf⟩ := h0
    rcases open_ints Try.underlying22 Try.underlying5 (by kernel_rfl) hf with ⟨hcs, _⟩ | ⟨x, l, c, zs, hcs, _, hl, hm, hz, _, hcell, hwz⟩
    · simp [Value.cells] at hcs
      obtain ⟨rfl, rfl, rfl⟩ := hcs
      exact ⟨[], .inl ⟨rfl, rfl, rfl, rfl⟩⟩
    · simp [Value.cells] at hcs
      obtain ⟨rfl, rfl, rfl⟩ := hcs
      exact ⟨zs, .inr ⟨_, rfl, hl, hm, by simpa using hz, hcell, hwz⟩⟩
  clear hA0 hval0
  refine (walk a0 len0 cap0 z0 W w0).mono fun e W' ⟨he, bel⟩ => ?_
  subst he
  exact ⟨_, rfl, _, _, _, [], _, [], hW', trodAll_mk1 (shut_bool Try.underlying4 _), (trodAll_cons_mk (Below.trod laidOut (by kernel_rfl) (of_decide_eq_true (by kernel_rfl)) k0 bel lt0) trodAll_mk0), rfl, bel.frame _, fun h => by cases h⟩

theorem over : Rows.fnWindowsRow.holds Try.pinned (OpenSpec.ofChange Rows.fnWindowsSpec) :=
  OpenClaim.holds_of_wide 5 Try.f5 rfl rfl rfl rfl rfl rfl rfl ⟨rfl, rfl, rfl, rfl, rfl⟩ rfl rfl rfl rfl rfl (by kernel_rfl) Try.func5 (by kernel_rfl)
    (of_decide_eq_true (by kernel_rfl)) (by unfold Func.isWrapper; first | (rw [if_pos (by decide +kernel)]; kernel_rfl) | (rw [if_neg (by decide +kernel)]; exact ⟨rfl, rfl⟩))
    (fun os started H enc _ => lifted os started H enc)

theorem proved : Rows.FnWindowsSaid := over
#print axioms proved
end Go.Proofs.Ytabkmcniacmgcab.fnWindows

namespace Go.Proofs.Ytabkmcniacmgcab
theorem fnWindows_holds : Rows.FnWindowsSaid := fnWindows.proved
end Go.Proofs.Ytabkmcniacmgcab
