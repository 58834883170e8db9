/- Proved: whatever bytes come in, the law on numbers that go round answers true, and the bytes are as they were; no condition. -/
import Derived.Test.YtdcbkphaoeckmaaRows
import Derived.WalkKit
import Derived.ProofKit
import Derived.OpenShut
import Derived.ShutString
import Derived.ChangeOld
import Derived.Below
import Derived.Test.YtdcbkphaoeckmaaBase
import Derived.Test.YtdcbkphaoeckmaaNum
import Derived.Test.YtdcbkphaoeckmaaNumWalks
import Derived.Test.YtdcbkphaoeckmaaUnwrap
import Derived.Test.YtdcbkphaoeckmaaDraws
import Derived.Test.YtdcbkphaoeckmaaDrawsNum
namespace Go.Proofs.Ytdcbkphaoeckmaa.fnNumbers
open Go.ChangeShapes Go.WideShapes Go.ChangeAt Go.RowKit
open Go.ChangeMaps (open_string shut_string)
set_option linter.unusedVariables false

theorem own : ownKnob Try.prog.godebug = none := by kernel_rfl
theorem laidOut : laidOutB Try.prog = true := by kernel_rfl

/-- WHAT THE WALK IS TOLD OF A SLICE OF INTEGERS THAT CAME IN: it is nil; or it leads to a row of 'cap' cells, the numbers 'zs' (the first 'len' are its elements, the rest its spare room), each fitting its kind. -/
def IsRow (k : IntKind) (w : World) (a : Option Addr) (len cap : Nat) (zs : List Int) : Prop :=
  (a = none ∧ len = 0 ∧ cap = 0 ∧ zs = []) ∨
  ∃ x, a = some x ∧ len ≤ cap ∧ cap ≤ maxLen ∧ zs.length = cap ∧ (∀ i, i < zs.length → w.cell? (x.add i) = some (.int k (zs.getD i 0))) ∧ ∀ n ∈ zs, (Lit.int k n).wf = true

theorem add_ahd (x y : Int) : wrp (x + ahd x y) = wrp y := by unfold wrp ahd; split <;> omega
theorem ahd_neg {x y : Int} (h : ahd x y ≠ -32768) : ahd y x = - ahd x y := by
  unfold ahd at *; split at h <;> split <;> omega
theorem b_add (x y : Int) : (wrp (x + ahd x y) != wrp y) = false := by rw [add_ahd]; simp

theorem unw_case (a near : Int) : (unwC a near != 0) = true ∨ ((unwC a near != 0) = false ∧ (wrp (unwV a near) == wrp a) = true ∧ -32768 ≤ unwV a near - near ∧ unwV a near - near ≤ 32767 ∧ 0 ≤ unwV a near ∧ 0 ≤ near ∧ near ≤ 1000000000) := by
  by_cases h : near < 0 ∨ 1000000000 < near
  · left; rw [(unw_out (a := a) h).1]; rfl
  · by_cases h2 : near + ahd near a < 0
    · left; rw [(unw_neg (a := a) (near := near) (by omega) (by omega) h2).1]; rfl
    · right
      have hb := ahd_bd near a
      obtain ⟨h3, h4⟩ := unw_in (a := a) (near := near) (by omega) (by omega) (by omega)
      rw [h3, h4]
      refine ⟨rfl, by rw [add_ahd]; simp, by omega, by omega, by omega, by omega, by omega⟩

theorem field0 (c v : Int) (w : World) : (Instr.field 27 (.agg #[.int .i64 c, .int .i64 v]) 0).run Try.prog w = .ok (.int .i64 c) w := by kernel_rfl

set_option maxHeartbeats 2000000 in
theorem walk (a0 : Option Addr) (len0 cap0 : Nat) (z0 : List Int) (w : World) (w0 : IsRow .u8 w a0 len0 cap0 z0) :
    Calls Try.prog 3 #[.slice a0 len0 cap0] w fun e w' => e = .returned (.bool true) ∧ Below w.heap.size w w' := by
  have r0 : BRow .u8 w a0 len0 cap0 z0 := w0
  have hl := r0.lt
  by_cases hbig : 1048576 < len0
  · clear r0 hl w0
    go_enter Try.func3, Try.ntmps3
    go_wp2
    go_ret
    exact ⟨rfl, by go_grown⟩
  · clear w0
    go_enter Try.func3, Try.ntmps3
    go_wp2_with (first | (go_at_call 5; go_in) | fail)
    refine (dUnwrapNear a0 len0 cap0 z0 w r0 hl).mono ?_
    rintro e w1 ⟨a, near, rfl, fa, n0, n1, b1⟩
    have r1 := r0.below hl b1
    clear fa
    go_wp2_with fail
    refine (iUnwrap a near w1).mono ?_
    rintro e w2 ⟨rfl, b2⟩
    have b12 := b1.trans (b2.mono b1.size)
    have r2 := r1.below r1.lt b2
    go_wp2_with fail
    have b3 : Below w2.heap.size w2 (w2.alloc (.cells #[.int .i64 (unwC a near), .int .i64 (unwV a near)] 27)) := (Below.refl _ _).alloc (Nat.le_refl _) _
    have r3 := r2.below r2.lt b3
    refine (dAhead a0 len0 cap0 z0 _ r3 r3.lt).mono ?_
    rintro e w4 ⟨x, y, rfl, fx, fy, b4⟩
    have hsz : w2.heap.size < w4.heap.size := by have := b4.size; simp at this; omega
    have hc0 : w4.cell? ⟨w2.heap.size, 0, none⟩ = some (.int .i64 (unwC a near)) := by rw [(bcell b4).1 _ _ (by simp)]; simp
    have hc1 : w4.cell? ⟨w2.heap.size, 1, none⟩ = some (.int .i64 (unwV a near)) := by rw [(bcell b4).1 _ _ (by simp)]; simp
    have bb : Below w.heap.size w w4 := (b12.trans (b3.mono b12.size)).trans (b4.mono (by have := b12.size; simp; omega))
    have BB : Hid (Below w.heap.size w w4) := bb
    clear bb b12 b1 b2 b3 b4 r1 r2 r3 r0 hl fx fy
    generalize w2.heap.size = rb at *
    have hfd := field0
    have hb := ahd_bd x y
    have t2 := b_add x y
    by_cases hd : ahd x y = -32768
    · have td : (ahd x y != -32768) = false := by simp [hd]
      clear hd
      rcases unw_case a near with hu | ⟨hu, u1, u2, u3, u4, u5, u6⟩
      · go_wp2_with (first | (go_at_call 9; refine (iAhead _ _ _).mono ?_; rintro e w' ⟨rfl, rfl⟩) | (go_at_call 10; refine (iAdd _ _ _).mono ?_; rintro e w' ⟨rfl, rfl⟩) | (go_at_call 12; refine (iIsAhead _ _ _).mono ?_; rintro e w' ⟨rfl, rfl⟩) | (go_at_call 11; refine (iWrap _ _).mono ?_; rintro e w' ⟨rfl, rfl⟩) | (go_at_call 13; refine (sWrap _ _).mono ?_; rintro e w' ⟨rfl, rfl⟩))
        go_region_with (go_at_call 14; refine (sUnwrap _ _ _).mono ?_; rintro e w5 ⟨rfl, b5⟩; have k0 : w5.cell? ⟨rb, 0, none⟩ = some (.int .i64 (unwC a near)) := (b5.cell (p := ⟨rb, 0, none⟩) hsz).trans hc0)
        all_goals (go_wp2; go_ret; exact ⟨rfl, BB.out.drew.trans (b5.mono BB.out.size)⟩)
      · go_wp2_with (first | (go_at_call 9; refine (iAhead _ _ _).mono ?_; rintro e w' ⟨rfl, rfl⟩) | (go_at_call 10; refine (iAdd _ _ _).mono ?_; rintro e w' ⟨rfl, rfl⟩) | (go_at_call 12; refine (iIsAhead _ _ _).mono ?_; rintro e w' ⟨rfl, rfl⟩) | (go_at_call 11; refine (iWrap _ _).mono ?_; rintro e w' ⟨rfl, rfl⟩) | (go_at_call 13; refine (sWrap _ _).mono ?_; rintro e w' ⟨rfl, rfl⟩))
        go_ret
        exact ⟨rfl, BB.out⟩
    · have td : (ahd x y != -32768) = true := by simp [hd]
      have tn : (ahd y x != - ahd x y) = false := by rw [ahd_neg hd]; simp
      clear hd
      rcases unw_case a near with hu | ⟨hu, u1, u2, u3, u4, u5, u6⟩
      · go_wp2_with (first | (go_at_call 9; refine (iAhead _ _ _).mono ?_; rintro e w' ⟨rfl, rfl⟩) | (go_at_call 10; refine (iAdd _ _ _).mono ?_; rintro e w' ⟨rfl, rfl⟩) | (go_at_call 12; refine (iIsAhead _ _ _).mono ?_; rintro e w' ⟨rfl, rfl⟩) | (go_at_call 11; refine (iWrap _ _).mono ?_; rintro e w' ⟨rfl, rfl⟩) | (go_at_call 13; refine (sWrap _ _).mono ?_; rintro e w' ⟨rfl, rfl⟩))
        go_region_with (go_at_call 14; refine (sUnwrap _ _ _).mono ?_; rintro e w5 ⟨rfl, b5⟩; have k0 : w5.cell? ⟨rb, 0, none⟩ = some (.int .i64 (unwC a near)) := (b5.cell (p := ⟨rb, 0, none⟩) hsz).trans hc0)
        all_goals (go_wp2; go_ret; exact ⟨rfl, BB.out.drew.trans (b5.mono BB.out.size)⟩)
      · go_wp2_with (first | (go_at_call 9; refine (iAhead _ _ _).mono ?_; rintro e w' ⟨rfl, rfl⟩) | (go_at_call 10; refine (iAdd _ _ _).mono ?_; rintro e w' ⟨rfl, rfl⟩) | (go_at_call 12; refine (iIsAhead _ _ _).mono ?_; rintro e w' ⟨rfl, rfl⟩) | (go_at_call 11; refine (iWrap _ _).mono ?_; rintro e w' ⟨rfl, rfl⟩) | (go_at_call 13; refine (sWrap _ _).mono ?_; rintro e w' ⟨rfl, rfl⟩))
        go_ret
        exact ⟨rfl, BB.out⟩

set_option maxRecDepth 100000 in
theorem lifted (os : Os) (started : os.Started) (H : Type) (enc : TypeId × Value → H) :
    ReturnsInHanded {} Try.checked os 3 .any (Rows.fnNumbersSpec.pre6 enc Try.prog Try.f3 Rows.fnNumbersRow.domain false) (Rows.fnNumbersSpec.post enc Try.prog Try.f3 false true false false) := by
  refine returnsInHanded_of_change (C := Try.checked) own started (by kernel_rfl) Try.func3
    (ChangeSpec.witness6 (enc := enc) (C := Try.checked) false ⟨#[], #[.slice none 0 0], []⟩ 8 (by kernel_rfl) (by kernel_rfl) (by kernel_rfl) (by kernel_rfl)) ?_
  intro W base args ds gs before hval0 hW hcnd _
  have hval : ∀ (j : Nat) t v, Try.f3.params[j]? = some t → args[j]? = some v → Value.okWide Try.prog W .any base t v := hval0
  have hW' := hW
  obtain ⟨p, q, hA0, hV, rfl, hfz, hnd⟩ := hW
  have hA : DataW.TrodAll enc Try.prog W 0 (fun _ => true) true Try.f3.params.toList args.toList ds p := hA0
  rw [Try.params3] at hA hval
  obtain ⟨v0, vs0, d0, ds0, p0, q0, hargs, rfl, rfl, h0, r0⟩ := trodAll_cons hA
  obtain ⟨rfl, rfl, rfl⟩ := trodAll_nil r0
  obtain rfl : args = #[v0] := by cases args; simp_all
  obtain ⟨rfl, rfl⟩ := trodVars_none hV
  obtain ⟨a0, len0, cap0, rfl⟩ := okWide_slice Try.underlying22 (hval 0 22 v0 rfl rfl)
  have k0 := h0
  have lt0 : ∀ x ∈ p0, x.block < W.heap.size := by obtain ⟨m, hm⟩ := k0; exact DataW.trod_lt m _ _ _ hm
  obtain ⟨z0, w0⟩ : ∃ zs, IsRow .u8 W a0 len0 cap0 zs := by
    obtain ⟨fuel, hf⟩ := h0
    rcases open_ints Try.underlying22 Try.underlying5 (by kernel_rfl) hf with ⟨hcs, _⟩ | ⟨x, l, c, zs, hcs, _, hl, hm, hz, _, hcell, hwz⟩
    · simp [Value.cells] at hcs
      obtain ⟨rfl, rfl, rfl⟩ := hcs
      exact ⟨[], .inl ⟨rfl, rfl, rfl, rfl⟩⟩
    · simp [Value.cells] at hcs
      obtain ⟨rfl, rfl, rfl⟩ := hcs
      exact ⟨zs, .inr ⟨_, rfl, hl, hm, by simpa using hz, hcell, hwz⟩⟩
  clear hA0 hval0
  refine (walk a0 len0 cap0 z0 W w0).mono fun e W' ⟨he, bel⟩ => ?_
  subst he
  exact ⟨_, rfl, _, _, _, [], _, [], hW', trodAll_mk1 (shut_bool Try.underlying4 _), (trodAll_cons_mk (Below.trod laidOut (by kernel_rfl) (of_decide_eq_true (by kernel_rfl)) k0 bel lt0) trodAll_mk0), rfl, bel.frame _, fun h => by cases h⟩

theorem over : Rows.fnNumbersRow.holds Try.pinned (OpenSpec.ofChange Rows.fnNumbersSpec) :=
  OpenClaim.holds_of_wide 3 Try.f3 rfl rfl rfl rfl rfl rfl rfl ⟨rfl, rfl, rfl, rfl, rfl⟩ rfl rfl rfl rfl rfl (by kernel_rfl) Try.func3 (by kernel_rfl)
    (of_decide_eq_true (by kernel_rfl)) (by unfold Func.isWrapper; first | (rw [if_pos (by decide +kernel)]; kernel_rfl) | (rw [if_neg (by decide +kernel)]; exact ⟨rfl, rfl⟩))
    (fun os started H enc _ => lifted os started H enc)

theorem proved : Rows.FnNumbersSaid := over
#print axioms proved
end Go.Proofs.Ytdcbkphaoeckmaa.fnNumbers

namespace Go.Proofs.Ytdcbkphaoeckmaa
theorem fnNumbers_holds : Rows.FnNumbersSaid := fnNumbers.proved
end Go.Proofs.Ytdcbkphaoeckmaa
