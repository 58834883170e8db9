/- What program and model make of a new sub, over letters; no condition. Written by mknewv.py. -/
import Derived.Test.YtlicopeejphgaanRows
import Derived.Test.YtlicopeejphgaanBase
import Derived.Test.YtlicopeejphgaanMem
import Derived.Test.YtlicopeejphgaanHBase
import Derived.Test.YtlicopeejphgaanFlightDef
import Derived.Test.YtlicopeejphgaanHSub
import Derived.Test.YtlicopeejphgaanSubO
import Derived.Test.YtlicopeejphgaanHSubV
import Derived.Test.YtlicopeejphgaanSubDef
import Derived.Test.YtlicopeejphgaanSubNewS
import Derived.Test.YtlicopeejphgaanSubNewI
namespace Go.Proofs.Ytlicopeejphgaan
open Go.RowKit
set_option linter.unusedVariables false
set_option maxRecDepth 8000

theorem nw_own {w : World} {lo hi : Nat} (hl : lo ≤ hi) {p st no nw : Int} (jn : Bool) (g1 : inD p 0 2 = true) (g2 : inD no 0 1000000 = true) (g3 : inD nw 0 1000000 = true) (g4 : inD st 0 65535 = true) : Own w lo hi shSubO (p, 1, jn, no, 0, nw, (st, 0, 0, [], ()), (0, 0, [], ()), (16, 64, 0, ()), ()) [.int .i64 p, .int .i64 1, .bool jn, .int .i64 no, .int .i64 0, .int .i64 nw, .int .i64 st, .int .i64 0, .int .i64 0, .slice none 0 0, .int .i64 0, .int .i64 0, .slice none 0 0, .int .i64 16, .int .i64 64, .int .i64 0] := by
  have a1 := inD_yes g1
  have a2 := inD_yes g2
  have a3 := inD_yes g3
  have a4 := inD_yes g4
  have f : ∀ n : Int, 0 ≤ n ∧ n ≤ 1000000 → (Lit.int .i64 n).wf = true := fun n h => WalkArith.wf_i64 (by omega)
  exact own_Sub0 hl ⟨⟨f p (by omega), f 1 (by omega), f no (by omega), f 0 (by omega), f nw (by omega)⟩, f 16 (by omega), f 64 (by omega), f 0 (by omega)⟩ (f st (by omega)) (f 0 (by omega)) (f 0 (by omega)) (f 0 (by omega)) (f 0 (by omega))
theorem nz_own (w : World) (lo hi : Nat) (h : lo ≤ hi) : Own w lo hi shSubO zSub [.int .i64 0, .int .i64 0, .bool false, .int .i64 0, .int .i64 0, .int .i64 0, .int .i64 0, .int .i64 0, .int .i64 0, .slice none 0 0, .int .i64 0, .int .i64 0, .slice none 0 0, .int .i64 0, .int .i64 0, .int .i64 0] :=
  own_Sub0 h ⟨⟨by decide, by decide, by decide, by decide, by decide⟩, by decide, by decide, by decide⟩ (by decide) (by decide) (by decide) (by decide) (by decide)
theorem sNewSubV (p st : Int) (jn : Bool) (no nw : Int) (w : World) :
    Calls Try.prog 30 #[.int .i64 p, .int .i64 st, .bool jn, .int .i64 no, .int .i64 nw] w fun e w' => ∃ (va : Int) (vb : Int) (vc : Bool) (vd : Int) (ve : Int) (vf : Int) (vg : Int) (vh : Int) (vi : Int) (vj : Option Addr) (vq : Nat) (vr : Nat) (vk : Int) (vl : Int) (vm : Option Addr) (vs : Nat) (vt : Nat) (vn : Int) (vo : Int) (vp : Int), e = .returned (.agg #[.int .i64 (nwsC p st no nw), .int .i64 va, .int .i64 vb, .bool vc, .int .i64 vd, .int .i64 ve, .int .i64 vf, .int .i64 vg, .int .i64 vh, .int .i64 vi, .slice vj vq vr, .int .i64 vk, .int .i64 vl, .slice vm vs vt, .int .i64 vn, .int .i64 vo, .int .i64 vp]) ∧ Own w' w.heap.size w'.heap.size shSubO (nwsV p st jn no nw) [.int .i64 va, .int .i64 vb, .bool vc, .int .i64 vd, .int .i64 ve, .int .i64 vf, .int .i64 vg, .int .i64 vh, .int .i64 vi, .slice vj vq vr, .int .i64 vk, .int .i64 vl, .slice vm vs vt, .int .i64 vn, .int .i64 vo, .int .i64 vp] ∧ Below w.heap.size w w' := by
  by_cases h : (inD p 0 2 && inD no 0 1000000 && inD nw 0 1000000 && inD st 0 65535) = true
  · have hc : nwsC p st no nw = 0 := by unfold nwsC; rw [if_pos h]
    have hv : nwsV p st jn no nw = (p, 1, jn, no, 0, nw, (st, 0, 0, [], ()), (0, 0, [], ()), (16, 64, 0, ()), ()) := by unfold nwsV; rw [if_pos hc]
    rw [hc, hv]
    simp only [Bool.and_eq_true] at h
    obtain ⟨⟨⟨g1, g2⟩, g3⟩, g4⟩ := h
    refine (sNewOk p st jn no nw w g1 g2 g3 g4).mono ?_
    rintro e w' ⟨rfl, hb⟩
    exact ⟨_, _, _, _, _, _, _, _, _, _, _, _, _, _, _, _, _, _, _, _, rfl, nw_own hb.size jn g1 g2 g3 g4, hb⟩
  · have hc : nwsC p st no nw = 3 := by unfold nwsC; rw [if_neg h]
    have hv : nwsV p st jn no nw = zSub := by unfold nwsV; rw [if_neg (by rw [hc]; decide)]
    rw [hc, hv]
    replace h : (inD p 0 2 && inD no 0 1000000 && inD nw 0 1000000 && inD st 0 65535) = false := by simpa using h
    refine (sNewNo p st jn no nw w h).mono ?_
    rintro e w' ⟨rfl, hb⟩
    exact ⟨_, _, _, _, _, _, _, _, _, _, _, _, _, _, _, _, _, _, _, _, rfl, nz_own _ _ _ hb.size, hb⟩
theorem iNewSubV (p st : Int) (jn : Bool) (no nw : Int) (w : World) :
    Calls Try.prog 31 #[.int .i64 p, .int .i64 st, .bool jn, .int .i64 no, .int .i64 nw] w fun e w' => ∃ (va : Int) (vb : Int) (vc : Bool) (vd : Int) (ve : Int) (vf : Int) (vg : Int) (vh : Int) (vi : Int) (vj : Option Addr) (vq : Nat) (vr : Nat) (vk : Int) (vl : Int) (vm : Option Addr) (vs : Nat) (vt : Nat) (vn : Int) (vo : Int) (vp : Int), e = .returned (.agg #[.int .i64 (nwsC p st no nw), .int .i64 va, .int .i64 vb, .bool vc, .int .i64 vd, .int .i64 ve, .int .i64 vf, .int .i64 vg, .int .i64 vh, .int .i64 vi, .slice vj vq vr, .int .i64 vk, .int .i64 vl, .slice vm vs vt, .int .i64 vn, .int .i64 vo, .int .i64 vp]) ∧ Own w' w.heap.size w'.heap.size shSubO (nwsV p st jn no nw) [.int .i64 va, .int .i64 vb, .bool vc, .int .i64 vd, .int .i64 ve, .int .i64 vf, .int .i64 vg, .int .i64 vh, .int .i64 vi, .slice vj vq vr, .int .i64 vk, .int .i64 vl, .slice vm vs vt, .int .i64 vn, .int .i64 vo, .int .i64 vp] ∧ Below w.heap.size w w' := by
  by_cases h : (inD p 0 2 && inD no 0 1000000 && inD nw 0 1000000 && inD st 0 65535) = true
  · have hc : nwsC p st no nw = 0 := by unfold nwsC; rw [if_pos h]
    have hv : nwsV p st jn no nw = (p, 1, jn, no, 0, nw, (st, 0, 0, [], ()), (0, 0, [], ()), (16, 64, 0, ()), ()) := by unfold nwsV; rw [if_pos hc]
    rw [hc, hv]
    simp only [Bool.and_eq_true] at h
    obtain ⟨⟨⟨g1, g2⟩, g3⟩, g4⟩ := h
    refine (iNewOk p st jn no nw w g1 g2 g3 g4).mono ?_
    rintro e w' ⟨rfl, hb⟩
    exact ⟨_, _, _, _, _, _, _, _, _, _, _, _, _, _, _, _, _, _, _, _, rfl, nw_own hb.size jn g1 g2 g3 g4, hb⟩
  · have hc : nwsC p st no nw = 3 := by unfold nwsC; rw [if_neg h]
    have hv : nwsV p st jn no nw = zSub := by unfold nwsV; rw [if_neg (by rw [hc]; decide)]
    rw [hc, hv]
    replace h : (inD p 0 2 && inD no 0 1000000 && inD nw 0 1000000 && inD st 0 65535) = false := by simpa using h
    by_cases h3 : (inD p 0 2 && inD no 0 1000000 && inD nw 0 1000000) = true
    · have g4 : inD st 0 65535 = false := by rw [h3] at h; simpa using h
      simp only [Bool.and_eq_true] at h3
      refine (iNewNo2 p st jn no nw w h3.1.1 h3.1.2 h3.2 g4).mono ?_
      rintro e w' ⟨rfl, hb⟩
      exact ⟨_, _, _, _, _, _, _, _, _, _, _, _, _, _, _, _, _, _, _, _, rfl, nz_own _ _ _ hb.size, hb⟩
    · refine (iNewNo p st jn no nw w (by simpa using h3)).mono ?_
      rintro e w' ⟨rfl, hb⟩
      exact ⟨_, _, _, _, _, _, _, _, _, _, _, _, _, _, _, _, _, _, _, _, rfl, nz_own _ _ _ hb.size, hb⟩
end Go.Proofs.Ytlicopeejphgaan
