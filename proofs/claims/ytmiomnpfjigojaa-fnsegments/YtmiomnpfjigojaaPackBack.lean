/- Plain facts: a segment without a fault is read back from its bytes; no other condition. -/
import Derived.Test.YtmiomnpfjigojaaRows
import Derived.Test.YtmiomnpfjigojaaBase
import Derived.Test.YtmiomnpfjigojaaBytes
import Derived.Test.YtmiomnpfjigojaaSeg
import Derived.Test.YtmiomnpfjigojaaSpecSeg
import Derived.Test.YtmiomnpfjigojaaSpecPack
import Derived.Test.YtmiomnpfjigojaaPackDef
import Derived.Test.YtmiomnpfjigojaaPackWalks
import Derived.Test.YtmiomnpfjigojaaStr
import Derived.Test.YtmiomnpfjigojaaTake
import Derived.Test.YtmiomnpfjigojaaRead
import Derived.Test.YtmiomnpfjigojaaImplUnpack
import Derived.Test.YtmiomnpfjigojaaUnpackFacts
namespace Go.Proofs.Ytmiomnpfjigojaa
open Go.RowKit
set_option linter.unusedVariables false
set_option linter.unusedSimpArgs false

theorem be2 (n : Int) : beTo n 2 2 = [n / 256 % 256, n % 256] := by simp [beTo, List.range_succ]
theorem be3 (n : Int) : beTo n 3 3 = [n / 65536 % 256, n / 256 % 256, n % 256] := by simp [beTo, List.range_succ]
theorem take_be2 {n : Int} (h0 : 0 ≤ n) (h1 : n ≤ 65535) : takeN (beTo n 2 2) = n := by
  rw [be2]
  show (0 * 256 + n / 256 % 256) * 256 + n % 256 = n
  omega
theorem body_cons (s : Seg) : bodyB s = (s.path * 2 + s.frm) :: flagB s :: (s.seq / 256 % 256) :: (s.seq % 256) :: (s.ack / 256 % 256) :: (s.ack % 256) :: (s.fin / 256 % 256) :: (s.fin % 256) :: s.opt :: (s.a / 65536 % 256) :: (s.a / 256 % 256) :: (s.a % 256) :: (s.b / 65536 % 256) :: (s.b / 256 % 256) :: (s.b % 256) :: (s.load.length : Int) :: s.load := by
  simp [bodyB, be2, be3]
theorem flag_bits (s : Seg) : (flagB s % 2 == 1) = s.syn ∧ (flagB s / 2 % 2 == 1) = s.ackd ∧ (flagB s / 4 % 2 == 1) = s.rst := by
  unfold flagB
  cases s.syn <;> cases s.ackd <;> cases s.rst <;> decide
theorem rd_body {s : Seg} (h : s.Ok) : rdSeg (bodyB s) = s := by
  obtain ⟨f1, f2, f3⟩ := flag_bits s
  obtain ⟨c1, c2, c3⟩ := and_bits (flagB_bd s).1 (by have := (flagB_bd s).2; omega)
  have k1 : tk (bodyB s) 1 1 = flagB s := by rw [body_cons]; show 0 * 256 + flagB s = flagB s; omega
  have k0 : tk (bodyB s) 0 1 = s.path * 2 + s.frm := by rw [body_cons]; show 0 * 256 + (s.path * 2 + s.frm) = _; omega
  have k2 : tk (bodyB s) 2 2 = s.seq := by have := h.seq; rw [body_cons]; show (0 * 256 + s.seq / 256 % 256) * 256 + s.seq % 256 = _; omega
  have k4 : tk (bodyB s) 4 2 = s.ack := by have := h.ack; rw [body_cons]; show (0 * 256 + s.ack / 256 % 256) * 256 + s.ack % 256 = _; omega
  have k6 : tk (bodyB s) 6 2 = s.fin := by have := h.fin; rw [body_cons]; show (0 * 256 + s.fin / 256 % 256) * 256 + s.fin % 256 = _; omega
  have k8 : tk (bodyB s) 8 1 = s.opt := by rw [body_cons]; show 0 * 256 + s.opt = _; omega
  have k9 : tk (bodyB s) 9 3 = s.a := by have := h.a; rw [body_cons]; show ((0 * 256 + s.a / 65536 % 256) * 256 + s.a / 256 % 256) * 256 + s.a % 256 = _; omega
  have k12 : tk (bodyB s) 12 3 = s.b := by have := h.b; rw [body_cons]; show ((0 * 256 + s.b / 65536 % 256) * 256 + s.b / 256 % 256) * 256 + s.b % 256 = _; omega
  have k16 : (bodyB s).drop 16 = s.load := by rw [body_cons]; rfl
  have hp := h.path
  have hf := h.frm
  unfold rdSeg
  rw [k0, k1, k2, k4, k6, k8, k9, k12, k16, c1, c2, c3, f1, f2, f3, show (s.path * 2 + s.frm) / 2 = s.path by omega, show (s.path * 2 + s.frm) % 2 = s.frm by omega]
theorem upB_pack (s : Seg) : upB (packB s) = bodyB s := by
  unfold upB
  rw [show (packB s).length - 2 = (bodyB s).length by rw [packB_length, bodyB_length]; omega]
  unfold packB
  rw [List.take_left]
theorem up_pack {s : Seg} (hf : segFault s s.load.length = 0) : upC (packB s) = 0 ∧ upS (packB s) = s := by
  have ok := ok_of_fault hf
  have h1 : upSum (packB s) = true := by
    unfold upSum
    rw [upB_pack, show (packB s).length - 2 = (bodyB s).length by rw [packB_length, bodyB_length]; omega]
    have e : (packB s).drop (bodyB s).length = beTo (sumB (bodyB s)) 2 2 := by unfold packB; rw [List.drop_left]
    have bd := sumB_bd (bodyB s)
    rw [e, take_be2 bd.1 (by omega)]
    simp
  have h2 : upFit (packB s) = true := by
    unfold upFit
    rw [upB_pack, rd_body ok]
    have e : packR s = packB s := by unfold packR; rw [if_pos hf]
    rw [e, hf]
    simp [eqS]
  have h3 := up_ok (l := packB s) (by rw [packB_length]; omega) h1 h2
  rw [upB_pack, rd_body ok] at h3
  exact h3
/-- Bytes that are read are just those of their segment. -/
theorem up_same {l : List Int} (h : upC l = 0) : segFault (upS l) (upS l).load.length = 0 ∧ eqS (packR (upS l)) l = true := by
  have hS : upS l = rdSeg (upB l) := by unfold upS; rw [if_pos h]
  rw [hS]
  unfold upC at h
  split at h
  · cases h
  · split at h
    · cases h
    · split at h
      · cases h
      · rename_i h3
        have h4 : upFit l = true := by simpa using h3
        unfold upFit at h4
        rw [Bool.and_eq_true] at h4
        exact ⟨of_decide_eq_true h4.1, h4.2⟩
end Go.Proofs.Ytmiomnpfjigojaa
