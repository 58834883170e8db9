/- What PackSegment answers, of the program and of its model: the fault, or the bytes, new ones; nothing that was in memory turns; no condition but that the load has at most a million bytes. -/
import Derived.Test.YtmiomnpfjigojaaRows
import Derived.Test.YtmiomnpfjigojaaBase
import Derived.Test.YtmiomnpfjigojaaBytes
import Derived.Test.YtmiomnpfjigojaaSeg
import Derived.Test.YtmiomnpfjigojaaSpecSeg
import Derived.Test.YtmiomnpfjigojaaImplSeg
import Derived.Test.YtmiomnpfjigojaaLaw
import Derived.Test.YtmiomnpfjigojaaPackDef
import Derived.Test.YtmiomnpfjigojaaSpecL2
import Derived.Test.YtmiomnpfjigojaaWriter
import Derived.Test.YtmiomnpfjigojaaImplPack
namespace Go.Proofs.Ytmiomnpfjigojaa
open Go.RowKit
set_option linter.unusedVariables false

/-- The bytes that PackSegment answers. -/
def packR (s : Seg) : List Int := if segFault s s.load.length = 0 then packB s else []
theorem packR_length (s : Seg) : (packR s).length ≤ 26 := by
  unfold packR
  split
  · rename_i h
    have := (ok_of_fault h).load
    rw [packB_length]; omega
  · simp


set_option maxRecDepth 8000 in
set_option maxHeartbeats 1000000 in
theorem iPackSegment (s : Seg) (a : Option Addr) (n cap : Nat) (w : World) (hl : s.load.length = n) (hr : RB w a s.load) (hnil : a = none → cap = 0) :
    Calls Try.prog 26 #[.agg #[.int .i64 s.path, .int .i64 s.frm, .bool s.syn, .bool s.ackd, .bool s.rst, .int .i64 s.seq, .int .i64 s.ack, .int .i64 s.fin, .int .i64 s.opt, .int .i64 s.a, .int .i64 s.b, .slice a n cap]] w fun e w' => ∃ v, e = .returned (.agg #[.int .i64 (segFault s n), v]) ∧ OB w' w.heap.size v (packR s) ∧ Below w.heap.size w w' := by
  have HR : Hid _ := hr
  have HN : Hid _ := hnil
  clear hr hnil
  obtain ⟨c, hcv⟩ : ∃ c, c = segFault s n := ⟨_, rfl⟩
  have EC : Hid _ := hcv
  have cF : Hid (∀ W, Calls Try.prog 32 #[.agg #[.int .i64 s.path, .int .i64 s.frm, .bool s.syn, .bool s.ackd, .bool s.rst, .int .i64 s.seq, .int .i64 s.ack, .int .i64 s.fin, .int .i64 s.opt, .int .i64 s.a, .int .i64 s.b, .slice a n cap]] W fun e w' => e = .returned (.int .i64 c) ∧ Below W.heap.size W w') := fun W => by rw [hcv]; exact iSegmentFault s a n cap W
  rw [← hcv]
  clear hcv
  by_cases h0 : c = 0
  · have HK : Hid _ := ok_of_fault (s := s) (by rw [hl, ← EC.out, h0])
    have EP : Hid (packR s = packB s) := by unfold packR; rw [hl, ← EC.out, if_pos h0]; trivial
    go_enter Try.func26, Try.ntmps26
    go_wp2_with fail
    refine (cF.out _).mono ?_
    rintro e w1 ⟨rfl, hb1⟩
    have hz1 := hb1.size
    simp at hz1
    have hc0 : ∀ o, w1.cell? ⟨w.heap.size, o, none⟩ = (#[.int .i64 s.path, .int .i64 s.frm, .bool s.syn, .bool s.ackd, .bool s.rst, .int .i64 s.seq, .int .i64 s.ack, .int .i64 s.fin, .int .i64 s.opt, .int .i64 s.a, .int .i64 s.b, .slice a n cap] : Array Value)[o]? := fun o => by rw [(bcell hb1).1 w.heap.size o (by simp; omega)]; simp [go_sem]
    have hc1 : ∀ o, w1.cell? ⟨w.heap.size + 1, o, none⟩ = (#[.int .i64 0, .slice none 0 0] : Array Value)[o]? := fun o => by rw [(bcell hb1).1 (w.heap.size + 1) o (by simp)]; simp [go_sem]
    have hf1 := fun o => (bcell hb1).2 (w.heap.size + 1) o (by simp)
    have z1 : w.heap.size < w1.heap.size := by omega
    have z2 : w.heap.size + 1 < w1.heap.size := by omega
    have HB : Hid (Below w.heap.size w w1) := Below.trans (by go_grown) (hb1.mono (by simp; omega))
    clear hb1 hz1
    go_wp2_with fail
    have HA : Hid (Below w1.heap.size w1 (w1.alloc (.cells #[.slice none 0 0] 84))) := (Below.refl _ _).alloc (Nat.le_refl _) _
    refine (iAddSegment w1.heap.size s a n cap (w1.heap.size + 1) (.slice none 0 0) _ hl ((HR.out.below (Nat.le_refl _) HB.out).below (Nat.le_refl _) HA.out) ?_ HN.out HK.out (by simp) (by simp) (OB.nilrow _ _) (by omega) (by simp)).mono ?_
    · intro b off e hne
      rcases HR.out.lt with e0 | ⟨b', off', e0, hlt⟩
      · exact absurd e0 hne
      · rw [e0] at e
        simp only [Option.some.injEq, Addr.mk.injEq, and_true] at e
        omega
    rintro e w2 ⟨rfl, v2, hd2, he2, ho2, hw2⟩
    obtain ⟨L, hL⟩ : ∃ L, L = bodyB s := ⟨_, rfl⟩
    rw [← hL] at ho2
    have EL : Hid _ := hL
    have lL : Hid (L.length ≤ 24) := by rw [hL, bodyB_length]; have := HK.out.load; show _ ≤ _; omega
    clear hL
    obtain ⟨a2, c2, rfl, -⟩ := ho2.rb
    have hb2 : Below w1.heap.size w1 w2 := HA.out.trans (hw2.below (by simp) (Nat.le_refl _) (by intro b e; cases e))
    have z5 := hw2.size
    simp at z5
    have hc2 : ∀ o, w2.cell? ⟨w.heap.size + 1, o, none⟩ = (#[.int .i64 0, .slice none 0 0] : Array Value)[o]? := fun o => (hb2.cell (p := ⟨w.heap.size + 1, o, none⟩) z2).trans (hc1 o)
    have hf2 := fun o => (hb2.frozen (p := ⟨w.heap.size + 1, o, none⟩) z2).trans (hf1 o)
    have O2 : Hid _ := ho2
    have W2 : Hid _ := hw2
    have HB2 : Hid _ := hb2
    clear ho2 hw2 hb2 hc0 hc1
    go_wp2_with fail
    refine (iAddSum w1.heap.size (w1.heap.size + 1) (.slice a2 L.length c2) L w2 hd2 he2 O2.out (by omega) z5 (by have := lL.out; omega)).mono ?_
    rintro e w3 ⟨rfl, v3, hd3, he3, ho3, hw3⟩
    obtain ⟨M, hM⟩ : ∃ M, M = L ++ beTo (sumB L) 2 2 := ⟨_, rfl⟩
    rw [← hM] at ho3
    have EM : Hid (M = packB s) := by rw [hM, EL.out]; trivial
    clear hM
    obtain ⟨a3, c3, rfl, -⟩ := ho3.rb
    have hb3 : Below w1.heap.size w1 w3 := HA.out.trans ((W2.out.trans hw3).below (by simp) (Nat.le_refl _) (by intro b e; cases e))
    have hc3 : ∀ o, w3.cell? ⟨w.heap.size + 1, o, none⟩ = (#[.int .i64 0, .slice none 0 0] : Array Value)[o]? := fun o => (hw3.cell o (by omega) (by omega) (ne_base O2.out (by omega))).trans (hc2 o)
    have hf5 := fun o => (hb3.frozen (p := ⟨w.heap.size + 1, o, none⟩) z2).trans (hf1 o)
    have z6 := hw3.size
    have O3 : Hid _ := ho3
    have HB3 : Hid (Below w.heap.size w w3) := HB.out.trans (hb3.mono HB.out.size)
    clear ho3 hw3 hb3 hc2 hf2 hd2 he2 HB2 hf1 W2 O2
    go_wp2_with fail
    have hB := HB3.out
    refine bodyPost_ret (v := .agg #[.int .i64 0, .slice a3 M.length c3]) (by simp [results, Try.results26, go_sem, hc3]) rfl ⟨.slice a3 M.length c3, by rw [h0], ?_, ?_⟩
    · rw [EP.out, ← EM.out]
      refine OB.mono (OB.keeps O3.out fun g hg => ?_) (by omega)
      repeat rw [Below.heap_setCell _ _ _ _ (by dsimp only; omega)]
    · clear hc3 hf5 O3 HB HB3
      go_grown
  · have EP : Hid (packR s = []) := by unfold packR; rw [hl, ← EC.out, if_neg h0]; trivial
    go_enter Try.func26, Try.ntmps26
    go_wp2_with fail
    refine (cF.out _).mono ?_
    rintro e w1 ⟨rfl, hb1⟩
    have hz1 := hb1.size
    simp at hz1
    have hc0 : ∀ o, w1.cell? ⟨w.heap.size, o, none⟩ = (#[.int .i64 s.path, .int .i64 s.frm, .bool s.syn, .bool s.ackd, .bool s.rst, .int .i64 s.seq, .int .i64 s.ack, .int .i64 s.fin, .int .i64 s.opt, .int .i64 s.a, .int .i64 s.b, .slice a n cap] : Array Value)[o]? := fun o => by rw [(bcell hb1).1 w.heap.size o (by simp; omega)]; simp [go_sem]
    have hc1 : ∀ o, w1.cell? ⟨w.heap.size + 1, o, none⟩ = (#[.int .i64 0, .slice none 0 0] : Array Value)[o]? := fun o => by rw [(bcell hb1).1 (w.heap.size + 1) o (by simp)]; simp [go_sem]
    have hf1 := fun o => (bcell hb1).2 (w.heap.size + 1) o (by simp)
    have z1 : w.heap.size < w1.heap.size := by omega
    have z2 : w.heap.size + 1 < w1.heap.size := by omega
    have HB : Hid (Below w.heap.size w w1) := Below.trans (by go_grown) (hb1.mono (by simp; omega))
    clear hb1 hz1
    go_wp2_with fail
    have hB := HB.out
    refine bodyPost_ret (v := .agg #[.int .i64 c, .slice none 0 0]) (by simp [results, Try.results26, go_sem, hc1]) rfl ⟨.slice none 0 0, rfl, ?_, ?_⟩
    · rw [EP.out]; exact OB.nilrow _ _
    · clear hc0 hc1 hf1 HB
      go_grown
end Go.Proofs.Ytmiomnpfjigojaa
