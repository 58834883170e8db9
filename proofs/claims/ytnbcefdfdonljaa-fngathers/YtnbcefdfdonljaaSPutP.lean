/- What the model's PutPiece answers, the same as the program's: the code and the gather; nothing that was in memory turns, and the answer owns its memory; no condition but that there are at most a million bytes. -/
import Derived.Test.YtnbcefdfdonljaaRows
import Derived.Test.YtnbcefdfdonljaaBase
import Derived.Test.YtnbcefdfdonljaaBytes
import Derived.Test.YtnbcefdfdonljaaAppBytes
import Derived.Test.YtnbcefdfdonljaaMem
import Derived.Test.YtnbcefdfdonljaaMemOpen
import Derived.Test.YtnbcefdfdonljaaMemRow
import Derived.Test.YtnbcefdfdonljaaMemApp
import Derived.Test.YtnbcefdfdonljaaGath
import Derived.Test.YtnbcefdfdonljaaGathLaw
import Derived.Test.YtnbcefdfdonljaaImplGath
import Derived.Test.YtnbcefdfdonljaaSpecGath
import Derived.Test.YtnbcefdfdonljaaGathByte
import Derived.Test.YtnbcefdfdonljaaPMap
import Derived.Test.YtnbcefdfdonljaaPRun
import Derived.Test.YtnbcefdfdonljaaPPlaces
import Derived.Test.YtnbcefdfdonljaaPutDef
import Derived.Test.YtnbcefdfdonljaaPGather
import Derived.Test.YtnbcefdfdonljaaBox
import Derived.Test.YtnbcefdfdonljaaPImpl
import Derived.Test.YtnbcefdfdonljaaPLast
import Derived.Test.YtnbcefdfdonljaaSPut
namespace Go.Proofs.Ytnbcefdfdonljaa
open Go.RowKit Go.Maps
set_option linter.unusedVariables false

set_option maxHeartbeats 2000000 in
theorem sPutPiece (g : Gt) (v1 v2 : Value) (x : Int) (l : List Int) (a : Option Addr) (cap : Nat) (w : World) (B : Nat) (hr : gtS.Rd w B g [v1, v2]) (hl : u8s.Rd w B l [.slice a l.length cap]) (hB : B ≤ w.heap.size) (hn : l.length ≤ 1048576) (hT : ∀ k (hk : k < g.2.1.length), g.2.1[k].2.1.length ≤ 1048576) :
    Calls Try.prog 18 #[.agg #[v1, v2], .int .i64 x, .slice a l.length cap] w fun e w' => ∃ u1 u2, e = .returned (.agg #[.int .i64 (putC g x l), u1, u2]) ∧ Own w' w.heap.size w'.heap.size gtS (putV g x l) [u1, u2] ∧ Below w.heap.size w w' := by
  obtain ⟨a1, c1, a2, c2, e0, -, -⟩ := rd_gt hr
  simp only [List.cons.injEq, and_true] at e0
  obtain ⟨rfl, rfl⟩ := e0
  have HL : Hid (∀ W, Below w.heap.size w W → RB W a l) := fun W hW => by
    obtain ⟨_, _, e1, q1, -, -⟩ := rd_bytes (hl.below hB hW)
    simp only [List.cons.injEq, Value.slice.injEq, and_true, true_and] at e1
    obtain ⟨rfl, rfl⟩ := e1
    exact q1
  have HC : Hid (∀ W, Below w.heap.size w W → ∀ p, (∀ o, W.cell? ⟨p, o, none⟩ = (#[.slice a1 g.1.length c1, .slice a2 g.2.1.length c2] : Array Value)[o]?) → Calls Try.prog 51 #[.pointer (some ⟨p, 0, none⟩)] W fun e w' => e = .returned (.int .i64 (gtFault g)) ∧ Below W.heap.size W w') :=
    fun W hW p hp => sL3Fault g _ _ p W B (hr.below hB hW) (Nat.le_trans hB hW.size) hT hp
  have HPl : Hid (gtFault g = 0 → 0 ≤ x → x + l.length ≤ 400 → ∀ W, Below w.heap.size w W → ∀ p, (∀ o, W.cell? ⟨p, o, none⟩ = (#[.slice a1 g.1.length c1, .slice a2 g.2.1.length c2] : Array Value)[o]?) → p < W.heap.size → Calls Try.prog 56 #[.pointer (some ⟨p, 0, none⟩), .int .i64 x, .slice a l.length cap] W fun e w' => ∃ u1 u2, ∃ d : Nat, e = .returned (.agg #[u1, u2]) ∧ FirstGap (putM (gtByte g) x l) d ∧ Own w' W.heap.size w'.heap.size gtS (putG (putM (gtByte g) x l) d) [u1, u2] ∧ Below W.heap.size W w') :=
    fun hF h0 h1 W hW p hp hpl => sL3Put g _ _ p x l a cap W B (hr.below hB hW) (hl.below hB hW) (Nat.le_trans hB hW.size) hF h0 h1 hp hpl
  have HV1 : Hid (gtFault g ≠ 0 → putC g x l = gtFault g) := fun h => by unfold putC; rw [if_pos h]
  have HV2 : Hid (gtFault g = 0 → (x < 0 ∨ 400 - (l.length : Int) < x) → putC g x l = 3) := fun h h2 => by unfold putC; rw [if_neg (by simp [h]), if_pos h2]
  have HV3 : Hid (gtFault g = 0 → ¬ (x < 0 ∨ 400 - (l.length : Int) < x) → ∀ d, FirstGap (putM (gtByte g) x l) d → putC g x l = if 40 < (putG (putM (gtByte g) x l) d).2.1.length then 2 else 0) := fun h h2 d hd => by
    unfold putC; rw [if_neg (by simp [h]), if_neg h2, gapOf_eq hd]
  have HW1 : Hid (putC g x l ≠ 0 → putV g x l = ([], [], ())) := fun h => by unfold putV; rw [if_pos h]
  have HW2 : Hid (putC g x l = 0 → ∀ d, FirstGap (putM (gtByte g) x l) d → putV g x l = putG (putM (gtByte g) x l) d) := fun h d hd => by unfold putV; rw [if_neg (by simp [h]), gapOf_eq hd]
  have ZO : Hid (∀ W lo hi, Own W lo hi gtS ([], [], ()) [.slice none 0 0, .slice none 0 0]) := fun W lo hi => ⟨[], ⟨[], [], _, _, rfl, rfl, Or.inl ⟨rfl, rfl, rfl⟩, [], [], _, _, rfl, rfl, Or.inl ⟨rfl, rfl, rfl⟩, rfl, rfl⟩, by simp, by simp⟩
  clear hr hl hT HL
  generalize g.1.length = n1 at *
  generalize g.2.1.length = n2 at *
  obtain ⟨m2, hm2⟩ : ∃ m, m = putM (gtByte g) x l := ⟨_, rfl⟩
  rw [← hm2] at HPl HV3 HW2
  have HM2 : Hid (m2 = putM (gtByte g) x l) := hm2
  clear hm2
  generalize hCC : putC g x l = C at *
  generalize putV g x l = V at *
  generalize gtFault g = F at *
  clear hCC
  go_enter Try.func18, Try.ntmps18
  go_wp2_with fail
  refine (HC.out _ (by go_grown) w.heap.size (fun o => by simp [go_sem])).mono ?_
  rintro e w1 ⟨rfl, hb1⟩
  have hz := hb1.size
  simp at hz
  have k0 : ∀ o, w1.cell? ⟨w.heap.size, o, none⟩ = (#[.slice a1 n1 c1, .slice a2 n2 c2] : Array Value)[o]? := fun o => by rw [(bcell hb1).1 _ o (by simp; omega)]; simp [go_sem]
  have k1 : ∀ o, w1.cell? ⟨w.heap.size + 1, o, none⟩ = (#[.int .i64 0, .slice none 0 0, .slice none 0 0] : Array Value)[o]? := fun o => by rw [(bcell hb1).1 _ o (by simp)]; simp [go_sem]
  have f1 : ∀ o, w1.frozen? ⟨w.heap.size + 1, o, none⟩ = false := fun o => by rw [(bcell hb1).2 _ o (by simp)]; simp [go_sem]
  have HB1 : Hid (Below w.heap.size w w1) := Below.trans (by go_grown) (hb1.mono (by simp; omega))
  have z1 : w.heap.size + 1 < w1.heap.size := by omega
  clear hb1 hz HC
  by_cases hF : F = 0
  · subst hF
    go_wp2_with fail
    refine (sPlace x l.length w1 hn).mono ?_
    rintro e w2 ⟨rfl, hw2⟩
    subst w2
    have k2 := k0
    have k3 := k1
    have f3 := f1
    have HB2 := HB1
    have z2 := z1
    clear k0 k1 f1 HB1 z1
    by_cases hx : x < 0 ∨ 400 - (l.length : Int) < x
    · have hd : decide (0 ≤ x ∧ x + (l.length : Int) ≤ 400) = false := by simp only [decide_eq_false_iff_not]; omega
      rw [hd]
      have hC := HV2.out (by first | rfl | trivial) hx
      subst hC
      have hV := HW1.out (by decide)
      subst hV
      clear hd hx HPl HV1 HV2 HV3 HW1 HW2 k2
      go_wp2_with fail
      refine bodyPost_ret (v := .agg #[.int .i64 3, .slice none 0 0, .slice none 0 0]) (by simp [results, Try.results18, go_sem, k3]) rfl ⟨_, _, rfl, ZO.out _ _ _, ?_⟩
      have hB1 := HB2.out
      clear k3 f3 HB2
      go_grown
    · have hd : decide (0 ≤ x ∧ x + (l.length : Int) ≤ 400) = true := by simp only [decide_eq_true_eq]; omega
      rw [hd]
      have HV3' := HV3.out (by first | rfl | trivial) hx
      have HV4 : Hid _ := HV3'
      have hx0 : 0 ≤ x := by omega
      have hx1 : x + (l.length : Int) ≤ 400 := by omega
      clear hd hx HV1 HV2 HV3 HV3'
      go_wp2_with fail
      refine (HPl.out (by first | rfl | trivial) hx0 hx1 w1 HB2.out w.heap.size k2 (by omega)).mono ?_
      rintro e w5 ⟨u1, u2, d, rfl, hgap, ho5, hb5⟩
      have k6 := bx_below k3 z2 hb5
      have f6 : ∀ o, w5.frozen? ⟨w.heap.size + 1, o, none⟩ = false := fun o => by rw [(bcell hb5).2 _ o z2]; exact f3 o
      have HB5 : Hid (Below w.heap.size w w5) := HB2.out.trans (hb5.mono HB2.out.size)
      have z5 : w.heap.size + 1 < w5.heap.size := Nat.lt_of_lt_of_le z2 hb5.size
      have O5 : Hid (Own w5 (w.heap.size + 1 + 1) w5.heap.size gtS (putG m2 d) [u1, u2]) := ho5.mono (by omega) (Nat.le_refl _)
      obtain ⟨b1, d1, b2, d2, e5, -, r5⟩ := rd_gt (ho5.rd (Nat.le_refl _))
      simp only [List.cons.injEq, and_true] at e5
      obtain ⟨rfl, rfl⟩ := e5
      have hm5 : (putG m2 d).2.1.length ≤ 9223372036854775807 := by obtain ⟨-, h1, h2, -⟩ := rd_cap r5; exact Nat.le_trans h1 h2
      clear r5
      have hC := HV4.out d hgap
      have HW3 : Hid (C = 0 → V = putG m2 d) := fun h => HW2.out h d hgap
      clear hb5 ho5 k2 k3 f3 HB2 z2 HPl HV4 HW2 hgap
      generalize putG m2 d = G at *
      by_cases h40 : 40 < G.2.1.length
      · rw [if_pos h40] at hC
        subst hC
        have hV := HW1.out (by decide)
        subst hV
        clear HW1 HW3
        generalize G.1.length = gn1 at *
        generalize G.2.1.length = gn2 at *
        go_wp2_with fail
        refine bodyPost_ret (v := .agg #[.int .i64 2, .slice none 0 0, .slice none 0 0]) (by simp [results, Try.results18, go_sem, k6, z5]) rfl ⟨_, _, rfl, ZO.out _ _ _, ?_⟩
        have hB1 := HB5.out
        clear k6 f6 HB5 O5
        go_grown
      · rw [if_neg h40] at hC
        subst hC
        have hV := HW3.out (by first | rfl | trivial)
        subst hV
        clear HW1 HW3
        go_wp2_with fail
        refine bodyPost_ret (v := .agg #[.int .i64 0, .slice b1 V.1.length d1, .slice b2 V.2.1.length d2]) (by simp [results, Try.results18, go_sem, k6, z5]) rfl ⟨_, _, rfl, ?_, ?_⟩
        · refine Own.mono (Own.keep O5.out fun y h1 h2 => ?_) (by omega) (by simp)
          refine (((Below.refl _ _).alloc (Nat.le_refl _) _).block y (by simpa using h2)).trans ?_
          repeat rw [Below.heap_setCell _ _ _ _ (by dsimp only; omega)]
        · have hB1 := HB5.out
          clear k6 f6 HB5 O5
          go_grown
  · have hC := HV1.out hF
    subst hC
    have hV := HW1.out hF
    subst hV
    have hF2 : (C == 0) = false := by simpa using hF
    clear HV1 HV2 HV3 HW1 HW2 HPl k0 hF
    go_wp2_with fail
    refine bodyPost_ret (v := .agg #[.int .i64 C, .slice none 0 0, .slice none 0 0]) (by simp [results, Try.results18, go_sem, k1]) rfl ⟨_, _, rfl, ZO.out _ _ _, ?_⟩
    have hB1 := HB1.out
    clear k1 f1 HB1
    go_grown
end Go.Proofs.Ytnbcefdfdonljaa
