/- Proved: whatever bytes come in, the law on subs answers true, and the bytes are as they were; no condition. -/
import Derived.Test.YtebgibjokljlbaaRows
import Derived.WalkKit
import Derived.ProofKit
import Derived.OpenShut
import Derived.ShutString
import Derived.ChangeOld
import Derived.Below
import Derived.Test.YtebgibjokljlbaaS01
import Derived.Test.YtebgibjokljlbaaS02
import Derived.Test.YtebgibjokljlbaaS03
import Derived.Test.YtebgibjokljlbaaS04
import Derived.Test.YtebgibjokljlbaaS05
import Derived.Test.YtebgibjokljlbaaS06
import Derived.Test.YtebgibjokljlbaaS07
import Derived.Test.YtebgibjokljlbaaS11
import Derived.Test.YtebgibjokljlbaaS12
import Derived.Test.YtebgibjokljlbaaS13
import Derived.Test.YtebgibjokljlbaaS14
import Derived.Test.YtebgibjokljlbaaS15
import Derived.Test.YtebgibjokljlbaaS08
import Derived.Test.YtebgibjokljlbaaS09
import Derived.Test.YtebgibjokljlbaaS10
import Derived.Test.YtebgibjokljlbaaS16
import Derived.Test.YtebgibjokljlbaaS17
import Derived.Test.YtebgibjokljlbaaS18
import Derived.Test.YtebgibjokljlbaaS19
import Derived.Test.YtebgibjokljlbaaS20
import Derived.Test.YtebgibjokljlbaaS21
import Derived.Test.YtebgibjokljlbaaS22
import Derived.Test.YtebgibjokljlbaaS23
import Derived.Test.YtebgibjokljlbaaS24
import Derived.Test.YtebgibjokljlbaaS25
import Derived.Test.YtebgibjokljlbaaS26
import Derived.Test.YtebgibjokljlbaaS27
import Derived.Test.YtebgibjokljlbaaS28
import Derived.Test.YtebgibjokljlbaaS29
import Derived.Test.YtebgibjokljlbaaS30
import Derived.Test.YtebgibjokljlbaaS31
import Derived.Test.YtebgibjokljlbaaS32
import Derived.Test.YtebgibjokljlbaaS33
import Derived.Test.YtebgibjokljlbaaS34
import Derived.Test.YtebgibjokljlbaaS35
import Derived.Test.YtebgibjokljlbaaS36
import Derived.Test.YtebgibjokljlbaaS37
import Derived.Test.YtebgibjokljlbaaS38
import Derived.Test.YtebgibjokljlbaaS39
import Derived.Test.YtebgibjokljlbaaS40
import Derived.Test.YtebgibjokljlbaaS41
import Derived.Test.YtebgibjokljlbaaS42
namespace Go.Proofs.Ytebgibjokljlbaa.fnSubs
open Go.ChangeShapes Go.WideShapes Go.ChangeAt Go.RowKit
open Go.ChangeMaps (open_string shut_string)
set_option linter.unusedVariables false

theorem own : ownKnob Try.prog.godebug = none := by kernel_rfl
theorem laidOut : laidOutB Try.prog = true := by kernel_rfl

/-- WHAT THE WALK IS TOLD OF A SLICE OF INTEGERS THAT CAME IN: it is nil; or it leads to a row of 'cap' cells, the numbers 'zs' (the first 'len' are its elements, the rest its spare room), each fitting its kind. -/
def IsRow (k : IntKind) (w : World) (a : Option Addr) (len cap : Nat) (zs : List Int) : Prop :=
  (a = none ∧ len = 0 ∧ cap = 0 ∧ zs = []) ∨
  ∃ x, a = some x ∧ len ≤ cap ∧ cap ≤ maxLen ∧ zs.length = cap ∧ (∀ i, i < zs.length → w.cell? (x.add i) = some (.int k (zs.getD i 0))) ∧ ∀ n ∈ zs, (Lit.int k n).wf = true

set_option linter.unusedSimpArgs false
set_option maxRecDepth 8000
theorem ifld1 (c0 c1 : Value) (w : World) : Sem.run Try.prog (Instr.field 35 (.agg #[c0, c1]) 1) w = .ok c1 w := by
  simp [Instr.field, asAgg, part, go_sem]
theorem sfld0 (q g0 g1 g2 g3 g4 g5 g6 g7 g8 g9 g10 g11 g12 g13 g14 g15 : Value) (w : World) : Sem.run Try.prog (Instr.field 69 (.agg #[q, g0, g1, g2, g3, g4, g5, g6, g7, g8, g9, g10, g11, g12, g13, g14, g15]) 0) w = .ok q w := by
  simp [Instr.field, asAgg, part, go_sem]
theorem sub16 {T : List Value} (h : T.length = 16) : ∃ g0 g1 g2 g3 g4 g5 g6 g7 g8 g9 g10 g11 g12 g13 g14 g15, T = [g0, g1, g2, g3, g4, g5, g6, g7, g8, g9, g10, g11, g12, g13, g14, g15] := by
  rcases T with _ | ⟨g0, T⟩
  · simp at h
  rcases T with _ | ⟨g1, T⟩
  · simp at h
  rcases T with _ | ⟨g2, T⟩
  · simp at h
  rcases T with _ | ⟨g3, T⟩
  · simp at h
  rcases T with _ | ⟨g4, T⟩
  · simp at h
  rcases T with _ | ⟨g5, T⟩
  · simp at h
  rcases T with _ | ⟨g6, T⟩
  · simp at h
  rcases T with _ | ⟨g7, T⟩
  · simp at h
  rcases T with _ | ⟨g8, T⟩
  · simp at h
  rcases T with _ | ⟨g9, T⟩
  · simp at h
  rcases T with _ | ⟨g10, T⟩
  · simp at h
  rcases T with _ | ⟨g11, T⟩
  · simp at h
  rcases T with _ | ⟨g12, T⟩
  · simp at h
  rcases T with _ | ⟨g13, T⟩
  · simp at h
  rcases T with _ | ⟨g14, T⟩
  · simp at h
  rcases T with _ | ⟨g15, T⟩
  · simp at h
  rcases T with _ | ⟨z, T⟩
  · exact ⟨_, _, _, _, _, _, _, _, _, _, _, _, _, _, _, _, rfl⟩
  · simp at h
theorem range_tl {w : World} {b : Nat} {q : Value} {T : List Value} (h : ∀ o, w.cell? ⟨b, o, none⟩ = ((q :: T).toArray)[o]?) : w.rangeAt b 1 T := fun j v hv => by
  rw [h (1 + j), Nat.add_comm 1 j, List.getElem?_toArray, List.getElem?_cons_succ]; exact hv
theorem cls_good {x : DSub} (h : subF x = 0) : subF (clsV x) = 0 ∧ roomV (clsV x) = 0 ∧ stlV (clsV x) = 0 ∧ (clsV x).2.1 = 4 := by
  rw [clsV_o h]
  obtain ⟨h1, h2, h3, h4, h5⟩ := sub_ok h
  obtain ⟨a1, a2, a3, a4, a5⟩ := subHead_parts h1
  obtain ⟨b1, b2, b3, -⟩ := snd_ok h2
  have c2 := inD_yes b2
  have c3 := inD_yes b3
  have e : subF (clsX x) = 0 := by
    refine subF_o ?_ ?_ h3 h4 ?_
    · show (inD x.1 0 2 && inD 4 1 4 && inD x.2.2.2.1 0 1000000 && inD x.2.2.2.2.1 0 1000000 && inD x.2.2.2.2.2.1 0 1000000) = true
      rw [a1, a3, a4, a5]; rfl
    · exact (snd_iff _).2 ⟨b1, inD_mk (by show 0 ≤ x.snd.2.2.1; exact c3.1) (by show x.snd.2.2.1 ≤ 1000000; omega), inD_mk (by show 0 ≤ x.snd.2.2.1; exact c3.1) (Int.le_refl _), Nat.zero_le _, trivial, rfl⟩
    · show ((decide ((4 : Int) < 3) && decide (0 < x.snd.2.2.1)) || (decide ((4 : Int) = 4) && decide (0 < ([] : List DFlight).length))) = false
      simp
  refine ⟨e, ?_, ?_, rfl⟩
  · unfold roomV
    rw [if_pos e, if_neg (fun g => absurd g.1 (by show ¬ ((4 : Int) = 3); decide))]
  · unfold stlV
    rw [if_pos e]; rfl
set_option maxHeartbeats 16000000 in
theorem walk (a0 : Option Addr) (len0 cap0 : Nat) (z0 : List Int) (w : World) (w0 : IsRow .u8 w a0 len0 cap0 z0) :
    Calls Try.prog 6 #[.slice a0 len0 cap0] w fun e w' => e = .returned (.bool true) ∧ Below w.heap.size w w' := by
  have r0 : BRow .u8 w a0 len0 cap0 z0 := w0
  have hl := r0.lt
  by_cases hbig : 1048576 < len0
  · clear r0 hl w0
    go_enter Try.func6, Try.ntmps6
    go_wp2
    go_ret
    exact ⟨rfl, by go_grown⟩
  · clear w0
    go_enter Try.func6, Try.ntmps6
    go_wp2_with (first | (go_at_call 7; go_in) | fail)
    refine (dAckSub a0 len0 cap0 z0 w r0 hl).mono ?_
    rintro e w1 ⟨A, ack, l, la, lc, rfl, ⟨x, hrd, hT⟩, hri, hl4, b1⟩
    clear r0 hl
    have HRX : Hid (∀ W, Below w1.heap.size w1 W → shSub.Rd W W.heap.size x A.toList) := fun W h => Sh.Rd.mono h.size _ _ _ (Sh.Rd.below (s := shSub) hrd (Nat.le_refl _) h)
    have HAZ : Hid (A.size = 16) := rd_size (s := shSub) hrd
    have HAI : Hid ((Try.prog.info? 64).map (·.size) = some A.size) := by show _ = _; rw [HAZ.out]; exact (by kernel_rfl : (Try.prog.info? 64).map (·.size) = some 16)
    have HAL : Hid ((Try.prog.info? 64).map (·.size) = some A.toList.length) := by show _ = _; rw [Array.length_toList]; exact HAI.out
    have HAO : Hid (A.all (·.oneCell') = true) := rd_all (s := shSub) hrd
    have HFC : Hid (¬ subF x = 0 → akC x ack l = subF x) := fun h => by unfold akC; rw [if_neg h]
    have HAK : Hid (∀ W, Below w1.heap.size w1 W → Calls Try.prog 29 #[.agg A, .int .i64 ack, .slice la l.length lc] W fun e w' => ∃ g0 g1 g2 g3 g4 g5 g6 g7 g8 g9 g10 g11 g12 g13 g14 g15 : Value, e = .returned (.agg #[.int .i64 (akC x ack l), g0, g1, g2, g3, g4, g5, g6, g7, g8, g9, g10, g11, g12, g13, g14, g15]) ∧ Hid ((#[.int .i64 (akC x ack l), g0, g1, g2, g3, g4, g5, g6, g7, g8, g9, g10, g11, g12, g13, g14, g15] : Array Value).all (·.oneCell') = true) ∧ Hid (akC x ack l = 0 → AkOk w' x [g0, g1, g2, g3, g4, g5, g6, g7, g8, g9, g10, g11, g12, g13, g14, g15]) ∧ Below W.heap.size W w') := fun W h => (iAckSub x A ack l la lc W W.heap.size (HRX.out W h) (Nat.le_refl _) hT (hri.below (Nat.le_refl _) h) (by omega)).mono (by
      rintro e w' ⟨T, hz, h1, rfl, hb, hk⟩
      obtain ⟨g0, g1, g2, g3, g4, g5, g6, g7, g8, g9, g10, g11, g12, g13, g14, g15, rfl⟩ := sub16 hz
      exact ⟨_, _, _, _, _, _, _, _, _, _, _, _, _, _, _, _, rfl, (by show Array.all _ _ = true; simpa [Value.oneCell'] using h1), hk, hb⟩)
    have HCL : Hid (∀ W, Below w1.heap.size w1 W → Calls Try.prog 30 #[.agg A] W fun e w' => ∃ g0 g1 g2 g3 g4 g5 g6 g7 g8 g9 g10 g11 g12 g13 g14 g15 : Value, e = .returned (.agg #[.int .i64 (subF x), g0, g1, g2, g3, g4, g5, g6, g7, g8, g9, g10, g11, g12, g13, g14, g15]) ∧ Hid ((#[.int .i64 (subF x), g0, g1, g2, g3, g4, g5, g6, g7, g8, g9, g10, g11, g12, g13, g14, g15] : Array Value).all (·.oneCell') = true) ∧ Hid (shSub.Rd w' w'.heap.size (clsV x) [g0, g1, g2, g3, g4, g5, g6, g7, g8, g9, g10, g11, g12, g13, g14, g15]) ∧ Below W.heap.size W w') := fun W h => (iCloseSubA x A W W.heap.size (HRX.out W h) (Nat.le_refl _) hT).mono (by
      rintro e w' ⟨T, rfl, hc, hb⟩
      have hz : T.length = 16 := Sh.Rd.len shSub _ _ hc
      have ho : T.toArray.all (·.oneCell') = true := rd_all (s := shSub) (A := T.toArray) hc
      obtain ⟨g0, g1, g2, g3, g4, g5, g6, g7, g8, g9, g10, g11, g12, g13, g14, g15, rfl⟩ := sub16 hz
      exact ⟨_, _, _, _, _, _, _, _, _, _, _, _, _, _, _, _, rfl, (by show Array.all _ _ = true; simpa [Value.oneCell'] using ho), hc, hb⟩)
    have HCS : Hid (¬ subF x = 0 → ∀ W, Below w1.heap.size w1 W → Calls Try.prog 31 #[.agg A] W fun e w' => ∃ g0 g1 g2 g3 g4 g5 g6 g7 g8 g9 g10 g11 g12 g13 g14 g15 : Value, e = .returned (.agg #[.int .i64 (subF x), g0, g1, g2, g3, g4, g5, g6, g7, g8, g9, g10, g11, g12, g13, g14, g15]) ∧ Below W.heap.size W w') := fun hf W h => (sCloseSubA x A W W.heap.size (HRX.out W h) (Nat.le_refl _) hT hf).mono (by
      rintro e w' ⟨T, hz, rfl, hb⟩
      obtain ⟨g0, g1, g2, g3, g4, g5, g6, g7, g8, g9, g10, g11, g12, g13, g14, g15, rfl⟩ := sub16 hz
      exact ⟨_, _, _, _, _, _, _, _, _, _, _, _, _, _, _, _, rfl, hb⟩)
    have HAS : Hid (¬ akC x ack l = 0 → ∀ W, Below w1.heap.size w1 W → Calls Try.prog 32 #[.agg A, .int .i64 ack, .slice la l.length lc] W fun e w' => ∃ g0 g1 g2 g3 g4 g5 g6 g7 g8 g9 g10 g11 g12 g13 g14 g15 : Value, e = .returned (.agg #[.int .i64 (akC x ack l), g0, g1, g2, g3, g4, g5, g6, g7, g8, g9, g10, g11, g12, g13, g14, g15]) ∧ Below W.heap.size W w') := fun hf W h => (sAckNo x A ack l la lc W W.heap.size (HRX.out W h) (Nat.le_refl _) hT (hri.below (Nat.le_refl _) h) (by omega) hf).mono (by
      rintro e w' ⟨T, hz, rfl, hb⟩
      obtain ⟨g0, g1, g2, g3, g4, g5, g6, g7, g8, g9, g10, g11, g12, g13, g14, g15, rfl⟩ := sub16 hz
      exact ⟨_, _, _, _, _, _, _, _, _, _, _, _, _, _, _, _, rfl, hb⟩)
    have HRM : Hid (∀ W, Below w1.heap.size w1 W → Calls Try.prog 34 #[.agg A] W fun e w' => e = .returned (.agg #[.int .i64 (subF x), .int .i64 (roomV x)]) ∧ Below W.heap.size W w') := fun W h => iRoomOfA x A W W.heap.size (HRX.out W h) (Nat.le_refl _) hT
    have HCG : Hid (subF x = 0 → subF (clsV x) = 0 ∧ roomV (clsV x) = 0 ∧ stlV (clsV x) = 0 ∧ (clsV x).2.1 = 4) := cls_good
    have HCT : Hid (totSub (clsV x) ≤ 1048576) := cls_tot x
    have HTX : Hid (totSub x ≤ 1048576) := hT
    have HRDX : Hid (shSub.Rd w1 w1.heap.size x A.toList) := hrd
    have HB1 : Hid (Below w.heap.size w w1) := b1
    have hf0 := sfld0
    have hf1 := ifld1
    clear hrd hri b1 hT hl4
    obtain ⟨F, hF0⟩ : ∃ F, F = subF x := ⟨_, rfl⟩
    obtain ⟨CC, hC0⟩ : ∃ C, C = akC x ack l := ⟨_, rfl⟩
    rw [← hF0] at HFC HCL HCS HRM HCG
    rw [← hC0] at HFC HAK HAS
    generalize l.length = ln at *
    have HF0 : Hid (F = subF x) := hF0
    clear hF0 hC0
    have D1 : Hid (Below w1.heap.size w1 w1) := Below.refl _ _
    have HB : Hid (Below w.heap.size w w1) := HB1.out
    clear HB1
    have HTH : Hid ((w1.alloc (.cells #[.int .i64 0, .int .i64 0, .bool false, .int .i64 0, .int .i64 0, .int .i64 0, .int .i64 0, .int .i64 0, .int .i64 0, .slice none 0 0, .int .i64 0, .int .i64 0, .slice none 0 0, .int .i64 0, .int .i64 0, .int .i64 0] 64)).there w1.heap.size 0 A.size) := bx_there (bx_al _ _ _) (fx_al _ _ _) (by rw [HAZ.out]; rfl)
    have HWN : Hid (Below w1.heap.size w1 ((w1.alloc (.cells #[.int .i64 0, .int .i64 0, .bool false, .int .i64 0, .int .i64 0, .int .i64 0, .int .i64 0, .int .i64 0, .int .i64 0, .slice none 0 0, .int .i64 0, .int .i64 0, .slice none 0 0, .int .i64 0, .int .i64 0, .int .i64 0] 64)).setCells w1.heap.size 0 A.toList) ∧ w1.heap.size < ((w1.alloc (.cells #[.int .i64 0, .int .i64 0, .bool false, .int .i64 0, .int .i64 0, .int .i64 0, .int .i64 0, .int .i64 0, .int .i64 0, .slice none 0 0, .int .i64 0, .int .i64 0, .slice none 0 0, .int .i64 0, .int .i64 0, .int .i64 0] 64)).setCells w1.heap.size 0 A.toList).heap.size ∧ (∀ o, ((w1.alloc (.cells #[.int .i64 0, .int .i64 0, .bool false, .int .i64 0, .int .i64 0, .int .i64 0, .int .i64 0, .int .i64 0, .int .i64 0, .slice none 0 0, .int .i64 0, .int .i64 0, .slice none 0 0, .int .i64 0, .int .i64 0, .int .i64 0] 64)).setCells w1.heap.size 0 A.toList).cell? ⟨w1.heap.size, o, none⟩ = A[o]?) ∧ (∀ o, ((w1.alloc (.cells #[.int .i64 0, .int .i64 0, .bool false, .int .i64 0, .int .i64 0, .int .i64 0, .int .i64 0, .int .i64 0, .int .i64 0, .slice none 0 0, .int .i64 0, .int .i64 0, .slice none 0 0, .int .i64 0, .int .i64 0, .int .i64 0] 64)).setCells w1.heap.size 0 A.toList).frozen? ⟨w1.heap.size, o, none⟩ = false)) := ⟨setCells_below (Nat.le_refl _) _ _ _ _ ((Below.refl _ _).alloc (Nat.le_refl _) _), by rw [setCells_size]; simp, bx_setCells (bx_al w1 _ _) (by rw [HAZ.out]; rfl), fx_sets (fx_al _ _ _)⟩
    go_upto_region 4 with (first | (refine wpList_store_mid rfl 64 _ _ rfl _ _ A (by rfl) (by rfl) HTH.out HAI.out HAO.out ?_))
    generalize hWW : ((w1.alloc (.cells #[.int .i64 0, .int .i64 0, .bool false, .int .i64 0, .int .i64 0, .int .i64 0, .int .i64 0, .int .i64 0, .int .i64 0, .slice none 0 0, .int .i64 0, .int .i64 0, .slice none 0 0, .int .i64 0, .int .i64 0, .int .i64 0] 64)).setCells w1.heap.size 0 A.toList) = w2 at HWN ⊢
    clear hWW HTH
    obtain ⟨hb, zX, kX, fX⟩ := HWN.out
    clear HWN
    obtain ⟨bX, hq⟩ : ∃ q, q = w1.heap.size := ⟨_, rfl⟩
    rw [← hq] at zX kX fX ⊢
    have lwX : w.heap.size ≤ bX := by rw [hq]; exact HB.out.size
    clear hq
    replace D1 : Hid (Below w1.heap.size w1 w2) := D1.out.trans (hb.mono D1.out.size)
    replace HB : Hid (Below w.heap.size w w2) := HB.out.trans (hb.mono HB.out.size)
    clear hb
    go_wp2_with (first | (refine wpList_load_mid rfl 64 _ rfl _ _ (by rfl) A.toList _ (bx_range kX) Try.underlying64 rfl HAL.out ?_) | fail)
    refine (HAK.out _ D1.out).mono ?_
    rintro e w3 ⟨r0, r1, r2, r3, r4, r5, r6, r7, r8, r9, r10, r11, r12, r13, r14, r15, rfl, HRO, HOK, hb⟩
    clear HAK
    have HRZ : Hid ((#[.int .i64 CC, r0, r1, r2, r3, r4, r5, r6, r7, r8, r9, r10, r11, r12, r13, r14, r15] : Array Value).size = 17) := rfl
    have HRI : Hid ((Try.prog.info? 69).map (·.size) = some (#[.int .i64 CC, r0, r1, r2, r3, r4, r5, r6, r7, r8, r9, r10, r11, r12, r13, r14, r15] : Array Value).size) := by show _ = _; exact (by kernel_rfl : (Try.prog.info? 69).map (·.size) = some 17)
    replace D1 : Hid (Below w1.heap.size w1 w3) := D1.out.trans (hb.mono D1.out.size)
    replace kX := bx_below kX zX hb
    replace fX := bxF fX hb zX
    replace zX := Nat.lt_of_lt_of_le zX hb.size
    replace HB : Hid (Below w.heap.size w w3) := HB.out.trans (hb.mono HB.out.size)
    clear hb
    have D3 : Hid (Below w3.heap.size w3 w3) := Below.refl _ _
    have HTH : Hid ((w3.alloc (.cells #[.int .i64 0, .int .i64 0, .int .i64 0, .bool false, .int .i64 0, .int .i64 0, .int .i64 0, .int .i64 0, .int .i64 0, .int .i64 0, .slice none 0 0, .int .i64 0, .int .i64 0, .slice none 0 0, .int .i64 0, .int .i64 0, .int .i64 0] 69)).there w3.heap.size 0 (#[.int .i64 CC, r0, r1, r2, r3, r4, r5, r6, r7, r8, r9, r10, r11, r12, r13, r14, r15] : Array Value).size) := bx_there (bx_al _ _ _) (fx_al _ _ _) (by rw [HRZ.out]; rfl)
    have HWN : Hid (Below w3.heap.size w3 ((w3.alloc (.cells #[.int .i64 0, .int .i64 0, .int .i64 0, .bool false, .int .i64 0, .int .i64 0, .int .i64 0, .int .i64 0, .int .i64 0, .int .i64 0, .slice none 0 0, .int .i64 0, .int .i64 0, .slice none 0 0, .int .i64 0, .int .i64 0, .int .i64 0] 69)).setCells w3.heap.size 0 (#[.int .i64 CC, r0, r1, r2, r3, r4, r5, r6, r7, r8, r9, r10, r11, r12, r13, r14, r15] : Array Value).toList) ∧ w3.heap.size < ((w3.alloc (.cells #[.int .i64 0, .int .i64 0, .int .i64 0, .bool false, .int .i64 0, .int .i64 0, .int .i64 0, .int .i64 0, .int .i64 0, .int .i64 0, .slice none 0 0, .int .i64 0, .int .i64 0, .slice none 0 0, .int .i64 0, .int .i64 0, .int .i64 0] 69)).setCells w3.heap.size 0 (#[.int .i64 CC, r0, r1, r2, r3, r4, r5, r6, r7, r8, r9, r10, r11, r12, r13, r14, r15] : Array Value).toList).heap.size ∧ (∀ o, ((w3.alloc (.cells #[.int .i64 0, .int .i64 0, .int .i64 0, .bool false, .int .i64 0, .int .i64 0, .int .i64 0, .int .i64 0, .int .i64 0, .int .i64 0, .slice none 0 0, .int .i64 0, .int .i64 0, .slice none 0 0, .int .i64 0, .int .i64 0, .int .i64 0] 69)).setCells w3.heap.size 0 (#[.int .i64 CC, r0, r1, r2, r3, r4, r5, r6, r7, r8, r9, r10, r11, r12, r13, r14, r15] : Array Value).toList).cell? ⟨w3.heap.size, o, none⟩ = (#[.int .i64 CC, r0, r1, r2, r3, r4, r5, r6, r7, r8, r9, r10, r11, r12, r13, r14, r15] : Array Value)[o]?) ∧ (∀ o, ((w3.alloc (.cells #[.int .i64 0, .int .i64 0, .int .i64 0, .bool false, .int .i64 0, .int .i64 0, .int .i64 0, .int .i64 0, .int .i64 0, .int .i64 0, .slice none 0 0, .int .i64 0, .int .i64 0, .slice none 0 0, .int .i64 0, .int .i64 0, .int .i64 0] 69)).setCells w3.heap.size 0 (#[.int .i64 CC, r0, r1, r2, r3, r4, r5, r6, r7, r8, r9, r10, r11, r12, r13, r14, r15] : Array Value).toList).frozen? ⟨w3.heap.size, o, none⟩ = false)) := ⟨setCells_below (Nat.le_refl _) _ _ _ _ ((Below.refl _ _).alloc (Nat.le_refl _) _), by rw [setCells_size]; simp, bx_setCells (bx_al w3 _ _) (by rw [HRZ.out]; rfl), fx_sets (fx_al _ _ _)⟩
    go_upto_region 5 with (first | (refine wpList_store_mid rfl 69 _ _ rfl _ _ (#[.int .i64 CC, r0, r1, r2, r3, r4, r5, r6, r7, r8, r9, r10, r11, r12, r13, r14, r15] : Array Value) (by rfl) (by rfl) HTH.out HRI.out HRO.out ?_))
    generalize hWW : ((w3.alloc (.cells #[.int .i64 0, .int .i64 0, .int .i64 0, .bool false, .int .i64 0, .int .i64 0, .int .i64 0, .int .i64 0, .int .i64 0, .int .i64 0, .slice none 0 0, .int .i64 0, .int .i64 0, .slice none 0 0, .int .i64 0, .int .i64 0, .int .i64 0] 69)).setCells w3.heap.size 0 (#[.int .i64 CC, r0, r1, r2, r3, r4, r5, r6, r7, r8, r9, r10, r11, r12, r13, r14, r15] : Array Value).toList) = w4 at HWN ⊢
    clear hWW HTH
    obtain ⟨hb, zR, kR, fR⟩ := HWN.out
    clear HWN
    obtain ⟨bR, hq⟩ : ∃ q, q = w3.heap.size := ⟨_, rfl⟩
    rw [← hq] at zR kR fR ⊢
    have lXR : bX < bR := by rw [hq]; exact zX
    have lwR : w.heap.size ≤ bR := by rw [hq]; exact HB.out.size
    clear hq
    replace D1 : Hid (Below w1.heap.size w1 w4) := D1.out.trans (hb.mono D1.out.size)
    replace D3 : Hid (Below w3.heap.size w3 w4) := D3.out.trans (hb.mono D3.out.size)
    replace kX := bx_below kX zX hb
    replace fX := bxF fX hb zX
    replace zX := Nat.lt_of_lt_of_le zX hb.size
    replace HB : Hid (Below w.heap.size w w4) := HB.out.trans (hb.mono HB.out.size)
    clear hb
    go_wp2_with (first | (refine wpList_load_mid rfl 64 _ rfl _ _ (by rfl) A.toList _ (bx_range kX) Try.underlying64 rfl HAL.out ?_) | fail)
    refine (HCL.out _ D1.out).mono ?_
    rintro e w5 ⟨h0, h1, h2, h3, h4, h5, h6, h7, h8, h9, h10, h11, h12, h13, h14, h15, rfl, HCO, HCR, hb⟩
    clear HCL
    have HCZ : Hid ((#[.int .i64 F, h0, h1, h2, h3, h4, h5, h6, h7, h8, h9, h10, h11, h12, h13, h14, h15] : Array Value).size = 17) := rfl
    have HCI : Hid ((Try.prog.info? 69).map (·.size) = some (#[.int .i64 F, h0, h1, h2, h3, h4, h5, h6, h7, h8, h9, h10, h11, h12, h13, h14, h15] : Array Value).size) := by show _ = _; exact (by kernel_rfl : (Try.prog.info? 69).map (·.size) = some 17)
    replace D1 : Hid (Below w1.heap.size w1 w5) := D1.out.trans (hb.mono D1.out.size)
    replace D3 : Hid (Below w3.heap.size w3 w5) := D3.out.trans (hb.mono D3.out.size)
    replace kX := bx_below kX zX hb
    replace fX := bxF fX hb zX
    replace zX := Nat.lt_of_lt_of_le zX hb.size
    replace kR := bx_below kR zR hb
    replace fR := bxF fR hb zR
    replace zR := Nat.lt_of_lt_of_le zR hb.size
    replace HB : Hid (Below w.heap.size w w5) := HB.out.trans (hb.mono HB.out.size)
    clear hb
    have D5 : Hid (Below w5.heap.size w5 w5) := Below.refl _ _
    have HTH : Hid ((w5.alloc (.cells #[.int .i64 0, .int .i64 0, .int .i64 0, .bool false, .int .i64 0, .int .i64 0, .int .i64 0, .int .i64 0, .int .i64 0, .int .i64 0, .slice none 0 0, .int .i64 0, .int .i64 0, .slice none 0 0, .int .i64 0, .int .i64 0, .int .i64 0] 69)).there w5.heap.size 0 (#[.int .i64 F, h0, h1, h2, h3, h4, h5, h6, h7, h8, h9, h10, h11, h12, h13, h14, h15] : Array Value).size) := bx_there (bx_al _ _ _) (fx_al _ _ _) (by rw [HCZ.out]; rfl)
    have HWN : Hid (Below w5.heap.size w5 ((w5.alloc (.cells #[.int .i64 0, .int .i64 0, .int .i64 0, .bool false, .int .i64 0, .int .i64 0, .int .i64 0, .int .i64 0, .int .i64 0, .int .i64 0, .slice none 0 0, .int .i64 0, .int .i64 0, .slice none 0 0, .int .i64 0, .int .i64 0, .int .i64 0] 69)).setCells w5.heap.size 0 (#[.int .i64 F, h0, h1, h2, h3, h4, h5, h6, h7, h8, h9, h10, h11, h12, h13, h14, h15] : Array Value).toList) ∧ w5.heap.size < ((w5.alloc (.cells #[.int .i64 0, .int .i64 0, .int .i64 0, .bool false, .int .i64 0, .int .i64 0, .int .i64 0, .int .i64 0, .int .i64 0, .int .i64 0, .slice none 0 0, .int .i64 0, .int .i64 0, .slice none 0 0, .int .i64 0, .int .i64 0, .int .i64 0] 69)).setCells w5.heap.size 0 (#[.int .i64 F, h0, h1, h2, h3, h4, h5, h6, h7, h8, h9, h10, h11, h12, h13, h14, h15] : Array Value).toList).heap.size ∧ (∀ o, ((w5.alloc (.cells #[.int .i64 0, .int .i64 0, .int .i64 0, .bool false, .int .i64 0, .int .i64 0, .int .i64 0, .int .i64 0, .int .i64 0, .int .i64 0, .slice none 0 0, .int .i64 0, .int .i64 0, .slice none 0 0, .int .i64 0, .int .i64 0, .int .i64 0] 69)).setCells w5.heap.size 0 (#[.int .i64 F, h0, h1, h2, h3, h4, h5, h6, h7, h8, h9, h10, h11, h12, h13, h14, h15] : Array Value).toList).cell? ⟨w5.heap.size, o, none⟩ = (#[.int .i64 F, h0, h1, h2, h3, h4, h5, h6, h7, h8, h9, h10, h11, h12, h13, h14, h15] : Array Value)[o]?) ∧ (∀ o, ((w5.alloc (.cells #[.int .i64 0, .int .i64 0, .int .i64 0, .bool false, .int .i64 0, .int .i64 0, .int .i64 0, .int .i64 0, .int .i64 0, .int .i64 0, .slice none 0 0, .int .i64 0, .int .i64 0, .slice none 0 0, .int .i64 0, .int .i64 0, .int .i64 0] 69)).setCells w5.heap.size 0 (#[.int .i64 F, h0, h1, h2, h3, h4, h5, h6, h7, h8, h9, h10, h11, h12, h13, h14, h15] : Array Value).toList).frozen? ⟨w5.heap.size, o, none⟩ = false)) := ⟨setCells_below (Nat.le_refl _) _ _ _ _ ((Below.refl _ _).alloc (Nat.le_refl _) _), by rw [setCells_size]; simp, bx_setCells (bx_al w5 _ _) (by rw [HCZ.out]; rfl), fx_sets (fx_al _ _ _)⟩
    go_upto_region 6 with (first | (refine wpList_store_mid rfl 69 _ _ rfl _ _ (#[.int .i64 F, h0, h1, h2, h3, h4, h5, h6, h7, h8, h9, h10, h11, h12, h13, h14, h15] : Array Value) (by rfl) (by rfl) HTH.out HCI.out HCO.out ?_))
    generalize hWW : ((w5.alloc (.cells #[.int .i64 0, .int .i64 0, .int .i64 0, .bool false, .int .i64 0, .int .i64 0, .int .i64 0, .int .i64 0, .int .i64 0, .int .i64 0, .slice none 0 0, .int .i64 0, .int .i64 0, .slice none 0 0, .int .i64 0, .int .i64 0, .int .i64 0] 69)).setCells w5.heap.size 0 (#[.int .i64 F, h0, h1, h2, h3, h4, h5, h6, h7, h8, h9, h10, h11, h12, h13, h14, h15] : Array Value).toList) = w6 at HWN ⊢
    clear hWW HTH
    obtain ⟨hb, zC, kC, fC⟩ := HWN.out
    clear HWN
    obtain ⟨bC, hq⟩ : ∃ q, q = w5.heap.size := ⟨_, rfl⟩
    rw [← hq] at zC kC fC ⊢
    have lXC : bX < bC := by rw [hq]; exact zX
    have lRC : bR < bC := by rw [hq]; exact zR
    have lwC : w.heap.size ≤ bC := by rw [hq]; exact HB.out.size
    clear hq
    replace D1 : Hid (Below w1.heap.size w1 w6) := D1.out.trans (hb.mono D1.out.size)
    replace D3 : Hid (Below w3.heap.size w3 w6) := D3.out.trans (hb.mono D3.out.size)
    replace D5 : Hid (Below w5.heap.size w5 w6) := D5.out.trans (hb.mono D5.out.size)
    replace kX := bx_below kX zX hb
    replace fX := bxF fX hb zX
    replace zX := Nat.lt_of_lt_of_le zX hb.size
    replace kR := bx_below kR zR hb
    replace fR := bxF fR hb zR
    replace zR := Nat.lt_of_lt_of_le zR hb.size
    replace HB : Hid (Below w.heap.size w w6) := HB.out.trans (hb.mono HB.out.size)
    clear hb
    clear HRZ HRI HRO HCZ HCI HCO HAO fX fR fC
    by_cases hF : F = 0
    case neg =>
      have hF' : (F != 0) = true := by simp [hF]
      obtain rfl : CC = F := HFC.out hF
      have HCSF := HCS.out hF
      have HASF := HAS.out hF
      clear HCS HAS HFC HOK HCG HRM
      go_upto_region 7 with fail
      refine wp_region_noPanic ?_
      refine Goes.start (S := fun w' => Below w6.heap.size w6 w') (z := 100) (by kernel_rfl) ?_
      refine Goes.take (i := 0) (oi := ?oi101) (x := .agg (A.toList).toArray) ?ho101 (by kernel_rfl) (by kernel_rfl) (by kernel_rfl) (by kernel_rfl) (fun _ _ _ h => h) ?hy101 (Below.drew (Below.refl _ _)) ?rest101
      case ho101 => (simp only [List.getElem?_toArray, List.getElem?_cons_zero] <;> rfl)
      case hy101 => exact yieldsIf_load_mid (by rfl) 64 _ rfl (bX) (0) (by rfl) (A.toList) _ (fun w' hSw => bx_range (fun o => (hSw.cell (p := ⟨bX, o, none⟩) zX).trans (kX o))) Try.underlying64 rfl HAL.out
      case rest101 =>
      (try simp only [Act.put, List.setIfInBounds_toArray, List.set_cons_zero, List.set_cons_succ])
      refine Goes.take (i := 3) (oi := ?oi102) (x := ?vx102) ?ho102 (by kernel_rfl) (by kernel_rfl) (by kernel_rfl) (by kernel_rfl) (fun _ _ _ h => h) (Or.inl ⟨?hw102, ?hy102⟩) (Below.drew (Below.refl _ _)) ?rest102
      case ho102 => (simp only [List.getElem?_toArray, List.getElem?_cons_succ, List.getElem?_cons_zero] <;> rfl)
      case hw102 => rfl
      case hy102 => (intro w' hSw; have jX := fun o => (hSw.cell (p := ⟨bX, o, none⟩) zX).trans (kX o); have jR := fun o => (hSw.cell (p := ⟨bR, o, none⟩) zR).trans (kR o); have jC := fun o => (hSw.cell (p := ⟨bC, o, none⟩) zC).trans (kC o); go_simp; (try with_reducible rfl))
      case rest102 =>
      (try simp only [Act.put, List.setIfInBounds_toArray, List.set_cons_zero, List.set_cons_succ])
      refine Goes.take (i := 4) (oi := ?oi103) (x := ?vx103) ?ho103 (by kernel_rfl) (by kernel_rfl) (by kernel_rfl) (by kernel_rfl) (fun _ _ _ h => h) (Or.inl ⟨?hw103, ?hy103⟩) (Below.drew (Below.refl _ _)) ?rest103
      case ho103 => (simp only [List.getElem?_toArray, List.getElem?_cons_succ, List.getElem?_cons_zero] <;> rfl)
      case hw103 => rfl
      case hy103 => (intro w' hSw; have jX := fun o => (hSw.cell (p := ⟨bX, o, none⟩) zX).trans (kX o); have jR := fun o => (hSw.cell (p := ⟨bR, o, none⟩) zR).trans (kR o); have jC := fun o => (hSw.cell (p := ⟨bC, o, none⟩) zC).trans (kC o); go_simp; (try with_reducible rfl))
      case rest103 =>
      (try simp only [Act.put, List.setIfInBounds_toArray, List.set_cons_zero, List.set_cons_succ])
      refine Goes.all (rs := [1]) (by kernel_rfl) (by simp) ?_
      refine Ups.cons (i := 1) (o := ?oo104) ?ho104 (fun KK hKK => ?stp104) Ups.nil
      case ho104 => (simp only [List.getElem?_toArray, List.getElem?_cons_succ, List.getElem?_cons_zero] <;> rfl)
      case stp104 =>
      go_simp
      go_at_call 31
      refine (HCSF _ (D1.out.trans ((Below.drew (Below.refl _ _)).mono D1.out.size))).mono ?_
      rintro e w7 ⟨g0, g1, g2, g3, g4, g5, g6, g7, g8, g9, g10, g11, g12, g13, g14, g15, rfl, hbq⟩
      replace hbq := (Below.drew (Below.refl w6.heap.size w6)).trans hbq
      have HS104 : Hid (Below w6.heap.size w6 w7) := hbq
      clear hbq
      dsimp only
      refine hKK.out _ _ (Or.inr HS104.out) ?_
      clear hKK KK
      (try simp only [Act.put, List.setIfInBounds_toArray, List.set_cons_zero, List.set_cons_succ])
      refine Goes.take (i := 2) (oi := ?oi105) (x := ?vx105) ?ho105 (by kernel_rfl) (by kernel_rfl) (by kernel_rfl) (by kernel_rfl) (fun _ _ _ h => h) (Or.inl ⟨?hw105, ?hy105⟩) HS104.out ?rest105
      case ho105 => (simp only [List.getElem?_toArray, List.getElem?_cons_succ, List.getElem?_cons_zero] <;> rfl)
      case hw105 => rfl
      case hy105 => (intro w' hSw; have jX := fun o => (hSw.cell (p := ⟨bX, o, none⟩) zX).trans (kX o); have jR := fun o => (hSw.cell (p := ⟨bR, o, none⟩) zR).trans (kR o); have jC := fun o => (hSw.cell (p := ⟨bC, o, none⟩) zC).trans (kC o); go_simp; (try with_reducible rfl))
      case rest105 =>
      (try simp only [Act.put, List.setIfInBounds_toArray, List.set_cons_zero, List.set_cons_succ])
      refine Goes.take (i := 5) (oi := ?oi106) (x := ?vx106) ?ho106 (by kernel_rfl) (by kernel_rfl) (by kernel_rfl) (by kernel_rfl) (fun _ _ _ h => h) (Or.inl ⟨?hw106, ?hy106⟩) HS104.out ?rest106
      case ho106 => (simp only [List.getElem?_toArray, List.getElem?_cons_succ, List.getElem?_cons_zero] <;> rfl)
      case hw106 => rfl
      case hy106 => (intro w' hSw; have jX := fun o => (hSw.cell (p := ⟨bX, o, none⟩) zX).trans (kX o); have jR := fun o => (hSw.cell (p := ⟨bR, o, none⟩) zR).trans (kR o); have jC := fun o => (hSw.cell (p := ⟨bC, o, none⟩) zC).trans (kC o); go_simp; (try with_reducible rfl))
      case rest106 =>
      (try simp only [Act.put, List.setIfInBounds_toArray, List.set_cons_zero, List.set_cons_succ])
      refine Goes.take (i := 6) (oi := ?oi107) (x := ?vx107) ?ho107 (by kernel_rfl) (by kernel_rfl) (by kernel_rfl) (by kernel_rfl) (fun _ _ _ h => h) (Or.inl ⟨?hw107, ?hy107⟩) HS104.out ?rest107
      case ho107 => (simp only [List.getElem?_toArray, List.getElem?_cons_succ, List.getElem?_cons_zero] <;> rfl)
      case hw107 => rfl
      case hy107 => (intro w' hSw; have jX := fun o => (hSw.cell (p := ⟨bX, o, none⟩) zX).trans (kX o); have jR := fun o => (hSw.cell (p := ⟨bR, o, none⟩) zR).trans (kR o); have jC := fun o => (hSw.cell (p := ⟨bC, o, none⟩) zC).trans (kC o); go_simp; (try with_reducible rfl))
      case rest107 =>
      (try simp only [Act.put, List.setIfInBounds_toArray, List.set_cons_zero, List.set_cons_succ])
      refine Goes.take (i := 7) (oi := ?oi108) (x := ?vx108) ?ho108 (by kernel_rfl) (by kernel_rfl) (by kernel_rfl) (by kernel_rfl) (fun _ _ _ h => h) (Or.inl ⟨?hw108, ?hy108⟩) HS104.out ?rest108
      case ho108 => (simp only [List.getElem?_toArray, List.getElem?_cons_succ, List.getElem?_cons_zero] <;> rfl)
      case hw108 => rfl
      case hy108 => (intro w' hSw; have jX := fun o => (hSw.cell (p := ⟨bX, o, none⟩) zX).trans (kX o); have jR := fun o => (hSw.cell (p := ⟨bR, o, none⟩) zR).trans (kR o); have jC := fun o => (hSw.cell (p := ⟨bC, o, none⟩) zC).trans (kC o); go_simp; (try with_reducible rfl))
      case rest108 =>
      (try simp only [Act.put, List.setIfInBounds_toArray, List.set_cons_zero, List.set_cons_succ])
      refine Goes.take (i := 8) (oi := ?oi109) (x := ?vx109) ?ho109 (by kernel_rfl) (by kernel_rfl) (by kernel_rfl) (by kernel_rfl) (fun _ _ _ h => h) (Or.inl ⟨?hw109, ?hy109⟩) HS104.out ?rest109
      case ho109 => (simp only [List.getElem?_toArray, List.getElem?_cons_succ, List.getElem?_cons_zero] <;> rfl)
      case hw109 => rfl
      case hy109 => (intro w' hSw; have jX := fun o => (hSw.cell (p := ⟨bX, o, none⟩) zX).trans (kX o); have jR := fun o => (hSw.cell (p := ⟨bR, o, none⟩) zR).trans (kR o); have jC := fun o => (hSw.cell (p := ⟨bC, o, none⟩) zC).trans (kC o); go_simp; (try with_reducible rfl))
      case rest109 =>
      (try simp only [Act.put, List.setIfInBounds_toArray, List.set_cons_zero, List.set_cons_succ])
      refine Goes.take (i := 9) (oi := ?oi110) (x := .agg (A.toList).toArray) ?ho110 (by kernel_rfl) (by kernel_rfl) (by kernel_rfl) (by kernel_rfl) (fun _ _ _ h => h) ?hy110 HS104.out ?rest110
      case ho110 => (simp only [List.getElem?_toArray, List.getElem?_cons_succ, List.getElem?_cons_zero] <;> rfl)
      case hy110 => exact yieldsIf_load_mid (by rfl) 64 _ rfl (bX) (0) (by rfl) (A.toList) _ (fun w' hSw => bx_range (fun o => (hSw.cell (p := ⟨bX, o, none⟩) zX).trans (kX o))) Try.underlying64 rfl HAL.out
      case rest110 =>
      (try simp only [Act.put, List.setIfInBounds_toArray, List.set_cons_zero, List.set_cons_succ])
      refine Goes.take (i := 10) (oi := ?oi111) (x := ?vx111) ?ho111 (by kernel_rfl) (by kernel_rfl) (by kernel_rfl) (by kernel_rfl) (fun _ _ _ h => h) (Or.inl ⟨?hw111, ?hy111⟩) HS104.out ?rest111
      case ho111 => (simp only [List.getElem?_toArray, List.getElem?_cons_succ, List.getElem?_cons_zero] <;> rfl)
      case hw111 => rfl
      case hy111 => (intro w' hSw; have jX := fun o => (hSw.cell (p := ⟨bX, o, none⟩) zX).trans (kX o); have jR := fun o => (hSw.cell (p := ⟨bR, o, none⟩) zR).trans (kR o); have jC := fun o => (hSw.cell (p := ⟨bC, o, none⟩) zC).trans (kC o); go_simp; (try with_reducible rfl))
      case rest111 =>
      (try simp only [Act.put, List.setIfInBounds_toArray, List.set_cons_zero, List.set_cons_succ])
      refine Goes.take (i := 11) (oi := ?oi112) (x := ?vx112) ?ho112 (by kernel_rfl) (by kernel_rfl) (by kernel_rfl) (by kernel_rfl) (fun _ _ _ h => h) (Or.inl ⟨?hw112, ?hy112⟩) HS104.out ?rest112
      case ho112 => (simp only [List.getElem?_toArray, List.getElem?_cons_succ, List.getElem?_cons_zero] <;> rfl)
      case hw112 => rfl
      case hy112 => (intro w' hSw; have jX := fun o => (hSw.cell (p := ⟨bX, o, none⟩) zX).trans (kX o); have jR := fun o => (hSw.cell (p := ⟨bR, o, none⟩) zR).trans (kR o); have jC := fun o => (hSw.cell (p := ⟨bC, o, none⟩) zC).trans (kC o); go_simp; (try with_reducible rfl))
      case rest112 =>
      (try simp only [Act.put, List.setIfInBounds_toArray, List.set_cons_zero, List.set_cons_succ])
      refine Goes.all (rs := [12]) (by kernel_rfl) (by simp) ?_
      refine Ups.cons (i := 12) (o := ?oo113) ?ho113 (fun KK hKK => ?stp113) Ups.nil
      case ho113 => (simp only [List.getElem?_toArray, List.getElem?_cons_succ, List.getElem?_cons_zero] <;> rfl)
      case stp113 =>
      go_simp
      go_at_call 32
      refine (HASF _ (D1.out.trans (HS104.out.mono D1.out.size))).mono ?_
      rintro e w8 ⟨q0, q1, q2, q3, q4, q5, q6, q7, q8, q9, q10, q11, q12, q13, q14, q15, rfl, hbq⟩
      replace hbq := HS104.out.trans (hbq.mono HS104.out.size)
      have HS113 : Hid (Below w6.heap.size w6 w8) := hbq
      clear hbq
      dsimp only
      refine hKK.out _ _ (Or.inr HS113.out) ?_
      clear hKK KK
      (try simp only [Act.put, List.setIfInBounds_toArray, List.set_cons_zero, List.set_cons_succ])
      refine Goes.take (i := 13) (oi := ?oi114) (x := ?vx114) ?ho114 (by kernel_rfl) (by kernel_rfl) (by kernel_rfl) (by kernel_rfl) (fun _ _ _ h => h) (Or.inl ⟨?hw114, ?hy114⟩) HS113.out ?rest114
      case ho114 => (simp only [List.getElem?_toArray, List.getElem?_cons_succ, List.getElem?_cons_zero] <;> rfl)
      case hw114 => rfl
      case hy114 => (intro w' hSw; have jX := fun o => (hSw.cell (p := ⟨bX, o, none⟩) zX).trans (kX o); have jR := fun o => (hSw.cell (p := ⟨bR, o, none⟩) zR).trans (kR o); have jC := fun o => (hSw.cell (p := ⟨bC, o, none⟩) zC).trans (kC o); go_simp; (try with_reducible rfl))
      case rest114 =>
      (try simp only [Act.put, List.setIfInBounds_toArray, List.set_cons_zero, List.set_cons_succ])
      refine Goes.take (i := 14) (oi := ?oi115) (x := ?vx115) ?ho115 (by kernel_rfl) (by kernel_rfl) (by kernel_rfl) (by kernel_rfl) (fun _ _ _ h => h) (Or.inl ⟨?hw115, ?hy115⟩) HS113.out ?rest115
      case ho115 => (simp only [List.getElem?_toArray, List.getElem?_cons_succ, List.getElem?_cons_zero] <;> rfl)
      case hw115 => rfl
      case hy115 => (intro w' hSw; have jX := fun o => (hSw.cell (p := ⟨bX, o, none⟩) zX).trans (kX o); have jR := fun o => (hSw.cell (p := ⟨bR, o, none⟩) zR).trans (kR o); have jC := fun o => (hSw.cell (p := ⟨bC, o, none⟩) zC).trans (kC o); go_simp; (try with_reducible rfl))
      case rest115 =>
      (try simp only [Act.put, List.setIfInBounds_toArray, List.set_cons_zero, List.set_cons_succ])
      refine Goes.take (i := 15) (oi := ?oi116) (x := ?vx116) ?ho116 (by kernel_rfl) (by kernel_rfl) (by kernel_rfl) (by kernel_rfl) (fun _ _ _ h => h) (Or.inl ⟨?hw116, ?hy116⟩) HS113.out ?rest116
      case ho116 => (simp only [List.getElem?_toArray, List.getElem?_cons_succ, List.getElem?_cons_zero] <;> rfl)
      case hw116 => rfl
      case hy116 => (intro w' hSw; have jX := fun o => (hSw.cell (p := ⟨bX, o, none⟩) zX).trans (kX o); have jR := fun o => (hSw.cell (p := ⟨bR, o, none⟩) zR).trans (kR o); have jC := fun o => (hSw.cell (p := ⟨bC, o, none⟩) zC).trans (kC o); go_simp; (try with_reducible rfl))
      case rest116 =>
      (try simp only [Act.put, List.setIfInBounds_toArray, List.set_cons_zero, List.set_cons_succ])
      refine Goes.take (i := 16) (oi := ?oi117) (x := ?vx117) ?ho117 (by kernel_rfl) (by kernel_rfl) (by kernel_rfl) (by kernel_rfl) (fun _ _ _ h => h) (Or.inl ⟨?hw117, ?hy117⟩) HS113.out ?rest117
      case ho117 => (simp only [List.getElem?_toArray, List.getElem?_cons_succ, List.getElem?_cons_zero] <;> rfl)
      case hw117 => rfl
      case hy117 => (intro w' hSw; have jX := fun o => (hSw.cell (p := ⟨bX, o, none⟩) zX).trans (kX o); have jR := fun o => (hSw.cell (p := ⟨bR, o, none⟩) zR).trans (kR o); have jC := fun o => (hSw.cell (p := ⟨bC, o, none⟩) zC).trans (kC o); go_simp; (try with_reducible rfl))
      case rest117 =>
      (try simp only [Act.put, List.setIfInBounds_toArray, List.set_cons_zero, List.set_cons_succ])
      refine Goes.done (by kernel_rfl) ?_ _
      refine NoPanic.normal ?_
      have HBF : Hid (Below w.heap.size w w8) := HB.out.trans (HS113.out.mono HB.out.size)
      go_wp2_with fail
      go_ret
      exact ⟨rfl, HBF.out⟩
    obtain ⟨c1, c2, c3, c4⟩ := HCG.out hF
    subst hF
    clear HCG HCS HFC
    have HRC : Hid (∀ W, Below w5.heap.size w5 W → shSub.Rd W W.heap.size (clsV x) [h0, h1, h2, h3, h4, h5, h6, h7, h8, h9, h10, h11, h12, h13, h14, h15]) := fun W h => Sh.Rd.mono h.size _ _ _ (Sh.Rd.below (s := shSub) HCR.out (Nat.le_refl _) h)
    have HSF : Hid (∀ W, Below w5.heap.size w5 W → Calls Try.prog 33 #[.agg #[h0, h1, h2, h3, h4, h5, h6, h7, h8, h9, h10, h11, h12, h13, h14, h15]] W fun e w' => e = .returned (.int .i64 0) ∧ Below W.heap.size W w') := fun W h => by have q := iSubFaultA (clsV x) #[h0, h1, h2, h3, h4, h5, h6, h7, h8, h9, h10, h11, h12, h13, h14, h15] W W.heap.size (HRC.out W h) (Nat.le_refl _) HCT.out; rw [c1] at q; exact q
    have HSR : Hid (∀ W, Below w5.heap.size w5 W → Calls Try.prog 34 #[.agg #[h0, h1, h2, h3, h4, h5, h6, h7, h8, h9, h10, h11, h12, h13, h14, h15]] W fun e w' => e = .returned (.agg #[.int .i64 0, .int .i64 0]) ∧ Below W.heap.size W w') := fun W h => by have q := iRoomOfA (clsV x) #[h0, h1, h2, h3, h4, h5, h6, h7, h8, h9, h10, h11, h12, h13, h14, h15] W W.heap.size (HRC.out W h) (Nat.le_refl _) HCT.out; rw [c1, c2] at q; exact q
    have HSS : Hid (∀ W, Below w5.heap.size w5 W → Calls Try.prog 35 #[.agg #[h0, h1, h2, h3, h4, h5, h6, h7, h8, h9, h10, h11, h12, h13, h14, h15]] W fun e w' => e = .returned (.agg #[.int .i64 0, .int .i64 0]) ∧ Below W.heap.size W w') := fun W h => by have q := iStaleOfA (clsV x) #[h0, h1, h2, h3, h4, h5, h6, h7, h8, h9, h10, h11, h12, h13, h14, h15] W W.heap.size (HRC.out W h) (Nat.le_refl _) HCT.out; rw [c1, c3] at q; exact q
    have HSV : Hid (∀ W, Below w5.heap.size w5 W → Calls Try.prog 36 #[.agg #[h0, h1, h2, h3, h4, h5, h6, h7, h8, h9, h10, h11, h12, h13, h14, h15], .int .i64 0, .int .i64 400] W fun e w' => e = .returned (.bool false) ∧ Below W.heap.size W w') := fun W h => iCoversNo (clsV x) #[h0, h1, h2, h3, h4, h5, h6, h7, h8, h9, h10, h11, h12, h13, h14, h15] W W.heap.size (HRC.out W h) (Nat.le_refl _) HCT.out c1 c4
    obtain ⟨u0, u1, u2, u3, u4, u5, v0, v1, v2, ul, d0, d1, dl, e0, e1, e2, ua, uc, va, vc, ex, el, -, -, -⟩ := sub_lit HCR.out
    have h14 : u1 = 4 := by rw [ex] at c4; exact c4
    subst h14
    simp only [List.cons.injEq, and_true] at el
    obtain ⟨-, eh1, -⟩ := el
    subst eh1
    clear c1 c2 c3 c4 ex HRC HCR HCT
    have HIC : Hid ((Try.prog.info? 64).map (·.size) = some ([h0, .int .i64 4, h2, h3, h4, h5, h6, h7, h8, h9, h10, h11, h12, h13, h14, h15] : List Value).length) := (by kernel_rfl : (Try.prog.info? 64).map (·.size) = some 16)
    go_wp2_with (first | (refine wpList_load_mid rfl 64 _ rfl _ _ (by rfl) [h0, .int .i64 4, h2, h3, h4, h5, h6, h7, h8, h9, h10, h11, h12, h13, h14, h15] _ (range_tl kC) Try.underlying64 rfl HIC.out ?_) | fail)
    refine (HSF.out _ D5.out).mono ?_
    rintro e w7 ⟨rfl, hb⟩
    clear HSF
    replace D1 : Hid (Below w1.heap.size w1 w7) := D1.out.trans (hb.mono D1.out.size)
    replace D3 : Hid (Below w3.heap.size w3 w7) := D3.out.trans (hb.mono D3.out.size)
    replace D5 : Hid (Below w5.heap.size w5 w7) := D5.out.trans (hb.mono D5.out.size)
    replace kX := bx_below kX zX hb
    replace zX := Nat.lt_of_lt_of_le zX hb.size
    replace kR := bx_below kR zR hb
    replace zR := Nat.lt_of_lt_of_le zR hb.size
    replace kC := bx_below kC zC hb
    replace zC := Nat.lt_of_lt_of_le zC hb.size
    replace HB : Hid (Below w.heap.size w w7) := HB.out.trans (hb.mono HB.out.size)
    clear hb
    go_wp2_with (first | (refine wpList_load_mid rfl 64 _ rfl _ _ (by rfl) [h0, .int .i64 4, h2, h3, h4, h5, h6, h7, h8, h9, h10, h11, h12, h13, h14, h15] _ (range_tl kC) Try.underlying64 rfl HIC.out ?_) | fail)
    refine (HSR.out _ D5.out).mono ?_
    rintro e w8 ⟨rfl, hb⟩
    clear HSR
    replace D1 : Hid (Below w1.heap.size w1 w8) := D1.out.trans (hb.mono D1.out.size)
    replace D3 : Hid (Below w3.heap.size w3 w8) := D3.out.trans (hb.mono D3.out.size)
    replace D5 : Hid (Below w5.heap.size w5 w8) := D5.out.trans (hb.mono D5.out.size)
    replace kX := bx_below kX zX hb
    replace zX := Nat.lt_of_lt_of_le zX hb.size
    replace kR := bx_below kR zR hb
    replace zR := Nat.lt_of_lt_of_le zR hb.size
    replace kC := bx_below kC zC hb
    replace zC := Nat.lt_of_lt_of_le zC hb.size
    replace HB : Hid (Below w.heap.size w w8) := HB.out.trans (hb.mono HB.out.size)
    clear hb
    go_wp2_with (first | (refine wpList_load_mid rfl 64 _ rfl _ _ (by rfl) [h0, .int .i64 4, h2, h3, h4, h5, h6, h7, h8, h9, h10, h11, h12, h13, h14, h15] _ (range_tl kC) Try.underlying64 rfl HIC.out ?_) | fail)
    refine (HSS.out _ D5.out).mono ?_
    rintro e w9 ⟨rfl, hb⟩
    clear HSS
    replace D1 : Hid (Below w1.heap.size w1 w9) := D1.out.trans (hb.mono D1.out.size)
    replace D3 : Hid (Below w3.heap.size w3 w9) := D3.out.trans (hb.mono D3.out.size)
    replace D5 : Hid (Below w5.heap.size w5 w9) := D5.out.trans (hb.mono D5.out.size)
    replace kX := bx_below kX zX hb
    replace zX := Nat.lt_of_lt_of_le zX hb.size
    replace kR := bx_below kR zR hb
    replace zR := Nat.lt_of_lt_of_le zR hb.size
    replace kC := bx_below kC zC hb
    replace zC := Nat.lt_of_lt_of_le zC hb.size
    replace HB : Hid (Below w.heap.size w w9) := HB.out.trans (hb.mono HB.out.size)
    clear hb
    go_wp2_with (first | (refine wpList_load_mid rfl 64 _ rfl _ _ (by rfl) [h0, .int .i64 4, h2, h3, h4, h5, h6, h7, h8, h9, h10, h11, h12, h13, h14, h15] _ (range_tl kC) Try.underlying64 rfl HIC.out ?_) | fail)
    refine (HSV.out _ D5.out).mono ?_
    rintro e wa ⟨rfl, hb⟩
    clear HSV
    replace D1 : Hid (Below w1.heap.size w1 wa) := D1.out.trans (hb.mono D1.out.size)
    replace D3 : Hid (Below w3.heap.size w3 wa) := D3.out.trans (hb.mono D3.out.size)
    replace D5 : Hid (Below w5.heap.size w5 wa) := D5.out.trans (hb.mono D5.out.size)
    replace kX := bx_below kX zX hb
    replace zX := Nat.lt_of_lt_of_le zX hb.size
    replace kR := bx_below kR zR hb
    replace zR := Nat.lt_of_lt_of_le zR hb.size
    replace kC := bx_below kC zC hb
    replace zC := Nat.lt_of_lt_of_le zC hb.size
    replace HB : Hid (Below w.heap.size w wa) := HB.out.trans (hb.mono HB.out.size)
    clear hb
    go_upto_region 10 with fail
    by_cases hC : CC = 0
    case neg =>
      have hC' : (CC != 0) = true := by simp [hC]
      have HASF := HAS.out hC
      clear HAS HOK HRM
      go_upto_region 11 with fail
      refine wp_region_noPanic ?_
      refine Goes.start (S := fun w' => Below wa.heap.size wa w') (z := 100) (by kernel_rfl) ?_
      refine Goes.take (i := 0) (oi := ?oi301) (x := .agg (A.toList).toArray) ?ho301 (by kernel_rfl) (by kernel_rfl) (by kernel_rfl) (by kernel_rfl) (fun _ _ _ h => h) ?hy301 (Below.drew (Below.refl _ _)) ?rest301
      case ho301 => (simp only [List.getElem?_toArray, List.getElem?_cons_zero] <;> rfl)
      case hy301 => exact yieldsIf_load_mid (by rfl) 64 _ rfl (bX) (0) (by rfl) (A.toList) _ (fun w' hSw => bx_range (fun o => (hSw.cell (p := ⟨bX, o, none⟩) zX).trans (kX o))) Try.underlying64 rfl HAL.out
      case rest301 =>
      (try simp only [Act.put, List.setIfInBounds_toArray, List.set_cons_zero, List.set_cons_succ])
      refine Goes.take (i := 1) (oi := ?oi302) (x := ?vx302) ?ho302 (by kernel_rfl) (by kernel_rfl) (by kernel_rfl) (by kernel_rfl) (fun _ _ _ h => h) (Or.inl ⟨?hw302, ?hy302⟩) (Below.drew (Below.refl _ _)) ?rest302
      case ho302 => (simp only [List.getElem?_toArray, List.getElem?_cons_succ, List.getElem?_cons_zero] <;> rfl)
      case hw302 => rfl
      case hy302 => (intro w' hSw; have jX := fun o => (hSw.cell (p := ⟨bX, o, none⟩) zX).trans (kX o); have jR := fun o => (hSw.cell (p := ⟨bR, o, none⟩) zR).trans (kR o); go_simp; (try with_reducible rfl))
      case rest302 =>
      (try simp only [Act.put, List.setIfInBounds_toArray, List.set_cons_zero, List.set_cons_succ])
      refine Goes.take (i := 2) (oi := ?oi303) (x := ?vx303) ?ho303 (by kernel_rfl) (by kernel_rfl) (by kernel_rfl) (by kernel_rfl) (fun _ _ _ h => h) (Or.inl ⟨?hw303, ?hy303⟩) (Below.drew (Below.refl _ _)) ?rest303
      case ho303 => (simp only [List.getElem?_toArray, List.getElem?_cons_succ, List.getElem?_cons_zero] <;> rfl)
      case hw303 => rfl
      case hy303 => (intro w' hSw; have jX := fun o => (hSw.cell (p := ⟨bX, o, none⟩) zX).trans (kX o); have jR := fun o => (hSw.cell (p := ⟨bR, o, none⟩) zR).trans (kR o); go_simp; (try with_reducible rfl))
      case rest303 =>
      (try simp only [Act.put, List.setIfInBounds_toArray, List.set_cons_zero, List.set_cons_succ])
      refine Goes.take (i := 5) (oi := ?oi304) (x := ?vx304) ?ho304 (by kernel_rfl) (by kernel_rfl) (by kernel_rfl) (by kernel_rfl) (fun _ _ _ h => h) (Or.inl ⟨?hw304, ?hy304⟩) (Below.drew (Below.refl _ _)) ?rest304
      case ho304 => (simp only [List.getElem?_toArray, List.getElem?_cons_succ, List.getElem?_cons_zero] <;> rfl)
      case hw304 => rfl
      case hy304 => (intro w' hSw; have jX := fun o => (hSw.cell (p := ⟨bX, o, none⟩) zX).trans (kX o); have jR := fun o => (hSw.cell (p := ⟨bR, o, none⟩) zR).trans (kR o); go_simp; (try with_reducible rfl))
      case rest304 =>
      (try simp only [Act.put, List.setIfInBounds_toArray, List.set_cons_zero, List.set_cons_succ])
      refine Goes.take (i := 6) (oi := ?oi305) (x := ?vx305) ?ho305 (by kernel_rfl) (by kernel_rfl) (by kernel_rfl) (by kernel_rfl) (fun _ _ _ h => h) (Or.inl ⟨?hw305, ?hy305⟩) (Below.drew (Below.refl _ _)) ?rest305
      case ho305 => (simp only [List.getElem?_toArray, List.getElem?_cons_succ, List.getElem?_cons_zero] <;> rfl)
      case hw305 => rfl
      case hy305 => (intro w' hSw; have jX := fun o => (hSw.cell (p := ⟨bX, o, none⟩) zX).trans (kX o); have jR := fun o => (hSw.cell (p := ⟨bR, o, none⟩) zR).trans (kR o); go_simp; (try with_reducible rfl))
      case rest305 =>
      (try simp only [Act.put, List.setIfInBounds_toArray, List.set_cons_zero, List.set_cons_succ])
      refine Goes.all (rs := [3]) (by kernel_rfl) (by simp) ?_
      refine Ups.cons (i := 3) (o := ?oo306) ?ho306 (fun KK hKK => ?stp306) Ups.nil
      case ho306 => (simp only [List.getElem?_toArray, List.getElem?_cons_succ, List.getElem?_cons_zero] <;> rfl)
      case stp306 =>
      go_simp
      go_at_call 32
      refine (HASF _ (D1.out.trans ((Below.drew (Below.refl _ _)).mono D1.out.size))).mono ?_
      rintro e wb ⟨q0, q1, q2, q3, q4, q5, q6, q7, q8, q9, q10, q11, q12, q13, q14, q15, rfl, hbq⟩
      replace hbq := (Below.drew (Below.refl wa.heap.size wa)).trans hbq
      have HS306 : Hid (Below wa.heap.size wa wb) := hbq
      clear hbq
      dsimp only
      refine hKK.out _ _ (Or.inr HS306.out) ?_
      clear hKK KK
      (try simp only [Act.put, List.setIfInBounds_toArray, List.set_cons_zero, List.set_cons_succ])
      refine Goes.take (i := 4) (oi := ?oi307) (x := ?vx307) ?ho307 (by kernel_rfl) (by kernel_rfl) (by kernel_rfl) (by kernel_rfl) (fun _ _ _ h => h) (Or.inl ⟨?hw307, ?hy307⟩) HS306.out ?rest307
      case ho307 => (simp only [List.getElem?_toArray, List.getElem?_cons_succ, List.getElem?_cons_zero] <;> rfl)
      case hw307 => rfl
      case hy307 => (intro w' hSw; have jX := fun o => (hSw.cell (p := ⟨bX, o, none⟩) zX).trans (kX o); have jR := fun o => (hSw.cell (p := ⟨bR, o, none⟩) zR).trans (kR o); go_simp; (try with_reducible rfl))
      case rest307 =>
      (try simp only [Act.put, List.setIfInBounds_toArray, List.set_cons_zero, List.set_cons_succ])
      refine Goes.take (i := 7) (oi := ?oi308) (x := ?vx308) ?ho308 (by kernel_rfl) (by kernel_rfl) (by kernel_rfl) (by kernel_rfl) (fun _ _ _ h => h) (Or.inl ⟨?hw308, ?hy308⟩) HS306.out ?rest308
      case ho308 => (simp only [List.getElem?_toArray, List.getElem?_cons_succ, List.getElem?_cons_zero] <;> rfl)
      case hw308 => rfl
      case hy308 => (intro w' hSw; have jX := fun o => (hSw.cell (p := ⟨bX, o, none⟩) zX).trans (kX o); have jR := fun o => (hSw.cell (p := ⟨bR, o, none⟩) zR).trans (kR o); go_simp; (try with_reducible rfl))
      case rest308 =>
      (try simp only [Act.put, List.setIfInBounds_toArray, List.set_cons_zero, List.set_cons_succ])
      refine Goes.take (i := 8) (oi := ?oi309) (x := ?vx309) ?ho309 (by kernel_rfl) (by kernel_rfl) (by kernel_rfl) (by kernel_rfl) (fun _ _ _ h => h) (Or.inl ⟨?hw309, ?hy309⟩) HS306.out ?rest309
      case ho309 => (simp only [List.getElem?_toArray, List.getElem?_cons_succ, List.getElem?_cons_zero] <;> rfl)
      case hw309 => rfl
      case hy309 => (intro w' hSw; have jX := fun o => (hSw.cell (p := ⟨bX, o, none⟩) zX).trans (kX o); have jR := fun o => (hSw.cell (p := ⟨bR, o, none⟩) zR).trans (kR o); go_simp; (try with_reducible rfl))
      case rest309 =>
      (try simp only [Act.put, List.setIfInBounds_toArray, List.set_cons_zero, List.set_cons_succ])
      refine Goes.done (by kernel_rfl) ?_ _
      refine NoPanic.normal ?_
      have HBF : Hid (Below w.heap.size w wb) := HB.out.trans (HS306.out.mono HB.out.size)
      go_wp2_with fail
      go_ret
      exact ⟨rfl, HBF.out⟩
    subst hC
    obtain ⟨y, hy, y1, y2, y3, y4⟩ := HOK.out rfl
    clear HOK HAS
    have hty : totSub y ≤ 1048576 := Nat.le_trans (sub_tot y1) (by decide)
    have HRY : Hid (∀ W, Below w3.heap.size w3 W → shSub.Rd W W.heap.size y [r0, r1, r2, r3, r4, r5, r6, r7, r8, r9, r10, r11, r12, r13, r14, r15]) := fun W h => Sh.Rd.mono h.size _ _ _ (Sh.Rd.below (s := shSub) hy (Nat.le_refl _) h)
    have HYF : Hid (∀ W, Below w3.heap.size w3 W → Calls Try.prog 33 #[.agg #[r0, r1, r2, r3, r4, r5, r6, r7, r8, r9, r10, r11, r12, r13, r14, r15]] W fun e w' => e = .returned (.int .i64 0) ∧ Below W.heap.size W w') := fun W h => by have q := iSubFaultA y #[r0, r1, r2, r3, r4, r5, r6, r7, r8, r9, r10, r11, r12, r13, r14, r15] W W.heap.size (HRY.out W h) (Nat.le_refl _) hty; rw [y1] at q; exact q
    have HYR : Hid (∀ W, Below w3.heap.size w3 W → Calls Try.prog 34 #[.agg #[r0, r1, r2, r3, r4, r5, r6, r7, r8, r9, r10, r11, r12, r13, r14, r15]] W fun e w' => e = .returned (.agg #[.int .i64 0, .int .i64 (roomV y)]) ∧ Below W.heap.size W w') := fun W h => by have q := iRoomOfA y #[r0, r1, r2, r3, r4, r5, r6, r7, r8, r9, r10, r11, r12, r13, r14, r15] W W.heap.size (HRY.out W h) (Nat.le_refl _) hty; rw [y1] at q; exact q
    obtain ⟨u0', u1', u2', u3', u4', u5', v0', v1', p2, ul', d0', d1', dl', p13, e1', e2', ua', uc', va', vc', exy, ely, -, -, -⟩ := sub_lit hy
    simp only [List.cons.injEq, and_true] at ely
    obtain ⟨-, -, -, -, -, -, -, -, er8, -, -, -, -, er13, -, -⟩ := ely
    subst er8 er13
    obtain ⟨z0', z1', z2', z3', z4', z5', x6, x7, x8, zl, x10, x11, xl, x13, x14, x15, za, zc, zb, zd, exx, elx, -, -, -⟩ := sub_lit HRDX.out
    have hA8 : A[8]? = some (.int .i64 x8) := by rw [arr_of elx]; rfl
    have hA13 : A[13]? = some (.int .i64 x13) := by rw [arr_of elx]; rfl
    have q1 : x13 ≤ p13 := by rw [exx, exy] at y2; exact y2
    have q2 : x8 ≤ p2 := by rw [exx, exy] at y4; exact y4
    have q3 : roomV x ≤ roomV y := y3
    clear exx exy elx y1 y2 y3 y4 hy hty HRY HRDX HRX
    generalize roomV x = rx at *
    generalize roomV y = ry at *
    have q4 : decide (x13 ≤ p13) = true := decide_eq_true q1
    have q5 : decide (x8 ≤ p2) = true := decide_eq_true q2
    have q6 : decide (rx ≤ ry) = true := decide_eq_true q3
    have kX8 : wa.cell? ⟨bX, 8, none⟩ = some (.int .i64 x8) := (kX 8).trans hA8
    have kX13 : wa.cell? ⟨bX, 13, none⟩ = some (.int .i64 x13) := (kX 13).trans hA13
    have HIR : Hid ((Try.prog.info? 64).map (·.size) = some ([r0, r1, r2, r3, r4, r5, r6, r7, .int .i64 p2, r9, r10, r11, r12, .int .i64 p13, r14, r15] : List Value).length) := (by kernel_rfl : (Try.prog.info? 64).map (·.size) = some 16)
    go_upto_region 12 with fail
    refine wp_region_noPanic ?_
    refine Goes.start (S := fun w' => Below wa.heap.size wa w') (z := 100) (by kernel_rfl) ?_
    refine Goes.take (i := 0) (oi := ?oi501) (x := ?vx501) ?ho501 (by kernel_rfl) (by kernel_rfl) (by kernel_rfl) (by kernel_rfl) (fun _ _ _ h => h) (Or.inl ⟨?hw501, ?hy501⟩) (Below.drew (Below.refl _ _)) ?rest501
    case ho501 => (simp only [List.getElem?_toArray, List.getElem?_cons_zero] <;> rfl)
    case hw501 => rfl
    case hy501 => (intro w' hSw; have jR := fun o => (hSw.cell (p := ⟨bR, o, none⟩) zR).trans (kR o); have jX8 := (hSw.cell (p := ⟨bX, 8, none⟩) zX).trans kX8; have jX13 := (hSw.cell (p := ⟨bX, 13, none⟩) zX).trans kX13; go_simp; (try with_reducible rfl))
    case rest501 =>
    (try simp only [Act.put, List.setIfInBounds_toArray, List.set_cons_zero, List.set_cons_succ])
    refine Goes.take (i := 1) (oi := ?oi502) (x := .agg ([r0, r1, r2, r3, r4, r5, r6, r7, .int .i64 p2, r9, r10, r11, r12, .int .i64 p13, r14, r15]).toArray) ?ho502 (by kernel_rfl) (by kernel_rfl) (by kernel_rfl) (by kernel_rfl) (fun _ _ _ h => h) ?hy502 (Below.drew (Below.refl _ _)) ?rest502
    case ho502 => (simp only [List.getElem?_toArray, List.getElem?_cons_succ, List.getElem?_cons_zero] <;> rfl)
    case hy502 => exact yieldsIf_load_mid (by rfl) 64 _ rfl (bR) (1) (by rfl) ([r0, r1, r2, r3, r4, r5, r6, r7, .int .i64 p2, r9, r10, r11, r12, .int .i64 p13, r14, r15]) _ (fun w' hSw => range_tl (fun o => (hSw.cell (p := ⟨bR, o, none⟩) zR).trans (kR o))) Try.underlying64 rfl HIR.out
    case rest502 =>
    (try simp only [Act.put, List.setIfInBounds_toArray, List.set_cons_zero, List.set_cons_succ])
    refine Goes.all (rs := [2]) (by kernel_rfl) (by simp) ?_
    refine Ups.cons (i := 2) (o := ?oo503) ?ho503 (fun KK hKK => ?stp503) Ups.nil
    case ho503 => (simp only [List.getElem?_toArray, List.getElem?_cons_succ, List.getElem?_cons_zero] <;> rfl)
    case stp503 =>
    go_simp
    go_at_call 33
    refine (HYF.out _ (D3.out.trans ((Below.drew (Below.refl _ _)).mono D3.out.size))).mono ?_
    rintro e wb ⟨rfl, hbq⟩
    replace hbq := (Below.drew (Below.refl wa.heap.size wa)).trans hbq
    have HS503 : Hid (Below wa.heap.size wa wb) := hbq
    clear hbq
    dsimp only
    refine hKK.out _ _ (Or.inr HS503.out) ?_
    clear hKK KK
    (try simp only [Act.put, List.setIfInBounds_toArray, List.set_cons_zero, List.set_cons_succ])
    refine Goes.take (i := 3) (oi := ?oi504) (x := ?vx504) ?ho504 (by kernel_rfl) (by kernel_rfl) (by kernel_rfl) (by kernel_rfl) (fun _ _ _ h => h) (Or.inl ⟨?hw504, ?hy504⟩) HS503.out ?rest504
    case ho504 => (simp only [List.getElem?_toArray, List.getElem?_cons_succ, List.getElem?_cons_zero] <;> rfl)
    case hw504 => rfl
    case hy504 => (intro w' hSw; have jR := fun o => (hSw.cell (p := ⟨bR, o, none⟩) zR).trans (kR o); have jX8 := (hSw.cell (p := ⟨bX, 8, none⟩) zX).trans kX8; have jX13 := (hSw.cell (p := ⟨bX, 13, none⟩) zX).trans kX13; go_simp; (try with_reducible rfl))
    case rest504 =>
    (try simp only [Act.put, List.setIfInBounds_toArray, List.set_cons_zero, List.set_cons_succ])
    refine Goes.take (i := 4) (oi := ?oi505) (x := ?vx505) ?ho505 (by kernel_rfl) (by kernel_rfl) (by kernel_rfl) (by kernel_rfl) (fun _ _ _ h => h) (Or.inl ⟨?hw505, ?hy505⟩) HS503.out ?rest505
    case ho505 => (simp only [List.getElem?_toArray, List.getElem?_cons_succ, List.getElem?_cons_zero] <;> rfl)
    case hw505 => rfl
    case hy505 => (intro w' hSw; have jR := fun o => (hSw.cell (p := ⟨bR, o, none⟩) zR).trans (kR o); have jX8 := (hSw.cell (p := ⟨bX, 8, none⟩) zX).trans kX8; have jX13 := (hSw.cell (p := ⟨bX, 13, none⟩) zX).trans kX13; go_simp; (try with_reducible rfl))
    case rest505 =>
    (try simp only [Act.put, List.setIfInBounds_toArray, List.set_cons_zero, List.set_cons_succ])
    refine Goes.take (i := 5) (oi := ?oi506) (x := ?vx506) ?ho506 (by kernel_rfl) (by kernel_rfl) (by kernel_rfl) (by kernel_rfl) (fun _ _ _ h => h) (Or.inl ⟨?hw506, ?hy506⟩) HS503.out ?rest506
    case ho506 => (simp only [List.getElem?_toArray, List.getElem?_cons_succ, List.getElem?_cons_zero] <;> rfl)
    case hw506 => rfl
    case hy506 => (intro w' hSw; have jR := fun o => (hSw.cell (p := ⟨bR, o, none⟩) zR).trans (kR o); have jX8 := (hSw.cell (p := ⟨bX, 8, none⟩) zX).trans kX8; have jX13 := (hSw.cell (p := ⟨bX, 13, none⟩) zX).trans kX13; go_simp; (try with_reducible rfl))
    case rest506 =>
    (try simp only [Act.put, List.setIfInBounds_toArray, List.set_cons_zero, List.set_cons_succ])
    refine Goes.take (i := 6) (oi := ?oi507) (x := ?vx507) ?ho507 (by kernel_rfl) (by kernel_rfl) (by kernel_rfl) (by kernel_rfl) (fun _ _ _ h => h) (Or.inl ⟨?hw507, ?hy507⟩) HS503.out ?rest507
    case ho507 => (simp only [List.getElem?_toArray, List.getElem?_cons_succ, List.getElem?_cons_zero] <;> rfl)
    case hw507 => rfl
    case hy507 => (intro w' hSw; have jR := fun o => (hSw.cell (p := ⟨bR, o, none⟩) zR).trans (kR o); have jX8 := (hSw.cell (p := ⟨bX, 8, none⟩) zX).trans kX8; have jX13 := (hSw.cell (p := ⟨bX, 13, none⟩) zX).trans kX13; go_simp; (try with_reducible rfl))
    case rest507 =>
    (try simp only [Act.put, List.setIfInBounds_toArray, List.set_cons_zero, List.set_cons_succ])
    refine Goes.take (i := 7) (oi := ?oi508) (x := ?vx508) ?ho508 (by kernel_rfl) (by kernel_rfl) (by kernel_rfl) (by kernel_rfl) (fun _ _ _ h => h) (Or.inl ⟨?hw508, ?hy508⟩) HS503.out ?rest508
    case ho508 => (simp only [List.getElem?_toArray, List.getElem?_cons_succ, List.getElem?_cons_zero] <;> rfl)
    case hw508 => rfl
    case hy508 => (intro w' hSw; have jR := fun o => (hSw.cell (p := ⟨bR, o, none⟩) zR).trans (kR o); have jX8 := (hSw.cell (p := ⟨bX, 8, none⟩) zX).trans kX8; have jX13 := (hSw.cell (p := ⟨bX, 13, none⟩) zX).trans kX13; go_simp; (try with_reducible rfl))
    case rest508 =>
    (try simp only [Act.put, List.setIfInBounds_toArray, List.set_cons_zero, List.set_cons_succ])
    refine Goes.take (i := 8) (oi := ?oi509) (x := ?vx509) ?ho509 (by kernel_rfl) (by kernel_rfl) (by kernel_rfl) (by kernel_rfl) (fun _ _ _ h => h) (Or.inl ⟨?hw509, ?hy509⟩) HS503.out ?rest509
    case ho509 => (simp only [List.getElem?_toArray, List.getElem?_cons_succ, List.getElem?_cons_zero] <;> rfl)
    case hw509 => rfl
    case hy509 => (intro w' hSw; have jR := fun o => (hSw.cell (p := ⟨bR, o, none⟩) zR).trans (kR o); have jX8 := (hSw.cell (p := ⟨bX, 8, none⟩) zX).trans kX8; have jX13 := (hSw.cell (p := ⟨bX, 13, none⟩) zX).trans kX13; go_simp; (try with_reducible rfl))
    case rest509 =>
    (try simp only [Act.put, List.setIfInBounds_toArray, List.set_cons_zero, List.set_cons_succ])
    refine Goes.take (i := 9) (oi := ?oi510) (x := ?vx510) ?ho510 (by kernel_rfl) (by kernel_rfl) (by kernel_rfl) (by kernel_rfl) (fun _ _ _ h => h) (Or.inl ⟨?hw510, ?hy510⟩) HS503.out ?rest510
    case ho510 => (simp only [List.getElem?_toArray, List.getElem?_cons_succ, List.getElem?_cons_zero] <;> rfl)
    case hw510 => rfl
    case hy510 => (intro w' hSw; have jR := fun o => (hSw.cell (p := ⟨bR, o, none⟩) zR).trans (kR o); have jX8 := (hSw.cell (p := ⟨bX, 8, none⟩) zX).trans kX8; have jX13 := (hSw.cell (p := ⟨bX, 13, none⟩) zX).trans kX13; go_simp; (try with_reducible rfl))
    case rest510 =>
    (try simp only [Act.put, List.setIfInBounds_toArray, List.set_cons_zero, List.set_cons_succ])
    refine Goes.take (i := 10) (oi := ?oi511) (x := ?vx511) ?ho511 (by kernel_rfl) (by kernel_rfl) (by kernel_rfl) (by kernel_rfl) (fun _ _ _ h => h) (Or.inl ⟨?hw511, ?hy511⟩) HS503.out ?rest511
    case ho511 => (simp only [List.getElem?_toArray, List.getElem?_cons_succ, List.getElem?_cons_zero] <;> rfl)
    case hw511 => rfl
    case hy511 => (intro w' hSw; have jR := fun o => (hSw.cell (p := ⟨bR, o, none⟩) zR).trans (kR o); have jX8 := (hSw.cell (p := ⟨bX, 8, none⟩) zX).trans kX8; have jX13 := (hSw.cell (p := ⟨bX, 13, none⟩) zX).trans kX13; go_simp; (try with_reducible rfl))
    case rest511 =>
    (try simp only [Act.put, List.setIfInBounds_toArray, List.set_cons_zero, List.set_cons_succ])
    refine Goes.take (i := 11) (oi := ?oi512) (x := ?vx512) ?ho512 (by kernel_rfl) (by kernel_rfl) (by kernel_rfl) (by kernel_rfl) (fun _ _ _ h => h) (Or.inl ⟨?hw512, ?hy512⟩) HS503.out ?rest512
    case ho512 => (simp only [List.getElem?_toArray, List.getElem?_cons_succ, List.getElem?_cons_zero] <;> rfl)
    case hw512 => rfl
    case hy512 => (intro w' hSw; have jR := fun o => (hSw.cell (p := ⟨bR, o, none⟩) zR).trans (kR o); have jX8 := (hSw.cell (p := ⟨bX, 8, none⟩) zX).trans kX8; have jX13 := (hSw.cell (p := ⟨bX, 13, none⟩) zX).trans kX13; go_simp; (try with_reducible rfl))
    case rest512 =>
    (try simp only [Act.put, List.setIfInBounds_toArray, List.set_cons_zero, List.set_cons_succ])
    refine Goes.take (i := 12) (oi := ?oi513) (x := ?vx513) ?ho513 (by kernel_rfl) (by kernel_rfl) (by kernel_rfl) (by kernel_rfl) (fun _ _ _ h => h) (Or.inl ⟨?hw513, ?hy513⟩) HS503.out ?rest513
    case ho513 => (simp only [List.getElem?_toArray, List.getElem?_cons_succ, List.getElem?_cons_zero] <;> rfl)
    case hw513 => rfl
    case hy513 => (intro w' hSw; have jR := fun o => (hSw.cell (p := ⟨bR, o, none⟩) zR).trans (kR o); have jX8 := (hSw.cell (p := ⟨bX, 8, none⟩) zX).trans kX8; have jX13 := (hSw.cell (p := ⟨bX, 13, none⟩) zX).trans kX13; go_simp; (try with_reducible rfl))
    case rest513 =>
    (try simp only [Act.put, List.setIfInBounds_toArray, List.set_cons_zero, List.set_cons_succ])
    refine Goes.take (i := 13) (oi := ?oi514) (x := ?vx514) ?ho514 (by kernel_rfl) (by kernel_rfl) (by kernel_rfl) (by kernel_rfl) (fun _ _ _ h => h) (Or.inl ⟨?hw514, ?hy514⟩) HS503.out ?rest514
    case ho514 => (simp only [List.getElem?_toArray, List.getElem?_cons_succ, List.getElem?_cons_zero] <;> rfl)
    case hw514 => rfl
    case hy514 => (intro w' hSw; have jR := fun o => (hSw.cell (p := ⟨bR, o, none⟩) zR).trans (kR o); have jX8 := (hSw.cell (p := ⟨bX, 8, none⟩) zX).trans kX8; have jX13 := (hSw.cell (p := ⟨bX, 13, none⟩) zX).trans kX13; go_simp; (try with_reducible rfl))
    case rest514 =>
    (try simp only [Act.put, List.setIfInBounds_toArray, List.set_cons_zero, List.set_cons_succ])
    refine Goes.take (i := 14) (oi := ?oi515) (x := ?vx515) ?ho515 (by kernel_rfl) (by kernel_rfl) (by kernel_rfl) (by kernel_rfl) (fun _ _ _ h => h) (Or.inl ⟨?hw515, ?hy515⟩) HS503.out ?rest515
    case ho515 => (simp only [List.getElem?_toArray, List.getElem?_cons_succ, List.getElem?_cons_zero] <;> rfl)
    case hw515 => rfl
    case hy515 => (intro w' hSw; have jR := fun o => (hSw.cell (p := ⟨bR, o, none⟩) zR).trans (kR o); have jX8 := (hSw.cell (p := ⟨bX, 8, none⟩) zX).trans kX8; have jX13 := (hSw.cell (p := ⟨bX, 13, none⟩) zX).trans kX13; go_simp; (try with_reducible rfl))
    case rest515 =>
    (try simp only [Act.put, List.setIfInBounds_toArray, List.set_cons_zero, List.set_cons_succ])
    refine Goes.take (i := 15) (oi := ?oi516) (x := ?vx516) ?ho516 (by kernel_rfl) (by kernel_rfl) (by kernel_rfl) (by kernel_rfl) (fun _ _ _ h => h) (Or.inl ⟨?hw516, ?hy516⟩) HS503.out ?rest516
    case ho516 => (simp only [List.getElem?_toArray, List.getElem?_cons_succ, List.getElem?_cons_zero] <;> rfl)
    case hw516 => rfl
    case hy516 => (intro w' hSw; have jR := fun o => (hSw.cell (p := ⟨bR, o, none⟩) zR).trans (kR o); have jX8 := (hSw.cell (p := ⟨bX, 8, none⟩) zX).trans kX8; have jX13 := (hSw.cell (p := ⟨bX, 13, none⟩) zX).trans kX13; go_simp; (try with_reducible rfl))
    case rest516 =>
    (try simp only [Act.put, List.setIfInBounds_toArray, List.set_cons_zero, List.set_cons_succ])
    refine Goes.take (i := 16) (oi := ?oi517) (x := .agg ([r0, r1, r2, r3, r4, r5, r6, r7, .int .i64 p2, r9, r10, r11, r12, .int .i64 p13, r14, r15]).toArray) ?ho517 (by kernel_rfl) (by kernel_rfl) (by kernel_rfl) (by kernel_rfl) (fun _ _ _ h => h) ?hy517 HS503.out ?rest517
    case ho517 => (simp only [List.getElem?_toArray, List.getElem?_cons_succ, List.getElem?_cons_zero] <;> rfl)
    case hy517 => exact yieldsIf_load_mid (by rfl) 64 _ rfl (bR) (1) (by rfl) ([r0, r1, r2, r3, r4, r5, r6, r7, .int .i64 p2, r9, r10, r11, r12, .int .i64 p13, r14, r15]) _ (fun w' hSw => range_tl (fun o => (hSw.cell (p := ⟨bR, o, none⟩) zR).trans (kR o))) Try.underlying64 rfl HIR.out
    case rest517 =>
    (try simp only [Act.put, List.setIfInBounds_toArray, List.set_cons_zero, List.set_cons_succ])
    refine Goes.take (i := 19) (oi := ?oi518) (x := .agg (A.toList).toArray) ?ho518 (by kernel_rfl) (by kernel_rfl) (by kernel_rfl) (by kernel_rfl) (fun _ _ _ h => h) ?hy518 HS503.out ?rest518
    case ho518 => (simp only [List.getElem?_toArray, List.getElem?_cons_succ, List.getElem?_cons_zero] <;> rfl)
    case hy518 => exact yieldsIf_load_mid (by rfl) 64 _ rfl (bX) (0) (by rfl) (A.toList) _ (fun w' hSw => bx_range (fun o => (hSw.cell (p := ⟨bX, o, none⟩) zX).trans (kX o))) Try.underlying64 rfl HAL.out
    case rest518 =>
    (try simp only [Act.put, List.setIfInBounds_toArray, List.set_cons_zero, List.set_cons_succ])
    refine Goes.all (rs := [17]) (by kernel_rfl) (by simp) ?_
    refine Ups.cons (i := 17) (o := ?oo519) ?ho519 (fun KK hKK => ?stp519) Ups.nil
    case ho519 => (simp only [List.getElem?_toArray, List.getElem?_cons_succ, List.getElem?_cons_zero] <;> rfl)
    case stp519 =>
    go_simp
    go_at_call 34
    refine (HYR.out _ (D3.out.trans (HS503.out.mono D3.out.size))).mono ?_
    rintro e wc ⟨rfl, hbq⟩
    replace hbq := HS503.out.trans (hbq.mono HS503.out.size)
    have HS519 : Hid (Below wa.heap.size wa wc) := hbq
    clear hbq
    dsimp only
    refine hKK.out _ _ (Or.inr HS519.out) ?_
    clear hKK KK
    (try simp only [Act.put, List.setIfInBounds_toArray, List.set_cons_zero, List.set_cons_succ])
    refine Goes.take (i := 18) (oi := ?oi520) (x := ?vx520) ?ho520 (by kernel_rfl) (by kernel_rfl) (by kernel_rfl) (by kernel_rfl) (fun _ _ _ h => h) (Or.inl ⟨?hw520, ?hy520⟩) HS519.out ?rest520
    case ho520 => (simp only [List.getElem?_toArray, List.getElem?_cons_succ, List.getElem?_cons_zero] <;> rfl)
    case hw520 => rfl
    case hy520 => (intro w' hSw; have jR := fun o => (hSw.cell (p := ⟨bR, o, none⟩) zR).trans (kR o); have jX8 := (hSw.cell (p := ⟨bX, 8, none⟩) zX).trans kX8; have jX13 := (hSw.cell (p := ⟨bX, 13, none⟩) zX).trans kX13; go_simp; (try with_reducible rfl))
    case rest520 =>
    (try simp only [Act.put, List.setIfInBounds_toArray, List.set_cons_zero, List.set_cons_succ])
    refine Goes.all (rs := [20]) (by kernel_rfl) (by simp) ?_
    refine Ups.cons (i := 20) (o := ?oo521) ?ho521 (fun KK hKK => ?stp521) Ups.nil
    case ho521 => (simp only [List.getElem?_toArray, List.getElem?_cons_succ, List.getElem?_cons_zero] <;> rfl)
    case stp521 =>
    go_simp
    go_at_call 34
    refine (HRM.out _ (D1.out.trans (HS519.out.mono D1.out.size))).mono ?_
    rintro e wd ⟨rfl, hbq⟩
    replace hbq := HS519.out.trans (hbq.mono HS519.out.size)
    have HS521 : Hid (Below wa.heap.size wa wd) := hbq
    clear hbq
    dsimp only
    refine hKK.out _ _ (Or.inr HS521.out) ?_
    clear hKK KK
    (try simp only [Act.put, List.setIfInBounds_toArray, List.set_cons_zero, List.set_cons_succ])
    refine Goes.take (i := 21) (oi := ?oi522) (x := ?vx522) ?ho522 (by kernel_rfl) (by kernel_rfl) (by kernel_rfl) (by kernel_rfl) (fun _ _ _ h => h) (Or.inl ⟨?hw522, ?hy522⟩) HS521.out ?rest522
    case ho522 => (simp only [List.getElem?_toArray, List.getElem?_cons_succ, List.getElem?_cons_zero] <;> rfl)
    case hw522 => rfl
    case hy522 => (intro w' hSw; have jR := fun o => (hSw.cell (p := ⟨bR, o, none⟩) zR).trans (kR o); have jX8 := (hSw.cell (p := ⟨bX, 8, none⟩) zX).trans kX8; have jX13 := (hSw.cell (p := ⟨bX, 13, none⟩) zX).trans kX13; go_simp; (try with_reducible rfl))
    case rest522 =>
    (try simp only [Act.put, List.setIfInBounds_toArray, List.set_cons_zero, List.set_cons_succ])
    refine Goes.take (i := 22) (oi := ?oi523) (x := ?vx523) ?ho523 (by kernel_rfl) (by kernel_rfl) (by kernel_rfl) (by kernel_rfl) (fun _ _ _ h => h) (Or.inl ⟨?hw523, ?hy523⟩) HS521.out ?rest523
    case ho523 => (simp only [List.getElem?_toArray, List.getElem?_cons_succ, List.getElem?_cons_zero] <;> rfl)
    case hw523 => rfl
    case hy523 => (intro w' hSw; have jR := fun o => (hSw.cell (p := ⟨bR, o, none⟩) zR).trans (kR o); have jX8 := (hSw.cell (p := ⟨bX, 8, none⟩) zX).trans kX8; have jX13 := (hSw.cell (p := ⟨bX, 13, none⟩) zX).trans kX13; go_simp; (try with_reducible rfl))
    case rest523 =>
    (try simp only [Act.put, List.setIfInBounds_toArray, List.set_cons_zero, List.set_cons_succ])
    refine Goes.take (i := 23) (oi := ?oi524) (x := ?vx524) ?ho524 (by kernel_rfl) (by kernel_rfl) (by kernel_rfl) (by kernel_rfl) (fun _ _ _ h => h) (Or.inl ⟨?hw524, ?hy524⟩) HS521.out ?rest524
    case ho524 => (simp only [List.getElem?_toArray, List.getElem?_cons_succ, List.getElem?_cons_zero] <;> rfl)
    case hw524 => rfl
    case hy524 => (intro w' hSw; have jR := fun o => (hSw.cell (p := ⟨bR, o, none⟩) zR).trans (kR o); have jX8 := (hSw.cell (p := ⟨bX, 8, none⟩) zX).trans kX8; have jX13 := (hSw.cell (p := ⟨bX, 13, none⟩) zX).trans kX13; go_simp; (try with_reducible rfl))
    case rest524 =>
    (try simp only [Act.put, List.setIfInBounds_toArray, List.set_cons_zero, List.set_cons_succ])
    refine Goes.take (i := 24) (oi := ?oi525) (x := ?vx525) ?ho525 (by kernel_rfl) (by kernel_rfl) (by kernel_rfl) (by kernel_rfl) (fun _ _ _ h => h) (Or.inl ⟨?hw525, ?hy525⟩) HS521.out ?rest525
    case ho525 => (simp only [List.getElem?_toArray, List.getElem?_cons_succ, List.getElem?_cons_zero] <;> rfl)
    case hw525 => rfl
    case hy525 => (intro w' hSw; have jR := fun o => (hSw.cell (p := ⟨bR, o, none⟩) zR).trans (kR o); have jX8 := (hSw.cell (p := ⟨bX, 8, none⟩) zX).trans kX8; have jX13 := (hSw.cell (p := ⟨bX, 13, none⟩) zX).trans kX13; go_simp; (try with_reducible rfl))
    case rest525 =>
    (try simp only [Act.put, List.setIfInBounds_toArray, List.set_cons_zero, List.set_cons_succ])
    refine Goes.take (i := 25) (oi := ?oi526) (x := ?vx526) ?ho526 (by kernel_rfl) (by kernel_rfl) (by kernel_rfl) (by kernel_rfl) (fun _ _ _ h => h) (Or.inl ⟨?hw526, ?hy526⟩) HS521.out ?rest526
    case ho526 => (simp only [List.getElem?_toArray, List.getElem?_cons_succ, List.getElem?_cons_zero] <;> rfl)
    case hw526 => rfl
    case hy526 => (intro w' hSw; have jR := fun o => (hSw.cell (p := ⟨bR, o, none⟩) zR).trans (kR o); have jX8 := (hSw.cell (p := ⟨bX, 8, none⟩) zX).trans kX8; have jX13 := (hSw.cell (p := ⟨bX, 13, none⟩) zX).trans kX13; go_simp; (try with_reducible rfl))
    case rest526 =>
    (try simp only [Act.put, List.setIfInBounds_toArray, List.set_cons_zero, List.set_cons_succ])
    refine Goes.take (i := 26) (oi := ?oi527) (x := ?vx527) ?ho527 (by kernel_rfl) (by kernel_rfl) (by kernel_rfl) (by kernel_rfl) (fun _ _ _ h => h) (Or.inl ⟨?hw527, ?hy527⟩) HS521.out ?rest527
    case ho527 => (simp only [List.getElem?_toArray, List.getElem?_cons_succ, List.getElem?_cons_zero] <;> rfl)
    case hw527 => rfl
    case hy527 => (intro w' hSw; have jR := fun o => (hSw.cell (p := ⟨bR, o, none⟩) zR).trans (kR o); have jX8 := (hSw.cell (p := ⟨bX, 8, none⟩) zX).trans kX8; have jX13 := (hSw.cell (p := ⟨bX, 13, none⟩) zX).trans kX13; go_simp; (try with_reducible rfl))
    case rest527 =>
    (try simp only [Act.put, List.setIfInBounds_toArray, List.set_cons_zero, List.set_cons_succ])
    refine Goes.take (i := 27) (oi := ?oi528) (x := ?vx528) ?ho528 (by kernel_rfl) (by kernel_rfl) (by kernel_rfl) (by kernel_rfl) (fun _ _ _ h => h) (Or.inl ⟨?hw528, ?hy528⟩) HS521.out ?rest528
    case ho528 => (simp only [List.getElem?_toArray, List.getElem?_cons_succ, List.getElem?_cons_zero] <;> rfl)
    case hw528 => rfl
    case hy528 => (intro w' hSw; have jR := fun o => (hSw.cell (p := ⟨bR, o, none⟩) zR).trans (kR o); have jX8 := (hSw.cell (p := ⟨bX, 8, none⟩) zX).trans kX8; have jX13 := (hSw.cell (p := ⟨bX, 13, none⟩) zX).trans kX13; go_simp; (try with_reducible rfl))
    case rest528 =>
    (try simp only [Act.put, List.setIfInBounds_toArray, List.set_cons_zero, List.set_cons_succ])
    refine Goes.take (i := 28) (oi := ?oi529) (x := ?vx529) ?ho529 (by kernel_rfl) (by kernel_rfl) (by kernel_rfl) (by kernel_rfl) (fun _ _ _ h => h) (Or.inl ⟨?hw529, ?hy529⟩) HS521.out ?rest529
    case ho529 => (simp only [List.getElem?_toArray, List.getElem?_cons_succ, List.getElem?_cons_zero] <;> rfl)
    case hw529 => rfl
    case hy529 => (intro w' hSw; have jR := fun o => (hSw.cell (p := ⟨bR, o, none⟩) zR).trans (kR o); have jX8 := (hSw.cell (p := ⟨bX, 8, none⟩) zX).trans kX8; have jX13 := (hSw.cell (p := ⟨bX, 13, none⟩) zX).trans kX13; go_simp; (try with_reducible rfl))
    case rest529 =>
    (try simp only [Act.put, List.setIfInBounds_toArray, List.set_cons_zero, List.set_cons_succ])
    refine Goes.take (i := 29) (oi := ?oi530) (x := ?vx530) ?ho530 (by kernel_rfl) (by kernel_rfl) (by kernel_rfl) (by kernel_rfl) (fun _ _ _ h => h) (Or.inl ⟨?hw530, ?hy530⟩) HS521.out ?rest530
    case ho530 => (simp only [List.getElem?_toArray, List.getElem?_cons_succ, List.getElem?_cons_zero] <;> rfl)
    case hw530 => rfl
    case hy530 => (intro w' hSw; have jR := fun o => (hSw.cell (p := ⟨bR, o, none⟩) zR).trans (kR o); have jX8 := (hSw.cell (p := ⟨bX, 8, none⟩) zX).trans kX8; have jX13 := (hSw.cell (p := ⟨bX, 13, none⟩) zX).trans kX13; go_simp; (try with_reducible rfl))
    case rest530 =>
    (try simp only [Act.put, List.setIfInBounds_toArray, List.set_cons_zero, List.set_cons_succ])
    refine Goes.take (i := 30) (oi := ?oi531) (x := ?vx531) ?ho531 (by kernel_rfl) (by kernel_rfl) (by kernel_rfl) (by kernel_rfl) (fun _ _ _ h => h) (Or.inl ⟨?hw531, ?hy531⟩) HS521.out ?rest531
    case ho531 => (simp only [List.getElem?_toArray, List.getElem?_cons_succ, List.getElem?_cons_zero] <;> rfl)
    case hw531 => rfl
    case hy531 => (intro w' hSw; have jR := fun o => (hSw.cell (p := ⟨bR, o, none⟩) zR).trans (kR o); have jX8 := (hSw.cell (p := ⟨bX, 8, none⟩) zX).trans kX8; have jX13 := (hSw.cell (p := ⟨bX, 13, none⟩) zX).trans kX13; go_simp; (try with_reducible rfl))
    case rest531 =>
    (try simp only [Act.put, List.setIfInBounds_toArray, List.set_cons_zero, List.set_cons_succ])
    refine Goes.take (i := 31) (oi := ?oi532) (x := ?vx532) ?ho532 (by kernel_rfl) (by kernel_rfl) (by kernel_rfl) (by kernel_rfl) (fun _ _ _ h => h) (Or.inl ⟨?hw532, ?hy532⟩) HS521.out ?rest532
    case ho532 => (simp only [List.getElem?_toArray, List.getElem?_cons_succ, List.getElem?_cons_zero] <;> rfl)
    case hw532 => rfl
    case hy532 => (intro w' hSw; have jR := fun o => (hSw.cell (p := ⟨bR, o, none⟩) zR).trans (kR o); have jX8 := (hSw.cell (p := ⟨bX, 8, none⟩) zX).trans kX8; have jX13 := (hSw.cell (p := ⟨bX, 13, none⟩) zX).trans kX13; go_simp; (try with_reducible rfl))
    case rest532 =>
    (try simp only [Act.put, List.setIfInBounds_toArray, List.set_cons_zero, List.set_cons_succ])
    refine Goes.take (i := 32) (oi := ?oi533) (x := ?vx533) ?ho533 (by kernel_rfl) (by kernel_rfl) (by kernel_rfl) (by kernel_rfl) (fun _ _ _ h => h) (Or.inl ⟨?hw533, ?hy533⟩) HS521.out ?rest533
    case ho533 => (simp only [List.getElem?_toArray, List.getElem?_cons_succ, List.getElem?_cons_zero] <;> rfl)
    case hw533 => rfl
    case hy533 => (intro w' hSw; have jR := fun o => (hSw.cell (p := ⟨bR, o, none⟩) zR).trans (kR o); have jX8 := (hSw.cell (p := ⟨bX, 8, none⟩) zX).trans kX8; have jX13 := (hSw.cell (p := ⟨bX, 13, none⟩) zX).trans kX13; go_simp; (try with_reducible rfl))
    case rest533 =>
    (try simp only [Act.put, List.setIfInBounds_toArray, List.set_cons_zero, List.set_cons_succ])
    refine Goes.take (i := 33) (oi := ?oi534) (x := ?vx534) ?ho534 (by kernel_rfl) (by kernel_rfl) (by kernel_rfl) (by kernel_rfl) (fun _ _ _ h => h) (Or.inl ⟨?hw534, ?hy534⟩) HS521.out ?rest534
    case ho534 => (simp only [List.getElem?_toArray, List.getElem?_cons_succ, List.getElem?_cons_zero] <;> rfl)
    case hw534 => rfl
    case hy534 => (intro w' hSw; have jR := fun o => (hSw.cell (p := ⟨bR, o, none⟩) zR).trans (kR o); have jX8 := (hSw.cell (p := ⟨bX, 8, none⟩) zX).trans kX8; have jX13 := (hSw.cell (p := ⟨bX, 13, none⟩) zX).trans kX13; go_simp; (try with_reducible rfl))
    case rest534 =>
    (try simp only [Act.put, List.setIfInBounds_toArray, List.set_cons_zero, List.set_cons_succ])
    refine Goes.take (i := 34) (oi := ?oi535) (x := ?vx535) ?ho535 (by kernel_rfl) (by kernel_rfl) (by kernel_rfl) (by kernel_rfl) (fun _ _ _ h => h) (Or.inl ⟨?hw535, ?hy535⟩) HS521.out ?rest535
    case ho535 => (simp only [List.getElem?_toArray, List.getElem?_cons_succ, List.getElem?_cons_zero] <;> rfl)
    case hw535 => rfl
    case hy535 => (intro w' hSw; have jR := fun o => (hSw.cell (p := ⟨bR, o, none⟩) zR).trans (kR o); have jX8 := (hSw.cell (p := ⟨bX, 8, none⟩) zX).trans kX8; have jX13 := (hSw.cell (p := ⟨bX, 13, none⟩) zX).trans kX13; go_simp; (try with_reducible rfl))
    case rest535 =>
    (try simp only [Act.put, List.setIfInBounds_toArray, List.set_cons_zero, List.set_cons_succ])
    refine Goes.done (by kernel_rfl) ?_ _
    refine NoPanic.normal ?_
    have HBF : Hid (Below w.heap.size w wd) := HB.out.trans (HS521.out.mono HB.out.size)
    go_wp2_with fail
    go_ret
    exact ⟨rfl, HBF.out⟩

set_option maxRecDepth 100000 in
theorem lifted (os : Os) (started : os.Started) (H : Type) (enc : TypeId × Value → H) :
    ReturnsInHanded {} Try.checked os 6 .any (Rows.fnSubsSpec.pre6 enc Try.prog Try.f6 Rows.fnSubsRow.domain false) (Rows.fnSubsSpec.post enc Try.prog Try.f6 false true false false) := by
  refine returnsInHanded_of_change (C := Try.checked) own started (by kernel_rfl) Try.func6
    (ChangeSpec.witness6 (enc := enc) (C := Try.checked) false ⟨#[], #[.slice none 0 0], []⟩ 8 (by kernel_rfl) (by kernel_rfl) (by kernel_rfl) (by kernel_rfl)) ?_
  intro W base args ds gs before hval0 hW hcnd _
  have hval : ∀ (j : Nat) t v, Try.f6.params[j]? = some t → args[j]? = some v → Value.okWide Try.prog W .any base t v := hval0
  have hW' := hW
  obtain ⟨p, q, hA0, hV, rfl, hfz, hnd⟩ := hW
  have hA : DataW.TrodAll enc Try.prog W 0 (fun _ => true) true Try.f6.params.toList args.toList ds p := hA0
  rw [Try.params6] at hA hval
  obtain ⟨v0, vs0, d0, ds0, p0, q0, hargs, rfl, rfl, h0, r0⟩ := trodAll_cons hA
  obtain ⟨rfl, rfl, rfl⟩ := trodAll_nil r0
  obtain rfl : args = #[v0] := by cases args; simp_all
  obtain ⟨rfl, rfl⟩ := trodVars_none hV
  obtain ⟨a0, len0, cap0, rfl⟩ := okWide_slice Try.underlying22 (hval 0 22 v0 rfl rfl)
  have k0 := h0
  have lt0 : ∀ x ∈ p0, x.block < W.heap.size := by obtain ⟨m, hm⟩ := k0; exact DataW.trod_lt m _ _ _ hm
  obtain ⟨z0, w0⟩ : ∃ zs, IsRow .u8 W a0 len0 cap0 zs := by
    obtain ⟨fuel, hf⟩ := h0
    rcases open_ints Try.underlying22 Try.underlying5 (by kernel_rfl) hf with ⟨hcs, _⟩ | ⟨x, l, c, zs, hcs, _, hl, hm, hz, _, hcell, hwz⟩
    · simp [Value.cells] at hcs
      obtain ⟨rfl, rfl, rfl⟩ := hcs
      exact ⟨[], .inl ⟨rfl, rfl, rfl, rfl⟩⟩
    · simp [Value.cells] at hcs
      obtain ⟨rfl, rfl, rfl⟩ := hcs
      exact ⟨zs, .inr ⟨_, rfl, hl, hm, by simpa using hz, hcell, hwz⟩⟩
  clear hA0 hval0
  refine (walk a0 len0 cap0 z0 W w0).mono fun e W' ⟨he, bel⟩ => ?_
  subst he
  exact ⟨_, rfl, _, _, _, [], _, [], hW', trodAll_mk1 (shut_bool Try.underlying4 _), (trodAll_cons_mk (Below.trod laidOut (by kernel_rfl) (of_decide_eq_true (by kernel_rfl)) k0 bel lt0) trodAll_mk0), rfl, bel.frame _, fun h => by cases h⟩

theorem over : Rows.fnSubsRow.holds Try.pinned (OpenSpec.ofChange Rows.fnSubsSpec) :=
  OpenClaim.holds_of_wide 6 Try.f6 rfl rfl rfl rfl rfl rfl rfl ⟨rfl, rfl, rfl, rfl, rfl⟩ rfl rfl rfl rfl rfl (by kernel_rfl) Try.func6 (by kernel_rfl)
    (of_decide_eq_true (by kernel_rfl)) (by unfold Func.isWrapper; first | (rw [if_pos (by decide +kernel)]; kernel_rfl) | (rw [if_neg (by decide +kernel)]; exact ⟨rfl, rfl⟩))
    (fun os started H enc _ => lifted os started H enc)

theorem proved : Rows.FnSubsSaid := over
#print axioms proved
end Go.Proofs.Ytebgibjokljlbaa.fnSubs

namespace Go.Proofs.Ytebgibjokljlbaa
theorem fnSubs_holds : Rows.FnSubsSaid := fnSubs.proved
end Go.Proofs.Ytebgibjokljlbaa
