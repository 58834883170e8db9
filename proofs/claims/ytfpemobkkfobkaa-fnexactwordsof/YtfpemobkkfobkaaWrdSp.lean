/- What the model's WordsOf makes of a line: its words, a slice of its own; nothing that was in memory turns; no condition but on the line's length. -/
import Derived.Test.YtfpemobkkfobkaaRows
import Derived.Test.YtfpemobkkfobkaaBase
import Derived.Test.YtfpemobkkfobkaaBytes
import Derived.Test.YtfpemobkkfobkaaStrRow
import Derived.Test.YtfpemobkkfobkaaWrdDef
import Derived.Test.YtfpemobkkfobkaaBox
namespace Go.Proofs.Ytfpemobkkfobkaa
open Go.RowKit
set_option linter.unusedVariables false

set_option maxHeartbeats 1000000 in
theorem sCut (s : ByteArray) (c : Int) (w : World) (hn : s.size ≤ 1048576) (hc0 : 0 ≤ c) (hc1 : c ≤ 255) :
    Calls Try.prog 23 #[.string s, .int .u8 c] w fun e w' => ∃ v, e = .returned v ∧ OT w' w.heap.size v (cutR s c s.size 0) ∧ Below w.heap.size w w' := by
  go_enter Try.func23, Try.ntmps23
  go_wp2
  go_loopw [5, 6, 7] (fun v f i wr => ∃ (k q : Nat) (L : List ByteArray), i = .int .i64 k ∧ f = .int .i64 q ∧ q ≤ k ∧ OT wr w.heap.size v L ∧ Hid (Below w.heap.size w wr) ∧ Hid (L.length ≤ k) ∧ ((k ≤ s.size ∧ Hid (L ++ cutR s c (s.size - k) q = cutR s c s.size 0)) ∨ (k = s.size + 1 ∧ Hid (L = cutR s c s.size 0)))) (fun _ _ i _ => s.size + 1 - (intOf i).toNat)
  case atStart => exact ⟨0, 0, [], rfl, rfl, Nat.le_refl _, ⟨World.ownsRow_made w #[] 0 (Nat.le_refl _) (by decide) rfl⟩, (Below.refl _ _).alloc (Nat.le_refl _) _, Nat.le_refl 0, Or.inl ⟨Nat.zero_le _, rfl⟩⟩
  case round =>
    obtain ⟨k, q, L, rfl, rfl, hq, ho, hb, hL, hR⟩ := hrel
    rcases hR with ⟨hk, hR⟩ | ⟨rfl, hR⟩
    · have hsz := hb.out.size
      by_cases hlt : k < s.size
      · have hi := run_at s k hlt
        have hsl := run_cut s q k hq (by omega)
        have hbd := byteAt_bd s k
        have hks : ((k : Int) == (s.size : Int)) = false := by simp; omega
        by_cases he : byteAt s k = c
        · have HR : Hid ((L ++ [s.extract q k]) ++ cutR s c (s.size - (k + 1)) (k + 1) = cutR s c s.size 0) := by
            have h := hR.out; rw [cutR_at hlt, if_pos he] at h; exact (by simp : _ = _).trans h
          clear hR
          generalize byteAt s k = x at *
          generalize s.extract q k = y at *
          subst he
          go_wp2_with (at_builtin; refine app_t1 wr rfl _ _ rfl w.heap.size u5 _ (by rfl) ho _ (by rfl) (by have := hL.out; omega) hsz ?_; intro v' w5 ho5 hb5)
          go_roundw
          case rel => exact ⟨k + 1, k + 1, _, by go_num, by go_num, Nat.le_refl _, ho5, hb.out.trans hb5, by have := hL.out; simp; omega, Or.inl ⟨by omega, HR.out⟩⟩
          case measure => simp [intOf] <;> omega
        · have HR : Hid (L ++ cutR s c (s.size - (k + 1)) q = cutR s c s.size 0) := by
            have h := hR.out; rw [cutR_at hlt, if_neg he] at h; exact h
          clear hR hsl
          have HO : Hid _ := ho
          clear ho
          generalize byteAt s k = x at *
          have hne : (x == c) = false := by simp [he]
          go_wp2
          go_roundw
          case rel => exact ⟨k + 1, q, L, by go_num, rfl, by omega, HO.out, hb.out, Nat.le_succ_of_le hL.out, Or.inl ⟨by omega, HR.out⟩⟩
          case measure => simp [intOf] <;> omega
      · obtain rfl : k = s.size := by omega
        have hsl := run_cut s q s.size hq (Nat.le_refl _)
        have HR : Hid (L ++ [s.extract q s.size] = cutR s c s.size 0) := by
          have h := hR.out; rw [Nat.sub_self] at h; exact h
        clear hR
        generalize s.extract q s.size = y at *
        go_wp2_with (at_builtin; refine app_t1 wr rfl _ _ rfl w.heap.size u5 _ (by rfl) ho _ (by rfl) (by have := hL.out; omega) hsz ?_; intro v' w5 ho5 hb5)
        go_roundw
        case rel => exact ⟨s.size + 1, s.size + 1, _, by go_num, by go_num, Nat.le_refl _, ho5, hb.out.trans hb5, by have := hL.out; simp; omega, Or.inr ⟨rfl, HR.out⟩⟩
        case measure => simp [intOf] <;> omega
    · have hgt : ¬ ((s.size + 1 : Nat) : Int) ≤ (s.size : Int) := by omega
      have HO : Hid (OT wr w.heap.size u5 (cutR s c s.size 0)) := by have h := ho; rw [hR.out] at h; exact h
      clear ho hR hL
      go_wp2
      go_ret
      exact ⟨_, rfl, HO.out, hb.out⟩
theorem full_ne {x : ByteArray} (h : full x = true) : x.toList.isEmpty = false := by
  rw [ByteArray.toList_eq]
  rcases x with ⟨⟨l⟩⟩
  cases l with
  | nil => simp [full, ByteArray.size] at h
  | cons y l => rfl
theorem full_no {x : ByteArray} (h : ¬ full x = true) : x.toList.isEmpty = true := by
  rw [ByteArray.toList_eq]
  rcases x with ⟨⟨l⟩⟩
  cases l with
  | nil => rfl
  | cons y l => simp [full, ByteArray.size] at h
set_option maxHeartbeats 1000000 in
theorem sWords (s : ByteArray) (w : World) (hn : s.size ≤ 1048576) :
    Calls Try.prog 17 #[.string s] w fun e w' => ∃ v, e = .returned v ∧ OT w' w.heap.size v (wrdL s) ∧ Below w.heap.size w w' := by
  have hsc : Hid (∀ W, Calls Try.prog 23 #[.string s, .int .u8 32] W fun e w' => ∃ v, e = .returned v ∧ OT w' W.heap.size v (cutR s 32 s.size 0) ∧ Below W.heap.size W w') := fun W => sCut s 32 W hn (by decide) (by decide)
  have hcl := cutR_len s 32 s.size 0
  have hW : wrdL s = (cutR s 32 s.size 0).filter full := by unfold wrdL wrdR; rw [Nat.sub_zero]
  rw [hW]
  have HL : Hid ((cutR s 32 s.size 0).length ≤ 1048577) := Nat.le_trans hcl (by omega)
  clear hW hcl
  generalize cutR s 32 s.size 0 = C at *
  go_enter Try.func17, Try.ntmps17
  go_wp2_with fail
  refine (hsc.out _).mono ?_
  rintro e w1 ⟨v1, rfl, ho1, hb1⟩
  obtain ⟨a1, c1, rfl, hr1⟩ := ho1.rt
  clear hsc
  have hO0 : OT w1 w.heap.size (.slice (some ⟨w.heap.size, 0, none⟩) 0 0) ((C.take 0).filter full) := (⟨World.ownsRow_made w #[] 0 (Nat.le_refl _) (by decide) rfl⟩ : OT (w.alloc (.cells #[] 9)) w.heap.size (.slice (some ⟨w.heap.size, 0, none⟩) 0 0) []).below (Nat.le_refl _) hb1
  have hB0 : Hid (Below w.heap.size w w1) := ((Below.refl _ _).alloc (Nat.le_refl _) _).trans (hb1.mono (by simp))
  have hA0 : Hid (∀ b off, a1 = some ⟨b, off, none⟩ → b ≠ w.heap.size) := fun b off e e2 => by
    subst e
    have := (ho1.own.lt b rfl).1
    simp at this; omega
  clear ho1
  have hR0 : Hid (RT w1 a1 C) := hr1
  clear hr1 hb1
  generalize hN : C.length = N at *
  go_wp2_with fail
  go_loopw [3, 5] (fun v i wr => ∃ k : Nat, k ≤ N ∧ i = .int .i64 k ∧ OT wr w.heap.size v ((C.take k).filter full) ∧ Hid (Below w.heap.size w wr) ∧ Hid (RT wr a1 C) ∧ Hid (∀ b off, a1 = some ⟨b, off, none⟩ → v.ownBlock ≠ some b)) (fun _ i _ => N - (intOf i).toNat)
  case atStart => exact ⟨0, Nat.zero_le _, rfl, hO0, hB0, hR0, fun b off e e2 => hA0.out b off e (by simpa [Value.ownBlock] using e2.symm)⟩
  case round =>
    clear hO0 hB0 hR0 hA0
    obtain ⟨k, hk, rfl, ho, hb, hR, hA⟩ := hrel
    have hN2 := HL.out
    by_cases hlt : k < N
    · rcases hR.out.mem with e | ⟨b, off, rfl, hc⟩
      · subst e; simp at hN; omega
      · have hsz := hb.out.size
        have ck := hc k (by omega)
        have hlw := cell_lt ck
        have hll : Hid (((C.take k).filter full).length ≤ 100000000) := Nat.le_trans (List.length_filter_le _ _) (by rw [List.length_take]; have := HL.out; omega)
        have hbk : Hid (u3.ownBlock ≠ some b) := hA.out b off rfl
        have HT : Hid ((C.take (k + 1)).filter full = (C.take k).filter full ++ [C[k]].filter full) := by
          show _ = _
          rw [List.take_succ_eq_append_getElem (by omega), List.filter_append]
        clear hc hA
        generalize C[k] = x at *
        by_cases hf : full x = true
        · have hne : x.toList.isEmpty = false := full_ne hf
          have HT2 : Hid ((C.take (k + 1)).filter full = (C.take k).filter full ++ [x]) := HT.out.trans (by rw [List.filter_cons, hf]; rfl)
          clear HT hf
          go_wp2_with (at_builtin; refine app_t2 wr rfl _ _ rfl w.heap.size u3 _ (by rfl) ho _ (by rfl) hll.out hsz ?_; intro v' w5 ho5 hb5 hk5)
          go_roundw
          case rel =>
            obtain ⟨q1, q2⟩ := hk5 b hlw hbk.out
            exact ⟨k + 1, by omega, by go_num, by rw [HT2.out]; exact ho5, hb.out.trans hb5, hR.out.keep q1, fun b' off' e => by simp only [Option.some.injEq, Addr.mk.injEq, and_true] at e; obtain ⟨rfl, -⟩ := e; exact q2⟩
          case measure => simp [intOf]; omega
        · have hne : x.toList.isEmpty = true := full_no hf
          have HT2 : Hid ((C.take (k + 1)).filter full = (C.take k).filter full) := HT.out.trans (by rw [List.filter_cons, if_neg hf]; simp)
          have HO : Hid _ := ho
          clear HT hf ho
          go_wp2
          go_roundw
          case rel => exact ⟨k + 1, by omega, by go_num, by rw [HT2.out]; exact HO.out, hb.out, hR.out, fun b' off' e => by simp only [Option.some.injEq, Addr.mk.injEq, and_true] at e; obtain ⟨rfl, -⟩ := e; exact hbk.out⟩
          case measure => simp [intOf]; omega
    · obtain rfl : k = N := by omega
      have HO : Hid (OT wr w.heap.size u3 (C.filter full)) := by have h := ho; rw [List.take_of_length_le (by omega)] at h; exact h
      clear ho hR hA
      go_wp2
      go_ret
      exact ⟨_, rfl, HO.out, hb.out⟩
end Go.Proofs.Ytfpemobkkfobkaa
