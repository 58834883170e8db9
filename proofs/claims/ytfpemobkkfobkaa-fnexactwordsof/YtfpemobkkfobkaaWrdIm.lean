/- What the program's own WordsOf makes of a line: its words, a slice of its own; nothing that was in memory turns; no condition but on the line's length. Written by mkwrd.py. -/
import Derived.Test.YtfpemobkkfobkaaRows
import Derived.Test.YtfpemobkkfobkaaBase
import Derived.Test.YtfpemobkkfobkaaBytes
import Derived.Test.YtfpemobkkfobkaaStrRow
import Derived.Test.YtfpemobkkfobkaaWrdDef
import Derived.Test.YtfpemobkkfobkaaWrdClo
import Derived.Test.YtfpemobkkfobkaaBox
import Derived.Deep.DeepCutAuto
import Derived.Deep.RegionHeld3
namespace Go.Proofs.Ytfpemobkkfobkaa
open Go.RowKit
set_option linter.unusedVariables false

/-- What holds where the walk stands between words (label 0) or within one (label 1). -/
def WJ (s : ByteArray) (w : World) : Nat → Act → World → Prop := fun l a' wr =>
  ∃ (k q : Nat) (L : List ByteArray) (v x4 u5 u6 u7 u8 u9 u10 u11 u12 u13 u14 u15 u16 u17 u18 u19 u20 u21 u22 u23 u24 u25 u26 u27 u28 u29 u30 u31 u32 u33 u34 u35 u36 u37 u38 u39 : Value), a' = { tmps := #[.string s, undef, .slice none 0 0, v, x4, u5, u6, u7, u8, u9, u10, u11, u12, u13, u14, u15, u16, u17, u18, u19, u20, u21, u22, u23, u24, u25, u26, u27, u28, u29, u30, u31, u32, u33, u34, u35, u36, u37, u38, u39], defers := [] } ∧ x4 = .int .i64 k ∧ k ≤ s.size ∧ OT wr w.heap.size v L ∧ Hid (Below w.heap.size w wr) ∧ L.length ≤ k ∧
    ((l = 0 ∧ Hid (L ++ wrdR s k k = wrdL s)) ∨ (l = 1 ∧ u5 = .int .i64 q ∧ q < k ∧ L.length ≤ q ∧ Hid (L ++ wrdR s k q = wrdL s)))
def WM (s : ByteArray) : Nat → Act → World → Nat := fun l a' _ => 2 * (s.size - (intOf (a'.tmps.getD 4 undef)).toNat) + l
set_option maxHeartbeats 8000000 in
set_option maxRecDepth 8000 in
theorem iWordsIn (s : ByteArray) (w : World) (hn : s.size ≤ 1048576) :
    Calls Try.prog 18 #[.string s] w fun e w' => ∃ v, e = .returned v ∧ OT w' w.heap.size v (wrdL s) ∧ Below w.heap.size w w' := by
  go_enter Try.func18, Try.ntmps18
  go_wp2
  refine wp_scope_labels (WJ s w) (WM s) ?hf ?first ?pass
  case hf =>
    rintro l a' w' ⟨_, _, _, _, _, _, _, _, _, _, _, _, _, _, _, _, _, _, _, _, _, _, _, _, _, _, _, _, _, _, _, _, _, _, _, _, _, _, _, _, _, _, _, _, _, _, ⟨rfl, _⟩ | ⟨rfl, _⟩⟩
    · exact ⟨_, rfl⟩
    · exact ⟨_, rfl⟩
  case first =>
    have ho0 : OT w w.heap.size (.slice none 0 0) ([] : List ByteArray) := ⟨⟨rfl, Or.inl ⟨rfl, rfl⟩⟩⟩
    have hb : Hid (Below w.heap.size w w) := Below.refl _ _
    obtain ⟨k, hk0⟩ : ∃ k : Nat, k = 0 := ⟨0, rfl⟩
    obtain ⟨L, hL0⟩ : ∃ L : List ByteArray, L = [] := ⟨[], rfl⟩
    have ho : OT w w.heap.size (.slice none 0 0) L := by subst hL0; exact ho0
    clear ho0
    have hR : Hid (L ++ wrdR s k k = wrdL s) := by subst hk0 hL0; rfl
    have hL : L.length ≤ k := by subst hL0; simp
    have hk : k ≤ s.size := by omega
    go_wp2
    go_step3
    have e0 : (0 : Int) = (k : Int) := by subst hk0; rfl
    rw [e0]
    clear e0 hk0 hL0
    by_cases hend : k = s.size
    · have HO : Hid (OT w w.heap.size (.slice none 0 0) (wrdL s)) := by
        have h := hR.out; rw [hend, wrd_end, List.append_nil] at h; rw [← h]; exact ho
      have hd0 : ((k : Int) == (s.size : Int)) = true := by simp; omega
      clear ho hR
      go_wp2
      simp only [Exit.jumps]
      go_ret
      exact ⟨_, rfl, HO.out, hb.out⟩
    · have hlt : k < s.size := by omega
      have hd0 : ((k : Int) == (s.size : Int)) = false := by simp; omega
      have hi := run_at s k hlt
      have hsp := run_sp
      have hbd := byteAt_bd s k
      by_cases hbl : byteAt s k = 32
      · have hR2 : Hid (L ++ wrdR s (k + 1) (k + 1) = wrdL s) := (by rw [← wrd_blank hlt hbl] : L ++ wrdR s (k + 1) (k + 1) = L ++ wrdR s k k).trans hR.out
        rw [hbl] at hi
        clear hR hbl hbd
        have HO : Hid _ := ho
        clear ho
        go_wp2_with (go_quiet (fail))
        have hdr : Below w.heap.size w (w.drewN nq) := below_drewN (Below.refl _ _) nq
        generalize w.drewN nq = wy at *
        have ho := HO.out.below (Nat.le_refl _) hdr
        replace hb : Hid (Below w.heap.size w wy) := hb.out.trans (hdr.mono hb.out.size)
        clear HO hdr
        (try go_step3)
        exact ⟨k + 1, 0, L, _, _, _, _, _, _, _, _, _, _, _, _, _, _, _, _, _, _, _, _, _, _, _, _, _, _, _, _, _, _, _, _, _, _, _, _, _, rfl, by go_num, by omega, ho, hb, by omega, Or.inl ⟨rfl, hR2⟩⟩
      · have hne := hbl
        have hd1 : (byteAt s k == 32) = false := by simpa using hne
        have HO : Hid _ := ho
        clear ho
        go_wp2_with (go_quiet (fail))
        have hdr : Below w.heap.size w (w.drewN nq) := below_drewN (Below.refl _ _) nq
        generalize w.drewN nq = wy at *
        have ho := HO.out.below (Nat.le_refl _) hdr
        replace hb : Hid (Below w.heap.size w wy) := hb.out.trans (hdr.mono hb.out.size)
        clear HO hdr
        clear hbl hd1 hi hsp hbd
        go_step3
        go_wp2
        have hi := run_at s k hlt
        have hsp := run_sp
        have hbd := byteAt_bd s k
        have hR2 : Hid (L ++ wrdR s (k + 1) k = wrdL s) := (by rw [← wrd_in hlt hne] : L ++ wrdR s (k + 1) k = L ++ wrdR s k k).trans hR.out
        clear hR
        have hd1 : (byteAt s k == 32) = false := by simpa using hne
        have hd2 : (byteAt s k != 32) = true := by simpa using hne
        have hd3 : decide ((k : Int) < (s.size : Int)) = true := by simp; omega
        generalize byteAt s k = x at *
        have HO : Hid _ := ho
        clear ho
        go_wp2_with (go_quiet (fail))
        have hdr : Below wy.heap.size wy (wy.drewN nq) := below_drewN (Below.refl _ _) nq
        generalize wy.drewN nq = wz at *
        have ho := HO.out.below (Nat.le_refl _) hdr
        replace hb : Hid (Below w.heap.size w wz) := hb.out.trans (hdr.mono hb.out.size)
        clear HO hdr
        (try go_step3)
        exact ⟨k + 1, k, L, _, _, _, _, _, _, _, _, _, _, _, _, _, _, _, _, _, _, _, _, _, _, _, _, _, _, _, _, _, _, _, _, _, _, _, _, _, rfl, by go_num, by omega, ho, hb, by omega, Or.inr ⟨rfl, rfl, by omega, by omega, hR2⟩⟩
  case pass =>
    rintro l rest a' wr ⟨k, q, L, v, x4, u5, u6, u7, u8, u9, u10, u11, u12, u13, u14, u15, u16, u17, u18, u19, u20, u21, u22, u23, u24, u25, u26, u27, u28, u29, u30, u31, u32, u33, u34, u35, u36, u37, u38, u39, rfl, rfl, hk, ho, hb, hL, hcase⟩ hfl
    rcases hcase with ⟨rfl, hR⟩ | ⟨rfl, rfl, hqk, hLq, hR⟩
    · obtain rfl := Option.some.inj hfl
      clear hfl
      by_cases hend : k = s.size
      · have HO : Hid (OT wr w.heap.size v (wrdL s)) := by
          have h := hR.out; rw [hend, wrd_end, List.append_nil] at h; rw [← h]; exact ho
        have hd0 : ((k : Int) == (s.size : Int)) = true := by simp; omega
        clear ho hR
        go_wp2
        simp only [Exit.jumps]
        go_ret
        exact ⟨_, rfl, HO.out, hb.out⟩
      · have hlt : k < s.size := by omega
        have hd0 : ((k : Int) == (s.size : Int)) = false := by simp; omega
        have hi := run_at s k hlt
        have hsp := run_sp
        have hbd := byteAt_bd s k
        by_cases hbl : byteAt s k = 32
        · have hR2 : Hid (L ++ wrdR s (k + 1) (k + 1) = wrdL s) := (by rw [← wrd_blank hlt hbl] : L ++ wrdR s (k + 1) (k + 1) = L ++ wrdR s k k).trans hR.out
          rw [hbl] at hi
          clear hR hbl hbd
          have HO : Hid _ := ho
          clear ho
          go_wp2_with (go_quiet (fail))
          have hdr : Below wr.heap.size wr (wr.drewN nq) := below_drewN (Below.refl _ _) nq
          generalize wr.drewN nq = wy at *
          have ho := HO.out.below (Nat.le_refl _) hdr
          replace hb : Hid (Below w.heap.size w wy) := hb.out.trans (hdr.mono hb.out.size)
          clear HO hdr
          (try go_step3)
          refine ⟨⟨k + 1, 0, L, _, _, _, _, _, _, _, _, _, _, _, _, _, _, _, _, _, _, _, _, _, _, _, _, _, _, _, _, _, _, _, _, _, _, _, _, _, rfl, by go_num, by omega, ho, hb, by omega, Or.inl ⟨rfl, hR2⟩⟩, ?_⟩
          have hw1 : wrap64 ((k : Int) + 1) = (k : Int) + 1 := by unfold wrap64; omega
          simp [WM, intOf] <;> omega
        · have hne := hbl
          have hd1 : (byteAt s k == 32) = false := by simpa using hne
          have HO : Hid _ := ho
          clear ho
          go_wp2_with (go_quiet (fail))
          have hdr : Below wr.heap.size wr (wr.drewN nq) := below_drewN (Below.refl _ _) nq
          generalize wr.drewN nq = wy at *
          have ho := HO.out.below (Nat.le_refl _) hdr
          replace hb : Hid (Below w.heap.size w wy) := hb.out.trans (hdr.mono hb.out.size)
          clear HO hdr
          clear hbl hd1 hi hsp hbd
          go_step3
          go_wp2
          have hi := run_at s k hlt
          have hsp := run_sp
          have hbd := byteAt_bd s k
          have hR2 : Hid (L ++ wrdR s (k + 1) k = wrdL s) := (by rw [← wrd_in hlt hne] : L ++ wrdR s (k + 1) k = L ++ wrdR s k k).trans hR.out
          clear hR
          have hd1 : (byteAt s k == 32) = false := by simpa using hne
          have hd2 : (byteAt s k != 32) = true := by simpa using hne
          have hd3 : decide ((k : Int) < (s.size : Int)) = true := by simp; omega
          generalize byteAt s k = x at *
          have HO : Hid _ := ho
          clear ho
          go_wp2_with (go_quiet (fail))
          have hdr : Below wy.heap.size wy (wy.drewN nq) := below_drewN (Below.refl _ _) nq
          generalize wy.drewN nq = wz at *
          have ho := HO.out.below (Nat.le_refl _) hdr
          replace hb : Hid (Below w.heap.size w wz) := hb.out.trans (hdr.mono hb.out.size)
          clear HO hdr
          (try go_step3)
          refine ⟨⟨k + 1, k, L, _, _, _, _, _, _, _, _, _, _, _, _, _, _, _, _, _, _, _, _, _, _, _, _, _, _, _, _, _, _, _, _, _, _, _, _, _, rfl, by go_num, by omega, ho, hb, by omega, Or.inr ⟨rfl, rfl, by omega, by omega, hR2⟩⟩, ?_⟩
          have hw1 : wrap64 ((k : Int) + 1) = (k : Int) + 1 := by unfold wrap64; omega
          simp [WM, intOf] <;> omega
    · obtain rfl := Option.some.inj hfl
      clear hfl
      replace hL := hLq
      by_cases hin : k < s.size ∧ byteAt s k ≠ 32
      · obtain ⟨hlt, hne⟩ := hin
        have hi := run_at s k hlt
        have hsp := run_sp
        have hbd := byteAt_bd s k
        have hR2 : Hid (L ++ wrdR s (k + 1) q = wrdL s) := (by rw [← wrd_in hlt hne] : L ++ wrdR s (k + 1) q = L ++ wrdR s k q).trans hR.out
        clear hR
        have hd1 : (byteAt s k == 32) = false := by simpa using hne
        have hd2 : (byteAt s k != 32) = true := by simpa using hne
        have hd3 : decide ((k : Int) < (s.size : Int)) = true := by simp; omega
        generalize byteAt s k = x at *
        have HO : Hid _ := ho
        clear ho
        go_wp2_with (go_quiet (fail))
        have hdr : Below wr.heap.size wr (wr.drewN nq) := below_drewN (Below.refl _ _) nq
        generalize wr.drewN nq = wz at *
        have ho := HO.out.below (Nat.le_refl _) hdr
        replace hb : Hid (Below w.heap.size w wz) := hb.out.trans (hdr.mono hb.out.size)
        clear HO hdr
        (try go_step3)
        refine ⟨⟨k + 1, q, L, _, _, _, _, _, _, _, _, _, _, _, _, _, _, _, _, _, _, _, _, _, _, _, _, _, _, _, _, _, _, _, _, _, _, _, _, _, rfl, by go_num, by omega, ho, hb, by omega, Or.inr ⟨rfl, rfl, by omega, by omega, hR2⟩⟩, ?_⟩
        have hw1 : wrap64 ((k : Int) + 1) = (k : Int) + 1 := by unfold wrap64; omega
        simp [WM, intOf] <;> omega
      · have hout := hin
        clear hin
        have hsl := run_cut s q k (by omega) hk
        have hR2 : Hid ((L ++ [s.extract q k]) ++ wrdR s k k = wrdL s) := by
          have h := hR.out
          by_cases hlt : k < s.size
          · have he : byteAt s k = 32 := by apply Classical.byContradiction; intro hne; exact hout ⟨hlt, hne⟩
            rw [wrd_word hlt hqk he] at h; exact (List.append_assoc _ _ _).trans h
          · obtain rfl : k = s.size := by omega
            rw [wrd_last hqk] at h; exact (List.append_assoc _ _ _).trans h
        have hcl := fun W => lCloneS (s.extract q k) W (by rw [size_ext _ _ _ hk]; omega)
        clear hR
        generalize s.extract q k = y at *
        have HCL : Hid _ := hcl
        clear hcl
        by_cases hlt : k < s.size
        · have he : byteAt s k = 32 := by apply Classical.byContradiction; intro hne; exact hout ⟨hlt, hne⟩
          have hi := run_at s k hlt
          have hsp := run_sp
          rw [he] at hi
          have hd3 : decide ((k : Int) < (s.size : Int)) = true := by simp; omega
          clear he hout
          have HO : Hid _ := ho
          clear ho
          go_wp2_with (go_quiet (fail))
          have hdr : Below wr.heap.size wr (wr.drewN nq) := below_drewN (Below.refl _ _) nq
          generalize wr.drewN nq = wz at *
          have ho := HO.out.below (Nat.le_refl _) hdr
          replace hb : Hid (Below w.heap.size w wz) := hb.out.trans (hdr.mono hb.out.size)
          clear HO hdr
          have hsz := hb.out.size
          go_wp2_with fail
          refine (HCL.out _).mono ?_
          rintro e w2 ⟨rfl, hb2⟩
          have ho2 := ho.below (Nat.le_refl _) hb2
          have hb3 : Hid (Below w.heap.size w w2) := hb.out.trans (hb2.mono hsz)
          have hz2 : w.heap.size ≤ w2.heap.size := hb3.out.size
          clear hb2 ho hb HCL
          go_wp2_with (at_builtin; refine app_t1 w2 rfl _ _ rfl w.heap.size v _ (by rfl) ho2 y (by rfl) (by omega) hz2 ?_; intro v' w5 ho5 hb5)
          (try go_step3)
          refine ⟨⟨k, 0, (L ++ [y]), _, _, _, _, _, _, _, _, _, _, _, _, _, _, _, _, _, _, _, _, _, _, _, _, _, _, _, _, _, _, _, _, _, _, _, _, _, rfl, by go_num, by omega, ho5, hb3.out.trans hb5, by simp; omega, Or.inl ⟨rfl, hR2⟩⟩, ?_⟩
          have hw1 : wrap64 ((k : Int) + 1) = (k : Int) + 1 := by unfold wrap64; omega
          simp [WM, intOf] <;> omega
        · have hd3 : decide ((k : Int) < (s.size : Int)) = false := by simp; omega
          clear hout
          have HO : Hid _ := ho
          clear ho
          go_wp2_with (go_quiet (fail))
          have hdr : Below wr.heap.size wr (wr.drewN nq) := below_drewN (Below.refl _ _) nq
          generalize wr.drewN nq = wz at *
          have ho := HO.out.below (Nat.le_refl _) hdr
          replace hb : Hid (Below w.heap.size w wz) := hb.out.trans (hdr.mono hb.out.size)
          clear HO hdr
          have hsz := hb.out.size
          go_wp2_with fail
          refine (HCL.out _).mono ?_
          rintro e w2 ⟨rfl, hb2⟩
          have ho2 := ho.below (Nat.le_refl _) hb2
          have hb3 : Hid (Below w.heap.size w w2) := hb.out.trans (hb2.mono hsz)
          have hz2 : w.heap.size ≤ w2.heap.size := hb3.out.size
          clear hb2 ho hb HCL
          go_wp2_with (at_builtin; refine app_t1 w2 rfl _ _ rfl w.heap.size v _ (by rfl) ho2 y (by rfl) (by omega) hz2 ?_; intro v' w5 ho5 hb5)
          (try go_step3)
          refine ⟨⟨k, 0, (L ++ [y]), _, _, _, _, _, _, _, _, _, _, _, _, _, _, _, _, _, _, _, _, _, _, _, _, _, _, _, _, _, _, _, _, _, _, _, _, _, rfl, by go_num, by omega, ho5, hb3.out.trans hb5, by simp; omega, Or.inl ⟨rfl, hR2⟩⟩, ?_⟩
          have hw1 : wrap64 ((k : Int) + 1) = (k : Int) + 1 := by unfold wrap64; omega
          simp [WM, intOf] <;> omega
end Go.Proofs.Ytfpemobkkfobkaa
