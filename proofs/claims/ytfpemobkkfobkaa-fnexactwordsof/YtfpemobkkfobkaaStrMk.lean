/- The law's own helpers over slices of strings: compared, marked, held against the marks; no condition but on lengths. -/
import Derived.Test.YtfpemobkkfobkaaRows
import Derived.Test.YtfpemobkkfobkaaBase
import Derived.Test.YtfpemobkkfobkaaBytes
import Derived.Test.YtfpemobkkfobkaaStrRow
import Derived.Test.YtfpemobkkfobkaaBox
import Derived.Deep.DeepCutAuto
import Derived.Deep.RegionHeld3
import Derived.Laws.BytesArg
namespace Go.Proofs.Ytfpemobkkfobkaa
open Go.RowKit
set_option linter.unusedVariables false

set_option maxHeartbeats 1000000 in
theorem lEqStrS (a b : Option Addr) (cap cap' : Nat) (l : List ByteArray) (w : World) (ha : RT w a l) (hb : RT w b l) (hn : l.length ≤ 1073741824) :
    Calls Try.prog 19 #[.slice a l.length cap, .slice b l.length cap'] w fun e w' => e = .returned (.bool true) ∧ Below w.heap.size w w' := by
  generalize hN : l.length = N at *
  go_enter Try.func19, Try.ntmps19
  go_wp2
  go_loopw [5] (fun i wr => ∃ k : Nat, k ≤ N ∧ i = .int .i64 k ∧ Hid (Below w.heap.size w wr)) (fun i _ => N - (intOf i).toNat)
  case atStart => exact ⟨0, Nat.zero_le _, rfl, Below.refl _ _⟩
  case round =>
    obtain ⟨k, hk, rfl, hbw⟩ := hrel
    by_cases hlt : k < N
    · rcases ha.mem with e | ⟨b1, o1, rfl, h1⟩
      · subst e; simp at hN; omega
      · rcases hb.mem with e | ⟨b2, o2, rfl, h2⟩
        · subst e; simp at hN; omega
        · have c1 := (hbw.out.cell (p := ⟨b1, o1 + k, none⟩) (cell_lt (h1 k (by omega)))).trans (h1 k (by omega))
          have c2 := (hbw.out.cell (p := ⟨b2, o2 + k, none⟩) (cell_lt (h2 k (by omega)))).trans (h2 k (by omega))
          clear h1 h2 ha hb
          generalize l[k] = x at *
          clear hN
          go_wp2_with (go_quiet (fail))
          have hdr : Below wr.heap.size wr (wr.drewN nq) := below_drewN (Below.refl _ _) nq
          go_roundw
          case rel => exact ⟨k + 1, by omega, by go_num, hbw.out.trans (hdr.mono hbw.out.size)⟩
          case measure => simp [intOf]; omega
    · obtain rfl : k = N := by omega
      clear ha hb
      go_wp2
      go_ret
      exact ⟨rfl, hbw.out⟩
/-- The digits of j ahead of o. -/
def mtxL (j : Nat) (o : ByteArray) : ByteArray := if h : j = 0 then o else mtxL (j / 10) (strOfNums [48 + (j : Int) % 10] ++ o)
termination_by j
decreasing_by omega
theorem mtxL_0 (o : ByteArray) : mtxL 0 o = o := by rw [mtxL, dif_pos rfl]
theorem mtxL_s {j : Nat} (o : ByteArray) (h : 0 < j) : mtxL j o = mtxL (j / 10) (strOfNums [48 + (j : Int) % 10] ++ o) := by rw [mtxL, dif_neg (by omega)]
/-- The text of a mark. -/
def mtx (k : Int) : ByteArray := { data := #[109] } ++ mtxL k.toNat { data := #[] }
set_option maxHeartbeats 1000000 in
theorem lMarkText (k : Nat) (w : World) (h0 : 0 < k) (h1 : k ≤ 1099511627776) :
    Calls Try.prog 25 #[.int .i64 k] w fun e w' => e = .returned (.string (mtx k)) ∧ Below w.heap.size w w' := by
  have hcv : ∀ (x : Int) (W : World), (convert 22 9 (.slice (some ⟨W.heap.size, 0, none⟩) 1 1)).run Try.prog (W.alloc (.cells #[.int .u8 x] 5)) = .ok (.string (strOfNums [x])) (W.alloc (.cells #[.int .u8 x] 5)) := fun x W => by
    refine run_convert_bytes_arg (W.alloc (.cells #[.int .u8 x] 5)) _ _ Try.underlying22 Try.underlying5 W.heap.size 0 1 1 [x] rfl ?_ _ Try.underlying9
    intro i hi
    obtain rfl : i = 0 := by omega
    simp
  have hM : Hid (∀ o, o = mtxL k { data := #[] } → { data := #[109] } ++ o = mtx k) := fun o h => by rw [h]; rfl
  go_enter Try.func25, Try.ntmps25
  go_wp2
  rw [show decide (k = 0) = false from decide_eq_false (by omega)]
  go_loopw [0, 3] (fun t v wr => ∃ (j : Nat) (o : ByteArray), t = .int .i64 j ∧ v = .string o ∧ o.size + j ≤ k ∧ Hid (mtxL j o = mtxL k { data := #[] }) ∧ Hid (Below w.heap.size w wr)) (fun t _ _ => (intOf t).toNat)
  case atStart => exact ⟨k, { data := #[] }, rfl, rfl, Nat.le_of_eq (Nat.zero_add _), rfl, Below.refl _ _⟩
  case round =>
    obtain ⟨j, o, rfl, rfl, hj, hR, hb⟩ := hrel
    by_cases hz : 0 < j
    · have hR2 : Hid (mtxL (j / 10) (strOfNums [48 + (j : Int) % 10] ++ o) = mtxL k { data := #[] }) := (mtxL_s o hz).symm.trans hR.out
      have hs1 : (strOfNums [48 + (j : Int) % 10]).size = 1 := strOfNums_size _
      have hs2 : ¬ 9223372036854775807 < 1 + o.size := by omega
      clear hR
      go_wp2
      go_roundw
      case rel => exact ⟨j / 10, _, by go_num, rfl, by rw [ByteArray.size_append, hs1]; omega, hR2, (hb.out.alloc hb.out.size _)⟩
      case measure => simp [intOf]; omega
    · obtain rfl : j = 0 := by omega
      have hR2 : Hid (o = mtxL k { data := #[] }) := (mtxL_0 o).symm.trans hR.out
      have hs2 : ¬ 9223372036854775807 < 1 + o.size := by omega
      have hm : { data := #[109] } ++ o = mtx k := hM.out o hR2.out
      clear hR hM
      go_wp2
      go_ret
      exact ⟨rfl, hb.out⟩
/-- The marks of n strings from c on. -/
def marksT (c : Nat) (n : Nat) : List ByteArray := (List.range n).map fun (i : Nat) => mtx ((c + i : Nat) : Int)
theorem marksT_length (c n : Nat) : (marksT c n).length = n := by simp [marksT]
theorem marksT_at (c n i : Nat) (h : i < (marksT c n).length) : (marksT c n)[i] = mtx ((c + i : Nat) : Int) := by simp [marksT]
theorem marksT_succ (c n : Nat) : marksT c (n + 1) = marksT c n ++ [mtx ((c + n : Nat) : Int)] := by simp [marksT, List.range_succ]
theorem set_markT {l : List ByteArray} {c : Nat} {k : Nat} (hk : k < l.length) : (marksT c k ++ l.drop k).set k (mtx ((c + k : Nat) : Int)) = marksT c (k + 1) ++ l.drop (k + 1) := by
  have h1 := marksT_length c k
  rw [List.set_append_right _ _ (by omega), h1, Nat.sub_self, List.drop_eq_getElem_cons hk, List.set_cons_zero, marksT_succ, List.append_assoc]
  rfl
set_option maxHeartbeats 1000000 in
theorem lHeldStrS (a : Option Addr) (cap c n : Nat) (w : World) (ha : RT w a (marksT c n)) (hn : n ≤ 1073741824) (hc0 : 0 < c) (hc1 : c ≤ 1073741824) :
    Calls Try.prog 21 #[.slice a n cap, .int .i64 c] w fun e w' => e = .returned (.int .i64 ((c + n : Nat) : Int)) ∧ Below w.heap.size w w' := by
  go_enter Try.func21, Try.ntmps21
  go_wp2
  go_loopw [1, 5] (fun t i wr => ∃ k : Nat, k ≤ n ∧ i = .int .i64 k ∧ t = .int .i64 ((c + k : Nat) : Int) ∧ Hid (Below w.heap.size w wr)) (fun _ i _ => n - (intOf i).toNat)
  case atStart => exact ⟨0, Nat.zero_le _, rfl, rfl, Below.refl _ _⟩
  case round =>
    obtain ⟨k, hk, rfl, rfl, hbw⟩ := hrel
    by_cases hlt : k < n
    · rcases ha.mem with e | ⟨b1, o1, rfl, h1⟩
      · have := marksT_length c n; rw [e] at this; simp at this; omega
      · have c1 := (hbw.out.cell (p := ⟨b1, o1 + k, none⟩) (cell_lt (h1 k (by rw [marksT_length]; omega)))).trans (h1 k (by rw [marksT_length]; omega))
        have hlw := cell_lt c1
        rw [marksT_at] at c1
        have hT : Hid (∀ W, Calls Try.prog 25 #[.int .i64 ((c + k : Nat) : Int)] W fun e w' => e = .returned (.string (mtx ((c + k : Nat) : Int))) ∧ Below W.heap.size W w') := fun W => lMarkText (c + k) W (by omega) (by omega)
        clear h1 ha
        have hcc : ((c + k : Nat) : Int) ≤ 2147483648 := by omega
        have hcc2 : 0 ≤ ((c + k : Nat) : Int) := by omega
        have he1 : ((c + (k + 1) : Nat) : Int) = ((c + k : Nat) : Int) + 1 := by omega
        generalize mtx ((c + k : Nat) : Int) = x at *
        rw [show ((c + k : Nat) : Int) = ((c + k : Nat) : Int) from rfl] at *
        generalize ((c + k : Nat) : Int) = z at *
        go_wp2_with fail
        go_region_with (go_at_call 25; refine (hT.out _).mono ?_; rintro e w2 ⟨rfl, hb2⟩; have c2 := (hb2.cell (p := ⟨b1, o1 + k, none⟩) hlw).trans c1; have hb3 : Hid (Below w.heap.size w w2) := hbw.out.trans (((Below.refl _ _).drew.trans hb2).mono hbw.out.size); clear hb2)
        all_goals (go_wp2_with fail; go_roundw)
        all_goals (first | exact ⟨k + 1, by omega, by go_num, by first | rw [he1] | (rw [he1]; go_num), hb3⟩ | (simp [intOf]; omega))
    · obtain rfl : k = n := by omega
      clear ha
      go_wp2
      go_ret
      exact ⟨rfl, hbw.out⟩
set_option maxHeartbeats 1000000 in
theorem lMarkStrS (base g cap c n : Nat) (l : List ByteArray) (w : World) (hl : l.length = n) (ho : OT w base (.slice (some ⟨g, 0, none⟩) n cap) l) (hbs : base ≤ w.heap.size) (hn : n ≤ 1073741824) (hc0 : 0 < c) (hc1 : c ≤ 1073741824) :
    Calls Try.prog 20 #[.slice (some ⟨g, 0, none⟩) n cap, .int .i64 c] w fun e w' => e = .returned (.int .i64 ((c + n : Nat) : Int)) ∧ OT w' base (.slice (some ⟨g, 0, none⟩) n cap) (marksT c n) ∧ w.grownBy w' (some g) := by
  go_enter Try.func20, Try.ntmps20
  go_wp2
  go_loopw [1, 5] (fun t i wr => ∃ k : Nat, k ≤ n ∧ i = .int .i64 k ∧ t = .int .i64 ((c + k : Nat) : Int) ∧ wr.ownsRow base 9 1 (.slice (some ⟨g, 0, none⟩) n cap) n ((marksT c k ++ l.drop k).map Value.string) ∧ w.grownBy wr (some g)) (fun _ i _ => n - (intOf i).toNat)
  case atStart => exact ⟨0, Nat.zero_le _, rfl, rfl, by have := ho.own; rw [hl] at this; exact this, World.grownBy.refl _ _⟩
  case round =>
    obtain ⟨k, hk, rfl, rfl, hown, hgr⟩ := hrel
    by_cases hlt : k < n
    · have hT : Hid (∀ W, Calls Try.prog 25 #[.int .i64 ((c + k : Nat) : Int)] W fun e w' => e = .returned (.string (mtx ((c + k : Nat) : Int))) ∧ Below W.heap.size W w') := fun W => lMarkText (c + k) W (by omega) (by omega)
      have HO : Hid _ := hown
      have HG : Hid _ := hgr
      clear hown hgr ho
      have hcc : ((c + k : Nat) : Int) ≤ 2147483648 := by omega
      have hcc2 : 0 ≤ ((c + k : Nat) : Int) := by omega
      have he1 : ((c + (k + 1) : Nat) : Int) = ((c + k : Nat) : Int) + 1 := by omega
      obtain ⟨x, hx⟩ : ∃ x, x = mtx ((c + k : Nat) : Int) := ⟨_, rfl⟩
      rw [← hx] at hT
      have HX : Hid _ := hx
      clear hx
      obtain ⟨z, hz⟩ : ∃ z, z = ((c + k : Nat) : Int) := ⟨_, rfl⟩
      rw [← hz] at hT hcc hcc2 he1 ⊢
      clear hz
      go_wp2_with fail
      refine (hT.out _).mono ?_
      rintro e w2 ⟨rfl, hb2⟩
      have hown : w2.ownsRow base 9 1 (.slice (some ⟨g, 0, none⟩) n cap) n ((marksT c k ++ l.drop k).map Value.string) := ((⟨by have h := HO.out; have e : (marksT c k ++ l.drop k).length = n := (by simp [marksT_length]; omega); rw [e]; exact h⟩ : OT wr base (.slice (some ⟨g, 0, none⟩) n cap) (marksT c k ++ l.drop k)).below (Nat.le_refl _) hb2).own |> fun h => by have e : (marksT c k ++ l.drop k).length = n := (by simp [marksT_length]; omega); rw [e] at h; exact h
      have hgr : w.grownBy w2 (some g) := ⟨hb2.os.trans HG.out.os, hb2.tape.trans HG.out.tape, hb2.output.trans HG.out.output, Nat.le_trans HG.out.size hb2.size, fun j hj hne => (hb2.block j (Nat.lt_of_lt_of_le hj HG.out.size)).trans (HG.out.block j hj hne)⟩
      have hst := hown.stored k (.string x)
      have hfz := hown.frozenAt k
      obtain ⟨old, hold⟩ : ∃ old, w2.cell? ⟨g, k, none⟩ = some old := by
        rw [hown.cellAt k (by omega)]
        exact ⟨_, List.getElem?_eq_getElem (by simp [marksT_length]; omega)⟩
      have R : Hid ((w2.setCell ⟨g, k, none⟩ (.string x)).ownsRow base 9 1 (.slice (some ⟨g, 0, none⟩) n cap) n ((marksT c (k + 1) ++ l.drop (k + 1)).map Value.string)) := by
        have := hst.1
        rw [← List.map_set, HX.out, set_markT (by omega)] at this
        rw [← HX.out] at this
        exact this
      have R2 : Hid (w.grownBy (w2.setCell ⟨g, k, none⟩ (.string x)) (some g)) := by
        have h2 := hst.2
        exact ⟨h2.os.trans hgr.os, h2.tape.trans hgr.tape, h2.output.trans hgr.output, Nat.le_trans hgr.size h2.size, fun j hj hne => (h2.block j (Nat.lt_of_lt_of_le hj hgr.size) hne).trans (hgr.block j hj hne)⟩
      clear hst hown hgr hb2 HO HG HX hT
      go_wp2
      go_roundw
      case rel => exact ⟨k + 1, by omega, by go_num, by first | rw [he1] | (rw [he1]; go_num), R.out, R2.out⟩
      case measure => simp [intOf]; omega
    · obtain rfl : k = n := by omega
      go_wp2
      go_ret
      refine ⟨rfl, ⟨?_⟩, hgr⟩
      rw [List.drop_of_length_le (by omega), List.append_nil] at hown
      rw [marksT_length]; exact hown
end Go.Proofs.Ytfpemobkkfobkaa
