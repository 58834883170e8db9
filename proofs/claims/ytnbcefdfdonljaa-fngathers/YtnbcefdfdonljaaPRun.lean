/- The program's putMissing, placesOf and takeRun: what the map of places holds behind them, and the run that is taken; nothing else in memory turns; no condition but on lengths. -/
import Derived.Test.YtnbcefdfdonljaaRows
import Derived.Test.YtnbcefdfdonljaaBase
import Derived.Test.YtnbcefdfdonljaaBytes
import Derived.Test.YtnbcefdfdonljaaAppBytes
import Derived.Test.YtnbcefdfdonljaaMem
import Derived.Test.YtnbcefdfdonljaaGath
import Derived.Test.YtnbcefdfdonljaaImplGath
import Derived.Test.YtnbcefdfdonljaaSpecGath
import Derived.Test.YtnbcefdfdonljaaGathByte
import Derived.Test.YtnbcefdfdonljaaPMap
namespace Go.Proofs.Ytnbcefdfdonljaa
open Go.RowKit Go.Maps
set_option linter.unusedVariables false

theorem grown_trans {w w' w'' : World} {g : Option Nat} (h : w.grownBy w' g) (k : w'.grownBy w'' g) : w.grownBy w'' g :=
  ⟨k.os.trans h.os, k.tape.trans h.tape, k.output.trans h.output, Nat.le_trans h.size k.size, fun j hj hne => (k.block j (Nat.lt_of_lt_of_le hj h.size) hne).trans (h.block j hj hne)⟩
theorem grown_other {w w' : World} {g : Option Nat} {b : Nat} (h : w.grownBy w' g) (hg : ∀ k, g = some k → w.heap.size ≤ k) : w.grownBy w' (some b) :=
  ⟨h.os, h.tape, h.output, h.size, fun j hj hne => h.block j hj (fun e => by have := hg j e.symm; omega)⟩
theorem rb_grown {w w' : World} {b n : Nat} {mm : Int → Option Int} {a : Option Addr} {l : List Int} (h : RB w a l) (hm : MapIs w b n mm) (hg : w.grownBy w' (some b)) : RB w' a l := by
  refine ⟨h.bd, ?_⟩
  rcases h.mem with e | ⟨b1, off, rfl, hc⟩
  · exact Or.inl e
  · refine Or.inr ⟨b1, off, rfl, fun i hi => ?_⟩
    have hne := hm.ne (hc i hi)
    have hlt := cell_lt (hc i hi)
    rw [World.cell?_of_block (w := w) (a := ⟨b1, off + i, none⟩) (hg.block b1 hlt (by simpa using fun e => hne e.symm))]
    exact hc i hi

set_option maxHeartbeats 1000000 in
theorem iPutMissing (b N : Nat) (mm : Int → Option Int) (x : Int) (a : Option Addr) (cap : Nat) (l : List Int) (w : World) (hm : MapIs w b N mm) (hr : RB w a l) (h0 : 0 ≤ x) (h1 : x + l.length ≤ 1000000) (hN : N ≤ 100000000) :
    Calls Try.prog 43 #[.map (some b), .int .i64 x, .slice a l.length cap] w fun e w' => e = .returned (.tuple #[]) ∧ MapIs w' b (N + l.length) (putM mm x l) ∧ w.grownBy w' (some b) := by
  have HR : Hid (∀ W, w.grownBy W (some b) → RB W a l) := fun W hW => rb_grown hr hm hW
  have HM0 : Hid (MapIs w b (N + 0) (putM mm x (l.take 0))) := hm.congr (fun y => by rw [List.take_zero, putM_nil])
  have HBd : Hid (∀ y ∈ l, 0 ≤ y ∧ y ≤ 255) := hr.bd
  clear hr hm
  go_enter Try.func43, Try.ntmps43
  go_wp2_with fail
  go_loopw [13] (fun i wr => ∃ k : Nat, k ≤ l.length ∧ i = .int .i64 k ∧ MapIs wr b (N + k) (putM mm x (l.take k)) ∧ w.grownBy wr (some b)) (fun i _ => l.length - (intOf i).toNat)
  case atStart => exact ⟨0, Nat.zero_le _, rfl, HM0.out, World.grownBy.refl _ _⟩
  case round =>
    obtain ⟨k, hk, rfl, hmk, hgr⟩ := hrel
    have HMk : Hid _ := hmk
    have HG : Hid _ := hgr
    clear HM0
    by_cases hlt : k < l.length
    · have rb := HR.out wr hgr
      rcases rb.mem with e | ⟨b1, off1, rfl, hc1⟩
      · subst e; simp at hlt
      · have y0 := hc1 k hlt
        have HY : Hid _ := getD_bd rb.bd k hlt
        have HSt : Hid (∀ y, putM mm x (l.take (k + 1)) y = if y = x + k then (match putM mm x (l.take k) y with | some c => some c | none => some (l.getD k 0)) else putM mm x (l.take k) y) := putM_step hlt
        clear hc1 rb hmk hgr
        generalize l.getD k 0 = c at *
        obtain ⟨m2, hm2⟩ : ∃ m, m = putM mm x (l.take (k + 1)) := ⟨_, rfl⟩
        rw [← hm2] at HSt
        have HM2 : Hid (m2 = putM mm x (l.take (k + 1))) := hm2
        clear hm2
        generalize putM mm x (l.take k) = m1 at *
        have hwf : (Lit.int .i64 (x + k)).wf = true := by simp [Lit.wf, IntKind.min, IntKind.max, IntKind.signed, IntKind.bits]; omega
        cases hq : m1 (x + k) with
        | some c' =>
          have HS2 : Hid (∀ y, m1 y = m2 y) := fun y => by
            rw [HSt.out y]
            split
            · rename_i e; subst e; rw [hq]
            · rfl
          have hq1 : (m1 (x + k)).getD 0 = c' := by rw [hq]; rfl
          have hq2 : (m1 (x + k)).isSome = true := by rw [hq]; rfl
          clear HSt hq
          go_wp2_with (at_lookup; refine mp_look _ rfl _ _ rfl b (N + k) m1 rfl HMk.out (x + k) (by rfl) hwf ?_; rw [hq1, hq2])
          go_roundw
          case rel => exact ⟨k + 1, by omega, by go_num, HM2.out ▸ MapIs.mono (n' := N + (k + 1)) (HMk.out.congr HS2.out) (by omega), HG.out⟩
          case measure => simp [intOf]; omega
        | none =>
          have HS2 : Hid (∀ y, (if y = x + k then some c else m1 y) = m2 y) := fun y => by
            rw [HSt.out y]
            split
            · rename_i e; subst e; rw [hq]
            · rfl
          have hq1 : (m1 (x + k)).getD 0 = 0 := by rw [hq]; rfl
          have hq2 : (m1 (x + k)).isSome = false := by rw [hq]; rfl
          clear HSt hq
          go_wp2_with (first
            | (at_lookup; refine mp_look _ rfl _ _ rfl b (N + k) m1 rfl HMk.out (x + k) (by rfl) hwf ?_; rw [hq1, hq2])
            | (at_mapUpdate; refine mp_put _ rfl _ _ _ rfl b (N + k) m1 rfl HMk.out (by omega) (x + k) c (by rfl) hwf (by rfl) HY.out ?_; intro w1 hm1 hg1; have HM1 : Hid _ := hm1; have HG1 : Hid _ := hg1; clear hm1 hg1))
          go_roundw
          case rel => exact ⟨k + 1, by omega, by go_num, HM2.out ▸ HM1.out.congr HS2.out, grown_trans HG.out HG1.out⟩
          case measure => simp [intOf]; omega
    · obtain rfl : k = l.length := by omega
      clear hmk hgr
      go_wp2_with fail
      refine bodyPost_end (v := .tuple #[]) (by simp [results, Try.results43, go_sem]) rfl ⟨rfl, ?_, HG.out⟩
      have := HMk.out
      rw [List.take_length] at this
      exact this

/-- The bytes of a run. -/
def runL (mm : Int → Option Int) (x : Int) (j : Nat) : List Int := (List.range j).map fun i => (mm (x + (i : Nat))).getD 0
/-- .. taken out. -/
def delM (mm : Int → Option Int) (x : Int) (j : Nat) (y : Int) : Option Int := if x ≤ y ∧ y < x + j then none else mm y

theorem runL_succ (mm : Int → Option Int) (x : Int) (j : Nat) : runL mm x (j + 1) = runL mm x j ++ [(mm (x + j)).getD 0] := by simp [runL, List.range_succ]
theorem runL_len (mm : Int → Option Int) (x : Int) (j : Nat) : (runL mm x j).length = j := by simp [runL]
theorem delM_zero (mm : Int → Option Int) (x y : Int) : delM mm x 0 y = mm y := by unfold delM; rw [if_neg (by simp)]
theorem delM_succ (mm : Int → Option Int) (x : Int) (j : Nat) (y : Int) : (if y = x + j then none else delM mm x j y) = delM mm x (j + 1) y := by
  unfold delM
  split
  · rw [if_pos (by omega)]
  · split
    · rw [if_pos (by omega)]
    · rw [if_neg (by omega)]
theorem delM_at (mm : Int → Option Int) (x : Int) (j : Nat) : delM mm x j (x + j) = mm (x + j) := by unfold delM; rw [if_neg (by omega)]

theorem ob_none (w : World) (base : Nat) : OB w base (.slice none 0 0) [] := ⟨⟨rfl, Or.inl ⟨rfl, rfl⟩⟩, by simp⟩
theorem ob_grown {w w' : World} {g : Option Nat} {base : Nat} {v : Value} {l : List Int} (h : OB w base v l) (hg : w.grownBy w' g) (hne : ∀ b, v.ownBlock = some b → g ≠ some b) : OB w' base v l := by
  refine ⟨?_, h.bd⟩
  obtain ⟨h1, h2 | ⟨b, cap, cur, e, hbase, hh, r⟩⟩ := h.own
  · exact ⟨h1, Or.inl h2⟩
  · have hlt : b < w.heap.size := by
      apply Classical.byContradiction; intro hn
      rw [Array.getElem?_eq_none (by omega)] at hh; cases hh
    subst e
    exact ⟨h1, Or.inr ⟨b, cap, cur, rfl, hbase, by rw [hg.block b hlt (fun e => hne b rfl e.symm)]; exact hh, r⟩⟩
theorem grown_below {w wr w5 : World} {b : Nat} (h : w.grownBy wr (some b)) (k : Below w.heap.size wr w5) : w.grownBy w5 (some b) :=
  ⟨k.os.trans h.os, k.tape.trans h.tape, k.output.trans h.output, Nat.le_trans h.size k.size, fun j hj hne => (k.block j hj).trans (h.block j hj hne)⟩

set_option maxHeartbeats 2000000 in
theorem iTakeRun (b N : Nat) (mm : Int → Option Int) (x : Int) (w : World) (hm : MapIs w b N mm) (h0 : 0 ≤ x) (h1 : x ≤ 400) (hz : ∀ y, 400 ≤ y → mm y = none) (hbd : ∀ y c, mm y = some c → 0 ≤ c ∧ c ≤ 255) :
    Calls Try.prog 96 #[.map (some b), .int .i64 x] w fun e w' => ∃ v, ∃ j : Nat, e = .returned v ∧ x + j ≤ 400 ∧ (∀ i : Nat, i < j → (mm (x + i)).isSome = true) ∧ mm (x + j) = none ∧ OB w' w.heap.size v (runL mm x j) ∧ MapIs w' b N (delM mm x j) ∧ w.grownBy w' (some b) := by
  have HBd : Hid _ := hbd
  have HZ : Hid _ := hz
  have hbl := hm.lt
  have HM0 : Hid (MapIs w b N (delM mm x 0)) := hm.congr fun y => (delM_zero mm x y).symm
  have HM : Hid _ := hm
  have hwf : ∀ y : Int, 0 ≤ y → y ≤ 1000 → (Lit.int .i64 y).wf = true := fun y a b => by simp [Lit.wf, IntKind.min, IntKind.max, IntKind.signed, IntKind.bits]; omega
  have HWF : Hid _ := hwf
  have Z0 : Hid _ := hbl
  clear hm hbd hz hwf hbl
  go_enter Try.func96, Try.ntmps96
  go_wp2_with (at_lookup; refine mp_look _ rfl _ _ rfl b N mm rfl HM.out x (by rfl) (HWF.out x h0 (by omega)) ?_)
  go_loopw [1, 5, 6, 7] (fun t1 t5 t6 t7 wr => ∃ (j : Nat) (L : List Int), t1 = .int .i64 (x + j) ∧ x + j ≤ 400 ∧ t6 = .int .u8 ((mm (x + j)).getD 0) ∧ t7 = .bool (mm (x + j)).isSome ∧ Hid (L = runL mm x j) ∧ OB wr w.heap.size t5 L ∧ L.length ≤ 400 ∧ (∀ i : Nat, i < j → (mm (x + i)).isSome = true) ∧ MapIs wr b N (delM mm x j) ∧ w.grownBy wr (some b)) (fun t1 _ _ _ _ => (401 - intOf t1).toNat)
  case atStart => exact ⟨0, [], by simp, by simpa using h1, by simp, by simp, rfl, ob_none _ _, by simp, fun i hi => absurd hi (by omega), HM0.out, World.grownBy.refl _ _⟩
  case round =>
    obtain ⟨j, L, rfl, hj, rfl, rfl, hL, hown, hLl, hall, hmj, hgr⟩ := hrel
    have HAll : Hid _ := hall
    have HMj : Hid _ := hmj
    have HG : Hid _ := hgr
    have HOwn : Hid _ := hown
    obtain ⟨a5, c5, e5, -⟩ := hown.rb
    subst e5
    clear hall hmj hgr HM0 hown
    cases hq : mm (x + j) with
    | none =>
      have HQ : Hid (mm (x + j) = none) := hq
      simp only [Option.getD_none, Option.isSome_none]
      clear hq
      go_wp2_with fail
      go_ret
      refine ⟨_, j, rfl, hj, HAll.out, HQ.out, ?_, HMj.out, HG.out⟩
      rw [← hL.out]; exact HOwn.out
    | some c =>
      have hc := HBd.out _ _ hq
      have HC : Hid _ := hc
      have hj4 : x + j < 400 := by
        apply Classical.byContradiction; intro hn
        have := HZ.out (x + j) (by omega)
        rw [this] at hq; cases hq
      have HQ : Hid (mm (x + j) = some c) := hq
      simp only [Option.getD_some, Option.isSome_some]
      clear hq hc
      have HR : Hid (L ++ [c] = runL mm x (j + 1)) := by show _ = _; rw [runL_succ, HQ.out, ← hL.out]; rfl
      have hw1 := HWF.out (x + j) (by omega) (by omega)
      have hw2 := HWF.out (x + j + 1) (by omega) (by omega)
      have hnx : x + ((j + 1 : Nat) : Int) = x + j + 1 := by omega
      have HNX : Hid _ := hnx
      clear hnx
      have hd : delM mm x (j + 1) (x + j + 1) = mm (x + j + 1) := by have := delM_at mm x (j + 1); rw [HNX.out] at this; exact this
      have HD : Hid _ := hd
      clear hd
      have hLl2 : L.length < 400 := by have h := hL.out; rw [h, runL_len]; omega
      go_wp2_with (first
        | (at_builtin; refine app_u8one wr rfl _ _ rfl w.heap.size (.slice a5 L.length c5) L (by rfl) HOwn.out c (by rfl) HC.out (by omega) HG.out.size ?_; intro v5 w5 ho5 hb5 hg5; obtain ⟨a6, c6, e6, -⟩ := ho5.rb; subst e6; have HO5 : Hid _ := ho5; have HG5 : Hid _ := grown_below HG.out hb5; have HM5 : Hid (MapIs w5 b N (delM mm x j)) := ((HMj.out.kept (World.grownBy_alloc wr _ none) (by simp)).kept hg5 (by intro e; have := (HOwn.out.own.lt b e.symm).1; have := Z0.out; omega)); clear ho5 hb5 hg5)
        | (at_delete; refine mp_del _ rfl _ _ rfl b N (delM mm x j) rfl HM5.out (x + j) (by rfl) hw1 ?_; intro w6 hm6 hg6; have HM6 : Hid (MapIs w6 b N (delM mm x (j + 1))) := hm6.congr (delM_succ mm x j); have HG6 : Hid _ := grown_trans HG5.out hg6; have HO6 : Hid _ := ob_grown HO5.out hg6 (fun k e e2 => by have := (HO5.out.own.lt k e).1; have := Z0.out; simp at e2; omega); clear hm6 hg6)
        | (at_lookup; refine mp_look _ rfl _ _ rfl b N _ rfl HM6.out (x + j + 1) (by rfl) hw2 ?_; rw [HD.out]))
      go_roundw
      case rel => exact ⟨j + 1, L ++ [c], by rw [HNX.out], by rw [HNX.out]; omega, by rw [HNX.out], by rw [HNX.out], HR, (by have h := HO6.out; rw [List.length_append] at h; exact h), by simp; omega, fun i hi => (Nat.lt_or_eq_of_le (Nat.le_of_lt_succ hi)).elim (fun h => HAll.out i h) (fun h => by rw [h, HQ.out]; rfl), HM6.out, HG6.out⟩
      case measure => simp [intOf]; omega
end Go.Proofs.Ytnbcefdfdonljaa
