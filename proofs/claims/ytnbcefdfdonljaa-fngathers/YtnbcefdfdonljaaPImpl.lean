/- What the program's PutPiece answers: the code and the gather; nothing that was in memory turns, and the answer owns its memory; no condition but that there are at most a million bytes. -/
import Derived.Test.YtnbcefdfdonljaaRows
import Derived.Test.YtnbcefdfdonljaaBase
import Derived.Test.YtnbcefdfdonljaaBytes
import Derived.Test.YtnbcefdfdonljaaAppBytes
import Derived.Test.YtnbcefdfdonljaaMem
import Derived.Test.YtnbcefdfdonljaaMemOpen
import Derived.Test.YtnbcefdfdonljaaMemRow
import Derived.Test.YtnbcefdfdonljaaMemApp
import Derived.Test.YtnbcefdfdonljaaGath
import Derived.Test.YtnbcefdfdonljaaGathLaw
import Derived.Test.YtnbcefdfdonljaaImplGath
import Derived.Test.YtnbcefdfdonljaaSpecGath
import Derived.Test.YtnbcefdfdonljaaGathByte
import Derived.Test.YtnbcefdfdonljaaPMap
import Derived.Test.YtnbcefdfdonljaaPRun
import Derived.Test.YtnbcefdfdonljaaPPlaces
import Derived.Test.YtnbcefdfdonljaaPutDef
import Derived.Test.YtnbcefdfdonljaaPGather
import Derived.Test.YtnbcefdfdonljaaBox
namespace Go.Proofs.Ytnbcefdfdonljaa
open Go.RowKit Go.Maps
set_option linter.unusedVariables false

noncomputable def gapOf (mm : Int → Option Int) : Nat := @dite _ (∃ d, FirstGap mm d) (Classical.propDecidable _) (fun h => Classical.choose h) (fun _ => 0)
theorem gapOf_eq {mm : Int → Option Int} {d : Nat} (h : FirstGap mm d) : gapOf mm = d := by
  have hex : ∃ d, FirstGap mm d := ⟨d, h⟩
  unfold gapOf
  rw [dif_pos hex]
  exact (Classical.choose_spec hex).uniq h
/-- What PutPiece tells: the code .. -/
noncomputable def putC (g : Gt) (x : Int) (l : List Int) : Int :=
  if gtFault g ≠ 0 then gtFault g else if x < 0 ∨ 400 - (l.length : Int) < x then 3 else if 40 < (putG (putM (gtByte g) x l) (gapOf (putM (gtByte g) x l))).2.1.length then 2 else 0
/-- .. and the gather. -/
noncomputable def putV (g : Gt) (x : Int) (l : List Int) : Gt := if putC g x l ≠ 0 then ([], [], ()) else putG (putM (gtByte g) x l) (gapOf (putM (gtByte g) x l))

theorem putM_bd {g : Gt} {x : Int} {l : List Int} (hg : ∀ y c, gtByte g y = some c → 0 ≤ c ∧ c ≤ 255) (hl : ∀ y ∈ l, 0 ≤ y ∧ y ≤ 255) : ∀ y c, putM (gtByte g) x l y = some c → 0 ≤ c ∧ c ≤ 255 := by
  intro y c h
  unfold putM at h
  cases hb : gtByte g y with
  | some c' => rw [hb] at h; simp at h; subst h; exact hg y c' hb
  | none =>
    rw [hb] at h
    simp only at h
    split at h
    · rename_i hr
      have : (y - x).toNat < l.length := by omega
      simp at h
      subst h
      rw [List.getElem?_eq_getElem this]
      exact hl _ (List.getElem_mem this)
    · cases h
theorem gtByte_bd {g : Gt} (h1 : ∀ y ∈ g.1, 0 ≤ y ∧ y ≤ 255) (h2 : ∀ p ∈ g.2.1, ∀ y ∈ p.2.1, 0 ≤ y ∧ y ≤ 255) : ∀ y c, gtByte g y = some c → 0 ≤ c ∧ c ≤ 255 := by
  intro y c h
  unfold gtByte at h
  split at h
  · rename_i hr
    have : y.toNat < g.1.length := by omega
    simp at h
    subst h
    rw [List.getElem?_eq_getElem this]
    exact h1 _ (List.getElem_mem this)
  · obtain ⟨i, hi, r1, r2, r3⟩ : ∃ i, ∃ hi : i < g.2.1.length, g.2.1[i].1 ≤ y ∧ y ≤ g.2.1[i].1 + g.2.1[i].2.1.length - 1 ∧ c = g.2.1[i].2.1.getD (y - g.2.1[i].1).toNat 0 := by
      clear h1 h2
      generalize g.2.1 = ps at *
      induction ps with
      | nil => cases h
      | cons p ps ih =>
        have h0 : (if p.1 ≤ y ∧ y ≤ p.1 + p.2.1.length - 1 then some (p.2.1.getD (y - p.1).toNat 0) else pcsByte ps y) = some c := h
        by_cases hc : p.1 ≤ y ∧ y ≤ p.1 + p.2.1.length - 1
        · rw [if_pos hc] at h0
          exact ⟨0, by simp, hc.1, hc.2, by simpa using h0.symm⟩
        · rw [if_neg hc] at h0
          obtain ⟨i, hi, r⟩ := ih h0
          exact ⟨i + 1, by simpa using hi, r⟩
    have : (y - g.2.1[i].1).toNat < g.2.1[i].2.1.length := by omega
    rw [r3, List.getD_eq_getElem?_getD, List.getElem?_eq_getElem this]
    exact h2 _ (List.getElem_mem hi) _ (List.getElem_mem this)
theorem rd_gt_bd {w : World} {B : Nat} {g : Gt} {cs : List Value} (h : gtS.Rd w B g cs) : ∀ y c, gtByte g y = some c → 0 ≤ c ∧ c ≤ 255 := by
  obtain ⟨a1, c1, a2, c2, -, r1, r2⟩ := rd_gt h
  refine gtByte_bd ?_ ?_
  · obtain ⟨_, _, -, rb, -, -⟩ := rd_bytes r1
    exact rb.bd
  · intro p hp
    obtain ⟨i, hi, rfl⟩ := List.getElem_of_mem hp
    obtain ⟨_, _, -, -, -, hpc⟩ := rd_pcs r2
    obtain ⟨b, off, ad, c, -, -, -, -, r3, -⟩ := hpc i hi
    obtain ⟨_, _, -, rb, -, -⟩ := rd_bytes r3
    exact rb.bd
theorem gtByte_hi {g : Gt} (hF : gtFault g = 0) {y : Int} (hy : 400 ≤ y) : gtByte g y = none := by
  obtain ⟨d1, d2, d3⟩ := gtFault_ok hF
  cases h : gtByte g y with
  | none => rfl
  | some c =>
    unfold gtByte at h
    rw [if_neg (by omega)] at h
    exfalso
    generalize g.2.1 = ps at *
    induction ps with
    | nil => cases h
    | cons p ps ih =>
      have h0 : (if p.1 ≤ y ∧ y ≤ p.1 + p.2.1.length - 1 then some (p.2.1.getD (y - p.1).toNat 0) else pcsByte ps y) = some c := h
      have := d3 0 (by simp)
      simp only [List.getElem_cons_zero] at this
      rw [if_neg (by omega)] at h0
      exact ih (by simp at d2; omega) (fun k hk => by have := d3 (k + 1) (by simpa using hk); simpa using this) h0
theorem putM_hi {g : Gt} (hF : gtFault g = 0) {x : Int} {l : List Int} (hx : x + l.length ≤ 400) {y : Int} (hy : 400 ≤ y) : putM (gtByte g) x l y = none := by
  unfold putM
  rw [gtByte_hi hF hy]
  simp only
  rw [if_neg (by omega)]

set_option maxHeartbeats 2000000 in
theorem iPutPiece (g : Gt) (v1 v2 : Value) (x : Int) (l : List Int) (a : Option Addr) (cap : Nat) (w : World) (B : Nat) (hr : gtS.Rd w B g [v1, v2]) (hl : u8s.Rd w B l [.slice a l.length cap]) (hB : B ≤ w.heap.size) (hn : l.length ≤ 1048576) :
    Calls Try.prog 10 #[.agg #[v1, v2], .int .i64 x, .slice a l.length cap] w fun e w' => ∃ u1 u2, e = .returned (.agg #[.int .i64 (putC g x l), u1, u2]) ∧ Own w' w.heap.size w'.heap.size gtS (putV g x l) [u1, u2] ∧ Below w.heap.size w w' := by
  obtain ⟨a1, c1, a2, c2, e0, -, -⟩ := rd_gt hr
  simp only [List.cons.injEq, and_true] at e0
  obtain ⟨rfl, rfl⟩ := e0
  have HL : Hid (∀ W, Below w.heap.size w W → RB W a l) := fun W hW => by
    obtain ⟨_, _, e1, q1, -, -⟩ := rd_bytes (hl.below hB hW)
    simp only [List.cons.injEq, Value.slice.injEq, and_true, true_and] at e1
    obtain ⟨rfl, rfl⟩ := e1
    exact q1
  have HC : Hid (∀ W, Below w.heap.size w W → Calls Try.prog 12 #[.agg #[.slice a1 g.1.length c1, .slice a2 g.2.1.length c2]] W fun e w' => e = .returned (.int .i64 (gtFault g)) ∧ Below W.heap.size W w') :=
    fun W hW => iGatherFault g _ W (Sh.Rd.mono (Nat.le_trans hB hW.size) _ _ _ (hr.below hB hW))
  have HPl : Hid (gtFault g = 0 → ∀ W, Below w.heap.size w W → Calls Try.prog 42 #[.agg #[.slice a1 g.1.length c1, .slice a2 g.2.1.length c2]] W fun e w' => ∃ b N, e = .returned (.map (some b)) ∧ W.heap.size ≤ b ∧ N ≤ 100000 ∧ MapIs w' b N (gtByte g) ∧ Below W.heap.size W w') :=
    fun hF W hW => iPlacesOf g _ _ W B (hr.below hB hW) (Nat.le_trans hB hW.size) hF
  have HBd : Hid (∀ y c, putM (gtByte g) x l y = some c → 0 ≤ c ∧ c ≤ 255) := putM_bd (rd_gt_bd hr) (HL.out w (Below.refl _ _)).bd
  have HHi : Hid (gtFault g = 0 → x + l.length ≤ 400 → ∀ y, 400 ≤ y → putM (gtByte g) x l y = none) := fun hF hx y hy => putM_hi hF hx hy
  have HV1 : Hid (gtFault g ≠ 0 → putC g x l = gtFault g) := fun h => by unfold putC; rw [if_pos h]
  have HV2 : Hid (gtFault g = 0 → (x < 0 ∨ 400 - (l.length : Int) < x) → putC g x l = 3) := fun h h2 => by unfold putC; rw [if_neg (by simp [h]), if_pos h2]
  have HV3 : Hid (gtFault g = 0 → ¬ (x < 0 ∨ 400 - (l.length : Int) < x) → ∀ d, FirstGap (putM (gtByte g) x l) d → putC g x l = if 40 < (putG (putM (gtByte g) x l) d).2.1.length then 2 else 0) := fun h h2 d hd => by
    unfold putC; rw [if_neg (by simp [h]), if_neg h2, gapOf_eq hd]
  have HW1 : Hid (putC g x l ≠ 0 → putV g x l = ([], [], ())) := fun h => by unfold putV; rw [if_pos h]
  have HW2 : Hid (putC g x l = 0 → ∀ d, FirstGap (putM (gtByte g) x l) d → putV g x l = putG (putM (gtByte g) x l) d) := fun h d hd => by unfold putV; rw [if_neg (by simp [h]), gapOf_eq hd]
  have ZO : Hid (∀ W lo hi, Own W lo hi gtS ([], [], ()) [.slice none 0 0, .slice none 0 0]) := fun W lo hi => ⟨[], ⟨[], [], _, _, rfl, rfl, Or.inl ⟨rfl, rfl, rfl⟩, [], [], _, _, rfl, rfl, Or.inl ⟨rfl, rfl, rfl⟩, rfl, rfl⟩, by simp, by simp⟩
  clear hr hl
  generalize g.1.length = n1 at *
  generalize g.2.1.length = n2 at *
  obtain ⟨m2, hm2⟩ : ∃ m, m = putM (gtByte g) x l := ⟨_, rfl⟩
  rw [← hm2] at HBd HHi HV3 HW2
  have HM2 : Hid (m2 = putM (gtByte g) x l) := hm2
  clear hm2
  generalize hCC : putC g x l = C at *
  generalize putV g x l = V at *
  generalize gtFault g = F at *
  clear hCC
  go_enter Try.func10, Try.ntmps10
  go_wp2_with fail
  refine (HC.out _ (by go_grown)).mono ?_
  rintro e w1 ⟨rfl, hb1⟩
  have hz := hb1.size
  simp at hz
  have k0 : ∀ o, w1.cell? ⟨w.heap.size, o, none⟩ = (#[.slice a1 n1 c1, .slice a2 n2 c2] : Array Value)[o]? := fun o => by rw [(bcell hb1).1 _ o (by simp; omega)]; simp [go_sem]
  have k1 : ∀ o, w1.cell? ⟨w.heap.size + 1, o, none⟩ = (#[.int .i64 0, .slice none 0 0, .slice none 0 0] : Array Value)[o]? := fun o => by rw [(bcell hb1).1 _ o (by simp)]; simp [go_sem]
  have f1 : ∀ o, w1.frozen? ⟨w.heap.size + 1, o, none⟩ = false := fun o => by rw [(bcell hb1).2 _ o (by simp)]; simp [go_sem]
  have HB1 : Hid (Below w.heap.size w w1) := Below.trans (by go_grown) (hb1.mono (by simp; omega))
  have z1 : w.heap.size + 1 < w1.heap.size := by omega
  clear hb1 hz HC
  by_cases hF : F = 0
  · subst hF
    go_wp2_with fail
    refine (iLeaves x a l.length cap w1 (by omega)).mono ?_
    rintro e w2 ⟨rfl, hb2⟩
    have k2 := bx_below k0 (by omega) hb2
    have k3 := bx_below k1 z1 hb2
    have f3 : ∀ o, w2.frozen? ⟨w.heap.size + 1, o, none⟩ = false := fun o => by rw [(bcell hb2).2 _ o z1]; exact f1 o
    have HB2 : Hid (Below w.heap.size w w2) := HB1.out.trans (hb2.mono HB1.out.size)
    have z2 : w.heap.size + 1 < w2.heap.size := Nat.lt_of_lt_of_le z1 hb2.size
    clear hb2 k0 k1 f1 HB1 z1
    by_cases hx : x < 0 ∨ 400 - (l.length : Int) < x
    · have hd : decide (x < 0 ∨ 400 - (l.length : Int) < x) = true := by simp only [decide_eq_true_eq]; exact hx
      rw [hd]
      have hC := HV2.out (by first | rfl | trivial) hx
      subst hC
      have hV := HW1.out (by decide)
      subst hV
      clear hd hx HPl HBd HHi HV1 HV2 HV3 HW1 HW2 HL k2
      go_wp2_with fail
      refine bodyPost_ret (v := .agg #[.int .i64 3, .slice none 0 0, .slice none 0 0]) (by simp [results, Try.results10, go_sem, k3]) rfl ⟨_, _, rfl, ZO.out _ _ _, ?_⟩
      have hB1 := HB2.out
      clear k3 f3 HB2
      go_grown
    · have hd : decide (x < 0 ∨ 400 - (l.length : Int) < x) = false := by simp only [decide_eq_false_iff_not]; exact hx
      rw [hd]
      have HV3' := HV3.out (by first | rfl | trivial) hx
      have HV4 : Hid _ := HV3'
      have hx0 : 0 ≤ x := by omega
      have hx1 : x + (l.length : Int) ≤ 400 := by omega
      clear hd hx HV1 HV2 HV3 HV3'
      go_wp2_with fail
      refine (HPl.out (by first | rfl | trivial) w2 HB2.out).mono ?_
      rintro e w3 ⟨b, N, rfl, hbz, hN, hm3, hb3⟩
      have k4 := bx_below k3 z2 hb3
      have f4 : ∀ o, w3.frozen? ⟨w.heap.size + 1, o, none⟩ = false := fun o => by rw [(bcell hb3).2 _ o z2]; exact f3 o
      have HB3 : Hid (Below w.heap.size w w3) := HB2.out.trans (hb3.mono HB2.out.size)
      have z3 : w.heap.size + 1 < w3.heap.size := Nat.lt_of_lt_of_le z2 hb3.size
      have HM3 : Hid _ := hm3
      have zb : w.heap.size + 1 < b := by omega
      clear hb3 hm3 k2 k3 f3 HB2 z2 hbz HPl
      go_wp2_with fail
      refine (iPutMissing b N (gtByte g) x a cap l w3 HM3.out (HL.out w3 HB3.out) hx0 (by omega) (by omega)).mono ?_
      rintro e w4 ⟨rfl, hm4, hg4⟩
      rw [← HM2.out] at hm4
      have k5 := bx_keep k4 (hg4.block (w.heap.size + 1) z3 (by simp; omega))
      have f5 : ∀ o, w4.frozen? ⟨w.heap.size + 1, o, none⟩ = false := fun o => by rw [World.frozen?_of_block (w := w3) (a := ⟨w.heap.size + 1, o, none⟩) (hg4.block (w.heap.size + 1) z3 (by simp; omega))]; exact f4 o
      have HB4 : Hid (Below w.heap.size w w4) := HB3.out.grown hg4 (by omega) (by intro k hk; simp at hk; omega)
      have z4 : w.heap.size + 1 < w4.heap.size := Nat.lt_of_lt_of_le z3 hg4.size
      have HM4 : Hid _ := hm4
      clear hg4 hm4 k4 f4 HB3 z3 HM3 HL
      go_wp2_with fail
      refine (iGatherPlaces b (N + l.length) m2 w4 HM4.out (HHi.out (by first | rfl | trivial) hx1) HBd.out).mono ?_
      rintro e w5 ⟨u1, u2, d, rfl, hgap, ho5, hg5⟩
      have k6 := bx_keep k5 (hg5.block (w.heap.size + 1) z4 (by simp; omega))
      have f6 : ∀ o, w5.frozen? ⟨w.heap.size + 1, o, none⟩ = false := fun o => by rw [World.frozen?_of_block (w := w4) (a := ⟨w.heap.size + 1, o, none⟩) (hg5.block (w.heap.size + 1) z4 (by simp; omega))]; exact f5 o
      have HB5 : Hid (Below w.heap.size w w5) := HB4.out.grown hg5 (by omega) (by intro k hk; simp at hk; omega)
      have z5 : w.heap.size + 1 < w5.heap.size := Nat.lt_of_lt_of_le z4 hg5.size
      have O5 : Hid (Own w5 (w.heap.size + 1 + 1) w5.heap.size gtS (putG m2 d) [u1, u2]) := ho5.mono (by omega) (Nat.le_refl _)
      obtain ⟨b1, d1, b2, d2, e5, -, r5⟩ := rd_gt (ho5.rd (Nat.le_refl _))
      simp only [List.cons.injEq, and_true] at e5
      obtain ⟨rfl, rfl⟩ := e5
      have hm5 : (putG m2 d).2.1.length ≤ 9223372036854775807 := by obtain ⟨-, h1, h2, -⟩ := rd_cap r5; exact Nat.le_trans h1 h2
      clear r5
      have hC := HV4.out d hgap
      have HW3 : Hid (C = 0 → V = putG m2 d) := fun h => HW2.out h d hgap
      clear hg5 ho5 k5 f5 HB4 z4 HM4 HV4 HW2 HBd HHi hgap
      generalize putG m2 d = G at *
      by_cases h40 : 40 < G.2.1.length
      · rw [if_pos h40] at hC
        subst hC
        have hV := HW1.out (by decide)
        subst hV
        clear HW1 HW3
        generalize G.1.length = gn1 at *
        generalize G.2.1.length = gn2 at *
        go_wp2_with fail
        refine bodyPost_ret (v := .agg #[.int .i64 2, .slice none 0 0, .slice none 0 0]) (by simp [results, Try.results10, go_sem, k6, z5]) rfl ⟨_, _, rfl, ZO.out _ _ _, ?_⟩
        have hB1 := HB5.out
        clear k6 f6 HB5 O5
        go_grown
      · rw [if_neg h40] at hC
        subst hC
        have hV := HW3.out (by first | rfl | trivial)
        subst hV
        clear HW1 HW3
        go_wp2_with fail
        refine bodyPost_ret (v := .agg #[.int .i64 0, .slice b1 V.1.length d1, .slice b2 V.2.1.length d2]) (by simp [results, Try.results10, go_sem, k6, z5]) rfl ⟨_, _, rfl, ?_, ?_⟩
        · refine Own.mono (Own.keep O5.out fun y h1 h2 => ?_) (by omega) (by simp)
          refine (((Below.refl _ _).alloc (Nat.le_refl _) _).block y (by simpa using h2)).trans ?_
          repeat rw [Below.heap_setCell _ _ _ _ (by dsimp only; omega)]
        · have hB1 := HB5.out
          clear k6 f6 HB5 O5
          go_grown
  · have hC := HV1.out hF
    subst hC
    have hV := HW1.out hF
    subst hV
    have hF2 : (C == 0) = false := by simpa using hF
    clear HV1 HV2 HV3 HW1 HW2 HPl HBd HHi HL k0 hF
    go_wp2_with fail
    refine bodyPost_ret (v := .agg #[.int .i64 C, .slice none 0 0, .slice none 0 0]) (by simp [results, Try.results10, go_sem, k1]) rfl ⟨_, _, rfl, ZO.out _ _ _, ?_⟩
    have hB1 := HB1.out
    clear k1 f1 HB1
    go_grown
end Go.Proofs.Ytnbcefdfdonljaa
