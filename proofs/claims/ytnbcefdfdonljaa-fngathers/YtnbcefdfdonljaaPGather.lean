/- The program's gatherPlaces: the gather of the bytes that the map of places holds; nothing but the map and new memory turns; no condition but that all places are 0 to 399. -/
import Derived.Test.YtnbcefdfdonljaaRows
import Derived.Test.YtnbcefdfdonljaaBase
import Derived.Test.YtnbcefdfdonljaaBytes
import Derived.Test.YtnbcefdfdonljaaAppBytes
import Derived.Test.YtnbcefdfdonljaaMem
import Derived.Test.YtnbcefdfdonljaaMemOpen
import Derived.Test.YtnbcefdfdonljaaMemRow
import Derived.Test.YtnbcefdfdonljaaMemApp
import Derived.Test.YtnbcefdfdonljaaGath
import Derived.Test.YtnbcefdfdonljaaGathLaw
import Derived.Test.YtnbcefdfdonljaaImplGath
import Derived.Test.YtnbcefdfdonljaaSpecGath
import Derived.Test.YtnbcefdfdonljaaGathByte
import Derived.Test.YtnbcefdfdonljaaPMap
import Derived.Test.YtnbcefdfdonljaaPRun
import Derived.Test.YtnbcefdfdonljaaPutDef
namespace Go.Proofs.Ytnbcefdfdonljaa
open Go.RowKit Go.Maps
set_option linter.unusedVariables false

theorem MapIs.keepb {w w' : World} {b n : Nat} {mm : Int → Option Int} (h : MapIs w b n mm) (hb : w'.heap[b]? = w.heap[b]?) : MapIs w' b n mm := by
  obtain ⟨D, ⟨es, clock, h1, h2⟩, h3⟩ := h
  exact ⟨D, ⟨es, clock, by rw [hb]; exact h1, h2⟩, h3⟩
theorem Own.ownLo {w : World} {lo hi : Nat} {t : TypeId} {e : Sh} {l : List e.El} {v : Value} (h : Own w lo hi (.row t e) l [v]) : ∀ b, v.ownBlock = some b → lo ≤ b ∧ b < hi := by
  obtain ⟨v0, xs, F, e1, ho, hF, hnd, hb, hel, hv⟩ := h.row_to
  simp only [List.cons.injEq, and_true] at e1
  subst e1
  exact fun b e => ⟨(ho.lt b e).1, hv b e⟩
theorem infoPc : (Try.prog.info? 87).map (fun i => (i.zero, i.size, i.bytes)) = some (some (.agg #[.int .i64 0, .slice none 0 0]), 2, 32) := by kernel_rfl

/-- What the map holds behind c is what is there. -/
theorem cut_at {mm : Int → Option Int} {c : Nat} {y : Int} (h : (c : Int) ≤ y) : delM mm 0 c y = mm y := by unfold delM; rw [if_neg (by omega)]
theorem cut_no {mm : Int → Option Int} {c : Nat} {y : Int} (h0 : 0 ≤ y) (h : y < c) : delM mm 0 c y = none := by unfold delM; rw [if_pos (by omega)]
theorem cut_z {mm : Int → Option Int} {c : Nat} {y : Int} (h : mm y = none) : delM mm 0 c y = none := by
  unfold delM
  split
  · rfl
  · exact h
theorem cut_s {mm : Int → Option Int} {c : Nat} {y c' : Int} (h : delM mm 0 c y = some c') : mm y = some c' := by
  unfold delM at h
  split at h
  · cases h
  · exact h
theorem cut_run {mm : Int → Option Int} {c i j : Nat} (hc : c ≤ i) (hn : ∀ k : Nat, c ≤ k → k < i → mm k = none) (y : Int) : delM (delM mm 0 c) i j y = delM mm 0 (i + j) y := by
  unfold delM
  by_cases h1 : (i : Int) ≤ y ∧ y < i + j
  · rw [if_pos h1, if_pos (by omega)]
  · rw [if_neg h1]
    by_cases h2 : 0 ≤ y ∧ y < 0 + (c : Int)
    · rw [if_pos h2, if_pos (by omega)]
    · rw [if_neg h2]
      by_cases h3 : 0 ≤ y ∧ y < 0 + ((i + j : Nat) : Int)
      · rw [if_pos h3]
        have := hn y.toNat (by omega) (by omega)
        rw [show ((y.toNat : Nat) : Int) = y by omega] at this
        exact this
      · rw [if_neg h3]
theorem runL_cut {mm : Int → Option Int} {c i j : Nat} (hc : c ≤ i) : runL (delM mm 0 c) i j = runL mm i j := by
  unfold runL
  refine List.map_congr_left fun k _ => ?_
  rw [cut_at (by omega)]

set_option maxHeartbeats 4000000 in
set_option maxRecDepth 8000 in
theorem iGatherPlaces (b N : Nat) (mm : Int → Option Int) (w : World) (hm : MapIs w b N mm) (hz : ∀ y, 400 ≤ y → mm y = none) (hbd : ∀ y c, mm y = some c → 0 ≤ c ∧ c ≤ 255) :
    Calls Try.prog 44 #[.map (some b)] w fun e w' => ∃ u1 u2, ∃ d : Nat, e = .returned (.agg #[u1, u2]) ∧ FirstGap mm d ∧ Own w' w.heap.size w'.heap.size gtS (putG mm d) [u1, u2] ∧ w.grownBy w' (some b) := by
  have hbw := hm.lt
  have HZ : Hid _ := hz
  have HBd : Hid _ := hbd
  have HM : Hid (MapIs (w.alloc (.cells #[.slice none 0 0, .slice none 0 0] 26)) b N mm) := hm.kept (World.grownBy_alloc w _ none) (by simp)
  clear hm hz hbd
  go_enter Try.func44, Try.ntmps44
  go_wp2_with fail
  refine (iTakeRun b N mm 0 _ HM.out (by omega) (by omega) HZ.out HBd.out).mono ?_
  rintro e w1 ⟨v, d, rfl, hd4, hdall, hdn, hob, hm1, hg1⟩
  have hsz := hg1.size
  simp at hsz
  have GP : Hid (FirstGap mm d) := ⟨by omega, fun k hk => by have := hdall k hk; simpa using this, fun _ => by simpa using hdn⟩
  obtain ⟨av, cv, ev, -⟩ := hob.rb
  subst ev
  rw [runL_len] at hob
  simp only [World.size_alloc] at hob
  have OD : Hid (Own w1 (w.heap.size + 1) w1.heap.size u8s (runL mm 0 d) [.slice av d cv]) := own_bytes hob (Nat.le_refl _)
  have G1 : Hid (w.grownBy w1 (some b)) := grown_trans (World.grownBy_alloc w _ _) hg1
  have kR : ∀ o, w1.cell? ⟨w.heap.size, o, none⟩ = (#[.slice none 0 0, .slice none 0 0] : Array Value)[o]? := fun o => by
    rw [World.cell?_of_block (w := _) (a := ⟨w.heap.size, o, none⟩) (hg1.block w.heap.size (by simp) (by simp; omega))]; simp [go_sem]
  have fR : ∀ o, w1.frozen? ⟨w.heap.size, o, none⟩ = false := fun o => by
    rw [World.frozen?_of_block (w := _) (a := ⟨w.heap.size, o, none⟩) (hg1.block w.heap.size (by simp) (by simp; omega))]; simp [go_sem]
  have HM1 : Hid (MapIs w1 b N (delM mm 0 d)) := hm1
  have d4 : d ≤ 400 := by omega
  have HDn : Hid (mm d = none) := by show mm d = none; simpa using hdn
  have z1 : w.heap.size < w1.heap.size := by omega
  rw [runL_len]
  clear hob hm1 hg1 hsz hdn hdall HM hd4
  go_wp2_with fail
  obtain ⟨gb, hgb⟩ : ∃ gb, gb = w1.heap.size := ⟨_, rfl⟩
  rw [← hgb]
  obtain ⟨M, hM⟩ : ∃ M : Nat, M = 400 := ⟨_, rfl⟩
  have HMM : Hid (M = 400) := hM
  clear hM
  obtain ⟨w2, hw2⟩ : ∃ W, W = w1.alloc (.cells #[.slice av d cv, .slice none 0 0] 26) := ⟨_, rfl⟩
  rw [← hw2]
  have hb2 : Below w1.heap.size w1 w2 := by rw [hw2]; exact (Below.refl _ _).alloc (Nat.le_refl _) _
  have hs2 : w2.heap.size = gb + 1 := by rw [hw2, hgb]; simp
  have REL0 : Hid (∃ (i c : Nat) (P : List Pc) (u : Value), (0 : Int) = (i : Int) ∧ i ≤ M ∧ d ≤ c ∧ c ≤ 400 ∧ Hid (mm c = none) ∧ Hid (∀ k : Nat, c ≤ k → k < i → mm k = none) ∧ Hid (P = pcsTo mm d (max i c - d)) ∧ Hid (MapIs w2 b N (delM mm 0 c)) ∧
      (∀ o, w2.cell? ⟨gb, o, none⟩ = (#[.slice av d cv, u] : Array Value)[o]?) ∧ (∀ o, w2.frozen? ⟨gb, o, none⟩ = false) ∧ Hid (Own w2 (gb + 1) w2.heap.size pcsS P [u]) ∧ gb < w2.heap.size ∧
      (∀ o, w2.cell? ⟨w.heap.size, o, none⟩ = (#[.slice none 0 0, .slice none 0 0] : Array Value)[o]?) ∧ (∀ o, w2.frozen? ⟨w.heap.size, o, none⟩ = false) ∧ Hid (Own w2 (w.heap.size + 1) gb u8s (runL mm 0 d) [.slice av d cv]) ∧ Hid (w.grownBy w2 (some b))) := by
    refine ⟨0, d, [], .slice none 0 0, rfl, by omega, Nat.le_refl _, d4, HDn, fun k hk hk2 => absurd hk2 (by omega), ?_, ?_, fun o => by rw [hw2, hgb]; simp, fun o => by rw [hw2, hgb]; simp [go_sem], ⟨[], Or.inl ⟨rfl, rfl, rfl⟩, by simp, by simp⟩, by omega, fun o => ?_, fun o => ?_, ?_, ?_⟩
    · show [] = pcsTo mm d (max 0 d - d)
      rw [show max 0 d - d = 0 by omega]; rfl
    · exact HM1.out.keepb (hb2.block b (by omega))
    · rw [(bcell hb2).1 _ o z1]; exact kR o
    · rw [(bcell hb2).2 _ o z1]; exact fR o
    · rw [hgb]; exact OD.out.below (Nat.le_refl _) hb2
    · exact grown_below G1.out (hb2.mono (by omega))
  have zg : w.heap.size < gb := by omega
  clear hw2 hb2 hs2 kR fR HM1 OD G1 z1 hgb
  go_loopw [4] (fun t4 wr => ∃ (i c : Nat) (P : List Pc) (u : Value), t4 = .int .i64 (i : Int) ∧ i ≤ M ∧ d ≤ c ∧ c ≤ 400 ∧ Hid (mm c = none) ∧ Hid (∀ k : Nat, c ≤ k → k < i → mm k = none) ∧ Hid (P = pcsTo mm d (max i c - d)) ∧ Hid (MapIs wr b N (delM mm 0 c)) ∧
      (∀ o, wr.cell? ⟨gb, o, none⟩ = (#[.slice av d cv, u] : Array Value)[o]?) ∧ (∀ o, wr.frozen? ⟨gb, o, none⟩ = false) ∧ Hid (Own wr (gb + 1) wr.heap.size pcsS P [u]) ∧ gb < wr.heap.size ∧
      (∀ o, wr.cell? ⟨w.heap.size, o, none⟩ = (#[.slice none 0 0, .slice none 0 0] : Array Value)[o]?) ∧ (∀ o, wr.frozen? ⟨w.heap.size, o, none⟩ = false) ∧ Hid (Own wr (w.heap.size + 1) gb u8s (runL mm 0 d) [.slice av d cv]) ∧ Hid (w.grownBy wr (some b))) (fun i _ => M - (intOf i).toNat)
  case atStart =>
    obtain ⟨i, c, P, u, e, r⟩ := REL0.out
    exact ⟨i, c, P, u, by rw [← e], r⟩
  case round =>
    obtain ⟨i, c, P, u, rfl, hi, hdc, hc4, hcn, hnone, hP, hmk, kg, fg, hown, zgr, kR, fR, hOD, hG⟩ := hrel
    clear REL0
    by_cases hlt : i < M
    · have hlt2 : (i : Int) < 400 := by have := HMM.out; omega
      have zb : w.heap.size < wr.heap.size := by omega
      go_wp2_with fail
      refine (iTakeRun b N (delM mm 0 c) i wr hmk.out (by omega) (by omega) (fun y hy => cut_z (HZ.out y hy)) (fun y c' h => HBd.out y c' (cut_s h))).mono ?_
      rintro e w3 ⟨v, j, rfl, hj4, hjall, hjn, hob, hm3, hg3⟩
      have kg3 : ∀ o, w3.cell? ⟨gb, o, none⟩ = (#[.slice av d cv, u] : Array Value)[o]? := fun o => by
        rw [World.cell?_of_block (w := wr) (a := ⟨gb, o, none⟩) (hg3.block gb zgr (by simp; omega))]; exact kg o
      have fg3 : ∀ o, w3.frozen? ⟨gb, o, none⟩ = false := fun o => by
        rw [World.frozen?_of_block (w := wr) (a := ⟨gb, o, none⟩) (hg3.block gb zgr (by simp; omega))]; exact fg o
      have kR3 : ∀ o, w3.cell? ⟨w.heap.size, o, none⟩ = (#[.slice none 0 0, .slice none 0 0] : Array Value)[o]? := fun o => by
        rw [World.cell?_of_block (w := wr) (a := ⟨w.heap.size, o, none⟩) (hg3.block w.heap.size zb (by simp; omega))]; exact kR o
      have fR3 : ∀ o, w3.frozen? ⟨w.heap.size, o, none⟩ = false := fun o => by
        rw [World.frozen?_of_block (w := wr) (a := ⟨w.heap.size, o, none⟩) (hg3.block w.heap.size zb (by simp; omega))]; exact fR o
      have own3 : Hid (Own w3 (gb + 1) wr.heap.size pcsS P [u]) := hown.out.keep fun x h1 h2 => hg3.block x h2 (by simp; omega)
      have OD3 : Hid (Own w3 (w.heap.size + 1) gb u8s (runL mm 0 d) [.slice av d cv]) := hOD.out.keep fun x h1 h2 => hg3.block x (by omega) (by simp; omega)
      have G3 : Hid (w.grownBy w3 (some b)) := grown_trans hG.out hg3
      have z3 : wr.heap.size ≤ w3.heap.size := hg3.size
      obtain ⟨a3, c3, e3, -⟩ := hob.rb
      subst e3
      rw [runL_len] at hob ⊢
      have HOB : Hid _ := hob
      have HM3 : Hid _ := hm3
      have HJall : Hid _ := hjall
      have HJn : Hid _ := hjn
      have zg3 : gb < w3.heap.size := by omega
      have P4 : P.length ≤ 1000000 := by have h1 := pcsTo_length mm d (max i c - d); have h2 := hP.out; rw [h2]; omega
      clear kg fg kR fR hob hm3 hg3 hjall hjn hmk hown hOD hG
      by_cases hj : j = 0
      · subst hj
        have hin : c ≤ i → mm i = none := fun h => by have := HJn.out; rw [cut_at (by omega)] at this; simpa using this
        have HP2 : Hid (P = pcsTo mm d (max (i + 1) c - d)) := by
          show _ = _
          have h := hP.out
          by_cases hic : c ≤ i
          · rw [h, show max i c - d = i - d by omega, show max (i + 1) c - d = (i - d) + 1 by omega, pcsTo_none]
            rw [show d + (i - d) = i by omega]; exact hin hic
          · rw [h]; congr 1; omega
        have HN2 : Hid (∀ k : Nat, c ≤ k → k < i + 1 → mm k = none) := fun k h1 h2 => (Nat.lt_or_eq_of_le (Nat.le_of_lt_succ h2)).elim (fun h => hnone.out k h1 h) (fun h => by subst h; exact hin h1)
        have HM4 : Hid (MapIs w3 b N (delM mm 0 c)) := HM3.out.congr fun y => delM_zero _ _ y
        have OW : Hid (Own w3 (gb + 1) w3.heap.size pcsS P [u]) := own3.out.mono (Nat.le_refl _) z3
        clear hin HOB HM3 HJall HJn hP hnone own3
        go_wp2_with fail
        go_roundw
        case rel => exact ⟨i + 1, c, P, u, by go_num, by omega, hdc, hc4, hcn, HN2, HP2, HM4, kg3, fg3, OW, zg3, kR3, fR3, OD3, G3⟩
        case measure => simp [intOf]; omega
      · have hj0 : 0 < j := by omega
        have hic : c < i := by
          have h0 := HJall.out 0 hj0
          apply Classical.byContradiction; intro hn
          by_cases e : i = c
          · subst e
            rw [cut_at (by omega)] at h0
            have := hcn.out
            simp at h0; rw [this] at h0; cases h0
          · rw [cut_no (by omega) (by omega)] at h0; cases h0
        have HP2 : Hid (P ++ [((i : Int), runL (delM mm 0 c) i j, ())] = pcsTo mm d (max (i + 1) (i + j) - d)) := by
          show _ = _
          have h := hP.out
          have hrun := pcsTo_run (mm := mm) (d := d) (i := i - d) (fun _ => by
            have := hnone.out (i - 1) (by omega) (by omega)
            rw [show (((d + (i - d) : Nat) : Int)) - 1 = ((i - 1 : Nat) : Int) by omega]; exact this) (j - 1) (fun k hk => by
            have := HJall.out k (by omega)
            rw [cut_at (by omega)] at this
            rw [show ((d + (i - d) : Nat) : Int) = (i : Int) by omega]; exact this)
          rw [h, runL_cut (by omega), show max (i + 1) (i + j) - d = (i - d) + (j - 1 + 1) by omega, hrun, show max i c - d = i - d by omega, show ((d + (i - d) : Nat) : Int) = (i : Int) by omega, show j - 1 + 1 = j by omega]
        have HN2 : Hid (∀ k : Nat, i + j ≤ k → k < i + 1 → mm k = none) := fun k h1 h2 => absurd h2 (by omega)
        have HC2 : Hid (mm ((i + j : Nat) : Int) = none) := by
          show _ = _
          have := HJn.out; rw [cut_at (by omega)] at this
          rw [show ((i + j : Nat) : Int) = (i : Int) + j by omega]; exact this
        have HM4 : Hid (MapIs w3 b N (delM mm 0 (i + j))) := HM3.out.congr fun y => cut_run (by omega) hnone.out y
        have OE : Hid (Own w3 wr.heap.size w3.heap.size pcS ((i : Int), runL (delM mm 0 c) i j, ()) [.int .i64 i, .slice a3 j c3]) :=
          Own.cons (Own.int w3 _ wr.heap.size (by simp [Lit.wf, IntKind.min, IntKind.max, IntKind.signed, IntKind.bits]; omega)) (Own.cons (own_bytes HOB.out (Nat.le_refl _)) (Own.nil _ _ _) z3 (Nat.le_refl _)) (Nat.le_refl _) z3
        have hjp : (0 : Int) < (j : Int) := by omega
        have HIJ : Hid (i + j ≤ 400) := by show _ ≤ _; omega
        obtain ⟨L2, hL2⟩ : ∃ L, L = P ++ [((i : Int), runL (delM mm 0 c) i j, ())] := ⟨_, rfl⟩
        have HL2 : Hid (L2 = P ++ [((i : Int), runL (delM mm 0 c) i j, ())]) := hL2
        rw [← hL2] at HP2
        clear hL2 HOB HM3 HJall HJn hP hnone hcn
        go_wp2_with (at_builtin; refine app_elem w3 rfl _ _ 24 87 rfl pcS (.agg #[.int .i64 0, .slice none 0 0]) 32 Try.underlying24 infoPc rfl (by decide) (by decide) (gb + 1) wr.heap.size wr.heap.size w3.heap.size P u (by rfl) (by rfl) own3.out _ [.int .i64 i, .slice a3 j c3] OE.out (by omega) (Nat.le_refl _) (Nat.le_refl _) (Nat.le_trans P4 (by omega)) (by omega) ?_; intro v4 w4 ho4 hb4 hk4 hs4; rw [← HL2.out] at ho4; obtain ⟨a4, c4, e4, -, -, -⟩ := rd_pcs (ho4.rd (Nat.le_refl _)); simp only [List.cons.injEq, and_true] at e4; subst e4; have kg4 : (∀ o, w4.cell? ⟨gb, o, none⟩ = (#[.slice av d cv, u] : Array Value)[o]?) := (fun o => (by rw [(bcellB hb4).1 _ o (by omega)]; exact kg3 o)); have fg4 : (∀ o, w4.frozen? ⟨gb, o, none⟩ = false) := (fun o => (by rw [(bcellB hb4).2 _ o (by omega)]; exact fg3 o)); have kR4 : (∀ o, w4.cell? ⟨w.heap.size, o, none⟩ = (#[.slice none 0 0, .slice none 0 0] : Array Value)[o]?) := (fun o => (by rw [(bcellB hb4).1 _ o (by omega)]; exact kR3 o)); have fR4 : (∀ o, w4.frozen? ⟨w.heap.size, o, none⟩ = false) := (fun o => (by rw [(bcellB hb4).2 _ o (by omega)]; exact fR3 o)); have HO4 : Hid _ := ho4; have HB4 : Hid _ := hb4; have zg4 : gb < w4.heap.size := (by omega); clear ho4 hb4 hk4 kg3 fg3 kR3 fR3)
        go_roundw
        case rel =>
          have hb5 : Below (gb + 1) w3 w4 := HB4.out
          refine ⟨i + 1, i + j, L2, .slice a4 L2.length c4, by go_num, by omega, by omega, HIJ.out, HC2, HN2, HP2, ?_, fun o => ?_, fun o => by rw [World.frozen?_setCell]; exact fg4 o, ?_, by simpa using zg4, fun o => ?_, fun o => by rw [World.frozen?_setCell]; exact fR4 o, ?_, ?_⟩
          · exact (HM4.out.keepb (hb5.block b (by omega))).keepb (by rw [Below.heap_setCell _ _ _ _ (by dsimp only; omega)])
          · by_cases e : o = 1
            · subst e; rw [World.cell?_setCell_same _ _ _ (kg4 1)]; rfl
            · rw [World.cell?_setCell_other _ _ _ _ (by first | (simp; done) | (simp; omega)), kg4 o]
              match o, e with
              | 0, _ => rfl
              | o + 2, _ => simp
          · refine Own.mono (Own.keep HO4.out fun x h1 h2 => ?_) (Nat.le_refl _) (by simp)
            rw [Below.heap_setCell _ _ _ _ (by dsimp only; omega)]
          · rw [World.cell?_setCell_other _ _ _ _ (by first | (simp; done) | (simp; omega))]; exact kR4 o
          · refine Own.keep OD3.out fun x h1 h2 => ?_
            rw [Below.heap_setCell _ _ _ _ (by dsimp only; omega)]
            exact hb5.block x (by omega)
          · exact grown_below G3.out ((hb5.mono (by omega)).setCell (by dsimp only; omega) _)
        case measure => simp [intOf]; omega
    · have hge : decide ((i : Int) < 400) = false := by have := HMM.out; simp; omega
      have HPe : Hid (P = pcsTo mm d (400 - d)) := by
        show _ = _
        have h := hP.out
        have := HMM.out
        rw [h]; congr 1; omega
      obtain ⟨a4, c4, e4, -, -, -⟩ := rd_pcs (hown.out.rd (Nat.le_refl _))
      simp only [List.cons.injEq, and_true] at e4
      subst e4
      clear hP hnone hcn hmk hlt HMM HZ HBd HDn
      go_wp2_with fail
      refine bodyPost_ret (v := .agg #[.slice av d cv, .slice a4 P.length c4]) (by simp [results, Try.results44, go_sem, kR]) rfl ⟨_, _, d, rfl, GP.out, ?_, ?_⟩
      · have h1 : Own wr (w.heap.size + 1) wr.heap.size gtS (runL mm 0 d, P, ()) [.slice av d cv, .slice a4 P.length c4] :=
          Own.cons (hOD.out.mono (Nat.le_refl _) (Nat.le_succ gb)) (Own.cons hown.out (Own.nil _ _ _) (by omega) (Nat.le_refl _)) (by omega) (by omega)
        rw [HPe.out] at h1
        refine Own.mono (Own.keep (w' := _) (by rw [HPe.out]; exact h1) fun x h1 h2 => ?_) (by omega) (by simp)
        repeat rw [Below.heap_setCell _ _ _ _ (by dsimp only; omega)]
      · have hB1 : Below w.heap.size wr wr := Below.refl _ _
        refine grown_below hG.out ?_
        clear kg fg kR fR hown hOD hG
        go_grown
end Go.Proofs.Ytnbcefdfdonljaa
