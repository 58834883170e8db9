/- What the model's UnpackSegment answers; nothing that was in memory turns; no condition but that there are at most a million bytes. -/
import Derived.Test.YtmiomnpfjigojaaRows
import Derived.Test.YtmiomnpfjigojaaBase
import Derived.Test.YtmiomnpfjigojaaBytes
import Derived.Test.YtmiomnpfjigojaaAppBytes
import Derived.Test.YtmiomnpfjigojaaApp
import Derived.Test.YtmiomnpfjigojaaSeg
import Derived.Test.YtmiomnpfjigojaaLaw
import Derived.Test.YtmiomnpfjigojaaSpecSeg
import Derived.Test.YtmiomnpfjigojaaSpecPack
import Derived.Test.YtmiomnpfjigojaaPackDef
import Derived.Test.YtmiomnpfjigojaaSpecL2
import Derived.Test.YtmiomnpfjigojaaPackWalks
import Derived.Test.YtmiomnpfjigojaaStrip
import Derived.Test.YtmiomnpfjigojaaTake
import Derived.Test.YtmiomnpfjigojaaRead
import Derived.Test.YtmiomnpfjigojaaStr
import Derived.Test.YtmiomnpfjigojaaUnpackFacts
import Derived.Test.YtmiomnpfjigojaaImplUnpack
import Derived.Deep.RegionHeld3
import Derived.Deep.CutRange
import Derived.Test.YtmiomnpfjigojaaRegionU
import Derived.Test.YtmiomnpfjigojaaRegionQ
import Derived.Deep.DeepCutAuto
namespace Go.Proofs.Ytmiomnpfjigojaa
open Go.RowKit
set_option linter.unusedVariables false
set_option linter.unusedSimpArgs false

theorem ob_off {w w' : World} {base : Nat} {v : Value} {l : List Int} (h : OB w base v l) (hb : ∀ g, v.ownBlock = some g → w'.heap[g]? = w.heap[g]?) : OB w' base v l := by
  refine ⟨?_, h.bd⟩
  obtain ⟨h1, h2 | ⟨g, cap, cur, rfl, hg, hh, r⟩⟩ := h.own
  · exact ⟨h1, Or.inl h2⟩
  · exact ⟨h1, Or.inr ⟨g, cap, cur, rfl, hg, by rw [hb g rfl]; exact hh, r⟩⟩
set_option maxRecDepth 8000 in
set_option maxHeartbeats 200000 in
theorem bx_seg {w : World} {b : Nat} {c0 c1 c2 c3 c4 c5 c6 c7 c8 c9 c10 c11 u0 u1 u2 u3 u4 u5 u6 u7 u8 u9 u10 u11 : Value} (h : ∀ o, w.cell? ⟨b, o, none⟩ = (#[c0, c1, c2, c3, c4, c5, c6, c7, c8, c9, c10, c11] : Array Value)[o]?) : ∀ o, ((((((((((((w.setCell ⟨b, 0, none⟩ u0).setCell ⟨b, 1, none⟩ u1).setCell ⟨b, 2, none⟩ u2).setCell ⟨b, 3, none⟩ u3).setCell ⟨b, 4, none⟩ u4).setCell ⟨b, 5, none⟩ u5).setCell ⟨b, 6, none⟩ u6).setCell ⟨b, 7, none⟩ u7).setCell ⟨b, 8, none⟩ u8).setCell ⟨b, 9, none⟩ u9).setCell ⟨b, 10, none⟩ u10).setCell ⟨b, 11, none⟩ u11).cell? ⟨b, o, none⟩ = (#[u0, u1, u2, u3, u4, u5, u6, u7, u8, u9, u10, u11] : Array Value)[o]? := by
  intro o
  have key : ∀ i, i < 12 → ∃ c, w.cell? ⟨b, i, none⟩ = some c := fun i hi => by
    rw [h i]
    exact ⟨_, Array.getElem?_eq_getElem (by simpa using hi)⟩
  match o with
  | 0 => obtain ⟨c, hc⟩ := key 0 (by omega); simp [go_sem, hc]
  | 1 => obtain ⟨c, hc⟩ := key 1 (by omega); simp [go_sem, hc]
  | 2 => obtain ⟨c, hc⟩ := key 2 (by omega); simp [go_sem, hc]
  | 3 => obtain ⟨c, hc⟩ := key 3 (by omega); simp [go_sem, hc]
  | 4 => obtain ⟨c, hc⟩ := key 4 (by omega); simp [go_sem, hc]
  | 5 => obtain ⟨c, hc⟩ := key 5 (by omega); simp [go_sem, hc]
  | 6 => obtain ⟨c, hc⟩ := key 6 (by omega); simp [go_sem, hc]
  | 7 => obtain ⟨c, hc⟩ := key 7 (by omega); simp [go_sem, hc]
  | 8 => obtain ⟨c, hc⟩ := key 8 (by omega); simp [go_sem, hc]
  | 9 => obtain ⟨c, hc⟩ := key 9 (by omega); simp [go_sem, hc]
  | 10 => obtain ⟨c, hc⟩ := key 10 (by omega); simp [go_sem, hc]
  | 11 => obtain ⟨c, hc⟩ := key 11 (by omega); simp [go_sem, hc]
  | o + 12 => simp [go_sem, h]
theorem seg_cases (s : Seg) (n : Nat) : segFault s n = 0 ∨ segFault s n = 1 ∨ segFault s n = 2 ∨ segFault s n = 3 := by
  unfold segFault
  split
  · simp
  · split
    · simp
    · split <;> simp
theorem bl_drewU {w w' : World} (k : Below w.drew.heap.size w.drew w') : Below w.heap.size w w' := (Below.drew (Below.refl _ _)).trans k
set_option maxRecDepth 8000 in
set_option maxHeartbeats 8000000 in
theorem sUnpack (l : List Int) (a : Option Addr) (n cap : Nat) (w : World) (hl : l.length = n) (hr : RB w a l) (hcap : n ≤ cap) (hm : cap ≤ 9223372036854775807) (hn : n ≤ 1048576) :
    Calls Try.prog 27 #[.slice a n cap] w fun e w' => ∃ v, e = .returned (.agg #[.int .i64 (upC l), .int .i64 (upS l).path, .int .i64 (upS l).frm, .bool (upS l).syn, .bool (upS l).ackd, .bool (upS l).rst, .int .i64 (upS l).seq, .int .i64 (upS l).ack, .int .i64 (upS l).fin, .int .i64 (upS l).opt, .int .i64 (upS l).a, .int .i64 (upS l).b, v]) ∧ OB w' w.heap.size v (upS l).load ∧ Below w.heap.size w w' := by
  by_cases h18 : n < 18
  · obtain ⟨e1, e2⟩ := up_short (l := l) (by omega)
    rw [e1, e2]
    unfold zSg
    simp only
    clear e1 e2 hr
    go_enter Try.func27, Try.ntmps27
    go_wp2_with fail
    go_returns
    exact ⟨_, rfl, OB.empty _ _, by go_grown⟩
  · have hnl : ¬ l.length < 18 := by omega
    rcases hr.mem with e | ⟨b, off, rfl, hc⟩
    · subst e; simp at hl; omega
    · have hlt := cell_lt (hc 0 (by omega))
      simp at hlt
      have HC : Hid (∀ W, Below w.heap.size w W → ∀ i, i < n → W.cell? ⟨b, off + i, none⟩ = some (.int .u8 (l.getD i 0))) := fun W h i hi => (h.cell (p := ⟨b, off + i, none⟩) hlt).trans (hc i (by omega))
      have HBD : Hid (∀ x ∈ l, 0 ≤ x ∧ x ≤ 255) := hr.bd
      have HRL : Hid (∀ W, Below w.heap.size w W → RB W (some ⟨b, off, none⟩) l) := fun W h => hr.below (Nat.le_refl _) h
      have HL : Hid (l.length = n) := hl
      clear hr hc hl
      obtain ⟨m, hm2⟩ : ∃ m, n = m + 2 := ⟨n - 2, by omega⟩
      subst hm2
      obtain ⟨C, hCC⟩ : ∃ C, upC l = C := ⟨_, rfl⟩
      obtain ⟨G, hGG⟩ : ∃ G, upS l = G := ⟨_, rfl⟩
      have HCG : Hid (upC l = C ∧ upS l = G) := ⟨hCC, hGG⟩
      rw [hCC, hGG]
      clear hCC hGG
      have i1 : (0 : Int) ≤ (m : Int) := by omega
      have i2 : (m : Int) ≤ (cap : Int) := by omega
      have i3 : (m : Int) ≤ ((m + 2 : Nat) : Int) := by omega
      have i4 : ((m + 2 : Nat) : Int) - 2 = (m : Int) := by omega
      have i5 : IntKind.i64.wrap (m : Int) = (m : Int) := by rw [IntKind.wrap_i64]; omega
      have HLM : Hid (upB l = l.take m) := by show _ = _; unfold upB; rw [HL.out]; rfl
      have HLD : Hid (l.length - 2 = m) := by show _ = _; rw [HL.out]; rfl
      have HRB : Hid (∀ W, Below w.heap.size w W → RB W (some ⟨b, off, none⟩) (l.take m)) := fun W h => ⟨fun x hx => HBD.out x (List.mem_of_mem_take hx), Or.inr ⟨b, off, rfl, fun i hi => by
        have hi' : i < m := by rw [List.length_take] at hi; omega
        refine (HC.out W h i (by omega)).trans ?_
        rw [List.getD_eq_getElem?_getD, List.getD_eq_getElem?_getD, List.getElem?_take_of_lt hi']⟩⟩
      have HT : Hid (∀ W, Below w.heap.size w W → Calls Try.prog 68 #[.slice (some ⟨b, off, none⟩) (m + 2) cap, .int .i64 m, .int .i64 2] W fun e w' => e = .returned (.int .i64 (takeN (l.drop m))) ∧ w' = W) := fun W h => by
        have := sTake (some ⟨b, off, none⟩) (m + 2) cap l m 2 W HL.out (HRL.out W h) (by omega) (by omega) (by omega) (by omega)
        rw [List.take_of_length_le (by have := HL.out; simp; omega)] at this
        exact this
      have HSB : Hid (∀ W, Below w.heap.size w W → Calls Try.prog 69 #[.slice (some ⟨b, off, none⟩) m cap] W fun e w' => e = .returned (.int .i64 (sumB (l.take m))) ∧ w' = W) := fun W h => sSumBytes (some ⟨b, off, none⟩) m cap (l.take m) W (by have := HL.out; simp; omega) (HRB.out W h) (by omega)
      have HSU : Hid (upSum l = decide (takeN (l.drop m) = sumB (l.take m))) := by show _ = _; unfold upSum; rw [HLM.out, HLD.out]
      have HMD : Hid (rdSeg (l.take m) = mdSeg l) := by have := md_rd (l := l) (by have := HL.out; omega) HBD.out; rw [HLD.out] at this; exact this
      have HFI : Hid (upFit l = (decide (segFault (mdSeg l) (mdSeg l).load.length = 0) && eqS (packR (mdSeg l)) l)) := by show _ = _; unfold upFit; rw [HLM.out, HMD.out]
      have HOK : Hid (upSum l = true → upFit l = true → C = 0 ∧ G = mdSeg l) := fun h1 h2 => by have := up_ok hnl h1 h2; rw [HLM.out, HMD.out, HCG.out.1, HCG.out.2] at this; exact this
      have HNF : Hid (upSum l = true → upFit l = false → C = 5 ∧ G = zSg) := fun h1 h2 => by have := up_fit hnl h1 h2; rw [HCG.out.1, HCG.out.2] at this; exact this
      have HNS : Hid (upSum l = false → C = 6 ∧ G = zSg) := fun h => by have := up_sum hnl h; rw [HCG.out.1, HCG.out.2] at this; exact this
      go_enter Try.func27, Try.ntmps27
      go_upto_region 4 with fail
      obtain ⟨W1, hW1⟩ : ∃ W1, w.alloc (.cells #[.int .i64 0, .int .i64 0, .int .i64 0, .bool false, .bool false, .bool false, .int .i64 0, .int .i64 0, .int .i64 0, .int .i64 0, .int .i64 0, .int .i64 0, .slice none 0 0] 42) = W1 := ⟨_, rfl⟩
      have BW : Hid (Below w.heap.size w W1) := by rw [← hW1]; exact (Below.refl _ _).alloc (Nat.le_refl _) _
      have kR : ∀ o, W1.cell? ⟨w.heap.size, o, none⟩ = (#[.int .i64 0, .int .i64 0, .int .i64 0, .bool false, .bool false, .bool false, .int .i64 0, .int .i64 0, .int .i64 0, .int .i64 0, .int .i64 0, .int .i64 0, .slice none 0 0] : Array Value)[o]? := by rw [← hW1]; intro o; simp [go_sem]
      have fR : ∀ o, W1.frozen? ⟨w.heap.size, o, none⟩ = false := by rw [← hW1]; intro o; simp [go_sem]
      have z1 : w.heap.size < W1.heap.size := by rw [← hW1]; simp
      simp only [hW1]
      clear hW1
      go_region_with (first | (go_at_call 68; refine (HT.out _ (by have h := BW.out; go_grown)).mono ?_; rintro e w' ⟨rfl, hw⟩; subst w') | (go_at_call 69; refine (HSB.out _ (by have h := BW.out; go_grown)).mono ?_; rintro e w' ⟨rfl, hw⟩; subst w'))
      obtain ⟨W2, hW2⟩ : ∃ W2, W1.drew = W2 := ⟨_, rfl⟩
      have b2 : Below W1.heap.size W1 W2 := by rw [← hW2]; exact Below.drew (Below.refl _ _)
      simp only [hW2]
      clear hW2
      replace kR := fun o => (b2.cell (p := ⟨w.heap.size, o, none⟩) z1).trans (kR o)
      replace fR := fun o => (b2.frozen (p := ⟨w.heap.size, o, none⟩) z1).trans (fR o)
      replace BW : Hid (Below w.heap.size w W2) := BW.out.trans (b2.mono BW.out.size)
      replace z1 := Nat.lt_of_lt_of_le z1 b2.size
      clear b2
      by_cases hS : takeN (l.drop m) = sumB (l.take m)
      · have hS' : (takeN (l.drop m) != sumB (l.take m)) = false := by simp [hS]
        have hU : upSum l = true := by rw [HSU.out]; simp [hS]
        replace HOK := HOK.out hU
        replace HNF := HNF.out hU
        generalize sumB (l.take m) = s2 at *
        generalize takeN (l.drop m) = s1 at *
        clear hS HSU HNS hU HT HSB HRB
        have H2 : Hid (∀ W, Below w.heap.size w W → Calls Try.prog 68 #[.slice (some ⟨b, off, none⟩) (m + 2) cap, .int .i64 2, .int .i64 2] W fun e w' => e = .returned (.int .i64 (takeN ((l.drop 2).take 2))) ∧ w' = W) := fun W h => sTake (some ⟨b, off, none⟩) (m + 2) cap l 2 2 W HL.out (HRL.out W h) (by omega) (by omega) (by omega) (by omega)
        have H4 : Hid (∀ W, Below w.heap.size w W → Calls Try.prog 68 #[.slice (some ⟨b, off, none⟩) (m + 2) cap, .int .i64 4, .int .i64 2] W fun e w' => e = .returned (.int .i64 (takeN ((l.drop 4).take 2))) ∧ w' = W) := fun W h => sTake (some ⟨b, off, none⟩) (m + 2) cap l 4 2 W HL.out (HRL.out W h) (by omega) (by omega) (by omega) (by omega)
        have H6 : Hid (∀ W, Below w.heap.size w W → Calls Try.prog 68 #[.slice (some ⟨b, off, none⟩) (m + 2) cap, .int .i64 6, .int .i64 2] W fun e w' => e = .returned (.int .i64 (takeN ((l.drop 6).take 2))) ∧ w' = W) := fun W h => sTake (some ⟨b, off, none⟩) (m + 2) cap l 6 2 W HL.out (HRL.out W h) (by omega) (by omega) (by omega) (by omega)
        have H9 : Hid (∀ W, Below w.heap.size w W → Calls Try.prog 68 #[.slice (some ⟨b, off, none⟩) (m + 2) cap, .int .i64 9, .int .i64 3] W fun e w' => e = .returned (.int .i64 (takeN ((l.drop 9).take 3))) ∧ w' = W) := fun W h => sTake (some ⟨b, off, none⟩) (m + 2) cap l 9 3 W HL.out (HRL.out W h) (by omega) (by omega) (by omega) (by omega)
        have H12 : Hid (∀ W, Below w.heap.size w W → Calls Try.prog 68 #[.slice (some ⟨b, off, none⟩) (m + 2) cap, .int .i64 12, .int .i64 3] W fun e w' => e = .returned (.int .i64 (takeN ((l.drop 12).take 3))) ∧ w' = W) := fun W h => sTake (some ⟨b, off, none⟩) (m + 2) cap l 12 3 W HL.out (HRL.out W h) (by omega) (by omega) (by omega) (by omega)
        have HD : Hid (∀ W, Below w.heap.size w W → RB W (some ⟨b, off + 16, none⟩) ((l.drop 16).take (m - 16))) := fun W h => ⟨fun x hx => HBD.out x (List.mem_of_mem_drop (List.mem_of_mem_take hx)), Or.inr ⟨b, off + 16, rfl, fun i hi => by
          have hi' : i < m - 16 := by rw [List.length_take] at hi; omega
          rw [show off + 16 + i = off + (16 + i) by omega]
          refine (HC.out W h (16 + i) (by omega)).trans ?_
          rw [List.getD_eq_getElem?_getD, List.getD_eq_getElem?_getD, List.getElem?_take_of_lt hi', List.getElem?_drop]⟩⟩
        have HDL : Hid (((l.drop 16).take (m - 16)).length = m - 16) := by show _ = _; have := HL.out; simp; omega
        have bd : ∀ k, k < m + 2 → 0 ≤ l.getD k 0 ∧ l.getD k 0 ≤ 255 := fun k hk => getD_bd HBD.out k (by have := HL.out; omega)
        obtain ⟨x00, x01⟩ := bd 0 (by omega)
        obtain ⟨x10, x11⟩ := bd 1 (by omega)
        obtain ⟨x80, x81⟩ := bd 8 (by omega)
        have c0 := HC.out W2 BW.out 0 (by omega)
        have c1 := HC.out W2 BW.out 1 (by omega)
        have c8 := HC.out W2 BW.out 8 (by omega)
        rw [Nat.add_zero] at c0
        have HC0 : ∀ W, Below w.heap.size w W → W.cell? ⟨b, off, none⟩ = some (.int .u8 (l.getD 0 0)) := fun W h => by have := HC.out W h 0 (by omega); rwa [Nat.add_zero] at this
        have HC8 : ∀ W, Below w.heap.size w W → W.cell? ⟨b, off + 8, none⟩ = some (.int .u8 (l.getD 8 0)) := fun W h => HC.out W h 8 (by omega)
        have HMS : Hid (mdSeg l = ⟨l.getD 0 0 / 2, l.getD 0 0 % 2, l.getD 1 0 % 2 == 1, l.getD 1 0 / 2 % 2 == 1, l.getD 1 0 / 4 % 2 == 1, takeN ((l.drop 2).take 2), takeN ((l.drop 4).take 2), takeN ((l.drop 6).take 2), l.getD 8 0, takeN ((l.drop 9).take 3), takeN ((l.drop 12).take 3), (l.drop 16).take (m - 16)⟩) := by show _ = _; unfold mdSeg; rw [show l.length - 18 = m - 16 by have := HL.out; omega]
        clear bd HBD
        generalize l.getD 0 0 = x0 at *
        generalize l.getD 1 0 = x1 at *
        generalize l.getD 8 0 = x8 at *
        generalize takeN ((l.drop 2).take 2) = t2 at *
        generalize takeN ((l.drop 4).take 2) = t4 at *
        generalize takeN ((l.drop 6).take 2) = t6 at *
        generalize takeN ((l.drop 9).take 3) = t9 at *
        generalize takeN ((l.drop 12).take 3) = t12 at *
        generalize (l.drop 16).take (m - 16) = D at *
        have j0 : (0 : Int) < (m : Int) + 2 := by omega
        have jn0 : 0 < m + 2 := by omega
        have jn8 : 8 < m + 2 := by omega
        have j8 : (8 : Int) < (m : Int) + 2 := by omega
        have j16 : (16 : Int) ≤ (m : Int) := by omega
        have j1 : (1 : Int) < ((m + 2 : Nat) : Int) := by omega
        have hcap16 : ¬ cap = 16 := by omega
        have ew0 : IntKind.i64.wrap x0 = x0 := by rw [IntKind.wrap_i64]; omega
        have ew8 : IntKind.i64.wrap x8 = x8 := by rw [IntKind.wrap_i64]; omega
        have ed0 : x0.tdiv 2 = x0 / 2 := Int.tdiv_eq_ediv_of_nonneg x00
        have em0 : x0.tmod 2 = x0 % 2 := Int.tmod_eq_emod_of_nonneg x00
        have ed1 : x1.tdiv 2 = x1 / 2 := Int.tdiv_eq_ediv_of_nonneg x10
        have ed4 : x1.tdiv 4 = x1 / 4 := Int.tdiv_eq_ediv_of_nonneg x10
        have em1 : x1.tmod 2 = x1 % 2 := Int.tmod_eq_emod_of_nonneg x10
        have ew02 : IntKind.i64.wrap (x0 / 2) = x0 / 2 := by rw [IntKind.wrap_i64]; omega
        have ew12 : IntKind.u8.wrap (x1 / 2) = x1 / 2 := by rw [IntKind.wrap_u8]; omega
        have ew14 : IntKind.u8.wrap (x1 / 4) = x1 / 4 := by rw [IntKind.wrap_u8]; omega
        have em12 : (x1 / 2).tmod 2 = x1 / 2 % 2 := Int.tmod_eq_emod_of_nonneg (by omega)
        have em14 : (x1 / 4).tmod 2 = x1 / 4 % 2 := Int.tmod_eq_emod_of_nonneg (by omega)
        have hbz : b < W2.heap.size := Nat.lt_of_lt_of_le hlt BW.out.size
        have hb1 : b ≠ W2.heap.size := by omega
        have hb1' : W2.heap.size ≠ b := by omega
        have hb2 : b ≠ W2.heap.size + 1 := by omega
        have hb2' : W2.heap.size + 1 ≠ b := by omega
        go_upto_region 7 with fail
        have HQ0 : Hid (∀ W, Below w.heap.size w W → W.cell? ⟨b, off, none⟩ = some (.int .u8 x0)) := HC0
        have HQ8 : Hid (∀ W, Below w.heap.size w W → W.cell? ⟨b, off + 8, none⟩ = some (.int .u8 x8)) := HC8
        go_cut [5] (fun u wx => ∃ (p : Nat) (va : Option Addr) (vc : Nat), u = .pointer (some ⟨p, 0, none⟩) ∧ (∀ o, wx.cell? ⟨p, o, none⟩ = (#[.int .i64 (x0 / 2), .int .i64 (x0 % 2), .bool (x1 % 2 == 1), .bool (x1 / 2 % 2 == 1), .bool (x1 / 4 % 2 == 1), .int .i64 t2, .int .i64 t4, .int .i64 t6, .int .i64 x8, .int .i64 t9, .int .i64 t12, .slice va (m - 16) vc] : Array Value)[o]?) ∧ p < wx.heap.size ∧ W2.heap.size ≤ p ∧ Hid (OB wx W2.heap.size (.slice va (m - 16) vc) D) ∧ Hid (Below W2.heap.size W2 wx))
        case first =>
          refine wp_region_noPanic ?_
          refine Goes.start (S := fun w' => Below w.heap.size w w') (z := 43) (by kernel_rfl) ?_
          refine Goes.take (i := 0) (oi := ?oi1) (x := ?vx1) ?ho1 (by kernel_rfl) (by kernel_rfl) (by kernel_rfl) (by kernel_rfl) (fun _ _ _ h => h) (Or.inl ⟨?hw1, ?hy1⟩) (by have h := BW.out; first | assumption | go_grown) ?rest1
          case ho1 => (simp only [List.getElem?_toArray, List.getElem?_cons_succ, List.getElem?_cons_zero]; rfl)
          case hw1 => rfl
          case hy1 => (intro w' hSw; go_simp; (try with_reducible rfl))
          case rest1 =>
          (try simp only [Act.put, List.setIfInBounds_toArray, List.set_cons_zero, List.set_cons_succ])
          refine Goes.take (i := 1) (oi := ?oi2) (x := ?vx2) ?ho2 (by kernel_rfl) (by kernel_rfl) (by kernel_rfl) (by kernel_rfl) (fun _ _ _ h => h) (Or.inl ⟨?hw2, ?hy2⟩) (by have h := BW.out; first | assumption | go_grown) ?rest2
          case ho2 => (simp only [List.getElem?_toArray, List.getElem?_cons_succ, List.getElem?_cons_zero]; rfl)
          case hw2 => rfl
          case hy2 => (intro w' hSw; go_simp; (try with_reducible rfl))
          case rest2 =>
          (try simp only [Act.put, List.setIfInBounds_toArray, List.set_cons_zero, List.set_cons_succ])
          refine Goes.take (i := 2) (oi := ?oi3) (x := ?vx3) ?ho3 (by kernel_rfl) (by kernel_rfl) (by kernel_rfl) (by kernel_rfl) (fun _ _ _ h => h) (Or.inl ⟨?hw3, ?hy3⟩) (by have h := BW.out; first | assumption | go_grown) ?rest3
          case ho3 => (simp only [List.getElem?_toArray, List.getElem?_cons_succ, List.getElem?_cons_zero]; rfl)
          case hw3 => rfl
          case hy3 => (intro w' hSw; have q0 := HQ0.out w' hSw; go_simp; (try with_reducible rfl))
          case rest3 =>
          (try simp only [Act.put, List.setIfInBounds_toArray, List.set_cons_zero, List.set_cons_succ])
          refine Goes.take (i := 3) (oi := ?oi4) (x := ?vx4) ?ho4 (by kernel_rfl) (by kernel_rfl) (by kernel_rfl) (by kernel_rfl) (fun _ _ _ h => h) (Or.inl ⟨?hw4, ?hy4⟩) (by have h := BW.out; first | assumption | go_grown) ?rest4
          case ho4 => (simp only [List.getElem?_toArray, List.getElem?_cons_succ, List.getElem?_cons_zero]; rfl)
          case hw4 => rfl
          case hy4 => (intro w' hSw; go_simp; (try with_reducible rfl))
          case rest4 =>
          (try simp only [Act.put, List.setIfInBounds_toArray, List.set_cons_zero, List.set_cons_succ])
          refine Goes.take (i := 4) (oi := ?oi5) (x := ?vx5) ?ho5 (by kernel_rfl) (by kernel_rfl) (by kernel_rfl) (by kernel_rfl) (fun _ _ _ h => h) (Or.inl ⟨?hw5, ?hy5⟩) (by have h := BW.out; first | assumption | go_grown) ?rest5
          case ho5 => (simp only [List.getElem?_toArray, List.getElem?_cons_succ, List.getElem?_cons_zero]; rfl)
          case hw5 => rfl
          case hy5 => (intro w' hSw; go_simp; (try with_reducible rfl))
          case rest5 =>
          (try simp only [Act.put, List.setIfInBounds_toArray, List.set_cons_zero, List.set_cons_succ])
          refine Goes.take (i := 5) (oi := ?oi6) (x := ?vx6) ?ho6 (by kernel_rfl) (by kernel_rfl) (by kernel_rfl) (by kernel_rfl) (fun _ _ _ h => h) (Or.inl ⟨?hw6, ?hy6⟩) (by have h := BW.out; first | assumption | go_grown) ?rest6
          case ho6 => (simp only [List.getElem?_toArray, List.getElem?_cons_succ, List.getElem?_cons_zero]; rfl)
          case hw6 => rfl
          case hy6 => (intro w' hSw; go_simp; (try with_reducible rfl))
          case rest6 =>
          (try simp only [Act.put, List.setIfInBounds_toArray, List.set_cons_zero, List.set_cons_succ])
          refine Goes.take (i := 6) (oi := ?oi7) (x := ?vx7) ?ho7 (by kernel_rfl) (by kernel_rfl) (by kernel_rfl) (by kernel_rfl) (fun _ _ _ h => h) (Or.inl ⟨?hw7, ?hy7⟩) (by have h := BW.out; first | assumption | go_grown) ?rest7
          case ho7 => (simp only [List.getElem?_toArray, List.getElem?_cons_succ, List.getElem?_cons_zero]; rfl)
          case hw7 => rfl
          case hy7 => (intro w' hSw; go_simp; (try with_reducible rfl))
          case rest7 =>
          (try simp only [Act.put, List.setIfInBounds_toArray, List.set_cons_zero, List.set_cons_succ])
          refine Goes.take (i := 7) (oi := ?oi8) (x := ?vx8) ?ho8 (by kernel_rfl) (by kernel_rfl) (by kernel_rfl) (by kernel_rfl) (fun _ _ _ h => h) (Or.inl ⟨?hw8, ?hy8⟩) (by have h := BW.out; first | assumption | go_grown) ?rest8
          case ho8 => (simp only [List.getElem?_toArray, List.getElem?_cons_succ, List.getElem?_cons_zero]; rfl)
          case hw8 => rfl
          case hy8 => (intro w' hSw; have q0 := HQ0.out w' hSw; go_simp; (try with_reducible rfl))
          case rest8 =>
          (try simp only [Act.put, List.setIfInBounds_toArray, List.set_cons_zero, List.set_cons_succ])
          refine Goes.take (i := 8) (oi := ?oi9) (x := ?vx9) ?ho9 (by kernel_rfl) (by kernel_rfl) (by kernel_rfl) (by kernel_rfl) (fun _ _ _ h => h) (Or.inl ⟨?hw9, ?hy9⟩) (by have h := BW.out; first | assumption | go_grown) ?rest9
          case ho9 => (simp only [List.getElem?_toArray, List.getElem?_cons_succ, List.getElem?_cons_zero]; rfl)
          case hw9 => rfl
          case hy9 => (intro w' hSw; go_simp; (try with_reducible rfl))
          case rest9 =>
          (try simp only [Act.put, List.setIfInBounds_toArray, List.set_cons_zero, List.set_cons_succ])
          refine Goes.take (i := 9) (oi := ?oi10) (x := ?vx10) ?ho10 (by kernel_rfl) (by kernel_rfl) (by kernel_rfl) (by kernel_rfl) (fun _ _ _ h => h) (Or.inl ⟨?hw10, ?hy10⟩) (by have h := BW.out; first | assumption | go_grown) ?rest10
          case ho10 => (simp only [List.getElem?_toArray, List.getElem?_cons_succ, List.getElem?_cons_zero]; rfl)
          case hw10 => rfl
          case hy10 => (intro w' hSw; go_simp; (try with_reducible rfl))
          case rest10 =>
          (try simp only [Act.put, List.setIfInBounds_toArray, List.set_cons_zero, List.set_cons_succ])
          refine Goes.take (i := 10) (oi := ?oi11) (x := ?vx11) ?ho11 (by kernel_rfl) (by kernel_rfl) (by kernel_rfl) (by kernel_rfl) (fun _ _ _ h => h) (Or.inl ⟨?hw11, ?hy11⟩) (by have h := BW.out; first | assumption | go_grown) ?rest11
          case ho11 => (simp only [List.getElem?_toArray, List.getElem?_cons_succ, List.getElem?_cons_zero]; rfl)
          case hw11 => rfl
          case hy11 => (intro w' hSw; go_simp; (try with_reducible rfl))
          case rest11 =>
          (try simp only [Act.put, List.setIfInBounds_toArray, List.set_cons_zero, List.set_cons_succ])
          refine Goes.take (i := 11) (oi := ?oi12) (x := ?vx12) ?ho12 (by kernel_rfl) (by kernel_rfl) (by kernel_rfl) (by kernel_rfl) (fun _ _ _ h => h) (Or.inl ⟨?hw12, ?hy12⟩) (by have h := BW.out; first | assumption | go_grown) ?rest12
          case ho12 => (simp only [List.getElem?_toArray, List.getElem?_cons_succ, List.getElem?_cons_zero]; rfl)
          case hw12 => rfl
          case hy12 => (intro w' hSw; go_simp; (try with_reducible rfl))
          case rest12 =>
          (try simp only [Act.put, List.setIfInBounds_toArray, List.set_cons_zero, List.set_cons_succ])
          refine Goes.take (i := 12) (oi := ?oi13) (x := ?vx13) ?ho13 (by kernel_rfl) (by kernel_rfl) (by kernel_rfl) (by kernel_rfl) (fun _ _ _ h => h) (Or.inl ⟨?hw13, ?hy13⟩) (by have h := BW.out; first | assumption | go_grown) ?rest13
          case ho13 => (simp only [List.getElem?_toArray, List.getElem?_cons_succ, List.getElem?_cons_zero]; rfl)
          case hw13 => rfl
          case hy13 => (intro w' hSw; go_simp; (try with_reducible rfl))
          case rest13 =>
          (try simp only [Act.put, List.setIfInBounds_toArray, List.set_cons_zero, List.set_cons_succ])
          refine Goes.take (i := 13) (oi := ?oi14) (x := ?vx14) ?ho14 (by kernel_rfl) (by kernel_rfl) (by kernel_rfl) (by kernel_rfl) (fun _ _ _ h => h) (Or.inl ⟨?hw14, ?hy14⟩) (by have h := BW.out; first | assumption | go_grown) ?rest14
          case ho14 => (simp only [List.getElem?_toArray, List.getElem?_cons_succ, List.getElem?_cons_zero]; rfl)
          case hw14 => rfl
          case hy14 => (intro w' hSw; go_simp; (try with_reducible rfl))
          case rest14 =>
          (try simp only [Act.put, List.setIfInBounds_toArray, List.set_cons_zero, List.set_cons_succ])
          refine Goes.take (i := 14) (oi := ?oi15) (x := ?vx15) ?ho15 (by kernel_rfl) (by kernel_rfl) (by kernel_rfl) (by kernel_rfl) (fun _ _ _ h => h) (Or.inl ⟨?hw15, ?hy15⟩) (by have h := BW.out; first | assumption | go_grown) ?rest15
          case ho15 => (simp only [List.getElem?_toArray, List.getElem?_cons_succ, List.getElem?_cons_zero]; rfl)
          case hw15 => rfl
          case hy15 => (intro w' hSw; go_simp; (try with_reducible rfl))
          case rest15 =>
          (try simp only [Act.put, List.setIfInBounds_toArray, List.set_cons_zero, List.set_cons_succ])
          refine Goes.take (i := 15) (oi := ?oi16) (x := ?vx16) ?ho16 (by kernel_rfl) (by kernel_rfl) (by kernel_rfl) (by kernel_rfl) (fun _ _ _ h => h) (Or.inl ⟨?hw16, ?hy16⟩) (by have h := BW.out; first | assumption | go_grown) ?rest16
          case ho16 => (simp only [List.getElem?_toArray, List.getElem?_cons_succ, List.getElem?_cons_zero]; rfl)
          case hw16 => rfl
          case hy16 => (intro w' hSw; go_simp; (try with_reducible rfl))
          case rest16 =>
          (try simp only [Act.put, List.setIfInBounds_toArray, List.set_cons_zero, List.set_cons_succ])
          refine Goes.take (i := 16) (oi := ?oi17) (x := ?vx17) ?ho17 (by kernel_rfl) (by kernel_rfl) (by kernel_rfl) (by kernel_rfl) (fun _ _ _ h => h) (Or.inl ⟨?hw17, ?hy17⟩) (by have h := BW.out; first | assumption | go_grown) ?rest17
          case ho17 => (simp only [List.getElem?_toArray, List.getElem?_cons_succ, List.getElem?_cons_zero]; rfl)
          case hw17 => rfl
          case hy17 => (intro w' hSw; go_simp; (try with_reducible rfl))
          case rest17 =>
          (try simp only [Act.put, List.setIfInBounds_toArray, List.set_cons_zero, List.set_cons_succ])
          refine Goes.take (i := 17) (oi := ?oi18) (x := ?vx18) ?ho18 (by kernel_rfl) (by kernel_rfl) (by kernel_rfl) (by kernel_rfl) (fun _ _ _ h => h) (Or.inl ⟨?hw18, ?hy18⟩) (by have h := BW.out; first | assumption | go_grown) ?rest18
          case ho18 => (simp only [List.getElem?_toArray, List.getElem?_cons_succ, List.getElem?_cons_zero]; rfl)
          case hw18 => rfl
          case hy18 => (intro w' hSw; go_simp; (try with_reducible rfl))
          case rest18 =>
          (try simp only [Act.put, List.setIfInBounds_toArray, List.set_cons_zero, List.set_cons_succ])
          refine Goes.take (i := 18) (oi := ?oi19) (x := ?vx19) ?ho19 (by kernel_rfl) (by kernel_rfl) (by kernel_rfl) (by kernel_rfl) (fun _ _ _ h => h) (Or.inl ⟨?hw19, ?hy19⟩) (by have h := BW.out; first | assumption | go_grown) ?rest19
          case ho19 => (simp only [List.getElem?_toArray, List.getElem?_cons_succ, List.getElem?_cons_zero]; rfl)
          case hw19 => rfl
          case hy19 => (intro w' hSw; go_simp; (try with_reducible rfl))
          case rest19 =>
          (try simp only [Act.put, List.setIfInBounds_toArray, List.set_cons_zero, List.set_cons_succ])
          refine Goes.take (i := 19) (oi := ?oi20) (x := ?vx20) ?ho20 (by kernel_rfl) (by kernel_rfl) (by kernel_rfl) (by kernel_rfl) (fun _ _ _ h => h) (Or.inl ⟨?hw20, ?hy20⟩) (by have h := BW.out; first | assumption | go_grown) ?rest20
          case ho20 => (simp only [List.getElem?_toArray, List.getElem?_cons_succ, List.getElem?_cons_zero]; rfl)
          case hw20 => rfl
          case hy20 => (intro w' hSw; go_simp; (try with_reducible rfl))
          case rest20 =>
          (try simp only [Act.put, List.setIfInBounds_toArray, List.set_cons_zero, List.set_cons_succ])
          refine Goes.take (i := 20) (oi := ?oi21) (x := ?vx21) ?ho21 (by kernel_rfl) (by kernel_rfl) (by kernel_rfl) (by kernel_rfl) (fun _ _ _ h => h) (Or.inl ⟨?hw21, ?hy21⟩) (by have h := BW.out; first | assumption | go_grown) ?rest21
          case ho21 => (simp only [List.getElem?_toArray, List.getElem?_cons_succ, List.getElem?_cons_zero]; rfl)
          case hw21 => rfl
          case hy21 => (intro w' hSw; go_simp; (try with_reducible rfl))
          case rest21 =>
          (try simp only [Act.put, List.setIfInBounds_toArray, List.set_cons_zero, List.set_cons_succ])
          refine Goes.take (i := 21) (oi := ?oi22) (x := ?vx22) ?ho22 (by kernel_rfl) (by kernel_rfl) (by kernel_rfl) (by kernel_rfl) (fun _ _ _ h => h) (Or.inl ⟨?hw22, ?hy22⟩) (by have h := BW.out; first | assumption | go_grown) ?rest22
          case ho22 => (simp only [List.getElem?_toArray, List.getElem?_cons_succ, List.getElem?_cons_zero]; rfl)
          case hw22 => rfl
          case hy22 => (intro w' hSw; go_simp; (try with_reducible rfl))
          case rest22 =>
          (try simp only [Act.put, List.setIfInBounds_toArray, List.set_cons_zero, List.set_cons_succ])
          refine Goes.call (i := 22) (oi := ?oi23) (x := .int .i64 t2) ?ho23 (by kernel_rfl) (by kernel_rfl) (by kernel_rfl) (by kernel_rfl) (fun _ _ _ h => h) ?hq23 (by have h := BW.out; first | assumption | go_grown) ?rest23
          case ho23 => (simp only [List.getElem?_toArray, List.getElem?_cons_succ, List.getElem?_cons_zero]; rfl)
          case hq23 => exact ⟨rfl, fun w' hSw => ⟨68, #[.slice (some ⟨b, off, none⟩) (m + 2) cap, .int .i64 2, .int .i64 2], (by go_simp), H2.out w' hSw⟩⟩
          case rest23 =>
          (try simp only [Act.put, List.setIfInBounds_toArray, List.set_cons_zero, List.set_cons_succ])
          refine Goes.take (i := 23) (oi := ?oi24) (x := ?vx24) ?ho24 (by kernel_rfl) (by kernel_rfl) (by kernel_rfl) (by kernel_rfl) (fun _ _ _ h => h) (Or.inl ⟨?hw24, ?hy24⟩) (by have h := BW.out; first | assumption | go_grown) ?rest24
          case ho24 => (simp only [List.getElem?_toArray, List.getElem?_cons_succ, List.getElem?_cons_zero]; rfl)
          case hw24 => rfl
          case hy24 => (intro w' hSw; go_simp; (try with_reducible rfl))
          case rest24 =>
          (try simp only [Act.put, List.setIfInBounds_toArray, List.set_cons_zero, List.set_cons_succ])
          refine Goes.call (i := 24) (oi := ?oi25) (x := .int .i64 t4) ?ho25 (by kernel_rfl) (by kernel_rfl) (by kernel_rfl) (by kernel_rfl) (fun _ _ _ h => h) ?hq25 (by have h := BW.out; first | assumption | go_grown) ?rest25
          case ho25 => (simp only [List.getElem?_toArray, List.getElem?_cons_succ, List.getElem?_cons_zero]; rfl)
          case hq25 => exact ⟨rfl, fun w' hSw => ⟨68, #[.slice (some ⟨b, off, none⟩) (m + 2) cap, .int .i64 4, .int .i64 2], (by go_simp), H4.out w' hSw⟩⟩
          case rest25 =>
          (try simp only [Act.put, List.setIfInBounds_toArray, List.set_cons_zero, List.set_cons_succ])
          refine Goes.take (i := 25) (oi := ?oi26) (x := ?vx26) ?ho26 (by kernel_rfl) (by kernel_rfl) (by kernel_rfl) (by kernel_rfl) (fun _ _ _ h => h) (Or.inl ⟨?hw26, ?hy26⟩) (by have h := BW.out; first | assumption | go_grown) ?rest26
          case ho26 => (simp only [List.getElem?_toArray, List.getElem?_cons_succ, List.getElem?_cons_zero]; rfl)
          case hw26 => rfl
          case hy26 => (intro w' hSw; go_simp; (try with_reducible rfl))
          case rest26 =>
          (try simp only [Act.put, List.setIfInBounds_toArray, List.set_cons_zero, List.set_cons_succ])
          refine Goes.call (i := 26) (oi := ?oi27) (x := .int .i64 t6) ?ho27 (by kernel_rfl) (by kernel_rfl) (by kernel_rfl) (by kernel_rfl) (fun _ _ _ h => h) ?hq27 (by have h := BW.out; first | assumption | go_grown) ?rest27
          case ho27 => (simp only [List.getElem?_toArray, List.getElem?_cons_succ, List.getElem?_cons_zero]; rfl)
          case hq27 => exact ⟨rfl, fun w' hSw => ⟨68, #[.slice (some ⟨b, off, none⟩) (m + 2) cap, .int .i64 6, .int .i64 2], (by go_simp), H6.out w' hSw⟩⟩
          case rest27 =>
          (try simp only [Act.put, List.setIfInBounds_toArray, List.set_cons_zero, List.set_cons_succ])
          refine Goes.take (i := 27) (oi := ?oi28) (x := ?vx28) ?ho28 (by kernel_rfl) (by kernel_rfl) (by kernel_rfl) (by kernel_rfl) (fun _ _ _ h => h) (Or.inl ⟨?hw28, ?hy28⟩) (by have h := BW.out; first | assumption | go_grown) ?rest28
          case ho28 => (simp only [List.getElem?_toArray, List.getElem?_cons_succ, List.getElem?_cons_zero]; rfl)
          case hw28 => rfl
          case hy28 => (intro w' hSw; go_simp; (try with_reducible rfl))
          case rest28 =>
          (try simp only [Act.put, List.setIfInBounds_toArray, List.set_cons_zero, List.set_cons_succ])
          refine Goes.take (i := 28) (oi := ?oi29) (x := ?vx29) ?ho29 (by kernel_rfl) (by kernel_rfl) (by kernel_rfl) (by kernel_rfl) (fun _ _ _ h => h) (Or.inl ⟨?hw29, ?hy29⟩) (by have h := BW.out; first | assumption | go_grown) ?rest29
          case ho29 => (simp only [List.getElem?_toArray, List.getElem?_cons_succ, List.getElem?_cons_zero]; rfl)
          case hw29 => rfl
          case hy29 => (intro w' hSw; go_simp; (try with_reducible rfl))
          case rest29 =>
          (try simp only [Act.put, List.setIfInBounds_toArray, List.set_cons_zero, List.set_cons_succ])
          refine Goes.take (i := 29) (oi := ?oi30) (x := ?vx30) ?ho30 (by kernel_rfl) (by kernel_rfl) (by kernel_rfl) (by kernel_rfl) (fun _ _ _ h => h) (Or.inl ⟨?hw30, ?hy30⟩) (by have h := BW.out; first | assumption | go_grown) ?rest30
          case ho30 => (simp only [List.getElem?_toArray, List.getElem?_cons_succ, List.getElem?_cons_zero]; rfl)
          case hw30 => rfl
          case hy30 => (intro w' hSw; have q8 := HQ8.out w' hSw; go_simp; (try with_reducible rfl))
          case rest30 =>
          (try simp only [Act.put, List.setIfInBounds_toArray, List.set_cons_zero, List.set_cons_succ])
          refine Goes.take (i := 30) (oi := ?oi31) (x := ?vx31) ?ho31 (by kernel_rfl) (by kernel_rfl) (by kernel_rfl) (by kernel_rfl) (fun _ _ _ h => h) (Or.inl ⟨?hw31, ?hy31⟩) (by have h := BW.out; first | assumption | go_grown) ?rest31
          case ho31 => (simp only [List.getElem?_toArray, List.getElem?_cons_succ, List.getElem?_cons_zero]; rfl)
          case hw31 => rfl
          case hy31 => (intro w' hSw; go_simp; (try with_reducible rfl))
          case rest31 =>
          (try simp only [Act.put, List.setIfInBounds_toArray, List.set_cons_zero, List.set_cons_succ])
          refine Goes.take (i := 31) (oi := ?oi32) (x := ?vx32) ?ho32 (by kernel_rfl) (by kernel_rfl) (by kernel_rfl) (by kernel_rfl) (fun _ _ _ h => h) (Or.inl ⟨?hw32, ?hy32⟩) (by have h := BW.out; first | assumption | go_grown) ?rest32
          case ho32 => (simp only [List.getElem?_toArray, List.getElem?_cons_succ, List.getElem?_cons_zero]; rfl)
          case hw32 => rfl
          case hy32 => (intro w' hSw; go_simp; (try with_reducible rfl))
          case rest32 =>
          (try simp only [Act.put, List.setIfInBounds_toArray, List.set_cons_zero, List.set_cons_succ])
          refine Goes.call (i := 32) (oi := ?oi33) (x := .int .i64 t9) ?ho33 (by kernel_rfl) (by kernel_rfl) (by kernel_rfl) (by kernel_rfl) (fun _ _ _ h => h) ?hq33 (by have h := BW.out; first | assumption | go_grown) ?rest33
          case ho33 => (simp only [List.getElem?_toArray, List.getElem?_cons_succ, List.getElem?_cons_zero]; rfl)
          case hq33 => exact ⟨rfl, fun w' hSw => ⟨68, #[.slice (some ⟨b, off, none⟩) (m + 2) cap, .int .i64 9, .int .i64 3], (by go_simp), H9.out w' hSw⟩⟩
          case rest33 =>
          (try simp only [Act.put, List.setIfInBounds_toArray, List.set_cons_zero, List.set_cons_succ])
          refine Goes.take (i := 33) (oi := ?oi34) (x := ?vx34) ?ho34 (by kernel_rfl) (by kernel_rfl) (by kernel_rfl) (by kernel_rfl) (fun _ _ _ h => h) (Or.inl ⟨?hw34, ?hy34⟩) (by have h := BW.out; first | assumption | go_grown) ?rest34
          case ho34 => (simp only [List.getElem?_toArray, List.getElem?_cons_succ, List.getElem?_cons_zero]; rfl)
          case hw34 => rfl
          case hy34 => (intro w' hSw; go_simp; (try with_reducible rfl))
          case rest34 =>
          (try simp only [Act.put, List.setIfInBounds_toArray, List.set_cons_zero, List.set_cons_succ])
          refine Goes.call (i := 34) (oi := ?oi35) (x := .int .i64 t12) ?ho35 (by kernel_rfl) (by kernel_rfl) (by kernel_rfl) (by kernel_rfl) (fun _ _ _ h => h) ?hq35 (by have h := BW.out; first | assumption | go_grown) ?rest35
          case ho35 => (simp only [List.getElem?_toArray, List.getElem?_cons_succ, List.getElem?_cons_zero]; rfl)
          case hq35 => exact ⟨rfl, fun w' hSw => ⟨68, #[.slice (some ⟨b, off, none⟩) (m + 2) cap, .int .i64 12, .int .i64 3], (by go_simp), H12.out w' hSw⟩⟩
          case rest35 =>
          (try simp only [Act.put, List.setIfInBounds_toArray, List.set_cons_zero, List.set_cons_succ])
          refine Goes.take (i := 36) (oi := ?oi36) (x := ?vx36) ?ho36 (by kernel_rfl) (by kernel_rfl) (by kernel_rfl) (by kernel_rfl) (fun _ _ _ h => h) (Or.inl ⟨?hw36, ?hy36⟩) (by have h := BW.out; first | assumption | go_grown) ?rest36
          case ho36 => (simp only [List.getElem?_toArray, List.getElem?_cons_succ, List.getElem?_cons_zero]; rfl)
          case hw36 => rfl
          case hy36 => (intro w' hSw; go_simp; (try with_reducible rfl))
          case rest36 =>
          (try simp only [Act.put, List.setIfInBounds_toArray, List.set_cons_zero, List.set_cons_succ])
          refine Goes.take (i := 37) (oi := ?oi37) (x := ?vx37) ?ho37 (by kernel_rfl) (by kernel_rfl) (by kernel_rfl) (by kernel_rfl) (fun _ _ _ h => h) (Or.inl ⟨?hw37, ?hy37⟩) (by have h := BW.out; first | assumption | go_grown) ?rest37
          case ho37 => (simp only [List.getElem?_toArray, List.getElem?_cons_succ, List.getElem?_cons_zero]; rfl)
          case hw37 => rfl
          case hy37 => (intro w' hSw; go_simp; (try with_reducible rfl))
          case rest37 =>
          (try simp only [Act.put, List.setIfInBounds_toArray, List.set_cons_zero, List.set_cons_succ])
          refine Goes.take (i := 38) (oi := ?oi38) (x := ?vx38) ?ho38 (by kernel_rfl) (by kernel_rfl) (by kernel_rfl) (by kernel_rfl) (fun _ _ _ h => h) (Or.inl ⟨?hw38, ?hy38⟩) (by have h := BW.out; first | assumption | go_grown) ?rest38
          case ho38 => (simp only [List.getElem?_toArray, List.getElem?_cons_succ, List.getElem?_cons_zero]; rfl)
          case hw38 => rfl
          case hy38 => (intro w' hSw; go_simp; (try with_reducible rfl))
          case rest38 =>
          (try simp only [Act.put, List.setIfInBounds_toArray, List.set_cons_zero, List.set_cons_succ])
          refine Goes.take (i := 39) (oi := ?oi39) (x := ?vx39) ?ho39 (by kernel_rfl) (by kernel_rfl) (by kernel_rfl) (by kernel_rfl) (fun _ _ _ h => h) (Or.inl ⟨?hw39, ?hy39⟩) (by have h := BW.out; first | assumption | go_grown) ?rest39
          case ho39 => (simp only [List.getElem?_toArray, List.getElem?_cons_succ, List.getElem?_cons_zero]; rfl)
          case hw39 => rfl
          case hy39 => (intro w' hSw; go_simp; (try with_reducible rfl))
          case rest39 =>
          (try simp only [Act.put, List.setIfInBounds_toArray, List.set_cons_zero, List.set_cons_succ])
          refine Goes.all (rs := [35, 42]) (by kernel_rfl) (by simp) ?_
          refine Ups.cons (i := 35) (o := ?oo40) ?ho40 (fun KK hKK => ?stp40) ?more40
          case ho40 => (simp only [List.getElem?_toArray, List.getElem?_cons_succ, List.getElem?_cons_zero]; rfl)
          case stp40 =>
            go_simp
            refine hKK.out _ _ (Or.inr (by have h := BW.out; first | assumption | go_grown)) ?_
            clear hKK KK
            (try simp only [Act.put, List.setIfInBounds_toArray, List.set_cons_zero, List.set_cons_succ])
            refine Goes.all (rs := [40, 42]) (by kernel_rfl) (by simp) ?_
            refine Ups.cons (i := 40) (o := ?oo41) ?ho41 (fun KK hKK => ?stp41) ?more41
            case ho41 => (simp only [List.getElem?_toArray, List.getElem?_cons_succ, List.getElem?_cons_zero]; rfl)
            case stp41 =>
              refine app_st _ (by rfl) _ _ 22 22 (by rfl) Try.underlying22 Try.underlying22 W2.heap.size (.slice (some ⟨W2.heap.size, 0, none⟩) 0 0) [] (by rfl) (OB.below (OB.made W2 W2.heap.size (Nat.le_refl _)) (Nat.le_refl _) (Below.drew (Below.refl _ _))) (some ⟨b, off + 16, none⟩) D (m - 16) (cap - 16) HDL.out (by rfl) (HD.out _ (by have h := BW.out; go_grown)) (by intro h; cases h) (by simp; omega) (by first | (simp; done) | (simp; omega)) ?_
              intro v5 w5 ho5 hb5 hg5 hat5
              obtain ⟨va, vc, hv5, -, -⟩ := ho5.rbn
              rw [List.nil_append] at hv5 ho5
              rw [HDL.out] at hv5
              subst hv5
              have HO5 : Hid (OB w5 W2.heap.size (.slice va (m - 16) vc) D) := OB.mono ho5 (by omega)
              have hb25 : Below W2.heap.size W2 w5 := Below.trans (by go_grown) (hb5.mono (by omega))
              have HB5 : Hid (Below W2.heap.size W2 w5) := hb25
              have hBW5 : Below w.heap.size w w5 := BW.out.trans (hb25.mono BW.out.size)
              have hzw5 : w.heap.size ≤ w5.heap.size := hBW5.size
              clear ho5 hb5 hg5 hat5 hb25
              refine hKK.out _ _ (Or.inr (by have h := BW.out; first | assumption | go_grown)) ?_
              clear hKK KK
              (try simp only [Act.put, List.setIfInBounds_toArray, List.set_cons_zero, List.set_cons_succ])
              refine Goes.take (i := 41) (oi := ?oi42) (x := ?vx42) ?ho42 (by kernel_rfl) (by kernel_rfl) (by kernel_rfl) (by kernel_rfl) (fun _ _ _ h => h) (Or.inl ⟨?hw42, ?hy42⟩) (by have h := BW.out; first | assumption | go_grown) ?rest42
              case ho42 => (simp only [List.getElem?_toArray, List.getElem?_cons_succ, List.getElem?_cons_zero]; rfl)
              case hw42 => rfl
              case hy42 => (intro w' hSw; go_simp; (try with_reducible rfl))
              case rest42 =>
              (try simp only [Act.put, List.setIfInBounds_toArray, List.set_cons_zero, List.set_cons_succ])
              refine Goes.all (rs := [42]) (by kernel_rfl) (by simp) ?_
              refine Ups.cons (i := 42) (o := ?oo43) ?ho43 (fun KK hKK => ?stp43) ?more43
              case ho43 => (simp only [List.getElem?_toArray, List.getElem?_cons_succ, List.getElem?_cons_zero]; rfl)
              case stp43 =>
                go_simp
                refine hKK.out _ _ (Or.inr (by have h := BW.out; first | assumption | go_grown)) ?_
                clear hKK KK
                (try simp only [Act.put, List.setIfInBounds_toArray, List.set_cons_zero, List.set_cons_succ])
                refine Goes.all (rs := [43]) (by kernel_rfl) (by simp) ?_
                refine Ups.cons (i := 43) (o := ?oo44) ?ho44 (fun KK hKK => ?stp44) ?more44
                case ho44 => (simp only [List.getElem?_toArray, List.getElem?_cons_succ, List.getElem?_cons_zero]; rfl)
                case stp44 =>
                  go_simp
                  refine hKK.out _ _ (Or.inl rfl) ?_
                  clear hKK KK
                  (try simp only [Act.put, List.setIfInBounds_toArray, List.set_cons_zero, List.set_cons_succ])
                  refine Goes.done (by kernel_rfl) ?_ _
                  refine NoPanic.normal ?_
                  go_wp2_with fail
                  go_meet
                  exact ⟨w5.heap.size, va, vc, rfl, fun o => by simp [go_sem], by simp, HB5.out.size, OB.below HO5.out (Nat.le_refl _) ((Below.refl _ _).alloc (Nat.le_refl _) _), HB5.out.alloc HB5.out.size _⟩
                case more44 =>
                  exact Ups.nil
              case more43 =>
                exact Ups.nil
            case more41 =>
              refine Ups.cons (i := 42) (o := ?oo45) ?ho45 (fun KK hKK => ?stp45) ?more45
              case ho45 => (simp only [List.getElem?_toArray, List.getElem?_cons_succ, List.getElem?_cons_zero]; rfl)
              case stp45 =>
                go_simp
                refine hKK.out _ _ (Or.inr (by have h := BW.out; first | assumption | go_grown)) ?_
                clear hKK KK
                (try simp only [Act.put, List.setIfInBounds_toArray, List.set_cons_zero, List.set_cons_succ])
                refine Goes.all (rs := [40]) (by kernel_rfl) (by simp) ?_
                refine Ups.cons (i := 40) (o := ?oo46) ?ho46 (fun KK hKK => ?stp46) ?more46
                case ho46 => (simp only [List.getElem?_toArray, List.getElem?_cons_succ, List.getElem?_cons_zero]; rfl)
                case stp46 =>
                  refine app_st _ (by rfl) _ _ 22 22 (by rfl) Try.underlying22 Try.underlying22 W2.heap.size (.slice (some ⟨W2.heap.size, 0, none⟩) 0 0) [] (by rfl) (OB.below (OB.made W2 W2.heap.size (Nat.le_refl _)) (Nat.le_refl _) (((Below.refl _ _).alloc (Nat.le_refl _) _).drew)) (some ⟨b, off + 16, none⟩) D (m - 16) (cap - 16) HDL.out (by rfl) (HD.out _ (by have h := BW.out; go_grown)) (by intro h; cases h) (by simp; omega) (by first | (simp; done) | (simp; omega)) ?_
                  intro v5 w5 ho5 hb5 hg5 hat5
                  obtain ⟨va, vc, hv5, -, -⟩ := ho5.rbn
                  rw [List.nil_append] at hv5 ho5
                  rw [HDL.out] at hv5
                  subst hv5
                  have HO5 : Hid (OB w5 W2.heap.size (.slice va (m - 16) vc) D) := OB.mono ho5 (by omega)
                  have hb25 : Below W2.heap.size W2 w5 := Below.trans (by go_grown) (hb5.mono (by omega))
                  have HB5 : Hid (Below W2.heap.size W2 w5) := hb25
                  have hBW5 : Below w.heap.size w w5 := BW.out.trans (hb25.mono BW.out.size)
                  have hzw5 : w.heap.size ≤ w5.heap.size := hBW5.size
                  have hz5 : W2.heap.size + 1 < w5.heap.size := by have := hg5.size; simp at this; omega
                  have hk5 := hg5.block (W2.heap.size + 1) (by simp) (by simp [Value.ownBlock])
                  have k5 : ∀ o, w5.cell? ⟨W2.heap.size + 1, o, none⟩ = (#[.int .i64 0, .int .i64 0, .bool false, .bool false, .bool false, .int .i64 0, .int .i64 0, .int .i64 0, .int .i64 0, .int .i64 0, .int .i64 0, .slice none 0 0] : Array Value)[o]? := fun o => (World.cell?_of_block (a := ⟨W2.heap.size + 1, o, none⟩) hk5).trans (by simp [go_sem])
                  have f5 : ∀ o, w5.frozen? ⟨W2.heap.size + 1, o, none⟩ = false := fun o => (World.frozen?_of_block (a := ⟨W2.heap.size + 1, o, none⟩) hk5).trans (by simp [go_sem])
                  have hown5 : (Value.slice va (m - 16) vc).ownBlock ≠ some (W2.heap.size + 1) := by rcases hat5 with e | e <;> rw [e] <;> simp [Value.ownBlock]
                  clear ho5 hb5 hg5 hat5 hb25
                  refine hKK.out _ _ (Or.inr (by have h := BW.out; first | assumption | go_grown)) ?_
                  clear hKK KK
                  (try simp only [Act.put, List.setIfInBounds_toArray, List.set_cons_zero, List.set_cons_succ])
                  refine Goes.take (i := 41) (oi := ?oi47) (x := ?vx47) ?ho47 (by kernel_rfl) (by kernel_rfl) (by kernel_rfl) (by kernel_rfl) (fun _ _ _ h => h) (Or.inl ⟨?hw47, ?hy47⟩) (by have h := BW.out; first | assumption | go_grown) ?rest47
                  case ho47 => (simp only [List.getElem?_toArray, List.getElem?_cons_succ, List.getElem?_cons_zero]; rfl)
                  case hw47 => rfl
                  case hy47 => (intro w' hSw; go_simp; (try with_reducible rfl))
                  case rest47 =>
                  (try simp only [Act.put, List.setIfInBounds_toArray, List.set_cons_zero, List.set_cons_succ])
                  refine Goes.all (rs := [43]) (by kernel_rfl) (by simp) ?_
                  refine Ups.cons (i := 43) (o := ?oo48) ?ho48 (fun KK hKK => ?stp48) ?more48
                  case ho48 => (simp only [List.getElem?_toArray, List.getElem?_cons_succ, List.getElem?_cons_zero]; rfl)
                  case stp48 =>
                    go_simp
                    refine hKK.out _ _ (Or.inl rfl) ?_
                    clear hKK KK
                    (try simp only [Act.put, List.setIfInBounds_toArray, List.set_cons_zero, List.set_cons_succ])
                    refine Goes.done (by kernel_rfl) ?_ _
                    refine NoPanic.normal ?_
                    go_wp2_with fail
                    go_meet
                    refine ⟨W2.heap.size + 1, va, vc, rfl, bx_seg k5, by simpa using hz5, by omega, ob_off HO5.out (fun g e => ?_), (by show Below _ _ _; have h := HB5.out; go_grown)⟩
                    have hne : g ≠ W2.heap.size + 1 := fun e2 => hown5 (by rw [e, e2])
                    repeat rw [Below.heap_setCell _ _ _ _ (by dsimp only; omega)]
                  case more48 =>
                    exact Ups.nil
                case more46 =>
                  exact Ups.nil
              case more45 =>
                exact Ups.nil
          case more40 =>
            refine Ups.cons (i := 42) (o := ?oo49) ?ho49 (fun KK hKK => ?stp49) ?more49
            case ho49 => (simp only [List.getElem?_toArray, List.getElem?_cons_succ, List.getElem?_cons_zero]; rfl)
            case stp49 =>
              go_simp
              refine hKK.out _ _ (Or.inr (by have h := BW.out; first | assumption | go_grown)) ?_
              clear hKK KK
              (try simp only [Act.put, List.setIfInBounds_toArray, List.set_cons_zero, List.set_cons_succ])
              refine Goes.all (rs := [35]) (by kernel_rfl) (by simp) ?_
              refine Ups.cons (i := 35) (o := ?oo50) ?ho50 (fun KK hKK => ?stp50) ?more50
              case ho50 => (simp only [List.getElem?_toArray, List.getElem?_cons_succ, List.getElem?_cons_zero]; rfl)
              case stp50 =>
                go_simp
                refine hKK.out _ _ (Or.inr (by have h := BW.out; first | assumption | go_grown)) ?_
                clear hKK KK
                (try simp only [Act.put, List.setIfInBounds_toArray, List.set_cons_zero, List.set_cons_succ])
                refine Goes.all (rs := [40]) (by kernel_rfl) (by simp) ?_
                refine Ups.cons (i := 40) (o := ?oo51) ?ho51 (fun KK hKK => ?stp51) ?more51
                case ho51 => (simp only [List.getElem?_toArray, List.getElem?_cons_succ, List.getElem?_cons_zero]; rfl)
                case stp51 =>
                  refine app_st _ (by rfl) _ _ 22 22 (by rfl) Try.underlying22 Try.underlying22 (W2.heap.size + 1) (.slice (some ⟨(W2.heap.size + 1), 0, none⟩) 0 0) [] (by rfl) (by have h := OB.below (OB.made (W2.alloc (.cells #[.int .i64 0, .int .i64 0, .bool false, .bool false, .bool false, .int .i64 0, .int .i64 0, .int .i64 0, .int .i64 0, .int .i64 0, .int .i64 0, .slice none 0 0] 40)) (W2.heap.size + 1) (by simp)) (Nat.le_refl _) (Below.drew (Below.refl _ _)); simpa using h) (some ⟨b, off + 16, none⟩) D (m - 16) (cap - 16) HDL.out (by rfl) (HD.out _ (by have h := BW.out; go_grown)) (by intro h; cases h) (by simp; omega) (by first | (simp; done) | (simp; omega)) ?_
                  intro v5 w5 ho5 hb5 hg5 hat5
                  obtain ⟨va, vc, hv5, -, -⟩ := ho5.rbn
                  rw [List.nil_append] at hv5 ho5
                  rw [HDL.out] at hv5
                  subst hv5
                  have HO5 : Hid (OB w5 W2.heap.size (.slice va (m - 16) vc) D) := OB.mono ho5 (by omega)
                  have hb25 : Below W2.heap.size W2 w5 := Below.trans (by go_grown) (hb5.mono (by omega))
                  have HB5 : Hid (Below W2.heap.size W2 w5) := hb25
                  have hBW5 : Below w.heap.size w w5 := BW.out.trans (hb25.mono BW.out.size)
                  have hzw5 : w.heap.size ≤ w5.heap.size := hBW5.size
                  have hz5 : W2.heap.size < w5.heap.size := by have := hg5.size; simp at this; omega
                  have k5 : ∀ o, w5.cell? ⟨W2.heap.size, o, none⟩ = (#[.int .i64 0, .int .i64 0, .bool false, .bool false, .bool false, .int .i64 0, .int .i64 0, .int .i64 0, .int .i64 0, .int .i64 0, .int .i64 0, .slice none 0 0] : Array Value)[o]? := fun o => (hb5.cell (p := ⟨W2.heap.size, o, none⟩) (by simp)).trans (by simp [go_sem])
                  have f5 : ∀ o, w5.frozen? ⟨W2.heap.size, o, none⟩ = false := fun o => (hb5.frozen (p := ⟨W2.heap.size, o, none⟩) (by simp)).trans (by simp [go_sem])
                  have hown5 : ∀ g, (Value.slice va (m - 16) vc).ownBlock = some g → W2.heap.size + 1 ≤ g := fun g e => (OB.at ho5 g e).1
                  clear ho5 hb5 hg5 hat5 hb25
                  refine hKK.out _ _ (Or.inr (by have h := BW.out; first | assumption | go_grown)) ?_
                  clear hKK KK
                  (try simp only [Act.put, List.setIfInBounds_toArray, List.set_cons_zero, List.set_cons_succ])
                  refine Goes.take (i := 41) (oi := ?oi52) (x := ?vx52) ?ho52 (by kernel_rfl) (by kernel_rfl) (by kernel_rfl) (by kernel_rfl) (fun _ _ _ h => h) (Or.inl ⟨?hw52, ?hy52⟩) (by have h := BW.out; first | assumption | go_grown) ?rest52
                  case ho52 => (simp only [List.getElem?_toArray, List.getElem?_cons_succ, List.getElem?_cons_zero]; rfl)
                  case hw52 => rfl
                  case hy52 => (intro w' hSw; go_simp; (try with_reducible rfl))
                  case rest52 =>
                  (try simp only [Act.put, List.setIfInBounds_toArray, List.set_cons_zero, List.set_cons_succ])
                  refine Goes.all (rs := [43]) (by kernel_rfl) (by simp) ?_
                  refine Ups.cons (i := 43) (o := ?oo53) ?ho53 (fun KK hKK => ?stp53) ?more53
                  case ho53 => (simp only [List.getElem?_toArray, List.getElem?_cons_succ, List.getElem?_cons_zero]; rfl)
                  case stp53 =>
                    go_simp
                    refine hKK.out _ _ (Or.inl rfl) ?_
                    clear hKK KK
                    (try simp only [Act.put, List.setIfInBounds_toArray, List.set_cons_zero, List.set_cons_succ])
                    refine Goes.done (by kernel_rfl) ?_ _
                    refine NoPanic.normal ?_
                    go_wp2_with fail
                    go_meet
                    refine ⟨W2.heap.size, va, vc, rfl, bx_seg k5, by simpa using hz5, Nat.le_refl _, ob_off HO5.out (fun g e => ?_), (by show Below _ _ _; have h := HB5.out; go_grown)⟩
                    have hne := hown5 g e
                    repeat rw [Below.heap_setCell _ _ _ _ (by dsimp only; omega)]
                  case more53 =>
                    exact Ups.nil
                case more51 =>
                  exact Ups.nil
              case more50 =>
                exact Ups.nil
            case more49 =>
              exact Ups.nil
        case rest =>
        rename World => wx
        obtain ⟨p, va, vc, rfl, kS, zp, zq, ho, hb⟩ := hcut
        replace kR := fun o => (hb.cell (p := ⟨w.heap.size, o, none⟩) z1).trans (kR o)
        replace fR := fun o => (hb.frozen (p := ⟨w.heap.size, o, none⟩) z1).trans (fR o)
        have BX : Hid (Below w.heap.size w wx) := BW.out.trans (hb.mono BW.out.size)
        have zx : w.heap.size < wx.heap.size := Nat.lt_of_lt_of_le z1 hb.size
        replace kS : ∀ o, wx.cell? ⟨p, o, none⟩ = (#[.int .i64 (mdSeg l).path, .int .i64 (mdSeg l).frm, .bool (mdSeg l).syn, .bool (mdSeg l).ackd, .bool (mdSeg l).rst, .int .i64 (mdSeg l).seq, .int .i64 (mdSeg l).ack, .int .i64 (mdSeg l).fin, .int .i64 (mdSeg l).opt, .int .i64 (mdSeg l).a, .int .i64 (mdSeg l).b, .slice va (m - 16) vc] : Array Value)[o]? := by rw [HMS.out]; exact kS
        replace ho : OB wx W2.heap.size (.slice va (m - 16) vc) (mdSeg l).load := by rw [HMS.out]; exact ho
        have HDG : (mdSeg l).load.length = m - 16 := by rw [HMS.out]; exact HDL.out
        try clear H2
        try clear H4
        try clear H6
        try clear H9
        try clear H12
        try clear HD
        try clear HDL
        try clear x00
        try clear x01
        try clear x10
        try clear x11
        try clear x80
        try clear x81
        try clear c0
        try clear c1
        try clear c8
        try clear HC0
        try clear HC8
        try clear HMS
        try clear j0
        try clear jn0
        try clear jn8
        try clear j8
        try clear j16
        try clear j1
        try clear hcap16
        try clear ew0
        try clear ew8
        try clear ed0
        try clear em0
        try clear ed1
        try clear ed4
        try clear em1
        try clear ew02
        try clear ew12
        try clear ew14
        try clear em12
        try clear em14
        try clear hbz
        try clear hb1
        try clear hb1'
        try clear hb2
        try clear hb2'
        try clear HQ0
        try clear HQ8
        try clear HC
        try clear HLM
        try clear HLD
        try clear HMD
        try clear i1
        try clear i2
        try clear i3
        try clear i4
        try clear i5
        try clear h18
        try clear hnl
        try clear hS'
        generalize mdSeg l = g at *
        generalize m - 16 = N5 at *
        obtain ⟨a5, c5, he, hr5, hn5⟩ := ho.rbn
        injection he with h1 h2 h3
        subst h1
        subst h3
        clear h2
        have HNV : Hid (va = none → vc = 0) := hn5
        have HRV : Hid (∀ W, Below wx.heap.size wx W → RB W va g.load) := fun W h => hr5.below (Nat.le_refl _) h
        have HO : Hid (OB wx W2.heap.size (.slice va N5 vc) g.load) := ho
        have HGL : Hid (g.load.length = N5) := HDG
        clear hr5 hn5 ho HDG hb
        have HSF : Hid (∀ W, Calls Try.prog 29 #[.agg #[.int .i64 g.path, .int .i64 g.frm, .bool g.syn, .bool g.ackd, .bool g.rst, .int .i64 g.seq, .int .i64 g.ack, .int .i64 g.fin, .int .i64 g.opt, .int .i64 g.a, .int .i64 g.b, .slice va N5 vc]] W fun e w' => e = .returned (.int .i64 (segFault g N5)) ∧ Below W.heap.size W w') := fun W => sSegmentFault g va N5 vc W
        have HFT : Hid (segFault g N5 = 0 → eqS (packR g) l = true → C = 0 ∧ G = g) := fun h1 h2 => HOK (by rw [HFI.out, HGL.out, h2]; simp [h1])
        have HFN : Hid (segFault g N5 ≠ 0 ∨ eqS (packR g) l = false → C = 5 ∧ G = zSg) := fun h => HNF (by rw [HFI.out, HGL.out]; rcases h with h | h <;> simp [h])
        have HPK : Hid (segFault g N5 = 0 → ∀ W, Below wx.heap.size wx W → Calls Try.prog 70 #[.agg #[.int .i64 g.path, .int .i64 g.frm, .bool g.syn, .bool g.ackd, .bool g.rst, .int .i64 g.seq, .int .i64 g.ack, .int .i64 g.fin, .int .i64 g.opt, .int .i64 g.a, .int .i64 g.b, .slice va N5 vc]] W fun e w' => ∃ v, e = .returned v ∧ OB w' W.heap.size v (packR g) ∧ Below W.heap.size W w') := fun hf W h => by
          have h9 := sPack g va N5 vc W HGL.out (HRV.out W h) HNV.out (ok_of_fault (by rw [HGL.out]; exact hf))
          have e9 : packR g = packB g := by unfold packR; rw [HGL.out, if_pos hf]
          rw [e9]; exact h9
        have HCL : Hid (∀ W, Below w.heap.size w W → (convert 22 9 (.slice (some ⟨b, off, none⟩) (m + 2) cap)).run Try.prog W = .ok (.string (strOfNums l)) W) := fun W h => cv_str _ _ _ l W HL.out (HRL.out W h)
        clear HOK HNF HFI HRL HL HGL HNV BW
        have hFC := seg_cases g N5
        generalize segFault g N5 = F at *
        rcases hFC with hF | hF | hF | hF
        · subst hF
          replace HPK : Hid (∀ W, Below wx.heap.size wx W → Calls Try.prog 70 #[.agg #[.int .i64 g.path, .int .i64 g.frm, .bool g.syn, .bool g.ackd, .bool g.rst, .int .i64 g.seq, .int .i64 g.ack, .int .i64 g.fin, .int .i64 g.opt, .int .i64 g.a, .int .i64 g.b, .slice va N5 vc]] W fun e w' => ∃ v, e = .returned v ∧ OB w' W.heap.size v (packR g) ∧ Below W.heap.size W w') := HPK.out rfl
          replace HFT : Hid (eqS (packR g) l = true → C = 0 ∧ G = g) := HFT.out rfl
          replace HFN : Hid (eqS (packR g) l = false → C = 5 ∧ G = zSg) := fun h => HFN.out (Or.inr h)
          go_upto_region 8 with fail
          go_cut [77] (fun u wy => u = .bool (!(eqS (packR g) l)) ∧ Below wx.heap.size wx wy)
          case first =>
            clear HFT HFN HO
            go_region_with (first
              | (go_at_call 29; refine (HSF.out _).mono ?_; rintro e w6 ⟨rfl, hb6⟩; replace hb6 := bl_drewU hb6; have HB6 : Hid (Below wx.heap.size wx w6) := hb6; have p6 : ∀ o, w6.cell? ⟨p, o, none⟩ = (#[.int .i64 g.path, .int .i64 g.frm, .bool g.syn, .bool g.ackd, .bool g.rst, .int .i64 g.seq, .int .i64 g.ack, .int .i64 g.fin, .int .i64 g.opt, .int .i64 g.a, .int .i64 g.b, .slice va N5 vc] : Array Value)[o]? := fun o => (hb6.cell (p := ⟨p, o, none⟩) zp).trans (kS o); have cL6 := HCL.out w6 (BX.out.trans (hb6.mono BX.out.size)); clear hb6)
              | (go_at_call 70; (refine (HPK.out _ HB6.out).mono ?_; rintro e w7 ⟨v7, rfl, ho7, hb7⟩; obtain ⟨a7, c7, rfl, hr7, -⟩ := ho7.rbn; have HB7 : Hid (Below wx.heap.size wx w7) := HB6.out.trans (hb7.mono HB6.out.size); have cP7 := cv_str a7 _ c7 (packR g) w7 rfl hr7; have cL7 := HCL.out w7 (BX.out.trans (HB7.out.mono BX.out.size)); clear hb7 ho7 hr7)))
            all_goals (go_wp2_with fail; go_meet; exact ⟨by first | rfl | (simp [eqS]; done) | (simp [eqS, bne]; done), HB7.out⟩)
          case rest =>
          rename World => wy
          obtain ⟨rfl, hby⟩ := hcut
          have kY := fun o => (hby.cell (p := ⟨w.heap.size, o, none⟩) zx).trans (kR o)
          have fY := fun o => (hby.frozen (p := ⟨w.heap.size, o, none⟩) zx).trans (fR o)
          have kP : ∀ o, wy.cell? ⟨p, o, none⟩ = (#[.int .i64 g.path, .int .i64 g.frm, .bool g.syn, .bool g.ackd, .bool g.rst, .int .i64 g.seq, .int .i64 g.ack, .int .i64 g.fin, .int .i64 g.opt, .int .i64 g.a, .int .i64 g.b, .slice va N5 vc] : Array Value)[o]? := fun o => (hby.cell (p := ⟨p, o, none⟩) zp).trans (kS o)
          have BY : Hid (Below w.heap.size w wy) := BX.out.trans (hby.mono BX.out.size)
          have HOY : Hid (OB wy W2.heap.size (.slice va N5 vc) g.load) := HO.out.below (Nat.le_refl _) hby
          have zy : w.heap.size < wy.heap.size := Nat.lt_of_lt_of_le zx hby.size
          have zpy : p < wy.heap.size := Nat.lt_of_lt_of_le zp hby.size
          clear hby kR fR
          generalize eqS (packR g) l = E at *
          cases E with
          | true =>
            obtain ⟨e1, e2⟩ := HFT.out rfl
            clear HCG
            subst C
            subst G
            clear HFN HFT HSF HPK HCL HRV HO kS
            go_wp2_with fail
            refine bodyPost_ret (v := .agg #[.int .i64 0, .int .i64 g.path, .int .i64 g.frm, .bool g.syn, .bool g.ackd, .bool g.rst, .int .i64 g.seq, .int .i64 g.ack, .int .i64 g.fin, .int .i64 g.opt, .int .i64 g.a, .int .i64 g.b, .slice va N5 vc]) (by simp [results, Try.results27, go_sem, kY]) rfl ⟨.slice va N5 vc, rfl, ?_, ?_⟩
            · refine OB.mono (OB.keeps HOY.out fun h hg => ?_) (by omega)
              repeat rw [Below.heap_setCell _ _ _ _ (by dsimp only; omega)]
            · have hB1 := BY.out
              clear kY fY kP
              go_grown
          | false =>
            obtain ⟨e1, e2⟩ := HFN.out rfl
            clear HCG
            subst C
            subst G
            clear HFN HFT HSF HPK HCL HRV HO kS
            go_wp2_with fail
            refine bodyPost_ret (v := .agg #[.int .i64 5, .int .i64 0, .int .i64 0, .bool false, .bool false, .bool false, .int .i64 0, .int .i64 0, .int .i64 0, .int .i64 0, .int .i64 0, .int .i64 0, .slice none 0 0]) (by simp [results, Try.results27, go_sem, kY]) rfl ⟨.slice none 0 0, rfl, OB.empty _ _, ?_⟩
            have hB1 := BY.out
            clear kY fY kP
            go_grown
        · subst hF
          obtain ⟨e1, e2⟩ := HFN.out (Or.inl (by decide))
          clear HPK
          go_upto_region 8 with fail
          go_cut [77] (fun u wy => u = .bool true ∧ Below wx.heap.size wx wy)
          case first =>
            clear HFT HFN HO
            refine wp_region_noPanic ?_
            refine Goes.start (S := fun w' => Below wx.heap.size wx w') (z := 11) (by kernel_rfl) ?_
            refine Goes.take (i := 0) (oi := ?oik0_0) (x := ?vxk0_0) ?hok0_0 (by kernel_rfl) (by kernel_rfl) (by kernel_rfl) (by kernel_rfl) (fun _ _ _ h => h) (Or.inl ⟨?hwk0_0, ?hyk0_0⟩) (Below.drew (Below.refl _ _)) ?restk0_0
            case hok0_0 => (simp only [List.getElem?_toArray, List.getElem?_cons_succ, List.getElem?_cons_zero]; rfl)
            case hwk0_0 => rfl
            case hyk0_0 => (intro w' hSw; have q0 : ∀ o, w'.cell? ⟨p, o, none⟩ = (#[.int .i64 g.path, .int .i64 g.frm, .bool g.syn, .bool g.ackd, .bool g.rst, .int .i64 g.seq, .int .i64 g.ack, .int .i64 g.fin, .int .i64 g.opt, .int .i64 g.a, .int .i64 g.b, .slice va N5 vc] : Array Value)[o]? := fun o => (hSw.cell (p := ⟨p, o, none⟩) zp).trans (kS o); go_simp; (try with_reducible rfl))
            case restk0_0 =>
            (try simp only [Act.put, List.setIfInBounds_toArray, List.set_cons_zero, List.set_cons_succ])
            refine Goes.all (rs := [1]) (by kernel_rfl) (by simp) ?_
            refine Ups.cons (i := 1) (o := ?ook0_1) ?hok0_1 (fun KK hKK => ?stpk0_1) Ups.nil
            case hok0_1 => (simp only [List.getElem?_toArray, List.getElem?_cons_succ, List.getElem?_cons_zero]; rfl)
            case stpk0_1 =>
              go_simp
              go_at_call 29
              refine (HSF.out _).mono ?_
              rintro e w6 ⟨rfl, hb6⟩
              replace hb6 := bl_drewU hb6
              have HB6 : Hid (Below wx.heap.size wx w6) := hb6
              clear hb6
              dsimp only
              refine hKK.out _ _ (Or.inr HB6.out) ?_
              clear hKK KK
              (try simp only [Act.put, List.setIfInBounds_toArray, List.set_cons_zero, List.set_cons_succ])
              refine Goes.take (i := 2) (oi := ?oik0_2) (x := ?vxk0_2) ?hok0_2 (by kernel_rfl) (by kernel_rfl) (by kernel_rfl) (by kernel_rfl) (fun _ _ _ h => h) (Or.inl ⟨?hwk0_2, ?hyk0_2⟩) (HB6.out) ?restk0_2
              case hok0_2 => (simp only [List.getElem?_toArray, List.getElem?_cons_succ, List.getElem?_cons_zero]; rfl)
              case hwk0_2 => rfl
              case hyk0_2 => (intro w' hSw; go_simp; (try with_reducible rfl))
              case restk0_2 =>
              (try simp only [Act.put, List.setIfInBounds_toArray, List.set_cons_zero, List.set_cons_succ])
              refine Goes.take (i := 3) (oi := ?oik0_3) (x := ?vxk0_3) ?hok0_3 (by kernel_rfl) (by kernel_rfl) (by kernel_rfl) (by kernel_rfl) (fun _ _ _ h => h) (Or.inl ⟨?hwk0_3, ?hyk0_3⟩) (HB6.out) ?restk0_3
              case hok0_3 => (simp only [List.getElem?_toArray, List.getElem?_cons_succ, List.getElem?_cons_zero]; rfl)
              case hwk0_3 => rfl
              case hyk0_3 => (intro w' hSw; go_simp; (try with_reducible rfl))
              case restk0_3 =>
              (try simp only [Act.put, List.setIfInBounds_toArray, List.set_cons_zero, List.set_cons_succ])
              refine Goes.take (i := 4) (oi := ?oik0_4) (x := undef) ?hok0_4 (by kernel_rfl) (by kernel_rfl) (by kernel_rfl) (by kernel_rfl) (fun _ _ _ h => h) (Or.inr ⟨?hwk0_4, rfl⟩) (HB6.out) ?restk0_4
              case hok0_4 => (simp only [List.getElem?_toArray, List.getElem?_cons_succ, List.getElem?_cons_zero]; rfl)
              case hwk0_4 => rfl
              case restk0_4 =>
              (try simp only [Act.put, List.setIfInBounds_toArray, List.set_cons_zero, List.set_cons_succ])
              refine Goes.take (i := 5) (oi := ?oik0_5) (x := undef) ?hok0_5 (by kernel_rfl) (by kernel_rfl) (by kernel_rfl) (by kernel_rfl) (fun _ _ _ h => h) (Or.inr ⟨?hwk0_5, rfl⟩) (HB6.out) ?restk0_5
              case hok0_5 => (simp only [List.getElem?_toArray, List.getElem?_cons_succ, List.getElem?_cons_zero]; rfl)
              case hwk0_5 => rfl
              case restk0_5 =>
              (try simp only [Act.put, List.setIfInBounds_toArray, List.set_cons_zero, List.set_cons_succ])
              refine Goes.take (i := 6) (oi := ?oik0_6) (x := undef) ?hok0_6 (by kernel_rfl) (by kernel_rfl) (by kernel_rfl) (by kernel_rfl) (fun _ _ _ h => h) (Or.inr ⟨?hwk0_6, rfl⟩) (HB6.out) ?restk0_6
              case hok0_6 => (simp only [List.getElem?_toArray, List.getElem?_cons_succ, List.getElem?_cons_zero]; rfl)
              case hwk0_6 => rfl
              case restk0_6 =>
              (try simp only [Act.put, List.setIfInBounds_toArray, List.set_cons_zero, List.set_cons_succ])
              refine Goes.take (i := 7) (oi := ?oik0_7) (x := undef) ?hok0_7 (by kernel_rfl) (by kernel_rfl) (by kernel_rfl) (by kernel_rfl) (fun _ _ _ h => h) (Or.inr ⟨?hwk0_7, rfl⟩) (HB6.out) ?restk0_7
              case hok0_7 => (simp only [List.getElem?_toArray, List.getElem?_cons_succ, List.getElem?_cons_zero]; rfl)
              case hwk0_7 => rfl
              case restk0_7 =>
              (try simp only [Act.put, List.setIfInBounds_toArray, List.set_cons_zero, List.set_cons_succ])
              refine Goes.take (i := 8) (oi := ?oik0_8) (x := undef) ?hok0_8 (by kernel_rfl) (by kernel_rfl) (by kernel_rfl) (by kernel_rfl) (fun _ _ _ h => h) (Or.inr ⟨?hwk0_8, rfl⟩) (HB6.out) ?restk0_8
              case hok0_8 => (simp only [List.getElem?_toArray, List.getElem?_cons_succ, List.getElem?_cons_zero]; rfl)
              case hwk0_8 => rfl
              case restk0_8 =>
              (try simp only [Act.put, List.setIfInBounds_toArray, List.set_cons_zero, List.set_cons_succ])
              refine Goes.take (i := 9) (oi := ?oik0_9) (x := undef) ?hok0_9 (by kernel_rfl) (by kernel_rfl) (by kernel_rfl) (by kernel_rfl) (fun _ _ _ h => h) (Or.inr ⟨?hwk0_9, rfl⟩) (HB6.out) ?restk0_9
              case hok0_9 => (simp only [List.getElem?_toArray, List.getElem?_cons_succ, List.getElem?_cons_zero]; rfl)
              case hwk0_9 => rfl
              case restk0_9 =>
              (try simp only [Act.put, List.setIfInBounds_toArray, List.set_cons_zero, List.set_cons_succ])
              refine Goes.take (i := 10) (oi := ?oik0_10) (x := ?vxk0_10) ?hok0_10 (by kernel_rfl) (by kernel_rfl) (by kernel_rfl) (by kernel_rfl) (fun _ _ _ h => h) (Or.inl ⟨?hwk0_10, ?hyk0_10⟩) (HB6.out) ?restk0_10
              case hok0_10 => (simp only [List.getElem?_toArray, List.getElem?_cons_succ, List.getElem?_cons_zero]; rfl)
              case hwk0_10 => rfl
              case hyk0_10 => (intro w' hSw; go_simp; (try with_reducible rfl))
              case restk0_10 =>
              (try simp only [Act.put, List.setIfInBounds_toArray, List.set_cons_zero, List.set_cons_succ])
              refine Goes.done (by kernel_rfl) ?_ _
              refine NoPanic.normal ?_
              go_wp2_with fail
              go_meet
              exact ⟨rfl, HB6.out⟩
          case rest =>
          rename World => wy
          obtain ⟨rfl, hby⟩ := hcut
          have kY := fun o => (hby.cell (p := ⟨w.heap.size, o, none⟩) zx).trans (kR o)
          have fY := fun o => (hby.frozen (p := ⟨w.heap.size, o, none⟩) zx).trans (fR o)
          have kP : ∀ o, wy.cell? ⟨p, o, none⟩ = (#[.int .i64 g.path, .int .i64 g.frm, .bool g.syn, .bool g.ackd, .bool g.rst, .int .i64 g.seq, .int .i64 g.ack, .int .i64 g.fin, .int .i64 g.opt, .int .i64 g.a, .int .i64 g.b, .slice va N5 vc] : Array Value)[o]? := fun o => (hby.cell (p := ⟨p, o, none⟩) zp).trans (kS o)
          have BY : Hid (Below w.heap.size w wy) := BX.out.trans (hby.mono BX.out.size)
          have HOY : Hid (OB wy W2.heap.size (.slice va N5 vc) g.load) := HO.out.below (Nat.le_refl _) hby
          have zy : w.heap.size < wy.heap.size := Nat.lt_of_lt_of_le zx hby.size
          have zpy : p < wy.heap.size := Nat.lt_of_lt_of_le zp hby.size
          clear hby kR fR
          clear HCG
          subst C
          subst G
          clear HFN HFT HSF HCL HRV HO kS
          go_wp2_with fail
          refine bodyPost_ret (v := .agg #[.int .i64 5, .int .i64 0, .int .i64 0, .bool false, .bool false, .bool false, .int .i64 0, .int .i64 0, .int .i64 0, .int .i64 0, .int .i64 0, .int .i64 0, .slice none 0 0]) (by simp [results, Try.results27, go_sem, kY]) rfl ⟨.slice none 0 0, rfl, OB.empty _ _, ?_⟩
          have hB1 := BY.out
          clear kY fY kP
          go_grown
        · subst hF
          obtain ⟨e1, e2⟩ := HFN.out (Or.inl (by decide))
          clear HPK
          go_upto_region 8 with fail
          go_cut [77] (fun u wy => u = .bool true ∧ Below wx.heap.size wx wy)
          case first =>
            clear HFT HFN HO
            refine wp_region_noPanic ?_
            refine Goes.start (S := fun w' => Below wx.heap.size wx w') (z := 11) (by kernel_rfl) ?_
            refine Goes.take (i := 0) (oi := ?oik1_0) (x := ?vxk1_0) ?hok1_0 (by kernel_rfl) (by kernel_rfl) (by kernel_rfl) (by kernel_rfl) (fun _ _ _ h => h) (Or.inl ⟨?hwk1_0, ?hyk1_0⟩) (Below.drew (Below.refl _ _)) ?restk1_0
            case hok1_0 => (simp only [List.getElem?_toArray, List.getElem?_cons_succ, List.getElem?_cons_zero]; rfl)
            case hwk1_0 => rfl
            case hyk1_0 => (intro w' hSw; have q0 : ∀ o, w'.cell? ⟨p, o, none⟩ = (#[.int .i64 g.path, .int .i64 g.frm, .bool g.syn, .bool g.ackd, .bool g.rst, .int .i64 g.seq, .int .i64 g.ack, .int .i64 g.fin, .int .i64 g.opt, .int .i64 g.a, .int .i64 g.b, .slice va N5 vc] : Array Value)[o]? := fun o => (hSw.cell (p := ⟨p, o, none⟩) zp).trans (kS o); go_simp; (try with_reducible rfl))
            case restk1_0 =>
            (try simp only [Act.put, List.setIfInBounds_toArray, List.set_cons_zero, List.set_cons_succ])
            refine Goes.all (rs := [1]) (by kernel_rfl) (by simp) ?_
            refine Ups.cons (i := 1) (o := ?ook1_1) ?hok1_1 (fun KK hKK => ?stpk1_1) Ups.nil
            case hok1_1 => (simp only [List.getElem?_toArray, List.getElem?_cons_succ, List.getElem?_cons_zero]; rfl)
            case stpk1_1 =>
              go_simp
              go_at_call 29
              refine (HSF.out _).mono ?_
              rintro e w6 ⟨rfl, hb6⟩
              replace hb6 := bl_drewU hb6
              have HB6 : Hid (Below wx.heap.size wx w6) := hb6
              clear hb6
              dsimp only
              refine hKK.out _ _ (Or.inr HB6.out) ?_
              clear hKK KK
              (try simp only [Act.put, List.setIfInBounds_toArray, List.set_cons_zero, List.set_cons_succ])
              refine Goes.take (i := 2) (oi := ?oik1_2) (x := ?vxk1_2) ?hok1_2 (by kernel_rfl) (by kernel_rfl) (by kernel_rfl) (by kernel_rfl) (fun _ _ _ h => h) (Or.inl ⟨?hwk1_2, ?hyk1_2⟩) (HB6.out) ?restk1_2
              case hok1_2 => (simp only [List.getElem?_toArray, List.getElem?_cons_succ, List.getElem?_cons_zero]; rfl)
              case hwk1_2 => rfl
              case hyk1_2 => (intro w' hSw; go_simp; (try with_reducible rfl))
              case restk1_2 =>
              (try simp only [Act.put, List.setIfInBounds_toArray, List.set_cons_zero, List.set_cons_succ])
              refine Goes.take (i := 3) (oi := ?oik1_3) (x := ?vxk1_3) ?hok1_3 (by kernel_rfl) (by kernel_rfl) (by kernel_rfl) (by kernel_rfl) (fun _ _ _ h => h) (Or.inl ⟨?hwk1_3, ?hyk1_3⟩) (HB6.out) ?restk1_3
              case hok1_3 => (simp only [List.getElem?_toArray, List.getElem?_cons_succ, List.getElem?_cons_zero]; rfl)
              case hwk1_3 => rfl
              case hyk1_3 => (intro w' hSw; go_simp; (try with_reducible rfl))
              case restk1_3 =>
              (try simp only [Act.put, List.setIfInBounds_toArray, List.set_cons_zero, List.set_cons_succ])
              refine Goes.take (i := 4) (oi := ?oik1_4) (x := undef) ?hok1_4 (by kernel_rfl) (by kernel_rfl) (by kernel_rfl) (by kernel_rfl) (fun _ _ _ h => h) (Or.inr ⟨?hwk1_4, rfl⟩) (HB6.out) ?restk1_4
              case hok1_4 => (simp only [List.getElem?_toArray, List.getElem?_cons_succ, List.getElem?_cons_zero]; rfl)
              case hwk1_4 => rfl
              case restk1_4 =>
              (try simp only [Act.put, List.setIfInBounds_toArray, List.set_cons_zero, List.set_cons_succ])
              refine Goes.take (i := 5) (oi := ?oik1_5) (x := undef) ?hok1_5 (by kernel_rfl) (by kernel_rfl) (by kernel_rfl) (by kernel_rfl) (fun _ _ _ h => h) (Or.inr ⟨?hwk1_5, rfl⟩) (HB6.out) ?restk1_5
              case hok1_5 => (simp only [List.getElem?_toArray, List.getElem?_cons_succ, List.getElem?_cons_zero]; rfl)
              case hwk1_5 => rfl
              case restk1_5 =>
              (try simp only [Act.put, List.setIfInBounds_toArray, List.set_cons_zero, List.set_cons_succ])
              refine Goes.take (i := 6) (oi := ?oik1_6) (x := undef) ?hok1_6 (by kernel_rfl) (by kernel_rfl) (by kernel_rfl) (by kernel_rfl) (fun _ _ _ h => h) (Or.inr ⟨?hwk1_6, rfl⟩) (HB6.out) ?restk1_6
              case hok1_6 => (simp only [List.getElem?_toArray, List.getElem?_cons_succ, List.getElem?_cons_zero]; rfl)
              case hwk1_6 => rfl
              case restk1_6 =>
              (try simp only [Act.put, List.setIfInBounds_toArray, List.set_cons_zero, List.set_cons_succ])
              refine Goes.take (i := 7) (oi := ?oik1_7) (x := undef) ?hok1_7 (by kernel_rfl) (by kernel_rfl) (by kernel_rfl) (by kernel_rfl) (fun _ _ _ h => h) (Or.inr ⟨?hwk1_7, rfl⟩) (HB6.out) ?restk1_7
              case hok1_7 => (simp only [List.getElem?_toArray, List.getElem?_cons_succ, List.getElem?_cons_zero]; rfl)
              case hwk1_7 => rfl
              case restk1_7 =>
              (try simp only [Act.put, List.setIfInBounds_toArray, List.set_cons_zero, List.set_cons_succ])
              refine Goes.take (i := 8) (oi := ?oik1_8) (x := undef) ?hok1_8 (by kernel_rfl) (by kernel_rfl) (by kernel_rfl) (by kernel_rfl) (fun _ _ _ h => h) (Or.inr ⟨?hwk1_8, rfl⟩) (HB6.out) ?restk1_8
              case hok1_8 => (simp only [List.getElem?_toArray, List.getElem?_cons_succ, List.getElem?_cons_zero]; rfl)
              case hwk1_8 => rfl
              case restk1_8 =>
              (try simp only [Act.put, List.setIfInBounds_toArray, List.set_cons_zero, List.set_cons_succ])
              refine Goes.take (i := 9) (oi := ?oik1_9) (x := undef) ?hok1_9 (by kernel_rfl) (by kernel_rfl) (by kernel_rfl) (by kernel_rfl) (fun _ _ _ h => h) (Or.inr ⟨?hwk1_9, rfl⟩) (HB6.out) ?restk1_9
              case hok1_9 => (simp only [List.getElem?_toArray, List.getElem?_cons_succ, List.getElem?_cons_zero]; rfl)
              case hwk1_9 => rfl
              case restk1_9 =>
              (try simp only [Act.put, List.setIfInBounds_toArray, List.set_cons_zero, List.set_cons_succ])
              refine Goes.take (i := 10) (oi := ?oik1_10) (x := ?vxk1_10) ?hok1_10 (by kernel_rfl) (by kernel_rfl) (by kernel_rfl) (by kernel_rfl) (fun _ _ _ h => h) (Or.inl ⟨?hwk1_10, ?hyk1_10⟩) (HB6.out) ?restk1_10
              case hok1_10 => (simp only [List.getElem?_toArray, List.getElem?_cons_succ, List.getElem?_cons_zero]; rfl)
              case hwk1_10 => rfl
              case hyk1_10 => (intro w' hSw; go_simp; (try with_reducible rfl))
              case restk1_10 =>
              (try simp only [Act.put, List.setIfInBounds_toArray, List.set_cons_zero, List.set_cons_succ])
              refine Goes.done (by kernel_rfl) ?_ _
              refine NoPanic.normal ?_
              go_wp2_with fail
              go_meet
              exact ⟨rfl, HB6.out⟩
          case rest =>
          rename World => wy
          obtain ⟨rfl, hby⟩ := hcut
          have kY := fun o => (hby.cell (p := ⟨w.heap.size, o, none⟩) zx).trans (kR o)
          have fY := fun o => (hby.frozen (p := ⟨w.heap.size, o, none⟩) zx).trans (fR o)
          have kP : ∀ o, wy.cell? ⟨p, o, none⟩ = (#[.int .i64 g.path, .int .i64 g.frm, .bool g.syn, .bool g.ackd, .bool g.rst, .int .i64 g.seq, .int .i64 g.ack, .int .i64 g.fin, .int .i64 g.opt, .int .i64 g.a, .int .i64 g.b, .slice va N5 vc] : Array Value)[o]? := fun o => (hby.cell (p := ⟨p, o, none⟩) zp).trans (kS o)
          have BY : Hid (Below w.heap.size w wy) := BX.out.trans (hby.mono BX.out.size)
          have HOY : Hid (OB wy W2.heap.size (.slice va N5 vc) g.load) := HO.out.below (Nat.le_refl _) hby
          have zy : w.heap.size < wy.heap.size := Nat.lt_of_lt_of_le zx hby.size
          have zpy : p < wy.heap.size := Nat.lt_of_lt_of_le zp hby.size
          clear hby kR fR
          clear HCG
          subst C
          subst G
          clear HFN HFT HSF HCL HRV HO kS
          go_wp2_with fail
          refine bodyPost_ret (v := .agg #[.int .i64 5, .int .i64 0, .int .i64 0, .bool false, .bool false, .bool false, .int .i64 0, .int .i64 0, .int .i64 0, .int .i64 0, .int .i64 0, .int .i64 0, .slice none 0 0]) (by simp [results, Try.results27, go_sem, kY]) rfl ⟨.slice none 0 0, rfl, OB.empty _ _, ?_⟩
          have hB1 := BY.out
          clear kY fY kP
          go_grown
        · subst hF
          obtain ⟨e1, e2⟩ := HFN.out (Or.inl (by decide))
          clear HPK
          go_upto_region 8 with fail
          go_cut [77] (fun u wy => u = .bool true ∧ Below wx.heap.size wx wy)
          case first =>
            clear HFT HFN HO
            refine wp_region_noPanic ?_
            refine Goes.start (S := fun w' => Below wx.heap.size wx w') (z := 11) (by kernel_rfl) ?_
            refine Goes.take (i := 0) (oi := ?oik2_0) (x := ?vxk2_0) ?hok2_0 (by kernel_rfl) (by kernel_rfl) (by kernel_rfl) (by kernel_rfl) (fun _ _ _ h => h) (Or.inl ⟨?hwk2_0, ?hyk2_0⟩) (Below.drew (Below.refl _ _)) ?restk2_0
            case hok2_0 => (simp only [List.getElem?_toArray, List.getElem?_cons_succ, List.getElem?_cons_zero]; rfl)
            case hwk2_0 => rfl
            case hyk2_0 => (intro w' hSw; have q0 : ∀ o, w'.cell? ⟨p, o, none⟩ = (#[.int .i64 g.path, .int .i64 g.frm, .bool g.syn, .bool g.ackd, .bool g.rst, .int .i64 g.seq, .int .i64 g.ack, .int .i64 g.fin, .int .i64 g.opt, .int .i64 g.a, .int .i64 g.b, .slice va N5 vc] : Array Value)[o]? := fun o => (hSw.cell (p := ⟨p, o, none⟩) zp).trans (kS o); go_simp; (try with_reducible rfl))
            case restk2_0 =>
            (try simp only [Act.put, List.setIfInBounds_toArray, List.set_cons_zero, List.set_cons_succ])
            refine Goes.all (rs := [1]) (by kernel_rfl) (by simp) ?_
            refine Ups.cons (i := 1) (o := ?ook2_1) ?hok2_1 (fun KK hKK => ?stpk2_1) Ups.nil
            case hok2_1 => (simp only [List.getElem?_toArray, List.getElem?_cons_succ, List.getElem?_cons_zero]; rfl)
            case stpk2_1 =>
              go_simp
              go_at_call 29
              refine (HSF.out _).mono ?_
              rintro e w6 ⟨rfl, hb6⟩
              replace hb6 := bl_drewU hb6
              have HB6 : Hid (Below wx.heap.size wx w6) := hb6
              clear hb6
              dsimp only
              refine hKK.out _ _ (Or.inr HB6.out) ?_
              clear hKK KK
              (try simp only [Act.put, List.setIfInBounds_toArray, List.set_cons_zero, List.set_cons_succ])
              refine Goes.take (i := 2) (oi := ?oik2_2) (x := ?vxk2_2) ?hok2_2 (by kernel_rfl) (by kernel_rfl) (by kernel_rfl) (by kernel_rfl) (fun _ _ _ h => h) (Or.inl ⟨?hwk2_2, ?hyk2_2⟩) (HB6.out) ?restk2_2
              case hok2_2 => (simp only [List.getElem?_toArray, List.getElem?_cons_succ, List.getElem?_cons_zero]; rfl)
              case hwk2_2 => rfl
              case hyk2_2 => (intro w' hSw; go_simp; (try with_reducible rfl))
              case restk2_2 =>
              (try simp only [Act.put, List.setIfInBounds_toArray, List.set_cons_zero, List.set_cons_succ])
              refine Goes.take (i := 3) (oi := ?oik2_3) (x := ?vxk2_3) ?hok2_3 (by kernel_rfl) (by kernel_rfl) (by kernel_rfl) (by kernel_rfl) (fun _ _ _ h => h) (Or.inl ⟨?hwk2_3, ?hyk2_3⟩) (HB6.out) ?restk2_3
              case hok2_3 => (simp only [List.getElem?_toArray, List.getElem?_cons_succ, List.getElem?_cons_zero]; rfl)
              case hwk2_3 => rfl
              case hyk2_3 => (intro w' hSw; go_simp; (try with_reducible rfl))
              case restk2_3 =>
              (try simp only [Act.put, List.setIfInBounds_toArray, List.set_cons_zero, List.set_cons_succ])
              refine Goes.take (i := 4) (oi := ?oik2_4) (x := undef) ?hok2_4 (by kernel_rfl) (by kernel_rfl) (by kernel_rfl) (by kernel_rfl) (fun _ _ _ h => h) (Or.inr ⟨?hwk2_4, rfl⟩) (HB6.out) ?restk2_4
              case hok2_4 => (simp only [List.getElem?_toArray, List.getElem?_cons_succ, List.getElem?_cons_zero]; rfl)
              case hwk2_4 => rfl
              case restk2_4 =>
              (try simp only [Act.put, List.setIfInBounds_toArray, List.set_cons_zero, List.set_cons_succ])
              refine Goes.take (i := 5) (oi := ?oik2_5) (x := undef) ?hok2_5 (by kernel_rfl) (by kernel_rfl) (by kernel_rfl) (by kernel_rfl) (fun _ _ _ h => h) (Or.inr ⟨?hwk2_5, rfl⟩) (HB6.out) ?restk2_5
              case hok2_5 => (simp only [List.getElem?_toArray, List.getElem?_cons_succ, List.getElem?_cons_zero]; rfl)
              case hwk2_5 => rfl
              case restk2_5 =>
              (try simp only [Act.put, List.setIfInBounds_toArray, List.set_cons_zero, List.set_cons_succ])
              refine Goes.take (i := 6) (oi := ?oik2_6) (x := undef) ?hok2_6 (by kernel_rfl) (by kernel_rfl) (by kernel_rfl) (by kernel_rfl) (fun _ _ _ h => h) (Or.inr ⟨?hwk2_6, rfl⟩) (HB6.out) ?restk2_6
              case hok2_6 => (simp only [List.getElem?_toArray, List.getElem?_cons_succ, List.getElem?_cons_zero]; rfl)
              case hwk2_6 => rfl
              case restk2_6 =>
              (try simp only [Act.put, List.setIfInBounds_toArray, List.set_cons_zero, List.set_cons_succ])
              refine Goes.take (i := 7) (oi := ?oik2_7) (x := undef) ?hok2_7 (by kernel_rfl) (by kernel_rfl) (by kernel_rfl) (by kernel_rfl) (fun _ _ _ h => h) (Or.inr ⟨?hwk2_7, rfl⟩) (HB6.out) ?restk2_7
              case hok2_7 => (simp only [List.getElem?_toArray, List.getElem?_cons_succ, List.getElem?_cons_zero]; rfl)
              case hwk2_7 => rfl
              case restk2_7 =>
              (try simp only [Act.put, List.setIfInBounds_toArray, List.set_cons_zero, List.set_cons_succ])
              refine Goes.take (i := 8) (oi := ?oik2_8) (x := undef) ?hok2_8 (by kernel_rfl) (by kernel_rfl) (by kernel_rfl) (by kernel_rfl) (fun _ _ _ h => h) (Or.inr ⟨?hwk2_8, rfl⟩) (HB6.out) ?restk2_8
              case hok2_8 => (simp only [List.getElem?_toArray, List.getElem?_cons_succ, List.getElem?_cons_zero]; rfl)
              case hwk2_8 => rfl
              case restk2_8 =>
              (try simp only [Act.put, List.setIfInBounds_toArray, List.set_cons_zero, List.set_cons_succ])
              refine Goes.take (i := 9) (oi := ?oik2_9) (x := undef) ?hok2_9 (by kernel_rfl) (by kernel_rfl) (by kernel_rfl) (by kernel_rfl) (fun _ _ _ h => h) (Or.inr ⟨?hwk2_9, rfl⟩) (HB6.out) ?restk2_9
              case hok2_9 => (simp only [List.getElem?_toArray, List.getElem?_cons_succ, List.getElem?_cons_zero]; rfl)
              case hwk2_9 => rfl
              case restk2_9 =>
              (try simp only [Act.put, List.setIfInBounds_toArray, List.set_cons_zero, List.set_cons_succ])
              refine Goes.take (i := 10) (oi := ?oik2_10) (x := ?vxk2_10) ?hok2_10 (by kernel_rfl) (by kernel_rfl) (by kernel_rfl) (by kernel_rfl) (fun _ _ _ h => h) (Or.inl ⟨?hwk2_10, ?hyk2_10⟩) (HB6.out) ?restk2_10
              case hok2_10 => (simp only [List.getElem?_toArray, List.getElem?_cons_succ, List.getElem?_cons_zero]; rfl)
              case hwk2_10 => rfl
              case hyk2_10 => (intro w' hSw; go_simp; (try with_reducible rfl))
              case restk2_10 =>
              (try simp only [Act.put, List.setIfInBounds_toArray, List.set_cons_zero, List.set_cons_succ])
              refine Goes.done (by kernel_rfl) ?_ _
              refine NoPanic.normal ?_
              go_wp2_with fail
              go_meet
              exact ⟨rfl, HB6.out⟩
          case rest =>
          rename World => wy
          obtain ⟨rfl, hby⟩ := hcut
          have kY := fun o => (hby.cell (p := ⟨w.heap.size, o, none⟩) zx).trans (kR o)
          have fY := fun o => (hby.frozen (p := ⟨w.heap.size, o, none⟩) zx).trans (fR o)
          have kP : ∀ o, wy.cell? ⟨p, o, none⟩ = (#[.int .i64 g.path, .int .i64 g.frm, .bool g.syn, .bool g.ackd, .bool g.rst, .int .i64 g.seq, .int .i64 g.ack, .int .i64 g.fin, .int .i64 g.opt, .int .i64 g.a, .int .i64 g.b, .slice va N5 vc] : Array Value)[o]? := fun o => (hby.cell (p := ⟨p, o, none⟩) zp).trans (kS o)
          have BY : Hid (Below w.heap.size w wy) := BX.out.trans (hby.mono BX.out.size)
          have HOY : Hid (OB wy W2.heap.size (.slice va N5 vc) g.load) := HO.out.below (Nat.le_refl _) hby
          have zy : w.heap.size < wy.heap.size := Nat.lt_of_lt_of_le zx hby.size
          have zpy : p < wy.heap.size := Nat.lt_of_lt_of_le zp hby.size
          clear hby kR fR
          clear HCG
          subst C
          subst G
          clear HFN HFT HSF HCL HRV HO kS
          go_wp2_with fail
          refine bodyPost_ret (v := .agg #[.int .i64 5, .int .i64 0, .int .i64 0, .bool false, .bool false, .bool false, .int .i64 0, .int .i64 0, .int .i64 0, .int .i64 0, .int .i64 0, .int .i64 0, .slice none 0 0]) (by simp [results, Try.results27, go_sem, kY]) rfl ⟨.slice none 0 0, rfl, OB.empty _ _, ?_⟩
          have hB1 := BY.out
          clear kY fY kP
          go_grown
      · have hS' : (takeN (l.drop m) != sumB (l.take m)) = true := by simp [hS]
        have hU : upSum l = false := by rw [HSU.out]; simp [hS]
        obtain ⟨e1, e2⟩ := HNS.out hU
        clear HCG
        subst C
        subst G
        generalize sumB (l.take m) = s2 at *
        generalize takeN (l.drop m) = s1 at *
        clear hS HSU HNS hU HOK HNF
        go_wp2_with fail
        refine bodyPost_ret (v := .agg #[.int .i64 6, .int .i64 0, .int .i64 0, .bool false, .bool false, .bool false, .int .i64 0, .int .i64 0, .int .i64 0, .int .i64 0, .int .i64 0, .int .i64 0, .slice none 0 0]) (by simp [results, Try.results27, go_sem, kR]) rfl ⟨.slice none 0 0, rfl, OB.empty _ _, ?_⟩
        have hB1 := BW.out
        clear kR fR
        go_grown
end Go.Proofs.Ytmiomnpfjigojaa
