/- The words of a side that the program makes; they are its own; nothing that was in memory turns; the condition is the row's own: the library's table as the program's text lays it. Written by mktsw.py. -/
import Derived.Test.YtfpemobkkfobkaaGreatDoorRows
import Derived.Deep.DeepCutAuto
import Derived.Deep.MidRow
import Derived.Deep.RegionHeld3
import Derived.Test.YtfpemobkkfobkaaGreatDoorK01
import Derived.Test.YtfpemobkkfobkaaGreatDoorK02
import Derived.Test.YtfpemobkkfobkaaGreatDoorK03
import Derived.Test.YtfpemobkkfobkaaGreatDoorK04
import Derived.Test.YtfpemobkkfobkaaGreatDoorK09
import Derived.Test.YtfpemobkkfobkaaGreatDoorK10
import Derived.Test.YtfpemobkkfobkaaGreatDoorK11
import Derived.Test.YtfpemobkkfobkaaGreatDoorK12
import Derived.Test.YtfpemobkkfobkaaGreatDoorK57
import Derived.Test.YtfpemobkkfobkaaGreatDoorK58
import Derived.Test.YtfpemobkkfobkaaGreatDoorK59
import Derived.Test.YtfpemobkkfobkaaGreatDoorK60
import Derived.Test.YtfpemobkkfobkaaGreatDoorK61
import Derived.Test.YtfpemobkkfobkaaGreatDoorK62
import Derived.Test.YtfpemobkkfobkaaGreatDoorK64
import Derived.Test.YtfpemobkkfobkaaGreatDoorK79
import Derived.Test.YtfpemobkkfobkaaGreatDoorK88
import Derived.Test.YtfpemobkkfobkaaGreatDoorK89
import Derived.Test.YtfpemobkkfobkaaGreatDoorK90
namespace Go.Proofs.YtfpemobkkfobkaaGreatDoor
open Go.RowKit
set_option linter.unusedVariables false
set_option maxRecDepth 8000

/-- The words of a side behind the first. -/
def sideX (c : DConn) (g : List Int) (k : Nat) : List (List UInt8) := [dg (k : Int), dg (c.wrote.length : Int), dg (g.length : Int), dg c.acked, kindB c.plain] ++ c.subs.map subT
theorem sideT_X (c : DConn) (g : List Int) (k : Nat) : sideT c g k = sideB ++ jt (sideX c g k) ++ [10] := by
  unfold sideT sideX
  rw [jt_app]
  simp [jt]
/-- Where a region of the loop stands. -/
structure SwS (s5 : Nat) (v7 : World) (bX : Nat) (pa st : Int) (W : World) : Prop where
  bl : Below s5 v7 W
  k0 : W.cell? ⟨bX, 0, none⟩ = some (.int .i64 pa)
  k1 : W.cell? ⟨bX, 1, none⟩ = some (.int .i64 st)
theorem SwS.step {s5 : Nat} {v7 : World} {bX : Nat} {pa st : Int} {W W' : World} (h : SwS s5 v7 bX pa st W) (hb : Below W.heap.size W W') (hs : s5 ≤ v7.heap.size) (hz : bX < v7.heap.size) : SwS s5 v7 bX pa st W' :=
  ⟨h.bl.trans (hb.mono (Nat.le_trans hs h.bl.size)), (hb.cell (p := ⟨bX, 0, none⟩) (Nat.lt_of_lt_of_le hz h.bl.size)).trans h.k0, (hb.cell (p := ⟨bX, 1, none⟩) (Nat.lt_of_lt_of_le hz h.bl.size)).trans h.k1⟩
theorem OT.at0 {w : World} {base m c : Nat} {va : Option Addr} {l : List ByteArray} (h : OT w base (.slice va m c) l) (hl : l ≠ []) : ∃ g, va = some ⟨g, 0, none⟩ ∧ m = l.length ∧ m ≤ c ∧ g < w.heap.size ∧ ∀ j (hj : j < l.length), w.cell? ⟨g, 0 + j, none⟩ = some (.string l[j]) := by
  have h0 := h.own
  obtain ⟨h1, ⟨e, hz⟩ | ⟨g, cap, cur, e, hg, hh, hc, hm, hs, ht⟩⟩ := h.own
  · exact absurd (List.length_eq_zero_iff.1 hz) hl
  · cases e
    refine ⟨g, rfl, rfl, by omega, ?_, fun j hj => ?_⟩
    · apply Classical.byContradiction; intro hn
      rw [Array.getElem?_eq_none (by omega)] at hh; cases hh
    · have := h0.cellAt j (by omega)
      rw [Nat.zero_add, this, List.getElem?_map, List.getElem?_eq_getElem hj]
      rfl
set_option maxHeartbeats 8000000 in
theorem iSideWords (x : DWorld) (A : Array Value) (k : Nat) (w : World) (B : Nat) (hr : shWorld.Rd w B x A.toList) (hB : B ≤ w.heap.size) (hF : worldF x = 0) (hT : totWorld x ≤ 1048576) (hk : k < 2) (ht : TabL w) :
    Calls Tryz.prog 43 #[.agg A, .int .i64 k] w fun e w' => ∃ b n cap, e = .returned (.slice (some ⟨b, 0, none⟩) n cap) ∧ n = (sideB :: sideX (x.cn k) (x.gt k) k).length ∧ n ≤ cap ∧ b < w'.heap.size ∧ (∀ j (h : j < (sideB :: sideX (x.cn k) (x.gt k) k).length), w'.cell? ⟨b, 0 + j, none⟩ = some (.string (SB ((sideB :: sideX (x.cn k) (x.gt k) k)[j])))) ∧ Below w.heap.size w w' := by
  obtain ⟨sb, so, sc, na, nc, da, dc, gb, go, gc, eb, eo, ec, hWO⟩ := wo_all hr hF hT
  have hsd : (x.cn k).side = (k : Int) := by
    obtain ⟨-, e0, e1⟩ := world_okT hF
    rcases (show k = 0 ∨ k = 1 by omega) with rfl | rfl
    · exact e0
    · exact e1
  obtain ⟨CA, hrg, hrd⟩ := hWO.cs k hk
  obtain ⟨gu, guc, hgc, -⟩ := hWO.gs k hk
  obtain ⟨a5, c5, a9, c9, a10, c10, a13, c13, hC⟩ := cn_all hrd
  obtain ⟨q1, q2, q3⟩ := conn_okT (hWO.ok k hk)
  have hs3 : (x.cn k).subs.length ≤ 1048576 := by have h := hWO.tot k hk; unfold totConn totSubs at h; show (x.cn k).2.2.2.2.2.2.2.2.2.2.2.2.1.length ≤ 1048576; omega
  have hgn : (x.gt k).length ≤ 1048576 := gt_few hT k
  have hA := hWO.eA
  have hz : CA.size = 14 := rd_size hrd
  have HZA : Hid (CA.size = 14) := hz
  have IA : Hid ((Tryz.prog.info? 79).map (·.size) = some CA.size) := by show _ = _; rw [hz]; exact (by kernel_rfl : (Tryz.prog.info? 79).map (·.size) = some 14)
  have JA : Hid ((Tryz.prog.info? 79).map (·.size) = some CA.toList.length) := by show _ = _; rw [Array.length_toList]; exact IA.out
  have ONE : Hid (CA.all (·.oneCell') = true) := rd_all hrd
  have hX : sideX (x.cn k) (x.gt k) k = [dg (k : Int), dg ((x.cn k).wrote.length : Int), dg ((x.gt k).length : Int), dg (x.cn k).acked, kindB (x.cn k).plain] ++ (x.cn k).subs.map subT := rfl
  have hCA := hC.eA
  rw [hsd] at hCA
  have HGB : Hid (∀ W, Below w.heap.size w W → W.rangeAt sb (so + k * 14) CA.toList) := fun W h => range_below hrg h (Nat.lt_of_lt_of_le hWO.sl hB)
  have HGT : Hid (∀ W, Below w.heap.size w W → W.cell? ⟨gb, go + k, none⟩ = some (.slice gu (x.gt k).length guc)) := fun W h => (h.cell (p := ⟨gb, go + k, none⟩) (Nat.lt_of_lt_of_le hWO.gl hB)).trans hgc
  have HSU : Hid (∀ i (hi : i < (x.cn k).subs.length), ∃ (b13 o13 : Nat) (SA : Array Value), a13 = some ⟨b13, o13, none⟩ ∧ SA.size = 16 ∧ SA.all (·.oneCell') = true ∧ SA[0]? = some (.int .i64 (x.cn k).subs[i].1) ∧ SA[1]? = some (.int .i64 (x.cn k).subs[i].2.1) ∧ ∀ W, Below w.heap.size w W → W.rangeAt b13 (o13 + i * 16) SA.toList) := fun i hi => by
    obtain ⟨b13, o13, cs, e13, hb13, -, hrr, hsr⟩ := row_at hC.subs i hi
    obtain ⟨su, sv, ecs, -⟩ := rd_Sub hsr
    have hsr' : shSub.Rd w B (x.cn k).subs[i] cs.toArray.toList := hsr
    exact ⟨b13, o13, cs.toArray, e13, rd_size hsr', rd_all hsr', by rw [ecs]; rfl, by rw [ecs]; rfl, fun W h => range_below hrr h (Nat.lt_of_lt_of_le hb13 hB)⟩
  have HTL : Hid (∀ W, Below w.heap.size w W → TabL W) := fun W h => ht.below h
  clear hWO hr hF hT hC hrd hrg hgc ht hsd
  generalize x.1 = now at *
  generalize x.2.2.1.1.length = bn at *
  generalize x.2.2.1.2.1.length = dn at *
  generalize (x.gt k).length = gn at *
  generalize hcc : (x.cn k).subs = l at *
  generalize (x.cn k).wrote.length = wn at *
  generalize (x.cn k).acked = ak at *
  generalize (x.cn k).plain = pl at *
  generalize (x.cn k).key = ky at *
  generalize (x.cn k).peer = pr at *
  generalize (x.cn k).free = fr at *
  generalize (x.cn k).fin = fn at *
  generalize (x.cn k).finDone = fd at *
  generalize (x.cn k).inn.1.length = n9 at *
  generalize (x.cn k).inn.2.1.length = n10 at *
  generalize (x.cn k).finIn = fi at *
  generalize (x.cn k).given = gv at *
  generalize sideX (x.cn k) (x.gt k) k = LX at *
  subst hA
  have HCA : Hid (CA = #[.int .i64 (k : Int), .int .i64 ky, .int .i64 pr, .bool pl, .bool fr, .slice a5 wn c5, .bool fn, .int .i64 ak, .bool fd, .slice a9 n9 c9, .slice a10 n10 c10, .int .i64 fi, .int .i64 gv, .slice a13 l.length c13]) := hCA
  have HLX : Hid _ := hX
  clear hCA hX hcc hz
  have HKD : Hid (∀ W, Calls Tryz.prog 63 #[.agg CA] W fun e w' => e = .returned (.string (SB (kindB pl))) ∧ Below W.heap.size W w') := fun W => by rw [HCA.out]; exact iKindOf _ _ _ _ _ _ _ _ _ _ _ _ _ _ W
  have HD0 : Hid (∀ W, Below w.heap.size w W → Calls Tryz.prog 42 #[.int .i64 (k : Int)] W fun e w' => e = .returned (.string (SB (dg (k : Int)))) ∧ Below W.heap.size W w') := fun W h => iDecimal _ W (by omega) (by omega) (HTL.out W h)
  have HD1 : Hid (∀ W, Below w.heap.size w W → Calls Tryz.prog 42 #[.int .i64 (wn : Int)] W fun e w' => e = .returned (.string (SB (dg (wn : Int)))) ∧ Below W.heap.size W w') := fun W h => iDecimal _ W (by omega) (by omega) (HTL.out W h)
  have HD2 : Hid (∀ W, Below w.heap.size w W → Calls Tryz.prog 42 #[.int .i64 (gn : Int)] W fun e w' => e = .returned (.string (SB (dg (gn : Int)))) ∧ Below W.heap.size W w') := fun W h => iDecimal _ W (by omega) (by omega) (HTL.out W h)
  have HD3 : Hid (∀ W, Below w.heap.size w W → Calls Tryz.prog 42 #[.int .i64 ak] W fun e w' => e = .returned (.string (SB (dg ak))) ∧ Below W.heap.size W w') := fun W h => iDecimal _ W (by omega) (by omega) (HTL.out W h)
  go_enter Tryz.func43, Tryz.ntmps43
  go_upto_region 1 with fail
  have HB : Hid (Below w.heap.size w w) := Below.refl _ _
  have kP : ∀ o, (w.alloc (.cells #[.int .i64 now, .slice (some ⟨sb, so, none⟩) 2 sc, .slice na bn nc, .slice da dn dc, .slice (some ⟨gb, go, none⟩) 2 gc, .slice (some ⟨eb, eo, none⟩) 2 ec] 39)).cell? ⟨w.heap.size, o, none⟩ = (#[.int .i64 now, .slice (some ⟨sb, so, none⟩) 2 sc, .slice na bn nc, .slice da dn dc, .slice (some ⟨gb, go, none⟩) 2 gc, .slice (some ⟨eb, eo, none⟩) 2 ec] : Array Value)[o]? := bx_al w _ _
  have hb : Below w.heap.size w (w.alloc (.cells #[.int .i64 now, .slice (some ⟨sb, so, none⟩) 2 sc, .slice na bn nc, .slice da dn dc, .slice (some ⟨gb, go, none⟩) 2 gc, .slice (some ⟨eb, eo, none⟩) 2 ec] 39)) := (Below.refl _ _).alloc (Nat.le_refl _) _
  have zP : w.heap.size < (w.alloc (.cells #[.int .i64 now, .slice (some ⟨sb, so, none⟩) 2 sc, .slice na bn nc, .slice da dn dc, .slice (some ⟨gb, go, none⟩) 2 gc, .slice (some ⟨eb, eo, none⟩) 2 ec] 39)).heap.size := by simp
  generalize hWW : (w.alloc (.cells #[.int .i64 now, .slice (some ⟨sb, so, none⟩) 2 sc, .slice na bn nc, .slice da dn dc, .slice (some ⟨gb, go, none⟩) 2 gc, .slice (some ⟨eb, eo, none⟩) 2 ec] 39)) = w0 at kP hb zP ⊢
  clear hWW
  obtain ⟨bP, hq⟩ : ∃ q, q = w.heap.size := ⟨_, rfl⟩
  have HQ : Hid (bP = w.heap.size) := hq
  rw [← hq] at zP kP ⊢
  clear hq
  replace HB : Hid (Below w.heap.size w w0) := HB.out.trans (hb.mono HB.out.size)
  clear hb
  have HG : Hid (w0.rangeAt sb (so + k * 14) CA.toList) := HGB.out _ HB.out
  have hk0 : (0 : Int) ≤ (k : Int) := by omega
  have hki : (k : Int) < 2 := by omega
  have HTH : Hid ((w0.alloc (.cells #[.int .i64 0, .int .i64 0, .int .i64 0, .bool false, .bool false, .slice none 0 0, .bool false, .int .i64 0, .bool false, .slice none 0 0, .slice none 0 0, .int .i64 0, .int .i64 0, .slice none 0 0] 79)).there w0.heap.size 0 CA.size) := bx_there (bx_al _ _ _) (fx_al _ _ _) (by rw [HZA.out]; rfl)
  have HWN : Hid (Below w0.heap.size w0 ((w0.alloc (.cells #[.int .i64 0, .int .i64 0, .int .i64 0, .bool false, .bool false, .slice none 0 0, .bool false, .int .i64 0, .bool false, .slice none 0 0, .slice none 0 0, .int .i64 0, .int .i64 0, .slice none 0 0] 79)).setCells w0.heap.size 0 CA.toList) ∧ w0.heap.size < ((w0.alloc (.cells #[.int .i64 0, .int .i64 0, .int .i64 0, .bool false, .bool false, .slice none 0 0, .bool false, .int .i64 0, .bool false, .slice none 0 0, .slice none 0 0, .int .i64 0, .int .i64 0, .slice none 0 0] 79)).setCells w0.heap.size 0 CA.toList).heap.size ∧ (∀ o, ((w0.alloc (.cells #[.int .i64 0, .int .i64 0, .int .i64 0, .bool false, .bool false, .slice none 0 0, .bool false, .int .i64 0, .bool false, .slice none 0 0, .slice none 0 0, .int .i64 0, .int .i64 0, .slice none 0 0] 79)).setCells w0.heap.size 0 CA.toList).cell? ⟨w0.heap.size, o, none⟩ = CA[o]?) ∧ (∀ o, ((w0.alloc (.cells #[.int .i64 0, .int .i64 0, .int .i64 0, .bool false, .bool false, .slice none 0 0, .bool false, .int .i64 0, .bool false, .slice none 0 0, .slice none 0 0, .int .i64 0, .int .i64 0, .slice none 0 0] 79)).setCells w0.heap.size 0 CA.toList).frozen? ⟨w0.heap.size, o, none⟩ = false)) := ⟨setCells_below (Nat.le_refl _) _ _ _ _ ((Below.refl _ _).alloc (Nat.le_refl _) _), by rw [setCells_size]; simp, bx_setCells (bx_al w0 _ _) (by rw [HZA.out]; rfl), fx_sets (fx_al _ _ _)⟩
  go_upto_region 2 with (first | (refine wpList_load_mid rfl 79 _ rfl _ _ (by rfl) CA.toList _ HG.out Tryz.underlying79 rfl JA.out ?_) | (refine wpList_store_mid rfl 79 _ _ rfl _ _ CA (by rfl) (by rfl) HTH.out IA.out ONE.out ?_))
  generalize hWW : ((w0.alloc (.cells #[.int .i64 0, .int .i64 0, .int .i64 0, .bool false, .bool false, .slice none 0 0, .bool false, .int .i64 0, .bool false, .slice none 0 0, .slice none 0 0, .int .i64 0, .int .i64 0, .slice none 0 0] 79)).setCells w0.heap.size 0 CA.toList) = w1 at HWN ⊢
  clear hWW HTH
  obtain ⟨hb, zC, kC, fC⟩ := HWN.out
  clear HWN
  obtain ⟨bC, hq⟩ : ∃ q, q = w0.heap.size := ⟨_, rfl⟩
  rw [← hq] at zC kC fC ⊢
  have lPC : bP < bC := by rw [hq]; exact zP
  have lwC : w.heap.size ≤ bC := by rw [hq]; exact HB.out.size
  clear hq
  replace kP := bx_below kP zP hb
  replace zP := Nat.lt_of_lt_of_le zP hb.size
  replace HB : Hid (Below w.heap.size w w1) := HB.out.trans (hb.mono HB.out.size)
  clear hb
  have kCA := kC
  rw [HCA.out] at kC
  have HKC : Hid (∀ o, w1.cell? ⟨bC, o, none⟩ = CA[o]?) := kCA
  clear kCA HG
  refine wp_region_noPanic ?_
  refine Goes.start (S := fun w' => Below w1.heap.size w1 w') (z := 100) (by kernel_rfl) ?_
  refine Goes.take (i := 0) (oi := ?oi101) (x := ?vx101) ?ho101 (by kernel_rfl) (by kernel_rfl) (by kernel_rfl) (by kernel_rfl) (fun _ _ _ h => h) (Or.inl ⟨?hw101, ?hy101⟩) (Below.drew (Below.refl _ _)) ?rest101
  case ho101 => (simp only [List.getElem?_toArray, List.getElem?_cons_zero] <;> rfl)
  case hw101 => rfl
  case hy101 => (intro w' hSw; have jP := fun o => (hSw.cell (p := ⟨bP, o, none⟩) zP).trans (kP o); have jC := fun o => (hSw.cell (p := ⟨bC, o, none⟩) zC).trans (kC o); have jg := HGT.out w' (HB.out.trans (hSw.mono HB.out.size)); go_simp; (try with_reducible rfl))
  case rest101 =>
  (try simp only [Act.put, List.setIfInBounds_toArray, List.set_cons_zero, List.set_cons_succ])
  refine Goes.take (i := 1) (oi := ?oi102) (x := ?vx102) ?ho102 (by kernel_rfl) (by kernel_rfl) (by kernel_rfl) (by kernel_rfl) (fun _ _ _ h => h) (Or.inl ⟨?hw102, ?hy102⟩) (Below.drew (Below.refl _ _)) ?rest102
  case ho102 => (simp only [List.getElem?_toArray, List.getElem?_cons_succ, List.getElem?_cons_zero] <;> rfl)
  case hw102 => rfl
  case hy102 => (intro w' hSw; have jP := fun o => (hSw.cell (p := ⟨bP, o, none⟩) zP).trans (kP o); have jC := fun o => (hSw.cell (p := ⟨bC, o, none⟩) zC).trans (kC o); have jg := HGT.out w' (HB.out.trans (hSw.mono HB.out.size)); go_simp; (try with_reducible rfl))
  case rest102 =>
  (try simp only [Act.put, List.setIfInBounds_toArray, List.set_cons_zero, List.set_cons_succ])
  refine Goes.take (i := 3) (oi := ?oi103) (x := ?vx103) ?ho103 (by kernel_rfl) (by kernel_rfl) (by kernel_rfl) (by kernel_rfl) (fun _ _ _ h => h) (Or.inl ⟨?hw103, ?hy103⟩) (Below.drew (Below.refl _ _)) ?rest103
  case ho103 => (simp only [List.getElem?_toArray, List.getElem?_cons_succ, List.getElem?_cons_zero] <;> rfl)
  case hw103 => rfl
  case hy103 => (intro w' hSw; have jP := fun o => (hSw.cell (p := ⟨bP, o, none⟩) zP).trans (kP o); have jC := fun o => (hSw.cell (p := ⟨bC, o, none⟩) zC).trans (kC o); have jg := HGT.out w' (HB.out.trans (hSw.mono HB.out.size)); go_simp; (try with_reducible rfl))
  case rest103 =>
  (try simp only [Act.put, List.setIfInBounds_toArray, List.set_cons_zero, List.set_cons_succ])
  refine Goes.take (i := 4) (oi := ?oi104) (x := ?vx104) ?ho104 (by kernel_rfl) (by kernel_rfl) (by kernel_rfl) (by kernel_rfl) (fun _ _ _ h => h) (Or.inl ⟨?hw104, ?hy104⟩) (Below.drew (Below.refl _ _)) ?rest104
  case ho104 => (simp only [List.getElem?_toArray, List.getElem?_cons_succ, List.getElem?_cons_zero] <;> rfl)
  case hw104 => rfl
  case hy104 => (intro w' hSw; have jP := fun o => (hSw.cell (p := ⟨bP, o, none⟩) zP).trans (kP o); have jC := fun o => (hSw.cell (p := ⟨bC, o, none⟩) zC).trans (kC o); have jg := HGT.out w' (HB.out.trans (hSw.mono HB.out.size)); go_simp; (try with_reducible rfl))
  case rest104 =>
  (try simp only [Act.put, List.setIfInBounds_toArray, List.set_cons_zero, List.set_cons_succ])
  refine Goes.take (i := 5) (oi := ?oi105) (x := ?vx105) ?ho105 (by kernel_rfl) (by kernel_rfl) (by kernel_rfl) (by kernel_rfl) (fun _ _ _ h => h) (Or.inl ⟨?hw105, ?hy105⟩) (Below.drew (Below.refl _ _)) ?rest105
  case ho105 => (simp only [List.getElem?_toArray, List.getElem?_cons_succ, List.getElem?_cons_zero] <;> rfl)
  case hw105 => rfl
  case hy105 => (intro w' hSw; have jP := fun o => (hSw.cell (p := ⟨bP, o, none⟩) zP).trans (kP o); have jC := fun o => (hSw.cell (p := ⟨bC, o, none⟩) zC).trans (kC o); have jg := HGT.out w' (HB.out.trans (hSw.mono HB.out.size)); go_simp; (try with_reducible rfl))
  case rest105 =>
  (try simp only [Act.put, List.setIfInBounds_toArray, List.set_cons_zero, List.set_cons_succ])
  refine Goes.take (i := 7) (oi := ?oi106) (x := ?vx106) ?ho106 (by kernel_rfl) (by kernel_rfl) (by kernel_rfl) (by kernel_rfl) (fun _ _ _ h => h) (Or.inl ⟨?hw106, ?hy106⟩) (Below.drew (Below.refl _ _)) ?rest106
  case ho106 => (simp only [List.getElem?_toArray, List.getElem?_cons_succ, List.getElem?_cons_zero] <;> rfl)
  case hw106 => rfl
  case hy106 => (intro w' hSw; have jP := fun o => (hSw.cell (p := ⟨bP, o, none⟩) zP).trans (kP o); have jC := fun o => (hSw.cell (p := ⟨bC, o, none⟩) zC).trans (kC o); have jg := HGT.out w' (HB.out.trans (hSw.mono HB.out.size)); go_simp; (try with_reducible rfl))
  case rest106 =>
  (try simp only [Act.put, List.setIfInBounds_toArray, List.set_cons_zero, List.set_cons_succ])
  refine Goes.take (i := 8) (oi := ?oi107) (x := ?vx107) ?ho107 (by kernel_rfl) (by kernel_rfl) (by kernel_rfl) (by kernel_rfl) (fun _ _ _ h => h) (Or.inl ⟨?hw107, ?hy107⟩) (Below.drew (Below.refl _ _)) ?rest107
  case ho107 => (simp only [List.getElem?_toArray, List.getElem?_cons_succ, List.getElem?_cons_zero] <;> rfl)
  case hw107 => rfl
  case hy107 => (intro w' hSw; have jP := fun o => (hSw.cell (p := ⟨bP, o, none⟩) zP).trans (kP o); have jC := fun o => (hSw.cell (p := ⟨bC, o, none⟩) zC).trans (kC o); have jg := HGT.out w' (HB.out.trans (hSw.mono HB.out.size)); go_simp; (try with_reducible rfl))
  case rest107 =>
  (try simp only [Act.put, List.setIfInBounds_toArray, List.set_cons_zero, List.set_cons_succ])
  refine Goes.take (i := 9) (oi := ?oi108) (x := ?vx108) ?ho108 (by kernel_rfl) (by kernel_rfl) (by kernel_rfl) (by kernel_rfl) (fun _ _ _ h => h) (Or.inl ⟨?hw108, ?hy108⟩) (Below.drew (Below.refl _ _)) ?rest108
  case ho108 => (simp only [List.getElem?_toArray, List.getElem?_cons_succ, List.getElem?_cons_zero] <;> rfl)
  case hw108 => rfl
  case hy108 => (intro w' hSw; have jP := fun o => (hSw.cell (p := ⟨bP, o, none⟩) zP).trans (kP o); have jC := fun o => (hSw.cell (p := ⟨bC, o, none⟩) zC).trans (kC o); have jg := HGT.out w' (HB.out.trans (hSw.mono HB.out.size)); go_simp; (try with_reducible rfl))
  case rest108 =>
  (try simp only [Act.put, List.setIfInBounds_toArray, List.set_cons_zero, List.set_cons_succ])
  refine Goes.take (i := 10) (oi := ?oi109) (x := ?vx109) ?ho109 (by kernel_rfl) (by kernel_rfl) (by kernel_rfl) (by kernel_rfl) (fun _ _ _ h => h) (Or.inl ⟨?hw109, ?hy109⟩) (Below.drew (Below.refl _ _)) ?rest109
  case ho109 => (simp only [List.getElem?_toArray, List.getElem?_cons_succ, List.getElem?_cons_zero] <;> rfl)
  case hw109 => rfl
  case hy109 => (intro w' hSw; have jP := fun o => (hSw.cell (p := ⟨bP, o, none⟩) zP).trans (kP o); have jC := fun o => (hSw.cell (p := ⟨bC, o, none⟩) zC).trans (kC o); have jg := HGT.out w' (HB.out.trans (hSw.mono HB.out.size)); go_simp; (try with_reducible rfl))
  case rest109 =>
  (try simp only [Act.put, List.setIfInBounds_toArray, List.set_cons_zero, List.set_cons_succ])
  refine Goes.take (i := 11) (oi := ?oi110) (x := ?vx110) ?ho110 (by kernel_rfl) (by kernel_rfl) (by kernel_rfl) (by kernel_rfl) (fun _ _ _ h => h) (Or.inl ⟨?hw110, ?hy110⟩) (Below.drew (Below.refl _ _)) ?rest110
  case ho110 => (simp only [List.getElem?_toArray, List.getElem?_cons_succ, List.getElem?_cons_zero] <;> rfl)
  case hw110 => rfl
  case hy110 => (intro w' hSw; have jP := fun o => (hSw.cell (p := ⟨bP, o, none⟩) zP).trans (kP o); have jC := fun o => (hSw.cell (p := ⟨bC, o, none⟩) zC).trans (kC o); have jg := HGT.out w' (HB.out.trans (hSw.mono HB.out.size)); go_simp; (try with_reducible rfl))
  case rest110 =>
  (try simp only [Act.put, List.setIfInBounds_toArray, List.set_cons_zero, List.set_cons_succ])
  refine Goes.take (i := 12) (oi := ?oi111) (x := ?vx111) ?ho111 (by kernel_rfl) (by kernel_rfl) (by kernel_rfl) (by kernel_rfl) (fun _ _ _ h => h) (Or.inl ⟨?hw111, ?hy111⟩) (Below.drew (Below.refl _ _)) ?rest111
  case ho111 => (simp only [List.getElem?_toArray, List.getElem?_cons_succ, List.getElem?_cons_zero] <;> rfl)
  case hw111 => rfl
  case hy111 => (intro w' hSw; have jP := fun o => (hSw.cell (p := ⟨bP, o, none⟩) zP).trans (kP o); have jC := fun o => (hSw.cell (p := ⟨bC, o, none⟩) zC).trans (kC o); have jg := HGT.out w' (HB.out.trans (hSw.mono HB.out.size)); go_simp; (try with_reducible rfl))
  case rest111 =>
  (try simp only [Act.put, List.setIfInBounds_toArray, List.set_cons_zero, List.set_cons_succ])
  refine Goes.take (i := 14) (oi := ?oi112) (x := ?vx112) ?ho112 (by kernel_rfl) (by kernel_rfl) (by kernel_rfl) (by kernel_rfl) (fun _ _ _ h => h) (Or.inl ⟨?hw112, ?hy112⟩) (Below.drew (Below.refl _ _)) ?rest112
  case ho112 => (simp only [List.getElem?_toArray, List.getElem?_cons_succ, List.getElem?_cons_zero] <;> rfl)
  case hw112 => rfl
  case hy112 => (intro w' hSw; have jP := fun o => (hSw.cell (p := ⟨bP, o, none⟩) zP).trans (kP o); have jC := fun o => (hSw.cell (p := ⟨bC, o, none⟩) zC).trans (kC o); have jg := HGT.out w' (HB.out.trans (hSw.mono HB.out.size)); go_simp; (try with_reducible rfl))
  case rest112 =>
  (try simp only [Act.put, List.setIfInBounds_toArray, List.set_cons_zero, List.set_cons_succ])
  refine Goes.take (i := 15) (oi := ?oi113) (x := ?vx113) ?ho113 (by kernel_rfl) (by kernel_rfl) (by kernel_rfl) (by kernel_rfl) (fun _ _ _ h => h) (Or.inl ⟨?hw113, ?hy113⟩) (Below.drew (Below.refl _ _)) ?rest113
  case ho113 => (simp only [List.getElem?_toArray, List.getElem?_cons_succ, List.getElem?_cons_zero] <;> rfl)
  case hw113 => rfl
  case hy113 => (intro w' hSw; have jP := fun o => (hSw.cell (p := ⟨bP, o, none⟩) zP).trans (kP o); have jC := fun o => (hSw.cell (p := ⟨bC, o, none⟩) zC).trans (kC o); have jg := HGT.out w' (HB.out.trans (hSw.mono HB.out.size)); go_simp; (try with_reducible rfl))
  case rest113 =>
  (try simp only [Act.put, List.setIfInBounds_toArray, List.set_cons_zero, List.set_cons_succ])
  refine Goes.take (i := 17) (oi := ?oi114) (x := .agg (CA.toList).toArray) ?ho114 (by kernel_rfl) (by kernel_rfl) (by kernel_rfl) (by kernel_rfl) (fun _ _ _ h => h) ?hy114 (Below.drew (Below.refl _ _)) ?rest114
  case ho114 => (simp only [List.getElem?_toArray, List.getElem?_cons_succ, List.getElem?_cons_zero] <;> rfl)
  case hy114 => exact yieldsIf_load_mid (by rfl) 79 _ rfl (bC) (0) (by rfl) (CA.toList) _ (fun w' hSw => bx_range (fun o => (hSw.cell (p := ⟨bC, o, none⟩) zC).trans (HKC.out o))) Tryz.underlying79 rfl JA.out
  case rest114 =>
  (try simp only [Act.put, List.setIfInBounds_toArray, List.set_cons_zero, List.set_cons_succ])
  refine Goes.all (rs := [2]) (by kernel_rfl) (by simp) ?_
  refine Ups.cons (i := 2) (o := ?oo115) ?ho115 (fun KK hKK => ?stp115) Ups.nil
  case ho115 => (simp only [List.getElem?_toArray, List.getElem?_cons_succ, List.getElem?_cons_zero] <;> rfl)
  case stp115 =>
  go_simp
  go_at_call 42
  refine (HD0.out _ (HB.out.trans ((Below.drew (Below.refl _ _)).mono HB.out.size))).mono ?_
  rintro e v1 ⟨rfl, hbq⟩
  replace hbq := (Below.drew (Below.refl w1.heap.size w1)).trans hbq
  have HS115 : Hid (Below w1.heap.size w1 v1) := hbq
  clear hbq
  dsimp only
  refine hKK.out _ _ (Or.inr HS115.out) ?_
  clear hKK KK
  (try simp only [Act.put, List.setIfInBounds_toArray, List.set_cons_zero, List.set_cons_succ])
  refine Goes.all (rs := [6]) (by kernel_rfl) (by simp) ?_
  refine Ups.cons (i := 6) (o := ?oo116) ?ho116 (fun KK hKK => ?stp116) Ups.nil
  case ho116 => (simp only [List.getElem?_toArray, List.getElem?_cons_succ, List.getElem?_cons_zero] <;> rfl)
  case stp116 =>
  go_simp
  go_at_call 42
  refine (HD1.out _ (HB.out.trans (HS115.out.mono HB.out.size))).mono ?_
  rintro e v2 ⟨rfl, hbq⟩
  replace hbq := HS115.out.trans (hbq.mono HS115.out.size)
  have HS116 : Hid (Below w1.heap.size w1 v2) := hbq
  clear hbq
  dsimp only
  refine hKK.out _ _ (Or.inr HS116.out) ?_
  clear hKK KK
  (try simp only [Act.put, List.setIfInBounds_toArray, List.set_cons_zero, List.set_cons_succ])
  refine Goes.all (rs := [13]) (by kernel_rfl) (by simp) ?_
  refine Ups.cons (i := 13) (o := ?oo117) ?ho117 (fun KK hKK => ?stp117) Ups.nil
  case ho117 => (simp only [List.getElem?_toArray, List.getElem?_cons_succ, List.getElem?_cons_zero] <;> rfl)
  case stp117 =>
  go_simp
  go_at_call 42
  refine (HD2.out _ (HB.out.trans (HS116.out.mono HB.out.size))).mono ?_
  rintro e v3 ⟨rfl, hbq⟩
  replace hbq := HS116.out.trans (hbq.mono HS116.out.size)
  have HS117 : Hid (Below w1.heap.size w1 v3) := hbq
  clear hbq
  dsimp only
  refine hKK.out _ _ (Or.inr HS117.out) ?_
  clear hKK KK
  (try simp only [Act.put, List.setIfInBounds_toArray, List.set_cons_zero, List.set_cons_succ])
  refine Goes.all (rs := [16]) (by kernel_rfl) (by simp) ?_
  refine Ups.cons (i := 16) (o := ?oo118) ?ho118 (fun KK hKK => ?stp118) Ups.nil
  case ho118 => (simp only [List.getElem?_toArray, List.getElem?_cons_succ, List.getElem?_cons_zero] <;> rfl)
  case stp118 =>
  go_simp
  go_at_call 42
  refine (HD3.out _ (HB.out.trans (HS117.out.mono HB.out.size))).mono ?_
  rintro e v4 ⟨rfl, hbq⟩
  replace hbq := HS117.out.trans (hbq.mono HS117.out.size)
  have HS118 : Hid (Below w1.heap.size w1 v4) := hbq
  clear hbq
  dsimp only
  refine hKK.out _ _ (Or.inr HS118.out) ?_
  clear hKK KK
  (try simp only [Act.put, List.setIfInBounds_toArray, List.set_cons_zero, List.set_cons_succ])
  refine Goes.all (rs := [18]) (by kernel_rfl) (by simp) ?_
  refine Ups.cons (i := 18) (o := ?oo119) ?ho119 (fun KK hKK => ?stp119) Ups.nil
  case ho119 => (simp only [List.getElem?_toArray, List.getElem?_cons_succ, List.getElem?_cons_zero] <;> rfl)
  case stp119 =>
  go_simp
  go_at_call 63
  refine (HKD.out _).mono ?_
  rintro e v5 ⟨rfl, hbq⟩
  replace hbq := HS118.out.trans (hbq.mono HS118.out.size)
  have HS119 : Hid (Below w1.heap.size w1 v5) := hbq
  clear hbq
  dsimp only
  refine hKK.out _ _ (Or.inr HS119.out) ?_
  clear hKK KK
  (try simp only [Act.put, List.setIfInBounds_toArray, List.set_cons_zero, List.set_cons_succ])
  refine Goes.all (rs := [19]) (by kernel_rfl) (by simp) ?_
  refine Ups.cons (i := 19) (o := ?oo11) ?ho11 (fun KQ hKQ => ?stp11) Ups.nil
  case ho11 => (simp only [List.getElem?_toArray, List.getElem?_cons_succ, List.getElem?_cons_zero] <;> rfl)
  case stp11 =>
  go_simp
  obtain ⟨v6, hv6⟩ : ∃ v, v = (v5.alloc (.cells #[.string { data := #[115, 105, 100, 101] }, .string (SB (dg (k : Int))), .string (SB (dg (wn : Int))), .string (SB (dg (gn : Int))), .string (SB (dg ak)), .string (SB (kindB pl))] 9)) := ⟨_, rfl⟩
  rw [← hv6]
  have HS6 : Hid (Below w1.heap.size w1 v6) := by show Below _ _ _; rw [hv6]; exact HS119.out.alloc HS119.out.size _
  have OV : Hid (OT v6 v5.heap.size (.slice (some ⟨v5.heap.size, 0, none⟩) 6 6) ([sideB, dg (k : Int), dg (wn : Int), dg (gn : Int), dg ak, kindB pl].map SB)) := by show OT _ _ _ _; rw [hv6]; exact ot_made v5 ([sideB, dg (k : Int), dg (wn : Int), dg (gn : Int), dg ak, kindB pl].map SB) (by simp; decide)
  have hl5 : w1.heap.size ≤ v5.heap.size := HS119.out.size
  have hz6 : v5.heap.size < v6.heap.size := by rw [hv6]; simp
  clear hv6
  refine hKQ.out _ _ (Or.inr HS6.out) ?_
  clear hKQ KQ
  (try simp only [Act.put, List.setIfInBounds_toArray, List.set_cons_zero, List.set_cons_succ])
  refine Goes.take (i := 20) (oi := ?oi201) (x := ?vx201) ?ho201 (by kernel_rfl) (by kernel_rfl) (by kernel_rfl) (by kernel_rfl) (fun _ _ _ h => h) (Or.inl ⟨?hw201, ?hy201⟩) HS6.out ?rest201
  case ho201 => (simp only [List.getElem?_toArray, List.getElem?_cons_succ, List.getElem?_cons_zero] <;> rfl)
  case hw201 => rfl
  case hy201 => (intro w' hSw; go_simp; (try with_reducible rfl))
  case rest201 =>
  (try simp only [Act.put, List.setIfInBounds_toArray, List.set_cons_zero, List.set_cons_succ])
  refine Goes.done (by kernel_rfl) ?_ _
  refine NoPanic.normal ?_
  have kC6 : ∀ o, v6.cell? ⟨bC, o, none⟩ = (#[.int .i64 (k : Int), .int .i64 ky, .int .i64 pr, .bool pl, .bool fr, .slice a5 wn c5, .bool fn, .int .i64 ak, .bool fd, .slice a9 n9 c9, .slice a10 n10 c10, .int .i64 fi, .int .i64 gv, .slice a13 l.length c13] : Array Value)[o]? := fun o => (HS6.out.cell (p := ⟨bC, o, none⟩) zC).trans (kC o)
  have hbC5 : bC < v5.heap.size := by omega
  replace HB : Hid (Below w.heap.size w v6) := HB.out.trans (HS6.out.mono HB.out.size)
  have hwv : w.heap.size ≤ v5.heap.size := by have := HQ.out; omega
  clear kP zP kC zC fC HKC HD0 HD1 HD2 HD3 HKD HGT HGB HS6 hl5 HCA HZA IA JA ONE hgn q1 q2 HQ lPC lwC hk0 hki
  obtain ⟨s5, h5⟩ : ∃ s, s = v5.heap.size := ⟨_, rfl⟩
  rw [← h5] at hbC5 hwv hz6 OV ⊢
  clear h5
  have HL6 : Hid (([sideB, dg (k : Int), dg (wn : Int), dg (gn : Int), dg ak, kindB pl] ++ l.map subT) = sideB :: LX) := by show _ = _; rw [HLX.out]; rfl
  clear HLX
  obtain ⟨L6, hL6⟩ : ∃ L, L = [sideB, dg (k : Int), dg (wn : Int), dg (gn : Int), dg ak, kindB pl] := ⟨_, rfl⟩
  have hl6 : L6.length = 6 := by rw [hL6]; rfl
  rw [← hL6] at HL6 OV
  clear hL6
  obtain ⟨a0, m0, c0, eV⟩ : ∃ a m c, (a, m, c) = ((some ⟨s5, 0, none⟩ : Option Addr), 6, 6) := ⟨_, _, _, rfl⟩
  simp only [Prod.mk.injEq] at eV
  obtain ⟨rfl, rfl, rfl⟩ := eV
  go_wp2_with fail
  have zv6 : s5 ≤ v6.heap.size := by omega
  go_loopw [6, 37] (fun v i wr => ∃ (i' m c : Nat) (a : Option Addr), i' ≤ l.length ∧ i = .int .i64 i' ∧ v = .slice a m c ∧ Hid (OT wr s5 (.slice a m c) ((L6 ++ (l.take i').map subT).map SB)) ∧ Hid (Below s5 v6 wr)) (fun _ i _ => l.length - (intOf i).toNat)
  case atStart => exact ⟨0, 6, 6, _, by omega, rfl, rfl, by rw [List.take_zero, List.map_nil, List.append_nil]; exact OV, Below.refl _ _⟩
  case round =>
    clear OV
    rename World => wr
    obtain ⟨i, m, c, va, hi, rfl, rfl, HO, HBr⟩ := hrel
    have HB6 : Hid (Below w.heap.size w v6) := HB
    replace HB : Hid (Below w.heap.size w wr) := HB6.out.trans (HBr.out.mono hwv)
    have kC : ∀ o, wr.cell? ⟨bC, o, none⟩ = (#[.int .i64 (k : Int), .int .i64 ky, .int .i64 pr, .bool pl, .bool fr, .slice a5 wn c5, .bool fn, .int .i64 ak, .bool fd, .slice a9 n9 c9, .slice a10 n10 c10, .int .i64 fi, .int .i64 gv, .slice a13 l.length c13] : Array Value)[o]? := fun o => (HBr.out.cell (p := ⟨bC, o, none⟩) hbC5).trans (kC6 o)
    have zwr : s5 ≤ wr.heap.size := Nat.le_trans zv6 HBr.out.size
    have zC : bC < wr.heap.size := by omega
    have hin : (L6 ++ (l.take i).map subT).length = 6 + i := by rw [List.length_append, List.length_map, List.length_take, hl6]; omega
    by_cases hil : i < l.length
    · obtain ⟨b13, o13, SA, rfl, hSz, hSo, hS0, hS1, hSr⟩ := HSU.out i hil
      have q4 := q3 _ (List.getElem_mem hil)
      have HSB : Hid (subT l[i] = dg l[i].1 ++ 58 :: dg l[i].2.1) := rfl
      have htk : (l.take (i + 1)).map subT = (l.take i).map subT ++ [subT l[i]] := by rw [List.take_succ_eq_append_getElem hil, List.map_append]; rfl
      generalize l[i].1 = pa at *
      generalize l[i].2.1 = st at *
      generalize subT l[i] = tx at *
      have HZS : Hid (SA.size = 16) := hSz
      have IS : Hid ((Tryz.prog.info? 93).map (·.size) = some SA.size) := by show _ = _; rw [hSz]; exact (by kernel_rfl : (Tryz.prog.info? 93).map (·.size) = some 16)
      have JS : Hid ((Tryz.prog.info? 93).map (·.size) = some SA.toList.length) := by show _ = _; rw [Array.length_toList]; exact IS.out
      have OS : Hid (SA.all (·.oneCell') = true) := hSo
      have HGS : Hid (wr.rangeAt b13 (o13 + i * 16) SA.toList) := hSr _ HB.out
      have HS0q : Hid (SA[0]? = some (.int .i64 pa)) := hS0
      have HS1q : Hid (SA[1]? = some (.int .i64 st)) := hS1
      clear hSz hSo hSr hS0 hS1 HSU
      have HE0 : Hid (∀ W, Below w.heap.size w W → Calls Tryz.prog 42 #[.int .i64 pa] W fun e w' => e = .returned (.string (SB (dg pa))) ∧ Below W.heap.size W w') := fun W h => iDecimal _ W (by omega) (by omega) (HTL.out W h)
      have HE1 : Hid (∀ W, Below w.heap.size w W → Calls Tryz.prog 42 #[.int .i64 st] W fun e w' => e = .returned (.string (SB (dg st))) ∧ Below W.heap.size W w') := fun W h => iDecimal _ W (by omega) (by omega) (HTL.out W h)
      have hii : (i : Int) < l.length := by omega
      have HOB : Hid (∀ g, (Value.slice va m c).ownBlock = some g → g < wr.heap.size) := fun g hg => (HO.out.own.lt g hg).2
      have HTH : Hid ((wr.alloc (.cells #[.int .i64 0, .int .i64 0, .bool false, .int .i64 0, .int .i64 0, .int .i64 0, .int .i64 0, .int .i64 0, .int .i64 0, .slice none 0 0, .int .i64 0, .int .i64 0, .slice none 0 0, .int .i64 0, .int .i64 0, .int .i64 0] 93)).there wr.heap.size 0 SA.size) := bx_there (bx_al _ _ _) (fx_al _ _ _) (by rw [HZS.out]; rfl)
      have HWN : Hid (Below wr.heap.size wr ((wr.alloc (.cells #[.int .i64 0, .int .i64 0, .bool false, .int .i64 0, .int .i64 0, .int .i64 0, .int .i64 0, .int .i64 0, .int .i64 0, .slice none 0 0, .int .i64 0, .int .i64 0, .slice none 0 0, .int .i64 0, .int .i64 0, .int .i64 0] 93)).setCells wr.heap.size 0 SA.toList) ∧ wr.heap.size < ((wr.alloc (.cells #[.int .i64 0, .int .i64 0, .bool false, .int .i64 0, .int .i64 0, .int .i64 0, .int .i64 0, .int .i64 0, .int .i64 0, .slice none 0 0, .int .i64 0, .int .i64 0, .slice none 0 0, .int .i64 0, .int .i64 0, .int .i64 0] 93)).setCells wr.heap.size 0 SA.toList).heap.size ∧ (∀ o, ((wr.alloc (.cells #[.int .i64 0, .int .i64 0, .bool false, .int .i64 0, .int .i64 0, .int .i64 0, .int .i64 0, .int .i64 0, .int .i64 0, .slice none 0 0, .int .i64 0, .int .i64 0, .slice none 0 0, .int .i64 0, .int .i64 0, .int .i64 0] 93)).setCells wr.heap.size 0 SA.toList).cell? ⟨wr.heap.size, o, none⟩ = SA[o]?) ∧ (∀ o, ((wr.alloc (.cells #[.int .i64 0, .int .i64 0, .bool false, .int .i64 0, .int .i64 0, .int .i64 0, .int .i64 0, .int .i64 0, .int .i64 0, .slice none 0 0, .int .i64 0, .int .i64 0, .slice none 0 0, .int .i64 0, .int .i64 0, .int .i64 0] 93)).setCells wr.heap.size 0 SA.toList).frozen? ⟨wr.heap.size, o, none⟩ = false)) := ⟨setCells_below (Nat.le_refl _) _ _ _ _ ((Below.refl _ _).alloc (Nat.le_refl _) _), by rw [setCells_size]; simp, bx_setCells (bx_al wr _ _) (by rw [HZS.out]; rfl), fx_sets (fx_al _ _ _)⟩
      go_upto_region 6 with (first | (refine wpList_load_mid rfl 93 _ rfl _ _ (by rfl) SA.toList _ HGS.out Tryz.underlying93 rfl JS.out ?_) | (refine wpList_store_mid rfl 93 _ _ rfl _ _ SA (by rfl) (by rfl) HTH.out IS.out OS.out ?_))
      generalize hWW : ((wr.alloc (.cells #[.int .i64 0, .int .i64 0, .bool false, .int .i64 0, .int .i64 0, .int .i64 0, .int .i64 0, .int .i64 0, .int .i64 0, .slice none 0 0, .int .i64 0, .int .i64 0, .slice none 0 0, .int .i64 0, .int .i64 0, .int .i64 0] 93)).setCells wr.heap.size 0 SA.toList) = v7 at HWN ⊢
      clear hWW HTH
      obtain ⟨hb, zX, kX, fX⟩ := HWN.out
      clear HWN
      obtain ⟨bX, hq⟩ : ∃ q, q = wr.heap.size := ⟨_, rfl⟩
      rw [← hq] at zX kX fX ⊢
      have lCX : bC < bX := by rw [hq]; exact zC
      have lwX : w.heap.size ≤ bX := by rw [hq]; exact HB.out.size
      have lrX : wr.heap.size ≤ bX := Nat.le_of_eq hq.symm
      clear hq
      have HBX : Hid (Below wr.heap.size wr v7) := hb
      replace kC := bx_below kC zC hb
      replace zC := Nat.lt_of_lt_of_le zC hb.size
      replace HB : Hid (Below w.heap.size w v7) := HB.out.trans (hb.mono HB.out.size)
      clear hb
      have k0 := (kX 0).trans HS0q.out
      have k1 := (kX 1).trans HS1q.out
      replace HO := HO.out.below (Nat.le_refl _) HBX.out
      have HO7 : Hid _ := HO
      clear HO kX fX HGS HS0q HS1q HZS IS JS OS
      have hz1 : (SB (dg pa)).size = (dg pa).length := SB_size _
      have hz2 : (dg pa).length ≤ 21 := dg_len (by omega) (by omega)
      have hz3 : (SB (dg st)).size = (dg st).length := SB_size _
      have hz4 : (dg st).length ≤ 21 := dg_len (by omega) (by omega)
      have hz5 : ¬ 9223372036854775807 < (dg pa).length + 1 := by omega
      have hz7 : ¬ 9223372036854775807 < (dg pa).length + 1 + (dg st).length := by omega
      have zs7 : s5 ≤ v7.heap.size := Nat.le_trans zwr HBX.out.size
      refine wp_region_noPanic ?_
      refine Goes.start (S := fun w' => SwS s5 v7 bX pa st w') (z := 100) (by kernel_rfl) ?_
      have HS0 : Hid (SwS s5 v7 bX pa st v7.drew) := ⟨Below.drew (Below.refl _ _), k0, k1⟩
      have HU0 : Hid (Below v7.heap.size v7 v7.drew) := Below.drew (Below.refl _ _)
      refine Goes.take (i := 0) (oi := ?oi301) (x := ?vx301) ?ho301 (by kernel_rfl) (by kernel_rfl) (by kernel_rfl) (by kernel_rfl) (fun _ _ _ h => h) (Or.inl ⟨?hw301, ?hy301⟩) HS0.out ?rest301
      case ho301 => (simp only [List.getElem?_toArray, List.getElem?_cons_zero] <;> rfl)
      case hw301 => rfl
      case hy301 => (intro w' hSw; have j0 := hSw.k0; have j1 := hSw.k1; go_simp; (try with_reducible rfl))
      case rest301 =>
      (try simp only [Act.put, List.setIfInBounds_toArray, List.set_cons_zero, List.set_cons_succ])
      refine Goes.take (i := 1) (oi := ?oi302) (x := ?vx302) ?ho302 (by kernel_rfl) (by kernel_rfl) (by kernel_rfl) (by kernel_rfl) (fun _ _ _ h => h) (Or.inl ⟨?hw302, ?hy302⟩) HS0.out ?rest302
      case ho302 => (simp only [List.getElem?_toArray, List.getElem?_cons_succ, List.getElem?_cons_zero] <;> rfl)
      case hw302 => rfl
      case hy302 => (intro w' hSw; have j0 := hSw.k0; have j1 := hSw.k1; go_simp; (try with_reducible rfl))
      case rest302 =>
      (try simp only [Act.put, List.setIfInBounds_toArray, List.set_cons_zero, List.set_cons_succ])
      refine Goes.take (i := 2) (oi := ?oi303) (x := ?vx303) ?ho303 (by kernel_rfl) (by kernel_rfl) (by kernel_rfl) (by kernel_rfl) (fun _ _ _ h => h) (Or.inl ⟨?hw303, ?hy303⟩) HS0.out ?rest303
      case ho303 => (simp only [List.getElem?_toArray, List.getElem?_cons_succ, List.getElem?_cons_zero] <;> rfl)
      case hw303 => rfl
      case hy303 => (intro w' hSw; have j0 := hSw.k0; have j1 := hSw.k1; go_simp; (try with_reducible rfl))
      case rest303 =>
      (try simp only [Act.put, List.setIfInBounds_toArray, List.set_cons_zero, List.set_cons_succ])
      refine Goes.take (i := 5) (oi := ?oi304) (x := ?vx304) ?ho304 (by kernel_rfl) (by kernel_rfl) (by kernel_rfl) (by kernel_rfl) (fun _ _ _ h => h) (Or.inl ⟨?hw304, ?hy304⟩) HS0.out ?rest304
      case ho304 => (simp only [List.getElem?_toArray, List.getElem?_cons_succ, List.getElem?_cons_zero] <;> rfl)
      case hw304 => rfl
      case hy304 => (intro w' hSw; have j0 := hSw.k0; have j1 := hSw.k1; go_simp; (try with_reducible rfl))
      case rest304 =>
      (try simp only [Act.put, List.setIfInBounds_toArray, List.set_cons_zero, List.set_cons_succ])
      refine Goes.take (i := 6) (oi := ?oi305) (x := ?vx305) ?ho305 (by kernel_rfl) (by kernel_rfl) (by kernel_rfl) (by kernel_rfl) (fun _ _ _ h => h) (Or.inl ⟨?hw305, ?hy305⟩) HS0.out ?rest305
      case ho305 => (simp only [List.getElem?_toArray, List.getElem?_cons_succ, List.getElem?_cons_zero] <;> rfl)
      case hw305 => rfl
      case hy305 => (intro w' hSw; have j0 := hSw.k0; have j1 := hSw.k1; go_simp; (try with_reducible rfl))
      case rest305 =>
      (try simp only [Act.put, List.setIfInBounds_toArray, List.set_cons_zero, List.set_cons_succ])
      refine Goes.all (rs := [3]) (by kernel_rfl) (by simp) ?_
      refine Ups.cons (i := 3) (o := ?oo306) ?ho306 (fun KK hKK => ?stp306) Ups.nil
      case ho306 => (simp only [List.getElem?_toArray, List.getElem?_cons_succ, List.getElem?_cons_zero] <;> rfl)
      case stp306 =>
      go_simp
      go_at_call 42
      refine (HE0.out _ (HB.out.trans (HS0.out.bl.mono hwv))).mono ?_
      rintro e u1 ⟨rfl, hbq⟩
      have HS306 : Hid (SwS s5 v7 bX pa st u1) := HS0.out.step hbq zs7 zX
      have HU306 : Hid (Below v7.heap.size v7 u1) := HU0.out.trans (hbq.mono HU0.out.size)
      clear hbq
      dsimp only
      refine hKK.out _ _ (Or.inr HS306.out) ?_
      clear hKK KK
      (try simp only [Act.put, List.setIfInBounds_toArray, List.set_cons_zero, List.set_cons_succ])
      refine Goes.take (i := 4) (oi := ?oi307) (x := ?vx307) ?ho307 (by kernel_rfl) (by kernel_rfl) (by kernel_rfl) (by kernel_rfl) (fun _ _ _ h => h) (Or.inl ⟨?hw307, ?hy307⟩) HS306.out ?rest307
      case ho307 => (simp only [List.getElem?_toArray, List.getElem?_cons_succ, List.getElem?_cons_zero] <;> rfl)
      case hw307 => rfl
      case hy307 => (intro w' hSw; have j0 := hSw.k0; have j1 := hSw.k1; go_simp; (try with_reducible rfl))
      case rest307 =>
      (try simp only [Act.put, List.setIfInBounds_toArray, List.set_cons_zero, List.set_cons_succ])
      refine Goes.all (rs := [7]) (by kernel_rfl) (by simp) ?_
      refine Ups.cons (i := 7) (o := ?oo308) ?ho308 (fun KK hKK => ?stp308) Ups.nil
      case ho308 => (simp only [List.getElem?_toArray, List.getElem?_cons_succ, List.getElem?_cons_zero] <;> rfl)
      case stp308 =>
      go_simp
      go_at_call 42
      refine (HE1.out _ (HB.out.trans (HS306.out.bl.mono hwv))).mono ?_
      rintro e u2 ⟨rfl, hbq⟩
      have HS308 : Hid (SwS s5 v7 bX pa st u2) := HS306.out.step hbq zs7 zX
      have HU308 : Hid (Below v7.heap.size v7 u2) := HU306.out.trans (hbq.mono HU306.out.size)
      clear hbq
      dsimp only
      refine hKK.out _ _ (Or.inr HS308.out) ?_
      clear hKK KK
      (try simp only [Act.put, List.setIfInBounds_toArray, List.set_cons_zero, List.set_cons_succ])
      refine Goes.take (i := 8) (oi := ?oi309) (x := ?vx309) ?ho309 (by kernel_rfl) (by kernel_rfl) (by kernel_rfl) (by kernel_rfl) (fun _ _ _ h => h) (Or.inl ⟨?hw309, ?hy309⟩) HS308.out ?rest309
      case ho309 => (simp only [List.getElem?_toArray, List.getElem?_cons_succ, List.getElem?_cons_zero] <;> rfl)
      case hw309 => rfl
      case hy309 => (intro w' hSw; have j0 := hSw.k0; have j1 := hSw.k1; go_simp; (try with_reducible rfl))
      case rest309 =>
      (try simp only [Act.put, List.setIfInBounds_toArray, List.set_cons_zero, List.set_cons_succ])
      have e5 : Hid (SB (dg pa) ++ { data := #[58] } ++ SB (dg st) = SB tx) := by show _ = _; rw [HSB.out, show dg pa ++ 58 :: dg st = (dg pa ++ [58]) ++ dg st from by simp, ← SB_app, ← SB_app]; rfl
      rw [e5.out]
      clear HSB e5
      refine Goes.all (rs := [9]) (by kernel_rfl) (by simp) ?_
      refine Ups.cons (i := 9) (o := ?oo12) ?ho12 (fun KQ hKQ => ?stp12) Ups.nil
      case ho12 => (simp only [List.getElem?_toArray, List.getElem?_cons_succ, List.getElem?_cons_zero] <;> rfl)
      case stp12 =>
      go_simp
      obtain ⟨u3, hu3⟩ : ∃ v, v = (u2.alloc (.cells #[.string (SB tx)] 9)) := ⟨_, rfl⟩
      rw [← hu3]
      have HS3 : Hid (SwS s5 v7 bX pa st u3) := by show SwS _ _ _ _ _ _; rw [hu3]; exact HS308.out.step ((Below.refl _ _).alloc (Nat.le_refl _) _) zs7 zX
      have HU3 : Hid (Below v7.heap.size v7 u3) := by show Below _ _ _; rw [hu3]; exact HU308.out.alloc HU308.out.size _
      have hc3 : u3.cell? ⟨u2.heap.size, 0, none⟩ = some (.string (SB tx)) := by rw [hu3]; simp
      clear hu3
      refine hKQ.out _ _ (Or.inr HS3.out) ?_
      clear hKQ KQ
      (try simp only [Act.put, List.setIfInBounds_toArray, List.set_cons_zero, List.set_cons_succ])
      have HO3 : Hid _ := HO7.out.below (Nat.le_refl _) HU3.out
      have zu3 : s5 ≤ u3.heap.size := Nat.le_trans zs7 HS3.out.bl.size
      refine Goes.all (rs := [10]) (by kernel_rfl) (by simp) ?_
      refine Ups.cons (i := 10) (o := ?oo13) ?ho13 (fun KQ hKQ => ?stp13) Ups.nil
      case ho13 => (simp only [List.getElem?_toArray, List.getElem?_cons_succ, List.getElem?_cons_zero] <;> rfl)
      case stp13 =>
      refine app_tg_st u3 (by rfl) _ _ (by rfl) s5 (.slice va m c) _ (by rfl) HO3.out (SB tx) u2.heap.size (by rfl) hc3 (by rw [List.length_map, hin]; omega) zu3 ?_
      intro v' u4 ho4 hb4 hk4
      obtain ⟨va4, vc4, hv4, -⟩ := ho4.rt
      obtain ⟨m4, hm4⟩ : ∃ q, q = (((L6 ++ (l.take i).map subT).map SB) ++ [SB tx]).length := ⟨_, rfl⟩
      rw [← hm4] at hv4
      subst hv4
      have HO4 : Hid (OT u4 s5 (.slice va4 m4 vc4) ((L6 ++ (l.take (i + 1)).map subT).map SB)) := by show OT _ _ _ _; rw [htk, ← List.append_assoc, List.map_append]; exact ho4
      have hblk := hk4 bX (Nat.lt_of_lt_of_le zX HS3.out.bl.size) (fun e => absurd (HOB.out bX e) (by omega))
      have HS4 : Hid (SwS s5 v7 bX pa st u4) := ⟨HS3.out.bl.trans hb4, (World.cell?_of_block (a := ⟨bX, 0, none⟩) hblk).trans HS3.out.k0, (World.cell?_of_block (a := ⟨bX, 1, none⟩) hblk).trans HS3.out.k1⟩
      have HB4 : Hid (Below s5 v6 u4) := (HBr.out.trans (HBX.out.mono zwr)).trans HS4.out.bl
      clear ho4 hb4 hk4 hm4 hblk
      refine hKQ.out _ _ (Or.inr HS4.out) ?_
      clear hKQ KQ
      (try simp only [Act.put, List.setIfInBounds_toArray, List.set_cons_zero, List.set_cons_succ])
      refine Goes.take (i := 11) (oi := ?oi401) (x := ?vx401) ?ho401 (by kernel_rfl) (by kernel_rfl) (by kernel_rfl) (by kernel_rfl) (fun _ _ _ h => h) (Or.inl ⟨?hw401, ?hy401⟩) HS4.out ?rest401
      case ho401 => (simp only [List.getElem?_toArray, List.getElem?_cons_succ, List.getElem?_cons_zero] <;> rfl)
      case hw401 => rfl
      case hy401 => (intro w' hSw; go_simp; (try with_reducible rfl))
      case rest401 =>
      (try simp only [Act.put, List.setIfInBounds_toArray, List.set_cons_zero, List.set_cons_succ])
      refine Goes.done (by kernel_rfl) ?_ _
      refine NoPanic.normal ?_
      clear HS4 HS3 HU3 HO3 HO7 HOB
      go_wp2_with fail
      go_roundw
      case rel => exact ⟨i + 1, m4, vc4, va4, by omega, by go_num, rfl, HO4, HB4⟩
      case measure => simp [intOf]; omega
    · obtain rfl : i = l.length := by omega
      rw [List.take_of_length_le (Nat.le_refl _), HL6.out] at HO
      clear HSU
      go_wp2_with fail
      obtain ⟨g, hva, hm, hmc, hg, hcc⟩ := HO.out.at0 (by simp)
      subst hva
      rw [List.length_map] at hm
      exact bodyPost_ret (v := .slice (some ⟨g, 0, none⟩) m c) (by simp [results, Tryz.results43, go_sem]) rfl ⟨g, m, c, rfl, by simpa using hm, hmc, hg, fun j h => by have h1 := hcc j (by rw [List.length_map]; exact h); rw [h1, List.getElem_map], HB.out⟩
    --end
    end Go.Proofs.YtfpemobkkfobkaaGreatDoor

/- What the program's text of a world is; nothing that was in memory turns; no condition but on its size and the library's table. -/
namespace Go.Proofs.YtfpemobkkfobkaaGreatDoor
open Go.RowKit
set_option linter.unusedVariables false
set_option maxRecDepth 8000

set_option maxHeartbeats 4000000 in
theorem iTextOf (x : DWorld) (A : Array Value) (w : World) (B : Nat) (hr : shWorld.Rd w B x A.toList) (hB : B ≤ w.heap.size) (hF : worldF x = 0) (hT : totWorld x ≤ 1048576) (ht : TabL w) :
    Calls Tryz.prog 21 #[.agg A] w fun e w' => e = .returned (.string (SB (worldT x))) ∧ Below w.heap.size w w' := by
  obtain ⟨sb, so, sc, na, nc, da, dc, gb, go, gc, eb, eo, ec, hWO⟩ := wo_all hr hF hT
  obtain ⟨⟨n0, n1⟩, -, -⟩ := world_okT hF
  obtain ⟨bn, hbn⟩ : ∃ n, n = x.2.2.1.1.length := ⟨_, rfl⟩
  have hb20 : bn ≤ 1048576 := by
    have h1 : totNet x.2.2.1 ≤ totWorld x := by unfold totWorld; omega
    have h2 : x.2.2.1.1.length ≤ totNet x.2.2.1 := by unfold totNet; unfold totSegms; omega
    omega
  have hA := hWO.eA
  rw [← hbn] at hA
  have HI : Hid ((Tryz.prog.info? 39).map (·.size) = some A.toList.length) := by show _ = _; rw [Array.length_toList, rd_size hr]; exact (by kernel_rfl : (Tryz.prog.info? 39).map (·.size) = some 6)
  have hPT : preT x 0 = nowB ++ jt [dg x.1] ++ [10] := rfl
  have hPE : worldT x = preT x 2 ++ (bagB ++ jt [dg (bn : Int)] ++ [10]) := by rw [hbn]; rfl
  have HPS : Hid (∀ k, preT x (k + 1) = preT x k ++ sideT (x.cn k) (x.gt k) k) := fun k => rfl
  have HSL : Hid (∀ k, k < 2 → (sideT (x.cn k) (x.gt k) k).length ≤ 60000000 ∧ (x.cn k).subs.length ≤ 1048576) := fun k hk => by
    have hs3 : (x.cn k).subs.length ≤ 1048576 := by have h := hWO.tot k hk; unfold totConn totSubs at h; show (x.cn k).2.2.2.2.2.2.2.2.2.2.2.2.1.length ≤ 1048576; omega
    exact ⟨(side_len (g := x.gt k) (k := k) (hWO.ok k hk) hs3 (gt_few hT k) (by omega)).1, hs3⟩
  have HSW : Hid (∀ (k : Nat), k < 2 → ∀ W, Below w.heap.size w W → Calls Tryz.prog 43 #[.agg A, .int .i64 (k : Int)] W fun e w' => ∃ b n cap, e = .returned (.slice (some ⟨b, 0, none⟩) n cap) ∧ n = (sideB :: sideX (x.cn k) (x.gt k) k).length ∧ n ≤ cap ∧ b < w'.heap.size ∧ (∀ j (h : j < (sideB :: sideX (x.cn k) (x.gt k) k).length), w'.cell? ⟨b, 0 + j, none⟩ = some (.string (SB ((sideB :: sideX (x.cn k) (x.gt k) k)[j])))) ∧ Below W.heap.size W w') :=
    fun k hk W hW => iSideWords x A k W B (Sh.Rd.below hr hB hW) (Nat.le_trans hB hW.size) hF hT hk (ht.below hW)
  have hdn := dg_len (n := x.1) n0 (by omega)
  have hdb := dg_len (n := (bn : Int)) (by omega) (by omega)
  have HPL : Hid (∀ k, k ≤ 2 → (preT x k).length ≤ 120000100) := by
    have h0 : (preT x 0).length ≤ 100 := by rw [hPT]; simp [nowB, jt]; omega
    have h1 : (preT x 1).length ≤ 60000100 := by have := (HSL.out 0 (by omega)).1; rw [HPS.out 0, List.length_append]; omega
    have h2 : (preT x 2).length ≤ 120000100 := by have := (HSL.out 1 (by omega)).1; rw [HPS.out 1, List.length_append]; omega
    intro k hk
    rcases (show k = 0 ∨ k = 1 ∨ k = 2 by omega) with rfl | rfl | rfl <;> omega
  have HD0 : Hid (∀ W, Below w.heap.size w W → Calls Tryz.prog 42 #[.int .i64 x.1] W fun e w' => e = .returned (.string (SB (dg x.1))) ∧ Below W.heap.size W w') := fun W h => iDecimal _ W (by omega) (by omega) (ht.below h)
  have HD1 : Hid (∀ W, Below w.heap.size w W → Calls Tryz.prog 42 #[.int .i64 (bn : Int)] W fun e w' => e = .returned (.string (SB (dg (bn : Int)))) ∧ Below W.heap.size W w') := fun W h => iDecimal _ W (by omega) (by omega) (ht.below h)
  clear hWO hr hF hT hbn ht n0 n1
  have HPT0 : Hid (preT x 0 = nowB ++ jt [dg x.1] ++ [10]) := hPT
  have HPE : Hid (worldT x = preT x 2 ++ (bagB ++ jt [dg (bn : Int)] ++ [10])) := hPE
  clear hPT hPE
  generalize x.2.2.1.2.1.length = dn at hA
  generalize x.1 = now at *
  have HCA : Hid (A = #[.int .i64 now, .slice (some ⟨sb, so, none⟩) 2 sc, .slice na bn nc, .slice da dn dc, .slice (some ⟨gb, go, none⟩) 2 gc, .slice (some ⟨eb, eo, none⟩) 2 ec]) := hA
  clear hA
  go_enter Tryz.func21, Tryz.ntmps21
  go_upto_region 1 with fail
  obtain ⟨w0, hw0⟩ : ∃ v, v = (w.alloc (.cells A 39)) := ⟨_, rfl⟩
  have kA : ∀ o, w0.cell? ⟨w.heap.size, o, none⟩ = A[o]? := by rw [hw0]; exact bx_al w _ _
  have hb : Below w.heap.size w w0 := by rw [hw0]; exact (Below.refl _ _).alloc (Nat.le_refl _) _
  have zA : w.heap.size < w0.heap.size := by rw [hw0]; simp
  rw [← hw0]
  clear hw0
  have HB0 : Hid (Below w.heap.size w w0) := hb
  clear hb
  obtain ⟨bP, hq⟩ : ∃ q, q = w.heap.size := ⟨_, rfl⟩
  rw [← hq] at zA kA ⊢
  clear hq
  have HZ0 : Hid (w.heap.size ≤ w0.heap.size) := HB0.out.size
  have HKA : Hid (∀ W, Below w0.heap.size w0 W → ∀ o, W.cell? ⟨bP, o, none⟩ = A[o]?) := fun W h o => (h.cell (p := ⟨bP, o, none⟩) zA).trans (kA o)
  have HKP : Hid (∀ W, Below w0.heap.size w0 W → ∀ o, W.cell? ⟨bP, o, none⟩ = (#[.int .i64 now, .slice (some ⟨sb, so, none⟩) 2 sc, .slice na bn nc, .slice da dn dc, .slice (some ⟨gb, go, none⟩) 2 gc, .slice (some ⟨eb, eo, none⟩) 2 ec] : Array Value)[o]?) := fun W h o => by rw [HKA.out W h o, HCA.out]
  clear kA
  have kP := HKP.out w0 (Below.refl _ _)
  go_wp2_with fail
  refine (HD0.out _ HB0.out).mono ?_
  rintro e w1 ⟨rfl, hb⟩
  have HB1 : Hid (Below w0.heap.size w0 w1) := hb
  clear hb kP
  go_wp2_with fail
  have hc1 : ∀ j (h : j < (nowB :: [dg now]).length), (w1.alloc (.cells #[.string { data := #[110, 111, 119] }, .string (SB (dg now))] 9)).cell? ⟨w1.heap.size, 0 + j, none⟩ = some (.string (SB ((nowB :: [dg now])[j]))) := fun j h => (bx_al w1 _ _ (0 + j)).trans (by
    rcases j with _ | _ | j
    · rfl
    · rfl
    · simp at h; omega)
  refine (iLineWith w1.heap.size 0 2 2 nowB [dg now] _ (by simp) hc1 rfl (by omega) (by omega) (by simp [nowB, jt]; omega)).mono ?_
  rintro e w2 ⟨rfl, hb⟩
  have HB2 : Hid (Below w0.heap.size w0 w2) := (HB1.out.alloc HB1.out.size _).trans (hb.mono (by have := HB1.out.size; simp; omega))
  clear hb hc1
  obtain ⟨L0, hL0⟩ : ∃ L, L = nowB ++ jt [dg now] ++ [10] := ⟨_, rfl⟩
  have e0 : Hid (L0 = preT x 0) := hL0.trans HPT0.out.symm
  rw [← hL0]
  clear hL0
  have kP := HKP.out w2 HB2.out
  go_wp2_with fail
  clear HB1 HD0 hdn HPT0
  go_loopw [3, 13] (fun t i wr => ∃ k : Nat, k ≤ 2 ∧ i = .int .i64 k ∧ t = .string (SB (preT x k)) ∧ Hid (Below w0.heap.size w0 wr)) (fun _ i _ => 2 - (intOf i).toNat)
  case atStart => exact ⟨0, by omega, rfl, by rw [e0.out], HB2⟩
  case round =>
    clear HB2 kP e0
    rename World => wr
    obtain ⟨k, hk, rfl, rfl, HB⟩ := hrel
    by_cases hk2 : k < 2
    · have HWA : Hid (Below w.heap.size w wr) := HB0.out.trans (HB.out.mono HZ0.out)
      have HG := HKA.out wr HB.out
      obtain ⟨hs1, hs2⟩ := HSL.out k hk2
      have hpk := HPL.out k hk
      have HPX : Hid (preT x (k + 1) = preT x k ++ sideT (x.cn k) (x.gt k) k) := HPS.out k
      have HTX : Hid (sideT (x.cn k) (x.gt k) k = sideB ++ jt (sideX (x.cn k) (x.gt k) k) ++ [10]) := sideT_X _ _ _
      have hln : (sideB :: sideX (x.cn k) (x.gt k) k).length = 6 + (x.cn k).subs.length := by simp [sideX]; omega
      have hki : (k : Int) < 2 := by omega
      generalize preT x k = d at *
      generalize sideT (x.cn k) (x.gt k) k = sd at *
      have HSQ : Hid (∀ Q : Ending → World → Prop, (∀ e w', (∃ b n cap, e = .returned (.slice (some ⟨b, 0, none⟩) n cap) ∧ n = (sideB :: sideX (x.cn k) (x.gt k) k).length ∧ n ≤ cap ∧ b < w'.heap.size ∧ (∀ j (h : j < (sideB :: sideX (x.cn k) (x.gt k) k).length), w'.cell? ⟨b, 0 + j, none⟩ = some (.string (SB ((sideB :: sideX (x.cn k) (x.gt k) k)[j])))) ∧ Below wr.heap.size wr w') → Q e w') → Calls Tryz.prog 43 #[.agg A, .int .i64 (k : Int)] wr Q) := fun Q hQ => (HSW.out k hk2 wr HWA.out).mono hQ
      clear HSW
      generalize sideX (x.cn k) (x.gt k) k = LX at *
      go_wp2_with (first | (refine wpList_load_mid rfl 39 _ rfl _ _ (by rfl) A.toList _ (bx_range HG) Tryz.underlying39 rfl HI.out ?_))
      refine HSQ.out _ ?_
      rintro e u1 ⟨b, n, cap, rfl, hn, hnc, hbl, hcl, hbe⟩
      have HU1 : Hid (Below w0.heap.size w0 u1) := HB.out.trans (hbe.mono HB.out.size)
      have HCL : Hid _ := hcl
      have HN : Hid (n = (sideB :: LX).length) := hn
      clear hbe hcl HG hn
      go_wp2_with fail
      have hsl : (sideB ++ jt LX).length ≤ 60000000 := by have h := congrArg List.length HTX.out; rw [List.length_append] at h; simp only [List.length_cons, List.length_nil] at h; omega
      refine (iLineWith b 0 cap n sideB LX u1 hbl HCL.out HN.out hnc (by rw [HN.out]; omega) (by omega)).mono ?_
      rintro e u2 ⟨rfl, hb⟩
      have HU2 : Hid (Below w0.heap.size w0 u2) := HU1.out.trans (hb.mono HU1.out.size)
      clear hb HCL HU1
      rw [← HTX.out]
      have hz1 : (SB d).size = d.length := SB_size _
      have hz2 : (SB sd).size = sd.length := SB_size _
      have hz3 : ¬ 9223372036854775807 < d.length + sd.length := by omega
      have e5 : Hid (SB d ++ SB sd = SB (preT x (k + 1))) := by show _ = _; rw [HPX.out, SB_app]
      go_wp2_with fail
      rw [e5.out]
      go_roundw
      case rel => exact ⟨k + 1, by omega, by go_num, rfl, HU2⟩
      case measure => simp [intOf]; omega
    · obtain rfl : k = 2 := by omega
      clear HSW HSL
      have HWA : Hid (Below w.heap.size w wr) := HB0.out.trans (HB.out.mono HZ0.out)
      have kP := HKP.out wr HB.out
      have hpk := HPL.out 2 (by omega)
      generalize preT x 2 = d at *
      have hPE := HPE.out
      have HPE2 : Hid (worldT x = d ++ (bagB ++ jt [dg (bn : Int)] ++ [10])) := hPE
      clear hPE HPE
      go_wp2_with fail
      refine (HD1.out _ HWA.out).mono ?_
      rintro e w1 ⟨rfl, hb⟩
      have HW1 : Hid (Below w.heap.size w w1) := HWA.out.trans (hb.mono HWA.out.size)
      clear hb kP
      go_wp2_with fail
      have hc1 : ∀ j (h : j < (bagB :: [dg (bn : Int)]).length), (w1.alloc (.cells #[.string { data := #[98, 97, 103] }, .string (SB (dg (bn : Int)))] 9)).cell? ⟨w1.heap.size, 0 + j, none⟩ = some (.string (SB ((bagB :: [dg (bn : Int)])[j]))) := fun j h => (bx_al w1 _ _ (0 + j)).trans (by
        rcases j with _ | _ | j
        · rfl
        · rfl
        · simp at h; omega)
      refine (iLineWith w1.heap.size 0 2 2 bagB [dg (bn : Int)] _ (by simp) hc1 rfl (by omega) (by omega) (by simp [bagB, jt]; omega)).mono ?_
      rintro e w3 ⟨rfl, hb⟩
      have HW3 : Hid (Below w.heap.size w w3) := (HW1.out.alloc HW1.out.size _).trans (hb.mono (by have := HW1.out.size; simp; omega))
      clear hb hc1
      obtain ⟨LB, hLB⟩ : ∃ L, L = bagB ++ jt [dg (bn : Int)] ++ [10] := ⟨_, rfl⟩
      have hlb : LB.length ≤ 60 := by rw [hLB]; simp [bagB, jt]; omega
      have HPE3 : Hid (worldT x = d ++ LB) := HPE2.out.trans (by rw [hLB])
      rw [← hLB]
      clear hLB HPE2
      have hz1 : (SB d).size = d.length := SB_size _
      have hz2 : (SB LB).size = LB.length := SB_size _
      have hz3 : ¬ 9223372036854775807 < d.length + LB.length := by omega
      have e5 : Hid (SB d ++ SB LB = SB (worldT x)) := by show _ = _; rw [HPE3.out, SB_app]
      clear HPE3
      go_wp2_with fail
      exact bodyPost_ret (v := .string (SB d ++ SB LB)) (by simp [results, Tryz.results21, go_sem]) rfl ⟨by rw [e5.out], HW3.out⟩
set_option maxHeartbeats 1000000 in
theorem iWorldText (x : DWorld) (A : Array Value) (w : World) (B : Nat) (hr : shWorld.Rd w B x A.toList) (hB : B ≤ w.heap.size) (hT : totWorld x ≤ 1048576) (ht : TabL w) :
    Calls Tryz.prog 7 #[.agg A] w fun e w' => e = .returned (.agg #[.int .i64 (worldF x), .string (wtS x)]) ∧ Below w.heap.size w w' := by
  have HI : Hid ((Tryz.prog.info? 39).map (·.size) = some A.toList.length) := by show _ = _; rw [Array.length_toList, rd_size hr]; exact (by kernel_rfl : (Tryz.prog.info? 39).map (·.size) = some 6)
  have HC : Hid (∀ W, Below w.heap.size w W → Calls Tryz.prog 20 #[.agg A] W fun e w' => e = .returned (.int .i64 (worldF x)) ∧ Below W.heap.size W w') := fun W hW => iWorldFault x A W B (Sh.Rd.below hr hB hW) (Nat.le_trans hB hW.size) hT
  have HT : Hid (worldF x = 0 → ∀ W, Below w.heap.size w W → Calls Tryz.prog 21 #[.agg A] W fun e w' => e = .returned (.string (SB (worldT x))) ∧ Below W.heap.size W w') := fun hF W hW => iTextOf x A W B (Sh.Rd.below hr hB hW) (Nat.le_trans hB hW.size) hF hT (ht.below hW)
  have HV : Hid ((worldF x ≠ 0 → wtS x = { data := #[] }) ∧ (worldF x = 0 → wtS x = SB (worldT x))) := ⟨fun h => if_neg h, fun h => if_pos h⟩
  clear hr ht
  generalize wtS x = V at *
  generalize worldT x = T at *
  generalize worldF x = F at *
  go_enter Tryz.func7, Tryz.ntmps7
  go_upto_region 1 with fail
  obtain ⟨W0, hW0⟩ : ∃ W0, W0 = (w.alloc (.cells A 39)).alloc (.cells #[.int .i64 0, .string { data := #[] }] 32) := ⟨_, rfl⟩
  have hb0 : Below w.heap.size w W0 := by rw [hW0]; exact ((Below.refl _ _).alloc (Nat.le_refl _) _).alloc (by simp) _
  have k0 : ∀ o, W0.cell? ⟨w.heap.size, o, none⟩ = A[o]? := fun o => by rw [hW0, (((Below.refl (w.heap.size + 1) (w.alloc (.cells A 39))).alloc (by simp) (.cells #[.int .i64 0, .string { data := #[] }] 32))).cell (p := ⟨w.heap.size, o, none⟩) (by simp)]; exact bx_al w _ _ o
  have k1 : ∀ o, W0.cell? ⟨w.heap.size + 1, o, none⟩ = (#[.int .i64 0, .string { data := #[] }] : Array Value)[o]? := fun o => by have h := bx_al (w.alloc (.cells A 39)) #[.int .i64 0, .string { data := #[] }] 32 o; rw [← hW0] at h; simpa using h
  have f1 : ∀ o, W0.frozen? ⟨w.heap.size + 1, o, none⟩ = false := fun o => by have h := fx_al (w.alloc (.cells A 39)) #[.int .i64 0, .string { data := #[] }] 32 o; rw [← hW0] at h; simpa using h
  have z1 : w.heap.size + 1 < W0.heap.size := by rw [hW0]; simp
  rw [← hW0]
  clear hW0
  go_wp2_with (first | (refine wpList_load_mid rfl 39 _ rfl _ _ (by rfl) A.toList _ (bx_range k0) Tryz.underlying39 rfl HI.out ?_))
  refine (HC.out _ hb0).mono ?_
  rintro e w1 ⟨rfl, hb1⟩
  have HB : Hid (Below w.heap.size w w1) := hb0.trans (hb1.mono hb0.size)
  replace k0 := bx_below k0 (by omega) hb1
  replace k1 := bx_below k1 z1 hb1
  replace f1 : ∀ o, w1.frozen? ⟨w.heap.size + 1, o, none⟩ = false := fun o => (hb1.frozen (p := ⟨w.heap.size + 1, o, none⟩) z1).trans (f1 o)
  replace z1 := Nat.lt_of_lt_of_le z1 hb1.size
  clear hb1 hb0 HC
  by_cases hF : F = 0
  · have hF1 : (F != 0) = false := by simp [hF]
    have HVV : Hid (V = SB T) := HV.out.2 hF
    clear HV
    have HT2 := HT.out hF
    subst hF
    go_wp2_with (first | (refine wpList_load_mid rfl 39 _ rfl _ _ (by rfl) A.toList _ (bx_range k0) Tryz.underlying39 rfl HI.out ?_))
    refine (HT2 _ HB.out).mono ?_
    rintro e w2 ⟨rfl, hb2⟩
    have HB2 : Hid (Below w.heap.size w w2) := HB.out.trans (hb2.mono HB.out.size)
    have k2 := bx_below k1 z1 hb2
    have f2 : ∀ o, w2.frozen? ⟨w.heap.size + 1, o, none⟩ = false := fun o => (hb2.frozen (p := ⟨w.heap.size + 1, o, none⟩) z1).trans (f1 o)
    clear hb2 HT HT2 k0 k1 f1
    go_wp2_with fail
    exact bodyPost_ret (v := .agg #[.int .i64 0, .string (SB T)]) (by simp [results, Tryz.results7, go_sem, k2]) rfl ⟨by rw [HVV.out], (HB2.out.setCell (by simp) _).setCell (by simp) _⟩
  · have hF1 : (F != 0) = true := by simp [hF]
    have HVV : Hid (V = { data := #[] }) := HV.out.1 hF
    clear HT k0 HV
    go_wp2_with fail
    exact bodyPost_ret (v := .agg #[.int .i64 F, .string { data := #[] }]) (by simp [results, Tryz.results7, go_sem, k1]) rfl ⟨by rw [HVV.out], (HB.out.setCell (by simp) _).setCell (by simp) _⟩
end Go.Proofs.YtfpemobkkfobkaaGreatDoor
