/- NewNet by program and model, and the program's copy of a net; nothing that was in memory turns; the condition is that there are at most a million parts. Written by mknet6.py. -/
import Derived.Test.YtlfncadngcjdjaaRows
import Derived.Test.YtlfncadngcjdjaaBase
import Derived.Test.YtlfncadngcjdjaaBytes
import Derived.Test.YtlfncadngcjdjaaMem
import Derived.Test.YtlfncadngcjdjaaMemOpen
import Derived.Test.YtlfncadngcjdjaaMemRow
import Derived.Test.YtlfncadngcjdjaaHBase
import Derived.Test.YtlfncadngcjdjaaHMark
import Derived.Test.YtlfncadngcjdjaaBox
import Derived.Test.YtlfncadngcjdjaaSubBox
import Derived.Test.YtlfncadngcjdjaaAgg
import Derived.Test.YtlfncadngcjdjaaElMark
import Derived.Test.YtlfncadngcjdjaaMSegs
import Derived.Test.YtlfncadngcjdjaaRegionU
import Derived.Test.YtlfncadngcjdjaaHSegs
import Derived.Test.YtlfncadngcjdjaaAppBytes
import Derived.Test.YtlfncadngcjdjaaApp
import Derived.Test.YtlfncadngcjdjaaMemApp
import Derived.Test.YtlfncadngcjdjaaSeg
import Derived.Test.YtlfncadngcjdjaaSegFS
import Derived.Test.YtlfncadngcjdjaaSegFI
import Derived.Test.YtlfncadngcjdjaaStrip
import Derived.Test.YtlfncadngcjdjaaRegS
import Derived.Test.YtlfncadngcjdjaaHBool
import Derived.Test.YtlfncadngcjdjaaHSegT
import Derived.Test.YtlfncadngcjdjaaNetSeg
import Derived.Test.YtlfncadngcjdjaaNetDef
import Derived.Test.YtlfncadngcjdjaaNetSpF
import Derived.Test.YtlfncadngcjdjaaNetImF
import Derived.Test.YtlfncadngcjdjaaHNet
import Derived.Test.YtlfncadngcjdjaaSegR
import Derived.Test.YtlfncadngcjdjaaNetBx
import Derived.Test.YtlfncadngcjdjaaNetR
import Derived.Test.YtlfncadngcjdjaaNetImC
import Derived.Test.YtlfncadngcjdjaaNetSpC
import Derived.Test.YtlfncadngcjdjaaRegionQ
import Derived.Deep.RegionHeld3
import Derived.Deep.DeepCutAuto
import Derived.Deep.DeepMust
import Derived.Deep.MidRow
namespace Go.Proofs.Ytlfncadngcjdjaa
open Go.RowKit
set_option linter.unusedVariables false
set_option maxRecDepth 8000
def newV (dead : List Bool) : DNR := if dead.length = 3 then (0, zSg, ([], dead, ()), ()) else badN 1
set_option maxHeartbeats 2000000 in
theorem iNewNet (t : TypeId) (dead : List Bool) (v : Value) (w : World) (B : Nat) (hd : (bls t).Rd w B dead [v]) (hB : B ≤ w.heap.size) :
    Calls Try.prog 25 #[v] w fun e w' => ∃ N : Array Value, e = .returned (.agg N) ∧ Own w' w.heap.size w'.heap.size (shNR 69) (newV dead) N.toList ∧ Below w.heap.size w w' := by
  obtain ⟨da, dcap, rfl, hdm, -⟩ := rd_bls hd
  have kR := bx_al w #[.int .i64 0, .int .i64 0, .int .i64 0, .bool false, .bool false, .bool false, .int .i64 0, .int .i64 0, .int .i64 0, .int .i64 0, .int .i64 0, .int .i64 0, .slice none 0 0, .slice none 0 0, .slice none 0 0] 33
  have fR := fx_al w #[.int .i64 0, .int .i64 0, .int .i64 0, .bool false, .bool false, .bool false, .int .i64 0, .int .i64 0, .int .i64 0, .int .i64 0, .int .i64 0, .int .i64 0, .slice none 0 0, .slice none 0 0, .slice none 0 0] 33
  have HB : Hid (Below w.heap.size w (w.alloc (.cells #[.int .i64 0, .int .i64 0, .int .i64 0, .bool false, .bool false, .bool false, .int .i64 0, .int .i64 0, .int .i64 0, .int .i64 0, .int .i64 0, .int .i64 0, .slice none 0 0, .slice none 0 0, .slice none 0 0] 33))) := (Below.refl _ _).alloc (Nat.le_refl _) _
  by_cases h3 : dead.length = 3
  · have HV : Hid (newV dead = (0, zSg, ([], dead, ()), ())) := if_pos h3
    have HD : Hid (∀ W, Below w.heap.size w W → Calls Try.prog 45 #[.slice da 3 dcap] W fun e w' => e = .returned (.agg (arr3 dead)) ∧ Below W.heap.size W w') := fun W hW => by have h := iDeadOf t dead _ W B (hd.below hB hW) (Nat.le_trans hB hW.size) h3; rw [h3] at h; exact h
    have HC : Hid (∀ W, Calls Try.prog 44 #[.agg (arr3 dead), .slice none 0 0] W fun e w' => ∃ N : Array Value, e = .returned (.agg N) ∧ NetP 69 w' W.heap.size [] dead N ∧ Below W.heap.size W w') := fun W => iCarriedBy dead [] (.slice none 0 0) W 0 ⟨none, 0, rfl, ⟨Nat.le_refl _, by decide⟩, fun _ => rfl, 0, 0, fun h => absurd rfl h, fun i h => by simp at h⟩ (Nat.zero_le _) h3 (by simp) (by simp) (by simp)
    rw [h3]
    clear hd hdm
    generalize arr3 dead = D at *
    go_enter Try.func25, Try.ntmps25
    go_wp2_with fail
    refine (HD.out _ HB.out).mono ?_
    rintro e w1 ⟨rfl, hb⟩
    replace kR := bx_below kR (by simp) hb
    replace fR := bxF fR hb (by simp)
    have z0 : w.heap.size < w1.heap.size := by have := hb.size; simp at this; omega
    replace HB : Hid (Below w.heap.size w w1) := HB.out.trans (hb.mono HB.out.size)
    clear hb HD
    go_wp2_with fail
    refine (HC.out _).mono ?_
    rintro e w2 ⟨N, rfl, hnp, hb⟩
    have hz2 := hb.size
    have HO : Hid (Own w2 w1.heap.size w2.heap.size (shNR 69) (0, zSg, ([], dead, ()), ()) (.int .i64 0 :: (zSc ++ N.toList))) := own_okN hnp hb.size
    obtain ⟨m, a, a', c, c', e, -⟩ := hnp
    rw [h3] at e
    subst e
    replace kR := bx_below kR z0 hb
    replace fR := bxF fR hb z0
    replace HB : Hid (Below w.heap.size w w2) := HB.out.trans (hb.mono HB.out.size)
    clear hb HC
    obtain ⟨N15, hN⟩ : ∃ N : Array Value, N = #[.int .i64 0, .int .i64 0, .int .i64 0, .bool false, .bool false, .bool false, .int .i64 0, .int .i64 0, .int .i64 0, .int .i64 0, .int .i64 0, .int .i64 0, .slice none 0 0, .slice a ([] : List DSegm).length c, .slice a' 3 c'] := ⟨_, rfl⟩
    have HN15 : Hid _ := hN
    have hNz : N15.size = 15 := by rw [hN]; rfl
    have HNZ15 : Hid (N15.size = 15) := hNz
    have HIN15 : Hid ((Try.prog.info? 33).map (·.size) = some N15.size) := by show _ = _; rw [hNz]; exact info_NR
    have HONE15 : Hid (N15.all (·.oneCell') = true) := by show _ = _; rw [hN]; simp [Value.oneCell']
    clear hN hNz
    have HTH : Hid (w2.there (w.heap.size) 0 N15.size) := bx_there kR fR (by rw [HNZ15.out]; rfl)
    have HKR : Hid (∀ o, (w2.setCells (w.heap.size) 0 N15.toList).cell? ⟨w.heap.size, o, none⟩ = N15[o]?) := bx_setCells kR (by rw [HNZ15.out]; rfl)
    clear kR fR
    go_wp2_with (first | (refine wpList_store_mid rfl 33 _ _ rfl _ _ N15 (by rfl) (by rw [HN15.out]; rfl) HTH.out HIN15.out HONE15.out ?_))
    refine bodyPost_ret (results_box Try.results25 _ _ _ N15 _ (by rfl) HKR.out Try.underlying33 rfl (by exact HIN15.out)) rfl ⟨N15, rfl, ?_, ?_⟩
    · rw [setCells_size, HN15.out]
      exact (Own.keep (by rw [HV.out]; exact HO.out) (fun b h1 h2 => setCells_block (by omega) _ _ _)).mono (by omega) (Nat.le_refl _)
    · exact setCells_below (by omega) _ _ _ _ (HB.out)
  · have HV : Hid (newV dead = badN 1) := if_neg h3
    have h3' : ((dead.length : Int) != 3) = true := by simp; omega
    have h3'' : ((dead.length : Int) == 3) = false := by simp; omega
    clear hd
    generalize dead.length = m at *
    go_enter Try.func25, Try.ntmps25
    go_upto_region 1 with fail
    have z0 : w.heap.size < (w.alloc (.cells #[.int .i64 0, .int .i64 0, .int .i64 0, .bool false, .bool false, .bool false, .int .i64 0, .int .i64 0, .int .i64 0, .int .i64 0, .int .i64 0, .int .i64 0, .slice none 0 0, .slice none 0 0, .slice none 0 0] 33)).heap.size := by simp
    generalize hWW : w.alloc (.cells #[.int .i64 0, .int .i64 0, .int .i64 0, .bool false, .bool false, .bool false, .int .i64 0, .int .i64 0, .int .i64 0, .int .i64 0, .int .i64 0, .int .i64 0, .slice none 0 0, .slice none 0 0, .slice none 0 0] 33) = W1 at kR fR HB z0 ⊢
    clear hWW
    obtain ⟨N15, hN⟩ : ∃ N : Array Value, N = #[.int .i64 1, .int .i64 0, .int .i64 0, .bool false, .bool false, .bool false, .int .i64 0, .int .i64 0, .int .i64 0, .int .i64 0, .int .i64 0, .int .i64 0, .slice none 0 0, .slice none 0 0, .slice none 0 0] := ⟨_, rfl⟩
    have HN15 : Hid _ := hN
    have hNz : N15.size = 15 := by rw [hN]; rfl
    have HNZ15 : Hid (N15.size = 15) := hNz
    have HIN15 : Hid ((Try.prog.info? 33).map (·.size) = some N15.size) := by show _ = _; rw [hNz]; exact info_NR
    have HONE15 : Hid (N15.all (·.oneCell') = true) := by show _ = _; rw [hN]; simp [Value.oneCell']
    clear hN hNz
    have HTH : Hid (W1.there (w.heap.size) 0 N15.size) := bx_there kR fR (by rw [HNZ15.out]; rfl)
    have HKR : Hid (∀ o, (W1.setCells (w.heap.size) 0 N15.toList).cell? ⟨w.heap.size, o, none⟩ = N15[o]?) := bx_setCells kR (by rw [HNZ15.out]; rfl)
    clear kR fR
    go_wp2_with (first | (refine wpList_store_mid rfl 33 _ _ rfl _ _ N15 (by rfl) (by rw [HN15.out]; rfl) HTH.out HIN15.out HONE15.out ?_))
    refine bodyPost_ret (results_box Try.results25 _ _ _ N15 _ (by rfl) HKR.out Try.underlying33 rfl (by exact HIN15.out)) rfl ⟨N15, rfl, ?_, ?_⟩
    · rw [setCells_size, HN15.out]
      exact (Own.keep (by rw [HV.out]; exact own_badN _ W1 (w.heap.size + 1) W1.heap.size (by decide) z0) (fun b h1 h2 => setCells_block (by omega) _ _ _)).mono (by omega) (Nat.le_refl _)
    · exact setCells_below (by omega) _ _ _ _ (HB.out)
set_option maxHeartbeats 2000000 in
theorem sNewNet (t : TypeId) (dead : List Bool) (v : Value) (w : World) (B : Nat) (hd : (bls t).Rd w B dead [v]) (hB : B ≤ w.heap.size) :
    Calls Try.prog 23 #[v] w fun e w' => ∃ N : Array Value, e = .returned (.agg N) ∧ Own w' w.heap.size w'.heap.size (shNR 4) (newV dead) N.toList ∧ Below w.heap.size w w' := by
  obtain ⟨da, dcap, rfl, hdm, -⟩ := rd_bls hd
  have kR := bx_al w #[.int .i64 0, .int .i64 0, .int .i64 0, .bool false, .bool false, .bool false, .int .i64 0, .int .i64 0, .int .i64 0, .int .i64 0, .int .i64 0, .int .i64 0, .slice none 0 0, .slice none 0 0, .slice none 0 0] 33
  have fR := fx_al w #[.int .i64 0, .int .i64 0, .int .i64 0, .bool false, .bool false, .bool false, .int .i64 0, .int .i64 0, .int .i64 0, .int .i64 0, .int .i64 0, .int .i64 0, .slice none 0 0, .slice none 0 0, .slice none 0 0] 33
  have HB : Hid (Below w.heap.size w (w.alloc (.cells #[.int .i64 0, .int .i64 0, .int .i64 0, .bool false, .bool false, .bool false, .int .i64 0, .int .i64 0, .int .i64 0, .int .i64 0, .int .i64 0, .int .i64 0, .slice none 0 0, .slice none 0 0, .slice none 0 0] 33))) := (Below.refl _ _).alloc (Nat.le_refl _) _
  by_cases h3 : dead.length = 3
  · have HV : Hid (newV dead = (0, zSg, ([], dead, ()), ())) := if_pos h3
    obtain ⟨-, db, doff, hda, hdb, hdc⟩ := dead_at hd h3
    subst hda
    rw [h3]
    have HDC : Hid (∀ W, Below w.heap.size w W → ∀ p, p < 3 → W.cell? ⟨db, doff + p, none⟩ = some (.bool (dead.getD p false))) := fun W hW p hp => (hW.cell (p := ⟨db, doff + p, none⟩) (show db < _ by omega)).trans (hdc p hp)
    have HLN : Hid (∀ u W, (bls 4).Rd W W.heap.size dead [u] → ∃ a c, u = .slice a 3 c) := fun u W h => by obtain ⟨a, c, e⟩ := row_form h; simp only [List.cons.injEq, and_true, h3] at e; exact ⟨a, c, e⟩
    clear hd hdm hdc
    go_enter Try.func23, Try.ntmps23
    go_upto_region 1 with fail
    have z0 : w.heap.size < (w.alloc (.cells #[.int .i64 0, .int .i64 0, .int .i64 0, .bool false, .bool false, .bool false, .int .i64 0, .int .i64 0, .int .i64 0, .int .i64 0, .int .i64 0, .int .i64 0, .slice none 0 0, .slice none 0 0, .slice none 0 0] 33)).heap.size := by simp
    generalize hWW : w.alloc (.cells #[.int .i64 0, .int .i64 0, .int .i64 0, .bool false, .bool false, .bool false, .int .i64 0, .int .i64 0, .int .i64 0, .int .i64 0, .int .i64 0, .int .i64 0, .slice none 0 0, .slice none 0 0, .slice none 0 0] 33) = W1 at kR fR HB z0 ⊢
    clear hWW
    have HOM : Hid ((W1.alloc (.cells #[] 4)).ownsRow W1.heap.size 4 1 (.slice (some ⟨W1.heap.size, 0, none⟩) 0 0) 0 []) := World.ownsRow_made W1 #[] 0 (Nat.le_refl _) (by decide) rfl
    have HDC2 : Hid (∀ p, p < 3 → (W1.alloc (.cells #[] 4)).cell? ⟨db, doff + p, none⟩ = some (.bool (dead.getD p false))) := HDC.out _ (HB.out.alloc HB.out.size _)
    have HX2 : Hid (∀ (w2 : World) (u : Value), Own w2 W1.heap.size w2.heap.size (bls 4) dead [u] → Below W1.heap.size (W1.alloc (.cells #[] 4)) w2 → ∃ (sa : Option Addr) (sc : Nat) (N15 : Array Value), u = .slice sa 3 sc ∧ Hid (N15 = #[.int .i64 0, .int .i64 0, .int .i64 0, .bool false, .bool false, .bool false, .int .i64 0, .int .i64 0, .int .i64 0, .int .i64 0, .int .i64 0, .int .i64 0, .slice none 0 0, .slice none 0 0, .slice sa 3 sc]) ∧ Hid (w2.there w.heap.size 0 N15.size) ∧ Hid (∀ o, (w2.setCells w.heap.size 0 N15.toList).cell? ⟨w.heap.size, o, none⟩ = N15[o]?) ∧ Hid ((Try.prog.info? 33).map (·.size) = some N15.size) ∧ Hid (N15.all (·.oneCell') = true) ∧ Hid (Own (w2.setCells w.heap.size 0 N15.toList) w.heap.size (w2.setCells w.heap.size 0 N15.toList).heap.size (shNR 4) (newV dead) N15.toList) ∧ Hid (Below w.heap.size w (w2.setCells w.heap.size 0 N15.toList))) := fun w2 u h1 h2 => by
      obtain ⟨sa, sc, e⟩ := HLN.out u w2 (h1.rd (Nat.le_refl _))
      have h4 : Below W1.heap.size W1 w2 := Below.trans ((Below.refl _ _).alloc (Nat.le_refl _) _) h2
      have kR2 := bx_below kR z0 h4
      have fR2 := bxF fR h4 z0
      subst e
      have hO : Own w2 W1.heap.size w2.heap.size (shNR 4) (newV dead) (.int .i64 0 :: (zSc ++ [.slice none 0 0, .slice sa 3 sc])) := by rw [HV.out]; exact own_NR (by decide) (own_zSg w2 _ W1.heap.size) (own_Net (own_segs0 w2 _ W1.heap.size) h1 (Nat.le_refl _) h4.size) (Nat.le_refl _) h4.size
      refine ⟨sa, sc, _, rfl, rfl, bx_there kR2 fR2 rfl, bx_setCells kR2 rfl, info_NR, by show _ = _; simp [Value.oneCell'], ?_, ?_⟩
      · show Own _ _ _ _ _ _
        rw [setCells_size]
        exact (Own.keep hO (fun b h1 h2 => setCells_block (by omega) _ _ _)).mono (by omega) (Nat.le_refl _)
      · exact setCells_below (Nat.le_refl _) _ _ _ _ (HB.out.trans (h4.mono HB.out.size))
    clear HLN
    go_wp2_with (first | (at_builtin; refine app_bl (W1.alloc (.cells #[] 4)) rfl _ _ rfl W1.heap.size W1.heap.size (by rfl) HOM.out db doff dcap dead h3 (by rfl) HDC2.out (by simp) ?_; intro u w2 ho2 hb2; obtain ⟨sa, sc, N15, eu, HN15, HTH, HKR, HIN15, HONE15, HOO, HBB⟩ := HX2.out w2 u ho2 hb2; subst eu; clear ho2 hb2) | (refine wpList_store_mid rfl 33 _ _ rfl _ _ N15 (by rfl) (by rw [HN15.out]; rfl) HTH.out HIN15.out HONE15.out ?_))
    refine bodyPost_ret (results_box Try.results23 _ _ _ N15 _ (by rfl) HKR.out Try.underlying33 rfl (by exact HIN15.out)) rfl ⟨N15, rfl, HOO.out, HBB.out⟩
  · have HV : Hid (newV dead = badN 1) := if_neg h3
    have h3' : ((dead.length : Int) != 3) = true := by simp; omega
    have h3'' : ((dead.length : Int) == 3) = false := by simp; omega
    clear hd
    generalize dead.length = m at *
    go_enter Try.func23, Try.ntmps23
    go_upto_region 1 with fail
    have z0 : w.heap.size < (w.alloc (.cells #[.int .i64 0, .int .i64 0, .int .i64 0, .bool false, .bool false, .bool false, .int .i64 0, .int .i64 0, .int .i64 0, .int .i64 0, .int .i64 0, .int .i64 0, .slice none 0 0, .slice none 0 0, .slice none 0 0] 33)).heap.size := by simp
    generalize hWW : w.alloc (.cells #[.int .i64 0, .int .i64 0, .int .i64 0, .bool false, .bool false, .bool false, .int .i64 0, .int .i64 0, .int .i64 0, .int .i64 0, .int .i64 0, .int .i64 0, .slice none 0 0, .slice none 0 0, .slice none 0 0] 33) = W1 at kR fR HB z0 ⊢
    clear hWW
    obtain ⟨N15, hN⟩ : ∃ N : Array Value, N = #[.int .i64 1, .int .i64 0, .int .i64 0, .bool false, .bool false, .bool false, .int .i64 0, .int .i64 0, .int .i64 0, .int .i64 0, .int .i64 0, .int .i64 0, .slice none 0 0, .slice none 0 0, .slice none 0 0] := ⟨_, rfl⟩
    have HN15 : Hid _ := hN
    have hNz : N15.size = 15 := by rw [hN]; rfl
    have HNZ15 : Hid (N15.size = 15) := hNz
    have HIN15 : Hid ((Try.prog.info? 33).map (·.size) = some N15.size) := by show _ = _; rw [hNz]; exact info_NR
    have HONE15 : Hid (N15.all (·.oneCell') = true) := by show _ = _; rw [hN]; simp [Value.oneCell']
    clear hN hNz
    have HTH : Hid (W1.there (w.heap.size) 0 N15.size) := bx_there kR fR (by rw [HNZ15.out]; rfl)
    have HKR : Hid (∀ o, (W1.setCells (w.heap.size) 0 N15.toList).cell? ⟨w.heap.size, o, none⟩ = N15[o]?) := bx_setCells kR (by rw [HNZ15.out]; rfl)
    clear kR fR
    go_wp2_with (first | (refine wpList_store_mid rfl 33 _ _ rfl _ _ N15 (by rfl) (by rw [HN15.out]; rfl) HTH.out HIN15.out HONE15.out ?_))
    refine bodyPost_ret (results_box Try.results23 _ _ _ N15 _ (by rfl) HKR.out Try.underlying33 rfl (by exact HIN15.out)) rfl ⟨N15, rfl, ?_, ?_⟩
    · rw [setCells_size, HN15.out]
      exact (Own.keep (by rw [HV.out]; exact own_badN _ W1 (w.heap.size + 1) W1.heap.size (by decide) z0) (fun b h1 h2 => setCells_block (by omega) _ _ _)).mono (by omega) (Nat.le_refl _)
    · exact setCells_below (by omega) _ _ _ _ (HB.out)
theorem newV_tot {dead : List Bool} (h : dead.length ≤ 1048576) : totNR (newV dead) ≤ 1048576 := by
  unfold newV; split
  · show 0 + (totSegms [] + dead.length) ≤ _; have : totSegms [] = 0 := rfl; omega
  · rw [tot_badN]; omega
theorem iNewNetA (l : List Bool) (v : Value) (w : World) (B : Nat) (hd : (bls 4).Rd w B l [v]) (hT : l.length ≤ 1048576) (hB : B ≤ w.heap.size) :
    Calls Try.prog 25 #[v] w fun e w' => ∃ N : Array Value, e = .returned (.agg N) ∧ Own w' w.heap.size w'.heap.size (shNR 69) (newV l) N.toList ∧ Below w.heap.size w w' := iNewNet _ l v w B hd hB
theorem sNewNetA (l : List Bool) (v : Value) (w : World) (B : Nat) (hd : (bls 4).Rd w B l [v]) (hT : l.length ≤ 1048576) (hB : B ≤ w.heap.size) :
    Calls Try.prog 23 #[v] w fun e w' => ∃ N : Array Value, e = .returned (.agg N) ∧ Own w' w.heap.size w'.heap.size (shNR 4) (newV l) N.toList ∧ Below w.heap.size w w' := sNewNet _ l v w B hd hB
end Go.Proofs.Ytlfncadngcjdjaa
